/- A dictionary that came in: how big it is. -/
import Derived.Test.YtplpgcbdbmfffaaIlD
import Derived.Test.YtplpgcbdbmfffaaEnt2
namespace Go.Proofs.Ytplpgcbdbmfffaa
open Go.RowKit
/-- What is left when n are taken, or -1. -/
def szV (l : Int) (n : Nat) : Int := if (n : Int) ≤ l then l - n else -1
def ksz (es : List Ent) : Nat := (es.map fun e => e.key.size).sum
theorem ksz_next {es : List Ent} {k : Nat} {e : Ent} (h : es[k]? = some e) : ksz (es.take (k + 1)) = ksz (es.take k) + e.key.size := by
  have hk : k < es.length := by
    rcases Nat.lt_or_ge k es.length with h2 | h2
    · exact h2
    · rw [List.getElem?_eq_none h2] at h; cases h
  rw [List.getElem?_eq_getElem hk] at h
  injection h with h
  unfold ksz
  rw [List.take_succ_eq_append_getElem hk, h, List.map_append, List.sum_append]
  simp
theorem ksz_le (es : List Ent) (k : Nat) : ksz (es.take k) ≤ ksz es := by
  unfold ksz
  have h : (es.map fun e => e.key.size).sum = ((es.take k).map fun e => e.key.size).sum + ((es.drop k).map fun e => e.key.size).sum := by
    rw [← List.sum_append, ← List.map_append, List.take_append_drop]
  omega
theorem ksz_mem {es : List Ent} {e : Ent} (h : e ∈ es) : e.key.size ≤ ksz es := by
  obtain ⟨k, hk⟩ := List.mem_iff_getElem?.1 h
  have h1 := ksz_next hk
  have h2 := ksz_le es (k + 1)
  omega
/-- The slice that came in reads as these entries. -/
def RsE (w : World) (a : Option Addr) (cap : Nat) (es : List Ent) : Prop := es.length ≤ cap ∧ (a = none → es = [] ∧ cap = 0) ∧ ∀ (j : Nat) (e : Ent), es[j]? = some e → ∃ g off, a = some ⟨g, off, none⟩ ∧ g < w.heap.size ∧ w.cell? ⟨g, off + j * 4, none⟩ = some (.string e.key) ∧ w.cell? ⟨g, off + j * 4 + 1, none⟩ = some (.int .i64 e.hash) ∧ w.cell? ⟨g, off + j * 4 + 2, none⟩ = some (.int .i64 e.val) ∧ w.cell? ⟨g, off + j * 4 + 3, none⟩ = some (.bool e.live)
theorem RsE.below {w w' : World} {a : Option Addr} {cap : Nat} {es : List Ent} (h : RsE w a cap es) (hb : Below w.heap.size w w') : RsE w' a cap es := by
  refine ⟨h.1, h.2.1, fun j e hj => ?_⟩
  obtain ⟨g, off, h1, h2, h3, h4, h5, h6⟩ := h.2.2 j e hj
  refine ⟨g, off, h1, Nat.lt_of_lt_of_le h2 hb.size, ?_, ?_, ?_, ?_⟩
  · rw [hb.cell h2]; exact h3
  · rw [hb.cell h2]; exact h4
  · rw [hb.cell h2]; exact h5
  · rw [hb.cell h2]; exact h6
/-- Texts of keys are as long as texts are. -/
def KeyM (es : List Ent) : Prop := ∀ e ∈ es, e.key.size ≤ maxLen
section
variable {ops : Array Oper} {rest : List Oper} {o : Oper} {a : Act} {w : World} {Q : Exit → Act → World → Prop}
theorem ldL (hg : o.guard = none) (x : Operand) (ho : o.op = .load 91 x) (g off : Nat) (p q r s : Value) (hx : a.eval x = .pointer (some ⟨g, off, none⟩)) (hl : Lies w g off #[p, q, r, s]) (k : wpList Try.prog ops Q rest (a.put o.dst (.agg #[p, q, r, s])) w) : wpList Try.prog ops Q (o :: rest) a w :=
  (puts_load 91 x ho g off #[p, q, r, s] hx hl _ Try.underlying91 rfl (by kernel_rfl)).gives.plain hg k
end
theorem szIntS_any (n : Nat) (a : Option Addr) (cap : Nat) (l : Int) (w : World) (h0 : 0 ≤ l) (h1 : l ≤ 1048576) (hn : n ≤ maxLen) : Calls Try.prog 57 #[.slice a n cap, .int .i64 l] w fun e w' => e = .returned (.int .i64 (szV l n)) ∧ w = w' := by
  unfold maxLen at hn
  by_cases h : (n : Int) ≤ l
  · have e1 : szV l n = l - n := if_pos h
    rw [e1]
    have k1 : 0 ≤ l - (n : Int) := by omega
    go_enter Try.func57, Try.ntmps57
    go_wp2_with fail
    all_goals first | omega | skip
    all_goals go_ret
    all_goals exact ⟨by go_num, rfl⟩
  · have e1 : szV l n = -1 := if_neg h
    rw [e1]
    have k1 : l - (n : Int) < 0 := by omega
    go_enter Try.func57, Try.ntmps57
    go_wp2_with fail
    all_goals first | omega | skip
    all_goals go_ret
    all_goals exact ⟨rfl, rfl⟩
theorem szEntry_any (k : ByteArray) (hs v : Int) (lv : Bool) (l : Int) (w : World) (h0 : 0 ≤ l) (h1 : l ≤ 1048576) (hn : k.size ≤ maxLen) : Calls Try.prog 90 #[.agg #[.string k, .int .i64 hs, .int .i64 v, .bool lv], .int .i64 l] w fun e w' => e = .returned (.int .i64 (szV l k.size)) ∧ Below w.heap.size w w' := by
  unfold maxLen at hn
  have HB := Lib.hid (show Below w.heap.size w (w.alloc (Obj.cells #[.string k, .int .i64 hs, .int .i64 v, .bool lv] 91)) from (Below.refl _ _).alloc (Nat.le_refl _) _)
  by_cases h : (k.size : Int) ≤ l
  · have e1 : szV l k.size = l - k.size := if_pos h
    rw [e1]
    have k1 : 0 ≤ l - (k.size : Int) := by omega
    go_enter Try.func90, Try.ntmps90
    go_wp2_with fail
    all_goals first | omega | skip
    all_goals go_ret
    all_goals exact ⟨by go_num, HB.out⟩
  · have e1 : szV l k.size = -1 := if_neg h
    rw [e1]
    have k1 : l - (k.size : Int) < 0 := by omega
    go_enter Try.func90, Try.ntmps90
    go_wp2_with fail
    all_goals first | omega | skip
    all_goals go_ret
    all_goals exact ⟨rfl, HB.out⟩
set_option maxRecDepth 20000 in
set_option maxHeartbeats 1000000 in
theorem szEntryS_any (es : List Ent) (a : Option Addr) (cap : Nat) (l : Int) (w : World) (h : RsE w a cap es) (hk : KeyM es) (h0 : 0 ≤ l) (h1 : l ≤ 1048576) (hn : cap ≤ maxLen) : Calls Try.prog 58 #[.slice a es.length cap, .int .i64 l] w fun e w' => e = .returned (.int .i64 (szV l (es.length + ksz es))) ∧ Below w.heap.size w w' := by
  have HR := Lib.hid h
  have HK := Lib.hid hk
  have hcap := h.1
  unfold maxLen at hn
  clear h hk
  generalize hne : es.length = n at *
  have HN := Lib.hid hne
  clear hne
  by_cases hf : (n : Int) ≤ l
  · have k1 : 0 ≤ l - (n : Int) := by omega
    go_enter Try.func58, Try.ntmps58
    go_wp2_with fail
    go_loopw [1, 5] (fun v i wr => ∃ k : Nat, k ≤ n ∧ i = .int .i64 k ∧ v = .int .i64 (l - n - (ksz (es.take k) : Nat)) ∧ ((ksz (es.take k) : Nat) : Int) ≤ l - n ∧ Hid (Below w.heap.size w wr)) (fun _ i _ => n - (intOf i).toNat)
    case atStart => exact ⟨0, by omega, rfl, by simp [ksz], by simp [ksz]; omega, Lib.hid (Below.refl _ _)⟩
    case round =>
      obtain ⟨k, hk, rfl, rfl, hs, HI⟩ := hrel
      by_cases hlt : k < n
      · obtain ⟨e, he⟩ : ∃ e, es[k]? = some e := ⟨_, List.getElem?_eq_getElem (by rw [HN.out]; exact hlt)⟩
        obtain ⟨g, off, rfl, hb, x0, x1, x2, x3⟩ := (HR.out.below HI.out).2.2 k e he
        have q1 : (k : Int) < (n : Int) := by omega
        have q0 : 0 ≤ (k : Int) := by omega
        have HL := Lib.hid (lies4 x0 x1 x2 x3)
        have hnx := ksz_next he
        have hle := ksz_le es (k + 1)
        have HS := Lib.hid (fun w => szEntry_any e.key e.hash e.val e.live (l - n - (ksz (es.take k) : Nat)) w (by omega) (by omega) (HK.out e (List.mem_of_getElem? he)))
        clear x0 x1 x2 x3 he
        by_cases hf2 : ((ksz (es.take (k + 1)) : Nat) : Int) ≤ l - n
        · have e1 : szV (l - n - (ksz (es.take k) : Nat)) e.key.size = l - n - (ksz (es.take (k + 1)) : Nat) := by unfold szV; rw [if_pos (by omega), hnx]; omega
          have k2 : 0 ≤ l - n - ((ksz (es.take (k + 1)) : Nat) : Int) := by omega
          rw [e1] at HS
          clear hnx e1
          generalize hs2 : ksz (es.take (k + 1)) = s2 at *
          have HS2 := Lib.hid hs2
          clear hs2
          generalize ksz (es.take k) = s1 at *
          go_wp2_with (first | (refine ldL (o := ⟨some 21, _, _, _, _, _⟩) rfl (.tmp 20) rfl g (off + k * 4) (.string e.key) (.int .i64 e.hash) (.int .i64 e.val) (.bool e.live) rfl HL.out ?_))
          refine (HS.out _).mono ?_
          rintro r w2 ⟨rfl, hb2⟩
          have HI2 := Lib.hid (HI.out.trans (hb2.mono HI.out.size))
          clear hb2
          go_wp2_with fail
          go_roundw
          case rel => exact ⟨k + 1, by omega, by go_num, by rw [HS2.out], by rw [HS2.out]; omega, HI2⟩
          case measure => simp [intOf]; try omega
        · have e1 : szV (l - n - (ksz (es.take k) : Nat)) e.key.size = -1 := by unfold szV; rw [if_neg (by omega)]
          have HE := Lib.hid (show szV l (n + ksz es) = -1 by unfold szV; rw [if_neg (by omega)])
          rw [e1] at HS
          clear hnx e1
          generalize ksz (es.take (k + 1)) = s2 at *
          generalize ksz (es.take k) = s1 at *
          go_wp2_with (first | (refine ldL (o := ⟨some 21, _, _, _, _, _⟩) rfl (.tmp 20) rfl g (off + k * 4) (.string e.key) (.int .i64 e.hash) (.int .i64 e.val) (.bool e.live) rfl HL.out ?_))
          refine (HS.out _).mono ?_
          rintro r w2 ⟨rfl, hb2⟩
          have HI2 := Lib.hid (HI.out.trans (hb2.mono HI.out.size))
          clear hb2
          go_wp2_with fail
          go_ret
          exact ⟨by rw [HE.out]; rfl, HI2.out⟩
      · obtain rfl : k = n := by omega
        have HE := Lib.hid (show szV l (k + ksz es) = l - k - (ksz (es.take k) : Nat) by
          have : es.take k = es := List.take_of_length_le (by rw [HN.out]; exact Nat.le_refl _)
          rw [this] at hs ⊢
          unfold szV; rw [if_pos (by omega)]; omega)
        clear hlt
        go_wp2_with fail
        go_ret
        exact ⟨by rw [HE.out]; rfl, HI.out⟩
  · have e1 : szV l (n + ksz es) = -1 := if_neg (by omega)
    rw [e1]
    have k1 : l - (n : Int) < 0 := by omega
    go_enter Try.func58, Try.ntmps58
    go_wp2_with fail
    all_goals first | omega | skip
    all_goals go_ret
    all_goals exact ⟨rfl, Below.refl _ _⟩
end Go.Proofs.Ytplpgcbdbmfffaa
