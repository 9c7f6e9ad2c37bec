/- A dictionary that came in, made the program's; whether two are the same. -/
import Derived.Test.YtplpgcbdbmfffaaDeA
import Derived.Test.YtplpgcbdbmfffaaEnds
namespace Go.Proofs.Ytplpgcbdbmfffaa
open Go.RowKit
set_option maxHeartbeats 1000000 in
theorem szDict_any (ix : List Int) (es : List Ent) (a0 a1 : Option Addr) (c0 c1 : Nat) (l : Int) (w : World) (h : RsE w a1 c1 es) (hk : KeyM es) (h0 : 0 ≤ l) (h1 : l ≤ 1048576) (hn : ix.length ≤ maxLen) (hc : c1 ≤ maxLen) : Calls Try.prog 22 #[.agg #[.slice a0 ix.length c0, .slice a1 es.length c1], .int .i64 l] w fun e w' => e = .returned (.int .i64 (szV l (ix.length + (es.length + ksz es)))) ∧ Below w.heap.size w w' := by
  have HS := Lib.hid (fun w => szIntS_any ix.length a0 c0 l w h0 h1 hn)
  have HB0 := Lib.hid (show Below w.heap.size w (w.alloc (Obj.cells #[.slice a0 ix.length c0, .slice a1 es.length c1] 34)) from (Below.refl _ _).alloc (Nat.le_refl _) _)
  by_cases hf : (ix.length : Int) ≤ l
  · have e1 : szV l ix.length = l - ix.length := if_pos hf
    have k1 : 0 ≤ l - (ix.length : Int) := by omega
    have e2 : szV (l - ix.length) (es.length + ksz es) = szV l (ix.length + (es.length + ksz es)) := by
      unfold szV
      by_cases h3 : ((es.length + ksz es : Nat) : Int) ≤ l - ix.length
      · rw [if_pos h3, if_pos (by omega)]; omega
      · rw [if_neg h3, if_neg (by omega)]
    have HE := Lib.hid (fun o => szEntryS_any es a1 c1 (l - ix.length) (w.alloc o) (h.below ((Below.refl _ _).alloc (Nat.le_refl _) _)) hk k1 (by omega) hc)
    rw [e2] at HE
    rw [e1] at HS
    have hr1 : szV l (ix.length + (es.length + ksz es)) ≤ 1048576 := by unfold szV; split <;> omega
    have hr0 : -1 ≤ szV l (ix.length + (es.length + ksz es)) := by unfold szV; split <;> omega
    clear e1 e2 h hk
    generalize szV l (ix.length + (es.length + ksz es)) = r at *
    generalize ix.length = m at *
    generalize es.length = ne at *
    by_cases hr : r < 0
    · obtain rfl : r = -1 := by omega
      go_enter Try.func22, Try.ntmps22
      go_wp2_with fail
      refine (HS.out _).mono ?_
      rintro e w2 ⟨rfl, rfl⟩
      go_wp2_with fail
      refine (HE.out _).mono ?_
      rintro e w2 ⟨rfl, hb2⟩
      have HB2 := Lib.hid (HB0.out.trans (hb2.mono HB0.out.size))
      clear hb2
      go_wp2_with fail
      go_ret
      exact ⟨rfl, HB2.out⟩
    · have hr2 : 0 ≤ r := by omega
      go_enter Try.func22, Try.ntmps22
      go_wp2_with fail
      refine (HS.out _).mono ?_
      rintro e w2 ⟨rfl, rfl⟩
      go_wp2_with fail
      refine (HE.out _).mono ?_
      rintro e w2 ⟨rfl, hb2⟩
      have HB2 := Lib.hid (HB0.out.trans (hb2.mono HB0.out.size))
      clear hb2
      go_wp2_with fail
      go_ret
      exact ⟨rfl, HB2.out⟩
  · have e1 : szV l ix.length = -1 := if_neg hf
    have e2 : szV l (ix.length + (es.length + ksz es)) = -1 := if_neg (by omega)
    rw [e2]
    rw [e1] at HS
    clear h hk e1 e2
    go_enter Try.func22, Try.ntmps22
    go_wp2_with fail
    refine (HS.out _).mono ?_
    rintro e w2 ⟨rfl, rfl⟩
    go_wp2_with fail
    go_ret
    exact ⟨rfl, HB0.out⟩
set_option maxHeartbeats 1000000 in
theorem toEntry_any (k : ByteArray) (h v : Int) (l : Bool) (w : World) : Calls Try.prog 92 #[.agg #[.string k, .int .i64 h, .int .i64 v, .bool l]] w fun e w' => e = .returned (.agg #[.string k, .int .i64 h, .int .i64 v, .bool l]) ∧ Below w.heap.size w w' := by
  go_enter Try.func92, Try.ntmps92
  go_wp2
  refine bodyPost_ret (v := .agg #[.string k, .int .i64 h, .int .i64 v, .bool l]) ?_ rfl ⟨rfl, (((Below.refl _ _).alloc (Nat.le_refl _) _).alloc (by simp) _).alloc (by simp; omega) _⟩
  exact results_cell_row rfl _ _ (w.heap.size + 1) 64 #[.string k, .int .i64 h, .int .i64 v, .bool l] (0, 0) _ rfl ((Blk.new _ _ _ (by simp)).alloc _) Try.underlying64 rfl (by kernel_rfl)
/-- The whole block g holds these entries, as far as the first k. -/
def EnK (w : World) (g n : Nat) (es : List Ent) (k : Nat) : Prop := ∃ cs : Array Value, Blk w g 64 cs ∧ cs.size = n * 4 ∧ ∀ (j : Nat) (e : Ent), j < k → es[j]? = some e → cs[j * 4]? = some (.string e.key) ∧ cs[j * 4 + 1]? = some (.int .i64 e.hash) ∧ cs[j * 4 + 2]? = some (.int .i64 e.val) ∧ cs[j * 4 + 3]? = some (.bool e.live)
theorem EnK.below {w w' : World} {B g n k : Nat} {es : List Ent} (h : EnK w g n es k) (hb : Below B w w') (hg : g < B) : EnK w' g n es k := by
  obtain ⟨cs, h1, h2⟩ := h
  exact ⟨cs, h1.below hb hg, h2⟩
theorem EnK.lt {w : World} {g n k : Nat} {es : List Ent} (h : EnK w g n es k) : g < w.heap.size := by
  obtain ⟨cs, h1, _⟩ := h
  exact h1.lt
theorem EnK.old {w : World} {g n k i : Nat} {es : List Ent} (h : EnK w g n es k) (hi : i < n * 4) : ∃ v, w.cell? ⟨g, i, none⟩ = some v ∧ w.frozen? ⟨g, i, none⟩ = false := by
  obtain ⟨cs, h1, h2, _⟩ := h
  refine ⟨cs[i]'(by omega), ?_, h1.free i⟩
  rw [h1.cell i]
  exact Array.getElem?_eq_getElem (by omega)
theorem EnK.en {w : World} {g : Nat} {es : List Ent} (h : EnK w g es.length es es.length) : En w g es := by
  refine ⟨h.lt, fun j e hj => ?_⟩
  obtain ⟨cs, h1, h2, h3⟩ := h
  have hlt : j < es.length := by
    rcases Nat.lt_or_ge j es.length with h4 | h4
    · exact h4
    · rw [List.getElem?_eq_none h4] at hj; cases hj
  rw [h1.cell, h1.cell, h1.cell, h1.cell]
  exact h3 j e hlt hj
theorem EnK.next {w : World} {g n k : Nat} {es : List Ent} {e : Ent} (h : EnK w g n es k) (hk : k < n) (he : es[k]? = some e) : EnK ((((w.setCell ⟨g, k * 4, none⟩ (.string e.key)).setCell ⟨g, k * 4 + 1, none⟩ (.int .i64 e.hash)).setCell ⟨g, k * 4 + 2, none⟩ (.int .i64 e.val)).setCell ⟨g, k * 4 + 3, none⟩ (.bool e.live)) g n es (k + 1) := by
  obtain ⟨cs, h1, h2, h3⟩ := h
  refine ⟨_, (((h1.set _ _).set _ _).set _ _).set _ _, by simp [h2], fun j e2 hj h5 => ?_⟩
  simp only [Array.getElem?_setIfInBounds, Array.size_setIfInBounds]
  rcases Nat.lt_or_ge j k with h6 | h6
  · obtain ⟨p0, p1, p2, p3⟩ := h3 j e2 h6 h5
    refine ⟨?_, ?_, ?_, ?_⟩
    · rw [if_neg (by omega), if_neg (by omega), if_neg (by omega), if_neg (by omega)]; exact p0
    · rw [if_neg (by omega), if_neg (by omega), if_neg (by omega), if_neg (by omega)]; exact p1
    · rw [if_neg (by omega), if_neg (by omega), if_neg (by omega), if_neg (by omega)]; exact p2
    · rw [if_neg (by omega), if_neg (by omega), if_neg (by omega), if_neg (by omega)]; exact p3
  · obtain rfl : j = k := by omega
    rw [he] at h5; injection h5 with h5; subst h5
    refine ⟨?_, ?_, ?_, ?_⟩
    · rw [if_neg (by omega), if_neg (by omega), if_neg (by omega), if_pos rfl, if_pos (by omega)]
    · rw [if_neg (by omega), if_neg (by omega), if_pos rfl, if_pos (by omega)]
    · rw [if_neg (by omega), if_pos rfl, if_pos (by omega)]
    · rw [if_pos rfl, if_pos (by omega)]
/-- 'make([]Entry, n)'. -/
theorem mkEo {ops : Array Oper} {rest : List Oper} {o : Oper} {a : Act} {w : World} {Q : Exit → Act → World → Prop} (hg : o.guard = none) (l c : Operand) (hop : o.op = Op.makeSlice 25 l c) (n : Nat) (L C : Int) (hl : a.eval l = .int .i64 L) (hc : a.eval c = .int .i64 C) (hL : L = (n : Int)) (hC : C = (n : Int)) (hn : n ≤ 1048576) (es : List Ent)
    (hK : ∀ w', EnK w' w.heap.size n es 0 → Below w.heap.size w w' → wpList Try.prog ops Q rest (a.put o.dst (.slice (some ⟨w.heap.size, 0, none⟩) n n)) w') : wpList Try.prog ops Q (o :: rest) a w := by
  obtain ⟨i, hi1, hi2, hi3, hi4⟩ := info_of (P := Try.prog) (e := 64) (z := .agg #[.string ⟨#[]⟩, .int .i64 0, .int .i64 0, .bool false]) (s := 4) (b := 40) (by kernel_rfl)
  refine wpList_make_full w hg l c 25 hop w.heap.size 64 i (.agg #[.string ⟨#[]⟩, .int .i64 0, .int .i64 0, .bool false]) 4 Try.underlying25 hi1 hi2 hi3 .i64 .i64 L C n hl hc hL hC (by rw [hi4]; omega) (by unfold maxLen; omega) (Nat.le_refl _) ?_
  intro w' ho hgr
  refine hK w' ?_ ((Below.refl _ _).grown hgr (Nat.le_refl _) (fun k hk => by cases hk))
  rcases ho.2 with ⟨h1, _⟩ | ⟨g', cap', cur, hv, _, hh, _, _, hs, _⟩
  · cases h1
  · injection hv with hv1 hv2 hv3
    injection hv1 with hv1
    injection hv1 with hv1
    subst hv1 hv3
    exact ⟨cur, hh, hs, fun _ _ h => absurd h (by omega)⟩
def TeP (es : List Ent) (w : World) (e : Ending) (w' : World) : Prop := e = .returned (.slice (some ⟨w.heap.size, 0, none⟩) es.length es.length) ∧ Below w.heap.size w w' ∧ EnK w' w.heap.size es.length es es.length
set_option maxRecDepth 20000 in
set_option maxHeartbeats 2000000 in
theorem toEntryS_any (es : List Ent) (a : Option Addr) (cap : Nat) (w : World) (h : RsE w a cap es) (hl : es.length ≤ 1048576) : Calls Try.prog 61 #[.slice a es.length cap] w (TeP es w) := by
  have HR := Lib.hid h
  have HT := Lib.hid toEntry_any
  clear h
  obtain ⟨n, hn⟩ : ∃ n, n = es.length := ⟨_, rfl⟩
  have HN := Lib.hid hn
  unfold TeP
  rw [← hn] at hl ⊢
  clear hn
  go_enter Try.func61, Try.ntmps61
  go_wp2_with (first | (refine mkEo rfl (.tmp 6) (.tmp 6) rfl n _ _ rfl rfl rfl rfl hl es ?_; intro w3 ho hb3; have H0 := Lib.hid (show Below w.heap.size w w3 ∧ EnK w3 w.heap.size n es 0 from ⟨hb3, ho⟩); clear ho hb3))
  go_loopw [4] (fun i wr => ∃ k : Nat, k ≤ n ∧ i = .int .i64 k ∧ Hid (Below w.heap.size w wr ∧ EnK wr w.heap.size n es k)) (fun i _ => n - (intOf i).toNat)
  case atStart => exact ⟨0, by omega, rfl, H0⟩
  case round =>
    obtain ⟨k, hk, rfl, HI⟩ := hrel
    by_cases hlt : k < n
    · obtain ⟨e, he⟩ : ∃ e, es[k]? = some e := ⟨_, List.getElem?_eq_getElem (by rw [← HN.out]; exact hlt)⟩
      obtain ⟨g, off, rfl, hb, x0, x1, x2, x3⟩ := (HR.out.below HI.out.1).2.2 k e he
      have q1 : (k : Int) < (n : Int) := by omega
      have q0 : 0 ≤ (k : Int) := by omega
      have HL := Lib.hid (lies4 x0 x1 x2 x3)
      have HGE := Lib.hid he
      clear x0 x1 x2 x3 he
      go_wp2_with (first | (refine ldL (o := ⟨some 19, _, _, _, _, _⟩) rfl (.tmp 18) rfl g (off + k * 4) (.string e.key) (.int .i64 e.hash) (.int .i64 e.val) (.bool e.live) rfl HL.out ?_))
      refine (HT.out _ _ _ _ _).mono ?_
      rintro r w2 ⟨rfl, hb2⟩
      have HI2 := Lib.hid (show Below w.heap.size w w2 ∧ EnK w2 w.heap.size n es k from ⟨HI.out.1.trans (hb2.mono HI.out.1.size), HI.out.2.below hb2 HI.out.2.lt⟩)
      obtain ⟨y0, z0, f0⟩ := HI2.out.2.old (show k * 4 < n * 4 by omega)
      obtain ⟨y1, z1, f1⟩ := HI2.out.2.old (show k * 4 + 1 < n * 4 by omega)
      obtain ⟨y2, z2, f2⟩ := HI2.out.2.old (show k * 4 + 2 < n * 4 by omega)
      obtain ⟨y3, z3, f3⟩ := HI2.out.2.old (show k * 4 + 3 < n * 4 by omega)
      have HNx := Lib.hid (HI2.out.2.next hlt HGE.out)
      clear hb2
      go_wp2_with fail
      go_roundw
      case rel => exact ⟨k + 1, by omega, by go_num, Lib.hid ⟨(((HI2.out.1.setCell (Nat.le_refl _) _).setCell (Nat.le_refl _) _).setCell (Nat.le_refl _) _).setCell (Nat.le_refl _) _, HNx.out⟩⟩
      case measure => simp [intOf]; try omega
    · obtain rfl : k = n := by omega
      clear hlt
      go_wp2_with fail
      go_ret
      exact ⟨rfl, HI.out⟩
end Go.Proofs.Ytplpgcbdbmfffaa
