/- Lists of texts: those that came in, copies of them, how long they are, whether two are the same. -/
import Derived.Test.YtfmpplolhhjpoaaMany
namespace Go.Proofs.Ytfmpplolhhjpoaa
open Go.RowKit
/-- At an address lie these texts. -/
def At (w : World) (x : Addr) (ss : List ByteArray) : Prop := ∀ (j : Nat) (s : ByteArray), ss[j]? = some s → w.cell? (x.add j) = some (.string s)
/-- The slice reads as these texts. -/
def Rs (w : World) (a : Option Addr) (cap : Nat) (ss : List ByteArray) : Prop := ss.length ≤ cap ∧ (a = none → ss = [] ∧ cap = 0) ∧ ∀ x, a = some x → At w x ss
/-- Block g begins with these texts. -/
def Cp (w : World) (g : Nat) (ss : List ByteArray) : Prop := ∀ (j : Nat) (s : ByteArray), ss[j]? = some s → w.cell? ⟨g, j, none⟩ = some (.string s)
theorem At.below {w w' : World} {x : Addr} {ss : List ByteArray} (h : At w x ss) (hb : Below w.heap.size w w') : At w' x ss := fun j s hj => by
  have hc := h j s hj
  rw [hb.cell (World.block_lt_of_cell? w _ hc)]
  exact hc
theorem Rs.below {w w' : World} {a : Option Addr} {cap : Nat} {ss : List ByteArray} (h : Rs w a cap ss) (hb : Below w.heap.size w w') : Rs w' a cap ss := ⟨h.1, h.2.1, fun x hx => (h.2.2 x hx).below hb⟩
theorem Cp.below {w w' : World} {g : Nat} {ss : List ByteArray} (h : Cp w g ss) (hb : Below w.heap.size w w') : Cp w' g ss := fun j s hj => by
  have hc := h j s hj
  rw [hb.cell (World.block_lt_of_cell? w _ hc)]
  exact hc
/-- No text is longer than so many bytes. -/
def Le (ss : List ByteArray) (n : Nat) : Prop := ∀ s ∈ ss, s.size ≤ n
def SzP (ss : List ByteArray) (left : Nat) (w : World) (e : Ending) (w' : World) : Prop := (∃ z : Int, e = .returned (.int .i64 z) ∧ -1 ≤ z ∧ z ≤ left ∧ (0 ≤ z → ss.length ≤ left ∧ Le ss left)) ∧ w = w'
theorem le_next {ss : List ByteArray} {k n : Nat} {s : ByteArray} (h : Le (ss.take k) n) (hs : ss[k]? = some s) (h1 : s.size ≤ n) : Le (ss.take (k + 1)) n := by
  have hk : k < ss.length := by
    rcases Nat.lt_or_ge k ss.length with h2 | h2
    · exact h2
    · rw [List.getElem?_eq_none h2] at hs; cases hs
  rw [List.getElem?_eq_getElem hk] at hs
  injection hs with hs
  intro t ht
  rw [List.take_succ_eq_append_getElem hk, hs, List.mem_append] at ht
  rcases ht with ht | ht
  · exact h t ht
  · rw [List.mem_singleton.1 ht]; exact h1
set_option maxHeartbeats 1000000 in
theorem szStringS_any (ss : List ByteArray) (a : Option Addr) (cap left : Nat) (w : World) (h : Rs w a cap ss) (hl : left ≤ 1048576) (hc : cap ≤ 9223372036854775807) (hz : Le ss 9223372036854775807) :
    Calls Try.prog 17 #[.slice a ss.length cap, .int .i64 (left : Int)] w (SzP ss left w) := by
  have hcap := h.1
  have HA := Lib.hid h.2
  have HS := Lib.hid hz
  clear h hz
  generalize hn : ss.length = n at *
  have HN := Lib.hid hn
  clear hn
  by_cases h0 : (left : Int) < (n : Int)
  · have h0' : (left : Int) - (n : Int) < 0 := by omega
    go_enter Try.func17, Try.ntmps17
    go_wp2_with fail
    go_ret
    exact ⟨⟨-1, rfl, by omega, by omega, fun h => by omega⟩, rfl⟩
  · have h0' : 0 ≤ (left : Int) - (n : Int) := by omega
    go_enter Try.func17, Try.ntmps17
    go_wp2_with fail
    go_loop [1, 5] (fun v i => ∃ (k : Nat) (z : Int), k ≤ n ∧ i = .int .i64 k ∧ v = .int .i64 z ∧ 0 ≤ z ∧ z ≤ left ∧ Hid (Le (ss.take k) left)) (fun _ i => n - (intOf i).toNat)
    case atStart => exact ⟨0, (left : Int) - n, by omega, rfl, rfl, by omega, by omega, Lib.hid fun t ht => by simp at ht⟩
    case round =>
      obtain ⟨k, z, hk, rfl, rfl, hz0, hz1, HK⟩ := hrel
      by_cases hlt : k < n
      · obtain ⟨s, hs⟩ : ∃ s, ss[k]? = some s := ⟨ss[k]'(by have := HN.out; omega), List.getElem?_eq_getElem _⟩
        obtain ⟨x, rfl⟩ : ∃ x, a = some x := by
          cases a with
          | none => have := (HA.out.1 rfl).1; have h2 := HN.out; rw [this] at h2; simp at h2; omega
          | some x => exact ⟨x, rfl⟩
        have c1 : w.cell? (x.add k) = some (.string s) := HA.out.2 x rfl k s hs
        have hsz : s.size ≤ 9223372036854775807 := HS.out s (List.mem_of_getElem? hs)
        by_cases h1 : z - (s.size : Int) < 0
        · clear hs
          go_wp2_with fail
          go_ret
          exact ⟨⟨-1, rfl, by omega, by omega, fun h => by omega⟩, rfl⟩
        · have h1' : 0 ≤ z - (s.size : Int) := by omega
          have HK2 := Lib.hid (le_next HK.out hs (show s.size ≤ left by omega))
          clear hs
          go_wp2_with fail
          go_round
          case rel => exact ⟨k + 1, z - s.size, by omega, by go_num, rfl, by omega, by omega, HK2⟩
          case measure => simp [intOf]; try omega
      · obtain rfl : k = n := by omega
        have HF := Lib.hid (show Le ss left by have := HK.out; rwa [List.take_of_length_le (by rw [HN.out]; exact Nat.le_refl _)] at this)
        clear hlt
        go_wp2_with fail
        go_ret
        exact ⟨⟨z, rfl, by omega, by omega, fun _ => ⟨by rw [HN.out]; omega, HF.out⟩⟩, rfl⟩
def zS (n : Nat) : List Value := List.replicate n (.string ⟨#[]⟩)
def sv (ss : List ByteArray) : List Value := ss.map Value.string
theorem sv_len (ss : List ByteArray) : (sv ss).length = ss.length := by simp [sv]
theorem zS_len (n : Nat) : (zS n).length = n := by simp [zS]
/-- 'make([]string, n)'. -/
theorem mkS {ops : Array Oper} {rest : List Oper} {o : Oper} {a : Act} {w : World} {Q : Exit → Act → World → Prop} (hg : o.guard = none) (l c : Operand) (hop : o.op = Op.makeSlice 24 l c) (n : Nat) (L C : Int) (hl : a.eval l = .int .i64 L) (hc : a.eval c = .int .i64 C) (hL : L = (n : Int)) (hC : C = (n : Int)) (hn : n ≤ 1048576)
    (hK : ∀ w', w'.ownsRow w.heap.size 9 1 (.slice (some ⟨w.heap.size, 0, none⟩) n n) n (zS n) → Below w.heap.size w w' → wpList Try.prog ops Q rest (a.put o.dst (.slice (some ⟨w.heap.size, 0, none⟩) n n)) w') : wpList Try.prog ops Q (o :: rest) a w := by
  obtain ⟨i, hi1, hi2, hi3, hi4⟩ := info_of (P := Try.prog) (e := 9) (z := .string ⟨#[]⟩) (s := 1) (b := 16) (by kernel_rfl)
  refine wpList_make_full w hg l c 24 hop w.heap.size 9 i (.string ⟨#[]⟩) 1 Try.underlying24 hi1 hi2 hi3 .i64 .i64 L C n hl hc hL hC (by rw [hi4]; omega) (by unfold maxLen; omega) (Nat.le_refl _) ?_
  intro w' ho hgr
  refine hK w' ?_ ((Below.refl _ _).grown hgr (Nat.le_refl _) (fun k hk => by cases hk))
  have e : (madeCells (Value.string ⟨#[]⟩).cells (n * 1)).toList = zS n := by
    rw [show (Value.string ⟨#[]⟩).cells = #[Value.string ⟨#[]⟩] from rfl, toList_madeCells_one, Nat.mul_one]; rfl
  rw [e] at ho
  exact ho
/-- While a list is copied: k texts stand, behind them empty ones. -/
def TsI (w wr : World) (ss : List ByteArray) (k : Nat) : Prop := Below w.heap.size w wr ∧ wr.ownsRow w.heap.size 9 1 (.slice (some ⟨w.heap.size, 0, none⟩) ss.length ss.length) ss.length (sv (ss.take k) ++ zS (ss.length - k))
theorem ts_cell {w wr : World} {ss : List ByteArray} {k : Nat} (h : TsI w wr ss k) (hk : k < ss.length) : wr.cell? ⟨w.heap.size, k, none⟩ = some (.string ⟨#[]⟩) ∧ wr.frozen? ⟨w.heap.size, k, none⟩ = false := by
  have hl : (sv (ss.take k)).length = k := by rw [sv_len, List.length_take]; omega
  refine ⟨?_, World.ownsRow.frozenAt h.2 k⟩
  rw [World.ownsRow.cellAt h.2 k (by omega), List.getElem?_append_right (by omega), hl, Nat.sub_self]
  unfold zS
  rw [List.getElem?_replicate, if_pos (by omega)]
theorem ts_next {w wr : World} {ss : List ByteArray} {k : Nat} {s : ByteArray} (h : TsI w wr ss k) (hs : ss[k]? = some s) : TsI w (wr.setCell ⟨w.heap.size, k, none⟩ (.string s)) ss (k + 1) := by
  have hk : k < ss.length := by
    rcases Nat.lt_or_ge k ss.length with h2 | h2
    · exact h2
    · rw [List.getElem?_eq_none h2] at hs; cases hs
  rw [List.getElem?_eq_getElem hk] at hs
  injection hs with hs
  have hl : (sv (ss.take k)).length = k := by rw [sv_len, List.length_take]; omega
  refine ⟨h.1.setCell (Nat.le_refl _) _, ?_⟩
  have h1 := (World.ownsRow.stored h.2 k (.string s)).1
  have e : (sv (ss.take k) ++ zS (ss.length - k)).set k (.string s) = sv (ss.take (k + 1)) ++ zS (ss.length - (k + 1)) := by
    rw [List.set_append_right _ _ (by omega), hl, Nat.sub_self]
    have e2 : zS (ss.length - k) = .string ⟨#[]⟩ :: zS (ss.length - (k + 1)) := by
      unfold zS
      rw [show ss.length - k = ss.length - (k + 1) + 1 by omega, List.replicate_succ]
    rw [e2, List.set_cons_zero, List.take_succ_eq_append_getElem hk, hs]
    simp [sv]
  rw [e] at h1
  exact h1
theorem ts_end {w wr : World} {ss : List ByteArray} (h : TsI w wr ss ss.length) : Cp wr w.heap.size ss := by
  intro j s hj
  have hk : j < ss.length := by
    rcases Nat.lt_or_ge j ss.length with h2 | h2
    · exact h2
    · rw [List.getElem?_eq_none h2] at hj; cases hj
  rw [World.ownsRow.cellAt h.2 j (by omega), List.take_of_length_le (Nat.le_refl _), List.getElem?_append_left (by rw [sv_len]; exact hk)]
  simp [sv, hj]
def TsP (ss : List ByteArray) (w : World) (e : Ending) (w' : World) : Prop := e = .returned (.slice (some ⟨w.heap.size, 0, none⟩) ss.length ss.length) ∧ Below w.heap.size w w' ∧ Cp w' w.heap.size ss ∧ w.heap.size < w'.heap.size
set_option maxHeartbeats 2000000 in
theorem toStringS_any (ss : List ByteArray) (a : Option Addr) (cap : Nat) (w : World) (h : Rs w a cap ss) (hl : ss.length ≤ 1048576) :
    Calls Try.prog 19 #[.slice a ss.length cap] w (TsP ss w) := by
  have hcap := h.1
  have HR := Lib.hid h
  clear h
  obtain ⟨n, hn⟩ : ∃ n, n = ss.length := ⟨_, rfl⟩
  have HN := Lib.hid hn
  rw [← hn] at hcap hl ⊢
  clear hn
  go_enter Try.func19, Try.ntmps19
  go_wp2_with (first | (refine mkS rfl (.tmp 6) (.tmp 6) rfl n _ _ rfl rfl rfl rfl hl ?_; intro w3 ho hb3; have H0 := Lib.hid (show TsI w w3 ss 0 from ⟨hb3, by rw [← HN.out]; exact ho⟩); clear ho hb3))
  go_loopw [4] (fun i wr => ∃ k : Nat, k ≤ n ∧ i = .int .i64 k ∧ Hid (TsI w wr ss k)) (fun i _ => n - (intOf i).toNat)
  case atStart => exact ⟨0, by omega, rfl, H0⟩
  case round =>
    obtain ⟨k, hk, rfl, HI⟩ := hrel
    by_cases hlt : k < n
    · obtain ⟨s, hs⟩ : ∃ s, ss[k]? = some s := ⟨ss[k]'(by have := HN.out; omega), List.getElem?_eq_getElem _⟩
      obtain ⟨x, rfl⟩ : ∃ x, a = some x := by
        cases a with
        | none => have := (HR.out.2.1 rfl).1; have h2 := HN.out; rw [this] at h2; simp at h2; omega
        | some x => exact ⟨x, rfl⟩
      have c1 : wr.cell? (x.add k) = some (.string s) := ((HR.out.below HI.out.1).2.2 x rfl) k s hs
      obtain ⟨c5, f5⟩ := ts_cell HI.out (by have := HN.out; omega)
      have HT := Lib.hid (ts_next HI.out hs)
      clear hs
      go_wp2_with fail
      go_roundw
      case rel => exact ⟨k + 1, by omega, by go_num, HT⟩
      case measure => simp [intOf]; try omega
    · obtain rfl : k = n := by omega
      have HF := Lib.hid (show TsI w wr ss ss.length by have := HI.out; rwa [HN.out] at this)
      clear hlt
      go_wp2_with fail
      go_ret
      exact ⟨by rw [← HN.out]; rfl, HF.out.1, ts_end HF.out, (World.ownsRow.lt HF.out.2 _ rfl).2⟩
set_option maxHeartbeats 2000000 in
theorem eqStringS_any (ss : List ByteArray) (g1 g2 c1 c2 : Nat) (w : World) (h1 : Cp w g1 ss) (h2 : Cp w g2 ss) (hl : ss.length ≤ 1048576) :
    Calls Try.prog 21 #[.slice (some ⟨g1, 0, none⟩) ss.length c1, .slice (some ⟨g2, 0, none⟩) ss.length c2] w fun e w' => e = .returned (.bool true) ∧ Below w.heap.size w w' := by
  have HA := Lib.hid h1
  have HB := Lib.hid h2
  clear h1 h2
  obtain ⟨n, hn⟩ : ∃ n, n = ss.length := ⟨_, rfl⟩
  have HN := Lib.hid hn
  rw [← hn] at hl ⊢
  clear hn
  go_enter Try.func21, Try.ntmps21
  go_wp2_with fail
  go_loopw [5] (fun i wr => ∃ k m : Nat, k ≤ n ∧ i = .int .i64 k ∧ wr = w.drewN m) (fun i _ => n - (intOf i).toNat)
  case atStart => exact ⟨0, 0, by omega, rfl, rfl⟩
  case round =>
    obtain ⟨k, m, hk, rfl, rfl⟩ := hrel
    by_cases hlt : k < n
    · obtain ⟨s, hs⟩ : ∃ s, ss[k]? = some s := ⟨ss[k]'(by have := HN.out; omega), List.getElem?_eq_getElem _⟩
      have d1 : w.cell? ⟨g1, k, none⟩ = some (.string s) := HA.out k s hs
      have d2 : w.cell? ⟨g2, k, none⟩ = some (.string s) := HB.out k s hs
      have k1 : (k : Int) < (n : Int) := by omega
      have k0 : 0 ≤ (k : Int) := by omega
      clear hs
      go_wp2_with fail
      go_quiet (fail)
      go_wp2_with fail
      go_roundw
      case rel => exact ⟨k + 1, _, by omega, by go_num, rfl⟩
      case measure => simp [intOf]; try omega
    · obtain rfl : k = n := by omega
      clear hlt
      go_wp2_with fail
      go_ret
      exact ⟨rfl, ⟨rfl, rfl, rfl, Nat.le_refl _, fun _ _ => rfl⟩⟩
end Go.Proofs.Ytfmpplolhhjpoaa
