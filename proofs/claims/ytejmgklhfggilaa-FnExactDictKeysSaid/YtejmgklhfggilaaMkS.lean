/- Marks of texts; the keys of a dictionary. -/
import Derived.Test.YtejmgklhfggilaaTlD
import Derived.Test.YtejmgklhfggilaaMkE
import Derived.Test.YtejmgklhfggilaaDok3
namespace Go.Proofs.Ytejmgklhfggilaa
open Go.RowKit
section
variable {P : Program} {ops : Array Oper} {rest : List Oper} {o : Oper} {a : Act} {w : World} {Q : Exit → Act → World → Prop}
/-- An append of one value of at most sixteen bytes. -/
theorem appS (hgd : o.guard = none) (s x : Operand) (T e : TypeId) (z : Value) (b : Nat) (ho : o.op = .call { callee := .builtin .append, args := #[s, x], argTypes := #[T, T] }) (ht : P.underlying T = some (.slice e))
    (hi : (P.info? e).map (fun i => (i.zero, i.size, i.bytes)) = some (some z, 1, b)) (hzs : z.cells.size = 1) (hb8 : b ≤ 16) (W w0 : World) (u : Value) (hw : w = W.alloc (.cells #[u] e)) (base : Nat) (v : Value) (vals : List Value) (hs : a.eval s = v) (hx : a.eval x = .slice (some ⟨W.heap.size, 0, none⟩) 1 1)
    (hown : Own W base e v vals) (h1 : u.oneCell' = true) (hlen : vals.length + 1 ≤ 1099511627776) (hbase : base ≤ W.heap.size) (hB : Below base w0 W)
    (h : ∀ v' w', Own w' base e v' (vals ++ [u]) → Below base w0 w' → W.grownBy w' v.ownBlock → wpList P ops Q rest (a.put o.dst v') w') : wpList P ops Q (o :: rest) a w := by
  obtain ⟨i, hi1, hi2, hi3, hi4⟩ := info_of hi
  subst hw
  have hle : (vals.length + 1) * b ≤ (vals.length + 1) * 16 := Nat.mul_le_mul_left _ hb8
  refine wpList_append_own _ hgd s x T ho base e i z 1 b ht hi1 hi2 hi3 hi4 hzs (by omega) v vals.length vals hs (World.ownsRow.alloc hown _) ⟨W.heap.size, 0, none⟩ 1 1 [u] hx rfl ?_ ?_ ?_ (by omega) (by simp; omega) ?_
  · intro j u' hj
    cases j with
    | zero => simp at hj; subst hj; rw [addr_add, Nat.zero_add, World.cell?_alloc_at _ _ _ _ rfl]; rfl
    | succ j => simp at hj
  · intro u' hu; rw [List.mem_singleton] at hu; rw [hu]; exact h1
  · unfold maxLen; omega
  · intro v' w' hown' hgrow _
    have hgW : W.grownBy w' v.ownBlock := ⟨hgrow.os, hgrow.tape, hgrow.output, by have := hgrow.size; simp at this; omega, fun k hk hne => (hgrow.block k (by simp; omega) hne).trans (Below.heap_alloc _ _ _ hk)⟩
    refine h v' w' ?_ ?_ hgW
    · unfold Own; rw [List.length_append]; exact hown'
    · exact hB.grown hgW hbase fun k hk => (World.ownsRow.lt hown k hk).1
end
/-- Block g holds n texts, the first k of them the marks from m on. -/
def UpS (w : World) (g m n k : Nat) : Prop := ∃ cs, Blk w g 9 cs ∧ (∀ j, j < n → ∃ s : ByteArray, cs[j]? = some (.string s)) ∧ ∀ j, j < k → cs[j]? = some (.string ⟨(mkT (m + j)).toArray⟩)
theorem UpS.cell {w : World} {g m n k j : Nat} (h : UpS w g m n k) (hj : j < n) : ∃ s : ByteArray, w.cell? ⟨g, j, none⟩ = some (.string s) ∧ w.frozen? ⟨g, j, none⟩ = false := by
  obtain ⟨cs, h1, h2, _⟩ := h
  obtain ⟨i, hi⟩ := h2 j hj
  exact ⟨i, by rw [h1.cell]; exact hi, h1.free j⟩
theorem UpS.at {w : World} {g m n k j : Nat} (h : UpS w g m n k) (hj : j < k) : w.cell? ⟨g, j, none⟩ = some (.string ⟨(mkT (m + j)).toArray⟩) := by
  obtain ⟨cs, h1, _, h3⟩ := h
  rw [h1.cell]; exact h3 j hj
theorem UpS.lt {w : World} {g m n k : Nat} (h : UpS w g m n k) : g < w.heap.size := by
  obtain ⟨cs, h1, _⟩ := h
  exact h1.lt
theorem UpS.next {w : World} {g m n k : Nat} (h : UpS w g m n k) (hk : k < n) : UpS (w.setCell ⟨g, k, none⟩ (.string ⟨(mkT (m + k)).toArray⟩)) g m n (k + 1) := by
  obtain ⟨cs, h1, h2, h3⟩ := h
  have hs : k < cs.size := by
    obtain ⟨i, hi⟩ := h2 k hk
    rcases Nat.lt_or_ge k cs.size with h4 | h4
    · exact h4
    · rw [Array.getElem?_eq_none h4] at hi; cases hi
  refine ⟨_, h1.set k _, ?_, ?_⟩
  · intro j hj
    rw [Array.getElem?_setIfInBounds]
    by_cases e : k = j
    · subst e; rw [if_pos rfl, if_pos hs]; exact ⟨_, rfl⟩
    · rw [if_neg e]; exact h2 j hj
  · intro j hj
    rw [Array.getElem?_setIfInBounds]
    by_cases e : k = j
    · subst e; rw [if_pos rfl, if_pos hs]
    · rw [if_neg e]; exact h3 j (by omega)
theorem UpS.below {w w' : World} {B g m n k : Nat} (h : UpS w g m n k) (hb : Below B w w') (hg : g < B) : UpS w' g m n k := by
  obtain ⟨cs, h1, h2⟩ := h
  exact ⟨cs, h1.below hb hg, h2⟩
def MkS (w wr : World) (g m n k : Nat) : Prop := w.grownBy wr (some g) ∧ UpS wr g m n k
theorem MkS.next {w wr : World} {g m n k : Nat} (h : MkS w wr g m n k) (hk : k < n) : MkS w (wr.setCell ⟨g, k, none⟩ (.string ⟨(mkT (m + k)).toArray⟩)) g m n (k + 1) :=
  ⟨grown_trans h.1 ⟨rfl, rfl, rfl, by simp, fun j _ hj => heap_setCell_other wr ⟨g, k, none⟩ j _ (fun e => hj (by rw [e]))⟩, h.2.next hk⟩
theorem MkS.more {w wr w2 : World} {g m n k : Nat} (h : MkS w wr g m n k) (hb : Below wr.heap.size wr w2) : MkS w w2 g m n k :=
  ⟨grown_trans h.1 (below_grown hb), h.2.below hb h.2.lt⟩
set_option maxRecDepth 20000 in
set_option maxHeartbeats 4000000 in
theorem markStringS_any (g c n m : Nat) (w : World) (h : UpS w g m n 0) (hm0 : 0 < m) (hm : m ≤ 1048576) (hl : n ≤ 1048576) :
    Calls Try.prog 42 #[.slice (some ⟨g, 0, none⟩) n c, .int .i64 (m : Int)] w fun e w' => e = .returned (.int .i64 ((m : Int) + (n : Int))) ∧ MkS w w' g m n n := by
  have H0 := Lib.hid (show MkS w w g m n 0 from ⟨World.grownBy.refl _ _, h⟩)
  clear h
  go_enter Try.func42, Try.ntmps42
  go_wp2_with fail
  go_loopw [1, 5] (fun v i wr => ∃ k : Nat, k ≤ n ∧ i = .int .i64 k ∧ v = .int .i64 ((m + k : Nat) : Int) ∧ Hid (MkS w wr g m n k)) (fun _ i _ => n - (intOf i).toNat)
  case atStart => exact ⟨0, by omega, rfl, by simp, H0⟩
  case round =>
    obtain ⟨k, hk, rfl, rfl, HI⟩ := hrel
    by_cases hlt : k < n
    · have q1 : (k : Int) < (n : Int) := by omega
      have q0 : 0 ≤ (k : Int) := by omega
      obtain ⟨j, hj⟩ : ∃ j : Nat, j = m + k := ⟨_, rfl⟩
      have hj1 : 0 < j := by omega
      have hj2 : j ≤ 1000000000 := by omega
      have HMT := Lib.hid (fun w => markText_any j w hj1 hj2)
      have HJ := Lib.hid hj
      rw [← hj]
      clear hj
      go_wp2_with fail
      refine (HMT.out _).mono ?_
      rintro e w2 ⟨rfl, hb2⟩
      have HI2 := Lib.hid (HI.out.more hb2)
      clear hb2
      obtain ⟨s0, c0, f0⟩ := HI2.out.2.cell hlt
      have HT := Lib.hid (HI2.out.next hlt)
      rw [← HJ.out] at HT
      go_wp2_with fail
      go_roundw
      case rel => exact ⟨k + 1, by omega, by go_num, congrArg (Value.int IntKind.i64) (by have := HJ.out; omega), HT⟩
      case measure => simp [intOf]; try omega
    · obtain rfl : k = n := by omega
      clear hlt
      go_wp2_with fail
      go_ret
      exact ⟨by simp, HI.out⟩
set_option maxRecDepth 20000 in
set_option maxHeartbeats 4000000 in
theorem heldStringS_any (g c n m : Nat) (w : World) (h : UpS w g m n n) (hm0 : 0 < m) (hm : m ≤ 1048576) (hl : n ≤ 1048576) :
    Calls Try.prog 43 #[.slice (some ⟨g, 0, none⟩) n c, .int .i64 (m : Int)] w fun e w' => e = .returned (.int .i64 ((m : Int) + (n : Int))) ∧ Below w.heap.size w w' := by
  have H0 := Lib.hid h
  clear h
  go_enter Try.func43, Try.ntmps43
  go_wp2_with fail
  go_loopw [1, 5] (fun v i wr => ∃ k : Nat, k ≤ n ∧ i = .int .i64 k ∧ v = .int .i64 ((m + k : Nat) : Int) ∧ Hid (Below w.heap.size w wr)) (fun _ i _ => n - (intOf i).toNat)
  case atStart => exact ⟨0, by omega, rfl, by simp, Lib.hid (Below.refl _ _)⟩
  case round =>
    obtain ⟨k, hk, rfl, rfl, HI⟩ := hrel
    by_cases hlt : k < n
    · have q1 : (k : Int) < (n : Int) := by omega
      have q0 : 0 ≤ (k : Int) := by omega
      have c0 := (H0.out.below HI.out H0.out.lt).at hlt
      have hgl : g < wr.heap.size := Nat.lt_of_lt_of_le H0.out.lt HI.out.size
      obtain ⟨j, hj⟩ : ∃ j : Nat, j = m + k := ⟨_, rfl⟩
      have hj1 : 0 < j := by omega
      have hj2 : j ≤ 1000000000 := by omega
      have HMT := Lib.hid (fun w => markText_any j w hj1 hj2)
      have HJ := Lib.hid hj
      rw [← hj] at c0 ⊢
      clear hj
      generalize mkT j = l at *
      have HC := Lib.hid (show ∀ w', Below wr.heap.size wr w' → w'.cell? ⟨g, k, none⟩ = some (.string ⟨l.toArray⟩) from fun w' hb => (hb.cell hgl).trans c0)
      have hll : (l == l) = true := by simp
      have hll2 : (!l == l) = false := by simp
      go_wp2_with fail
      go_region_with (go_at_call 82; refine (HMT.out _).mono ?_; rintro e w2 ⟨rfl, hb2⟩; have HB2 := Lib.hid (show Below wr.heap.size wr w2 from (by first | exact hb2 | exact ((Below.refl _ wr).drew).trans hb2 | exact (below_drewN' (Below.refl _ wr)).trans hb2)); have d0 := HC.out _ HB2.out; clear hb2)
      all_goals
        go_wp2_with fail
        go_roundw
        case rel => exact ⟨k + 1, by omega, by go_num, congrArg (Value.int IntKind.i64) (by have := HJ.out; omega), Lib.hid (HI.out.trans (HB2.out.mono HI.out.size))⟩
        case measure => simp [intOf]; try omega
    · obtain rfl : k = n := by omega
      clear hlt
      go_wp2_with fail
      go_ret
      exact ⟨by simp, HI.out⟩
theorem markStringS_nil (m : Int) (w : World) : Calls Try.prog 42 #[.slice none 0 0, .int .i64 m] w fun e w' => e = .returned (.int .i64 m) ∧ w = w' := by
  go_enter Try.func42, Try.ntmps42
  go_wp2_with fail
  go_loop [1, 5] (fun v i => v = .int .i64 m ∧ i = .int .i64 0) (fun _ i => (intOf i).toNat)
  case atStart => exact ⟨rfl, rfl⟩
  case round =>
    obtain ⟨rfl, rfl⟩ := hrel
    go_wp2_with fail
    go_ret
    exact ⟨rfl, rfl⟩
theorem heldStringS_nil (m : Int) (w : World) : Calls Try.prog 43 #[.slice none 0 0, .int .i64 m] w fun e w' => e = .returned (.int .i64 m) ∧ w = w' := by
  go_enter Try.func43, Try.ntmps43
  go_wp2_with fail
  go_loop [1, 5] (fun v i => v = .int .i64 m ∧ i = .int .i64 0) (fun _ i => (intOf i).toNat)
  case atStart => exact ⟨rfl, rfl⟩
  case round =>
    obtain ⟨rfl, rfl⟩ := hrel
    go_wp2_with fail
    go_ret
    exact ⟨rfl, rfl⟩
def UpW (w : World) (b : Nat) (v : Value) (m n : Nat) : Prop := (n = 0 ∧ v = .slice none 0 0) ∨ ∃ g c, v = .slice (some ⟨g, 0, none⟩) n c ∧ b ≤ g ∧ UpS w g m n n
theorem UpW.below {w w' : World} {b : Nat} {v : Value} {m n : Nat} (h : UpW w b v m n) (hb : Below w.heap.size w w') : UpW w' b v m n := by
  rcases h with h | ⟨g, c, h1, h2, h3⟩
  · exact .inl h
  · exact .inr ⟨g, c, h1, h2, h3.below hb h3.lt⟩
theorem OwT.up {w : World} {b g n cap : Nat} {is : List ByteArray} (m : Nat) (h : OwT w b (.slice (some ⟨g, 0, none⟩) n cap) is) : UpS w g m n 0 := by
  rcases h.2 with ⟨h1, _⟩ | ⟨g', cap', cur, hv, _, hh, hn, _, hs, ht⟩
  · cases h1
  · injection hv with hv1 hv2 hv3
    injection hv1 with hv1
    injection hv1 with hv1
    subst hv1
    refine ⟨cur, hh, fun j hj => ?_, fun j hj => absurd hj (Nat.not_lt_zero _)⟩
    have hj2 : j < (tv is).length := by omega
    have e : (tv is)[j]? = cur[j]? := by
      rw [← ht, List.getElem?_take, if_pos (by omega)]
      simp
    rw [← e]
    unfold tv
    rw [List.getElem?_map]
    rw [tv_len] at hj2
    rw [List.getElem?_eq_getElem hj2]
    exact ⟨_, rfl⟩
theorem mark_ownT {b : Nat} {v : Value} {is : List ByteArray} (m : Nat) (w : World) (h : OwT w b v is) (hm0 : 0 < m) (hm : m ≤ 1048576) (hl : is.length ≤ 1048576) :
    Calls Try.prog 42 #[v, .int .i64 (m : Int)] w fun e w' => e = .returned (.int .i64 ((m : Int) + (is.length : Int))) ∧ UpW w' b v m is.length ∧ w.grownBy w' v.ownBlock := by
  rcases Own.form h with ⟨rfl, h2⟩ | ⟨g, cap, rfl, hb, hlt, _, _⟩
  · have h3 : is = [] := by simpa [tv] using h2
    subst h3
    refine (markStringS_nil (m : Int) w).mono ?_
    rintro e w' ⟨rfl, rfl⟩
    exact ⟨by simp, .inl ⟨rfl, rfl⟩, World.grownBy.refl _ _⟩
  · rw [tv_len] at h ⊢
    refine (markStringS_any g cap is.length m w (h.up m) hm0 hm hl).mono ?_
    rintro e w' ⟨rfl, hk⟩
    exact ⟨rfl, .inr ⟨g, cap, rfl, hb, hk.2⟩, hk.1⟩
theorem held_upT {b n : Nat} {v : Value} (m : Nat) (w : World) (h : UpW w b v m n) (hm0 : 0 < m) (hm : m ≤ 1048576) (hl : n ≤ 1048576) :
    Calls Try.prog 43 #[v, .int .i64 (m : Int)] w fun e w' => e = .returned (.int .i64 ((m : Int) + (n : Int))) ∧ Below w.heap.size w w' := by
  rcases h with ⟨rfl, rfl⟩ | ⟨g, c, rfl, _, hu⟩
  · refine (heldStringS_nil (m : Int) w).mono ?_
    rintro e w' ⟨rfl, rfl⟩
    exact ⟨by simp, Below.refl _ _⟩
  · exact heldStringS_any g c n m w hu hm0 hm hl
end Go.Proofs.Ytejmgklhfggilaa
