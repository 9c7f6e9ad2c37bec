/- impl.divideDigits: quotient and rest of numbers of at most forty digits, the second not 0. -/
import Derived.Test.YtckmpenlpkhnfabCmp
import Derived.Test.YtckmpenlpkhnfabSub
import Derived.Deep.LoopGhost
namespace Go.Proofs.Ytckmpenlpkhnfab
open Go.RowKit
theorem dg_shift_zero (X d : Nat) (h : d < 10) : dg (X * 10 + d) 0 = d := by unfold dg; simp; omega
theorem dg_shift_succ (X d i : Nat) (h : d < 10) : dg (X * 10 + d) (i + 1) = dg X i := by
  have := dg_small_succ d X i h
  rw [Nat.add_comm, Nat.mul_comm] at this
  exact this
/-- The digits moved up by one place, the lowest one staying. -/
theorem row80_shift (X : Nat) : ((row80 X).toList.take 1 ++ ((row80 X).toList.take 79 ++ (row80 X).toList.drop (1 + 79))).toArray = row80 (X * 10 + dg X 0) := by
  apply Array.ext_getElem?
  intro i
  have hl : (row80 X).toList.length = 80 := by simp [row80_size]
  have hd : (row80 X).toList.drop (1 + 79) = [] := List.drop_eq_nil_of_le (by omega)
  rw [hd, List.append_nil]
  simp only [List.getElem?_toArray]
  by_cases hi : i < 80
  · rw [row80_get _ _ hi]
    cases i with
    | zero =>
      rw [List.getElem?_append_left (by simp [hl]), List.getElem?_take_of_lt (by omega), Array.getElem?_toList, row80_get _ _ (by omega), dg_shift_zero _ _ (dg_lt _ _)]
    | succ i =>
      rw [List.getElem?_append_right (by simp [hl]), List.length_take, hl, List.getElem?_take_of_lt (by omega), Array.getElem?_toList, show i + 1 - min 1 80 = i by omega, row80_get _ _ (by omega), dg_shift_succ _ _ _ (dg_lt _ _)]
  · rw [row80_none _ _ (by omega), List.getElem?_eq_none (by simp [hl]; omega)]
theorem setDg_shift (X a : Nat) : setDg (X * 10 + dg X 0) 0 a = X * 10 + a := by
  unfold setDg
  rw [dg_shift_zero _ _ (dg_lt _ _)]
  simp
theorem div_down (m k : Nat) : m / 10 ^ k = m / 10 ^ (k + 1) * 10 + dg m k := by
  unfold dg
  have : m / 10 ^ (k + 1) = m / 10 ^ k / 10 := by rw [Nat.pow_succ, Nat.div_div_eq_div_mul]
  rw [this]; omega
section
variable {ops : Array Oper} {rest : List Oper} {o : Oper} {a : Act} {w w' : World} {Q : Exit → Act → World → Prop} {X : Nat}
theorem cp80 (hgd : o.guard = none) (d s : Operand) (ho : o.op = .call { callee := .builtin .copy, args := #[d, s], argTypes := #[22, 22] }) (g : Nat) (hd : a.eval d = .slice (some ⟨g, 1, none⟩) 79 79) (hs : a.eval s = .slice (some ⟨g, 0, none⟩) 80 80)
    {t : TypeId} (hg : Blk w g t (row80 X)) (h : wpList Try.prog ops Q rest (a.put o.dst (goInt 79)) (w.setRow g (row80 (X * 10 + dg X 0)))) : wpList Try.prog ops Q (o :: rest) a w := by
  have hl : ((row80 X).toList.take 79).length = 79 := by simp [row80_size]
  refine wpList_copy_own hgd d s 22 22 ho 5 Try.underlying22 (by kernel_rfl) g 1 79 79 ⟨g, 0, none⟩ 80 80 hd hs (row80 X) t hg ((row80 X).toList.take 79) (by rw [hl]; rfl) ?_ ?_ ?_ ?_
  · intro j v hv
    have hj : j < 79 := by
      rcases Nat.lt_or_ge j 79 with h1 | h1
      · exact h1
      · rw [List.getElem?_eq_none (by rw [hl]; exact h1)] at hv; cases hv
    rw [List.getElem?_take_of_lt hj, Array.getElem?_toList] at hv
    rw [addr_add, hg.cell, Nat.zero_add, hv]
  · rw [hl, row80_size]; omega
  · intro v hv
    have := row80_one X
    rw [Array.all_eq_true_iff_forall_mem] at this
    exact this v (by have := List.mem_of_mem_take hv; simpa using this)
  · rw [hl, row80_shift]; exact h
end
def DivInv (w wr : World) (m n q r : Nat) : Prop := Below w.heap.size w wr ∧ Blk wr w.heap.size 41 (row80 m) ∧ Blk wr (w.heap.size + 1) 41 (row80 n) ∧ Blk wr (w.heap.size + 1 + 1) 41 (row80 0) ∧ Blk wr (w.heap.size + 1 + 1 + 1) 41 (row80 0) ∧ Blk wr (w.heap.size + 1 + 1 + 1 + 1) 41 (row80 q) ∧ Blk wr (w.heap.size + 1 + 1 + 1 + 1 + 1) 41 (row80 r)
theorem div_start (w : World) (m n : Nat) : DivInv w ((((((w.alloc (Obj.cells (row80 m) 41)).alloc (Obj.cells (row80 n) 41)).alloc (Obj.cells Try.zeroCells41 41)).alloc (Obj.cells Try.zeroCells41 41)).alloc (Obj.cells Try.zeroCells41 41)).alloc (Obj.cells Try.zeroCells41 41)) m n 0 0 := by
  rw [zero80]
  refine ⟨((((((Below.refl _ _).alloc (Nat.le_refl _) _).alloc (by simp) _).alloc (by simp; omega) _).alloc (by simp; omega) _).alloc (by simp; omega) _).alloc (by simp; omega) _, ?_, ?_, ?_, ?_, ?_, ?_⟩
  · exact (((((Blk.new _ _ _ rfl).alloc _).alloc _).alloc _).alloc _).alloc _
  · exact ((((Blk.new _ _ _ (by simp)).alloc _).alloc _).alloc _).alloc _
  · exact (((Blk.new _ _ _ (by simp)).alloc _).alloc _).alloc _
  · exact ((Blk.new _ _ _ (by simp)).alloc _).alloc _
  · exact (Blk.new _ _ _ (by simp)).alloc _
  · exact Blk.new _ _ _ (by simp)
section
variable {w w1 w2 : World} {m n q r : Nat}
theorem div_keep {B : Nat} (h : DivInv w w1 m n q r) (hb : Below B w1 w2) (hB : w.heap.size + 5 < B) : DivInv w w2 m n q r := by
  obtain ⟨h1, h2, h3, h4, h5, h6, h7⟩ := h
  exact ⟨h1.trans (hb.mono (by omega)), h2.below hb (by omega), h3.below hb (by omega), h4.below hb (by omega), h5.below hb (by omega), h6.below hb (by omega), h7.below hb (by omega)⟩
theorem div_lt (h : DivInv w w1 m n q r) : w.heap.size + 5 < w1.heap.size := h.2.2.2.2.2.2.lt
theorem div_restRow {r2 : Nat} (h : DivInv w w1 m n q r) : DivInv w (w1.setRow (w.heap.size + 1 + 1 + 1 + 1 + 1) (row80 r2)) m n q r2 := by
  obtain ⟨h1, h2, h3, h4, h5, h6, h7⟩ := h
  exact ⟨below_setRow h1 (by omega), h2.rowOff (by omega), h3.rowOff (by omega), h4.rowOff (by omega), h5.rowOff (by omega), h6.rowOff (by omega), h7.row⟩
theorem div_restCell {p d : Nat} (h : DivInv w w1 m n q r) (hd : d < 10) : DivInv w (w1.setCell ⟨w.heap.size + 1 + 1 + 1 + 1 + 1, p, none⟩ (.int .u8 (d : Int))) m n q (setDg r p d) := by
  obtain ⟨h1, h2, h3, h4, h5, h6, h7⟩ := h
  exact ⟨h1.setCell (by simp; omega) _, h2.setOff (by omega), h3.setOff (by omega), h4.setOff (by omega), h5.setOff (by omega), h6.setOff (by omega), (h7.set p _).same (row80_set _ _ _ hd)⟩
theorem div_quoCell {p d : Nat} (h : DivInv w w1 m n q r) (hd : d < 10) : DivInv w (w1.setCell ⟨w.heap.size + 1 + 1 + 1 + 1, p, none⟩ (.int .u8 (d : Int))) m n (setDg q p d) r := by
  obtain ⟨h1, h2, h3, h4, h5, h6, h7⟩ := h
  exact ⟨h1.setCell (by simp; omega) _, h2.setOff (by omega), h3.setOff (by omega), h4.setOff (by omega), h5.setOff (by omega), (h6.set p _).same (row80_set _ _ _ hd), h7.setOff (by omega)⟩
theorem div_drew (h : DivInv w w1 m n q r) : DivInv w w1.drew m n q r := ⟨h.1.drew, h.2⟩
theorem div_drewN {k : Nat} (h : DivInv w w1 m n q r) : DivInv w (w1.drewN k) m n q r := ⟨below_drewN' h.1, h.2⟩
end
theorem cmpN_lt {r n : Nat} (h : r < n) : cmpN r n = -1 := by unfold cmpN; rw [if_neg (by omega), if_pos h]
theorem cmpN_ge {r n : Nat} (h : n ≤ r) : 0 ≤ cmpN r n := by
  unfold cmpN
  split
  · omega
  · rw [if_neg (by omega)]; omega
/-- The state when the digits of m from place k on are done: the quotient's digits stand from place k on. -/
def DivAt (w wr : World) (m n k : Nat) : Prop := ∃ q r, DivInv w wr m n (q * 10 ^ k) r ∧ m / 10 ^ k = q * n + r ∧ r < n
/-- The state within place k: c has been counted. -/
def DivIn (w wr : World) (m n k q r0 : Nat) (c r : Nat) : Prop := DivInv w wr m n ((q * 10 + c) * 10 ^ k) r ∧ r + c * n = r0 ∧ c ≤ 9
theorem divIn_digit (q c k : Nat) (hc : c ≤ 9) : dg ((q * 10 + c) * 10 ^ k) k = c := by
  unfold dg
  rw [Nat.mul_div_cancel _ (ten_pos k)]; omega
theorem divIn_set (q c k : Nat) (hc : c + 1 ≤ 9) : setDg ((q * 10 + c) * 10 ^ k) k (c + 1) = (q * 10 + (c + 1)) * 10 ^ k := by
  unfold setDg
  rw [divIn_digit q c k (by omega), ← Nat.add_assoc, Nat.add_mul (q * 10 + c), Nat.one_mul, Nat.add_mul c, Nat.one_mul, Nat.add_mul]
  omega
set_option maxHeartbeats 2000000 in
theorem div_any (m n : Nat) (w : World) (hm : m < 10 ^ 40) (hn : n < 10 ^ 40) (hn0 : 0 < n) :
    Calls Try.prog 72 #[.agg (row80 m), .agg (row80 n)] w fun e w' => e = .returned (.tuple #[.agg (row80 (m / n)), .agg (row80 (m % n))]) ∧ Below w.heap.size w w' := by
  have hs : DivAt w _ m n 40 := ⟨0, 0, by simpa using div_start w m n, by rw [Nat.div_eq_of_lt hm]; simp, hn0⟩
  have HS := Lib.hid hs
  have Hn := Lib.hid hn
  have Hn0 := Lib.hid hn0
  clear hm hn hn0 hs
  go_enter Try.func72, Try.ntmps72
  go_wp2_with fail
  go_loopw [8] (fun i wr => (∃ j : Nat, j < 40 ∧ i = .int .i64 j ∧ DivAt w wr m n (j + 1)) ∨ (i = .int .i64 (-1) ∧ DivAt w wr m n 0)) (fun i _ => (intOf i + 1).toNat)
  case atStart => exact Or.inl ⟨39, by omega, rfl, HS.out⟩
  case round =>
    rcases hrel with ⟨j, hj, rfl, hI⟩ | ⟨rfl, hI⟩
    · obtain ⟨q, r, hI, hq, hr⟩ := hI
      have ha := dg_lt m j
      have hdown := div_down m j
      have HI := Lib.hid hI
      have Hq := Lib.hid hq
      have Hr := Lib.hid hr
      have Hdown := Lib.hid hdown
      clear hI hq hr hdown
      have hR : Blk wr (w.heap.size + 1 + 1 + 1 + 1 + 1) 41 (row80 r) := HI.out.2.2.2.2.2.2
      have HR := Lib.hid hR
      clear hR
      go_wp2_with fail
      go_still_tail 2, (by kernel_rfl)
      refine cp80 rfl _ _ rfl (w.heap.size + 1 + 1 + 1 + 1 + 1) rfl rfl (t := 41) (X := r) HR.out ?_
      have hI1 : DivInv w (World.setRow { wr with drawn := wr.drawn + 1 } (w.heap.size + 1 + 1 + 1 + 1 + 1) (row80 (r * 10 + dg r 0))) m n (q * 10 ^ (j + 1)) (r * 10 + dg r 0) := div_restRow (div_drew HI.out)
      clear HR
      generalize World.setRow { wr with drawn := wr.drawn + 1 } (w.heap.size + 1 + 1 + 1 + 1 + 1) (row80 (r * 10 + dg r 0)) = w1 at hI1 ⊢
      have c2 : w1.cell? ⟨w.heap.size, j, none⟩ = some (.int .u8 (dg m j)) := by rw [hI1.2.1.cell, row80_get _ _ (by omega)]
      have c7 : w1.cell? ⟨w.heap.size + 1 + 1 + 1 + 1 + 1, 0, none⟩ = some (.int .u8 (dg r 0)) := by rw [hI1.2.2.2.2.2.2.cell, row80_get _ _ (by omega), dg_shift_zero _ _ (dg_lt _ _)]
      have f7 : w1.frozen? ⟨w.heap.size + 1 + 1 + 1 + 1 + 1, 0, none⟩ = false := hI1.2.2.2.2.2.2.free _
      have HI1 := Lib.hid hI1
      clear hI1
      go_wp2_with fail
      have hs2 : DivIn w (w1.setCell ⟨w.heap.size + 1 + 1 + 1 + 1 + 1, 0, none⟩ (.int .u8 ((dg m j : Nat) : Int))) m n j q (r * 10 + dg m j) 0 (r * 10 + dg m j) := by
        refine ⟨?_, by omega, by omega⟩
        have h := div_restCell (p := 0) (d := dg m j) HI1.out ha
        rw [setDg_shift, show q * 10 ^ (j + 1) = (q * 10 + 0) * 10 ^ j by rw [Nat.pow_succ']; simp [Nat.mul_assoc]] at h
        exact h
      have hr0 : r * 10 + dg m j < 10 * n := by have := Hr.out; omega
      have HS2 := Lib.hid hs2
      have HR0 := Lib.hid hr0
      clear hs2 hr0 c2 c7 f7
      go_loopg [] 9 (fun g wr => ∃ c r', g + c = 9 ∧ DivIn w wr m n j q (r * 10 + dg m j) c r')
      case atStart => exact ⟨0, _, rfl, HS2.out⟩
      case round =>
        obtain ⟨c, r', hg, hI⟩ := hrel
        clear HS2 HI1 w1 HI
        have c5 : wr.cell? ⟨w.heap.size + 1 + 1 + 1 + 1, j, none⟩ = some (.int .u8 (c : Int)) := by rw [hI.1.2.2.2.2.2.1.cell, row80_get _ _ (by omega), divIn_digit _ _ _ hI.2.2]
        have hc9 := hI.2.2
        have HI := Lib.hid hI
        have Hg := Lib.hid hg
        clear hI hg
        have hlr : r' < 10 ^ 80 := by
          have h1 := HI.out.2.1
          have h2 := HR0.out
          have h3 := Hn.out
          have h4 : (10 : Nat) ^ 41 ≤ 10 ^ 80 := Nat.pow_le_pow_right (by omega) (by omega)
          omega
        have hln : n < 10 ^ 80 := Nat.lt_trans Hn.out (by decide)
        have Hlr := Lib.hid hlr
        have Hln := Lib.hid hln
        clear hlr hln
        by_cases hrn : r' < n
        · have hv := cmpN_lt hrn
          have Hv := Lib.hid hv
          have Hrn := Lib.hid hrn
          clear hv hrn
          go_wp2_with (first | (refine ld80 rfl _ rfl _ 0 rfl (HI.out.1.2.2.2.2.2.2.lies) ?_) | (refine ld80 rfl _ rfl _ 0 rfl (HI.out.1.2.2.1.lies) ?_) | (go_at_call 51; refine (cmp_any r' n _ Hlr.out Hln.out).mono ?_; rintro e w2 ⟨rfl, hb2⟩; rw [Hv.out]; have HI2 := Lib.hid (div_keep HI.out.1 hb2 (div_lt HI.out.1)); clear hb2))
          go_roundw
          case rel =>
            have hat : DivAt w w2 m n j := by
              refine ⟨_, r', HI2.out, ?_, Hrn.out⟩
              have h1 := HI.out.2.1
              rw [Hdown.out, Hq.out, Nat.add_mul, Nat.add_mul]
              have h2 : q * n * 10 = q * 10 * n := by rw [Nat.mul_assoc, Nat.mul_comm n, Nat.mul_assoc]
              omega
            by_cases hj0 : j = 0
            · subst hj0
              exact Or.inr ⟨by go_num, hat⟩
            · obtain ⟨i, rfl⟩ : ∃ i, j = i + 1 := ⟨j - 1, by omega⟩
              exact Or.inl ⟨i, by omega, by go_num, hat⟩
          case measure => simp [intOf]; try omega
        · obtain ⟨cv, hv, hv0⟩ : ∃ cv, cmpN r' n = cv ∧ 0 ≤ cv := ⟨_, rfl, cmpN_ge (by omega)⟩
          have hc8 : c + 1 ≤ 9 := by
            have h1 := HI.out.2.1
            have h2 := HR0.out
            rcases Nat.lt_or_ge 9 (c + 1) with h3 | h3
            · have : 9 * n ≤ c * n := Nat.mul_le_mul_right _ (by omega)
              omega
            · exact h3
          have Hv := Lib.hid hv
          have Hrn := Lib.hid hrn
          clear hv hrn
          go_wp2_with (first | (refine ld80 rfl _ rfl _ 0 rfl (HI.out.1.2.2.2.2.2.2.lies) ?_) | (refine ld80 rfl _ rfl _ 0 rfl (HI.out.1.2.2.1.lies) ?_) | (refine ld80 rfl _ rfl _ 0 rfl (HI2.out.2.2.2.2.2.2.lies) ?_) | (refine ld80 rfl _ rfl _ 0 rfl (HI2.out.2.2.1.lies) ?_) | (go_at_call 51; refine (cmp_any r' n _ Hlr.out Hln.out).mono ?_; rintro e w2 ⟨rfl, hb2⟩; rw [Hv.out]; have HI2 := Lib.hid (div_keep HI.out.1 hb2 (div_lt HI.out.1)); clear hb2) | (go_at_call 74; refine (sub_any r' n _ Hlr.out (by have := Hrn.out; omega)).mono ?_; rintro e w3 ⟨rfl, hb3⟩; have HI3 := Lib.hid (div_keep HI2.out hb3 (div_lt HI2.out)); clear hb3) | (refine st80 rfl _ _ rfl _ rfl rfl (HI3.out.2.2.2.2.2.2) (row80_size _) ?_; have HI4 := Lib.hid (div_restRow (r2 := r' - n) HI3.out); generalize World.setRow w3 _ _ = w4 at HI4 ⊢; have c6 : w4.cell? ⟨w.heap.size + 1 + 1 + 1 + 1, j, none⟩ = some (.int .u8 (c : Int)) := (by rw [HI4.out.2.2.2.2.2.1.cell, row80_get _ _ (by omega), divIn_digit _ _ _ (by omega)]); have f6 : w4.frozen? ⟨w.heap.size + 1 + 1 + 1 + 1, j, none⟩ = false := HI4.out.2.2.2.2.2.1.free _))
          go_roundg (8 - c)
          case measure => have := Hg.out; omega
          case rel =>
            refine ⟨c + 1, r' - n, by omega, ?_, ?_, hc8⟩
            · have h := div_quoCell (p := j) (d := c + 1) HI4.out (by omega)
              rw [divIn_set _ _ _ hc8] at h
              exact h
            · have h1 := HI.out.2.1
              have h2 := Hrn.out
              rw [Nat.add_mul]
              omega
    · obtain ⟨q, r, hI, hq, hr⟩ := hI
      have HI := Lib.hid hI
      have Hq := Lib.hid hq
      have Hr := Lib.hid hr
      clear hI hq hr
      go_wp2_with fail
      have hS : DivInv w wr.drew m n (q * 10 ^ 0) r := div_drew HI.out
      refine wp_region_held_drew (S := fun w' => Blk w' (w.heap.size + 1 + 1 + 1 + 1) 41 (row80 (q * 10 ^ 0)) ∧ Blk w' (w.heap.size + 1 + 1 + 1 + 1 + 1) 41 (row80 r)) (by kernel_rfl) hS.2.2.2.2.2 fun _ => ?_
      refine held_take 0 rfl rfl (by kernel_rfl) (by kernel_rfl) (by kernel_rfl) (fun _ _ _ h => h) (fun w' h => puts_load80 _ rfl _ 0 rfl h.1.lies) hS.2.2.2.2.2 ?_
      refine held_take 1 rfl rfl (by kernel_rfl) (by kernel_rfl) (by kernel_rfl) (fun _ _ _ h => h) (fun w' h => puts_load80 _ rfl _ 0 rfl h.2.lies) hS.2.2.2.2.2 ?_
      refine held_only 2 (by kernel_rfl) rfl rfl (gives_store80 _ _ rfl _ rfl rfl hS.2.2.2.1 (row80_size _)) ⟨hS.2.2.2.2.2.1.rowOff (by omega), hS.2.2.2.2.2.2.rowOff (by omega)⟩ ?_
      refine held_only 3 (by kernel_rfl) rfl rfl (gives_store80 _ _ rfl _ rfl rfl (hS.2.2.2.2.1.rowOff (by omega)) (row80_size _)) ⟨(hS.2.2.2.2.2.1.rowOff (by omega)).rowOff (by omega), (hS.2.2.2.2.2.2.rowOff (by omega)).rowOff (by omega)⟩ ?_
      refine wpAnyH_done (by kernel_rfl) ?_ _
      go_wp2_with fail
      have hm' : m = q * n + r := by have := Hq.out; simpa using this
      have hn' : 0 < n := Hn0.out
      have hr' : r < n := Hr.out
      have hq1 : q * 10 ^ 0 = m / n := by
        rw [hm', Nat.add_comm, Nat.add_mul_div_right _ _ hn', Nat.div_eq_of_lt hr']; simp
      have hq2 : r = m % n := by
        rw [hm', Nat.add_comm, Nat.add_mul_mod_self_right, Nat.mod_eq_of_lt hr']
      refine bodyPost_ret (v := .tuple #[.agg (row80 (m / n)), .agg (row80 (m % n))]) (results_two rfl _ _ rfl rfl (var80 ((hS.2.2.2.1.row.rowOff (by omega)).same (by rw [hq1]))) (var80 ((hS.2.2.2.2.1.rowOff (by omega)).row.same (by rw [← hq2])))) rfl ⟨rfl, ?_⟩
      exact below_setRow (below_setRow hS.1 (by omega)) (by omega)
end Go.Proofs.Ytckmpenlpkhnfab
