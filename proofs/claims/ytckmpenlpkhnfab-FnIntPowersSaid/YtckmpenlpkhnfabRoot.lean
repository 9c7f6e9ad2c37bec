/- impl.rootDigits: the greatest number whose square is not greater. -/
import Derived.Test.YtckmpenlpkhnfabMul
import Derived.Test.YtckmpenlpkhnfabDiv
namespace Go.Proofs.Ytckmpenlpkhnfab
open Go.RowKit
/-- The square root, rounded down, looked for from k down. -/
def isqrtF (a : Nat) : Nat → Nat
  | 0 => 0
  | k + 1 => if (k + 1) * (k + 1) ≤ a then k + 1 else isqrtF a k
def isqrt (a : Nat) : Nat := isqrtF a a
theorem sq_mono {x y : Nat} (h : x ≤ y) : x * x ≤ y * y := Nat.mul_le_mul h h
theorem isqrtF_eq (a q : Nat) (h1 : q * q ≤ a) (h2 : a < (q + 1) * (q + 1)) : ∀ k, q ≤ k → isqrtF a k = q
  | 0, h => by unfold isqrtF; omega
  | k + 1, h => by
    unfold isqrtF
    by_cases hk : q = k + 1
    · subst hk; rw [if_pos h1]
    · have h3 : (q + 1) * (q + 1) ≤ (k + 1) * (k + 1) := sq_mono (by omega)
      rw [if_neg (by omega)]
      exact isqrtF_eq a q h1 h2 k (by omega)
theorem isqrt_eq (a q : Nat) (h1 : q * q ≤ a) (h2 : a < (q + 1) * (q + 1)) : isqrt a = q := by
  refine isqrtF_eq a q h1 h2 a ?_
  rcases Nat.eq_zero_or_pos q with h | h
  · omega
  · have : q * 1 ≤ q * q := Nat.mul_le_mul_left _ h
    omega
def RootInv (w wr : World) (m r : Nat) : Prop := Below w.heap.size w wr ∧ Blk wr w.heap.size 41 (row80 m) ∧ Blk wr (w.heap.size + 1) 41 (row80 0) ∧ Blk wr (w.heap.size + 1 + 1) 41 (row80 r)
theorem root_start (w : World) (m : Nat) : RootInv w (((w.alloc (Obj.cells (row80 m) 41)).alloc (Obj.cells Try.zeroCells41 41)).alloc (Obj.cells Try.zeroCells41 41)) m 0 := by
  rw [zero80]
  refine ⟨(((Below.refl _ _).alloc (Nat.le_refl _) _).alloc (by simp) _).alloc (by simp; omega) _, ?_, ?_, ?_⟩
  · exact ((Blk.new _ _ _ rfl).alloc _).alloc _
  · exact (Blk.new _ _ _ (by simp)).alloc _
  · exact Blk.new _ _ _ (by simp)
section
variable {w w1 w2 : World} {m r : Nat}
theorem root_lt (h : RootInv w w1 m r) : w.heap.size + 2 < w1.heap.size := h.2.2.2.lt
theorem root_keep {B : Nat} (h : RootInv w w1 m r) (hb : Below B w1 w2) (hB : w.heap.size + 2 < B) : RootInv w w2 m r := by
  obtain ⟨h1, h2, h3, h4⟩ := h
  exact ⟨h1.trans (hb.mono (by omega)), h2.below hb (by omega), h3.below hb (by omega), h4.below hb (by omega)⟩
theorem root_row {r2 : Nat} (h : RootInv w w1 m r) : RootInv w (w1.setRow (w.heap.size + 1 + 1) (row80 r2)) m r2 := by
  obtain ⟨h1, h2, h3, h4⟩ := h
  exact ⟨below_setRow h1 (by omega), h2.rowOff (by omega), h3.rowOff (by omega), h4.row⟩
theorem root_far {r2 : Nat} (h : RootInv w w1 m r) : RootInv w ((w1.alloc (Obj.cells Try.zeroCells41 41)).setRow w1.heap.size (row80 r2)) m r := by
  have hl := root_lt h
  obtain ⟨h1, h2, h3, h4⟩ := h
  exact ⟨below_setRow (h1.alloc (by omega) _) (by omega), (h2.alloc _).rowOff (by omega), (h3.alloc _).rowOff (by omega), (h4.alloc _).rowOff (by omega)⟩
theorem root_cellFar {g i : Nat} {v : Value} (h : RootInv w w1 m r) (hg : w.heap.size + 2 < g) : RootInv w (w1.setCell ⟨g, i, none⟩ v) m r := by
  obtain ⟨h1, h2, h3, h4⟩ := h
  exact ⟨h1.setCell (by simp; omega) _, h2.setOff (by omega), h3.setOff (by omega), h4.setOff (by omega)⟩
end
/-- The state when the digits from place k on are done. -/
def RootAt (w wr : World) (m k : Nat) : Prop := ∃ q, RootInv w wr m (q * 10 ^ k) ∧ (q * 10 ^ k) * (q * 10 ^ k) ≤ m ∧ m < ((q + 1) * 10 ^ k) * ((q + 1) * 10 ^ k)
/-- The state within place k. -/
def RootIn (w wr : World) (m k q c : Nat) : Prop := RootInv w wr m ((q * 10 + c) * 10 ^ k) ∧ ((q * 10 + c) * 10 ^ k) * ((q * 10 + c) * 10 ^ k) ≤ m ∧ c ≤ 9
theorem sq_lt (x : Nat) (a k : Nat) (h : x * x ≤ a) (ha : a < 10 ^ (k + k)) : x < 10 ^ k := by
  rcases Nat.lt_or_ge x (10 ^ k) with h1 | h1
  · exact h1
  · have := sq_mono h1
    rw [← Nat.pow_add] at this
    omega
theorem root_up (q j : Nat) : (q * 10 + 0) * 10 ^ j = q * 10 ^ (j + 1) := by rw [Nat.add_zero, Nat.mul_assoc, ← Nat.pow_succ']
theorem root_next (q c j : Nat) : (q * 10 + (c + 1)) * 10 ^ j = q * 10 ^ (j + 1) + (c + 1) * 10 ^ j := by rw [Nat.add_mul, Nat.mul_assoc, ← Nat.pow_succ']
theorem cmpN_pos {a b : Nat} : decide (0 < cmpN a b) = true → b < a := by
  unfold cmpN; intro h
  split at h
  · simp at h
  · split at h
    · simp at h
    · omega
theorem cmpN_npos {a b : Nat} : decide (0 < cmpN a b) = false → a ≤ b := by
  unfold cmpN; intro h
  split at h
  · omega
  · split at h
    · omega
    · simp at h
set_option maxHeartbeats 800000 in
theorem root_any (m : Nat) (w : World) (hm : m < 10 ^ 40) :
    Calls Try.prog 63 #[.agg (row80 m)] w fun e w' => e = .returned (.agg (row80 (isqrt m))) ∧ Below w.heap.size w w' := by
  have hs : RootAt w _ m 20 := ⟨0, by simpa using root_start w m, by simp, by rw [Nat.zero_add, Nat.one_mul, ← Nat.pow_add]; exact hm⟩
  have HS := Lib.hid hs
  have Hm := Lib.hid hm
  clear hm hs
  go_enter Try.func63, Try.ntmps63
  go_wp2_with fail
  go_loopw [4] (fun i wr => (∃ j : Nat, j < 20 ∧ i = .int .i64 j ∧ RootAt w wr m (j + 1)) ∨ (i = .int .i64 (-1) ∧ RootAt w wr m 0)) (fun i _ => (intOf i + 1).toNat)
  case atStart => exact Or.inl ⟨19, by omega, rfl, HS.out⟩
  case round =>
    rcases hrel with ⟨j, hj, rfl, hI⟩ | ⟨rfl, hI⟩
    · obtain ⟨q, hI, hq1, hq2⟩ := hI
      have hin : RootIn w wr m j q 0 := ⟨by rw [root_up]; exact hI, by rw [root_up]; exact hq1, by omega⟩
      have hqs : q * 10 ^ (j + 1) < 10 ^ 20 := sq_lt _ m 20 hq1 Hm.out
      have hup : m < ((q * 10 + 9 + 1) * 10 ^ j) * ((q * 10 + 9 + 1) * 10 ^ j) := by
        have e : (q * 10 + 9 + 1) * 10 ^ j = (q + 1) * 10 ^ (j + 1) := by rw [Nat.pow_succ', ← Nat.mul_assoc]; congr 1; omega
        rw [e]; exact hq2
      have HIn := Lib.hid hin
      have Hqs := Lib.hid hqs
      have Hup := Lib.hid hup
      clear hI hq1 hq2 hin hqs hup HS
      go_wp2_with fail
      go_loopg [5] 9 (fun g _ wr => ∃ c, g + c = 9 ∧ RootIn w wr m j q c)
      case atStart => exact ⟨0, rfl, HIn.out⟩
      case round =>
        obtain ⟨c, hg, hI⟩ := hrel
        clear HIn
        have c3 : wr.cell? ⟨w.heap.size + 1 + 1, j, none⟩ = some (.int .u8 (c : Int)) := by rw [hI.1.2.2.2.cell, row80_get _ _ (by omega), divIn_digit _ _ _ hI.2.2]
        have hc9 := hI.2.2
        have HI := Lib.hid hI
        have Hg := Lib.hid hg
        clear hI hg
        by_cases h9 : c = 9
        · subst h9
          have hat : RootAt w wr m j := ⟨q * 10 + 9, HI.out.1, HI.out.2.1, Hup.out⟩
          have Hat := Lib.hid hat
          clear hat
          go_wp2_with fail
          go_roundw
          case rel =>
            by_cases hj0 : j = 0
            · subst hj0
              exact Or.inr ⟨by go_num, Hat.out⟩
            · obtain ⟨i, rfl⟩ : ∃ i, j = i + 1 := ⟨j - 1, by omega⟩
              exact Or.inl ⟨i, by omega, by go_num, Hat.out⟩
          case measure => simp [intOf]; try omega
        · have hlt : (c : Int) < 9 := by omega
          have hnb := root_lt HI.out.1
          have hB1 : Blk ((wr.alloc (Obj.cells Try.zeroCells41 41)).setRow wr.heap.size (row80 ((q * 10 + c) * 10 ^ j))) wr.heap.size 41 (row80 ((q * 10 + c) * 10 ^ j)) := (Blk.new wr 41 Try.zeroCells41 rfl).row
          have hI1 := root_far (r2 := (q * 10 + c) * 10 ^ j) HI.out.1
          have c6 : ((wr.alloc (Obj.cells Try.zeroCells41 41)).setRow wr.heap.size (row80 ((q * 10 + c) * 10 ^ j))).cell? ⟨wr.heap.size, j, none⟩ = some (.int .u8 (c : Int)) := by rw [hB1.cell, row80_get _ _ (by omega), divIn_digit _ _ _ (by omega)]
          have f6 : ((wr.alloc (Obj.cells Try.zeroCells41 41)).setRow wr.heap.size (row80 ((q * 10 + c) * 10 ^ j))).frozen? ⟨wr.heap.size, j, none⟩ = false := hB1.free _
          have HB1 := Lib.hid hB1
          have HI1 := Lib.hid hI1
          clear hB1 hI1
          go_wp2_with (first | (refine ld80 rfl _ rfl _ 0 rfl (HI.out.1.2.2.2.lies) ?_) | (refine st80 rfl _ _ rfl _ rfl rfl (Blk.new wr 41 Try.zeroCells41 rfl) (by rw [zero80]; exact row80_size _) ?_))
          have hB2 : Blk ((((wr.alloc (Obj.cells Try.zeroCells41 41)).setRow wr.heap.size (row80 ((q * 10 + c) * 10 ^ j))).setCell ⟨wr.heap.size, j, none⟩ (.int .u8 ((c : Int) + 1)))) wr.heap.size 41 (row80 ((q * 10 + (c + 1)) * 10 ^ j)) := by
            have h := HB1.out.set j (.int .u8 ((c + 1 : Nat) : Int))
            rw [row80_set _ _ _ (by omega), divIn_set _ _ _ (by omega)] at h
            exact h
          have hI2 : RootInv w ((((wr.alloc (Obj.cells Try.zeroCells41 41)).setRow wr.heap.size (row80 ((q * 10 + c) * 10 ^ j))).setCell ⟨wr.heap.size, j, none⟩ (.int .u8 ((c : Int) + 1)))) m ((q * 10 + c) * 10 ^ j) := root_cellFar HI1.out hnb
          generalize hw2 : (((wr.alloc (Obj.cells Try.zeroCells41 41)).setRow wr.heap.size (row80 ((q * 10 + c) * 10 ^ j))).setCell ⟨wr.heap.size, j, none⟩ (.int .u8 ((c : Int) + 1))) = w2 at hB2 hI2 ⊢
          clear hw2 c6 f6 HB1 HI1 c3
          have hx40 : (q * 10 + (c + 1)) * 10 ^ j < 10 ^ 40 := by
            have h1 := Hqs.out
            have h2 : (q * 10 + (c + 1)) * 10 ^ j = q * 10 ^ (j + 1) + (c + 1) * 10 ^ j := root_next q c j
            have h3 : (c + 1) * 10 ^ j ≤ 9 * 10 ^ j := Nat.mul_le_mul_right _ (by omega)
            have h4 : (10 : Nat) ^ j ≤ 10 ^ 20 := Nat.pow_le_pow_right (by omega) (by omega)
            omega
          have hIn : ((q * 10 + (c + 1)) * 10 ^ j) * ((q * 10 + (c + 1)) * 10 ^ j) ≤ m → ∀ w3, RootInv w w3 m ((q * 10 + (c + 1)) * 10 ^ j) → RootIn w w3 m j q (c + 1) := fun h w3 h3 => ⟨h3, h, by omega⟩
          have hBr : m < ((q * 10 + (c + 1)) * 10 ^ j) * ((q * 10 + (c + 1)) * 10 ^ j) → ∀ w3, RootInv w w3 m ((q * 10 + c) * 10 ^ j) → RootAt w w3 m j := fun h w3 h3 => ⟨q * 10 + c, h3, HI.out.2.1, h⟩
          generalize (q * 10 + (c + 1)) * 10 ^ j = x at hB2 hx40 hIn hBr
          have hxx : x * x < 10 ^ 80 := by
            have := Nat.mul_lt_mul'' hx40 hx40
            rw [← Nat.pow_add] at this
            exact this
          have hm80 : m < 10 ^ 80 := Nat.lt_trans Hm.out (by decide)
          obtain ⟨bb, hbb⟩ : ∃ bb, decide (0 < cmpN (x * x) m) = bb := ⟨_, rfl⟩
          have hS : Blk w2.drew wr.heap.size 41 (row80 x) ∧ RootInv w w2.drew m ((q * 10 + c) * 10 ^ j) := ⟨hB2.drew, hI2.1.drew, hI2.2⟩
          clear hB2 hI2
          refine wp_region_held_drew (S := fun w' => Blk w' wr.heap.size 41 (row80 x) ∧ RootInv w w' m ((q * 10 + c) * 10 ^ j)) (by kernel_rfl) hS fun _ => ?_
          refine held_take 0 rfl rfl (by kernel_rfl) (by kernel_rfl) (by kernel_rfl) (fun _ _ _ h => h) (fun w' h => puts_load80 _ rfl _ 0 rfl h.1.lies) hS ?_
          refine held_take 1 rfl rfl (by kernel_rfl) (by kernel_rfl) (by kernel_rfl) (fun _ _ _ h => h) (fun w' h => puts_load80 _ rfl _ 0 rfl h.1.lies) hS ?_
          refine held_take 3 rfl rfl (by kernel_rfl) (by kernel_rfl) (by kernel_rfl) (fun _ _ _ h => h) (fun w' h => puts_load80 _ rfl _ 0 rfl h.2.2.1.lies) hS ?_
          refine held_call 2 (by kernel_rfl) rfl rfl (puts_call2 70 _ _ _ (.agg (row80 x)) (.agg (row80 x)) rfl rfl rfl (by kernel_rfl)) (mul_any x x _ hx40 hx40) ?_
          rintro e w3 ⟨rfl, hb3⟩
          have hS3 : Blk w3 wr.heap.size 41 (row80 x) ∧ RootInv w w3 m ((q * 10 + c) * 10 ^ j) := ⟨hS.1.below hb3 hS.1.lt, root_keep hS.2 hb3 (root_lt hS.2)⟩
          refine ⟨_, rfl, hS3, ?_⟩
          refine held_call 4 (by kernel_rfl) rfl rfl (puts_call2 51 _ _ _ (.agg (row80 (x * x))) (.agg (row80 m)) rfl rfl rfl (by kernel_rfl)) (cmp_any (x * x) m _ hxx hm80) ?_
          rintro e w4 ⟨rfl, hb4⟩
          have hS4 : Blk w4 wr.heap.size 41 (row80 x) ∧ RootInv w w4 m ((q * 10 + c) * 10 ^ j) := ⟨hS3.1.below hb4 hS3.1.lt, root_keep hS3.2 hb4 (root_lt hS3.2)⟩
          refine ⟨_, rfl, hS4, ?_⟩
          refine held_take 5 (v := .bool bb) rfl rfl (by kernel_rfl) (by kernel_rfl) (by kernel_rfl) (fun _ _ _ h => h) (fun w' _ => puts_gtr _ _ _ _ .i64 _ _ bb rfl rfl rfl hbb) hS4 ?_
          refine wpAnyH_done (by kernel_rfl) ?_ _
          simp only [Act.put, List.setIfInBounds_toArray, List.set_cons_succ, List.set_cons_zero]
          have HS4 := Lib.hid hS4
          have HX := Lib.hid hxx
          cases bb with
          | true =>
            have hat := hBr (cmpN_pos hbb) w4 hS4.2
            have Hat := Lib.hid hat
            clear hS4 hS3 hS hbb hat hIn hBr hxx hm80 hx40 hb3 hb4
            go_wp2_with fail
            go_roundw
            case rel =>
              by_cases hj0 : j = 0
              · subst hj0
                exact Or.inr ⟨by go_num, Hat.out⟩
              · obtain ⟨i, rfl⟩ : ∃ i, j = i + 1 := ⟨j - 1, by omega⟩
                exact Or.inl ⟨i, by omega, by go_num, Hat.out⟩
            case measure => simp [intOf]; try omega
          | false =>
            have hin := hIn (cmpN_npos hbb) _ (root_row (r2 := x) hS4.2)
            have Hin := Lib.hid hin
            clear hS4 hS3 hS hbb hin hIn hBr hxx hm80 hx40 hb3 hb4
            go_wp2_with (first | (refine ld80 rfl _ rfl _ 0 rfl (HS4.out.1.lies) ?_) | (refine st80 rfl _ _ rfl _ rfl rfl (HS4.out.2.2.2.2) (row80_size _) ?_))
            go_roundg (8 - c)
            case measure => have := Hg.out; omega
            case rel => exact ⟨c + 1, by omega, Hin.out⟩
    · obtain ⟨q, hI, hq1, hq2⟩ := hI
      have hv : isqrt m = q * 10 ^ 0 := isqrt_eq m _ hq1 (by simpa using hq2)
      have HI := Lib.hid hI
      have Hv := Lib.hid hv
      clear hI hq1 hq2 hv HS
      go_wp2_with (first | (refine ld80 rfl _ rfl _ 0 rfl (HI.out.2.2.2.lies) ?_) | (refine st80 rfl _ _ rfl _ rfl rfl (HI.out.2.2.1) (row80_size _) ?_))
      refine bodyPost_ret (v := .agg (row80 (isqrt m))) ?_ rfl ⟨rfl, ?_⟩
      · exact res80 rfl _ _ _ rfl (HI.out.2.2.1.row.same (by rw [Hv.out]))
      · exact below_setRow HI.out.1 (by omega)
end Go.Proofs.Ytckmpenlpkhnfab
