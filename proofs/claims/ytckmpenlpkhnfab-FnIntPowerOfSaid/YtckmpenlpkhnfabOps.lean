/- impl's integers as whole numbers: the methods by their numbers; sums, differences, products of texts. -/
import Derived.Test.YtckmpenlpkhnfabRead4
import Derived.Test.YtckmpenlpkhnfabDivBy
import Derived.Test.YtckmpenlpkhnfabText
import Derived.Test.YtckmpenlpkhnfabRoot
namespace Go.Proofs.Ytckmpenlpkhnfab
open Go.RowKit
/-- What a function of texts hands back: the text of a number, if it is not too long. -/
def noV : Value := .tuple #[.string ⟨#[]⟩, .bool false]
def strV (l : List UInt8) : Value := .tuple #[.string ⟨l.toArray⟩, .bool true]
def fmtZ (z : Int) : List UInt8 := fmtI (decide (z < 0)) z.natAbs
def outI (z : Int) : Value := if z.natAbs < 10 ^ 40 then strV (fmtZ z) else noV
theorem sgn_self (z : Int) : sgn (decide (z < 0)) z.natAbs = z := by
  by_cases h : z < 0
  · rw [decide_eq_true h]; simp [sgn]; omega
  · rw [decide_eq_false h]; simp [sgn]; omega
theorem okI_lt {l : List UInt8} : (rz l).natAbs < 10 ^ 40 := by
  unfold rz
  split
  · rename_i h
    unfold numI
    rw [sgn_abs]
    unfold okI bodyOk at h
    simp only [Bool.and_eq_true, decide_eq_true_eq] at h
    exact Nat.lt_of_lt_of_le (valD_lt _ h.2) (Nat.pow_le_pow_right (by omega) h.1.1.2)
  · decide
section
variable {w : World} {x y : Int}
theorem plusI (hx : x.natAbs < 10 ^ 40) (hy : y.natAbs < 10 ^ 40) : Calls Try.prog 50 #[.agg (ival x), .agg (ival y)] w fun e w' => e = .returned (.agg (ival (x + y))) ∧ Below w.heap.size w w' := by
  have h := plus_any x.natAbs y.natAbs (decide (x < 0)) (decide (y < 0)) w hx hy
  rw [sgn_self, sgn_self] at h
  exact h
theorem timesI (hx : x.natAbs < 10 ^ 40) (hy : y.natAbs < 10 ^ 40) : Calls Try.prog 43 #[.agg (ival x), .agg (ival y)] w fun e w' => e = .returned (.agg (ival (x * y))) ∧ Below w.heap.size w w' := by
  have h := times_any x.natAbs y.natAbs (decide (x < 0)) (decide (y < 0)) w hx hy
  rw [sgn_self, sgn_self] at h
  exact h
def qI (x y : Int) : Int := sgn (decide (x < 0) != decide (y < 0)) (dq (decide (x < 0)) (decide (y < 0)) x.natAbs y.natAbs)
def rI (x y : Int) : Int := sgn (decide (y < 0)) (dr (decide (x < 0)) (decide (y < 0)) x.natAbs y.natAbs)
theorem divI (hx : x.natAbs < 10 ^ 40) (hy : y.natAbs < 10 ^ 40) (h0 : y ≠ 0) : Calls Try.prog 48 #[.agg (ival x), .agg (ival y)] w fun e w' => e = .returned (.tuple #[.agg (ival (qI x y)), .agg (ival (rI x y))]) ∧ Below w.heap.size w w' :=
  divBy_any x.natAbs y.natAbs (decide (x < 0)) (decide (y < 0)) w hx hy (by omega)
theorem textI (hx : x.natAbs < 10 ^ 80) : Calls Try.prog 44 #[.agg (ival x)] w fun e w' => e = .returned (outI x) ∧ Below w.heap.size w w' := by
  unfold outI
  by_cases h : x.natAbs < 10 ^ 40
  · rw [if_pos h]; exact text_ok x.natAbs (decide (x < 0)) w h
  · rw [if_neg h]; exact text_long x.natAbs (decide (x < 0)) w hx h
end
theorem ival_abs (_x : Int) : Blk = Blk := rfl
theorem sgn_opp (x : Int) : sgn (!decide (x < 0)) x.natAbs = -x := by
  by_cases h : x < 0
  · rw [decide_eq_true h]; simp [sgn]; omega
  · rw [decide_eq_false h]; simp [sgn]; omega
set_option maxHeartbeats 400000 in
theorem oppI (x : Int) (w : World) (hx : x.natAbs < 10 ^ 80) : Calls Try.prog 62 #[.agg (ival x)] w fun e w' => e = .returned (.agg (ival (-x))) ∧ Below w.heap.size w w' := by
  rw [← sgn_opp]
  unfold ival
  generalize x.natAbs = n at *
  generalize decide (x < 0) = s
  have HX := Lib.hid (show Blk ((w.alloc (Obj.cells (irow n s) 43)).alloc (Obj.cells Try.zeroCells43 43)) w.heap.size 43 (irow n s) from (Blk.new _ _ _ rfl).alloc _)
  have HZ := Lib.hid (show Blk ((w.alloc (Obj.cells (irow n s) 43)).alloc (Obj.cells Try.zeroCells43 43)) (w.heap.size + 1) 43 (irow 0 false) from (Blk.new _ _ _ (by simp)).same zero81)
  have HB := Lib.hid (show Below w.heap.size w ((w.alloc (Obj.cells (irow n s) 43)).alloc (Obj.cells Try.zeroCells43 43)) from ((Below.refl _ _).alloc (Nat.le_refl _) _).alloc (by simp) _)
  have c1 := HX.out.signOf
  have Hn := Lib.hid hx
  clear hx
  cases s
  all_goals
    go_enter Try.func62, Try.ntmps62
    go_wp2_with (first | (refine ld80 rfl (.tmp 3) rfl w.heap.size 0 rfl (n := n) ?_ ?_; exact HX.out.sizeOf) | (go_at_call 57; refine (make_any n _ _ Hn.out).mono ?_; rintro e w2 ⟨rfl, hb2⟩; have HZ2 := Lib.hid (HZ.out.below hb2 HZ.out.lt); have HB2 := Lib.hid (HB.out.trans (hb2.mono HB.out.size)); clear hb2) | (refine stI rfl (.tmp 2) (.tmp 8) rfl (w.heap.size + 1) _ rfl rfl (t := 43) (old := irow 0 false) ?_ ?_ ?_; exact HZ2.out; exact irow_size _ _))
    exact bodyPost_ret (v := .agg (ival _)) (res81 rfl _ _ _ rfl HZ2.out.row) rfl ⟨rfl, below_setRow HB2.out (by omega)⟩
set_option maxHeartbeats 400000 in
theorem zeroI (x : Int) (w : World) (hx : x.natAbs < 10 ^ 80) : Calls Try.prog 47 #[.agg (ival x)] w fun e w' => e = .returned (.bool (decide (x = 0))) ∧ Below w.heap.size w w' := by
  have e : decide (x = 0) = decide (x.natAbs = 0) := by rw [decide_eq_decide]; omega
  rw [e]
  unfold ival
  generalize x.natAbs = n at *
  generalize decide (x < 0) = s
  have HX := Lib.hid (show Blk (w.alloc (Obj.cells (irow n s) 43)) w.heap.size 43 (irow n s) from Blk.new _ _ _ rfl)
  have HB := Lib.hid (show Below w.heap.size w (w.alloc (Obj.cells (irow n s) 43)) from (Below.refl _ _).alloc (Nat.le_refl _) _)
  have Hn := Lib.hid hx
  clear hx e
  generalize hd : decide (n = 0) = d
  have Hd := Lib.hid hd
  clear hd
  go_enter Try.func47, Try.ntmps47
  go_wp2_with (first | (refine ld80 rfl (.tmp 3) rfl w.heap.size 0 rfl (n := n) ?_ ?_; exact HX.out.sizeOf) | (refine bd80 rfl rfl ?_) | (refine eq80 rfl (.tmp 4) (.tmp 5) _ rfl rfl rfl Hn.out (by decide) ?_; rw [Hd.out]))
  go_ret
  exact ⟨rfl, HB.out⟩
/-- Two integers that were read lie in rows of their own. -/
def PairInv (w wr : World) (g : Nat) (x y : Int) : Prop := Below w.heap.size w wr ∧ w.heap.size ≤ g ∧ Blk wr g 43 (ival x) ∧ Blk wr (g + 1) 43 (ival y)
section
variable {w w1 w2 : World} {g : Nat} {x y : Int}
theorem pair_start (hb : Below w.heap.size w w1) : PairInv w ((((w1.alloc (Obj.cells Try.zeroCells43 43)).alloc (Obj.cells Try.zeroCells43 43)).setRow w1.heap.size (ival x)).setRow (w1.heap.size + 1) (ival y)) w1.heap.size x y := by
  have hs := hb.size
  refine ⟨below_setRow (below_setRow ((hb.alloc hs _).alloc (by simp; omega) _) hs) (by omega), hs, ?_, ?_⟩
  · exact (((Blk.new _ _ _ rfl).alloc _).row).rowOff (by omega)
  · exact ((Blk.new _ 43 Try.zeroCells43 (by simp)).rowOff (by omega)).row
theorem pair_lt (h : PairInv w w1 g x y) : g + 1 < w1.heap.size := h.2.2.2.lt
theorem pair_keep {B : Nat} (h : PairInv w w1 g x y) (hb : Below B w1 w2) (hB : g + 1 < B) : PairInv w w2 g x y :=
  ⟨h.1.trans (hb.mono (by have := h.2.1; omega)), h.2.1, h.2.2.1.below hb (by omega), h.2.2.2.below hb (by omega)⟩
theorem pair_drew (h : PairInv w w1 g x y) : PairInv w w1.drew g x y := ⟨h.1.drew, h.2⟩
theorem pair_a (w1 : World) : Blk ((w1.alloc (Obj.cells Try.zeroCells43 43)).alloc (Obj.cells Try.zeroCells43 43)) w1.heap.size 43 Try.zeroCells43 := (Blk.new _ _ _ rfl).alloc _
theorem pair_b (w1 : World) (x : Int) : Blk (((w1.alloc (Obj.cells Try.zeroCells43 43)).alloc (Obj.cells Try.zeroCells43 43)).setRow w1.heap.size (ival x)) (w1.heap.size + 1) 43 Try.zeroCells43 := (Blk.new (w1.alloc _) 43 Try.zeroCells43 (by simp)).rowOff (by omega)
end
end Go.Proofs.Ytckmpenlpkhnfab
