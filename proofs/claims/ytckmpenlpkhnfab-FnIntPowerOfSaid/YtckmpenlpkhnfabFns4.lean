/- impl.IntRoot. -/
import Derived.Test.YtckmpenlpkhnfabFns3
namespace Go.Proofs.Ytckmpenlpkhnfab
open Go.RowKit
/-- One integer that was read lies in a row of its own. -/
def OneInv (w wr : World) (g : Nat) (x : Int) : Prop := Below w.heap.size w wr ∧ w.heap.size ≤ g ∧ Blk wr g 43 (ival x)
section
variable {w w1 w2 : World} {g : Nat} {x : Int}
theorem one_start (hb : Below w.heap.size w w1) : OneInv w ((w1.alloc (Obj.cells Try.zeroCells43 43)).setRow w1.heap.size (ival x)) w1.heap.size x := ⟨new81_below x hb hb.size, hb.size, new81 w1 x⟩
theorem one_lt (h : OneInv w w1 g x) : g < w1.heap.size := h.2.2.lt
theorem one_keep {B : Nat} (h : OneInv w w1 g x) (hb : Below B w1 w2) (hB : g < B) : OneInv w w2 g x := ⟨h.1.trans (hb.mono (by have := h.2.1; omega)), h.2.1, h.2.2.below hb hB⟩
end
theorem read_hid (s : ByteArray) : ∀ w, Hid (Calls Try.prog 56 #[.string s] w fun e w' => e = .returned (.tuple #[.agg (ival (rz s.data.toList)), .bool (okI s.data.toList)]) ∧ Below w.heap.size w w') := fun w => Lib.hid (read_rz s w)
def rootV (a : List UInt8) : Value := if okI a then (if rz a < 0 then noV else outI (isqrt (rz a).natAbs)) else noV
theorem isqrt_spec (a : Nat) : isqrt a * isqrt a ≤ a ∧ a < (isqrt a + 1) * (isqrt a + 1) := by
  have key : ∀ k, a < (k + 1) * (k + 1) → isqrtF a k * isqrtF a k ≤ a ∧ a < (isqrtF a k + 1) * (isqrtF a k + 1) := by
    intro k
    induction k with
    | zero => intro h; unfold isqrtF; simp at h ⊢; omega
    | succ k ih =>
      intro h
      unfold isqrtF
      by_cases hk : (k + 1) * (k + 1) ≤ a
      · rw [if_pos hk]; exact ⟨hk, h⟩
      · rw [if_neg hk]; exact ih (by omega)
  refine key a ?_
  have : (a + 1) * 1 ≤ (a + 1) * (a + 1) := Nat.mul_le_mul_left _ (by omega)
  omega
theorem isqrt_le (a : Nat) : isqrt a ≤ a := by
  have h := (isqrt_spec a).1
  rcases Nat.eq_zero_or_pos (isqrt a) with h0 | h0
  · omega
  · have : isqrt a * 1 ≤ isqrt a * isqrt a := Nat.mul_le_mul_left _ h0
    omega
set_option maxHeartbeats 1000000 in
theorem intRoot_any (s : ByteArray) (w : World) : Calls Try.prog 33 #[.string s] w fun e w' => e = .returned (rootV s.data.toList) ∧ Below w.heap.size w w' := by
  have HR := Lib.hid (read_hid s)
  have HX := Lib.hid (okI_lt (l := s.data.toList))
  unfold rootV
  generalize okI s.data.toList = ok at HR ⊢
  generalize rz s.data.toList = x at HR HX ⊢
  cases ok with
  | false =>
    go_enter Try.func33, Try.ntmps33
    go_wp2_with fail
    refine (HR.out _).out.mono ?_
    rintro e w1 ⟨rfl, hb1⟩
    have HI := Lib.hid (one_start (x := x) hb1)
    have HA := Lib.hid (Blk.new w1 43 Try.zeroCells43 rfl)
    clear hb1
    go_wp2_with (first | (refine ext rfl (.tmp 6) 0 [.agg (ival x), .bool false] (.agg (ival x)) rfl rfl rfl ?_) | (refine ext rfl (.tmp 6) 1 [.agg (ival x), .bool false] (.bool false) rfl rfl rfl ?_) | (refine stI rfl (.tmp 4) (.tmp 9) rfl w1.heap.size _ rfl rfl (t := 43) (old := Try.zeroCells43) ?_ ?_ ?_; exact HA.out; exact zero81_size; generalize (w1.alloc (Obj.cells Try.zeroCells43 43)).setRow w1.heap.size (ival x) = w2 at HI ⊢))
    go_ret2
    exact ⟨rfl, HI.out.1⟩
  | true =>
    simp only [if_true]
    by_cases hx : x < 0
    · rw [if_pos hx]
      have Hsx := Lib.hid (ival_form x true (by rw [decide_eq_true hx]))
      clear hx
      go_enter Try.func33, Try.ntmps33
      go_wp2_with fail
      refine (HR.out _).out.mono ?_
      rintro e w1 ⟨rfl, hb1⟩
      have HI := Lib.hid (one_start (x := x) hb1)
      have HA := Lib.hid (Blk.new w1 43 Try.zeroCells43 rfl)
      clear hb1
      go_wp2_with (first | (refine ext rfl (.tmp 6) 0 [.agg (ival x), .bool true] (.agg (ival x)) rfl rfl rfl ?_) | (refine ext rfl (.tmp 6) 1 [.agg (ival x), .bool true] (.bool true) rfl rfl rfl ?_) | (refine stI rfl (.tmp 4) (.tmp 9) rfl w1.heap.size _ rfl rfl (t := 43) (old := Try.zeroCells43) ?_ ?_ ?_; exact HA.out; exact zero81_size; generalize (w1.alloc (Obj.cells Try.zeroCells43 43)).setRow w1.heap.size (ival x) = w2 at HI ⊢; have c1 := (HI.out.2.2.same Hsx.out).signOf))
      go_ret2
      exact ⟨rfl, HI.out.1⟩
    · rw [if_neg hx]
      have Hsx := Lib.hid (ival_form x false (by rw [decide_eq_false hx]))
      obtain ⟨l, b, hl⟩ := outI_form (isqrt x.natAbs)
      have hq : isqrt x.natAbs < 10 ^ 80 := Nat.lt_of_le_of_lt (isqrt_le _) (cmp_lt80 HX.out)
      have HQ := Lib.hid (fun w => root_any x.natAbs w HX.out)
      have HM := Lib.hid (fun w => make_any (isqrt x.natAbs) false w hq)
      have HT := Lib.hid (fun w => textI (w := w) (x := (isqrt x.natAbs : Int)) (by rw [Int.natAbs_natCast]; exact hq))
      rw [hl] at HT
      rw [hl]
      clear hx hl hq
      generalize isqrt x.natAbs = q at HQ HM HT
      go_enter Try.func33, Try.ntmps33
      go_wp2_with fail
      refine (HR.out _).out.mono ?_
      rintro e w1 ⟨rfl, hb1⟩
      have HI := Lib.hid (one_start (x := x) hb1)
      have HA := Lib.hid (Blk.new w1 43 Try.zeroCells43 rfl)
      clear hb1
      go_wp2_with (first | (refine ext rfl (.tmp 6) 0 [.agg (ival x), .bool true] (.agg (ival x)) rfl rfl rfl ?_) | (refine ext rfl (.tmp 6) 1 [.agg (ival x), .bool true] (.bool true) rfl rfl rfl ?_) | (refine stI rfl (.tmp 4) (.tmp 9) rfl w1.heap.size _ rfl rfl (t := 43) (old := Try.zeroCells43) ?_ ?_ ?_; exact HA.out; exact zero81_size; generalize (w1.alloc (Obj.cells Try.zeroCells43 43)).setRow w1.heap.size (ival x) = w2 at HI ⊢; have c1 := (HI.out.2.2.same Hsx.out).signOf) | (refine ld80 rfl (.tmp 17) rfl w1.heap.size 0 rfl (n := x.natAbs) ?_ ?_; exact (HI.out.2.2.same Hsx.out).sizeOf) | (go_at_call 63; refine (HQ.out _).mono ?_; rintro e w3 ⟨rfl, hb3⟩; have HI3 := Lib.hid (one_keep HI.out hb3 (one_lt HI.out)); clear hb3) | (go_at_call 57; refine (HM.out _).mono ?_; rintro e w4 ⟨rfl, hb4⟩; have HI4 := Lib.hid (one_keep HI3.out hb4 (one_lt HI3.out)); clear hb4) | (go_at_call 44; refine (HT.out _).mono ?_; rintro e w5 ⟨rfl, hb5⟩; have HI5 := Lib.hid (one_keep HI4.out hb5 (one_lt HI4.out)); clear hb5) | (refine ext rfl (.tmp 21) 0 [.string ⟨l⟩, .bool b] (.string ⟨l⟩) rfl rfl rfl ?_) | (refine ext rfl (.tmp 21) 1 [.string ⟨l⟩, .bool b] (.bool b) rfl rfl rfl ?_))
      go_ret2
      exact ⟨rfl, HI5.out.1⟩
end Go.Proofs.Ytckmpenlpkhnfab
