/- What a slice selects: bounds. -/
import Derived.Test.YtbcphejblopekaaCutA
namespace Go.Proofs.Ytbcphejblopekaa
open Go.RowKit
/-- A bound, counted from the end if it is negative, between two others. -/
def clampZ (i n lo hi : Int) : Int := max lo (min hi (if i < 0 then i + n else i))
/-- How many steps there are from one place to another. -/
def cntZ (a b s : Int) : Int := if 0 < s then (if a < b then (b - a - 1) / s + 1 else 0) else (if b < a then (a - b - 1) / (-s) + 1 else 0)
set_option maxHeartbeats 1000000 in
theorem clamped_any (i n lo hi : Int) (w : World) (h1 : -1000000 ≤ i) (h2 : i ≤ 1000000) (h3 : 0 ≤ n) (h4 : n ≤ 1000000) :
    Calls Try.prog 61 #[.int .i64 i, .int .i64 n, .int .i64 lo, .int .i64 hi] w fun e w' => e = .returned (.int .i64 (clampZ i n lo hi)) ∧ w = w' := by
  by_cases hneg : i < 0
  · go_enter Try.func61, Try.ntmps61
    go_wp2
    all_goals go_ret
    all_goals refine ⟨?_, rfl⟩
    all_goals show Ending.returned (Value.int .i64 _) = _
    all_goals congr 2
    all_goals unfold clampZ
    all_goals omega
  · have hneg' : 0 ≤ i := by omega
    clear hneg
    go_enter Try.func61, Try.ntmps61
    go_wp2
    all_goals go_ret
    all_goals refine ⟨?_, rfl⟩
    all_goals show Ending.returned (Value.int .i64 _) = _
    all_goals congr 2
    all_goals unfold clampZ
    all_goals omega
set_option maxHeartbeats 1000000 in
theorem limit_any (i n lo hi : Int) (w : World) (h1 : -1000000 ≤ i) (h2 : i ≤ 1000000) (h3 : 0 ≤ n) (h4 : n ≤ 1000000) (h5 : lo ≤ hi) :
    Calls Try.prog 59 #[.int .i64 i, .int .i64 n, .int .i64 lo, .int .i64 hi] w fun e w' => e = .returned (.int .i64 (clampZ i n lo hi)) ∧ w = w' := by
  by_cases hneg : i < 0
  · go_enter Try.func59, Try.ntmps59
    go_wp2
    all_goals go_ret
    all_goals refine ⟨?_, rfl⟩
    all_goals show Ending.returned (Value.int .i64 _) = _
    all_goals congr 2
    all_goals unfold clampZ
    all_goals omega
  · have hneg' : 0 ≤ i := by omega
    clear hneg
    go_enter Try.func59, Try.ntmps59
    go_wp2
    all_goals go_ret
    all_goals refine ⟨?_, rfl⟩
    all_goals show Ending.returned (Value.int .i64 _) = _
    all_goals congr 2
    all_goals unfold clampZ
    all_goals omega
theorem clampZ_in {i n lo hi : Int} (h : lo ≤ hi) : lo ≤ clampZ i n lo hi ∧ clampZ i n lo hi ≤ hi := by unfold clampZ; omega
theorem cnt_quot {x s : Int} (hs : 0 < s) (_hx : 0 < x) : (x + s - 1) / s = (x - 1) / s + 1 := by
  rw [show x + s - 1 = x - 1 + 1 * s by omega, Int.add_mul_ediv_right _ _ (by omega)]
theorem cnt_none {s : Int} (hs : 0 < s) : (0 + s - 1) / s = 0 := Int.ediv_eq_zero_of_lt (by omega) (by omega)
set_option maxHeartbeats 1000000 in
theorem count_any (a b s : Int) (w : World) (ha : -1000000 ≤ a) (ha2 : a ≤ 1000000) (hb : -1000000 ≤ b) (hb2 : b ≤ 1000000) (hs : -1000000 ≤ s) (hs2 : s ≤ 1000000) (h0 : s ≠ 0) :
    Calls Try.prog 60 #[.int .i64 a, .int .i64 b, .int .i64 s] w fun e w' => e = .returned (.int .i64 (cntZ a b s)) ∧ w = w' := by
  by_cases hneg : s < 0
  · obtain ⟨u, rfl⟩ : ∃ u, s = -u := ⟨-s, by omega⟩
    have hu : 0 < u := by omega
    have hpos : ¬ 0 < -u := by omega
    have e : - -u = u := by omega
    by_cases hab : b < a
    · skip
      have HE := Lib.hid (show cntZ a b (-u) = (-(b - a) + u - 1) / u by unfold cntZ; rw [if_neg hpos, if_pos hab, cnt_quot (by omega) (by omega), e]; congr 2; omega)
      have hw : 0 < -(b - a) := by omega
      rw [HE.out]
      clear hpos e
      go_enter Try.func60, Try.ntmps60
      go_wp2
      all_goals go_ret
      all_goals refine ⟨?_, rfl⟩
      all_goals show Ending.returned (Value.int .i64 _) = _
      all_goals congr 2
      all_goals first | rfl | (congr 1; omega)
    · skip
      have HE := Lib.hid (show cntZ a b (-u) = (0 + u - 1) / u by unfold cntZ; rw [if_neg hpos, if_neg hab, cnt_none (by omega)])
      have hw : -(b - a) ≤ 0 := by omega
      rw [HE.out]
      clear hpos hab e
      go_enter Try.func60, Try.ntmps60
      go_wp2
      all_goals go_ret
      all_goals refine ⟨?_, rfl⟩
      all_goals show Ending.returned (Value.int .i64 _) = _
      all_goals congr 2
      all_goals first | rfl | (congr 1; omega)
  · have hpos : 0 < s := by omega
    have hneg' : 0 ≤ s := by omega
    by_cases hab : a < b
    · skip
      have HE := Lib.hid (show cntZ a b s = (b - a + s - 1) / s by unfold cntZ; rw [if_pos hpos, if_pos hab, cnt_quot (by omega) (by omega)])
      have hw : 0 < b - a := by omega
      rw [HE.out]
      clear hneg
      go_enter Try.func60, Try.ntmps60
      go_wp2
      all_goals go_ret
      all_goals refine ⟨?_, rfl⟩
      all_goals show Ending.returned (Value.int .i64 _) = _
      all_goals congr 2
      all_goals first | rfl | (congr 1; omega)
    · skip
      have HE := Lib.hid (show cntZ a b s = (0 + s - 1) / s by unfold cntZ; rw [if_pos hpos, if_neg hab, cnt_none (by omega)])
      have hw : b - a ≤ 0 := by omega
      rw [HE.out]
      clear hneg hab
      go_enter Try.func60, Try.ntmps60
      go_wp2
      all_goals go_ret
      all_goals refine ⟨?_, rfl⟩
      all_goals show Ending.returned (Value.int .i64 _) = _
      all_goals congr 2
      all_goals first | rfl | (congr 1; omega)
end Go.Proofs.Ytbcphejblopekaa
