/- Rooms of lists: the model's, the program's. -/
import Derived.Test.YtbcphejblopekaaLpure
namespace Go.Proofs.Ytbcphejblopekaa
open Go.RowKit
def roomA (n : Int) : Int := if 0 ≤ n ∧ n ≤ 1000000 then roomZ n else -1
theorem roomFor_any (n : Int) (w : World) (h0 : 0 ≤ n) (h1 : n ≤ 1000000) : Calls Try.prog 41 #[.int .i64 n] w fun e w' => e = .returned (.int .i64 (roomZ n)) ∧ w = w' := by
  by_cases h : n = 0
  · subst h
    go_enter Try.func41, Try.ntmps41
    go_wp2
    go_ret
    exact ⟨rfl, rfl⟩
  · have HE := Lib.hid (show roomZ n = (n + n / 8 + 6) / 4 * 4 by unfold roomZ; rw [if_neg h])
    rw [HE.out]
    go_enter Try.func41, Try.ntmps41
    go_wp2
    go_ret
    exact ⟨rfl, rfl⟩
theorem specRoom_any (n : Int) (w : World) : Calls Try.prog 15 #[.int .i64 n] w fun e w' => e = .returned (.int .i64 (roomA n)) ∧ w = w' := by
  by_cases h : 0 ≤ n ∧ n ≤ 1000000
  · have HE := Lib.hid (show roomA n = roomZ n by unfold roomA; rw [if_pos h])
    rw [HE.out]
    have HI := Lib.hid (show (decide ((0:Int) ≤ n) && decide (n ≤ 1000000)) = true by simp [h])
    have HF := Lib.hid (fun w => roomFor_any n w h.1 h.2)
    clear h
    go_enter Try.func15, Try.ntmps15
    go_wp2_with (first | (go_at_call 40; refine (inRange_any _ _ _ _).mono ?_; rintro e w' ⟨rfl, rfl⟩; rw [HI.out]) | (go_at_call 41; refine (HF.out _).mono ?_; rintro e w' ⟨rfl, rfl⟩))
    go_ret
    exact ⟨rfl, rfl⟩
  · have HE := Lib.hid (show roomA n = -1 by unfold roomA; rw [if_neg h])
    rw [HE.out]
    have HI := Lib.hid (show (decide ((0:Int) ≤ n) && decide (n ≤ 1000000)) = false by simp; omega)
    clear h
    go_enter Try.func15, Try.ntmps15
    go_wp2_with (first | (go_at_call 40; refine (inRange_any _ _ _ _).mono ?_; rintro e w' ⟨rfl, rfl⟩; rw [HI.out]))
    go_ret
    exact ⟨rfl, rfl⟩
theorem implRoom_any (n : Int) (w : World) : Calls Try.prog 16 #[.int .i64 n] w fun e w' => e = .returned (.int .i64 (roomA n)) ∧ w = w' := by
  by_cases h0 : n < 0
  · have HE := Lib.hid (show roomA n = -1 by unfold roomA; rw [if_neg (by omega)])
    rw [HE.out]
    go_enter Try.func16, Try.ntmps16
    go_wp2
    go_ret
    exact ⟨rfl, rfl⟩
  · by_cases h1 : 1000000 < n
    · have HE := Lib.hid (show roomA n = -1 by unfold roomA; rw [if_neg (by omega)])
      rw [HE.out]
      go_enter Try.func16, Try.ntmps16
      go_wp2
      go_ret
      exact ⟨rfl, rfl⟩
    · by_cases h2 : n = 0
      · subst h2
        go_enter Try.func16, Try.ntmps16
        go_wp2
        go_ret
        exact ⟨rfl, rfl⟩
      · have HE := Lib.hid (show roomA n = (n + n / 8 + 6) / 4 * 4 by unfold roomA roomZ; rw [if_pos (by omega), if_neg h2])
        rw [HE.out]
        go_enter Try.func16, Try.ntmps16
        go_wp2
        go_ret
        exact ⟨rfl, rfl⟩
theorem fnExactListRoom_walk (n : Int) (w : World) (_wn : (Lit.int .i64 n).wf = true) : Calls Try.prog 3 #[.int .i64 n] w fun e w' => e = .returned (.bool true) ∧ Below w.heap.size w w' := by
  go_enter Try.func3, Try.ntmps3
  go_wp2_with fail
  refine (specRoom_any _ _).mono ?_
  rintro e w' ⟨rfl, rfl⟩
  go_wp2_with fail
  refine (implRoom_any _ _).mono ?_
  rintro e w' ⟨rfl, rfl⟩
  go_wp2_with fail
  go_ret
  exact ⟨rfl, Below.refl _ _⟩
/-- Halved until it is less than 8. -/
def leastN (n r : Nat) : Nat := if n < 8 then n + r else leastN (n / 2) (max r (n % 2))
termination_by n
decreasing_by omega
theorem leastN_lt {n r : Nat} (h : n < 8) : leastN n r = n + r := by rw [leastN]; rw [if_pos h]
theorem leastN_ge {n r : Nat} (h : ¬ n < 8) : leastN n r = leastN (n / 2) (max r (n % 2)) := by rw [leastN]; rw [if_neg h]
theorem leastN_in (n : Nat) : ∀ r, r ≤ 1 → 4 ≤ n → 4 ≤ leastN n r ∧ leastN n r ≤ 8 := by
  induction n using Nat.strongRecOn with
  | ind n ih =>
    intro r hr hn
    by_cases h : n < 8
    · rw [leastN_lt h]; omega
    · rw [leastN_ge h]
      exact ih (n / 2) (by omega) _ (by omega) (by omega)
def leastA (n : Int) : Int := if 0 ≤ n ∧ n ≤ 1000000 then (leastN n.toNat 0 : Int) else -1
set_option maxHeartbeats 1000000 in
theorem leastRun_any (n : Nat) (w : World) (h1 : n ≤ 1000000) : Calls Try.prog 51 #[.int .i64 (n : Int)] w fun e w' => e = .returned (.int .i64 (leastN n 0 : Int)) ∧ w = w' := by
  go_enter Try.func51, Try.ntmps51
  go_wp2_with fail
  go_loop [0, 3] (fun v x => ∃ m r : Nat, m ≤ 1000000 ∧ r ≤ 1 ∧ v = .int .i64 (m : Int) ∧ x = .int .i64 (r : Int) ∧ Hid (leastN m r = leastN n 0)) (fun v _ => (intOf v).toNat)
  case atStart => exact ⟨n, 0, h1, by omega, rfl, rfl, Lib.hid rfl⟩
  case round =>
    obtain ⟨m, r, hm, hr, rfl, rfl, HK⟩ := hrel
    by_cases hlt : m < 8
    · have HF := Lib.hid (show leastN n 0 = m + r by rw [← HK.out, leastN_lt hlt])
      have k1 : (m : Int) < 8 := by omega
      clear hlt
      go_wp2_with fail
      go_ret
      exact ⟨by rw [HF.out]; simp, rfl⟩
    · have HF := Lib.hid (leastN_ge (r := r) hlt)
      have k1 : 8 ≤ (m : Int) := by omega
      obtain ⟨q, b, rfl, hb⟩ : ∃ q b, m = 2 * q + b ∧ b ≤ 1 := ⟨m / 2, m % 2, by omega, by omega⟩
      have e1 : (2 * q + b) / 2 = q := by omega
      have e2 : (2 * q + b) % 2 = b := by omega
      have HG := Lib.hid (show leastN q (max r b) = leastN n 0 by rw [← HK.out, HF.out, e1, e2])
      have d1 : ((2 * q + b : Nat) : Int).tmod 2 = (b : Int) := by rw [Int.tmod_eq_emod_of_nonneg (by omega)]; omega
      have d2 : ((2 * q + b : Nat) : Int).tdiv 2 = (q : Int) := by rw [Int.tdiv_eq_ediv_of_nonneg (by omega)]; omega
      have d3 : bits .or .i64 (r : Int) (b : Int) = ((max r b : Nat) : Int) := by
        rcases (by omega : r = 0 ∨ r = 1) with rfl | rfl <;> rcases (by omega : b = 0 ∨ b = 1) with rfl | rfl <;> rfl
      have d4 : bits .or .i64 (r : Int) ((b : Int) % 2) = ((max r b : Nat) : Int) := by
        rw [← d3]; congr 1; omega
      clear hlt HF e1 e2
      go_wp2_with fail
      go_round
      case rel => exact ⟨q, max r b, by omega, by omega, by go_num, by go_num, HG⟩
      case measure => simp [intOf]; try omega
set_option maxHeartbeats 1000000 in
theorem implLeast_ok (n : Nat) (w : World) (h1 : n ≤ 1000000) : Calls Try.prog 31 #[.int .i64 (n : Int)] w fun e w' => e = .returned (.int .i64 (leastN n 0 : Int)) ∧ w = w' := by
  go_enter Try.func31, Try.ntmps31
  go_wp2_with fail
  go_loop [0, 3] (fun v x => ∃ m r : Nat, m ≤ 1000000 ∧ r ≤ 1 ∧ v = .int .i64 (m : Int) ∧ x = .int .i64 (r : Int) ∧ Hid (leastN m r = leastN n 0)) (fun v _ => (intOf v).toNat)
  case atStart => exact ⟨n, 0, h1, by omega, rfl, rfl, Lib.hid rfl⟩
  case round =>
    obtain ⟨m, r, hm, hr, rfl, rfl, HK⟩ := hrel
    by_cases hlt : m < 8
    · have HF := Lib.hid (show leastN n 0 = m + r by rw [← HK.out, leastN_lt hlt])
      have k1 : (m : Int) < 8 := by omega
      clear hlt
      go_wp2_with fail
      go_ret
      exact ⟨by rw [HF.out]; simp, rfl⟩
    · have HF := Lib.hid (leastN_ge (r := r) hlt)
      have k1 : 8 ≤ (m : Int) := by omega
      obtain ⟨q, b, rfl, hb⟩ : ∃ q b, m = 2 * q + b ∧ b ≤ 1 := ⟨m / 2, m % 2, by omega, by omega⟩
      have e1 : (2 * q + b) / 2 = q := by omega
      have e2 : (2 * q + b) % 2 = b := by omega
      have HG := Lib.hid (show leastN q (max r b) = leastN n 0 by rw [← HK.out, HF.out, e1, e2])
      have d1 : ((2 * q + b : Nat) : Int).tmod 2 = (b : Int) := by rw [Int.tmod_eq_emod_of_nonneg (by omega)]; omega
      have d2 : ((2 * q + b : Nat) : Int).tdiv 2 = (q : Int) := by rw [Int.tdiv_eq_ediv_of_nonneg (by omega)]; omega
      clear hlt HF e1 e2
      go_wp2_with fail
      go_round
      case rel => exact ⟨q, max r b, by omega, by omega, by go_num, by go_num, HG⟩
      case measure => simp [intOf]; try omega
theorem leastA_ok {n : Nat} (h : n ≤ 1000000) : leastA (n : Int) = (leastN n 0 : Int) := by
  unfold leastA; rw [if_pos (by omega), Int.toNat_natCast]
theorem specLeast_any (n : Int) (w : World) : Calls Try.prog 30 #[.int .i64 n] w fun e w' => e = .returned (.int .i64 (leastA n)) ∧ w = w' := by
  by_cases h : 0 ≤ n ∧ n ≤ 1000000
  · obtain ⟨m, rfl⟩ : ∃ m : Nat, n = (m : Int) := ⟨n.toNat, by omega⟩
    have HE := Lib.hid (leastA_ok (n := m) (by omega))
    rw [HE.out]
    have HI := Lib.hid (show (decide ((0:Int) ≤ (m : Int)) && decide ((m : Int) ≤ 1000000)) = true by simp; omega)
    have HF := Lib.hid (fun w => leastRun_any m w (by omega))
    clear h
    go_enter Try.func30, Try.ntmps30
    go_wp2_with (first | (go_at_call 40; refine (inRange_any _ _ _ _).mono ?_; rintro e w' ⟨rfl, rfl⟩; rw [HI.out]) | (go_at_call 51; refine (HF.out _).mono ?_; rintro e w' ⟨rfl, rfl⟩))
    go_ret
    exact ⟨rfl, rfl⟩
  · have HE := Lib.hid (show leastA n = -1 by unfold leastA; rw [if_neg h])
    rw [HE.out]
    have HI := Lib.hid (show (decide ((0:Int) ≤ n) && decide (n ≤ 1000000)) = false by simp; omega)
    clear h
    go_enter Try.func30, Try.ntmps30
    go_wp2_with (first | (go_at_call 40; refine (inRange_any _ _ _ _).mono ?_; rintro e w' ⟨rfl, rfl⟩; rw [HI.out]))
    go_ret
    exact ⟨rfl, rfl⟩
theorem implLeast_any (n : Int) (w : World) : Calls Try.prog 31 #[.int .i64 n] w fun e w' => e = .returned (.int .i64 (leastA n)) ∧ w = w' := by
  by_cases h0 : n < 0
  · have HE := Lib.hid (show leastA n = -1 by unfold leastA; rw [if_neg (by omega)])
    rw [HE.out]
    go_enter Try.func31, Try.ntmps31
    go_wp2
    go_ret
    exact ⟨rfl, rfl⟩
  · by_cases h1 : 1000000 < n
    · have HE := Lib.hid (show leastA n = -1 by unfold leastA; rw [if_neg (by omega)])
      rw [HE.out]
      go_enter Try.func31, Try.ntmps31
      go_wp2
      go_ret
      exact ⟨rfl, rfl⟩
    · obtain ⟨m, rfl⟩ : ∃ m : Nat, n = (m : Int) := ⟨n.toNat, by omega⟩
      rw [leastA_ok (n := m) (by omega)]
      exact implLeast_ok m w (by omega)
theorem fnExactRunLeast_walk (n : Int) (w : World) (_wn : (Lit.int .i64 n).wf = true) : Calls Try.prog 8 #[.int .i64 n] w fun e w' => e = .returned (.bool true) ∧ Below w.heap.size w w' := by
  go_enter Try.func8, Try.ntmps8
  go_wp2_with fail
  refine (specLeast_any _ _).mono ?_
  rintro e w' ⟨rfl, rfl⟩
  go_wp2_with fail
  refine (implLeast_any _ _).mono ?_
  rintro e w' ⟨rfl, rfl⟩
  go_wp2_with fail
  go_ret
  exact ⟨rfl, Below.refl _ _⟩
end Go.Proofs.Ytbcphejblopekaa
