/- Rooms of lists: the model's, the program's. -/
import Derived.Test.YtbcphejblopekabLpure
namespace Go.Proofs.Ytbcphejblopekab
open Go.RowKit
def roomA (n : Int) : Int := if 0 ≤ n ∧ n ≤ 1000000 then roomZ n else -1
/-- Halved until it is less than 8. -/
def leastN (n r : Nat) : Nat := if n < 8 then n + r else leastN (n / 2) (max r (n % 2))
termination_by n
decreasing_by omega
theorem leastN_lt {n r : Nat} (h : n < 8) : leastN n r = n + r := by rw [leastN]; rw [if_pos h]
theorem leastN_ge {n r : Nat} (h : ¬ n < 8) : leastN n r = leastN (n / 2) (max r (n % 2)) := by rw [leastN]; rw [if_neg h]
theorem leastN_in (n : Nat) : ∀ r, r ≤ 1 → 4 ≤ n → 4 ≤ leastN n r ∧ leastN n r ≤ 8 := by
  induction n using Nat.strongRecOn with
  | ind n ih =>
    intro r hr hn
    by_cases h : n < 8
    · rw [leastN_lt h]; omega
    · rw [leastN_ge h]
      exact ih (n / 2) (by omega) _ (by omega) (by omega)
def leastA (n : Int) : Int := if 0 ≤ n ∧ n ≤ 1000000 then (leastN n.toNat 0 : Int) else -1
set_option maxHeartbeats 1000000 in
theorem leastRun_any (n : Nat) (w : World) (h1 : n ≤ 1000000) : Calls Try.prog 83 #[.int .i64 (n : Int)] w fun e w' => e = .returned (.int .i64 (leastN n 0 : Int)) ∧ w = w' := by
  go_enter Try.func83, Try.ntmps83
  go_wp2_with fail
  go_loop [0, 3] (fun v x => ∃ m r : Nat, m ≤ 1000000 ∧ r ≤ 1 ∧ v = .int .i64 (m : Int) ∧ x = .int .i64 (r : Int) ∧ Hid (leastN m r = leastN n 0)) (fun v _ => (intOf v).toNat)
  case atStart => exact ⟨n, 0, h1, by omega, rfl, rfl, Lib.hid rfl⟩
  case round =>
    obtain ⟨m, r, hm, hr, rfl, rfl, HK⟩ := hrel
    by_cases hlt : m < 8
    · have HF := Lib.hid (show leastN n 0 = m + r by rw [← HK.out, leastN_lt hlt])
      have k1 : (m : Int) < 8 := by omega
      clear hlt
      go_wp2_with fail
      go_ret
      exact ⟨by rw [HF.out]; simp, rfl⟩
    · have HF := Lib.hid (leastN_ge (r := r) hlt)
      have k1 : 8 ≤ (m : Int) := by omega
      obtain ⟨q, b, rfl, hb⟩ : ∃ q b, m = 2 * q + b ∧ b ≤ 1 := ⟨m / 2, m % 2, by omega, by omega⟩
      have e1 : (2 * q + b) / 2 = q := by omega
      have e2 : (2 * q + b) % 2 = b := by omega
      have HG := Lib.hid (show leastN q (max r b) = leastN n 0 by rw [← HK.out, HF.out, e1, e2])
      have d1 : ((2 * q + b : Nat) : Int).tmod 2 = (b : Int) := by rw [Int.tmod_eq_emod_of_nonneg (by omega)]; omega
      have d2 : ((2 * q + b : Nat) : Int).tdiv 2 = (q : Int) := by rw [Int.tdiv_eq_ediv_of_nonneg (by omega)]; omega
      have d3 : bits .or .i64 (r : Int) (b : Int) = ((max r b : Nat) : Int) := by
        rcases (by omega : r = 0 ∨ r = 1) with rfl | rfl <;> rcases (by omega : b = 0 ∨ b = 1) with rfl | rfl <;> rfl
      have d4 : bits .or .i64 (r : Int) ((b : Int) % 2) = ((max r b : Nat) : Int) := by
        rw [← d3]; congr 1; omega
      clear hlt HF e1 e2
      go_wp2_with fail
      go_round
      case rel => exact ⟨q, max r b, by omega, by omega, by go_num, by go_num, HG⟩
      case measure => simp [intOf]; try omega
set_option maxHeartbeats 1000000 in
theorem implLeast_ok (n : Nat) (w : World) (h1 : n ≤ 1000000) : Calls Try.prog 37 #[.int .i64 (n : Int)] w fun e w' => e = .returned (.int .i64 (leastN n 0 : Int)) ∧ w = w' := by
  go_enter Try.func37, Try.ntmps37
  go_wp2_with fail
  go_loop [0, 3] (fun v x => ∃ m r : Nat, m ≤ 1000000 ∧ r ≤ 1 ∧ v = .int .i64 (m : Int) ∧ x = .int .i64 (r : Int) ∧ Hid (leastN m r = leastN n 0)) (fun v _ => (intOf v).toNat)
  case atStart => exact ⟨n, 0, h1, by omega, rfl, rfl, Lib.hid rfl⟩
  case round =>
    obtain ⟨m, r, hm, hr, rfl, rfl, HK⟩ := hrel
    by_cases hlt : m < 8
    · have HF := Lib.hid (show leastN n 0 = m + r by rw [← HK.out, leastN_lt hlt])
      have k1 : (m : Int) < 8 := by omega
      clear hlt
      go_wp2_with fail
      go_ret
      exact ⟨by rw [HF.out]; simp, rfl⟩
    · have HF := Lib.hid (leastN_ge (r := r) hlt)
      have k1 : 8 ≤ (m : Int) := by omega
      obtain ⟨q, b, rfl, hb⟩ : ∃ q b, m = 2 * q + b ∧ b ≤ 1 := ⟨m / 2, m % 2, by omega, by omega⟩
      have e1 : (2 * q + b) / 2 = q := by omega
      have e2 : (2 * q + b) % 2 = b := by omega
      have HG := Lib.hid (show leastN q (max r b) = leastN n 0 by rw [← HK.out, HF.out, e1, e2])
      have d1 : ((2 * q + b : Nat) : Int).tmod 2 = (b : Int) := by rw [Int.tmod_eq_emod_of_nonneg (by omega)]; omega
      have d2 : ((2 * q + b : Nat) : Int).tdiv 2 = (q : Int) := by rw [Int.tdiv_eq_ediv_of_nonneg (by omega)]; omega
      clear hlt HF e1 e2
      go_wp2_with fail
      go_round
      case rel => exact ⟨q, max r b, by omega, by omega, by go_num, by go_num, HG⟩
      case measure => simp [intOf]; try omega
theorem leastA_ok {n : Nat} (h : n ≤ 1000000) : leastA (n : Int) = (leastN n 0 : Int) := by
  unfold leastA; rw [if_pos (by omega), Int.toNat_natCast]
theorem implLeast_any (n : Int) (w : World) : Calls Try.prog 37 #[.int .i64 n] w fun e w' => e = .returned (.int .i64 (leastA n)) ∧ w = w' := by
  by_cases h0 : n < 0
  · have HE := Lib.hid (show leastA n = -1 by unfold leastA; rw [if_neg (by omega)])
    rw [HE.out]
    go_enter Try.func37, Try.ntmps37
    go_wp2
    go_ret
    exact ⟨rfl, rfl⟩
  · by_cases h1 : 1000000 < n
    · have HE := Lib.hid (show leastA n = -1 by unfold leastA; rw [if_neg (by omega)])
      rw [HE.out]
      go_enter Try.func37, Try.ntmps37
      go_wp2
      go_ret
      exact ⟨rfl, rfl⟩
    · obtain ⟨m, rfl⟩ : ∃ m : Nat, n = (m : Int) := ⟨n.toNat, by omega⟩
      rw [leastA_ok (n := m) (by omega)]
      exact implLeast_ok m w (by omega)
end Go.Proofs.Ytbcphejblopekab
