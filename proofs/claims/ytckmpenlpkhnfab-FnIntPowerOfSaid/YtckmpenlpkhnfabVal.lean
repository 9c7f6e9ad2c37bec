/- spec.validInt and spec.IntOk: whether a text is an integer. -/
import Derived.Test.YtckmpenlpkhnfabRead3
namespace Go.Proofs.Ytckmpenlpkhnfab
open Go.RowKit
def RngPost (w : World) (n lo hi : Int) (e : Ending) (w' : World) : Prop := e = .returned (.bool (decide (lo ≤ n) && decide (n ≤ hi))) ∧ w = w'
set_option maxHeartbeats 400000 in
theorem inRange_any (n lo hi : Int) (w : World) : Calls Try.prog 59 #[.int .i64 n, .int .i64 lo, .int .i64 hi] w (RngPost w n lo hi) := by
  by_cases h1 : lo ≤ n
  · by_cases h2 : n ≤ hi
    · have e1 : (decide (lo ≤ n) && decide (n ≤ hi)) = true := by simp [h1, h2]
      have E1 := Lib.hid e1
      clear e1
      go_enter Try.func59, Try.ntmps59
      go_wp2
      go_ret
      exact ⟨by rw [E1.out]; rfl, rfl⟩
    · have e1 : (decide (lo ≤ n) && decide (n ≤ hi)) = false := by simp [h1, h2]
      have E1 := Lib.hid e1
      clear e1
      go_enter Try.func59, Try.ntmps59
      go_wp2
      go_ret
      exact ⟨by rw [E1.out]; rfl, rfl⟩
  · have e1 : (decide (lo ≤ n) && decide (n ≤ hi)) = false := by simp [h1]
    have E1 := Lib.hid e1
    clear e1
    go_enter Try.func59, Try.ntmps59
    go_wp2
    go_ret
    exact ⟨by rw [E1.out]; rfl, rfl⟩
def DigPost (w : World) (d : List UInt8) (b : Bool) (e : Ending) (w' : World) : Prop := e = .returned (.bool (d.all digB && b)) ∧ w = w'
theorem all_snoc (s : ByteArray) (k : Nat) (hk : k < s.size) (h : (s.data.toList.take k).all digB = true) (h1 : 48 ≤ s[k].toNat) (h2 : s[k].toNat ≤ 57) : (s.data.toList.take (k + 1)).all digB = true := by
  have hl : k < s.data.toList.length := by rw [show s.data.toList.length = s.size from rfl]; exact hk
  rw [List.take_succ_eq_append_getElem hl, List.all_append, h]
  have this : digB s.data.toList[k] = true := by rw [digB_iff]; exact ⟨h1, h2⟩
  show (true && (digB s.data.toList[k] && true)) = true
  rw [this]; rfl
theorem all_bad' {s : ByteArray} {i : Nat} (hi : i < s.size) (h : ¬ (48 ≤ s[i].toNat ∧ s[i].toNat ≤ 57)) : s.data.toList.all digB = false := all_bad hi h
set_option maxHeartbeats 1000000 in
theorem val_empty (s : ByteArray) (w : World) (h0 : s.size ≤ 0) :
    Calls Try.prog 45 #[.string s] w (DigPost w s.data.toList false) := by
  have HR := Lib.hid (show (decide ((1 : Int) ≤ (s.size : Int)) && decide ((s.size : Int) ≤ 40)) = false by rw [Bool.and_eq_false_iff]; simp only [decide_eq_false_iff_not]; omega)
  go_enter Try.func45, Try.ntmps45
  go_wp2_with fail
  go_loop [4] (fun i => ∃ k : Nat, k ≤ 0 ∧ i = .int .i64 k) (fun i => s.size - (intOf i).toNat)
  case atStart => exact ⟨0, by omega, rfl⟩
  case round =>
    obtain ⟨k, hk, rfl⟩ := hrel
    go_wp2_with (go_at_call 59; refine (inRange_any _ _ _ _).mono ?_; rintro e w' ⟨rfl, rfl⟩; rw [HR.out])
    go_ret
    exact ⟨by rw [Bool.and_false]; rfl, rfl⟩
set_option maxHeartbeats 1000000 in
theorem val_pos_out (s : ByteArray) (w : World) (hmx : s.size ≤ 1048576) (h0 : 0 < s.size) (h45 : ((s[0].toNat : Int) == 45) = false) (hr : ¬ s.size ≤ 40) :
    Calls Try.prog 45 #[.string s] w (DigPost w s.data.toList false) := by
  have HR := Lib.hid (show (decide ((1 : Int) ≤ (s.size : Int)) && decide ((s.size : Int) ≤ 40)) = false by rw [Bool.and_eq_false_iff]; simp only [decide_eq_false_iff_not]; omega)
  have hgt : (0 : Int) < s.size := by omega
  go_enter Try.func45, Try.ntmps45
  go_wp2_with fail
  go_loop [4] (fun i => ∃ k : Nat, k ≤ s.size ∧ i = .int .i64 k ∧ Hid ((s.data.toList.take k).all digB = true)) (fun i => s.size - (intOf i).toNat)
  case atStart => exact ⟨0, by omega, rfl, Lib.hid rfl⟩
  case round =>
    obtain ⟨k, hk, rfl, HD⟩ := hrel
    by_cases hlt : k < s.size
    · by_cases hd : 48 ≤ s[k].toNat ∧ s[k].toNat ≤ 57
      · have hd1 := hd.1
        have hd2 := hd.2
        have HN := Lib.hid (all_snoc s k hlt HD.out hd1 hd2)
        go_wp2_with fail
        go_round
        case rel => exact ⟨k + 1, by omega, by go_num, HN⟩
        case measure => simp [intOf]; try omega
      · have HBad := Lib.hid (all_bad' hlt hd)
        by_cases hlo : s[k].toNat < 48
        · clear hd
          go_wp2_with fail
          go_ret
          exact ⟨by rw [HBad.out]; rfl, rfl⟩
        · have hhi : 57 < s[k].toNat := by omega
          have hlo' : 48 ≤ s[k].toNat := by omega
          clear hd hlo
          go_wp2_with fail
          go_ret
          exact ⟨by rw [HBad.out]; rfl, rfl⟩
    · obtain rfl : k = s.size := by omega
      have HA := Lib.hid (show s.data.toList.all digB = true by have h := HD.out; rwa [List.take_of_length_le (by rw [len_data]; exact Nat.le_refl _)] at h)
      clear HD hlt
      go_wp2_with (go_at_call 59; refine (inRange_any _ _ _ _).mono ?_; rintro e w' ⟨rfl, rfl⟩; rw [HR.out])
      go_ret
      exact ⟨by rw [HA.out]; rfl, rfl⟩
set_option maxHeartbeats 1000000 in
theorem val_pos_in (s : ByteArray) (w : World) (hmx : s.size ≤ 1048576) (h0 : 0 < s.size) (h45 : ((s[0].toNat : Int) == 45) = false) (hr : s.size ≤ 40) (h48 : ((s[0].toNat : Int) == 48) = false) :
    Calls Try.prog 45 #[.string s] w (DigPost w s.data.toList true) := by
  have HR := Lib.hid (show (decide ((1 : Int) ≤ (s.size : Int)) && decide ((s.size : Int) ≤ 40)) = true by simp; omega)
  have hgt : (0 : Int) < s.size := by omega
  have h48' : ((s[0].toNat : Int) != 48) = true := by rw [bne, h48]; rfl
  go_enter Try.func45, Try.ntmps45
  go_wp2_with fail
  go_loop [4] (fun i => ∃ k : Nat, k ≤ s.size ∧ i = .int .i64 k ∧ Hid ((s.data.toList.take k).all digB = true)) (fun i => s.size - (intOf i).toNat)
  case atStart => exact ⟨0, by omega, rfl, Lib.hid rfl⟩
  case round =>
    obtain ⟨k, hk, rfl, HD⟩ := hrel
    by_cases hlt : k < s.size
    · by_cases hd : 48 ≤ s[k].toNat ∧ s[k].toNat ≤ 57
      · have hd1 := hd.1
        have hd2 := hd.2
        have HN := Lib.hid (all_snoc s k hlt HD.out hd1 hd2)
        go_wp2_with fail
        go_round
        case rel => exact ⟨k + 1, by omega, by go_num, HN⟩
        case measure => simp [intOf]; try omega
      · have HBad := Lib.hid (all_bad' hlt hd)
        by_cases hlo : s[k].toNat < 48
        · clear hd
          go_wp2_with fail
          go_ret
          exact ⟨by rw [HBad.out]; rfl, rfl⟩
        · have hhi : 57 < s[k].toNat := by omega
          have hlo' : 48 ≤ s[k].toNat := by omega
          clear hd hlo
          go_wp2_with fail
          go_ret
          exact ⟨by rw [HBad.out]; rfl, rfl⟩
    · obtain rfl : k = s.size := by omega
      have HA := Lib.hid (show s.data.toList.all digB = true by have h := HD.out; rwa [List.take_of_length_le (by rw [len_data]; exact Nat.le_refl _)] at h)
      clear HD hlt
      go_wp2_with (go_at_call 59; refine (inRange_any _ _ _ _).mono ?_; rintro e w' ⟨rfl, rfl⟩; rw [HR.out])
      go_ret
      exact ⟨by rw [HA.out]; rfl, rfl⟩
set_option maxHeartbeats 1000000 in
theorem val_pos_zero (s : ByteArray) (w : World) (hmx : s.size ≤ 1048576) (h0 : 0 < s.size) (h45 : ((s[0].toNat : Int) == 45) = false) (hr : s.size ≤ 40) (h48 : ((s[0].toNat : Int) == 48) = true) :
    Calls Try.prog 45 #[.string s] w (DigPost w s.data.toList (s.toList == [48])) := by
  have HR := Lib.hid (show (decide ((1 : Int) ≤ (s.size : Int)) && decide ((s.size : Int) ≤ 40)) = true by simp; omega)
  have hgt : (0 : Int) < s.size := by omega
  have h48' : ((s[0].toNat : Int) != 48) = false := by rw [bne, h48]; rfl
  generalize hz : (s.toList == [48]) = z
  go_enter Try.func45, Try.ntmps45
  go_wp2_with fail
  go_loop [4] (fun i => ∃ k : Nat, k ≤ s.size ∧ i = .int .i64 k ∧ Hid ((s.data.toList.take k).all digB = true)) (fun i => s.size - (intOf i).toNat)
  case atStart => exact ⟨0, by omega, rfl, Lib.hid rfl⟩
  case round =>
    obtain ⟨k, hk, rfl, HD⟩ := hrel
    by_cases hlt : k < s.size
    · by_cases hd : 48 ≤ s[k].toNat ∧ s[k].toNat ≤ 57
      · have hd1 := hd.1
        have hd2 := hd.2
        have HN := Lib.hid (all_snoc s k hlt HD.out hd1 hd2)
        go_wp2_with fail
        go_round
        case rel => exact ⟨k + 1, by omega, by go_num, HN⟩
        case measure => simp [intOf]; try omega
      · have HBad := Lib.hid (all_bad' hlt hd)
        by_cases hlo : s[k].toNat < 48
        · clear hd
          go_wp2_with fail
          go_ret
          exact ⟨by rw [HBad.out]; rfl, rfl⟩
        · have hhi : 57 < s[k].toNat := by omega
          have hlo' : 48 ≤ s[k].toNat := by omega
          clear hd hlo
          go_wp2_with fail
          go_ret
          exact ⟨by rw [HBad.out]; rfl, rfl⟩
    · obtain rfl : k = s.size := by omega
      have HA := Lib.hid (show s.data.toList.all digB = true by have h := HD.out; rwa [List.take_of_length_le (by rw [len_data]; exact Nat.le_refl _)] at h)
      clear HD hlt
      go_wp2_with (go_at_call 59; refine (inRange_any _ _ _ _).mono ?_; rintro e w' ⟨rfl, rfl⟩; rw [HR.out])
      go_ret
      exact ⟨by rw [HA.out]; rfl, rfl⟩
set_option maxHeartbeats 1000000 in
theorem val_neg_out (s t : ByteArray) (w : World) (hmx : t.size ≤ 1048576) (h0 : 0 < s.size) (h45 : ((s[0].toNat : Int) == 45) = true) (ht : s.extract 1 s.size = t) (hr : ¬ (1 ≤ t.size ∧ t.size ≤ 40)) :
    Calls Try.prog 45 #[.string s] w (DigPost w t.data.toList false) := by
  have HR := Lib.hid (show (decide ((1 : Int) ≤ (t.size : Int)) && decide ((t.size : Int) ≤ 40)) = false by rw [Bool.and_eq_false_iff]; simp only [decide_eq_false_iff_not]; omega)
  have hgt : (0 : Int) < s.size := by omega
  go_enter Try.func45, Try.ntmps45
  go_wp2_with fail
  go_loop [4] (fun i => ∃ k : Nat, k ≤ t.size ∧ i = .int .i64 k ∧ Hid ((t.data.toList.take k).all digB = true)) (fun i => t.size - (intOf i).toNat)
  case atStart => exact ⟨0, by omega, rfl, Lib.hid rfl⟩
  case round =>
    obtain ⟨k, hk, rfl, HD⟩ := hrel
    by_cases hlt : k < t.size
    · by_cases hd : 48 ≤ t[k].toNat ∧ t[k].toNat ≤ 57
      · have hd1 := hd.1
        have hd2 := hd.2
        have HN := Lib.hid (all_snoc t k hlt HD.out hd1 hd2)
        go_wp2_with fail
        go_round
        case rel => exact ⟨k + 1, by omega, by go_num, HN⟩
        case measure => simp [intOf]; try omega
      · have HBad := Lib.hid (all_bad' hlt hd)
        by_cases hlo : t[k].toNat < 48
        · clear hd
          go_wp2_with fail
          go_ret
          exact ⟨by rw [HBad.out]; rfl, rfl⟩
        · have hhi : 57 < t[k].toNat := by omega
          have hlo' : 48 ≤ t[k].toNat := by omega
          clear hd hlo
          go_wp2_with fail
          go_ret
          exact ⟨by rw [HBad.out]; rfl, rfl⟩
    · obtain rfl : k = t.size := by omega
      have HA := Lib.hid (show t.data.toList.all digB = true by have h := HD.out; rwa [List.take_of_length_le (by rw [len_data]; exact Nat.le_refl _)] at h)
      clear HD hlt
      go_wp2_with (go_at_call 59; refine (inRange_any _ _ _ _).mono ?_; rintro e w' ⟨rfl, rfl⟩; rw [HR.out])
      go_ret
      exact ⟨by rw [HA.out]; rfl, rfl⟩
set_option maxHeartbeats 1000000 in
theorem val_neg_in (s t : ByteArray) (w : World) (hmx : t.size ≤ 1048576) (h0 : 0 < s.size) (h45 : ((s[0].toNat : Int) == 45) = true) (ht : s.extract 1 s.size = t) (hr1 : 0 < t.size) (hr : t.size ≤ 40) (h48 : ((t[0].toNat : Int) == 48) = false) :
    Calls Try.prog 45 #[.string s] w (DigPost w t.data.toList true) := by
  have HR := Lib.hid (show (decide ((1 : Int) ≤ (t.size : Int)) && decide ((t.size : Int) ≤ 40)) = true by simp; omega)
  have hgt : (0 : Int) < s.size := by omega
  have h48' : ((t[0].toNat : Int) != 48) = true := by rw [bne, h48]; rfl
  go_enter Try.func45, Try.ntmps45
  go_wp2_with fail
  go_loop [4] (fun i => ∃ k : Nat, k ≤ t.size ∧ i = .int .i64 k ∧ Hid ((t.data.toList.take k).all digB = true)) (fun i => t.size - (intOf i).toNat)
  case atStart => exact ⟨0, by omega, rfl, Lib.hid rfl⟩
  case round =>
    obtain ⟨k, hk, rfl, HD⟩ := hrel
    by_cases hlt : k < t.size
    · by_cases hd : 48 ≤ t[k].toNat ∧ t[k].toNat ≤ 57
      · have hd1 := hd.1
        have hd2 := hd.2
        have HN := Lib.hid (all_snoc t k hlt HD.out hd1 hd2)
        go_wp2_with fail
        go_round
        case rel => exact ⟨k + 1, by omega, by go_num, HN⟩
        case measure => simp [intOf]; try omega
      · have HBad := Lib.hid (all_bad' hlt hd)
        by_cases hlo : t[k].toNat < 48
        · clear hd
          go_wp2_with fail
          go_ret
          exact ⟨by rw [HBad.out]; rfl, rfl⟩
        · have hhi : 57 < t[k].toNat := by omega
          have hlo' : 48 ≤ t[k].toNat := by omega
          clear hd hlo
          go_wp2_with fail
          go_ret
          exact ⟨by rw [HBad.out]; rfl, rfl⟩
    · obtain rfl : k = t.size := by omega
      have HA := Lib.hid (show t.data.toList.all digB = true by have h := HD.out; rwa [List.take_of_length_le (by rw [len_data]; exact Nat.le_refl _)] at h)
      clear HD hlt
      go_wp2_with (go_at_call 59; refine (inRange_any _ _ _ _).mono ?_; rintro e w' ⟨rfl, rfl⟩; rw [HR.out])
      go_ret
      exact ⟨by rw [HA.out]; rfl, rfl⟩
set_option maxHeartbeats 1000000 in
theorem val_neg_zero (s t : ByteArray) (w : World) (hmx : t.size ≤ 1048576) (h0 : 0 < s.size) (h45 : ((s[0].toNat : Int) == 45) = true) (ht : s.extract 1 s.size = t) (hr1 : 0 < t.size) (hr : t.size ≤ 40) (h48 : ((t[0].toNat : Int) == 48) = true) :
    Calls Try.prog 45 #[.string s] w (DigPost w t.data.toList (s.toList == [48])) := by
  have HR := Lib.hid (show (decide ((1 : Int) ≤ (t.size : Int)) && decide ((t.size : Int) ≤ 40)) = true by simp; omega)
  have hgt : (0 : Int) < s.size := by omega
  have h48' : ((t[0].toNat : Int) != 48) = false := by rw [bne, h48]; rfl
  generalize hz : (s.toList == [48]) = z
  go_enter Try.func45, Try.ntmps45
  go_wp2_with fail
  go_loop [4] (fun i => ∃ k : Nat, k ≤ t.size ∧ i = .int .i64 k ∧ Hid ((t.data.toList.take k).all digB = true)) (fun i => t.size - (intOf i).toNat)
  case atStart => exact ⟨0, by omega, rfl, Lib.hid rfl⟩
  case round =>
    obtain ⟨k, hk, rfl, HD⟩ := hrel
    by_cases hlt : k < t.size
    · by_cases hd : 48 ≤ t[k].toNat ∧ t[k].toNat ≤ 57
      · have hd1 := hd.1
        have hd2 := hd.2
        have HN := Lib.hid (all_snoc t k hlt HD.out hd1 hd2)
        go_wp2_with fail
        go_round
        case rel => exact ⟨k + 1, by omega, by go_num, HN⟩
        case measure => simp [intOf]; try omega
      · have HBad := Lib.hid (all_bad' hlt hd)
        by_cases hlo : t[k].toNat < 48
        · clear hd
          go_wp2_with fail
          go_ret
          exact ⟨by rw [HBad.out]; rfl, rfl⟩
        · have hhi : 57 < t[k].toNat := by omega
          have hlo' : 48 ≤ t[k].toNat := by omega
          clear hd hlo
          go_wp2_with fail
          go_ret
          exact ⟨by rw [HBad.out]; rfl, rfl⟩
    · obtain rfl : k = t.size := by omega
      have HA := Lib.hid (show t.data.toList.all digB = true by have h := HD.out; rwa [List.take_of_length_le (by rw [len_data]; exact Nat.le_refl _)] at h)
      clear HD hlt
      go_wp2_with (go_at_call 59; refine (inRange_any _ _ _ _).mono ?_; rintro e w' ⟨rfl, rfl⟩; rw [HR.out])
      go_ret
      exact ⟨by rw [HA.out]; rfl, rfl⟩
end Go.Proofs.Ytckmpenlpkhnfab
