/- The hash of a key: the program's, the model's, the law. -/
import Derived.Test.YtibglmcpbbikdaaTxt
namespace Go.Proofs.Ytibglmcpbbikdaa
open Go.RowKit
/-- The hash of some bytes. -/
def hsh (l : List UInt8) : Nat := l.foldl (fun h c => (h * 31 + c.toNat) % 65536) 7
theorem hsh_lt (l : List UInt8) : hsh l < 65536 := by
  suffices h : ∀ (l : List UInt8) (a : Nat), a < 65536 → l.foldl (fun h c => (h * 31 + c.toNat) % 65536) a < 65536 from h l 7 (by decide)
  intro l
  induction l with
  | nil => intro a h; exact h
  | cons c l ih => intro a _; exact ih _ (Nat.mod_lt _ (by decide))
theorem hsh_snoc (l : List UInt8) (c : UInt8) : hsh (l ++ [c]) = (hsh l * 31 + c.toNat) % 65536 := by unfold hsh; rw [List.foldl_append]; rfl
theorem take_next (s : ByteArray) (k : Nat) (h : k < s.size) : s.data.toList.take (k + 1) = s.data.toList.take k ++ [s[k]] := by
  rw [List.take_succ_eq_append_getElem (by simpa using h)]; rfl
theorem hsh_next (s : ByteArray) (k : Nat) (h : k < s.size) : ((hsh (s.data.toList.take k) : Int) * 31 + (s[k].toNat : Int)) % 65536 = ((hsh (s.data.toList.take (k + 1)) : Nat) : Int) := by
  rw [take_next s k h, hsh_snoc]; omega
/-- What DictHash answers. -/
def hashV (s : ByteArray) : Int := if s.size ≤ 20 then (hsh s.data.toList : Int) else -1
theorem hashV_le (s : ByteArray) : -1 ≤ hashV s ∧ hashV s ≤ 65535 := by
  unfold hashV; have := hsh_lt s.data.toList; split <;> omega
def keyB (s : ByteArray) : Bool := decide (s.size ≤ 20)
theorem isKey_any (s : ByteArray) (w : World) (hs : s.size ≤ 9223372036854775807) : Calls Try.prog 56 #[.string s] w fun e w' => e = .returned (.bool (keyB s)) ∧ w = w' := by
  have HE := Lib.hid (show keyB s = decide ((s.size : Int) ≤ 20) by unfold keyB; rw [decide_eq_decide]; omega)
  go_enter Try.func56, Try.ntmps56
  go_wp2
  go_ret
  exact ⟨by rw [HE.out]; rfl, rfl⟩
theorem validKey_any (s : ByteArray) (w : World) (hs : s.size ≤ 9223372036854775807) : Calls Try.prog 61 #[.string s] w fun e w' => e = .returned (.bool (keyB s)) ∧ w = w' := by
  have HE := Lib.hid (show keyB s = decide ((s.size : Int) ≤ 20) by unfold keyB; rw [decide_eq_decide]; omega)
  go_enter Try.func61, Try.ntmps61
  go_wp2
  go_ret
  exact ⟨by rw [HE.out]; rfl, rfl⟩
set_option maxHeartbeats 400000 in
theorem hashOf_any (s : ByteArray) (w : World) (hs : s.size ≤ 1048576) : Calls Try.prog 88 #[.string s] w fun e w' => e = .returned (.int .i64 (hsh s.data.toList : Int)) ∧ w = w' := by
  go_enter Try.func88, Try.ntmps88
  go_wp2
  go_loop [3, 4] (fun h i => ∃ k : Nat, k ≤ s.size ∧ i = .int .i64 k ∧ h = .int .i64 (hsh (s.data.toList.take k) : Int)) (fun _ i => s.size - (intOf i).toNat)
  case atStart => exact ⟨0, by omega, rfl, rfl⟩
  case round =>
    obtain ⟨k, hk, rfl, rfl⟩ := hrel
    have hb := hsh_lt (s.data.toList.take k)
    by_cases hlt : k < s.size
    · have HN := Lib.hid (hsh_next s k hlt)
      have hc : s[k].toNat ≤ 255 := by have := UInt8.toNat_lt s[k]; omega
      generalize hsh (s.data.toList.take k) = m at *
      go_wp2
      go_round
      case rel => exact ⟨k + 1, by omega, by go_num, by rw [← HN.out]⟩
      case measure => simp [intOf]; try omega
    · obtain rfl : k = s.size := by omega
      have HF := Lib.hid (show s.data.toList.take s.size = s.data.toList from List.take_of_length_le (by simp))
      clear hlt
      rw [HF.out] at *
      go_wp2
      go_ret
      exact ⟨rfl, rfl⟩
set_option maxHeartbeats 400000 in
theorem implHash_any (s : ByteArray) (w : World) (hs : s.size ≤ 9223372036854775807) : Calls Try.prog 27 #[.string s] w fun e w' => e = .returned (.int .i64 (hashV s)) ∧ w = w' := by
  have HV := Lib.hid (fun w => isKey_any s w hs)
  cases hok : keyB s with
  | false =>
    have HE := Lib.hid (show hashV s = -1 by unfold hashV; unfold keyB at hok; rw [if_neg (by simpa using hok)])
    rw [hok] at HV
    clear hok
    rw [HE.out]
    go_enter Try.func27, Try.ntmps27
    go_wp2_with (first | (go_at_call 56; refine (HV.out _).mono ?_; rintro e w' ⟨rfl, rfl⟩))
    go_ret
    exact ⟨rfl, rfl⟩
  | true =>
    have HE := Lib.hid (show hashV s = (hsh s.data.toList : Int) by unfold hashV; unfold keyB at hok; rw [if_pos (by simpa using hok)])
    rw [hok] at HV
    have h20 : s.size ≤ 20 := by unfold keyB at hok; simpa using hok
    clear hok
    rw [HE.out]
    go_enter Try.func27, Try.ntmps27
    go_wp2_with (first | (go_at_call 56; refine (HV.out _).mono ?_; rintro e w' ⟨rfl, rfl⟩))
    go_loop [3, 10] (fun h i => ∃ k : Nat, k ≤ s.size ∧ i = .int .i64 k ∧ h = .int .i64 (hsh (s.data.toList.take k) : Int)) (fun _ i => s.size - (intOf i).toNat)
    case atStart => exact ⟨0, by omega, rfl, rfl⟩
    case round =>
      obtain ⟨k, hk, rfl, rfl⟩ := hrel
      have hb := hsh_lt (s.data.toList.take k)
      by_cases hlt : k < s.size
      · have HN := Lib.hid (hsh_next s k hlt)
        have hc : s[k].toNat ≤ 255 := by have := UInt8.toNat_lt s[k]; omega
        generalize hsh (s.data.toList.take k) = m at *
        go_wp2
        go_round
        case rel => exact ⟨k + 1, by omega, by go_num, by rw [← HN.out]⟩
        case measure => simp [intOf]; try omega
      · obtain rfl : k = s.size := by omega
        have HF := Lib.hid (show s.data.toList.take s.size = s.data.toList from List.take_of_length_le (by simp))
        clear hlt
        rw [HF.out] at *
        go_wp2
        go_ret
        exact ⟨rfl, rfl⟩
end Go.Proofs.Ytibglmcpbbikdaa
