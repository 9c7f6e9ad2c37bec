/- Names: the model's functions, and the exact laws on names and keywords. -/
import Derived.Test.YtemliekmodnjkaaNm
namespace Go.Proofs.Ytemliekmodnjkaa
open Go.RowKit
def RngPost (w : World) (n lo hi : Int) (e : Ending) (w' : World) : Prop := e = .returned (.bool (decide (lo ≤ n) && decide (n ≤ hi))) ∧ w = w'
set_option maxHeartbeats 400000 in
theorem inRange_any (n lo hi : Int) (w : World) : Calls Try.prog 44 #[.int .i64 n, .int .i64 lo, .int .i64 hi] w (RngPost w n lo hi) := by
  go_enter Try.func44, Try.ntmps44
  go_wp2_with fail
  all_goals
    go_ret
    refine ⟨?_, rfl⟩
    refine congrArg (fun b => Ending.returned (.bool b)) ?_
    rw [Bool.eq_iff_iff]
    simp
    try omega
/-- What the model's loop knows of the first k bytes. -/
def NmI (s : ByteArray) (k : Nat) : Prop := (s.data.toList.take k).all wdC = true ∧ (0 < k → s.data.toList.head?.any (fun c => dgB c.toNat) = false)
theorem nm_bad {s : ByteArray} {k : Nat} (hk : k < s.size) (h : wdB s[k].toNat = false) : nmB s = false := by
  have : s.data.toList.all wdC = false := not_all (at_data hk) h
  simp [nmB, this]
theorem nm_dig {s : ByteArray} (hk : 0 < s.size) (h : dgB s[0].toNat = true) : nmB s = false := by
  simp [nmB, head_at hk, h]
theorem lt_not_dg {c : Nat} (h : (ltB c || c == 95) = true) : dgB c = false := by
  simp [ltB, dgB] at h ⊢; omega
theorem nm_next {s : ByteArray} {k : Nat} (hk : k < s.size) (h : NmI s k) (h1 : wdB s[k].toNat = true) (h2 : k = 0 → dgB (s[k].toNat) = false) : NmI s (k + 1) := by
  refine ⟨all_wd hk h.1 h1, fun _ => ?_⟩
  rcases Nat.eq_zero_or_pos k with h0 | h0
  · subst h0
    rw [head_at hk]
    simpa using h2 rfl
  · exact h.2 h0
set_option maxHeartbeats 4000000 in
theorem validName_any (s : ByteArray) (w : World) (hs : s.size ≤ 1048576) : Calls Try.prog 26 #[.string s] w fun e w' => e = .returned (.bool (nmB s)) ∧ Below w.heap.size w w' := by
  have HKey := Lib.hid (specIsKeyword_any s w)
  go_enter Try.func26, Try.ntmps26
  go_wp2_with fail
  go_loop [3] (fun i => ∃ k : Nat, k ≤ s.size ∧ i = .int .i64 k ∧ Hid (NmI s k)) (fun i => s.size - (intOf i).toNat)
  case atStart => exact ⟨0, by omega, rfl, Lib.hid ⟨rfl, fun h => absurd h (by omega)⟩⟩
  case round =>
    obtain ⟨k, hk, rfl, HI⟩ := hrel
    by_cases hlt : k < s.size
    · have H1 := Lib.hid (fun w => letter_any s[k].toNat w)
      have H2 := Lib.hid (fun w => digit_any s[k].toNat w)
      cases hl : (ltB s[k].toNat || s[k].toNat == 95) with
      | true =>
        have HN := Lib.hid (nm_next hlt HI.out (by rw [wdB, Bool.or_right_comm, hl]; rfl) (fun _ => lt_not_dg hl))
        rw [hl] at H1
        clear hl
        go_wp2_with (go_at_call 42; refine (H1.out _).mono ?_; rintro e w' ⟨rfl, rfl⟩)
        go_round
        case rel => exact ⟨k + 1, by omega, by go_num, HN⟩
        case measure => simp [intOf]; try omega
      | false =>
        rcases Nat.eq_zero_or_pos k with h0 | h0
        · subst h0
          have HE := Lib.hid (show nmB s = false by
            cases hd : dgB s[0].toNat with
            | true => exact nm_dig hlt hd
            | false => exact nm_bad hlt (by rw [wdB, Bool.or_right_comm, hl, hd]; rfl))
          rw [hl] at H1
          clear hl
          go_wp2_with (go_at_call 42; refine (H1.out _).mono ?_; rintro e w' ⟨rfl, rfl⟩)
          go_ret
          exact ⟨by rw [HE.out]; rfl, Below.refl _ _⟩
        · have hk0 : ((k : Int) == 0) = false := by rw [beq_eq_false_iff_ne]; omega
          cases hd : dgB s[k].toNat with
          | true =>
            have HN := Lib.hid (nm_next hlt HI.out (by rw [wdB, hd]; simp) (fun h => absurd h (by omega)))
            rw [hl] at H1
            rw [hd] at H2
            clear hl hd
            go_wp2_with (first | (go_at_call 42; refine (H1.out _).mono ?_; rintro e w' ⟨rfl, rfl⟩) | (go_at_call 43; refine (H2.out _).mono ?_; rintro e w' ⟨rfl, rfl⟩))
            go_round
            case rel => exact ⟨k + 1, by omega, by go_num, HN⟩
            case measure => simp [intOf]; try omega
          | false =>
            have HE := Lib.hid (show nmB s = false from nm_bad hlt (by rw [wdB, Bool.or_right_comm, hl, hd]; rfl))
            rw [hl] at H1
            rw [hd] at H2
            clear hl hd
            go_wp2_with (first | (go_at_call 42; refine (H1.out _).mono ?_; rintro e w' ⟨rfl, rfl⟩) | (go_at_call 43; refine (H2.out _).mono ?_; rintro e w' ⟨rfl, rfl⟩))
            go_ret
            exact ⟨by rw [HE.out]; rfl, Below.refl _ _⟩
    · have hge : s.size ≤ k := by omega
      have HR := Lib.hid (inRange_any s.size 1 12 w)
      have hI := HI.out
      obtain ⟨hA, hH⟩ := hI
      rw [List.take_of_length_le (by rw [len_data]; exact hge)] at hA
      by_cases hr : 1 ≤ s.size ∧ s.size ≤ 12
      · have h0 : 0 < k := by omega
        have HE : nmB s = !kwB s := by simp [nmB, hA, hH h0, hr]
        have e1 : (decide ((1 : Int) ≤ (s.size : Int)) && decide ((s.size : Int) ≤ 12)) = true := by simp; omega
        unfold RngPost at HR
        rw [e1] at HR
        clear hA hH e1 hr hlt h0 HI
        cases hk2 : kwB s
        all_goals
          rw [hk2] at HKey HE
          have HE2 := Lib.hid HE
          clear HE hk2
          go_wp2_with (first | (go_at_call 44; refine HR.out.mono ?_; rintro e w' ⟨rfl, rfl⟩) | (go_at_call 29; refine HKey.out.mono ?_; rintro e w' ⟨rfl, hb⟩; have HB := Lib.hid hb; clear hb))
          go_ret
          exact ⟨by rw [HE2.out]; rfl, HB.out⟩
      · have HE := Lib.hid (show nmB s = false by simp only [nmB]; rw [decide_eq_false hr]; rfl)
        have e1 : (decide ((1 : Int) ≤ (s.size : Int)) && decide ((s.size : Int) ≤ 12)) = false := by
          rw [Bool.and_eq_false_iff]; simp only [decide_eq_false_iff_not]; omega
        unfold RngPost at HR
        rw [e1] at HR
        clear hA hH e1 hr hlt HI
        go_wp2_with (go_at_call 44; refine HR.out.mono ?_; rintro e w' ⟨rfl, rfl⟩)
        go_ret
        exact ⟨by rw [HE.out]; rfl, Below.refl _ _⟩
theorem specNameOk_any (s : ByteArray) (w : World) (hs : s.size ≤ 1048576) : Calls Try.prog 9 #[.string s] w fun e w' => e = .returned (.bool (nmB s)) ∧ Below w.heap.size w w' := by
  have H := Lib.hid (validName_any s w hs)
  go_enter Try.func9, Try.ntmps9
  go_wp2_with fail
  refine H.out.mono ?_
  rintro e w' ⟨rfl, hb⟩
  have HB := Lib.hid hb
  clear hb
  go_wp2_with fail
  go_ret
  exact ⟨rfl, HB.out⟩
theorem specIsKw_any (s : ByteArray) (w : World) : Calls Try.prog 11 #[.string s] w fun e w' => e = .returned (.bool (kwB s)) ∧ Below w.heap.size w w' := by
  have H := Lib.hid (specIsKeyword_any s w)
  go_enter Try.func11, Try.ntmps11
  go_wp2_with fail
  refine H.out.mono ?_
  rintro e w' ⟨rfl, hb⟩
  have HB := Lib.hid hb
  clear hb
  go_wp2_with fail
  go_ret
  exact ⟨rfl, HB.out⟩
set_option maxHeartbeats 400000 in
theorem exactNameOk_walk (a0 : ByteArray) (w0 : a0.size ≤ maxLen) (w : World) :
    Calls Try.prog 3 #[.string a0] w fun e w' => e = .returned (.bool true) ∧ Below w.heap.size w w' := by
  unfold maxLen at w0
  by_cases h : a0.size ≤ 1048576
  · have H1 := Lib.hid (fun w => specNameOk_any a0 w h)
    have H2 := Lib.hid (fun w => nameOk_any a0 w h)
    generalize nmB a0 = b at H1 H2
    cases b
    all_goals
      go_enter Try.func3, Try.ntmps3
      go_wp2_with (first | (go_at_call 9; refine (H1.out _).mono ?_; rintro e w1 ⟨rfl, hb⟩; have HB := Lib.hid hb; clear hb) | (go_at_call 10; refine (H2.out _).mono ?_; rintro e w2 ⟨rfl, rfl⟩))
      go_ret
      exact ⟨rfl, HB.out⟩
  · go_enter Try.func3, Try.ntmps3
    go_wp2_with fail
    go_ret
    exact ⟨rfl, Below.refl _ _⟩
set_option maxHeartbeats 400000 in
theorem exactIsKeyword_walk (a0 : ByteArray) (w0 : a0.size ≤ maxLen) (w : World) :
    Calls Try.prog 4 #[.string a0] w fun e w' => e = .returned (.bool true) ∧ Below w.heap.size w w' := by
  unfold maxLen at w0
  by_cases h : a0.size ≤ 1048576
  · have H1 := Lib.hid (fun w => specIsKw_any a0 w)
    have H2 := Lib.hid (fun w => isKeyword_any a0 w)
    generalize kwB a0 = b at H1 H2
    cases b
    all_goals
      go_enter Try.func4, Try.ntmps4
      go_wp2_with (first | (go_at_call 11; refine (H1.out _).mono ?_; rintro e w1 ⟨rfl, hb⟩; have HB := Lib.hid hb; clear hb) | (go_at_call 12; refine (H2.out _).mono ?_; rintro e w2 ⟨rfl, rfl⟩))
      go_ret
      exact ⟨rfl, HB.out⟩
  · go_enter Try.func4, Try.ntmps4
    go_wp2_with fail
    go_ret
    exact ⟨rfl, Below.refl _ _⟩
end Go.Proofs.Ytemliekmodnjkaa
