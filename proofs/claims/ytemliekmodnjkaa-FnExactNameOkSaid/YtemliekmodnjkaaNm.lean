/- Names: the program's NameOk and the model's, by their contracts. -/
import Derived.Test.YtemliekmodnjkaaKw
namespace Go.Proofs.Ytemliekmodnjkaa
open Go.RowKit
theorem len_data (s : ByteArray) : s.data.toList.length = s.size := rfl
theorem toList_ne {s : ByteArray} (h : 0 < s.size) : (s.toList == []) = false := by
  rw [beq_eq_false_iff_ne, ByteArray.toList_eq]
  intro h2
  have : s.data.toList.length = s.size := rfl
  rw [h2] at this
  simp at this; omega
theorem toList_nil {s : ByteArray} (h : s.size = 0) : (s.toList == []) = true := by
  rw [beq_iff_eq, ByteArray.toList_eq]
  exact List.eq_nil_of_length_eq_zero h
/-- Bytes of words. -/
def wdC (c : UInt8) : Bool := wdB c.toNat
/-- How many bytes of a word a text begins with. -/
def wl (l : List UInt8) : Nat := (l.takeWhile wdC).length
theorem wl_at {l : List UInt8} {k : Nat} (h : (l.take k).all wdC = true) (hk : k ≤ l.length) (he : ∀ c, l[k]? = some c → wdC c = false) : wl l = k := by
  induction l generalizing k with
  | nil => simp at hk; subst hk; rfl
  | cons a l ih =>
    cases k with
    | zero =>
      have := he a rfl
      simp [wl, this]
    | succ k =>
      simp only [List.take_succ_cons, List.all_cons, Bool.and_eq_true] at h
      have := ih (k := k) h.2 (by simpa using hk) (fun c hc => he c (by simpa using hc))
      simp [wl, h.1] at this ⊢
      exact this
theorem wl_le (l : List UInt8) : wl l ≤ l.length := by
  induction l with
  | nil => simp [wl]
  | cons a l ih =>
    unfold wl at ih ⊢
    rw [List.takeWhile_cons]
    split
    · simp; exact ih
    · simp
theorem wl_all (l : List UInt8) : (wl l = l.length) = (l.all wdC = true) := by
  induction l with
  | nil => simp [wl]
  | cons a l ih =>
    have hle := wl_le l
    unfold wl at ih hle ⊢
    rw [List.takeWhile_cons, List.all_cons]
    cases h : wdC a with
    | true => simp; simpa using ih
    | false => simp
theorem at_data {s : ByteArray} {k : Nat} (hk : k < s.size) : s.data.toList[k]? = some s[k] := by
  rw [List.getElem?_eq_getElem (by rw [show s.data.toList.length = s.size from rfl]; exact hk)]; rfl
theorem all_wd {s : ByteArray} {k : Nat} (hk : k < s.size) (h : (s.data.toList.take k).all wdC = true) (h1 : wdB s[k].toNat = true) : (s.data.toList.take (k + 1)).all wdC = true :=
  take_all h (at_data hk) h1
set_option maxHeartbeats 4000000 in
theorem wordLength_any (s : ByteArray) (w : World) (hs : s.size ≤ 1048576) : Calls Try.prog 28 #[.string s] w fun e w' => e = .returned (.int .i64 (wl s.data.toList : Int)) ∧ w = w' := by
  go_enter Try.func28, Try.ntmps28
  go_wp2_with fail
  go_loop [3] (fun i => ∃ k : Nat, k ≤ s.size ∧ i = .int .i64 k ∧ Hid ((s.data.toList.take k).all wdC = true)) (fun i => s.size - (intOf i).toNat)
  case atStart => exact ⟨0, by omega, rfl, Lib.hid rfl⟩
  case round =>
    obtain ⟨k, hk, rfl, HK⟩ := hrel
    by_cases hlt : k < s.size
    · have H1 := Lib.hid (fun w => isLetter_any s[k].toNat w)
      have H2 := Lib.hid (fun w => isDigit_any s[k].toNat w)
      cases hl : ltB s[k].toNat with
      | true =>
        have HN := Lib.hid (all_wd hlt HK.out (by simp [wdB, hl]))
        rw [hl] at H1
        clear hl
        go_wp2_with (go_at_call 45; refine (H1.out _).mono ?_; rintro e w' ⟨rfl, rfl⟩)
        go_round
        case rel => exact ⟨k + 1, by omega, by go_num, HN⟩
        case measure => simp [intOf]; try omega
      | false =>
        cases hd : dgB s[k].toNat with
        | true =>
          have HN := Lib.hid (all_wd hlt HK.out (by simp [wdB, hl, hd]))
          rw [hl] at H1
          rw [hd] at H2
          clear hl hd
          go_wp2_with (first | (go_at_call 45; refine (H1.out _).mono ?_; rintro e w' ⟨rfl, rfl⟩) | (go_at_call 27; refine (H2.out _).mono ?_; rintro e w' ⟨rfl, rfl⟩))
          go_round
          case rel => exact ⟨k + 1, by omega, by go_num, HN⟩
          case measure => simp [intOf]; try omega
        | false =>
          cases h9 : ((s[k].toNat : Int) == 95) with
          | true =>
            have HN := Lib.hid (all_wd hlt HK.out (by have : s[k].toNat = 95 := by (have := eq_of_beq h9; omega)
                                                      simp [wdB, this]))
            rw [hl] at H1
            rw [hd] at H2
            clear hl hd
            go_wp2_with (first | (go_at_call 45; refine (H1.out _).mono ?_; rintro e w' ⟨rfl, rfl⟩) | (go_at_call 27; refine (H2.out _).mono ?_; rintro e w' ⟨rfl, rfl⟩))
            go_round
            case rel => exact ⟨k + 1, by omega, by go_num, HN⟩
            case measure => simp [intOf]; try omega
          | false =>
            have HE := Lib.hid (show wl s.data.toList = k from wl_at HK.out (by rw [len_data]; exact hk) (fun c hc => by
              rw [at_data hlt] at hc
              injection hc with hc
              subst hc
              have : s[k].toNat ≠ 95 := by intro h; rw [h] at h9; exact absurd h9 (by decide)
              simp [wdC, wdB, hl, hd, this]))
            rw [hl] at H1
            rw [hd] at H2
            clear hl hd
            go_wp2_with (first | (go_at_call 45; refine (H1.out _).mono ?_; rintro e w' ⟨rfl, rfl⟩) | (go_at_call 27; refine (H2.out _).mono ?_; rintro e w' ⟨rfl, rfl⟩))
            go_ret
            exact ⟨by rw [HE.out]; rfl, rfl⟩
    · have HE := Lib.hid (show wl s.data.toList = k from wl_at HK.out (by rw [len_data]; exact hk) (fun c hc => by
        rw [List.getElem?_eq_none (by rw [len_data]; omega)] at hc; cases hc))
      have hge : s.size ≤ k := by omega
      clear hlt
      go_wp2_with fail
      go_ret
      exact ⟨by rw [HE.out]; rfl, rfl⟩
/-- Whether a text is a name. -/
def nmB (s : ByteArray) : Bool := decide (1 ≤ s.size ∧ s.size ≤ 12) && (s.data.toList.all wdC && !(s.data.toList.head?.any fun c => dgB c.toNat)) && !kwB s
theorem head_at {s : ByteArray} (h : 0 < s.size) : s.data.toList.head? = some s[0] := by
  rw [List.head?_eq_getElem?]; exact at_data h
set_option maxHeartbeats 4000000 in
theorem nameOk_any (s : ByteArray) (w : World) (hs : s.size ≤ 1048576) : Calls Try.prog 10 #[.string s] w fun e w' => e = .returned (.bool (nmB s)) ∧ w = w' := by
  have HK := Lib.hid (isKeyword_any s w)
  have HW := Lib.hid (wordLength_any s w hs)
  by_cases h0 : 0 < s.size
  · have hse : (s.toList == []) = false := toList_ne h0
    by_cases h12 : s.size ≤ 12
    · have HD := Lib.hid (isDigit_any s[0].toNat w)
      cases hd : dgB s[0].toNat with
      | true =>
        have HE := Lib.hid (show nmB s = false by simp [nmB, head_at h0, hd])
        rw [hd] at HD
        clear hd HK HW
        go_enter Try.func10, Try.ntmps10
        go_wp2_with (go_at_call 27; refine HD.out.mono ?_; rintro e w' ⟨rfl, rfl⟩)
        go_ret
        exact ⟨by rw [HE.out]; rfl, rfl⟩
      | false =>
        have hwl := wl_all s.data.toList
        rw [len_data] at hwl
        have hle := wl_le s.data.toList
        rw [len_data] at hle
        have HE : nmB s = (s.data.toList.all wdC && !kwB s) := by
          have : (1 ≤ s.size ∧ s.size ≤ 12) := by omega
          simp [nmB, head_at h0, hd, this]
        rw [hd] at HD
        clear hd
        cases ha : s.data.toList.all wdC with
        | true =>
          rw [ha] at hwl HE
          have hw : wl s.data.toList = s.size := by simpa using hwl
          rw [hw] at HW
          have hEq : ((s.size : Int) == (s.size : Int)) = true := by simp
          clear hwl hle
          cases hk : kwB s
          all_goals
            rw [hk] at HK HE
            have HE2 := Lib.hid HE
            clear HE hk ha
            go_enter Try.func10, Try.ntmps10
            go_wp2_with (first | (go_at_call 27; refine HD.out.mono ?_; rintro e w' ⟨rfl, rfl⟩) | (go_at_call 28; refine HW.out.mono ?_; rintro e w' ⟨rfl, rfl⟩) | (go_at_call 12; refine HK.out.mono ?_; rintro e w' ⟨rfl, rfl⟩))
            go_ret
            exact ⟨by rw [HE2.out]; rfl, rfl⟩
        | false =>
          rw [ha] at hwl HE
          have hw : wl s.data.toList ≠ s.size := by simpa using hwl
          generalize wl s.data.toList = n at HW hw hle
          have hne : ((n : Int) == (s.size : Int)) = false := by rw [beq_eq_false_iff_ne]; omega
          have HE2 := Lib.hid HE
          clear HE hwl ha hw HK
          go_enter Try.func10, Try.ntmps10
          go_wp2_with (first | (go_at_call 27; refine HD.out.mono ?_; rintro e w' ⟨rfl, rfl⟩) | (go_at_call 28; refine HW.out.mono ?_; rintro e w' ⟨rfl, rfl⟩))
          go_ret
          exact ⟨by rw [HE2.out]; rfl, rfl⟩
    · have HE := Lib.hid (show nmB s = false by simp [nmB]; omega)
      have hgt : 12 < s.size := by omega
      clear h12 HK HW
      go_enter Try.func10, Try.ntmps10
      go_wp2_with fail
      go_ret
      exact ⟨by rw [HE.out]; rfl, rfl⟩
  · have hz : s.size = 0 := by omega
    have hse : (s.toList == []) = true := toList_nil hz
    have HE := Lib.hid (show nmB s = false by simp [nmB, hz])
    clear h0 HK HW
    go_enter Try.func10, Try.ntmps10
    go_wp2_with fail
    go_ret
    exact ⟨by rw [HE.out]; rfl, rfl⟩
end Go.Proofs.Ytemliekmodnjkaa
