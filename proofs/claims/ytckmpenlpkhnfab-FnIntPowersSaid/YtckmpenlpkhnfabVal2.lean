/- spec.validInt, whole; spec.IntOk. -/
import Derived.Test.YtckmpenlpkhnfabVal
namespace Go.Proofs.Ytckmpenlpkhnfab
open Go.RowKit
theorem toList_data (s : ByteArray) : s.toList = s.data.toList := by
  exact ByteArray.toList_eq s
theorem okI_single (s : ByteArray) (h0 : 0 < s.size) (h48 : s[0].toNat = 48) : okI s.data.toList = (s.toList == [48]) := by
  have hh : s.data.toList.head? = some 48 := by rw [head_data s h0]; congr 1; exact UInt8.toNat_inj.1 h48
  have hneg : isNeg s.data.toList = false := by unfold isNeg; rw [hh]; rfl
  have hbody : bodyOf s.data.toList = s.data.toList := by unfold bodyOf; rw [hneg]; rfl
  unfold okI
  rw [hneg, hbody, toList_data]
  by_cases h1 : 1 < s.data.toList.length
  · rw [bodyOk_zero hh (Or.inr h1)]
    symm
    rw [beq_eq_false_iff_ne]
    intro h
    rw [h] at h1
    simp at h1
  · have hl : s.data.toList.length = 1 := by have : s.data.toList.length = s.size := rfl
                                             omega
    obtain ⟨c, hc⟩ := List.length_eq_one_iff.1 hl
    rw [hc] at hh ⊢
    simp at hh
    subst hh
    rfl
theorem val_any (s : ByteArray) (w : World) (hmx : s.size ≤ 1048576) :
    Calls Try.prog 45 #[.string s] w fun e w' => e = .returned (.bool (okI s.data.toList)) ∧ w = w' := by
  by_cases h0 : s.size = 0
  · refine (val_empty s w (by omega)).mono fun e w' ⟨he, hb⟩ => ⟨?_, hb⟩
    have hl : s.data.toList = [] := List.eq_nil_of_length_eq_zero h0
    rw [he, hl]; rfl
  · have h0' : 0 < s.size := by omega
    have hhead := head_data s h0'
    by_cases h45 : s[0].toNat = 45
    · have hneg : isNeg s.data.toList = true := by
        unfold isNeg; rw [hhead]; simp; exact UInt8.toNat_inj.1 h45
      have hb45 : ((s[0].toNat : Int) == 45) = true := beq_iff_eq.2 (by omega)
      have hbody : bodyOf s.data.toList = (s.extract 1 s.size).data.toList := by unfold bodyOf; rw [hneg, if_pos rfl, tail_data s h0']
      obtain ⟨t, ht⟩ : ∃ t, s.extract 1 s.size = t := ⟨_, rfl⟩
      have hts : s.size - 1 = t.size := by rw [← ht]; simp
      rw [ht] at hbody
      have hz : (s.toList == [48]) = false := by
        rw [beq_eq_false_iff_ne, toList_data]
        intro h
        rw [h] at hneg
        revert hneg; decide
      have hok : okI s.data.toList = bodyOk true t.data.toList := by unfold okI; rw [hneg, hbody]
      rw [hok]
      by_cases hr : 1 ≤ t.size ∧ t.size ≤ 40
      · by_cases h48 : t[0].toNat = 48
        · refine (val_neg_zero s t w (by omega) h0' hb45 ht hr.1 hr.2 (beq_iff_eq.2 (by omega))).mono fun e w' ⟨he, hb⟩ => ⟨?_, hb⟩
          have hh : t.data.toList.head? = some 48 := by rw [head_data t (by omega)]; congr 1; exact UInt8.toNat_inj.1 h48
          rw [he, hz, Bool.and_false, bodyOk_zero hh (Or.inl rfl)]
        · refine (val_neg_in s t w (by omega) h0' hb45 ht hr.1 hr.2 (beq_eq_false_iff_ne.2 (by omega))).mono fun e w' ⟨he, hb⟩ => ⟨?_, hb⟩
          have hh : ¬ (t.data.toList.head? = some 48 ∧ (true = true ∨ 1 < t.data.toList.length)) := by
            rintro ⟨h, _⟩
            rw [head_data t (by omega)] at h
            injection h with h
            exact h48 (by rw [h]; rfl)
          rw [he, Bool.and_true, bodyOk_all (by rw [len_data]; omega) (by rw [len_data]; exact hr.2) hh]
      · refine (val_neg_out s t w (by omega) h0' hb45 ht hr).mono fun e w' ⟨he, hb⟩ => ⟨?_, hb⟩
        rw [he, Bool.and_false]
        by_cases h1 : 1 ≤ t.size
        · rw [bodyOk_long (by rw [len_data]; omega)]
        · rw [bodyOk_short (by rw [len_data]; omega)]
    · have hneg : isNeg s.data.toList = false := by
        unfold isNeg; rw [hhead]; simp; intro h; exact h45 (by rw [h]; rfl)
      have hb45 : ((s[0].toNat : Int) == 45) = false := beq_eq_false_iff_ne.2 (by omega)
      have hbody : bodyOf s.data.toList = s.data.toList := by unfold bodyOf; rw [hneg]; rfl
      have hok : okI s.data.toList = bodyOk false s.data.toList := by unfold okI; rw [hneg, hbody]
      by_cases hr : s.size ≤ 40
      · by_cases h48 : s[0].toNat = 48
        · refine (val_pos_zero s w hmx h0' hb45 hr (beq_iff_eq.2 (by omega))).mono fun e w' ⟨he, hb⟩ => ⟨?_, hb⟩
          rw [he, okI_single s h0' h48]
          congr 2
          by_cases hz : s.toList = [48]
          · have : s.data.toList = [48] := by rw [← toList_data]; exact hz
            rw [this, hz]; rfl
          · rw [beq_eq_false_iff_ne.2 hz, Bool.and_false]
        · refine (val_pos_in s w hmx h0' hb45 hr (beq_eq_false_iff_ne.2 (by omega))).mono fun e w' ⟨he, hb⟩ => ⟨?_, hb⟩
          have hh : ¬ (s.data.toList.head? = some 48 ∧ (false = true ∨ 1 < s.data.toList.length)) := by
            rintro ⟨h, _⟩
            rw [hhead] at h
            injection h with h
            exact h48 (by rw [h]; rfl)
          rw [he, Bool.and_true, hok, bodyOk_all (by rw [len_data]; omega) (by rw [len_data]; exact hr) hh]
      · refine (val_pos_out s w hmx h0' hb45 hr).mono fun e w' ⟨he, hb⟩ => ⟨?_, hb⟩
        rw [he, Bool.and_false, hok, bodyOk_long (by rw [len_data]; exact hr)]
set_option maxHeartbeats 400000 in
theorem specOk_any (s : ByteArray) (w : World) (hmx : s.size ≤ 1048576) :
    Calls Try.prog 37 #[.string s] w fun e w' => e = .returned (.bool (okI s.data.toList)) ∧ w = w' := by
  have H := Lib.hid (fun w => val_any s w hmx)
  clear hmx
  generalize okI s.data.toList = b at H ⊢
  go_enter Try.func37, Try.ntmps37
  go_wp2_with (go_at_call 45; refine (H.out _).mono ?_; rintro e w' ⟨rfl, rfl⟩)
  go_ret
  exact ⟨rfl, rfl⟩
end Go.Proofs.Ytckmpenlpkhnfab
