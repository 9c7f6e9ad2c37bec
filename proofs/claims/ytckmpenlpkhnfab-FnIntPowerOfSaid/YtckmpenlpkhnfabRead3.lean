/- impl.readInteger, whole; impl.readIntegers. -/
import Derived.Test.YtckmpenlpkhnfabRead2
namespace Go.Proofs.Ytckmpenlpkhnfab
open Go.RowKit
theorem bodyOk_all {neg : Bool} {d : List UInt8} (h1 : 1 ≤ d.length) (h2 : d.length ≤ 40) (h3 : ¬ (d.head? = some 48 ∧ (neg = true ∨ 1 < d.length))) : bodyOk neg d = d.all digB := by
  have e : (decide (d.head? = some 48) && (neg || decide (1 < d.length))) = false := by
    rw [← Bool.not_eq_true]; simpa using h3
  unfold bodyOk
  rw [e, decide_eq_true h1, decide_eq_true h2]; simp
theorem bodyOk_short {neg : Bool} {d : List UInt8} (h : ¬ 1 ≤ d.length) : bodyOk neg d = false := by unfold bodyOk; rw [decide_eq_false h]; simp
theorem bodyOk_long {neg : Bool} {d : List UInt8} (h : ¬ d.length ≤ 40) : bodyOk neg d = false := by unfold bodyOk; rw [decide_eq_false h]; simp
theorem bodyOk_zero {neg : Bool} {d : List UInt8} (h : d.head? = some 48) (h2 : neg = true ∨ 1 < d.length) : bodyOk neg d = false := by
  have e : (decide (d.head? = some 48) && (neg || decide (1 < d.length))) = true := by simpa using ⟨h, h2⟩
  unfold bodyOk; rw [e]; simp
theorem tail_data (s : ByteArray) (_h : 0 < s.size) : (s.extract 1 s.size).data.toList = s.data.toList.tail := by
  rw [ByteArray.data_extract, Array.toList_extract]
  simp only [List.extract_eq_take_drop]
  rw [List.drop_one, List.take_of_length_le]
  rw [List.length_tail, len_data]; exact Nat.le_refl _
theorem read_any (s : ByteArray) (w : World) :
    Calls Try.prog 56 #[.string s] w fun e w' => e = .returned (readV s.data.toList) ∧ Below w.heap.size w w' := by
  by_cases h0 : s.size = 0
  · refine (read_pos_empty s w h0).mono fun e w' ⟨he, hb⟩ => ⟨?_, hb⟩
    have hl : s.data.toList = [] := List.eq_nil_of_length_eq_zero h0
    rw [he, hl]; rfl
  · have h0' : 0 < s.size := by omega
    have hhead := head_data s h0'
    by_cases h45 : s[0].toNat = 45
    · have hneg : isNeg s.data.toList = true := by
        unfold isNeg; rw [hhead]; simp; exact UInt8.toNat_inj.1 h45
      have hb45 : ((s[0].toNat : Int) == 45) = true := beq_iff_eq.2 (by omega)
      have hbody : bodyOf s.data.toList = (s.extract 1 s.size).data.toList := by unfold bodyOf; rw [hneg, if_pos rfl, tail_data s h0']
      obtain ⟨t, ht⟩ : ∃ t, s.extract 1 s.size = t := ⟨_, rfl⟩
      have hts : s.size - 1 = t.size := by rw [← ht]; simp
      rw [ht] at hbody
      have hV : ∀ b, bodyOk true t.data.toList = b → readV s.data.toList = if b then .tuple #[.agg (ival (sgn true (valD t.data.toList))), .bool true] else .tuple #[.agg (irow 0 false), .bool false] := by
        intro b hb
        unfold readV okI numI
        rw [hneg, hbody, hb]
      by_cases h1 : t.size = 0
      · refine (read_neg_none s t w h0' hb45 ht h1).mono fun e w' ⟨he, hb⟩ => ⟨?_, hb⟩
        rw [he, hV false (bodyOk_short (by rw [len_data]; omega))]; rfl
      · by_cases h40 : t.size ≤ 40
        · by_cases h48 : t[0].toNat = 48
          · refine (read_neg_zero s t w h0' hb45 ht (by omega) h40 (beq_iff_eq.2 (by omega))).mono fun e w' ⟨he, hb⟩ => ⟨?_, hb⟩
            have hh : t.data.toList.head? = some 48 := by rw [head_data t (by omega)]; congr 1; exact UInt8.toNat_inj.1 h48
            rw [he, hV false (bodyOk_zero hh (Or.inl rfl))]; rfl
          · refine (read_neg_loop s t w h0' hb45 ht hts (by omega) h40 (beq_eq_false_iff_ne.2 (by omega))).mono fun e w' ⟨he, hb⟩ => ⟨?_, hb⟩
            have hh : ¬ (t.data.toList.head? = some 48 ∧ (true = true ∨ 1 < t.data.toList.length)) := by
              rintro ⟨h, _⟩
              rw [head_data t (by omega)] at h
              injection h with h
              exact h48 (by rw [h]; rfl)
            rw [he, hV _ (bodyOk_all (by rw [len_data]; omega) (by rw [len_data]; exact h40) hh)]
        · refine (read_neg_long s t w h0' hb45 ht (by omega)).mono fun e w' ⟨he, hb⟩ => ⟨?_, hb⟩
          rw [he, hV false (bodyOk_long (by rw [len_data]; exact h40))]; rfl
    · have hneg : isNeg s.data.toList = false := by
        unfold isNeg; rw [hhead]; simp; intro h; exact h45 (by rw [h]; rfl)
      have hb45 : ((s[0].toNat : Int) == 45) = false := beq_eq_false_iff_ne.2 (by omega)
      have hbody : bodyOf s.data.toList = s.data.toList := by unfold bodyOf; rw [hneg]; rfl
      have hV : ∀ b, bodyOk false s.data.toList = b → readV s.data.toList = if b then .tuple #[.agg (ival (sgn false (valD s.data.toList))), .bool true] else .tuple #[.agg (irow 0 false), .bool false] := by
        intro b hb
        unfold readV okI numI
        rw [hneg, hbody, hb]
      by_cases h40 : s.size ≤ 40
      · by_cases h48 : s[0].toNat = 48 ∧ 1 < s.size
        · refine (read_pos_zero s w h48.2 h40 hb45 (beq_iff_eq.2 (by omega))).mono fun e w' ⟨he, hb⟩ => ⟨?_, hb⟩
          have hh : s.data.toList.head? = some 48 := by rw [hhead]; congr 1; exact UInt8.toNat_inj.1 h48.1
          rw [he, hV false (bodyOk_zero hh (Or.inr h48.2))]; rfl
        · refine (read_pos_loop s w h0' h40 hb45 h48).mono fun e w' ⟨he, hb⟩ => ⟨?_, hb⟩
          have hh : ¬ (s.data.toList.head? = some 48 ∧ (false = true ∨ 1 < s.data.toList.length)) := by
            rintro ⟨h, h2⟩
            rw [hhead] at h
            injection h with h
            rcases h2 with h2 | h2
            · cases h2
            · exact h48 ⟨by rw [h]; rfl, h2⟩
          rw [he, hV _ (bodyOk_all (by rw [len_data]; omega) (by rw [len_data]; exact h40) hh)]
      · refine (read_pos_long s w (by omega) hb45).mono fun e w' ⟨he, hb⟩ => ⟨?_, hb⟩
        rw [he, hV false (bodyOk_long (by rw [len_data]; exact h40))]; rfl
end Go.Proofs.Ytckmpenlpkhnfab
