/- The model's IntDiv and IntMod; the laws. -/
import Derived.Test.YtckmpenlpkhnfabMDv
import Derived.Test.YtckmpenlpkhnfabLaws
namespace Go.Proofs.Ytckmpenlpkhnfab
open Go.RowKit
theorem isZero_iff {t : ByteArray} (h : okI t.data.toList = true) : (t.toList == [48]) = decide (rz t.data.toList = 0) := by
  rw [ByteArray.toList_eq]
  have h1 := fmtZ_rz h
  by_cases hz : rz t.data.toList = 0
  · rw [hz] at h1
    have h2 : fmtZ 0 = [48] := rfl
    rw [h2] at h1
    rw [decide_eq_true hz, ← h1]; rfl
  · rw [decide_eq_false hz, beq_eq_false_iff_ne]
    intro h2
    rw [h2] at hz
    exact hz (by decide)
theorem dq_lt {p q : Bool} {m n : Nat} (hm : m < 10 ^ 40) (hn : 0 < n) : dq p q m n < 10 ^ 40 := by
  unfold dq
  have h1 := Nat.div_le_self m n
  split
  · rename_i h
    have h2 : 2 ≤ n := by
      rcases Nat.lt_or_ge n 2 with h3 | h3
      · obtain rfl : n = 1 := by omega
        exact absurd (Nat.mod_one m) h.2
      · exact h3
    have h3 : m / n ≤ m / 2 := Nat.div_le_div_left h2 (by decide)
    have h4 : (10 : Nat) ^ 40 / 2 + 1 < 10 ^ 40 := by decide
    omega
  · omega
theorem dr_lt {p q : Bool} {m n : Nat} (hn : 0 < n) : dr p q m n < n := by
  unfold dr
  have h1 := Nat.mod_lt m hn
  split
  · omega
  · exact h1
theorem out_qI {x y : Int} (hx : x.natAbs < 10 ^ 40) (h0 : y ≠ 0) : outI (qI x y) = .tuple #[txV (qI x y), .bool true] := by
  unfold outI
  rw [if_pos (by unfold qI; rw [sgn_abs]; exact dq_lt hx (by omega))]; rfl
theorem out_rI {x y : Int} (hy : y.natAbs < 10 ^ 40) (h0 : y ≠ 0) : outI (rI x y) = .tuple #[txV (rI x y), .bool true] := by
  unfold outI
  rw [if_pos (by unfold rI; rw [sgn_abs]; have := dr_lt (p := decide (x < 0)) (q := decide (y < 0)) (m := x.natAbs) (n := y.natAbs) (by omega); omega)]; rfl
set_option maxHeartbeats 4000000 in
theorem specDiv_any (s t : ByteArray) (w : World) (hs : s.size ≤ 1048576) (ht : t.size ≤ 1048576) :
    Calls Try.prog 21 #[.string s, .string t] w fun e w' => e = .returned (divV s.data.toList t.data.toList) ∧ Below w.heap.size w w' := by
  have HV1 := Lib.hid (fun w => val_any s w hs)
  have HV2 := Lib.hid (fun w => val_any t w ht)
  clear hs ht
  cases h1 : okI s.data.toList with
  | false =>
    have HE := Lib.hid (show divV s.data.toList t.data.toList = noV by unfold divV; rw [h1]; rfl)
    rw [HE.out]
    rw [h1] at HV1
    clear h1
    go_enter Try.func21, Try.ntmps21
    go_wp2_with fail
    refine (HV1.out _).mono ?_
    rintro e w1 ⟨rfl, rfl⟩
    go_wp2_with fail
    go_ret2
    exact ⟨rfl, Below.refl _ _⟩
  | true =>
    cases h2 : okI t.data.toList with
    | false =>
      have HE := Lib.hid (show divV s.data.toList t.data.toList = noV by unfold divV; rw [h1, h2]; rfl)
      rw [HE.out]
      rw [h1] at HV1
      rw [h2] at HV2
      clear h1 h2
      go_enter Try.func21, Try.ntmps21
      go_wp2_with fail
      refine (HV1.out _).mono ?_
      rintro e w1 ⟨rfl, rfl⟩
      go_wp2_with fail
      refine (HV2.out _).mono ?_
      rintro e w1 ⟨rfl, rfl⟩
      go_wp2_with fail
      go_ret2
      exact ⟨rfl, Below.refl _ _⟩
    | true =>
      have hzb := isZero_iff h2
      by_cases hz : rz t.data.toList = 0
      · have HE := Lib.hid (show divV s.data.toList t.data.toList = noV by unfold divV; rw [h1, h2]; simp [hz])
        rw [HE.out]
        rw [h1] at HV1
        rw [h2] at HV2
        rw [decide_eq_true hz] at hzb
        clear h1 h2 hz
        go_enter Try.func21, Try.ntmps21
        go_wp2_with fail
        refine (HV1.out _).mono ?_
        rintro e w1 ⟨rfl, rfl⟩
        go_wp2_with fail
        refine (HV2.out _).mono ?_
        rintro e w1 ⟨rfl, rfl⟩
        go_wp2_with fail
        go_ret2
        exact ⟨rfl, Below.refl _ _⟩
      · have HE := Lib.hid (show divV s.data.toList t.data.toList = .tuple #[txV (qI (rz s.data.toList) (rz t.data.toList)), .bool true] by unfold divV; rw [h1, h2]; simp only [Bool.and_self, if_true, if_neg hz]; exact out_qI okI_lt hz)
        rw [HE.out]
        have HC := Lib.hid (fun w => divInts_any s t w h1 h2 hz)
        rw [h1] at HV1
        rw [h2] at HV2
        rw [decide_eq_false hz] at hzb
        clear h1 h2 hz
        generalize txV (qI (rz s.data.toList) (rz t.data.toList)) = tq at *
        generalize txV (rI (rz s.data.toList) (rz t.data.toList)) = tr at *
        go_enter Try.func21, Try.ntmps21
        go_wp2_with fail
        refine (HV1.out _).mono ?_
        rintro e w1 ⟨rfl, rfl⟩
        go_wp2_with fail
        refine (HV2.out _).mono ?_
        rintro e w1 ⟨rfl, rfl⟩
        go_wp2_with fail
        refine (HC.out _).mono ?_
        rintro e w2 ⟨rfl, hb2⟩
        have HB2 := Lib.hid hb2
        clear hb2
        go_wp2_with (first | (refine ext rfl (.tmp 20) 0 [tq, tr] tq rfl rfl rfl ?_) | (refine ext rfl (.tmp 20) 1 [tq, tr] tr rfl rfl rfl ?_))
        go_ret2
        exact ⟨rfl, HB2.out⟩
set_option maxHeartbeats 4000000 in
theorem specMod_any (s t : ByteArray) (w : World) (hs : s.size ≤ 1048576) (ht : t.size ≤ 1048576) :
    Calls Try.prog 24 #[.string s, .string t] w fun e w' => e = .returned (modV s.data.toList t.data.toList) ∧ Below w.heap.size w w' := by
  have HV1 := Lib.hid (fun w => val_any s w hs)
  have HV2 := Lib.hid (fun w => val_any t w ht)
  clear hs ht
  cases h1 : okI s.data.toList with
  | false =>
    have HE := Lib.hid (show modV s.data.toList t.data.toList = noV by unfold modV; rw [h1]; rfl)
    rw [HE.out]
    rw [h1] at HV1
    clear h1
    go_enter Try.func24, Try.ntmps24
    go_wp2_with fail
    refine (HV1.out _).mono ?_
    rintro e w1 ⟨rfl, rfl⟩
    go_wp2_with fail
    go_ret2
    exact ⟨rfl, Below.refl _ _⟩
  | true =>
    cases h2 : okI t.data.toList with
    | false =>
      have HE := Lib.hid (show modV s.data.toList t.data.toList = noV by unfold modV; rw [h1, h2]; rfl)
      rw [HE.out]
      rw [h1] at HV1
      rw [h2] at HV2
      clear h1 h2
      go_enter Try.func24, Try.ntmps24
      go_wp2_with fail
      refine (HV1.out _).mono ?_
      rintro e w1 ⟨rfl, rfl⟩
      go_wp2_with fail
      refine (HV2.out _).mono ?_
      rintro e w1 ⟨rfl, rfl⟩
      go_wp2_with fail
      go_ret2
      exact ⟨rfl, Below.refl _ _⟩
    | true =>
      have hzb := isZero_iff h2
      by_cases hz : rz t.data.toList = 0
      · have HE := Lib.hid (show modV s.data.toList t.data.toList = noV by unfold modV; rw [h1, h2]; simp [hz])
        rw [HE.out]
        rw [h1] at HV1
        rw [h2] at HV2
        rw [decide_eq_true hz] at hzb
        clear h1 h2 hz
        go_enter Try.func24, Try.ntmps24
        go_wp2_with fail
        refine (HV1.out _).mono ?_
        rintro e w1 ⟨rfl, rfl⟩
        go_wp2_with fail
        refine (HV2.out _).mono ?_
        rintro e w1 ⟨rfl, rfl⟩
        go_wp2_with fail
        go_ret2
        exact ⟨rfl, Below.refl _ _⟩
      · have HE := Lib.hid (show modV s.data.toList t.data.toList = .tuple #[txV (rI (rz s.data.toList) (rz t.data.toList)), .bool true] by unfold modV; rw [h1, h2]; simp only [Bool.and_self, if_true, if_neg hz]; exact out_rI okI_lt hz)
        rw [HE.out]
        have HC := Lib.hid (fun w => divInts_any s t w h1 h2 hz)
        rw [h1] at HV1
        rw [h2] at HV2
        rw [decide_eq_false hz] at hzb
        clear h1 h2 hz
        generalize txV (qI (rz s.data.toList) (rz t.data.toList)) = tq at *
        generalize txV (rI (rz s.data.toList) (rz t.data.toList)) = tr at *
        go_enter Try.func24, Try.ntmps24
        go_wp2_with fail
        refine (HV1.out _).mono ?_
        rintro e w1 ⟨rfl, rfl⟩
        go_wp2_with fail
        refine (HV2.out _).mono ?_
        rintro e w1 ⟨rfl, rfl⟩
        go_wp2_with fail
        refine (HC.out _).mono ?_
        rintro e w2 ⟨rfl, hb2⟩
        have HB2 := Lib.hid hb2
        clear hb2
        go_wp2_with (first | (refine ext rfl (.tmp 20) 0 [tq, tr] tq rfl rfl rfl ?_) | (refine ext rfl (.tmp 20) 1 [tq, tr] tr rfl rfl rfl ?_))
        go_ret2
        exact ⟨rfl, HB2.out⟩
theorem divV_form (a b : List UInt8) : ∃ l c, divV a b = .tuple #[.string ⟨l⟩, .bool c] := by
  unfold divV; split
  · split
    · exact noV_form
    · exact outI_form _
  · exact noV_form
theorem modV_form (a b : List UInt8) : ∃ l c, modV a b = .tuple #[.string ⟨l⟩, .bool c] := by
  unfold modV; split
  · split
    · exact noV_form
    · exact outI_form _
  · exact noV_form
end Go.Proofs.Ytckmpenlpkhnfab
