/- Where a part occurs in a text: the model's textFind. -/
import Derived.Test.YtfmpplolhhjpoaaMany
import Derived.Lib.IndexMore
namespace Go.Proofs.Ytfmpplolhhjpoaa
open Go.RowKit
/-- The first place from k on. -/
def fndV (s p : List UInt8) (k : Nat) : Int := if Lib.index (s.drop k) p = -1 then -1 else Lib.index (s.drop k) p + (k : Int)
theorem occ_take (s p : ByteArray) (j : Nat) (_h : j + p.size ≤ s.size) : ((s.extract j (j + p.size)).toList == p.toList) = Lib.occAt s.data.toList p.data.toList j := by
  have hp : p.data.toList.length = p.size := rfl
  have e : (s.extract j (j + p.size)).data.toList = (s.data.toList.drop j).take p.size := by
    rw [ByteArray.data_extract, Array.toList_extract]
    simp [List.extract]
  rw [ByteArray.toList_eq, ByteArray.toList_eq, e]
  unfold Lib.occAt
  rw [Bool.eq_iff_iff, beq_iff_eq, List.isPrefixOf_iff_prefix, List.prefix_iff_eq_take, hp]
  exact eq_comm
theorem occ_add (s p : List UInt8) (k m : Nat) : Lib.occAt (s.drop k) p m = Lib.occAt s p (k + m) := by
  unfold Lib.occAt
  rw [List.drop_drop]
theorem fnd_hit {s p : List UInt8} {k j : Nat} (hk : k ≤ j) (hj : j ≤ s.length) (hn : ∀ m, k ≤ m → m < j → Lib.occAt s p m = false) (ho : Lib.occAt s p j = true) : fndV s p k = (j : Int) := by
  have h := Lib.index_first (s := s.drop k) (sub := p) (i := j - k) (by rw [List.length_drop]; omega) (by rw [occ_add, show k + (j - k) = j by omega]; exact ho) (fun m hm => by rw [occ_add]; exact hn _ (by omega) (by omega))
  unfold fndV
  rw [h, if_neg (by omega)]
  omega
theorem fnd_none {s p : List UInt8} {k j : Nat} (hks : k ≤ s.length) (_hk : k ≤ j) (hj : s.length < j + p.length) (hn : ∀ m, k ≤ m → m < j → Lib.occAt s p m = false) : fndV s p k = -1 := by
  have h : Lib.index (s.drop k) p = -1 := Lib.index_none fun m hm2 => by
    rw [List.length_drop] at hm2
    rw [occ_add]
    by_cases hm : k + m < j
    · exact hn _ (by omega) hm
    · cases ho : Lib.occAt s p (k + m) with
      | false => rfl
      | true =>
        exfalso
        unfold Lib.occAt at ho
        rw [List.isPrefixOf_iff_prefix] at ho
        have := ho.length_le
        rw [List.length_drop] at this
        omega
  unfold fndV
  rw [h, if_pos rfl]
theorem no_next {s p : List UInt8} {k j : Nat} (hn : ∀ m, k ≤ m → m < j → Lib.occAt s p m = false) (ho : Lib.occAt s p j = false) : ∀ m, k ≤ m → m < j + 1 → Lib.occAt s p m = false := by
  intro m h1 h2
  rcases Nat.lt_or_ge m j with h3 | h3
  · exact hn m h1 h3
  · obtain rfl : m = j := by omega
    exact ho
set_option maxHeartbeats 1000000 in
theorem textFind_any (s p : ByteArray) (k : Nat) (w : World) (hs : s.size ≤ 1048576) (hp : p.size ≤ 1048576) (hk : k ≤ s.size) : Calls Try.prog 46 #[.string s, .string p, .int .i64 (k : Int)] w fun e w' => e = .returned (.int .i64 (fndV s.data.toList p.data.toList k)) ∧ w = w' := by
  have hsl : s.data.toList.length = s.size := rfl
  have hpl : p.data.toList.length = p.size := rfl
  go_enter Try.func46, Try.ntmps46
  go_wp2_with fail
  go_loop [7] (fun i => ∃ j : Nat, k ≤ j ∧ j ≤ s.size + 1 ∧ i = .int .i64 j ∧ Hid (∀ m, k ≤ m → m < j → Lib.occAt s.data.toList p.data.toList m = false)) (fun i => s.size + 2 - (intOf i).toNat)
  case atStart => exact ⟨k, Nat.le_refl _, by omega, rfl, Lib.hid fun m h1 h2 => by omega⟩
  case round =>
    obtain ⟨j, hkj, hj, rfl, HN⟩ := hrel
    by_cases hr : j + p.size ≤ s.size
    · have ht := occ_take s p j hr
      cases ho : Lib.occAt s.data.toList p.data.toList j with
      | true =>
        rw [ho] at ht
        have HF := Lib.hid (fnd_hit hkj (by omega) HN.out ho)
        have hr1 : (j : Int) + (p.size : Int) ≤ (s.size : Int) := by omega
        clear ho hr hsl hpl
        go_wp2_with fail
        go_ret
        exact ⟨by rw [HF.out]; rfl, rfl⟩
      | false =>
        rw [ho] at ht
        have HN2 := Lib.hid (no_next HN.out ho)
        have hr1 : (j : Int) + (p.size : Int) ≤ (s.size : Int) := by omega
        clear ho hsl hpl
        go_wp2_with fail
        go_round
        case rel => exact ⟨j + 1, by omega, by omega, by go_num, HN2⟩
        case measure => simp [intOf]; try omega
    · have HF := Lib.hid (fnd_none (by omega) hkj (by omega) HN.out)
      have hr1 : (s.size : Int) < (j : Int) + (p.size : Int) := by omega
      clear hr hsl hpl
      go_wp2_with fail
      go_ret
      exact ⟨by rw [HF.out]; rfl, rfl⟩
end Go.Proofs.Ytfmpplolhhjpoaa
