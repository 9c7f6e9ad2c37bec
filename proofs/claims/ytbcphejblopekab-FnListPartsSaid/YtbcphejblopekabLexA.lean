/- The exact laws on lists of numbers, at every input. -/
import Derived.Test.YtbcphejblopekabLex
import Derived.Test.YtbcphejblopekabLdrop
namespace Go.Proofs.Ytbcphejblopekab
open Go.RowKit
theorem roomsR_len (is : List Int) : (roomsR is).length ≤ 1048576 := by
  unfold roomsR
  cases h : okL 0 is
  · simp
  · have := (okL_parts h).1
    simp [roomsL_len]; omega
theorem cut_yes {is : List Int} {f t st : Int} {hf ht : Bool} (hc : ¬ (60 < is.length ∨ okC f t st hf ht = false)) : is.length ≤ 60 ∧ okC f t st hf ht = true := by
  refine ⟨?_, ?_⟩
  · rcases Nat.lt_or_ge 60 is.length with h | h
    · exact absurd (.inl h) hc
    · exact h
  · cases h : okC f t st hf ht
    · exact absurd (.inr h) hc
    · rfl
theorem listCut_all (is : List Int) (f t st : Int) (hf ht : Bool) (hl : is.length ≤ 1048576) : ∃ R : List Int, R.length ≤ 60 ∧ (∀ w v, RdI w v is → Calls Try.prog 47 #[v, .agg (cutC f t st hf ht)] w (LiP R w)) ∧ (∀ w v, RdI w v is → Calls Try.prog 45 #[v, .agg (cutC f t st hf ht)] w (LiP R w)) := by
  by_cases hc : 60 < is.length ∨ okC f t st hf ht = false
  · exact ⟨[], by simp, fun w v h => specListCut_no is v f t st hf ht w h hl hc, fun w v h => implListCut_no is v f t st hf ht w h hl hc⟩
  · have h60 : is.length ≤ 60 := by
      rcases Nat.lt_or_ge 60 is.length with h | h
      · exact absurd (.inl h) hc
      · exact h
    have hq : okC f t st hf ht = true := by
      cases h : okC f t st hf ht
      · exact absurd (.inr h) hc
      · rfl
    obtain ⟨A, M, hA, hM, hst, _, hin, eA, eM⟩ := cut_set is.length f t st hf ht hq (by omega)
    refine ⟨selI is A st M, by rw [selI_len]; omega, fun w v h => specListCut_ok is v f t st hf ht A M w h h60 hq hst hA hM hin (cut_spec hq (by omega) eA eM), fun w v h => implListCut_ok is v f t st hf ht A M w h h60 hq hM hin (fun w => cutPlaces_any is.length f t st hf ht A M w (by omega) hA hM hin (cut_impl hq (by omega) eA eM))⟩
end Go.Proofs.Ytbcphejblopekab
