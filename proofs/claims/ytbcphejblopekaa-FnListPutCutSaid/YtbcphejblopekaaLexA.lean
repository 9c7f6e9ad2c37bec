/- The exact laws on lists of numbers, at every input. -/
import Derived.Test.YtbcphejblopekaaLex
import Derived.Test.YtbcphejblopekaaLdrop
namespace Go.Proofs.Ytbcphejblopekaa
open Go.RowKit
theorem roomsR_len (is : List Int) : (roomsR is).length ≤ 1048576 := by
  unfold roomsR
  cases h : okL 0 is
  · simp
  · have := (okL_parts h).1
    simp [roomsL_len]; omega
theorem fnExactRoomsOf_all (is : List Int) (a : Option Addr) (cap : Nat) (w : World) (h : RsI w a cap is) (_hm : cap ≤ maxLen) :
    Calls Try.prog 4 #[.slice a is.length cap] w fun e w' => e = .returned (.bool true) ∧ Below w.heap.size w w' := by
  by_cases hl : is.length ≤ 1048576
  · exact fnExactRoomsOf_walk is a cap (roomsR is) w h hl (roomsR_len is) (fun w2 u hu => specRooms_any is u w2 hu hl) (fun w2 u hu => implRooms_any is u w2 hu hl)
  · have hcap := h.1
    unfold maxLen at _hm
    clear h
    generalize is.length = n at *
    go_enter Try.func4, Try.ntmps4
    go_wp2
    go_ret
    exact ⟨rfl, Below.refl _ _⟩
theorem cut_yes {is : List Int} {f t st : Int} {hf ht : Bool} (hc : ¬ (60 < is.length ∨ okC f t st hf ht = false)) : is.length ≤ 60 ∧ okC f t st hf ht = true := by
  refine ⟨?_, ?_⟩
  · rcases Nat.lt_or_ge 60 is.length with h | h
    · exact absurd (.inl h) hc
    · exact h
  · cases h : okC f t st hf ht
    · exact absurd (.inr h) hc
    · rfl
theorem listCut_all (is : List Int) (f t st : Int) (hf ht : Bool) (hl : is.length ≤ 1048576) : ∃ R : List Int, R.length ≤ 60 ∧ (∀ w v, RdI w v is → Calls Try.prog 23 #[v, .agg (cutC f t st hf ht)] w (LiP R w)) ∧ (∀ w v, RdI w v is → Calls Try.prog 25 #[v, .agg (cutC f t st hf ht)] w (LiP R w)) := by
  by_cases hc : 60 < is.length ∨ okC f t st hf ht = false
  · exact ⟨[], by simp, fun w v h => specListCut_no is v f t st hf ht w h hl hc, fun w v h => implListCut_no is v f t st hf ht w h hl hc⟩
  · have h60 : is.length ≤ 60 := by
      rcases Nat.lt_or_ge 60 is.length with h | h
      · exact absurd (.inl h) hc
      · exact h
    have hq : okC f t st hf ht = true := by
      cases h : okC f t st hf ht
      · exact absurd (.inr h) hc
      · rfl
    obtain ⟨A, M, hA, hM, hst, _, hin, eA, eM⟩ := cut_set is.length f t st hf ht hq (by omega)
    refine ⟨selI is A st M, by rw [selI_len]; omega, fun w v h => specListCut_ok is v f t st hf ht A M w h h60 hq hst hA hM hin (cut_spec hq (by omega) eA eM), fun w v h => implListCut_ok is v f t st hf ht A M w h h60 hq hM hin (fun w => cutPlaces_any is.length f t st hf ht A M w (by omega) hA hM hin (cut_impl hq (by omega) eA eM))⟩
theorem fnExactListCut_all (is : List Int) (a : Option Addr) (cap : Nat) (f t st : Int) (hf ht : Bool) (w : World) (h : RsI w a cap is) (_hm : cap ≤ maxLen) :
    Calls Try.prog 5 #[.slice a is.length cap, .agg (cutC f t st hf ht)] w fun e w' => e = .returned (.bool true) ∧ Below w.heap.size w w' := by
  by_cases hl : is.length ≤ 1048576
  · obtain ⟨R, hR, h1, h2⟩ := listCut_all is f t st hf ht hl
    exact fnExactListCut_walk is a cap f t st hf ht R w h hl (by omega) (fun w2 u hu => h1 w2 u hu) (fun w2 u hu => h2 w2 u hu)
  · have hcap := h.1
    unfold maxLen at _hm
    clear h
    generalize is.length = n at *
    unfold cutC
    go_enter Try.func5, Try.ntmps5
    go_wp2
    go_ret
    exact ⟨rfl, (Below.refl _ _).alloc (Nat.le_refl _) _⟩
theorem listDrop_all (is : List Int) (f t st : Int) (hf ht : Bool) (hl : is.length ≤ 1048576) : ∃ R : List Int, R.length ≤ 60 ∧ (∀ w v, RdI w v is → Calls Try.prog 26 #[v, .agg (cutC f t st hf ht)] w (LiP R w)) ∧ (∀ w v, RdI w v is → Calls Try.prog 27 #[v, .agg (cutC f t st hf ht)] w (LiP R w)) := by
  by_cases hc : 60 < is.length ∨ okC f t st hf ht = false
  · exact ⟨[], by simp, fun w v h => specListDrop_no is v f t st hf ht w h hl hc, fun w v h => implListDrop_no is v f t st hf ht w h hl hc⟩
  · obtain ⟨h60, hq⟩ := cut_yes hc
    obtain ⟨A, M, hA, hM, hst, _, hin, eA, eM⟩ := cut_set is.length f t st hf ht hq (by omega)
    refine ⟨restI is A st M is.length, by have := restI_le is A st M is.length; omega, fun w v h => specListDrop_ok is v f t st hf ht A M w h h60 hq (fun w => selected_any is.length f t st hf ht A M w (by omega) hst hA hM hin (cut_spec hq (by omega) eA eM)), fun w v h => implListDrop_ok is v f t st hf ht A M w h h60 hq hM hin (fun w => cutPlaces_any is.length f t st hf ht A M w (by omega) hA hM hin (cut_impl hq (by omega) eA eM))⟩
theorem fnExactListDropCut_all (is : List Int) (a : Option Addr) (cap : Nat) (f t st : Int) (hf ht : Bool) (w : World) (h : RsI w a cap is) (_hm : cap ≤ maxLen) :
    Calls Try.prog 6 #[.slice a is.length cap, .agg (cutC f t st hf ht)] w fun e w' => e = .returned (.bool true) ∧ Below w.heap.size w w' := by
  by_cases hl : is.length ≤ 1048576
  · obtain ⟨R, hR, h1, h2⟩ := listDrop_all is f t st hf ht hl
    exact fnExactListDropCut_walk is a cap f t st hf ht R w h hl (by omega) (fun w2 u hu => h1 w2 u hu) (fun w2 u hu => h2 w2 u hu)
  · have hcap := h.1
    unfold maxLen at _hm
    clear h
    generalize is.length = n at *
    unfold cutC
    go_enter Try.func6, Try.ntmps6
    go_wp2
    go_ret
    exact ⟨rfl, (Below.refl _ _).alloc (Nat.le_refl _) _⟩
end Go.Proofs.Ytbcphejblopekaa
