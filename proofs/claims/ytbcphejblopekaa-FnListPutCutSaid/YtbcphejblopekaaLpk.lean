/- What putting numbers in place of a slice's does, known by cases. -/
import Derived.Test.YtbcphejblopekaaLexB
namespace Go.Proofs.Ytbcphejblopekaa
open Go.RowKit
theorem places_apart {A st : Int} {j k p q : Nat} (h0 : st ≠ 0) (hj : A + (j : Int) * st = (p : Int)) (hk : A + (k : Int) * st = (q : Int)) (hne : j ≠ k) : p ≠ q := by
  intro e
  subst e
  have h4 : ((k : Int) - (j : Int)) * st = 0 := by rw [Int.sub_mul]; omega
  rcases Int.mul_eq_zero.1 h4 with h5 | h5
  · omega
  · exact h0 h5
theorem put_get {is news : List Int} {A st : Int} (h0 : st ≠ 0) (M : Nat) (hin : ∀ k, k < M → ∃ p, p < is.length ∧ A + (k : Int) * st = (p : Int)) (hM : M ≤ news.length) : ∀ k, k ≤ M → ∀ (j p : Nat), j < k → A + (j : Int) * st = (p : Int) → (putI is news A st k)[p]? = news[j]? := by
  intro k
  induction k with
  | zero => intro _ j p hj; omega
  | succ k ih =>
    intro hk j p hj he
    obtain ⟨q, hq, heq⟩ := hin k (by omega)
    rw [putI_succ (List.getElem?_eq_getElem (show k < news.length by omega)) heq]
    by_cases hjk : j = k
    · subst hjk
      have : p = q := by omega
      subst this
      rw [List.getElem?_set, if_pos rfl, if_pos (by rw [putI_len]; exact hq), List.getElem?_eq_getElem]
    · rw [List.getElem?_set, if_neg (fun e => places_apart h0 he heq hjk e.symm)]
      exact ih (by omega) j p (by omega) he
theorem sel_put {is news : List Int} {A st : Int} (h0 : st ≠ 0) (hin : ∀ k, k < news.length → ∃ p, p < is.length ∧ A + (k : Int) * st = (p : Int)) : selI (putI is news A st news.length) A st news.length = news := by
  apply List.ext_getElem?
  intro j
  by_cases hj : j < news.length
  · obtain ⟨p, hp, he⟩ := hin j hj
    have h1 := put_get (is := is) (news := news) h0 news.length hin (Nat.le_refl _) news.length (Nat.le_refl _) j p hj he
    unfold selI
    rw [List.getElem?_map, List.getElem?_range hj, Option.map_some, List.getD_eq_getElem?_getD, he, Int.toNat_natCast, h1, List.getElem?_eq_getElem hj]; rfl
  · rw [List.getElem?_eq_none (by rw [selI_len]; omega), List.getElem?_eq_none (by omega)]
theorem put_sel {is : List Int} {A st : Int} (M : Nat) (hin : ∀ k, k < M → ∃ p, p < is.length ∧ A + (k : Int) * st = (p : Int)) : ∀ k, k ≤ M → putI is (selI is A st M) A st k = is := by
  intro k
  induction k with
  | zero => intro _; rfl
  | succ k ih =>
    intro hk
    obtain ⟨q, hq, heq⟩ := hin k (by omega)
    have hs : (selI is A st M)[k]? = some is[q] := by
      unfold selI
      rw [List.getElem?_map, List.getElem?_range (by omega), Option.map_some, List.getD_eq_getElem?_getD, heq, Int.toNat_natCast, List.getElem?_eq_getElem hq]; rfl
    rw [putI_succ hs heq, ih (by omega)]
    exact List.set_getElem_self hq
theorem sel_mid (is : List Int) (p M : Nat) (h : p + M ≤ is.length) : selI is (p : Int) 1 M = (is.drop p).take M := by
  apply List.ext_getElem?
  intro j
  by_cases hj : j < M
  · unfold selI
    rw [List.getElem?_map, List.getElem?_range hj, Option.map_some, List.getElem?_take, if_pos hj, List.getElem?_drop, List.getD_eq_getElem?_getD]
    have e : ((p : Int) + (j : Int) * 1).toNat = p + j := by omega
    rw [e, List.getElem?_eq_getElem (by omega)]; rfl
  · rw [List.getElem?_eq_none (by rw [selI_len]; omega), List.getElem?_eq_none (by rw [List.length_take]; omega)]
theorem sw_same (is : List Int) (p M : Nat) (h : p + M ≤ is.length) : swI is (selI is (p : Int) 1 M) p M = is := by
  rw [sel_mid is p M h]
  unfold swI
  rw [List.append_assoc, ← List.drop_drop, List.take_append_drop, List.take_append_drop]
def PutNo (is news : List Int) (f t st : Int) (hf ht : Bool) : Prop := (∀ w u0 u2, RdO w u0 is → RdO w u2 news → Calls Try.prog 28 #[u0, .agg (cutC f t st hf ht), u2] w (LiPb [] false w)) ∧ (∀ w u0 u2, RdO w u0 is → RdO w u2 news → Calls Try.prog 29 #[u0, .agg (cutC f t st hf ht), u2] w (LiPb [] false w))
def PutYes (is news : List Int) (f t st : Int) (hf ht : Bool) : Prop := ∃ (A : Int) (M : Nat) (R : List Int), M ≤ is.length ∧ R.length ≤ 60 ∧
    (∀ w u0 u2, RdO w u0 is → RdO w u2 news → Calls Try.prog 28 #[u0, .agg (cutC f t st hf ht), u2] w (LiPb R true w)) ∧ (∀ w u0 u2, RdO w u0 is → RdO w u2 news → Calls Try.prog 29 #[u0, .agg (cutC f t st hf ht), u2] w (LiPb R true w)) ∧
    (∀ w v, RdI w v is → Calls Try.prog 25 #[v, .agg (cutC f t st hf ht)] w (LiP (selI is A st M) w)) ∧
    (∀ w u0 u2, RdO w u0 is → RdO w u2 (selI is A st M) → Calls Try.prog 29 #[u0, .agg (cutC f t st hf ht), u2] w (LiPb is true w)) ∧
    (∀ w, Calls Try.prog 39 #[.int .i64 is.length, .agg (cutC f t st hf ht)] w fun e w' => e = .returned (.tuple #[.int .i64 A, .int .i64 M]) ∧ Below w.heap.size w w') ∧
    (st = 1 → R.length + M = is.length + news.length) ∧ (st ≠ 1 → ∀ w v, RdI w v R → Calls Try.prog 25 #[v, .agg (cutC f t st hf ht)] w (LiP news w))
theorem put_cases (is news : List Int) (f t st : Int) (hf ht : Bool) (h60 : is.length ≤ 60) (hl2 : news.length ≤ 60) : PutNo is news f t st hf ht ∨ PutYes is news f t st hf ht := by
  cases hq : okC f t st hf ht with
  | false => exact .inl ⟨fun w u0 u2 h hu => (specPut_bad is news u0 u2 f t st hf ht w h hu (by omega) (by omega) (.inr hq)).mono fun e w' h => h.li, fun w u0 u2 h hu => (implPut_bad is news u0 u2 f t st hf ht w h hu (by omega) (by omega) (.inr hq)).mono fun e w' h => h.li⟩
  | true =>
    obtain ⟨A, M, hA, hM, hst, h0, hin, eA, eM⟩ := cut_set is.length f t st hf ht hq (by omega)
    have hO1 := cut_spec hq (by omega) eA eM
    have hO2 := cut_impl hq (by omega) eA eM
    have hP := fun w => cutPlaces_any is.length f t st hf ht A M w (by omega) hA hM hin hO2
    have hcut := fun w v h => implListCut_ok is v f t st hf ht A M w h h60 hq hM hin hP
    by_cases h1 : st = 1
    · subst h1
      have hA0 : 0 ≤ A := by rw [eA]; exact from_pos (by omega)
      obtain ⟨p, rfl⟩ : ∃ p : Nat, A = (p : Int) := ⟨A.toNat, by omega⟩
      have hpM : p + M ≤ is.length := by
        rcases Nat.eq_zero_or_pos M with rfl | hMp
        · omega
        · obtain ⟨q, hq1, hq2⟩ := hin (M - 1) (by omega)
          omega
      by_cases htot : is.length - M + news.length ≤ 60
      · refine .inr ⟨(p : Int), M, swI is news p M, hM, by rw [swI_len hpM]; exact htot, fun w u0 u2 h hu => specPut_one is news u0 u2 f t 1 hf ht p M w h hu h60 hq (by omega) rfl hpM htot hO1, fun w u0 u2 h hu => implPut_one is news u0 u2 f t 1 hf ht p M w h hu h60 hq (by omega) rfl hpM htot hO2, hcut, fun w u0 u2 h hu => ?_, hO2, fun _ => by rw [swI_len hpM]; omega, fun h => absurd rfl h⟩
        have := implPut_one is (selI is (p : Int) 1 M) u0 u2 f t 1 hf ht p M w h hu h60 hq (by rw [selI_len]; omega) rfl hpM (by rw [selI_len]; omega) hO2
        rw [sw_same is p M hpM] at this
        exact this
      · exact .inl ⟨fun w u0 u2 h hu => (specPut_over is news u0 u2 f t 1 hf ht p M w h hu h60 hq (by omega) rfl hpM (by omega) hO1).mono fun e w' h => h.li, fun w u0 u2 h hu => (implPut_over is news u0 u2 f t 1 hf ht p M w h hu h60 hq (by omega) rfl hpM (by omega) hO2).mono fun e w' h => h.li⟩
    · by_cases hne : news.length = M
      · refine .inr ⟨A, M, putI is news A st M, hM, by rw [putI_len]; exact h60, fun w u0 u2 h hu => specPut_set is news u0 u2 f t st hf ht A M w h hu h60 hq (by omega) h1 hne hM hst (by omega) hin hO1, fun w u0 u2 h hu => implPut_set is news u0 u2 f t st hf ht A M w h hu h60 hq (by omega) h1 hne hM hst (by omega) hin hP hO2, hcut, fun w u0 u2 h hu => ?_, hO2, fun h => absurd h h1, fun _ w v h => ?_⟩
        · have := implPut_set is (selI is A st M) u0 u2 f t st hf ht A M w h hu h60 hq (by rw [selI_len]; omega) h1 (selI_len is A st M) hM hst (by omega) hin hP hO2
          rw [put_sel M hin M (Nat.le_refl _)] at this
          exact this
        · have hlen : (putI is news A st M).length = is.length := putI_len is news A st M
          have := implListCut_ok (putI is news A st M) v f t st hf ht A M w h (by rw [hlen]; exact h60) hq (by rw [hlen]; exact hM) (by rw [hlen]; exact hin) (by rw [hlen]; exact hP)
          subst hne
          rw [sel_put h0 hin] at this
          exact this
      · exact .inl ⟨fun w u0 u2 h hu => (specPut_no is news u0 u2 f t st hf ht A M w h hu h60 hq hl2 h1 hne (by omega) (by omega) hO1).mono fun e w' h => h.li, fun w u0 u2 h hu => (implPut_no is news u0 u2 f t st hf ht A M w h hu h60 hq (by omega) h1 hne (by omega) (by omega) hO2).mono fun e w' h => h.li⟩
end Go.Proofs.Ytbcphejblopekaa
