/- The law on deleting and putting back. -/
import Derived.Test.YtbcphejblopekabLwE
import Derived.Test.YtbcphejblopekabLput5
namespace Go.Proofs.Ytbcphejblopekab
open Go.RowKit
theorem gone_one (p M j : Nat) : gone (p : Int) 1 M j = decide (p ≤ j ∧ j < p + M) := by
  unfold gone
  by_cases h : p ≤ j ∧ j < p + M
  · rw [decide_eq_true h, List.any_eq_true]
    refine ⟨j - p, List.mem_range.2 (by omega), ?_⟩
    have : (p : Int) + ((j - p : Nat) : Int) * 1 = (j : Int) := by omega
    simpa using this
  · rw [decide_eq_false h, List.any_eq_false]
    intro i hi
    rw [List.mem_range] at hi
    have : ¬ ((p : Int) + (i : Int) * 1 = (j : Int)) := by omega
    simpa using this
theorem rest_one (is : List Int) (p M : Nat) : ∀ j, j ≤ is.length → restI is (p : Int) 1 M j = is.take (min j p) ++ (is.drop (p + M)).take (j - (p + M)) := by
  intro j
  induction j with
  | zero => intro _; simp [restI]
  | succ j ih =>
    intro hj
    have hlt : j < is.length := by omega
    rw [restI_succ (List.getElem?_eq_getElem hlt), ih (by omega), gone_one]
    by_cases h1 : j < p
    · rw [decide_eq_false (by omega), show min j p = j by omega, show min (j + 1) p = j + 1 by omega, show j - (p + M) = 0 by omega, show j + 1 - (p + M) = 0 by omega, List.take_succ_eq_append_getElem hlt]
      simp
    · by_cases h2 : j < p + M
      · rw [decide_eq_true (by omega), show min j p = p by omega, show min (j + 1) p = p by omega, show j - (p + M) = 0 by omega, show j + 1 - (p + M) = 0 by omega]
        simp
      · rw [decide_eq_false (by omega), show min j p = p by omega, show min (j + 1) p = p by omega, show j + 1 - (p + M) = (j - (p + M)) + 1 by omega, List.take_succ_eq_append_getElem (by rw [List.length_drop]; omega)]
        have e : (is.drop (p + M))[j - (p + M)]'(by rw [List.length_drop]; omega) = is[j] := by
          rw [List.getElem_drop]
          congr 1; omega
        rw [e]
        simp
theorem sel_one (is : List Int) (p M : Nat) (h : p + M ≤ is.length) : selI is (p : Int) 1 M = (is.drop p).take M := by
  apply List.ext_getElem?
  intro j
  by_cases hj : j < M
  · unfold selI
    rw [List.getElem?_map, List.getElem?_range hj, Option.map_some, List.getElem?_take, if_pos hj, List.getElem?_drop, List.getD_eq_getElem?_getD]
    have e : ((p : Int) + (j : Int) * 1).toNat = p + j := by omega
    rw [e, List.getElem?_eq_getElem (by omega)]; rfl
  · rw [List.getElem?_eq_none (by rw [selI_len]; omega), List.getElem?_eq_none (by rw [List.length_take]; omega)]
theorem rest_all (is : List Int) (p M : Nat) (h : p + M ≤ is.length) : restI is (p : Int) 1 M is.length = is.take p ++ is.drop (p + M) := by
  rw [rest_one is p M _ (Nat.le_refl _), show min is.length p = p by omega, List.take_of_length_le (l := is.drop (p + M)) (by rw [List.length_drop]; omega)]
theorem sw_back (is : List Int) (p M : Nat) (h : p + M ≤ is.length) : swI (restI is (p : Int) 1 M is.length) (selI is (p : Int) 1 M) p 0 = is := by
  have hl : (is.take p).length = p := by rw [List.length_take]; omega
  rw [rest_all is p M h, sel_one is p M h]
  unfold swI
  rw [Nat.add_zero, List.take_left' hl, List.drop_left' hl, List.append_assoc, ← List.drop_drop, List.take_append_drop, List.take_append_drop]
theorem from_pos {n f : Int} {hf : Bool} (h : 0 ≤ n) : 0 ≤ cFrom n f 1 hf := by
  unfold cFrom cLo cHi
  have := clampZ_in (i := f) (n := n) (lo := 0) (hi := n) (by omega)
  cases hf <;> simp <;> omega
theorem parts_known (is : List Int) (f t : Int) (hf ht : Bool) (h60 : is.length ≤ 60) (hq : okC f t 1 hf ht = true) : ∃ p M : Nat, p + M ≤ is.length ∧
    (∀ w, Calls Try.prog 49 #[.int .i64 is.length, .agg (cutC f t 1 hf ht)] w fun e w' => e = .returned (.tuple #[.int .i64 (p : Int), .int .i64 (M : Int)]) ∧ Below w.heap.size w w') ∧
    (∀ w v, RdI w v is → Calls Try.prog 45 #[v, .agg (cutC f t 1 hf ht)] w (LiP (selI is (p : Int) 1 M) w)) ∧
    (∀ w v, RdI w v is → Calls Try.prog 50 #[v, .agg (cutC f t 1 hf ht)] w (LiP (restI is (p : Int) 1 M is.length) w)) ∧
    (∀ w v u, RdO w v (restI is (p : Int) 1 M is.length) → RdO w u (selI is (p : Int) 1 M) → Calls Try.prog 51 #[v, .agg (cutC (p : Int) (p : Int) 1 true true), u] w (LiPb is true w)) := by
  obtain ⟨A, M, hA, hM, hst, h0, hin, eA, eM⟩ := cut_set is.length f t 1 hf ht hq (by omega)
  have hA0 : 0 ≤ A := by rw [eA]; exact from_pos (by omega)
  obtain ⟨p, rfl⟩ : ∃ p : Nat, A = (p : Int) := ⟨A.toNat, by omega⟩
  have hpM : p + M ≤ is.length := by
    rcases Nat.eq_zero_or_pos M with rfl | hMp
    · omega
    · obtain ⟨q, hq1, hq2⟩ := hin (M - 1) (by omega)
      omega
  have hO := cut_impl hq (by omega) eA eM
  have hP := fun w => cutPlaces_any is.length f t 1 hf ht (p : Int) M w (by omega) hA hM hin hO
  have hrl : (restI is (p : Int) 1 M is.length).length = is.length - M := by
    rw [rest_all is p M hpM, List.length_append, List.length_take, List.length_drop]; omega
  have hok2 : okC (p : Int) (p : Int) 1 true true = true := by
    unfold okC idx; simp; omega
  have eA2 : (p : Int) = cFrom ((restI is (p : Int) 1 M is.length).length : Int) (p : Int) 1 true := by
    rw [hrl]; unfold cFrom cLo cHi clampZ; simp; omega
  have eM2 : ((0 : Nat) : Int) = cntZ (cFrom ((restI is (p : Int) 1 M is.length).length : Int) (p : Int) 1 true) (cTo ((restI is (p : Int) 1 M is.length).length : Int) (p : Int) 1 true) 1 := by
    have e : cTo ((restI is (p : Int) 1 M is.length).length : Int) (p : Int) 1 true = (p : Int) := by
      rw [hrl]; unfold cTo cLo cHi clampZ; simp; omega
    rw [e, ← eA2]; unfold cntZ; simp
  refine ⟨p, M, hpM, hO, fun w v h => implListCut_ok is v f t 1 hf ht (p : Int) M w h h60 hq hM hin hP, fun w v h => implListDrop_ok is v f t 1 hf ht (p : Int) M w h h60 hq hM hin hP, fun w v u h hu => ?_⟩
  have := implPut_one (restI is (p : Int) 1 M is.length) (selI is (p : Int) 1 M) v u (p : Int) (p : Int) 1 true true p 0 w h hu (by omega) hok2 (by rw [selI_len]; omega) rfl (by omega) (by rw [selI_len]; omega) (cut_impl hok2 (by omega) eA2 eM2)
  rw [sw_back is p M hpM] at this
  exact this
set_option maxHeartbeats 4000000 in
theorem fnListParts_walk (a : Option Addr) (n cap : Nat) (zs : List Int) (w : World) (h : (a = none ∧ n = 0 ∧ cap = 0 ∧ zs = []) ∨ ∃ x, a = some x ∧ n ≤ cap ∧ cap ≤ maxLen ∧ zs.length = cap ∧ (∀ i, i < zs.length → w.cell? (x.add i) = some (.int .u8 (zs.getD i 0))) ∧ ∀ n ∈ zs, (Lit.int .u8 n).wf = true) :
    Calls Try.prog 12 #[.slice a n cap] w fun e w' => e = .returned (.bool true) ∧ Below w.heap.size w w' := by
  have HC := Lib.hid (dListCut w a n cap (cr_of h))
  have hcap : n ≤ 9223372036854775807 := by
    rcases h with ⟨_, rfl, _⟩ | ⟨x, _, h1, h2, _⟩
    · omega
    · unfold maxLen at h2; omega
  clear h
  by_cases h0 : n ≤ 1048576
  · go_enter Try.func12, Try.ntmps12
    go_wp2_with fail
    refine HC.out.mono ?_
    rintro e w2 ⟨v, is, f, t, st, hf, ht, rfl, _, hl, ho2, hb2⟩
    obtain ⟨R, hR, k1, k2⟩ := listCut_all is f t st hf ht (by omega)
    have H1 := Lib.hid k1
    have H2 := Lib.hid k2
    have HOK := Lib.hid (fun w => cutOk_any f t 1 hf ht w)
    unfold cutC at *
    clear k1 k2
    have HVL := Lib.hid (fun g hg => (ho2.lt g hg).2)
    have HX2 := Lib.hid (show CutAt (w2.alloc (.cells #[.int .i64 f, .int .i64 t, .int .i64 st, .bool hf, .bool ht] 52)) w2.heap.size f t st hf ht from Blk.new _ _ _ rfl)
    have HB2 := Lib.hid (show Below w.heap.size w (w2.alloc (.cells #[.int .i64 f, .int .i64 t, .int .i64 st, .bool hf, .bool ht] 52)) from hb2.alloc hb2.size _)
    have HV2 := Lib.hid (show OwI (w2.alloc (.cells #[.int .i64 f, .int .i64 t, .int .i64 st, .bool hf, .bool ht] 52)) w.heap.size v is from ho2.below ((Below.refl _ _).alloc (Nat.le_refl _) _))
    have HW2 := Lib.hid hb2.size
    clear hb2 ho2 HC
    go_wp2_with (first | (refine ext rfl (.tmp 15) 0 [v, .agg #[.int .i64 f, .int .i64 t, .int .i64 st, .bool hf, .bool ht]] v rfl rfl rfl ?_) | (refine ext rfl (.tmp 15) 1 [v, .agg #[.int .i64 f, .int .i64 t, .int .i64 st, .bool hf, .bool ht]] (.agg #[.int .i64 f, .int .i64 t, .int .i64 st, .bool hf, .bool ht]) rfl rfl rfl ?_))
    refine (H2.out _ _ HV2.out.rd).mono ?_
    rintro e w3 ⟨vo, rfl, ho3, hb3⟩
    have HX3 := Lib.hid (HX2.out.below hb3 HX2.out.lt)
    have HB3 := Lib.hid (HB2.out.trans (hb3.mono HB2.out.size))
    have HV3 := Lib.hid (HV2.out.below hb3)
    have HO3 := Lib.hid ho3
    clear ho3 hb3
    obtain ⟨c0, c1, c2, c3, c4⟩ := HX3.out.cells
    go_wp2_with fail
    refine (H1.out _ _ HV3.out.rd).mono ?_
    rintro e w4 ⟨vw, rfl, ho4, hb4⟩
    have HX4 := Lib.hid (HX3.out.below hb4 HX3.out.lt)
    have HB4 := Lib.hid (HB3.out.trans (hb4.mono HB3.out.size))
    have HV4 := Lib.hid (HV3.out.below hb4)
    have HO4 := Lib.hid (HO3.out.below hb4)
    have HW4 := Lib.hid ho4
    clear ho4 hb4 c0 c1 c2 c3 c4
    go_wp2_with fail
    refine (sameInts_rd R _ _ _ HO4.out.rd HW4.out.rd (by omega)).mono ?_
    rintro e w5 ⟨rfl, hb5⟩
    have HX5 := Lib.hid (HX4.out.below hb5 HX4.out.lt)
    have HB5 := Lib.hid (HB4.out.trans (hb5.mono HB4.out.size))
    have HV5 := Lib.hid (HV4.out.below hb5)
    clear hb5
    have d2 := HX5.out.cells.2.2.1
    have f2 := Blk.free HX5.out 2
    have HX6 := Lib.hid (show CutAt (w5.setCell ⟨w2.heap.size, 2, none⟩ (.int .i64 1)) w2.heap.size f t 1 hf ht from Blk.set HX5.out 2 (.int .i64 1))
    have HB6 := Lib.hid (show Below w.heap.size w (w5.setCell ⟨w2.heap.size, 2, none⟩ (.int .i64 1)) from HB5.out.setCell HW2.out _)
    have HV6 := Lib.hid (show OwI (w5.setCell ⟨w2.heap.size, 2, none⟩ (.int .i64 1)) w.heap.size v is from HV5.out.grown (row := some w2.heap.size) ⟨rfl, rfl, rfl, by simp, fun j _ hj => heap_setCell_other _ ⟨w2.heap.size, 2, none⟩ j _ (fun e => hj (by simp [e]))⟩ (by cases hq : v.ownBlock with | none => exact .inl rfl | some q => exact .inr fun e => by have := HVL.out q hq; injection e with e; omega))
    obtain ⟨c0, c1, c2, c3, c4⟩ := HX6.out.cells
    go_wp2_with fail
    refine (HOK.out _).mono ?_
    rintro e w7 ⟨rfl, hb7⟩
    have HX7 := Lib.hid (HX6.out.below hb7 HX6.out.lt)
    have HB7 := Lib.hid (HB6.out.trans (hb7.mono HB6.out.size))
    have HV7 := Lib.hid (HV6.out.below hb7)
    clear hb7 c0 c1 c2 c3 c4 d2 f2 HV2 HV3 HV4 HV5 HV6 HX2 HX3 HX4 HX5 HX6 HO3 HO4 HW4 HB2 HB3 HB4 HB5 HB6
    cases hc : okC f t 1 hf ht with
    | false =>
      go_wp2_with fail
      go_ret
      exact ⟨rfl, HB7.out⟩
    | true =>
      obtain ⟨p, M, hpM, k1, k2, k3, k4⟩ := parts_known is f t hf ht (by omega) hc
      have K1 := Lib.hid k1
      have K2 := Lib.hid k2
      have K3 := Lib.hid k3
      have K4 := Lib.hid k4
      unfold cutC at K1 K2 K3 K4
      clear k1 k2 k3 k4 hc
      obtain ⟨a2, cp2, hv⟩ := HV7.out.len
      subst hv
      obtain ⟨nn, hn⟩ : ∃ nn, nn = is.length := ⟨_, rfl⟩
      have HN := Lib.hid hn
      rw [← hn] at hl hpM K1 HV7 ⊢
      clear hn
      obtain ⟨c0, c1, c2, c3, c4⟩ := HX7.out.cells
      go_wp2_with fail
      refine (K1.out _).mono ?_
      rintro e w8 ⟨rfl, hb8⟩
      have HX8 := Lib.hid (HX7.out.below hb8 HX7.out.lt)
      have HB8 := Lib.hid (HB7.out.trans (hb8.mono HB7.out.size))
      have HV8 := Lib.hid (HV7.out.below hb8)
      clear hb8 c0 c1 c2 c3 c4
      obtain ⟨c0, c1, c2, c3, c4⟩ := HX8.out.cells
      go_wp2_with (first | (refine ext rfl (.tmp 38) 0 [.int .i64 (p : Int), .int .i64 (M : Int)] (.int .i64 (p : Int)) rfl rfl rfl ?_) | (refine ext rfl (.tmp 38) 1 [.int .i64 (p : Int), .int .i64 (M : Int)] (.int .i64 (M : Int)) rfl rfl rfl ?_))
      refine (K2.out _ _ HV8.out.rd).mono ?_
      rintro e w9 ⟨vc, rfl, ho9, hb9⟩
      have HX9 := Lib.hid (HX8.out.below hb9 HX8.out.lt)
      have HB9 := Lib.hid (HB8.out.trans (hb9.mono HB8.out.size))
      have HV9 := Lib.hid (HV8.out.below hb9)
      have HC9 := Lib.hid ho9
      clear ho9 hb9 c0 c1 c2 c3 c4
      obtain ⟨c0, c1, c2, c3, c4⟩ := HX9.out.cells
      go_wp2_with fail
      refine (K3.out _ _ HV9.out.rd).mono ?_
      rintro e w10 ⟨vr, rfl, ho10, hb10⟩
      have HX10 := Lib.hid (HX9.out.below hb10 HX9.out.lt)
      have HB10 := Lib.hid (HB9.out.trans (hb10.mono HB9.out.size))
      have HV10 := Lib.hid (HV9.out.below hb10)
      have HC10 := Lib.hid (HC9.out.below hb10)
      have HR10 := Lib.hid ho10
      clear ho10 hb10 c0 c1 c2 c3 c4
      go_wp2_with fail
      refine (K4.out _ _ _ ⟨_, by have := HR10.out; exact this⟩ ⟨_, HC10.out⟩).mono ?_
      rintro e w11 ⟨vb, rfl, ho11, hb11⟩
      have HB11 := Lib.hid (HB10.out.trans (hb11.mono HB10.out.size))
      have HV11 := Lib.hid (HV10.out.below hb11)
      have HO11 := Lib.hid ho11
      clear ho11 hb11
      go_wp2_with (first | (refine ext rfl (.tmp 51) 0 [vb, .bool true] vb rfl rfl rfl ?_) | (refine ext rfl (.tmp 51) 1 [vb, .bool true] (.bool true) rfl rfl rfl ?_))
      refine (sameInts_rd is _ _ _ HO11.out.rd HV11.out.rd (by have := HN.out; omega)).mono ?_
      rintro e w12 ⟨rfl, hb12⟩
      have HB12 := Lib.hid (HB11.out.trans (hb12.mono HB11.out.size))
      clear hb12
      go_wp2_with fail
      go_ret
      exact ⟨rfl, HB12.out⟩
  · go_enter Try.func12, Try.ntmps12
    go_wp2_with fail
    go_ret
    exact ⟨rfl, Below.refl _ _⟩
end Go.Proofs.Ytbcphejblopekab
