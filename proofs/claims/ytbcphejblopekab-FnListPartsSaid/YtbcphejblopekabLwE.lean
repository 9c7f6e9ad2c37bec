/- The law on slices backwards. -/
import Derived.Test.YtbcphejblopekabLwD
namespace Go.Proofs.Ytbcphejblopekab
open Go.RowKit
theorem cut_sel (is : List Int) (f t st : Int) (hf ht : Bool) (h60 : is.length ≤ 60) (hq : okC f t st hf ht = true) : ∃ (A : Int) (M : Nat), M ≤ is.length ∧
    (∀ w v, RdI w v is → Calls Try.prog 47 #[v, .agg (cutC f t st hf ht)] w (LiP (selI is A st M) w)) ∧ (∀ w v, RdI w v is → Calls Try.prog 45 #[v, .agg (cutC f t st hf ht)] w (LiP (selI is A st M) w)) ∧
    A = cFrom (is.length : Int) f st hf ∧ (M : Int) = cntZ (cFrom (is.length : Int) f st hf) (cTo (is.length : Int) t st ht) st := by
  obtain ⟨A, M, hA, hM, hst, h0, hin, eA, eM⟩ := cut_set is.length f t st hf ht hq (by omega)
  have hP := fun w => cutPlaces_any is.length f t st hf ht A M w (by omega) hA hM hin (cut_impl hq (by omega) eA eM)
  exact ⟨A, M, hM, fun w v h => specListCut_ok is v f t st hf ht A M w h h60 hq hst hA hM hin (cut_spec hq (by omega) eA eM), fun w v h => implListCut_ok is v f t st hf ht A M w h h60 hq hM hin hP, eA, eM⟩
theorem back_from (n : Nat) : cFrom (n : Int) 0 (-1) false = (n : Int) - 1 := by unfold cFrom; simp
theorem back_count (n : Nat) : cntZ ((n : Int) - 1) (cTo (n : Int) 0 (-1) false) (-1) = (n : Int) := by
  unfold cTo cntZ
  simp
  omega
theorem sel_back (is : List Int) : selI is ((is.length : Int) - 1) (-1) is.length = is.reverse := by
  apply List.ext_getElem?
  intro j
  by_cases hj : j < is.length
  · unfold selI
    rw [List.getElem?_map, List.getElem?_range hj, List.getElem?_reverse hj, Option.map_some, List.getD_eq_getElem?_getD]
    have e : ((is.length : Int) - 1 + (j : Int) * -1).toNat = is.length - 1 - j := by omega
    rw [e, List.getElem?_eq_getElem (by omega)]; rfl
  · rw [List.getElem?_eq_none (by rw [selI_len]; omega), List.getElem?_eq_none (by rw [List.length_reverse]; omega)]
theorem rev_known (is : List Int) (h60 : is.length ≤ 60) (w : World) (v : Value) (h : RdI w v is) : Calls Try.prog 45 #[v, .agg (cutC 0 0 (-1) false false)] w (LiP is.reverse w) := by
  obtain ⟨A, M, _, _, k2, eA, eM⟩ := cut_sel is 0 0 (-1) false false h60 (by decide)
  rw [back_from] at eA eM
  rw [back_count] at eM
  have hM : M = is.length := by omega
  subst hM eA
  have := k2 w v h
  rw [sel_back] at this
  exact this
set_option maxHeartbeats 4000000 in
theorem fnListTurned_walk (a : Option Addr) (n cap : Nat) (zs : List Int) (w : World) (h : (a = none ∧ n = 0 ∧ cap = 0 ∧ zs = []) ∨ ∃ x, a = some x ∧ n ≤ cap ∧ cap ≤ maxLen ∧ zs.length = cap ∧ (∀ i, i < zs.length → w.cell? (x.add i) = some (.int .u8 (zs.getD i 0))) ∧ ∀ n ∈ zs, (Lit.int .u8 n).wf = true) :
    Calls Try.prog 13 #[.slice a n cap] w fun e w' => e = .returned (.bool true) ∧ Below w.heap.size w w' := by
  have HC := Lib.hid (dListCut w a n cap (cr_of h))
  have hcap : n ≤ 9223372036854775807 := by
    rcases h with ⟨_, rfl, _⟩ | ⟨x, _, h1, h2, _⟩
    · omega
    · unfold maxLen at h2; omega
  clear h
  by_cases h0 : n ≤ 1048576
  · go_enter Try.func13, Try.ntmps13
    go_wp2_with fail
    refine HC.out.mono ?_
    rintro e w2 ⟨v, is, f, t, st, hf, ht, rfl, _, hl, ho2, hb2⟩
    obtain ⟨R, hR, k1, k2⟩ := listCut_all is f t st hf ht (by omega)
    have H1 := Lib.hid k1
    have H2 := Lib.hid k2
    have HK := Lib.hid (fun w v (h : RdI w v is) => rev_known is (by omega) w v h)
    have HJ := Lib.hid (fun w v (h : RdI w v is.reverse) => rev_known is.reverse (by rw [List.length_reverse]; omega) w v h)
    rw [List.reverse_reverse] at HJ
    unfold cutC at *
    clear k1 k2
    have HX2 := Lib.hid (show CutAt (w2.alloc (.cells #[.int .i64 f, .int .i64 t, .int .i64 st, .bool hf, .bool ht] 52)) w2.heap.size f t st hf ht from Blk.new _ _ _ rfl)
    have HB2 := Lib.hid (show Below w.heap.size w (w2.alloc (.cells #[.int .i64 f, .int .i64 t, .int .i64 st, .bool hf, .bool ht] 52)) from hb2.alloc hb2.size _)
    have HV2 := Lib.hid (show OwI (w2.alloc (.cells #[.int .i64 f, .int .i64 t, .int .i64 st, .bool hf, .bool ht] 52)) w.heap.size v is from ho2.below ((Below.refl _ _).alloc (Nat.le_refl _) _))
    clear hb2 ho2 HC
    go_wp2_with (first | (refine ext rfl (.tmp 10) 0 [v, .agg #[.int .i64 f, .int .i64 t, .int .i64 st, .bool hf, .bool ht]] v rfl rfl rfl ?_) | (refine ext rfl (.tmp 10) 1 [v, .agg #[.int .i64 f, .int .i64 t, .int .i64 st, .bool hf, .bool ht]] (.agg #[.int .i64 f, .int .i64 t, .int .i64 st, .bool hf, .bool ht]) rfl rfl rfl ?_))
    refine (H2.out _ _ HV2.out.rd).mono ?_
    rintro e w3 ⟨vo, rfl, ho3, hb3⟩
    have HX3 := Lib.hid (HX2.out.below hb3 HX2.out.lt)
    have HB3 := Lib.hid (HB2.out.trans (hb3.mono HB2.out.size))
    have HV3 := Lib.hid (HV2.out.below hb3)
    have HO3 := Lib.hid ho3
    clear ho3 hb3
    obtain ⟨c0, c1, c2, c3, c4⟩ := HX3.out.cells
    go_wp2_with fail
    refine (H1.out _ _ HV3.out.rd).mono ?_
    rintro e w4 ⟨vw, rfl, ho4, hb4⟩
    have HX4 := Lib.hid (HX3.out.below hb4 HX3.out.lt)
    have HB4 := Lib.hid (HB3.out.trans (hb4.mono HB3.out.size))
    have HV4 := Lib.hid (HV3.out.below hb4)
    have HO4 := Lib.hid (HO3.out.below hb4)
    have HW4 := Lib.hid ho4
    clear ho4 hb4 c0 c1 c2 c3 c4
    go_wp2_with fail
    refine (sameInts_rd R _ _ _ HO4.out.rd HW4.out.rd (by omega)).mono ?_
    rintro e w5 ⟨rfl, hb5⟩
    have HX5 := Lib.hid (HX4.out.below hb5 HX4.out.lt)
    have HB5 := Lib.hid (HB4.out.trans (hb5.mono HB4.out.size))
    have HV5 := Lib.hid (HV4.out.below hb5)
    clear hb5
    go_wp2_with fail
    refine (HK.out _ _ HV5.out.rd).mono ?_
    rintro e w6 ⟨vt, rfl, ho6, hb6⟩
    have HX6 := Lib.hid (HX5.out.below hb6 HX5.out.lt)
    have HB6 := Lib.hid (HB5.out.trans (hb6.mono HB5.out.size))
    have HV6 := Lib.hid (HV5.out.below hb6)
    have HT6 := Lib.hid ho6
    clear ho6 hb6
    obtain ⟨a2, cp2, hv⟩ := HV6.out.len
    subst hv
    have HV6' := HV6
    clear HV2 HV3 HV4 HV5
    have HLN := Lib.hid hl
    have HVR := Lib.hid (HV6.out.rd)
    generalize hn : is.length = nn at *
    go_wp2_with fail
    refine (HJ.out _ _ HT6.out.rd).mono ?_
    rintro e w7 ⟨vb, rfl, ho7, hb7⟩
    have HB7 := Lib.hid (HB6.out.trans (hb7.mono HB6.out.size))
    have HV7 := Lib.hid (HVR.out.below hb7)
    have HO7 := Lib.hid ho7
    clear ho7 hb7
    go_wp2_with fail
    refine (sameInts_rd is _ _ _ HO7.out.rd HV7.out (by omega)).mono ?_
    rintro e w8 ⟨rfl, hb8⟩
    have HB8 := Lib.hid (HB7.out.trans (hb8.mono HB7.out.size))
    clear hb8
    go_wp2_with fail
    go_ret
    exact ⟨rfl, HB8.out⟩
  · go_enter Try.func13, Try.ntmps13
    go_wp2_with fail
    go_ret
    exact ⟨rfl, Below.refl _ _⟩
end Go.Proofs.Ytbcphejblopekab
