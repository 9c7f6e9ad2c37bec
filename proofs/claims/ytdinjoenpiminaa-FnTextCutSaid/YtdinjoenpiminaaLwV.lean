/- The law on TextCut. -/
import Derived.Test.YtdinjoenpiminaaLwU
namespace Go.Proofs.Ytdinjoenpiminaa
open Go.RowKit
theorem byte_at2 {r : ByteArray} {l : List UInt8} (hl : r.data.toList = l) (i : Nat) (h : i < r.size) (h2 : i < l.length) : r[i] = l[i] := by subst hl; rfl
theorem specCut_val (s : ByteArray) (f t st : Int) (hf ht : Bool) (hs : s.size ≤ 400) (hc : okC f t st hf ht = true) (A : Int) (M : Nat) (hA : cFrom (s.size : Int) f st hf = A) (hM : cntZ A (cTo (s.size : Int) t st ht) st = (M : Int)) (w : World) :
    Calls Try.prog 14 #[.string s, .agg (cutC f t st hf ht)] w fun e w' => e = .returned (.string ⟨(selL s A st M).toArray⟩) ∧ Below w.heap.size w w' := by
  obtain ⟨h1, h2, h3, h0⟩ := okC_parts hc
  obtain ⟨i1, i2, i3⟩ := sel_in (n := (s.size : Int)) (f := f) (t := t) (hf := hf) (ht := ht) (by omega) h0
  have hA2 := cFrom_in (n := (s.size : Int)) (f := f) (s := st) (hf := hf) (by omega)
  have hO1 := fun w => specCutOf_any (s.size : Int) f t st hf ht w hc (by omega) (by omega)
  unfold rngV at hO1
  rw [hA] at i1 i2 i3 hA2 hO1
  rw [hM] at i1 i2 i3 hO1
  have hin : ∀ k, k < M → ∃ p, p < s.size ∧ A + (k : Int) * st = (p : Int) := fun k hk => by
    obtain ⟨g1, g2⟩ := i3 (k : Int) (by omega) (by omega)
    exact ⟨(A + (k : Int) * st).toNat, by omega, by omega⟩
  exact specCut_ok s f t st hf ht _ w (by omega) (okT_le hs) hc (fun w => textCut_walk s f t st hf ht A M w hs h3 (by omega) (by omega) hin hO1)
/-- What a valid slice selects of a text: in the program, in the model, byte by byte. -/
theorem cut_ok (s : ByteArray) (f t st : Int) (hf ht : Bool) (hs : s.size ≤ 400) (hc : okC f t st hf ht = true) : ∃ (A : Int) (M : Nat), M ≤ s.size ∧ -1 ≤ A ∧ A ≤ 400 ∧ (∀ k, k < M → ∃ p, ∃ h : p < s.size, A + (k : Int) * st = (p : Int) ∧ (⟨(selL s A st M).toArray⟩ : ByteArray).extract k (k + 1) = ⟨#[s[p]]⟩) ∧
    (∀ w, Calls Try.prog 16 #[.string s, .agg (cutC f t st hf ht)] w fun e w' => e = .returned (.string ⟨(selL s A st M).toArray⟩) ∧ Below w.heap.size w w') ∧
    (∀ w, Calls Try.prog 14 #[.string s, .agg (cutC f t st hf ht)] w fun e w' => e = .returned (.string ⟨(selL s A st M).toArray⟩) ∧ Below w.heap.size w w') ∧
    (∀ w, Calls Try.prog 18 #[.int .i64 (s.size : Int), .agg (cutC f t st hf ht)] w fun e w' => e = .returned (.tuple #[.int .i64 A, .int .i64 (M : Int)]) ∧ Below w.heap.size w w') := by
  obtain ⟨h1, h2, h3, h0⟩ := okC_parts hc
  obtain ⟨i1, i2, i3⟩ := sel_in (n := (s.size : Int)) (f := f) (t := t) (hf := hf) (ht := ht) (by omega) h0
  have hA2 := cFrom_in (n := (s.size : Int)) (f := f) (s := st) (hf := hf) (by omega)
  obtain ⟨M, hM⟩ : ∃ M : Nat, cntZ (cFrom (s.size : Int) f st hf) (cTo (s.size : Int) t st ht) st = (M : Int) := ⟨_, (Int.toNat_of_nonneg i1).symm⟩
  have hR := fun w => implRange_ok (s.size : Int) f t st hf ht w hc (by omega) (by omega)
  unfold rngV at hR
  rw [hM] at hR i2 i3
  refine ⟨_, M, by omega, hA2.1, by omega, fun k hk => ?_, fun w => implCut_val s f t st hf ht hs hc _ M rfl hM w, fun w => specCut_val s f t st hf ht hs hc _ M rfl hM w, hR⟩
  obtain ⟨g1, g2⟩ := i3 (k : Int) (by omega) (by omega)
  have hp : (cFrom (s.size : Int) f st hf + (k : Int) * st).toNat < s.size := by omega
  refine ⟨_, hp, by omega, ?_⟩
  have hsz : (⟨(selL s (cFrom (s.size : Int) f st hf) st M).toArray⟩ : ByteArray).size = M := by
    show (selL s (cFrom (s.size : Int) f st hf) st M).toArray.size = M
    rw [List.size_toArray, selL_len]
  rw [ext_one _ k (by omega)]
  congr 2
  rw [byte_at2 (l := selL s (cFrom (s.size : Int) f st hf) st M) rfl k (by omega) (by rw [selL_len]; exact hk), sel_get]
  exact congrArg (fun c => [c]) (getD_at (l := s.data.toList) hp)
theorem cut_bad (s : ByteArray) (f t st : Int) (hf ht : Bool) (hs : s.size ≤ 400) (hc : okC f t st hf ht = false) : (∀ w, Calls Try.prog 14 #[.string s, .agg (cutC f t st hf ht)] w fun e w' => e = .returned (.string ⟨#[]⟩) ∧ Below w.heap.size w w') ∧ (∀ w, Calls Try.prog 16 #[.string s, .agg (cutC f t st hf ht)] w fun e w' => e = .returned (.string ⟨#[]⟩) ∧ Below w.heap.size w w') :=
  ⟨fun w => specCut_bad s f t st hf ht w (by omega) (okT_le hs) hc, fun w => implCut_walk s f t st hf ht 0 0 w (okT_le hs) (by omega) (fun k hk => by omega) (fun w => cutPlaces_any s.size f t st hf ht 0 0 w (by omega) (by omega) (by omega) (fun k hk => by omega) (fun w => implRange_no _ f t st hf ht w hc (by omega) (by omega)))⟩
theorem textAt_val (s : ByteArray) (p : Nat) (hs : s.size ≤ 400) (hp : p < s.size) (w : World) : Calls Try.prog 19 #[.string s, .int .i64 (p : Int)] w fun e w' => e = .returned (.tuple #[.string ⟨#[s[p]]⟩, .bool true]) ∧ Below w.heap.size w w' :=
  implAt_some s (p : Int) p w (by omega) (by omega) (by omega) (okT_le hs) hp (Or.inl rfl)
set_option maxHeartbeats 4000000 in
theorem fnTextCut_walk (a : Option Addr) (n cap : Nat) (zs : List Int) (w : World) (h : (a = none ∧ n = 0 ∧ cap = 0 ∧ zs = []) ∨ ∃ x, a = some x ∧ n ≤ cap ∧ cap ≤ maxLen ∧ zs.length = cap ∧ (∀ i, i < zs.length → w.cell? (x.add i) = some (.int .u8 (zs.getD i 0))) ∧ ∀ n ∈ zs, (Lit.int .u8 n).wf = true) :
    Calls Try.prog 4 #[.slice a n cap] w fun e w' => e = .returned (.bool true) ∧ Below w.heap.size w w' := by
  have HC := Lib.hid (dTextCut w a n cap (cr_of h))
  have hcap : n ≤ 9223372036854775807 := by
    rcases h with ⟨_, rfl, _⟩ | ⟨x, _, h1, h2, _⟩
    · omega
    · unfold maxLen at h2; omega
  clear h
  by_cases h0 : n ≤ 1048576
  · go_enter Try.func4, Try.ntmps4
    go_wp2_with fail
    refine HC.out.mono ?_
    rintro e w2 ⟨s, f, t, st, hf, ht, rfl, hs, _, _, q3, hb2⟩
    unfold cutC
    have HX2 := Lib.hid (show Blk (w2.alloc (.cells #[.int .i64 f, .int .i64 t, .int .i64 st, .bool hf, .bool ht] 25)) w2.heap.size 25 #[.int .i64 f, .int .i64 t, .int .i64 st, .bool hf, .bool ht] from Blk.new _ _ _ rfl)
    have HBw2 := Lib.hid (show Below w.heap.size w (w2.alloc (.cells #[.int .i64 f, .int .i64 t, .int .i64 st, .bool hf, .bool ht] 25)) from hb2.alloc hb2.size _)
    clear hb2
    go_wp2_with (first | (refine ext rfl (.tmp 16) 0 [.string s, .agg #[.int .i64 f, .int .i64 t, .int .i64 st, .bool hf, .bool ht]] (.string s) rfl rfl rfl ?_) | (refine ext rfl (.tmp 16) 1 [.string s, .agg #[.int .i64 f, .int .i64 t, .int .i64 st, .bool hf, .bool ht]] (.agg #[.int .i64 f, .int .i64 t, .int .i64 st, .bool hf, .bool ht]) rfl rfl rfl ?_))
    cases hc : okC f t st hf ht with
    | false =>
      obtain ⟨h2, h1⟩ := cut_bad s f t st hf ht hs hc
      have H1 := Lib.hid h1
      have H2 := Lib.hid h2
      unfold cutC at H1 H2
      clear h1 h2 hc
      refine (H1.out _).mono ?_
      rintro e w3 ⟨rfl, hb⟩
      have HX3 := Lib.hid (HX2.out.below hb HX2.out.lt)
      have HBw3 := Lib.hid (HBw2.out.trans (hb.mono HBw2.out.size))
      clear hb
      have c0 : w3.cell? ⟨w2.heap.size, 0, none⟩ = some (.int .i64 f) := HX3.out.cell 0
      have c1 : w3.cell? ⟨w2.heap.size, 1, none⟩ = some (.int .i64 t) := HX3.out.cell 1
      have c2 : w3.cell? ⟨w2.heap.size, 2, none⟩ = some (.int .i64 st) := HX3.out.cell 2
      have c3 : w3.cell? ⟨w2.heap.size, 3, none⟩ = some (.bool hf) := HX3.out.cell 3
      have c4 : w3.cell? ⟨w2.heap.size, 4, none⟩ = some (.bool ht) := HX3.out.cell 4
      go_wp2_with fail
      clear c0 c1 c2 c3 c4
      refine (H2.out _).mono ?_
      rintro e w4 ⟨rfl, hb⟩
      have HX4 := Lib.hid (HX3.out.below hb HX3.out.lt)
      have HBw4 := Lib.hid (HBw3.out.trans (hb.mono HBw3.out.size))
      clear hb
      go_wp2_with fail
      go_ret
      exact ⟨rfl, HBw4.out⟩
    | true =>
      obtain ⟨A, M, m1, m2, m3, hk, h1, h2, h3⟩ := cut_ok s f t st hf ht hs hc
      obtain ⟨_, _, hst, _⟩ := okC_parts hc
      have H1 := Lib.hid h1
      have H2 := Lib.hid h2
      have H3 := Lib.hid h3
      have HK := Lib.hid hk
      obtain ⟨O, hO⟩ : ∃ O : ByteArray, O = ⟨(selL s A st M).toArray⟩ := ⟨_, rfl⟩
      rw [← hO] at H1 H2 HK
      have hOs : O.size = M := by
        rw [hO]
        show (selL s A st M).toArray.size = M
        rw [List.size_toArray, selL_len]
      unfold cutC at H1 H2 H3
      clear h1 h2 h3 hk hc hO
      by_cases hM : M = 0
      · have hOe : (O.toList == []) = true := toList_nil (by omega)
        have HOs := Lib.hid hOs
        clear hOs
        refine (H1.out _).mono ?_
        rintro e w3 ⟨rfl, hb⟩
        have HX3 := Lib.hid (HX2.out.below hb HX2.out.lt)
        have HBw3 := Lib.hid (HBw2.out.trans (hb.mono HBw2.out.size))
        clear hb
        have c0 : w3.cell? ⟨w2.heap.size, 0, none⟩ = some (.int .i64 f) := HX3.out.cell 0
        have c1 : w3.cell? ⟨w2.heap.size, 1, none⟩ = some (.int .i64 t) := HX3.out.cell 1
        have c2 : w3.cell? ⟨w2.heap.size, 2, none⟩ = some (.int .i64 st) := HX3.out.cell 2
        have c3 : w3.cell? ⟨w2.heap.size, 3, none⟩ = some (.bool hf) := HX3.out.cell 3
        have c4 : w3.cell? ⟨w2.heap.size, 4, none⟩ = some (.bool ht) := HX3.out.cell 4
        go_wp2_with fail
        clear c0 c1 c2 c3 c4
        refine (H2.out _).mono ?_
        rintro e w4 ⟨rfl, hb⟩
        have HX4 := Lib.hid (HX3.out.below hb HX3.out.lt)
        have HBw4 := Lib.hid (HBw3.out.trans (hb.mono HBw3.out.size))
        clear hb
        go_wp2_with fail
        go_ret
        exact ⟨rfl, HBw4.out⟩
      · have hOe : (O.toList == []) = false := toList_ne (by omega)
        have HOs := Lib.hid hOs
        have hO1 : O.size ≤ 400 := by omega
        have hO2 : (O.size : Int) = (M : Int) := by omega
        have HO2 := Lib.hid hO2
        clear hOs hO2
        refine (H1.out _).mono ?_
        rintro e w3 ⟨rfl, hb⟩
        have HX3 := Lib.hid (HX2.out.below hb HX2.out.lt)
        have HBw3 := Lib.hid (HBw2.out.trans (hb.mono HBw2.out.size))
        clear hb
        have c0 : w3.cell? ⟨w2.heap.size, 0, none⟩ = some (.int .i64 f) := HX3.out.cell 0
        have c1 : w3.cell? ⟨w2.heap.size, 1, none⟩ = some (.int .i64 t) := HX3.out.cell 1
        have c2 : w3.cell? ⟨w2.heap.size, 2, none⟩ = some (.int .i64 st) := HX3.out.cell 2
        have c3 : w3.cell? ⟨w2.heap.size, 3, none⟩ = some (.bool hf) := HX3.out.cell 3
        have c4 : w3.cell? ⟨w2.heap.size, 4, none⟩ = some (.bool ht) := HX3.out.cell 4
        go_wp2_with fail
        clear c0 c1 c2 c3 c4
        refine (H2.out _).mono ?_
        rintro e w4 ⟨rfl, hb⟩
        have HX4 := Lib.hid (HX3.out.below hb HX3.out.lt)
        have HBw4 := Lib.hid (HBw3.out.trans (hb.mono HBw3.out.size))
        clear hb
        have c0 : w4.cell? ⟨w2.heap.size, 0, none⟩ = some (.int .i64 f) := HX4.out.cell 0
        have c1 : w4.cell? ⟨w2.heap.size, 1, none⟩ = some (.int .i64 t) := HX4.out.cell 1
        have c2 : w4.cell? ⟨w2.heap.size, 2, none⟩ = some (.int .i64 st) := HX4.out.cell 2
        have c3 : w4.cell? ⟨w2.heap.size, 3, none⟩ = some (.bool hf) := HX4.out.cell 3
        have c4 : w4.cell? ⟨w2.heap.size, 4, none⟩ = some (.bool ht) := HX4.out.cell 4
        go_wp2_with fail
        clear c0 c1 c2 c3 c4
        refine (H3.out _).mono ?_
        rintro e w5 ⟨rfl, hb⟩
        have HX5 := Lib.hid (HX4.out.below hb HX4.out.lt)
        have HBw5 := Lib.hid (HBw4.out.trans (hb.mono HBw4.out.size))
        clear hb
        go_wp2_with (first | (refine ext rfl (.tmp 37) 0 [.int .i64 A, .int .i64 (M : Int)] (.int .i64 A) rfl rfl rfl ?_) | (refine ext rfl (.tmp 37) 1 [.int .i64 A, .int .i64 (M : Int)] (.int .i64 (M : Int)) rfl rfl rfl ?_))
        go_loopw [10] (fun i wr => ∃ k : Nat, k ≤ M ∧ i = .int .i64 k ∧ Hid (Below w.heap.size w wr ∧ Blk wr w2.heap.size 25 #[.int .i64 f, .int .i64 t, .int .i64 st, .bool hf, .bool ht])) (fun i _ => M - (intOf i).toNat)
        case atStart => exact ⟨0, by omega, rfl, Lib.hid ⟨HBw5.out, HX5.out⟩⟩
        case round =>
          obtain ⟨k, hkM, rfl, HI⟩ := hrel
          by_cases hlt : k < M
          · obtain ⟨p, hp, he, hx⟩ := HK.out k hlt
            have HA := Lib.hid (fun w => textAt_val s p hs hp w)
            obtain ⟨o, ho⟩ : ∃ o : ByteArray, o = ⟨#[s[p]]⟩ := ⟨_, rfl⟩
            rw [← ho] at HA hx
            have hne : (o.toList == (O.extract k (k + 1)).toList) = true := by rw [hx]; simp
            have hP1 : (k : Int) * st ≤ 1000000 := by omega
            have hP0 : -1000000 ≤ (k : Int) * st := by omega
            have d2 : wr.cell? ⟨w2.heap.size, 2, none⟩ = some (.int .i64 st) := HI.out.2.cell 2
            have k1 : (k : Int) < (M : Int) := by omega
            have k2 : (k : Int) < (O.size : Int) := by rw [HO2.out]; exact k1
            clear ho hx
            go_wp2_with fail
            refine (HA.out _).mono ?_
            rintro e w6 ⟨rfl, hb⟩
            have HI6 := Lib.hid (show Below w.heap.size w w6 ∧ Blk w6 w2.heap.size 25 #[.int .i64 f, .int .i64 t, .int .i64 st, .bool hf, .bool ht] from ⟨HI.out.1.trans (hb.mono HI.out.1.size), HI.out.2.below hb HI.out.2.lt⟩)
            clear hb
            go_wp2_with (first | (refine ext rfl (.tmp 55) 0 [.string o, .bool true] (.string o) rfl rfl rfl ?_) | (refine ext rfl (.tmp 55) 1 [.string o, .bool true] (.bool true) rfl rfl rfl ?_))
            go_roundw
            case rel => exact ⟨k + 1, by omega, by go_num, HI6⟩
            case measure => simp [intOf]; try omega
          · obtain rfl : k = M := by omega
            have HBk := Lib.hid HI.out.1
            have hMO : ((k : Int) == (O.size : Int)) = true := by rw [HO2.out]; simp
            clear hlt
            go_wp2_with fail
            go_ret
            exact ⟨rfl, HBk.out⟩
  · go_enter Try.func4, Try.ntmps4
    go_wp2_with fail
    go_ret
    exact ⟨rfl, Below.refl _ _⟩
end Go.Proofs.Ytdinjoenpiminaa
