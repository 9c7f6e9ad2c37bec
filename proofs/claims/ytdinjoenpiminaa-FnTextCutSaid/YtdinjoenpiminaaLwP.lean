/- What is ahead of a place and what is behind; a text turned. -/
import Derived.Test.YtdinjoenpiminaaLwC
namespace Go.Proofs.Ytdinjoenpiminaa
open Go.RowKit
theorem implCut_val (s : ByteArray) (f t st : Int) (hf ht : Bool) (hs : s.size ≤ 400) (hc : okC f t st hf ht = true) (A : Int) (M : Nat) (hA : cFrom (s.size : Int) f st hf = A) (hM : cntZ A (cTo (s.size : Int) t st ht) st = (M : Int)) (w : World) :
    Calls Try.prog 16 #[.string s, .agg (cutC f t st hf ht)] w fun e w' => e = .returned (.string ⟨(selL s A st M).toArray⟩) ∧ Below w.heap.size w w' := by
  obtain ⟨h1, h2, h3, h0⟩ := okC_parts hc
  obtain ⟨i1, i2, i3⟩ := sel_in (n := (s.size : Int)) (f := f) (t := t) (hf := hf) (ht := ht) (by omega) h0
  have hA2 := cFrom_in (n := (s.size : Int)) (f := f) (s := st) (hf := hf) (by omega)
  have hO2 := fun w => implRange_ok (s.size : Int) f t st hf ht w hc (by omega) (by omega)
  unfold rngV at hO2
  rw [hA] at i1 i2 i3 hA2 hO2
  rw [hM] at i1 i2 i3 hO2
  have hin : ∀ k, k < M → ∃ p, p < s.size ∧ A + (k : Int) * st = (p : Int) := fun k hk => by
    obtain ⟨g1, g2⟩ := i3 (k : Int) (by omega) (by omega)
    exact ⟨(A + (k : Int) * st).toNat, by omega, by omega⟩
  exact implCut_walk s f t st hf ht A M w (okT_le hs) (by omega) hin (fun w => cutPlaces_any s.size f t st hf ht A M w (by omega) (by omega) (by omega) hin hO2)
theorem sel_get (s : ByteArray) (A st : Int) (k i : Nat) (h : i < (selL s A st k).length) : (selL s A st k)[i] = s.data.toList.getD (A + (i : Int) * st).toNat 0 := by simp [selL]
theorem getD_at {l : List UInt8} {p : Nat} (h : p < l.length) : l.getD p 0 = l[p] := by rw [List.getD_eq_getElem?_getD, List.getElem?_eq_getElem h]; rfl
theorem sel_step (s : ByteArray) (a k : Nat) (h : a + k ≤ s.size) : selL s (a : Int) 1 k = (s.data.toList.drop a).take k := by
  have hl : s.data.toList.length = s.size := rfl
  apply List.ext_getElem
  · rw [selL_len, List.length_take, List.length_drop]; omega
  · intro i h1 h2
    rw [sel_get]
    rw [selL_len] at h1
    rw [show ((a : Int) + (i : Int) * 1).toNat = a + i by omega, getD_at (by omega), List.getElem_take, List.getElem_drop]
theorem sel_back (s : ByteArray) (n : Nat) (h : n = s.size) : selL s ((n : Int) - 1) (-1) n = s.data.toList.reverse := by
  have hl : s.data.toList.length = s.size := rfl
  apply List.ext_getElem
  · rw [selL_len, List.length_reverse]; omega
  · intro i h1 h2
    rw [sel_get]
    rw [selL_len] at h1
    rw [show (((n : Int) - 1) + (i : Int) * (-1)).toNat = n - 1 - i by omega, getD_at (by omega), List.getElem_reverse]
    congr 1
    omega
theorem cnt_up (a b : Int) (h : a ≤ b) : cntZ a b 1 = b - a := by
  unfold cntZ
  rw [if_pos (by decide)]
  by_cases h1 : a < b
  · rw [if_pos h1, Int.ediv_one]; omega
  · rw [if_neg h1]; omega
theorem bytes_eq2 {u q : ByteArray} (h : u.data.toList = q.data.toList) : u = q := ByteArray.ext (Array.toList_inj.1 h)
theorem okC_to (i : Int) (h1 : -1000000 ≤ i) (h2 : i ≤ 1000000) : okC 0 i 1 false true = true := by unfold okC idx; simp [h1, h2]
theorem okC_from (i : Int) (h1 : -1000000 ≤ i) (h2 : i ≤ 1000000) : okC i 0 1 true false = true := by unfold okC idx; simp [h1, h2]
/-- The program and the model agree on TextAt. -/
theorem at_all (a0 : ByteArray) (a1 : Int) (h0 : a0.size ≤ 1048576) (hb : -9223372036854775808 ≤ a1 ∧ a1 ≤ 9223372036854775807) : ∃ l bb, (∀ w, Calls Try.prog 21 #[.string a0, .int .i64 a1] w fun e w' => e = .returned (.tuple #[.string ⟨l⟩, .bool bb]) ∧ Below w.heap.size w w') ∧ (∀ w, Calls Try.prog 19 #[.string a0, .int .i64 a1] w fun e w' => e = .returned (.tuple #[.string ⟨l⟩, .bool bb]) ∧ Below w.heap.size w w') := by
  rcases at_cases a0 a1 with ⟨hok, p, hp, hi⟩ | hok | hi | hi
  · exact ⟨_, _, fun w => specAt_some a0 a1 p w h0 hok hp hi, fun w => implAt_some a0 a1 p w h0 hb.1 hb.2 hok hp hi⟩
  · exact ⟨_, _, fun w => specAt_long a0 a1 w h0 hok, fun w => implAt_long a0 a1 w h0 hb.1 hb.2 hok⟩
  · cases hok : okT a0 with
    | false => exact ⟨_, _, fun w => specAt_long a0 a1 w h0 hok, fun w => implAt_long a0 a1 w h0 hb.1 hb.2 hok⟩
    | true => exact ⟨_, _, fun w => specAt_out a0 a1 w h0 hok (Or.inl hi), fun w => implAt_low a0 a1 w h0 hb.1 hb.2 hok hi⟩
  · cases hok : okT a0 with
    | false => exact ⟨_, _, fun w => specAt_long a0 a1 w h0 hok, fun w => implAt_long a0 a1 w h0 hb.1 hb.2 hok⟩
    | true => exact ⟨_, _, fun w => specAt_out a0 a1 w h0 hok (Or.inr hi), fun w => implAt_high a0 a1 w h0 hb.1 hb.2 hok hi⟩
theorem parts_cut (s : ByteArray) (i : Int) (hs : s.size ≤ 400) (h1 : -1000000 ≤ i) (h2 : i ≤ 1000000) : ∃ a z : ByteArray, a ++ z = s ∧ a.size ≤ 400 ∧ z.size ≤ 400 ∧ (∀ w, Calls Try.prog 16 #[.string s, .agg (cutC 0 i 1 false true)] w fun e w' => e = .returned (.string a) ∧ Below w.heap.size w w') ∧ (∀ w, Calls Try.prog 16 #[.string s, .agg (cutC i 0 1 true false)] w fun e w' => e = .returned (.string z) ∧ Below w.heap.size w w') := by
  have hT := clampZ_in (i := i) (n := (s.size : Int)) (lo := 0) (hi := (s.size : Int)) (by omega)
  obtain ⟨T, hTe⟩ : ∃ T : Nat, clampZ i (s.size : Int) 0 (s.size : Int) = (T : Int) := ⟨(clampZ i (s.size : Int) 0 (s.size : Int)).toNat, by omega⟩
  rw [hTe] at hT
  have hl : s.data.toList.length = s.size := rfl
  refine ⟨⟨(selL s 0 1 T).toArray⟩, ⟨(selL s (T : Int) 1 (s.size - T)).toArray⟩, ?_, ?_, ?_, fun w => implCut_val s 0 i 1 false true hs (okC_to i h1 h2) 0 T rfl ?_ w, fun w => implCut_val s i 0 1 true false hs (okC_from i h1 h2) (T : Int) (s.size - T) ?_ ?_ w⟩
  · have e1 := sel_step s 0 T (by omega)
    have e2 := sel_step s T (s.size - T) (by omega)
    rw [show ((0 : Nat) : Int) = 0 from rfl, List.drop_zero] at e1
    have e3 : (s.data.toList.drop T).take (s.size - T) = s.data.toList.drop T := List.take_of_length_le (by rw [List.length_drop, hl]; exact Nat.le_refl _)
    rw [e1, e2, e3]
    apply bytes_eq2
    simp
  · show (selL s 0 1 T).toArray.size ≤ 400
    rw [List.size_toArray, selL_len]; omega
  · show (selL s (T : Int) 1 (s.size - T)).toArray.size ≤ 400
    rw [List.size_toArray, selL_len]; omega
  · rw [show cTo (s.size : Int) i 1 true = clampZ i (s.size : Int) 0 (s.size : Int) from rfl, hTe, cnt_up _ _ (by omega)]; omega
  · exact hTe
  · rw [show cTo (s.size : Int) 0 1 false = (s.size : Int) from rfl, cnt_up _ _ (by omega)]; omega
set_option maxHeartbeats 4000000 in
theorem fnTextParts_walk (a : Option Addr) (n cap : Nat) (zs : List Int) (w : World) (h : (a = none ∧ n = 0 ∧ cap = 0 ∧ zs = []) ∨ ∃ x, a = some x ∧ n ≤ cap ∧ cap ≤ maxLen ∧ zs.length = cap ∧ (∀ i, i < zs.length → w.cell? (x.add i) = some (.int .u8 (zs.getD i 0))) ∧ ∀ n ∈ zs, (Lit.int .u8 n).wf = true) :
    Calls Try.prog 6 #[.slice a n cap] w fun e w' => e = .returned (.bool true) ∧ Below w.heap.size w w' := by
  have HC := Lib.hid (dTextAt w a n cap (cr_of h))
  have hcap : n ≤ 9223372036854775807 := by
    rcases h with ⟨_, rfl, _⟩ | ⟨x, _, h1, h2, _⟩
    · omega
    · unfold maxLen at h2; omega
  clear h
  by_cases h0 : n ≤ 1048576
  · go_enter Try.func6, Try.ntmps6
    go_wp2_with fail
    refine HC.out.mono ?_
    rintro e w2 ⟨s, z, rfl, hs, hz1, hz2, hb2⟩
    have HBw2 := Lib.hid hb2
    clear hb2
    go_wp2_with (first | (refine ext rfl (.tmp 14) 0 [.string s, .int .i64 z] (.string s) rfl rfl rfl ?_) | (refine ext rfl (.tmp 14) 1 [.string s, .int .i64 z] (.int .i64 z) rfl rfl rfl ?_))
    have hs2 : s.size ≤ 1048576 := by omega
    obtain ⟨l, bb, h2, h1⟩ := at_all s z hs2 ⟨hz1, hz2⟩
    have H1 := Lib.hid h1
    have H2 := Lib.hid h2
    clear h1 h2
    by_cases hlo : z < -1000000
    · skip
      refine (H1.out _).mono ?_
      rintro e w3 ⟨rfl, hb⟩
      have HBw3 := Lib.hid (HBw2.out.trans (hb.mono HBw2.out.size))
      clear hb
      go_wp2_with (first | (refine ext rfl (.tmp 19) 0 [.string ⟨l⟩, .bool bb] (.string ⟨l⟩) rfl rfl rfl ?_) | (refine ext rfl (.tmp 19) 1 [.string ⟨l⟩, .bool bb] (.bool bb) rfl rfl rfl ?_))
      refine (H2.out _).mono ?_
      rintro e w4 ⟨rfl, hb⟩
      have HBw4 := Lib.hid (HBw3.out.trans (hb.mono HBw3.out.size))
      clear hb
      go_wp2_with (first | (refine ext rfl (.tmp 25) 0 [.string ⟨l⟩, .bool bb] (.string ⟨l⟩) rfl rfl rfl ?_) | (refine ext rfl (.tmp 25) 1 [.string ⟨l⟩, .bool bb] (.bool bb) rfl rfl rfl ?_))
      go_ret
      exact ⟨rfl, HBw4.out⟩
    · by_cases hhi : 1000000 < z
      · have hlo' : -1000000 ≤ z := by omega
        clear hlo
        refine (H1.out _).mono ?_
        rintro e w3 ⟨rfl, hb⟩
        have HBw3 := Lib.hid (HBw2.out.trans (hb.mono HBw2.out.size))
        clear hb
        go_wp2_with (first | (refine ext rfl (.tmp 19) 0 [.string ⟨l⟩, .bool bb] (.string ⟨l⟩) rfl rfl rfl ?_) | (refine ext rfl (.tmp 19) 1 [.string ⟨l⟩, .bool bb] (.bool bb) rfl rfl rfl ?_))
        refine (H2.out _).mono ?_
        rintro e w4 ⟨rfl, hb⟩
        have HBw4 := Lib.hid (HBw3.out.trans (hb.mono HBw3.out.size))
        clear hb
        go_wp2_with (first | (refine ext rfl (.tmp 25) 0 [.string ⟨l⟩, .bool bb] (.string ⟨l⟩) rfl rfl rfl ?_) | (refine ext rfl (.tmp 25) 1 [.string ⟨l⟩, .bool bb] (.bool bb) rfl rfl rfl ?_))
        go_ret
        exact ⟨rfl, HBw4.out⟩
      · have hlo' : -1000000 ≤ z := by omega
        have hhi' : z ≤ 1000000 := by omega
        obtain ⟨a1, z1, hcat, ha4, hz4, h3, h4⟩ := parts_cut s z hs hlo' hhi'
        have H3 := Lib.hid h3
        have H4 := Lib.hid h4
        unfold cutC at H3 H4
        have HCt := Lib.hid hcat
        clear hlo hhi h3 h4 hcat
        refine (H1.out _).mono ?_
        rintro e w3 ⟨rfl, hb⟩
        have HBw3 := Lib.hid (HBw2.out.trans (hb.mono HBw2.out.size))
        clear hb
        go_wp2_with (first | (refine ext rfl (.tmp 19) 0 [.string ⟨l⟩, .bool bb] (.string ⟨l⟩) rfl rfl rfl ?_) | (refine ext rfl (.tmp 19) 1 [.string ⟨l⟩, .bool bb] (.bool bb) rfl rfl rfl ?_))
        refine (H2.out _).mono ?_
        rintro e w4 ⟨rfl, hb⟩
        have HBw4 := Lib.hid (HBw3.out.trans (hb.mono HBw3.out.size))
        clear hb
        go_wp2_with (first | (refine ext rfl (.tmp 25) 0 [.string ⟨l⟩, .bool bb] (.string ⟨l⟩) rfl rfl rfl ?_) | (refine ext rfl (.tmp 25) 1 [.string ⟨l⟩, .bool bb] (.bool bb) rfl rfl rfl ?_))
        refine (H3.out _).mono ?_
        rintro e w5 ⟨rfl, hb⟩
        have HBw5 := Lib.hid (HBw4.out.trans (hb.mono HBw4.out.size))
        clear hb
        go_wp2_with fail
        refine (H4.out _).mono ?_
        rintro e w6 ⟨rfl, hb⟩
        have HBw6 := Lib.hid (HBw5.out.trans (hb.mono HBw5.out.size))
        clear hb
        go_wp2_with (first | (refine (puts_cat 9 9 (.tmp 68) (.tmp 69) rfl a1 z1 rfl rfl (by omega)).gives.plain rfl ?_; rw [HCt.out]))
        go_ret
        exact ⟨rfl, HBw6.out⟩
  · go_enter Try.func6, Try.ntmps6
    go_wp2_with fail
    go_ret
    exact ⟨rfl, Below.refl _ _⟩
end Go.Proofs.Ytdinjoenpiminaa
