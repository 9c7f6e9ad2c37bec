/- Every second byte and the others. -/
import Derived.Test.YtdinjoenpiminaaLwP
import Derived.Test.YtdinjoenpiminaaQuo3
namespace Go.Proofs.Ytdinjoenpiminaa
open Go.RowKit
/-- Some text. -/
def TxT (w : World) (e : Ending) (w' : World) : Prop := ∃ s : ByteArray, e = .returned (.string s) ∧ s.size ≤ 400 ∧ Below w.heap.size w w'
set_option maxHeartbeats 1000000 in
theorem dTextQuote (w : World) (a : Option Addr) (n cap : Nat) (h : Cr w a n cap) : Calls Try.prog 22 #[.slice a n cap] w (TxT w) := by
  have HN := Lib.hid (newRnd_any w a n cap h)
  clear h
  go_enter Try.func22, Try.ntmps22
  go_wp2_with fail
  refine HN.out.mono ?_
  rintro e w1 ⟨rfl, hb1, m, hr1⟩
  have HB1 := Lib.hid hb1
  have HR1 := Lib.hid hr1
  clear hb1 hr1
  go_wp2_with fail
  refine (text_draw w1 w.heap.size m cap 0 a HR1.out (by decide)).mono ?_
  rintro e w2 ⟨⟨l, rfl, hl⟩, hg2, k2, hk2, hr2⟩
  have HB2 := Lib.hid (below_row HB1.out hg2 (Nat.le_refl _))
  have HL := Lib.hid hl
  clear hl hg2 hr2
  go_wp2_with fail
  go_ret
  exact ⟨⟨l.toArray⟩, rfl, by have := HL.out; simpa [ByteArray.size] using this, HB2.out⟩

theorem byte_at2 {r : ByteArray} {l : List UInt8} (hl : r.data.toList = l) (i : Nat) (h : i < r.size) (h2 : i < l.length) : r[i] = l[i] := by subst hl; rfl
theorem cnt_two (a n : Nat) (h : a ≤ n) : cntZ (a : Int) (n : Int) 2 = (((n - a + 1) / 2 : Nat) : Int) := by
  unfold cntZ
  rw [if_pos (by decide)]
  by_cases h1 : a < n
  · rw [if_pos (by omega)]; omega
  · rw [if_neg (by omega)]; omega
theorem sel_two (s : ByteArray) (a M j : Nat) (hj : j < M) (hb : a + j * 2 < s.size) : (⟨(selL s (a : Int) 2 M).toArray⟩ : ByteArray).extract j (j + 1) = s.extract (a + j * 2) (a + j * 2 + 1) := by
  have hsz : (⟨(selL s (a : Int) 2 M).toArray⟩ : ByteArray).size = M := by
    show (selL s (a : Int) 2 M).toArray.size = M
    rw [List.size_toArray, selL_len]
  rw [ext_one _ j (by omega), ext_one s _ hb]
  congr 2
  rw [byte_at2 (l := selL s (a : Int) 2 M) rfl j (by omega) (by rw [selL_len]; exact hj), sel_get]
  have e : ((a : Int) + (j : Int) * 2).toNat = a + j * 2 := by omega
  rw [e]
  exact congrArg (fun c => [c]) (getD_at (l := s.data.toList) hb)
theorem okC_even : okC 0 0 2 false false = true := by decide
theorem okC_odd : okC 1 0 2 true false = true := by decide
theorem odd_from (n : Nat) : cFrom (n : Int) 1 2 true = ((min 1 n : Nat) : Int) := by
  unfold cFrom cLo cHi clampZ
  simp
  omega
/-- The two halves of a text. -/
theorem odd_cut (s : ByteArray) (hs : s.size ≤ 400) : ∃ a b : ByteArray, a.size = (s.size + 1) / 2 ∧ b.size = s.size / 2 ∧ (∀ k, k < s.size → k % 2 = 0 → a.extract (k / 2) (k / 2 + 1) = s.extract k (k + 1)) ∧ (∀ k, k < s.size → k % 2 = 1 → b.extract (k / 2) (k / 2 + 1) = s.extract k (k + 1)) ∧
    (∀ w, Calls Try.prog 16 #[.string s, .agg (cutC 0 0 2 false false)] w fun e w' => e = .returned (.string a) ∧ Below w.heap.size w w') ∧ (∀ w, Calls Try.prog 16 #[.string s, .agg (cutC 1 0 2 true false)] w fun e w' => e = .returned (.string b) ∧ Below w.heap.size w w') := by
  refine ⟨⟨(selL s ((0 : Nat) : Int) 2 ((s.size + 1) / 2)).toArray⟩, ⟨(selL s ((min 1 s.size : Nat) : Int) 2 (s.size / 2)).toArray⟩, ?_, ?_, fun k hk h2 => ?_, fun k hk h2 => ?_, fun w => implCut_val s 0 0 2 false false hs okC_even _ _ rfl ?_ w, fun w => implCut_val s 1 0 2 true false hs okC_odd _ _ (odd_from s.size) ?_ w⟩
  · show (selL s _ 2 _).toArray.size = _
    rw [List.size_toArray, selL_len]
  · show (selL s _ 2 _).toArray.size = _
    rw [List.size_toArray, selL_len]
  · rw [sel_two s 0 _ (k / 2) (by omega) (by omega), show 0 + k / 2 * 2 = k by omega]
  · rw [show min 1 s.size = 1 by omega, sel_two s 1 _ (k / 2) (by omega) (by omega), show 1 + k / 2 * 2 = k by omega]
  · have h := cnt_two 0 s.size (Nat.zero_le _)
    rw [Nat.sub_zero] at h
    exact h
  · have h := cnt_two (min 1 s.size) s.size (by omega)
    rw [show s.size - min 1 s.size + 1 = s.size - min 1 s.size + 1 from rfl] at h
    have e : (s.size - min 1 s.size + 1) / 2 = s.size / 2 := by omega
    rw [e] at h
    exact h
set_option maxHeartbeats 4000000 in
theorem fnTextOdd_walk (a : Option Addr) (n cap : Nat) (zs : List Int) (w : World) (h : (a = none ∧ n = 0 ∧ cap = 0 ∧ zs = []) ∨ ∃ x, a = some x ∧ n ≤ cap ∧ cap ≤ maxLen ∧ zs.length = cap ∧ (∀ i, i < zs.length → w.cell? (x.add i) = some (.int .u8 (zs.getD i 0))) ∧ ∀ n ∈ zs, (Lit.int .u8 n).wf = true) :
    Calls Try.prog 7 #[.slice a n cap] w fun e w' => e = .returned (.bool true) ∧ Below w.heap.size w w' := by
  have HC := Lib.hid (dTextQuote w a n cap (cr_of h))
  have hcap : n ≤ 9223372036854775807 := by
    rcases h with ⟨_, rfl, _⟩ | ⟨x, _, h1, h2, _⟩
    · omega
    · unfold maxLen at h2; omega
  clear h
  by_cases h0 : n ≤ 1048576
  · go_enter Try.func7, Try.ntmps7
    go_wp2_with fail
    refine HC.out.mono ?_
    rintro e w2 ⟨s, rfl, hs, hb2⟩
    have HBw2 := Lib.hid hb2
    clear hb2
    have hs2 : s.size ≤ 1048576 := by omega
    obtain ⟨a1, b1, ha, hb, hka, hkb, h3, h4⟩ := odd_cut s hs
    have HQ1 := Lib.hid (fun w => implQuote_any s w hs2)
    have HQ2 := Lib.hid (fun w => specQuote_any s w hs2)
    have H3 := Lib.hid h3
    have H4 := Lib.hid h4
    have HKA := Lib.hid hka
    have HKB := Lib.hid hkb
    generalize quV s = q at HQ1 HQ2
    unfold cutC at H3 H4
    have HA := Lib.hid ha
    have HB := Lib.hid hb
    have la : a1.size ≤ 400 := by omega
    have lb : b1.size ≤ 400 := by omega
    clear h3 h4 hka hkb ha hb
    go_wp2_with fail
    refine (HQ1.out _).mono ?_
    rintro e w3 ⟨rfl, hb⟩
    have HBw3 := Lib.hid (HBw2.out.trans (hb.mono HBw2.out.size))
    clear hb
    go_wp2_with fail
    refine (HQ2.out _).mono ?_
    rintro e w4 ⟨rfl, hb⟩
    have HBw4 := Lib.hid (HBw3.out.trans (hb.mono HBw3.out.size))
    clear hb
    go_wp2_with fail
    refine (H3.out _).mono ?_
    rintro e w5 ⟨rfl, hb⟩
    have HBw5 := Lib.hid (HBw4.out.trans (hb.mono HBw4.out.size))
    clear hb
    go_wp2_with fail
    refine (H4.out _).mono ?_
    rintro e w6 ⟨rfl, hb⟩
    have HBw6 := Lib.hid (HBw5.out.trans (hb.mono HBw5.out.size))
    clear hb
    go_wp2_with fail
    go_loopw [7] (fun i wr => ∃ k m : Nat, k ≤ s.size ∧ i = .int .i64 k ∧ wr = w6.drewN m) (fun i _ => s.size - (intOf i).toNat)
    case atStart => exact ⟨0, 0, by omega, rfl, rfl⟩
    case round =>
      obtain ⟨k, m, hk, rfl, rfl⟩ := hrel
      by_cases hlt : k < s.size
      · have k1 : (k : Int) < (s.size : Int) := by omega
        have k2 : (k : Int) + 1 ≤ (s.size : Int) := by omega
        have k0 : 0 ≤ (k : Int) := by omega
        have e1 : IntKind.i64.wrap ((k : Int).tdiv 2) = ((k / 2 : Nat) : Int) := by rw [Int.tdiv_eq_ediv_of_nonneg (by omega), IntWalk.i64_in _ (by omega)]; omega
        have e2 : IntKind.i64.wrap (((k / 2 : Nat) : Int) + 1) = ((k / 2 + 1 : Nat) : Int) := by rw [IntWalk.i64_in _ (by omega)]; omega
        have e3 : IntKind.i64.wrap ((k : Int) + 1) = ((k + 1 : Nat) : Int) := by rw [IntWalk.i64_in _ (by omega)]; omega
        have em : (k : Int).tmod 2 = ((k % 2 : Nat) : Int) := by rw [Int.tmod_eq_emod_of_nonneg (by omega)]; omega
        have j1 : ((k / 2 : Nat) : Int) ≤ ((k / 2 + 1 : Nat) : Int) := by omega
        have j0 : 0 ≤ ((k / 2 : Nat) : Int) := by omega
        have j3 : (k : Int) ≤ ((k + 1 : Nat) : Int) := by omega
        have j4 : ((k + 1 : Nat) : Int) ≤ (s.size : Int) := by omega
        by_cases hp : k % 2 = 0
        · have hx := HKA.out k hlt hp
          have hne : ((a1.extract (k / 2) (k / 2 + 1)).toList == (s.extract k (k + 1)).toList) = true := by rw [hx]; simp
          have j2 : ((k / 2 + 1 : Nat) : Int) ≤ (a1.size : Int) := by have := HA.out; omega
          rw [hp] at em
          clear hx hp
          go_wp2_with fail
          go_quiet (fail)
          clear e1 e2 e3 em
          go_wp2_with fail
          go_roundw
          case rel => exact ⟨k + 1, _, by omega, by go_num, rfl⟩
          case measure => simp [intOf]; try omega
        · have hp1 : k % 2 = 1 := by omega
          have hx := HKB.out k hlt hp1
          have hne : ((b1.extract (k / 2) (k / 2 + 1)).toList == (s.extract k (k + 1)).toList) = true := by rw [hx]; simp
          have j2 : ((k / 2 + 1 : Nat) : Int) ≤ (b1.size : Int) := by have := HB.out; omega
          rw [hp1] at em
          clear hx hp hp1
          go_wp2_with fail
          go_quiet (fail)
          clear e1 e2 e3 em
          go_wp2_with fail
          go_roundw
          case rel => exact ⟨k + 1, _, by omega, by go_num, rfl⟩
          case measure => simp [intOf]; try omega
      · obtain rfl : k = s.size := by omega
        have hl : (((a1.size : Int) + (b1.size : Int)) == (s.size : Int)) = true := by have := HA.out; have := HB.out; rw [beq_iff_eq]; omega
        clear hlt
        go_wp2_with fail
        go_ret
        exact ⟨rfl, HBw6.out.trans ⟨rfl, rfl, rfl, Nat.le_refl _, fun _ _ => rfl⟩⟩
  · go_enter Try.func7, Try.ntmps7
    go_wp2_with fail
    go_ret
    exact ⟨rfl, Below.refl _ _⟩
end Go.Proofs.Ytdinjoenpiminaa
