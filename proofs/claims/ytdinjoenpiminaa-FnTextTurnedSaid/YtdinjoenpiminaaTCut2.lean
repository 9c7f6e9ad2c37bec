/- The program's TextCut, the model's, the law. -/
import Derived.Test.YtdinjoenpiminaaPl
namespace Go.Proofs.Ytdinjoenpiminaa
open Go.RowKit
theorem RdS.oneAt (w : World) (s : ByteArray) (g : Nat) (hg : g = w.heap.size) : RdS (w.alloc (.cells #[.string s] 9)) (.slice (some ⟨g, 0, none⟩) 1 1) [s] := by subst hg; exact RdS.one w s
theorem are1 (w : World) (x : Obj) (s : ByteArray) : Calls Try.prog 40 #[.slice (some ⟨w.heap.size + 1, 0, none⟩) 1 1] ((w.alloc x).alloc (.cells #[.string s] 9)) fun e w' => e = .returned (.bool (okT s)) ∧ (w.alloc x).alloc (.cells #[.string s] 9) = w' := by
  have h := areTexts_any [s] _ _ (RdS.oneAt (w.alloc x) s (w.heap.size + 1) (by simp)) (by simp)
  rw [all_one] at h
  exact h
def TdI (w2 wr : World) (s : ByteArray) (A st : Int) (k : Nat) (v : Value) : Prop := Below w2.heap.size w2 wr ∧ Own wr w2.heap.size 5 v (bv (selL s A st k))
theorem td_next {w2 wr w' : World} {s : ByteArray} {A st : Int} {k p : Nat} {v v' : Value} (h : TdI w2 wr s A st k v) (hp : p < s.size) (he : A + (k : Int) * st = (p : Int)) (ho : Own w' w2.heap.size 5 v' (bv (selL s A st k) ++ [.int .u8 (s[p].toNat : Int)])) (hb : Below w2.heap.size wr w') : TdI w2 w' s A st (k + 1) v' := by
  refine ⟨h.1.trans hb, ?_⟩
  rw [bv_snoc _ _ _ rfl, ← selL_succ hp he] at ho
  exact ho
set_option maxHeartbeats 2000000 in
theorem implCut_walk (s : ByteArray) (f t st : Int) (hf ht : Bool) (A : Int) (M : Nat) (w : World) (hok : okT s = true) (hM : M ≤ s.size)
    (hin : ∀ k, k < M → ∃ p, p < s.size ∧ A + (k : Int) * st = (p : Int)) (hP : ∀ w, Calls Try.prog 41 #[.int .i64 s.size, .agg (cutC f t st hf ht)] w (PlP A st M w)) :
    Calls Try.prog 16 #[.string s, .agg (cutC f t st hf ht)] w fun e w' => e = .returned (.string ⟨(selL s A st M).toArray⟩) ∧ Below w.heap.size w w' := by
  have hs : s.size ≤ 400 := by unfold okT at hok; simpa using hok
  have HP := Lib.hid hP
  have HIn := Lib.hid hin
  have HV := Lib.hid (are1 w (Obj.cells #[.int .i64 f, .int .i64 t, .int .i64 st, .bool hf, .bool ht] 25) s)
  rw [hok] at HV
  clear hP hin hok
  unfold cutC at *
  have HX := Lib.hid (show CutAt ((w.alloc (Obj.cells #[.int .i64 f, .int .i64 t, .int .i64 st, .bool hf, .bool ht] 25)).alloc (Obj.cells #[.string s] 9)) w.heap.size f t st hf ht from (Blk.new _ _ _ rfl).alloc _)
  have HB := Lib.hid (show Below w.heap.size w ((w.alloc (Obj.cells #[.int .i64 f, .int .i64 t, .int .i64 st, .bool hf, .bool ht] 25)).alloc (Obj.cells #[.string s] 9)) from ((Below.refl _ _).alloc (Nat.le_refl _) _).alloc (by simp) _)
  go_enter Try.func16, Try.ntmps16
  go_wp2_with fail
  refine HV.out.mono ?_
  rintro e w1 ⟨rfl, hw⟩
  have HX1 := Lib.hid (show CutAt w1 w.heap.size f t st hf ht from hw ▸ HX.out)
  have HB1 := Lib.hid (show Below w.heap.size w w1 from hw ▸ HB.out)
  obtain ⟨c0, c1, c2, c3, c4⟩ := HX1.out.cells
  clear hw
  go_wp2_with fail
  refine (HP.out _).mono ?_
  rintro e w2 ⟨gp, rfl, ho2, hb2⟩
  have HO2 := Lib.hid ho2
  have HB2 := Lib.hid (HB1.out.trans (hb2.mono HB1.out.size))
  clear ho2 hb2 c0 c1 c2 c3 c4
  go_wp2_with fail
  go_loopw [5, 17] (fun v i wr => ∃ k : Nat, k ≤ M ∧ i = .int .i64 k ∧ Hid (TdI w2 wr s A st k v)) (fun _ i _ => M - (intOf i).toNat)
  case atStart => exact ⟨0, by omega, rfl, Lib.hid ⟨Below.refl _ _, Own.nil _ _ _⟩⟩
  case round =>
    obtain ⟨k, hk, rfl, HI⟩ := hrel
    by_cases hlt : k < M
    · obtain ⟨p, hp, he⟩ := HIn.out k hlt
      have HE := Lib.hid he
      have c2 : wr.cell? ⟨gp, k, none⟩ = some (.int .i64 (p : Int)) := by
        rw [← he]
        exact ((HO2.out.below HI.out.1).cellAt (plL_get hlt)).1
      have HL := Lib.hid (show (bv (selL s A st k)).length + 1 ≤ 1000 by rw [bv_len, selL_len]; omega)
      have HZ := Lib.hid (show w2.heap.size ≤ wr.heap.size from HI.out.1.size)
      clear he
      go_wp2_with (first | (refine app1 rfl (.tmp 21) (.tmp 25) 28 5 (.int .u8 0) 1 rfl Try.underlying28 (by kernel_rfl) rfl (by decide) wr wr _ rfl w2.heap.size _ _ rfl rfl HI.out.2 rfl ?_ HZ.out (Below.refl _ _) ?_; (have := HL.out; omega); intro v3 w3 ho hb3 _; have HT := Lib.hid (td_next HI.out hp HE.out ho hb3); clear ho hb3))
      go_roundw
      case rel => exact ⟨k + 1, by omega, by go_num, HT⟩
      case measure => simp [intOf]; try omega
    · obtain rfl : k = M := by omega
      clear hlt
      go_wp2_with (first | (refine (puts_text 28 9 5 (.tmp 28) rfl Try.underlying28 Try.underlying5 Try.underlying9 w2.heap.size _ (selL s A st k) rfl HI.out.2).gives.plain rfl ?_))
      go_ret
      exact ⟨rfl, HB2.out.trans (HI.out.1.mono HB2.out.size)⟩
theorem implCut_long (s : ByteArray) (f t st : Int) (hf ht : Bool) (w : World) (hok : okT s = false) :
    Calls Try.prog 16 #[.string s, .agg (cutC f t st hf ht)] w fun e w' => e = .returned (.string ⟨#[]⟩) ∧ Below w.heap.size w w' := by
  have HV := Lib.hid (are1 w (Obj.cells #[.int .i64 f, .int .i64 t, .int .i64 st, .bool hf, .bool ht] 25) s)
  rw [hok] at HV
  clear hok
  unfold cutC at *
  have HB := Lib.hid (show Below w.heap.size w ((w.alloc (Obj.cells #[.int .i64 f, .int .i64 t, .int .i64 st, .bool hf, .bool ht] 25)).alloc (Obj.cells #[.string s] 9)) from ((Below.refl _ _).alloc (Nat.le_refl _) _).alloc (by simp) _)
  go_enter Try.func16, Try.ntmps16
  go_wp2_with (first | (go_at_call 40; refine HV.out.mono ?_; rintro e w1 ⟨rfl, hw⟩; have HB1 := Lib.hid (show Below w.heap.size w w1 from hw ▸ HB.out); clear hw))
  go_ret
  exact ⟨rfl, HB1.out⟩
theorem specCut_long (s : ByteArray) (f t st : Int) (hf ht : Bool) (w : World) (hs : s.size ≤ 1048576) (hok : okT s = false) :
    Calls Try.prog 14 #[.string s, .agg (cutC f t st hf ht)] w fun e w' => e = .returned (.string ⟨#[]⟩) ∧ Below w.heap.size w w' := by
  have HV := Lib.hid (fun w => validText_any s w hs)
  rw [hok] at HV
  clear hok
  unfold cutC at *
  go_enter Try.func14, Try.ntmps14
  go_wp2_with (first | (go_at_call 37; refine (HV.out _).mono ?_; rintro e w' ⟨rfl, rfl⟩))
  go_ret
  exact ⟨rfl, (Below.refl _ _).alloc (Nat.le_refl _) _⟩
theorem specCut_bad (s : ByteArray) (f t st : Int) (hf ht : Bool) (w : World) (hs : s.size ≤ 1048576) (hok : okT s = true) (hc : okC f t st hf ht = false) :
    Calls Try.prog 14 #[.string s, .agg (cutC f t st hf ht)] w fun e w' => e = .returned (.string ⟨#[]⟩) ∧ Below w.heap.size w w' := by
  have HV := Lib.hid (fun w => validText_any s w hs)
  rw [hok] at HV
  have HK := Lib.hid (fun w => validCut_any f t st hf ht w)
  rw [hc] at HK
  clear hok hc
  unfold cutC at *
  have HB := Lib.hid (show Below w.heap.size w (w.alloc (Obj.cells #[.int .i64 f, .int .i64 t, .int .i64 st, .bool hf, .bool ht] 25)) from (Below.refl _ _).alloc (Nat.le_refl _) _)
  go_enter Try.func14, Try.ntmps14
  go_wp2_with (first | (go_at_call 37; refine (HV.out _).mono ?_; rintro e w' ⟨rfl, rfl⟩) | (go_at_call 38; refine (HK.out _).mono ?_; rintro e w2 ⟨rfl, hb2⟩; have HB2 := Lib.hid (HB.out.trans (hb2.mono HB.out.size)); clear hb2))
  go_ret
  exact ⟨rfl, HB2.out⟩
set_option maxHeartbeats 1000000 in
theorem specCut_ok (s : ByteArray) (f t st : Int) (hf ht : Bool) (v : Value) (w : World) (hs : s.size ≤ 1048576) (hok : okT s = true) (hc : okC f t st hf ht = true)
    (hT : ∀ w, Calls Try.prog 39 #[.string s, .agg (cutC f t st hf ht)] w fun e w' => e = .returned v ∧ Below w.heap.size w w') :
    Calls Try.prog 14 #[.string s, .agg (cutC f t st hf ht)] w fun e w' => e = .returned v ∧ Below w.heap.size w w' := by
  have HV := Lib.hid (fun w => validText_any s w hs)
  rw [hok] at HV
  have HK := Lib.hid (fun w => validCut_any f t st hf ht w)
  rw [hc] at HK
  have HT := Lib.hid hT
  clear hok hc hT
  unfold cutC at *
  have HX := Lib.hid (show Blk (w.alloc (Obj.cells #[.int .i64 f, .int .i64 t, .int .i64 st, .bool hf, .bool ht] 25)) w.heap.size 25 #[.int .i64 f, .int .i64 t, .int .i64 st, .bool hf, .bool ht] from Blk.new _ _ _ rfl)
  have HB := Lib.hid (show Below w.heap.size w (w.alloc (Obj.cells #[.int .i64 f, .int .i64 t, .int .i64 st, .bool hf, .bool ht] 25)) from (Below.refl _ _).alloc (Nat.le_refl _) _)
  go_enter Try.func14, Try.ntmps14
  go_wp2_with (first | (go_at_call 37; refine (HV.out _).mono ?_; rintro e w' ⟨rfl, rfl⟩) | (go_at_call 38; refine (HK.out _).mono ?_; rintro e w2 ⟨rfl, hb2⟩; have HX2 := Lib.hid (HX.out.below hb2 HX.out.lt); have HB2 := Lib.hid (HB.out.trans (hb2.mono HB.out.size)); have c0 := HX2.out.cell 0; have c1 := HX2.out.cell 1; have c2 := HX2.out.cell 2; have c3 := HX2.out.cell 3; have c4 := HX2.out.cell 4; clear hb2) | (go_at_call 39; refine (HT.out _).mono ?_; rintro e w3 ⟨rfl, hb3⟩; have HB3 := Lib.hid (HB2.out.trans (hb3.mono HB2.out.size)); clear hb3))
  go_ret
  exact ⟨rfl, HB3.out⟩
theorem cut_all (s : ByteArray) (f t st : Int) (hf ht : Bool) (hs : s.size ≤ 1048576) : ∃ l, (∀ w, Calls Try.prog 14 #[.string s, .agg (cutC f t st hf ht)] w fun e w' => e = .returned (.string ⟨l⟩) ∧ Below w.heap.size w w') ∧ (∀ w, Calls Try.prog 16 #[.string s, .agg (cutC f t st hf ht)] w fun e w' => e = .returned (.string ⟨l⟩) ∧ Below w.heap.size w w') := by
  cases hok : okT s with
  | false => exact ⟨_, fun w => specCut_long s f t st hf ht w hs hok, fun w => implCut_long s f t st hf ht w hok⟩
  | true =>
    have h4 : s.size ≤ 400 := by unfold okT at hok; simpa using hok
    cases hc : okC f t st hf ht with
    | false =>
      refine ⟨_, fun w => specCut_bad s f t st hf ht w hs hok hc, fun w => ?_⟩
      exact implCut_walk s f t st hf ht 0 0 w hok (by omega) (fun k hk => by omega) (fun w => cutPlaces_any s.size f t st hf ht 0 0 w (by omega) (by omega) (by omega) (fun k hk => by omega) (fun w => implRange_no _ f t st hf ht w hc (by omega) (by omega)))
    | true =>
      obtain ⟨h1, h2, h3, h0⟩ := okC_parts hc
      obtain ⟨i1, i2, i3⟩ := sel_in (n := (s.size : Int)) (f := f) (t := t) (hf := hf) (ht := ht) (by omega) h0
      have hA := cFrom_in (n := (s.size : Int)) (f := f) (s := st) (hf := hf) (by omega)
      obtain ⟨M, hM⟩ : ∃ M : Nat, cntZ (cFrom (s.size : Int) f st hf) (cTo (s.size : Int) t st ht) st = (M : Int) := ⟨_, (Int.toNat_of_nonneg i1).symm⟩
      have hO1 := fun w => specCutOf_any (s.size : Int) f t st hf ht w hc (by omega) (by omega)
      have hO2 := fun w => implRange_ok (s.size : Int) f t st hf ht w hc (by omega) (by omega)
      unfold rngV at hO1 hO2
      rw [hM] at hO1 hO2 i2 i3
      generalize cFrom (s.size : Int) f st hf = A at *
      have hin : ∀ k, k < M → ∃ p, p < s.size ∧ A + (k : Int) * st = (p : Int) := fun k hk => by
        obtain ⟨g1, g2⟩ := i3 (k : Int) (by omega) (by omega)
        exact ⟨(A + (k : Int) * st).toNat, by omega, by omega⟩
      exact ⟨_, fun w => specCut_ok s f t st hf ht _ w hs hok hc (fun w => textCut_walk s f t st hf ht A M w h4 h3 (by omega) (by omega) hin hO1), fun w => implCut_walk s f t st hf ht A M w hok (by omega) hin (fun w => cutPlaces_any s.size f t st hf ht A M w (by omega) (by omega) (by omega) hin hO2)⟩
set_option maxHeartbeats 1000000 in
theorem exactTextCut_walk (a : ByteArray) (f t st : Int) (hf ht : Bool) (w0 : a.size ≤ maxLen) (_wf : (Lit.int .i64 f).wf = true) (_wt : (Lit.int .i64 t).wf = true) (_ws : (Lit.int .i64 st).wf = true) (w : World) :
    Calls Try.prog 3 #[.string a, .agg (cutC f t st hf ht)] w fun e w' => e = .returned (.bool true) ∧ Below w.heap.size w w' := by
  unfold maxLen at w0
  have HB := Lib.hid (show Below w.heap.size w (w.alloc (Obj.cells #[.int .i64 f, .int .i64 t, .int .i64 st, .bool hf, .bool ht] 23)) from (Below.refl _ _).alloc (Nat.le_refl _) _)
  by_cases h0 : a.size ≤ 1048576
  · obtain ⟨l, h1, h2⟩ := cut_all a f t st hf ht h0
    have HT := Lib.hid (fun w => toCut_any f t st hf ht w)
    have H1 := Lib.hid h1
    have H2 := Lib.hid h2
    clear h1 h2
    unfold cutC at *
    have HX := Lib.hid (show Blk (w.alloc (Obj.cells #[.int .i64 f, .int .i64 t, .int .i64 st, .bool hf, .bool ht] 23)) w.heap.size 23 #[.int .i64 f, .int .i64 t, .int .i64 st, .bool hf, .bool ht] from Blk.new _ _ _ rfl)
    go_enter Try.func3, Try.ntmps3
    go_wp2_with fail
    refine (HT.out _).mono ?_
    rintro e w2 ⟨rfl, hb2⟩
    have HX2 := Lib.hid (HX.out.below hb2 HX.out.lt)
    have HB2 := Lib.hid (HB.out.trans (hb2.mono HB.out.size))
    clear hb2
    go_wp2_with fail
    refine (H1.out _).mono ?_
    rintro e w3 ⟨rfl, hb3⟩
    have HX3 := Lib.hid (HX2.out.below hb3 HX2.out.lt)
    have HB3 := Lib.hid (HB2.out.trans (hb3.mono HB2.out.size))
    clear hb3
    have c0 : w3.cell? ⟨w.heap.size, 0, none⟩ = some (.int .i64 f) := HX3.out.cell 0
    have c1 : w3.cell? ⟨w.heap.size, 1, none⟩ = some (.int .i64 t) := HX3.out.cell 1
    have c2 : w3.cell? ⟨w.heap.size, 2, none⟩ = some (.int .i64 st) := HX3.out.cell 2
    have c3 : w3.cell? ⟨w.heap.size, 3, none⟩ = some (.bool hf) := HX3.out.cell 3
    have c4 : w3.cell? ⟨w.heap.size, 4, none⟩ = some (.bool ht) := HX3.out.cell 4
    go_wp2_with fail
    refine (HT.out _).mono ?_
    rintro e w4 ⟨rfl, hb4⟩
    have HB4 := Lib.hid (HB3.out.trans (hb4.mono HB3.out.size))
    clear hb4
    go_wp2_with fail
    refine (H2.out _).mono ?_
    rintro e w5 ⟨rfl, hb5⟩
    have HB5 := Lib.hid (HB4.out.trans (hb5.mono HB4.out.size))
    clear hb5
    go_wp2_with fail
    go_ret
    exact ⟨rfl, HB5.out⟩
  · unfold cutC at *
    go_enter Try.func3, Try.ntmps3
    go_wp2_with fail
    go_ret
    exact ⟨rfl, HB.out⟩
end Go.Proofs.Ytdinjoenpiminaa
