/- The program's TextCut, the model's, the law. -/
import Derived.Test.YtjjfgnkjgfebkaaTCut
namespace Go.Proofs.Ytjjfgnkjgfebkaa
open Go.RowKit
theorem RdS.oneAt (w : World) (s : ByteArray) (g : Nat) (hg : g = w.heap.size) : RdS (w.alloc (.cells #[.string s] 9)) (.slice (some ⟨g, 0, none⟩) 1 1) [s] := by subst hg; exact RdS.one w s
theorem are1 (w : World) (x : Obj) (s : ByteArray) : Calls Try.prog 37 #[.slice (some ⟨w.heap.size + 1, 0, none⟩) 1 1] ((w.alloc x).alloc (.cells #[.string s] 9)) fun e w' => e = .returned (.bool (okT s)) ∧ (w.alloc x).alloc (.cells #[.string s] 9) = w' := by
  have h := areTexts_any [s] _ _ (RdS.oneAt (w.alloc x) s (w.heap.size + 1) (by simp)) (by simp)
  rw [all_one] at h
  exact h
def z8 (n : Nat) : List Value := List.replicate n (.int .u8 0)
/-- 'make([]byte, n)'. -/
theorem mkB {ops : Array Oper} {rest : List Oper} {o : Oper} {a : Act} {w : World} {Q : Exit → Act → World → Prop} (hg : o.guard = none) (l c : Operand) (hop : o.op = Op.makeSlice 22 l c) (n : Nat) (L C : Int) (hl : a.eval l = .int .i64 L) (hc : a.eval c = .int .i64 C) (hL : L = (n : Int)) (hC : C = (n : Int)) (hn : n ≤ 1000)
    (hK : ∀ w', w'.ownsRow w.heap.size 5 1 (.slice (some ⟨w.heap.size, 0, none⟩) n n) n (z8 n) → Below w.heap.size w w' → wpList Try.prog ops Q rest (a.put o.dst (.slice (some ⟨w.heap.size, 0, none⟩) n n)) w') : wpList Try.prog ops Q (o :: rest) a w := by
  obtain ⟨i, hi1, hi2, hi3, hi4⟩ := info_of (P := Try.prog) (e := 5) (z := .int .u8 0) (s := 1) (b := 1) (by kernel_rfl)
  refine wpList_make_full w hg l c 22 hop w.heap.size 5 i (.int .u8 0) 1 Try.underlying22 hi1 hi2 hi3 .i64 .i64 L C n hl hc hL hC (by rw [hi4]; omega) (by unfold maxLen; omega) (Nat.le_refl _) ?_
  intro w' ho hgr
  refine hK w' ?_ ((Below.refl _ _).grown hgr (Nat.le_refl _) (fun k hk => by cases hk))
  have e : (madeCells (Value.int .u8 0).cells (n * 1)).toList = z8 n := by
    rw [show (Value.int .u8 0).cells = #[Value.int .u8 0] from rfl, toList_madeCells_one, Nat.mul_one]; rfl
  rw [e] at ho
  exact ho
/-- The state: k bytes stand, behind them zeros. -/
def TbI (w wr : World) (s : ByteArray) (A st : Int) (M k g : Nat) : Prop := Below w.heap.size w wr ∧ w.heap.size ≤ g ∧ wr.ownsRow g 5 1 (.slice (some ⟨g, 0, none⟩) M M) M (bv (selL s A st k) ++ z8 (M - k))
theorem tb_cell {w wr : World} {s : ByteArray} {A st : Int} {M k g : Nat} (h : TbI w wr s A st M k g) (hk : k < M) : wr.cell? ⟨g, k, none⟩ = some (.int .u8 0) ∧ wr.frozen? ⟨g, k, none⟩ = false := by
  refine ⟨?_, World.ownsRow.frozenAt h.2.2 k⟩
  rw [World.ownsRow.cellAt h.2.2 k (by omega), List.getElem?_append_right (by rw [bv_len, selL_len]; exact Nat.le_refl _), bv_len, selL_len, Nat.sub_self]
  unfold z8
  rw [List.getElem?_replicate, if_pos (by omega)]
theorem tb_next {w wr : World} {s : ByteArray} {A st : Int} {M k g p : Nat} (h : TbI w wr s A st M k g) (hk : k < M) (hp : p < s.size) (he : A + (k : Int) * st = (p : Int)) : TbI w (wr.setCell ⟨g, k, none⟩ (.int .u8 (s[p].toNat : Int))) s A st M (k + 1) g := by
  refine ⟨h.1.setCell h.2.1 _, h.2.1, ?_⟩
  have h1 := (World.ownsRow.stored h.2.2 k (.int .u8 (s[p].toNat : Int))).1
  have e : (bv (selL s A st k) ++ z8 (M - k)).set k (.int .u8 (s[p].toNat : Int)) = bv (selL s A st (k + 1)) ++ z8 (M - (k + 1)) := by
    rw [List.set_append_right _ _ (by rw [bv_len, selL_len]; exact Nat.le_refl _), bv_len, selL_len, Nat.sub_self, selL_succ hp he]
    have e2 : z8 (M - k) = .int .u8 0 :: z8 (M - (k + 1)) := by
      unfold z8
      rw [show M - k = M - (k + 1) + 1 by omega, List.replicate_succ]
    rw [e2, List.set_cons_zero, ← bv_snoc (selL s A st k) s[p] _ rfl, List.append_assoc]; rfl
  rw [e] at h1
  exact h1
theorem tb_own {w wr : World} {s : ByteArray} {A st : Int} {M g : Nat} (h : TbI w wr s A st M M g) : Own wr g 5 (.slice (some ⟨g, 0, none⟩) M M) ((selL s A st M).map fun c => Value.int .u8 (c.toNat : Int)) := by
  have h1 := h.2.2
  rw [Nat.sub_self, show z8 0 = [] from rfl, List.append_nil] at h1
  unfold Own
  rw [List.length_map, selL_len]
  exact h1
set_option maxHeartbeats 2000000 in
theorem implCut_walk (s : ByteArray) (f t st : Int) (hf ht : Bool) (A : Int) (M : Nat) (w : World) (hok : okT s = true) (hA : -1 ≤ A ∧ A ≤ 400) (hM : M ≤ s.size)
    (hin : ∀ k, k < M → ∃ p, p < s.size ∧ A + (k : Int) * st = (p : Int)) (hO : ∀ w, Calls Try.prog 15 #[.int .i64 s.size, .agg (cutC f t st hf ht)] w fun e w' => e = .returned (.tuple #[.int .i64 A, .int .i64 M]) ∧ Below w.heap.size w w') :
    Calls Try.prog 13 #[.string s, .agg (cutC f t st hf ht)] w fun e w' => e = .returned (.string ⟨(selL s A st M).toArray⟩) ∧ Below w.heap.size w w' := by
  have hs : s.size ≤ 400 := by unfold okT at hok; simpa using hok
  have HO := Lib.hid hO
  have HIn := Lib.hid hin
  have HV := Lib.hid (are1 w (Obj.cells #[.int .i64 f, .int .i64 t, .int .i64 st, .bool hf, .bool ht] 24) s)
  rw [hok] at HV
  clear hO hin hok
  unfold cutC at *
  have HX := Lib.hid (show Blk ((w.alloc (Obj.cells #[.int .i64 f, .int .i64 t, .int .i64 st, .bool hf, .bool ht] 24)).alloc (Obj.cells #[.string s] 9)) w.heap.size 24 #[.int .i64 f, .int .i64 t, .int .i64 st, .bool hf, .bool ht] from (Blk.new _ _ _ rfl).alloc _)
  have HB := Lib.hid (show Below w.heap.size w ((w.alloc (Obj.cells #[.int .i64 f, .int .i64 t, .int .i64 st, .bool hf, .bool ht] 24)).alloc (Obj.cells #[.string s] 9)) from ((Below.refl _ _).alloc (Nat.le_refl _) _).alloc (by simp) _)
  go_enter Try.func13, Try.ntmps13
  go_wp2_with (first | (go_at_call 37; refine HV.out.mono ?_; rintro e w1 ⟨rfl, hw⟩; have HX1 := Lib.hid (show Blk w1 w.heap.size 24 #[.int .i64 f, .int .i64 t, .int .i64 st, .bool hf, .bool ht] from hw ▸ HX.out); have HB1 := Lib.hid (show Below w.heap.size w w1 from hw ▸ HB.out); have c0 := HX1.out.cell 0; have c1 := HX1.out.cell 1; have c2 := HX1.out.cell 2; have c3 := HX1.out.cell 3; have c4 := HX1.out.cell 4; clear hw) | (go_at_call 15; refine (HO.out _).mono ?_; rintro e w2 ⟨rfl, hb2⟩; have HX2 := Lib.hid (HX1.out.below hb2 HX1.out.lt); have HB2 := Lib.hid (HB1.out.trans (hb2.mono HB1.out.size)); clear hb2) | (refine ext rfl (.tmp 13) 0 [.int .i64 A, .int .i64 M] (.int .i64 A) rfl rfl rfl ?_) | (refine ext rfl (.tmp 13) 1 [.int .i64 A, .int .i64 M] (.int .i64 M) rfl rfl rfl ?_) | (refine mkB rfl (.tmp 20) (.tmp 20) rfl M _ _ rfl rfl rfl rfl (by omega) ?_; intro w3 ho hb3; have HX3 := Lib.hid (HX2.out.below hb3 HX2.out.lt); have H0 := Lib.hid (show TbI w w3 s A st M 0 w2.heap.size from ⟨HB2.out.trans (hb3.mono HB2.out.size), HB2.out.size, ho⟩); clear ho hb3))
  have hlt2 := HX2.out.lt
  go_loopw [24] (fun i wr => ∃ k : Nat, k ≤ M ∧ i = .int .i64 k ∧ Hid (TbI w wr s A st M k w2.heap.size ∧ Blk wr w.heap.size 24 #[.int .i64 f, .int .i64 t, .int .i64 st, .bool hf, .bool ht])) (fun i _ => M - (intOf i).toNat)
  case atStart => exact ⟨0, by omega, rfl, Lib.hid ⟨H0.out, HX3.out⟩⟩
  case round =>
    obtain ⟨k, hk, rfl, HI⟩ := hrel
    by_cases hlt : k < M
    · obtain ⟨p, hp, he⟩ := HIn.out k hlt
      have hP1 : (k : Int) * st ≤ 1000000 := by omega
      have hP0 : -1000000 ≤ (k : Int) * st := by omega
      have d2 := HI.out.2.cell 2
      have c5 := (tb_cell HI.out.1 hlt).1
      have f5 := (tb_cell HI.out.1 hlt).2
      have HT := Lib.hid (show TbI w (wr.setCell ⟨w2.heap.size, k, none⟩ (.int .u8 (s[p].toNat : Int))) s A st M (k + 1) w2.heap.size ∧ Blk (wr.setCell ⟨w2.heap.size, k, none⟩ (.int .u8 (s[p].toNat : Int))) w.heap.size 24 #[.int .i64 f, .int .i64 t, .int .i64 st, .bool hf, .bool ht] from ⟨tb_next HI.out.1 hlt hp he, HI.out.2.setOff (by omega)⟩)
      go_wp2
      go_roundw
      case rel => exact ⟨k + 1, by omega, by go_num, HT⟩
      case measure => simp [intOf]; try omega
    · obtain rfl : k = M := by omega
      clear hlt
      go_wp2_with (first | (refine (puts_text 22 9 5 (.tmp 39) rfl Try.underlying22 Try.underlying5 Try.underlying9 w2.heap.size _ (selL s A st k) rfl (tb_own HI.out.1)).gives.plain rfl ?_))
      go_ret
      exact ⟨rfl, HI.out.1.1⟩
theorem implCut_long (s : ByteArray) (f t st : Int) (hf ht : Bool) (w : World) (hok : okT s = false) :
    Calls Try.prog 13 #[.string s, .agg (cutC f t st hf ht)] w fun e w' => e = .returned (.string ⟨#[]⟩) ∧ Below w.heap.size w w' := by
  have HV := Lib.hid (are1 w (Obj.cells #[.int .i64 f, .int .i64 t, .int .i64 st, .bool hf, .bool ht] 24) s)
  rw [hok] at HV
  clear hok
  unfold cutC at *
  have HB := Lib.hid (show Below w.heap.size w ((w.alloc (Obj.cells #[.int .i64 f, .int .i64 t, .int .i64 st, .bool hf, .bool ht] 24)).alloc (Obj.cells #[.string s] 9)) from ((Below.refl _ _).alloc (Nat.le_refl _) _).alloc (by simp) _)
  go_enter Try.func13, Try.ntmps13
  go_wp2_with (first | (go_at_call 37; refine HV.out.mono ?_; rintro e w1 ⟨rfl, hw⟩; have HB1 := Lib.hid (show Below w.heap.size w w1 from hw ▸ HB.out); clear hw))
  go_ret
  exact ⟨rfl, HB1.out⟩
theorem specCut_long (s : ByteArray) (f t st : Int) (hf ht : Bool) (w : World) (hs : s.size ≤ 1048576) (hok : okT s = false) :
    Calls Try.prog 14 #[.string s, .agg (cutC f t st hf ht)] w fun e w' => e = .returned (.string ⟨#[]⟩) ∧ Below w.heap.size w w' := by
  have HV := Lib.hid (fun w => validText_any s w hs)
  rw [hok] at HV
  clear hok
  unfold cutC at *
  go_enter Try.func14, Try.ntmps14
  go_wp2_with (first | (go_at_call 38; refine (HV.out _).mono ?_; rintro e w' ⟨rfl, rfl⟩))
  go_ret
  exact ⟨rfl, (Below.refl _ _).alloc (Nat.le_refl _) _⟩
theorem specCut_bad (s : ByteArray) (f t st : Int) (hf ht : Bool) (w : World) (hs : s.size ≤ 1048576) (hok : okT s = true) (hc : okC f t st hf ht = false) :
    Calls Try.prog 14 #[.string s, .agg (cutC f t st hf ht)] w fun e w' => e = .returned (.string ⟨#[]⟩) ∧ Below w.heap.size w w' := by
  have HV := Lib.hid (fun w => validText_any s w hs)
  rw [hok] at HV
  have HK := Lib.hid (fun w => validCut_any f t st hf ht w)
  rw [hc] at HK
  clear hok hc
  unfold cutC at *
  have HB := Lib.hid (show Below w.heap.size w (w.alloc (Obj.cells #[.int .i64 f, .int .i64 t, .int .i64 st, .bool hf, .bool ht] 24)) from (Below.refl _ _).alloc (Nat.le_refl _) _)
  go_enter Try.func14, Try.ntmps14
  go_wp2_with (first | (go_at_call 38; refine (HV.out _).mono ?_; rintro e w' ⟨rfl, rfl⟩) | (go_at_call 39; refine (HK.out _).mono ?_; rintro e w2 ⟨rfl, hb2⟩; have HB2 := Lib.hid (HB.out.trans (hb2.mono HB.out.size)); clear hb2))
  go_ret
  exact ⟨rfl, HB2.out⟩
set_option maxHeartbeats 1000000 in
theorem specCut_ok (s : ByteArray) (f t st : Int) (hf ht : Bool) (v : Value) (w : World) (hs : s.size ≤ 1048576) (hok : okT s = true) (hc : okC f t st hf ht = true)
    (hT : ∀ w, Calls Try.prog 40 #[.string s, .agg (cutC f t st hf ht)] w fun e w' => e = .returned v ∧ Below w.heap.size w w') :
    Calls Try.prog 14 #[.string s, .agg (cutC f t st hf ht)] w fun e w' => e = .returned v ∧ Below w.heap.size w w' := by
  have HV := Lib.hid (fun w => validText_any s w hs)
  rw [hok] at HV
  have HK := Lib.hid (fun w => validCut_any f t st hf ht w)
  rw [hc] at HK
  have HT := Lib.hid hT
  clear hok hc hT
  unfold cutC at *
  have HX := Lib.hid (show Blk (w.alloc (Obj.cells #[.int .i64 f, .int .i64 t, .int .i64 st, .bool hf, .bool ht] 24)) w.heap.size 24 #[.int .i64 f, .int .i64 t, .int .i64 st, .bool hf, .bool ht] from Blk.new _ _ _ rfl)
  have HB := Lib.hid (show Below w.heap.size w (w.alloc (Obj.cells #[.int .i64 f, .int .i64 t, .int .i64 st, .bool hf, .bool ht] 24)) from (Below.refl _ _).alloc (Nat.le_refl _) _)
  go_enter Try.func14, Try.ntmps14
  go_wp2_with (first | (go_at_call 38; refine (HV.out _).mono ?_; rintro e w' ⟨rfl, rfl⟩) | (go_at_call 39; refine (HK.out _).mono ?_; rintro e w2 ⟨rfl, hb2⟩; have HX2 := Lib.hid (HX.out.below hb2 HX.out.lt); have HB2 := Lib.hid (HB.out.trans (hb2.mono HB.out.size)); have c0 := HX2.out.cell 0; have c1 := HX2.out.cell 1; have c2 := HX2.out.cell 2; have c3 := HX2.out.cell 3; have c4 := HX2.out.cell 4; clear hb2) | (go_at_call 40; refine (HT.out _).mono ?_; rintro e w3 ⟨rfl, hb3⟩; have HB3 := Lib.hid (HB2.out.trans (hb3.mono HB2.out.size)); clear hb3))
  go_ret
  exact ⟨rfl, HB3.out⟩
theorem cut_all (s : ByteArray) (f t st : Int) (hf ht : Bool) (hs : s.size ≤ 1048576) : ∃ l, (∀ w, Calls Try.prog 14 #[.string s, .agg (cutC f t st hf ht)] w fun e w' => e = .returned (.string ⟨l⟩) ∧ Below w.heap.size w w') ∧ (∀ w, Calls Try.prog 13 #[.string s, .agg (cutC f t st hf ht)] w fun e w' => e = .returned (.string ⟨l⟩) ∧ Below w.heap.size w w') := by
  cases hok : okT s with
  | false => exact ⟨_, fun w => specCut_long s f t st hf ht w hs hok, fun w => implCut_long s f t st hf ht w hok⟩
  | true =>
    have h4 : s.size ≤ 400 := by unfold okT at hok; simpa using hok
    cases hc : okC f t st hf ht with
    | false =>
      refine ⟨_, fun w => specCut_bad s f t st hf ht w hs hok hc, fun w => ?_⟩
      exact implCut_walk s f t st hf ht 0 0 w hok (by omega) (by omega) (fun k hk => by omega) (fun w => implRange_no _ f t st hf ht w hc (by omega) (by omega))
    | true =>
      obtain ⟨h1, h2, h3, h0⟩ := okC_parts hc
      obtain ⟨i1, i2, i3⟩ := sel_in (n := (s.size : Int)) (f := f) (t := t) (hf := hf) (ht := ht) (by omega) h0
      have hA := cFrom_in (n := (s.size : Int)) (f := f) (s := st) (hf := hf) (by omega)
      obtain ⟨M, hM⟩ : ∃ M : Nat, cntZ (cFrom (s.size : Int) f st hf) (cTo (s.size : Int) t st ht) st = (M : Int) := ⟨_, (Int.toNat_of_nonneg i1).symm⟩
      have hO1 := fun w => specCutOf_any (s.size : Int) f t st hf ht w hc (by omega) (by omega)
      have hO2 := fun w => implRange_ok (s.size : Int) f t st hf ht w hc (by omega) (by omega)
      unfold rngV at hO1 hO2
      rw [hM] at hO1 hO2 i2 i3
      generalize cFrom (s.size : Int) f st hf = A at *
      have hin : ∀ k, k < M → ∃ p, p < s.size ∧ A + (k : Int) * st = (p : Int) := fun k hk => by
        obtain ⟨g1, g2⟩ := i3 (k : Int) (by omega) (by omega)
        exact ⟨(A + (k : Int) * st).toNat, by omega, by omega⟩
      exact ⟨_, fun w => specCut_ok s f t st hf ht _ w hs hok hc (fun w => textCut_walk s f t st hf ht A M w h4 h3 (by omega) (by omega) hin hO1), fun w => implCut_walk s f t st hf ht A M w hok (by omega) (by omega) hin hO2⟩
end Go.Proofs.Ytjjfgnkjgfebkaa
