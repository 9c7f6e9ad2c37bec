/- A list and a slice are drawn; the laws on ListCut and ListDropCut. -/
import Derived.Test.YtbcphejblopekaaDrL
namespace Go.Proofs.Ytbcphejblopekaa
open Go.RowKit
theorem below_row {w w1 w2 : World} {g : Nat} (h : Below w.heap.size w w1) (hg : w1.grownBy w2 (some g)) (hge : w.heap.size ≤ g) : Below w.heap.size w w2 :=
  h.grown hg h.size fun k hk => by injection hk with hk; omega
/-- Two results, the second a struct that lies in a block. -/
theorem results_tmp_row {P : Program} {fn : Func} {q p : Tmp} {ty : TypeId} (h : fn.results = #[.tmp q, .cell p ty]) (tmps : Array Value) (w : World) (u : Value) (g : Nat) (t : TypeId) (cs : Array Value) (fr : Nat × Nat) (d : TypeDesc)
    (hq : tmps.getD q undef = u) (hp : tmps.getD p undef = .pointer (some ⟨g, 0, none⟩)) (hg : w.heap[g]? = some (.cells cs t fr))
    (hu : P.underlying ty = some d) (hd : (match d with | .struct _ | .array _ _ => true | _ => false) = true) (hi : (P.info? ty).map (·.size) = some cs.size) :
    (results fn tmps).run P w = .ok (.tuple #[u, .agg cs]) w := by
  have hp' : tmps[p]?.getD undef = .pointer (some ⟨g, 0, none⟩) := by simpa using hp
  have hq' : tmps[q]?.getD undef = u := by simpa using hq
  simp [results, h, hp', hq', asAddr, run_loadVar_row w g t ty cs fr d hg hu hd hi]
theorem cr_below {w w' : World} {a : Option Addr} {n cap : Nat} (h : Cr w a n cap) (hb : Below w.heap.size w w') : Cr w' a n cap := by
  refine ⟨h.1, h.2.1, ?_⟩
  rcases h.2.2 with h2 | ⟨x, hx, hr⟩
  · exact Or.inl h2
  · refine Or.inr ⟨x, hx, fun i hi => ?_⟩
    obtain ⟨c, hc, hcell⟩ := hr i hi
    exact ⟨c, hc, by rw [hb.cell (World.block_lt_of_cell? w _ hcell)]; exact hcell⟩
/-- A new drawer in a world with one block more. -/
theorem newRnd_on (w : World) (o : Obj) (a : Option Addr) (n cap : Nat) (h : Cr w a n cap) : Calls Try.prog 52 #[.slice a n cap] (w.alloc o) fun e w' => e = .returned (.pointer (some ⟨w.heap.size + 1, 0, none⟩)) ∧ Below (w.heap.size + 1) (w.alloc o) w' ∧ ∃ m, RI w' (w.heap.size + 1) a m cap 0 := by
  refine (newRnd_any (w.alloc o) a n cap (cr_below h ((Below.refl _ _).alloc (Nat.le_refl _) _))).mono ?_
  rintro e w' ⟨he, hb, m, hr⟩
  have e1 : (w.alloc o).heap.size = w.heap.size + 1 := by simp
  rw [e1] at he hb hr
  exact ⟨he, hb, m, hr⟩
/-- A list and a slice. -/
def LcP (w : World) (e : Ending) (w' : World) : Prop := ∃ (v : Value) (is : List Int) (f t s : Int) (hf ht : Bool), e = .returned (.tuple #[v, .agg (cutC f t s hf ht)]) ∧ (Fit f ∧ Fit t ∧ Fit s) ∧ is.length ≤ 12 ∧ OwI w' w.heap.size v is ∧ Below w.heap.size w w'
theorem off_set {w : World} {b g i : Nat} {v u : Value} {is : List Int} (h : OwI w b v is) (hg : g < b) : OwI (w.setCell ⟨g, i, none⟩ u) b v is :=
  h.grown (row := some g) ⟨rfl, rfl, rfl, by simp, fun j _ hj => heap_setCell_other _ ⟨g, i, none⟩ j _ (fun e => hj (by simp [e]))⟩ (own_ne_of h hg)
set_option maxHeartbeats 2000000 in
theorem dListCut (w : World) (a : Option Addr) (n cap : Nat) (h : Cr w a n cap) : Calls Try.prog 36 #[.slice a n cap] w (LcP w) := by
  have HB0 := Lib.hid (show Below w.heap.size w (w.alloc (.cells #[.int .i64 0, .int .i64 0, .int .i64 0, .bool false, .bool false] 32)) from (Below.refl _ _).alloc (Nat.le_refl _) _)
  have HX0 := Lib.hid (show CutB (w.alloc (.cells #[.int .i64 0, .int .i64 0, .int .i64 0, .bool false, .bool false] 32)) w.heap.size 0 0 0 false false from Blk.new _ _ _ rfl)
  have HN := Lib.hid (newRnd_on w (.cells #[.int .i64 0, .int .i64 0, .int .i64 0, .bool false, .bool false] 32) a n cap h)
  clear h
  go_enter Try.func36, Try.ntmps36
  go_wp2_with fail
  refine HN.out.mono ?_
  rintro e w1 ⟨rfl, hb1, m, hr1⟩
  have HB1 := Lib.hid (HB0.out.trans (hb1.mono (Nat.le_succ _)))
  have HX1 := Lib.hid (show CutB w1 w.heap.size 0 0 0 false false from Blk.below HX0.out hb1 (Nat.lt_succ_self _))
  have HR1 := Lib.hid hr1
  have hs2 : w.heap.size + 1 < w1.heap.size := hr1.1.lt
  have hs1 : w.heap.size + 1 ≤ w1.heap.size := Nat.le_of_lt hs2
  clear hb1 hr1
  go_wp2_with fail
  refine (numbers_draw w1 (w.heap.size + 1) m cap 0 a 12 50 HR1.out (by decide) (by decide) (by decide) (by decide)).mono ?_
  rintro e w3 ⟨v, is, rfl, hl, _, ⟨hg3, k3, hk3, hr3⟩, ho3⟩
  have HB3 := Lib.hid (below_row HB1.out hg3 (Nat.le_succ _))
  have HX3 := Lib.hid (show CutB w3 w.heap.size 0 0 0 false false from (hg3.block _ (Blk.lt HX1.out) (by simp)).trans HX1.out)
  have HR3 := Lib.hid hr3
  have HV3 := Lib.hid ho3
  have HL := Lib.hid hl
  clear hg3 hr3 hl ho3
  go_wp2_with fail
  refine (cut_draw w3 (w.heap.size + 1) m cap k3 a HR3.out (by omega)).mono ?_
  rintro e wc ⟨f, t, s, hf, ht, rfl, q1, q2, q3, hg2, k9, hk9, hr9⟩
  have HBc := Lib.hid (below_row HB3.out hg2 (Nat.le_succ _))
  have HXc := Lib.hid (show CutB wc w.heap.size 0 0 0 false false from (hg2.block _ (Blk.lt HX3.out) (by simp)).trans HX3.out)
  have HVc := Lib.hid (HV3.out.grown hg2 (own_ne_of HV3.out (by omega)))
  have HQ := Lib.hid (And.intro q1 (And.intro q2 q3))
  clear hg2 hr9 q1 q2 q3
  unfold cutC
  have d0 : wc.cell? ⟨w.heap.size, 0, none⟩ = some (.int .i64 0) := Blk.cell HXc.out 0
  have g0 : wc.frozen? ⟨w.heap.size, 0, none⟩ = false := Blk.free HXc.out 0
  have d1 : wc.cell? ⟨w.heap.size, 1, none⟩ = some (.int .i64 0) := Blk.cell HXc.out 1
  have g1 : wc.frozen? ⟨w.heap.size, 1, none⟩ = false := Blk.free HXc.out 1
  have d2 : wc.cell? ⟨w.heap.size, 2, none⟩ = some (.int .i64 0) := Blk.cell HXc.out 2
  have g2 : wc.frozen? ⟨w.heap.size, 2, none⟩ = false := Blk.free HXc.out 2
  have d3 : wc.cell? ⟨w.heap.size, 3, none⟩ = some (.bool false) := Blk.cell HXc.out 3
  have g3 : wc.frozen? ⟨w.heap.size, 3, none⟩ = false := Blk.free HXc.out 3
  have d4 : wc.cell? ⟨w.heap.size, 4, none⟩ = some (.bool false) := Blk.cell HXc.out 4
  have g4 : wc.frozen? ⟨w.heap.size, 4, none⟩ = false := Blk.free HXc.out 4
  have R1 := Lib.hid (show CutB (wc.setCell ⟨w.heap.size, 0, none⟩ (.int .i64 f)) w.heap.size f 0 0 false false from Blk.set HXc.out 0 _)
  have R2 := Lib.hid (show CutB ((wc.setCell ⟨w.heap.size, 0, none⟩ (.int .i64 f)).setCell ⟨w.heap.size, 1, none⟩ (.int .i64 t)) w.heap.size f t 0 false false from Blk.set R1.out 1 _)
  have R3 := Lib.hid (show CutB (((wc.setCell ⟨w.heap.size, 0, none⟩ (.int .i64 f)).setCell ⟨w.heap.size, 1, none⟩ (.int .i64 t)).setCell ⟨w.heap.size, 2, none⟩ (.int .i64 s)) w.heap.size f t s false false from Blk.set R2.out 2 _)
  have R4 := Lib.hid (show CutB ((((wc.setCell ⟨w.heap.size, 0, none⟩ (.int .i64 f)).setCell ⟨w.heap.size, 1, none⟩ (.int .i64 t)).setCell ⟨w.heap.size, 2, none⟩ (.int .i64 s)).setCell ⟨w.heap.size, 3, none⟩ (.bool hf)) w.heap.size f t s hf false from Blk.set R3.out 3 _)
  have R5 := Lib.hid (show CutB (((((wc.setCell ⟨w.heap.size, 0, none⟩ (.int .i64 f)).setCell ⟨w.heap.size, 1, none⟩ (.int .i64 t)).setCell ⟨w.heap.size, 2, none⟩ (.int .i64 s)).setCell ⟨w.heap.size, 3, none⟩ (.bool hf)).setCell ⟨w.heap.size, 4, none⟩ (.bool ht)) w.heap.size f t s hf ht from Blk.set R4.out 4 _)
  have HBs := Lib.hid (show Below w.heap.size w (((((wc.setCell ⟨w.heap.size, 0, none⟩ (.int .i64 f)).setCell ⟨w.heap.size, 1, none⟩ (.int .i64 t)).setCell ⟨w.heap.size, 2, none⟩ (.int .i64 s)).setCell ⟨w.heap.size, 3, none⟩ (.bool hf)).setCell ⟨w.heap.size, 4, none⟩ (.bool ht)) from (((((HBc.out.setCell (Nat.le_refl _) _).setCell (Nat.le_refl _) _).setCell (Nat.le_refl _) _).setCell (Nat.le_refl _) _).setCell (Nat.le_refl _) _))
  have HVs := Lib.hid (show OwI (((((wc.setCell ⟨w.heap.size, 0, none⟩ (.int .i64 f)).setCell ⟨w.heap.size, 1, none⟩ (.int .i64 t)).setCell ⟨w.heap.size, 2, none⟩ (.int .i64 s)).setCell ⟨w.heap.size, 3, none⟩ (.bool hf)).setCell ⟨w.heap.size, 4, none⟩ (.bool ht)) (w.heap.size + 1) v is from (off_set (off_set (off_set (off_set (off_set (HVc.out.wide hs1) (Nat.lt_succ_self _)) (Nat.lt_succ_self _)) (Nat.lt_succ_self _)) (Nat.lt_succ_self _)) (Nat.lt_succ_self _)))
  go_wp2_with fail
  refine bodyPost_ret (v := .tuple #[v, .agg (cutC f t s hf ht)]) ?_ rfl ⟨v, is, f, t, s, hf, ht, rfl, HQ.out, HL.out, HVs.out.wide (Nat.le_succ _), HBs.out⟩
  exact results_tmp_row rfl _ _ v w.heap.size 32 (cutC f t s hf ht) (0, 0) _ rfl rfl R5.out Try.underlying32 rfl (by kernel_rfl)
set_option maxHeartbeats 2000000 in
theorem dListDropCut (w : World) (a : Option Addr) (n cap : Nat) (h : Cr w a n cap) : Calls Try.prog 37 #[.slice a n cap] w (LcP w) := by
  have HB0 := Lib.hid (show Below w.heap.size w (w.alloc (.cells #[.int .i64 0, .int .i64 0, .int .i64 0, .bool false, .bool false] 32)) from (Below.refl _ _).alloc (Nat.le_refl _) _)
  have HX0 := Lib.hid (show CutB (w.alloc (.cells #[.int .i64 0, .int .i64 0, .int .i64 0, .bool false, .bool false] 32)) w.heap.size 0 0 0 false false from Blk.new _ _ _ rfl)
  have HN := Lib.hid (newRnd_on w (.cells #[.int .i64 0, .int .i64 0, .int .i64 0, .bool false, .bool false] 32) a n cap h)
  clear h
  go_enter Try.func37, Try.ntmps37
  go_wp2_with fail
  refine HN.out.mono ?_
  rintro e w1 ⟨rfl, hb1, m, hr1⟩
  have HB1 := Lib.hid (HB0.out.trans (hb1.mono (Nat.le_succ _)))
  have HX1 := Lib.hid (show CutB w1 w.heap.size 0 0 0 false false from Blk.below HX0.out hb1 (Nat.lt_succ_self _))
  have HR1 := Lib.hid hr1
  have hs2 : w.heap.size + 1 < w1.heap.size := hr1.1.lt
  have hs1 : w.heap.size + 1 ≤ w1.heap.size := Nat.le_of_lt hs2
  clear hb1 hr1
  go_wp2_with fail
  refine (numbers_draw w1 (w.heap.size + 1) m cap 0 a 12 50 HR1.out (by decide) (by decide) (by decide) (by decide)).mono ?_
  rintro e w3 ⟨v, is, rfl, hl, _, ⟨hg3, k3, hk3, hr3⟩, ho3⟩
  have HB3 := Lib.hid (below_row HB1.out hg3 (Nat.le_succ _))
  have HX3 := Lib.hid (show CutB w3 w.heap.size 0 0 0 false false from (hg3.block _ (Blk.lt HX1.out) (by simp)).trans HX1.out)
  have HR3 := Lib.hid hr3
  have HV3 := Lib.hid ho3
  have HL := Lib.hid hl
  clear hg3 hr3 hl ho3
  go_wp2_with fail
  refine (cut_draw w3 (w.heap.size + 1) m cap k3 a HR3.out (by omega)).mono ?_
  rintro e wc ⟨f, t, s, hf, ht, rfl, q1, q2, q3, hg2, k9, hk9, hr9⟩
  have HBc := Lib.hid (below_row HB3.out hg2 (Nat.le_succ _))
  have HXc := Lib.hid (show CutB wc w.heap.size 0 0 0 false false from (hg2.block _ (Blk.lt HX3.out) (by simp)).trans HX3.out)
  have HVc := Lib.hid (HV3.out.grown hg2 (own_ne_of HV3.out (by omega)))
  have HQ := Lib.hid (And.intro q1 (And.intro q2 q3))
  clear hg2 hr9 q1 q2 q3
  unfold cutC
  have d0 : wc.cell? ⟨w.heap.size, 0, none⟩ = some (.int .i64 0) := Blk.cell HXc.out 0
  have g0 : wc.frozen? ⟨w.heap.size, 0, none⟩ = false := Blk.free HXc.out 0
  have d1 : wc.cell? ⟨w.heap.size, 1, none⟩ = some (.int .i64 0) := Blk.cell HXc.out 1
  have g1 : wc.frozen? ⟨w.heap.size, 1, none⟩ = false := Blk.free HXc.out 1
  have d2 : wc.cell? ⟨w.heap.size, 2, none⟩ = some (.int .i64 0) := Blk.cell HXc.out 2
  have g2 : wc.frozen? ⟨w.heap.size, 2, none⟩ = false := Blk.free HXc.out 2
  have d3 : wc.cell? ⟨w.heap.size, 3, none⟩ = some (.bool false) := Blk.cell HXc.out 3
  have g3 : wc.frozen? ⟨w.heap.size, 3, none⟩ = false := Blk.free HXc.out 3
  have d4 : wc.cell? ⟨w.heap.size, 4, none⟩ = some (.bool false) := Blk.cell HXc.out 4
  have g4 : wc.frozen? ⟨w.heap.size, 4, none⟩ = false := Blk.free HXc.out 4
  have R1 := Lib.hid (show CutB (wc.setCell ⟨w.heap.size, 0, none⟩ (.int .i64 f)) w.heap.size f 0 0 false false from Blk.set HXc.out 0 _)
  have R2 := Lib.hid (show CutB ((wc.setCell ⟨w.heap.size, 0, none⟩ (.int .i64 f)).setCell ⟨w.heap.size, 1, none⟩ (.int .i64 t)) w.heap.size f t 0 false false from Blk.set R1.out 1 _)
  have R3 := Lib.hid (show CutB (((wc.setCell ⟨w.heap.size, 0, none⟩ (.int .i64 f)).setCell ⟨w.heap.size, 1, none⟩ (.int .i64 t)).setCell ⟨w.heap.size, 2, none⟩ (.int .i64 s)) w.heap.size f t s false false from Blk.set R2.out 2 _)
  have R4 := Lib.hid (show CutB ((((wc.setCell ⟨w.heap.size, 0, none⟩ (.int .i64 f)).setCell ⟨w.heap.size, 1, none⟩ (.int .i64 t)).setCell ⟨w.heap.size, 2, none⟩ (.int .i64 s)).setCell ⟨w.heap.size, 3, none⟩ (.bool hf)) w.heap.size f t s hf false from Blk.set R3.out 3 _)
  have R5 := Lib.hid (show CutB (((((wc.setCell ⟨w.heap.size, 0, none⟩ (.int .i64 f)).setCell ⟨w.heap.size, 1, none⟩ (.int .i64 t)).setCell ⟨w.heap.size, 2, none⟩ (.int .i64 s)).setCell ⟨w.heap.size, 3, none⟩ (.bool hf)).setCell ⟨w.heap.size, 4, none⟩ (.bool ht)) w.heap.size f t s hf ht from Blk.set R4.out 4 _)
  have HBs := Lib.hid (show Below w.heap.size w (((((wc.setCell ⟨w.heap.size, 0, none⟩ (.int .i64 f)).setCell ⟨w.heap.size, 1, none⟩ (.int .i64 t)).setCell ⟨w.heap.size, 2, none⟩ (.int .i64 s)).setCell ⟨w.heap.size, 3, none⟩ (.bool hf)).setCell ⟨w.heap.size, 4, none⟩ (.bool ht)) from (((((HBc.out.setCell (Nat.le_refl _) _).setCell (Nat.le_refl _) _).setCell (Nat.le_refl _) _).setCell (Nat.le_refl _) _).setCell (Nat.le_refl _) _))
  have HVs := Lib.hid (show OwI (((((wc.setCell ⟨w.heap.size, 0, none⟩ (.int .i64 f)).setCell ⟨w.heap.size, 1, none⟩ (.int .i64 t)).setCell ⟨w.heap.size, 2, none⟩ (.int .i64 s)).setCell ⟨w.heap.size, 3, none⟩ (.bool hf)).setCell ⟨w.heap.size, 4, none⟩ (.bool ht)) (w.heap.size + 1) v is from (off_set (off_set (off_set (off_set (off_set (HVc.out.wide hs1) (Nat.lt_succ_self _)) (Nat.lt_succ_self _)) (Nat.lt_succ_self _)) (Nat.lt_succ_self _)) (Nat.lt_succ_self _)))
  go_wp2_with fail
  refine bodyPost_ret (v := .tuple #[v, .agg (cutC f t s hf ht)]) ?_ rfl ⟨v, is, f, t, s, hf, ht, rfl, HQ.out, HL.out, HVs.out.wide (Nat.le_succ _), HBs.out⟩
  exact results_tmp_row rfl _ _ v w.heap.size 32 (cutC f t s hf ht) (0, 0) _ rfl rfl R5.out Try.underlying32 rfl (by kernel_rfl)
theorem cut_known (is : List Int) (f t st : Int) (hf ht : Bool) (h60 : is.length ≤ 60) (hq : okC f t st hf ht = true) : ∃ (A : Int) (M : Nat), M ≤ is.length ∧ (restI is A st M is.length).length + M = is.length ∧
    (∀ w v, RdI w v is → Calls Try.prog 23 #[v, .agg (cutC f t st hf ht)] w (LiP (selI is A st M) w)) ∧ (∀ w v, RdI w v is → Calls Try.prog 25 #[v, .agg (cutC f t st hf ht)] w (LiP (selI is A st M) w)) ∧
    (∀ w v, RdI w v is → Calls Try.prog 26 #[v, .agg (cutC f t st hf ht)] w (LiP (restI is A st M is.length) w)) ∧ (∀ w v, RdI w v is → Calls Try.prog 27 #[v, .agg (cutC f t st hf ht)] w (LiP (restI is A st M is.length) w)) ∧
    A = cFrom (is.length : Int) f st hf ∧ (M : Int) = cntZ (cFrom (is.length : Int) f st hf) (cTo (is.length : Int) t st ht) st := by
  obtain ⟨A, M, hA, hM, hst, h0, hin, eA, eM⟩ := cut_set is.length f t st hf ht hq (by omega)
  have hP := fun w => cutPlaces_any is.length f t st hf ht A M w (by omega) hA hM hin (cut_impl hq (by omega) eA eM)
  exact ⟨A, M, hM, restI_count h0 is.length M hin, fun w v h => specListCut_ok is v f t st hf ht A M w h h60 hq hst hA hM hin (cut_spec hq (by omega) eA eM), fun w v h => implListCut_ok is v f t st hf ht A M w h h60 hq hM hin hP,
    fun w v h => specListDrop_ok is v f t st hf ht A M w h h60 hq (fun w => selected_any is.length f t st hf ht A M w (by omega) hst hA hM hin (cut_spec hq (by omega) eA eM)), fun w v h => implListDrop_ok is v f t st hf ht A M w h h60 hq hM hin hP, eA, eM⟩
theorem OwI.len {w : World} {b : Nat} {v : Value} {is : List Int} (h : OwI w b v is) : ∃ a cap, v = .slice a is.length cap := by
  obtain ⟨a, cap, h1, _⟩ := h.rd
  exact ⟨a, cap, h1⟩
/-- A slice of all elements, one by one. -/
theorem okC_all : okC 0 0 1 false false = true := by decide
theorem all_from (n : Nat) : cFrom (n : Int) 0 1 false = 0 := by unfold cFrom; simp
theorem all_count (n : Nat) : cntZ 0 (cTo (n : Int) 0 1 false) 1 = (n : Int) := by
  unfold cTo cntZ
  simp
  omega
set_option maxHeartbeats 4000000 in
theorem fnListCut_walk (a : Option Addr) (n cap : Nat) (zs : List Int) (w : World) (h : (a = none ∧ n = 0 ∧ cap = 0 ∧ zs = []) ∨ ∃ x, a = some x ∧ n ≤ cap ∧ cap ≤ maxLen ∧ zs.length = cap ∧ (∀ i, i < zs.length → w.cell? (x.add i) = some (.int .u8 (zs.getD i 0))) ∧ ∀ n ∈ zs, (Lit.int .u8 n).wf = true) :
    Calls Try.prog 12 #[.slice a n cap] w fun e w' => e = .returned (.bool true) ∧ Below w.heap.size w w' := by
  have HC := Lib.hid (dListCut w a n cap (cr_of h))
  have hcap : n ≤ 9223372036854775807 := by
    rcases h with ⟨_, rfl, _⟩ | ⟨x, _, h1, h2, _⟩
    · omega
    · unfold maxLen at h2; omega
  clear h
  by_cases h0 : n ≤ 1048576
  · go_enter Try.func12, Try.ntmps12
    go_wp2_with fail
    refine HC.out.mono ?_
    rintro e w2 ⟨v, is, f, t, st, hf, ht, rfl, _, hl, ho2, hb2⟩
    unfold cutC
    have HX2 := Lib.hid (show CutAt (w2.alloc (.cells #[.int .i64 f, .int .i64 t, .int .i64 st, .bool hf, .bool ht] 32)) w2.heap.size f t st hf ht from Blk.new _ _ _ rfl)
    have HB2 := Lib.hid (show Below w.heap.size w (w2.alloc (.cells #[.int .i64 f, .int .i64 t, .int .i64 st, .bool hf, .bool ht] 32)) from hb2.alloc hb2.size _)
    have HV2 := Lib.hid (show OwI (w2.alloc (.cells #[.int .i64 f, .int .i64 t, .int .i64 st, .bool hf, .bool ht] 32)) w.heap.size v is from ho2.below ((Below.refl _ _).alloc (Nat.le_refl _) _))
    clear hb2 ho2 HC
    go_wp2_with (first | (refine ext rfl (.tmp 12) 0 [v, .agg #[.int .i64 f, .int .i64 t, .int .i64 st, .bool hf, .bool ht]] v rfl rfl rfl ?_) | (refine ext rfl (.tmp 12) 1 [v, .agg #[.int .i64 f, .int .i64 t, .int .i64 st, .bool hf, .bool ht]] (.agg #[.int .i64 f, .int .i64 t, .int .i64 st, .bool hf, .bool ht]) rfl rfl rfl ?_))
    cases hc : okC f t st hf ht with
    | false =>
      have H1 := Lib.hid (fun w v (hv : RdI w v is) => implListCut_no is v f t st hf ht w hv (by omega) (.inr hc))
      have H2 := Lib.hid (fun w v (hv : RdI w v is) => specListCut_no is v f t st hf ht w hv (by omega) (.inr hc))
      unfold cutC at H1 H2
      clear hc
      refine (H1.out _ _ HV2.out.rd).mono ?_
      rintro e w3 ⟨vo, rfl, ho3, hb3⟩
      have HX3 := Lib.hid (HX2.out.below hb3 HX2.out.lt)
      have HB3 := Lib.hid (HB2.out.trans (hb3.mono HB2.out.size))
      have HV3 := Lib.hid (HV2.out.below hb3)
      have HO3 := Lib.hid ho3
      clear hb3 ho3
      obtain ⟨c0, c1, c2, c3, c4⟩ := HX3.out.cells
      go_wp2_with fail
      refine (H2.out _ _ HV3.out.rd).mono ?_
      rintro e w4 ⟨vw, rfl, ho4, hb4⟩
      have HX4 := Lib.hid (HX3.out.below hb4 HX3.out.lt)
      have HB4 := Lib.hid (HB3.out.trans (hb4.mono HB3.out.size))
      have HV4 := Lib.hid (HV3.out.below hb4)
      have HO4 := Lib.hid (HO3.out.below hb4)
      have HW4 := Lib.hid ho4
      clear hb4 ho4 c0 c1 c2 c3 c4
      go_wp2_with fail
      refine (sameInts_rd ([]) _ _ _ HO4.out.rd HW4.out.rd (by simp)).mono ?_
      rintro e w5 ⟨rfl, hb5⟩
      have HX5 := Lib.hid (HX4.out.below hb5 HX4.out.lt)
      have HB5 := Lib.hid (HB4.out.trans (hb5.mono HB4.out.size))
      have HV5 := Lib.hid (HV4.out.below hb5)
      have HO5 := Lib.hid (HO4.out.below hb5)
      clear hb5 HX3 HX4 HB3 HB4 HV3 HV4 HO3 HO4 HW4
      obtain ⟨a1, cp1, rfl⟩ := HO5.out.len
      go_wp2_with fail
      go_ret
      exact ⟨rfl, HB5.out⟩
    | true =>
      obtain ⟨A, M, hM, hsum, k1, k2, k3, k4, eA, eM⟩ := cut_known is f t st hf ht (by omega) hc
      have H1 := Lib.hid k2
      have H2 := Lib.hid k1
      have K2 := Lib.hid k2
      have K4 := Lib.hid k4
      unfold cutC at H1 H2 K2 K4
      clear k1 k2 k3 k4 hc eA eM
      refine (H1.out _ _ HV2.out.rd).mono ?_
      rintro e w3 ⟨vo, rfl, ho3, hb3⟩
      have HX3 := Lib.hid (HX2.out.below hb3 HX2.out.lt)
      have HB3 := Lib.hid (HB2.out.trans (hb3.mono HB2.out.size))
      have HV3 := Lib.hid (HV2.out.below hb3)
      have HO3 := Lib.hid ho3
      clear hb3 ho3
      obtain ⟨c0, c1, c2, c3, c4⟩ := HX3.out.cells
      go_wp2_with fail
      refine (H2.out _ _ HV3.out.rd).mono ?_
      rintro e w4 ⟨vw, rfl, ho4, hb4⟩
      have HX4 := Lib.hid (HX3.out.below hb4 HX3.out.lt)
      have HB4 := Lib.hid (HB3.out.trans (hb4.mono HB3.out.size))
      have HV4 := Lib.hid (HV3.out.below hb4)
      have HO4 := Lib.hid (HO3.out.below hb4)
      have HW4 := Lib.hid ho4
      clear hb4 ho4 c0 c1 c2 c3 c4
      go_wp2_with fail
      refine (sameInts_rd (selI is A st M) _ _ _ HO4.out.rd HW4.out.rd (by rw [selI_len]; omega)).mono ?_
      rintro e w5 ⟨rfl, hb5⟩
      have HX5 := Lib.hid (HX4.out.below hb5 HX4.out.lt)
      have HB5 := Lib.hid (HB4.out.trans (hb5.mono HB4.out.size))
      have HV5 := Lib.hid (HV4.out.below hb5)
      have HO5 := Lib.hid (HO4.out.below hb5)
      clear hb5 HX3 HX4 HB3 HB4 HV3 HV4 HO3 HO4 HW4
      obtain ⟨a1, cp1, hvo⟩ := HO5.out.len
      subst hvo
      obtain ⟨a2, cp2, hv⟩ := HV5.out.len
      subst hv
      rw [selI_len] at *
      by_cases hz : M = 0
      · subst hz
        go_wp2_with fail
        go_ret
        exact ⟨rfl, HB5.out⟩
      · have hMz : 0 < M := by omega
        obtain ⟨c0, c1, c2, c3, c4⟩ := HX5.out.cells
        go_wp2_with fail
        refine (K4.out _ _ HV5.out.rd).mono ?_
        rintro e w6 ⟨vr, rfl, ho6, hb6⟩
        have HB6 := Lib.hid (HB5.out.trans (hb6.mono HB5.out.size))
        obtain ⟨a3, cp3, hvr⟩ := ho6.len
        subst hvr
        clear ho6 hb6 c0 c1 c2 c3 c4
        generalize (restI is A st M is.length).length = n1 at *
        generalize is.length = n2 at *
        go_wp2_with fail
        go_ret
        refine ⟨?_, HB6.out⟩
        refine congrArg (fun b => Ending.returned (Value.bool b)) ?_
        simp
        omega
  · go_enter Try.func12, Try.ntmps12
    go_wp2_with fail
    go_ret
    exact ⟨rfl, Below.refl _ _⟩
set_option maxHeartbeats 4000000 in
theorem fnListDropCut_walk (a : Option Addr) (n cap : Nat) (zs : List Int) (w : World) (h : (a = none ∧ n = 0 ∧ cap = 0 ∧ zs = []) ∨ ∃ x, a = some x ∧ n ≤ cap ∧ cap ≤ maxLen ∧ zs.length = cap ∧ (∀ i, i < zs.length → w.cell? (x.add i) = some (.int .u8 (zs.getD i 0))) ∧ ∀ n ∈ zs, (Lit.int .u8 n).wf = true) :
    Calls Try.prog 13 #[.slice a n cap] w fun e w' => e = .returned (.bool true) ∧ Below w.heap.size w w' := by
  have HC := Lib.hid (dListDropCut w a n cap (cr_of h))
  have hcap : n ≤ 9223372036854775807 := by
    rcases h with ⟨_, rfl, _⟩ | ⟨x, _, h1, h2, _⟩
    · omega
    · unfold maxLen at h2; omega
  clear h
  by_cases h0 : n ≤ 1048576
  · go_enter Try.func13, Try.ntmps13
    go_wp2_with fail
    refine HC.out.mono ?_
    rintro e w2 ⟨v, is, f, t, st, hf, ht, rfl, _, hl, ho2, hb2⟩
    unfold cutC
    have HX2 := Lib.hid (show CutAt (w2.alloc (.cells #[.int .i64 f, .int .i64 t, .int .i64 st, .bool hf, .bool ht] 32)) w2.heap.size f t st hf ht from Blk.new _ _ _ rfl)
    have HB2 := Lib.hid (show Below w.heap.size w (w2.alloc (.cells #[.int .i64 f, .int .i64 t, .int .i64 st, .bool hf, .bool ht] 32)) from hb2.alloc hb2.size _)
    have HV2 := Lib.hid (show OwI (w2.alloc (.cells #[.int .i64 f, .int .i64 t, .int .i64 st, .bool hf, .bool ht] 32)) w.heap.size v is from ho2.below ((Below.refl _ _).alloc (Nat.le_refl _) _))
    clear hb2 ho2 HC
    go_wp2_with (first | (refine ext rfl (.tmp 13) 0 [v, .agg #[.int .i64 f, .int .i64 t, .int .i64 st, .bool hf, .bool ht]] v rfl rfl rfl ?_) | (refine ext rfl (.tmp 13) 1 [v, .agg #[.int .i64 f, .int .i64 t, .int .i64 st, .bool hf, .bool ht]] (.agg #[.int .i64 f, .int .i64 t, .int .i64 st, .bool hf, .bool ht]) rfl rfl rfl ?_))
    cases hc : okC f t st hf ht with
    | false =>
      have H1 := Lib.hid (fun w v (hv : RdI w v is) => implListDrop_no is v f t st hf ht w hv (by omega) (.inr hc))
      have H2 := Lib.hid (fun w v (hv : RdI w v is) => specListDrop_no is v f t st hf ht w hv (by omega) (.inr hc))
      unfold cutC at H1 H2
      clear hc
      refine (H1.out _ _ HV2.out.rd).mono ?_
      rintro e w3 ⟨vo, rfl, ho3, hb3⟩
      have HX3 := Lib.hid (HX2.out.below hb3 HX2.out.lt)
      have HB3 := Lib.hid (HB2.out.trans (hb3.mono HB2.out.size))
      have HV3 := Lib.hid (HV2.out.below hb3)
      have HO3 := Lib.hid ho3
      clear hb3 ho3
      obtain ⟨c0, c1, c2, c3, c4⟩ := HX3.out.cells
      go_wp2_with fail
      refine (H2.out _ _ HV3.out.rd).mono ?_
      rintro e w4 ⟨vw, rfl, ho4, hb4⟩
      have HX4 := Lib.hid (HX3.out.below hb4 HX3.out.lt)
      have HB4 := Lib.hid (HB3.out.trans (hb4.mono HB3.out.size))
      have HV4 := Lib.hid (HV3.out.below hb4)
      have HO4 := Lib.hid (HO3.out.below hb4)
      have HW4 := Lib.hid ho4
      clear hb4 ho4 c0 c1 c2 c3 c4
      go_wp2_with fail
      refine (sameInts_rd ([]) _ _ _ HO4.out.rd HW4.out.rd (by simp)).mono ?_
      rintro e w5 ⟨rfl, hb5⟩
      have HX5 := Lib.hid (HX4.out.below hb5 HX4.out.lt)
      have HB5 := Lib.hid (HB4.out.trans (hb5.mono HB4.out.size))
      have HV5 := Lib.hid (HV4.out.below hb5)
      have HO5 := Lib.hid (HO4.out.below hb5)
      clear hb5 HX3 HX4 HB3 HB4 HV3 HV4 HO3 HO4 HW4
      obtain ⟨a1, cp1, rfl⟩ := HO5.out.len
      go_wp2_with fail
      go_ret
      exact ⟨rfl, HB5.out⟩
    | true =>
      obtain ⟨A, M, hM, hsum, k1, k2, k3, k4, eA, eM⟩ := cut_known is f t st hf ht (by omega) hc
      have H1 := Lib.hid k4
      have H2 := Lib.hid k3
      have K2 := Lib.hid k2
      have K4 := Lib.hid k4
      unfold cutC at H1 H2 K2 K4
      clear k1 k2 k3 k4 hc eA eM
      refine (H1.out _ _ HV2.out.rd).mono ?_
      rintro e w3 ⟨vo, rfl, ho3, hb3⟩
      have HX3 := Lib.hid (HX2.out.below hb3 HX2.out.lt)
      have HB3 := Lib.hid (HB2.out.trans (hb3.mono HB2.out.size))
      have HV3 := Lib.hid (HV2.out.below hb3)
      have HO3 := Lib.hid ho3
      clear hb3 ho3
      obtain ⟨c0, c1, c2, c3, c4⟩ := HX3.out.cells
      go_wp2_with fail
      refine (H2.out _ _ HV3.out.rd).mono ?_
      rintro e w4 ⟨vw, rfl, ho4, hb4⟩
      have HX4 := Lib.hid (HX3.out.below hb4 HX3.out.lt)
      have HB4 := Lib.hid (HB3.out.trans (hb4.mono HB3.out.size))
      have HV4 := Lib.hid (HV3.out.below hb4)
      have HO4 := Lib.hid (HO3.out.below hb4)
      have HW4 := Lib.hid ho4
      clear hb4 ho4 c0 c1 c2 c3 c4
      go_wp2_with fail
      refine (sameInts_rd (restI is A st M is.length) _ _ _ HO4.out.rd HW4.out.rd (by omega)).mono ?_
      rintro e w5 ⟨rfl, hb5⟩
      have HX5 := Lib.hid (HX4.out.below hb5 HX4.out.lt)
      have HB5 := Lib.hid (HB4.out.trans (hb5.mono HB4.out.size))
      have HV5 := Lib.hid (HV4.out.below hb5)
      have HO5 := Lib.hid (HO4.out.below hb5)
      clear hb5 HX3 HX4 HB3 HB4 HV3 HV4 HO3 HO4 HW4
      obtain ⟨a1, cp1, hvo⟩ := HO5.out.len
      subst hvo
      obtain ⟨a2, cp2, hv⟩ := HV5.out.len
      subst hv
      by_cases hz : (restI is A st M is.length).length = 0
      · rw [hz]
        go_wp2_with fail
        go_ret
        exact ⟨rfl, HB5.out⟩
      · have HN := Lib.hid (show ∀ w v, RdI w v is → Calls Try.prog 27 #[v, .agg (cutC 0 0 1 false false)] w (LiP [] w) from by
          obtain ⟨A2, M2, _, hs2, _, _, _, k9, eA2, eM2⟩ := cut_known is 0 0 1 false false (by omega) okC_all
          rw [all_from] at eM2
          rw [all_count] at eM2
          have hnil : restI is A2 1 M2 is.length = [] := List.eq_nil_of_length_eq_zero (by omega)
          rw [hnil] at k9
          exact k9)
        unfold cutC at HN
        have hz2 : 0 < (restI is A st M is.length).length := by omega
        have HS := Lib.hid hsum
        have HM := Lib.hid hM
        have HL := Lib.hid hl
        clear hsum hM
        generalize hn1 : (restI is A st M is.length).length = n1 at *
        go_wp2_with fail
        refine (HN.out _ _ HV5.out.rd).mono ?_
        rintro e w6 ⟨vn, rfl, ho6, hb6⟩
        have HX6 := Lib.hid (HX5.out.below hb6 HX5.out.lt)
        have HB6 := Lib.hid (HB5.out.trans (hb6.mono HB5.out.size))
        have HV6 := Lib.hid (HV5.out.below hb6)
        obtain ⟨a3, cp3, hvn⟩ := ho6.len
        subst hvn
        clear ho6 hb6
        obtain ⟨c0, c1, c2, c3, c4⟩ := HX6.out.cells
        go_wp2_with fail
        refine (K2.out _ _ HV6.out.rd).mono ?_
        rintro e w7 ⟨vc, rfl, ho7, hb7⟩
        have HB7 := Lib.hid (HB6.out.trans (hb7.mono HB6.out.size))
        obtain ⟨a4, cp4, hvc⟩ := ho7.len
        subst hvc
        clear ho7 hb7 c0 c1 c2 c3 c4
        rw [selI_len]
        have HS2 := HS.out
        have HL2 := HL.out
        clear hn1
        generalize is.length = n2 at *
        go_wp2_with fail
        go_ret
        refine ⟨?_, HB7.out⟩
        refine congrArg (fun b => Ending.returned (Value.bool b)) ?_
        simp
        omega
  · go_enter Try.func13, Try.ntmps13
    go_wp2_with fail
    go_ret
    exact ⟨rfl, Below.refl _ _⟩
end Go.Proofs.Ytbcphejblopekaa
