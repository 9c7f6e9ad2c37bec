/- A list and a slice are drawn; the laws on ListCut and ListDropCut. -/
import Derived.Test.YtbcphejblopekabDrL
namespace Go.Proofs.Ytbcphejblopekab
open Go.RowKit
theorem below_row {w w1 w2 : World} {g : Nat} (h : Below w.heap.size w w1) (hg : w1.grownBy w2 (some g)) (hge : w.heap.size ≤ g) : Below w.heap.size w w2 :=
  h.grown hg h.size fun k hk => by injection hk with hk; omega
/-- Two results, the second a struct that lies in a block. -/
theorem results_tmp_row {P : Program} {fn : Func} {q p : Tmp} {ty : TypeId} (h : fn.results = #[.tmp q, .cell p ty]) (tmps : Array Value) (w : World) (u : Value) (g : Nat) (t : TypeId) (cs : Array Value) (fr : Nat × Nat) (d : TypeDesc)
    (hq : tmps.getD q undef = u) (hp : tmps.getD p undef = .pointer (some ⟨g, 0, none⟩)) (hg : w.heap[g]? = some (.cells cs t fr))
    (hu : P.underlying ty = some d) (hd : (match d with | .struct _ | .array _ _ => true | _ => false) = true) (hi : (P.info? ty).map (·.size) = some cs.size) :
    (results fn tmps).run P w = .ok (.tuple #[u, .agg cs]) w := by
  have hp' : tmps[p]?.getD undef = .pointer (some ⟨g, 0, none⟩) := by simpa using hp
  have hq' : tmps[q]?.getD undef = u := by simpa using hq
  simp [results, h, hp', hq', asAddr, run_loadVar_row w g t ty cs fr d hg hu hd hi]
theorem cr_below {w w' : World} {a : Option Addr} {n cap : Nat} (h : Cr w a n cap) (hb : Below w.heap.size w w') : Cr w' a n cap := by
  refine ⟨h.1, h.2.1, ?_⟩
  rcases h.2.2 with h2 | ⟨x, hx, hr⟩
  · exact Or.inl h2
  · refine Or.inr ⟨x, hx, fun i hi => ?_⟩
    obtain ⟨c, hc, hcell⟩ := hr i hi
    exact ⟨c, hc, by rw [hb.cell (World.block_lt_of_cell? w _ hcell)]; exact hcell⟩
/-- A new drawer in a world with one block more. -/
theorem newRnd_on (w : World) (o : Obj) (a : Option Addr) (n cap : Nat) (h : Cr w a n cap) : Calls Try.prog 66 #[.slice a n cap] (w.alloc o) fun e w' => e = .returned (.pointer (some ⟨w.heap.size + 1, 0, none⟩)) ∧ Below (w.heap.size + 1) (w.alloc o) w' ∧ ∃ m, RI w' (w.heap.size + 1) a m cap 0 := by
  refine (newRnd_any (w.alloc o) a n cap (cr_below h ((Below.refl _ _).alloc (Nat.le_refl _) _))).mono ?_
  rintro e w' ⟨he, hb, m, hr⟩
  have e1 : (w.alloc o).heap.size = w.heap.size + 1 := by simp
  rw [e1] at he hb hr
  exact ⟨he, hb, m, hr⟩
/-- A list and a slice. -/
def LcP (w : World) (e : Ending) (w' : World) : Prop := ∃ (v : Value) (is : List Int) (f t s : Int) (hf ht : Bool), e = .returned (.tuple #[v, .agg (cutC f t s hf ht)]) ∧ (Fit f ∧ Fit t ∧ Fit s) ∧ is.length ≤ 12 ∧ OwI w' w.heap.size v is ∧ Below w.heap.size w w'
theorem off_set {w : World} {b g i : Nat} {v u : Value} {is : List Int} (h : OwI w b v is) (hg : g < b) : OwI (w.setCell ⟨g, i, none⟩ u) b v is :=
  h.grown (row := some g) ⟨rfl, rfl, rfl, by simp, fun j _ hj => heap_setCell_other _ ⟨g, i, none⟩ j _ (fun e => hj (by simp [e]))⟩ (own_ne_of h hg)
set_option maxHeartbeats 2000000 in
theorem dListCut (w : World) (a : Option Addr) (n cap : Nat) (h : Cr w a n cap) : Calls Try.prog 44 #[.slice a n cap] w (LcP w) := by
  have HB0 := Lib.hid (show Below w.heap.size w (w.alloc (.cells #[.int .i64 0, .int .i64 0, .int .i64 0, .bool false, .bool false] 52)) from (Below.refl _ _).alloc (Nat.le_refl _) _)
  have HX0 := Lib.hid (show CutB (w.alloc (.cells #[.int .i64 0, .int .i64 0, .int .i64 0, .bool false, .bool false] 52)) w.heap.size 0 0 0 false false from Blk.new _ _ _ rfl)
  have HN := Lib.hid (newRnd_on w (.cells #[.int .i64 0, .int .i64 0, .int .i64 0, .bool false, .bool false] 52) a n cap h)
  clear h
  go_enter Try.func44, Try.ntmps44
  go_wp2_with fail
  refine HN.out.mono ?_
  rintro e w1 ⟨rfl, hb1, m, hr1⟩
  have HB1 := Lib.hid (HB0.out.trans (hb1.mono (Nat.le_succ _)))
  have HX1 := Lib.hid (show CutB w1 w.heap.size 0 0 0 false false from Blk.below HX0.out hb1 (Nat.lt_succ_self _))
  have HR1 := Lib.hid hr1
  have hs2 : w.heap.size + 1 < w1.heap.size := hr1.1.lt
  have hs1 : w.heap.size + 1 ≤ w1.heap.size := Nat.le_of_lt hs2
  clear hb1 hr1
  go_wp2_with fail
  refine (numbers_draw w1 (w.heap.size + 1) m cap 0 a 12 50 HR1.out (by decide) (by decide) (by decide) (by decide)).mono ?_
  rintro e w3 ⟨v, is, rfl, hl, _, ⟨hg3, k3, hk3, hr3⟩, ho3⟩
  have HB3 := Lib.hid (below_row HB1.out hg3 (Nat.le_succ _))
  have HX3 := Lib.hid (show CutB w3 w.heap.size 0 0 0 false false from (hg3.block _ (Blk.lt HX1.out) (by simp)).trans HX1.out)
  have HR3 := Lib.hid hr3
  have HV3 := Lib.hid ho3
  have HL := Lib.hid hl
  clear hg3 hr3 hl ho3
  go_wp2_with fail
  refine (cut_draw w3 (w.heap.size + 1) m cap k3 a HR3.out (by omega)).mono ?_
  rintro e wc ⟨f, t, s, hf, ht, rfl, q1, q2, q3, hg2, k9, hk9, hr9⟩
  have HBc := Lib.hid (below_row HB3.out hg2 (Nat.le_succ _))
  have HXc := Lib.hid (show CutB wc w.heap.size 0 0 0 false false from (hg2.block _ (Blk.lt HX3.out) (by simp)).trans HX3.out)
  have HVc := Lib.hid (HV3.out.grown hg2 (own_ne_of HV3.out (by omega)))
  have HQ := Lib.hid (And.intro q1 (And.intro q2 q3))
  clear hg2 hr9 q1 q2 q3
  unfold cutC
  have d0 : wc.cell? ⟨w.heap.size, 0, none⟩ = some (.int .i64 0) := Blk.cell HXc.out 0
  have g0 : wc.frozen? ⟨w.heap.size, 0, none⟩ = false := Blk.free HXc.out 0
  have d1 : wc.cell? ⟨w.heap.size, 1, none⟩ = some (.int .i64 0) := Blk.cell HXc.out 1
  have g1 : wc.frozen? ⟨w.heap.size, 1, none⟩ = false := Blk.free HXc.out 1
  have d2 : wc.cell? ⟨w.heap.size, 2, none⟩ = some (.int .i64 0) := Blk.cell HXc.out 2
  have g2 : wc.frozen? ⟨w.heap.size, 2, none⟩ = false := Blk.free HXc.out 2
  have d3 : wc.cell? ⟨w.heap.size, 3, none⟩ = some (.bool false) := Blk.cell HXc.out 3
  have g3 : wc.frozen? ⟨w.heap.size, 3, none⟩ = false := Blk.free HXc.out 3
  have d4 : wc.cell? ⟨w.heap.size, 4, none⟩ = some (.bool false) := Blk.cell HXc.out 4
  have g4 : wc.frozen? ⟨w.heap.size, 4, none⟩ = false := Blk.free HXc.out 4
  have R1 := Lib.hid (show CutB (wc.setCell ⟨w.heap.size, 0, none⟩ (.int .i64 f)) w.heap.size f 0 0 false false from Blk.set HXc.out 0 _)
  have R2 := Lib.hid (show CutB ((wc.setCell ⟨w.heap.size, 0, none⟩ (.int .i64 f)).setCell ⟨w.heap.size, 1, none⟩ (.int .i64 t)) w.heap.size f t 0 false false from Blk.set R1.out 1 _)
  have R3 := Lib.hid (show CutB (((wc.setCell ⟨w.heap.size, 0, none⟩ (.int .i64 f)).setCell ⟨w.heap.size, 1, none⟩ (.int .i64 t)).setCell ⟨w.heap.size, 2, none⟩ (.int .i64 s)) w.heap.size f t s false false from Blk.set R2.out 2 _)
  have R4 := Lib.hid (show CutB ((((wc.setCell ⟨w.heap.size, 0, none⟩ (.int .i64 f)).setCell ⟨w.heap.size, 1, none⟩ (.int .i64 t)).setCell ⟨w.heap.size, 2, none⟩ (.int .i64 s)).setCell ⟨w.heap.size, 3, none⟩ (.bool hf)) w.heap.size f t s hf false from Blk.set R3.out 3 _)
  have R5 := Lib.hid (show CutB (((((wc.setCell ⟨w.heap.size, 0, none⟩ (.int .i64 f)).setCell ⟨w.heap.size, 1, none⟩ (.int .i64 t)).setCell ⟨w.heap.size, 2, none⟩ (.int .i64 s)).setCell ⟨w.heap.size, 3, none⟩ (.bool hf)).setCell ⟨w.heap.size, 4, none⟩ (.bool ht)) w.heap.size f t s hf ht from Blk.set R4.out 4 _)
  have HBs := Lib.hid (show Below w.heap.size w (((((wc.setCell ⟨w.heap.size, 0, none⟩ (.int .i64 f)).setCell ⟨w.heap.size, 1, none⟩ (.int .i64 t)).setCell ⟨w.heap.size, 2, none⟩ (.int .i64 s)).setCell ⟨w.heap.size, 3, none⟩ (.bool hf)).setCell ⟨w.heap.size, 4, none⟩ (.bool ht)) from (((((HBc.out.setCell (Nat.le_refl _) _).setCell (Nat.le_refl _) _).setCell (Nat.le_refl _) _).setCell (Nat.le_refl _) _).setCell (Nat.le_refl _) _))
  have HVs := Lib.hid (show OwI (((((wc.setCell ⟨w.heap.size, 0, none⟩ (.int .i64 f)).setCell ⟨w.heap.size, 1, none⟩ (.int .i64 t)).setCell ⟨w.heap.size, 2, none⟩ (.int .i64 s)).setCell ⟨w.heap.size, 3, none⟩ (.bool hf)).setCell ⟨w.heap.size, 4, none⟩ (.bool ht)) (w.heap.size + 1) v is from (off_set (off_set (off_set (off_set (off_set (HVc.out.wide hs1) (Nat.lt_succ_self _)) (Nat.lt_succ_self _)) (Nat.lt_succ_self _)) (Nat.lt_succ_self _)) (Nat.lt_succ_self _)))
  go_wp2_with fail
  refine bodyPost_ret (v := .tuple #[v, .agg (cutC f t s hf ht)]) ?_ rfl ⟨v, is, f, t, s, hf, ht, rfl, HQ.out, HL.out, HVs.out.wide (Nat.le_succ _), HBs.out⟩
  exact results_tmp_row rfl _ _ v w.heap.size 52 (cutC f t s hf ht) (0, 0) _ rfl rfl R5.out Try.underlying52 rfl (by kernel_rfl)
theorem OwI.len {w : World} {b : Nat} {v : Value} {is : List Int} (h : OwI w b v is) : ∃ a cap, v = .slice a is.length cap := by
  obtain ⟨a, cap, h1, _⟩ := h.rd
  exact ⟨a, cap, h1⟩
/-- A slice of all elements, one by one. -/
theorem okC_all : okC 0 0 1 false false = true := by decide
theorem all_from (n : Nat) : cFrom (n : Int) 0 1 false = 0 := by unfold cFrom; simp
theorem all_count (n : Nat) : cntZ 0 (cTo (n : Int) 0 1 false) 1 = (n : Int) := by
  unfold cTo cntZ
  simp
  omega
end Go.Proofs.Ytbcphejblopekab
