/- Slices are drawn; the laws on CutOk and CutRange. -/
import Derived.Test.YtfmpplolhhjpoaaDrC
import Derived.Test.YtfmpplolhhjpoaaLwT
import Derived.Test.YtfmpplolhhjpoaaTCut2
namespace Go.Proofs.Ytfmpplolhhjpoaa
open Go.RowKit
/-- Two results, the second a struct that lies in a block. -/
theorem results_tmp_row {P : Program} {fn : Func} {q p : Tmp} {ty : TypeId} (h : fn.results = #[.tmp q, .cell p ty]) (tmps : Array Value) (w : World) (u : Value) (g : Nat) (t : TypeId) (cs : Array Value) (fr : Nat × Nat) (d : TypeDesc)
    (hq : tmps.getD q undef = u) (hp : tmps.getD p undef = .pointer (some ⟨g, 0, none⟩)) (hg : w.heap[g]? = some (.cells cs t fr))
    (hu : P.underlying ty = some d) (hd : (match d with | .struct _ | .array _ _ => true | _ => false) = true) (hi : (P.info? ty).map (·.size) = some cs.size) :
    (results fn tmps).run P w = .ok (.tuple #[u, .agg cs]) w := by
  have hp' : tmps[p]?.getD undef = .pointer (some ⟨g, 0, none⟩) := by simpa using hp
  have hq' : tmps[q]?.getD undef = u := by simpa using hq
  simp [results, h, hp', hq', asAddr, run_loadVar_row w g t ty cs fr d hg hu hd hi]
theorem cr_below {w w' : World} {a : Option Addr} {n cap : Nat} (h : Cr w a n cap) (hb : Below w.heap.size w w') : Cr w' a n cap := by
  refine ⟨h.1, h.2.1, ?_⟩
  rcases h.2.2 with h2 | ⟨x, hx, hr⟩
  · exact Or.inl h2
  · refine Or.inr ⟨x, hx, fun i hi => ?_⟩
    obtain ⟨c, hc, hcell⟩ := hr i hi
    exact ⟨c, hc, by rw [hb.cell (World.block_lt_of_cell? w _ hcell)]; exact hcell⟩
/-- A new drawer in a world with one block more. -/
theorem newRnd_on (w : World) (o : Obj) (a : Option Addr) (n cap : Nat) (h : Cr w a n cap) : Calls Try.prog 53 #[.slice a n cap] (w.alloc o) fun e w' => e = .returned (.pointer (some ⟨w.heap.size + 1, 0, none⟩)) ∧ Below (w.heap.size + 1) (w.alloc o) w' ∧ ∃ m, RI w' (w.heap.size + 1) a m cap 0 := by
  refine (newRnd_any (w.alloc o) a n cap (cr_below h ((Below.refl _ _).alloc (Nat.le_refl _) _))).mono ?_
  rintro e w' ⟨he, hb, m, hr⟩
  have e1 : (w.alloc o).heap.size = w.heap.size + 1 := by simp
  rw [e1] at he hb hr
  exact ⟨he, hb, m, hr⟩
/-- A slice. -/
def CtP (w : World) (e : Ending) (w' : World) : Prop := ∃ (f t s : Int) (hf ht : Bool), e = .returned (.agg (cutC f t s hf ht)) ∧ Fit f ∧ Fit t ∧ Fit s ∧ Below w.heap.size w w'
/-- A number and a slice. -/
def CnP (w : World) (e : Ending) (w' : World) : Prop := ∃ (z f t s : Int) (hf ht : Bool), e = .returned (.tuple #[.int .i64 z, .agg (cutC f t s hf ht)]) ∧ Fit z ∧ Fit f ∧ Fit t ∧ Fit s ∧ Below w.heap.size w w'
set_option maxHeartbeats 2000000 in
theorem dCutOk (w : World) (a : Option Addr) (n cap : Nat) (h : Cr w a n cap) : Calls Try.prog 24 #[.slice a n cap] w (CtP w) := by
  have HB0 := Lib.hid (show Below w.heap.size w (w.alloc (.cells #[.int .i64 0, .int .i64 0, .int .i64 0, .bool false, .bool false] 35)) from (Below.refl _ _).alloc (Nat.le_refl _) _)
  have HX0 := Lib.hid (show CutB (w.alloc (.cells #[.int .i64 0, .int .i64 0, .int .i64 0, .bool false, .bool false] 35)) w.heap.size 0 0 0 false false from Blk.new _ _ _ rfl)
  have HN := Lib.hid (newRnd_on w (.cells #[.int .i64 0, .int .i64 0, .int .i64 0, .bool false, .bool false] 35) a n cap h)
  clear h
  go_enter Try.func24, Try.ntmps24
  go_wp2_with fail
  refine HN.out.mono ?_
  rintro e w1 ⟨rfl, hb1, m, hr1⟩
  have HB1 := Lib.hid (HB0.out.trans (hb1.mono (Nat.le_succ _)))
  have HX1 := Lib.hid (show CutB w1 w.heap.size 0 0 0 false false from Blk.below HX0.out hb1 (Nat.lt_succ_self _))
  have HR1 := Lib.hid hr1
  clear hb1 hr1
  go_wp2_with fail
  refine (cut_draw w1 (w.heap.size + 1) m cap 0 a HR1.out (by omega)).mono ?_
  rintro e wc ⟨f, t, s, hf, ht, rfl, q1, q2, q3, hg2, k2, hk2, hr2⟩
  have HBc := Lib.hid (below_row HB1.out hg2 (Nat.le_succ _))
  have HXc := Lib.hid (show CutB wc w.heap.size 0 0 0 false false from (hg2.block _ (Blk.lt HX1.out) (by simp)).trans HX1.out)
  have HQ := Lib.hid (And.intro q1 (And.intro q2 q3))
  clear hg2 hr2 q1 q2 q3
  unfold cutC
  have d0 : wc.cell? ⟨w.heap.size, 0, none⟩ = some (.int .i64 0) := Blk.cell HXc.out 0
  have g0 : wc.frozen? ⟨w.heap.size, 0, none⟩ = false := Blk.free HXc.out 0
  have d1 : wc.cell? ⟨w.heap.size, 1, none⟩ = some (.int .i64 0) := Blk.cell HXc.out 1
  have g1 : wc.frozen? ⟨w.heap.size, 1, none⟩ = false := Blk.free HXc.out 1
  have d2 : wc.cell? ⟨w.heap.size, 2, none⟩ = some (.int .i64 0) := Blk.cell HXc.out 2
  have g2 : wc.frozen? ⟨w.heap.size, 2, none⟩ = false := Blk.free HXc.out 2
  have d3 : wc.cell? ⟨w.heap.size, 3, none⟩ = some (.bool false) := Blk.cell HXc.out 3
  have g3 : wc.frozen? ⟨w.heap.size, 3, none⟩ = false := Blk.free HXc.out 3
  have d4 : wc.cell? ⟨w.heap.size, 4, none⟩ = some (.bool false) := Blk.cell HXc.out 4
  have g4 : wc.frozen? ⟨w.heap.size, 4, none⟩ = false := Blk.free HXc.out 4
  have R1 := Lib.hid (show CutB (wc.setCell ⟨w.heap.size, 0, none⟩ (.int .i64 f)) w.heap.size f 0 0 false false from Blk.set HXc.out 0 _)
  have R2 := Lib.hid (show CutB ((wc.setCell ⟨w.heap.size, 0, none⟩ (.int .i64 f)).setCell ⟨w.heap.size, 1, none⟩ (.int .i64 t)) w.heap.size f t 0 false false from Blk.set R1.out 1 _)
  have R3 := Lib.hid (show CutB (((wc.setCell ⟨w.heap.size, 0, none⟩ (.int .i64 f)).setCell ⟨w.heap.size, 1, none⟩ (.int .i64 t)).setCell ⟨w.heap.size, 2, none⟩ (.int .i64 s)) w.heap.size f t s false false from Blk.set R2.out 2 _)
  have R4 := Lib.hid (show CutB ((((wc.setCell ⟨w.heap.size, 0, none⟩ (.int .i64 f)).setCell ⟨w.heap.size, 1, none⟩ (.int .i64 t)).setCell ⟨w.heap.size, 2, none⟩ (.int .i64 s)).setCell ⟨w.heap.size, 3, none⟩ (.bool hf)) w.heap.size f t s hf false from Blk.set R3.out 3 _)
  have R5 := Lib.hid (show CutB (((((wc.setCell ⟨w.heap.size, 0, none⟩ (.int .i64 f)).setCell ⟨w.heap.size, 1, none⟩ (.int .i64 t)).setCell ⟨w.heap.size, 2, none⟩ (.int .i64 s)).setCell ⟨w.heap.size, 3, none⟩ (.bool hf)).setCell ⟨w.heap.size, 4, none⟩ (.bool ht)) w.heap.size f t s hf ht from Blk.set R4.out 4 _)
  have HBs := Lib.hid (show Below w.heap.size w (((((wc.setCell ⟨w.heap.size, 0, none⟩ (.int .i64 f)).setCell ⟨w.heap.size, 1, none⟩ (.int .i64 t)).setCell ⟨w.heap.size, 2, none⟩ (.int .i64 s)).setCell ⟨w.heap.size, 3, none⟩ (.bool hf)).setCell ⟨w.heap.size, 4, none⟩ (.bool ht)) from (((((HBc.out.setCell (Nat.le_refl _) _).setCell (Nat.le_refl _) _).setCell (Nat.le_refl _) _).setCell (Nat.le_refl _) _).setCell (Nat.le_refl _) _))
  go_wp2_with fail
  refine bodyPost_ret (v := .agg (cutC f t s hf ht)) ?_ rfl ⟨f, t, s, hf, ht, rfl, HQ.out.1, HQ.out.2.1, HQ.out.2.2, HBs.out⟩
  exact results_cell_row rfl _ _ w.heap.size 35 (cutC f t s hf ht) (0, 0) _ rfl R5.out Try.underlying35 rfl (by kernel_rfl)
set_option maxHeartbeats 2000000 in
theorem dCutRange (w : World) (a : Option Addr) (n cap : Nat) (h : Cr w a n cap) : Calls Try.prog 28 #[.slice a n cap] w (CnP w) := by
  have HB0 := Lib.hid (show Below w.heap.size w (w.alloc (.cells #[.int .i64 0, .int .i64 0, .int .i64 0, .bool false, .bool false] 35)) from (Below.refl _ _).alloc (Nat.le_refl _) _)
  have HX0 := Lib.hid (show CutB (w.alloc (.cells #[.int .i64 0, .int .i64 0, .int .i64 0, .bool false, .bool false] 35)) w.heap.size 0 0 0 false false from Blk.new _ _ _ rfl)
  have HN := Lib.hid (newRnd_on w (.cells #[.int .i64 0, .int .i64 0, .int .i64 0, .bool false, .bool false] 35) a n cap h)
  clear h
  go_enter Try.func28, Try.ntmps28
  go_wp2_with fail
  refine HN.out.mono ?_
  rintro e w1 ⟨rfl, hb1, m, hr1⟩
  have HB1 := Lib.hid (HB0.out.trans (hb1.mono (Nat.le_succ _)))
  have HX1 := Lib.hid (show CutB w1 w.heap.size 0 0 0 false false from Blk.below HX0.out hb1 (Nat.lt_succ_self _))
  have HR1 := Lib.hid hr1
  clear hb1 hr1
  go_wp2_with fail
  refine (pick_any w1 (w.heap.size + 1) a m cap 0 12 HR1.out (by omega) (by decide)).mono ?_
  rintro e w2 ⟨p, rfl, hp, hg2, k2, hk2, hr2⟩
  have HB2 := Lib.hid (below_row HB1.out hg2 (Nat.le_succ _))
  have HX2 := Lib.hid (show CutB w2 w.heap.size 0 0 0 false false from (hg2.block _ (Blk.lt HX1.out) (by simp)).trans HX1.out)
  have HR2 := Lib.hid hr2
  have hp12 : p ≤ 12 := by omega
  clear hg2 hr2 hp
  go_wp2_with fail
  refine (often_draw w2 (w.heap.size + 1) m cap k2 a (p : Int) HR2.out (by omega) (by omega) (by omega)).mono ?_
  rintro e w3 ⟨⟨z, rfl, hz⟩, hg3, k3, hk3, hr3⟩
  have HB3 := Lib.hid (below_row HB2.out hg3 (Nat.le_succ _))
  have HX3 := Lib.hid (show CutB w3 w.heap.size 0 0 0 false false from (hg3.block _ (Blk.lt HX2.out) (by simp)).trans HX2.out)
  have HR3 := Lib.hid hr3
  have HZ := Lib.hid (show Fit z from hz)
  clear hg3 hr3 hz
  go_wp2_with fail
  refine (cut_draw w3 (w.heap.size + 1) m cap k3 a HR3.out (by omega)).mono ?_
  rintro e wc ⟨f, t, s, hf, ht, rfl, q1, q2, q3, hg2, k9, hk9, hr9⟩
  have HBc := Lib.hid (below_row HB3.out hg2 (Nat.le_succ _))
  have HXc := Lib.hid (show CutB wc w.heap.size 0 0 0 false false from (hg2.block _ (Blk.lt HX3.out) (by simp)).trans HX3.out)
  have HQ := Lib.hid (And.intro q1 (And.intro q2 q3))
  clear hg2 hr9 q1 q2 q3
  unfold cutC
  have d0 : wc.cell? ⟨w.heap.size, 0, none⟩ = some (.int .i64 0) := Blk.cell HXc.out 0
  have g0 : wc.frozen? ⟨w.heap.size, 0, none⟩ = false := Blk.free HXc.out 0
  have d1 : wc.cell? ⟨w.heap.size, 1, none⟩ = some (.int .i64 0) := Blk.cell HXc.out 1
  have g1 : wc.frozen? ⟨w.heap.size, 1, none⟩ = false := Blk.free HXc.out 1
  have d2 : wc.cell? ⟨w.heap.size, 2, none⟩ = some (.int .i64 0) := Blk.cell HXc.out 2
  have g2 : wc.frozen? ⟨w.heap.size, 2, none⟩ = false := Blk.free HXc.out 2
  have d3 : wc.cell? ⟨w.heap.size, 3, none⟩ = some (.bool false) := Blk.cell HXc.out 3
  have g3 : wc.frozen? ⟨w.heap.size, 3, none⟩ = false := Blk.free HXc.out 3
  have d4 : wc.cell? ⟨w.heap.size, 4, none⟩ = some (.bool false) := Blk.cell HXc.out 4
  have g4 : wc.frozen? ⟨w.heap.size, 4, none⟩ = false := Blk.free HXc.out 4
  have R1 := Lib.hid (show CutB (wc.setCell ⟨w.heap.size, 0, none⟩ (.int .i64 f)) w.heap.size f 0 0 false false from Blk.set HXc.out 0 _)
  have R2 := Lib.hid (show CutB ((wc.setCell ⟨w.heap.size, 0, none⟩ (.int .i64 f)).setCell ⟨w.heap.size, 1, none⟩ (.int .i64 t)) w.heap.size f t 0 false false from Blk.set R1.out 1 _)
  have R3 := Lib.hid (show CutB (((wc.setCell ⟨w.heap.size, 0, none⟩ (.int .i64 f)).setCell ⟨w.heap.size, 1, none⟩ (.int .i64 t)).setCell ⟨w.heap.size, 2, none⟩ (.int .i64 s)) w.heap.size f t s false false from Blk.set R2.out 2 _)
  have R4 := Lib.hid (show CutB ((((wc.setCell ⟨w.heap.size, 0, none⟩ (.int .i64 f)).setCell ⟨w.heap.size, 1, none⟩ (.int .i64 t)).setCell ⟨w.heap.size, 2, none⟩ (.int .i64 s)).setCell ⟨w.heap.size, 3, none⟩ (.bool hf)) w.heap.size f t s hf false from Blk.set R3.out 3 _)
  have R5 := Lib.hid (show CutB (((((wc.setCell ⟨w.heap.size, 0, none⟩ (.int .i64 f)).setCell ⟨w.heap.size, 1, none⟩ (.int .i64 t)).setCell ⟨w.heap.size, 2, none⟩ (.int .i64 s)).setCell ⟨w.heap.size, 3, none⟩ (.bool hf)).setCell ⟨w.heap.size, 4, none⟩ (.bool ht)) w.heap.size f t s hf ht from Blk.set R4.out 4 _)
  have HBs := Lib.hid (show Below w.heap.size w (((((wc.setCell ⟨w.heap.size, 0, none⟩ (.int .i64 f)).setCell ⟨w.heap.size, 1, none⟩ (.int .i64 t)).setCell ⟨w.heap.size, 2, none⟩ (.int .i64 s)).setCell ⟨w.heap.size, 3, none⟩ (.bool hf)).setCell ⟨w.heap.size, 4, none⟩ (.bool ht)) from (((((HBc.out.setCell (Nat.le_refl _) _).setCell (Nat.le_refl _) _).setCell (Nat.le_refl _) _).setCell (Nat.le_refl _) _).setCell (Nat.le_refl _) _))
  go_wp2_with fail
  refine bodyPost_ret (v := .tuple #[.int .i64 z, .agg (cutC f t s hf ht)]) ?_ rfl ⟨z, f, t, s, hf, ht, rfl, HZ.out, HQ.out.1, HQ.out.2.1, HQ.out.2.2, HBs.out⟩
  exact results_tmp_row rfl _ _ (.int .i64 z) w.heap.size 35 (cutC f t s hf ht) (0, 0) _ rfl rfl R5.out Try.underlying35 rfl (by kernel_rfl)
/-- What a slice selects of so many elements: in the program and in the model. -/
theorem range_in (n f t s : Int) (hf ht : Bool) (hok : okC f t s hf ht = true) (hn1 : 0 ≤ n) (hn2 : n ≤ 1000000) : ∃ A M : Int, (∀ w, Calls Try.prog 29 #[.int .i64 n, .agg (cutC f t s hf ht)] w fun e w' => e = .returned (.tuple #[.int .i64 A, .int .i64 M]) ∧ Below w.heap.size w w') ∧ (∀ w, Calls Try.prog 27 #[.int .i64 n, .agg (cutC f t s hf ht)] w fun e w' => e = .returned (.tuple #[.int .i64 A, .int .i64 M]) ∧ Below w.heap.size w w') ∧ 0 ≤ M ∧ M ≤ n ∧ -1 ≤ A ∧ A ≤ n ∧ (0 < M → 0 ≤ A ∧ A < n ∧ 0 ≤ A + (M - 1) * s ∧ A + (M - 1) * s < n) := by
  obtain ⟨h1, h2, h3, h0⟩ := okC_parts hok
  obtain ⟨i1, i2, i3⟩ := sel_in (n := n) (f := f) (t := t) (hf := hf) (ht := ht) hn1 h0
  have hA := cFrom_in (n := n) (f := f) (s := s) (hf := hf) hn1
  refine ⟨_, _, fun w => specRange_ok n f t s hf ht w hok hn1 hn2, fun w => implRange_ok n f t s hf ht w hok hn1 hn2, i1, i2, hA.1, hA.2, fun hM => ?_⟩
  have a0 := i3 0 (Int.le_refl _) hM
  have a1 := i3 (cntZ (cFrom n f s hf) (cTo n t s ht) s - 1) (by omega) (by omega)
  rw [Int.zero_mul, Int.add_zero] at a0
  exact ⟨a0.1, a0.2, a1.1, a1.2⟩
theorem range_no (n f t s : Int) (hf ht : Bool) (h : ¬ (okC f t s hf ht = true ∧ 0 ≤ n ∧ n ≤ 1000000)) : (∀ w, Calls Try.prog 29 #[.int .i64 n, .agg (cutC f t s hf ht)] w fun e w' => e = .returned (.tuple #[.int .i64 0, .int .i64 0]) ∧ Below w.heap.size w w') ∧ (∀ w, Calls Try.prog 27 #[.int .i64 n, .agg (cutC f t s hf ht)] w fun e w' => e = .returned (.tuple #[.int .i64 0, .int .i64 0]) ∧ Below w.heap.size w w') := by
  refine ⟨fun w => ?_, fun w => ?_⟩
  · cases hok : okC f t s hf ht with
    | false => exact specRange_no n f t s hf ht w hok
    | true => exact specRange_out n f t s hf ht w hok (fun hn => h ⟨hok, hn⟩)
  · by_cases h1 : n < 0
    · exact implRange_lo n f t s hf ht w h1
    · by_cases h2 : 1000000 < n
      · exact implRange_hi n f t s hf ht w h2
      · cases hok : okC f t s hf ht with
        | false => exact implRange_no n f t s hf ht w hok (by omega) (by omega)
        | true => exact absurd ⟨hok, by omega, by omega⟩ h
set_option maxHeartbeats 4000000 in
theorem fnCutOk_walk (a : Option Addr) (n cap : Nat) (zs : List Int) (w : World) (h : (a = none ∧ n = 0 ∧ cap = 0 ∧ zs = []) ∨ ∃ x, a = some x ∧ n ≤ cap ∧ cap ≤ maxLen ∧ zs.length = cap ∧ (∀ i, i < zs.length → w.cell? (x.add i) = some (.int .u8 (zs.getD i 0))) ∧ ∀ n ∈ zs, (Lit.int .u8 n).wf = true) :
    Calls Try.prog 6 #[.slice a n cap] w fun e w' => e = .returned (.bool true) ∧ Below w.heap.size w w' := by
  have HC := Lib.hid (dCutOk w a n cap (cr_of h))
  have hcap : n ≤ 9223372036854775807 := by
    rcases h with ⟨_, rfl, _⟩ | ⟨x, _, h1, h2, _⟩
    · omega
    · unfold maxLen at h2; omega
  clear h
  by_cases h0 : n ≤ 1048576
  · go_enter Try.func6, Try.ntmps6
    go_wp2_with fail
    refine HC.out.mono ?_
    rintro e w2 ⟨f, t, s, hf, ht, rfl, q1, q2, q3, hb2⟩
    unfold cutC
    have HX2 := Lib.hid (show Blk (w2.alloc (.cells #[.int .i64 f, .int .i64 t, .int .i64 s, .bool hf, .bool ht] 35)) w2.heap.size 35 #[.int .i64 f, .int .i64 t, .int .i64 s, .bool hf, .bool ht] from Blk.new _ _ _ rfl)
    have HBw2 := Lib.hid (show Below w.heap.size w (w2.alloc (.cells #[.int .i64 f, .int .i64 t, .int .i64 s, .bool hf, .bool ht] 35)) from hb2.alloc hb2.size _)
    clear hb2
    go_wp2_with fail
    have H1 := Lib.hid (fun w => cutOk_any f t s hf ht w)
    have H2 := Lib.hid (fun w => specCutOk_any f t s hf ht w)
    unfold cutC at H1 H2
    cases hok : okC f t s hf ht with
    | false =>
      rw [hok] at H1 H2
      clear hok
      refine (H1.out _).mono ?_
      rintro e w3 ⟨rfl, hb⟩
      have HX3 := Lib.hid (HX2.out.below hb HX2.out.lt)
      have HBw3 := Lib.hid (HBw2.out.trans (hb.mono HBw2.out.size))
      clear hb
      have c0 : w3.cell? ⟨w2.heap.size, 0, none⟩ = some (.int .i64 f) := HX3.out.cell 0
      have c1 : w3.cell? ⟨w2.heap.size, 1, none⟩ = some (.int .i64 t) := HX3.out.cell 1
      have c2 : w3.cell? ⟨w2.heap.size, 2, none⟩ = some (.int .i64 s) := HX3.out.cell 2
      have c3 : w3.cell? ⟨w2.heap.size, 3, none⟩ = some (.bool hf) := HX3.out.cell 3
      have c4 : w3.cell? ⟨w2.heap.size, 4, none⟩ = some (.bool ht) := HX3.out.cell 4
      go_wp2_with fail
      clear c0 c1 c2 c3 c4
      refine (H2.out _).mono ?_
      rintro e w4 ⟨rfl, hb⟩
      have HX4 := Lib.hid (HX3.out.below hb HX3.out.lt)
      have HBw4 := Lib.hid (HBw3.out.trans (hb.mono HBw3.out.size))
      clear hb
      go_wp2_with fail
      go_ret
      exact ⟨rfl, HBw4.out⟩
    | true =>
      obtain ⟨A, M, _, h3, m1, m2, m3, m4, m5⟩ := range_in 12 f t s hf ht hok (by decide) (by decide)
      have H3 := Lib.hid h3
      unfold cutC at H3
      rw [hok] at H1 H2
      clear hok h3
      by_cases hM : M = 0
      · subst hM
        clear m5
        refine (H1.out _).mono ?_
        rintro e w3 ⟨rfl, hb⟩
        have HX3 := Lib.hid (HX2.out.below hb HX2.out.lt)
        have HBw3 := Lib.hid (HBw2.out.trans (hb.mono HBw2.out.size))
        clear hb
        have c0 : w3.cell? ⟨w2.heap.size, 0, none⟩ = some (.int .i64 f) := HX3.out.cell 0
        have c1 : w3.cell? ⟨w2.heap.size, 1, none⟩ = some (.int .i64 t) := HX3.out.cell 1
        have c2 : w3.cell? ⟨w2.heap.size, 2, none⟩ = some (.int .i64 s) := HX3.out.cell 2
        have c3 : w3.cell? ⟨w2.heap.size, 3, none⟩ = some (.bool hf) := HX3.out.cell 3
        have c4 : w3.cell? ⟨w2.heap.size, 4, none⟩ = some (.bool ht) := HX3.out.cell 4
        go_wp2_with fail
        clear c0 c1 c2 c3 c4
        refine (H2.out _).mono ?_
        rintro e w4 ⟨rfl, hb⟩
        have HX4 := Lib.hid (HX3.out.below hb HX3.out.lt)
        have HBw4 := Lib.hid (HBw3.out.trans (hb.mono HBw3.out.size))
        clear hb
        have c0 : w4.cell? ⟨w2.heap.size, 0, none⟩ = some (.int .i64 f) := HX4.out.cell 0
        have c1 : w4.cell? ⟨w2.heap.size, 1, none⟩ = some (.int .i64 t) := HX4.out.cell 1
        have c2 : w4.cell? ⟨w2.heap.size, 2, none⟩ = some (.int .i64 s) := HX4.out.cell 2
        have c3 : w4.cell? ⟨w2.heap.size, 3, none⟩ = some (.bool hf) := HX4.out.cell 3
        have c4 : w4.cell? ⟨w2.heap.size, 4, none⟩ = some (.bool ht) := HX4.out.cell 4
        go_wp2_with fail
        clear c0 c1 c2 c3 c4
        refine (H3.out _).mono ?_
        rintro e w5 ⟨rfl, hb⟩
        have HX5 := Lib.hid (HX4.out.below hb HX4.out.lt)
        have HBw5 := Lib.hid (HBw4.out.trans (hb.mono HBw4.out.size))
        clear hb
        go_wp2_with (first | (refine ext rfl (.tmp 28) 0 [.int .i64 A, .int .i64 0] (.int .i64 A) rfl rfl rfl ?_) | (refine ext rfl (.tmp 28) 1 [.int .i64 A, .int .i64 0] (.int .i64 0) rfl rfl rfl ?_))
        go_ret
        exact ⟨rfl, HBw5.out⟩
      · obtain ⟨a1, a2, _, _⟩ := m5 (by omega)
        have hM0 : (M == 0) = false := beq_eq_false_iff_ne.2 hM
        clear m5 hM
        refine (H1.out _).mono ?_
        rintro e w3 ⟨rfl, hb⟩
        have HX3 := Lib.hid (HX2.out.below hb HX2.out.lt)
        have HBw3 := Lib.hid (HBw2.out.trans (hb.mono HBw2.out.size))
        clear hb
        have c0 : w3.cell? ⟨w2.heap.size, 0, none⟩ = some (.int .i64 f) := HX3.out.cell 0
        have c1 : w3.cell? ⟨w2.heap.size, 1, none⟩ = some (.int .i64 t) := HX3.out.cell 1
        have c2 : w3.cell? ⟨w2.heap.size, 2, none⟩ = some (.int .i64 s) := HX3.out.cell 2
        have c3 : w3.cell? ⟨w2.heap.size, 3, none⟩ = some (.bool hf) := HX3.out.cell 3
        have c4 : w3.cell? ⟨w2.heap.size, 4, none⟩ = some (.bool ht) := HX3.out.cell 4
        go_wp2_with fail
        clear c0 c1 c2 c3 c4
        refine (H2.out _).mono ?_
        rintro e w4 ⟨rfl, hb⟩
        have HX4 := Lib.hid (HX3.out.below hb HX3.out.lt)
        have HBw4 := Lib.hid (HBw3.out.trans (hb.mono HBw3.out.size))
        clear hb
        have c0 : w4.cell? ⟨w2.heap.size, 0, none⟩ = some (.int .i64 f) := HX4.out.cell 0
        have c1 : w4.cell? ⟨w2.heap.size, 1, none⟩ = some (.int .i64 t) := HX4.out.cell 1
        have c2 : w4.cell? ⟨w2.heap.size, 2, none⟩ = some (.int .i64 s) := HX4.out.cell 2
        have c3 : w4.cell? ⟨w2.heap.size, 3, none⟩ = some (.bool hf) := HX4.out.cell 3
        have c4 : w4.cell? ⟨w2.heap.size, 4, none⟩ = some (.bool ht) := HX4.out.cell 4
        go_wp2_with fail
        clear c0 c1 c2 c3 c4
        refine (H3.out _).mono ?_
        rintro e w5 ⟨rfl, hb⟩
        have HX5 := Lib.hid (HX4.out.below hb HX4.out.lt)
        have HBw5 := Lib.hid (HBw4.out.trans (hb.mono HBw4.out.size))
        clear hb
        go_wp2_with (first | (refine ext rfl (.tmp 28) 0 [.int .i64 A, .int .i64 M] (.int .i64 A) rfl rfl rfl ?_) | (refine ext rfl (.tmp 28) 1 [.int .i64 A, .int .i64 M] (.int .i64 M) rfl rfl rfl ?_))
        go_ret
        exact ⟨rfl, HBw5.out⟩
  · go_enter Try.func6, Try.ntmps6
    go_wp2_with fail
    go_ret
    exact ⟨rfl, Below.refl _ _⟩
set_option maxHeartbeats 4000000 in
theorem fnCutRange_walk (a : Option Addr) (n cap : Nat) (zs : List Int) (w : World) (h : (a = none ∧ n = 0 ∧ cap = 0 ∧ zs = []) ∨ ∃ x, a = some x ∧ n ≤ cap ∧ cap ≤ maxLen ∧ zs.length = cap ∧ (∀ i, i < zs.length → w.cell? (x.add i) = some (.int .u8 (zs.getD i 0))) ∧ ∀ n ∈ zs, (Lit.int .u8 n).wf = true) :
    Calls Try.prog 7 #[.slice a n cap] w fun e w' => e = .returned (.bool true) ∧ Below w.heap.size w w' := by
  have HC := Lib.hid (dCutRange w a n cap (cr_of h))
  have hcap : n ≤ 9223372036854775807 := by
    rcases h with ⟨_, rfl, _⟩ | ⟨x, _, h1, h2, _⟩
    · omega
    · unfold maxLen at h2; omega
  clear h
  by_cases h0 : n ≤ 1048576
  · go_enter Try.func7, Try.ntmps7
    go_wp2_with fail
    refine HC.out.mono ?_
    rintro e w2 ⟨n, f, t, s, hf, ht, rfl, q0, q1, q2, q3, hb2⟩
    unfold Fit at q0 q3
    obtain ⟨q01, q02⟩ := q0
    unfold cutC
    have HX2 := Lib.hid (show Blk (w2.alloc (.cells #[.int .i64 f, .int .i64 t, .int .i64 s, .bool hf, .bool ht] 35)) w2.heap.size 35 #[.int .i64 f, .int .i64 t, .int .i64 s, .bool hf, .bool ht] from Blk.new _ _ _ rfl)
    have HBw2 := Lib.hid (show Below w.heap.size w (w2.alloc (.cells #[.int .i64 f, .int .i64 t, .int .i64 s, .bool hf, .bool ht] 35)) from hb2.alloc hb2.size _)
    clear hb2
    go_wp2_with (first | (refine ext rfl (.tmp 14) 0 [.int .i64 n, .agg #[.int .i64 f, .int .i64 t, .int .i64 s, .bool hf, .bool ht]] (.int .i64 n) rfl rfl rfl ?_) | (refine ext rfl (.tmp 14) 1 [.int .i64 n, .agg #[.int .i64 f, .int .i64 t, .int .i64 s, .bool hf, .bool ht]] (.agg #[.int .i64 f, .int .i64 t, .int .i64 s, .bool hf, .bool ht]) rfl rfl rfl ?_))
    by_cases hr : okC f t s hf ht = true ∧ 0 ≤ n ∧ n ≤ 1000000
    · obtain ⟨hok, hn1, hn2⟩ := hr
      obtain ⟨A, M, h2, h1, m1, m2, m3, m4, m5⟩ := range_in n f t s hf ht hok hn1 hn2
      have H1 := Lib.hid h1
      have H2 := Lib.hid h2
      unfold cutC at H1 H2
      clear hok h1 h2
      by_cases hM : M = 0
      · subst hM
        clear m5
        refine (H1.out _).mono ?_
        rintro e w3 ⟨rfl, hb⟩
        have HX3 := Lib.hid (HX2.out.below hb HX2.out.lt)
        have HBw3 := Lib.hid (HBw2.out.trans (hb.mono HBw2.out.size))
        clear hb
        have c0 : w3.cell? ⟨w2.heap.size, 0, none⟩ = some (.int .i64 f) := HX3.out.cell 0
        have c1 : w3.cell? ⟨w2.heap.size, 1, none⟩ = some (.int .i64 t) := HX3.out.cell 1
        have c2 : w3.cell? ⟨w2.heap.size, 2, none⟩ = some (.int .i64 s) := HX3.out.cell 2
        have c3 : w3.cell? ⟨w2.heap.size, 3, none⟩ = some (.bool hf) := HX3.out.cell 3
        have c4 : w3.cell? ⟨w2.heap.size, 4, none⟩ = some (.bool ht) := HX3.out.cell 4
        go_wp2_with (first | (refine ext rfl (.tmp 19) 0 [.int .i64 A, .int .i64 0] (.int .i64 A) rfl rfl rfl ?_) | (refine ext rfl (.tmp 19) 1 [.int .i64 A, .int .i64 0] (.int .i64 0) rfl rfl rfl ?_))
        clear c0 c1 c2 c3 c4
        refine (H2.out _).mono ?_
        rintro e w4 ⟨rfl, hb⟩
        have HX4 := Lib.hid (HX3.out.below hb HX3.out.lt)
        have HBw4 := Lib.hid (HBw3.out.trans (hb.mono HBw3.out.size))
        clear hb
        go_wp2_with (first | (refine ext rfl (.tmp 25) 0 [.int .i64 A, .int .i64 0] (.int .i64 A) rfl rfl rfl ?_) | (refine ext rfl (.tmp 25) 1 [.int .i64 A, .int .i64 0] (.int .i64 0) rfl rfl rfl ?_))
        go_ret
        exact ⟨rfl, HBw4.out⟩
      · obtain ⟨a1, a2, a3, a4⟩ := m5 (by omega)
        have hM0 : (M == 0) = false := beq_eq_false_iff_ne.2 hM
        clear m5 hM
        refine (H1.out _).mono ?_
        rintro e w3 ⟨rfl, hb⟩
        have HX3 := Lib.hid (HX2.out.below hb HX2.out.lt)
        have HBw3 := Lib.hid (HBw2.out.trans (hb.mono HBw2.out.size))
        clear hb
        have c0 : w3.cell? ⟨w2.heap.size, 0, none⟩ = some (.int .i64 f) := HX3.out.cell 0
        have c1 : w3.cell? ⟨w2.heap.size, 1, none⟩ = some (.int .i64 t) := HX3.out.cell 1
        have c2 : w3.cell? ⟨w2.heap.size, 2, none⟩ = some (.int .i64 s) := HX3.out.cell 2
        have c3 : w3.cell? ⟨w2.heap.size, 3, none⟩ = some (.bool hf) := HX3.out.cell 3
        have c4 : w3.cell? ⟨w2.heap.size, 4, none⟩ = some (.bool ht) := HX3.out.cell 4
        go_wp2_with (first | (refine ext rfl (.tmp 19) 0 [.int .i64 A, .int .i64 M] (.int .i64 A) rfl rfl rfl ?_) | (refine ext rfl (.tmp 19) 1 [.int .i64 A, .int .i64 M] (.int .i64 M) rfl rfl rfl ?_))
        clear c0 c1 c2 c3 c4
        refine (H2.out _).mono ?_
        rintro e w4 ⟨rfl, hb⟩
        have HX4 := Lib.hid (HX3.out.below hb HX3.out.lt)
        have HBw4 := Lib.hid (HBw3.out.trans (hb.mono HBw3.out.size))
        clear hb
        have c0 : w4.cell? ⟨w2.heap.size, 0, none⟩ = some (.int .i64 f) := HX4.out.cell 0
        have c1 : w4.cell? ⟨w2.heap.size, 1, none⟩ = some (.int .i64 t) := HX4.out.cell 1
        have c2 : w4.cell? ⟨w2.heap.size, 2, none⟩ = some (.int .i64 s) := HX4.out.cell 2
        have c3 : w4.cell? ⟨w2.heap.size, 3, none⟩ = some (.bool hf) := HX4.out.cell 3
        have c4 : w4.cell? ⟨w2.heap.size, 4, none⟩ = some (.bool ht) := HX4.out.cell 4
        go_wp2_with (first | (refine ext rfl (.tmp 25) 0 [.int .i64 A, .int .i64 M] (.int .i64 A) rfl rfl rfl ?_) | (refine ext rfl (.tmp 25) 1 [.int .i64 A, .int .i64 M] (.int .i64 M) rfl rfl rfl ?_))
        go_ret
        exact ⟨rfl, HBw4.out⟩
    · obtain ⟨h2, h1⟩ := range_no n f t s hf ht hr
      have H1 := Lib.hid h1
      have H2 := Lib.hid h2
      unfold cutC at H1 H2
      clear h1 h2 hr
      refine (H1.out _).mono ?_
      rintro e w3 ⟨rfl, hb⟩
      have HX3 := Lib.hid (HX2.out.below hb HX2.out.lt)
      have HBw3 := Lib.hid (HBw2.out.trans (hb.mono HBw2.out.size))
      clear hb
      have c0 : w3.cell? ⟨w2.heap.size, 0, none⟩ = some (.int .i64 f) := HX3.out.cell 0
      have c1 : w3.cell? ⟨w2.heap.size, 1, none⟩ = some (.int .i64 t) := HX3.out.cell 1
      have c2 : w3.cell? ⟨w2.heap.size, 2, none⟩ = some (.int .i64 s) := HX3.out.cell 2
      have c3 : w3.cell? ⟨w2.heap.size, 3, none⟩ = some (.bool hf) := HX3.out.cell 3
      have c4 : w3.cell? ⟨w2.heap.size, 4, none⟩ = some (.bool ht) := HX3.out.cell 4
      go_wp2_with (first | (refine ext rfl (.tmp 19) 0 [.int .i64 0, .int .i64 0] (.int .i64 0) rfl rfl rfl ?_) | (refine ext rfl (.tmp 19) 1 [.int .i64 0, .int .i64 0] (.int .i64 0) rfl rfl rfl ?_))
      clear c0 c1 c2 c3 c4
      refine (H2.out _).mono ?_
      rintro e w4 ⟨rfl, hb⟩
      have HX4 := Lib.hid (HX3.out.below hb HX3.out.lt)
      have HBw4 := Lib.hid (HBw3.out.trans (hb.mono HBw3.out.size))
      clear hb
      go_wp2_with (first | (refine ext rfl (.tmp 25) 0 [.int .i64 0, .int .i64 0] (.int .i64 0) rfl rfl rfl ?_) | (refine ext rfl (.tmp 25) 1 [.int .i64 0, .int .i64 0] (.int .i64 0) rfl rfl rfl ?_))
      go_ret
      exact ⟨rfl, HBw4.out⟩
  · go_enter Try.func7, Try.ntmps7
    go_wp2_with fail
    go_ret
    exact ⟨rfl, Below.refl _ _⟩
end Go.Proofs.Ytfmpplolhhjpoaa
