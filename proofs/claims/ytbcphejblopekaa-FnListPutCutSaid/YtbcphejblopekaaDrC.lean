/- A slice is drawn. -/
import Derived.Test.YtbcphejblopekaaDrT
import Derived.Test.YtbcphejblopekaaCutA
import Derived.Deep.DeepCutAuto
namespace Go.Proofs.Ytbcphejblopekaa
open Go.RowKit
/-- A number that a machine's integer holds. -/
def Fit (z : Int) : Prop := -9223372036854775808 ≤ z ∧ z ≤ 9223372036854775807
/-- A block of a struct of five parts. -/
def CutB (w : World) (b : Nat) (f t s : Int) (hf ht : Bool) : Prop := Blk w b 32 (cutC f t s hf ht)
/-- While a slice is drawn: the drawer, the result's block, the slice's own. -/
def CuI (w : World) (g : Nat) (a : Option Addr) (n cap k j b : Nat) (w' : World) : Prop := DrP w g a n cap k j w' ∧ w.heap.size < b ∧ CutB w' w.heap.size 0 0 0 false false ∧ ∃ (f t s : Int) (hf ht : Bool), Fit f ∧ Fit t ∧ Fit s ∧ CutB w' b f t s hf ht
theorem ri_setOff {w0 w : World} {g n cap k0 k b i : Nat} {a : Option Addr} {v : Value} (h0 : RI w0 g a n cap k0) (h : RI w g a n cap k) (hb : w0.heap.size ≤ b) : RI (w.setCell ⟨b, i, none⟩ v) g a n cap k := by
  have hg := h0.1.lt
  refine ⟨h.1.setOff (by omega), h.2.1, h.2.2.1, ?_⟩
  rcases h.2.2.2 with h4 | ⟨x, hx, hxg, hr⟩
  · exact Or.inl h4
  · refine Or.inr ⟨x, hx, hxg, fun j hj => ?_⟩
    obtain ⟨c, hc, hcell⟩ := hr j hj
    refine ⟨c, hc, ?_⟩
    have hlt : x.block < w0.heap.size := by
      rcases h0.2.2.2 with h5 | ⟨y, hy, _, hr0⟩
      · omega
      · rw [hx] at hy
        injection hy with hy
        subst hy
        obtain ⟨_, _, hc0⟩ := hr0 j hj
        have := World.block_lt_of_cell? w0 _ hc0
        have hb' : (x.add j).block = x.block := by unfold Addr.add; split <;> rfl
        omega
    have hb' : (x.add j).block = x.block := by unfold Addr.add; split <;> rfl
    rw [World.cell?_of_block (w := w) (show (w.setCell ⟨b, i, none⟩ v).heap[(x.add j).block]? = w.heap[(x.add j).block]? from heap_setCell_other _ ⟨b, i, none⟩ _ _ (by show _ ≠ b; omega))]
    exact hcell
theorem grown_setOff {w0 w : World} {g b i : Nat} {v : Value} (h : w0.grownBy w (some g)) (hb : w0.heap.size ≤ b) : w0.grownBy (w.setCell ⟨b, i, none⟩ v) (some g) :=
  ⟨h.os, h.tape, h.output, by simpa using h.size, fun j hj hne => (heap_setCell_other _ ⟨b, i, none⟩ j _ (by show j ≠ b; omega)).trans (h.block j hj hne)⟩
theorem CutB.set {w : World} {b : Nat} {f t s : Int} {hf ht : Bool} (h : CutB w b f t s hf ht) : (∀ z, CutB (w.setCell ⟨b, 0, none⟩ (.int .i64 z)) b z t s hf ht) ∧ (∀ z, CutB (w.setCell ⟨b, 1, none⟩ (.int .i64 z)) b f z s hf ht) ∧ CutB (w.setCell ⟨b, 3, none⟩ (.bool true)) b f t s true ht ∧ CutB (w.setCell ⟨b, 4, none⟩ (.bool true)) b f t s hf true :=
  ⟨fun z => Blk.set h 0 (.int .i64 z), fun z => Blk.set h 1 (.int .i64 z), Blk.set h 3 (.bool true), Blk.set h 4 (.bool true)⟩
theorem DrP.setOff {w w1 : World} {g n cap k j b i : Nat} {a : Option Addr} {v : Value} (h0 : RI w g a n cap k) (h : DrP w g a n cap k j w1) (hb : w.heap.size ≤ b) : DrP w g a n cap k j (w1.setCell ⟨b, i, none⟩ v) := by
  obtain ⟨hg, k', hk, hr⟩ := h
  exact ⟨grown_setOff hg hb, k', hk, ri_setOff h0 hr hb⟩
/-- A call of the drawer. -/
theorem CuI.call {w w1 w2 : World} {g n cap k j j2 b k1 : Nat} {a : Option Addr} (h0 : RI w g a n cap k) (h : CuI w g a n cap k j b w1) (hk : k1 ≤ k + j) (hd : DrP w1 g a n cap k1 j2 w2) : CuI w g a n cap k (j + j2) b w2 := by
  obtain ⟨h1, h2, h3, f, t, s, hf, ht, q1, q2, q3, h4⟩ := h
  have hlt := h0.1.lt
  have e3 : w2.heap[w.heap.size]? = w1.heap[w.heap.size]? := hd.1.block _ (Blk.lt h3) (by simp; omega)
  have e4 : w2.heap[b]? = w1.heap[b]? := hd.1.block _ (Blk.lt h4) (by simp; omega)
  exact ⟨DrP.then h1.1 hk hd, h2, e3.trans h3, f, t, s, hf, ht, q1, q2, q3, e4.trans h4⟩
theorem CuI.up {w w1 : World} {g n cap k j j2 b : Nat} {a : Option Addr} (h : CuI w g a n cap k j b w1) (hj : j ≤ j2) : CuI w g a n cap k j2 b w1 := ⟨h.1.more hj, h.2⟩
/-- A part is set. -/
theorem CuI.put {w w1 : World} {g n cap k j b : Nat} {a : Option Addr} (h0 : RI w g a n cap k) (h : CuI w g a n cap k j b w1) : (∀ z, Fit z → CuI w g a n cap k j b (w1.setCell ⟨b, 0, none⟩ (.int .i64 z))) ∧ (∀ z, Fit z → CuI w g a n cap k j b (w1.setCell ⟨b, 1, none⟩ (.int .i64 z))) ∧ CuI w g a n cap k j b (w1.setCell ⟨b, 3, none⟩ (.bool true)) ∧ CuI w g a n cap k j b (w1.setCell ⟨b, 4, none⟩ (.bool true)) := by
  obtain ⟨h1, h2, h3, f, t, s, hf, ht, q1, q2, q3, h4⟩ := h
  obtain ⟨c0, c1, c3, c4⟩ := h4.set
  refine ⟨fun z hz => ⟨h1.setOff h0 (by omega), h2, Blk.setOff h3 (by omega), z, t, s, hf, ht, hz, q2, q3, c0 z⟩, fun z hz => ⟨h1.setOff h0 (by omega), h2, Blk.setOff h3 (by omega), f, z, s, hf, ht, q1, hz, q3, c1 z⟩, ⟨h1.setOff h0 (by omega), h2, Blk.setOff h3 (by omega), f, t, s, true, ht, q1, q2, q3, c3⟩, ⟨h1.setOff h0 (by omega), h2, Blk.setOff h3 (by omega), f, t, s, hf, true, q1, q2, q3, c4⟩⟩
/-- Its cells. -/
theorem CuI.cells {w w1 : World} {g n cap k j b : Nat} {a : Option Addr} (h : CuI w g a n cap k j b w1) : ∃ (f t s : Int) (hf ht : Bool), (w1.cell? ⟨b, 0, none⟩ = some (.int .i64 f) ∧ w1.cell? ⟨b, 1, none⟩ = some (.int .i64 t) ∧ w1.cell? ⟨b, 3, none⟩ = some (.bool hf) ∧ w1.cell? ⟨b, 4, none⟩ = some (.bool ht)) ∧ (w1.frozen? ⟨b, 0, none⟩ = false ∧ w1.frozen? ⟨b, 1, none⟩ = false ∧ w1.frozen? ⟨b, 3, none⟩ = false ∧ w1.frozen? ⟨b, 4, none⟩ = false) ∧ w1.cell? ⟨b, 2, none⟩ = some (.int .i64 s) := by
  obtain ⟨h1, h2, h3, f, t, s, hf, ht, q1, q2, q3, h4⟩ := h
  exact ⟨f, t, s, hf, ht, ⟨Blk.cell h4 0, Blk.cell h4 1, Blk.cell h4 3, Blk.cell h4 4⟩, ⟨Blk.free h4 0, Blk.free h4 1, Blk.free h4 3, Blk.free h4 4⟩, Blk.cell h4 2⟩
theorem CuI.pick {w w1 : World} {g n cap k j b : Nat} {a : Option Addr} (h0 : RI w g a n cap k) (h : CuI w g a n cap k j b w1) (hk : k + j ≤ 90000) (m : Int) (hm : m ≤ 100000) : Calls Try.prog 54 #[.pointer (some ⟨g, 0, none⟩), .int .i64 m] w1 fun e w' => (∃ r : Nat, e = .returned (.int .i64 (r : Int)) ∧ ((r : Int) < m ∨ r = 0)) ∧ CuI w g a n cap k (j + 1) b w' := by
  obtain ⟨hg, k1, hk1, hr1⟩ := h.1
  refine (pick_any w1 g a n cap k1 m hr1 (by omega) hm).mono ?_
  rintro e w' ⟨r, he, hr, hgr, hk'⟩
  exact ⟨⟨r, he, hr⟩, h.call h0 hk1 (pk_dr hgr hk')⟩
theorem CuI.often {w w1 : World} {g n cap k j b : Nat} {a : Option Addr} (h0 : RI w g a n cap k) (h : CuI w g a n cap k j b w1) (hk : k + j ≤ 80000) (z : Int) (hz : Fit z) : Calls Try.prog 53 #[.pointer (some ⟨g, 0, none⟩), .int .i64 z] w1 fun e w' => (∃ r : Int, e = .returned (.int .i64 r) ∧ Fit r) ∧ CuI w g a n cap k (j + 2) b w' := by
  obtain ⟨hg, k1, hk1, hr1⟩ := h.1
  refine (often_draw w1 g n cap k1 a z hr1 (by omega) hz.1 hz.2).mono ?_
  rintro e w' ⟨⟨r, he, hr⟩, hd⟩
  exact ⟨⟨r, he, hr⟩, h.call h0 hk1 hd⟩
/-- A slice. -/
def CuP (w : World) (g : Nat) (a : Option Addr) (n cap k : Nat) (e : Ending) (w' : World) : Prop := ∃ (f t s : Int) (hf ht : Bool), e = .returned (.agg (cutC f t s hf ht)) ∧ Fit f ∧ Fit t ∧ Fit s ∧ DrP w g a n cap k 30 w'
set_option maxHeartbeats 4000000 in
set_option maxRecDepth 100000 in
theorem cut_draw (w : World) (g n cap k : Nat) (a : Option Addr) (h : RI w g a n cap k) (hk : k ≤ 50000) :
    Calls Try.prog 58 #[.pointer (some ⟨g, 0, none⟩)] w (CuP w g a n cap k) := by
  have H0 := Lib.hid h
  have HB0 := Lib.hid (show Below w.heap.size w (w.alloc (.cells #[.int .i64 0, .int .i64 0, .int .i64 0, .bool false, .bool false] 32)) from (Below.refl _ _).alloc (Nat.le_refl _) _)
  have HX0 := Lib.hid (show CutB (w.alloc (.cells #[.int .i64 0, .int .i64 0, .int .i64 0, .bool false, .bool false] 32)) w.heap.size 0 0 0 false false from Blk.new _ _ _ rfl)
  have hg := h.1.lt
  clear h
  go_enter Try.func58, Try.ntmps58
  go_wp2_with fail
  refine (often_draw _ g n cap k a 1 (ri_below H0.out HB0.out) (by omega) (by decide) (by decide)).mono ?_
  rintro e w1 ⟨⟨z, rfl, hz⟩, hD⟩
  have HD1 := Lib.hid (DrP.then (k := k) (j := 0) (grown_below HB0.out) (by omega) hD)
  have HX1 := Lib.hid (show CutB w1 w.heap.size 0 0 0 false false from (hD.1.block _ (Blk.lt HX0.out) (by simp; omega)).trans HX0.out)
  have HZ := Lib.hid hz
  clear hz hD
  obtain ⟨hg1, k1, hk1, hR1⟩ := HD1.out
  have HG1 := Lib.hid hg1
  have HR1 := Lib.hid hR1
  clear hg1 hR1
  go_wp2_with fail
  refine (one_litZ [1, 1, 1, -1, 2, -2, 3, -3, 7, z, 0] HR1.out (by omega) (by simp) (by simp)).mono ?_
  rintro e w2 ⟨⟨d, hd, rfl⟩, hD⟩
  have HF := Lib.hid (show Fit d by
    have hz := HZ.out
    simp at hd
    unfold Fit
    omega)
  have HD2 := Lib.hid (DrP.then HG1.out hk1 hD)
  have HX2 := Lib.hid (show CutB w2 w.heap.size 0 0 0 false false from (hD.1.block _ (Blk.lt HX1.out) (by simp; omega)).trans HX1.out)
  clear hd hD
  have HI3 := Lib.hid (show CuI w g a n cap k 3 w2.heap.size (w2.alloc (.cells #[.int .i64 0, .int .i64 0, .int .i64 d, .bool false, .bool false] 32)) from ⟨(HD2.out.below ((Below.refl _ _).alloc (Nat.le_refl _) _)).more (by omega), Blk.lt HX2.out, Blk.alloc HX2.out _, 0, 0, d, false, false, by unfold Fit; omega, by unfold Fit; omega, HF.out, Blk.new _ _ _ rfl⟩)
  have hb2 : w.heap.size < w2.heap.size := Blk.lt HX2.out
  go_wp2_with fail
  refine (CuI.pick H0.out HI3.out (by omega) 4 (by decide)).mono ?_
  rintro e w4 ⟨⟨r, rfl, hr⟩, hI⟩
  have HI4 := Lib.hid hI
  clear hI hr HX2 HX1 HX0 HD1 HD2 HB0 HG1 HR1 HI3
  go_upto_if 12 with (fail)
  go_cut [3] (fun s3 wx => s3 = .pointer (some ⟨w2.heap.size, 0, none⟩) ∧ Hid (CuI w g a n cap k 10 w2.heap.size wx))
  case first =>
    by_cases h0 : 0 < r
    · obtain ⟨f, t, s, hf, ht, ⟨c0, c1, c3, c4⟩, ⟨f0, f1, f3, f4⟩, _⟩ := HI4.out.cells
      have HJ1 := Lib.hid (HI4.out.put H0.out).2.2.1
      go_wp2_with fail
      clear c0 c1 c3 c4 f0 f1 f3 f4
      refine (CuI.pick H0.out HJ1.out (by omega) 16 (by decide)).mono ?_
      rintro e wj ⟨⟨p, rfl, hp⟩, hJ⟩
      have HJ2 := Lib.hid hJ
      have hp16 : p ≤ 16 := by omega
      clear hJ hp
      go_wp2_with fail
      refine (CuI.often H0.out HJ2.out (by omega) ((p : Int) - 8) (by unfold Fit; omega)).mono ?_
      rintro e wl ⟨⟨q, rfl, hq⟩, hJ⟩
      have HJ3 := Lib.hid hJ
      have HQ := Lib.hid hq
      clear hJ hq
      obtain ⟨f, t, s, hf, ht, ⟨c0, c1, c3, c4⟩, ⟨f0, f1, f3, f4⟩, _⟩ := HJ3.out.cells
      have HJ4 := Lib.hid (show CuI w g a n cap k 10 w2.heap.size _ from ((HJ3.out.put H0.out).1 q HQ.out).up (by omega))
      go_wp2_with fail
      go_meet
      exact ⟨rfl, HJ4⟩
    · have HJ4 := Lib.hid (show CuI w g a n cap k 10 w2.heap.size _ from HI4.out.up (by omega))
      go_wp2_with fail
      go_meet
      exact ⟨rfl, HJ4⟩
  case rest =>
    obtain ⟨rfl, HI5⟩ := hcut
    clear HI4
    go_wp2_with fail
    refine (CuI.pick H0.out HI5.out (by omega) 4 (by decide)).mono ?_
    rintro e w6 ⟨⟨r, rfl, _⟩, hI⟩
    have HI6 := Lib.hid hI
    clear hI HI5
    go_upto_if 22 with (fail)
    go_cut [3] (fun s3 wx => s3 = .pointer (some ⟨w2.heap.size, 0, none⟩) ∧ Hid (CuI w g a n cap k 20 w2.heap.size wx))
    case first =>
      by_cases h0 : 0 < r
      · obtain ⟨f, t, s, hf, ht, ⟨c0, c1, c3, c4⟩, ⟨f0, f1, f3, f4⟩, _⟩ := HI6.out.cells
        have HJ1 := Lib.hid (HI6.out.put H0.out).2.2.2
        go_wp2_with fail
        clear c0 c1 c3 c4 f0 f1 f3 f4
        refine (CuI.pick H0.out HJ1.out (by omega) 16 (by decide)).mono ?_
        rintro e wj ⟨⟨p, rfl, hp⟩, hJ⟩
        have HJ2 := Lib.hid hJ
        have hp16 : p ≤ 16 := by omega
        clear hJ hp
        go_wp2_with fail
        refine (CuI.often H0.out HJ2.out (by omega) ((p : Int) - 8) (by unfold Fit; omega)).mono ?_
        rintro e wl ⟨⟨q, rfl, hq⟩, hJ⟩
        have HJ3 := Lib.hid hJ
        have HQ := Lib.hid hq
        clear hJ hq
        obtain ⟨f, t, s, hf, ht, ⟨c0, c1, c3, c4⟩, ⟨f0, f1, f3, f4⟩, _⟩ := HJ3.out.cells
        have HJ4 := Lib.hid (show CuI w g a n cap k 20 w2.heap.size _ from ((HJ3.out.put H0.out).2.1 q HQ.out).up (by omega))
        go_wp2_with fail
        go_meet
        exact ⟨rfl, HJ4⟩
      · have HJ4 := Lib.hid (show CuI w g a n cap k 20 w2.heap.size _ from HI6.out.up (by omega))
        go_wp2_with fail
        go_meet
        exact ⟨rfl, HJ4⟩
    case rest =>
      obtain ⟨rfl, HI7⟩ := hcut
      clear HI6
      go_wp2_with fail
      refine (CuI.pick H0.out HI7.out (by omega) 30 (by decide)).mono ?_
      rintro e w8 ⟨⟨r, rfl, _⟩, hI⟩
      have HI8 := Lib.hid hI
      clear hI HI7
      go_upto_if 32 with (fail)
      go_cut [3] (fun s3 wx => s3 = .pointer (some ⟨w2.heap.size, 0, none⟩) ∧ Hid (CuI w g a n cap k 30 w2.heap.size wx))
      case first =>
        by_cases h0 : r = 0
        · subst h0
          obtain ⟨f, t, s, hf, ht, ⟨c0, c1, c3, c4⟩, ⟨f0, f1, f3, f4⟩, _⟩ := HI8.out.cells
          have HJ1 := Lib.hid (show CuI w g a n cap k 30 w2.heap.size _ from ((HI8.out.put H0.out).1 1 (by unfold Fit; omega)).up (by omega))
          go_wp2_with fail
          go_meet
          exact ⟨rfl, HJ1⟩
        · have h0f : ((r : Int) == 0) = false := beq_eq_false_iff_ne.2 (by omega)
          have HJ1 := Lib.hid (show CuI w g a n cap k 30 w2.heap.size _ from HI8.out.up (by omega))
          go_wp2_with fail
          go_meet
          exact ⟨rfl, HJ1⟩
      case rest =>
        obtain ⟨rfl, HI9⟩ := hcut
        clear HI8
        obtain ⟨hD, hlt, hX, f, t, s, hf, ht, q1, q2, q3, hC⟩ := HI9.out
        have HD := Lib.hid hD
        have HX := Lib.hid hX
        have HC := Lib.hid hC
        have HQ := Lib.hid (And.intro q1 (And.intro q2 q3))
        clear hD hX hC q1 q2 q3 HI9
        have c0 : wc.cell? ⟨w2.heap.size, 0, none⟩ = some (.int .i64 f) := Blk.cell HC.out 0
        have c1 : wc.cell? ⟨w2.heap.size, 1, none⟩ = some (.int .i64 t) := Blk.cell HC.out 1
        have c2 : wc.cell? ⟨w2.heap.size, 2, none⟩ = some (.int .i64 s) := Blk.cell HC.out 2
        have c3 : wc.cell? ⟨w2.heap.size, 3, none⟩ = some (.bool hf) := Blk.cell HC.out 3
        have c4 : wc.cell? ⟨w2.heap.size, 4, none⟩ = some (.bool ht) := Blk.cell HC.out 4
        have d0 : wc.cell? ⟨w.heap.size, 0, none⟩ = some (.int .i64 0) := Blk.cell HX.out 0
        have g0 : wc.frozen? ⟨w.heap.size, 0, none⟩ = false := Blk.free HX.out 0
        have d1 : wc.cell? ⟨w.heap.size, 1, none⟩ = some (.int .i64 0) := Blk.cell HX.out 1
        have g1 : wc.frozen? ⟨w.heap.size, 1, none⟩ = false := Blk.free HX.out 1
        have d2 : wc.cell? ⟨w.heap.size, 2, none⟩ = some (.int .i64 0) := Blk.cell HX.out 2
        have g2 : wc.frozen? ⟨w.heap.size, 2, none⟩ = false := Blk.free HX.out 2
        have d3 : wc.cell? ⟨w.heap.size, 3, none⟩ = some (.bool false) := Blk.cell HX.out 3
        have g3 : wc.frozen? ⟨w.heap.size, 3, none⟩ = false := Blk.free HX.out 3
        have d4 : wc.cell? ⟨w.heap.size, 4, none⟩ = some (.bool false) := Blk.cell HX.out 4
        have g4 : wc.frozen? ⟨w.heap.size, 4, none⟩ = false := Blk.free HX.out 4
        have HF := Lib.hid (show DrP w g a n cap k 30 (((((wc.setCell ⟨w.heap.size, 0, none⟩ (.int .i64 f)).setCell ⟨w.heap.size, 1, none⟩ (.int .i64 t)).setCell ⟨w.heap.size, 2, none⟩ (.int .i64 s)).setCell ⟨w.heap.size, 3, none⟩ (.bool hf)).setCell ⟨w.heap.size, 4, none⟩ (.bool ht)) from (((((HD.out.setOff (i := 0) H0.out (Nat.le_refl _)).setOff (i := 1) H0.out (Nat.le_refl _)).setOff (i := 2) H0.out (Nat.le_refl _)).setOff (i := 3) H0.out (Nat.le_refl _)).setOff (i := 4) H0.out (Nat.le_refl _)))
        have R1 := Lib.hid (show CutB (wc.setCell ⟨w.heap.size, 0, none⟩ (.int .i64 f)) w.heap.size f 0 0 false false from Blk.set HX.out 0 _)
        have R2 := Lib.hid (show CutB ((wc.setCell ⟨w.heap.size, 0, none⟩ (.int .i64 f)).setCell ⟨w.heap.size, 1, none⟩ (.int .i64 t)) w.heap.size f t 0 false false from Blk.set R1.out 1 _)
        have R3 := Lib.hid (show CutB (((wc.setCell ⟨w.heap.size, 0, none⟩ (.int .i64 f)).setCell ⟨w.heap.size, 1, none⟩ (.int .i64 t)).setCell ⟨w.heap.size, 2, none⟩ (.int .i64 s)) w.heap.size f t s false false from Blk.set R2.out 2 _)
        have R4 := Lib.hid (show CutB ((((wc.setCell ⟨w.heap.size, 0, none⟩ (.int .i64 f)).setCell ⟨w.heap.size, 1, none⟩ (.int .i64 t)).setCell ⟨w.heap.size, 2, none⟩ (.int .i64 s)).setCell ⟨w.heap.size, 3, none⟩ (.bool hf)) w.heap.size f t s hf false from Blk.set R3.out 3 _)
        have R5 := Lib.hid (show CutB (((((wc.setCell ⟨w.heap.size, 0, none⟩ (.int .i64 f)).setCell ⟨w.heap.size, 1, none⟩ (.int .i64 t)).setCell ⟨w.heap.size, 2, none⟩ (.int .i64 s)).setCell ⟨w.heap.size, 3, none⟩ (.bool hf)).setCell ⟨w.heap.size, 4, none⟩ (.bool ht)) w.heap.size f t s hf ht from Blk.set R4.out 4 _)
        go_wp2_with fail
        refine bodyPost_ret (v := .agg (cutC f t s hf ht)) ?_ rfl ⟨f, t, s, hf, ht, rfl, HQ.out.1, HQ.out.2.1, HQ.out.2.2, HF.out⟩
        exact results_cell_row rfl _ _ w.heap.size 32 (cutC f t s hf ht) (0, 0) _ rfl R5.out Try.underlying32 rfl (by kernel_rfl)
end Go.Proofs.Ytbcphejblopekaa
