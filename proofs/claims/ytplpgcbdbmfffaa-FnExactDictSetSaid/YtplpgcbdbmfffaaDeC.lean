/- A dictionary that came in, made the program's; whether two are the same. -/
import Derived.Test.YtplpgcbdbmfffaaDeB
import Derived.Test.YtplpgcbdbmfffaaDnew
namespace Go.Proofs.Ytplpgcbdbmfffaa
open Go.RowKit
/-- What a call made: a dictionary. -/
def DiP (ix : List Int) (es : List Ent) (w : World) (e : Ending) (w' : World) : Prop := ∃ g1 g2, e = .returned (.agg #[.slice (some ⟨g1, 0, none⟩) ix.length ix.length, .slice (some ⟨g2, 0, none⟩) es.length es.length]) ∧ w.heap.size ≤ g1 ∧ g1 < g2 ∧ Below w.heap.size w w' ∧ OwI w' w.heap.size (.slice (some ⟨g1, 0, none⟩) ix.length ix.length) ix ∧ EnK w' g2 es.length es es.length
theorem OwI.ci {w : World} {b g n cap : Nat} {is : List Int} (h : OwI w b (.slice (some ⟨g, 0, none⟩) n cap) is) : g < w.heap.size ∧ Ci w g is := by
  refine ⟨(OwI.lt h g rfl).2, fun j i hj => (h.cellAt hj).1⟩
theorem DiP.tb {ix : List Int} {es : List Ent} {w w' : World} {g1 g2 : Nat} (h1 : OwI w' w.heap.size (.slice (some ⟨g1, 0, none⟩) ix.length ix.length) ix) (h2 : EnK w' g2 es.length es es.length) : Tb w' g1 ix (some ⟨g2, 0, none⟩) es := ⟨h1.ci.1, h1.ci.2, .inr ⟨g2, rfl, h2.en⟩⟩
theorem toIntS_ex (is : List Int) (a : Option Addr) (cap : Nat) (w : World) (h : RsI w a cap is) (hl : is.length ≤ 1048576) :
    Calls Try.prog 60 #[.slice a is.length cap] w fun e w' => ∃ g, e = .returned (.slice (some ⟨g, 0, none⟩) is.length is.length) ∧ w.heap.size ≤ g ∧ Below w.heap.size w w' ∧ OwI w' w.heap.size (.slice (some ⟨g, 0, none⟩) is.length is.length) is :=
  (toIntS_any is _ w ⟨a, cap, rfl, h⟩ hl).mono fun _ _ ⟨h1, h2, h3⟩ => ⟨_, h1, Nat.le_refl _, h2, h3⟩
theorem toEntryS_ex (es : List Ent) (a : Option Addr) (cap : Nat) (w : World) (h : RsE w a cap es) (hl : es.length ≤ 1048576) :
    Calls Try.prog 61 #[.slice a es.length cap] w fun e w' => ∃ g, e = .returned (.slice (some ⟨g, 0, none⟩) es.length es.length) ∧ w.heap.size ≤ g ∧ Below w.heap.size w w' ∧ EnK w' g es.length es es.length :=
  (toEntryS_any es a cap w h hl).mono fun _ _ ⟨h1, h2, h3⟩ => ⟨_, h1, Nat.le_refl _, h2, h3⟩
theorem OwI.wideK {w : World} {b b' : Nat} {v : Value} {is : List Int} (h : OwI w b v is) (hb : b' ≤ b) : OwI w b' v is := h.wide hb
theorem OwI.setOff {w : World} {b g n cap k i : Nat} {u : Value} {is : List Int} (h : OwI w b (.slice (some ⟨g, 0, none⟩) n cap) is) (hne : g ≠ k) : OwI (w.setCell ⟨k, i, none⟩ u) b (.slice (some ⟨g, 0, none⟩) n cap) is := by
  obtain ⟨h1, h2⟩ := h
  refine ⟨h1, ?_⟩
  rcases h2 with ⟨h2, _⟩ | ⟨g', cap', cur, hv, hb1, hh, rest⟩
  · cases h2
  · injection hv with hv1 hv2 hv3
    injection hv1 with hv1
    injection hv1 with hv1
    subst hv1 hv2 hv3
    exact .inr ⟨_, _, cur, rfl, hb1, (heap_setCell_other w ⟨k, i, none⟩ _ u hne).trans hh, rest⟩
theorem EnK.setOff {w : World} {g n k q i : Nat} {u : Value} {es : List Ent} (h : EnK w g n es k) (hne : g ≠ q) : EnK (w.setCell ⟨q, i, none⟩ u) g n es k := by
  obtain ⟨cs, h1, h2⟩ := h
  exact ⟨cs, h1.setOff hne, h2⟩
theorem OwI.keepD {w w' : World} {b B g n cap : Nat} {is : List Int} (h : OwI w b (.slice (some ⟨g, 0, none⟩) n cap) is) (hb : Below B w w') (hg : g < B) : OwI w' b (.slice (some ⟨g, 0, none⟩) n cap) is := by
  obtain ⟨h1, h2⟩ := h
  refine ⟨h1, ?_⟩
  rcases h2 with ⟨h2, _⟩ | ⟨g', cap', cur, hv, hb1, hh, rest⟩
  · cases h2
  · injection hv with hv1 hv2 hv3
    injection hv1 with hv1
    injection hv1 with hv1
    subst hv1 hv2 hv3
    exact .inr ⟨_, _, cur, rfl, hb1, (hb.block _ hg).trans hh, rest⟩
set_option maxRecDepth 20000 in
set_option maxHeartbeats 4000000 in
theorem toDict_any (ix : List Int) (es : List Ent) (a0 a1 : Option Addr) (c0 c1 : Nat) (w : World) (h0 : RsI w a0 c0 ix) (h1 : RsE w a1 c1 es) (hm : ix.length ≤ 1048576) (hl : es.length ≤ 1048576) :
    Calls Try.prog 24 #[.agg #[.slice a0 ix.length c0, .slice a1 es.length c1]] w (DiP ix es w) := by
  have HI := Lib.hid (fun w' (hb : Below w.heap.size w w') => toIntS_ex ix a0 c0 w' (h0.below hb) hm)
  have HE := Lib.hid (fun w' (hb : Below w.heap.size w w') => toEntryS_ex es a1 c1 w' (h1.below hb) hl)
  unfold DiP
  clear h0 h1
  generalize ix.length = m at *
  generalize es.length = ne at *
  obtain ⟨w1, hw1⟩ : ∃ w1, w1 = ((w.alloc (Obj.cells #[.slice a0 m c0, .slice a1 ne c1] 34)).alloc (Obj.cells #[.slice none 0 0, .slice none 0 0] 27)).alloc (Obj.cells #[.slice none 0 0, .slice none 0 0] 27) := ⟨_, rfl⟩
  have HB1 := Lib.hid (show Below w.heap.size w w1 from by rw [hw1]; exact (((Below.refl _ _).alloc (Nat.le_refl _) _).alloc (by simp) _).alloc (by simp; omega) _)
  have HX0 := Lib.hid (show Blk w1 w.heap.size _ #[.slice a0 m c0, .slice a1 ne c1] from by rw [hw1]; exact ((Blk.newest w _ _).alloc _).alloc _)
  have HX1 := Lib.hid (show Blk w1 (w.heap.size + 1) 27 #[.slice none 0 0, .slice none 0 0] from by rw [hw1]; exact (Blk.new _ _ _ (by simp)).alloc _)
  have HX2 := Lib.hid (show Blk w1 (w.heap.size + 1 + 1) 27 #[.slice none 0 0, .slice none 0 0] from by rw [hw1]; exact Blk.new _ _ _ (by simp))
  have hsz : w1.heap.size = w.heap.size + 3 := by rw [hw1]; simp
  have HSZ := Lib.hid hsz
  have HW1 := Lib.hid hw1
  clear hw1
  go_enter Try.func24, Try.ntmps24
  go_wp2_with fail
  rw [← HW1.out]
  refine (HI.out _ HB1.out).mono ?_
  rintro e w2 ⟨g1, rfl, hg1, hb2, ho⟩
  have HO := Lib.hid ho
  have HG1 := Lib.hid hg1
  have HY0 := Lib.hid (HX0.out.below hb2 (by rw [hsz]; omega))
  have HY1 := Lib.hid (HX1.out.below hb2 (by rw [hsz]; omega))
  have HY2 := Lib.hid (HX2.out.below hb2 (by rw [hsz]; omega))
  have HB2 := Lib.hid (HB1.out.trans (hb2.mono HB1.out.size))
  have HS2 := Lib.hid (show w1.heap.size ≤ w2.heap.size from hb2.size)
  clear ho hg1 hb2
  have b0 := HY2.out.cell 0
  have b1 := HY2.out.cell 1
  have f0 := HY2.out.free 0
  have f1 := HY2.out.free 1
  have d0 := HY0.out.cell 0
  have d1 := HY0.out.cell 1
  go_wp2_with fail
  obtain ⟨w3, hw3⟩ : ∃ w3, w3 = w2.setCell ⟨w.heap.size + 1 + 1, 0, none⟩ (.slice (some ⟨g1, 0, none⟩) m m) := ⟨_, rfl⟩
  have hz3 : w3.heap.size = w2.heap.size := by rw [hw3]; simp
  have HB3 := Lib.hid (show Below w.heap.size w w3 from by rw [hw3]; exact HB2.out.setCell (show w.heap.size ≤ w.heap.size + 1 + 1 by omega) _)
  have HS3 := Lib.hid (show w.heap.size + 3 ≤ w3.heap.size by have := HS2.out; have := HSZ.out; omega)
  have HL1 := Lib.hid (show g1 < w3.heap.size by have := (OwI.lt HO.out g1 rfl).2; omega)
  have HG1b := Lib.hid (show w.heap.size + 3 ≤ g1 by have := HG1.out; have := HSZ.out; omega)
  have HO3 := Lib.hid (show OwI w3 w1.heap.size (.slice (some ⟨g1, 0, none⟩) m m) ix from by rw [hw3]; exact HO.out.setOff (by have := HG1b.out; omega))
  have HZ1 := Lib.hid (show Blk w3 (w.heap.size + 1) 27 #[.slice none 0 0, .slice none 0 0] from by rw [hw3]; exact HY1.out.setOff (by omega))
  have HZ2 := Lib.hid (show Blk w3 (w.heap.size + 1 + 1) 27 #[.slice (some ⟨g1, 0, none⟩) m m, .slice none 0 0] from by rw [hw3]; exact (HY2.out.set 0 _).same (by simp))
  rw [← hw3]
  clear hw3 b0 b1 f0 f1 d0 d1 hz3
  refine (HE.out _ HB3.out).mono ?_
  rintro e w4 ⟨g2, rfl, hg2, hb4, ho4⟩
  have HK := Lib.hid ho4
  have HG2 := Lib.hid hg2
  have HV1 := Lib.hid (HZ1.out.below hb4 (by have := HS3.out; omega))
  have HV2 := Lib.hid (HZ2.out.below hb4 (by have := HS3.out; omega))
  have HO4 := Lib.hid (HO3.out.keepD hb4 HL1.out)
  have HB4 := Lib.hid (HB3.out.trans (hb4.mono HB3.out.size))
  clear hg2 hb4 ho4
  have b0 := HV2.out.cell 0
  have b1 := HV2.out.cell 1
  have f0 := HV2.out.free 0
  have f1 := HV2.out.free 1
  have d0 := HV1.out.cell 0
  have d1 := HV1.out.cell 1
  have e0 := HV1.out.free 0
  have e1 := HV1.out.free 1
  go_wp2_with fail
  have hq2 : w.heap.size + 3 ≤ g2 := by have := HG2.out; have := HS3.out; omega
  have hq1 := HG1b.out
  have HF := Lib.hid (two_set (HV1.out.setOff (g' := w.heap.size + 1 + 1) (i := 1) (v := .slice (some ⟨g2, 0, none⟩) ne ne) (by omega)) (.slice (some ⟨g1, 0, none⟩) m m) (.slice (some ⟨g2, 0, none⟩) ne ne))
  exact bodyPost_ret (v := .agg #[.slice (some ⟨g1, 0, none⟩) m m, .slice (some ⟨g2, 0, none⟩) ne ne]) (results_cell_row rfl _ _ (w.heap.size + 1) 27 _ (0, 0) _ rfl HF.out Try.underlying27 rfl (by kernel_rfl)) rfl
    ⟨g1, g2, rfl, by omega, by have := HG2.out; have := HL1.out; omega, ((HB4.out.setCell (show w.heap.size ≤ w.heap.size + 1 + 1 by omega) _).setCell (show w.heap.size ≤ w.heap.size + 1 by omega) _).setCell (show w.heap.size ≤ w.heap.size + 1 by omega) _, (((HO4.out.setOff (by omega)).setOff (by omega)).setOff (by omega)).wideK (by have := HSZ.out; omega), (((HK.out.setOff (by omega)).setOff (by omega)).setOff (by omega))⟩
set_option maxHeartbeats 2000000 in
theorem eqEntry_same (k : ByteArray) (h v : Int) (l : Bool) (w : World) : Calls Try.prog 89 #[.agg #[.string k, .int .i64 h, .int .i64 v, .bool l], .agg #[.string k, .int .i64 h, .int .i64 v, .bool l]] w fun e w' => e = .returned (.bool true) ∧ Below w.heap.size w w' := by
  have k1 : (k.toList == k.toList) = true := by simp
  have k2 : (h != h) = false := by simp
  have k3 : (v != v) = false := by simp
  have k4 : (!l == l) = false := by simp
  have k5 : (!k.toList == k.toList) = false := by simp
  go_enter Try.func89, Try.ntmps89
  go_wp2_with fail
  go_ret
  exact ⟨rfl, ((Below.refl _ _).alloc (Nat.le_refl _) _).alloc (by simp) _⟩
set_option maxRecDepth 20000 in
set_option maxHeartbeats 4000000 in
theorem eqEntryS_same (es : List Ent) (g1 g2 c1 c2 : Nat) (w : World) (h1 : En w g1 es) (h2 : En w g2 es) (hl : es.length ≤ 1048576) :
    Calls Try.prog 54 #[.slice (some ⟨g1, 0, none⟩) es.length c1, .slice (some ⟨g2, 0, none⟩) es.length c2] w fun e w' => e = .returned (.bool true) ∧ Below w.heap.size w w' := by
  have HA := Lib.hid h1
  have HB := Lib.hid h2
  have HQ := Lib.hid eqEntry_same
  clear h1 h2
  obtain ⟨n, hn⟩ : ∃ n, n = es.length := ⟨_, rfl⟩
  have HN := Lib.hid hn
  rw [← hn] at hl ⊢
  clear hn
  go_enter Try.func54, Try.ntmps54
  go_wp2_with fail
  go_loopw [5] (fun i wr => ∃ k : Nat, k ≤ n ∧ i = .int .i64 k ∧ Hid (Below w.heap.size w wr)) (fun i _ => n - (intOf i).toNat)
  case atStart => exact ⟨0, by omega, rfl, Lib.hid (Below.refl _ _)⟩
  case round =>
    obtain ⟨k, hk, rfl, HI⟩ := hrel
    by_cases hlt : k < n
    · obtain ⟨e, he⟩ : ∃ e, es[k]? = some e := ⟨_, List.getElem?_eq_getElem (by rw [← HN.out]; exact hlt)⟩
      obtain ⟨x0, x1, x2, x3⟩ := (HA.out.below HI.out HA.out.1).2 k e he
      obtain ⟨y0, y1, y2, y3⟩ := (HB.out.below HI.out HB.out.1).2 k e he
      have q1 : (k : Int) < (n : Int) := by omega
      have q0 : 0 ≤ (k : Int) := by omega
      obtain ⟨key, hs, v, lv⟩ := e
      dsimp only at x0 x1 x2 x3 y0 y1 y2 y3
      clear he
      go_wp2_with fail
      go_region_with (first | (refine (HQ.out _ _ _ _ _).mono ?_; rintro r w2 ⟨rfl, hb2⟩; have HB2 := Lib.hid (show Below wr.heap.size wr w2 from (by first | exact hb2 | exact ((Below.refl _ wr).drew).trans hb2 | exact (below_drewN' (Below.refl _ wr)).trans hb2)); clear hb2))
      all_goals
        go_wp2_with fail
        go_roundw
        case rel => exact ⟨k + 1, by omega, by go_num, Lib.hid (HI.out.trans (HB2.out.mono HI.out.size))⟩
        case measure => simp [intOf]; try omega
    · obtain rfl : k = n := by omega
      clear hlt
      go_wp2_with fail
      go_ret
      exact ⟨rfl, HI.out⟩
set_option maxHeartbeats 2000000 in
theorem eqDict_same (ix : List Int) (es : List Ent) (g1 g2 q1 q2 c1 c2 d1 d2 : Nat) (w : World) (h1 : Tb w g1 ix (some ⟨q1, 0, none⟩) es) (h2 : Tb w g2 ix (some ⟨q2, 0, none⟩) es) (hm : ix.length ≤ 1048576) (hl : es.length ≤ 1048576) (he1 : En w q1 es) (he2 : En w q2 es) :
    Calls Try.prog 19 #[.agg #[.slice (some ⟨g1, 0, none⟩) ix.length c1, .slice (some ⟨q1, 0, none⟩) es.length d1], .agg #[.slice (some ⟨g2, 0, none⟩) ix.length c2, .slice (some ⟨q2, 0, none⟩) es.length d2]] w fun e w' => e = .returned (.bool true) ∧ Below w.heap.size w w' := by
  obtain ⟨w1, hw1⟩ : ∃ w1, w1 = (w.alloc (Obj.cells #[.slice (some ⟨g1, 0, none⟩) ix.length c1, .slice (some ⟨q1, 0, none⟩) es.length d1] 27)).alloc (Obj.cells #[.slice (some ⟨g2, 0, none⟩) ix.length c2, .slice (some ⟨q2, 0, none⟩) es.length d2] 27) := ⟨_, rfl⟩
  have HB1 := Lib.hid (show Below w.heap.size w w1 from by rw [hw1]; exact ((Below.refl _ _).alloc (Nat.le_refl _) _).alloc (by simp) _)
  have hsz : w1.heap.size = w.heap.size + 2 := by rw [hw1]; simp
  have HX1 := Lib.hid (show Blk w1 w.heap.size _ #[.slice (some ⟨g1, 0, none⟩) ix.length c1, .slice (some ⟨q1, 0, none⟩) es.length d1] from by rw [hw1]; exact (Blk.newest w _ _).alloc _)
  have HX2 := Lib.hid (show Blk w1 (w.heap.size + 1) _ #[.slice (some ⟨g2, 0, none⟩) ix.length c2, .slice (some ⟨q2, 0, none⟩) es.length d2] from by rw [hw1]; exact Blk.new _ _ _ (by simp))
  have HI := Lib.hid (eqIntS_any ix g1 g2 c1 c2 w1 (h1.below HB1.out).2.1 (h2.below HB1.out).2.1 hm)
  have HE := Lib.hid (fun w' (hb : Below w.heap.size w w') => eqEntryS_same es q1 q2 d1 d2 w' (he1.below hb he1.1) (he2.below hb he2.1) hl)
  clear h1 h2 he1 he2
  generalize ix.length = m at *
  generalize es.length = ne at *
  have HW1 := Lib.hid hw1
  clear hw1
  go_enter Try.func19, Try.ntmps19
  go_wp2_with fail
  rw [← HW1.out]
  refine HI.out.mono ?_
  rintro e w2 ⟨rfl, hb2⟩
  have HB2 := Lib.hid (HB1.out.trans (hb2.mono HB1.out.size))
  have HY1 := Lib.hid (HX1.out.below hb2 (by omega))
  have HY2 := Lib.hid (HX2.out.below hb2 (by omega))
  clear hb2
  have b1 := HY1.out.cell 1
  have d1' := HY2.out.cell 1
  go_wp2_with fail
  refine (HE.out _ HB2.out).mono ?_
  rintro e w3 ⟨rfl, hb3⟩
  have HB3 := Lib.hid (HB2.out.trans (hb3.mono HB2.out.size))
  clear hb3
  go_wp2_with fail
  go_ret
  exact ⟨rfl, HB3.out⟩
end Go.Proofs.Ytplpgcbdbmfffaa
