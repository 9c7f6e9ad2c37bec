/- A key set, the model: tables and values. -/
import Derived.Test.YtibglmcpbbikdaaLaL
import Derived.Deep.RegionWith
import Derived.Deep.RegionLaw
namespace Go.Proofs.Ytibglmcpbbikdaa
open Go.RowKit
theorem TbT.val {T : TypeId} {w : World} {b bt g1 c1 c2 g2 k : Nat} {ix : List Int} {es : List Ent} {e : Ent} (h : TbT T w b ix es bt g1 c1 (some ⟨g2, 0, none⟩) c2) (he : es[k]? = some e) (v : Int) : TbT T (w.setCell ⟨g2, k * 4 + 2, none⟩ (.int .i64 v)) b ix (valP es k v) bt g1 c1 (some ⟨g2, 0, none⟩) c2 := by
  have hn := Ne.symm (h.2.2.1 g2 rfl)
  have hg := Ne.symm (h.2.2.2.2.2.2 g2 rfl)
  have e1 : valP es k v = es.set k { e with val := v } := by unfold valP; rw [he]
  have h9 := h.2.2.2.2.2.1.stored (r := 2) (u := .int .i64 v) (e' := { e with val := v }) he (by omega) (by simp [Ent.row])
  rw [e1]
  refine ⟨h.1, h.2.1, h.2.2.1, ?_, h.2.2.2.2.1.setOff hg, ?_, h.2.2.2.2.2.2⟩
  · rw [List.length_set]; exact h.2.2.2.1.setOff hn
  · rw [List.length_set]; exact h9
section
variable {P : Program} {ops : Array Oper} {o : Oper} {a : Act} {w : World} {K : Act → World → Prop} {Q : Exit → Act → World → Prop} {E : Prop}
theorem stepCall (hgd : o.guard = none) (f : FuncId) (x : Operand) (ts : Array TypeId) (v u : Value) (ho : o.op = .call { callee := .value (.func f), args := #[x], argTypes := ts }) (hx : a.eval x = v) (hb : plainFn P f = true)
    (c : Calls P f #[v] w fun e w' => e = .returned u ∧ w' = w) (h : K (a.put o.dst u) w) : if Region.wanted o (yielded ops a.tmps) = true then Oper.wp P o a w K Q else E := by
  have hwt : Region.wanted o (yielded ops a.tmps) = true := by simp [Region.wanted, hgd]
  rw [if_pos hwt]
  unfold Oper.wp
  rw [puts_call1 (P := P) (w := w) f x ts v ho hx hb]
  refine Calls.mono c fun e w' he => ?_
  obtain ⟨rfl, rfl⟩ := he
  exact h
end
set_option maxRecDepth 20000 in
set_option maxHeartbeats 8000000 in
theorem setKey_val (ix : List Int) (es : List Ent) (key : ByteArray) (val : Int) (g c1 c2 : Nat) (a : Option Addr) (w : World) (h : Tb w g ix a es) (hl : es.length ≤ 1048576) (hm : ix.length ≤ 1048576) (_ : KeysS es) (hky : key.size ≤ 1048576) (hcap : a = none → c2 = 0) (_ : -1000000 ≤ val ∧ val ≤ 1000000) (hd : DOk ix es) (k : Nat) (hp : plc ix es key (hk key) = (k : Int)) (hkn : k < es.length) :
    Calls Try.prog 79 #[.agg #[.slice (some ⟨g, 0, none⟩) ix.length c1, .slice a es.length c2], .string key, .int .i64 val] w (OdQ (ix, valP es k val) w) := by
  obtain ⟨w1, hw1⟩ : ∃ w1, w1 = (w.alloc (Obj.cells #[.slice (some ⟨g, 0, none⟩) ix.length c1, .slice a es.length c2] 26)).alloc (Obj.cells #[.slice none 0 0, .slice none 0 0] 26) := ⟨_, rfl⟩
  have HB1 := Lib.hid (show Below w.heap.size w w1 from by rw [hw1]; exact ((Below.refl _ _).alloc (Nat.le_refl _) _).alloc (by simp) _)
  have HX1 := Lib.hid (show Blk w1 w.heap.size 26 #[.slice (some ⟨g, 0, none⟩) ix.length c1, .slice a es.length c2] from by rw [hw1]; exact (Blk.newest w _ _).alloc _)
  have HY1 := Lib.hid (show Blk w1 (w.heap.size + 1) 26 #[.slice none 0 0, .slice none 0 0] from by rw [hw1]; exact Blk.new _ _ _ (by simp))
  have HT1 := Lib.hid (h.below HB1.out)
  have HSZ := Lib.hid (show w1.heap.size = w.heap.size + 2 by rw [hw1]; simp)
  have HW1 := Lib.hid hw1
  have hmx : 8 ≤ ix.length ∧ ix.length ≤ 128 := by have := slotN_mem hd.1.1; simp at this; omega
  have hex : es.length ≤ 128 := by have := hd.1.2.1; omega
  have HCp := Lib.hid (fun w h => copyDict_any ix es g c1 c2 a w h hl hm hcap (by omega))
  have HSl := Lib.hid (fun g c1 c2 a w h => slotOf_ok ix es key g c1 c2 a w h hd.1 hky)
  have hfs := (fst_ok (key := key) hd.1 (hsh_lt key.data.toList)).2.2.2
  have hsl := fstS_lt (key := key) hd.1 (hsh_lt key.data.toList)
  have hhk : hk key = hsh key.data.toList := rfl
  rw [← hhk] at HSl hfs hsl
  unfold OtP at HCp
  rw [hp] at hfs
  obtain ⟨e9, he9⟩ : ∃ e, es[k]? = some e := ⟨_, List.getElem?_eq_getElem hkn⟩
  have HGE := Lib.hid he9
  have HP4 := Lib.hid hfs
  generalize hmm : ix.length = m at *
  generalize hne : es.length = ne at *
  have HNE := Lib.hid hne
  have HMM := Lib.hid hmm
  clear hfs
  clear hmm hne h hw1 hcap hd hhk hp he9
  generalize hk key = hh at *
  generalize fstS ix es key hh = s at *
  have s1 : (s : Int) < (m : Int) := by omega
  have s0 : 0 ≤ (s : Int) := by omega
  have k1 : (k : Int) < (ne : Int) := by omega
  have k0 : 0 ≤ (k : Int) := by omega
  have b0 := HX1.out.cell 0
  have b1 := HX1.out.cell 1
  go_enter Try.func79, Try.ntmps79
  go_wp2_with fail
  rw [← HW1.out]
  refine (HCp.out _ HT1.out).mono ?_
  rintro e w3 ⟨g1, d1, a2, d2, rfl, ho3, hb3⟩
  have HTb := Lib.hid (show TbT 26 (w3.alloc (Obj.cells #[.slice (some ⟨g1, 0, none⟩) ix.length d1, .slice a2 es.length d2] 26)) w1.heap.size ix es w3.heap.size g1 d1 a2 d2 from ⟨hb3.size, by have := ho3.lt1; omega, by rintro g9 rfl; have := ho3.lt2; omega, Blk.newest _ _ _, ho3.below ((Below.refl _ _).alloc (Nat.le_refl _) _)⟩)
  rw [HMM.out, HNE.out] at HTb
  have hb3' : Below w1.heap.size w1 (w3.alloc (Obj.cells #[.slice (some ⟨g1, 0, none⟩) m d1, .slice a2 ne d2] 26)) := hb3.alloc hb3.size _
  have HB3 := Lib.hid (HB1.out.trans (hb3'.mono HB1.out.size))
  have HR3 := Lib.hid (HY1.out.below hb3' HY1.out.lt)
  have HQ3 := Lib.hid (show w1.heap.size ≤ (w3.alloc (Obj.cells #[.slice (some ⟨g1, 0, none⟩) m d1, .slice a2 ne d2] 26)).heap.size from hb3'.size)
  have HC3 := Lib.hid HTb.out.2.2.2.1
  rw [HMM.out, HNE.out] at HC3
  clear ho3 hb3 hb3' b0 b1
  go_wp2_with fail
  generalize hw4 : w3.alloc (Obj.cells #[.slice (some ⟨g1, 0, none⟩) m d1, .slice a2 ne d2] 26) = w4 at *
  generalize w3.heap.size = bt at *
  clear hw4
  refine (HSl.out _ _ _ _ _ HTb.out.2.2.2.2.tb).mono ?_
  rintro e w5 ⟨rfl, hb5⟩
  have HT5 := Lib.hid (HTb.out.below hb5)
  have HB5 := Lib.hid (HB3.out.trans ((hb5.mono HQ3.out).mono HB1.out.size))
  have HR5 := Lib.hid (HR3.out.below (hb5.mono HQ3.out) HY1.out.lt)
  have HQ5 := Lib.hid (show w1.heap.size ≤ w5.heap.size from Nat.le_trans HQ3.out hb5.size)
  have HC5 := Lib.hid HT5.out.2.2.2.1
  rw [HMM.out, HNE.out] at HC5
  clear hb5
  have t0 := HC5.out.cell 0
  have t1 := HC5.out.cell 1
  have i0 := (HT5.out.2.2.2.2.fact HP4.out).1
  obtain ⟨g2, hg2⟩ : ∃ g2, a2 = some ⟨g2, 0, none⟩ := by
    obtain ⟨g2, _, h9, _⟩ := (HT5.out.2.2.2.2.tb.2.2).at (show k < es.length by rw [HNE.out]; exact hkn)
    exact ⟨g2, h9⟩
  subst hg2
  obtain ⟨_, _, x2, _⟩ := HT5.out.2.2.2.2.2.1.cellsAt HGE.out
  have f2 := HT5.out.2.2.2.2.2.1.free (k * 4 + 2)
  have HT6 := Lib.hid (HT5.out.val HGE.out val)
  have HC6 := Lib.hid HT6.out.2.2.2.1
  rw [valP_len, HMM.out, HNE.out] at HC6
  have HR6 := Lib.hid (HR5.out.setOff (g' := g2) (i := k * 4 + 2) (v := .int .i64 val) (by have := HT5.out.2.2.2.2.lt2.1; have := HSZ.out; omega))
  have HB6 := Lib.hid (HB5.out.setCell (p := ⟨g2, k * 4 + 2, none⟩) (show w.heap.size ≤ g2 by have := HT5.out.2.2.2.2.lt2.1; have := HSZ.out; omega) (.int .i64 val))
  have i6 := (HT6.out.2.2.2.2.fact HP4.out).1
  have u0 := HC6.out.cell 0
  have u1 := HC6.out.cell 1
  have z0 := HR6.out.cell 0
  have z1 := HR6.out.cell 1
  have z2 := HR6.out.free 0
  have z3 := HR6.out.free 1
  go_wp2_with fail
  go_region_held3 (fun w' => w'.cell? ⟨bt, 0, none⟩ = some (.slice (some ⟨g1, 0, none⟩) m d1) ∧ w'.cell? ⟨bt, 1, none⟩ = some (.slice (some ⟨g2, 0, none⟩) ne d2) ∧ w'.cell? ⟨g1, s, none⟩ = some (.int .i64 (k : Int)))
    (first | exact ⟨t0, t1, i0⟩ | exact ⟨u0, u1, i6⟩)
    (first | fail)
  have HR6d := Lib.hid HR6.out.drew
  have HT6d : Hid (TbT 26 (w5.setCell ⟨g2, k * 4 + 2, none⟩ (.int .i64 val)).drew w1.heap.size ix (valP es k val) bt g1 d1 (some ⟨g2, 0, none⟩) d2) := Lib.hid HT6.out
  have HB6d := Lib.hid HB6.out.drew
  go_wp2_with fail
  have hq1 := HT6d.out.2.2.2.2.lt1.1
  have hq2 : ∀ g9 : Nat, ((some ⟨g2, 0, none⟩) : Option Addr) = some ⟨g9, 0, none⟩ → w1.heap.size ≤ g9 := by intro g9 h9; have h8 := HT6d.out; rw [h9] at h8; exact h8.2.2.2.2.lt2.1
  have hw := HSZ.out
  have HZ := Lib.hid (two_set HR6d.out (.slice (some ⟨g1, 0, none⟩) m d1) (.slice (some ⟨g2, 0, none⟩) ne d2))
  exact bodyPost_ret (v := .agg #[.slice (some ⟨g1, 0, none⟩) m d1, .slice (some ⟨g2, 0, none⟩) ne d2]) (results_cell_row rfl _ _ (w.heap.size + 1) 26 _ (0, 0) _ rfl HZ.out Try.underlying26 rfl (by kernel_rfl)) rfl
    ⟨some ⟨g1, 0, none⟩, d1, (some ⟨g2, 0, none⟩), d2, by rw [valP_len, HMM.out, HNE.out], (((HT6d.out.2.2.2.2.setOff (by omega) (by intro g9 h9; have := hq2 g9 h9; omega)).setOff (by omega) (by intro g9 h9; have := hq2 g9 h9; omega)).wide (by omega)).od, (HB6d.out.setCell (by show w.heap.size ≤ w.heap.size + 1; omega) _).setCell (by show w.heap.size ≤ w.heap.size + 1; omega) _⟩
set_option maxRecDepth 20000 in
set_option maxHeartbeats 8000000 in
theorem setKey_put (ix : List Int) (es : List Ent) (key : ByteArray) (val : Int) (g c1 c2 : Nat) (a : Option Addr) (w : World) (h : Tb w g ix a es) (hl : es.length ≤ 1048576) (hm : ix.length ≤ 1048576) (_ : KeysS es) (hky : key.size ≤ 1048576) (hcap : a = none → c2 = 0) (_ : -1000000 ≤ val ∧ val ≤ 1000000) (hd : DOk ix es) (hp : plc ix es key (hk key) = -1) (hro : es.length < 2 * ix.length / 3) :
    Calls Try.prog 79 #[.agg #[.slice (some ⟨g, 0, none⟩) ix.length c1, .slice a es.length c2], .string key, .int .i64 val] w (OdQ ((ix.set (fstS ix es key (hk key)) (es.length : Int)), es ++ [⟨key, (hk key : Int), val, true⟩]) w) := by
  obtain ⟨w1, hw1⟩ : ∃ w1, w1 = (w.alloc (Obj.cells #[.slice (some ⟨g, 0, none⟩) ix.length c1, .slice a es.length c2] 26)).alloc (Obj.cells #[.slice none 0 0, .slice none 0 0] 26) := ⟨_, rfl⟩
  have HB1 := Lib.hid (show Below w.heap.size w w1 from by rw [hw1]; exact ((Below.refl _ _).alloc (Nat.le_refl _) _).alloc (by simp) _)
  have HX1 := Lib.hid (show Blk w1 w.heap.size 26 #[.slice (some ⟨g, 0, none⟩) ix.length c1, .slice a es.length c2] from by rw [hw1]; exact (Blk.newest w _ _).alloc _)
  have HY1 := Lib.hid (show Blk w1 (w.heap.size + 1) 26 #[.slice none 0 0, .slice none 0 0] from by rw [hw1]; exact Blk.new _ _ _ (by simp))
  have HT1 := Lib.hid (h.below HB1.out)
  have HSZ := Lib.hid (show w1.heap.size = w.heap.size + 2 by rw [hw1]; simp)
  have HW1 := Lib.hid hw1
  have hmx : 8 ≤ ix.length ∧ ix.length ≤ 128 := by have := slotN_mem hd.1.1; simp at this; omega
  have hex : es.length ≤ 128 := by have := hd.1.2.1; omega
  have HCp := Lib.hid (fun w h => copyDict_any ix es g c1 c2 a w h hl hm hcap (by omega))
  have HSl := Lib.hid (fun g c1 c2 a w h => slotOf_ok ix es key g c1 c2 a w h hd.1 hky)
  have hfs := (fst_ok (key := key) hd.1 (hsh_lt key.data.toList)).2.2.2
  have hsl := fstS_lt (key := key) hd.1 (hsh_lt key.data.toList)
  have hhk : hk key = hsh key.data.toList := rfl
  rw [← hhk] at HSl hfs hsl
  unfold OtP at HCp
  rw [hp] at hfs
  have HP4 := Lib.hid hfs
  have HHo := Lib.hid (fun w => (hashOf_any key w hky).mono fun _ _ h9 => And.intro h9.1 h9.2.symm)
  rw [← hhk] at HHo
  have hrm9 : 2 * ix.length / 3 ≤ 128 := by omega
  have lr : ((ix.length : Int) * 2).tdiv 3 = ((2 * ix.length / 3 : Nat) : Int) := by rw [Int.tdiv_eq_ediv_of_nonneg (by omega)]; omega
  have lro : ¬ ((2 * ix.length / 3 : Nat) : Int) ≤ (es.length : Int) := by omega
  generalize 2 * ix.length / 3 = rm at *
  generalize hmm : ix.length = m at *
  generalize hne : es.length = ne at *
  have HNE := Lib.hid hne
  have HMM := Lib.hid hmm
  clear hfs
  clear hmm hne h hw1 hcap hd hhk hp hro
  generalize hk key = hh at *
  generalize fstS ix es key hh = s at *
  have HP5 := HP4
  have s1 : (s : Int) < (m : Int) := by omega
  have s0 : 0 ≤ (s : Int) := by omega
  have b0 := HX1.out.cell 0
  have b1 := HX1.out.cell 1
  go_enter Try.func79, Try.ntmps79
  go_wp2_with fail
  rw [← HW1.out]
  refine (HCp.out _ HT1.out).mono ?_
  rintro e w3 ⟨g1, d1, a2, d2, rfl, ho3, hb3⟩
  have HTb := Lib.hid (show TbT 26 (w3.alloc (Obj.cells #[.slice (some ⟨g1, 0, none⟩) ix.length d1, .slice a2 es.length d2] 26)) w1.heap.size ix es w3.heap.size g1 d1 a2 d2 from ⟨hb3.size, by have := ho3.lt1; omega, by rintro g9 rfl; have := ho3.lt2; omega, Blk.newest _ _ _, ho3.below ((Below.refl _ _).alloc (Nat.le_refl _) _)⟩)
  rw [HMM.out, HNE.out] at HTb
  have hb3' : Below w1.heap.size w1 (w3.alloc (Obj.cells #[.slice (some ⟨g1, 0, none⟩) m d1, .slice a2 ne d2] 26)) := hb3.alloc hb3.size _
  have HB3 := Lib.hid (HB1.out.trans (hb3'.mono HB1.out.size))
  have HR3 := Lib.hid (HY1.out.below hb3' HY1.out.lt)
  have HQ3 := Lib.hid (show w1.heap.size ≤ (w3.alloc (Obj.cells #[.slice (some ⟨g1, 0, none⟩) m d1, .slice a2 ne d2] 26)).heap.size from hb3'.size)
  have HC3 := Lib.hid HTb.out.2.2.2.1
  rw [HMM.out, HNE.out] at HC3
  clear ho3 hb3 hb3' b0 b1
  go_wp2_with fail
  generalize hw4 : w3.alloc (Obj.cells #[.slice (some ⟨g1, 0, none⟩) m d1, .slice a2 ne d2] 26) = w4 at *
  generalize w3.heap.size = bt at *
  clear hw4
  refine (HSl.out _ _ _ _ _ HTb.out.2.2.2.2.tb).mono ?_
  rintro e w5 ⟨rfl, hb5⟩
  have HT5 := Lib.hid (HTb.out.below hb5)
  have HB5 := Lib.hid (HB3.out.trans ((hb5.mono HQ3.out).mono HB1.out.size))
  have HR5 := Lib.hid (HR3.out.below (hb5.mono HQ3.out) HY1.out.lt)
  have HQ5 := Lib.hid (show w1.heap.size ≤ w5.heap.size from Nat.le_trans HQ3.out hb5.size)
  have HC5 := Lib.hid HT5.out.2.2.2.1
  rw [HMM.out, HNE.out] at HC5
  clear hb5
  have t0 := HC5.out.cell 0
  have t1 := HC5.out.cell 1
  have i0 := (HT5.out.2.2.2.2.fact HP4.out).1
  have i1 := (HT5.out.2.2.2.2.fact HP5.out).2
  have HT6 := Lib.hid (HT5.out.slot s (ne : Int))
  have HC6 := Lib.hid HT6.out.2.2.2.1
  rw [List.length_set, HMM.out, HNE.out] at HC6
  have HE6 := Lib.hid HT6.out.2.2.2.2.2.1
  rw [HNE.out] at HE6
  have HR6 := Lib.hid (HR5.out.setOff (g' := g1) (i := s) (v := .int .i64 (ne : Int)) (by have := HT5.out.2.2.2.2.lt1.1; have := HSZ.out; omega))
  have HB6 := Lib.hid (HB5.out.setCell (p := ⟨g1, s, none⟩) (show w.heap.size ≤ g1 by have := HT5.out.2.2.2.2.lt1.1; have := HSZ.out; omega) (.int .i64 (ne : Int)))
  have hbt : bt < w5.heap.size := HC5.out.lt
  go_upto_region 10 with fail
  generalize hw6 : w5.setCell ⟨g1, s, none⟩ (.int .i64 (ne : Int)) = w6 at *
  have hqs : w1.heap.size ≤ w6.heap.size := by rw [← hw6]; have := HQ5.out; simpa using this
  have hbt6 : bt < w6.heap.size := HC6.out.lt
  have HQS := Lib.hid hqs
  clear hw6 hbt hqs t0 t1 i0 i1
  have t0 := HC6.out.cell 0
  have t1 := HC6.out.cell 1
  go_region_law (first | (refine stepCall rfl 88 (.tmp 59) #[9] (.string key) (.int .i64 (hh : Int)) rfl rfl (by kernel_rfl) (HHo.out _) ?_) | (refine stepE rfl (.tmp 57) (.tmp 63) rfl w1.heap.size _ es [(⟨key, (hh : Int), val, true⟩ : Ent)] (some ⟨w6.heap.size, 0, none⟩) 1 1 rfl rfl (fun e => by cases e) rfl (HE6.out.below ((Below.refl _ _).alloc (Nat.le_refl _) _).drew) (show Re _ _ _ from .inr ⟨_, rfl, en_one (e := (⟨key, (hh : Int), val, true⟩ : Ent)) (Blk.newest w6 57 #[.string key, .int .i64 (hh : Int), .int .i64 val, .bool true])⟩) (by rw [HNE.out]; omega) (show w1.heap.size ≤ _ from by have := HQS.out; first | (simp; omega) | omega) (ne + 1) (by rw [List.length_append, HNE.out]; rfl) ?_; intro a9 c9 w7 ho7 hg7 hb7 hd7; have HN7 := Lib.hid (show (es ++ [(⟨key, (hh : Int), val, true⟩ : Ent)]).length = ne + 1 by rw [List.length_append, HNE.out]; rfl); have HA7 := Lib.hid (TbT.app (T := 26) (e := (⟨key, (hh : Int), val, true⟩ : Ent)) (a3 := a9) (c3 := c9) (by decide) HT6.out ((Below.refl _ _).alloc (Nat.le_refl _) _).drew (by rw [HNE.out]; exact hg7) (by rw [HN7.out]; exact ho7)); have HC7 := Lib.hid HA7.out.1; have HT8 := Lib.hid HA7.out.2; rw [List.length_set, HMM.out, HNE.out] at HC7; rw [HN7.out] at HT8; have hb67 : Below w1.heap.size w6 w7 := ((Below.refl w1.heap.size w6).alloc HQS.out _).drew.trans hb7; have HB8 := Lib.hid ((HB6.out.trans (hb67.mono HB1.out.size)).setCell (p := ⟨bt, 1, none⟩) (show w.heap.size ≤ bt by have := HT6.out.1; have := HSZ.out; omega) (.slice a9 (ne + 1) c9)); have HR8 := Lib.hid ((HR6.out.below hb67 (by have := HSZ.out; omega)).setOff (g' := bt) (i := 1) (v := .slice a9 (ne + 1) c9) (by have := HT6.out.1; have := HSZ.out; omega)); have HC8 := Lib.hid HT8.out.2.2.2.1; rw [List.length_set, HMM.out, HN7.out] at HC8; have u0 := HC7.out.cell 0; have u1 := HC7.out.cell 1; have u2 := HC7.out.free 0; have u3 := HC7.out.free 1; clear ho7 hg7 hb7 hd7 hb67))
  all_goals (clear t0 t1 u0 u1 u2 u3)
  all_goals
    have t0 := HC8.out.cell 0
    have t1 := HC8.out.cell 1
    have z0 := HR8.out.cell 0
    have z1 := HR8.out.cell 1
    have z2 := HR8.out.free 0
    have z3 := HR8.out.free 1
    go_wp2_with fail
    have hq1 := HT8.out.2.2.2.2.lt1.1
    have hq2 : ∀ g9 : Nat, (a9 : Option Addr) = some ⟨g9, 0, none⟩ → w1.heap.size ≤ g9 := by intro g9 h9; have h8 := HT8.out; rw [h9] at h8; exact h8.2.2.2.2.lt2.1
    have hw := HSZ.out
    have HZ := Lib.hid (two_set HR8.out (.slice (some ⟨g1, 0, none⟩) m d1) (.slice a9 (ne + 1) c9))
    exact bodyPost_ret (v := .agg #[.slice (some ⟨g1, 0, none⟩) m d1, .slice a9 (ne + 1) c9]) (results_cell_row rfl _ _ (w.heap.size + 1) 26 _ (0, 0) _ rfl HZ.out Try.underlying26 rfl (by kernel_rfl)) rfl
      ⟨some ⟨g1, 0, none⟩, d1, a9, c9, by rw [List.length_set, HMM.out, HN7.out], (((HT8.out.2.2.2.2.setOff (by omega) (by intro g9 h9; have := hq2 g9 h9; omega)).setOff (by omega) (by intro g9 h9; have := hq2 g9 h9; omega)).wide (by omega)).od, (HB8.out.setCell (by show w.heap.size ≤ w.heap.size + 1; omega) _).setCell (by show w.heap.size ≤ w.heap.size + 1; omega) _⟩
section
variable {P : Program} {ops : Array Oper} {o : Oper} {a : Act} {w : World} {K : Act → World → Prop} {Q : Exit → Act → World → Prop} {E : Prop}
theorem stepCallB (hgd : o.guard = none) (f : FuncId) (x : Operand) (ts : Array TypeId) (v u : Value) (ho : o.op = .call { callee := .value (.func f), args := #[x], argTypes := ts }) (hx : a.eval x = v) (hb : plainFn P f = true)
    (c : Calls P f #[v] w fun e w' => e = .returned u ∧ Below w.heap.size w w') (h : ∀ w', Below w.heap.size w w' → K (a.put o.dst u) w') : if Region.wanted o (yielded ops a.tmps) = true then Oper.wp P o a w K Q else E := by
  have hwt : Region.wanted o (yielded ops a.tmps) = true := by simp [Region.wanted, hgd]
  rw [if_pos hwt]
  unfold Oper.wp
  rw [puts_call1 (P := P) (w := w) f x ts v ho hx hb]
  refine Calls.mono c fun e w' he => ?_
  obtain ⟨rfl, hb⟩ := he
  exact h w' hb
theorem stepCall2 (hgd : o.guard = none) (f : FuncId) (x y : Operand) (ts : Array TypeId) (v u : Value) {R : Ending → World → Prop} (ho : o.op = .call { callee := .value (.func f), args := #[x, y], argTypes := ts }) (hx : a.eval x = v) (hy : a.eval y = u) (hb : plainFn P f = true)
    (c : Calls P f #[v, u] w R) (h : ∀ e w', R e w' → ∃ z, e = .returned z ∧ K (a.put o.dst z) w') : if Region.wanted o (yielded ops a.tmps) = true then Oper.wp P o a w K Q else E := by
  have hwt : Region.wanted o (yielded ops a.tmps) = true := by simp [Region.wanted, hgd]
  rw [if_pos hwt]
  unfold Oper.wp
  rw [puts_call2 (P := P) (w := w) f x y ts v u ho hx hy hb]
  refine Calls.mono c fun e w' he => ?_
  obtain ⟨z, rfl, hz⟩ := h e w' he
  exact hz
end
set_option maxRecDepth 20000 in
set_option maxHeartbeats 8000000 in
theorem setKey_pack (ix : List Int) (es : List Ent) (key : ByteArray) (val : Int) (g c1 c2 : Nat) (a : Option Addr) (w : World) (h : Tb w g ix a es) (hl : es.length ≤ 1048576) (hm : ix.length ≤ 1048576) (hks : KeysS es) (hky : key.size ≤ 1048576) (hcap : a = none → c2 = 0) (_ : -1000000 ≤ val ∧ val ≤ 1000000) (hd : DOk ix es) (hp : plc ix es key (hk key) = -1) (h40 : liveN es + 1 ≤ 40) (hro : es.length = 2 * ix.length / 3) :
    Calls Try.prog 79 #[.agg #[.slice (some ⟨g, 0, none⟩) ix.length c1, .slice a es.length c2], .string key, .int .i64 val] w (OdQ (((pkd (scN (liveN es + 1)) es).1.set (fstS (pkd (scN (liveN es + 1)) es).1 (pkd (scN (liveN es + 1)) es).2 key (hk key)) ((pkd (scN (liveN es + 1)) es).2.length : Int)), (pkd (scN (liveN es + 1)) es).2 ++ [⟨key, (hk key : Int), val, true⟩]) w) := by
  obtain ⟨w1, hw1⟩ : ∃ w1, w1 = (w.alloc (Obj.cells #[.slice (some ⟨g, 0, none⟩) ix.length c1, .slice a es.length c2] 26)).alloc (Obj.cells #[.slice none 0 0, .slice none 0 0] 26) := ⟨_, rfl⟩
  have HB1 := Lib.hid (show Below w.heap.size w w1 from by rw [hw1]; exact ((Below.refl _ _).alloc (Nat.le_refl _) _).alloc (by simp) _)
  have HX1 := Lib.hid (show Blk w1 w.heap.size 26 #[.slice (some ⟨g, 0, none⟩) ix.length c1, .slice a es.length c2] from by rw [hw1]; exact (Blk.newest w _ _).alloc _)
  have HY1 := Lib.hid (show Blk w1 (w.heap.size + 1) 26 #[.slice none 0 0, .slice none 0 0] from by rw [hw1]; exact Blk.new _ _ _ (by simp))
  have HT1 := Lib.hid (h.below HB1.out)
  have HSZ := Lib.hid (show w1.heap.size = w.heap.size + 2 by rw [hw1]; simp)
  have HW1 := Lib.hid hw1
  have hmx : 8 ≤ ix.length ∧ ix.length ≤ 128 := by have := slotN_mem hd.1.1; simp at this; omega
  have hex : es.length ≤ 128 := by have := hd.1.2.1; omega
  have HCp := Lib.hid (fun w h => copyDict_any ix es g c1 c2 a w h hl hm hcap (by omega))
  have HSl := Lib.hid (fun g c1 c2 a w h => slotOf_ok ix es key g c1 c2 a w h hd.1 hky)
  have hfs := (fst_ok (key := key) hd.1 (hsh_lt key.data.toList)).2.2.2
  have hsl := fstS_lt (key := key) hd.1 (hsh_lt key.data.toList)
  have hhk : hk key = hsh key.data.toList := rfl
  rw [← hhk] at HSl hfs hsl
  unfold OtP at HCp
  rw [hp] at hfs
  have HP4 := Lib.hid hfs
  have HHo := Lib.hid (fun w => (hashOf_any key w hky).mono fun _ _ h9 => And.intro h9.1 h9.2.symm)
  rw [← hhk] at HHo
  have hrm9 : 2 * ix.length / 3 ≤ 128 := by omega
  have lr : ((ix.length : Int) * 2).tdiv 3 = ((2 * ix.length / 3 : Nat) : Int) := by rw [Int.tdiv_eq_ediv_of_nonneg (by omega)]; omega
  have hpo := pkd_ok (c := scN (liveN es + 1)) (es := es) (slotN_sc _) (once_of hd) (by have := scN_room h40; omega) es.length (Nat.le_refl _)
  rw [List.take_length] at hpo
  have hplen : (pkd (scN (liveN es + 1)) es).1.length ≤ 128 ∧ (pkd (scN (liveN es + 1)) es).2.length ≤ 128 := by have h7 := hpo.1.2.1; have h8 := scN_le (liveN es + 1); have h9 := hpo.2.1; omega
  have HLv := Lib.hid (fun g1 c1 a2 c2 w h => liveEntries_any (.slice (some ⟨g1, 0, none⟩) ix.length c1) es a2 c2 w h hl rfl)
  have HSf := Lib.hid (fun w => sizeFor_any (liveN es + 1) w (by omega))
  rw [show ((liveN es + 1 : Nat) : Int) = (liveN es : Int) + 1 by omega] at HSf
  have HPk := Lib.hid (fun g c1 c2 a w h => specPacked_any ix es g c1 c2 (scN (liveN es + 1)) a w h hl hm (slotN_sc _) (by have := scN_room h40; omega) (once_of hd) hks)
  unfold OtP at HPk
  have HS2 := Lib.hid (fun g c1 c2 a w h => slotOf_ok (pkd (scN (liveN es + 1)) es).1 (pkd (scN (liveN es + 1)) es).2 key g c1 c2 a w h hpo.1 hky)
  rw [← hhk] at HS2
  obtain ⟨n9, hfs2⟩ : ∃ n9, (pkd (scN (liveN es + 1)) es).1[fstS (pkd (scN (liveN es + 1)) es).1 (pkd (scN (liveN es + 1)) es).2 key (hk key)]? = some n9 := ⟨_, (fst_ok (key := key) hpo.1 (hsh_lt key.data.toList)).2.2.2⟩
  have hsl2 : fstS (pkd (scN (liveN es + 1)) es).1 (pkd (scN (liveN es + 1)) es).2 key (hk key) < (pkd (scN (liveN es + 1)) es).1.length := fstS_lt (key := key) hpo.1 (hsh_lt key.data.toList)
  have HP5 := Lib.hid hfs2
  have lro : ((2 * ix.length / 3 : Nat) : Int) ≤ (es.length : Int) := by omega
  have lv40 : (liveN es : Int) ≤ 40 := by omega
  generalize pkd (scN (liveN es + 1)) es = PR at *
  obtain ⟨P1, P2⟩ := PR
  dsimp only at HPk HS2 HP5 hsl2 hplen ⊢
  generalize 2 * ix.length / 3 = rm at *
  generalize scN (liveN es + 1) = c9' at *
  generalize liveN es = lv at *
  generalize hmm : ix.length = m at *
  generalize hne : es.length = ne at *
  have HNE := Lib.hid hne
  have HMM := Lib.hid hmm
  generalize hp1 : P1.length = n1 at *
  generalize hp2 : P2.length = n2 at *
  have HP1 := Lib.hid hp1
  have HP2 := Lib.hid hp2
  clear hp1 hp2 hpo hfs hfs2
  clear hmm hne h hw1 hcap hd hhk hp hro h40
  generalize hk key = hh at *
  generalize fstS ix es key hh = s' at *
  generalize fstS P1 P2 key hh = s at *
  have s1' : (s' : Int) < (m : Int) := by omega
  have s0' : 0 ≤ (s' : Int) := by omega
  have s1 : (s : Int) < (n1 : Int) := by omega
  have s0 : 0 ≤ (s : Int) := by omega
  have b0 := HX1.out.cell 0
  have b1 := HX1.out.cell 1
  go_enter Try.func79, Try.ntmps79
  go_wp2_with fail
  rw [← HW1.out]
  refine (HCp.out _ HT1.out).mono ?_
  rintro e w3 ⟨g1, d1, a2, d2, rfl, ho3, hb3⟩
  have HTb := Lib.hid (show TbT 26 (w3.alloc (Obj.cells #[.slice (some ⟨g1, 0, none⟩) ix.length d1, .slice a2 es.length d2] 26)) w1.heap.size ix es w3.heap.size g1 d1 a2 d2 from ⟨hb3.size, by have := ho3.lt1; omega, by rintro g9 rfl; have := ho3.lt2; omega, Blk.newest _ _ _, ho3.below ((Below.refl _ _).alloc (Nat.le_refl _) _)⟩)
  rw [HMM.out, HNE.out] at HTb
  have hb3' : Below w1.heap.size w1 (w3.alloc (Obj.cells #[.slice (some ⟨g1, 0, none⟩) m d1, .slice a2 ne d2] 26)) := hb3.alloc hb3.size _
  have HB3 := Lib.hid (HB1.out.trans (hb3'.mono HB1.out.size))
  have HR3 := Lib.hid (HY1.out.below hb3' HY1.out.lt)
  have HQ3 := Lib.hid (show w1.heap.size ≤ (w3.alloc (Obj.cells #[.slice (some ⟨g1, 0, none⟩) m d1, .slice a2 ne d2] 26)).heap.size from hb3'.size)
  have HC3 := Lib.hid HTb.out.2.2.2.1
  rw [HMM.out, HNE.out] at HC3
  clear ho3 hb3 hb3' b0 b1
  go_wp2_with fail
  generalize hw4 : w3.alloc (Obj.cells #[.slice (some ⟨g1, 0, none⟩) m d1, .slice a2 ne d2] 26) = w4 at *
  generalize w3.heap.size = bt at *
  clear hw4
  refine (HSl.out _ _ _ _ _ HTb.out.2.2.2.2.tb).mono ?_
  rintro e w5 ⟨rfl, hb5⟩
  have HT5 := Lib.hid (HTb.out.below hb5)
  have HB5 := Lib.hid (HB3.out.trans ((hb5.mono HQ3.out).mono HB1.out.size))
  have HR5 := Lib.hid (HR3.out.below (hb5.mono HQ3.out) HY1.out.lt)
  have HQ5 := Lib.hid (show w1.heap.size ≤ w5.heap.size from Nat.le_trans HQ3.out hb5.size)
  have HC5 := Lib.hid HT5.out.2.2.2.1
  rw [HMM.out, HNE.out] at HC5
  clear hb5
  have t0 := HC5.out.cell 0
  have t1 := HC5.out.cell 1
  have i0 := (HT5.out.2.2.2.2.fact HP4.out).1
  go_wp2_with fail
  have HWR := Lib.hid (show IntKind.i64.wrap ((lv : Int) + 1) = (lv : Int) + 1 from by rw [IntKind.wrap_i64]; omega)
  go_cut [7] (fun p wx => p = .pointer (some ⟨bt, 0, none⟩) ∧ Hid (∃ g3 d3 a4 d4, Below w1.heap.size w5 wx ∧ TbT 26 wx w1.heap.size P1 P2 bt g3 d3 a4 d4))
  case first =>
    go_region_law (first | (refine stepCallB rfl 69 (.tmp 41) #[26] (.agg #[.slice (some ⟨g1, 0, none⟩) m d1, .slice a2 ne d2]) (.int .i64 (lv : Int)) rfl rfl (by kernel_rfl) (HLv.out _ _ _ _ _ (HT5.out.below (Below.refl _ _).drew).2.2.2.2.tb.2.2) ?_; intro w6 hb6; have HB56 := Lib.hid (show Below w5.heap.size w5 w6 from ((Below.refl _ w5).drew).trans hb6); have HC6 := Lib.hid (HC5.out.below HB56.out HC5.out.lt); have y0 := HC6.out.cell 0; have y1 := HC6.out.cell 1; clear hb6) | (refine stepCall rfl 68 (.tmp 43) #[3] (.int .i64 (IntKind.i64.wrap ((lv : Int) + 1))) (.int .i64 (c9' : Int)) rfl rfl (by kernel_rfl) (by rw [HWR.out]; exact (HSf.out _).mono fun _ _ h9 => And.intro h9.1 h9.2.symm) ?_) | (refine stepCall2 rfl 67 (.tmp 40) (.tmp 44) #[26, 3] (.agg #[.slice (some ⟨g1, 0, none⟩) m d1, .slice a2 ne d2]) (.int .i64 (c9' : Int)) rfl rfl rfl (by kernel_rfl) (HPk.out _ _ _ _ _ (HT5.out.below HB56.out).2.2.2.2.tb) ?_; rintro r w7 ⟨g3, d3, a4, d4, rfl, ho7, hb7⟩; refine ⟨_, rfl, ?_⟩; have HB57 := Lib.hid (show Below w5.heap.size w5 w7 from HB56.out.trans (hb7.mono HB56.out.size)); have HC7 := Lib.hid (HC5.out.below HB57.out HC5.out.lt); have v0 := HC7.out.cell 0; have v1 := HC7.out.cell 1; have v2 := HC7.out.free 0; have v3 := HC7.out.free 1; have HO7 := Lib.hid (show OwD w7 w5.heap.size P1 P2 g3 d3 a4 d4 from ho7.wide HB56.out.size); clear ho7 hb7))
    all_goals (try go_wp2)
    all_goals go_meet
    all_goals
      have hlb : bt < w5.heap.size := HC5.out.lt
      have hlw : w1.heap.size ≤ bt := HT5.out.1
      have q1 := HO7.out.lt1.1
      have q2 : ∀ g9, a4 = some ⟨g9, 0, none⟩ → g9 ≠ bt := by rintro g9 rfl; have := HO7.out.lt2.1; omega
      refine ⟨rfl, Lib.hid ⟨g3, d3, a4, d4, ((HB57.out.mono HQ5.out).setCell (p := ⟨bt, 0, none⟩) hlw _).setCell (p := ⟨bt, 1, none⟩) hlw _, hlw, by omega, q2, ?_, ((HO7.out.setOff (by omega) q2).setOff (by omega) q2).wide HQ5.out⟩⟩
      rw [HP1.out, HP2.out]
      exact two_set HC7.out _ _
  obtain ⟨rfl, HWc⟩ := hcut
  obtain ⟨g3, d3, a4, d4, hbc, htc⟩ := HWc.out
  have HTc := Lib.hid htc
  have HCc := Lib.hid htc.2.2.2.1
  rw [HP1.out, HP2.out] at HCc
  have HRc := Lib.hid (HR5.out.below hbc (by have := HSZ.out; omega))
  have HBc := Lib.hid (HB5.out.trans (hbc.mono HB1.out.size))
  have HQc := Lib.hid (show w1.heap.size ≤ wc.heap.size from Nat.le_trans HQ5.out hbc.size)
  clear hbc htc HWc t0 t1 i0
  have t0 := HCc.out.cell 0
  have t1 := HCc.out.cell 1
  go_wp2_with fail
  refine (HS2.out _ _ _ _ _ HTc.out.2.2.2.2.tb).mono ?_
  rintro e w8 ⟨rfl, hb8⟩
  have HT9 := Lib.hid (HTc.out.below hb8)
  have HB9 := Lib.hid (HBc.out.trans (hb8.mono HBc.out.size))
  have HR9 := Lib.hid (HRc.out.below hb8 HRc.out.lt)
  have HC9 := Lib.hid (HCc.out.below hb8 HCc.out.lt)
  have HQ9 := Lib.hid (show w1.heap.size ≤ w8.heap.size from Nat.le_trans HQc.out hb8.size)
  clear hb8 t0 t1
  have t0 := HC9.out.cell 0
  have t1 := HC9.out.cell 1
  have i0 := (HT9.out.2.2.2.2.fact HP5.out).1
  have i1 := (HT9.out.2.2.2.2.fact HP5.out).2
  have HT6 := Lib.hid (HT9.out.slot s (n2 : Int))
  have HC6 := Lib.hid HT6.out.2.2.2.1
  rw [List.length_set, HP1.out, HP2.out] at HC6
  have HE6 := Lib.hid HT6.out.2.2.2.2.2.1
  rw [HP2.out] at HE6
  have HR6 := Lib.hid (HR9.out.setOff (g' := g3) (i := s) (v := .int .i64 (n2 : Int)) (by have := HT9.out.2.2.2.2.lt1.1; have := HSZ.out; omega))
  have HB6 := Lib.hid (HB9.out.setCell (p := ⟨g3, s, none⟩) (show w.heap.size ≤ g3 by have := HT9.out.2.2.2.2.lt1.1; have := HSZ.out; omega) (.int .i64 (n2 : Int)))
  have hbt : bt < w8.heap.size := HC9.out.lt
  go_upto_region 10 with fail
  generalize hw6 : w8.setCell ⟨g3, s, none⟩ (.int .i64 (n2 : Int)) = w6 at *
  have hqs : w1.heap.size ≤ w6.heap.size := by rw [← hw6]; have := HQ9.out; simpa using this
  have hbt6 : bt < w6.heap.size := HC6.out.lt
  have HQS := Lib.hid hqs
  clear hw6 hbt hqs t0 t1 i0 i1
  have t0 := HC6.out.cell 0
  have t1 := HC6.out.cell 1
  go_region_law (first | (refine stepCall rfl 88 (.tmp 59) #[9] (.string key) (.int .i64 (hh : Int)) rfl rfl (by kernel_rfl) (HHo.out _) ?_) | (refine stepE rfl (.tmp 57) (.tmp 63) rfl w1.heap.size _ P2 [(⟨key, (hh : Int), val, true⟩ : Ent)] (some ⟨w6.heap.size, 0, none⟩) 1 1 rfl rfl (fun e => by cases e) rfl (HE6.out.below ((Below.refl _ _).alloc (Nat.le_refl _) _).drew) (show Re _ _ _ from .inr ⟨_, rfl, en_one (e := (⟨key, (hh : Int), val, true⟩ : Ent)) (Blk.newest w6 57 #[.string key, .int .i64 (hh : Int), .int .i64 val, .bool true])⟩) (by rw [HP2.out]; omega) (show w1.heap.size ≤ _ from by have := HQS.out; first | (simp; omega) | omega) (n2 + 1) (by rw [List.length_append, HP2.out]; rfl) ?_; intro a9 c9 w7 ho7 hg7 hb7 hd7; have HN7 := Lib.hid (show (P2 ++ [(⟨key, (hh : Int), val, true⟩ : Ent)]).length = n2 + 1 by rw [List.length_append, HP2.out]; rfl); have HA7 := Lib.hid (TbT.app (T := 26) (e := (⟨key, (hh : Int), val, true⟩ : Ent)) (a3 := a9) (c3 := c9) (by decide) HT6.out ((Below.refl _ _).alloc (Nat.le_refl _) _).drew (by rw [HP2.out]; exact hg7) (by rw [HN7.out]; exact ho7)); have HC7 := Lib.hid HA7.out.1; have HT8 := Lib.hid HA7.out.2; rw [List.length_set, HP1.out, HP2.out] at HC7; rw [HN7.out] at HT8; have hb67 : Below w1.heap.size w6 w7 := ((Below.refl w1.heap.size w6).alloc HQS.out _).drew.trans hb7; have HB8 := Lib.hid ((HB6.out.trans (hb67.mono HB1.out.size)).setCell (p := ⟨bt, 1, none⟩) (show w.heap.size ≤ bt by have := HT6.out.1; have := HSZ.out; omega) (.slice a9 (n2 + 1) c9)); have HR8 := Lib.hid ((HR6.out.below hb67 (by have := HSZ.out; omega)).setOff (g' := bt) (i := 1) (v := .slice a9 (n2 + 1) c9) (by have := HT6.out.1; have := HSZ.out; omega)); have HC8 := Lib.hid HT8.out.2.2.2.1; rw [List.length_set, HP1.out, HN7.out] at HC8; have u0 := HC7.out.cell 0; have u1 := HC7.out.cell 1; have u2 := HC7.out.free 0; have u3 := HC7.out.free 1; clear ho7 hg7 hb7 hd7 hb67))
  all_goals (clear t0 t1 u0 u1 u2 u3)
  all_goals
    have t0 := HC8.out.cell 0
    have t1 := HC8.out.cell 1
    have z0 := HR8.out.cell 0
    have z1 := HR8.out.cell 1
    have z2 := HR8.out.free 0
    have z3 := HR8.out.free 1
    go_wp2_with fail
    have hq1 := HT8.out.2.2.2.2.lt1.1
    have hq2 : ∀ g9 : Nat, (a9 : Option Addr) = some ⟨g9, 0, none⟩ → w1.heap.size ≤ g9 := by intro g9 h9; have h8 := HT8.out; rw [h9] at h8; exact h8.2.2.2.2.lt2.1
    have hw := HSZ.out
    have HZ := Lib.hid (two_set HR8.out (.slice (some ⟨g3, 0, none⟩) n1 d3) (.slice a9 (n2 + 1) c9))
    exact bodyPost_ret (v := .agg #[.slice (some ⟨g3, 0, none⟩) n1 d3, .slice a9 (n2 + 1) c9]) (results_cell_row rfl _ _ (w.heap.size + 1) 26 _ (0, 0) _ rfl HZ.out Try.underlying26 rfl (by kernel_rfl)) rfl
      ⟨some ⟨g3, 0, none⟩, d3, a9, c9, by rw [List.length_set, HP1.out, HN7.out], (((HT8.out.2.2.2.2.setOff (by omega) (by intro g9 h9; have := hq2 g9 h9; omega)).setOff (by omega) (by intro g9 h9; have := hq2 g9 h9; omega)).wide (by omega)).od, (HB8.out.setCell (by show w.heap.size ≤ w.heap.size + 1; omega) _).setCell (by show w.heap.size ≤ w.heap.size + 1; omega) _⟩
end Go.Proofs.Ytibglmcpbbikdaa
