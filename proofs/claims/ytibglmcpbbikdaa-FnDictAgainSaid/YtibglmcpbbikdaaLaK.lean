/- put, packed, DictPack. -/
import Derived.Test.YtibglmcpbbikdaaLaJ
import Derived.Deep.RegionLaw
namespace Go.Proofs.Ytibglmcpbbikdaa
open Go.RowKit
theorem hashM_any (k : ByteArray) (h v : Int) (l : Bool) (w : World) : Calls Try.prog 116 #[.agg #[.string k, .int .i64 h, .int .i64 v, .bool l]] w fun r w' => r = .returned (.int .i64 h) ∧ Below w.heap.size w w' := by
  go_enter Try.func116, Try.ntmps116
  go_wp2_with fail
  go_ret
  exact ⟨rfl, (Below.refl _ _).alloc (Nat.le_refl _) _⟩
theorem meth_hash (v : Value) (w : World) : (method 211 57 v "loop.example/slowworm/impl.hash").run Try.prog w = .ok (116, v) w := by kernel_rfl
theorem meth_keyN (v : Value) (w : World) : (method 211 57 v "loop.example/slowworm/impl.key").run Try.prog w = .ok (118, v) w := by kernel_rfl
theorem meth_liveN (v : Value) (w : World) : (method 211 57 v "loop.example/slowworm/impl.isLive").run Try.prog w = .ok (117, v) w := by kernel_rfl
theorem en_one {w : World} {g : Nat} {e : Ent} (h : Blk w g 57 e.row) : En w g [e] := by
  refine ⟨h.lt, fun j f hj => ?_⟩
  cases j with
  | zero =>
    have : e = f := by simpa using hj
    subst this
    exact ⟨by rw [h.cell]; rfl, by rw [h.cell]; rfl, by rw [h.cell]; rfl, by rw [h.cell]; rfl⟩
  | succ j => simp at hj
theorem TbO.drew {w : World} {b bt g1 c1 c2 : Nat} {ix : List Int} {es : List Ent} {a2 : Option Addr} (h : TbO w b ix es bt g1 c1 a2 c2) : TbO w.drew b ix es bt g1 c1 a2 c2 := h
theorem OwE.cap {w : World} {b n c : Nat} {es : List Ent} (h : OwE w b (.slice none n c) es) : n = 0 ∧ c = 0 := by
  rcases h.form with ⟨e, _⟩ | ⟨g, c', e, _⟩
  · injection e with _ e1 e2; exact ⟨e1, e2⟩
  · injection e with e _ _; cases e
/-- A struct of two slices lies in a block of its own, its slices being the call's own. -/
def TbT (T : TypeId) (w : World) (b : Nat) (ix : List Int) (es : List Ent) (bt g1 c1 : Nat) (a2 : Option Addr) (c2 : Nat) : Prop :=
  b ≤ bt ∧ bt ≠ g1 ∧ (∀ g, a2 = some ⟨g, 0, none⟩ → g ≠ bt) ∧ Blk w bt T #[.slice (some ⟨g1, 0, none⟩) ix.length c1, .slice a2 es.length c2] ∧ OwD w b ix es g1 c1 a2 c2
theorem OwE.off {w : World} {b n c x : Nat} {a : Option Addr} {es : List Ent} (h : OwE w b (.slice a n c) es) (hx : ∀ g, a = some ⟨g, 0, none⟩ → g ≠ x) : (Value.slice a n c).ownBlock ≠ some x := by
  rcases h.form with ⟨e, _⟩ | ⟨g, _, e, _⟩
  · injection e with e _ _; subst e; simp [Value.ownBlock]
  · injection e with e _ _; subst e
    intro e
    exact hx g rfl (by simpa [Value.ownBlock] using e)
theorem OwE.kind {w : World} {b n c g x : Nat} {T : TypeId} {cs : Array Value} {es : List Ent} (h : OwE w b (.slice (some ⟨g, 0, none⟩) n c) es) (hb : Blk w x T cs) (hT : T ≠ 57) : g ≠ x := by
  rintro rfl
  rcases h.2 with ⟨e, _⟩ | ⟨g', cap, cur, e, _, hh, _⟩
  · cases e
  · injection e with e _ _
    injection e with e
    injection e with e
    subst e
    unfold Blk at hb
    rw [hb] at hh
    injection hh with hh
    injection hh with _ h3 _
    exact hT h3
theorem TbT.app {T : TypeId} {w cur w6 : World} {b bt g1 c1 c2 c3 : Nat} {ix : List Int} {es : List Ent} {e : Ent} {a2 a3 : Option Addr} (hT : T ≠ 57) (h : TbT T w b ix es bt g1 c1 a2 c2) (hc : Below w.heap.size w cur) (hg : cur.grownBy w6 (Value.slice a2 es.length c2).ownBlock) (ho : OwE w6 b (.slice a3 (es ++ [e]).length c3) (es ++ [e])) :
    Blk w6 bt T #[.slice (some ⟨g1, 0, none⟩) ix.length c1, .slice a2 es.length c2] ∧ TbT T (w6.setCell ⟨bt, 1, none⟩ (.slice a3 (es ++ [e]).length c3)) b ix (es ++ [e]) bt g1 c1 a3 c3 := by
  obtain ⟨h1, h2, h3, h4, h5, h6, h7⟩ := h
  have k4 := h4.below hc h4.lt
  have k5 := h5.below hc
  have k6 := h6.below hc
  have m4 : Blk w6 bt T #[.slice (some ⟨g1, 0, none⟩) ix.length c1, .slice a2 es.length c2] := (hg.block bt k4.lt (Ne.symm (h6.off h3))).trans k4
  have m5 := k5.grown hg (own_ne k5 k6)
  have hd := OwD.made m5 ho
  have hq : ∀ g, a3 = some ⟨g, 0, none⟩ → g ≠ bt := by rintro g rfl; exact ho.kind m4 hT
  exact ⟨m4, h1, h2, hq, (m4.set 1 _).same (by simp), hd.setOff (Ne.symm h2) hq⟩
set_option maxRecDepth 20000 in
set_option maxHeartbeats 8000000 in
theorem put_any (ix : List Int) (es : List Ent) (key : ByteArray) (hs b bt g1 c1 c2 : Nat) (val : Int) (lv : Bool) (a2 : Option Addr) (w : World) (h : TbO w b ix es bt g1 c1 a2 c2) (hf : Fit ix es) (hh : hs < 65536) (hbw : b ≤ w.heap.size) :
    Calls Try.prog 76 #[.pointer (some ⟨bt, 0, none⟩), .agg #[.string key, .int .i64 (hs : Int), .int .i64 val, .bool lv]] w fun r w' => ∃ a3 c3, r = .returned (.tuple #[]) ∧ TbO w' b (ix.set (fstS ix es key hs) (es.length : Int)) (es ++ [⟨key, hs, val, lv⟩]) bt g1 c1 a3 c3 ∧ Below b w w' := by
  obtain ⟨w1, hw1⟩ : ∃ w1, w1 = w.alloc (Obj.cells #[.string key, .int .i64 (hs : Int), .int .i64 val, .bool lv] 57) := ⟨_, rfl⟩
  have HB1 := Lib.hid (show Below w.heap.size w w1 from by rw [hw1]; exact (Below.refl _ _).alloc (Nat.le_refl _) _)
  have HX1 := Lib.hid (show Blk w1 w.heap.size 57 #[.string key, .int .i64 (hs : Int), .int .i64 val, .bool lv] from by rw [hw1]; exact Blk.newest w _ _)
  have HT1 := Lib.hid (h.below HB1.out)
  have hmx : ix.length ≤ 128 := by have := slotN_mem hf.1; simp at this; omega
  have hex : es.length ≤ 128 := by have := hf.2.1; omega
  have HLP := Lib.hid (fun w h => lastProbe_ok ix es key g1 c1 c2 hs a2 w h hf hh)
  have h4 := (fst_ok (key := key) hf hh).2.2.2
  have hsl := fstS_lt (key := key) hf hh
  have HK := Lib.hid (fun w => key_any key (hs : Int) val lv w)
  have HHs := Lib.hid (fun w => hashM_any key (hs : Int) val lv w)
  have HC1 := Lib.hid HT1.out.2.2.2.1
  have HW1 := Lib.hid hw1
  have HSZ := Lib.hid (show w1.heap.size = w.heap.size + 1 by rw [hw1]; simp)
  have HBW := Lib.hid hbw
  have hbt : bt < w.heap.size := h.2.2.2.1.lt
  have hg1 : g1 < w.heap.size := h.2.2.2.2.lt1.2
  have hb1 : b ≤ g1 := h.2.2.2.2.lt1.1
  have hne1 : bt ≠ g1 := h.2.1
  have hbb : b ≤ bt := h.1
  have hg2 : ∀ g, a2 = some ⟨g, 0, none⟩ → g < w.heap.size ∧ g ≠ bt ∧ b ≤ g := fun g e => by subst e; exact ⟨h.2.2.2.2.lt2.2, h.2.2.1 g rfl, h.2.2.2.2.lt2.1⟩
  have HQ := Lib.hid (And.intro hbt (And.intro hg1 (And.intro hb1 (And.intro hne1 (And.intro hbb hg2)))))
  generalize plc ix es key hs = n9 at *
  have HP4 := Lib.hid h4
  have HFS := Lib.hid (show ∃ s, s = fstS ix es key hs from ⟨_, rfl⟩)
  generalize fstS ix es key hs = s at *
  clear h4 h hw1 hf hbw hbt hg1 hb1 hne1 hbb hg2 HFS
  have s1 : (s : Int) < (ix.length : Int) := by omega
  have s0 : 0 ≤ (s : Int) := by omega
  generalize hmm : ix.length = m at *
  generalize hne : es.length = ne at *
  have HMM := Lib.hid hmm
  have HNE := Lib.hid hne
  clear hmm hne
  have hkm := meth_keyN
  have hhm := meth_hash
  have HS := Lib.hid (fun w' (hb : Below w1.heap.size w1 w') => show w'.cell? ⟨bt, 0, none⟩ = some (.slice (some ⟨g1, 0, none⟩) m c1) ∧ w'.cell? ⟨bt, 1, none⟩ = some (.slice a2 ne c2) ∧ w'.cell? ⟨w.heap.size, 0, none⟩ = some (.string key) ∧ w'.cell? ⟨w.heap.size, 1, none⟩ = some (.int .i64 (hs : Int)) ∧ w'.cell? ⟨w.heap.size, 2, none⟩ = some (.int .i64 val) ∧ w'.cell? ⟨w.heap.size, 3, none⟩ = some (.bool lv) from
    have hC := HC1.out.below hb HC1.out.lt
    have hX := HX1.out.below hb HX1.out.lt
    ⟨hC.cell 0, hC.cell 1, hX.cell 0, hX.cell 1, hX.cell 2, hX.cell 3⟩)
  have HSt := Lib.hid (fun w' (hb : Below w1.heap.size w1 w') => show (w'.setCell ⟨g1, s, none⟩ (.int .i64 (ne : Int))).cell? ⟨bt, 0, none⟩ = some (.slice (some ⟨g1, 0, none⟩) m c1) ∧ (w'.setCell ⟨g1, s, none⟩ (.int .i64 (ne : Int))).cell? ⟨bt, 1, none⟩ = some (.slice a2 ne c2) ∧ (w'.setCell ⟨g1, s, none⟩ (.int .i64 (ne : Int))).cell? ⟨w.heap.size, 0, none⟩ = some (.string key) ∧ (w'.setCell ⟨g1, s, none⟩ (.int .i64 (ne : Int))).cell? ⟨w.heap.size, 1, none⟩ = some (.int .i64 (hs : Int)) ∧ (w'.setCell ⟨g1, s, none⟩ (.int .i64 (ne : Int))).cell? ⟨w.heap.size, 2, none⟩ = some (.int .i64 val) ∧ (w'.setCell ⟨g1, s, none⟩ (.int .i64 (ne : Int))).cell? ⟨w.heap.size, 3, none⟩ = some (.bool lv) from
    have hC := (HC1.out.below hb HC1.out.lt).setOff (g' := g1) (i := s) (v := .int .i64 (ne : Int)) HQ.out.2.2.2.1
    have hX := (HX1.out.below hb HX1.out.lt).setOff (g' := g1) (i := s) (v := .int .i64 (ne : Int)) (by have := HQ.out.2.1; omega)
    ⟨hC.cell 0, hC.cell 1, hX.cell 0, hX.cell 1, hX.cell 2, hX.cell 3⟩)
  go_enter Try.func76, Try.ntmps76
  go_upto_region 1 with fail
  rw [← HW1.out]
  go_cut [3] (fun p wx => p = .pointer (some ⟨w.heap.size, 0, none⟩) ∧ Hid (∃ w', Below w1.heap.size w1 w' ∧ wx = w'.setCell ⟨g1, s, none⟩ (.int .i64 (ne : Int))))
  case first =>
    go_region_held3 (fun w' => w'.cell? ⟨bt, 0, none⟩ = some (.slice (some ⟨g1, 0, none⟩) m c1) ∧ w'.cell? ⟨bt, 1, none⟩ = some (.slice a2 ne c2) ∧ w'.cell? ⟨w.heap.size, 0, none⟩ = some (.string key) ∧ w'.cell? ⟨w.heap.size, 1, none⟩ = some (.int .i64 (hs : Int)) ∧ w'.cell? ⟨w.heap.size, 2, none⟩ = some (.int .i64 val) ∧ w'.cell? ⟨w.heap.size, 3, none⟩ = some (.bool lv))
      (first | exact HS.out _ (Below.refl _ _).drew | exact HSt.out _ HB4.out | exact HS.out _ HB4.out | exact HS.out _ HB3.out | exact HS.out _ HB2.out)
      (first | (go_at_call 118; refine (HK.out _).mono ?_; rintro r w2 ⟨rfl, hb2⟩; have HB2 := Lib.hid (show Below w1.heap.size w1 w2 from ((Below.refl w1.heap.size w1).drew).trans hb2); clear hb2) | (go_at_call 116; refine (HHs.out _).mono ?_; rintro r w3 ⟨rfl, hb3⟩; have HB3 := Lib.hid (show Below w1.heap.size w1 w3 from HB2.out.trans (hb3.mono HB2.out.size)); clear hb3) | (go_at_call 87; refine (HLP.out _ (HT1.out.below HB3.out).2.2.2.2.tb).mono ?_; rintro r w4 ⟨rfl, hb4⟩; have HB4 := Lib.hid (show Below w1.heap.size w1 w4 from HB3.out.trans (hb4.mono HB3.out.size)); have i0 := ((HT1.out.below HB4.out).2.2.2.2.fact HP4.out).1; have i1 := ((HT1.out.below HB4.out).2.2.2.2.fact HP4.out).2; clear hb4))
    all_goals (try go_wp2)
    all_goals go_meet
    all_goals exact ⟨rfl, Lib.hid ⟨_, HB4.out, rfl⟩⟩
  obtain ⟨rfl, HWc⟩ := hcut
  obtain ⟨w4, hb4, hw4⟩ := HWc.out
  have HT5 : Hid (TbO wc b (ix.set s (ne : Int)) es bt g1 c1 a2 c2) := Lib.hid (by rw [hw4]; exact (HT1.out.below hb4).slot s (ne : Int))
  have HX5 : Hid (Blk wc w.heap.size 57 #[.string key, .int .i64 (hs : Int), .int .i64 val, .bool lv]) := Lib.hid (by rw [hw4]; exact (HX1.out.below hb4 HX1.out.lt).setOff (by have := HQ.out.2.1; omega))
  have HB5 : Hid (Below b w wc) := Lib.hid (by rw [hw4]; exact ((HB1.out.mono HBW.out).trans (hb4.mono (by have := HBW.out; have := HSZ.out; omega))).setCell (p := ⟨g1, s, none⟩) HQ.out.2.2.1 _)
  have HZ5 : Hid (w.heap.size < wc.heap.size) := Lib.hid HX5.out.lt
  clear hb4 hw4 HWc
  have HC5 := Lib.hid HT5.out.2.2.2.1
  have HE5 := Lib.hid HT5.out.2.2.2.2.2.1
  rw [List.length_set, HMM.out, HNE.out] at HC5
  rw [HNE.out] at HE5
  have t1 := HC5.out.cell 1
  have x0 := HX5.out.cell 0
  have x1 := HX5.out.cell 1
  have x2 := HX5.out.cell 2
  have x3 := HX5.out.cell 3
  have hbt : bt < wc.heap.size := HC5.out.lt
  have hcp : a2 = none → ne = 0 ∧ c2 = 0 := fun e => by have h9 := HE5.out; rw [e] at h9; exact h9.cap
  have HCP := Lib.hid hcp
  clear hcp
  go_wp2_with fail
  have hz5 := HZ5.out
  go_region_law (refine stepE rfl (.tmp 28) (.tmp 30) rfl b _ es [⟨key, hs, val, lv⟩] (some ⟨wc.heap.size, 0, none⟩) 1 1 rfl rfl (fun e => by cases e) rfl (HE5.out.below ((Below.refl _ _).alloc (Nat.le_refl _) _).drew) (show Re _ _ _ from .inr ⟨_, rfl, en_one (e := ⟨key, hs, val, lv⟩) (Blk.newest wc 57 #[.string key, .int .i64 (hs : Int), .int .i64 val, .bool lv])⟩) (by rw [HNE.out]; omega) (show b ≤ _ from by have := HBW.out; have := HZ5.out; first | (simp; omega) | omega) (ne + 1) (by rw [List.length_append, HNE.out]; rfl) ?_; intro a3 c3 w6 ho6 hg6 hb6 hd6; have HX6 := Lib.hid (show Blk w6 w.heap.size 57 #[.string key, .int .i64 (hs : Int), .int .i64 val, .bool lv] from (hg6.block _ (HX5.out.alloc _).lt (Ne.symm (HE5.out.off (fun g e => by have := (HQ.out.2.2.2.2.2 g e).1; omega)))).trans (HX5.out.alloc _)); have HN6 := Lib.hid (show (es ++ [(⟨key, hs, val, lv⟩ : Ent)]).length = ne + 1 by rw [List.length_append, HNE.out]; rfl); have HA6 := Lib.hid (TbT.app (T := 54) (e := ⟨key, hs, val, lv⟩) (a3 := a3) (c3 := c3) (by decide) HT5.out ((Below.refl _ _).alloc (Nat.le_refl _) _).drew (by rw [HNE.out]; exact hg6) (by rw [HN6.out]; exact ho6)); have HC6 := Lib.hid HA6.out.1; have HT7 := Lib.hid HA6.out.2; rw [List.length_set, HMM.out, HNE.out] at HC6; rw [HN6.out] at HT7; have HB7 := Lib.hid (show Below b w w6 from HB5.out.trans (((Below.refl b wc).alloc (by have := HBW.out; have := HZ5.out; omega) _).drew.trans hb6)); have u0 := HC6.out.cell 0; have u1 := HC6.out.cell 1; have u2 := HC6.out.free 0; have u3 := HC6.out.free 1; clear ho6 hg6 hb6 hd6)
  all_goals (try go_wp2)
  all_goals
    go_end0
    exact ⟨a3, c3, rfl, HT7.out, HB7.out.setCell (p := ⟨bt, 1, none⟩) HQ.out.2.2.2.2.1 _⟩
theorem owI_neg {w : World} {b g c : Nat} (hb : b ≤ g) (hc : c ≤ 1048576) (h : w.heap[g]? = some (.cells (neg c).toArray 3 (0, 0))) : OwI w b (.slice (some ⟨g, 0, none⟩) c c) (List.replicate c (-1)) := by
  have e : iv (List.replicate c (-1)) = neg c := by unfold iv neg; rw [List.map_replicate]
  unfold OwI Own
  rw [e, neg_len]
  exact ⟨by rw [neg_len, Nat.mul_one], .inr ⟨g, c, (neg c).toArray, rfl, hb, h, Nat.le_refl _, by unfold maxLen; omega, by simp [neg_len], by rw [List.take_of_length_le (by simp [neg_len])]⟩⟩
/-- While live entries are put into new slots. -/
def PkI (T : TypeId) (w1 wr : World) (c : Nat) (es : List Ent) (k bt g1 cp : Nat) : Prop := Below w1.heap.size w1 wr ∧ ∃ a2 c2, TbT T wr w1.heap.size (pkd c (es.take k)).1 (pkd c (es.take k)).2 bt g1 cp a2 c2
theorem TbT.below {T : TypeId} {w w' : World} {b bt g1 c1 c2 : Nat} {ix : List Int} {es : List Ent} {a2 : Option Addr} (h : TbT T w b ix es bt g1 c1 a2 c2) (hb : Below w.heap.size w w') : TbT T w' b ix es bt g1 c1 a2 c2 := ⟨h.1, h.2.1, h.2.2.1, h.2.2.2.1.below hb h.2.2.2.1.lt, h.2.2.2.2.below hb⟩
theorem pkd_same {c : Nat} {es : List Ent} {k : Nat} {e : Ent} (h : es[k]? = some e) (hl : e.live = false) : pkd c (es.take (k + 1)) = pkd c (es.take k) := by
  rw [pkd_next h]; unfold pkStep; rw [if_neg (by rw [hl]; decide)]
theorem pkd_live {c : Nat} {es : List Ent} {k : Nat} {e : Ent} (h : es[k]? = some e) (hl : e.live = true) : pkd c (es.take (k + 1)) = ((pkd c (es.take k)).1.set (fstS (pkd c (es.take k)).1 (pkd c (es.take k)).2 e.key (hk e.key)) ((pkd c (es.take k)).2.length : Int), (pkd c (es.take k)).2 ++ [e]) := by
  rw [pkd_next h]; unfold pkStep; rw [if_pos hl]
set_option maxRecDepth 20000 in
set_option maxHeartbeats 8000000 in
theorem packed_any (ix : List Int) (es : List Ent) (g c1 c2 more : Nat) (a : Option Addr) (w : World) (h : Tb w g ix a es) (hl : es.length ≤ 1048576) (_ : ix.length ≤ 1048576) (h40 : liveN es + more ≤ 40) (hO : Once es) (hE : ∀ (i : Nat) (e : Ent), es[i]? = some e → e.live = true → e.hash = (hk e.key : Int)) :
    Calls Try.prog 58 #[.agg #[.slice (some ⟨g, 0, none⟩) ix.length c1, .slice a es.length c2], .int .i64 (more : Int)] w (OtP (pkd (scN (liveN es + more)) es).1 (pkd (scN (liveN es + more)) es).2 w) := by
  obtain ⟨w1, hw1⟩ : ∃ w1, w1 = (w.alloc (Obj.cells #[.slice (some ⟨g, 0, none⟩) ix.length c1, .slice a es.length c2] 54)).alloc (Obj.cells #[.slice none 0 0, .slice none 0 0] 54) := ⟨_, rfl⟩
  have HB1 := Lib.hid (show Below w.heap.size w w1 from by rw [hw1]; exact ((Below.refl _ _).alloc (Nat.le_refl _) _).alloc (by simp) _)
  have HX1 := Lib.hid (show Blk w1 w.heap.size 54 #[.slice (some ⟨g, 0, none⟩) ix.length c1, .slice a es.length c2] from by rw [hw1]; exact (Blk.newest w _ _).alloc _)
  have HY1 := Lib.hid (show Blk w1 (w.heap.size + 1) 54 #[.slice none 0 0, .slice none 0 0] from by rw [hw1]; exact Blk.new _ _ _ (by simp))
  have HT1 := Lib.hid (h.below HB1.out)
  have HW1 := Lib.hid hw1
  have HSZ := Lib.hid (show w1.heap.size = w.heap.size + 2 by rw [hw1]; simp)
  have HCL := Lib.hid (fun w h => countLive_any (.slice (some ⟨g, 0, none⟩) ix.length c1) es a c2 w h hl rfl)
  have HSC := Lib.hid (fun w => slotCountFor_any (liveN es + more) w (by omega))
  have hcs : slotN (scN (liveN es + more)) = true := slotN_sc _
  have hcl := scN_le (liveN es + more)
  have hrm : liveN es ≤ 2 * scN (liveN es + more) / 3 := by have := scN_room h40; omega
  have HPK := Lib.hid (fun k hk => pkd_ok (c := scN (liveN es + more)) (es := es) hcs hO hrm k hk)
  have hlv : liveN es ≤ 40 := by omega
  have hcc : ((liveN es + more : Nat) : Int) = (liveN es : Int) + (more : Int) := by omega
  rw [hcc] at HSC
  clear h hw1 hcc hrm
  generalize liveN es = lv at *
  generalize scN (lv + more) = c at *
  have HET := Lib.hid (fun w => emptyTable_any c w (by omega) (by omega))
  unfold TbP at HET
  have HEs := Lib.hid hE
  have hc2 : c ≤ 1048576 := by omega
  clear hcs hO hE
  generalize hmm : ix.length = m at *
  generalize hne : es.length = ne at *
  have HMM := Lib.hid hmm
  have HNE := Lib.hid hne
  clear hmm hne
  have b0 := HX1.out.cell 0
  have b1 := HX1.out.cell 1
  go_enter Try.func58, Try.ntmps58
  go_wp2_with fail
  rw [← HW1.out]
  refine (HCL.out _ HT1.out.2.2).mono ?_
  rintro e w2 ⟨rfl, hb2⟩
  have HB2 := Lib.hid hb2
  clear hb2
  go_wp2_with fail
  refine (HSC.out _).mono ?_
  rintro e w9 ⟨rfl, rfl⟩
  go_wp2_with fail
  refine (HET.out _).mono ?_
  rintro e w3 ⟨g1, rfl, hb3, hg1, hh3⟩
  have hb13 : Below w1.heap.size w1 w3 := HB2.out.trans (hb3.mono HB2.out.size)
  have hlt1 : g1 < w3.heap.size := by
    rcases Nat.lt_or_ge g1 w3.heap.size with h9 | h9
    · exact h9
    · rw [Array.getElem?_eq_none h9] at hh3; cases hh3
  have hx3 : w.heap.size < w3.heap.size := by have := HSZ.out; have := hb13.size; omega
  have HB4 := Lib.hid (show Below w1.heap.size w1 (w3.alloc (Obj.cells #[.slice (some ⟨g1, 0, none⟩) c c, .slice none 0 0] 54)) from hb13.alloc hb13.size _)
  have H0 := Lib.hid (show PkI 54 w1 (w3.alloc (Obj.cells #[.slice (some ⟨g1, 0, none⟩) c c, .slice none 0 0] 54)) c es 0 w3.heap.size g1 c from by
    refine ⟨HB4.out, none, 0, hb13.size, Nat.ne_of_gt hlt1, fun g e => (by cases e), ?_, ?_, OwE.nil _ _, fun g e => (by cases e)⟩
    · rw [List.take_zero, pkd_zero, List.length_replicate]
      exact Blk.newest _ _ _
    · rw [List.take_zero, pkd_zero, List.length_replicate]
      exact (owI_neg (Nat.le_trans HB2.out.size hg1) hc2 hh3).below ((Below.refl _ _).alloc (Nat.le_refl _) _))
  have hX3 := HX1.out.below hb13 HX1.out.lt
  clear b0 b1
  have b0 := hX3.cell 0
  have b1 := hX3.cell 1
  have HL3 := Lib.hid hx3
  clear hb3 hg1 hh3 hb13 hlt1 hX3
  go_wp2_with fail
  generalize w3.alloc (Obj.cells #[.slice (some ⟨g1, 0, none⟩) c c, .slice none 0 0] 54) = w4 at *
  generalize w3.heap.size = bt at *
  clear b0 b1 hx3
  go_loopw [17] (fun i wr => ∃ k : Nat, k ≤ ne ∧ i = .int .i64 k ∧ Hid (PkI 54 w1 wr c es k bt g1 c)) (fun i _ => ne - (intOf i).toNat)
  case atStart => exact ⟨0, by omega, rfl, H0⟩
  case round =>
    obtain ⟨k, hkn, rfl, HI⟩ := hrel
    by_cases hltk : k < ne
    · obtain ⟨g2, e, rfl, he, hb, x0, x1, x2, x3⟩ := ((HT1.out.below HI.out.1).2.2).at (show k < es.length by rw [HNE.out]; exact hltk)
      have q1 : (k : Int) < (ne : Int) := by omega
      have q0 : 0 ≤ (k : Int) := by omega
      have HL := Lib.hid (lies4 x0 x1 x2 x3)
      have HGE := Lib.hid he
      clear x0 x1 x2 x3 he
      obtain ⟨a2, c2', ht⟩ := HI.out.2
      have HTk := Lib.hid ht
      clear ht
      have hlm := meth_liveN
      cases hlv : e.live with
      | false =>
        rw [hlv] at HL
        have HIL := Lib.hid (fun w => isLive_any e.key e.hash e.val false w)
        have HLV := Lib.hid hlv
        go_wp2_with (first | (refine ldE (o := ⟨some 20, _, _, _, _, _⟩) rfl (.tmp 19) rfl g2 (k * 4) (.string e.key) (.int .i64 e.hash) (.int .i64 e.val) (.bool false) rfl HL.out ?_))
        refine (HIL.out _).mono ?_
        rintro r w5 ⟨rfl, hb5⟩
        have hb5' : Below wr.heap.size wr w5 := ((Below.refl _ wr).alloc (Nat.le_refl _) _).trans (hb5.mono (by simp))
        have HI2 := Lib.hid (show PkI 54 w1 w5 c es (k + 1) bt g1 c from ⟨HI.out.1.trans (hb5'.mono HI.out.1.size), a2, c2', by rw [pkd_same HGE.out HLV.out]; exact HTk.out.below hb5'⟩)
        clear hb5 hb5'
        go_wp2_with fail
        go_roundw
        case rel => exact ⟨k + 1, by omega, by go_num, HI2⟩
        case measure => simp [intOf]; try omega
      | true =>
        have heh := HEs.out k e HGE.out hlv
        have he2 : (⟨e.key, (hk e.key : Int), e.val, true⟩ : Ent) = e := by rw [← heh, ← hlv]
        rw [hlv, heh] at HL
        have HIL := Lib.hid (fun w => isLive_any e.key (hk e.key : Int) e.val true w)
        have HLV := Lib.hid hlv
        have HE2 := Lib.hid he2
        have hk6 : hk e.key < 65536 := hsh_lt _
        have HPt := Lib.hid (fun w5 h hb => put_any (pkd c (es.take k)).1 (pkd c (es.take k)).2 e.key (hk e.key) w1.heap.size bt g1 c c2' e.val true a2 w5 h (HPK.out k hkn).1 hk6 hb)
        have HLE := Lib.hid (pkd_live (c := c) HGE.out hlv)
        clear heh he2 hk6
        generalize hk e.key = hh at *
        go_wp2_with (first | (refine ldE (o := ⟨some 20, _, _, _, _, _⟩) rfl (.tmp 19) rfl g2 (k * 4) (.string e.key) (.int .i64 (hh : Int)) (.int .i64 e.val) (.bool true) rfl HL.out ?_))
        refine (HIL.out _).mono ?_
        rintro r w5 ⟨rfl, hb5⟩
        have hb5' : Below wr.heap.size wr w5 := ((Below.refl _ wr).alloc (Nat.le_refl _) _).trans (hb5.mono (by simp))
        have HX5 := Lib.hid (Blk.below (Blk.newest wr _ _) hb5 (by simp))
        have HB5 := Lib.hid (show Below w1.heap.size w1 w5 from HI.out.1.trans (hb5'.mono HI.out.1.size))
        have HT5 := Lib.hid (HTk.out.below hb5')
        clear hb5 hb5'
        have y0 := HX5.out.cell 0
        have y1 := HX5.out.cell 1
        have y2 := HX5.out.cell 2
        have y3 := HX5.out.cell 3
        go_wp2_with fail
        refine (HPt.out _ HT5.out HB5.out.size).mono ?_
        rintro r w6 ⟨a3, c3, rfl, ht6, hb6⟩
        have HI2 := Lib.hid (show PkI 54 w1 w6 c es (k + 1) bt g1 c from ⟨HB5.out.trans hb6, a3, c3, by rw [HLE.out]; rw [HE2.out] at ht6; exact ht6⟩)
        clear ht6 hb6
        go_wp2_with fail
        go_roundw
        case rel => exact ⟨k + 1, by omega, by go_num, HI2⟩
        case measure => simp [intOf]; try omega
    · obtain rfl : k = ne := by omega
      clear hltk
      obtain ⟨a2, c2', ht⟩ := HI.out.2
      rw [List.take_of_length_le (by rw [HNE.out]; exact Nat.le_refl _)] at ht
      have HTk := Lib.hid ht
      have HC := Lib.hid ht.2.2.2.1
      have HR := Lib.hid (HY1.out.below HI.out.1 HY1.out.lt)
      clear ht
      generalize pkd c es = PR at *
      obtain ⟨P1, P2⟩ := PR
      dsimp only at HTk HC ⊢
      generalize hp1 : P1.length = n1 at *
      generalize hp2 : P2.length = n2 at *
      have HP1 := Lib.hid hp1
      have HP2 := Lib.hid hp2
      clear hp1 hp2
      have t0 := HC.out.cell 0
      have t1 := HC.out.cell 1
      have b0 := HR.out.cell 0
      have b1 := HR.out.cell 1
      have f0 := HR.out.free 0
      have f1 := HR.out.free 1
      go_wp2_with fail
      have HZ := Lib.hid (two_set HR.out (.slice (some ⟨g1, 0, none⟩) n1 c) (.slice a2 n2 c2'))
      have hz := HSZ.out
      have hg1 := HTk.out.2.2.2.2.lt1
      exact bodyPost_ret (v := .agg #[.slice (some ⟨g1, 0, none⟩) n1 c, .slice a2 n2 c2']) (results_cell_row rfl _ _ (w.heap.size + 1) 54 _ (0, 0) _ rfl HZ.out Try.underlying54 rfl (by kernel_rfl)) rfl
        ⟨g1, c, a2, c2', by rw [HP1.out, HP2.out], ((HTk.out.2.2.2.2.setOff (by omega) (by rintro g9 rfl; have := HTk.out.2.2.2.2.lt2; omega)).setOff (by omega) (by rintro g9 rfl; have := HTk.out.2.2.2.2.lt2; omega)).wide (by omega), ((HB1.out.trans (HI.out.1.mono HB1.out.size)).setCell (by show w.heap.size ≤ w.heap.size + 1; omega) _).setCell (by show w.heap.size ≤ w.heap.size + 1; omega) _⟩
theorem TbT.slot {T : TypeId} {w : World} {b bt g1 c1 c2 : Nat} {ix : List Int} {es : List Ent} {a2 : Option Addr} (h : TbT T w b ix es bt g1 c1 a2 c2) (s : Nat) (i : Int) : TbT T (w.setCell ⟨g1, s, none⟩ (.int .i64 i)) b (ix.set s i) es bt g1 c1 a2 c2 := by
  refine ⟨h.1, h.2.1, h.2.2.1, ?_, h.2.2.2.2.slot s i⟩
  rw [List.length_set]
  exact h.2.2.2.1.setOff h.2.1
section
variable {ops : Array Oper} {rest : List Oper} {o : Oper} {a : Act} {w : World} {Q : Exit → Act → World → Prop}
theorem appE (hgd : o.guard = none) (s x : Operand) (ho : o.op = .call { callee := .builtin .append, args := #[s, x], argTypes := #[24, 24] }) (base : Nat) (v : Value) (es fs : List Ent) (ad : Option Addr) (n c : Nat) (hs : a.eval s = v) (hx : a.eval x = .slice ad n c) (hcap : ad = none → n = 0 ∧ c = 0)
    (hn : fs.length = n) (hown : OwE w base v es) (hc : Re w ad fs) (hlen : es.length + n ≤ 2097152) (hbase : base ≤ w.heap.size) (N : Nat) (hN : (es ++ fs).length = N)
    (h : ∀ a' c' w', OwE w' base (.slice a' N c') (es ++ fs) → w.grownBy w' v.ownBlock → Below base w w' → wpList Try.prog ops Q rest (a.put o.dst (.slice a' N c')) w') : wpList Try.prog ops Q (o :: rest) a w :=
  wpList_plain hgd fun K hK => by
    have h9 := stepE (ops := ops) (E := True) (K := K) (Q := Q) hgd s x ho base v es fs ad n c hs hx hcap hn hown hc hlen hbase N hN (fun a' c' w' h1 h2 h3 _ => hK _ _ (h a' c' w' h1 h2 h3))
    rw [if_pos (by simp [Region.wanted, hgd])] at h9
    exact h9
end
theorem nx_own {w w' : World} {v : Value} {c : Nat} (h : NxI w w' v c) (hc : 1 ≤ c) : ∃ g cap, v = .slice (some ⟨g, 0, none⟩) c cap ∧ OwI w' w.heap.size (.slice (some ⟨g, 0, none⟩) c cap) (List.replicate c (-1)) ∧ Below w.heap.size w w' := by
  have e : iv (List.replicate c (-1)) = neg c := by unfold iv neg; rw [List.map_replicate]
  have ho : OwI w' w.heap.size v (List.replicate c (-1)) := by unfold OwI; rw [e]; exact h.2
  rcases Own.form ho with ⟨_, h2⟩ | ⟨g, cap, h1, _⟩
  · rw [e] at h2
    have := neg_len c
    rw [h2] at this
    simp at this
    omega
  · rw [e, neg_len] at h1
    subst h1
    exact ⟨g, cap, rfl, ho, h.1⟩
set_option maxRecDepth 20000 in
set_option maxHeartbeats 8000000 in
theorem specPacked_any (ix : List Int) (es : List Ent) (g c1 c2 c : Nat) (a : Option Addr) (w : World) (h : Tb w g ix a es) (hl : es.length ≤ 1048576) (_ : ix.length ≤ 1048576) (hcs : slotN c = true) (hrm : liveN es ≤ 2 * c / 3) (hO : Once es) (hks : KeysS es) :
    Calls Try.prog 67 #[.agg #[.slice (some ⟨g, 0, none⟩) ix.length c1, .slice a es.length c2], .int .i64 (c : Int)] w (OtP (pkd c es).1 (pkd c es).2 w) := by
  obtain ⟨w1, hw1⟩ : ∃ w1, w1 = (w.alloc (Obj.cells #[.slice (some ⟨g, 0, none⟩) ix.length c1, .slice a es.length c2] 26)).alloc (Obj.cells #[.slice none 0 0, .slice none 0 0] 26) := ⟨_, rfl⟩
  have HB1 := Lib.hid (show Below w.heap.size w w1 from by rw [hw1]; exact ((Below.refl _ _).alloc (Nat.le_refl _) _).alloc (by simp) _)
  have HX1 := Lib.hid (show Blk w1 w.heap.size 26 #[.slice (some ⟨g, 0, none⟩) ix.length c1, .slice a es.length c2] from by rw [hw1]; exact (Blk.newest w _ _).alloc _)
  have HY1 := Lib.hid (show Blk w1 (w.heap.size + 1) 26 #[.slice none 0 0, .slice none 0 0] from by rw [hw1]; exact Blk.new _ _ _ (by simp))
  have HT1 := Lib.hid (h.below HB1.out)
  have HW1 := Lib.hid hw1
  have HSZ := Lib.hid (show w1.heap.size = w.heap.size + 2 by rw [hw1]; simp)
  have hcl : 8 ≤ c ∧ c ≤ 128 := by have := slotN_mem hcs; simp at this; omega
  have HPK := Lib.hid (fun k hk => pkd_ok (c := c) (es := es) hcs hO hrm k hk)
  have HNI := Lib.hid (fun w => newIndex_any c w (by omega))
  unfold NxP at HNI
  have HKS := Lib.hid hks
  clear h hw1 hrm hcs hO hks
  generalize hmm : ix.length = m at *
  generalize hne : es.length = ne at *
  have HMM := Lib.hid hmm
  have HNE := Lib.hid hne
  clear hmm hne
  go_enter Try.func67, Try.ntmps67
  go_wp2_with fail
  rw [← HW1.out]
  refine (HNI.out _).mono ?_
  rintro e w3 ⟨v, rfl, hni⟩
  obtain ⟨g1, cp, rfl, ho3, hb3⟩ := nx_own hni (by omega)
  have HB4 := Lib.hid (show Below w1.heap.size w1 (w3.alloc (Obj.cells #[.slice (some ⟨g1, 0, none⟩) c cp, .slice none 0 0] 26)) from hb3.alloc hb3.size _)
  have H0 := Lib.hid (show PkI 26 w1 (w3.alloc (Obj.cells #[.slice (some ⟨g1, 0, none⟩) c cp, .slice none 0 0] 26)) c es 0 w3.heap.size g1 cp from by
    refine ⟨HB4.out, none, 0, hb3.size, Nat.ne_of_gt (ho3.lt g1 rfl).2, fun g e => (by cases e), ?_, ?_, OwE.nil _ _, fun g e => (by cases e)⟩
    · rw [List.take_zero, pkd_zero, List.length_replicate]
      exact Blk.newest _ _ _
    · rw [List.take_zero, pkd_zero, List.length_replicate]
      exact ho3.below ((Below.refl _ _).alloc (Nat.le_refl _) _))
  clear hb3 ho3 hni
  go_wp2_with fail
  generalize w3.alloc (Obj.cells #[.slice (some ⟨g1, 0, none⟩) c cp, .slice none 0 0] 26) = w4 at *
  generalize w3.heap.size = bt at *
  go_loopw [6] (fun i wr => ∃ k : Nat, k ≤ ne ∧ i = .int .i64 k ∧ Hid (PkI 26 w1 wr c es k bt g1 cp)) (fun i _ => ne - (intOf i).toNat)
  case atStart => exact ⟨0, by omega, rfl, H0⟩
  case round =>
    obtain ⟨k, hkn, rfl, HI⟩ := hrel
    have HXr := Lib.hid (HX1.out.below HI.out.1 HX1.out.lt)
    have b0 := HXr.out.cell 0
    have b1 := HXr.out.cell 1
    by_cases hltk : k < ne
    · obtain ⟨g2, e, rfl, he, hb, x0, x1, x2, x3⟩ := ((HT1.out.below HI.out.1).2.2).at (show k < es.length by rw [HNE.out]; exact hltk)
      have q1 : (k : Int) < (ne : Int) := by omega
      have q0 : 0 ≤ (k : Int) := by omega
      have HL := Lib.hid (lies4 x0 x1 x2 x3)
      have HGE := Lib.hid he
      clear x0 x1 x2 x3 he
      obtain ⟨a2, c2', ht⟩ := HI.out.2
      have HTk := Lib.hid ht
      clear ht
      cases hlv : e.live with
      | false =>
        rw [hlv] at HL
        have HI2 := Lib.hid (show PkI 26 w1 (wr.alloc (Obj.cells #[.string e.key, .int .i64 e.hash, .int .i64 e.val, .bool false] 57)) c es (k + 1) bt g1 cp from ⟨HI.out.1.alloc HI.out.1.size _, a2, c2', by rw [pkd_same HGE.out hlv]; exact HTk.out.below ((Below.refl _ _).alloc (Nat.le_refl _) _)⟩)
        go_wp2_with (first | (refine ldE (o := ⟨some 22, _, _, _, _, _⟩) rfl (.tmp 21) rfl g2 (k * 4) (.string e.key) (.int .i64 e.hash) (.int .i64 e.val) (.bool false) rfl HL.out ?_))
        go_roundw
        case rel => exact ⟨k + 1, by omega, by go_num, HI2⟩
        case measure => simp [intOf]; try omega
      | true =>
        have he2 : (⟨e.key, e.hash, e.val, true⟩ : Ent) = e := by rw [← hlv]
        rw [hlv] at HL
        have HE2 := Lib.hid he2
        have HFit := (HPK.out k hkn).1
        have hlen2 : (pkd c (es.take k)).2.length ≤ 128 := by have h7 := HFit.2.1; have h8 := (HPK.out k hkn).2.1; omega
        have HSl := Lib.hid (fun w h => slotOf_ok (pkd c (es.take k)).1 (pkd c (es.take k)).2 e.key g1 cp c2' a2 w h HFit (HKS.out e (List.mem_of_getElem? HGE.out)))
        have HLE := pkd_live (c := c) HGE.out hlv
        have hfs := (fst_ok (key := e.key) HFit (hsh_lt e.key.data.toList)).2.2.2
        have hsl := fstS_lt (key := e.key) HFit (hsh_lt e.key.data.toList)
        unfold hk at HLE
        have HLE2 := Lib.hid HLE
        clear HLE HFit he2
        generalize pkd c (es.take k) = PR at *
        obtain ⟨P1, P2⟩ := PR
        dsimp only at HTk HSl hfs hsl hlen2 HLE2
        generalize fstS P1 P2 e.key (hsh e.key.data.toList) = s at *
        generalize plc P1 P2 e.key (hsh e.key.data.toList) = n9 at *
        have HP4 := Lib.hid hfs
        have HC := Lib.hid HTk.out.2.2.2.1
        clear hfs
        have s1 : (s : Int) < (P1.length : Int) := by omega
        have s0 : 0 ≤ (s : Int) := by omega
        generalize hp1 : P1.length = n1 at *
        generalize hp2 : P2.length = n2 at *
        have HP1 := Lib.hid hp1
        have HP2 := Lib.hid hp2
        clear hp1 hp2
        have hbt : bt < wr.heap.size := HC.out.lt
        have hg1 : g1 < wr.heap.size := HTk.out.2.2.2.2.lt1.2
        have hbg : w1.heap.size ≤ g1 := HTk.out.2.2.2.2.lt1.1
        have hng : bt ≠ g1 := HTk.out.2.1
        have hbb : w1.heap.size ≤ bt := HTk.out.1
        have HQ := Lib.hid (And.intro hbt (And.intro hg1 (And.intro hbg (And.intro hng hbb))))
        clear hg1 hbg hng hbb
        go_wp2_with (first | (refine ldE (o := ⟨some 22, _, _, _, _, _⟩) rfl (.tmp 21) rfl g2 (k * 4) (.string e.key) (.int .i64 e.hash) (.int .i64 e.val) (.bool true) rfl HL.out ?_))
        have HX5 := Lib.hid (Blk.newest wr 57 #[.string e.key, .int .i64 e.hash, .int .i64 e.val, .bool true])
        have HC5 := Lib.hid (HC.out.alloc (Obj.cells #[.string e.key, .int .i64 e.hash, .int .i64 e.val, .bool true] 57))
        have HT5 := Lib.hid (HTk.out.below ((Below.refl _ wr).alloc (Nat.le_refl _) (Obj.cells #[.string e.key, .int .i64 e.hash, .int .i64 e.val, .bool true] 57)))
        have HB5 := Lib.hid (HI.out.1.alloc HI.out.1.size (Obj.cells #[.string e.key, .int .i64 e.hash, .int .i64 e.val, .bool true] 57))
        generalize wr.alloc (Obj.cells #[.string e.key, .int .i64 e.hash, .int .i64 e.val, .bool true] 57) = w5 at *
        have HS := Lib.hid (fun w' (hb : Below w5.heap.size w5 w') => show w'.cell? ⟨bt, 0, none⟩ = some (.slice (some ⟨g1, 0, none⟩) n1 cp) ∧ w'.cell? ⟨bt, 1, none⟩ = some (.slice a2 n2 c2') ∧ w'.cell? ⟨wr.heap.size, 0, none⟩ = some (.string e.key) from
          have hC := HC5.out.below hb HC5.out.lt
          have hX := HX5.out.below hb HX5.out.lt
          ⟨hC.cell 0, hC.cell 1, hX.cell 0⟩)
        have HSt := Lib.hid (fun w' (hb : Below w5.heap.size w5 w') => show (w'.setCell ⟨g1, s, none⟩ (.int .i64 (n2 : Int))).cell? ⟨bt, 0, none⟩ = some (.slice (some ⟨g1, 0, none⟩) n1 cp) ∧ (w'.setCell ⟨g1, s, none⟩ (.int .i64 (n2 : Int))).cell? ⟨bt, 1, none⟩ = some (.slice a2 n2 c2') ∧ (w'.setCell ⟨g1, s, none⟩ (.int .i64 (n2 : Int))).cell? ⟨wr.heap.size, 0, none⟩ = some (.string e.key) from
          have hC := (HC5.out.below hb HC5.out.lt).setOff (g' := g1) (i := s) (v := .int .i64 (n2 : Int)) HQ.out.2.2.2.1
          have hX := (HX5.out.below hb HX5.out.lt).setOff (g' := g1) (i := s) (v := .int .i64 (n2 : Int)) (by have := HQ.out.2.1; omega)
          ⟨hC.cell 0, hC.cell 1, hX.cell 0⟩)
        go_region_held3 (fun w' => w'.cell? ⟨bt, 0, none⟩ = some (.slice (some ⟨g1, 0, none⟩) n1 cp) ∧ w'.cell? ⟨bt, 1, none⟩ = some (.slice a2 n2 c2') ∧ w'.cell? ⟨wr.heap.size, 0, none⟩ = some (.string e.key))
          (first | exact HS.out _ (Below.refl _ _).drew | exact HSt.out _ HB6.out | exact HS.out _ HB6.out)
          (first | (go_at_call 64; refine (HSl.out _ (HT5.out.2.2.2.2.below (Below.refl _ _).drew).tb).mono ?_; rintro r w6 ⟨rfl, hb6⟩; have HB6 := Lib.hid (show Below w5.heap.size w5 w6 from ((Below.refl _ w5).drew).trans hb6); have i0 := ((HT5.out.below HB6.out).2.2.2.2.fact HP4.out).1; have i1 := ((HT5.out.below HB6.out).2.2.2.2.fact HP4.out).2; clear hb6))
        have HT7 := Lib.hid ((HT5.out.below HB6.out).slot s (n2 : Int))
        have HX7 := Lib.hid ((HX5.out.below HB6.out HX5.out.lt).setOff (g' := g1) (i := s) (v := .int .i64 (n2 : Int)) (by have := HQ.out.2.1; omega))
        have HB7 := Lib.hid ((HB5.out.trans (HB6.out.mono HB5.out.size)).setCell (p := ⟨g1, s, none⟩) HQ.out.2.2.1 (.int .i64 (n2 : Int)))
        clear i0 i1 b0 b1
        generalize w6.setCell ⟨g1, s, none⟩ (.int .i64 (n2 : Int)) = w7 at *
        have HC7 := Lib.hid HT7.out.2.2.2.1
        have HE7 := Lib.hid HT7.out.2.2.2.2.2.1
        rw [List.length_set, HP1.out, HP2.out] at HC7
        rw [HP2.out] at HE7
        have t1 := HC7.out.cell 1
        have x0 := HX7.out.cell 0
        have x1 := HX7.out.cell 1
        have x2 := HX7.out.cell 2
        have x3 := HX7.out.cell 3
        have HN8 := Lib.hid (show (P2 ++ [(⟨e.key, e.hash, e.val, true⟩ : Ent)]).length = n2 + 1 by rw [List.length_append, HP2.out]; rfl)
        go_wp2_with (first | (refine appE rfl (.tmp 36) (.tmp 38) rfl w1.heap.size _ P2 [(⟨e.key, e.hash, e.val, true⟩ : Ent)] (some ⟨w7.heap.size, 0, none⟩) 1 1 rfl rfl (fun e => by cases e) rfl (HE7.out.below ((Below.refl _ _).alloc (Nat.le_refl _) _)) (show Re _ _ _ from .inr ⟨_, rfl, en_one (e := (⟨e.key, e.hash, e.val, true⟩ : Ent)) (Blk.newest w7 57 #[.string e.key, .int .i64 e.hash, .int .i64 e.val, .bool true])⟩) (by rw [HP2.out]; omega) (show w1.heap.size ≤ _ from by have := HB7.out.size; first | (simp; omega) | omega) (n2 + 1) HN8.out ?_; intro a3 c3 w8 ho8 hg8 hb8; have HA8 := Lib.hid (TbT.app (T := 26) (e := (⟨e.key, e.hash, e.val, true⟩ : Ent)) (a3 := a3) (c3 := c3) (by decide) HT7.out ((Below.refl _ _).alloc (Nat.le_refl _) _) (by rw [HP2.out]; exact hg8) (by rw [HN8.out]; exact ho8)); have HC8 := Lib.hid HA8.out.1; have HT9 := Lib.hid HA8.out.2; rw [List.length_set, HP1.out, HP2.out] at HC8; rw [HN8.out] at HT9; have HB8 := Lib.hid (show Below w1.heap.size w1 w8 from HB7.out.trans (((Below.refl w1.heap.size w7).alloc HB7.out.size _).trans hb8)); have u0 := HC8.out.cell 0; have u1 := HC8.out.cell 1; have u2 := HC8.out.free 0; have u3 := HC8.out.free 1; clear ho8 hg8 hb8))
        have HI2 := Lib.hid (show PkI 26 w1 (w8.setCell ⟨bt, 1, none⟩ (.slice a3 (n2 + 1) c3)) c es (k + 1) bt g1 cp from ⟨HB8.out.setCell (p := ⟨bt, 1, none⟩) HQ.out.2.2.2.2 _, a3, c3, by rw [HLE2.out]; have h9 := HT9.out; rw [HE2.out] at h9; exact h9⟩)
        go_roundw
        case rel => exact ⟨k + 1, by omega, by go_num, HI2⟩
        case measure => simp [intOf]; try omega
    · obtain rfl : k = ne := by omega
      clear hltk
      obtain ⟨a2, c2', ht⟩ := HI.out.2
      rw [List.take_of_length_le (by rw [HNE.out]; exact Nat.le_refl _)] at ht
      have HTk := Lib.hid ht
      have HC := Lib.hid ht.2.2.2.1
      have HR := Lib.hid (HY1.out.below HI.out.1 HY1.out.lt)
      clear ht
      generalize pkd c es = PR at *
      obtain ⟨P1, P2⟩ := PR
      dsimp only at HTk HC ⊢
      generalize hp1 : P1.length = n1 at *
      generalize hp2 : P2.length = n2 at *
      have HP1 := Lib.hid hp1
      have HP2 := Lib.hid hp2
      clear hp1 hp2
      have t0 := HC.out.cell 0
      have t1 := HC.out.cell 1
      have f0 := HR.out.free 0
      have f1 := HR.out.free 1
      have z0 := HR.out.cell 0
      have z1 := HR.out.cell 1
      go_wp2_with fail
      have HZ := Lib.hid (two_set HR.out (.slice (some ⟨g1, 0, none⟩) n1 cp) (.slice a2 n2 c2'))
      have hz := HSZ.out
      have hg1 := HTk.out.2.2.2.2.lt1
      exact bodyPost_ret (v := .agg #[.slice (some ⟨g1, 0, none⟩) n1 cp, .slice a2 n2 c2']) (results_cell_row rfl _ _ (w.heap.size + 1) 26 _ (0, 0) _ rfl HZ.out Try.underlying26 rfl (by kernel_rfl)) rfl
        ⟨g1, cp, a2, c2', by rw [HP1.out, HP2.out], ((HTk.out.2.2.2.2.setOff (by omega) (by rintro g9 rfl; have := HTk.out.2.2.2.2.lt2; omega)).setOff (by omega) (by rintro g9 rfl; have := HTk.out.2.2.2.2.lt2; omega)).wide (by omega), ((HB1.out.trans (HI.out.1.mono HB1.out.size)).setCell (by show w.heap.size ≤ w.heap.size + 1; omega) _).setCell (by show w.heap.size ≤ w.heap.size + 1; omega) _⟩
noncomputable def pkV (ix : List Int) (es : List Ent) : List Int × List Ent := if dokB ix es then pkd (scN (liveN es)) es else ([], [])
def OdQ (R : List Int × List Ent) (w : World) (e : Ending) (w' : World) : Prop := ∃ a1 c1 a2 c2, e = .returned (.agg #[.slice a1 R.1.length c1, .slice a2 R.2.length c2]) ∧ OdD w' w.heap.size R a1 c1 a2 c2 ∧ Below w.heap.size w w'
theorem ent_hk {ix : List Int} {es : List Ent} (h : DOk ix es) : ∀ (i : Nat) (e : Ent), es[i]? = some e → e.live = true → e.hash = (hk e.key : Int) := by
  intro i e he hl
  have h1 := (h.2.2 i e he).1
  unfold entOk at h1
  rw [if_pos hl] at h1
  simp only [Bool.and_eq_true, beq_iff_eq] at h1
  obtain ⟨⟨h2, h3⟩, _⟩ := h1
  rw [h3]
  unfold hashV hk
  rw [if_pos (by unfold keyB at h2; simpa using h2)]
theorem pkd_len {ix : List Int} {es : List Ent} (h : DOk ix es) : (pkd (scN (liveN es)) es).1.length ≤ 128 ∧ (pkd (scN (liveN es)) es).2.length ≤ 128 := by
  have h1 := pkd_ok (c := scN (liveN es)) (es := es) (slotN_sc _) (once_of h) (by have := scN_room h.2.1; omega) es.length (Nat.le_refl _)
  rw [List.take_length] at h1
  have h2 := scN_le (liveN es)
  have h3 := h1.1.2.1
  have h4 := h1.2.1
  omega
theorem pkV_len {ix : List Int} {es : List Ent} : (pkV ix es).1.length ≤ 128 ∧ (pkV ix es).2.length ≤ 128 := by
  unfold pkV
  split
  · next h => exact pkd_len (dok_of h)
  · simp
set_option maxRecDepth 20000 in
set_option maxHeartbeats 8000000 in
theorem implPack_any (ix : List Int) (es : List Ent) (g c1 c2 : Nat) (a : Option Addr) (w : World) (h : Tb w g ix a es) (hl : es.length ≤ 1048576) (hm : ix.length ≤ 1048576) (hks : KeysS es) :
    Calls Try.prog 22 #[.agg #[.slice (some ⟨g, 0, none⟩) ix.length c1, .slice a es.length c2]] w (OdQ (pkV ix es) w) := by
  obtain ⟨w1, hw1⟩ : ∃ w1, w1 = (w.alloc (Obj.cells #[.slice (some ⟨g, 0, none⟩) ix.length c1, .slice a es.length c2] 26)).alloc (Obj.cells #[.slice none 0 0, .slice none 0 0] 26) := ⟨_, rfl⟩
  have HB1 := Lib.hid (show Below w.heap.size w w1 from by rw [hw1]; exact ((Below.refl _ _).alloc (Nat.le_refl _) _).alloc (by simp) _)
  have HX1 := Lib.hid (show Blk w1 w.heap.size 26 #[.slice (some ⟨g, 0, none⟩) ix.length c1, .slice a es.length c2] from by rw [hw1]; exact (Blk.newest w _ _).alloc _)
  have HY1 := Lib.hid (show Blk w1 (w.heap.size + 1) 26 #[.slice none 0 0, .slice none 0 0] from by rw [hw1]; exact Blk.new _ _ _ (by simp))
  have HT1 := Lib.hid (h.below HB1.out)
  have HD := Lib.hid (dictOk_any ix es g c1 c2 a w1 HT1.out hl hm hks)
  have HW1 := Lib.hid hw1
  have HSZ := Lib.hid (show w1.heap.size = w.heap.size + 2 by rw [hw1]; simp)
  unfold pkV
  cases hdo : dokB ix es with
  | false =>
    rw [hdo] at HD
    rw [if_neg (by decide)]
    generalize hmm : ix.length = m at *
    generalize hne : es.length = ne at *
    clear hdo h hw1 hmm hne
    go_enter Try.func22, Try.ntmps22
    go_wp2_with fail
    rw [← HW1.out]
    refine HD.out.mono ?_
    rintro e w2 ⟨rfl, hb2⟩
    have HB2 := Lib.hid (HB1.out.trans (hb2.mono HB1.out.size))
    have HR := Lib.hid (HY1.out.below hb2 HY1.out.lt)
    have z0 := HR.out.cell 0
    have z1 := HR.out.cell 1
    have z2 := HR.out.free 0
    have z3 := HR.out.free 1
    clear hb2
    go_wp2_with fail
    have HZ := Lib.hid (two_set HR.out (.slice none 0 0) (.slice none 0 0))
    exact bodyPost_ret (v := .agg #[.slice none 0 0, .slice none 0 0]) (results_cell_row rfl _ _ (w.heap.size + 1) 26 _ (0, 0) _ rfl HZ.out Try.underlying26 rfl (by kernel_rfl)) rfl
      ⟨none, 0, none, 0, rfl, OdD.none _ _, (HB2.out.setCell (by show w.heap.size ≤ w.heap.size + 1; omega) _).setCell (by show w.heap.size ≤ w.heap.size + 1; omega) _⟩
  | true =>
    have hd := dok_of hdo
    rw [hdo] at HD
    rw [if_pos rfl]
    have HOw := Lib.hid (fun w h => ownTable_any ix es g c1 c2 a w h hl hm hks)
    have HPk := Lib.hid (fun g c1 c2 a w h => packed_any ix es g c1 c2 0 a w h hl hm (by have := hd.2.1; omega) (once_of hd) (ent_hk hd))
    rw [Nat.add_zero] at HPk
    unfold OtP at HOw HPk
    clear hdo h hw1 hd
    generalize pkd (scN (liveN es)) es = PR at *
    obtain ⟨P1, P2⟩ := PR
    dsimp only at HPk ⊢
    generalize hmm : ix.length = m at *
    generalize hne : es.length = ne at *
    have HNE := Lib.hid hne
    have HMM := Lib.hid hmm
    generalize hp1 : P1.length = n1 at *
    generalize hp2 : P2.length = n2 at *
    have HP1 := Lib.hid hp1
    have HP2 := Lib.hid hp2
    clear hmm hne hp1 hp2
    go_enter Try.func22, Try.ntmps22
    have b0 := HX1.out.cell 0
    have b1 := HX1.out.cell 1
    go_wp2_with fail
    rw [← HW1.out]
    refine HD.out.mono ?_
    rintro e w2 ⟨rfl, hb2⟩
    have HB2 := Lib.hid (HB1.out.trans (hb2.mono HB1.out.size))
    have HR2 := Lib.hid (HY1.out.below hb2 HY1.out.lt)
    have HX2 := Lib.hid (HX1.out.below hb2 HX1.out.lt)
    have HT2 := Lib.hid (HT1.out.below hb2)
    have HW2 := Lib.hid (show w.heap.size + 2 ≤ w2.heap.size by have := hb2.size; have := HSZ.out; omega)
    clear hb2 b0 b1
    have b0 := HX2.out.cell 0
    have b1 := HX2.out.cell 1
    go_wp2_with fail
    refine (HOw.out _ HT2.out).mono ?_
    rintro e w3 ⟨g1, d1, a2, d2, rfl, ho3, hb3⟩
    have HO3 := Lib.hid ho3.tb
    have HB3 := Lib.hid (HB2.out.trans (hb3.mono HB2.out.size))
    have HR3 := Lib.hid (HR2.out.below hb3 HR2.out.lt)
    have HQ3 := Lib.hid hb3.size
    clear ho3 hb3 b0 b1
    go_wp2_with fail
    refine (HPk.out _ _ _ _ _ HO3.out).mono ?_
    rintro e w4 ⟨g3, d3, a4, d4, rfl, ho4, hb4⟩
    have HO4 := Lib.hid ho4
    have HB4 := Lib.hid (HB3.out.trans (hb4.mono HB3.out.size))
    have HR4 := Lib.hid (HR3.out.below hb4 HR3.out.lt)
    clear ho4 hb4
    have z0 := HR4.out.cell 0
    have z1 := HR4.out.cell 1
    have z2 := HR4.out.free 0
    have z3 := HR4.out.free 1
    go_wp2_with fail
    have HZ := Lib.hid (two_set HR4.out (.slice (some ⟨g3, 0, none⟩) n1 d3) (.slice a4 n2 d4))
    have hq := HQ3.out
    have hw := HW2.out
    have h1 := HO4.out.lt1.1
    have h2 : ∀ g9, a4 = some ⟨g9, 0, none⟩ → w3.heap.size ≤ g9 := by rintro g9 rfl; exact HO4.out.lt2.1
    exact bodyPost_ret (v := .agg #[.slice (some ⟨g3, 0, none⟩) n1 d3, .slice a4 n2 d4]) (results_cell_row rfl _ _ (w.heap.size + 1) 26 _ (0, 0) _ rfl HZ.out Try.underlying26 rfl (by kernel_rfl)) rfl
      ⟨some ⟨g3, 0, none⟩, d3, a4, d4, by rw [HP1.out, HP2.out], (((HO4.out.setOff (by omega) (by intro g9 h9; have := h2 g9 h9; omega)).setOff (by omega) (by intro g9 h9; have := h2 g9 h9; omega)).wide (by omega)).od, (HB4.out.setCell (by show w.heap.size ≤ w.heap.size + 1; omega) _).setCell (by show w.heap.size ≤ w.heap.size + 1; omega) _⟩
set_option maxRecDepth 20000 in
set_option maxHeartbeats 8000000 in
theorem specPack_any (ix : List Int) (es : List Ent) (g c1 c2 : Nat) (a : Option Addr) (w : World) (h : Tb w g ix a es) (hl : es.length ≤ 1048576) (hm : ix.length ≤ 1048576) (hks : KeysS es) :
    Calls Try.prog 33 #[.agg #[.slice (some ⟨g, 0, none⟩) ix.length c1, .slice a es.length c2]] w (OdQ (pkV ix es) w) := by
  obtain ⟨w1, hw1⟩ : ∃ w1, w1 = (w.alloc (Obj.cells #[.slice (some ⟨g, 0, none⟩) ix.length c1, .slice a es.length c2] 26)).alloc (Obj.cells #[.slice none 0 0, .slice none 0 0] 26) := ⟨_, rfl⟩
  have HB1 := Lib.hid (show Below w.heap.size w w1 from by rw [hw1]; exact ((Below.refl _ _).alloc (Nat.le_refl _) _).alloc (by simp) _)
  have HX1 := Lib.hid (show Blk w1 w.heap.size 26 #[.slice (some ⟨g, 0, none⟩) ix.length c1, .slice a es.length c2] from by rw [hw1]; exact (Blk.newest w _ _).alloc _)
  have HY1 := Lib.hid (show Blk w1 (w.heap.size + 1) 26 #[.slice none 0 0, .slice none 0 0] from by rw [hw1]; exact Blk.new _ _ _ (by simp))
  have HT1 := Lib.hid (h.below HB1.out)
  have HD := Lib.hid (validDict_any ix es g c1 c2 a w1 HT1.out hl hm hks)
  have HW1 := Lib.hid hw1
  have HSZ := Lib.hid (show w1.heap.size = w.heap.size + 2 by rw [hw1]; simp)
  unfold pkV
  cases hdo : dokB ix es with
  | false =>
    rw [hdo] at HD
    rw [if_neg (by decide)]
    generalize hmm : ix.length = m at *
    generalize hne : es.length = ne at *
    clear hdo h hw1 hmm hne
    go_enter Try.func33, Try.ntmps33
    go_wp2_with fail
    rw [← HW1.out]
    refine HD.out.mono ?_
    rintro e w2 ⟨rfl, hb2⟩
    have HB2 := Lib.hid (HB1.out.trans (hb2.mono HB1.out.size))
    have HR := Lib.hid (HY1.out.below hb2 HY1.out.lt)
    have z0 := HR.out.cell 0
    have z1 := HR.out.cell 1
    have z2 := HR.out.free 0
    have z3 := HR.out.free 1
    clear hb2
    go_wp2_with fail
    have HZ := Lib.hid (two_set HR.out (.slice none 0 0) (.slice none 0 0))
    exact bodyPost_ret (v := .agg #[.slice none 0 0, .slice none 0 0]) (results_cell_row rfl _ _ (w.heap.size + 1) 26 _ (0, 0) _ rfl HZ.out Try.underlying26 rfl (by kernel_rfl)) rfl
      ⟨none, 0, none, 0, rfl, OdD.none _ _, (HB2.out.setCell (by show w.heap.size ≤ w.heap.size + 1; omega) _).setCell (by show w.heap.size ≤ w.heap.size + 1; omega) _⟩
  | true =>
    have hd := dok_of hdo
    rw [hdo] at HD
    rw [if_pos rfl]
    have HLv := Lib.hid (fun w' h => liveEntries_any (.slice (some ⟨g, 0, none⟩) ix.length c1) es a c2 w' h hl rfl)
    have HSf := Lib.hid (fun w => sizeFor_any (liveN es) w (by have := hd.2.1; omega))
    have HPk := Lib.hid (fun w h => specPacked_any ix es g c1 c2 (scN (liveN es)) a w h hl hm (slotN_sc _) (by have := scN_room hd.2.1; omega) (once_of hd) hks)
    have hlv := hd.2.1
    unfold OtP at HPk
    clear hdo h hw1 hd
    generalize pkd (scN (liveN es)) es = PR at *
    generalize scN (liveN es) = c9 at *
    generalize liveN es = lv at *
    obtain ⟨P1, P2⟩ := PR
    dsimp only at HPk ⊢
    generalize hmm : ix.length = m at *
    generalize hne : es.length = ne at *
    have HNE := Lib.hid hne
    have HMM := Lib.hid hmm
    generalize hp1 : P1.length = n1 at *
    generalize hp2 : P2.length = n2 at *
    have HP1 := Lib.hid hp1
    have HP2 := Lib.hid hp2
    clear hmm hne hp1 hp2
    go_enter Try.func33, Try.ntmps33
    have b0 := HX1.out.cell 0
    have b1 := HX1.out.cell 1
    go_wp2_with fail
    rw [← HW1.out]
    refine HD.out.mono ?_
    rintro e w2 ⟨rfl, hb2⟩
    have HB2 := Lib.hid (HB1.out.trans (hb2.mono HB1.out.size))
    have HR2 := Lib.hid (HY1.out.below hb2 HY1.out.lt)
    have HX2 := Lib.hid (HX1.out.below hb2 HX1.out.lt)
    have HT2 := Lib.hid (HT1.out.below hb2)
    have HW2 := Lib.hid (show w.heap.size + 2 ≤ w2.heap.size by have := hb2.size; have := HSZ.out; omega)
    clear hb2 b0 b1
    have b0 := HX2.out.cell 0
    have b1 := HX2.out.cell 1
    have HS := Lib.hid (fun w' (hb : Below w2.heap.size w2 w') => show w'.cell? ⟨w.heap.size, 0, none⟩ = some (.slice (some ⟨g, 0, none⟩) m c1) ∧ w'.cell? ⟨w.heap.size, 1, none⟩ = some (.slice a ne c2) from
      have hX := HX2.out.below hb HX2.out.lt
      ⟨hX.cell 0, hX.cell 1⟩)
    have HSs := Lib.hid (fun w' (u v : Value) (hb : Below w2.heap.size w2 w') => show ((w'.setCell ⟨w.heap.size + 1, 0, none⟩ u).setCell ⟨w.heap.size + 1, 1, none⟩ v).cell? ⟨w.heap.size, 0, none⟩ = some (.slice (some ⟨g, 0, none⟩) m c1) ∧ ((w'.setCell ⟨w.heap.size + 1, 0, none⟩ u).setCell ⟨w.heap.size + 1, 1, none⟩ v).cell? ⟨w.heap.size, 1, none⟩ = some (.slice a ne c2) from
      have hX := ((HX2.out.below hb HX2.out.lt).setOff (g' := w.heap.size + 1) (i := 0) (v := u) (by omega)).setOff (g' := w.heap.size + 1) (i := 1) (v := v) (by omega)
      ⟨hX.cell 0, hX.cell 1⟩)
    go_wp2_with fail
    go_region_held3 (fun w' => w'.cell? ⟨w.heap.size, 0, none⟩ = some (.slice (some ⟨g, 0, none⟩) m c1) ∧ w'.cell? ⟨w.heap.size, 1, none⟩ = some (.slice a ne c2))
      (first | exact HS.out _ (Below.refl _ _).drew | exact HSs.out _ _ _ HB24.out | exact HS.out _ HB24.out | exact HS.out _ HB23.out)
      (first | (go_at_call 69; refine (HLv.out _ (HT2.out.below (Below.refl _ _).drew).2.2).mono ?_; rintro r w3 ⟨rfl, hb3⟩; have HB23 := Lib.hid (show Below w2.heap.size w2 w3 from ((Below.refl _ w2).drew).trans hb3); clear hb3) | (go_at_call 68; refine (HSf.out _).mono ?_; rintro r w9 ⟨rfl, rfl⟩) | (go_at_call 67; refine (HPk.out _ (HT2.out.below HB23.out)).mono ?_; rintro r w4 ⟨g3, d3, a4, d4, rfl, ho4, hb4⟩; have HO4 := Lib.hid ho4; have HB24 := Lib.hid (show Below w2.heap.size w2 w4 from HB23.out.trans (hb4.mono HB23.out.size)); have HB4 := Lib.hid (HB2.out.trans (HB24.out.mono HB2.out.size)); have HR4 := Lib.hid (HR2.out.below HB24.out HR2.out.lt); have z0 := HR4.out.cell 0; have z1 := HR4.out.cell 1; have z2 := HR4.out.free 0; have z3 := HR4.out.free 1; have HQ3 := Lib.hid (show w2.heap.size ≤ w3.heap.size from HB23.out.size); clear ho4 hb4))
    go_wp2_with fail
    have HZ := Lib.hid (two_set HR4.out (.slice (some ⟨g3, 0, none⟩) n1 d3) (.slice a4 n2 d4))
    have hq := HQ3.out
    have hw := HW2.out
    have h1 := HO4.out.lt1.1
    have h2 : ∀ g9, a4 = some ⟨g9, 0, none⟩ → w3.heap.size ≤ g9 := by rintro g9 rfl; exact HO4.out.lt2.1
    exact bodyPost_ret (v := .agg #[.slice (some ⟨g3, 0, none⟩) n1 d3, .slice a4 n2 d4]) (results_cell_row rfl _ _ (w.heap.size + 1) 26 _ (0, 0) _ rfl HZ.out Try.underlying26 rfl (by kernel_rfl)) rfl
      ⟨some ⟨g3, 0, none⟩, d3, a4, d4, by rw [HP1.out, HP2.out], (((HO4.out.setOff (by omega) (by intro g9 h9; have := h2 g9 h9; omega)).setOff (by omega) (by intro g9 h9; have := h2 g9 h9; omega)).wide (by omega)).od, (HB4.out.setCell (by show w.heap.size ≤ w.heap.size + 1; omega) _).setCell (by show w.heap.size ≤ w.heap.size + 1; omega) _⟩
end Go.Proofs.Ytibglmcpbbikdaa
