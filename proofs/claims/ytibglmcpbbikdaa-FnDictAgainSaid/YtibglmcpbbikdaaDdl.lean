/- Dictionaries, keys and numbers drawn for the laws of chapter 3. -/
import Derived.Test.YtibglmcpbbikdaaDdr
import Derived.Test.YtibglmcpbbikdaaDwr
import Derived.Laws.ResultCell
import Derived.Deep.RegionHeld3
namespace Go.Proofs.Ytibglmcpbbikdaa
open Go.RowKit
theorem cr_below {w w' : World} {a : Option Addr} {n cap : Nat} (h : Cr w a n cap) (hb : Below w.heap.size w w') : Cr w' a n cap := by
  refine ⟨h.1, h.2.1, ?_⟩
  rcases h.2.2 with h1 | ⟨x, hx, hc⟩
  · exact Or.inl h1
  · refine Or.inr ⟨x, hx, fun i hi => ?_⟩
    obtain ⟨c, h1, h2⟩ := hc i hi
    exact ⟨c, h1, by rw [hb.cell (World.block_lt_of_cell? w _ h2)]; exact h2⟩
theorem add_twice (x : Addr) (i j : Nat) : (x.add i).add j = x.add (i + j) := by
  unfold Addr.add
  by_cases hi : i = 0
  · subst hi; simp
  · by_cases hj : j = 0
    · subst hj; simp
    · rw [if_neg hi, if_neg hj, if_neg (by omega), Nat.add_assoc]
theorem cr_half {w : World} {x : Addr} {n cap : Nat} (h : Cr w (some x) n cap) : Cr w (some (x.add (n / 2))) (n - n / 2) (cap - n / 2) := by
  refine ⟨by have := h.1; omega, fun h1 => by simp at h1, ?_⟩
  rcases h.2.2 with h1 | ⟨y, hx, hc⟩
  · exact Or.inl (by omega)
  · injection hx with hx
    subst hx
    refine Or.inr ⟨_, rfl, fun i hi => ?_⟩
    rw [add_twice]
    exact hc _ (by omega)
def HalfP (w : World) (e : Ending) (w' : World) : Prop := w = w' ∧ ∃ a n cap, e = .returned (.slice a n cap) ∧ Cr w a n cap
theorem half_any (w : World) (a : Option Addr) (n cap : Nat) (h : Cr w a n cap) (hm : n ≤ 1048576) : Calls Try.prog 47 #[.slice a n cap] w (HalfP w) := by
  have hcap := h.1
  cases a with
  | none =>
    obtain ⟨rfl, rfl⟩ := h.2.1 rfl
    have HR := Lib.hid h
    clear h
    go_enter Try.func47, Try.ntmps47
    go_wp2
    go_ret
    exact ⟨rfl, _, _, _, rfl, HR.out⟩
  | some x =>
    have HR := Lib.hid (cr_half h)
    have HZ := Lib.hid (show cap = n / 2 → Cr w (some x) (n - n / 2) 0 from fun h1 => ⟨by omega, fun h2 => by simp at h2, Or.inl (by omega)⟩)
    clear h
    go_enter Try.func47, Try.ntmps47
    go_wp2
    all_goals first | omega | skip
    · go_ret
      exact ⟨rfl, _, _, _, rfl, HZ.out (by assumption)⟩
    · go_ret
      exact ⟨rfl, _, _, _, rfl, HR.out⟩
theorem res_ctt {fn : Func} {p u v : Tmp} {ty : TypeId} (h : fn.results = #[.cell p ty, .tmp u, .tmp v]) (tmps : Array Value) (w : World) (g : Nat) (cs : Array Value)
    (hp : tmps.getD p undef = .pointer (some ⟨g, 0, none⟩)) (hl : (loadVar ty ⟨g, 0, none⟩).run Try.prog w = .ok (.agg cs) w) :
    (results fn tmps).run Try.prog w = .ok (.tuple #[.agg cs, tmps.getD u undef, tmps.getD v undef]) w := by
  have hp' : tmps[p]?.getD undef = .pointer (some ⟨g, 0, none⟩) := by simpa using hp
  simp only [results, h]
  simp [Result.andThen, hp', asAddr, hl]
theorem res_cc {fn : Func} {p u : Tmp} {ty : TypeId} (h : fn.results = #[.cell p ty, .cell u ty]) (tmps : Array Value) (w : World) (g g2 : Nat) (cs ds : Array Value)
    (hp : tmps.getD p undef = .pointer (some ⟨g, 0, none⟩)) (hl : (loadVar ty ⟨g, 0, none⟩).run Try.prog w = .ok (.agg cs) w)
    (hu : tmps.getD u undef = .pointer (some ⟨g2, 0, none⟩)) (hl2 : (loadVar ty ⟨g2, 0, none⟩).run Try.prog w = .ok (.agg ds) w) :
    (results fn tmps).run Try.prog w = .ok (.tuple #[.agg cs, .agg ds]) w := by
  have hp' : tmps[p]?.getD undef = .pointer (some ⟨g, 0, none⟩) := by simpa using hp
  have hu' : tmps[u]?.getD undef = .pointer (some ⟨g2, 0, none⟩) := by simpa using hu
  simp only [results, h]
  simp [Sem.run_bind, Result.andThen, hp', hu', asAddr, hl, hl2]
theorem off_two (w : World) {b x i : Nat} {u v : Value} (h : b ≠ x) : ((w.setCell ⟨x, 0, none⟩ u).setCell ⟨x, 1, none⟩ v).cell? ⟨b, i, none⟩ = w.cell? ⟨b, i, none⟩ := World.cell?_of_block (by rw [Below.heap_setCell _ _ _ _ h, Below.heap_setCell _ _ _ _ h])
theorem OwD.grownG {w w' : World} {b g g1 c1 c2 : Nat} {ix : List Int} {es : List Ent} {a2 : Option Addr} (h : OwD w b ix es g1 c1 a2 c2) (hg : w.grownBy w' (some g)) (hgb : g < b) : OwD w' b ix es g1 c1 a2 c2 := by
  obtain ⟨h5, h6, h7⟩ := h
  refine ⟨h5.grown hg (.inr ?_), h6.grown hg ?_, h7⟩
  · have := (h5.lt g1 rfl).1
    simp [Value.ownBlock]; omega
  · rcases h6.form with ⟨e, _⟩ | ⟨q, c, e, hq, _⟩
    · injection e with e _ _; subst e; exact .inl rfl
    · injection e with e _ _; subst e
      refine .inr ?_
      simp [Value.ownBlock]; omega
/-- A dictionary of the call's own. -/
def DoP (w : World) (e : Ending) (w' : World) : Prop := ∃ ix es g1 c1 a2 c2, e = .returned (.agg #[.slice (some ⟨g1, 0, none⟩) ix.length c1, .slice a2 es.length c2]) ∧ Dm ix es ∧ OwD w' w.heap.size ix es g1 c1 a2 c2 ∧ Below w.heap.size w w'
/-- A key beside it. -/
def DgP (w : World) (e : Ending) (w' : World) : Prop := ∃ ix es g1 c1 a2 c2 key, e = .returned (.tuple #[.agg #[.slice (some ⟨g1, 0, none⟩) ix.length c1, .slice a2 es.length c2], .string key]) ∧ Dm ix es ∧ key.size ≤ 1010 ∧ OwD w' w.heap.size ix es g1 c1 a2 c2 ∧ Below w.heap.size w w'
/-- A key and a number beside it. -/
def DsP (w : World) (e : Ending) (w' : World) : Prop := ∃ ix es g1 c1 a2 c2 key z, e = .returned (.tuple #[.agg #[.slice (some ⟨g1, 0, none⟩) ix.length c1, .slice a2 es.length c2], .string key, .int .i64 z]) ∧ Dm ix es ∧ key.size ≤ 1010 ∧ (-9223372036854775808 ≤ z ∧ z ≤ 9223372036854775807) ∧ OwD w' w.heap.size ix es g1 c1 a2 c2 ∧ Below w.heap.size w w'
theorem grown_two {w w1 w2 : World} {g : Nat} {T : TypeId} {cs : Array Value} (hX : Blk w1 w.heap.size T cs) (hg : w1.grownBy w2 (some g)) (hne : g ≠ w.heap.size) : Blk w2 w.heap.size T cs := (hg.block _ hX.lt (by simp; omega)).trans hX
set_option maxRecDepth 20000 in
set_option maxHeartbeats 2000000 in
theorem dDictOk (w : World) (a : Option Addr) (n cap : Nat) (h : Cr w a n cap) : Calls Try.prog 16 #[.slice a n cap] w (DoP w) := by
  have HN := Lib.hid (fun o => newRnd_any (w.alloc o) a n cap (cr_below h ((Below.refl _ _).alloc (Nat.le_refl _) _)))
  clear h
  go_enter Try.func16, Try.ntmps16
  go_wp2_with fail
  refine (HN.out _).mono ?_
  rintro e w1 ⟨rfl, hb1, m, hr1⟩
  have HX1 := Lib.hid (show Blk w1 w.heap.size 26 #[.slice none 0 0, .slice none 0 0] from Blk.below (Blk.newest w _ _) hb1 (by simp))
  have HB1 := Lib.hid (show Below w.heap.size w w1 from ((Below.refl _ w).alloc (Nat.le_refl _) _).trans (hb1.mono (by simp)))
  have HS1 := Lib.hid (show w.heap.size + 1 ≤ w1.heap.size by have := hb1.size; simpa using this)
  have HR1 := Lib.hid (show RI w1 (w.heap.size + 1) a m cap 0 by simpa using hr1)
  clear hb1 hr1
  go_wp2_with fail
  refine (dict_draw w1 (w.heap.size + 1) m cap 0 a HR1.out (by omega)).mono ?_
  rintro e w2 ⟨ix, es, g1, c1, a2, c2, rfl, hd, ho, hdr⟩
  have HX2 := Lib.hid (grown_two HX1.out hdr.1 (by omega))
  have HD := Lib.hid hd
  have HO := Lib.hid ho
  have HB2 := Lib.hid (below_row HB1.out hdr.1 (by omega))
  clear hd ho hdr
  have c0 := HX2.out.cell 0
  have c1' := HX2.out.cell 1
  have f0 := HX2.out.free 0
  have f1 := HX2.out.free 1
  go_wp2_with fail
  have HZ := Lib.hid (two_set HX2.out (.slice (some ⟨g1, 0, none⟩) ix.length c1) (.slice a2 es.length c2))
  exact bodyPost_ret (v := .agg #[.slice (some ⟨g1, 0, none⟩) ix.length c1, .slice a2 es.length c2]) (results_cell_row rfl _ _ w.heap.size 26 _ (0, 0) _ rfl HZ.out Try.underlying26 rfl (by kernel_rfl)) rfl ⟨ix, es, g1, c1, a2, c2, rfl, HD.out, by
    have h9 := HO.out
    have k1 := h9.lt1.1
    have k0 := HS1.out
    have k2 : ∀ q, a2 = some ⟨q, 0, none⟩ → q ≠ w.heap.size := by rintro q rfl; have := h9.lt2.1; omega
    exact ((h9.setOff (by omega) k2).setOff (by omega) k2).wide (by omega), (HB2.out.setCell (p := ⟨w.heap.size, 0, none⟩) (Nat.le_refl _) _).setCell (p := ⟨w.heap.size, 1, none⟩) (Nat.le_refl _) _⟩
set_option maxRecDepth 20000 in
set_option maxHeartbeats 2000000 in
theorem dDictPack (w : World) (a : Option Addr) (n cap : Nat) (h : Cr w a n cap) : Calls Try.prog 32 #[.slice a n cap] w (DoP w) := by
  have HN := Lib.hid (fun o => newRnd_any (w.alloc o) a n cap (cr_below h ((Below.refl _ _).alloc (Nat.le_refl _) _)))
  clear h
  go_enter Try.func32, Try.ntmps32
  go_wp2_with fail
  refine (HN.out _).mono ?_
  rintro e w1 ⟨rfl, hb1, m, hr1⟩
  have HX1 := Lib.hid (show Blk w1 w.heap.size 26 #[.slice none 0 0, .slice none 0 0] from Blk.below (Blk.newest w _ _) hb1 (by simp))
  have HB1 := Lib.hid (show Below w.heap.size w w1 from ((Below.refl _ w).alloc (Nat.le_refl _) _).trans (hb1.mono (by simp)))
  have HS1 := Lib.hid (show w.heap.size + 1 ≤ w1.heap.size by have := hb1.size; simpa using this)
  have HR1 := Lib.hid (show RI w1 (w.heap.size + 1) a m cap 0 by simpa using hr1)
  clear hb1 hr1
  go_wp2_with fail
  refine (dict_draw w1 (w.heap.size + 1) m cap 0 a HR1.out (by omega)).mono ?_
  rintro e w2 ⟨ix, es, g1, c1, a2, c2, rfl, hd, ho, hdr⟩
  have HX2 := Lib.hid (grown_two HX1.out hdr.1 (by omega))
  have HD := Lib.hid hd
  have HO := Lib.hid ho
  have HB2 := Lib.hid (below_row HB1.out hdr.1 (by omega))
  clear hd ho hdr
  have c0 := HX2.out.cell 0
  have c1' := HX2.out.cell 1
  have f0 := HX2.out.free 0
  have f1 := HX2.out.free 1
  go_wp2_with fail
  have HZ := Lib.hid (two_set HX2.out (.slice (some ⟨g1, 0, none⟩) ix.length c1) (.slice a2 es.length c2))
  exact bodyPost_ret (v := .agg #[.slice (some ⟨g1, 0, none⟩) ix.length c1, .slice a2 es.length c2]) (results_cell_row rfl _ _ w.heap.size 26 _ (0, 0) _ rfl HZ.out Try.underlying26 rfl (by kernel_rfl)) rfl ⟨ix, es, g1, c1, a2, c2, rfl, HD.out, by
    have h9 := HO.out
    have k1 := h9.lt1.1
    have k0 := HS1.out
    have k2 : ∀ q, a2 = some ⟨q, 0, none⟩ → q ≠ w.heap.size := by rintro q rfl; have := h9.lt2.1; omega
    exact ((h9.setOff (by omega) k2).setOff (by omega) k2).wide (by omega), (HB2.out.setCell (p := ⟨w.heap.size, 0, none⟩) (Nat.le_refl _) _).setCell (p := ⟨w.heap.size, 1, none⟩) (Nat.le_refl _) _⟩
set_option maxRecDepth 20000 in
set_option maxHeartbeats 2000000 in
theorem dDictKeys (w : World) (a : Option Addr) (n cap : Nat) (h : Cr w a n cap) : Calls Try.prog 41 #[.slice a n cap] w (DoP w) := by
  have HN := Lib.hid (fun o => newRnd_any (w.alloc o) a n cap (cr_below h ((Below.refl _ _).alloc (Nat.le_refl _) _)))
  clear h
  go_enter Try.func41, Try.ntmps41
  go_wp2_with fail
  refine (HN.out _).mono ?_
  rintro e w1 ⟨rfl, hb1, m, hr1⟩
  have HX1 := Lib.hid (show Blk w1 w.heap.size 26 #[.slice none 0 0, .slice none 0 0] from Blk.below (Blk.newest w _ _) hb1 (by simp))
  have HB1 := Lib.hid (show Below w.heap.size w w1 from ((Below.refl _ w).alloc (Nat.le_refl _) _).trans (hb1.mono (by simp)))
  have HS1 := Lib.hid (show w.heap.size + 1 ≤ w1.heap.size by have := hb1.size; simpa using this)
  have HR1 := Lib.hid (show RI w1 (w.heap.size + 1) a m cap 0 by simpa using hr1)
  clear hb1 hr1
  go_wp2_with fail
  refine (dict_draw w1 (w.heap.size + 1) m cap 0 a HR1.out (by omega)).mono ?_
  rintro e w2 ⟨ix, es, g1, c1, a2, c2, rfl, hd, ho, hdr⟩
  have HX2 := Lib.hid (grown_two HX1.out hdr.1 (by omega))
  have HD := Lib.hid hd
  have HO := Lib.hid ho
  have HB2 := Lib.hid (below_row HB1.out hdr.1 (by omega))
  clear hd ho hdr
  have c0 := HX2.out.cell 0
  have c1' := HX2.out.cell 1
  have f0 := HX2.out.free 0
  have f1 := HX2.out.free 1
  go_wp2_with fail
  have HZ := Lib.hid (two_set HX2.out (.slice (some ⟨g1, 0, none⟩) ix.length c1) (.slice a2 es.length c2))
  exact bodyPost_ret (v := .agg #[.slice (some ⟨g1, 0, none⟩) ix.length c1, .slice a2 es.length c2]) (results_cell_row rfl _ _ w.heap.size 26 _ (0, 0) _ rfl HZ.out Try.underlying26 rfl (by kernel_rfl)) rfl ⟨ix, es, g1, c1, a2, c2, rfl, HD.out, by
    have h9 := HO.out
    have k1 := h9.lt1.1
    have k0 := HS1.out
    have k2 : ∀ q, a2 = some ⟨q, 0, none⟩ → q ≠ w.heap.size := by rintro q rfl; have := h9.lt2.1; omega
    exact ((h9.setOff (by omega) k2).setOff (by omega) k2).wide (by omega), (HB2.out.setCell (p := ⟨w.heap.size, 0, none⟩) (Nat.le_refl _) _).setCell (p := ⟨w.heap.size, 1, none⟩) (Nat.le_refl _) _⟩
set_option maxRecDepth 20000 in
set_option maxHeartbeats 4000000 in
theorem dDictGet (w : World) (a : Option Addr) (n cap : Nat) (h : Cr w a n cap) : Calls Try.prog 28 #[.slice a n cap] w (DgP w) := by
  have HN := Lib.hid (fun o => newRnd_any (w.alloc o) a n cap (cr_below h ((Below.refl _ _).alloc (Nat.le_refl _) _)))
  clear h
  go_enter Try.func28, Try.ntmps28
  go_wp2_with fail
  refine (HN.out _).mono ?_
  rintro e w1 ⟨rfl, hb1, m, hr1⟩
  have HX1 := Lib.hid (show Blk w1 w.heap.size 26 #[.slice none 0 0, .slice none 0 0] from Blk.below (Blk.newest w _ _) hb1 (by simp))
  have HB1 := Lib.hid (show Below w.heap.size w w1 from ((Below.refl _ w).alloc (Nat.le_refl _) _).trans (hb1.mono (by simp)))
  have HS1 := Lib.hid (show w.heap.size + 1 < w1.heap.size by have := hr1.1.lt; simpa using this)
  have HR1 := Lib.hid (show RI w1 (w.heap.size + 1) a m cap 0 by simpa using hr1)
  clear hb1 hr1
  go_wp2_with fail
  refine (dict_draw w1 (w.heap.size + 1) m cap 0 a HR1.out (by omega)).mono ?_
  rintro e w2 ⟨ix, es, g1, c1, a2, c2, rfl, hd, ho, hdr⟩
  have HX2 := Lib.hid (grown_two HX1.out hdr.1 (by omega))
  have HD := Lib.hid hd
  have HB2 := Lib.hid (below_row HB1.out hdr.1 (by omega))
  obtain ⟨k2, hk2, hr2⟩ := hdr.2
  have HS2 := Lib.hid (show w1.heap.size ≤ w2.heap.size from hdr.1.size)
  -- the variable
  obtain ⟨w3, hw3⟩ : ∃ x, x = w2.alloc (Obj.cells #[.slice (some ⟨g1, 0, none⟩) ix.length c1, .slice a2 es.length c2] 26) := ⟨_, rfl⟩
  have HW3 := Lib.hid hw3
  have hb3 : Below w2.heap.size w2 w3 := by rw [hw3]; exact (Below.refl _ _).alloc (Nat.le_refl _) _
  have HV3 := Lib.hid (show Blk w3 w2.heap.size 26 #[.slice (some ⟨g1, 0, none⟩) ix.length c1, .slice a2 es.length c2] from by rw [hw3]; exact Blk.newest w2 _ _)
  have HX3 := Lib.hid (HX2.out.below hb3 HX2.out.lt)
  have HO3 := Lib.hid (ho.below hb3)
  have HB3 := Lib.hid (HB2.out.trans (hb3.mono HB2.out.size))
  have HR3 := Lib.hid (ri_below hr2 hb3)
  have HK2 := Lib.hid hk2
  clear hd ho hdr hw3 hb3 hk2 hr2
  go_upto_region 3 with (fail)
  rw [← HW3.out]
  clear HW3
  have HS := Lib.hid (fun w' (hb : w3.grownBy w' (some (w.heap.size + 1))) => show w'.cell? ⟨w2.heap.size, 0, none⟩ = some (.slice (some ⟨g1, 0, none⟩) ix.length c1) ∧ w'.cell? ⟨w2.heap.size, 1, none⟩ = some (.slice a2 es.length c2) from by
    have hC := (hb.block w2.heap.size HV3.out.lt (by have := HS1.out; have := HS2.out; simp; omega)).trans HV3.out
    exact ⟨Blk.cell (g := w2.heap.size) (t := 26) (cs := #[.slice (some ⟨g1, 0, none⟩) ix.length c1, .slice a2 es.length c2]) hC 0, Blk.cell (g := w2.heap.size) (t := 26) (cs := #[.slice (some ⟨g1, 0, none⟩) ix.length c1, .slice a2 es.length c2]) hC 1⟩)
  have HKD := Lib.hid (key_draw w3.drew (w.heap.size + 1) m cap k2 a (ri_below HR3.out ((Below.refl _ w3).drew)) (by have := HK2.out; omega))
  have HNE := Lib.hid (show w2.heap.size ≠ w.heap.size by have := HS1.out; have := HS2.out; omega)
  go_wp2_with fail
  go_region_held3 (fun w' => w'.cell? ⟨w2.heap.size, 0, none⟩ = some (.slice (some ⟨g1, 0, none⟩) ix.length c1) ∧ w'.cell? ⟨w2.heap.size, 1, none⟩ = some (.slice a2 es.length c2))
    (first | exact HS.out _ (grown_below ((Below.refl _ _).drew)) | exact HZ4.out | exact HS.out _ HG4.out)
    (first | (go_at_call 59; refine HKD.out.mono ?_; rintro e w4 ⟨⟨key, rfl, hks⟩, hdr⟩; have HG4 := Lib.hid (grown_trans (grown_below ((Below.refl _ w3).drew)) hdr.1); have HX4 := Lib.hid (grown_two HX3.out HG4.out (by omega)); have c0 := HX4.out.cell 0; have c1' := HX4.out.cell 1; have f0 := HX4.out.free 0; have f1 := HX4.out.free 1; have HKS := Lib.hid hks; have HZ4 := Lib.hid (And.intro ((off_two w4 HNE.out (i := 0) (u := .slice (some ⟨g1, 0, none⟩) ix.length c1) (v := .slice a2 es.length c2)).trans (HS.out _ HG4.out).1) ((off_two w4 HNE.out (i := 1) (u := .slice (some ⟨g1, 0, none⟩) ix.length c1) (v := .slice a2 es.length c2)).trans (HS.out _ HG4.out).2)); have HD4 := Lib.hid hdr; clear hks hdr))
  all_goals
    have HZ := Lib.hid (two_set HX4.out (.slice (some ⟨g1, 0, none⟩) ix.length c1) (.slice a2 es.length c2))
    have HO4 := Lib.hid (OwD.grownG (HO3.out.below (Below.refl _ w3).drew) HD4.out.1 (by have := HS1.out; omega))
    have HB4 := Lib.hid (below_row HB3.out HG4.out (by omega))
    (try go_wp2_with fail)
    exact bodyPost_ret (v := .tuple #[.agg #[.slice (some ⟨g1, 0, none⟩) ix.length c1, .slice a2 es.length c2], .string key]) (by exact res_ct (p := 2) (u := 3) (ty := 26) rfl _ _ w.heap.size #[.slice (some ⟨g1, 0, none⟩) ix.length c1, .slice a2 es.length c2] rfl (ld_dict HZ.out)) rfl ⟨ix, es, g1, c1, a2, c2, key, rfl, HD.out, HKS.out, by
      have h9 := HO4.out
      have k1 := h9.lt1.1
      have k0 := HS1.out
      have k2 : ∀ q, a2 = some ⟨q, 0, none⟩ → q ≠ w.heap.size := by rintro q rfl; have := h9.lt2.1; omega
      exact ((h9.setOff (by omega) k2).setOff (by omega) k2).wide (by omega), (HB4.out.setCell (p := ⟨w.heap.size, 0, none⟩) (Nat.le_refl _) _).setCell (p := ⟨w.heap.size, 1, none⟩) (Nat.le_refl _) _⟩
set_option maxRecDepth 20000 in
set_option maxHeartbeats 4000000 in
theorem dDictProbes (w : World) (a : Option Addr) (n cap : Nat) (h : Cr w a n cap) : Calls Try.prog 23 #[.slice a n cap] w (DgP w) := by
  have HN := Lib.hid (fun o => newRnd_any (w.alloc o) a n cap (cr_below h ((Below.refl _ _).alloc (Nat.le_refl _) _)))
  clear h
  go_enter Try.func23, Try.ntmps23
  go_wp2_with fail
  refine (HN.out _).mono ?_
  rintro e w1 ⟨rfl, hb1, m, hr1⟩
  have HX1 := Lib.hid (show Blk w1 w.heap.size 26 #[.slice none 0 0, .slice none 0 0] from Blk.below (Blk.newest w _ _) hb1 (by simp))
  have HB1 := Lib.hid (show Below w.heap.size w w1 from ((Below.refl _ w).alloc (Nat.le_refl _) _).trans (hb1.mono (by simp)))
  have HS1 := Lib.hid (show w.heap.size + 1 < w1.heap.size by have := hr1.1.lt; simpa using this)
  have HR1 := Lib.hid (show RI w1 (w.heap.size + 1) a m cap 0 by simpa using hr1)
  clear hb1 hr1
  go_wp2_with fail
  refine (dict_draw w1 (w.heap.size + 1) m cap 0 a HR1.out (by omega)).mono ?_
  rintro e w2 ⟨ix, es, g1, c1, a2, c2, rfl, hd, ho, hdr⟩
  have HX2 := Lib.hid (grown_two HX1.out hdr.1 (by omega))
  have HD := Lib.hid hd
  have HB2 := Lib.hid (below_row HB1.out hdr.1 (by omega))
  obtain ⟨k2, hk2, hr2⟩ := hdr.2
  have HS2 := Lib.hid (show w1.heap.size ≤ w2.heap.size from hdr.1.size)
  -- the variable
  obtain ⟨w3, hw3⟩ : ∃ x, x = w2.alloc (Obj.cells #[.slice (some ⟨g1, 0, none⟩) ix.length c1, .slice a2 es.length c2] 26) := ⟨_, rfl⟩
  have HW3 := Lib.hid hw3
  have hb3 : Below w2.heap.size w2 w3 := by rw [hw3]; exact (Below.refl _ _).alloc (Nat.le_refl _) _
  have HV3 := Lib.hid (show Blk w3 w2.heap.size 26 #[.slice (some ⟨g1, 0, none⟩) ix.length c1, .slice a2 es.length c2] from by rw [hw3]; exact Blk.newest w2 _ _)
  have HX3 := Lib.hid (HX2.out.below hb3 HX2.out.lt)
  have HO3 := Lib.hid (ho.below hb3)
  have HB3 := Lib.hid (HB2.out.trans (hb3.mono HB2.out.size))
  have HR3 := Lib.hid (ri_below hr2 hb3)
  have HK2 := Lib.hid hk2
  clear hd ho hdr hw3 hb3 hk2 hr2
  go_upto_region 3 with (fail)
  rw [← HW3.out]
  clear HW3
  have HS := Lib.hid (fun w' (hb : w3.grownBy w' (some (w.heap.size + 1))) => show w'.cell? ⟨w2.heap.size, 0, none⟩ = some (.slice (some ⟨g1, 0, none⟩) ix.length c1) ∧ w'.cell? ⟨w2.heap.size, 1, none⟩ = some (.slice a2 es.length c2) from by
    have hC := (hb.block w2.heap.size HV3.out.lt (by have := HS1.out; have := HS2.out; simp; omega)).trans HV3.out
    exact ⟨Blk.cell (g := w2.heap.size) (t := 26) (cs := #[.slice (some ⟨g1, 0, none⟩) ix.length c1, .slice a2 es.length c2]) hC 0, Blk.cell (g := w2.heap.size) (t := 26) (cs := #[.slice (some ⟨g1, 0, none⟩) ix.length c1, .slice a2 es.length c2]) hC 1⟩)
  have HKD := Lib.hid (key_draw w3.drew (w.heap.size + 1) m cap k2 a (ri_below HR3.out ((Below.refl _ w3).drew)) (by have := HK2.out; omega))
  have HNE := Lib.hid (show w2.heap.size ≠ w.heap.size by have := HS1.out; have := HS2.out; omega)
  go_wp2_with fail
  go_region_held3 (fun w' => w'.cell? ⟨w2.heap.size, 0, none⟩ = some (.slice (some ⟨g1, 0, none⟩) ix.length c1) ∧ w'.cell? ⟨w2.heap.size, 1, none⟩ = some (.slice a2 es.length c2))
    (first | exact HS.out _ (grown_below ((Below.refl _ _).drew)) | exact HZ4.out | exact HS.out _ HG4.out)
    (first | (go_at_call 59; refine HKD.out.mono ?_; rintro e w4 ⟨⟨key, rfl, hks⟩, hdr⟩; have HG4 := Lib.hid (grown_trans (grown_below ((Below.refl _ w3).drew)) hdr.1); have HX4 := Lib.hid (grown_two HX3.out HG4.out (by omega)); have c0 := HX4.out.cell 0; have c1' := HX4.out.cell 1; have f0 := HX4.out.free 0; have f1 := HX4.out.free 1; have HKS := Lib.hid hks; have HZ4 := Lib.hid (And.intro ((off_two w4 HNE.out (i := 0) (u := .slice (some ⟨g1, 0, none⟩) ix.length c1) (v := .slice a2 es.length c2)).trans (HS.out _ HG4.out).1) ((off_two w4 HNE.out (i := 1) (u := .slice (some ⟨g1, 0, none⟩) ix.length c1) (v := .slice a2 es.length c2)).trans (HS.out _ HG4.out).2)); have HD4 := Lib.hid hdr; clear hks hdr))
  all_goals
    have HZ := Lib.hid (two_set HX4.out (.slice (some ⟨g1, 0, none⟩) ix.length c1) (.slice a2 es.length c2))
    have HO4 := Lib.hid (OwD.grownG (HO3.out.below (Below.refl _ w3).drew) HD4.out.1 (by have := HS1.out; omega))
    have HB4 := Lib.hid (below_row HB3.out HG4.out (by omega))
    (try go_wp2_with fail)
    exact bodyPost_ret (v := .tuple #[.agg #[.slice (some ⟨g1, 0, none⟩) ix.length c1, .slice a2 es.length c2], .string key]) (by exact res_ct (p := 2) (u := 3) (ty := 26) rfl _ _ w.heap.size #[.slice (some ⟨g1, 0, none⟩) ix.length c1, .slice a2 es.length c2] rfl (ld_dict HZ.out)) rfl ⟨ix, es, g1, c1, a2, c2, key, rfl, HD.out, HKS.out, by
      have h9 := HO4.out
      have k1 := h9.lt1.1
      have k0 := HS1.out
      have k2 : ∀ q, a2 = some ⟨q, 0, none⟩ → q ≠ w.heap.size := by rintro q rfl; have := h9.lt2.1; omega
      exact ((h9.setOff (by omega) k2).setOff (by omega) k2).wide (by omega), (HB4.out.setCell (p := ⟨w.heap.size, 0, none⟩) (Nat.le_refl _) _).setCell (p := ⟨w.heap.size, 1, none⟩) (Nat.le_refl _) _⟩
set_option maxRecDepth 20000 in
set_option maxHeartbeats 4000000 in
theorem dDictDrop (w : World) (a : Option Addr) (n cap : Nat) (h : Cr w a n cap) : Calls Try.prog 39 #[.slice a n cap] w (DgP w) := by
  have HN := Lib.hid (fun o => newRnd_any (w.alloc o) a n cap (cr_below h ((Below.refl _ _).alloc (Nat.le_refl _) _)))
  clear h
  go_enter Try.func39, Try.ntmps39
  go_wp2_with fail
  refine (HN.out _).mono ?_
  rintro e w1 ⟨rfl, hb1, m, hr1⟩
  have HX1 := Lib.hid (show Blk w1 w.heap.size 26 #[.slice none 0 0, .slice none 0 0] from Blk.below (Blk.newest w _ _) hb1 (by simp))
  have HB1 := Lib.hid (show Below w.heap.size w w1 from ((Below.refl _ w).alloc (Nat.le_refl _) _).trans (hb1.mono (by simp)))
  have HS1 := Lib.hid (show w.heap.size + 1 < w1.heap.size by have := hr1.1.lt; simpa using this)
  have HR1 := Lib.hid (show RI w1 (w.heap.size + 1) a m cap 0 by simpa using hr1)
  clear hb1 hr1
  go_wp2_with fail
  refine (dict_draw w1 (w.heap.size + 1) m cap 0 a HR1.out (by omega)).mono ?_
  rintro e w2 ⟨ix, es, g1, c1, a2, c2, rfl, hd, ho, hdr⟩
  have HX2 := Lib.hid (grown_two HX1.out hdr.1 (by omega))
  have HD := Lib.hid hd
  have HB2 := Lib.hid (below_row HB1.out hdr.1 (by omega))
  obtain ⟨k2, hk2, hr2⟩ := hdr.2
  have HS2 := Lib.hid (show w1.heap.size ≤ w2.heap.size from hdr.1.size)
  -- the variable
  obtain ⟨w3, hw3⟩ : ∃ x, x = w2.alloc (Obj.cells #[.slice (some ⟨g1, 0, none⟩) ix.length c1, .slice a2 es.length c2] 26) := ⟨_, rfl⟩
  have HW3 := Lib.hid hw3
  have hb3 : Below w2.heap.size w2 w3 := by rw [hw3]; exact (Below.refl _ _).alloc (Nat.le_refl _) _
  have HV3 := Lib.hid (show Blk w3 w2.heap.size 26 #[.slice (some ⟨g1, 0, none⟩) ix.length c1, .slice a2 es.length c2] from by rw [hw3]; exact Blk.newest w2 _ _)
  have HX3 := Lib.hid (HX2.out.below hb3 HX2.out.lt)
  have HO3 := Lib.hid (ho.below hb3)
  have HB3 := Lib.hid (HB2.out.trans (hb3.mono HB2.out.size))
  have HR3 := Lib.hid (ri_below hr2 hb3)
  have HK2 := Lib.hid hk2
  clear hd ho hdr hw3 hb3 hk2 hr2
  go_upto_region 3 with (fail)
  rw [← HW3.out]
  clear HW3
  have HS := Lib.hid (fun w' (hb : w3.grownBy w' (some (w.heap.size + 1))) => show w'.cell? ⟨w2.heap.size, 0, none⟩ = some (.slice (some ⟨g1, 0, none⟩) ix.length c1) ∧ w'.cell? ⟨w2.heap.size, 1, none⟩ = some (.slice a2 es.length c2) from by
    have hC := (hb.block w2.heap.size HV3.out.lt (by have := HS1.out; have := HS2.out; simp; omega)).trans HV3.out
    exact ⟨Blk.cell (g := w2.heap.size) (t := 26) (cs := #[.slice (some ⟨g1, 0, none⟩) ix.length c1, .slice a2 es.length c2]) hC 0, Blk.cell (g := w2.heap.size) (t := 26) (cs := #[.slice (some ⟨g1, 0, none⟩) ix.length c1, .slice a2 es.length c2]) hC 1⟩)
  have HKD := Lib.hid (key_draw w3.drew (w.heap.size + 1) m cap k2 a (ri_below HR3.out ((Below.refl _ w3).drew)) (by have := HK2.out; omega))
  have HNE := Lib.hid (show w2.heap.size ≠ w.heap.size by have := HS1.out; have := HS2.out; omega)
  go_wp2_with fail
  go_region_held3 (fun w' => w'.cell? ⟨w2.heap.size, 0, none⟩ = some (.slice (some ⟨g1, 0, none⟩) ix.length c1) ∧ w'.cell? ⟨w2.heap.size, 1, none⟩ = some (.slice a2 es.length c2))
    (first | exact HS.out _ (grown_below ((Below.refl _ _).drew)) | exact HZ4.out | exact HS.out _ HG4.out)
    (first | (go_at_call 59; refine HKD.out.mono ?_; rintro e w4 ⟨⟨key, rfl, hks⟩, hdr⟩; have HG4 := Lib.hid (grown_trans (grown_below ((Below.refl _ w3).drew)) hdr.1); have HX4 := Lib.hid (grown_two HX3.out HG4.out (by omega)); have c0 := HX4.out.cell 0; have c1' := HX4.out.cell 1; have f0 := HX4.out.free 0; have f1 := HX4.out.free 1; have HKS := Lib.hid hks; have HZ4 := Lib.hid (And.intro ((off_two w4 HNE.out (i := 0) (u := .slice (some ⟨g1, 0, none⟩) ix.length c1) (v := .slice a2 es.length c2)).trans (HS.out _ HG4.out).1) ((off_two w4 HNE.out (i := 1) (u := .slice (some ⟨g1, 0, none⟩) ix.length c1) (v := .slice a2 es.length c2)).trans (HS.out _ HG4.out).2)); have HD4 := Lib.hid hdr; clear hks hdr))
  all_goals
    have HZ := Lib.hid (two_set HX4.out (.slice (some ⟨g1, 0, none⟩) ix.length c1) (.slice a2 es.length c2))
    have HO4 := Lib.hid (OwD.grownG (HO3.out.below (Below.refl _ w3).drew) HD4.out.1 (by have := HS1.out; omega))
    have HB4 := Lib.hid (below_row HB3.out HG4.out (by omega))
    (try go_wp2_with fail)
    exact bodyPost_ret (v := .tuple #[.agg #[.slice (some ⟨g1, 0, none⟩) ix.length c1, .slice a2 es.length c2], .string key]) (by exact res_ct (p := 2) (u := 3) (ty := 26) rfl _ _ w.heap.size #[.slice (some ⟨g1, 0, none⟩) ix.length c1, .slice a2 es.length c2] rfl (ld_dict HZ.out)) rfl ⟨ix, es, g1, c1, a2, c2, key, rfl, HD.out, HKS.out, by
      have h9 := HO4.out
      have k1 := h9.lt1.1
      have k0 := HS1.out
      have k2 : ∀ q, a2 = some ⟨q, 0, none⟩ → q ≠ w.heap.size := by rintro q rfl; have := h9.lt2.1; omega
      exact ((h9.setOff (by omega) k2).setOff (by omega) k2).wide (by omega), (HB4.out.setCell (p := ⟨w.heap.size, 0, none⟩) (Nat.le_refl _) _).setCell (p := ⟨w.heap.size, 1, none⟩) (Nat.le_refl _) _⟩
set_option maxRecDepth 20000 in
set_option maxHeartbeats 4000000 in
theorem dDictSet (w : World) (a : Option Addr) (n cap : Nat) (h : Cr w a n cap) : Calls Try.prog 36 #[.slice a n cap] w (DsP w) := by
  have HN := Lib.hid (fun o => newRnd_any (w.alloc o) a n cap (cr_below h ((Below.refl _ _).alloc (Nat.le_refl _) _)))
  clear h
  go_enter Try.func36, Try.ntmps36
  go_wp2_with fail
  refine (HN.out _).mono ?_
  rintro e w1 ⟨rfl, hb1, m, hr1⟩
  have HX1 := Lib.hid (show Blk w1 w.heap.size 26 #[.slice none 0 0, .slice none 0 0] from Blk.below (Blk.newest w _ _) hb1 (by simp))
  have HB1 := Lib.hid (show Below w.heap.size w w1 from ((Below.refl _ w).alloc (Nat.le_refl _) _).trans (hb1.mono (by simp)))
  have HS1 := Lib.hid (show w.heap.size + 1 < w1.heap.size by have := hr1.1.lt; simpa using this)
  have HR1 := Lib.hid (show RI w1 (w.heap.size + 1) a m cap 0 by simpa using hr1)
  clear hb1 hr1
  go_wp2_with fail
  refine (dict_draw w1 (w.heap.size + 1) m cap 0 a HR1.out (by omega)).mono ?_
  rintro e w2 ⟨ix, es, g1, c1, a2, c2, rfl, hd, ho, hdr⟩
  have HX2 := Lib.hid (grown_two HX1.out hdr.1 (by omega))
  have HD := Lib.hid hd
  have HB2 := Lib.hid (below_row HB1.out hdr.1 (by omega))
  obtain ⟨k2, hk2, hr2⟩ := hdr.2
  have HS2 := Lib.hid (show w1.heap.size ≤ w2.heap.size from hdr.1.size)
  -- the variable
  obtain ⟨w3, hw3⟩ : ∃ x, x = w2.alloc (Obj.cells #[.slice (some ⟨g1, 0, none⟩) ix.length c1, .slice a2 es.length c2] 26) := ⟨_, rfl⟩
  have HW3 := Lib.hid hw3
  have hb3 : Below w2.heap.size w2 w3 := by rw [hw3]; exact (Below.refl _ _).alloc (Nat.le_refl _) _
  have HV3 := Lib.hid (show Blk w3 w2.heap.size 26 #[.slice (some ⟨g1, 0, none⟩) ix.length c1, .slice a2 es.length c2] from by rw [hw3]; exact Blk.newest w2 _ _)
  have HX3 := Lib.hid (HX2.out.below hb3 HX2.out.lt)
  have HO3 := Lib.hid (ho.below hb3)
  have HB3 := Lib.hid (HB2.out.trans (hb3.mono HB2.out.size))
  have HR3 := Lib.hid (ri_below hr2 hb3)
  have HK2 := Lib.hid hk2
  clear hd ho hdr hw3 hb3 hk2 hr2
  go_upto_region 3 with (fail)
  rw [← HW3.out]
  clear HW3
  have HS := Lib.hid (fun w' (hb : w3.grownBy w' (some (w.heap.size + 1))) => show w'.cell? ⟨w2.heap.size, 0, none⟩ = some (.slice (some ⟨g1, 0, none⟩) ix.length c1) ∧ w'.cell? ⟨w2.heap.size, 1, none⟩ = some (.slice a2 es.length c2) from by
    have hC := (hb.block w2.heap.size HV3.out.lt (by have := HS1.out; have := HS2.out; simp; omega)).trans HV3.out
    exact ⟨Blk.cell (g := w2.heap.size) (t := 26) (cs := #[.slice (some ⟨g1, 0, none⟩) ix.length c1, .slice a2 es.length c2]) hC 0, Blk.cell (g := w2.heap.size) (t := 26) (cs := #[.slice (some ⟨g1, 0, none⟩) ix.length c1, .slice a2 es.length c2]) hC 1⟩)
  have HKD := Lib.hid (key_draw w3.drew (w.heap.size + 1) m cap k2 a (ri_below HR3.out ((Below.refl _ w3).drew)) (by have := HK2.out; omega))
  have HNE := Lib.hid (show w2.heap.size ≠ w.heap.size by have := HS1.out; have := HS2.out; omega)
  go_wp2_with fail
  go_region_held3 (fun w' => w'.cell? ⟨w2.heap.size, 0, none⟩ = some (.slice (some ⟨g1, 0, none⟩) ix.length c1) ∧ w'.cell? ⟨w2.heap.size, 1, none⟩ = some (.slice a2 es.length c2))
    (first | exact HS.out _ (grown_below ((Below.refl _ _).drew)) | exact HZ4.out | exact HS.out _ HG4.out | exact HS.out _ HGb.out | exact HS.out _ HGa.out)
    (first | (go_at_call 59; refine HKD.out.mono ?_; rintro e wa ⟨⟨key, rfl, hks⟩, hdr⟩; have HGa := Lib.hid (grown_trans (grown_below ((Below.refl _ w3).drew)) hdr.1); have HKS := Lib.hid hks; have HRa := Lib.hid hdr.2; clear hks hdr) | (go_at_call 73; obtain ⟨ka, hka, hra⟩ := HRa.out; refine (pick_any wa (w.heap.size + 1) a m cap ka 99 hra (by have := HK2.out; omega) (by decide)).mono ?_; rintro e wb ⟨z, rfl, hz, hdr⟩; have HGb := Lib.hid (grown_trans HGa.out hdr.1); have HZb := Lib.hid (show z ≤ 99 by omega); have HRb := Lib.hid (show ∃ k', k' ≤ ka + 1 ∧ RI wb (w.heap.size + 1) a m cap k' from hdr.2); have HKa := Lib.hid hka; clear hka hra hz hdr) | (go_at_call 72; obtain ⟨kb, hkb, hrb⟩ := HRb.out; refine (often_draw wb (w.heap.size + 1) m cap kb a (z : Int) hrb (by have := HKa.out; have := HK2.out; omega) (by omega) (by have := HZb.out; omega)).mono ?_; rintro e w4 ⟨⟨y, rfl, hy⟩, hdr⟩; have HG4 := Lib.hid (grown_trans HGb.out hdr.1); have HX4 := Lib.hid (grown_two HX3.out HG4.out (by omega)); have c0 := HX4.out.cell 0; have c1' := HX4.out.cell 1; have f0 := HX4.out.free 0; have f1 := HX4.out.free 1; have HY := Lib.hid hy; have HZ4 := Lib.hid (And.intro ((off_two w4 HNE.out (i := 0) (u := .slice (some ⟨g1, 0, none⟩) ix.length c1) (v := .slice a2 es.length c2)).trans (HS.out _ HG4.out).1) ((off_two w4 HNE.out (i := 1) (u := .slice (some ⟨g1, 0, none⟩) ix.length c1) (v := .slice a2 es.length c2)).trans (HS.out _ HG4.out).2)); clear hkb hrb hy hdr))
  all_goals
    have HZ := Lib.hid (two_set HX4.out (.slice (some ⟨g1, 0, none⟩) ix.length c1) (.slice a2 es.length c2))
    have HO4 := Lib.hid (OwD.grownG HO3.out HG4.out (by have := HS1.out; omega))
    have HB4 := Lib.hid (below_row HB3.out HG4.out (by omega))
    (try go_wp2_with fail)
    exact bodyPost_ret (v := .tuple #[.agg #[.slice (some ⟨g1, 0, none⟩) ix.length c1, .slice a2 es.length c2], .string key, .int .i64 y]) (by exact res_ctt (p := 2) (u := 3) (v := 4) (ty := 26) rfl _ _ w.heap.size #[.slice (some ⟨g1, 0, none⟩) ix.length c1, .slice a2 es.length c2] rfl (ld_dict HZ.out)) rfl ⟨ix, es, g1, c1, a2, c2, key, y, rfl, HD.out, HKS.out, HY.out, by
      have h9 := HO4.out
      have k1 := h9.lt1.1
      have k0 := HS1.out
      have k2 : ∀ q, a2 = some ⟨q, 0, none⟩ → q ≠ w.heap.size := by rintro q rfl; have := h9.lt2.1; omega
      exact ((h9.setOff (by omega) k2).setOff (by omega) k2).wide (by omega), (HB4.out.setCell (p := ⟨w.heap.size, 0, none⟩) (Nat.le_refl _) _).setCell (p := ⟨w.heap.size, 1, none⟩) (Nat.le_refl _) _⟩
end Go.Proofs.Ytibglmcpbbikdaa
