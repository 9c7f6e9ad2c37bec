/- A new dictionary: the program's, the model's. -/
import Derived.Test.YtplpgcbdbmfffaaRep
namespace Go.Proofs.Ytplpgcbdbmfffaa
open Go.RowKit
/-- A table of c empty slots. -/
def TbP (w : World) (c : Nat) (e : Ending) (w' : World) : Prop := ∃ g, e = .returned (.agg #[.slice (some ⟨g, 0, none⟩) c c, .slice none 0 0]) ∧ Below w.heap.size w w' ∧ w.heap.size ≤ g ∧ w'.heap[g]? = some (.cells (neg c).toArray 3 (0, 0))
theorem tb_of {w w' : World} {o o' : Obj} {c : Nat} (h : RpI ((w.alloc o).alloc o') w' c c) : Below w.heap.size w w' ∧ w'.heap[w.heap.size + 2]? = some (.cells (neg c).toArray 3 (0, 0)) := by
  obtain ⟨h1, h2⟩ := h
  have e : ((w.alloc o).alloc o').heap.size = w.heap.size + 2 := by simp
  rw [e, ng_all] at h2
  refine ⟨?_, h2⟩
  have hb : Below w.heap.size w ((w.alloc o).alloc o') := ((Below.refl _ _).alloc (Nat.le_refl _) _).alloc (by simp) _
  exact hb.trans (h1.mono (by simp; omega))
theorem tb_blk {w w' : World} {t : TypeId} {cs : Array Value} {o' : Obj} {c : Nat} (h : RpI ((w.alloc (.cells cs t)).alloc o') w' c c) : Blk w' w.heap.size t cs := by
  refine Blk.below (((Blk.newest w t cs)).alloc o') h.1 (by simp; omega)
theorem two_set {w : World} {g : Nat} {t : TypeId} {a b : Value} (h : Blk w g t #[a, b]) (x y : Value) : Blk ((w.setCell ⟨g, 0, none⟩ x).setCell ⟨g, 1, none⟩ y) g t #[x, y] := ((h.set 0 x).set 1 y).same (by simp)
theorem nw_of {w w' : World} {o : Obj} {g : Nat} {x : Option Obj} (h : Below (w.alloc o).heap.size (w.alloc o) w' ∧ (w.alloc o).heap.size ≤ g ∧ w'.heap[g]? = x) : Below w.heap.size w w' ∧ w.heap.size + 1 ≤ g ∧ w'.heap[g]? = x := by
  obtain ⟨h1, h2, h3⟩ := h
  have e : (w.alloc o).heap.size = w.heap.size + 1 := by simp
  rw [e] at h1 h2
  exact ⟨((Below.refl _ _).alloc (Nat.le_refl _) o).trans (h1.mono (by omega)), h2, h3⟩
theorem nw_blk {w w' : World} {t : TypeId} {cs : Array Value} {g : Nat} {x : Option Obj} (h : Below (w.alloc (.cells cs t)).heap.size (w.alloc (.cells cs t)) w' ∧ (w.alloc (.cells cs t)).heap.size ≤ g ∧ w'.heap[g]? = x) : Blk w' w.heap.size t cs :=
  Blk.below (Blk.newest w t cs) h.1 (by simp)
set_option maxHeartbeats 2000000 in
theorem emptyTable_any (c : Nat) (w : World) (hc1 : 1 ≤ c) (hc : c ≤ 1048576) : Calls Try.prog 53 #[.int .i64 (c : Int)] w (TbP w c) := by
  have HR := Lib.hid (fun (p : Nat) w hp => repeat_any p c w hp hc1 hc)
  go_enter Try.func53, Try.ntmps53
  go_wp2_with fail
  refine (HR.out _ _ ?_).mono ?_
  · rw [World.cell?_alloc_at _ _ _ _ (by simp)]; rfl
  rintro e w' ⟨rfl, h⟩
  have HT := Lib.hid (tb_of h)
  have HB := Lib.hid (tb_blk h)
  have c0 := HB.out.cell 0
  have c1 := HB.out.cell 1
  have f0 := HB.out.free 0
  have f1 := HB.out.free 1
  clear h
  go_wp2_with fail
  have HZ := Lib.hid (two_set HB.out (.slice (some ⟨w.heap.size + 1 + 1, 0, none⟩) c c) (.slice none 0 0))
  exact bodyPost_ret (v := .agg #[.slice (some ⟨w.heap.size + 1 + 1, 0, none⟩) c c, .slice none 0 0]) (results_cell_row rfl _ _ w.heap.size 61 _ (0, 0) _ rfl HZ.out Try.underlying61 rfl (by kernel_rfl)) rfl ⟨_, rfl, (HT.out.1.setCell (Nat.le_refl _) _).setCell (Nat.le_refl _) _, by omega, Blk.setOff (Blk.setOff HT.out.2 (by omega)) (by omega)⟩
set_option maxHeartbeats 2000000 in
theorem implNew_any (w : World) : Calls Try.prog 18 #[] w (TbP w 8) := by
  have HR := Lib.hid (fun w => emptyTable_any 8 w (by omega) (by omega))
  go_enter Try.func18, Try.ntmps18
  go_wp2_with fail
  refine (HR.out _).mono ?_
  rintro e w' ⟨g, rfl, h⟩
  have HT := Lib.hid (nw_of h)
  have HB := Lib.hid (nw_blk h)
  have c0 := HB.out.cell 0
  have c1 := HB.out.cell 1
  have f0 := HB.out.free 0
  have f1 := HB.out.free 1
  clear h
  go_wp2_with fail
  have HZ := Lib.hid (two_set HB.out (.slice (some ⟨g, 0, none⟩) 8 8) (.slice none 0 0))
  exact bodyPost_ret (v := .agg #[.slice (some ⟨g, 0, none⟩) 8 8, .slice none 0 0]) (results_cell_row rfl _ _ w.heap.size 27 _ (0, 0) _ rfl HZ.out Try.underlying27 rfl (by kernel_rfl)) rfl ⟨g, rfl, (HT.out.1.setCell (Nat.le_refl _) _).setCell (Nat.le_refl _) _, by have := HT.out.2.1; omega, Blk.setOff (Blk.setOff HT.out.2.2 (by have := HT.out.2.1; omega)) (by have := HT.out.2.1; omega)⟩
/-- While the model's slots are laid. -/
def NxI (w wr : World) (v : Value) (k : Nat) : Prop := Below w.heap.size w wr ∧ Own wr w.heap.size 3 v (neg k)
theorem nx_next {w wr w' : World} {v v' : Value} {k : Nat} (h : NxI w wr v k) (ho : Own w' w.heap.size 3 v' (neg k ++ [.int .i64 (-1)])) (hb : Below w.heap.size wr w') : NxI w w' v' (k + 1) := by
  refine ⟨h.1.trans hb, ?_⟩
  have e : neg k ++ [.int .i64 (-1)] = neg (k + 1) := by unfold neg; rw [List.replicate_succ']
  rw [← e]; exact ho
def NxP (w : World) (c : Nat) (e : Ending) (w' : World) : Prop := ∃ v, e = .returned v ∧ NxI w w' v c
set_option maxHeartbeats 2000000 in
theorem newIndex_any (c : Nat) (w : World) (hc : c ≤ 1048576) : Calls Try.prog 52 #[.int .i64 (c : Int)] w (NxP w c) := by
  have H0 := Lib.hid (show NxI w (w.alloc (Obj.cells #[] 3)) (.slice (some ⟨w.heap.size, 0, none⟩) 0 0) 0 from ⟨(Below.refl _ _).alloc (Nat.le_refl _) _, World.ownsRow_lit w #[] 0 (Nat.le_refl _) (by decide) rfl⟩)
  go_enter Try.func52, Try.ntmps52
  go_wp2_with fail
  go_loopw [3, 4] (fun v i wr => ∃ k : Nat, k ≤ c ∧ i = .int .i64 k ∧ Hid (NxI w wr v k)) (fun _ i _ => c - (intOf i).toNat)
  case atStart => exact ⟨0, by omega, rfl, H0⟩
  case round =>
    obtain ⟨k, hk, rfl, HI⟩ := hrel
    by_cases hlt : k < c
    · have HZ := Lib.hid (show w.heap.size ≤ wr.heap.size from HI.out.1.size)
      go_wp2_with (first | (refine app1 rfl (.tmp 11) (.tmp 12) 24 3 (.int .i64 0) 8 rfl Try.underlying24 (by kernel_rfl) rfl (by decide) wr wr _ rfl w.heap.size _ _ rfl rfl HI.out.2 rfl ?_ HZ.out (Below.refl _ _) ?_; (rw [neg_len]; omega); intro v2 w2 ho hb2 _; have HT := Lib.hid (nx_next HI.out ho hb2); clear ho hb2))
      go_roundw
      case rel => exact ⟨k + 1, by omega, by go_num, HT⟩
      case measure => simp [intOf]; try omega
    · obtain rfl : k = c := by omega
      clear hlt
      go_wp2_with fail
      go_ret
      exact ⟨_, rfl, HI.out⟩
/-- The model's new dictionary. -/
def SdP (w : World) (c : Nat) (e : Ending) (w' : World) : Prop := ∃ g cap, e = .returned (.agg #[.slice (some ⟨g, 0, none⟩) c cap, .slice none 0 0]) ∧ Below w.heap.size w w' ∧ w.heap.size ≤ g ∧ g < w'.heap.size ∧ Ci w' g (List.replicate c (-1))
theorem nx_end {w w' : World} {v : Value} {c : Nat} (h : NxI w w' v c) (hc : 1 ≤ c) : ∃ g cap, v = .slice (some ⟨g, 0, none⟩) c cap ∧ Below w.heap.size w w' ∧ w.heap.size ≤ g ∧ g < w'.heap.size ∧ Ci w' g (List.replicate c (-1)) := by
  rcases Own.form h.2 with ⟨_, h2⟩ | ⟨g, cap, h1, h2, h3, _, h5⟩
  · have := neg_len c; rw [h2] at this; simp at this; omega
  · rw [neg_len] at h1
    refine ⟨g, cap, h1, h.1, h2, h3, fun j i hj => h5 j _ ?_⟩
    unfold neg
    rw [List.getElem?_replicate] at hj ⊢
    by_cases hjc : j < c
    · rw [if_pos hjc] at hj ⊢; injection hj with hj; rw [← hj]
    · rw [if_neg hjc] at hj; cases hj
set_option maxHeartbeats 2000000 in
theorem specNew_any (w : World) : Calls Try.prog 17 #[] w (SdP w 8) := by
  have HR := Lib.hid (fun w => newIndex_any 8 w (by omega))
  go_enter Try.func17, Try.ntmps17
  go_wp2_with fail
  refine (HR.out _).mono ?_
  rintro e w' ⟨v, rfl, h⟩
  have HB := Lib.hid (Blk.below (Blk.newest w _ _) h.1 (by simp))
  obtain ⟨g, cap, rfl, hb, hg, hg2, hc⟩ := nx_end h (by omega)
  clear h
  have HT := Lib.hid (nw_of ⟨hb, hg, rfl⟩)
  have HG := Lib.hid hg2
  have HC := Lib.hid hc
  have c0 := HB.out.cell 0
  have c1 := HB.out.cell 1
  have f0 := HB.out.free 0
  have f1 := HB.out.free 1
  clear hb hg hg2 hc
  go_wp2_with fail
  have HZ := Lib.hid (two_set HB.out (.slice (some ⟨g, 0, none⟩) 8 cap) (.slice none 0 0))
  exact bodyPost_ret (v := .agg #[.slice (some ⟨g, 0, none⟩) 8 cap, .slice none 0 0]) (results_cell_row rfl _ _ w.heap.size 27 _ (0, 0) _ rfl HZ.out Try.underlying27 rfl (by kernel_rfl)) rfl ⟨g, cap, rfl, (HT.out.1.setCell (Nat.le_refl _) _).setCell (Nat.le_refl _) _, by have := HT.out.2.1; omega, by simpa using HG.out, fun j i hj => by
    have hne : g ≠ w.heap.size := by have := HT.out.2.1; omega
    rw [World.cell?_of_block (w := w') (by rw [Below.heap_setCell _ _ _ _ hne, Below.heap_setCell _ _ _ _ hne])]
    exact HC.out j i hj⟩
end Go.Proofs.Ytplpgcbdbmfffaa
