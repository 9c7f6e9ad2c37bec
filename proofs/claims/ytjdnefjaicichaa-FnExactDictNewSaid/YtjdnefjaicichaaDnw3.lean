/- The exact law on a new dictionary. -/
import Derived.Test.YtjdnefjaicichaaDnw2
namespace Go.Proofs.Ytjdnefjaicichaa
open Go.RowKit
/-- A fresh row of two values, stored in one place. -/
theorem cell_new {w : World} {t : TypeId} {a b x y : Value} : Below w.heap.size w (((w.alloc (.cells #[a, b] t)).setCell ⟨w.heap.size, 0, none⟩ x).setCell ⟨w.heap.size, 1, none⟩ y) ∧ Blk (((w.alloc (.cells #[a, b] t)).setCell ⟨w.heap.size, 0, none⟩ x).setCell ⟨w.heap.size, 1, none⟩ y) w.heap.size t #[x, y] :=
  ⟨(((Below.refl _ _).alloc (Nat.le_refl _) _).setCell (Nat.le_refl _) _).setCell (Nat.le_refl _) _, two_set (Blk.newest w t _) x y⟩
theorem ci_neg {w : World} {g c : Nat} {t : TypeId} (h : w.heap[g]? = some (.cells (neg c).toArray t (0, 0))) : Ci w g (List.replicate c (-1)) := by
  intro j i hj
  rw [cell_of_row w g j (neg c).toArray t (0, 0) h, List.getElem?_toArray]
  unfold neg
  rw [List.getElem?_replicate] at hj ⊢
  by_cases hjc : j < c
  · rw [if_pos hjc] at hj ⊢; injection hj with hj; rw [← hj]
  · rw [if_neg hjc] at hj; cases hj
theorem up_neg {w : World} {g c : Nat} {t : TypeId} (m : Int) (h : w.heap[g]? = some (.cells (neg c).toArray t (0, 0))) : Up w g t m c 0 := by
  refine ⟨_, h, fun j hj => ⟨-1, ?_⟩, fun j hj => absurd hj (Nat.not_lt_zero _)⟩
  rw [List.getElem?_toArray]
  unfold neg
  rw [List.getElem?_replicate, if_pos hj]
/-- The model's dictionary and the program's, each in its variable. -/
def DnS (w W : World) (p1 p2 g1 g2 cap : Nat) : Prop := (Below w.heap.size w W ∧ w.heap.size ≤ g1 ∧ g1 < p1 ∧ p1 < g2 ∧ g2 < p2 ∧ p2 < W.heap.size) ∧ Ci W g1 (List.replicate 8 (-1)) ∧ Blk W p1 27 #[.slice (some ⟨g1, 0, none⟩) 8 cap, .slice none 0 0] ∧ Blk W p2 27 #[.slice (some ⟨g2, 0, none⟩) 8 8, .slice none 0 0]
theorem DnS.below {w W W' : World} {p1 p2 g1 g2 cap : Nat} (h : DnS w W p1 p2 g1 g2 cap) (hb : Below W.heap.size W W') : DnS w W' p1 p2 g1 g2 cap := by
  obtain ⟨⟨h1, h2, h3, h4, h5, h6⟩, h7, h8, h9⟩ := h
  have hs := hb.size
  exact ⟨⟨h1.trans (hb.mono h1.size), h2, h3, h4, h5, by omega⟩, h7.below hb (by omega), h8.below hb (by omega), h9.below hb (by omega)⟩
theorem DnS.mark {w W W' : World} {p1 p2 g1 g2 cap : Nat} {t : TypeId} {m : Int} {n k : Nat} (h : DnS w W p1 p2 g1 g2 cap) (hm : MkI W W' g2 t m n k) : DnS w W' p1 p2 g1 g2 cap := by
  obtain ⟨⟨h1, h2, h3, h4, h5, h6⟩, h7, h8, h9⟩ := h
  obtain ⟨k1, _, k3⟩ := hm
  have hs := k1.size
  exact ⟨⟨h1.trans (k1.mono (by omega)), h2, h3, h4, h5, by omega⟩, h7.below k1 (by omega), h8.below k1 (by omega), (k3 p2 h6 (by omega)).trans h9⟩
theorem dn_start {w w1 w2 : World} {g1 g2 cap : Nat} (hb1 : Below w.heap.size w w1) (hg1 : w.heap.size ≤ g1 ∧ g1 < w1.heap.size) (hc1 : Ci w1 g1 (List.replicate 8 (-1)))
    (hb2 : Below (w1.alloc (Obj.cells #[.slice (some ⟨g1, 0, none⟩) 8 cap, .slice none 0 0] 27)).heap.size (w1.alloc (Obj.cells #[.slice (some ⟨g1, 0, none⟩) 8 cap, .slice none 0 0] 27)) w2) (hg2 : (w1.alloc (Obj.cells #[.slice (some ⟨g1, 0, none⟩) 8 cap, .slice none 0 0] 27)).heap.size ≤ g2) (hh : w2.heap[g2]? = some (.cells (neg 8).toArray 3 (0, 0))) :
    DnS w (w2.alloc (Obj.cells #[.slice (some ⟨g2, 0, none⟩) 8 8, .slice none 0 0] 27)) w1.heap.size w2.heap.size g1 g2 cap := by
  have e : (w1.alloc (Obj.cells #[.slice (some ⟨g1, 0, none⟩) 8 cap, .slice none 0 0] 27)).heap.size = w1.heap.size + 1 := by simp
  have hl := Blk.lt hh
  have hba : Below w1.heap.size w1 w2 := ((Below.refl _ _).alloc (Nat.le_refl _) _).trans (hb2.mono (by omega))
  have hbw : Below w2.heap.size w2 (w2.alloc (Obj.cells #[.slice (some ⟨g2, 0, none⟩) 8 8, .slice none 0 0] 27)) := (Below.refl _ _).alloc (Nat.le_refl _) _
  refine ⟨⟨(hb1.trans (hba.mono hb1.size)).trans (hbw.mono (Nat.le_trans hb1.size hba.size)), hg1.1, hg1.2, by omega, hl, by simp⟩, (hc1.below hba hg1.2).below hbw (by have := hba.size; omega), ((Blk.newest w1 _ _).below hb2 (by omega)).below hbw (by omega), Blk.newest w2 _ _⟩
set_option maxHeartbeats 2000000 in
theorem fnExactDictNew_walk (w : World) : Calls Try.prog 4 #[] w fun e w' => e = .returned (.bool true) ∧ Below w.heap.size w w' := by
  go_enter Try.func4, Try.ntmps4
  go_wp2_with fail
  refine (specNew_any w).mono ?_
  rintro e w1 ⟨g1, cap1, rfl, hb1, hg1, hl1, hc1⟩
  have HB1 := Lib.hid hb1
  have HC1 := Lib.hid hc1
  have HG1 := Lib.hid (And.intro hg1 hl1)
  clear hb1 hc1 hg1 hl1
  go_wp2_with fail
  refine (implNew_any _).mono ?_
  rintro e w2 ⟨g2, rfl, hb2, hg2, hh2⟩
  have HS := Lib.hid (dn_start HB1.out HG1.out HC1.out hb2 hg2 hh2)
  have HH2 := Lib.hid hh2
  have HT1 := Lib.hid (Blk.below (Blk.newest w1 _ _) hb2 (by simp))
  have k0 := HT1.out.cell 0
  have k1 := HT1.out.cell 1
  have hlt : w1.heap.size < w2.heap.size := HT1.out.lt
  clear hb2 hg2 hh2
  go_wp2_with fail
  refine (eqDict_any (List.replicate 8 (-1)) g2 g1 8 cap1 _ ((ci_neg HH2.out).below ((Below.refl _ w2).alloc (Nat.le_refl _) _) HS.out.1.2.2.2.2.1) HS.out.2.1 (by have := HS.out.1; omega) (by have := HS.out.1; omega) (by decide)).mono ?_
  rintro e w3 ⟨rfl, hb3⟩
  have HS3 := Lib.hid (HS.out.below hb3)
  have HU3 := Lib.hid (((up_neg 1 HH2.out).below ((Below.refl _ w2).alloc (Nat.le_refl _) _) HS.out.1.2.2.2.2.1).below hb3 (by have := HS.out.1; omega))
  clear hb3 k0 k1 hlt
  have b0 := HS3.out.2.2.2.cell 0
  have b1 := HS3.out.2.2.2.cell 1
  go_wp2_with fail
  refine (markDict_any g2 8 8 3 1 _ HU3.out (by omega) (by omega) (by omega)).mono ?_
  rintro e w4 ⟨rfl, hm4⟩
  have HS4 := Lib.hid (HS3.out.mark hm4)
  have HU4 := Lib.hid hm4.2.1
  clear hm4 b0 b1
  have b0 := HS4.out.2.2.2.cell 0
  have b1 := HS4.out.2.2.2.cell 1
  go_wp2_with fail
  refine (heldDict_any g2 8 8 3 1 _ HU4.out (by omega) (by omega) (by omega)).mono ?_
  rintro e w5 ⟨rfl, hb5⟩
  have HS5 := Lib.hid (HS4.out.below hb5)
  have HU5 := Lib.hid (HU4.out.below hb5 (by have := HS4.out.1; omega))
  clear hb5 b0 b1
  go_wp2_with fail
  refine (implNew_any _).mono ?_
  rintro e w6 ⟨g6, rfl, hb6, hg6, hh6⟩
  have HS6 := Lib.hid (HS5.out.below hb6)
  have HU6 := Lib.hid (HU5.out.below hb6 (by have := HS5.out.1; omega))
  have HH6 := Lib.hid hh6
  have HS7 := Lib.hid (fun o => HS6.out.below ((Below.refl _ w6).alloc (Nat.le_refl _) o))
  have a0 := HS6.out.2.2.1.cell 0
  have a1 := HS6.out.2.2.1.cell 1
  have hlt : w1.heap.size < w6.heap.size := by have := HS6.out.1; omega
  have hg6' := hh6
  clear hb6 hg6 hh6
  have HL6 := Lib.hid (Blk.lt hg6')
  clear hg6'
  go_wp2_with fail
  refine (eqDict_any (List.replicate 8 (-1)) g6 g1 8 cap1 _ ((ci_neg HH6.out).below ((Below.refl _ w6).alloc (Nat.le_refl _) _) HL6.out) (HS7.out _).2.1 (by have := HL6.out; simp; omega) (by have := (HS7.out (Obj.cells #[.slice (some ⟨g6, 0, none⟩) 8 8, .slice none 0 0] 27)).1; omega) (by decide)).mono ?_
  rintro e w8 ⟨rfl, hb8⟩
  have HS8 := Lib.hid ((HS7.out _).below hb8)
  have HU8 := Lib.hid ((HU6.out.below ((Below.refl _ w6).alloc (Nat.le_refl _) _) (by have := HS6.out.1; omega)).below hb8 (by have := (HS7.out (Obj.cells #[.slice (some ⟨g6, 0, none⟩) 8 8, .slice none 0 0] 27)).1; omega))
  clear hb8 a0 a1 hlt
  have b0 := HS8.out.2.2.2.cell 0
  have b1 := HS8.out.2.2.2.cell 1
  go_wp2_with fail
  refine (heldDict_any g2 8 8 3 1 _ HU8.out (by omega) (by omega) (by omega)).mono ?_
  rintro e w9 ⟨rfl, hb9⟩
  have HS9 := Lib.hid (HS8.out.below hb9)
  clear hb9 b0 b1
  go_wp2_with fail
  go_ret
  exact ⟨rfl, HS9.out.1.1⟩
end Go.Proofs.Ytjdnefjaicichaa
