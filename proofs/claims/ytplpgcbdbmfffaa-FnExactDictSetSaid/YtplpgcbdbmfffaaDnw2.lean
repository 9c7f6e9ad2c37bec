/- Dictionaries: the same, marked, held; the exact law on a new one. -/
import Derived.Test.YtplpgcbdbmfffaaDnew
namespace Go.Proofs.Ytplpgcbdbmfffaa
open Go.RowKit
set_option maxHeartbeats 2000000 in
theorem eqDict_any (is : List Int) (g1 g2 c1 c2 : Nat) (w : World) (h1 : Ci w g1 is) (h2 : Ci w g2 is) (hg1 : g1 < w.heap.size) (hg2 : g2 < w.heap.size) (hl : is.length ≤ 1048576) :
    Calls Try.prog 19 #[.agg #[.slice (some ⟨g1, 0, none⟩) is.length c1, .slice none 0 0], .agg #[.slice (some ⟨g2, 0, none⟩) is.length c2, .slice none 0 0]] w fun e w' => e = .returned (.bool true) ∧ Below w.heap.size w w' := by
  have HE := Lib.hid (fun w h1 h2 => eqIntS_any is g1 g2 c1 c2 w h1 h2 hl)
  have HN := Lib.hid eqEntryS_nil
  have HA := Lib.hid (show ∀ o o', Ci ((w.alloc o).alloc o') g1 is ∧ Ci ((w.alloc o).alloc o') g2 is ∧ Below w.heap.size w ((w.alloc o).alloc o') from fun o o' => by
    have hb : Below w.heap.size w ((w.alloc o).alloc o') := ((Below.refl _ _).alloc (Nat.le_refl _) _).alloc (by simp) _
    exact ⟨h1.below hb hg1, h2.below hb hg2, hb⟩)
  clear h1 h2
  generalize is.length = n at *
  go_enter Try.func19, Try.ntmps19
  go_wp2_with fail
  refine (HE.out _ (HA.out _ _).1 (HA.out _ _).2.1).mono ?_
  rintro e w2 ⟨rfl, h⟩
  have HB := Lib.hid ((HA.out _ _).2.2.trans (h.mono (by simp; omega)))
  have HC1 := Lib.hid (Blk.below (Blk.newest _ _ _) h (by simp))
  have HC0 := Lib.hid (Blk.below ((Blk.newest w _ _).alloc _) h (by simp; omega))
  clear h
  have k1 : w2.cell? ⟨w.heap.size + 1, 1, none⟩ = some (.slice none 0 0) := by have := HC1.out.cell 1; simpa using this
  have k0 : w2.cell? ⟨w.heap.size, 1, none⟩ = some (.slice none 0 0) := HC0.out.cell 1
  go_wp2_with fail
  refine (HN.out _).mono ?_
  rintro e w3 ⟨rfl, rfl⟩
  go_wp2_with fail
  go_ret
  exact ⟨rfl, HB.out⟩
set_option maxHeartbeats 2000000 in
theorem markDict_any (g c n : Nat) (t : TypeId) (m : Int) (w : World) (h : Up w g t m n 0) (hm0 : 0 ≤ m) (hm : m ≤ 1048576) (hl : n ≤ 1048576) :
    Calls Try.prog 20 #[.agg #[.slice (some ⟨g, 0, none⟩) n c, .slice none 0 0], .int .i64 m] w fun e w' => e = .returned (.int .i64 (m + (n : Int))) ∧ MkI w w' g t m n n := by
  have hg : g < w.heap.size := by obtain ⟨cs, h1, _⟩ := h; exact h1.lt
  have HM := Lib.hid (fun w h => markIntS_any g c n t m w h hm0 hm hl)
  have HN := Lib.hid markEntryS_nil
  have HA := Lib.hid (show ∀ o, Up (w.alloc o) g t m n 0 ∧ Below w.heap.size w (w.alloc o) from fun o => by
    have hb : Below w.heap.size w (w.alloc o) := (Below.refl _ _).alloc (Nat.le_refl _) _
    exact ⟨h.below hb hg, hb⟩)
  clear h
  go_enter Try.func20, Try.ntmps20
  go_wp2_with fail
  refine (HM.out _ (HA.out _).1).mono ?_
  rintro e w2 ⟨rfl, h⟩
  have HT := Lib.hid (show MkI w w2 g t m n n from ⟨((HA.out _).2.mono (Nat.le_of_lt hg)).trans h.1, h.2.1, fun j hj hne => (h.2.2 j (by simp; omega) hne).trans (Below.heap_alloc _ _ _ hj)⟩)
  have k0 : w2.cell? ⟨w.heap.size, 1, none⟩ = some (.slice none 0 0) := by
    rw [World.cell?_of_block (h.2.2 w.heap.size (by simp) (by omega))]
    exact (Blk.newest w _ _).cell 1
  clear h
  go_wp2_with fail
  refine (HN.out _ _).mono ?_
  rintro e w3 ⟨rfl, rfl⟩
  go_wp2_with fail
  go_ret
  exact ⟨rfl, HT.out⟩
set_option maxHeartbeats 2000000 in
theorem heldDict_any (g c n : Nat) (t : TypeId) (m : Int) (w : World) (h : Up w g t m n n) (hm0 : 0 ≤ m) (hm : m ≤ 1048576) (hl : n ≤ 1048576) :
    Calls Try.prog 21 #[.agg #[.slice (some ⟨g, 0, none⟩) n c, .slice none 0 0], .int .i64 m] w fun e w' => e = .returned (.int .i64 (m + (n : Int))) ∧ Below w.heap.size w w' := by
  have hg : g < w.heap.size := by obtain ⟨cs, h1, _⟩ := h; exact h1.lt
  have HM := Lib.hid (fun w h => heldIntS_any g c n t m w h hm0 hm hl)
  have HN := Lib.hid heldEntryS_nil
  have HA := Lib.hid (show ∀ o, Up (w.alloc o) g t m n n ∧ Below w.heap.size w (w.alloc o) from fun o => by
    have hb : Below w.heap.size w (w.alloc o) := (Below.refl _ _).alloc (Nat.le_refl _) _
    exact ⟨h.below hb hg, hb⟩)
  have hpos : ¬ m + (n : Int) < 0 := by omega
  clear h
  go_enter Try.func21, Try.ntmps21
  go_wp2_with fail
  refine (HM.out _ (HA.out _).1).mono ?_
  rintro e w2 ⟨rfl, rfl⟩
  go_wp2_with fail
  refine (HN.out _ _).mono ?_
  rintro e w3 ⟨rfl, rfl⟩
  go_wp2_with fail
  go_ret
  exact ⟨rfl, (HA.out _).2⟩
end Go.Proofs.Ytplpgcbdbmfffaa
