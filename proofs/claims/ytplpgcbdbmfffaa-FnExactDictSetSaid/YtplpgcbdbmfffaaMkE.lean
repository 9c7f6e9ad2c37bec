/- The law's marks of entries. -/
import Derived.Test.YtplpgcbdbmfffaaMkT
import Derived.Test.YtplpgcbdbmfffaaMkA
namespace Go.Proofs.Ytplpgcbdbmfffaa
open Go.RowKit
set_option maxRecDepth 20000 in
set_option maxHeartbeats 8000000 in
theorem markEntryS_any (g c n : Nat) (m : Int) (w : World) (h : EnW w g n) (hm0 : 0 < m) (hm : m ≤ 2000000) (hl : n ≤ 1048576) :
    Calls Try.prog 55 #[.slice (some ⟨g, 0, none⟩) n c, .int .i64 m] w fun e w' => e = .returned (.int .i64 (m + 4 * (n : Int))) ∧ MkE w w' g n := by
  have H0 := Lib.hid (show MkE w w g n from ⟨World.grownBy.refl _ _, h⟩)
  clear h
  go_enter Try.func55, Try.ntmps55
  go_wp2_with fail
  go_loopw [1, 5] (fun v i wr => ∃ k : Nat, k ≤ n ∧ i = .int .i64 k ∧ v = .int .i64 (m + 4 * (k : Int)) ∧ Hid (MkE w wr g n)) (fun _ i _ => n - (intOf i).toNat)
  case atStart => exact ⟨0, by omega, rfl, by simp, H0⟩
  case round =>
    obtain ⟨k, hk, rfl, rfl, HI⟩ := hrel
    by_cases hlt : k < n
    · have q1 : (k : Int) < (n : Int) := by omega
      have q0 : 0 ≤ (k : Int) := by omega
      obtain ⟨j, hj⟩ : ∃ j : Nat, (j : Int) = m + 4 * (k : Int) := ⟨(m + 4 * (k : Int)).toNat, by omega⟩
      have hj1 : 0 < j := by omega
      have hj2 : j ≤ 1000000000 := by omega
      have HMT := Lib.hid (fun w => markText_any j w hj1 hj2)
      have HJ := Lib.hid hj
      rw [← hj]
      clear hj
      generalize mkT j = l at *
      go_wp2_with fail
      refine (HMT.out _).mono ?_
      rintro e w2 ⟨rfl, hb2⟩
      have HI2 := Lib.hid (HI.out.more hb2)
      clear hb2
      obtain ⟨y0, z0, f0⟩ := HI2.out.2.old (show k * 4 < n * 4 by omega)
      obtain ⟨y1, z1, f1⟩ := HI2.out.2.old (show k * 4 + 1 < n * 4 by omega)
      obtain ⟨y2, z2, f2⟩ := HI2.out.2.old (show k * 4 + 2 < n * 4 by omega)
      obtain ⟨y3, z3, f3⟩ := HI2.out.2.old (show k * 4 + 3 < n * 4 by omega)
      go_wp2_with fail
      go_roundw
      case rel => exact ⟨k + 1, by omega, by go_num, congrArg (Value.int IntKind.i64) (by have := HJ.out; omega), Lib.hid HI2.out.set.set.set.set⟩
      case measure => simp [intOf]; try omega
    · obtain rfl : k = n := by omega
      clear hlt
      go_wp2_with fail
      go_ret
      exact ⟨rfl, HI.out⟩
/-- What a call wrote into two blocks, and made besides. -/
def TwoG (w w' : World) (g1 g2 : Nat) : Prop := w'.os = w.os ∧ w'.tape = w.tape ∧ w'.output = w.output ∧ w.heap.size ≤ w'.heap.size ∧ ∀ j, j < w.heap.size → j ≠ g1 → j ≠ g2 → w'.heap[j]? = w.heap[j]?
theorem TwoG.below {w w' : World} {g1 g2 B : Nat} (h : TwoG w w' g1 g2) (h1 : B ≤ g1) (h2 : B ≤ g2) (hB : B ≤ w.heap.size) : Below B w w' := ⟨h.1, h.2.1, h.2.2.1, h.2.2.2.1, fun j hj => h.2.2.2.2 j (by omega) (by omega) (by omega)⟩
set_option maxRecDepth 20000 in
set_option maxHeartbeats 4000000 in
theorem markDict_two (g1 g2 n ne b : Nat) (ix : List Int) (w : World) (h1 : OwI w b (.slice (some ⟨g1, 0, none⟩) n n) ix) (h2 : EnW w g2 ne) (hne : g1 ≠ g2) (hn : n ≤ 1048576) (hl : ne ≤ 1048576) :
    Calls Try.prog 20 #[.agg #[.slice (some ⟨g1, 0, none⟩) n n, .slice (some ⟨g2, 0, none⟩) ne ne], .int .i64 1] w fun e w' => e = .returned (.int .i64 (1 + (n : Int) + 4 * (ne : Int))) ∧ TwoG w w' g1 g2 := by
  obtain ⟨w1, hw1⟩ : ∃ w1, w1 = w.alloc (Obj.cells #[.slice (some ⟨g1, 0, none⟩) n n, .slice (some ⟨g2, 0, none⟩) ne ne] 27) := ⟨_, rfl⟩
  have hb1 : Below w.heap.size w w1 := by rw [hw1]; exact (Below.refl _ _).alloc (Nat.le_refl _) _
  have hlt1 : g1 < w.heap.size := (OwI.lt h1 g1 rfl).2
  have HX1 := Lib.hid (show Blk w1 w.heap.size 27 #[.slice (some ⟨g1, 0, none⟩) n n, .slice (some ⟨g2, 0, none⟩) ne ne] from by rw [hw1]; exact Blk.newest w _ _)
  have HM := Lib.hid (markIntS_any g1 n n 3 1 w1 ((h1.keepD hb1 hlt1).up 1) (by omega) (by omega) hn)
  have HE1 := Lib.hid (h2.below hb1 h2.lt)
  have HB1 := Lib.hid hb1
  have hlt2 := h2.lt
  have HME := Lib.hid (fun w h => markEntryS_any g2 ne ne (1 + (n : Int)) w h (by omega) (by omega) hl)
  have HW1 := Lib.hid hw1
  have hs1 : w1.heap.size = w.heap.size + 1 := by rw [hw1]; simp
  clear h1 h2 hb1 hw1
  go_enter Try.func20, Try.ntmps20
  go_wp2_with fail
  rw [← HW1.out]
  refine HM.out.mono ?_
  rintro e w2 ⟨rfl, hk⟩
  have hg := mk_grown hk
  have HG := Lib.hid hg
  have HX2 := Lib.hid (show Blk w2 w.heap.size 27 #[.slice (some ⟨g1, 0, none⟩) n n, .slice (some ⟨g2, 0, none⟩) ne ne] from (hk.2.2 _ (by omega) (by omega)).trans HX1.out)
  have HE2 := Lib.hid (show EnW w2 g2 ne from by
    obtain ⟨cs, q1, q2⟩ := HE1.out
    exact ⟨cs, (hk.2.2 _ (by omega) (Ne.symm hne)).trans q1, q2⟩)
  have HS2 := Lib.hid hk.1.size
  clear hk hg
  have b0 := HX2.out.cell 0
  have b1 := HX2.out.cell 1
  go_wp2_with fail
  refine (HME.out _ HE2.out).mono ?_
  rintro e w3 ⟨rfl, hk3⟩
  have HK := Lib.hid hk3
  clear hk3
  go_wp2_with fail
  go_ret
  have h3 := HK.out.1
  have h2 := HG.out
  have hb := HB1.out
  have hs2 := HS2.out
  exact ⟨rfl, h3.os.trans (h2.os.trans hb.os), h3.tape.trans (h2.tape.trans hb.tape), h3.output.trans (h2.output.trans hb.output), Nat.le_trans hb.size (Nat.le_trans hs2 h3.size), fun j hj hj1 hj2 => (h3.block j (by omega) (fun e => by injection e with e; exact hj2 e)).trans ((h2.block j (by omega) (fun e => by injection e with e; exact hj1 e)).trans (hb.block j hj))⟩
end Go.Proofs.Ytplpgcbdbmfffaa
