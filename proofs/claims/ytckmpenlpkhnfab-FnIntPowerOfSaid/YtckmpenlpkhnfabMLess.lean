/- The model's difference of digits. -/
import Derived.Test.YtckmpenlpkhnfabMPlus
namespace Go.Proofs.Ytckmpenlpkhnfab
open Go.RowKit
/-- The state of the loop of the difference. -/
def LeI (w wr : World) (a b k : Nat) (v : Value) : Prop := Below w.heap.size w wr ∧ Ow wr w.heap.size v (dgl (dif a b k) k)
theorem le_next {w wr w' : World} {a b k : Nat} {v v' : Value} {z : Int} (h : LeI w wr a b k v) (hz : z = ((10 + dg a k - dg b k - bor a b k) % 10 : Nat)) (ho : Own w' w.heap.size 3 v' (li (dgl (dif a b k) k) ++ [.int .i64 z])) (hb : Below w.heap.size wr w') : LeI w w' a b (k + 1) v' := by
  subst hz
  refine ⟨h.1.trans hb, ?_⟩
  have := Ow.next ho
  rwa [dif_snoc] at this
theorem le_end {w wr : World} {a b : Nat} {v : Value} (h : LeI w wr a b (nd a) v) (hab : b ≤ a) : Rd wr w.heap.size v (dgl (a - b) (nd a)) ∧ a - b < 10 ^ (nd a) := by
  have h1 := h.2.rd
  rw [dif_end (nd_lt a) hab] at h1
  have := nd_lt a
  exact ⟨h1, by omega⟩
set_option maxHeartbeats 4000000 in
theorem less_dg (a b : Nat) (va vb : Value) (w : World) (ha : Rd w 0 va (D a)) (hb : Rd w 0 vb (D b)) (na : nd a ≤ 100) (_nb : nd b ≤ 100) (hab : b ≤ a) :
    Calls Try.prog 77 #[va, vb] w (SlP w w.heap.size (a - b)) := by
  obtain ⟨g1, cap1, rfl, _, hg1, hc1, hr1⟩ := ha
  obtain ⟨g2, cap2, rfl, _, hg2, hc2, hr2⟩ := hb
  rw [D_len] at hc1 hc2 ⊢
  rw [D_len]
  have HR1 := Lib.hid hr1
  have HR2 := Lib.hid hr2
  have HG1 := Lib.hid hg1
  have HG2 := Lib.hid hg2
  have HAB := Lib.hid hab
  clear hr1 hr2 hg1 hg2 hab
  have H0 := Lib.hid (show LeI w (w.alloc (Obj.cells #[] 3)) a b 0 (.slice (some ⟨w.heap.size, 0, none⟩) 0 0) from ⟨(Below.refl _ _).alloc (Nat.le_refl _) _, Ow.lit0 _ _ (Nat.le_refl _)⟩)
  have HC0 := Lib.hid (show bor a b 0 = 0 by unfold bor; simp [Nat.mod_one])
  go_enter Try.func77, Try.ntmps77
  go_wp2
  go_loopw [5, 6, 7] (fun v c i wr => ∃ k : Nat, k ≤ nd a ∧ i = .int .i64 k ∧ c = .int .i64 (bor a b k) ∧ Hid (LeI w wr a b k v)) (fun _ _ i _ => nd a - (intOf i).toNat)
  case atStart => exact ⟨0, by omega, rfl, by rw [HC0.out]; rfl, H0⟩
  case round =>
    obtain ⟨k, hk, rfl, rfl, HI⟩ := hrel
    have hcl := bor_le a b k
    have la := dg_lt a k
    have lb := dg_lt b k
    have HZ := Lib.hid (show w.heap.size ≤ wr.heap.size from HI.out.1.size)
    have HS := Lib.hid (sub_step a b k).2
    by_cases hA : k < nd a
    · have c1 := cell_at HI.out.1 HG1.out (HR1.out k _ (D_get a k hA))
      by_cases hB : k < nd b
      · have c2 := cell_at HI.out.1 HG2.out (HR2.out k _ (D_get b k hB))
        by_cases hn : dg a k < dg b k + bor a b k
        · skip
          have hs : (dg a k : Int) - (bor a b k : Int) - (dg b k : Int) < 0 := by omega
          clear hn
          have HM := Lib.hid (show (dg a k : Int) - (bor a b k : Int) - (dg b k : Int) + 10 = (((10 + dg a k - dg b k - bor a b k) % 10 : Nat) : Int) by omega)
          have HQ := Lib.hid (show bor a b (k + 1) = 1 by rw [HS.out]; omega)
          go_wp2_with (first | (refine app1 rfl (.tmp 36) (.tmp 38) 56 3 (.int .i64 0) 8 rfl Try.underlying56 (by kernel_rfl) rfl (by decide) wr wr _ rfl w.heap.size _ _ rfl rfl HI.out.2.1 rfl ?_ HZ.out (Below.refl _ _) ?_; (rw [li_len, dgl_len]; omega); intro v2 w2 ho hb2 _; have HT := Lib.hid (le_next HI.out HM.out ho hb2); clear ho hb2))
          go_roundw
          case rel => exact ⟨k + 1, by omega, by go_num, by rw [HQ.out]; rfl, HT⟩
          case measure => simp [intOf]; try omega
        · skip
          have hs : 0 ≤ (dg a k : Int) - (bor a b k : Int) - (dg b k : Int) := by omega
          clear hn
          have HM := Lib.hid (show (dg a k : Int) - (bor a b k : Int) - (dg b k : Int) = (((10 + dg a k - dg b k - bor a b k) % 10 : Nat) : Int) by omega)
          have HQ := Lib.hid (show bor a b (k + 1) = 0 by rw [HS.out]; omega)
          go_wp2_with (first | (refine app1 rfl (.tmp 36) (.tmp 38) 56 3 (.int .i64 0) 8 rfl Try.underlying56 (by kernel_rfl) rfl (by decide) wr wr _ rfl w.heap.size _ _ rfl rfl HI.out.2.1 rfl ?_ HZ.out (Below.refl _ _) ?_; (rw [li_len, dgl_len]; omega); intro v2 w2 ho hb2 _; have HT := Lib.hid (le_next HI.out HM.out ho hb2); clear ho hb2))
          go_roundw
          case rel => exact ⟨k + 1, by omega, by go_num, by rw [HQ.out]; rfl, HT⟩
          case measure => simp [intOf]; try omega
      · have HXB := Lib.hid (zero_end (Nat.le_of_not_lt hB))
        have hB' : nd b ≤ k := by omega
        clear hB
        by_cases hn : dg a k < bor a b k
        · skip
          have hs : (dg a k : Int) - (bor a b k : Int) < 0 := by have e2 := HXB.out; omega
          clear hn
          have HM := Lib.hid (show (dg a k : Int) - (bor a b k : Int) + 10 = (((10 + dg a k - dg b k - bor a b k) % 10 : Nat) : Int) by have e2 := HXB.out; omega)
          have HQ := Lib.hid (show bor a b (k + 1) = 1 by rw [HS.out]; have e2 := HXB.out; omega)
          go_wp2_with (first | (refine app1 rfl (.tmp 36) (.tmp 38) 56 3 (.int .i64 0) 8 rfl Try.underlying56 (by kernel_rfl) rfl (by decide) wr wr _ rfl w.heap.size _ _ rfl rfl HI.out.2.1 rfl ?_ HZ.out (Below.refl _ _) ?_; (rw [li_len, dgl_len]; omega); intro v2 w2 ho hb2 _; have HT := Lib.hid (le_next HI.out HM.out ho hb2); clear ho hb2))
          go_roundw
          case rel => exact ⟨k + 1, by omega, by go_num, by rw [HQ.out]; rfl, HT⟩
          case measure => simp [intOf]; try omega
        · skip
          have hs : 0 ≤ (dg a k : Int) - (bor a b k : Int) := by have e2 := HXB.out; omega
          clear hn
          have HM := Lib.hid (show (dg a k : Int) - (bor a b k : Int) = (((10 + dg a k - dg b k - bor a b k) % 10 : Nat) : Int) by have e2 := HXB.out; omega)
          have HQ := Lib.hid (show bor a b (k + 1) = 0 by rw [HS.out]; have e2 := HXB.out; omega)
          go_wp2_with (first | (refine app1 rfl (.tmp 36) (.tmp 38) 56 3 (.int .i64 0) 8 rfl Try.underlying56 (by kernel_rfl) rfl (by decide) wr wr _ rfl w.heap.size _ _ rfl rfl HI.out.2.1 rfl ?_ HZ.out (Below.refl _ _) ?_; (rw [li_len, dgl_len]; omega); intro v2 w2 ho hb2 _; have HT := Lib.hid (le_next HI.out HM.out ho hb2); clear ho hb2))
          go_roundw
          case rel => exact ⟨k + 1, by omega, by go_num, by rw [HQ.out]; rfl, HT⟩
          case measure => simp [intOf]; try omega
    · obtain rfl : k = nd a := by omega
      have HE := Lib.hid (le_end HI.out HAB.out)
      clear hA
      go_wp2_with (first | (go_at_call 67; refine (trimmed_any (a - b) (nd a) _ _ w.heap.size HE.out.1 HE.out.2 (by omega)).mono ?_; rintro e w3 ⟨u, rfl, hu, hb3⟩; have HU := Lib.hid (show Rd w3 w.heap.size u (D (a - b)) ∧ Below w.heap.size w w3 from ⟨hu, HI.out.1.trans (hb3.mono HZ.out)⟩); clear hu hb3))
      go_ret
      exact ⟨_, rfl, HU.out⟩
end Go.Proofs.Ytckmpenlpkhnfab
