/- The model's sum and difference of digits. -/
import Derived.Test.YtckmpenlpkhnfabTrim
namespace Go.Proofs.Ytckmpenlpkhnfab
open Go.RowKit
/-- The state of the loop of the sum. -/
def PlI (w wr : World) (a b k : Nat) (v : Value) : Prop := Below w.heap.size w wr ∧ Ow wr w.heap.size v (dgl (psum a b k) k)
theorem cell_at {w wr : World} {g j d : Nat} (hb : Below w.heap.size w wr) (hg : g < w.heap.size) (h : w.cell? ⟨g, j, none⟩ = some (.int .i64 (d : Int))) : wr.cell? ⟨g, j, none⟩ = some (.int .i64 (d : Int)) := by
  rw [hb.cell (p := ⟨g, j, none⟩) hg]; exact h
theorem pl_next {w wr w' : World} {a b k : Nat} {v v' : Value} {z : Int} (h : PlI w wr a b k v) (hz : z = ((cry a b k + dg a k + dg b k) % 10 : Nat)) (ho : Own w' w.heap.size 3 v' (li (dgl (psum a b k) k) ++ [.int .i64 z])) (hb : Below w.heap.size wr w') : PlI w w' a b (k + 1) v' := by
  subst hz
  refine ⟨h.1.trans hb, ?_⟩
  have := Ow.next ho
  rwa [(psum_snoc a b k).1] at this
theorem pl_end {w wr : World} {a b k : Nat} {v : Value} (h : PlI w wr a b k v) (ha : nd a ≤ k) (hb : nd b ≤ k) (hc : cry a b k = 0) : Rd wr w.heap.size v (dgl (a + b) k) ∧ a + b < 10 ^ k := by
  have h1 := h.2.rd
  have h2 := psum_lt a b k
  rw [psum_end ha hb hc] at h1 h2
  exact ⟨h1, h2⟩
theorem zero_end {a k : Nat} (h : nd a ≤ k) : dg a k = 0 := dg_high_zero (nd_lt a) h
theorem cry_over {a b k : Nat} (ha : nd a < k) (hb : nd b < k) : cry a b k = 0 := by
  have h1 := Nat.lt_of_lt_of_le (nd_lt a) (Nat.pow_le_pow_right (n := 10) (by decide) (show nd a ≤ k - 1 by omega))
  have h2 := Nat.lt_of_lt_of_le (nd_lt b) (Nat.pow_le_pow_right (n := 10) (by decide) (show nd b ≤ k - 1 by omega))
  have e : 10 ^ k = 10 * 10 ^ (k - 1) := by rw [← Nat.pow_succ']; congr 1; omega
  unfold cry
  rw [Nat.mod_eq_of_lt (by omega), Nat.mod_eq_of_lt (by omega)]
  exact Nat.div_eq_of_lt (by omega)
set_option maxHeartbeats 4000000 in
theorem plus_dg (a b : Nat) (va vb : Value) (w : World) (ha : Rd w 0 va (D a)) (hb : Rd w 0 vb (D b)) (na : nd a ≤ 100) (nb : nd b ≤ 100) :
    Calls Try.prog 76 #[va, vb] w (SlP w w.heap.size (a + b)) := by
  obtain ⟨g1, cap1, rfl, _, hg1, hc1, hr1⟩ := ha
  obtain ⟨g2, cap2, rfl, _, hg2, hc2, hr2⟩ := hb
  rw [D_len] at hc1 hc2 ⊢
  rw [D_len]
  have HR1 := Lib.hid hr1
  have HR2 := Lib.hid hr2
  have HG1 := Lib.hid hg1
  have HG2 := Lib.hid hg2
  clear hr1 hr2 hg1 hg2
  have H0 := Lib.hid (show PlI w (w.alloc (Obj.cells #[] 3)) a b 0 (.slice (some ⟨w.heap.size, 0, none⟩) 0 0) from ⟨(Below.refl _ _).alloc (Nat.le_refl _) _, Ow.lit0 _ _ (Nat.le_refl _)⟩)
  have HC0 := Lib.hid (show cry a b 0 = 0 by unfold cry; simp [Nat.mod_one])
  go_enter Try.func76, Try.ntmps76
  go_wp2
  go_loopw [5, 6, 7] (fun v c i wr => ∃ k : Nat, k ≤ 101 ∧ i = .int .i64 k ∧ c = .int .i64 (cry a b k) ∧ Hid (PlI w wr a b k v)) (fun _ _ i _ => 102 - (intOf i).toNat)
  case atStart => exact ⟨0, by omega, rfl, by rw [HC0.out]; rfl, H0⟩
  case round =>
    obtain ⟨k, hk, rfl, rfl, HI⟩ := hrel
    have hcl := cry_le a b k
    have la := dg_lt a k
    have lb := dg_lt b k
    have HZ := Lib.hid (show w.heap.size ≤ wr.heap.size from HI.out.1.size)
    by_cases hA : k < nd a
    · by_cases hB : k < nd b
      · skip
        have c1 := cell_at HI.out.1 HG1.out (HR1.out k _ (D_get a k hA))
        have c2 := cell_at HI.out.1 HG2.out (HR2.out k _ (D_get b k hB))
        have HQ := Lib.hid (show ((cry a b k : Int) + (dg a k : Int) + (dg b k : Int)) / 10 = (((cry a b k + dg a k + dg b k) / 10 : Nat) : Int) by omega)
        have HM := Lib.hid (show ((cry a b k : Int) + (dg a k : Int) + (dg b k : Int)) % 10 = (((cry a b k + dg a k + dg b k) % 10 : Nat) : Int) by omega)
        go_wp2_with (first | (refine app1 rfl (.tmp 47) (.tmp 50) 56 3 (.int .i64 0) 8 rfl Try.underlying56 (by kernel_rfl) rfl (by decide) wr wr _ rfl w.heap.size _ _ rfl rfl HI.out.2.1 rfl ?_ HZ.out (Below.refl _ _) ?_; (rw [li_len, dgl_len]; omega); intro v2 w2 ho hb2 _; have HT := Lib.hid (pl_next HI.out HM.out ho hb2); clear ho hb2))
        go_roundw
        case rel => exact ⟨k + 1, by omega, by go_num, by rw [HQ.out, (psum_snoc a b k).2], HT⟩
        case measure => simp [intOf]; try omega
      · skip
        have c1 := cell_at HI.out.1 HG1.out (HR1.out k _ (D_get a k hA))
        have xb := zero_end (Nat.le_of_not_lt hB)
        have HXB := Lib.hid xb; clear xb; have hB' : nd b ≤ k := (by omega); clear hB
        have HQ := Lib.hid (show ((cry a b k : Int) + (dg a k : Int)) / 10 = (((cry a b k + dg a k + dg b k) / 10 : Nat) : Int) by have e2 := HXB.out; omega)
        have HM := Lib.hid (show ((cry a b k : Int) + (dg a k : Int)) % 10 = (((cry a b k + dg a k + dg b k) % 10 : Nat) : Int) by have e2 := HXB.out; omega)
        go_wp2_with (first | (refine app1 rfl (.tmp 47) (.tmp 50) 56 3 (.int .i64 0) 8 rfl Try.underlying56 (by kernel_rfl) rfl (by decide) wr wr _ rfl w.heap.size _ _ rfl rfl HI.out.2.1 rfl ?_ HZ.out (Below.refl _ _) ?_; (rw [li_len, dgl_len]; omega); intro v2 w2 ho hb2 _; have HT := Lib.hid (pl_next HI.out HM.out ho hb2); clear ho hb2))
        go_roundw
        case rel => exact ⟨k + 1, by omega, by go_num, by rw [HQ.out, (psum_snoc a b k).2], HT⟩
        case measure => simp [intOf]; try omega
    · by_cases hB : k < nd b
      · skip
        have xa := zero_end (Nat.le_of_not_lt hA)
        have c2 := cell_at HI.out.1 HG2.out (HR2.out k _ (D_get b k hB))
        have HXA := Lib.hid xa; clear xa; have hA' : nd a ≤ k := (by omega); clear hA
        have HQ := Lib.hid (show ((cry a b k : Int) + (dg b k : Int)) / 10 = (((cry a b k + dg a k + dg b k) / 10 : Nat) : Int) by have e1 := HXA.out; omega)
        have HM := Lib.hid (show ((cry a b k : Int) + (dg b k : Int)) % 10 = (((cry a b k + dg a k + dg b k) % 10 : Nat) : Int) by have e1 := HXA.out; omega)
        go_wp2_with (first | (refine app1 rfl (.tmp 47) (.tmp 50) 56 3 (.int .i64 0) 8 rfl Try.underlying56 (by kernel_rfl) rfl (by decide) wr wr _ rfl w.heap.size _ _ rfl rfl HI.out.2.1 rfl ?_ HZ.out (Below.refl _ _) ?_; (rw [li_len, dgl_len]; omega); intro v2 w2 ho hb2 _; have HT := Lib.hid (pl_next HI.out HM.out ho hb2); clear ho hb2))
        go_roundw
        case rel => exact ⟨k + 1, by omega, by go_num, by rw [HQ.out, (psum_snoc a b k).2], HT⟩
        case measure => simp [intOf]; try omega
      · have xa := zero_end (Nat.le_of_not_lt hA)
        have xb := zero_end (Nat.le_of_not_lt hB)
        have HXA := Lib.hid xa
        have HXB := Lib.hid xb
        clear xa xb
        have hA' : nd a ≤ k := by omega
        have hB' : nd b ≤ k := by omega
        clear hA hB
        by_cases hc : cry a b k = 0
        · have HE := Lib.hid (pl_end HI.out hA' hB' hc)
          have hc0 : ((0 : Int) < (cry a b k : Int)) = False := by rw [hc]; simp
          have HW := Lib.hid (show ∀ wr', SlP wr w.heap.size (a + b) (.returned wr') wr → True from fun _ _ => trivial)
          rw [hc]
          go_wp2_with (first | (go_at_call 67; refine (trimmed_any (a + b) k _ _ w.heap.size HE.out.1 HE.out.2 (by omega)).mono ?_; rintro e w3 ⟨u, rfl, hu, hb3⟩; have HU := Lib.hid (show Rd w3 w.heap.size u (D (a + b)) ∧ Below w.heap.size w w3 from ⟨hu, HI.out.1.trans (hb3.mono HZ.out)⟩); clear hu hb3))
          go_ret
          exact ⟨_, rfl, HU.out⟩
        · have hc0 : (0 : Int) < (cry a b k : Int) := by omega
          have hk2 : k ≤ 100 := by
            rcases Nat.lt_or_ge 100 k with h | h
            · exact absurd (cry_over (by omega) (by omega)) hc
            · exact h
          clear hc
          have HQ := Lib.hid (show ((cry a b k : Int)) / 10 = (((cry a b k + dg a k + dg b k) / 10 : Nat) : Int) by have e1 := HXA.out; have e2 := HXB.out; omega)
          have HM := Lib.hid (show ((cry a b k : Int)) % 10 = (((cry a b k + dg a k + dg b k) % 10 : Nat) : Int) by have e1 := HXA.out; have e2 := HXB.out; omega)
          go_wp2_with (first | (refine app1 rfl (.tmp 47) (.tmp 50) 56 3 (.int .i64 0) 8 rfl Try.underlying56 (by kernel_rfl) rfl (by decide) wr wr _ rfl w.heap.size _ _ rfl rfl HI.out.2.1 rfl ?_ HZ.out (Below.refl _ _) ?_; (rw [li_len, dgl_len]; omega); intro v2 w2 ho hb2 _; have HT := Lib.hid (pl_next HI.out HM.out ho hb2); clear ho hb2))
          go_roundw
          case rel => exact ⟨k + 1, by omega, by go_num, by rw [HQ.out, (psum_snoc a b k).2], HT⟩
          case measure => simp [intOf]; try omega
end Go.Proofs.Ytckmpenlpkhnfab
