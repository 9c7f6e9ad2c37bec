/- The model's product of digits. -/
import Derived.Test.YtckmpenlpkhnfabMPlus
import Derived.Laws.OwnMore
import Derived.OwnWalk
import Derived.StillTailTactics
namespace Go.Proofs.Ytckmpenlpkhnfab
open Go.RowKit
/-- 'make([]int, n)'. -/
theorem mkI {ops : Array Oper} {rest : List Oper} {o : Oper} {a : Act} {w : World} {Q : Exit → Act → World → Prop} (hg : o.guard = none) (l c : Operand) (hop : o.op = Op.makeSlice 56 l c) (n : Nat) (L C : Int) (hl : a.eval l = .int .i64 L) (hc : a.eval c = .int .i64 C) (hL : L = (n : Int)) (hC : C = (n : Int)) (hn : n ≤ 1000)
    (hK : ∀ w', w'.ownsRow w.heap.size 3 1 (.slice (some ⟨w.heap.size, 0, none⟩) n n) n (li (List.replicate n 0)) → Below w.heap.size w w' → wpList Try.prog ops Q rest (a.put o.dst (.slice (some ⟨w.heap.size, 0, none⟩) n n)) w') : wpList Try.prog ops Q (o :: rest) a w := by
  obtain ⟨i, hi1, hi2, hi3, hi4⟩ := info_of (P := Try.prog) (e := 3) (z := .int .i64 0) (s := 1) (b := 8) (by kernel_rfl)
  refine wpList_make_full w hg l c 56 hop w.heap.size 3 i (.int .i64 0) 1 Try.underlying56 hi1 hi2 hi3 .i64 .i64 L C n hl hc hL hC (by rw [hi4]; omega) (by unfold maxLen; omega) (Nat.le_refl _) ?_
  intro w' ho hgr
  refine hK w' ?_ ((Below.refl _ _).grown hgr (Nat.le_refl _) (fun k hk => by cases hk))
  have e : (madeCells (Value.int .i64 0).cells (n * 1)).toList = li (List.replicate n 0) := by
    rw [show (Value.int .i64 0).cells = #[Value.int .i64 0] from rfl, toList_madeCells_one]
    simp [li]
  rw [e] at ho
  exact ho
/-- A row of the call's own of L entries, at block g. -/
def TmI (w wr : World) (g L : Nat) (l : List Nat) : Prop := Below w.heap.size w wr ∧ wr.ownsRow w.heap.size 3 1 (.slice (some ⟨g, 0, none⟩) L L) L (li l)
section
variable {w wr : World} {g L : Nat} {l : List Nat}
theorem TmI.ge (h : TmI w wr g L l) : w.heap.size ≤ g ∧ g < wr.heap.size := World.ownsRow.lt h.2 g rfl
theorem TmI.cell (h : TmI w wr g L l) {j y : Nat} (hj : j < L) (hy : l[j]? = some y) : wr.cell? ⟨g, j, none⟩ = some (.int .i64 (y : Int)) := by
  rw [World.ownsRow.cellAt h.2 j (by omega)]; exact li_get hy
theorem TmI.free (h : TmI w wr g L l) (j : Nat) : wr.frozen? ⟨g, j, none⟩ = false := World.ownsRow.frozenAt h.2 j
theorem TmI.drewN (h : TmI w wr g L l) (n : Nat) : TmI w (wr.drewN n) g L l := ⟨below_drewN' h.1, h.2⟩
theorem TmI.put (h : TmI w wr g L l) (j x : Nat) {z : Int} (hz : z = (x : Int)) : TmI w (wr.setCell ⟨g, j, none⟩ (.int .i64 z)) g L (l.set j x) := by
  subst hz
  refine ⟨h.1.setCell h.ge.1 _, ?_⟩
  have e : li (l.set j x) = (li l).set j (.int .i64 (x : Int)) := by simp [li, List.map_set]
  rw [e]
  exact (World.ownsRow.stored h.2 j _).1
theorem TmI.below {w2 : World} (h : TmI w wr g L l) (hb : Below wr.heap.size wr w2) : TmI w w2 g L l := by
  have hg := h.ge
  exact ⟨h.1.trans (hb.mono h.1.size), World.ownsRow.kept (row := none) h.2 ⟨hb.os, hb.tape, hb.output, hb.size, fun k hk _ => hb.block k hk⟩ (by simp [Value.ownBlock])⟩
theorem TmI.rd (h : TmI w wr g L l) (hl : l.length = L) : Rd wr w.heap.size (.slice (some ⟨g, 0, none⟩) L L) l := by
  refine ⟨g, L, by rw [hl], h.ge.1, h.ge.2, by omega, fun j d hj => h.cell ?_ hj⟩
  rw [← hl]
  rcases Nat.lt_or_ge j l.length with h1 | h1
  · exact h1
  · rw [List.getElem?_eq_none h1] at hj; cases hj
end
theorem get_of_len {l : List Nat} {j L : Nat} (h : l.length = L) (hj : j < L) : ∃ y, l[j]? = some y := ⟨l[j]'(by omega), List.getElem?_eq_getElem _⟩
set_option maxHeartbeats 4000000 in
theorem times_dg (a b : Nat) (va vb : Value) (w : World) (ha : Rd w 0 va (D a)) (hb : Rd w 0 vb (D b)) (na : nd a ≤ 100) (nb : nd b ≤ 100) :
    Calls Try.prog 66 #[va, vb] w (SlP w w.heap.size (a * b)) := by
  obtain ⟨g1, cap1, rfl, _, hg1, hc1, hr1⟩ := ha
  obtain ⟨g2, cap2, rfl, _, hg2, hc2, hr2⟩ := hb
  rw [D_len] at hc1 hc2 ⊢
  rw [D_len]
  obtain ⟨L, hL⟩ : ∃ L, nd a + nd b + 1 = L := ⟨_, rfl⟩
  have HR1 := Lib.hid hr1
  have HR2 := Lib.hid hr2
  have HG1 := Lib.hid hg1
  have HG2 := Lib.hid hg2
  have HRoom := Lib.hid (show a * b < 10 ^ L by rw [← hL]; exact mul_room a b)
  have HE := Lib.hid (fun (l : List Nat) => tm_end (a := a) (b := b) (L := L) (l := l))
  clear hr1 hr2 hg1 hg2
  generalize hab : a * b = ab at HRoom HE ⊢
  clear hab
  go_enter Try.func66, Try.ntmps66
  go_wp2_with (first | (refine mkI rfl (.tmp 16) (.tmp 16) rfl L _ _ rfl rfl (by omega) (by omega) (by omega) ?_; intro w1 ho hb1; have H1 := Lib.hid (show TmI w w1 w.heap.size L (List.replicate L 0) from ⟨hb1, ho⟩); clear ho hb1))
  go_loopw [6] (fun i wr => ∃ k : Nat, k ≤ nd a ∧ i = .int .i64 k ∧ ∃ l, Hid (TmI w wr w.heap.size L l ∧ TmAt a b L k 0 l)) (fun i _ => nd a - (intOf i).toNat)
  case atStart => exact ⟨0, by omega, rfl, _, Lib.hid ⟨H1.out, tm_start a b L⟩⟩
  case round =>
    obtain ⟨i, hi, rfl, l, HI⟩ := hrel
    clear H1 w1
    obtain ⟨wo, rfl⟩ : ∃ wo : World, wo = wr := ⟨_, rfl⟩
    by_cases hlt : i < nd a
    · go_wp2
      go_loopw [7] (fun j wr => ∃ k : Nat, k ≤ nd b ∧ j = .int .i64 k ∧ ∃ l, Hid (TmI w wr w.heap.size L l ∧ TmAt a b L i k l)) (fun j _ => nd b - (intOf j).toNat)
      case atStart => exact ⟨0, by omega, rfl, l, HI⟩
      case round =>
        obtain ⟨k, hk, rfl, l2, HI2⟩ := hrel
        by_cases hlt2 : k < nd b
        · have c1 := cell_at HI2.out.1.1 HG1.out (HR1.out i _ (D_get a i hlt))
          have c2 := cell_at HI2.out.1.1 HG2.out (HR2.out k _ (D_get b k hlt2))
          obtain ⟨p, hp⟩ : ∃ p, i + k = p := ⟨_, rfl⟩
          have hpL : p < L := by omega
          have hw : IntKind.i64.wrap ((i : Int) + (k : Int)) = (p : Int) := by rw [IntWalk.i64_in _ (by omega)]; omega
          obtain ⟨y, hy⟩ := get_of_len HI2.out.2.1 hpL
          have c3 := HI2.out.1.cell hpL hy
          have f3 := HI2.out.1.free p
          have hyb := tm_bound HI2.out.2 (by omega) nb (by omega) hy
          have HY := Lib.hid hy
          clear hy
          have la := dg_lt a i
          have lb := dg_lt b k
          have hab : dg a i * dg b k ≤ 9 * 9 := Nat.mul_le_mul (by omega) (by omega)
          have hab1 : (dg a i : Int) * (dg b k : Int) ≤ 81 := by
            have : ((dg a i * dg b k : Nat) : Int) ≤ 81 := by omega
            simpa using this
          have hab0 : 0 ≤ (dg a i : Int) * (dg b k : Int) := by
            have : 0 ≤ ((dg a i * dg b k : Nat) : Int) := by omega
            simpa using this
          have hm2 : IntKind.i64.wrap ((dg a i : Int) * (dg b k : Int)) = (dg a i : Int) * (dg b k : Int) := IntWalk.i64_in _ (by omega)
          have hs2 : IntKind.i64.wrap ((y : Int) + (dg a i : Int) * (dg b k : Int)) = (y : Int) + (dg a i : Int) * (dg b k : Int) := IntWalk.i64_in _ (by omega)
          have HZ := Lib.hid (show (y : Int) + (dg a i : Int) * (dg b k : Int) = ((y + dg a i * dg b k : Nat) : Int) by simp)
          have HT := Lib.hid (tm_step HI2.out.2 (show l2[i + k]? = some y by rw [hp]; exact HY.out))
          have HP := Lib.hid (fun (z : Int) (hz : z = ((y + dg a i * dg b k : Nat) : Int)) => (HI2.out.1.drewN 1).put p _ hz)
          go_wp2
          refine wp_region_still_tail 21 (by kernel_rfl) (by kernel_rfl) ?_
          simp only [List.take_succ_cons, List.take_zero, List.drop_succ_cons, List.drop_zero]
          repeat still_step
          try simp only [hw]
          repeat still_step
          refine wpStill_nil ?_
          have c4 : World.cell? { heap := wr.heap, tape := wr.tape, drawn := wr.drawn + 1, os := wr.os, output := wr.output } ⟨w.heap.size, p, none⟩ = some (.int .i64 (y : Int)) := c3
          have f4 : World.frozen? { heap := wr.heap, tape := wr.tape, drawn := wr.drawn + 1, os := wr.os, output := wr.output } ⟨w.heap.size, p, none⟩ = false := f3
          go_wp2
          go_roundw
          case rel => exact ⟨k + 1, by omega, by go_num, _, Lib.hid ⟨HP.out _ (by first | exact HZ.out | (simp only [hs2, hm2]; exact HZ.out)), by have := HT.out; rwa [hp] at this⟩⟩
          case measure => simp [intOf]; try omega
        · obtain rfl : k = nd b := by omega
          have HT := Lib.hid (tm_next HI2.out.2)
          go_wp2
          go_roundw
          case rel => exact ⟨i + 1, by omega, by go_num, _, Lib.hid ⟨HI2.out.1, HT.out⟩⟩
          case measure => simp [intOf]; try omega
    · obtain rfl : i = nd a := by omega
      have HV := Lib.hid (HE.out l HI.out.2)
      have HB := Lib.hid (fun j x h => tm_bound HI.out.2 na nb (by omega) (j := j) (x := x) h)
      have HLen := Lib.hid HI.out.2.1
      clear hlt
      go_wp2
      go_loopw [8, 9] (fun c j wr => ∃ k : Nat, k ≤ L ∧ j = .int .i64 k ∧ c = .int .i64 (cyC l k) ∧ Hid (TmI w wr w.heap.size L (cyD l k))) (fun _ j _ => L - (intOf j).toNat)
      case atStart => exact ⟨0, by omega, rfl, by rw [cyC_start]; rfl, by rw [cyD_start]; exact Lib.hid HI.out.1⟩
      case round =>
        obtain ⟨k, hk, rfl, rfl, HI2⟩ := hrel
        have hcb := cyC_le HB.out k (by rw [HLen.out]; exact hk)
        by_cases hlt : k < L
        · obtain ⟨y, hy⟩ := get_of_len HLen.out hlt
          have hyb := HB.out k y hy
          have c3 := HI2.out.cell hlt (cyD_get hy)
          have f3 := HI2.out.free k
          have HS := Lib.hid (cy_step hy)
          have HM := Lib.hid (show ((y : Int) + (cyC l k : Int)) % 10 = (((y + cyC l k) % 10 : Nat) : Int) by omega)
          have HQ := Lib.hid (show ((y : Int) + (cyC l k : Int)) / 10 = (((y + cyC l k) / 10 : Nat) : Int) by omega)
          have HP := Lib.hid (fun (n : Nat) (z : Int) (hz : z = (((y + cyC l k) % 10 : Nat) : Int)) => (HI2.out.drewN n).put k _ hz)
          clear hy
          go_wp2
          go_roundw
          case rel => exact ⟨k + 1, by omega, by go_num, by rw [HQ.out, HS.out.2], by rw [← HS.out.1]; exact Lib.hid (HP.out 0 _ HM.out)⟩
          case measure => simp [intOf]; try omega
        · obtain rfl : k = L := by omega
          have HF := Lib.hid (show Rd wr w.heap.size (.slice (some ⟨w.heap.size, 0, none⟩) k k) (dgl ab k) by
            have h := HI2.out.rd (by rw [cyD_len _ _ (by rw [HLen.out]; exact hk), HLen.out])
            have e := cyD_end l
            rw [HLen.out, HV.out] at e
            rw [e] at h
            exact h)
          clear hlt
          go_wp2_with (first | (go_at_call 67; refine (trimmed_any ab k _ _ w.heap.size HF.out HRoom.out (by omega)).mono ?_; rintro e w3 ⟨u, rfl, hu, hb3⟩; have HU := Lib.hid (show Rd w3 w.heap.size u (D ab) ∧ Below w.heap.size w w3 from ⟨hu, HI2.out.1.trans (hb3.mono HI2.out.1.size)⟩); clear hu hb3))
          go_ret
          exact ⟨_, rfl, HU.out⟩
end Go.Proofs.Ytckmpenlpkhnfab
