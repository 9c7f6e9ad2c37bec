/- Whether slots and entries fit: the program's isWhole. -/
import Derived.Test.YtplpgcbdbmfffaaOwB
namespace Go.Proofs.Ytplpgcbdbmfffaa
open Go.RowKit
/-- While slots are read: what was there, and which entries were seen. -/
def SwI (w1 wr : World) (ix : List Int) (E k : Nat) : Prop := Below w1.heap.size w1 wr ∧ OwB wr w1.heap.size (.slice (some ⟨w1.heap.size, 0, none⟩) E E) (seenL ix E k)
theorem SwI.start {w1 w3 : World} {ix : List Int} {E : Nat} (ho : OwB w3 w1.heap.size (.slice (some ⟨w1.heap.size, 0, none⟩) E E) (List.replicate E false)) (hb : Below w1.heap.size w1 w3) : SwI w1 w3 ix E 0 := ⟨hb, by rw [seenL_zero]; exact ho⟩
theorem SwI.neg {w1 wr : World} {ix : List Int} {E k : Nat} {n : Int} (h : SwI w1 wr ix E k) (hn : ix[k]? = some n) (h0 : n < 0) : SwI w1 wr ix E (k + 1) := ⟨h.1, by rw [seenL_neg hn h0]; exact h.2⟩
theorem SwI.pos {w1 wr : World} {ix : List Int} {E k p : Nat} (h : SwI w1 wr ix E k) (hn : ix[k]? = some (p : Int)) (hp : p < E) : SwI w1 (wr.setCell ⟨w1.heap.size, p, none⟩ (.bool true)) ix E (k + 1) := by
  refine ⟨h.1.setCell (Nat.le_refl _) _, ?_⟩
  have h1 := h.2.stored p true
  rw [seenL_pos hn hp] at h1
  exact h1
def whV (ix : List Int) (es : List Ent) : Bool := slotN ix.length && decide (es.length ≤ 2 * ix.length / 3)
set_option maxHeartbeats 2000000 in
set_option maxRecDepth 20000 in
theorem isWhole_any (ix : List Int) (es : List Ent) (g c1 c2 : Nat) (a : Option Addr) (w : World) (h : Tb w g ix a es) (hl : es.length ≤ 1048576) (hm : ix.length ≤ 1048576) :
    Calls Try.prog 62 #[.agg #[.slice (some ⟨g, 0, none⟩) ix.length c1, .slice a es.length c2]] w fun e w' => e = .returned (.bool (whV ix es && whB ix es)) ∧ Below w.heap.size w w' := by
  obtain ⟨w1, hw1⟩ : ∃ w1, w1 = w.alloc (Obj.cells #[.slice (some ⟨g, 0, none⟩) ix.length c1, .slice a es.length c2] 61) := ⟨_, rfl⟩
  have HT1 := Lib.hid (show Tb w1 g ix a es from by rw [hw1]; exact h.below ((Below.refl _ _).alloc (Nat.le_refl _) _))
  have HBox := Lib.hid (show Blk w1 w.heap.size _ #[.slice (some ⟨g, 0, none⟩) ix.length c1, .slice a es.length c2] from by rw [hw1]; exact Blk.newest w _ _)
  have HS := Lib.hid (fun w => (isSlotCount_any ix.length w (by omega)).mono fun _ _ h => And.intro h.1 h.2.symm)
  have HR := Lib.hid (fun w => (entryRoom_any ix.length w hm).mono fun _ _ h => And.intro h.1 h.2.symm)
  have HB0 := Lib.hid (show Below w.heap.size w w1 from by rw [hw1]; exact (Below.refl _ _).alloc (Nat.le_refl _) _)
  have hsz : w1.heap.size = w.heap.size + 1 := by rw [hw1]; simp
  cases hv : slotN ix.length with
  | false =>
    have HE := Lib.hid (show (whV ix es && whB ix es) = false by unfold whV; rw [hv]; rfl)
    rw [hv] at HS
    clear h hv
    generalize ix.length = m at *
    generalize es.length = ne at *
    have HW1 := Lib.hid hw1
    have b0 := HBox.out.cell 0
    have b1 := HBox.out.cell 1
    go_enter Try.func62, Try.ntmps62
    go_wp2_with fail
    go_quiet (first | (go_at_call 93; exact Calls.quiet_of_same (HS.out _)) | (go_at_call 78; exact Calls.quiet_of_same (HR.out _)))
    go_wp2_with fail
    go_ret
    exact ⟨by rw [HE.out]; rfl, by rw [← HW1.out]; exact below_drewN' HB0.out⟩
  | true =>
    rw [hv] at HS
    by_cases hE : es.length ≤ 2 * ix.length / 3
    · have HX : whV ix es = true := by unfold whV; rw [hv, decide_eq_true hE]; rfl
      have k1 : ¬ ((2 * ix.length / 3 : Nat) : Int) < (es.length : Int) := by omega
      have k2 : decide (((2 * ix.length / 3 : Nat) : Int) < (es.length : Int)) = false := decide_eq_false k1
      have k3 : (es.length : Int) ≤ ((2 * ix.length / 3 : Nat) : Int) := by omega
      have HM := Lib.hid (show ix.length ≤ 128 by have := slotN_mem hv; simp at this; omega)
      rw [HX, Bool.true_and]
      clear h hv hE HX
      generalize hmm : ix.length = m at *
      generalize hne : es.length = ne at *
      have HMM := Lib.hid hmm
      have HNE := Lib.hid hne
      clear hmm hne
      generalize ((2 * m / 3 : Nat) : Int) = rm at *
      have HW1 := Lib.hid hw1
      go_enter Try.func62, Try.ntmps62
      go_wp2_with fail
      clear k1 k3
      go_quiet (first | (go_at_call 93; exact Calls.quiet_of_same (HS.out _)) | (go_at_call 78; exact Calls.quiet_of_same (HR.out _)))
      rw [← HW1.out]
      obtain ⟨wq, hwq⟩ : ∃ wq, wq = w1.drewN nq := ⟨_, rfl⟩
      have HTq := Lib.hid (show Tb wq g ix a es from by rw [hwq]; exact HT1.out.below (below_drewN' (Below.refl _ _)))
      have HBx := Lib.hid (show Blk wq w.heap.size _ #[.slice (some ⟨g, 0, none⟩) m c1, .slice a ne c2] from by rw [hwq]; exact HBox.out.drewN nq)
      have HBq := Lib.hid (show Below w.heap.size w wq from by rw [hwq]; exact below_drewN' HB0.out)
      rw [← hwq]
      have hlt : w.heap.size < wq.heap.size := HBx.out.lt
      clear hwq hw1
      have b0 := HBx.out.cell 0
      have b1 := HBx.out.cell 1
      go_wp2_with (first | (refine mkBo rfl (.tmp 26) (.tmp 26) rfl ne _ _ rfl rfl rfl rfl (by omega) ?_; intro w3 ho hb3; have H0 := Lib.hid (SwI.start (ix := ix) ho hb3); have HY3 := Lib.hid (HBx.out.below hb3 hlt); clear ho hb3; have d0 := HY3.out.cell 0; have d1 := HY3.out.cell 1))
      go_loopw [4, 31] (fun d i wr => ∃ k : Nat, k ≤ m ∧ i = .int .i64 k ∧ d = .int .i64 ((ix.take k).count (-2) : Nat) ∧ Hid (PreS ix ne k) ∧ Hid (SwI wq wr ix ne k)) (fun _ i _ => m - (intOf i).toNat)
      case atStart => exact ⟨0, by omega, rfl, rfl, Lib.hid (PreS.zero _ _), H0⟩
      case round =>
        obtain ⟨k, hk, rfl, rfl, HP, HI⟩ := hrel
        have HBr := Lib.hid (HBx.out.below HI.out.1 hlt)
        have d0 := HBr.out.cell 0
        have d1 := HBr.out.cell 1
        have hc1 : (((ix.take k).count (-2) : Nat) : Int) ≤ 1048576 := by have := count_lt ix k; omega
        have hc0 : 0 ≤ (((ix.take k).count (-2) : Nat) : Int) := by omega
        by_cases hltk : k < m
        · have q1 : (k : Int) < (m : Int) := by omega
          have q0 : 0 ≤ (k : Int) := by omega
          obtain ⟨n, hn⟩ : ∃ n, ix[k]? = some n := ⟨_, List.getElem?_eq_getElem (by rw [HMM.out]; exact hltk)⟩
          have c0 : wr.cell? ⟨g, k, none⟩ = some (.int .i64 n) := (HTq.out.below HI.out.1).2.1 k n hn
          have HC := Lib.hid (count_next hn)
          by_cases e1 : n = -1
          · subst e1
            have HP2 := Lib.hid (HP.out.neg hn (.inl rfl))
            have HI2 := Lib.hid (HI.out.neg hn (by decide))
            clear hn
            go_wp2_with fail
            go_roundw
            case rel => exact ⟨k + 1, by omega, by go_num, by rw [HC.out]; rfl, HP2, HI2⟩
            case measure => simp [intOf]; try omega
          · by_cases e2 : n = -2
            · subst e2
              have HP2 := Lib.hid (HP.out.neg hn (.inr rfl))
              have HI2 := Lib.hid (HI.out.neg hn (by decide))
              clear hn
              go_wp2_with fail
              go_roundw
              case rel => exact ⟨k + 1, by omega, by go_num, by rw [HC.out]; simp, HP2, HI2⟩
              case measure => simp [intOf]; try omega
            · have t1 : (n == -1) = false := beq_eq_false_iff_ne.2 e1
              have t2 : (n == -2) = false := beq_eq_false_iff_ne.2 e2
              by_cases e3 : n < 0
              · have HE := Lib.hid (whB_slot (es := es) hn e1 e2 (.inl e3))
                clear hn e1 e2
                go_wp2_with fail
                go_ret
                exact ⟨by rw [HE.out]; rfl, HBq.out.trans (HI.out.1.mono HBq.out.size)⟩
              · by_cases e4 : (ne : Int) ≤ n
                · have HE := Lib.hid (whB_slot (es := es) hn e1 e2 (.inr (by rw [HNE.out]; exact e4)))
                  have e5 : 0 ≤ n := by omega
                  clear hn e1 e2 e3
                  go_wp2_with fail
                  go_ret
                  exact ⟨by rw [HE.out]; rfl, HBq.out.trans (HI.out.1.mono HBq.out.size)⟩
                · obtain ⟨p, rfl⟩ : ∃ p : Nat, n = (p : Int) := ⟨n.toNat, by omega⟩
                  have hp : p < ne := by omega
                  have p1 : (p : Int) < (ne : Int) := by omega
                  have p0 : 0 ≤ (p : Int) := by omega
                  obtain ⟨c5, f5⟩ := HI.out.2.cellAt (seenL_get (ix := ix) (k := k) hp)
                  cases hs : decide ((p : Int) ∈ ix.take k) with
                  | true =>
                    have HE := Lib.hid (whB_twice (es := es) hn hs)
                    rw [hs] at c5
                    clear hn hs e1 e2 e3 e4
                    go_wp2_with fail
                    go_ret
                    exact ⟨by rw [HE.out]; rfl, HBq.out.trans (HI.out.1.mono HBq.out.size)⟩
                  | false =>
                    have HP2 := Lib.hid (HP.out.pos hn hp hs)
                    have HI2 := Lib.hid (HI.out.pos hn hp)
                    rw [hs] at c5
                    clear hn hs e1 e2 e3 e4
                    go_wp2_with fail
                    go_roundw
                    case rel => exact ⟨k + 1, by omega, by go_num, by rw [HC.out, if_neg (by omega)]; rfl, HP2, HI2⟩
                    case measure => simp [intOf]; try omega
        · obtain rfl : k = m := by omega
          clear hltk
          go_wp2_with fail
          have HI0 := Lib.hid HI.out
          go_loopw [66] (fun i wr => ∃ j : Nat, j ≤ ne ∧ i = .int .i64 j ∧ Hid (LvS ix es j) ∧ Hid (SwI wq wr ix ne k)) (fun i _ => ne - (intOf i).toNat)
          case atStart => exact ⟨0, by omega, rfl, Lib.hid (fun _ _ h => absurd h (by omega)), HI0⟩
          case round =>
            obtain ⟨j, hj, rfl, HV, HJ⟩ := hrel
            have HBj := Lib.hid (HBx.out.below HJ.out.1 hlt)
            have d0 := HBj.out.cell 0
            have d1 := HBj.out.cell 1
            by_cases hltj : j < ne
            · obtain ⟨g2, e, rfl, he, hb, x0, x1, x2, x3⟩ := (HTq.out.below HJ.out.1).2.2.at (show j < es.length by rw [HNE.out]; exact hltj)
              have q1 : (j : Int) < (ne : Int) := by omega
              have q0 : 0 ≤ (j : Int) := by omega
              have hmt := meth_isLive
              have HL := Lib.hid (lies4 x0 x1 x2 x3)
              obtain ⟨c5, f5⟩ := HJ.out.2.cellAt (seenL_get (ix := ix) (k := k) hltj)
              clear x0 x1 x2 x3
              go_wp2_with (first | (refine ldE (o := ⟨some 70, _, _, _, _, _⟩) rfl (.tmp 69) rfl g2 (j * 4) (.string e.key) (.int .i64 e.hash) (.int .i64 e.val) (.bool e.live) rfl HL.out ?_))
              have HD := Lib.hid (show ∀ b l, b = decide ((j : Int) ∈ ix.take k) → l = e.live → (!l == b) = false → LvS ix es (j + 1) from fun b l h1 h2 h3 => HV.out.next he (by rw [← h2, (show l = b by simpa using h3), h1, ← HMM.out, List.take_length]))
              have HN9 := Lib.hid (show ∀ b l, b = decide ((j : Int) ∈ ix.take k) → l = e.live → (!l == b) = true → whB ix es = false from fun b l h1 h2 h3 => whB_live he (by rw [← h2]; rw [← HMM.out, List.take_length] at h1; rw [← h1]; simpa using h3))
              generalize hb9 : decide ((j : Int) ∈ ix.take k) = b at c5
              generalize hl9 : e.live = l
              have HB9 := Lib.hid hb9.symm
              have HL9 := Lib.hid hl9.symm
              have y5 : (wr.alloc (Obj.cells #[.string e.key, .int .i64 e.hash, .int .i64 e.val, .bool l] 64)).cell? ⟨wq.heap.size, j, none⟩ = some (.bool b) := (((Below.refl wr.heap.size wr).alloc (Nat.le_refl _) _).cell HJ.out.2.lt.2).trans c5
              have HC5 := Lib.hid (show ∀ w', Below wr.heap.size wr w' → w'.cell? ⟨wq.heap.size, j, none⟩ = some (.bool b) from fun w' hb => (hb.cell HJ.out.2.lt.2).trans c5)
              have HIL := Lib.hid isLive_any
              clear HL hb9 hl9 he
              go_region_with (first | (refine (HIL.out _ _ _ _ _).mono ?_; rintro r w2 ⟨rfl, hb2⟩; have HB2 := Lib.hid (show Below wr.heap.size wr w2 from ((((Below.refl _ wr).alloc (Nat.le_refl _) _).drew).trans (hb2.mono (by show wr.heap.size ≤ (wr.alloc _).heap.size; simp)))); have z5 := HC5.out _ HB2.out; clear hb2))
              all_goals
                have HT := Lib.hid (show SwI wq w2 ix ne k from ⟨HJ.out.1.trans (HB2.out.mono HJ.out.1.size), HJ.out.2.keep HB2.out HJ.out.2.lt.2⟩)
                cases hlb : (!l == b)
                · have HV2 := Lib.hid (HD.out b l HB9.out HL9.out hlb)
                  go_wp2_with fail
                  go_roundw
                  case rel => exact ⟨j + 1, by omega, by go_num, HV2, HT⟩
                  case measure => simp [intOf]; try omega
                · have HE := Lib.hid (HN9.out b l HB9.out HL9.out hlb)
                  go_wp2_with fail
                  go_ret
                  exact ⟨by rw [HE.out]; rfl, HBq.out.trans (HT.out.1.mono HBq.out.size)⟩
            · obtain rfl : j = ne := by omega
              clear hltj
              have HE := Lib.hid (whB_end (ix := ix) (es := es) (by rw [HNE.out, HMM.out]; exact HP.out) (by rw [HNE.out]; exact HV.out))
              have hLN : (liveN es : Int) ≤ (j : Int) := by have := liveN_le es es.length; rw [List.take_length, HNE.out] at this; omega
              have hLN0 : 0 ≤ (liveN es : Int) := by omega
              rw [HMM.out, HNE.out] at HE
              have HCL := Lib.hid (fun w' (hb : Below wr.heap.size wr w') => countLive_any (.slice (some ⟨g, 0, none⟩) k c1) es a c2 w' ((HTq.out.below (HJ.out.1.trans (hb.mono HJ.out.1.size))).2.2) (by rw [HNE.out]; exact hl) rfl)
              rw [HNE.out] at HCL
              generalize liveN es = L at *
              have HWR := Lib.hid (show IntKind.i64.wrap ((j : Int) - (L : Int)) = (j : Int) - (L : Int) by rw [IntKind.wrap_i64]; omega)
              go_wp2_with fail
              go_region_with (first | (refine (HCL.out _ (by first | exact Below.refl _ _ | exact (Below.refl _ _).drew | exact below_drewN' (Below.refl _ _))).mono ?_; rintro r w2 ⟨rfl, hb2⟩; have HB2 := Lib.hid (show Below wr.heap.size wr w2 from (by first | exact hb2 | exact ((Below.refl _ wr).drew).trans hb2 | exact (below_drewN' (Below.refl _ wr)).trans hb2)); have HBk := Lib.hid (HBj.out.below HB2.out (Nat.lt_of_lt_of_le hlt HJ.out.1.size)); have e0 := HBk.out.cell 0; have e1 := HBk.out.cell 1; clear hb2))
              all_goals (try go_wp2)
              all_goals go_ret
              all_goals
                refine ⟨?_, HBq.out.trans ((HJ.out.1.trans (HB2.out.mono HJ.out.1.size)).mono HBq.out.size)⟩
                rw [HE.out]
                refine congrArg (fun b => Ending.returned (.bool b)) ?_
                first | rfl | (rw [Bool.eq_iff_iff]; simp; done) | (rw [Bool.eq_iff_iff]; simp [HWR.out])
    · have HE := Lib.hid (show (whV ix es && whB ix es) = false by unfold whV; rw [decide_eq_false hE, Bool.and_false]; rfl)
      have k1 : ((2 * ix.length / 3 : Nat) : Int) < (es.length : Int) := by omega
      clear h hv hE
      generalize ix.length = m at *
      generalize es.length = ne at *
      generalize ((2 * m / 3 : Nat) : Int) = rm at *
      have HW1 := Lib.hid hw1
      go_enter Try.func62, Try.ntmps62
      go_wp2_with fail
      go_quiet (first | (go_at_call 93; exact Calls.quiet_of_same (HS.out _)) | (go_at_call 78; exact Calls.quiet_of_same (HR.out _)))
      go_wp2_with fail
      go_ret
      exact ⟨by rw [HE.out]; rfl, by rw [← HW1.out]; exact below_drewN' HB0.out⟩
end Go.Proofs.Ytplpgcbdbmfffaa
