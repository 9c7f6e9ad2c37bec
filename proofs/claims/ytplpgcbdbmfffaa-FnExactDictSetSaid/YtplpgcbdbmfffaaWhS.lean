/- Whether slots and entries fit: the model's validSlots. -/
import Derived.Test.YtplpgcbdbmfffaaOwB
namespace Go.Proofs.Ytplpgcbdbmfffaa
open Go.RowKit
def SwJ (w1 wr : World) (B : Nat) (ix : List Int) (E k : Nat) : Prop := w1.heap.size = B ∧ Below B w1 wr ∧ OwB wr B (.slice (some ⟨B, 0, none⟩) E E) (seenL ix E k)
theorem SwJ.start {w1 w3 : World} {B : Nat} {ix : List Int} {E : Nat} (hB : w1.heap.size = B) (ho : OwB w3 w1.heap.size (.slice (some ⟨w1.heap.size, 0, none⟩) E E) (List.replicate E false)) (hb : Below w1.heap.size w1 w3) : SwJ w1 w3 B ix E 0 := by
  subst hB
  exact ⟨rfl, hb, by rw [seenL_zero]; exact ho⟩
theorem SwJ.neg {w1 wr : World} {B : Nat} {ix : List Int} {E k : Nat} {n : Int} (h : SwJ w1 wr B ix E k) (hn : ix[k]? = some n) (h0 : n < 0) : SwJ w1 wr B ix E (k + 1) := ⟨h.1, h.2.1, by rw [seenL_neg hn h0]; exact h.2.2⟩
theorem SwJ.pos {w1 wr : World} {B : Nat} {ix : List Int} {E k p : Nat} (h : SwJ w1 wr B ix E k) (hn : ix[k]? = some (p : Int)) (hp : p < E) : SwJ w1 (wr.setCell ⟨B, p, none⟩ (.bool true)) B ix E (k + 1) := by
  refine ⟨h.1, h.2.1.setCell (Nat.le_refl _) _, ?_⟩
  have h1 := h.2.2.stored p true
  rw [seenL_pos hn hp] at h1
  exact h1
theorem OwB.drewN {w : World} {b : Nat} {v : Value} {l : List Bool} (h : OwB w b v l) (n : Nat) : OwB (w.drewN n) b v l := h
theorem SwJ.b {w1 wr : World} {B : Nat} {ix : List Int} {E k : Nat} (h : SwJ w1 wr B ix E k) : Below w1.heap.size w1 wr := by rw [h.1]; exact h.2.1
theorem lv_ne {ix : List Int} {es : List Ent} {j : Nat} {e : Ent} {b l : Bool} (he : es[j]? = some e) (h1 : b = decide ((j : Int) ∈ ix)) (h2 : l = e.live) (h3 : (!b == l) = true) : whB ix es = false :=
  whB_live he (by rw [← h1, ← h2]; cases b <;> cases l <;> simp at h3 ⊢)
set_option maxHeartbeats 4000000 in
set_option maxRecDepth 20000 in
theorem validSlots_any (ix : List Int) (es : List Ent) (g c1 c2 : Nat) (a : Option Addr) (w : World) (h : Tb w g ix a es) (hl : es.length ≤ 1048576) (hm : ix.length ≤ 1048576) :
    Calls Try.prog 91 #[.agg #[.slice (some ⟨g, 0, none⟩) ix.length c1, .slice a es.length c2]] w fun e w' => e = .returned (.bool (whB ix es)) ∧ Below w.heap.size w w' := by
  obtain ⟨wq, hwq⟩ : ∃ w1, w1 = w.alloc (Obj.cells #[.slice (some ⟨g, 0, none⟩) ix.length c1, .slice a es.length c2] 27) := ⟨_, rfl⟩
  have HTq := Lib.hid (show Tb wq g ix a es from by rw [hwq]; exact h.below ((Below.refl _ _).alloc (Nat.le_refl _) _))
  have HBx := Lib.hid (show Blk wq w.heap.size _ #[.slice (some ⟨g, 0, none⟩) ix.length c1, .slice a es.length c2] from by rw [hwq]; exact Blk.newest w _ _)
  have HBq := Lib.hid (show Below w.heap.size w wq from by rw [hwq]; exact (Below.refl _ _).alloc (Nat.le_refl _) _)
  have hsz : wq.heap.size = w.heap.size + 1 := by rw [hwq]; simp
  have hlt : w.heap.size < wq.heap.size := by omega
  clear h
  generalize hmm : ix.length = m at *
  generalize hne : es.length = ne at *
  have HMM := Lib.hid hmm
  have HNE := Lib.hid hne
  clear hmm hne
  have HW1 := Lib.hid hwq
  clear hwq
  have HSZ := Lib.hid hsz
  go_enter Try.func91, Try.ntmps91
  go_wp2_with (first | (refine mkBo rfl (.tmp 10) (.tmp 10) rfl ne _ _ rfl rfl rfl rfl (by omega) ?_; rw [← HW1.out]; intro w3 ho hb3; have H0 := Lib.hid (SwJ.start (ix := ix) HSZ.out ho hb3); have HY3 := Lib.hid (HBx.out.below hb3 hlt); clear ho hb3; have d0 := HY3.out.cell 0; have d1 := HY3.out.cell 1))
  go_loopw [4, 5] (fun d i wr => ∃ k : Nat, k ≤ m ∧ i = .int .i64 k ∧ d = .int .i64 ((ix.take k).count (-2) : Nat) ∧ Hid (PreS ix ne k) ∧ Hid (SwJ wq wr (w.heap.size + 1) ix ne k)) (fun _ i _ => m - (intOf i).toNat)
  case atStart => exact ⟨0, by omega, rfl, rfl, Lib.hid (PreS.zero _ _), H0⟩
  case round =>
    obtain ⟨k, hk, rfl, rfl, HP, HI⟩ := hrel
    have HBr := Lib.hid (HBx.out.below HI.out.b hlt)
    have d0 := HBr.out.cell 0
    have d1 := HBr.out.cell 1
    have hc1 : (((ix.take k).count (-2) : Nat) : Int) ≤ 1048576 := by have := count_lt ix k; omega
    have hc0 : 0 ≤ (((ix.take k).count (-2) : Nat) : Int) := by omega
    by_cases hltk : k < m
    · have q1 : (k : Int) < (m : Int) := by omega
      have q0 : 0 ≤ (k : Int) := by omega
      obtain ⟨n, hn⟩ : ∃ n, ix[k]? = some n := ⟨_, List.getElem?_eq_getElem (by rw [HMM.out]; exact hltk)⟩
      have c0 : wr.cell? ⟨g, k, none⟩ = some (.int .i64 n) := (HTq.out.below HI.out.b).2.1 k n hn
      have HC := Lib.hid (count_next hn)
      have s0 : decide ((ne : Int) ≤ (-1 : Int)) = false := decide_eq_false (by omega)
      have s1 : decide ((ne : Int) ≤ (-2 : Int)) = false := decide_eq_false (by omega)
      by_cases e1 : n = -1
      · subst e1
        have HP2 := Lib.hid (HP.out.neg hn (.inl rfl))
        have HI2 := Lib.hid (HI.out.neg hn (by decide))
        clear hn
        go_wp2_with fail
        go_roundw
        case rel => exact ⟨k + 1, by omega, by go_num, by rw [HC.out]; rfl, HP2, HI2⟩
        case measure => simp [intOf]; try omega
      · by_cases e2 : n = -2
        · subst e2
          have HP2 := Lib.hid (HP.out.neg hn (.inr rfl))
          have HI2 := Lib.hid (HI.out.neg hn (by decide))
          clear hn
          go_wp2_with fail
          go_roundw
          case rel => exact ⟨k + 1, by omega, by go_num, by rw [HC.out]; simp, HP2, HI2⟩
          case measure => simp [intOf]; try omega
        · have t1 : (n == -1) = false := beq_eq_false_iff_ne.2 e1
          have t2 : (n == -2) = false := beq_eq_false_iff_ne.2 e2
          by_cases e3 : n < 0
          · have HE := Lib.hid (whB_slot (es := es) hn e1 e2 (.inl e3))
            have e4 : n < -2 := by omega
            clear hn e1 e2
            go_wp2_with fail
            go_ret
            exact ⟨by rw [HE.out]; rfl, HBq.out.trans (HI.out.b.mono HBq.out.size)⟩
          · by_cases e4 : (ne : Int) ≤ n
            · have HE := Lib.hid (whB_slot (es := es) hn e1 e2 (.inr (by rw [HNE.out]; exact e4)))
              have e5 : 0 ≤ n := by omega
              have e6 : -2 ≤ n := by omega
              have e7 : decide (n < -2) = false := decide_eq_false (by omega)
              clear hn e1 e2 e3
              go_wp2_with fail
              go_ret
              exact ⟨by rw [HE.out]; rfl, HBq.out.trans (HI.out.b.mono HBq.out.size)⟩
            · obtain ⟨p, rfl⟩ : ∃ p : Nat, n = (p : Int) := ⟨n.toNat, by omega⟩
              have hp : p < ne := by omega
              have p1 : (p : Int) < (ne : Int) := by omega
              have p0 : 0 ≤ (p : Int) := by omega
              have p2 : -2 ≤ (p : Int) := by omega
              have u1 : decide ((p : Int) < -2) = false := decide_eq_false (by omega)
              have u2 : decide (ne ≤ p) = false := decide_eq_false (by omega)
              have u3 : decide ((ne : Int) ≤ (p : Int)) = false := decide_eq_false (by omega)
              obtain ⟨c5, f5⟩ := HI.out.2.2.cellAt (seenL_get (ix := ix) (k := k) hp)
              cases hs : decide ((p : Int) ∈ ix.take k) with
              | true =>
                have HE := Lib.hid (whB_twice (es := es) hn hs)
                rw [hs] at c5
                clear hn hs e1 e2 e3 e4
                go_wp2_with fail
                go_ret
                exact ⟨by rw [HE.out]; rfl, HBq.out.trans (HI.out.b.mono HBq.out.size)⟩
              | false =>
                obtain ⟨g2, e, rfl, he, hb, x0, x1, x2, x3⟩ := (HTq.out.below HI.out.b).2.2.at (show p < es.length by rw [HNE.out]; exact hp)
                cases hlv : e.live with
                | false =>
                  have HE := Lib.hid (whB_dead hn he hlv)
                  rw [hs] at c5
                  rw [hlv] at x3
                  clear hn hs e1 e2 e3 e4 he x0 x1 x2
                  go_wp2_with fail
                  go_ret
                  exact ⟨by rw [HE.out]; rfl, HBq.out.trans (HI.out.b.mono HBq.out.size)⟩
                | true =>
                  have HP2 := Lib.hid (HP.out.pos hn hp hs)
                  have HI2 := Lib.hid (HI.out.pos hn hp)
                  rw [hs] at c5
                  rw [hlv] at x3
                  clear hn hs e1 e2 e3 e4 he x0 x1 x2
                  go_wp2_with fail
                  go_roundw
                  case rel => exact ⟨k + 1, by omega, by go_num, by rw [HC.out, if_neg (by omega)]; rfl, HP2, HI2⟩
                  case measure => simp [intOf]; try omega
    · obtain rfl : k = m := by omega
      clear hltk
      go_wp2_with fail
      have HI0 := Lib.hid HI.out
      go_loopw [7] (fun i wr => ∃ j : Nat, j ≤ ne ∧ i = .int .i64 j ∧ Hid (LvS ix es j) ∧ Hid (SwJ wq wr (w.heap.size + 1) ix ne k)) (fun i _ => ne - (intOf i).toNat)
      case atStart => exact ⟨0, by omega, rfl, Lib.hid (fun _ _ h => absurd h (by omega)), HI0⟩
      case round =>
        obtain ⟨j, hj, rfl, HV, HJ⟩ := hrel
        have HBj := Lib.hid (HBx.out.below HJ.out.b hlt)
        have d0 := HBj.out.cell 0
        have d1 := HBj.out.cell 1
        by_cases hltj : j < ne
        · obtain ⟨g2, e, rfl, he, hb, x0, x1, x2, x3⟩ := (HTq.out.below HJ.out.b).2.2.at (show j < es.length by rw [HNE.out]; exact hltj)
          have q1 : (j : Int) < (ne : Int) := by omega
          have q0 : 0 ≤ (j : Int) := by omega
          obtain ⟨c5, f5⟩ := HJ.out.2.2.cellAt (seenL_get (ix := ix) (k := k) hltj)
          have HD := Lib.hid (show ∀ b l, b = decide ((j : Int) ∈ ix.take k) → l = e.live → (!b == l) = false → LvS ix es (j + 1) from fun b l h1 h2 h3 => HV.out.next he (by rw [← h2, (show l = b from (by simpa using h3 : b = l).symm), h1, ← HMM.out, List.take_length]))
          have HN9 := Lib.hid (show ∀ b l, b = decide ((j : Int) ∈ ix.take k) → l = e.live → (!b == l) = true → whB ix es = false from fun b l h1 h2 h3 => lv_ne he (by rw [h1, ← HMM.out, List.take_length]) h2 h3)
          generalize hb9 : decide ((j : Int) ∈ ix.take k) = b at c5
          generalize hl9 : e.live = l at x3
          have HB9 := Lib.hid hb9.symm
          have HL9 := Lib.hid hl9.symm
          clear x0 x1 x2 hb9 hl9 he
          go_wp2_with fail
          go_quiet (fail)
          cases hlb : (!b == l)
          · have HV2 := Lib.hid (HD.out b l HB9.out HL9.out hlb)
            go_wp2_with fail
            go_roundw
            case rel => exact ⟨j + 1, by omega, by go_num, HV2, Lib.hid ⟨HJ.out.1, below_drewN' HJ.out.2.1, HJ.out.2.2.drewN _⟩⟩
            case measure => simp [intOf]; try omega
          · have HE := Lib.hid (HN9.out b l HB9.out HL9.out hlb)
            go_wp2_with fail
            go_ret
            exact ⟨by rw [HE.out]; rfl, below_drewN' (HBq.out.trans (HJ.out.b.mono HBq.out.size))⟩
        · obtain rfl : j = ne := by omega
          clear hltj
          have HE := Lib.hid (whB_end (ix := ix) (es := es) (by rw [HNE.out, HMM.out]; exact HP.out) (by rw [HNE.out]; exact HV.out))
          have hLN : (liveN es : Int) ≤ (j : Int) := by have := liveN_le es es.length; rw [List.take_length, HNE.out] at this; omega
          have hLN0 : 0 ≤ (liveN es : Int) := by omega
          rw [HMM.out, HNE.out] at HE
          have HCL := Lib.hid (fun w' (hb : Below wr.heap.size wr w') => liveEntries_any (.slice (some ⟨g, 0, none⟩) k c1) es a c2 w' ((HTq.out.below (HJ.out.b.trans (hb.mono HJ.out.b.size))).2.2) (by rw [HNE.out]; exact hl) rfl)
          rw [HNE.out] at HCL
          generalize liveN es = L at *
          have HWR := Lib.hid (show IntKind.i64.wrap ((j : Int) - (L : Int)) = (j : Int) - (L : Int) by rw [IntKind.wrap_i64]; omega)
          go_wp2_with fail
          go_region_with (first | (refine (HCL.out _ (by first | exact Below.refl _ _ | exact (Below.refl _ _).drew | exact below_drewN' (Below.refl _ _))).mono ?_; rintro r w2 ⟨rfl, hb2⟩; have HB2 := Lib.hid (show Below wr.heap.size wr w2 from (by first | exact hb2 | exact ((Below.refl _ wr).drew).trans hb2 | exact (below_drewN' (Below.refl _ wr)).trans hb2)); have HBk := Lib.hid (HBj.out.below HB2.out (Nat.lt_of_lt_of_le hlt HJ.out.b.size)); have e0 := HBk.out.cell 0; have e1 := HBk.out.cell 1; clear hb2))
          all_goals (try go_wp2)
          all_goals go_ret
          all_goals
            refine ⟨?_, HBq.out.trans ((HJ.out.b.trans (HB2.out.mono HJ.out.b.size)).mono HBq.out.size)⟩
            rw [HE.out]
            refine congrArg (fun b => Ending.returned (.bool b)) ?_
            first | rfl | (rw [Bool.eq_iff_iff]; simp; done) | (rw [Bool.eq_iff_iff]; simp [HWR.out])
end Go.Proofs.Ytplpgcbdbmfffaa
