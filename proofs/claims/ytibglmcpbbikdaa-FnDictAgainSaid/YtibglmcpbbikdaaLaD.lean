/- The model's DictOk. -/
import Derived.Test.YtibglmcpbbikdaaLaC
import Derived.Deep.DeepCutAuto
namespace Go.Proofs.Ytibglmcpbbikdaa
open Go.RowKit
def SwJ (w1 wr : World) (B : Nat) (ix : List Int) (E k : Nat) : Prop := w1.heap.size = B ∧ Below B w1 wr ∧ OwB wr B (.slice (some ⟨B, 0, none⟩) E E) (seenL ix E k)
theorem SwJ.start {w1 w3 : World} {B : Nat} {ix : List Int} {E : Nat} (hB : w1.heap.size = B) (ho : OwB w3 w1.heap.size (.slice (some ⟨w1.heap.size, 0, none⟩) E E) (List.replicate E false)) (hb : Below w1.heap.size w1 w3) : SwJ w1 w3 B ix E 0 := by
  subst hB
  exact ⟨rfl, hb, by rw [seenL_zero]; exact ho⟩
theorem SwJ.neg {w1 wr : World} {B : Nat} {ix : List Int} {E k : Nat} {n : Int} (h : SwJ w1 wr B ix E k) (hn : ix[k]? = some n) (h0 : n < 0) : SwJ w1 wr B ix E (k + 1) := ⟨h.1, h.2.1, by rw [seenL_neg hn h0]; exact h.2.2⟩
theorem SwJ.pos {w1 wr : World} {B : Nat} {ix : List Int} {E k p : Nat} (h : SwJ w1 wr B ix E k) (hn : ix[k]? = some (p : Int)) (hp : p < E) : SwJ w1 (wr.setCell ⟨B, p, none⟩ (.bool true)) B ix E (k + 1) := by
  refine ⟨h.1, h.2.1.setCell (Nat.le_refl _) _, ?_⟩
  have h1 := h.2.2.stored p true
  rw [seenL_pos hn hp] at h1
  exact h1
theorem OwB.drewN {w : World} {b : Nat} {v : Value} {l : List Bool} (h : OwB w b v l) (n : Nat) : OwB (w.drewN n) b v l := h
theorem SwJ.b {w1 wr : World} {B : Nat} {ix : List Int} {E k : Nat} (h : SwJ w1 wr B ix E k) : Below w1.heap.size w1 wr := by rw [h.1]; exact h.2.1
theorem lv_ne {ix : List Int} {es : List Ent} {j : Nat} {e : Ent} {b l : Bool} (he : es[j]? = some e) (h1 : b = decide ((j : Int) ∈ ix)) (h2 : l = e.live) (h3 : (!b == l) = true) : whB ix es = false :=
  whB_live he (by rw [← h1, ← h2]; cases b <;> cases l <;> simp at h3 ⊢)
set_option maxHeartbeats 4000000 in
set_option maxRecDepth 20000 in
theorem validSlots_any (ix : List Int) (es : List Ent) (g c1 c2 : Nat) (a : Option Addr) (w : World) (h : Tb w g ix a es) (hl : es.length ≤ 1048576) (hm : ix.length ≤ 1048576) :
    Calls Try.prog 89 #[.agg #[.slice (some ⟨g, 0, none⟩) ix.length c1, .slice a es.length c2]] w fun e w' => e = .returned (.bool (whB ix es)) ∧ Below w.heap.size w w' := by
  obtain ⟨wq, hwq⟩ : ∃ w1, w1 = w.alloc (Obj.cells #[.slice (some ⟨g, 0, none⟩) ix.length c1, .slice a es.length c2] 26) := ⟨_, rfl⟩
  have HTq := Lib.hid (show Tb wq g ix a es from by rw [hwq]; exact h.below ((Below.refl _ _).alloc (Nat.le_refl _) _))
  have HBx := Lib.hid (show Blk wq w.heap.size _ #[.slice (some ⟨g, 0, none⟩) ix.length c1, .slice a es.length c2] from by rw [hwq]; exact Blk.newest w _ _)
  have HBq := Lib.hid (show Below w.heap.size w wq from by rw [hwq]; exact (Below.refl _ _).alloc (Nat.le_refl _) _)
  have hsz : wq.heap.size = w.heap.size + 1 := by rw [hwq]; simp
  have hlt : w.heap.size < wq.heap.size := by omega
  clear h
  generalize hmm : ix.length = m at *
  generalize hne : es.length = ne at *
  have HMM := Lib.hid hmm
  have HNE := Lib.hid hne
  clear hmm hne
  have HW1 := Lib.hid hwq
  clear hwq
  have HSZ := Lib.hid hsz
  go_enter Try.func89, Try.ntmps89
  go_wp2_with (first | (refine mkBo rfl (.tmp 10) (.tmp 10) rfl ne _ _ rfl rfl rfl rfl (by omega) ?_; rw [← HW1.out]; intro w3 ho hb3; have H0 := Lib.hid (SwJ.start (ix := ix) HSZ.out ho hb3); have HY3 := Lib.hid (HBx.out.below hb3 hlt); clear ho hb3; have d0 := HY3.out.cell 0; have d1 := HY3.out.cell 1))
  go_loopw [4, 5] (fun d i wr => ∃ k : Nat, k ≤ m ∧ i = .int .i64 k ∧ d = .int .i64 ((ix.take k).count (-2) : Nat) ∧ Hid (PreS ix ne k) ∧ Hid (SwJ wq wr (w.heap.size + 1) ix ne k)) (fun _ i _ => m - (intOf i).toNat)
  case atStart => exact ⟨0, by omega, rfl, rfl, Lib.hid (PreS.zero _ _), H0⟩
  case round =>
    obtain ⟨k, hk, rfl, rfl, HP, HI⟩ := hrel
    have HBr := Lib.hid (HBx.out.below HI.out.b hlt)
    have d0 := HBr.out.cell 0
    have d1 := HBr.out.cell 1
    have hc1 : (((ix.take k).count (-2) : Nat) : Int) ≤ 1048576 := by have := count_lt ix k; omega
    have hc0 : 0 ≤ (((ix.take k).count (-2) : Nat) : Int) := by omega
    by_cases hltk : k < m
    · have q1 : (k : Int) < (m : Int) := by omega
      have q0 : 0 ≤ (k : Int) := by omega
      obtain ⟨n, hn⟩ : ∃ n, ix[k]? = some n := ⟨_, List.getElem?_eq_getElem (by rw [HMM.out]; exact hltk)⟩
      have c0 : wr.cell? ⟨g, k, none⟩ = some (.int .i64 n) := (HTq.out.below HI.out.b).2.1 k n hn
      have HC := Lib.hid (count_next hn)
      have s0 : decide ((ne : Int) ≤ (-1 : Int)) = false := decide_eq_false (by omega)
      have s1 : decide ((ne : Int) ≤ (-2 : Int)) = false := decide_eq_false (by omega)
      by_cases e1 : n = -1
      · subst e1
        have HP2 := Lib.hid (HP.out.neg hn (.inl rfl))
        have HI2 := Lib.hid (HI.out.neg hn (by decide))
        clear hn
        go_wp2_with fail
        go_roundw
        case rel => exact ⟨k + 1, by omega, by go_num, by rw [HC.out]; rfl, HP2, HI2⟩
        case measure => simp [intOf]; try omega
      · by_cases e2 : n = -2
        · subst e2
          have HP2 := Lib.hid (HP.out.neg hn (.inr rfl))
          have HI2 := Lib.hid (HI.out.neg hn (by decide))
          clear hn
          go_wp2_with fail
          go_roundw
          case rel => exact ⟨k + 1, by omega, by go_num, by rw [HC.out]; simp, HP2, HI2⟩
          case measure => simp [intOf]; try omega
        · have t1 : (n == -1) = false := beq_eq_false_iff_ne.2 e1
          have t2 : (n == -2) = false := beq_eq_false_iff_ne.2 e2
          by_cases e3 : n < 0
          · have HE := Lib.hid (whB_slot (es := es) hn e1 e2 (.inl e3))
            have e4 : n < -2 := by omega
            clear hn e1 e2
            go_wp2_with fail
            go_ret
            exact ⟨by rw [HE.out]; rfl, HBq.out.trans (HI.out.b.mono HBq.out.size)⟩
          · by_cases e4 : (ne : Int) ≤ n
            · have HE := Lib.hid (whB_slot (es := es) hn e1 e2 (.inr (by rw [HNE.out]; exact e4)))
              have e5 : 0 ≤ n := by omega
              have e6 : -2 ≤ n := by omega
              have e7 : decide (n < -2) = false := decide_eq_false (by omega)
              clear hn e1 e2 e3
              go_wp2_with fail
              go_ret
              exact ⟨by rw [HE.out]; rfl, HBq.out.trans (HI.out.b.mono HBq.out.size)⟩
            · obtain ⟨p, rfl⟩ : ∃ p : Nat, n = (p : Int) := ⟨n.toNat, by omega⟩
              have hp : p < ne := by omega
              have p1 : (p : Int) < (ne : Int) := by omega
              have p0 : 0 ≤ (p : Int) := by omega
              have p2 : -2 ≤ (p : Int) := by omega
              have u1 : decide ((p : Int) < -2) = false := decide_eq_false (by omega)
              have u2 : decide (ne ≤ p) = false := decide_eq_false (by omega)
              have u3 : decide ((ne : Int) ≤ (p : Int)) = false := decide_eq_false (by omega)
              obtain ⟨c5, f5⟩ := HI.out.2.2.cellAt (seenL_get (ix := ix) (k := k) hp)
              cases hs : decide ((p : Int) ∈ ix.take k) with
              | true =>
                have HE := Lib.hid (whB_twice (es := es) hn hs)
                rw [hs] at c5
                clear hn hs e1 e2 e3 e4
                go_wp2_with fail
                go_ret
                exact ⟨by rw [HE.out]; rfl, HBq.out.trans (HI.out.b.mono HBq.out.size)⟩
              | false =>
                obtain ⟨g2, e, rfl, he, hb, x0, x1, x2, x3⟩ := (HTq.out.below HI.out.b).2.2.at (show p < es.length by rw [HNE.out]; exact hp)
                cases hlv : e.live with
                | false =>
                  have HE := Lib.hid (whB_dead hn he hlv)
                  rw [hs] at c5
                  rw [hlv] at x3
                  clear hn hs e1 e2 e3 e4 he x0 x1 x2
                  go_wp2_with fail
                  go_ret
                  exact ⟨by rw [HE.out]; rfl, HBq.out.trans (HI.out.b.mono HBq.out.size)⟩
                | true =>
                  have HP2 := Lib.hid (HP.out.pos hn hp hs)
                  have HI2 := Lib.hid (HI.out.pos hn hp)
                  rw [hs] at c5
                  rw [hlv] at x3
                  clear hn hs e1 e2 e3 e4 he x0 x1 x2
                  go_wp2_with fail
                  go_roundw
                  case rel => exact ⟨k + 1, by omega, by go_num, by rw [HC.out, if_neg (by omega)]; rfl, HP2, HI2⟩
                  case measure => simp [intOf]; try omega
    · obtain rfl : k = m := by omega
      clear hltk
      go_wp2_with fail
      have HI0 := Lib.hid HI.out
      go_loopw [7] (fun i wr => ∃ j : Nat, j ≤ ne ∧ i = .int .i64 j ∧ Hid (LvS ix es j) ∧ Hid (SwJ wq wr (w.heap.size + 1) ix ne k)) (fun i _ => ne - (intOf i).toNat)
      case atStart => exact ⟨0, by omega, rfl, Lib.hid (fun _ _ h => absurd h (by omega)), HI0⟩
      case round =>
        obtain ⟨j, hj, rfl, HV, HJ⟩ := hrel
        have HBj := Lib.hid (HBx.out.below HJ.out.b hlt)
        have d0 := HBj.out.cell 0
        have d1 := HBj.out.cell 1
        by_cases hltj : j < ne
        · obtain ⟨g2, e, rfl, he, hb, x0, x1, x2, x3⟩ := (HTq.out.below HJ.out.b).2.2.at (show j < es.length by rw [HNE.out]; exact hltj)
          have q1 : (j : Int) < (ne : Int) := by omega
          have q0 : 0 ≤ (j : Int) := by omega
          obtain ⟨c5, f5⟩ := HJ.out.2.2.cellAt (seenL_get (ix := ix) (k := k) hltj)
          have HD := Lib.hid (show ∀ b l, b = decide ((j : Int) ∈ ix.take k) → l = e.live → (!b == l) = false → LvS ix es (j + 1) from fun b l h1 h2 h3 => HV.out.next he (by rw [← h2, (show l = b from (by simpa using h3 : b = l).symm), h1, ← HMM.out, List.take_length]))
          have HN9 := Lib.hid (show ∀ b l, b = decide ((j : Int) ∈ ix.take k) → l = e.live → (!b == l) = true → whB ix es = false from fun b l h1 h2 h3 => lv_ne he (by rw [h1, ← HMM.out, List.take_length]) h2 h3)
          generalize hb9 : decide ((j : Int) ∈ ix.take k) = b at c5
          generalize hl9 : e.live = l at x3
          have HB9 := Lib.hid hb9.symm
          have HL9 := Lib.hid hl9.symm
          clear x0 x1 x2 hb9 hl9 he
          go_wp2_with fail
          go_quiet (fail)
          cases hlb : (!b == l)
          · have HV2 := Lib.hid (HD.out b l HB9.out HL9.out hlb)
            go_wp2_with fail
            go_roundw
            case rel => exact ⟨j + 1, by omega, by go_num, HV2, Lib.hid ⟨HJ.out.1, below_drewN' HJ.out.2.1, HJ.out.2.2.drewN _⟩⟩
            case measure => simp [intOf]; try omega
          · have HE := Lib.hid (HN9.out b l HB9.out HL9.out hlb)
            go_wp2_with fail
            go_ret
            exact ⟨by rw [HE.out]; rfl, below_drewN' (HBq.out.trans (HJ.out.b.mono HBq.out.size))⟩
        · obtain rfl : j = ne := by omega
          clear hltj
          have HE := Lib.hid (whB_end (ix := ix) (es := es) (by rw [HNE.out, HMM.out]; exact HP.out) (by rw [HNE.out]; exact HV.out))
          have hLN : (liveN es : Int) ≤ (j : Int) := by have := liveN_le es es.length; rw [List.take_length, HNE.out] at this; omega
          have hLN0 : 0 ≤ (liveN es : Int) := by omega
          rw [HMM.out, HNE.out] at HE
          have HCL := Lib.hid (fun w' (hb : Below wr.heap.size wr w') => liveEntries_any (.slice (some ⟨g, 0, none⟩) k c1) es a c2 w' ((HTq.out.below (HJ.out.b.trans (hb.mono HJ.out.b.size))).2.2) (by rw [HNE.out]; exact hl) rfl)
          rw [HNE.out] at HCL
          generalize liveN es = L at *
          have HWR := Lib.hid (show IntKind.i64.wrap ((j : Int) - (L : Int)) = (j : Int) - (L : Int) by rw [IntKind.wrap_i64]; omega)
          go_wp2_with fail
          go_region_with (first | (refine (HCL.out _ (by first | exact Below.refl _ _ | exact (Below.refl _ _).drew | exact below_drewN' (Below.refl _ _))).mono ?_; rintro r w2 ⟨rfl, hb2⟩; have HB2 := Lib.hid (show Below wr.heap.size wr w2 from (by first | exact hb2 | exact ((Below.refl _ wr).drew).trans hb2 | exact (below_drewN' (Below.refl _ wr)).trans hb2)); have HBk := Lib.hid (HBj.out.below HB2.out (Nat.lt_of_lt_of_le hlt HJ.out.b.size)); have e0 := HBk.out.cell 0; have e1 := HBk.out.cell 1; clear hb2))
          all_goals (try go_wp2)
          all_goals go_ret
          all_goals
            refine ⟨?_, HBq.out.trans ((HJ.out.b.trans (HB2.out.mono HJ.out.b.size)).mono HBq.out.size)⟩
            rw [HE.out]
            refine congrArg (fun b => Ending.returned (.bool b)) ?_
            first | rfl | (rw [Bool.eq_iff_iff]; simp; done) | (rw [Bool.eq_iff_iff]; simp [HWR.out])
theorem zero_ent {e : Ent} (hl : e.live = false) (h : entOk e = true) : e.key = ⟨#[]⟩ ∧ e.hash = 0 ∧ e.val = 0 := by
  unfold entOk at h
  rw [hl] at h
  simp only [Bool.false_eq_true, if_false, zeroE, Bool.and_eq_true] at h
  obtain ⟨⟨h1, h2⟩, h3⟩ := h
  refine ⟨?_, eq_of_beq h2, eq_of_beq h3⟩
  have := eq_of_beq h1
  rw [ByteArray.toList_eq] at this
  apply ByteArray.ext
  exact Array.toList_inj.1 this
theorem slotN_no {m : Nat} (h : slotN m = false) : ((m : Int) != 8) = true ∧ ((m : Int) != 16) = true ∧ ((m : Int) != 32) = true ∧ ((m : Int) != 64) = true ∧ ((m : Int) != 128) = true := by
  unfold slotN at h
  simp at h
  refine ⟨?_, ?_, ?_, ?_, ?_⟩ <;> (rw [bne_iff_ne]; omega)
def EnF (w' : World) (g wb : Nat) (sl : Value) (sl2 : Value) (g2 k : Nat) (e : Ent) (s : Nat) (n : Int) : Prop := w'.cell? ⟨wb, 0, none⟩ = some sl ∧ w'.cell? ⟨wb, 1, none⟩ = some sl2 ∧ w'.cell? ⟨g2, k * 4, none⟩ = some (.string e.key) ∧ w'.cell? ⟨g2, k * 4 + 3, none⟩ = some (.bool e.live) ∧ w'.cell? ⟨g, s, none⟩ = some (.int .i64 n)
set_option maxHeartbeats 8000000 in
set_option maxRecDepth 20000 in
theorem validDict_any (ix : List Int) (es : List Ent) (g c1 c2 : Nat) (a : Option Addr) (w : World) (h : Tb w g ix a es) (hl : es.length ≤ 1048576) (hm : ix.length ≤ 1048576) (hks : KeysS es) :
    Calls Try.prog 54 #[.agg #[.slice (some ⟨g, 0, none⟩) ix.length c1, .slice a es.length c2]] w fun e w' => e = .returned (.bool (dokB ix es)) ∧ Below w.heap.size w w' := by
  obtain ⟨w1, hw1⟩ : ∃ w1, w1 = w.alloc (Obj.cells #[.slice (some ⟨g, 0, none⟩) ix.length c1, .slice a es.length c2] 26) := ⟨_, rfl⟩
  have HB0 := Lib.hid (show Below w.heap.size w w1 from by rw [hw1]; exact (Below.refl _ _).alloc (Nat.le_refl _) _)
  have HT1 := Lib.hid (show Tb w1 g ix a es from h.below HB0.out)
  have HX1 := Lib.hid (show Blk w1 w.heap.size _ #[.slice (some ⟨g, 0, none⟩) ix.length c1, .slice a es.length c2] from by rw [hw1]; exact Blk.newest w _ _)
  have HKS := Lib.hid hks
  have HVS := Lib.hid (fun w h => validSlots_any ix es g c1 c2 a w h hl hm)
  have HCL := Lib.hid (fun w h => liveEntries_any (.slice (some ⟨g, 0, none⟩) ix.length c1) es a c2 w h hl rfl)
  have HSl := Lib.hid (fun (key : ByteArray) w h hf hk => slotOf_ok ix es key g c1 c2 a w h hf hk)
  have hsz : w1.heap.size = w.heap.size + 1 := by rw [hw1]; simp
  clear h hks
  have e2 : ((ix.length : Int) * 2).tdiv 3 = ((2 * ix.length / 3 : Nat) : Int) := by rw [Int.tdiv_eq_ediv_of_nonneg (by omega)]; omega
  have HFI := Lib.hid (fun (h : DOk ix es) => fit_iff.2 h.1)
  have HF2 := Lib.hid (fun (h : (whV ix es && whB ix es) = true) => fit_iff.1 h)
  generalize hmm : ix.length = m at *
  generalize hne : es.length = ne at *
  have HNE := Lib.hid hne
  have HMM := Lib.hid hmm
  clear hmm hne
  have HW1 := Lib.hid hw1
  clear hw1
  have hr1 : ((2 * m / 3 : Nat) : Int) ≤ 1048576 := by omega
  have hr0 : (0 : Int) ≤ ((2 * m / 3 : Nat) : Int) := by omega
  cases hs : slotN m with
  | false =>
    obtain ⟨s1, s2, s3, s4, s5⟩ := slotN_no hs
    have HE := Lib.hid (show dokB ix es = false from dok_no fun h => by have := h.1.1; rw [HMM.out, hs] at this; cases this)
    clear hs
    go_enter Try.func54, Try.ntmps54
    go_wp2_with fail
    go_ret
    exact ⟨by rw [HE.out]; rfl, by rw [← HW1.out]; exact HB0.out⟩
  | true =>
    by_cases hE : ne ≤ 2 * m / 3
    · have hmv := slotN_mem hs
      simp at hmv
      have hln : (liveN es : Int) ≤ 1048576 := by have := liveN_le es es.length; rw [List.take_length, HNE.out] at this; omega
      have HHs := Lib.hid hs
      have HHE := Lib.hid hE
      clear hs
      have HVal := Lib.hid (fun (n : Int) w => (inRange_any n w).mono fun _ _ h => And.intro h.1 h.2.symm)
      have H49 := Lib.hid (fun (e : Ent) w (h : e.key.size ≤ 1048576) => (validKey_any e.key w (by omega)).mono fun _ _ h => And.intro h.1 h.2.symm)
      have H50 := Lib.hid (fun (e : Ent) w (h : e.key.size ≤ 1048576) => (hashOf_any e.key w h).mono fun _ _ h => And.intro h.1 h.2.symm)
      have k3 : (ne : Int) ≤ ((2 * m / 3 : Nat) : Int) := by omega
      generalize ((2 * m / 3 : Nat) : Int) = rm at *
      clear hE
      by_cases h40 : liveN es ≤ 40
      · have H40 := Lib.hid h40
        have k40 : (liveN es : Int) ≤ 40 := by omega
        clear h40
        go_enter Try.func54, Try.ntmps54
        go_upto_region 2 with fail
        rw [← HW1.out]
        go_cut [27] (fun s wx => s = .bool false ∧ wx = w1)
        case first =>
          rcases hmv with hmv | hmv | hmv | hmv | hmv
          all_goals
            have s1 : ((m : Int) != 8) = decide (m ≠ 8) := by rw [Bool.eq_iff_iff]; simp; omega
            have s2 : ((m : Int) != 16) = decide (m ≠ 16) := by rw [Bool.eq_iff_iff]; simp; omega
            have s3 : ((m : Int) != 32) = decide (m ≠ 32) := by rw [Bool.eq_iff_iff]; simp; omega
            have s4 : ((m : Int) != 64) = decide (m ≠ 64) := by rw [Bool.eq_iff_iff]; simp; omega
            have s5 : ((m : Int) != 128) = decide (m ≠ 128) := by rw [Bool.eq_iff_iff]; simp; omega
            rw [hmv] at s1 s2 s3 s4 s5
            simp at s1 s2 s3 s4 s5
            go_wp2_with fail
            go_meet
            exact ⟨rfl, rfl⟩
        obtain ⟨rfl, rfl⟩ := hcut
        have b0 := HX1.out.cell 0
        have b1 := HX1.out.cell 1
        go_wp2_with fail
        clear b0 b1
        refine (HCL.out _ HT1.out.2.2).mono ?_
        rintro e w3 ⟨rfl, hb3⟩
        have HX3 := Lib.hid (HX1.out.below hb3 (by rw [hsz]; omega))
        have HT3 := Lib.hid (HT1.out.below hb3)
        have HB3 := Lib.hid (HB0.out.trans (hb3.mono HB0.out.size))
        have HS3 := Lib.hid (show w.heap.size + 1 ≤ w3.heap.size by have := hb3.size; omega)
        clear hb3
        go_wp2_with fail
        go_loopw [4] (fun i wr => ∃ k : Nat, k ≤ ne ∧ i = .int .i64 k ∧ Hid (∀ j e, j < k → es[j]? = some e → entOk e = true) ∧ Hid (Below w3.heap.size w3 wr)) (fun i _ => ne - (intOf i).toNat)
        case atStart => exact ⟨0, by omega, rfl, Lib.hid (fun _ _ h => absurd h (by omega)), Lib.hid (Below.refl _ _)⟩
        case round =>
          obtain ⟨k, hk, rfl, HR, HI⟩ := hrel
          have HXr := Lib.hid (HX3.out.below HI.out (by have := HS3.out; omega))
          have b0 := HXr.out.cell 0
          have b1 := HXr.out.cell 1
          by_cases hltk : k < ne
          · obtain ⟨g2, e, rfl, he, hb, x0, x1, x2, x3⟩ := (HT3.out.below HI.out).2.2.at (show k < es.length by rw [HNE.out]; exact hltk)
            have q1 : (k : Int) < (ne : Int) := by omega
            have q0 : 0 ≤ (k : Int) := by omega
            obtain ⟨key, hsv, val, lv⟩ := e
            dsimp only at x0 x1 x2 x3
            have HL := Lib.hid (lies4 x0 x1 x2 x3)
            have HKe := Lib.hid (show key.size ≤ 1048576 from HKS.out _ (List.mem_of_getElem? he))
            have HGE := Lib.hid he
            have HK := Lib.hid (fun w => (validKey_any key w (by have := HKe.out; omega)).mono fun _ _ h => And.intro h.1 h.2.symm)
            have HH := Lib.hid (fun w => (hashOf_any key w HKe.out).mono fun _ _ h => And.intro h.1 h.2.symm)
            have HV := Lib.hid (HVal.out val)
            clear x0 x1 x2 x3 he
            go_wp2_with (first | (refine ldE (o := ⟨some 51, _, _, _, _, _⟩) rfl (.tmp 50) rfl g2 (k * 4) (.string key) (.int .i64 hsv) (.int .i64 val) (.bool lv) rfl HL.out ?_))
            cases lv with
            | false =>
              cases hok : entOk ⟨key, hsv, val, false⟩ with
              | true =>
                have HOK := Lib.hid hok
                obtain ⟨z1, z2, z3⟩ := zero_ent rfl hok
                dsimp only at z1 z2 z3
                subst z1 z2 z3
                clear hok
                go_quiet (first | (go_at_call 61; exact Calls.quiet_of_same (HK.out _)) | (go_at_call 88; exact Calls.quiet_of_same (HH.out _)) | (go_at_call 77; exact Calls.quiet_of_same (HV.out _)))
                have HR2 := Lib.hid (show ∀ j e, j < k + 1 → es[j]? = some e → entOk e = true from fun j e hj hje => by
                  rcases Nat.lt_or_ge j k with h7 | h7
                  · exact HR.out j e h7 hje
                  · obtain rfl : j = k := by omega
                    have h8 := HGE.out
                    rw [hje] at h8; injection h8 with h8; subst h8; exact HOK.out)
                go_wp2_with fail
                go_roundw
                case rel => exact ⟨k + 1, by omega, by go_num, HR2, Lib.hid (below_drewN' (HI.out.alloc (Nat.le_trans (Nat.le_refl _) HI.out.size) _))⟩
                case measure => simp [intOf]; try omega
              | false =>
                have HOK := Lib.hid hok
                have hz : (key.toList == [] && hsv == 0 && val == 0) = false := hok
                clear hok
                cases hkb : (key.toList == []) <;> cases hhb : (hsv == 0) <;> cases hvb : (val == 0)
                all_goals try (rw [hkb, hhb, hvb] at hz; cases hz; done)
                all_goals
                  clear hz
                  go_quiet (first | (go_at_call 61; exact Calls.quiet_of_same (HK.out _)) | (go_at_call 88; exact Calls.quiet_of_same (HH.out _)) | (go_at_call 77; exact Calls.quiet_of_same (HV.out _)))
                  have HE := Lib.hid (show dokB ix es = false from dok_no fun h => by have := (h.2.2 k _ HGE.out).1; rw [HOK.out] at this; cases this)
                  go_wp2_with fail
                  go_ret
                  exact ⟨by rw [HE.out]; rfl, HB3.out.trans ((below_drewN' (HI.out.alloc (Nat.le_trans (Nat.le_refl _) HI.out.size) _)).mono HB3.out.size)⟩
            | true =>
              cases hkb : keyB key with
              | false =>
                have HOK := Lib.hid (show entOk ⟨key, hsv, val, true⟩ = false by simp [entOk, hkb])
                rw [hkb] at HK
                clear hkb
                go_quiet (first | (go_at_call 61; exact Calls.quiet_of_same (HK.out _)) | (go_at_call 88; exact Calls.quiet_of_same (HH.out _)) | (go_at_call 77; exact Calls.quiet_of_same (HV.out _)))
                have HE := Lib.hid (show dokB ix es = false from dok_no fun h => by have := (h.2.2 k _ HGE.out).1; rw [HOK.out] at this; cases this)
                go_wp2_with fail
                go_ret
                exact ⟨by rw [HE.out]; rfl, HB3.out.trans ((below_drewN' (HI.out.alloc (Nat.le_trans (Nat.le_refl _) HI.out.size) _)).mono HB3.out.size)⟩
              | true =>
                have hv2 : hashV key = (hsh key.data.toList : Int) := by unfold hashV; rw [if_pos (by unfold keyB at hkb; simpa using hkb)]
                rw [hkb] at HK
                cases hhb : (hsv == (hsh key.data.toList : Int)) with
                | false =>
                  have HOK := Lib.hid (show entOk ⟨key, hsv, val, true⟩ = false by simp only [entOk, if_true]; rw [hkb, hv2, hhb]; rfl)
                  have hhn : (hsv != (hsh key.data.toList : Int)) = true := by rw [bne, hhb]; rfl
                  generalize (hsh key.data.toList : Int) = hh at *
                  clear hkb hv2
                  go_quiet (first | (go_at_call 61; exact Calls.quiet_of_same (HK.out _)) | (go_at_call 88; exact Calls.quiet_of_same (HH.out _)) | (go_at_call 77; exact Calls.quiet_of_same (HV.out _)))
                  have HE := Lib.hid (show dokB ix es = false from dok_no fun h => by have := (h.2.2 k _ HGE.out).1; rw [HOK.out] at this; cases this)
                  go_wp2_with fail
                  go_ret
                  exact ⟨by rw [HE.out]; rfl, HB3.out.trans ((below_drewN' (HI.out.alloc (Nat.le_trans (Nat.le_refl _) HI.out.size) _)).mono HB3.out.size)⟩
                | true =>
                  have hhn : (hsv != (hsh key.data.toList : Int)) = false := by rw [bne, hhb]; rfl
                  cases hvb : okV val with
                  | false =>
                    have HOK := Lib.hid (show entOk ⟨key, hsv, val, true⟩ = false by simp only [entOk, if_true]; rw [hvb, Bool.and_false])
                    rw [hvb] at HV
                    generalize (hsh key.data.toList : Int) = hh at *
                    clear hkb hv2 hvb
                    go_quiet (first | (go_at_call 61; exact Calls.quiet_of_same (HK.out _)) | (go_at_call 88; exact Calls.quiet_of_same (HH.out _)) | (go_at_call 77; exact Calls.quiet_of_same (HV.out _)))
                    have HE := Lib.hid (show dokB ix es = false from dok_no fun h => by have := (h.2.2 k _ HGE.out).1; rw [HOK.out] at this; cases this)
                    go_wp2_with fail
                    go_ret
                    exact ⟨by rw [HE.out]; rfl, HB3.out.trans ((below_drewN' (HI.out.alloc (Nat.le_trans (Nat.le_refl _) HI.out.size) _)).mono HB3.out.size)⟩
                  | true =>
                    have HOK := Lib.hid (show entOk ⟨key, hsv, val, true⟩ = true by simp only [entOk, if_true]; rw [hkb, hv2, hhb, hvb]; rfl)
                    rw [hvb] at HV
                    generalize (hsh key.data.toList : Int) = hh at *
                    clear hkb hv2 hvb
                    go_quiet (first | (go_at_call 61; exact Calls.quiet_of_same (HK.out _)) | (go_at_call 88; exact Calls.quiet_of_same (HH.out _)) | (go_at_call 77; exact Calls.quiet_of_same (HV.out _)))
                    have HR2 := Lib.hid (show ∀ j e, j < k + 1 → es[j]? = some e → entOk e = true from fun j e hj hje => by
                      rcases Nat.lt_or_ge j k with h7 | h7
                      · exact HR.out j e h7 hje
                      · obtain rfl : j = k := by omega
                        have h8 := HGE.out
                        rw [hje] at h8; injection h8 with h8; subst h8; exact HOK.out)
                    go_wp2_with fail
                    go_roundw
                    case rel => exact ⟨k + 1, by omega, by go_num, HR2, Lib.hid (below_drewN' (HI.out.alloc (Nat.le_trans (Nat.le_refl _) HI.out.size) _))⟩
                    case measure => simp [intOf]; try omega
          · obtain rfl : k = ne := by omega
            clear hltk
            go_wp2_with fail
            refine (HVS.out _ (HT3.out.below HI.out)).mono ?_
            rintro e w5 ⟨rfl, hb5⟩
            have HX5 := Lib.hid (HXr.out.below hb5 (by have := HS3.out; have := HI.out.size; omega))
            have HT5 := Lib.hid ((HT3.out.below HI.out).below hb5)
            have HB5 := Lib.hid (HB3.out.trans ((HI.out.trans (hb5.mono HI.out.size)).mono HB3.out.size))
            have HS5 := Lib.hid (show w.heap.size + 1 ≤ w5.heap.size by have := HS3.out; have := HI.out.size; have := hb5.size; omega)
            clear hb5 b0 b1
            cases hwb : whB ix es with
            | false =>
              have HE := Lib.hid (show dokB ix es = false from dok_no fun h => by rw [whB_yes h.1.2.2] at hwb; cases hwb)
              clear hwb
              go_wp2_with fail
              go_ret
              exact ⟨by rw [HE.out]; rfl, HB5.out⟩
            | true =>
              have HF := Lib.hid (show Fit ix es from ⟨by rw [HMM.out]; exact HHs.out, by rw [HMM.out, HNE.out]; exact HHE.out, wh_of hwb⟩)
              clear hwb
              go_wp2_with fail
              go_loopw [6] (fun i wr => ∃ j : Nat, j ≤ k ∧ i = .int .i64 j ∧ Hid (∀ i e, i < j → es[i]? = some e → e.live = true → plc ix es e.key (hsh e.key.data.toList) = (i : Int)) ∧ Hid (Below w5.heap.size w5 wr)) (fun i _ => k - (intOf i).toNat)
              case atStart => exact ⟨0, by omega, rfl, Lib.hid (fun _ _ h => absurd h (by omega)), Lib.hid (Below.refl _ _)⟩
              case round =>
                obtain ⟨j, hj, rfl, HP, HJ⟩ := hrel
                have HXj := Lib.hid (HX5.out.below HJ.out (by have := HS5.out; omega))
                have b0 := HXj.out.cell 0
                have b1 := HXj.out.cell 1
                by_cases hltj : j < k
                · obtain ⟨g2, e, rfl, he, hb, x0, x1, x2, x3⟩ := (HT5.out.below HJ.out).2.2.at (show j < es.length by rw [HNE.out]; exact hltj)
                  have q1 : (j : Int) < (k : Int) := by omega
                  have q0 : 0 ≤ (j : Int) := by omega
                  have HKe := Lib.hid (HKS.out e (List.mem_of_getElem? he))
                  have HGE := Lib.hid he
                  have HTj := Lib.hid (HT5.out.below HJ.out)
                  cases hlv : e.live with
                  | false =>
                    have HP2 := Lib.hid (show ∀ i e, i < j + 1 → es[i]? = some e → e.live = true → plc ix es e.key (hsh e.key.data.toList) = (i : Int) from fun i e2 hi h2 h3 => by
                      rcases Nat.lt_or_ge i j with h7 | h7
                      · exact HP.out i e2 h7 h2 h3
                      · obtain rfl : i = j := by omega
                        have h8 := HGE.out
                        rw [h2] at h8; injection h8 with h8; subst h8; rw [hlv] at h3; cases h3)
                    rw [hlv] at x3
                    clear x0 x1 x2 he hlv
                    go_wp2_with fail
                    go_quiet (fail)
                    go_wp2_with fail
                    go_roundw
                    case rel => exact ⟨j + 1, by omega, by go_num, HP2, Lib.hid (below_drewN' HJ.out)⟩
                    case measure => simp [intOf]; try omega
                  | true =>
                    obtain ⟨n, hn⟩ : ∃ n, n = plc ix es e.key (hsh e.key.data.toList) := ⟨_, rfl⟩
                    obtain ⟨s, hs⟩ : ∃ s, s = fstS ix es e.key (hsh e.key.data.toList) := ⟨_, rfl⟩
                    have h4 := (fst_ok (key := e.key) HF.out (hsh_lt e.key.data.toList)).2.2.2
                    rw [← hs, ← hn] at h4
                    have s9 : s < ix.length := by
                      rcases Nat.lt_or_ge s ix.length with h7 | h7
                      · exact h7
                      · rw [List.getElem?_eq_none h7] at h4; cases h4
                    rw [HMM.out] at s9
                    have s1 : (s : Int) < (m : Int) := by omega
                    have s0 : 0 ≤ (s : Int) := by omega
                    have HCall := Lib.hid (fun w' (hb : Below wr.heap.size wr w') => HSl.out e.key w' (HTj.out.below hb) HF.out HKe.out)
                    rw [← hs] at HCall
                    have HFa := Lib.hid (show ∀ w', Below wr.heap.size wr w' → EnF w' g w.heap.size _ _ g2 j e s n from fun w' hb9 => ⟨(HXj.out.below hb9 (by have := HS5.out; have := HJ.out.size; omega)).cell 0, (HXj.out.below hb9 (by have := HS5.out; have := HJ.out.size; omega)).cell 1, (hb9.cell hb).trans x0, (hb9.cell hb).trans x3, (HTj.out.below hb9).2.1 s n h4⟩)
                    rw [hlv] at x3
                    have HLV := Lib.hid hlv
                    have HNN := Lib.hid hn
                    clear x1 x2 he h4 hs hn
                    go_wp2_with fail
                    go_region_with (first | (refine (HCall.out _ (by first | exact Below.refl _ _ | exact (Below.refl _ _).drew | exact below_drewN' (Below.refl _ _))).mono ?_; rintro r w7 ⟨rfl, hb7⟩; have HB7 := Lib.hid (show Below wr.heap.size wr w7 from (by first | exact hb7 | exact ((Below.refl _ wr).drew).trans hb7 | exact (below_drewN' (Below.refl _ wr)).trans hb7)); obtain ⟨d0, d1, d2, d3, d4⟩ := HFa.out _ HB7.out; rw [HLV.out] at d3; clear hb7))
                    all_goals
                      have HT7 := Lib.hid (HJ.out.trans (HB7.out.mono HJ.out.size))
                      cases hp : (n == (j : Int))
                      · have HE := Lib.hid (show dokB ix es = false from dok_no fun h => by have h9 := (h.2.2 j e HGE.out).2 HLV.out; rw [← HNN.out] at h9; rw [h9] at hp; simp at hp)
                        have hp2 : (n != (j : Int)) = true := by rw [bne, hp]; rfl
                        go_wp2_with fail
                        go_ret
                        exact ⟨by rw [HE.out]; rfl, HB5.out.trans (HT7.out.mono HB5.out.size)⟩
                      · have HP2 := Lib.hid (show ∀ i e, i < j + 1 → es[i]? = some e → e.live = true → plc ix es e.key (hsh e.key.data.toList) = (i : Int) from fun i e2 hi h2 _ => by
                          rcases Nat.lt_or_ge i j with h7 | h7
                          · exact HP.out i e2 h7 h2 ‹_›
                          · obtain rfl : i = j := by omega
                            have h8 := HGE.out
                            rw [h2] at h8; injection h8 with h8; subst h8; rw [← HNN.out]; exact eq_of_beq hp)
                        have hp2 : (n != (j : Int)) = false := by rw [bne, hp]; rfl
                        go_wp2_with fail
                        go_roundw
                        case rel => exact ⟨j + 1, by omega, by go_num, HP2, HT7⟩
                        case measure => simp [intOf]; try omega
                · obtain rfl : j = k := by omega
                  have HE := Lib.hid (show dokB ix es = true from dok_yes ⟨HF.out, H40.out, fun i e he => ⟨HR.out i e (by
                    rcases Nat.lt_or_ge i es.length with h7 | h7
                    · rw [HNE.out] at h7; exact h7
                    · rw [List.getElem?_eq_none h7] at he; cases he) he, fun h3 => HP.out i e (by
                    rcases Nat.lt_or_ge i es.length with h7 | h7
                    · rw [HNE.out] at h7; exact h7
                    · rw [List.getElem?_eq_none h7] at he; cases he) he h3⟩⟩)
                  clear hltj
                  go_wp2_with fail
                  go_ret
                  exact ⟨by rw [HE.out]; rfl, HB5.out.trans (HJ.out.mono HB5.out.size)⟩
      · have HE := Lib.hid (show dokB ix es = false from dok_no fun h => h40 h.2.1)
        have k40 : (40 : Int) < (liveN es : Int) := by omega
        clear h40
        go_enter Try.func54, Try.ntmps54
        go_upto_region 2 with fail
        rw [← HW1.out]
        go_cut [27] (fun s wx => s = .bool false ∧ wx = w1)
        case first =>
          rcases hmv with hmv | hmv | hmv | hmv | hmv
          all_goals
            have s1 : ((m : Int) != 8) = decide (m ≠ 8) := by rw [Bool.eq_iff_iff]; simp; omega
            have s2 : ((m : Int) != 16) = decide (m ≠ 16) := by rw [Bool.eq_iff_iff]; simp; omega
            have s3 : ((m : Int) != 32) = decide (m ≠ 32) := by rw [Bool.eq_iff_iff]; simp; omega
            have s4 : ((m : Int) != 64) = decide (m ≠ 64) := by rw [Bool.eq_iff_iff]; simp; omega
            have s5 : ((m : Int) != 128) = decide (m ≠ 128) := by rw [Bool.eq_iff_iff]; simp; omega
            rw [hmv] at s1 s2 s3 s4 s5
            simp at s1 s2 s3 s4 s5
            go_wp2_with fail
            go_meet
            exact ⟨rfl, rfl⟩
        obtain ⟨rfl, rfl⟩ := hcut
        have b0 := HX1.out.cell 0
        have b1 := HX1.out.cell 1
        go_wp2_with fail
        clear b0 b1
        refine (HCL.out _ HT1.out.2.2).mono ?_
        rintro e w3 ⟨rfl, hb3⟩
        have HB3 := Lib.hid (HB0.out.trans (hb3.mono HB0.out.size))
        clear hb3
        go_wp2_with fail
        go_ret
        exact ⟨by rw [HE.out]; rfl, HB3.out⟩
    · have HE := Lib.hid (show dokB ix es = false from dok_no fun h => hE (by have := h.1.2.1; rw [HMM.out, HNE.out] at this; exact this))
      have k1 : ((2 * m / 3 : Nat) : Int) < (ne : Int) := by omega
      have hmv := slotN_mem hs
      clear hs hE
      simp at hmv
      rcases hmv with rfl | rfl | rfl | rfl | rfl
      all_goals
        first | (have k3 : (85 : Int) < (ne : Int) := by omega) | (have k3 : (42 : Int) < (ne : Int) := by omega) | (have k3 : (21 : Int) < (ne : Int) := by omega) | (have k3 : (10 : Int) < (ne : Int) := by omega) | (have k3 : (5 : Int) < (ne : Int) := by omega)
        clear k1
        go_enter Try.func54, Try.ntmps54
        go_wp2_with fail
        go_ret
        exact ⟨by rw [HE.out]; rfl, by rw [← HW1.out]; exact HB0.out⟩
end Go.Proofs.Ytibglmcpbbikdaa
