/- Whether a dictionary is valid: the program's DictOk. -/
import Derived.Test.YtplpgcbdbmfffaaIsOk
import Derived.Test.YtplpgcbdbmfffaaWhI
namespace Go.Proofs.Ytplpgcbdbmfffaa
open Go.RowKit
/-- The entry at place i is valid and is found there. -/
def RowOk (ix : List Int) (es : List Ent) (i : Nat) (e : Ent) : Prop := entOk e = true ∧ (e.live = true → plc ix es e.key (hsh e.key.data.toList) = (i : Int))
/-- A valid dictionary. -/
def DOk (ix : List Int) (es : List Ent) : Prop := Fit ix es ∧ liveN es ≤ 40 ∧ ∀ (i : Nat) (e : Ent), es[i]? = some e → RowOk ix es i e
noncomputable def dokB (ix : List Int) (es : List Ent) : Bool := @decide (DOk ix es) (Classical.propDecidable _)
theorem dok_no {ix : List Int} {es : List Ent} (h : ¬ DOk ix es) : dokB ix es = false := @decide_eq_false _ (Classical.propDecidable _) h
theorem dok_yes {ix : List Int} {es : List Ent} (h : DOk ix es) : dokB ix es = true := @decide_eq_true _ (Classical.propDecidable _) h
theorem dok_of {ix : List Int} {es : List Ent} (h : dokB ix es = true) : DOk ix es := @of_decide_eq_true _ (Classical.propDecidable _) h
theorem fit_iff {ix : List Int} {es : List Ent} : (whV ix es && whB ix es) = true ↔ Fit ix es := by
  unfold whV Fit
  simp only [Bool.and_eq_true, decide_eq_true_eq]
  constructor
  · rintro ⟨⟨h1, h2⟩, h3⟩; exact ⟨h1, h2, wh_of h3⟩
  · rintro ⟨h1, h2, h3⟩; exact ⟨⟨h1, h2⟩, whB_yes h3⟩
theorem ent_hash {e : Ent} (h : entOk e = true) (hl : e.live = true) : e.hash = (hsh e.key.data.toList : Int) ∧ e.key.size ≤ 20 := by
  unfold entOk at h
  rw [hl] at h
  simp only [if_true, Bool.and_eq_true] at h
  obtain ⟨⟨h1, h2⟩, _⟩ := h
  have h3 : e.key.size ≤ 20 := by unfold keyB at h1; simpa using h1
  refine ⟨?_, h3⟩
  rw [eq_of_beq h2]
  unfold hashV
  rw [if_pos h3]
/-- The first i entries are so. -/
def RowsS (ix : List Int) (es : List Ent) (i : Nat) : Prop := ∀ (j : Nat) (e : Ent), j < i → es[j]? = some e → RowOk ix es j e
theorem RowsS.next {ix : List Int} {es : List Ent} {i : Nat} {e : Ent} (h : RowsS ix es i) (he : es[i]? = some e) (h1 : RowOk ix es i e) : RowsS ix es (i + 1) := by
  intro j e2 hj h2
  rcases Nat.lt_or_ge j i with h3 | h3
  · exact h j e2 h3 h2
  · obtain rfl : j = i := by omega
    rw [he] at h2; injection h2 with h2; subst h2; exact h1
/-- Texts of keys are not too long for the machine. -/
def KeysS (es : List Ent) : Prop := ∀ e ∈ es, e.key.size ≤ 1048576
set_option maxHeartbeats 4000000 in
set_option maxRecDepth 20000 in
theorem dictOk_any (ix : List Int) (es : List Ent) (g c1 c2 : Nat) (a : Option Addr) (w : World) (h : Tb w g ix a es) (hl : es.length ≤ 1048576) (hm : ix.length ≤ 1048576) (hks : KeysS es) :
    Calls Try.prog 25 #[.agg #[.slice (some ⟨g, 0, none⟩) ix.length c1, .slice a es.length c2]] w fun e w' => e = .returned (.bool (dokB ix es)) ∧ Below w.heap.size w w' := by
  obtain ⟨w1, hw1⟩ : ∃ w1, w1 = (w.alloc (Obj.cells #[.slice (some ⟨g, 0, none⟩) ix.length c1, .slice a es.length c2] 27)).alloc (Obj.cells #[.slice (some ⟨g, 0, none⟩) ix.length c1, .slice a es.length c2] 61) := ⟨_, rfl⟩
  have HB0 := Lib.hid (show Below w.heap.size w w1 from by rw [hw1]; exact ((Below.refl _ _).alloc (Nat.le_refl _) _).alloc (by simp) _)
  have HT1 := Lib.hid (show Tb w1 g ix a es from h.below HB0.out)
  have HX1 := Lib.hid (show Blk w1 w.heap.size _ #[.slice (some ⟨g, 0, none⟩) ix.length c1, .slice a es.length c2] from by rw [hw1]; exact (Blk.newest w _ _).alloc _)
  have HX2 := Lib.hid (show Blk w1 (w.heap.size + 1) _ #[.slice (some ⟨g, 0, none⟩) ix.length c1, .slice a es.length c2] from by rw [hw1]; exact Blk.new _ _ _ (by simp))
  have HKS := Lib.hid hks
  have HWh := Lib.hid (fun w h => isWhole_any ix es g c1 c2 a w h hl hm)
  have HCL := Lib.hid (fun w h => countLive_any (.slice (some ⟨g, 0, none⟩) ix.length c1) es a c2 w h hl rfl)
  have HFi := Lib.hid (fun (key : ByteArray) w h hf => find_ok ix es key g c1 c2 (hsh key.data.toList) a w h hf (hsh_lt key.data.toList))
  have hsz : w1.heap.size = w.heap.size + 2 := by rw [hw1]; simp
  clear h hks
  cases hv : (whV ix es && whB ix es) with
  | false =>
    have HE := Lib.hid (show dokB ix es = false from dok_no fun h => by rw [fit_iff.2 h.1] at hv; cases hv)
    rw [hv] at HWh
    clear hv
    generalize ix.length = m at *
    generalize es.length = ne at *
    have HW1 := Lib.hid hw1
    clear hw1
    go_enter Try.func25, Try.ntmps25
    go_wp2_with fail
    rw [← HW1.out]
    refine (HWh.out _ HT1.out).mono ?_
    rintro e w2 ⟨rfl, hb2⟩
    have HB2 := Lib.hid (HB0.out.trans (hb2.mono HB0.out.size))
    clear hb2
    go_wp2_with fail
    go_ret
    exact ⟨by rw [HE.out]; rfl, HB2.out⟩
  | true =>
    have HF := Lib.hid (fit_iff.1 hv)
    rw [hv] at HWh
    clear hv
    have HFi2 := Lib.hid (fun (key : ByteArray) w h => HFi.out key w h HF.out)
    clear HFi
    generalize hmm : ix.length = m at *
    generalize hne : es.length = ne at *
    have HNE := Lib.hid hne
    have HMM := Lib.hid hmm
    clear hmm hne
    have HW1 := Lib.hid hw1
    clear hw1
    have hln : (liveN es : Int) ≤ 1048576 := by have := liveN_le es es.length; rw [List.take_length, HNE.out] at this; omega
    by_cases h40 : liveN es ≤ 40
    · have H40 := Lib.hid h40
      have k40 : (liveN es : Int) ≤ 40 := by omega
      clear h40
      go_enter Try.func25, Try.ntmps25
      go_wp2_with fail
      rw [← HW1.out]
      refine (HWh.out _ HT1.out).mono ?_
      rintro e w2 ⟨rfl, hb2⟩
      have HY2 := Lib.hid (HX2.out.below hb2 (by rw [hsz]; omega))
      have HY1 := Lib.hid (HX1.out.below hb2 (by rw [hsz]; omega))
      have HT2 := Lib.hid (HT1.out.below hb2)
      have HB2 := Lib.hid (HB0.out.trans (hb2.mono HB0.out.size))
      have HS2 := Lib.hid (show w.heap.size + 2 ≤ w2.heap.size by have := hb2.size; omega)
      clear hb2
      have b0 := HY2.out.cell 0
      have b1 := HY2.out.cell 1
      go_wp2_with fail
      refine (HCL.out _ HT2.out.2.2).mono ?_
      rintro e w3 ⟨rfl, hb3⟩
      have HZ2 := Lib.hid (HY2.out.below hb3 (by have := HS2.out; omega))
      have HZ1 := Lib.hid (HY1.out.below hb3 (by have := HS2.out; omega))
      have HT3 := Lib.hid (HT2.out.below hb3)
      have HB3 := Lib.hid (HB2.out.trans (hb3.mono HB2.out.size))
      have HS3 := Lib.hid (show w.heap.size + 2 ≤ w3.heap.size from Nat.le_trans HS2.out hb3.size)
      clear hb3 b0 b1
      have b0 := HZ1.out.cell 0
      have b1 := HZ1.out.cell 1
      go_wp2_with fail
      go_loopw [18] (fun i wr => ∃ k : Nat, k ≤ ne ∧ i = .int .i64 k ∧ Hid (RowsS ix es k) ∧ Hid (Below w3.heap.size w3 wr)) (fun i _ => ne - (intOf i).toNat)
      case atStart => exact ⟨0, by omega, rfl, Lib.hid (fun _ _ h => absurd h (by omega)), Lib.hid (Below.refl _ _)⟩
      case round =>
        obtain ⟨k, hk, rfl, HR, HI⟩ := hrel
        by_cases hltk : k < ne
        · obtain ⟨g2, e, rfl, he, hb, x0, x1, x2, x3⟩ := (HT3.out.below HI.out).2.2.at (show k < es.length by rw [HNE.out]; exact hltk)
          have q1 : (k : Int) < (ne : Int) := by omega
          have q0 : 0 ≤ (k : Int) := by omega
          have HL := Lib.hid (lies4 x0 x1 x2 x3)
          have HKe := Lib.hid (HKS.out e (List.mem_of_getElem? he))
          have HOk := Lib.hid (fun w => isOk_any e w HKe.out)
          have HTr := Lib.hid (HT3.out.below HI.out)
          have HQ2 := Lib.hid (HZ2.out.below HI.out (by have := HS3.out; omega))
          have HGE := Lib.hid he
          clear x0 x1 x2 x3 he
          go_wp2_with (first | (refine ldE (o := ⟨some 22, _, _, _, _, _⟩) rfl (.tmp 21) rfl g2 (k * 4) (.string e.key) (.int .i64 e.hash) (.int .i64 e.val) (.bool e.live) rfl HL.out ?_))
          refine (HOk.out _).mono ?_
          rintro r w4 ⟨rfl, hb4⟩
          have hb4' : Below wr.heap.size wr w4 := ((Below.refl _ wr).alloc (Nat.le_refl _) _).trans (hb4.mono (by simp))
          have HT4 := Lib.hid (HTr.out.below hb4')
          have HP2 := Lib.hid (HQ2.out.below hb4' (by have := HS3.out; have := HI.out.size; omega))
          have HEn := Lib.hid (Blk.below (Blk.newest wr _ _) hb4 (by simp))
          have HI4 := Lib.hid (HI.out.trans (hb4'.mono HI.out.size))
          have z0 := HEn.out.cell 0
          have z1 := HEn.out.cell 1
          have z3 := HEn.out.cell 3
          have y0 := HP2.out.cell 0
          have y1 := HP2.out.cell 1
          clear hb4 hb4'
          cases hok : entOk e with
          | false =>
            have HE := Lib.hid (show dokB ix es = false from dok_no fun h => by have := (h.2.2 k e HGE.out).1; rw [hok] at this; cases this)
            clear hok
            go_wp2_with fail
            go_ret
            exact ⟨by rw [HE.out]; rfl, HB3.out.trans (HI4.out.mono HB3.out.size)⟩
          | true =>
            cases hlv : e.live with
            | false =>
              have HR2 := Lib.hid (HR.out.next HGE.out ⟨hok, fun h => by rw [hlv] at h; cases h⟩)
              rw [hlv] at z3
              clear hok
              go_wp2_with fail
              go_roundw
              case rel => exact ⟨k + 1, by omega, by go_num, HR2, HI4⟩
              case measure => simp [intOf]; try omega
            | true =>
              obtain ⟨hh1, hh2⟩ := ent_hash hok hlv
              rw [hlv] at z3
              rw [hh1] at z1
              go_wp2_with fail
              refine (HFi2.out e.key _ HT4.out).mono ?_
              rintro r w5 ⟨rfl, hb5⟩
              have HI5 := Lib.hid (HI4.out.trans (hb5.mono HI4.out.size))
              clear hb5
              cases hp : (plc ix es e.key (hsh e.key.data.toList) == (k : Int)) with
              | true =>
                have HR2 := Lib.hid (HR.out.next HGE.out ⟨hok, fun _ => eq_of_beq hp⟩)
                have hp2 : (plc ix es e.key (hsh e.key.data.toList) != (k : Int)) = false := by rw [bne, hp]; rfl
                clear hok hh1
                go_wp2_with fail
                go_roundw
                case rel => exact ⟨k + 1, by omega, by go_num, HR2, HI5⟩
                case measure => simp [intOf]; try omega
              | false =>
                have HE := Lib.hid (show dokB ix es = false from dok_no fun h => by have := (h.2.2 k e HGE.out).2 hlv; rw [this] at hp; simp at hp)
                have hp2 : (plc ix es e.key (hsh e.key.data.toList) != (k : Int)) = true := by rw [bne, hp]; rfl
                clear hok hh1
                go_wp2_with fail
                go_ret
                exact ⟨by rw [HE.out]; rfl, HB3.out.trans (HI5.out.mono HB3.out.size)⟩
        · obtain rfl : k = ne := by omega
          have HE := Lib.hid (show dokB ix es = true from dok_yes ⟨HF.out, H40.out, fun i e he => HR.out i e (by
            rcases Nat.lt_or_ge i es.length with h7 | h7
            · rw [HNE.out] at h7; exact h7
            · rw [List.getElem?_eq_none h7] at he; cases he) he⟩)
          clear hltk
          go_wp2_with fail
          go_ret
          exact ⟨by rw [HE.out]; rfl, HB3.out.trans (HI.out.mono HB3.out.size)⟩
    · have HE := Lib.hid (show dokB ix es = false from dok_no fun h => h40 h.2.1)
      have k40 : (40 : Int) < (liveN es : Int) := by omega
      clear h40
      go_enter Try.func25, Try.ntmps25
      go_wp2_with fail
      rw [← HW1.out]
      refine (HWh.out _ HT1.out).mono ?_
      rintro e w2 ⟨rfl, hb2⟩
      have HY2 := Lib.hid (HX2.out.below hb2 (by rw [hsz]; omega))
      have HT2 := Lib.hid (HT1.out.below hb2)
      have HB2 := Lib.hid (HB0.out.trans (hb2.mono HB0.out.size))
      clear hb2
      have b0 := HY2.out.cell 0
      have b1 := HY2.out.cell 1
      go_wp2_with fail
      refine (HCL.out _ HT2.out.2.2).mono ?_
      rintro e w3 ⟨rfl, hb3⟩
      have HB3 := Lib.hid (HB2.out.trans (hb3.mono HB2.out.size))
      clear hb3
      go_wp2_with fail
      go_ret
      exact ⟨by rw [HE.out]; rfl, HB3.out⟩
end Go.Proofs.Ytplpgcbdbmfffaa
