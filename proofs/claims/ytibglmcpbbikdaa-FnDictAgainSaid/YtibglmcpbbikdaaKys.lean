/- The keys of a dictionary: the program's DictKeys and the model's. -/
import Derived.Test.YtibglmcpbbikdaaLaE
import Derived.Test.YtibglmcpbbikdaaLaD
import Derived.Test.YtibglmcpbbikdaaShelC
import Derived.Test.YtibglmcpbbikdaaApS
namespace Go.Proofs.Ytibglmcpbbikdaa
open Go.RowKit
/-- The keys of those alive. -/
def kyL (es : List Ent) : List ByteArray := (es.filter (·.live)).map (·.key)
theorem kyL_next {es : List Ent} {k : Nat} {e : Ent} (h : es[k]? = some e) : kyL (es.take (k + 1)) = kyL (es.take k) ++ if e.live then [e.key] else [] := by
  have hk : k < es.length := by
    rcases Nat.lt_or_ge k es.length with h2 | h2
    · exact h2
    · rw [List.getElem?_eq_none h2] at h; cases h
  rw [List.getElem?_eq_getElem hk] at h
  injection h with h
  unfold kyL
  rw [List.take_succ_eq_append_getElem hk, h, List.filter_append, List.map_append]
  cases hl : e.live <;> simp [List.filter, hl]
theorem kyL_len (es : List Ent) (k : Nat) : (kyL (es.take k)).length ≤ k := by
  unfold kyL
  rw [List.length_map]
  exact Nat.le_trans (List.length_filter_le _ _) (by rw [List.length_take]; omega)
noncomputable def dkV (ix : List Int) (es : List Ent) : List ByteArray := if dokB ix es then kyL es else []
theorem dkV_len {ix : List Int} {es : List Ent} (h : es.length ≤ 1048576) : (dkV ix es).length ≤ 1048576 := by
  unfold dkV
  split
  · have := kyL_len es es.length; rw [List.take_length] at this; omega
  · simp
def KyP2 (ix : List Int) (es : List Ent) (w : World) (e : Ending) (w' : World) : Prop := ∃ v, e = .returned v ∧ OwT w' w.heap.size v (dkV ix es) ∧ Below w.heap.size w w'
/-- While keys are gathered. -/
def KgI (w1 wr : World) (es : List Ent) (k : Nat) (v : Value) : Prop := Below w1.heap.size w1 wr ∧ OwT wr w1.heap.size v (kyL (es.take k))
theorem KgI.same {w1 wr w2 : World} {es : List Ent} {k : Nat} {v : Value} {e : Ent} (h : KgI w1 wr es k v) (he : es[k]? = some e) (hl : e.live = false) (hb : Below wr.heap.size wr w2) : KgI w1 w2 es (k + 1) v := by
  refine ⟨h.1.trans (hb.mono h.1.size), ?_⟩
  rw [kyL_next he, hl]
  simp only [Bool.false_eq_true, if_false, List.append_nil]
  exact h.2.below hb
theorem KgI.more {w1 wr w3 : World} {es : List Ent} {k : Nat} {v v' : Value} {e : Ent} (_h : KgI w1 wr es k v) (he : es[k]? = some e) (hl : e.live = true) (hb : Below w1.heap.size w1 w3) (ho : Own w3 w1.heap.size 9 v' (tv (kyL (es.take k)) ++ [.string e.key])) : KgI w1 w3 es (k + 1) v' := by
  refine ⟨hb, ?_⟩
  rw [kyL_next he, hl]
  unfold OwT
  rw [if_pos rfl, tv_app]
  exact ho
set_option maxRecDepth 20000 in
theorem clone_text (s : ByteArray) (w : World) (hs : s.size ≤ 1048576) : Calls Try.prog 55 #[.string s] w fun e w' => e = .returned (.string s) ∧ Below w.heap.size w w' := by
  have HC := Lib.hid (fun w => Try.stringslite_Clone s w (by omega))
  go_enter Try.func55, Try.ntmps55
  go_wp2_with fail
  refine (HC.out _).mono ?_
  rintro e w2 ⟨rfl, hb⟩
  have HB := Lib.hid hb
  clear hb
  go_wp2_with fail
  go_ret
  exact ⟨rfl, HB.out⟩
set_option maxRecDepth 20000 in
set_option maxHeartbeats 4000000 in
theorem dictKeys_any (ix : List Int) (es : List Ent) (g c1 c2 : Nat) (a : Option Addr) (w : World) (h : Tb w g ix a es) (hl : es.length ≤ 1048576) (hm : ix.length ≤ 1048576) (hks : KeysS es) :
    Calls Try.prog 19 #[.agg #[.slice (some ⟨g, 0, none⟩) ix.length c1, .slice a es.length c2]] w (KyP2 ix es w) := by
  unfold KyP2
  obtain ⟨w1, hw1⟩ : ∃ w1, w1 = w.alloc (Obj.cells #[.slice (some ⟨g, 0, none⟩) ix.length c1, .slice a es.length c2] 26) := ⟨_, rfl⟩
  have HB1 := Lib.hid (show Below w.heap.size w w1 from by rw [hw1]; exact (Below.refl _ _).alloc (Nat.le_refl _) _)
  have HT1 := Lib.hid (h.below HB1.out)
  have HX1 := Lib.hid (show Blk w1 w.heap.size _ #[.slice (some ⟨g, 0, none⟩) ix.length c1, .slice a es.length c2] from by rw [hw1]; exact Blk.newest w _ _)
  have HD := Lib.hid (dictOk_any ix es g c1 c2 a w1 HT1.out hl hm hks)
  have HKS := Lib.hid hks
  have HW1 := Lib.hid hw1
  cases hdo : dokB ix es with
  | false =>
    have HE := Lib.hid (show dkV ix es = [] by unfold dkV; rw [hdo]; rfl)
    rw [hdo] at HD
    clear hdo h hw1
    generalize ix.length = m at *
    generalize es.length = ne at *
    go_enter Try.func19, Try.ntmps19
    go_wp2_with fail
    rw [← HW1.out]
    refine HD.out.mono ?_
    rintro e w2 ⟨rfl, hb2⟩
    have HB2 := Lib.hid (HB1.out.trans (hb2.mono HB1.out.size))
    clear hb2
    go_wp2_with fail
    go_ret
    exact ⟨_, rfl, by rw [HE.out]; exact Own.nil _ _ 9, HB2.out⟩
  | true =>
    have HE := Lib.hid (show dkV ix es = kyL es by unfold dkV; rw [hdo]; rfl)
    rw [hdo] at HD
    clear hdo h hw1
    generalize ix.length = m at *
    generalize hne : es.length = ne at *
    have HNE := Lib.hid hne
    clear hne
    go_enter Try.func19, Try.ntmps19
    go_wp2_with fail
    rw [← HW1.out]
    refine HD.out.mono ?_
    rintro e w2 ⟨rfl, hb2⟩
    have HB2 := Lib.hid (HB1.out.trans (hb2.mono HB1.out.size))
    have HX2 := Lib.hid (HX1.out.below hb2 HX1.out.lt)
    have HT2 := Lib.hid (HT1.out.below hb2)
    clear hb2
    have b0 := HX2.out.cell 0
    have b1 := HX2.out.cell 1
    go_wp2_with fail
    go_loopw [3, 12] (fun v i wr => ∃ k : Nat, k ≤ ne ∧ i = .int .i64 k ∧ Hid (KgI w2 wr es k v)) (fun _ i _ => ne - (intOf i).toNat)
    case atStart => exact ⟨0, by omega, rfl, Lib.hid ⟨Below.refl _ _, by rw [List.take_zero]; exact Own.nil _ _ 9⟩⟩
    case round =>
      obtain ⟨k, hk, rfl, HI⟩ := hrel
      by_cases hltk : k < ne
      · obtain ⟨g2, e, rfl, he, hb, x0, x1, x2, x3⟩ := (HT2.out.below HI.out.1).2.2.at (show k < es.length by rw [HNE.out]; exact hltk)
        have q1 : (k : Int) < (ne : Int) := by omega
        have q0 : 0 ≤ (k : Int) := by omega
        have HL := Lib.hid (lies4 x0 x1 x2 x3)
        have HKe := Lib.hid (HKS.out e (List.mem_of_getElem? he))
        have HGE := Lib.hid he
        have HLn := Lib.hid (kyL_len es k)
        clear x0 x1 x2 x3 he
        cases hlv : e.live with
        | false =>
          have HLV := Lib.hid hlv
          rw [hlv] at HL
          go_wp2_with (first | (refine ldE (o := ⟨some 15, _, _, _, _, _⟩) rfl (.tmp 14) rfl g2 (k * 4) (.string e.key) (.int .i64 e.hash) (.int .i64 e.val) (.bool false) rfl HL.out ?_))
          go_roundw
          case rel => exact ⟨k + 1, by omega, by go_num, Lib.hid (HI.out.same HGE.out HLV.out ((Below.refl _ _).alloc (Nat.le_refl _) _))⟩
          case measure => simp [intOf]; try omega
        | true =>
          have HLV := Lib.hid hlv
          rw [hlv] at HL
          have HCL := Lib.hid (fun w => clone_text e.key w HKe.out)
          go_wp2_with (first | (refine ldE (o := ⟨some 15, _, _, _, _, _⟩) rfl (.tmp 14) rfl g2 (k * 4) (.string e.key) (.int .i64 e.hash) (.int .i64 e.val) (.bool true) rfl HL.out ?_))
          refine (HCL.out _).mono ?_
          rintro r w3 ⟨rfl, hb3⟩
          have hb3' : Below wr.heap.size wr w3 := ((Below.refl _ wr).alloc (Nat.le_refl _) _).trans (hb3.mono (by simp))
          have HJ := Lib.hid (show KgI w2 w3 es k _ from ⟨HI.out.1.trans (hb3'.mono HI.out.1.size), HI.out.2.below hb3'⟩)
          clear hb3 hb3'
          go_wp2_with (first | (refine appS rfl (.tmp 18) (.tmp 22) 29 9 (.string ⟨#[]⟩) 16 rfl Try.underlying29 (by kernel_rfl) rfl (by decide) w3 w2 (.string e.key) rfl w2.heap.size _ (tv (kyL (es.take k))) rfl rfl HJ.out.2 rfl ?_ HJ.out.1.size HJ.out.1 ?_; (rw [tv_len]; have := HLn.out; omega); intro v4 w4 ho hb4 hg4; have HT := Lib.hid (HJ.out.more HGE.out HLV.out hb4 ho); clear ho hb4 hg4))
          go_roundw
          case rel => exact ⟨k + 1, by omega, by go_num, HT⟩
          case measure => simp [intOf]; try omega
      · obtain rfl : k = ne := by omega
        clear hltk
        go_wp2_with fail
        go_ret
        refine ⟨_, rfl, ?_, HB2.out.trans (HI.out.1.mono HB2.out.size)⟩
        rw [HE.out]
        have h9 := HI.out.2
        rw [List.take_of_length_le (by rw [HNE.out]; exact Nat.le_refl _)] at h9
        exact OwT.wide h9 HB2.out.size
set_option maxRecDepth 20000 in
set_option maxHeartbeats 4000000 in
theorem specDictKeys_any (ix : List Int) (es : List Ent) (g c1 c2 : Nat) (a : Option Addr) (w : World) (h : Tb w g ix a es) (hl : es.length ≤ 1048576) (hm : ix.length ≤ 1048576) (hks : KeysS es) :
    Calls Try.prog 42 #[.agg #[.slice (some ⟨g, 0, none⟩) ix.length c1, .slice a es.length c2]] w (KyP2 ix es w) := by
  unfold KyP2
  obtain ⟨w1, hw1⟩ : ∃ w1, w1 = w.alloc (Obj.cells #[.slice (some ⟨g, 0, none⟩) ix.length c1, .slice a es.length c2] 26) := ⟨_, rfl⟩
  have HB1 := Lib.hid (show Below w.heap.size w w1 from by rw [hw1]; exact (Below.refl _ _).alloc (Nat.le_refl _) _)
  have HT1 := Lib.hid (h.below HB1.out)
  have HX1 := Lib.hid (show Blk w1 w.heap.size _ #[.slice (some ⟨g, 0, none⟩) ix.length c1, .slice a es.length c2] from by rw [hw1]; exact Blk.newest w _ _)
  have HD := Lib.hid (validDict_any ix es g c1 c2 a w1 HT1.out hl hm hks)
  have HW1 := Lib.hid hw1
  cases hdo : dokB ix es with
  | false =>
    have HE := Lib.hid (show dkV ix es = [] by unfold dkV; rw [hdo]; rfl)
    rw [hdo] at HD
    clear hdo h hw1 hks
    generalize ix.length = m at *
    generalize es.length = ne at *
    go_enter Try.func42, Try.ntmps42
    go_wp2_with fail
    rw [← HW1.out]
    refine HD.out.mono ?_
    rintro e w2 ⟨rfl, hb2⟩
    have HB2 := Lib.hid (HB1.out.trans (hb2.mono HB1.out.size))
    clear hb2
    go_wp2_with fail
    go_ret
    exact ⟨_, rfl, by rw [HE.out]; exact Own.nil _ _ 9, HB2.out⟩
  | true =>
    have HE := Lib.hid (show dkV ix es = kyL es by unfold dkV; rw [hdo]; rfl)
    rw [hdo] at HD
    clear hdo h hw1 hks
    generalize ix.length = m at *
    generalize hne : es.length = ne at *
    have HNE := Lib.hid hne
    clear hne
    go_enter Try.func42, Try.ntmps42
    go_wp2_with fail
    rw [← HW1.out]
    refine HD.out.mono ?_
    rintro e w2 ⟨rfl, hb2⟩
    have HB2 := Lib.hid (HB1.out.trans (hb2.mono HB1.out.size))
    have HX2 := Lib.hid (HX1.out.below hb2 HX1.out.lt)
    have HT2 := Lib.hid (HT1.out.below hb2)
    clear hb2
    have H0 := Lib.hid (show KgI w2 (w2.alloc (Obj.cells #[] 9)) es 0 (.slice (some ⟨w2.heap.size, 0, none⟩) 0 0) from ⟨(Below.refl _ _).alloc (Nat.le_refl _) _, by rw [List.take_zero]; exact World.ownsRow_lit w2 #[] 0 (Nat.le_refl _) (by decide) rfl⟩)
    go_wp2_with fail
    go_loopw [3, 4] (fun v i wr => ∃ k : Nat, k ≤ ne ∧ i = .int .i64 k ∧ Hid (KgI w2 wr es k v)) (fun _ i _ => ne - (intOf i).toNat)
    case atStart => exact ⟨0, by omega, rfl, H0⟩
    case round =>
      obtain ⟨k, hk, rfl, HI⟩ := hrel
      have HXr := Lib.hid (HX2.out.below HI.out.1 HX2.out.lt)
      have b0 := HXr.out.cell 0
      have b1 := HXr.out.cell 1
      by_cases hltk : k < ne
      · obtain ⟨g2, e, rfl, he, hb, x0, x1, x2, x3⟩ := (HT2.out.below HI.out.1).2.2.at (show k < es.length by rw [HNE.out]; exact hltk)
        have q1 : (k : Int) < (ne : Int) := by omega
        have q0 : 0 ≤ (k : Int) := by omega
        have HGE := Lib.hid he
        have HLn := Lib.hid (kyL_len es k)
        clear x1 x2 he
        cases hlv : e.live with
        | false =>
          have HLV := Lib.hid hlv
          rw [hlv] at x3
          go_wp2_with fail
          go_roundw
          case rel => exact ⟨k + 1, by omega, by go_num, Lib.hid (HI.out.same HGE.out HLV.out (Below.refl _ _))⟩
          case measure => simp [intOf]; try omega
        | true =>
          have HLV := Lib.hid hlv
          rw [hlv] at x3
          go_wp2_with (first | (refine appS rfl (.tmp 22) (.tmp 29) 29 9 (.string ⟨#[]⟩) 16 rfl Try.underlying29 (by kernel_rfl) rfl (by decide) wr w2 (.string e.key) rfl w2.heap.size _ (tv (kyL (es.take k))) rfl rfl HI.out.2 rfl ?_ HI.out.1.size HI.out.1 ?_; (rw [tv_len]; have := HLn.out; omega); intro v4 w4 ho hb4 hg4; have HT := Lib.hid (HI.out.more HGE.out HLV.out hb4 ho); clear ho hb4 hg4))
          go_roundw
          case rel => exact ⟨k + 1, by omega, by go_num, HT⟩
          case measure => simp [intOf]; try omega
      · obtain rfl : k = ne := by omega
        clear hltk
        go_wp2_with fail
        go_ret
        refine ⟨_, rfl, ?_, HB2.out.trans (HI.out.1.mono HB2.out.size)⟩
        rw [HE.out]
        have h9 := HI.out.2
        rw [List.take_of_length_le (by rw [HNE.out]; exact Nat.le_refl _)] at h9
        exact OwT.wide h9 HB2.out.size
end Go.Proofs.Ytibglmcpbbikdaa
