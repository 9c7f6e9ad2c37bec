/- A text and a part are drawn; the law on TextFind. -/
import Derived.Test.YtfmpplolhhjpoaaLwT
import Derived.Test.YtfmpplolhhjpoaaFnd2
namespace Go.Proofs.Ytfmpplolhhjpoaa
open Go.RowKit
def fdL (m : List UInt8) : List ByteArray := [⟨#[97]⟩, ⟨#[98]⟩, ⟨#[97, 98]⟩, ⟨#[98, 97]⟩, ⟨#[]⟩, ⟨#[32]⟩, ⟨m.toArray⟩]
theorem fdL_le (m : List UInt8) (hm : m.length ≤ 400) : ∀ d ∈ fdL m, d.size ≤ 400 := by
  intro d hd
  simp only [fdL, List.mem_cons, List.not_mem_nil, or_false] at hd
  rcases hd with rfl | rfl | rfl | rfl | rfl | rfl | rfl
  all_goals first | decide | (show m.toArray.size ≤ 400; rw [List.size_toArray]; exact hm)
/-- A text and a part. -/
def TpP (w : World) (e : Ending) (w' : World) : Prop := ∃ s p : ByteArray, e = .returned (.tuple #[.string s, .string p]) ∧ s.size ≤ 400 ∧ p.size ≤ 400 ∧ Below w.heap.size w w'
set_option maxHeartbeats 2000000 in
theorem dTextFind (w : World) (a : Option Addr) (n cap : Nat) (h : Cr w a n cap) : Calls Try.prog 42 #[.slice a n cap] w (TpP w) := by
  have HN := Lib.hid (newRnd_any w a n cap h)
  clear h
  go_enter Try.func42, Try.ntmps42
  go_wp2_with fail
  refine HN.out.mono ?_
  rintro e w1 ⟨rfl, hb1, m, hr1⟩
  have HB1 := Lib.hid hb1
  have HR1 := Lib.hid hr1
  clear hb1 hr1
  go_wp2_with fail
  refine (text_draw w1 w.heap.size m cap 0 a HR1.out (by decide)).mono ?_
  rintro e w2 ⟨⟨l, rfl, hl⟩, hg2, k2, hk2, hr2⟩
  have HB2 := Lib.hid (below_row HB1.out hg2 (Nat.le_refl _))
  have HR2 := Lib.hid hr2
  have HL := Lib.hid hl
  clear hl hg2 hr2
  go_wp2_with fail
  refine (text_draw w2 w.heap.size m cap k2 a HR2.out (by omega)).mono ?_
  rintro e w3 ⟨⟨l2, rfl, hl2⟩, hg3, k3, hk3, hr3⟩
  have HB3 := Lib.hid (below_row HB2.out hg3 (Nat.le_refl _))
  have HR3 := Lib.hid hr3
  have HL2 := Lib.hid hl2
  clear hl2 hg3 hr3
  go_wp2_with fail
  refine (of_lit (fdL l2) HR3.out (by omega) (by simp [fdL]) (by simp [fdL])).mono ?_
  rintro e w4 ⟨⟨d, hd, rfl⟩, hg4, k4, hk4, hr4⟩
  have HS := Lib.hid (fdL_le l2 HL2.out d hd)
  have HB4 := Lib.hid (below_row HB3.out hg4 (Nat.le_refl _))
  clear hd hg4 hr4
  go_wp2_with fail
  go_ret2
  exact ⟨⟨l.toArray⟩, d, rfl, by have := HL.out; show l.toArray.size ≤ 400; simpa using this, HS.out, HB4.out⟩
/-- A part that first occurs behind the beginning doesn't occur in what ends ahead of its end. -/
theorem first_only (s p : ByteArray) (j : Nat) (h0 : 0 < j) (hr : j + p.size ≤ s.size) (hn : Lib.NoOcc s.data.toList p.data.toList j) : fV (s.extract 0 (j + p.size - 1)) p = -1 := by
  have hsl : s.data.toList.length = s.size := rfl
  have hpl : p.data.toList.length = p.size := rfl
  have e : (s.extract 0 (j + p.size - 1)).data.toList = s.data.toList.take (j + p.size - 1) := by
    rw [ByteArray.data_extract, Array.toList_extract]
    simp [List.extract]
  have hi : Lib.index (s.extract 0 (j + p.size - 1)).data.toList p.data.toList = -1 := by
    rw [e]
    refine Lib.index_none fun m hm => ?_
    cases ho : Lib.occAt (s.data.toList.take (j + p.size - 1)) p.data.toList m with
    | false => rfl
    | true =>
      exfalso
      rw [List.length_take] at hm
      unfold Lib.occAt at ho
      rw [List.isPrefixOf_iff_prefix] at ho
      have hlen := ho.length_le
      rw [List.length_drop, List.length_take, hpl] at hlen
      have hp0 : p.size = 0 ∨ 0 < p.size := by omega
      have hmj : m < j := by omega
      have h1 := hn m hmj
      unfold Lib.occAt at h1
      rw [List.drop_take] at ho
      have h2 : p.data.toList <+: s.data.toList.drop m := ho.trans (List.take_prefix _ _)
      rw [← List.isPrefixOf_iff_prefix] at h2
      rw [h2] at h1
      cases h1
  unfold fV
  split
  · exact hi
  · rfl
/-- What was found is there first. -/
theorem found_facts (s p : ByteArray) (hs : s.size ≤ 400) (hp : p.size ≤ 400) (h : 0 ≤ fV s p) : ∃ j : Nat, fV s p = (j : Int) ∧ j + p.size ≤ s.size ∧ ((s.extract j (j + p.size)).toList == p.toList) = true ∧ (0 < j → fV (s.extract 0 (j + p.size - 1)) p = -1) := by
  have hok : (okT s && okT p) = true := by rw [okT_le hs, okT_le hp]; rfl
  have e : fV s p = Lib.index s.data.toList p.data.toList := by unfold fV; rw [if_pos hok]
  rw [e] at h
  have hroom := Lib.index_room s.data.toList p.data.toList h
  have hsl : s.data.toList.length = s.size := rfl
  have hpl : p.data.toList.length = p.size := rfl
  rcases Lib.index_spec s.data.toList p.data.toList with ⟨h1, _⟩ | ⟨j, h1, h2, h3, h4⟩
  · omega
  · refine ⟨j, by rw [e, h1], by omega, ?_, fun h0 => first_only s p j h0 (by omega) h4⟩
    rw [occ_take s p j (by omega)]
    exact h3
set_option maxHeartbeats 4000000 in
theorem fnTextFind_walk (a : Option Addr) (n cap : Nat) (zs : List Int) (w : World) (h : (a = none ∧ n = 0 ∧ cap = 0 ∧ zs = []) ∨ ∃ x, a = some x ∧ n ≤ cap ∧ cap ≤ maxLen ∧ zs.length = cap ∧ (∀ i, i < zs.length → w.cell? (x.add i) = some (.int .u8 (zs.getD i 0))) ∧ ∀ n ∈ zs, (Lit.int .u8 n).wf = true) (hm : MxL w) :
    Calls Try.prog 12 #[.slice a n cap] w fun e w' => e = .returned (.bool true) ∧ Below w.heap.size w w' := by
  have HC := Lib.hid (dTextFind w a n cap (cr_of h))
  have hcap : n ≤ 9223372036854775807 := by
    rcases h with ⟨_, rfl, _⟩ | ⟨x, _, h1, h2, _⟩
    · omega
    · unfold maxLen at h2; omega
  have HM := Lib.hid hm
  clear h hm
  by_cases h0 : n ≤ 1048576
  · go_enter Try.func12, Try.ntmps12
    go_wp2_with fail
    refine HC.out.mono ?_
    rintro e w2 ⟨s, p, rfl, hs, hp, hb2⟩
    have HBw2 := Lib.hid hb2
    have HM2 := Lib.hid (HM.out.below hb2)
    clear hb2
    have hs2 : s.size ≤ 1048576 := by omega
    have H1 := Lib.hid (implFind_any s p w2 HM2.out hs2)
    have H2 := Lib.hid (fun w => specFind_any s p w hs2 (by omega))
    have hz := fV_in s p
    by_cases hneg : fV s p < 0
    · generalize fV s p = z at *
      go_wp2_with (first | (refine ext rfl (.tmp 11) 0 [.string s, .string p] (.string s) rfl rfl rfl ?_) | (refine ext rfl (.tmp 11) 1 [.string s, .string p] (.string p) rfl rfl rfl ?_))
      refine H1.out.mono ?_
      rintro e w3 ⟨rfl, hb⟩
      have HBw3 := Lib.hid (HBw2.out.trans (hb.mono HBw2.out.size))
      clear hb
      go_wp2_with fail
      refine (H2.out _).mono ?_
      rintro e w' ⟨rfl, rfl⟩
      go_wp2_with fail
      go_ret
      exact ⟨rfl, HBw3.out⟩
    · obtain ⟨j, hj, hroom, heq, hfst⟩ := found_facts s p hs hp (by omega)
      rw [hj] at H1 H2
      have r1 : (j : Int) + (p.size : Int) ≤ (s.size : Int) := by omega
      have HF := Lib.hid hfst
      have HJ := Lib.hid hroom
      clear hj hz hneg hfst hroom
      by_cases h00 : j = 0
      · subst h00
        have heq0 : ((s.extract 0 p.size).toList == p.toList) = true := by have h5 := heq; rwa [Nat.zero_add] at h5
        clear heq
        go_wp2_with (first | (refine ext rfl (.tmp 11) 0 [.string s, .string p] (.string s) rfl rfl rfl ?_) | (refine ext rfl (.tmp 11) 1 [.string s, .string p] (.string p) rfl rfl rfl ?_))
        refine H1.out.mono ?_
        rintro e w3 ⟨rfl, hb⟩
        have HBw3 := Lib.hid (HBw2.out.trans (hb.mono HBw2.out.size))
        clear hb
        go_wp2_with fail
        refine (H2.out _).mono ?_
        rintro e w' ⟨rfl, rfl⟩
        go_wp2_with fail
        go_ret
        exact ⟨rfl, HBw3.out⟩
      · have j0 : ((j : Int) == 0) = false := beq_eq_false_iff_ne.2 (by omega)
        have r0 : 0 ≤ (j : Int) + (p.size : Int) - 1 := by omega
        have r2 : (j : Int) + (p.size : Int) - 1 ≤ (s.size : Int) := by omega
        have hj1 : 0 < j := by omega
        have hue : (s.extract 0 (j + p.size - 1)).size ≤ 1048576 := by simp; omega
        have H3 := Lib.hid (fun w hm => implFind_any (s.extract 0 (j + p.size - 1)) p w hm hue)
        rw [HF.out hj1] at H3
        clear h00 hue
        go_wp2_with (first | (refine ext rfl (.tmp 11) 0 [.string s, .string p] (.string s) rfl rfl rfl ?_) | (refine ext rfl (.tmp 11) 1 [.string s, .string p] (.string p) rfl rfl rfl ?_))
        refine H1.out.mono ?_
        rintro e w3 ⟨rfl, hb⟩
        have HBw3 := Lib.hid (HBw2.out.trans (hb.mono HBw2.out.size))
        have HM3 := Lib.hid (HM2.out.below hb)
        clear hb
        go_wp2_with fail
        refine (H2.out _).mono ?_
        rintro e w' ⟨rfl, rfl⟩
        go_wp2_with fail
        refine (H3.out _ HM3.out).mono ?_
        rintro e w4 ⟨rfl, hb⟩
        have HBw4 := Lib.hid (HBw3.out.trans (hb.mono HBw3.out.size))
        clear hb
        go_wp2_with fail
        go_ret
        exact ⟨rfl, HBw4.out⟩
  · go_enter Try.func12, Try.ntmps12
    go_wp2_with fail
    go_ret
    exact ⟨rfl, Below.refl _ _⟩
end Go.Proofs.Ytfmpplolhhjpoaa
