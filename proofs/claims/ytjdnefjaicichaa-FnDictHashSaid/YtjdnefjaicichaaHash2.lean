/- A key is drawn; the law on DictHash. -/
import Derived.Test.YtjdnefjaicichaaDr3
import Derived.Test.YtjdnefjaicichaaHash
namespace Go.Proofs.Ytjdnefjaicichaa
open Go.RowKit
def keyL (l m : List UInt8) : List ByteArray := [⟨#[97]⟩, ⟨#[98]⟩, ⟨#[99]⟩, ⟨#[97, 97]⟩, ⟨#[97, 98]⟩, ⟨#[107, 101, 121]⟩, ⟨#[]⟩, ⟨#[122]⟩, ⟨#[113, 49]⟩, ⟨([113, 50] ++ l).toArray⟩, ⟨([97] ++ m).toArray⟩, ⟨#[97, 97, 97, 97, 97, 97, 97, 97, 97, 97, 97, 97, 97, 97, 97, 97, 97, 97, 97, 97, 97]⟩]
theorem arr_size (l : List UInt8) : (⟨l.toArray⟩ : ByteArray).size = l.length := by show l.toArray.size = _; simp
theorem keyL_le (l m : List UInt8) (hl : l.length ≤ 1002) (hm : m.length ≤ 1002) : ∀ d ∈ keyL l m, d.size ≤ 1010 := by
  intro d hd
  simp only [keyL, List.mem_cons, List.not_mem_nil, or_false] at hd
  rcases hd with rfl | rfl | rfl | rfl | rfl | rfl | rfl | rfl | rfl | rfl | rfl | rfl
  all_goals first | (rw [arr_size, List.length_append]; simp; omega) | decide
/-- Some text of at most so many bytes, and the drawer. -/
def KyP (w : World) (g : Nat) (a : Option Addr) (n cap k j b : Nat) (e : Ending) (w' : World) : Prop := (∃ s : ByteArray, e = .returned (.string s) ∧ s.size ≤ b) ∧ DrP w g a n cap k j w'
set_option maxHeartbeats 4000000 in
theorem key_draw (w : World) (g n cap k : Nat) (a : Option Addr) (h : RI w g a n cap k) (hk : k ≤ 50000) :
    Calls Try.prog 84 #[.pointer (some ⟨g, 0, none⟩)] w (KyP w g a n cap k 3 1010) := by
  have HP := Lib.hid (pick_any w g a n cap k 30 h (by omega) (by decide))
  clear h
  go_enter Try.func84, Try.ntmps84
  go_wp2_with fail
  refine HP.out.mono ?_
  rintro e w1 ⟨r, rfl, hrl, hg1, k1, hk1, hR1⟩
  have HD1 := Lib.hid (show DrP w g a n cap k 1 w1 from ⟨hg1, k1, hk1, hR1⟩)
  have hr30 : r ≤ 30 := by omega
  clear hrl hg1 hk1 hR1 HP
  go_wp2_with fail
  refine (decimal_any (r : Int) _ (by omega) (by omega)).mono ?_
  rintro e w2 ⟨l, rfl, hl, hb2⟩
  have HD2 := Lib.hid (HD1.out.below hb2)
  have HL := Lib.hid hl
  clear hl hb2
  obtain ⟨hg2, k2, hk2, hR2⟩ := HD2.out
  have HG2 := Lib.hid hg2
  have HR2 := Lib.hid hR2
  clear hg2 hR2
  go_wp2_with (first | (refine (puts_cat2 9 9 (.const (.string ⟨#[113, 50]⟩)) (.tmp 6) rfl [113, 50] l rfl rfl (by decide) (by have := HL.out; omega)).gives.plain rfl ?_))
  refine (pick_any w2 g a n cap k2 30 HR2.out (by omega) (by decide)).mono ?_
  rintro e w3 ⟨r2, rfl, hrl, hg3, hk3⟩
  have HD3 := Lib.hid (DrP.then HG2.out hk2 (pk_dr hg3 hk3))
  have hr30' : r2 ≤ 30 := by omega
  clear hrl hg3 hk3
  go_wp2_with fail
  refine (decimal_any (r2 : Int) _ (by omega) (by omega)).mono ?_
  rintro e w4 ⟨m, rfl, hm, hb4⟩
  have HD4 := Lib.hid (HD3.out.below hb4)
  have HM := Lib.hid hm
  clear hm hb4
  obtain ⟨hg4, k4, hk4, hR4⟩ := HD4.out
  have HG4 := Lib.hid hg4
  have HR4 := Lib.hid hR4
  clear hg4 hR4
  go_wp2_with (first | (refine (puts_cat2 9 9 (.const (.string ⟨#[97]⟩)) (.tmp 10) rfl [97] m rfl rfl (by decide) (by have := HM.out; omega)).gives.plain rfl ?_))
  refine (of_lit (keyL l m) HR4.out (by omega) (by simp [keyL]) (by simp [keyL])).mono ?_
  rintro e w5 ⟨⟨d, hd, rfl⟩, hD⟩
  have HS := Lib.hid (keyL_le l m HL.out HM.out d hd)
  have HD5 := Lib.hid ((DrP.then HG4.out hk4 hD).more (show 1 + 1 + 1 ≤ 3 by omega))
  clear hd hD
  go_wp2_with fail
  go_ret
  exact ⟨⟨d, rfl, HS.out⟩, HD5.out⟩
theorem below_row {w w1 w2 : World} {g : Nat} (h : Below w.heap.size w w1) (hg : w1.grownBy w2 (some g)) (hge : w.heap.size ≤ g) : Below w.heap.size w w2 :=
  h.grown hg h.size fun k hk => by injection hk with hk; omega
/-- Some key. -/
def TkP (w : World) (e : Ending) (w' : World) : Prop := ∃ s : ByteArray, e = .returned (.string s) ∧ s.size ≤ 1010 ∧ Below w.heap.size w w'
set_option maxHeartbeats 1000000 in
theorem dDictHash (w : World) (a : Option Addr) (n cap : Nat) (h : Cr w a n cap) : Calls Try.prog 46 #[.slice a n cap] w (TkP w) := by
  have HN := Lib.hid (newRnd_any w a n cap h)
  clear h
  go_enter Try.func46, Try.ntmps46
  go_wp2_with fail
  refine HN.out.mono ?_
  rintro e w1 ⟨rfl, hb1, m, hr1⟩
  have HB1 := Lib.hid hb1
  have HR1 := Lib.hid hr1
  clear hb1 hr1
  go_wp2_with fail
  refine (key_draw w1 w.heap.size m cap 0 a HR1.out (by decide)).mono ?_
  rintro e w2 ⟨⟨s, rfl, hs⟩, hg2, k2, hk2, hr2⟩
  have HB2 := Lib.hid (below_row HB1.out hg2 (Nat.le_refl _))
  have HS := Lib.hid hs
  clear hs hg2 hr2
  go_wp2_with fail
  go_ret
  exact ⟨s, rfl, HS.out, HB2.out⟩
theorem hash_more (s : ByteArray) : hashV (s ++ ⟨#[97]⟩) = -1 ∨ (s.size ≤ 20 ∧ hashV (s ++ ⟨#[97]⟩) = (hashV s * 31 + 97) % 65536) := by
  by_cases h : (s ++ ⟨#[97]⟩ : ByteArray).size ≤ 20
  · right
    have h1 : (s ++ ⟨#[97]⟩ : ByteArray).size = s.size + 1 := by simp; rfl
    refine ⟨by omega, ?_⟩
    have e : (s ++ ⟨#[97]⟩ : ByteArray).data.toList = s.data.toList ++ [97] := by simp
    unfold hashV
    rw [if_pos h, if_pos (by omega), e, hsh_snoc]
    rfl
  · left
    unfold hashV
    rw [if_neg h]
set_option maxHeartbeats 4000000 in
theorem fnDictHash_walk (a : Option Addr) (n cap : Nat) (zs : List Int) (w : World) (h : (a = none ∧ n = 0 ∧ cap = 0 ∧ zs = []) ∨ ∃ x, a = some x ∧ n ≤ cap ∧ cap ≤ maxLen ∧ zs.length = cap ∧ (∀ i, i < zs.length → w.cell? (x.add i) = some (.int .u8 (zs.getD i 0))) ∧ ∀ n ∈ zs, (Lit.int .u8 n).wf = true) :
    Calls Try.prog 13 #[.slice a n cap] w fun e w' => e = .returned (.bool true) ∧ Below w.heap.size w w' := by
  have HC := Lib.hid (dDictHash w a n cap (cr_of h))
  have hcap : n ≤ 9223372036854775807 := by
    rcases h with ⟨_, rfl, _⟩ | ⟨x, _, h1, h2, _⟩
    · omega
    · unfold maxLen at h2; omega
  clear h
  by_cases h0 : n ≤ 1048576
  · go_enter Try.func13, Try.ntmps13
    go_wp2_with fail
    refine HC.out.mono ?_
    rintro e w2 ⟨s, rfl, hs, hb2⟩
    have HB2 := Lib.hid hb2
    clear hb2
    have H1 := Lib.hid (fun w => implHash_any s w (by omega))
    have H2 := Lib.hid (fun w => specHash_any s w (by omega))
    have hz := hashV_le s
    have hsz : (s ++ ⟨#[97]⟩ : ByteArray).size = s.size + 1 := by simp; rfl
    have H3 := Lib.hid (fun w => implHash_any (s ++ ⟨#[97]⟩) w (by omega))
    have hm := hash_more s
    have hy := hashV_le (s ++ ⟨#[97]⟩)
    generalize hashV s = z at *
    generalize hashV (s ++ ⟨#[97]⟩) = y at *
    clear hsz
    by_cases hneg : z < 0
    · clear hm
      go_wp2_with fail
      refine (H1.out _).mono ?_
      rintro e w' ⟨rfl, rfl⟩
      go_wp2_with fail
      refine (H2.out _).mono ?_
      rintro e w' ⟨rfl, rfl⟩
      go_wp2_with fail
      go_ret
      exact ⟨rfl, HB2.out⟩
    · have hpos : 0 ≤ z := by omega
      have hz6 : z < 65536 := by omega
      clear hneg
      rcases hm with rfl | ⟨_, hm⟩
      · go_wp2_with fail
        refine (H1.out _).mono ?_
        rintro e w' ⟨rfl, rfl⟩
        go_wp2_with fail
        refine (H2.out _).mono ?_
        rintro e w' ⟨rfl, rfl⟩
        go_wp2_with (first | (refine (puts_cat 9 9 (.tmp 27) (.const (.string ⟨#[97]⟩)) rfl s ⟨#[97]⟩ rfl rfl (by simp; omega)).gives.plain rfl ?_))
        refine (H3.out _).mono ?_
        rintro e w' ⟨rfl, rfl⟩
        go_wp2_with fail
        go_ret
        exact ⟨rfl, HB2.out⟩
      · have hy0 : 0 ≤ y := by rw [hm]; exact Int.emod_nonneg _ (by decide)
        have hye : (y == (z * 31 + 97) % 65536) = true := by rw [hm]; simp
        clear hm
        go_wp2_with fail
        refine (H1.out _).mono ?_
        rintro e w' ⟨rfl, rfl⟩
        go_wp2_with fail
        refine (H2.out _).mono ?_
        rintro e w' ⟨rfl, rfl⟩
        go_wp2_with (first | (refine (puts_cat 9 9 (.tmp 27) (.const (.string ⟨#[97]⟩)) rfl s ⟨#[97]⟩ rfl rfl (by simp; omega)).gives.plain rfl ?_))
        refine (H3.out _).mono ?_
        rintro e w' ⟨rfl, rfl⟩
        go_wp2_with fail
        go_ret
        exact ⟨rfl, HB2.out⟩
  · go_enter Try.func13, Try.ntmps13
    go_wp2_with fail
    go_ret
    exact ⟨rfl, Below.refl _ _⟩
end Go.Proofs.Ytjdnefjaicichaa
