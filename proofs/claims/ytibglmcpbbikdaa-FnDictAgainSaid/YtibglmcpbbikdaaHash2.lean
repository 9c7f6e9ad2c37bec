/- A key is drawn; the law on DictHash. -/
import Derived.Test.YtibglmcpbbikdaaDr3
import Derived.Test.YtibglmcpbbikdaaHash
namespace Go.Proofs.Ytibglmcpbbikdaa
open Go.RowKit
def keyL (l m : List UInt8) : List ByteArray := [⟨#[97]⟩, ⟨#[98]⟩, ⟨#[99]⟩, ⟨#[97, 97]⟩, ⟨#[97, 98]⟩, ⟨#[107, 101, 121]⟩, ⟨#[]⟩, ⟨#[122]⟩, ⟨#[113, 49]⟩, ⟨([113, 50] ++ l).toArray⟩, ⟨([97] ++ m).toArray⟩, ⟨#[97, 97, 97, 97, 97, 97, 97, 97, 97, 97, 97, 97, 97, 97, 97, 97, 97, 97, 97, 97, 97]⟩]
theorem arr_size (l : List UInt8) : (⟨l.toArray⟩ : ByteArray).size = l.length := by show l.toArray.size = _; simp
theorem keyL_le (l m : List UInt8) (hl : l.length ≤ 1002) (hm : m.length ≤ 1002) : ∀ d ∈ keyL l m, d.size ≤ 1010 := by
  intro d hd
  simp only [keyL, List.mem_cons, List.not_mem_nil, or_false] at hd
  rcases hd with rfl | rfl | rfl | rfl | rfl | rfl | rfl | rfl | rfl | rfl | rfl | rfl
  all_goals first | (rw [arr_size, List.length_append]; simp; omega) | decide
/-- Some text of at most so many bytes, and the drawer. -/
def KyP (w : World) (g : Nat) (a : Option Addr) (n cap k j b : Nat) (e : Ending) (w' : World) : Prop := (∃ s : ByteArray, e = .returned (.string s) ∧ s.size ≤ b) ∧ DrP w g a n cap k j w'
set_option maxHeartbeats 4000000 in
theorem key_draw (w : World) (g n cap k : Nat) (a : Option Addr) (h : RI w g a n cap k) (hk : k ≤ 50000) :
    Calls Try.prog 59 #[.pointer (some ⟨g, 0, none⟩)] w (KyP w g a n cap k 3 1010) := by
  have HP := Lib.hid (pick_any w g a n cap k 30 h (by omega) (by decide))
  clear h
  go_enter Try.func59, Try.ntmps59
  go_wp2_with fail
  refine HP.out.mono ?_
  rintro e w1 ⟨r, rfl, hrl, hg1, k1, hk1, hR1⟩
  have HD1 := Lib.hid (show DrP w g a n cap k 1 w1 from ⟨hg1, k1, hk1, hR1⟩)
  have hr30 : r ≤ 30 := by omega
  clear hrl hg1 hk1 hR1 HP
  go_wp2_with fail
  refine (decimal_any (r : Int) _ (by omega) (by omega)).mono ?_
  rintro e w2 ⟨l, rfl, hl, hb2⟩
  have HD2 := Lib.hid (HD1.out.below hb2)
  have HL := Lib.hid hl
  clear hl hb2
  obtain ⟨hg2, k2, hk2, hR2⟩ := HD2.out
  have HG2 := Lib.hid hg2
  have HR2 := Lib.hid hR2
  clear hg2 hR2
  go_wp2_with (first | (refine (puts_cat2 9 9 (.const (.string ⟨#[113, 50]⟩)) (.tmp 6) rfl [113, 50] l rfl rfl (by decide) (by have := HL.out; omega)).gives.plain rfl ?_))
  refine (pick_any w2 g a n cap k2 30 HR2.out (by omega) (by decide)).mono ?_
  rintro e w3 ⟨r2, rfl, hrl, hg3, hk3⟩
  have HD3 := Lib.hid (DrP.then HG2.out hk2 (pk_dr hg3 hk3))
  have hr30' : r2 ≤ 30 := by omega
  clear hrl hg3 hk3
  go_wp2_with fail
  refine (decimal_any (r2 : Int) _ (by omega) (by omega)).mono ?_
  rintro e w4 ⟨m, rfl, hm, hb4⟩
  have HD4 := Lib.hid (HD3.out.below hb4)
  have HM := Lib.hid hm
  clear hm hb4
  obtain ⟨hg4, k4, hk4, hR4⟩ := HD4.out
  have HG4 := Lib.hid hg4
  have HR4 := Lib.hid hR4
  clear hg4 hR4
  go_wp2_with (first | (refine (puts_cat2 9 9 (.const (.string ⟨#[97]⟩)) (.tmp 10) rfl [97] m rfl rfl (by decide) (by have := HM.out; omega)).gives.plain rfl ?_))
  refine (of_lit (keyL l m) HR4.out (by omega) (by simp [keyL]) (by simp [keyL])).mono ?_
  rintro e w5 ⟨⟨d, hd, rfl⟩, hD⟩
  have HS := Lib.hid (keyL_le l m HL.out HM.out d hd)
  have HD5 := Lib.hid ((DrP.then HG4.out hk4 hD).more (show 1 + 1 + 1 ≤ 3 by omega))
  clear hd hD
  go_wp2_with fail
  go_ret
  exact ⟨⟨d, rfl, HS.out⟩, HD5.out⟩
theorem below_row {w w1 w2 : World} {g : Nat} (h : Below w.heap.size w w1) (hg : w1.grownBy w2 (some g)) (hge : w.heap.size ≤ g) : Below w.heap.size w w2 :=
  h.grown hg h.size fun k hk => by injection hk with hk; omega
/-- Some key. -/
def TkP (w : World) (e : Ending) (w' : World) : Prop := ∃ s : ByteArray, e = .returned (.string s) ∧ s.size ≤ 1010 ∧ Below w.heap.size w w'
theorem hash_more (s : ByteArray) : hashV (s ++ ⟨#[97]⟩) = -1 ∨ (s.size ≤ 20 ∧ hashV (s ++ ⟨#[97]⟩) = (hashV s * 31 + 97) % 65536) := by
  by_cases h : (s ++ ⟨#[97]⟩ : ByteArray).size ≤ 20
  · right
    have h1 : (s ++ ⟨#[97]⟩ : ByteArray).size = s.size + 1 := by simp; rfl
    refine ⟨by omega, ?_⟩
    have e : (s ++ ⟨#[97]⟩ : ByteArray).data.toList = s.data.toList ++ [97] := by simp
    unfold hashV
    rw [if_pos h, if_pos (by omega), e, hsh_snoc]
    rfl
  · left
    unfold hashV
    rw [if_neg h]
end Go.Proofs.Ytibglmcpbbikdaa
