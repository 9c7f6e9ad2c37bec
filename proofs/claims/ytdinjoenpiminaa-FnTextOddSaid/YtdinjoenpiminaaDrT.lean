/- A text is drawn. -/
import Derived.Test.YtdinjoenpiminaaDr2
namespace Go.Proofs.Ytdinjoenpiminaa
open Go.RowKit
def bitsL : List ByteArray := [⟨#[97]⟩, ⟨#[98]⟩, ⟨#[97, 98]⟩, ⟨#[32]⟩, ⟨#[97, 98, 97]⟩, ⟨#[10]⟩, ⟨#[39]⟩, ⟨#[92]⟩, ⟨#[0]⟩, ⟨#[255]⟩, ⟨#[195, 169]⟩, ⟨#[44]⟩]
theorem bitsL_le : ∀ d ∈ bitsL, d.size ≤ 3 := by decide
theorem as_list (d : ByteArray) : d = ⟨d.data.toList.toArray⟩ := by cases d; simp
set_option maxHeartbeats 4000000 in
set_option maxRecDepth 100000 in
theorem text_draw (w : World) (g n cap k : Nat) (a : Option Addr) (h : RI w g a n cap k) (hk : k ≤ 50000) :
    Calls Try.prog 43 #[.pointer (some ⟨g, 0, none⟩)] w (DtP w g a n cap k 12 400) := by
  have HP := Lib.hid (pick_any w g a n cap k 9 h (by omega) (by decide))
  clear h
  go_enter Try.func43, Try.ntmps43
  go_wp2_with fail
  refine HP.out.mono ?_
  rintro e w1 ⟨r, rfl, hrl, hg1, k1, hk1, hR1⟩
  have HD1 := Lib.hid (show DrP w g a n cap k 1 w1 from ⟨hg1, k1, hk1, hR1⟩)
  have hr8 : r ≤ 8 := by omega
  clear hrl hg1 hR1 HP
  go_wp2_with fail
  go_loopw [3, 4] (fun v i wr => ∃ (j : Nat) (l : List UInt8), j ≤ r ∧ i = .int .i64 (j : Int) ∧ v = .string ⟨l.toArray⟩ ∧ l.length ≤ 3 * (r - j) ∧ Hid (DrP w g a n cap k (1 + (r - j)) wr)) (fun _ i _ => (intOf i).toNat)
  case atStart => exact ⟨r, [], by omega, rfl, rfl, by simp, by simpa using HD1⟩
  case round =>
    obtain ⟨j, l, hj, rfl, rfl, hl, HI⟩ := hrel
    obtain ⟨hgI, kI, hkI, hRI⟩ := HI.out
    have HGI := Lib.hid hgI
    have HRI := Lib.hid hRI
    clear hgI hRI
    by_cases hlt : 0 < j
    · have HB2 := Lib.hid (show Below wr.heap.size wr (wr.alloc (.cells #[.int .u8 92] 5)) from (Below.refl _ _).alloc (Nat.le_refl _) _)
      have HR2 := Lib.hid (ri_below HRI.out HB2.out)
      go_wp2_with (first | (refine (puts_text 28 9 5 (.tmp 13) rfl Try.underlying28 Try.underlying5 Try.underlying9 wr.heap.size _ [92] rfl (lit8 wr 92 92 rfl)).gives.plain rfl ?_))
      refine (of_litAt (w := wr.alloc (.cells #[.int .u8 92] 5)) (b := wr.heap.size + 1) bitsL (by simp) HR2.out (by omega) (by decide) (by decide)).mono ?_
      rintro e w3 ⟨⟨d, hd, rfl⟩, hD⟩
      have HM := Lib.hid (bitsL_le d hd)
      have HD3 := Lib.hid (DrP.then (grown_trans HGI.out (grown_below HB2.out)) hkI hD)
      clear hd hD
      obtain ⟨m, rfl⟩ : ∃ m : List UInt8, d = ⟨m.toArray⟩ := ⟨_, as_list d⟩
      have HM2 := Lib.hid (show m.length ≤ 3 by have := HM.out; simpa [ByteArray.size] using this)
      go_wp2_with (first | (refine (puts_cat2 9 9 (.tmp 11) (.tmp 16) rfl l m rfl rfl (by omega) (by have := HM2.out; omega)).gives.plain rfl ?_))
      go_roundw
      case rel => exact ⟨j - 1, l ++ m, by omega, by go_num, rfl, by have := HM2.out; simp; omega, Lib.hid (HD3.out.more (by omega))⟩
      case measure => simp [intOf]; try omega
    · obtain rfl : j = 0 := by omega
      have HL := Lib.hid (show l.length ≤ 24 by omega)
      clear hlt hl
      go_wp2_with fail
      refine (pick_any _ g a n cap kI 40 HRI.out (by omega) (by decide)).mono ?_
      rintro e w3 ⟨s, rfl, hsl, hg3, hk3⟩
      have HD3 := Lib.hid ((DrP.then HGI.out hkI (pk_dr hg3 hk3)).more (show 1 + (r - 0) + 1 ≤ 12 by omega))
      clear hsl hg3 hk3
      by_cases hs0 : s = 0
      · subst hs0
        have hl24 := HL.out
        go_wp2_with fail
        go_loop [3] (fun v => ∃ m : List UInt8, v = .string ⟨m.toArray⟩ ∧ m.length ≤ 400) (fun v => 400 - (match v with | .string s => s.size | _ => 0))
        case atStart => exact ⟨l, rfl, by omega⟩
        case round =>
          obtain ⟨m, rfl, hm⟩ := hrel
          by_cases h39 : m.length < 399
          · have HS := Lib.hid (show (⟨m.toArray⟩ : ByteArray).size = m.length by simp [ByteArray.size])
            go_wp2_with (first | (refine (puts_cat2 9 9 (.tmp 24) (.const (.string ⟨#[97, 98]⟩)) rfl m [97, 98] rfl rfl (by omega) (by decide)).gives.plain rfl ?_))
            go_round
            case rel => exact ⟨m ++ [97, 98], rfl, by simp; omega⟩
            case measure => simp [ByteArray.size]; try omega
          · go_wp2_with fail
            go_ret
            exact ⟨⟨m, rfl, hm⟩, HD3.out⟩
      · have hsf : ((s : Int) == 0) = false := beq_eq_false_iff_ne.2 (by omega)
        clear hs0
        go_wp2_with fail
        go_ret
        exact ⟨⟨l, rfl, by have := HL.out; omega⟩, HD3.out⟩
end Go.Proofs.Ytdinjoenpiminaa
