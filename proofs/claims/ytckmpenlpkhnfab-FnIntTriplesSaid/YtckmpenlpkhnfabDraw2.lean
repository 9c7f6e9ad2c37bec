/- One of some numbers, one of some texts; a number in decimal. -/
import Derived.Test.YtckmpenlpkhnfabDraw
namespace Go.Proofs.Ytckmpenlpkhnfab
open Go.RowKit
theorem pick_any (w : World) (g : Nat) (a : Option Addr) (n cap k : Nat) (m : Int) (h : RI w g a n cap k) (hk : k ≤ 100000) (hm2 : m ≤ 100000) : Calls Try.prog 41 #[.pointer (some ⟨g, 0, none⟩), .int .i64 m] w (PkP w g a n cap k m) := by
  by_cases hm : m < 2
  · refine (pick_low w g a n cap k m hm).mono ?_
    rintro e w' ⟨rfl, rfl⟩
    exact ⟨0, rfl, Or.inr rfl, World.grownBy.refl _ _, k, by omega, h⟩
  · by_cases hn : n = 0
    · subst hn
      exact pick_none w g a cap k m h hk (by omega)
    · rcases h.2.2.2 with h0 | ⟨x, rfl, _⟩
      · exact absurd h0 hn
      · exact pick_some w g x n cap k m h (by omega) hk (by omega) hm2
/-- What a drawer hands back in a world where it alone was written. -/
def DrP (w : World) (g : Nat) (a : Option Addr) (n cap k j : Nat) (w' : World) : Prop := w.grownBy w' (some g) ∧ ∃ k', k' ≤ k + j ∧ RI w' g a n cap k'
set_option maxHeartbeats 1000000 in
theorem one_any (w : World) (g : Nat) (a : Option Addr) (n cap k : Nat) (l : List Nat) (b lc : Nat) (h : RI w g a n cap k) (hk : k ≤ 100000) (hl : 0 < l.length) (hl2 : l.length ≤ 1000) (hbg : b ≠ g) (hr : ∀ j d : Nat, l[j]? = some d → w.cell? ⟨b, j, none⟩ = some (.int .i64 (d : Int))) :
    Calls Try.prog 55 #[.pointer (some ⟨g, 0, none⟩), .slice (some ⟨b, 0, none⟩) l.length lc] w fun e w' => (∃ d, d ∈ l ∧ e = .returned (.int .i64 (d : Int))) ∧ DrP w g a n cap k 1 w' := by
  have HP := Lib.hid (pick_any w g a n cap k (l.length : Int) h hk (by omega))
  have HR := Lib.hid hr
  clear hr h
  go_enter Try.func55, Try.ntmps55
  go_wp2_with fail
  refine HP.out.mono ?_
  rintro e w2 ⟨r, rfl, hrl, hgr, hk'⟩
  have hrl2 : r < l.length := by omega
  obtain ⟨d, hd⟩ : ∃ d, l[r]? = some d := ⟨l[r], List.getElem?_eq_getElem hrl2⟩
  have c1 : w2.cell? ⟨b, r, none⟩ = some (.int .i64 (d : Int)) := hgr.cell (HR.out r d hd) (fun e => hbg (by simpa using e))
  have HM := Lib.hid (List.mem_of_getElem? hd)
  have HD := Lib.hid (show DrP w g a n cap k 1 w2 from ⟨hgr, hk'⟩)
  clear hd hgr hk' hrl
  go_wp2_with fail
  go_ret
  exact ⟨⟨d, HM.out, rfl⟩, HD.out⟩
set_option maxHeartbeats 1000000 in
theorem of_any (w : World) (g : Nat) (a : Option Addr) (n cap k : Nat) (l : List ByteArray) (b lc : Nat) (h : RI w g a n cap k) (hk : k ≤ 100000) (hl : 0 < l.length) (hl2 : l.length ≤ 1000) (hbg : b ≠ g) (hr : ∀ (j : Nat) (d : ByteArray), l[j]? = some d → w.cell? ⟨b, j, none⟩ = some (.string d)) :
    Calls Try.prog 52 #[.pointer (some ⟨g, 0, none⟩), .slice (some ⟨b, 0, none⟩) l.length lc] w fun e w' => (∃ d, d ∈ l ∧ e = .returned (.string d)) ∧ DrP w g a n cap k 1 w' := by
  have HP := Lib.hid (pick_any w g a n cap k (l.length : Int) h hk (by omega))
  have HR := Lib.hid hr
  clear hr h
  go_enter Try.func52, Try.ntmps52
  go_wp2_with fail
  refine HP.out.mono ?_
  rintro e w2 ⟨r, rfl, hrl, hgr, hk'⟩
  have hrl2 : r < l.length := by omega
  obtain ⟨d, hd⟩ : ∃ d, l[r]? = some d := ⟨l[r], List.getElem?_eq_getElem hrl2⟩
  have c1 : w2.cell? ⟨b, r, none⟩ = some (.string d) := hgr.cell (HR.out r d hd) (fun e => hbg (by simpa using e))
  have HM := Lib.hid (List.mem_of_getElem? hd)
  have HD := Lib.hid (show DrP w g a n cap k 1 w2 from ⟨hgr, hk'⟩)
  clear hd hgr hk' hrl
  go_wp2_with fail
  go_ret
  exact ⟨⟨d, HM.out, rfl⟩, HD.out⟩
/-- Some text of at most so many bytes. -/
def TxP (w : World) (b : Nat) (e : Ending) (w' : World) : Prop := ∃ l : List UInt8, e = .returned (.string ⟨l.toArray⟩) ∧ l.length ≤ b ∧ Below w.heap.size w w'
set_option maxHeartbeats 1000000 in
theorem positive_up (y : Nat) (w : World) (hy : y ≤ 1000) : Calls Try.prog 79 #[.int .i64 (y : Int)] w (TxP w 1001) := by
  go_enter Try.func79, Try.ntmps79
  go_wp2
  go_loopw [0, 3] (fun z v wr => ∃ (x : Nat) (l : List UInt8), z = .int .i64 (x : Int) ∧ v = .string ⟨l.toArray⟩ ∧ l.length + x ≤ 1000 ∧ Hid (Below w.heap.size w wr)) (fun z _ _ => (intOf z).toNat)
  case atStart => exact ⟨y, [], rfl, rfl, by simpa using hy, Lib.hid (Below.refl _ _)⟩
  case round =>
    obtain ⟨x, l, rfl, rfl, hl, HI⟩ := hrel
    have HD := Lib.hid (show (48 : Int) + (x : Int) % 10 = ((dch (x % 10)).toNat : Int) by rw [dch_toNat (Nat.mod_lt _ (by decide))]; omega)
    have HI2 := Lib.hid (HI.out.alloc HI.out.size (.cells #[.int .u8 (48 + (x : Int) % 10)] 5))
    have HL := Lib.hid (show l.length ≤ 1000 by omega)
    by_cases h0 : x / 10 = 0
    · have hz : ((x : Int) / 10 == 0) = true := beq_iff_eq.2 (by omega)
      clear h0
      go_wp2_with (first | (refine (puts_text 22 9 5 (.tmp 14) rfl Try.underlying22 Try.underlying5 Try.underlying9 wr.heap.size _ [dch (x % 10)] rfl (lit8 wr _ _ HD.out)).gives.plain rfl ?_) | (refine (puts_cons 9 9 (.tmp 15) (.tmp 16) rfl (dch (x % 10)) l rfl rfl HL.out).gives.plain rfl ?_))
      go_ret
      exact ⟨_, rfl, by have := HL.out; simp; omega, HI2.out⟩
    · have hz : ((x : Int) / 10 == 0) = false := beq_eq_false_iff_ne.2 (by omega)
      go_wp2_with (first | (refine (puts_text 22 9 5 (.tmp 14) rfl Try.underlying22 Try.underlying5 Try.underlying9 wr.heap.size _ [dch (x % 10)] rfl (lit8 wr _ _ HD.out)).gives.plain rfl ?_) | (refine (puts_cons 9 9 (.tmp 15) (.tmp 16) rfl (dch (x % 10)) l rfl rfl HL.out).gives.plain rfl ?_))
      go_roundw
      case rel => exact ⟨x / 10, dch (x % 10) :: l, by go_num, rfl, by simp; omega, HI2⟩
      case measure => simp [intOf]; try omega
end Go.Proofs.Ytckmpenlpkhnfab
