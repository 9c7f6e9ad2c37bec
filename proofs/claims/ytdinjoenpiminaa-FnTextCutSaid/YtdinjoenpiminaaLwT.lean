/- A text and a number are drawn; the laws on TextAt and TextMany. -/
import Derived.Test.YtdinjoenpiminaaDrT
import Derived.Test.YtdinjoenpiminaaMany
namespace Go.Proofs.Ytdinjoenpiminaa
open Go.RowKit
theorem below_row {w w1 w2 : World} {g : Nat} (h : Below w.heap.size w w1) (hg : w1.grownBy w2 (some g)) (hge : w.heap.size ≤ g) : Below w.heap.size w w2 :=
  h.grown hg h.size fun k hk => by injection hk with hk; omega
/-- A text and a number. -/
def TnP (w : World) (e : Ending) (w' : World) : Prop := ∃ (s : ByteArray) (z : Int), e = .returned (.tuple #[.string s, .int .i64 z]) ∧ s.size ≤ 400 ∧ -9223372036854775808 ≤ z ∧ z ≤ 9223372036854775807 ∧ Below w.heap.size w w'
theorem okT_le {s : ByteArray} (h : s.size ≤ 400) : okT s = true := by unfold okT; simpa using h
set_option maxHeartbeats 1000000 in
theorem dTextAt (w : World) (a : Option Addr) (n cap : Nat) (h : Cr w a n cap) : Calls Try.prog 20 #[.slice a n cap] w (TnP w) := by
  have HN := Lib.hid (newRnd_any w a n cap h)
  clear h
  go_enter Try.func20, Try.ntmps20
  go_wp2_with fail
  refine HN.out.mono ?_
  rintro e w1 ⟨rfl, hb1, m, hr1⟩
  have HB1 := Lib.hid hb1
  have HR1 := Lib.hid hr1
  clear hb1 hr1
  go_wp2_with fail
  refine (text_draw w1 w.heap.size m cap 0 a HR1.out (by decide)).mono ?_
  rintro e w2 ⟨⟨l, rfl, hl⟩, hg2, k2, hk2, hr2⟩
  have HB2 := Lib.hid (below_row HB1.out hg2 (Nat.le_refl _))
  have HR2 := Lib.hid hr2
  have HL := Lib.hid hl
  clear hl hg2 hr2
  go_wp2_with fail
  refine (pick_any w2 w.heap.size a m cap k2 20 HR2.out (by omega) (by decide)).mono ?_
  rintro e w3 ⟨s, rfl, hsl, hg3, k3, hk3, hr3⟩
  have HB3 := Lib.hid (below_row HB2.out hg3 (Nat.le_refl _))
  have HR3 := Lib.hid hr3
  have hs : s ≤ 20 := by omega
  clear hg3 hr3 hsl
  go_wp2_with fail
  refine (often_draw w3 w.heap.size m cap k3 a ((s : Int) - 10) HR3.out (by omega) (by omega) (by omega)).mono ?_
  rintro e w4 ⟨⟨z, rfl, hz⟩, hg4, k4, hk4, hr4⟩
  have HB4 := Lib.hid (below_row HB3.out hg4 (Nat.le_refl _))
  have HZ := Lib.hid hz
  clear hg4 hr4 hz
  go_wp2_with fail
  go_ret2
  exact ⟨⟨l.toArray⟩, z, rfl, by have := HL.out; simpa [ByteArray.size] using this, HZ.out.1, HZ.out.2, HB4.out⟩
end Go.Proofs.Ytdinjoenpiminaa
