/- The draws of integers; the laws on them. -/
import Derived.Test.YtckmpenlpkhnfabDraw6
import Derived.Test.YtckmpenlpkhnfabLaws
namespace Go.Proofs.Ytckmpenlpkhnfab
open Go.RowKit
theorem below_row {w w1 w2 : World} {g : Nat} (h : Below w.heap.size w w1) (hg : w1.grownBy w2 (some g)) (hge : w.heap.size ≤ g) : Below w.heap.size w w2 :=
  h.grown hg h.size fun k hk => by injection hk with hk; omega
/-- One text is drawn. -/
def D1P (w : World) (e : Ending) (w' : World) : Prop := ∃ l : List UInt8, e = .returned (.string ⟨l.toArray⟩) ∧ l.length ≤ 50000 ∧ Below w.heap.size w w'
/-- Two are. -/
def D2P (w : World) (e : Ending) (w' : World) : Prop := ∃ l m : List UInt8, e = .returned (.tuple #[.string ⟨l.toArray⟩, .string ⟨m.toArray⟩]) ∧ l.length ≤ 50000 ∧ m.length ≤ 50000 ∧ Below w.heap.size w w'
set_option maxHeartbeats 1000000 in
theorem dIntAdd (w : World) (a : Option Addr) (n cap : Nat) (h : Cr w a n cap) : Calls Try.prog 35 #[.slice a n cap] w (D2P w) := by
  have HN := Lib.hid (newRnd_any w a n cap h)
  clear h
  go_enter Try.func35, Try.ntmps35
  go_wp2_with fail
  refine HN.out.mono ?_
  rintro e w1 ⟨rfl, hb1, m, hr1⟩
  have HB1 := Lib.hid hb1
  have HR1 := Lib.hid hr1
  clear hb1 hr1
  go_wp2_with fail
  refine (integer_draw w1 w.heap.size m cap 0 a HR1.out (by decide)).mono ?_
  rintro e w2 ⟨⟨l, rfl, hl⟩, hg2, k2, hk2, hr2⟩
  have HB2 := Lib.hid (below_row HB1.out hg2 (Nat.le_refl _))
  have HR2 := Lib.hid hr2
  have HL := Lib.hid hl
  clear hl hg2 hr2
  go_wp2_with fail
  refine (pick_any w2 w.heap.size a m cap k2 6 HR2.out (by omega) (by decide)).mono ?_
  rintro e w3 ⟨s, rfl, _, hg3, k3, hk3, hr3⟩
  have HB3 := Lib.hid (below_row HB2.out hg3 (Nat.le_refl _))
  have HR3 := Lib.hid hr3
  clear hg3 hr3
  by_cases hs : s = 0
  · subst hs
    go_wp2_with fail
    go_ret2
    exact ⟨l, l, rfl, HL.out, HL.out, HB3.out⟩
  · have hsf : ((s : Int) == 0) = false := beq_eq_false_iff_ne.2 (by omega)
    clear hs
    go_wp2_with fail
    refine (integer_draw w3 w.heap.size m cap k3 a HR3.out (by omega)).mono ?_
    rintro e w4 ⟨⟨l2, rfl, hl2⟩, hg4, k4, hk4, hr4⟩
    have HB4 := Lib.hid (below_row HB3.out hg4 (Nat.le_refl _))
    have HL2 := Lib.hid hl2
    clear hl2 hg4 hr4
    go_wp2_with fail
    go_ret2
    exact ⟨l, l2, rfl, HL.out, HL2.out, HB4.out⟩
theorem sz (l : List UInt8) : (⟨l.toArray⟩ : ByteArray).size = l.length := by simp [ByteArray.size]
theorem dl (l : List UInt8) : (⟨l.toArray⟩ : ByteArray).data.toList = l := by simp
theorem out_ok' {z : Int} (h : z.natAbs < 10 ^ 40) : outI z = .tuple #[txV z, .bool true] := by unfold outI; rw [if_pos h]; rfl
theorem out_no' {z : Int} (h : ¬ z.natAbs < 10 ^ 40) : outI z = .tuple #[.string ⟨#[]⟩, .bool false] := by unfold outI; rw [if_neg h]; rfl
section
variable {a b : List UInt8}
theorem addV_ok (h1 : okI a = true) (h2 : okI b = true) (hs : (rz a + rz b).natAbs < 10 ^ 40) : addV a b = .tuple #[.string ⟨(fmtZ (rz a + rz b)).toArray⟩, .bool true] := by
  unfold addV; rw [h1, h2]; exact out_ok' hs
theorem subV_ok (h1 : okI a = true) (h2 : okI b = true) (hs : (rz a + -rz b).natAbs < 10 ^ 40) : subV a b = .tuple #[.string ⟨(fmtZ (rz a + -rz b)).toArray⟩, .bool true] := by
  unfold subV; rw [h1, h2]; exact out_ok' hs
theorem addV_no (h : ¬ (okI a = true ∧ okI b = true ∧ (rz a + rz b).natAbs < 10 ^ 40)) : addV a b = .tuple #[.string ⟨#[]⟩, .bool false] := by
  unfold addV
  cases h1 : okI a with
  | false => rfl
  | true =>
    cases h2 : okI b with
    | false => rfl
    | true =>
      rw [Bool.and_self, if_pos rfl]
      exact out_no' fun hs => h ⟨h1, h2, hs⟩
theorem subV_no (h : ¬ (okI a = true ∧ okI b = true ∧ (rz a + -rz b).natAbs < 10 ^ 40)) : subV a b = .tuple #[.string ⟨#[]⟩, .bool false] := by
  unfold subV
  cases h1 : okI a with
  | false => rfl
  | true =>
    cases h2 : okI b with
    | false => rfl
    | true =>
      rw [Bool.and_self, if_pos rfl]
      exact out_no' fun hs => h ⟨h1, h2, hs⟩
theorem iAdd (a b : List UInt8) (w : World) : Calls Try.prog 22 #[.string ⟨a.toArray⟩, .string ⟨b.toArray⟩] w fun e w' => e = .returned (addV a b) ∧ Below w.heap.size w w' := by
  have h := intAdd_any ⟨a.toArray⟩ ⟨b.toArray⟩ w
  rw [dl, dl] at h; exact h
theorem iSub (a b : List UInt8) (w : World) : Calls Try.prog 31 #[.string ⟨a.toArray⟩, .string ⟨b.toArray⟩] w fun e w' => e = .returned (subV a b) ∧ Below w.heap.size w w' := by
  have h := intSub_any ⟨a.toArray⟩ ⟨b.toArray⟩ w
  rw [dl, dl] at h; exact h
theorem iOk (a : List UInt8) (w : World) : Calls Try.prog 38 #[.string ⟨a.toArray⟩] w fun e w' => e = .returned (.bool (okI a)) ∧ Below w.heap.size w w' := by
  have h := intOk_any ⟨a.toArray⟩ w
  rw [dl] at h; exact h
theorem sOk (a : List UInt8) (w : World) (ha : a.length ≤ 50000) : Calls Try.prog 37 #[.string ⟨a.toArray⟩] w fun e w' => e = .returned (.bool (okI a)) ∧ w = w' := by
  have h := specOk_any ⟨a.toArray⟩ w (by rw [sz]; omega)
  rw [dl] at h; exact h
end
end Go.Proofs.Ytckmpenlpkhnfab
