/- The draws of integers; the laws on them. -/
import Derived.Test.YtckmpenlpkhnfaaDraw6
import Derived.Test.YtckmpenlpkhnfaaLaws
namespace Go.Proofs.Ytckmpenlpkhnfaa
open Go.RowKit
theorem below_row {w w1 w2 : World} {g : Nat} (h : Below w.heap.size w w1) (hg : w1.grownBy w2 (some g)) (hge : w.heap.size ≤ g) : Below w.heap.size w w2 :=
  h.grown hg h.size fun k hk => by injection hk with hk; omega
/-- One text is drawn. -/
def D1P (w : World) (e : Ending) (w' : World) : Prop := ∃ l : List UInt8, e = .returned (.string ⟨l.toArray⟩) ∧ l.length ≤ 50000 ∧ Below w.heap.size w w'
/-- Two are. -/
def D2P (w : World) (e : Ending) (w' : World) : Prop := ∃ l m : List UInt8, e = .returned (.tuple #[.string ⟨l.toArray⟩, .string ⟨m.toArray⟩]) ∧ l.length ≤ 50000 ∧ m.length ≤ 50000 ∧ Below w.heap.size w w'
set_option maxHeartbeats 1000000 in
theorem dIntOk (w : World) (a : Option Addr) (n cap : Nat) (h : Cr w a n cap) : Calls Try.prog 33 #[.slice a n cap] w (D1P w) := by
  have HN := Lib.hid (newRnd_any w a n cap h)
  clear h
  go_enter Try.func33, Try.ntmps33
  go_wp2_with fail
  refine HN.out.mono ?_
  rintro e w1 ⟨rfl, hb1, m, hr1⟩
  have HB1 := Lib.hid hb1
  have HR1 := Lib.hid hr1
  clear hb1 hr1
  go_wp2_with fail
  refine (integer_draw w1 w.heap.size m cap 0 a HR1.out (by decide)).mono ?_
  rintro e w2 ⟨⟨l, rfl, hl⟩, hg2, k', hk', hr2⟩
  have HB2 := Lib.hid (below_row HB1.out hg2 (Nat.le_refl _))
  have HL := Lib.hid hl
  clear hl hg2 hr2
  go_wp2_with fail
  go_ret
  exact ⟨l, rfl, HL.out, HB2.out⟩
set_option maxHeartbeats 1000000 in
theorem dIntAdd (w : World) (a : Option Addr) (n cap : Nat) (h : Cr w a n cap) : Calls Try.prog 34 #[.slice a n cap] w (D2P w) := by
  have HN := Lib.hid (newRnd_any w a n cap h)
  clear h
  go_enter Try.func34, Try.ntmps34
  go_wp2_with fail
  refine HN.out.mono ?_
  rintro e w1 ⟨rfl, hb1, m, hr1⟩
  have HB1 := Lib.hid hb1
  have HR1 := Lib.hid hr1
  clear hb1 hr1
  go_wp2_with fail
  refine (integer_draw w1 w.heap.size m cap 0 a HR1.out (by decide)).mono ?_
  rintro e w2 ⟨⟨l, rfl, hl⟩, hg2, k2, hk2, hr2⟩
  have HB2 := Lib.hid (below_row HB1.out hg2 (Nat.le_refl _))
  have HR2 := Lib.hid hr2
  have HL := Lib.hid hl
  clear hl hg2 hr2
  go_wp2_with fail
  refine (pick_any w2 w.heap.size a m cap k2 6 HR2.out (by omega) (by decide)).mono ?_
  rintro e w3 ⟨s, rfl, _, hg3, k3, hk3, hr3⟩
  have HB3 := Lib.hid (below_row HB2.out hg3 (Nat.le_refl _))
  have HR3 := Lib.hid hr3
  clear hg3 hr3
  by_cases hs : s = 0
  · subst hs
    go_wp2_with fail
    go_ret2
    exact ⟨l, l, rfl, HL.out, HL.out, HB3.out⟩
  · have hsf : ((s : Int) == 0) = false := beq_eq_false_iff_ne.2 (by omega)
    clear hs
    go_wp2_with fail
    refine (integer_draw w3 w.heap.size m cap k3 a HR3.out (by omega)).mono ?_
    rintro e w4 ⟨⟨l2, rfl, hl2⟩, hg4, k4, hk4, hr4⟩
    have HB4 := Lib.hid (below_row HB3.out hg4 (Nat.le_refl _))
    have HL2 := Lib.hid hl2
    clear hl2 hg4 hr4
    go_wp2_with fail
    go_ret2
    exact ⟨l, l2, rfl, HL.out, HL2.out, HB4.out⟩
set_option maxHeartbeats 1000000 in
theorem dIntSub (w : World) (a : Option Addr) (n cap : Nat) (h : Cr w a n cap) : Calls Try.prog 35 #[.slice a n cap] w (D2P w) := by
  have HN := Lib.hid (newRnd_any w a n cap h)
  clear h
  go_enter Try.func35, Try.ntmps35
  go_wp2_with fail
  refine HN.out.mono ?_
  rintro e w1 ⟨rfl, hb1, m, hr1⟩
  have HB1 := Lib.hid hb1
  have HR1 := Lib.hid hr1
  clear hb1 hr1
  go_wp2_with fail
  refine (integer_draw w1 w.heap.size m cap 0 a HR1.out (by decide)).mono ?_
  rintro e w2 ⟨⟨l, rfl, hl⟩, hg2, k2, hk2, hr2⟩
  have HB2 := Lib.hid (below_row HB1.out hg2 (Nat.le_refl _))
  have HR2 := Lib.hid hr2
  have HL := Lib.hid hl
  clear hl hg2 hr2
  go_wp2_with fail
  refine (pick_any w2 w.heap.size a m cap k2 6 HR2.out (by omega) (by decide)).mono ?_
  rintro e w3 ⟨s, rfl, _, hg3, k3, hk3, hr3⟩
  have HB3 := Lib.hid (below_row HB2.out hg3 (Nat.le_refl _))
  have HR3 := Lib.hid hr3
  clear hg3 hr3
  by_cases hs : s = 0
  · subst hs
    go_wp2_with fail
    go_ret2
    exact ⟨l, l, rfl, HL.out, HL.out, HB3.out⟩
  · have hsf : ((s : Int) == 0) = false := beq_eq_false_iff_ne.2 (by omega)
    clear hs
    go_wp2_with fail
    refine (integer_draw w3 w.heap.size m cap k3 a HR3.out (by omega)).mono ?_
    rintro e w4 ⟨⟨l2, rfl, hl2⟩, hg4, k4, hk4, hr4⟩
    have HB4 := Lib.hid (below_row HB3.out hg4 (Nat.le_refl _))
    have HL2 := Lib.hid hl2
    clear hl2 hg4 hr4
    go_wp2_with fail
    go_ret2
    exact ⟨l, l2, rfl, HL.out, HL2.out, HB4.out⟩
theorem sz (l : List UInt8) : (⟨l.toArray⟩ : ByteArray).size = l.length := by simp [ByteArray.size]
theorem dl (l : List UInt8) : (⟨l.toArray⟩ : ByteArray).data.toList = l := by simp
theorem out_ok' {z : Int} (h : z.natAbs < 10 ^ 40) : outI z = .tuple #[txV z, .bool true] := by unfold outI; rw [if_pos h]; rfl
theorem out_no' {z : Int} (h : ¬ z.natAbs < 10 ^ 40) : outI z = .tuple #[.string ⟨#[]⟩, .bool false] := by unfold outI; rw [if_neg h]; rfl
section
variable {a b : List UInt8}
theorem addV_ok (h1 : okI a = true) (h2 : okI b = true) (hs : (rz a + rz b).natAbs < 10 ^ 40) : addV a b = .tuple #[.string ⟨(fmtZ (rz a + rz b)).toArray⟩, .bool true] := by
  unfold addV; rw [h1, h2]; exact out_ok' hs
theorem subV_ok (h1 : okI a = true) (h2 : okI b = true) (hs : (rz a + -rz b).natAbs < 10 ^ 40) : subV a b = .tuple #[.string ⟨(fmtZ (rz a + -rz b)).toArray⟩, .bool true] := by
  unfold subV; rw [h1, h2]; exact out_ok' hs
theorem addV_no (h : ¬ (okI a = true ∧ okI b = true ∧ (rz a + rz b).natAbs < 10 ^ 40)) : addV a b = .tuple #[.string ⟨#[]⟩, .bool false] := by
  unfold addV
  cases h1 : okI a with
  | false => rfl
  | true =>
    cases h2 : okI b with
    | false => rfl
    | true =>
      rw [Bool.and_self, if_pos rfl]
      exact out_no' fun hs => h ⟨h1, h2, hs⟩
theorem subV_no (h : ¬ (okI a = true ∧ okI b = true ∧ (rz a + -rz b).natAbs < 10 ^ 40)) : subV a b = .tuple #[.string ⟨#[]⟩, .bool false] := by
  unfold subV
  cases h1 : okI a with
  | false => rfl
  | true =>
    cases h2 : okI b with
    | false => rfl
    | true =>
      rw [Bool.and_self, if_pos rfl]
      exact out_no' fun hs => h ⟨h1, h2, hs⟩
theorem iAdd (a b : List UInt8) (w : World) : Calls Try.prog 18 #[.string ⟨a.toArray⟩, .string ⟨b.toArray⟩] w fun e w' => e = .returned (addV a b) ∧ Below w.heap.size w w' := by
  have h := intAdd_any ⟨a.toArray⟩ ⟨b.toArray⟩ w
  rw [dl, dl] at h; exact h
theorem iSub (a b : List UInt8) (w : World) : Calls Try.prog 20 #[.string ⟨a.toArray⟩, .string ⟨b.toArray⟩] w fun e w' => e = .returned (subV a b) ∧ Below w.heap.size w w' := by
  have h := intSub_any ⟨a.toArray⟩ ⟨b.toArray⟩ w
  rw [dl, dl] at h; exact h
theorem iOk (a : List UInt8) (w : World) : Calls Try.prog 16 #[.string ⟨a.toArray⟩] w fun e w' => e = .returned (.bool (okI a)) ∧ Below w.heap.size w w' := by
  have h := intOk_any ⟨a.toArray⟩ w
  rw [dl] at h; exact h
theorem sAdd (a b : List UInt8) (w : World) (ha : a.length ≤ 50000) (hb : b.length ≤ 50000) : Calls Try.prog 17 #[.string ⟨a.toArray⟩, .string ⟨b.toArray⟩] w fun e w' => e = .returned (addV a b) ∧ Below w.heap.size w w' := by
  have h := specAdd_any ⟨a.toArray⟩ ⟨b.toArray⟩ w (by rw [sz]; omega) (by rw [sz]; omega)
  rw [dl, dl] at h; exact h
theorem sSub (a b : List UInt8) (w : World) (ha : a.length ≤ 50000) (hb : b.length ≤ 50000) : Calls Try.prog 19 #[.string ⟨a.toArray⟩, .string ⟨b.toArray⟩] w fun e w' => e = .returned (subV a b) ∧ Below w.heap.size w w' := by
  have h := specSub_any ⟨a.toArray⟩ ⟨b.toArray⟩ w (by rw [sz]; omega) (by rw [sz]; omega)
  rw [dl, dl] at h; exact h
theorem sOk (a : List UInt8) (w : World) (ha : a.length ≤ 50000) : Calls Try.prog 15 #[.string ⟨a.toArray⟩] w fun e w' => e = .returned (.bool (okI a)) ∧ w = w' := by
  have h := specOk_any ⟨a.toArray⟩ w (by rw [sz]; omega)
  rw [dl] at h; exact h
end
set_option maxHeartbeats 4000000 in
theorem fnIntOk_walk (a : Option Addr) (n cap : Nat) (zs : List Int) (w : World) (h : (a = none ∧ n = 0 ∧ cap = 0 ∧ zs = []) ∨ ∃ x, a = some x ∧ n ≤ cap ∧ cap ≤ maxLen ∧ zs.length = cap ∧ (∀ i, i < zs.length → w.cell? (x.add i) = some (.int .u8 (zs.getD i 0))) ∧ ∀ n ∈ zs, (Lit.int .u8 n).wf = true) :
    Calls Try.prog 12 #[.slice a n cap] w fun e w' => e = .returned (.bool true) ∧ Below w.heap.size w w' := by
  have HC := Lib.hid (dIntOk w a n cap (cr_of h))
  have hcap : n ≤ 9223372036854775807 := by
    rcases h with ⟨_, rfl, _⟩ | ⟨x, _, h1, h2, _⟩
    · omega
    · unfold maxLen at h2; omega
  clear h
  by_cases h0 : n ≤ 1048576
  · go_enter Try.func12, Try.ntmps12
    go_wp2_with fail
    refine HC.out.mono ?_
    rintro e w2 ⟨l, rfl, hl, hb2⟩
    have HB2 := Lib.hid hb2
    clear hb2
    cases hok : okI l with
    | false =>
      have H1 := Lib.hid (fun w => iOk l w)
      have H2 := Lib.hid (fun w => sOk l w hl)
      rw [hok] at H1 H2
      clear hok
      go_wp2_with fail
      refine (H1.out _).mono ?_
      rintro e w3 ⟨rfl, hb⟩
      have HBw3 := Lib.hid (HB2.out.trans (hb.mono HB2.out.size))
      clear hb
      go_wp2_with fail
      refine (H2.out _).mono ?_
      rintro e w4 ⟨rfl, rfl⟩
      go_wp2_with fail
      go_ret
      exact ⟨rfl, HBw3.out⟩
    | true =>
      have hz := okI_lt (l := l)
      have e0 : okI [48] = true := by decide
      have r0 : rz [48] = 0 := by decide
      have hs : (rz [48] + -rz l).natAbs < 10 ^ 40 := by rw [r0, Int.zero_add, Int.natAbs_neg]; exact hz
      have H1 := Lib.hid (fun w => iOk l w)
      have H2 := Lib.hid (fun w => sOk l w hl)
      have H3 := Lib.hid (fun w => iSub [48] l w)
      rw [subV_ok e0 hok hs] at H3
      have H4 := Lib.hid (fun w => iOk (fmtZ (rz [48] + -rz l)) w)
      rw [(okI_fmtZ hs).1] at H4
      rw [hok] at H1 H2
      generalize fmtZ (rz [48] + -rz l) = nl at H3 H4
      clear hok hz e0 r0 hs
      go_wp2_with fail
      refine (H1.out _).mono ?_
      rintro e w3 ⟨rfl, hb⟩
      have HBw3 := Lib.hid (HB2.out.trans (hb.mono HB2.out.size))
      clear hb
      go_wp2_with fail
      refine (H2.out _).mono ?_
      rintro e w4 ⟨rfl, rfl⟩
      go_wp2_with fail
      refine (H3.out _).mono ?_
      rintro e w5 ⟨rfl, hb⟩
      have HBw5 := Lib.hid (HBw3.out.trans (hb.mono HBw3.out.size))
      clear hb
      go_wp2_with (first | (refine ext rfl (.tmp 28) 0 [.string ⟨nl.toArray⟩, .bool true] (.string ⟨nl.toArray⟩) rfl rfl rfl ?_) | (refine ext rfl (.tmp 28) 1 [.string ⟨nl.toArray⟩, .bool true] (.bool true) rfl rfl rfl ?_))
      refine (H4.out _).mono ?_
      rintro e w6 ⟨rfl, hb⟩
      have HBw6 := Lib.hid (HBw5.out.trans (hb.mono HBw5.out.size))
      clear hb
      go_wp2_with fail
      go_ret
      exact ⟨rfl, HBw6.out⟩
  · go_enter Try.func12, Try.ntmps12
    go_wp2_with fail
    go_ret
    exact ⟨rfl, Below.refl _ _⟩
set_option maxHeartbeats 4000000 in
theorem fnIntAdd_walk (a : Option Addr) (n cap : Nat) (zs : List Int) (w : World) (h : (a = none ∧ n = 0 ∧ cap = 0 ∧ zs = []) ∨ ∃ x, a = some x ∧ n ≤ cap ∧ cap ≤ maxLen ∧ zs.length = cap ∧ (∀ i, i < zs.length → w.cell? (x.add i) = some (.int .u8 (zs.getD i 0))) ∧ ∀ n ∈ zs, (Lit.int .u8 n).wf = true) :
    Calls Try.prog 13 #[.slice a n cap] w fun e w' => e = .returned (.bool true) ∧ Below w.heap.size w w' := by
  have HC := Lib.hid (dIntAdd w a n cap (cr_of h))
  have hcap : n ≤ 9223372036854775807 := by
    rcases h with ⟨_, rfl, _⟩ | ⟨x, _, h1, h2, _⟩
    · omega
    · unfold maxLen at h2; omega
  clear h
  by_cases h0 : n ≤ 1048576
  · go_enter Try.func13, Try.ntmps13
    go_wp2_with fail
    refine HC.out.mono ?_
    rintro e w2 ⟨l, m, rfl, hl, hm, hb2⟩
    have HB2 := Lib.hid hb2
    clear hb2
    go_wp2_with (first | (refine ext rfl (.tmp 16) 0 [.string ⟨l.toArray⟩, .string ⟨m.toArray⟩] (.string ⟨l.toArray⟩) rfl rfl rfl ?_) | (refine ext rfl (.tmp 16) 1 [.string ⟨l.toArray⟩, .string ⟨m.toArray⟩] (.string ⟨m.toArray⟩) rfl rfl rfl ?_))
    have H1 := Lib.hid (fun w => iAdd l m w)
    have H2 := Lib.hid (fun w => sAdd l m w hl hm)
    by_cases hc : okI l = true ∧ okI m = true ∧ (rz l + rz m).natAbs < 10 ^ 40
    · obtain ⟨k1, k2, k3⟩ := hc
      rw [addV_ok k1 k2 k3] at H1 H2
      have f1 := okI_fmtZ k3
      have x1 := okI_lt (l := l)
      have x2 := okI_lt (l := m)
      have H3 := Lib.hid (fun w => iAdd m l w)
      rw [addV_ok k2 k1 (by rw [Int.add_comm]; exact k3), Int.add_comm (rz m)] at H3
      have H4 := Lib.hid (fun w => iSub (fmtZ (rz l + rz m)) m w)
      have e4 : rz l + rz m + -rz m = rz l := by omega
      rw [subV_ok f1.1 k2 (by rw [f1.2, e4]; exact x1), f1.2, e4, fmtZ_rz k1] at H4
      generalize fmtZ (rz l + rz m) = so at H1 H2 H3 H4
      clear f1 x1 x2 k1 k2 k3 e4
      refine (H1.out _).mono ?_
      rintro e w3 ⟨rfl, hb⟩
      have HBw3 := Lib.hid (HB2.out.trans (hb.mono HB2.out.size))
      clear hb
      go_wp2_with (first | (refine ext rfl (.tmp 21) 0 [.string ⟨so.toArray⟩, .bool true] (.string ⟨so.toArray⟩) rfl rfl rfl ?_) | (refine ext rfl (.tmp 21) 1 [.string ⟨so.toArray⟩, .bool true] (.bool true) rfl rfl rfl ?_))
      refine (H2.out _).mono ?_
      rintro e w4 ⟨rfl, hb⟩
      have HBw4 := Lib.hid (HBw3.out.trans (hb.mono HBw3.out.size))
      clear hb
      go_wp2_with (first | (refine ext rfl (.tmp 27) 0 [.string ⟨so.toArray⟩, .bool true] (.string ⟨so.toArray⟩) rfl rfl rfl ?_) | (refine ext rfl (.tmp 27) 1 [.string ⟨so.toArray⟩, .bool true] (.bool true) rfl rfl rfl ?_))
      refine (H3.out _).mono ?_
      rintro e w5 ⟨rfl, hb⟩
      have HBw5 := Lib.hid (HBw4.out.trans (hb.mono HBw4.out.size))
      clear hb
      go_wp2_with (first | (refine ext rfl (.tmp 48) 0 [.string ⟨so.toArray⟩, .bool true] (.string ⟨so.toArray⟩) rfl rfl rfl ?_) | (refine ext rfl (.tmp 48) 1 [.string ⟨so.toArray⟩, .bool true] (.bool true) rfl rfl rfl ?_))
      refine (H4.out _).mono ?_
      rintro e w6 ⟨rfl, hb⟩
      have HBw6 := Lib.hid (HBw5.out.trans (hb.mono HBw5.out.size))
      clear hb
      go_wp2_with (first | (refine ext rfl (.tmp 54) 0 [.string ⟨l.toArray⟩, .bool true] (.string ⟨l.toArray⟩) rfl rfl rfl ?_) | (refine ext rfl (.tmp 54) 1 [.string ⟨l.toArray⟩, .bool true] (.bool true) rfl rfl rfl ?_))
      go_ret
      exact ⟨rfl, HBw6.out⟩
    · rw [addV_no hc] at H1 H2
      clear hc
      refine (H1.out _).mono ?_
      rintro e w3 ⟨rfl, hb⟩
      have HBw3 := Lib.hid (HB2.out.trans (hb.mono HB2.out.size))
      clear hb
      go_wp2_with (first | (refine ext rfl (.tmp 21) 0 [.string ⟨#[]⟩, .bool false] (.string ⟨#[]⟩) rfl rfl rfl ?_) | (refine ext rfl (.tmp 21) 1 [.string ⟨#[]⟩, .bool false] (.bool false) rfl rfl rfl ?_))
      refine (H2.out _).mono ?_
      rintro e w4 ⟨rfl, hb⟩
      have HBw4 := Lib.hid (HBw3.out.trans (hb.mono HBw3.out.size))
      clear hb
      go_wp2_with (first | (refine ext rfl (.tmp 27) 0 [.string ⟨#[]⟩, .bool false] (.string ⟨#[]⟩) rfl rfl rfl ?_) | (refine ext rfl (.tmp 27) 1 [.string ⟨#[]⟩, .bool false] (.bool false) rfl rfl rfl ?_))
      go_ret
      exact ⟨rfl, HBw4.out⟩
  · go_enter Try.func13, Try.ntmps13
    go_wp2_with fail
    go_ret
    exact ⟨rfl, Below.refl _ _⟩
set_option maxHeartbeats 4000000 in
theorem fnIntSub_walk (a : Option Addr) (n cap : Nat) (zs : List Int) (w : World) (h : (a = none ∧ n = 0 ∧ cap = 0 ∧ zs = []) ∨ ∃ x, a = some x ∧ n ≤ cap ∧ cap ≤ maxLen ∧ zs.length = cap ∧ (∀ i, i < zs.length → w.cell? (x.add i) = some (.int .u8 (zs.getD i 0))) ∧ ∀ n ∈ zs, (Lit.int .u8 n).wf = true) :
    Calls Try.prog 14 #[.slice a n cap] w fun e w' => e = .returned (.bool true) ∧ Below w.heap.size w w' := by
  have HC := Lib.hid (dIntSub w a n cap (cr_of h))
  have hcap : n ≤ 9223372036854775807 := by
    rcases h with ⟨_, rfl, _⟩ | ⟨x, _, h1, h2, _⟩
    · omega
    · unfold maxLen at h2; omega
  clear h
  by_cases h0 : n ≤ 1048576
  · go_enter Try.func14, Try.ntmps14
    go_wp2_with fail
    refine HC.out.mono ?_
    rintro e w2 ⟨l, m, rfl, hl, hm, hb2⟩
    have HB2 := Lib.hid hb2
    clear hb2
    go_wp2_with (first | (refine ext rfl (.tmp 18) 0 [.string ⟨l.toArray⟩, .string ⟨m.toArray⟩] (.string ⟨l.toArray⟩) rfl rfl rfl ?_) | (refine ext rfl (.tmp 18) 1 [.string ⟨l.toArray⟩, .string ⟨m.toArray⟩] (.string ⟨m.toArray⟩) rfl rfl rfl ?_))
    have H1 := Lib.hid (fun w => iSub l m w)
    have H2 := Lib.hid (fun w => sSub l m w hl hm)
    by_cases hc : okI l = true ∧ okI m = true ∧ (rz l + -rz m).natAbs < 10 ^ 40
    · obtain ⟨k1, k2, k3⟩ := hc
      rw [subV_ok k1 k2 k3] at H1 H2
      have f1 := okI_fmtZ k3
      have x1 := okI_lt (l := l)
      have x2 := okI_lt (l := m)
      have H3 := Lib.hid (fun w => iAdd (fmtZ (rz l + -rz m)) m w)
      have e3 : rz l + -rz m + rz m = rz l := by omega
      rw [addV_ok f1.1 k2 (by rw [f1.2, e3]; exact x1), f1.2, e3, fmtZ_rz k1] at H3
      have k4 : (rz m + -rz l).natAbs < 10 ^ 40 := by rw [← Int.natAbs_neg, show -(rz m + -rz l) = rz l + -rz m by omega]; exact k3
      have f2 := okI_fmtZ k4
      have H4 := Lib.hid (fun w => iSub m l w)
      rw [subV_ok k2 k1 k4] at H4
      have H5 := Lib.hid (fun w => iAdd (fmtZ (rz l + -rz m)) (fmtZ (rz m + -rz l)) w)
      have e5 : rz l + -rz m + (rz m + -rz l) = 0 := by omega
      rw [addV_ok f1.1 f2.1 (by rw [f1.2, f2.2, e5]; decide), f1.2, f2.2, e5, show fmtZ 0 = [48] from rfl] at H5
      generalize fmtZ (rz l + -rz m) = so at H1 H2 H3 H5
      generalize fmtZ (rz m + -rz l) = tu at H4 H5
      clear f1 f2 x1 x2 k1 k2 k3 k4 e3 e5
      refine (H1.out _).mono ?_
      rintro e w3 ⟨rfl, hb⟩
      have HBw3 := Lib.hid (HB2.out.trans (hb.mono HB2.out.size))
      clear hb
      go_wp2_with (first | (refine ext rfl (.tmp 23) 0 [.string ⟨so.toArray⟩, .bool true] (.string ⟨so.toArray⟩) rfl rfl rfl ?_) | (refine ext rfl (.tmp 23) 1 [.string ⟨so.toArray⟩, .bool true] (.bool true) rfl rfl rfl ?_))
      refine (H2.out _).mono ?_
      rintro e w4 ⟨rfl, hb⟩
      have HBw4 := Lib.hid (HBw3.out.trans (hb.mono HBw3.out.size))
      clear hb
      go_wp2_with (first | (refine ext rfl (.tmp 29) 0 [.string ⟨so.toArray⟩, .bool true] (.string ⟨so.toArray⟩) rfl rfl rfl ?_) | (refine ext rfl (.tmp 29) 1 [.string ⟨so.toArray⟩, .bool true] (.bool true) rfl rfl rfl ?_))
      refine (H3.out _).mono ?_
      rintro e w5 ⟨rfl, hb⟩
      have HBw5 := Lib.hid (HBw4.out.trans (hb.mono HBw4.out.size))
      clear hb
      go_wp2_with (first | (refine ext rfl (.tmp 50) 0 [.string ⟨l.toArray⟩, .bool true] (.string ⟨l.toArray⟩) rfl rfl rfl ?_) | (refine ext rfl (.tmp 50) 1 [.string ⟨l.toArray⟩, .bool true] (.bool true) rfl rfl rfl ?_))
      refine (H4.out _).mono ?_
      rintro e w6 ⟨rfl, hb⟩
      have HBw6 := Lib.hid (HBw5.out.trans (hb.mono HBw5.out.size))
      clear hb
      go_wp2_with (first | (refine ext rfl (.tmp 56) 0 [.string ⟨tu.toArray⟩, .bool true] (.string ⟨tu.toArray⟩) rfl rfl rfl ?_) | (refine ext rfl (.tmp 56) 1 [.string ⟨tu.toArray⟩, .bool true] (.bool true) rfl rfl rfl ?_))
      refine (H5.out _).mono ?_
      rintro e w7 ⟨rfl, hb⟩
      have HBw7 := Lib.hid (HBw6.out.trans (hb.mono HBw6.out.size))
      clear hb
      go_wp2_with (first | (refine ext rfl (.tmp 62) 0 [.string ⟨[48].toArray⟩, .bool true] (.string ⟨[48].toArray⟩) rfl rfl rfl ?_) | (refine ext rfl (.tmp 62) 1 [.string ⟨[48].toArray⟩, .bool true] (.bool true) rfl rfl rfl ?_))
      go_ret
      exact ⟨rfl, HBw7.out⟩
    · rw [subV_no hc] at H1 H2
      clear hc
      refine (H1.out _).mono ?_
      rintro e w3 ⟨rfl, hb⟩
      have HBw3 := Lib.hid (HB2.out.trans (hb.mono HB2.out.size))
      clear hb
      go_wp2_with (first | (refine ext rfl (.tmp 23) 0 [.string ⟨#[]⟩, .bool false] (.string ⟨#[]⟩) rfl rfl rfl ?_) | (refine ext rfl (.tmp 23) 1 [.string ⟨#[]⟩, .bool false] (.bool false) rfl rfl rfl ?_))
      refine (H2.out _).mono ?_
      rintro e w4 ⟨rfl, hb⟩
      have HBw4 := Lib.hid (HBw3.out.trans (hb.mono HBw3.out.size))
      clear hb
      go_wp2_with (first | (refine ext rfl (.tmp 29) 0 [.string ⟨#[]⟩, .bool false] (.string ⟨#[]⟩) rfl rfl rfl ?_) | (refine ext rfl (.tmp 29) 1 [.string ⟨#[]⟩, .bool false] (.bool false) rfl rfl rfl ?_))
      go_ret
      exact ⟨rfl, HBw4.out⟩
  · go_enter Try.func14, Try.ntmps14
    go_wp2_with fail
    go_ret
    exact ⟨rfl, Below.refl _ _⟩
end Go.Proofs.Ytckmpenlpkhnfaa
