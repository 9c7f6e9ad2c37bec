/- The law on products of sums. -/
import Derived.Test.YtckmpenlpkhnfabLawsE
namespace Go.Proofs.Ytckmpenlpkhnfab
open Go.RowKit
theorem cr_below {w w' : World} {a : Option Addr} {n cap : Nat} (h : Cr w a n cap) (hb : Below w.heap.size w w') : Cr w' a n cap := by
  refine ⟨h.1, h.2.1, ?_⟩
  rcases h.2.2 with h1 | ⟨x, hx, hc⟩
  · exact Or.inl h1
  · refine Or.inr ⟨x, hx, fun i hi => ?_⟩
    obtain ⟨c, h1, h2⟩ := hc i hi
    exact ⟨c, h1, by rw [hb.cell (World.block_lt_of_cell? w _ h2)]; exact h2⟩
theorem add_twice (x : Addr) (i j : Nat) : (x.add i).add j = x.add (i + j) := by
  unfold Addr.add
  by_cases hi : i = 0
  · subst hi; simp
  · by_cases hj : j = 0
    · subst hj; simp
    · rw [if_neg hi, if_neg hj, if_neg (by omega), Nat.add_assoc]
theorem cr_half {w : World} {x : Addr} {n cap : Nat} (h : Cr w (some x) n cap) : Cr w (some (x.add (n / 2))) (n - n / 2) (cap - n / 2) := by
  refine ⟨by have := h.1; omega, fun h1 => by simp at h1, ?_⟩
  rcases h.2.2 with h1 | ⟨y, hx, hc⟩
  · exact Or.inl (by omega)
  · injection hx with hx
    subst hx
    refine Or.inr ⟨_, rfl, fun i hi => ?_⟩
    rw [add_twice]
    exact hc _ (by omega)
def HalfP (w : World) (e : Ending) (w' : World) : Prop := w = w' ∧ ∃ a n cap, e = .returned (.slice a n cap) ∧ Cr w a n cap
theorem half_any (w : World) (a : Option Addr) (n cap : Nat) (h : Cr w a n cap) (hm : n ≤ 1048576) : Calls Try.prog 36 #[.slice a n cap] w (HalfP w) := by
  have hcap := h.1
  cases a with
  | none =>
    obtain ⟨rfl, rfl⟩ := h.2.1 rfl
    have HR := Lib.hid h
    clear h
    go_enter Try.func36, Try.ntmps36
    go_wp2
    go_ret
    exact ⟨rfl, _, _, _, rfl, HR.out⟩
  | some x =>
    have HR := Lib.hid (cr_half h)
    have HZ := Lib.hid (show cap = n / 2 → Cr w (some x) (n - n / 2) 0 from fun h1 => ⟨by omega, fun h2 => by simp at h2, Or.inl (by omega)⟩)
    clear h
    go_enter Try.func36, Try.ntmps36
    go_wp2
    all_goals first | omega | skip
    · go_ret
      exact ⟨rfl, _, _, _, rfl, HZ.out (by assumption)⟩
    · go_ret
      exact ⟨rfl, _, _, _, rfl, HR.out⟩
theorem addV_form' (a b : List UInt8) : ∃ (u : ByteArray) (c : Bool), addV a b = .tuple #[.string u, .bool c] := by
  obtain ⟨l, c, h⟩ := addV_form a b; exact ⟨⟨l⟩, c, h⟩
theorem mulV_form' (a b : List UInt8) : ∃ (u : ByteArray) (c : Bool), mulV a b = .tuple #[.string u, .bool c] := by
  obtain ⟨l, c, h⟩ := mulV_form a b; exact ⟨⟨l⟩, c, h⟩
theorem fAdd (s t : ByteArray) : ∃ (u : ByteArray) (b : Bool), ∀ w, Calls Try.prog 22 #[.string s, .string t] w fun e w' => e = .returned (.tuple #[.string u, .bool b]) ∧ Below w.heap.size w w' := by
  obtain ⟨u, b, h⟩ := addV_form' s.data.toList t.data.toList
  refine ⟨u, b, fun w => ?_⟩
  rw [← h]; exact intAdd_any s t w
theorem fMul (s t : ByteArray) : ∃ (u : ByteArray) (b : Bool), ∀ w, Calls Try.prog 16 #[.string s, .string t] w fun e w' => e = .returned (.tuple #[.string u, .bool b]) ∧ Below w.heap.size w w' := by
  obtain ⟨u, b, h⟩ := mulV_form' s.data.toList t.data.toList
  refine ⟨u, b, fun w => ?_⟩
  rw [← h]; exact intMul_any s t w
set_option maxHeartbeats 8000000 in
theorem fnIntShares_walk (a : Option Addr) (n cap : Nat) (zs : List Int) (w : World) (h : (a = none ∧ n = 0 ∧ cap = 0 ∧ zs = []) ∨ ∃ x, a = some x ∧ n ≤ cap ∧ cap ≤ maxLen ∧ zs.length = cap ∧ (∀ i, i < zs.length → w.cell? (x.add i) = some (.int .u8 (zs.getD i 0))) ∧ ∀ n ∈ zs, (Lit.int .u8 n).wf = true) :
    Calls Try.prog 9 #[.slice a n cap] w fun e w' => e = .returned (.bool true) ∧ Below w.heap.size w w' := by
  have HR := Lib.hid (cr_of h)
  have HC := Lib.hid (dIntAdd w a n cap (cr_of h))
  have hcap : n ≤ 9223372036854775807 := by
    rcases h with ⟨_, rfl, _⟩ | ⟨x, _, h1, h2, _⟩
    · omega
    · unfold maxLen at h2; omega
  clear h
  by_cases h0 : n ≤ 1048576
  · go_enter Try.func9, Try.ntmps9
    go_wp2_with fail
    refine HC.out.mono ?_
    rintro e w2 ⟨l, m, rfl, hl, hm, hb2⟩
    have HB2 := Lib.hid hb2
    have HH := Lib.hid (half_any w2 a n cap (cr_below HR.out hb2) h0)
    clear hb2
    go_wp2_with (first | (refine ext rfl (.tmp 20) 0 [.string ⟨l.toArray⟩, .string ⟨m.toArray⟩] (.string ⟨l.toArray⟩) rfl rfl rfl ?_) | (refine ext rfl (.tmp 20) 1 [.string ⟨l.toArray⟩, .string ⟨m.toArray⟩] (.string ⟨m.toArray⟩) rfl rfl rfl ?_))
    refine HH.out.mono ?_
    rintro e w3' ⟨rfl, a2, n2, cap2, rfl, hc2⟩
    have HD := Lib.hid (dIntAdd w2 a2 n2 cap2 hc2)
    clear hc2
    go_wp2_with fail
    refine HD.out.mono ?_
    rintro e w3 ⟨c, d, rfl, hc, hd, hb3⟩
    have HB3 := Lib.hid (HB2.out.trans (hb3.mono HB2.out.size))
    clear hb3
    go_wp2_with (first | (refine ext rfl (.tmp 25) 0 [.string ⟨c.toArray⟩, .string ⟨d.toArray⟩] (.string ⟨c.toArray⟩) rfl rfl rfl ?_) | (refine ext rfl (.tmp 25) 1 [.string ⟨c.toArray⟩, .string ⟨d.toArray⟩] (.string ⟨d.toArray⟩) rfl rfl rfl ?_))
    have H1 := Lib.hid (fun w => iAdd m c w)
    by_cases c1 : okI m = true ∧ okI c = true ∧ (rz m + rz c).natAbs < 10 ^ 40
    · have v1 := addV_ok c1.1 c1.2.1 c1.2.2
      have f1 := okI_fmtZ c1.2.2
      rw [v1] at H1
      clear v1
      have H2 := Lib.hid (fun w => iMul l m w)
      by_cases c2 : okI l = true ∧ okI m = true ∧ (rz l * rz m).natAbs < 10 ^ 40
      · have v2 := mulV_ok c2.1 c2.2.1 c2.2.2
        have f2 := okI_fmtZ c2.2.2
        rw [v2] at H2
        clear v2
        have H3 := Lib.hid (fun w => iMul l c w)
        by_cases c3 : okI l = true ∧ okI c = true ∧ (rz l * rz c).natAbs < 10 ^ 40
        · have v3 := mulV_ok c3.1 c3.2.1 c3.2.2
          have f3 := okI_fmtZ c3.2.2
          rw [v3] at H3
          clear v3
          have H4 := Lib.hid (fun w => iMul l (fmtZ (rz m + rz c)) w)
          by_cases c4 : okI l = true ∧ okI (fmtZ (rz m + rz c)) = true ∧ (rz l * rz (fmtZ (rz m + rz c))).natAbs < 10 ^ 40
          · have v4 := mulV_ok c4.1 c4.2.1 c4.2.2
            have f4 := okI_fmtZ c4.2.2
            rw [v4] at H4
            clear v4
            have H5 := Lib.hid (fun w => iAdd (fmtZ (rz l * rz m)) (fmtZ (rz l * rz c)) w)
            have c5 := c4.2.2
            rw [f1.2] at H4 c5
            have e5 : rz l * rz m + rz l * rz c = rz l * (rz m + rz c) := (Int.mul_add _ _ _).symm
            rw [addV_ok f2.1 f3.1 (by rw [f2.2, f3.2, e5]; exact c5), f2.2, f3.2, e5] at H5
            generalize fmtZ (rz l * (rz m + rz c)) = s4 at H4 H5
            generalize fmtZ (rz m + rz c) = s1 at H1 H4
            generalize fmtZ (rz l * rz m) = s2 at H2 H5
            generalize fmtZ (rz l * rz c) = s3 at H3 H5
            clear e5 c5 f4 f3 f2 f1 c4 c3 c2 c1
            refine (H1.out _).mono ?_
            rintro e w4 ⟨rfl, hb⟩
            have HBw4 := Lib.hid (HB3.out.trans (hb.mono HB3.out.size))
            clear hb
            go_wp2_with (first | (refine ext rfl (.tmp 31) 0 [.string ⟨s1.toArray⟩, .bool true] (.string ⟨s1.toArray⟩) rfl rfl rfl ?_) | (refine ext rfl (.tmp 31) 1 [.string ⟨s1.toArray⟩, .bool true] (.bool true) rfl rfl rfl ?_))
            refine (H2.out _).mono ?_
            rintro e w5 ⟨rfl, hb⟩
            have HBw5 := Lib.hid (HBw4.out.trans (hb.mono HBw4.out.size))
            clear hb
            go_wp2_with (first | (refine ext rfl (.tmp 37) 0 [.string ⟨s2.toArray⟩, .bool true] (.string ⟨s2.toArray⟩) rfl rfl rfl ?_) | (refine ext rfl (.tmp 37) 1 [.string ⟨s2.toArray⟩, .bool true] (.bool true) rfl rfl rfl ?_))
            refine (H3.out _).mono ?_
            rintro e w6 ⟨rfl, hb⟩
            have HBw6 := Lib.hid (HBw5.out.trans (hb.mono HBw5.out.size))
            clear hb
            go_wp2_with (first | (refine ext rfl (.tmp 43) 0 [.string ⟨s3.toArray⟩, .bool true] (.string ⟨s3.toArray⟩) rfl rfl rfl ?_) | (refine ext rfl (.tmp 43) 1 [.string ⟨s3.toArray⟩, .bool true] (.bool true) rfl rfl rfl ?_))
            refine (H4.out _).mono ?_
            rintro e w7 ⟨rfl, hb⟩
            have HBw7 := Lib.hid (HBw6.out.trans (hb.mono HBw6.out.size))
            clear hb
            go_wp2_with (first | (refine ext rfl (.tmp 49) 0 [.string ⟨s4.toArray⟩, .bool true] (.string ⟨s4.toArray⟩) rfl rfl rfl ?_) | (refine ext rfl (.tmp 49) 1 [.string ⟨s4.toArray⟩, .bool true] (.bool true) rfl rfl rfl ?_))
            refine (H5.out _).mono ?_
            rintro e w8 ⟨rfl, hb⟩
            have HBw8 := Lib.hid (HBw7.out.trans (hb.mono HBw7.out.size))
            clear hb
            go_wp2_with (first | (refine ext rfl (.tmp 74) 0 [.string ⟨s4.toArray⟩, .bool true] (.string ⟨s4.toArray⟩) rfl rfl rfl ?_) | (refine ext rfl (.tmp 74) 1 [.string ⟨s4.toArray⟩, .bool true] (.bool true) rfl rfl rfl ?_))
            go_ret
            exact ⟨rfl, HBw8.out⟩
          · rw [mulV_no c4] at H4
            generalize fmtZ (rz l * rz c) = s3 at H3 H4
            generalize fmtZ (rz l * rz m) = s2 at H2 H3 H4
            generalize fmtZ (rz m + rz c) = s1 at H1 H2 H3 H4
            clear f3 f2 f1 c4 c3 c2 c1
            have HS := Lib.hid (fun w => sOk l w hl)
            have HI := Lib.hid (fun w => iOk l w)
            generalize okI l = q at HS HI
            cases q with
            | false =>
              refine (H1.out _).mono ?_
              rintro e w4 ⟨rfl, hb⟩
              have HBw4 := Lib.hid (HB3.out.trans (hb.mono HB3.out.size))
              clear hb
              go_wp2_with (first | (refine ext rfl (.tmp 31) 0 [.string ⟨s1.toArray⟩, .bool true] (.string ⟨s1.toArray⟩) rfl rfl rfl ?_) | (refine ext rfl (.tmp 31) 1 [.string ⟨s1.toArray⟩, .bool true] (.bool true) rfl rfl rfl ?_))
              refine (H2.out _).mono ?_
              rintro e w5 ⟨rfl, hb⟩
              have HBw5 := Lib.hid (HBw4.out.trans (hb.mono HBw4.out.size))
              clear hb
              go_wp2_with (first | (refine ext rfl (.tmp 37) 0 [.string ⟨s2.toArray⟩, .bool true] (.string ⟨s2.toArray⟩) rfl rfl rfl ?_) | (refine ext rfl (.tmp 37) 1 [.string ⟨s2.toArray⟩, .bool true] (.bool true) rfl rfl rfl ?_))
              refine (H3.out _).mono ?_
              rintro e w6 ⟨rfl, hb⟩
              have HBw6 := Lib.hid (HBw5.out.trans (hb.mono HBw5.out.size))
              clear hb
              go_wp2_with (first | (refine ext rfl (.tmp 43) 0 [.string ⟨s3.toArray⟩, .bool true] (.string ⟨s3.toArray⟩) rfl rfl rfl ?_) | (refine ext rfl (.tmp 43) 1 [.string ⟨s3.toArray⟩, .bool true] (.bool true) rfl rfl rfl ?_))
              refine (H4.out _).mono ?_
              rintro e w7 ⟨rfl, hb⟩
              have HBw7 := Lib.hid (HBw6.out.trans (hb.mono HBw6.out.size))
              clear hb
              go_wp2_with (first | (refine ext rfl (.tmp 49) 0 [.string ⟨#[]⟩, .bool false] (.string ⟨#[]⟩) rfl rfl rfl ?_) | (refine ext rfl (.tmp 49) 1 [.string ⟨#[]⟩, .bool false] (.bool false) rfl rfl rfl ?_))
              refine (HS.out _).mono ?_
              rintro e w8 ⟨rfl, rfl⟩
              go_wp2_with fail
              refine (HI.out _).mono ?_
              rintro e w9 ⟨rfl, hb⟩
              have HBw9 := Lib.hid (HBw7.out.trans (hb.mono HBw7.out.size))
              clear hb
              go_wp2_with fail
              go_ret
              exact ⟨rfl, HBw9.out⟩
            | true =>
              refine (H1.out _).mono ?_
              rintro e w4 ⟨rfl, hb⟩
              have HBw4 := Lib.hid (HB3.out.trans (hb.mono HB3.out.size))
              clear hb
              go_wp2_with (first | (refine ext rfl (.tmp 31) 0 [.string ⟨s1.toArray⟩, .bool true] (.string ⟨s1.toArray⟩) rfl rfl rfl ?_) | (refine ext rfl (.tmp 31) 1 [.string ⟨s1.toArray⟩, .bool true] (.bool true) rfl rfl rfl ?_))
              refine (H2.out _).mono ?_
              rintro e w5 ⟨rfl, hb⟩
              have HBw5 := Lib.hid (HBw4.out.trans (hb.mono HBw4.out.size))
              clear hb
              go_wp2_with (first | (refine ext rfl (.tmp 37) 0 [.string ⟨s2.toArray⟩, .bool true] (.string ⟨s2.toArray⟩) rfl rfl rfl ?_) | (refine ext rfl (.tmp 37) 1 [.string ⟨s2.toArray⟩, .bool true] (.bool true) rfl rfl rfl ?_))
              refine (H3.out _).mono ?_
              rintro e w6 ⟨rfl, hb⟩
              have HBw6 := Lib.hid (HBw5.out.trans (hb.mono HBw5.out.size))
              clear hb
              go_wp2_with (first | (refine ext rfl (.tmp 43) 0 [.string ⟨s3.toArray⟩, .bool true] (.string ⟨s3.toArray⟩) rfl rfl rfl ?_) | (refine ext rfl (.tmp 43) 1 [.string ⟨s3.toArray⟩, .bool true] (.bool true) rfl rfl rfl ?_))
              refine (H4.out _).mono ?_
              rintro e w7 ⟨rfl, hb⟩
              have HBw7 := Lib.hid (HBw6.out.trans (hb.mono HBw6.out.size))
              clear hb
              go_wp2_with (first | (refine ext rfl (.tmp 49) 0 [.string ⟨#[]⟩, .bool false] (.string ⟨#[]⟩) rfl rfl rfl ?_) | (refine ext rfl (.tmp 49) 1 [.string ⟨#[]⟩, .bool false] (.bool false) rfl rfl rfl ?_))
              refine (HS.out _).mono ?_
              rintro e w8 ⟨rfl, rfl⟩
              go_wp2_with fail
              refine (HI.out _).mono ?_
              rintro e w9 ⟨rfl, hb⟩
              have HBw9 := Lib.hid (HBw7.out.trans (hb.mono HBw7.out.size))
              clear hb
              go_wp2_with fail
              go_ret
              exact ⟨rfl, HBw9.out⟩
        · rw [mulV_no c3] at H3
          obtain ⟨u4, b4, hu4⟩ := fMul ⟨l.toArray⟩ ⟨(fmtZ (rz m + rz c)).toArray⟩
          have H4 := Lib.hid hu4
          clear hu4
          generalize fmtZ (rz l * rz m) = s2 at H2 H3 H4
          generalize fmtZ (rz m + rz c) = s1 at H1 H2 H3 H4
          clear f2 f1 c3 c2 c1
          have HS := Lib.hid (fun w => sOk l w hl)
          have HI := Lib.hid (fun w => iOk l w)
          generalize okI l = q at HS HI
          cases q with
          | false =>
            refine (H1.out _).mono ?_
            rintro e w4 ⟨rfl, hb⟩
            have HBw4 := Lib.hid (HB3.out.trans (hb.mono HB3.out.size))
            clear hb
            go_wp2_with (first | (refine ext rfl (.tmp 31) 0 [.string ⟨s1.toArray⟩, .bool true] (.string ⟨s1.toArray⟩) rfl rfl rfl ?_) | (refine ext rfl (.tmp 31) 1 [.string ⟨s1.toArray⟩, .bool true] (.bool true) rfl rfl rfl ?_))
            refine (H2.out _).mono ?_
            rintro e w5 ⟨rfl, hb⟩
            have HBw5 := Lib.hid (HBw4.out.trans (hb.mono HBw4.out.size))
            clear hb
            go_wp2_with (first | (refine ext rfl (.tmp 37) 0 [.string ⟨s2.toArray⟩, .bool true] (.string ⟨s2.toArray⟩) rfl rfl rfl ?_) | (refine ext rfl (.tmp 37) 1 [.string ⟨s2.toArray⟩, .bool true] (.bool true) rfl rfl rfl ?_))
            refine (H3.out _).mono ?_
            rintro e w6 ⟨rfl, hb⟩
            have HBw6 := Lib.hid (HBw5.out.trans (hb.mono HBw5.out.size))
            clear hb
            go_wp2_with (first | (refine ext rfl (.tmp 43) 0 [.string ⟨#[]⟩, .bool false] (.string ⟨#[]⟩) rfl rfl rfl ?_) | (refine ext rfl (.tmp 43) 1 [.string ⟨#[]⟩, .bool false] (.bool false) rfl rfl rfl ?_))
            refine (H4.out _).mono ?_
            rintro e w7 ⟨rfl, hb⟩
            have HBw7 := Lib.hid (HBw6.out.trans (hb.mono HBw6.out.size))
            clear hb
            go_wp2_with (first | (refine ext rfl (.tmp 49) 0 [.string u4, .bool b4] (.string u4) rfl rfl rfl ?_) | (refine ext rfl (.tmp 49) 1 [.string u4, .bool b4] (.bool b4) rfl rfl rfl ?_))
            refine (HS.out _).mono ?_
            rintro e w8 ⟨rfl, rfl⟩
            go_wp2_with fail
            refine (HI.out _).mono ?_
            rintro e w9 ⟨rfl, hb⟩
            have HBw9 := Lib.hid (HBw7.out.trans (hb.mono HBw7.out.size))
            clear hb
            go_wp2_with fail
            go_ret
            exact ⟨rfl, HBw9.out⟩
          | true =>
            refine (H1.out _).mono ?_
            rintro e w4 ⟨rfl, hb⟩
            have HBw4 := Lib.hid (HB3.out.trans (hb.mono HB3.out.size))
            clear hb
            go_wp2_with (first | (refine ext rfl (.tmp 31) 0 [.string ⟨s1.toArray⟩, .bool true] (.string ⟨s1.toArray⟩) rfl rfl rfl ?_) | (refine ext rfl (.tmp 31) 1 [.string ⟨s1.toArray⟩, .bool true] (.bool true) rfl rfl rfl ?_))
            refine (H2.out _).mono ?_
            rintro e w5 ⟨rfl, hb⟩
            have HBw5 := Lib.hid (HBw4.out.trans (hb.mono HBw4.out.size))
            clear hb
            go_wp2_with (first | (refine ext rfl (.tmp 37) 0 [.string ⟨s2.toArray⟩, .bool true] (.string ⟨s2.toArray⟩) rfl rfl rfl ?_) | (refine ext rfl (.tmp 37) 1 [.string ⟨s2.toArray⟩, .bool true] (.bool true) rfl rfl rfl ?_))
            refine (H3.out _).mono ?_
            rintro e w6 ⟨rfl, hb⟩
            have HBw6 := Lib.hid (HBw5.out.trans (hb.mono HBw5.out.size))
            clear hb
            go_wp2_with (first | (refine ext rfl (.tmp 43) 0 [.string ⟨#[]⟩, .bool false] (.string ⟨#[]⟩) rfl rfl rfl ?_) | (refine ext rfl (.tmp 43) 1 [.string ⟨#[]⟩, .bool false] (.bool false) rfl rfl rfl ?_))
            refine (H4.out _).mono ?_
            rintro e w7 ⟨rfl, hb⟩
            have HBw7 := Lib.hid (HBw6.out.trans (hb.mono HBw6.out.size))
            clear hb
            go_wp2_with (first | (refine ext rfl (.tmp 49) 0 [.string u4, .bool b4] (.string u4) rfl rfl rfl ?_) | (refine ext rfl (.tmp 49) 1 [.string u4, .bool b4] (.bool b4) rfl rfl rfl ?_))
            refine (HS.out _).mono ?_
            rintro e w8 ⟨rfl, rfl⟩
            go_wp2_with fail
            refine (HI.out _).mono ?_
            rintro e w9 ⟨rfl, hb⟩
            have HBw9 := Lib.hid (HBw7.out.trans (hb.mono HBw7.out.size))
            clear hb
            go_wp2_with fail
            go_ret
            exact ⟨rfl, HBw9.out⟩
      · rw [mulV_no c2] at H2
        obtain ⟨u3, b3, hu3⟩ := fMul ⟨l.toArray⟩ ⟨c.toArray⟩
        have H3 := Lib.hid hu3
        clear hu3
        obtain ⟨u4, b4, hu4⟩ := fMul ⟨l.toArray⟩ ⟨(fmtZ (rz m + rz c)).toArray⟩
        have H4 := Lib.hid hu4
        clear hu4
        generalize fmtZ (rz m + rz c) = s1 at H1 H2 H3 H4
        clear f1 c2 c1
        have HS := Lib.hid (fun w => sOk l w hl)
        have HI := Lib.hid (fun w => iOk l w)
        generalize okI l = q at HS HI
        cases q with
        | false =>
          refine (H1.out _).mono ?_
          rintro e w4 ⟨rfl, hb⟩
          have HBw4 := Lib.hid (HB3.out.trans (hb.mono HB3.out.size))
          clear hb
          go_wp2_with (first | (refine ext rfl (.tmp 31) 0 [.string ⟨s1.toArray⟩, .bool true] (.string ⟨s1.toArray⟩) rfl rfl rfl ?_) | (refine ext rfl (.tmp 31) 1 [.string ⟨s1.toArray⟩, .bool true] (.bool true) rfl rfl rfl ?_))
          refine (H2.out _).mono ?_
          rintro e w5 ⟨rfl, hb⟩
          have HBw5 := Lib.hid (HBw4.out.trans (hb.mono HBw4.out.size))
          clear hb
          go_wp2_with (first | (refine ext rfl (.tmp 37) 0 [.string ⟨#[]⟩, .bool false] (.string ⟨#[]⟩) rfl rfl rfl ?_) | (refine ext rfl (.tmp 37) 1 [.string ⟨#[]⟩, .bool false] (.bool false) rfl rfl rfl ?_))
          refine (H3.out _).mono ?_
          rintro e w6 ⟨rfl, hb⟩
          have HBw6 := Lib.hid (HBw5.out.trans (hb.mono HBw5.out.size))
          clear hb
          go_wp2_with (first | (refine ext rfl (.tmp 43) 0 [.string u3, .bool b3] (.string u3) rfl rfl rfl ?_) | (refine ext rfl (.tmp 43) 1 [.string u3, .bool b3] (.bool b3) rfl rfl rfl ?_))
          refine (H4.out _).mono ?_
          rintro e w7 ⟨rfl, hb⟩
          have HBw7 := Lib.hid (HBw6.out.trans (hb.mono HBw6.out.size))
          clear hb
          go_wp2_with (first | (refine ext rfl (.tmp 49) 0 [.string u4, .bool b4] (.string u4) rfl rfl rfl ?_) | (refine ext rfl (.tmp 49) 1 [.string u4, .bool b4] (.bool b4) rfl rfl rfl ?_))
          refine (HS.out _).mono ?_
          rintro e w8 ⟨rfl, rfl⟩
          go_wp2_with fail
          refine (HI.out _).mono ?_
          rintro e w9 ⟨rfl, hb⟩
          have HBw9 := Lib.hid (HBw7.out.trans (hb.mono HBw7.out.size))
          clear hb
          go_wp2_with fail
          go_ret
          exact ⟨rfl, HBw9.out⟩
        | true =>
          refine (H1.out _).mono ?_
          rintro e w4 ⟨rfl, hb⟩
          have HBw4 := Lib.hid (HB3.out.trans (hb.mono HB3.out.size))
          clear hb
          go_wp2_with (first | (refine ext rfl (.tmp 31) 0 [.string ⟨s1.toArray⟩, .bool true] (.string ⟨s1.toArray⟩) rfl rfl rfl ?_) | (refine ext rfl (.tmp 31) 1 [.string ⟨s1.toArray⟩, .bool true] (.bool true) rfl rfl rfl ?_))
          refine (H2.out _).mono ?_
          rintro e w5 ⟨rfl, hb⟩
          have HBw5 := Lib.hid (HBw4.out.trans (hb.mono HBw4.out.size))
          clear hb
          go_wp2_with (first | (refine ext rfl (.tmp 37) 0 [.string ⟨#[]⟩, .bool false] (.string ⟨#[]⟩) rfl rfl rfl ?_) | (refine ext rfl (.tmp 37) 1 [.string ⟨#[]⟩, .bool false] (.bool false) rfl rfl rfl ?_))
          refine (H3.out _).mono ?_
          rintro e w6 ⟨rfl, hb⟩
          have HBw6 := Lib.hid (HBw5.out.trans (hb.mono HBw5.out.size))
          clear hb
          go_wp2_with (first | (refine ext rfl (.tmp 43) 0 [.string u3, .bool b3] (.string u3) rfl rfl rfl ?_) | (refine ext rfl (.tmp 43) 1 [.string u3, .bool b3] (.bool b3) rfl rfl rfl ?_))
          refine (H4.out _).mono ?_
          rintro e w7 ⟨rfl, hb⟩
          have HBw7 := Lib.hid (HBw6.out.trans (hb.mono HBw6.out.size))
          clear hb
          go_wp2_with (first | (refine ext rfl (.tmp 49) 0 [.string u4, .bool b4] (.string u4) rfl rfl rfl ?_) | (refine ext rfl (.tmp 49) 1 [.string u4, .bool b4] (.bool b4) rfl rfl rfl ?_))
          refine (HS.out _).mono ?_
          rintro e w8 ⟨rfl, rfl⟩
          go_wp2_with fail
          refine (HI.out _).mono ?_
          rintro e w9 ⟨rfl, hb⟩
          have HBw9 := Lib.hid (HBw7.out.trans (hb.mono HBw7.out.size))
          clear hb
          go_wp2_with fail
          go_ret
          exact ⟨rfl, HBw9.out⟩
    · rw [addV_no c1] at H1
      obtain ⟨u2, b2, hu2⟩ := fMul ⟨l.toArray⟩ ⟨m.toArray⟩
      have H2 := Lib.hid hu2
      clear hu2
      obtain ⟨u3, b3, hu3⟩ := fMul ⟨l.toArray⟩ ⟨c.toArray⟩
      have H3 := Lib.hid hu3
      clear hu3
      obtain ⟨u4, b4, hu4⟩ := fMul ⟨l.toArray⟩ ⟨#[]⟩
      have H4 := Lib.hid hu4
      clear hu4
      clear c1
      have HS := Lib.hid (fun w => sOk l w hl)
      have HI := Lib.hid (fun w => iOk l w)
      generalize okI l = q at HS HI
      cases q with
      | false =>
        refine (H1.out _).mono ?_
        rintro e w4 ⟨rfl, hb⟩
        have HBw4 := Lib.hid (HB3.out.trans (hb.mono HB3.out.size))
        clear hb
        go_wp2_with (first | (refine ext rfl (.tmp 31) 0 [.string ⟨#[]⟩, .bool false] (.string ⟨#[]⟩) rfl rfl rfl ?_) | (refine ext rfl (.tmp 31) 1 [.string ⟨#[]⟩, .bool false] (.bool false) rfl rfl rfl ?_))
        refine (H2.out _).mono ?_
        rintro e w5 ⟨rfl, hb⟩
        have HBw5 := Lib.hid (HBw4.out.trans (hb.mono HBw4.out.size))
        clear hb
        go_wp2_with (first | (refine ext rfl (.tmp 37) 0 [.string u2, .bool b2] (.string u2) rfl rfl rfl ?_) | (refine ext rfl (.tmp 37) 1 [.string u2, .bool b2] (.bool b2) rfl rfl rfl ?_))
        refine (H3.out _).mono ?_
        rintro e w6 ⟨rfl, hb⟩
        have HBw6 := Lib.hid (HBw5.out.trans (hb.mono HBw5.out.size))
        clear hb
        go_wp2_with (first | (refine ext rfl (.tmp 43) 0 [.string u3, .bool b3] (.string u3) rfl rfl rfl ?_) | (refine ext rfl (.tmp 43) 1 [.string u3, .bool b3] (.bool b3) rfl rfl rfl ?_))
        refine (H4.out _).mono ?_
        rintro e w7 ⟨rfl, hb⟩
        have HBw7 := Lib.hid (HBw6.out.trans (hb.mono HBw6.out.size))
        clear hb
        go_wp2_with (first | (refine ext rfl (.tmp 49) 0 [.string u4, .bool b4] (.string u4) rfl rfl rfl ?_) | (refine ext rfl (.tmp 49) 1 [.string u4, .bool b4] (.bool b4) rfl rfl rfl ?_))
        refine (HS.out _).mono ?_
        rintro e w8 ⟨rfl, rfl⟩
        go_wp2_with fail
        refine (HI.out _).mono ?_
        rintro e w9 ⟨rfl, hb⟩
        have HBw9 := Lib.hid (HBw7.out.trans (hb.mono HBw7.out.size))
        clear hb
        go_wp2_with fail
        go_ret
        exact ⟨rfl, HBw9.out⟩
      | true =>
        refine (H1.out _).mono ?_
        rintro e w4 ⟨rfl, hb⟩
        have HBw4 := Lib.hid (HB3.out.trans (hb.mono HB3.out.size))
        clear hb
        go_wp2_with (first | (refine ext rfl (.tmp 31) 0 [.string ⟨#[]⟩, .bool false] (.string ⟨#[]⟩) rfl rfl rfl ?_) | (refine ext rfl (.tmp 31) 1 [.string ⟨#[]⟩, .bool false] (.bool false) rfl rfl rfl ?_))
        refine (H2.out _).mono ?_
        rintro e w5 ⟨rfl, hb⟩
        have HBw5 := Lib.hid (HBw4.out.trans (hb.mono HBw4.out.size))
        clear hb
        go_wp2_with (first | (refine ext rfl (.tmp 37) 0 [.string u2, .bool b2] (.string u2) rfl rfl rfl ?_) | (refine ext rfl (.tmp 37) 1 [.string u2, .bool b2] (.bool b2) rfl rfl rfl ?_))
        refine (H3.out _).mono ?_
        rintro e w6 ⟨rfl, hb⟩
        have HBw6 := Lib.hid (HBw5.out.trans (hb.mono HBw5.out.size))
        clear hb
        go_wp2_with (first | (refine ext rfl (.tmp 43) 0 [.string u3, .bool b3] (.string u3) rfl rfl rfl ?_) | (refine ext rfl (.tmp 43) 1 [.string u3, .bool b3] (.bool b3) rfl rfl rfl ?_))
        refine (H4.out _).mono ?_
        rintro e w7 ⟨rfl, hb⟩
        have HBw7 := Lib.hid (HBw6.out.trans (hb.mono HBw6.out.size))
        clear hb
        go_wp2_with (first | (refine ext rfl (.tmp 49) 0 [.string u4, .bool b4] (.string u4) rfl rfl rfl ?_) | (refine ext rfl (.tmp 49) 1 [.string u4, .bool b4] (.bool b4) rfl rfl rfl ?_))
        refine (HS.out _).mono ?_
        rintro e w8 ⟨rfl, rfl⟩
        go_wp2_with fail
        refine (HI.out _).mono ?_
        rintro e w9 ⟨rfl, hb⟩
        have HBw9 := Lib.hid (HBw7.out.trans (hb.mono HBw7.out.size))
        clear hb
        go_wp2_with fail
        go_ret
        exact ⟨rfl, HBw9.out⟩
  · go_enter Try.func9, Try.ntmps9
    go_wp2_with fail
    go_ret
    exact ⟨rfl, Below.refl _ _⟩
end Go.Proofs.Ytckmpenlpkhnfab
