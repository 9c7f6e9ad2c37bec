/- A text and a number are drawn; the laws on TextAt and TextMany. -/
import Derived.Test.YtfmpplolhhjpoaaDrT
import Derived.Test.YtfmpplolhhjpoaaMany
namespace Go.Proofs.Ytfmpplolhhjpoaa
open Go.RowKit
theorem below_row {w w1 w2 : World} {g : Nat} (h : Below w.heap.size w w1) (hg : w1.grownBy w2 (some g)) (hge : w.heap.size ≤ g) : Below w.heap.size w w2 :=
  h.grown hg h.size fun k hk => by injection hk with hk; omega
/-- A text and a number. -/
def TnP (w : World) (e : Ending) (w' : World) : Prop := ∃ (s : ByteArray) (z : Int), e = .returned (.tuple #[.string s, .int .i64 z]) ∧ s.size ≤ 400 ∧ -9223372036854775808 ≤ z ∧ z ≤ 9223372036854775807 ∧ Below w.heap.size w w'
theorem okT_le {s : ByteArray} (h : s.size ≤ 400) : okT s = true := by unfold okT; simpa using h
set_option maxHeartbeats 1000000 in
theorem dTextAt (w : World) (a : Option Addr) (n cap : Nat) (h : Cr w a n cap) : Calls Try.prog 30 #[.slice a n cap] w (TnP w) := by
  have HN := Lib.hid (newRnd_any w a n cap h)
  clear h
  go_enter Try.func30, Try.ntmps30
  go_wp2_with fail
  refine HN.out.mono ?_
  rintro e w1 ⟨rfl, hb1, m, hr1⟩
  have HB1 := Lib.hid hb1
  have HR1 := Lib.hid hr1
  clear hb1 hr1
  go_wp2_with fail
  refine (text_draw w1 w.heap.size m cap 0 a HR1.out (by decide)).mono ?_
  rintro e w2 ⟨⟨l, rfl, hl⟩, hg2, k2, hk2, hr2⟩
  have HB2 := Lib.hid (below_row HB1.out hg2 (Nat.le_refl _))
  have HR2 := Lib.hid hr2
  have HL := Lib.hid hl
  clear hl hg2 hr2
  go_wp2_with fail
  refine (pick_any w2 w.heap.size a m cap k2 20 HR2.out (by omega) (by decide)).mono ?_
  rintro e w3 ⟨s, rfl, hsl, hg3, k3, hk3, hr3⟩
  have HB3 := Lib.hid (below_row HB2.out hg3 (Nat.le_refl _))
  have HR3 := Lib.hid hr3
  have hs : s ≤ 20 := by omega
  clear hg3 hr3 hsl
  go_wp2_with fail
  refine (often_draw w3 w.heap.size m cap k3 a ((s : Int) - 10) HR3.out (by omega) (by omega) (by omega)).mono ?_
  rintro e w4 ⟨⟨z, rfl, hz⟩, hg4, k4, hk4, hr4⟩
  have HB4 := Lib.hid (below_row HB3.out hg4 (Nat.le_refl _))
  have HZ := Lib.hid hz
  clear hg4 hr4 hz
  go_wp2_with fail
  go_ret2
  exact ⟨⟨l.toArray⟩, z, rfl, by have := HL.out; simpa [ByteArray.size] using this, HZ.out.1, HZ.out.2, HB4.out⟩
set_option maxHeartbeats 1000000 in
theorem dTextMany (w : World) (a : Option Addr) (n cap : Nat) (h : Cr w a n cap) : Calls Try.prog 33 #[.slice a n cap] w (TnP w) := by
  have HN := Lib.hid (newRnd_any w a n cap h)
  clear h
  go_enter Try.func33, Try.ntmps33
  go_wp2_with fail
  refine HN.out.mono ?_
  rintro e w1 ⟨rfl, hb1, m, hr1⟩
  have HB1 := Lib.hid hb1
  have HR1 := Lib.hid hr1
  clear hb1 hr1
  go_wp2_with fail
  refine (text_draw w1 w.heap.size m cap 0 a HR1.out (by decide)).mono ?_
  rintro e w2 ⟨⟨l, rfl, hl⟩, hg2, k2, hk2, hr2⟩
  have HB2 := Lib.hid (below_row HB1.out hg2 (Nat.le_refl _))
  have HR2 := Lib.hid hr2
  have HL := Lib.hid hl
  clear hl hg2 hr2
  go_wp2_with fail
  refine (pick_any w2 w.heap.size a m cap k2 60 HR2.out (by omega) (by decide)).mono ?_
  rintro e w3 ⟨s, rfl, hsl, hg3, k3, hk3, hr3⟩
  have HB3 := Lib.hid (below_row HB2.out hg3 (Nat.le_refl _))
  have HR3 := Lib.hid hr3
  have hs : s ≤ 60 := by omega
  clear hg3 hr3 hsl
  go_wp2_with fail
  refine (often_draw w3 w.heap.size m cap k3 a ((s : Int) - 3) HR3.out (by omega) (by omega) (by omega)).mono ?_
  rintro e w4 ⟨⟨z, rfl, hz⟩, hg4, k4, hk4, hr4⟩
  have HB4 := Lib.hid (below_row HB3.out hg4 (Nat.le_refl _))
  have HZ := Lib.hid hz
  clear hg4 hr4 hz
  go_wp2_with fail
  go_ret2
  exact ⟨⟨l.toArray⟩, z, rfl, by have := HL.out; simpa [ByteArray.size] using this, HZ.out.1, HZ.out.2, HB4.out⟩
set_option maxHeartbeats 4000000 in
theorem fnTextAt_walk (a : Option Addr) (n cap : Nat) (zs : List Int) (w : World) (h : (a = none ∧ n = 0 ∧ cap = 0 ∧ zs = []) ∨ ∃ x, a = some x ∧ n ≤ cap ∧ cap ≤ maxLen ∧ zs.length = cap ∧ (∀ i, i < zs.length → w.cell? (x.add i) = some (.int .u8 (zs.getD i 0))) ∧ ∀ n ∈ zs, (Lit.int .u8 n).wf = true) :
    Calls Try.prog 8 #[.slice a n cap] w fun e w' => e = .returned (.bool true) ∧ Below w.heap.size w w' := by
  have HC := Lib.hid (dTextAt w a n cap (cr_of h))
  have hcap : n ≤ 9223372036854775807 := by
    rcases h with ⟨_, rfl, _⟩ | ⟨x, _, h1, h2, _⟩
    · omega
    · unfold maxLen at h2; omega
  clear h
  by_cases h0 : n ≤ 1048576
  · go_enter Try.func8, Try.ntmps8
    go_wp2_with fail
    refine HC.out.mono ?_
    rintro e w2 ⟨s, z, rfl, hs, hz1, hz2, hb2⟩
    have HBw2 := Lib.hid hb2
    have hok := okT_le hs
    clear hb2
    go_wp2_with (first | (refine ext rfl (.tmp 16) 0 [.string s, .int .i64 z] (.string s) rfl rfl rfl ?_) | (refine ext rfl (.tmp 16) 1 [.string s, .int .i64 z] (.int .i64 z) rfl rfl rfl ?_))
    have hs2 : s.size ≤ 1048576 := by omega
    rcases at_cases s z with ⟨_, p, hp, hi⟩ | hno | hi | hi
    · have H1 := Lib.hid (fun w => implAt_some s z p w hs2 hz1 hz2 hok hp hi)
      have H2 := Lib.hid (fun w => specAt_some s z p w hs2 hok hp hi)
      rcases hi with rfl | ⟨hn, hi⟩
      · have H3 := Lib.hid (fun w => implAt_some s ((p : Int) - (s.size : Int)) p w hs2 (by omega) (by omega) hok hp (Or.inr ⟨by omega, by omega⟩))
        obtain ⟨o, ho⟩ : ∃ o : ByteArray, o = ⟨#[s[p]]⟩ := ⟨_, rfl⟩
        have HO := Lib.hid (show o.size = 1 by rw [ho]; rfl)
        rw [← ho] at H1 H2 H3
        clear ho hok
        refine (H1.out _).mono ?_
        rintro e w3 ⟨rfl, hb⟩
        have HBw3 := Lib.hid (HBw2.out.trans (hb.mono HBw2.out.size))
        clear hb
        go_wp2_with (first | (refine ext rfl (.tmp 21) 0 [.string o, .bool true] (.string o) rfl rfl rfl ?_) | (refine ext rfl (.tmp 21) 1 [.string o, .bool true] (.bool true) rfl rfl rfl ?_))
        refine (H2.out _).mono ?_
        rintro e w4 ⟨rfl, hb⟩
        have HBw4 := Lib.hid (HBw3.out.trans (hb.mono HBw3.out.size))
        clear hb
        go_wp2_with (first | (refine ext rfl (.tmp 27) 0 [.string o, .bool true] (.string o) rfl rfl rfl ?_) | (refine ext rfl (.tmp 27) 1 [.string o, .bool true] (.bool true) rfl rfl rfl ?_))
        refine (H3.out _).mono ?_
        rintro e w5 ⟨rfl, hb⟩
        have HBw5 := Lib.hid (HBw4.out.trans (hb.mono HBw4.out.size))
        clear hb
        go_wp2_with (first | (refine ext rfl (.tmp 58) 0 [.string o, .bool true] (.string o) rfl rfl rfl ?_) | (refine ext rfl (.tmp 58) 1 [.string o, .bool true] (.bool true) rfl rfl rfl ?_))
        go_ret
        exact ⟨by rw [HO.out]; rfl, HBw5.out⟩
      · have H3 := Lib.hid (fun w => implAt_some s (z + (s.size : Int)) p w hs2 (by omega) (by omega) hok hp (Or.inl hi))
        obtain ⟨o, ho⟩ : ∃ o : ByteArray, o = ⟨#[s[p]]⟩ := ⟨_, rfl⟩
        have HO := Lib.hid (show o.size = 1 by rw [ho]; rfl)
        rw [← ho] at H1 H2 H3
        have hlo : 0 ≤ z + (s.size : Int) := by omega
        have hhi : z + (s.size : Int) ≤ 400 := by omega
        clear ho hok hi
        refine (H1.out _).mono ?_
        rintro e w3 ⟨rfl, hb⟩
        have HBw3 := Lib.hid (HBw2.out.trans (hb.mono HBw2.out.size))
        clear hb
        go_wp2_with (first | (refine ext rfl (.tmp 21) 0 [.string o, .bool true] (.string o) rfl rfl rfl ?_) | (refine ext rfl (.tmp 21) 1 [.string o, .bool true] (.bool true) rfl rfl rfl ?_))
        refine (H2.out _).mono ?_
        rintro e w4 ⟨rfl, hb⟩
        have HBw4 := Lib.hid (HBw3.out.trans (hb.mono HBw3.out.size))
        clear hb
        go_wp2_with (first | (refine ext rfl (.tmp 27) 0 [.string o, .bool true] (.string o) rfl rfl rfl ?_) | (refine ext rfl (.tmp 27) 1 [.string o, .bool true] (.bool true) rfl rfl rfl ?_))
        refine (H3.out _).mono ?_
        rintro e w5 ⟨rfl, hb⟩
        have HBw5 := Lib.hid (HBw4.out.trans (hb.mono HBw4.out.size))
        clear hb
        go_wp2_with (first | (refine ext rfl (.tmp 58) 0 [.string o, .bool true] (.string o) rfl rfl rfl ?_) | (refine ext rfl (.tmp 58) 1 [.string o, .bool true] (.bool true) rfl rfl rfl ?_))
        go_ret
        exact ⟨by rw [HO.out]; rfl, HBw5.out⟩
    · rw [hok] at hno
      cases hno
    · have H1 := Lib.hid (fun w => implAt_low s z w hs2 hz1 hz2 hok hi)
      have H2 := Lib.hid (fun w => specAt_out s z w hs2 hok (Or.inl hi))
      clear hok
      refine (H1.out _).mono ?_
      rintro e w3 ⟨rfl, hb⟩
      have HBw3 := Lib.hid (HBw2.out.trans (hb.mono HBw2.out.size))
      clear hb
      go_wp2_with (first | (refine ext rfl (.tmp 21) 0 [.string ⟨#[]⟩, .bool false] (.string ⟨#[]⟩) rfl rfl rfl ?_) | (refine ext rfl (.tmp 21) 1 [.string ⟨#[]⟩, .bool false] (.bool false) rfl rfl rfl ?_))
      refine (H2.out _).mono ?_
      rintro e w4 ⟨rfl, hb⟩
      have HBw4 := Lib.hid (HBw3.out.trans (hb.mono HBw3.out.size))
      clear hb
      go_wp2_with (first | (refine ext rfl (.tmp 27) 0 [.string ⟨#[]⟩, .bool false] (.string ⟨#[]⟩) rfl rfl rfl ?_) | (refine ext rfl (.tmp 27) 1 [.string ⟨#[]⟩, .bool false] (.bool false) rfl rfl rfl ?_))
      go_ret
      exact ⟨rfl, HBw4.out⟩
    · have H1 := Lib.hid (fun w => implAt_high s z w hs2 hz1 hz2 hok hi)
      have H2 := Lib.hid (fun w => specAt_out s z w hs2 hok (Or.inr hi))
      clear hok
      refine (H1.out _).mono ?_
      rintro e w3 ⟨rfl, hb⟩
      have HBw3 := Lib.hid (HBw2.out.trans (hb.mono HBw2.out.size))
      clear hb
      go_wp2_with (first | (refine ext rfl (.tmp 21) 0 [.string ⟨#[]⟩, .bool false] (.string ⟨#[]⟩) rfl rfl rfl ?_) | (refine ext rfl (.tmp 21) 1 [.string ⟨#[]⟩, .bool false] (.bool false) rfl rfl rfl ?_))
      refine (H2.out _).mono ?_
      rintro e w4 ⟨rfl, hb⟩
      have HBw4 := Lib.hid (HBw3.out.trans (hb.mono HBw3.out.size))
      clear hb
      go_wp2_with (first | (refine ext rfl (.tmp 27) 0 [.string ⟨#[]⟩, .bool false] (.string ⟨#[]⟩) rfl rfl rfl ?_) | (refine ext rfl (.tmp 27) 1 [.string ⟨#[]⟩, .bool false] (.bool false) rfl rfl rfl ?_))
      go_ret
      exact ⟨rfl, HBw4.out⟩
  · go_enter Try.func8, Try.ntmps8
    go_wp2_with fail
    go_ret
    exact ⟨rfl, Below.refl _ _⟩
theorem many_less {s : ByteArray} {n : Int} (hs : s.size ≤ 400) (hn : 0 < n) : (∃ lo lm : ByteArray, lm ++ s = lo ∧ lm.size ≤ 400 ∧ (∀ w, Calls Try.prog 35 #[.string s, .int .i64 n] w fun e w' => e = .returned (.tuple #[.string lo, .bool true]) ∧ Below w.heap.size w w') ∧ (∀ w, Calls Try.prog 34 #[.string s, .int .i64 n] w fun e w' => e = .returned (.tuple #[.string lo, .bool true]) ∧ Below w.heap.size w w') ∧ (∀ w, Calls Try.prog 34 #[.string s, .int .i64 (n - 1)] w fun e w' => e = .returned (.tuple #[.string lm, .bool true]) ∧ Below w.heap.size w w')) ∨
    ((∀ w, Calls Try.prog 35 #[.string s, .int .i64 n] w fun e w' => e = .returned (.tuple #[.string ⟨#[]⟩, .bool false]) ∧ Below w.heap.size w w') ∧ (∀ w, Calls Try.prog 34 #[.string s, .int .i64 n] w fun e w' => e = .returned (.tuple #[.string ⟨#[]⟩, .bool false]) ∧ Below w.heap.size w w')) := by
  have hok := okT_le hs
  have hs2 : s.size ≤ 1048576 := by omega
  by_cases hz : s.size = 0
  · left
    refine ⟨⟨#[]⟩, ⟨#[]⟩, ?_, by decide, fun w => specManyC s n w hs2 hok hn hz, fun w => implManyC s n w hs2 hok hn hz, fun w => ?_⟩
    · apply ByteArray.ext
      have : s.data = #[] := Array.eq_empty_of_size_eq_zero hz
      simp [this]
    · by_cases h1 : n - 1 ≤ 0
      · exact implManyB s (n - 1) w hs2 hok h1
      · exact implManyC s (n - 1) w hs2 hok (by omega) hz
  · have hz' : 0 < s.size := by omega
    by_cases hq : n ≤ 400 / (s.size : Int)
    · left
      have hm := many_room hok hz' hn hq (n.toNat - 1) (by omega)
      have e : n.toNat = (n - 1).toNat + 1 := by omega
      refine ⟨_, ⟨(rp (n - 1).toNat s.data.toList).toArray⟩, ?_, ?_, fun w => specManyE s n w hs2 hok hn hz' hq, fun w => implManyE s n w hs2 hok hn hz' hq, fun w => ?_⟩
      · rw [rp_cat, e]
      · rw [show n.toNat - 1 = (n - 1).toNat by omega] at hm
        simpa [ByteArray.size] using hm
      · by_cases h1 : n - 1 ≤ 0
        · have e0 : (n - 1).toNat = 0 := by omega
          rw [e0]
          exact implManyB s (n - 1) w hs2 hok h1
        · exact implManyE s (n - 1) w hs2 hok (by omega) hz' (by omega)
    · right
      exact ⟨fun w => specManyD s n w hs2 hok hn hz' (Int.lt_of_not_ge hq), fun w => implManyD s n w hs2 hok hn hz' (Int.lt_of_not_ge hq)⟩
set_option maxHeartbeats 4000000 in
theorem fnTextMany_walk (a : Option Addr) (n cap : Nat) (zs : List Int) (w : World) (h : (a = none ∧ n = 0 ∧ cap = 0 ∧ zs = []) ∨ ∃ x, a = some x ∧ n ≤ cap ∧ cap ≤ maxLen ∧ zs.length = cap ∧ (∀ i, i < zs.length → w.cell? (x.add i) = some (.int .u8 (zs.getD i 0))) ∧ ∀ n ∈ zs, (Lit.int .u8 n).wf = true) :
    Calls Try.prog 9 #[.slice a n cap] w fun e w' => e = .returned (.bool true) ∧ Below w.heap.size w w' := by
  have HC := Lib.hid (dTextMany w a n cap (cr_of h))
  have hcap : n ≤ 9223372036854775807 := by
    rcases h with ⟨_, rfl, _⟩ | ⟨x, _, h1, h2, _⟩
    · omega
    · unfold maxLen at h2; omega
  clear h
  by_cases h0 : n ≤ 1048576
  · go_enter Try.func9, Try.ntmps9
    go_wp2_with fail
    refine HC.out.mono ?_
    rintro e w2 ⟨s, z, rfl, hs, hz1, hz2, hb2⟩
    have HBw2 := Lib.hid hb2
    clear hb2
    go_wp2_with (first | (refine ext rfl (.tmp 15) 0 [.string s, .int .i64 z] (.string s) rfl rfl rfl ?_) | (refine ext rfl (.tmp 15) 1 [.string s, .int .i64 z] (.int .i64 z) rfl rfl rfl ?_))
    have hs2 : s.size ≤ 1048576 := by omega
    by_cases hn : 0 < z
    · rcases many_less hs hn with ⟨lo, lm, hcat, hlm, h2, h1, h3⟩ | ⟨h2, h1⟩
      · have H1 := Lib.hid h1
        have H2 := Lib.hid h2
        have H3 := Lib.hid h3
        have HCt := Lib.hid hcat
        clear h1 h2 h3 hcat
        refine (H1.out _).mono ?_
        rintro e w3 ⟨rfl, hb⟩
        have HBw3 := Lib.hid (HBw2.out.trans (hb.mono HBw2.out.size))
        clear hb
        go_wp2_with (first | (refine ext rfl (.tmp 20) 0 [.string lo, .bool true] (.string lo) rfl rfl rfl ?_) | (refine ext rfl (.tmp 20) 1 [.string lo, .bool true] (.bool true) rfl rfl rfl ?_))
        refine (H2.out _).mono ?_
        rintro e w4 ⟨rfl, hb⟩
        have HBw4 := Lib.hid (HBw3.out.trans (hb.mono HBw3.out.size))
        clear hb
        go_wp2_with (first | (refine ext rfl (.tmp 26) 0 [.string lo, .bool true] (.string lo) rfl rfl rfl ?_) | (refine ext rfl (.tmp 26) 1 [.string lo, .bool true] (.bool true) rfl rfl rfl ?_))
        refine (H3.out _).mono ?_
        rintro e w5 ⟨rfl, hb⟩
        have HBw5 := Lib.hid (HBw4.out.trans (hb.mono HBw4.out.size))
        clear hb
        go_wp2_with (first | (refine ext rfl (.tmp 51) 0 [.string lm, .bool true] (.string lm) rfl rfl rfl ?_) | (refine ext rfl (.tmp 51) 1 [.string lm, .bool true] (.bool true) rfl rfl rfl ?_) | (refine (puts_cat 9 9 (.tmp 61) (.tmp 62) rfl lm s rfl rfl (by omega)).gives.plain rfl ?_; rw [HCt.out]) | (refine (puts_cat 9 9 (.tmp 61) (.tmp 62) rfl lm s rfl rfl (by omega)).gives.want rfl ?_; rw [HCt.out]))
        go_ret
        exact ⟨rfl, HBw5.out⟩
      · have H1 := Lib.hid h1
        have H2 := Lib.hid h2
        clear h1 h2
        refine (H1.out _).mono ?_
        rintro e w3 ⟨rfl, hb⟩
        have HBw3 := Lib.hid (HBw2.out.trans (hb.mono HBw2.out.size))
        clear hb
        go_wp2_with (first | (refine ext rfl (.tmp 20) 0 [.string ⟨#[]⟩, .bool false] (.string ⟨#[]⟩) rfl rfl rfl ?_) | (refine ext rfl (.tmp 20) 1 [.string ⟨#[]⟩, .bool false] (.bool false) rfl rfl rfl ?_))
        refine (H2.out _).mono ?_
        rintro e w4 ⟨rfl, hb⟩
        have HBw4 := Lib.hid (HBw3.out.trans (hb.mono HBw3.out.size))
        clear hb
        go_wp2_with (first | (refine ext rfl (.tmp 26) 0 [.string ⟨#[]⟩, .bool false] (.string ⟨#[]⟩) rfl rfl rfl ?_) | (refine ext rfl (.tmp 26) 1 [.string ⟨#[]⟩, .bool false] (.bool false) rfl rfl rfl ?_))
        go_ret
        exact ⟨rfl, HBw4.out⟩
    · have hok := okT_le hs
      have H1 := Lib.hid (fun w => implManyB s z w hs2 hok (by omega))
      have H2 := Lib.hid (fun w => specManyB s z w hs2 hok (by omega))
      clear hok
      refine (H1.out _).mono ?_
      rintro e w3 ⟨rfl, hb⟩
      have HBw3 := Lib.hid (HBw2.out.trans (hb.mono HBw2.out.size))
      clear hb
      go_wp2_with (first | (refine ext rfl (.tmp 20) 0 [.string ⟨#[]⟩, .bool true] (.string ⟨#[]⟩) rfl rfl rfl ?_) | (refine ext rfl (.tmp 20) 1 [.string ⟨#[]⟩, .bool true] (.bool true) rfl rfl rfl ?_))
      refine (H2.out _).mono ?_
      rintro e w4 ⟨rfl, hb⟩
      have HBw4 := Lib.hid (HBw3.out.trans (hb.mono HBw3.out.size))
      clear hb
      go_wp2_with (first | (refine ext rfl (.tmp 26) 0 [.string ⟨#[]⟩, .bool true] (.string ⟨#[]⟩) rfl rfl rfl ?_) | (refine ext rfl (.tmp 26) 1 [.string ⟨#[]⟩, .bool true] (.bool true) rfl rfl rfl ?_))
      go_ret
      exact ⟨rfl, HBw4.out⟩
  · go_enter Try.func9, Try.ntmps9
    go_wp2_with fail
    go_ret
    exact ⟨rfl, Below.refl _ _⟩
end Go.Proofs.Ytfmpplolhhjpoaa
