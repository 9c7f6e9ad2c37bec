/- A text and a slice are drawn; a text turned. -/
import Derived.Test.YtdinjoenpiminaaLwP
namespace Go.Proofs.Ytdinjoenpiminaa
open Go.RowKit
/-- A text and a slice. -/
def CsP (w : World) (e : Ending) (w' : World) : Prop := ∃ (u : ByteArray) (f t s : Int) (hf ht : Bool), e = .returned (.tuple #[.string u, .agg (cutC f t s hf ht)]) ∧ u.size ≤ 400 ∧ Fit f ∧ Fit t ∧ Fit s ∧ Below w.heap.size w w'
set_option maxHeartbeats 2000000 in
theorem dTextCut (w : World) (a : Option Addr) (n cap : Nat) (h : Cr w a n cap) : Calls Try.prog 17 #[.slice a n cap] w (CsP w) := by
  have HB0 := Lib.hid (show Below w.heap.size w (w.alloc (.cells #[.int .i64 0, .int .i64 0, .int .i64 0, .bool false, .bool false] 25)) from (Below.refl _ _).alloc (Nat.le_refl _) _)
  have HX0 := Lib.hid (show CutB (w.alloc (.cells #[.int .i64 0, .int .i64 0, .int .i64 0, .bool false, .bool false] 25)) w.heap.size 0 0 0 false false from Blk.new _ _ _ rfl)
  have HN := Lib.hid (newRnd_on w (.cells #[.int .i64 0, .int .i64 0, .int .i64 0, .bool false, .bool false] 25) a n cap h)
  clear h
  go_enter Try.func17, Try.ntmps17
  go_wp2_with fail
  refine HN.out.mono ?_
  rintro e w1 ⟨rfl, hb1, m, hr1⟩
  have HB1 := Lib.hid (HB0.out.trans (hb1.mono (Nat.le_succ _)))
  have HX1 := Lib.hid (show CutB w1 w.heap.size 0 0 0 false false from Blk.below HX0.out hb1 (Nat.lt_succ_self _))
  have HR1 := Lib.hid hr1
  clear hb1 hr1
  go_wp2_with fail
  refine (text_draw w1 (w.heap.size + 1) m cap 0 a HR1.out (by decide)).mono ?_
  rintro e w3 ⟨⟨l, rfl, hl⟩, hg3, k3, hk3, hr3⟩
  have HB3 := Lib.hid (below_row HB1.out hg3 (Nat.le_succ _))
  have HX3 := Lib.hid (show CutB w3 w.heap.size 0 0 0 false false from (hg3.block _ (Blk.lt HX1.out) (by simp)).trans HX1.out)
  have HR3 := Lib.hid hr3
  have HL := Lib.hid hl
  clear hg3 hr3 hl
  go_wp2_with fail
  refine (cut_draw w3 (w.heap.size + 1) m cap k3 a HR3.out (by omega)).mono ?_
  rintro e wc ⟨f, t, s, hf, ht, rfl, q1, q2, q3, hg2, k9, hk9, hr9⟩
  have HBc := Lib.hid (below_row HB3.out hg2 (Nat.le_succ _))
  have HXc := Lib.hid (show CutB wc w.heap.size 0 0 0 false false from (hg2.block _ (Blk.lt HX3.out) (by simp)).trans HX3.out)
  have HQ := Lib.hid (And.intro q1 (And.intro q2 q3))
  clear hg2 hr9 q1 q2 q3
  unfold cutC
  have d0 : wc.cell? ⟨w.heap.size, 0, none⟩ = some (.int .i64 0) := Blk.cell HXc.out 0
  have g0 : wc.frozen? ⟨w.heap.size, 0, none⟩ = false := Blk.free HXc.out 0
  have d1 : wc.cell? ⟨w.heap.size, 1, none⟩ = some (.int .i64 0) := Blk.cell HXc.out 1
  have g1 : wc.frozen? ⟨w.heap.size, 1, none⟩ = false := Blk.free HXc.out 1
  have d2 : wc.cell? ⟨w.heap.size, 2, none⟩ = some (.int .i64 0) := Blk.cell HXc.out 2
  have g2 : wc.frozen? ⟨w.heap.size, 2, none⟩ = false := Blk.free HXc.out 2
  have d3 : wc.cell? ⟨w.heap.size, 3, none⟩ = some (.bool false) := Blk.cell HXc.out 3
  have g3 : wc.frozen? ⟨w.heap.size, 3, none⟩ = false := Blk.free HXc.out 3
  have d4 : wc.cell? ⟨w.heap.size, 4, none⟩ = some (.bool false) := Blk.cell HXc.out 4
  have g4 : wc.frozen? ⟨w.heap.size, 4, none⟩ = false := Blk.free HXc.out 4
  have R1 := Lib.hid (show CutB (wc.setCell ⟨w.heap.size, 0, none⟩ (.int .i64 f)) w.heap.size f 0 0 false false from Blk.set HXc.out 0 _)
  have R2 := Lib.hid (show CutB ((wc.setCell ⟨w.heap.size, 0, none⟩ (.int .i64 f)).setCell ⟨w.heap.size, 1, none⟩ (.int .i64 t)) w.heap.size f t 0 false false from Blk.set R1.out 1 _)
  have R3 := Lib.hid (show CutB (((wc.setCell ⟨w.heap.size, 0, none⟩ (.int .i64 f)).setCell ⟨w.heap.size, 1, none⟩ (.int .i64 t)).setCell ⟨w.heap.size, 2, none⟩ (.int .i64 s)) w.heap.size f t s false false from Blk.set R2.out 2 _)
  have R4 := Lib.hid (show CutB ((((wc.setCell ⟨w.heap.size, 0, none⟩ (.int .i64 f)).setCell ⟨w.heap.size, 1, none⟩ (.int .i64 t)).setCell ⟨w.heap.size, 2, none⟩ (.int .i64 s)).setCell ⟨w.heap.size, 3, none⟩ (.bool hf)) w.heap.size f t s hf false from Blk.set R3.out 3 _)
  have R5 := Lib.hid (show CutB (((((wc.setCell ⟨w.heap.size, 0, none⟩ (.int .i64 f)).setCell ⟨w.heap.size, 1, none⟩ (.int .i64 t)).setCell ⟨w.heap.size, 2, none⟩ (.int .i64 s)).setCell ⟨w.heap.size, 3, none⟩ (.bool hf)).setCell ⟨w.heap.size, 4, none⟩ (.bool ht)) w.heap.size f t s hf ht from Blk.set R4.out 4 _)
  have HBs := Lib.hid (show Below w.heap.size w (((((wc.setCell ⟨w.heap.size, 0, none⟩ (.int .i64 f)).setCell ⟨w.heap.size, 1, none⟩ (.int .i64 t)).setCell ⟨w.heap.size, 2, none⟩ (.int .i64 s)).setCell ⟨w.heap.size, 3, none⟩ (.bool hf)).setCell ⟨w.heap.size, 4, none⟩ (.bool ht)) from (((((HBc.out.setCell (Nat.le_refl _) _).setCell (Nat.le_refl _) _).setCell (Nat.le_refl _) _).setCell (Nat.le_refl _) _).setCell (Nat.le_refl _) _))
  go_wp2_with fail
  refine bodyPost_ret (v := .tuple #[.string ⟨l.toArray⟩, .agg (cutC f t s hf ht)]) ?_ rfl ⟨⟨l.toArray⟩, f, t, s, hf, ht, rfl, by have := HL.out; show l.toArray.size ≤ 400; simpa using this, HQ.out.1, HQ.out.2.1, HQ.out.2.2, HBs.out⟩
  exact results_tmp_row rfl _ _ (.string ⟨l.toArray⟩) w.heap.size 25 (cutC f t s hf ht) (0, 0) _ rfl rfl R5.out Try.underlying25 rfl (by kernel_rfl)

theorem okC_back : okC 0 0 (-1) false false = true := by decide
theorem back_cnt (n : Nat) : cntZ ((n : Int) - 1) (-1) (-1) = (n : Int) := by
  unfold cntZ
  rw [if_neg (by decide)]
  by_cases h : 0 < n
  · rw [if_pos (by omega), show (-(-1 : Int)) = 1 from rfl, Int.ediv_one]; omega
  · rw [if_neg (by omega)]; omega
/-- A text turned. -/
def rev (s : ByteArray) : ByteArray := ⟨s.data.toList.reverse.toArray⟩
theorem rev_size (s : ByteArray) : (rev s).size = s.size := by
  show (s.data.toList.reverse.toArray).size = s.data.size
  simp
theorem rev_rev (s : ByteArray) : rev (rev s) = s := by apply bytes_eq2; unfold rev; simp
theorem turn_any (s : ByteArray) (hs : s.size ≤ 400) (w : World) : Calls Try.prog 16 #[.string s, .agg (cutC 0 0 (-1) false false)] w fun e w' => e = .returned (.string (rev s)) ∧ Below w.heap.size w w' := by
  have h := implCut_val s 0 0 (-1) false false hs okC_back ((s.size : Int) - 1) s.size rfl (back_cnt s.size) w
  rw [sel_back s s.size rfl] at h
  exact h
theorem turn_range (n : Nat) (hn : n ≤ 400) (w : World) : Calls Try.prog 18 #[.int .i64 (n : Int), .agg (cutC 0 0 (-1) false false)] w fun e w' => e = .returned (.tuple #[.int .i64 ((n : Int) - 1), .int .i64 (n : Int)]) ∧ Below w.heap.size w w' := by
  have h := implRange_ok (n : Int) 0 0 (-1) false false w okC_back (by omega) (by omega)
  unfold rngV at h
  rw [show cFrom (n : Int) 0 (-1) false = (n : Int) - 1 from rfl, show cTo (n : Int) 0 (-1) false = -1 from rfl, back_cnt] at h
  exact h
set_option maxHeartbeats 4000000 in
theorem fnTextTurned_walk (a : Option Addr) (n cap : Nat) (zs : List Int) (w : World) (h : (a = none ∧ n = 0 ∧ cap = 0 ∧ zs = []) ∨ ∃ x, a = some x ∧ n ≤ cap ∧ cap ≤ maxLen ∧ zs.length = cap ∧ (∀ i, i < zs.length → w.cell? (x.add i) = some (.int .u8 (zs.getD i 0))) ∧ ∀ n ∈ zs, (Lit.int .u8 n).wf = true) :
    Calls Try.prog 5 #[.slice a n cap] w fun e w' => e = .returned (.bool true) ∧ Below w.heap.size w w' := by
  have HC := Lib.hid (dTextCut w a n cap (cr_of h))
  have hcap : n ≤ 9223372036854775807 := by
    rcases h with ⟨_, rfl, _⟩ | ⟨x, _, h1, h2, _⟩
    · omega
    · unfold maxLen at h2; omega
  clear h
  by_cases h0 : n ≤ 1048576
  · go_enter Try.func5, Try.ntmps5
    go_wp2_with fail
    refine HC.out.mono ?_
    rintro e w2 ⟨s, f, t, st, hf, ht, rfl, hs, _, _, _, hb2⟩
    unfold cutC
    have HX2 := Lib.hid (show Blk (w2.alloc (.cells #[.int .i64 f, .int .i64 t, .int .i64 st, .bool hf, .bool ht] 25)) w2.heap.size 25 #[.int .i64 f, .int .i64 t, .int .i64 st, .bool hf, .bool ht] from Blk.new _ _ _ rfl)
    have HBw2 := Lib.hid (show Below w.heap.size w (w2.alloc (.cells #[.int .i64 f, .int .i64 t, .int .i64 st, .bool hf, .bool ht] 25)) from hb2.alloc hb2.size _)
    clear hb2
    go_wp2_with (first | (refine ext rfl (.tmp 12) 0 [.string s, .agg #[.int .i64 f, .int .i64 t, .int .i64 st, .bool hf, .bool ht]] (.string s) rfl rfl rfl ?_) | (refine ext rfl (.tmp 12) 1 [.string s, .agg #[.int .i64 f, .int .i64 t, .int .i64 st, .bool hf, .bool ht]] (.agg #[.int .i64 f, .int .i64 t, .int .i64 st, .bool hf, .bool ht]) rfl rfl rfl ?_))
    obtain ⟨l, h2, h1⟩ := cut_all s f t st hf ht (by omega)
    have H1 := Lib.hid h1
    have H2 := Lib.hid h2
    have H3 := Lib.hid (fun w => turn_any s hs w)
    have H4 := Lib.hid (fun w => turn_range s.size hs w)
    have H5 := Lib.hid (fun w => turn_any (rev s) (by rw [rev_size]; exact hs) w)
    rw [rev_rev] at H5
    have hrs := rev_size s
    obtain ⟨q, hq⟩ : ∃ q, q = rev s := ⟨_, rfl⟩
    rw [← hq] at H3 H5 hrs
    unfold cutC at H1 H2 H3 H4 H5
    have HRS := Lib.hid hrs
    clear h1 h2 hq hrs
    refine (H1.out _).mono ?_
    rintro e w3 ⟨rfl, hb⟩
    have HX3 := Lib.hid (HX2.out.below hb HX2.out.lt)
    have HBw3 := Lib.hid (HBw2.out.trans (hb.mono HBw2.out.size))
    clear hb
    have c0 : w3.cell? ⟨w2.heap.size, 0, none⟩ = some (.int .i64 f) := HX3.out.cell 0
    have c1 : w3.cell? ⟨w2.heap.size, 1, none⟩ = some (.int .i64 t) := HX3.out.cell 1
    have c2 : w3.cell? ⟨w2.heap.size, 2, none⟩ = some (.int .i64 st) := HX3.out.cell 2
    have c3 : w3.cell? ⟨w2.heap.size, 3, none⟩ = some (.bool hf) := HX3.out.cell 3
    have c4 : w3.cell? ⟨w2.heap.size, 4, none⟩ = some (.bool ht) := HX3.out.cell 4
    go_wp2_with fail
    clear c0 c1 c2 c3 c4
    refine (H2.out _).mono ?_
    rintro e w4 ⟨rfl, hb⟩
    have HX4 := Lib.hid (HX3.out.below hb HX3.out.lt)
    have HBw4 := Lib.hid (HBw3.out.trans (hb.mono HBw3.out.size))
    clear hb
    go_wp2_with fail
    refine (H3.out _).mono ?_
    rintro e w5 ⟨rfl, hb⟩
    have HX5 := Lib.hid (HX4.out.below hb HX4.out.lt)
    have HBw5 := Lib.hid (HBw4.out.trans (hb.mono HBw4.out.size))
    clear hb
    go_wp2_with fail
    refine (H4.out _).mono ?_
    rintro e w6 ⟨rfl, hb⟩
    have HX6 := Lib.hid (HX5.out.below hb HX5.out.lt)
    have HBw6 := Lib.hid (HBw5.out.trans (hb.mono HBw5.out.size))
    clear hb
    go_wp2_with (first | (refine ext rfl (.tmp 33) 0 [.int .i64 ((s.size : Int) - 1), .int .i64 (s.size : Int)] (.int .i64 ((s.size : Int) - 1)) rfl rfl rfl ?_) | (refine ext rfl (.tmp 33) 1 [.int .i64 ((s.size : Int) - 1), .int .i64 (s.size : Int)] (.int .i64 (s.size : Int)) rfl rfl rfl ?_))
    refine (H5.out _).mono ?_
    rintro e w7 ⟨rfl, hb⟩
    have HBw7 := Lib.hid (HBw6.out.trans (hb.mono HBw6.out.size))
    clear hb
    have hqs : ((q.size : Int) == (s.size : Int)) = true := by rw [HRS.out]; simp
    have hqs2 : (((s.size : Int) - 1) == ((s.size : Int) - 1)) = true := by simp
    cases hz : ((s.size : Int) == 0)
    all_goals
      go_wp2_with fail
      go_ret
      exact ⟨rfl, HBw7.out⟩
  · go_enter Try.func5, Try.ntmps5
    go_wp2_with fail
    go_ret
    exact ⟨rfl, Below.refl _ _⟩
end Go.Proofs.Ytdinjoenpiminaa
