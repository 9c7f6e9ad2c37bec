/- A text is drawn; the law on TextQuote. -/
import Derived.Test.YtfmpplolhhjpoaaLwT
import Derived.Test.YtfmpplolhhjpoaaUq2
namespace Go.Proofs.Ytfmpplolhhjpoaa
open Go.RowKit
theorem qb_pos (b : UInt8) : 1 ≤ (qb b).length := by
  rcases qb_cases b with ⟨h, _⟩ | ⟨h, _⟩ | ⟨h, _⟩ | h
  all_goals rw [h]; simp
theorem qs_ge (l : List UInt8) : l.length ≤ (qs l).length := by
  induction l with
  | nil => simp [qs]
  | cons a l ih =>
    rw [qs_cons, List.length_append, List.length_cons]
    have := qb_pos a
    omega
/-- Some text. -/
def TxT (w : World) (e : Ending) (w' : World) : Prop := ∃ s : ByteArray, e = .returned (.string s) ∧ s.size ≤ 400 ∧ Below w.heap.size w w'
set_option maxHeartbeats 1000000 in
theorem dTextQuote (w : World) (a : Option Addr) (n cap : Nat) (h : Cr w a n cap) : Calls Try.prog 36 #[.slice a n cap] w (TxT w) := by
  have HN := Lib.hid (newRnd_any w a n cap h)
  clear h
  go_enter Try.func36, Try.ntmps36
  go_wp2_with fail
  refine HN.out.mono ?_
  rintro e w1 ⟨rfl, hb1, m, hr1⟩
  have HB1 := Lib.hid hb1
  have HR1 := Lib.hid hr1
  clear hb1 hr1
  go_wp2_with fail
  refine (text_draw w1 w.heap.size m cap 0 a HR1.out (by decide)).mono ?_
  rintro e w2 ⟨⟨l, rfl, hl⟩, hg2, k2, hk2, hr2⟩
  have HB2 := Lib.hid (below_row HB1.out hg2 (Nat.le_refl _))
  have HL := Lib.hid hl
  clear hl hg2 hr2
  go_wp2_with fail
  go_ret
  exact ⟨⟨l.toArray⟩, rfl, by have := HL.out; simpa [ByteArray.size] using this, HB2.out⟩
set_option maxHeartbeats 4000000 in
theorem fnTextQuote_walk (a : Option Addr) (n cap : Nat) (zs : List Int) (w : World) (h : (a = none ∧ n = 0 ∧ cap = 0 ∧ zs = []) ∨ ∃ x, a = some x ∧ n ≤ cap ∧ cap ≤ maxLen ∧ zs.length = cap ∧ (∀ i, i < zs.length → w.cell? (x.add i) = some (.int .u8 (zs.getD i 0))) ∧ ∀ n ∈ zs, (Lit.int .u8 n).wf = true) :
    Calls Try.prog 10 #[.slice a n cap] w fun e w' => e = .returned (.bool true) ∧ Below w.heap.size w w' := by
  have HC := Lib.hid (dTextQuote w a n cap (cr_of h))
  have hcap : n ≤ 9223372036854775807 := by
    rcases h with ⟨_, rfl, _⟩ | ⟨x, _, h1, h2, _⟩
    · omega
    · unfold maxLen at h2; omega
  clear h
  by_cases h0 : n ≤ 1048576
  · go_enter Try.func10, Try.ntmps10
    go_wp2_with fail
    refine HC.out.mono ?_
    rintro e w2 ⟨s, rfl, hs, hb2⟩
    have HBw2 := Lib.hid hb2
    have hok := okT_le hs
    clear hb2
    have hs2 : s.size ≤ 1048576 := by omega
    obtain ⟨q, hq⟩ : ∃ q, q = quV s := ⟨_, rfl⟩
    have hql : q.data.toList = Qt s.data.toList := by rw [hq]; unfold quV; rw [if_pos hok]; rfl
    have hsl : s.data.toList.length = s.size := rfl
    have hqs : q.size = (Qt s.data.toList).length := by rw [← hql]; rfl
    have hge := qs_ge s.data.toList
    have hqn := Qt_len s.data.toList
    have HQ := Lib.hid (show s.size + 2 ≤ q.size by rw [hqs]; unfold Qt; simp; omega)
    have H1 := Lib.hid (fun w => implQuote_any s w hs2)
    have H2 := Lib.hid (fun w => specQuote_any s w hs2)
    rw [← hq] at H1 H2
    have H3 := Lib.hid (show ∀ w, Calls Try.prog 23 #[.string q] w fun e w' => e = .returned (.tuple #[.string s, .bool true]) ∧ Below w.heap.size w w' from fun w => (implUnq_any q w (by omega)).mono fun e w' ⟨h1, h2⟩ => ⟨by rw [h1.1 s.data.toList (by omega) hql], h2⟩)
    have hqe : (q.toList == []) = false := toList_ne (by omega)
    have hq5 : q.size ≤ 5000 := by omega
    clear hq hql hqs hge hqn hok
    go_wp2_with fail
    refine (H1.out _).mono ?_
    rintro e w3 ⟨rfl, hb⟩
    have HBw3 := Lib.hid (HBw2.out.trans (hb.mono HBw2.out.size))
    clear hb
    go_wp2_with fail
    refine (H2.out _).mono ?_
    rintro e w4 ⟨rfl, hb⟩
    have HBw4 := Lib.hid (HBw3.out.trans (hb.mono HBw3.out.size))
    clear hb
    have hq2 : (s.size : Int) + 2 ≤ (q.size : Int) := by have := HQ.out; omega
    go_wp2_with fail
    refine (H3.out _).mono ?_
    rintro e w5 ⟨rfl, hb⟩
    have HBw5 := Lib.hid (HBw4.out.trans (hb.mono HBw4.out.size))
    clear hb
    go_wp2_with (first | (refine ext rfl (.tmp 28) 0 [.string s, .bool true] (.string s) rfl rfl rfl ?_) | (refine ext rfl (.tmp 28) 1 [.string s, .bool true] (.bool true) rfl rfl rfl ?_))
    go_ret
    exact ⟨rfl, HBw5.out⟩
  · go_enter Try.func10, Try.ntmps10
    go_wp2_with fail
    go_ret
    exact ⟨rfl, Below.refl _ _⟩
end Go.Proofs.Ytfmpplolhhjpoaa
