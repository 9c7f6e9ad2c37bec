/- The slots that are looked at for a key: the program's. -/
import Derived.Test.YtplpgcbdbmfffaaEnds
namespace Go.Proofs.Ytplpgcbdbmfffaa
open Go.RowKit
/-- The slots of the first so many steps, as values. -/
def prl (m h n : Nat) : List Value := (List.range n).map fun t => Value.int .i64 ((pr m h t).1 : Int)
theorem prl_len (m h n : Nat) : (prl m h n).length = n := by simp [prl]
theorem prl_next (m h n : Nat) : prl m h n ++ [.int .i64 ((pr m h n).1 : Int)] = prl m h (n + 1) := by simp [prl, List.range_succ]
def PrI (w wr : World) (g : Nat) (ix : List Int) (a : Option Addr) (es : List Ent) (m h n : Nat) (v : Value) : Prop := Below w.heap.size w wr ∧ Tb wr g ix a es ∧ Own wr w.heap.size 3 v (prl m h n)
theorem pr_nextI {w w1 w2 : World} {g m h n : Nat} {ix : List Int} {a : Option Addr} {es : List Ent} {v2 : Value} (hi : Below w.heap.size w w1 ∧ Tb w1 g ix a es) (hg : g < w.heap.size) (ho : Own w2 w.heap.size 3 v2 (prl m h n ++ [.int .i64 ((pr m h n).1 : Int)])) (hb : Below w.heap.size w1 w2) (ha : ∀ g2, a = some ⟨g2, 0, none⟩ → g2 < w.heap.size) : PrI w w2 g ix a es m h (n + 1) v2 := by
  refine ⟨hi.1.trans hb, ?_, by rw [← prl_next]; exact ho⟩
  refine ⟨Nat.lt_of_lt_of_le hi.2.1 hb.size, hi.2.2.1.below hb hg, ?_⟩
  rcases hi.2.2.2 with h | ⟨g2, h1, h2⟩
  · exact .inl h
  · exact .inr ⟨g2, h1, h2.below hb (ha g2 h1)⟩
theorem PrI.below {w wr w2 : World} {g m h n : Nat} {ix : List Int} {a : Option Addr} {es : List Ent} {v : Value} (hi : PrI w wr g ix a es m h n v) (hb : Below wr.heap.size wr w2) : PrI w w2 g ix a es m h n v :=
  ⟨hi.1.trans (hb.mono hi.1.size), hi.2.1.below hb, World.ownsRow.kept hi.2.2 (row := none) ⟨hb.os, hb.tape, hb.output, hb.size, fun k hk _ => hb.block k hk⟩ (by
    by_cases e : v.ownBlock = none
    · exact .inl e
    · exact .inr e)⟩
theorem PrI.next {w wr w2 : World} {g m h n : Nat} {ix : List Int} {a : Option Addr} {es : List Ent} {v v2 : Value} (hi : PrI w wr g ix a es m h n v) (hg : g < w.heap.size) (ha : ∀ g2, a = some ⟨g2, 0, none⟩ → g2 < w.heap.size) (ho : Own w2 w.heap.size 3 v2 (prl m h n ++ [.int .i64 ((pr m h n).1 : Int)])) (hb : Below w.heap.size wr w2) : PrI w w2 g ix a es m h (n + 1) v2 := pr_nextI ⟨hi.1, hi.2.1⟩ hg ho hb ha
def PrP (w : World) (g : Nat) (ix : List Int) (a : Option Addr) (es : List Ent) (m h n : Nat) (e : Ending) (w' : World) : Prop := ∃ v, e = .returned v ∧ PrI w w' g ix a es m h n v
theorem rest_eq (m h t : Nat) : ((pr m h t).2 : Int).tdiv 8 = ((pr m h (t + 1)).2 : Int) := by
  rw [Int.tdiv_eq_ediv_of_nonneg (by omega)]
  show _ = (((pr m h t).2 / 8 : Nat) : Int)
  omega
theorem slot_eq (m h t : Nat) : (5 * ((pr m h t).1 : Int) + ((pr m h (t + 1)).2 : Int) + 1).tmod (m : Int) = ((pr m h (t + 1)).1 : Int) := by
  rw [Int.tmod_eq_emod_of_nonneg (by omega)]
  show _ = (((5 * (pr m h t).1 + (pr m h t).2 / 8 + 1) % m : Nat) : Int)
  rw [show (pr m h (t + 1)).2 = (pr m h t).2 / 8 from rfl, Int.natCast_emod]
  congr 1
theorem rest_le {m h : Nat} (hh : h < 65536) (t : Nat) : (pr m h t).2 < 65536 := by
  rw [pr_rest]
  exact Nat.lt_of_le_of_lt (Nat.div_le_self _ _) hh
theorem first_eq (m h : Nat) : ((h : Int)).tmod (m : Int) = ((pr m h 0).1 : Int) := by
  rw [Int.tmod_eq_emod_of_nonneg (by omega)]
  show _ = ((h % m : Nat) : Int)
  omega
def slN : Value → Nat
  | .slice _ n _ => n
  | _ => 0
theorem PrI.len {w wr : World} {g m h n : Nat} {ix : List Int} {a : Option Addr} {es : List Ent} {v : Value} (hi : PrI w wr g ix a es m h n v) : slN v = n := by
  rcases Own.form hi.2.2 with ⟨h1, h2⟩ | ⟨g2, cap, h1, _⟩
  · have := prl_len m h n; rw [h2] at this; rw [h1]; simpa [slN] using this
  · rw [h1]; simp [slN, prl_len]
set_option maxHeartbeats 1000000 in
set_option maxRecDepth 20000 in
theorem probes_any (ix : List Int) (es : List Ent) (key : ByteArray) (g c1 c2 hs T : Nat) (a : Option Addr) (w : World) (h : Tb w g ix a es) (hok : slotOk ix es) (hm8 : slotN ix.length = true) (hl : es.length ≤ 1048576) (hh : hs < 65536) (hT0 : T ≤ 1000) (hT : endB ix es key (pr ix.length hs T).1 = true) (hlt : ∀ t, t < T → endB ix es key (pr ix.length hs t).1 = false) :
    Calls Try.prog 67 #[.agg #[.slice (some ⟨g, 0, none⟩) ix.length c1, .slice a es.length c2], .string key, .int .i64 (hs : Int)] w (PrP (w.alloc (Obj.cells #[.slice (some ⟨g, 0, none⟩) ix.length c1, .slice a es.length c2] 61)) g ix a es ix.length hs (T + 1)) := by
  have hmm : 8 ≤ ix.length ∧ ix.length ≤ 128 := by have := slotN_mem hm8; simp at this; omega
  have HEnd := Lib.hid (fun (s : Nat) w h hs => endsAt_any ix es key g c1 c2 s a w h hok hs hl (by omega))
  obtain ⟨w1, hw1⟩ : ∃ w1, w1 = w.alloc (Obj.cells #[.slice (some ⟨g, 0, none⟩) ix.length c1, .slice a es.length c2] 61) := ⟨_, rfl⟩
  have HT1 := Lib.hid (show Tb w1 g ix a es from by rw [hw1]; exact h.below ((Below.refl _ _).alloc (Nat.le_refl _) _))
  have HBox := Lib.hid (show Blk w1 w.heap.size _ #[.slice (some ⟨g, 0, none⟩) ix.length c1, .slice a es.length c2] from by rw [hw1]; exact Blk.newest w _ _)
  have HG := Lib.hid (show g < w1.heap.size from HT1.out.1)
  have HA := Lib.hid (show ∀ g2, a = some ⟨g2, 0, none⟩ → g2 < w1.heap.size from fun g2 e => by
    rcases HT1.out.2.2 with ⟨h1, _⟩ | ⟨g3, h1, h2⟩
    · rw [h1] at e; cases e
    · rw [h1] at e; injection e with e; injection e with e; subst e; exact h2.1)
  have H0 := Lib.hid (show PrI w1 (w1.alloc (Obj.cells #[.int .i64 ((pr ix.length hs 0).1 : Int)] 3)) g ix a es ix.length hs 1 (.slice (some ⟨w1.heap.size, 0, none⟩) 1 1) from ⟨(Below.refl _ _).alloc (Nat.le_refl _) _, HT1.out.below ((Below.refl _ _).alloc (Nat.le_refl _) _), World.ownsRow_lit w1 #[.int .i64 ((pr ix.length hs 0).1 : Int)] 1 (Nat.le_refl _) (by decide) rfl⟩)
  have e0 := first_eq ix.length hs
  have hsz : w1.heap.size = w.heap.size + 1 := by rw [hw1]; simp
  have HP := Lib.hid (fun t => (show (pr ix.length hs t).1 < ix.length from pr_lt (by omega) t))
  have HR := Lib.hid (fun t => (rest_le hh t : (pr ix.length hs t).2 < 65536))
  have HQ := Lib.hid (fun t => And.intro (rest_eq ix.length hs t) (slot_eq ix.length hs t))
  have HTE := Lib.hid hT
  have HLT := Lib.hid hlt
  have hm0 : ¬ (ix.length : Int) = 0 := by omega
  have hp0 := HP.out 0
  clear h hok hm8 hT hlt
  generalize hmE : ix.length = m at *
  clear hmE
  generalize es.length = ne at *
  have HW1 := Lib.hid hw1
  have HE0 := Lib.hid e0
  clear hw1
  go_enter Try.func67, Try.ntmps67
  go_wp2_with fail
  go_loopw [7, 8, 9] (fun s r v wr => ∃ t : Nat, t ≤ T ∧ s = .int .i64 ((pr m hs t).1 : Int) ∧ r = .int .i64 ((pr m hs t).2 : Int) ∧ Hid (PrI w1 wr g ix a es m hs (t + 1) v)) (fun _ _ v _ => T + 1 - slN v)
  case atStart => exact ⟨0, by omega, by first | rfl | rw [HE0.out] | simp [HE0.out], rfl, Lib.hid (by have h0 := H0.out; rw [HW1.out] at h0 ⊢; simpa using h0)⟩
  case round =>
    obtain ⟨t, ht, rfl, rfl, HI⟩ := hrel
    have HB := Lib.hid (HBox.out.below HI.out.1 (by rw [hsz]; omega))
    have b0 := HB.out.cell 0
    have b1 := HB.out.cell 1
    go_wp2_with fail
    refine (HEnd.out _ _ HI.out.2.1 (HP.out t)).mono ?_
    rintro e w2 ⟨rfl, hb2⟩
    have HI2 := Lib.hid (HI.out.below hb2)
    have HN := Lib.hid HI2.out.len
    have HB2 := Lib.hid (HBox.out.below HI2.out.1 (by rw [hsz]; omega))
    clear hb2 b0 b1
    by_cases hlt : t < T
    · have hE : endB ix es key (pr m hs t).1 = false := HLT.out t hlt
      rw [hE]
      have b0 := HB2.out.cell 0
      obtain ⟨q1, q2⟩ := HQ.out t
      have p1 := HP.out t
      have p2 := HP.out (t + 1)
      have r1 := HR.out t
      have r2 := HR.out (t + 1)
      have HZ := Lib.hid (show w1.heap.size ≤ w2.heap.size from HI2.out.1.size)
      obtain ⟨s', hs'⟩ : ∃ s', s' = (pr m hs (t + 1)).1 := ⟨_, rfl⟩
      obtain ⟨r', hr'⟩ : ∃ r', r' = (pr m hs (t + 1)).2 := ⟨_, rfl⟩
      have HS' := Lib.hid hs'
      have HR' := Lib.hid hr'
      rw [← hs', ← hr'] at q2
      rw [← hr'] at q1
      rw [← hs'] at p2
      rw [← hr'] at r2
      clear hs' hr' hE
      generalize (pr m hs t).1 = s at *
      generalize (pr m hs t).2 = r at *
      have k1 : 0 ≤ 5 * (s : Int) + (r' : Int) + 1 := by omega
      have k2 : 5 * (s : Int) + (r' : Int) + 1 ≤ 100000 := by omega
      go_wp2_with (first | (refine app1 rfl (.tmp 34) (.tmp 36) 24 3 (.int .i64 0) 8 rfl Try.underlying24 (by kernel_rfl) rfl (by decide) w2 w2 _ rfl w1.heap.size _ _ rfl rfl HI2.out.2.2 rfl ?_ HZ.out (Below.refl _ _) ?_; (rw [prl_len]; omega); intro v2 w3 ho hb3 _; have HT := Lib.hid (HI2.out.next HG.out HA.out (by rw [← HS'.out]; exact ho) hb3); clear ho hb3))
      go_roundw
      case rel => exact ⟨t + 1, by omega, by rw [HS'.out], by rw [HR'.out], HT⟩
      case measure => rw [HT.out.len, HN.out]; omega
    · obtain rfl : t = T := by omega
      rw [HTE.out]
      go_wp2_with fail
      go_ret
      exact ⟨_, rfl, by rw [← HW1.out]; exact HI2.out⟩
end Go.Proofs.Ytplpgcbdbmfffaa
