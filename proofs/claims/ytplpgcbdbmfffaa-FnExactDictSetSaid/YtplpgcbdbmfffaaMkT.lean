/- The law's marks of texts, and of entries. -/
import Derived.Test.YtplpgcbdbmfffaaDeC
import Derived.Test.YtplpgcbdbmfffaaDr2
namespace Go.Proofs.Ytplpgcbdbmfffaa
open Go.RowKit
/-- The digits of a number. -/
def dg (k : Nat) : List UInt8 := if h : k = 0 then [] else dg (k / 10) ++ [UInt8.ofNat (48 + k % 10)]
theorem dg_zero : dg 0 = [] := by rw [dg]; rfl
theorem dg_next {k : Nat} (h : k ≠ 0) : dg k = dg (k / 10) ++ [UInt8.ofNat (48 + k % 10)] := by rw [dg, dif_neg h]
theorem dg_len (n : Nat) : ∀ k, k < 10 ^ n → (dg k).length ≤ n := by
  induction n with
  | zero => intro k hk; obtain rfl : k = 0 := by simpa using hk
            rw [dg_zero]; simp
  | succ n ih =>
    intro k hk
    by_cases h : k = 0
    · rw [h, dg_zero]; simp
    · rw [dg_next h, List.length_append]
      have := ih (k / 10) (by rw [Nat.pow_succ] at hk; omega)
      simp; omega
/-- The mark of a number. -/
def mkT (k : Nat) : List UInt8 := 109 :: dg k
set_option maxRecDepth 20000 in
set_option maxHeartbeats 4000000 in
theorem markText_any (m : Nat) (w : World) (h1 : 0 < m) (h2 : m ≤ 1000000000) : Calls Try.prog 82 #[.int .i64 (m : Int)] w fun e w' => e = .returned (.string ⟨(mkT m).toArray⟩) ∧ Below w.heap.size w w' := by
  have k1 : (0 : Int) < (m : Int) := by omega
  have hm0 : ¬ m = 0 := by omega
  have hm1 : decide (m = 0) = false := decide_eq_false hm0
  have HL := Lib.hid (dg_len 10 m (by omega))
  have HM := Lib.hid h2
  go_enter Try.func82, Try.ntmps82
  go_wp2_with fail
  go_loopw [0, 3] (fun i v wr => ∃ (k : Nat) (l : List UInt8), k ≤ m ∧ i = .int .i64 (k : Int) ∧ v = .string ⟨l.toArray⟩ ∧ Hid (dg k ++ l = dg m) ∧ Hid (Below w.heap.size w wr)) (fun i _ _ => (intOf i).toNat)
  case atStart => exact ⟨m, [], Nat.le_refl _, rfl, rfl, Lib.hid (by simp), Lib.hid (Below.refl _ _)⟩
  case round =>
    obtain ⟨k, l, hk, rfl, rfl, HD, HI⟩ := hrel
    have hl : l.length ≤ 10 := by have h3 := congrArg List.length HD.out; rw [List.length_append] at h3; have := HL.out; omega
    by_cases hlt : 0 < k
    · have q1 : (0 : Int) < (k : Int) := by omega
      have q2 : (k : Int) ≤ 1000000000 := by omega
      have e1 : (k : Int).tmod 10 = ((k % 10 : Nat) : Int) := by rw [Int.tmod_eq_emod_of_nonneg (by omega)]; omega
      have e2 : (k : Int).tdiv 10 = ((k / 10 : Nat) : Int) := by rw [Int.tdiv_eq_ediv_of_nonneg (by omega)]; omega
      have e3 : IntKind.u8.wrap (48 + ((k % 10 : Nat) : Int)) = ((UInt8.ofNat (48 + k % 10)).toNat : Int) := by
        have : (UInt8.ofNat (48 + k % 10)).toNat = 48 + k % 10 := by simp [UInt8.toNat_ofNat']; omega
        rw [this]
        have h9 : k % 10 < 10 := Nat.mod_lt _ (by decide)
        generalize k % 10 = r at *
        rw [IntKind.wrap_u8]; omega
      have e4 : 0 ≤ ((k % 10 : Nat) : Int) := by omega
      have e5 : ((k % 10 : Nat) : Int) ≤ 9 := by omega
      have HD2 := Lib.hid (show dg (k / 10) ++ (UInt8.ofNat (48 + k % 10) :: l) = dg m by rw [← HD.out, dg_next (by omega : k ≠ 0), List.append_assoc]; rfl)
      have hk2 : k / 10 < k := Nat.div_lt_self hlt (by decide)
      generalize hc : UInt8.ofNat (48 + k % 10) = c at *
      generalize k % 10 = r at *
      generalize k / 10 = q at *
      clear hc
      go_wp2_with (first | (refine (puts_text 55 9 5 (.tmp 12) rfl Try.underlying55 Try.underlying5 Try.underlying9 wr.heap.size _ [c] rfl (lit8 wr (c.toNat : Int) c rfl)).gives.plain rfl ?_) | (refine (puts_cons2 9 9 (.tmp 13) (.tmp 14) rfl c l rfl rfl (by omega)).gives.plain rfl ?_))
      go_roundw
      case rel => exact ⟨q, c :: l, by omega, by first | rfl | go_num, rfl, HD2, Lib.hid (HI.out.alloc HI.out.size _)⟩
      case measure => simp [intOf]; try omega
    · obtain rfl : k = 0 := by omega
      have HE := Lib.hid (show l = dg m by rw [← HD.out, dg_zero]; rfl)
      have hlt' : ¬ (0 : Int) < ((0 : Nat) : Int) := by omega
      go_wp2_with fail
      go_ret
      refine ⟨?_, HI.out⟩
      show Ending.returned (.string (⟨#[109]⟩ ++ ⟨l.toArray⟩)) = _
      rw [cat_cons, HE.out]; rfl
/-- Block g holds n entries, whatever they are. -/
def EnW (w : World) (g n : Nat) : Prop := ∃ cs : Array Value, Blk w g 64 cs ∧ cs.size = n * 4
theorem EnK.w {w : World} {g n k : Nat} {es : List Ent} (h : EnK w g n es k) : EnW w g n := by
  obtain ⟨cs, h1, h2, _⟩ := h
  exact ⟨cs, h1, h2⟩
theorem EnW.old {w : World} {g n i : Nat} (h : EnW w g n) (hi : i < n * 4) : ∃ v, w.cell? ⟨g, i, none⟩ = some v ∧ w.frozen? ⟨g, i, none⟩ = false := by
  obtain ⟨cs, h1, h2⟩ := h
  refine ⟨cs[i]'(by omega), ?_, h1.free i⟩
  rw [h1.cell i]
  exact Array.getElem?_eq_getElem (by omega)
theorem EnW.set {w : World} {g n i : Nat} {v : Value} (h : EnW w g n) : EnW (w.setCell ⟨g, i, none⟩ v) g n := by
  obtain ⟨cs, h1, h2⟩ := h
  exact ⟨_, h1.set i v, by simp [h2]⟩
theorem EnW.below {w w' : World} {B g n : Nat} (h : EnW w g n) (hb : Below B w w') (hg : g < B) : EnW w' g n := by
  obtain ⟨cs, h1, h2⟩ := h
  exact ⟨cs, h1.below hb hg, h2⟩
theorem EnW.lt {w : World} {g n : Nat} (h : EnW w g n) : g < w.heap.size := by
  obtain ⟨cs, h1, _⟩ := h
  exact h1.lt
/-- While entries are marked: of what was there only block g is written. -/
def MkE (w wr : World) (g n : Nat) : Prop := w.grownBy wr (some g) ∧ EnW wr g n
theorem MkE.set {w wr : World} {g n i : Nat} {v : Value} (h : MkE w wr g n) : MkE w (wr.setCell ⟨g, i, none⟩ v) g n :=
  ⟨grown_trans h.1 ⟨rfl, rfl, rfl, by simp, fun j _ hj => heap_setCell_other wr ⟨g, i, none⟩ j v (fun e => hj (by rw [e]))⟩, h.2.set⟩
theorem MkE.more {w wr w2 : World} {g n : Nat} (h : MkE w wr g n) (hb : Below wr.heap.size wr w2) : MkE w w2 g n :=
  ⟨grown_trans h.1 (below_grown hb), h.2.below hb h.2.lt⟩
end Go.Proofs.Ytplpgcbdbmfffaa
