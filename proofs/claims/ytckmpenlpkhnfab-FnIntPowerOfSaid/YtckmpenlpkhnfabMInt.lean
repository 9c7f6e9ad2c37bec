/- The model's text of digits. -/
import Derived.Test.YtckmpenlpkhnfabMDig
import Derived.Test.YtckmpenlpkhnfabOps
import Derived.Laws.Concat
namespace Go.Proofs.Ytckmpenlpkhnfab
open Go.RowKit
theorem cat_cons (c : UInt8) (l : List UInt8) : (⟨#[c]⟩ ++ ⟨l.toArray⟩ : ByteArray) = ⟨(c :: l).toArray⟩ := by
  apply ByteArray.ext
  simp
section
variable {P : Program} {o : Oper} {a : Act} {w : World}
/-- One byte ahead of a text. -/
theorem puts_cons (T T' : TypeId) (x y : Operand) (ho : o.op = .binOp .add T x y T') (c : UInt8) (l : List UInt8) (hx : a.eval x = .string ⟨#[c]⟩) (hy : a.eval y = .string ⟨l.toArray⟩) (hl : l.length ≤ 1000) : Puts P o a w (.string ⟨(c :: l).toArray⟩) := by
  have h1 : (⟨#[c]⟩ : ByteArray).size = 1 := rfl
  have h2 : (⟨l.toArray⟩ : ByteArray).size = l.length := by simp [ByteArray.size]
  have h := run_string_add_sum (P := P) w ⟨#[c]⟩ ⟨l.toArray⟩ (by rw [h1, h2]; omega)
  rw [cat_cons] at h
  unfold Puts execOp
  simp only [ho, hx, hy]
  simp [eqGuard, go_sem, h]
end
/-- A literal of one byte. -/
theorem lit8 (w : World) (z : Int) (c : UInt8) (h : z = (c.toNat : Int)) : Own (w.alloc (.cells #[.int .u8 z] 5)) w.heap.size 5 (.slice (some ⟨w.heap.size, 0, none⟩) 1 1) (([c] : List UInt8).map fun c => Value.int .u8 (c.toNat : Int)) := by
  subst h
  exact World.ownsRow_lit w #[.int .u8 (c.toNat : Int)] 1 (Nat.le_refl _) (by decide) rfl
/-- The lowest digits, the highest of them first. -/
def loD (n k : Nat) : List UInt8 := (dgl n k).reverse.map dch
theorem loD_succ (n k : Nat) : loD n (k + 1) = dch (dg n k) :: loD n k := by unfold loD; rw [dgl_succ]; simp
theorem loD_len (n k : Nat) : (loD n k).length = k := by simp [loD, dgl_len]
theorem loD_end {n : Nat} (h : n ≠ 0) : loD n (nd n) = fmtN n := by unfold fmtN; rw [if_neg h]; rfl
/-- A text as a value. -/
def txV (z : Int) : Value := .string ⟨(fmtZ z).toArray⟩
theorem fmtZ_sgn_pos {n : Nat} (_h : n ≠ 0) : fmtZ (sgn false n) = fmtN n := by
  have : ¬ ((n : Int) < 0) := by omega
  unfold fmtZ sgn fmtI; simp [this]
theorem fmtZ_sgn_neg {n : Nat} (h : n ≠ 0) : fmtZ (sgn true n) = 45 :: fmtN n := by
  have : 0 < n := by omega
  unfold fmtZ sgn fmtI; simp [this]
theorem fmtZ_zero (b : Bool) : fmtZ (sgn b 0) = [48] := by cases b <;> rfl
set_option maxHeartbeats 1000000 in
theorem integer_any (n k : Nat) (neg : Bool) (v : Value) (w : World) (h : Rd w 0 v (dgl n k)) (hn : n < 10 ^ k) (hk : k ≤ 900) :
    Calls Try.prog 68 #[v, .bool neg] w fun e w' => e = .returned (txV (sgn neg n)) ∧ Below w.heap.size w w' := by
  have HT := Lib.hid (trimmed_any n k v w 0 h hn (by omega))
  have hnd : nd n ≤ 900 := Nat.le_trans (nd_le_of hn) hk
  clear h hn
  by_cases h0 : n = 0
  · have HE := Lib.hid (show txV (sgn neg n) = .string ⟨#[48]⟩ by subst h0; unfold txV; rw [fmtZ_zero])
    have hz : nd n = 0 := by subst h0; exact nd_zero
    have HZ := Lib.hid hz
    clear h0 hz hnd
    go_enter Try.func68, Try.ntmps68
    go_wp2_with (first | (go_at_call 67; refine HT.out.mono ?_; rintro e w1 ⟨u, rfl, ⟨g, cap, rfl, _, hg, hc, hr⟩, hb1⟩; have HB1 := Lib.hid hb1; rw [D_len, HZ.out]; clear hb1 hr hg hc))
    go_ret
    exact ⟨by rw [HE.out]; rfl, HB1.out⟩
  · have hpos : 0 < nd n := by rw [nd_pos h0]; omega
    have hz : ((nd n : Int) == 0) = false := beq_eq_false_iff_ne.2 (by omega)
    have HL := Lib.hid (loD_end h0)
    have HP := Lib.hid (fmtZ_sgn_pos h0)
    have HQ := Lib.hid (fmtZ_sgn_neg h0)
    clear h0
    cases neg
    all_goals
      go_enter Try.func68, Try.ntmps68
      go_wp2_with (first | (go_at_call 67; refine HT.out.mono ?_; rintro e w1 ⟨u, rfl, ⟨g, cap, rfl, _, hg, hc, hr⟩, hb1⟩; have HB1 := Lib.hid hb1; have HR := Lib.hid hr; have HG := Lib.hid hg; rw [D_len] at hc; rw [D_len]; clear hb1 hr hg))
      go_loopw [5, 6] (fun v i wr => ∃ k : Nat, k ≤ nd n ∧ i = .int .i64 k ∧ v = .string ⟨(loD n k).toArray⟩ ∧ Hid (Below w1.heap.size w1 wr)) (fun _ i _ => nd n - (intOf i).toNat)
      case atStart => exact ⟨0, by omega, rfl, rfl, Lib.hid (Below.refl _ _)⟩
      case round =>
        obtain ⟨k, hk, rfl, rfl, HI⟩ := hrel
        by_cases hlt : k < nd n
        · have c1 : wr.cell? ⟨g, k, none⟩ = some (.int .i64 (dg n k)) := by rw [HI.out.cell (p := ⟨g, k, none⟩) HG.out]; exact HR.out k _ (D_get n k hlt)
          have la := dg_lt n k
          have HD := Lib.hid (show (48 : Int) + (dg n k : Int) = ((dch (dg n k)).toNat : Int) by rw [dch_toNat la]; omega)
          have HS := Lib.hid (loD_succ n k)
          have HN := Lib.hid (show (loD n k).length ≤ 1000 by rw [loD_len]; omega)
          have HI2 := Lib.hid (HI.out.alloc HI.out.size (.cells #[.int .u8 (48 + (dg n k : Int))] 5))
          go_wp2_with (first | (refine (puts_text 22 9 5 (.tmp 24) rfl Try.underlying22 Try.underlying5 Try.underlying9 wr.heap.size _ [dch (dg n k)] rfl (lit8 wr _ _ HD.out)).gives.plain rfl ?_) | (refine (puts_cons 9 9 (.tmp 25) (.tmp 26) rfl (dch (dg n k)) (loD n k) rfl rfl HN.out).gives.plain rfl ?_; rw [← HS.out]))
          go_roundw
          case rel => exact ⟨k + 1, by omega, by go_num, rfl, HI2⟩
          case measure => simp [intOf]; try omega
        · obtain rfl : k = nd n := by omega
          have HN := Lib.hid (show (loD n (nd n)).length ≤ 1000 by rw [loD_len]; omega)
          have HB2 := Lib.hid (HB1.out.trans (HI.out.mono HB1.out.size))
          clear hlt
          go_wp2_with (first | (refine (puts_cons 9 9 (.const (.string ⟨#[45]⟩)) (.tmp 29) rfl 45 (loD n (nd n)) rfl rfl HN.out).gives.plain rfl ?_))
          go_ret
          exact ⟨by unfold txV; first | (rw [HP.out, HL.out]; rfl) | (rw [HQ.out, HL.out]; rfl), HB2.out⟩
end Go.Proofs.Ytckmpenlpkhnfab
