/- impl.integer.text: an integer is written. -/
import Derived.Test.YtckmpenlpkhnfabBytes
import Derived.Test.YtckmpenlpkhnfabDigs
import Derived.Test.YtckmpenlpkhnfabPlus
namespace Go.Proofs.Ytckmpenlpkhnfab
open Go.RowKit
/-- Bytes as values. -/
def bv (l : List UInt8) : List Value := l.map fun c : UInt8 => Value.int .u8 (c.toNat : Int)
theorem bv_len (l : List UInt8) : (bv l).length = l.length := by simp [bv]
theorem bv_snoc (l : List UInt8) (c : UInt8) (z : Int) (h : z = (c.toNat : Int)) : bv l ++ [.int .u8 z] = bv (l ++ [c]) := by subst h; simp [bv]
theorem hiD_len (n c k : Nat) (_h : k ≤ c) : (hiD n c k).length = c - k := by simp [hiD, dgl_len]
/-- The state of the loop: the digits from place k on are written behind the sign. -/
def TxI (w wr : World) (n : Nat) (neg : Bool) (b : Nat) (pre : List UInt8) (k : Nat) (v : Value) : Prop := Below w.heap.size w wr ∧ w.heap.size < b ∧ b ≤ wr.heap.size ∧ Blk wr w.heap.size 43 (irow n neg) ∧ Own wr b 5 v (bv (pre ++ hiD n (cnt n) k))
theorem tx_next {w wr w' : World} {n b k : Nat} {neg : Bool} {pre : List UInt8} {v v' : Value} (h : TxI w wr n neg b pre (k + 1) v) (hk : k < cnt n) (ho : Own w' b 5 v' (bv (pre ++ hiD n (cnt n) (k + 1)) ++ [.int .u8 (48 + (dg n k : Int))])) (hb : Below b wr w') : TxI w w' n neg b pre k v' := by
  obtain ⟨h1, h2, h3, h4, h5⟩ := h
  refine ⟨h1.trans (hb.mono (by omega)), h2, Nat.le_trans h3 hb.size, h4.below hb h2, ?_⟩
  rw [bv_snoc _ (dch (dg n k)) _ (by rw [dch_toNat (dg_lt n k)]; omega), List.append_assoc, ← hiD_step n (cnt n) k hk] at ho
  exact ho
set_option maxHeartbeats 1000000 in
theorem text_ok (n : Nat) (neg : Bool) (w : World) (h : n < 10 ^ 40) :
    Calls Try.prog 44 #[.agg (irow n neg)] w fun e w' => e = .returned (.tuple #[.string ⟨(fmtI neg n).toArray⟩, .bool true]) ∧ Below w.heap.size w w' := by
  have h80 : n < 10 ^ 80 := Nat.lt_trans h (by decide)
  have hs := cnt_spec n h80
  have h40 : cnt n ≤ 40 := by
    rcases Nat.lt_or_ge 40 (cnt n) with h1 | h1
    · have h5 : 10 ^ (cnt n - 1) ≤ n := by omega
      have h6 : 10 ^ 40 ≤ 10 ^ (cnt n - 1) := Nat.pow_le_pow_right (by omega) (by omega)
      omega
    · exact h1
  have h1c := hs.1
  have HE := Lib.hid (hiD_end h80)
  have HX := Lib.hid (show Blk (w.alloc (Obj.cells (irow n neg) 43)) w.heap.size 43 (irow n neg) from Blk.new _ _ _ rfl)
  have HB := Lib.hid (show Below w.heap.size w (w.alloc (Obj.cells (irow n neg) 43)) from (Below.refl _ _).alloc (Nat.le_refl _) _)
  clear h h80 hs
  cases neg with
  | false =>
    have HE2 := Lib.hid (show fmtI false n = ([] : List UInt8) ++ hiD n (cnt n) 0 by rw [HE.out]; rfl)
    go_enter Try.func44, Try.ntmps44
    go_wp2_with (first | (refine ld80 rfl (.tmp 7) rfl w.heap.size 0 rfl (n := n) ?_ ?_; exact HX.out.sizeOf) | (go_at_call 58; refine (cnt_any n _).mono ?_; rintro e w1 ⟨rfl, hb1⟩; have HX1 := Lib.hid (HX.out.below hb1 HX.out.lt); have HB1 := Lib.hid (HB.out.trans (hb1.mono HB.out.size)); have hlt1 := HX1.out.lt; have c0 := HX1.out.signOf; clear hb1))
    go_loopw [5, 6] (fun v i wr => ∃ k : Nat, k ≤ cnt n ∧ i = .int .i64 ((k : Int) - 1) ∧ Hid (TxI w wr n false w1.heap.size ([] : List UInt8) k v)) (fun _ i _ => (intOf i + 1).toNat)
    case atStart => exact ⟨cnt n, Nat.le_refl _, rfl, Lib.hid ⟨HB1.out, hlt1, Nat.le_refl _, HX1.out, by rw [hiD_start]; exact Own.nil _ _ _⟩⟩
    case round =>
      obtain ⟨k, hk, rfl, HI⟩ := hrel
      cases k with
      | zero =>
        go_wp2_with (first | (refine (puts_text 22 9 5 (.tmp 31) rfl Try.underlying22 Try.underlying5 Try.underlying9 w1.heap.size _ _ rfl HI.out.2.2.2.2).gives.plain rfl ?_))
        go_ret2
        exact ⟨by rw [HE2.out]; rfl, HI.out.1⟩
      | succ k =>
        have c1 : wr.cell? ⟨w.heap.size, k, none⟩ = some (.int .u8 (dg n k)) := by rw [HI.out.2.2.2.1.cell, irow_digit _ _ _ (by omega)]
        have la := dg_lt n k
        have hkk : ((k + 1 : Nat) : Int) - 1 = (k : Int) := by omega
        have HL := Lib.hid (show (([] : List UInt8) ++ hiD n (cnt n) (k + 1)).length + 1 ≤ 100 by rw [List.length_append, hiD_len _ _ _ (by omega)]; simp; omega)
        have HZ := Lib.hid (show w1.heap.size ≤ wr.heap.size from HI.out.2.2.1)
        rw [hkk]
        go_wp2_with (first | (refine app1 rfl (.tmp 23) (.tmp 29) 22 5 (.int .u8 0) 1 rfl Try.underlying22 (by kernel_rfl) rfl (by decide) wr wr (.int .u8 (48 + (dg n k : Int))) rfl w1.heap.size _ _ rfl rfl HI.out.2.2.2.2 rfl ?_ HZ.out (Below.refl _ _) ?_; (have := HL.out; rw [bv_len]; omega); intro v2 w2 ho hb2 _; have HT := Lib.hid (tx_next HI.out (by omega) ho hb2); clear ho hb2))
        go_roundw
        case rel => exact ⟨k, by omega, by go_num, HT⟩
        case measure => simp [intOf]; try omega
  | true =>
    have HE2 := Lib.hid (show fmtI true n = ([45] : List UInt8) ++ hiD n (cnt n) 0 by rw [HE.out]; rfl)
    go_enter Try.func44, Try.ntmps44
    go_wp2_with (first | (refine ld80 rfl (.tmp 7) rfl w.heap.size 0 rfl (n := n) ?_ ?_; exact HX.out.sizeOf) | (go_at_call 58; refine (cnt_any n _).mono ?_; rintro e w1 ⟨rfl, hb1⟩; have HX1 := Lib.hid (HX.out.below hb1 HX.out.lt); have HB1 := Lib.hid (HB.out.trans (hb1.mono HB.out.size)); have hlt1 := HX1.out.lt; have c0 := HX1.out.signOf; clear hb1) | (refine app1 rfl (.tmp 14) (.tmp 15) 22 5 (.int .u8 0) 1 rfl Try.underlying22 (by kernel_rfl) rfl (by decide) w1 w1 (.int .u8 45) rfl w1.heap.size _ [] rfl rfl (Own.nil _ _ _) rfl (by decide) (Nat.le_refl _) (Below.refl _ _) ?_; intro v1 w2 ho hb2 _; have HT := Lib.hid (show TxI w w2 n true w1.heap.size [45] (cnt n) v1 from ⟨HB1.out.trans (hb2.mono (by omega)), hlt1, hb2.size, HX1.out.below hb2 hlt1, by rw [hiD_start]; exact ho⟩); clear ho hb2))
    go_loopw [5, 6] (fun v i wr => ∃ k : Nat, k ≤ cnt n ∧ i = .int .i64 ((k : Int) - 1) ∧ Hid (TxI w wr n true w1.heap.size ([45] : List UInt8) k v)) (fun _ i _ => (intOf i + 1).toNat)
    case atStart => exact ⟨cnt n, Nat.le_refl _, rfl, HT⟩
    case round =>
      obtain ⟨k, hk, rfl, HI⟩ := hrel
      cases k with
      | zero =>
        go_wp2_with (first | (refine (puts_text 22 9 5 (.tmp 31) rfl Try.underlying22 Try.underlying5 Try.underlying9 w1.heap.size _ _ rfl HI.out.2.2.2.2).gives.plain rfl ?_))
        go_ret2
        exact ⟨by rw [HE2.out]; rfl, HI.out.1⟩
      | succ k =>
        have c1 : wr.cell? ⟨w.heap.size, k, none⟩ = some (.int .u8 (dg n k)) := by rw [HI.out.2.2.2.1.cell, irow_digit _ _ _ (by omega)]
        have la := dg_lt n k
        have hkk : ((k + 1 : Nat) : Int) - 1 = (k : Int) := by omega
        have HL := Lib.hid (show (([45] : List UInt8) ++ hiD n (cnt n) (k + 1)).length + 1 ≤ 100 by rw [List.length_append, hiD_len _ _ _ (by omega)]; simp; omega)
        have HZ := Lib.hid (show w1.heap.size ≤ wr.heap.size from HI.out.2.2.1)
        rw [hkk]
        go_wp2_with (first | (refine app1 rfl (.tmp 23) (.tmp 29) 22 5 (.int .u8 0) 1 rfl Try.underlying22 (by kernel_rfl) rfl (by decide) wr wr (.int .u8 (48 + (dg n k : Int))) rfl w1.heap.size _ _ rfl rfl HI.out.2.2.2.2 rfl ?_ HZ.out (Below.refl _ _) ?_; (have := HL.out; rw [bv_len]; omega); intro v2 w2 ho hb2 _; have HT := Lib.hid (tx_next HI.out (by omega) ho hb2); clear ho hb2))
        go_roundw
        case rel => exact ⟨k, by omega, by go_num, HT⟩
        case measure => simp [intOf]; try omega
set_option maxHeartbeats 400000 in
theorem text_long (n : Nat) (neg : Bool) (w : World) (h : n < 10 ^ 80) (hl : ¬ n < 10 ^ 40) :
    Calls Try.prog 44 #[.agg (irow n neg)] w fun e w' => e = .returned (.tuple #[.string ⟨#[]⟩, .bool false]) ∧ Below w.heap.size w w' := by
  have hs := cnt_spec n h
  have h40 : 40 < cnt n := by
    rcases Nat.lt_or_ge 40 (cnt n) with h1 | h1
    · exact h1
    · have h6 : 10 ^ (cnt n) ≤ 10 ^ 40 := Nat.pow_le_pow_right (by omega) h1
      omega
  have h80c := hs.2.1
  have HX := Lib.hid (show Blk (w.alloc (Obj.cells (irow n neg) 43)) w.heap.size 43 (irow n neg) from Blk.new _ _ _ rfl)
  have HB := Lib.hid (show Below w.heap.size w (w.alloc (Obj.cells (irow n neg) 43)) from (Below.refl _ _).alloc (Nat.le_refl _) _)
  clear h hl hs
  go_enter Try.func44, Try.ntmps44
  go_wp2_with (first | (refine ld80 rfl (.tmp 7) rfl w.heap.size 0 rfl (n := n) ?_ ?_; exact HX.out.sizeOf) | (go_at_call 58; refine (cnt_any n _).mono ?_; rintro e w1 ⟨rfl, hb1⟩; have HB1 := Lib.hid (HB.out.trans (hb1.mono HB.out.size)); clear hb1))
  go_ret2
  exact ⟨rfl, HB1.out⟩
end Go.Proofs.Ytckmpenlpkhnfab
