/- impl's integers: quotient and rest, the other sign, whether one is 0. -/
import Derived.Test.YtckmpenlpkhnfabPlus
namespace Go.Proofs.Ytckmpenlpkhnfab
open Go.RowKit
/-- Quotient and rest of sizes with signs, rounded down. -/
def dq (s t : Bool) (m n : Nat) : Nat := if s ≠ t ∧ m % n ≠ 0 then m / n + 1 else m / n
def dr (s t : Bool) (m n : Nat) : Nat := if s ≠ t ∧ m % n ≠ 0 then n - m % n else m % n
/-- The state: the two arguments, the two results' rows, quotient and rest in rows of their own. -/
def DbInv (w wr : World) (m : Nat) (s : Bool) (n : Nat) (t : Bool) (g q r : Nat) : Prop := Below w.heap.size w wr ∧ Blk wr w.heap.size 43 (irow m s) ∧ Blk wr (w.heap.size + 1) 43 (irow n t) ∧ (∃ k b, Blk wr (w.heap.size + 1 + 1) 43 (irow k b)) ∧ (∃ k b, Blk wr (w.heap.size + 1 + 1 + 1) 43 (irow k b)) ∧ w.heap.size + 3 < g ∧ Blk wr g 41 (row80 q) ∧ Blk wr (g + 1) 41 (row80 r)
def Db0 (w wr : World) (m : Nat) (s : Bool) (n : Nat) (t : Bool) : Prop := Below w.heap.size w wr ∧ Blk wr w.heap.size 43 (irow m s) ∧ Blk wr (w.heap.size + 1) 43 (irow n t) ∧ Blk wr (w.heap.size + 1 + 1) 43 (irow 0 false) ∧ Blk wr (w.heap.size + 1 + 1 + 1) 43 (irow 0 false)
theorem db0_start (w : World) (m : Nat) (s : Bool) (n : Nat) (t : Bool) : Db0 w ((((w.alloc (Obj.cells (irow m s) 43)).alloc (Obj.cells (irow n t) 43)).alloc (Obj.cells Try.zeroCells43 43)).alloc (Obj.cells Try.zeroCells43 43)) m s n t := by
  rw [zero81]
  exact ⟨((((Below.refl _ _).alloc (Nat.le_refl _) _).alloc (by simp) _).alloc (by simp; omega) _).alloc (by simp; omega) _, (((Blk.new _ _ _ rfl).alloc _).alloc _).alloc _, ((Blk.new _ _ _ (by simp)).alloc _).alloc _, (Blk.new _ _ _ (by simp)).alloc _, Blk.new _ _ _ (by simp)⟩
section
variable {w w1 w2 : World} {m n g q r q2 r2 : Nat} {s t : Bool}
theorem db0_lt (h : Db0 w w1 m s n t) : w.heap.size + 3 < w1.heap.size := h.2.2.2.2.lt
theorem db0_keep {B : Nat} (h : Db0 w w1 m s n t) (hb : Below B w1 w2) (hB : w.heap.size + 3 < B) : Db0 w w2 m s n t := by
  obtain ⟨h1, h2, h3, h4, h5⟩ := h
  exact ⟨h1.trans (hb.mono (by omega)), h2.below hb (by omega), h3.below hb (by omega), h4.below hb (by omega), h5.below hb (by omega)⟩
/-- Quotient and rest are stored in two new rows. -/
theorem db_start (h : Db0 w w1 m s n t) : DbInv w ((((w1.alloc (Obj.cells Try.zeroCells41 41)).alloc (Obj.cells Try.zeroCells41 41)).setRow w1.heap.size (row80 q)).setRow (w1.heap.size + 1) (row80 r)) m s n t w1.heap.size q r := by
  have hl := db0_lt h
  obtain ⟨h1, h2, h3, h4, h5⟩ := h
  refine ⟨below_setRow (below_setRow ((h1.alloc (by omega) _).alloc (by simp; omega) _) (by omega)) (by omega), ?_, ?_, ⟨0, false, ?_⟩, ⟨0, false, ?_⟩, hl, ?_, ?_⟩
  · exact (((h2.alloc _).alloc _).rowOff (by omega)).rowOff (by omega)
  · exact (((h3.alloc _).alloc _).rowOff (by omega)).rowOff (by omega)
  · exact (((h4.alloc _).alloc _).rowOff (by omega)).rowOff (by omega)
  · exact (((h5.alloc _).alloc _).rowOff (by omega)).rowOff (by omega)
  · exact (((Blk.new _ _ _ rfl).alloc _).row).rowOff (by omega)
  · exact ((Blk.new _ 41 Try.zeroCells41 (by simp)).rowOff (by omega)).row
theorem db_lt (h : DbInv w w1 m s n t g q r) : g + 1 < w1.heap.size := h.2.2.2.2.2.2.2.lt
theorem db_keep {B : Nat} (h : DbInv w w1 m s n t g q r) (hb : Below B w1 w2) (hB : g + 1 < B) : DbInv w w2 m s n t g q r := by
  obtain ⟨h1, h2, h3, ⟨k, b, h4⟩, ⟨k', b', h5⟩, h6, h7, h8⟩ := h
  exact ⟨h1.trans (hb.mono (by omega)), h2.below hb (by omega), h3.below hb (by omega), ⟨k, b, h4.below hb (by omega)⟩, ⟨k', b', h5.below hb (by omega)⟩, h6, h7.below hb (by omega), h8.below hb (by omega)⟩
theorem db_drew (h : DbInv w w1 m s n t g q r) : DbInv w w1.drew m s n t g q r := ⟨h.1.drew, h.2⟩
theorem db_quo (h : DbInv w w1 m s n t g q r) : DbInv w (w1.setRow g (row80 q2)) m s n t g q2 r := by
  obtain ⟨h1, h2, h3, ⟨k, b, h4⟩, ⟨k', b', h5⟩, h6, h7, h8⟩ := h
  exact ⟨below_setRow h1 (by omega), h2.rowOff (by omega), h3.rowOff (by omega), ⟨k, b, h4.rowOff (by omega)⟩, ⟨k', b', h5.rowOff (by omega)⟩, h6, h7.row, h8.rowOff (by omega)⟩
theorem db_rest (h : DbInv w w1 m s n t g q r) : DbInv w (w1.setRow (g + 1) (row80 r2)) m s n t g q r2 := by
  obtain ⟨h1, h2, h3, ⟨k, b, h4⟩, ⟨k', b', h5⟩, h6, h7, h8⟩ := h
  exact ⟨below_setRow h1 (by omega), h2.rowOff (by omega), h3.rowOff (by omega), ⟨k, b, h4.rowOff (by omega)⟩, ⟨k', b', h5.rowOff (by omega)⟩, h6, h7.rowOff (by omega), h8.row⟩
theorem db_res1 {z : Int} (h : DbInv w w1 m s n t g q r) : DbInv w (w1.setRow (w.heap.size + 1 + 1) (ival z)) m s n t g q r ∧ Blk (w1.setRow (w.heap.size + 1 + 1) (ival z)) (w.heap.size + 1 + 1) 43 (ival z) := by
  obtain ⟨h1, h2, h3, ⟨k, b, h4⟩, ⟨k', b', h5⟩, h6, h7, h8⟩ := h
  exact ⟨⟨below_setRow h1 (by omega), h2.rowOff (by omega), h3.rowOff (by omega), ⟨_, _, h4.row⟩, ⟨k', b', h5.rowOff (by omega)⟩, h6, h7.rowOff (by omega), h8.rowOff (by omega)⟩, h4.row⟩
theorem db_res2 {z : Int} (h : DbInv w w1 m s n t g q r) : DbInv w (w1.setRow (w.heap.size + 1 + 1 + 1) (ival z)) m s n t g q r ∧ Blk (w1.setRow (w.heap.size + 1 + 1 + 1) (ival z)) (w.heap.size + 1 + 1 + 1) 43 (ival z) := by
  obtain ⟨h1, h2, h3, ⟨k, b, h4⟩, ⟨k', b', h5⟩, h6, h7, h8⟩ := h
  exact ⟨⟨below_setRow h1 (by omega), h2.rowOff (by omega), h3.rowOff (by omega), ⟨k, b, h4.rowOff (by omega)⟩, ⟨_, _, h5.row⟩, h6, h7.rowOff (by omega), h8.rowOff (by omega)⟩, h5.row⟩
variable {o : Oper} {a : Act}
theorem db_store1 {z : Int} (h : DbInv w w1 m s n t g q r) (x y : Operand) (ho : o.op = .store 43 x y) (hx : a.eval x = .pointer (some ⟨w.heap.size + 1 + 1, 0, none⟩)) (hy : a.eval y = .agg (ival z)) : Gives Try.prog o a w1 undef (w1.setRow (w.heap.size + 1 + 1) (ival z)) := by
  obtain ⟨h1, h2, h3, ⟨k, b, h4⟩, _⟩ := h
  exact gives_store81 x y ho _ hx hy h4 (irow_size _ _)
theorem db_store2 {z : Int} (h : DbInv w w1 m s n t g q r) (x y : Operand) (ho : o.op = .store 43 x y) (hx : a.eval x = .pointer (some ⟨w.heap.size + 1 + 1 + 1, 0, none⟩)) (hy : a.eval y = .agg (ival z)) : Gives Try.prog o a w1 undef (w1.setRow (w.heap.size + 1 + 1 + 1) (ival z)) := by
  obtain ⟨h1, h2, h3, _, ⟨k, b, h4⟩, _⟩ := h
  exact gives_store81 x y ho _ hx hy h4 (irow_size _ _)
end
theorem quo1_lt {m n : Nat} (h : m < 10 ^ 40) : m / n + 1 < 10 ^ 80 := by
  have h1 := Nat.div_le_self m n
  have h2 : (10 : Nat) ^ 40 + 1 < 10 ^ 80 := by decide
  omega
theorem quo_lt {m n : Nat} (h : m < 10 ^ 40) : m / n < 10 ^ 80 := by have := quo1_lt (n := n) h; omega
theorem rest_lt {m n : Nat} (h : n < 10 ^ 40) (h0 : 0 < n) : m % n < 10 ^ 80 := by
  have h1 := Nat.mod_lt m h0
  have h2 : (10 : Nat) ^ 40 < 10 ^ 80 := by decide
  omega
theorem rest1_lt {m n : Nat} (h : n < 10 ^ 40) : n - m % n < 10 ^ 80 := by
  have h2 : (10 : Nat) ^ 40 < 10 ^ 80 := by decide
  omega
theorem db_facts {w wr : World} {m n : Nat} {s t : Bool} {g q r : Nat} (h : DbInv w wr m s n t g q r) : wr.cell? ⟨w.heap.size, 80, none⟩ = some (.bool s) ∧ wr.cell? ⟨w.heap.size + 1, 80, none⟩ = some (.bool t) := ⟨h.2.1.signOf, h.2.2.1.signOf⟩
set_option maxHeartbeats 1000000 in
theorem divBy_ff_any (m n : Nat) (w : World) (hm : m < 10 ^ 40) (hn : n < 10 ^ 40) (hn0 : 0 < n) :
    Calls Try.prog 48 #[.agg (irow m false), .agg (irow n false)] w fun e w' => e = .returned (.tuple #[.agg (ival (sgn false (dq false false m n))), .agg (ival (sgn false (dr false false m n)))]) ∧ Below w.heap.size w w' := by
  have H0 := Lib.hid (db0_start w m false n false)
  have hq : dq false false m n = m / n ∧ dr false false m n = m % n := by simp [dq, dr]
  have hQ : m / n < 10 ^ 80 := quo_lt hm
  have hR : m % n < 10 ^ 80 := rest_lt hn hn0
  have HR0 := Lib.hid (rest_lt (m := m) hn hn0)
  have Hm := Lib.hid hm
  have Hn := Lib.hid hn
  have Hn8 := Lib.hid (lt80 hn (Nat.le_refl _))
  have Hn0 := Lib.hid hn0
  have Hrl := Lib.hid (Nat.mod_lt m hn0)
  obtain ⟨Q, hQe⟩ : ∃ Q, m / n = Q := ⟨_, rfl⟩
  obtain ⟨R, hRe⟩ : ∃ R, m % n = R := ⟨_, rfl⟩
  rw [hQe, hRe] at hq
  rw [hQe] at hQ
  rw [hRe] at hR
  have HqQ := Lib.hid hq.1
  have HrR := Lib.hid hq.2
  have HQ := Lib.hid hQ
  have HR := Lib.hid hR
  have HQe := Lib.hid hQe
  have HRe := Lib.hid hRe
  clear hm hn hn0 hq hQ hR hQe hRe
  go_enter Try.func48, Try.ntmps48
  go_wp2_with (first | (refine ld80 rfl _ rfl _ 0 rfl (H0.out.2.1.sizeOf) ?_) | (refine ld80 rfl _ rfl _ 0 rfl (H0.out.2.2.1.sizeOf) ?_))
  refine (div_any m n _ Hm.out Hn.out Hn0.out).mono ?_
  rintro e w1 ⟨rfl, hb1⟩
  have H1 := Lib.hid (db0_keep H0.out hb1 (by simp))
  clear hb1
  have H2 := Lib.hid (db_start (q := m / n) (r := m % n) H1.out)
  have HA := Lib.hid (show Blk ((w1.alloc (Obj.cells Try.zeroCells41 41)).alloc (Obj.cells Try.zeroCells41 41)) w1.heap.size 41 Try.zeroCells41 from (Blk.new w1 41 Try.zeroCells41 rfl).alloc _)
  have HB := Lib.hid (show Blk (((w1.alloc (Obj.cells Try.zeroCells41 41)).alloc (Obj.cells Try.zeroCells41 41)).setRow w1.heap.size (row80 (m / n))) (w1.heap.size + 1) 41 Try.zeroCells41 from (Blk.new (w1.alloc _) 41 Try.zeroCells41 (by simp)).rowOff (by omega))
  have HZ := Lib.hid (show Try.zeroCells41.size = 80 by rw [zero80]; exact row80_size _)
  go_wp2_with (first | (refine ext rfl (.tmp 9) 0 [.agg (row80 (m / n)), .agg (row80 (m % n))] (.agg (row80 (m / n))) rfl rfl rfl ?_) | (refine ext rfl (.tmp 9) 1 [.agg (row80 (m / n)), .agg (row80 (m % n))] (.agg (row80 (m % n))) rfl rfl rfl ?_) | (refine st80 rfl (.tmp 6) (.tmp 15) rfl w1.heap.size rfl rfl (t := 41) (old := Try.zeroCells41) ?_ ?_ ?_; with_reducible exact HA.out; exact HZ.out) | (refine st80 rfl (.tmp 7) (.tmp 16) rfl (w1.heap.size + 1) rfl rfl (t := 41) (old := Try.zeroCells41) ?_ ?_ ?_; with_reducible exact HB.out; exact HZ.out; generalize ((((w1.alloc (Obj.cells Try.zeroCells41 41)).alloc (Obj.cells Try.zeroCells41 41)).setRow w1.heap.size (row80 (m / n))).setRow (w1.heap.size + 1) (row80 (m % n))) = w3 at H2 ⊢; have c1 := (db_facts H2.out).1; have c2 := (db_facts H2.out).2))
  rw [HQe.out, HRe.out] at H2
  refine wp_region_held_drew (S := fun w' => DbInv w w' m false n false w1.heap.size Q R) (by kernel_rfl) (db_drew H2.out) fun hS => ?_
  refine held_take 0 rfl rfl (by kernel_rfl) (by kernel_rfl) (by kernel_rfl) (fun _ _ _ h => h) (fun w' h => puts_load80 _ rfl _ 0 rfl h.2.2.2.2.2.2.1.lies) hS ?_
  go_frame
  refine held_take 1 rfl rfl (by kernel_rfl) (by kernel_rfl) (by kernel_rfl) (fun _ _ _ h => h) (fun w' h => puts_move_to _ (.bool false) rfl rfl) hS ?_
  go_frame
  refine held_take 3 rfl rfl (by kernel_rfl) (by kernel_rfl) (by kernel_rfl) (fun _ _ _ h => h) (fun w' h => puts_load80 _ rfl _ 0 rfl h.2.2.2.2.2.2.2.lies) hS ?_
  go_frame
  refine held_take 4 rfl rfl (by kernel_rfl) (by kernel_rfl) (by kernel_rfl) (fun _ _ _ h => h) (fun w' h => puts_field1 _ _ rfl rfl) hS ?_
  go_frame
  refine held_take 5 rfl rfl (by kernel_rfl) (by kernel_rfl) (by kernel_rfl) (fun _ _ _ h => h) (fun w' h => puts_sign _ _ false rfl rfl h.2.2.1.signOf) hS ?_
  go_frame
  refine held_call 2 (by kernel_rfl) rfl rfl (puts_call2 57 _ _ _ (.agg (row80 Q)) (.bool false) rfl rfl rfl (by kernel_rfl)) (make_any Q false _ HQ.out) ?_
  rintro e w8 ⟨rfl, hbhS1⟩
  have hS1 := db_keep hS hbhS1 (db_lt hS)
  refine ⟨_, rfl, hS1, ?_⟩
  go_frame
  refine held_call 6 (by kernel_rfl) rfl rfl (puts_call2 57 _ _ _ (.agg (row80 R)) (.bool false) rfl rfl rfl (by kernel_rfl)) (make_any R false _ HR.out) ?_
  rintro e w9 ⟨rfl, hbhS2⟩
  have hS2 := db_keep hS1 hbhS2 (db_lt hS1)
  refine ⟨_, rfl, hS2, ?_⟩
  go_frame
  refine held_only 7 (by kernel_rfl) rfl rfl (db_store1 hS2 _ _ rfl rfl rfl) (db_res1 hS2).1 ?_
  go_frame
  refine held_only 8 (by kernel_rfl) rfl rfl (db_store2 (db_res1 hS2).1 _ _ rfl rfl rfl) (db_res2 (db_res1 hS2).1).1 ?_
  go_frame
  refine wpAnyH_done (by kernel_rfl) ?_ _
  go_wp2_with fail
  exact bodyPost_ret (v := .tuple #[.agg (ival (sgn false Q)), .agg (ival (sgn false R))]) (results_two rfl _ _ rfl rfl (var81 ((db_res1 hS2).2.rowOff (by omega))) (var81 (db_res2 (db_res1 hS2).1).2)) rfl ⟨by rw [HqQ.out, HrR.out], (db_res2 (db_res1 hS2).1).1.1⟩
set_option maxHeartbeats 1000000 in
theorem divBy_tt_any (m n : Nat) (w : World) (hm : m < 10 ^ 40) (hn : n < 10 ^ 40) (hn0 : 0 < n) :
    Calls Try.prog 48 #[.agg (irow m true), .agg (irow n true)] w fun e w' => e = .returned (.tuple #[.agg (ival (sgn false (dq true true m n))), .agg (ival (sgn true (dr true true m n)))]) ∧ Below w.heap.size w w' := by
  have H0 := Lib.hid (db0_start w m true n true)
  have hq : dq true true m n = m / n ∧ dr true true m n = m % n := by simp [dq, dr]
  have hQ : m / n < 10 ^ 80 := quo_lt hm
  have hR : m % n < 10 ^ 80 := rest_lt hn hn0
  have HR0 := Lib.hid (rest_lt (m := m) hn hn0)
  have Hm := Lib.hid hm
  have Hn := Lib.hid hn
  have Hn8 := Lib.hid (lt80 hn (Nat.le_refl _))
  have Hn0 := Lib.hid hn0
  have Hrl := Lib.hid (Nat.mod_lt m hn0)
  obtain ⟨Q, hQe⟩ : ∃ Q, m / n = Q := ⟨_, rfl⟩
  obtain ⟨R, hRe⟩ : ∃ R, m % n = R := ⟨_, rfl⟩
  rw [hQe, hRe] at hq
  rw [hQe] at hQ
  rw [hRe] at hR
  have HqQ := Lib.hid hq.1
  have HrR := Lib.hid hq.2
  have HQ := Lib.hid hQ
  have HR := Lib.hid hR
  have HQe := Lib.hid hQe
  have HRe := Lib.hid hRe
  clear hm hn hn0 hq hQ hR hQe hRe
  go_enter Try.func48, Try.ntmps48
  go_wp2_with (first | (refine ld80 rfl _ rfl _ 0 rfl (H0.out.2.1.sizeOf) ?_) | (refine ld80 rfl _ rfl _ 0 rfl (H0.out.2.2.1.sizeOf) ?_))
  refine (div_any m n _ Hm.out Hn.out Hn0.out).mono ?_
  rintro e w1 ⟨rfl, hb1⟩
  have H1 := Lib.hid (db0_keep H0.out hb1 (by simp))
  clear hb1
  have H2 := Lib.hid (db_start (q := m / n) (r := m % n) H1.out)
  have HA := Lib.hid (show Blk ((w1.alloc (Obj.cells Try.zeroCells41 41)).alloc (Obj.cells Try.zeroCells41 41)) w1.heap.size 41 Try.zeroCells41 from (Blk.new w1 41 Try.zeroCells41 rfl).alloc _)
  have HB := Lib.hid (show Blk (((w1.alloc (Obj.cells Try.zeroCells41 41)).alloc (Obj.cells Try.zeroCells41 41)).setRow w1.heap.size (row80 (m / n))) (w1.heap.size + 1) 41 Try.zeroCells41 from (Blk.new (w1.alloc _) 41 Try.zeroCells41 (by simp)).rowOff (by omega))
  have HZ := Lib.hid (show Try.zeroCells41.size = 80 by rw [zero80]; exact row80_size _)
  go_wp2_with (first | (refine ext rfl (.tmp 9) 0 [.agg (row80 (m / n)), .agg (row80 (m % n))] (.agg (row80 (m / n))) rfl rfl rfl ?_) | (refine ext rfl (.tmp 9) 1 [.agg (row80 (m / n)), .agg (row80 (m % n))] (.agg (row80 (m % n))) rfl rfl rfl ?_) | (refine st80 rfl (.tmp 6) (.tmp 15) rfl w1.heap.size rfl rfl (t := 41) (old := Try.zeroCells41) ?_ ?_ ?_; with_reducible exact HA.out; exact HZ.out) | (refine st80 rfl (.tmp 7) (.tmp 16) rfl (w1.heap.size + 1) rfl rfl (t := 41) (old := Try.zeroCells41) ?_ ?_ ?_; with_reducible exact HB.out; exact HZ.out; generalize ((((w1.alloc (Obj.cells Try.zeroCells41 41)).alloc (Obj.cells Try.zeroCells41 41)).setRow w1.heap.size (row80 (m / n))).setRow (w1.heap.size + 1) (row80 (m % n))) = w3 at H2 ⊢; have c1 := (db_facts H2.out).1; have c2 := (db_facts H2.out).2))
  rw [HQe.out, HRe.out] at H2
  refine wp_region_held_drew (S := fun w' => DbInv w w' m true n true w1.heap.size Q R) (by kernel_rfl) (db_drew H2.out) fun hS => ?_
  refine held_take 0 rfl rfl (by kernel_rfl) (by kernel_rfl) (by kernel_rfl) (fun _ _ _ h => h) (fun w' h => puts_load80 _ rfl _ 0 rfl h.2.2.2.2.2.2.1.lies) hS ?_
  go_frame
  refine held_take 1 rfl rfl (by kernel_rfl) (by kernel_rfl) (by kernel_rfl) (fun _ _ _ h => h) (fun w' h => puts_move_to _ (.bool false) rfl rfl) hS ?_
  go_frame
  refine held_take 3 rfl rfl (by kernel_rfl) (by kernel_rfl) (by kernel_rfl) (fun _ _ _ h => h) (fun w' h => puts_load80 _ rfl _ 0 rfl h.2.2.2.2.2.2.2.lies) hS ?_
  go_frame
  refine held_take 4 rfl rfl (by kernel_rfl) (by kernel_rfl) (by kernel_rfl) (fun _ _ _ h => h) (fun w' h => puts_field1 _ _ rfl rfl) hS ?_
  go_frame
  refine held_take 5 rfl rfl (by kernel_rfl) (by kernel_rfl) (by kernel_rfl) (fun _ _ _ h => h) (fun w' h => puts_sign _ _ true rfl rfl h.2.2.1.signOf) hS ?_
  go_frame
  refine held_call 2 (by kernel_rfl) rfl rfl (puts_call2 57 _ _ _ (.agg (row80 Q)) (.bool false) rfl rfl rfl (by kernel_rfl)) (make_any Q false _ HQ.out) ?_
  rintro e w8 ⟨rfl, hbhS1⟩
  have hS1 := db_keep hS hbhS1 (db_lt hS)
  refine ⟨_, rfl, hS1, ?_⟩
  go_frame
  refine held_call 6 (by kernel_rfl) rfl rfl (puts_call2 57 _ _ _ (.agg (row80 R)) (.bool true) rfl rfl rfl (by kernel_rfl)) (make_any R true _ HR.out) ?_
  rintro e w9 ⟨rfl, hbhS2⟩
  have hS2 := db_keep hS1 hbhS2 (db_lt hS1)
  refine ⟨_, rfl, hS2, ?_⟩
  go_frame
  refine held_only 7 (by kernel_rfl) rfl rfl (db_store1 hS2 _ _ rfl rfl rfl) (db_res1 hS2).1 ?_
  go_frame
  refine held_only 8 (by kernel_rfl) rfl rfl (db_store2 (db_res1 hS2).1 _ _ rfl rfl rfl) (db_res2 (db_res1 hS2).1).1 ?_
  go_frame
  refine wpAnyH_done (by kernel_rfl) ?_ _
  go_wp2_with fail
  exact bodyPost_ret (v := .tuple #[.agg (ival (sgn false Q)), .agg (ival (sgn true R))]) (results_two rfl _ _ rfl rfl (var81 ((db_res1 hS2).2.rowOff (by omega))) (var81 (db_res2 (db_res1 hS2).1).2)) rfl ⟨by rw [HqQ.out, HrR.out], (db_res2 (db_res1 hS2).1).1.1⟩
set_option maxHeartbeats 1000000 in
theorem divBy_ft_zero (m n : Nat) (w : World) (hm : m < 10 ^ 40) (hn : n < 10 ^ 40) (hn0 : 0 < n) (hz : m % n = 0) :
    Calls Try.prog 48 #[.agg (irow m false), .agg (irow n true)] w fun e w' => e = .returned (.tuple #[.agg (ival (sgn true (dq false true m n))), .agg (ival (sgn true (dr false true m n)))]) ∧ Below w.heap.size w w' := by
  have H0 := Lib.hid (db0_start w m false n true)
  have hq : dq false true m n = m / n ∧ dr false true m n = m % n := by simp [dq, dr, hz]
  have hQ : m / n < 10 ^ 80 := quo_lt hm
  have hR : m % n < 10 ^ 80 := rest_lt hn hn0
  have HR0 := Lib.hid (rest_lt (m := m) hn hn0)
  have Hm := Lib.hid hm
  have Hn := Lib.hid hn
  have Hn8 := Lib.hid (lt80 hn (Nat.le_refl _))
  have Hn0 := Lib.hid hn0
  have Hrl := Lib.hid (Nat.mod_lt m hn0)
  have Hdz := Lib.hid (show (!decide (m % n = 0)) = false by simp [hz])
  obtain ⟨Q, hQe⟩ : ∃ Q, m / n = Q := ⟨_, rfl⟩
  obtain ⟨R, hRe⟩ : ∃ R, m % n = R := ⟨_, rfl⟩
  rw [hQe, hRe] at hq
  rw [hQe] at hQ
  rw [hRe] at hR
  have HqQ := Lib.hid hq.1
  have HrR := Lib.hid hq.2
  have HQ := Lib.hid hQ
  have HR := Lib.hid hR
  have HQe := Lib.hid hQe
  have HRe := Lib.hid hRe
  clear hm hn hn0 hq hQ hR hQe hRe hz
  go_enter Try.func48, Try.ntmps48
  go_wp2_with (first | (refine ld80 rfl _ rfl _ 0 rfl (H0.out.2.1.sizeOf) ?_) | (refine ld80 rfl _ rfl _ 0 rfl (H0.out.2.2.1.sizeOf) ?_))
  refine (div_any m n _ Hm.out Hn.out Hn0.out).mono ?_
  rintro e w1 ⟨rfl, hb1⟩
  have H1 := Lib.hid (db0_keep H0.out hb1 (by simp))
  clear hb1
  have H2 := Lib.hid (db_start (q := m / n) (r := m % n) H1.out)
  have HA := Lib.hid (show Blk ((w1.alloc (Obj.cells Try.zeroCells41 41)).alloc (Obj.cells Try.zeroCells41 41)) w1.heap.size 41 Try.zeroCells41 from (Blk.new w1 41 Try.zeroCells41 rfl).alloc _)
  have HB := Lib.hid (show Blk (((w1.alloc (Obj.cells Try.zeroCells41 41)).alloc (Obj.cells Try.zeroCells41 41)).setRow w1.heap.size (row80 (m / n))) (w1.heap.size + 1) 41 Try.zeroCells41 from (Blk.new (w1.alloc _) 41 Try.zeroCells41 (by simp)).rowOff (by omega))
  have HZ := Lib.hid (show Try.zeroCells41.size = 80 by rw [zero80]; exact row80_size _)
  go_wp2_with (first | (refine ext rfl (.tmp 9) 0 [.agg (row80 (m / n)), .agg (row80 (m % n))] (.agg (row80 (m / n))) rfl rfl rfl ?_) | (refine ext rfl (.tmp 9) 1 [.agg (row80 (m / n)), .agg (row80 (m % n))] (.agg (row80 (m % n))) rfl rfl rfl ?_) | (refine st80 rfl (.tmp 6) (.tmp 15) rfl w1.heap.size rfl rfl (t := 41) (old := Try.zeroCells41) ?_ ?_ ?_; with_reducible exact HA.out; exact HZ.out) | (refine st80 rfl (.tmp 7) (.tmp 16) rfl (w1.heap.size + 1) rfl rfl (t := 41) (old := Try.zeroCells41) ?_ ?_ ?_; with_reducible exact HB.out; exact HZ.out; generalize ((((w1.alloc (Obj.cells Try.zeroCells41 41)).alloc (Obj.cells Try.zeroCells41 41)).setRow w1.heap.size (row80 (m / n))).setRow (w1.heap.size + 1) (row80 (m % n))) = w3 at H2 ⊢; have c1 := (db_facts H2.out).1; have c2 := (db_facts H2.out).2) | (refine Gives.want rfl (gives_load80 (.tmp 7) rfl (w1.heap.size + 1) 0 rfl (H2.out.2.2.2.2.2.2.2.lies)) ?_) | (refine Gives.want rfl (puts_build0 _ rfl _ built80).gives ?_) | (refine Gives.want rfl (puts_neq80 _ _ _ rfl rfl rfl HR0.out (by decide)).gives ?_; rw [Hdz.out]))
  rw [HQe.out, HRe.out] at H2
  refine wp_region_held_drew (S := fun w' => DbInv w w' m false n true w1.heap.size Q R) (by kernel_rfl) (db_drew H2.out) fun hS => ?_
  refine held_take 0 rfl rfl (by kernel_rfl) (by kernel_rfl) (by kernel_rfl) (fun _ _ _ h => h) (fun w' h => puts_load80 _ rfl _ 0 rfl h.2.2.2.2.2.2.1.lies) hS ?_
  go_frame
  refine held_take 1 rfl rfl (by kernel_rfl) (by kernel_rfl) (by kernel_rfl) (fun _ _ _ h => h) (fun w' h => puts_move_to _ (.bool true) rfl rfl) hS ?_
  go_frame
  refine held_take 3 rfl rfl (by kernel_rfl) (by kernel_rfl) (by kernel_rfl) (fun _ _ _ h => h) (fun w' h => puts_load80 _ rfl _ 0 rfl h.2.2.2.2.2.2.2.lies) hS ?_
  go_frame
  refine held_take 4 rfl rfl (by kernel_rfl) (by kernel_rfl) (by kernel_rfl) (fun _ _ _ h => h) (fun w' h => puts_field1 _ _ rfl rfl) hS ?_
  go_frame
  refine held_take 5 rfl rfl (by kernel_rfl) (by kernel_rfl) (by kernel_rfl) (fun _ _ _ h => h) (fun w' h => puts_sign _ _ true rfl rfl h.2.2.1.signOf) hS ?_
  go_frame
  refine held_call 2 (by kernel_rfl) rfl rfl (puts_call2 57 _ _ _ (.agg (row80 Q)) (.bool true) rfl rfl rfl (by kernel_rfl)) (make_any Q true _ HQ.out) ?_
  rintro e w8 ⟨rfl, hbhS1⟩
  have hS1 := db_keep hS hbhS1 (db_lt hS)
  refine ⟨_, rfl, hS1, ?_⟩
  go_frame
  refine held_call 6 (by kernel_rfl) rfl rfl (puts_call2 57 _ _ _ (.agg (row80 R)) (.bool true) rfl rfl rfl (by kernel_rfl)) (make_any R true _ HR.out) ?_
  rintro e w9 ⟨rfl, hbhS2⟩
  have hS2 := db_keep hS1 hbhS2 (db_lt hS1)
  refine ⟨_, rfl, hS2, ?_⟩
  go_frame
  refine held_only 7 (by kernel_rfl) rfl rfl (db_store1 hS2 _ _ rfl rfl rfl) (db_res1 hS2).1 ?_
  go_frame
  refine held_only 8 (by kernel_rfl) rfl rfl (db_store2 (db_res1 hS2).1 _ _ rfl rfl rfl) (db_res2 (db_res1 hS2).1).1 ?_
  go_frame
  refine wpAnyH_done (by kernel_rfl) ?_ _
  go_wp2_with fail
  exact bodyPost_ret (v := .tuple #[.agg (ival (sgn true Q)), .agg (ival (sgn true R))]) (results_two rfl _ _ rfl rfl (var81 ((db_res1 hS2).2.rowOff (by omega))) (var81 (db_res2 (db_res1 hS2).1).2)) rfl ⟨by rw [HqQ.out, HrR.out], (db_res2 (db_res1 hS2).1).1.1⟩
set_option maxHeartbeats 1000000 in
theorem divBy_ft_some (m n : Nat) (w : World) (hm : m < 10 ^ 40) (hn : n < 10 ^ 40) (hn0 : 0 < n) (hz : ¬ m % n = 0) :
    Calls Try.prog 48 #[.agg (irow m false), .agg (irow n true)] w fun e w' => e = .returned (.tuple #[.agg (ival (sgn true (dq false true m n))), .agg (ival (sgn true (dr false true m n)))]) ∧ Below w.heap.size w w' := by
  have H0 := Lib.hid (db0_start w m false n true)
  have hq : dq false true m n = m / n + 1 ∧ dr false true m n = n - m % n := by simp [dq, dr, hz]
  have hQ : m / n + 1 < 10 ^ 80 := quo1_lt hm
  have hR : n - m % n < 10 ^ 80 := rest1_lt hn
  have HR0 := Lib.hid (rest_lt (m := m) hn hn0)
  have Hm := Lib.hid hm
  have Hn := Lib.hid hn
  have Hn8 := Lib.hid (lt80 hn (Nat.le_refl _))
  have Hn0 := Lib.hid hn0
  have Hrl := Lib.hid (Nat.mod_lt m hn0)
  have Hdz := Lib.hid (show (!decide (m % n = 0)) = true by simp [hz])
  obtain ⟨Q, hQe⟩ : ∃ Q, m / n + 1 = Q := ⟨_, rfl⟩
  obtain ⟨R, hRe⟩ : ∃ R, n - m % n = R := ⟨_, rfl⟩
  rw [hQe, hRe] at hq
  rw [hQe] at hQ
  rw [hRe] at hR
  have HqQ := Lib.hid hq.1
  have HrR := Lib.hid hq.2
  have HQ := Lib.hid hQ
  have HR := Lib.hid hR
  have HQe := Lib.hid hQe
  have HRe := Lib.hid hRe
  clear hm hn hn0 hq hQ hR hQe hRe hz
  go_enter Try.func48, Try.ntmps48
  go_wp2_with (first | (refine ld80 rfl _ rfl _ 0 rfl (H0.out.2.1.sizeOf) ?_) | (refine ld80 rfl _ rfl _ 0 rfl (H0.out.2.2.1.sizeOf) ?_))
  refine (div_any m n _ Hm.out Hn.out Hn0.out).mono ?_
  rintro e w1 ⟨rfl, hb1⟩
  have H1 := Lib.hid (db0_keep H0.out hb1 (by simp))
  clear hb1
  have H2 := Lib.hid (db_start (q := m / n) (r := m % n) H1.out)
  have HA := Lib.hid (show Blk ((w1.alloc (Obj.cells Try.zeroCells41 41)).alloc (Obj.cells Try.zeroCells41 41)) w1.heap.size 41 Try.zeroCells41 from (Blk.new w1 41 Try.zeroCells41 rfl).alloc _)
  have HB := Lib.hid (show Blk (((w1.alloc (Obj.cells Try.zeroCells41 41)).alloc (Obj.cells Try.zeroCells41 41)).setRow w1.heap.size (row80 (m / n))) (w1.heap.size + 1) 41 Try.zeroCells41 from (Blk.new (w1.alloc _) 41 Try.zeroCells41 (by simp)).rowOff (by omega))
  have HZ := Lib.hid (show Try.zeroCells41.size = 80 by rw [zero80]; exact row80_size _)
  go_wp2_with (first | (refine ext rfl (.tmp 9) 0 [.agg (row80 (m / n)), .agg (row80 (m % n))] (.agg (row80 (m / n))) rfl rfl rfl ?_) | (refine ext rfl (.tmp 9) 1 [.agg (row80 (m / n)), .agg (row80 (m % n))] (.agg (row80 (m % n))) rfl rfl rfl ?_) | (refine st80 rfl (.tmp 6) (.tmp 15) rfl w1.heap.size rfl rfl (t := 41) (old := Try.zeroCells41) ?_ ?_ ?_; with_reducible exact HA.out; exact HZ.out) | (refine st80 rfl (.tmp 7) (.tmp 16) rfl (w1.heap.size + 1) rfl rfl (t := 41) (old := Try.zeroCells41) ?_ ?_ ?_; with_reducible exact HB.out; exact HZ.out; generalize ((((w1.alloc (Obj.cells Try.zeroCells41 41)).alloc (Obj.cells Try.zeroCells41 41)).setRow w1.heap.size (row80 (m / n))).setRow (w1.heap.size + 1) (row80 (m % n))) = w3 at H2 ⊢; have c1 := (db_facts H2.out).1; have c2 := (db_facts H2.out).2) | (refine Gives.want rfl (gives_load80 (.tmp 7) rfl (w1.heap.size + 1) 0 rfl (H2.out.2.2.2.2.2.2.2.lies)) ?_) | (refine Gives.want rfl (puts_build0 _ rfl _ built80).gives ?_) | (refine Gives.want rfl (puts_neq80 _ _ _ rfl rfl rfl HR0.out (by decide)).gives ?_; rw [Hdz.out]) | (refine ld80 rfl (.tmp 6) rfl w1.heap.size 0 rfl (n := m / n) ?_ ?_; exact H2.out.2.2.2.2.2.2.1.lies) | (refine (puts_build1 _ 0 (.const (.int .u8 1)) rfl (.int .u8 1) rfl _ built80one).gives.plain rfl ?_) | (go_at_call 73; refine (add_any (m / n) 1 _).mono ?_; rintro e w4 ⟨rfl, hb4⟩; have H4 := Lib.hid (db_keep H2.out hb4 (db_lt H2.out)); have H5 := Lib.hid (db_quo (q2 := m / n + 1) H4.out); clear hb4) | (refine st80 rfl (.tmp 6) (.tmp 30) rfl w1.heap.size rfl rfl (t := 41) (old := row80 (m / n)) ?_ ?_ ?_; exact H4.out.2.2.2.2.2.2.1; exact row80_size _; generalize World.setRow w4 w1.heap.size (row80 (m / n + 1)) = w5 at H5 ⊢) | (refine ld80 rfl (.tmp 31) rfl (w.heap.size + 1) 0 rfl (n := n) ?_ ?_; exact H5.out.2.2.1.sizeOf) | (refine ld80 rfl (.tmp 7) rfl (w1.heap.size + 1) 0 rfl (n := m % n) ?_ ?_; exact H5.out.2.2.2.2.2.2.2.lies) | (go_at_call 74; refine (sub_any n (m % n) _ Hn8.out (Nat.le_of_lt Hrl.out)).mono ?_; rintro e w6 ⟨rfl, hb6⟩; have H6 := Lib.hid (db_keep H5.out hb6 (db_lt H5.out)); have H7 := Lib.hid (db_rest (r2 := n - m % n) H6.out); clear hb6) | (refine st80 rfl (.tmp 7) (.tmp 34) rfl (w1.heap.size + 1) rfl rfl (t := 41) (old := row80 (m % n)) ?_ ?_ ?_; exact H6.out.2.2.2.2.2.2.2; exact row80_size _; generalize World.setRow w6 (w1.heap.size + 1) (row80 (n - m % n)) = w7 at H7 ⊢))
  rw [HQe.out, HRe.out] at H7
  refine wp_region_held_drew (S := fun w' => DbInv w w' m false n true w1.heap.size Q R) (by kernel_rfl) (db_drew H7.out) fun hS => ?_
  refine held_take 0 rfl rfl (by kernel_rfl) (by kernel_rfl) (by kernel_rfl) (fun _ _ _ h => h) (fun w' h => puts_load80 _ rfl _ 0 rfl h.2.2.2.2.2.2.1.lies) hS ?_
  go_frame
  refine held_take 1 rfl rfl (by kernel_rfl) (by kernel_rfl) (by kernel_rfl) (fun _ _ _ h => h) (fun w' h => puts_move_to _ (.bool true) rfl rfl) hS ?_
  go_frame
  refine held_take 3 rfl rfl (by kernel_rfl) (by kernel_rfl) (by kernel_rfl) (fun _ _ _ h => h) (fun w' h => puts_load80 _ rfl _ 0 rfl h.2.2.2.2.2.2.2.lies) hS ?_
  go_frame
  refine held_take 4 rfl rfl (by kernel_rfl) (by kernel_rfl) (by kernel_rfl) (fun _ _ _ h => h) (fun w' h => puts_field1 _ _ rfl rfl) hS ?_
  go_frame
  refine held_take 5 rfl rfl (by kernel_rfl) (by kernel_rfl) (by kernel_rfl) (fun _ _ _ h => h) (fun w' h => puts_sign _ _ true rfl rfl h.2.2.1.signOf) hS ?_
  go_frame
  refine held_call 2 (by kernel_rfl) rfl rfl (puts_call2 57 _ _ _ (.agg (row80 Q)) (.bool true) rfl rfl rfl (by kernel_rfl)) (make_any Q true _ HQ.out) ?_
  rintro e w8 ⟨rfl, hbhS1⟩
  have hS1 := db_keep hS hbhS1 (db_lt hS)
  refine ⟨_, rfl, hS1, ?_⟩
  go_frame
  refine held_call 6 (by kernel_rfl) rfl rfl (puts_call2 57 _ _ _ (.agg (row80 R)) (.bool true) rfl rfl rfl (by kernel_rfl)) (make_any R true _ HR.out) ?_
  rintro e w9 ⟨rfl, hbhS2⟩
  have hS2 := db_keep hS1 hbhS2 (db_lt hS1)
  refine ⟨_, rfl, hS2, ?_⟩
  go_frame
  refine held_only 7 (by kernel_rfl) rfl rfl (db_store1 hS2 _ _ rfl rfl rfl) (db_res1 hS2).1 ?_
  go_frame
  refine held_only 8 (by kernel_rfl) rfl rfl (db_store2 (db_res1 hS2).1 _ _ rfl rfl rfl) (db_res2 (db_res1 hS2).1).1 ?_
  go_frame
  refine wpAnyH_done (by kernel_rfl) ?_ _
  go_wp2_with fail
  exact bodyPost_ret (v := .tuple #[.agg (ival (sgn true Q)), .agg (ival (sgn true R))]) (results_two rfl _ _ rfl rfl (var81 ((db_res1 hS2).2.rowOff (by omega))) (var81 (db_res2 (db_res1 hS2).1).2)) rfl ⟨by rw [HqQ.out, HrR.out], (db_res2 (db_res1 hS2).1).1.1⟩
set_option maxHeartbeats 1000000 in
theorem divBy_tf_zero (m n : Nat) (w : World) (hm : m < 10 ^ 40) (hn : n < 10 ^ 40) (hn0 : 0 < n) (hz : m % n = 0) :
    Calls Try.prog 48 #[.agg (irow m true), .agg (irow n false)] w fun e w' => e = .returned (.tuple #[.agg (ival (sgn true (dq true false m n))), .agg (ival (sgn false (dr true false m n)))]) ∧ Below w.heap.size w w' := by
  have H0 := Lib.hid (db0_start w m true n false)
  have hq : dq true false m n = m / n ∧ dr true false m n = m % n := by simp [dq, dr, hz]
  have hQ : m / n < 10 ^ 80 := quo_lt hm
  have hR : m % n < 10 ^ 80 := rest_lt hn hn0
  have HR0 := Lib.hid (rest_lt (m := m) hn hn0)
  have Hm := Lib.hid hm
  have Hn := Lib.hid hn
  have Hn8 := Lib.hid (lt80 hn (Nat.le_refl _))
  have Hn0 := Lib.hid hn0
  have Hrl := Lib.hid (Nat.mod_lt m hn0)
  have Hdz := Lib.hid (show (!decide (m % n = 0)) = false by simp [hz])
  obtain ⟨Q, hQe⟩ : ∃ Q, m / n = Q := ⟨_, rfl⟩
  obtain ⟨R, hRe⟩ : ∃ R, m % n = R := ⟨_, rfl⟩
  rw [hQe, hRe] at hq
  rw [hQe] at hQ
  rw [hRe] at hR
  have HqQ := Lib.hid hq.1
  have HrR := Lib.hid hq.2
  have HQ := Lib.hid hQ
  have HR := Lib.hid hR
  have HQe := Lib.hid hQe
  have HRe := Lib.hid hRe
  clear hm hn hn0 hq hQ hR hQe hRe hz
  go_enter Try.func48, Try.ntmps48
  go_wp2_with (first | (refine ld80 rfl _ rfl _ 0 rfl (H0.out.2.1.sizeOf) ?_) | (refine ld80 rfl _ rfl _ 0 rfl (H0.out.2.2.1.sizeOf) ?_))
  refine (div_any m n _ Hm.out Hn.out Hn0.out).mono ?_
  rintro e w1 ⟨rfl, hb1⟩
  have H1 := Lib.hid (db0_keep H0.out hb1 (by simp))
  clear hb1
  have H2 := Lib.hid (db_start (q := m / n) (r := m % n) H1.out)
  have HA := Lib.hid (show Blk ((w1.alloc (Obj.cells Try.zeroCells41 41)).alloc (Obj.cells Try.zeroCells41 41)) w1.heap.size 41 Try.zeroCells41 from (Blk.new w1 41 Try.zeroCells41 rfl).alloc _)
  have HB := Lib.hid (show Blk (((w1.alloc (Obj.cells Try.zeroCells41 41)).alloc (Obj.cells Try.zeroCells41 41)).setRow w1.heap.size (row80 (m / n))) (w1.heap.size + 1) 41 Try.zeroCells41 from (Blk.new (w1.alloc _) 41 Try.zeroCells41 (by simp)).rowOff (by omega))
  have HZ := Lib.hid (show Try.zeroCells41.size = 80 by rw [zero80]; exact row80_size _)
  go_wp2_with (first | (refine ext rfl (.tmp 9) 0 [.agg (row80 (m / n)), .agg (row80 (m % n))] (.agg (row80 (m / n))) rfl rfl rfl ?_) | (refine ext rfl (.tmp 9) 1 [.agg (row80 (m / n)), .agg (row80 (m % n))] (.agg (row80 (m % n))) rfl rfl rfl ?_) | (refine st80 rfl (.tmp 6) (.tmp 15) rfl w1.heap.size rfl rfl (t := 41) (old := Try.zeroCells41) ?_ ?_ ?_; with_reducible exact HA.out; exact HZ.out) | (refine st80 rfl (.tmp 7) (.tmp 16) rfl (w1.heap.size + 1) rfl rfl (t := 41) (old := Try.zeroCells41) ?_ ?_ ?_; with_reducible exact HB.out; exact HZ.out; generalize ((((w1.alloc (Obj.cells Try.zeroCells41 41)).alloc (Obj.cells Try.zeroCells41 41)).setRow w1.heap.size (row80 (m / n))).setRow (w1.heap.size + 1) (row80 (m % n))) = w3 at H2 ⊢; have c1 := (db_facts H2.out).1; have c2 := (db_facts H2.out).2) | (refine Gives.want rfl (gives_load80 (.tmp 7) rfl (w1.heap.size + 1) 0 rfl (H2.out.2.2.2.2.2.2.2.lies)) ?_) | (refine Gives.want rfl (puts_build0 _ rfl _ built80).gives ?_) | (refine Gives.want rfl (puts_neq80 _ _ _ rfl rfl rfl HR0.out (by decide)).gives ?_; rw [Hdz.out]))
  rw [HQe.out, HRe.out] at H2
  refine wp_region_held_drew (S := fun w' => DbInv w w' m true n false w1.heap.size Q R) (by kernel_rfl) (db_drew H2.out) fun hS => ?_
  refine held_take 0 rfl rfl (by kernel_rfl) (by kernel_rfl) (by kernel_rfl) (fun _ _ _ h => h) (fun w' h => puts_load80 _ rfl _ 0 rfl h.2.2.2.2.2.2.1.lies) hS ?_
  go_frame
  refine held_take 1 rfl rfl (by kernel_rfl) (by kernel_rfl) (by kernel_rfl) (fun _ _ _ h => h) (fun w' h => puts_move_to _ (.bool true) rfl rfl) hS ?_
  go_frame
  refine held_take 3 rfl rfl (by kernel_rfl) (by kernel_rfl) (by kernel_rfl) (fun _ _ _ h => h) (fun w' h => puts_load80 _ rfl _ 0 rfl h.2.2.2.2.2.2.2.lies) hS ?_
  go_frame
  refine held_take 4 rfl rfl (by kernel_rfl) (by kernel_rfl) (by kernel_rfl) (fun _ _ _ h => h) (fun w' h => puts_field1 _ _ rfl rfl) hS ?_
  go_frame
  refine held_take 5 rfl rfl (by kernel_rfl) (by kernel_rfl) (by kernel_rfl) (fun _ _ _ h => h) (fun w' h => puts_sign _ _ false rfl rfl h.2.2.1.signOf) hS ?_
  go_frame
  refine held_call 2 (by kernel_rfl) rfl rfl (puts_call2 57 _ _ _ (.agg (row80 Q)) (.bool true) rfl rfl rfl (by kernel_rfl)) (make_any Q true _ HQ.out) ?_
  rintro e w8 ⟨rfl, hbhS1⟩
  have hS1 := db_keep hS hbhS1 (db_lt hS)
  refine ⟨_, rfl, hS1, ?_⟩
  go_frame
  refine held_call 6 (by kernel_rfl) rfl rfl (puts_call2 57 _ _ _ (.agg (row80 R)) (.bool false) rfl rfl rfl (by kernel_rfl)) (make_any R false _ HR.out) ?_
  rintro e w9 ⟨rfl, hbhS2⟩
  have hS2 := db_keep hS1 hbhS2 (db_lt hS1)
  refine ⟨_, rfl, hS2, ?_⟩
  go_frame
  refine held_only 7 (by kernel_rfl) rfl rfl (db_store1 hS2 _ _ rfl rfl rfl) (db_res1 hS2).1 ?_
  go_frame
  refine held_only 8 (by kernel_rfl) rfl rfl (db_store2 (db_res1 hS2).1 _ _ rfl rfl rfl) (db_res2 (db_res1 hS2).1).1 ?_
  go_frame
  refine wpAnyH_done (by kernel_rfl) ?_ _
  go_wp2_with fail
  exact bodyPost_ret (v := .tuple #[.agg (ival (sgn true Q)), .agg (ival (sgn false R))]) (results_two rfl _ _ rfl rfl (var81 ((db_res1 hS2).2.rowOff (by omega))) (var81 (db_res2 (db_res1 hS2).1).2)) rfl ⟨by rw [HqQ.out, HrR.out], (db_res2 (db_res1 hS2).1).1.1⟩
set_option maxHeartbeats 1000000 in
theorem divBy_tf_some (m n : Nat) (w : World) (hm : m < 10 ^ 40) (hn : n < 10 ^ 40) (hn0 : 0 < n) (hz : ¬ m % n = 0) :
    Calls Try.prog 48 #[.agg (irow m true), .agg (irow n false)] w fun e w' => e = .returned (.tuple #[.agg (ival (sgn true (dq true false m n))), .agg (ival (sgn false (dr true false m n)))]) ∧ Below w.heap.size w w' := by
  have H0 := Lib.hid (db0_start w m true n false)
  have hq : dq true false m n = m / n + 1 ∧ dr true false m n = n - m % n := by simp [dq, dr, hz]
  have hQ : m / n + 1 < 10 ^ 80 := quo1_lt hm
  have hR : n - m % n < 10 ^ 80 := rest1_lt hn
  have HR0 := Lib.hid (rest_lt (m := m) hn hn0)
  have Hm := Lib.hid hm
  have Hn := Lib.hid hn
  have Hn8 := Lib.hid (lt80 hn (Nat.le_refl _))
  have Hn0 := Lib.hid hn0
  have Hrl := Lib.hid (Nat.mod_lt m hn0)
  have Hdz := Lib.hid (show (!decide (m % n = 0)) = true by simp [hz])
  obtain ⟨Q, hQe⟩ : ∃ Q, m / n + 1 = Q := ⟨_, rfl⟩
  obtain ⟨R, hRe⟩ : ∃ R, n - m % n = R := ⟨_, rfl⟩
  rw [hQe, hRe] at hq
  rw [hQe] at hQ
  rw [hRe] at hR
  have HqQ := Lib.hid hq.1
  have HrR := Lib.hid hq.2
  have HQ := Lib.hid hQ
  have HR := Lib.hid hR
  have HQe := Lib.hid hQe
  have HRe := Lib.hid hRe
  clear hm hn hn0 hq hQ hR hQe hRe hz
  go_enter Try.func48, Try.ntmps48
  go_wp2_with (first | (refine ld80 rfl _ rfl _ 0 rfl (H0.out.2.1.sizeOf) ?_) | (refine ld80 rfl _ rfl _ 0 rfl (H0.out.2.2.1.sizeOf) ?_))
  refine (div_any m n _ Hm.out Hn.out Hn0.out).mono ?_
  rintro e w1 ⟨rfl, hb1⟩
  have H1 := Lib.hid (db0_keep H0.out hb1 (by simp))
  clear hb1
  have H2 := Lib.hid (db_start (q := m / n) (r := m % n) H1.out)
  have HA := Lib.hid (show Blk ((w1.alloc (Obj.cells Try.zeroCells41 41)).alloc (Obj.cells Try.zeroCells41 41)) w1.heap.size 41 Try.zeroCells41 from (Blk.new w1 41 Try.zeroCells41 rfl).alloc _)
  have HB := Lib.hid (show Blk (((w1.alloc (Obj.cells Try.zeroCells41 41)).alloc (Obj.cells Try.zeroCells41 41)).setRow w1.heap.size (row80 (m / n))) (w1.heap.size + 1) 41 Try.zeroCells41 from (Blk.new (w1.alloc _) 41 Try.zeroCells41 (by simp)).rowOff (by omega))
  have HZ := Lib.hid (show Try.zeroCells41.size = 80 by rw [zero80]; exact row80_size _)
  go_wp2_with (first | (refine ext rfl (.tmp 9) 0 [.agg (row80 (m / n)), .agg (row80 (m % n))] (.agg (row80 (m / n))) rfl rfl rfl ?_) | (refine ext rfl (.tmp 9) 1 [.agg (row80 (m / n)), .agg (row80 (m % n))] (.agg (row80 (m % n))) rfl rfl rfl ?_) | (refine st80 rfl (.tmp 6) (.tmp 15) rfl w1.heap.size rfl rfl (t := 41) (old := Try.zeroCells41) ?_ ?_ ?_; with_reducible exact HA.out; exact HZ.out) | (refine st80 rfl (.tmp 7) (.tmp 16) rfl (w1.heap.size + 1) rfl rfl (t := 41) (old := Try.zeroCells41) ?_ ?_ ?_; with_reducible exact HB.out; exact HZ.out; generalize ((((w1.alloc (Obj.cells Try.zeroCells41 41)).alloc (Obj.cells Try.zeroCells41 41)).setRow w1.heap.size (row80 (m / n))).setRow (w1.heap.size + 1) (row80 (m % n))) = w3 at H2 ⊢; have c1 := (db_facts H2.out).1; have c2 := (db_facts H2.out).2) | (refine Gives.want rfl (gives_load80 (.tmp 7) rfl (w1.heap.size + 1) 0 rfl (H2.out.2.2.2.2.2.2.2.lies)) ?_) | (refine Gives.want rfl (puts_build0 _ rfl _ built80).gives ?_) | (refine Gives.want rfl (puts_neq80 _ _ _ rfl rfl rfl HR0.out (by decide)).gives ?_; rw [Hdz.out]) | (refine ld80 rfl (.tmp 6) rfl w1.heap.size 0 rfl (n := m / n) ?_ ?_; exact H2.out.2.2.2.2.2.2.1.lies) | (refine (puts_build1 _ 0 (.const (.int .u8 1)) rfl (.int .u8 1) rfl _ built80one).gives.plain rfl ?_) | (go_at_call 73; refine (add_any (m / n) 1 _).mono ?_; rintro e w4 ⟨rfl, hb4⟩; have H4 := Lib.hid (db_keep H2.out hb4 (db_lt H2.out)); have H5 := Lib.hid (db_quo (q2 := m / n + 1) H4.out); clear hb4) | (refine st80 rfl (.tmp 6) (.tmp 30) rfl w1.heap.size rfl rfl (t := 41) (old := row80 (m / n)) ?_ ?_ ?_; exact H4.out.2.2.2.2.2.2.1; exact row80_size _; generalize World.setRow w4 w1.heap.size (row80 (m / n + 1)) = w5 at H5 ⊢) | (refine ld80 rfl (.tmp 31) rfl (w.heap.size + 1) 0 rfl (n := n) ?_ ?_; exact H5.out.2.2.1.sizeOf) | (refine ld80 rfl (.tmp 7) rfl (w1.heap.size + 1) 0 rfl (n := m % n) ?_ ?_; exact H5.out.2.2.2.2.2.2.2.lies) | (go_at_call 74; refine (sub_any n (m % n) _ Hn8.out (Nat.le_of_lt Hrl.out)).mono ?_; rintro e w6 ⟨rfl, hb6⟩; have H6 := Lib.hid (db_keep H5.out hb6 (db_lt H5.out)); have H7 := Lib.hid (db_rest (r2 := n - m % n) H6.out); clear hb6) | (refine st80 rfl (.tmp 7) (.tmp 34) rfl (w1.heap.size + 1) rfl rfl (t := 41) (old := row80 (m % n)) ?_ ?_ ?_; exact H6.out.2.2.2.2.2.2.2; exact row80_size _; generalize World.setRow w6 (w1.heap.size + 1) (row80 (n - m % n)) = w7 at H7 ⊢))
  rw [HQe.out, HRe.out] at H7
  refine wp_region_held_drew (S := fun w' => DbInv w w' m true n false w1.heap.size Q R) (by kernel_rfl) (db_drew H7.out) fun hS => ?_
  refine held_take 0 rfl rfl (by kernel_rfl) (by kernel_rfl) (by kernel_rfl) (fun _ _ _ h => h) (fun w' h => puts_load80 _ rfl _ 0 rfl h.2.2.2.2.2.2.1.lies) hS ?_
  go_frame
  refine held_take 1 rfl rfl (by kernel_rfl) (by kernel_rfl) (by kernel_rfl) (fun _ _ _ h => h) (fun w' h => puts_move_to _ (.bool true) rfl rfl) hS ?_
  go_frame
  refine held_take 3 rfl rfl (by kernel_rfl) (by kernel_rfl) (by kernel_rfl) (fun _ _ _ h => h) (fun w' h => puts_load80 _ rfl _ 0 rfl h.2.2.2.2.2.2.2.lies) hS ?_
  go_frame
  refine held_take 4 rfl rfl (by kernel_rfl) (by kernel_rfl) (by kernel_rfl) (fun _ _ _ h => h) (fun w' h => puts_field1 _ _ rfl rfl) hS ?_
  go_frame
  refine held_take 5 rfl rfl (by kernel_rfl) (by kernel_rfl) (by kernel_rfl) (fun _ _ _ h => h) (fun w' h => puts_sign _ _ false rfl rfl h.2.2.1.signOf) hS ?_
  go_frame
  refine held_call 2 (by kernel_rfl) rfl rfl (puts_call2 57 _ _ _ (.agg (row80 Q)) (.bool true) rfl rfl rfl (by kernel_rfl)) (make_any Q true _ HQ.out) ?_
  rintro e w8 ⟨rfl, hbhS1⟩
  have hS1 := db_keep hS hbhS1 (db_lt hS)
  refine ⟨_, rfl, hS1, ?_⟩
  go_frame
  refine held_call 6 (by kernel_rfl) rfl rfl (puts_call2 57 _ _ _ (.agg (row80 R)) (.bool false) rfl rfl rfl (by kernel_rfl)) (make_any R false _ HR.out) ?_
  rintro e w9 ⟨rfl, hbhS2⟩
  have hS2 := db_keep hS1 hbhS2 (db_lt hS1)
  refine ⟨_, rfl, hS2, ?_⟩
  go_frame
  refine held_only 7 (by kernel_rfl) rfl rfl (db_store1 hS2 _ _ rfl rfl rfl) (db_res1 hS2).1 ?_
  go_frame
  refine held_only 8 (by kernel_rfl) rfl rfl (db_store2 (db_res1 hS2).1 _ _ rfl rfl rfl) (db_res2 (db_res1 hS2).1).1 ?_
  go_frame
  refine wpAnyH_done (by kernel_rfl) ?_ _
  go_wp2_with fail
  exact bodyPost_ret (v := .tuple #[.agg (ival (sgn true Q)), .agg (ival (sgn false R))]) (results_two rfl _ _ rfl rfl (var81 ((db_res1 hS2).2.rowOff (by omega))) (var81 (db_res2 (db_res1 hS2).1).2)) rfl ⟨by rw [HqQ.out, HrR.out], (db_res2 (db_res1 hS2).1).1.1⟩
theorem divBy_any (m n : Nat) (s t : Bool) (w : World) (hm : m < 10 ^ 40) (hn : n < 10 ^ 40) (hn0 : 0 < n) :
    Calls Try.prog 48 #[.agg (irow m s), .agg (irow n t)] w fun e w' => e = .returned (.tuple #[.agg (ival (sgn (s != t) (dq s t m n))), .agg (ival (sgn t (dr s t m n)))]) ∧ Below w.heap.size w w' := by
  by_cases hz : m % n = 0
  · cases s <;> cases t
    · exact divBy_ff_any m n w hm hn hn0
    · exact divBy_ft_zero m n w hm hn hn0 hz
    · exact divBy_tf_zero m n w hm hn hn0 hz
    · exact divBy_tt_any m n w hm hn hn0
  · cases s <;> cases t
    · exact divBy_ff_any m n w hm hn hn0
    · exact divBy_ft_some m n w hm hn hn0 hz
    · exact divBy_tf_some m n w hm hn hn0 hz
    · exact divBy_tt_any m n w hm hn hn0
end Go.Proofs.Ytckmpenlpkhnfab
