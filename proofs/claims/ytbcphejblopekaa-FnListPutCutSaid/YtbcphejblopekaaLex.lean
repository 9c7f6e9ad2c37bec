/- The exact laws on lists of numbers: from two contracts to the law. -/
import Derived.Test.YtbcphejblopekaaLrooms
import Derived.Test.YtbcphejblopekaaCutA
namespace Go.Proofs.Ytbcphejblopekaa
open Go.RowKit
theorem own_ne_lo {v x : Value} {m : Nat} (h1 : ∀ g, v.ownBlock = some g → g < m) (h2 : ∀ g, x.ownBlock = some g → m ≤ g) : v.ownBlock = none ∨ v.ownBlock ≠ x.ownBlock := by
  cases hv : v.ownBlock with
  | none => exact .inl rfl
  | some g => exact .inr fun h => by have a := h1 g hv; have b := h2 g h.symm; omega
theorem own_ne_hi {v x : Value} {m : Nat} (h1 : ∀ g, v.ownBlock = some g → m ≤ g) (h2 : ∀ g, x.ownBlock = some g → g < m) : v.ownBlock = none ∨ v.ownBlock ≠ x.ownBlock := by
  cases hv : v.ownBlock with
  | none => exact .inl rfl
  | some g => exact .inr fun h => by have a := h1 g hv; have b := h2 g h.symm; omega
theorem toIntS_n (is : List Int) (n : Nat) (a : Option Addr) (cap : Nat) (w : World) (hn : n = is.length) (h : RsI w a cap is) (hl : is.length ≤ 1048576) :
    Calls Try.prog 18 #[.slice a n cap] w fun e w' => e = .returned (.slice (some ⟨w.heap.size, 0, none⟩) n n) ∧ Below w.heap.size w w' ∧ OwI w' w.heap.size (.slice (some ⟨w.heap.size, 0, none⟩) n n) is := by
  subst hn
  exact toIntS_any is _ w ⟨_, _, rfl, h⟩ hl
theorem below_drew (w : World) : Below w.heap.size w w.drew := ⟨rfl, rfl, rfl, Nat.le_refl _, fun _ _ => rfl⟩
theorem puts_call3 {P : Program} {o : Oper} {a : Act} {w : World} (f : FuncId) (x y z : Operand) (ts : Array TypeId) (v u q : Value) (ho : o.op = .call { callee := .value (.func f), args := #[x, y, z], argTypes := ts }) (hx : a.eval x = v) (hy : a.eval y = u) (hz : a.eval z = q) (hb : plainFn P f = true) : (execOp a.eval o).run P w = .ok (.enter f #[v, u, q]) w :=
  puts_call f #[x, y, z] ts ho #[v, u, q] (by subst hx; subst hy; subst hz; simp) hb
theorem gives_assign {P : Program} {o : Oper} {a : Act} {w : World} {v : Value} (x : Operand) (ho : o.op = .assign x) (hx : a.eval x = v) : Gives P o a w v w := (puts_assign_to x v ho hx).gives
/-- A list and a bool are answered, the list in memory of its own. -/
def LiPb (R : List Int) (bb : Bool) (w : World) (e : Ending) (w' : World) : Prop := ∃ v, e = .returned (.tuple #[v, .bool bb]) ∧ OwI w' w.heap.size v R ∧ Below w.heap.size w w'
set_option maxHeartbeats 4000000 in
theorem fnExactRoomsOf_walk (is0 : List Int) (a0 : Option Addr) (cap0 : Nat) (R : List Int) (w : World) (h0 : RsI w a0 cap0 is0) (hl0 : is0.length ≤ 1048576) (hR : R.length ≤ 1048576)
    (h1 : ∀ (w2 : World) (u0 : Value) (_ : RdI w2 u0 is0), Calls Try.prog 17 #[u0] w2 (LiP R w2))
    (h2 : ∀ (w2 : World) (u0 : Value) (_ : RdI w2 u0 is0), Calls Try.prog 19 #[u0] w2 (LiP R w2)) :
    Calls Try.prog 4 #[.slice a0 is0.length cap0] w fun e w' => e = .returned (.bool true) ∧ Below w.heap.size w w' := by
  have HT0 := Lib.hid (fun (n : Nat) (hn : n = is0.length) (w2 : World) (h2 : Below w.heap.size w w2) => toIntS_n is0 n a0 cap0 w2 hn (h0.below h2) hl0)
  have H1 := Lib.hid h1
  have H2 := Lib.hid h2
  have HE := Lib.hid (fun (w2 : World) (v1 v2 : Value) (is : List Int) (hl : is.length ≤ 1048576) (q1 : RdI w2 v1 is) (q2 : RdI w2 v2 is) => eqIntS_rd is v1 v2 w2 q1 q2 hl)
  have HL0 := Lib.hid hl0
  have hcap0 := h0.1
  have HR := Lib.hid hR
  have hRq : (R.length : Int) ≤ 1048576 := by omega
  clear hR h1 h2 h0
  obtain ⟨n0, hn0⟩ : ∃ n, n = is0.length := ⟨_, rfl⟩
  have HN0 := Lib.hid hn0
  rw [← hn0] at hl0 hcap0 ⊢
  clear hn0
  have HB0 := Lib.hid (Below.refl w.heap.size w)
  go_enter Try.func4, Try.ntmps4
  go_wp2_with fail
  refine (HT0.out _ HN0.out _ HB0.out).mono ?_
  rintro e w1 ⟨rfl, hb1, ho1⟩
  have HB1 := Lib.hid (HB0.out.trans (hb1.mono HB0.out.size))
  have HZ1 := Lib.hid hb1.size
  have HOp01 := Lib.hid ho1
  have HGp0 := Lib.hid (show ∀ g, (Value.slice (some ⟨w.heap.size, 0, none⟩) n0 n0).ownBlock = some g → w.heap.size ≤ g ∧ g < w1.heap.size from fun g hg => OwI.lt ho1 g hg)
  clear hb1 ho1
  go_wp2_with fail
  refine (H1.out _ _ HOp01.out.rd).mono ?_
  rintro e w2 ⟨v0, rfl, ho2, hb2⟩
  have HB2 := Lib.hid (HB1.out.trans (hb2.mono HB1.out.size))
  have HOp02 := Lib.hid (HOp01.out.below hb2)
  have HZ2 := Lib.hid hb2.size
  have HOv02 := Lib.hid ho2
  have HGv0 := Lib.hid (show ∀ g, v0.ownBlock = some g → w1.heap.size ≤ g ∧ g < w2.heap.size from fun g hg => OwI.lt ho2 g hg)
  clear hb2 ho2
  go_wp2_with fail
  refine (HT0.out _ HN0.out _ HB2.out).mono ?_
  rintro e w3 ⟨rfl, hb3, ho3⟩
  have HB3 := Lib.hid (HB2.out.trans (hb3.mono HB2.out.size))
  have HOv03 := Lib.hid (HOv02.out.below hb3)
  have HZ3 := Lib.hid hb3.size
  have HOx03 := Lib.hid ho3
  have HGx0 := Lib.hid (show ∀ g, (Value.slice (some ⟨w2.heap.size, 0, none⟩) n0 n0).ownBlock = some g → w2.heap.size ≤ g ∧ g < w3.heap.size from fun g hg => OwI.lt ho3 g hg)
  clear hb3 ho3
  go_wp2_with fail
  refine (H2.out _ _ HOx03.out.rd).mono ?_
  rintro e w4 ⟨g0, rfl, ho4, hb4⟩
  have HB4 := Lib.hid (HB3.out.trans (hb4.mono HB3.out.size))
  have HOv04 := Lib.hid (HOv03.out.below hb4)
  have HOx04 := Lib.hid (HOx03.out.below hb4)
  have HZ4 := Lib.hid hb4.size
  have HOg04 := Lib.hid ho4
  have HGg0 := Lib.hid (show ∀ g, g0.ownBlock = some g → w3.heap.size ≤ g ∧ g < w4.heap.size from fun g hg => OwI.lt ho4 g hg)
  clear hb4 ho4
  go_wp2_with fail
  refine (HE.out _ _ _ R HR.out HOg04.out.rd HOv04.out.rd).mono ?_
  rintro e w5 ⟨rfl, hb5⟩
  have HB5 := Lib.hid (HB4.out.trans (hb5.mono HB4.out.size))
  have HOv05 := Lib.hid (HOv04.out.below hb5)
  have HOx05 := Lib.hid (HOx04.out.below hb5)
  have HOg05 := Lib.hid (HOg04.out.below hb5)
  have HZ5 := Lib.hid hb5.size
  clear hb5
  go_wp2_with fail
  refine (HT0.out _ HN0.out _ HB5.out).mono ?_
  rintro e w6 ⟨rfl, hb6, ho6⟩
  have HB6 := Lib.hid (HB5.out.trans (hb6.mono HB5.out.size))
  have HOv06 := Lib.hid (HOv05.out.below hb6)
  have HOx06 := Lib.hid (HOx05.out.below hb6)
  have HOg06 := Lib.hid (HOg05.out.below hb6)
  have HZ6 := Lib.hid hb6.size
  have HOy06 := Lib.hid ho6
  have HGy0 := Lib.hid (show ∀ g, (Value.slice (some ⟨w5.heap.size, 0, none⟩) n0 n0).ownBlock = some g → w5.heap.size ≤ g ∧ g < w6.heap.size from fun g hg => OwI.lt ho6 g hg)
  clear hb6 ho6
  go_wp2_with fail
  refine (HE.out _ _ _ is0 HL0.out HOx06.out.rd HOy06.out.rd).mono ?_
  rintro e w7 ⟨rfl, hb7⟩
  have HB7 := Lib.hid (HB6.out.trans (hb7.mono HB6.out.size))
  have HOv07 := Lib.hid (HOv06.out.below hb7)
  have HOx07 := Lib.hid (HOx06.out.below hb7)
  have HOg07 := Lib.hid (HOg06.out.below hb7)
  have HOy07 := Lib.hid (HOy06.out.below hb7)
  have HZ7 := Lib.hid hb7.size
  clear hb7
  go_wp2_with fail
  have HZC2_2 := Lib.hid (Nat.le_refl w2.heap.size)
  have HZC3_3 := Lib.hid (Nat.le_refl w3.heap.size)
  refine (mark_own 1 _ HOx07.out (by omega) (by omega) (by exact HL0.out)).mono ?_
  rintro e w8 ⟨rfl, hu8, hb8⟩
  rw [← HN0.out]
  have HB8 := Lib.hid (HB7.out.grown hb8 HB7.out.size (fun g hg => Nat.le_trans HB2.out.size (HGx0.out g hg).1))
  have HOv08 := Lib.hid (HOv07.out.grown hb8 (own_ne_lo (fun g hg => (HGv0.out g hg).2) (fun g hg => Nat.le_trans HZC2_2.out (HGx0.out g hg).1)))
  have HOg08 := Lib.hid (HOg07.out.grown hb8 (own_ne_hi (fun g hg => (HGg0.out g hg).1) (fun g hg => Nat.lt_of_lt_of_le (HGx0.out g hg).2 HZC3_3.out)))
  have HZ8 := Lib.hid hb8.size
  go_wp2_with fail
  refine (HE.out _ _ _ R HR.out HOg08.out.rd HOv08.out.rd).mono ?_
  rintro e w9 ⟨rfl, hb9⟩
  have HB9 := Lib.hid (HB8.out.trans (hb9.mono HB8.out.size))
  have HOv09 := Lib.hid (HOv08.out.below hb9)
  have HOg09 := Lib.hid (HOg08.out.below hb9)
  have HZ9 := Lib.hid hb9.size
  clear hb9
  go_wp2_with fail
  have HZC2_3 := Lib.hid (HZ3.out)
  refine (mark_own 1 _ HOg09.out (by omega) (by omega) (by exact HR.out)).mono ?_
  rintro e w10 ⟨rfl, hu10, hb10⟩
  have HB10 := Lib.hid (HB9.out.grown hb10 HB9.out.size (fun g hg => Nat.le_trans HB3.out.size (HGg0.out g hg).1))
  have HOv010 := Lib.hid (HOv09.out.grown hb10 (own_ne_lo (fun g hg => (HGv0.out g hg).2) (fun g hg => Nat.le_trans HZC2_3.out (HGg0.out g hg).1)))
  have HZ10 := Lib.hid hb10.size
  have HU10 := Lib.hid hu10
  clear hu10 hb10
  go_wp2_with fail
  refine (held_up 1 _ HU10.out (by omega) (by omega) HR.out).mono ?_
  rintro e wq ⟨rfl, rfl⟩
  go_wp2_with fail
  refine (HT0.out _ HN0.out _ HB10.out).mono ?_
  rintro e w11 ⟨rfl, hb11, ho11⟩
  have HB11 := Lib.hid (HB10.out.trans (hb11.mono HB10.out.size))
  have HOv011 := Lib.hid (HOv010.out.below hb11)
  have HZ11 := Lib.hid hb11.size
  have HU11 := Lib.hid (HU10.out.below hb11)
  have HOz011 := Lib.hid ho11
  clear hb11 ho11
  go_wp2_with fail
  refine (H2.out _ _ HOz011.out.rd).mono ?_
  rintro e w12 ⟨k0, rfl, ho12, hb12⟩
  have HB12 := Lib.hid (HB11.out.trans (hb12.mono HB11.out.size))
  have HOv012 := Lib.hid (HOv011.out.below hb12)
  have HOz012 := Lib.hid (HOz011.out.below hb12)
  have HZ12 := Lib.hid hb12.size
  have HU12 := Lib.hid (HU11.out.below hb12)
  have HOk012 := Lib.hid ho12
  clear hb12 ho12
  go_wp2_with fail
  refine (HE.out _ _ _ R HR.out HOk012.out.rd HOv012.out.rd).mono ?_
  rintro e w13 ⟨rfl, hb13⟩
  have HB13 := Lib.hid (HB12.out.trans (hb13.mono HB12.out.size))
  have HOv013 := Lib.hid (HOv012.out.below hb13)
  have HOz013 := Lib.hid (HOz012.out.below hb13)
  have HOk013 := Lib.hid (HOk012.out.below hb13)
  have HZ13 := Lib.hid hb13.size
  have HU13 := Lib.hid (HU12.out.below hb13)
  clear hb13
  go_wp2_with fail
  refine (held_up 1 _ HU13.out (by omega) (by omega) HR.out).mono ?_
  rintro e wq ⟨rfl, rfl⟩
  go_wp2_with fail
  go_ret
  exact ⟨rfl, HB13.out⟩
set_option maxHeartbeats 1000000 in
theorem fnExactListCut_walk (is0 : List Int) (a0 : Option Addr) (cap0 : Nat) (f t st : Int) (hf ht : Bool) (R : List Int) (w : World) (h0 : RsI w a0 cap0 is0) (hl0 : is0.length ≤ 1048576) (hR : R.length ≤ 1048576)
    (h1 : ∀ (w2 : World) (u0 : Value) (_ : RdI w2 u0 is0), Calls Try.prog 23 #[u0, .agg #[.int .i64 f, .int .i64 t, .int .i64 st, .bool hf, .bool ht]] w2 (LiP R w2))
    (h2 : ∀ (w2 : World) (u0 : Value) (_ : RdI w2 u0 is0), Calls Try.prog 25 #[u0, .agg #[.int .i64 f, .int .i64 t, .int .i64 st, .bool hf, .bool ht]] w2 (LiP R w2)) :
    Calls Try.prog 5 #[.slice a0 is0.length cap0, .agg #[.int .i64 f, .int .i64 t, .int .i64 st, .bool hf, .bool ht]] w fun e w' => e = .returned (.bool true) ∧ Below w.heap.size w w' := by
  have HT0 := Lib.hid (fun (n : Nat) (hn : n = is0.length) (w2 : World) (h2 : Below w.heap.size w w2) => toIntS_n is0 n a0 cap0 w2 hn (h0.below h2) hl0)
  have H1 := Lib.hid h1
  have H2 := Lib.hid h2
  have HE := Lib.hid (fun (w2 : World) (v1 v2 : Value) (is : List Int) (hl : is.length ≤ 1048576) (q1 : RdI w2 v1 is) (q2 : RdI w2 v2 is) => eqIntS_rd is v1 v2 w2 q1 q2 hl)
  have HL0 := Lib.hid hl0
  have hcap0 := h0.1
  have HR := Lib.hid hR
  have hRq : (R.length : Int) ≤ 1048576 := by omega
  clear hR h1 h2 h0
  obtain ⟨n0, hn0⟩ : ∃ n, n = is0.length := ⟨_, rfl⟩
  have HN0 := Lib.hid hn0
  rw [← hn0] at hl0 hcap0 ⊢
  clear hn0
  have HTC := Lib.hid (fun w => toCut_any f t st hf ht w)
  unfold cutC at HTC
  have HX0 := Lib.hid (show Blk (w.alloc (Obj.cells #[.int .i64 f, .int .i64 t, .int .i64 st, .bool hf, .bool ht] 30)) w.heap.size 30 #[.int .i64 f, .int .i64 t, .int .i64 st, .bool hf, .bool ht] from Blk.new _ _ _ rfl)
  have HB0 := Lib.hid (show Below w.heap.size w (w.alloc (Obj.cells #[.int .i64 f, .int .i64 t, .int .i64 st, .bool hf, .bool ht] 30)) from (Below.refl _ _).alloc (Nat.le_refl _) _)
  go_enter Try.func5, Try.ntmps5
  go_wp2_with fail
  have hb1 := below_drew (w.alloc (Obj.cells #[.int .i64 f, .int .i64 t, .int .i64 st, .bool hf, .bool ht] 30))
  have HB1 := Lib.hid (HB0.out.trans (hb1.mono HB0.out.size))
  have HX1 := Lib.hid (HX0.out.below hb1 HX0.out.lt)
  have HZ1 := Lib.hid hb1.size
  clear hb1
  refine wp_region_held_drew (S := fun w' => Blk w' w.heap.size 30 #[.int .i64 f, .int .i64 t, .int .i64 st, .bool hf, .bool ht]) (by kernel_rfl) HX1.out fun hS => ?_
  refine held_take 0 (v := .slice a0 n0 cap0) rfl rfl (by kernel_rfl) (by kernel_rfl) (by kernel_rfl) (fun _ _ _ h => h) (fun w' h => puts_move_to _ _ rfl rfl) hS ?_
  go_frame
  refine held_take 2 (v := .agg #[.int .i64 f, .int .i64 t, .int .i64 st, .bool hf, .bool ht]) rfl rfl (by kernel_rfl) (by kernel_rfl) (by kernel_rfl) (fun _ _ _ h => h) (fun w' h => puts_load 30 _ rfl w.heap.size 0 #[.int .i64 f, .int .i64 t, .int .i64 st, .bool hf, .bool ht] rfl (Blk.lies h) _ Try.underlying30 rfl (by kernel_rfl)) hS ?_
  go_frame
  refine held_call 1 (by kernel_rfl) rfl rfl (puts_call1 18 _ _ (.slice a0 n0 cap0) rfl rfl (by kernel_rfl)) (HT0.out _ HN0.out _ HB1.out) ?_
  rintro e w2 ⟨rfl, hb2, ho2⟩
  have HB2 := Lib.hid (HB1.out.trans (hb2.mono HB1.out.size))
  have HX2 := Lib.hid (HX1.out.below hb2 HX1.out.lt)
  have HZ2 := Lib.hid hb2.size
  have HOp02 := Lib.hid ho2
  clear hb2 ho2
  refine ⟨_, rfl, HX2.out, ?_⟩
  go_frame
  refine held_call 3 (by kernel_rfl) rfl rfl (puts_call1 24 _ _ (.agg #[.int .i64 f, .int .i64 t, .int .i64 st, .bool hf, .bool ht]) rfl rfl (by kernel_rfl)) (HTC.out _) ?_
  rintro e w3 ⟨rfl, hb3⟩
  have HB3 := Lib.hid (HB2.out.trans (hb3.mono HB2.out.size))
  have HX3 := Lib.hid (HX2.out.below hb3 HX2.out.lt)
  have HOp03 := Lib.hid (HOp02.out.below hb3)
  have HZ3 := Lib.hid hb3.size
  clear hb3
  refine ⟨_, rfl, HX3.out, ?_⟩
  go_frame
  refine held_call 4 (by kernel_rfl) rfl rfl (puts_call2 23 _ _ _ (.slice (some ⟨(w.alloc (Obj.cells #[.int .i64 f, .int .i64 t, .int .i64 st, .bool hf, .bool ht] 30)).drew.heap.size, 0, none⟩) n0 n0) (.agg #[.int .i64 f, .int .i64 t, .int .i64 st, .bool hf, .bool ht]) rfl rfl rfl (by kernel_rfl)) (H1.out _ _ HOp03.out.rd) ?_
  rintro e w4 ⟨v0, rfl, ho4, hb4⟩
  have HB4 := Lib.hid (HB3.out.trans (hb4.mono HB3.out.size))
  have HX4 := Lib.hid (HX3.out.below hb4 HX3.out.lt)
  have HOp04 := Lib.hid (HOp03.out.below hb4)
  have HZ4 := Lib.hid hb4.size
  have HOv04 := Lib.hid ho4
  have HGv0 := Lib.hid (show ∀ g, v0.ownBlock = some g → w3.heap.size ≤ g ∧ g < w4.heap.size from fun g hg => OwI.lt ho4 g hg)
  clear hb4 ho4
  refine ⟨_, rfl, HX4.out, ?_⟩
  go_frame
  refine held_only 5 (v := v0) (by kernel_rfl) rfl rfl (gives_assign _ rfl rfl) HX4.out ?_
  go_frame
  refine wpAnyH_done (by kernel_rfl) ?_ _
  go_wp2_with fail
  refine (HT0.out _ HN0.out _ HB4.out).mono ?_
  rintro e w5 ⟨rfl, hb5, ho5⟩
  have HB5 := Lib.hid (HB4.out.trans (hb5.mono HB4.out.size))
  have HX5 := Lib.hid (HX4.out.below hb5 HX4.out.lt)
  have HOv05 := Lib.hid (HOv04.out.below hb5)
  have HZ5 := Lib.hid hb5.size
  have HOx05 := Lib.hid ho5
  have HGx0 := Lib.hid (show ∀ g, (Value.slice (some ⟨w4.heap.size, 0, none⟩) n0 n0).ownBlock = some g → w4.heap.size ≤ g ∧ g < w5.heap.size from fun g hg => OwI.lt ho5 g hg)
  clear hb5 ho5
  have c0 : w5.cell? ⟨w.heap.size, 0, none⟩ = some (.int .i64 f) := HX5.out.cell 0
  have c1 : w5.cell? ⟨w.heap.size, 1, none⟩ = some (.int .i64 t) := HX5.out.cell 1
  have c2 : w5.cell? ⟨w.heap.size, 2, none⟩ = some (.int .i64 st) := HX5.out.cell 2
  have c3 : w5.cell? ⟨w.heap.size, 3, none⟩ = some (.bool hf) := HX5.out.cell 3
  have c4 : w5.cell? ⟨w.heap.size, 4, none⟩ = some (.bool ht) := HX5.out.cell 4
  go_wp2_with fail
  clear c0 c1 c2 c3 c4
  refine (HTC.out _).mono ?_
  rintro e w6 ⟨rfl, hb6⟩
  have HB6 := Lib.hid (HB5.out.trans (hb6.mono HB5.out.size))
  have HX6 := Lib.hid (HX5.out.below hb6 HX5.out.lt)
  have HOv06 := Lib.hid (HOv05.out.below hb6)
  have HOx06 := Lib.hid (HOx05.out.below hb6)
  have HZ6 := Lib.hid hb6.size
  clear hb6
  go_wp2_with fail
  refine (H2.out _ _ HOx06.out.rd).mono ?_
  rintro e w7 ⟨g0, rfl, ho7, hb7⟩
  have HB7 := Lib.hid (HB6.out.trans (hb7.mono HB6.out.size))
  have HX7 := Lib.hid (HX6.out.below hb7 HX6.out.lt)
  have HOv07 := Lib.hid (HOv06.out.below hb7)
  have HOx07 := Lib.hid (HOx06.out.below hb7)
  have HZ7 := Lib.hid hb7.size
  have HOg07 := Lib.hid ho7
  have HGg0 := Lib.hid (show ∀ g, g0.ownBlock = some g → w6.heap.size ≤ g ∧ g < w7.heap.size from fun g hg => OwI.lt ho7 g hg)
  clear hb7 ho7
  go_wp2_with fail
  refine (HE.out _ _ _ R HR.out HOg07.out.rd HOv07.out.rd).mono ?_
  rintro e w8 ⟨rfl, hb8⟩
  have HB8 := Lib.hid (HB7.out.trans (hb8.mono HB7.out.size))
  have HX8 := Lib.hid (HX7.out.below hb8 HX7.out.lt)
  have HOv08 := Lib.hid (HOv07.out.below hb8)
  have HOx08 := Lib.hid (HOx07.out.below hb8)
  have HOg08 := Lib.hid (HOg07.out.below hb8)
  have HZ8 := Lib.hid hb8.size
  clear hb8
  go_wp2_with fail
  refine (HT0.out _ HN0.out _ HB8.out).mono ?_
  rintro e w9 ⟨rfl, hb9, ho9⟩
  have HB9 := Lib.hid (HB8.out.trans (hb9.mono HB8.out.size))
  have HX9 := Lib.hid (HX8.out.below hb9 HX8.out.lt)
  have HOv09 := Lib.hid (HOv08.out.below hb9)
  have HOx09 := Lib.hid (HOx08.out.below hb9)
  have HOg09 := Lib.hid (HOg08.out.below hb9)
  have HZ9 := Lib.hid hb9.size
  have HOy09 := Lib.hid ho9
  have HGy0 := Lib.hid (show ∀ g, (Value.slice (some ⟨w8.heap.size, 0, none⟩) n0 n0).ownBlock = some g → w8.heap.size ≤ g ∧ g < w9.heap.size from fun g hg => OwI.lt ho9 g hg)
  clear hb9 ho9
  go_wp2_with fail
  refine (HE.out _ _ _ is0 HL0.out HOx09.out.rd HOy09.out.rd).mono ?_
  rintro e w10 ⟨rfl, hb10⟩
  have HB10 := Lib.hid (HB9.out.trans (hb10.mono HB9.out.size))
  have HX10 := Lib.hid (HX9.out.below hb10 HX9.out.lt)
  have HOv010 := Lib.hid (HOv09.out.below hb10)
  have HOx010 := Lib.hid (HOx09.out.below hb10)
  have HOg010 := Lib.hid (HOg09.out.below hb10)
  have HOy010 := Lib.hid (HOy09.out.below hb10)
  have HZ10 := Lib.hid hb10.size
  clear hb10
  go_wp2_with fail
  have HZC4_4 := Lib.hid (Nat.le_refl w4.heap.size)
  have HZC5_6 := Lib.hid (HZ6.out)
  refine (mark_own 1 _ HOx010.out (by omega) (by omega) (by exact HL0.out)).mono ?_
  rintro e w11 ⟨rfl, hu11, hb11⟩
  rw [← HN0.out]
  have HB11 := Lib.hid (HB10.out.grown hb11 HB10.out.size (fun g hg => Nat.le_trans HB4.out.size (HGx0.out g hg).1))
  have HX11 := Lib.hid (show Blk w11 w.heap.size 30 #[.int .i64 f, .int .i64 t, .int .i64 st, .bool hf, .bool ht] from (hb11.block _ HX10.out.lt (fun hq => by have h3 := (HGx0.out _ hq.symm).1; have h4 := HX4.out.lt; omega)).trans HX10.out)
  have HOv011 := Lib.hid (HOv010.out.grown hb11 (own_ne_lo (fun g hg => (HGv0.out g hg).2) (fun g hg => Nat.le_trans HZC4_4.out (HGx0.out g hg).1)))
  have HOg011 := Lib.hid (HOg010.out.grown hb11 (own_ne_hi (fun g hg => (HGg0.out g hg).1) (fun g hg => Nat.lt_of_lt_of_le (HGx0.out g hg).2 HZC5_6.out)))
  have HZ11 := Lib.hid hb11.size
  go_wp2_with fail
  refine (HE.out _ _ _ R HR.out HOg011.out.rd HOv011.out.rd).mono ?_
  rintro e w12 ⟨rfl, hb12⟩
  have HB12 := Lib.hid (HB11.out.trans (hb12.mono HB11.out.size))
  have HX12 := Lib.hid (HX11.out.below hb12 HX11.out.lt)
  have HOv012 := Lib.hid (HOv011.out.below hb12)
  have HOg012 := Lib.hid (HOg011.out.below hb12)
  have HZ12 := Lib.hid hb12.size
  clear hb12
  go_wp2_with fail
  have HZC4_6 := Lib.hid ((Nat.le_trans HZ5.out HZ6.out))
  refine (mark_own 1 _ HOg012.out (by omega) (by omega) (by exact HR.out)).mono ?_
  rintro e w13 ⟨rfl, hu13, hb13⟩
  have HB13 := Lib.hid (HB12.out.grown hb13 HB12.out.size (fun g hg => Nat.le_trans HB6.out.size (HGg0.out g hg).1))
  have HX13 := Lib.hid (show Blk w13 w.heap.size 30 #[.int .i64 f, .int .i64 t, .int .i64 st, .bool hf, .bool ht] from (hb13.block _ HX12.out.lt (fun hq => by have h3 := (HGg0.out _ hq.symm).1; have h4 := HX6.out.lt; omega)).trans HX12.out)
  have HOv013 := Lib.hid (HOv012.out.grown hb13 (own_ne_lo (fun g hg => (HGv0.out g hg).2) (fun g hg => Nat.le_trans HZC4_6.out (HGg0.out g hg).1)))
  have HZ13 := Lib.hid hb13.size
  have HU13 := Lib.hid hu13
  clear hu13 hb13
  go_wp2_with fail
  refine (held_up 1 _ HU13.out (by omega) (by omega) HR.out).mono ?_
  rintro e wq ⟨rfl, rfl⟩
  go_wp2_with fail
  have hb14 := below_drew w13
  have HB14 := Lib.hid (HB13.out.trans (hb14.mono HB13.out.size))
  have HX14 := Lib.hid (HX13.out.below hb14 HX13.out.lt)
  have HOv014 := Lib.hid (HOv013.out.below hb14)
  have HZ14 := Lib.hid hb14.size
  have HU14 := Lib.hid (HU13.out.below hb14)
  clear hb14
  refine wp_region_held_drew (S := fun w' => Blk w' w.heap.size 30 #[.int .i64 f, .int .i64 t, .int .i64 st, .bool hf, .bool ht]) (by kernel_rfl) HX14.out fun hS => ?_
  refine held_take 0 (v := .slice a0 n0 cap0) rfl rfl (by kernel_rfl) (by kernel_rfl) (by kernel_rfl) (fun _ _ _ h => h) (fun w' h => puts_move_to _ _ rfl rfl) hS ?_
  go_frame
  refine held_take 2 (v := .agg #[.int .i64 f, .int .i64 t, .int .i64 st, .bool hf, .bool ht]) rfl rfl (by kernel_rfl) (by kernel_rfl) (by kernel_rfl) (fun _ _ _ h => h) (fun w' h => puts_load 30 _ rfl w.heap.size 0 #[.int .i64 f, .int .i64 t, .int .i64 st, .bool hf, .bool ht] rfl (Blk.lies h) _ Try.underlying30 rfl (by kernel_rfl)) hS ?_
  go_frame
  refine held_call 1 (by kernel_rfl) rfl rfl (puts_call1 18 _ _ (.slice a0 n0 cap0) rfl rfl (by kernel_rfl)) (HT0.out _ HN0.out _ HB14.out) ?_
  rintro e w15 ⟨rfl, hb15, ho15⟩
  have HB15 := Lib.hid (HB14.out.trans (hb15.mono HB14.out.size))
  have HX15 := Lib.hid (HX14.out.below hb15 HX14.out.lt)
  have HOv015 := Lib.hid (HOv014.out.below hb15)
  have HZ15 := Lib.hid hb15.size
  have HU15 := Lib.hid (HU14.out.below hb15)
  have HOz015 := Lib.hid ho15
  clear hb15 ho15
  refine ⟨_, rfl, HX15.out, ?_⟩
  go_frame
  refine held_call 3 (by kernel_rfl) rfl rfl (puts_call1 24 _ _ (.agg #[.int .i64 f, .int .i64 t, .int .i64 st, .bool hf, .bool ht]) rfl rfl (by kernel_rfl)) (HTC.out _) ?_
  rintro e w16 ⟨rfl, hb16⟩
  have HB16 := Lib.hid (HB15.out.trans (hb16.mono HB15.out.size))
  have HX16 := Lib.hid (HX15.out.below hb16 HX15.out.lt)
  have HOv016 := Lib.hid (HOv015.out.below hb16)
  have HOz016 := Lib.hid (HOz015.out.below hb16)
  have HZ16 := Lib.hid hb16.size
  have HU16 := Lib.hid (HU15.out.below hb16)
  clear hb16
  refine ⟨_, rfl, HX16.out, ?_⟩
  go_frame
  refine held_call 4 (by kernel_rfl) rfl rfl (puts_call2 25 _ _ _ (.slice (some ⟨w13.drew.heap.size, 0, none⟩) n0 n0) (.agg #[.int .i64 f, .int .i64 t, .int .i64 st, .bool hf, .bool ht]) rfl rfl rfl (by kernel_rfl)) (H2.out _ _ HOz016.out.rd) ?_
  rintro e w17 ⟨k0, rfl, ho17, hb17⟩
  have HB17 := Lib.hid (HB16.out.trans (hb17.mono HB16.out.size))
  have HX17 := Lib.hid (HX16.out.below hb17 HX16.out.lt)
  have HOv017 := Lib.hid (HOv016.out.below hb17)
  have HOz017 := Lib.hid (HOz016.out.below hb17)
  have HZ17 := Lib.hid hb17.size
  have HU17 := Lib.hid (HU16.out.below hb17)
  have HOk017 := Lib.hid ho17
  clear hb17 ho17
  refine ⟨_, rfl, HX17.out, ?_⟩
  go_frame
  refine held_only 5 (v := k0) (by kernel_rfl) rfl rfl (gives_assign _ rfl rfl) HX17.out ?_
  go_frame
  refine wpAnyH_done (by kernel_rfl) ?_ _
  go_wp2_with fail
  refine (HE.out _ _ _ R HR.out HOk017.out.rd HOv017.out.rd).mono ?_
  rintro e w18 ⟨rfl, hb18⟩
  have HB18 := Lib.hid (HB17.out.trans (hb18.mono HB17.out.size))
  have HX18 := Lib.hid (HX17.out.below hb18 HX17.out.lt)
  have HOv018 := Lib.hid (HOv017.out.below hb18)
  have HOk018 := Lib.hid (HOk017.out.below hb18)
  have HZ18 := Lib.hid hb18.size
  have HU18 := Lib.hid (HU17.out.below hb18)
  clear hb18
  go_wp2_with fail
  refine (held_up 1 _ HU18.out (by omega) (by omega) HR.out).mono ?_
  rintro e wq ⟨rfl, rfl⟩
  go_wp2_with fail
  go_ret
  exact ⟨rfl, HB18.out⟩
set_option maxHeartbeats 1000000 in
theorem fnExactListDropCut_walk (is0 : List Int) (a0 : Option Addr) (cap0 : Nat) (f t st : Int) (hf ht : Bool) (R : List Int) (w : World) (h0 : RsI w a0 cap0 is0) (hl0 : is0.length ≤ 1048576) (hR : R.length ≤ 1048576)
    (h1 : ∀ (w2 : World) (u0 : Value) (_ : RdI w2 u0 is0), Calls Try.prog 26 #[u0, .agg #[.int .i64 f, .int .i64 t, .int .i64 st, .bool hf, .bool ht]] w2 (LiP R w2))
    (h2 : ∀ (w2 : World) (u0 : Value) (_ : RdI w2 u0 is0), Calls Try.prog 27 #[u0, .agg #[.int .i64 f, .int .i64 t, .int .i64 st, .bool hf, .bool ht]] w2 (LiP R w2)) :
    Calls Try.prog 6 #[.slice a0 is0.length cap0, .agg #[.int .i64 f, .int .i64 t, .int .i64 st, .bool hf, .bool ht]] w fun e w' => e = .returned (.bool true) ∧ Below w.heap.size w w' := by
  have HT0 := Lib.hid (fun (n : Nat) (hn : n = is0.length) (w2 : World) (h2 : Below w.heap.size w w2) => toIntS_n is0 n a0 cap0 w2 hn (h0.below h2) hl0)
  have H1 := Lib.hid h1
  have H2 := Lib.hid h2
  have HE := Lib.hid (fun (w2 : World) (v1 v2 : Value) (is : List Int) (hl : is.length ≤ 1048576) (q1 : RdI w2 v1 is) (q2 : RdI w2 v2 is) => eqIntS_rd is v1 v2 w2 q1 q2 hl)
  have HL0 := Lib.hid hl0
  have hcap0 := h0.1
  have HR := Lib.hid hR
  have hRq : (R.length : Int) ≤ 1048576 := by omega
  clear hR h1 h2 h0
  obtain ⟨n0, hn0⟩ : ∃ n, n = is0.length := ⟨_, rfl⟩
  have HN0 := Lib.hid hn0
  rw [← hn0] at hl0 hcap0 ⊢
  clear hn0
  have HTC := Lib.hid (fun w => toCut_any f t st hf ht w)
  unfold cutC at HTC
  have HX0 := Lib.hid (show Blk (w.alloc (Obj.cells #[.int .i64 f, .int .i64 t, .int .i64 st, .bool hf, .bool ht] 30)) w.heap.size 30 #[.int .i64 f, .int .i64 t, .int .i64 st, .bool hf, .bool ht] from Blk.new _ _ _ rfl)
  have HB0 := Lib.hid (show Below w.heap.size w (w.alloc (Obj.cells #[.int .i64 f, .int .i64 t, .int .i64 st, .bool hf, .bool ht] 30)) from (Below.refl _ _).alloc (Nat.le_refl _) _)
  go_enter Try.func6, Try.ntmps6
  go_wp2_with fail
  have hb1 := below_drew (w.alloc (Obj.cells #[.int .i64 f, .int .i64 t, .int .i64 st, .bool hf, .bool ht] 30))
  have HB1 := Lib.hid (HB0.out.trans (hb1.mono HB0.out.size))
  have HX1 := Lib.hid (HX0.out.below hb1 HX0.out.lt)
  have HZ1 := Lib.hid hb1.size
  clear hb1
  refine wp_region_held_drew (S := fun w' => Blk w' w.heap.size 30 #[.int .i64 f, .int .i64 t, .int .i64 st, .bool hf, .bool ht]) (by kernel_rfl) HX1.out fun hS => ?_
  refine held_take 0 (v := .slice a0 n0 cap0) rfl rfl (by kernel_rfl) (by kernel_rfl) (by kernel_rfl) (fun _ _ _ h => h) (fun w' h => puts_move_to _ _ rfl rfl) hS ?_
  go_frame
  refine held_take 2 (v := .agg #[.int .i64 f, .int .i64 t, .int .i64 st, .bool hf, .bool ht]) rfl rfl (by kernel_rfl) (by kernel_rfl) (by kernel_rfl) (fun _ _ _ h => h) (fun w' h => puts_load 30 _ rfl w.heap.size 0 #[.int .i64 f, .int .i64 t, .int .i64 st, .bool hf, .bool ht] rfl (Blk.lies h) _ Try.underlying30 rfl (by kernel_rfl)) hS ?_
  go_frame
  refine held_call 1 (by kernel_rfl) rfl rfl (puts_call1 18 _ _ (.slice a0 n0 cap0) rfl rfl (by kernel_rfl)) (HT0.out _ HN0.out _ HB1.out) ?_
  rintro e w2 ⟨rfl, hb2, ho2⟩
  have HB2 := Lib.hid (HB1.out.trans (hb2.mono HB1.out.size))
  have HX2 := Lib.hid (HX1.out.below hb2 HX1.out.lt)
  have HZ2 := Lib.hid hb2.size
  have HOp02 := Lib.hid ho2
  clear hb2 ho2
  refine ⟨_, rfl, HX2.out, ?_⟩
  go_frame
  refine held_call 3 (by kernel_rfl) rfl rfl (puts_call1 24 _ _ (.agg #[.int .i64 f, .int .i64 t, .int .i64 st, .bool hf, .bool ht]) rfl rfl (by kernel_rfl)) (HTC.out _) ?_
  rintro e w3 ⟨rfl, hb3⟩
  have HB3 := Lib.hid (HB2.out.trans (hb3.mono HB2.out.size))
  have HX3 := Lib.hid (HX2.out.below hb3 HX2.out.lt)
  have HOp03 := Lib.hid (HOp02.out.below hb3)
  have HZ3 := Lib.hid hb3.size
  clear hb3
  refine ⟨_, rfl, HX3.out, ?_⟩
  go_frame
  refine held_call 4 (by kernel_rfl) rfl rfl (puts_call2 26 _ _ _ (.slice (some ⟨(w.alloc (Obj.cells #[.int .i64 f, .int .i64 t, .int .i64 st, .bool hf, .bool ht] 30)).drew.heap.size, 0, none⟩) n0 n0) (.agg #[.int .i64 f, .int .i64 t, .int .i64 st, .bool hf, .bool ht]) rfl rfl rfl (by kernel_rfl)) (H1.out _ _ HOp03.out.rd) ?_
  rintro e w4 ⟨v0, rfl, ho4, hb4⟩
  have HB4 := Lib.hid (HB3.out.trans (hb4.mono HB3.out.size))
  have HX4 := Lib.hid (HX3.out.below hb4 HX3.out.lt)
  have HOp04 := Lib.hid (HOp03.out.below hb4)
  have HZ4 := Lib.hid hb4.size
  have HOv04 := Lib.hid ho4
  have HGv0 := Lib.hid (show ∀ g, v0.ownBlock = some g → w3.heap.size ≤ g ∧ g < w4.heap.size from fun g hg => OwI.lt ho4 g hg)
  clear hb4 ho4
  refine ⟨_, rfl, HX4.out, ?_⟩
  go_frame
  refine held_only 5 (v := v0) (by kernel_rfl) rfl rfl (gives_assign _ rfl rfl) HX4.out ?_
  go_frame
  refine wpAnyH_done (by kernel_rfl) ?_ _
  go_wp2_with fail
  refine (HT0.out _ HN0.out _ HB4.out).mono ?_
  rintro e w5 ⟨rfl, hb5, ho5⟩
  have HB5 := Lib.hid (HB4.out.trans (hb5.mono HB4.out.size))
  have HX5 := Lib.hid (HX4.out.below hb5 HX4.out.lt)
  have HOv05 := Lib.hid (HOv04.out.below hb5)
  have HZ5 := Lib.hid hb5.size
  have HOx05 := Lib.hid ho5
  have HGx0 := Lib.hid (show ∀ g, (Value.slice (some ⟨w4.heap.size, 0, none⟩) n0 n0).ownBlock = some g → w4.heap.size ≤ g ∧ g < w5.heap.size from fun g hg => OwI.lt ho5 g hg)
  clear hb5 ho5
  have c0 : w5.cell? ⟨w.heap.size, 0, none⟩ = some (.int .i64 f) := HX5.out.cell 0
  have c1 : w5.cell? ⟨w.heap.size, 1, none⟩ = some (.int .i64 t) := HX5.out.cell 1
  have c2 : w5.cell? ⟨w.heap.size, 2, none⟩ = some (.int .i64 st) := HX5.out.cell 2
  have c3 : w5.cell? ⟨w.heap.size, 3, none⟩ = some (.bool hf) := HX5.out.cell 3
  have c4 : w5.cell? ⟨w.heap.size, 4, none⟩ = some (.bool ht) := HX5.out.cell 4
  go_wp2_with fail
  clear c0 c1 c2 c3 c4
  refine (HTC.out _).mono ?_
  rintro e w6 ⟨rfl, hb6⟩
  have HB6 := Lib.hid (HB5.out.trans (hb6.mono HB5.out.size))
  have HX6 := Lib.hid (HX5.out.below hb6 HX5.out.lt)
  have HOv06 := Lib.hid (HOv05.out.below hb6)
  have HOx06 := Lib.hid (HOx05.out.below hb6)
  have HZ6 := Lib.hid hb6.size
  clear hb6
  go_wp2_with fail
  refine (H2.out _ _ HOx06.out.rd).mono ?_
  rintro e w7 ⟨g0, rfl, ho7, hb7⟩
  have HB7 := Lib.hid (HB6.out.trans (hb7.mono HB6.out.size))
  have HX7 := Lib.hid (HX6.out.below hb7 HX6.out.lt)
  have HOv07 := Lib.hid (HOv06.out.below hb7)
  have HOx07 := Lib.hid (HOx06.out.below hb7)
  have HZ7 := Lib.hid hb7.size
  have HOg07 := Lib.hid ho7
  have HGg0 := Lib.hid (show ∀ g, g0.ownBlock = some g → w6.heap.size ≤ g ∧ g < w7.heap.size from fun g hg => OwI.lt ho7 g hg)
  clear hb7 ho7
  go_wp2_with fail
  refine (HE.out _ _ _ R HR.out HOg07.out.rd HOv07.out.rd).mono ?_
  rintro e w8 ⟨rfl, hb8⟩
  have HB8 := Lib.hid (HB7.out.trans (hb8.mono HB7.out.size))
  have HX8 := Lib.hid (HX7.out.below hb8 HX7.out.lt)
  have HOv08 := Lib.hid (HOv07.out.below hb8)
  have HOx08 := Lib.hid (HOx07.out.below hb8)
  have HOg08 := Lib.hid (HOg07.out.below hb8)
  have HZ8 := Lib.hid hb8.size
  clear hb8
  go_wp2_with fail
  refine (HT0.out _ HN0.out _ HB8.out).mono ?_
  rintro e w9 ⟨rfl, hb9, ho9⟩
  have HB9 := Lib.hid (HB8.out.trans (hb9.mono HB8.out.size))
  have HX9 := Lib.hid (HX8.out.below hb9 HX8.out.lt)
  have HOv09 := Lib.hid (HOv08.out.below hb9)
  have HOx09 := Lib.hid (HOx08.out.below hb9)
  have HOg09 := Lib.hid (HOg08.out.below hb9)
  have HZ9 := Lib.hid hb9.size
  have HOy09 := Lib.hid ho9
  have HGy0 := Lib.hid (show ∀ g, (Value.slice (some ⟨w8.heap.size, 0, none⟩) n0 n0).ownBlock = some g → w8.heap.size ≤ g ∧ g < w9.heap.size from fun g hg => OwI.lt ho9 g hg)
  clear hb9 ho9
  go_wp2_with fail
  refine (HE.out _ _ _ is0 HL0.out HOx09.out.rd HOy09.out.rd).mono ?_
  rintro e w10 ⟨rfl, hb10⟩
  have HB10 := Lib.hid (HB9.out.trans (hb10.mono HB9.out.size))
  have HX10 := Lib.hid (HX9.out.below hb10 HX9.out.lt)
  have HOv010 := Lib.hid (HOv09.out.below hb10)
  have HOx010 := Lib.hid (HOx09.out.below hb10)
  have HOg010 := Lib.hid (HOg09.out.below hb10)
  have HOy010 := Lib.hid (HOy09.out.below hb10)
  have HZ10 := Lib.hid hb10.size
  clear hb10
  go_wp2_with fail
  have HZC4_4 := Lib.hid (Nat.le_refl w4.heap.size)
  have HZC5_6 := Lib.hid (HZ6.out)
  refine (mark_own 1 _ HOx010.out (by omega) (by omega) (by exact HL0.out)).mono ?_
  rintro e w11 ⟨rfl, hu11, hb11⟩
  rw [← HN0.out]
  have HB11 := Lib.hid (HB10.out.grown hb11 HB10.out.size (fun g hg => Nat.le_trans HB4.out.size (HGx0.out g hg).1))
  have HX11 := Lib.hid (show Blk w11 w.heap.size 30 #[.int .i64 f, .int .i64 t, .int .i64 st, .bool hf, .bool ht] from (hb11.block _ HX10.out.lt (fun hq => by have h3 := (HGx0.out _ hq.symm).1; have h4 := HX4.out.lt; omega)).trans HX10.out)
  have HOv011 := Lib.hid (HOv010.out.grown hb11 (own_ne_lo (fun g hg => (HGv0.out g hg).2) (fun g hg => Nat.le_trans HZC4_4.out (HGx0.out g hg).1)))
  have HOg011 := Lib.hid (HOg010.out.grown hb11 (own_ne_hi (fun g hg => (HGg0.out g hg).1) (fun g hg => Nat.lt_of_lt_of_le (HGx0.out g hg).2 HZC5_6.out)))
  have HZ11 := Lib.hid hb11.size
  go_wp2_with fail
  refine (HE.out _ _ _ R HR.out HOg011.out.rd HOv011.out.rd).mono ?_
  rintro e w12 ⟨rfl, hb12⟩
  have HB12 := Lib.hid (HB11.out.trans (hb12.mono HB11.out.size))
  have HX12 := Lib.hid (HX11.out.below hb12 HX11.out.lt)
  have HOv012 := Lib.hid (HOv011.out.below hb12)
  have HOg012 := Lib.hid (HOg011.out.below hb12)
  have HZ12 := Lib.hid hb12.size
  clear hb12
  go_wp2_with fail
  have HZC4_6 := Lib.hid ((Nat.le_trans HZ5.out HZ6.out))
  refine (mark_own 1 _ HOg012.out (by omega) (by omega) (by exact HR.out)).mono ?_
  rintro e w13 ⟨rfl, hu13, hb13⟩
  have HB13 := Lib.hid (HB12.out.grown hb13 HB12.out.size (fun g hg => Nat.le_trans HB6.out.size (HGg0.out g hg).1))
  have HX13 := Lib.hid (show Blk w13 w.heap.size 30 #[.int .i64 f, .int .i64 t, .int .i64 st, .bool hf, .bool ht] from (hb13.block _ HX12.out.lt (fun hq => by have h3 := (HGg0.out _ hq.symm).1; have h4 := HX6.out.lt; omega)).trans HX12.out)
  have HOv013 := Lib.hid (HOv012.out.grown hb13 (own_ne_lo (fun g hg => (HGv0.out g hg).2) (fun g hg => Nat.le_trans HZC4_6.out (HGg0.out g hg).1)))
  have HZ13 := Lib.hid hb13.size
  have HU13 := Lib.hid hu13
  clear hu13 hb13
  go_wp2_with fail
  refine (held_up 1 _ HU13.out (by omega) (by omega) HR.out).mono ?_
  rintro e wq ⟨rfl, rfl⟩
  go_wp2_with fail
  have hb14 := below_drew w13
  have HB14 := Lib.hid (HB13.out.trans (hb14.mono HB13.out.size))
  have HX14 := Lib.hid (HX13.out.below hb14 HX13.out.lt)
  have HOv014 := Lib.hid (HOv013.out.below hb14)
  have HZ14 := Lib.hid hb14.size
  have HU14 := Lib.hid (HU13.out.below hb14)
  clear hb14
  refine wp_region_held_drew (S := fun w' => Blk w' w.heap.size 30 #[.int .i64 f, .int .i64 t, .int .i64 st, .bool hf, .bool ht]) (by kernel_rfl) HX14.out fun hS => ?_
  refine held_take 0 (v := .slice a0 n0 cap0) rfl rfl (by kernel_rfl) (by kernel_rfl) (by kernel_rfl) (fun _ _ _ h => h) (fun w' h => puts_move_to _ _ rfl rfl) hS ?_
  go_frame
  refine held_take 2 (v := .agg #[.int .i64 f, .int .i64 t, .int .i64 st, .bool hf, .bool ht]) rfl rfl (by kernel_rfl) (by kernel_rfl) (by kernel_rfl) (fun _ _ _ h => h) (fun w' h => puts_load 30 _ rfl w.heap.size 0 #[.int .i64 f, .int .i64 t, .int .i64 st, .bool hf, .bool ht] rfl (Blk.lies h) _ Try.underlying30 rfl (by kernel_rfl)) hS ?_
  go_frame
  refine held_call 1 (by kernel_rfl) rfl rfl (puts_call1 18 _ _ (.slice a0 n0 cap0) rfl rfl (by kernel_rfl)) (HT0.out _ HN0.out _ HB14.out) ?_
  rintro e w15 ⟨rfl, hb15, ho15⟩
  have HB15 := Lib.hid (HB14.out.trans (hb15.mono HB14.out.size))
  have HX15 := Lib.hid (HX14.out.below hb15 HX14.out.lt)
  have HOv015 := Lib.hid (HOv014.out.below hb15)
  have HZ15 := Lib.hid hb15.size
  have HU15 := Lib.hid (HU14.out.below hb15)
  have HOz015 := Lib.hid ho15
  clear hb15 ho15
  refine ⟨_, rfl, HX15.out, ?_⟩
  go_frame
  refine held_call 3 (by kernel_rfl) rfl rfl (puts_call1 24 _ _ (.agg #[.int .i64 f, .int .i64 t, .int .i64 st, .bool hf, .bool ht]) rfl rfl (by kernel_rfl)) (HTC.out _) ?_
  rintro e w16 ⟨rfl, hb16⟩
  have HB16 := Lib.hid (HB15.out.trans (hb16.mono HB15.out.size))
  have HX16 := Lib.hid (HX15.out.below hb16 HX15.out.lt)
  have HOv016 := Lib.hid (HOv015.out.below hb16)
  have HOz016 := Lib.hid (HOz015.out.below hb16)
  have HZ16 := Lib.hid hb16.size
  have HU16 := Lib.hid (HU15.out.below hb16)
  clear hb16
  refine ⟨_, rfl, HX16.out, ?_⟩
  go_frame
  refine held_call 4 (by kernel_rfl) rfl rfl (puts_call2 27 _ _ _ (.slice (some ⟨w13.drew.heap.size, 0, none⟩) n0 n0) (.agg #[.int .i64 f, .int .i64 t, .int .i64 st, .bool hf, .bool ht]) rfl rfl rfl (by kernel_rfl)) (H2.out _ _ HOz016.out.rd) ?_
  rintro e w17 ⟨k0, rfl, ho17, hb17⟩
  have HB17 := Lib.hid (HB16.out.trans (hb17.mono HB16.out.size))
  have HX17 := Lib.hid (HX16.out.below hb17 HX16.out.lt)
  have HOv017 := Lib.hid (HOv016.out.below hb17)
  have HOz017 := Lib.hid (HOz016.out.below hb17)
  have HZ17 := Lib.hid hb17.size
  have HU17 := Lib.hid (HU16.out.below hb17)
  have HOk017 := Lib.hid ho17
  clear hb17 ho17
  refine ⟨_, rfl, HX17.out, ?_⟩
  go_frame
  refine held_only 5 (v := k0) (by kernel_rfl) rfl rfl (gives_assign _ rfl rfl) HX17.out ?_
  go_frame
  refine wpAnyH_done (by kernel_rfl) ?_ _
  go_wp2_with fail
  refine (HE.out _ _ _ R HR.out HOk017.out.rd HOv017.out.rd).mono ?_
  rintro e w18 ⟨rfl, hb18⟩
  have HB18 := Lib.hid (HB17.out.trans (hb18.mono HB17.out.size))
  have HX18 := Lib.hid (HX17.out.below hb18 HX17.out.lt)
  have HOv018 := Lib.hid (HOv017.out.below hb18)
  have HOk018 := Lib.hid (HOk017.out.below hb18)
  have HZ18 := Lib.hid hb18.size
  have HU18 := Lib.hid (HU17.out.below hb18)
  clear hb18
  go_wp2_with fail
  refine (held_up 1 _ HU18.out (by omega) (by omega) HR.out).mono ?_
  rintro e wq ⟨rfl, rfl⟩
  go_wp2_with fail
  go_ret
  exact ⟨rfl, HB18.out⟩
end Go.Proofs.Ytbcphejblopekaa
