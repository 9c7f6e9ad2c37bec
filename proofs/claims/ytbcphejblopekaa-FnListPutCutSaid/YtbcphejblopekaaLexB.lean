/- The exact law on ListPutCut. -/
import Derived.Test.YtbcphejblopekaaLput6
namespace Go.Proofs.Ytbcphejblopekaa
open Go.RowKit
set_option maxHeartbeats 1000000 in
theorem fnExactListPutCut_walk (is0 : List Int) (a0 : Option Addr) (cap0 : Nat) (f t st : Int) (hf ht : Bool) (is2 : List Int) (a2 : Option Addr) (cap2 : Nat) (R : List Int) (bb : Bool) (w : World) (h0 : RsI w a0 cap0 is0) (hl0 : is0.length ≤ 1048576) (h2 : RsI w a2 cap2 is2) (hl2 : is2.length ≤ 1048576) (hR : R.length ≤ 1048576)
    (k1 : ∀ (w2 : World) (u0 : Value) (_ : RdO w2 u0 is0) (u2 : Value) (_ : RdO w2 u2 is2), Calls Try.prog 28 #[u0, .agg #[.int .i64 f, .int .i64 t, .int .i64 st, .bool hf, .bool ht], u2] w2 (LiPb R bb w2))
    (k2 : ∀ (w2 : World) (u0 : Value) (_ : RdO w2 u0 is0) (u2 : Value) (_ : RdO w2 u2 is2), Calls Try.prog 29 #[u0, .agg #[.int .i64 f, .int .i64 t, .int .i64 st, .bool hf, .bool ht], u2] w2 (LiPb R bb w2)) :
    Calls Try.prog 7 #[.slice a0 is0.length cap0, .agg #[.int .i64 f, .int .i64 t, .int .i64 st, .bool hf, .bool ht], .slice a2 is2.length cap2] w fun e w' => e = .returned (.bool true) ∧ Below w.heap.size w w' := by
  have HT0 := Lib.hid (fun (n : Nat) (hn : n = is0.length) (w2 : World) (q2 : Below w.heap.size w w2) => toIntS_n is0 n a0 cap0 w2 hn (h0.below q2) hl0)
  have HT2 := Lib.hid (fun (n : Nat) (hn : n = is2.length) (w2 : World) (q2 : Below w.heap.size w w2) => toIntS_n is2 n a2 cap2 w2 hn (h2.below q2) hl2)
  have H1 := Lib.hid k1
  have H2 := Lib.hid k2
  have HE := Lib.hid (fun (w2 : World) (v1 v2 : Value) (is : List Int) (hl : is.length ≤ 1048576) (q1 : RdI w2 v1 is) (q2 : RdI w2 v2 is) => eqIntS_rd is v1 v2 w2 q1 q2 hl)
  have HL0 := Lib.hid hl0
  have hcap0 := h0.1
  have HL2 := Lib.hid hl2
  have hcap2 := h2.1
  have HR := Lib.hid hR
  have hRq : (R.length : Int) ≤ 1048576 := by omega
  clear hR k1 k2 h0 h2
  obtain ⟨n0, hn0⟩ : ∃ n, n = is0.length := ⟨_, rfl⟩
  have HN0 := Lib.hid hn0
  rw [← hn0] at hl0 hcap0 ⊢
  clear hn0
  obtain ⟨n2, hn2⟩ : ∃ n, n = is2.length := ⟨_, rfl⟩
  have HN2 := Lib.hid hn2
  rw [← hn2] at hl2 hcap2 ⊢
  clear hn2
  have HTC := Lib.hid (fun w => toCut_any f t st hf ht w)
  unfold cutC at HTC
  have HX0 := Lib.hid (show Blk (w.alloc (Obj.cells #[.int .i64 f, .int .i64 t, .int .i64 st, .bool hf, .bool ht] 30)) w.heap.size 30 #[.int .i64 f, .int .i64 t, .int .i64 st, .bool hf, .bool ht] from Blk.new _ _ _ rfl)
  have HB0 := Lib.hid (show Below w.heap.size w (w.alloc (Obj.cells #[.int .i64 f, .int .i64 t, .int .i64 st, .bool hf, .bool ht] 30)) from (Below.refl _ _).alloc (Nat.le_refl _) _)
  go_enter Try.func7, Try.ntmps7
  go_wp2_with fail
  have hb1 := below_drew (w.alloc (Obj.cells #[.int .i64 f, .int .i64 t, .int .i64 st, .bool hf, .bool ht] 30))
  have HB1 := Lib.hid (HB0.out.trans (hb1.mono HB0.out.size))
  have HX1 := Lib.hid (HX0.out.below hb1 HX0.out.lt)
  have HZ1 := Lib.hid hb1.size
  clear hb1
  refine wp_region_held_drew (S := fun w' => Blk w' w.heap.size 30 #[.int .i64 f, .int .i64 t, .int .i64 st, .bool hf, .bool ht]) (by kernel_rfl) HX1.out fun hS => ?_
  refine held_take 0 (v := .slice a0 n0 cap0) rfl rfl (by kernel_rfl) (by kernel_rfl) (by kernel_rfl) (fun _ _ _ h => h) (fun w' h => puts_move_to _ _ rfl rfl) hS ?_
  go_frame
  refine held_take 2 (v := .agg #[.int .i64 f, .int .i64 t, .int .i64 st, .bool hf, .bool ht]) rfl rfl (by kernel_rfl) (by kernel_rfl) (by kernel_rfl) (fun _ _ _ h => h) (fun w' h => puts_load 30 _ rfl w.heap.size 0 #[.int .i64 f, .int .i64 t, .int .i64 st, .bool hf, .bool ht] rfl (Blk.lies h) _ Try.underlying30 rfl (by kernel_rfl)) hS ?_
  go_frame
  refine held_take 4 (v := .slice a2 n2 cap2) rfl rfl (by kernel_rfl) (by kernel_rfl) (by kernel_rfl) (fun _ _ _ h => h) (fun w' h => puts_move_to _ _ rfl rfl) hS ?_
  go_frame
  refine held_call 1 (by kernel_rfl) rfl rfl (puts_call1 18 _ _ (.slice a0 n0 cap0) rfl rfl (by kernel_rfl)) (HT0.out _ HN0.out _ HB1.out) ?_
  rintro e w2 ⟨rfl, hb2, ho2⟩
  have HB2 := Lib.hid (HB1.out.trans (hb2.mono HB1.out.size))
  have HX2 := Lib.hid (HX1.out.below hb2 HX1.out.lt)
  have HZ2 := Lib.hid hb2.size
  have HOp02 := Lib.hid ho2
  clear hb2 ho2
  refine ⟨_, rfl, HX2.out, ?_⟩
  go_frame
  refine held_call 3 (by kernel_rfl) rfl rfl (puts_call1 24 _ _ (.agg #[.int .i64 f, .int .i64 t, .int .i64 st, .bool hf, .bool ht]) rfl rfl (by kernel_rfl)) (HTC.out _) ?_
  rintro e w3 ⟨rfl, hb3⟩
  have HB3 := Lib.hid (HB2.out.trans (hb3.mono HB2.out.size))
  have HX3 := Lib.hid (HX2.out.below hb3 HX2.out.lt)
  have HOp03 := Lib.hid (HOp02.out.below hb3)
  have HZ3 := Lib.hid hb3.size
  clear hb3
  refine ⟨_, rfl, HX3.out, ?_⟩
  go_frame
  refine held_call 5 (by kernel_rfl) rfl rfl (puts_call1 18 _ _ (.slice a2 n2 cap2) rfl rfl (by kernel_rfl)) (HT2.out _ HN2.out _ HB3.out) ?_
  rintro e w4 ⟨rfl, hb4, ho4⟩
  have HB4 := Lib.hid (HB3.out.trans (hb4.mono HB3.out.size))
  have HX4 := Lib.hid (HX3.out.below hb4 HX3.out.lt)
  have HOp04 := Lib.hid (HOp03.out.below hb4)
  have HZ4 := Lib.hid hb4.size
  have HOp24 := Lib.hid ho4
  clear hb4 ho4
  refine ⟨_, rfl, HX4.out, ?_⟩
  go_frame
  refine held_call 6 (by kernel_rfl) rfl rfl (puts_call3 28 _ _ _ _ (.slice (some ⟨(w.alloc (Obj.cells #[.int .i64 f, .int .i64 t, .int .i64 st, .bool hf, .bool ht] 30)).drew.heap.size, 0, none⟩) n0 n0) (.agg #[.int .i64 f, .int .i64 t, .int .i64 st, .bool hf, .bool ht]) (.slice (some ⟨w3.heap.size, 0, none⟩) n2 n2) rfl rfl rfl rfl (by kernel_rfl)) (H1.out _ _ ⟨_, HOp04.out⟩ _ ⟨_, HOp24.out⟩) ?_
  rintro e w5 ⟨v0, rfl, ho5, hb5⟩
  have HB5 := Lib.hid (HB4.out.trans (hb5.mono HB4.out.size))
  have HX5 := Lib.hid (HX4.out.below hb5 HX4.out.lt)
  have HOp05 := Lib.hid (HOp04.out.below hb5)
  have HOp25 := Lib.hid (HOp24.out.below hb5)
  have HZ5 := Lib.hid hb5.size
  have HOv05 := Lib.hid ho5
  have HGv0 := Lib.hid (show ∀ g, v0.ownBlock = some g → w4.heap.size ≤ g ∧ g < w5.heap.size from fun g hg => OwI.lt ho5 g hg)
  clear hb5 ho5
  refine ⟨_, rfl, HX5.out, ?_⟩
  go_frame
  refine held_take 7 (v := .tuple #[v0, .bool bb]) rfl rfl (by kernel_rfl) (by kernel_rfl) (by kernel_rfl) (fun _ _ _ h => h) (fun w' h => puts_move_to _ _ rfl rfl) HX5.out ?_
  go_frame
  refine held_take 8 (v := v0) rfl rfl (by kernel_rfl) (by kernel_rfl) (by kernel_rfl) (fun _ _ _ h => h) (fun w' h => puts_extract _ 0 [v0, .bool bb] v0 rfl rfl rfl) HX5.out ?_
  go_frame
  refine held_take 9 (v := .bool bb) rfl rfl (by kernel_rfl) (by kernel_rfl) (by kernel_rfl) (fun _ _ _ h => h) (fun w' h => puts_extract _ 1 [v0, .bool bb] (.bool bb) rfl rfl rfl) HX5.out ?_
  go_frame
  refine held_take 10 (v := v0) rfl rfl (by kernel_rfl) (by kernel_rfl) (by kernel_rfl) (fun _ _ _ h => h) (fun w' h => puts_assign_to _ _ rfl rfl) HX5.out ?_
  go_frame
  refine held_take 11 (v := .bool bb) rfl rfl (by kernel_rfl) (by kernel_rfl) (by kernel_rfl) (fun _ _ _ h => h) (fun w' h => puts_assign_to _ _ rfl rfl) HX5.out ?_
  go_frame
  refine wpAnyH_done (by kernel_rfl) ?_ _
  go_wp2_with fail
  refine (HT0.out _ HN0.out _ HB5.out).mono ?_
  rintro e w6 ⟨rfl, hb6, ho6⟩
  have HB6 := Lib.hid (HB5.out.trans (hb6.mono HB5.out.size))
  have HX6 := Lib.hid (HX5.out.below hb6 HX5.out.lt)
  have HOv06 := Lib.hid (HOv05.out.below hb6)
  have HZ6 := Lib.hid hb6.size
  have HOx06 := Lib.hid ho6
  have HGx0 := Lib.hid (show ∀ g, (Value.slice (some ⟨w5.heap.size, 0, none⟩) n0 n0).ownBlock = some g → w5.heap.size ≤ g ∧ g < w6.heap.size from fun g hg => OwI.lt ho6 g hg)
  clear hb6 ho6
  go_wp2_with fail
  refine (HT2.out _ HN2.out _ HB6.out).mono ?_
  rintro e w7 ⟨rfl, hb7, ho7⟩
  have HB7 := Lib.hid (HB6.out.trans (hb7.mono HB6.out.size))
  have HX7 := Lib.hid (HX6.out.below hb7 HX6.out.lt)
  have HOv07 := Lib.hid (HOv06.out.below hb7)
  have HOx07 := Lib.hid (HOx06.out.below hb7)
  have HZ7 := Lib.hid hb7.size
  have HOx27 := Lib.hid ho7
  have HGx2 := Lib.hid (show ∀ g, (Value.slice (some ⟨w6.heap.size, 0, none⟩) n2 n2).ownBlock = some g → w6.heap.size ≤ g ∧ g < w7.heap.size from fun g hg => OwI.lt ho7 g hg)
  clear hb7 ho7
  have c0 : w7.cell? ⟨w.heap.size, 0, none⟩ = some (.int .i64 f) := HX7.out.cell 0
  have c1 : w7.cell? ⟨w.heap.size, 1, none⟩ = some (.int .i64 t) := HX7.out.cell 1
  have c2 : w7.cell? ⟨w.heap.size, 2, none⟩ = some (.int .i64 st) := HX7.out.cell 2
  have c3 : w7.cell? ⟨w.heap.size, 3, none⟩ = some (.bool hf) := HX7.out.cell 3
  have c4 : w7.cell? ⟨w.heap.size, 4, none⟩ = some (.bool ht) := HX7.out.cell 4
  go_wp2_with fail
  clear c0 c1 c2 c3 c4
  refine (HTC.out _).mono ?_
  rintro e w8 ⟨rfl, hb8⟩
  have HB8 := Lib.hid (HB7.out.trans (hb8.mono HB7.out.size))
  have HX8 := Lib.hid (HX7.out.below hb8 HX7.out.lt)
  have HOv08 := Lib.hid (HOv07.out.below hb8)
  have HOx08 := Lib.hid (HOx07.out.below hb8)
  have HOx28 := Lib.hid (HOx27.out.below hb8)
  have HZ8 := Lib.hid hb8.size
  clear hb8
  go_wp2_with fail
  refine (H2.out _ _ ⟨_, HOx08.out⟩ _ ⟨_, HOx28.out⟩).mono ?_
  rintro e w9 ⟨g0, rfl, ho9, hb9⟩
  have HB9 := Lib.hid (HB8.out.trans (hb9.mono HB8.out.size))
  have HX9 := Lib.hid (HX8.out.below hb9 HX8.out.lt)
  have HOv09 := Lib.hid (HOv08.out.below hb9)
  have HOx09 := Lib.hid (HOx08.out.below hb9)
  have HOx29 := Lib.hid (HOx28.out.below hb9)
  have HZ9 := Lib.hid hb9.size
  have HOg09 := Lib.hid ho9
  have HGg0 := Lib.hid (show ∀ g, g0.ownBlock = some g → w8.heap.size ≤ g ∧ g < w9.heap.size from fun g hg => OwI.lt ho9 g hg)
  clear hb9 ho9
  go_wp2_with (first | (refine ext rfl (.tmp 38) 0 [g0, .bool bb] g0 rfl rfl rfl ?_) | (refine ext rfl (.tmp 38) 1 [g0, .bool bb] (.bool bb) rfl rfl rfl ?_))
  refine (HE.out _ _ _ R HR.out HOg09.out.rd HOv09.out.rd).mono ?_
  rintro e w10 ⟨rfl, hb10⟩
  have HB10 := Lib.hid (HB9.out.trans (hb10.mono HB9.out.size))
  have HX10 := Lib.hid (HX9.out.below hb10 HX9.out.lt)
  have HOv010 := Lib.hid (HOv09.out.below hb10)
  have HOx010 := Lib.hid (HOx09.out.below hb10)
  have HOx210 := Lib.hid (HOx29.out.below hb10)
  have HOg010 := Lib.hid (HOg09.out.below hb10)
  have HZ10 := Lib.hid hb10.size
  clear hb10
  go_wp2_with fail
  refine (HT0.out _ HN0.out _ HB10.out).mono ?_
  rintro e w11 ⟨rfl, hb11, ho11⟩
  have HB11 := Lib.hid (HB10.out.trans (hb11.mono HB10.out.size))
  have HX11 := Lib.hid (HX10.out.below hb11 HX10.out.lt)
  have HOv011 := Lib.hid (HOv010.out.below hb11)
  have HOx011 := Lib.hid (HOx010.out.below hb11)
  have HOx211 := Lib.hid (HOx210.out.below hb11)
  have HOg011 := Lib.hid (HOg010.out.below hb11)
  have HZ11 := Lib.hid hb11.size
  have HOy011 := Lib.hid ho11
  have HGy0 := Lib.hid (show ∀ g, (Value.slice (some ⟨w10.heap.size, 0, none⟩) n0 n0).ownBlock = some g → w10.heap.size ≤ g ∧ g < w11.heap.size from fun g hg => OwI.lt ho11 g hg)
  clear hb11 ho11
  go_wp2_with fail
  refine (HE.out _ _ _ is0 HL0.out HOx011.out.rd HOy011.out.rd).mono ?_
  rintro e w12 ⟨rfl, hb12⟩
  have HB12 := Lib.hid (HB11.out.trans (hb12.mono HB11.out.size))
  have HX12 := Lib.hid (HX11.out.below hb12 HX11.out.lt)
  have HOv012 := Lib.hid (HOv011.out.below hb12)
  have HOx012 := Lib.hid (HOx011.out.below hb12)
  have HOx212 := Lib.hid (HOx211.out.below hb12)
  have HOg012 := Lib.hid (HOg011.out.below hb12)
  have HOy012 := Lib.hid (HOy011.out.below hb12)
  have HZ12 := Lib.hid hb12.size
  clear hb12
  go_wp2_with fail
  refine (HT2.out _ HN2.out _ HB12.out).mono ?_
  rintro e w13 ⟨rfl, hb13, ho13⟩
  have HB13 := Lib.hid (HB12.out.trans (hb13.mono HB12.out.size))
  have HX13 := Lib.hid (HX12.out.below hb13 HX12.out.lt)
  have HOv013 := Lib.hid (HOv012.out.below hb13)
  have HOx013 := Lib.hid (HOx012.out.below hb13)
  have HOx213 := Lib.hid (HOx212.out.below hb13)
  have HOg013 := Lib.hid (HOg012.out.below hb13)
  have HZ13 := Lib.hid hb13.size
  have HOy213 := Lib.hid ho13
  have HGy2 := Lib.hid (show ∀ g, (Value.slice (some ⟨w12.heap.size, 0, none⟩) n2 n2).ownBlock = some g → w12.heap.size ≤ g ∧ g < w13.heap.size from fun g hg => OwI.lt ho13 g hg)
  clear hb13 ho13
  go_wp2_with fail
  refine (HE.out _ _ _ is2 HL2.out HOx213.out.rd HOy213.out.rd).mono ?_
  rintro e w14 ⟨rfl, hb14⟩
  have HB14 := Lib.hid (HB13.out.trans (hb14.mono HB13.out.size))
  have HX14 := Lib.hid (HX13.out.below hb14 HX13.out.lt)
  have HOv014 := Lib.hid (HOv013.out.below hb14)
  have HOx014 := Lib.hid (HOx013.out.below hb14)
  have HOx214 := Lib.hid (HOx213.out.below hb14)
  have HOg014 := Lib.hid (HOg013.out.below hb14)
  have HOy214 := Lib.hid (HOy213.out.below hb14)
  have HZ14 := Lib.hid hb14.size
  clear hb14
  go_wp2_with fail
  have HZC5_5 := Lib.hid (Nat.le_refl w5.heap.size)
  have HZC6_6 := Lib.hid (Nat.le_refl w6.heap.size)
  have HZC6_8 := Lib.hid ((Nat.le_trans HZ7.out HZ8.out))
  refine (mark_own 1 _ HOx014.out (by omega) (by omega) (by exact HL0.out)).mono ?_
  rintro e w15 ⟨rfl, hu15, hb15⟩
  rw [← HN0.out]
  have HB15 := Lib.hid (HB14.out.grown hb15 HB14.out.size (fun g hg => Nat.le_trans HB5.out.size (HGx0.out g hg).1))
  have HX15 := Lib.hid (show Blk w15 w.heap.size 30 #[.int .i64 f, .int .i64 t, .int .i64 st, .bool hf, .bool ht] from (hb15.block _ HX14.out.lt (fun hq => by have h3 := (HGx0.out _ hq.symm).1; have h4 := HX5.out.lt; omega)).trans HX14.out)
  have HOv015 := Lib.hid (HOv014.out.grown hb15 (own_ne_lo (fun g hg => (HGv0.out g hg).2) (fun g hg => Nat.le_trans HZC5_5.out (HGx0.out g hg).1)))
  have HOx215 := Lib.hid (HOx214.out.grown hb15 (own_ne_hi (fun g hg => (HGx2.out g hg).1) (fun g hg => Nat.lt_of_lt_of_le (HGx0.out g hg).2 HZC6_6.out)))
  have HOg015 := Lib.hid (HOg014.out.grown hb15 (own_ne_hi (fun g hg => (HGg0.out g hg).1) (fun g hg => Nat.lt_of_lt_of_le (HGx0.out g hg).2 HZC6_8.out)))
  have HZ15 := Lib.hid hb15.size
  go_wp2_with fail
  have HZC5_6 := Lib.hid (HZ6.out)
  have HZC7_8 := Lib.hid (HZ8.out)
  refine (mark_own (1 + (n0 : Int)) _ HOx215.out (by omega) (by omega) (by exact HL2.out)).mono ?_
  rintro e w16 ⟨rfl, hu16, hb16⟩
  rw [← HN2.out]
  have HB16 := Lib.hid (HB15.out.grown hb16 HB15.out.size (fun g hg => Nat.le_trans HB6.out.size (HGx2.out g hg).1))
  have HX16 := Lib.hid (show Blk w16 w.heap.size 30 #[.int .i64 f, .int .i64 t, .int .i64 st, .bool hf, .bool ht] from (hb16.block _ HX15.out.lt (fun hq => by have h3 := (HGx2.out _ hq.symm).1; have h4 := HX6.out.lt; omega)).trans HX15.out)
  have HOv016 := Lib.hid (HOv015.out.grown hb16 (own_ne_lo (fun g hg => (HGv0.out g hg).2) (fun g hg => Nat.le_trans HZC5_6.out (HGx2.out g hg).1)))
  have HOg016 := Lib.hid (HOg015.out.grown hb16 (own_ne_hi (fun g hg => (HGg0.out g hg).1) (fun g hg => Nat.lt_of_lt_of_le (HGx2.out g hg).2 HZC7_8.out)))
  have HZ16 := Lib.hid hb16.size
  go_wp2_with fail
  refine (HE.out _ _ _ R HR.out HOg016.out.rd HOv016.out.rd).mono ?_
  rintro e w17 ⟨rfl, hb17⟩
  have HB17 := Lib.hid (HB16.out.trans (hb17.mono HB16.out.size))
  have HX17 := Lib.hid (HX16.out.below hb17 HX16.out.lt)
  have HOv017 := Lib.hid (HOv016.out.below hb17)
  have HOg017 := Lib.hid (HOg016.out.below hb17)
  have HZ17 := Lib.hid hb17.size
  clear hb17
  go_wp2_with fail
  have HZC5_8 := Lib.hid ((Nat.le_trans (Nat.le_trans HZ6.out HZ7.out) HZ8.out))
  refine (mark_own 1 _ HOg017.out (by omega) (by omega) (by exact HR.out)).mono ?_
  rintro e w18 ⟨rfl, hu18, hb18⟩
  have HB18 := Lib.hid (HB17.out.grown hb18 HB17.out.size (fun g hg => Nat.le_trans HB8.out.size (HGg0.out g hg).1))
  have HX18 := Lib.hid (show Blk w18 w.heap.size 30 #[.int .i64 f, .int .i64 t, .int .i64 st, .bool hf, .bool ht] from (hb18.block _ HX17.out.lt (fun hq => by have h3 := (HGg0.out _ hq.symm).1; have h4 := HX8.out.lt; omega)).trans HX17.out)
  have HOv018 := Lib.hid (HOv017.out.grown hb18 (own_ne_lo (fun g hg => (HGv0.out g hg).2) (fun g hg => Nat.le_trans HZC5_8.out (HGg0.out g hg).1)))
  have HZ18 := Lib.hid hb18.size
  have HU18 := Lib.hid hu18
  clear hu18 hb18
  go_wp2_with fail
  refine (held_up 1 _ HU18.out (by omega) (by omega) HR.out).mono ?_
  rintro e wq ⟨rfl, rfl⟩
  go_wp2_with fail
  have hb19 := below_drew w18
  have HB19 := Lib.hid (HB18.out.trans (hb19.mono HB18.out.size))
  have HX19 := Lib.hid (HX18.out.below hb19 HX18.out.lt)
  have HOv019 := Lib.hid (HOv018.out.below hb19)
  have HZ19 := Lib.hid hb19.size
  have HU19 := Lib.hid (HU18.out.below hb19)
  clear hb19
  refine wp_region_held_drew (S := fun w' => Blk w' w.heap.size 30 #[.int .i64 f, .int .i64 t, .int .i64 st, .bool hf, .bool ht]) (by kernel_rfl) HX19.out fun hS => ?_
  refine held_take 0 (v := .slice a0 n0 cap0) rfl rfl (by kernel_rfl) (by kernel_rfl) (by kernel_rfl) (fun _ _ _ h => h) (fun w' h => puts_move_to _ _ rfl rfl) hS ?_
  go_frame
  refine held_take 2 (v := .agg #[.int .i64 f, .int .i64 t, .int .i64 st, .bool hf, .bool ht]) rfl rfl (by kernel_rfl) (by kernel_rfl) (by kernel_rfl) (fun _ _ _ h => h) (fun w' h => puts_load 30 _ rfl w.heap.size 0 #[.int .i64 f, .int .i64 t, .int .i64 st, .bool hf, .bool ht] rfl (Blk.lies h) _ Try.underlying30 rfl (by kernel_rfl)) hS ?_
  go_frame
  refine held_take 4 (v := .slice a2 n2 cap2) rfl rfl (by kernel_rfl) (by kernel_rfl) (by kernel_rfl) (fun _ _ _ h => h) (fun w' h => puts_move_to _ _ rfl rfl) hS ?_
  go_frame
  refine held_call 1 (by kernel_rfl) rfl rfl (puts_call1 18 _ _ (.slice a0 n0 cap0) rfl rfl (by kernel_rfl)) (HT0.out _ HN0.out _ HB19.out) ?_
  rintro e w20 ⟨rfl, hb20, ho20⟩
  have HB20 := Lib.hid (HB19.out.trans (hb20.mono HB19.out.size))
  have HX20 := Lib.hid (HX19.out.below hb20 HX19.out.lt)
  have HOv020 := Lib.hid (HOv019.out.below hb20)
  have HZ20 := Lib.hid hb20.size
  have HU20 := Lib.hid (HU19.out.below hb20)
  have HOz020 := Lib.hid ho20
  clear hb20 ho20
  refine ⟨_, rfl, HX20.out, ?_⟩
  go_frame
  refine held_call 3 (by kernel_rfl) rfl rfl (puts_call1 24 _ _ (.agg #[.int .i64 f, .int .i64 t, .int .i64 st, .bool hf, .bool ht]) rfl rfl (by kernel_rfl)) (HTC.out _) ?_
  rintro e w21 ⟨rfl, hb21⟩
  have HB21 := Lib.hid (HB20.out.trans (hb21.mono HB20.out.size))
  have HX21 := Lib.hid (HX20.out.below hb21 HX20.out.lt)
  have HOv021 := Lib.hid (HOv020.out.below hb21)
  have HOz021 := Lib.hid (HOz020.out.below hb21)
  have HZ21 := Lib.hid hb21.size
  have HU21 := Lib.hid (HU20.out.below hb21)
  clear hb21
  refine ⟨_, rfl, HX21.out, ?_⟩
  go_frame
  refine held_call 5 (by kernel_rfl) rfl rfl (puts_call1 18 _ _ (.slice a2 n2 cap2) rfl rfl (by kernel_rfl)) (HT2.out _ HN2.out _ HB21.out) ?_
  rintro e w22 ⟨rfl, hb22, ho22⟩
  have HB22 := Lib.hid (HB21.out.trans (hb22.mono HB21.out.size))
  have HX22 := Lib.hid (HX21.out.below hb22 HX21.out.lt)
  have HOv022 := Lib.hid (HOv021.out.below hb22)
  have HOz022 := Lib.hid (HOz021.out.below hb22)
  have HZ22 := Lib.hid hb22.size
  have HU22 := Lib.hid (HU21.out.below hb22)
  have HOz222 := Lib.hid ho22
  clear hb22 ho22
  refine ⟨_, rfl, HX22.out, ?_⟩
  go_frame
  refine held_call 6 (by kernel_rfl) rfl rfl (puts_call3 29 _ _ _ _ (.slice (some ⟨w18.drew.heap.size, 0, none⟩) n0 n0) (.agg #[.int .i64 f, .int .i64 t, .int .i64 st, .bool hf, .bool ht]) (.slice (some ⟨w21.heap.size, 0, none⟩) n2 n2) rfl rfl rfl rfl (by kernel_rfl)) (H2.out _ _ ⟨_, HOz022.out⟩ _ ⟨_, HOz222.out⟩) ?_
  rintro e w23 ⟨k0, rfl, ho23, hb23⟩
  have HB23 := Lib.hid (HB22.out.trans (hb23.mono HB22.out.size))
  have HX23 := Lib.hid (HX22.out.below hb23 HX22.out.lt)
  have HOv023 := Lib.hid (HOv022.out.below hb23)
  have HOz023 := Lib.hid (HOz022.out.below hb23)
  have HOz223 := Lib.hid (HOz222.out.below hb23)
  have HZ23 := Lib.hid hb23.size
  have HU23 := Lib.hid (HU22.out.below hb23)
  have HOk023 := Lib.hid ho23
  clear hb23 ho23
  refine ⟨_, rfl, HX23.out, ?_⟩
  go_frame
  refine held_take 7 (v := .tuple #[k0, .bool bb]) rfl rfl (by kernel_rfl) (by kernel_rfl) (by kernel_rfl) (fun _ _ _ h => h) (fun w' h => puts_move_to _ _ rfl rfl) HX23.out ?_
  go_frame
  refine held_take 8 (v := k0) rfl rfl (by kernel_rfl) (by kernel_rfl) (by kernel_rfl) (fun _ _ _ h => h) (fun w' h => puts_extract _ 0 [k0, .bool bb] k0 rfl rfl rfl) HX23.out ?_
  go_frame
  refine held_take 9 (v := .bool bb) rfl rfl (by kernel_rfl) (by kernel_rfl) (by kernel_rfl) (fun _ _ _ h => h) (fun w' h => puts_extract _ 1 [k0, .bool bb] (.bool bb) rfl rfl rfl) HX23.out ?_
  go_frame
  refine held_take 10 (v := k0) rfl rfl (by kernel_rfl) (by kernel_rfl) (by kernel_rfl) (fun _ _ _ h => h) (fun w' h => puts_assign_to _ _ rfl rfl) HX23.out ?_
  go_frame
  refine held_take 11 (v := .bool bb) rfl rfl (by kernel_rfl) (by kernel_rfl) (by kernel_rfl) (fun _ _ _ h => h) (fun w' h => puts_assign_to _ _ rfl rfl) HX23.out ?_
  go_frame
  refine wpAnyH_done (by kernel_rfl) ?_ _
  go_wp2_with fail
  refine (HE.out _ _ _ R HR.out HOk023.out.rd HOv023.out.rd).mono ?_
  rintro e w24 ⟨rfl, hb24⟩
  have HB24 := Lib.hid (HB23.out.trans (hb24.mono HB23.out.size))
  have HX24 := Lib.hid (HX23.out.below hb24 HX23.out.lt)
  have HOv024 := Lib.hid (HOv023.out.below hb24)
  have HOk024 := Lib.hid (HOk023.out.below hb24)
  have HZ24 := Lib.hid hb24.size
  have HU24 := Lib.hid (HU23.out.below hb24)
  clear hb24
  go_wp2_with fail
  refine (held_up 1 _ HU24.out (by omega) (by omega) HR.out).mono ?_
  rintro e wq ⟨rfl, rfl⟩
  go_wp2_with fail
  go_ret
  exact ⟨rfl, HB24.out⟩
theorem from_pos {n f : Int} {hf : Bool} (h : 0 ≤ n) : 0 ≤ cFrom n f 1 hf := by
  unfold cFrom cLo cHi
  have := clampZ_in (i := f) (n := n) (lo := 0) (hi := n) (by omega)
  cases hf <;> simp <;> omega
theorem listPut_all (is news : List Int) (f t st : Int) (hf ht : Bool) (hl : is.length ≤ 1048576) (hl2 : news.length ≤ 1048576) : ∃ (R : List Int) (bb : Bool), R.length ≤ 60 ∧ (∀ w u0 u2, RdO w u0 is → RdO w u2 news → Calls Try.prog 28 #[u0, .agg (cutC f t st hf ht), u2] w (LiPb R bb w)) ∧ (∀ w u0 u2, RdO w u0 is → RdO w u2 news → Calls Try.prog 29 #[u0, .agg (cutC f t st hf ht), u2] w (LiPb R bb w)) := by
  by_cases hc : 60 < is.length ∨ okC f t st hf ht = false
  · exact ⟨[], false, by simp, fun w u0 u2 h hu => (specPut_bad is news u0 u2 f t st hf ht w h hu hl hl2 hc).mono fun e w' h => h.li, fun w u0 u2 h hu => (implPut_bad is news u0 u2 f t st hf ht w h hu hl hl2 hc).mono fun e w' h => h.li⟩
  · obtain ⟨h60, hq⟩ : is.length ≤ 60 ∧ okC f t st hf ht = true := by
      refine ⟨?_, ?_⟩
      · rcases Nat.lt_or_ge 60 is.length with h | h
        · exact absurd (.inl h) hc
        · exact h
      · cases h : okC f t st hf ht
        · exact absurd (.inr h) hc
        · rfl
    obtain ⟨A, M, hA, hM, hst, h0, hin, eA, eM⟩ := cut_set is.length f t st hf ht hq (by omega)
    have hO1 := cut_spec hq (by omega) eA eM
    have hO2 := cut_impl hq (by omega) eA eM
    have hP := fun w => cutPlaces_any is.length f t st hf ht A M w (by omega) hA hM hin hO2
    by_cases h1 : st = 1
    · subst h1
      have hA0 : 0 ≤ A := by rw [eA]; exact from_pos (by omega)
      obtain ⟨p, rfl⟩ : ∃ p : Nat, A = (p : Int) := ⟨A.toNat, by omega⟩
      have hpM : p + M ≤ is.length := by
        rcases Nat.eq_zero_or_pos M with rfl | hMp
        · omega
        · obtain ⟨q, hq1, hq2⟩ := hin (M - 1) (by omega)
          omega
      by_cases htot : is.length - M + news.length ≤ 60
      · exact ⟨swI is news p M, true, by rw [swI_len hpM]; exact htot, fun w u0 u2 h hu => specPut_one is news u0 u2 f t 1 hf ht p M w h hu h60 hq (by omega) rfl hpM htot hO1, fun w u0 u2 h hu => implPut_one is news u0 u2 f t 1 hf ht p M w h hu h60 hq hl2 rfl hpM htot hO2⟩
      · refine ⟨[], false, by simp, fun w u0 u2 h hu => ?_, fun w u0 u2 h hu => (implPut_over is news u0 u2 f t 1 hf ht p M w h hu h60 hq hl2 rfl hpM (by omega) hO2).mono fun e w' h => h.li⟩
        by_cases h2 : news.length ≤ 60
        · exact (specPut_over is news u0 u2 f t 1 hf ht p M w h hu h60 hq h2 rfl hpM (by omega) hO1).mono fun e w' h => h.li
        · exact (specPut_long is news u0 u2 f t 1 hf ht w h hu h60 hq (by omega) hl2).mono fun e w' h => h.li
    · by_cases hne : news.length = M
      · exact ⟨putI is news A st M, true, by rw [putI_len]; exact h60, fun w u0 u2 h hu => specPut_set is news u0 u2 f t st hf ht A M w h hu h60 hq (by omega) h1 hne hM hst (by omega) hin hO1, fun w u0 u2 h hu => implPut_set is news u0 u2 f t st hf ht A M w h hu h60 hq hl2 h1 hne hM hst (by omega) hin hP hO2⟩
      · refine ⟨[], false, by simp, fun w u0 u2 h hu => ?_, fun w u0 u2 h hu => (implPut_no is news u0 u2 f t st hf ht A M w h hu h60 hq hl2 h1 hne (by omega) (by omega) hO2).mono fun e w' h => h.li⟩
        by_cases h2 : news.length ≤ 60
        · exact (specPut_no is news u0 u2 f t st hf ht A M w h hu h60 hq h2 h1 hne (by omega) (by omega) hO1).mono fun e w' h => h.li
        · exact (specPut_long is news u0 u2 f t st hf ht w h hu h60 hq (by omega) hl2).mono fun e w' h => h.li
theorem fnExactListPutCut_all (is : List Int) (a : Option Addr) (cap : Nat) (f t st : Int) (hf ht : Bool) (is2 : List Int) (a2 : Option Addr) (cap2 : Nat) (w : World) (h : RsI w a cap is) (_hm : cap ≤ maxLen) (h2 : RsI w a2 cap2 is2) (_hm2 : cap2 ≤ maxLen) :
    Calls Try.prog 7 #[.slice a is.length cap, .agg (cutC f t st hf ht), .slice a2 is2.length cap2] w fun e w' => e = .returned (.bool true) ∧ Below w.heap.size w w' := by
  have hcap := h.1
  have hcap2 := h2.1
  by_cases hl : is.length ≤ 1048576
  · by_cases hl2 : is2.length ≤ 1048576
    · obtain ⟨R, bb, hR, k1, k2⟩ := listPut_all is is2 f t st hf ht hl hl2
      exact fnExactListPutCut_walk is a cap f t st hf ht is2 a2 cap2 R bb w h hl h2 hl2 (by omega) (fun w2 u q u2 q2 => k1 w2 u u2 q q2) (fun w2 u q u2 q2 => k2 w2 u u2 q q2)
    · unfold maxLen at _hm _hm2
      clear h h2
      generalize is.length = n at *
      generalize is2.length = n2 at *
      unfold cutC
      go_enter Try.func7, Try.ntmps7
      go_wp2
      go_ret
      exact ⟨rfl, (Below.refl _ _).alloc (Nat.le_refl _) _⟩
  · unfold maxLen at _hm _hm2
    clear h h2
    generalize is.length = n at *
    unfold cutC
    go_enter Try.func7, Try.ntmps7
    go_wp2
    go_ret
    exact ⟨rfl, (Below.refl _ _).alloc (Nat.le_refl _) _⟩
end Go.Proofs.Ytbcphejblopekaa
