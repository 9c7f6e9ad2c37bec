/- The law on ListPutCut. -/
import Derived.Test.YtbcphejblopekaaLwG
namespace Go.Proofs.Ytbcphejblopekaa
open Go.RowKit
/-- What stands while the law runs. -/
def LpS (w wr : World) (g : Nat) (f t st : Int) (hf ht : Bool) (v u : Value) (is news : List Int) : Prop := Below w.heap.size w wr ∧ CutAt wr g f t st hf ht ∧ OwI wr w.heap.size v is ∧ OwI wr w.heap.size u news
theorem LpS.below {w wr w' : World} {g : Nat} {f t st : Int} {hf ht : Bool} {v u : Value} {is news : List Int} (h : LpS w wr g f t st hf ht v u is news) (hb : Below wr.heap.size wr w') : LpS w w' g f t st hf ht v u is news :=
  ⟨h.1.trans (hb.mono h.1.size), h.2.1.below hb h.2.1.lt, h.2.2.1.below hb, h.2.2.2.below hb⟩
set_option maxHeartbeats 4000000 in
theorem fnListPutCut_walk (a : Option Addr) (n cap : Nat) (zs : List Int) (w : World) (h : (a = none ∧ n = 0 ∧ cap = 0 ∧ zs = []) ∨ ∃ x, a = some x ∧ n ≤ cap ∧ cap ≤ maxLen ∧ zs.length = cap ∧ (∀ i, i < zs.length → w.cell? (x.add i) = some (.int .u8 (zs.getD i 0))) ∧ ∀ n ∈ zs, (Lit.int .u8 n).wf = true) :
    Calls Try.prog 14 #[.slice a n cap] w fun e w' => e = .returned (.bool true) ∧ Below w.heap.size w w' := by
  have HC := Lib.hid (dListPutCut w a n cap (cr_of h))
  have hcap : n ≤ 9223372036854775807 := by
    rcases h with ⟨_, rfl, _⟩ | ⟨x, _, h1, h2, _⟩
    · omega
    · unfold maxLen at h2; omega
  clear h
  by_cases h0 : n ≤ 1048576
  · go_enter Try.func14, Try.ntmps14
    go_wp2_with fail
    refine HC.out.mono ?_
    rintro e w2 ⟨v, u, is, news, f, t, st, hf, ht, rfl, hl, hl2, ho2, hu2, hb2⟩
    unfold cutC
    have H2 := Lib.hid (show LpS w (w2.alloc (.cells #[.int .i64 f, .int .i64 t, .int .i64 st, .bool hf, .bool ht] 32)) w2.heap.size f t st hf ht v u is news from ⟨hb2.alloc hb2.size _, Blk.new _ _ _ rfl, ho2.alloc' _, hu2.alloc' _⟩)
    clear hb2 ho2 hu2 HC
    go_wp2_with (first | (refine ext rfl (.tmp 18) 0 [v, .agg #[.int .i64 f, .int .i64 t, .int .i64 st, .bool hf, .bool ht], u] v rfl rfl rfl ?_) | (refine ext rfl (.tmp 18) 1 [v, .agg #[.int .i64 f, .int .i64 t, .int .i64 st, .bool hf, .bool ht], u] (.agg #[.int .i64 f, .int .i64 t, .int .i64 st, .bool hf, .bool ht]) rfl rfl rfl ?_) | (refine ext rfl (.tmp 18) 2 [v, .agg #[.int .i64 f, .int .i64 t, .int .i64 st, .bool hf, .bool ht], u] u rfl rfl rfl ?_))
    rcases put_cases is news f t st hf ht (by omega) (by omega) with hno | hyes
    · obtain ⟨k1, k2⟩ := hno
      have K1 := Lib.hid k1
      have K2 := Lib.hid k2
      unfold cutC at K1 K2
      clear k1 k2
      refine (K2.out _ _ _ ⟨_, H2.out.2.2.1⟩ ⟨_, H2.out.2.2.2⟩).mono ?_
      rintro e w3 ⟨vo, rfl, ho3, hb3⟩
      have H3 := Lib.hid (H2.out.below hb3)
      have HO3 := Lib.hid ho3
      clear hb3 ho3
      obtain ⟨c0, c1, c2, c3, c4⟩ := H3.out.2.1.cells
      go_wp2_with (first | (refine ext rfl (.tmp 24) 0 [vo, .bool false] vo rfl rfl rfl ?_) | (refine ext rfl (.tmp 24) 1 [vo, .bool false] (.bool false) rfl rfl rfl ?_))
      refine (K1.out _ _ _ ⟨_, H3.out.2.2.1⟩ ⟨_, H3.out.2.2.2⟩).mono ?_
      rintro e w4 ⟨vw, rfl, ho4, hb4⟩
      have H4 := Lib.hid (H3.out.below hb4)
      have HO4 := Lib.hid (HO3.out.below hb4)
      have HW4 := Lib.hid ho4
      clear hb4 ho4 c0 c1 c2 c3 c4
      go_wp2_with (first | (refine ext rfl (.tmp 31) 0 [vw, .bool false] vw rfl rfl rfl ?_) | (refine ext rfl (.tmp 31) 1 [vw, .bool false] (.bool false) rfl rfl rfl ?_))
      refine (sameInts_rd [] _ _ _ HO4.out.rd HW4.out.rd (by simp)).mono ?_
      rintro e w5 ⟨rfl, hb5⟩
      have H5 := Lib.hid (H4.out.below hb5)
      have HO5 := Lib.hid (HO4.out.below hb5)
      clear hb5 H2 H3 H4 HO3 HO4 HW4
      go_wp2_with fail
      go_ret
      exact ⟨rfl, H5.out.1⟩
    · obtain ⟨A, M, R, hM, hR, k1, k2, k3, k4, k5, k6, k7⟩ := hyes
      have K1 := Lib.hid k1
      have K2 := Lib.hid k2
      have K3 := Lib.hid k3
      have K4 := Lib.hid k4
      have K5 := Lib.hid k5
      have K7 := Lib.hid k7
      unfold cutC at K1 K2 K3 K4 K5 K7
      clear k1 k2 k3 k4 k5 k7
      refine (K2.out _ _ _ ⟨_, H2.out.2.2.1⟩ ⟨_, H2.out.2.2.2⟩).mono ?_
      rintro e w3 ⟨vo, rfl, ho3, hb3⟩
      have H3 := Lib.hid (H2.out.below hb3)
      have HO3 := Lib.hid ho3
      clear hb3 ho3
      obtain ⟨c0, c1, c2, c3, c4⟩ := H3.out.2.1.cells
      go_wp2_with (first | (refine ext rfl (.tmp 24) 0 [vo, .bool true] vo rfl rfl rfl ?_) | (refine ext rfl (.tmp 24) 1 [vo, .bool true] (.bool true) rfl rfl rfl ?_))
      refine (K1.out _ _ _ ⟨_, H3.out.2.2.1⟩ ⟨_, H3.out.2.2.2⟩).mono ?_
      rintro e w4 ⟨vw, rfl, ho4, hb4⟩
      have H4 := Lib.hid (H3.out.below hb4)
      have HO4 := Lib.hid (HO3.out.below hb4)
      have HW4 := Lib.hid ho4
      clear hb4 ho4 c0 c1 c2 c3 c4
      go_wp2_with (first | (refine ext rfl (.tmp 31) 0 [vw, .bool true] vw rfl rfl rfl ?_) | (refine ext rfl (.tmp 31) 1 [vw, .bool true] (.bool true) rfl rfl rfl ?_))
      refine (sameInts_rd R _ _ _ HO4.out.rd HW4.out.rd (by omega)).mono ?_
      rintro e w5 ⟨rfl, hb5⟩
      have H5 := Lib.hid (H4.out.below hb5)
      have HO5 := Lib.hid (HO4.out.below hb5)
      clear hb5 H2 H3 H4 HO3 HO4 HW4
      obtain ⟨a1, cp1, hv1⟩ := H5.out.2.2.1.len
      subst hv1
      obtain ⟨a2, cp2, hv2⟩ := H5.out.2.2.2.len
      subst hv2
      obtain ⟨a3, cp3, hv3⟩ := HO5.out.len
      subst hv3
      obtain ⟨n1, hn1⟩ : ∃ q, q = is.length := ⟨_, rfl⟩
      have Hn1 := Lib.hid hn1
      obtain ⟨n2, hn2⟩ : ∃ q, q = news.length := ⟨_, rfl⟩
      have Hn2 := Lib.hid hn2
      obtain ⟨n3, hn3⟩ : ∃ q, q = R.length := ⟨_, rfl⟩
      have Hn3 := Lib.hid hn3
      rw [← hn1] at hl hM K5 k6 H5 ⊢
      rw [← hn2] at hl2 k6 H5 ⊢
      rw [← hn3] at hR k6 HO5 ⊢
      clear hn1 hn2 hn3
      go_wp2_with fail
      have H5d := Lib.hid (H5.out.below (below_drew w5))
      have HO5d := Lib.hid (HO5.out.below (below_drew w5))
      refine wp_region_held_drew (S := fun w' => CutAt w' w2.heap.size f t st hf ht) (by kernel_rfl) H5d.out.2.1 fun hS => ?_
      refine held_take 0 (v := .slice a1 n1 cp1) rfl rfl (by kernel_rfl) (by kernel_rfl) (by kernel_rfl) (fun _ _ _ h => h) (fun w' h => puts_move_to _ _ rfl rfl) hS ?_
      go_frame
      refine held_take 1 (v := .agg #[.int .i64 f, .int .i64 t, .int .i64 st, .bool hf, .bool ht]) rfl rfl (by kernel_rfl) (by kernel_rfl) (by kernel_rfl) (fun _ _ _ h => h) (fun w' h => puts_load 32 _ rfl w2.heap.size 0 #[.int .i64 f, .int .i64 t, .int .i64 st, .bool hf, .bool ht] rfl (Blk.lies h) _ Try.underlying32 rfl (by kernel_rfl)) hS ?_
      go_frame
      refine held_take 2 (v := .slice a1 n1 cp1) rfl rfl (by kernel_rfl) (by kernel_rfl) (by kernel_rfl) (fun _ _ _ h => h) (fun w' h => puts_move_to _ _ rfl rfl) hS ?_
      go_frame
      refine held_take 3 (v := .agg #[.int .i64 f, .int .i64 t, .int .i64 st, .bool hf, .bool ht]) rfl rfl (by kernel_rfl) (by kernel_rfl) (by kernel_rfl) (fun _ _ _ h => h) (fun w' h => puts_load 32 _ rfl w2.heap.size 0 #[.int .i64 f, .int .i64 t, .int .i64 st, .bool hf, .bool ht] rfl (Blk.lies h) _ Try.underlying32 rfl (by kernel_rfl)) hS ?_
      go_frame
      refine held_call 4 (by kernel_rfl) rfl rfl (puts_call2 25 _ _ _ (.slice a1 n1 cp1) (.agg #[.int .i64 f, .int .i64 t, .int .i64 st, .bool hf, .bool ht]) rfl rfl rfl (by kernel_rfl)) (K3.out _ _ H5d.out.2.2.1.rd) ?_
      rintro e w6 ⟨vc, rfl, ho6, hb6⟩
      have H6 := Lib.hid (H5d.out.below hb6)
      have HO6 := Lib.hid (HO5d.out.below hb6)
      have HC6 := Lib.hid ho6
      clear ho6 hb6
      refine ⟨_, rfl, H6.out.2.1, ?_⟩
      go_frame
      refine held_call 5 (by kernel_rfl) rfl rfl (puts_call3 29 _ _ _ _ (.slice a1 n1 cp1) (.agg #[.int .i64 f, .int .i64 t, .int .i64 st, .bool hf, .bool ht]) vc rfl rfl rfl rfl (by kernel_rfl)) (K4.out _ _ _ ⟨_, H6.out.2.2.1⟩ ⟨_, HC6.out⟩) ?_
      rintro e w7 ⟨vb, rfl, ho7, hb7⟩
      have H7 := Lib.hid (H6.out.below hb7)
      have HO7 := Lib.hid (HO6.out.below hb7)
      have HB7 := Lib.hid ho7
      clear ho7 hb7
      refine ⟨_, rfl, H7.out.2.1, ?_⟩
      go_frame
      refine held_take 6 (v := .tuple #[vb, .bool true]) rfl rfl (by kernel_rfl) (by kernel_rfl) (by kernel_rfl) (fun _ _ _ h => h) (fun w' h => puts_move_to _ _ rfl rfl) H7.out.2.1 ?_
      go_frame
      refine held_take 7 (v := vb) rfl rfl (by kernel_rfl) (by kernel_rfl) (by kernel_rfl) (fun _ _ _ h => h) (fun w' h => puts_extract _ 0 [vb, .bool true] vb rfl rfl rfl) H7.out.2.1 ?_
      go_frame
      refine held_take 8 (v := .bool true) rfl rfl (by kernel_rfl) (by kernel_rfl) (by kernel_rfl) (fun _ _ _ h => h) (fun w' h => puts_extract _ 1 [vb, .bool true] (.bool true) rfl rfl rfl) H7.out.2.1 ?_
      go_frame
      refine held_take 9 (v := vb) rfl rfl (by kernel_rfl) (by kernel_rfl) (by kernel_rfl) (fun _ _ _ h => h) (fun w' h => puts_assign_to _ _ rfl rfl) H7.out.2.1 ?_
      go_frame
      refine held_take 10 (v := .bool true) rfl rfl (by kernel_rfl) (by kernel_rfl) (by kernel_rfl) (fun _ _ _ h => h) (fun w' h => puts_assign_to _ _ rfl rfl) H7.out.2.1 ?_
      go_frame
      refine wpAnyH_done (by kernel_rfl) ?_ _
      clear H5 H5d H6 HO5 HO5d HO6 HC6
      obtain ⟨c0, c1, c2, c3, c4⟩ := H7.out.2.1.cells
      go_wp2_with fail
      refine (K5.out _).mono ?_
      rintro e w8 ⟨rfl, hb8⟩
      have H8 := Lib.hid (H7.out.below hb8)
      have HO8 := Lib.hid (HO7.out.below hb8)
      have HB8 := Lib.hid (HB7.out.below hb8)
      clear hb8 c0 c1 c2 c3 c4
      obtain ⟨c0, c1, c2, c3, c4⟩ := H8.out.2.1.cells
      have HK6 := Lib.hid k6
      clear k6
      have HLM := Lib.hid (And.intro hl (And.intro hM hl2))
      by_cases hst : st = 1
      · have HSM := Lib.hid (HK6.out hst)
        rw [hst] at c2
        clear hst
        go_wp2_with (first | (refine ext rfl (.tmp 62) 0 [.int .i64 A, .int .i64 (M : Int)] (.int .i64 A) rfl rfl rfl ?_) | (refine ext rfl (.tmp 62) 1 [.int .i64 A, .int .i64 (M : Int)] (.int .i64 (M : Int)) rfl rfl rfl ?_))
        refine (sameInts_rd is _ _ _ HB8.out.rd H8.out.2.2.1.rd (by have := Hn1.out; omega)).mono ?_
        rintro e w9 ⟨rfl, hb9⟩
        have H9 := Lib.hid (H8.out.below hb9)
        clear hb9 c0 c1 c2 c3 c4
        have hsm := HSM.out
        go_wp2_with fail
        go_ret
        refine ⟨?_, H9.out.1⟩
        refine congrArg (fun b => Ending.returned (Value.bool b)) ?_
        simp
        omega
      · have HK7 := Lib.hid (K7.out hst)
        go_wp2_with (first | (refine ext rfl (.tmp 62) 0 [.int .i64 A, .int .i64 (M : Int)] (.int .i64 A) rfl rfl rfl ?_) | (refine ext rfl (.tmp 62) 1 [.int .i64 A, .int .i64 (M : Int)] (.int .i64 (M : Int)) rfl rfl rfl ?_))
        refine (sameInts_rd is _ _ _ HB8.out.rd H8.out.2.2.1.rd (by have := Hn1.out; omega)).mono ?_
        rintro e w9 ⟨rfl, hb9⟩
        have H9 := Lib.hid (H8.out.below hb9)
        have HO9 := Lib.hid (HO8.out.below hb9)
        clear hb9 c0 c1 c2 c3 c4
        obtain ⟨c0, c1, c2, c3, c4⟩ := H9.out.2.1.cells
        go_wp2_with fail
        refine (HK7.out _ _ HO9.out.rd).mono ?_
        rintro e w10 ⟨vx, rfl, ho10, hb10⟩
        have H10 := Lib.hid (H9.out.below hb10)
        have HX10 := Lib.hid ho10
        clear ho10 hb10 c0 c1 c2 c3 c4
        go_wp2_with fail
        refine (sameInts_rd news _ _ _ HX10.out.rd H10.out.2.2.2.rd (by have := Hn2.out; omega)).mono ?_
        rintro e w11 ⟨rfl, hb11⟩
        have H11 := Lib.hid (H10.out.below hb11)
        clear hb11
        go_wp2_with fail
        go_ret
        exact ⟨rfl, H11.out.1⟩
  · go_enter Try.func14, Try.ntmps14
    go_wp2_with fail
    go_ret
    exact ⟨rfl, Below.refl _ _⟩
end Go.Proofs.Ytbcphejblopekaa
