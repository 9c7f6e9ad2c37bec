/- A part of a list replaced, elements one behind the other. -/
import Derived.Test.YtbcphejblopekaaLput3
namespace Go.Proofs.Ytbcphejblopekaa
open Go.RowKit
set_option maxHeartbeats 2000000 in
theorem implPut_one (is news : List Int) (v u : Value) (f t st : Int) (hf ht : Bool) (p M : Nat) (w : World) (h : RdO w v is) (hu : RdO w u news) (h60 : is.length ≤ 60) (hc : okC f t st hf ht = true) (h2 : news.length ≤ 1048576) (hst : st = 1) (hpM : p + M ≤ is.length) (htot : is.length - M + news.length ≤ 60) (hO : ∀ w, Calls Try.prog 39 #[.int .i64 is.length, .agg (cutC f t st hf ht)] w fun e w' => e = .returned (.tuple #[.int .i64 (p : Int), .int .i64 (M : Int)]) ∧ Below w.heap.size w w') :
    Calls Try.prog 29 #[v, .agg (cutC f t st hf ht), u] w (LiPb (swI is news p M) true w) := by
  subst hst
  have HV := Lib.hid h
  have HU := Lib.hid hu
  obtain ⟨a, cap, rfl, hcap, hnil, hz⟩ := h.form
  obtain ⟨a2, cap2, rfl, hcap2, hnil2, hz2⟩ := hu.form
  have HZ1 := Lib.hid hz
  have HZ2 := Lib.hid hz2
  clear h hu hz hz2 hnil hnil2
  obtain ⟨n, hn⟩ : ∃ n, n = is.length := ⟨_, rfl⟩
  obtain ⟨n2, hn2⟩ : ∃ n, n = news.length := ⟨_, rfl⟩
  have HN := Lib.hid hn
  have HN2 := Lib.hid hn2
  rw [← hn] at hcap HV h60 hpM htot hO ⊢
  rw [← hn2] at hcap2 HU h2 htot ⊢
  clear hn hn2
  have HC := Lib.hid (fun w => cutOk_any f t 1 hf ht w)
  rw [hc] at HC
  clear hc
  have HO := Lib.hid hO
  clear hO
  unfold cutC at *
  have HX := Lib.hid (show CutAt (w.alloc (Obj.cells #[.int .i64 f, .int .i64 t, .int .i64 1, .bool hf, .bool ht] 32)) w.heap.size f t 1 hf ht from Blk.new _ _ _ rfl)
  have HB := Lib.hid (show Below w.heap.size w (w.alloc (Obj.cells #[.int .i64 f, .int .i64 t, .int .i64 1, .bool hf, .bool ht] 32)) from (Below.refl _ _).alloc (Nat.le_refl _) _)
  go_enter Try.func29, Try.ntmps29
  go_wp2_with fail
  refine (HC.out _).mono ?_
  rintro e w1 ⟨rfl, hb1⟩
  have HX1 := Lib.hid (HX.out.below hb1 HX.out.lt)
  have HB1 := Lib.hid (HB.out.trans (hb1.mono HB.out.size))
  clear hb1
  obtain ⟨c0, c1, c2, c3, c4⟩ := HX1.out.cells
  go_wp2_with fail
  refine (HO.out _).mono ?_
  rintro e w2 ⟨rfl, hb2⟩
  have HX2 := Lib.hid (HX1.out.below hb2 HX1.out.lt)
  have HB2 := Lib.hid (HB1.out.trans (hb2.mono HB1.out.size))
  have HV2 := Lib.hid (HV.out.below HB2.out)
  have HU2 := Lib.hid (HU.out.below HB2.out)
  clear hb2 c0 c1 c2 c3 c4
  obtain ⟨c0, c1, c2, c3, c4⟩ := HX2.out.cells
  have htot2 : (n : Int) - (M : Int) + (n2 : Int) ≤ 60 := by omega
  go_wp2_with (first | (refine ext rfl (.tmp 21) 0 [.int .i64 (p : Int), .int .i64 (M : Int)] (.int .i64 (p : Int)) rfl rfl rfl ?_) | (refine ext rfl (.tmp 21) 1 [.int .i64 (p : Int), .int .i64 (M : Int)] (.int .i64 (M : Int)) rfl rfl rfl ?_))
  obtain ⟨b1, HVb⟩ := HV2.out
  have HRs := Lib.hid (show RsI w2 a cap is from by obtain ⟨_, _, q1, q2⟩ := HVb.rd; injection q1 with q1 q3 q4; subst q1 q4; exact q2)
  clear HVb b1
  have HR1 := Lib.hid (rd_hd (k := p) HRs.out (by have := HN.out; omega))
  have HR2 := Lib.hid (rd_tl (k := p + M) HRs.out (by have := HN.out; omega))
  rw [← HN.out] at HR2
  have HZA := Lib.hid (show a = none ∨ ∃ g, a = some ⟨g, 0, none⟩ from by rcases HZ1.out with q | ⟨g, q, _⟩; exact .inl q; exact .inr ⟨g, q⟩)
  have e1 : (p : Int) + (M : Int) = ((p + M : Nat) : Int) := by omega
  have hpc : p ≤ cap := by omega
  have hpn : p + M ≤ n := by omega
  clear c0 c1 c2 c3 c4
  refine wp_region_held_drew (S := fun w' => Below w2.heap.size w2 w') (by kernel_rfl) (below_drew w2) fun hS => ?_
  refine held_take 0 (v := .slice a n cap) rfl rfl (by kernel_rfl) (by kernel_rfl) (by kernel_rfl) (fun _ _ _ h => h) (fun w' h => puts_move_to _ _ rfl rfl) hS ?_
  go_frame
  refine held_take 1 (v := .int .i64 (p : Int)) rfl rfl (by kernel_rfl) (by kernel_rfl) (by kernel_rfl) (fun _ _ _ h => h) (fun w' h => puts_move_to _ _ rfl rfl) hS ?_
  go_frame
  refine held_take 2 (v := hd a p cap) rfl rfl (by kernel_rfl) (by kernel_rfl) (by kernel_rfl) (fun _ _ _ h => h) (fun w' h => puts_hd _ _ rfl a n cap p rfl rfl hpc HZA.out) hS ?_
  go_frame
  refine held_take 3 (v := .slice a2 n2 cap2) rfl rfl (by kernel_rfl) (by kernel_rfl) (by kernel_rfl) (fun _ _ _ h => h) (fun w' h => puts_move_to _ _ rfl rfl) hS ?_
  go_frame
  refine held_take 4 (v := .slice a n cap) rfl rfl (by kernel_rfl) (by kernel_rfl) (by kernel_rfl) (fun _ _ _ h => h) (fun w' h => puts_move_to _ _ rfl rfl) hS ?_
  go_frame
  refine held_take 5 (v := .int .i64 (p : Int)) rfl rfl (by kernel_rfl) (by kernel_rfl) (by kernel_rfl) (fun _ _ _ h => h) (fun w' h => puts_move_to _ _ rfl rfl) hS ?_
  go_frame
  refine held_take 6 (v := .int .i64 (M : Int)) rfl rfl (by kernel_rfl) (by kernel_rfl) (by kernel_rfl) (fun _ _ _ h => h) (fun w' h => puts_move_to _ _ rfl rfl) hS ?_
  go_frame
  refine held_take 7 (v := .int .i64 ((p + M : Nat) : Int)) rfl rfl (by kernel_rfl) (by kernel_rfl) (by kernel_rfl) (fun _ _ _ h => h) (fun w' h => puts_addI _ _ _ _ rfl (p : Int) (M : Int) ((p + M : Nat) : Int) rfl rfl e1 (by omega) (by omega)) hS ?_
  go_frame
  refine held_take 8 (v := tl a (p + M) n cap) rfl rfl (by kernel_rfl) (by kernel_rfl) (by kernel_rfl) (fun _ _ _ h => h) (fun w' h => puts_tl _ _ rfl a n cap (p + M) rfl rfl hpn) hS ?_
  go_frame
  have hSA := hS.alloc hS.size (.cells #[hd a p cap, .slice a2 n2 cap2, tl a (p + M) n cap] 24)
  have HSA := Lib.hid hSA
  refine held_only 9 (by kernel_rfl) rfl rfl (gives_lit3 rfl _ _ _ _ _ _ _ _ _ rfl rfl rfl) hSA ?_
  go_frame
  have HCC := Lib.hid (concat3_any (is.take p) news (is.drop (p + M)) (hd a p cap) (.slice a2 n2 cap2) (tl a (p + M) n cap) w2.heap.size _ (HR1.out.below hSA) (by have := (HU2.out.below hSA).rd; exact this) (HR2.out.below hSA) (lit3_cell _ _ _ _ _ rfl) (lit3_cell1 _ _ _ _ _ rfl) (lit3_cell2 _ _ _ _ _ rfl) (by rw [List.length_take]; have := HN.out; omega) (by rw [← HN2.out]; omega) (by rw [List.length_drop]; have := HN.out; omega))
  refine held_call 10 (by kernel_rfl) rfl rfl (puts_call1 49 _ _ (.slice (some ⟨w2.heap.size, 0, none⟩) 3 3) rfl rfl (by kernel_rfl)) HCC.out ?_
  rintro e w4 ⟨v4, rfl, ho4, hb4⟩
  have HB4 := Lib.hid (HSA.out.trans (hb4.mono HSA.out.size))
  have HO4 := Lib.hid (ho4.wide HSA.out.size)
  clear ho4 hb4
  refine ⟨_, rfl, HB4.out, ?_⟩
  go_frame
  refine held_take 11 (v := v4) rfl rfl (by kernel_rfl) (by kernel_rfl) (by kernel_rfl) (fun _ _ _ h => h) (fun w' h => puts_assign_to _ _ rfl rfl) HB4.out ?_
  go_frame
  refine held_take 12 (v := .bool true) rfl rfl (by kernel_rfl) (by kernel_rfl) (by kernel_rfl) (fun _ _ _ h => h) (fun w' h => puts_assign_to _ _ rfl rfl) HB4.out ?_
  go_frame
  refine wpAnyH_done (by kernel_rfl) ?_ _
  go_wp2_with fail
  go_ret2
  exact ⟨v4, rfl, HO4.out.wide HB2.out.size, HB2.out.trans (HB4.out.mono HB2.out.size)⟩
set_option maxHeartbeats 2000000 in
theorem implPut_over (is news : List Int) (v u : Value) (f t st : Int) (hf ht : Bool) (p M : Nat) (w : World) (h : RdO w v is) (hu : RdO w u news) (h60 : is.length ≤ 60) (hc : okC f t st hf ht = true) (h2 : news.length ≤ 1048576) (hst : st = 1) (hpM : p + M ≤ is.length) (htot : 60 < is.length - M + news.length) (hO : ∀ w, Calls Try.prog 39 #[.int .i64 is.length, .agg (cutC f t st hf ht)] w fun e w' => e = .returned (.tuple #[.int .i64 (p : Int), .int .i64 (M : Int)]) ∧ Below w.heap.size w w') :
    Calls Try.prog 29 #[v, .agg (cutC f t st hf ht), u] w (NoP w) := by
  subst hst
  have HV := Lib.hid h
  have HU := Lib.hid hu
  obtain ⟨a, cap, rfl, hcap, hnil, hz⟩ := h.form
  obtain ⟨a2, cap2, rfl, hcap2, hnil2, hz2⟩ := hu.form
  have HZ1 := Lib.hid hz
  have HZ2 := Lib.hid hz2
  clear h hu hz hz2 hnil hnil2
  obtain ⟨n, hn⟩ : ∃ n, n = is.length := ⟨_, rfl⟩
  obtain ⟨n2, hn2⟩ : ∃ n, n = news.length := ⟨_, rfl⟩
  have HN := Lib.hid hn
  have HN2 := Lib.hid hn2
  rw [← hn] at hcap HV h60 hpM htot hO ⊢
  rw [← hn2] at hcap2 HU h2 htot ⊢
  clear hn hn2
  have HC := Lib.hid (fun w => cutOk_any f t 1 hf ht w)
  rw [hc] at HC
  clear hc
  have HO := Lib.hid hO
  clear hO
  unfold cutC at *
  have HX := Lib.hid (show CutAt (w.alloc (Obj.cells #[.int .i64 f, .int .i64 t, .int .i64 1, .bool hf, .bool ht] 32)) w.heap.size f t 1 hf ht from Blk.new _ _ _ rfl)
  have HB := Lib.hid (show Below w.heap.size w (w.alloc (Obj.cells #[.int .i64 f, .int .i64 t, .int .i64 1, .bool hf, .bool ht] 32)) from (Below.refl _ _).alloc (Nat.le_refl _) _)
  go_enter Try.func29, Try.ntmps29
  go_wp2_with fail
  refine (HC.out _).mono ?_
  rintro e w1 ⟨rfl, hb1⟩
  have HX1 := Lib.hid (HX.out.below hb1 HX.out.lt)
  have HB1 := Lib.hid (HB.out.trans (hb1.mono HB.out.size))
  clear hb1
  obtain ⟨c0, c1, c2, c3, c4⟩ := HX1.out.cells
  go_wp2_with fail
  refine (HO.out _).mono ?_
  rintro e w2 ⟨rfl, hb2⟩
  have HX2 := Lib.hid (HX1.out.below hb2 HX1.out.lt)
  have HB2 := Lib.hid (HB1.out.trans (hb2.mono HB1.out.size))
  have HV2 := Lib.hid (HV.out.below HB2.out)
  have HU2 := Lib.hid (HU.out.below HB2.out)
  clear hb2 c0 c1 c2 c3 c4
  obtain ⟨c0, c1, c2, c3, c4⟩ := HX2.out.cells
  have htot2 : 60 < (n : Int) - (M : Int) + (n2 : Int) := by omega
  go_wp2_with (first | (refine ext rfl (.tmp 21) 0 [.int .i64 (p : Int), .int .i64 (M : Int)] (.int .i64 (p : Int)) rfl rfl rfl ?_) | (refine ext rfl (.tmp 21) 1 [.int .i64 (p : Int), .int .i64 (M : Int)] (.int .i64 (M : Int)) rfl rfl rfl ?_))
  go_ret2
  exact ⟨rfl, HB2.out⟩
end Go.Proofs.Ytbcphejblopekaa
