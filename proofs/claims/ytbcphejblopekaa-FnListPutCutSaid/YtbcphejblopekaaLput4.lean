/- A part of a list replaced, elements one behind the other. -/
import Derived.Test.YtbcphejblopekaaLput3
namespace Go.Proofs.Ytbcphejblopekaa
open Go.RowKit
set_option maxHeartbeats 2000000 in
theorem specPut_one (is news : List Int) (v u : Value) (f t st : Int) (hf ht : Bool) (p M : Nat) (w : World) (h : RdO w v is) (hu : RdO w u news) (h60 : is.length ≤ 60) (hc : okC f t st hf ht = true) (h2 : news.length ≤ 60) (hst : st = 1) (hpM : p + M ≤ is.length) (htot : is.length - M + news.length ≤ 60) (hO : ∀ w, Calls Try.prog 45 #[.int .i64 is.length, .agg (cutC f t st hf ht)] w fun e w' => e = .returned (.tuple #[.int .i64 (p : Int), .int .i64 (M : Int)]) ∧ Below w.heap.size w w') :
    Calls Try.prog 28 #[v, .agg (cutC f t st hf ht), u] w (LiPb (swI is news p M) true w) := by
  subst hst
  have HV := Lib.hid h
  have HU := Lib.hid hu
  obtain ⟨a, cap, rfl, hcap, hnil, hz⟩ := h.form
  obtain ⟨a2, cap2, rfl, hcap2, hnil2, hz2⟩ := hu.form
  have HZ1 := Lib.hid hz
  have HZ2 := Lib.hid hz2
  clear h hu hz hz2 hnil hnil2
  obtain ⟨n, hn⟩ : ∃ n, n = is.length := ⟨_, rfl⟩
  obtain ⟨n2, hn2⟩ : ∃ n, n = news.length := ⟨_, rfl⟩
  have HN := Lib.hid hn
  have HN2 := Lib.hid hn2
  rw [← hn] at hcap HV h60 hpM htot hO ⊢
  rw [← hn2] at hcap2 HU h2 htot ⊢
  clear hn hn2
  have HVA := Lib.hid (fun n a cap w => validList_any n a cap w)
  have HC := Lib.hid (fun w => validCut_any f t 1 hf ht w)
  rw [hc] at HC
  clear hc
  have HO := Lib.hid hO
  clear hO
  unfold cutC at *
  have hdd : decide (n ≤ 60) = true := decide_eq_true h60
  have hd2 : decide (n2 ≤ 60) = true := decide_eq_true (by omega)
  have HX := Lib.hid (show CutAt (w.alloc (Obj.cells #[.int .i64 f, .int .i64 t, .int .i64 1, .bool hf, .bool ht] 32)) w.heap.size f t 1 hf ht from Blk.new _ _ _ rfl)
  have HB := Lib.hid (show Below w.heap.size w (w.alloc (Obj.cells #[.int .i64 f, .int .i64 t, .int .i64 1, .bool hf, .bool ht] 32)) from (Below.refl _ _).alloc (Nat.le_refl _) _)
  go_enter Try.func28, Try.ntmps28
  go_wp2_with fail
  refine (HVA.out _ _ _ _).mono ?_
  rintro e w' ⟨rfl, rfl⟩
  rw [hdd]
  go_wp2_with fail
  refine (HC.out _).mono ?_
  rintro e w1 ⟨rfl, hb1⟩
  have HX1 := Lib.hid (HX.out.below hb1 HX.out.lt)
  have HB1 := Lib.hid (HB.out.trans (hb1.mono HB.out.size))
  clear hb1
  obtain ⟨c0, c1, c2, c3, c4⟩ := HX1.out.cells
  go_wp2_with fail
  refine (HVA.out _ _ _ _).mono ?_
  rintro e w' ⟨rfl, rfl⟩
  rw [hd2]
  go_wp2_with fail
  refine (HO.out _).mono ?_
  rintro e w2 ⟨rfl, hb2⟩
  have HX2 := Lib.hid (HX1.out.below hb2 HX1.out.lt)
  have HB2 := Lib.hid (HB1.out.trans (hb2.mono HB1.out.size))
  have HV2 := Lib.hid (HV.out.below HB2.out)
  have HU2 := Lib.hid (HU.out.below HB2.out)
  clear hb2 c0 c1 c2 c3 c4
  obtain ⟨c0, c1, c2, c3, c4⟩ := HX2.out.cells
  obtain ⟨b1, HVb⟩ := HV2.out
  have HR1 := Lib.hid (rd_hd (k := p) (show RsI w2 a cap is from by obtain ⟨_, _, q1, q2⟩ := HVb.rd; injection q1 with q1 q3 q4; subst q1 q4; exact q2) (by have := HN.out; omega))
  have HR2 := Lib.hid (rd_tl (k := p + M) (show RsI w2 a cap is from by obtain ⟨_, _, q1, q2⟩ := HVb.rd; injection q1 with q1 q3 q4; subst q1 q4; exact q2) (by have := HN.out; omega))
  rw [← HN.out] at HR2
  clear HVb b1
  have e1 : (p : Int) + (M : Int) = ((p + M : Nat) : Int) := by omega
  have HE2 := Lib.hid (congrArg (Value.int .i64) e1)
  clear e1
  have H0 := Lib.hid (show RmI w2 (w2.alloc (Obj.cells #[] 3)) (.slice (some ⟨w2.heap.size, 0, none⟩) 0 0) [] from ⟨(Below.refl _ _).alloc (Nat.le_refl _) _, World.ownsRow_lit w2 #[] 0 (Nat.le_refl _) (by decide) rfl⟩)
  have HS0 := Lib.hid (show w2.heap.size ≤ (w2.alloc (Obj.cells #[] 3)).heap.size by simp)
  have HZA := Lib.hid (show a = none ∨ ∃ g, a = some ⟨g, 0, none⟩ from by rcases HZ1.out with q | ⟨g, q, _⟩; exact .inl q; exact .inr ⟨g, q⟩)
  have HLT := Lib.hid (show (is.take p).length = p by rw [List.length_take]; have := HN.out; omega)
  have HLQ := Lib.hid (show ([] : List Int).length + (is.take p).length ≤ 1000000 by rw [HLT.out]; simp; omega)
  go_wp2_with (first | (refine ext rfl (.tmp 26) 0 [.int .i64 (p : Int), .int .i64 (M : Int)] (.int .i64 (p : Int)) rfl rfl rfl ?_) | (refine ext rfl (.tmp 26) 1 [.int .i64 (p : Int), .int .i64 (M : Int)] (.int .i64 (M : Int)) rfl rfl rfl ?_) | (refine (puts_hd (.tmp 37) (.tmp 38) rfl a n cap p rfl rfl (by omega) HZA.out).gives.plain rfl ?_; (try simp only [Act.put]); (try go_frame); refine park ?_))
  unfold Parked
  refine appR rfl (.tmp 36) (.tmp 39) rfl w2.heap.size (.slice (some ⟨w2.heap.size, 0, none⟩) 0 0) (hd a p cap) [] (is.take p) rfl rfl H0.out.2 (HR1.out.below H0.out.1) HLQ.out HS0.out ?_
  intro v3 w3 ho3 hb3
  have H3 := Lib.hid (show RmI w2 w3 v3 (is.take p) from ⟨H0.out.1.trans hb3, ho3⟩)
  clear ho3 hb3
  go_wp2_with (first | (refine appR (o := ⟨some 43, _, _, _, _, _⟩) rfl (.tmp 41) (.tmp 42) rfl w2.heap.size v3 (.slice a2 n2 cap2) (is.take p) news rfl rfl H3.out.2 (HU2.out.below H3.out.1).rd (by rw [HLT.out, ← HN2.out]; omega) H3.out.1.size ?_; intro v4 w4 ho4 hb4; have H4 := Lib.hid (show RmI w2 w4 v4 (is.take p ++ news) from ⟨H3.out.1.trans hb4, ho4⟩); clear ho4 hb4; (try simp only [Act.put]); (try go_frame); refine park ?_))
  unfold Parked
  have HQ2 := Lib.hid (And.intro h2 htot)
  clear hcap hcap2 h2 htot c0 c1 c2 c3 c4 hdd hd2
  go_wp2_with (first | (refine (puts_tl (.tmp 45) (.tmp 48) rfl a n cap (p + M) ?_ ?_ ?_).gives.plain rfl ?_; rotate_left 3; (try simp only [Act.put]); (try go_frame); refine park ?_))
  rotate_left
  · rfl
  · exact HE2.out
  · omega
  unfold Parked
  refine appR rfl (.tmp 44) (.tmp 49) rfl w2.heap.size v4 (tl a (p + M) n cap) (is.take p ++ news) (is.drop (p + M)) rfl rfl H4.out.2 (HR2.out.below H4.out.1) (by rw [List.length_append, HLT.out, ← HN2.out, List.length_drop, ← HN.out]; have := HQ2.out; omega) H4.out.1.size ?_
  intro v5 w5 ho5 hb5
  have H5 := Lib.hid (show RmI w2 w5 v5 (swI is news p M) from ⟨H4.out.1.trans hb5, ho5⟩)
  clear ho5 hb5
  obtain ⟨a5, cap5, hv5, hcap5⟩ := H5.out.2.len'
  subst hv5
  go_wp2_with fail
  refine (HVA.out _ _ _ _).mono ?_
  rintro e w' ⟨rfl, rfl⟩
  have HSL := Lib.hid (show decide ((swI is news p M).length ≤ 60) = true from decide_eq_true (by rw [swI_len (by rw [← HN.out]; omega), ← HN.out, ← HN2.out]; have := HQ2.out; omega))
  rw [HSL.out]
  go_wp2_with fail
  go_ret2
  exact ⟨_, rfl, H5.out.2.wide HB2.out.size, HB2.out.trans (H5.out.1.mono HB2.out.size)⟩
set_option maxHeartbeats 2000000 in
theorem specPut_over (is news : List Int) (v u : Value) (f t st : Int) (hf ht : Bool) (p M : Nat) (w : World) (h : RdO w v is) (hu : RdO w u news) (h60 : is.length ≤ 60) (hc : okC f t st hf ht = true) (h2 : news.length ≤ 60) (hst : st = 1) (hpM : p + M ≤ is.length) (htot : 60 < is.length - M + news.length) (hO : ∀ w, Calls Try.prog 45 #[.int .i64 is.length, .agg (cutC f t st hf ht)] w fun e w' => e = .returned (.tuple #[.int .i64 (p : Int), .int .i64 (M : Int)]) ∧ Below w.heap.size w w') :
    Calls Try.prog 28 #[v, .agg (cutC f t st hf ht), u] w (NoP w) := by
  subst hst
  have HV := Lib.hid h
  have HU := Lib.hid hu
  obtain ⟨a, cap, rfl, hcap, hnil, hz⟩ := h.form
  obtain ⟨a2, cap2, rfl, hcap2, hnil2, hz2⟩ := hu.form
  have HZ1 := Lib.hid hz
  have HZ2 := Lib.hid hz2
  clear h hu hz hz2 hnil hnil2
  obtain ⟨n, hn⟩ : ∃ n, n = is.length := ⟨_, rfl⟩
  obtain ⟨n2, hn2⟩ : ∃ n, n = news.length := ⟨_, rfl⟩
  have HN := Lib.hid hn
  have HN2 := Lib.hid hn2
  rw [← hn] at hcap HV h60 hpM htot hO ⊢
  rw [← hn2] at hcap2 HU h2 htot ⊢
  clear hn hn2
  have HVA := Lib.hid (fun n a cap w => validList_any n a cap w)
  have HC := Lib.hid (fun w => validCut_any f t 1 hf ht w)
  rw [hc] at HC
  clear hc
  have HO := Lib.hid hO
  clear hO
  unfold cutC at *
  have hdd : decide (n ≤ 60) = true := decide_eq_true h60
  have hd2 : decide (n2 ≤ 60) = true := decide_eq_true (by omega)
  have HX := Lib.hid (show CutAt (w.alloc (Obj.cells #[.int .i64 f, .int .i64 t, .int .i64 1, .bool hf, .bool ht] 32)) w.heap.size f t 1 hf ht from Blk.new _ _ _ rfl)
  have HB := Lib.hid (show Below w.heap.size w (w.alloc (Obj.cells #[.int .i64 f, .int .i64 t, .int .i64 1, .bool hf, .bool ht] 32)) from (Below.refl _ _).alloc (Nat.le_refl _) _)
  go_enter Try.func28, Try.ntmps28
  go_wp2_with fail
  refine (HVA.out _ _ _ _).mono ?_
  rintro e w' ⟨rfl, rfl⟩
  rw [hdd]
  go_wp2_with fail
  refine (HC.out _).mono ?_
  rintro e w1 ⟨rfl, hb1⟩
  have HX1 := Lib.hid (HX.out.below hb1 HX.out.lt)
  have HB1 := Lib.hid (HB.out.trans (hb1.mono HB.out.size))
  clear hb1
  obtain ⟨c0, c1, c2, c3, c4⟩ := HX1.out.cells
  go_wp2_with fail
  refine (HVA.out _ _ _ _).mono ?_
  rintro e w' ⟨rfl, rfl⟩
  rw [hd2]
  go_wp2_with fail
  refine (HO.out _).mono ?_
  rintro e w2 ⟨rfl, hb2⟩
  have HX2 := Lib.hid (HX1.out.below hb2 HX1.out.lt)
  have HB2 := Lib.hid (HB1.out.trans (hb2.mono HB1.out.size))
  have HV2 := Lib.hid (HV.out.below HB2.out)
  have HU2 := Lib.hid (HU.out.below HB2.out)
  clear hb2 c0 c1 c2 c3 c4
  obtain ⟨c0, c1, c2, c3, c4⟩ := HX2.out.cells
  obtain ⟨b1, HVb⟩ := HV2.out
  have HR1 := Lib.hid (rd_hd (k := p) (show RsI w2 a cap is from by obtain ⟨_, _, q1, q2⟩ := HVb.rd; injection q1 with q1 q3 q4; subst q1 q4; exact q2) (by have := HN.out; omega))
  have HR2 := Lib.hid (rd_tl (k := p + M) (show RsI w2 a cap is from by obtain ⟨_, _, q1, q2⟩ := HVb.rd; injection q1 with q1 q3 q4; subst q1 q4; exact q2) (by have := HN.out; omega))
  rw [← HN.out] at HR2
  clear HVb b1
  have e1 : (p : Int) + (M : Int) = ((p + M : Nat) : Int) := by omega
  have HE2 := Lib.hid (congrArg (Value.int .i64) e1)
  clear e1
  have H0 := Lib.hid (show RmI w2 (w2.alloc (Obj.cells #[] 3)) (.slice (some ⟨w2.heap.size, 0, none⟩) 0 0) [] from ⟨(Below.refl _ _).alloc (Nat.le_refl _) _, World.ownsRow_lit w2 #[] 0 (Nat.le_refl _) (by decide) rfl⟩)
  have HS0 := Lib.hid (show w2.heap.size ≤ (w2.alloc (Obj.cells #[] 3)).heap.size by simp)
  have HZA := Lib.hid (show a = none ∨ ∃ g, a = some ⟨g, 0, none⟩ from by rcases HZ1.out with q | ⟨g, q, _⟩; exact .inl q; exact .inr ⟨g, q⟩)
  have HLT := Lib.hid (show (is.take p).length = p by rw [List.length_take]; have := HN.out; omega)
  have HLQ := Lib.hid (show ([] : List Int).length + (is.take p).length ≤ 1000000 by rw [HLT.out]; simp; omega)
  go_wp2_with (first | (refine ext rfl (.tmp 26) 0 [.int .i64 (p : Int), .int .i64 (M : Int)] (.int .i64 (p : Int)) rfl rfl rfl ?_) | (refine ext rfl (.tmp 26) 1 [.int .i64 (p : Int), .int .i64 (M : Int)] (.int .i64 (M : Int)) rfl rfl rfl ?_) | (refine (puts_hd (.tmp 37) (.tmp 38) rfl a n cap p rfl rfl (by omega) HZA.out).gives.plain rfl ?_; (try simp only [Act.put]); (try go_frame); refine park ?_))
  unfold Parked
  refine appR rfl (.tmp 36) (.tmp 39) rfl w2.heap.size (.slice (some ⟨w2.heap.size, 0, none⟩) 0 0) (hd a p cap) [] (is.take p) rfl rfl H0.out.2 (HR1.out.below H0.out.1) HLQ.out HS0.out ?_
  intro v3 w3 ho3 hb3
  have H3 := Lib.hid (show RmI w2 w3 v3 (is.take p) from ⟨H0.out.1.trans hb3, ho3⟩)
  clear ho3 hb3
  go_wp2_with (first | (refine appR (o := ⟨some 43, _, _, _, _, _⟩) rfl (.tmp 41) (.tmp 42) rfl w2.heap.size v3 (.slice a2 n2 cap2) (is.take p) news rfl rfl H3.out.2 (HU2.out.below H3.out.1).rd (by rw [HLT.out, ← HN2.out]; omega) H3.out.1.size ?_; intro v4 w4 ho4 hb4; have H4 := Lib.hid (show RmI w2 w4 v4 (is.take p ++ news) from ⟨H3.out.1.trans hb4, ho4⟩); clear ho4 hb4; (try simp only [Act.put]); (try go_frame); refine park ?_))
  unfold Parked
  have HQ2 := Lib.hid (And.intro h2 htot)
  clear hcap hcap2 h2 htot c0 c1 c2 c3 c4 hdd hd2
  go_wp2_with (first | (refine (puts_tl (.tmp 45) (.tmp 48) rfl a n cap (p + M) ?_ ?_ ?_).gives.plain rfl ?_; rotate_left 3; (try simp only [Act.put]); (try go_frame); refine park ?_))
  rotate_left
  · rfl
  · exact HE2.out
  · omega
  unfold Parked
  refine appR rfl (.tmp 44) (.tmp 49) rfl w2.heap.size v4 (tl a (p + M) n cap) (is.take p ++ news) (is.drop (p + M)) rfl rfl H4.out.2 (HR2.out.below H4.out.1) (by rw [List.length_append, HLT.out, ← HN2.out, List.length_drop, ← HN.out]; have := HQ2.out; omega) H4.out.1.size ?_
  intro v5 w5 ho5 hb5
  have H5 := Lib.hid (show RmI w2 w5 v5 (swI is news p M) from ⟨H4.out.1.trans hb5, ho5⟩)
  clear ho5 hb5
  obtain ⟨a5, cap5, hv5, hcap5⟩ := H5.out.2.len'
  subst hv5
  go_wp2_with fail
  refine (HVA.out _ _ _ _).mono ?_
  rintro e w' ⟨rfl, rfl⟩
  have HSL := Lib.hid (show decide ((swI is news p M).length ≤ 60) = false from decide_eq_false (by rw [swI_len (by rw [← HN.out]; omega), ← HN.out, ← HN2.out]; have := HQ2.out; omega))
  rw [HSL.out]
  go_wp2_with fail
  go_ret2
  exact ⟨rfl, HB2.out.trans (H5.out.1.mono HB2.out.size)⟩
end Go.Proofs.Ytbcphejblopekaa
