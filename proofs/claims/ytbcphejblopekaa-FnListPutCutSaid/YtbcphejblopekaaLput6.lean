/- A part of a list replaced, element by element. -/
import Derived.Test.YtbcphejblopekaaLput4
import Derived.Test.YtbcphejblopekaaLput5
namespace Go.Proofs.Ytbcphejblopekaa
open Go.RowKit
def PuI (w2 wr : World) (is news : List Int) (A st : Int) (g3 n c3 k : Nat) : Prop := Below w2.heap.size w2 wr ∧ OwI wr w2.heap.size (.slice (some ⟨g3, 0, none⟩) n c3) (putI is news A st k)
theorem PuI.next {w2 wr : World} {is news : List Int} {A st x : Int} {g3 n c3 k p : Nat} (h : PuI w2 wr is news A st g3 n c3 k) (hx : news[k]? = some x) (he : A + (k : Int) * st = (p : Int)) : PuI w2 (wr.setCell ⟨g3, p, none⟩ (.int .i64 x)) is news A st g3 n c3 (k + 1) := by
  have hg := (h.2.lt g3 rfl).1
  refine ⟨h.1.setCell hg _, ?_⟩
  have h1 := h.2.stored p x
  rw [← putI_succ hx he] at h1
  exact h1
theorem PuI.drew {w2 wr : World} {is news : List Int} {A st : Int} {g3 n c3 k : Nat} (h : PuI w2 wr is news A st g3 n c3 k) : PuI w2 wr.drew is news A st g3 n c3 k := ⟨⟨h.1.os, h.1.tape, h.1.output, h.1.size, h.1.block⟩, h.2⟩
theorem PuI.at {w2 wr : World} {is news : List Int} {A st : Int} {g3 n c3 k p : Nat} (h : PuI w2 wr is news A st g3 n c3 k) (hp : p < is.length) : ∃ y, wr.cell? ⟨g3, p, none⟩ = some (.int .i64 y) ∧ wr.frozen? ⟨g3, p, none⟩ = false := by
  obtain ⟨y, hy⟩ : ∃ y, (putI is news A st k)[p]? = some y := ⟨(putI is news A st k)[p]'(by rw [putI_len]; exact hp), List.getElem?_eq_getElem _⟩
  exact ⟨y, h.2.cellAt hy⟩
theorem own_ne_of' {w : World} {b g : Nat} {v : Value} {is : List Int} (h : OwI w b v is) (hg : g < b) : v.ownBlock = none ∨ v.ownBlock ≠ some g := by
  cases hv : v.ownBlock with
  | none => exact .inl rfl
  | some q => exact .inr fun hq => by have := (h.lt q hv).1; injection hq with hq; omega
def PjI (w2 wr : World) (is news : List Int) (A st : Int) (g3 n c3 M gp b k : Nat) : Prop := PuI w2 wr is news A st g3 n c3 k ∧ OwI wr b (.slice (some ⟨gp, 0, none⟩) M M) (plL A st M)
theorem PjI.next {w2 wr : World} {is news : List Int} {A st x : Int} {g3 n c3 M gp b k p : Nat} (h : PjI w2 wr is news A st g3 n c3 M gp b k) (hb : g3 < b) (hx : news[k]? = some x) (he : A + (k : Int) * st = (p : Int)) : PjI w2 (wr.setCell ⟨g3, p, none⟩ (.int .i64 x)) is news A st g3 n c3 M gp b (k + 1) :=
  ⟨h.1.next hx he, h.2.grown (row := some g3) ⟨rfl, rfl, rfl, by simp, fun j _ hj => heap_setCell_other _ ⟨g3, p, none⟩ j _ (fun e => hj (by simp [e]))⟩ (own_ne_of' h.2 hb)⟩
theorem OwI.shape' {w : World} {b : Nat} {v : Value} {is : List Int} (h : OwI w b v is) (hn : 0 < is.length) : ∃ g cap, v = .slice (some ⟨g, 0, none⟩) is.length cap ∧ b ≤ g ∧ g < w.heap.size ∧ is.length ≤ cap := by
  rcases Own.form h with ⟨_, h2⟩ | ⟨g, cap, h1, h2, h3, h4, _⟩
  · have : is = [] := by simpa [iv] using h2
    subst this
    simp at hn
  · rw [iv_len] at h1 h4
    exact ⟨g, cap, h1, h2, h3, h4⟩
theorem clone_any (w : World) (is : List Int) (n : Nat) (a : Option Addr) (cap : Nat) (hn : n = is.length) (h : RdO w (.slice a n cap) is) (hl : n ≤ 1000000) : Calls Try.prog 50 #[.slice a n cap] w (LiP is w) := by
  obtain ⟨aq, cq, e1, _, e3, e4⟩ := h.form
  injection e1 with e1 e2 e5
  subst e1
  rcases e4 with rfl | ⟨g, rfl, hc⟩
  · obtain ⟨q1, q2⟩ := e3 rfl
    subst q1
    refine (Try.slices_Clone_int_nil n cap w).mono ?_
    rintro e w' ⟨rfl, rfl⟩
    exact ⟨_, rfl, Own.nil _ _ _, Below.refl _ _⟩
  · refine (Try.slices_Clone_int g 0 n cap is w (by omega) (by omega) (fun j hj => ?_)).mono ?_
    · have h1 := List.getElem?_eq_getElem hj
      rw [Nat.zero_add, hc j _ h1, List.getD_eq_getElem?_getD, h1]; rfl
    · rintro e w' ⟨v', rfl, ho, _, hb⟩
      refine ⟨v', rfl, ?_, hb⟩
      rw [List.take_of_length_le (by omega)] at ho
      unfold OwI Own
      rw [iv_len, ← hn]
      exact ho
set_option maxHeartbeats 2000000 in
theorem specPut_set (is news : List Int) (v u : Value) (f t st : Int) (hf ht : Bool) (A : Int) (M : Nat) (w : World) (h : RdO w v is) (hu : RdO w u news) (h60 : is.length ≤ 60) (hc : okC f t st hf ht = true) (h2 : news.length ≤ 60) (hst : st ≠ 1) (hne : news.length = M) (hM : M ≤ is.length) (hst2 : -1000000 ≤ st ∧ st ≤ 1000000) (hA : -1 ≤ A ∧ A ≤ 60) (hin : ∀ k, k < M → ∃ p, p < is.length ∧ A + (k : Int) * st = (p : Int)) (hO : ∀ w, Calls Try.prog 45 #[.int .i64 is.length, .agg (cutC f t st hf ht)] w fun e w' => e = .returned (.tuple #[.int .i64 A, .int .i64 (M : Int)]) ∧ Below w.heap.size w w') :
    Calls Try.prog 28 #[v, .agg (cutC f t st hf ht), u] w (LiPb (putI is news A st M) true w) := by
  subst hne
  have HV := Lib.hid h
  have HU := Lib.hid hu
  obtain ⟨a, cap, rfl, hcap, hnil, hz⟩ := h.form
  obtain ⟨a2, cap2, rfl, hcap2, hnil2, hz2⟩ := hu.form
  have HZ1 := Lib.hid hz
  have HZ2 := Lib.hid hz2
  clear h hu hz hz2 hnil hnil2
  obtain ⟨n, hn⟩ : ∃ n, n = is.length := ⟨_, rfl⟩
  obtain ⟨n2, hn2⟩ : ∃ n, n = news.length := ⟨_, rfl⟩
  have HN := Lib.hid hn
  have HN2 := Lib.hid hn2
  rw [← hn] at hcap HV h60 hM hin hO ⊢
  rw [← hn2] at hcap2 HU h2 hM hO hin ⊢
  clear hn hn2
  have HVA := Lib.hid (fun n a cap w => validList_any n a cap w)
  have HC := Lib.hid (fun w => validCut_any f t st hf ht w)
  rw [hc] at HC
  clear hc
  have HO := Lib.hid hO
  clear hO
  unfold cutC at *
  have hdd : decide (n ≤ 60) = true := decide_eq_true h60
  have hd2 : decide (n2 ≤ 60) = true := decide_eq_true (by omega)
  have HX := Lib.hid (show CutAt (w.alloc (Obj.cells #[.int .i64 f, .int .i64 t, .int .i64 st, .bool hf, .bool ht] 32)) w.heap.size f t st hf ht from Blk.new _ _ _ rfl)
  have HB := Lib.hid (show Below w.heap.size w (w.alloc (Obj.cells #[.int .i64 f, .int .i64 t, .int .i64 st, .bool hf, .bool ht] 32)) from (Below.refl _ _).alloc (Nat.le_refl _) _)
  go_enter Try.func28, Try.ntmps28
  go_wp2_with fail
  refine (HVA.out _ _ _ _).mono ?_
  rintro e w' ⟨rfl, rfl⟩
  rw [hdd]
  go_wp2_with fail
  refine (HC.out _).mono ?_
  rintro e w1 ⟨rfl, hb1⟩
  have HX1 := Lib.hid (HX.out.below hb1 HX.out.lt)
  have HB1 := Lib.hid (HB.out.trans (hb1.mono HB.out.size))
  clear hb1
  obtain ⟨c0, c1, c2, c3, c4⟩ := HX1.out.cells
  go_wp2_with fail
  refine (HVA.out _ _ _ _).mono ?_
  rintro e w' ⟨rfl, rfl⟩
  rw [hd2]
  go_wp2_with fail
  refine (HO.out _).mono ?_
  rintro e w2 ⟨rfl, hb2⟩
  have HX2 := Lib.hid (HX1.out.below hb2 HX1.out.lt)
  have HB2 := Lib.hid (HB1.out.trans (hb2.mono HB1.out.size))
  have HV2 := Lib.hid (HV.out.below HB2.out)
  have HU2 := Lib.hid (HU.out.below HB2.out)
  clear hb2 c0 c1 c2 c3 c4
  obtain ⟨c0, c1, c2, c3, c4⟩ := HX2.out.cells
  have HIn := Lib.hid hin
  clear hin
  have HUF := Lib.hid HU2.out.form
  have HX2B := Lib.hid HX2.out.lt
  have HSTP := Lib.hid (And.intro hst2 hA)
  have H0 := Lib.hid (show RmI w2 (w2.alloc (Obj.cells #[] 3)) (.slice (some ⟨w2.heap.size, 0, none⟩) 0 0) [] from ⟨(Below.refl _ _).alloc (Nat.le_refl _) _, World.ownsRow_lit w2 #[] 0 (Nat.le_refl _) (by decide) rfl⟩)
  have HS0 := Lib.hid (show w2.heap.size ≤ (w2.alloc (Obj.cells #[] 3)).heap.size by simp)
  have HLQ := Lib.hid (show ([] : List Int).length + is.length ≤ 1000000 by rw [← HN.out]; simp; omega)
  go_wp2_with (first | (refine ext rfl (.tmp 26) 0 [.int .i64 A, .int .i64 (n2 : Int)] (.int .i64 A) rfl rfl rfl ?_) | (refine ext rfl (.tmp 26) 1 [.int .i64 A, .int .i64 (n2 : Int)] (.int .i64 (n2 : Int)) rfl rfl rfl ?_) | (refine appR (o := ⟨some 61, _, _, _, _, _⟩) rfl (.tmp 59) (.tmp 60) rfl w2.heap.size (.slice (some ⟨w2.heap.size, 0, none⟩) 0 0) (.slice a n cap) [] is rfl rfl H0.out.2 (HV2.out.rd.below H0.out.1) HLQ.out HS0.out ?_; intro v3 w3 ho3 hb3; have H3 := Lib.hid (show RmI w2 w3 v3 is from ⟨H0.out.1.trans hb3, ho3⟩); clear ho3 hb3; (try simp only [Act.put]); (try go_frame); refine park ?_))
  unfold Parked
  by_cases hM0 : n2 = 0
  · obtain ⟨a3, cc4, hv3, hcc4⟩ := H3.out.2.len'
    subst hv3
    subst hM0
    clear c0 c1 c2 c3 c4
    go_wp2_with fail
    go_loopw [12] (fun i wr => i = .int .i64 0 ∧ wr = w3) (fun i _ => (intOf i).toNat)
    case atStart => exact ⟨rfl, rfl⟩
    case round =>
      obtain ⟨rfl, rfl⟩ := hrel
      go_wp2_with fail
      go_ret2
      exact ⟨_, rfl, (show OwI _ _ _ (putI is news A st 0) from H3.out.2).wide HB2.out.size, HB2.out.trans (H3.out.1.mono HB2.out.size)⟩
  · obtain ⟨g3, cc3, hv3, _, _, hc3⟩ := H3.out.2.shape' (by have := HN.out; omega)
    subst hv3
    rw [← HN.out] at H3 hc3 ⊢
    have HP0 := Lib.hid (show PuI w2 w3 is news A st g3 n cc3 0 from H3.out)
    clear c0 c1 c2 c3 c4
    go_wp2_with fail
    go_loopw [12] (fun i wr => ∃ k : Nat, k ≤ n2 ∧ i = .int .i64 (k : Int) ∧ Hid (PuI w2 wr is news A st g3 n cc3 k)) (fun i _ => n2 - (intOf i).toNat)
    case atStart => exact ⟨0, by omega, rfl, HP0⟩
    case round =>
      obtain ⟨k, hk, rfl, HI⟩ := hrel
      by_cases hlt : k < n2
      · obtain ⟨p, hp, he⟩ := HIn.out k hlt
        obtain ⟨x, hx⟩ : ∃ x, news[k]? = some x := ⟨news[k]'(by have := HN2.out; omega), List.getElem?_eq_getElem _⟩
        obtain ⟨g2, rfl, hcell⟩ : ∃ g2, a2 = some ⟨g2, 0, none⟩ ∧ w2.cell? ⟨g2, k, none⟩ = some (.int .i64 x) := by
          rcases HZ2.out with q | ⟨g2, q, _⟩
          · subst q
            obtain ⟨aq, cq, e1, _, e3, _⟩ := HUF.out
            injection e1 with e1 e2
            have := (e3 e1.symm).1
            rw [this] at hx; simp at hx
          · obtain ⟨aq, cq, e1, _, _, e4⟩ := HUF.out
            injection e1 with e1 e2
            rcases e4 with e4 | ⟨g4, e4, e5⟩
            · rw [← e1, q] at e4; cases e4
            · rw [← e1, q] at e4
              injection e4 with e4
              injection e4 with e4
              exact ⟨g2, q, by rw [e4]; exact e5 k x hx⟩
        have d1 : wr.cell? ⟨g2, k, none⟩ = some (.int .i64 x) := by rw [HI.out.1.cell (p := ⟨g2, k, none⟩) (World.block_lt_of_cell? w2 _ hcell)]; exact hcell
        have d2 := (HX2.out.below HI.out.1 HX2B.out).cells.2.2.1
        obtain ⟨y, d3, d4⟩ := HI.out.at (by have := HN.out; omega : p < is.length)
        have HT := Lib.hid (HI.out.next hx he)
        have hP1 : (k : Int) * st ≤ 1000001 := by have := HSTP.out; omega
        have hP0 : -1000000 ≤ (k : Int) * st := by have := HSTP.out; omega
        have k1 : (k : Int) < (n2 : Int) := by omega
        have k0 : 0 ≤ (k : Int) := by omega
        clear hx hcell
        go_wp2_with fail
        go_region
        all_goals (try go_wp2)
        all_goals go_roundw
        case rel => first | exact ⟨k + 1, by omega, by go_num, HT⟩ | exact ⟨k + 1, by omega, by go_num, Lib.hid HT.out.drew⟩
        case measure => simp [intOf]; try omega
      · obtain rfl : k = n2 := by omega
        clear hlt
        go_wp2_with fail
        go_ret2
        exact ⟨_, rfl, HI.out.2.wide HB2.out.size, HB2.out.trans (HI.out.1.mono HB2.out.size)⟩
set_option maxHeartbeats 2000000 in
theorem implPut_set (is news : List Int) (v u : Value) (f t st : Int) (hf ht : Bool) (A : Int) (M : Nat) (w : World) (h : RdO w v is) (hu : RdO w u news) (h60 : is.length ≤ 60) (hc : okC f t st hf ht = true) (h2 : news.length ≤ 1048576) (hst : st ≠ 1) (hne : news.length = M) (hM : M ≤ is.length) (hst2 : -1000000 ≤ st ∧ st ≤ 1000000) (hA : -1 ≤ A ∧ A ≤ 60) (hin : ∀ k, k < M → ∃ p, p < is.length ∧ A + (k : Int) * st = (p : Int)) (hP : ∀ w, Calls Try.prog 47 #[.int .i64 is.length, .agg (cutC f t st hf ht)] w (PlP A st M w)) (hO : ∀ w, Calls Try.prog 39 #[.int .i64 is.length, .agg (cutC f t st hf ht)] w fun e w' => e = .returned (.tuple #[.int .i64 A, .int .i64 (M : Int)]) ∧ Below w.heap.size w w') :
    Calls Try.prog 29 #[v, .agg (cutC f t st hf ht), u] w (LiPb (putI is news A st M) true w) := by
  subst hne
  have HV := Lib.hid h
  have HU := Lib.hid hu
  obtain ⟨a, cap, rfl, hcap, hnil, hz⟩ := h.form
  obtain ⟨a2, cap2, rfl, hcap2, hnil2, hz2⟩ := hu.form
  have HZ1 := Lib.hid hz
  have HZ2 := Lib.hid hz2
  clear h hu hz hz2 hnil hnil2
  obtain ⟨n, hn⟩ : ∃ n, n = is.length := ⟨_, rfl⟩
  obtain ⟨n2, hn2⟩ : ∃ n, n = news.length := ⟨_, rfl⟩
  have HN := Lib.hid hn
  have HN2 := Lib.hid hn2
  rw [← hn] at hcap HV h60 hM hin hO hP ⊢
  rw [← hn2] at hcap2 HU h2 hM hO hin hP ⊢
  clear hn hn2
  have HC := Lib.hid (fun w => cutOk_any f t st hf ht w)
  rw [hc] at HC
  clear hc
  have HO := Lib.hid hO
  clear hO
  unfold cutC at *
  have HX := Lib.hid (show CutAt (w.alloc (Obj.cells #[.int .i64 f, .int .i64 t, .int .i64 st, .bool hf, .bool ht] 32)) w.heap.size f t st hf ht from Blk.new _ _ _ rfl)
  have HB := Lib.hid (show Below w.heap.size w (w.alloc (Obj.cells #[.int .i64 f, .int .i64 t, .int .i64 st, .bool hf, .bool ht] 32)) from (Below.refl _ _).alloc (Nat.le_refl _) _)
  go_enter Try.func29, Try.ntmps29
  go_wp2_with fail
  refine (HC.out _).mono ?_
  rintro e w1 ⟨rfl, hb1⟩
  have HX1 := Lib.hid (HX.out.below hb1 HX.out.lt)
  have HB1 := Lib.hid (HB.out.trans (hb1.mono HB.out.size))
  clear hb1
  obtain ⟨c0, c1, c2, c3, c4⟩ := HX1.out.cells
  go_wp2_with fail
  refine (HO.out _).mono ?_
  rintro e w2 ⟨rfl, hb2⟩
  have HX2 := Lib.hid (HX1.out.below hb2 HX1.out.lt)
  have HB2 := Lib.hid (HB1.out.trans (hb2.mono HB1.out.size))
  have HV2 := Lib.hid (HV.out.below HB2.out)
  have HU2 := Lib.hid (HU.out.below HB2.out)
  clear hb2 c0 c1 c2 c3 c4
  obtain ⟨c0, c1, c2, c3, c4⟩ := HX2.out.cells
  have HIn := Lib.hid hin
  have HP := Lib.hid hP
  clear hin hP
  have HUF := Lib.hid HU2.out.form
  have HX2B := Lib.hid HX2.out.lt
  have HVF := Lib.hid HV2.out.form
  have HCL := Lib.hid (clone_any w2 is n a cap HN.out HV2.out (by omega))
  go_wp2_with (first | (refine ext rfl (.tmp 21) 0 [.int .i64 A, .int .i64 (n2 : Int)] (.int .i64 A) rfl rfl rfl ?_) | (refine ext rfl (.tmp 21) 1 [.int .i64 A, .int .i64 (n2 : Int)] (.int .i64 (n2 : Int)) rfl rfl rfl ?_))
  refine HCL.out.mono ?_
  rintro e w3 ⟨v3, rfl, ho3, hb3⟩
  have H3 := Lib.hid (show RmI w2 w3 v3 is from ⟨hb3, ho3⟩)
  have HX3 := Lib.hid (HX2.out.below hb3 HX2.out.lt)
  clear ho3 hb3 c0 c1 c2 c3 c4
  obtain ⟨c0, c1, c2, c3, c4⟩ := HX3.out.cells
  go_wp2_with fail
  refine (HP.out _).mono ?_
  rintro e w4 ⟨gp, rfl, ho4, hb4⟩
  have HO4 := Lib.hid ho4
  have H4 := Lib.hid (show RmI w2 w4 v3 is from ⟨H3.out.1.trans (hb4.mono H3.out.1.size), H3.out.2.below hb4⟩)
  have HG3 := Lib.hid (fun g hg => (H3.out.2.lt g hg).2)
  clear ho4 hb4 c0 c1 c2 c3 c4
  by_cases hM0 : n2 = 0
  · obtain ⟨a3, cc4, hv3, hcc4⟩ := H4.out.2.len'
    subst hv3
    subst hM0
    go_wp2_with fail
    go_loopw [61] (fun i wr => i = .int .i64 0 ∧ wr = w4) (fun i _ => (intOf i).toNat)
    case atStart => exact ⟨rfl, rfl⟩
    case round =>
      obtain ⟨rfl, rfl⟩ := hrel
      go_wp2_with fail
      go_ret2
      exact ⟨_, rfl, (show OwI _ _ _ (putI is news A st 0) from H4.out.2).wide HB2.out.size, HB2.out.trans (H4.out.1.mono HB2.out.size)⟩
  · obtain ⟨g3, cc3, hv3, _, _, hc3⟩ := H4.out.2.shape' (by have := HN.out; omega)
    subst hv3
    rw [← HN.out] at H4 HG3 hc3 ⊢
    have hg3 : g3 < w3.heap.size := HG3.out g3 rfl
    have HP0 := Lib.hid (show PjI w2 w4 is news A st g3 n cc3 n2 gp w3.heap.size 0 from ⟨H4.out, HO4.out⟩)
    go_wp2_with fail
    go_loopw [61] (fun i wr => ∃ k : Nat, k ≤ n2 ∧ i = .int .i64 (k : Int) ∧ Hid (PjI w2 wr is news A st g3 n cc3 n2 gp w3.heap.size k)) (fun i _ => n2 - (intOf i).toNat)
    case atStart => exact ⟨0, by omega, rfl, HP0⟩
    case round =>
      obtain ⟨k, hk, rfl, HI⟩ := hrel
      by_cases hlt : k < n2
      · obtain ⟨p, hp, he⟩ := HIn.out k hlt
        obtain ⟨x, hx⟩ : ∃ x, news[k]? = some x := ⟨news[k]'(by have := HN2.out; omega), List.getElem?_eq_getElem _⟩
        obtain ⟨g2, rfl, hcell⟩ : ∃ g2, a2 = some ⟨g2, 0, none⟩ ∧ w2.cell? ⟨g2, k, none⟩ = some (.int .i64 x) := by
          rcases HZ2.out with q | ⟨g2, q, _⟩
          · subst q
            obtain ⟨aq, cq, e1, _, e3, _⟩ := HUF.out
            injection e1 with e1 e2
            have := (e3 e1.symm).1
            rw [this] at hx; simp at hx
          · obtain ⟨aq, cq, e1, _, _, e4⟩ := HUF.out
            injection e1 with e1 e2
            rcases e4 with e4 | ⟨g4, e4, e5⟩
            · rw [← e1, q] at e4; cases e4
            · rw [← e1, q] at e4
              injection e4 with e4
              injection e4 with e4
              exact ⟨g2, q, by rw [e4]; exact e5 k x hx⟩
        have d1 : wr.cell? ⟨g2, k, none⟩ = some (.int .i64 x) := by rw [HI.out.1.1.cell (p := ⟨g2, k, none⟩) (World.block_lt_of_cell? w2 _ hcell)]; exact hcell
        have d2 : wr.cell? ⟨gp, k, none⟩ = some (.int .i64 (p : Int)) := by
          rw [← he]
          exact (HI.out.2.cellAt (plL_get hlt)).1
        obtain ⟨y, d3, d4⟩ := HI.out.1.at (by have := HN.out; omega : p < is.length)
        have HT := Lib.hid (HI.out.next hg3 hx he)
        have k1 : (k : Int) < (n2 : Int) := by omega
        have k0 : 0 ≤ (k : Int) := by omega
        clear hx hcell he
        go_wp2_with fail
        go_roundw
        case rel => exact ⟨k + 1, by omega, by go_num, HT⟩
        case measure => simp [intOf]; try omega
      · obtain rfl : k = n2 := by omega
        clear hlt
        go_wp2_with fail
        go_ret2
        exact ⟨_, rfl, HI.out.1.2.wide HB2.out.size, HB2.out.trans (HI.out.1.1.mono HB2.out.size)⟩
end Go.Proofs.Ytbcphejblopekaa
