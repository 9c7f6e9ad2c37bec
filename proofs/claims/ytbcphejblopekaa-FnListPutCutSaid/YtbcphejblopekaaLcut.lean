/- The numbers that a slice selects of a list: the model's, the program's. -/
import Derived.Test.YtbcphejblopekaaPl
namespace Go.Proofs.Ytbcphejblopekaa
open Go.RowKit
theorem validList_any (n : Nat) (a : Option Addr) (cap : Nat) (w : World) : Calls Try.prog 43 #[.slice a n cap] w fun e w' => e = .returned (.bool (decide (n ≤ 60))) ∧ w = w' := by
  go_enter Try.func43, Try.ntmps43
  go_wp2
  go_ret
  refine ⟨?_, rfl⟩
  first | rfl | (congr 2; simp; omega) | (simp; omega)
def LcI (w2 wr : World) (g : Nat) (f t st : Int) (hf ht : Bool) (v : Value) (l : List Int) : Prop := Below w2.heap.size w2 wr ∧ OwI wr w2.heap.size v l ∧ CutAt wr g f t st hf ht ∧ g < w2.heap.size
theorem sel_at {n k M : Nat} {A st : Int} (hin : ∀ k, k < M → ∃ p, p < n ∧ A + (k : Int) * st = (p : Int)) (hlt : k < M) : ∃ p, p < n ∧ A + (k : Int) * st = (p : Int) := hin k hlt
set_option maxHeartbeats 1000000 in
theorem specListCut_ok (is : List Int) (v : Value) (f t st : Int) (hf ht : Bool) (A : Int) (M : Nat) (w : World) (h : RdI w v is) (h60 : is.length ≤ 60) (hc : okC f t st hf ht = true) (_hst : -1000000 ≤ st ∧ st ≤ 1000000) (hA : -1 ≤ A ∧ A ≤ is.length) (hM : M ≤ is.length)
    (hin : ∀ k, k < M → ∃ p, p < is.length ∧ A + (k : Int) * st = (p : Int)) (hO : ∀ w, Calls Try.prog 45 #[.int .i64 is.length, .agg (cutC f t st hf ht)] w fun e w' => e = .returned (.tuple #[.int .i64 A, .int .i64 M]) ∧ Below w.heap.size w w') :
    Calls Try.prog 23 #[v, .agg (cutC f t st hf ht)] w (LiP (selI is A st M) w) := by
  obtain ⟨a, cap, rfl, hcap, hnil, hat⟩ := h.sub
  have HA := Lib.hid hat
  have HO := Lib.hid hO
  have HIn := Lib.hid hin
  have HV := Lib.hid (fun n w => validList_any n a cap w)
  have HC := Lib.hid (fun w => validCut_any f t st hf ht w)
  rw [hc] at HC
  clear h hat hnil hO hin hc
  obtain ⟨n, hn⟩ : ∃ n, n = is.length := ⟨_, rfl⟩
  have HN := Lib.hid hn
  rw [← hn] at hcap h60 hA hM HO HIn ⊢
  clear hn
  have hd : decide (n ≤ 60) = true := decide_eq_true h60
  unfold cutC at *
  have HX := Lib.hid (show CutAt (w.alloc (Obj.cells #[.int .i64 f, .int .i64 t, .int .i64 st, .bool hf, .bool ht] 32)) w.heap.size f t st hf ht from Blk.new _ _ _ rfl)
  have HB := Lib.hid (show Below w.heap.size w (w.alloc (Obj.cells #[.int .i64 f, .int .i64 t, .int .i64 st, .bool hf, .bool ht] 32)) from (Below.refl _ _).alloc (Nat.le_refl _) _)
  go_enter Try.func23, Try.ntmps23
  go_wp2_with fail
  refine (HV.out _ _).mono ?_
  rintro e w' ⟨rfl, rfl⟩
  rw [hd]
  go_wp2_with fail
  refine (HC.out _).mono ?_
  rintro e w1 ⟨rfl, hb1⟩
  have HX1 := Lib.hid (HX.out.below hb1 HX.out.lt)
  have HB1 := Lib.hid (HB.out.trans (hb1.mono HB.out.size))
  clear hb1
  obtain ⟨c0, c1, c2, c3, c4⟩ := HX1.out.cells
  go_wp2_with fail
  refine (HO.out _).mono ?_
  rintro e w2 ⟨rfl, hb2⟩
  have HX2 := Lib.hid (HX1.out.below hb2 HX1.out.lt)
  have HB2 := Lib.hid (HB1.out.trans (hb2.mono HB1.out.size))
  clear hb2 c0 c1 c2 c3 c4
  go_wp2_with (first | (refine ext rfl (.tmp 17) 0 [.int .i64 A, .int .i64 M] (.int .i64 A) rfl rfl rfl ?_) | (refine ext rfl (.tmp 17) 1 [.int .i64 A, .int .i64 M] (.int .i64 M) rfl rfl rfl ?_))
  have H0 := Lib.hid (show LcI w2 (w2.alloc (Obj.cells #[] 3)) w.heap.size f t st hf ht (.slice (some ⟨w2.heap.size, 0, none⟩) 0 0) [] from ⟨(Below.refl _ _).alloc (Nat.le_refl _) _, World.ownsRow_lit w2 #[] 0 (Nat.le_refl _) (by decide) rfl, Blk.alloc HX2.out _, HX2.out.lt⟩)
  go_loopw [7, 8] (fun v i wr => ∃ k : Nat, k ≤ M ∧ i = .int .i64 k ∧ Hid (LcI w2 wr w.heap.size f t st hf ht v (selI is A st k))) (fun _ i _ => M - (intOf i).toNat)
  case atStart => exact ⟨0, by omega, rfl, H0⟩
  case round =>
    obtain ⟨k, hk, rfl, HI⟩ := hrel
    by_cases hlt : k < M
    · obtain ⟨p, hp, he⟩ := HIn.out k hlt
      obtain ⟨s, hs⟩ : ∃ s, is[p]? = some s := ⟨is[p]'(by have := HN.out; omega), List.getElem?_eq_getElem _⟩
      obtain ⟨x, rfl, hx⟩ := HA.out p s hs
      have c1 : wr.cell? (x.add p) = some (.int .i64 s) := by rw [HI.out.1.cell (Nat.lt_of_lt_of_le (World.block_lt_of_cell? w _ hx) HB2.out.size), HB2.out.cell (World.block_lt_of_cell? w _ hx)]; exact hx
      have c2 := HI.out.2.2.1.cells.2.2.1
      have HS := Lib.hid (selI_succ hs he)
      have hP1 : (k : Int) * st ≤ 1000001 := by omega
      have hP0 : -1000000 ≤ (k : Int) * st := by omega
      have HL := Lib.hid (show (selI is A st k).length + 1 ≤ 1000000 by rw [selI_len]; omega)
      have HZ := Lib.hid (show w2.heap.size ≤ wr.heap.size from HI.out.1.size)
      clear hx hs
      go_wp2_with (first | (refine appI rfl (.tmp 30) (.tmp 40) rfl wr _ rfl w2.heap.size _ _ rfl rfl HI.out.2.1 HL.out HZ.out ?_; intro v3 w3 ho hb3; have HT := Lib.hid (show LcI w2 w3 w.heap.size f t st hf ht v3 (selI is A st (k + 1)) from ⟨HI.out.1.trans hb3, by rw [HS.out]; exact ho, HI.out.2.2.1.below hb3 HI.out.2.2.2, HI.out.2.2.2⟩); clear ho hb3))
      go_roundw
      case rel => exact ⟨k + 1, by omega, by go_num, HT⟩
      case measure => simp [intOf]; try omega
    · obtain rfl : k = M := by omega
      clear hlt
      go_wp2_with fail
      go_ret
      exact ⟨_, rfl, HI.out.2.1.wide HB2.out.size, HB2.out.trans (HI.out.1.mono HB2.out.size)⟩
theorem specListCut_no (is : List Int) (v : Value) (f t st : Int) (hf ht : Bool) (w : World) (h : RdI w v is) (hl : is.length ≤ 1048576) (hc : 60 < is.length ∨ okC f t st hf ht = false) :
    Calls Try.prog 23 #[v, .agg (cutC f t st hf ht)] w (LiP [] w) := by
  obtain ⟨a, cap, rfl, hcap, hnil, hat⟩ := h.sub
  have HV := Lib.hid (fun n w => validList_any n a cap w)
  have HC := Lib.hid (fun w => validCut_any f t st hf ht w)
  clear h hat hnil
  generalize is.length = n at *
  unfold cutC at *
  have HB := Lib.hid (show Below w.heap.size w (w.alloc (Obj.cells #[.int .i64 f, .int .i64 t, .int .i64 st, .bool hf, .bool ht] 32)) from (Below.refl _ _).alloc (Nat.le_refl _) _)
  by_cases h60 : 60 < n
  · have hd : decide (n ≤ 60) = false := decide_eq_false (by omega)
    clear hc
    go_enter Try.func23, Try.ntmps23
    go_wp2_with fail
    refine (HV.out _ _).mono ?_
    rintro e w' ⟨rfl, rfl⟩
    rw [hd]
    go_wp2_with fail
    go_ret
    exact LiP.nil HB.out
  · have hd : decide (n ≤ 60) = true := decide_eq_true (by omega)
    have hq : okC f t st hf ht = false := hc.resolve_left h60
    rw [hq] at HC
    clear hc hq
    go_enter Try.func23, Try.ntmps23
    go_wp2_with fail
    refine (HV.out _ _).mono ?_
    rintro e w' ⟨rfl, rfl⟩
    rw [hd]
    go_wp2_with fail
    refine (HC.out _).mono ?_
    rintro e w1 ⟨rfl, hb1⟩
    have HB1 := Lib.hid (HB.out.trans (hb1.mono HB.out.size))
    clear hb1
    go_wp2_with fail
    go_ret
    exact LiP.nil HB1.out
theorem implListCut_no (is : List Int) (v : Value) (f t st : Int) (hf ht : Bool) (w : World) (h : RdI w v is) (hl : is.length ≤ 1048576) (hc : 60 < is.length ∨ okC f t st hf ht = false) :
    Calls Try.prog 25 #[v, .agg (cutC f t st hf ht)] w (LiP [] w) := by
  obtain ⟨a, cap, rfl, hcap, hnil, hat⟩ := h.sub
  have HC := Lib.hid (fun w => cutOk_any f t st hf ht w)
  clear h hat hnil
  generalize is.length = n at *
  unfold cutC at *
  have HB := Lib.hid (show Below w.heap.size w (w.alloc (Obj.cells #[.int .i64 f, .int .i64 t, .int .i64 st, .bool hf, .bool ht] 32)) from (Below.refl _ _).alloc (Nat.le_refl _) _)
  by_cases h60 : 60 < n
  · clear hc
    go_enter Try.func25, Try.ntmps25
    go_wp2_with fail
    go_ret
    exact LiP.nil HB.out
  · have hq : okC f t st hf ht = false := hc.resolve_left h60
    rw [hq] at HC
    clear hc hq
    go_enter Try.func25, Try.ntmps25
    go_wp2_with fail
    refine (HC.out _).mono ?_
    rintro e w1 ⟨rfl, hb1⟩
    have HB1 := Lib.hid (HB.out.trans (hb1.mono HB.out.size))
    clear hb1
    go_wp2_with fail
    go_ret
    exact LiP.nil HB1.out
set_option maxHeartbeats 1000000 in
theorem implListCut_ok (is : List Int) (v : Value) (f t st : Int) (hf ht : Bool) (A : Int) (M : Nat) (w : World) (h : RdI w v is) (h60 : is.length ≤ 60) (hc : okC f t st hf ht = true) (hM : M ≤ is.length)
    (hin : ∀ k, k < M → ∃ p, p < is.length ∧ A + (k : Int) * st = (p : Int)) (hP : ∀ w, Calls Try.prog 47 #[.int .i64 is.length, .agg (cutC f t st hf ht)] w (PlP A st M w)) :
    Calls Try.prog 25 #[v, .agg (cutC f t st hf ht)] w (LiP (selI is A st M) w) := by
  obtain ⟨a, cap, rfl, hcap, hnil, hat⟩ := h.sub
  have HA := Lib.hid hat
  have HP := Lib.hid hP
  have HIn := Lib.hid hin
  have HC := Lib.hid (fun w => cutOk_any f t st hf ht w)
  rw [hc] at HC
  clear h hat hnil hP hin hc
  obtain ⟨n, hn⟩ : ∃ n, n = is.length := ⟨_, rfl⟩
  have HN := Lib.hid hn
  rw [← hn] at hcap h60 hM HP HIn ⊢
  clear hn
  unfold cutC at *
  have HX := Lib.hid (show CutAt (w.alloc (Obj.cells #[.int .i64 f, .int .i64 t, .int .i64 st, .bool hf, .bool ht] 32)) w.heap.size f t st hf ht from Blk.new _ _ _ rfl)
  have HB := Lib.hid (show Below w.heap.size w (w.alloc (Obj.cells #[.int .i64 f, .int .i64 t, .int .i64 st, .bool hf, .bool ht] 32)) from (Below.refl _ _).alloc (Nat.le_refl _) _)
  go_enter Try.func25, Try.ntmps25
  go_wp2_with fail
  refine (HC.out _).mono ?_
  rintro e w1 ⟨rfl, hb1⟩
  have HX1 := Lib.hid (HX.out.below hb1 HX.out.lt)
  have HB1 := Lib.hid (HB.out.trans (hb1.mono HB.out.size))
  clear hb1
  obtain ⟨c0, c1, c2, c3, c4⟩ := HX1.out.cells
  go_wp2_with fail
  refine (HP.out _).mono ?_
  rintro e w2 ⟨gp, rfl, ho2, hb2⟩
  have HO2 := Lib.hid ho2
  have HB2 := Lib.hid (HB1.out.trans (hb2.mono HB1.out.size))
  clear ho2 hb2 c0 c1 c2 c3 c4
  go_wp2_with fail
  go_loopw [5, 21] (fun v i wr => ∃ k : Nat, k ≤ M ∧ i = .int .i64 k ∧ Hid (RmI w2 wr v (selI is A st k))) (fun _ i _ => M - (intOf i).toNat)
  case atStart => exact ⟨0, by omega, rfl, Lib.hid ⟨Below.refl _ _, Own.nil _ _ _⟩⟩
  case round =>
    obtain ⟨k, hk, rfl, HI⟩ := hrel
    by_cases hlt : k < M
    · obtain ⟨p, hp, he⟩ := HIn.out k hlt
      obtain ⟨s, hs⟩ : ∃ s, is[p]? = some s := ⟨is[p]'(by have := HN.out; omega), List.getElem?_eq_getElem _⟩
      obtain ⟨x, rfl, hx⟩ := HA.out p s hs
      have c1 : wr.cell? (x.add p) = some (.int .i64 s) := by rw [HI.out.1.cell (Nat.lt_of_lt_of_le (World.block_lt_of_cell? w _ hx) HB2.out.size), HB2.out.cell (World.block_lt_of_cell? w _ hx)]; exact hx
      have c2 : wr.cell? ⟨gp, k, none⟩ = some (.int .i64 (p : Int)) := by
        rw [← he]
        exact ((HO2.out.below HI.out.1).cellAt (plL_get hlt)).1
      have HS := Lib.hid (selI_succ hs he)
      have HL := Lib.hid (show (selI is A st k).length + 1 ≤ 1000000 by rw [selI_len]; omega)
      have HZ := Lib.hid (show w2.heap.size ≤ wr.heap.size from HI.out.1.size)
      clear hx hs he
      go_wp2_with (first | (refine appI rfl (.tmp 25) (.tmp 30) rfl wr _ rfl w2.heap.size _ _ rfl rfl HI.out.2 HL.out HZ.out ?_; intro v3 w3 ho hb3; have HT := Lib.hid (show RmI w2 w3 v3 (selI is A st (k + 1)) from ⟨HI.out.1.trans hb3, by rw [HS.out]; exact ho⟩); clear ho hb3))
      go_roundw
      case rel => exact ⟨k + 1, by omega, by go_num, HT⟩
      case measure => simp [intOf]; try omega
    · obtain rfl : k = M := by omega
      clear hlt
      go_wp2_with fail
      go_ret
      exact ⟨_, rfl, HI.out.2.wide HB2.out.size, HB2.out.trans (HI.out.1.mono HB2.out.size)⟩
end Go.Proofs.Ytbcphejblopekaa
