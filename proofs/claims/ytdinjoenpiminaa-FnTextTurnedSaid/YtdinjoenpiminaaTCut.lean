/- The bytes that a slice selects of a text: the model's, the program's, the law. -/
import Derived.Test.YtdinjoenpiminaaRange2
import Derived.Test.YtdinjoenpiminaaMany
import Derived.OwnWalk
namespace Go.Proofs.Ytdinjoenpiminaa
open Go.RowKit
/-- The first k bytes that are selected. -/
def selL (s : ByteArray) (A st : Int) (k : Nat) : List UInt8 := (List.range k).map fun i : Nat => s.data.toList.getD (A + (i : Int) * st).toNat 0
theorem selL_len (s : ByteArray) (A st : Int) (k : Nat) : (selL s A st k).length = k := by simp [selL]
theorem selL_succ {s : ByteArray} {A st : Int} {k p : Nat} (hp : p < s.size) (h : A + (k : Int) * st = (p : Int)) : selL s A st (k + 1) = selL s A st k ++ [s[p]] := by
  have hl : p < s.data.toList.length := hp
  have e : s.data.toList.getD p 0 = s[p] := by rw [List.getD_eq_getElem?_getD, List.getElem?_eq_getElem hl]; rfl
  unfold selL
  rw [List.range_succ, List.map_append]
  simp only [List.map_cons, List.map_nil]
  rw [h, Int.toNat_natCast, e]
theorem bv_snoc (l : List UInt8) (c : UInt8) (z : Int) (h : z = (c.toNat : Int)) : bv l ++ [.int .u8 z] = bv (l ++ [c]) := by subst h; simp [bv]
theorem bv_len (l : List UInt8) : (bv l).length = l.length := by simp [bv]
/-- All that is selected is there. -/
theorem sel_in {n f t s : Int} {hf ht : Bool} (hn : 0 ≤ n) (h0 : s ≠ 0) : 0 ≤ cntZ (cFrom n f s hf) (cTo n t s ht) s ∧ cntZ (cFrom n f s hf) (cTo n t s ht) s ≤ n ∧ ∀ i : Int, 0 ≤ i → i < cntZ (cFrom n f s hf) (cTo n t s ht) s → 0 ≤ cFrom n f s hf + i * s ∧ cFrom n f s hf + i * s < n := by
  by_cases hs : s < 0
  · have hA : cFrom n f s hf ≤ n - 1 := by
      unfold cFrom cLo cHi
      simp only [hs, if_true]
      have := clampZ_in (i := f) (n := n) (lo := -1) (hi := n - 1) (by omega)
      cases hf <;> simp <;> omega
    have hB : -1 ≤ cTo n t s ht := by
      unfold cTo cLo cHi
      simp only [hs, if_true]
      have := clampZ_in (i := t) (n := n) (lo := -1) (hi := n - 1) (by omega)
      cases ht <;> simp <;> omega
    generalize cFrom n f s hf = A at *
    generalize cTo n t s ht = B at *
    obtain ⟨u, rfl⟩ : ∃ u, s = -u := ⟨-s, by omega⟩
    unfold cntZ
    rw [if_neg (by omega)]
    by_cases h : B < A
    · rw [if_pos h, Int.neg_neg]
      have hq := quot_in (x := A - B - 1) (u := u) (by omega) (by omega)
      have hmul := Int.ediv_mul_le (A - B - 1) (b := u) (by omega)
      refine ⟨by omega, by omega, fun i h1 h2 => ?_⟩
      have h3 : i * u ≤ (A - B - 1) / u * u := Int.mul_le_mul_of_nonneg_right (by omega) (by omega)
      have h4 : 0 ≤ i * u := Int.mul_nonneg h1 (by omega)
      rw [Int.mul_neg]
      omega
    · rw [if_neg h]
      exact ⟨by omega, by omega, fun i h1 h2 => by omega⟩
  · have hA : 0 ≤ cFrom n f s hf := by
      unfold cFrom cLo cHi
      simp only [hs, if_false]
      have := clampZ_in (i := f) (n := n) (lo := 0) (hi := n) (by omega)
      cases hf <;> simp <;> omega
    have hB : cTo n t s ht ≤ n := by
      unfold cTo cLo cHi
      simp only [hs, if_false]
      have := clampZ_in (i := t) (n := n) (lo := 0) (hi := n) (by omega)
      cases ht <;> simp <;> omega
    generalize cFrom n f s hf = A at *
    generalize cTo n t s ht = B at *
    unfold cntZ
    rw [if_pos (by omega)]
    by_cases h : A < B
    · rw [if_pos h]
      have hq := quot_in (x := B - A - 1) (u := s) (by omega) (by omega)
      have hmul := Int.ediv_mul_le (B - A - 1) (b := s) (by omega)
      refine ⟨by omega, by omega, fun i h1 h2 => ?_⟩
      have h3 : i * s ≤ (B - A - 1) / s * s := Int.mul_le_mul_of_nonneg_right (by omega) (by omega)
      have h4 : 0 ≤ i * s := Int.mul_nonneg h1 (by omega)
      omega
    · rw [if_neg h]
      exact ⟨by omega, by omega, fun i h1 h2 => by omega⟩
def TcI (w wr : World) (s : ByteArray) (A st : Int) (k : Nat) (b : Nat) (v : Value) : Prop := Below w.heap.size w wr ∧ w.heap.size ≤ b ∧ b ≤ wr.heap.size ∧ Own wr b 5 v (bv (selL s A st k))
theorem tc_next {w wr w' : World} {s : ByteArray} {A st : Int} {k b p : Nat} {v v' : Value} (h : TcI w wr s A st k b v) (hp : p < s.size) (he : A + (k : Int) * st = (p : Int)) (ho : Own w' b 5 v' (bv (selL s A st k) ++ [.int .u8 (s[p].toNat : Int)])) (hb : Below b wr w') : TcI w w' s A st (k + 1) b v' := by
  refine ⟨h.1.trans (hb.mono h.2.1), h.2.1, Nat.le_trans h.2.2.1 hb.size, ?_⟩
  rw [bv_snoc _ _ _ rfl, ← selL_succ hp he] at ho
  exact ho
set_option maxHeartbeats 2000000 in
theorem textCut_walk (s : ByteArray) (f t st : Int) (hf ht : Bool) (A : Int) (M : Nat) (w : World) (hs : s.size ≤ 400) (_hst : -1000000 ≤ st ∧ st ≤ 1000000) (hA : -1 ≤ A ∧ A ≤ 400) (hM : M ≤ s.size)
    (hin : ∀ k, k < M → ∃ p, p < s.size ∧ A + (k : Int) * st = (p : Int)) (hO : ∀ w, Calls Try.prog 60 #[.int .i64 s.size, .agg (cutC f t st hf ht)] w fun e w' => e = .returned (.tuple #[.int .i64 A, .int .i64 M]) ∧ Below w.heap.size w w') :
    Calls Try.prog 39 #[.string s, .agg (cutC f t st hf ht)] w fun e w' => e = .returned (.string ⟨(selL s A st M).toArray⟩) ∧ Below w.heap.size w w' := by
  have HO := Lib.hid hO
  have HIn := Lib.hid hin
  clear hO hin
  unfold cutC at *
  have HX := Lib.hid (show Blk (w.alloc (Obj.cells #[.int .i64 f, .int .i64 t, .int .i64 st, .bool hf, .bool ht] 25)) w.heap.size 25 #[.int .i64 f, .int .i64 t, .int .i64 st, .bool hf, .bool ht] from Blk.new _ _ _ rfl)
  have HB := Lib.hid (show Below w.heap.size w (w.alloc (Obj.cells #[.int .i64 f, .int .i64 t, .int .i64 st, .bool hf, .bool ht] 25)) from (Below.refl _ _).alloc (Nat.le_refl _) _)
  go_enter Try.func39, Try.ntmps39
  go_wp2_with fail
  refine (HO.out _).mono ?_
  rintro e w2 ⟨rfl, hb2⟩
  have HX2 := Lib.hid (HX.out.below hb2 HX.out.lt)
  have HB2 := Lib.hid (HB.out.trans (hb2.mono HB.out.size))
  clear hb2
  go_wp2_with (first | (refine ext rfl (.tmp 9) 0 [.int .i64 A, .int .i64 M] (.int .i64 A) rfl rfl rfl ?_) | (refine ext rfl (.tmp 9) 1 [.int .i64 A, .int .i64 M] (.int .i64 M) rfl rfl rfl ?_))
  have hlt2 := HX2.out.lt
  have H0 := Lib.hid (show TcI w (w2.alloc (Obj.cells #[] 5)) s A st 0 w2.heap.size (.slice (some ⟨w2.heap.size, 0, none⟩) 0 0) from ⟨HB2.out.alloc (by omega) _, by omega, by simp, World.ownsRow_lit w2 #[] 0 (Nat.le_refl _) (by decide) rfl⟩)
  go_loopw [7, 8] (fun v i wr => ∃ k : Nat, k ≤ M ∧ i = .int .i64 k ∧ Hid (TcI w wr s A st k w2.heap.size v ∧ Blk wr w.heap.size 25 #[.int .i64 f, .int .i64 t, .int .i64 st, .bool hf, .bool ht])) (fun _ i _ => M - (intOf i).toNat)
  case atStart => exact ⟨0, by omega, rfl, Lib.hid ⟨H0.out, HX2.out.alloc _⟩⟩
  case round =>
    obtain ⟨k, hk, rfl, HI⟩ := hrel
    by_cases hlt : k < M
    · obtain ⟨p, hp, he⟩ := HIn.out k hlt
      have hP1 : (k : Int) * st ≤ 1000000 := by omega
      have hP0 : -1000000 ≤ (k : Int) * st := by omega
      have c2 := HI.out.2.cell 2
      have HE := Lib.hid he
      have HL := Lib.hid (show (selL s A st k).length + 1 ≤ 1000 by rw [selL_len]; omega)
      have HKX := Lib.hid HI.out.2
      have HZ := Lib.hid (show w2.heap.size ≤ wr.heap.size from HI.out.1.2.2.1)
      go_wp2_with (first | (refine app1 rfl (.tmp 22) (.tmp 31) 28 5 (.int .u8 0) 1 rfl Try.underlying28 (by kernel_rfl) rfl (by decide) wr wr _ rfl w2.heap.size _ _ rfl rfl HI.out.1.2.2.2 rfl ?_ HZ.out (Below.refl _ _) ?_; (have := HL.out; rw [bv_len]; omega); intro v3 w3 ho hb3 _; have HT := Lib.hid (show TcI w w3 s A st (k + 1) w2.heap.size v3 ∧ Blk w3 w.heap.size 25 #[.int .i64 f, .int .i64 t, .int .i64 st, .bool hf, .bool ht] from ⟨tc_next HI.out.1 hp HE.out ho hb3, HKX.out.below hb3 hlt2⟩); clear ho hb3))
      go_roundw
      case rel => exact ⟨k + 1, by omega, by go_num, HT⟩
      case measure => simp [intOf]; try omega
    · obtain rfl : k = M := by omega
      clear hlt
      go_wp2_with (first | (refine (puts_text 28 9 5 (.tmp 33) rfl Try.underlying28 Try.underlying5 Try.underlying9 w2.heap.size _ (selL s A st k) rfl HI.out.1.2.2.2).gives.plain rfl ?_))
      go_ret
      exact ⟨rfl, HI.out.1.1⟩
end Go.Proofs.Ytdinjoenpiminaa
