/- The places that a slice selects: what it selects of n elements, as numbers; the program's list of them. -/
import Derived.Test.YtbcphejblopekaaTCut
import Derived.Test.YtbcphejblopekaaLrooms
namespace Go.Proofs.Ytbcphejblopekaa
open Go.RowKit
/-- What a valid slice selects of n elements. -/
theorem cut_set (n : Nat) (f t st : Int) (hf ht : Bool) (hc : okC f t st hf ht = true) (hn : n ≤ 1000000) : ∃ (A : Int) (M : Nat), (-1 ≤ A ∧ A ≤ n) ∧ M ≤ n ∧ (-1000000 ≤ st ∧ st ≤ 1000000) ∧ st ≠ 0 ∧ (∀ k, k < M → ∃ p, p < n ∧ A + (k : Int) * st = (p : Int)) ∧ A = cFrom (n : Int) f st hf ∧ (M : Int) = cntZ (cFrom (n : Int) f st hf) (cTo (n : Int) t st ht) st := by
  obtain ⟨h1, h2, h3, h0⟩ := okC_parts hc
  obtain ⟨i1, i2, i3⟩ := sel_in (n := (n : Int)) (f := f) (t := t) (hf := hf) (ht := ht) (by omega) h0
  have hA := cFrom_in (n := (n : Int)) (f := f) (s := st) (hf := hf) (by omega)
  obtain ⟨M, hM⟩ : ∃ M : Nat, cntZ (cFrom (n : Int) f st hf) (cTo (n : Int) t st ht) st = (M : Int) := ⟨_, (Int.toNat_of_nonneg i1).symm⟩
  refine ⟨_, M, hA, by omega, h3, h0, fun k hk => ?_, rfl, hM.symm⟩
  obtain ⟨g1, g2⟩ := i3 (k : Int) (by omega) (by omega)
  exact ⟨(cFrom (n : Int) f st hf + (k : Int) * st).toNat, by omega, by omega⟩
theorem cut_spec {n M : Nat} {f t st A : Int} {hf ht : Bool} (hc : okC f t st hf ht = true) (hn : n ≤ 1000000) (hA : A = cFrom (n : Int) f st hf) (hM : (M : Int) = cntZ (cFrom (n : Int) f st hf) (cTo (n : Int) t st ht) st) (w : World) : Calls Try.prog 45 #[.int .i64 n, .agg (cutC f t st hf ht)] w fun e w' => e = .returned (.tuple #[.int .i64 A, .int .i64 M]) ∧ Below w.heap.size w w' := by
  have h := specCutOf_any (n : Int) f t st hf ht w hc (by omega) (by omega)
  unfold rngV at h
  rw [← hM, ← hA] at h
  exact h
theorem cut_impl {n M : Nat} {f t st A : Int} {hf ht : Bool} (hc : okC f t st hf ht = true) (hn : n ≤ 1000000) (hA : A = cFrom (n : Int) f st hf) (hM : (M : Int) = cntZ (cFrom (n : Int) f st hf) (cTo (n : Int) t st ht) st) (w : World) : Calls Try.prog 39 #[.int .i64 n, .agg (cutC f t st hf ht)] w fun e w' => e = .returned (.tuple #[.int .i64 A, .int .i64 M]) ∧ Below w.heap.size w w' := by
  have h := implRange_ok (n : Int) f t st hf ht w hc (by omega) (by omega)
  unfold rngV at h
  rw [← hM, ← hA] at h
  exact h
def PlP (A st : Int) (M : Nat) (w : World) (e : Ending) (w' : World) : Prop := ∃ g, e = .returned (.slice (some ⟨g, 0, none⟩) M M) ∧ OwI w' w.heap.size (.slice (some ⟨g, 0, none⟩) M M) (plL A st M) ∧ Below w.heap.size w w'
def CutAt (w : World) (g : Nat) (f t st : Int) (hf ht : Bool) : Prop := Blk w g 32 #[.int .i64 f, .int .i64 t, .int .i64 st, .bool hf, .bool ht]
theorem CutAt.below {w w' : World} {B g : Nat} {f t st : Int} {hf ht : Bool} (h : CutAt w g f t st hf ht) (hb : Below B w w') (hg : g < B) : CutAt w' g f t st hf ht := Blk.below h hb hg
theorem CutAt.cells {w : World} {g : Nat} {f t st : Int} {hf ht : Bool} (h : CutAt w g f t st hf ht) : w.cell? ⟨g, 0, none⟩ = some (.int .i64 f) ∧ w.cell? ⟨g, 1, none⟩ = some (.int .i64 t) ∧ w.cell? ⟨g, 2, none⟩ = some (.int .i64 st) ∧ w.cell? ⟨g, 3, none⟩ = some (.bool hf) ∧ w.cell? ⟨g, 4, none⟩ = some (.bool ht) := ⟨Blk.cell h 0, Blk.cell h 1, Blk.cell h 2, Blk.cell h 3, Blk.cell h 4⟩
theorem CutAt.lt {w : World} {g : Nat} {f t st : Int} {hf ht : Bool} (h : CutAt w g f t st hf ht) : g < w.heap.size := Blk.lt h
set_option maxHeartbeats 1000000 in
theorem cutPlaces_any (n : Nat) (f t st : Int) (hf ht : Bool) (A : Int) (M : Nat) (w : World) (hn : n ≤ 1000000) (hA : -1 ≤ A ∧ A ≤ n) (hM : M ≤ n)
    (hin : ∀ k, k < M → ∃ p, p < n ∧ A + (k : Int) * st = (p : Int)) (hO : ∀ w, Calls Try.prog 39 #[.int .i64 n, .agg (cutC f t st hf ht)] w fun e w' => e = .returned (.tuple #[.int .i64 A, .int .i64 M]) ∧ Below w.heap.size w w') :
    Calls Try.prog 47 #[.int .i64 n, .agg (cutC f t st hf ht)] w (PlP A st M w) := by
  have HO := Lib.hid hO
  have HIn := Lib.hid hin
  clear hO hin
  unfold cutC at *
  have HX := Lib.hid (show CutAt (w.alloc (Obj.cells #[.int .i64 f, .int .i64 t, .int .i64 st, .bool hf, .bool ht] 32)) w.heap.size f t st hf ht from Blk.new _ _ _ rfl)
  have HB := Lib.hid (show Below w.heap.size w (w.alloc (Obj.cells #[.int .i64 f, .int .i64 t, .int .i64 st, .bool hf, .bool ht] 32)) from (Below.refl _ _).alloc (Nat.le_refl _) _)
  go_enter Try.func47, Try.ntmps47
  go_wp2_with fail
  refine (HO.out _).mono ?_
  rintro e w2 ⟨rfl, hb2⟩
  have HX2 := Lib.hid (HX.out.below hb2 HX.out.lt)
  have HB2 := Lib.hid (HB.out.trans (hb2.mono HB.out.size))
  clear hb2
  go_wp2_with (first | (refine ext rfl (.tmp 9) 0 [.int .i64 A, .int .i64 M] (.int .i64 A) rfl rfl rfl ?_) | (refine ext rfl (.tmp 9) 1 [.int .i64 A, .int .i64 M] (.int .i64 M) rfl rfl rfl ?_) | (refine mkIo rfl (.tmp 15) (.tmp 15) rfl M _ _ rfl rfl rfl rfl (by omega) ?_; intro w3 ho hb3; have HX3 := Lib.hid (HX2.out.below hb3 HX2.out.lt); have H0 := Lib.hid (show TiI w2 w3 (plL A st M) M 0 from ⟨hb3, by rw [List.take_zero, List.nil_append, Nat.sub_zero]; exact ho⟩); clear ho hb3))
  have hlt2 := HX2.out.lt
  have HPL := Lib.hid (plL_len A st M)
  go_loopw [19] (fun i wr => ∃ k : Nat, k ≤ M ∧ i = .int .i64 k ∧ Hid (TiI w2 wr (plL A st M) M k)) (fun i _ => M - (intOf i).toNat)
  case atStart => exact ⟨0, by omega, rfl, H0⟩
  case round =>
    obtain ⟨k, hk, rfl, HI⟩ := hrel
    by_cases hlt : k < M
    · obtain ⟨p, hp, he⟩ := HIn.out k hlt
      have HG := Lib.hid (plL_get (A := A) (st := st) hlt)
      have c2 := (HX2.out.below HI.out.1 hlt2).cells.2.2.1
      obtain ⟨c5, f5⟩ := HI.out.2.cellAt (nu_get HPL.out hlt)
      have HT := Lib.hid (HI.out.next HPL.out HG.out)
      generalize hq : (k : Int) * st = q at *
      have hq1 : q ≤ 1000001 := by omega
      have hq0 : -1000000 ≤ q := by omega
      have hs1 : A + q ≤ 1000000 := by omega
      have hs0 : 0 ≤ A + q := by omega
      rw [← hq] at HT hs0 hs1 hq0 hq1
      clear hq
      clear he
      go_wp2_with fail
      go_roundw
      case rel => exact ⟨k + 1, by omega, by go_num, HT⟩
      case measure => simp [intOf]; try omega
    · obtain rfl : k = M := by omega
      have HF := Lib.hid (HI.out.all HPL.out)
      clear hlt
      go_wp2_with fail
      go_ret
      exact ⟨_, rfl, HF.out.wide HB2.out.size, HB2.out.trans (HI.out.1.mono HB2.out.size)⟩
end Go.Proofs.Ytbcphejblopekaa
