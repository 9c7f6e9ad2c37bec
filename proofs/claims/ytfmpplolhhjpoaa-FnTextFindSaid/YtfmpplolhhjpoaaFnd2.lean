/- Where a part occurs in a text: the program's TextFind, the model's, the law. -/
import Derived.Test.YtfmpplolhhjpoaaFnd
import Derived.Test.YtfmpplolhhjpoaaShelf
namespace Go.Proofs.Ytfmpplolhhjpoaa
open Go.RowKit
/-- The variable of the library that strings.Index reads holds some number. -/
def MxL (w : World) : Prop := ∃ m : Int, w.cell? ⟨0, 0, none⟩ = some (.int .i64 m)
theorem MxL.below {w w' : World} (h : MxL w) (hb : Below w.heap.size w w') : MxL w' := by
  obtain ⟨m, hm⟩ := h
  exact ⟨m, by rw [hb.cell (World.block_lt_of_cell? w _ hm)]; exact hm⟩
theorem fnd_zero (s p : List UInt8) : fndV s p 0 = Lib.index s p := by
  unfold fndV
  rw [List.drop_zero]
  by_cases h : Lib.index s p = -1
  · rw [if_pos h, h]
  · rw [if_neg h]; simp
/-- What TextFind answers. -/
def fV (s p : ByteArray) : Int := if (okT s && okT p) = true then Lib.index s.data.toList p.data.toList else -1
theorem fV_in (s p : ByteArray) : -1 ≤ fV s p ∧ fV s p ≤ s.size := by
  unfold fV
  split
  · exact ⟨Lib.index_ge _ _, Lib.index_le _ _⟩
  · omega
theorem all_two (s p : ByteArray) : [s, p].all okT = (okT s && okT p) := by simp
set_option maxHeartbeats 1000000 in
theorem implFind_any (s p : ByteArray) (w : World) (hm : MxL w) (hs : s.size ≤ 1048576) : Calls Try.prog 16 #[.string s, .string p] w fun e w' => e = .returned (.int .i64 (fV s p)) ∧ Below w.heap.size w w' := by
  have HV := Lib.hid (fun w => areTexts_any [s, p] _ _ (RdS.two w s p) (by simp))
  rw [all_two] at HV
  have HB := Lib.hid (show Below w.heap.size w (w.alloc (Obj.cells #[.string s, .string p] 9)) from (Below.refl _ _).alloc (Nat.le_refl _) _)
  have HM := Lib.hid hm
  clear hm
  cases hok : (okT s && okT p) with
  | false =>
    have HE := Lib.hid (show fV s p = -1 by unfold fV; rw [hok]; rfl)
    rw [HE.out]
    rw [hok] at HV
    clear hok
    go_enter Try.func16, Try.ntmps16
    go_wp2_with (first | (go_at_call 47; refine (HV.out _).mono ?_; rintro e w1 ⟨rfl, hw⟩; have HB1 := Lib.hid (show Below w.heap.size w w1 from hw ▸ HB.out); clear hw))
    go_ret
    exact ⟨rfl, HB1.out⟩
  | true =>
    have HE := Lib.hid (show fV s p = Lib.index s.data.toList p.data.toList by unfold fV; rw [hok]; rfl)
    rw [HE.out]
    rw [hok] at HV
    clear hok
    generalize hz : Lib.index s.data.toList p.data.toList = z
    have HZ := Lib.hid hz
    clear hz HE
    go_enter Try.func16, Try.ntmps16
    go_wp2_with (first | (go_at_call 47; refine (HV.out _).mono ?_; rintro e w1 ⟨rfl, hw⟩; have HB1 := Lib.hid (show Below w.heap.size w w1 from hw ▸ HB.out); clear hw))
    obtain ⟨m, hm⟩ := HM.out.below HB1.out
    have HI := Lib.hid (Try.strings_Index s p m w1 (by omega) hm)
    rw [HZ.out] at HI
    clear hm
    go_wp2_with fail
    refine HI.out.mono ?_
    rintro e w2 ⟨rfl, hw⟩
    have HB2 := Lib.hid (show Below w.heap.size w w2 from hw ▸ HB1.out)
    clear hw
    go_wp2_with fail
    go_ret
    exact ⟨rfl, HB2.out⟩
set_option maxHeartbeats 1000000 in
theorem specFind_any (s p : ByteArray) (w : World) (hs : s.size ≤ 1048576) (hp : p.size ≤ 1048576) : Calls Try.prog 15 #[.string s, .string p] w fun e w' => e = .returned (.int .i64 (fV s p)) ∧ w = w' := by
  have H1 := Lib.hid (fun w => validText_any s w hs)
  have H2 := Lib.hid (fun w => validText_any p w hp)
  cases h1 : okT s with
  | false =>
    have HE := Lib.hid (show fV s p = -1 by unfold fV; rw [h1]; rfl)
    rw [HE.out]
    rw [h1] at H1
    clear h1
    go_enter Try.func15, Try.ntmps15
    go_wp2_with fail
    refine (H1.out _).mono ?_
    rintro e w' ⟨rfl, rfl⟩
    go_wp2_with fail
    go_ret
    exact ⟨rfl, rfl⟩
  | true =>
    cases h2 : okT p with
    | false =>
      have HE := Lib.hid (show fV s p = -1 by unfold fV; rw [h1, h2]; rfl)
      rw [HE.out]
      rw [h1] at H1
      rw [h2] at H2
      clear h1 h2
      go_enter Try.func15, Try.ntmps15
      go_wp2_with fail
      refine (H1.out _).mono ?_
      rintro e w' ⟨rfl, rfl⟩
      go_wp2_with fail
      refine (H2.out _).mono ?_
      rintro e w' ⟨rfl, rfl⟩
      go_wp2_with fail
      go_ret
      exact ⟨rfl, rfl⟩
    | true =>
      have HF := Lib.hid (fun w => textFind_any s p 0 w hs hp (Nat.zero_le _))
      rw [fnd_zero] at HF
      have HE := Lib.hid (show fV s p = Lib.index s.data.toList p.data.toList by unfold fV; rw [h1, h2]; rfl)
      rw [HE.out]
      rw [h1] at H1
      rw [h2] at H2
      clear h1 h2
      generalize Lib.index s.data.toList p.data.toList = z at *
      go_enter Try.func15, Try.ntmps15
      go_wp2_with fail
      refine (H1.out _).mono ?_
      rintro e w' ⟨rfl, rfl⟩
      go_wp2_with fail
      refine (H2.out _).mono ?_
      rintro e w' ⟨rfl, rfl⟩
      go_wp2_with fail
      refine (HF.out _).mono ?_
      rintro e w' ⟨rfl, rfl⟩
      go_wp2_with fail
      go_ret
      exact ⟨rfl, rfl⟩
set_option maxHeartbeats 1000000 in
theorem exactTextFind_walk (a0 a1 : ByteArray) (w0 : a0.size ≤ maxLen) (w1 : a1.size ≤ maxLen) (w : World) (hm : MxL w) :
    Calls Try.prog 3 #[.string a0, .string a1] w fun e w' => e = .returned (.bool true) ∧ Below w.heap.size w w' := by
  unfold maxLen at w0 w1
  by_cases h0 : a0.size ≤ 1048576
  · by_cases h1 : a1.size ≤ 1048576
    · have H1 := Lib.hid (fun w => specFind_any a0 a1 w h0 h1)
      have H2 := Lib.hid (implFind_any a0 a1 w hm h0)
      have hz := fV_in a0 a1
      generalize fV a0 a1 = z at *
      clear hm
      go_enter Try.func3, Try.ntmps3
      go_wp2_with fail
      refine (H1.out _).mono ?_
      rintro e w' ⟨rfl, rfl⟩
      go_wp2_with fail
      refine H2.out.mono ?_
      rintro e w3 ⟨rfl, hb3⟩
      have HB3 := Lib.hid hb3
      clear hb3
      go_wp2_with fail
      go_ret
      exact ⟨rfl, HB3.out⟩
    · clear hm
      go_enter Try.func3, Try.ntmps3
      go_wp2_with fail
      go_ret
      exact ⟨rfl, Below.refl _ _⟩
  · clear hm
    go_enter Try.func3, Try.ntmps3
    go_wp2_with fail
    go_ret
    exact ⟨rfl, Below.refl _ _⟩
end Go.Proofs.Ytfmpplolhhjpoaa
