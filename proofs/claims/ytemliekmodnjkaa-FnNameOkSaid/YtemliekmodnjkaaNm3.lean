/- Names and keywords are drawn; the laws on them. -/
import Derived.Test.YtemliekmodnjkaaNm2
import Derived.Test.YtemliekmodnjkaaDr2
namespace Go.Proofs.Ytemliekmodnjkaa
open Go.RowKit
def wordsL : List ByteArray := [⟨#[97]⟩, ⟨#[98]⟩, ⟨#[120]⟩, ⟨#[102]⟩, ⟨#[120, 115]⟩, ⟨#[95, 49]⟩, ⟨#[78, 97, 109, 101, 57]⟩, ⟨#[105, 102]⟩, ⟨#[78, 111, 110, 101]⟩, ⟨#[108, 97, 109, 98, 100, 97]⟩, ⟨#[49, 97]⟩, ⟨#[]⟩, ⟨#[97, 45, 98]⟩, ⟨#[97, 98, 99, 100, 101, 102, 103, 104, 105, 106, 107, 108]⟩, ⟨#[97, 98, 99, 100, 101, 102, 103, 104, 105, 106, 107, 108, 109]⟩, ⟨#[105, 115]⟩, ⟨#[105, 115, 97]⟩]
theorem wordsL_le : ∀ d ∈ wordsL, d.size ≤ 13 := by decide
def kwT : List ByteArray := kwL.map fun k => ⟨k.toArray⟩
theorem kwT_le : ∀ d ∈ kwT, d.size ≤ 13 := by decide
theorem as_list (d : ByteArray) : d = ⟨d.data.toList.toArray⟩ := by cases d; simp
/-- Some text. -/
def TxT (w : World) (e : Ending) (w' : World) : Prop := ∃ s : ByteArray, e = .returned (.string s) ∧ s.size ≤ 400 ∧ Below w.heap.size w w'
theorem below_row {w w1 w2 : World} {g : Nat} (h : Below w.heap.size w w1) (hg : w1.grownBy w2 (some g)) (hge : w.heap.size ≤ g) : Below w.heap.size w w2 :=
  h.grown hg h.size fun k hk => by injection hk with hk; omega
set_option maxRecDepth 100000 in
set_option maxHeartbeats 4000000 in
theorem word_draw (w : World) (g n cap k : Nat) (a : Option Addr) (h : RI w g a n cap k) (hk : k ≤ 50000) :
    Calls Try.prog 40 #[.pointer (some ⟨g, 0, none⟩)] w (DtP w g a n cap k 1 13) := by
  have HO := Lib.hid (of_litAt (w := w) (b := w.heap.size) wordsL rfl h (by omega) (by decide) (by decide))
  clear h
  go_enter Try.func40, Try.ntmps40
  go_wp2_with fail
  refine HO.out.mono ?_
  rintro e w3 ⟨⟨d, hd, rfl⟩, hD⟩
  have HM := Lib.hid (wordsL_le d hd)
  have HD3 := Lib.hid hD
  clear hd hD
  obtain ⟨m, rfl⟩ : ∃ m : List UInt8, d = ⟨m.toArray⟩ := ⟨_, as_list d⟩
  go_wp2_with fail
  go_ret
  exact ⟨⟨m, rfl, by have := HM.out; simpa [ByteArray.size] using this⟩, HD3.out⟩
theorem kw_draw (w : World) (g n cap k : Nat) (a : Option Addr) (h : RI w g a n cap k) (hk : k ≤ 50000) :
    Calls Try.prog 39 #[.pointer (some ⟨g, 0, none⟩), .slice (some ⟨w.heap.size, 0, none⟩) 31 31] (w.alloc (.cells (kwL.map fun k => Value.string ⟨k.toArray⟩).toArray 9)) fun e w' => (∃ d, d ∈ kwT ∧ e = .returned (.string d)) ∧ DrP w g a n cap k 1 w' := by
  have h1 := of_lit kwT h (by omega) (by decide) (by decide)
  have e1 : kwT.map Value.string = kwL.map fun k => Value.string ⟨k.toArray⟩ := by rw [kwT, List.map_map]; rfl
  rw [e1] at h1
  exact h1
set_option maxHeartbeats 4000000 in
theorem dNameOk (w : World) (a : Option Addr) (n cap : Nat) (h : Cr w a n cap) : Calls Try.prog 24 #[.slice a n cap] w (TxT w) := by
  have HN := Lib.hid (newRnd_any w a n cap h)
  clear h
  go_enter Try.func24, Try.ntmps24
  go_wp2_with fail
  refine HN.out.mono ?_
  rintro e w1 ⟨rfl, hb1, m, hr1⟩
  have HB1 := Lib.hid hb1
  have HR1 := Lib.hid hr1
  clear hb1 hr1
  go_wp2_with fail
  refine (word_draw w1 w.heap.size m cap 0 a HR1.out (by decide)).mono ?_
  rintro e w2 ⟨⟨l, rfl, hl⟩, hg2, k2, hk2, hr2⟩
  have HB2 := Lib.hid (below_row HB1.out hg2 (Nat.le_refl _))
  have HL := Lib.hid hl
  have HR2 := Lib.hid hr2
  clear hl hg2 hr2
  go_wp2_with fail
  refine (keywords_any w2).mono ?_
  rintro e w3 ⟨rfl, rfl⟩
  go_wp2_with fail
  refine (kw_draw w2 w.heap.size m cap k2 a HR2.out (by omega)).mono ?_
  rintro e w4 ⟨⟨d, hd, rfl⟩, hg4, k4, hk4, hr4⟩
  have HB4 := Lib.hid (below_row HB2.out hg4 (Nat.le_refl _))
  have HD := Lib.hid (kwT_le d hd)
  have HR4 := Lib.hid hr4
  clear hd hg4 hr4
  go_wp2_with fail
  refine (of_litAt (w := w4) (b := w4.heap.size) [⟨l.toArray⟩, d] rfl HR4.out (by omega) (by simp) (by simp)).mono ?_
  rintro e w5 ⟨⟨q, hq, rfl⟩, hg5, k5, hk5, hr5⟩
  have HB5 := Lib.hid (below_row HB4.out hg5 (Nat.le_refl _))
  have HQ := Lib.hid (show q.size ≤ 400 by
    rcases List.mem_cons.1 hq with rfl | h
    · have := HL.out; simp [ByteArray.size]; omega
    · rw [List.mem_singleton.1 h]; have := HD.out; omega)
  clear hq hg5 hr5
  go_wp2_with fail
  go_ret
  exact ⟨q, rfl, HQ.out, HB5.out⟩
set_option maxHeartbeats 4000000 in
theorem dIsKeyword (w : World) (a : Option Addr) (n cap : Nat) (h : Cr w a n cap) : Calls Try.prog 25 #[.slice a n cap] w (TxT w) := by
  have HN := Lib.hid (newRnd_any w a n cap h)
  clear h
  go_enter Try.func25, Try.ntmps25
  go_wp2_with fail
  refine HN.out.mono ?_
  rintro e w1 ⟨rfl, hb1, m, hr1⟩
  have HB1 := Lib.hid hb1
  have HR1 := Lib.hid hr1
  clear hb1 hr1
  go_wp2_with fail
  refine (word_draw w1 w.heap.size m cap 0 a HR1.out (by decide)).mono ?_
  rintro e w2 ⟨⟨l, rfl, hl⟩, hg2, k2, hk2, hr2⟩
  have HB2 := Lib.hid (below_row HB1.out hg2 (Nat.le_refl _))
  have HL := Lib.hid hl
  have HR2 := Lib.hid hr2
  clear hl hg2 hr2
  go_wp2_with fail
  refine (keywords_any w2).mono ?_
  rintro e w3 ⟨rfl, rfl⟩
  go_wp2_with fail
  refine (kw_draw w2 w.heap.size m cap k2 a HR2.out (by omega)).mono ?_
  rintro e w4 ⟨⟨d, hd, rfl⟩, hg4, k4, hk4, hr4⟩
  have HB4 := Lib.hid (below_row HB2.out hg4 (Nat.le_refl _))
  have HD := Lib.hid (kwT_le d hd)
  have HR4 := Lib.hid hr4
  clear hd hg4 hr4
  go_wp2_with fail
  refine (of_litAt (w := w4) (b := w4.heap.size) [⟨l.toArray⟩, d] rfl HR4.out (by omega) (by simp) (by simp)).mono ?_
  rintro e w5 ⟨⟨q, hq, rfl⟩, hg5, k5, hk5, hr5⟩
  have HB5 := Lib.hid (below_row HB4.out hg5 (Nat.le_refl _))
  have HQ := Lib.hid (show q.size ≤ 400 by
    rcases List.mem_cons.1 hq with rfl | h
    · have := HL.out; simp [ByteArray.size]; omega
    · rw [List.mem_singleton.1 h]; have := HD.out; omega)
  clear hq hg5 hr5
  go_wp2_with fail
  go_ret
  exact ⟨q, rfl, HQ.out, HB5.out⟩
theorem dl (l : List UInt8) : (⟨l.toArray⟩ : ByteArray).data.toList = l := by simp
/-- A name with one byte more is a name, if it is not too long, or a keyword. -/
theorem nm_more {s t : ByteArray} (h : nmB s = true) (hl : s.size < 12) (ht : t.data.toList = s.data.toList ++ [49]) : nmB t = !kwB t := by
  unfold nmB at h ⊢
  simp only [Bool.and_eq_true, decide_eq_true_eq] at h
  obtain ⟨⟨h1, h2, h3⟩, h4⟩ := h
  have hz : t.size = s.size + 1 := by
    have := congrArg List.length ht
    rw [len_data, List.length_append, len_data] at this
    simpa using this
  have hh : t.data.toList.head? = s.data.toList.head? := by
    rw [ht, head_at (by omega), List.head?_append, head_at (by omega)]; rfl
  have e1 : decide (1 ≤ t.size ∧ t.size ≤ 12) = true := by simp; omega
  rw [e1, hh, ht, List.all_append, h2]
  rw [Bool.not_eq_true'] at h3
  rw [h3]
  rfl
theorem kw_more : ∀ k ∈ kwL, nmB ⟨k.toArray⟩ = false ∧ nmB ⟨(k ++ [95]).toArray⟩ = true ∧ kwB ⟨(k ++ [95]).toArray⟩ = false := by decide +kernel
theorem nm_not_kw {s : ByteArray} (h : nmB s = true) : kwB s = false := by
  unfold nmB at h
  simp only [Bool.and_eq_true] at h
  simpa using h.2
end Go.Proofs.Ytemliekmodnjkaa
