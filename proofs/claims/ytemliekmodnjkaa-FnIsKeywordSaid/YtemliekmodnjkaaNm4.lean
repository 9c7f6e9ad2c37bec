/- The laws on names and keywords. -/
import Derived.Test.YtemliekmodnjkaaNm3
namespace Go.Proofs.Ytemliekmodnjkaa
open Go.RowKit
theorem kw_last : ∀ k ∈ kwL, k.getLast? ≠ some 49 := by decide
theorem kw_not49 {s : ByteArray} {l : List UInt8} (h : s.data.toList = l ++ [49]) : kwB s = false := by
  cases hk : kwB s with
  | false => rfl
  | true =>
    unfold kwB inL at hk
    obtain ⟨k, hm, he⟩ := List.any_eq_true.1 hk
    rw [ByteArray.toList_eq, h] at he
    have := kw_last k hm
    rw [eq_of_beq he] at this
    simp at this
set_option maxHeartbeats 4000000 in
theorem fnNameOk_walk (a : Option Addr) (n cap : Nat) (zs : List Int) (w : World) (h : (a = none ∧ n = 0 ∧ cap = 0 ∧ zs = []) ∨ ∃ x, a = some x ∧ n ≤ cap ∧ cap ≤ maxLen ∧ zs.length = cap ∧ (∀ i, i < zs.length → w.cell? (x.add i) = some (.int .u8 (zs.getD i 0))) ∧ ∀ n ∈ zs, (Lit.int .u8 n).wf = true) :
    Calls Try.prog 7 #[.slice a n cap] w fun e w' => e = .returned (.bool true) ∧ Below w.heap.size w w' := by
  have HC := Lib.hid (dNameOk w a n cap (cr_of h))
  have hcap : n ≤ 9223372036854775807 := by
    rcases h with ⟨_, rfl, _⟩ | ⟨x, _, h1, h2, _⟩
    · omega
    · unfold maxLen at h2; omega
  clear h
  by_cases h0 : n ≤ 1048576
  · go_enter Try.func7, Try.ntmps7
    go_wp2_with fail
    refine HC.out.mono ?_
    rintro e w2 ⟨s, rfl, hs, hb2⟩
    have HBw2 := Lib.hid hb2
    clear hb2
    obtain ⟨l, rfl⟩ : ∃ l : List UInt8, s = ⟨l.toArray⟩ := ⟨_, as_list s⟩
    have hsl : (⟨l.toArray⟩ : ByteArray).size = l.length := rfl
    have hll : l.length ≤ 400 := by omega
    have H1 := Lib.hid (fun w => nameOk_any ⟨l.toArray⟩ w (by omega))
    have H2 := Lib.hid (fun w => specNameOk_any ⟨l.toArray⟩ w (by omega))
    cases hn : nmB ⟨l.toArray⟩ with
    | false =>
      rw [hn] at H1 H2
      clear hn
      go_wp2_with (first | (go_at_call 10; refine (H1.out _).mono ?_; rintro e w1 ⟨rfl, rfl⟩) | (go_at_call 9; refine (H2.out _).mono ?_; rintro e w3 ⟨rfl, hb⟩; have HB3 := Lib.hid (HBw2.out.trans (hb.mono HBw2.out.size)); clear hb))
      go_ret
      exact ⟨rfl, HB3.out⟩
    | true =>
      have HK := Lib.hid (fun w => isKeyword_any ⟨l.toArray⟩ w)
      rw [nm_not_kw hn] at HK
      by_cases h12 : 12 ≤ l.length
      · rw [hn] at H1 H2
        clear hn
        go_wp2_with (first | (go_at_call 10; refine (H1.out _).mono ?_; rintro e w1 ⟨rfl, rfl⟩) | (go_at_call 9; refine (H2.out _).mono ?_; rintro e w3 ⟨rfl, hb⟩; have HB3 := Lib.hid (HBw2.out.trans (hb.mono HBw2.out.size)); clear hb) | (go_at_call 12; refine (HK.out _).mono ?_; rintro e w1 ⟨rfl, rfl⟩))
        go_ret
        exact ⟨rfl, HB3.out⟩
      · have hlt : l.length < 12 := by omega
        have hm := nm_more (s := ⟨l.toArray⟩) (t := ⟨l.toArray⟩ ++ ⟨#[49]⟩) hn (by omega) (by simp)
        rw [kw_not49 (s := ⟨l.toArray⟩ ++ ⟨#[49]⟩) (l := l) (by simp)] at hm
        have H4 := Lib.hid (fun w => nameOk_any (⟨l.toArray⟩ ++ ⟨#[49]⟩) w (by rw [ByteArray.size_append]; show l.length + 1 ≤ _; omega))
        rw [hm] at H4
        rw [hn] at H1 H2
        clear hn hm
        clear h12
        go_wp2_with fail
        refine (H1.out _).mono ?_
        rintro e w1 ⟨rfl, rfl⟩
        go_wp2_with fail
        refine (H2.out _).mono ?_
        rintro e w3 ⟨rfl, hb⟩
        have HB3 := Lib.hid (HBw2.out.trans (hb.mono HBw2.out.size))
        clear hb
        go_wp2_with fail
        refine (HK.out _).mono ?_
        rintro e w1 ⟨rfl, rfl⟩
        go_wp2_with fail
        refine (H4.out _).mono ?_
        rintro e w1 ⟨rfl, rfl⟩
        go_wp2_with fail
        go_ret
        exact ⟨rfl, HB3.out⟩
  · go_enter Try.func7, Try.ntmps7
    go_wp2_with fail
    go_ret
    exact ⟨rfl, Below.refl _ _⟩
set_option maxHeartbeats 4000000 in
theorem fnIsKeyword_walk (a : Option Addr) (n cap : Nat) (zs : List Int) (w : World) (h : (a = none ∧ n = 0 ∧ cap = 0 ∧ zs = []) ∨ ∃ x, a = some x ∧ n ≤ cap ∧ cap ≤ maxLen ∧ zs.length = cap ∧ (∀ i, i < zs.length → w.cell? (x.add i) = some (.int .u8 (zs.getD i 0))) ∧ ∀ n ∈ zs, (Lit.int .u8 n).wf = true) :
    Calls Try.prog 8 #[.slice a n cap] w fun e w' => e = .returned (.bool true) ∧ Below w.heap.size w w' := by
  have HC := Lib.hid (dIsKeyword w a n cap (cr_of h))
  have hcap : n ≤ 9223372036854775807 := by
    rcases h with ⟨_, rfl, _⟩ | ⟨x, _, h1, h2, _⟩
    · omega
    · unfold maxLen at h2; omega
  clear h
  by_cases h0 : n ≤ 1048576
  · go_enter Try.func8, Try.ntmps8
    go_wp2_with fail
    refine HC.out.mono ?_
    rintro e w2 ⟨s, rfl, hs, hb2⟩
    have HBw2 := Lib.hid hb2
    clear hb2
    obtain ⟨l, rfl⟩ : ∃ l : List UInt8, s = ⟨l.toArray⟩ := ⟨_, as_list s⟩
    have hsl : (⟨l.toArray⟩ : ByteArray).size = l.length := rfl
    have hll : l.length ≤ 400 := by omega
    have H1 := Lib.hid (fun w => isKeyword_any ⟨l.toArray⟩ w)
    have H2 := Lib.hid (fun w => specIsKw_any ⟨l.toArray⟩ w)
    cases hn : kwB ⟨l.toArray⟩ with
    | false =>
      rw [hn] at H1 H2
      clear hn
      go_wp2_with (first | (go_at_call 12; refine (H1.out _).mono ?_; rintro e w1 ⟨rfl, rfl⟩) | (go_at_call 11; refine (H2.out _).mono ?_; rintro e w3 ⟨rfl, hb⟩; have HB3 := Lib.hid (HBw2.out.trans (hb.mono HBw2.out.size)); clear hb))
      go_ret
      exact ⟨rfl, HB3.out⟩
    | true =>
      have hmem : l ∈ kwL := by
        unfold kwB inL at hn
        obtain ⟨k, hk, he⟩ := List.any_eq_true.1 hn
        rw [ByteArray.toList_eq, dl] at he
        rw [← eq_of_beq he]; exact hk
      obtain ⟨m1, m2, m3⟩ := kw_more l hmem
      have hz : (⟨(l ++ [95]).toArray⟩ : ByteArray).size ≤ 1048576 := by show (l ++ [95]).length ≤ _; simp; omega
      have H3 := Lib.hid (fun w => nameOk_any ⟨l.toArray⟩ w (by omega))
      have e95 : (⟨l.toArray⟩ ++ ⟨#[95]⟩ : ByteArray) = ⟨(l ++ [95]).toArray⟩ := by apply ByteArray.ext; simp
      rw [← e95] at m2 m3 hz
      have H4 := Lib.hid (fun w => nameOk_any (⟨l.toArray⟩ ++ ⟨#[95]⟩) w hz)
      have H5 := Lib.hid (fun w => isKeyword_any (⟨l.toArray⟩ ++ ⟨#[95]⟩) w)
      rw [hn] at H1 H2
      rw [m1] at H3
      rw [m2] at H4
      rw [m3] at H5
      clear hn m1 m2 m3 hmem hz e95
      go_wp2_with fail
      refine (H1.out _).mono ?_
      rintro e w1 ⟨rfl, rfl⟩
      go_wp2_with fail
      refine (H2.out _).mono ?_
      rintro e w3 ⟨rfl, hb⟩
      have HB3 := Lib.hid (HBw2.out.trans (hb.mono HBw2.out.size))
      clear hb
      go_wp2_with fail
      refine (H3.out _).mono ?_
      rintro e w1 ⟨rfl, rfl⟩
      go_wp2_with fail
      refine (H4.out _).mono ?_
      rintro e w1 ⟨rfl, rfl⟩
      go_wp2_with fail
      refine (H5.out _).mono ?_
      rintro e w1 ⟨rfl, rfl⟩
      go_wp2_with fail
      go_ret
      exact ⟨rfl, HB3.out⟩
  · go_enter Try.func8, Try.ntmps8
    go_wp2_with fail
    go_ret
    exact ⟨rfl, Below.refl _ _⟩
end Go.Proofs.Ytemliekmodnjkaa
