/- Keywords and names: the program's functions, by their contracts. -/
import Derived.Test.YtemliekmodnjkaaTxt
namespace Go.Proofs.Ytemliekmodnjkaa
open Go.RowKit
def kwL : List (List UInt8) := [[78, 111, 110, 101], [84, 114, 117, 101], [70, 97, 108, 115, 101], [97, 110, 100], [111, 114], [110, 111, 116], [105, 110], [105, 115], [105, 102], [101, 108, 105, 102], [101, 108, 115, 101], [119, 104, 105, 108, 101], [102, 111, 114], [98, 114, 101, 97, 107], [99, 111, 110, 116, 105, 110, 117, 101], [112, 97, 115, 115], [100, 101, 102], [114, 101, 116, 117, 114, 110], [108, 97, 109, 98, 100, 97], [99, 108, 97, 115, 115], [116, 114, 121], [101, 120, 99, 101, 112, 116], [102, 105, 110, 97, 108, 108, 121], [114, 97, 105, 115, 101], [97, 115], [103, 108, 111, 98, 97, 108], [110, 111, 110, 108, 111, 99, 97, 108], [121, 105, 101, 108, 100], [105, 109, 112, 111, 114, 116], [100, 101, 108], [97, 115, 115, 101, 114, 116]]
/-- Whether a text is one of some. -/
def inL (L : List (List UInt8)) (s : ByteArray) : Bool := L.any fun k => k == s.toList
/-- Whether a text is a keyword. -/
def kwB (s : ByteArray) : Bool := inL kwL s
set_option maxHeartbeats 4000000 in
theorem isKeyword_any (s : ByteArray) (w : World) : Calls Try.prog 12 #[.string s] w fun e w' => e = .returned (.bool (kwB s)) ∧ w = w' := by
  go_enter Try.func12, Try.ntmps12
  go_wp2_with fail
  all_goals
    go_ret
    refine ⟨?_, rfl⟩
    simp_all [kwB, inL, kwL, BEq.comm]
/-- Whether a byte is a digit, a letter, or may stand in a name. -/
def dgB (c : Nat) : Bool := decide (48 ≤ c ∧ c ≤ 57)
def ltB (c : Nat) : Bool := decide (97 ≤ c ∧ c ≤ 122 ∨ 65 ≤ c ∧ c ≤ 90)
def wdB (c : Nat) : Bool := ltB c || dgB c || c == 95
theorem isDigit_any (c : Nat) (w : World) : Calls Try.prog 27 #[.int .u8 c] w fun e w' => e = .returned (.bool (dgB c)) ∧ w = w' := by
  go_enter Try.func27, Try.ntmps27
  go_wp2_with fail
  all_goals
    go_ret
    refine ⟨?_, rfl⟩
    refine congrArg (fun b => Ending.returned (.bool b)) ?_
    rw [Bool.eq_iff_iff]
    simp [dgB]
    try omega
theorem isLetter_any (c : Nat) (w : World) : Calls Try.prog 45 #[.int .u8 c] w fun e w' => e = .returned (.bool (ltB c)) ∧ w = w' := by
  go_enter Try.func45, Try.ntmps45
  go_wp2_with fail
  all_goals
    go_ret
    refine ⟨?_, rfl⟩
    refine congrArg (fun b => Ending.returned (.bool b)) ?_
    rw [Bool.eq_iff_iff]
    simp [ltB]
    try omega
theorem digit_any (c : Nat) (w : World) : Calls Try.prog 43 #[.int .u8 c] w fun e w' => e = .returned (.bool (dgB c)) ∧ w = w' := by
  go_enter Try.func43, Try.ntmps43
  go_wp2_with fail
  all_goals
    go_ret
    refine ⟨?_, rfl⟩
    refine congrArg (fun b => Ending.returned (.bool b)) ?_
    rw [Bool.eq_iff_iff]
    simp [dgB]
    try omega
theorem letter_any (c : Nat) (w : World) : Calls Try.prog 42 #[.int .u8 c] w fun e w' => e = .returned (.bool (ltB c || c == 95)) ∧ w = w' := by
  go_enter Try.func42, Try.ntmps42
  go_wp2_with fail
  all_goals
    go_ret
    refine ⟨?_, rfl⟩
    refine congrArg (fun b => Ending.returned (.bool b)) ?_
    rw [Bool.eq_iff_iff]
    simp [ltB]
    try omega
set_option maxHeartbeats 1000000 in
theorem isOne_any (L : List (List UInt8)) (b cap : Nat) (s : ByteArray) (w : World) (hL : L.length ≤ 1000) (hr : ∀ j k, L[j]? = some k → w.cell? ⟨b, j, none⟩ = some (.string ⟨k.toArray⟩)) :
    Calls Try.prog 46 #[.slice (some ⟨b, 0, none⟩) L.length cap, .string s] w fun e w' => e = .returned (.bool (inL L s)) ∧ w = w' := by
  have HR := Lib.hid hr
  clear hr
  generalize hn : L.length = n at *
  have HN := Lib.hid hn
  clear hn
  go_enter Try.func46, Try.ntmps46
  go_wp2_with fail
  go_loop [5] (fun i => ∃ k : Nat, k ≤ n ∧ i = .int .i64 k ∧ Hid (inL (L.take k) s = false)) (fun i => n - (intOf i).toNat)
  case atStart => exact ⟨0, by omega, rfl, Lib.hid rfl⟩
  case round =>
    obtain ⟨k, hk, rfl, HK⟩ := hrel
    by_cases hlt : k < n
    · obtain ⟨q, hq⟩ : ∃ q, L[k]? = some q := ⟨L[k]'(by have := HN.out; omega), List.getElem?_eq_getElem _⟩
      have c1 := HR.out k q hq
      cases hb : (q == s.toList) with
      | true =>
        have HE := Lib.hid (show inL L s = true from List.any_eq_true.2 ⟨q, List.mem_of_getElem? hq, hb⟩)
        clear hq
        go_wp2_with fail
        go_ret
        exact ⟨by rw [HE.out]; rfl, rfl⟩
      | false =>
        have HK2 := Lib.hid (show inL (L.take (k + 1)) s = false by
          have hk' : k < L.length := by have := HN.out; omega
          rw [List.getElem?_eq_getElem hk'] at hq
          injection hq with hq
          have h0 := HK.out
          unfold inL at h0 ⊢
          rw [List.take_succ_eq_append_getElem hk', List.any_append, h0, hq]
          simp [hb])
        clear hq
        go_wp2_with fail
        go_round
        case rel => exact ⟨k + 1, by omega, by go_num, HK2⟩
        case measure => simp [intOf]; try omega
    · have HE := Lib.hid (show inL L s = false by have h0 := HK.out; rwa [List.take_of_length_le (by have := HN.out; omega)] at h0)
      have hge : n ≤ k := by omega
      clear hlt
      go_wp2_with fail
      go_ret
      exact ⟨by rw [HE.out]; rfl, rfl⟩
set_option maxRecDepth 100000 in
theorem keywords_any (w : World) : Calls Try.prog 41 #[] w fun e w' => e = .returned (.slice (some ⟨w.heap.size, 0, none⟩) 31 31) ∧ w' = w.alloc (.cells (kwL.map fun k => Value.string ⟨k.toArray⟩).toArray 9) := by
  go_enter Try.func41, Try.ntmps41
  go_wp2_with fail
  go_ret
  exact ⟨rfl, rfl⟩
theorem specIsKeyword_any (s : ByteArray) (w : World) : Calls Try.prog 29 #[.string s] w fun e w' => e = .returned (.bool (kwB s)) ∧ Below w.heap.size w w' := by
  have H1 := Lib.hid (fun w => keywords_any w)
  go_enter Try.func29, Try.ntmps29
  go_wp2_with fail
  refine (H1.out _).mono ?_
  rintro e w1 ⟨rfl, rfl⟩
  have H2 := Lib.hid (isOne_any kwL w.heap.size 31 s (w.alloc (.cells (kwL.map fun k => Value.string ⟨k.toArray⟩).toArray 9)) (by decide) (fun j k hj => by rw [(Blk.newest w _ _).cell j]; simp [hj]))
  go_wp2_with fail
  refine H2.out.mono ?_
  rintro e w2 ⟨rfl, rfl⟩
  go_wp2_with fail
  go_ret
  exact ⟨rfl, (Below.refl _ _).alloc (Nat.le_refl _) _⟩
end Go.Proofs.Ytemliekmodnjkaa
