/- The laws on ListRoom and RunLeast. -/
import Derived.Test.YtbcphejblopekaaDrL
namespace Go.Proofs.Ytbcphejblopekaa
open Go.RowKit
theorem room_law {z : Int} (h0 : 0 ≤ z) (h1 : z ≤ 1000000) : z ≤ roomZ z ∧ roomZ z ≤ z + z / 8 + 6 ∧ 0 ≤ roomZ z ∧ (roomA (z + 1) < 0 ∨ roomZ z ≤ roomA (z + 1)) ∧ -1 ≤ roomA (z + 1) ∧ roomA (z + 1) ≤ 2000000 := by
  have h := roomZ_in h0 h1
  refine ⟨h.1, ?_, h.2.2, ?_, ?_, ?_⟩
  · unfold roomZ; split <;> omega
  · unfold roomA
    by_cases h2 : 0 ≤ z + 1 ∧ z + 1 ≤ 1000000
    · rw [if_pos h2]
      right
      unfold roomZ
      split <;> split <;> omega
    · rw [if_neg h2]; left; omega
  · unfold roomA
    split
    · rename_i h2
      have := roomZ_in h2.1 h2.2
      omega
    · omega
  · unfold roomA
    split
    · rename_i h2
      have := roomZ_in h2.1 h2.2
      omega
    · omega
set_option maxHeartbeats 1000000 in
theorem fnListRoom_walk (a : Option Addr) (n cap : Nat) (zs : List Int) (w : World) (h : (a = none ∧ n = 0 ∧ cap = 0 ∧ zs = []) ∨ ∃ x, a = some x ∧ n ≤ cap ∧ cap ≤ maxLen ∧ zs.length = cap ∧ (∀ i, i < zs.length → w.cell? (x.add i) = some (.int .u8 (zs.getD i 0))) ∧ ∀ n ∈ zs, (Lit.int .u8 n).wf = true) :
    Calls Try.prog 9 #[.slice a n cap] w fun e w' => e = .returned (.bool true) ∧ Below w.heap.size w w' := by
  have HC := Lib.hid (dListRoom w a n cap (cr_of h))
  have hcap : n ≤ 9223372036854775807 := by
    rcases h with ⟨_, rfl, _⟩ | ⟨x, _, h1, h2, _⟩
    · omega
    · unfold maxLen at h2; omega
  clear h
  by_cases h0 : n ≤ 1048576
  · go_enter Try.func9, Try.ntmps9
    go_wp2_with fail
    refine HC.out.mono ?_
    rintro e w2 ⟨z, rfl, ⟨hz1, hz2⟩, hb2⟩
    have HB := Lib.hid hb2
    clear hb2 HC
    go_wp2_with fail
    refine (implRoom_any _ _).mono ?_
    rintro e w' ⟨rfl, rfl⟩
    go_wp2_with fail
    refine (specRoom_any _ _).mono ?_
    rintro e w' ⟨rfl, rfl⟩
    by_cases hz : 0 ≤ z ∧ z ≤ 1000000
    · obtain ⟨q1, q2, q3, q4, q5, q6⟩ := room_law hz.1 hz.2
      have e1 : roomA z = roomZ z := by unfold roomA; rw [if_pos hz]
      obtain ⟨z1, z2⟩ := hz
      rw [e1]
      clear e1 hz1 hz2
      have HR := Lib.hid (implRoom_any (z + 1))
      generalize roomZ z = r at *
      generalize roomA (z + 1) = r2 at *
      go_wp2_with fail
      refine (HR.out _).mono ?_
      rintro e w' ⟨rfl, rfl⟩
      rcases q4 with q4 | q4
      · go_wp2_with fail
        go_ret
        exact ⟨rfl, HB.out⟩
      · have q5' : 0 ≤ r2 := by omega
        go_wp2_with fail
        go_ret
        exact ⟨rfl, HB.out⟩
    · have e1 : roomA z = -1 := by unfold roomA; rw [if_neg hz]
      rw [e1]
      clear e1 hz
      go_wp2_with fail
      go_ret
      exact ⟨rfl, HB.out⟩
  · go_enter Try.func9, Try.ntmps9
    go_wp2_with fail
    go_ret
    exact ⟨rfl, Below.refl _ _⟩
set_option maxHeartbeats 1000000 in
theorem fnRunLeast_walk (a : Option Addr) (n cap : Nat) (zs : List Int) (w : World) (h : (a = none ∧ n = 0 ∧ cap = 0 ∧ zs = []) ∨ ∃ x, a = some x ∧ n ≤ cap ∧ cap ≤ maxLen ∧ zs.length = cap ∧ (∀ i, i < zs.length → w.cell? (x.add i) = some (.int .u8 (zs.getD i 0))) ∧ ∀ n ∈ zs, (Lit.int .u8 n).wf = true) :
    Calls Try.prog 10 #[.slice a n cap] w fun e w' => e = .returned (.bool true) ∧ Below w.heap.size w w' := by
  have HC := Lib.hid (dRunLeast w a n cap (cr_of h))
  have hcap : n ≤ 9223372036854775807 := by
    rcases h with ⟨_, rfl, _⟩ | ⟨x, _, h1, h2, _⟩
    · omega
    · unfold maxLen at h2; omega
  clear h
  by_cases h0 : n ≤ 1048576
  · go_enter Try.func10, Try.ntmps10
    go_wp2_with fail
    refine HC.out.mono ?_
    rintro e w2 ⟨z, rfl, ⟨hz1, hz2⟩, hb2⟩
    have HB := Lib.hid hb2
    clear hb2 HC
    go_wp2_with fail
    refine (implLeast_any _ _).mono ?_
    rintro e w' ⟨rfl, rfl⟩
    go_wp2_with fail
    refine (specLeast_any _ _).mono ?_
    rintro e w' ⟨rfl, rfl⟩
    by_cases hz : 0 ≤ z ∧ z ≤ 1000000
    · obtain ⟨m, rfl⟩ : ∃ m : Nat, z = (m : Int) := ⟨z.toNat, by omega⟩
      rw [leastA_ok (by omega)]
      clear hz1 hz2
      by_cases h8 : m < 8
      · rw [leastN_lt h8, Nat.add_zero]
        go_wp2_with fail
        go_ret
        exact ⟨rfl, HB.out⟩
      · obtain ⟨q1, q2⟩ := leastN_in m 0 (by omega) (by omega)
        generalize leastN m 0 = r at *
        have k8 : 8 ≤ (m : Int) := by omega
        clear h8
        go_wp2_with fail
        go_ret
        exact ⟨congrArg (fun b => Ending.returned (Value.bool b)) (decide_eq_true (p := (r : Int) ≤ 8) (by omega)), HB.out⟩
    · have e1 : leastA z = -1 := by unfold leastA; rw [if_neg hz]
      rw [e1]
      clear e1 hz
      go_wp2_with fail
      go_ret
      exact ⟨rfl, HB.out⟩
  · go_enter Try.func10, Try.ntmps10
    go_wp2_with fail
    go_ret
    exact ⟨rfl, Below.refl _ _⟩
end Go.Proofs.Ytbcphejblopekaa
