/- Lists of numbers that a call made: what is written into them, and is there again. -/
import Derived.Test.YtplpgcbdbmfffaaIlD
namespace Go.Proofs.Ytplpgcbdbmfffaa
open Go.RowKit
/-- What was written into a list: numbers counted up. -/
def UpV (w : World) (b : Nat) (v : Value) (m : Int) (n : Nat) : Prop := (n = 0 ∧ v = .slice none 0 0) ∨ ∃ g c, v = .slice (some ⟨g, 0, none⟩) n c ∧ b ≤ g ∧ Up w g 3 m n n
theorem UpV.below {w w' : World} {b : Nat} {v : Value} {m : Int} {n : Nat} (h : UpV w b v m n) (hb : Below w.heap.size w w') : UpV w' b v m n := by
  rcases h with h | ⟨g, c, h1, h2, h3⟩
  · exact .inl h
  · refine .inr ⟨g, c, h1, h2, h3.below hb ?_⟩
    obtain ⟨cs, h4, _⟩ := h3
    exact h4.lt
theorem OwI.up {w : World} {b g n cap : Nat} {is : List Int} (m : Int) (h : OwI w b (.slice (some ⟨g, 0, none⟩) n cap) is) : Up w g 3 m n 0 := by
  rcases h.2 with ⟨h1, _⟩ | ⟨g', cap', cur, hv, _, hh, hn, _, hs, ht⟩
  · cases h1
  · injection hv with hv1 hv2 hv3
    injection hv1 with hv1
    injection hv1 with hv1
    subst hv1
    refine ⟨cur, hh, fun j hj => ?_, fun j hj => absurd hj (Nat.not_lt_zero _)⟩
    have hj2 : j < (iv is).length := by omega
    have e : (iv is)[j]? = cur[j]? := by
      rw [← ht, List.getElem?_take, if_pos (by omega)]
      simp
    rw [← e]
    unfold iv
    rw [List.getElem?_map]
    rw [iv_len] at hj2
    rw [List.getElem?_eq_getElem hj2]
    exact ⟨_, rfl⟩
theorem markIntS_nil (m : Int) (w : World) : Calls Try.prog 29 #[.slice none 0 0, .int .i64 m] w fun e w' => e = .returned (.int .i64 m) ∧ w = w' := by
  go_enter Try.func29, Try.ntmps29
  go_wp2_with fail
  go_loop [1, 5] (fun v i => v = .int .i64 m ∧ i = .int .i64 0) (fun _ i => (intOf i).toNat)
  case atStart => exact ⟨rfl, rfl⟩
  case round =>
    obtain ⟨rfl, rfl⟩ := hrel
    go_wp2_with fail
    go_ret
    exact ⟨rfl, rfl⟩
theorem heldIntS_nil (m : Int) (w : World) : Calls Try.prog 30 #[.slice none 0 0, .int .i64 m] w fun e w' => e = .returned (.int .i64 m) ∧ w = w' := by
  go_enter Try.func30, Try.ntmps30
  go_wp2_with fail
  go_loop [1, 5] (fun v i => v = .int .i64 m ∧ i = .int .i64 0) (fun _ i => (intOf i).toNat)
  case atStart => exact ⟨rfl, rfl⟩
  case round =>
    obtain ⟨rfl, rfl⟩ := hrel
    go_wp2_with fail
    go_ret
    exact ⟨rfl, rfl⟩
theorem mk_grown {w wr : World} {g : Nat} {t : TypeId} {m : Int} {n k : Nat} (h : MkI w wr g t m n k) : w.grownBy wr (some g) :=
  ⟨h.1.os, h.1.tape, h.1.output, h.1.size, fun j hj hne => h.2.2 j hj (fun e => hne (by rw [e]))⟩
/-- A list of the call's own is marked. -/
theorem mark_own {b : Nat} {v : Value} {is : List Int} (m : Int) (w : World) (h : OwI w b v is) (hm0 : 0 ≤ m) (hm : m ≤ 1048576) (hl : is.length ≤ 1048576) :
    Calls Try.prog 29 #[v, .int .i64 m] w fun e w' => e = .returned (.int .i64 (m + (is.length : Int))) ∧ UpV w' b v m is.length ∧ w.grownBy w' v.ownBlock := by
  rcases Own.form h with ⟨rfl, h2⟩ | ⟨g, cap, rfl, hb, hlt, _, _⟩
  · have h3 : is = [] := by simpa [iv] using h2
    subst h3
    refine (markIntS_nil m w).mono ?_
    rintro e w' ⟨rfl, rfl⟩
    exact ⟨by simp, .inl ⟨rfl, rfl⟩, World.grownBy.refl _ _⟩
  · rw [iv_len] at h ⊢
    refine (markIntS_any g cap is.length 3 m w (h.up m) hm0 hm hl).mono ?_
    rintro e w' ⟨rfl, hk⟩
    exact ⟨rfl, .inr ⟨g, cap, rfl, hb, hk.2.1⟩, mk_grown hk⟩
theorem held_up {b n : Nat} {v : Value} (m : Int) (w : World) (h : UpV w b v m n) (hm0 : 0 ≤ m) (hm : m ≤ 1048576) (hl : n ≤ 1048576) :
    Calls Try.prog 30 #[v, .int .i64 m] w fun e w' => e = .returned (.int .i64 (m + (n : Int))) ∧ w = w' := by
  rcases h with ⟨rfl, rfl⟩ | ⟨g, c, rfl, _, hu⟩
  · refine (heldIntS_nil m w).mono ?_
    rintro e w' ⟨rfl, rfl⟩
    exact ⟨by simp, rfl⟩
  · exact heldIntS_any g c n 3 m w hu hm0 hm hl
end Go.Proofs.Ytplpgcbdbmfffaa
