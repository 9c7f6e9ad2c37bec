/- Lists of numbers: whether two are the same, numbers written to them, and held against them. -/
import Derived.Test.YtplpgcbdbmfffaaBytes
namespace Go.Proofs.Ytplpgcbdbmfffaa
open Go.RowKit
/-- Block g begins with these numbers. -/
def Ci (w : World) (g : Nat) (is : List Int) : Prop := ∀ (j : Nat) (i : Int), is[j]? = some i → w.cell? ⟨g, j, none⟩ = some (.int .i64 i)
theorem Ci.below {w w' : World} {B g : Nat} {is : List Int} (h : Ci w g is) (hb : Below B w w') (hg : g < B) : Ci w' g is := fun j s hj => by
  rw [hb.cell hg]
  exact h j s hj
set_option maxHeartbeats 2000000 in
theorem eqIntS_any (is : List Int) (g1 g2 c1 c2 : Nat) (w : World) (h1 : Ci w g1 is) (h2 : Ci w g2 is) (hl : is.length ≤ 1048576) :
    Calls Try.prog 28 #[.slice (some ⟨g1, 0, none⟩) is.length c1, .slice (some ⟨g2, 0, none⟩) is.length c2] w fun e w' => e = .returned (.bool true) ∧ Below w.heap.size w w' := by
  have HA := Lib.hid h1
  have HB := Lib.hid h2
  clear h1 h2
  obtain ⟨n, hn⟩ : ∃ n, n = is.length := ⟨_, rfl⟩
  have HN := Lib.hid hn
  rw [← hn] at hl ⊢
  clear hn
  go_enter Try.func28, Try.ntmps28
  go_wp2_with fail
  go_loopw [5] (fun i wr => ∃ k m : Nat, k ≤ n ∧ i = .int .i64 k ∧ wr = w.drewN m) (fun i _ => n - (intOf i).toNat)
  case atStart => exact ⟨0, 0, by omega, rfl, rfl⟩
  case round =>
    obtain ⟨k, m, hk, rfl, rfl⟩ := hrel
    by_cases hlt : k < n
    · obtain ⟨s, hs⟩ : ∃ s, is[k]? = some s := ⟨is[k]'(by have := HN.out; omega), List.getElem?_eq_getElem _⟩
      have d1 : w.cell? ⟨g1, k, none⟩ = some (.int .i64 s) := HA.out k s hs
      have d2 : w.cell? ⟨g2, k, none⟩ = some (.int .i64 s) := HB.out k s hs
      have k1 : (k : Int) < (n : Int) := by omega
      have k0 : 0 ≤ (k : Int) := by omega
      clear hs
      go_wp2_with fail
      go_quiet (fail)
      go_wp2_with fail
      go_roundw
      case rel => exact ⟨k + 1, _, by omega, by go_num, rfl⟩
      case measure => simp [intOf]; try omega
    · obtain rfl : k = n := by omega
      clear hlt
      go_wp2_with fail
      go_ret
      exact ⟨rfl, ⟨rfl, rfl, rfl, Nat.le_refl _, fun _ _ => rfl⟩⟩
/-- Block g holds n numbers, the first k of them counted up from m. -/
def Up (w : World) (g : Nat) (t : TypeId) (m : Int) (n k : Nat) : Prop := ∃ cs, Blk w g t cs ∧ (∀ j, j < n → ∃ i : Int, cs[j]? = some (.int .i64 i)) ∧ ∀ j, j < k → cs[j]? = some (.int .i64 (m + (j : Int)))
theorem Up.cell {w : World} {g : Nat} {t : TypeId} {m : Int} {n k j : Nat} (h : Up w g t m n k) (hj : j < n) : ∃ i : Int, w.cell? ⟨g, j, none⟩ = some (.int .i64 i) := by
  obtain ⟨cs, h1, h2, _⟩ := h
  obtain ⟨i, hi⟩ := h2 j hj
  exact ⟨i, by rw [h1.cell]; exact hi⟩
theorem Up.free {w : World} {g : Nat} {t : TypeId} {m : Int} {n k : Nat} (h : Up w g t m n k) (j : Nat) : w.frozen? ⟨g, j, none⟩ = false := by
  obtain ⟨cs, h1, _⟩ := h
  exact h1.free j
theorem Up.at {w : World} {g : Nat} {t : TypeId} {m : Int} {n k j : Nat} (h : Up w g t m n k) (hj : j < k) : w.cell? ⟨g, j, none⟩ = some (.int .i64 (m + (j : Int))) := by
  obtain ⟨cs, h1, _, h3⟩ := h
  rw [h1.cell]; exact h3 j hj
theorem Up.next {w : World} {g : Nat} {t : TypeId} {m : Int} {n k : Nat} (h : Up w g t m n k) (hk : k < n) : Up (w.setCell ⟨g, k, none⟩ (.int .i64 (m + (k : Int)))) g t m n (k + 1) := by
  obtain ⟨cs, h1, h2, h3⟩ := h
  have hs : k < cs.size := by
    obtain ⟨i, hi⟩ := h2 k hk
    rcases Nat.lt_or_ge k cs.size with h4 | h4
    · exact h4
    · rw [Array.getElem?_eq_none h4] at hi; cases hi
  refine ⟨_, h1.set k _, ?_, ?_⟩
  · intro j hj
    rw [Array.getElem?_setIfInBounds]
    by_cases e : k = j
    · subst e; rw [if_pos rfl, if_pos hs]; exact ⟨_, rfl⟩
    · rw [if_neg e]; exact h2 j hj
  · intro j hj
    rw [Array.getElem?_setIfInBounds]
    by_cases e : k = j
    · subst e; rw [if_pos rfl, if_pos hs]
    · rw [if_neg e]; exact h3 j (by omega)
theorem Up.below {w w' : World} {B g : Nat} {t : TypeId} {m : Int} {n k : Nat} (h : Up w g t m n k) (hb : Below B w w') (hg : g < B) : Up w' g t m n k := by
  obtain ⟨cs, h1, h2⟩ := h
  exact ⟨cs, h1.below hb hg, h2⟩
/-- While a list is marked. -/
def MkI (w wr : World) (g : Nat) (t : TypeId) (m : Int) (n k : Nat) : Prop := Below g w wr ∧ Up wr g t m n k ∧ ∀ j, j < w.heap.size → j ≠ g → wr.heap[j]? = w.heap[j]?
theorem MkI.next {w wr : World} {g : Nat} {t : TypeId} {m : Int} {n k : Nat} (h : MkI w wr g t m n k) (hk : k < n) : MkI w (wr.setCell ⟨g, k, none⟩ (.int .i64 (m + (k : Int)))) g t m n (k + 1) := ⟨h.1.setCell (Nat.le_refl _) _, h.2.1.next hk, fun j hj hne => (Below.heap_setCell _ _ _ _ hne).trans (h.2.2 j hj hne)⟩
set_option maxHeartbeats 2000000 in
theorem markIntS_any (g c n : Nat) (t : TypeId) (m : Int) (w : World) (h : Up w g t m n 0) (hm0 : 0 ≤ m) (hm : m ≤ 1048576) (hl : n ≤ 1048576) :
    Calls Try.prog 29 #[.slice (some ⟨g, 0, none⟩) n c, .int .i64 m] w fun e w' => e = .returned (.int .i64 (m + (n : Int))) ∧ MkI w w' g t m n n := by
  have H0 := Lib.hid (show MkI w w g t m n 0 from ⟨Below.refl _ _, h, fun _ _ _ => rfl⟩)
  clear h
  go_enter Try.func29, Try.ntmps29
  go_wp2_with fail
  go_loopw [1, 5] (fun v i wr => ∃ k : Nat, k ≤ n ∧ i = .int .i64 k ∧ v = .int .i64 (m + (k : Int)) ∧ Hid (MkI w wr g t m n k)) (fun _ i _ => n - (intOf i).toNat)
  case atStart => exact ⟨0, by omega, rfl, by simp, H0⟩
  case round =>
    obtain ⟨k, hk, rfl, rfl, HI⟩ := hrel
    by_cases hlt : k < n
    · obtain ⟨i, hc⟩ := HI.out.2.1.cell hlt
      have hf := HI.out.2.1.free k
      have HT := Lib.hid (HI.out.next hlt)
      have k1 : (k : Int) < (n : Int) := by omega
      have k0 : 0 ≤ (k : Int) := by omega
      go_wp2_with fail
      go_roundw
      case rel => exact ⟨k + 1, by omega, by go_num, by go_num, HT⟩
      case measure => simp [intOf]; try omega
    · obtain rfl : k = n := by omega
      clear hlt
      go_wp2_with fail
      go_ret
      exact ⟨rfl, HI.out⟩
set_option maxHeartbeats 2000000 in
theorem heldIntS_any (g c n : Nat) (t : TypeId) (m : Int) (w : World) (h : Up w g t m n n) (hm0 : 0 ≤ m) (hm : m ≤ 1048576) (hl : n ≤ 1048576) :
    Calls Try.prog 30 #[.slice (some ⟨g, 0, none⟩) n c, .int .i64 m] w fun e w' => e = .returned (.int .i64 (m + (n : Int))) ∧ w = w' := by
  have H0 := Lib.hid h
  clear h
  go_enter Try.func30, Try.ntmps30
  go_wp2_with fail
  go_loop [1, 5] (fun v i => ∃ k : Nat, k ≤ n ∧ i = .int .i64 k ∧ v = .int .i64 (m + (k : Int))) (fun _ i => n - (intOf i).toNat)
  case atStart => exact ⟨0, by omega, rfl, by simp⟩
  case round =>
    obtain ⟨k, hk, rfl, rfl⟩ := hrel
    by_cases hlt : k < n
    · have hc := H0.out.at hlt
      have k1 : (k : Int) < (n : Int) := by omega
      have k0 : 0 ≤ (k : Int) := by omega
      go_wp2_with fail
      go_round
      case rel => exact ⟨k + 1, by omega, by go_num, by go_num⟩
      case measure => simp [intOf]; try omega
    · obtain rfl : k = n := by omega
      clear hlt
      go_wp2_with fail
      go_ret
      exact ⟨rfl, rfl⟩
theorem markEntryS_nil (m : Int) (w : World) : Calls Try.prog 55 #[.slice none 0 0, .int .i64 m] w fun e w' => e = .returned (.int .i64 m) ∧ w = w' := by
  go_enter Try.func55, Try.ntmps55
  go_wp2_with fail
  go_loop [1, 5] (fun v i => v = .int .i64 m ∧ i = .int .i64 0) (fun _ i => (intOf i).toNat)
  case atStart => exact ⟨rfl, rfl⟩
  case round =>
    obtain ⟨rfl, rfl⟩ := hrel
    go_wp2_with fail
    go_ret
    exact ⟨rfl, rfl⟩
theorem heldEntryS_nil (m : Int) (w : World) : Calls Try.prog 56 #[.slice none 0 0, .int .i64 m] w fun e w' => e = .returned (.int .i64 m) ∧ w = w' := by
  go_enter Try.func56, Try.ntmps56
  go_wp2_with fail
  go_loop [1, 5] (fun v i => v = .int .i64 m ∧ i = .int .i64 0) (fun _ i => (intOf i).toNat)
  case atStart => exact ⟨rfl, rfl⟩
  case round =>
    obtain ⟨rfl, rfl⟩ := hrel
    go_wp2_with fail
    go_ret
    exact ⟨rfl, rfl⟩
theorem eqEntryS_nil (w : World) : Calls Try.prog 54 #[.slice none 0 0, .slice none 0 0] w fun e w' => e = .returned (.bool true) ∧ w = w' := by
  go_enter Try.func54, Try.ntmps54
  go_wp2_with fail
  go_loop [5] (fun i => i = .int .i64 0) (fun i => (intOf i).toNat)
  case atStart => exact rfl
  case round =>
    obtain rfl := hrel
    go_wp2_with fail
    go_ret
    exact ⟨rfl, rfl⟩
end Go.Proofs.Ytplpgcbdbmfffaa
