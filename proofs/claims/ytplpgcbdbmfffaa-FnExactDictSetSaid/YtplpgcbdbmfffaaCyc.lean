/- The rule by which slots are looked at goes through all of them, once the rest is 0. -/
import Derived.Test.YtplpgcbdbmfffaaDok1
namespace Go.Proofs.Ytplpgcbdbmfffaa
/-- The next slot when the rest is 0. -/
def nx0 (m i : Nat) : Nat := (5 * i + 1) % m
/-- After so many steps. -/
def it0 (m : Nat) : Nat → Nat → Nat
  | 0, i => i
  | t + 1, i => it0 m t (nx0 m i)
theorem it0_add (m s t i : Nat) : it0 m (s + t) i = it0 m t (it0 m s i) := by
  induction s generalizing i with
  | zero => simp [it0]
  | succ s ih => rw [Nat.succ_add]; exact ih (nx0 m i)
/-- The slots in the order of the rule, from one on. -/
def orb (m : Nat) : Nat → Nat → List Nat
  | 0, _ => []
  | t + 1, i => i :: orb m t (nx0 m i)
theorem orb_mem {m n i j : Nat} (h : j ∈ orb m n i) : ∃ t, t < n ∧ it0 m t i = j := by
  induction n generalizing i with
  | zero => cases h
  | succ n ih =>
    rcases List.mem_cons.1 h with rfl | h
    · exact ⟨0, by omega, rfl⟩
    · obtain ⟨t, h1, h2⟩ := ih h
      exact ⟨t + 1, by omega, h2⟩
theorem orb_all : ∀ m ∈ [8, 16, 32, 64, 128], (∀ j, j < m → j ∈ orb m m 0) ∧ it0 m m 0 = 0 := by decide +kernel
theorem slotN_mem {m : Nat} (h : slotN m = true) : m ∈ [8, 16, 32, 64, 128] := by
  unfold slotN at h
  simp at h
  simp
  omega
/-- Each slot is come to from each one. -/
theorem all_come {m : Nat} (h : slotN m = true) {i j : Nat} (hi : i < m) (hj : j < m) : ∃ t, t < m ∧ it0 m t i = j := by
  obtain ⟨h1, h2⟩ := orb_all m (slotN_mem h)
  obtain ⟨p, hp, rfl⟩ := orb_mem (h1 i hi)
  obtain ⟨q, hq, rfl⟩ := orb_mem (h1 j hj)
  rcases Nat.lt_or_ge q p with hlt | hge
  · refine ⟨m - p + q, by omega, ?_⟩
    rw [← it0_add, show p + (m - p + q) = m + q by omega, it0_add, h2]
  · refine ⟨q - p, by omega, ?_⟩
    rw [← it0_add, show p + (q - p) = q by omega]
/-- The slots that are looked at, and the rest, after so many steps. -/
def pr (m : Nat) (h : Nat) : Nat → Nat × Nat
  | 0 => (h % m, h)
  | t + 1 => ((5 * (pr m h t).1 + (pr m h t).2 / 8 + 1) % m, (pr m h t).2 / 8)
theorem pr_lt {m h : Nat} (hm : 0 < m) (t : Nat) : (pr m h t).1 < m := by
  cases t <;> exact Nat.mod_lt _ hm
theorem pr_rest (m h t : Nat) : (pr m h t).2 = h / 8 ^ t := by
  induction t with
  | zero => simp [pr]
  | succ t ih => show (pr m h t).2 / 8 = _; rw [ih, Nat.pow_succ, Nat.div_div_eq_div_mul]
theorem pr_zero {m h : Nat} (hh : h < 65536) {t : Nat} (ht : 6 ≤ t) : (pr m h t).2 = 0 := by
  rw [pr_rest]
  refine Nat.div_eq_of_lt (Nat.lt_of_lt_of_le hh ?_)
  exact Nat.le_trans (by decide : 65536 ≤ 8 ^ 6) (Nat.pow_le_pow_right (by decide) ht)
theorem pr_it {m h : Nat} (hh : h < 65536) (t : Nat) : (pr m h (6 + t)).1 = it0 m t (pr m h 6).1 := by
  suffices hs : ∀ t, (pr m h (6 + t)).1 = it0 m t (pr m h 6).1 from hs t
  intro t
  induction t with
  | zero => rfl
  | succ t ih =>
    have e : (pr m h (6 + (t + 1))).1 = nx0 m (pr m h (6 + t)).1 := by
      show (5 * (pr m h (6 + t)).1 + (pr m h (6 + t)).2 / 8 + 1) % m = _
      rw [pr_zero hh (by omega)]; rfl
    rw [e, ih, it0_add m t 1]; rfl
/-- Each slot is looked at within so many steps. -/
theorem pr_come {m h j : Nat} (hm : slotN m = true) (hh : h < 65536) (hj : j < m) : ∃ t, t < 6 + m ∧ (pr m h t).1 = j := by
  obtain ⟨t, h1, h2⟩ := all_come hm (pr_lt (by omega) 6 : (pr m h 6).1 < m) hj
  exact ⟨6 + t, by omega, by rw [pr_it hh, h2]⟩
end Go.Proofs.Ytplpgcbdbmfffaa
