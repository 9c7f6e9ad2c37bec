/- Lists of texts: those that a call made, whether two are the same. -/
import Derived.Test.YtejmgklhfggilaaIlD
namespace Go.Proofs.Ytejmgklhfggilaa
open Go.RowKit
/-- At an address lie these numbers. -/
def AtT (w : World) (x : Addr) (is : List ByteArray) : Prop := ∀ (j : Nat) (i : ByteArray), is[j]? = some i → w.cell? (x.add j) = some (.string i)
/-- The slice reads as these numbers. -/
def RsT (w : World) (a : Option Addr) (cap : Nat) (is : List ByteArray) : Prop := is.length ≤ cap ∧ (a = none → is = [] ∧ cap = 0) ∧ ∀ x, a = some x → AtT w x is
def RdT (w : World) (v : Value) (is : List ByteArray) : Prop := ∃ a cap, v = .slice a is.length cap ∧ RsT w a cap is
def tv (is : List ByteArray) : List Value := is.map Value.string
theorem tv_len (is : List ByteArray) : (tv is).length = is.length := by simp [tv]
theorem tv_get {is : List ByteArray} {j : Nat} {i : ByteArray} (h : is[j]? = some i) : (tv is)[j]? = some (.string i) := by simp [tv, h]
theorem tv_app (a b : List ByteArray) : tv (a ++ b) = tv a ++ tv b := by simp [tv]
theorem AtT.below {w w' : World} {x : Addr} {is : List ByteArray} (h : AtT w x is) (hb : Below w.heap.size w w') : AtT w' x is := fun j s hj => by
  have hc := h j s hj
  rw [hb.cell (World.block_lt_of_cell? w _ hc)]
  exact hc
theorem RsT.below {w w' : World} {a : Option Addr} {cap : Nat} {is : List ByteArray} (h : RsT w a cap is) (hb : Below w.heap.size w w') : RsT w' a cap is := ⟨h.1, h.2.1, fun x hx => (h.2.2 x hx).below hb⟩
theorem RdT.below {w w' : World} {v : Value} {is : List ByteArray} (h : RdT w v is) (hb : Below w.heap.size w w') : RdT w' v is := by
  obtain ⟨a, cap, h1, h2⟩ := h
  exact ⟨a, cap, h1, h2.below hb⟩
/-- .. also behind a call that wrote into another block. -/
theorem RdT.grown {w w' : World} {v : Value} {is : List ByteArray} {row : Option Nat} (h : RdT w v is) (hg : w.grownBy w' row) (hne : v.ownBlock = none ∨ v.ownBlock ≠ row) : RdT w' v is := by
  obtain ⟨a, cap, rfl, h1, h2, h3⟩ := h
  refine ⟨a, cap, rfl, h1, h2, fun x hx j i hj => ?_⟩
  subst hx
  refine hg.cell (h3 x rfl j i hj) ?_
  rw [addr_block]
  simpa [Value.ownBlock] using hne
theorem RdT.sub {w : World} {v : Value} {is : List ByteArray} (h : RdT w v is) : ∃ a cap, v = .slice a is.length cap ∧ is.length ≤ cap ∧ (a = none → is = [] ∧ cap = 0) ∧ ∀ (j : Nat) (i : ByteArray), is[j]? = some i → ∃ x, a = some x ∧ w.cell? (x.add j) = some (.string i) := by
  obtain ⟨a, cap, rfl, h1, h2, h3⟩ := h
  refine ⟨a, cap, rfl, h1, h2, fun j i hj => ?_⟩
  cases a with
  | none => have := (h2 rfl).1; rw [this] at hj; simp at hj
  | some x => exact ⟨x, rfl, h3 x rfl j i hj⟩
/-- A list that a call made. -/
def OwT (w : World) (b : Nat) (v : Value) (is : List ByteArray) : Prop := Own w b 9 v (tv is)
theorem OwT.rd {w : World} {b : Nat} {v : Value} {is : List ByteArray} (h : OwT w b v is) : RdT w v is := by
  rcases Own.form h with ⟨h1, h2⟩ | ⟨g, cap, h1, _, _, h4, h5⟩
  · have h3 : is = [] := by simpa [tv] using h2
    subst h3
    exact ⟨none, 0, h1, by simp, fun _ => ⟨rfl, rfl⟩, fun x hx => by cases hx⟩
  · rw [tv_len] at h1 h4
    refine ⟨some ⟨g, 0, none⟩, cap, h1, h4, fun h => (by cases h), fun x hx j i hj => ?_⟩
    injection hx with hx
    subst hx
    rw [addr_add, Nat.zero_add]
    exact h5 j _ (tv_get hj)
theorem OwT.lt {w : World} {b : Nat} {v : Value} {is : List ByteArray} (h : OwT w b v is) : ∀ k, v.ownBlock = some k → b ≤ k ∧ k < w.heap.size := World.ownsRow.lt h
theorem OwT.below {w w' : World} {b : Nat} {v : Value} {is : List ByteArray} (h : OwT w b v is) (hb : Below w.heap.size w w') : OwT w' b v is := by
  have hg : w.grownBy w' none := ⟨hb.os, hb.tape, hb.output, hb.size, fun k hk _ => hb.block k hk⟩
  exact World.ownsRow.kept h hg (by cases v.ownBlock <;> simp)
theorem OwT.grown {w w' : World} {b : Nat} {v : Value} {is : List ByteArray} {row : Option Nat} (h : OwT w b v is) (hg : w.grownBy w' row) (hne : v.ownBlock = none ∨ v.ownBlock ≠ row) : OwT w' b v is := World.ownsRow.kept h hg hne
theorem OwT.wide {w : World} {b b' : Nat} {v : Value} {is : List ByteArray} (h : OwT w b v is) (hb : b' ≤ b) : OwT w b' v is := by
  obtain ⟨h1, h2⟩ := h
  refine ⟨h1, ?_⟩
  rcases h2 with h2 | ⟨g, cap, cur, hv, hg, rest⟩
  · exact .inl h2
  · exact .inr ⟨g, cap, cur, hv, Nat.le_trans hb hg, rest⟩
theorem OwT.row {w : World} {b g n cap : Nat} {is : List ByteArray} (h : OwT w b (.slice (some ⟨g, 0, none⟩) n cap) is) : is.length = n ∧ w.ownsRow b 9 1 (.slice (some ⟨g, 0, none⟩) n cap) n (tv is) := by
  have hn : (tv is).length = n := by
    rcases Own.form h with ⟨h2, _⟩ | ⟨g', cap', h2, _⟩
    · cases h2
    · injection h2 with _ h2 _
      exact h2.symm
  have h1 : w.ownsRow b 9 1 (.slice (some ⟨g, 0, none⟩) n cap) (tv is).length (tv is) := h
  rw [hn] at h1
  rw [tv_len] at hn
  exact ⟨hn, h1⟩
theorem OwT.cellAt {w : World} {b g n cap k : Nat} {is : List ByteArray} {i : ByteArray} (h : OwT w b (.slice (some ⟨g, 0, none⟩) n cap) is) (hi : is[k]? = some i) : w.cell? ⟨g, k, none⟩ = some (.string i) ∧ w.frozen? ⟨g, k, none⟩ = false := by
  rcases Own.form h with ⟨h2, _⟩ | ⟨g', cap', h2, _, _, _, h5⟩
  · cases h2
  · injection h2 with h2 _ _
    injection h2 with h2
    injection h2 with h2
    subst h2
    exact ⟨h5 k _ (tv_get hi), World.ownsRow.frozenAt h.row.2 k⟩
set_option maxHeartbeats 2000000 in
theorem eqStringS_rd (is : List ByteArray) (v1 v2 : Value) (w : World) (h1 : RdT w v1 is) (h2 : RdT w v2 is) (hl : is.length ≤ 1048576) :
    Calls Try.prog 41 #[v1, v2] w fun e w' => e = .returned (.bool true) ∧ Below w.heap.size w w' := by
  obtain ⟨a1, c1, rfl, hc1, _, ha1⟩ := h1.sub
  obtain ⟨a2, c2, rfl, hc2, _, ha2⟩ := h2.sub
  have HA := Lib.hid ha1
  have HB := Lib.hid ha2
  clear h1 h2 ha1 ha2
  obtain ⟨n, hn⟩ : ∃ n, n = is.length := ⟨_, rfl⟩
  have HN := Lib.hid hn
  rw [← hn] at hl hc1 hc2 ⊢
  clear hn
  go_enter Try.func41, Try.ntmps41
  go_wp2_with fail
  go_loopw [5] (fun i wr => ∃ k m : Nat, k ≤ n ∧ i = .int .i64 k ∧ wr = w.drewN m) (fun i _ => n - (intOf i).toNat)
  case atStart => exact ⟨0, 0, by omega, rfl, rfl⟩
  case round =>
    obtain ⟨k, m, hk, rfl, rfl⟩ := hrel
    by_cases hlt : k < n
    · obtain ⟨s, hs⟩ : ∃ s, is[k]? = some s := ⟨is[k]'(by have := HN.out; omega), List.getElem?_eq_getElem _⟩
      obtain ⟨x1, rfl, d1⟩ := HA.out k s hs
      obtain ⟨x2, rfl, d2⟩ := HB.out k s hs
      have k1 : (k : Int) < (n : Int) := by omega
      have k0 : 0 ≤ (k : Int) := by omega
      clear hs
      go_wp2_with fail
      go_quiet (fail)
      go_wp2_with fail
      go_roundw
      case rel => exact ⟨k + 1, _, by omega, by go_num, rfl⟩
      case measure => simp [intOf]; try omega
    · obtain rfl : k = n := by omega
      clear hlt
      go_wp2_with fail
      go_ret
      exact ⟨rfl, ⟨rfl, rfl, rfl, Nat.le_refl _, fun _ _ => rfl⟩⟩
end Go.Proofs.Ytejmgklhfggilaa
