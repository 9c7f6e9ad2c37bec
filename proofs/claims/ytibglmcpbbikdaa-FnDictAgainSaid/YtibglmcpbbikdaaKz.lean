/- Cells of lists; keys are not too long. -/
import Derived.Test.YtibglmcpbbikdaaKx
import Derived.Test.YtibglmcpbbikdaaSmt
namespace Go.Proofs.Ytibglmcpbbikdaa
open Go.RowKit
theorem rdT_at {w : World} {va : Option Addr} {n vc : Nat} {ks : List ByteArray} (h : RdT w (.slice va n vc) ks) (k : Nat) (s : ByteArray) (hs : ks[k]? = some s) : ∃ x, va = some x ∧ w.cell? (x.add k) = some (.string s) := by
  obtain ⟨a, c, h0, _, _, h1⟩ := h.sub
  injection h0 with h2 _ _
  subst h2
  exact h1 k s hs
theorem rdI_at {w : World} {va : Option Addr} {n vc : Nat} {ks : List Int} (h : RdI w (.slice va n vc) ks) (k : Nat) (s : Int) (hs : ks[k]? = some s) : ∃ x, va = some x ∧ w.cell? (x.add k) = some (.int .i64 s) := by
  obtain ⟨a, c, h0, _, _, h1⟩ := h.sub
  injection h0 with h2 _ _
  subst h2
  exact h1 k s hs
theorem key_le {ix : List Int} {es : List Ent} {key : ByteArray} (h : DOk ix es) (hm : key ∈ kyL es) : key.size ≤ 1048576 := by
  have h1 := key_ok h hm
  unfold keyB at h1
  have : key.size ≤ 20 := by simpa using h1
  omega
theorem rdT_take {w : World} {va : Option Addr} {n vc k : Nat} {ks : List ByteArray} (h : RdT w (.slice va n vc) ks) (hk : k ≤ ks.length) : RdT w (.slice va k vc) (ks.take k) := by
  obtain ⟨a, c, h0, h1, h2, h3⟩ := h
  injection h0 with h4 h5 h6
  subst h4; subst h5; subst h6
  refine ⟨va, vc, by rw [List.length_take, Nat.min_eq_left hk], by rw [List.length_take]; omega, fun h9 => ?_, fun x hx j s hs => ?_⟩
  · obtain ⟨h7, h8⟩ := h2 h9
    exact ⟨by rw [h7]; simp, h8⟩
  · rw [List.getElem?_take] at hs
    split at hs
    · exact h3 x hx j s hs
    · cases hs
theorem nodup_take {l : List ByteArray} {k : Nat} {s : ByteArray} (hn : l.Nodup) (hs : l[k]? = some s) : s ∉ l.take k := by
  intro hm
  obtain ⟨j, hj⟩ := List.mem_iff_getElem?.1 hm
  rw [List.getElem?_take] at hj
  split at hj
  · rename_i hlt
    have hk : k < l.length := by
      rcases Nat.lt_or_ge k l.length with h | h
      · exact h
      · rw [List.getElem?_eq_none h] at hs; cases hs
    have hjl : j < l.length := by omega
    rw [List.getElem?_eq_getElem hk] at hs
    rw [List.getElem?_eq_getElem hjl] at hj
    injection hs with hs
    injection hj with hj
    have := List.pairwise_iff_getElem.1 hn j k hjl hk hlt
    exact this (by rw [hj, hs])
  · cases hj
theorem isOneB (is : List ByteArray) (s : ByteArray) (b : Bool) (hb : b = true ↔ s ∈ is) (v1 : Value) (w : World) (h1 : RdT w v1 is) (hl : is.length ≤ 1048576) :
    Calls Try.prog 31 #[v1, .string s] w fun e w' => e = .returned (.bool b) ∧ Below w.heap.size w w' := (isOne_is is s b hb v1 w h1 hl).mono fun _ _ h => ⟨h.1, h.2 ▸ Below.refl _ _⟩
end Go.Proofs.Ytibglmcpbbikdaa
