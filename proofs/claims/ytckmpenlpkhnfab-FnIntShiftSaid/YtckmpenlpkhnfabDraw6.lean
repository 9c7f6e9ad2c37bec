/- The draws of integers, from a code that came in. -/
import Derived.Test.YtckmpenlpkhnfabDraw5
namespace Go.Proofs.Ytckmpenlpkhnfab
open Go.RowKit
/-- Bytes that came in: n of them at an address, or none. -/
def Cr (w : World) (a : Option Addr) (n cap : Nat) : Prop := n ≤ cap ∧ (a = none → n = 0 ∧ cap = 0) ∧ (n = 0 ∨ ∃ x : Addr, a = some x ∧ ∀ i : Nat, i < n → ∃ c : Nat, c ≤ 255 ∧ w.cell? (x.add i) = some (.int .u8 (c : Int)))
theorem cr_of {w : World} {a : Option Addr} {len cap : Nat} {zs : List Int} (h : (a = none ∧ len = 0 ∧ cap = 0 ∧ zs = []) ∨ ∃ x, a = some x ∧ len ≤ cap ∧ cap ≤ maxLen ∧ zs.length = cap ∧ (∀ i, i < zs.length → w.cell? (x.add i) = some (.int .u8 (zs.getD i 0))) ∧ ∀ n ∈ zs, (Lit.int .u8 n).wf = true) : Cr w a len cap := by
  rcases h with ⟨rfl, rfl, rfl, _⟩ | ⟨x, rfl, hl, _, hz, hc, hw⟩
  · exact ⟨by omega, fun _ => ⟨rfl, rfl⟩, Or.inl rfl⟩
  · refine ⟨hl, fun h => by simp at h, Or.inr ⟨x, rfl, fun i hi => ?_⟩⟩
    have hil : i < zs.length := by omega
    have hm : zs.getD i 0 ∈ zs := by rw [List.getD_eq_getElem?_getD, List.getElem?_eq_getElem hil]; exact List.getElem_mem hil
    have hb : 0 ≤ zs.getD i 0 ∧ zs.getD i 0 ≤ 255 := by simpa [Lit.wf, IntKind.min, IntKind.max, IntKind.signed, IntKind.bits] using hw _ hm
    refine ⟨(zs.getD i 0).toNat, by omega, ?_⟩
    rw [hc i hil, Int.toNat_of_nonneg hb.1]
theorem ri_new {w : World} {a : Option Addr} {n m cap : Nat} (h : Cr w a n cap) (hm : m ≤ n) (hm4 : m ≤ 4000) : RI (w.alloc (.cells #[.slice a m cap, .int .i64 0] 71)) w.heap.size a m cap 0 := by
  refine ⟨Blk.new _ _ _ rfl, hm4, by have := h.1; omega, ?_⟩
  by_cases h0 : m = 0
  · exact Or.inl h0
  · rcases h.2.2 with h2 | ⟨x, rfl, hr⟩
    · omega
    · refine Or.inr ⟨x, rfl, ?_, fun i hi => ?_⟩
      · obtain ⟨c, _, hc⟩ := hr 0 (by omega)
        have hlt := World.block_lt_of_cell? w _ hc
        have hb : (x.add 0).block = x.block := by unfold Addr.add; split <;> rfl
        rw [hb] at hlt
        omega
      · obtain ⟨c, hc1, hc⟩ := hr i (by omega)
        exact ⟨c, hc1, by rw [((Below.refl w.heap.size w).alloc (Nat.le_refl _) _).cell (World.block_lt_of_cell? w _ hc)]; exact hc⟩
def NrP (w : World) (a : Option Addr) (cap : Nat) (e : Ending) (w' : World) : Prop := e = .returned (.pointer (some ⟨w.heap.size, 0, none⟩)) ∧ Below w.heap.size w w' ∧ ∃ m, RI w' w.heap.size a m cap 0
set_option maxHeartbeats 1000000 in
theorem newRnd_any (w : World) (a : Option Addr) (n cap : Nat) (h : Cr w a n cap) : Calls Try.prog 39 #[.slice a n cap] w (NrP w a cap) := by
  have hcap := h.1
  have hnil := h.2.1
  by_cases h4 : n ≤ 4000
  · have HR := Lib.hid (ri_new h (Nat.le_refl n) h4)
    have HB := Lib.hid (show Below w.heap.size w (w.alloc (.cells #[.slice a n cap, .int .i64 0] 71)) from (Below.refl _ _).alloc (Nat.le_refl _) _)
    clear h
    cases a with
    | none =>
      obtain ⟨rfl, rfl⟩ := hnil rfl
      clear hnil
      go_enter Try.func39, Try.ntmps39
      go_wp2
      all_goals first | omega | skip
      all_goals go_ret
      all_goals exact ⟨rfl, HB.out, _, HR.out⟩
    | some x =>
      clear hnil
      go_enter Try.func39, Try.ntmps39
      go_wp2
      all_goals first | omega | skip
      all_goals go_ret
      all_goals exact ⟨rfl, HB.out, _, HR.out⟩
  · have HR := Lib.hid (ri_new h (show 4000 ≤ n by omega) (Nat.le_refl _))
    have HB := Lib.hid (show Below w.heap.size w (w.alloc (.cells #[.slice a 4000 cap, .int .i64 0] 71)) from (Below.refl _ _).alloc (Nat.le_refl _) _)
    clear h
    cases a with
    | none => obtain ⟨rfl, rfl⟩ := hnil rfl; omega
    | some x =>
      clear hnil
      go_enter Try.func39, Try.ntmps39
      go_wp2
      all_goals first | omega | skip
      all_goals go_ret
      all_goals exact ⟨rfl, HB.out, _, HR.out⟩
end Go.Proofs.Ytckmpenlpkhnfab
