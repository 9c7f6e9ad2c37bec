/- The draws of numbers out of a code: pick. -/
import Derived.Test.YtibglmcpbbikdaaTxt
namespace Go.Proofs.Ytibglmcpbbikdaa
open Go.RowKit
/-- A drawer in block g: n bytes of a code that lie elsewhere, and how many draws there were. -/
def RI (w : World) (g : Nat) (a : Option Addr) (n cap k : Nat) : Prop := Blk w g 78 #[.slice a n cap, .int .i64 (k : Int)] ∧ n ≤ 4000 ∧ n ≤ cap ∧ (n = 0 ∨ ∃ x : Addr, a = some x ∧ x.block ≠ g ∧ ∀ i : Nat, i < n → ∃ c : Nat, c ≤ 255 ∧ w.cell? (x.add i) = some (.int .u8 (c : Int)))
set_option maxHeartbeats 1000000 in
theorem pick_low (w : World) (g : Nat) (_a : Option Addr) (_n _cap _k : Nat) (m : Int) (hm : m < 2) : Calls Try.prog 73 #[.pointer (some ⟨g, 0, none⟩), .int .i64 m] w fun e w' => e = .returned (.int .i64 0) ∧ w = w' := by
  go_enter Try.func73, Try.ntmps73
  go_wp2
  go_ret
  exact ⟨rfl, rfl⟩
theorem bits_xor_i64 (a b : Nat) (ha : a < 4611686018427387904) (hb : b < 4611686018427387904) : bits .xor .i64 (a : Int) (b : Int) = ((a ^^^ b : Nat) : Int) ∧ (a ^^^ b) < 4611686018427387904 := by
  have hx : a ^^^ b < 2 ^ 62 := Nat.xor_lt_two_pow (by omega) (by omega)
  have h1 : (BitVec.ofInt 64 (a : Int)).toNat = a := by
    rw [BitVec.ofInt_natCast, BitVec.toNat_ofNat]; exact Nat.mod_eq_of_lt (by omega)
  have h2 : (BitVec.ofInt 64 (b : Int)).toNat = b := by
    rw [BitVec.ofInt_natCast, BitVec.toNat_ofNat]; exact Nat.mod_eq_of_lt (by omega)
  refine ⟨?_, by omega⟩
  show IntKind.i64.wrap ((BitVec.ofInt 64 (a : Int) ^^^ BitVec.ofInt 64 (b : Int)).toNat : Int) = _
  rw [BitVec.toNat_xor, h1, h2]
  exact IntWalk.i64_in _ (by omega)
theorem ri_put {w : World} {g n cap k q : Nat} {a : Option Addr} (h : RI w g a n cap k) : w.grownBy ((w.drewN q).setCell ⟨g, 1, none⟩ (.int .i64 ((k : Int) + 1))) (some g) ∧ RI ((w.drewN q).setCell ⟨g, 1, none⟩ (.int .i64 ((k : Int) + 1))) g a n cap (k + 1) := by
  obtain ⟨h1, h2, h3, h4⟩ := h
  refine ⟨⟨rfl, rfl, rfl, by simp, fun j _ hj => heap_setCell_other _ ⟨g, 1, none⟩ j _ (fun e => hj (by simp [e]))⟩, (h1.drewN q).set 1 _, h2, h3, ?_⟩
  rcases h4 with h4 | ⟨x, hx, hxg, hr⟩
  · exact Or.inl h4
  · refine Or.inr ⟨x, hx, hxg, fun i hi => ?_⟩
    obtain ⟨c, hc, hcell⟩ := hr i hi
    refine ⟨c, hc, ?_⟩
    have hb : (x.add i).block = x.block := by unfold Addr.add; split <;> rfl
    rw [World.cell?_of_block (w := w) (show ((w.drewN q).setCell ⟨g, 1, none⟩ (.int .i64 ((k : Int) + 1))).heap[(x.add i).block]? = w.heap[(x.add i).block]? from heap_setCell_other _ ⟨g, 1, none⟩ _ _ (by rw [hb]; exact hxg))]
    exact hcell
def PkP (w : World) (g : Nat) (a : Option Addr) (n cap k : Nat) (m : Int) (e : Ending) (w' : World) : Prop := ∃ r : Nat, e = .returned (.int .i64 (r : Int)) ∧ ((r : Int) < m ∨ r = 0) ∧ w.grownBy w' (some g) ∧ ∃ k', k' ≤ k + 1 ∧ RI w' g a n cap k'
set_option maxHeartbeats 1000000 in
theorem pick_none (w : World) (g : Nat) (a : Option Addr) (cap k : Nat) (m : Int) (h : RI w g a 0 cap k) (hk : k ≤ 100000) (hm : 2 ≤ m) : Calls Try.prog 73 #[.pointer (some ⟨g, 0, none⟩), .int .i64 m] w (PkP w g a 0 cap k m) := by
  have c0 : w.cell? ⟨g, 0, none⟩ = some (.slice a 0 cap) := h.1.cell 0
  have c1 : w.cell? ⟨g, 1, none⟩ = some (.int .i64 (k : Int)) := h.1.cell 1
  have f1 : w.frozen? ⟨g, 1, none⟩ = false := h.1.free 1
  have H := Lib.hid (ri_put (q := 0) h)
  clear h
  go_enter Try.func73, Try.ntmps73
  go_wp2
  go_ret
  exact ⟨0, rfl, Or.inr rfl, H.out.1, k + 1, Nat.le_refl _, H.out.2⟩
set_option maxHeartbeats 4000000 in
theorem pick_some (w : World) (g : Nat) (x : Addr) (n cap k : Nat) (m : Int) (h : RI w g (some x) n cap k) (hn : 0 < n) (hk : k ≤ 100000) (hm : 2 ≤ m) (hm2 : m ≤ 100000) : Calls Try.prog 73 #[.pointer (some ⟨g, 0, none⟩), .int .i64 m] w (PkP w g (some x) n cap k m) := by
  have c0 : w.cell? ⟨g, 0, none⟩ = some (.slice (some x) n cap) := h.1.cell 0
  have c1 : w.cell? ⟨g, 1, none⟩ = some (.int .i64 (k : Int)) := h.1.cell 1
  have f1 : w.frozen? ⟨g, 1, none⟩ = false := h.1.free 1
  have H := Lib.hid (fun q => ri_put (q := q) h)
  have hn4 : n ≤ 4000 := h.2.1
  have hcells : ∀ i : Nat, i < n → ∃ c : Nat, c ≤ 255 ∧ w.cell? (x.add i) = some (.int .u8 (c : Int)) := by
    rcases h.2.2.2 with h0 | ⟨y, hy, _, hr⟩
    · omega
    · injection hy with hy; subst hy; exact hr
  clear h
  have hmod : (k : Int) % (n : Int) = ((k % n : Nat) : Int) := (Int.natCast_emod k n).symm
  have hlt : k % n < n := Nat.mod_lt _ hn
  have hmod2 : ((k : Int) * 7 + 3) % (n : Int) = (((k * 7 + 3) % n : Nat) : Int) := by rw [Int.natCast_emod]; rfl
  have hlt2 : (k * 7 + 3) % n < n := Nat.mod_lt _ hn
  have hquo : (k : Int) / (n : Int) = ((k / n : Nat) : Int) := (Int.natCast_ediv k n).symm
  have hq : k / n ≤ k := Nat.div_le_self _ _
  generalize k % n = j at hmod hlt
  generalize (k * 7 + 3) % n = j2 at hmod2 hlt2
  generalize k / n = u at hquo hq
  obtain ⟨c, hc, c2⟩ := hcells j hlt
  obtain ⟨d, hd, c3⟩ := hcells j2 hlt2
  clear hcells
  by_cases hbig : 256 < m ∨ n ≤ k
  · have hV : ∃ X : Nat, bits .xor .i64 ((c : Int) * 131 + (d : Int) * 1117 + (k : Int) * 29 + (u : Int) * 53) (((c : Int) * 131 + (d : Int) * 1117 + (k : Int) * 29 + (u : Int) * 53) / 64) = (X : Int) ∧ X < 4611686018427387904 := by
      have e1 : (c : Int) * 131 + (d : Int) * 1117 + (k : Int) * 29 + (u : Int) * 53 = ((c * 131 + d * 1117 + k * 29 + u * 53 : Nat) : Int) := by omega
      have e2 : ((c * 131 + d * 1117 + k * 29 + u * 53 : Nat) : Int) / 64 = (((c * 131 + d * 1117 + k * 29 + u * 53) / 64 : Nat) : Int) := by omega
      rw [e1, e2]
      obtain ⟨h1, h2⟩ := bits_xor_i64 (c * 131 + d * 1117 + k * 29 + u * 53) ((c * 131 + d * 1117 + k * 29 + u * 53) / 64) (by omega) (by omega)
      exact ⟨_, h1, h2⟩
    obtain ⟨X, hX, hX2⟩ := hV
    have HR := Lib.hid (show ∃ r : Nat, (X : Int) % m = (r : Int) ∧ (r : Int) < m from ⟨((X : Int) % m).toNat, by have := Int.emod_nonneg (X : Int) (show m ≠ 0 by omega); omega, by have := Int.emod_lt_of_pos (X : Int) (show 0 < m by omega); have := Int.emod_nonneg (X : Int) (show m ≠ 0 by omega); omega⟩)
    rcases Int.lt_or_le 256 m with hb | hb
    · clear hbig
      go_enter Try.func73, Try.ntmps73
      go_wp2
      go_quiet (fail)
      go_wp2
      go_quiet (fail)
      go_wp2
      go_quiet (fail)
      go_wp2
      go_ret
      obtain ⟨r, hr, hrm⟩ := HR.out
      exact ⟨r, by rw [← hr]; rfl, Or.inl hrm, (H.out _).1, k + 1, Nat.le_refl _, (H.out _).2⟩
    · have hnk : n ≤ k := by omega
      clear hbig
      go_enter Try.func73, Try.ntmps73
      go_wp2
      go_quiet (fail)
      go_wp2
      go_quiet (fail)
      go_wp2
      go_quiet (fail)
      go_wp2
      go_ret
      obtain ⟨r, hr, hrm⟩ := HR.out
      exact ⟨r, by rw [← hr]; rfl, Or.inl hrm, (H.out _).1, k + 1, Nat.le_refl _, (H.out _).2⟩
  · have hb : m ≤ 256 := by omega
    have hnk : k < n := by omega
    have HR := Lib.hid (show ∃ r : Nat, (c : Int) % m = (r : Int) ∧ (r : Int) < m from ⟨((c : Int) % m).toNat, by have := Int.emod_nonneg (c : Int) (show m ≠ 0 by omega); omega, by have := Int.emod_lt_of_pos (c : Int) (show 0 < m by omega); have := Int.emod_nonneg (c : Int) (show m ≠ 0 by omega); omega⟩)
    clear hbig
    go_enter Try.func73, Try.ntmps73
    go_wp2
    go_quiet (fail)
    go_wp2
    go_quiet (fail)
    go_wp2
    go_ret
    obtain ⟨r, hr, hrm⟩ := HR.out
    exact ⟨r, by rw [← hr]; rfl, Or.inl hrm, (H.out _).1, k + 1, Nat.le_refl _, (H.out _).2⟩
end Go.Proofs.Ytibglmcpbbikdaa
