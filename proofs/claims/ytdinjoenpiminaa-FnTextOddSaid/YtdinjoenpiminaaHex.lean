/- A byte's form in hexadecimal digits behind a slice of the call's own. -/
import Derived.Test.YtdinjoenpiminaaApp2
import Derived.Deep.RegionLaw
namespace Go.Proofs.Ytdinjoenpiminaa
open Go.RowKit
section
variable {P : Program} {ops : Array Oper} {o : Oper} {a : Act} {w : World} {K : Act → World → Prop} {Q : Exit → Act → World → Prop} {E : Prop}
/-- An append of a literal's values, as one step of a region that draws. -/
theorem stepN (hgd : o.guard = none) (s x : Operand) (T e : TypeId) (z : Value) (b : Nat) (ho : o.op = .call { callee := .builtin .append, args := #[s, x], argTypes := #[T, T] }) (ht : P.underlying T = some (.slice e))
    (hi : (P.info? e).map (fun i => (i.zero, i.size, i.bytes)) = some (some z, 1, b)) (hzs : z.cells.size = 1) (hb8 : b ≤ 8) (W w0 : World) (us : List Value) (hw : w = (W.alloc (.cells us.toArray e)).drew) (base : Nat) (v : Value) (vals : List Value) (hs : a.eval s = v) (hx : a.eval x = .slice (some ⟨W.heap.size, 0, none⟩) us.length us.length)
    (hown : Own W base e v vals) (h1 : ∀ u ∈ us, u.oneCell' = true) (hlen : vals.length + us.length ≤ 1099511627776) (hbase : base ≤ W.heap.size) (hB : Below base w0 W)
    (h : ∀ v' w', Own w' base e v' (vals ++ us) → Below base w0 w' → K (a.put o.dst v') w') : if Region.wanted o (yielded ops a.tmps) = true then Oper.wp P o a w K Q else E := by
  have hwt : Region.wanted o (yielded ops a.tmps) = true := by simp [Region.wanted, hgd]
  rw [if_pos hwt]
  obtain ⟨i, hi1, hi2, hi3, hi4⟩ := info_of hi
  subst hw
  have hle : (vals.length + us.length) * b ≤ (vals.length + us.length) * 8 := Nat.mul_le_mul_left _ hb8
  refine wp_append_own _ s x T ho base e i z 1 b ht hi1 hi2 hi3 hi4 hzs (by omega) v vals.length vals hs (Own.drew (Own.alloc hown _)) ⟨W.heap.size, 0, none⟩ us.length us.length us hx (by omega) ?_ h1 ?_ (by omega) ?_ ?_
  · intro j u' hj
    show (W.alloc (.cells us.toArray e)).cell? _ = _
    rw [addr_add, Nat.zero_add, World.cell?_alloc_at _ _ _ _ rfl]
    simpa using hj
  · unfold maxLen; omega
  · show base ≤ (W.alloc (.cells us.toArray e)).heap.size
    simp; omega
  · intro v' w' hown' hgrow _
    have hgW : W.grownBy w' v.ownBlock := ⟨hgrow.os, hgrow.tape, hgrow.output, by have h5 : (W.alloc (.cells us.toArray e)).heap.size ≤ w'.heap.size := hgrow.size
                                                                                  simp at h5; omega, fun k hk hne => (hgrow.block k (by show k < (W.alloc (.cells us.toArray e)).heap.size; simp; omega) hne).trans (Below.heap_alloc _ _ _ hk)⟩
    refine h v' w' ?_ ?_
    · unfold Own; rw [List.length_append]; exact hown'
    · exact hB.grown hgW hbase fun k hk => (World.ownsRow.lt hown k hk).1
end
theorem hex8_at : ∀ n, n < 16 → ∀ h : n < (⟨#[48, 49, 50, 51, 52, 53, 54, 55, 56, 57, 97, 98, 99, 100, 101, 102]⟩ : ByteArray).size, (⟨#[48, 49, 50, 51, 52, 53, 54, 55, 56, 57, 97, 98, 99, 100, 101, 102]⟩ : ByteArray)[n] = hx n := by
  decide
theorem hex_val {m : Int} {n : Nat} (hm : m = (n : Int)) (hn : n < 16) (h : m.toNat < (⟨#[48, 49, 50, 51, 52, 53, 54, 55, 56, 57, 97, 98, 99, 100, 101, 102]⟩ : ByteArray).size) : (((⟨#[48, 49, 50, 51, 52, 53, 54, 55, 56, 57, 97, 98, 99, 100, 101, 102]⟩ : ByteArray)[m.toNat]).toNat : Int) = ((hx n).toNat : Int) := by
  subst hm
  rw [show (⟨#[48, 49, 50, 51, 52, 53, 54, 55, 56, 57, 97, 98, 99, 100, 101, 102]⟩ : ByteArray)[((n : Int)).toNat] = hx n from hex8_at n hn (by simpa using h)]
theorem four {x y : Int} {p q : UInt8} (h : x = (p.toNat : Int)) (h2 : y = (q.toNat : Int)) : [Value.int .u8 92, .int .u8 120, .int .u8 x, .int .u8 y] = bv [92, 120, p, q] := by
  subst h; subst h2; rfl
theorem all4 {x y : Int} : ∀ u ∈ [Value.int .u8 92, .int .u8 120, .int .u8 x, .int .u8 y], u.oneCell' = true := by
  intro u hu
  simp only [List.mem_cons, List.not_mem_nil, or_false] at hu
  rcases hu with rfl | rfl | rfl | rfl <;> rfl
set_option maxHeartbeats 2000000 in
theorem appendQuoted_hexA (w w0 : World) (base : Nat) (v : Value) (l : List UInt8) (c : UInt8) (hown : Own w base 5 v (bv l)) (hlen : l.length ≤ 100000) (hbase : base ≤ w.heap.size) (hB : Below base w0 w) (z : Int) (hz : z = (c.toNat : Int)) (d3 : ((c.toNat : Int) == 10) = false) (d2 : ((c.toNat : Int) == 92) = false) (d1 : ((c.toNat : Int) == 39) = false) (d4 : (c.toNat : Int) < 32) (hq : qb c = [92, 120, hx (c.toNat / 16), hx (c.toNat % 16)]) :
    Calls Try.prog 51 #[v, .int .u8 z] w (AqP w0 base l c) := by
  have HO := Lib.hid hown
  have HZ := Lib.hid hbase
  have HB := Lib.hid hB
  have HL := Lib.hid (show (bv l).length ≤ 100000 by unfold bv; rw [List.length_map]; exact hlen)
  have HQ := Lib.hid hq
  have D := And.intro d1 (And.intro d2 (And.intro d3 d4))
  clear D
  have c255 : c.toNat < 256 := c.toNat_lt
  have e1 : IntKind.u8.wrap ((c.toNat : Int) / 16) = ((c.toNat / 16 : Nat) : Int) := by rw [IntWalk.u8_in _ (by omega)]; omega
  have e2 : ((c.toNat : Int)).tmod 16 = ((c.toNat % 16 : Nat) : Int) := by rw [Int.tmod_eq_emod_of_nonneg (by omega)]; omega
  have l1 : IntKind.u8.wrap ((c.toNat : Int) / 16) < 16 := by rw [e1]; omega
  have l2 : ((c.toNat : Int)).tmod 16 < 16 := by rw [e2]; omega
  have l3 : 0 ≤ ((c.toNat : Int)).tmod 16 := by rw [e2]; omega
  have HV1 := Lib.hid (fun h => hex_val e1 (show c.toNat / 16 < 16 by omega) h)
  have HV2 := Lib.hid (fun h => hex_val e2 (show c.toNat % 16 < 16 by omega) h)
  clear hown hbase hB hlen hq e1 e2
  subst hz
  go_enter Try.func51, Try.ntmps51
  go_wp2_with fail
  go_region_law (refine stepN rfl (.tmp 29) (.tmp 36) 28 5 (.int .u8 0) 1 rfl Try.underlying28 (by kernel_rfl) rfl (by decide) w w0 [.int .u8 92, .int .u8 120, _, _] rfl base v _ rfl rfl HO.out all4 ?_ HZ.out HB.out ?_; (have := HL.out; simp; omega); intro v3 w3 ho hb3; have HT := Lib.hid (show AqP w0 base l c (.returned v3) w3 from ⟨v3, rfl, by rw [HQ.out]; exact own_cat ho (four (HV1.out _) (HV2.out _)), hb3⟩); clear ho hb3)
  all_goals (try go_wp2)
  all_goals go_ret
  all_goals exact HT.out
set_option maxHeartbeats 2000000 in
theorem appendQuoted_hexB (w w0 : World) (base : Nat) (v : Value) (l : List UInt8) (c : UInt8) (hown : Own w base 5 v (bv l)) (hlen : l.length ≤ 100000) (hbase : base ≤ w.heap.size) (hB : Below base w0 w) (z : Int) (hz : z = (c.toNat : Int)) (d3 : ((c.toNat : Int) == 10) = false) (d2 : ((c.toNat : Int) == 92) = false) (d1 : ((c.toNat : Int) == 39) = false) (d4 : ¬ (c.toNat : Int) < 32) (d5 : 126 < (c.toNat : Int)) (hq : qb c = [92, 120, hx (c.toNat / 16), hx (c.toNat % 16)]) :
    Calls Try.prog 51 #[v, .int .u8 z] w (AqP w0 base l c) := by
  have HO := Lib.hid hown
  have HZ := Lib.hid hbase
  have HB := Lib.hid hB
  have HL := Lib.hid (show (bv l).length ≤ 100000 by unfold bv; rw [List.length_map]; exact hlen)
  have HQ := Lib.hid hq
  have D := And.intro d1 (And.intro d2 (And.intro d3 (And.intro d4 d5)))
  clear D
  have c255 : c.toNat < 256 := c.toNat_lt
  have e1 : IntKind.u8.wrap ((c.toNat : Int) / 16) = ((c.toNat / 16 : Nat) : Int) := by rw [IntWalk.u8_in _ (by omega)]; omega
  have e2 : ((c.toNat : Int)).tmod 16 = ((c.toNat % 16 : Nat) : Int) := by rw [Int.tmod_eq_emod_of_nonneg (by omega)]; omega
  have l1 : IntKind.u8.wrap ((c.toNat : Int) / 16) < 16 := by rw [e1]; omega
  have l2 : ((c.toNat : Int)).tmod 16 < 16 := by rw [e2]; omega
  have l3 : 0 ≤ ((c.toNat : Int)).tmod 16 := by rw [e2]; omega
  have HV1 := Lib.hid (fun h => hex_val e1 (show c.toNat / 16 < 16 by omega) h)
  have HV2 := Lib.hid (fun h => hex_val e2 (show c.toNat % 16 < 16 by omega) h)
  clear hown hbase hB hlen hq e1 e2
  subst hz
  go_enter Try.func51, Try.ntmps51
  go_wp2_with fail
  go_region_law (refine stepN rfl (.tmp 29) (.tmp 36) 28 5 (.int .u8 0) 1 rfl Try.underlying28 (by kernel_rfl) rfl (by decide) w w0 [.int .u8 92, .int .u8 120, _, _] rfl base v _ rfl rfl HO.out all4 ?_ HZ.out HB.out ?_; (have := HL.out; simp; omega); intro v3 w3 ho hb3; have HT := Lib.hid (show AqP w0 base l c (.returned v3) w3 from ⟨v3, rfl, by rw [HQ.out]; exact own_cat ho (four (HV1.out _) (HV2.out _)), hb3⟩); clear ho hb3)
  all_goals (try go_wp2)
  all_goals go_ret
  all_goals exact HT.out
theorem appendQuoted_any (w w0 : World) (base : Nat) (v : Value) (l : List UInt8) (c : UInt8) (hown : Own w base 5 v (bv l)) (hlen : l.length ≤ 100000) (hbase : base ≤ w.heap.size) (hB : Below base w0 w) (z : Int) (hz : z = (c.toNat : Int)) :
    Calls Try.prog 51 #[v, .int .u8 z] w (AqP w0 base l c) := by
  by_cases h1 : c.toNat = 39 ∨ c.toNat = 92 ∨ c.toNat = 10
  · exact appendQuoted_plain w w0 base v l c hown hlen hbase hB z hz (by omega)
  · by_cases h2 : c.toNat < 32 ∨ 126 < c.toNat
    · have hq : qb c = [92, 120, hx (c.toNat / 16), hx (c.toNat % 16)] := by unfold qb; rw [if_neg (by omega), if_neg (by omega), if_pos h2]
      have d1 : ((c.toNat : Int) == 39) = false := beq_eq_false_iff_ne.2 (by omega)
      have d2 : ((c.toNat : Int) == 92) = false := beq_eq_false_iff_ne.2 (by omega)
      have d3 : ((c.toNat : Int) == 10) = false := beq_eq_false_iff_ne.2 (by omega)
      by_cases h3 : c.toNat < 32
      · exact appendQuoted_hexA w w0 base v l c hown hlen hbase hB z hz d3 d2 d1 (by omega) hq
      · exact appendQuoted_hexB w w0 base v l c hown hlen hbase hB z hz d3 d2 d1 (by omega) (by omega) hq
    · exact appendQuoted_plain w w0 base v l c hown hlen hbase hB z hz (Or.inr h2)
end Go.Proofs.Ytdinjoenpiminaa
