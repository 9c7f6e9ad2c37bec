/- Lists joined, copied, parts of them replaced. -/
import Derived.Test.YtbcphejblopekaaLdrop
import Derived.Test.YtbcphejblopekaaShelf
import Derived.Laws.AppendOwnNone
import Derived.Lib.AppendZerosOnto
namespace Go.Proofs.Ytbcphejblopekaa
open Go.RowKit
/-- A list that some call made. -/
def RdO (w : World) (v : Value) (is : List Int) : Prop := ∃ b, OwI w b v is
theorem RdO.rd {w : World} {v : Value} {is : List Int} (h : RdO w v is) : RdI w v is := by obtain ⟨b, h⟩ := h; exact h.rd
theorem RdO.below {w w' : World} {v : Value} {is : List Int} (h : RdO w v is) (hb : Below w.heap.size w w') : RdO w' v is := by obtain ⟨b, h⟩ := h; exact ⟨b, h.below hb⟩
theorem OwI.len' {w : World} {b : Nat} {v : Value} {is : List Int} (h : OwI w b v is) : ∃ a cap, v = .slice a is.length cap ∧ is.length ≤ cap := by
  obtain ⟨a, cap, h1, h2, _⟩ := h.rd
  exact ⟨a, cap, h1, h2⟩
/-- Where a list that a call made lies. -/
theorem RdO.form {w : World} {v : Value} {is : List Int} (h : RdO w v is) : ∃ a cap, v = .slice a is.length cap ∧ is.length ≤ cap ∧ (a = none → is = [] ∧ cap = 0) ∧ (a = none ∨ ∃ g, a = some ⟨g, 0, none⟩ ∧ ∀ (j : Nat) (i : Int), is[j]? = some i → w.cell? ⟨g, j, none⟩ = some (.int .i64 i)) := by
  obtain ⟨b, h⟩ := h
  rcases Own.form h with ⟨h1, h2⟩ | ⟨g, cap, h1, _, _, h4, h5⟩
  · have h3 : is = [] := by simpa [iv] using h2
    subst h3
    exact ⟨none, 0, h1, by simp, fun _ => ⟨rfl, rfl⟩, .inl rfl⟩
  · rw [iv_len] at h1 h4
    exact ⟨some ⟨g, 0, none⟩, cap, h1, h4, fun h => (by cases h), .inr ⟨g, rfl, fun j i hj => h5 j _ (iv_get hj)⟩⟩
/-- The first k of a list, by a slice expression. -/
def hd (a : Option Addr) (k cap : Nat) : Value := .slice a k cap
/-- What is behind the first k. -/
def tl (a : Option Addr) (k n cap : Nat) : Value := sliced a k n cap 1
theorem rd_hd {w : World} {a : Option Addr} {cap k : Nat} {is : List Int} (h : RsI w a cap is) (hk : k ≤ is.length) : RdI w (hd a k cap) (is.take k) := by
  obtain ⟨h1, h2, h3⟩ := h
  have hl : (is.take k).length = k := by rw [List.length_take]; omega
  refine ⟨a, cap, by unfold hd; rw [hl], by omega, fun h => ?_, fun x hx j i hj => ?_⟩
  · obtain ⟨q1, q2⟩ := h2 h
    subst q1
    exact ⟨by simp, q2⟩
  · rw [List.getElem?_take] at hj
    split at hj
    · exact h3 x hx j i hj
    · cases hj
theorem add_add0 (x : Addr) (i j : Nat) : (x.add i).add j = x.add (i + j) := by
  unfold Addr.add
  by_cases h1 : i = 0 <;> by_cases h2 : j = 0 <;> simp [h1, h2, Nat.add_assoc]
theorem rd_tl {w : World} {a : Option Addr} {cap k : Nat} {is : List Int} (h : RsI w a cap is) (hk : k ≤ is.length) : RdI w (tl a k is.length cap) (is.drop k) := by
  obtain ⟨h1, h2, h3⟩ := h
  have hl : (is.drop k).length = is.length - k := by rw [List.length_drop]
  unfold tl sliced
  refine ⟨_, cap - k, by rw [hl], by omega, fun h => ?_, fun x hx j i hj => ?_⟩
  · cases a with
    | none =>
      obtain ⟨q1, q2⟩ := h2 rfl
      subst q1
      simp at hk
      subst hk
      exact ⟨by simp, by omega⟩
    | some x => split at h <;> cases h
  · have hjl : j < (is.drop k).length := by
      rcases Nat.lt_or_ge j (is.drop k).length with h4 | h4
      · exact h4
      · rw [List.getElem?_eq_none h4] at hj; cases hj
    have hne : cap ≠ k := by omega
    rw [if_neg hne] at hx
    cases a with
    | none => cases hx
    | some y =>
      injection hx with hx
      subst hx
      rw [Nat.mul_one, add_add0]
      rw [List.getElem?_drop] at hj
      exact h3 y rfl (k + j) i hj
section
variable {P : Program} {ops : Array Oper} {rest : List Oper} {o : Oper} {a : Act} {w : World} {Q : Exit → Act → World → Prop}
theorem puts_hd (x y : Operand) (ho : o.op = .slice 24 x none (some y) none) (ad : Option Addr) (n cap k : Nat) (hx : a.eval x = .slice ad n cap) (hy : a.eval y = .int .i64 (k : Int)) (hk : k ≤ cap) (hz : ad = none ∨ ∃ g, ad = some ⟨g, 0, none⟩) : Puts Try.prog o a w (hd ad k cap) := by
  have hu : Try.prog.underlying 24 = some (.slice (Try.prog.elem 24)) := by rw [Try.underlying24]; rfl
  have h := run_slice_h (P := Try.prog) (w := w) 24 ad n cap hu .i64 (k : Int) (by omega) (by omega)
  rw [Int.toNat_natCast] at h
  have hs : (sizeOf (Try.prog.elem 24)).run Try.prog w = .ok 1 w := Try.sizeOf3 w
  rw [hs, Result.andThen_ok] at h
  have e : sliced ad 0 k cap 1 = hd ad k cap := by
    unfold sliced hd
    rcases hz with rfl | ⟨g, rfl⟩
    · simp
    · simp [Addr.add]
  rw [e] at h
  unfold Puts execOp
  simp only [ho, Option.map_some, Option.map_none, hx, hy]
  simp [run_sliceAt_slice (P := Try.prog) (h := hu), h]
theorem puts_tl (x y : Operand) (ho : o.op = .slice 24 x (some y) none none) (ad : Option Addr) (n cap k : Nat) (hx : a.eval x = .slice ad n cap) (hy : a.eval y = .int .i64 (k : Int)) (hk : k ≤ n) : Puts Try.prog o a w (tl ad k n cap) := by
  have hu : Try.prog.underlying 24 = some (.slice (Try.prog.elem 24)) := by rw [Try.underlying24]; rfl
  have h := run_slice_l (P := Try.prog) (w := w) 24 ad n cap hu .i64 (k : Int) (by omega) (by omega)
  rw [Int.toNat_natCast] at h
  have hs : (sizeOf (Try.prog.elem 24)).run Try.prog w = .ok 1 w := Try.sizeOf3 w
  rw [hs, Result.andThen_ok] at h
  unfold Puts execOp
  simp only [ho, Option.map_some, Option.map_none, hx, hy]
  simp [run_sliceAt_slice (P := Try.prog) (h := hu), h, tl]
end
/-- 'append(s, list...)'. -/
theorem appR {ops : Array Oper} {rest : List Oper} {o : Oper} {a : Act} {w : World} {Q : Exit → Act → World → Prop} (hgd : o.guard = none) (s x : Operand) (ho : o.op = .call { callee := .builtin .append, args := #[s, x], argTypes := #[24, 24] }) (base : Nat) (v u : Value) (is is2 : List Int) (hs : a.eval s = v) (hx : a.eval x = u)
    (hown : OwI w base v is) (hrd : RdI w u is2) (hlen : is.length + is2.length ≤ 1000000) (hbase : base ≤ w.heap.size)
    (h : ∀ v' w', OwI w' base v' (is ++ is2) → Below base w w' → wpList Try.prog ops Q rest (a.put o.dst v') w') : wpList Try.prog ops Q (o :: rest) a w := by
  obtain ⟨ad, cap, rfl, hc, hn, hat⟩ := hrd
  obtain ⟨i, hi1, hi2, hi3, hi4⟩ := info_of (P := Try.prog) (e := 3) (z := .int .i64 0) (s := 1) (b := 8) (by kernel_rfl)
  cases ad with
  | none =>
    obtain ⟨q1, q2⟩ := hn rfl
    subst q1 q2
    exact wpList_append_own_none hgd s x 24 ho base 3 i 1 Try.underlying24 hi1 v (iv is).length (iv is) hs hown hx (h v w (by rw [List.append_nil]; exact hown) (Below.refl _ _))
  | some ad =>
    have hat2 := hat ad rfl
    refine wpList_append_own w hgd s x 24 ho base 3 i (.int .i64 0) 1 8 Try.underlying24 hi1 hi2 hi3 hi4 rfl (by omega) v (iv is).length (iv is) hs hown ad is2.length cap (iv is2) hx (by rw [iv_len]; omega) (fun j u hj => ?_) (fun u hu => ?_) (by unfold maxLen; rw [iv_len]; omega) (by rw [iv_len]; omega) hbase ?_
    · unfold iv at hj
      rw [List.getElem?_map] at hj
      cases hq : is2[j]? with
      | none => rw [hq] at hj; cases hj
      | some q =>
        rw [hq] at hj
        injection hj with hj
        subst hj
        exact hat2 j q hq
    · unfold iv at hu
      obtain ⟨q, _, rfl⟩ := List.mem_map.1 hu
      rfl
    · intro v' w' h1 h2 _
      refine h v' w' ?_ ((Below.refl _ _).grown h2 hbase fun k hk => (World.ownsRow.lt hown k hk).1)
      unfold OwI Own
      rw [iv_app, List.length_append, iv_len is2]
      exact h1
theorem gives_grow {o : Oper} {a : Act} {w : World} (x y : Operand) (ho : o.op = .call { callee := .builtin .append, args := #[x, y], argTypes := #[24, 3] }) (k : Nat) (hx : a.eval x = .slice none 0 0) (hy : a.eval y = .int .i64 (k : Int)) (h0 : 0 < k) (hk : k ≤ 1000000) :
    ∃ cap w', Gives Try.prog o a w (.slice (some ⟨w.heap.size, 0, none⟩) k cap) w' ∧ Below w.heap.size w w' ∧ (∃ cur : Array Value, w'.heap[w.heap.size]? = some (.cells cur 3 (0, 0)) ∧ cur.size = cap) ∧ k ≤ cap ∧ cap ≤ maxLen := by
  obtain ⟨i, hi1, hi2, hi3, hi4⟩ := info_of (P := Try.prog) (e := 3) (z := .int .i64 0) (s := 1) (b := 8) (by kernel_rfl)
  have hmax : grownCap w (0 + k) 0 3 ≤ maxLen := grownCap_le_maxLen w (0 + k) 0 3 (by unfold maxLen; omega)
  have hge := grownCap_ge w (0 + k) 0 3
  have hnx : Builtin.nextslicecap (0 + k) 0 * i.bytes ≤ 281474976710656 := by
    unfold Builtin.nextslicecap
    rw [if_pos (by omega), hi4]; omega
  have hr := Lib.run_append_grow_zeros (P := Try.prog) w 24 3 o.type 3 i (.int .i64 0) .i64 .i64 Try.underlying24 Try.underlying3 hi1 hi2 none 0 0 [] (by simp [Builtin.firstCells]) k h0 (by rw [hi3]; omega) (by omega) (by omega) (by rw [hi4]; omega) hnx
  rw [Nat.zero_add] at hr hmax hge
  refine ⟨grownCap w k 0 3, w.drew.alloc (.cells (([] : List Value).toArray ++ Builtin.zeroCells (Value.int .i64 0).cells k ++ Builtin.zeroCells (Value.int .i64 0).cells (grownCap w k 0 3 - k)) 3), .inl ?_, ?_, ⟨_, heap_alloc_new w.drew _, ?_⟩, hge, hmax⟩
  · unfold execOp
    simp [ho, resolve, invoke, builtin, hx, hy, hr, Result.andThen]
  · exact (show Below w.heap.size w w.drew from ⟨rfl, rfl, rfl, Nat.le_refl _, fun _ _ => rfl⟩).alloc (Nat.le_refl _) _
  · simp [size_zeroCells, Value.cells]
    omega
/-- Room for so many numbers. -/
def GrP (w : World) (e : Ending) (w' : World) : Prop := ∃ v, e = .returned v ∧ OwI w' w.heap.size v [] ∧ Below w.heap.size w w'
theorem ow_room {w : World} {g cap : Nat} {cur : Array Value} {b : Nat} (h : w.heap[g]? = some (.cells cur 3 (0, 0))) (hc : cur.size = cap) (hm : cap ≤ maxLen) (hb : b ≤ g) : OwI w b (.slice (some ⟨g, 0, none⟩) 0 cap) [] :=
  ⟨rfl, .inr ⟨g, cap, cur, rfl, hb, h, Nat.zero_le _, hm, by omega, rfl⟩⟩
set_option maxHeartbeats 1000000 in
theorem grow_any (n : Nat) (w : World) (hn : n ≤ 1000000) : Calls Try.prog 63 #[.slice none 0 0, .int .i64 (n : Int)] w (GrP w) := by
  by_cases h0 : n = 0
  · subst h0
    go_enter Try.func63, Try.ntmps63
    go_wp2
    go_ret
    exact ⟨_, rfl, Own.nil _ _ _, Below.refl _ _⟩
  · have hn0 : 0 < n := by omega
    go_enter Try.func63, Try.ntmps63
    have hb8 : (Try.t3.bytes : Int) = 8 := by kernel_rfl
    have hnx : Builtin.nextslicecap n 0 * Try.t3.bytes ≤ 281474976710656 := by
      unfold Builtin.nextslicecap
      rw [if_pos (by omega)]
      have : Try.t3.bytes = 8 := by kernel_rfl
      rw [this]; omega
    have hmax : grownCap w n 0 3 ≤ maxLen := grownCap_le_maxLen w n 0 3 (by unfold maxLen; omega)
    have hge := grownCap_ge w n 0 3
    have HM := Lib.hid (And.intro hmax hge)
    clear hmax hge
    go_wp2_with fail
    go_ret
    refine ⟨_, rfl, ow_room (heap_alloc_new w.drew _) ?_ HM.out.1 (Nat.le_refl _), (show Below w.heap.size w w.drew from ⟨rfl, rfl, rfl, Nat.le_refl _, fun _ _ => rfl⟩).alloc (Nat.le_refl _) _⟩
    have := HM.out.2
    unfold grownCap at this
    simp [size_zeroCells]
    omega
end Go.Proofs.Ytbcphejblopekaa
