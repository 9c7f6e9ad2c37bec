/- Two arrays of integers are compared. -/
import Derived.Test.YtckmpenlpkhnfabArr
namespace Go.Proofs.Ytckmpenlpkhnfab
open Go.RowKit
section
variable {P : Program} {w : World}
/-- What the walk over the indices comes to. -/
def eqAll (f g : Nat → Int) : List Nat → Bool
  | [] => true
  | i :: l => if f i == g i then eqAll f g l else false
theorem eqAll_iff (f g : Nat → Int) : ∀ l, eqAll f g l = true ↔ ∀ i ∈ l, f i = g i
  | [] => by simp [eqAll]
  | i :: l => by
    have := eqAll_iff f g l
    unfold eqAll
    by_cases h : f i = g i
    · simp [h, this]
    · simp [h]
theorem run_part_int (e : TypeId) (k : IntKind) (cs : Array Value) (i : Nat) (v : Value) (he : P.underlying e = some (.int k)) (hv : cs[i]? = some v) : (part e cs i).run P w = .ok v w := by
  unfold part isAgg
  simp [Sem.run_bind, run_underlying he, hv]
theorem run_equalIn_arr (d : Nat) (t e len : Nat) (k : IntKind) (f g : Nat → Int) (xs ys : Array Value) (ht : P.underlying t = some (.array len e)) (he : P.underlying e = some (.int k)) (hs : (P.info? e).map (·.size) = some 1)
    (hx : ∀ i, i < len → xs[i]? = some (.int k (f i))) (hy : ∀ i, i < len → ys[i]? = some (.int k (g i))) :
    (Op.equalIn (d + 2) t (.agg xs) (.agg ys)).run P w = .ok (eqAll f g (List.range len)) w := by
  cases hq : P.info? e with
  | none => simp [hq] at hs
  | some i =>
    have hs1 : i.size = 1 := by simpa [hq] using hs
    have hsz : (sizeOf e).run P w = .ok 1 w := by simp [sizeOf, typeInfo, Sem.run_bind, hq, hs1]
    obtain ⟨D, hD⟩ : ∃ D, D = d + 1 := ⟨_, rfl⟩
    have key : ∀ l : List Nat, (∀ i ∈ l, i < len) → ∀ b : Bool, eqAll f g l = b →
        (forIn (m := Sem) l ((none, ()) : Option Bool × Unit) fun i _ => do
          let x ← part e xs (i * 1)
          let y ← part e ys (i * 1)
          let r ← Op.equalIn D e x y
          if (!r) = true then pure (ForInStep.done (some false, ())) else pure (ForInStep.yield (none, ()))).run P w
        = .ok (if b then (none, ()) else (some false, ())) w := by
      intro l
      induction l with
      | nil => intro _ b hb; subst hb; simp [eqAll]
      | cons i l ih =>
        intro hl b hb
        have hi := hl i (by simp)
        have hpx : (part e xs (i * 1)).run P w = .ok (.int k (f i)) w := by rw [Nat.mul_one]; exact run_part_int e k xs i _ he (hx i hi)
        have hpy : (part e ys (i * 1)).run P w = .ok (.int k (g i)) w := by rw [Nat.mul_one]; exact run_part_int e k ys i _ he (hy i hi)
        have heq : (Op.equalIn D e (.int k (f i)) (.int k (g i))).run P w = .ok (f i == g i) w := by
          rw [hD]; exact run_equalIn_int w d e k k _ _ he
        rw [List.forIn_cons]
        simp only [Sem.run_bind, hpx, Result.andThen_ok, hpy, heq, Sem.run_ite]
        cases hfg : (f i == g i) with
        | true =>
          simp only [Bool.not_true, Bool.false_eq_true, if_false, Sem.run_pure, Result.andThen_ok]
          exact ih (fun j hj => hl j (by simp [hj])) b (by rw [← hb]; simp [eqAll, hfg])
        | false =>
          subst hb
          simp [eqAll, hfg]
    have hk := key (List.range len) (fun i hi => List.mem_range.1 hi) _ rfl
    rw [show d + 2 = D + 1 by omega]
    simp only [Op.equalIn, Sem.run_bind, run_underlying ht, Result.andThen_ok, hsz]
    rw [Std.Legacy.Range.forIn_eq_forIn_range']
    simp only [Std.Legacy.Range.size, Nat.sub_zero, Nat.add_sub_cancel, Nat.div_one]
    rw [← List.range_eq_range']
    rw [hk, Result.andThen_ok]
    cases eqAll f g (List.range len) <;> rfl
end
theorem eqAll_row80 (m n : Nat) (hm : m < 10 ^ 80) (hn : n < 10 ^ 80) : eqAll (fun i => (dg m i : Int)) (fun i => (dg n i : Int)) (List.range 80) = decide (m = n) := by
  rw [Bool.eq_iff_iff, eqAll_iff, decide_eq_true_eq]
  constructor
  · intro h
    exact eq_of_dg 80 m n hm hn fun i hi => by have := h i (List.mem_range.2 hi); omega
  · rintro rfl i _; rfl
theorem noGuard80 : Try.prog.eqGuardType Try.prog.depth 41 = false := by kernel_rfl
theorem info8 : (Try.prog.info? 5).map (·.size) = some 1 := by kernel_rfl
section
variable {ops : Array Oper} {rest : List Oper} {o : Oper} {a : Act} {w w' : World} {Q : Exit → Act → World → Prop} {m n : Nat}
theorem run_equal80 (hm : m < 10 ^ 80) (hn : n < 10 ^ 80) (ed : Nat) (he : ed = 9998 + 2) : (Op.equalIn ed 41 (.agg (row80 m)) (.agg (row80 n))).run Try.prog w = .ok (decide (m = n)) w := by
  rw [he, run_equalIn_arr 9998 41 5 80 .u8 (fun i => (dg m i : Int)) (fun i => (dg n i : Int)) (row80 m) (row80 n) Try.underlying41 Try.underlying5 info8 (fun i h => row80_get m i h) (fun i h => row80_get n i h), eqAll_row80 m n hm hn]
theorem gives_eql80 (x y : Operand) (yt : TypeId) (ho : o.op = .binOp .eql 41 x y yt) (hx : a.eval x = .agg (row80 m)) (hy : a.eval y = .agg (row80 n)) (hm : m < 10 ^ 80) (hn : n < 10 ^ 80) : Gives Try.prog o a w (.bool (decide (m = n))) w := by
  refine .inl ?_
  unfold execOp
  simp only [ho, hx, hy, Sem.run_bind, run_eqGuard_agg _ _ _ _ _ _ _ noGuard80, Result.andThen_ok, run_eql_struct, run_equal80 hm hn 10000 rfl, Sem.run_pure]
theorem gives_neq80 (x y : Operand) (yt : TypeId) (ho : o.op = .binOp .neq 41 x y yt) (hx : a.eval x = .agg (row80 m)) (hy : a.eval y = .agg (row80 n)) (hm : m < 10 ^ 80) (hn : n < 10 ^ 80) : Gives Try.prog o a w (.bool (!decide (m = n))) w := by
  refine .inl ?_
  unfold execOp
  simp only [ho, hx, hy, Sem.run_bind, run_eqGuard_agg _ _ _ _ _ _ _ noGuard80, Result.andThen_ok, run_neq_struct, run_equal80 hm hn 10000 rfl, Sem.run_pure]
theorem eq80 (hg : o.guard = none) (x y : Operand) (yt : TypeId) (ho : o.op = .binOp .eql 41 x y yt) (hx : a.eval x = .agg (row80 m)) (hy : a.eval y = .agg (row80 n)) (hm : m < 10 ^ 80) (hn : n < 10 ^ 80) (k : wpList Try.prog ops Q rest (a.put o.dst (.bool (decide (m = n)))) w) : wpList Try.prog ops Q (o :: rest) a w :=
  (gives_eql80 x y yt ho hx hy hm hn).plain hg k
end
end Go.Proofs.Ytckmpenlpkhnfab
