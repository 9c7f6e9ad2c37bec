/- Laws of single operations on whole arrays and structs, and of blocks of memory that are known whole. -/
import Derived.WalkKit
import Derived.WalkSpells
import Derived.WalkLawsBesides
import Derived.BigQuiet
import Derived.Lib.Hide
import Derived.StillTailTactics
import Derived.Laws.CopyOwn
import Derived.Deep.RegionHeld3
import Derived.Deep.LoopGhost
import Derived.Maps.RangeWalk
namespace Go.Proofs.Ytibglmcpbbikdaa
open Go.RowKit
/-- Block g holds the cells cs, of type t, none of them shared with a text. -/
def Blk (w : World) (g : Nat) (t : TypeId) (cs : Array Value) : Prop := w.heap[g]? = some (.cells cs t (0, 0))
section
variable {w w' : World} {g : Nat} {t : TypeId} {cs : Array Value}
theorem Blk.lt (h : Blk w g t cs) : g < w.heap.size := by
  rcases Nat.lt_or_ge g w.heap.size with h1 | h1
  · exact h1
  · unfold Blk at h; rw [Array.getElem?_eq_none h1] at h; cases h
theorem Blk.cell (h : Blk w g t cs) (i : Nat) : w.cell? ⟨g, i, none⟩ = cs[i]? := cell_of_row w g i cs t (0, 0) h
theorem Blk.free (h : Blk w g t cs) (i : Nat) : w.frozen? ⟨g, i, none⟩ = false := frozen_of_row w g i cs t h
theorem Blk.newest (w : World) (t : TypeId) (cs : Array Value) : Blk (w.alloc (.cells cs t)) w.heap.size t cs := heap_alloc_new w _
theorem Blk.new (w : World) (t : TypeId) (cs : Array Value) (e : g = w.heap.size) : Blk (w.alloc (.cells cs t)) g t cs := by subst e; exact heap_alloc_new w _
theorem Blk.drewN (h : Blk w g t cs) (n : Nat) : Blk (w.drewN n) g t cs := h
theorem Blk.drew (h : Blk w g t cs) : Blk w.drew g t cs := h
theorem Blk.alloc (h : Blk w g t cs) (o : Obj) : Blk (w.alloc o) g t cs := (Below.heap_alloc w o g h.lt).trans h
theorem Blk.below {B : Nat} (h : Blk w g t cs) (hb : Below B w w') (hg : g < B) : Blk w' g t cs := (hb.block g hg).trans h
theorem Blk.set (h : Blk w g t cs) (i : Nat) (v : Value) : Blk (w.setCell ⟨g, i, none⟩ v) g t (cs.setIfInBounds i v) := heap_setCell_same w g i cs t v h
theorem Blk.setOff {g' i : Nat} {v : Value} (h : Blk w g t cs) (hne : g ≠ g') : Blk (w.setCell ⟨g', i, none⟩ v) g t cs := (heap_setCell_other w ⟨g', i, none⟩ g v hne).trans h
theorem Blk.row {new : Array Value} (h : Blk w g t cs) : Blk (w.setRow g new) g t new := setRow_heap w g cs new t (0, 0) h
theorem Blk.rowOff {k : Nat} {new : Array Value} (h : Blk w g t cs) (hne : g ≠ k) : Blk (w.setRow k new) g t cs := (setRow_other w k g new hne).trans h
theorem Blk.same {cs' : Array Value} (h : Blk w g t cs) (e : cs = cs') : Blk w g t cs' := e ▸ h
theorem below_setRow {B k : Nat} {new : Array Value} (h : Below B w w') (hk : B ≤ k) : Below B w (w'.setRow k new) :=
  h.trans ⟨rfl, rfl, rfl, by simp, fun i hi => setRow_other w' k i new (by omega)⟩
theorem below_drewN' {B n : Nat} (h : Below B w w') : Below B w (w'.drewN n) := ⟨h.os, h.tape, h.output, h.size, h.block⟩
end
section
variable {P : Program} {ops : Array Oper} {rest : List Oper} {o : Oper} {a : Act} {w w' : World} {Q : Exit → Act → World → Prop} {C : World → Prop} {q : Act → Prop}
/-- In world w the operation o leaves the value v, and the world w'. -/
def Gives (P : Program) (o : Oper) (a : Act) (w : World) (v : Value) (w' : World) : Prop := (execOp a.eval o).run P w = .ok (.value v) w' ∨ ((execOp a.eval o).run P w = .ok .skip w' ∧ v = undef)
theorem Gives.plain {v : Value} (hg : o.guard = none) (h : Gives P o a w v w') (k : wpList P ops Q rest (a.put o.dst v) w') : wpList P ops Q (o :: rest) a w :=
  wpList_plain hg fun K hK => by
    unfold Oper.wp
    rcases h with h | ⟨h, rfl⟩ <;> (rw [h]; simp only [Oper.upon]; exact hK _ _ k)
theorem Gives.want {v : Value} (hg : Region.wanted o (yielded ops a.tmps) = true) (h : Gives P o a w v w') (k : wpList P ops Q rest (a.put o.dst v) w') : wpList P ops Q (o :: rest) a w :=
  wpList_step fun K hK => by
    rw [if_pos hg]
    unfold Oper.wp
    rcases h with h | ⟨h, rfl⟩ <;> (rw [h]; simp only [Oper.upon]; exact hK _ _ k)
theorem Gives.quiet {v : Value} (h : ∀ w, C w → Gives P o a w v w) (k : q (a.put o.dst v)) : o.quiet P a C q :=
  ⟨v, fun w hw => by
    unfold Oper.quietAt
    rcases h w hw with h1 | ⟨h1, hv⟩
    · rw [h1]; exact ⟨rfl, rfl⟩
    · rw [h1]; exact ⟨rfl, hv⟩, k⟩
theorem still_go {q : Act → Prop} {v : Value} (hg : o.guard = none) (h : Gives P o a w v w) (k : wpStill P ops w q rest (a.put o.dst v)) : wpStill P ops w q (o :: rest) a := by
  have hw : Region.wanted o (yielded ops a.tmps) = true := by simp [Region.wanted, hg]
  unfold wpStill
  rw [if_pos hw]
  unfold Oper.still
  rcases h with h1 | ⟨h1, rfl⟩
  · rw [h1]; exact ⟨rfl, k⟩
  · rw [h1]; exact ⟨rfl, k⟩
theorem quiet_go {v : Value} (hg : o.guard = none) (h : ∀ w, C w → Gives P o a w v w) (k : wpQuiet P ops C q rest (a.put o.dst v)) : wpQuiet P ops C q (o :: rest) a := by
  have hw : Region.wanted o (yielded ops a.tmps) = true := by simp [Region.wanted, hg]
  unfold wpQuiet
  rw [if_pos hw]
  exact Gives.quiet h k
theorem quiet_skip (hw : Region.wanted o (yielded ops a.tmps) = false) (k : wpQuiet P ops C q rest (a.put o.dst undef)) : wpQuiet P ops C q (o :: rest) a := by
  unfold wpQuiet
  rw [if_neg (by rw [hw]; exact Bool.false_ne_true)]
  exact k
theorem quiet_want {v : Value} (hw : Region.wanted o (yielded ops a.tmps) = true) (h : ∀ w, C w → Gives P o a w v w) (k : wpQuiet P ops C q rest (a.put o.dst v)) : wpQuiet P ops C q (o :: rest) a := by
  unfold wpQuiet
  rw [if_pos hw]
  exact Gives.quiet h k
/-- Two results that lie in cells. -/
theorem results_two {fn : Func} {p p' : Tmp} {ty ty' : TypeId} {v v' : Value} {ad ad' : Addr} (h : fn.results = #[.cell p ty, .cell p' ty']) (tmps : Array Value) (w : World) (hp : tmps.getD p undef = .pointer (some ad)) (hp' : tmps.getD p' undef = .pointer (some ad'))
    (h1 : (loadVar ty ad).run P w = .ok v w) (h2 : (loadVar ty' ad').run P w = .ok v' w) : (results fn tmps).run P w = .ok (.tuple #[v, v']) w := by
  have q1 : tmps[p]?.getD undef = .pointer (some ad) := by simpa using hp
  have q2 : tmps[p']?.getD undef = .pointer (some ad') := by simpa using hp'
  simp [results, h, q1, q2, asAddr, h1, h2]
theorem results_two_tmp {fn : Func} {p p' q : Tmp} {ty ty' : TypeId} {v v' u : Value} {ad ad' : Addr} (h : fn.results = #[.cell p ty, .cell p' ty', .tmp q]) (tmps : Array Value) (w : World) (hp : tmps.getD p undef = .pointer (some ad)) (hp' : tmps.getD p' undef = .pointer (some ad')) (hq : tmps.getD q undef = u)
    (h1 : (loadVar ty ad).run P w = .ok v w) (h2 : (loadVar ty' ad').run P w = .ok v' w) : (results fn tmps).run P w = .ok (.tuple #[v, v', u]) w := by
  have q1 : tmps[p]?.getD undef = .pointer (some ad) := by simpa using hp
  have q2 : tmps[p']?.getD undef = .pointer (some ad') := by simpa using hp'
  have q3 : tmps[q]?.getD undef = u := by simpa using hq
  simp [results, h, q1, q2, q3, asAddr, h1, h2]
theorem results_one_tmp {fn : Func} {p q : Tmp} {ty : TypeId} {v u : Value} {ad : Addr} (h : fn.results = #[.cell p ty, .tmp q]) (tmps : Array Value) (w : World) (hp : tmps.getD p undef = .pointer (some ad)) (hq : tmps.getD q undef = u)
    (h1 : (loadVar ty ad).run P w = .ok v w) : (results fn tmps).run P w = .ok (.tuple #[v, u]) w := by
  have q1 : tmps[p]?.getD undef = .pointer (some ad) := by simpa using hp
  have q3 : tmps[q]?.getD undef = u := by simpa using hq
  simp [results, h, q1, q3, asAddr, h1]
/-- A whole array or struct that lies in memory from a place on. -/
def Lies (w : World) (g off : Nat) (cs : Array Value) : Prop := ∀ j v, cs.toList[j]? = some v → w.cell? ((⟨g, off, none⟩ : Addr).add j) = some v
theorem addr_add (g off j : Nat) : (⟨g, off, none⟩ : Addr).add j = ⟨g, off + j, none⟩ := by
  unfold Addr.add; split
  · simp_all
  · rfl
theorem Blk.lies {g : Nat} {t : TypeId} {cs : Array Value} (h : Blk w g t cs) : Lies w g 0 cs := fun j v hv => by
  rw [addr_add, h.cell, Nat.zero_add]; simpa using hv
theorem Blk.liesHead {g : Nat} {t : TypeId} {cs more : Array Value} (h : Blk w g t (cs ++ more)) : Lies w g 0 cs := fun j v hv => by
  rw [addr_add, h.cell, Nat.zero_add, Array.getElem?_append]
  have hj : j < cs.size := by
    rcases Nat.lt_or_ge j cs.size with h1 | h1
    · exact h1
    · rw [List.getElem?_eq_none (by simpa using h1)] at hv; cases hv
  rw [if_pos hj]; simpa using hv
/-- An operation that leaves the value v, and the world as it is. -/
def Puts (P : Program) (o : Oper) (a : Act) (w : World) (v : Value) : Prop := (execOp a.eval o).run P w = .ok (.value v) w
theorem Puts.gives {v : Value} (h : Puts P o a w v) : Gives P o a w v w := .inl h
variable {md : Region.Mode} {S : World → Prop} {fuel : Nat} {listed : Array Bool}
variable {l : List Oper}
/-- In a region that draws its order: an operation that every world of the class lets through with the same value goes first. -/
theorem held_take (i : Nat) {v : Value} (hi : l[i]? = some o) (hg : o.guard = none) (hs : Region.noSelect l.toArray = true) (hf : Region.free md l.toArray listed i = true) (hr : (Region.ready md l.toArray listed).contains i = true)
    (hQ : ∀ c a w, Q (.panic c) (a.put o.dst v) w → Q (.panic c) a w) (hy : ∀ w, S w → Puts P o a w v) (hS : S w) (k : wpAnyH P md l.toArray Q S fuel (listed.setIfInBounds i true) (a.put o.dst v) w) : wpAnyH P md l.toArray Q S (fuel + 1) listed a w :=
  wpAnyH_take (by rw [List.getElem?_toArray]; exact hi) hs hf hr hQ (.inl ⟨by simp [Region.wanted, hg], hy⟩) hS k
/-- .. a guarded one, whose guard says yes. -/
theorem held_want (i : Nat) {v : Value} (hi : l[i]? = some o) (hw : Region.wanted o (yielded l.toArray a.tmps) = true) (hs : Region.noSelect l.toArray = true) (hf : Region.free md l.toArray listed i = true) (hr : (Region.ready md l.toArray listed).contains i = true)
    (hQ : ∀ c a w, Q (.panic c) (a.put o.dst v) w → Q (.panic c) a w) (hy : ∀ w, S w → Puts P o a w v) (hS : S w) (k : wpAnyH P md l.toArray Q S fuel (listed.setIfInBounds i true) (a.put o.dst v) w) : wpAnyH P md l.toArray Q S (fuel + 1) listed a w :=
  wpAnyH_take (by rw [List.getElem?_toArray]; exact hi) hs hf hr hQ (.inl ⟨hw, hy⟩) hS k
/-- .. whose guard says no. -/
theorem held_skip (i : Nat) (hi : l[i]? = some o) (hw : Region.wanted o (yielded l.toArray a.tmps) = false) (hs : Region.noSelect l.toArray = true) (hf : Region.free md l.toArray listed i = true) (hr : (Region.ready md l.toArray listed).contains i = true)
    (hQ : ∀ c a w, Q (.panic c) (a.put o.dst undef) w → Q (.panic c) a w) (hS : S w) (k : wpAnyH P md l.toArray Q S fuel (listed.setIfInBounds i true) (a.put o.dst undef) w) : wpAnyH P md l.toArray Q S (fuel + 1) listed a w :=
  wpAnyH_take (v := undef) (by rw [List.getElem?_toArray]; exact hi) hs hf hr hQ (.inr ⟨hw, rfl⟩) hS k
/-- The one operation that may come up. -/
theorem held_only (i : Nat) {v : Value} {w' : World} (hr : Region.ready md l.toArray listed = [i]) (hi : l[i]? = some o) (hg : o.guard = none) (h : Gives P o a w v w') (hS : S w') (k : wpAnyH P md l.toArray Q S fuel (listed.setIfInBounds i true) (a.put o.dst v) w') : wpAnyH P md l.toArray Q S (fuel + 1) listed a w :=
  wpAnyH_ready hr (by simp) (AllReadyH.cons (by rw [List.getElem?_toArray]; exact hi) (fun K hK => by
    rw [if_pos (by simp [Region.wanted, hg])]
    unfold Oper.wp
    rcases h with h | ⟨h, rfl⟩ <;> (rw [h]; exact hK.out _ _ hS fun _ => k)) AllReadyH.nil)
/-- .. which is a call. -/
theorem held_call (i : Nat) {f : FuncId} {args : Array Value} {R : Ending → World → Prop} (hr : Region.ready md l.toArray listed = [i]) (hi : l[i]? = some o) (hg : o.guard = none) (h : (execOp a.eval o).run P w = .ok (.enter f args) w) (c : Calls P f args w R)
    (k : ∀ e w', R e w' → ∃ v, e = .returned v ∧ S w' ∧ wpAnyH P md l.toArray Q S fuel (listed.setIfInBounds i true) (a.put o.dst v) w') : wpAnyH P md l.toArray Q S (fuel + 1) listed a w :=
  wpAnyH_ready hr (by simp) (AllReadyH.cons (by rw [List.getElem?_toArray]; exact hi) (fun K hK => by
    rw [if_pos (by simp [Region.wanted, hg])]
    unfold Oper.wp
    rw [h]
    refine Calls.mono c fun e w' he => ?_
    obtain ⟨v, rfl, hS, hk⟩ := k e w' he
    exact hK.out _ _ hS fun _ => hk) AllReadyH.nil)
theorem puts_move (x : Operand) (ho : o.op = .move x) : Puts P o a w (a.eval x) := by unfold Puts execOp; simp [ho]
theorem puts_assign (x : Operand) (ho : o.op = .assign x) : Puts P o a w (a.eval x) := by unfold Puts execOp; simp [ho]
theorem puts_neqBool (t yt : TypeId) (x y : Operand) (b c : Bool) (ho : o.op = .binOp .neq t x y yt) (hx : a.eval x = .bool b) (hy : a.eval y = .bool c) (ht : P.underlying t = some .bool) : Puts P o a w (.bool (b != c)) := by
  unfold Puts execOp; simp only [ho, hx, hy]; simp [eqGuard, run_neq_bool _ _ _ _ ht]; cases b <;> cases c <;> rfl
theorem puts_move_to (x : Operand) (v : Value) (ho : o.op = .move x) (hx : a.eval x = v) : Puts P o a w v := by subst hx; exact puts_move x ho
theorem puts_assign_to (x : Operand) (v : Value) (ho : o.op = .assign x) (hx : a.eval x = v) : Puts P o a w v := by subst hx; exact puts_assign x ho
theorem puts_pick_yes (c x y : Operand) (v : Value) (ho : o.op = .pick c x y) (hc : a.eval c = .bool true) (hx : a.eval x = v) : Puts P o a w v := by subst hx; unfold Puts execOp; simp [ho, hc, asBool]
theorem puts_pick_no (c x y : Operand) (v : Value) (ho : o.op = .pick c x y) (hc : a.eval c = .bool false) (hy : a.eval y = v) : Puts P o a w v := by subst hy; unfold Puts execOp; simp [ho, hc, asBool]
theorem puts_pick (c x y : Operand) (b : Bool) (ho : o.op = .pick c x y) (hc : a.eval c = .bool b) : Puts P o a w (if b then a.eval x else a.eval y) := by unfold Puts execOp; cases b <;> simp [ho, hc, asBool]
theorem puts_gtr (t yt : TypeId) (x y : Operand) (k : IntKind) (m n : Int) (b : Bool) (ho : o.op = .binOp .gtr t x y yt) (hx : a.eval x = .int k m) (hy : a.eval y = .int k n) (hb : decide (n < m) = b) : Puts P o a w (.bool b) := by
  subst hb; unfold Puts execOp; simp only [ho, hx, hy]; simp [eqGuard, go_sem]
/-- A function of the program's own, by name. -/
def plainFn (P : Program) (f : FuncId) : Bool := (P.funcs[f]?).any fun fn => !(fn.name == "runtime.NumGoroutine") && !fn.body.isNone
theorem puts_call (f : FuncId) (args : Array Operand) (ts : Array TypeId) (ho : o.op = .call { callee := .value (.func f), args := args, argTypes := ts }) (ve : Array Value) (he : args.map a.eval = ve) (hb : plainFn P f = true) : (execOp a.eval o).run P w = .ok (.enter f ve) w := by
  unfold plainFn at hb
  cases hf : P.funcs[f]? with
  | none => simp [hf] at hb
  | some fn =>
    simp only [hf, Option.any_some, Bool.and_eq_true, Bool.not_eq_true'] at hb
    unfold execOp
    have h1 : ¬ fn.name = "runtime.NumGoroutine" := by have := hb.1; simpa using this
    have h2 : ¬ fn.body = none := by intro h; have := hb.2; simp [h] at this
    simp [ho, he, resolve, invoke, callFunc, Deferred.ofValue, Act.eval, hf, h1, h2]
theorem puts_call1 (f : FuncId) (x : Operand) (ts : Array TypeId) (v : Value) (ho : o.op = .call { callee := .value (.func f), args := #[x], argTypes := ts }) (hx : a.eval x = v) (hb : plainFn P f = true) : (execOp a.eval o).run P w = .ok (.enter f #[v]) w :=
  puts_call f #[x] ts ho #[v] (by subst hx; simp) hb
theorem puts_call2 (f : FuncId) (x y : Operand) (ts : Array TypeId) (v u : Value) (ho : o.op = .call { callee := .value (.func f), args := #[x, y], argTypes := ts }) (hx : a.eval x = v) (hy : a.eval y = u) (hb : plainFn P f = true) : (execOp a.eval o).run P w = .ok (.enter f #[v, u]) w :=
  puts_call f #[x, y] ts ho #[v, u] (by subst hx; subst hy; simp) hb
theorem puts_extract (x : Operand) (i : Nat) (vs : List Value) (v : Value) (ho : o.op = .extract x i) (hx : a.eval x = .tuple vs.toArray) (hv : vs[i]? = some v) : Puts P o a w v := by
  unfold Puts execOp; simp only [ho, hx, Instr.extract, List.getElem?_toArray, hv, Sem.run_bind, Sem.run_pure, Result.andThen_ok]
theorem ext (hg : o.guard = none) (x : Operand) (i : Nat) (vs : List Value) (v : Value) (ho : o.op = .extract x i) (hx : a.eval x = .tuple vs.toArray) (hv : vs[i]? = some v) (k : wpList P ops Q rest (a.put o.dst v) w) : wpList P ops Q (o :: rest) a w :=
  (puts_extract x i vs v ho hx hv).gives.plain hg k
theorem puts_load (ty : TypeId) (x : Operand) (ho : o.op = .load ty x) (g off : Nat) (cs : Array Value) (hx : a.eval x = .pointer (some ⟨g, off, none⟩)) (hl : Lies w g off cs) (d : TypeDesc)
    (hu : P.underlying ty = some d) (hd : (match d with | .struct _ | .array _ _ => true | _ => false) = true) (hi : (P.info? ty).map (·.size) = some cs.size) : Puts P o a w (.agg cs) := by
  have hc : (loadCells ⟨g, off, none⟩ cs.toList.length).run P w = .ok cs.toList.toArray w := run_loadCells_list (P := P) w ⟨g, off, none⟩ cs.toList hl
  have hagg : (isAgg ty).run P w = .ok true w := by
    unfold isAgg
    rw [Sem.run_bind, run_underlying hu w]
    cases d <;> simp_all
  simp only [Array.length_toList, Array.toArray_toList] at hc
  cases hq : P.info? ty with
  | none => simp [hq] at hi
  | some i =>
    have hs : i.size = cs.size := by simpa [hq] using hi
    unfold Puts execOp
    simp [ho, hx, Instr.loadAt, Instr.sureAddr, loadVar, Sem.run_bind, hagg, sizeOf, typeInfo, hq, hs, hc]
/-- A cell is loaded. -/
theorem puts_cell (ty : TypeId) (x : Operand) (ho : o.op = .load ty x) (g off : Nat) (v : Value) (hx : a.eval x = .pointer (some ⟨g, off, none⟩)) (hc : w.cell? ⟨g, off, none⟩ = some v) (d : TypeDesc)
    (hu : P.underlying ty = some d) (hd : (match d with | .struct _ | .array _ _ => false | _ => true) = true) : Puts P o a w v := by
  have hagg : (isAgg ty).run P w = .ok false w := by
    unfold isAgg
    rw [Sem.run_bind, run_underlying hu w]
    cases d <;> simp_all
  unfold Puts execOp
  simp [ho, hx, Instr.loadAt, Instr.sureAddr, loadVar, Sem.run_bind, hagg, hc]
theorem gives_store (ty : TypeId) (x y : Operand) (ho : o.op = .store ty x y) (g : Nat) (cs old : Array Value) (hx : a.eval x = .pointer (some ⟨g, 0, none⟩)) (hy : a.eval y = .agg cs)
    (t : TypeId) (hg : Blk w g t old) (hi : (P.info? ty).map (·.size) = some cs.size) (hs : old.size = cs.size) (h1 : cs.all (·.oneCell') = true) : Gives P o a w undef (w.setRow g cs) := by
  refine .inr ⟨?_, rfl⟩
  unfold execOp
  simp only [ho, hx, hy, Instr.storeAt, Instr.sureAddr, Sem.run_bind, Sem.run_pure, Result.andThen_ok, run_storeVar_row w g t ty old cs hg hi hs h1]
end
end Go.Proofs.Ytibglmcpbbikdaa
