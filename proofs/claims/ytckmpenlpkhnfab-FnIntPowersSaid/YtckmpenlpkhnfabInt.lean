/- impl's integers: a size with a sign; how they are built, and impl.makeInteger. -/
import Derived.Test.YtckmpenlpkhnfabEql
namespace Go.Proofs.Ytckmpenlpkhnfab
open Go.RowKit
/-- The cells of the integer z. -/
def ival (z : Int) : Array Value := irow z.natAbs (decide (z < 0))
/-- A size with a sign. -/
def sgn (neg : Bool) (n : Nat) : Int := if neg then -(n : Int) else n
theorem sgn_abs (neg : Bool) (n : Nat) : (sgn neg n).natAbs = n := by cases neg <;> simp [sgn]
theorem sgn_neg (neg : Bool) (n : Nat) : decide (sgn neg n < 0) = (neg && !decide (n = 0)) := by
  cases neg
  · simp [sgn]
  · simp [sgn]; rw [Bool.eq_iff_iff]; simp; omega
theorem ival_sgn (neg : Bool) (n : Nat) : irow n (neg && !decide (n = 0)) = ival (sgn neg n) := by
  unfold ival; rw [sgn_abs, sgn_neg]
theorem fold_set (off : Nat) : ∀ (L : List Value) (s : Nat) (cs : Array Value) (k : Nat), ((L.zipIdx s).foldl (fun cs p => cs.setIfInBounds (off + p.2) p.1) cs)[k]? = if off + s ≤ k ∧ k < off + s + L.length ∧ k < cs.size then L[k - (off + s)]? else cs[k]?
  | [], s, cs, k => by
    rw [if_neg (by simp; omega)]; rfl
  | v :: L, s, cs, k => by
    rw [List.zipIdx_cons, List.foldl_cons, fold_set off L (s + 1)]
    simp only [Array.size_setIfInBounds, List.length_cons]
    by_cases h1 : off + (s + 1) ≤ k ∧ k < off + (s + 1) + L.length ∧ k < cs.size
    · rw [if_pos h1, if_pos (by omega), show k - (off + s) = (k - (off + (s + 1))) + 1 by omega, List.getElem?_cons_succ]
    · rw [if_neg h1, Array.getElem?_setIfInBounds]
      by_cases h2 : off + s = k
      · rw [if_pos h2]
        by_cases h3 : off + s < cs.size
        · rw [if_pos h3, if_pos (by omega), show k - (off + s) = 0 by omega]; rfl
        · rw [if_neg h3, if_neg (by omega), Array.getElem?_eq_none (by omega)]
      · rw [if_neg h2, if_neg (by omega)]
theorem fill_nil (place : Nat → Option (Nat × Nat)) (cells : Array Value) : Instr.fill place cells [] = some cells := rfl
theorem fill_cons (place : Nat → Option (Nat × Nat)) (cells new : Array Value) (i off size : Nat) (v : Value) (rest : List (Nat × Value)) (hp : place i = some (off, size)) (hs : v.cells.size = size) (hf : off + size ≤ cells.size)
    (hn : new.size = cells.size) (hk : ∀ k, k < cells.size → new[k]? = if off ≤ k ∧ k < off + size then v.cells.toList[k - off]? else cells[k]?) : Instr.fill place cells ((i, v) :: rest) = Instr.fill place new rest := by
  have e : (v.cells.zipIdx.foldl (fun cs (c, j) => cs.setIfInBounds (off + j) c) cells) = new := by
    rw [← Array.foldl_toList, Array.toList_zipIdx]
    apply Array.ext_getElem?
    intro k
    have h := fold_set off v.cells.toList 0 cells k
    have h1 : (v.cells.toList.zipIdx.foldl (fun cs (x : Value × Nat) => match x with | (c, j) => cs.setIfInBounds (off + j) c) cells)[k]? = _ := h
    rw [h1]
    by_cases hlt : k < cells.size
    · rw [hk k hlt]
      by_cases hr : off ≤ k ∧ k < off + size
      · rw [if_pos (by simp; omega), if_pos hr]; rfl
      · rw [if_neg (by simp; omega), if_neg hr]
    · rw [if_neg (by omega), Array.getElem?_eq_none (by omega), Array.getElem?_eq_none (by omega)]
  conv => lhs; unfold Instr.fill
  simp only [hp]
  rw [if_neg (by simp; omega), e]
theorem built_struct {P : Program} {t : TypeId} {fields : Array Field} {z : Array Value} {places : List (Nat × Nat)} (parts : List (Nat × Value)) (h1 : ((P.info? t).bind fun it => it.zero.map (·.cells)) = some z) (hu : P.underlying t = some (.struct fields))
    (hp : fields.toList.mapM (fun f => (P.info? f.type).map fun i => (f.offset, i.size)) = some places) : P.built t parts = Instr.fill (places.toArray[·]?) z parts := by
  unfold Program.built
  cases hq : P.info? t with
  | none => simp [hq] at h1
  | some it =>
    cases hz : it.zero with
    | none => simp [hq, hz] at h1
    | some v =>
      simp [hq, hz] at h1
      simp only [hu, hp, hz, h1]
theorem zeroOf81 : ((Try.prog.info? 43).bind fun it => it.zero.map (·.cells)) = some (irow 0 false) := by kernel_rfl
theorem places81 (fs : Array Field) (h : Try.prog.underlying 43 = some (.struct fs)) : fs.toList.mapM (fun f => (Try.prog.info? f.type).map fun i => (f.offset, i.size)) = some [(0, 80), (80, 1)] := by
  rw [Try.underlying43] at h
  injection h with h
  injection h with h
  subst h
  kernel_rfl
theorem built81 (n : Nat) (b : Bool) : Try.prog.built 43 [(0, .agg (row80 n)), (1, .bool b)] = some (irow n b) := by
  rw [built_struct _ zeroOf81 Try.underlying43 (places81 _ Try.underlying43)]
  rw [fill_cons _ (irow 0 false) (irow n false) 0 0 80 _ _ ?h1 ?h2 (by rw [irow_size]; omega) (by rw [irow_size, irow_size]) ?h3]
  case h1 => rfl
  case h2 => exact row80_size n
  · rw [fill_cons _ (irow n false) (irow n b) 1 80 1 _ _ ?h4 ?h5 (by rw [irow_size]; omega) (by rw [irow_size, irow_size]) ?h6]
    case h4 => rfl
    case h5 => rfl
    · rfl
    · intro k hk
      rw [irow_size] at hk
      by_cases h : k < 80
      · rw [irow_digit _ _ _ h, irow_digit _ _ _ h, if_neg (by omega)]
      · obtain rfl : k = 80 := by omega
        rw [irow_sign, if_pos (by omega)]; rfl
  · intro k hk
    rw [irow_size] at hk
    by_cases h : k < 80
    · rw [irow_digit _ _ _ h, if_pos (by omega), Nat.sub_zero]
      show _ = (row80 n).toList[k]?
      rw [Array.getElem?_toList, row80_get _ _ h]
    · obtain rfl : k = 80 := by omega
      rw [irow_sign, if_neg (by omega), irow_sign]
theorem built80 : Try.prog.built 41 [] = some (row80 0) := by kernel_rfl
theorem built80one : Try.prog.built 41 [(0, .int .u8 1)] = some (row80 1) := by kernel_rfl
theorem built81none : Try.prog.built 43 [] = some (irow 0 false) := by kernel_rfl
section
variable {P : Program} {ops : Array Oper} {rest : List Oper} {o : Oper} {a : Act} {w w' : World} {Q : Exit → Act → World → Prop}
theorem puts_build (t : TypeId) (parts : Array (Nat × Operand)) (ho : o.op = .build t parts) (ps : List (Nat × Value)) (cells : Array Value) (hp : (parts.map fun (i, x) => (i, a.eval x)).toList = ps) (hb : P.built t ps = some cells) : Puts P o a w (.agg cells) := by
  have h := run_build (P := P) w t (parts.map fun (i, x) => (i, a.eval x)) cells (by rw [hp]; exact hb)
  unfold Puts execOp
  simp only [ho, Sem.run_bind, h, Result.andThen_ok, Sem.run_pure]
theorem puts_build0 (t : TypeId) (ho : o.op = .build t #[]) (cells : Array Value) (hb : P.built t [] = some cells) : Puts P o a w (.agg cells) := puts_build t #[] ho [] cells (by simp) hb
theorem puts_build1 (t : TypeId) (i : Nat) (x : Operand) (ho : o.op = .build t #[(i, x)]) (v : Value) (hx : a.eval x = v) (cells : Array Value) (hb : P.built t [(i, v)] = some cells) : Puts P o a w (.agg cells) := puts_build t #[(i, x)] ho [(i, v)] cells (by simp [hx]) hb
theorem puts_build2 (t : TypeId) (i j : Nat) (x y : Operand) (ho : o.op = .build t #[(i, x), (j, y)]) (v u : Value) (hx : a.eval x = v) (hy : a.eval y = u) (cells : Array Value) (hb : P.built t [(i, v), (j, u)] = some cells) : Puts P o a w (.agg cells) := puts_build t #[(i, x), (j, y)] ho [(i, v), (j, u)] cells (by simp [hx, hy]) hb
theorem bd80 (hg : o.guard = none) (ho : o.op = .build 41 #[]) (k : wpList Try.prog ops Q rest (a.put o.dst (.agg (row80 0))) w) : wpList Try.prog ops Q (o :: rest) a w :=
  (puts_build0 41 ho (row80 0) built80).gives.plain hg k
theorem bd81 (hg : o.guard = none) (ho : o.op = .build 43 #[]) (k : wpList Try.prog ops Q rest (a.put o.dst (.agg (irow 0 false))) w) : wpList Try.prog ops Q (o :: rest) a w :=
  (puts_build0 43 ho (irow 0 false) built81none).gives.plain hg k
theorem puts_neq80 {m n : Nat} (x y : Operand) (yt : TypeId) (ho : o.op = .binOp .neq 41 x y yt) (hx : a.eval x = .agg (row80 m)) (hy : a.eval y = .agg (row80 n)) (hm : m < 10 ^ 80) (hn : n < 10 ^ 80) : Puts Try.prog o a w (.bool (!decide (m = n))) := by
  unfold Puts execOp
  simp only [ho, hx, hy, Sem.run_bind, run_eqGuard_agg _ _ _ _ _ _ _ noGuard80, Result.andThen_ok, run_neq_struct, run_equal80 hm hn 10000 rfl, Sem.run_pure]
end
theorem zero81 : Try.zeroCells43 = irow 0 false := by kernel_rfl
set_option maxHeartbeats 400000 in
theorem make_any (n : Nat) (neg : Bool) (w : World) (hn : n < 10 ^ 80) :
    Calls Try.prog 57 #[.agg (row80 n), .bool neg] w fun e w' => e = .returned (.agg (ival (sgn neg n))) ∧ Below w.heap.size w w' := by
  have h1 : Below w.heap.size w ((w.alloc (Obj.cells (row80 n) 41)).alloc (Obj.cells Try.zeroCells43 43)).drew := (((Below.refl _ _).alloc (Nat.le_refl _) _).alloc (by simp) _).drew
  have h2 : Blk ((w.alloc (Obj.cells (row80 n) 41)).alloc (Obj.cells Try.zeroCells43 43)).drew w.heap.size 41 (row80 n) := ((Blk.new _ _ _ rfl).alloc _).drew
  have h3 : Blk ((w.alloc (Obj.cells (row80 n) 41)).alloc (Obj.cells Try.zeroCells43 43)).drew (w.heap.size + 1) 43 (irow 0 false) := ((Blk.new _ _ _ (by simp)).same zero81).drew
  have H1 := Lib.hid h1
  have H2 := Lib.hid h2
  have H3 := Lib.hid h3
  have Hn := Lib.hid hn
  have Hv := Lib.hid (ival_sgn neg n)
  clear h1 h2 h3 hn
  go_enter Try.func57, Try.ntmps57
  go_wp2_with fail
  refine wp_region_held_drew (S := fun w' => Blk w' w.heap.size 41 (row80 n)) (by kernel_rfl) H2.out fun hS => ?_
  refine held_take 0 rfl rfl (by kernel_rfl) (by kernel_rfl) (by kernel_rfl) (fun _ _ _ h => h) (fun w' h => puts_load80 _ rfl _ 0 rfl h.lies) hS ?_
  go_frame
  refine held_take 1 rfl rfl (by kernel_rfl) (by kernel_rfl) (by kernel_rfl) (fun _ _ _ h => h) (fun w' h => puts_move_to _ (.bool neg) rfl rfl) hS ?_
  go_frame
  refine held_take 2 rfl rfl (by kernel_rfl) (by kernel_rfl) (by kernel_rfl) (fun _ _ _ h => h) (fun w' h => puts_move_to _ (.bool neg) rfl rfl) hS ?_
  go_frame
  cases neg with
  | true =>
    refine held_want 3 rfl rfl (by kernel_rfl) (by kernel_rfl) (by kernel_rfl) (fun _ _ _ h => h) (fun w' h => puts_load80 _ rfl _ 0 rfl h.lies) hS ?_
    go_frame
    refine held_want 4 rfl rfl (by kernel_rfl) (by kernel_rfl) (by kernel_rfl) (fun _ _ _ h => h) (fun w' h => puts_build0 _ rfl _ built80) hS ?_
    go_frame
    refine held_want 5 rfl rfl (by kernel_rfl) (by kernel_rfl) (by kernel_rfl) (fun _ _ _ h => h) (fun w' h => puts_neq80 _ _ _ rfl rfl rfl Hn.out (by decide)) hS ?_
    go_frame
    refine held_take 6 (v := .bool (!decide (n = 0))) rfl rfl (by kernel_rfl) (by kernel_rfl) (by kernel_rfl) (fun _ _ _ h => h) (fun w' h => puts_pick_yes _ _ _ _ rfl rfl rfl) hS ?_
    go_frame
    refine held_take 7 rfl rfl (by kernel_rfl) (by kernel_rfl) (by kernel_rfl) (fun _ _ _ h => h) (fun w' h => puts_build2 _ _ _ _ _ rfl (.agg (row80 n)) (.bool (!decide (n = 0))) rfl rfl _ (built81 n (!decide (n = 0)))) hS ?_
    go_frame
    refine held_only 8 (by kernel_rfl) rfl rfl (gives_store81 _ _ rfl _ rfl rfl H3.out (irow_size _ _)) (hS.rowOff (by omega)) ?_
    go_frame
    refine wpAnyH_done (by kernel_rfl) ?_ _
    go_wp2_with fail
    exact bodyPost_ret (v := .agg (ival (sgn true n))) (res81 rfl _ _ _ rfl (H3.out.row.same Hv.out)) rfl ⟨rfl, below_setRow H1.out (by omega)⟩
  | false =>
    refine held_skip 3 rfl rfl (by kernel_rfl) (by kernel_rfl) (by kernel_rfl) (fun _ _ _ h => h) hS ?_
    go_frame
    refine held_skip 4 rfl rfl (by kernel_rfl) (by kernel_rfl) (by kernel_rfl) (fun _ _ _ h => h) hS ?_
    go_frame
    refine held_skip 5 rfl rfl (by kernel_rfl) (by kernel_rfl) (by kernel_rfl) (fun _ _ _ h => h) hS ?_
    go_frame
    refine held_take 6 (v := .bool false) rfl rfl (by kernel_rfl) (by kernel_rfl) (by kernel_rfl) (fun _ _ _ h => h) (fun w' h => puts_pick_no _ _ _ _ rfl rfl rfl) hS ?_
    go_frame
    refine held_take 7 rfl rfl (by kernel_rfl) (by kernel_rfl) (by kernel_rfl) (fun _ _ _ h => h) (fun w' h => puts_build2 _ _ _ _ _ rfl (.agg (row80 n)) (.bool false) rfl rfl _ (built81 n false)) hS ?_
    go_frame
    refine held_only 8 (by kernel_rfl) rfl rfl (gives_store81 _ _ rfl _ rfl rfl H3.out (irow_size _ _)) (hS.rowOff (by omega)) ?_
    go_frame
    refine wpAnyH_done (by kernel_rfl) ?_ _
    go_wp2_with fail
    exact bodyPost_ret (v := .agg (ival (sgn false n))) (res81 rfl _ _ _ rfl (H3.out.row.same Hv.out)) rfl ⟨rfl, below_setRow H1.out (by omega)⟩
end Go.Proofs.Ytckmpenlpkhnfab
