/- A slice among the arguments: read as five values; it reads the same behind the call. -/
import Derived.Test.YtbcphejblopekaaCutA
import Derived.Test.YtbcphejblopekaaRow
import Derived.Carry
import Derived.Deep.Fields
namespace Go.Proofs.Ytbcphejblopekaa
open Go.ChangeShapes Go.WideShapes Go.ChangeAt Go.RowKit
theorem post_own2 {H : Type} {enc : TypeId × Value → H} {P : Program} {f : Func} {s : ChangeSpec} {apart fresh handsOn : Bool} {W W' : World} {args : Array Value} {v : Value} {ds gs : List (DataW H)} {before pa pv : List MemPlace}
    (whole : DataW.Whole enc P f.params.toList s.vars apart W args.toList ds gs before)
    (res : ∀ (b : Nat) (sp : Nat → Bool) (hd : Bool), DataW.TrodAll enc P W' b sp hd f.resultTypes.toList (v.resultList f.resultTypes.size) (s.fn H (ds ++ gs)).results [])
    (ins : DataW.TrodAll enc P W' 0 (fun b => decide (b < W.heap.size)) true f.params.toList args.toList (s.fn H (ds ++ gs)).args pa)
    (globals : ∀ sp : Nat → Bool, DataW.TrodVars enc P W' sp s.vars (s.fn H (ds ++ gs)).vars pv) (below : Below W.heap.size W W') :
    s.post enc P f apart fresh handsOn false W args v W' :=
  ⟨ds, gs, before, [], pa, pv, whole, res _ _ _, ins, globals _, below.frame _, fun h => by cases h⟩
theorem laid : laidOutB Try.prog = true := by kernel_rfl
theorem cut_under : ∃ f0 f1 f2 f3 f4 : Field, Try.prog.underlying 30 = some (.struct #[f0, f1, f2, f3, f4]) ∧ f0.type = 3 ∧ f1.type = 3 ∧ f2.type = 3 ∧ f3.type = 4 ∧ f4.type = 4 ∧ Deep.oneCellFields Try.prog #[f0, f1, f2, f3, f4] = true ∧ Try.prog.cellsOf 30 = 5 :=
  ⟨_, _, _, _, _, Try.underlying30, rfl, rfl, rfl, rfl, rfl, by kernel_rfl, by kernel_rfl⟩
theorem open_cut {H : Type} {enc : TypeId × Value → H} {w : World} {base : Nat} {spare : Nat → Bool} {held : Bool} {r : Reach} {b0 : Nat} {v : Value} {d : DataW H} {p : List MemPlace}
    (hv : Value.okWide Try.prog w r b0 30 v) (h : DataW.Trod enc Try.prog w base spare held 30 v d p) : ∃ f t s hf ht, v = .agg (cutC f t s hf ht) ∧ (Lit.int .i64 f).wf = true ∧ (Lit.int .i64 t).wf = true ∧ (Lit.int .i64 s).wf = true := by
  obtain ⟨f0, f1, f2, f3, f4, hs, e0, e1, e2, e3, e4, hone, hC⟩ := cut_under
  obtain ⟨cs, rfl, hsz⟩ := okWide_struct hs hv
  obtain ⟨fuel, hf⟩ := h
  obtain ⟨xs, n, _, _, _, hlen, hg⟩ := DataW.trod_struct hs hf
  have hsz5 : cs.size = 5 := hsz.trans hC
  obtain ⟨l⟩ := cs
  match l, hsz5 with
  | [c0, c1, c2, c3, c4], _ =>
    have one : ∀ (i : Nat) (f : Field) (c : Value), (#[f0, f1, f2, f3, f4] : Array Field)[i]? = some f → ([c0, c1, c2, c3, c4] : List Value)[i]? = some c → DataW.trod enc Try.prog w base spare held n f.type [c] = xs[i]? := by
      intro i f c hi hc
      have h1 := hg i f hi
      obtain ⟨o, k⟩ := Deep.hone_of hone i f hi
      rw [o, k] at h1
      have h2 : ((Value.agg ⟨[c0, c1, c2, c3, c4]⟩).cells.toList.drop i).take 1 = [c] := by
        show (([c0, c1, c2, c3, c4] : List Value).drop i).take 1 = [c]
        have hil : i < ([c0, c1, c2, c3, c4] : List Value).length := by
          rcases Nat.lt_or_ge i ([c0, c1, c2, c3, c4] : List Value).length with h3 | h3
          · exact h3
          · rw [List.getElem?_eq_none h3] at hc; cases hc
        rw [List.drop_eq_getElem_cons hil]
        rw [List.getElem?_eq_getElem hil] at hc
        injection hc with hc
        rw [← hc]; rfl
      rw [h2] at h1
      exact h1
    have some_of : ∀ i : Nat, i < 5 → ∃ y, xs[i]? = some y := fun i hi => ⟨xs[i]'(by rw [hlen]; exact hi), List.getElem?_eq_getElem _⟩
    obtain ⟨y0, z0⟩ := some_of 0 (by decide)
    obtain ⟨y1, z1⟩ := some_of 1 (by decide)
    obtain ⟨y2, z2⟩ := some_of 2 (by decide)
    obtain ⟨y3, z3⟩ := some_of 3 (by decide)
    obtain ⟨y4, z4⟩ := some_of 4 (by decide)
    have t0 := (one 0 f0 c0 rfl rfl).trans z0
    have t1 := (one 1 f1 c1 rfl rfl).trans z1
    have t2 := (one 2 f2 c2 rfl rfl).trans z2
    have t3 := (one 3 f3 c3 rfl rfl).trans z3
    have t4 := (one 4 f4 c4 rfl rfl).trans z4
    rw [e0] at t0
    rw [e1] at t1
    rw [e2] at t2
    rw [e3] at t3
    rw [e4] at t4
    obtain ⟨n0, h0, _, w0⟩ := DataW.trod_int Try.underlying3 t0
    obtain ⟨n1, h1, _, w1⟩ := DataW.trod_int Try.underlying3 t1
    obtain ⟨n2, h2, _, w2⟩ := DataW.trod_int Try.underlying3 t2
    obtain ⟨b3, h3, _⟩ := DataW.trod_bool Try.underlying4 t3
    obtain ⟨b4, h4, _⟩ := DataW.trod_bool Try.underlying4 t4
    injection h0 with h0
    injection h1 with h1
    injection h2 with h2
    injection h3 with h3
    injection h4 with h4
    subst h0 h1 h2 h3 h4
    exact ⟨n0, n1, n2, b3, b4, rfl, w0, w1, w2⟩
theorem keep_cut {H : Type} {enc : TypeId × Value → H} {W W' : World} {v : Value} {d : DataW H} {ps : List MemPlace} (h : DataW.Trod enc Try.prog W 0 (fun _ => true) true 30 v d ps) (hb : Below W.heap.size W W') (hlt : ∀ x ∈ ps, x.block < W.heap.size) :
    DataW.Trod enc Try.prog W' 0 (fun b => decide (b < W.heap.size)) true 30 v d ps :=
  Below.trod laid (by kernel_rfl) (of_decide_eq_true (by kernel_rfl)) h hb hlt
end Go.Proofs.Ytbcphejblopekaa
