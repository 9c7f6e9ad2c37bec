/- A dictionary among the arguments: read as slots and entries. -/
import Derived.Test.YtplpgcbdbmfffaaDeA
import Derived.Test.YtplpgcbdbmfffaaRow
import Derived.Carry
import Derived.Deep.Fields
import Derived.Deep.Slices
import Derived.ChangeSlices
namespace Go.Proofs.Ytplpgcbdbmfffaa
open Go.ChangeShapes Go.WideShapes Go.ChangeAt Go.RowKit
theorem laidD : laidOutB Try.prog = true := by kernel_rfl
theorem dict_under : ∃ f0 f1 : Field, Try.prog.underlying 34 = some (.struct #[f0, f1]) ∧ f0.type = 24 ∧ f1.type = 32 ∧ Deep.oneCellFields Try.prog #[f0, f1] = true ∧ Try.prog.cellsOf 34 = 2 :=
  ⟨_, _, Try.underlying34, rfl, rfl, by kernel_rfl, by kernel_rfl⟩
theorem ent_under : ∃ f0 f1 f2 f3 : Field, Try.prog.underlying 91 = some (.struct #[f0, f1, f2, f3]) ∧ f0.type = 9 ∧ f1.type = 3 ∧ f2.type = 3 ∧ f3.type = 4 ∧ Deep.oneCellFields Try.prog #[f0, f1, f2, f3] = true ∧ Try.prog.cellsOf 91 = 4 :=
  ⟨_, _, _, _, Try.underlying91, rfl, rfl, rfl, rfl, by kernel_rfl, by kernel_rfl⟩
instance : Inhabited Ent := ⟨⟨⟨#[]⟩, 0, 0, false⟩⟩
set_option maxRecDepth 20000 in
/-- One entry out of its cells. -/
theorem open_ent {H : Type} {enc : TypeId × Value → H} {w : World} {base : Nat} {spare : Nat → Bool} {held : Bool} {n : Nat} {cs : List Value} {d : DataW H × List MemPlace} (h : DataW.trod enc Try.prog w base spare held n 91 cs = some d) (hc : cs.length = 4) :
    ∃ e : Ent, cs = [.string e.key, .int .i64 e.hash, .int .i64 e.val, .bool e.live] ∧ e.key.size ≤ maxLen := by
  obtain ⟨f0, f1, f2, f3, hs, e0, e1, e2, e3, hone, hC⟩ := ent_under
  obtain ⟨xs, k, _, _, _, hlen, hg⟩ := DataW.trod_struct hs h
  match cs, hc with
  | [c0, c1, c2, c3], _ =>
    have one : ∀ (i : Nat) (f : Field) (c : Value), (#[f0, f1, f2, f3] : Array Field)[i]? = some f → ([c0, c1, c2, c3] : List Value)[i]? = some c → DataW.trod enc Try.prog w base spare held k f.type [c] = xs[i]? := by
      intro i f c hi hc
      have h1 := hg i f hi
      obtain ⟨o, kk⟩ := Deep.hone_of hone i f hi
      rw [o, kk] at h1
      have h2 : (([c0, c1, c2, c3] : List Value).drop i).take 1 = [c] := by
        have hil : i < ([c0, c1, c2, c3] : List Value).length := by
          rcases Nat.lt_or_ge i ([c0, c1, c2, c3] : List Value).length with h3 | h3
          · exact h3
          · rw [List.getElem?_eq_none h3] at hc; cases hc
        rw [List.drop_eq_getElem_cons hil]
        rw [List.getElem?_eq_getElem hil] at hc
        injection hc with hc
        rw [← hc]; rfl
      rw [h2] at h1
      exact h1
    have some_of : ∀ i : Nat, i < 4 → ∃ y, xs[i]? = some y := fun i hi => ⟨xs[i]'(by rw [hlen]; exact hi), List.getElem?_eq_getElem _⟩
    obtain ⟨y0, z0⟩ := some_of 0 (by decide)
    obtain ⟨y1, z1⟩ := some_of 1 (by decide)
    obtain ⟨y2, z2⟩ := some_of 2 (by decide)
    obtain ⟨y3, z3⟩ := some_of 3 (by decide)
    have t0 := (one 0 f0 c0 rfl rfl).trans z0
    have t1 := (one 1 f1 c1 rfl rfl).trans z1
    have t2 := (one 2 f2 c2 rfl rfl).trans z2
    have t3 := (one 3 f3 c3 rfl rfl).trans z3
    rw [e0] at t0
    rw [e1] at t1
    rw [e2] at t2
    rw [e3] at t3
    obtain ⟨s, h0, _, hsz⟩ := DataW.trod_string Try.underlying9 t0
    obtain ⟨n1, h1, _, _⟩ := DataW.trod_int Try.underlying3 t1
    obtain ⟨n2, h2, _, _⟩ := DataW.trod_int Try.underlying3 t2
    obtain ⟨b3, h3, _⟩ := DataW.trod_bool Try.underlying4 t3
    injection h0 with h0
    injection h1 with h1
    injection h2 with h2
    injection h3 with h3
    subst h0 h1 h2 h3
    exact ⟨⟨s, n1, n2, b3⟩, rfl, hsz⟩
set_option maxRecDepth 20000 in
/-- A slice of entries out of its cell. -/
theorem open_ents {H : Type} {enc : TypeId × Value → H} {w : World} {n : Nat} {c : Value} {d : DataW H × List MemPlace} (h : DataW.trod enc Try.prog w 0 (fun _ => true) true n 32 [c] = some d) :
    ∃ (es : List Ent) (a : Option Addr) (cap : Nat), c = .slice a es.length cap ∧ RsE w a cap es ∧ KeyM es ∧ cap ≤ maxLen := by
  obtain ⟨f0, f1, f2, f3, hs, e0, e1, e2, e3, hone, hC⟩ := ent_under
  rcases Deep.open_slice Try.underlying32 h with ⟨hcs, _⟩ | ⟨a, len, cap, m, k, D, Pl, hcs, _, hl, hm, hmm, _, hx⟩
  · injection hcs with hcs
    subst hcs
    exact ⟨[], none, 0, rfl, ⟨Nat.le_refl _, fun _ => ⟨rfl, rfl⟩, fun j e hj => by simp at hj⟩, fun e he => by simp at he, Nat.zero_le _⟩
  · injection hcs with hcs
    subst hcs
    have hm2 : m = cap := by rw [hmm]; rfl
    rw [hC] at hx
    obtain ⟨E, hE⟩ := Deep.choose_lt (α := Ent) (p := fun i e => (w.cell? (a.add (i * 4)) = some (.string e.key) ∧ w.cell? ((a.add (i * 4)).add 1) = some (.int .i64 e.hash) ∧ w.cell? ((a.add (i * 4)).add 2) = some (.int .i64 e.val) ∧ w.cell? ((a.add (i * 4)).add 3) = some (.bool e.live)) ∧ e.key.size ≤ maxLen) (n := len) (fun i hi => by
      obtain ⟨cs, h1, h2⟩ := hx i (by omega)
      obtain ⟨_, hlen, hcell⟩ := World.cells?_some h1
      obtain ⟨e, rfl, hk⟩ := open_ent h2 hlen
      refine ⟨e, ⟨?_, ?_, ?_, ?_⟩, hk⟩
      · have := hcell 0 (by omega)
        rw [show (a.add (i * 4)).add 0 = a.add (i * 4) from by unfold Addr.add; simp] at this
        exact this
      · exact hcell 1 (by omega)
      · exact hcell 2 (by omega)
      · exact hcell 3 (by omega))
    have hget : ∀ (j : Nat) (e : Ent), ((List.range len).map E)[j]? = some e → j < len ∧ e = E j := by
      intro j e hj
      rw [List.getElem?_map] at hj
      rcases Nat.lt_or_ge j len with h1 | h1
      · rw [List.getElem?_range h1] at hj
        simp at hj
        exact ⟨h1, hj.symm⟩
      · rw [List.getElem?_eq_none (by simpa using h1)] at hj
        simp at hj
    have hlen : ((List.range len).map E).length = len := by simp
    refine ⟨(List.range len).map E, some a, cap, by rw [hlen], ⟨by rw [hlen]; exact hl, (fun h => (by cases h)), fun j e hj => ?_⟩, fun e he => ?_, hm⟩
    · obtain ⟨hjl, rfl⟩ := hget j e hj
      have hz := (hE 0 (by omega)).1.1
      have hsp : a = ⟨a.block, a.off, none⟩ := by
        obtain ⟨ab, ao, asp⟩ := a
        have h9 : w.cell? ⟨ab, ao, asp⟩ = some (.string (E 0).key) := by simpa [Addr.add] using hz
        unfold World.cell? at h9
        split at h9
        · split at h9
          · cases h9
          · rename_i hn
            cases asp with
            | none => rfl
            | some x => simp at hn
        · cases h9
      obtain ⟨⟨p0, p1, p2, p3⟩, _⟩ := hE j hjl
      rw [hsp] at p0 p1 p2 p3
      rw [addr_add] at p0 p1 p2 p3
      rw [addr_add] at p1 p2 p3
      have hlt : a.block < w.heap.size := World.block_lt_of_cell? w ⟨a.block, a.off + j * 4, none⟩ p0
      exact ⟨a.block, a.off, by rw [← hsp], hlt, p0, p1, p2, p3⟩
    · obtain ⟨i, hi, rfl⟩ := List.mem_map.1 he
      exact (hE i (List.mem_range.1 hi)).2
/-- A slice of numbers out of its cell. -/
theorem open_nums {H : Type} {enc : TypeId × Value → H} {w : World} {n : Nat} {c : Value} {d : DataW H × List MemPlace} (h : DataW.trod enc Try.prog w 0 (fun _ => true) true n 24 [c] = some d) :
    ∃ (is : List Int) (a : Option Addr) (cap : Nat), c = .slice a is.length cap ∧ RsI w a cap is ∧ cap ≤ maxLen := by
  rcases open_ints Try.underlying24 Try.underlying3 (by kernel_rfl) h with ⟨hcs, _⟩ | ⟨x, l, cp, zs, hcs, _, hl, hm, hz, _, hcell, hwz⟩
  · injection hcs with hcs
    subst hcs
    exact ⟨[], none, 0, rfl, ⟨Nat.le_refl _, fun _ => ⟨rfl, rfl⟩, fun x hx => by cases hx⟩, Nat.zero_le _⟩
  · injection hcs with hcs
    subst hcs
    have hz' : zs.length = cp := by simpa using hz
    have ht : (zs.take l).length = l := by rw [List.length_take]; omega
    refine ⟨zs.take l, some x, cp, by rw [ht], ⟨by rw [ht]; exact hl, fun h => absurd h (by simp), fun y hy j s hj => ?_⟩, hm⟩
    injection hy with hy
    subst hy
    rw [List.getElem?_take] at hj
    split at hj
    · have hlt : j < zs.length := by
        rcases Nat.lt_or_ge j zs.length with h2 | h2
        · exact h2
        · rw [List.getElem?_eq_none h2] at hj; cases hj
      rw [hcell j hlt, List.getD_eq_getElem?_getD, hj]; rfl
    · cases hj
set_option maxRecDepth 20000 in
/-- A dictionary as an argument. -/
theorem open_dict {H : Type} {enc : TypeId × Value → H} {w : World} {r : Reach} {b0 : Nat} {v : Value} {d : DataW H} {p : List MemPlace}
    (hv : Value.okWide Try.prog w r b0 34 v) (h : DataW.Trod enc Try.prog w 0 (fun _ => true) true 34 v d p) : ∃ (ix : List Int) (es : List Ent) (a0 a1 : Option Addr) (c0 c1 : Nat), v = .agg #[.slice a0 ix.length c0, .slice a1 es.length c1] ∧ RsI w a0 c0 ix ∧ RsE w a1 c1 es ∧ KeyM es ∧ c0 ≤ maxLen ∧ c1 ≤ maxLen := by
  obtain ⟨f0, f1, hs, e0, e1, hone, hC⟩ := dict_under
  obtain ⟨cs, rfl, hsz⟩ := okWide_struct hs hv
  obtain ⟨fuel, hf⟩ := h
  obtain ⟨xs, n, _, _, _, hlen, hg⟩ := DataW.trod_struct hs hf
  have hsz2 : cs.size = 2 := hsz.trans hC
  obtain ⟨l⟩ := cs
  match l, hsz2 with
  | [v0, v1], _ =>
    have one : ∀ (i : Nat) (f : Field) (c : Value), (#[f0, f1] : Array Field)[i]? = some f → ([v0, v1] : List Value)[i]? = some c → DataW.trod enc Try.prog w 0 (fun _ => true) true n f.type [c] = xs[i]? := by
      intro i f c hi hc
      have h1 := hg i f hi
      obtain ⟨o, k⟩ := Deep.hone_of hone i f hi
      rw [o, k] at h1
      have h2 : ((Value.agg ⟨[v0, v1]⟩).cells.toList.drop i).take 1 = [c] := by
        show (([v0, v1] : List Value).drop i).take 1 = [c]
        have hil : i < ([v0, v1] : List Value).length := by
          rcases Nat.lt_or_ge i ([v0, v1] : List Value).length with h3 | h3
          · exact h3
          · rw [List.getElem?_eq_none h3] at hc; cases hc
        rw [List.drop_eq_getElem_cons hil]
        rw [List.getElem?_eq_getElem hil] at hc
        injection hc with hc
        rw [← hc]; rfl
      rw [h2] at h1
      exact h1
    have some_of : ∀ i : Nat, i < 2 → ∃ y, xs[i]? = some y := fun i hi => ⟨xs[i]'(by rw [hlen]; exact hi), List.getElem?_eq_getElem _⟩
    obtain ⟨y0, z0⟩ := some_of 0 (by decide)
    obtain ⟨y1, z1⟩ := some_of 1 (by decide)
    have t0 := (one 0 f0 v0 rfl rfl).trans z0
    have t1 := (one 1 f1 v1 rfl rfl).trans z1
    rw [e0] at t0
    rw [e1] at t1
    obtain ⟨ix, a0, c0, rfl, r0, q0⟩ := open_nums t0
    obtain ⟨es, a1, c1, rfl, r1, q1, q2⟩ := open_ents t1
    exact ⟨ix, es, a0, a1, c0, c1, rfl, r0, r1, q1, q0, q2⟩
end Go.Proofs.Ytplpgcbdbmfffaa
