/- Dictionaries that calls copy and answer: contracts, and the law's marks of them. -/
import Derived.Test.YtplpgcbdbmfffaaDval
import Derived.Test.YtplpgcbdbmfffaaShelC
import Derived.Lib.SliceRun
import Derived.Test.YtplpgcbdbmfffaaDeC
import Derived.Deep.RegionHeld
import Derived.Deep.DeepCutAuto
import Derived.Deep.RegionHeld3
import Derived.Laws.AppendOwnNone
import Derived.Test.YtplpgcbdbmfffaaDok3
import Derived.Test.YtplpgcbdbmfffaaSmD
import Derived.Laws.ResultCell
import Derived.Test.YtplpgcbdbmfffaaMkE
import Derived.Test.YtplpgcbdbmfffaaPex
namespace Go.Proofs.Ytplpgcbdbmfffaa
open Go.RowKit
/-- The cells of a list of entries. -/
def entC (es : List Ent) : List Value := es.flatMap fun e => e.row.toList
theorem entC_len (es : List Ent) : (entC es).length = es.length * 4 := by
  unfold entC
  induction es with
  | nil => rfl
  | cons e es ih => rw [List.flatMap_cons, List.length_append, ih]; simp [Ent.row]; omega
theorem entC_at {es : List Ent} : ∀ {q r : Nat} {u : Value}, r < 4 → (entC es)[q * 4 + r]? = some u → ∃ e, es[q]? = some e ∧ e.row.toList[r]? = some u := by
  induction es with
  | nil => intro q r u _ h; cases h
  | cons e es ih =>
    intro q r u hr h
    unfold entC at h
    rw [List.flatMap_cons, List.getElem?_append] at h
    cases q with
    | zero =>
      rw [if_pos (by simp [Ent.row]; omega)] at h
      exact ⟨e, rfl, by simpa using h⟩
    | succ q =>
      rw [if_neg (by simp [Ent.row]; omega)] at h
      have e1 : (q + 1) * 4 + r - e.row.toList.length = q * 4 + r := by simp [Ent.row]; omega
      rw [e1] at h
      obtain ⟨f, hf1, hf2⟩ := ih hr h
      exact ⟨f, by simpa using hf1, hf2⟩
theorem entC_cell {w : World} {g : Nat} {es : List Ent} (h : En w g es) {j : Nat} {u : Value} (hj : (entC es)[j]? = some u) : w.cell? ⟨g, j, none⟩ = some u := by
  have e : j = j / 4 * 4 + j % 4 := by omega
  have hr : j % 4 < 4 := Nat.mod_lt _ (by omega)
  rw [e] at hj ⊢
  generalize j / 4 = q at *
  generalize j % 4 = r at *
  obtain ⟨f, h1, h2⟩ := entC_at hr hj
  obtain ⟨c0, c1, c2, c3⟩ := h.2 q f h1
  have : r = 0 ∨ r = 1 ∨ r = 2 ∨ r = 3 := by omega
  rcases this with rfl | rfl | rfl | rfl
  · rw [Nat.add_zero, c0]; simpa [Ent.row] using h2
  · rw [c1]; simpa [Ent.row] using h2
  · rw [c2]; simpa [Ent.row] using h2
  · rw [c3]; simpa [Ent.row] using h2
theorem entC_one {es : List Ent} : ∀ u ∈ entC es, u.oneCell' = true := by
  intro u hu
  unfold entC at hu
  rw [List.mem_flatMap] at hu
  obtain ⟨e, _, h⟩ := hu
  simp [Ent.row] at h
  rcases h with rfl | rfl | rfl | rfl <;> rfl
set_option maxHeartbeats 2000000 in
set_option maxRecDepth 100000 in
theorem cloneE_any (es : List Ent) (g c : Nat) (w : World) (h : En w g es) (hl : es.length ≤ 1048576) :
    Calls Try.prog 97 #[.slice (some ⟨g, 0, none⟩) es.length c] w fun e w' => ∃ v', e = .returned v' ∧ w'.ownsRow w.heap.size 64 4 v' es.length (entC es) ∧ v' ≠ .slice none 0 0 ∧ Below w.heap.size w w' := by
  obtain ⟨i0, hi, hz0, hz1, hz2⟩ := info_of (show (Try.prog.info? 64).map (fun i => (i.zero, i.size, i.bytes)) = some (some (.agg #[.string ⟨#[]⟩, .int .i64 0, .int .i64 0, .bool false]), 4, 40) from by kernel_rfl)
  have q25 : ∀ (w : World) (a : Option Addr) (n c n' c' : Nat), (binOp .eql 25 (.slice a n c) (.slice none n' c')).run Try.prog w = .ok (.bool a.isNone) w := fun w a n c n' c' => Lib.run_eql_slice_nil w _ _ a n c n' c' Try.underlying25
  have HC := Lib.hid (fun (j : Nat) (u : Value) (hj : (entC es)[j]? = some u) => entC_cell h hj)
  have HL := Lib.hid (entC_len es)
  have H1 := Lib.hid (entC_one (es := es))
  clear h
  generalize entC es = cs at *
  generalize es.length = n at *
  go_enter Try.func97, Try.ntmps97
  go_wp2_with (at_builtin; refine wpList_append_own _ rfl _ _ 25 rfl w.heap.size 64 i0 (.agg #[.string ⟨#[]⟩, .int .i64 0, .int .i64 0, .bool false]) 4 40 Try.underlying25 hi hz0 hz1 hz2 rfl (by decide) _ _ _ rfl (World.ownsRow_made w #[] 0 (Nat.le_refl _) (Nat.zero_le _) rfl) ⟨g, 0, none⟩ n c cs rfl ?qc1 ?qc2 ?qc3 ?qc4 ?qc5 ?qc6 ?_)
  case qc1 => exact HL.out
  case qc2 =>
    intro j u hj
    rw [addr_add, Nat.zero_add]
    exact Lib.cell?_alloc_some _ (HC.out j u hj)
  case qc3 => exact H1.out
  case qc4 => unfold maxLen; omega
  case qc5 => omega
  case qc6 => simp
  intro v' w1 hown hgrow hnil
  go_wp2
  go_ret
  refine ⟨v', rfl, by simpa using hown, ?_, ?_⟩
  · first | exact hnil | (intro e; exact absurd (hnil.1 e).1 (by simp))
  · exact ((Below.refl _ w).alloc (Nat.le_refl _) _).grown hgrow (by simp) (by intro k hk; simp [Value.ownBlock] at hk; omega)
set_option maxHeartbeats 2000000 in
theorem cloneE_nil (n c : Nat) (w : World) : Calls Try.prog 97 #[.slice none n c] w fun e w' => e = .returned (.slice none 0 0) ∧ w' = w := by
  have q25 : ∀ (w : World) (a : Option Addr) (n c n' c' : Nat), (binOp .eql 25 (.slice a n c) (.slice none n' c')).run Try.prog w = .ok (.bool a.isNone) w := fun w a n c n' c' => Lib.run_eql_slice_nil w _ _ a n c n' c' Try.underlying25
  go_enter Try.func97, Try.ntmps97
  go_wp2
  go_ret
  exact ⟨rfl, rfl⟩
theorem iv_cell {w : World} {g : Nat} {is : List Int} (h : Ci w g is) {j : Nat} {u : Value} (hj : (is.map (Value.int .i64))[j]? = some u) : w.cell? ⟨g, j, none⟩ = some u := by
  rw [List.getElem?_map] at hj
  cases hi : is[j]? with
  | none => rw [hi] at hj; cases hj
  | some i => rw [hi] at hj; injection hj with hj; subst hj; exact h j i hi
set_option maxHeartbeats 2000000 in
set_option maxRecDepth 100000 in
theorem cloneI_any (is : List Int) (g c : Nat) (w : World) (h : Ci w g is) (hl : is.length ≤ 1048576) :
    Calls Try.prog 96 #[.slice (some ⟨g, 0, none⟩) is.length c] w fun e w' => ∃ v', e = .returned v' ∧ w'.ownsRow w.heap.size 3 1 v' is.length (is.map (Value.int .i64)) ∧ v' ≠ .slice none 0 0 ∧ Below w.heap.size w w' := by
  obtain ⟨i0, hi, hz0, hz1, hz2⟩ := info_of (show (Try.prog.info? 3).map (fun i => (i.zero, i.size, i.bytes)) = some (some (.int .i64 0), 1, 8) from by kernel_rfl)
  have q25 : ∀ (w : World) (a : Option Addr) (n c n' c' : Nat), (binOp .eql 24 (.slice a n c) (.slice none n' c')).run Try.prog w = .ok (.bool a.isNone) w := fun w a n c n' c' => Lib.run_eql_slice_nil w _ _ a n c n' c' Try.underlying24
  have HC := Lib.hid (fun (j : Nat) (u : Value) (hj : (is.map (Value.int .i64))[j]? = some u) => iv_cell h hj)
  have HL := Lib.hid (show (is.map (Value.int .i64)).length = is.length by simp)
  have H1 := Lib.hid (show ∀ u ∈ is.map (Value.int .i64), u.oneCell' = true by intro u hu; rw [List.mem_map] at hu; obtain ⟨i, _, rfl⟩ := hu; rfl)
  clear h
  generalize is.map (Value.int .i64) = cs at *
  generalize is.length = n at *
  go_enter Try.func96, Try.ntmps96
  go_wp2_with (at_builtin; refine wpList_append_own _ rfl _ _ 24 rfl w.heap.size 3 i0 (.int .i64 0) 1 8 Try.underlying24 hi hz0 hz1 hz2 rfl (by decide) _ _ _ rfl (World.ownsRow_made w #[] 0 (Nat.le_refl _) (Nat.zero_le _) rfl) ⟨g, 0, none⟩ n c cs rfl ?qc1 ?qc2 ?qc3 ?qc4 ?qc5 ?qc6 ?_)
  case qc1 => rw [Nat.mul_one]; exact HL.out
  case qc2 =>
    intro j u hj
    rw [addr_add, Nat.zero_add]
    exact Lib.cell?_alloc_some _ (HC.out j u hj)
  case qc3 => exact H1.out
  case qc4 => unfold maxLen; omega
  case qc5 => omega
  case qc6 => simp
  intro v' w1 hown hgrow hnil
  go_wp2
  go_ret
  refine ⟨v', rfl, by simpa using hown, ?_, ?_⟩
  · first | exact hnil | (intro e; exact absurd (hnil.1 e).1 (by simp))
  · exact ((Below.refl _ w).alloc (Nat.le_refl _) _).grown hgrow (by simp) (by intro k hk; simp [Value.ownBlock] at hk; omega)
/-- A list of entries that a call made. -/
def OwE (w : World) (b : Nat) (v : Value) (es : List Ent) : Prop := w.ownsRow b 64 4 v es.length (entC es)
theorem entC_nil : entC [] = [] := rfl
theorem entC_app (es fs : List Ent) : entC (es ++ fs) = entC es ++ entC fs := by unfold entC; rw [List.flatMap_append]
theorem entC_cons (e : Ent) (es : List Ent) : entC (e :: es) = e.row.toList ++ entC es := by unfold entC; rw [List.flatMap_cons]
theorem row_len (e : Ent) : e.row.toList.length = 4 := rfl
theorem entC_get {es : List Ent} : ∀ {k : Nat} {e : Ent} {r : Nat}, es[k]? = some e → r < 4 → (entC es)[k * 4 + r]? = e.row.toList[r]? := by
  induction es with
  | nil => intro k e r h; cases h
  | cons f es ih =>
    intro k e r h hr
    rw [entC_cons, List.getElem?_append]
    cases k with
    | zero =>
      have : f = e := by simpa using h
      subst this
      rw [if_pos (by rw [row_len]; omega), Nat.zero_mul, Nat.zero_add]
    | succ k =>
      rw [if_neg (by rw [row_len]; omega)]
      have e1 : (k + 1) * 4 + r - f.row.toList.length = k * 4 + r := by rw [row_len]; omega
      rw [e1]
      exact ih (by simpa using h) hr
theorem entC_set {es : List Ent} : ∀ {k : Nat} {e : Ent}, es[k]? = some e → ∀ (e' : Ent) (r : Nat) (u : Value), r < 4 → e.row.toList.set r u = e'.row.toList → (entC es).set (k * 4 + r) u = entC (es.set k e') := by
  induction es with
  | nil => intro k e h; cases h
  | cons f es ih =>
    intro k e h e' r u hr he
    rw [entC_cons]
    cases k with
    | zero =>
      have : f = e := by simpa using h
      subst this
      rw [Nat.zero_mul, Nat.zero_add, List.set_append_left _ _ (by rw [row_len]; omega), he, List.set_cons_zero, entC_cons]
    | succ k =>
      rw [List.set_append_right _ _ (by rw [row_len]; omega), row_len]
      have e1 : (k + 1) * 4 + r - 4 = k * 4 + r := by omega
      rw [e1, ih (by simpa using h) e' r u hr he, List.set_cons_succ, entC_cons]
theorem OwE.nil (w : World) (b : Nat) : OwE w b (.slice none 0 0) [] := w.ownsRow_nil b _ 4
theorem OwE.form {w : World} {b : Nat} {v : Value} {es : List Ent} (h : OwE w b v es) : (v = .slice none 0 0 ∧ es = []) ∨ ∃ g cap, v = .slice (some ⟨g, 0, none⟩) es.length cap ∧ b ≤ g ∧ g < w.heap.size ∧ es.length ≤ cap ∧ En w g es := by
  have hlt := World.ownsRow.lt h
  rcases h.2 with ⟨h1, h2⟩ | ⟨g, cap, cur, hv, hb, hh, hn, _⟩
  · exact .inl ⟨h1, List.eq_nil_of_length_eq_zero h2⟩
  · subst hv
    refine .inr ⟨g, cap, rfl, hb, (hlt g rfl).2, hn, (hlt g rfl).2, fun j e hj => ?_⟩
    have hj2 := lt_of_ent hj
    refine ⟨?_, ?_, ?_, ?_⟩
    · rw [World.ownsRow.cellAt h _ (by omega)]; exact entC_get (r := 0) hj (by omega)
    · rw [World.ownsRow.cellAt h _ (by omega)]; exact entC_get (r := 1) hj (by omega)
    · rw [World.ownsRow.cellAt h _ (by omega)]; exact entC_get (r := 2) hj (by omega)
    · rw [World.ownsRow.cellAt h _ (by omega)]; exact entC_get (r := 3) hj (by omega)
theorem OwE.re {w : World} {b : Nat} {a : Option Addr} {n c : Nat} {es : List Ent} (h : OwE w b (.slice a n c) es) : n = es.length ∧ Re w a es := by
  rcases h.form with ⟨h1, h2⟩ | ⟨g, cap, h1, _, _, _, h2⟩
  · injection h1 with h1 h3 _
    subst h2
    exact ⟨h3, .inl ⟨h1, rfl⟩⟩
  · injection h1 with h1 h3 _
    exact ⟨h3, .inr ⟨g, h1, h2⟩⟩
theorem OwE.lt {w : World} {b : Nat} {v : Value} {es : List Ent} (h : OwE w b v es) : ∀ k, v.ownBlock = some k → b ≤ k ∧ k < w.heap.size := World.ownsRow.lt h
theorem OwE.below {w w' : World} {b : Nat} {v : Value} {es : List Ent} (h : OwE w b v es) (hb : Below w.heap.size w w') : OwE w' b v es :=
  World.ownsRow.kept (row := none) h (below_grown hb) (by cases hv : v.ownBlock with | none => exact .inl rfl | some q => exact .inr (by simp))
theorem OwE.wide {w : World} {b b' : Nat} {v : Value} {es : List Ent} (h : OwE w b v es) (hb : b' ≤ b) : OwE w b' v es := by
  obtain ⟨h1, h2⟩ := h
  refine ⟨h1, ?_⟩
  rcases h2 with h2 | ⟨g, cap, cur, hv, hg, rest⟩
  · exact .inl h2
  · exact .inr ⟨g, cap, cur, hv, Nat.le_trans hb hg, rest⟩
theorem OwE.setOff {w : World} {b k i : Nat} {v u : Value} {es : List Ent} (h : OwE w b v es) (hne : v.ownBlock ≠ some k) : OwE (w.setCell ⟨k, i, none⟩ u) b v es := by
  obtain ⟨h1, h2⟩ := h
  refine ⟨h1, ?_⟩
  rcases h2 with h2 | ⟨g', cap', cur, hv, hb1, hh, rest⟩
  · exact .inl h2
  · subst hv
    exact .inr ⟨_, _, cur, rfl, hb1, (heap_setCell_other w ⟨k, i, none⟩ _ u (fun e => hne (by rw [e]; rfl))).trans hh, rest⟩
theorem OwE.cellsAt {w : World} {b g n cap k : Nat} {es : List Ent} {e : Ent} (h : OwE w b (.slice (some ⟨g, 0, none⟩) n cap) es) (he : es[k]? = some e) : w.cell? ⟨g, k * 4, none⟩ = some (.string e.key) ∧ w.cell? ⟨g, k * 4 + 1, none⟩ = some (.int .i64 e.hash) ∧ w.cell? ⟨g, k * 4 + 2, none⟩ = some (.int .i64 e.val) ∧ w.cell? ⟨g, k * 4 + 3, none⟩ = some (.bool e.live) := by
  rcases h.form with ⟨h1, _⟩ | ⟨g', cap', h1, _, _, _, h2⟩
  · cases h1
  · injection h1 with h1 _ _
    injection h1 with h1
    injection h1 with h1
    subst h1
    exact h2.2 k e he
theorem OwE.free {w : World} {b g n cap : Nat} {es : List Ent} (h : OwE w b (.slice (some ⟨g, 0, none⟩) n cap) es) (j : Nat) : w.frozen? ⟨g, j, none⟩ = false := by
  have hn := h.re.1
  subst hn
  exact World.ownsRow.frozenAt h j
theorem OwE.stored {w : World} {b g n cap k r : Nat} {es : List Ent} {e e' : Ent} {u : Value} (h : OwE w b (.slice (some ⟨g, 0, none⟩) n cap) es) (he : es[k]? = some e) (hr : r < 4) (hu : e.row.toList.set r u = e'.row.toList) : OwE (w.setCell ⟨g, k * 4 + r, none⟩ u) b (.slice (some ⟨g, 0, none⟩) n cap) (es.set k e') := by
  have hn := h.re.1
  subst hn
  have h1 := (World.ownsRow.stored h (k * 4 + r) u).1
  rw [entC_set he e' r u hr hu] at h1
  unfold OwE
  rw [List.length_set]
  exact h1
theorem cloneE_re (es : List Ent) (a : Option Addr) (c : Nat) (w : World) (h : Re w a es) (hl : es.length ≤ 1048576) :
    Calls Try.prog 97 #[.slice a es.length c] w fun e w' => ∃ a' c', e = .returned (.slice a' es.length c') ∧ OwE w' w.heap.size (.slice a' es.length c') es ∧ Below w.heap.size w w' := by
  rcases h with ⟨rfl, rfl⟩ | ⟨g, rfl, h⟩
  · refine (cloneE_nil _ _ w).mono ?_
    rintro e w' ⟨rfl, rfl⟩
    exact ⟨none, 0, rfl, OwE.nil _ _, Below.refl _ _⟩
  · refine (cloneE_any es g c w h hl).mono ?_
    rintro e w' ⟨v', rfl, ho, hne, hb⟩
    rcases OwE.form ho with ⟨h1, _⟩ | ⟨g', c', h1, _⟩
    · exact absurd h1 hne
    · subst h1; exact ⟨_, _, rfl, ho, hb⟩
theorem cloneI_ci (is : List Int) (g c : Nat) (w : World) (h : Ci w g is) (hl : is.length ≤ 1048576) :
    Calls Try.prog 96 #[.slice (some ⟨g, 0, none⟩) is.length c] w fun e w' => ∃ g' c', e = .returned (.slice (some ⟨g', 0, none⟩) is.length c') ∧ OwI w' w.heap.size (.slice (some ⟨g', 0, none⟩) is.length c') is ∧ Below w.heap.size w w' := by
  refine (cloneI_any is g c w h hl).mono ?_
  rintro e w' ⟨v', rfl, ho, hne, hb⟩
  have ho2 : OwI w' w.heap.size v' is := by unfold OwI Own; rw [iv_len]; exact ho
  rcases Own.form ho2 with ⟨h1, _⟩ | ⟨g', c', h1, _⟩
  · exact absurd h1 hne
  · rw [iv_len] at h1; subst h1; exact ⟨_, _, rfl, ho2, hb⟩
set_option maxRecDepth 20000 in
theorem clone_txt (s : ByteArray) (w : World) (hs : s.size ≤ 1048576) : Calls Try.prog 80 #[.string s] w fun e w' => e = .returned (.string s) ∧ Below w.heap.size w w' := by
  have HC := Lib.hid (fun w => Try.stringslite_Clone s w (by omega))
  go_enter Try.func80, Try.ntmps80
  go_wp2_with fail
  refine (HC.out _).mono ?_
  rintro e w2 ⟨rfl, hb⟩
  have HB := Lib.hid hb
  clear hb
  go_wp2_with fail
  go_ret
  exact ⟨rfl, HB.out⟩
/-- A dictionary of the call's own, its two slices in blocks of their own. -/
def OwD (w : World) (b : Nat) (ix : List Int) (es : List Ent) (g1 c1 : Nat) (a2 : Option Addr) (c2 : Nat) : Prop :=
  OwI w b (.slice (some ⟨g1, 0, none⟩) ix.length c1) ix ∧ OwE w b (.slice a2 es.length c2) es ∧ ∀ g, a2 = some ⟨g, 0, none⟩ → g ≠ g1
theorem OwD.below {w w' : World} {b g1 c1 c2 : Nat} {ix : List Int} {es : List Ent} {a2 : Option Addr} (h : OwD w b ix es g1 c1 a2 c2) (hb : Below w.heap.size w w') : OwD w' b ix es g1 c1 a2 c2 := ⟨h.1.below hb, h.2.1.below hb, h.2.2⟩
theorem OwD.wide {w : World} {b b' g1 c1 c2 : Nat} {ix : List Int} {es : List Ent} {a2 : Option Addr} (h : OwD w b ix es g1 c1 a2 c2) (hb : b' ≤ b) : OwD w b' ix es g1 c1 a2 c2 := ⟨h.1.wide hb, h.2.1.wide hb, h.2.2⟩
theorem OwD.lt1 {w : World} {b g1 c1 c2 : Nat} {ix : List Int} {es : List Ent} {a2 : Option Addr} (h : OwD w b ix es g1 c1 a2 c2) : b ≤ g1 ∧ g1 < w.heap.size := h.1.lt g1 rfl
theorem OwD.lt2 {w : World} {b g1 c1 c2 g : Nat} {ix : List Int} {es : List Ent} (h : OwD w b ix es g1 c1 (some ⟨g, 0, none⟩) c2) : b ≤ g ∧ g < w.heap.size := h.2.1.lt g rfl
/-- A store into a block that is neither. -/
theorem OwD.setOff {w : World} {b g1 c1 c2 k i : Nat} {ix : List Int} {es : List Ent} {a2 : Option Addr} {u : Value} (h : OwD w b ix es g1 c1 a2 c2) (h1 : g1 ≠ k) (h2 : ∀ g, a2 = some ⟨g, 0, none⟩ → g ≠ k) : OwD (w.setCell ⟨k, i, none⟩ u) b ix es g1 c1 a2 c2 := by
  refine ⟨h.1.setOff h1, ?_, h.2.2⟩
  rcases h.2.1.form with ⟨e, _⟩ | ⟨g, c, e, _⟩
  · injection e with e _ _
    subst e
    exact h.2.1.setOff (by simp [Value.ownBlock])
  · injection e with e _ _
    subst e
    exact h.2.1.setOff (fun e => h2 g rfl (by simpa [Value.ownBlock] using e))
theorem OwD.tb {w : World} {b g1 c1 c2 : Nat} {ix : List Int} {es : List Ent} {a2 : Option Addr} (h : OwD w b ix es g1 c1 a2 c2) : Tb w g1 ix a2 es := ⟨h.lt1.2, h.1.ci.2, h.2.1.re.2⟩
/-- What a call that copies a dictionary answers. -/
def OtP (ix : List Int) (es : List Ent) (w : World) (e : Ending) (w' : World) : Prop := ∃ g1 c1 a2 c2, e = .returned (.agg #[.slice (some ⟨g1, 0, none⟩) ix.length c1, .slice a2 es.length c2]) ∧ OwD w' w.heap.size ix es g1 c1 a2 c2 ∧ Below w.heap.size w w'
/-- While the texts are copied. -/
def OtI (w1 wx : World) (b : Nat) (ix : List Int) (es : List Ent) (bt g1 c1 : Nat) (a2 : Option Addr) (c2 : Nat) : Prop :=
  Below w1.heap.size w1 wx ∧ w1.heap.size ≤ bt ∧ bt ≠ g1 ∧ (∀ g, a2 = some ⟨g, 0, none⟩ → g ≠ bt) ∧ Blk wx bt 61 #[.slice (some ⟨g1, 0, none⟩) ix.length c1, .slice a2 es.length c2] ∧ OwD wx b ix es g1 c1 a2 c2
theorem OtI.below {w1 wx wy : World} {b bt g1 c1 c2 : Nat} {ix : List Int} {es : List Ent} {a2 : Option Addr} (h : OtI w1 wx b ix es bt g1 c1 a2 c2) (hb : Below wx.heap.size wx wy) : OtI w1 wy b ix es bt g1 c1 a2 c2 :=
  ⟨h.1.trans (hb.mono h.1.size), h.2.1, h.2.2.1, h.2.2.2.1, h.2.2.2.2.1.below hb h.2.2.2.2.1.lt, h.2.2.2.2.2.below hb⟩
theorem OwD.of {w3 wp w4 : World} {b g1 d1 d2 : Nat} {ix : List Int} {es : List Ent} {a2 : Option Addr} {b1 : Nat} (h1 : OwI w3 b1 (.slice (some ⟨g1, 0, none⟩) ix.length d1) ix) (hb1 : b ≤ b1) (hb2 : b ≤ wp.heap.size) (h2 : OwE w4 wp.heap.size (.slice a2 es.length d2) es) (hb : Below w3.heap.size w3 w4) (hp : w3.heap.size ≤ wp.heap.size) : OwD w4 b ix es g1 d1 a2 d2 := by
  have hl := (h1.lt g1 rfl).2
  refine ⟨(h1.below hb).wide hb1, h2.wide hb2, ?_⟩
  rintro g rfl rfl
  have := (h2.lt g rfl).1
  omega
theorem OtI.fresh {w1 w4 : World} {b g1 c1 c2 : Nat} {ix : List Int} {es : List Ent} {a2 : Option Addr} (h : OwD w4 b ix es g1 c1 a2 c2) (hb : Below w1.heap.size w1 w4) : OtI w1 (w4.alloc (Obj.cells #[.slice (some ⟨g1, 0, none⟩) ix.length c1, .slice a2 es.length c2] 61)) b ix es w4.heap.size g1 c1 a2 c2 := by
  refine ⟨hb.alloc hb.size _, hb.size, Nat.ne_of_gt h.lt1.2, ?_, Blk.newest w4 _ _, h.below ((Below.refl _ _).alloc (Nat.le_refl _) _)⟩
  rintro g rfl
  exact Nat.ne_of_lt h.lt2.2
theorem OtI.old {w1 w4 : World} {b bt g1 c1 c2 : Nat} {ix : List Int} {es : List Ent} {a2 : Option Addr} {x y : Value} (h : OwD w4 b ix es g1 c1 a2 c2) (hb : Below w1.heap.size w1 w4) (hv : Blk w4 bt 61 #[x, y]) (hbt : w1.heap.size ≤ bt) (h1 : bt ≠ g1) (h2 : ∀ g, a2 = some ⟨g, 0, none⟩ → g ≠ bt) : OtI w1 ((w4.setCell ⟨bt, 0, none⟩ (.slice (some ⟨g1, 0, none⟩) ix.length c1)).setCell ⟨bt, 1, none⟩ (.slice a2 es.length c2)) b ix es bt g1 c1 a2 c2 :=
  ⟨(hb.setCell hbt _).setCell hbt _, hbt, h1, h2, two_set hv _ _, (h.setOff (Ne.symm h1) h2).setOff (Ne.symm h1) h2⟩
theorem OtI.mid {w1 w3 w4 : World} {o : Obj} {b b1 g1 c1 c2 : Nat} {ix : List Int} {es : List Ent} {a2 : Option Addr} {x y : Value} (h1 : OwI w3 b1 (.slice (some ⟨g1, 0, none⟩) ix.length c1) ix) (hb1 : b ≤ b1) (hb : b = w1.heap.size) (h3 : w1.heap.size ≤ w3.heap.size) (h2 : OwE w4 (w3.alloc o).heap.size (.slice a2 es.length c2) es) (hb4 : Below (w3.alloc o).heap.size (w3.alloc o) w4) (hs : Below w1.heap.size w1 w4) (hv : Blk w4 w3.heap.size 61 #[x, y]) : OtI w1 ((w4.setCell ⟨w3.heap.size, 0, none⟩ (.slice (some ⟨g1, 0, none⟩) ix.length c1)).setCell ⟨w3.heap.size, 1, none⟩ (.slice a2 es.length c2)) b ix es w3.heap.size g1 c1 a2 c2 := by
  have e : (w3.alloc o).heap.size = w3.heap.size + 1 := by simp
  refine OtI.old (OwD.of h1 hb1 (by omega) h2 (((Below.refl _ w3).alloc (Nat.le_refl _) _).trans (hb4.mono (by omega))) (by omega)) hs hv h3 (Nat.ne_of_gt (h1.lt g1 rfl).2) ?_
  rintro g rfl
  have := (h2.lt g rfl).1
  omega
theorem OtI.early {w1 w3 w4 : World} {b b1 g1 c1 c2 : Nat} {ix : List Int} {es : List Ent} {a2 : Option Addr} {x y : Value} (h1 : OwI w3 b1 (.slice (some ⟨g1, 0, none⟩) ix.length c1) ix) (hb1 : w1.heap.size + 1 = b1) (hb : b = w1.heap.size) (h2 : OwE w4 w3.heap.size (.slice a2 es.length c2) es) (hb4 : Below w3.heap.size w3 w4) (hs : Below w1.heap.size w1 w4) (hv : Blk w4 w1.heap.size 61 #[x, y]) : OtI w1 ((w4.setCell ⟨w1.heap.size, 0, none⟩ (.slice (some ⟨g1, 0, none⟩) ix.length c1)).setCell ⟨w1.heap.size, 1, none⟩ (.slice a2 es.length c2)) b ix es w1.heap.size g1 c1 a2 c2 := by
  have e := h1.lt g1 rfl
  refine OtI.old (OwD.of h1 (by omega) (by omega) h2 hb4 (Nat.le_refl _)) hs hv (Nat.le_refl _) (by omega) ?_
  rintro g rfl
  have := (h2.lt g rfl).1
  omega
theorem OtI.key {w1 wx : World} {b bt g1 c1 c2 g2 k : Nat} {ix : List Int} {es : List Ent} {e : Ent} (h : OtI w1 wx b ix es bt g1 c1 (some ⟨g2, 0, none⟩) c2) (he : es[k]? = some e) (hb : w1.heap.size ≤ b) : OtI w1 (wx.setCell ⟨g2, k * 4, none⟩ (.string e.key)) b ix es bt g1 c1 (some ⟨g2, 0, none⟩) c2 := by
  obtain ⟨h1, h2, h3, h4, h5, h6, h7, h8⟩ := h
  refine ⟨h1.setCell (Nat.le_trans hb (h7.lt g2 rfl).1) _, h2, h3, h4, h5.setOff (fun e => h4 g2 rfl e.symm), h6.setOff (fun e => h8 g2 rfl e.symm), ?_, h8⟩
  have h9 := h7.stored (r := 0) (u := .string e.key) (e' := e) he (by omega) (by simp [Ent.row])
  have e1 : es.set k e = es := by
    apply List.ext_getElem?
    intro i
    rw [List.getElem?_set]
    split
    · next h => subst h; rw [he, if_pos (lt_of_ent he)]
    · rfl
  rw [e1] at h9
  exact h9
theorem OtI.facts {w1 w : World} {b bt g1 d1 d2 g2 k ne be : Nat} {ix : List Int} {es : List Ent} {e : Ent} (h : OtI w1 w b ix es bt g1 d1 (some ⟨g2, 0, none⟩) d2) (he : es[k]? = some e) (hn : es.length = ne) (hc : w.cell? ⟨be, 0, none⟩ = some (.string e.key)) : (w.cell? ⟨bt, 1, none⟩ = some (.slice (some ⟨g2, 0, none⟩) ne d2) ∧ w.cell? ⟨be, 0, none⟩ = some (.string e.key) ∧ w.cell? ⟨g2, k * 4, none⟩ = some (.string e.key) ∧ w.frozen? ⟨g2, k * 4, none⟩ = false ∧ Hid (OtI w1 w b ix es bt g1 d1 (some ⟨g2, 0, none⟩) d2)) := by
  subst hn
  refine ⟨(h.2.2.2.2.1.cell 1).trans rfl, hc, (h.2.2.2.2.2.2.1.cellsAt he).1, h.2.2.2.2.2.2.1.free _, Lib.hid h⟩
theorem ot_keep {w1 wa wb : World} {b bt g1 d1 d2 g2 k ne be : Nat} {ix : List Int} {es : List Ent} {e : Ent} (he : es[k]? = some e) (hn : es.length = ne) (h : (wa.cell? ⟨bt, 1, none⟩ = some (.slice (some ⟨g2, 0, none⟩) ne d2) ∧ wa.cell? ⟨be, 0, none⟩ = some (.string e.key) ∧ wa.cell? ⟨g2, k * 4, none⟩ = some (.string e.key) ∧ wa.frozen? ⟨g2, k * 4, none⟩ = false ∧ Hid (OtI w1 wa b ix es bt g1 d1 (some ⟨g2, 0, none⟩) d2))) (hb : Below wa.heap.size wa wb) : (wb.cell? ⟨bt, 1, none⟩ = some (.slice (some ⟨g2, 0, none⟩) ne d2) ∧ wb.cell? ⟨be, 0, none⟩ = some (.string e.key) ∧ wb.cell? ⟨g2, k * 4, none⟩ = some (.string e.key) ∧ wb.frozen? ⟨g2, k * 4, none⟩ = false ∧ Hid (OtI w1 wb b ix es bt g1 d1 (some ⟨g2, 0, none⟩) d2)) :=
  (h.2.2.2.2.out.below hb).facts he hn ((hb.cell (World.block_lt_of_cell? wa _ h.2.1)).trans h.2.1)
theorem ot_store {w1 wa : World} {b bt g1 d1 d2 g2 k ne be : Nat} {ix : List Int} {es : List Ent} {e : Ent} (he : es[k]? = some e) (hn : es.length = ne) (hb : w1.heap.size ≤ b) (h : (wa.cell? ⟨bt, 1, none⟩ = some (.slice (some ⟨g2, 0, none⟩) ne d2) ∧ wa.cell? ⟨be, 0, none⟩ = some (.string e.key) ∧ wa.cell? ⟨g2, k * 4, none⟩ = some (.string e.key) ∧ wa.frozen? ⟨g2, k * 4, none⟩ = false ∧ Hid (OtI w1 wa b ix es bt g1 d1 (some ⟨g2, 0, none⟩) d2))) : ((wa.setCell ⟨g2, k * 4, none⟩ (.string e.key)).cell? ⟨bt, 1, none⟩ = some (.slice (some ⟨g2, 0, none⟩) ne d2) ∧ (wa.setCell ⟨g2, k * 4, none⟩ (.string e.key)).cell? ⟨be, 0, none⟩ = some (.string e.key) ∧ (wa.setCell ⟨g2, k * 4, none⟩ (.string e.key)).cell? ⟨g2, k * 4, none⟩ = some (.string e.key) ∧ (wa.setCell ⟨g2, k * 4, none⟩ (.string e.key)).frozen? ⟨g2, k * 4, none⟩ = false ∧ Hid (OtI w1 (wa.setCell ⟨g2, k * 4, none⟩ (.string e.key)) b ix es bt g1 d1 (some ⟨g2, 0, none⟩) d2)) := by
  refine (h.2.2.2.2.out.key he hb).facts he hn ?_
  by_cases hq : be = g2 ∧ 0 = k * 4
  · obtain ⟨rfl, hq⟩ := hq
    rw [← hq]
    have h3 := h.2.2.1
    rw [← hq] at h3
    exact World.cell?_setCell_same _ _ _ h3
  · rw [World.cell?_setCell_other]
    · exact h.2.1
    · intro e1
      injection e1 with e1 e2
      exact hq ⟨by first | exact e1 | exact e1.symm, by first | exact e2 | exact e2.symm⟩
set_option maxRecDepth 20000 in
set_option maxHeartbeats 4000000 in
theorem ownTable_any (ix : List Int) (es : List Ent) (g c1 c2 : Nat) (a : Option Addr) (w : World) (h : Tb w g ix a es) (hl : es.length ≤ 1048576) (hm : ix.length ≤ 1048576) (hks : KeysS es) :
    Calls Try.prog 72 #[.agg #[.slice (some ⟨g, 0, none⟩) ix.length c1, .slice a es.length c2]] w (OtP ix es w) := by
  obtain ⟨w1, hw1⟩ : ∃ w1, w1 = (w.alloc (Obj.cells #[.slice (some ⟨g, 0, none⟩) ix.length c1, .slice a es.length c2] 27)).alloc (Obj.cells #[.slice none 0 0, .slice none 0 0] 61) := ⟨_, rfl⟩
  have HB1 := Lib.hid (show Below w.heap.size w w1 from by rw [hw1]; exact ((Below.refl _ _).alloc (Nat.le_refl _) _).alloc (by simp) _)
  have HX1 := Lib.hid (show Blk w1 w.heap.size _ #[.slice (some ⟨g, 0, none⟩) ix.length c1, .slice a es.length c2] from by rw [hw1]; exact (Blk.newest w _ _).alloc _)
  have HY1 := Lib.hid (show Blk w1 (w.heap.size + 1) 61 #[.slice none 0 0, .slice none 0 0] from by rw [hw1]; exact Blk.new _ _ _ (by simp))
  have hsz : w1.heap.size = w.heap.size + 2 := by rw [hw1]; simp
  have HT1 := Lib.hid (h.below HB1.out)
  have HCI := Lib.hid (fun w' (hb : w'.cell? ⟨w.heap.size, 0, none⟩ = some (.slice (some ⟨g, 0, none⟩) ix.length c1) ∧ w'.cell? ⟨w.heap.size, 1, none⟩ = some (.slice a es.length c2) ∧ Hid (Below w1.heap.size w1 w')) => cloneI_ci ix g c1 w' (HT1.out.below hb.2.2.out).2.1 hm)
  have HCE := Lib.hid (fun w' (hb : w'.cell? ⟨w.heap.size, 0, none⟩ = some (.slice (some ⟨g, 0, none⟩) ix.length c1) ∧ w'.cell? ⟨w.heap.size, 1, none⟩ = some (.slice a es.length c2) ∧ Hid (Below w1.heap.size w1 w')) => cloneE_re es a c2 w' (HT1.out.below hb.2.2.out).2.2 hl)
  have HKS := Lib.hid (fun wa wb (hs : wa.cell? ⟨w.heap.size, 0, none⟩ = some (.slice (some ⟨g, 0, none⟩) ix.length c1) ∧ wa.cell? ⟨w.heap.size, 1, none⟩ = some (.slice a es.length c2) ∧ Hid (Below w1.heap.size w1 wa)) (hb : Below wa.heap.size wa wb) => show wb.cell? ⟨w.heap.size, 0, none⟩ = some (.slice (some ⟨g, 0, none⟩) ix.length c1) ∧ wb.cell? ⟨w.heap.size, 1, none⟩ = some (.slice a es.length c2) ∧ Hid (Below w1.heap.size w1 wb) from ⟨(hb.cell (show w.heap.size < wa.heap.size by have := hs.2.2.out.size; omega)).trans hs.1, (hb.cell (show w.heap.size < wa.heap.size by have := hs.2.2.out.size; omega)).trans hs.2.1, Lib.hid (hs.2.2.out.trans (hb.mono hs.2.2.out.size))⟩)
  have HKW := Lib.hid (fun wa wb (hs : wa.cell? ⟨w.heap.size, 0, none⟩ = some (.slice (some ⟨g, 0, none⟩) ix.length c1) ∧ wa.cell? ⟨w.heap.size, 1, none⟩ = some (.slice a es.length c2) ∧ Hid (Below w1.heap.size w1 wa)) (hb : Below w1.heap.size wa wb) => show wb.cell? ⟨w.heap.size, 0, none⟩ = some (.slice (some ⟨g, 0, none⟩) ix.length c1) ∧ wb.cell? ⟨w.heap.size, 1, none⟩ = some (.slice a es.length c2) ∧ Hid (Below w1.heap.size w1 wb) from ⟨(hb.cell (show w.heap.size < w1.heap.size by omega)).trans hs.1, (hb.cell (show w.heap.size < w1.heap.size by omega)).trans hs.2.1, Lib.hid (hs.2.2.out.trans hb)⟩)
  have HTX := Lib.hid (fun (k : Nat) (e : Ent) (he : es[k]? = some e) w => clone_txt e.key w (hks e (List.mem_of_getElem? he)))
  have HW1 := Lib.hid hw1
  have HBw := Lib.hid HB1.out
  clear h hw1
  generalize hmm : ix.length = m at *
  generalize hne : es.length = ne at *
  have HNE := Lib.hid hne
  have HMM := Lib.hid hmm
  clear hmm hne
  have b0 := HX1.out.cell 0
  have b1 := HX1.out.cell 1
  have HSZ := Lib.hid hsz
  clear hsz
  go_enter Try.func72, Try.ntmps72
  go_upto_region 1 with fail
  rw [← HW1.out]
  go_cut [3] (fun p wx => ∃ bt g1 d1 a2 d2, p = .pointer (some ⟨bt, 0, none⟩) ∧ Hid (OtI w1 wx w1.heap.size ix es bt g1 d1 a2 d2))
  case first =>
    go_region_held (fun w' => w'.cell? ⟨w.heap.size, 0, none⟩ = some (.slice (some ⟨g, 0, none⟩) m c1) ∧ w'.cell? ⟨w.heap.size, 1, none⟩ = some (.slice a ne c2) ∧ Hid (Below w1.heap.size w1 w'))
      (first | exact ⟨b0, b1, Lib.hid (Below.refl _ _).drew⟩ | exact HS4.out | exact HKS.out _ _ HS4.out ((Below.refl _ _).alloc (Nat.le_refl _) _) | exact HKW.out _ _ HS4.out (((Below.refl _ _).setCell (by first | exact Nat.le_refl _ | exact HS3.out.2.2.out.size) _).setCell (by first | exact Nat.le_refl _ | exact HS3.out.2.2.out.size) _) | exact HS3.out | exact HKS.out _ _ (by assumption) ((Below.refl _ _).alloc (Nat.le_refl _) _))
      (first | (go_at_call 96; refine (HCI.out _ (by assumption)).mono ?_; rintro e w3 ⟨g1, d1, rfl, ho1, hb3⟩; have HS3 := Lib.hid (HKS.out _ _ (by assumption) hb3); (try have HV := Lib.hid (show Blk w3 w1.heap.size _ _ from Blk.below (Blk.newest w1.drew _ _) hb3 (by first | simp | exact Nat.lt_succ_self _))); have HO1 := Lib.hid ho1; have HB3 := Lib.hid hb3; clear ho1 hb3) | (go_at_call 97; refine (HCE.out _ (by assumption)).mono ?_; rintro e w4 ⟨a2, d2, rfl, ho2, hb4⟩; have HS4 := Lib.hid (HKS.out _ _ (by assumption) hb4); (first | have HV := Lib.hid (HV.out.below hb4 HV.out.lt) | have HV := Lib.hid (Blk.below (Blk.newest _ _ _) hb4 (by simp)) | skip); (try (have q0 := HV.out.cell 0; have q1 := HV.out.cell 1; have q2 := HV.out.free 0; have q3 := HV.out.free 1)); have HO2 := Lib.hid ho2; have HB4 := Lib.hid hb4; clear ho2 hb4))
    all_goals (try go_wp2)
    all_goals go_meet
    all_goals (have hmm := HMM.out; have hne := HNE.out; subst hmm; subst hne)
    all_goals first
      | exact ⟨_, _, _, _, _, rfl, Lib.hid (OtI.fresh (OwD.of HO1.out (Nat.le_refl _) HS3.out.2.2.out.size HO2.out HB4.out (Nat.le_refl _)) HS4.out.2.2.out)⟩
      | exact ⟨_, _, _, _, _, rfl, Lib.hid (OtI.mid HO1.out (Nat.le_refl _) rfl HS3.out.2.2.out.size HO2.out HB4.out HS4.out.2.2.out HV.out)⟩
      | exact ⟨_, _, _, _, _, rfl, Lib.hid (OtI.early HO1.out (by simp) rfl HO2.out HB4.out HS4.out.2.2.out HV.out)⟩
  obtain ⟨bt, g1, d1, a2, d2, rfl, HI0⟩ := hcut
  have HBt := Lib.hid HI0.out.2.2.2.2.1
  rw [HMM.out, HNE.out] at HBt
  have t0 := HBt.out.cell 0
  have t1 := HBt.out.cell 1
  clear b0 b1
  go_wp2_with fail
  go_loopw [16] (fun i wr => ∃ k : Nat, k ≤ ne ∧ i = .int .i64 k ∧ Hid (OtI w1 wr w1.heap.size ix es bt g1 d1 a2 d2)) (fun i _ => ne - (intOf i).toNat)
  case atStart => exact ⟨0, by omega, rfl, HI0⟩
  case round =>
    obtain ⟨k, hk, rfl, HI⟩ := hrel
    by_cases hltk : k < ne
    · obtain ⟨g2, e, rfl, he, hb, x0, x1, x2, x3⟩ := (HI.out.2.2.2.2.2.tb.2.2).at (show k < es.length by rw [HNE.out]; exact hltk)
      have q1 : (k : Int) < (ne : Int) := by omega
      have q0 : 0 ≤ (k : Int) := by omega
      have HL := Lib.hid (lies4 x0 x1 x2 x3)
      have HE := Lib.hid he
      have HT := Lib.hid (HTX.out k e he)
      have HK1 := Lib.hid (fun wa wb h hb => ot_keep (wa := wa) (wb := wb) (w1 := w1) (b := w1.heap.size) (ix := ix) (bt := bt) (g1 := g1) (d1 := d1) (d2 := d2) (g2 := g2) (be := wr.heap.size) he HNE.out h hb)
      have HK2 := Lib.hid (fun wa h => ot_store (wa := wa) (w1 := w1) (b := w1.heap.size) (ix := ix) (bt := bt) (g1 := g1) (d1 := d1) (d2 := d2) (g2 := g2) (be := wr.heap.size) he HNE.out (Nat.le_refl _) h)
      have HK0 := Lib.hid (fun wa (h : Below wr.heap.size wr wa) h0 => OtI.facts (be := wr.heap.size) (HI.out.below h) he HNE.out h0)
      clear x0 x1 x2 x3 he t0 t1
      go_wp2_with (first | (refine ldE (o := ⟨some 20, _, _, _, _, _⟩) rfl (.tmp 19) rfl g2 (k * 4) (.string e.key) (.int .i64 e.hash) (.int .i64 e.val) (.bool e.live) rfl HL.out ?_))
      go_region_held (fun w' => w'.cell? ⟨bt, 1, none⟩ = some (.slice (some ⟨g2, 0, none⟩) ne d2) ∧ w'.cell? ⟨wr.heap.size, 0, none⟩ = some (.string e.key) ∧ w'.cell? ⟨g2, k * 4, none⟩ = some (.string e.key) ∧ w'.frozen? ⟨g2, k * 4, none⟩ = false ∧ Hid (OtI w1 w' w1.heap.size ix es bt g1 d1 (some ⟨g2, 0, none⟩) d2))
        (first | exact HK0.out _ ((Below.refl _ wr).alloc (Nat.le_refl _) _).drew (by simp) | exact HK1.out _ _ (by assumption) (by assumption) | exact HK2.out _ (by assumption))
        (first | (go_at_call 80; refine (HT.out _).mono ?_; rintro r w3 ⟨rfl, hb3⟩))
      have HJ : Hid (OtI w1 _ w1.heap.size ix es bt g1 d1 (some ⟨g2, 0, none⟩) d2) := (‹_ ∧ _ ∧ _ ∧ _ ∧ Hid (OtI _ _ _ _ _ _ _ _ _ _)›).2.2.2.2
      go_wp2_with fail
      go_roundw
      case rel => exact ⟨k + 1, by omega, by go_num, HJ⟩
      case measure => simp [intOf]; try omega
    · obtain rfl : k = ne := by omega
      clear hltk t0 t1
      have HR := Lib.hid (HY1.out.below HI.out.1 HY1.out.lt)
      have HBr := Lib.hid HI.out.2.2.2.2.1
      rw [HMM.out, HNE.out] at HBr
      have t0 := HBr.out.cell 0
      have t1 := HBr.out.cell 1
      have b0 := HR.out.cell 0
      have b1 := HR.out.cell 1
      have f0 := HR.out.free 0
      have f1 := HR.out.free 1
      go_wp2_with fail
      have HZ := Lib.hid (two_set HR.out (.slice (some ⟨g1, 0, none⟩) m d1) (.slice a2 k d2))
      have hz := HSZ.out
      have hg1 := HI.out.2.2.2.2.2.lt1
      exact bodyPost_ret (v := .agg #[.slice (some ⟨g1, 0, none⟩) m d1, .slice a2 k d2]) (results_cell_row rfl _ _ (w.heap.size + 1) 61 _ (0, 0) _ rfl HZ.out Try.underlying61 rfl (by kernel_rfl)) rfl
        ⟨g1, d1, a2, d2, by rw [HMM.out, HNE.out], ((HI.out.2.2.2.2.2.setOff (by omega) (by rintro g rfl; have := HI.out.2.2.2.2.2.lt2; omega)).setOff (by omega) (by rintro g rfl; have := HI.out.2.2.2.2.2.lt2; omega)).wide (by omega), ((HBw.out.trans (HI.out.1.mono HBw.out.size)).setCell (by show w.heap.size ≤ w.heap.size + 1; omega) _).setCell (by show w.heap.size ≤ w.heap.size + 1; omega) _⟩
theorem own_ne {w : World} {b b' : Nat} {v u : Value} {is : List Int} {es : List Ent} (h : OwI w b v is) (h2 : OwE w b' u es) : v.ownBlock = none ∨ v.ownBlock ≠ u.ownBlock := by
  rcases h.2 with ⟨rfl, _⟩ | ⟨g, cap, cur, rfl, _, hh, _⟩
  · exact .inl rfl
  · right
    rcases h2.2 with ⟨rfl, _⟩ | ⟨g', cap', cur', rfl, _, hh', _⟩
    · simp [Value.ownBlock]
    · intro e
      have e1 : g = g' := by simpa [Value.ownBlock] using e
      subst e1
      rw [hh] at hh'
      injection hh' with hh'
      injection hh' with _ h3 _
      exact absurd h3 (by decide)
theorem own_ne' {w : World} {b b' : Nat} {v u : Value} {is : List Int} {es : List Ent} (h : OwI w b v is) (h2 : OwE w b' u es) : u.ownBlock = none ∨ u.ownBlock ≠ v.ownBlock := by
  rcases own_ne h h2 with h3 | h3
  · cases hu : u.ownBlock with
    | none => exact .inl rfl
    | some g => rw [h3]; exact .inr (by simp)
  · exact .inr (Ne.symm h3)
theorem OwD.made {w : World} {b g1 c1 c2 : Nat} {ix : List Int} {es : List Ent} {a2 : Option Addr} (h : OwI w b (.slice (some ⟨g1, 0, none⟩) ix.length c1) ix) (h2 : OwE w b (.slice a2 es.length c2) es) : OwD w b ix es g1 c1 a2 c2 := by
  refine ⟨h, h2, ?_⟩
  rintro g rfl rfl
  rcases own_ne h h2 with h3 | h3
  · simp [Value.ownBlock] at h3
  · simp [Value.ownBlock] at h3
theorem own_some {w : World} {b n c : Nat} {a : Option Addr} {ix : List Int} (h : OwI w b (.slice a n c) ix) (h8 : 1 ≤ ix.length) : ∃ g, a = some ⟨g, 0, none⟩ := by
  rcases Own.form h with ⟨_, h1⟩ | ⟨g, _, h1, _⟩
  · have := iv_len ix
    rw [h1] at this
    simp at this
    omega
  · injection h1 with h1 _ _
    exact ⟨g, h1⟩
theorem OwE.grown {w w' : World} {b : Nat} {v : Value} {es : List Ent} {row : Option Nat} (h : OwE w b v es) (hg : w.grownBy w' row) (hne : v.ownBlock = none ∨ v.ownBlock ≠ row) : OwE w' b v es := World.ownsRow.kept h hg hne
theorem litI (w : World) (b : Nat) (hb : b ≤ w.heap.size) : OwI (w.alloc (Obj.cells #[] 3)) b (.slice (some ⟨w.heap.size, 0, none⟩) 0 0) [] := World.ownsRow_lit w #[] 0 hb (by decide) rfl
theorem litE (w : World) (b : Nat) (hb : b ≤ w.heap.size) : OwE (w.alloc (Obj.cells #[] 64)) b (.slice (some ⟨w.heap.size, 0, none⟩) 0 0) [] := World.ownsRow_lit w #[] 0 hb (by decide) rfl
theorem re_none {w : World} {es : List Ent} (h : Re w none es) : es.length = 0 := by
  rcases h with ⟨_, rfl⟩ | ⟨g, h, _⟩
  · rfl
  · cases h
theorem litI1 (w : World) (o : Obj) (b : Nat) (hb : b ≤ w.heap.size) : OwI ((w.alloc (Obj.cells #[] 3)).alloc o).drew b (.slice (some ⟨w.heap.size, 0, none⟩) 0 0) [] := (litI w b hb).below ((Below.refl _ _).alloc (Nat.le_refl _) _).drew
theorem litI2 (w : World) (o : Obj) (b : Nat) (hb : b ≤ w.heap.size) : OwI ((w.alloc o).alloc (Obj.cells #[] 3)).drew b (.slice (some ⟨w.heap.size + 1, 0, none⟩) 0 0) [] := by
  have h := litI (w.alloc o) b (by simp; omega)
  rw [show (w.alloc o).heap.size = w.heap.size + 1 by simp] at h
  exact h
theorem litE1 (w : World) (o : Obj) (b : Nat) (hb : b ≤ w.heap.size) : OwE ((w.alloc (Obj.cells #[] 64)).alloc o).drew b (.slice (some ⟨w.heap.size, 0, none⟩) 0 0) [] := (litE w b hb).below ((Below.refl _ _).alloc (Nat.le_refl _) _).drew
theorem litE2 (w : World) (o : Obj) (b : Nat) (hb : b ≤ w.heap.size) : OwE ((w.alloc o).alloc (Obj.cells #[] 64)).drew b (.slice (some ⟨w.heap.size + 1, 0, none⟩) 0 0) [] := by
  have h := litE (w.alloc o) b (by simp; omega)
  rw [show (w.alloc o).heap.size = w.heap.size + 1 by simp] at h
  exact h
section
variable {ops : Array Oper} {o : Oper} {a : Act} {w : World} {K : Act → World → Prop} {Q : Exit → Act → World → Prop} {E : Prop}
theorem stepI (hgd : o.guard = none) (s x : Operand) (ho : o.op = .call { callee := .builtin .append, args := #[s, x], argTypes := #[24, 24] }) (base : Nat) (v : Value) (is js : List Int) (g n c : Nat) (hs : a.eval s = v) (hx : a.eval x = .slice (some ⟨g, 0, none⟩) n c)
    (hn : js.length = n) (hown : OwI w base v is) (hc : Ci w g js) (hlen : is.length + n ≤ 2097152) (hbase : base ≤ w.heap.size)
    (N : Nat) (hN : (is ++ js).length = N) (h : ∀ a' c' w', OwI w' base (.slice a' N c') (is ++ js) → w.grownBy w' v.ownBlock → Below base w w' → K (a.put o.dst (.slice a' N c')) w') : if Region.wanted o (yielded ops a.tmps) = true then Oper.wp Try.prog o a w K Q else E := by
  rw [if_pos (by simp [Region.wanted, hgd])]
  subst hn
  obtain ⟨i0, hi, hz0, hz1, hz2⟩ := info_of (show (Try.prog.info? 3).map (fun i => (i.zero, i.size, i.bytes)) = some (some (.int .i64 0), 1, 8) from by kernel_rfl)
  refine wp_append_own w s x 24 ho base 3 i0 (.int .i64 0) 1 8 Try.underlying24 hi hz0 hz1 hz2 rfl (by decide) v is.length (iv is) hs (by unfold OwI Own at hown; rw [iv_len] at hown; exact hown) ⟨g, 0, none⟩ js.length c (iv js) hx (by rw [iv_len, Nat.mul_one]) ?_ ?_ (by unfold maxLen; omega) (by omega) hbase ?_
  · intro j u hj
    rw [addr_add, Nat.zero_add]
    exact iv_cell hc hj
  · intro u hu
    unfold iv at hu
    rw [List.mem_map] at hu
    obtain ⟨i, _, rfl⟩ := hu
    rfl
  · intro v' w' h1 h2 _
    have h3 : OwI w' base v' (is ++ js) := by
      unfold OwI Own
      have e : iv (is ++ js) = iv is ++ iv js := by unfold iv; rw [List.map_append]
      rw [e, List.length_append, iv_len, iv_len]
      exact h1
    have hB : Below base w w' := (Below.refl base w).grown h2 hbase (fun k hk => (hown.lt k hk).1)
    rcases Own.form h3 with ⟨rfl, e⟩ | ⟨g', c', rfl, _⟩
    · have e2 : N = 0 := by rw [← hN, ← iv_len, e]; rfl
      subst e2
      exact h _ _ w' h3 h2 hB
    · rw [iv_len, hN] at h3 ⊢
      exact h _ _ w' h3 h2 hB
theorem stepE (hgd : o.guard = none) (s x : Operand) (ho : o.op = .call { callee := .builtin .append, args := #[s, x], argTypes := #[25, 25] }) (base : Nat) (v : Value) (es fs : List Ent) (ad : Option Addr) (n c : Nat) (hs : a.eval s = v) (hx : a.eval x = .slice ad n c) (hcap : ad = none → n = 0 ∧ c = 0)
    (hn : fs.length = n) (hown : OwE w base v es) (hc : Re w ad fs) (hlen : es.length + n ≤ 2097152) (hbase : base ≤ w.heap.size)
    (N : Nat) (hN : (es ++ fs).length = N) (h : ∀ a' c' w', OwE w' base (.slice a' N c') (es ++ fs) → w.grownBy w' v.ownBlock → Below base w w' → OwE w base v es → K (a.put o.dst (.slice a' N c')) w') : if Region.wanted o (yielded ops a.tmps) = true then Oper.wp Try.prog o a w K Q else E := by
  rw [if_pos (by simp [Region.wanted, hgd])]
  subst hn
  have key : ∀ v' w', OwE w' base v' (es ++ fs) → w.grownBy w' v.ownBlock → K (a.put o.dst v') w' := by
    intro v' w' h3 h2
    have hB : Below base w w' := (Below.refl base w).grown h2 hbase (fun k hk => (hown.lt k hk).1)
    rcases h3.form with ⟨rfl, e⟩ | ⟨g', c', rfl, _⟩
    · have e2 : N = 0 := by rw [← hN, e]; rfl
      subst e2
      exact h _ _ w' h3 h2 hB hown
    · rw [hN] at h3 ⊢
      exact h _ _ w' h3 h2 hB hown
  obtain ⟨i0, hi, hz0, hz1, hz2⟩ := info_of (show (Try.prog.info? 64).map (fun i => (i.zero, i.size, i.bytes)) = some (some (.agg #[.string ⟨#[]⟩, .int .i64 0, .int .i64 0, .bool false]), 4, 40) from by kernel_rfl)
  rcases hc with ⟨rfl, rfl⟩ | ⟨g, rfl, hc⟩
  · obtain ⟨_, rfl⟩ := hcap rfl
    have hrun := run_append_owned_none (P := Try.prog) (w := w) base 25 o.type 64 i0 4 Try.underlying25 hi v _ _ hown
    unfold Oper.wp
    simp [execOp, ho, resolve, invoke, builtin, hs, hx, hrun, Result.andThen]
    exact key v w (by rw [List.append_nil]; exact hown) (World.grownBy.refl _ _)
  · refine wp_append_own w s x 25 ho base 64 i0 (.agg #[.string ⟨#[]⟩, .int .i64 0, .int .i64 0, .bool false]) 4 40 Try.underlying25 hi hz0 hz1 hz2 rfl (by decide) v es.length (entC es) hs hown ⟨g, 0, none⟩ fs.length c (entC fs) hx (entC_len fs) ?_ entC_one (by unfold maxLen; omega) (by omega) hbase ?_
    · intro j u hj
      rw [addr_add, Nat.zero_add]
      exact entC_cell hc hj
    · intro v' w' h1 h2 _
      refine key v' w' ?_ h2
      unfold OwE
      rw [entC_app, List.length_append]
      exact h1
end
set_option maxRecDepth 20000 in
set_option maxHeartbeats 4000000 in
theorem copyDict_any (ix : List Int) (es : List Ent) (g c1 c2 : Nat) (a : Option Addr) (w : World) (h : Tb w g ix a es) (hl : es.length ≤ 1048576) (hm : ix.length ≤ 1048576) (hcap : a = none → c2 = 0) (h8 : 1 ≤ ix.length) :
    Calls Try.prog 75 #[.agg #[.slice (some ⟨g, 0, none⟩) ix.length c1, .slice a es.length c2]] w (OtP ix es w) := by
  obtain ⟨w1, hw1⟩ : ∃ w1, w1 = (w.alloc (Obj.cells #[.slice (some ⟨g, 0, none⟩) ix.length c1, .slice a es.length c2] 27)).alloc (Obj.cells #[.slice none 0 0, .slice none 0 0] 27) := ⟨_, rfl⟩
  have HB1 := Lib.hid (show Below w.heap.size w w1 from by rw [hw1]; exact ((Below.refl _ _).alloc (Nat.le_refl _) _).alloc (by simp) _)
  have HX1 := Lib.hid (show Blk w1 w.heap.size _ #[.slice (some ⟨g, 0, none⟩) ix.length c1, .slice a es.length c2] from by rw [hw1]; exact (Blk.newest w _ _).alloc _)
  have HY1 := Lib.hid (show Blk w1 (w.heap.size + 1) 27 #[.slice none 0 0, .slice none 0 0] from by rw [hw1]; exact Blk.new _ _ _ (by simp))
  have hsz : w1.heap.size = w.heap.size + 2 := by rw [hw1]; simp
  have HTS := Lib.hid (fun w' (hs : w'.cell? ⟨w.heap.size, 0, none⟩ = some (.slice (some ⟨g, 0, none⟩) ix.length c1) ∧ w'.cell? ⟨w.heap.size, 1, none⟩ = some (.slice a es.length c2) ∧ Hid (Below (w.heap.size + 1) w1 w')) => h.below (HB1.out.trans (hs.2.2.out.mono (Nat.le_succ _))))
  have HKW := Lib.hid (fun wa wb (hs : wa.cell? ⟨w.heap.size, 0, none⟩ = some (.slice (some ⟨g, 0, none⟩) ix.length c1) ∧ wa.cell? ⟨w.heap.size, 1, none⟩ = some (.slice a es.length c2) ∧ Hid (Below (w.heap.size + 1) w1 wa)) (hb : Below (w.heap.size + 1) wa wb) => show wb.cell? ⟨w.heap.size, 0, none⟩ = some (.slice (some ⟨g, 0, none⟩) ix.length c1) ∧ wb.cell? ⟨w.heap.size, 1, none⟩ = some (.slice a es.length c2) ∧ Hid (Below (w.heap.size + 1) w1 wb) from ⟨(hb.cell (Nat.lt_succ_self _)).trans hs.1, (hb.cell (Nat.lt_succ_self _)).trans hs.2.1, Lib.hid (hs.2.2.out.trans hb)⟩)
  have HLE := Lib.hid (fun w' (hs : w'.cell? ⟨w.heap.size, 0, none⟩ = some (.slice (some ⟨g, 0, none⟩) ix.length c1) ∧ w'.cell? ⟨w.heap.size, 1, none⟩ = some (.slice a es.length c2) ∧ Hid (Below (w.heap.size + 1) w1 w')) => hs.2.2.out.size)
  have HW1 := Lib.hid hw1
  have HSZ := Lib.hid hsz
  clear hw1 hsz
  generalize hmm : ix.length = m at *
  generalize hne : es.length = ne at *
  have HNE := Lib.hid hne
  have HMM := Lib.hid hmm
  clear hmm hne
  have b0 := HX1.out.cell 0
  have b1 := HX1.out.cell 1
  have f0 := HY1.out.free 0
  have f1 := HY1.out.free 1
  have y0 := HY1.out.cell 0
  have y1 := HY1.out.cell 1
  have HCP := Lib.hid (show a = none → ne = 0 ∧ c2 = 0 from fun e => ⟨by rw [← HNE.out]; subst e; exact re_none h.2.2, hcap e⟩)
  clear hcap h
  go_enter Try.func75, Try.ntmps75
  go_upto_region 1 with fail
  rw [← HW1.out]
  have HS1 := Lib.hid (show w1.cell? ⟨w.heap.size, 0, none⟩ = some (.slice (some ⟨g, 0, none⟩) m c1) ∧ w1.cell? ⟨w.heap.size, 1, none⟩ = some (.slice a ne c2) ∧ Hid (Below (w.heap.size + 1) w1 w1) from ⟨b0, b1, Lib.hid (Below.refl _ _)⟩)
  go_region_held3 (fun w' => w'.cell? ⟨w.heap.size, 0, none⟩ = some (.slice (some ⟨g, 0, none⟩) m c1) ∧ w'.cell? ⟨w.heap.size, 1, none⟩ = some (.slice a ne c2) ∧ Hid (Below (w.heap.size + 1) w1 w'))
    (first | exact ⟨b0, b1, Lib.hid (Below.refl _ _).drew⟩ | exact HKW.out _ _ HS1.out ((Below.refl _ _).alloc (by have := HSZ.out; omega) _).drew | exact HKW.out _ _ HS1.out (((Below.refl _ _).alloc (by have := HSZ.out; omega) _).alloc (by have := HSZ.out; simp; omega) _).drew | exact HS4.out | exact HS3.out | exact HKW.out _ _ HS3.out ((Below.refl _ _).alloc (by have := HSZ.out; have := HLE.out _ HS3.out; omega) _) | exact HKW.out w4 _ HS4.out (((Below.refl (w.heap.size + 1) w4).setCell (p := ⟨w.heap.size + 1, 0, none⟩) (Nat.le_refl _) _).setCell (p := ⟨w.heap.size + 1, 1, none⟩) (Nat.le_refl _) _))
    (first | (refine stepI rfl (.tmp 3) (.tmp 5) rfl w1.heap.size _ [] ix g m c1 rfl rfl HMM.out (by first | exact litI w1 _ (Nat.le_refl _) | exact litI1 w1 _ _ (Nat.le_refl _) | exact litI2 w1 _ _ (Nat.le_refl _)) (HTS.out _ (by assumption)).2.1 (by simp; omega) (HLE.out _ (by assumption)) m (by simpa using HMM.out) ?_; intro a3 c3 w3 ho3 hg3 hb3; have HY3 := Lib.hid (show Blk w3 (w.heap.size + 1) 27 #[.slice none 0 0, .slice none 0 0] from Blk.below (by first | exact HY1.out.alloc _ | exact (HY1.out.alloc _).alloc _) hb3 (by have := HSZ.out; omega)); have HS3 := Lib.hid (HKW.out _ _ (by assumption) (hb3.mono (by have := HSZ.out; omega))); have HO3 := Lib.hid ho3; (first | have HG3 := Lib.hid (show World.grownBy _ w3 (some w1.heap.size) from hg3) | have HG3 := Lib.hid (show World.grownBy _ w3 (some (w1.heap.size + 1)) from hg3)); clear ho3 hg3 hb3) | (refine stepE rfl (.tmp 7) (.tmp 9) rfl w1.heap.size _ [] es a ne c2 rfl rfl HCP.out HNE.out (by first | exact litE w3 _ (HLE.out _ HS3.out) | exact (litE2 w1 _ _ (Nat.le_refl _)).grown HG3.out (.inr (by simp [Value.ownBlock])) | exact (litE1 w1 _ _ (Nat.le_refl _)).grown HG3.out (.inr (by simp [Value.ownBlock]))) (HTS.out _ (by assumption)).2.2 (by simp; omega) (HLE.out _ (by assumption)) ne (by simpa using HNE.out) ?_; intro a4 c4 w4 ho4 hg4 hb4 hd4; have HS4 := Lib.hid (HKW.out _ _ (by assumption) (hb4.mono (by have := HSZ.out; omega))); have HO4 := Lib.hid ho4; have HI4 := Lib.hid (show OwI w4 w1.heap.size (.slice a3 m c3) ([] ++ ix) from by first | exact HO3.out.grown hg4 (own_ne HO3.out hd4) | exact (HO3.out.below ((Below.refl _ _).alloc (Nat.le_refl _) _)).grown hg4 (own_ne (HO3.out.below ((Below.refl _ _).alloc (Nat.le_refl _) _)) hd4)); have HR := Lib.hid (show Blk w4 (w.heap.size + 1) 27 #[.slice none 0 0, .slice none 0 0] from Blk.below (by first | exact HY3.out | exact HY3.out.alloc _) hb4 (by have := HSZ.out; omega)); have z0 := HR.out.cell 0; have z1 := HR.out.cell 1; have z2 := HR.out.free 0; have z3 := HR.out.free 1; clear ho4 hg4 hb4 hd4))
  all_goals
    go_wp2_with fail
    have hmm := HMM.out
    have hne := HNE.out
    subst hmm
    subst hne
    obtain ⟨g1, rfl⟩ := own_some HI4.out h8
    have HZ := two_set HR.out (.slice (some ⟨g1, 0, none⟩) ix.length c3) (.slice a4 es.length c4)
    have HD := OwD.made HI4.out HO4.out
    have hz := HSZ.out
    exact bodyPost_ret (v := .agg #[.slice (some ⟨g1, 0, none⟩) ix.length c3, .slice a4 es.length c4]) (results_cell_row rfl _ _ (w.heap.size + 1) 27 _ (0, 0) _ rfl HZ Try.underlying27 rfl (by kernel_rfl)) rfl
      ⟨g1, c3, a4, c4, rfl, ((HD.setOff (by have := HD.lt1; omega) (by rintro g rfl; have := HD.lt2; omega)).setOff (by have := HD.lt1; omega) (by rintro g rfl; have := HD.lt2; omega)).wide (by omega), ((HB1.out.trans (HS4.out.2.2.out.mono (Nat.le_succ _))).setCell (by show w.heap.size ≤ w.heap.size + 1; omega) _).setCell (by show w.heap.size ≤ w.heap.size + 1; omega) _⟩
theorem res_ct {fn : Func} {p u : Tmp} {ty : TypeId} (h : fn.results = #[.cell p ty, .tmp u]) (tmps : Array Value) (w : World) (g : Nat) (cs : Array Value)
    (hp : tmps.getD p undef = .pointer (some ⟨g, 0, none⟩)) (hl : (loadVar ty ⟨g, 0, none⟩).run Try.prog w = .ok (.agg cs) w) :
    (results fn tmps).run Try.prog w = .ok (.tuple #[.agg cs, tmps.getD u undef]) w := by
  rw [results_cell_tmp h, hp]
  simp only [asAddr, Sem.run_pure, Result.andThen_ok, hl]
theorem ld_dict {w : World} {g : Nat} {t : TypeId} {x y : Value} (h : Blk w g t #[x, y]) : (loadVar 27 ⟨g, 0, none⟩).run Try.prog w = .ok (.agg #[x, y]) w := run_loadVar_row w g t 27 _ (0, 0) _ h Try.underlying27 rfl (by kernel_rfl)
/-- An entry that is none. -/
def ze : Ent := ⟨⟨#[]⟩, 0, 0, false⟩
/-- A dictionary of the call's own. -/
def OdD (w : World) (b : Nat) (R : List Int × List Ent) (a1 : Option Addr) (c1 : Nat) (a2 : Option Addr) (c2 : Nat) : Prop := OwI w b (.slice a1 R.1.length c1) R.1 ∧ OwE w b (.slice a2 R.2.length c2) R.2
theorem OwD.od {w : World} {b g1 c1 c2 : Nat} {ix : List Int} {es : List Ent} {a2 : Option Addr} (h : OwD w b ix es g1 c1 a2 c2) : OdD w b (ix, es) (some ⟨g1, 0, none⟩) c1 a2 c2 := ⟨h.1, h.2.1⟩
theorem OdD.none (w : World) (b : Nat) : OdD w b ([], []) none 0 none 0 := ⟨Own.nil _ _ _, OwE.nil _ _⟩
theorem OdD.below {w w' : World} {b c1 c2 : Nat} {R : List Int × List Ent} {a1 a2 : Option Addr} (h : OdD w b R a1 c1 a2 c2) (hb : Below w.heap.size w w') : OdD w' b R a1 c1 a2 c2 := ⟨h.1.below hb, h.2.below hb⟩
def OdP (R : (List Int × List Ent) × Bool) (w : World) (e : Ending) (w' : World) : Prop := ∃ a1 c1 a2 c2, e = .returned (.tuple #[.agg #[.slice a1 R.1.1.length c1, .slice a2 R.1.2.length c2], .bool R.2]) ∧ OdD w' w.heap.size R.1 a1 c1 a2 c2 ∧ Below w.heap.size w w'
noncomputable def drV (ix : List Int) (es : List Ent) (key : ByteArray) : (List Int × List Ent) × Bool :=
  if keyB key && dokB ix es then (if plc ix es key (hsh key.data.toList) < 0 then ((ix, es), false) else ((ix.set (fstS ix es key (hsh key.data.toList)) (-2), es.set (plc ix es key (hsh key.data.toList)).toNat ze), true)) else (([], []), false)
theorem drV_no {ix : List Int} {es : List Ent} {key : ByteArray} (h : (keyB key && dokB ix es) = false) : drV ix es key = (([], []), false) := by unfold drV; rw [if_neg (by rw [h]; decide)]
theorem drV_yes {ix : List Int} {es : List Ent} {key : ByteArray} (h : keyB key = true) (h2 : dokB ix es = true) : drV ix es key = (if plc ix es key (hsh key.data.toList) < 0 then ((ix, es), false) else ((ix.set (fstS ix es key (hsh key.data.toList)) (-2), es.set (plc ix es key (hsh key.data.toList)).toNat ze), true)) := by unfold drV; rw [if_pos (by rw [h, h2]; rfl)]
theorem plc_in2 {ix : List Int} {es : List Ent} {key : ByteArray} {hs : Nat} (h : Fit ix es) (hh : hs < 65536) : plc ix es key hs = -1 ∨ ∃ k : Nat, plc ix es key hs = (k : Int) ∧ k < es.length := by
  rcases plc_is (key := key) h hh with h1 | ⟨k, h1, h2, _⟩
  · exact .inl h1
  · exact .inr ⟨k, h1, h2⟩
theorem fstS_lt {ix : List Int} {es : List Ent} {key : ByteArray} {hs : Nat} (h : Fit ix es) (hh : hs < 65536) : fstS ix es key hs < ix.length := by
  have h4 := (fst_ok (key := key) h hh).2.2.2
  rcases Nat.lt_or_ge (fstS ix es key hs) ix.length with h7 | h7
  · exact h7
  · rw [List.getElem?_eq_none h7] at h4; cases h4
/-- A whole entry is stored. -/
theorem OwE.set4 {w : World} {b g n cap k : Nat} {es : List Ent} {e : Ent} (h : OwE w b (.slice (some ⟨g, 0, none⟩) n cap) es) (he : es[k]? = some e) (e' : Ent) : OwE ((((w.setCell ⟨g, k * 4, none⟩ (.string e'.key)).setCell ⟨g, k * 4 + 1, none⟩ (.int .i64 e'.hash)).setCell ⟨g, k * 4 + 2, none⟩ (.int .i64 e'.val)).setCell ⟨g, k * 4 + 3, none⟩ (.bool e'.live)) b (.slice (some ⟨g, 0, none⟩) n cap) (es.set k e') := by
  have hk := lt_of_ent he
  have g1 : ∀ f : Ent, (es.set k f)[k]? = some f := fun f => by rw [List.getElem?_set_self hk]
  have h1 := h.stored (r := 0) (u := .string e'.key) (e' := ⟨e'.key, e.hash, e.val, e.live⟩) he (by omega) rfl
  have h2 := h1.stored (r := 1) (u := .int .i64 e'.hash) (e' := ⟨e'.key, e'.hash, e.val, e.live⟩) (g1 _) (by omega) rfl
  rw [List.set_set] at h2
  have h3 := h2.stored (r := 2) (u := .int .i64 e'.val) (e' := ⟨e'.key, e'.hash, e'.val, e.live⟩) (g1 _) (by omega) rfl
  rw [List.set_set] at h3
  have h4 := h3.stored (r := 3) (u := .bool e'.live) (e' := e') (g1 _) (by omega) rfl
  rw [List.set_set] at h4
  exact h4
/-- A slot is written. -/
theorem OwD.slot {w : World} {b g1 c1 c2 : Nat} {ix : List Int} {es : List Ent} {a2 : Option Addr} (h : OwD w b ix es g1 c1 a2 c2) (s : Nat) (i : Int) : OwD (w.setCell ⟨g1, s, none⟩ (.int .i64 i)) b (ix.set s i) es g1 c1 a2 c2 := by
  refine ⟨by rw [List.length_set]; exact h.1.stored s i, ?_, h.2.2⟩
  rcases h.2.1.form with ⟨e, _⟩ | ⟨g, c, e, _⟩
  · injection e with e _ _
    subst e
    exact h.2.1.setOff (by simp [Value.ownBlock])
  · injection e with e _ _
    subst e
    exact h.2.1.setOff (fun e => h.2.2 g rfl (by simpa [Value.ownBlock] using e))
/-- An entry is written. -/
theorem OwD.ent {w : World} {b g1 c1 c2 g2 k : Nat} {ix : List Int} {es : List Ent} {e : Ent} (h : OwD w b ix es g1 c1 (some ⟨g2, 0, none⟩) c2) (he : es[k]? = some e) (e' : Ent) : OwD ((((w.setCell ⟨g2, k * 4, none⟩ (.string e'.key)).setCell ⟨g2, k * 4 + 1, none⟩ (.int .i64 e'.hash)).setCell ⟨g2, k * 4 + 2, none⟩ (.int .i64 e'.val)).setCell ⟨g2, k * 4 + 3, none⟩ (.bool e'.live)) b ix (es.set k e') g1 c1 (some ⟨g2, 0, none⟩) c2 :=
  have hn := Ne.symm (h.2.2 g2 rfl)
  ⟨(((h.1.setOff hn).setOff hn).setOff hn).setOff hn, by rw [List.length_set]; exact h.2.1.set4 he e', h.2.2⟩
theorem OwD.fact {w : World} {b g1 c1 c2 s : Nat} {ix : List Int} {es : List Ent} {a2 : Option Addr} {n : Int} (h : OwD w b ix es g1 c1 a2 c2) (hs : ix[s]? = some n) : w.cell? ⟨g1, s, none⟩ = some (.int .i64 n) ∧ w.frozen? ⟨g1, s, none⟩ = false := h.1.cellAt hs
set_option maxRecDepth 20000 in
set_option maxHeartbeats 4000000 in
theorem specDrop_any (ix : List Int) (es : List Ent) (key : ByteArray) (g c1 c2 : Nat) (a : Option Addr) (w : World) (h : Tb w g ix a es) (hl : es.length ≤ 1048576) (hm : ix.length ≤ 1048576) (hks : KeysS es) (hky : key.size ≤ 1048576) (hcap : a = none → c2 = 0) :
    Calls Try.prog 37 #[.agg #[.slice (some ⟨g, 0, none⟩) ix.length c1, .slice a es.length c2], .string key] w (OdP (drV ix es key) w) := by
  obtain ⟨w1, hw1⟩ : ∃ w1, w1 = (w.alloc (Obj.cells #[.slice (some ⟨g, 0, none⟩) ix.length c1, .slice a es.length c2] 27)).alloc (Obj.cells #[.slice none 0 0, .slice none 0 0] 27) := ⟨_, rfl⟩
  have HB1 := Lib.hid (show Below w.heap.size w w1 from by rw [hw1]; exact ((Below.refl _ _).alloc (Nat.le_refl _) _).alloc (by simp) _)
  have HX1 := Lib.hid (show Blk w1 w.heap.size _ #[.slice (some ⟨g, 0, none⟩) ix.length c1, .slice a es.length c2] from by rw [hw1]; exact (Blk.newest w _ _).alloc _)
  have HY1 := Lib.hid (show Blk w1 (w.heap.size + 1) 27 #[.slice none 0 0, .slice none 0 0] from by rw [hw1]; exact Blk.new _ _ _ (by simp))
  have HT1 := Lib.hid (h.below HB1.out)
  have HK := Lib.hid (fun w => validKey_any key w (by omega))
  have HD := Lib.hid (validDict_any ix es g c1 c2 a w1 HT1.out hl hm hks)
  have HW1 := Lib.hid hw1
  have HSZ := Lib.hid (show w1.heap.size = w.heap.size + 2 by rw [hw1]; simp)
  by_cases hno : (keyB key && dokB ix es) = false
  · rw [drV_no hno]
    generalize hmm : ix.length = m at *
    generalize hne : es.length = ne at *
    cases hdo : dokB ix es with
    | false =>
      rw [hdo] at HD
      clear hdo h hw1 hno hmm hne hcap
      go_enter Try.func37, Try.ntmps37
      go_wp2_with fail
      rw [← HW1.out]
      refine HD.out.mono ?_
      rintro e w2 ⟨rfl, hb2⟩
      have HB2 := Lib.hid (HB1.out.trans (hb2.mono HB1.out.size))
      have HR := Lib.hid (HY1.out.below hb2 HY1.out.lt)
      have z0 := HR.out.cell 0
      have z1 := HR.out.cell 1
      have z2 := HR.out.free 0
      have z3 := HR.out.free 1
      clear hb2
      go_wp2_with fail
      exact bodyPost_ret (v := .tuple #[.agg #[.slice none 0 0, .slice none 0 0], .bool false]) (by exact res_ct (p := 4) (u := 5) (ty := 27) rfl _ _ (w.heap.size + 1) #[.slice none 0 0, .slice none 0 0] rfl (ld_dict (two_set HR.out (.slice none 0 0) (.slice none 0 0)))) rfl
        ⟨none, 0, none, 0, rfl, OdD.none _ _, (HB2.out.setCell (by show w.heap.size ≤ w.heap.size + 1; omega) _).setCell (by show w.heap.size ≤ w.heap.size + 1; omega) _⟩
    | true =>
      have hkb : keyB key = false := by rw [hdo, Bool.and_true] at hno; exact hno
      rw [hdo] at HD
      rw [hkb] at HK
      clear hdo h hw1 hno hkb hmm hne hcap
      go_enter Try.func37, Try.ntmps37
      go_wp2_with fail
      rw [← HW1.out]
      refine HD.out.mono ?_
      rintro e w2 ⟨rfl, hb2⟩
      have HB2 := Lib.hid (HB1.out.trans (hb2.mono HB1.out.size))
      have HR := Lib.hid (HY1.out.below hb2 HY1.out.lt)
      have z0 := HR.out.cell 0
      have z1 := HR.out.cell 1
      have z2 := HR.out.free 0
      have z3 := HR.out.free 1
      clear hb2
      go_wp2_with fail
      refine (HK.out _).mono ?_
      rintro e w3 ⟨rfl, rfl⟩
      go_wp2_with fail
      exact bodyPost_ret (v := .tuple #[.agg #[.slice none 0 0, .slice none 0 0], .bool false]) (by exact res_ct (p := 4) (u := 5) (ty := 27) rfl _ _ (w.heap.size + 1) #[.slice none 0 0, .slice none 0 0] rfl (ld_dict (two_set HR.out (.slice none 0 0) (.slice none 0 0)))) rfl
        ⟨none, 0, none, 0, rfl, OdD.none _ _, (HB2.out.setCell (by show w.heap.size ≤ w.heap.size + 1; omega) _).setCell (by show w.heap.size ≤ w.heap.size + 1; omega) _⟩
  · have hyes : keyB key = true ∧ dokB ix es = true := by simpa using hno
    obtain ⟨hkb, hdo⟩ := hyes
    rw [hkb] at HK
    rw [hdo] at HD
    rw [drV_yes hkb hdo]
    have hd := dok_of hdo
    have hpl := plc_in2 (key := key) hd.1 (hsh_lt key.data.toList)
    have h4 := (fst_ok (key := key) hd.1 (hsh_lt key.data.toList)).2.2.2
    have hsl := fstS_lt (key := key) hd.1 (hsh_lt key.data.toList)
    have h8 : 1 ≤ ix.length := by omega
    have HSl := Lib.hid (fun g c1 c2 a w h => slotOf_ok ix es key g c1 c2 a w h hd.1 hky)
    have HCp := Lib.hid (fun w h => copyDict_any ix es g c1 c2 a w h hl hm hcap h8)
    clear hkb hdo h hw1 hd hno hcap
    generalize fstS ix es key (hsh key.data.toList) = s at *
    generalize plc ix es key (hsh key.data.toList) = n at *
    have HP4 := Lib.hid h4
    have s1 : (s : Int) < (ix.length : Int) := by omega
    have s0 : 0 ≤ (s : Int) := by omega
    unfold OtP at HCp
    clear h4 hsl h8
    generalize hmm : ix.length = m at *
    generalize hne : es.length = ne at *
    have HNE := Lib.hid hne
    have HMM := Lib.hid hmm
    clear hmm hne
    rcases hpl with rfl | ⟨k, rfl, hk⟩
    · rw [if_pos (by decide)]
      go_enter Try.func37, Try.ntmps37
      go_wp2_with fail
      rw [← HW1.out]
      refine HD.out.mono ?_
      rintro e w2 ⟨rfl, hb2⟩
      have HB2 := Lib.hid (HB1.out.trans (hb2.mono HB1.out.size))
      have HR2 := Lib.hid (HY1.out.below hb2 HY1.out.lt)
      have HX2 := Lib.hid (HX1.out.below hb2 HX1.out.lt)
      have HT2 := Lib.hid (HT1.out.below hb2)
      have HW2 := Lib.hid (show w.heap.size + 2 ≤ w2.heap.size by have := hb2.size; have := HSZ.out; omega)
      clear hb2
      go_wp2_with fail
      refine (HK.out _).mono ?_
      rintro e w3 ⟨rfl, rfl⟩
      have b0 := HX2.out.cell 0
      have b1 := HX2.out.cell 1
      go_wp2_with fail
      refine (HCp.out _ HT2.out).mono ?_
      rintro e w3 ⟨g1, d1, a2, d2, rfl, ho3, hb3⟩
      have HO3 := Lib.hid ho3
      have HB3 := Lib.hid (HB2.out.trans (hb3.mono HB2.out.size))
      have HQ3 := Lib.hid hb3.size
      have HR3 := Lib.hid (HR2.out.below hb3 HR2.out.lt)
      clear ho3 hb3 b0 b1
      go_wp2_with fail
      refine (HSl.out g1 d1 d2 a2 _ (HO3.out.below ((Below.refl _ _).alloc (Nat.le_refl _) _)).tb).mono ?_
      rintro e w5 ⟨rfl, hb5⟩
      have HO5 := Lib.hid ((HO3.out.below ((Below.refl _ _).alloc (Nat.le_refl _) _)).below hb5)
      have HC5 := Lib.hid (Blk.below (Blk.newest w3 _ _) hb5 (by simp))
      have hb5' : Below w3.heap.size w3 w5 := ((Below.refl _ w3).alloc (Nat.le_refl _) _).trans (hb5.mono (by simp))
      have HR5 := Lib.hid (HR3.out.below hb5' HR3.out.lt)
      have HB5 := Lib.hid (HB3.out.trans (hb5'.mono HB3.out.size))
      have HS3 := Lib.hid (show w2.heap.size ≤ w3.heap.size ∧ w3.heap.size < w5.heap.size from ⟨HQ3.out, HC5.out.lt⟩)
      clear hb5 hb5'
      have t0 := HC5.out.cell 0
      have t1 := HC5.out.cell 1
      have i0 := (HO5.out.fact HP4.out).1
      have i1 := (HO5.out.fact HP4.out).2
      have z0 := HR5.out.cell 0
      have z1 := HR5.out.cell 1
      have z2 := HR5.out.free 0
      have z3 := HR5.out.free 1
      go_wp2_with fail
      exact bodyPost_ret (v := .tuple #[.agg #[.slice (some ⟨g1, 0, none⟩) m d1, .slice a2 ne d2], .bool false]) (by exact res_ct (p := 4) (u := 5) (ty := 27) rfl _ _ (w.heap.size + 1) #[.slice (some ⟨g1, 0, none⟩) m d1, .slice a2 ne d2] rfl (ld_dict (two_set HR5.out (.slice (some ⟨g1, 0, none⟩) m d1) (.slice a2 ne d2)))) rfl
        ⟨some ⟨g1, 0, none⟩, d1, a2, d2, by rw [HMM.out, HNE.out], (((HO5.out.setOff (by have := HO5.out.lt1; have := HW2.out; omega) (by rintro g rfl; have := HO5.out.lt2; have := HW2.out; omega)).setOff (by have := HO5.out.lt1; have := HW2.out; omega) (by rintro g rfl; have := HO5.out.lt2; have := HW2.out; omega)).wide (by have := HW2.out; omega)).od, (HB5.out.setCell (by show w.heap.size ≤ w.heap.size + 1; omega) _).setCell (by show w.heap.size ≤ w.heap.size + 1; omega) _⟩
    · rw [if_neg (by omega)]
      obtain ⟨e9, he9⟩ : ∃ e, es[k]? = some e := ⟨_, List.getElem?_eq_getElem (by have := HNE.out; omega)⟩
      have HGE := Lib.hid he9
      have k1 : (k : Int) < (ne : Int) := by omega
      have k0 : 0 ≤ (k : Int) := by omega
      have HKN := Lib.hid hk
      rw [Int.toNat_natCast]
      clear he9 hk
      go_enter Try.func37, Try.ntmps37
      go_wp2_with fail
      rw [← HW1.out]
      refine HD.out.mono ?_
      rintro e w2 ⟨rfl, hb2⟩
      have HB2 := Lib.hid (HB1.out.trans (hb2.mono HB1.out.size))
      have HR2 := Lib.hid (HY1.out.below hb2 HY1.out.lt)
      have HX2 := Lib.hid (HX1.out.below hb2 HX1.out.lt)
      have HT2 := Lib.hid (HT1.out.below hb2)
      have HW2 := Lib.hid (show w.heap.size + 2 ≤ w2.heap.size by have := hb2.size; have := HSZ.out; omega)
      clear hb2
      go_wp2_with fail
      refine (HK.out _).mono ?_
      rintro e w3 ⟨rfl, rfl⟩
      have b0 := HX2.out.cell 0
      have b1 := HX2.out.cell 1
      go_wp2_with fail
      refine (HCp.out _ HT2.out).mono ?_
      rintro e w3 ⟨g1, d1, a2, d2, rfl, ho3, hb3⟩
      have HO3 := Lib.hid ho3
      have HB3 := Lib.hid (HB2.out.trans (hb3.mono HB2.out.size))
      have HQ3 := Lib.hid hb3.size
      have HR3 := Lib.hid (HR2.out.below hb3 HR2.out.lt)
      clear ho3 hb3 b0 b1
      go_wp2_with fail
      refine (HSl.out g1 d1 d2 a2 _ (HO3.out.below ((Below.refl _ _).alloc (Nat.le_refl _) _)).tb).mono ?_
      rintro e w5 ⟨rfl, hb5⟩
      have HO5 := Lib.hid ((HO3.out.below ((Below.refl _ _).alloc (Nat.le_refl _) _)).below hb5)
      have HC5 := Lib.hid (Blk.below (Blk.newest w3 _ _) hb5 (by simp))
      have hb5' : Below w3.heap.size w3 w5 := ((Below.refl _ w3).alloc (Nat.le_refl _) _).trans (hb5.mono (by simp))
      have HR5 := Lib.hid (HR3.out.below hb5' HR3.out.lt)
      have HB5 := Lib.hid (HB3.out.trans (hb5'.mono HB3.out.size))
      have HS3 := Lib.hid (show w2.heap.size ≤ w3.heap.size ∧ w3.heap.size < w5.heap.size from ⟨HQ3.out, HC5.out.lt⟩)
      clear hb5 hb5'
      have t0 := HC5.out.cell 0
      have t1 := HC5.out.cell 1
      have i0 := (HO5.out.fact HP4.out).1
      have i1 := (HO5.out.fact HP4.out).2
      have z0 := HR5.out.cell 0
      have z1 := HR5.out.cell 1
      have z2 := HR5.out.free 0
      have z3 := HR5.out.free 1
      obtain ⟨g2, hg2⟩ : ∃ g2, a2 = some ⟨g2, 0, none⟩ := by
        obtain ⟨g2, _, h9, _⟩ := (HO5.out.tb.2.2).at (show k < es.length by have := HNE.out; have := HKN.out; omega)
        exact ⟨g2, h9⟩
      subst hg2
      have l1 := HO5.out.lt1
      have l2 := HO5.out.lt2
      have l3 := HS3.out
      have l4 := HW2.out
      have n12 : g2 ≠ g1 := HO5.out.2.2 g2 rfl
      have n1 : w3.heap.size ≠ g1 := by have := HO3.out.lt1; omega
      have n2 : w3.heap.size ≠ g2 := by have := HO3.out.lt2; omega
      have r1 : w.heap.size + 1 ≠ g1 := by omega
      have r2 : w.heap.size + 1 ≠ g2 := by omega
      have HO6 := Lib.hid (HO5.out.slot s (-2))
      have HC6 := Lib.hid (HC5.out.setOff (g' := g1) (i := s) (v := .int .i64 (-2)) n1)
      have HR6 := Lib.hid (HR5.out.setOff (g' := g1) (i := s) (v := .int .i64 (-2)) r1)
      have HB6 := Lib.hid (HB5.out.setCell (p := ⟨g1, s, none⟩) (show w.heap.size ≤ g1 by omega) (.int .i64 (-2)))
      generalize hw6 : w5.setCell ⟨g1, s, none⟩ (.int .i64 (-2)) = w6 at *
      have HO7 := Lib.hid (HO6.out.ent HGE.out ze)
      have HC7 := Lib.hid ((((HC6.out.setOff (g' := g2) (i := k * 4) (v := .string ⟨#[]⟩) n2).setOff (g' := g2) (i := k * 4 + 1) (v := .int .i64 0) n2).setOff (g' := g2) (i := k * 4 + 2) (v := .int .i64 0) n2).setOff (g' := g2) (i := k * 4 + 3) (v := .bool false) n2)
      have HR7 := Lib.hid ((((HR6.out.setOff (g' := g2) (i := k * 4) (v := .string ⟨#[]⟩) r2).setOff (g' := g2) (i := k * 4 + 1) (v := .int .i64 0) r2).setOff (g' := g2) (i := k * 4 + 2) (v := .int .i64 0) r2).setOff (g' := g2) (i := k * 4 + 3) (v := .bool false) r2)
      have HB7 := Lib.hid ((((HB6.out.setCell (p := ⟨g2, k * 4, none⟩) (show w.heap.size ≤ g2 by omega) (.string ⟨#[]⟩)).setCell (p := ⟨g2, k * 4 + 1, none⟩) (show w.heap.size ≤ g2 by omega) (.int .i64 0)).setCell (p := ⟨g2, k * 4 + 2, none⟩) (show w.heap.size ≤ g2 by omega) (.int .i64 0)).setCell (p := ⟨g2, k * 4 + 3, none⟩) (show w.heap.size ≤ g2 by omega) (.bool false))
      obtain ⟨x0, x1, x2, x3⟩ := HO6.out.2.1.cellsAt HGE.out
      have f0 := HO6.out.2.1.free (k * 4)
      have f1 := HO6.out.2.1.free (k * 4 + 1)
      have f2 := HO6.out.2.1.free (k * 4 + 2)
      have f3 := HO6.out.2.1.free (k * 4 + 3)
      have v1 := HC6.out.cell 1
      have u0 := HC7.out.cell 0
      have u1 := HC7.out.cell 1
      have q0 := HR7.out.cell 0
      have q1 := HR7.out.cell 1
      have q2 := HR7.out.free 0
      have q3 := HR7.out.free 1
      have HLS := Lib.hid (And.intro l1 (And.intro l2 (And.intro l3 l4)))
      clear l1 l2 l3 l4 n12 n1 n2 r1 r2 z0 z1 z2 z3
      go_wp2_with fail
      have hq := HLS.out
      exact bodyPost_ret (v := .tuple #[.agg #[.slice (some ⟨g1, 0, none⟩) m d1, .slice (some ⟨g2, 0, none⟩) ne d2], .bool true]) (by exact res_ct (p := 4) (u := 5) (ty := 27) rfl _ _ (w.heap.size + 1) #[.slice (some ⟨g1, 0, none⟩) m d1, .slice (some ⟨g2, 0, none⟩) ne d2] rfl (ld_dict (two_set HR7.out (.slice (some ⟨g1, 0, none⟩) m d1) (.slice (some ⟨g2, 0, none⟩) ne d2)))) rfl
        ⟨some ⟨g1, 0, none⟩, d1, some ⟨g2, 0, none⟩, d2, by rw [List.length_set, List.length_set, HMM.out, HNE.out], (((HO7.out.setOff (by omega) (by intro g9 h9; injection h9 with h9; injection h9 with h9; omega)).setOff (by omega) (by intro g9 h9; injection h9 with h9; injection h9 with h9; omega)).wide (by omega)).od, (HB7.out.setCell (by show w.heap.size ≤ w.heap.size + 1; omega) _).setCell (by show w.heap.size ≤ w.heap.size + 1; omega) _⟩
theorem lastProbe_ok (ix : List Int) (es : List Ent) (key : ByteArray) (g c1 c2 hs : Nat) (a : Option Addr) (w : World) (h : Tb w g ix a es) (hf : Fit ix es) (hh : hs < 65536) :
    Calls Try.prog 94 #[.agg #[.slice (some ⟨g, 0, none⟩) ix.length c1, .slice a es.length c2], .string key, .int .i64 (hs : Int)] w fun e w' => e = .returned (.int .i64 (fstS ix es key hs : Int)) ∧ Below w.heap.size w w' := by
  have hm : 8 ≤ ix.length ∧ ix.length ≤ 128 := by have := slotN_mem hf.1; simp at this; omega
  obtain ⟨h1, h2, h3, _⟩ := fst_ok (key := key) hf hh
  exact lastProbe_any ix es key g c1 c2 hs (fstT ix es key hs) a w h hf.2.2.1 hf.1 (by have := hf.2.1; omega) hh h1 h2 h3
/-- A table lies in a block of its own, with slices of the call's own. -/
def TbO (w : World) (b : Nat) (ix : List Int) (es : List Ent) (bt g1 c1 : Nat) (a2 : Option Addr) (c2 : Nat) : Prop :=
  b ≤ bt ∧ bt ≠ g1 ∧ (∀ g, a2 = some ⟨g, 0, none⟩ → g ≠ bt) ∧ Blk w bt 61 #[.slice (some ⟨g1, 0, none⟩) ix.length c1, .slice a2 es.length c2] ∧ OwD w b ix es g1 c1 a2 c2
theorem TbO.below {w w' : World} {b bt g1 c1 c2 : Nat} {ix : List Int} {es : List Ent} {a2 : Option Addr} (h : TbO w b ix es bt g1 c1 a2 c2) (hb : Below w.heap.size w w') : TbO w' b ix es bt g1 c1 a2 c2 := ⟨h.1, h.2.1, h.2.2.1, h.2.2.2.1.below hb h.2.2.2.1.lt, h.2.2.2.2.below hb⟩
theorem TbO.slot {w : World} {b bt g1 c1 c2 : Nat} {ix : List Int} {es : List Ent} {a2 : Option Addr} (h : TbO w b ix es bt g1 c1 a2 c2) (s : Nat) (i : Int) : TbO (w.setCell ⟨g1, s, none⟩ (.int .i64 i)) b (ix.set s i) es bt g1 c1 a2 c2 := by
  refine ⟨h.1, h.2.1, h.2.2.1, ?_, h.2.2.2.2.slot s i⟩
  rw [List.length_set]
  exact h.2.2.2.1.setOff h.2.1
theorem TbO.ent {w : World} {b bt g1 c1 c2 g2 k : Nat} {ix : List Int} {es : List Ent} {e : Ent} (h : TbO w b ix es bt g1 c1 (some ⟨g2, 0, none⟩) c2) (he : es[k]? = some e) (e' : Ent) : TbO ((((w.setCell ⟨g2, k * 4, none⟩ (.string e'.key)).setCell ⟨g2, k * 4 + 1, none⟩ (.int .i64 e'.hash)).setCell ⟨g2, k * 4 + 2, none⟩ (.int .i64 e'.val)).setCell ⟨g2, k * 4 + 3, none⟩ (.bool e'.live)) b ix (es.set k e') bt g1 c1 (some ⟨g2, 0, none⟩) c2 := by
  have hn := Ne.symm (h.2.2.1 g2 rfl)
  refine ⟨h.1, h.2.1, h.2.2.1, ?_, h.2.2.2.2.ent he e'⟩
  rw [List.length_set]
  exact (((h.2.2.2.1.setOff hn).setOff hn).setOff hn).setOff hn
set_option maxRecDepth 20000 in
set_option maxHeartbeats 4000000 in
theorem drop_no (ix : List Int) (es : List Ent) (key : ByteArray) (hs b bt g1 c1 c2 : Nat) (a2 : Option Addr) (w : World) (h : TbO w b ix es bt g1 c1 a2 c2) (hf : Fit ix es) (hh : hs < 65536) (hp : plc ix es key hs = -1) (_ : b ≤ w.heap.size) :
    Calls Try.prog 81 #[.pointer (some ⟨bt, 0, none⟩), .string key, .int .i64 (hs : Int)] w fun e w' => e = .returned (.bool false) ∧ TbO w' b ix es bt g1 c1 a2 c2 ∧ Below w.heap.size w w' := by
  have HL := Lib.hid (fun w h => lastProbe_ok ix es key g1 c1 c2 hs a2 w h hf hh)
  have h4 := (fst_ok (key := key) hf hh).2.2.2
  have hsl := fstS_lt (key := key) hf hh
  rw [hp] at h4
  have hmx : ix.length ≤ 128 := by have := slotN_mem hf.1; simp at this; omega
  have hex : es.length ≤ 128 := by have := hf.2.1; omega
  have HT := Lib.hid h
  have HP4 := Lib.hid h4
  have HC := Lib.hid h.2.2.2.1
  clear hf hp h4 h
  generalize fstS ix es key hs = s at *
  have s1 : (s : Int) < (ix.length : Int) := by omega
  have s0 : 0 ≤ (s : Int) := by omega
  generalize ix.length = m at *
  generalize es.length = ne at *
  have t0 := HC.out.cell 0
  have t1 := HC.out.cell 1
  go_enter Try.func81, Try.ntmps81
  go_wp2_with fail
  refine (HL.out _ HT.out.2.2.2.2.tb).mono ?_
  rintro e w2 ⟨rfl, hb2⟩
  have HT2 := Lib.hid (HT.out.below hb2)
  have HC2 := Lib.hid (HC.out.below hb2 HC.out.lt)
  have HB2 := Lib.hid hb2
  clear hb2 t0 t1
  have t0 := HC2.out.cell 0
  have t1 := HC2.out.cell 1
  have i0 := (HT2.out.2.2.2.2.fact HP4.out).1
  go_wp2_with fail
  go_ret
  exact ⟨rfl, HT2.out, HB2.out⟩
set_option maxRecDepth 20000 in
set_option maxHeartbeats 4000000 in
theorem drop_yes (ix : List Int) (es : List Ent) (key : ByteArray) (hs b bt g1 c1 c2 k : Nat) (a2 : Option Addr) (w : World) (h : TbO w b ix es bt g1 c1 a2 c2) (hf : Fit ix es) (hh : hs < 65536) (hp : plc ix es key hs = (k : Int)) (hk : k < es.length) (hbw : b ≤ w.heap.size) :
    Calls Try.prog 81 #[.pointer (some ⟨bt, 0, none⟩), .string key, .int .i64 (hs : Int)] w fun e w' => e = .returned (.bool true) ∧ TbO w' b (ix.set (fstS ix es key hs) (-2)) (es.set k ze) bt g1 c1 a2 c2 ∧ Below b w w' := by
  have HL := Lib.hid (fun w h => lastProbe_ok ix es key g1 c1 c2 hs a2 w h hf hh)
  have h4 := (fst_ok (key := key) hf hh).2.2.2
  have hsl := fstS_lt (key := key) hf hh
  rw [hp] at h4
  obtain ⟨e9, he9⟩ : ∃ e, es[k]? = some e := ⟨_, List.getElem?_eq_getElem hk⟩
  have hmx : ix.length ≤ 128 := by have := slotN_mem hf.1; simp at this; omega
  have hex : es.length ≤ 128 := by have := hf.2.1; omega
  obtain ⟨g2, hg2⟩ : ∃ g2, a2 = some ⟨g2, 0, none⟩ := by
    obtain ⟨g2, _, h9, _⟩ := (h.2.2.2.2.tb.2.2).at hk
    exact ⟨g2, h9⟩
  subst hg2
  have HGE := Lib.hid he9
  have HT := Lib.hid h
  have HP4 := Lib.hid h4
  have HC := Lib.hid h.2.2.2.1
  have HBW := Lib.hid hbw
  clear hf hp h4 h he9 hbw
  generalize fstS ix es key hs = s at *
  have s1 : (s : Int) < (ix.length : Int) := by omega
  have s0 : 0 ≤ (s : Int) := by omega
  have k1 : (k : Int) < (es.length : Int) := by omega
  have k0 : 0 ≤ (k : Int) := by omega
  have k2 : ((k : Int) == -1) = false := beq_eq_false_iff_ne.2 (by omega)
  generalize hmm : ix.length = m at *
  generalize hne : es.length = ne at *
  have HMM := Lib.hid hmm
  have HNE := Lib.hid hne
  clear hmm hne
  have t0 := HC.out.cell 0
  have t1 := HC.out.cell 1
  go_enter Try.func81, Try.ntmps81
  go_wp2_with fail
  refine (HL.out _ HT.out.2.2.2.2.tb).mono ?_
  rintro e w2 ⟨rfl, hb2⟩
  have HT2 := Lib.hid (HT.out.below hb2)
  have HC2 := Lib.hid (HC.out.below hb2 HC.out.lt)
  have HB2 := Lib.hid hb2
  clear hb2 t0 t1
  have t0 := HC2.out.cell 0
  have t1 := HC2.out.cell 1
  have i0 := (HT2.out.2.2.2.2.fact HP4.out).1
  have i1 := (HT2.out.2.2.2.2.fact HP4.out).2
  have hbt : bt < w2.heap.size := HC2.out.lt
  have hg1 : g1 < w2.heap.size := HT2.out.2.2.2.2.lt1.2
  have hg2 : g2 < w2.heap.size := HT2.out.2.2.2.2.lt2.2
  have hz5 : w2.heap.size = (w2.setCell ⟨g1, s, none⟩ (.int .i64 (-2))).heap.size := by simp
  have HT6 := Lib.hid ((HT2.out.slot s (-2)).below ((Below.refl _ _).alloc (Nat.le_refl _) (Obj.cells #[.string ⟨#[]⟩, .int .i64 0, .int .i64 0, .bool false] 64)))
  have HZ6 := Lib.hid (Blk.new (w2.setCell ⟨g1, s, none⟩ (.int .i64 (-2))) 64 #[.string ⟨#[]⟩, .int .i64 0, .int .i64 0, .bool false] hz5)
  have HB6 := Lib.hid (((HB2.out.mono HBW.out).setCell (p := ⟨g1, s, none⟩) (show b ≤ g1 from HT2.out.2.2.2.2.lt1.1) (.int .i64 (-2))).alloc (by rw [← hz5]; have := HB2.out.size; have := HBW.out; omega) (Obj.cells #[.string ⟨#[]⟩, .int .i64 0, .int .i64 0, .bool false] 64))
  clear hz5
  go_upto_region 7 with fail
  generalize hw6 : (w2.setCell ⟨g1, s, none⟩ (.int .i64 (-2))).alloc (Obj.cells #[.string ⟨#[]⟩, .int .i64 0, .int .i64 0, .bool false] 64) = w6 at *
  have HC6 := Lib.hid HT6.out.2.2.2.1
  have HBt := Lib.hid HT6.out.1
  rw [List.length_set, HMM.out, HNE.out] at HC6
  obtain ⟨x0, x1, x2, x3⟩ := HT6.out.2.2.2.2.2.1.cellsAt HGE.out
  have f0 := HT6.out.2.2.2.2.2.1.free (k * 4)
  have f1 := HT6.out.2.2.2.2.2.1.free (k * 4 + 1)
  have f2 := HT6.out.2.2.2.2.2.1.free (k * 4 + 2)
  have f3 := HT6.out.2.2.2.2.2.1.free (k * 4 + 3)
  have HX7 := Lib.hid (HT6.out.ent HGE.out ze)
  have HB7 := Lib.hid ((((HB6.out.setCell (p := ⟨g2, k * 4, none⟩) (show b ≤ g2 from HT6.out.2.2.2.2.lt2.1) (.string ⟨#[]⟩)).setCell (p := ⟨g2, k * 4 + 1, none⟩) (show b ≤ g2 from HT6.out.2.2.2.2.lt2.1) (.int .i64 0)).setCell (p := ⟨g2, k * 4 + 2, none⟩) (show b ≤ g2 from HT6.out.2.2.2.2.lt2.1) (.int .i64 0)).setCell (p := ⟨g2, k * 4 + 3, none⟩) (show b ≤ g2 from HT6.out.2.2.2.2.lt2.1) (.bool false))
  have t1' := HC6.out.cell 1
  have z0 := HZ6.out.cell 0
  have z1 := HZ6.out.cell 1
  have z2 := HZ6.out.cell 2
  have z3 := HZ6.out.cell 3
  have hq1 := HT6.out.2.2.1 g2 rfl
  have hq2 : g2 ≠ w2.heap.size := by omega
  have HZ7 := Lib.hid ((((HZ6.out.setOff (g' := g2) (i := k * 4) (v := .string ⟨#[]⟩) (Ne.symm hq2)).setOff (g' := g2) (i := k * 4 + 1) (v := .int .i64 0) (Ne.symm hq2)).setOff (g' := g2) (i := k * 4 + 2) (v := .int .i64 0) (Ne.symm hq2)).setOff (g' := g2) (i := k * 4 + 3) (v := .bool false) (Ne.symm hq2))
  have HC7 := Lib.hid HX7.out.2.2.2.1
  rw [List.length_set, List.length_set, HMM.out, HNE.out] at HC7
  clear t0 t1 i0 i1 hg1 hg2 hq1 hq2 hbt
  go_region_held3 (fun w' => w'.cell? ⟨bt, 1, none⟩ = some (.slice (some ⟨g2, 0, none⟩) ne c2) ∧ w'.cell? ⟨w2.heap.size, 0, none⟩ = some (.string ⟨#[]⟩) ∧ w'.cell? ⟨w2.heap.size, 1, none⟩ = some (.int .i64 0) ∧ w'.cell? ⟨w2.heap.size, 2, none⟩ = some (.int .i64 0) ∧ w'.cell? ⟨w2.heap.size, 3, none⟩ = some (.bool false))
    (first | exact ⟨t1', z0, z1, z2, z3⟩ | exact ⟨HC7.out.cell 1, HZ7.out.cell 0, HZ7.out.cell 1, HZ7.out.cell 2, HZ7.out.cell 3⟩)
    (first | fail)
  all_goals
    go_wp2_with fail
    go_ret
    exact ⟨rfl, HX7.out, HB7.out.drew⟩
set_option maxRecDepth 20000 in
set_option maxHeartbeats 4000000 in
theorem implDrop_any (ix : List Int) (es : List Ent) (key : ByteArray) (g c1 c2 : Nat) (a : Option Addr) (w : World) (h : Tb w g ix a es) (hl : es.length ≤ 1048576) (hm : ix.length ≤ 1048576) (hks : KeysS es) (hky : key.size ≤ 1048576) :
    Calls Try.prog 38 #[.agg #[.slice (some ⟨g, 0, none⟩) ix.length c1, .slice a es.length c2], .string key] w (OdP (drV ix es key) w) := by
  obtain ⟨w1, hw1⟩ : ∃ w1, w1 = (w.alloc (Obj.cells #[.slice (some ⟨g, 0, none⟩) ix.length c1, .slice a es.length c2] 27)).alloc (Obj.cells #[.slice none 0 0, .slice none 0 0] 27) := ⟨_, rfl⟩
  have HB1 := Lib.hid (show Below w.heap.size w w1 from by rw [hw1]; exact ((Below.refl _ _).alloc (Nat.le_refl _) _).alloc (by simp) _)
  have HX1 := Lib.hid (show Blk w1 w.heap.size _ #[.slice (some ⟨g, 0, none⟩) ix.length c1, .slice a es.length c2] from by rw [hw1]; exact (Blk.newest w _ _).alloc _)
  have HY1 := Lib.hid (show Blk w1 (w.heap.size + 1) 27 #[.slice none 0 0, .slice none 0 0] from by rw [hw1]; exact Blk.new _ _ _ (by simp))
  have HT1 := Lib.hid (h.below HB1.out)
  have HK := Lib.hid (fun w => isKey_any key w (by omega))
  have HD := Lib.hid (dictOk_any ix es g c1 c2 a w1 HT1.out hl hm hks)
  have HW1 := Lib.hid hw1
  have HSZ := Lib.hid (show w1.heap.size = w.heap.size + 2 by rw [hw1]; simp)
  by_cases hno : (keyB key && dokB ix es) = false
  · rw [drV_no hno]
    generalize hmm : ix.length = m at *
    generalize hne : es.length = ne at *
    cases hkb : keyB key with
    | false =>
      rw [hkb] at HK
      have HB2 := Lib.hid HB1.out
      have HR := Lib.hid HY1.out
      have z0 := HR.out.cell 0
      have z1 := HR.out.cell 1
      have z2 := HR.out.free 0
      have z3 := HR.out.free 1
      clear hkb h hw1 hno hmm hne HD
      go_enter Try.func38, Try.ntmps38
      go_wp2_with fail
      rw [← HW1.out]
      refine (HK.out _).mono ?_
      rintro e w2 ⟨rfl, rfl⟩
      go_wp2_with fail
      exact bodyPost_ret (v := .tuple #[.agg #[.slice none 0 0, .slice none 0 0], .bool false]) (by exact res_ct (p := 4) (u := 5) (ty := 27) rfl _ _ (w.heap.size + 1) #[.slice none 0 0, .slice none 0 0] rfl (ld_dict (two_set HR.out (.slice none 0 0) (.slice none 0 0)))) rfl
        ⟨none, 0, none, 0, rfl, OdD.none _ _, (HB2.out.setCell (by show w.heap.size ≤ w.heap.size + 1; omega) _).setCell (by show w.heap.size ≤ w.heap.size + 1; omega) _⟩
    | true =>
      have hdo : dokB ix es = false := by rw [hkb, Bool.true_and] at hno; exact hno
      rw [hkb] at HK
      rw [hdo] at HD
      have b0 := HX1.out.cell 0
      have b1 := HX1.out.cell 1
      clear hdo h hw1 hno hkb hmm hne
      go_enter Try.func38, Try.ntmps38
      go_wp2_with fail
      rw [← HW1.out]
      refine (HK.out _).mono ?_
      rintro e w2 ⟨rfl, rfl⟩
      go_wp2_with fail
      refine HD.out.mono ?_
      rintro e w2 ⟨rfl, hb2⟩
      have HB2 := Lib.hid (HB1.out.trans (hb2.mono HB1.out.size))
      have HR := Lib.hid (HY1.out.below hb2 HY1.out.lt)
      have z0 := HR.out.cell 0
      have z1 := HR.out.cell 1
      have z2 := HR.out.free 0
      have z3 := HR.out.free 1
      clear hb2
      go_wp2_with fail
      exact bodyPost_ret (v := .tuple #[.agg #[.slice none 0 0, .slice none 0 0], .bool false]) (by exact res_ct (p := 4) (u := 5) (ty := 27) rfl _ _ (w.heap.size + 1) #[.slice none 0 0, .slice none 0 0] rfl (ld_dict (two_set HR.out (.slice none 0 0) (.slice none 0 0)))) rfl
        ⟨none, 0, none, 0, rfl, OdD.none _ _, (HB2.out.setCell (by show w.heap.size ≤ w.heap.size + 1; omega) _).setCell (by show w.heap.size ≤ w.heap.size + 1; omega) _⟩
  · have hyes : keyB key = true ∧ dokB ix es = true := by simpa using hno
    obtain ⟨hkb, hdo⟩ := hyes
    rw [hkb] at HK
    rw [hdo] at HD
    rw [drV_yes hkb hdo]
    have hd := dok_of hdo
    have hpl := plc_in2 (key := key) hd.1 (hsh_lt key.data.toList)
    have hv2 : hashV key = (hsh key.data.toList : Int) := by unfold hashV; rw [if_pos (by unfold keyB at hkb; simpa using hkb)]
    have HH := Lib.hid (fun w => implHash_any key w (by omega))
    rw [hv2] at HH
    have HOw := Lib.hid (fun w h => ownTable_any ix es g c1 c2 a w h hl hm hks)
    have hh := hsh_lt key.data.toList
    have HNo := Lib.hid (fun hp bt g1 c1 a2 c2 (b : Nat) w h hb => drop_no ix es key (hsh key.data.toList) b bt g1 c1 c2 a2 w h hd.1 hh hp hb)
    have HYe := Lib.hid (fun k hp hk bt g1 c1 a2 c2 (b : Nat) w h hb => drop_yes ix es key (hsh key.data.toList) b bt g1 c1 c2 k a2 w h hd.1 hh hp hk hb)
    have b0 := HX1.out.cell 0
    have b1 := HX1.out.cell 1
    clear hkb hdo h hw1 hd hno hv2 hh
    generalize fstS ix es key (hsh key.data.toList) = s at *
    generalize plc ix es key (hsh key.data.toList) = n at *
    generalize hsh key.data.toList = hh at *
    unfold OtP at HOw
    generalize hmm : ix.length = m at *
    generalize hne : es.length = ne at *
    have HNE := Lib.hid hne
    have HMM := Lib.hid hmm
    clear hmm hne
    rcases hpl with rfl | ⟨k, rfl, hk⟩
    · rw [if_pos (by decide)]
      go_enter Try.func38, Try.ntmps38
      go_wp2_with fail
      rw [← HW1.out]
      refine (HK.out _).mono ?_
      rintro e w2 ⟨rfl, rfl⟩
      go_wp2_with fail
      refine HD.out.mono ?_
      rintro e w2 ⟨rfl, hb2⟩
      have HB2 := Lib.hid (HB1.out.trans (hb2.mono HB1.out.size))
      have HR2 := Lib.hid (HY1.out.below hb2 HY1.out.lt)
      have HX2 := Lib.hid (HX1.out.below hb2 HX1.out.lt)
      have HT2 := Lib.hid (HT1.out.below hb2)
      have HW2 := Lib.hid (show w.heap.size + 2 ≤ w2.heap.size by have := hb2.size; have := HSZ.out; omega)
      clear hb2 b0 b1
      have b0 := HX2.out.cell 0
      have b1 := HX2.out.cell 1
      go_wp2_with fail
      refine (HOw.out _ HT2.out).mono ?_
      rintro e w3 ⟨g1, d1, a2, d2, rfl, ho3, hb3⟩
      have HTb := Lib.hid (show TbO (w3.alloc (Obj.cells #[.slice (some ⟨g1, 0, none⟩) ix.length d1, .slice a2 es.length d2] 61)) w2.heap.size ix es w3.heap.size g1 d1 a2 d2 from ⟨hb3.size, by have := ho3.lt1; omega, by rintro g9 rfl; have := ho3.lt2; omega, Blk.newest _ _ _, ho3.below ((Below.refl _ _).alloc (Nat.le_refl _) _)⟩)
      rw [HMM.out, HNE.out] at HTb
      have hb3' : Below w2.heap.size w2 (w3.alloc (Obj.cells #[.slice (some ⟨g1, 0, none⟩) m d1, .slice a2 ne d2] 61)) := hb3.alloc hb3.size _
      have HB3 := Lib.hid (HB2.out.trans (hb3'.mono HB2.out.size))
      have HR3 := Lib.hid (HR2.out.below hb3' HR2.out.lt)
      have HQ3 := Lib.hid (show w2.heap.size ≤ (w3.alloc (Obj.cells #[.slice (some ⟨g1, 0, none⟩) m d1, .slice a2 ne d2] 61)).heap.size from hb3'.size)
      clear ho3 hb3 hb3' b0 b1
      go_upto_region 4 with fail
      generalize hw4 : w3.alloc (Obj.cells #[.slice (some ⟨g1, 0, none⟩) m d1, .slice a2 ne d2] 61) = w4 at *
      go_wp2_with fail
      refine (HH.out _).mono ?_
      rintro e w9 ⟨rfl, rfl⟩
      go_wp2_with fail
      refine (HNo.out (by first | rfl | trivial) _ _ _ _ _ w2.heap.size _ HTb.out HQ3.out).mono ?_
      rintro e w5 ⟨rfl, ht5, hb5⟩
      have HB5 := Lib.hid (HB3.out.trans ((hb5.mono HQ3.out).mono HB2.out.size))
      have HR5 := Lib.hid (HR3.out.below (hb5.mono HQ3.out) HR2.out.lt)
      have HT5 := Lib.hid ht5
      have HC5 := Lib.hid ht5.2.2.2.1
      rw [HMM.out, HNE.out] at HC5
      clear ht5 hb5
      have t0 := HC5.out.cell 0
      have t1 := HC5.out.cell 1
      have z0 := HR5.out.cell 0
      have z1 := HR5.out.cell 1
      have z2 := HR5.out.free 0
      have z3 := HR5.out.free 1
      go_wp2_with fail
      have hq1 := HT5.out.2.2.2.2.lt1.1
      have hq2 : ∀ g9, a2 = some ⟨g9, 0, none⟩ → w2.heap.size ≤ g9 := by rintro g9 rfl; exact HT5.out.2.2.2.2.lt2.1
      have hw := HW2.out
      exact bodyPost_ret (v := .tuple #[.agg #[.slice (some ⟨g1, 0, none⟩) m d1, .slice a2 ne d2], .bool false]) (by exact res_ct (p := 4) (u := 5) (ty := 27) rfl _ _ (w.heap.size + 1) #[.slice (some ⟨g1, 0, none⟩) m d1, .slice a2 ne d2] rfl (ld_dict (two_set HR5.out (.slice (some ⟨g1, 0, none⟩) m d1) (.slice a2 ne d2)))) rfl
        ⟨some ⟨g1, 0, none⟩, d1, a2, d2, by rw [HMM.out, HNE.out], (((HT5.out.2.2.2.2.setOff (by omega) (by intro g9 h9; have := hq2 g9 h9; omega)).setOff (by omega) (by intro g9 h9; have := hq2 g9 h9; omega)).wide (by omega)).od, (HB5.out.setCell (by show w.heap.size ≤ w.heap.size + 1; omega) _).setCell (by show w.heap.size ≤ w.heap.size + 1; omega) _⟩
    · rw [if_neg (by omega)]
      have HKN := Lib.hid hk
      rw [Int.toNat_natCast]
      clear hk
      go_enter Try.func38, Try.ntmps38
      go_wp2_with fail
      rw [← HW1.out]
      refine (HK.out _).mono ?_
      rintro e w2 ⟨rfl, rfl⟩
      go_wp2_with fail
      refine HD.out.mono ?_
      rintro e w2 ⟨rfl, hb2⟩
      have HB2 := Lib.hid (HB1.out.trans (hb2.mono HB1.out.size))
      have HR2 := Lib.hid (HY1.out.below hb2 HY1.out.lt)
      have HX2 := Lib.hid (HX1.out.below hb2 HX1.out.lt)
      have HT2 := Lib.hid (HT1.out.below hb2)
      have HW2 := Lib.hid (show w.heap.size + 2 ≤ w2.heap.size by have := hb2.size; have := HSZ.out; omega)
      clear hb2 b0 b1
      have b0 := HX2.out.cell 0
      have b1 := HX2.out.cell 1
      go_wp2_with fail
      refine (HOw.out _ HT2.out).mono ?_
      rintro e w3 ⟨g1, d1, a2, d2, rfl, ho3, hb3⟩
      have HTb := Lib.hid (show TbO (w3.alloc (Obj.cells #[.slice (some ⟨g1, 0, none⟩) ix.length d1, .slice a2 es.length d2] 61)) w2.heap.size ix es w3.heap.size g1 d1 a2 d2 from ⟨hb3.size, by have := ho3.lt1; omega, by rintro g9 rfl; have := ho3.lt2; omega, Blk.newest _ _ _, ho3.below ((Below.refl _ _).alloc (Nat.le_refl _) _)⟩)
      rw [HMM.out, HNE.out] at HTb
      have hb3' : Below w2.heap.size w2 (w3.alloc (Obj.cells #[.slice (some ⟨g1, 0, none⟩) m d1, .slice a2 ne d2] 61)) := hb3.alloc hb3.size _
      have HB3 := Lib.hid (HB2.out.trans (hb3'.mono HB2.out.size))
      have HR3 := Lib.hid (HR2.out.below hb3' HR2.out.lt)
      have HQ3 := Lib.hid (show w2.heap.size ≤ (w3.alloc (Obj.cells #[.slice (some ⟨g1, 0, none⟩) m d1, .slice a2 ne d2] 61)).heap.size from hb3'.size)
      clear ho3 hb3 hb3' b0 b1
      go_upto_region 4 with fail
      generalize hw4 : w3.alloc (Obj.cells #[.slice (some ⟨g1, 0, none⟩) m d1, .slice a2 ne d2] 61) = w4 at *
      go_wp2_with fail
      refine (HH.out _).mono ?_
      rintro e w9 ⟨rfl, rfl⟩
      go_wp2_with fail
      refine (HYe.out k (by first | rfl | trivial) (by have := HNE.out; have := HKN.out; omega) _ _ _ _ _ w2.heap.size _ HTb.out HQ3.out).mono ?_
      rintro e w5 ⟨rfl, ht5, hb5⟩
      have HB5 := Lib.hid (HB3.out.trans (hb5.mono HB2.out.size))
      have HR5 := Lib.hid (HR3.out.below hb5 HR2.out.lt)
      have HT5 := Lib.hid ht5
      have HC5 := Lib.hid ht5.2.2.2.1
      rw [List.length_set, List.length_set, HMM.out, HNE.out] at HC5
      clear ht5 hb5
      have t0 := HC5.out.cell 0
      have t1 := HC5.out.cell 1
      have z0 := HR5.out.cell 0
      have z1 := HR5.out.cell 1
      have z2 := HR5.out.free 0
      have z3 := HR5.out.free 1
      go_wp2_with fail
      have hq1 := HT5.out.2.2.2.2.lt1.1
      have hq2 : ∀ g9, a2 = some ⟨g9, 0, none⟩ → w2.heap.size ≤ g9 := by rintro g9 rfl; exact HT5.out.2.2.2.2.lt2.1
      have hw := HW2.out
      exact bodyPost_ret (v := .tuple #[.agg #[.slice (some ⟨g1, 0, none⟩) m d1, .slice a2 ne d2], .bool true]) (by exact res_ct (p := 4) (u := 5) (ty := 27) rfl _ _ (w.heap.size + 1) #[.slice (some ⟨g1, 0, none⟩) m d1, .slice a2 ne d2] rfl (ld_dict (two_set HR5.out (.slice (some ⟨g1, 0, none⟩) m d1) (.slice a2 ne d2)))) rfl
        ⟨some ⟨g1, 0, none⟩, d1, a2, d2, by rw [List.length_set, List.length_set, HMM.out, HNE.out], (((HT5.out.2.2.2.2.setOff (by omega) (by intro g9 h9; have := hq2 g9 h9; omega)).setOff (by omega) (by intro g9 h9; have := hq2 g9 h9; omega)).wide (by omega)).od, (HB5.out.setCell (by show w.heap.size ≤ w.heap.size + 1; omega) _).setCell (by show w.heap.size ≤ w.heap.size + 1; omega) _⟩
/-- An entry that was marked, the first mark being j. -/
def mkEnt (j : Nat) : Ent := ⟨⟨(mkT j).toArray⟩, (j : Int) + 1, (j : Int) + 1 + 1, ((j : Int) + 1 + 1 + 1).tmod 3 == 0⟩
/-- Entries that were marked. -/
def mkEs (m n : Nat) : List Ent := (List.range n).map fun k => mkEnt (m + 4 * k)
theorem mkEs_len (m n : Nat) : (mkEs m n).length = n := by simp [mkEs]
theorem mkEs_at {m n k : Nat} (h : k < n) : (mkEs m n)[k]? = some (mkEnt (m + 4 * k)) := by simp [mkEs, h]
/-- The first k of them are marked. -/
def mkW (es : List Ent) (m k : Nat) : List Ent := mkEs m k ++ es.drop k
theorem mkW_len {es : List Ent} {m k : Nat} (h : k ≤ es.length) : (mkW es m k).length = es.length := by unfold mkW; rw [List.length_append, mkEs_len, List.length_drop]; omega
theorem mkW_zero (es : List Ent) (m : Nat) : mkW es m 0 = es := by simp [mkW, mkEs]
theorem mkW_all (es : List Ent) (m : Nat) : mkW es m es.length = mkEs m es.length := by simp [mkW]
theorem mkW_get {es : List Ent} {m k : Nat} (h : k < es.length) : (mkW es m k)[k]? = some es[k] := by
  unfold mkW
  rw [List.getElem?_append_right (by rw [mkEs_len]; exact Nat.le_refl _), mkEs_len, Nat.sub_self, List.getElem?_drop, Nat.add_zero, List.getElem?_eq_getElem h]
theorem mkW_next {es : List Ent} {m k : Nat} (h : k < es.length) : (mkW es m k).set k (mkEnt (m + 4 * k)) = mkW es m (k + 1) := by
  unfold mkW
  rw [List.set_append_right _ _ (by rw [mkEs_len]; exact Nat.le_refl _), mkEs_len, Nat.sub_self, List.drop_eq_getElem_cons h, List.set_cons_zero]
  unfold mkEs
  rw [List.range_succ, List.map_append, List.append_assoc]
  rfl
/-- While entries are marked. -/
def MwI (w wr : World) (b : Nat) (v : Value) (es : List Ent) (m k : Nat) : Prop := w.grownBy wr v.ownBlock ∧ OwE wr b v (mkW es m k)
theorem MwI.more {w wr w2 : World} {b : Nat} {v : Value} {es : List Ent} {m k : Nat} (h : MwI w wr b v es m k) (hb : Below wr.heap.size wr w2) : MwI w w2 b v es m k := ⟨grown_trans h.1 (below_grown hb), h.2.below hb⟩
theorem MwI.next {w wr : World} {b g n c : Nat} {es : List Ent} {m k : Nat} (h : MwI w wr b (.slice (some ⟨g, 0, none⟩) n c) es m k) (hk : k < es.length) (e : Ent) (he : e = mkEnt (m + 4 * k)) : MwI w ((((wr.setCell ⟨g, k * 4, none⟩ (.string e.key)).setCell ⟨g, k * 4 + 1, none⟩ (.int .i64 e.hash)).setCell ⟨g, k * 4 + 2, none⟩ (.int .i64 e.val)).setCell ⟨g, k * 4 + 3, none⟩ (.bool e.live)) b (.slice (some ⟨g, 0, none⟩) n c) es m (k + 1) := by
  subst he
  refine ⟨?_, ?_⟩
  · have one : ∀ (w : World) (i : Nat) (u : Value), w.grownBy (w.setCell ⟨g, i, none⟩ u) (some g) := fun w i u => ⟨rfl, rfl, rfl, by simp, fun j _ hj => heap_setCell_other w ⟨g, i, none⟩ j u (fun e => hj (by rw [e]))⟩
    exact grown_trans (grown_trans (grown_trans (grown_trans h.1 (one _ _ _)) (one _ _ _)) (one _ _ _)) (one _ _ _)
  · have h2 := h.2.set4 (mkW_get hk) (mkEnt (m + 4 * k))
    rw [mkW_next hk] at h2
    exact h2
set_option maxRecDepth 20000 in
set_option maxHeartbeats 8000000 in
theorem markE_own (es : List Ent) (b m : Nat) (v : Value) (w : World) (h : OwE w b v es) (hm0 : 0 < m) (hm : m ≤ 2000000) (hl : es.length ≤ 1048576) :
    Calls Try.prog 55 #[v, .int .i64 (m : Int)] w fun e w' => e = .returned (.int .i64 ((m : Int) + 4 * (es.length : Int))) ∧ OwE w' b v (mkEs m es.length) ∧ w.grownBy w' v.ownBlock := by
  rcases h.form with ⟨rfl, rfl⟩ | ⟨g, c, rfl, _⟩
  · refine (markEntryS_nil (m : Int) w).mono ?_
    rintro e w' ⟨rfl, rfl⟩
    exact ⟨by simp, OwE.nil _ _, World.grownBy.refl _ _⟩
  · have H0 := Lib.hid (show MwI w w b (.slice (some ⟨g, 0, none⟩) es.length c) es m 0 from ⟨World.grownBy.refl _ _, by rw [mkW_zero]; exact h⟩)
    clear h
    obtain ⟨n, hn⟩ : ∃ n, n = es.length := ⟨_, rfl⟩
    have HN := Lib.hid hn
    rw [← hn] at hl H0 ⊢
    clear hn
    go_enter Try.func55, Try.ntmps55
    go_wp2_with fail
    go_loopw [1, 5] (fun v i wr => ∃ k : Nat, k ≤ n ∧ i = .int .i64 k ∧ v = .int .i64 ((m : Int) + 4 * (k : Int)) ∧ Hid (MwI w wr b (.slice (some ⟨g, 0, none⟩) n c) es m k)) (fun _ i _ => n - (intOf i).toNat)
    case atStart => exact ⟨0, by omega, rfl, by simp, H0⟩
    case round =>
      obtain ⟨k, hk, rfl, rfl, HI⟩ := hrel
      by_cases hlt : k < n
      · have q1 : (k : Int) < (n : Int) := by omega
        have q0 : 0 ≤ (k : Int) := by omega
        obtain ⟨j, hj⟩ : ∃ j : Nat, j = m + 4 * k := ⟨_, rfl⟩
        have hj1 : 0 < j := by omega
        have hj2 : j ≤ 1000000000 := by omega
        have hj3 : (m : Int) + 4 * (k : Int) = (j : Int) := by omega
        have HMT := Lib.hid (fun w => markText_any j w hj1 hj2)
        have HJ := Lib.hid hj
        rw [hj3]
        clear hj hj3
        have HKK := Lib.hid (show mkEnt j = ⟨⟨(mkT j).toArray⟩, (j : Int) + 1, (j : Int) + 1 + 1, ((j : Int) + 1 + 1 + 1).tmod 3 == 0⟩ from rfl)
        generalize mkT j = l at *
        go_wp2_with fail
        refine (HMT.out _).mono ?_
        rintro e w2 ⟨rfl, hb2⟩
        have HI2 := Lib.hid (HI.out.more hb2)
        clear hb2
        obtain ⟨x0, x1, x2, x3⟩ := HI2.out.2.cellsAt (mkW_get (es := es) (m := m) (k := k) (by rw [← HN.out]; exact hlt))
        have f0 := HI2.out.2.free (k * 4)
        have f1 := HI2.out.2.free (k * 4 + 1)
        have f2 := HI2.out.2.free (k * 4 + 2)
        have f3 := HI2.out.2.free (k * 4 + 3)
        have HT := Lib.hid (HI2.out.next (by rw [← HN.out]; exact hlt) ⟨⟨l.toArray⟩, (j : Int) + 1, (j : Int) + 1 + 1, ((j : Int) + 1 + 1 + 1).tmod 3 == 0⟩ (by rw [← HJ.out]; exact HKK.out.symm))
        go_wp2_with fail
        go_roundw
        case rel => exact ⟨k + 1, by omega, by go_num, congrArg (Value.int IntKind.i64) (by have := HJ.out; omega), HT⟩
        case measure => simp [intOf]; try omega
      · obtain rfl : k = n := by omega
        clear hlt
        go_wp2_with fail
        go_ret
        refine ⟨rfl, ?_, HI.out.1⟩
        have h3 := HI.out.2
        rw [HN.out, mkW_all, ← HN.out] at h3
        exact h3
set_option maxRecDepth 20000 in
set_option maxHeartbeats 8000000 in
theorem heldE_up (g c m n : Nat) (w : World) (h : En w g (mkEs m n)) (hm0 : 0 < m) (hm : m ≤ 2000000) (hl : n ≤ 1048576) :
    Calls Try.prog 56 #[.slice (some ⟨g, 0, none⟩) n c, .int .i64 (m : Int)] w fun e w' => e = .returned (.int .i64 ((m : Int) + 4 * (n : Int))) ∧ Below w.heap.size w w' := by
  have HE := Lib.hid h
  clear h
  go_enter Try.func56, Try.ntmps56
  go_wp2_with fail
  go_loopw [1, 5] (fun v i wr => ∃ k : Nat, k ≤ n ∧ i = .int .i64 k ∧ v = .int .i64 ((m : Int) + 4 * (k : Int)) ∧ Hid (Below w.heap.size w wr)) (fun _ i _ => n - (intOf i).toNat)
  case atStart => exact ⟨0, by omega, rfl, by simp, Lib.hid (Below.refl _ _)⟩
  case round =>
    obtain ⟨k, hk, rfl, rfl, HI⟩ := hrel
    by_cases hlt : k < n
    · have q1 : (k : Int) < (n : Int) := by omega
      have q0 : 0 ≤ (k : Int) := by omega
      obtain ⟨j, hj⟩ : ∃ j : Nat, j = m + 4 * k := ⟨_, rfl⟩
      have hj1 : 0 < j := by omega
      have hj2 : j ≤ 1000000000 := by omega
      have hj3 : (m : Int) + 4 * (k : Int) = (j : Int) := by omega
      have HMT := Lib.hid (fun w => markText_any j w hj1 hj2)
      have HA := Lib.hid (show ∀ w2, Below wr.heap.size wr w2 → w2.cell? ⟨g, k * 4, none⟩ = some (.string ⟨(mkT j).toArray⟩) ∧ w2.cell? ⟨g, k * 4 + 1, none⟩ = some (.int .i64 ((j : Int) + 1)) ∧ w2.cell? ⟨g, k * 4 + 2, none⟩ = some (.int .i64 ((j : Int) + 1 + 1)) ∧ w2.cell? ⟨g, k * 4 + 3, none⟩ = some (.bool (((j : Int) + 1 + 1 + 1).tmod 3 == 0)) from fun w2 hb => by
        have h9 := (HE.out.below (HI.out.trans (hb.mono HI.out.size)) HE.out.1).2 k _ (mkEs_at hlt)
        rw [← hj] at h9
        exact h9)
      have HJ := Lib.hid hj
      rw [hj3]
      clear hj hj3
      generalize mkT j = l at *
      have t1 : (l == l) = true := by simp
      have t2 : (!(l == l)) = false := by simp
      obtain ⟨x0, _, _, _⟩ := HA.out wr (Below.refl _ _)
      go_upto_region 4 with fail
      go_cut [19] (fun s wx => s = .bool false ∧ Hid (Below wr.heap.size wr wx))
      case first =>
        go_region_held3 (fun w' => w'.cell? ⟨g, k * 4, none⟩ = some (.string ⟨l.toArray⟩) ∧ Hid (Below wr.heap.size wr w'))
          (first | exact ⟨x0, Lib.hid (Below.refl _ _).drew⟩ | exact HS2.out)
          (first | (go_at_call 82; refine (HMT.out _).mono ?_; rintro r w2 ⟨rfl, hb2⟩; have HS2 := Lib.hid (show w2.cell? ⟨g, k * 4, none⟩ = some (.string ⟨l.toArray⟩) ∧ Hid (Below wr.heap.size wr w2) from (have hb := (‹_ ∧ Hid (Below _ _ _)›).2.out.trans (hb2.mono (‹_ ∧ Hid (Below _ _ _)›).2.out.size); ⟨(HA.out w2 hb).1, Lib.hid hb⟩)); clear hb2))
        all_goals (try go_wp2)
        all_goals go_meet
        all_goals exact ⟨rfl, HS2.out.2⟩
      obtain ⟨rfl, HBc⟩ := hcut
      obtain ⟨x0, x1, x2, x3⟩ := HA.out _ HBc.out
      go_wp2_with fail
      go_roundw
      case rel => exact ⟨k + 1, by omega, by go_num, congrArg (Value.int IntKind.i64) (by have := HJ.out; omega), Lib.hid (HI.out.trans (HBc.out.mono HI.out.size))⟩
      case measure => simp [intOf]; try omega
    · obtain rfl : k = n := by omega
      clear hlt
      go_wp2_with fail
      go_ret
      exact ⟨rfl, HI.out⟩
theorem eqEntryS_zero (a1 a2 : Option Addr) (c1 c2 : Nat) (w : World) : Calls Try.prog 54 #[.slice a1 0 c1, .slice a2 0 c2] w fun e w' => e = .returned (.bool true) ∧ w = w' := by
  go_enter Try.func54, Try.ntmps54
  go_wp2_with fail
  go_loop [5] (fun i => i = .int .i64 0) (fun i => (intOf i).toNat)
  case atStart => exact rfl
  case round =>
    obtain rfl := hrel
    go_wp2_with fail
    go_ret
    exact ⟨rfl, rfl⟩
theorem eqE_own (es : List Ent) (b1 b2 c1 c2 : Nat) (a1 a2 : Option Addr) (w : World) (h1 : OwE w b1 (.slice a1 es.length c1) es) (h2 : OwE w b2 (.slice a2 es.length c2) es) (hl : es.length ≤ 1048576) :
    Calls Try.prog 54 #[.slice a1 es.length c1, .slice a2 es.length c2] w fun e w' => e = .returned (.bool true) ∧ Below w.heap.size w w' := by
  by_cases hn : es = []
  · subst hn
    refine (eqEntryS_zero a1 a2 c1 c2 w).mono ?_
    rintro e w' ⟨rfl, rfl⟩
    exact ⟨rfl, Below.refl _ _⟩
  · rcases h1.form with ⟨_, h3⟩ | ⟨g1, d1, e1, _, _, _, n1⟩
    · exact absurd h3 hn
    rcases h2.form with ⟨_, h3⟩ | ⟨g2, d2, e2, _, _, _, n2⟩
    · exact absurd h3 hn
    injection e1 with e1 _ _
    injection e2 with e2 _ _
    subst e1 e2
    exact eqEntryS_same es g1 g2 c1 c2 w n1 n2 hl
set_option maxHeartbeats 2000000 in
theorem eqDict_od (R : List Int × List Ent) (b b' c1 c2 d1 d2 : Nat) (a1 a2 p1 p2 : Option Addr) (w : World) (h1 : OdD w b R a1 c1 a2 c2) (h2 : OdD w b' R p1 d1 p2 d2) (hm : R.1.length ≤ 1048576) (hl : R.2.length ≤ 1048576) :
    Calls Try.prog 19 #[.agg #[.slice a1 R.1.length c1, .slice a2 R.2.length c2], .agg #[.slice p1 R.1.length d1, .slice p2 R.2.length d2]] w fun e w' => e = .returned (.bool true) ∧ Below w.heap.size w w' := by
  obtain ⟨w1, hw1⟩ : ∃ w1, w1 = (w.alloc (Obj.cells #[.slice a1 R.1.length c1, .slice a2 R.2.length c2] 27)).alloc (Obj.cells #[.slice p1 R.1.length d1, .slice p2 R.2.length d2] 27) := ⟨_, rfl⟩
  have HB1 := Lib.hid (show Below w.heap.size w w1 from by rw [hw1]; exact ((Below.refl _ _).alloc (Nat.le_refl _) _).alloc (by simp) _)
  have hsz : w1.heap.size = w.heap.size + 2 := by rw [hw1]; simp
  have HX1 := Lib.hid (show Blk w1 w.heap.size 27 #[.slice a1 R.1.length c1, .slice a2 R.2.length c2] from by rw [hw1]; exact (Blk.newest w _ _).alloc _)
  have HX2 := Lib.hid (show Blk w1 (w.heap.size + 1) 27 #[.slice p1 R.1.length d1, .slice p2 R.2.length d2] from by rw [hw1]; exact Blk.new _ _ _ (by simp))
  have HI := Lib.hid (eqIntS_rd R.1 _ _ w1 (h1.below HB1.out).1.rd (h2.below HB1.out).1.rd hm)
  have HE := Lib.hid (fun w' (hb : Below w.heap.size w w') => eqE_own R.2 b b' c2 d2 a2 p2 w' (h1.below hb).2 (h2.below hb).2 hl)
  clear h1 h2
  generalize R.1.length = m at *
  generalize R.2.length = ne at *
  have HW1 := Lib.hid hw1
  clear hw1
  go_enter Try.func19, Try.ntmps19
  go_wp2_with fail
  rw [← HW1.out]
  refine HI.out.mono ?_
  rintro e w2 ⟨rfl, hb2⟩
  have HB2 := Lib.hid (HB1.out.trans (hb2.mono HB1.out.size))
  have HY1 := Lib.hid (HX1.out.below hb2 (by omega))
  have HY2 := Lib.hid (HX2.out.below hb2 (by omega))
  clear hb2
  have b1 := HY1.out.cell 1
  have d1' := HY2.out.cell 1
  go_wp2_with fail
  refine (HE.out _ HB2.out).mono ?_
  rintro e w3 ⟨rfl, hb3⟩
  have HB3 := Lib.hid (HB2.out.trans (hb3.mono HB2.out.size))
  clear hb3
  go_wp2_with fail
  go_ret
  exact ⟨rfl, HB3.out⟩
theorem UpV.grown {w w' : World} {b n : Nat} {v : Value} {m : Int} {row : Option Nat} (h : UpV w b v m n) (hg : w.grownBy w' row) (hne : v.ownBlock = none ∨ v.ownBlock ≠ row) : UpV w' b v m n := by
  rcases h with h | ⟨g, c, rfl, hb, cs, h1, h2⟩
  · exact .inl h
  · refine .inr ⟨g, c, rfl, hb, cs, ?_, h2⟩
    refine (hg.block g h1.lt ?_).trans h1
    rcases hne with h3 | h3
    · cases h3
    · exact h3
/-- What a call wrote: the blocks of two values. -/
def TwoV (w w' : World) (v1 v2 : Value) : Prop := w'.os = w.os ∧ w'.tape = w.tape ∧ w'.output = w.output ∧ w.heap.size ≤ w'.heap.size ∧ ∀ j, j < w.heap.size → v1.ownBlock ≠ some j → v2.ownBlock ≠ some j → w'.heap[j]? = w.heap[j]?
/-- A dictionary that was marked. -/
def UpD (w : World) (b n1 n2 : Nat) (a1 : Option Addr) (c1 : Nat) (a2 : Option Addr) (c2 : Nat) : Prop := UpV w b (.slice a1 n1 c1) 1 n1 ∧ OwE w b (.slice a2 n2 c2) (mkEs (1 + n1) n2)
theorem UpD.below {w w' : World} {b n1 n2 c1 c2 : Nat} {a1 a2 : Option Addr} (h : UpD w b n1 n2 a1 c1 a2 c2) (hb : Below w.heap.size w w') : UpD w' b n1 n2 a1 c1 a2 c2 := ⟨h.1.below hb, h.2.below hb⟩
set_option maxHeartbeats 2000000 in
theorem markDict_od (R : List Int × List Ent) (b c1 c2 : Nat) (a1 a2 : Option Addr) (w : World) (h : OdD w b R a1 c1 a2 c2) (hm : R.1.length ≤ 1000000) (hl : R.2.length ≤ 1048576) (_ : b ≤ w.heap.size) :
    Calls Try.prog 20 #[.agg #[.slice a1 R.1.length c1, .slice a2 R.2.length c2], .int .i64 1] w fun e w' => e = .returned (.int .i64 (1 + (R.1.length : Int) + 4 * (R.2.length : Int))) ∧ UpD w' b R.1.length R.2.length a1 c1 a2 c2 ∧ TwoV w w' (.slice a1 R.1.length c1) (.slice a2 R.2.length c2) := by
  obtain ⟨w1, hw1⟩ : ∃ w1, w1 = w.alloc (Obj.cells #[.slice a1 R.1.length c1, .slice a2 R.2.length c2] 27) := ⟨_, rfl⟩
  have hb1 : Below w.heap.size w w1 := by rw [hw1]; exact (Below.refl _ _).alloc (Nat.le_refl _) _
  have HX1 := Lib.hid (show Blk w1 w.heap.size 27 #[.slice a1 R.1.length c1, .slice a2 R.2.length c2] from by rw [hw1]; exact Blk.newest w _ _)
  have h1 := h.below hb1
  have HM := Lib.hid (mark_own 1 w1 h1.1 (by omega) (by omega) (by omega))
  have hne := own_ne h1.1 h1.2
  have hne' := own_ne' h1.1 h1.2
  have ho1 := fun k hk => h.1.lt k hk
  have ho2 := fun k hk => h.2.lt k hk
  have HNE := Lib.hid (And.intro hne (And.intro hne' (And.intro ho1 ho2)))
  have HH := Lib.hid (show OwI w1 b (.slice a1 R.1.length c1) R.1 ∧ OwE w1 b (.slice a2 R.2.length c2) R.2 from h1)
  have HB1 := Lib.hid hb1
  have HS1 := Lib.hid (show w1.heap.size = w.heap.size + 1 by rw [hw1]; simp)
  have HME := Lib.hid (fun w h => by
    have h9 := markE_own R.2 b (1 + R.1.length) (.slice a2 R.2.length c2) w h (by omega) (by omega) hl
    rw [show ((1 + R.1.length : Nat) : Int) = 1 + (R.1.length : Int) by omega] at h9
    exact h9)
  have HW1 := Lib.hid hw1
  clear h hw1 hb1 h1 hne hne' ho1 ho2
  generalize R.1.length = m at *
  generalize R.2.length = ne at *
  go_enter Try.func20, Try.ntmps20
  go_wp2_with fail
  rw [← HW1.out]
  refine HM.out.mono ?_
  rintro e w2 ⟨rfl, hu2, hg2⟩
  have HX2 := Lib.hid (show Blk w2 w.heap.size 27 #[.slice a1 m c1, .slice a2 ne c2] from (hg2.block _ HX1.out.lt (fun e => by have := (HNE.out.2.2.1 _ e.symm).2; omega)).trans HX1.out)
  have HO2 := Lib.hid (HH.out.2.grown hg2 HNE.out.2.1)
  have HU2 := Lib.hid hu2
  have HG2 := Lib.hid hg2
  clear hu2 hg2
  have b0 := HX2.out.cell 0
  have b1 := HX2.out.cell 1
  go_wp2_with fail
  refine (HME.out _ HO2.out).mono ?_
  rintro e w3 ⟨rfl, ho3, hg3⟩
  have HO3 := Lib.hid ho3
  have HG3 := Lib.hid hg3
  clear ho3 hg3
  go_wp2_with fail
  go_ret
  have g2 := HG2.out
  have g3 := HG3.out
  have gb := HB1.out
  have gs := HS1.out
  refine ⟨rfl, ⟨HU2.out.grown g3 HNE.out.1, HO3.out⟩, g3.os.trans (g2.os.trans gb.os), g3.tape.trans (g2.tape.trans gb.tape), g3.output.trans (g2.output.trans gb.output), Nat.le_trans gb.size (Nat.le_trans g2.size g3.size), fun j hj hj1 hj2 => ?_⟩
  exact (g3.block j (by have := g2.size; omega) (Ne.symm hj2)).trans ((g2.block j (by omega) (Ne.symm hj1)).trans (gb.block j hj))
set_option maxHeartbeats 2000000 in
theorem heldDict_od (n1 n2 b c1 c2 : Nat) (a1 a2 : Option Addr) (w : World) (h : UpD w b n1 n2 a1 c1 a2 c2) (hm : n1 ≤ 1000000) (hl : n2 ≤ 1048576) :
    Calls Try.prog 21 #[.agg #[.slice a1 n1 c1, .slice a2 n2 c2], .int .i64 1] w fun e w' => e = .returned (.int .i64 (1 + (n1 : Int) + 4 * (n2 : Int))) ∧ Below w.heap.size w w' := by
  obtain ⟨w1, hw1⟩ : ∃ w1, w1 = w.alloc (Obj.cells #[.slice a1 n1 c1, .slice a2 n2 c2] 27) := ⟨_, rfl⟩
  have hb1 : Below w.heap.size w w1 := by rw [hw1]; exact (Below.refl _ _).alloc (Nat.le_refl _) _
  have HX1 := Lib.hid (show Blk w1 w.heap.size 27 #[.slice a1 n1 c1, .slice a2 n2 c2] from by rw [hw1]; exact Blk.newest w _ _)
  have h1 := h.below hb1
  have HM := Lib.hid (held_up 1 w1 h1.1 (by omega) (by omega) (by omega))
  have HHE : Hid (Calls Try.prog 56 #[.slice a2 n2 c2, .int .i64 (1 + (n1 : Int))] w1 fun e w' => e = .returned (.int .i64 (1 + (n1 : Int) + 4 * (n2 : Int))) ∧ Below w1.heap.size w1 w') := by
    rcases h1.2.form with ⟨e, h3⟩ | ⟨g, c, e, _, _, _, he⟩
    · injection e with e1 e2 e3
      subst e1 e2 e3
      exact Lib.hid ((heldEntryS_nil _ w1).mono (by rintro e w' ⟨rfl, rfl⟩; exact ⟨by simp, Below.refl _ _⟩))
    · injection e with e1 _ _
      subst e1
      have h9 := heldE_up g c2 (1 + n1) n2 w1 he (by omega) (by omega) hl
      rw [show ((1 + n1 : Nat) : Int) = 1 + (n1 : Int) by omega] at h9
      exact Lib.hid h9
  have HB1 := Lib.hid hb1
  have HW1 := Lib.hid hw1
  clear h hw1 hb1 h1
  go_enter Try.func21, Try.ntmps21
  go_wp2_with fail
  rw [← HW1.out]
  refine HM.out.mono ?_
  rintro e w2 ⟨rfl, rfl⟩
  have b0 := HX1.out.cell 0
  have b1 := HX1.out.cell 1
  have n0 : ¬ (1 : Int) + (n1 : Int) < 0 := by omega
  have n3 : ¬ (1 : Int) + (n1 : Int) + 4 * (n2 : Int) < 0 := by omega
  go_wp2_with fail
  refine HHE.out.mono ?_
  rintro e w3 ⟨rfl, hb3⟩
  have HB3 := Lib.hid (HB1.out.trans (hb3.mono HB1.out.size))
  clear hb3
  go_wp2_with fail
  go_ret
  exact ⟨rfl, HB3.out⟩
theorem OwE.two {w w' : World} {b g1 g2 : Nat} {v : Value} {es : List Ent} (h : OwE w b v es) (hk : TwoG w w' g1 g2) (hne : ∀ g, v.ownBlock = some g → g ≠ g1 ∧ g ≠ g2) : OwE w' b v es := by
  have hlt := World.ownsRow.lt h
  obtain ⟨h1, h2⟩ := h
  refine ⟨h1, ?_⟩
  rcases h2 with h2 | ⟨g, cap, cur, hv, hg, hh, rest⟩
  · exact .inl h2
  · have hb := hne g (by rw [hv]; rfl)
    exact .inr ⟨g, cap, cur, hv, hg, (hk.2.2.2.2 g (hlt g (by rw [hv]; rfl)).2 hb.1 hb.2).trans hh, rest⟩
theorem OwE.twoV {w w' : World} {b : Nat} {v v1 v2 : Value} {es : List Ent} (h : OwE w b v es) (hk : TwoV w w' v1 v2) (hne : ∀ g, v.ownBlock = some g → v1.ownBlock ≠ some g ∧ v2.ownBlock ≠ some g) : OwE w' b v es := by
  have hlt := World.ownsRow.lt h
  obtain ⟨h1, h2⟩ := h
  refine ⟨h1, ?_⟩
  rcases h2 with h2 | ⟨g, cap, cur, hv, hg, hh, rest⟩
  · exact .inl h2
  · have hb := hne g (by rw [hv]; rfl)
    exact .inr ⟨g, cap, cur, hv, hg, (hk.2.2.2.2 g (hlt g (by rw [hv]; rfl)).2 hb.1 hb.2).trans hh, rest⟩
theorem OwI.twoV {w w' : World} {b : Nat} {v v1 v2 : Value} {is : List Int} (h : OwI w b v is) (hk : TwoV w w' v1 v2) (hne : ∀ g, v.ownBlock = some g → v1.ownBlock ≠ some g ∧ v2.ownBlock ≠ some g) : OwI w' b v is := by
  have hlt := World.ownsRow.lt h
  obtain ⟨h1, h2⟩ := h
  refine ⟨h1, ?_⟩
  rcases h2 with h2 | ⟨g, cap, cur, hv, hg, hh, rest⟩
  · exact .inl h2
  · have hb := hne g (by rw [hv]; rfl)
    exact .inr ⟨g, cap, cur, hv, hg, (hk.2.2.2.2 g (hlt g (by rw [hv]; rfl)).2 hb.1 hb.2).trans hh, rest⟩
/-- Where the blocks of a dictionary lie. -/
theorem OdD.lt1 {w : World} {b c1 c2 k : Nat} {R1 : List Int} {R2 : List Ent} {a1 a2 : Option Addr} (h : OdD w b (R1, R2) a1 c1 a2 c2) (hk : (Value.slice a1 R1.length c1).ownBlock = some k) : b ≤ k ∧ k < w.heap.size := h.1.lt k hk
theorem OdD.lt2 {w : World} {b c1 c2 k : Nat} {R1 : List Int} {R2 : List Ent} {a1 a2 : Option Addr} (h : OdD w b (R1, R2) a1 c1 a2 c2) (hk : (Value.slice a2 R2.length c2).ownBlock = some k) : b ≤ k ∧ k < w.heap.size := h.2.lt k hk
theorem OdD.inn {w : World} {b c1 c2 k : Nat} {R1 : List Int} {R2 : List Ent} {a1 a2 : Option Addr} (h : OdD w b (R1, R2) a1 c1 a2 c2) (hk : (Value.slice a1 R1.length c1).ownBlock = some k ∨ (Value.slice a2 R2.length c2).ownBlock = some k) : b ≤ k ∧ k < w.heap.size := by
  rcases hk with hk | hk
  · exact h.lt1 hk
  · exact h.lt2 hk
/-- Two other blocks are written. -/
theorem OdD.two {w w' : World} {b c1 c2 g1 g2 : Nat} {R1 : List Int} {R2 : List Ent} {a1 a2 : Option Addr} (h : OdD w b (R1, R2) a1 c1 a2 c2) (hk : TwoG w w' g1 g2) (hlt : ∀ k, ((Value.slice a1 R1.length c1).ownBlock = some k ∨ (Value.slice a2 R2.length c2).ownBlock = some k) → k ≠ g1 ∧ k ≠ g2) : OdD w' b (R1, R2) a1 c1 a2 c2 :=
  ⟨OwI.two h.1 hk (fun k e => hlt k (.inl e)), OwE.two h.2 hk (fun k e => hlt k (.inr e))⟩
/-- Another dictionary, made later, is marked. -/
theorem OdD.twoV {w w0 w' : World} {b b' c1 c2 d1 d2 n1 n2 : Nat} {R1 S1 : List Int} {R2 S2 : List Ent} {a1 a2 p1 p2 : Option Addr} (h : OdD w b (R1, R2) a1 c1 a2 c2) (hk : TwoV w w' (.slice p1 n1 d1) (.slice p2 n2 d2)) (h0 : OdD w0 b' (S1, S2) p1 d1 p2 d2) (e1 : S1.length = n1) (e2 : S2.length = n2) (hlt : ∀ k, ((Value.slice a1 R1.length c1).ownBlock = some k ∨ (Value.slice a2 R2.length c2).ownBlock = some k) → k < b') : OdD w' b (R1, R2) a1 c1 a2 c2 := by
  subst e1 e2
  have key : ∀ k, ((Value.slice a1 R1.length c1).ownBlock = some k ∨ (Value.slice a2 R2.length c2).ownBlock = some k) → (Value.slice p1 S1.length d1).ownBlock ≠ some k ∧ (Value.slice p2 S2.length d2).ownBlock ≠ some k := fun k hk => by
    have h9 := hlt k hk
    exact ⟨fun e => by have := (h0.lt1 e).1; omega, fun e => by have := (h0.lt2 e).1; omega⟩
  exact ⟨OwI.twoV h.1 hk (fun k e => key k (.inl e)), OwE.twoV h.2 hk (fun k e => key k (.inr e))⟩
theorem TwoV.below {w w0 w' : World} {b' d1 d2 n1 n2 B : Nat} {S1 : List Int} {S2 : List Ent} {p1 p2 : Option Addr} (hk : TwoV w w' (.slice p1 n1 d1) (.slice p2 n2 d2)) (h0 : OdD w0 b' (S1, S2) p1 d1 p2 d2) (e1 : S1.length = n1) (e2 : S2.length = n2) (hB : B ≤ b') (hB2 : B ≤ w.heap.size) : Below B w w' := by
  subst e1 e2
  exact ⟨hk.1, hk.2.1, hk.2.2.1, hk.2.2.2.1, fun j hj => hk.2.2.2.2 j (by omega) (fun e => by have := (h0.lt1 e).1; omega) (fun e => by have := (h0.lt2 e).1; omega)⟩
theorem TwoV.blk {w w0 w' : World} {b' d1 d2 n1 n2 x : Nat} {t : TypeId} {cs : Array Value} {S1 : List Int} {S2 : List Ent} {p1 p2 : Option Addr} (hk : TwoV w w' (.slice p1 n1 d1) (.slice p2 n2 d2)) (h0 : OdD w0 b' (S1, S2) p1 d1 p2 d2) (e1 : S1.length = n1) (e2 : S2.length = n2) (h : Blk w x t cs) (hx : x < b' ∨ w0.heap.size ≤ x) : Blk w' x t cs := by
  subst e1 e2
  exact (hk.2.2.2.2 x h.lt (fun e => by have := h0.lt1 e; omega) (fun e => by have := h0.lt2 e; omega)).trans h
theorem TwoG.blk {w w' : World} {g1 g2 x : Nat} {t : TypeId} {cs : Array Value} (hk : TwoG w w' g1 g2) (h : Blk w x t cs) (h1 : x ≠ g1) (h2 : x ≠ g2) : Blk w' x t cs := (hk.2.2.2.2 x h.lt h1 h2).trans h
theorem drV_len {ix : List Int} {es : List Ent} {key : ByteArray} : (drV ix es key).1.1.length ≤ 128 ∧ (drV ix es key).1.2.length ≤ 128 := by
  unfold drV
  split
  · next h =>
    have hd : dokB ix es = true := by simp at h; exact h.2
    have hf := (dok_of hd).1
    have hm : ix.length ≤ 128 := by have := slotN_mem hf.1; simp at this; omega
    have he : es.length ≤ 128 := by have := hf.2.1; omega
    split
    · exact ⟨hm, he⟩
    · simp only [List.length_set]; exact ⟨hm, he⟩
  · simp
end Go.Proofs.Ytplpgcbdbmfffaa
