/- Lists of numbers, of texts and of entries in memory. -/
import Derived.Test.YtibglmcpbbikdaaLaA
import Derived.Test.YtibglmcpbbikdaaLaB
namespace Go.Proofs.Ytibglmcpbbikdaa
open Go.RowKit
/-- At an address lie these numbers. -/
def AtI (w : World) (x : Addr) (is : List Int) : Prop := ∀ (j : Nat) (i : Int), is[j]? = some i → w.cell? (x.add j) = some (.int .i64 i)
/-- The slice reads as these numbers. -/
def RsI (w : World) (a : Option Addr) (cap : Nat) (is : List Int) : Prop := is.length ≤ cap ∧ (a = none → is = [] ∧ cap = 0) ∧ ∀ x, a = some x → AtI w x is
def RdI (w : World) (v : Value) (is : List Int) : Prop := ∃ a cap, v = .slice a is.length cap ∧ RsI w a cap is
def iv (is : List Int) : List Value := is.map (Value.int .i64)
theorem iv_len (is : List Int) : (iv is).length = is.length := by simp [iv]
theorem iv_get {is : List Int} {j : Nat} {i : Int} (h : is[j]? = some i) : (iv is)[j]? = some (.int .i64 i) := by simp [iv, h]
theorem iv_app (a b : List Int) : iv (a ++ b) = iv a ++ iv b := by simp [iv]
theorem AtI.below {w w' : World} {x : Addr} {is : List Int} (h : AtI w x is) (hb : Below w.heap.size w w') : AtI w' x is := fun j s hj => by
  have hc := h j s hj
  rw [hb.cell (World.block_lt_of_cell? w _ hc)]
  exact hc
theorem RsI.below {w w' : World} {a : Option Addr} {cap : Nat} {is : List Int} (h : RsI w a cap is) (hb : Below w.heap.size w w') : RsI w' a cap is := ⟨h.1, h.2.1, fun x hx => (h.2.2 x hx).below hb⟩
theorem RdI.below {w w' : World} {v : Value} {is : List Int} (h : RdI w v is) (hb : Below w.heap.size w w') : RdI w' v is := by
  obtain ⟨a, cap, h1, h2⟩ := h
  exact ⟨a, cap, h1, h2.below hb⟩
theorem addr_block (x : Addr) (j : Nat) : (x.add j).block = x.block := by unfold Addr.add; split <;> rfl
/-- .. also behind a call that wrote into another block. -/
theorem RdI.grown {w w' : World} {v : Value} {is : List Int} {row : Option Nat} (h : RdI w v is) (hg : w.grownBy w' row) (hne : v.ownBlock = none ∨ v.ownBlock ≠ row) : RdI w' v is := by
  obtain ⟨a, cap, rfl, h1, h2, h3⟩ := h
  refine ⟨a, cap, rfl, h1, h2, fun x hx j i hj => ?_⟩
  subst hx
  refine hg.cell (h3 x rfl j i hj) ?_
  rw [addr_block]
  simpa [Value.ownBlock] using hne
theorem RdI.sub {w : World} {v : Value} {is : List Int} (h : RdI w v is) : ∃ a cap, v = .slice a is.length cap ∧ is.length ≤ cap ∧ (a = none → is = [] ∧ cap = 0) ∧ ∀ (j : Nat) (i : Int), is[j]? = some i → ∃ x, a = some x ∧ w.cell? (x.add j) = some (.int .i64 i) := by
  obtain ⟨a, cap, rfl, h1, h2, h3⟩ := h
  refine ⟨a, cap, rfl, h1, h2, fun j i hj => ?_⟩
  cases a with
  | none => have := (h2 rfl).1; rw [this] at hj; simp at hj
  | some x => exact ⟨x, rfl, h3 x rfl j i hj⟩
/-- A list that a call made. -/
def OwI (w : World) (b : Nat) (v : Value) (is : List Int) : Prop := Own w b 3 v (iv is)
theorem OwI.rd {w : World} {b : Nat} {v : Value} {is : List Int} (h : OwI w b v is) : RdI w v is := by
  rcases Own.form h with ⟨h1, h2⟩ | ⟨g, cap, h1, _, _, h4, h5⟩
  · have h3 : is = [] := by simpa [iv] using h2
    subst h3
    exact ⟨none, 0, h1, by simp, fun _ => ⟨rfl, rfl⟩, fun x hx => by cases hx⟩
  · rw [iv_len] at h1 h4
    refine ⟨some ⟨g, 0, none⟩, cap, h1, h4, fun h => (by cases h), fun x hx j i hj => ?_⟩
    injection hx with hx
    subst hx
    rw [addr_add, Nat.zero_add]
    exact h5 j _ (iv_get hj)
theorem OwI.lt {w : World} {b : Nat} {v : Value} {is : List Int} (h : OwI w b v is) : ∀ k, v.ownBlock = some k → b ≤ k ∧ k < w.heap.size := World.ownsRow.lt h
theorem OwI.below {w w' : World} {b : Nat} {v : Value} {is : List Int} (h : OwI w b v is) (hb : Below w.heap.size w w') : OwI w' b v is := by
  have hg : w.grownBy w' none := ⟨hb.os, hb.tape, hb.output, hb.size, fun k hk _ => hb.block k hk⟩
  exact World.ownsRow.kept h hg (by cases v.ownBlock <;> simp)
theorem OwI.grown {w w' : World} {b : Nat} {v : Value} {is : List Int} {row : Option Nat} (h : OwI w b v is) (hg : w.grownBy w' row) (hne : v.ownBlock = none ∨ v.ownBlock ≠ row) : OwI w' b v is := World.ownsRow.kept h hg hne
theorem OwI.wide {w : World} {b b' : Nat} {v : Value} {is : List Int} (h : OwI w b v is) (hb : b' ≤ b) : OwI w b' v is := by
  obtain ⟨h1, h2⟩ := h
  refine ⟨h1, ?_⟩
  rcases h2 with h2 | ⟨g, cap, cur, hv, hg, rest⟩
  · exact .inl h2
  · exact .inr ⟨g, cap, cur, hv, Nat.le_trans hb hg, rest⟩
theorem below_grown {w w' : World} {row : Option Nat} (hb : Below w.heap.size w w') : w.grownBy w' row := ⟨hb.os, hb.tape, hb.output, hb.size, fun k hk _ => hb.block k hk⟩
def nuI (n : Nat) : List Int := List.replicate n 0
theorem nuI_len (n : Nat) : (nuI n).length = n := by simp [nuI]
/-- 'make([]int, n)'. -/
theorem mkIo {ops : Array Oper} {rest : List Oper} {o : Oper} {a : Act} {w : World} {Q : Exit → Act → World → Prop} (hg : o.guard = none) (l c : Operand) (hop : o.op = Op.makeSlice 23 l c) (n : Nat) (L C : Int) (hl : a.eval l = .int .i64 L) (hc : a.eval c = .int .i64 C) (hL : L = (n : Int)) (hC : C = (n : Int)) (hn : n ≤ 1048576)
    (hK : ∀ w', OwI w' w.heap.size (.slice (some ⟨w.heap.size, 0, none⟩) n n) (nuI n) → Below w.heap.size w w' → wpList Try.prog ops Q rest (a.put o.dst (.slice (some ⟨w.heap.size, 0, none⟩) n n)) w') : wpList Try.prog ops Q (o :: rest) a w := by
  obtain ⟨i, hi1, hi2, hi3, hi4⟩ := info_of (P := Try.prog) (e := 3) (z := .int .i64 0) (s := 1) (b := 8) (by kernel_rfl)
  refine wpList_make_full w hg l c 23 hop w.heap.size 3 i (.int .i64 0) 1 Try.underlying23 hi1 hi2 hi3 .i64 .i64 L C n hl hc hL hC (by rw [hi4]; omega) (by unfold maxLen; omega) (Nat.le_refl _) ?_
  intro w' ho hgr
  refine hK w' ?_ ((Below.refl _ _).grown hgr (Nat.le_refl _) (fun k hk => by cases hk))
  have e : (madeCells (Value.int .i64 0).cells (n * 1)).toList = iv (nuI n) := by
    rw [show (Value.int .i64 0).cells = #[Value.int .i64 0] from rfl, toList_madeCells_one, Nat.mul_one]; simp [iv, nuI]
  rw [e] at ho
  unfold OwI Own
  rw [iv_len, nuI_len]
  exact ho
theorem OwI.row {w : World} {b g n cap : Nat} {is : List Int} (h : OwI w b (.slice (some ⟨g, 0, none⟩) n cap) is) : is.length = n ∧ w.ownsRow b 3 1 (.slice (some ⟨g, 0, none⟩) n cap) n (iv is) := by
  have hn : (iv is).length = n := by
    rcases Own.form h with ⟨h2, _⟩ | ⟨g', cap', h2, _⟩
    · cases h2
    · injection h2 with _ h2 _
      exact h2.symm
  have h1 : w.ownsRow b 3 1 (.slice (some ⟨g, 0, none⟩) n cap) (iv is).length (iv is) := h
  rw [hn] at h1
  rw [iv_len] at hn
  exact ⟨hn, h1⟩
theorem OwI.cellAt {w : World} {b g n cap k : Nat} {is : List Int} {i : Int} (h : OwI w b (.slice (some ⟨g, 0, none⟩) n cap) is) (hi : is[k]? = some i) : w.cell? ⟨g, k, none⟩ = some (.int .i64 i) ∧ w.frozen? ⟨g, k, none⟩ = false := by
  rcases Own.form h with ⟨h2, _⟩ | ⟨g', cap', h2, _, _, _, h5⟩
  · cases h2
  · injection h2 with h2 _ _
    injection h2 with h2
    injection h2 with h2
    subst h2
    exact ⟨h5 k _ (iv_get hi), World.ownsRow.frozenAt h.row.2 k⟩
theorem OwI.stored {w : World} {b g n cap : Nat} {is : List Int} (h : OwI w b (.slice (some ⟨g, 0, none⟩) n cap) is) (k : Nat) (i : Int) : OwI (w.setCell ⟨g, k, none⟩ (.int .i64 i)) b (.slice (some ⟨g, 0, none⟩) n cap) (is.set k i) := by
  have h1 := (World.ownsRow.stored h.row.2 k (.int .i64 i)).1
  have e : (iv is).set k (.int .i64 i) = iv (is.set k i) := by unfold iv; rw [List.map_set]
  rw [e] at h1
  unfold OwI Own
  rw [iv_len, List.length_set, h.row.1]
  exact h1
theorem take_nextI {is : List Int} {k : Nat} {i : Int} {n : Nat} (hi : is[k]? = some i) (hn : is.length = n) : (is.take k ++ nuI (n - k)).set k i = is.take (k + 1) ++ nuI (n - (k + 1)) := by
  have hk : k < is.length := by
    rcases Nat.lt_or_ge k is.length with h2 | h2
    · exact h2
    · rw [List.getElem?_eq_none h2] at hi; cases hi
  rw [List.getElem?_eq_getElem hk] at hi
  injection hi with hi
  have hl : (is.take k).length = k := by rw [List.length_take]; omega
  rw [List.set_append_right _ _ (by omega), hl, Nat.sub_self]
  have e2 : nuI (n - k) = 0 :: nuI (n - (k + 1)) := by
    unfold nuI
    rw [show n - k = n - (k + 1) + 1 by omega, List.replicate_succ]
  rw [e2, List.set_cons_zero, List.take_succ_eq_append_getElem hk, hi, List.append_assoc]; rfl
theorem nu_get {is : List Int} {n k : Nat} (hn : is.length = n) (hk : k < n) : (is.take k ++ nuI (n - k))[k]? = some 0 := by
  have hl : (is.take k).length = k := by rw [List.length_take]; omega
  rw [List.getElem?_append_right (by omega), hl, Nat.sub_self]
  unfold nuI
  rw [List.getElem?_replicate, if_pos (by omega)]
def TiI (w wr : World) (is : List Int) (n k : Nat) : Prop := Below w.heap.size w wr ∧ OwI wr w.heap.size (.slice (some ⟨w.heap.size, 0, none⟩) n n) (is.take k ++ nuI (n - k))
theorem TiI.next {w wr : World} {is : List Int} {n k : Nat} {i : Int} (h : TiI w wr is n k) (hn : is.length = n) (hi : is[k]? = some i) : TiI w (wr.setCell ⟨w.heap.size, k, none⟩ (.int .i64 i)) is n (k + 1) := by
  refine ⟨h.1.setCell (Nat.le_refl _) _, ?_⟩
  have h1 := h.2.stored k i
  rw [take_nextI hi hn] at h1
  exact h1
theorem TiI.all {w wr : World} {is : List Int} {n : Nat} (h : TiI w wr is n n) (hn : is.length = n) : OwI wr w.heap.size (.slice (some ⟨w.heap.size, 0, none⟩) n n) is := by
  have h1 := h.2
  rw [Nat.sub_self, List.take_of_length_le (by omega), show nuI 0 = [] from rfl, List.append_nil] at h1
  exact h1
def TiP (is : List Int) (w : World) (e : Ending) (w' : World) : Prop := e = .returned (.slice (some ⟨w.heap.size, 0, none⟩) is.length is.length) ∧ Below w.heap.size w w' ∧ OwI w' w.heap.size (.slice (some ⟨w.heap.size, 0, none⟩) is.length is.length) is
/-- At an address lie these numbers. -/
def AtT (w : World) (x : Addr) (is : List ByteArray) : Prop := ∀ (j : Nat) (i : ByteArray), is[j]? = some i → w.cell? (x.add j) = some (.string i)
/-- The slice reads as these numbers. -/
def RsT (w : World) (a : Option Addr) (cap : Nat) (is : List ByteArray) : Prop := is.length ≤ cap ∧ (a = none → is = [] ∧ cap = 0) ∧ ∀ x, a = some x → AtT w x is
def RdT (w : World) (v : Value) (is : List ByteArray) : Prop := ∃ a cap, v = .slice a is.length cap ∧ RsT w a cap is
def tv (is : List ByteArray) : List Value := is.map Value.string
theorem tv_len (is : List ByteArray) : (tv is).length = is.length := by simp [tv]
theorem tv_get {is : List ByteArray} {j : Nat} {i : ByteArray} (h : is[j]? = some i) : (tv is)[j]? = some (.string i) := by simp [tv, h]
theorem tv_app (a b : List ByteArray) : tv (a ++ b) = tv a ++ tv b := by simp [tv]
theorem AtT.below {w w' : World} {x : Addr} {is : List ByteArray} (h : AtT w x is) (hb : Below w.heap.size w w') : AtT w' x is := fun j s hj => by
  have hc := h j s hj
  rw [hb.cell (World.block_lt_of_cell? w _ hc)]
  exact hc
theorem RsT.below {w w' : World} {a : Option Addr} {cap : Nat} {is : List ByteArray} (h : RsT w a cap is) (hb : Below w.heap.size w w') : RsT w' a cap is := ⟨h.1, h.2.1, fun x hx => (h.2.2 x hx).below hb⟩
theorem RdT.below {w w' : World} {v : Value} {is : List ByteArray} (h : RdT w v is) (hb : Below w.heap.size w w') : RdT w' v is := by
  obtain ⟨a, cap, h1, h2⟩ := h
  exact ⟨a, cap, h1, h2.below hb⟩
/-- .. also behind a call that wrote into another block. -/
theorem RdT.grown {w w' : World} {v : Value} {is : List ByteArray} {row : Option Nat} (h : RdT w v is) (hg : w.grownBy w' row) (hne : v.ownBlock = none ∨ v.ownBlock ≠ row) : RdT w' v is := by
  obtain ⟨a, cap, rfl, h1, h2, h3⟩ := h
  refine ⟨a, cap, rfl, h1, h2, fun x hx j i hj => ?_⟩
  subst hx
  refine hg.cell (h3 x rfl j i hj) ?_
  rw [addr_block]
  simpa [Value.ownBlock] using hne
theorem RdT.sub {w : World} {v : Value} {is : List ByteArray} (h : RdT w v is) : ∃ a cap, v = .slice a is.length cap ∧ is.length ≤ cap ∧ (a = none → is = [] ∧ cap = 0) ∧ ∀ (j : Nat) (i : ByteArray), is[j]? = some i → ∃ x, a = some x ∧ w.cell? (x.add j) = some (.string i) := by
  obtain ⟨a, cap, rfl, h1, h2, h3⟩ := h
  refine ⟨a, cap, rfl, h1, h2, fun j i hj => ?_⟩
  cases a with
  | none => have := (h2 rfl).1; rw [this] at hj; simp at hj
  | some x => exact ⟨x, rfl, h3 x rfl j i hj⟩
/-- A list that a call made. -/
def OwT (w : World) (b : Nat) (v : Value) (is : List ByteArray) : Prop := Own w b 9 v (tv is)
theorem OwT.rd {w : World} {b : Nat} {v : Value} {is : List ByteArray} (h : OwT w b v is) : RdT w v is := by
  rcases Own.form h with ⟨h1, h2⟩ | ⟨g, cap, h1, _, _, h4, h5⟩
  · have h3 : is = [] := by simpa [tv] using h2
    subst h3
    exact ⟨none, 0, h1, by simp, fun _ => ⟨rfl, rfl⟩, fun x hx => by cases hx⟩
  · rw [tv_len] at h1 h4
    refine ⟨some ⟨g, 0, none⟩, cap, h1, h4, fun h => (by cases h), fun x hx j i hj => ?_⟩
    injection hx with hx
    subst hx
    rw [addr_add, Nat.zero_add]
    exact h5 j _ (tv_get hj)
theorem OwT.lt {w : World} {b : Nat} {v : Value} {is : List ByteArray} (h : OwT w b v is) : ∀ k, v.ownBlock = some k → b ≤ k ∧ k < w.heap.size := World.ownsRow.lt h
theorem OwT.below {w w' : World} {b : Nat} {v : Value} {is : List ByteArray} (h : OwT w b v is) (hb : Below w.heap.size w w') : OwT w' b v is := by
  have hg : w.grownBy w' none := ⟨hb.os, hb.tape, hb.output, hb.size, fun k hk _ => hb.block k hk⟩
  exact World.ownsRow.kept h hg (by cases v.ownBlock <;> simp)
theorem OwT.grown {w w' : World} {b : Nat} {v : Value} {is : List ByteArray} {row : Option Nat} (h : OwT w b v is) (hg : w.grownBy w' row) (hne : v.ownBlock = none ∨ v.ownBlock ≠ row) : OwT w' b v is := World.ownsRow.kept h hg hne
theorem OwT.wide {w : World} {b b' : Nat} {v : Value} {is : List ByteArray} (h : OwT w b v is) (hb : b' ≤ b) : OwT w b' v is := by
  obtain ⟨h1, h2⟩ := h
  refine ⟨h1, ?_⟩
  rcases h2 with h2 | ⟨g, cap, cur, hv, hg, rest⟩
  · exact .inl h2
  · exact .inr ⟨g, cap, cur, hv, Nat.le_trans hb hg, rest⟩
theorem OwT.row {w : World} {b g n cap : Nat} {is : List ByteArray} (h : OwT w b (.slice (some ⟨g, 0, none⟩) n cap) is) : is.length = n ∧ w.ownsRow b 9 1 (.slice (some ⟨g, 0, none⟩) n cap) n (tv is) := by
  have hn : (tv is).length = n := by
    rcases Own.form h with ⟨h2, _⟩ | ⟨g', cap', h2, _⟩
    · cases h2
    · injection h2 with _ h2 _
      exact h2.symm
  have h1 : w.ownsRow b 9 1 (.slice (some ⟨g, 0, none⟩) n cap) (tv is).length (tv is) := h
  rw [hn] at h1
  rw [tv_len] at hn
  exact ⟨hn, h1⟩
theorem OwT.cellAt {w : World} {b g n cap k : Nat} {is : List ByteArray} {i : ByteArray} (h : OwT w b (.slice (some ⟨g, 0, none⟩) n cap) is) (hi : is[k]? = some i) : w.cell? ⟨g, k, none⟩ = some (.string i) ∧ w.frozen? ⟨g, k, none⟩ = false := by
  rcases Own.form h with ⟨h2, _⟩ | ⟨g', cap', h2, _, _, _, h5⟩
  · cases h2
  · injection h2 with h2 _ _
    injection h2 with h2
    injection h2 with h2
    subst h2
    exact ⟨h5 k _ (tv_get hi), World.ownsRow.frozenAt h.row.2 k⟩
/-- What is left when n are taken, or -1. -/
def szV (l : Int) (n : Nat) : Int := if (n : Int) ≤ l then l - n else -1
def ksz (es : List Ent) : Nat := (es.map fun e => e.key.size).sum
theorem ksz_next {es : List Ent} {k : Nat} {e : Ent} (h : es[k]? = some e) : ksz (es.take (k + 1)) = ksz (es.take k) + e.key.size := by
  have hk : k < es.length := by
    rcases Nat.lt_or_ge k es.length with h2 | h2
    · exact h2
    · rw [List.getElem?_eq_none h2] at h; cases h
  rw [List.getElem?_eq_getElem hk] at h
  injection h with h
  unfold ksz
  rw [List.take_succ_eq_append_getElem hk, h, List.map_append, List.sum_append]
  simp
theorem ksz_le (es : List Ent) (k : Nat) : ksz (es.take k) ≤ ksz es := by
  unfold ksz
  have h : (es.map fun e => e.key.size).sum = ((es.take k).map fun e => e.key.size).sum + ((es.drop k).map fun e => e.key.size).sum := by
    rw [← List.sum_append, ← List.map_append, List.take_append_drop]
  omega
theorem ksz_mem {es : List Ent} {e : Ent} (h : e ∈ es) : e.key.size ≤ ksz es := by
  obtain ⟨k, hk⟩ := List.mem_iff_getElem?.1 h
  have h1 := ksz_next hk
  have h2 := ksz_le es (k + 1)
  omega
/-- The slice that came in reads as these entries. -/
def RsE (w : World) (a : Option Addr) (cap : Nat) (es : List Ent) : Prop := es.length ≤ cap ∧ (a = none → es = [] ∧ cap = 0) ∧ ∀ (j : Nat) (e : Ent), es[j]? = some e → ∃ g off, a = some ⟨g, off, none⟩ ∧ g < w.heap.size ∧ w.cell? ⟨g, off + j * 4, none⟩ = some (.string e.key) ∧ w.cell? ⟨g, off + j * 4 + 1, none⟩ = some (.int .i64 e.hash) ∧ w.cell? ⟨g, off + j * 4 + 2, none⟩ = some (.int .i64 e.val) ∧ w.cell? ⟨g, off + j * 4 + 3, none⟩ = some (.bool e.live)
theorem RsE.below {w w' : World} {a : Option Addr} {cap : Nat} {es : List Ent} (h : RsE w a cap es) (hb : Below w.heap.size w w') : RsE w' a cap es := by
  refine ⟨h.1, h.2.1, fun j e hj => ?_⟩
  obtain ⟨g, off, h1, h2, h3, h4, h5, h6⟩ := h.2.2 j e hj
  refine ⟨g, off, h1, Nat.lt_of_lt_of_le h2 hb.size, ?_, ?_, ?_, ?_⟩
  · rw [hb.cell h2]; exact h3
  · rw [hb.cell h2]; exact h4
  · rw [hb.cell h2]; exact h5
  · rw [hb.cell h2]; exact h6
/-- Texts of keys are as long as texts are. -/
def KeyM (es : List Ent) : Prop := ∀ e ∈ es, e.key.size ≤ maxLen
section
variable {ops : Array Oper} {rest : List Oper} {o : Oper} {a : Act} {w : World} {Q : Exit → Act → World → Prop}
end
/-- The whole block g holds these entries, as far as the first k. -/
def EnK (w : World) (g n : Nat) (es : List Ent) (k : Nat) : Prop := ∃ cs : Array Value, Blk w g 57 cs ∧ cs.size = n * 4 ∧ ∀ (j : Nat) (e : Ent), j < k → es[j]? = some e → cs[j * 4]? = some (.string e.key) ∧ cs[j * 4 + 1]? = some (.int .i64 e.hash) ∧ cs[j * 4 + 2]? = some (.int .i64 e.val) ∧ cs[j * 4 + 3]? = some (.bool e.live)
theorem EnK.below {w w' : World} {B g n k : Nat} {es : List Ent} (h : EnK w g n es k) (hb : Below B w w') (hg : g < B) : EnK w' g n es k := by
  obtain ⟨cs, h1, h2⟩ := h
  exact ⟨cs, h1.below hb hg, h2⟩
theorem EnK.lt {w : World} {g n k : Nat} {es : List Ent} (h : EnK w g n es k) : g < w.heap.size := by
  obtain ⟨cs, h1, _⟩ := h
  exact h1.lt
theorem EnK.old {w : World} {g n k i : Nat} {es : List Ent} (h : EnK w g n es k) (hi : i < n * 4) : ∃ v, w.cell? ⟨g, i, none⟩ = some v ∧ w.frozen? ⟨g, i, none⟩ = false := by
  obtain ⟨cs, h1, h2, _⟩ := h
  refine ⟨cs[i]'(by omega), ?_, h1.free i⟩
  rw [h1.cell i]
  exact Array.getElem?_eq_getElem (by omega)
theorem EnK.en {w : World} {g : Nat} {es : List Ent} (h : EnK w g es.length es es.length) : En w g es := by
  refine ⟨h.lt, fun j e hj => ?_⟩
  obtain ⟨cs, h1, h2, h3⟩ := h
  have hlt : j < es.length := by
    rcases Nat.lt_or_ge j es.length with h4 | h4
    · exact h4
    · rw [List.getElem?_eq_none h4] at hj; cases hj
  rw [h1.cell, h1.cell, h1.cell, h1.cell]
  exact h3 j e hlt hj
theorem EnK.next {w : World} {g n k : Nat} {es : List Ent} {e : Ent} (h : EnK w g n es k) (hk : k < n) (he : es[k]? = some e) : EnK ((((w.setCell ⟨g, k * 4, none⟩ (.string e.key)).setCell ⟨g, k * 4 + 1, none⟩ (.int .i64 e.hash)).setCell ⟨g, k * 4 + 2, none⟩ (.int .i64 e.val)).setCell ⟨g, k * 4 + 3, none⟩ (.bool e.live)) g n es (k + 1) := by
  obtain ⟨cs, h1, h2, h3⟩ := h
  refine ⟨_, (((h1.set _ _).set _ _).set _ _).set _ _, by simp [h2], fun j e2 hj h5 => ?_⟩
  simp only [Array.getElem?_setIfInBounds, Array.size_setIfInBounds]
  rcases Nat.lt_or_ge j k with h6 | h6
  · obtain ⟨p0, p1, p2, p3⟩ := h3 j e2 h6 h5
    refine ⟨?_, ?_, ?_, ?_⟩
    · rw [if_neg (by omega), if_neg (by omega), if_neg (by omega), if_neg (by omega)]; exact p0
    · rw [if_neg (by omega), if_neg (by omega), if_neg (by omega), if_neg (by omega)]; exact p1
    · rw [if_neg (by omega), if_neg (by omega), if_neg (by omega), if_neg (by omega)]; exact p2
    · rw [if_neg (by omega), if_neg (by omega), if_neg (by omega), if_neg (by omega)]; exact p3
  · obtain rfl : j = k := by omega
    rw [he] at h5; injection h5 with h5; subst h5
    refine ⟨?_, ?_, ?_, ?_⟩
    · rw [if_neg (by omega), if_neg (by omega), if_neg (by omega), if_pos rfl, if_pos (by omega)]
    · rw [if_neg (by omega), if_neg (by omega), if_pos rfl, if_pos (by omega)]
    · rw [if_neg (by omega), if_pos rfl, if_pos (by omega)]
    · rw [if_pos rfl, if_pos (by omega)]
/-- 'make([]Entry, n)'. -/
theorem mkEo {ops : Array Oper} {rest : List Oper} {o : Oper} {a : Act} {w : World} {Q : Exit → Act → World → Prop} (hg : o.guard = none) (l c : Operand) (hop : o.op = Op.makeSlice 24 l c) (n : Nat) (L C : Int) (hl : a.eval l = .int .i64 L) (hc : a.eval c = .int .i64 C) (hL : L = (n : Int)) (hC : C = (n : Int)) (hn : n ≤ 1048576) (es : List Ent)
    (hK : ∀ w', EnK w' w.heap.size n es 0 → Below w.heap.size w w' → wpList Try.prog ops Q rest (a.put o.dst (.slice (some ⟨w.heap.size, 0, none⟩) n n)) w') : wpList Try.prog ops Q (o :: rest) a w := by
  obtain ⟨i, hi1, hi2, hi3, hi4⟩ := info_of (P := Try.prog) (e := 57) (z := .agg #[.string ⟨#[]⟩, .int .i64 0, .int .i64 0, .bool false]) (s := 4) (b := 40) (by kernel_rfl)
  refine wpList_make_full w hg l c 24 hop w.heap.size 57 i (.agg #[.string ⟨#[]⟩, .int .i64 0, .int .i64 0, .bool false]) 4 Try.underlying24 hi1 hi2 hi3 .i64 .i64 L C n hl hc hL hC (by rw [hi4]; omega) (by unfold maxLen; omega) (Nat.le_refl _) ?_
  intro w' ho hgr
  refine hK w' ?_ ((Below.refl _ _).grown hgr (Nat.le_refl _) (fun k hk => by cases hk))
  rcases ho.2 with ⟨h1, _⟩ | ⟨g', cap', cur, hv, _, hh, _, _, hs, _⟩
  · cases h1
  · injection hv with hv1 hv2 hv3
    injection hv1 with hv1
    injection hv1 with hv1
    subst hv1 hv3
    exact ⟨cur, hh, hs, fun _ _ h => absurd h (by omega)⟩
def TeP (es : List Ent) (w : World) (e : Ending) (w' : World) : Prop := e = .returned (.slice (some ⟨w.heap.size, 0, none⟩) es.length es.length) ∧ Below w.heap.size w w' ∧ EnK w' w.heap.size es.length es es.length
/-- What a call made: a dictionary. -/
def DiP (ix : List Int) (es : List Ent) (w : World) (e : Ending) (w' : World) : Prop := ∃ g1 g2, e = .returned (.agg #[.slice (some ⟨g1, 0, none⟩) ix.length ix.length, .slice (some ⟨g2, 0, none⟩) es.length es.length]) ∧ w.heap.size ≤ g1 ∧ g1 < g2 ∧ Below w.heap.size w w' ∧ OwI w' w.heap.size (.slice (some ⟨g1, 0, none⟩) ix.length ix.length) ix ∧ EnK w' g2 es.length es es.length
theorem OwI.ci {w : World} {b g n cap : Nat} {is : List Int} (h : OwI w b (.slice (some ⟨g, 0, none⟩) n cap) is) : g < w.heap.size ∧ Ci w g is := by
  refine ⟨(OwI.lt h g rfl).2, fun j i hj => (h.cellAt hj).1⟩
theorem DiP.tb {ix : List Int} {es : List Ent} {w w' : World} {g1 g2 : Nat} (h1 : OwI w' w.heap.size (.slice (some ⟨g1, 0, none⟩) ix.length ix.length) ix) (h2 : EnK w' g2 es.length es es.length) : Tb w' g1 ix (some ⟨g2, 0, none⟩) es := ⟨h1.ci.1, h1.ci.2, .inr ⟨g2, rfl, h2.en⟩⟩
theorem OwI.wideK {w : World} {b b' : Nat} {v : Value} {is : List Int} (h : OwI w b v is) (hb : b' ≤ b) : OwI w b' v is := h.wide hb
theorem OwI.setOff {w : World} {b g n cap k i : Nat} {u : Value} {is : List Int} (h : OwI w b (.slice (some ⟨g, 0, none⟩) n cap) is) (hne : g ≠ k) : OwI (w.setCell ⟨k, i, none⟩ u) b (.slice (some ⟨g, 0, none⟩) n cap) is := by
  obtain ⟨h1, h2⟩ := h
  refine ⟨h1, ?_⟩
  rcases h2 with ⟨h2, _⟩ | ⟨g', cap', cur, hv, hb1, hh, rest⟩
  · cases h2
  · injection hv with hv1 hv2 hv3
    injection hv1 with hv1
    injection hv1 with hv1
    subst hv1 hv2 hv3
    exact .inr ⟨_, _, cur, rfl, hb1, (heap_setCell_other w ⟨k, i, none⟩ _ u hne).trans hh, rest⟩
theorem EnK.setOff {w : World} {g n k q i : Nat} {u : Value} {es : List Ent} (h : EnK w g n es k) (hne : g ≠ q) : EnK (w.setCell ⟨q, i, none⟩ u) g n es k := by
  obtain ⟨cs, h1, h2⟩ := h
  exact ⟨cs, h1.setOff hne, h2⟩
theorem OwI.keepD {w w' : World} {b B g n cap : Nat} {is : List Int} (h : OwI w b (.slice (some ⟨g, 0, none⟩) n cap) is) (hb : Below B w w') (hg : g < B) : OwI w' b (.slice (some ⟨g, 0, none⟩) n cap) is := by
  obtain ⟨h1, h2⟩ := h
  refine ⟨h1, ?_⟩
  rcases h2 with ⟨h2, _⟩ | ⟨g', cap', cur, hv, hb1, hh, rest⟩
  · cases h2
  · injection hv with hv1 hv2 hv3
    injection hv1 with hv1
    injection hv1 with hv1
    subst hv1 hv2 hv3
    exact .inr ⟨_, _, cur, rfl, hb1, (hb.block _ hg).trans hh, rest⟩
end Go.Proofs.Ytibglmcpbbikdaa
