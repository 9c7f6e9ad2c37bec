/- Lists of numbers: those that came in, copies of them, whether two are the same. -/
import Derived.Test.YtplpgcbdbmfffaaInts
namespace Go.Proofs.Ytplpgcbdbmfffaa
open Go.RowKit
/-- At an address lie these numbers. -/
def AtI (w : World) (x : Addr) (is : List Int) : Prop := ∀ (j : Nat) (i : Int), is[j]? = some i → w.cell? (x.add j) = some (.int .i64 i)
/-- The slice reads as these numbers. -/
def RsI (w : World) (a : Option Addr) (cap : Nat) (is : List Int) : Prop := is.length ≤ cap ∧ (a = none → is = [] ∧ cap = 0) ∧ ∀ x, a = some x → AtI w x is
def RdI (w : World) (v : Value) (is : List Int) : Prop := ∃ a cap, v = .slice a is.length cap ∧ RsI w a cap is
def iv (is : List Int) : List Value := is.map (Value.int .i64)
theorem iv_len (is : List Int) : (iv is).length = is.length := by simp [iv]
theorem iv_get {is : List Int} {j : Nat} {i : Int} (h : is[j]? = some i) : (iv is)[j]? = some (.int .i64 i) := by simp [iv, h]
theorem iv_app (a b : List Int) : iv (a ++ b) = iv a ++ iv b := by simp [iv]
theorem AtI.below {w w' : World} {x : Addr} {is : List Int} (h : AtI w x is) (hb : Below w.heap.size w w') : AtI w' x is := fun j s hj => by
  have hc := h j s hj
  rw [hb.cell (World.block_lt_of_cell? w _ hc)]
  exact hc
theorem RsI.below {w w' : World} {a : Option Addr} {cap : Nat} {is : List Int} (h : RsI w a cap is) (hb : Below w.heap.size w w') : RsI w' a cap is := ⟨h.1, h.2.1, fun x hx => (h.2.2 x hx).below hb⟩
theorem RdI.below {w w' : World} {v : Value} {is : List Int} (h : RdI w v is) (hb : Below w.heap.size w w') : RdI w' v is := by
  obtain ⟨a, cap, h1, h2⟩ := h
  exact ⟨a, cap, h1, h2.below hb⟩
theorem addr_block (x : Addr) (j : Nat) : (x.add j).block = x.block := by unfold Addr.add; split <;> rfl
/-- .. also behind a call that wrote into another block. -/
theorem RdI.grown {w w' : World} {v : Value} {is : List Int} {row : Option Nat} (h : RdI w v is) (hg : w.grownBy w' row) (hne : v.ownBlock = none ∨ v.ownBlock ≠ row) : RdI w' v is := by
  obtain ⟨a, cap, rfl, h1, h2, h3⟩ := h
  refine ⟨a, cap, rfl, h1, h2, fun x hx j i hj => ?_⟩
  subst hx
  refine hg.cell (h3 x rfl j i hj) ?_
  rw [addr_block]
  simpa [Value.ownBlock] using hne
theorem RdI.sub {w : World} {v : Value} {is : List Int} (h : RdI w v is) : ∃ a cap, v = .slice a is.length cap ∧ is.length ≤ cap ∧ (a = none → is = [] ∧ cap = 0) ∧ ∀ (j : Nat) (i : Int), is[j]? = some i → ∃ x, a = some x ∧ w.cell? (x.add j) = some (.int .i64 i) := by
  obtain ⟨a, cap, rfl, h1, h2, h3⟩ := h
  refine ⟨a, cap, rfl, h1, h2, fun j i hj => ?_⟩
  cases a with
  | none => have := (h2 rfl).1; rw [this] at hj; simp at hj
  | some x => exact ⟨x, rfl, h3 x rfl j i hj⟩
/-- A list that a call made. -/
def OwI (w : World) (b : Nat) (v : Value) (is : List Int) : Prop := Own w b 3 v (iv is)
theorem OwI.rd {w : World} {b : Nat} {v : Value} {is : List Int} (h : OwI w b v is) : RdI w v is := by
  rcases Own.form h with ⟨h1, h2⟩ | ⟨g, cap, h1, _, _, h4, h5⟩
  · have h3 : is = [] := by simpa [iv] using h2
    subst h3
    exact ⟨none, 0, h1, by simp, fun _ => ⟨rfl, rfl⟩, fun x hx => by cases hx⟩
  · rw [iv_len] at h1 h4
    refine ⟨some ⟨g, 0, none⟩, cap, h1, h4, fun h => (by cases h), fun x hx j i hj => ?_⟩
    injection hx with hx
    subst hx
    rw [addr_add, Nat.zero_add]
    exact h5 j _ (iv_get hj)
theorem OwI.lt {w : World} {b : Nat} {v : Value} {is : List Int} (h : OwI w b v is) : ∀ k, v.ownBlock = some k → b ≤ k ∧ k < w.heap.size := World.ownsRow.lt h
theorem OwI.below {w w' : World} {b : Nat} {v : Value} {is : List Int} (h : OwI w b v is) (hb : Below w.heap.size w w') : OwI w' b v is := by
  have hg : w.grownBy w' none := ⟨hb.os, hb.tape, hb.output, hb.size, fun k hk _ => hb.block k hk⟩
  exact World.ownsRow.kept h hg (by cases v.ownBlock <;> simp)
theorem OwI.grown {w w' : World} {b : Nat} {v : Value} {is : List Int} {row : Option Nat} (h : OwI w b v is) (hg : w.grownBy w' row) (hne : v.ownBlock = none ∨ v.ownBlock ≠ row) : OwI w' b v is := World.ownsRow.kept h hg hne
theorem OwI.wide {w : World} {b b' : Nat} {v : Value} {is : List Int} (h : OwI w b v is) (hb : b' ≤ b) : OwI w b' v is := by
  obtain ⟨h1, h2⟩ := h
  refine ⟨h1, ?_⟩
  rcases h2 with h2 | ⟨g, cap, cur, hv, hg, rest⟩
  · exact .inl h2
  · exact .inr ⟨g, cap, cur, hv, Nat.le_trans hb hg, rest⟩
theorem below_grown {w w' : World} {row : Option Nat} (hb : Below w.heap.size w w') : w.grownBy w' row := ⟨hb.os, hb.tape, hb.output, hb.size, fun k hk _ => hb.block k hk⟩
def nuI (n : Nat) : List Int := List.replicate n 0
theorem nuI_len (n : Nat) : (nuI n).length = n := by simp [nuI]
/-- 'make([]int, n)'. -/
theorem mkIo {ops : Array Oper} {rest : List Oper} {o : Oper} {a : Act} {w : World} {Q : Exit → Act → World → Prop} (hg : o.guard = none) (l c : Operand) (hop : o.op = Op.makeSlice 24 l c) (n : Nat) (L C : Int) (hl : a.eval l = .int .i64 L) (hc : a.eval c = .int .i64 C) (hL : L = (n : Int)) (hC : C = (n : Int)) (hn : n ≤ 1048576)
    (hK : ∀ w', OwI w' w.heap.size (.slice (some ⟨w.heap.size, 0, none⟩) n n) (nuI n) → Below w.heap.size w w' → wpList Try.prog ops Q rest (a.put o.dst (.slice (some ⟨w.heap.size, 0, none⟩) n n)) w') : wpList Try.prog ops Q (o :: rest) a w := by
  obtain ⟨i, hi1, hi2, hi3, hi4⟩ := info_of (P := Try.prog) (e := 3) (z := .int .i64 0) (s := 1) (b := 8) (by kernel_rfl)
  refine wpList_make_full w hg l c 24 hop w.heap.size 3 i (.int .i64 0) 1 Try.underlying24 hi1 hi2 hi3 .i64 .i64 L C n hl hc hL hC (by rw [hi4]; omega) (by unfold maxLen; omega) (Nat.le_refl _) ?_
  intro w' ho hgr
  refine hK w' ?_ ((Below.refl _ _).grown hgr (Nat.le_refl _) (fun k hk => by cases hk))
  have e : (madeCells (Value.int .i64 0).cells (n * 1)).toList = iv (nuI n) := by
    rw [show (Value.int .i64 0).cells = #[Value.int .i64 0] from rfl, toList_madeCells_one, Nat.mul_one]; simp [iv, nuI]
  rw [e] at ho
  unfold OwI Own
  rw [iv_len, nuI_len]
  exact ho
theorem OwI.row {w : World} {b g n cap : Nat} {is : List Int} (h : OwI w b (.slice (some ⟨g, 0, none⟩) n cap) is) : is.length = n ∧ w.ownsRow b 3 1 (.slice (some ⟨g, 0, none⟩) n cap) n (iv is) := by
  have hn : (iv is).length = n := by
    rcases Own.form h with ⟨h2, _⟩ | ⟨g', cap', h2, _⟩
    · cases h2
    · injection h2 with _ h2 _
      exact h2.symm
  have h1 : w.ownsRow b 3 1 (.slice (some ⟨g, 0, none⟩) n cap) (iv is).length (iv is) := h
  rw [hn] at h1
  rw [iv_len] at hn
  exact ⟨hn, h1⟩
theorem OwI.cellAt {w : World} {b g n cap k : Nat} {is : List Int} {i : Int} (h : OwI w b (.slice (some ⟨g, 0, none⟩) n cap) is) (hi : is[k]? = some i) : w.cell? ⟨g, k, none⟩ = some (.int .i64 i) ∧ w.frozen? ⟨g, k, none⟩ = false := by
  rcases Own.form h with ⟨h2, _⟩ | ⟨g', cap', h2, _, _, _, h5⟩
  · cases h2
  · injection h2 with h2 _ _
    injection h2 with h2
    injection h2 with h2
    subst h2
    exact ⟨h5 k _ (iv_get hi), World.ownsRow.frozenAt h.row.2 k⟩
theorem OwI.stored {w : World} {b g n cap : Nat} {is : List Int} (h : OwI w b (.slice (some ⟨g, 0, none⟩) n cap) is) (k : Nat) (i : Int) : OwI (w.setCell ⟨g, k, none⟩ (.int .i64 i)) b (.slice (some ⟨g, 0, none⟩) n cap) (is.set k i) := by
  have h1 := (World.ownsRow.stored h.row.2 k (.int .i64 i)).1
  have e : (iv is).set k (.int .i64 i) = iv (is.set k i) := by unfold iv; rw [List.map_set]
  rw [e] at h1
  unfold OwI Own
  rw [iv_len, List.length_set, h.row.1]
  exact h1
theorem take_nextI {is : List Int} {k : Nat} {i : Int} {n : Nat} (hi : is[k]? = some i) (hn : is.length = n) : (is.take k ++ nuI (n - k)).set k i = is.take (k + 1) ++ nuI (n - (k + 1)) := by
  have hk : k < is.length := by
    rcases Nat.lt_or_ge k is.length with h2 | h2
    · exact h2
    · rw [List.getElem?_eq_none h2] at hi; cases hi
  rw [List.getElem?_eq_getElem hk] at hi
  injection hi with hi
  have hl : (is.take k).length = k := by rw [List.length_take]; omega
  rw [List.set_append_right _ _ (by omega), hl, Nat.sub_self]
  have e2 : nuI (n - k) = 0 :: nuI (n - (k + 1)) := by
    unfold nuI
    rw [show n - k = n - (k + 1) + 1 by omega, List.replicate_succ]
  rw [e2, List.set_cons_zero, List.take_succ_eq_append_getElem hk, hi, List.append_assoc]; rfl
theorem nu_get {is : List Int} {n k : Nat} (hn : is.length = n) (hk : k < n) : (is.take k ++ nuI (n - k))[k]? = some 0 := by
  have hl : (is.take k).length = k := by rw [List.length_take]; omega
  rw [List.getElem?_append_right (by omega), hl, Nat.sub_self]
  unfold nuI
  rw [List.getElem?_replicate, if_pos (by omega)]
def TiI (w wr : World) (is : List Int) (n k : Nat) : Prop := Below w.heap.size w wr ∧ OwI wr w.heap.size (.slice (some ⟨w.heap.size, 0, none⟩) n n) (is.take k ++ nuI (n - k))
theorem TiI.next {w wr : World} {is : List Int} {n k : Nat} {i : Int} (h : TiI w wr is n k) (hn : is.length = n) (hi : is[k]? = some i) : TiI w (wr.setCell ⟨w.heap.size, k, none⟩ (.int .i64 i)) is n (k + 1) := by
  refine ⟨h.1.setCell (Nat.le_refl _) _, ?_⟩
  have h1 := h.2.stored k i
  rw [take_nextI hi hn] at h1
  exact h1
theorem TiI.all {w wr : World} {is : List Int} {n : Nat} (h : TiI w wr is n n) (hn : is.length = n) : OwI wr w.heap.size (.slice (some ⟨w.heap.size, 0, none⟩) n n) is := by
  have h1 := h.2
  rw [Nat.sub_self, List.take_of_length_le (by omega), show nuI 0 = [] from rfl, List.append_nil] at h1
  exact h1
def TiP (is : List Int) (w : World) (e : Ending) (w' : World) : Prop := e = .returned (.slice (some ⟨w.heap.size, 0, none⟩) is.length is.length) ∧ Below w.heap.size w w' ∧ OwI w' w.heap.size (.slice (some ⟨w.heap.size, 0, none⟩) is.length is.length) is
set_option maxHeartbeats 2000000 in
theorem toIntS_any (is : List Int) (v : Value) (w : World) (h : RdI w v is) (hl : is.length ≤ 1048576) :
    Calls Try.prog 60 #[v] w (TiP is w) := by
  have HW := Lib.hid h
  obtain ⟨a, cap, rfl, hcap, hnil, hat⟩ := h.sub
  have HA := Lib.hid hat
  clear h hat hnil
  obtain ⟨n, hn⟩ : ∃ n, n = is.length := ⟨_, rfl⟩
  have HN := Lib.hid hn
  rw [← hn] at hcap hl ⊢
  clear hn
  go_enter Try.func60, Try.ntmps60
  go_wp2_with (first | (refine mkIo rfl (.tmp 6) (.tmp 6) rfl n _ _ rfl rfl rfl rfl hl ?_; intro w3 ho hb3; have H0 := Lib.hid (show TiI w w3 is n 0 from ⟨hb3, by rw [List.take_zero, List.nil_append, Nat.sub_zero]; exact ho⟩); clear ho hb3))
  go_loopw [4] (fun i wr => ∃ k : Nat, k ≤ n ∧ i = .int .i64 k ∧ Hid (TiI w wr is n k)) (fun i _ => n - (intOf i).toNat)
  case atStart => exact ⟨0, by omega, rfl, H0⟩
  case round =>
    obtain ⟨k, hk, rfl, HI⟩ := hrel
    by_cases hlt : k < n
    · obtain ⟨s, hs⟩ : ∃ s, is[k]? = some s := ⟨is[k]'(by have := HN.out; omega), List.getElem?_eq_getElem _⟩
      obtain ⟨x, rfl, hx⟩ := HA.out k s hs
      have c1 : wr.cell? (x.add k) = some (.int .i64 s) := by rw [HI.out.1.cell (World.block_lt_of_cell? w _ hx)]; exact hx
      obtain ⟨c5, f5⟩ := HI.out.2.cellAt (nu_get HN.out.symm hlt)
      have HT := Lib.hid (HI.out.next HN.out.symm hs)
      clear hs hx
      go_wp2_with fail
      go_roundw
      case rel => exact ⟨k + 1, by omega, by go_num, HT⟩
      case measure => simp [intOf]; try omega
    · obtain rfl : k = n := by omega
      have HF := Lib.hid (HI.out.all HN.out.symm)
      clear hlt
      go_wp2_with fail
      go_ret
      refine ⟨by rw [← HN.out]; rfl, HI.out.1, ?_⟩
      rw [← HN.out]; exact HF.out
set_option maxHeartbeats 2000000 in
theorem eqIntS_rd (is : List Int) (v1 v2 : Value) (w : World) (h1 : RdI w v1 is) (h2 : RdI w v2 is) (hl : is.length ≤ 1048576) :
    Calls Try.prog 28 #[v1, v2] w fun e w' => e = .returned (.bool true) ∧ Below w.heap.size w w' := by
  obtain ⟨a1, c1, rfl, hc1, _, ha1⟩ := h1.sub
  obtain ⟨a2, c2, rfl, hc2, _, ha2⟩ := h2.sub
  have HA := Lib.hid ha1
  have HB := Lib.hid ha2
  clear h1 h2 ha1 ha2
  obtain ⟨n, hn⟩ : ∃ n, n = is.length := ⟨_, rfl⟩
  have HN := Lib.hid hn
  rw [← hn] at hl hc1 hc2 ⊢
  clear hn
  go_enter Try.func28, Try.ntmps28
  go_wp2_with fail
  go_loopw [5] (fun i wr => ∃ k m : Nat, k ≤ n ∧ i = .int .i64 k ∧ wr = w.drewN m) (fun i _ => n - (intOf i).toNat)
  case atStart => exact ⟨0, 0, by omega, rfl, rfl⟩
  case round =>
    obtain ⟨k, m, hk, rfl, rfl⟩ := hrel
    by_cases hlt : k < n
    · obtain ⟨s, hs⟩ : ∃ s, is[k]? = some s := ⟨is[k]'(by have := HN.out; omega), List.getElem?_eq_getElem _⟩
      obtain ⟨x1, rfl, d1⟩ := HA.out k s hs
      obtain ⟨x2, rfl, d2⟩ := HB.out k s hs
      have k1 : (k : Int) < (n : Int) := by omega
      have k0 : 0 ≤ (k : Int) := by omega
      clear hs
      go_wp2_with fail
      go_quiet (fail)
      go_wp2_with fail
      go_roundw
      case rel => exact ⟨k + 1, _, by omega, by go_num, rfl⟩
      case measure => simp [intOf]; try omega
    · obtain rfl : k = n := by omega
      clear hlt
      go_wp2_with fail
      go_ret
      exact ⟨rfl, ⟨rfl, rfl, rfl, Nat.le_refl _, fun _ _ => rfl⟩⟩
end Go.Proofs.Ytplpgcbdbmfffaa
