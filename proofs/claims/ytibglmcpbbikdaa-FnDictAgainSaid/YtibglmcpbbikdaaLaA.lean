/- Rows of numbers; new dictionaries. -/
import Derived.Test.YtibglmcpbbikdaaBytes
import Derived.Test.YtibglmcpbbikdaaShelf
import Derived.Laws.CopyOwn
import Derived.Deep.RegionLaw
namespace Go.Proofs.Ytibglmcpbbikdaa
open Go.RowKit
/-- Block g begins with these numbers. -/
def Ci (w : World) (g : Nat) (is : List Int) : Prop := ∀ (j : Nat) (i : Int), is[j]? = some i → w.cell? ⟨g, j, none⟩ = some (.int .i64 i)
theorem Ci.below {w w' : World} {B g : Nat} {is : List Int} (h : Ci w g is) (hb : Below B w w') (hg : g < B) : Ci w' g is := fun j s hj => by
  rw [hb.cell hg]
  exact h j s hj
/-- Block g holds n numbers, the first k of them counted up from m. -/
def Up (w : World) (g : Nat) (t : TypeId) (m : Int) (n k : Nat) : Prop := ∃ cs, Blk w g t cs ∧ (∀ j, j < n → ∃ i : Int, cs[j]? = some (.int .i64 i)) ∧ ∀ j, j < k → cs[j]? = some (.int .i64 (m + (j : Int)))
theorem Up.cell {w : World} {g : Nat} {t : TypeId} {m : Int} {n k j : Nat} (h : Up w g t m n k) (hj : j < n) : ∃ i : Int, w.cell? ⟨g, j, none⟩ = some (.int .i64 i) := by
  obtain ⟨cs, h1, h2, _⟩ := h
  obtain ⟨i, hi⟩ := h2 j hj
  exact ⟨i, by rw [h1.cell]; exact hi⟩
theorem Up.free {w : World} {g : Nat} {t : TypeId} {m : Int} {n k : Nat} (h : Up w g t m n k) (j : Nat) : w.frozen? ⟨g, j, none⟩ = false := by
  obtain ⟨cs, h1, _⟩ := h
  exact h1.free j
theorem Up.at {w : World} {g : Nat} {t : TypeId} {m : Int} {n k j : Nat} (h : Up w g t m n k) (hj : j < k) : w.cell? ⟨g, j, none⟩ = some (.int .i64 (m + (j : Int))) := by
  obtain ⟨cs, h1, _, h3⟩ := h
  rw [h1.cell]; exact h3 j hj
theorem Up.next {w : World} {g : Nat} {t : TypeId} {m : Int} {n k : Nat} (h : Up w g t m n k) (hk : k < n) : Up (w.setCell ⟨g, k, none⟩ (.int .i64 (m + (k : Int)))) g t m n (k + 1) := by
  obtain ⟨cs, h1, h2, h3⟩ := h
  have hs : k < cs.size := by
    obtain ⟨i, hi⟩ := h2 k hk
    rcases Nat.lt_or_ge k cs.size with h4 | h4
    · exact h4
    · rw [Array.getElem?_eq_none h4] at hi; cases hi
  refine ⟨_, h1.set k _, ?_, ?_⟩
  · intro j hj
    rw [Array.getElem?_setIfInBounds]
    by_cases e : k = j
    · subst e; rw [if_pos rfl, if_pos hs]; exact ⟨_, rfl⟩
    · rw [if_neg e]; exact h2 j hj
  · intro j hj
    rw [Array.getElem?_setIfInBounds]
    by_cases e : k = j
    · subst e; rw [if_pos rfl, if_pos hs]
    · rw [if_neg e]; exact h3 j (by omega)
theorem Up.below {w w' : World} {B g : Nat} {t : TypeId} {m : Int} {n k : Nat} (h : Up w g t m n k) (hb : Below B w w') (hg : g < B) : Up w' g t m n k := by
  obtain ⟨cs, h1, h2⟩ := h
  exact ⟨cs, h1.below hb hg, h2⟩
/-- While a list is marked. -/
def MkI (w wr : World) (g : Nat) (t : TypeId) (m : Int) (n k : Nat) : Prop := Below g w wr ∧ Up wr g t m n k ∧ ∀ j, j < w.heap.size → j ≠ g → wr.heap[j]? = w.heap[j]?
theorem MkI.next {w wr : World} {g : Nat} {t : TypeId} {m : Int} {n k : Nat} (h : MkI w wr g t m n k) (hk : k < n) : MkI w (wr.setCell ⟨g, k, none⟩ (.int .i64 (m + (k : Int)))) g t m n (k + 1) := ⟨h.1.setCell (Nat.le_refl _) _, h.2.1.next hk, fun j hj hne => (Below.heap_setCell _ _ _ _ hne).trans (h.2.2 j hj hne)⟩
def neg (n : Nat) : List Value := List.replicate n (.int .i64 (-1))
def nul (n : Nat) : List Value := List.replicate n (.int .i64 0)
theorem neg_len (n : Nat) : (neg n).length = n := by simp [neg]
theorem nul_len (n : Nat) : (nul n).length = n := by simp [nul]
/-- The first k of c numbers are written. -/
def ng (c k : Nat) : List Value := neg k ++ nul (c - k)
theorem ng_len {c k : Nat} (h : k ≤ c) : (ng c k).length = c := by unfold ng; rw [List.length_append, neg_len, nul_len]; omega
theorem ng_zero (c : Nat) : nul c = ng c 0 := by simp [ng, neg]
theorem ng_all (c : Nat) : ng c c = neg c := by simp [ng, nul]
theorem ng_splice {c k m : Nat} (h : k + m ≤ c) : splice (ng c k) k (neg m) = ng c (k + m) := by
  unfold splice ng
  rw [List.take_left' (neg_len k), neg_len, List.drop_append, List.drop_eq_nil_of_le (by rw [neg_len]; omega), neg_len, List.nil_append, ← List.append_assoc]
  have e1 : neg k ++ neg m = neg (k + m) := by unfold neg; rw [List.replicate_append_replicate]
  have e2 : (nul (c - k)).drop (k + m - k) = nul (c - (k + m)) := by unfold nul; rw [List.drop_replicate]; congr 1; omega
  rw [e1, e2]
/-- While a row is filled. -/
def RpI (w wr : World) (c k : Nat) : Prop := Below w.heap.size w wr ∧ wr.heap[w.heap.size]? = some (.cells (ng c k).toArray 3 (0, 0))
theorem rp_src {w wr : World} {c k m : Nat} (h : RpI w wr c k) (hm : m ≤ k) : ∀ (j : Nat) (v : Value), (neg m)[j]? = some v → wr.cell? ((⟨w.heap.size, 0, none⟩ : Addr).add j) = some v := by
  intro j v hj
  have hjm : j < m := by
    rcases Nat.lt_or_ge j m with h2 | h2
    · exact h2
    · rw [List.getElem?_eq_none (by rw [neg_len]; exact h2)] at hj; cases hj
  have e := cell_of_row wr w.heap.size j (ng c k).toArray 3 (0, 0) h.2
  rw [addr_add, Nat.zero_add, e]
  unfold neg at hj
  rw [List.getElem?_replicate, if_pos hjm] at hj
  rw [← hj]
  unfold ng neg
  rw [List.getElem?_toArray, List.getElem?_append_left (by simp; omega), List.getElem?_replicate, if_pos (by omega)]
theorem neg_one (m : Nat) : ∀ v ∈ neg m, v.oneCell' = true := by
  intro v hv
  unfold neg at hv
  rw [List.eq_of_mem_replicate hv]; rfl
theorem own_block {w : World} {g n : Nat} {e : TypeId} {xs : List Value} (h : w.ownsRow g e 1 (.slice (some ⟨g, 0, none⟩) n n) n xs) : w.heap[g]? = some (.cells xs.toArray e (0, 0)) := by
  rcases h.2 with ⟨h1, _⟩ | ⟨g', cap, cur, hv, _, hh, _, _, hs, ht⟩
  · cases h1
  · injection hv with h1 h2 h3
    injection h1 with h1
    injection h1 with h1
    subst h1
    have e1 : cur.toList = xs := by rw [← ht, List.take_of_length_le]; rw [Array.length_toList, hs, h3]; exact Nat.le_refl _
    rw [← e1]; simpa using hh
theorem mulC (c : Nat) (hc : c ≤ 1048576) (w : World) : Calls Try.prog 97 #[.int .u64 1, .int .u64 (c : Int)] w fun e w' => e = .returned (.tuple #[.int .u64 0, .int .u64 (c : Int)]) ∧ w = w' := by
  refine (Try.bits_Mul 1 c (by omega) (by omega) w).mono ?_
  rintro e w' ⟨rfl, rfl⟩
  refine ⟨?_, rfl⟩
  rw [Nat.one_mul, Nat.div_eq_of_lt (by omega), Nat.mod_eq_of_lt (by omega)]; rfl
theorem cpN {c : Nat} (h : 1 ≤ c) : (neg 1).length = Nat.min 1 c := by rw [neg_len]; exact (Nat.min_eq_left h).symm
theorem cpL {c : Nat} (h : 1 ≤ c) : 0 + (neg 1).length ≤ (ng c 0).length := by rw [neg_len, ng_len (Nat.zero_le _)]; omega
theorem cpS {w w3 : World} {p : Nat} (h : w.cell? ⟨p, 0, none⟩ = some (.int .i64 (-1))) (hb : Below w.heap.size w w3) (_ : 0 < (neg 1).length) : (some ⟨w.heap.size, 0, none⟩ : Option Addr) = some ⟨w.heap.size, 0, none⟩ ∧ ∃ ad, (some ⟨p, 0, none⟩ : Option Addr) = some ad ∧ ∀ (j : Nat) (v : Value), (neg 1)[j]? = some v → w3.cell? (ad.add j) = some v := by
  refine ⟨rfl, _, rfl, ?_⟩
  intro j v hj
  obtain rfl : j = 0 := by
    rcases Nat.lt_or_ge j 1 with h2 | h2
    · omega
    · rw [List.getElem?_eq_none (by rw [neg_len]; exact h2)] at hj; cases hj
  rw [addr_add, hb.cell (World.block_lt_of_cell? w _ h), h, ← hj]
  rfl
theorem rp_first {w w4 : World} {c : Nat} (h : Hid (w4.heap[w.heap.size]? = some (.cells (splice (ng c 0) 0 (neg 1)).toArray 3 (0, 0)))) (hb : Below w.heap.size w w4) (hc : 1 ≤ c) : RpI w w4 c 1 := by
  refine ⟨hb, ?_⟩
  have e : splice (ng c 0) 0 (neg 1) = ng c 1 := ng_splice (by omega)
  rw [← e]; exact h.out
theorem RpI.drew {w wr : World} {c k : Nat} (h : RpI w wr c k) : RpI w wr.drew c k := ⟨⟨h.1.os, h.1.tape, h.1.output, h.1.size, h.1.block⟩, h.2⟩
theorem rp_min {k c m : Nat} (h : m = Nat.min k (c - k)) (h1 : 1 ≤ k) (h2 : k < c) : m ≤ k ∧ k + m ≤ c ∧ 1 ≤ m := by
  have e : m = min k (c - k) := h
  omega
theorem rp_step {w w4 : World} {c k m : Nat} (h : Hid (w4.heap[w.heap.size]? = some (.cells (splice (ng c k) k (neg m)).toArray 3 (0, 0)))) (hb : Below w.heap.size w w4) (hc : k + m ≤ c) : RpI w w4 c (k + m) := by
  refine ⟨hb, ?_⟩
  rw [← ng_splice hc]; exact h.out
theorem rp_copy {w wr : World} {c k : Nat} (h : RpI w wr c k) (h1 : 1 ≤ k) (h2 : k < c) : ∃ (m : Nat) (w4 : World), 1 ≤ m ∧ k + m ≤ c ∧ Sem.run Try.prog (Builtin.copy_ #[23, 23] 3 #[Value.slice (some { block := w.heap.size, off := k }) (c - k) (c - k), Value.slice (some { block := w.heap.size, off := 0 }) k c]) wr.drew = Result.ok (Value.int .i64 (m : Int)) w4 ∧ Hid (RpI w w4 c (k + m)) := by
  have hmm := rp_min rfl h1 h2
  have hr := run_copy_row (P := Try.prog) wr.drew 23 23 3 3 w.heap.size k (c - k) (c - k) ⟨w.heap.size, 0, none⟩ k c (ng c k).toArray 3 (neg (Nat.min k (c - k))) Try.underlying23 (by kernel_rfl) h.2 (by rw [neg_len]) (rp_src h.drew hmm.1) (by rw [neg_len, List.size_toArray, ng_len (by omega)]; exact hmm.2.1) (neg_one _)
  refine ⟨Nat.min k (c - k), wr.drew.setRow w.heap.size (splice (ng c k) k (neg (Nat.min k (c - k)))).toArray, hmm.2.2, hmm.2.1, ?_, Lib.hid (rp_step (Lib.hid (setRow_heap wr.drew w.heap.size _ _ 3 _ h.2)) (below_setRow h.drew.1 (Nat.le_refl _)) hmm.2.1)⟩
  rw [hr, neg_len]
  simp [splice, goInt, neg_len]
/-- 'make([]int, n)'. -/
theorem mkI {ops : Array Oper} {rest : List Oper} {o : Oper} {a : Act} {w : World} {Q : Exit → Act → World → Prop} (hg : o.guard = none) (l c : Operand) (hop : o.op = Op.makeSlice 23 l c) (n : Nat) (L C : Int) (hl : a.eval l = .int .i64 L) (hc : a.eval c = .int .i64 C) (hL : L = (n : Int)) (hC : C = (n : Int)) (hn : n ≤ 1048576)
    (hK : ∀ w', Hid (RpI w w' n 0) → wpList Try.prog ops Q rest (a.put o.dst (.slice (some ⟨w.heap.size, 0, none⟩) n n)) w') : wpList Try.prog ops Q (o :: rest) a w := by
  obtain ⟨i, hi1, hi2, hi3, hi4⟩ := info_of (P := Try.prog) (e := 3) (z := .int .i64 0) (s := 1) (b := 8) (by kernel_rfl)
  refine wpList_make_full w hg l c 23 hop w.heap.size 3 i (.int .i64 0) 1 Try.underlying23 hi1 hi2 hi3 .i64 .i64 L C n hl hc hL hC (by rw [hi4]; omega) (by unfold maxLen; omega) (Nat.le_refl _) ?_
  intro w' ho hgr
  refine hK w' (Lib.hid ⟨(Below.refl _ _).grown hgr (Nat.le_refl _) (fun k hk => by cases hk), ?_⟩)
  have e : (madeCells (Value.int .i64 0).cells (n * 1)).toList = nul n := by
    rw [show (Value.int .i64 0).cells = #[Value.int .i64 0] from rfl, toList_madeCells_one, Nat.mul_one]; rfl
  rw [e, ng_zero] at ho
  exact own_block ho
set_option maxHeartbeats 2000000 in
set_option maxRecDepth 20000 in
theorem repeat_any (p c : Nat) (w : World) (hp : w.cell? ⟨p, 0, none⟩ = some (.int .i64 (-1))) (hc1 : 1 ≤ c) (hc : c ≤ 1048576) :
    Calls Try.prog 95 #[.slice (some ⟨p, 0, none⟩) 1 1, .int .i64 (c : Int)] w fun e w' => e = .returned (.slice (some ⟨w.heap.size, 0, none⟩) c c) ∧ RpI w w' c c := by
  have HP := Lib.hid hp
  have HM := Lib.hid (mulC c hc)
  clear hp
  go_enter Try.func95, Try.ntmps95
  go_wp2_with fail
  refine (HM.out _).mono ?_
  rintro e w' ⟨rfl, rfl⟩
  go_wp2_with (first | (refine ext rfl (.tmp 12) 0 [.int .u64 0, .int .u64 (c : Int)] (.int .u64 0) rfl rfl rfl ?_) | (refine ext rfl (.tmp 12) 1 [.int .u64 0, .int .u64 (c : Int)] (.int .u64 (c : Int)) rfl rfl rfl ?_) | (refine mkI (o := ⟨some 30, _, _, _, _, _⟩) rfl (.tmp 29) (.tmp 29) rfl c _ _ rfl rfl rfl rfl hc ?_; intro w3 H3) | (refine wpList_copy_splice (o := ⟨some 33, _, _, _, _, _⟩) rfl (.tmp 31) (.tmp 32) 23 23 rfl 3 Try.underlying23 (by kernel_rfl) (some ⟨w.heap.size, 0, none⟩) (some ⟨p, 0, none⟩) c c 1 1 rfl rfl w.heap.size 0 (ng c 0) 3 H3.out.2 (neg 1) (cpN hc1) (cpS HP.out H3.out.1) (cpL hc1) (neg_one 1) w.heap.size w H3.out.1 (Nat.le_refl _) ?_; intro w4 H4 hb4; have H5 := Lib.hid (rp_first H4 hb4 hc1); clear H4 hb4))
  go_loopw [8] (fun i wr => ∃ k : Nat, 1 ≤ k ∧ k ≤ c ∧ i = .int .i64 k ∧ Hid (RpI w wr c k)) (fun i _ => c - (intOf i).toNat)
  case atStart => exact ⟨1, by omega, hc1, by simp [neg], H5⟩
  case round =>
    obtain ⟨k, hk1, hk, rfl, HI⟩ := hrel
    by_cases hlt : k < c
    · have k1 : (k : Int) < (c : Int) := by omega
      have k0 : 0 ≤ (k : Int) := by omega
      have k2 : (k : Int) ≤ (c : Int) := by omega
      have kne : ¬ c = k := by omega
      obtain ⟨m, w4, hm0, hm1, hrun, H5⟩ := rp_copy HI.out hk1 hlt
      go_wp2_with fail
      go_region
      all_goals (try go_wp2)
      all_goals go_roundw
      case rel => exact ⟨k + m, by omega, hm1, by go_num, H5⟩
      case measure => simp [intOf]; omega
    · obtain rfl : k = c := by omega
      clear hlt
      go_wp2_with fail
      go_ret
      exact ⟨rfl, HI.out⟩
/-- A table of c empty slots. -/
def TbP (w : World) (c : Nat) (e : Ending) (w' : World) : Prop := ∃ g, e = .returned (.agg #[.slice (some ⟨g, 0, none⟩) c c, .slice none 0 0]) ∧ Below w.heap.size w w' ∧ w.heap.size ≤ g ∧ w'.heap[g]? = some (.cells (neg c).toArray 3 (0, 0))
theorem tb_of {w w' : World} {o o' : Obj} {c : Nat} (h : RpI ((w.alloc o).alloc o') w' c c) : Below w.heap.size w w' ∧ w'.heap[w.heap.size + 2]? = some (.cells (neg c).toArray 3 (0, 0)) := by
  obtain ⟨h1, h2⟩ := h
  have e : ((w.alloc o).alloc o').heap.size = w.heap.size + 2 := by simp
  rw [e, ng_all] at h2
  refine ⟨?_, h2⟩
  have hb : Below w.heap.size w ((w.alloc o).alloc o') := ((Below.refl _ _).alloc (Nat.le_refl _) _).alloc (by simp) _
  exact hb.trans (h1.mono (by simp; omega))
theorem tb_blk {w w' : World} {t : TypeId} {cs : Array Value} {o' : Obj} {c : Nat} (h : RpI ((w.alloc (.cells cs t)).alloc o') w' c c) : Blk w' w.heap.size t cs := by
  refine Blk.below (((Blk.newest w t cs)).alloc o') h.1 (by simp; omega)
theorem two_set {w : World} {g : Nat} {t : TypeId} {a b : Value} (h : Blk w g t #[a, b]) (x y : Value) : Blk ((w.setCell ⟨g, 0, none⟩ x).setCell ⟨g, 1, none⟩ y) g t #[x, y] := ((h.set 0 x).set 1 y).same (by simp)
theorem nw_of {w w' : World} {o : Obj} {g : Nat} {x : Option Obj} (h : Below (w.alloc o).heap.size (w.alloc o) w' ∧ (w.alloc o).heap.size ≤ g ∧ w'.heap[g]? = x) : Below w.heap.size w w' ∧ w.heap.size + 1 ≤ g ∧ w'.heap[g]? = x := by
  obtain ⟨h1, h2, h3⟩ := h
  have e : (w.alloc o).heap.size = w.heap.size + 1 := by simp
  rw [e] at h1 h2
  exact ⟨((Below.refl _ _).alloc (Nat.le_refl _) o).trans (h1.mono (by omega)), h2, h3⟩
theorem nw_blk {w w' : World} {t : TypeId} {cs : Array Value} {g : Nat} {x : Option Obj} (h : Below (w.alloc (.cells cs t)).heap.size (w.alloc (.cells cs t)) w' ∧ (w.alloc (.cells cs t)).heap.size ≤ g ∧ w'.heap[g]? = x) : Blk w' w.heap.size t cs :=
  Blk.below (Blk.newest w t cs) h.1 (by simp)
set_option maxHeartbeats 2000000 in
theorem emptyTable_any (c : Nat) (w : World) (hc1 : 1 ≤ c) (hc : c ≤ 1048576) : Calls Try.prog 80 #[.int .i64 (c : Int)] w (TbP w c) := by
  have HR := Lib.hid (fun (p : Nat) w hp => repeat_any p c w hp hc1 hc)
  go_enter Try.func80, Try.ntmps80
  go_wp2_with fail
  refine (HR.out _ _ ?_).mono ?_
  · rw [World.cell?_alloc_at _ _ _ _ (by simp)]; rfl
  rintro e w' ⟨rfl, h⟩
  have HT := Lib.hid (tb_of h)
  have HB := Lib.hid (tb_blk h)
  have c0 := HB.out.cell 0
  have c1 := HB.out.cell 1
  have f0 := HB.out.free 0
  have f1 := HB.out.free 1
  clear h
  go_wp2_with fail
  have HZ := Lib.hid (two_set HB.out (.slice (some ⟨w.heap.size + 1 + 1, 0, none⟩) c c) (.slice none 0 0))
  exact bodyPost_ret (v := .agg #[.slice (some ⟨w.heap.size + 1 + 1, 0, none⟩) c c, .slice none 0 0]) (results_cell_row rfl _ _ w.heap.size 54 _ (0, 0) _ rfl HZ.out Try.underlying54 rfl (by kernel_rfl)) rfl ⟨_, rfl, (HT.out.1.setCell (Nat.le_refl _) _).setCell (Nat.le_refl _) _, by omega, Blk.setOff (Blk.setOff HT.out.2 (by omega)) (by omega)⟩
set_option maxHeartbeats 2000000 in
theorem implNew_any (w : World) : Calls Try.prog 45 #[] w (TbP w 8) := by
  have HR := Lib.hid (fun w => emptyTable_any 8 w (by omega) (by omega))
  go_enter Try.func45, Try.ntmps45
  go_wp2_with fail
  refine (HR.out _).mono ?_
  rintro e w' ⟨g, rfl, h⟩
  have HT := Lib.hid (nw_of h)
  have HB := Lib.hid (nw_blk h)
  have c0 := HB.out.cell 0
  have c1 := HB.out.cell 1
  have f0 := HB.out.free 0
  have f1 := HB.out.free 1
  clear h
  go_wp2_with fail
  have HZ := Lib.hid (two_set HB.out (.slice (some ⟨g, 0, none⟩) 8 8) (.slice none 0 0))
  exact bodyPost_ret (v := .agg #[.slice (some ⟨g, 0, none⟩) 8 8, .slice none 0 0]) (results_cell_row rfl _ _ w.heap.size 26 _ (0, 0) _ rfl HZ.out Try.underlying26 rfl (by kernel_rfl)) rfl ⟨g, rfl, (HT.out.1.setCell (Nat.le_refl _) _).setCell (Nat.le_refl _) _, by have := HT.out.2.1; omega, Blk.setOff (Blk.setOff HT.out.2.2 (by have := HT.out.2.1; omega)) (by have := HT.out.2.1; omega)⟩
/-- While the model's slots are laid. -/
def NxI (w wr : World) (v : Value) (k : Nat) : Prop := Below w.heap.size w wr ∧ Own wr w.heap.size 3 v (neg k)
theorem nx_next {w wr w' : World} {v v' : Value} {k : Nat} (h : NxI w wr v k) (ho : Own w' w.heap.size 3 v' (neg k ++ [.int .i64 (-1)])) (hb : Below w.heap.size wr w') : NxI w w' v' (k + 1) := by
  refine ⟨h.1.trans hb, ?_⟩
  have e : neg k ++ [.int .i64 (-1)] = neg (k + 1) := by unfold neg; rw [List.replicate_succ']
  rw [← e]; exact ho
def NxP (w : World) (c : Nat) (e : Ending) (w' : World) : Prop := ∃ v, e = .returned v ∧ NxI w w' v c
set_option maxHeartbeats 2000000 in
theorem newIndex_any (c : Nat) (w : World) (hc : c ≤ 1048576) : Calls Try.prog 81 #[.int .i64 (c : Int)] w (NxP w c) := by
  have H0 := Lib.hid (show NxI w (w.alloc (Obj.cells #[] 3)) (.slice (some ⟨w.heap.size, 0, none⟩) 0 0) 0 from ⟨(Below.refl _ _).alloc (Nat.le_refl _) _, World.ownsRow_lit w #[] 0 (Nat.le_refl _) (by decide) rfl⟩)
  go_enter Try.func81, Try.ntmps81
  go_wp2_with fail
  go_loopw [3, 4] (fun v i wr => ∃ k : Nat, k ≤ c ∧ i = .int .i64 k ∧ Hid (NxI w wr v k)) (fun _ i _ => c - (intOf i).toNat)
  case atStart => exact ⟨0, by omega, rfl, H0⟩
  case round =>
    obtain ⟨k, hk, rfl, HI⟩ := hrel
    by_cases hlt : k < c
    · have HZ := Lib.hid (show w.heap.size ≤ wr.heap.size from HI.out.1.size)
      go_wp2_with (first | (refine app1 rfl (.tmp 11) (.tmp 12) 23 3 (.int .i64 0) 8 rfl Try.underlying23 (by kernel_rfl) rfl (by decide) wr wr _ rfl w.heap.size _ _ rfl rfl HI.out.2 rfl ?_ HZ.out (Below.refl _ _) ?_; (rw [neg_len]; omega); intro v2 w2 ho hb2 _; have HT := Lib.hid (nx_next HI.out ho hb2); clear ho hb2))
      go_roundw
      case rel => exact ⟨k + 1, by omega, by go_num, HT⟩
      case measure => simp [intOf]; try omega
    · obtain rfl : k = c := by omega
      clear hlt
      go_wp2_with fail
      go_ret
      exact ⟨_, rfl, HI.out⟩
/-- The model's new dictionary. -/
def SdP (w : World) (c : Nat) (e : Ending) (w' : World) : Prop := ∃ g cap, e = .returned (.agg #[.slice (some ⟨g, 0, none⟩) c cap, .slice none 0 0]) ∧ Below w.heap.size w w' ∧ w.heap.size ≤ g ∧ g < w'.heap.size ∧ Ci w' g (List.replicate c (-1))
theorem nx_end {w w' : World} {v : Value} {c : Nat} (h : NxI w w' v c) (hc : 1 ≤ c) : ∃ g cap, v = .slice (some ⟨g, 0, none⟩) c cap ∧ Below w.heap.size w w' ∧ w.heap.size ≤ g ∧ g < w'.heap.size ∧ Ci w' g (List.replicate c (-1)) := by
  rcases Own.form h.2 with ⟨_, h2⟩ | ⟨g, cap, h1, h2, h3, _, h5⟩
  · have := neg_len c; rw [h2] at this; simp at this; omega
  · rw [neg_len] at h1
    refine ⟨g, cap, h1, h.1, h2, h3, fun j i hj => h5 j _ ?_⟩
    unfold neg
    rw [List.getElem?_replicate] at hj ⊢
    by_cases hjc : j < c
    · rw [if_pos hjc] at hj ⊢; injection hj with hj; rw [← hj]
    · rw [if_neg hjc] at hj; cases hj
set_option maxHeartbeats 2000000 in
theorem specNew_any (w : World) : Calls Try.prog 46 #[] w (SdP w 8) := by
  have HR := Lib.hid (fun w => newIndex_any 8 w (by omega))
  go_enter Try.func46, Try.ntmps46
  go_wp2_with fail
  refine (HR.out _).mono ?_
  rintro e w' ⟨v, rfl, h⟩
  have HB := Lib.hid (Blk.below (Blk.newest w _ _) h.1 (by simp))
  obtain ⟨g, cap, rfl, hb, hg, hg2, hc⟩ := nx_end h (by omega)
  clear h
  have HT := Lib.hid (nw_of ⟨hb, hg, rfl⟩)
  have HG := Lib.hid hg2
  have HC := Lib.hid hc
  have c0 := HB.out.cell 0
  have c1 := HB.out.cell 1
  have f0 := HB.out.free 0
  have f1 := HB.out.free 1
  clear hb hg hg2 hc
  go_wp2_with fail
  have HZ := Lib.hid (two_set HB.out (.slice (some ⟨g, 0, none⟩) 8 cap) (.slice none 0 0))
  exact bodyPost_ret (v := .agg #[.slice (some ⟨g, 0, none⟩) 8 cap, .slice none 0 0]) (results_cell_row rfl _ _ w.heap.size 26 _ (0, 0) _ rfl HZ.out Try.underlying26 rfl (by kernel_rfl)) rfl ⟨g, cap, rfl, (HT.out.1.setCell (Nat.le_refl _) _).setCell (Nat.le_refl _) _, by have := HT.out.2.1; omega, by simpa using HG.out, fun j i hj => by
    have hne : g ≠ w.heap.size := by have := HT.out.2.1; omega
    rw [World.cell?_of_block (w := w') (by rw [Below.heap_setCell _ _ _ _ hne, Below.heap_setCell _ _ _ _ hne])]
    exact HC.out j i hj⟩
end Go.Proofs.Ytibglmcpbbikdaa
