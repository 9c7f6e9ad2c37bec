/- A list of one number repeated. -/
import Derived.Test.YtplpgcbdbmfffaaInts
import Derived.Test.YtplpgcbdbmfffaaShelf
import Derived.Laws.CopyOwn
import Derived.Deep.RegionLaw
namespace Go.Proofs.Ytplpgcbdbmfffaa
open Go.RowKit
def neg (n : Nat) : List Value := List.replicate n (.int .i64 (-1))
def nul (n : Nat) : List Value := List.replicate n (.int .i64 0)
theorem neg_len (n : Nat) : (neg n).length = n := by simp [neg]
theorem nul_len (n : Nat) : (nul n).length = n := by simp [nul]
/-- The first k of c numbers are written. -/
def ng (c k : Nat) : List Value := neg k ++ nul (c - k)
theorem ng_len {c k : Nat} (h : k ≤ c) : (ng c k).length = c := by unfold ng; rw [List.length_append, neg_len, nul_len]; omega
theorem ng_zero (c : Nat) : nul c = ng c 0 := by simp [ng, neg]
theorem ng_all (c : Nat) : ng c c = neg c := by simp [ng, nul]
theorem ng_splice {c k m : Nat} (h : k + m ≤ c) : splice (ng c k) k (neg m) = ng c (k + m) := by
  unfold splice ng
  rw [List.take_left' (neg_len k), neg_len, List.drop_append, List.drop_eq_nil_of_le (by rw [neg_len]; omega), neg_len, List.nil_append, ← List.append_assoc]
  have e1 : neg k ++ neg m = neg (k + m) := by unfold neg; rw [List.replicate_append_replicate]
  have e2 : (nul (c - k)).drop (k + m - k) = nul (c - (k + m)) := by unfold nul; rw [List.drop_replicate]; congr 1; omega
  rw [e1, e2]
/-- While a row is filled. -/
def RpI (w wr : World) (c k : Nat) : Prop := Below w.heap.size w wr ∧ wr.heap[w.heap.size]? = some (.cells (ng c k).toArray 3 (0, 0))
theorem rp_src {w wr : World} {c k m : Nat} (h : RpI w wr c k) (hm : m ≤ k) : ∀ (j : Nat) (v : Value), (neg m)[j]? = some v → wr.cell? ((⟨w.heap.size, 0, none⟩ : Addr).add j) = some v := by
  intro j v hj
  have hjm : j < m := by
    rcases Nat.lt_or_ge j m with h2 | h2
    · exact h2
    · rw [List.getElem?_eq_none (by rw [neg_len]; exact h2)] at hj; cases hj
  have e := cell_of_row wr w.heap.size j (ng c k).toArray 3 (0, 0) h.2
  rw [addr_add, Nat.zero_add, e]
  unfold neg at hj
  rw [List.getElem?_replicate, if_pos hjm] at hj
  rw [← hj]
  unfold ng neg
  rw [List.getElem?_toArray, List.getElem?_append_left (by simp; omega), List.getElem?_replicate, if_pos (by omega)]
theorem neg_one (m : Nat) : ∀ v ∈ neg m, v.oneCell' = true := by
  intro v hv
  unfold neg at hv
  rw [List.eq_of_mem_replicate hv]; rfl
theorem own_block {w : World} {g n : Nat} {e : TypeId} {xs : List Value} (h : w.ownsRow g e 1 (.slice (some ⟨g, 0, none⟩) n n) n xs) : w.heap[g]? = some (.cells xs.toArray e (0, 0)) := by
  rcases h.2 with ⟨h1, _⟩ | ⟨g', cap, cur, hv, _, hh, _, _, hs, ht⟩
  · cases h1
  · injection hv with h1 h2 h3
    injection h1 with h1
    injection h1 with h1
    subst h1
    have e1 : cur.toList = xs := by rw [← ht, List.take_of_length_le]; rw [Array.length_toList, hs, h3]; exact Nat.le_refl _
    rw [← e1]; simpa using hh
theorem mulC (c : Nat) (hc : c ≤ 1048576) (w : World) : Calls Try.prog 105 #[.int .u64 1, .int .u64 (c : Int)] w fun e w' => e = .returned (.tuple #[.int .u64 0, .int .u64 (c : Int)]) ∧ w = w' := by
  refine (Try.bits_Mul 1 c (by omega) (by omega) w).mono ?_
  rintro e w' ⟨rfl, rfl⟩
  refine ⟨?_, rfl⟩
  rw [Nat.one_mul, Nat.div_eq_of_lt (by omega), Nat.mod_eq_of_lt (by omega)]; rfl
theorem cpN {c : Nat} (h : 1 ≤ c) : (neg 1).length = Nat.min 1 c := by rw [neg_len]; exact (Nat.min_eq_left h).symm
theorem cpL {c : Nat} (h : 1 ≤ c) : 0 + (neg 1).length ≤ (ng c 0).length := by rw [neg_len, ng_len (Nat.zero_le _)]; omega
theorem cpS {w w3 : World} {p : Nat} (h : w.cell? ⟨p, 0, none⟩ = some (.int .i64 (-1))) (hb : Below w.heap.size w w3) (_ : 0 < (neg 1).length) : (some ⟨w.heap.size, 0, none⟩ : Option Addr) = some ⟨w.heap.size, 0, none⟩ ∧ ∃ ad, (some ⟨p, 0, none⟩ : Option Addr) = some ad ∧ ∀ (j : Nat) (v : Value), (neg 1)[j]? = some v → w3.cell? (ad.add j) = some v := by
  refine ⟨rfl, _, rfl, ?_⟩
  intro j v hj
  obtain rfl : j = 0 := by
    rcases Nat.lt_or_ge j 1 with h2 | h2
    · omega
    · rw [List.getElem?_eq_none (by rw [neg_len]; exact h2)] at hj; cases hj
  rw [addr_add, hb.cell (World.block_lt_of_cell? w _ h), h, ← hj]
  rfl
theorem rp_first {w w4 : World} {c : Nat} (h : Hid (w4.heap[w.heap.size]? = some (.cells (splice (ng c 0) 0 (neg 1)).toArray 3 (0, 0)))) (hb : Below w.heap.size w w4) (hc : 1 ≤ c) : RpI w w4 c 1 := by
  refine ⟨hb, ?_⟩
  have e : splice (ng c 0) 0 (neg 1) = ng c 1 := ng_splice (by omega)
  rw [← e]; exact h.out
theorem RpI.drew {w wr : World} {c k : Nat} (h : RpI w wr c k) : RpI w wr.drew c k := ⟨⟨h.1.os, h.1.tape, h.1.output, h.1.size, h.1.block⟩, h.2⟩
theorem rp_min {k c m : Nat} (h : m = Nat.min k (c - k)) (h1 : 1 ≤ k) (h2 : k < c) : m ≤ k ∧ k + m ≤ c ∧ 1 ≤ m := by
  have e : m = min k (c - k) := h
  omega
theorem rp_step {w w4 : World} {c k m : Nat} (h : Hid (w4.heap[w.heap.size]? = some (.cells (splice (ng c k) k (neg m)).toArray 3 (0, 0)))) (hb : Below w.heap.size w w4) (hc : k + m ≤ c) : RpI w w4 c (k + m) := by
  refine ⟨hb, ?_⟩
  rw [← ng_splice hc]; exact h.out
theorem rp_copy {w wr : World} {c k : Nat} (h : RpI w wr c k) (h1 : 1 ≤ k) (h2 : k < c) : ∃ (m : Nat) (w4 : World), 1 ≤ m ∧ k + m ≤ c ∧ Sem.run Try.prog (Builtin.copy_ #[24, 24] 3 #[Value.slice (some { block := w.heap.size, off := k }) (c - k) (c - k), Value.slice (some { block := w.heap.size, off := 0 }) k c]) wr.drew = Result.ok (Value.int .i64 (m : Int)) w4 ∧ Hid (RpI w w4 c (k + m)) := by
  have hmm := rp_min rfl h1 h2
  have hr := run_copy_row (P := Try.prog) wr.drew 24 24 3 3 w.heap.size k (c - k) (c - k) ⟨w.heap.size, 0, none⟩ k c (ng c k).toArray 3 (neg (Nat.min k (c - k))) Try.underlying24 (by kernel_rfl) h.2 (by rw [neg_len]) (rp_src h.drew hmm.1) (by rw [neg_len, List.size_toArray, ng_len (by omega)]; exact hmm.2.1) (neg_one _)
  refine ⟨Nat.min k (c - k), wr.drew.setRow w.heap.size (splice (ng c k) k (neg (Nat.min k (c - k)))).toArray, hmm.2.2, hmm.2.1, ?_, Lib.hid (rp_step (Lib.hid (setRow_heap wr.drew w.heap.size _ _ 3 _ h.2)) (below_setRow h.drew.1 (Nat.le_refl _)) hmm.2.1)⟩
  rw [hr, neg_len]
  simp [splice, goInt, neg_len]
/-- 'make([]int, n)'. -/
theorem mkI {ops : Array Oper} {rest : List Oper} {o : Oper} {a : Act} {w : World} {Q : Exit → Act → World → Prop} (hg : o.guard = none) (l c : Operand) (hop : o.op = Op.makeSlice 24 l c) (n : Nat) (L C : Int) (hl : a.eval l = .int .i64 L) (hc : a.eval c = .int .i64 C) (hL : L = (n : Int)) (hC : C = (n : Int)) (hn : n ≤ 1048576)
    (hK : ∀ w', Hid (RpI w w' n 0) → wpList Try.prog ops Q rest (a.put o.dst (.slice (some ⟨w.heap.size, 0, none⟩) n n)) w') : wpList Try.prog ops Q (o :: rest) a w := by
  obtain ⟨i, hi1, hi2, hi3, hi4⟩ := info_of (P := Try.prog) (e := 3) (z := .int .i64 0) (s := 1) (b := 8) (by kernel_rfl)
  refine wpList_make_full w hg l c 24 hop w.heap.size 3 i (.int .i64 0) 1 Try.underlying24 hi1 hi2 hi3 .i64 .i64 L C n hl hc hL hC (by rw [hi4]; omega) (by unfold maxLen; omega) (Nat.le_refl _) ?_
  intro w' ho hgr
  refine hK w' (Lib.hid ⟨(Below.refl _ _).grown hgr (Nat.le_refl _) (fun k hk => by cases hk), ?_⟩)
  have e : (madeCells (Value.int .i64 0).cells (n * 1)).toList = nul n := by
    rw [show (Value.int .i64 0).cells = #[Value.int .i64 0] from rfl, toList_madeCells_one, Nat.mul_one]; rfl
  rw [e, ng_zero] at ho
  exact own_block ho
set_option maxHeartbeats 2000000 in
set_option maxRecDepth 20000 in
theorem repeat_any (p c : Nat) (w : World) (hp : w.cell? ⟨p, 0, none⟩ = some (.int .i64 (-1))) (hc1 : 1 ≤ c) (hc : c ≤ 1048576) :
    Calls Try.prog 88 #[.slice (some ⟨p, 0, none⟩) 1 1, .int .i64 (c : Int)] w fun e w' => e = .returned (.slice (some ⟨w.heap.size, 0, none⟩) c c) ∧ RpI w w' c c := by
  have HP := Lib.hid hp
  have HM := Lib.hid (mulC c hc)
  clear hp
  go_enter Try.func88, Try.ntmps88
  go_wp2_with fail
  refine (HM.out _).mono ?_
  rintro e w' ⟨rfl, rfl⟩
  go_wp2_with (first | (refine ext rfl (.tmp 12) 0 [.int .u64 0, .int .u64 (c : Int)] (.int .u64 0) rfl rfl rfl ?_) | (refine ext rfl (.tmp 12) 1 [.int .u64 0, .int .u64 (c : Int)] (.int .u64 (c : Int)) rfl rfl rfl ?_) | (refine mkI (o := ⟨some 30, _, _, _, _, _⟩) rfl (.tmp 29) (.tmp 29) rfl c _ _ rfl rfl rfl rfl hc ?_; intro w3 H3) | (refine wpList_copy_splice (o := ⟨some 33, _, _, _, _, _⟩) rfl (.tmp 31) (.tmp 32) 24 24 rfl 3 Try.underlying24 (by kernel_rfl) (some ⟨w.heap.size, 0, none⟩) (some ⟨p, 0, none⟩) c c 1 1 rfl rfl w.heap.size 0 (ng c 0) 3 H3.out.2 (neg 1) (cpN hc1) (cpS HP.out H3.out.1) (cpL hc1) (neg_one 1) w.heap.size w H3.out.1 (Nat.le_refl _) ?_; intro w4 H4 hb4; have H5 := Lib.hid (rp_first H4 hb4 hc1); clear H4 hb4))
  go_loopw [8] (fun i wr => ∃ k : Nat, 1 ≤ k ∧ k ≤ c ∧ i = .int .i64 k ∧ Hid (RpI w wr c k)) (fun i _ => c - (intOf i).toNat)
  case atStart => exact ⟨1, by omega, hc1, by simp [neg], H5⟩
  case round =>
    obtain ⟨k, hk1, hk, rfl, HI⟩ := hrel
    by_cases hlt : k < c
    · have k1 : (k : Int) < (c : Int) := by omega
      have k0 : 0 ≤ (k : Int) := by omega
      have k2 : (k : Int) ≤ (c : Int) := by omega
      have kne : ¬ c = k := by omega
      obtain ⟨m, w4, hm0, hm1, hrun, H5⟩ := rp_copy HI.out hk1 hlt
      go_wp2_with fail
      go_region
      all_goals (try go_wp2)
      all_goals go_roundw
      case rel => exact ⟨k + m, by omega, hm1, by go_num, H5⟩
      case measure => simp [intOf]; omega
    · obtain rfl : k = c := by omega
      clear hlt
      go_wp2_with fail
      go_ret
      exact ⟨rfl, HI.out⟩
end Go.Proofs.Ytplpgcbdbmfffaa
