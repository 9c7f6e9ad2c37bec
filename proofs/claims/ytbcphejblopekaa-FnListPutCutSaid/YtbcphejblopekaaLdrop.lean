/- What is left of a list without what a slice selects: the model's, the program's. -/
import Derived.Test.YtbcphejblopekaaLcut
namespace Go.Proofs.Ytbcphejblopekaa
open Go.RowKit
def bo (l : List Bool) : List Value := l.map Value.bool
theorem bo_len (l : List Bool) : (bo l).length = l.length := by simp [bo]
theorem bo_get {l : List Bool} {j : Nat} {i : Bool} (h : l[j]? = some i) : (bo l)[j]? = some (.bool i) := by simp [bo, h]
/-- A list of bools of the call's own. -/
def OwB (w : World) (b : Nat) (v : Value) (l : List Bool) : Prop := Own w b 4 v (bo l)
theorem OwB.row {w : World} {b g n cap : Nat} {l : List Bool} (h : OwB w b (.slice (some ⟨g, 0, none⟩) n cap) l) : l.length = n ∧ w.ownsRow b 4 1 (.slice (some ⟨g, 0, none⟩) n cap) n (bo l) := by
  have hn : (bo l).length = n := by
    rcases Own.form h with ⟨h2, _⟩ | ⟨g', cap', h2, _⟩
    · cases h2
    · injection h2 with _ h2 _
      exact h2.symm
  have h1 : w.ownsRow b 4 1 (.slice (some ⟨g, 0, none⟩) n cap) (bo l).length (bo l) := h
  rw [hn] at h1
  rw [bo_len] at hn
  exact ⟨hn, h1⟩
theorem OwB.cellAt {w : World} {b g n cap k : Nat} {l : List Bool} {i : Bool} (h : OwB w b (.slice (some ⟨g, 0, none⟩) n cap) l) (hi : l[k]? = some i) : w.cell? ⟨g, k, none⟩ = some (.bool i) ∧ w.frozen? ⟨g, k, none⟩ = false := by
  rcases Own.form h with ⟨h2, _⟩ | ⟨g', cap', h2, _, _, _, h5⟩
  · cases h2
  · injection h2 with h2 _ _
    injection h2 with h2
    injection h2 with h2
    subst h2
    exact ⟨h5 k _ (bo_get hi), World.ownsRow.frozenAt h.row.2 k⟩
theorem OwB.stored {w : World} {b g n cap : Nat} {l : List Bool} (h : OwB w b (.slice (some ⟨g, 0, none⟩) n cap) l) (k : Nat) (i : Bool) : OwB (w.setCell ⟨g, k, none⟩ (.bool i)) b (.slice (some ⟨g, 0, none⟩) n cap) (l.set k i) := by
  have h1 := (World.ownsRow.stored h.row.2 k (.bool i)).1
  have e : (bo l).set k (.bool i) = bo (l.set k i) := by unfold bo; rw [List.map_set]
  rw [e] at h1
  unfold OwB Own
  rw [bo_len, List.length_set, h.row.1]
  exact h1
theorem OwB.below {w w' : World} {b : Nat} {v : Value} {l : List Bool} (h : OwB w b v l) (hb : Below w.heap.size w w') : OwB w' b v l := World.ownsRow.kept h (below_grown (row := none) hb) (by cases v.ownBlock <;> simp)
theorem OwB.lt {w : World} {b g n cap : Nat} {l : List Bool} (h : OwB w b (.slice (some ⟨g, 0, none⟩) n cap) l) : b ≤ g ∧ g < w.heap.size := World.ownsRow.lt h g rfl
theorem OwB.keep {w w' : World} {b B g n cap : Nat} {l : List Bool} (h : OwB w b (.slice (some ⟨g, 0, none⟩) n cap) l) (hb : Below B w w') (hg : g < B) : OwB w' b (.slice (some ⟨g, 0, none⟩) n cap) l := by
  obtain ⟨h1, h2⟩ := h
  refine ⟨h1, ?_⟩
  rcases h2 with ⟨h2, _⟩ | ⟨g', cap', cur, hv, hb1, hh, rest⟩
  · cases h2
  · injection hv with hv1 hv2 hv3
    injection hv1 with hv1
    injection hv1 with hv1
    subst hv1 hv2 hv3
    exact .inr ⟨_, _, cur, rfl, hb1, (hb.block _ hg).trans hh, rest⟩
theorem OwI.keep {w w' : World} {b B g n cap : Nat} {is : List Int} (h : OwI w b (.slice (some ⟨g, 0, none⟩) n cap) is) (hb : Below B w w') (hg : g < B) : OwI w' b (.slice (some ⟨g, 0, none⟩) n cap) is := by
  obtain ⟨h1, h2⟩ := h
  refine ⟨h1, ?_⟩
  rcases h2 with ⟨h2, _⟩ | ⟨g', cap', cur, hv, hb1, hh, rest⟩
  · cases h2
  · injection hv with hv1 hv2 hv3
    injection hv1 with hv1
    injection hv1 with hv1
    subst hv1 hv2 hv3
    exact .inr ⟨_, _, cur, rfl, hb1, (hb.block _ hg).trans hh, rest⟩
theorem OwB.wide {w : World} {b b' : Nat} {v : Value} {l : List Bool} (h : OwB w b v l) (hb : b' ≤ b) : OwB w b' v l := by
  obtain ⟨h1, h2⟩ := h
  refine ⟨h1, ?_⟩
  rcases h2 with h2 | ⟨g, cap, cur, hv, hg, rest⟩
  · exact .inl h2
  · exact .inr ⟨g, cap, cur, hv, Nat.le_trans hb hg, rest⟩
/-- 'make([]bool, n)'. -/
theorem mkBo {ops : Array Oper} {rest : List Oper} {o : Oper} {a : Act} {w : World} {Q : Exit → Act → World → Prop} (hg : o.guard = none) (l c : Operand) (hop : o.op = Op.makeSlice 52 l c) (n : Nat) (L C : Int) (hl : a.eval l = .int .i64 L) (hc : a.eval c = .int .i64 C) (hL : L = (n : Int)) (hC : C = (n : Int)) (hn : n ≤ 1048576)
    (hK : ∀ w', OwB w' w.heap.size (.slice (some ⟨w.heap.size, 0, none⟩) n n) (List.replicate n false) → Below w.heap.size w w' → wpList Try.prog ops Q rest (a.put o.dst (.slice (some ⟨w.heap.size, 0, none⟩) n n)) w') : wpList Try.prog ops Q (o :: rest) a w := by
  obtain ⟨i, hi1, hi2, hi3, hi4⟩ := info_of (P := Try.prog) (e := 4) (z := .bool false) (s := 1) (b := 1) (by kernel_rfl)
  refine wpList_make_full w hg l c 52 hop w.heap.size 4 i (.bool false) 1 Try.underlying52 hi1 hi2 hi3 .i64 .i64 L C n hl hc hL hC (by rw [hi4]; omega) (by unfold maxLen; omega) (Nat.le_refl _) ?_
  intro w' ho hgr
  refine hK w' ?_ ((Below.refl _ _).grown hgr (Nat.le_refl _) (fun k hk => by cases hk))
  have e : (madeCells (Value.bool false).cells (n * 1)).toList = bo (List.replicate n false) := by
    rw [show (Value.bool false).cells = #[Value.bool false] from rfl, toList_madeCells_one, Nat.mul_one]; simp [bo]
  rw [e] at ho
  unfold OwB Own
  rw [bo_len, List.length_replicate]
  exact ho
def SeP (A st : Int) (n M : Nat) (w : World) (e : Ending) (w' : World) : Prop := ∃ g, e = .returned (.slice (some ⟨g, 0, none⟩) n n) ∧ OwB w' w.heap.size (.slice (some ⟨g, 0, none⟩) n n) (goneL A st n M) ∧ Below w.heap.size w w'
/-- While places are marked: what lay there before the marks were made, the marks. -/
def SeI (w2 wr : World) (A st : Int) (n k : Nat) : Prop := Below w2.heap.size w2 wr ∧ OwB wr w2.heap.size (.slice (some ⟨w2.heap.size, 0, none⟩) n n) (goneL A st n k)
theorem SeI.next {w2 wr : World} {A st : Int} {n k p : Nat} (h : SeI w2 wr A st n k) (he : A + (k : Int) * st = (p : Int)) : SeI w2 (wr.setCell ⟨w2.heap.size, p, none⟩ (.bool true)) A st n (k + 1) := by
  refine ⟨h.1.setCell (Nat.le_refl _) _, ?_⟩
  have h1 := h.2.stored p true
  rw [goneL_next he] at h1
  exact h1
theorem SeI.start {w2 w3 : World} {A st : Int} {n : Nat} (ho : OwB w3 w2.heap.size (.slice (some ⟨w2.heap.size, 0, none⟩) n n) (List.replicate n false)) (hb : Below w2.heap.size w2 w3) : SeI w2 w3 A st n 0 := ⟨hb, by rw [goneL_zero]; exact ho⟩
set_option maxHeartbeats 1000000 in
theorem selected_any (n : Nat) (f t st : Int) (hf ht : Bool) (A : Int) (M : Nat) (w : World) (hn : n ≤ 1000000) (_hst : -1000000 ≤ st ∧ st ≤ 1000000) (hA : -1 ≤ A ∧ A ≤ n) (hM : M ≤ n)
    (hin : ∀ k, k < M → ∃ p, p < n ∧ A + (k : Int) * st = (p : Int)) (hO : ∀ w, Calls Try.prog 45 #[.int .i64 n, .agg (cutC f t st hf ht)] w fun e w' => e = .returned (.tuple #[.int .i64 A, .int .i64 M]) ∧ Below w.heap.size w w') :
    Calls Try.prog 48 #[.int .i64 n, .agg (cutC f t st hf ht)] w (SeP A st n M w) := by
  have HO := Lib.hid hO
  have HIn := Lib.hid hin
  clear hO hin
  unfold cutC at *
  have HX := Lib.hid (show CutAt (w.alloc (Obj.cells #[.int .i64 f, .int .i64 t, .int .i64 st, .bool hf, .bool ht] 32)) w.heap.size f t st hf ht from Blk.new _ _ _ rfl)
  have HB := Lib.hid (show Below w.heap.size w (w.alloc (Obj.cells #[.int .i64 f, .int .i64 t, .int .i64 st, .bool hf, .bool ht] 32)) from (Below.refl _ _).alloc (Nat.le_refl _) _)
  go_enter Try.func48, Try.ntmps48
  go_wp2_with fail
  refine (HO.out _).mono ?_
  rintro e w2 ⟨rfl, hb2⟩
  have HX2 := Lib.hid (HX.out.below hb2 HX.out.lt)
  have HB2 := Lib.hid (HB.out.trans (hb2.mono HB.out.size))
  clear hb2
  go_wp2_with (first | (refine ext rfl (.tmp 9) 0 [.int .i64 A, .int .i64 M] (.int .i64 A) rfl rfl rfl ?_) | (refine ext rfl (.tmp 9) 1 [.int .i64 A, .int .i64 M] (.int .i64 M) rfl rfl rfl ?_) | (refine mkBo rfl (.tmp 15) (.tmp 15) rfl n _ _ rfl rfl rfl rfl (by omega) ?_; intro w3 ho hb3; have H0 := Lib.hid (show SeI w2 w3 A st n 0 from SeI.start ho hb3); clear ho hb3))
  have hlt2 := HX2.out.lt
  go_loopw [8] (fun i wr => ∃ k : Nat, k ≤ M ∧ i = .int .i64 k ∧ Hid (SeI w2 wr A st n k)) (fun i _ => M - (intOf i).toNat)
  case atStart => exact ⟨0, by omega, rfl, H0⟩
  case round =>
    obtain ⟨k, hk, rfl, HI⟩ := hrel
    by_cases hlt : k < M
    · obtain ⟨p, hp, he⟩ := HIn.out k hlt
      have c2 := (HX2.out.below HI.out.1 hlt2).cells.2.2.1
      obtain ⟨c5, f5⟩ := HI.out.2.cellAt (goneL_get (A := A) (st := st) (k := k) hp)
      have HT := Lib.hid (HI.out.next he)
      have hP1 : (k : Int) * st ≤ 1000001 := by omega
      have hP0 : -1000000 ≤ (k : Int) * st := by omega
      generalize gone A st k p = bb at *
      go_wp2_with fail
      go_roundw
      case rel => exact ⟨k + 1, by omega, by go_num, HT⟩
      case measure => simp [intOf]; try omega
    · obtain rfl : k = M := by omega
      clear hlt
      go_wp2_with fail
      go_ret
      exact ⟨_, rfl, HI.out.2.wide HB2.out.size, HB2.out.trans (HI.out.1.mono HB2.out.size)⟩
def dropL (is : List Int) (A st : Int) (M : Nat) (j : Nat) : List Int := restI is A st M j
theorem rest_in {is : List Int} {A st i : Int} {M j : Nat} (hi : is[j]? = some i) (hg : gone A st M j = false) : restI is A st M (j + 1) = restI is A st M j ++ [i] := by rw [restI_succ hi, hg]; rfl
theorem rest_out {is : List Int} {A st i : Int} {M j : Nat} (hi : is[j]? = some i) (hg : gone A st M j = true) : restI is A st M (j + 1) = restI is A st M j := by rw [restI_succ hi, hg]; simp
set_option maxHeartbeats 1000000 in
theorem specListDrop_ok (is : List Int) (v : Value) (f t st : Int) (hf ht : Bool) (A : Int) (M : Nat) (w : World) (h : RdI w v is) (h60 : is.length ≤ 60) (hc : okC f t st hf ht = true)
    (hO : ∀ w, Calls Try.prog 48 #[.int .i64 is.length, .agg (cutC f t st hf ht)] w (SeP A st is.length M w)) :
    Calls Try.prog 26 #[v, .agg (cutC f t st hf ht)] w (LiP (restI is A st M is.length) w) := by
  obtain ⟨a, cap, rfl, hcap, hnil, hat⟩ := h.sub
  have HA := Lib.hid hat
  have HO := Lib.hid hO
  have HV := Lib.hid (fun n w => validList_any n a cap w)
  have HC := Lib.hid (fun w => validCut_any f t st hf ht w)
  rw [hc] at HC
  clear h hat hnil hO hc
  obtain ⟨n, hn⟩ : ∃ n, n = is.length := ⟨_, rfl⟩
  have HN := Lib.hid hn
  rw [← hn] at hcap h60 HO ⊢
  clear hn
  have hd : decide (n ≤ 60) = true := decide_eq_true h60
  unfold cutC at *
  have HX := Lib.hid (show CutAt (w.alloc (Obj.cells #[.int .i64 f, .int .i64 t, .int .i64 st, .bool hf, .bool ht] 32)) w.heap.size f t st hf ht from Blk.new _ _ _ rfl)
  have HB := Lib.hid (show Below w.heap.size w (w.alloc (Obj.cells #[.int .i64 f, .int .i64 t, .int .i64 st, .bool hf, .bool ht] 32)) from (Below.refl _ _).alloc (Nat.le_refl _) _)
  go_enter Try.func26, Try.ntmps26
  go_wp2_with fail
  refine (HV.out _ _).mono ?_
  rintro e w' ⟨rfl, rfl⟩
  rw [hd]
  go_wp2_with fail
  refine (HC.out _).mono ?_
  rintro e w1 ⟨rfl, hb1⟩
  have HX1 := Lib.hid (HX.out.below hb1 HX.out.lt)
  have HB1 := Lib.hid (HB.out.trans (hb1.mono HB.out.size))
  clear hb1
  obtain ⟨c0, c1, c2, c3, c4⟩ := HX1.out.cells
  go_wp2_with fail
  refine (HO.out _).mono ?_
  rintro e w2 ⟨gs, rfl, ho2, hb2⟩
  have HS2 := Lib.hid ho2
  have HB2 := Lib.hid (HB1.out.trans (hb2.mono HB1.out.size))
  clear hb2 ho2 c0 c1 c2 c3 c4
  go_wp2_with fail
  have H0 := Lib.hid (show RmI w2 (w2.alloc (Obj.cells #[] 3)) (.slice (some ⟨w2.heap.size, 0, none⟩) 0 0) [] from ⟨(Below.refl _ _).alloc (Nat.le_refl _) _, World.ownsRow_lit w2 #[] 0 (Nat.le_refl _) (by decide) rfl⟩)
  go_loopw [6, 7] (fun v i wr => ∃ k : Nat, k ≤ n ∧ i = .int .i64 k ∧ Hid (RmI w2 wr v (restI is A st M k))) (fun _ i _ => n - (intOf i).toNat)
  case atStart => exact ⟨0, by omega, rfl, H0⟩
  case round =>
    obtain ⟨k, hk, rfl, HI⟩ := hrel
    by_cases hlt : k < n
    · obtain ⟨s, hs⟩ : ∃ s, is[k]? = some s := ⟨is[k]'(by have := HN.out; omega), List.getElem?_eq_getElem _⟩
      obtain ⟨x, rfl, hx⟩ := HA.out k s hs
      have c1 : wr.cell? (x.add k) = some (.int .i64 s) := by rw [HI.out.1.cell (Nat.lt_of_lt_of_le (World.block_lt_of_cell? w _ hx) HB2.out.size), HB2.out.cell (World.block_lt_of_cell? w _ hx)]; exact hx
      have c2 := ((HS2.out.below HI.out.1).cellAt (goneL_get (A := A) (st := st) (k := M) hlt)).1
      have HL := Lib.hid (show (restI is A st M k).length + 1 ≤ 1000000 by have := restI_le is A st M k; omega)
      have HZ := Lib.hid (show w2.heap.size ≤ wr.heap.size from HI.out.1.size)
      cases hq : gone A st M k with
      | false =>
        have HS := Lib.hid (rest_in hs hq)
        rw [hq] at c2
        clear hx hs hq
        go_wp2_with (first | (refine appI rfl (.tmp 32) (.tmp 37) rfl wr _ rfl w2.heap.size _ _ rfl rfl HI.out.2 HL.out HZ.out ?_; intro v3 w3 ho hb3; have HT := Lib.hid (show RmI w2 w3 v3 (restI is A st M (k + 1)) from ⟨HI.out.1.trans hb3, by rw [HS.out]; exact ho⟩); clear ho hb3))
        go_roundw
        case rel => exact ⟨k + 1, by omega, by go_num, HT⟩
        case measure => simp [intOf]; try omega
      | true =>
        have HT := Lib.hid (show RmI w2 wr _ (restI is A st M (k + 1)) from ⟨HI.out.1, by rw [rest_out hs hq]; exact HI.out.2⟩)
        rw [hq] at c2
        clear hx hs hq
        go_wp2_with fail
        go_roundw
        case rel => exact ⟨k + 1, by omega, by go_num, HT⟩
        case measure => simp [intOf]; try omega
    · obtain rfl : k = n := by omega
      clear hlt
      go_wp2_with fail
      go_ret
      exact ⟨_, rfl, HI.out.2.wide HB2.out.size, HB2.out.trans (HI.out.1.mono HB2.out.size)⟩
theorem specListDrop_no (is : List Int) (v : Value) (f t st : Int) (hf ht : Bool) (w : World) (h : RdI w v is) (hl : is.length ≤ 1048576) (hc : 60 < is.length ∨ okC f t st hf ht = false) :
    Calls Try.prog 26 #[v, .agg (cutC f t st hf ht)] w (LiP [] w) := by
  obtain ⟨a, cap, rfl, hcap, hnil, hat⟩ := h.sub
  have HV := Lib.hid (fun n w => validList_any n a cap w)
  have HC := Lib.hid (fun w => validCut_any f t st hf ht w)
  clear h hat hnil
  generalize is.length = n at *
  unfold cutC at *
  have HB := Lib.hid (show Below w.heap.size w (w.alloc (Obj.cells #[.int .i64 f, .int .i64 t, .int .i64 st, .bool hf, .bool ht] 32)) from (Below.refl _ _).alloc (Nat.le_refl _) _)
  by_cases h60 : 60 < n
  · have hd : decide (n ≤ 60) = false := decide_eq_false (by omega)
    clear hc
    go_enter Try.func26, Try.ntmps26
    go_wp2_with fail
    refine (HV.out _ _).mono ?_
    rintro e w' ⟨rfl, rfl⟩
    rw [hd]
    go_wp2_with fail
    go_ret
    exact LiP.nil HB.out
  · have hd : decide (n ≤ 60) = true := decide_eq_true (by omega)
    have hq : okC f t st hf ht = false := hc.resolve_left h60
    rw [hq] at HC
    clear hc hq
    go_enter Try.func26, Try.ntmps26
    go_wp2_with fail
    refine (HV.out _ _).mono ?_
    rintro e w' ⟨rfl, rfl⟩
    rw [hd]
    go_wp2_with fail
    refine (HC.out _).mono ?_
    rintro e w1 ⟨rfl, hb1⟩
    have HB1 := Lib.hid (HB.out.trans (hb1.mono HB.out.size))
    clear hb1
    go_wp2_with fail
    go_ret
    exact LiP.nil HB1.out
theorem implListDrop_no (is : List Int) (v : Value) (f t st : Int) (hf ht : Bool) (w : World) (h : RdI w v is) (hl : is.length ≤ 1048576) (hc : 60 < is.length ∨ okC f t st hf ht = false) :
    Calls Try.prog 27 #[v, .agg (cutC f t st hf ht)] w (LiP [] w) := by
  obtain ⟨a, cap, rfl, hcap, hnil, hat⟩ := h.sub
  have HC := Lib.hid (fun w => cutOk_any f t st hf ht w)
  clear h hat hnil
  generalize is.length = n at *
  unfold cutC at *
  have HB := Lib.hid (show Below w.heap.size w (w.alloc (Obj.cells #[.int .i64 f, .int .i64 t, .int .i64 st, .bool hf, .bool ht] 32)) from (Below.refl _ _).alloc (Nat.le_refl _) _)
  by_cases h60 : 60 < n
  · clear hc
    go_enter Try.func27, Try.ntmps27
    go_wp2_with fail
    go_ret
    exact LiP.nil HB.out
  · have hq : okC f t st hf ht = false := hc.resolve_left h60
    rw [hq] at HC
    clear hc hq
    go_enter Try.func27, Try.ntmps27
    go_wp2_with fail
    refine (HC.out _).mono ?_
    rintro e w1 ⟨rfl, hb1⟩
    have HB1 := Lib.hid (HB.out.trans (hb1.mono HB.out.size))
    clear hb1
    go_wp2_with fail
    go_ret
    exact LiP.nil HB1.out
/-- .. while the program marks: the list of places stays. -/
def SfI (w2 wr : World) (A st : Int) (n M gp k : Nat) : Prop := SeI w2 wr A st n k ∧ OwI wr (w2.heap.size + 1) (.slice (some ⟨gp, 0, none⟩) M M) (plL A st M)
theorem SfI.next {w2 wr : World} {A st : Int} {n M gp k p : Nat} (h : SfI w2 wr A st n M gp k) (he : A + (k : Int) * st = (p : Int)) : SfI w2 (wr.setCell ⟨w2.heap.size, p, none⟩ (.bool true)) A st n M gp (k + 1) := by
  refine ⟨h.1.next he, h.2.grown (row := some w2.heap.size) ⟨rfl, rfl, rfl, by simp, fun j _ hj => heap_setCell_other _ ⟨w2.heap.size, p, none⟩ j _ (fun e => hj (by simp [e]))⟩ (.inr fun hq => ?_)⟩
  have := (h.2.lt gp rfl).1
  have : gp = w2.heap.size := by simpa [Value.ownBlock] using hq
  omega
theorem sf_start {w2 w3 w4 : World} {A st : Int} {n M gp : Nat} (h : SeI w2 w3 A st n 0) (ho : OwI w4 w3.heap.size (.slice (some ⟨gp, 0, none⟩) M M) (plL A st M)) (hb : Below w3.heap.size w3 w4) : SfI w2 w4 A st n M gp 0 := by
  have hlt := (h.2.lt).2
  exact ⟨⟨h.1.trans (hb.mono h.1.size), h.2.below hb⟩, ho.wide (by omega)⟩
set_option maxHeartbeats 1000000 in
theorem implListDrop_ok (is : List Int) (v : Value) (f t st : Int) (hf ht : Bool) (A : Int) (M : Nat) (w : World) (h : RdI w v is) (h60 : is.length ≤ 60) (hc : okC f t st hf ht = true) (hM : M ≤ is.length)
    (hin : ∀ k, k < M → ∃ p, p < is.length ∧ A + (k : Int) * st = (p : Int)) (hP : ∀ w, Calls Try.prog 47 #[.int .i64 is.length, .agg (cutC f t st hf ht)] w (PlP A st M w)) :
    Calls Try.prog 27 #[v, .agg (cutC f t st hf ht)] w (LiP (restI is A st M is.length) w) := by
  obtain ⟨a, cap, rfl, hcap, hnil, hat⟩ := h.sub
  have HA := Lib.hid hat
  have HP := Lib.hid hP
  have HIn := Lib.hid hin
  have HC := Lib.hid (fun w => cutOk_any f t st hf ht w)
  rw [hc] at HC
  clear h hat hnil hP hin hc
  obtain ⟨n, hn⟩ : ∃ n, n = is.length := ⟨_, rfl⟩
  have HN := Lib.hid hn
  rw [← hn] at hcap h60 hM HP HIn ⊢
  clear hn
  unfold cutC at *
  have HX := Lib.hid (show CutAt (w.alloc (Obj.cells #[.int .i64 f, .int .i64 t, .int .i64 st, .bool hf, .bool ht] 32)) w.heap.size f t st hf ht from Blk.new _ _ _ rfl)
  have HB := Lib.hid (show Below w.heap.size w (w.alloc (Obj.cells #[.int .i64 f, .int .i64 t, .int .i64 st, .bool hf, .bool ht] 32)) from (Below.refl _ _).alloc (Nat.le_refl _) _)
  go_enter Try.func27, Try.ntmps27
  go_wp2_with fail
  refine (HC.out _).mono ?_
  rintro e w1 ⟨rfl, hb1⟩
  have HX1 := Lib.hid (HX.out.below hb1 HX.out.lt)
  have HB1 := Lib.hid (HB.out.trans (hb1.mono HB.out.size))
  clear hb1
  go_wp2_with (first | (refine mkBo rfl (.tmp 20) (.tmp 20) rfl n _ _ rfl rfl rfl rfl (by omega) ?_; intro w3 ho hb3; have HX3 := Lib.hid (HX1.out.below hb3 HX1.out.lt); have H0 := Lib.hid (show SeI w1 w3 A st n 0 from SeI.start ho hb3); clear ho hb3; obtain ⟨c0, c1, c2, c3, c4⟩ := HX3.out.cells))
  refine (HP.out _).mono ?_
  rintro e w4 ⟨gp, rfl, ho4, hb4⟩
  have H4 := Lib.hid (sf_start H0.out ho4 hb4)
  clear ho4 hb4 c0 c1 c2 c3 c4
  go_wp2_with fail
  go_loopw [27] (fun i wr => ∃ k : Nat, k ≤ M ∧ i = .int .i64 k ∧ Hid (SfI w1 wr A st n M gp k)) (fun i _ => M - (intOf i).toNat)
  case atStart => exact ⟨0, by omega, rfl, H4⟩
  case round =>
    obtain ⟨k, hk, rfl, HI⟩ := hrel
    by_cases hlt : k < M
    · obtain ⟨p, hp, he⟩ := HIn.out k hlt
      obtain ⟨c5, f5⟩ := HI.out.1.2.cellAt (goneL_get (A := A) (st := st) (k := k) hp)
      have c2 : wr.cell? ⟨gp, k, none⟩ = some (.int .i64 (p : Int)) := by
        rw [← he]
        exact (HI.out.2.cellAt (plL_get hlt)).1
      have HT := Lib.hid (HI.out.next he)
      generalize gone A st k p = bb at *
      clear he
      go_wp2_with fail
      go_roundw
      case rel => exact ⟨k + 1, by omega, by go_num, HT⟩
      case measure => simp [intOf]; try omega
    · obtain rfl : k = M := by omega
      have HS := Lib.hid HI.out.1
      clear hlt HI
      have HB2 := Lib.hid (HB1.out.trans (HS.out.1.mono HB1.out.size))
      generalize hwr : wr = w2 at *
      clear hwr
      go_wp2_with fail
      go_loopw [8, 37] (fun v i wr => ∃ j : Nat, j ≤ n ∧ i = .int .i64 j ∧ Hid (RmI w2 wr v (restI is A st k j))) (fun _ i _ => n - (intOf i).toNat)
      case atStart => exact ⟨0, by omega, rfl, Lib.hid ⟨Below.refl _ _, Own.nil _ _ _⟩⟩
      case round =>
        obtain ⟨j, hj, rfl, HI⟩ := hrel
        by_cases hlt : j < n
        · obtain ⟨s, hs⟩ : ∃ s, is[j]? = some s := ⟨is[j]'(by have := HN.out; omega), List.getElem?_eq_getElem _⟩
          obtain ⟨x, rfl, hx⟩ := HA.out j s hs
          have c1 : wr.cell? (x.add j) = some (.int .i64 s) := by rw [HI.out.1.cell (Nat.lt_of_lt_of_le (World.block_lt_of_cell? w _ hx) HB2.out.size), HB2.out.cell (World.block_lt_of_cell? w _ hx)]; exact hx
          have c2 := ((HS.out.2.below HI.out.1).cellAt (goneL_get (A := A) (st := st) (k := k) hlt)).1
          have HL := Lib.hid (show (restI is A st k j).length + 1 ≤ 1000000 by have := restI_le is A st k j; omega)
          have HZ := Lib.hid (show w2.heap.size ≤ wr.heap.size from HI.out.1.size)
          cases hq : gone A st k j with
          | false =>
            have HS1 := Lib.hid (rest_in hs hq)
            rw [hq] at c2
            clear hx hs hq
            go_wp2_with (first | (refine appI rfl (.tmp 47) (.tmp 49) rfl wr _ rfl w2.heap.size _ _ rfl rfl HI.out.2 HL.out HZ.out ?_; intro v3 w3 ho hb3; have HT := Lib.hid (show RmI w2 w3 v3 (restI is A st k (j + 1)) from ⟨HI.out.1.trans hb3, by rw [HS1.out]; exact ho⟩); clear ho hb3))
            go_roundw
            case rel => exact ⟨j + 1, by omega, by go_num, HT⟩
            case measure => simp [intOf]; try omega
          | true =>
            have HT := Lib.hid (show RmI w2 wr _ (restI is A st k (j + 1)) from ⟨HI.out.1, by rw [rest_out hs hq]; exact HI.out.2⟩)
            rw [hq] at c2
            clear hx hs hq
            go_wp2_with fail
            go_roundw
            case rel => exact ⟨j + 1, by omega, by go_num, HT⟩
            case measure => simp [intOf]; try omega
        · obtain rfl : j = n := by omega
          clear hlt
          go_wp2_with fail
          go_ret
          exact ⟨_, rfl, HI.out.2.wide HB2.out.size, HB2.out.trans (HI.out.1.mono HB2.out.size)⟩
end Go.Proofs.Ytbcphejblopekaa
