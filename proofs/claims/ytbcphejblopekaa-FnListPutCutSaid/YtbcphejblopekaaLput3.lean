/- A part of a list replaced: the model's, the program's. -/
import Derived.Test.YtbcphejblopekaaLput2
import Derived.Test.YtbcphejblopekaaDr2
namespace Go.Proofs.Ytbcphejblopekaa
open Go.RowKit
/-- A list with so many numbers put at the places of a slice. -/
def putI (is news : List Int) (A st : Int) (k : Nat) : List Int := (List.range k).foldl (fun (l : List Int) (i : Nat) => l.set (A + (i : Int) * st).toNat (news.getD i 0)) is
theorem putI_succ {is news : List Int} {A st x : Int} {k p : Nat} (hx : news[k]? = some x) (he : A + (k : Int) * st = (p : Int)) : putI is news A st (k + 1) = (putI is news A st k).set p x := by
  unfold putI
  rw [List.range_succ, List.foldl_append]
  simp only [List.foldl_cons, List.foldl_nil]
  rw [he, Int.toNat_natCast, List.getD_eq_getElem?_getD, hx]; rfl
theorem putI_len (is news : List Int) (A st : Int) (k : Nat) : (putI is news A st k).length = is.length := by
  induction k with
  | zero => rfl
  | succ k ih =>
    unfold putI at *
    rw [List.range_succ, List.foldl_append]
    simp only [List.foldl_cons, List.foldl_nil, List.length_set]
    exact ih
/-- A list with others in place of a part. -/
def swI (is news : List Int) (p M : Nat) : List Int := is.take p ++ news ++ is.drop (p + M)
theorem swI_len {is news : List Int} {p M : Nat} (h : p + M ≤ is.length) : (swI is news p M).length = is.length - M + news.length := by
  unfold swI; simp; omega
theorem get_some {is : List Int} {p n : Nat} (h : p < n) (hn : n = is.length) : ∃ s, is[p]? = some s := ⟨is[p]'(by omega), List.getElem?_eq_getElem _⟩
def NoP (w : World) (e : Ending) (w' : World) : Prop := e = .returned (.tuple #[.slice none 0 0, .bool false]) ∧ Below w.heap.size w w'
theorem NoP.li {w w' : World} {e : Ending} (h : NoP w e w') : LiPb [] false w e w' := ⟨_, h.1, Own.nil _ _ _, h.2⟩
def Parked (p : Prop) : Prop := p
theorem park {p : Prop} (h : Parked p) : p := h
section
variable {P : Program} {o : Oper} {a : Act} {w : World}
theorem puts_addI (t yt : TypeId) (x y : Operand) (ho : o.op = .binOp .add t x y yt) (p q r : Int) (hx : a.eval x = .int .i64 p) (hy : a.eval y = .int .i64 q) (e : p + q = r) (h0 : 0 ≤ r) (h1 : r ≤ 1000000) : Puts P o a w (.int .i64 r) := by
  have hw : IntKind.i64.wrap r = r := by rw [IntKind.wrap_i64]; omega
  unfold Puts execOp
  simp only [ho, hx, hy]
  simp [e, hw, go_sem]
theorem gives_lit3 (ho : o.op = .buildSlice 62 3 #[(0, .tmp 41), (1, .tmp 42), (2, .tmp 47)]) (x1 y1 z1 : Option Addr) (x2 x3 y2 y3 z2 z3 : Nat) (hx : a.tmps[41]?.getD undef = .slice x1 x2 x3) (hy : a.tmps[42]?.getD undef = .slice y1 y2 y3) (hz : a.tmps[47]?.getD undef = .slice z1 z2 z3) : Gives Try.prog o a w (.slice (some ⟨w.heap.size, 0, none⟩) 3 3) (w.alloc (.cells #[.slice x1 x2 x3, .slice y1 y2 y3, .slice z1 z2 z3] 24)) := by
  refine .inl ?_
  unfold execOp
  simp [ho, go_sem, hx, hy, hz]
end
theorem lit3_cell (w : World) (x y z : Value) (t : TypeId) {g : Nat} (hg : g = w.heap.size) : (w.alloc (.cells #[x, y, z] t)).cell? ⟨g, 0, none⟩ = some x := by subst hg; exact lit_cell w #[x, y, z] t 0
theorem lit3_cell1 (w : World) (x y z : Value) (t : TypeId) {g : Nat} (hg : g = w.heap.size) : (w.alloc (.cells #[x, y, z] t)).cell? ⟨g, 1, none⟩ = some y := by subst hg; exact lit_cell w #[x, y, z] t 1
theorem lit3_cell2 (w : World) (x y z : Value) (t : TypeId) {g : Nat} (hg : g = w.heap.size) : (w.alloc (.cells #[x, y, z] t)).cell? ⟨g, 2, none⟩ = some z := by subst hg; exact lit_cell w #[x, y, z] t 2
set_option maxHeartbeats 2000000 in
theorem specPut_bad (is news : List Int) (v u : Value) (f t st : Int) (hf ht : Bool) (w : World) (h : RdO w v is) (hu : RdO w u news) (hl : is.length ≤ 1048576) (hl2 : news.length ≤ 1048576) (hc : 60 < is.length ∨ okC f t st hf ht = false) :
    Calls Try.prog 28 #[v, .agg (cutC f t st hf ht), u] w (NoP w) := by
  have HV := Lib.hid h
  have HU := Lib.hid hu
  obtain ⟨a, cap, rfl, hcap, hnil, hz⟩ := h.form
  obtain ⟨a2, cap2, rfl, hcap2, hnil2, hz2⟩ := hu.form
  have HZ1 := Lib.hid hz
  have HZ2 := Lib.hid hz2
  clear h hu hz hz2 hnil hnil2
  obtain ⟨n, hn⟩ : ∃ n, n = is.length := ⟨_, rfl⟩
  obtain ⟨n2, hn2⟩ : ∃ n, n = news.length := ⟨_, rfl⟩
  have HN := Lib.hid hn
  have HN2 := Lib.hid hn2
  rw [← hn] at hcap HV hl hc ⊢
  rw [← hn2] at hcap2 HU hl2 ⊢
  clear hn hn2
  have HVA := Lib.hid (fun n a cap w => validList_any n a cap w)
  have HC := Lib.hid (fun w => validCut_any f t st hf ht w)
  unfold cutC at *
  by_cases h60 : 60 < n
  · clear hc
    have hdd : decide (n ≤ 60) = false := decide_eq_false (by omega)
    have HX := Lib.hid (show CutAt (w.alloc (Obj.cells #[.int .i64 f, .int .i64 t, .int .i64 st, .bool hf, .bool ht] 32)) w.heap.size f t st hf ht from Blk.new _ _ _ rfl)
    have HB := Lib.hid (show Below w.heap.size w (w.alloc (Obj.cells #[.int .i64 f, .int .i64 t, .int .i64 st, .bool hf, .bool ht] 32)) from (Below.refl _ _).alloc (Nat.le_refl _) _)
    go_enter Try.func28, Try.ntmps28
    go_wp2_with fail
    refine (HVA.out _ _ _ _).mono ?_
    rintro e w' ⟨rfl, rfl⟩
    rw [hdd]
    go_wp2_with fail
    go_ret2
    exact ⟨rfl, HB.out⟩
  · have hq : okC f t st hf ht = false := hc.resolve_left h60
    rw [hq] at HC
    clear hc hq
    have hdd : decide (n ≤ 60) = true := decide_eq_true (by omega)
    have HX := Lib.hid (show CutAt (w.alloc (Obj.cells #[.int .i64 f, .int .i64 t, .int .i64 st, .bool hf, .bool ht] 32)) w.heap.size f t st hf ht from Blk.new _ _ _ rfl)
    have HB := Lib.hid (show Below w.heap.size w (w.alloc (Obj.cells #[.int .i64 f, .int .i64 t, .int .i64 st, .bool hf, .bool ht] 32)) from (Below.refl _ _).alloc (Nat.le_refl _) _)
    go_enter Try.func28, Try.ntmps28
    go_wp2_with fail
    refine (HVA.out _ _ _ _).mono ?_
    rintro e w' ⟨rfl, rfl⟩
    rw [hdd]
    go_wp2_with fail
    refine (HC.out _).mono ?_
    rintro e w1 ⟨rfl, hb1⟩
    have HB1 := Lib.hid (HB.out.trans (hb1.mono HB.out.size))
    clear hb1
    go_wp2_with fail
    go_ret2
    exact ⟨rfl, HB1.out⟩
set_option maxHeartbeats 2000000 in
theorem implPut_bad (is news : List Int) (v u : Value) (f t st : Int) (hf ht : Bool) (w : World) (h : RdO w v is) (hu : RdO w u news) (hl : is.length ≤ 1048576) (hl2 : news.length ≤ 1048576) (hc : 60 < is.length ∨ okC f t st hf ht = false) :
    Calls Try.prog 29 #[v, .agg (cutC f t st hf ht), u] w (NoP w) := by
  have HV := Lib.hid h
  have HU := Lib.hid hu
  obtain ⟨a, cap, rfl, hcap, hnil, hz⟩ := h.form
  obtain ⟨a2, cap2, rfl, hcap2, hnil2, hz2⟩ := hu.form
  have HZ1 := Lib.hid hz
  have HZ2 := Lib.hid hz2
  clear h hu hz hz2 hnil hnil2
  obtain ⟨n, hn⟩ : ∃ n, n = is.length := ⟨_, rfl⟩
  obtain ⟨n2, hn2⟩ : ∃ n, n = news.length := ⟨_, rfl⟩
  have HN := Lib.hid hn
  have HN2 := Lib.hid hn2
  rw [← hn] at hcap HV hl hc ⊢
  rw [← hn2] at hcap2 HU hl2 ⊢
  clear hn hn2
  have HC := Lib.hid (fun w => cutOk_any f t st hf ht w)
  unfold cutC at *
  by_cases h60 : 60 < n
  · clear hc
    have HX := Lib.hid (show CutAt (w.alloc (Obj.cells #[.int .i64 f, .int .i64 t, .int .i64 st, .bool hf, .bool ht] 32)) w.heap.size f t st hf ht from Blk.new _ _ _ rfl)
    have HB := Lib.hid (show Below w.heap.size w (w.alloc (Obj.cells #[.int .i64 f, .int .i64 t, .int .i64 st, .bool hf, .bool ht] 32)) from (Below.refl _ _).alloc (Nat.le_refl _) _)
    go_enter Try.func29, Try.ntmps29
    go_wp2_with fail
    go_ret2
    exact ⟨rfl, HB.out⟩
  · have hq : okC f t st hf ht = false := hc.resolve_left h60
    rw [hq] at HC
    clear hc hq
    have HX := Lib.hid (show CutAt (w.alloc (Obj.cells #[.int .i64 f, .int .i64 t, .int .i64 st, .bool hf, .bool ht] 32)) w.heap.size f t st hf ht from Blk.new _ _ _ rfl)
    have HB := Lib.hid (show Below w.heap.size w (w.alloc (Obj.cells #[.int .i64 f, .int .i64 t, .int .i64 st, .bool hf, .bool ht] 32)) from (Below.refl _ _).alloc (Nat.le_refl _) _)
    go_enter Try.func29, Try.ntmps29
    go_wp2_with fail
    refine (HC.out _).mono ?_
    rintro e w1 ⟨rfl, hb1⟩
    have HB1 := Lib.hid (HB.out.trans (hb1.mono HB.out.size))
    clear hb1
    go_wp2_with fail
    go_ret2
    exact ⟨rfl, HB1.out⟩
set_option maxHeartbeats 2000000 in
theorem specPut_long (is news : List Int) (v u : Value) (f t st : Int) (hf ht : Bool) (w : World) (h : RdO w v is) (hu : RdO w u news) (h60 : is.length ≤ 60) (hc : okC f t st hf ht = true) (h2 : 60 < news.length) (hl2 : news.length ≤ 1048576) :
    Calls Try.prog 28 #[v, .agg (cutC f t st hf ht), u] w (NoP w) := by
  have HV := Lib.hid h
  have HU := Lib.hid hu
  obtain ⟨a, cap, rfl, hcap, hnil, hz⟩ := h.form
  obtain ⟨a2, cap2, rfl, hcap2, hnil2, hz2⟩ := hu.form
  have HZ1 := Lib.hid hz
  have HZ2 := Lib.hid hz2
  clear h hu hz hz2 hnil hnil2
  obtain ⟨n, hn⟩ : ∃ n, n = is.length := ⟨_, rfl⟩
  obtain ⟨n2, hn2⟩ : ∃ n, n = news.length := ⟨_, rfl⟩
  have HN := Lib.hid hn
  have HN2 := Lib.hid hn2
  rw [← hn] at hcap HV h60 ⊢
  rw [← hn2] at hcap2 HU h2 hl2 ⊢
  clear hn hn2
  have HVA := Lib.hid (fun n a cap w => validList_any n a cap w)
  have HC := Lib.hid (fun w => validCut_any f t st hf ht w)
  rw [hc] at HC
  clear hc
  unfold cutC at *
  have hdd : decide (n ≤ 60) = true := decide_eq_true h60
  have hd2 : decide (n2 ≤ 60) = false := decide_eq_false (by omega)
  have HX := Lib.hid (show CutAt (w.alloc (Obj.cells #[.int .i64 f, .int .i64 t, .int .i64 st, .bool hf, .bool ht] 32)) w.heap.size f t st hf ht from Blk.new _ _ _ rfl)
  have HB := Lib.hid (show Below w.heap.size w (w.alloc (Obj.cells #[.int .i64 f, .int .i64 t, .int .i64 st, .bool hf, .bool ht] 32)) from (Below.refl _ _).alloc (Nat.le_refl _) _)
  go_enter Try.func28, Try.ntmps28
  go_wp2_with fail
  refine (HVA.out _ _ _ _).mono ?_
  rintro e w' ⟨rfl, rfl⟩
  rw [hdd]
  go_wp2_with fail
  refine (HC.out _).mono ?_
  rintro e w1 ⟨rfl, hb1⟩
  have HX1 := Lib.hid (HX.out.below hb1 HX.out.lt)
  have HB1 := Lib.hid (HB.out.trans (hb1.mono HB.out.size))
  clear hb1
  obtain ⟨c0, c1, c2, c3, c4⟩ := HX1.out.cells
  go_wp2_with fail
  refine (HVA.out _ _ _ _).mono ?_
  rintro e w' ⟨rfl, rfl⟩
  rw [hd2]
  go_wp2_with fail
  go_ret2
  exact ⟨rfl, HB1.out⟩
set_option maxHeartbeats 2000000 in
theorem specPut_no (is news : List Int) (v u : Value) (f t st : Int) (hf ht : Bool) (A : Int) (M : Nat) (w : World) (h : RdO w v is) (hu : RdO w u news) (h60 : is.length ≤ 60) (hc : okC f t st hf ht = true) (h2 : news.length ≤ 60) (hst : st ≠ 1) (hne : news.length ≠ M) (hM : M ≤ 60) (hA : -1 ≤ A ∧ A ≤ 60) (hO : ∀ w, Calls Try.prog 45 #[.int .i64 is.length, .agg (cutC f t st hf ht)] w fun e w' => e = .returned (.tuple #[.int .i64 A, .int .i64 (M : Int)]) ∧ Below w.heap.size w w') :
    Calls Try.prog 28 #[v, .agg (cutC f t st hf ht), u] w (NoP w) := by
  have HV := Lib.hid h
  have HU := Lib.hid hu
  obtain ⟨a, cap, rfl, hcap, hnil, hz⟩ := h.form
  obtain ⟨a2, cap2, rfl, hcap2, hnil2, hz2⟩ := hu.form
  have HZ1 := Lib.hid hz
  have HZ2 := Lib.hid hz2
  clear h hu hz hz2 hnil hnil2
  obtain ⟨n, hn⟩ : ∃ n, n = is.length := ⟨_, rfl⟩
  obtain ⟨n2, hn2⟩ : ∃ n, n = news.length := ⟨_, rfl⟩
  have HN := Lib.hid hn
  have HN2 := Lib.hid hn2
  rw [← hn] at hcap HV h60 hO ⊢
  rw [← hn2] at hcap2 HU h2 hne ⊢
  clear hn hn2
  have HVA := Lib.hid (fun n a cap w => validList_any n a cap w)
  have HC := Lib.hid (fun w => validCut_any f t st hf ht w)
  rw [hc] at HC
  clear hc
  have HO := Lib.hid hO
  clear hO
  unfold cutC at *
  have hdd : decide (n ≤ 60) = true := decide_eq_true h60
  have hd2 : decide (n2 ≤ 60) = true := decide_eq_true (by omega)
  have HX := Lib.hid (show CutAt (w.alloc (Obj.cells #[.int .i64 f, .int .i64 t, .int .i64 st, .bool hf, .bool ht] 32)) w.heap.size f t st hf ht from Blk.new _ _ _ rfl)
  have HB := Lib.hid (show Below w.heap.size w (w.alloc (Obj.cells #[.int .i64 f, .int .i64 t, .int .i64 st, .bool hf, .bool ht] 32)) from (Below.refl _ _).alloc (Nat.le_refl _) _)
  go_enter Try.func28, Try.ntmps28
  go_wp2_with fail
  refine (HVA.out _ _ _ _).mono ?_
  rintro e w' ⟨rfl, rfl⟩
  rw [hdd]
  go_wp2_with fail
  refine (HC.out _).mono ?_
  rintro e w1 ⟨rfl, hb1⟩
  have HX1 := Lib.hid (HX.out.below hb1 HX.out.lt)
  have HB1 := Lib.hid (HB.out.trans (hb1.mono HB.out.size))
  clear hb1
  obtain ⟨c0, c1, c2, c3, c4⟩ := HX1.out.cells
  go_wp2_with fail
  refine (HVA.out _ _ _ _).mono ?_
  rintro e w' ⟨rfl, rfl⟩
  rw [hd2]
  go_wp2_with fail
  refine (HO.out _).mono ?_
  rintro e w2 ⟨rfl, hb2⟩
  have HX2 := Lib.hid (HX1.out.below hb2 HX1.out.lt)
  have HB2 := Lib.hid (HB1.out.trans (hb2.mono HB1.out.size))
  have HV2 := Lib.hid (HV.out.below HB2.out)
  have HU2 := Lib.hid (HU.out.below HB2.out)
  clear hb2 c0 c1 c2 c3 c4
  obtain ⟨c0, c1, c2, c3, c4⟩ := HX2.out.cells
  have hne2 : ¬ (n2 : Int) = (M : Int) := by omega
  go_wp2_with (first | (refine ext rfl (.tmp 26) 0 [.int .i64 A, .int .i64 (M : Int)] (.int .i64 A) rfl rfl rfl ?_) | (refine ext rfl (.tmp 26) 1 [.int .i64 A, .int .i64 (M : Int)] (.int .i64 (M : Int)) rfl rfl rfl ?_))
  go_ret2
  exact ⟨rfl, HB2.out⟩
set_option maxHeartbeats 2000000 in
theorem implPut_no (is news : List Int) (v u : Value) (f t st : Int) (hf ht : Bool) (A : Int) (M : Nat) (w : World) (h : RdO w v is) (hu : RdO w u news) (h60 : is.length ≤ 60) (hc : okC f t st hf ht = true) (h2 : news.length ≤ 1048576) (hst : st ≠ 1) (hne : news.length ≠ M) (hM : M ≤ 60) (hA : -1 ≤ A ∧ A ≤ 60) (hO : ∀ w, Calls Try.prog 39 #[.int .i64 is.length, .agg (cutC f t st hf ht)] w fun e w' => e = .returned (.tuple #[.int .i64 A, .int .i64 (M : Int)]) ∧ Below w.heap.size w w') :
    Calls Try.prog 29 #[v, .agg (cutC f t st hf ht), u] w (NoP w) := by
  have HV := Lib.hid h
  have HU := Lib.hid hu
  obtain ⟨a, cap, rfl, hcap, hnil, hz⟩ := h.form
  obtain ⟨a2, cap2, rfl, hcap2, hnil2, hz2⟩ := hu.form
  have HZ1 := Lib.hid hz
  have HZ2 := Lib.hid hz2
  clear h hu hz hz2 hnil hnil2
  obtain ⟨n, hn⟩ : ∃ n, n = is.length := ⟨_, rfl⟩
  obtain ⟨n2, hn2⟩ : ∃ n, n = news.length := ⟨_, rfl⟩
  have HN := Lib.hid hn
  have HN2 := Lib.hid hn2
  rw [← hn] at hcap HV h60 hO ⊢
  rw [← hn2] at hcap2 HU h2 hne ⊢
  clear hn hn2
  have HC := Lib.hid (fun w => cutOk_any f t st hf ht w)
  rw [hc] at HC
  clear hc
  have HO := Lib.hid hO
  clear hO
  unfold cutC at *
  have HX := Lib.hid (show CutAt (w.alloc (Obj.cells #[.int .i64 f, .int .i64 t, .int .i64 st, .bool hf, .bool ht] 32)) w.heap.size f t st hf ht from Blk.new _ _ _ rfl)
  have HB := Lib.hid (show Below w.heap.size w (w.alloc (Obj.cells #[.int .i64 f, .int .i64 t, .int .i64 st, .bool hf, .bool ht] 32)) from (Below.refl _ _).alloc (Nat.le_refl _) _)
  go_enter Try.func29, Try.ntmps29
  go_wp2_with fail
  refine (HC.out _).mono ?_
  rintro e w1 ⟨rfl, hb1⟩
  have HX1 := Lib.hid (HX.out.below hb1 HX.out.lt)
  have HB1 := Lib.hid (HB.out.trans (hb1.mono HB.out.size))
  clear hb1
  obtain ⟨c0, c1, c2, c3, c4⟩ := HX1.out.cells
  go_wp2_with fail
  refine (HO.out _).mono ?_
  rintro e w2 ⟨rfl, hb2⟩
  have HX2 := Lib.hid (HX1.out.below hb2 HX1.out.lt)
  have HB2 := Lib.hid (HB1.out.trans (hb2.mono HB1.out.size))
  have HV2 := Lib.hid (HV.out.below HB2.out)
  have HU2 := Lib.hid (HU.out.below HB2.out)
  clear hb2 c0 c1 c2 c3 c4
  obtain ⟨c0, c1, c2, c3, c4⟩ := HX2.out.cells
  have hne2 : ¬ (n2 : Int) = (M : Int) := by omega
  go_wp2_with (first | (refine ext rfl (.tmp 21) 0 [.int .i64 A, .int .i64 (M : Int)] (.int .i64 A) rfl rfl rfl ?_) | (refine ext rfl (.tmp 21) 1 [.int .i64 A, .int .i64 (M : Int)] (.int .i64 (M : Int)) rfl rfl rfl ?_))
  go_ret2
  exact ⟨rfl, HB2.out⟩
end Go.Proofs.Ytbcphejblopekaa
