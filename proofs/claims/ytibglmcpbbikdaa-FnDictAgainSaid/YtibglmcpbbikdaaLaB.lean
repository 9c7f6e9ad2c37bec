/- Slots, entries, and what looking for a key looks at. -/
import Derived.Test.YtibglmcpbbikdaaLaA
import Derived.Test.YtibglmcpbbikdaaHash
namespace Go.Proofs.Ytibglmcpbbikdaa
open Go.RowKit
/-- What a value may be. -/
def okV (n : Int) : Bool := decide (-1000000 ≤ n ∧ n ≤ 1000000)
theorem isIndex_any (n : Int) (w : World) : Calls Try.prog 74 #[.int .i64 n] w fun e w' => e = .returned (.bool (okV n)) ∧ w = w' := by
  by_cases h1 : (-1000000 : Int) ≤ n
  · go_enter Try.func74, Try.ntmps74
    go_wp2_with fail
    go_ret
    simp [okV, h1]
  · have h2 : n < -1000000 := by omega
    have h3 : okV n = false := decide_eq_false (by omega)
    rw [h3]
    go_enter Try.func74, Try.ntmps74
    go_wp2_with fail
    go_ret
    exact ⟨rfl, rfl⟩
theorem inRange_any (n : Int) (w : World) : Calls Try.prog 77 #[.int .i64 n, .int .i64 (-1000000), .int .i64 1000000] w fun e w' => e = .returned (.bool (okV n)) ∧ w = w' := by
  by_cases h1 : (-1000000 : Int) ≤ n
  · go_enter Try.func77, Try.ntmps77
    go_wp2_with fail
    go_ret
    simp [okV, h1]
  · have h2 : n < -1000000 := by omega
    have h3 : okV n = false := decide_eq_false (by omega)
    rw [h3]
    go_enter Try.func77, Try.ntmps77
    go_wp2_with fail
    go_ret
    exact ⟨rfl, rfl⟩
/-- Numbers of slots. -/
def slotN (n : Nat) : Bool := n == 8 || n == 16 || n == 32 || n == 64 || n == 128
theorem entryRoom_any (n : Nat) (w : World) (h : n ≤ 1048576) : Calls Try.prog 75 #[.int .i64 (n : Int)] w fun e w' => e = .returned (.int .i64 ((2 * n / 3 : Nat) : Int)) ∧ w = w' := by
  have e2 : (2 * (n : Int)).tdiv 3 = ((2 * n / 3 : Nat) : Int) := by rw [Int.tdiv_eq_ediv_of_nonneg (by omega)]; omega
  have hr : 0 ≤ ((2 * n / 3 : Nat) : Int) ∧ ((2 * n / 3 : Nat) : Int) ≤ 1048576 := by omega
  generalize ((2 * n / 3 : Nat) : Int) = r at *
  obtain ⟨r0, r1⟩ := hr
  go_enter Try.func75, Try.ntmps75
  go_wp2_with fail
  go_ret
  exact ⟨by go_num, rfl⟩
theorem bits_slot (n : Nat) (h : 8 ≤ n ∧ n ≤ 128) : (bits BinOp.and IntKind.i64 (n : Int) ((n : Int) - 1) == 0) = slotN n := by
  have hd : ∀ m : Fin 129, 8 ≤ m.val → (bits BinOp.and IntKind.i64 (m.val : Int) ((m.val : Int) - 1) == 0) = slotN m.val := by decide +kernel
  exact hd ⟨n, by omega⟩ h.1
set_option maxHeartbeats 400000 in
theorem isSlotCount_any (n : Nat) (w : World) (h : n ≤ 9223372036854775807) : Calls Try.prog 86 #[.int .i64 (n : Int)] w fun e w' => e = .returned (.bool (slotN n)) ∧ w = w' := by
  by_cases h1 : n < 8
  · have k1 : ¬ (8 : Int) ≤ (n : Int) := by omega
    have h3 : slotN n = false := by unfold slotN; simp; omega
    rw [h3]
    go_enter Try.func86, Try.ntmps86
    go_wp2_with fail
    go_ret
    exact ⟨rfl, rfl⟩
  · by_cases h2 : 128 < n
    · have k1 : (8 : Int) ≤ (n : Int) := by omega
      have k2 : ¬ (n : Int) ≤ 128 := by omega
      have h3 : slotN n = false := by unfold slotN; simp; omega
      rw [h3]
      go_enter Try.func86, Try.ntmps86
      go_wp2_with fail
      go_ret
      exact ⟨rfl, rfl⟩
    · have k1 : (8 : Int) ≤ (n : Int) := by omega
      have k2 : (n : Int) ≤ 128 := by omega
      go_enter Try.func86, Try.ntmps86
      go_wp2_with fail
      go_ret
      refine ⟨?_, rfl⟩
      show Ending.returned (.bool (bits BinOp.and IntKind.i64 (n : Int) ((n : Int) - 1) == 0)) = _
      rw [bits_slot n (by omega)]
/-- The next slot when the rest is 0. -/
def nx0 (m i : Nat) : Nat := (5 * i + 1) % m
/-- After so many steps. -/
def it0 (m : Nat) : Nat → Nat → Nat
  | 0, i => i
  | t + 1, i => it0 m t (nx0 m i)
theorem it0_add (m s t i : Nat) : it0 m (s + t) i = it0 m t (it0 m s i) := by
  induction s generalizing i with
  | zero => simp [it0]
  | succ s ih => rw [Nat.succ_add]; exact ih (nx0 m i)
/-- The slots in the order of the rule, from one on. -/
def orb (m : Nat) : Nat → Nat → List Nat
  | 0, _ => []
  | t + 1, i => i :: orb m t (nx0 m i)
theorem orb_mem {m n i j : Nat} (h : j ∈ orb m n i) : ∃ t, t < n ∧ it0 m t i = j := by
  induction n generalizing i with
  | zero => cases h
  | succ n ih =>
    rcases List.mem_cons.1 h with rfl | h
    · exact ⟨0, by omega, rfl⟩
    · obtain ⟨t, h1, h2⟩ := ih h
      exact ⟨t + 1, by omega, h2⟩
theorem orb_all : ∀ m ∈ [8, 16, 32, 64, 128], (∀ j, j < m → j ∈ orb m m 0) ∧ it0 m m 0 = 0 := by decide +kernel
theorem slotN_mem {m : Nat} (h : slotN m = true) : m ∈ [8, 16, 32, 64, 128] := by
  unfold slotN at h
  simp at h
  simp
  omega
/-- Each slot is come to from each one. -/
theorem all_come {m : Nat} (h : slotN m = true) {i j : Nat} (hi : i < m) (hj : j < m) : ∃ t, t < m ∧ it0 m t i = j := by
  obtain ⟨h1, h2⟩ := orb_all m (slotN_mem h)
  obtain ⟨p, hp, rfl⟩ := orb_mem (h1 i hi)
  obtain ⟨q, hq, rfl⟩ := orb_mem (h1 j hj)
  rcases Nat.lt_or_ge q p with hlt | hge
  · refine ⟨m - p + q, by omega, ?_⟩
    rw [← it0_add, show p + (m - p + q) = m + q by omega, it0_add, h2]
  · refine ⟨q - p, by omega, ?_⟩
    rw [← it0_add, show p + (q - p) = q by omega]
/-- The slots that are looked at, and the rest, after so many steps. -/
def pr (m : Nat) (h : Nat) : Nat → Nat × Nat
  | 0 => (h % m, h)
  | t + 1 => ((5 * (pr m h t).1 + (pr m h t).2 / 8 + 1) % m, (pr m h t).2 / 8)
theorem pr_lt {m h : Nat} (hm : 0 < m) (t : Nat) : (pr m h t).1 < m := by
  cases t <;> exact Nat.mod_lt _ hm
theorem pr_rest (m h t : Nat) : (pr m h t).2 = h / 8 ^ t := by
  induction t with
  | zero => simp [pr]
  | succ t ih => show (pr m h t).2 / 8 = _; rw [ih, Nat.pow_succ, Nat.div_div_eq_div_mul]
theorem pr_zero {m h : Nat} (hh : h < 65536) {t : Nat} (ht : 6 ≤ t) : (pr m h t).2 = 0 := by
  rw [pr_rest]
  refine Nat.div_eq_of_lt (Nat.lt_of_lt_of_le hh ?_)
  exact Nat.le_trans (by decide : 65536 ≤ 8 ^ 6) (Nat.pow_le_pow_right (by decide) ht)
theorem pr_it {m h : Nat} (hh : h < 65536) (t : Nat) : (pr m h (6 + t)).1 = it0 m t (pr m h 6).1 := by
  suffices hs : ∀ t, (pr m h (6 + t)).1 = it0 m t (pr m h 6).1 from hs t
  intro t
  induction t with
  | zero => rfl
  | succ t ih =>
    have e : (pr m h (6 + (t + 1))).1 = nx0 m (pr m h (6 + t)).1 := by
      show (5 * (pr m h (6 + t)).1 + (pr m h (6 + t)).2 / 8 + 1) % m = _
      rw [pr_zero hh (by omega)]; rfl
    rw [e, ih, it0_add m t 1]; rfl
/-- Each slot is looked at within so many steps. -/
theorem pr_come {m h j : Nat} (hm : slotN m = true) (hh : h < 65536) (hj : j < m) : ∃ t, t < 6 + m ∧ (pr m h t).1 = j := by
  obtain ⟨t, h1, h2⟩ := all_come hm (pr_lt (by omega) 6 : (pr m h 6).1 < m) hj
  exact ⟨6 + t, by omega, by rw [pr_it hh, h2]⟩
/-- An entry. -/
structure Ent where
  key : ByteArray
  hash : Int
  val : Int
  live : Bool
/-- Its cells. -/
def Ent.row (e : Ent) : Array Value := #[.string e.key, .int .i64 e.hash, .int .i64 e.val, .bool e.live]
/-- Block g begins with these entries. -/
def En (w : World) (g : Nat) (es : List Ent) : Prop := g < w.heap.size ∧ ∀ (j : Nat) (e : Ent), es[j]? = some e → w.cell? ⟨g, j * 4, none⟩ = some (.string e.key) ∧ w.cell? ⟨g, j * 4 + 1, none⟩ = some (.int .i64 e.hash) ∧ w.cell? ⟨g, j * 4 + 2, none⟩ = some (.int .i64 e.val) ∧ w.cell? ⟨g, j * 4 + 3, none⟩ = some (.bool e.live)
/-- The slice of the call's own reads as these entries. -/
def Re (w : World) (a : Option Addr) (es : List Ent) : Prop := (a = none ∧ es = []) ∨ ∃ g, a = some ⟨g, 0, none⟩ ∧ En w g es
theorem En.below {w w' : World} {B g : Nat} {es : List Ent} (h : En w g es) (hb : Below B w w') (hg : g < B) : En w' g es := by
  refine ⟨Nat.lt_of_lt_of_le h.1 hb.size, fun j e hj => ?_⟩
  rw [hb.cell hg, hb.cell hg, hb.cell hg, hb.cell hg]
  exact h.2 j e hj
theorem Re.below {w w' : World} {a : Option Addr} {es : List Ent} (h : Re w a es) (hb : Below w.heap.size w w') : Re w' a es := by
  rcases h with h | ⟨g, h1, h2⟩
  · exact .inl h
  · exact .inr ⟨g, h1, h2.below hb h2.1⟩
theorem Re.at {w : World} {a : Option Addr} {es : List Ent} {k : Nat} (h : Re w a es) (hk : k < es.length) : ∃ g e, a = some ⟨g, 0, none⟩ ∧ es[k]? = some e ∧ g < w.heap.size ∧ w.cell? ⟨g, k * 4, none⟩ = some (.string e.key) ∧ w.cell? ⟨g, k * 4 + 1, none⟩ = some (.int .i64 e.hash) ∧ w.cell? ⟨g, k * 4 + 2, none⟩ = some (.int .i64 e.val) ∧ w.cell? ⟨g, k * 4 + 3, none⟩ = some (.bool e.live) := by
  rcases h with ⟨_, h2⟩ | ⟨g, h1, h2, h3⟩
  · rw [h2] at hk; simp at hk
  · exact ⟨g, es[k], h1, List.getElem?_eq_getElem hk, h2, h3 k _ (List.getElem?_eq_getElem hk)⟩
/-- How many are alive. -/
def liveN (es : List Ent) : Nat := (es.filter (·.live)).length
theorem liveN_next {es : List Ent} {k : Nat} {e : Ent} (h : es[k]? = some e) : liveN (es.take (k + 1)) = liveN (es.take k) + if e.live then 1 else 0 := by
  have hk : k < es.length := by
    rcases Nat.lt_or_ge k es.length with h2 | h2
    · exact h2
    · rw [List.getElem?_eq_none h2] at h; cases h
  rw [List.getElem?_eq_getElem hk] at h
  injection h with h
  unfold liveN
  rw [List.take_succ_eq_append_getElem hk, h, List.filter_append, List.length_append]
  cases hl : e.live <;> simp [List.filter, hl]
theorem liveN_le (es : List Ent) (k : Nat) : liveN (es.take k) ≤ k := by
  unfold liveN
  exact Nat.le_trans (List.length_filter_le _ _) (by rw [List.length_take]; omega)
set_option maxHeartbeats 1000000 in
theorem liveEntries_any (i : Value) (es : List Ent) (a : Option Addr) (cap : Nat) (w : World) (h : Re w a es) (hl : es.length ≤ 1048576) (_hi : i.oneCell' = true) :
    Calls Try.prog 69 #[.agg #[i, .slice a es.length cap]] w fun e w' => e = .returned (.int .i64 (liveN es : Int)) ∧ Below w.heap.size w w' := by
  have HR := Lib.hid h
  clear h
  obtain ⟨n, hn⟩ : ∃ n, n = es.length := ⟨_, rfl⟩
  have HN := Lib.hid hn
  rw [← hn] at hl ⊢
  clear hn
  go_enter Try.func69, Try.ntmps69
  go_wp2_with fail
  go_loop [3, 4] (fun v i => ∃ k : Nat, k ≤ n ∧ i = .int .i64 k ∧ v = .int .i64 (liveN (es.take k) : Int)) (fun _ i => n - (intOf i).toNat)
  case atStart => exact ⟨0, by omega, rfl, rfl⟩
  case round =>
    obtain ⟨k, hk, rfl, rfl⟩ := hrel
    by_cases hlt : k < n
    · obtain ⟨g, e, rfl, he, hb, _, _, _, c3⟩ := HR.out.at (show k < es.length by have := HN.out; omega)
      have k1 : (k : Int) < (n : Int) := by omega
      have k0 : 0 ≤ (k : Int) := by omega
      have HV := Lib.hid (liveN_next he)
      have hv1 : (liveN (es.take k) : Int) ≤ 1048576 := by have := liveN_le es k; omega
      have hv0 : 0 ≤ (liveN (es.take k) : Int) := by omega
      clear he
      cases hq : e.live
      · rw [hq] at c3
        go_wp2_with fail
        go_round
        case rel => exact ⟨k + 1, by omega, by go_num, by rw [HV.out, hq]; rfl⟩
        case measure => simp [intOf]; try omega
      · rw [hq] at c3
        go_wp2_with fail
        go_round
        case rel => exact ⟨k + 1, by omega, by go_num, by rw [HV.out, hq]; simp⟩
        case measure => simp [intOf]; try omega
    · obtain rfl : k = n := by omega
      have HF := Lib.hid (show liveN (es.take k) = liveN es by rw [List.take_of_length_le (by rw [HN.out]; exact Nat.le_refl _)])
      clear hlt
      go_wp2_with fail
      go_ret
      exact ⟨by rw [← HF.out]; rfl, (Below.refl _ _).alloc (Nat.le_refl _) _⟩
theorem isLive_any (k : ByteArray) (h v : Int) (l : Bool) (w : World) : Calls Try.prog 117 #[.agg #[.string k, .int .i64 h, .int .i64 v, .bool l]] w fun r w' => r = .returned (.bool l) ∧ Below w.heap.size w w' := by
  go_enter Try.func117, Try.ntmps117
  go_wp2_with fail
  go_ret
  exact ⟨rfl, (Below.refl _ _).alloc (Nat.le_refl _) _⟩
/-- Of an entry laid into an interface, 'isLive' is its own. (How deep the model looks: a number of this translation.) -/
theorem meth_isLive (v : Value) (w : World) : (method 211 57 v "loop.example/slowworm/impl.isLive").run Try.prog w = .ok (117, v) w := by kernel_rfl
section
variable {ops : Array Oper} {rest : List Oper} {o : Oper} {a : Act} {w : World} {Q : Exit → Act → World → Prop}
theorem lies4 {g off : Nat} {p q r s : Value} (h0 : w.cell? ⟨g, off, none⟩ = some p) (h1 : w.cell? ⟨g, off + 1, none⟩ = some q) (h2 : w.cell? ⟨g, off + 2, none⟩ = some r) (h3 : w.cell? ⟨g, off + 3, none⟩ = some s) : Lies w g off #[p, q, r, s] := by
  intro j v hj
  rw [addr_add]
  match j, hj with
  | 0, hj => simp at hj; rw [← hj]; exact h0
  | 1, hj => simp at hj; rw [← hj]; exact h1
  | 2, hj => simp at hj; rw [← hj]; exact h2
  | 3, hj => simp at hj; rw [← hj]; exact h3
  | j + 4, hj => simp at hj
theorem ldE (hg : o.guard = none) (x : Operand) (ho : o.op = .load 57 x) (g off : Nat) (p q r s : Value) (hx : a.eval x = .pointer (some ⟨g, off, none⟩)) (hl : Lies w g off #[p, q, r, s]) (k : wpList Try.prog ops Q rest (a.put o.dst (.agg #[p, q, r, s])) w) : wpList Try.prog ops Q (o :: rest) a w :=
  (puts_load 57 x ho g off #[p, q, r, s] hx hl _ Try.underlying57 rfl (by kernel_rfl)).gives.plain hg k
end
theorem ent_next {w wr w2 : World} {a : Option Addr} {es : List Ent} {o : Obj} (h : Below w.heap.size w wr ∧ Re wr a es) (hb : Below (wr.alloc o).heap.size (wr.alloc o) w2) : Below w.heap.size w w2 ∧ Re w2 a es := by
  have h1 : Below wr.heap.size wr w2 := ((Below.refl _ _).alloc (Nat.le_refl _) o).trans (hb.mono (by simp))
  exact ⟨h.1.trans (h1.mono h.1.size), h.2.below h1⟩
set_option maxHeartbeats 1000000 in
set_option maxRecDepth 20000 in
theorem countLive_any (i : Value) (es : List Ent) (a : Option Addr) (cap : Nat) (w : World) (h : Re w a es) (hl : es.length ≤ 1048576) (_hi : i.oneCell' = true) :
    Calls Try.prog 51 #[.agg #[i, .slice a es.length cap]] w fun e w' => e = .returned (.int .i64 (liveN es : Int)) ∧ Below w.heap.size w w' := by
  have HR := Lib.hid h
  have HL := Lib.hid isLive_any
  have HA := Lib.hid (show ∀ o, Re (w.alloc o) a es ∧ Below w.heap.size w (w.alloc o) from fun o => ⟨h.below ((Below.refl _ _).alloc (Nat.le_refl _) _), (Below.refl _ _).alloc (Nat.le_refl _) _⟩)
  clear h
  obtain ⟨n, hn⟩ : ∃ n, n = es.length := ⟨_, rfl⟩
  have HN := Lib.hid hn
  rw [← hn] at hl ⊢
  clear hn
  go_enter Try.func51, Try.ntmps51
  go_wp2_with fail
  go_loopw [3, 9] (fun v i wr => ∃ k : Nat, k ≤ n ∧ i = .int .i64 k ∧ v = .int .i64 (liveN (es.take k) : Int) ∧ Hid (Below w.heap.size w wr ∧ Re wr a es)) (fun _ i _ => n - (intOf i).toNat)
  case atStart => exact ⟨0, by omega, rfl, rfl, Lib.hid ⟨(HA.out _).2, (HA.out _).1⟩⟩
  case round =>
    obtain ⟨k, hk, rfl, rfl, HI⟩ := hrel
    by_cases hlt : k < n
    · obtain ⟨g, e, rfl, he, hb, c0, c1, c2, c3⟩ := HI.out.2.at (show k < es.length by have := HN.out; omega)
      have k1 : (k : Int) < (n : Int) := by omega
      have k0 : 0 ≤ (k : Int) := by omega
      have HV := Lib.hid (liveN_next he)
      have hv1 : (liveN (es.take k) : Int) ≤ 1048576 := by have := liveN_le es k; omega
      have hv0 : 0 ≤ (liveN (es.take k) : Int) := by omega
      have hm := meth_isLive
      have HE := Lib.hid (lies4 c0 c1 c2 c3)
      clear he c0 c1 c2 c3
      go_wp2_with (first | (refine ldE (o := ⟨some 12, _, _, _, _, _⟩) rfl (.tmp 11) rfl g (k * 4) (.string e.key) (.int .i64 e.hash) (.int .i64 e.val) (.bool e.live) rfl HE.out ?_))
      refine (HL.out _ _ _ _ _).mono ?_
      rintro r w2 ⟨rfl, hb2⟩
      have HT := Lib.hid (ent_next HI.out hb2)
      clear hb2 hm HE
      cases hq : e.live
      · go_wp2_with fail
        go_roundw
        case rel => exact ⟨k + 1, by omega, by go_num, by rw [HV.out, hq]; rfl, HT⟩
        case measure => simp [intOf]; try omega
      · go_wp2_with fail
        go_roundw
        case rel => exact ⟨k + 1, by omega, by go_num, by rw [HV.out, hq]; simp, HT⟩
        case measure => simp [intOf]; try omega
    · obtain rfl : k = n := by omega
      have HF := Lib.hid (show liveN (es.take k) = liveN es by rw [List.take_of_length_le (by rw [HN.out]; exact Nat.le_refl _)])
      clear hlt
      go_wp2_with fail
      go_ret
      exact ⟨by rw [← HF.out]; rfl, HI.out.1⟩
theorem key_any (k : ByteArray) (h v : Int) (l : Bool) (w : World) : Calls Try.prog 118 #[.agg #[.string k, .int .i64 h, .int .i64 v, .bool l]] w fun r w' => r = .returned (.string k) ∧ Below w.heap.size w w' := by
  go_enter Try.func118, Try.ntmps118
  go_wp2_with fail
  go_ret
  exact ⟨rfl, (Below.refl _ _).alloc (Nat.le_refl _) _⟩
theorem meth_key (v : Value) (w : World) : (method 211 57 v "loop.example/slowworm/impl.key").run Try.prog w = .ok (118, v) w := by kernel_rfl
section
variable {ops : Array Oper} {rest : List Oper} {o : Oper} {a : Act} {w : World} {Q : Exit → Act → World → Prop}
theorem ldEw (hg : Region.wanted o (yielded ops a.tmps) = true) (x : Operand) (ho : o.op = .load 57 x) (g off : Nat) (p q r s : Value) (hx : a.eval x = .pointer (some ⟨g, off, none⟩)) (hl : Lies w g off #[p, q, r, s]) (k : wpList Try.prog ops Q rest (a.put o.dst (.agg #[p, q, r, s])) w) : wpList Try.prog ops Q (o :: rest) a w :=
  Gives.want hg (puts_load 57 x ho g off #[p, q, r, s] hx hl _ Try.underlying57 rfl (by kernel_rfl)).gives k
end
/-- The slots of a table, and its entries. -/
def Tb (w : World) (g : Nat) (ix : List Int) (a : Option Addr) (es : List Ent) : Prop := g < w.heap.size ∧ Ci w g ix ∧ Re w a es
theorem Tb.below {w w' : World} {g : Nat} {ix : List Int} {a : Option Addr} {es : List Ent} (h : Tb w g ix a es) (hb : Below w.heap.size w w') : Tb w' g ix a es := ⟨Nat.lt_of_lt_of_le h.1 hb.size, h.2.1.below hb h.1, h.2.2.below hb⟩
/-- A slot is empty, dropped, or leads to an entry. -/
def slotOk (ix : List Int) (es : List Ent) : Prop := ∀ (s : Nat) (n : Int), ix[s]? = some n → n = -1 ∨ n = -2 ∨ (0 ≤ n ∧ n < es.length)
/-- Whether looking for a key ends at a slot. -/
def endB (ix : List Int) (es : List Ent) (key : ByteArray) (s : Nat) : Bool := ix[s]? == some (-1) || (match ix[s]? with | some n => n != -2 && (match es[n.toNat]? with | some e => e.key.toList == key.toList | none => false) | none => false)
set_option maxHeartbeats 1000000 in
set_option maxRecDepth 20000 in
theorem endsAt_any (ix : List Int) (es : List Ent) (key : ByteArray) (g c1 c2 s : Nat) (a : Option Addr) (w : World) (h : Tb w g ix a es) (hok : slotOk ix es) (hs : s < ix.length) (_hl : es.length ≤ 1048576) (_hm : ix.length ≤ 1048576) :
    Calls Try.prog 94 #[.agg #[.slice (some ⟨g, 0, none⟩) ix.length c1, .slice a es.length c2], .int .i64 (s : Int), .string key] w fun e w' => e = .returned (.bool (endB ix es key s)) ∧ Below w.heap.size w w' := by
  have HT := Lib.hid h
  have HK := Lib.hid key_any
  obtain ⟨n, hix⟩ : ∃ n, ix[s]? = some n := ⟨_, List.getElem?_eq_getElem hs⟩
  have c0 : w.cell? ⟨g, s, none⟩ = some (.int .i64 n) := h.2.1 s _ hix
  have hg := h.1
  have HE : endB ix es key s = (n == -1 || (n != -2 && (match es[n.toNat]? with | some e => e.key.toList == key.toList | none => false))) := by unfold endB; rw [hix]; simp
  have hcase := hok s _ hix
  have s1 : (s : Int) < (ix.length : Int) := by omega
  have s0 : 0 ≤ (s : Int) := by omega
  clear hix h hok hs
  generalize endB ix es key s = r at *
  generalize ix.length = m at *
  rcases hcase with rfl | rfl | ⟨h0, h1⟩
  · obtain rfl : r = true := by rw [HE]; rfl
    clear HE
    go_enter Try.func94, Try.ntmps94
    go_wp2_with fail
    go_ret
    exact ⟨rfl, (Below.refl _ _).alloc (Nat.le_refl _) _⟩
  · obtain rfl : r = false := by rw [HE]; rfl
    clear HE
    go_enter Try.func94, Try.ntmps94
    go_wp2_with fail
    go_ret
    exact ⟨rfl, (Below.refl _ _).alloc (Nat.le_refl _) _⟩
  · obtain ⟨k, rfl⟩ : ∃ k : Nat, n = (k : Int) := ⟨n.toNat, by omega⟩
    obtain ⟨g2, e, rfl, he, hb, c4, c5, c6, c7⟩ := HT.out.2.2.at (show k < es.length by omega)
    rw [Int.toNat_natCast, he] at HE
    have d1 : ((k : Int) == -1) = false := beq_eq_false_iff_ne.2 (by omega)
    have d2 : ((k : Int) != -2) = true := by rw [bne_iff_ne]; omega
    obtain rfl : r = (e.key.toList == key.toList) := by rw [HE, d1, d2]; simp
    have d3 : ((k : Int) != -2) = true := d2
    have hm := meth_key
    have HL := Lib.hid (fun o => lies4 (w := w.alloc o) ((((Below.refl _ w).alloc (Nat.le_refl _) o).cell hb).trans c4) ((((Below.refl _ w).alloc (Nat.le_refl _) o).cell hb).trans c5) ((((Below.refl _ w).alloc (Nat.le_refl _) o).cell hb).trans c6) ((((Below.refl _ w).alloc (Nat.le_refl _) o).cell hb).trans c7))
    clear he c4 c5 c6 c7 HE d3
    generalize es.length = ne at *
    go_enter Try.func94, Try.ntmps94
    go_wp2_with (first | (refine ldEw (o := ⟨some 23, _, _, _, _, _⟩) rfl (.tmp 22) rfl g2 (k * 4) (.string e.key) (.int .i64 e.hash) (.int .i64 e.val) (.bool e.live) rfl (HL.out _) ?_))
    refine (HK.out _ _ _ _ _).mono ?_
    rintro r w2 ⟨rfl, hb2⟩
    have HB := Lib.hid (((Below.refl _ w).alloc (Nat.le_refl _) _).trans (hb2.mono (by simp)))
    clear hb2
    go_wp2_with fail
    go_ret
    exact ⟨rfl, HB.out⟩
/-- The slots of the first so many steps, as values. -/
def prl (m h n : Nat) : List Value := (List.range n).map fun t => Value.int .i64 ((pr m h t).1 : Int)
theorem prl_len (m h n : Nat) : (prl m h n).length = n := by simp [prl]
theorem prl_next (m h n : Nat) : prl m h n ++ [.int .i64 ((pr m h n).1 : Int)] = prl m h (n + 1) := by simp [prl, List.range_succ]
def PrI (w wr : World) (g : Nat) (ix : List Int) (a : Option Addr) (es : List Ent) (m h n : Nat) (v : Value) : Prop := Below w.heap.size w wr ∧ Tb wr g ix a es ∧ Own wr w.heap.size 3 v (prl m h n)
theorem pr_nextI {w w1 w2 : World} {g m h n : Nat} {ix : List Int} {a : Option Addr} {es : List Ent} {v2 : Value} (hi : Below w.heap.size w w1 ∧ Tb w1 g ix a es) (hg : g < w.heap.size) (ho : Own w2 w.heap.size 3 v2 (prl m h n ++ [.int .i64 ((pr m h n).1 : Int)])) (hb : Below w.heap.size w1 w2) (ha : ∀ g2, a = some ⟨g2, 0, none⟩ → g2 < w.heap.size) : PrI w w2 g ix a es m h (n + 1) v2 := by
  refine ⟨hi.1.trans hb, ?_, by rw [← prl_next]; exact ho⟩
  refine ⟨Nat.lt_of_lt_of_le hi.2.1 hb.size, hi.2.2.1.below hb hg, ?_⟩
  rcases hi.2.2.2 with h | ⟨g2, h1, h2⟩
  · exact .inl h
  · exact .inr ⟨g2, h1, h2.below hb (ha g2 h1)⟩
theorem PrI.below {w wr w2 : World} {g m h n : Nat} {ix : List Int} {a : Option Addr} {es : List Ent} {v : Value} (hi : PrI w wr g ix a es m h n v) (hb : Below wr.heap.size wr w2) : PrI w w2 g ix a es m h n v :=
  ⟨hi.1.trans (hb.mono hi.1.size), hi.2.1.below hb, World.ownsRow.kept hi.2.2 (row := none) ⟨hb.os, hb.tape, hb.output, hb.size, fun k hk _ => hb.block k hk⟩ (by
    by_cases e : v.ownBlock = none
    · exact .inl e
    · exact .inr e)⟩
theorem PrI.next {w wr w2 : World} {g m h n : Nat} {ix : List Int} {a : Option Addr} {es : List Ent} {v v2 : Value} (hi : PrI w wr g ix a es m h n v) (hg : g < w.heap.size) (ha : ∀ g2, a = some ⟨g2, 0, none⟩ → g2 < w.heap.size) (ho : Own w2 w.heap.size 3 v2 (prl m h n ++ [.int .i64 ((pr m h n).1 : Int)])) (hb : Below w.heap.size wr w2) : PrI w w2 g ix a es m h (n + 1) v2 := pr_nextI ⟨hi.1, hi.2.1⟩ hg ho hb ha
def PrP (w : World) (g : Nat) (ix : List Int) (a : Option Addr) (es : List Ent) (m h n : Nat) (e : Ending) (w' : World) : Prop := ∃ v, e = .returned v ∧ PrI w w' g ix a es m h n v
theorem rest_eq (m h t : Nat) : ((pr m h t).2 : Int).tdiv 8 = ((pr m h (t + 1)).2 : Int) := by
  rw [Int.tdiv_eq_ediv_of_nonneg (by omega)]
  show _ = (((pr m h t).2 / 8 : Nat) : Int)
  omega
theorem slot_eq (m h t : Nat) : (5 * ((pr m h t).1 : Int) + ((pr m h (t + 1)).2 : Int) + 1).tmod (m : Int) = ((pr m h (t + 1)).1 : Int) := by
  rw [Int.tmod_eq_emod_of_nonneg (by omega)]
  show _ = (((5 * (pr m h t).1 + (pr m h t).2 / 8 + 1) % m : Nat) : Int)
  rw [show (pr m h (t + 1)).2 = (pr m h t).2 / 8 from rfl, Int.natCast_emod]
  congr 1
theorem rest_le {m h : Nat} (hh : h < 65536) (t : Nat) : (pr m h t).2 < 65536 := by
  rw [pr_rest]
  exact Nat.lt_of_le_of_lt (Nat.div_le_self _ _) hh
theorem first_eq (m h : Nat) : ((h : Int)).tmod (m : Int) = ((pr m h 0).1 : Int) := by
  rw [Int.tmod_eq_emod_of_nonneg (by omega)]
  show _ = ((h % m : Nat) : Int)
  omega
def slN : Value → Nat
  | .slice _ n _ => n
  | _ => 0
theorem PrI.len {w wr : World} {g m h n : Nat} {ix : List Int} {a : Option Addr} {es : List Ent} {v : Value} (hi : PrI w wr g ix a es m h n v) : slN v = n := by
  rcases Own.form hi.2.2 with ⟨h1, h2⟩ | ⟨g2, cap, h1, _⟩
  · have := prl_len m h n; rw [h2] at this; rw [h1]; simpa [slN] using this
  · rw [h1]; simp [slN, prl_len]
set_option maxHeartbeats 1000000 in
set_option maxRecDepth 20000 in
theorem probes_any (ix : List Int) (es : List Ent) (key : ByteArray) (g c1 c2 hs T : Nat) (a : Option Addr) (w : World) (h : Tb w g ix a es) (hok : slotOk ix es) (hm8 : slotN ix.length = true) (hl : es.length ≤ 1048576) (hh : hs < 65536) (hT0 : T ≤ 1000) (hT : endB ix es key (pr ix.length hs T).1 = true) (hlt : ∀ t, t < T → endB ix es key (pr ix.length hs t).1 = false) :
    Calls Try.prog 60 #[.agg #[.slice (some ⟨g, 0, none⟩) ix.length c1, .slice a es.length c2], .string key, .int .i64 (hs : Int)] w (PrP (w.alloc (Obj.cells #[.slice (some ⟨g, 0, none⟩) ix.length c1, .slice a es.length c2] 54)) g ix a es ix.length hs (T + 1)) := by
  have hmm : 8 ≤ ix.length ∧ ix.length ≤ 128 := by have := slotN_mem hm8; simp at this; omega
  have HEnd := Lib.hid (fun (s : Nat) w h hs => endsAt_any ix es key g c1 c2 s a w h hok hs hl (by omega))
  obtain ⟨w1, hw1⟩ : ∃ w1, w1 = w.alloc (Obj.cells #[.slice (some ⟨g, 0, none⟩) ix.length c1, .slice a es.length c2] 54) := ⟨_, rfl⟩
  have HT1 := Lib.hid (show Tb w1 g ix a es from by rw [hw1]; exact h.below ((Below.refl _ _).alloc (Nat.le_refl _) _))
  have HBox := Lib.hid (show Blk w1 w.heap.size _ #[.slice (some ⟨g, 0, none⟩) ix.length c1, .slice a es.length c2] from by rw [hw1]; exact Blk.newest w _ _)
  have HG := Lib.hid (show g < w1.heap.size from HT1.out.1)
  have HA := Lib.hid (show ∀ g2, a = some ⟨g2, 0, none⟩ → g2 < w1.heap.size from fun g2 e => by
    rcases HT1.out.2.2 with ⟨h1, _⟩ | ⟨g3, h1, h2⟩
    · rw [h1] at e; cases e
    · rw [h1] at e; injection e with e; injection e with e; subst e; exact h2.1)
  have H0 := Lib.hid (show PrI w1 (w1.alloc (Obj.cells #[.int .i64 ((pr ix.length hs 0).1 : Int)] 3)) g ix a es ix.length hs 1 (.slice (some ⟨w1.heap.size, 0, none⟩) 1 1) from ⟨(Below.refl _ _).alloc (Nat.le_refl _) _, HT1.out.below ((Below.refl _ _).alloc (Nat.le_refl _) _), World.ownsRow_lit w1 #[.int .i64 ((pr ix.length hs 0).1 : Int)] 1 (Nat.le_refl _) (by decide) rfl⟩)
  have e0 := first_eq ix.length hs
  have hsz : w1.heap.size = w.heap.size + 1 := by rw [hw1]; simp
  have HP := Lib.hid (fun t => (show (pr ix.length hs t).1 < ix.length from pr_lt (by omega) t))
  have HR := Lib.hid (fun t => (rest_le hh t : (pr ix.length hs t).2 < 65536))
  have HQ := Lib.hid (fun t => And.intro (rest_eq ix.length hs t) (slot_eq ix.length hs t))
  have HTE := Lib.hid hT
  have HLT := Lib.hid hlt
  have hm0 : ¬ (ix.length : Int) = 0 := by omega
  have hp0 := HP.out 0
  clear h hok hm8 hT hlt
  generalize hmE : ix.length = m at *
  clear hmE
  generalize es.length = ne at *
  have HW1 := Lib.hid hw1
  have HE0 := Lib.hid e0
  clear hw1
  go_enter Try.func60, Try.ntmps60
  go_wp2_with fail
  go_loopw [7, 8, 9] (fun s r v wr => ∃ t : Nat, t ≤ T ∧ s = .int .i64 ((pr m hs t).1 : Int) ∧ r = .int .i64 ((pr m hs t).2 : Int) ∧ Hid (PrI w1 wr g ix a es m hs (t + 1) v)) (fun _ _ v _ => T + 1 - slN v)
  case atStart => exact ⟨0, by omega, by first | rfl | rw [HE0.out] | simp [HE0.out], rfl, Lib.hid (by have h0 := H0.out; rw [HW1.out] at h0 ⊢; simpa using h0)⟩
  case round =>
    obtain ⟨t, ht, rfl, rfl, HI⟩ := hrel
    have HB := Lib.hid (HBox.out.below HI.out.1 (by rw [hsz]; omega))
    have b0 := HB.out.cell 0
    have b1 := HB.out.cell 1
    go_wp2_with fail
    refine (HEnd.out _ _ HI.out.2.1 (HP.out t)).mono ?_
    rintro e w2 ⟨rfl, hb2⟩
    have HI2 := Lib.hid (HI.out.below hb2)
    have HN := Lib.hid HI2.out.len
    have HB2 := Lib.hid (HBox.out.below HI2.out.1 (by rw [hsz]; omega))
    clear hb2 b0 b1
    by_cases hlt : t < T
    · have hE : endB ix es key (pr m hs t).1 = false := HLT.out t hlt
      rw [hE]
      have b0 := HB2.out.cell 0
      obtain ⟨q1, q2⟩ := HQ.out t
      have p1 := HP.out t
      have p2 := HP.out (t + 1)
      have r1 := HR.out t
      have r2 := HR.out (t + 1)
      have HZ := Lib.hid (show w1.heap.size ≤ w2.heap.size from HI2.out.1.size)
      obtain ⟨s', hs'⟩ : ∃ s', s' = (pr m hs (t + 1)).1 := ⟨_, rfl⟩
      obtain ⟨r', hr'⟩ : ∃ r', r' = (pr m hs (t + 1)).2 := ⟨_, rfl⟩
      have HS' := Lib.hid hs'
      have HR' := Lib.hid hr'
      rw [← hs', ← hr'] at q2
      rw [← hr'] at q1
      rw [← hs'] at p2
      rw [← hr'] at r2
      clear hs' hr' hE
      generalize (pr m hs t).1 = s at *
      generalize (pr m hs t).2 = r at *
      have k1 : 0 ≤ 5 * (s : Int) + (r' : Int) + 1 := by omega
      have k2 : 5 * (s : Int) + (r' : Int) + 1 ≤ 100000 := by omega
      go_wp2_with (first | (refine app1 rfl (.tmp 34) (.tmp 36) 23 3 (.int .i64 0) 8 rfl Try.underlying23 (by kernel_rfl) rfl (by decide) w2 w2 _ rfl w1.heap.size _ _ rfl rfl HI2.out.2.2 rfl ?_ HZ.out (Below.refl _ _) ?_; (rw [prl_len]; omega); intro v2 w3 ho hb3 _; have HT := Lib.hid (HI2.out.next HG.out HA.out (by rw [← HS'.out]; exact ho) hb3); clear ho hb3))
      go_roundw
      case rel => exact ⟨t + 1, by omega, by rw [HS'.out], by rw [HR'.out], HT⟩
      case measure => rw [HT.out.len, HN.out]; omega
    · obtain rfl : t = T := by omega
      rw [HTE.out]
      go_wp2_with fail
      go_ret
      exact ⟨_, rfl, by rw [← HW1.out]; exact HI2.out⟩
theorem endB_is {ix : List Int} {es : List Ent} {key : ByteArray} {s : Nat} {n : Int} (h : ix[s]? = some n) : endB ix es key s = (n == -1 || (n != -2 && (match es[n.toNat]? with | some e => e.key.toList == key.toList | none => false))) := by
  unfold endB
  rw [h]
  first | (simp; done) | (simp; cases es[n.toNat]? <;> rfl)
theorem endB_way {ix : List Int} {es : List Ent} {key : ByteArray} {s : Nat} {n : Int} {b : Bool} (h : ix[s]? = some n) (hok : slotOk ix es) (hb : endB ix es key s = b) : (n = -1 ∧ b = true) ∨ (n = -2 ∧ b = false) ∨ ∃ k : Nat, n = (k : Int) ∧ ∃ hk : k < es.length, (es[k].key.toList == key.toList) = b := by
  rw [endB_is h] at hb
  rcases hok s n h with rfl | rfl | ⟨h0, h1⟩
  · exact .inl ⟨rfl, by rw [← hb]; rfl⟩
  · exact .inr (.inl ⟨rfl, by rw [← hb]; rfl⟩)
  · obtain ⟨k, rfl⟩ : ∃ k : Nat, n = (k : Int) := ⟨n.toNat, by omega⟩
    have hk : k < es.length := by omega
    refine .inr (.inr ⟨k, rfl, hk, ?_⟩)
    rw [Int.toNat_natCast, List.getElem?_eq_getElem hk] at hb
    have d1 : ((k : Int) == -1) = false := beq_eq_false_iff_ne.2 (by omega)
    have d2 : ((k : Int) != -2) = true := by rw [bne_iff_ne]; omega
    rw [d1, d2] at hb
    simpa using hb
theorem Tb.ent {w : World} {g g2 k : Nat} {ix : List Int} {es : List Ent} (h : Tb w g ix (some ⟨g2, 0, none⟩) es) (hk : k < es.length) : w.cell? ⟨g2, k * 4, none⟩ = some (.string es[k].key) := by
  rcases h.2.2 with ⟨h1, _⟩ | ⟨g3, h1, h2⟩
  · cases h1
  · injection h1 with h1; injection h1 with h1; subst h1
    exact (h2.2 k _ (List.getElem?_eq_getElem hk)).1
theorem Tb.has {w : World} {g k : Nat} {ix : List Int} {a : Option Addr} {es : List Ent} (h : Tb w g ix a es) (hk : k < es.length) : ∃ g2, a = some ⟨g2, 0, none⟩ := by
  rcases h.2.2 with ⟨_, h2⟩ | ⟨g3, h1, _⟩
  · rw [h2] at hk; simp at hk
  · exact ⟨g3, h1⟩
set_option maxHeartbeats 2000000 in
set_option maxRecDepth 20000 in
theorem probesOf_any (ix : List Int) (es : List Ent) (key : ByteArray) (g c1 c2 T : Nat) (a : Option Addr) (w : World) (h : Tb w g ix a es) (hok : slotOk ix es) (hm8 : slotN ix.length = true) (_hl : es.length ≤ 1048576) (hkey : key.size ≤ 1048576) (hT0 : T ≤ 1000) (hT : endB ix es key (pr ix.length (hsh key.data.toList) T).1 = true) (hlt : ∀ t, t < T → endB ix es key (pr ix.length (hsh key.data.toList) t).1 = false) :
    Calls Try.prog 62 #[.agg #[.slice (some ⟨g, 0, none⟩) ix.length c1, .slice a es.length c2], .string key] w (PrP (w.alloc (Obj.cells #[.slice (some ⟨g, 0, none⟩) ix.length c1, .slice a es.length c2] 26)) g ix a es ix.length (hsh key.data.toList) (T + 1)) := by
  have hmm : 8 ≤ ix.length ∧ ix.length ≤ 128 := by have := slotN_mem hm8; simp at this; omega
  have hh := hsh_lt key.data.toList
  have HHash := Lib.hid (fun w => hashOf_any key w hkey)
  have HW := Lib.hid (fun (s : Nat) (n : Int) (b : Bool) (h : ix[s]? = some n) (hb : endB ix es key s = b) => endB_way h hok hb)
  obtain ⟨w1, hw1⟩ : ∃ w1, w1 = w.alloc (Obj.cells #[.slice (some ⟨g, 0, none⟩) ix.length c1, .slice a es.length c2] 26) := ⟨_, rfl⟩
  have HT1 := Lib.hid (show Tb w1 g ix a es from by rw [hw1]; exact h.below ((Below.refl _ _).alloc (Nat.le_refl _) _))
  have HBox := Lib.hid (show Blk w1 w.heap.size _ #[.slice (some ⟨g, 0, none⟩) ix.length c1, .slice a es.length c2] from by rw [hw1]; exact Blk.newest w _ _)
  have HG := Lib.hid (show g < w1.heap.size from HT1.out.1)
  have HA := Lib.hid (show ∀ g2, a = some ⟨g2, 0, none⟩ → g2 < w1.heap.size from fun g2 e => by
    rcases HT1.out.2.2 with ⟨h1, _⟩ | ⟨g3, h1, h2⟩
    · rw [h1] at e; cases e
    · rw [h1] at e; injection e with e; injection e with e; subst e; exact h2.1)
  generalize hsh key.data.toList = hs at *
  have H0 := Lib.hid (show PrI w1 (w1.alloc (Obj.cells #[] 3)) g ix a es ix.length hs 0 (.slice (some ⟨w1.heap.size, 0, none⟩) 0 0) from ⟨(Below.refl _ _).alloc (Nat.le_refl _) _, HT1.out.below ((Below.refl _ _).alloc (Nat.le_refl _) _), World.ownsRow_lit w1 #[] 0 (Nat.le_refl _) (by decide) rfl⟩)
  have e0 := first_eq ix.length hs
  have hsz : w1.heap.size = w.heap.size + 1 := by rw [hw1]; simp
  have HSZ := Lib.hid (show w.heap.size < w1.heap.size from by omega)
  clear hsz
  have HP := Lib.hid (fun t => (show (pr ix.length hs t).1 < ix.length from pr_lt (by omega) t))
  have HR := Lib.hid (fun t => (rest_le hh t : (pr ix.length hs t).2 < 65536))
  have HQ := Lib.hid (fun t => And.intro (rest_eq ix.length hs t) (slot_eq ix.length hs t))
  have HIx := Lib.hid (show ∀ s, s < ix.length → ∃ n, ix[s]? = some n from fun s hs => ⟨_, List.getElem?_eq_getElem hs⟩)
  have HTE := Lib.hid hT
  have HLT := Lib.hid hlt
  have HW1 := Lib.hid hw1
  have HE0 := Lib.hid e0
  have hm0 : ¬ (ix.length : Int) = 0 := by omega
  have hp0 := HP.out 0
  clear h hok hm8 hT hlt hw1
  generalize hmE : ix.length = m at *
  clear hmE
  go_enter Try.func62, Try.ntmps62
  go_wp2_with (first | (go_at_call 88; refine (HHash.out _).mono ?_; rintro e w' ⟨rfl, rfl⟩))
  go_loopw [6, 7, 8] (fun r s v wr => ∃ t : Nat, t ≤ T ∧ s = .int .i64 ((pr m hs t).1 : Int) ∧ r = .int .i64 ((pr m hs t).2 : Int) ∧ Hid (PrI w1 wr g ix a es m hs t v)) (fun _ _ v _ => T + 1 - slN v)
  case atStart => exact ⟨0, by omega, by first | rfl | rw [HE0.out] | simp [HE0.out], rfl, Lib.hid (by have h0 := H0.out; rw [HW1.out] at h0 ⊢; simpa using h0)⟩
  case round =>
    obtain ⟨t, ht, rfl, rfl, HI⟩ := hrel
    have HL := Lib.hid HI.out.len
    have HMk := Lib.hid (Nat.le_refl 0)
    obtain ⟨n, hn⟩ := HIx.out _ (HP.out t)
    have HN0 := Lib.hid hn
    have HZ := Lib.hid (show w1.heap.size ≤ wr.heap.size from HI.out.1.size)
    obtain ⟨q1, q2⟩ := HQ.out t
    have p1 := HP.out t
    have p2 := HP.out (t + 1)
    have r1 := HR.out t
    have r2 := HR.out (t + 1)
    obtain ⟨s', hs'⟩ : ∃ s', s' = (pr m hs (t + 1)).1 := ⟨_, rfl⟩
    obtain ⟨r', hr'⟩ : ∃ r', r' = (pr m hs (t + 1)).2 := ⟨_, rfl⟩
    obtain ⟨s, hs0⟩ : ∃ s, s = (pr m hs t).1 := ⟨_, rfl⟩
    obtain ⟨r, hr0⟩ : ∃ r, r = (pr m hs t).2 := ⟨_, rfl⟩
    have HS' := Lib.hid hs'
    have HR' := Lib.hid hr'
    have HS := Lib.hid hs0
    have HN := Lib.hid (show ix[s]? = some n by rw [hs0]; exact hn)
    by_cases hlt : t < T
    · have hway := HW.out _ _ _ hn (HLT.out t hlt)
      rw [← hs', ← hr', ← hs0] at q2
      rw [← hr', ← hr0] at q1
      rw [← hs'] at p2
      rw [← hr'] at r2
      rw [← hs0] at p1
      rw [← hr0] at r1
      rw [← hs0, ← hr0]
      clear hs' hr' hs0 hr0 hn
      have k1 : 0 ≤ 5 * (s : Int) + (r' : Int) + 1 := by omega
      have k2 : 5 * (s : Int) + (r' : Int) + 1 ≤ 100000 := by omega
      rcases hway with ⟨_, h⟩ | ⟨rfl, _⟩ | ⟨k, rfl, hk, hq⟩
      · cases h
      · go_wp2_with (first | (clear HMk; refine app1 rfl (.tmp 19) (.tmp 21) 23 3 (.int .i64 0) 8 rfl Try.underlying23 (by kernel_rfl) rfl (by decide) wr wr _ rfl w1.heap.size _ _ rfl rfl HI.out.2.2 rfl ?_ HZ.out (Below.refl _ _) ?_; (rw [prl_len]; omega); intro v2 w3 ho hb3 _; have HT := Lib.hid (HI.out.next HG.out HA.out (by rw [← HS.out]; exact ho) hb3); have HBo := Lib.hid (HBox.out.below HT.out.1 HSZ.out); have b0 := HBo.out.cell 0; have b1 := HBo.out.cell 1; have d0 := HT.out.2.1.2.1 s _ HN.out; clear ho hb3))
        go_roundw
        case rel => exact ⟨t + 1, by omega, by rw [HS'.out], by rw [HR'.out], HT⟩
        case measure => rw [HT.out.len, HL.out]; omega
      · obtain ⟨ek, hek⟩ : ∃ ek, ek = es[k].key := ⟨_, rfl⟩
        have HEk := Lib.hid hek
        have HK := Lib.hid hk
        rw [← hek] at hq
        obtain ⟨g2, rfl⟩ := HI.out.2.1.has hk
        have hk1 : (k : Int) < (es.length : Int) := by omega
        have hkm : ((k : Int) == -1) = false := beq_eq_false_iff_ne.2 (by omega)
        have hk0 : 0 ≤ (k : Int) := by omega
        clear hek
        go_wp2_with (first | (clear HMk; refine app1 rfl (.tmp 19) (.tmp 21) 23 3 (.int .i64 0) 8 rfl Try.underlying23 (by kernel_rfl) rfl (by decide) wr wr _ rfl w1.heap.size _ _ rfl rfl HI.out.2.2 rfl ?_ HZ.out (Below.refl _ _) ?_; (rw [prl_len]; omega); intro v2 w3 ho hb3 _; have HT := Lib.hid (HI.out.next HG.out HA.out (by rw [← HS.out]; exact ho) hb3); have HBo := Lib.hid (HBox.out.below HT.out.1 HSZ.out); have b0 := HBo.out.cell 0; have b1 := HBo.out.cell 1; have d0 := HT.out.2.1.2.1 s _ HN.out; have d1 := HT.out.2.1.ent HK.out; rw [← HEk.out] at d1; clear ho hb3))
        go_roundw
        case rel => exact ⟨t + 1, by omega, by rw [HS'.out], by rw [HR'.out], HT⟩
        case measure => rw [HT.out.len, HL.out]; omega
    · obtain rfl : t = T := by omega
      have hway := HW.out _ _ _ hn HTE.out
      rw [← hs0] at p1
      rw [← hr0] at r1
      rw [← hs0, ← hr0]
      clear hs' hr' hs0 hr0 hn q1 q2 p2 r2 HS' HR'
      rcases hway with ⟨rfl, _⟩ | ⟨_, h⟩ | ⟨k, rfl, hk, hq⟩
      · go_wp2_with (first | (clear HMk; refine app1 rfl (.tmp 19) (.tmp 21) 23 3 (.int .i64 0) 8 rfl Try.underlying23 (by kernel_rfl) rfl (by decide) wr wr _ rfl w1.heap.size _ _ rfl rfl HI.out.2.2 rfl ?_ HZ.out (Below.refl _ _) ?_; (rw [prl_len]; omega); intro v2 w3 ho hb3 _; have HT := Lib.hid (HI.out.next HG.out HA.out (by rw [← HS.out]; exact ho) hb3); have HBo := Lib.hid (HBox.out.below HT.out.1 HSZ.out); have b0 := HBo.out.cell 0; have b1 := HBo.out.cell 1; have d0 := HT.out.2.1.2.1 s _ HN.out; clear ho hb3))
        go_ret
        exact ⟨_, rfl, by rw [← HW1.out]; exact HT.out⟩
      · cases h
      · obtain ⟨ek, hek⟩ : ∃ ek, ek = es[k].key := ⟨_, rfl⟩
        have HEk := Lib.hid hek
        have HK := Lib.hid hk
        rw [← hek] at hq
        obtain ⟨g2, rfl⟩ := HI.out.2.1.has hk
        have hk1 : (k : Int) < (es.length : Int) := by omega
        have hkm : ((k : Int) == -1) = false := beq_eq_false_iff_ne.2 (by omega)
        have hk0 : 0 ≤ (k : Int) := by omega
        clear hek
        go_wp2_with (first | (clear HMk; refine app1 rfl (.tmp 19) (.tmp 21) 23 3 (.int .i64 0) 8 rfl Try.underlying23 (by kernel_rfl) rfl (by decide) wr wr _ rfl w1.heap.size _ _ rfl rfl HI.out.2.2 rfl ?_ HZ.out (Below.refl _ _) ?_; (rw [prl_len]; omega); intro v2 w3 ho hb3 _; have HT := Lib.hid (HI.out.next HG.out HA.out (by rw [← HS.out]; exact ho) hb3); have HBo := Lib.hid (HBox.out.below HT.out.1 HSZ.out); have b0 := HBo.out.cell 0; have b1 := HBo.out.cell 1; have d0 := HT.out.2.1.2.1 s _ HN.out; have d1 := HT.out.2.1.ent HK.out; rw [← HEk.out] at d1; clear ho hb3))
        go_ret
        exact ⟨_, rfl, by rw [← HW1.out]; exact HT.out⟩
theorem PrI.last {w wr : World} {g m h T : Nat} {ix : List Int} {a : Option Addr} {es : List Ent} {v : Value} (hi : PrI w wr g ix a es m h (T + 1) v) : ∃ g' cap, v = .slice (some ⟨g', 0, none⟩) (T + 1) cap ∧ wr.cell? ⟨g', T, none⟩ = some (.int .i64 ((pr m h T).1 : Int)) := by
  rcases Own.form hi.2.2 with ⟨_, h2⟩ | ⟨g2, cap, h1, _, _, _, h5⟩
  · have := prl_len m h (T + 1); rw [h2] at this; simp at this
  · rw [prl_len] at h1
    exact ⟨g2, cap, h1, h5 T _ (by simp [prl])⟩
theorem two_allocs {w w2 : World} {o o' : Obj} (h : Below ((w.alloc o).alloc o').heap.size ((w.alloc o).alloc o') w2) : Below w.heap.size w w2 :=
  (((Below.refl _ _).alloc (Nat.le_refl _) o).alloc (by simp) o').trans (h.mono (by simp; omega))
set_option maxHeartbeats 1000000 in
set_option maxRecDepth 20000 in
theorem slotOf_any (ix : List Int) (es : List Ent) (key : ByteArray) (g c1 c2 T : Nat) (a : Option Addr) (w : World) (h : Tb w g ix a es) (hok : slotOk ix es) (hm8 : slotN ix.length = true) (hl : es.length ≤ 1048576) (hkey : key.size ≤ 1048576) (hT0 : T ≤ 1000) (hT : endB ix es key (pr ix.length (hsh key.data.toList) T).1 = true) (hlt : ∀ t, t < T → endB ix es key (pr ix.length (hsh key.data.toList) t).1 = false) :
    Calls Try.prog 64 #[.agg #[.slice (some ⟨g, 0, none⟩) ix.length c1, .slice a es.length c2], .string key] w fun e w' => e = .returned (.int .i64 ((pr ix.length (hsh key.data.toList) T).1 : Int)) ∧ Below w.heap.size w w' := by
  have HC := Lib.hid (fun o => probesOf_any ix es key g c1 c2 T a (w.alloc o) (h.below ((Below.refl _ _).alloc (Nat.le_refl _) _)) hok hm8 hl hkey hT0 hT hlt)
  clear h hok hm8 hT hlt
  generalize ix.length = m at *
  generalize hsh key.data.toList = hs at *
  go_enter Try.func64, Try.ntmps64
  go_wp2_with fail
  refine (HC.out _).mono ?_
  rintro e w2 ⟨v, rfl, hi⟩
  have HB := Lib.hid (two_allocs hi.1)
  obtain ⟨g', cap, rfl, hc⟩ := hi.last
  have k0 : (T : Int) < ((T + 1 : Nat) : Int) := by omega
  clear hi
  go_wp2_with fail
  go_ret
  exact ⟨rfl, HB.out⟩
set_option maxHeartbeats 1000000 in
set_option maxRecDepth 20000 in
theorem lastProbe_any (ix : List Int) (es : List Ent) (key : ByteArray) (g c1 c2 hs T : Nat) (a : Option Addr) (w : World) (h : Tb w g ix a es) (hok : slotOk ix es) (hm8 : slotN ix.length = true) (hl : es.length ≤ 1048576) (hh : hs < 65536) (hT0 : T ≤ 1000) (hT : endB ix es key (pr ix.length hs T).1 = true) (hlt : ∀ t, t < T → endB ix es key (pr ix.length hs t).1 = false) :
    Calls Try.prog 87 #[.agg #[.slice (some ⟨g, 0, none⟩) ix.length c1, .slice a es.length c2], .string key, .int .i64 (hs : Int)] w fun e w' => e = .returned (.int .i64 ((pr ix.length hs T).1 : Int)) ∧ Below w.heap.size w w' := by
  have HC := Lib.hid (fun o => probes_any ix es key g c1 c2 hs T a (w.alloc o) (h.below ((Below.refl _ _).alloc (Nat.le_refl _) _)) hok hm8 hl hh hT0 hT hlt)
  clear h hok hm8 hT hlt
  generalize ix.length = m at *
  go_enter Try.func87, Try.ntmps87
  go_wp2_with fail
  refine (HC.out _).mono ?_
  rintro e w2 ⟨v, rfl, hi⟩
  have HB := Lib.hid (two_allocs hi.1)
  obtain ⟨g', cap, rfl, hc⟩ := hi.last
  have k0 : (T : Int) < ((T + 1 : Nat) : Int) := by omega
  clear hi
  go_wp2_with fail
  go_ret
  exact ⟨rfl, HB.out⟩
set_option maxHeartbeats 1000000 in
set_option maxRecDepth 20000 in
theorem find_any (ix : List Int) (es : List Ent) (key : ByteArray) (g c1 c2 hs T : Nat) (a : Option Addr) (w : World) (n : Int) (h : Tb w g ix a es) (hok : slotOk ix es) (hm8 : slotN ix.length = true) (hl : es.length ≤ 1048576) (hh : hs < 65536) (hT0 : T ≤ 1000) (hT : endB ix es key (pr ix.length hs T).1 = true) (hlt : ∀ t, t < T → endB ix es key (pr ix.length hs t).1 = false) (hn : ix[(pr ix.length hs T).1]? = some n) :
    Calls Try.prog 53 #[.agg #[.slice (some ⟨g, 0, none⟩) ix.length c1, .slice a es.length c2], .string key, .int .i64 (hs : Int)] w fun e w' => e = .returned (.int .i64 n) ∧ Below w.heap.size w w' := by
  have hmm : 8 ≤ ix.length ∧ ix.length ≤ 128 := by have := slotN_mem hm8; simp at this; omega
  have hp : (pr ix.length hs T).1 < ix.length := pr_lt (by omega) T
  have HC := Lib.hid (fun o => lastProbe_any ix es key g c1 c2 hs T a ((w.alloc o).drew) (h.below (((Below.refl _ _).alloc (Nat.le_refl _) _).drew)) hok hm8 hl hh hT0 hT hlt)
  have HD := Lib.hid (show ∀ w', Below w.heap.size w w' → w'.cell? ⟨g, (pr ix.length hs T).1, none⟩ = some (.int .i64 n) from fun w' hb => (h.below hb).2.1 _ _ hn)
  have HX := Lib.hid (Nat.le_refl w.heap.size)
  clear h hok hm8 hT hlt hn
  generalize ix.length = m at *
  generalize (pr m hs T).1 = s at *
  have s1 : (s : Int) < (m : Int) := by omega
  have s0 : 0 ≤ (s : Int) := by omega
  go_enter Try.func53, Try.ntmps53
  go_wp2_with fail
  go_region_with (first | (refine (HC.out _).mono ?_; rintro e w2 ⟨rfl, hb2⟩; have HB := Lib.hid (show Below w.heap.size w w2 from ((((Below.refl _ w).alloc (Nat.le_refl _) _).drew).trans (hb2.mono (by show w.heap.size ≤ (w.alloc _).heap.size; simp)))); have HBk := Lib.hid (Blk.below (Blk.drew (Blk.newest w _ _)) hb2 (by show w.heap.size < (w.alloc _).heap.size; simp)); have b0 := HBk.out.cell 0; have b1 := HBk.out.cell 1; have d0 := HD.out _ HB.out; clear hb2))
  all_goals (try go_wp2)
  all_goals go_ret
  all_goals exact ⟨rfl, HB.out⟩
end Go.Proofs.Ytibglmcpbbikdaa
