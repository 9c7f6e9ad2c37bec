/- How many entries are alive: the program's. -/
import Derived.Test.YtplpgcbdbmfffaaEnt
namespace Go.Proofs.Ytplpgcbdbmfffaa
open Go.RowKit
theorem isLive_any (k : ByteArray) (h v : Int) (l : Bool) (w : World) : Calls Try.prog 125 #[.agg #[.string k, .int .i64 h, .int .i64 v, .bool l]] w fun r w' => r = .returned (.bool l) ∧ Below w.heap.size w w' := by
  go_enter Try.func125, Try.ntmps125
  go_wp2_with fail
  go_ret
  exact ⟨rfl, (Below.refl _ _).alloc (Nat.le_refl _) _⟩
/-- Of an entry laid into an interface, 'isLive' is its own. (224: how deep the model looks: a number of this translation.) -/
theorem meth_isLive (v : Value) (w : World) : (method 224 64 v "loop.example/slowworm/impl.isLive").run Try.prog w = .ok (125, v) w := by kernel_rfl
section
variable {ops : Array Oper} {rest : List Oper} {o : Oper} {a : Act} {w : World} {Q : Exit → Act → World → Prop}
theorem lies4 {g off : Nat} {p q r s : Value} (h0 : w.cell? ⟨g, off, none⟩ = some p) (h1 : w.cell? ⟨g, off + 1, none⟩ = some q) (h2 : w.cell? ⟨g, off + 2, none⟩ = some r) (h3 : w.cell? ⟨g, off + 3, none⟩ = some s) : Lies w g off #[p, q, r, s] := by
  intro j v hj
  rw [addr_add]
  match j, hj with
  | 0, hj => simp at hj; rw [← hj]; exact h0
  | 1, hj => simp at hj; rw [← hj]; exact h1
  | 2, hj => simp at hj; rw [← hj]; exact h2
  | 3, hj => simp at hj; rw [← hj]; exact h3
  | j + 4, hj => simp at hj
theorem ldE (hg : o.guard = none) (x : Operand) (ho : o.op = .load 64 x) (g off : Nat) (p q r s : Value) (hx : a.eval x = .pointer (some ⟨g, off, none⟩)) (hl : Lies w g off #[p, q, r, s]) (k : wpList Try.prog ops Q rest (a.put o.dst (.agg #[p, q, r, s])) w) : wpList Try.prog ops Q (o :: rest) a w :=
  (puts_load 64 x ho g off #[p, q, r, s] hx hl _ Try.underlying64 rfl (by kernel_rfl)).gives.plain hg k
end
theorem ent_next {w wr w2 : World} {a : Option Addr} {es : List Ent} {o : Obj} (h : Below w.heap.size w wr ∧ Re wr a es) (hb : Below (wr.alloc o).heap.size (wr.alloc o) w2) : Below w.heap.size w w2 ∧ Re w2 a es := by
  have h1 : Below wr.heap.size wr w2 := ((Below.refl _ _).alloc (Nat.le_refl _) o).trans (hb.mono (by simp))
  exact ⟨h.1.trans (h1.mono h.1.size), h.2.below h1⟩
set_option maxHeartbeats 1000000 in
set_option maxRecDepth 20000 in
theorem countLive_any (i : Value) (es : List Ent) (a : Option Addr) (cap : Nat) (w : World) (h : Re w a es) (hl : es.length ≤ 1048576) (hi : i.oneCell' = true) :
    Calls Try.prog 63 #[.agg #[i, .slice a es.length cap]] w fun e w' => e = .returned (.int .i64 (liveN es : Int)) ∧ Below w.heap.size w w' := by
  have HR := Lib.hid h
  have HL := Lib.hid isLive_any
  have HA := Lib.hid (show ∀ o, Re (w.alloc o) a es ∧ Below w.heap.size w (w.alloc o) from fun o => ⟨h.below ((Below.refl _ _).alloc (Nat.le_refl _) _), (Below.refl _ _).alloc (Nat.le_refl _) _⟩)
  clear h
  obtain ⟨n, hn⟩ : ∃ n, n = es.length := ⟨_, rfl⟩
  have HN := Lib.hid hn
  rw [← hn] at hl ⊢
  clear hn
  go_enter Try.func63, Try.ntmps63
  go_wp2_with fail
  go_loopw [3, 9] (fun v i wr => ∃ k : Nat, k ≤ n ∧ i = .int .i64 k ∧ v = .int .i64 (liveN (es.take k) : Int) ∧ Hid (Below w.heap.size w wr ∧ Re wr a es)) (fun _ i _ => n - (intOf i).toNat)
  case atStart => exact ⟨0, by omega, rfl, rfl, Lib.hid ⟨(HA.out _).2, (HA.out _).1⟩⟩
  case round =>
    obtain ⟨k, hk, rfl, rfl, HI⟩ := hrel
    by_cases hlt : k < n
    · obtain ⟨g, e, rfl, he, hb, c0, c1, c2, c3⟩ := HI.out.2.at (show k < es.length by have := HN.out; omega)
      have k1 : (k : Int) < (n : Int) := by omega
      have k0 : 0 ≤ (k : Int) := by omega
      have HV := Lib.hid (liveN_next he)
      have hv1 : (liveN (es.take k) : Int) ≤ 1048576 := by have := liveN_le es k; omega
      have hv0 : 0 ≤ (liveN (es.take k) : Int) := by omega
      have hm := meth_isLive
      have HE := Lib.hid (lies4 c0 c1 c2 c3)
      clear he c0 c1 c2 c3
      go_wp2_with (first | (refine ldE (o := ⟨some 12, _, _, _, _, _⟩) rfl (.tmp 11) rfl g (k * 4) (.string e.key) (.int .i64 e.hash) (.int .i64 e.val) (.bool e.live) rfl HE.out ?_))
      refine (HL.out _ _ _ _ _).mono ?_
      rintro r w2 ⟨rfl, hb2⟩
      have HT := Lib.hid (ent_next HI.out hb2)
      clear hb2 hm HE
      cases hq : e.live
      · go_wp2_with fail
        go_roundw
        case rel => exact ⟨k + 1, by omega, by go_num, by rw [HV.out, hq]; rfl, HT⟩
        case measure => simp [intOf]; try omega
      · go_wp2_with fail
        go_roundw
        case rel => exact ⟨k + 1, by omega, by go_num, by rw [HV.out, hq]; simp, HT⟩
        case measure => simp [intOf]; try omega
    · obtain rfl : k = n := by omega
      have HF := Lib.hid (show liveN (es.take k) = liveN es by rw [List.take_of_length_le (by rw [HN.out]; exact Nat.le_refl _)])
      clear hlt
      go_wp2_with fail
      go_ret
      exact ⟨by rw [← HF.out]; rfl, HI.out.1⟩
end Go.Proofs.Ytplpgcbdbmfffaa
