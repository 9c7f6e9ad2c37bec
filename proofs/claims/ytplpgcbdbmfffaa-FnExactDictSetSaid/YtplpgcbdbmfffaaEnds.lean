/- Where looking for a key ends: the program's. -/
import Derived.Test.YtplpgcbdbmfffaaEnt2
import Derived.Test.YtplpgcbdbmfffaaCyc
namespace Go.Proofs.Ytplpgcbdbmfffaa
open Go.RowKit
theorem key_any (k : ByteArray) (h v : Int) (l : Bool) (w : World) : Calls Try.prog 126 #[.agg #[.string k, .int .i64 h, .int .i64 v, .bool l]] w fun r w' => r = .returned (.string k) ∧ Below w.heap.size w w' := by
  go_enter Try.func126, Try.ntmps126
  go_wp2_with fail
  go_ret
  exact ⟨rfl, (Below.refl _ _).alloc (Nat.le_refl _) _⟩
theorem meth_key (v : Value) (w : World) : (method 224 64 v "loop.example/slowworm/impl.key").run Try.prog w = .ok (126, v) w := by kernel_rfl
section
variable {ops : Array Oper} {rest : List Oper} {o : Oper} {a : Act} {w : World} {Q : Exit → Act → World → Prop}
theorem ldEw (hg : Region.wanted o (yielded ops a.tmps) = true) (x : Operand) (ho : o.op = .load 64 x) (g off : Nat) (p q r s : Value) (hx : a.eval x = .pointer (some ⟨g, off, none⟩)) (hl : Lies w g off #[p, q, r, s]) (k : wpList Try.prog ops Q rest (a.put o.dst (.agg #[p, q, r, s])) w) : wpList Try.prog ops Q (o :: rest) a w :=
  Gives.want hg (puts_load 64 x ho g off #[p, q, r, s] hx hl _ Try.underlying64 rfl (by kernel_rfl)).gives k
end
/-- The slots of a table, and its entries. -/
def Tb (w : World) (g : Nat) (ix : List Int) (a : Option Addr) (es : List Ent) : Prop := g < w.heap.size ∧ Ci w g ix ∧ Re w a es
theorem Tb.below {w w' : World} {g : Nat} {ix : List Int} {a : Option Addr} {es : List Ent} (h : Tb w g ix a es) (hb : Below w.heap.size w w') : Tb w' g ix a es := ⟨Nat.lt_of_lt_of_le h.1 hb.size, h.2.1.below hb h.1, h.2.2.below hb⟩
/-- A slot is empty, dropped, or leads to an entry. -/
def slotOk (ix : List Int) (es : List Ent) : Prop := ∀ (s : Nat) (n : Int), ix[s]? = some n → n = -1 ∨ n = -2 ∨ (0 ≤ n ∧ n < es.length)
/-- Whether looking for a key ends at a slot. -/
def endB (ix : List Int) (es : List Ent) (key : ByteArray) (s : Nat) : Bool := ix[s]? == some (-1) || (match ix[s]? with | some n => n != -2 && (match es[n.toNat]? with | some e => e.key.toList == key.toList | none => false) | none => false)
set_option maxHeartbeats 1000000 in
set_option maxRecDepth 20000 in
theorem endsAt_any (ix : List Int) (es : List Ent) (key : ByteArray) (g c1 c2 s : Nat) (a : Option Addr) (w : World) (h : Tb w g ix a es) (hok : slotOk ix es) (hs : s < ix.length) (hl : es.length ≤ 1048576) (hm : ix.length ≤ 1048576) :
    Calls Try.prog 95 #[.agg #[.slice (some ⟨g, 0, none⟩) ix.length c1, .slice a es.length c2], .int .i64 (s : Int), .string key] w fun e w' => e = .returned (.bool (endB ix es key s)) ∧ Below w.heap.size w w' := by
  have HT := Lib.hid h
  have HK := Lib.hid key_any
  obtain ⟨n, hix⟩ : ∃ n, ix[s]? = some n := ⟨_, List.getElem?_eq_getElem hs⟩
  have c0 : w.cell? ⟨g, s, none⟩ = some (.int .i64 n) := h.2.1 s _ hix
  have hg := h.1
  have HE : endB ix es key s = (n == -1 || (n != -2 && (match es[n.toNat]? with | some e => e.key.toList == key.toList | none => false))) := by unfold endB; rw [hix]; simp
  have hcase := hok s _ hix
  have s1 : (s : Int) < (ix.length : Int) := by omega
  have s0 : 0 ≤ (s : Int) := by omega
  clear hix h hok hs
  generalize endB ix es key s = r at *
  generalize ix.length = m at *
  rcases hcase with rfl | rfl | ⟨h0, h1⟩
  · obtain rfl : r = true := by rw [HE]; rfl
    clear HE
    go_enter Try.func95, Try.ntmps95
    go_wp2_with fail
    go_ret
    exact ⟨rfl, (Below.refl _ _).alloc (Nat.le_refl _) _⟩
  · obtain rfl : r = false := by rw [HE]; rfl
    clear HE
    go_enter Try.func95, Try.ntmps95
    go_wp2_with fail
    go_ret
    exact ⟨rfl, (Below.refl _ _).alloc (Nat.le_refl _) _⟩
  · obtain ⟨k, rfl⟩ : ∃ k : Nat, n = (k : Int) := ⟨n.toNat, by omega⟩
    obtain ⟨g2, e, rfl, he, hb, c4, c5, c6, c7⟩ := HT.out.2.2.at (show k < es.length by omega)
    rw [Int.toNat_natCast, he] at HE
    have d1 : ((k : Int) == -1) = false := beq_eq_false_iff_ne.2 (by omega)
    have d2 : ((k : Int) != -2) = true := by rw [bne_iff_ne]; omega
    obtain rfl : r = (e.key.toList == key.toList) := by rw [HE, d1, d2]; simp
    have d3 : ((k : Int) != -2) = true := d2
    have hm := meth_key
    have HL := Lib.hid (fun o => lies4 (w := w.alloc o) ((((Below.refl _ w).alloc (Nat.le_refl _) o).cell hb).trans c4) ((((Below.refl _ w).alloc (Nat.le_refl _) o).cell hb).trans c5) ((((Below.refl _ w).alloc (Nat.le_refl _) o).cell hb).trans c6) ((((Below.refl _ w).alloc (Nat.le_refl _) o).cell hb).trans c7))
    clear he c4 c5 c6 c7 HE d3
    generalize es.length = ne at *
    go_enter Try.func95, Try.ntmps95
    go_wp2_with (first | (refine ldEw (o := ⟨some 23, _, _, _, _, _⟩) rfl (.tmp 22) rfl g2 (k * 4) (.string e.key) (.int .i64 e.hash) (.int .i64 e.val) (.bool e.live) rfl (HL.out _) ?_))
    refine (HK.out _ _ _ _ _).mono ?_
    rintro r w2 ⟨rfl, hb2⟩
    have HB := Lib.hid (((Below.refl _ w).alloc (Nat.le_refl _) _).trans (hb2.mono (by simp)))
    clear hb2
    go_wp2_with fail
    go_ret
    exact ⟨rfl, HB.out⟩
end Go.Proofs.Ytplpgcbdbmfffaa
