/- The draws of integers, the functions of integers on lists, and the draws of a base and an exponent. -/
import Derived.Test.YtckmpenlpkhnfabMInt
import Derived.Test.YtckmpenlpkhnfabLaws
import Derived.Test.YtckmpenlpkhnfabLaws2
import Derived.Test.YtckmpenlpkhnfabLaws3
namespace Go.Proofs.Ytckmpenlpkhnfab
open Go.RowKit
/-- A drawer in block g: n bytes of a code that lie elsewhere, and how many draws there were. -/
def RI (w : World) (g : Nat) (a : Option Addr) (n cap k : Nat) : Prop := Blk w g 71 #[.slice a n cap, .int .i64 (k : Int)] ∧ n ≤ 4000 ∧ n ≤ cap ∧ (n = 0 ∨ ∃ x : Addr, a = some x ∧ x.block ≠ g ∧ ∀ i : Nat, i < n → ∃ c : Nat, c ≤ 255 ∧ w.cell? (x.add i) = some (.int .u8 (c : Int)))
set_option maxHeartbeats 1000000 in
theorem pick_low (w : World) (g : Nat) (_a : Option Addr) (_n _cap _k : Nat) (m : Int) (hm : m < 2) : Calls Try.prog 41 #[.pointer (some ⟨g, 0, none⟩), .int .i64 m] w fun e w' => e = .returned (.int .i64 0) ∧ w = w' := by
  go_enter Try.func41, Try.ntmps41
  go_wp2
  go_ret
  exact ⟨rfl, rfl⟩
theorem bits_xor_i64 (a b : Nat) (ha : a < 4611686018427387904) (hb : b < 4611686018427387904) : bits .xor .i64 (a : Int) (b : Int) = ((a ^^^ b : Nat) : Int) ∧ (a ^^^ b) < 4611686018427387904 := by
  have hx : a ^^^ b < 2 ^ 62 := Nat.xor_lt_two_pow (by omega) (by omega)
  have h1 : (BitVec.ofInt 64 (a : Int)).toNat = a := by
    rw [BitVec.ofInt_natCast, BitVec.toNat_ofNat]; exact Nat.mod_eq_of_lt (by omega)
  have h2 : (BitVec.ofInt 64 (b : Int)).toNat = b := by
    rw [BitVec.ofInt_natCast, BitVec.toNat_ofNat]; exact Nat.mod_eq_of_lt (by omega)
  refine ⟨?_, by omega⟩
  show IntKind.i64.wrap ((BitVec.ofInt 64 (a : Int) ^^^ BitVec.ofInt 64 (b : Int)).toNat : Int) = _
  rw [BitVec.toNat_xor, h1, h2]
  exact IntWalk.i64_in _ (by omega)
theorem ri_put {w : World} {g n cap k q : Nat} {a : Option Addr} (h : RI w g a n cap k) : w.grownBy ((w.drewN q).setCell ⟨g, 1, none⟩ (.int .i64 ((k : Int) + 1))) (some g) ∧ RI ((w.drewN q).setCell ⟨g, 1, none⟩ (.int .i64 ((k : Int) + 1))) g a n cap (k + 1) := by
  obtain ⟨h1, h2, h3, h4⟩ := h
  refine ⟨⟨rfl, rfl, rfl, by simp, fun j _ hj => heap_setCell_other _ ⟨g, 1, none⟩ j _ (fun e => hj (by simp [e]))⟩, (h1.drewN q).set 1 _, h2, h3, ?_⟩
  rcases h4 with h4 | ⟨x, hx, hxg, hr⟩
  · exact Or.inl h4
  · refine Or.inr ⟨x, hx, hxg, fun i hi => ?_⟩
    obtain ⟨c, hc, hcell⟩ := hr i hi
    refine ⟨c, hc, ?_⟩
    have hb : (x.add i).block = x.block := by unfold Addr.add; split <;> rfl
    rw [World.cell?_of_block (w := w) (show ((w.drewN q).setCell ⟨g, 1, none⟩ (.int .i64 ((k : Int) + 1))).heap[(x.add i).block]? = w.heap[(x.add i).block]? from heap_setCell_other _ ⟨g, 1, none⟩ _ _ (by rw [hb]; exact hxg))]
    exact hcell
def PkP (w : World) (g : Nat) (a : Option Addr) (n cap k : Nat) (m : Int) (e : Ending) (w' : World) : Prop := ∃ r : Nat, e = .returned (.int .i64 (r : Int)) ∧ ((r : Int) < m ∨ r = 0) ∧ w.grownBy w' (some g) ∧ ∃ k', k' ≤ k + 1 ∧ RI w' g a n cap k'
set_option maxHeartbeats 1000000 in
theorem pick_none (w : World) (g : Nat) (a : Option Addr) (cap k : Nat) (m : Int) (h : RI w g a 0 cap k) (hk : k ≤ 100000) (hm : 2 ≤ m) : Calls Try.prog 41 #[.pointer (some ⟨g, 0, none⟩), .int .i64 m] w (PkP w g a 0 cap k m) := by
  have c0 : w.cell? ⟨g, 0, none⟩ = some (.slice a 0 cap) := h.1.cell 0
  have c1 : w.cell? ⟨g, 1, none⟩ = some (.int .i64 (k : Int)) := h.1.cell 1
  have f1 : w.frozen? ⟨g, 1, none⟩ = false := h.1.free 1
  have H := Lib.hid (ri_put (q := 0) h)
  clear h
  go_enter Try.func41, Try.ntmps41
  go_wp2
  go_ret
  exact ⟨0, rfl, Or.inr rfl, H.out.1, k + 1, Nat.le_refl _, H.out.2⟩
set_option maxHeartbeats 4000000 in
theorem pick_some (w : World) (g : Nat) (x : Addr) (n cap k : Nat) (m : Int) (h : RI w g (some x) n cap k) (hn : 0 < n) (hk : k ≤ 100000) (hm : 2 ≤ m) (hm2 : m ≤ 100000) : Calls Try.prog 41 #[.pointer (some ⟨g, 0, none⟩), .int .i64 m] w (PkP w g (some x) n cap k m) := by
  have c0 : w.cell? ⟨g, 0, none⟩ = some (.slice (some x) n cap) := h.1.cell 0
  have c1 : w.cell? ⟨g, 1, none⟩ = some (.int .i64 (k : Int)) := h.1.cell 1
  have f1 : w.frozen? ⟨g, 1, none⟩ = false := h.1.free 1
  have H := Lib.hid (fun q => ri_put (q := q) h)
  have hn4 : n ≤ 4000 := h.2.1
  have hcells : ∀ i : Nat, i < n → ∃ c : Nat, c ≤ 255 ∧ w.cell? (x.add i) = some (.int .u8 (c : Int)) := by
    rcases h.2.2.2 with h0 | ⟨y, hy, _, hr⟩
    · omega
    · injection hy with hy; subst hy; exact hr
  clear h
  have hmod : (k : Int) % (n : Int) = ((k % n : Nat) : Int) := (Int.natCast_emod k n).symm
  have hlt : k % n < n := Nat.mod_lt _ hn
  have hmod2 : ((k : Int) * 7 + 3) % (n : Int) = (((k * 7 + 3) % n : Nat) : Int) := by rw [Int.natCast_emod]; rfl
  have hlt2 : (k * 7 + 3) % n < n := Nat.mod_lt _ hn
  have hquo : (k : Int) / (n : Int) = ((k / n : Nat) : Int) := (Int.natCast_ediv k n).symm
  have hq : k / n ≤ k := Nat.div_le_self _ _
  generalize k % n = j at hmod hlt
  generalize (k * 7 + 3) % n = j2 at hmod2 hlt2
  generalize k / n = u at hquo hq
  obtain ⟨c, hc, c2⟩ := hcells j hlt
  obtain ⟨d, hd, c3⟩ := hcells j2 hlt2
  clear hcells
  by_cases hbig : 256 < m ∨ n ≤ k
  · have hV : ∃ X : Nat, bits .xor .i64 ((c : Int) * 131 + (d : Int) * 1117 + (k : Int) * 29 + (u : Int) * 53) (((c : Int) * 131 + (d : Int) * 1117 + (k : Int) * 29 + (u : Int) * 53) / 64) = (X : Int) ∧ X < 4611686018427387904 := by
      have e1 : (c : Int) * 131 + (d : Int) * 1117 + (k : Int) * 29 + (u : Int) * 53 = ((c * 131 + d * 1117 + k * 29 + u * 53 : Nat) : Int) := by omega
      have e2 : ((c * 131 + d * 1117 + k * 29 + u * 53 : Nat) : Int) / 64 = (((c * 131 + d * 1117 + k * 29 + u * 53) / 64 : Nat) : Int) := by omega
      rw [e1, e2]
      obtain ⟨h1, h2⟩ := bits_xor_i64 (c * 131 + d * 1117 + k * 29 + u * 53) ((c * 131 + d * 1117 + k * 29 + u * 53) / 64) (by omega) (by omega)
      exact ⟨_, h1, h2⟩
    obtain ⟨X, hX, hX2⟩ := hV
    have HR := Lib.hid (show ∃ r : Nat, (X : Int) % m = (r : Int) ∧ (r : Int) < m from ⟨((X : Int) % m).toNat, by have := Int.emod_nonneg (X : Int) (show m ≠ 0 by omega); omega, by have := Int.emod_lt_of_pos (X : Int) (show 0 < m by omega); have := Int.emod_nonneg (X : Int) (show m ≠ 0 by omega); omega⟩)
    rcases Int.lt_or_le 256 m with hb | hb
    · clear hbig
      go_enter Try.func41, Try.ntmps41
      go_wp2
      go_quiet (fail)
      go_wp2
      go_quiet (fail)
      go_wp2
      go_quiet (fail)
      go_wp2
      go_ret
      obtain ⟨r, hr, hrm⟩ := HR.out
      exact ⟨r, by rw [← hr]; rfl, Or.inl hrm, (H.out _).1, k + 1, Nat.le_refl _, (H.out _).2⟩
    · have hnk : n ≤ k := by omega
      clear hbig
      go_enter Try.func41, Try.ntmps41
      go_wp2
      go_quiet (fail)
      go_wp2
      go_quiet (fail)
      go_wp2
      go_quiet (fail)
      go_wp2
      go_ret
      obtain ⟨r, hr, hrm⟩ := HR.out
      exact ⟨r, by rw [← hr]; rfl, Or.inl hrm, (H.out _).1, k + 1, Nat.le_refl _, (H.out _).2⟩
  · have hb : m ≤ 256 := by omega
    have hnk : k < n := by omega
    have HR := Lib.hid (show ∃ r : Nat, (c : Int) % m = (r : Int) ∧ (r : Int) < m from ⟨((c : Int) % m).toNat, by have := Int.emod_nonneg (c : Int) (show m ≠ 0 by omega); omega, by have := Int.emod_lt_of_pos (c : Int) (show 0 < m by omega); have := Int.emod_nonneg (c : Int) (show m ≠ 0 by omega); omega⟩)
    clear hbig
    go_enter Try.func41, Try.ntmps41
    go_wp2
    go_quiet (fail)
    go_wp2
    go_quiet (fail)
    go_wp2
    go_ret
    obtain ⟨r, hr, hrm⟩ := HR.out
    exact ⟨r, by rw [← hr]; rfl, Or.inl hrm, (H.out _).1, k + 1, Nat.le_refl _, (H.out _).2⟩
end Go.Proofs.Ytckmpenlpkhnfab
namespace Go.Proofs.Ytckmpenlpkhnfab
open Go.RowKit
theorem pick_any (w : World) (g : Nat) (a : Option Addr) (n cap k : Nat) (m : Int) (h : RI w g a n cap k) (hk : k ≤ 100000) (hm2 : m ≤ 100000) : Calls Try.prog 41 #[.pointer (some ⟨g, 0, none⟩), .int .i64 m] w (PkP w g a n cap k m) := by
  by_cases hm : m < 2
  · refine (pick_low w g a n cap k m hm).mono ?_
    rintro e w' ⟨rfl, rfl⟩
    exact ⟨0, rfl, Or.inr rfl, World.grownBy.refl _ _, k, by omega, h⟩
  · by_cases hn : n = 0
    · subst hn
      exact pick_none w g a cap k m h hk (by omega)
    · rcases h.2.2.2 with h0 | ⟨x, rfl, _⟩
      · exact absurd h0 hn
      · exact pick_some w g x n cap k m h (by omega) hk (by omega) hm2
/-- What a drawer hands back in a world where it alone was written. -/
def DrP (w : World) (g : Nat) (a : Option Addr) (n cap k j : Nat) (w' : World) : Prop := w.grownBy w' (some g) ∧ ∃ k', k' ≤ k + j ∧ RI w' g a n cap k'
set_option maxHeartbeats 1000000 in
theorem one_any (w : World) (g : Nat) (a : Option Addr) (n cap k : Nat) (l : List Nat) (b lc : Nat) (h : RI w g a n cap k) (hk : k ≤ 100000) (hl : 0 < l.length) (hl2 : l.length ≤ 1000) (hbg : b ≠ g) (hr : ∀ j d : Nat, l[j]? = some d → w.cell? ⟨b, j, none⟩ = some (.int .i64 (d : Int))) :
    Calls Try.prog 55 #[.pointer (some ⟨g, 0, none⟩), .slice (some ⟨b, 0, none⟩) l.length lc] w fun e w' => (∃ d, d ∈ l ∧ e = .returned (.int .i64 (d : Int))) ∧ DrP w g a n cap k 1 w' := by
  have HP := Lib.hid (pick_any w g a n cap k (l.length : Int) h hk (by omega))
  have HR := Lib.hid hr
  clear hr h
  go_enter Try.func55, Try.ntmps55
  go_wp2_with fail
  refine HP.out.mono ?_
  rintro e w2 ⟨r, rfl, hrl, hgr, hk'⟩
  have hrl2 : r < l.length := by omega
  obtain ⟨d, hd⟩ : ∃ d, l[r]? = some d := ⟨l[r], List.getElem?_eq_getElem hrl2⟩
  have c1 : w2.cell? ⟨b, r, none⟩ = some (.int .i64 (d : Int)) := hgr.cell (HR.out r d hd) (fun e => hbg (by simpa using e))
  have HM := Lib.hid (List.mem_of_getElem? hd)
  have HD := Lib.hid (show DrP w g a n cap k 1 w2 from ⟨hgr, hk'⟩)
  clear hd hgr hk' hrl
  go_wp2_with fail
  go_ret
  exact ⟨⟨d, HM.out, rfl⟩, HD.out⟩
set_option maxHeartbeats 1000000 in
theorem of_any (w : World) (g : Nat) (a : Option Addr) (n cap k : Nat) (l : List ByteArray) (b lc : Nat) (h : RI w g a n cap k) (hk : k ≤ 100000) (hl : 0 < l.length) (hl2 : l.length ≤ 1000) (hbg : b ≠ g) (hr : ∀ (j : Nat) (d : ByteArray), l[j]? = some d → w.cell? ⟨b, j, none⟩ = some (.string d)) :
    Calls Try.prog 52 #[.pointer (some ⟨g, 0, none⟩), .slice (some ⟨b, 0, none⟩) l.length lc] w fun e w' => (∃ d, d ∈ l ∧ e = .returned (.string d)) ∧ DrP w g a n cap k 1 w' := by
  have HP := Lib.hid (pick_any w g a n cap k (l.length : Int) h hk (by omega))
  have HR := Lib.hid hr
  clear hr h
  go_enter Try.func52, Try.ntmps52
  go_wp2_with fail
  refine HP.out.mono ?_
  rintro e w2 ⟨r, rfl, hrl, hgr, hk'⟩
  have hrl2 : r < l.length := by omega
  obtain ⟨d, hd⟩ : ∃ d, l[r]? = some d := ⟨l[r], List.getElem?_eq_getElem hrl2⟩
  have c1 : w2.cell? ⟨b, r, none⟩ = some (.string d) := hgr.cell (HR.out r d hd) (fun e => hbg (by simpa using e))
  have HM := Lib.hid (List.mem_of_getElem? hd)
  have HD := Lib.hid (show DrP w g a n cap k 1 w2 from ⟨hgr, hk'⟩)
  clear hd hgr hk' hrl
  go_wp2_with fail
  go_ret
  exact ⟨⟨d, HM.out, rfl⟩, HD.out⟩
/-- Some text of at most so many bytes. -/
def TxP (w : World) (b : Nat) (e : Ending) (w' : World) : Prop := ∃ l : List UInt8, e = .returned (.string ⟨l.toArray⟩) ∧ l.length ≤ b ∧ Below w.heap.size w w'
set_option maxHeartbeats 1000000 in
theorem positive_up (y : Nat) (w : World) (hy : y ≤ 1000) : Calls Try.prog 79 #[.int .i64 (y : Int)] w (TxP w 1001) := by
  go_enter Try.func79, Try.ntmps79
  go_wp2
  go_loopw [0, 3] (fun z v wr => ∃ (x : Nat) (l : List UInt8), z = .int .i64 (x : Int) ∧ v = .string ⟨l.toArray⟩ ∧ l.length + x ≤ 1000 ∧ Hid (Below w.heap.size w wr)) (fun z _ _ => (intOf z).toNat)
  case atStart => exact ⟨y, [], rfl, rfl, by simpa using hy, Lib.hid (Below.refl _ _)⟩
  case round =>
    obtain ⟨x, l, rfl, rfl, hl, HI⟩ := hrel
    have HD := Lib.hid (show (48 : Int) + (x : Int) % 10 = ((dch (x % 10)).toNat : Int) by rw [dch_toNat (Nat.mod_lt _ (by decide))]; omega)
    have HI2 := Lib.hid (HI.out.alloc HI.out.size (.cells #[.int .u8 (48 + (x : Int) % 10)] 5))
    have HL := Lib.hid (show l.length ≤ 1000 by omega)
    by_cases h0 : x / 10 = 0
    · have hz : ((x : Int) / 10 == 0) = true := beq_iff_eq.2 (by omega)
      clear h0
      go_wp2_with (first | (refine (puts_text 22 9 5 (.tmp 14) rfl Try.underlying22 Try.underlying5 Try.underlying9 wr.heap.size _ [dch (x % 10)] rfl (lit8 wr _ _ HD.out)).gives.plain rfl ?_) | (refine (puts_cons 9 9 (.tmp 15) (.tmp 16) rfl (dch (x % 10)) l rfl rfl HL.out).gives.plain rfl ?_))
      go_ret
      exact ⟨_, rfl, by have := HL.out; simp; omega, HI2.out⟩
    · have hz : ((x : Int) / 10 == 0) = false := beq_eq_false_iff_ne.2 (by omega)
      go_wp2_with (first | (refine (puts_text 22 9 5 (.tmp 14) rfl Try.underlying22 Try.underlying5 Try.underlying9 wr.heap.size _ [dch (x % 10)] rfl (lit8 wr _ _ HD.out)).gives.plain rfl ?_) | (refine (puts_cons 9 9 (.tmp 15) (.tmp 16) rfl (dch (x % 10)) l rfl rfl HL.out).gives.plain rfl ?_))
      go_roundw
      case rel => exact ⟨x / 10, dch (x % 10) :: l, by go_num, rfl, by simp; omega, HI2⟩
      case measure => simp [intOf]; try omega
end Go.Proofs.Ytckmpenlpkhnfab
namespace Go.Proofs.Ytckmpenlpkhnfab
open Go.RowKit
section
variable {P : Program} {o : Oper} {a : Act} {w : World}
/-- One byte ahead of a text. -/
theorem puts_cons2 (T T' : TypeId) (x y : Operand) (ho : o.op = .binOp .add T x y T') (c : UInt8) (l : List UInt8) (hx : a.eval x = .string ⟨#[c]⟩) (hy : a.eval y = .string ⟨l.toArray⟩) (hl : l.length ≤ 10000000) : Puts P o a w (.string ⟨(c :: l).toArray⟩) := by
  have h1 : (⟨#[c]⟩ : ByteArray).size = 1 := rfl
  have h2 : (⟨l.toArray⟩ : ByteArray).size = l.length := by simp [ByteArray.size]
  have h := run_string_add_sum (P := P) w ⟨#[c]⟩ ⟨l.toArray⟩ (by rw [h1, h2]; omega)
  rw [cat_cons] at h
  unfold Puts execOp
  simp only [ho, hx, hy]
  simp [eqGuard, go_sem, h]
/-- Two texts. -/
theorem puts_cat2 (T T' : TypeId) (x y : Operand) (ho : o.op = .binOp .add T x y T') (m l : List UInt8) (hx : a.eval x = .string ⟨m.toArray⟩) (hy : a.eval y = .string ⟨l.toArray⟩) (hm : m.length ≤ 10000000) (hl : l.length ≤ 10000000) : Puts P o a w (.string ⟨(m ++ l).toArray⟩) := by
  have h1 : (⟨m.toArray⟩ : ByteArray).size = m.length := by simp [ByteArray.size]
  have h2 : (⟨l.toArray⟩ : ByteArray).size = l.length := by simp [ByteArray.size]
  have h := run_string_add_sum (P := P) w ⟨m.toArray⟩ ⟨l.toArray⟩ (by rw [h1, h2]; omega)
  have e : (⟨m.toArray⟩ ++ ⟨l.toArray⟩ : ByteArray) = ⟨(m ++ l).toArray⟩ := by apply ByteArray.ext; simp
  rw [e] at h
  unfold Puts execOp
  simp only [ho, hx, hy]
  simp [eqGuard, go_sem, h]
end
set_option maxHeartbeats 2000000 in
theorem positive_down (y : Nat) (w : World) (hy : y ≤ 1000) (hy0 : 0 < y) : Calls Try.prog 79 #[.int .i64 (-(y : Int))] w (TxP w 1001) := by
  go_enter Try.func79, Try.ntmps79
  go_wp2
  go_loopw [0, 3] (fun z v wr => ∃ (x : Nat) (l : List UInt8), 0 < x ∧ z = .int .i64 (-(x : Int)) ∧ v = .string ⟨l.toArray⟩ ∧ l.length + x ≤ 1000 ∧ Hid (Below w.heap.size w wr)) (fun z _ _ => (- intOf z).toNat)
  case atStart => exact ⟨y, [], hy0, rfl, rfl, by simpa using hy, Lib.hid (Below.refl _ _)⟩
  case round =>
    obtain ⟨x, l, hx, rfl, rfl, hl, HI⟩ := hrel
    have HL := Lib.hid (show l.length ≤ 1000 by omega)
    by_cases h5 : 0 < (x : Int) % 10
    · by_cases h0 : x / 10 = 0
      · skip
        have HD := Lib.hid (show (48 + (x : Int) % 10) = ((dch (x % 10)).toNat : Int) by rw [dch_toNat (by omega)]; omega)
        have HI2 := Lib.hid (HI.out.alloc HI.out.size (.cells #[.int .u8 (48 + (x : Int) % 10)] 5))
        have hz : (-((x : Int) / 10) == 0) = true := beq_iff_eq.2 (by omega)
        have hz2 : ((x : Int) / 10 == 0) = true := beq_iff_eq.2 (by omega)
        clear h0
        go_wp2_with (first | (refine (puts_text 22 9 5 (.tmp 14) rfl Try.underlying22 Try.underlying5 Try.underlying9 wr.heap.size _ [dch (x % 10)] rfl (lit8 wr _ _ HD.out)).gives.plain rfl ?_) | (refine (puts_cons 9 9 (.tmp 15) (.tmp 16) rfl (dch (x % 10)) l rfl rfl HL.out).gives.plain rfl ?_))
        go_ret
        exact ⟨_, rfl, by have := HL.out; simp; omega, HI2.out⟩
      · skip
        have HD := Lib.hid (show (48 + (x : Int) % 10) = ((dch (x % 10)).toNat : Int) by rw [dch_toNat (by omega)]; omega)
        have HI2 := Lib.hid (HI.out.alloc HI.out.size (.cells #[.int .u8 (48 + (x : Int) % 10)] 5))
        have hz : (-((x : Int) / 10) == 0) = false := beq_eq_false_iff_ne.2 (by omega)
        have hz2 : ((x : Int) / 10 == 0) = false := beq_eq_false_iff_ne.2 (by omega)
        go_wp2_with (first | (refine (puts_text 22 9 5 (.tmp 14) rfl Try.underlying22 Try.underlying5 Try.underlying9 wr.heap.size _ [dch (x % 10)] rfl (lit8 wr _ _ HD.out)).gives.plain rfl ?_) | (refine (puts_cons 9 9 (.tmp 15) (.tmp 16) rfl (dch (x % 10)) l rfl rfl HL.out).gives.plain rfl ?_))
        go_roundw
        case rel => exact ⟨x / 10, dch (x % 10) :: l, by omega, by go_num, rfl, by simp; omega, HI2⟩
        case measure => simp [intOf]; try omega
    · have h5' : (x : Int) % 10 ≤ 0 := by omega
      clear h5
      by_cases h0 : x / 10 = 0
      · exfalso; omega
      · skip
        have HD := Lib.hid (show (48 + -((x : Int) % 10)) = ((dch 0).toNat : Int) by rw [dch_toNat (by omega)]; omega)
        have HI2 := Lib.hid (HI.out.alloc HI.out.size (.cells #[.int .u8 (48 + -((x : Int) % 10))] 5))
        have hz : (-((x : Int) / 10) == 0) = false := beq_eq_false_iff_ne.2 (by omega)
        have hz2 : ((x : Int) / 10 == 0) = false := beq_eq_false_iff_ne.2 (by omega)
        go_wp2_with (first | (refine (puts_text 22 9 5 (.tmp 14) rfl Try.underlying22 Try.underlying5 Try.underlying9 wr.heap.size _ [dch 0] rfl (lit8 wr _ _ HD.out)).gives.plain rfl ?_) | (refine (puts_cons 9 9 (.tmp 15) (.tmp 16) rfl (dch 0) l rfl rfl HL.out).gives.plain rfl ?_))
        go_roundw
        case rel => exact ⟨x / 10, dch 0 :: l, by omega, by go_num, rfl, by simp; omega, HI2⟩
        case measure => simp [intOf]; try omega
set_option maxHeartbeats 1000000 in
theorem decimal_any (z : Int) (w : World) (h1 : -1000 ≤ z) (h2 : z ≤ 1000) : Calls Try.prog 69 #[.int .i64 z] w (TxP w 1002) := by
  by_cases hneg : z < 0
  · obtain ⟨y, rfl⟩ : ∃ y : Nat, z = -(y : Int) := ⟨(-z).toNat, by omega⟩
    have HP := Lib.hid (fun w => positive_down y w (by omega) (by omega))
    go_enter Try.func69, Try.ntmps69
    go_wp2_with fail
    refine (HP.out _).mono ?_
    rintro e w2 ⟨l, rfl, hl, hb⟩
    have HB := Lib.hid hb
    have HL := Lib.hid hl
    clear hb hl
    go_wp2_with (first | (refine (puts_cons2 9 9 (.const (.string ⟨#[45]⟩)) (.tmp 6) rfl 45 l rfl rfl (by have := HL.out; omega)).gives.plain rfl ?_))
    go_ret
    exact ⟨_, rfl, by have := HL.out; simp; omega, HB.out⟩
  · obtain ⟨y, rfl⟩ : ∃ y : Nat, z = (y : Int) := ⟨z.toNat, by omega⟩
    have HP := Lib.hid (fun w => positive_up y w (by omega))
    go_enter Try.func69, Try.ntmps69
    go_wp2_with fail
    refine (HP.out _).mono ?_
    rintro e w2 ⟨l, rfl, hl, hb⟩
    have HB := Lib.hid hb
    have HL := Lib.hid hl
    clear hb hl
    go_wp2_with fail
    go_ret
    exact ⟨_, rfl, by have := HL.out; omega, HB.out⟩
end Go.Proofs.Ytckmpenlpkhnfab
namespace Go.Proofs.Ytckmpenlpkhnfab
open Go.RowKit
theorem grown_trans {a b c : World} {row : Option Nat} (h : a.grownBy b row) (k : b.grownBy c row) : a.grownBy c row :=
  ⟨k.os.trans h.os, k.tape.trans h.tape, k.output.trans h.output, Nat.le_trans h.size k.size, fun i hi hne => (k.block i (Nat.lt_of_lt_of_le hi h.size) hne).trans (h.block i hi hne)⟩
theorem grown_below {w w' : World} {row : Option Nat} (h : Below w.heap.size w w') : w.grownBy w' row := ⟨h.os, h.tape, h.output, h.size, fun i hi _ => h.block i hi⟩
theorem ri_below {w w' : World} {g n cap k : Nat} {a : Option Addr} (h : RI w g a n cap k) (hb : Below w.heap.size w w') : RI w' g a n cap k := by
  obtain ⟨h1, h2, h3, h4⟩ := h
  refine ⟨h1.below hb h1.lt, h2, h3, ?_⟩
  rcases h4 with h4 | ⟨x, hx, hxg, hr⟩
  · exact Or.inl h4
  · refine Or.inr ⟨x, hx, hxg, fun i hi => ?_⟩
    obtain ⟨c, hc, hcell⟩ := hr i hi
    exact ⟨c, hc, by rw [hb.cell (World.block_lt_of_cell? w _ hcell)]; exact hcell⟩
theorem DrP.zero {w : World} {g n cap k : Nat} {a : Option Addr} (h : RI w g a n cap k) : DrP w g a n cap k 0 w := ⟨World.grownBy.refl _ _, k, by omega, h⟩
theorem DrP.below {w w1 w2 : World} {g n cap k j : Nat} {a : Option Addr} (h : DrP w g a n cap k j w1) (hb : Below w1.heap.size w1 w2) : DrP w g a n cap k j w2 := by
  obtain ⟨hg, k', hk, hr⟩ := h
  exact ⟨grown_trans hg (grown_below hb), k', hk, ri_below hr hb⟩
theorem DrP.then {w w1 w2 : World} {g n cap k k1 j j2 : Nat} {a : Option Addr} (hg : w.grownBy w1 (some g)) (hk : k1 ≤ k + j) (h : DrP w1 g a n cap k1 j2 w2) : DrP w g a n cap k (j + j2) w2 := by
  obtain ⟨hg2, k', hk2, hr⟩ := h
  exact ⟨grown_trans hg hg2, k', by omega, hr⟩
theorem DrP.more {w w1 : World} {g n cap k j j2 : Nat} {a : Option Addr} (h : DrP w g a n cap k j w1) (hj : j ≤ j2) : DrP w g a n cap k j2 w1 := by
  obtain ⟨hg, k', hk, hr⟩ := h
  exact ⟨hg, k', by omega, hr⟩
theorem lit_cell (w : World) (cs : Array Value) (t : TypeId) (j : Nat) : (w.alloc (.cells cs t)).cell? ⟨w.heap.size, j, none⟩ = cs[j]? := (Blk.newest w t cs).cell j
theorem of_lit {w : World} {g n cap k : Nat} {a : Option Addr} (l : List ByteArray) (h : RI w g a n cap k) (hk : k ≤ 100000) (hl : 0 < l.length) (hl2 : l.length ≤ 1000) :
    Calls Try.prog 52 #[.pointer (some ⟨g, 0, none⟩), .slice (some ⟨w.heap.size, 0, none⟩) l.length l.length] (w.alloc (.cells (l.map Value.string).toArray 9)) fun e w' => (∃ d, d ∈ l ∧ e = .returned (.string d)) ∧ DrP w g a n cap k 1 w' := by
  have hb : Below w.heap.size w (w.alloc (.cells (l.map Value.string).toArray 9)) := (Below.refl _ _).alloc (Nat.le_refl _) _
  have hlt := h.1.lt
  refine (of_any _ g a n cap k l w.heap.size l.length (ri_below h hb) hk hl hl2 (by omega) fun j d hj => by rw [lit_cell]; simp [hj]).mono ?_
  rintro e w' ⟨he, hd⟩
  refine ⟨he, ?_⟩
  have := DrP.then (w := w) (k := k) (j := 0) (grown_below hb) (by omega) hd
  simpa using this
theorem one_lit {w : World} {g n cap k : Nat} {a : Option Addr} (l : List Nat) (h : RI w g a n cap k) (hk : k ≤ 100000) (hl : 0 < l.length) (hl2 : l.length ≤ 1000) :
    Calls Try.prog 55 #[.pointer (some ⟨g, 0, none⟩), .slice (some ⟨w.heap.size, 0, none⟩) l.length l.length] (w.alloc (.cells (li l).toArray 3)) fun e w' => (∃ d, d ∈ l ∧ e = .returned (.int .i64 (d : Int))) ∧ DrP w g a n cap k 1 w' := by
  have hb : Below w.heap.size w (w.alloc (.cells (li l).toArray 3)) := (Below.refl _ _).alloc (Nat.le_refl _) _
  have hlt := h.1.lt
  refine (one_any _ g a n cap k l w.heap.size l.length (ri_below h hb) hk hl hl2 (by omega) fun j d hj => by rw [lit_cell]; simpa using li_get hj).mono ?_
  rintro e w' ⟨he, hd⟩
  refine ⟨he, ?_⟩
  have := DrP.then (w := w) (k := k) (j := 0) (grown_below hb) (by omega) hd
  simpa using this
theorem pk_dr {w w' : World} {g n cap k : Nat} {a : Option Addr} (hg : w.grownBy w' (some g)) (h : ∃ k', k' ≤ k + 1 ∧ RI w' g a n cap k') : DrP w g a n cap k 1 w' := ⟨hg, h⟩
/-- What the drawer's functions of texts hand back: some text of at most so many bytes. -/
def DtP (w : World) (g : Nat) (a : Option Addr) (n cap k j b : Nat) (e : Ending) (w' : World) : Prop := (∃ l : List UInt8, e = .returned (.string ⟨l.toArray⟩) ∧ l.length ≤ b) ∧ DrP w g a n cap k j w'
end Go.Proofs.Ytckmpenlpkhnfab
namespace Go.Proofs.Ytckmpenlpkhnfab
open Go.RowKit
def oddL : List ByteArray := [⟨#[]⟩, ⟨#[45]⟩, ⟨#[45, 48]⟩, ⟨#[48, 49]⟩, ⟨#[49, 97]⟩, ⟨#[32, 49]⟩, ⟨#[43, 49]⟩, ⟨#[48, 48]⟩]
def evenL : List ByteArray := [⟨#[48]⟩, ⟨#[49]⟩, ⟨#[45, 49]⟩, ⟨#[57]⟩, ⟨#[49, 48]⟩, ⟨#[45, 49, 48]⟩, ⟨#[57, 57]⟩, ⟨#[49, 48, 48]⟩]
theorem oddL_le : ∀ d ∈ oddL, d.size ≤ 10 := by decide
theorem evenL_le : ∀ d ∈ evenL, d.size ≤ 10 := by decide
theorem as_list (d : ByteArray) : d = ⟨d.data.toList.toArray⟩ := by cases d; simp
def widths : List Nat := [2, 5, 12, 19, 20, 38, 39, 40, 40, 41]
def nines : List Nat := [9, 9, 1]
theorem widths_le : ∀ d ∈ widths, d ≤ 41 := by decide
theorem nines_le : ∀ d ∈ nines, d ≤ 9 := by decide
set_option maxHeartbeats 8000000 in
theorem integer_draw (w : World) (g n cap k : Nat) (a : Option Addr) (h : RI w g a n cap k) (hk : k ≤ 50000) :
    Calls Try.prog 40 #[.pointer (some ⟨g, 0, none⟩)] w (DtP w g a n cap k 200 50000) := by
  have HP := Lib.hid (pick_any w g a n cap k 14 h (by omega) (by decide))
  clear h
  go_enter Try.func40, Try.ntmps40
  go_wp2_with fail
  refine HP.out.mono ?_
  rintro e w1 ⟨r, rfl, hrl, hg1, k1, hk1, hR1⟩
  have HG1 := Lib.hid hg1
  have HR1 := Lib.hid hR1
  have hr14 : r < 14 := by omega
  clear hrl hg1 hR1 HP
  by_cases h0 : r = 0
  · subst h0
    go_wp2_with fail
    refine (of_lit oddL HR1.out (by omega) (by decide) (by decide)).mono ?_
    rintro e w2 ⟨⟨d, hd, rfl⟩, hD⟩
    have HM := Lib.hid (oddL_le d hd)
    have HD := Lib.hid ((DrP.then HG1.out hk1 hD).more (show 1 + 1 ≤ 200 by omega))
    clear hd hD
    go_wp2_with fail
    go_ret
    exact ⟨⟨d.data.toList, by rw [← as_list]; rfl, by have := HM.out; show d.size ≤ 50000; omega⟩, HD.out⟩
  · by_cases h1 : r = 1
    · subst h1
      go_wp2_with fail
      refine (of_lit evenL HR1.out (by omega) (by decide) (by decide)).mono ?_
      rintro e w2 ⟨⟨d, hd, rfl⟩, hD⟩
      have HM := Lib.hid (evenL_le d hd)
      have HD := Lib.hid ((DrP.then HG1.out hk1 hD).more (show 1 + 1 ≤ 200 by omega))
      clear hd hD
      go_wp2_with fail
      go_ret
      exact ⟨⟨d.data.toList, by rw [← as_list]; rfl, by have := HM.out; show d.size ≤ 50000; omega⟩, HD.out⟩
    · by_cases h2 : r ≤ 4
      · have hc : r = 2 ∨ r = 3 ∨ r = 4 := by omega
        clear h0 h1 h2
        rcases hc with rfl | rfl | rfl
        all_goals
          go_wp2_with fail
          refine (pick_any w1 g a n cap k1 2000 HR1.out (by omega) (by decide)).mono ?_
          rintro e w2 ⟨z, rfl, hzl, hg2, hk2⟩
          have hz : (z : Int) ≤ 2000 := by omega
          have HD2 := Lib.hid (DrP.then HG1.out hk1 (pk_dr hg2 hk2))
          clear hzl hg2 hk2
          go_wp2_with fail
          refine (decimal_any _ _ (by omega) (by omega)).mono ?_
          rintro e w3 ⟨l, rfl, hl, hb3⟩
          have HL := Lib.hid hl
          have HD3 := Lib.hid ((HD2.out.below hb3).more (show 1 + 1 ≤ 200 by omega))
          clear hl hb3
          go_wp2_with fail
          go_ret
          exact ⟨⟨l, rfl, by have := HL.out; omega⟩, HD3.out⟩
      · have e0 : ((r : Int) == 0) = false := beq_eq_false_iff_ne.2 (by omega)
        have e1 : ((r : Int) == 1) = false := beq_eq_false_iff_ne.2 (by omega)
        have e2 : ((r : Int) == 2) = false := beq_eq_false_iff_ne.2 (by omega)
        have e3 : ((r : Int) == 3) = false := beq_eq_false_iff_ne.2 (by omega)
        have e4 : ((r : Int) == 4) = false := beq_eq_false_iff_ne.2 (by omega)
        clear h0 h1
        go_wp2_with fail
        refine (one_lit widths HR1.out (by omega) (by decide) (by decide)).mono ?_
        rintro e w2 ⟨⟨N, hN, rfl⟩, hD⟩
        have hN41 := widths_le N hN
        have HD := Lib.hid (DrP.then HG1.out hk1 hD)
        clear hN hD
        go_wp2_with fail
        go_loopw [3, 5] (fun v i wr => ∃ (j : Nat) (l : List UInt8), j ≤ N ∧ i = .int .i64 (j : Int) ∧ v = .string ⟨l.toArray⟩ ∧ l.length ≤ 1002 * j ∧ Hid (DrP w g a n cap k (2 + 3 * j) wr)) (fun _ i _ => N - (intOf i).toNat)
        case atStart => exact ⟨0, [], by omega, rfl, rfl, by simp, HD⟩
        case round =>
          obtain ⟨j, l, hj, rfl, rfl, hl, HI⟩ := hrel
          obtain ⟨hgI, kI, hkI, hRI⟩ := HI.out
          have HGI := Lib.hid hgI
          have HRI := Lib.hid hRI
          clear hgI hRI
          by_cases hlt : j < N
          · skip
            go_wp2_with fail
            refine (pick_any _ g a n cap kI 10 HRI.out (by omega) (by decide)).mono ?_
            rintro e w3 ⟨d, rfl, hdl, hg3, k3, hk3, hR3⟩
            have HG3 := Lib.hid (grown_trans HGI.out hg3)
            have HR3 := Lib.hid hR3
            have hd9 : d ≤ 9 := by omega
            clear hdl hg3 hR3
            by_cases hj0 : j = 0
            · subst hj0
              by_cases hd0 : d = 0
              · subst hd0
                go_wp2_with fail
                refine (pick_any _ g a n cap k3 9 HR3.out (by omega) (by decide)).mono ?_
                rintro e w4 ⟨s, rfl, hsl, hg4, k4, hk4, hR4⟩
                have HG4 := Lib.hid (grown_trans HG3.out hg4)
                have HR4 := Lib.hid hR4
                clear hsl hg4 hR4
                by_cases hs0 : s = 0
                · subst hs0
                  go_wp2_with fail
                  refine (one_lit nines HR4.out (by omega) (by decide) (by decide)).mono ?_
                  rintro e w5 ⟨⟨q, hq, rfl⟩, hD5⟩
                  have hq9 := nines_le q hq
                  have HD5 := Lib.hid (DrP.then (k := k) (j := 2 + 3 * 0 + 2) HG4.out (by omega) hD5)
                  clear hq hD5
                  go_wp2_with fail
                  refine (decimal_any _ _ (by omega) (by omega)).mono ?_
                  rintro e w6 ⟨m, rfl, hm, hb6⟩
                  have HM := Lib.hid hm
                  have HD6 := Lib.hid ((HD5.out.below hb6))
                  clear hm hb6
                  go_wp2_with (first | (refine (puts_cat2 9 9 (.tmp 47) (.tmp 49) rfl l m rfl rfl (by omega) (by have := HM.out; omega)).gives.plain rfl ?_))
                  go_roundw
                  case rel => exact ⟨0 + 1, l ++ m, by omega, by go_num, rfl, by have := HM.out; simp; omega, Lib.hid (HD6.out.more (by omega))⟩
                  case measure => simp [intOf]; try omega
                · have hsf : ((s : Int) == 0) = false := beq_eq_false_iff_ne.2 (by omega)
                  have HD5 := Lib.hid (show DrP w g a n cap k (2 + 3 * 0 + 2) w4 from ⟨HG4.out, k4, by omega, HR4.out⟩)
                  go_wp2_with fail
                  refine (decimal_any _ _ (by omega) (by omega)).mono ?_
                  rintro e w6 ⟨m, rfl, hm, hb6⟩
                  have HM := Lib.hid hm
                  have HD6 := Lib.hid ((HD5.out.below hb6))
                  clear hm hb6
                  go_wp2_with (first | (refine (puts_cat2 9 9 (.tmp 47) (.tmp 49) rfl l m rfl rfl (by omega) (by have := HM.out; omega)).gives.plain rfl ?_))
                  go_roundw
                  case rel => exact ⟨0 + 1, l ++ m, by omega, by go_num, rfl, by have := HM.out; simp; omega, Lib.hid (HD6.out.more (by omega))⟩
                  case measure => simp [intOf]; try omega
              · by_cases hd1 : d = 1
                · subst hd1
                  go_wp2_with fail
                  refine (pick_any _ g a n cap k3 9 HR3.out (by omega) (by decide)).mono ?_
                  rintro e w4 ⟨s, rfl, hsl, hg4, k4, hk4, hR4⟩
                  have HG4 := Lib.hid (grown_trans HG3.out hg4)
                  have HR4 := Lib.hid hR4
                  clear hsl hg4 hR4
                  by_cases hs0 : s = 0
                  · subst hs0
                    go_wp2_with fail
                    refine (one_lit nines HR4.out (by omega) (by decide) (by decide)).mono ?_
                    rintro e w5 ⟨⟨q, hq, rfl⟩, hD5⟩
                    have hq9 := nines_le q hq
                    have HD5 := Lib.hid (DrP.then (k := k) (j := 2 + 3 * 0 + 2) HG4.out (by omega) hD5)
                    clear hq hD5
                    go_wp2_with fail
                    refine (decimal_any _ _ (by omega) (by omega)).mono ?_
                    rintro e w6 ⟨m, rfl, hm, hb6⟩
                    have HM := Lib.hid hm
                    have HD6 := Lib.hid ((HD5.out.below hb6))
                    clear hm hb6
                    go_wp2_with (first | (refine (puts_cat2 9 9 (.tmp 47) (.tmp 49) rfl l m rfl rfl (by omega) (by have := HM.out; omega)).gives.plain rfl ?_))
                    go_roundw
                    case rel => exact ⟨0 + 1, l ++ m, by omega, by go_num, rfl, by have := HM.out; simp; omega, Lib.hid (HD6.out.more (by omega))⟩
                    case measure => simp [intOf]; try omega
                  · have hsf : ((s : Int) == 0) = false := beq_eq_false_iff_ne.2 (by omega)
                    have HD5 := Lib.hid (show DrP w g a n cap k (2 + 3 * 0 + 2) w4 from ⟨HG4.out, k4, by omega, HR4.out⟩)
                    go_wp2_with fail
                    refine (decimal_any _ _ (by omega) (by omega)).mono ?_
                    rintro e w6 ⟨m, rfl, hm, hb6⟩
                    have HM := Lib.hid hm
                    have HD6 := Lib.hid ((HD5.out.below hb6))
                    clear hm hb6
                    go_wp2_with (first | (refine (puts_cat2 9 9 (.tmp 47) (.tmp 49) rfl l m rfl rfl (by omega) (by have := HM.out; omega)).gives.plain rfl ?_))
                    go_roundw
                    case rel => exact ⟨0 + 1, l ++ m, by omega, by go_num, rfl, by have := HM.out; simp; omega, Lib.hid (HD6.out.more (by omega))⟩
                    case measure => simp [intOf]; try omega
                · have hd2 : 1 < (d : Int) := by omega
                  go_wp2_with fail
                  refine (pick_any _ g a n cap k3 9 HR3.out (by omega) (by decide)).mono ?_
                  rintro e w4 ⟨s, rfl, hsl, hg4, k4, hk4, hR4⟩
                  have HG4 := Lib.hid (grown_trans HG3.out hg4)
                  have HR4 := Lib.hid hR4
                  clear hsl hg4 hR4
                  by_cases hs0 : s = 0
                  · subst hs0
                    go_wp2_with fail
                    refine (one_lit nines HR4.out (by omega) (by decide) (by decide)).mono ?_
                    rintro e w5 ⟨⟨q, hq, rfl⟩, hD5⟩
                    have hq9 := nines_le q hq
                    have HD5 := Lib.hid (DrP.then (k := k) (j := 2 + 3 * 0 + 2) HG4.out (by omega) hD5)
                    clear hq hD5
                    go_wp2_with fail
                    refine (decimal_any _ _ (by omega) (by omega)).mono ?_
                    rintro e w6 ⟨m, rfl, hm, hb6⟩
                    have HM := Lib.hid hm
                    have HD6 := Lib.hid ((HD5.out.below hb6))
                    clear hm hb6
                    go_wp2_with (first | (refine (puts_cat2 9 9 (.tmp 47) (.tmp 49) rfl l m rfl rfl (by omega) (by have := HM.out; omega)).gives.plain rfl ?_))
                    go_roundw
                    case rel => exact ⟨0 + 1, l ++ m, by omega, by go_num, rfl, by have := HM.out; simp; omega, Lib.hid (HD6.out.more (by omega))⟩
                    case measure => simp [intOf]; try omega
                  · have hsf : ((s : Int) == 0) = false := beq_eq_false_iff_ne.2 (by omega)
                    have HD5 := Lib.hid (show DrP w g a n cap k (2 + 3 * 0 + 2) w4 from ⟨HG4.out, k4, by omega, HR4.out⟩)
                    go_wp2_with fail
                    refine (decimal_any _ _ (by omega) (by omega)).mono ?_
                    rintro e w6 ⟨m, rfl, hm, hb6⟩
                    have HM := Lib.hid hm
                    have HD6 := Lib.hid ((HD5.out.below hb6))
                    clear hm hb6
                    go_wp2_with (first | (refine (puts_cat2 9 9 (.tmp 47) (.tmp 49) rfl l m rfl rfl (by omega) (by have := HM.out; omega)).gives.plain rfl ?_))
                    go_roundw
                    case rel => exact ⟨0 + 1, l ++ m, by omega, by go_num, rfl, by have := HM.out; simp; omega, Lib.hid (HD6.out.more (by omega))⟩
                    case measure => simp [intOf]; try omega
            · have hjf : ((j : Int) == 0) = false := beq_eq_false_iff_ne.2 (by omega)
              go_wp2_with fail
              refine (pick_any _ g a n cap k3 9 HR3.out (by omega) (by decide)).mono ?_
              rintro e w4 ⟨s, rfl, hsl, hg4, k4, hk4, hR4⟩
              have HG4 := Lib.hid (grown_trans HG3.out hg4)
              have HR4 := Lib.hid hR4
              clear hsl hg4 hR4
              by_cases hs0 : s = 0
              · subst hs0
                go_wp2_with fail
                refine (one_lit nines HR4.out (by omega) (by decide) (by decide)).mono ?_
                rintro e w5 ⟨⟨q, hq, rfl⟩, hD5⟩
                have hq9 := nines_le q hq
                have HD5 := Lib.hid (DrP.then (k := k) (j := 2 + 3 * j + 2) HG4.out (by omega) hD5)
                clear hq hD5
                go_wp2_with fail
                refine (decimal_any _ _ (by omega) (by omega)).mono ?_
                rintro e w6 ⟨m, rfl, hm, hb6⟩
                have HM := Lib.hid hm
                have HD6 := Lib.hid ((HD5.out.below hb6))
                clear hm hb6
                go_wp2_with (first | (refine (puts_cat2 9 9 (.tmp 47) (.tmp 49) rfl l m rfl rfl (by omega) (by have := HM.out; omega)).gives.plain rfl ?_))
                go_roundw
                case rel => exact ⟨j + 1, l ++ m, by omega, by go_num, rfl, by have := HM.out; simp; omega, Lib.hid (HD6.out.more (by omega))⟩
                case measure => simp [intOf]; try omega
              · have hsf : ((s : Int) == 0) = false := beq_eq_false_iff_ne.2 (by omega)
                have HD5 := Lib.hid (show DrP w g a n cap k (2 + 3 * j + 2) w4 from ⟨HG4.out, k4, by omega, HR4.out⟩)
                go_wp2_with fail
                refine (decimal_any _ _ (by omega) (by omega)).mono ?_
                rintro e w6 ⟨m, rfl, hm, hb6⟩
                have HM := Lib.hid hm
                have HD6 := Lib.hid ((HD5.out.below hb6))
                clear hm hb6
                go_wp2_with (first | (refine (puts_cat2 9 9 (.tmp 47) (.tmp 49) rfl l m rfl rfl (by omega) (by have := HM.out; omega)).gives.plain rfl ?_))
                go_roundw
                case rel => exact ⟨j + 1, l ++ m, by omega, by go_num, rfl, by have := HM.out; simp; omega, Lib.hid (HD6.out.more (by omega))⟩
                case measure => simp [intOf]; try omega
          · obtain rfl : j = N := by omega
            clear hlt
            go_wp2_with fail
            refine (pick_any _ g a n cap kI 2 HRI.out (by omega) (by decide)).mono ?_
            rintro e w3 ⟨s, rfl, hsl, hg3, hk3⟩
            have HD3 := Lib.hid ((DrP.then HGI.out hkI (pk_dr hg3 hk3)).more (show 2 + 3 * j + 1 ≤ 200 by omega))
            have hs2 : s = 0 ∨ s = 1 := by omega
            clear hsl hg3 hk3
            rcases hs2 with rfl | rfl
            · go_wp2_with (first | (refine (puts_cons2 9 9 (.const (.string ⟨#[45]⟩)) (.tmp 54) rfl 45 l rfl rfl (by omega)).gives.plain rfl ?_))
              go_ret
              exact ⟨⟨_, rfl, by simp; omega⟩, HD3.out⟩
            · go_wp2_with fail
              go_ret
              exact ⟨⟨l, rfl, by omega⟩, HD3.out⟩
end Go.Proofs.Ytckmpenlpkhnfab
namespace Go.Proofs.Ytckmpenlpkhnfab
open Go.RowKit
/-- Bytes that came in: n of them at an address, or none. -/
def Cr (w : World) (a : Option Addr) (n cap : Nat) : Prop := n ≤ cap ∧ (a = none → n = 0 ∧ cap = 0) ∧ (n = 0 ∨ ∃ x : Addr, a = some x ∧ ∀ i : Nat, i < n → ∃ c : Nat, c ≤ 255 ∧ w.cell? (x.add i) = some (.int .u8 (c : Int)))
theorem cr_of {w : World} {a : Option Addr} {len cap : Nat} {zs : List Int} (h : (a = none ∧ len = 0 ∧ cap = 0 ∧ zs = []) ∨ ∃ x, a = some x ∧ len ≤ cap ∧ cap ≤ maxLen ∧ zs.length = cap ∧ (∀ i, i < zs.length → w.cell? (x.add i) = some (.int .u8 (zs.getD i 0))) ∧ ∀ n ∈ zs, (Lit.int .u8 n).wf = true) : Cr w a len cap := by
  rcases h with ⟨rfl, rfl, rfl, _⟩ | ⟨x, rfl, hl, _, hz, hc, hw⟩
  · exact ⟨by omega, fun _ => ⟨rfl, rfl⟩, Or.inl rfl⟩
  · refine ⟨hl, fun h => by simp at h, Or.inr ⟨x, rfl, fun i hi => ?_⟩⟩
    have hil : i < zs.length := by omega
    have hm : zs.getD i 0 ∈ zs := by rw [List.getD_eq_getElem?_getD, List.getElem?_eq_getElem hil]; exact List.getElem_mem hil
    have hb : 0 ≤ zs.getD i 0 ∧ zs.getD i 0 ≤ 255 := by simpa [Lit.wf, IntKind.min, IntKind.max, IntKind.signed, IntKind.bits] using hw _ hm
    refine ⟨(zs.getD i 0).toNat, by omega, ?_⟩
    rw [hc i hil, Int.toNat_of_nonneg hb.1]
theorem ri_new {w : World} {a : Option Addr} {n m cap : Nat} (h : Cr w a n cap) (hm : m ≤ n) (hm4 : m ≤ 4000) : RI (w.alloc (.cells #[.slice a m cap, .int .i64 0] 71)) w.heap.size a m cap 0 := by
  refine ⟨Blk.new _ _ _ rfl, hm4, by have := h.1; omega, ?_⟩
  by_cases h0 : m = 0
  · exact Or.inl h0
  · rcases h.2.2 with h2 | ⟨x, rfl, hr⟩
    · omega
    · refine Or.inr ⟨x, rfl, ?_, fun i hi => ?_⟩
      · obtain ⟨c, _, hc⟩ := hr 0 (by omega)
        have hlt := World.block_lt_of_cell? w _ hc
        have hb : (x.add 0).block = x.block := by unfold Addr.add; split <;> rfl
        rw [hb] at hlt
        omega
      · obtain ⟨c, hc1, hc⟩ := hr i (by omega)
        exact ⟨c, hc1, by rw [((Below.refl w.heap.size w).alloc (Nat.le_refl _) _).cell (World.block_lt_of_cell? w _ hc)]; exact hc⟩
def NrP (w : World) (a : Option Addr) (cap : Nat) (e : Ending) (w' : World) : Prop := e = .returned (.pointer (some ⟨w.heap.size, 0, none⟩)) ∧ Below w.heap.size w w' ∧ ∃ m, RI w' w.heap.size a m cap 0
set_option maxHeartbeats 1000000 in
theorem newRnd_any (w : World) (a : Option Addr) (n cap : Nat) (h : Cr w a n cap) : Calls Try.prog 39 #[.slice a n cap] w (NrP w a cap) := by
  have hcap := h.1
  have hnil := h.2.1
  by_cases h4 : n ≤ 4000
  · have HR := Lib.hid (ri_new h (Nat.le_refl n) h4)
    have HB := Lib.hid (show Below w.heap.size w (w.alloc (.cells #[.slice a n cap, .int .i64 0] 71)) from (Below.refl _ _).alloc (Nat.le_refl _) _)
    clear h
    cases a with
    | none =>
      obtain ⟨rfl, rfl⟩ := hnil rfl
      clear hnil
      go_enter Try.func39, Try.ntmps39
      go_wp2
      all_goals first | omega | skip
      all_goals go_ret
      all_goals exact ⟨rfl, HB.out, _, HR.out⟩
    | some x =>
      clear hnil
      go_enter Try.func39, Try.ntmps39
      go_wp2
      all_goals first | omega | skip
      all_goals go_ret
      all_goals exact ⟨rfl, HB.out, _, HR.out⟩
  · have HR := Lib.hid (ri_new h (show 4000 ≤ n by omega) (Nat.le_refl _))
    have HB := Lib.hid (show Below w.heap.size w (w.alloc (.cells #[.slice a 4000 cap, .int .i64 0] 71)) from (Below.refl _ _).alloc (Nat.le_refl _) _)
    clear h
    cases a with
    | none => obtain ⟨rfl, rfl⟩ := hnil rfl; omega
    | some x =>
      clear hnil
      go_enter Try.func39, Try.ntmps39
      go_wp2
      all_goals first | omega | skip
      all_goals go_ret
      all_goals exact ⟨rfl, HB.out, _, HR.out⟩
end Go.Proofs.Ytckmpenlpkhnfab
namespace Go.Proofs.Ytckmpenlpkhnfab
open Go.RowKit
theorem below_row {w w1 w2 : World} {g : Nat} (h : Below w.heap.size w w1) (hg : w1.grownBy w2 (some g)) (hge : w.heap.size ≤ g) : Below w.heap.size w w2 :=
  h.grown hg h.size fun k hk => by injection hk with hk; omega
/-- One text is drawn. -/
def D1P (w : World) (e : Ending) (w' : World) : Prop := ∃ l : List UInt8, e = .returned (.string ⟨l.toArray⟩) ∧ l.length ≤ 50000 ∧ Below w.heap.size w w'
/-- Two are. -/
def D2P (w : World) (e : Ending) (w' : World) : Prop := ∃ l m : List UInt8, e = .returned (.tuple #[.string ⟨l.toArray⟩, .string ⟨m.toArray⟩]) ∧ l.length ≤ 50000 ∧ m.length ≤ 50000 ∧ Below w.heap.size w w'
theorem sz (l : List UInt8) : (⟨l.toArray⟩ : ByteArray).size = l.length := by simp [ByteArray.size]
theorem dl (l : List UInt8) : (⟨l.toArray⟩ : ByteArray).data.toList = l := by simp
theorem out_ok' {z : Int} (h : z.natAbs < 10 ^ 40) : outI z = .tuple #[txV z, .bool true] := by unfold outI; rw [if_pos h]; rfl
theorem out_no' {z : Int} (h : ¬ z.natAbs < 10 ^ 40) : outI z = .tuple #[.string ⟨#[]⟩, .bool false] := by unfold outI; rw [if_neg h]; rfl
section
variable {a b : List UInt8}
theorem addV_ok (h1 : okI a = true) (h2 : okI b = true) (hs : (rz a + rz b).natAbs < 10 ^ 40) : addV a b = .tuple #[.string ⟨(fmtZ (rz a + rz b)).toArray⟩, .bool true] := by
  unfold addV; rw [h1, h2]; exact out_ok' hs
theorem subV_ok (h1 : okI a = true) (h2 : okI b = true) (hs : (rz a + -rz b).natAbs < 10 ^ 40) : subV a b = .tuple #[.string ⟨(fmtZ (rz a + -rz b)).toArray⟩, .bool true] := by
  unfold subV; rw [h1, h2]; exact out_ok' hs
theorem addV_no (h : ¬ (okI a = true ∧ okI b = true ∧ (rz a + rz b).natAbs < 10 ^ 40)) : addV a b = .tuple #[.string ⟨#[]⟩, .bool false] := by
  unfold addV
  cases h1 : okI a with
  | false => rfl
  | true =>
    cases h2 : okI b with
    | false => rfl
    | true =>
      rw [Bool.and_self, if_pos rfl]
      exact out_no' fun hs => h ⟨h1, h2, hs⟩
theorem subV_no (h : ¬ (okI a = true ∧ okI b = true ∧ (rz a + -rz b).natAbs < 10 ^ 40)) : subV a b = .tuple #[.string ⟨#[]⟩, .bool false] := by
  unfold subV
  cases h1 : okI a with
  | false => rfl
  | true =>
    cases h2 : okI b with
    | false => rfl
    | true =>
      rw [Bool.and_self, if_pos rfl]
      exact out_no' fun hs => h ⟨h1, h2, hs⟩
theorem iAdd (a b : List UInt8) (w : World) : Calls Try.prog 22 #[.string ⟨a.toArray⟩, .string ⟨b.toArray⟩] w fun e w' => e = .returned (addV a b) ∧ Below w.heap.size w w' := by
  have h := intAdd_any ⟨a.toArray⟩ ⟨b.toArray⟩ w
  rw [dl, dl] at h; exact h
theorem iSub (a b : List UInt8) (w : World) : Calls Try.prog 31 #[.string ⟨a.toArray⟩, .string ⟨b.toArray⟩] w fun e w' => e = .returned (subV a b) ∧ Below w.heap.size w w' := by
  have h := intSub_any ⟨a.toArray⟩ ⟨b.toArray⟩ w
  rw [dl, dl] at h; exact h
theorem iOk (a : List UInt8) (w : World) : Calls Try.prog 38 #[.string ⟨a.toArray⟩] w fun e w' => e = .returned (.bool (okI a)) ∧ Below w.heap.size w w' := by
  have h := intOk_any ⟨a.toArray⟩ w
  rw [dl] at h; exact h
theorem sOk (a : List UInt8) (w : World) (ha : a.length ≤ 50000) : Calls Try.prog 37 #[.string ⟨a.toArray⟩] w fun e w' => e = .returned (.bool (okI a)) ∧ w = w' := by
  have h := specOk_any ⟨a.toArray⟩ w (by rw [sz]; omega)
  rw [dl] at h; exact h
end
end Go.Proofs.Ytckmpenlpkhnfab
namespace Go.Proofs.Ytckmpenlpkhnfab
open Go.RowKit
/-! Quotients rounded down, and their rests. -/
theorem qr_spec {x y : Int} (h : y ≠ 0) : x = qI x y * y + rI x y ∧ (0 < y → 0 ≤ rI x y ∧ rI x y < y) ∧ (y < 0 → y < rI x y ∧ rI x y ≤ 0) := by
  have hx := sgn_self x
  have hy := sgn_self y
  have hn : 0 < y.natAbs := by omega
  have hd := Nat.div_add_mod x.natAbs y.natAbs
  have hm := Nat.mod_lt x.natAbs hn
  unfold qI rI dq dr
  by_cases h1 : x < 0 <;> by_cases h2 : y < 0
  · have ex : x = -(x.natAbs : Int) := by omega
    have ey : y = -(y.natAbs : Int) := by omega
    simp only [h1, h2, decide_true, bne_self_eq_false, ne_eq, not_true, false_and, if_false, sgn, Bool.false_eq_true, if_true]
    generalize x.natAbs = m at *
    generalize y.natAbs = n at *
    have hd2 : ((n * (m / n) + m % n : Nat) : Int) = (m : Int) := by rw [hd]
    rw [Int.natCast_add, Int.natCast_mul] at hd2
    refine ⟨?_, fun h3 => by first | omega | exact h3.elim, fun h4 => by first | omega | exact h4.elim⟩
    rw [ex, ey, Int.mul_neg, Int.mul_comm]
    omega
  · have ex : x = -(x.natAbs : Int) := by omega
    have ey : y = (y.natAbs : Int) := by omega
    by_cases hz : x.natAbs % y.natAbs = 0
    · simp only [h1, h2, decide_true, decide_false, ne_eq, Bool.true_eq_false, not_false_eq_true, hz, not_true, and_false, if_false, sgn, Bool.false_eq_true, if_true, Bool.bne_false]
      generalize x.natAbs = m at *
      generalize y.natAbs = n at *
      have hd2 : ((n * (m / n) + m % n : Nat) : Int) = (m : Int) := by rw [hd]
      rw [Int.natCast_add, Int.natCast_mul] at hd2
      refine ⟨?_, fun h3 => by first | omega | exact h3.elim, fun h4 => by first | omega | exact h4.elim⟩
      rw [ex, ey, Int.neg_mul, Int.mul_comm]
      omega
    · simp only [h1, h2, decide_true, decide_false, ne_eq, Bool.true_eq_false, not_false_eq_true, hz, and_self, if_false, sgn, Bool.false_eq_true, if_true, Bool.bne_false]
      generalize x.natAbs = m at *
      generalize y.natAbs = n at *
      have hd2 : ((n * (m / n) + m % n : Nat) : Int) = (m : Int) := by rw [hd]
      rw [Int.natCast_add, Int.natCast_mul] at hd2
      refine ⟨?_, fun h3 => by first | omega | exact h3.elim, fun h4 => by first | omega | exact h4.elim⟩
      rw [ex, ey, Int.neg_mul, Int.natCast_add, Int.add_mul, Int.mul_comm, Int.ofNat_sub (by omega)]
      omega
  · have ex : x = (x.natAbs : Int) := by omega
    have ey : y = -(y.natAbs : Int) := by omega
    by_cases hz : x.natAbs % y.natAbs = 0
    · simp only [h1, h2, decide_true, decide_false, ne_eq, Bool.false_eq_true, not_false_eq_true, hz, not_true, and_false, if_false, sgn, if_true, Bool.false_bne]
      generalize x.natAbs = m at *
      generalize y.natAbs = n at *
      have hd2 : ((n * (m / n) + m % n : Nat) : Int) = (m : Int) := by rw [hd]
      rw [Int.natCast_add, Int.natCast_mul] at hd2
      refine ⟨?_, fun h3 => by first | omega | exact h3.elim, fun h4 => by first | omega | exact h4.elim⟩
      rw [ex, ey, Int.neg_mul_neg, Int.mul_comm]
      omega
    · simp only [h1, h2, decide_true, decide_false, ne_eq, Bool.false_eq_true, not_false_eq_true, hz, and_self, sgn, if_true, Bool.false_bne]
      generalize x.natAbs = m at *
      generalize y.natAbs = n at *
      have hd2 : ((n * (m / n) + m % n : Nat) : Int) = (m : Int) := by rw [hd]
      rw [Int.natCast_add, Int.natCast_mul] at hd2
      refine ⟨?_, fun h3 => by first | omega | exact h3.elim, fun h4 => by first | omega | exact h4.elim⟩
      rw [ex, ey, Int.neg_mul_neg, Int.natCast_add, Int.add_mul, Int.mul_comm, Int.ofNat_sub (by omega)]
      omega
  · have ex : x = (x.natAbs : Int) := by omega
    have ey : y = (y.natAbs : Int) := by omega
    simp only [h1, h2, decide_false, bne_self_eq_false, ne_eq, not_true, false_and, if_false, sgn, Bool.false_eq_true]
    generalize x.natAbs = m at *
    generalize y.natAbs = n at *
    have hd2 : ((n * (m / n) + m % n : Nat) : Int) = (m : Int) := by rw [hd]
    rw [Int.natCast_add, Int.natCast_mul] at hd2
    refine ⟨?_, fun h3 => by first | omega | exact h3.elim, fun h4 => by first | omega | exact h4.elim⟩
    rw [ex, ey, Int.mul_comm]
    omega
theorem qr_unique {x y q r : Int} (h : y ≠ 0) (e : x = q * y + r) (hp : 0 < y → 0 ≤ r ∧ r < y) (hn : y < 0 → y < r ∧ r ≤ 0) : qI x y = q ∧ rI x y = r := by
  obtain ⟨e2, hp2, hn2⟩ := qr_spec (x := x) h
  generalize qI x y = p at *
  generalize rI x y = t at *
  have e3 : (q - p) * y = t - r := by rw [Int.sub_mul]; omega
  have h4 : (t - r).natAbs < y.natAbs := by
    rcases Int.lt_or_gt_of_ne h with h5 | h5
    · have := hn h5; have := hn2 h5; omega
    · have := hp h5; have := hp2 h5; omega
  have h6 : t - r = 0 := Int.eq_zero_of_dvd_of_natAbs_lt_natAbs ⟨q - p, by rw [← e3, Int.mul_comm]⟩ h4
  rw [h6] at e3
  rcases Int.mul_eq_zero.1 e3 with h7 | h7
  · exact ⟨by omega, by omega⟩
  · exact absurd h7 h
theorem qr_mul {x y : Int} (h : y ≠ 0) : qI (x * y) y = x ∧ rI (x * y) y = 0 := qr_unique h (by omega) (fun h1 => by omega) (fun h1 => by omega)
theorem rI_idem {x y : Int} (h : y ≠ 0) : rI (rI x y) y = rI x y :=
  (qr_unique h (q := 0) (by omega) (qr_spec h).2.1 (qr_spec h).2.2).2
theorem qI_b {x y : Int} (hx : x.natAbs < 10 ^ 40) (h0 : y ≠ 0) : (qI x y).natAbs < 10 ^ 40 := by
  unfold qI; rw [sgn_abs]; exact dq_lt hx (by omega)
theorem rI_b {x y : Int} (hy : y.natAbs < 10 ^ 40) (h0 : y ≠ 0) : (rI x y).natAbs < 10 ^ 40 := by
  unfold rI; rw [sgn_abs]; have := dr_lt (p := decide (x < 0)) (q := decide (y < 0)) (m := x.natAbs) (n := y.natAbs) (by omega); omega
section
variable {a b : List UInt8}
theorem mulV_ok (h1 : okI a = true) (h2 : okI b = true) (hs : (rz a * rz b).natAbs < 10 ^ 40) : mulV a b = .tuple #[.string ⟨(fmtZ (rz a * rz b)).toArray⟩, .bool true] := by
  unfold mulV; rw [h1, h2]; exact out_ok' hs
theorem mulV_no (h : ¬ (okI a = true ∧ okI b = true ∧ (rz a * rz b).natAbs < 10 ^ 40)) : mulV a b = .tuple #[.string ⟨#[]⟩, .bool false] := by
  unfold mulV
  cases h1 : okI a with
  | false => rfl
  | true =>
    cases h2 : okI b with
    | false => rfl
    | true =>
      rw [Bool.and_self, if_pos rfl]
      exact out_no' fun hs => h ⟨h1, h2, hs⟩
theorem divV_ok (h1 : okI a = true) (h2 : okI b = true) (h0 : rz b ≠ 0) : divV a b = .tuple #[.string ⟨(fmtZ (qI (rz a) (rz b))).toArray⟩, .bool true] := by
  unfold divV; rw [h1, h2, Bool.and_self, if_pos rfl, if_neg h0]; exact out_ok' (qI_b okI_lt h0)
theorem modV_ok (h1 : okI a = true) (h2 : okI b = true) (h0 : rz b ≠ 0) : modV a b = .tuple #[.string ⟨(fmtZ (rI (rz a) (rz b))).toArray⟩, .bool true] := by
  unfold modV; rw [h1, h2, Bool.and_self, if_pos rfl, if_neg h0]; exact out_ok' (rI_b okI_lt h0)
theorem divV_no (h : ¬ (okI a = true ∧ okI b = true ∧ rz b ≠ 0)) : divV a b = .tuple #[.string ⟨#[]⟩, .bool false] := by
  unfold divV
  cases h1 : okI a with
  | false => rfl
  | true =>
    cases h2 : okI b with
    | false => rfl
    | true =>
      rw [Bool.and_self, if_pos rfl, if_pos (Decidable.byContradiction fun h3 => h ⟨h1, h2, h3⟩)]; rfl
theorem modV_no (h : ¬ (okI a = true ∧ okI b = true ∧ rz b ≠ 0)) : modV a b = .tuple #[.string ⟨#[]⟩, .bool false] := by
  unfold modV
  cases h1 : okI a with
  | false => rfl
  | true =>
    cases h2 : okI b with
    | false => rfl
    | true =>
      rw [Bool.and_self, if_pos rfl, if_pos (Decidable.byContradiction fun h3 => h ⟨h1, h2, h3⟩)]; rfl
theorem cmpV_ok (h1 : okI a = true) (h2 : okI b = true) : cmpV a b = .int .i64 (cmpZ (rz a) (rz b)) := by
  unfold cmpV; rw [h1, h2]; rfl
theorem cmpV_no (h : ¬ (okI a = true ∧ okI b = true)) : cmpV a b = .int .i64 (-2) := by
  unfold cmpV
  cases h1 : okI a with
  | false => rfl
  | true =>
    cases h2 : okI b with
    | false => rfl
    | true => exact absurd ⟨h1, h2⟩ h
end
theorem cz_eq {x y : Int} (h : x = y) : cmpZ x y = 0 := if_pos h
theorem cz_lt {x y : Int} (h : x < y) : cmpZ x y = -1 := by unfold cmpZ; rw [if_neg (by omega), if_pos h]
theorem cz_gt {x y : Int} (h : y < x) : cmpZ x y = 1 := by unfold cmpZ; rw [if_neg (by omega), if_neg (by omega)]
theorem rz0 : rz [48] = 0 := by decide
theorem ok0 : okI [48] = true := by decide
theorem fmt0 : fmtZ 0 = [48] := rfl
theorem is0 {m : List UInt8} (h : okI m = true) (hz : rz m = 0) : m = [48] := by rw [← fmtZ_rz h, hz]; rfl
theorem iMul (a b : List UInt8) (w : World) : Calls Try.prog 16 #[.string ⟨a.toArray⟩, .string ⟨b.toArray⟩] w fun e w' => e = .returned (mulV a b) ∧ Below w.heap.size w w' := by
  have h := intMul_any ⟨a.toArray⟩ ⟨b.toArray⟩ w
  rw [dl, dl] at h; exact h
theorem sMul (a b : List UInt8) (w : World) (ha : a.length ≤ 50000) (hb : b.length ≤ 50000) : Calls Try.prog 17 #[.string ⟨a.toArray⟩, .string ⟨b.toArray⟩] w fun e w' => e = .returned (mulV a b) ∧ Below w.heap.size w w' := by
  have h := specMul_any ⟨a.toArray⟩ ⟨b.toArray⟩ w (by rw [sz]; omega) (by rw [sz]; omega)
  rw [dl, dl] at h; exact h
theorem iDiv (a b : List UInt8) (w : World) : Calls Try.prog 18 #[.string ⟨a.toArray⟩, .string ⟨b.toArray⟩] w fun e w' => e = .returned (divV a b) ∧ Below w.heap.size w w' := by
  have h := intDiv_any ⟨a.toArray⟩ ⟨b.toArray⟩ w
  rw [dl, dl] at h; exact h
theorem sDiv (a b : List UInt8) (w : World) (ha : a.length ≤ 50000) (hb : b.length ≤ 50000) : Calls Try.prog 21 #[.string ⟨a.toArray⟩, .string ⟨b.toArray⟩] w fun e w' => e = .returned (divV a b) ∧ Below w.heap.size w w' := by
  have h := specDiv_any ⟨a.toArray⟩ ⟨b.toArray⟩ w (by rw [sz]; omega) (by rw [sz]; omega)
  rw [dl, dl] at h; exact h
theorem iMod (a b : List UInt8) (w : World) : Calls Try.prog 19 #[.string ⟨a.toArray⟩, .string ⟨b.toArray⟩] w fun e w' => e = .returned (modV a b) ∧ Below w.heap.size w w' := by
  have h := intMod_any ⟨a.toArray⟩ ⟨b.toArray⟩ w
  rw [dl, dl] at h; exact h
theorem sMod (a b : List UInt8) (w : World) (ha : a.length ≤ 50000) (hb : b.length ≤ 50000) : Calls Try.prog 24 #[.string ⟨a.toArray⟩, .string ⟨b.toArray⟩] w fun e w' => e = .returned (modV a b) ∧ Below w.heap.size w w' := by
  have h := specMod_any ⟨a.toArray⟩ ⟨b.toArray⟩ w (by rw [sz]; omega) (by rw [sz]; omega)
  rw [dl, dl] at h; exact h
theorem iCmp (a b : List UInt8) (w : World) : Calls Try.prog 25 #[.string ⟨a.toArray⟩, .string ⟨b.toArray⟩] w fun e w' => e = .returned (cmpV a b) ∧ Below w.heap.size w w' := by
  have h := intCmp_any ⟨a.toArray⟩ ⟨b.toArray⟩ w
  rw [dl, dl] at h; exact h
theorem sCmp (a b : List UInt8) (w : World) (ha : a.length ≤ 50000) (hb : b.length ≤ 50000) : Calls Try.prog 30 #[.string ⟨a.toArray⟩, .string ⟨b.toArray⟩] w fun e w' => e = .returned (cmpV a b) ∧ Below w.heap.size w w' := by
  have h := specCmp_any ⟨a.toArray⟩ ⟨b.toArray⟩ w (by rw [sz]; omega) (by rw [sz]; omega)
  rw [dl, dl] at h; exact h
end Go.Proofs.Ytckmpenlpkhnfab
namespace Go.Proofs.Ytckmpenlpkhnfab
open Go.RowKit
set_option maxHeartbeats 1000000 in
theorem one_anyZ (w : World) (g : Nat) (a : Option Addr) (n cap k : Nat) (l : List Int) (b lc : Nat) (h : RI w g a n cap k) (hk : k ≤ 100000) (hl : 0 < l.length) (hl2 : l.length ≤ 1000) (hbg : b ≠ g) (hr : ∀ (j : Nat) (d : Int), l[j]? = some d → w.cell? ⟨b, j, none⟩ = some (.int .i64 d)) :
    Calls Try.prog 55 #[.pointer (some ⟨g, 0, none⟩), .slice (some ⟨b, 0, none⟩) l.length lc] w fun e w' => (∃ d, d ∈ l ∧ e = .returned (.int .i64 d)) ∧ DrP w g a n cap k 1 w' := by
  have HP := Lib.hid (pick_any w g a n cap k (l.length : Int) h hk (by omega))
  have HR := Lib.hid hr
  clear hr h
  go_enter Try.func55, Try.ntmps55
  go_wp2_with fail
  refine HP.out.mono ?_
  rintro e w2 ⟨r, rfl, hrl, hgr, hk'⟩
  have hrl2 : r < l.length := by omega
  obtain ⟨d, hd⟩ : ∃ d, l[r]? = some d := ⟨l[r], List.getElem?_eq_getElem hrl2⟩
  have c1 : w2.cell? ⟨b, r, none⟩ = some (.int .i64 d) := hgr.cell (HR.out r d hd) (fun e => hbg (by simpa using e))
  have HM := Lib.hid (List.mem_of_getElem? hd)
  have HD := Lib.hid (show DrP w g a n cap k 1 w2 from ⟨hgr, hk'⟩)
  clear hd hgr hk' hrl
  go_wp2_with fail
  go_ret
  exact ⟨⟨d, HM.out, rfl⟩, HD.out⟩
def zi (l : List Int) : List Value := l.map fun z => .int .i64 z
theorem one_litZ {w : World} {g n cap k : Nat} {a : Option Addr} (l : List Int) (h : RI w g a n cap k) (hk : k ≤ 100000) (hl : 0 < l.length) (hl2 : l.length ≤ 1000) :
    Calls Try.prog 55 #[.pointer (some ⟨g, 0, none⟩), .slice (some ⟨w.heap.size, 0, none⟩) l.length l.length] (w.alloc (.cells (zi l).toArray 3)) fun e w' => (∃ d, d ∈ l ∧ e = .returned (.int .i64 d)) ∧ DrP w g a n cap k 1 w' := by
  have hb : Below w.heap.size w (w.alloc (.cells (zi l).toArray 3)) := (Below.refl _ _).alloc (Nat.le_refl _) _
  have hlt := h.1.lt
  refine (one_anyZ _ g a n cap k l w.heap.size l.length (ri_below h hb) hk hl hl2 (by omega) fun j d hj => by rw [lit_cell]; simp [zi, hj]).mono ?_
  rintro e w' ⟨he, hd⟩
  refine ⟨he, ?_⟩
  have := DrP.then (w := w) (k := k) (j := 0) (grown_below hb) (by omega) hd
  simpa using this
/-- Some number that fits. -/
def DzP (w : World) (g : Nat) (a : Option Addr) (n cap k j : Nat) (e : Ending) (w' : World) : Prop := (∃ z : Int, e = .returned (.int .i64 z) ∧ -9223372036854775808 ≤ z ∧ z ≤ 9223372036854775807) ∧ DrP w g a n cap k j w'
def oddZ : List Int := [-1, 4611686018427387904, -4611686018427387904, 1001, 7, 1000001, -9223372036854775808, 9223372036854775807]
theorem oddZ_fit : ∀ z ∈ oddZ, -9223372036854775808 ≤ z ∧ z ≤ 9223372036854775807 := by decide
set_option maxHeartbeats 1000000 in
theorem odd_draw (w : World) (g n cap k : Nat) (a : Option Addr) (h : RI w g a n cap k) (hk : k ≤ 90000) : Calls Try.prog 78 #[.pointer (some ⟨g, 0, none⟩)] w (DzP w g a n cap k 1) := by
  have HR := Lib.hid h
  clear h
  go_enter Try.func78, Try.ntmps78
  go_wp2_with fail
  refine (one_litZ oddZ HR.out (by omega) (by decide) (by decide)).mono ?_
  rintro e w2 ⟨⟨d, hd, rfl⟩, hD⟩
  have HF := Lib.hid (oddZ_fit d hd)
  have HD := Lib.hid hD
  clear hd hD
  go_wp2_with fail
  go_ret
  exact ⟨⟨d, rfl, HF.out⟩, HD.out⟩
set_option maxHeartbeats 1000000 in
theorem often_draw (w : World) (g n cap k : Nat) (a : Option Addr) (z : Int) (h : RI w g a n cap k) (hk : k ≤ 80000) (h1 : -9223372036854775808 ≤ z) (h2 : z ≤ 9223372036854775807) : Calls Try.prog 54 #[.pointer (some ⟨g, 0, none⟩), .int .i64 z] w (DzP w g a n cap k 2) := by
  have HP := Lib.hid (pick_any w g a n cap k 16 h (by omega) (by decide))
  have HZ := Lib.hid (And.intro h1 h2)
  clear h h1 h2
  go_enter Try.func54, Try.ntmps54
  go_wp2_with fail
  refine HP.out.mono ?_
  rintro e w1 ⟨r, rfl, hrl, hg1, k1, hk1, hR1⟩
  have HG1 := Lib.hid hg1
  have HR1 := Lib.hid hR1
  clear hrl hg1 hR1 HP
  by_cases h0 : r = 0
  · subst h0
    go_wp2_with fail
    refine (odd_draw w1 g n cap k1 a HR1.out (by omega)).mono ?_
    rintro e w2 ⟨⟨d, rfl, hd⟩, hD⟩
    have HF := Lib.hid hd
    have HD := Lib.hid (DrP.then HG1.out hk1 hD)
    clear hd hD
    go_wp2_with fail
    go_ret
    exact ⟨⟨d, rfl, HF.out⟩, HD.out⟩
  · have h0f : ((r : Int) == 0) = false := beq_eq_false_iff_ne.2 (by omega)
    clear h0
    have HD := Lib.hid (show DrP w g a n cap k 2 w1 from (pk_dr HG1.out ⟨k1, hk1, HR1.out⟩).more (by omega))
    go_wp2_with fail
    go_ret
    exact ⟨⟨z, rfl, HZ.out⟩, HD.out⟩
set_option maxHeartbeats 1000000 in
theorem small_draw (w : World) (g n cap k : Nat) (a : Option Addr) (h : RI w g a n cap k) (hk : k ≤ 80000) : Calls Try.prog 53 #[.pointer (some ⟨g, 0, none⟩)] w (DtP w g a n cap k 2 1002) := by
  have HP := Lib.hid (pick_any w g a n cap k 100 h (by omega) (by decide))
  clear h
  go_enter Try.func53, Try.ntmps53
  go_wp2_with fail
  refine HP.out.mono ?_
  rintro e w1 ⟨r, rfl, hrl, hg1, k1, hk1, hR1⟩
  have HG1 := Lib.hid hg1
  have HR1 := Lib.hid hR1
  have hr : r ≤ 100 := by omega
  clear hrl hg1 hR1 HP
  go_wp2_with fail
  refine (one_lit [0, 1, 2, 3, 4, 5, 7, 10, r] HR1.out (by omega) (by simp) (by simp)).mono ?_
  rintro e w2 ⟨⟨d, hd, rfl⟩, hD⟩
  have hdl : d ≤ 100 := by
    simp only [List.mem_cons, List.not_mem_nil, or_false] at hd
    omega
  have HD := Lib.hid (DrP.then HG1.out hk1 hD)
  clear hd hD
  go_wp2_with fail
  refine (decimal_any (d : Int) w2 (by omega) (by omega)).mono ?_
  rintro e w3 ⟨t, rfl, ht, hb3⟩
  have HT := Lib.hid ht
  have HD3 := Lib.hid (HD.out.below hb3)
  clear ht hb3
  go_wp2_with fail
  go_ret
  exact ⟨⟨t, rfl, HT.out⟩, HD3.out⟩
/-- A base and an exponent are drawn. -/
def DpP (w : World) (e : Ending) (w' : World) : Prop := ∃ (l : List UInt8) (z : Int), e = .returned (.tuple #[.string ⟨l.toArray⟩, .int .i64 z]) ∧ l.length ≤ 50000 ∧ (-9223372036854775808 ≤ z ∧ z ≤ 9223372036854775807) ∧ Below w.heap.size w w'
set_option maxHeartbeats 4000000 in
theorem dIntPow (w : World) (a : Option Addr) (n cap : Nat) (h : Cr w a n cap) : Calls Try.prog 26 #[.slice a n cap] w (DpP w) := by
  have HN := Lib.hid (newRnd_any w a n cap h)
  clear h
  go_enter Try.func26, Try.ntmps26
  go_wp2_with fail
  refine HN.out.mono ?_
  rintro e w1 ⟨rfl, hb1, m, hr1⟩
  have HB1 := Lib.hid hb1
  have HR1 := Lib.hid hr1
  clear hb1 hr1
  go_wp2_with fail
  refine (integer_draw w1 w.heap.size m cap 0 a HR1.out (by decide)).mono ?_
  rintro e w2 ⟨⟨l1, rfl, hl1⟩, hg2, k2, hk2, hr2⟩
  have HB2 := Lib.hid (below_row HB1.out hg2 (Nat.le_refl _))
  have HR2 := Lib.hid hr2
  have HL1 := Lib.hid hl1
  clear hl1 hg2 hr2
  go_wp2_with fail
  refine (small_draw w2 w.heap.size m cap k2 a HR2.out (by omega)).mono ?_
  rintro e w3 ⟨⟨l2, rfl, hl2⟩, hg3, k3, hk3, hr3⟩
  have HB3 := Lib.hid (below_row HB2.out hg3 (Nat.le_refl _))
  have HR3 := Lib.hid hr3
  have HL2 := Lib.hid hl2
  clear hl2 hg3 hr3
  go_wp2_with fail
  refine (small_draw w3 w.heap.size m cap k3 a HR3.out (by omega)).mono ?_
  rintro e w4 ⟨⟨l3, rfl, hl3⟩, hg4, k4, hk4, hr4⟩
  have HB4 := Lib.hid (below_row HB3.out hg4 (Nat.le_refl _))
  have HR4 := Lib.hid hr4
  have HL3 := Lib.hid hl3
  clear hl3 hg4 hr4
  go_wp2_with (first | (refine (puts_cons2 9 9 (.const (.string ⟨#[45]⟩)) (.tmp 13) rfl 45 l3 rfl rfl (by have := HL3.out; omega)).gives.plain rfl ?_))
  refine (of_lit [⟨l1.toArray⟩, ⟨l2.toArray⟩, ⟨(45 :: l3).toArray⟩, ⟨#[50]⟩, ⟨#[45, 51]⟩, ⟨#[49, 48]⟩] HR4.out (by omega) (by simp) (by simp)).mono ?_
  rintro e w5 ⟨⟨d, hd, rfl⟩, hg5, k5, hk5, hr5⟩
  have HB5 := Lib.hid (below_row HB4.out hg5 (Nat.le_refl _))
  have HR5 := Lib.hid hr5
  have HDL := Lib.hid (show d.data.toList.length ≤ 50000 by
    have e1 := HL1.out
    have e2 := HL2.out
    have e3 := HL3.out
    simp only [List.mem_cons, List.not_mem_nil, or_false] at hd
    rcases hd with rfl | rfl | rfl | rfl | rfl | rfl
    · simpa using e1
    · simp; omega
    · simp; omega
    · decide
    · decide
    · decide)
  clear hd hg5 hr5
  go_wp2_with fail
  refine (pick_any w5 w.heap.size a m cap k5 30 HR5.out (by omega) (by decide)).mono ?_
  rintro e w6 ⟨r, rfl, hrl, hg6, k6, hk6, hr6⟩
  have HB6 := Lib.hid (below_row HB5.out hg6 (Nat.le_refl _))
  have HR6 := Lib.hid hr6
  have hr : r ≤ 30 := by omega
  clear hrl hg6 hr6
  go_wp2_with fail
  refine (one_lit [0, 1, 2, 3, 10, 40, 130, 200, r] HR6.out (by omega) (by simp) (by simp)).mono ?_
  rintro e w7 ⟨⟨q, hq, rfl⟩, hg7, k7, hk7, hr7⟩
  have HB7 := Lib.hid (below_row HB6.out hg7 (Nat.le_refl _))
  have HR7 := Lib.hid hr7
  have hql : q ≤ 200 := by
    simp only [List.mem_cons, List.not_mem_nil, or_false] at hq
    omega
  clear hq hg7 hr7
  go_wp2_with fail
  refine (often_draw w7 w.heap.size m cap k7 a (q : Int) HR7.out (by omega) (by omega) (by omega)).mono ?_
  rintro e w8 ⟨⟨z, rfl, hz⟩, hg8, k8, hk8, hr8⟩
  have HB8 := Lib.hid (below_row HB7.out hg8 (Nat.le_refl _))
  have HZ := Lib.hid hz
  clear hz hg8 hr8
  go_wp2_with fail
  go_ret2
  exact ⟨d.data.toList, z, by rw [← as_list]; rfl, HDL.out, HZ.out, HB8.out⟩
end Go.Proofs.Ytckmpenlpkhnfab
namespace Go.Proofs.Ytckmpenlpkhnfab
open Go.RowKit
theorem powV_form' (a : List UInt8) (n : Int) : ∃ (u : ByteArray) (c : Bool), powV a n = .tuple #[.string u, .bool c] := by
  obtain ⟨l, c, h⟩ := powV_form a n; exact ⟨⟨l⟩, c, h⟩
theorem fPow (s : ByteArray) (n : Int) (h : -9223372036854775808 ≤ n ∧ n ≤ 9223372036854775807) : ∃ (u : ByteArray) (b : Bool), ∀ w, Calls Try.prog 27 #[.string s, .int .i64 n] w fun e w' => e = .returned (.tuple #[.string u, .bool b]) ∧ Below w.heap.size w w' := by
  obtain ⟨u, b, hf⟩ := powV_form' s.data.toList n
  refine ⟨u, b, fun w => ?_⟩
  rw [← hf]; exact intPow_any s n w h.1 h.2
theorem iPow (a : List UInt8) (n : Int) (h : -9223372036854775808 ≤ n ∧ n ≤ 9223372036854775807) (w : World) : Calls Try.prog 27 #[.string ⟨a.toArray⟩, .int .i64 n] w fun e w' => e = .returned (powV a n) ∧ Below w.heap.size w w' := by
  have h := intPow_any ⟨a.toArray⟩ n w h.1 h.2
  rw [dl] at h; exact h
theorem sPow (a : List UInt8) (n : Int) (w : World) (ha : a.length ≤ 50000) : Calls Try.prog 28 #[.string ⟨a.toArray⟩, .int .i64 n] w fun e w' => e = .returned (powV a n) ∧ Below w.heap.size w w' := by
  have h := specPow_any ⟨a.toArray⟩ n w (by rw [sz]; omega)
  rw [dl] at h; exact h
theorem powN_ok {a : List UInt8} {k : Nat} (h1 : okI a = true) (h2 : k ≤ 200) (h3 : (rz a ^ k).natAbs < 10 ^ 40) : powV a (k : Int) = .tuple #[.string ⟨(fmtZ (rz a ^ k)).toArray⟩, .bool true] := by
  unfold powV; rw [h1, if_pos rfl, if_pos (by omega), Int.toNat_natCast]; exact out_ok' h3
theorem powV_no {a : List UInt8} {n : Int} (h : ¬ (okI a = true ∧ (0 ≤ n ∧ n ≤ 200) ∧ (rz a ^ n.toNat).natAbs < 10 ^ 40)) : powV a n = .tuple #[.string ⟨#[]⟩, .bool false] := by
  unfold powV
  cases h1 : okI a with
  | false => rfl
  | true =>
    by_cases h2 : 0 ≤ n ∧ n ≤ 200
    · rw [if_pos rfl, if_pos h2]; exact out_no' fun h3 => h ⟨h1, h2, h3⟩
    · rw [if_pos rfl, if_neg h2]; rfl
theorem powN_no {a : List UInt8} {k : Nat} (h : ¬ (okI a = true ∧ k ≤ 200 ∧ (rz a ^ k).natAbs < 10 ^ 40)) : powV a (k : Int) = .tuple #[.string ⟨#[]⟩, .bool false] :=
  powV_no fun ⟨h1, h2, h3⟩ => h ⟨h1, by omega, by rw [Int.toNat_natCast] at h3; exact h3⟩
theorem fmt1 : fmtZ 1 = [49] := fmtZ_one
set_option maxHeartbeats 1000000 in
theorem dIntAdd (w : World) (a : Option Addr) (n cap : Nat) (h : Cr w a n cap) : Calls Try.prog 35 #[.slice a n cap] w (D2P w) := by
  have HN := Lib.hid (newRnd_any w a n cap h)
  clear h
  go_enter Try.func35, Try.ntmps35
  go_wp2_with fail
  refine HN.out.mono ?_
  rintro e w1 ⟨rfl, hb1, m, hr1⟩
  have HB1 := Lib.hid hb1
  have HR1 := Lib.hid hr1
  clear hb1 hr1
  go_wp2_with fail
  refine (integer_draw w1 w.heap.size m cap 0 a HR1.out (by decide)).mono ?_
  rintro e w2 ⟨⟨l, rfl, hl⟩, hg2, k2, hk2, hr2⟩
  have HB2 := Lib.hid (below_row HB1.out hg2 (Nat.le_refl _))
  have HR2 := Lib.hid hr2
  have HL := Lib.hid hl
  clear hl hg2 hr2
  go_wp2_with fail
  refine (pick_any w2 w.heap.size a m cap k2 6 HR2.out (by omega) (by decide)).mono ?_
  rintro e w3 ⟨s, rfl, _, hg3, k3, hk3, hr3⟩
  have HB3 := Lib.hid (below_row HB2.out hg3 (Nat.le_refl _))
  have HR3 := Lib.hid hr3
  clear hg3 hr3
  by_cases hs : s = 0
  · subst hs
    go_wp2_with fail
    go_ret2
    exact ⟨l, l, rfl, HL.out, HL.out, HB3.out⟩
  · have hsf : ((s : Int) == 0) = false := beq_eq_false_iff_ne.2 (by omega)
    clear hs
    go_wp2_with fail
    refine (integer_draw w3 w.heap.size m cap k3 a HR3.out (by omega)).mono ?_
    rintro e w4 ⟨⟨l2, rfl, hl2⟩, hg4, k4, hk4, hr4⟩
    have HB4 := Lib.hid (below_row HB3.out hg4 (Nat.le_refl _))
    have HL2 := Lib.hid hl2
    clear hl2 hg4 hr4
    go_wp2_with fail
    go_ret2
    exact ⟨l, l2, rfl, HL.out, HL2.out, HB4.out⟩
theorem cr_below {w w' : World} {a : Option Addr} {n cap : Nat} (h : Cr w a n cap) (hb : Below w.heap.size w w') : Cr w' a n cap := by
  refine ⟨h.1, h.2.1, ?_⟩
  rcases h.2.2 with h1 | ⟨x, hx, hc⟩
  · exact Or.inl h1
  · refine Or.inr ⟨x, hx, fun i hi => ?_⟩
    obtain ⟨c, h1, h2⟩ := hc i hi
    exact ⟨c, h1, by rw [hb.cell (World.block_lt_of_cell? w _ h2)]; exact h2⟩
theorem add_twice (x : Addr) (i j : Nat) : (x.add i).add j = x.add (i + j) := by
  unfold Addr.add
  by_cases hi : i = 0
  · subst hi; simp
  · by_cases hj : j = 0
    · subst hj; simp
    · rw [if_neg hi, if_neg hj, if_neg (by omega), Nat.add_assoc]
theorem cr_half {w : World} {x : Addr} {n cap : Nat} (h : Cr w (some x) n cap) : Cr w (some (x.add (n / 2))) (n - n / 2) (cap - n / 2) := by
  refine ⟨by have := h.1; omega, fun h1 => by simp at h1, ?_⟩
  rcases h.2.2 with h1 | ⟨y, hx, hc⟩
  · exact Or.inl (by omega)
  · injection hx with hx
    subst hx
    refine Or.inr ⟨_, rfl, fun i hi => ?_⟩
    rw [add_twice]
    exact hc _ (by omega)
def HalfP (w : World) (e : Ending) (w' : World) : Prop := w = w' ∧ ∃ a n cap, e = .returned (.slice a n cap) ∧ Cr w a n cap
theorem half_any (w : World) (a : Option Addr) (n cap : Nat) (h : Cr w a n cap) (hm : n ≤ 1048576) : Calls Try.prog 36 #[.slice a n cap] w (HalfP w) := by
  have hcap := h.1
  cases a with
  | none =>
    obtain ⟨rfl, rfl⟩ := h.2.1 rfl
    have HR := Lib.hid h
    clear h
    go_enter Try.func36, Try.ntmps36
    go_wp2
    go_ret
    exact ⟨rfl, _, _, _, rfl, HR.out⟩
  | some x =>
    have HR := Lib.hid (cr_half h)
    have HZ := Lib.hid (show cap = n / 2 → Cr w (some x) (n - n / 2) 0 from fun h1 => ⟨by omega, fun h2 => by simp at h2, Or.inl (by omega)⟩)
    clear h
    go_enter Try.func36, Try.ntmps36
    go_wp2
    all_goals first | omega | skip
    · go_ret
      exact ⟨rfl, _, _, _, rfl, HZ.out (by assumption)⟩
    · go_ret
      exact ⟨rfl, _, _, _, rfl, HR.out⟩
theorem addV_form' (a b : List UInt8) : ∃ (u : ByteArray) (c : Bool), addV a b = .tuple #[.string u, .bool c] := by
  obtain ⟨l, c, h⟩ := addV_form a b; exact ⟨⟨l⟩, c, h⟩
theorem mulV_form' (a b : List UInt8) : ∃ (u : ByteArray) (c : Bool), mulV a b = .tuple #[.string u, .bool c] := by
  obtain ⟨l, c, h⟩ := mulV_form a b; exact ⟨⟨l⟩, c, h⟩
theorem fAdd (s t : ByteArray) : ∃ (u : ByteArray) (b : Bool), ∀ w, Calls Try.prog 22 #[.string s, .string t] w fun e w' => e = .returned (.tuple #[.string u, .bool b]) ∧ Below w.heap.size w w' := by
  obtain ⟨u, b, h⟩ := addV_form' s.data.toList t.data.toList
  refine ⟨u, b, fun w => ?_⟩
  rw [← h]; exact intAdd_any s t w
theorem fMul (s t : ByteArray) : ∃ (u : ByteArray) (b : Bool), ∀ w, Calls Try.prog 16 #[.string s, .string t] w fun e w' => e = .returned (.tuple #[.string u, .bool b]) ∧ Below w.heap.size w w' := by
  obtain ⟨u, b, h⟩ := mulV_form' s.data.toList t.data.toList
  refine ⟨u, b, fun w => ?_⟩
  rw [← h]; exact intMul_any s t w
end Go.Proofs.Ytckmpenlpkhnfab
