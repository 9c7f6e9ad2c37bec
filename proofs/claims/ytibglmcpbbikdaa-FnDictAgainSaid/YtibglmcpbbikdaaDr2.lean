/- One of some numbers, one of some texts; a number that is seldom odd; a new drawer. -/
import Derived.Test.YtibglmcpbbikdaaDr1
namespace Go.Proofs.Ytibglmcpbbikdaa
open Go.RowKit
def li (l : List Nat) : List Value := l.map fun d : Nat => Value.int .i64 (d : Int)
theorem li_get {l : List Nat} {j d : Nat} (h : l[j]? = some d) : (li l)[j]? = some (.int .i64 (d : Int)) := by simp [li, h]
theorem cat_cons (c : UInt8) (l : List UInt8) : (⟨#[c]⟩ ++ ⟨l.toArray⟩ : ByteArray) = ⟨(c :: l).toArray⟩ := by
  apply ByteArray.ext
  simp
theorem pick_any (w : World) (g : Nat) (a : Option Addr) (n cap k : Nat) (m : Int) (h : RI w g a n cap k) (hk : k ≤ 100000) (hm2 : m ≤ 100000) : Calls Try.prog 73 #[.pointer (some ⟨g, 0, none⟩), .int .i64 m] w (PkP w g a n cap k m) := by
  by_cases hm : m < 2
  · refine (pick_low w g a n cap k m hm).mono ?_
    rintro e w' ⟨rfl, rfl⟩
    exact ⟨0, rfl, Or.inr rfl, World.grownBy.refl _ _, k, by omega, h⟩
  · by_cases hn : n = 0
    · subst hn
      exact pick_none w g a cap k m h hk (by omega)
    · rcases h.2.2.2 with h0 | ⟨x, rfl, _⟩
      · exact absurd h0 hn
      · exact pick_some w g x n cap k m h (by omega) hk (by omega) hm2
/-- What a drawer hands back in a world where it alone was written. -/
def DrP (w : World) (g : Nat) (a : Option Addr) (n cap k j : Nat) (w' : World) : Prop := w.grownBy w' (some g) ∧ ∃ k', k' ≤ k + j ∧ RI w' g a n cap k'
set_option maxHeartbeats 1000000 in
theorem one_any (w : World) (g : Nat) (a : Option Addr) (n cap k : Nat) (l : List Nat) (b lc : Nat) (h : RI w g a n cap k) (hk : k ≤ 100000) (hl : 0 < l.length) (hl2 : l.length ≤ 1000) (hbg : b ≠ g) (hr : ∀ j d : Nat, l[j]? = some d → w.cell? ⟨b, j, none⟩ = some (.int .i64 (d : Int))) :
    Calls Try.prog 82 #[.pointer (some ⟨g, 0, none⟩), .slice (some ⟨b, 0, none⟩) l.length lc] w fun e w' => (∃ d, d ∈ l ∧ e = .returned (.int .i64 (d : Int))) ∧ DrP w g a n cap k 1 w' := by
  have HP := Lib.hid (pick_any w g a n cap k (l.length : Int) h hk (by omega))
  have HR := Lib.hid hr
  clear hr h
  go_enter Try.func82, Try.ntmps82
  go_wp2_with fail
  refine HP.out.mono ?_
  rintro e w2 ⟨r, rfl, hrl, hgr, hk'⟩
  have hrl2 : r < l.length := by omega
  obtain ⟨d, hd⟩ : ∃ d, l[r]? = some d := ⟨l[r], List.getElem?_eq_getElem hrl2⟩
  have c1 : w2.cell? ⟨b, r, none⟩ = some (.int .i64 (d : Int)) := hgr.cell (HR.out r d hd) (fun e => hbg (by simpa using e))
  have HM := Lib.hid (List.mem_of_getElem? hd)
  have HD := Lib.hid (show DrP w g a n cap k 1 w2 from ⟨hgr, hk'⟩)
  clear hd hgr hk' hrl
  go_wp2_with fail
  go_ret
  exact ⟨⟨d, HM.out, rfl⟩, HD.out⟩
set_option maxHeartbeats 1000000 in
theorem of_any (w : World) (g : Nat) (a : Option Addr) (n cap k : Nat) (l : List ByteArray) (b lc : Nat) (h : RI w g a n cap k) (hk : k ≤ 100000) (hl : 0 < l.length) (hl2 : l.length ≤ 1000) (hbg : b ≠ g) (hr : ∀ (j : Nat) (d : ByteArray), l[j]? = some d → w.cell? ⟨b, j, none⟩ = some (.string d)) :
    Calls Try.prog 83 #[.pointer (some ⟨g, 0, none⟩), .slice (some ⟨b, 0, none⟩) l.length lc] w fun e w' => (∃ d, d ∈ l ∧ e = .returned (.string d)) ∧ DrP w g a n cap k 1 w' := by
  have HP := Lib.hid (pick_any w g a n cap k (l.length : Int) h hk (by omega))
  have HR := Lib.hid hr
  clear hr h
  go_enter Try.func83, Try.ntmps83
  go_wp2_with fail
  refine HP.out.mono ?_
  rintro e w2 ⟨r, rfl, hrl, hgr, hk'⟩
  have hrl2 : r < l.length := by omega
  obtain ⟨d, hd⟩ : ∃ d, l[r]? = some d := ⟨l[r], List.getElem?_eq_getElem hrl2⟩
  have c1 : w2.cell? ⟨b, r, none⟩ = some (.string d) := hgr.cell (HR.out r d hd) (fun e => hbg (by simpa using e))
  have HM := Lib.hid (List.mem_of_getElem? hd)
  have HD := Lib.hid (show DrP w g a n cap k 1 w2 from ⟨hgr, hk'⟩)
  clear hd hgr hk' hrl
  go_wp2_with fail
  go_ret
  exact ⟨⟨d, HM.out, rfl⟩, HD.out⟩
section
variable {P : Program} {o : Oper} {a : Act} {w : World}
/-- One byte ahead of a text. -/
theorem puts_cons2 (T T' : TypeId) (x y : Operand) (ho : o.op = .binOp .add T x y T') (c : UInt8) (l : List UInt8) (hx : a.eval x = .string ⟨#[c]⟩) (hy : a.eval y = .string ⟨l.toArray⟩) (hl : l.length ≤ 10000000) : Puts P o a w (.string ⟨(c :: l).toArray⟩) := by
  have h1 : (⟨#[c]⟩ : ByteArray).size = 1 := rfl
  have h2 : (⟨l.toArray⟩ : ByteArray).size = l.length := by simp [ByteArray.size]
  have h := run_string_add_sum (P := P) w ⟨#[c]⟩ ⟨l.toArray⟩ (by rw [h1, h2]; omega)
  rw [cat_cons] at h
  unfold Puts execOp
  simp only [ho, hx, hy]
  simp [eqGuard, go_sem, h]
/-- Two texts. -/
theorem puts_cat2 (T T' : TypeId) (x y : Operand) (ho : o.op = .binOp .add T x y T') (m l : List UInt8) (hx : a.eval x = .string ⟨m.toArray⟩) (hy : a.eval y = .string ⟨l.toArray⟩) (hm : m.length ≤ 10000000) (hl : l.length ≤ 10000000) : Puts P o a w (.string ⟨(m ++ l).toArray⟩) := by
  have h1 : (⟨m.toArray⟩ : ByteArray).size = m.length := by simp [ByteArray.size]
  have h2 : (⟨l.toArray⟩ : ByteArray).size = l.length := by simp [ByteArray.size]
  have h := run_string_add_sum (P := P) w ⟨m.toArray⟩ ⟨l.toArray⟩ (by rw [h1, h2]; omega)
  have e : (⟨m.toArray⟩ ++ ⟨l.toArray⟩ : ByteArray) = ⟨(m ++ l).toArray⟩ := by apply ByteArray.ext; simp
  rw [e] at h
  unfold Puts execOp
  simp only [ho, hx, hy]
  simp [eqGuard, go_sem, h]
end
theorem grown_trans {a b c : World} {row : Option Nat} (h : a.grownBy b row) (k : b.grownBy c row) : a.grownBy c row :=
  ⟨k.os.trans h.os, k.tape.trans h.tape, k.output.trans h.output, Nat.le_trans h.size k.size, fun i hi hne => (k.block i (Nat.lt_of_lt_of_le hi h.size) hne).trans (h.block i hi hne)⟩
theorem grown_below {w w' : World} {row : Option Nat} (h : Below w.heap.size w w') : w.grownBy w' row := ⟨h.os, h.tape, h.output, h.size, fun i hi _ => h.block i hi⟩
theorem ri_below {w w' : World} {g n cap k : Nat} {a : Option Addr} (h : RI w g a n cap k) (hb : Below w.heap.size w w') : RI w' g a n cap k := by
  obtain ⟨h1, h2, h3, h4⟩ := h
  refine ⟨h1.below hb h1.lt, h2, h3, ?_⟩
  rcases h4 with h4 | ⟨x, hx, hxg, hr⟩
  · exact Or.inl h4
  · refine Or.inr ⟨x, hx, hxg, fun i hi => ?_⟩
    obtain ⟨c, hc, hcell⟩ := hr i hi
    exact ⟨c, hc, by rw [hb.cell (World.block_lt_of_cell? w _ hcell)]; exact hcell⟩
theorem DrP.zero {w : World} {g n cap k : Nat} {a : Option Addr} (h : RI w g a n cap k) : DrP w g a n cap k 0 w := ⟨World.grownBy.refl _ _, k, by omega, h⟩
theorem DrP.below {w w1 w2 : World} {g n cap k j : Nat} {a : Option Addr} (h : DrP w g a n cap k j w1) (hb : Below w1.heap.size w1 w2) : DrP w g a n cap k j w2 := by
  obtain ⟨hg, k', hk, hr⟩ := h
  exact ⟨grown_trans hg (grown_below hb), k', hk, ri_below hr hb⟩
theorem DrP.then {w w1 w2 : World} {g n cap k k1 j j2 : Nat} {a : Option Addr} (hg : w.grownBy w1 (some g)) (hk : k1 ≤ k + j) (h : DrP w1 g a n cap k1 j2 w2) : DrP w g a n cap k (j + j2) w2 := by
  obtain ⟨hg2, k', hk2, hr⟩ := h
  exact ⟨grown_trans hg hg2, k', by omega, hr⟩
theorem DrP.more {w w1 : World} {g n cap k j j2 : Nat} {a : Option Addr} (h : DrP w g a n cap k j w1) (hj : j ≤ j2) : DrP w g a n cap k j2 w1 := by
  obtain ⟨hg, k', hk, hr⟩ := h
  exact ⟨hg, k', by omega, hr⟩
theorem lit_cell (w : World) (cs : Array Value) (t : TypeId) (j : Nat) : (w.alloc (.cells cs t)).cell? ⟨w.heap.size, j, none⟩ = cs[j]? := (Blk.newest w t cs).cell j
theorem of_lit {w : World} {g n cap k : Nat} {a : Option Addr} (l : List ByteArray) (h : RI w g a n cap k) (hk : k ≤ 100000) (hl : 0 < l.length) (hl2 : l.length ≤ 1000) :
    Calls Try.prog 83 #[.pointer (some ⟨g, 0, none⟩), .slice (some ⟨w.heap.size, 0, none⟩) l.length l.length] (w.alloc (.cells (l.map Value.string).toArray 9)) fun e w' => (∃ d, d ∈ l ∧ e = .returned (.string d)) ∧ DrP w g a n cap k 1 w' := by
  have hb : Below w.heap.size w (w.alloc (.cells (l.map Value.string).toArray 9)) := (Below.refl _ _).alloc (Nat.le_refl _) _
  have hlt := h.1.lt
  refine (of_any _ g a n cap k l w.heap.size l.length (ri_below h hb) hk hl hl2 (by omega) fun j d hj => by rw [lit_cell]; simp [hj]).mono ?_
  rintro e w' ⟨he, hd⟩
  refine ⟨he, ?_⟩
  have := DrP.then (w := w) (k := k) (j := 0) (grown_below hb) (by omega) hd
  simpa using this
theorem of_litAt {w : World} {g n cap k b : Nat} {a : Option Addr} (l : List ByteArray) (hb : b = w.heap.size) (h : RI w g a n cap k) (hk : k ≤ 100000) (hl : 0 < l.length) (hl2 : l.length ≤ 1000) :
    Calls Try.prog 83 #[.pointer (some ⟨g, 0, none⟩), .slice (some ⟨b, 0, none⟩) l.length l.length] (w.alloc (.cells (l.map Value.string).toArray 9)) fun e w' => (∃ d, d ∈ l ∧ e = .returned (.string d)) ∧ DrP w g a n cap k 1 w' := by
  subst hb
  exact of_lit l h hk hl hl2
theorem one_lit {w : World} {g n cap k : Nat} {a : Option Addr} (l : List Nat) (h : RI w g a n cap k) (hk : k ≤ 100000) (hl : 0 < l.length) (hl2 : l.length ≤ 1000) :
    Calls Try.prog 82 #[.pointer (some ⟨g, 0, none⟩), .slice (some ⟨w.heap.size, 0, none⟩) l.length l.length] (w.alloc (.cells (li l).toArray 3)) fun e w' => (∃ d, d ∈ l ∧ e = .returned (.int .i64 (d : Int))) ∧ DrP w g a n cap k 1 w' := by
  have hb : Below w.heap.size w (w.alloc (.cells (li l).toArray 3)) := (Below.refl _ _).alloc (Nat.le_refl _) _
  have hlt := h.1.lt
  refine (one_any _ g a n cap k l w.heap.size l.length (ri_below h hb) hk hl hl2 (by omega) fun j d hj => by rw [lit_cell]; simpa using li_get hj).mono ?_
  rintro e w' ⟨he, hd⟩
  refine ⟨he, ?_⟩
  have := DrP.then (w := w) (k := k) (j := 0) (grown_below hb) (by omega) hd
  simpa using this
theorem pk_dr {w w' : World} {g n cap k : Nat} {a : Option Addr} (hg : w.grownBy w' (some g)) (h : ∃ k', k' ≤ k + 1 ∧ RI w' g a n cap k') : DrP w g a n cap k 1 w' := ⟨hg, h⟩
/-- What the drawer's functions of texts hand back: some text of at most so many bytes. -/
def DtP (w : World) (g : Nat) (a : Option Addr) (n cap k j b : Nat) (e : Ending) (w' : World) : Prop := (∃ l : List UInt8, e = .returned (.string ⟨l.toArray⟩) ∧ l.length ≤ b) ∧ DrP w g a n cap k j w'
/-- Bytes that came in: n of them at an address, or none. -/
def Cr (w : World) (a : Option Addr) (n cap : Nat) : Prop := n ≤ cap ∧ (a = none → n = 0 ∧ cap = 0) ∧ (n = 0 ∨ ∃ x : Addr, a = some x ∧ ∀ i : Nat, i < n → ∃ c : Nat, c ≤ 255 ∧ w.cell? (x.add i) = some (.int .u8 (c : Int)))
theorem cr_of {w : World} {a : Option Addr} {len cap : Nat} {zs : List Int} (h : (a = none ∧ len = 0 ∧ cap = 0 ∧ zs = []) ∨ ∃ x, a = some x ∧ len ≤ cap ∧ cap ≤ maxLen ∧ zs.length = cap ∧ (∀ i, i < zs.length → w.cell? (x.add i) = some (.int .u8 (zs.getD i 0))) ∧ ∀ n ∈ zs, (Lit.int .u8 n).wf = true) : Cr w a len cap := by
  rcases h with ⟨rfl, rfl, rfl, _⟩ | ⟨x, rfl, hl, _, hz, hc, hw⟩
  · exact ⟨by omega, fun _ => ⟨rfl, rfl⟩, Or.inl rfl⟩
  · refine ⟨hl, fun h => by simp at h, Or.inr ⟨x, rfl, fun i hi => ?_⟩⟩
    have hil : i < zs.length := by omega
    have hm : zs.getD i 0 ∈ zs := by rw [List.getD_eq_getElem?_getD, List.getElem?_eq_getElem hil]; exact List.getElem_mem hil
    have hb : 0 ≤ zs.getD i 0 ∧ zs.getD i 0 ≤ 255 := by simpa [Lit.wf, IntKind.min, IntKind.max, IntKind.signed, IntKind.bits] using hw _ hm
    refine ⟨(zs.getD i 0).toNat, by omega, ?_⟩
    rw [hc i hil, Int.toNat_of_nonneg hb.1]
theorem ri_new {w : World} {a : Option Addr} {n m cap : Nat} (h : Cr w a n cap) (hm : m ≤ n) (hm4 : m ≤ 4000) : RI (w.alloc (.cells #[.slice a m cap, .int .i64 0] 78)) w.heap.size a m cap 0 := by
  refine ⟨Blk.new _ _ _ rfl, hm4, by have := h.1; omega, ?_⟩
  by_cases h0 : m = 0
  · exact Or.inl h0
  · rcases h.2.2 with h2 | ⟨x, rfl, hr⟩
    · omega
    · refine Or.inr ⟨x, rfl, ?_, fun i hi => ?_⟩
      · obtain ⟨c, _, hc⟩ := hr 0 (by omega)
        have hlt := World.block_lt_of_cell? w _ hc
        have hb : (x.add 0).block = x.block := by unfold Addr.add; split <;> rfl
        rw [hb] at hlt
        omega
      · obtain ⟨c, hc1, hc⟩ := hr i (by omega)
        exact ⟨c, hc1, by rw [((Below.refl w.heap.size w).alloc (Nat.le_refl _) _).cell (World.block_lt_of_cell? w _ hc)]; exact hc⟩
def NrP (w : World) (a : Option Addr) (cap : Nat) (e : Ending) (w' : World) : Prop := e = .returned (.pointer (some ⟨w.heap.size, 0, none⟩)) ∧ Below w.heap.size w w' ∧ ∃ m, RI w' w.heap.size a m cap 0
set_option maxHeartbeats 1000000 in
theorem newRnd_any (w : World) (a : Option Addr) (n cap : Nat) (h : Cr w a n cap) : Calls Try.prog 48 #[.slice a n cap] w (NrP w a cap) := by
  have hcap := h.1
  have hnil := h.2.1
  by_cases h4 : n ≤ 4000
  · have HR := Lib.hid (ri_new h (Nat.le_refl n) h4)
    have HB := Lib.hid (show Below w.heap.size w (w.alloc (.cells #[.slice a n cap, .int .i64 0] 78)) from (Below.refl _ _).alloc (Nat.le_refl _) _)
    clear h
    cases a with
    | none =>
      obtain ⟨rfl, rfl⟩ := hnil rfl
      clear hnil
      go_enter Try.func48, Try.ntmps48
      go_wp2
      all_goals first | omega | skip
      all_goals go_ret
      all_goals exact ⟨rfl, HB.out, _, HR.out⟩
    | some x =>
      clear hnil
      go_enter Try.func48, Try.ntmps48
      go_wp2
      all_goals first | omega | skip
      all_goals go_ret
      all_goals exact ⟨rfl, HB.out, _, HR.out⟩
  · have HR := Lib.hid (ri_new h (show 4000 ≤ n by omega) (Nat.le_refl _))
    have HB := Lib.hid (show Below w.heap.size w (w.alloc (.cells #[.slice a 4000 cap, .int .i64 0] 78)) from (Below.refl _ _).alloc (Nat.le_refl _) _)
    clear h
    cases a with
    | none => obtain ⟨rfl, rfl⟩ := hnil rfl; omega
    | some x =>
      clear hnil
      go_enter Try.func48, Try.ntmps48
      go_wp2
      all_goals first | omega | skip
      all_goals go_ret
      all_goals exact ⟨rfl, HB.out, _, HR.out⟩
set_option maxHeartbeats 1000000 in
theorem one_anyZ (w : World) (g : Nat) (a : Option Addr) (n cap k : Nat) (l : List Int) (b lc : Nat) (h : RI w g a n cap k) (hk : k ≤ 100000) (hl : 0 < l.length) (hl2 : l.length ≤ 1000) (hbg : b ≠ g) (hr : ∀ (j : Nat) (d : Int), l[j]? = some d → w.cell? ⟨b, j, none⟩ = some (.int .i64 d)) :
    Calls Try.prog 82 #[.pointer (some ⟨g, 0, none⟩), .slice (some ⟨b, 0, none⟩) l.length lc] w fun e w' => (∃ d, d ∈ l ∧ e = .returned (.int .i64 d)) ∧ DrP w g a n cap k 1 w' := by
  have HP := Lib.hid (pick_any w g a n cap k (l.length : Int) h hk (by omega))
  have HR := Lib.hid hr
  clear hr h
  go_enter Try.func82, Try.ntmps82
  go_wp2_with fail
  refine HP.out.mono ?_
  rintro e w2 ⟨r, rfl, hrl, hgr, hk'⟩
  have hrl2 : r < l.length := by omega
  obtain ⟨d, hd⟩ : ∃ d, l[r]? = some d := ⟨l[r], List.getElem?_eq_getElem hrl2⟩
  have c1 : w2.cell? ⟨b, r, none⟩ = some (.int .i64 d) := hgr.cell (HR.out r d hd) (fun e => hbg (by simpa using e))
  have HM := Lib.hid (List.mem_of_getElem? hd)
  have HD := Lib.hid (show DrP w g a n cap k 1 w2 from ⟨hgr, hk'⟩)
  clear hd hgr hk' hrl
  go_wp2_with fail
  go_ret
  exact ⟨⟨d, HM.out, rfl⟩, HD.out⟩
def zi (l : List Int) : List Value := l.map fun z => .int .i64 z
theorem one_litZ {w : World} {g n cap k : Nat} {a : Option Addr} (l : List Int) (h : RI w g a n cap k) (hk : k ≤ 100000) (hl : 0 < l.length) (hl2 : l.length ≤ 1000) :
    Calls Try.prog 82 #[.pointer (some ⟨g, 0, none⟩), .slice (some ⟨w.heap.size, 0, none⟩) l.length l.length] (w.alloc (.cells (zi l).toArray 3)) fun e w' => (∃ d, d ∈ l ∧ e = .returned (.int .i64 d)) ∧ DrP w g a n cap k 1 w' := by
  have hb : Below w.heap.size w (w.alloc (.cells (zi l).toArray 3)) := (Below.refl _ _).alloc (Nat.le_refl _) _
  have hlt := h.1.lt
  refine (one_anyZ _ g a n cap k l w.heap.size l.length (ri_below h hb) hk hl hl2 (by omega) fun j d hj => by rw [lit_cell]; simp [zi, hj]).mono ?_
  rintro e w' ⟨he, hd⟩
  refine ⟨he, ?_⟩
  have := DrP.then (w := w) (k := k) (j := 0) (grown_below hb) (by omega) hd
  simpa using this
/-- Some number that fits. -/
def DzP (w : World) (g : Nat) (a : Option Addr) (n cap k j : Nat) (e : Ending) (w' : World) : Prop := (∃ z : Int, e = .returned (.int .i64 z) ∧ -9223372036854775808 ≤ z ∧ z ≤ 9223372036854775807) ∧ DrP w g a n cap k j w'
def oddZ : List Int := [-1, 4611686018427387904, -4611686018427387904, 1001, 7, 1000001, -9223372036854775808, 9223372036854775807]
theorem oddZ_fit : ∀ z ∈ oddZ, -9223372036854775808 ≤ z ∧ z ≤ 9223372036854775807 := by decide
set_option maxHeartbeats 1000000 in
theorem odd_draw (w : World) (g n cap k : Nat) (a : Option Addr) (h : RI w g a n cap k) (hk : k ≤ 90000) : Calls Try.prog 85 #[.pointer (some ⟨g, 0, none⟩)] w (DzP w g a n cap k 1) := by
  have HR := Lib.hid h
  clear h
  go_enter Try.func85, Try.ntmps85
  go_wp2_with fail
  refine (one_litZ oddZ HR.out (by omega) (by decide) (by decide)).mono ?_
  rintro e w2 ⟨⟨d, hd, rfl⟩, hD⟩
  have HF := Lib.hid (oddZ_fit d hd)
  have HD := Lib.hid hD
  clear hd hD
  go_wp2_with fail
  go_ret
  exact ⟨⟨d, rfl, HF.out⟩, HD.out⟩
set_option maxHeartbeats 1000000 in
theorem often_draw (w : World) (g n cap k : Nat) (a : Option Addr) (z : Int) (h : RI w g a n cap k) (hk : k ≤ 80000) (h1 : -9223372036854775808 ≤ z) (h2 : z ≤ 9223372036854775807) : Calls Try.prog 72 #[.pointer (some ⟨g, 0, none⟩), .int .i64 z] w (DzP w g a n cap k 2) := by
  have HP := Lib.hid (pick_any w g a n cap k 16 h (by omega) (by decide))
  have HZ := Lib.hid (And.intro h1 h2)
  clear h h1 h2
  go_enter Try.func72, Try.ntmps72
  go_wp2_with fail
  refine HP.out.mono ?_
  rintro e w1 ⟨r, rfl, hrl, hg1, k1, hk1, hR1⟩
  have HG1 := Lib.hid hg1
  have HR1 := Lib.hid hR1
  clear hrl hg1 hR1 HP
  by_cases h0 : r = 0
  · subst h0
    go_wp2_with fail
    refine (odd_draw w1 g n cap k1 a HR1.out (by omega)).mono ?_
    rintro e w2 ⟨⟨d, rfl, hd⟩, hD⟩
    have HF := Lib.hid hd
    have HD := Lib.hid (DrP.then HG1.out hk1 hD)
    clear hd hD
    go_wp2_with fail
    go_ret
    exact ⟨⟨d, rfl, HF.out⟩, HD.out⟩
  · have h0f : ((r : Int) == 0) = false := beq_eq_false_iff_ne.2 (by omega)
    clear h0
    have HD := Lib.hid (show DrP w g a n cap k 2 w1 from (pk_dr HG1.out ⟨k1, hk1, HR1.out⟩).more (by omega))
    go_wp2_with fail
    go_ret
    exact ⟨⟨z, rfl, HZ.out⟩, HD.out⟩
end Go.Proofs.Ytibglmcpbbikdaa
