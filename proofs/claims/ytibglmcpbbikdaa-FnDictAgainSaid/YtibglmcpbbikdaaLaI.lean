/- Tables of a call's own. -/
import Derived.Test.YtibglmcpbbikdaaLaH
import Derived.Deep.RegionHeld
import Derived.Deep.DeepCutAuto
import Derived.Deep.RegionHeld3
import Derived.Laws.AppendOwnNone
import Derived.Test.YtibglmcpbbikdaaLaD
import Derived.Test.YtibglmcpbbikdaaLaF
import Derived.Laws.ResultCell
namespace Go.Proofs.Ytibglmcpbbikdaa
open Go.RowKit
theorem cloneE_re (es : List Ent) (a : Option Addr) (c : Nat) (w : World) (h : Re w a es) (hl : es.length ≤ 1048576) :
    Calls Try.prog 92 #[.slice a es.length c] w fun e w' => ∃ a' c', e = .returned (.slice a' es.length c') ∧ OwE w' w.heap.size (.slice a' es.length c') es ∧ Below w.heap.size w w' := by
  rcases h with ⟨rfl, rfl⟩ | ⟨g, rfl, h⟩
  · refine (cloneE_nil _ _ w).mono ?_
    rintro e w' ⟨rfl, rfl⟩
    exact ⟨none, 0, rfl, OwE.nil _ _, Below.refl _ _⟩
  · refine (cloneE_any es g c w h hl).mono ?_
    rintro e w' ⟨v', rfl, ho, hne, hb⟩
    rcases OwE.form ho with ⟨h1, _⟩ | ⟨g', c', h1, _⟩
    · exact absurd h1 hne
    · subst h1; exact ⟨_, _, rfl, ho, hb⟩
theorem cloneI_ci (is : List Int) (g c : Nat) (w : World) (h : Ci w g is) (hl : is.length ≤ 1048576) :
    Calls Try.prog 91 #[.slice (some ⟨g, 0, none⟩) is.length c] w fun e w' => ∃ g' c', e = .returned (.slice (some ⟨g', 0, none⟩) is.length c') ∧ OwI w' w.heap.size (.slice (some ⟨g', 0, none⟩) is.length c') is ∧ Below w.heap.size w w' := by
  refine (cloneI_any is g c w h hl).mono ?_
  rintro e w' ⟨v', rfl, ho, hne, hb⟩
  have ho2 : OwI w' w.heap.size v' is := by unfold OwI Own; rw [iv_len]; exact ho
  rcases Own.form ho2 with ⟨h1, _⟩ | ⟨g', c', h1, _⟩
  · exact absurd h1 hne
  · rw [iv_len] at h1; subst h1; exact ⟨_, _, rfl, ho2, hb⟩
set_option maxRecDepth 20000 in
theorem clone_txt (s : ByteArray) (w : World) (hs : s.size ≤ 1048576) : Calls Try.prog 55 #[.string s] w fun e w' => e = .returned (.string s) ∧ Below w.heap.size w w' := by
  have HC := Lib.hid (fun w => Try.stringslite_Clone s w (by omega))
  go_enter Try.func55, Try.ntmps55
  go_wp2_with fail
  refine (HC.out _).mono ?_
  rintro e w2 ⟨rfl, hb⟩
  have HB := Lib.hid hb
  clear hb
  go_wp2_with fail
  go_ret
  exact ⟨rfl, HB.out⟩
/-- A dictionary of the call's own, its two slices in blocks of their own. -/
def OwD (w : World) (b : Nat) (ix : List Int) (es : List Ent) (g1 c1 : Nat) (a2 : Option Addr) (c2 : Nat) : Prop :=
  OwI w b (.slice (some ⟨g1, 0, none⟩) ix.length c1) ix ∧ OwE w b (.slice a2 es.length c2) es ∧ ∀ g, a2 = some ⟨g, 0, none⟩ → g ≠ g1
theorem OwD.below {w w' : World} {b g1 c1 c2 : Nat} {ix : List Int} {es : List Ent} {a2 : Option Addr} (h : OwD w b ix es g1 c1 a2 c2) (hb : Below w.heap.size w w') : OwD w' b ix es g1 c1 a2 c2 := ⟨h.1.below hb, h.2.1.below hb, h.2.2⟩
theorem OwD.wide {w : World} {b b' g1 c1 c2 : Nat} {ix : List Int} {es : List Ent} {a2 : Option Addr} (h : OwD w b ix es g1 c1 a2 c2) (hb : b' ≤ b) : OwD w b' ix es g1 c1 a2 c2 := ⟨h.1.wide hb, h.2.1.wide hb, h.2.2⟩
theorem OwD.lt1 {w : World} {b g1 c1 c2 : Nat} {ix : List Int} {es : List Ent} {a2 : Option Addr} (h : OwD w b ix es g1 c1 a2 c2) : b ≤ g1 ∧ g1 < w.heap.size := h.1.lt g1 rfl
theorem OwD.lt2 {w : World} {b g1 c1 c2 g : Nat} {ix : List Int} {es : List Ent} (h : OwD w b ix es g1 c1 (some ⟨g, 0, none⟩) c2) : b ≤ g ∧ g < w.heap.size := h.2.1.lt g rfl
/-- A store into a block that is neither. -/
theorem OwD.setOff {w : World} {b g1 c1 c2 k i : Nat} {ix : List Int} {es : List Ent} {a2 : Option Addr} {u : Value} (h : OwD w b ix es g1 c1 a2 c2) (h1 : g1 ≠ k) (h2 : ∀ g, a2 = some ⟨g, 0, none⟩ → g ≠ k) : OwD (w.setCell ⟨k, i, none⟩ u) b ix es g1 c1 a2 c2 := by
  refine ⟨h.1.setOff h1, ?_, h.2.2⟩
  rcases h.2.1.form with ⟨e, _⟩ | ⟨g, c, e, _⟩
  · injection e with e _ _
    subst e
    exact h.2.1.setOff (by simp [Value.ownBlock])
  · injection e with e _ _
    subst e
    exact h.2.1.setOff (fun e => h2 g rfl (by simpa [Value.ownBlock] using e))
theorem OwD.tb {w : World} {b g1 c1 c2 : Nat} {ix : List Int} {es : List Ent} {a2 : Option Addr} (h : OwD w b ix es g1 c1 a2 c2) : Tb w g1 ix a2 es := ⟨h.lt1.2, h.1.ci.2, h.2.1.re.2⟩
/-- What a call that copies a dictionary answers. -/
def OtP (ix : List Int) (es : List Ent) (w : World) (e : Ending) (w' : World) : Prop := ∃ g1 c1 a2 c2, e = .returned (.agg #[.slice (some ⟨g1, 0, none⟩) ix.length c1, .slice a2 es.length c2]) ∧ OwD w' w.heap.size ix es g1 c1 a2 c2 ∧ Below w.heap.size w w'
/-- While the texts are copied. -/
def OtI (w1 wx : World) (b : Nat) (ix : List Int) (es : List Ent) (bt g1 c1 : Nat) (a2 : Option Addr) (c2 : Nat) : Prop :=
  Below w1.heap.size w1 wx ∧ w1.heap.size ≤ bt ∧ bt ≠ g1 ∧ (∀ g, a2 = some ⟨g, 0, none⟩ → g ≠ bt) ∧ Blk wx bt 54 #[.slice (some ⟨g1, 0, none⟩) ix.length c1, .slice a2 es.length c2] ∧ OwD wx b ix es g1 c1 a2 c2
theorem OtI.below {w1 wx wy : World} {b bt g1 c1 c2 : Nat} {ix : List Int} {es : List Ent} {a2 : Option Addr} (h : OtI w1 wx b ix es bt g1 c1 a2 c2) (hb : Below wx.heap.size wx wy) : OtI w1 wy b ix es bt g1 c1 a2 c2 :=
  ⟨h.1.trans (hb.mono h.1.size), h.2.1, h.2.2.1, h.2.2.2.1, h.2.2.2.2.1.below hb h.2.2.2.2.1.lt, h.2.2.2.2.2.below hb⟩
theorem OwD.of {w3 wp w4 : World} {b g1 d1 d2 : Nat} {ix : List Int} {es : List Ent} {a2 : Option Addr} {b1 : Nat} (h1 : OwI w3 b1 (.slice (some ⟨g1, 0, none⟩) ix.length d1) ix) (hb1 : b ≤ b1) (hb2 : b ≤ wp.heap.size) (h2 : OwE w4 wp.heap.size (.slice a2 es.length d2) es) (hb : Below w3.heap.size w3 w4) (hp : w3.heap.size ≤ wp.heap.size) : OwD w4 b ix es g1 d1 a2 d2 := by
  have hl := (h1.lt g1 rfl).2
  refine ⟨(h1.below hb).wide hb1, h2.wide hb2, ?_⟩
  rintro g rfl rfl
  have := (h2.lt g rfl).1
  omega
theorem OtI.fresh {w1 w4 : World} {b g1 c1 c2 : Nat} {ix : List Int} {es : List Ent} {a2 : Option Addr} (h : OwD w4 b ix es g1 c1 a2 c2) (hb : Below w1.heap.size w1 w4) : OtI w1 (w4.alloc (Obj.cells #[.slice (some ⟨g1, 0, none⟩) ix.length c1, .slice a2 es.length c2] 54)) b ix es w4.heap.size g1 c1 a2 c2 := by
  refine ⟨hb.alloc hb.size _, hb.size, Nat.ne_of_gt h.lt1.2, ?_, Blk.newest w4 _ _, h.below ((Below.refl _ _).alloc (Nat.le_refl _) _)⟩
  rintro g rfl
  exact Nat.ne_of_lt h.lt2.2
theorem OtI.old {w1 w4 : World} {b bt g1 c1 c2 : Nat} {ix : List Int} {es : List Ent} {a2 : Option Addr} {x y : Value} (h : OwD w4 b ix es g1 c1 a2 c2) (hb : Below w1.heap.size w1 w4) (hv : Blk w4 bt 54 #[x, y]) (hbt : w1.heap.size ≤ bt) (h1 : bt ≠ g1) (h2 : ∀ g, a2 = some ⟨g, 0, none⟩ → g ≠ bt) : OtI w1 ((w4.setCell ⟨bt, 0, none⟩ (.slice (some ⟨g1, 0, none⟩) ix.length c1)).setCell ⟨bt, 1, none⟩ (.slice a2 es.length c2)) b ix es bt g1 c1 a2 c2 :=
  ⟨(hb.setCell hbt _).setCell hbt _, hbt, h1, h2, two_set hv _ _, (h.setOff (Ne.symm h1) h2).setOff (Ne.symm h1) h2⟩
theorem OtI.mid {w1 w3 w4 : World} {o : Obj} {b b1 g1 c1 c2 : Nat} {ix : List Int} {es : List Ent} {a2 : Option Addr} {x y : Value} (h1 : OwI w3 b1 (.slice (some ⟨g1, 0, none⟩) ix.length c1) ix) (hb1 : b ≤ b1) (hb : b = w1.heap.size) (h3 : w1.heap.size ≤ w3.heap.size) (h2 : OwE w4 (w3.alloc o).heap.size (.slice a2 es.length c2) es) (hb4 : Below (w3.alloc o).heap.size (w3.alloc o) w4) (hs : Below w1.heap.size w1 w4) (hv : Blk w4 w3.heap.size 54 #[x, y]) : OtI w1 ((w4.setCell ⟨w3.heap.size, 0, none⟩ (.slice (some ⟨g1, 0, none⟩) ix.length c1)).setCell ⟨w3.heap.size, 1, none⟩ (.slice a2 es.length c2)) b ix es w3.heap.size g1 c1 a2 c2 := by
  have e : (w3.alloc o).heap.size = w3.heap.size + 1 := by simp
  refine OtI.old (OwD.of h1 hb1 (by omega) h2 (((Below.refl _ w3).alloc (Nat.le_refl _) _).trans (hb4.mono (by omega))) (by omega)) hs hv h3 (Nat.ne_of_gt (h1.lt g1 rfl).2) ?_
  rintro g rfl
  have := (h2.lt g rfl).1
  omega
theorem OtI.early {w1 w3 w4 : World} {b b1 g1 c1 c2 : Nat} {ix : List Int} {es : List Ent} {a2 : Option Addr} {x y : Value} (h1 : OwI w3 b1 (.slice (some ⟨g1, 0, none⟩) ix.length c1) ix) (hb1 : w1.heap.size + 1 = b1) (hb : b = w1.heap.size) (h2 : OwE w4 w3.heap.size (.slice a2 es.length c2) es) (hb4 : Below w3.heap.size w3 w4) (hs : Below w1.heap.size w1 w4) (hv : Blk w4 w1.heap.size 54 #[x, y]) : OtI w1 ((w4.setCell ⟨w1.heap.size, 0, none⟩ (.slice (some ⟨g1, 0, none⟩) ix.length c1)).setCell ⟨w1.heap.size, 1, none⟩ (.slice a2 es.length c2)) b ix es w1.heap.size g1 c1 a2 c2 := by
  have e := h1.lt g1 rfl
  refine OtI.old (OwD.of h1 (by omega) (by omega) h2 hb4 (Nat.le_refl _)) hs hv (Nat.le_refl _) (by omega) ?_
  rintro g rfl
  have := (h2.lt g rfl).1
  omega
theorem OtI.key {w1 wx : World} {b bt g1 c1 c2 g2 k : Nat} {ix : List Int} {es : List Ent} {e : Ent} (h : OtI w1 wx b ix es bt g1 c1 (some ⟨g2, 0, none⟩) c2) (he : es[k]? = some e) (hb : w1.heap.size ≤ b) : OtI w1 (wx.setCell ⟨g2, k * 4, none⟩ (.string e.key)) b ix es bt g1 c1 (some ⟨g2, 0, none⟩) c2 := by
  obtain ⟨h1, h2, h3, h4, h5, h6, h7, h8⟩ := h
  refine ⟨h1.setCell (Nat.le_trans hb (h7.lt g2 rfl).1) _, h2, h3, h4, h5.setOff (fun e => h4 g2 rfl e.symm), h6.setOff (fun e => h8 g2 rfl e.symm), ?_, h8⟩
  have h9 := h7.stored (r := 0) (u := .string e.key) (e' := e) he (by omega) (by simp [Ent.row])
  have e1 : es.set k e = es := by
    apply List.ext_getElem?
    intro i
    rw [List.getElem?_set]
    split
    · next h => subst h; rw [he, if_pos (lt_of_ent he)]
    · rfl
  rw [e1] at h9
  exact h9
theorem OtI.facts {w1 w : World} {b bt g1 d1 d2 g2 k ne be : Nat} {ix : List Int} {es : List Ent} {e : Ent} (h : OtI w1 w b ix es bt g1 d1 (some ⟨g2, 0, none⟩) d2) (he : es[k]? = some e) (hn : es.length = ne) (hc : w.cell? ⟨be, 0, none⟩ = some (.string e.key)) : (w.cell? ⟨bt, 1, none⟩ = some (.slice (some ⟨g2, 0, none⟩) ne d2) ∧ w.cell? ⟨be, 0, none⟩ = some (.string e.key) ∧ w.cell? ⟨g2, k * 4, none⟩ = some (.string e.key) ∧ w.frozen? ⟨g2, k * 4, none⟩ = false ∧ Hid (OtI w1 w b ix es bt g1 d1 (some ⟨g2, 0, none⟩) d2)) := by
  subst hn
  refine ⟨(h.2.2.2.2.1.cell 1).trans rfl, hc, (h.2.2.2.2.2.2.1.cellsAt he).1, h.2.2.2.2.2.2.1.free _, Lib.hid h⟩
theorem ot_keep {w1 wa wb : World} {b bt g1 d1 d2 g2 k ne be : Nat} {ix : List Int} {es : List Ent} {e : Ent} (he : es[k]? = some e) (hn : es.length = ne) (h : (wa.cell? ⟨bt, 1, none⟩ = some (.slice (some ⟨g2, 0, none⟩) ne d2) ∧ wa.cell? ⟨be, 0, none⟩ = some (.string e.key) ∧ wa.cell? ⟨g2, k * 4, none⟩ = some (.string e.key) ∧ wa.frozen? ⟨g2, k * 4, none⟩ = false ∧ Hid (OtI w1 wa b ix es bt g1 d1 (some ⟨g2, 0, none⟩) d2))) (hb : Below wa.heap.size wa wb) : (wb.cell? ⟨bt, 1, none⟩ = some (.slice (some ⟨g2, 0, none⟩) ne d2) ∧ wb.cell? ⟨be, 0, none⟩ = some (.string e.key) ∧ wb.cell? ⟨g2, k * 4, none⟩ = some (.string e.key) ∧ wb.frozen? ⟨g2, k * 4, none⟩ = false ∧ Hid (OtI w1 wb b ix es bt g1 d1 (some ⟨g2, 0, none⟩) d2)) :=
  (h.2.2.2.2.out.below hb).facts he hn ((hb.cell (World.block_lt_of_cell? wa _ h.2.1)).trans h.2.1)
theorem ot_store {w1 wa : World} {b bt g1 d1 d2 g2 k ne be : Nat} {ix : List Int} {es : List Ent} {e : Ent} (he : es[k]? = some e) (hn : es.length = ne) (hb : w1.heap.size ≤ b) (h : (wa.cell? ⟨bt, 1, none⟩ = some (.slice (some ⟨g2, 0, none⟩) ne d2) ∧ wa.cell? ⟨be, 0, none⟩ = some (.string e.key) ∧ wa.cell? ⟨g2, k * 4, none⟩ = some (.string e.key) ∧ wa.frozen? ⟨g2, k * 4, none⟩ = false ∧ Hid (OtI w1 wa b ix es bt g1 d1 (some ⟨g2, 0, none⟩) d2))) : ((wa.setCell ⟨g2, k * 4, none⟩ (.string e.key)).cell? ⟨bt, 1, none⟩ = some (.slice (some ⟨g2, 0, none⟩) ne d2) ∧ (wa.setCell ⟨g2, k * 4, none⟩ (.string e.key)).cell? ⟨be, 0, none⟩ = some (.string e.key) ∧ (wa.setCell ⟨g2, k * 4, none⟩ (.string e.key)).cell? ⟨g2, k * 4, none⟩ = some (.string e.key) ∧ (wa.setCell ⟨g2, k * 4, none⟩ (.string e.key)).frozen? ⟨g2, k * 4, none⟩ = false ∧ Hid (OtI w1 (wa.setCell ⟨g2, k * 4, none⟩ (.string e.key)) b ix es bt g1 d1 (some ⟨g2, 0, none⟩) d2)) := by
  refine (h.2.2.2.2.out.key he hb).facts he hn ?_
  by_cases hq : be = g2 ∧ 0 = k * 4
  · obtain ⟨rfl, hq⟩ := hq
    rw [← hq]
    have h3 := h.2.2.1
    rw [← hq] at h3
    exact World.cell?_setCell_same _ _ _ h3
  · rw [World.cell?_setCell_other]
    · exact h.2.1
    · intro e1
      injection e1 with e1 e2
      exact hq ⟨by first | exact e1 | exact e1.symm, by first | exact e2 | exact e2.symm⟩
theorem own_ne {w : World} {b b' : Nat} {v u : Value} {is : List Int} {es : List Ent} (h : OwI w b v is) (h2 : OwE w b' u es) : v.ownBlock = none ∨ v.ownBlock ≠ u.ownBlock := by
  rcases h.2 with ⟨rfl, _⟩ | ⟨g, cap, cur, rfl, _, hh, _⟩
  · exact .inl rfl
  · right
    rcases h2.2 with ⟨rfl, _⟩ | ⟨g', cap', cur', rfl, _, hh', _⟩
    · simp [Value.ownBlock]
    · intro e
      have e1 : g = g' := by simpa [Value.ownBlock] using e
      subst e1
      rw [hh] at hh'
      injection hh' with hh'
      injection hh' with _ h3 _
      exact absurd h3 (by decide)
theorem own_ne' {w : World} {b b' : Nat} {v u : Value} {is : List Int} {es : List Ent} (h : OwI w b v is) (h2 : OwE w b' u es) : u.ownBlock = none ∨ u.ownBlock ≠ v.ownBlock := by
  rcases own_ne h h2 with h3 | h3
  · cases hu : u.ownBlock with
    | none => exact .inl rfl
    | some g => rw [h3]; exact .inr (by simp)
  · exact .inr (Ne.symm h3)
theorem OwD.made {w : World} {b g1 c1 c2 : Nat} {ix : List Int} {es : List Ent} {a2 : Option Addr} (h : OwI w b (.slice (some ⟨g1, 0, none⟩) ix.length c1) ix) (h2 : OwE w b (.slice a2 es.length c2) es) : OwD w b ix es g1 c1 a2 c2 := by
  refine ⟨h, h2, ?_⟩
  rintro g rfl rfl
  rcases own_ne h h2 with h3 | h3
  · simp [Value.ownBlock] at h3
  · simp [Value.ownBlock] at h3
theorem own_some {w : World} {b n c : Nat} {a : Option Addr} {ix : List Int} (h : OwI w b (.slice a n c) ix) (h8 : 1 ≤ ix.length) : ∃ g, a = some ⟨g, 0, none⟩ := by
  rcases Own.form h with ⟨_, h1⟩ | ⟨g, _, h1, _⟩
  · have := iv_len ix
    rw [h1] at this
    simp at this
    omega
  · injection h1 with h1 _ _
    exact ⟨g, h1⟩
theorem OwE.grown {w w' : World} {b : Nat} {v : Value} {es : List Ent} {row : Option Nat} (h : OwE w b v es) (hg : w.grownBy w' row) (hne : v.ownBlock = none ∨ v.ownBlock ≠ row) : OwE w' b v es := World.ownsRow.kept h hg hne
theorem litI (w : World) (b : Nat) (hb : b ≤ w.heap.size) : OwI (w.alloc (Obj.cells #[] 3)) b (.slice (some ⟨w.heap.size, 0, none⟩) 0 0) [] := World.ownsRow_lit w #[] 0 hb (by decide) rfl
theorem litE (w : World) (b : Nat) (hb : b ≤ w.heap.size) : OwE (w.alloc (Obj.cells #[] 57)) b (.slice (some ⟨w.heap.size, 0, none⟩) 0 0) [] := World.ownsRow_lit w #[] 0 hb (by decide) rfl
theorem re_none {w : World} {es : List Ent} (h : Re w none es) : es.length = 0 := by
  rcases h with ⟨_, rfl⟩ | ⟨g, h, _⟩
  · rfl
  · cases h
theorem litI1 (w : World) (o : Obj) (b : Nat) (hb : b ≤ w.heap.size) : OwI ((w.alloc (Obj.cells #[] 3)).alloc o).drew b (.slice (some ⟨w.heap.size, 0, none⟩) 0 0) [] := (litI w b hb).below ((Below.refl _ _).alloc (Nat.le_refl _) _).drew
theorem litI2 (w : World) (o : Obj) (b : Nat) (hb : b ≤ w.heap.size) : OwI ((w.alloc o).alloc (Obj.cells #[] 3)).drew b (.slice (some ⟨w.heap.size + 1, 0, none⟩) 0 0) [] := by
  have h := litI (w.alloc o) b (by simp; omega)
  rw [show (w.alloc o).heap.size = w.heap.size + 1 by simp] at h
  exact h
theorem litE1 (w : World) (o : Obj) (b : Nat) (hb : b ≤ w.heap.size) : OwE ((w.alloc (Obj.cells #[] 57)).alloc o).drew b (.slice (some ⟨w.heap.size, 0, none⟩) 0 0) [] := (litE w b hb).below ((Below.refl _ _).alloc (Nat.le_refl _) _).drew
theorem litE2 (w : World) (o : Obj) (b : Nat) (hb : b ≤ w.heap.size) : OwE ((w.alloc o).alloc (Obj.cells #[] 57)).drew b (.slice (some ⟨w.heap.size + 1, 0, none⟩) 0 0) [] := by
  have h := litE (w.alloc o) b (by simp; omega)
  rw [show (w.alloc o).heap.size = w.heap.size + 1 by simp] at h
  exact h
section
variable {ops : Array Oper} {o : Oper} {a : Act} {w : World} {K : Act → World → Prop} {Q : Exit → Act → World → Prop} {E : Prop}
theorem stepI (hgd : o.guard = none) (s x : Operand) (ho : o.op = .call { callee := .builtin .append, args := #[s, x], argTypes := #[23, 23] }) (base : Nat) (v : Value) (is js : List Int) (g n c : Nat) (hs : a.eval s = v) (hx : a.eval x = .slice (some ⟨g, 0, none⟩) n c)
    (hn : js.length = n) (hown : OwI w base v is) (hc : Ci w g js) (hlen : is.length + n ≤ 2097152) (hbase : base ≤ w.heap.size)
    (N : Nat) (hN : (is ++ js).length = N) (h : ∀ a' c' w', OwI w' base (.slice a' N c') (is ++ js) → w.grownBy w' v.ownBlock → Below base w w' → K (a.put o.dst (.slice a' N c')) w') : if Region.wanted o (yielded ops a.tmps) = true then Oper.wp Try.prog o a w K Q else E := by
  rw [if_pos (by simp [Region.wanted, hgd])]
  subst hn
  obtain ⟨i0, hi, hz0, hz1, hz2⟩ := info_of (show (Try.prog.info? 3).map (fun i => (i.zero, i.size, i.bytes)) = some (some (.int .i64 0), 1, 8) from by kernel_rfl)
  refine wp_append_own w s x 23 ho base 3 i0 (.int .i64 0) 1 8 Try.underlying23 hi hz0 hz1 hz2 rfl (by decide) v is.length (iv is) hs (by unfold OwI Own at hown; rw [iv_len] at hown; exact hown) ⟨g, 0, none⟩ js.length c (iv js) hx (by rw [iv_len, Nat.mul_one]) ?_ ?_ (by unfold maxLen; omega) (by omega) hbase ?_
  · intro j u hj
    rw [addr_add, Nat.zero_add]
    exact iv_cell hc hj
  · intro u hu
    unfold iv at hu
    rw [List.mem_map] at hu
    obtain ⟨i, _, rfl⟩ := hu
    rfl
  · intro v' w' h1 h2 _
    have h3 : OwI w' base v' (is ++ js) := by
      unfold OwI Own
      have e : iv (is ++ js) = iv is ++ iv js := by unfold iv; rw [List.map_append]
      rw [e, List.length_append, iv_len, iv_len]
      exact h1
    have hB : Below base w w' := (Below.refl base w).grown h2 hbase (fun k hk => (hown.lt k hk).1)
    rcases Own.form h3 with ⟨rfl, e⟩ | ⟨g', c', rfl, _⟩
    · have e2 : N = 0 := by rw [← hN, ← iv_len, e]; rfl
      subst e2
      exact h _ _ w' h3 h2 hB
    · rw [iv_len, hN] at h3 ⊢
      exact h _ _ w' h3 h2 hB
theorem stepE (hgd : o.guard = none) (s x : Operand) (ho : o.op = .call { callee := .builtin .append, args := #[s, x], argTypes := #[24, 24] }) (base : Nat) (v : Value) (es fs : List Ent) (ad : Option Addr) (n c : Nat) (hs : a.eval s = v) (hx : a.eval x = .slice ad n c) (hcap : ad = none → n = 0 ∧ c = 0)
    (hn : fs.length = n) (hown : OwE w base v es) (hc : Re w ad fs) (hlen : es.length + n ≤ 2097152) (hbase : base ≤ w.heap.size)
    (N : Nat) (hN : (es ++ fs).length = N) (h : ∀ a' c' w', OwE w' base (.slice a' N c') (es ++ fs) → w.grownBy w' v.ownBlock → Below base w w' → OwE w base v es → K (a.put o.dst (.slice a' N c')) w') : if Region.wanted o (yielded ops a.tmps) = true then Oper.wp Try.prog o a w K Q else E := by
  rw [if_pos (by simp [Region.wanted, hgd])]
  subst hn
  have key : ∀ v' w', OwE w' base v' (es ++ fs) → w.grownBy w' v.ownBlock → K (a.put o.dst v') w' := by
    intro v' w' h3 h2
    have hB : Below base w w' := (Below.refl base w).grown h2 hbase (fun k hk => (hown.lt k hk).1)
    rcases h3.form with ⟨rfl, e⟩ | ⟨g', c', rfl, _⟩
    · have e2 : N = 0 := by rw [← hN, e]; rfl
      subst e2
      exact h _ _ w' h3 h2 hB hown
    · rw [hN] at h3 ⊢
      exact h _ _ w' h3 h2 hB hown
  obtain ⟨i0, hi, hz0, hz1, hz2⟩ := info_of (show (Try.prog.info? 57).map (fun i => (i.zero, i.size, i.bytes)) = some (some (.agg #[.string ⟨#[]⟩, .int .i64 0, .int .i64 0, .bool false]), 4, 40) from by kernel_rfl)
  rcases hc with ⟨rfl, rfl⟩ | ⟨g, rfl, hc⟩
  · obtain ⟨_, rfl⟩ := hcap rfl
    have hrun := run_append_owned_none (P := Try.prog) (w := w) base 24 o.type 57 i0 4 Try.underlying24 hi v _ _ hown
    unfold Oper.wp
    simp [execOp, ho, resolve, invoke, builtin, hs, hx, hrun, Result.andThen]
    exact key v w (by rw [List.append_nil]; exact hown) (World.grownBy.refl _ _)
  · refine wp_append_own w s x 24 ho base 57 i0 (.agg #[.string ⟨#[]⟩, .int .i64 0, .int .i64 0, .bool false]) 4 40 Try.underlying24 hi hz0 hz1 hz2 rfl (by decide) v es.length (entC es) hs hown ⟨g, 0, none⟩ fs.length c (entC fs) hx (entC_len fs) ?_ entC_one (by unfold maxLen; omega) (by omega) hbase ?_
    · intro j u hj
      rw [addr_add, Nat.zero_add]
      exact entC_cell hc hj
    · intro v' w' h1 h2 _
      refine key v' w' ?_ h2
      unfold OwE
      rw [entC_app, List.length_append]
      exact h1
end
set_option maxRecDepth 20000 in
set_option maxHeartbeats 4000000 in
theorem ownTable_any (ix : List Int) (es : List Ent) (g c1 c2 : Nat) (a : Option Addr) (w : World) (h : Tb w g ix a es) (hl : es.length ≤ 1048576) (hm : ix.length ≤ 1048576) (hks : KeysS es) :
    Calls Try.prog 57 #[.agg #[.slice (some ⟨g, 0, none⟩) ix.length c1, .slice a es.length c2]] w (OtP ix es w) := by
  obtain ⟨w1, hw1⟩ : ∃ w1, w1 = (w.alloc (Obj.cells #[.slice (some ⟨g, 0, none⟩) ix.length c1, .slice a es.length c2] 26)).alloc (Obj.cells #[.slice none 0 0, .slice none 0 0] 54) := ⟨_, rfl⟩
  have HB1 := Lib.hid (show Below w.heap.size w w1 from by rw [hw1]; exact ((Below.refl _ _).alloc (Nat.le_refl _) _).alloc (by simp) _)
  have HX1 := Lib.hid (show Blk w1 w.heap.size _ #[.slice (some ⟨g, 0, none⟩) ix.length c1, .slice a es.length c2] from by rw [hw1]; exact (Blk.newest w _ _).alloc _)
  have HY1 := Lib.hid (show Blk w1 (w.heap.size + 1) 54 #[.slice none 0 0, .slice none 0 0] from by rw [hw1]; exact Blk.new _ _ _ (by simp))
  have hsz : w1.heap.size = w.heap.size + 2 := by rw [hw1]; simp
  have HT1 := Lib.hid (h.below HB1.out)
  have HCI := Lib.hid (fun w' (hb : w'.cell? ⟨w.heap.size, 0, none⟩ = some (.slice (some ⟨g, 0, none⟩) ix.length c1) ∧ w'.cell? ⟨w.heap.size, 1, none⟩ = some (.slice a es.length c2) ∧ Hid (Below w1.heap.size w1 w')) => cloneI_ci ix g c1 w' (HT1.out.below hb.2.2.out).2.1 hm)
  have HCE := Lib.hid (fun w' (hb : w'.cell? ⟨w.heap.size, 0, none⟩ = some (.slice (some ⟨g, 0, none⟩) ix.length c1) ∧ w'.cell? ⟨w.heap.size, 1, none⟩ = some (.slice a es.length c2) ∧ Hid (Below w1.heap.size w1 w')) => cloneE_re es a c2 w' (HT1.out.below hb.2.2.out).2.2 hl)
  have HKS := Lib.hid (fun wa wb (hs : wa.cell? ⟨w.heap.size, 0, none⟩ = some (.slice (some ⟨g, 0, none⟩) ix.length c1) ∧ wa.cell? ⟨w.heap.size, 1, none⟩ = some (.slice a es.length c2) ∧ Hid (Below w1.heap.size w1 wa)) (hb : Below wa.heap.size wa wb) => show wb.cell? ⟨w.heap.size, 0, none⟩ = some (.slice (some ⟨g, 0, none⟩) ix.length c1) ∧ wb.cell? ⟨w.heap.size, 1, none⟩ = some (.slice a es.length c2) ∧ Hid (Below w1.heap.size w1 wb) from ⟨(hb.cell (show w.heap.size < wa.heap.size by have := hs.2.2.out.size; omega)).trans hs.1, (hb.cell (show w.heap.size < wa.heap.size by have := hs.2.2.out.size; omega)).trans hs.2.1, Lib.hid (hs.2.2.out.trans (hb.mono hs.2.2.out.size))⟩)
  have HKW := Lib.hid (fun wa wb (hs : wa.cell? ⟨w.heap.size, 0, none⟩ = some (.slice (some ⟨g, 0, none⟩) ix.length c1) ∧ wa.cell? ⟨w.heap.size, 1, none⟩ = some (.slice a es.length c2) ∧ Hid (Below w1.heap.size w1 wa)) (hb : Below w1.heap.size wa wb) => show wb.cell? ⟨w.heap.size, 0, none⟩ = some (.slice (some ⟨g, 0, none⟩) ix.length c1) ∧ wb.cell? ⟨w.heap.size, 1, none⟩ = some (.slice a es.length c2) ∧ Hid (Below w1.heap.size w1 wb) from ⟨(hb.cell (show w.heap.size < w1.heap.size by omega)).trans hs.1, (hb.cell (show w.heap.size < w1.heap.size by omega)).trans hs.2.1, Lib.hid (hs.2.2.out.trans hb)⟩)
  have HTX := Lib.hid (fun (k : Nat) (e : Ent) (he : es[k]? = some e) w => clone_txt e.key w (hks e (List.mem_of_getElem? he)))
  have HW1 := Lib.hid hw1
  have HBw := Lib.hid HB1.out
  clear h hw1
  generalize hmm : ix.length = m at *
  generalize hne : es.length = ne at *
  have HNE := Lib.hid hne
  have HMM := Lib.hid hmm
  clear hmm hne
  have b0 := HX1.out.cell 0
  have b1 := HX1.out.cell 1
  have HSZ := Lib.hid hsz
  clear hsz
  go_enter Try.func57, Try.ntmps57
  go_upto_region 1 with fail
  rw [← HW1.out]
  go_cut [3] (fun p wx => ∃ bt g1 d1 a2 d2, p = .pointer (some ⟨bt, 0, none⟩) ∧ Hid (OtI w1 wx w1.heap.size ix es bt g1 d1 a2 d2))
  case first =>
    go_region_held (fun w' => w'.cell? ⟨w.heap.size, 0, none⟩ = some (.slice (some ⟨g, 0, none⟩) m c1) ∧ w'.cell? ⟨w.heap.size, 1, none⟩ = some (.slice a ne c2) ∧ Hid (Below w1.heap.size w1 w'))
      (first | exact ⟨b0, b1, Lib.hid (Below.refl _ _).drew⟩ | exact HS4.out | exact HKS.out _ _ HS4.out ((Below.refl _ _).alloc (Nat.le_refl _) _) | exact HKW.out _ _ HS4.out (((Below.refl _ _).setCell (by first | exact Nat.le_refl _ | exact HS3.out.2.2.out.size) _).setCell (by first | exact Nat.le_refl _ | exact HS3.out.2.2.out.size) _) | exact HS3.out | exact HKS.out _ _ (by assumption) ((Below.refl _ _).alloc (Nat.le_refl _) _))
      (first | (go_at_call 91; refine (HCI.out _ (by assumption)).mono ?_; rintro e w3 ⟨g1, d1, rfl, ho1, hb3⟩; have HS3 := Lib.hid (HKS.out _ _ (by assumption) hb3); (try have HV := Lib.hid (show Blk w3 w1.heap.size _ _ from Blk.below (Blk.newest w1.drew _ _) hb3 (by first | simp | exact Nat.lt_succ_self _))); have HO1 := Lib.hid ho1; have HB3 := Lib.hid hb3; clear ho1 hb3) | (go_at_call 92; refine (HCE.out _ (by assumption)).mono ?_; rintro e w4 ⟨a2, d2, rfl, ho2, hb4⟩; have HS4 := Lib.hid (HKS.out _ _ (by assumption) hb4); (first | have HV := Lib.hid (HV.out.below hb4 HV.out.lt) | have HV := Lib.hid (Blk.below (Blk.newest _ _ _) hb4 (by simp)) | skip); (try (have q0 := HV.out.cell 0; have q1 := HV.out.cell 1; have q2 := HV.out.free 0; have q3 := HV.out.free 1)); have HO2 := Lib.hid ho2; have HB4 := Lib.hid hb4; clear ho2 hb4))
    all_goals (try go_wp2)
    all_goals go_meet
    all_goals (have hmm := HMM.out; have hne := HNE.out; subst hmm; subst hne)
    all_goals first
      | exact ⟨_, _, _, _, _, rfl, Lib.hid (OtI.fresh (OwD.of HO1.out (Nat.le_refl _) HS3.out.2.2.out.size HO2.out HB4.out (Nat.le_refl _)) HS4.out.2.2.out)⟩
      | exact ⟨_, _, _, _, _, rfl, Lib.hid (OtI.mid HO1.out (Nat.le_refl _) rfl HS3.out.2.2.out.size HO2.out HB4.out HS4.out.2.2.out HV.out)⟩
      | exact ⟨_, _, _, _, _, rfl, Lib.hid (OtI.early HO1.out (by simp) rfl HO2.out HB4.out HS4.out.2.2.out HV.out)⟩
  obtain ⟨bt, g1, d1, a2, d2, rfl, HI0⟩ := hcut
  have HBt := Lib.hid HI0.out.2.2.2.2.1
  rw [HMM.out, HNE.out] at HBt
  have t0 := HBt.out.cell 0
  have t1 := HBt.out.cell 1
  clear b0 b1
  go_wp2_with fail
  go_loopw [16] (fun i wr => ∃ k : Nat, k ≤ ne ∧ i = .int .i64 k ∧ Hid (OtI w1 wr w1.heap.size ix es bt g1 d1 a2 d2)) (fun i _ => ne - (intOf i).toNat)
  case atStart => exact ⟨0, by omega, rfl, HI0⟩
  case round =>
    obtain ⟨k, hk, rfl, HI⟩ := hrel
    by_cases hltk : k < ne
    · obtain ⟨g2, e, rfl, he, hb, x0, x1, x2, x3⟩ := (HI.out.2.2.2.2.2.tb.2.2).at (show k < es.length by rw [HNE.out]; exact hltk)
      have q1 : (k : Int) < (ne : Int) := by omega
      have q0 : 0 ≤ (k : Int) := by omega
      have HL := Lib.hid (lies4 x0 x1 x2 x3)
      have HE := Lib.hid he
      have HT := Lib.hid (HTX.out k e he)
      have HK1 := Lib.hid (fun wa wb h hb => ot_keep (wa := wa) (wb := wb) (w1 := w1) (b := w1.heap.size) (ix := ix) (bt := bt) (g1 := g1) (d1 := d1) (d2 := d2) (g2 := g2) (be := wr.heap.size) he HNE.out h hb)
      have HK2 := Lib.hid (fun wa h => ot_store (wa := wa) (w1 := w1) (b := w1.heap.size) (ix := ix) (bt := bt) (g1 := g1) (d1 := d1) (d2 := d2) (g2 := g2) (be := wr.heap.size) he HNE.out (Nat.le_refl _) h)
      have HK0 := Lib.hid (fun wa (h : Below wr.heap.size wr wa) h0 => OtI.facts (be := wr.heap.size) (HI.out.below h) he HNE.out h0)
      clear x0 x1 x2 x3 he t0 t1
      go_wp2_with (first | (refine ldE (o := ⟨some 20, _, _, _, _, _⟩) rfl (.tmp 19) rfl g2 (k * 4) (.string e.key) (.int .i64 e.hash) (.int .i64 e.val) (.bool e.live) rfl HL.out ?_))
      go_region_held (fun w' => w'.cell? ⟨bt, 1, none⟩ = some (.slice (some ⟨g2, 0, none⟩) ne d2) ∧ w'.cell? ⟨wr.heap.size, 0, none⟩ = some (.string e.key) ∧ w'.cell? ⟨g2, k * 4, none⟩ = some (.string e.key) ∧ w'.frozen? ⟨g2, k * 4, none⟩ = false ∧ Hid (OtI w1 w' w1.heap.size ix es bt g1 d1 (some ⟨g2, 0, none⟩) d2))
        (first | exact HK0.out _ ((Below.refl _ wr).alloc (Nat.le_refl _) _).drew (by simp) | exact HK1.out _ _ (by assumption) (by assumption) | exact HK2.out _ (by assumption))
        (first | (go_at_call 55; refine (HT.out _).mono ?_; rintro r w3 ⟨rfl, hb3⟩))
      have HJ : Hid (OtI w1 _ w1.heap.size ix es bt g1 d1 (some ⟨g2, 0, none⟩) d2) := (‹_ ∧ _ ∧ _ ∧ _ ∧ Hid (OtI _ _ _ _ _ _ _ _ _ _)›).2.2.2.2
      go_wp2_with fail
      go_roundw
      case rel => exact ⟨k + 1, by omega, by go_num, HJ⟩
      case measure => simp [intOf]; try omega
    · obtain rfl : k = ne := by omega
      clear hltk t0 t1
      have HR := Lib.hid (HY1.out.below HI.out.1 HY1.out.lt)
      have HBr := Lib.hid HI.out.2.2.2.2.1
      rw [HMM.out, HNE.out] at HBr
      have t0 := HBr.out.cell 0
      have t1 := HBr.out.cell 1
      have b0 := HR.out.cell 0
      have b1 := HR.out.cell 1
      have f0 := HR.out.free 0
      have f1 := HR.out.free 1
      go_wp2_with fail
      have HZ := Lib.hid (two_set HR.out (.slice (some ⟨g1, 0, none⟩) m d1) (.slice a2 k d2))
      have hz := HSZ.out
      have hg1 := HI.out.2.2.2.2.2.lt1
      exact bodyPost_ret (v := .agg #[.slice (some ⟨g1, 0, none⟩) m d1, .slice a2 k d2]) (results_cell_row rfl _ _ (w.heap.size + 1) 54 _ (0, 0) _ rfl HZ.out Try.underlying54 rfl (by kernel_rfl)) rfl
        ⟨g1, d1, a2, d2, by rw [HMM.out, HNE.out], ((HI.out.2.2.2.2.2.setOff (by omega) (by rintro g rfl; have := HI.out.2.2.2.2.2.lt2; omega)).setOff (by omega) (by rintro g rfl; have := HI.out.2.2.2.2.2.lt2; omega)).wide (by omega), ((HBw.out.trans (HI.out.1.mono HBw.out.size)).setCell (by show w.heap.size ≤ w.heap.size + 1; omega) _).setCell (by show w.heap.size ≤ w.heap.size + 1; omega) _⟩
set_option maxRecDepth 20000 in
set_option maxHeartbeats 4000000 in
theorem copyDict_any (ix : List Int) (es : List Ent) (g c1 c2 : Nat) (a : Option Addr) (w : World) (h : Tb w g ix a es) (hl : es.length ≤ 1048576) (hm : ix.length ≤ 1048576) (hcap : a = none → c2 = 0) (h8 : 1 ≤ ix.length) :
    Calls Try.prog 78 #[.agg #[.slice (some ⟨g, 0, none⟩) ix.length c1, .slice a es.length c2]] w (OtP ix es w) := by
  obtain ⟨w1, hw1⟩ : ∃ w1, w1 = (w.alloc (Obj.cells #[.slice (some ⟨g, 0, none⟩) ix.length c1, .slice a es.length c2] 26)).alloc (Obj.cells #[.slice none 0 0, .slice none 0 0] 26) := ⟨_, rfl⟩
  have HB1 := Lib.hid (show Below w.heap.size w w1 from by rw [hw1]; exact ((Below.refl _ _).alloc (Nat.le_refl _) _).alloc (by simp) _)
  have HX1 := Lib.hid (show Blk w1 w.heap.size _ #[.slice (some ⟨g, 0, none⟩) ix.length c1, .slice a es.length c2] from by rw [hw1]; exact (Blk.newest w _ _).alloc _)
  have HY1 := Lib.hid (show Blk w1 (w.heap.size + 1) 26 #[.slice none 0 0, .slice none 0 0] from by rw [hw1]; exact Blk.new _ _ _ (by simp))
  have hsz : w1.heap.size = w.heap.size + 2 := by rw [hw1]; simp
  have HTS := Lib.hid (fun w' (hs : w'.cell? ⟨w.heap.size, 0, none⟩ = some (.slice (some ⟨g, 0, none⟩) ix.length c1) ∧ w'.cell? ⟨w.heap.size, 1, none⟩ = some (.slice a es.length c2) ∧ Hid (Below (w.heap.size + 1) w1 w')) => h.below (HB1.out.trans (hs.2.2.out.mono (Nat.le_succ _))))
  have HKW := Lib.hid (fun wa wb (hs : wa.cell? ⟨w.heap.size, 0, none⟩ = some (.slice (some ⟨g, 0, none⟩) ix.length c1) ∧ wa.cell? ⟨w.heap.size, 1, none⟩ = some (.slice a es.length c2) ∧ Hid (Below (w.heap.size + 1) w1 wa)) (hb : Below (w.heap.size + 1) wa wb) => show wb.cell? ⟨w.heap.size, 0, none⟩ = some (.slice (some ⟨g, 0, none⟩) ix.length c1) ∧ wb.cell? ⟨w.heap.size, 1, none⟩ = some (.slice a es.length c2) ∧ Hid (Below (w.heap.size + 1) w1 wb) from ⟨(hb.cell (Nat.lt_succ_self _)).trans hs.1, (hb.cell (Nat.lt_succ_self _)).trans hs.2.1, Lib.hid (hs.2.2.out.trans hb)⟩)
  have HLE := Lib.hid (fun w' (hs : w'.cell? ⟨w.heap.size, 0, none⟩ = some (.slice (some ⟨g, 0, none⟩) ix.length c1) ∧ w'.cell? ⟨w.heap.size, 1, none⟩ = some (.slice a es.length c2) ∧ Hid (Below (w.heap.size + 1) w1 w')) => hs.2.2.out.size)
  have HW1 := Lib.hid hw1
  have HSZ := Lib.hid hsz
  clear hw1 hsz
  generalize hmm : ix.length = m at *
  generalize hne : es.length = ne at *
  have HNE := Lib.hid hne
  have HMM := Lib.hid hmm
  clear hmm hne
  have b0 := HX1.out.cell 0
  have b1 := HX1.out.cell 1
  have f0 := HY1.out.free 0
  have f1 := HY1.out.free 1
  have y0 := HY1.out.cell 0
  have y1 := HY1.out.cell 1
  have HCP := Lib.hid (show a = none → ne = 0 ∧ c2 = 0 from fun e => ⟨by rw [← HNE.out]; subst e; exact re_none h.2.2, hcap e⟩)
  clear hcap h
  go_enter Try.func78, Try.ntmps78
  go_upto_region 1 with fail
  rw [← HW1.out]
  have HS1 := Lib.hid (show w1.cell? ⟨w.heap.size, 0, none⟩ = some (.slice (some ⟨g, 0, none⟩) m c1) ∧ w1.cell? ⟨w.heap.size, 1, none⟩ = some (.slice a ne c2) ∧ Hid (Below (w.heap.size + 1) w1 w1) from ⟨b0, b1, Lib.hid (Below.refl _ _)⟩)
  go_region_held3 (fun w' => w'.cell? ⟨w.heap.size, 0, none⟩ = some (.slice (some ⟨g, 0, none⟩) m c1) ∧ w'.cell? ⟨w.heap.size, 1, none⟩ = some (.slice a ne c2) ∧ Hid (Below (w.heap.size + 1) w1 w'))
    (first | exact ⟨b0, b1, Lib.hid (Below.refl _ _).drew⟩ | exact HKW.out _ _ HS1.out ((Below.refl _ _).alloc (by have := HSZ.out; omega) _).drew | exact HKW.out _ _ HS1.out (((Below.refl _ _).alloc (by have := HSZ.out; omega) _).alloc (by have := HSZ.out; simp; omega) _).drew | exact HS4.out | exact HS3.out | exact HKW.out _ _ HS3.out ((Below.refl _ _).alloc (by have := HSZ.out; have := HLE.out _ HS3.out; omega) _) | exact HKW.out w4 _ HS4.out (((Below.refl (w.heap.size + 1) w4).setCell (p := ⟨w.heap.size + 1, 0, none⟩) (Nat.le_refl _) _).setCell (p := ⟨w.heap.size + 1, 1, none⟩) (Nat.le_refl _) _))
    (first | (refine stepI rfl (.tmp 3) (.tmp 5) rfl w1.heap.size _ [] ix g m c1 rfl rfl HMM.out (by first | exact litI w1 _ (Nat.le_refl _) | exact litI1 w1 _ _ (Nat.le_refl _) | exact litI2 w1 _ _ (Nat.le_refl _)) (HTS.out _ (by assumption)).2.1 (by simp; omega) (HLE.out _ (by assumption)) m (by simpa using HMM.out) ?_; intro a3 c3 w3 ho3 hg3 hb3; have HY3 := Lib.hid (show Blk w3 (w.heap.size + 1) 26 #[.slice none 0 0, .slice none 0 0] from Blk.below (by first | exact HY1.out.alloc _ | exact (HY1.out.alloc _).alloc _) hb3 (by have := HSZ.out; omega)); have HS3 := Lib.hid (HKW.out _ _ (by assumption) (hb3.mono (by have := HSZ.out; omega))); have HO3 := Lib.hid ho3; (first | have HG3 := Lib.hid (show World.grownBy _ w3 (some w1.heap.size) from hg3) | have HG3 := Lib.hid (show World.grownBy _ w3 (some (w1.heap.size + 1)) from hg3)); clear ho3 hg3 hb3) | (refine stepE rfl (.tmp 7) (.tmp 9) rfl w1.heap.size _ [] es a ne c2 rfl rfl HCP.out HNE.out (by first | exact litE w3 _ (HLE.out _ HS3.out) | exact (litE2 w1 _ _ (Nat.le_refl _)).grown HG3.out (.inr (by simp [Value.ownBlock])) | exact (litE1 w1 _ _ (Nat.le_refl _)).grown HG3.out (.inr (by simp [Value.ownBlock]))) (HTS.out _ (by assumption)).2.2 (by simp; omega) (HLE.out _ (by assumption)) ne (by simpa using HNE.out) ?_; intro a4 c4 w4 ho4 hg4 hb4 hd4; have HS4 := Lib.hid (HKW.out _ _ (by assumption) (hb4.mono (by have := HSZ.out; omega))); have HO4 := Lib.hid ho4; have HI4 := Lib.hid (show OwI w4 w1.heap.size (.slice a3 m c3) ([] ++ ix) from by first | exact HO3.out.grown hg4 (own_ne HO3.out hd4) | exact (HO3.out.below ((Below.refl _ _).alloc (Nat.le_refl _) _)).grown hg4 (own_ne (HO3.out.below ((Below.refl _ _).alloc (Nat.le_refl _) _)) hd4)); have HR := Lib.hid (show Blk w4 (w.heap.size + 1) 26 #[.slice none 0 0, .slice none 0 0] from Blk.below (by first | exact HY3.out | exact HY3.out.alloc _) hb4 (by have := HSZ.out; omega)); have z0 := HR.out.cell 0; have z1 := HR.out.cell 1; have z2 := HR.out.free 0; have z3 := HR.out.free 1; clear ho4 hg4 hb4 hd4))
  all_goals
    go_wp2_with fail
    have hmm := HMM.out
    have hne := HNE.out
    subst hmm
    subst hne
    obtain ⟨g1, rfl⟩ := own_some HI4.out h8
    have HZ := two_set HR.out (.slice (some ⟨g1, 0, none⟩) ix.length c3) (.slice a4 es.length c4)
    have HD := OwD.made HI4.out HO4.out
    have hz := HSZ.out
    exact bodyPost_ret (v := .agg #[.slice (some ⟨g1, 0, none⟩) ix.length c3, .slice a4 es.length c4]) (results_cell_row rfl _ _ (w.heap.size + 1) 26 _ (0, 0) _ rfl HZ Try.underlying26 rfl (by kernel_rfl)) rfl
      ⟨g1, c3, a4, c4, rfl, ((HD.setOff (by have := HD.lt1; omega) (by rintro g rfl; have := HD.lt2; omega)).setOff (by have := HD.lt1; omega) (by rintro g rfl; have := HD.lt2; omega)).wide (by omega), ((HB1.out.trans (HS4.out.2.2.out.mono (Nat.le_succ _))).setCell (by show w.heap.size ≤ w.heap.size + 1; omega) _).setCell (by show w.heap.size ≤ w.heap.size + 1; omega) _⟩
theorem res_ct {fn : Func} {p u : Tmp} {ty : TypeId} (h : fn.results = #[.cell p ty, .tmp u]) (tmps : Array Value) (w : World) (g : Nat) (cs : Array Value)
    (hp : tmps.getD p undef = .pointer (some ⟨g, 0, none⟩)) (hl : (loadVar ty ⟨g, 0, none⟩).run Try.prog w = .ok (.agg cs) w) :
    (results fn tmps).run Try.prog w = .ok (.tuple #[.agg cs, tmps.getD u undef]) w := by
  rw [results_cell_tmp h, hp]
  simp only [asAddr, Sem.run_pure, Result.andThen_ok, hl]
theorem ld_dict {w : World} {g : Nat} {t : TypeId} {x y : Value} (h : Blk w g t #[x, y]) : (loadVar 26 ⟨g, 0, none⟩).run Try.prog w = .ok (.agg #[x, y]) w := run_loadVar_row w g t 26 _ (0, 0) _ h Try.underlying26 rfl (by kernel_rfl)
/-- An entry that is none. -/
def ze : Ent := ⟨⟨#[]⟩, 0, 0, false⟩
/-- A dictionary of the call's own. -/
def OdD (w : World) (b : Nat) (R : List Int × List Ent) (a1 : Option Addr) (c1 : Nat) (a2 : Option Addr) (c2 : Nat) : Prop := OwI w b (.slice a1 R.1.length c1) R.1 ∧ OwE w b (.slice a2 R.2.length c2) R.2
theorem OwD.od {w : World} {b g1 c1 c2 : Nat} {ix : List Int} {es : List Ent} {a2 : Option Addr} (h : OwD w b ix es g1 c1 a2 c2) : OdD w b (ix, es) (some ⟨g1, 0, none⟩) c1 a2 c2 := ⟨h.1, h.2.1⟩
theorem OdD.none (w : World) (b : Nat) : OdD w b ([], []) none 0 none 0 := ⟨Own.nil _ _ _, OwE.nil _ _⟩
theorem OdD.below {w w' : World} {b c1 c2 : Nat} {R : List Int × List Ent} {a1 a2 : Option Addr} (h : OdD w b R a1 c1 a2 c2) (hb : Below w.heap.size w w') : OdD w' b R a1 c1 a2 c2 := ⟨h.1.below hb, h.2.below hb⟩
def OdP (R : (List Int × List Ent) × Bool) (w : World) (e : Ending) (w' : World) : Prop := ∃ a1 c1 a2 c2, e = .returned (.tuple #[.agg #[.slice a1 R.1.1.length c1, .slice a2 R.1.2.length c2], .bool R.2]) ∧ OdD w' w.heap.size R.1 a1 c1 a2 c2 ∧ Below w.heap.size w w'
noncomputable def drV (ix : List Int) (es : List Ent) (key : ByteArray) : (List Int × List Ent) × Bool :=
  if keyB key && dokB ix es then (if plc ix es key (hsh key.data.toList) < 0 then ((ix, es), false) else ((ix.set (fstS ix es key (hsh key.data.toList)) (-2), es.set (plc ix es key (hsh key.data.toList)).toNat ze), true)) else (([], []), false)
theorem drV_no {ix : List Int} {es : List Ent} {key : ByteArray} (h : (keyB key && dokB ix es) = false) : drV ix es key = (([], []), false) := by unfold drV; rw [if_neg (by rw [h]; decide)]
theorem drV_yes {ix : List Int} {es : List Ent} {key : ByteArray} (h : keyB key = true) (h2 : dokB ix es = true) : drV ix es key = (if plc ix es key (hsh key.data.toList) < 0 then ((ix, es), false) else ((ix.set (fstS ix es key (hsh key.data.toList)) (-2), es.set (plc ix es key (hsh key.data.toList)).toNat ze), true)) := by unfold drV; rw [if_pos (by rw [h, h2]; rfl)]
theorem plc_in2 {ix : List Int} {es : List Ent} {key : ByteArray} {hs : Nat} (h : Fit ix es) (hh : hs < 65536) : plc ix es key hs = -1 ∨ ∃ k : Nat, plc ix es key hs = (k : Int) ∧ k < es.length := by
  rcases plc_is (key := key) h hh with h1 | ⟨k, h1, h2, _⟩
  · exact .inl h1
  · exact .inr ⟨k, h1, h2⟩
theorem fstS_lt {ix : List Int} {es : List Ent} {key : ByteArray} {hs : Nat} (h : Fit ix es) (hh : hs < 65536) : fstS ix es key hs < ix.length := by
  have h4 := (fst_ok (key := key) h hh).2.2.2
  rcases Nat.lt_or_ge (fstS ix es key hs) ix.length with h7 | h7
  · exact h7
  · rw [List.getElem?_eq_none h7] at h4; cases h4
/-- A whole entry is stored. -/
theorem OwE.set4 {w : World} {b g n cap k : Nat} {es : List Ent} {e : Ent} (h : OwE w b (.slice (some ⟨g, 0, none⟩) n cap) es) (he : es[k]? = some e) (e' : Ent) : OwE ((((w.setCell ⟨g, k * 4, none⟩ (.string e'.key)).setCell ⟨g, k * 4 + 1, none⟩ (.int .i64 e'.hash)).setCell ⟨g, k * 4 + 2, none⟩ (.int .i64 e'.val)).setCell ⟨g, k * 4 + 3, none⟩ (.bool e'.live)) b (.slice (some ⟨g, 0, none⟩) n cap) (es.set k e') := by
  have hk := lt_of_ent he
  have g1 : ∀ f : Ent, (es.set k f)[k]? = some f := fun f => by rw [List.getElem?_set_self hk]
  have h1 := h.stored (r := 0) (u := .string e'.key) (e' := ⟨e'.key, e.hash, e.val, e.live⟩) he (by omega) rfl
  have h2 := h1.stored (r := 1) (u := .int .i64 e'.hash) (e' := ⟨e'.key, e'.hash, e.val, e.live⟩) (g1 _) (by omega) rfl
  rw [List.set_set] at h2
  have h3 := h2.stored (r := 2) (u := .int .i64 e'.val) (e' := ⟨e'.key, e'.hash, e'.val, e.live⟩) (g1 _) (by omega) rfl
  rw [List.set_set] at h3
  have h4 := h3.stored (r := 3) (u := .bool e'.live) (e' := e') (g1 _) (by omega) rfl
  rw [List.set_set] at h4
  exact h4
/-- A slot is written. -/
theorem OwD.slot {w : World} {b g1 c1 c2 : Nat} {ix : List Int} {es : List Ent} {a2 : Option Addr} (h : OwD w b ix es g1 c1 a2 c2) (s : Nat) (i : Int) : OwD (w.setCell ⟨g1, s, none⟩ (.int .i64 i)) b (ix.set s i) es g1 c1 a2 c2 := by
  refine ⟨by rw [List.length_set]; exact h.1.stored s i, ?_, h.2.2⟩
  rcases h.2.1.form with ⟨e, _⟩ | ⟨g, c, e, _⟩
  · injection e with e _ _
    subst e
    exact h.2.1.setOff (by simp [Value.ownBlock])
  · injection e with e _ _
    subst e
    exact h.2.1.setOff (fun e => h.2.2 g rfl (by simpa [Value.ownBlock] using e))
/-- An entry is written. -/
theorem OwD.ent {w : World} {b g1 c1 c2 g2 k : Nat} {ix : List Int} {es : List Ent} {e : Ent} (h : OwD w b ix es g1 c1 (some ⟨g2, 0, none⟩) c2) (he : es[k]? = some e) (e' : Ent) : OwD ((((w.setCell ⟨g2, k * 4, none⟩ (.string e'.key)).setCell ⟨g2, k * 4 + 1, none⟩ (.int .i64 e'.hash)).setCell ⟨g2, k * 4 + 2, none⟩ (.int .i64 e'.val)).setCell ⟨g2, k * 4 + 3, none⟩ (.bool e'.live)) b ix (es.set k e') g1 c1 (some ⟨g2, 0, none⟩) c2 :=
  have hn := Ne.symm (h.2.2 g2 rfl)
  ⟨(((h.1.setOff hn).setOff hn).setOff hn).setOff hn, by rw [List.length_set]; exact h.2.1.set4 he e', h.2.2⟩
theorem OwD.fact {w : World} {b g1 c1 c2 s : Nat} {ix : List Int} {es : List Ent} {a2 : Option Addr} {n : Int} (h : OwD w b ix es g1 c1 a2 c2) (hs : ix[s]? = some n) : w.cell? ⟨g1, s, none⟩ = some (.int .i64 n) ∧ w.frozen? ⟨g1, s, none⟩ = false := h.1.cellAt hs
end Go.Proofs.Ytibglmcpbbikdaa
