/- Lists of numbers and numbers are drawn; two lists are the same. -/
import Derived.Test.YtbcphejblopekaaDrC
import Derived.Test.YtbcphejblopekaaLexA
namespace Go.Proofs.Ytbcphejblopekaa
open Go.RowKit
theorem ri_low {w0 w w' : World} {g n cap k0 k : Nat} {a : Option Addr} (h0 : RI w0 g a n cap k0) (h : RI w g a n cap k) (hb : Below w0.heap.size w w') : RI w' g a n cap k := by
  have hg := h0.1.lt
  refine ⟨h.1.below hb hg, h.2.1, h.2.2.1, ?_⟩
  rcases h.2.2.2 with h4 | ⟨x, hx, hxg, hr⟩
  · exact Or.inl h4
  · refine Or.inr ⟨x, hx, hxg, fun j hj => ?_⟩
    obtain ⟨c, hc, hcell⟩ := hr j hj
    refine ⟨c, hc, ?_⟩
    have hb' : (x.add j).block = x.block := addr_block x j
    have hlt : (x.add j).block < w0.heap.size := by
      rcases h0.2.2.2 with h5 | ⟨y, hy, _, hr0⟩
      · omega
      · rw [hx] at hy
        injection hy with hy
        subst hy
        obtain ⟨_, _, hc0⟩ := hr0 j hj
        exact World.block_lt_of_cell? w0 _ hc0
    rw [World.cell?_of_block (hb.block _ hlt)]
    exact hcell
/-- While numbers are drawn into a list. -/
def NuI (w wr : World) (g : Nat) (a : Option Addr) (n cap k j : Nat) (v : Value) (is : List Int) : Prop := DrP w g a n cap k j wr ∧ OwI wr w.heap.size v is
theorem own_ne_of {w : World} {b g : Nat} {v : Value} {is : List Int} (h : OwI w b v is) (hg : g < b) : v.ownBlock = none ∨ v.ownBlock ≠ some g := by
  cases hv : v.ownBlock with
  | none => exact .inl rfl
  | some q => exact .inr fun hq => by have := (h.lt q hv).1; injection hq with hq; omega
theorem NuI.call {w w1 w2 : World} {g n cap k k1 j j2 : Nat} {a : Option Addr} {v : Value} {is : List Int} (h0 : RI w g a n cap k) (h : NuI w w1 g a n cap k j v is) (hk : k1 ≤ k + j) (hd : DrP w1 g a n cap k1 j2 w2) : NuI w w2 g a n cap k (j + j2) v is :=
  ⟨DrP.then h.1.1 hk hd, h.2.grown hd.1 (own_ne_of h.2 h0.1.lt)⟩
theorem NuI.app {w w1 w2 : World} {g n cap k j : Nat} {a : Option Addr} {v v' : Value} {is is' : List Int} (h0 : RI w g a n cap k) (h : NuI w w1 g a n cap k j v is) (ho : OwI w2 w.heap.size v' is') (hb : Below w.heap.size w1 w2) : NuI w w2 g a n cap k j v' is' := by
  obtain ⟨⟨hg, k', hk, hr⟩, _⟩ := h
  refine ⟨⟨⟨hb.os.trans hg.os, hb.tape.trans hg.tape, hb.output.trans hg.output, Nat.le_trans hg.size hb.size, fun i hi hne => (hb.block i hi).trans (hg.block i hi hne)⟩, k', hk, ri_low h0 hr hb⟩, ho⟩
theorem NuI.up {w w1 : World} {g n cap k j j2 : Nat} {a : Option Addr} {v : Value} {is : List Int} (h : NuI w w1 g a n cap k j v is) (hj : j ≤ j2) : NuI w w1 g a n cap k j2 v is := ⟨h.1.more hj, h.2⟩
def NuP (w : World) (g : Nat) (a : Option Addr) (n cap k : Nat) (most : Nat) (hi : Int) (e : Ending) (w' : World) : Prop := ∃ v is, e = .returned v ∧ is.length ≤ most ∧ (∀ i ∈ is, 0 ≤ i ∧ i ≤ hi) ∧ NuI w w' g a n cap k (most + 1) v is
set_option maxHeartbeats 1000000 in
theorem numbers_draw (w : World) (g n cap k : Nat) (a : Option Addr) (most : Nat) (m : Int) (h : RI w g a n cap k) (hk : k ≤ 50000) (hmost : most ≤ 100) (hm0 : 0 ≤ m) (hm : m ≤ 1000) :
    Calls Try.prog 57 #[.pointer (some ⟨g, 0, none⟩), .int .i64 (most : Int), .int .i64 m] w (NuP w g a n cap k most m) := by
  have H0 := Lib.hid h
  have HA := Lib.hid (show NuI w (w.alloc (Obj.cells #[] 3)) g a n cap k 0 (.slice (some ⟨w.heap.size, 0, none⟩) 0 0) [] from ⟨(DrP.zero h).below ((Below.refl _ _).alloc (Nat.le_refl _) _), World.ownsRow_lit w #[] 0 (Nat.le_refl _) (by decide) rfl⟩)
  clear h
  go_enter Try.func57, Try.ntmps57
  go_wp2_with fail
  obtain ⟨kA, hkA, hrA⟩ := HA.out.1.2
  refine (pick_any _ g a n cap kA ((most : Int) + 1) hrA (by omega) (by omega)).mono ?_
  rintro e w1 ⟨r, rfl, hrl, hg1, k1, hk1, hr1⟩
  have HB := Lib.hid (HA.out.call H0.out (show kA ≤ k + 0 by omega) ⟨hg1, k1, hk1, hr1⟩)
  have hrm : r ≤ most := by omega
  clear hrA hg1 hr1 hrl hkA hk1
  go_wp2_with fail
  go_loopw [7, 8] (fun v i wr => ∃ (c : Nat) (is : List Int), i = .int .i64 (c : Int) ∧ is.length + c ≤ most ∧ Hid (∀ i ∈ is, 0 ≤ i ∧ i ≤ m) ∧ Hid (NuI w wr g a n cap k (1 + is.length) v is)) (fun _ i _ => (intOf i).toNat)
  case atStart => exact ⟨r, [], rfl, by simpa using hrm, Lib.hid (fun i hi => by cases hi), HB⟩
  case round =>
    obtain ⟨c, is, rfl, hc, HK, HI⟩ := hrel
    have HM := Lib.hid hc
    have HQ := Lib.hid (show is.length ≤ 100 by omega)
    by_cases hlt : 0 < c
    · obtain ⟨c', rfl⟩ : ∃ c', c = c' + 1 := ⟨c - 1, by omega⟩
      obtain ⟨k2, hk2, hr2⟩ := HI.out.1.2
      have HP := Lib.hid (pick_any wr g a n cap k2 m hr2 (by have := HQ.out; omega) (by omega))
      have HK2 := Lib.hid hk2
      have hcb : c' ≤ 100 := by omega
      clear hc hk2 hr2
      go_wp2_with fail
      refine HP.out.mono ?_
      rintro e w2 ⟨p, rfl, hpl, hg2, k3, hk3, hr3⟩
      have HC := Lib.hid (HI.out.call H0.out HK2.out ⟨hg2, k3, hk3, hr3⟩)
      have HPL := Lib.hid (show ∀ i ∈ is ++ [(p : Int)], 0 ≤ i ∧ i ≤ m by
        intro i hi
        rw [List.mem_append] at hi
        rcases hi with hi | hi
        · exact HK.out i hi
        · rw [List.mem_singleton.1 hi]; omega)
      have HZ := Lib.hid HC.out.1.1.size
      clear hg2 hr3 hpl hk3
      go_wp2_with (first | (refine appI rfl (.tmp 18) (.tmp 22) rfl w2 _ rfl w.heap.size _ is rfl rfl HC.out.2 (by have := HQ.out; omega) HZ.out ?_; intro v3 w3 ho hb3; have HT := Lib.hid (HC.out.app H0.out ho hb3); clear ho hb3))
      go_roundw
      case rel => exact ⟨c', is ++ [(p : Int)], by go_num, by have := HM.out; simp; omega, HPL, Lib.hid (by rw [show 1 + (is ++ [(p : Int)]).length = 1 + is.length + 1 by simp; omega]; exact HT.out)⟩
      case measure => simp [intOf]; try omega
    · obtain rfl : c = 0 := by omega
      clear hlt
      go_wp2_with fail
      go_ret
      exact ⟨_, is, rfl, by omega, HK.out, HI.out.up (by omega)⟩
theorem sameNums_rd (is : List Int) (v1 v2 : Value) (w : World) (h1 : RdI w v1 is) (h2 : RdI w v2 is) (hl : is.length ≤ 1048576) :
    Calls Try.prog 56 #[v1, v2] w fun e w' => e = .returned (.bool true) ∧ Below w.heap.size w w' := by
  obtain ⟨a1, c1, rfl, hc1, _, ha1⟩ := h1.sub
  obtain ⟨a2, c2, rfl, hc2, _, ha2⟩ := h2.sub
  have HA := Lib.hid ha1
  have HB := Lib.hid ha2
  clear h1 h2 ha1 ha2
  obtain ⟨n, hn⟩ : ∃ n, n = is.length := ⟨_, rfl⟩
  have HN := Lib.hid hn
  rw [← hn] at hl hc1 hc2 ⊢
  clear hn
  go_enter Try.func56, Try.ntmps56
  go_wp2_with fail
  go_loopw [5] (fun i wr => ∃ k m : Nat, k ≤ n ∧ i = .int .i64 k ∧ wr = w.drewN m) (fun i _ => n - (intOf i).toNat)
  case atStart => exact ⟨0, 0, by omega, rfl, rfl⟩
  case round =>
    obtain ⟨k, m, hk, rfl, rfl⟩ := hrel
    by_cases hlt : k < n
    · obtain ⟨s, hs⟩ : ∃ s, is[k]? = some s := ⟨is[k]'(by have := HN.out; omega), List.getElem?_eq_getElem _⟩
      obtain ⟨x1, rfl, d1⟩ := HA.out k s hs
      obtain ⟨x2, rfl, d2⟩ := HB.out k s hs
      have k1 : (k : Int) < (n : Int) := by omega
      have k0 : 0 ≤ (k : Int) := by omega
      clear hs
      go_wp2_with fail
      go_quiet (fail)
      go_wp2_with fail
      go_roundw
      case rel => exact ⟨k + 1, _, by omega, by go_num, rfl⟩
      case measure => simp [intOf]; try omega
    · obtain rfl : k = n := by omega
      clear hlt
      go_wp2_with fail
      go_ret
      exact ⟨rfl, ⟨rfl, rfl, rfl, Nat.le_refl _, fun _ _ => rfl⟩⟩
theorem sameInts_rd (is : List Int) (v1 v2 : Value) (w : World) (h1 : RdI w v1 is) (h2 : RdI w v2 is) (hl : is.length ≤ 1048576) :
    Calls Try.prog 35 #[v1, v2] w fun e w' => e = .returned (.bool true) ∧ Below w.heap.size w w' := by
  have HS := Lib.hid (sameNums_rd is v1 v2 w h1 h2 hl)
  clear h1 h2
  go_enter Try.func35, Try.ntmps35
  go_wp2_with fail
  refine HS.out.mono ?_
  rintro e w2 ⟨rfl, hb2⟩
  have HB := Lib.hid hb2
  clear hb2
  go_wp2_with fail
  go_ret
  exact ⟨rfl, HB.out⟩
/-- A number is drawn. -/
def ZzP (w : World) (e : Ending) (w' : World) : Prop := ∃ z : Int, e = .returned (.int .i64 z) ∧ (-9223372036854775808 ≤ z ∧ z ≤ 9223372036854775807) ∧ Below w.heap.size w w'
theorem dListRoom (w : World) (a : Option Addr) (n cap : Nat) (h : Cr w a n cap) : Calls Try.prog 32 #[.slice a n cap] w (ZzP w) := by
  have HN := Lib.hid (newRnd_any w a n cap h)
  clear h
  go_enter Try.func32, Try.ntmps32
  go_wp2_with fail
  refine HN.out.mono ?_
  rintro e w1 ⟨rfl, hb1, m, hr1⟩
  have HB1 := Lib.hid hb1
  have HR1 := Lib.hid hr1
  clear hb1 hr1
  go_wp2_with fail
  refine (pick_any w1 w.heap.size a m cap 0 2000 HR1.out (by omega) (by decide)).mono ?_
  rintro e w3 ⟨s, rfl, hsl, hg3, k3, hk3, hr3⟩
  have HB3 := Lib.hid (HB1.out.grown hg3 HB1.out.size fun k hk => by injection hk with hk; omega)
  have HR3 := Lib.hid hr3
  have hs : s ≤ 2000 := by omega
  clear hg3 hr3 hsl
  go_wp2_with fail
  refine (often_draw w3 w.heap.size m cap k3 a (s : Int) HR3.out (by omega) (by omega) (by omega)).mono ?_
  rintro e w4 ⟨⟨z, rfl, hz⟩, hg4, k4, hk4, hr4⟩
  have HB4 := Lib.hid (HB3.out.grown hg4 HB3.out.size fun k hk => by injection hk with hk; omega)
  have HZ := Lib.hid hz
  clear hg4 hr4 hz
  go_wp2_with fail
  go_ret
  exact ⟨z, rfl, HZ.out, HB4.out⟩
theorem dRunLeast (w : World) (a : Option Addr) (n cap : Nat) (h : Cr w a n cap) : Calls Try.prog 33 #[.slice a n cap] w (ZzP w) := by
  have HN := Lib.hid (newRnd_any w a n cap h)
  clear h
  go_enter Try.func33, Try.ntmps33
  go_wp2_with fail
  refine HN.out.mono ?_
  rintro e w1 ⟨rfl, hb1, m, hr1⟩
  have HB1 := Lib.hid hb1
  have HR1 := Lib.hid hr1
  clear hb1 hr1
  go_wp2_with fail
  refine (pick_any w1 w.heap.size a m cap 0 2000 HR1.out (by omega) (by decide)).mono ?_
  rintro e w3 ⟨s, rfl, hsl, hg3, k3, hk3, hr3⟩
  have HB3 := Lib.hid (HB1.out.grown hg3 HB1.out.size fun k hk => by injection hk with hk; omega)
  have HR3 := Lib.hid hr3
  have hs : s ≤ 2000 := by omega
  clear hg3 hr3 hsl
  go_wp2_with fail
  refine (often_draw w3 w.heap.size m cap k3 a (s : Int) HR3.out (by omega) (by omega) (by omega)).mono ?_
  rintro e w4 ⟨⟨z, rfl, hz⟩, hg4, k4, hk4, hr4⟩
  have HB4 := Lib.hid (HB3.out.grown hg4 HB3.out.size fun k hk => by injection hk with hk; omega)
  have HZ := Lib.hid hz
  clear hg4 hr4 hz
  go_wp2_with fail
  go_ret
  exact ⟨z, rfl, HZ.out, HB4.out⟩


end Go.Proofs.Ytbcphejblopekaa
