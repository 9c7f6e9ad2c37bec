/- Lists of numbers, of texts and of entries that are the same; a text among others. -/
import Derived.Test.YtibglmcpbbikdaaLaE
namespace Go.Proofs.Ytibglmcpbbikdaa
open Go.RowKit
def Parked (p : Prop) : Prop := p
theorem park {p : Prop} (h : Parked p) : p := h
theorem sameNums_rd (is : List Int) (v1 v2 : Value) (w : World) (h1 : RdI w v1 is) (h2 : RdI w v2 is) (hl : is.length ≤ 1048576) :
    Calls Try.prog 63 #[v1, v2] w fun e w' => e = .returned (.bool true) ∧ Below w.heap.size w w' := by
  obtain ⟨a1, c1, rfl, hc1, _, ha1⟩ := h1.sub
  obtain ⟨a2, c2, rfl, hc2, _, ha2⟩ := h2.sub
  have HA := Lib.hid ha1
  have HB := Lib.hid ha2
  clear h1 h2 ha1 ha2
  obtain ⟨n, hn⟩ : ∃ n, n = is.length := ⟨_, rfl⟩
  have HN := Lib.hid hn
  rw [← hn] at hl hc1 hc2 ⊢
  clear hn
  go_enter Try.func63, Try.ntmps63
  go_wp2_with fail
  go_loopw [5] (fun i wr => ∃ k m : Nat, k ≤ n ∧ i = .int .i64 k ∧ wr = w.drewN m) (fun i _ => n - (intOf i).toNat)
  case atStart => exact ⟨0, 0, by omega, rfl, rfl⟩
  case round =>
    obtain ⟨k, m, hk, rfl, rfl⟩ := hrel
    by_cases hlt : k < n
    · obtain ⟨s, hs⟩ : ∃ s, is[k]? = some s := ⟨is[k]'(by have := HN.out; omega), List.getElem?_eq_getElem _⟩
      obtain ⟨x1, rfl, d1⟩ := HA.out k s hs
      obtain ⟨x2, rfl, d2⟩ := HB.out k s hs
      have k1 : (k : Int) < (n : Int) := by omega
      have k0 : 0 ≤ (k : Int) := by omega
      clear hs
      go_wp2_with fail
      go_quiet (fail)
      go_wp2_with fail
      go_roundw
      case rel => exact ⟨k + 1, _, by omega, by go_num, rfl⟩
      case measure => simp [intOf]; try omega
    · obtain rfl : k = n := by omega
      clear hlt
      go_wp2_with fail
      go_ret
      exact ⟨rfl, ⟨rfl, rfl, rfl, Nat.le_refl _, fun _ _ => rfl⟩⟩
theorem sameInts_rd (is : List Int) (v1 v2 : Value) (w : World) (h1 : RdI w v1 is) (h2 : RdI w v2 is) (hl : is.length ≤ 1048576) :
    Calls Try.prog 26 #[v1, v2] w fun e w' => e = .returned (.bool true) ∧ Below w.heap.size w w' := by
  have HS := Lib.hid (sameNums_rd is v1 v2 w h1 h2 hl)
  clear h1 h2
  go_enter Try.func26, Try.ntmps26
  go_wp2_with fail
  refine HS.out.mono ?_
  rintro e w2 ⟨rfl, hb2⟩
  have HB := Lib.hid hb2
  clear hb2
  go_wp2_with fail
  go_ret
  exact ⟨rfl, HB.out⟩
theorem sameTexts_in (is : List ByteArray) (v1 v2 : Value) (w : World) (h1 : RdT w v1 is) (h2 : RdT w v2 is) (hl : is.length ≤ 1048576) :
    Calls Try.prog 71 #[v1, v2] w fun e w' => e = .returned (.bool true) ∧ Below w.heap.size w w' := by
  obtain ⟨a1, c1, rfl, hc1, _, ha1⟩ := h1.sub
  obtain ⟨a2, c2, rfl, hc2, _, ha2⟩ := h2.sub
  have HA := Lib.hid ha1
  have HB := Lib.hid ha2
  clear h1 h2 ha1 ha2
  obtain ⟨n, hn⟩ : ∃ n, n = is.length := ⟨_, rfl⟩
  have HN := Lib.hid hn
  rw [← hn] at hl hc1 hc2 ⊢
  clear hn
  go_enter Try.func71, Try.ntmps71
  go_wp2_with fail
  go_loopw [5] (fun i wr => ∃ k m : Nat, k ≤ n ∧ i = .int .i64 k ∧ wr = w.drewN m) (fun i _ => n - (intOf i).toNat)
  case atStart => exact ⟨0, 0, by omega, rfl, rfl⟩
  case round =>
    obtain ⟨k, m, hk, rfl, rfl⟩ := hrel
    by_cases hlt : k < n
    · obtain ⟨s, hs⟩ : ∃ s, is[k]? = some s := ⟨is[k]'(by have := HN.out; omega), List.getElem?_eq_getElem _⟩
      obtain ⟨x1, rfl, d1⟩ := HA.out k s hs
      obtain ⟨x2, rfl, d2⟩ := HB.out k s hs
      have k1 : (k : Int) < (n : Int) := by omega
      have k0 : 0 ≤ (k : Int) := by omega
      clear hs
      go_wp2_with fail
      go_quiet (fail)
      go_wp2_with fail
      go_roundw
      case rel => exact ⟨k + 1, _, by omega, by go_num, rfl⟩
      case measure => simp [intOf]; try omega
    · obtain rfl : k = n := by omega
      clear hlt
      go_wp2_with fail
      go_ret
      exact ⟨rfl, ⟨rfl, rfl, rfl, Nat.le_refl _, fun _ _ => rfl⟩⟩
theorem sameTexts_rd (is : List ByteArray) (v1 v2 : Value) (w : World) (h1 : RdT w v1 is) (h2 : RdT w v2 is) (hl : is.length ≤ 1048576) :
    Calls Try.prog 35 #[v1, v2] w fun e w' => e = .returned (.bool true) ∧ Below w.heap.size w w' := by
  have HS := Lib.hid (sameTexts_in is v1 v2 w h1 h2 hl)
  clear h1 h2
  go_enter Try.func35, Try.ntmps35
  go_wp2_with fail
  refine HS.out.mono ?_
  rintro e w2 ⟨rfl, hb2⟩
  have HB := Lib.hid hb2
  clear hb2
  go_wp2_with fail
  go_ret
  exact ⟨rfl, HB.out⟩
theorem sameEntries_re (es : List Ent) (a1 a2 : Option Addr) (c1 c2 : Nat) (w : World) (h1 : Re w a1 es) (h2 : Re w a2 es) (hl : es.length ≤ 1048576) :
    Calls Try.prog 70 #[.slice a1 es.length c1, .slice a2 es.length c2] w fun e w' => e = .returned (.bool true) ∧ Below w.heap.size w w' := by
  have HA := Lib.hid h1
  have HB := Lib.hid h2
  clear h1 h2
  obtain ⟨n, hn⟩ : ∃ n, n = es.length := ⟨_, rfl⟩
  have HN := Lib.hid hn
  rw [← hn] at hl ⊢
  clear hn
  go_enter Try.func70, Try.ntmps70
  go_wp2_with fail
  go_loopw [5] (fun i wr => ∃ k m : Nat, k ≤ n ∧ i = .int .i64 k ∧ wr = w.drewN m) (fun i _ => n - (intOf i).toNat)
  case atStart => exact ⟨0, 0, by omega, rfl, rfl⟩
  case round =>
    obtain ⟨k, m, hk, rfl, rfl⟩ := hrel
    by_cases hlt : k < n
    · obtain ⟨e, he⟩ : ∃ e, es[k]? = some e := ⟨es[k]'(by have := HN.out; omega), List.getElem?_eq_getElem _⟩
      have hne : es ≠ [] := by rintro rfl; simp at he
      obtain ⟨g1, rfl, e1⟩ := HA.out.resolve_left (fun h => hne h.2)
      obtain ⟨g2, rfl, e2⟩ := HB.out.resolve_left (fun h => hne h.2)
      obtain ⟨p0, p1, p2, p3⟩ := e1.2 k e he
      obtain ⟨q0, q1, q2, q3⟩ := e2.2 k e he
      have k1 : (k : Int) < (n : Int) := by omega
      have k0 : 0 ≤ (k : Int) := by omega
      clear he hne e1 e2
      obtain ⟨key, hs, val, lv⟩ := e
      go_wp2_with fail
      go_quiet (fail)
      go_wp2_with fail
      go_roundw
      case rel => exact ⟨k + 1, _, by omega, by go_num, rfl⟩
      case measure => simp [intOf]; try omega
    · obtain rfl : k = n := by omega
      clear hlt
      go_wp2_with fail
      go_ret
      exact ⟨rfl, ⟨rfl, rfl, rfl, Nat.le_refl _, fun _ _ => rfl⟩⟩
theorem isOne_in (is : List ByteArray) (s : ByteArray) (b : Bool) (hb : b = true ↔ s ∈ is) (v1 : Value) (w : World) (h1 : RdT w v1 is) (hl : is.length ≤ 1048576) :
    Calls Try.prog 66 #[v1, .string s] w fun e w' => e = .returned (.bool b) ∧ w = w' := by
  obtain ⟨a1, c1, rfl, hc1, _, ha1⟩ := h1.sub
  have HA := Lib.hid ha1
  clear h1 ha1
  obtain ⟨n, hn⟩ : ∃ n, n = is.length := ⟨_, rfl⟩
  have HN := Lib.hid hn
  have HB := Lib.hid hb
  rw [← hn] at hl hc1 ⊢
  clear hn hb
  go_enter Try.func66, Try.ntmps66
  go_wp2_with fail
  go_loopw [5] (fun i wr => ∃ k : Nat, k ≤ n ∧ i = .int .i64 k ∧ wr = w ∧ Hid (∀ j t, j < k → is[j]? = some t → t ≠ s)) (fun i _ => n - (intOf i).toNat)
  case atStart => exact ⟨0, by omega, rfl, rfl, Lib.hid (fun _ _ h => absurd h (by omega))⟩
  case round =>
    obtain ⟨k, hk, rfl, rfl, HK⟩ := hrel
    by_cases hlt : k < n
    · obtain ⟨t, ht⟩ : ∃ s, is[k]? = some s := ⟨is[k]'(by have := HN.out; omega), List.getElem?_eq_getElem _⟩
      obtain ⟨x1, rfl, d1⟩ := HA.out k t ht
      have HT := Lib.hid ht
      have k1 : (k : Int) < (n : Int) := by omega
      have k0 : 0 ≤ (k : Int) := by omega
      clear ht
      by_cases hts : t = s
      · subst hts
        have HE := Lib.hid (show b = true from HB.out.2 (List.mem_of_getElem? HT.out))
        go_wp2_with fail
        go_ret
        exact ⟨by rw [HE.out]; rfl, rfl⟩
      · have hb2 : (t.toList == s.toList) = false := beq_eq_false_iff_ne.2 fun h9 => hts (by rw [ByteArray.toList_eq, ByteArray.toList_eq] at h9; exact ByteArray.ext (Array.toList_inj.1 h9))
        have HS := Lib.hid hts
        clear hts
        go_wp2_with fail
        go_roundw
        case rel =>
          refine ⟨k + 1, by omega, by go_num, by simp, Lib.hid fun j u hj hu => ?_⟩
          rcases Nat.lt_or_ge j k with h9 | h9
          · exact HK.out j u h9 hu
          · obtain rfl : j = k := by omega
            rw [HT.out] at hu; injection hu with hu; rw [← hu]; exact HS.out
        case measure => simp [intOf]; try omega
    · obtain rfl : k = n := by omega
      have HE := Lib.hid (show b = false by
        refine Bool.eq_false_iff.2 fun hm => ?_
        obtain ⟨j, hj⟩ := List.mem_iff_getElem?.1 (HB.out.1 hm)
        have hjl : j < is.length := by
          rcases Nat.lt_or_ge j is.length with h9 | h9
          · exact h9
          · rw [List.getElem?_eq_none h9] at hj; cases hj
        exact HK.out j s (by have := HN.out; omega) hj rfl)
      clear hlt
      go_wp2_with fail
      go_ret
      exact ⟨by rw [HE.out]; rfl, rfl⟩
theorem isOne_is (is : List ByteArray) (s : ByteArray) (b : Bool) (hb : b = true ↔ s ∈ is) (v1 : Value) (w : World) (h1 : RdT w v1 is) (hl : is.length ≤ 1048576) :
    Calls Try.prog 31 #[v1, .string s] w fun e w' => e = .returned (.bool b) ∧ w = w' := by
  have HS := Lib.hid (isOne_in is s b hb v1 w h1 hl)
  clear h1 hb
  go_enter Try.func31, Try.ntmps31
  go_wp2_with fail
  refine HS.out.mono ?_
  rintro e w2 ⟨rfl, rfl⟩
  go_wp2_with fail
  go_ret
  exact ⟨rfl, rfl⟩
/-- Two dictionaries that lie with the same slots and entries. -/
theorem sameDict_re (ix : List Int) (es : List Ent) (v1 v2 : Value) (a1 a2 : Option Addr) (c1 c2 : Nat) (w : World) (h1 : RdI w v1 ix) (h2 : RdI w v2 ix) (h3 : Re w a1 es) (h4 : Re w a2 es) (hx : ix.length ≤ 1048576) (hl : es.length ≤ 1048576) :
    Calls Try.prog 34 #[.agg #[v1, .slice a1 es.length c1], .agg #[v2, .slice a2 es.length c2]] w fun e w' => e = .returned (.bool true) ∧ Below w.heap.size w w' := by
  obtain ⟨w1, hw1⟩ : ∃ w1, w1 = (w.alloc (Obj.cells #[v1, .slice a1 es.length c1] 26)).alloc (Obj.cells #[v2, .slice a2 es.length c2] 26) := ⟨_, rfl⟩
  have HB1 := Lib.hid (show Below w.heap.size w w1 from by rw [hw1]; exact ((Below.refl _ _).alloc (Nat.le_refl _) _).alloc (by simp) _)
  have HX1 := Lib.hid (show Blk w1 w.heap.size 26 #[v1, .slice a1 es.length c1] from by rw [hw1]; exact (Blk.newest w _ _).alloc _)
  have HY1 := Lib.hid (show Blk w1 (w.heap.size + 1) 26 #[v2, .slice a2 es.length c2] from by rw [hw1]; exact Blk.new _ _ _ (by simp))
  have H1 := Lib.hid (h1.below HB1.out)
  have H2 := Lib.hid (h2.below HB1.out)
  have H3 := Lib.hid (h3.below HB1.out)
  have H4 := Lib.hid (h4.below HB1.out)
  have HW1 := Lib.hid hw1
  clear h1 h2 h3 h4 hw1
  go_enter Try.func34, Try.ntmps34
  go_wp2_with fail
  rw [← HW1.out]
  refine (sameNums_rd ix v1 v2 w1 H1.out H2.out hx).mono ?_
  rintro e w2 ⟨rfl, hb2⟩
  have hs1 : w1.heap.size = w.heap.size + 2 := by rw [HW1.out]; simp
  have HX2 := Lib.hid (HX1.out.below hb2 (by rw [hs1]; omega))
  have HY2 := Lib.hid (HY1.out.below hb2 (by rw [hs1]; omega))
  have HB2 := Lib.hid (HB1.out.trans (hb2.mono HB1.out.size))
  have H32 := Lib.hid (H3.out.below hb2)
  have H42 := Lib.hid (H4.out.below hb2)
  have b1 := HX2.out.cell 1
  have b2 := HY2.out.cell 1
  clear hb2 hs1
  go_wp2_with fail
  refine (sameEntries_re es a1 a2 c1 c2 w2 H32.out H42.out hl).mono ?_
  rintro e w3 ⟨rfl, hb3⟩
  have HB3 := Lib.hid (HB2.out.trans (hb3.mono HB2.out.size))
  clear hb3 b1 b2
  go_wp2_with fail
  go_ret
  exact ⟨rfl, HB3.out⟩
end Go.Proofs.Ytibglmcpbbikdaa
