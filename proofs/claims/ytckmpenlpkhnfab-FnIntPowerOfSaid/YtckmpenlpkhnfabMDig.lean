/- The model's digits of a text that is an integer. -/
import Derived.Test.YtckmpenlpkhnfabTrim
import Derived.Test.YtckmpenlpkhnfabMPlus
import Derived.Test.YtckmpenlpkhnfabRead4
namespace Go.Proofs.Ytckmpenlpkhnfab
open Go.RowKit
/-- What a text hands to its digits: those of n, and the sign. -/
def DgP (w : World) (n : Nat) (b : Bool) (e : Ending) (w' : World) : Prop := ∃ u, e = .returned (.tuple #[u, .bool b]) ∧ Rd w' w.heap.size u (D n) ∧ Below w.heap.size w w'
theorem data_get (s : ByteArray) (p : Nat) (h : p < s.size) : s.data.toList[p]? = some s[p] := by
  have hl : p < s.data.toList.length := h
  rw [List.getElem?_eq_getElem hl]; rfl
theorem drop_cons (s : ByteArray) (p : Nat) (h : p < s.size) : s.data.toList.drop p = s[p] :: s.data.toList.drop (p + 1) := by
  have hl : p < s.data.toList.length := h
  rw [List.drop_eq_getElem_cons hl]; rfl
/-- The number of what stands behind place q. -/
def tailV (s : ByteArray) (q : Nat) : Nat := valD (s.data.toList.drop q)
theorem tailV_lt {s : ByteArray} {q : Nat} (h : (s.data.toList.drop q).all digB = true) : tailV s q < 10 ^ (s.size - q) := by
  have := valD_lt _ h
  rw [List.length_drop, show s.data.toList.length = s.size from rfl] at this
  exact this
theorem all_tail {s : ByteArray} {o : Nat} (h : (s.data.toList.drop o).all digB = true) {q : Nat} (hq : o ≤ q) : (s.data.toList.drop q).all digB = true := by
  obtain ⟨k, rfl⟩ : ∃ k, q = o + k := ⟨q - o, by omega⟩
  rw [← List.drop_drop]
  rw [List.all_eq_true] at h ⊢
  exact fun x hx => h x (List.mem_of_mem_drop hx)
theorem dig_at {s : ByteArray} {o p : Nat} (h : (s.data.toList.drop o).all digB = true) (hp : p < s.size) (ho : o ≤ p) : 48 ≤ s[p].toNat ∧ s[p].toNat ≤ 57 := by
  have h1 := all_tail h ho
  rw [drop_cons s p hp, List.all_cons, Bool.and_eq_true, digB_iff] at h1
  exact h1.1
theorem tailV_step {s : ByteArray} {o p : Nat} (h : (s.data.toList.drop o).all digB = true) (hp : p < s.size) (ho : o ≤ p) : dgl (tailV s (p + 1)) (s.size - (p + 1)) ++ [s[p].toNat - 48] = dgl (tailV s p) (s.size - p) := by
  have h1 := dig_at h hp ho
  rw [dgl_snoc _ _ _ (tailV_lt (all_tail h (by omega))) (by omega), show s.size - (p + 1) + 1 = s.size - p by omega]
  congr 1
  unfold tailV
  rw [drop_cons s p hp, valD_cons, List.length_drop, show s.data.toList.length = s.size from rfl]
  omega
def DiI (w wr : World) (s : ByteArray) (q : Nat) (v : Value) : Prop := Below w.heap.size w wr ∧ Ow wr w.heap.size v (dgl (tailV s q) (s.size - q))
theorem di_next {w wr w' : World} {s : ByteArray} {o p : Nat} {v v' : Value} {z : Int} (h : DiI w wr s (p + 1) v) (ha : (s.data.toList.drop o).all digB = true) (hp : p < s.size) (hop : o ≤ p) (hz : z = ((s[p].toNat - 48 : Nat) : Int)) (ho : Own w' w.heap.size 3 v' (li (dgl (tailV s (p + 1)) (s.size - (p + 1))) ++ [.int .i64 z])) (hb : Below w.heap.size wr w') : DiI w w' s p v' := by
  subst hz
  refine ⟨h.1.trans hb, ?_⟩
  have := Ow.next ho
  rwa [tailV_step ha hp hop] at this
set_option maxHeartbeats 1000000 in
theorem digits_pos (s : ByteArray) (w : World) (hs : s.size ≤ 100) (h0 : 0 < s.size) (h45 : ((s[0].toNat : Int) == 45) = false) (ha : (s.data.toList.drop 0).all digB = true) :
    Calls Try.prog 64 #[.string s] w (DgP w (tailV s 0) false) := by
  have HA := Lib.hid ha
  have H0 := Lib.hid (show DiI w (w.alloc (Obj.cells #[] 3)) s s.size (.slice (some ⟨w.heap.size, 0, none⟩) 0 0) from ⟨(Below.refl _ _).alloc (Nat.le_refl _) _, by rw [Nat.sub_self]; exact Ow.lit0 _ _ (Nat.le_refl _)⟩)
  have hgt : (0 : Int) < s.size := by omega
  clear ha
  go_enter Try.func64, Try.ntmps64
  go_wp2
  go_loopw [5, 6] (fun v i wr => ∃ q : Nat, q ≤ s.size ∧ i = .int .i64 ((q : Int) - 1) ∧ Hid (DiI w wr s q v)) (fun _ i _ => (intOf i + 1).toNat)
  case atStart => exact ⟨s.size, Nat.le_refl _, rfl, H0⟩
  case round =>
    obtain ⟨q, hq, rfl, HI⟩ := hrel
    have HZ := Lib.hid (show w.heap.size ≤ wr.heap.size from HI.out.1.size)
    cases q with
    | zero =>
      have HE := Lib.hid (show Rd wr w.heap.size _ (dgl (tailV s 0) (s.size - 0)) ∧ tailV s 0 < 10 ^ (s.size - 0) from ⟨HI.out.2.rd, tailV_lt HA.out⟩)
      go_wp2_with (first | (go_at_call 67; refine (trimmed_any (tailV s 0) (s.size - 0) _ _ w.heap.size HE.out.1 HE.out.2 (by omega)).mono ?_; rintro e w3 ⟨u, rfl, hu, hb3⟩; have HU := Lib.hid (show Rd w3 w.heap.size u (D (tailV s 0)) ∧ Below w.heap.size w w3 from ⟨hu, HI.out.1.trans (hb3.mono HZ.out)⟩); clear hu hb3))
      go_ret2
      exact ⟨_, rfl, HU.out⟩
    | succ p =>
      have hp : p < s.size := by omega
      have hd := dig_at HA.out hp (Nat.zero_le _)
      have hd1 := hd.1
      have hd2 := hd.2
      have hne : ((s[p].toNat : Int) != 45) = true := by rw [bne, beq_eq_false_iff_ne.2 (by omega)]; rfl
      have hkk : ((p + 1 : Nat) : Int) - 1 = (p : Int) := by omega
      have HM := Lib.hid (show (s[p].toNat : Int) - 48 = ((s[p].toNat - 48 : Nat) : Int) by omega)
      rw [hkk]
      clear hd
      go_wp2_with (first | (refine app1 rfl (.tmp 29) (.tmp 35) 56 3 (.int .i64 0) 8 rfl Try.underlying56 (by kernel_rfl) rfl (by decide) wr wr _ rfl w.heap.size _ _ rfl rfl HI.out.2.1 rfl ?_ HZ.out (Below.refl _ _) ?_; (rw [li_len, dgl_len]; omega); intro v2 w2 ho hb2 _; have HT := Lib.hid (di_next HI.out HA.out hp (Nat.zero_le _) HM.out ho hb2); clear ho hb2))
      go_roundw
      case rel => exact ⟨p, by omega, by go_num, HT⟩
      case measure => simp [intOf]; try omega
set_option maxHeartbeats 1000000 in
theorem digits_neg (s : ByteArray) (w : World) (hs : s.size ≤ 100) (h0 : 0 < s.size) (h45 : ((s[0].toNat : Int) == 45) = true) (ha : (s.data.toList.drop 1).all digB = true) :
    Calls Try.prog 64 #[.string s] w (DgP w (tailV s 1) true) := by
  have HA := Lib.hid ha
  have H0 := Lib.hid (show DiI w (w.alloc (Obj.cells #[] 3)) s s.size (.slice (some ⟨w.heap.size, 0, none⟩) 0 0) from ⟨(Below.refl _ _).alloc (Nat.le_refl _) _, by rw [Nat.sub_self]; exact Ow.lit0 _ _ (Nat.le_refl _)⟩)
  have hgt : (0 : Int) < s.size := by omega
  have h45n : ((s[0].toNat : Int) != 45) = false := by rw [bne, h45]; rfl
  clear ha
  go_enter Try.func64, Try.ntmps64
  go_wp2
  go_loopw [5, 6] (fun v i wr => ∃ q : Nat, 1 ≤ q ∧ q ≤ s.size ∧ i = .int .i64 ((q : Int) - 1) ∧ Hid (DiI w wr s q v)) (fun _ i _ => (intOf i + 1).toNat)
  case atStart => exact ⟨s.size, by omega, Nat.le_refl _, rfl, H0⟩
  case round =>
    obtain ⟨q, hq1, hq, rfl, HI⟩ := hrel
    have HZ := Lib.hid (show w.heap.size ≤ wr.heap.size from HI.out.1.size)
    obtain ⟨p, rfl⟩ : ∃ p, q = p + 1 := ⟨q - 1, by omega⟩
    have hkk : ((p + 1 : Nat) : Int) - 1 = (p : Int) := by omega
    rw [hkk]
    cases p with
    | zero =>
      have HE := Lib.hid (show Rd wr w.heap.size _ (dgl (tailV s 1) (s.size - 1)) ∧ tailV s 1 < 10 ^ (s.size - 1) from ⟨HI.out.2.rd, tailV_lt HA.out⟩)
      go_wp2_with (first | (go_at_call 67; refine (trimmed_any (tailV s 1) (s.size - 1) _ _ w.heap.size HE.out.1 HE.out.2 (by omega)).mono ?_; rintro e w3 ⟨u, rfl, hu, hb3⟩; have HU := Lib.hid (show Rd w3 w.heap.size u (D (tailV s 1)) ∧ Below w.heap.size w w3 from ⟨hu, HI.out.1.trans (hb3.mono HZ.out)⟩); clear hu hb3))
      go_ret2
      exact ⟨_, rfl, HU.out⟩
    | succ p =>
      have hp : p + 1 < s.size := by omega
      have hd := dig_at HA.out hp (by omega)
      have hd1 := hd.1
      have hd2 := hd.2
      have hne : ((s[p + 1].toNat : Int) != 45) = true := by rw [bne, beq_eq_false_iff_ne.2 (by omega)]; rfl
      have HM := Lib.hid (show (s[p + 1].toNat : Int) - 48 = ((s[p + 1].toNat - 48 : Nat) : Int) by omega)
      clear hd
      go_wp2_with (first | (refine app1 rfl (.tmp 29) (.tmp 35) 56 3 (.int .i64 0) 8 rfl Try.underlying56 (by kernel_rfl) rfl (by decide) wr wr _ rfl w.heap.size _ _ rfl rfl HI.out.2.1 rfl ?_ HZ.out (Below.refl _ _) ?_; (rw [li_len, dgl_len]; omega); intro v2 w2 ho hb2 _; have HT := Lib.hid (di_next HI.out HA.out hp (by omega) HM.out ho hb2); clear ho hb2))
      go_roundw
      case rel => exact ⟨p + 1, by omega, by omega, by go_num, HT⟩
      case measure => simp [intOf]; try omega
end Go.Proofs.Ytckmpenlpkhnfab
