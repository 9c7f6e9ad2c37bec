/- The model's quotient and remainder of digits. -/
import Derived.Test.YtckmpenlpkhnfabMTimes
import Derived.Test.YtckmpenlpkhnfabMLess
import Derived.Test.YtckmpenlpkhnfabMCmp
import Derived.Test.YtckmpenlpkhnfabDiv
namespace Go.Proofs.Ytckmpenlpkhnfab
open Go.RowKit
/-- 'append(s, x...)', s of the call's own, x digits that lie anywhere. -/
theorem appR {ops : Array Oper} {rest : List Oper} {o : Oper} {a : Act} {w : World} {Q : Exit → Act → World → Prop} (hgd : o.guard = none) (s x : Operand) (ho : o.op = .call { callee := .builtin .append, args := #[s, x], argTypes := #[56, 56] }) (w0 : World) (base : Nat) (v : Value) (l : List Nat) (hs : a.eval s = v) (hown : Own w base 3 v (li l)) (vx : Value) (m : List Nat) (hx : a.eval x = vx) (hr : Rd w 0 vx m)
    (hlen : l.length + m.length ≤ 100000) (hbase : base ≤ w.heap.size) (hB : Below base w0 w) (h : ∀ v' w', Own w' base 3 v' (li (l ++ m)) → Below base w0 w' → wpList Try.prog ops Q rest (a.put o.dst v') w') : wpList Try.prog ops Q (o :: rest) a w := by
  obtain ⟨i, hi1, hi2, hi3, hi4⟩ := info_of (P := Try.prog) (e := 3) (z := .int .i64 0) (s := 1) (b := 8) (by kernel_rfl)
  obtain ⟨g, cap, rfl, _, hg, hc, hcell⟩ := hr
  refine wpList_append_own _ hgd s x 56 ho base 3 i (.int .i64 0) 1 8 Try.underlying56 hi1 hi2 hi3 hi4 rfl (by omega) v (li l).length (li l) hs hown ⟨g, 0, none⟩ m.length cap (li m) hx (by rw [li_len]; omega) ?_ ?_ ?_ ?_ hbase ?_
  · intro j u hj
    have hjm : j < m.length := by
      rcases Nat.lt_or_ge j m.length with h1 | h1
      · exact h1
      · rw [List.getElem?_eq_none (by rw [li_len]; exact h1)] at hj; cases hj
    have hm : m[j]? = some m[j] := List.getElem?_eq_getElem hjm
    rw [li_get hm] at hj
    injection hj with hj
    subst hj
    rw [addr_add, Nat.zero_add]
    exact hcell j _ hm
  · intro u hu
    simp only [li, List.mem_map] at hu
    obtain ⟨d, _, rfl⟩ := hu
    rfl
  · rw [li_len]; unfold maxLen; omega
  · rw [li_len]; omega
  · intro v' w' hown' hgrow _
    refine h v' w' ?_ (hB.grown hgrow hbase fun k hk => (World.ownsRow.lt hown k hk).1)
    have e : li (l ++ m) = li l ++ li m := by simp [li]
    unfold Own
    rw [e, List.length_append, li_len m]
    exact hown'
theorem rd_cons {w : World} {base : Nat} {v : Value} {d r : Nat} (h : Own w base 3 v (li ([d] ++ D r))) (hd : d < 10) : Rd w base v (dgl (d + 10 * r) (nd r + 1)) := by
  have e : ([d] ++ D r : List Nat) = d :: D r := rfl
  rw [e, cons_D hd] at h
  have hn : v ≠ .slice none 0 0 := fun hv => by
    rcases h.form with ⟨_, h0⟩ | ⟨g, cap, hv', _⟩
    · have h1 := congrArg List.length h0
      rw [li_len, dgl_len] at h1
      simp at h1
    · rw [hv] at hv'; cases hv'
  exact Ow.rd ⟨h, hn⟩
/-- The state when k digits of a are to come. -/
def DvA (w wr : World) (a b k : Nat) (v : Value) : Prop := ∃ q r, TmI w wr w.heap.size (nd a) (dgl (q * 10 ^ k) (nd a)) ∧ Rd wr (w.heap.size + 1) v (D r) ∧ a / 10 ^ k = q * b + r ∧ r < b
/-- The state within place j. -/
def DvI (w wr : World) (a b j q r0 c r : Nat) (v : Value) : Prop := TmI w wr w.heap.size (nd a) (dgl ((q * 10 + c) * 10 ^ j) (nd a)) ∧ Rd wr (w.heap.size + 1) v (D r) ∧ r + c * b = r0 ∧ c ≤ 9
/-- What dividedDigits hands back. -/
def DvP (w : World) (a b : Nat) (e : Ending) (w' : World) : Prop := ∃ u v, e = .returned (.tuple #[u, v]) ∧ Rd w' w.heap.size u (D (a / b)) ∧ Rd w' w.heap.size v (D (a % b)) ∧ Below w.heap.size w w'
theorem dv_start {w w1 : World} {a b : Nat} (h : TmI w w1 w.heap.size (nd a) (List.replicate (nd a) 0)) (hb : 0 < b) : DvA w (w1.alloc (Obj.cells #[] 3)) a b (nd a) (.slice (some ⟨w1.heap.size, 0, none⟩) 0 0) := by
  refine ⟨0, 0, ?_, ?_, ?_, hb⟩
  · rw [Nat.zero_mul, dgl_zeros]
    exact h.below ((Below.refl _ _).alloc (Nat.le_refl _) _)
  · rw [D_zero]
    have hg := h.ge.2
    exact (Ow.lit0 w1 (w.heap.size + 1) hg).rd
  · rw [Nat.div_eq_of_lt (nd_lt a)]; omega
theorem dv_fin {w wr : World} {a b : Nat} {v : Value} (h : DvA w wr a b 0 v) : ∃ q r, q = a / b ∧ r = a % b ∧ q < 10 ^ nd a ∧ TmI w wr w.heap.size (nd a) (dgl q (nd a)) ∧ Rd wr (w.heap.size + 1) v (D r) := by
  obtain ⟨q, r, h1, h2, h3, h4⟩ := h
  rw [Nat.pow_zero, Nat.mul_one] at h1
  rw [Nat.pow_zero, Nat.div_one] at h3
  have hq : q = a / b := by
    rw [h3, Nat.mul_comm, Nat.mul_add_div (by omega), Nat.div_eq_of_lt h4]; omega
  have hr : r = a % b := by
    rw [h3, Nat.mul_comm, Nat.mul_add_mod, Nat.mod_eq_of_lt h4]
  have hlt : q < 10 ^ nd a := by
    have h5 := nd_lt a
    have : a / b ≤ a := Nat.div_le_self _ _
    omega
  exact ⟨q, r, hq, hr, hlt, h1, h2⟩
set_option maxHeartbeats 4000000 in
theorem divided_dg (a b : Nat) (va vb : Value) (w : World) (ha : Rd w 0 va (D a)) (hb : Rd w 0 vb (D b)) (sa : a < 10 ^ 40) (sb : b < 10 ^ 40) (hb0 : 0 < b) :
    Calls Try.prog 75 #[va, vb] w (DvP w a b) := by
  have HBR := Lib.hid hb
  have na := nd_le_of sa
  have HNB := Lib.hid (show nd b ≤ 100 from Nat.le_trans (nd_le_of sb) (by decide))
  have HSA := Lib.hid sa
  have HSB := Lib.hid sb
  have HB0 := Lib.hid hb0
  obtain ⟨g1, cap1, rfl, _, hg1, hc1, hr1⟩ := ha
  rw [D_len] at hc1 ⊢
  have HR1 := Lib.hid hr1
  have HG1 := Lib.hid hg1
  clear hr1 hg1 hb sa sb hb0
  go_enter Try.func75, Try.ntmps75
  go_wp2_with (first | (refine mkI rfl (.tmp 10) (.tmp 10) rfl (nd a) _ _ rfl rfl (by omega) (by omega) (by omega) ?_; intro w1 ho hb1; have H1 := Lib.hid (dv_start (b := b) (show TmI w w1 w.heap.size (nd a) (List.replicate (nd a) 0) from ⟨hb1, ho⟩) HB0.out); clear ho hb1))
  go_loopw [7, 8] (fun v i wr => ∃ k : Nat, k ≤ nd a ∧ i = .int .i64 ((k : Int) - 1) ∧ Hid (DvA w wr a b k v)) (fun _ i _ => (intOf i + 1).toNat)
  case atStart => exact ⟨nd a, Nat.le_refl _, rfl, H1⟩
  case round =>
    obtain ⟨k, hk, rfl, HI⟩ := hrel
    clear H1
    obtain ⟨wo, rfl⟩ : ∃ wo : World, wo = wr := ⟨_, rfl⟩
    cases k with
    | zero =>
      obtain ⟨q, r, hq, hr, hqlt, hT, hV⟩ := dv_fin HI.out
      have HQ := Lib.hid hq
      have HR := Lib.hid hr
      have HL := Lib.hid hqlt
      have HT := Lib.hid hT
      have HV := Lib.hid hV
      have HTR := Lib.hid (hT.rd (dgl_len _ _))
      clear hq hr hqlt hT hV
      go_wp2_with (first | (go_at_call 67; refine (trimmed_any q (nd a) _ _ w.heap.size HTR.out HL.out (by omega)).mono ?_; rintro e w3 ⟨u, rfl, hu, hb3⟩; have HU := Lib.hid (show Rd w3 w.heap.size u (D (a / b)) from HQ.out ▸ hu); have HV3 := Lib.hid (show Rd w3 w.heap.size _ (D (a % b)) from HR.out ▸ ((HV.out.below hb3).lower (by omega))); have HB3 := Lib.hid (HT.out.1.trans (hb3.mono HT.out.1.size)); clear hu hb3))
      go_ret2
      exact ⟨_, _, rfl, HU.out, HV3.out, HB3.out⟩
    | succ j =>
      obtain ⟨q, r, hT, hV, hq, hr⟩ := HI.out
      have c1 := cell_at hT.1 HG1.out (HR1.out j _ (D_get a j (by omega)))
      have la := dg_lt a j
      have HLA := Lib.hid la
      have HT := Lib.hid hT
      have HV := Lib.hid hV
      have Hq := Lib.hid hq
      have Hr := Lib.hid hr
      have Hdown := Lib.hid (div_down a j)
      have HNR := Lib.hid (show nd r ≤ 100 from Nat.le_trans (nd_le_of (show r < 10 ^ 40 by have := HSB.out; omega)) (by decide))
      have hkk : ((j + 1 : Nat) : Int) - 1 = (j : Int) := by omega
      rw [hkk]
      clear hT hV hq hr
      go_wp2_with (first | (refine appR rfl (.tmp 24) (.tmp 25) rfl wo wo.heap.size _ [dg a j] rfl (Ow.lit1 wo _ _ (Nat.le_refl _)).1 _ (D r) rfl ((HV.out.alloc _).lower (Nat.zero_le _)) ?_ (by simp) ((Below.refl _ _).alloc (Nat.le_refl _) _) ?_; (have := HNR.out; rw [D_len]; simp; omega); intro v2 w2 ho hb2; have HA := Lib.hid (rd_cons ho HLA.out); have HB2 := Lib.hid hb2; clear ho hb2) | (go_at_call 67; refine (trimmed_any (dg a j + 10 * r) (nd r + 1) _ _ wo.heap.size HA.out (cons_lt HLA.out) (by have := HNR.out; omega)).mono ?_; rintro e w3 ⟨u, rfl, hu, hb3⟩; have HU := Lib.hid hu; have HB3 := Lib.hid (HB2.out.trans (hb3.mono HB2.out.size)); clear hu hb3))
      have HS := Lib.hid (show DvI w w3 a b j q (dg a j + 10 * r) 0 (dg a j + 10 * r) u from ⟨by
        have h := HT.out.below HB3.out
        rw [show q * 10 ^ (j + 1) = (q * 10 + 0) * 10 ^ j by rw [Nat.pow_succ']; simp [Nat.mul_assoc]] at h
        exact h, HU.out.lower HT.out.ge.2, by omega, by omega⟩)
      have HR0 := Lib.hid (show dg a j + 10 * r < 10 * b by have := Hr.out; omega)
      go_loopg [7] 9 (fun g v wr => ∃ c r', g + c = 9 ∧ Hid (DvI w wr a b j q (dg a j + 10 * r) c r' v))
      case atStart => exact ⟨0, _, rfl, HS⟩
      case round =>
        obtain ⟨c, r', hg, HI2⟩ := hrel
        clear HS HA HB2 HB3 HU HT HV
        have hc9 := HI2.out.2.2.2
        have c3 : wr.cell? ⟨w.heap.size, j, none⟩ = some (.int .i64 (c : Int)) := by
          have h := HI2.out.1.cell (j := j) (show j < nd a by omega) (dgl_get _ _ _ (by omega))
          rw [divIn_digit _ _ _ hc9] at h
          exact h
        have HBW := Lib.hid (HBR.out.below HI2.out.1.1)
        have HRW := Lib.hid (HI2.out.2.1.lower (Nat.zero_le _))
        have Hlr := Lib.hid (show r' < 10 ^ 41 by
          have h1 := HI2.out.2.2.1
          have h2 := HR0.out
          have h3 := HSB.out
          omega)
        have Hlr80 := Lib.hid (Nat.lt_trans Hlr.out (show (10 : Nat) ^ 41 < 10 ^ 80 by decide))
        have HNR2 := Lib.hid (Nat.le_trans (nd_le_of Hlr.out) (show 41 ≤ 100 by decide))
        have HSB80 := Lib.hid (Nat.lt_trans HSB.out (show (10 : Nat) ^ 40 < 10 ^ 80 by decide))
        by_cases hrn : r' < b
        · have Hv := Lib.hid (cmpN_of_lt hrn)
          have Hrn := Lib.hid hrn
          clear hrn
          go_wp2_with (first | (go_at_call 65; refine (compare_any r' b _ _ _ HRW.out HBW.out Hlr80.out HSB80.out).mono ?_; rintro e w5 ⟨rfl, hb5⟩; rw [Hv.out]; have HB5 := Lib.hid hb5; clear hb5))
          go_roundw
          case rel =>
            refine ⟨j, by omega, by go_num, Lib.hid ⟨q * 10 + c, r', HI2.out.1.below HB5.out, HI2.out.2.1.below HB5.out, ?_, Hrn.out⟩⟩
            have h1 := HI2.out.2.2.1
            rw [Hdown.out, Hq.out, Nat.add_mul, Nat.add_mul]
            have h2 : q * b * 10 = q * 10 * b := by rw [Nat.mul_assoc, Nat.mul_comm b, Nat.mul_assoc]
            omega
          case measure => simp [intOf]; try omega
        · obtain ⟨cv, hv, hv0⟩ : ∃ cv, cmpN r' b = cv ∧ 0 ≤ cv := ⟨_, rfl, cmpN_ge (by omega)⟩
          have hc8 : c + 1 ≤ 9 := by
            have h1 := HI2.out.2.2.1
            have h2 := HR0.out
            rcases Nat.lt_or_ge 9 (c + 1) with h3 | h3
            · have : 9 * b ≤ c * b := Nat.mul_le_mul_right _ (by omega)
              omega
            · exact h3
          have Hv := Lib.hid hv
          have Hrn := Lib.hid (Nat.le_of_not_lt hrn)
          have Hg := Lib.hid hg
          clear hv hrn hg
          go_wp2_with (first | (go_at_call 65; refine (compare_any r' b _ _ _ HRW.out HBW.out Hlr80.out HSB80.out).mono ?_; rintro e w5 ⟨rfl, hb5⟩; rw [Hv.out]; have HB5 := Lib.hid hb5; clear hb5) | (go_at_call 77; refine (less_dg r' b _ _ _ (HRW.out.below HB5.out) (HBW.out.below HB5.out) HNR2.out HNB.out Hrn.out).mono ?_; rintro e w6 ⟨u2, rfl, hu6, hb6⟩; have HT6 := Lib.hid ((HI2.out.1.below HB5.out).below hb6); have HU6 := Lib.hid (hu6.lower (show w.heap.size + 1 ≤ _ from Nat.le_trans HI2.out.1.ge.2 HB5.out.size)); have c6 : w6.cell? ⟨w.heap.size, j, none⟩ = some (.int .i64 (c : Int)) := (by have h := HT6.out.cell (j := j) (show j < nd a by omega) (dgl_get _ _ _ (by omega)); rw [divIn_digit _ _ _ hc9] at h; exact h); have f6 : w6.frozen? ⟨w.heap.size, j, none⟩ = false := HT6.out.free j; clear hu6 hb6 c3))
          go_roundg (8 - c)
          case measure => have := Hg.out; omega
          case rel =>
            refine ⟨c + 1, r' - b, by omega, Lib.hid ⟨?_, ?_, ?_, hc8⟩⟩
            · have h := HT6.out.put j (c + 1) (z := (c : Int) + 1) (by omega)
              rw [dgl_set _ _ _ _ (by omega), divIn_set _ _ _ hc8] at h
              exact h
            · have hge := HT6.out.ge.1
              obtain ⟨g, cap, hv, hl, hlt, hcc, hrd⟩ := HU6.out
              refine ⟨g, cap, hv, hl, by simpa using hlt, hcc, fun i d hi => ?_⟩
              rw [World.cell?_of_block (w := w6) (Below.heap_setCell w6 ⟨w.heap.size, j, none⟩ _ g (show g ≠ w.heap.size by omega))]
              exact hrd i d hi
            · have h1 := HI2.out.2.2.1
              have h2 := Hrn.out
              rw [Nat.add_mul]
              omega
end Go.Proofs.Ytckmpenlpkhnfab
