/- What is read within quotes: the model's unquoted. -/
import Derived.Test.YtfmpplolhhjpoaaUq2
namespace Go.Proofs.Ytfmpplolhhjpoaa
open Go.RowKit
/-- The value of a hexadecimal digit. -/
def hv (b : UInt8) : Int := if 48 ≤ b.toNat ∧ b.toNat ≤ 57 then (b.toNat : Int) - 48 else if 97 ≤ b.toNat ∧ b.toNat ≤ 102 then (b.toNat : Int) - 87 else -1
theorem hv_in (b : UInt8) : -1 ≤ hv b ∧ hv b ≤ 15 := by
  unfold hv
  split
  · omega
  · split <;> omega
theorem hv_hx : ∀ x, x < 16 → hv (hx x) = (x : Int) := by decide
theorem hexValue_any (b : UInt8) (w : World) : Calls Try.prog 68 #[.int .u8 (b.toNat : Int)] w fun e w' => e = .returned (.int .i64 (hv b)) ∧ w' = w := by
  have hb := UInt8.toNat_lt b
  by_cases h1 : 48 ≤ b.toNat ∧ b.toNat ≤ 57
  · have HE := Lib.hid (show hv b = (b.toNat : Int) - 48 by unfold hv; rw [if_pos h1])
    obtain ⟨a1, a2⟩ := h1
    go_enter Try.func68, Try.ntmps68
    go_wp2
    go_ret
    exact ⟨by rw [HE.out]; rfl, rfl⟩
  · by_cases h2 : 97 ≤ b.toNat ∧ b.toNat ≤ 102
    · have HE := Lib.hid (show hv b = (b.toNat : Int) - 97 + 10 by unfold hv; rw [if_neg h1, if_pos h2]; omega)
      obtain ⟨a1, a2⟩ := h2
      clear h1
      go_enter Try.func68, Try.ntmps68
      go_wp2
      go_ret
      exact ⟨by rw [HE.out]; rfl, rfl⟩
    · have HE := Lib.hid (show hv b = -1 by unfold hv; rw [if_neg h1, if_neg h2])
      have h3 : b.toNat < 48 ∨ (57 < b.toNat ∧ b.toNat < 97) ∨ 102 < b.toNat := by omega
      clear h1 h2
      rcases h3 with h3 | ⟨h3, h4⟩ | h3
      all_goals
        go_enter Try.func68, Try.ntmps68
        go_wp2
        go_ret
        exact ⟨by rw [HE.out]; rfl, rfl⟩
/-- No form of a byte begins l. -/
def Nob (l : List UInt8) : Prop := ∀ b t, l ≠ qb b ++ t
theorem nob_10 (t : List UInt8) : Nob (10 :: t) := by
  intro b t' e
  rcases qb_cases b with ⟨h, _, _, h1⟩ | ⟨h, _⟩ | ⟨h, _⟩ | h
  all_goals rw [h] at e; simp at e
  exact h1 e.1.symm
theorem nob_end : Nob [92] := by
  intro b t' e
  rcases qb_cases b with ⟨h, h1, _⟩ | ⟨h, _⟩ | ⟨h, _⟩ | h
  all_goals rw [h] at e; simp at e
  exact h1 e.1.symm
theorem nob_two {c : UInt8} {t : List UInt8} (h1 : c ≠ 39) (h2 : c ≠ 92) (h3 : c ≠ 110) (h4 : c ≠ 120 ∨ ∀ x y t', t = x :: y :: t' → hv x < 0 ∨ hv y < 0) : Nob (92 :: c :: t) := by
  intro b t' e
  have hb := UInt8.toNat_lt b
  rcases qb_cases b with ⟨h, h5, _⟩ | ⟨h, h5⟩ | ⟨h, _⟩ | h
  all_goals rw [h] at e; simp at e
  · exact h5 e.1.symm
  · rcases h5 with h5 | h5
    · exact h1 (by rw [e.1, h5])
    · exact h2 (by rw [e.1, h5])
  · exact h3 e.1
  · rcases h4 with h4 | h4
    · exact h4 e.1
    · have e1 := hv_hx (b.toNat / 16) (by omega)
      have e2 := hv_hx (b.toNat % 16) (by omega)
      rcases h4 _ _ _ e.2 with h6 | h6
      · rw [e1] at h6; omega
      · rw [e2] at h6; omega
/-- What unquoted answers. -/
def UnP (q : ByteArray) (w : World) (e : Ending) (w' : World) : Prop := (∃ (t : List UInt8) (n : Int), e = .returned (.tuple #[.string ⟨t.toArray⟩, .int .i64 n]) ∧ t.length ≤ q.size ∧ -1 ≤ n ∧ n ≤ q.size ∧ ∀ s : List UInt8, q.data.toList = Qt s → t = s ∧ n = q.size) ∧ Below w.heap.size w w'
/-- While it is read: t is read, the place is j. -/
def UnI (w : World) (q : ByteArray) (wr : World) (j : Nat) (t : List UInt8) (v : Value) : Prop := Own wr w.heap.size 5 v (bv t) ∧ Below w.heap.size w wr ∧ ∀ s : List UInt8, q.data.toList = Qt s → ∃ k, k ≤ s.length ∧ t = s.take k ∧ q.data.toList.drop j = qs (s.drop k) ++ [39]
theorem un_more {w wr : World} {q : ByteArray} {j : Nat} {t : List UInt8} {v : Value} {c : UInt8} {l : List UInt8} (h : UnI w q wr j t v) (hl : q.data.toList.drop j = c :: l) (hc : c ≠ 39) {s : List UInt8} (hs : q.data.toList = Qt s) : ∃ k b, k < s.length ∧ t ++ [b] = s.take (k + 1) ∧ q.data.toList.drop j = qb b ++ (qs (s.drop (k + 1)) ++ [39]) := by
  obtain ⟨k, hk, ht, hd⟩ := h.2.2 s hs
  have hne : qs (s.drop k) ≠ [] := by
    intro h0
    rw [hl, h0] at hd
    simp at hd
    exact hc hd.1
  obtain ⟨b, hb1, hb2⟩ := drop_more hne
  obtain ⟨t1, t2⟩ := take_more hb1
  refine ⟨k, b, t2, by rw [t1, ht], ?_⟩
  rw [hd, hb2, qs_cons, List.append_assoc]
theorem uni_next {w wr w' : World} {q : ByteArray} {j : Nat} {t : List UInt8} {v v' : Value} {c d : UInt8} {n : Nat} {l : List UInt8} (h : UnI w q wr j t v) (hl : q.data.toList.drop j = d :: l) (hc : d ≠ 39) (hd : Rdq (d :: l) c n) (ho : Own w' w.heap.size 5 v' (bv (t ++ [c]))) (hb : Below w.heap.size w w') : UnI w q w' (j + n) (t ++ [c]) v' := by
  refine ⟨ho, hb, fun s hs => ?_⟩
  obtain ⟨k, b, hk, ht, hq⟩ := un_more h hl hc hs
  rw [hl] at hq
  obtain ⟨rfl, rfl⟩ := hd b _ hq
  refine ⟨k + 1, hk, ht, ?_⟩
  rw [← List.drop_drop, hl, hq, List.drop_left]
theorem uni_no {w wr : World} {q : ByteArray} {j : Nat} {t : List UInt8} {v : Value} {d : UInt8} {l : List UInt8} (h : UnI w q wr j t v) (hl : q.data.toList.drop j = d :: l) (hc : d ≠ 39) (hn : Nob (d :: l)) : ∀ s : List UInt8, q.data.toList ≠ Qt s := by
  intro s hs
  obtain ⟨k, b, hk, ht, hq⟩ := un_more h hl hc hs
  rw [hl] at hq
  exact hn b _ hq
theorem uni_out {w wr : World} {q : ByteArray} {j : Nat} {t : List UInt8} {v : Value} (h : UnI w q wr j t v) (hj : q.size ≤ j) : ∀ s : List UInt8, q.data.toList ≠ Qt s := by
  intro s hs
  obtain ⟨k, hk, ht, hd⟩ := h.2.2 s hs
  rw [List.drop_eq_nil_of_le (show q.data.toList.length ≤ j from hj)] at hd
  simp at hd
theorem uni_end {w wr : World} {q : ByteArray} {j : Nat} {t : List UInt8} {v : Value} {l : List UInt8} (h : UnI w q wr j t v) (hj : j < q.size) (hl : q.data.toList.drop j = 39 :: l) : ∀ s : List UInt8, q.data.toList = Qt s → t = s ∧ ((j : Int) + 1) = q.size := by
  intro s hs
  obtain ⟨k, hk, ht, hd⟩ := h.2.2 s hs
  have hz : s.drop k = [] := by
    rcases Nat.lt_or_ge k s.length with h1 | h1
    · exfalso
      rw [List.drop_eq_getElem_cons h1, qs_cons, hl] at hd
      rcases qb_cases s[k] with ⟨q1, _, q2, _⟩ | ⟨q1, _⟩ | ⟨q1, _⟩ | q1
      all_goals rw [q1] at hd; simp at hd
      exact q2 hd.1.symm
    · exact List.drop_eq_nil_of_le h1
  have hk2 : s.length ≤ k := by
    have := congrArg List.length hz
    simp at this; omega
  refine ⟨by rw [ht, List.take_of_length_le hk2], ?_⟩
  rw [hz] at hd
  have := congrArg List.length hd
  simp [qs] at this
  have h3 : q.data.toList.length = q.size := rfl
  have h4 : q.data.size = q.size := rfl
  omega
section
variable {P : Program} {ops : Array Oper} {o : Oper} {a : Act} {w : World} {K : Act → World → Prop} {Q : Exit → Act → World → Prop} {E : Prop}
/-- A call that leaves the world as it is, as one step of a region that draws. -/
theorem stepCall (hgd : o.guard = none) (f : FuncId) (x : Operand) (ts : Array TypeId) (v u : Value) (ho : o.op = .call { callee := .value (.func f), args := #[x], argTypes := ts }) (hx : a.eval x = v) (hb : plainFn P f = true)
    (c : Calls P f #[v] w fun e w' => e = .returned u ∧ w' = w) (h : K (a.put o.dst u) w) : if Region.wanted o (yielded ops a.tmps) = true then Oper.wp P o a w K Q else E := by
  have hwt : Region.wanted o (yielded ops a.tmps) = true := by simp [Region.wanted, hgd]
  rw [if_pos hwt]
  unfold Oper.wp
  rw [puts_call1 (P := P) (w := w) f x ts v ho hx hb]
  refine Calls.mono c fun e w' he => ?_
  obtain ⟨rfl, rfl⟩ := he
  exact h
end
theorem drop1 {q : ByteArray} {j : Nat} (h : j < q.size) : q.data.toList.drop j = q[j] :: q.data.toList.drop (j + 1) := List.drop_eq_getElem_cons (l := q.data.toList) (i := j) h
theorem hexV (b : UInt8) (w : World) : Calls Try.prog 68 #[.int .u8 (b.toNat : Int)] w fun e w' => e = .returned (.int .i64 (hv b)) ∧ w = w' := (hexValue_any b w).mono fun _ _ ⟨h1, h2⟩ => ⟨h1, h2.symm⟩
theorem hv_inv {b : UInt8} (h : 0 ≤ hv b) : ∃ x, x < 16 ∧ b = hx x ∧ hv b = (x : Int) := by
  have h1 := hv_in b
  refine ⟨(hv b).toNat, by omega, ?_, by omega⟩
  apply UInt8.toNat_inj.1
  unfold hv at h ⊢
  unfold hx
  by_cases a1 : 48 ≤ b.toNat ∧ b.toNat ≤ 57
  · rw [if_pos a1] at h ⊢
    rw [if_pos (by omega), UInt8.toNat_ofNat']
    omega
  · rw [if_neg a1] at h ⊢
    by_cases a2 : 97 ≤ b.toNat ∧ b.toNat ≤ 102
    · rw [if_pos a2] at h ⊢
      rw [if_neg (by omega), UInt8.toNat_ofNat']
      omega
    · rw [if_neg a2] at h
      omega
set_option maxHeartbeats 4000000 in
set_option maxRecDepth 100000 in
theorem unquoted_any (q : ByteArray) (w : World) (hs : q.size ≤ 1602) : Calls Try.prog 50 #[.string q] w (UnP q w) := by
  by_cases h0 : 0 < q.size
  · by_cases a0 : q[0].toNat = 39
    · have b0 : ((q[0].toNat : Int) != 39) = false := by rw [a0]; rfl
      have hq0 : ((q.size : Int) == 0) = false := beq_eq_false_iff_ne.2 (by omega)
      have HI0 := Lib.hid (show UnI w q (w.alloc (Obj.cells #[] 5)) 1 [] (.slice (some ⟨w.heap.size, 0, none⟩) 0 0) from ⟨World.ownsRow_lit w #[] 0 (Nat.le_refl _) (by decide) rfl, (Below.refl _ _).alloc (Nat.le_refl _) _, fun s h => ⟨0, Nat.zero_le _, rfl, by rw [h]; rfl⟩⟩)
      clear a0
      go_enter Try.func50, Try.ntmps50
      go_wp2_with fail
      go_loopw [4, 5] (fun v i wr => ∃ (j : Nat) (t : List UInt8), i = .int .i64 j ∧ 1 ≤ j ∧ t.length ≤ j ∧ j ≤ q.size ∧ Hid (UnI w q wr j t v)) (fun _ i _ => q.size - (intOf i).toNat)
      case atStart => exact ⟨1, [], rfl, by omega, by simp, by omega, HI0⟩
      case round =>
        obtain ⟨j, t, rfl, hj1, htj, hj, HI⟩ := hrel
        have HZ := Lib.hid (show w.heap.size ≤ wr.heap.size from HI.out.2.1.size)
        have HL := Lib.hid (show (bv t).length ≤ 2000 by unfold bv; rw [List.length_map]; omega)
        by_cases hlt : j < q.size
        · have HD := Lib.hid (drop1 hlt)
          by_cases c39 : q[j].toNat = 39
          · have d39 : ((q[j].toNat : Int) == 39) = true := by rw [c39]; rfl
            have HE := Lib.hid (uni_end HI.out hlt (by rw [HD.out, u8_eq c39 (by decide)]; rfl))
            have HB := Lib.hid HI.out.2.1
            clear c39
            go_wp2_with (first | (refine (puts_text 33 9 5 (.tmp 26) rfl Try.underlying33 Try.underlying5 Try.underlying9 w.heap.size _ t rfl HI.out.1).gives.plain rfl ?_))
            go_ret2
            exact ⟨⟨t, (j : Int) + 1, rfl, by omega, by omega, by omega, HE.out⟩, HB.out⟩
          · have d39 : ((q[j].toNat : Int) == 39) = false := beq_eq_false_iff_ne.2 (by omega)
            have HNE := Lib.hid (ne_of c39 (by decide))
            by_cases c10 : q[j].toNat = 10
            · have d10 : ((q[j].toNat : Int) == 10) = true := by rw [c10]; rfl
              have HN := Lib.hid (uni_no HI.out HD.out HNE.out (by rw [u8_eq c10 (by decide)]; exact nob_10 _))
              clear c39 c10
              go_wp2_with fail
              go_ret2
              exact ⟨⟨[], -1, rfl, Nat.zero_le _, by omega, by omega, fun s hs => absurd hs (HN.out s)⟩, HI.out.2.1⟩
            · have d10 : ((q[j].toNat : Int) == 10) = false := beq_eq_false_iff_ne.2 (by omega)
              by_cases c92 : q[j].toNat = 92
              · have d92 : ((q[j].toNat : Int) != 92) = false := by rw [c92]; rfl
                have e92 := u8_eq c92 (by decide)
                clear c39 c10 c92
                by_cases s1 : j + 1 < q.size
                · have k1 : (j : Int) + 1 < (q.size : Int) := by omega
                  have hd2 := drop1 s1
                  by_cases g39 : q[j + 1].toNat = 39
                  · have f39 : ((q[j + 1].toNat : Int) == 39) = true := by rw [g39]; rfl
                    have HR := Lib.hid (show Rdq (q[j] :: q.data.toList.drop (j + 1)) q[j + 1] 2 by rw [hd2, e92]; exact rdq_two (by rw [u8_eq g39 (by decide)]; decide) (Or.inl (by rw [u8_eq g39 (by decide)]; decide)))
                    clear hd2 e92 g39
                    go_wp2_with (first | (refine app1 rfl (.tmp 66) (.tmp 71) 33 5 (.int .u8 0) 1 rfl Try.underlying33 (by kernel_rfl) rfl (by decide) wr w _ rfl w.heap.size _ _ rfl rfl HI.out.1 rfl ?_ HZ.out HI.out.2.1 ?_; (have := HL.out; omega); intro v3 w3 ho hb3 _; have HT := Lib.hid (show UnI w q w3 (j + 2) (t ++ [q[j + 1]]) v3 from uni_next HI.out HD.out HNE.out HR.out (own_cat (m := [q[j + 1]]) ho rfl) hb3); clear ho hb3))
                    go_roundw
                    case rel => exact ⟨j + 2, _, by go_num, by omega, by simp; omega, by omega, HT⟩
                    case measure => simp [intOf]; try omega
                  · have f39 : ((q[j + 1].toNat : Int) == 39) = false := beq_eq_false_iff_ne.2 (by omega)
                    have n39 := ne_of g39 (by decide)
                    by_cases g92 : q[j + 1].toNat = 92
                    · have f92 : ((q[j + 1].toNat : Int) == 92) = true := by rw [g92]; rfl
                      have HR := Lib.hid (show Rdq (q[j] :: q.data.toList.drop (j + 1)) q[j + 1] 2 by rw [hd2, e92]; exact rdq_two (by rw [u8_eq g92 (by decide)]; decide) (Or.inl (by rw [u8_eq g92 (by decide)]; decide)))
                      clear hd2 e92 g39 g92 n39
                      go_wp2_with (first | (refine app1 rfl (.tmp 66) (.tmp 71) 33 5 (.int .u8 0) 1 rfl Try.underlying33 (by kernel_rfl) rfl (by decide) wr w _ rfl w.heap.size _ _ rfl rfl HI.out.1 rfl ?_ HZ.out HI.out.2.1 ?_; (have := HL.out; omega); intro v3 w3 ho hb3 _; have HT := Lib.hid (show UnI w q w3 (j + 2) (t ++ [q[j + 1]]) v3 from uni_next HI.out HD.out HNE.out HR.out (own_cat (m := [q[j + 1]]) ho rfl) hb3); clear ho hb3))
                      go_roundw
                      case rel => exact ⟨j + 2, _, by go_num, by omega, by simp; omega, by omega, HT⟩
                      case measure => simp [intOf]; try omega
                    · have f92 : ((q[j + 1].toNat : Int) == 92) = false := beq_eq_false_iff_ne.2 (by omega)
                      have n92 := ne_of g92 (by decide)
                      by_cases g110 : q[j + 1].toNat = 110
                      · have f110 : ((q[j + 1].toNat : Int) == 110) = true := by rw [g110]; rfl
                        have HR := Lib.hid (show Rdq (q[j] :: q.data.toList.drop (j + 1)) 10 2 by rw [hd2, e92, u8_eq g110 (by decide)]; exact rdq_n)
                        clear hd2 e92 g39 g92 n39 n92 g110
                        go_wp2_with (first | (refine app1 rfl (.tmp 88) (.tmp 89) 33 5 (.int .u8 0) 1 rfl Try.underlying33 (by kernel_rfl) rfl (by decide) wr w _ rfl w.heap.size _ _ rfl rfl HI.out.1 rfl ?_ HZ.out HI.out.2.1 ?_; (have := HL.out; omega); intro v3 w3 ho hb3 _; have HT := Lib.hid (show UnI w q w3 (j + 2) (t ++ [10]) v3 from uni_next HI.out HD.out HNE.out HR.out (own_cat (m := [10]) ho rfl) hb3); clear ho hb3))
                        go_roundw
                        case rel => exact ⟨j + 2, _, by go_num, by omega, by simp; omega, by omega, HT⟩
                        case measure => simp [intOf]; try omega
                      · have f110 : ((q[j + 1].toNat : Int) == 110) = false := beq_eq_false_iff_ne.2 (by omega)
                        have n110 := ne_of g110 (by decide)
                        by_cases g120 : q[j + 1].toNat = 120
                        · have f120 : ((q[j + 1].toNat : Int) == 120) = true := by rw [g120]; rfl
                          by_cases s3 : j + 3 < q.size
                          · have k3 : (j : Int) + 3 < (q.size : Int) := by omega
                            have k2 : (j : Int) + 2 < (q.size : Int) := by omega
                            have hd3 := drop1 (q := q) (j := j + 1 + 1) (by omega)
                            have hd4 := drop1 (q := q) (j := j + 1 + 1 + 1) (by omega)
                            have H2 := Lib.hid (fun w => hexV q[j + 2] w)
                            have H3 := Lib.hid (fun w => hexV q[j + 3] w)
                            have i2 := hv_in q[j + 2]
                            have i3 := hv_in q[j + 3]
                            by_cases p2 : hv q[j + 2] < 0
                            · have HN := Lib.hid (uni_no HI.out HD.out HNE.out (by rw [hd2, hd3, hd4, e92, u8_eq g120 (by decide)]; exact nob_two (by decide) (by decide) (by decide) (Or.inr fun x y t' e => by injection e with e1 e2; exact Or.inl (by rw [← e1]; exact p2))))
                              generalize hv q[j + 2] = x2 at *
                              clear hd2 hd3 hd4 e92 g39 g92 n39 n92 g110 n110 g120 H3 i3
                              go_wp2_with (first | (go_at_call 68; refine (H2.out _).mono ?_; rintro e w' ⟨rfl, rfl⟩))
                              go_ret2
                              exact ⟨⟨[], -1, rfl, Nat.zero_le _, by omega, by omega, fun s hs => absurd hs (HN.out s)⟩, HI.out.2.1⟩
                            · have p2' : 0 ≤ hv q[j + 2] := by omega
                              by_cases p3 : hv q[j + 3] < 0
                              · have HN := Lib.hid (uni_no HI.out HD.out HNE.out (by rw [hd2, hd3, hd4, e92, u8_eq g120 (by decide)]; exact nob_two (by decide) (by decide) (by decide) (Or.inr fun x y t' e => by injection e with e1 e2; injection e2 with e3 e4; exact Or.inr (by rw [← e3]; exact p3))))
                                generalize hv q[j + 2] = x2 at *
                                generalize hv q[j + 3] = x3 at *
                                clear hd2 hd3 hd4 e92 g39 g92 n39 n92 g110 n110 g120 p2
                                go_wp2_with fail
                                refine (H2.out _).mono ?_
                                rintro e w' ⟨rfl, rfl⟩
                                go_wp2_with fail
                                refine (H3.out _).mono ?_
                                rintro e w' ⟨rfl, rfl⟩
                                go_wp2_with fail
                                go_ret2
                                exact ⟨⟨[], -1, rfl, Nat.zero_le _, by omega, by omega, fun s hs => absurd hs (HN.out s)⟩, HI.out.2.1⟩
                              · have p3' : 0 ≤ hv q[j + 3] := by omega
                                have HR0 := Lib.hid (show ∀ c : UInt8, (c.toNat : Int) = (hv q[j + 2] * 16 + hv q[j + 3]) % 256 → Rdq (q[j] :: q.data.toList.drop (j + 1)) c 4 from fun c hc => by
                                  rw [hd2, hd3, hd4, e92, u8_eq g120 (by decide)]
                                  refine rdq_hex fun x' y' hx' hy' ex ey => ?_
                                  have e1 := hv_hx x' hx'
                                  have e2 := hv_hx y' hy'
                                  rw [← ex] at e1
                                  rw [← ey] at e2
                                  have e1' : hv q[j + 2] = (x' : Int) := e1
                                  have e2' : hv q[j + 3] = (y' : Int) := e2
                                  rw [e1', e2'] at hc
                                  omega)
                                obtain ⟨c, hc⟩ := u8_of ((hv q[j + 2] * 16 + hv q[j + 3]) % 256) (Int.emod_nonneg _ (by decide)) (by omega)
                                have HR := Lib.hid (HR0.out c hc)
                                clear HR0
                                have HC := Lib.hid hc
                                have HV2 := Lib.hid (fun w => hexValue_any q[j + 2] w)
                                have HV3 := Lib.hid (fun w => hexValue_any q[j + 3] w)
                                generalize hv q[j + 2] = x2 at *
                                generalize hv q[j + 3] = x3 at *
                                clear hd2 hd3 hd4 e92 g39 g92 n39 n92 g110 n110 g120 p2 p3 hc
                                go_wp2_with fail
                                refine (H2.out _).mono ?_
                                rintro e w' ⟨rfl, rfl⟩
                                go_wp2_with fail
                                refine (H3.out _).mono ?_
                                rintro e w' ⟨rfl, rfl⟩
                                go_wp2_with fail
                                have t2 : IntKind.i64.wrap ((j : Int) + 2) = (j : Int) + 2 := IntWalk.i64_in _ (by omega)
                                have t3 : IntKind.i64.wrap ((j : Int) + 3) = (j : Int) + 3 := IntWalk.i64_in _ (by omega)
                                have z2 : 0 ≤ (j : Int) + 2 := by omega
                                have z3 : 0 ≤ (j : Int) + 3 := by omega
                                have m1 : IntKind.i64.wrap (x2 * 16) = x2 * 16 := IntWalk.i64_in _ (by omega)
                                have m2 : IntKind.i64.wrap (x2 * 16 + x3) = x2 * 16 + x3 := IntWalk.i64_in _ (by omega)
                                have m3 : IntKind.u8.wrap (x2 * 16 + x3) = (c.toNat : Int) := by rw [HC.out, IntWalk.u8_in _ (by omega)]; omega
                                go_region_law (first | (refine stepCall rfl 68 (.tmp 126) #[5] (.int .u8 (q[j + 2].toNat : Int)) (.int .i64 x2) rfl rfl (by kernel_rfl) (HV2.out _) ?_) | (refine stepCall rfl 68 (.tmp 132) #[5] (.int .u8 (q[j + 3].toNat : Int)) (.int .i64 x3) rfl rfl (by kernel_rfl) (HV3.out _) ?_) | (refine stepN rfl (.tmp 122) (.tmp 136) 33 5 (.int .u8 0) 1 rfl Try.underlying33 (by kernel_rfl) rfl (by decide) wr w [.int .u8 (c.toNat : Int)] rfl w.heap.size _ _ rfl rfl HI.out.1 (all1 rfl) ?_ HZ.out HI.out.2.1 ?_; (have := HL.out; simp; omega); intro v3 w3 ho hb3; have HT := Lib.hid (show UnI w q w3 (j + 4) (t ++ [c]) v3 from uni_next HI.out HD.out HNE.out HR.out (own_cat (m := [c]) ho rfl) hb3); clear ho hb3))
                                clear t2 t3 z2 z3 m1 m2 m3
                                all_goals
                                  go_wp2_with fail
                                  go_roundw
                                  case rel => exact ⟨j + 4, _, by go_num, by omega, by simp; omega, by omega, HT⟩
                                  case measure => simp [intOf]; try omega
                          · have k3 : (q.size : Int) ≤ (j : Int) + 3 := by omega
                            have HN := Lib.hid (uni_no HI.out HD.out HNE.out (by
                              rw [hd2, e92]
                              refine nob_two n39 n92 n110 (Or.inr fun x y t' e => ?_)
                              have h1 := congrArg List.length e
                              have h2 : q.data.toList.length = q.size := rfl
                              rw [List.length_drop, h2] at h1
                              simp at h1
                              omega))
                            clear hd2 e92 g39 g92 n39 n92 g110 n110 g120 s3
                            go_wp2_with fail
                            go_ret2
                            exact ⟨⟨[], -1, rfl, Nat.zero_le _, by omega, by omega, fun s hs => absurd hs (HN.out s)⟩, HI.out.2.1⟩
                        · have f120 : ((q[j + 1].toNat : Int) == 120) = false := beq_eq_false_iff_ne.2 (by omega)
                          have HN := Lib.hid (uni_no HI.out HD.out HNE.out (by rw [hd2, e92]; exact nob_two n39 n92 n110 (Or.inl (ne_of g120 (by decide)))))
                          clear hd2 e92 g39 g92 n39 n92 g110 n110 g120
                          by_cases s3 : j + 3 < q.size
                          · have k3 : (j : Int) + 3 < (q.size : Int) := by omega
                            go_wp2_with fail
                            go_ret2
                            exact ⟨⟨[], -1, rfl, Nat.zero_le _, by omega, by omega, fun s hs => absurd hs (HN.out s)⟩, HI.out.2.1⟩
                          · have k3 : (q.size : Int) ≤ (j : Int) + 3 := by omega
                            clear s3
                            go_wp2_with fail
                            go_ret2
                            exact ⟨⟨[], -1, rfl, Nat.zero_le _, by omega, by omega, fun s hs => absurd hs (HN.out s)⟩, HI.out.2.1⟩
                · have k1 : (q.size : Int) ≤ (j : Int) + 1 := by omega
                  have k3 : (q.size : Int) ≤ (j : Int) + 3 := by omega
                  have HN := Lib.hid (uni_no HI.out HD.out HNE.out (by
                    rw [e92, List.drop_eq_nil_of_le (show q.data.toList.length ≤ j + 1 by have h2 : q.data.toList.length = q.size := rfl; omega)]
                    exact nob_end))
                  clear s1 e92
                  go_wp2_with fail
                  go_ret2
                  exact ⟨⟨[], -1, rfl, Nat.zero_le _, by omega, by omega, fun s hs => absurd hs (HN.out s)⟩, HI.out.2.1⟩
              · have d92 : ((q[j].toNat : Int) != 92) = true := by simp; omega
                have HR := Lib.hid (show Rdq (q[j] :: q.data.toList.drop (j + 1)) q[j] 1 from rdq_plain (ne_of c92 (by decide)))
                clear c39 c10 c92
                go_wp2_with (first | (refine app1 rfl (.tmp 40) (.tmp 44) 33 5 (.int .u8 0) 1 rfl Try.underlying33 (by kernel_rfl) rfl (by decide) wr w _ rfl w.heap.size _ _ rfl rfl HI.out.1 rfl ?_ HZ.out HI.out.2.1 ?_; (have := HL.out; omega); intro v3 w3 ho hb3 _; have HT := Lib.hid (show UnI w q w3 (j + 1) (t ++ [q[j]]) v3 from uni_next HI.out HD.out HNE.out HR.out (own_cat (m := [q[j]]) ho rfl) hb3); clear ho hb3))
                go_roundw
                case rel => exact ⟨j + 1, _, by go_num, by omega, by simp; omega, by omega, HT⟩
                case measure => simp [intOf]; try omega
        · have HN := Lib.hid (uni_out HI.out (by omega))
          go_wp2_with fail
          go_ret2
          exact ⟨⟨[], -1, rfl, Nat.zero_le _, by omega, by omega, fun s hs => absurd hs (HN.out s)⟩, HI.out.2.1⟩
    · have b0 : ((q[0].toNat : Int) != 39) = true := by simp; omega
      have hq0 : ((q.size : Int) == 0) = false := beq_eq_false_iff_ne.2 (by omega)
      have HB := Lib.hid (show Below w.heap.size w (w.alloc (Obj.cells #[] 5)) from (Below.refl _ _).alloc (Nat.le_refl _) _)
      have HN := Lib.hid (show ∀ s : List UInt8, q.data.toList ≠ Qt s from fun s h => a0 (by rw [byte_at h 0 h0 (by have := Qt_len s; omega)]; rfl))
      clear a0
      go_enter Try.func50, Try.ntmps50
      go_wp2_with fail
      go_ret2
      exact ⟨⟨[], -1, rfl, Nat.zero_le _, by omega, by omega, fun s hs => absurd hs (HN.out s)⟩, HB.out⟩
  · have hq0 : ((q.size : Int) == 0) = true := beq_iff_eq.2 (by omega)
    have HB := Lib.hid (show Below w.heap.size w (w.alloc (Obj.cells #[] 5)) from (Below.refl _ _).alloc (Nat.le_refl _) _)
    have HN := Lib.hid (show ∀ s : List UInt8, q.data.toList ≠ Qt s from fun s h => by
      have h1 := (Qt_len s).1
      rw [← h] at h1
      have h3 : q.data.toList.length = q.size := rfl
      omega)
    clear h0
    go_enter Try.func50, Try.ntmps50
    go_wp2_with fail
    go_ret2
    exact ⟨⟨[], -1, rfl, Nat.zero_le _, by omega, by omega, fun s hs => absurd hs (HN.out s)⟩, HB.out⟩
end Go.Proofs.Ytfmpplolhhjpoaa
