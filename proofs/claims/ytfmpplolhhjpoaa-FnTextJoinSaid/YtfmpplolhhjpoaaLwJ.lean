/- Texts and a part are drawn; the law on TextJoin. -/
import Derived.Test.YtfmpplolhhjpoaaLwT
import Derived.Test.YtfmpplolhhjpoaaJoin2
namespace Go.Proofs.Ytfmpplolhhjpoaa
open Go.RowKit
section
variable {P : Program} {ops : Array Oper} {rest : List Oper} {o : Oper} {a : Act} {w : World} {Q : Exit → Act → World → Prop}
/-- An append of one value of at most sixteen bytes. -/
theorem appS (hgd : o.guard = none) (s x : Operand) (T e : TypeId) (z : Value) (b : Nat) (ho : o.op = .call { callee := .builtin .append, args := #[s, x], argTypes := #[T, T] }) (ht : P.underlying T = some (.slice e))
    (hi : (P.info? e).map (fun i => (i.zero, i.size, i.bytes)) = some (some z, 1, b)) (hzs : z.cells.size = 1) (hb8 : b ≤ 16) (W w0 : World) (u : Value) (hw : w = W.alloc (.cells #[u] e)) (base : Nat) (v : Value) (vals : List Value) (hs : a.eval s = v) (hx : a.eval x = .slice (some ⟨W.heap.size, 0, none⟩) 1 1)
    (hown : Own W base e v vals) (h1 : u.oneCell' = true) (hlen : vals.length + 1 ≤ 1099511627776) (hbase : base ≤ W.heap.size) (hB : Below base w0 W)
    (h : ∀ v' w', Own w' base e v' (vals ++ [u]) → Below base w0 w' → W.grownBy w' v.ownBlock → wpList P ops Q rest (a.put o.dst v') w') : wpList P ops Q (o :: rest) a w := by
  obtain ⟨i, hi1, hi2, hi3, hi4⟩ := info_of hi
  subst hw
  have hle : (vals.length + 1) * b ≤ (vals.length + 1) * 16 := Nat.mul_le_mul_left _ hb8
  refine wpList_append_own _ hgd s x T ho base e i z 1 b ht hi1 hi2 hi3 hi4 hzs (by omega) v vals.length vals hs (World.ownsRow.alloc hown _) ⟨W.heap.size, 0, none⟩ 1 1 [u] hx rfl ?_ ?_ ?_ (by omega) (by simp; omega) ?_
  · intro j u' hj
    cases j with
    | zero => simp at hj; subst hj; rw [addr_add, Nat.zero_add, World.cell?_alloc_at _ _ _ _ rfl]; rfl
    | succ j => simp at hj
  · intro u' hu; rw [List.mem_singleton] at hu; rw [hu]; exact h1
  · unfold maxLen; omega
  · intro v' w' hown' hgrow _
    have hgW : W.grownBy w' v.ownBlock := ⟨hgrow.os, hgrow.tape, hgrow.output, by have := hgrow.size; simp at this; omega, fun k hk hne => (hgrow.block k (by simp; omega) hne).trans (Below.heap_alloc _ _ _ hk)⟩
    refine h v' w' ?_ ?_ hgW
    · unfold Own; rw [List.length_append]; exact hown'
    · exact hB.grown hgW hbase fun k hk => (World.ownsRow.lt hown k hk).1
end
theorem ri_under {w0 w w' : World} {g n cap k0 k : Nat} {a : Option Addr} (h0 : RI w0 g a n cap k0) (h : RI w g a n cap k) (hb : Below w0.heap.size w w') : RI w' g a n cap k := by
  obtain ⟨h1, h2, h3, h4⟩ := h
  refine ⟨h1.below hb h0.1.lt, h2, h3, ?_⟩
  rcases h4 with h4 | ⟨x, hx, hxg, hr⟩
  · exact Or.inl h4
  · refine Or.inr ⟨x, hx, hxg, fun i hi => ?_⟩
    obtain ⟨c, hc, hcell⟩ := hr i hi
    refine ⟨c, hc, ?_⟩
    have hlt : (x.add i).block < w0.heap.size := by
      rcases h0.2.2.2 with h5 | ⟨y, hy, _, hr0⟩
      · omega
      · rw [hx] at hy
        injection hy with hy
        subst hy
        obtain ⟨_, _, hc0⟩ := hr0 i hi
        exact World.block_lt_of_cell? w0 _ hc0
    rw [hb.cell hlt]
    exact hcell
theorem own_grown {w w' : World} {base g : Nat} {e : TypeId} {v : Value} {vals : List Value} (h : Own w base e v vals) (hg : w.grownBy w' (some g)) (hgb : g < base) : Own w' base e v vals := by
  obtain ⟨h1, h2⟩ := h
  refine ⟨h1, ?_⟩
  rcases h2 with h2 | ⟨b, cap, cur, hv, hb, hh, rest⟩
  · exact .inl h2
  · refine .inr ⟨b, cap, cur, hv, hb, ?_, rest⟩
    have hlt : b < w.heap.size := by
      rcases Nat.lt_or_ge b w.heap.size with h | h
      · exact h
      · rw [Array.getElem?_eq_none h] at hh; cases hh
    rw [hg.block b hlt (by simp; omega)]
    exact hh
/-- While texts are drawn. -/
def JdI (w w1 : World) (a : Option Addr) (m cap k : Nat) (wr : World) (ss : List ByteArray) (v : Value) : Prop := Below w.heap.size w wr ∧ w1.heap.size ≤ wr.heap.size ∧ (∃ k', k' ≤ k ∧ RI wr w.heap.size a m cap k') ∧ Own wr w1.heap.size 9 v (sv ss) ∧ v ≠ .slice none 0 0 ∧ Le ss 400
/-- Texts and a part. -/
def TjP (w : World) (e : Ending) (w' : World) : Prop := ∃ (ss : List ByteArray) (p : ByteArray) (g c : Nat), e = .returned (.tuple #[.slice (some ⟨g, 0, none⟩) ss.length c, .string p]) ∧ Cp w' g ss ∧ g < w'.heap.size ∧ Le ss 400 ∧ ss.length ≤ 6 ∧ p.size ≤ 400 ∧ Below w.heap.size w w'
def jdL (m : List UInt8) : List ByteArray := [⟨#[]⟩, ⟨#[44]⟩, ⟨#[97, 98]⟩, ⟨m.toArray⟩]
theorem jdL_le (m : List UInt8) (hm : m.length ≤ 400) : ∀ d ∈ jdL m, d.size ≤ 400 := by
  intro d hd
  simp only [jdL, List.mem_cons, List.not_mem_nil, or_false] at hd
  rcases hd with rfl | rfl | rfl | rfl
  all_goals first | decide | (show m.toArray.size ≤ 400; rw [List.size_toArray]; exact hm)
theorem sv_snoc (ss : List ByteArray) (s : ByteArray) : sv ss ++ [.string s] = sv (ss ++ [s]) := by simp [sv]
theorem le_snoc {ss : List ByteArray} {s : ByteArray} {n : Nat} (h : Le ss n) (hs : s.size ≤ n) : Le (ss ++ [s]) n := by
  intro t ht
  rcases List.mem_append.1 ht with ht | ht
  · exact h t ht
  · rw [List.mem_singleton.1 ht]; exact hs
set_option maxHeartbeats 4000000 in
theorem dTextJoin (w : World) (a : Option Addr) (n cap : Nat) (h : Cr w a n cap) : Calls Try.prog 44 #[.slice a n cap] w (TjP w) := by
  have HN := Lib.hid (newRnd_any w a n cap h)
  clear h
  go_enter Try.func44, Try.ntmps44
  go_wp2_with fail
  refine HN.out.mono ?_
  rintro e w1 ⟨rfl, hb1, m, hr1⟩
  have HB1 := Lib.hid hb1
  have HR1 := Lib.hid hr1
  have hlt1 := hr1.1.lt
  clear hb1 hr1
  have HX := Lib.hid (show Below w1.heap.size w1 (w1.alloc (.cells #[] 9)) from (Below.refl _ _).alloc (Nat.le_refl _) _)
  have HO := Lib.hid (show Own (w1.alloc (.cells #[] 9)) w1.heap.size 9 (.slice (some ⟨w1.heap.size, 0, none⟩) 0 0) (sv []) from World.ownsRow_lit w1 #[] 0 (Nat.le_refl _) (by decide) rfl)
  go_wp2_with fail
  refine (pick_any _ w.heap.size a m cap 0 6 (ri_below HR1.out HX.out) (by omega) (by decide)).mono ?_
  rintro e w2 ⟨r, rfl, hrl, hg2, k2, hk2, hr2⟩
  have hr6 : r ≤ 6 := by omega
  have HI2 := Lib.hid (show JdI w w1 a m cap 1 w2 [] (.slice (some ⟨w1.heap.size, 0, none⟩) 0 0) from ⟨below_row (HB1.out.trans (HX.out.mono HB1.out.size)) hg2 (Nat.le_refl _), Nat.le_trans HX.out.size hg2.size, ⟨k2, by omega, hr2⟩, own_grown HO.out hg2 hlt1, (fun h => by cases h), (fun s hs => by cases hs)⟩)
  clear hg2 hr2 hk2 hrl
  go_wp2_with fail
  go_loopw [5, 6] (fun v i wr => ∃ (j : Nat) (ss : List ByteArray), j ≤ r ∧ i = .int .i64 (j : Int) ∧ ss.length + j ≤ 6 ∧ Hid (JdI w w1 a m cap (1 + 12 * (r - j)) wr ss v)) (fun _ i _ => (intOf i).toNat)
  case atStart => exact ⟨r, [], by omega, rfl, by simpa using hr6, by simpa using HI2⟩
  case round =>
    obtain ⟨j, ss, hj, rfl, hss, HI⟩ := hrel
    obtain ⟨_, _, ⟨k', hk', hRI⟩, _⟩ := HI.out
    have HRI := Lib.hid hRI
    clear hRI
    by_cases hlt : 0 < j
    · go_wp2_with fail
      refine (text_draw wr w.heap.size m cap k' a HRI.out (by omega)).mono ?_
      rintro e w3 ⟨⟨l, rfl, hl⟩, hg3, k3, hk3, hr3⟩
      have hl4 : (⟨l.toArray⟩ : ByteArray).size ≤ 400 := by show l.toArray.size ≤ 400; rw [List.size_toArray]; exact hl
      obtain ⟨s, hs⟩ : ∃ s : ByteArray, s = ⟨l.toArray⟩ := ⟨_, rfl⟩
      rw [← hs] at hl4 ⊢
      have HI3 := Lib.hid (show JdI w w1 a m cap (1 + 12 * (r - (j - 1))) w3 ss _ from ⟨below_row HI.out.1 hg3 (Nat.le_refl _), Nat.le_trans HI.out.2.1 hg3.size, ⟨k3, by omega, hr3⟩, own_grown HI.out.2.2.2.1 hg3 hlt1, HI.out.2.2.2.2.1, HI.out.2.2.2.2.2⟩)
      clear hg3 hr3 hk3 hs hl hk'
      go_wp2_with (first | (refine appS rfl (.tmp 16) (.tmp 19) 24 9 (.string ⟨#[]⟩) 16 rfl Try.underlying24 (by kernel_rfl) rfl (by decide) w3 w3 (.string s) rfl w1.heap.size _ _ rfl rfl HI3.out.2.2.2.1 rfl (by rw [sv_len]; omega) HI3.out.2.1 (Below.refl _ _) ?_; intro v4 w4 ho hb4 hg4; have HT := Lib.hid (show JdI w w1 a m cap (1 + 12 * (r - (j - 1))) w4 (ss ++ [s]) v4 from by (obtain ⟨q1, q2, ⟨k5, q3, q4⟩, q5, q6, q7⟩ := HI3.out; refine ⟨q1.trans (hb4.mono HB1.out.size), Nat.le_trans q2 hg4.size, ⟨k5, q3, ri_under HR1.out q4 hb4⟩, by rw [← sv_snoc]; exact ho, fun h => ?_, le_snoc q7 hl4⟩; rcases Own.form ho with ⟨_, h6⟩ | ⟨b6, c6, h6, _⟩; (simp at h6); (rw [h] at h6; cases h6))); clear ho hb4 hg4))
      go_roundw
      case rel => exact ⟨j - 1, ss ++ [s], by omega, by go_num, by simp; omega, HT⟩
      case measure => simp [intOf]; try omega
    · obtain rfl : j = 0 := by omega
      clear hlt
      go_wp2_with fail
      refine (text_draw wr w.heap.size m cap k' a HRI.out (by omega)).mono ?_
      rintro e w3 ⟨⟨l, rfl, hl⟩, hg3, k3, hk3, hr3⟩
      have HI3 := Lib.hid (show JdI w w1 a m cap 200 w3 ss _ from ⟨below_row HI.out.1 hg3 (Nat.le_refl _), Nat.le_trans HI.out.2.1 hg3.size, ⟨k3, by omega, hr3⟩, own_grown HI.out.2.2.2.1 hg3 hlt1, HI.out.2.2.2.2.1, HI.out.2.2.2.2.2⟩)
      have HR3 := Lib.hid hr3
      have HL := Lib.hid hl
      have hk3' : k3 ≤ 300 := by omega
      clear hg3 hr3 hk3 hl hk'
      go_wp2_with fail
      refine (of_lit (jdL l) HR3.out (by omega) (by simp [jdL]) (by simp [jdL])).mono ?_
      rintro e w4 ⟨⟨d, hd, rfl⟩, hg4, k4, hk4, hr4⟩
      have HS := Lib.hid (jdL_le l HL.out d hd)
      obtain ⟨q1, q2, _, q5, q6, q7⟩ := HI3.out
      have HB4 := Lib.hid (below_row q1 hg4 (Nat.le_refl _))
      have HO4 := Lib.hid (own_grown q5 hg4 hlt1)
      have HV4 := Lib.hid q6
      have HLe := Lib.hid q7
      clear hd hg4 hr4 hk4 q1 q2 q5 q6 q7
      go_wp2_with fail
      go_ret2
      rcases Own.form HO4.out with ⟨h6, _⟩ | ⟨b6, c6, h6, _, h7, _, h8⟩
      · exact absurd h6 HV4.out
      · refine ⟨ss, d, b6, c6, ?_, fun j t hj => h8 j _ (by simp [sv, hj]), h7, HLe.out, by omega, HS.out, HB4.out⟩
        rw [sv_len] at h6
        rw [← h6]; rfl
/-- How long so many texts are. -/
def sz (ss : List ByteArray) : Nat → Nat
  | 0 => 0
  | k + 1 => sz ss k + (ss.getD k ⟨#[]⟩).size
theorem sz_more {ss : List ByteArray} {k : Nat} {s : ByteArray} (h : ss[k]? = some s) : sz ss (k + 1) = sz ss k + s.size := by
  show sz ss k + (ss.getD k ⟨#[]⟩).size = _
  rw [List.getD_eq_getElem?_getD, h]; rfl
theorem jn_sz (ss : List ByteArray) (p : ByteArray) (k : Nat) (hk : k ≤ ss.length) : (jn ss p.data.toList k).length = sz ss k + p.size * (k - 1) := by
  induction k with
  | zero => simp [jn, sz]
  | succ k ih =>
    have hs : ss[k]? = some ss[k] := List.getElem?_eq_getElem (by omega)
    rw [sz_more hs]
    by_cases h0 : k = 0
    · subst h0
      rw [jn_len_one hs]
      simp [sz]
    · rw [jn_len_more hs (by omega), ih (by omega)]
      have e : p.size * (k + 1 - 1) = p.size * (k - 1) + p.size := by
        rw [show k + 1 - 1 = (k - 1) + 1 by omega, Nat.mul_add, Nat.mul_one]
      rw [e]
      omega
set_option maxHeartbeats 4000000 in
theorem fnTextJoin_walk (a : Option Addr) (n cap : Nat) (zs : List Int) (w : World) (h : (a = none ∧ n = 0 ∧ cap = 0 ∧ zs = []) ∨ ∃ x, a = some x ∧ n ≤ cap ∧ cap ≤ maxLen ∧ zs.length = cap ∧ (∀ i, i < zs.length → w.cell? (x.add i) = some (.int .u8 (zs.getD i 0))) ∧ ∀ n ∈ zs, (Lit.int .u8 n).wf = true) :
    Calls Try.prog 14 #[.slice a n cap] w fun e w' => e = .returned (.bool true) ∧ Below w.heap.size w w' := by
  have HC := Lib.hid (dTextJoin w a n cap (cr_of h))
  have hcap : n ≤ 9223372036854775807 := by
    rcases h with ⟨_, rfl, _⟩ | ⟨x, _, h1, h2, _⟩
    · omega
    · unfold maxLen at h2; omega
  clear h
  by_cases h0 : n ≤ 1048576
  · go_enter Try.func14, Try.ntmps14
    go_wp2_with fail
    refine HC.out.mono ?_
    rintro e w2 ⟨ss, p, g, c, rfl, hcp, hg, hle, hl6, hp, hb2⟩
    have HBw2 := Lib.hid hb2
    have HC2 := Lib.hid hcp
    have HLe := Lib.hid hle
    have hle2 : Le ss 1048576 := fun s hs => Nat.le_trans (hle s hs) (by decide)
    have H1 := Lib.hid (implJoin_any ss p g c w2 hcp hg (by omega) hle2 (by omega))
    have H2 := Lib.hid (fun w3 (q : Cp w3 g ss) => specJoin_any ss p g c w3 q (by omega) hle2 (by omega))
    clear hb2 hcp hle hle2
    obtain ⟨n0, hn0⟩ : ∃ n0, n0 = ss.length := ⟨_, rfl⟩
    have HN0 := Lib.hid hn0
    by_cases hok : jOk ss p
    · have HL := Lib.hid (jn_sz ss p ss.length (Nat.le_refl _))
      have HJ4 := Lib.hid hok.2.2
      have H1' := Lib.hid (show Calls Try.prog 20 #[.slice (some ⟨g, 0, none⟩) ss.length c, .string p] w2 fun e w' => e = .returned (.tuple #[.string ⟨(jn ss p.data.toList ss.length).toArray⟩, .bool true]) ∧ Below w2.heap.size w2 w' from H1.out.mono fun e w' ⟨h1, h2⟩ => ⟨h1.1 hok, h2⟩)
      have H2' := Lib.hid (show ∀ w3, Cp w3 g ss → Calls Try.prog 18 #[.slice (some ⟨g, 0, none⟩) ss.length c, .string p] w3 fun e w' => e = .returned (.tuple #[.string ⟨(jn ss p.data.toList ss.length).toArray⟩, .bool true]) ∧ Below w3.heap.size w3 w' from fun w3 q => (H2.out w3 q).mono fun e w' ⟨h1, h2⟩ => ⟨h1.1 hok, h2⟩)
      obtain ⟨L, hL⟩ : ∃ L, L = jn ss p.data.toList ss.length := ⟨_, rfl⟩
      rw [← hL] at HL HJ4 H1' H2'
      obtain ⟨O, hO⟩ : ∃ O : ByteArray, O = ⟨L.toArray⟩ := ⟨_, rfl⟩
      rw [← hO] at H1' H2'
      have HOs := Lib.hid (show O.size = L.length by rw [hO]; exact size_arr L)
      have hO4 : O.size ≤ 400 := by rw [HOs.out]; exact HJ4.out
      clear hok hL hO H1 H2
      rw [← hn0] at H1' H2' HL hl6 ⊢
      clear hn0
      go_wp2_with (first | (refine ext rfl (.tmp 15) 0 [.slice (some ⟨g, 0, none⟩) n0 c, .string p] (.slice (some ⟨g, 0, none⟩) n0 c) rfl rfl rfl ?_) | (refine ext rfl (.tmp 15) 1 [.slice (some ⟨g, 0, none⟩) n0 c, .string p] (.string p) rfl rfl rfl ?_))
      refine H1'.out.mono ?_
      rintro e w3 ⟨rfl, hb⟩
      have HBw3 := Lib.hid (HBw2.out.trans (hb.mono HBw2.out.size))
      have HC3 := Lib.hid (HC2.out.below hb)
      clear hb
      go_wp2_with (first | (refine ext rfl (.tmp 20) 0 [.string O, .bool true] (.string O) rfl rfl rfl ?_) | (refine ext rfl (.tmp 20) 1 [.string O, .bool true] (.bool true) rfl rfl rfl ?_))
      refine (H2'.out _ HC3.out).mono ?_
      rintro e w4 ⟨rfl, hb⟩
      have HBw4 := Lib.hid (HBw3.out.trans (hb.mono HBw3.out.size))
      have HC4 := Lib.hid (HC3.out.below hb)
      clear hb
      go_wp2_with (first | (refine ext rfl (.tmp 26) 0 [.string O, .bool true] (.string O) rfl rfl rfl ?_) | (refine ext rfl (.tmp 26) 1 [.string O, .bool true] (.bool true) rfl rfl rfl ?_))
      go_loop [10, 11] (fun v i => ∃ (k m : Nat), k ≤ n0 ∧ i = .int .i64 k ∧ v = .int .i64 (m : Int) ∧ m ≤ 400 * k ∧ Hid (sz ss k = m)) (fun _ i => n0 - (intOf i).toNat)
      case atStart => exact ⟨0, 0, by omega, rfl, rfl, by omega, Lib.hid rfl⟩
      case round =>
        obtain ⟨k, m, hk, rfl, rfl, hm, HK⟩ := hrel
        by_cases hlt : k < n0
        · obtain ⟨s, hs⟩ : ∃ s, ss[k]? = some s := ⟨ss[k]'(by have := HN0.out; omega), List.getElem?_eq_getElem _⟩
          have c1 : w4.cell? ⟨g, k, none⟩ = some (.string s) := HC4.out k s hs
          have hs4 := HLe.out s (List.mem_of_getElem? hs)
          have HK2 := Lib.hid (show sz ss (k + 1) = m + s.size by rw [sz_more hs, HK.out])
          clear hs
          go_wp2_with fail
          go_round
          case rel => exact ⟨k + 1, m + s.size, by omega, by go_num, by go_num, by omega, HK2⟩
          case measure => simp [intOf]; try omega
        · obtain rfl : k = n0 := by omega
          clear hlt
          have HE := Lib.hid (show O.size = m + p.size * (k - 1) by rw [HOs.out, HL.out, HK.out])
          by_cases h00 : k = 0
          · subst h00
            have he : ((O.size : Int) == (m : Int)) = true := by have := HE.out; rw [beq_iff_eq]; simp at this; omega
            go_wp2_with fail
            go_ret
            exact ⟨rfl, HBw4.out⟩
          · by_cases h1 : k = 1
            · subst h1
              have he : ((O.size : Int) == (m : Int)) = true := by have := HE.out; rw [beq_iff_eq]; simp at this; omega
              have hw0 : wrap64 0 = 0 := by unfold wrap64; omega
              go_wp2_with fail
              go_ret
              exact ⟨rfl, HBw4.out⟩
            · have hkk : 0 < (k : Int) - 1 := by omega
              have hpr : p.size * (k - 1) ≤ 400 * 6 := Nat.mul_le_mul hp (by omega)
              have hpc : (p.size : Int) * ((k : Int) - 1) = ((p.size * (k - 1) : Nat) : Int) := by rw [Int.natCast_mul, Int.ofNat_sub (by omega)]; rfl
              have hP1 : (p.size : Int) * ((k : Int) - 1) ≤ 2400 := by rw [hpc]; omega
              have hP0 : 0 ≤ (p.size : Int) * ((k : Int) - 1) := by rw [hpc]; omega
              have he : ((O.size : Int) == (m : Int) + (p.size : Int) * ((k : Int) - 1)) = true := by have := HE.out; rw [beq_iff_eq, hpc]; omega
              clear h00 h1 hpr hpc
              go_wp2_with fail
              go_ret
              exact ⟨rfl, HBw4.out⟩
    · have H1' := Lib.hid (show Calls Try.prog 20 #[.slice (some ⟨g, 0, none⟩) ss.length c, .string p] w2 fun e w' => e = .returned (.tuple #[.string ⟨#[]⟩, .bool false]) ∧ Below w2.heap.size w2 w' from H1.out.mono fun e w' ⟨h1, h2⟩ => ⟨h1.2 hok, h2⟩)
      have H2' := Lib.hid (show ∀ w3, Cp w3 g ss → Calls Try.prog 18 #[.slice (some ⟨g, 0, none⟩) ss.length c, .string p] w3 fun e w' => e = .returned (.tuple #[.string ⟨#[]⟩, .bool false]) ∧ Below w3.heap.size w3 w' from fun w3 q => (H2.out w3 q).mono fun e w' ⟨h1, h2⟩ => ⟨h1.2 hok, h2⟩)
      clear hok H1 H2 hn0
      go_wp2_with (first | (refine ext rfl (.tmp 15) 0 [.slice (some ⟨g, 0, none⟩) ss.length c, .string p] (.slice (some ⟨g, 0, none⟩) ss.length c) rfl rfl rfl ?_) | (refine ext rfl (.tmp 15) 1 [.slice (some ⟨g, 0, none⟩) ss.length c, .string p] (.string p) rfl rfl rfl ?_))
      refine H1'.out.mono ?_
      rintro e w3 ⟨rfl, hb⟩
      have HBw3 := Lib.hid (HBw2.out.trans (hb.mono HBw2.out.size))
      have HC3 := Lib.hid (HC2.out.below hb)
      clear hb
      go_wp2_with (first | (refine ext rfl (.tmp 20) 0 [.string ⟨#[]⟩, .bool false] (.string ⟨#[]⟩) rfl rfl rfl ?_) | (refine ext rfl (.tmp 20) 1 [.string ⟨#[]⟩, .bool false] (.bool false) rfl rfl rfl ?_))
      refine (H2'.out _ HC3.out).mono ?_
      rintro e w4 ⟨rfl, hb⟩
      have HBw4 := Lib.hid (HBw3.out.trans (hb.mono HBw3.out.size))
      clear hb
      go_wp2_with (first | (refine ext rfl (.tmp 26) 0 [.string ⟨#[]⟩, .bool false] (.string ⟨#[]⟩) rfl rfl rfl ?_) | (refine ext rfl (.tmp 26) 1 [.string ⟨#[]⟩, .bool false] (.bool false) rfl rfl rfl ?_))
      go_ret
      exact ⟨rfl, HBw4.out⟩
  · go_enter Try.func14, Try.ntmps14
    go_wp2_with fail
    go_ret
    exact ⟨rfl, Below.refl _ _⟩
end Go.Proofs.Ytfmpplolhhjpoaa
