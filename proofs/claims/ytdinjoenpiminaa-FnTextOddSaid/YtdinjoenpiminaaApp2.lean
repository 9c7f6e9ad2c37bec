/- A byte's form behind a slice of the call's own. -/
import Derived.Test.YtdinjoenpiminaaApp
namespace Go.Proofs.Ytdinjoenpiminaa
open Go.RowKit
def AqP (w0 : World) (base : Nat) (l : List UInt8) (c : UInt8) (e : Ending) (w' : World) : Prop := ∃ v', e = .returned v' ∧ Own w' base 5 v' (bv (l ++ qb c)) ∧ Below base w0 w'
theorem own_cat {w : World} {base : Nat} {v : Value} {l m : List UInt8} {us : List Value} (h : Own w base 5 v (bv l ++ us)) (hu : us = bv m) : Own w base 5 v (bv (l ++ m)) := by
  subst hu
  have e : bv (l ++ m) = bv l ++ bv m := by unfold bv; rw [List.map_append]
  rw [e]; exact h
theorem all1 {a : Value} (ha : a.oneCell' = true) : ∀ u ∈ [a], u.oneCell' = true := by
  intro u hu; rw [List.mem_singleton] at hu; rw [hu]; exact ha
theorem all2 {a b : Value} (ha : a.oneCell' = true) (hb : b.oneCell' = true) : ∀ u ∈ [a, b], u.oneCell' = true := by
  intro u hu
  rcases List.mem_cons.1 hu with h | h
  · rw [h]; exact ha
  · rw [List.mem_singleton.1 h]; exact hb
/-- All bytes but those that are written in hexadecimal digits. -/
theorem appendQuoted_plain (w w0 : World) (base : Nat) (v : Value) (l : List UInt8) (c : UInt8) (hown : Own w base 5 v (bv l)) (hlen : l.length ≤ 100000) (hbase : base ≤ w.heap.size) (hB : Below base w0 w) (z : Int) (hz : z = (c.toNat : Int)) (h4 : (c.toNat = 39 ∨ c.toNat = 92 ∨ c.toNat = 10) ∨ ¬ (c.toNat < 32 ∨ 126 < c.toNat)) :
    Calls Try.prog 51 #[v, .int .u8 z] w (AqP w0 base l c) := by
  have HO := Lib.hid hown
  have HZ := Lib.hid hbase
  have HB := Lib.hid hB
  have HL := Lib.hid (show (bv l).length ≤ 100000 by unfold bv; rw [List.length_map]; exact hlen)
  have c255 : c.toNat < 256 := c.toNat_lt
  have h5 := h4
  clear hown hbase hB hlen
  by_cases b1 : c.toNat = 39
  · obtain rfl : c = 39 := UInt8.toNat.inj b1
    obtain rfl : z = 39 := hz
    have HQ := Lib.hid (show qb 39 = [92, 39] from rfl)
    clear c255 b1
    go_enter Try.func51, Try.ntmps51
    go_wp2_with (first | (refine appN rfl (.tmp 12) (.tmp 14) 28 5 (.int .u8 0) 1 rfl Try.underlying28 (by kernel_rfl) rfl (by decide) w w0 [.int .u8 92, .int .u8 39] rfl base v _ rfl rfl HO.out ?_ ?_ HZ.out HB.out ?_; exact all2 rfl rfl; (have := HL.out; simp; omega); intro v3 w3 ho hb3 _; have HT := Lib.hid (show AqP w0 base l 39 (.returned v3) w3 from ⟨v3, rfl, by rw [HQ.out]; exact own_cat ho rfl, hb3⟩); clear ho hb3))
    go_ret
    exact HT.out
  · have d1 : ((c.toNat : Int) == 39) = false := beq_eq_false_iff_ne.2 (by omega)
    by_cases b2 : c.toNat = 92
    · obtain rfl : c = 92 := UInt8.toNat.inj b2
      obtain rfl : z = 92 := hz
      have HQ := Lib.hid (show qb 92 = [92, 92] from rfl)
      clear c255 b1 b2 d1
      go_enter Try.func51, Try.ntmps51
      go_wp2_with (first | (refine appN rfl (.tmp 12) (.tmp 14) 28 5 (.int .u8 0) 1 rfl Try.underlying28 (by kernel_rfl) rfl (by decide) w w0 [.int .u8 92, .int .u8 92] rfl base v _ rfl rfl HO.out ?_ ?_ HZ.out HB.out ?_; exact all2 rfl rfl; (have := HL.out; simp; omega); intro v3 w3 ho hb3 _; have HT := Lib.hid (show AqP w0 base l 92 (.returned v3) w3 from ⟨v3, rfl, by rw [HQ.out]; exact own_cat ho rfl, hb3⟩); clear ho hb3))
      go_ret
      exact HT.out
    · have d2 : ((c.toNat : Int) == 92) = false := beq_eq_false_iff_ne.2 (by omega)
      by_cases b3 : c.toNat = 10
      · obtain rfl : c = 10 := UInt8.toNat.inj b3
        obtain rfl : z = 10 := hz
        have HQ := Lib.hid (show qb 10 = [92, 110] from rfl)
        clear c255 b1 b2 b3 d1 d2
        go_enter Try.func51, Try.ntmps51
        go_wp2_with (first | (refine appN rfl (.tmp 19) (.tmp 20) 28 5 (.int .u8 0) 1 rfl Try.underlying28 (by kernel_rfl) rfl (by decide) w w0 [.int .u8 92, .int .u8 110] rfl base v _ rfl rfl HO.out ?_ ?_ HZ.out HB.out ?_; exact all2 rfl rfl; (have := HL.out; simp; omega); intro v3 w3 ho hb3 _; have HT := Lib.hid (show AqP w0 base l 10 (.returned v3) w3 from ⟨v3, rfl, by rw [HQ.out]; exact own_cat ho rfl, hb3⟩); clear ho hb3))
        go_ret
        exact HT.out
      · have d3 : ((c.toNat : Int) == 10) = false := beq_eq_false_iff_ne.2 (by omega)
        by_cases b4 : c.toNat < 32 ∨ 126 < c.toNat
        · omega
        · subst hz
          have HQ := Lib.hid (show qb c = [c] by unfold qb; rw [if_neg (by omega), if_neg b3, if_neg b4])
          have d4 : ¬ (c.toNat : Int) < 32 := by omega
          have d5 : ¬ 126 < (c.toNat : Int) := by omega
          clear b1 b2 b3 b4
          go_enter Try.func51, Try.ntmps51
          go_wp2_with (first | (refine appN rfl (.tmp 38) (.tmp 40) 28 5 (.int .u8 0) 1 rfl Try.underlying28 (by kernel_rfl) rfl (by decide) w w0 [.int .u8 (c.toNat : Int)] rfl base v _ rfl rfl HO.out ?_ ?_ HZ.out HB.out ?_; exact all1 rfl; (have := HL.out; simp; omega); intro v3 w3 ho hb3 _; have HT := Lib.hid (show AqP w0 base l c (.returned v3) w3 from ⟨v3, rfl, by rw [HQ.out]; exact own_cat ho rfl, hb3⟩); clear ho hb3))
          go_ret
          exact HT.out
end Go.Proofs.Ytdinjoenpiminaa
