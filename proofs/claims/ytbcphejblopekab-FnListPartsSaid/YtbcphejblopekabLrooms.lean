/- Rooms of a list that changes: the model's, the program's. -/
import Derived.Test.YtbcphejblopekabLroom
namespace Go.Proofs.Ytbcphejblopekab
open Go.RowKit
/-- 'append(s, i)'. -/
theorem appI {ops : Array Oper} {rest : List Oper} {o : Oper} {a : Act} {w : World} {Q : Exit → Act → World → Prop} (hgd : o.guard = none) (s x : Operand) (ho : o.op = .call { callee := .builtin .append, args := #[s, x], argTypes := #[33, 33] }) (W : World) (i : Int) (hw : w = W.alloc (.cells #[.int .i64 i] 3)) (base : Nat) (v : Value) (is : List Int) (hs : a.eval s = v) (hx : a.eval x = .slice (some ⟨W.heap.size, 0, none⟩) 1 1)
    (hown : OwI W base v is) (hlen : is.length + 1 ≤ 1000000) (hbase : base ≤ W.heap.size)
    (h : ∀ v' w', OwI w' base v' (is ++ [i]) → Below base W w' → wpList Try.prog ops Q rest (a.put o.dst v') w') : wpList Try.prog ops Q (o :: rest) a w :=
  app1 hgd s x 33 3 (.int .i64 0) 8 ho Try.underlying33 (by kernel_rfl) rfl (by decide) W W (.int .i64 i) hw base v (iv is) hs hx hown rfl (by rw [iv_len]; omega) hbase (Below.refl _ _) (fun v' w' h1 h2 _ => h v' w' (by unfold OwI; rw [iv_app]; exact h1) h2)
theorem okL_long {lo : Int} {is : List Int} (h : 60 < is.length) : okL lo is = false := by unfold okL; rw [decide_eq_false (by omega)]; rfl
theorem okL_short {lo : Int} {is : List Int} (h : is.length ≤ 60) : okL lo is = is.all (okI lo) := by unfold okL; rw [decide_eq_true h]; rfl
set_option maxHeartbeats 1000000 in
theorem areLengths_any (is : List Int) (lo : Int) (v : Value) (w : World) (h : RdI w v is) (hl : is.length ≤ 1048576) :
    Calls Try.prog 59 #[v, .int .i64 lo] w fun e w' => e = .returned (.bool (okL lo is)) ∧ w = w' := by
  obtain ⟨a, cap, rfl, hcap, hnil, hat⟩ := h.sub
  have HA := Lib.hid hat
  clear h hat hnil
  by_cases h60 : 60 < is.length
  · rw [okL_long h60]
    generalize is.length = n at *
    go_enter Try.func59, Try.ntmps59
    go_wp2
    go_ret
    exact ⟨rfl, rfl⟩
  · rw [okL_short (by omega)]
    obtain ⟨n, hn⟩ : ∃ n, n = is.length := ⟨_, rfl⟩
    have HN := Lib.hid hn
    rw [← hn] at hcap hl h60 ⊢
    clear hn
    go_enter Try.func59, Try.ntmps59
    go_wp2_with fail
    go_loop [12] (fun i => ∃ k : Nat, k ≤ n ∧ i = .int .i64 k ∧ Hid ((is.take k).all (okI lo) = true)) (fun i => n - (intOf i).toNat)
    case atStart => exact ⟨0, by omega, rfl, Lib.hid rfl⟩
    case round =>
      obtain ⟨k, hk, rfl, HK⟩ := hrel
      by_cases hlt : k < n
      · obtain ⟨s, hs⟩ : ∃ s, is[k]? = some s := ⟨is[k]'(by have := HN.out; omega), List.getElem?_eq_getElem _⟩
        obtain ⟨x, rfl, c1⟩ := HA.out k s hs
        have k1 : (k : Int) < (n : Int) := by omega
        have k0 : 0 ≤ (k : Int) := by omega
        by_cases h1 : s < lo
        · have HE := Lib.hid (not_all hs (show okI lo s = false by unfold okI; rw [decide_eq_false (by omega)]; rfl))
          clear hs
          go_wp2_with fail
          go_ret
          exact ⟨by rw [HE.out]; rfl, rfl⟩
        · by_cases h2 : 1000000 < s
          · have HE := Lib.hid (not_all hs (show okI lo s = false by unfold okI; rw [decide_eq_false (show ¬ s ≤ 1000000 by omega), Bool.and_false]))
            clear hs
            go_wp2_with fail
            go_ret
            exact ⟨by rw [HE.out]; rfl, rfl⟩
          · have HK2 := Lib.hid (take_all HK.out hs (show okI lo s = true by unfold okI; simp; omega))
            clear hs
            go_wp2_with fail
            go_round
            case rel => exact ⟨k + 1, by omega, by go_num, HK2⟩
            case measure => simp [intOf]; try omega
      · obtain rfl : k = n := by omega
        have HF := Lib.hid (show is.all (okI lo) = true by have := HK.out; rwa [List.take_of_length_le (by rw [HN.out]; exact Nat.le_refl _)] at this)
        clear hlt
        go_wp2_with fail
        go_ret
        exact ⟨by rw [HF.out]; rfl, rfl⟩
/-- A list is answered, in memory of its own. -/
def LiP (R : List Int) (w : World) (e : Ending) (w' : World) : Prop := ∃ v, e = .returned v ∧ OwI w' w.heap.size v R ∧ Below w.heap.size w w'
theorem LiP.nil {w w' : World} (hb : Below w.heap.size w w') : LiP [] w (.returned (.slice none 0 0)) w' := ⟨_, rfl, Own.nil _ _ _, hb⟩
theorem roomsR_no {is : List Int} (h : okL 0 is = false) : roomsR is = [] := by unfold roomsR; rw [h]; rfl
theorem roomsR_ok {is : List Int} (h : okL 0 is = true) : roomsR is = roomsL is := by unfold roomsR; rw [h]; rfl
theorem okL_parts {lo : Int} {is : List Int} (h : okL lo is = true) : is.length ≤ 60 ∧ is.all (okI lo) = true := by unfold okL at h; simpa using h
theorem step_big {r i : Int} (h : r < i) : roomStep r i = roomZ i := by unfold roomStep; rw [if_pos (.inl h)]
theorem step_small {r i : Int} (h : i < r / 2) : roomStep r i = roomZ i := by unfold roomStep; rw [if_pos (.inr h)]
theorem step_same {r i : Int} (h1 : ¬ r < i) (h2 : ¬ i < r / 2) : roomStep r i = r := by unfold roomStep; rw [if_neg (by omega)]
def RmI (w wr : World) (v : Value) (l : List Int) : Prop := Below w.heap.size w wr ∧ OwI wr w.heap.size v l
theorem all_next {is : List Int} {lo : Int} {k : Nat} {s : Int} (h : (is.take k).all (okI lo) = true) (hs : is[k]? = some s) (h0 : lo ≤ s) (h1 : s ≤ 1000000) : (is.take (k + 1)).all (okI lo) = true := take_all h hs (by unfold okI; simp; omega)
theorem rng_no {s : Int} (h : okI 0 s = false) : (decide ((0:Int) ≤ s) && decide (s ≤ 1000000)) = false := h
end Go.Proofs.Ytbcphejblopekab
