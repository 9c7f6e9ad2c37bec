/- Texts: how long they may be; lists of texts; bytes made into texts; texts put together. -/
import Derived.Test.YtemliekmodnjkaaBytes
import Derived.Laws.Concat
namespace Go.Proofs.Ytemliekmodnjkaa
open Go.RowKit
/-- A text can be a value. -/
def okT (s : ByteArray) : Bool := decide (s.size ≤ 400)
/-- The slice v holds these texts. -/
def RdS (w : World) (v : Value) (ss : List ByteArray) : Prop := ∃ g cap, v = .slice (some ⟨g, 0, none⟩) ss.length cap ∧ ∀ (j : Nat) (s : ByteArray), ss[j]? = some s → w.cell? ⟨g, j, none⟩ = some (.string s)
theorem RdS.one (w : World) (s : ByteArray) : RdS (w.alloc (.cells #[.string s] 9)) (.slice (some ⟨w.heap.size, 0, none⟩) 1 1) [s] := by
  refine ⟨w.heap.size, 1, rfl, fun j t hj => ?_⟩
  cases j with
  | zero => simp at hj; subst hj; rw [World.cell?_alloc_at _ _ _ _ rfl]; rfl
  | succ j => simp at hj
theorem RdS.two (w : World) (s t : ByteArray) : RdS (w.alloc (.cells #[.string s, .string t] 9)) (.slice (some ⟨w.heap.size, 0, none⟩) 2 2) [s, t] := by
  refine ⟨w.heap.size, 2, rfl, fun j u hj => ?_⟩
  match j, hj with
  | 0, hj => simp at hj; subst hj; rw [World.cell?_alloc_at _ _ _ _ rfl]; rfl
  | 1, hj => simp at hj; subst hj; rw [World.cell?_alloc_at _ _ _ _ rfl]; rfl
  | j + 2, hj => simp at hj
theorem take_all {α : Type} {p : α → Bool} {l : List α} {k : Nat} {x : α} (h : (l.take k).all p = true) (hx : l[k]? = some x) (hp : p x = true) : (l.take (k + 1)).all p = true := by
  have hk : k < l.length := by
    rcases Nat.lt_or_ge k l.length with h1 | h1
    · exact h1
    · rw [List.getElem?_eq_none h1] at hx; cases hx
  rw [List.getElem?_eq_getElem hk] at hx
  injection hx with hx
  rw [List.take_succ_eq_append_getElem hk, List.all_append, h, hx]
  simp [hp]
theorem not_all {α : Type} {p : α → Bool} {l : List α} {k : Nat} {x : α} (hx : l[k]? = some x) (hp : p x = false) : l.all p = false := by
  rw [List.all_eq_false]
  refine ⟨x, List.mem_of_getElem? hx, by rw [hp]; simp⟩
set_option maxHeartbeats 400000 in
theorem areTexts_any (ss : List ByteArray) (v : Value) (w : World) (h : RdS w v ss) (hl : ss.length ≤ 1000) :
    Calls Try.prog 97 #[v] w fun e w' => e = .returned (.bool (ss.all okT)) ∧ w = w' := by
  obtain ⟨g, cap, rfl, hr⟩ := h
  have HR := Lib.hid hr
  clear hr
  generalize hn : ss.length = n at *
  have HN := Lib.hid hn
  clear hn
  go_enter Try.func97, Try.ntmps97
  go_wp2
  go_loop [7] (fun i => ∃ k : Nat, k ≤ n ∧ i = .int .i64 k ∧ Hid ((ss.take k).all okT = true)) (fun i => n - (intOf i).toNat)
  case atStart => exact ⟨0, by omega, rfl, Lib.hid rfl⟩
  case round =>
    obtain ⟨k, hk, rfl, HK⟩ := hrel
    by_cases hlt : k < n
    · obtain ⟨s, hs⟩ : ∃ s, ss[k]? = some s := ⟨ss[k]'(by have := HN.out; omega), List.getElem?_eq_getElem _⟩
      have c1 := HR.out k s hs
      by_cases h4 : s.size ≤ 400
      · have HK2 := Lib.hid (take_all HK.out hs (show okT s = true by unfold okT; simpa using h4))
        clear hs
        go_wp2
        go_round
        case rel => exact ⟨k + 1, by omega, by go_num, HK2⟩
        case measure => simp [intOf]; try omega
      · have HE := Lib.hid (not_all hs (show okT s = false by unfold okT; simpa using h4))
        have h4' : 400 < s.size := by omega
        clear hs h4
        go_wp2
        go_ret
        exact ⟨by rw [HE.out]; rfl, rfl⟩
    · obtain rfl : k = n := by omega
      have HE := Lib.hid (show ss.all okT = true by have := HK.out; rwa [List.take_of_length_le (by rw [HN.out]; exact Nat.le_refl _)] at this)
      clear hlt
      go_wp2
      go_ret
      exact ⟨by rw [HE.out]; rfl, rfl⟩
set_option maxHeartbeats 400000 in
theorem validText_any (s : ByteArray) (w : World) (hs : s.size ≤ 1048576) : Calls Try.prog 76 #[.string s] w fun e w' => e = .returned (.bool (okT s)) ∧ w = w' := by
  have HE := Lib.hid (show okT s = decide ((s.size : Int) ≤ 400) by unfold okT; rw [decide_eq_decide]; omega)
  go_enter Try.func76, Try.ntmps76
  go_wp2
  go_ret
  exact ⟨by rw [HE.out]; rfl, rfl⟩
/-- A literal of one byte. -/
theorem lit8 (w : World) (z : Int) (c : UInt8) (h : z = (c.toNat : Int)) : Own (w.alloc (.cells #[.int .u8 z] 5)) w.heap.size 5 (.slice (some ⟨w.heap.size, 0, none⟩) 1 1) (([c] : List UInt8).map fun c => Value.int .u8 (c.toNat : Int)) := by
  subst h
  exact World.ownsRow_lit w #[.int .u8 (c.toNat : Int)] 1 (Nat.le_refl _) (by decide) rfl
/-- A text of one byte out of a longer one. -/
theorem ext_one (s : ByteArray) (p : Nat) (h : p < s.size) : s.extract p (p + 1) = ⟨#[s[p]]⟩ := by
  apply ByteArray.ext
  rw [ByteArray.data_extract]
  apply Array.ext
  · simp; have : s.data.size = s.size := rfl; omega
  · intro i h1 h2
    simp at h2
    subst h2
    simp; rfl
section
variable {P : Program} {o : Oper} {a : Act} {w : World}
/-- Two texts, one behind the other. -/
theorem puts_cat (T T' : TypeId) (x y : Operand) (ho : o.op = .binOp .add T x y T') (s t : ByteArray) (hx : a.eval x = .string s) (hy : a.eval y = .string t) (hl : s.size + t.size ≤ 9223372036854775807) : Puts P o a w (.string (s ++ t)) := by
  have h := run_string_add_sum (P := P) w s t hl
  unfold Puts execOp
  simp only [ho, hx, hy]
  simp [eqGuard, go_sem, h]
end
end Go.Proofs.Ytemliekmodnjkaa
