/- Entries of a dictionary: as they lie in memory; how many are alive. -/
import Derived.Test.YtplpgcbdbmfffaaDok1
namespace Go.Proofs.Ytplpgcbdbmfffaa
open Go.RowKit
/-- An entry. -/
structure Ent where
  key : ByteArray
  hash : Int
  val : Int
  live : Bool
/-- Its cells. -/
def Ent.row (e : Ent) : Array Value := #[.string e.key, .int .i64 e.hash, .int .i64 e.val, .bool e.live]
/-- Block g begins with these entries. -/
def En (w : World) (g : Nat) (es : List Ent) : Prop := g < w.heap.size ∧ ∀ (j : Nat) (e : Ent), es[j]? = some e → w.cell? ⟨g, j * 4, none⟩ = some (.string e.key) ∧ w.cell? ⟨g, j * 4 + 1, none⟩ = some (.int .i64 e.hash) ∧ w.cell? ⟨g, j * 4 + 2, none⟩ = some (.int .i64 e.val) ∧ w.cell? ⟨g, j * 4 + 3, none⟩ = some (.bool e.live)
/-- The slice of the call's own reads as these entries. -/
def Re (w : World) (a : Option Addr) (es : List Ent) : Prop := (a = none ∧ es = []) ∨ ∃ g, a = some ⟨g, 0, none⟩ ∧ En w g es
theorem En.below {w w' : World} {B g : Nat} {es : List Ent} (h : En w g es) (hb : Below B w w') (hg : g < B) : En w' g es := by
  refine ⟨Nat.lt_of_lt_of_le h.1 hb.size, fun j e hj => ?_⟩
  rw [hb.cell hg, hb.cell hg, hb.cell hg, hb.cell hg]
  exact h.2 j e hj
theorem Re.below {w w' : World} {a : Option Addr} {es : List Ent} (h : Re w a es) (hb : Below w.heap.size w w') : Re w' a es := by
  rcases h with h | ⟨g, h1, h2⟩
  · exact .inl h
  · exact .inr ⟨g, h1, h2.below hb h2.1⟩
theorem Re.at {w : World} {a : Option Addr} {es : List Ent} {k : Nat} (h : Re w a es) (hk : k < es.length) : ∃ g e, a = some ⟨g, 0, none⟩ ∧ es[k]? = some e ∧ g < w.heap.size ∧ w.cell? ⟨g, k * 4, none⟩ = some (.string e.key) ∧ w.cell? ⟨g, k * 4 + 1, none⟩ = some (.int .i64 e.hash) ∧ w.cell? ⟨g, k * 4 + 2, none⟩ = some (.int .i64 e.val) ∧ w.cell? ⟨g, k * 4 + 3, none⟩ = some (.bool e.live) := by
  rcases h with ⟨_, h2⟩ | ⟨g, h1, h2, h3⟩
  · rw [h2] at hk; simp at hk
  · exact ⟨g, es[k], h1, List.getElem?_eq_getElem hk, h2, h3 k _ (List.getElem?_eq_getElem hk)⟩
/-- How many are alive. -/
def liveN (es : List Ent) : Nat := (es.filter (·.live)).length
theorem liveN_next {es : List Ent} {k : Nat} {e : Ent} (h : es[k]? = some e) : liveN (es.take (k + 1)) = liveN (es.take k) + if e.live then 1 else 0 := by
  have hk : k < es.length := by
    rcases Nat.lt_or_ge k es.length with h2 | h2
    · exact h2
    · rw [List.getElem?_eq_none h2] at h; cases h
  rw [List.getElem?_eq_getElem hk] at h
  injection h with h
  unfold liveN
  rw [List.take_succ_eq_append_getElem hk, h, List.filter_append, List.length_append]
  cases hl : e.live <;> simp [List.filter, hl]
theorem liveN_le (es : List Ent) (k : Nat) : liveN (es.take k) ≤ k := by
  unfold liveN
  exact Nat.le_trans (List.length_filter_le _ _) (by rw [List.length_take]; omega)
set_option maxHeartbeats 1000000 in
theorem liveEntries_any (i : Value) (es : List Ent) (a : Option Addr) (cap : Nat) (w : World) (h : Re w a es) (hl : es.length ≤ 1048576) (hi : i.oneCell' = true) :
    Calls Try.prog 71 #[.agg #[i, .slice a es.length cap]] w fun e w' => e = .returned (.int .i64 (liveN es : Int)) ∧ Below w.heap.size w w' := by
  have HR := Lib.hid h
  clear h
  obtain ⟨n, hn⟩ : ∃ n, n = es.length := ⟨_, rfl⟩
  have HN := Lib.hid hn
  rw [← hn] at hl ⊢
  clear hn
  go_enter Try.func71, Try.ntmps71
  go_wp2_with fail
  go_loop [3, 4] (fun v i => ∃ k : Nat, k ≤ n ∧ i = .int .i64 k ∧ v = .int .i64 (liveN (es.take k) : Int)) (fun _ i => n - (intOf i).toNat)
  case atStart => exact ⟨0, by omega, rfl, rfl⟩
  case round =>
    obtain ⟨k, hk, rfl, rfl⟩ := hrel
    by_cases hlt : k < n
    · obtain ⟨g, e, rfl, he, hb, _, _, _, c3⟩ := HR.out.at (show k < es.length by have := HN.out; omega)
      have k1 : (k : Int) < (n : Int) := by omega
      have k0 : 0 ≤ (k : Int) := by omega
      have HV := Lib.hid (liveN_next he)
      have hv1 : (liveN (es.take k) : Int) ≤ 1048576 := by have := liveN_le es k; omega
      have hv0 : 0 ≤ (liveN (es.take k) : Int) := by omega
      clear he
      cases hq : e.live
      · rw [hq] at c3
        go_wp2_with fail
        go_round
        case rel => exact ⟨k + 1, by omega, by go_num, by rw [HV.out, hq]; rfl⟩
        case measure => simp [intOf]; try omega
      · rw [hq] at c3
        go_wp2_with fail
        go_round
        case rel => exact ⟨k + 1, by omega, by go_num, by rw [HV.out, hq]; simp⟩
        case measure => simp [intOf]; try omega
    · obtain rfl : k = n := by omega
      have HF := Lib.hid (show liveN (es.take k) = liveN es by rw [List.take_of_length_le (by rw [HN.out]; exact Nat.le_refl _)])
      clear hlt
      go_wp2_with fail
      go_ret
      exact ⟨by rw [← HF.out]; rfl, (Below.refl _ _).alloc (Nat.le_refl _) _⟩
end Go.Proofs.Ytplpgcbdbmfffaa
