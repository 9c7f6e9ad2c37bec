/- What is read within quotes: the program's TextUnquote. -/
import Derived.Test.YtfmpplolhhjpoaaUq
namespace Go.Proofs.Ytfmpplolhhjpoaa
open Go.RowKit
/-- A text in quotes. -/
def Qt (s : List UInt8) : List UInt8 := 39 :: qs s ++ [39]
theorem Qt_len (s : List UInt8) : 2 ≤ (Qt s).length ∧ (Qt s).length ≤ 4 * s.length + 2 := by
  have := qs_len s
  unfold Qt
  simp
  omega
theorem ext_drop (r : ByteArray) (n : Nat) : (r.extract n r.size).data.toList = r.data.toList.drop n := by
  rw [ByteArray.data_extract, Array.toList_extract]
  simp [List.extract]
  exact List.take_of_length_le (by rw [List.length_drop]; exact Nat.le_refl _)
theorem ext_inner {q : ByteArray} {s : List UInt8} (h : q.data.toList = Qt s) : (q.extract 1 (q.size - 1)).data.toList = qs s := by
  have hl : q.size = (Qt s).length := by rw [← h]; rfl
  rw [ByteArray.data_extract, Array.toList_extract, h, hl]
  unfold Qt
  simp [List.extract]
/-- What TextUnquote answers at q. -/
def UqR (q : ByteArray) (e : Ending) : Prop := (∀ s : List UInt8, s.length ≤ 400 → q.data.toList = Qt s → e = .returned (.tuple #[.string ⟨s.toArray⟩, .bool true])) ∧ ((∀ s : List UInt8, s.length ≤ 400 → q.data.toList ≠ Qt s) → e = .returned (.tuple #[.string ⟨#[]⟩, .bool false]))
def UqF (q : ByteArray) (w : World) (e : Ending) (w' : World) : Prop := UqR q e ∧ Below w.heap.size w w'
theorem uq_none {q : ByteArray} (h : ∀ s : List UInt8, s.length ≤ 400 → q.data.toList ≠ Qt s) : UqR q (.returned (.tuple #[.string ⟨#[]⟩, .bool false])) := ⟨fun s h1 h2 => absurd h2 (h s h1), fun _ => rfl⟩
/-- While it is read: t is read, r is left. -/
def UqI (w : World) (q : ByteArray) (wr : World) (r : ByteArray) (t : List UInt8) (v : Value) : Prop := Own wr w.heap.size 5 v (bv t) ∧ Below w.heap.size w wr ∧ ∀ s : List UInt8, q.data.toList = Qt s → ∃ k, k ≤ s.length ∧ t = s.take k ∧ r.data.toList = qs (s.drop k)
theorem qs_cons (b : UInt8) (l : List UInt8) : qs (b :: l) = qb b ++ qs l := rfl
theorem drop_more {s : List UInt8} {k : Nat} (h : qs (s.drop k) ≠ []) : ∃ b, s[k]? = some b ∧ s.drop k = b :: s.drop (k + 1) := by
  have hk : k < s.length := by
    rcases Nat.lt_or_ge k s.length with h1 | h1
    · exact h1
    · rw [List.drop_eq_nil_of_le h1] at h; exact absurd rfl h
  exact ⟨s[k], List.getElem?_eq_getElem hk, List.drop_eq_getElem_cons hk⟩
theorem take_more {s : List UInt8} {k : Nat} {b : UInt8} (h : s[k]? = some b) : s.take (k + 1) = s.take k ++ [b] ∧ k < s.length := by
  have hk : k < s.length := by
    rcases Nat.lt_or_ge k s.length with h1 | h1
    · exact h1
    · rw [List.getElem?_eq_none h1] at h; cases h
  rw [List.getElem?_eq_getElem hk] at h
  injection h with h
  exact ⟨by rw [List.take_succ_eq_append_getElem hk, h], hk⟩
theorem uqi_next {w wr w' : World} {q r : ByteArray} {t : List UInt8} {v v' : Value} {c : UInt8} {n : Nat} (h : UqI w q wr r t v) (hr : 0 < r.size) (hd : Rdq r.data.toList c n) (ho : Own w' w.heap.size 5 v' (bv (t ++ [c]))) (hb : Below w.heap.size w w') : UqI w q w' (r.extract n r.size) (t ++ [c]) v' := by
  refine ⟨ho, hb, fun s hs => ?_⟩
  obtain ⟨k, hk, ht, hl⟩ := h.2.2 s hs
  have hne : qs (s.drop k) ≠ [] := by
    rw [← hl]
    intro h0
    have h1 : r.data.toList.length = r.size := rfl
    rw [h0] at h1
    simp at h1; omega
  obtain ⟨b, hb1, hb2⟩ := drop_more hne
  obtain ⟨t1, t2⟩ := take_more hb1
  rw [hb2, qs_cons] at hl
  obtain ⟨rfl, rfl⟩ := hd b _ hl
  exact ⟨k + 1, t2, by rw [t1, ht], by rw [ext_drop, hl, List.drop_left]⟩
theorem uqi_end {w wr : World} {q r : ByteArray} {t : List UInt8} {v : Value} (h : UqI w q wr r t v) (hr : r.size = 0) : ∀ s : List UInt8, q.data.toList = Qt s → t = s := by
  intro s hs
  obtain ⟨k, hk, ht, hl⟩ := h.2.2 s hs
  by_cases hne : qs (s.drop k) = []
  · rcases Nat.lt_or_ge k s.length with h1 | h1
    · exfalso
      rw [List.drop_eq_getElem_cons h1, qs_cons] at hne
      rcases qb_cases s[k] with ⟨q1, _⟩ | ⟨q1, _⟩ | ⟨q1, _⟩ | q1
      all_goals rw [q1] at hne; simp at hne
    · rw [ht, List.take_of_length_le h1]
  · rw [← hl] at hne
    exact absurd (List.eq_nil_of_length_eq_zero hr) hne
theorem uq_yes {q : ByteArray} {t : List UInt8} (h : ∀ s : List UInt8, q.data.toList = Qt s → t = s) (hq : quV ⟨t.toArray⟩ = q) (h2 : 2 ≤ q.size) : UqR q (.returned (.tuple #[.string ⟨t.toArray⟩, .bool true])) := by
  refine ⟨fun s _ hs => by rw [h s hs], fun hn => ?_⟩
  unfold quV at hq
  by_cases hok : okT ⟨t.toArray⟩ = true
  · rw [if_pos hok] at hq
    refine absurd ?_ (hn t (by unfold okT at hok; simpa [ByteArray.size] using hok))
    rw [← hq]; rfl
  · rw [if_neg hok] at hq
    rw [← hq] at h2
    simp [ByteArray.size] at h2
theorem uq_no {q : ByteArray} {t : List UInt8} (h : ∀ s : List UInt8, q.data.toList = Qt s → t = s) (hq : quV ⟨t.toArray⟩ ≠ q) : UqR q (.returned (.tuple #[.string ⟨#[]⟩, .bool false])) := by
  refine uq_none fun s h4 hs => hq ?_
  rw [h s hs]
  unfold quV
  rw [if_pos (by unfold okT; simpa [ByteArray.size] using h4)]
  apply ByteArray.ext
  apply Array.toList_inj.1
  rw [hs]; rfl
set_option maxHeartbeats 2000000 in
theorem implUnq_any (q : ByteArray) (w : World) (hs : q.size ≤ 1048576) : Calls Try.prog 23 #[.string q] w (UqF q w) := by
  by_cases h2 : 2 ≤ q.size
  · have HIn := Lib.hid (fun s (h : q.data.toList = Qt s) => ext_inner h)
    have hsz : (q.extract 1 (q.size - 1)).size = q.size - 1 - 1 := by simp
    have HSz := Lib.hid hsz
    clear hsz
    go_enter Try.func23, Try.ntmps23
    go_wp2_with fail
    have HI0 := Lib.hid (show UqI w q w (q.extract 1 (q.size - 1)) [] (.slice none 0 0) from ⟨Own.nil _ _ _, Below.refl _ _, fun s h => ⟨0, Nat.zero_le _, rfl, HIn.out s h⟩⟩)
    go_loopw [4, 5] (fun v z wr => ∃ (r : ByteArray) (t : List UInt8), z = .string r ∧ r.size + t.length ≤ q.size ∧ Hid (UqI w q wr r t v)) (fun _ z _ => match z with | .string r => r.size | _ => 0)
    case atStart => exact ⟨_, [], rfl, by rw [HSz.out]; simp; omega, HI0⟩
    case round =>
      obtain ⟨r, t, rfl, hrt, HI⟩ := hrel
      have HZ := Lib.hid (show w.heap.size ≤ wr.heap.size from HI.out.2.1.size)
      have HL := Lib.hid (show (bv t).length ≤ 2000000 by unfold bv; rw [List.length_map]; omega)
      by_cases h0 : 0 < r.size
      · have hne : (r.toList == []) = false := toList_ne h0
        go_wp2_with fail
        refine (readQuoted_any r wr h0 (by omega)).mono ?_
        rintro e w3 ⟨c, n, rfl, hn1, hn2, hd, rfl⟩
        have hlen : r.data.toList.length = r.size := rfl
        have hn3 : n ≤ r.size := by omega
        have HD := Lib.hid hd
        clear hd hlen hn2
        go_wp2_with (first | (refine ext rfl (.tmp 19) 0 [.int .u8 (c.toNat : Int), .int .i64 (n : Int)] (.int .u8 (c.toNat : Int)) rfl rfl rfl ?_) | (refine ext rfl (.tmp 19) 1 [.int .u8 (c.toNat : Int), .int .i64 (n : Int)] (.int .i64 (n : Int)) rfl rfl rfl ?_) | (refine app1 rfl (.tmp 24) (.tmp 26) 33 5 (.int .u8 0) 1 rfl Try.underlying33 (by kernel_rfl) rfl (by decide) wr w _ rfl w.heap.size _ _ rfl rfl HI.out.1 rfl ?_ HZ.out HI.out.2.1 ?_; (have := HL.out; omega); intro v3 w3 ho hb3 _; have HT := Lib.hid (show UqI w q w3 (r.extract n r.size) (t ++ [c]) v3 from uqi_next HI.out h0 HD.out (own_cat (m := [c]) ho rfl) hb3); clear ho hb3))
        go_roundw
        case rel => exact ⟨r.extract n r.size, t ++ [c], rfl, by simp; omega, HT⟩
        case measure => simp; omega
      · have hz : r.size = 0 := by omega
        have he : (r.toList == []) = true := toList_nil hz
        have HE := Lib.hid (uqi_end HI.out hz)
        have H2 := Lib.hid h2
        have HQ := Lib.hid (fun w => implQuote_any ⟨t.toArray⟩ w (by simp [ByteArray.size]; omega))
        clear h0 hz
        go_wp2_with (first | (refine (puts_text 33 9 5 (.tmp 31) rfl Try.underlying33 Try.underlying5 Try.underlying9 w.heap.size _ t rfl HI.out.1).gives.plain rfl ?_))
        refine (HQ.out _).mono ?_
        rintro e w3 ⟨rfl, hb3⟩
        have HB3 := Lib.hid (HI.out.2.1.trans (hb3.mono HZ.out))
        clear hb3
        by_cases hq : quV ⟨t.toArray⟩ = q
        · have HR := Lib.hid (uq_yes HE.out hq H2.out)
          rw [hq]
          clear hq
          go_wp2_with fail
          go_ret2
          exact ⟨HR.out, HB3.out⟩
        · have HR := Lib.hid (uq_no HE.out hq)
          obtain ⟨u, hu⟩ : ∃ u, u = quV ⟨t.toArray⟩ := ⟨_, rfl⟩
          rw [← hu] at hq ⊢
          clear hu
          have hqf : (u.toList == q.toList) = false := beq_eq_false_iff_ne.2 (fun e => hq (by rw [ByteArray.toList_eq, ByteArray.toList_eq] at e; exact ByteArray.ext (Array.toList_inj.1 e)))
          clear hq
          go_wp2_with fail
          go_ret2
          exact ⟨HR.out, HB3.out⟩
  · have HR := Lib.hid (show UqR q (.returned (.tuple #[.string ⟨#[]⟩, .bool false])) from uq_none fun s _ h => by
      have h1 := (Qt_len s).1
      rw [← h] at h1
      have h3 : q.data.toList.length = q.size := rfl
      omega)
    have h2' : q.size < 2 := by omega
    clear h2
    go_enter Try.func23, Try.ntmps23
    go_wp2_with fail
    go_ret2
    exact ⟨HR.out, Below.refl _ _⟩
end Go.Proofs.Ytfmpplolhhjpoaa
