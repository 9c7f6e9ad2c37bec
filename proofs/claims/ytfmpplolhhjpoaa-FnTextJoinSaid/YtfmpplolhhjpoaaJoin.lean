/- Texts joined: the model's, the program's, the law. -/
import Derived.Test.YtfmpplolhhjpoaaStrs
import Derived.Test.YtfmpplolhhjpoaaQuo
namespace Go.Proofs.Ytfmpplolhhjpoaa
open Go.RowKit
/-- The first k texts with a part between them. -/
def jn (ss : List ByteArray) (p : List UInt8) : Nat → List UInt8
  | 0 => []
  | k + 1 => (if k = 0 then [] else jn ss p k ++ p) ++ (ss.getD k ⟨#[]⟩).data.toList
theorem jn_one {ss : List ByteArray} {p : List UInt8} {s : ByteArray} (h : ss[0]? = some s) : jn ss p 1 = s.data.toList := by
  unfold jn
  rw [if_pos rfl, List.getD_eq_getElem?_getD, h]; rfl
theorem jn_more {ss : List ByteArray} {p : List UInt8} {s : ByteArray} {k : Nat} (h : ss[k]? = some s) (h0 : 0 < k) : jn ss p (k + 1) = jn ss p k ++ p ++ s.data.toList := by
  show (if k = 0 then [] else jn ss p k ++ p) ++ (ss.getD k ⟨#[]⟩).data.toList = _
  rw [if_neg (by omega), List.getD_eq_getElem?_getD, h]; rfl
theorem jn_le (ss : List ByteArray) (p : List UInt8) (k : Nat) : (jn ss p k).length ≤ (jn ss p (k + 1)).length := by
  show _ ≤ ((if k = 0 then [] else jn ss p k ++ p) ++ (ss.getD k ⟨#[]⟩).data.toList).length
  by_cases h : k = 0
  · subst h; simp [jn]
  · rw [if_neg h]; simp
theorem jn_mono (ss : List ByteArray) (p : List UInt8) {k m : Nat} (h : k ≤ m) : (jn ss p k).length ≤ (jn ss p m).length := by
  induction m with
  | zero => obtain rfl : k = 0 := by omega
            exact Nat.le_refl _
  | succ m ih =>
    by_cases h1 : k = m + 1
    · subst h1; exact Nat.le_refl _
    · exact Nat.le_trans (ih (by omega)) (jn_le ss p m)
theorem jn_has {ss : List ByteArray} {p : List UInt8} {s : ByteArray} {k : Nat} (h : ss[k]? = some s) : s.size ≤ (jn ss p (k + 1)).length := by
  have e : s.size = s.data.toList.length := rfl
  by_cases h0 : k = 0
  · subst h0; rw [jn_one h, e]; exact Nat.le_refl _
  · rw [jn_more h (by omega), e]; simp; omega
theorem size_arr (l : List UInt8) : (⟨l.toArray⟩ : ByteArray).size = l.length := by show l.toArray.size = _; simp
/-- What TextJoin answers. -/
def jOk (ss : List ByteArray) (p : ByteArray) : Prop := ss.length ≤ 401 ∧ p.size ≤ 400 ∧ (jn ss p.data.toList ss.length).length ≤ 400
def JnR (ss : List ByteArray) (p : ByteArray) (e : Ending) : Prop := (jOk ss p → e = .returned (.tuple #[.string ⟨(jn ss p.data.toList ss.length).toArray⟩, .bool true])) ∧ (¬ jOk ss p → e = .returned (.tuple #[.string ⟨#[]⟩, .bool false]))
theorem jn_no {ss : List ByteArray} {p : ByteArray} (h : ¬ jOk ss p) : JnR ss p (.returned (.tuple #[.string ⟨#[]⟩, .bool false])) := ⟨fun h2 => absurd h2 h, fun _ => rfl⟩
def JnF (ss : List ByteArray) (p : ByteArray) (w : World) (e : Ending) (w' : World) : Prop := JnR ss p e ∧ Below w.heap.size w w'
theorem get_lt {α : Type} {l : List α} {k : Nat} {x : α} (h : l[k]? = some x) : k < l.length := by
  rcases Nat.lt_or_ge k l.length with h1 | h1
  · exact h1
  · rw [List.getElem?_eq_none h1] at h; cases h
theorem cat_bytes (l : List UInt8) (s : ByteArray) : (⟨l.toArray⟩ ++ s : ByteArray) = ⟨(l ++ s.data.toList).toArray⟩ := by apply ByteArray.ext; simp
set_option maxHeartbeats 1000000 in
theorem textJoin_any (ss : List ByteArray) (p : ByteArray) (g cap : Nat) (w : World) (h : Cp w g ss) (hl : ss.length ≤ 401) (hj : (jn ss p.data.toList ss.length).length ≤ 400) (hp : p.size ≤ 400) :
    Calls Try.prog 49 #[.slice (some ⟨g, 0, none⟩) ss.length cap, .string p] w fun e w' => e = .returned (.string ⟨(jn ss p.data.toList ss.length).toArray⟩) ∧ w = w' := by
  have HC := Lib.hid h
  have HJ := Lib.hid (fun k (hk : k ≤ ss.length) => Nat.le_trans (jn_mono ss p.data.toList hk) hj)
  clear h hj
  obtain ⟨n, hn⟩ : ∃ n, n = ss.length := ⟨_, rfl⟩
  have HN := Lib.hid hn
  rw [← hn] at hl ⊢
  clear hn
  go_enter Try.func49, Try.ntmps49
  go_wp2_with fail
  go_loop [5, 6] (fun v i => ∃ k : Nat, k ≤ n ∧ i = .int .i64 k ∧ v = .string ⟨(jn ss p.data.toList k).toArray⟩) (fun _ i => n - (intOf i).toNat)
  case atStart => exact ⟨0, by omega, rfl, rfl⟩
  case round =>
    obtain ⟨k, hk, rfl, rfl⟩ := hrel
    by_cases hlt : k < n
    · obtain ⟨s, hs⟩ : ∃ s, ss[k]? = some s := ⟨ss[k]'(by have := HN.out; omega), List.getElem?_eq_getElem _⟩
      have c1 : w.cell? ⟨g, k, none⟩ = some (.string s) := HC.out k s hs
      have hsz : s.size ≤ 400 := Nat.le_trans (jn_has (p := p.data.toList) hs) (HJ.out (k + 1) (by have := HN.out; omega))
      have hLn : (jn ss p.data.toList k).length ≤ 400 := HJ.out k (by have := HN.out; omega)
      by_cases h0 : k = 0
      · subst h0
        have HS := Lib.hid (jn_one (p := p.data.toList) hs)
        have HQ := Lib.hid (show (⟨(jn ss p.data.toList 0).toArray⟩ : ByteArray) ++ s = ⟨(jn ss p.data.toList (0 + 1)).toArray⟩ by rw [cat_bytes, show jn ss p.data.toList (0 + 1) = s.data.toList from HS.out]; rfl)
        have HL := Lib.hid (show (⟨(jn ss p.data.toList 0).toArray⟩ : ByteArray).size + s.size ≤ 9223372036854775807 by rw [size_arr]; have h6 : (jn ss p.data.toList 0).length = 0 := rfl; omega)
        clear hs hLn
        go_wp2_with (first | (refine (puts_cat 9 9 (.tmp 18) (.tmp 22) rfl _ s rfl rfl HL.out).gives.plain rfl ?_; rw [HQ.out]))
        go_round
        case rel => exact ⟨0 + 1, by omega, by go_num, rfl⟩
        case measure => simp [intOf]; try omega
      · have h0' : 0 < (k : Int) := by omega
        have HS := Lib.hid (jn_more (p := p.data.toList) hs (by omega))
        obtain ⟨L, hL⟩ : ∃ L, L = jn ss p.data.toList k := ⟨_, rfl⟩
        rw [← hL] at hLn ⊢
        have HQ1 := Lib.hid (cat_bytes L p)
        have HQ2 := Lib.hid (show (⟨(L ++ p.data.toList).toArray⟩ : ByteArray) ++ s = ⟨(jn ss p.data.toList (k + 1)).toArray⟩ by rw [cat_bytes, HS.out, hL])
        have hpl : p.data.toList.length = p.size := rfl
        have HL1 := Lib.hid (show (⟨L.toArray⟩ : ByteArray).size + p.size ≤ 9223372036854775807 by rw [size_arr]; omega)
        have HL2 := Lib.hid (show (⟨(L ++ p.data.toList).toArray⟩ : ByteArray).size + s.size ≤ 9223372036854775807 by rw [size_arr, List.length_append]; omega)
        clear hs hLn hL h0 hpl
        go_wp2_with (first | (refine (puts_cat 9 9 (.tmp 15) (.tmp 16) rfl _ p rfl rfl HL1.out).gives.plain rfl ?_; rw [HQ1.out]) | (refine (puts_cat 9 9 (.tmp 18) (.tmp 22) rfl _ s rfl rfl HL2.out).gives.plain rfl ?_; rw [HQ2.out]))
        go_round
        case rel => exact ⟨k + 1, by omega, by go_num, rfl⟩
        case measure => simp [intOf]; try omega
    · obtain rfl : k = n := by omega
      clear hlt
      go_wp2_with fail
      go_ret
      exact ⟨rfl, rfl⟩
/-- How long so many texts are together, with the part between them. -/
theorem jn_len_one {ss : List ByteArray} {p : ByteArray} {s : ByteArray} (h : ss[0]? = some s) : (jn ss p.data.toList 1).length = s.size := by rw [jn_one h]; rfl
theorem jn_len_more {ss : List ByteArray} {p : ByteArray} {s : ByteArray} {k : Nat} (h : ss[k]? = some s) (h0 : 0 < k) : (jn ss p.data.toList (k + 1)).length = (jn ss p.data.toList k).length + p.size + s.size := by
  rw [jn_more h h0, List.length_append, List.length_append]; rfl
set_option maxHeartbeats 2000000 in
theorem specJoin_any (ss : List ByteArray) (p : ByteArray) (g cap : Nat) (w : World) (h : Cp w g ss) (hl : ss.length ≤ 1048576) (hz : Le ss 1048576) (hp : p.size ≤ 1048576) :
    Calls Try.prog 18 #[.slice (some ⟨g, 0, none⟩) ss.length cap, .string p] w (JnF ss p w) := by
  have HC := Lib.hid h
  have HS := Lib.hid hz
  clear h hz
  by_cases h4 : ss.length ≤ 401
  · have HV := Lib.hid (fun w => validText_any p w hp)
    by_cases hpp : p.size ≤ 400
    · rw [show okT p = true by unfold okT; simpa using hpp] at HV
      have HJ := Lib.hid (fun hj => textJoin_any ss p g cap w HC.out h4 hj hpp)
      have HO := Lib.hid (show jOk ss p ↔ (jn ss p.data.toList ss.length).length ≤ 400 from ⟨fun h => h.2.2, fun h => ⟨h4, hpp, h⟩⟩)
      obtain ⟨n, hn⟩ : ∃ n, n = ss.length := ⟨_, rfl⟩
      have HN := Lib.hid hn
      rw [← hn] at h4 HJ HO hl ⊢
      clear hn
      go_enter Try.func18, Try.ntmps18
      go_wp2_with fail
      refine (HV.out _).mono ?_
      rintro e w' ⟨rfl, rfl⟩
      go_wp2_with fail
      go_loop [6, 7] (fun v i => ∃ (k m : Nat), k ≤ n ∧ i = .int .i64 k ∧ v = .int .i64 (m : Int) ∧ m ≤ 800 * k ∧ Hid ((jn ss p.data.toList k).length = m)) (fun _ i => n - (intOf i).toNat)
      case atStart => exact ⟨0, 0, by omega, rfl, rfl, by omega, Lib.hid rfl⟩
      case round =>
        obtain ⟨k, m, hk, rfl, rfl, hm, HK⟩ := hrel
        by_cases hlt : k < n
        · obtain ⟨s, hs⟩ : ∃ s, ss[k]? = some s := ⟨ss[k]'(by have := HN.out; omega), List.getElem?_eq_getElem _⟩
          have c1 : w.cell? ⟨g, k, none⟩ = some (.string s) := HC.out k s hs
          have hs1 := HS.out s (List.mem_of_getElem? hs)
          have HVs := Lib.hid (fun w => validText_any s w hs1)
          by_cases hs4 : s.size ≤ 400
          · rw [show okT s = true by unfold okT; simpa using hs4] at HVs
            by_cases h0 : k = 0
            · subst h0
              have HL := Lib.hid (show (jn ss p.data.toList (0 + 1)).length = m + s.size by
                have h5 := HK.out
                have h6 : (jn ss p.data.toList 0).length = 0 := rfl
                rw [jn_len_one hs]; omega)
              clear hs
              go_wp2_with fail
              refine (HVs.out _).mono ?_
              rintro e w' ⟨rfl, rfl⟩
              go_wp2_with fail
              go_round
              case rel => exact ⟨0 + 1, m + s.size, by omega, by go_num, by go_num, by omega, HL⟩
              case measure => simp [intOf]; try omega
            · have h0' : 0 < (k : Int) := by omega
              have HL := Lib.hid (show (jn ss p.data.toList (k + 1)).length = m + s.size + p.size by
                have h5 := HK.out
                rw [jn_len_more hs (by omega)]; omega)
              clear hs h0
              go_wp2_with fail
              refine (HVs.out _).mono ?_
              rintro e w' ⟨rfl, rfl⟩
              go_wp2_with fail
              go_round
              case rel => exact ⟨k + 1, m + s.size + p.size, by omega, by go_num, by go_num, by omega, HL⟩
              case measure => simp [intOf]; try omega
          · rw [show okT s = false by unfold okT; simpa using hs4] at HVs
            have HF := Lib.hid (jn_no (ss := ss) (p := p) (fun h => hs4 (Nat.le_trans (jn_has hs) (Nat.le_trans (jn_mono ss p.data.toList (by have := HN.out; omega)) (HO.out.1 h)))))
            clear hs hs4
            go_wp2_with fail
            refine (HVs.out _).mono ?_
            rintro e w' ⟨rfl, rfl⟩
            go_wp2_with fail
            go_ret2
            exact ⟨HF.out, Below.refl _ _⟩
        · obtain rfl : k = n := by omega
          by_cases h5 : m ≤ 400
          · have HJ2 := Lib.hid (HJ.out (by rw [HK.out]; exact h5))
            have HF := Lib.hid (show JnR ss p (.returned (.tuple #[.string ⟨(jn ss p.data.toList ss.length).toArray⟩, .bool true])) from ⟨fun _ => rfl, fun h => absurd (HO.out.2 (by rw [HK.out]; exact h5)) h⟩)
            rw [← HN.out] at HF
            generalize jn ss p.data.toList k = L at HJ2 HF
            clear hlt
            go_wp2_with fail
            refine HJ2.out.mono ?_
            rintro e w' ⟨rfl, rfl⟩
            go_wp2_with fail
            go_ret2
            exact ⟨HF.out, Below.refl _ _⟩
          · have HF := Lib.hid (jn_no (ss := ss) (p := p) (fun h => h5 (by rw [← HK.out]; exact HO.out.1 h)))
            have h5' : 400 < (m : Int) := by omega
            clear hlt h5
            go_wp2_with fail
            go_ret2
            exact ⟨HF.out, Below.refl _ _⟩
    · rw [show okT p = false by unfold okT; simpa using hpp] at HV
      have HF := Lib.hid (jn_no (ss := ss) (p := p) (fun h => hpp h.2.1))
      clear hpp
      go_enter Try.func18, Try.ntmps18
      go_wp2_with fail
      refine (HV.out _).mono ?_
      rintro e w' ⟨rfl, rfl⟩
      go_wp2_with fail
      go_ret2
      exact ⟨HF.out, Below.refl _ _⟩
  · have HF := Lib.hid (jn_no (ss := ss) (p := p) (fun h => h4 h.1))
    have h4' : 401 < (ss.length : Int) := by omega
    clear h4
    go_enter Try.func18, Try.ntmps18
    go_wp2_with fail
    go_ret2
    exact ⟨HF.out, Below.refl _ _⟩
end Go.Proofs.Ytfmpplolhhjpoaa
