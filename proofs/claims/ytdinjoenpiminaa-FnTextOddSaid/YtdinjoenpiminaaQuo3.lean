/- The program's TextQuote, the model's, the law. -/
import Derived.Test.YtdinjoenpiminaaHex
import Derived.Test.YtdinjoenpiminaaQuo2
namespace Go.Proofs.Ytdinjoenpiminaa
open Go.RowKit
def quV (s : ByteArray) : ByteArray := if okT s then ⟨(39 :: qs s.data.toList ++ [39]).toArray⟩ else ⟨#[]⟩
set_option maxHeartbeats 1000000 in
theorem specQuote_any (s : ByteArray) (w : World) (hs : s.size ≤ 1048576) : Calls Try.prog 24 #[.string s] w fun e w' => e = .returned (.string (quV s)) ∧ Below w.heap.size w w' := by
  have HV := Lib.hid (fun w => validText_any s w hs)
  cases hok : okT s with
  | false =>
    have HE := Lib.hid (show quV s = ⟨#[]⟩ by unfold quV; rw [hok]; rfl)
    rw [HE.out]
    rw [hok] at HV
    clear hok
    go_enter Try.func24, Try.ntmps24
    go_wp2_with (first | (go_at_call 37; refine (HV.out _).mono ?_; rintro e w' ⟨rfl, rfl⟩))
    go_ret
    exact ⟨rfl, Below.refl _ _⟩
  | true =>
    have HE := Lib.hid (show quV s = ⟨(39 :: qs s.data.toList ++ [39]).toArray⟩ by unfold quV; rw [hok]; rfl)
    rw [HE.out]
    have HQ := Lib.hid (fun w => quoted_any s w (by unfold okT at hok; simpa using hok))
    rw [hok] at HV
    clear hok
    generalize (39 :: qs s.data.toList ++ [39]) = L at *
    go_enter Try.func24, Try.ntmps24
    go_wp2_with (first | (go_at_call 37; refine (HV.out _).mono ?_; rintro e w' ⟨rfl, rfl⟩) | (go_at_call 52; refine (HQ.out _).mono ?_; rintro e w1 ⟨rfl, hb⟩; have HB1 := Lib.hid hb; clear hb))
    go_ret
    exact ⟨rfl, HB1.out⟩
def QtI (w1 wr : World) (l : List UInt8) (v : Value) : Prop := Own wr w1.heap.size 5 v (bv l) ∧ Below w1.heap.size w1 wr
set_option maxHeartbeats 2000000 in
theorem implQuote_any (s : ByteArray) (w : World) (_hs : s.size ≤ 1048576) : Calls Try.prog 23 #[.string s] w fun e w' => e = .returned (.string (quV s)) ∧ Below w.heap.size w w' := by
  have HV := Lib.hid (fun w => areTexts_any [s] _ _ (RdS.one w s) (by simp))
  rw [all_one] at HV
  have HB := Lib.hid (show Below w.heap.size w (w.alloc (Obj.cells #[.string s] 9)) from (Below.refl _ _).alloc (Nat.le_refl _) _)
  cases hok : okT s with
  | false =>
    have HE := Lib.hid (show quV s = ⟨#[]⟩ by unfold quV; rw [hok]; rfl)
    rw [HE.out]
    rw [hok] at HV
    clear hok
    go_enter Try.func23, Try.ntmps23
    go_wp2_with (first | (go_at_call 40; refine (HV.out _).mono ?_; rintro e w1 ⟨rfl, hw⟩; have HB1 := Lib.hid (show Below w.heap.size w w1 from hw ▸ HB.out); clear hw))
    go_ret
    exact ⟨rfl, HB1.out⟩
  | true =>
    have HE := Lib.hid (show quV s = ⟨(39 :: qs s.data.toList ++ [39]).toArray⟩ by unfold quV; rw [hok]; rfl)
    rw [HE.out]
    have h4 : s.size ≤ 400 := by unfold okT at hok; simpa using hok
    rw [hok] at HV
    clear hok
    go_enter Try.func23, Try.ntmps23
    go_wp2_with (first | (go_at_call 40; refine (HV.out _).mono ?_; rintro e w1 ⟨rfl, hw⟩; have HB1 := Lib.hid (show Below w.heap.size w w1 from hw ▸ HB.out); clear hw))
    have H0 := Lib.hid (show QtI w1 (w1.alloc (.cells #[.int .u8 39] 5)) [39] (.slice (some ⟨w1.heap.size, 0, none⟩) 1 1) from ⟨lit8 w1 39 39 rfl, (Below.refl _ _).alloc (Nat.le_refl _) _⟩)
    go_loopw [3, 12] (fun v i wr => ∃ k : Nat, k ≤ s.size ∧ i = .int .i64 k ∧ Hid (QtI w1 wr (39 :: qs (s.data.toList.take k)) v)) (fun _ i _ => s.size - (intOf i).toNat)
    case atStart => exact ⟨0, by omega, rfl, H0⟩
    case round =>
      obtain ⟨k, hk, rfl, HI⟩ := hrel
      have hlen : s.data.toList.length = s.size := rfl
      have hr := qs_len (s.data.toList.take k)
      have HL := Lib.hid (show (39 :: qs (s.data.toList.take k)).length ≤ 100000 by rw [List.length_cons]; rw [List.length_take] at hr; omega)
      have HZ := Lib.hid (show w1.heap.size ≤ wr.heap.size from HI.out.2.size)
      clear hr
      by_cases hlt : k < s.size
      · have hcl : s.data.toList[k]? = some s[k] := by rw [List.getElem?_eq_getElem (by omega)]; rfl
        have HN := Lib.hid (qs_next hcl)
        clear hcl
        go_wp2_with (first | (go_at_call 51; refine (appendQuoted_any wr w1 w1.heap.size _ _ s[k] HI.out.1 HL.out HZ.out HI.out.2 _ rfl).mono ?_; rintro e w3 ⟨v3, rfl, ho, hb3⟩; have HT := Lib.hid (show QtI w1 w3 (39 :: qs (s.data.toList.take (k + 1))) v3 from ⟨by rw [HN.out]; exact ho, hb3⟩); clear ho hb3))
        go_roundw
        case rel => exact ⟨k + 1, by omega, by go_num, HT⟩
        case measure => simp [intOf]; try omega
      · obtain rfl : k = s.size := by omega
        have HF := Lib.hid (show s.data.toList.take s.size = s.data.toList from List.take_of_length_le (by omega))
        clear hlt
        rw [HF.out] at HI HL
        go_wp2_with (first | (refine app1 rfl (.tmp 21) (.tmp 22) 28 5 (.int .u8 0) 1 rfl Try.underlying28 (by kernel_rfl) rfl (by decide) wr w1 _ rfl w1.heap.size _ _ rfl rfl HI.out.1 rfl ?_ HZ.out HI.out.2 ?_; (have := HL.out; unfold bv; rw [List.length_map]; omega); intro v3 w3 ho hb3 _; have HO := Lib.hid (show Own w3 w1.heap.size 5 v3 (bv (39 :: qs s.data.toList ++ [39])) from own_cat (m := [39]) ho rfl); have HB3 := Lib.hid hb3; clear ho hb3) | (refine (puts_text 28 9 5 (.tmp 23) rfl Try.underlying28 Try.underlying5 Try.underlying9 w1.heap.size _ (39 :: qs s.data.toList ++ [39]) rfl HO.out).gives.plain rfl ?_))
        go_ret
        exact ⟨rfl, HB1.out.trans (HB3.out.mono HB1.out.size)⟩
end Go.Proofs.Ytdinjoenpiminaa
