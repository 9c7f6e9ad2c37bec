/- What is read within quotes: the model's TextUnquote; the law. -/
import Derived.Test.YtfmpplolhhjpoaaUq3
namespace Go.Proofs.Ytfmpplolhhjpoaa
open Go.RowKit
theorem Qt_arr (t : List UInt8) : (⟨(39 :: qs t ++ [39]).toArray⟩ : ByteArray).data.toList = Qt t := rfl
theorem bytes_eq {u q : ByteArray} (h : u.data.toList = q.data.toList) : u = q := ByteArray.ext (Array.toList_inj.1 h)
theorem bytes_ne {u q : ByteArray} (h : u ≠ q) : (u.toList == q.toList) = false := beq_eq_false_iff_ne.2 (fun e => h (by rw [ByteArray.toList_eq, ByteArray.toList_eq] at e; exact bytes_eq e))
set_option maxHeartbeats 2000000 in
theorem specUnq_any (q : ByteArray) (w : World) (hs : q.size ≤ 1048576) : Calls Try.prog 22 #[.string q] w (UqF q w) := by
  by_cases h16 : q.size ≤ 1602
  · have HU := Lib.hid (unquoted_any q w h16)
    go_enter Try.func22, Try.ntmps22
    go_wp2_with fail
    refine HU.out.mono ?_
    rintro e w2 ⟨⟨t, n, rfl, ht, hn1, hn2, hR⟩, hb2⟩
    have HR := Lib.hid hR
    have HB2 := Lib.hid hb2
    have HT := Lib.hid ht
    clear hR hb2 ht
    by_cases hn : n = (q.size : Int)
    · have hnf : (n != (q.size : Int)) = false := by rw [hn]; simp
      by_cases h4 : t.length ≤ 400
      · have hok : okT ⟨t.toArray⟩ = true := by unfold okT; simpa [ByteArray.size] using h4
        have HV := Lib.hid (fun w => validText_any ⟨t.toArray⟩ w (by simp [ByteArray.size]; omega))
        rw [hok] at HV
        have HQ := Lib.hid (fun w => quoted_any ⟨t.toArray⟩ w (by simpa [ByteArray.size] using h4))
        obtain ⟨u, hu⟩ : ∃ u : ByteArray, u = ⟨(39 :: qs (⟨t.toArray⟩ : ByteArray).data.toList ++ [39]).toArray⟩ := ⟨_, rfl⟩
        rw [← hu] at HQ
        have hul : u.data.toList = Qt t := by rw [hu]; rfl
        by_cases hq : u = q
        · have HF := Lib.hid (show UqR q (.returned (.tuple #[.string ⟨t.toArray⟩, .bool true])) from ⟨fun s _ h => by rw [(HR.out s h).1], fun hno => absurd (hq ▸ hul) (hno t h4)⟩)
          clear hok hu hul h4 hn
          subst hq
          go_wp2_with (first | (refine ext rfl (.tmp 9) 0 [.string ⟨t.toArray⟩, .int .i64 n] (.string ⟨t.toArray⟩) rfl rfl rfl ?_) | (refine ext rfl (.tmp 9) 1 [.string ⟨t.toArray⟩, .int .i64 n] (.int .i64 n) rfl rfl rfl ?_))
          refine (HV.out _).mono ?_
          rintro e w' ⟨rfl, rfl⟩
          go_wp2_with fail
          refine (HQ.out _).mono ?_
          rintro e w3 ⟨rfl, hb3⟩
          have HB3 := Lib.hid (HB2.out.trans (hb3.mono HB2.out.size))
          clear hb3
          go_wp2_with fail
          go_ret2
          exact ⟨HF.out, HB3.out⟩
        · have HF := Lib.hid (show UqR q (.returned (.tuple #[.string ⟨#[]⟩, .bool false])) from uq_none fun s _ h => hq (bytes_eq (by rw [hul, h, (HR.out s h).1])))
          have hqf := bytes_ne hq
          clear hok hu hul h4 hq hn
          go_wp2_with (first | (refine ext rfl (.tmp 9) 0 [.string ⟨t.toArray⟩, .int .i64 n] (.string ⟨t.toArray⟩) rfl rfl rfl ?_) | (refine ext rfl (.tmp 9) 1 [.string ⟨t.toArray⟩, .int .i64 n] (.int .i64 n) rfl rfl rfl ?_))
          refine (HV.out _).mono ?_
          rintro e w' ⟨rfl, rfl⟩
          go_wp2_with fail
          refine (HQ.out _).mono ?_
          rintro e w3 ⟨rfl, hb3⟩
          have HB3 := Lib.hid (HB2.out.trans (hb3.mono HB2.out.size))
          clear hb3
          go_wp2_with fail
          go_ret2
          exact ⟨HF.out, HB3.out⟩
      · have hok : okT ⟨t.toArray⟩ = false := by unfold okT; simpa [ByteArray.size] using h4
        have HV := Lib.hid (fun w => validText_any ⟨t.toArray⟩ w (by have := HT.out; simp [ByteArray.size]; omega))
        rw [hok] at HV
        have HF := Lib.hid (show UqR q (.returned (.tuple #[.string ⟨#[]⟩, .bool false])) from uq_none fun s h5 h => h4 (by rw [(HR.out s h).1]; exact h5))
        clear hok h4 hn
        go_wp2_with (first | (refine ext rfl (.tmp 9) 0 [.string ⟨t.toArray⟩, .int .i64 n] (.string ⟨t.toArray⟩) rfl rfl rfl ?_) | (refine ext rfl (.tmp 9) 1 [.string ⟨t.toArray⟩, .int .i64 n] (.int .i64 n) rfl rfl rfl ?_))
        refine (HV.out _).mono ?_
        rintro e w' ⟨rfl, rfl⟩
        go_wp2_with fail
        go_ret2
        exact ⟨HF.out, HB2.out⟩
    · have hnf : (n != (q.size : Int)) = true := by simpa using hn
      have HF := Lib.hid (show UqR q (.returned (.tuple #[.string ⟨#[]⟩, .bool false])) from uq_none fun s _ h => hn (HR.out s h).2)
      clear hn
      go_wp2_with (first | (refine ext rfl (.tmp 9) 0 [.string ⟨t.toArray⟩, .int .i64 n] (.string ⟨t.toArray⟩) rfl rfl rfl ?_) | (refine ext rfl (.tmp 9) 1 [.string ⟨t.toArray⟩, .int .i64 n] (.int .i64 n) rfl rfl rfl ?_))
      go_ret2
      exact ⟨HF.out, HB2.out⟩
  · have HR := Lib.hid (show UqR q (.returned (.tuple #[.string ⟨#[]⟩, .bool false])) from uq_none fun s h4 h => by
      have h1 := (Qt_len s).2
      rw [← h] at h1
      have h3 : q.data.toList.length = q.size := rfl
      omega)
    have h16' : 1602 < (q.size : Int) := by omega
    clear h16
    go_enter Try.func22, Try.ntmps22
    go_wp2_with fail
    go_ret2
    exact ⟨HR.out, Below.refl _ _⟩
theorem uq_form (q : ByteArray) : ∃ l b, ∀ e, UqR q e → e = .returned (.tuple #[.string ⟨l⟩, .bool b]) := by
  by_cases h : ∃ s : List UInt8, s.length ≤ 400 ∧ q.data.toList = Qt s
  · obtain ⟨s, h4, hs⟩ := h
    exact ⟨_, _, fun e he => he.1 s h4 hs⟩
  · exact ⟨_, _, fun e he => he.2 fun s h4 hs => h ⟨s, h4, hs⟩⟩
set_option maxHeartbeats 1000000 in
theorem exactTextUnquote_walk (a0 : ByteArray) (w0 : a0.size ≤ maxLen) (w : World) :
    Calls Try.prog 5 #[.string a0] w fun e w' => e = .returned (.bool true) ∧ Below w.heap.size w w' := by
  unfold maxLen at w0
  by_cases h0 : a0.size ≤ 1048576
  · obtain ⟨l, bb, hl⟩ := uq_form a0
    have H1 := Lib.hid (show ∀ w, Calls Try.prog 22 #[.string a0] w fun e w' => e = .returned (.tuple #[.string ⟨l⟩, .bool bb]) ∧ Below w.heap.size w w' from fun w => (specUnq_any a0 w h0).mono fun e w' ⟨h1, h2⟩ => ⟨hl e h1, h2⟩)
    have H2 := Lib.hid (show ∀ w, Calls Try.prog 23 #[.string a0] w fun e w' => e = .returned (.tuple #[.string ⟨l⟩, .bool bb]) ∧ Below w.heap.size w w' from fun w => (implUnq_any a0 w h0).mono fun e w' ⟨h1, h2⟩ => ⟨hl e h1, h2⟩)
    clear hl
    go_enter Try.func5, Try.ntmps5
    go_wp2_with fail
    refine (H1.out _).mono ?_
    rintro e w2 ⟨rfl, hb2⟩
    have HB2 := Lib.hid hb2
    clear hb2
    go_wp2_with (first | (refine ext rfl (.tmp 10) 0 [.string ⟨l⟩, .bool bb] (.string ⟨l⟩) rfl rfl rfl ?_) | (refine ext rfl (.tmp 10) 1 [.string ⟨l⟩, .bool bb] (.bool bb) rfl rfl rfl ?_))
    refine (H2.out _).mono ?_
    rintro e w3 ⟨rfl, hb3⟩
    have HB3 := Lib.hid (HB2.out.trans (hb3.mono HB2.out.size))
    clear hb3
    go_wp2_with (first | (refine ext rfl (.tmp 15) 0 [.string ⟨l⟩, .bool bb] (.string ⟨l⟩) rfl rfl rfl ?_) | (refine ext rfl (.tmp 15) 1 [.string ⟨l⟩, .bool bb] (.bool bb) rfl rfl rfl ?_))
    go_ret
    exact ⟨rfl, HB3.out⟩
  · go_enter Try.func5, Try.ntmps5
    go_wp2_with fail
    go_ret
    exact ⟨rfl, Below.refl _ _⟩
end Go.Proofs.Ytfmpplolhhjpoaa
