/- The law on RoomsOf. -/
import Derived.Test.YtbcphejblopekaaDrL
namespace Go.Proofs.Ytbcphejblopekaa
open Go.RowKit
def RlP (w : World) (e : Ending) (w' : World) : Prop := ∃ v is, e = .returned v ∧ is.length ≤ 30 ∧ OwI w' w.heap.size v is ∧ Below w.heap.size w w'
def stepsZ : List Int := [1, 1, 1, -1, 5, -6, 20, -30]
theorem stepsZ_in : ∀ z ∈ stepsZ, -30 ≤ z ∧ z ≤ 20 := by decide
set_option maxHeartbeats 1000000 in
theorem dRoomsOf (w : World) (a : Option Addr) (n cap : Nat) (h : Cr w a n cap) : Calls Try.prog 34 #[.slice a n cap] w (RlP w) := by
  have HN := Lib.hid (newRnd_any w a n cap h)
  clear h
  go_enter Try.func34, Try.ntmps34
  go_wp2_with fail
  refine HN.out.mono ?_
  rintro e w1 ⟨rfl, hb1, m, hr1⟩
  have HB1 := Lib.hid hb1
  have HR1 := Lib.hid hr1
  have hlt1 : w.heap.size < w1.heap.size := hr1.1.lt
  clear hb1 hr1
  have HA := Lib.hid (show NuI w1 (w1.alloc (Obj.cells #[] 3)) w.heap.size a m cap 0 0 (.slice (some ⟨w1.heap.size, 0, none⟩) 0 0) [] from ⟨(DrP.zero HR1.out).below ((Below.refl _ _).alloc (Nat.le_refl _) _), World.ownsRow_lit w1 #[] 0 (Nat.le_refl _) (by decide) rfl⟩)
  go_wp2_with fail
  obtain ⟨kA, hkA, hrA⟩ := HA.out.1.2
  refine (pick_any _ w.heap.size a m cap kA 30 hrA (by omega) (by omega)).mono ?_
  rintro e w2 ⟨r, rfl, hrl, hg1, k1, hk1, hr1⟩
  have HB := Lib.hid (HA.out.call HR1.out (show kA ≤ 0 + 0 by omega) ⟨hg1, k1, hk1, hr1⟩)
  have hrm : r ≤ 30 := by omega
  clear hrA hg1 hr1 hrl hkA hk1
  go_wp2_with fail
  go_loopw [4, 5, 6] (fun v q i wr => ∃ (c z : Nat) (is : List Int), i = .int .i64 (c : Int) ∧ is.length + c ≤ 30 ∧ q = .int .i64 (z : Int) ∧ z ≤ 20 * is.length ∧ Hid (NuI w1 wr w.heap.size a m cap 0 (1 + 3 * is.length) v is)) (fun _ _ i _ => (intOf i).toNat)
  case atStart => exact ⟨r, 0, [], rfl, by simpa using hrm, rfl, by simp, HB⟩
  case round =>
    obtain ⟨c, z, is, rfl, hc, rfl, hz, HI⟩ := hrel
    have HM := Lib.hid hc
    have HQ := Lib.hid (show is.length ≤ 30 by omega)
    by_cases hlt : 0 < c
    · obtain ⟨c', rfl⟩ : ∃ c', c = c' + 1 := ⟨c - 1, by omega⟩
      have hcb : c' ≤ 30 := by omega
      have hz2 : z ≤ 600 := by omega
      have HZ0 := Lib.hid hz
      clear hc hz
      obtain ⟨k2, hk2, hr2⟩ := HI.out.1.2
      have HP := Lib.hid (one_litZ stepsZ hr2 (by have := HQ.out; omega) (by decide) (by decide))
      have HK2 := Lib.hid hk2
      clear hk2 hr2
      go_wp2_with fail
      refine HP.out.mono ?_
      rintro e w3 ⟨⟨d, hd, rfl⟩, hdr⟩
      obtain ⟨d1, d2⟩ := stepsZ_in d hd
      have HC := Lib.hid (HI.out.call HR1.out HK2.out hdr)
      clear hd hdr
      obtain ⟨k3, hk3, hr3⟩ := HC.out.1.2
      have HOF := Lib.hid (fun (q : Int) (h1 : 0 ≤ q) (h2 : q ≤ 700) => often_draw w3 w.heap.size m cap k3 a q hr3 (by have := HQ.out; omega) (by omega) (by omega))
      have HK3 := Lib.hid hk3
      clear hk3 hr3
      go_wp2_with fail
      · refine (HOF.out ((z : Int) + d) (by omega) (by omega)).mono ?_
        rintro e w4 ⟨⟨y, rfl, _⟩, hdr4⟩
        have HD := Lib.hid (HC.out.call HR1.out HK3.out hdr4)
        have HZ := Lib.hid HD.out.1.1.size
        clear hdr4
        go_wp2_with (first | (refine appI rfl (.tmp 22) (.tmp 26) rfl w4 _ rfl w1.heap.size _ is rfl rfl HD.out.2 (by have := HQ.out; omega) HZ.out ?_; intro v3 w5 ho hb3; have HT := Lib.hid (HD.out.app HR1.out ho hb3); clear ho hb3))
        go_roundw
        case rel => exact ⟨c', ((z : Int) + d).toNat, is ++ [y], by go_num, by have := HM.out; simp; omega, by rw [Int.toNat_of_nonneg (by omega)], by have := HZ0.out; simp <;> omega, Lib.hid (HT.out.up (by simp; omega))⟩
        case measure => simp [intOf]; try omega
      · refine (HOF.out 0 (by omega) (by omega)).mono ?_
        rintro e w4 ⟨⟨y, rfl, _⟩, hdr4⟩
        have HD := Lib.hid (HC.out.call HR1.out HK3.out hdr4)
        have HZ := Lib.hid HD.out.1.1.size
        clear hdr4
        go_wp2_with (first | (refine appI rfl (.tmp 22) (.tmp 26) rfl w4 _ rfl w1.heap.size _ is rfl rfl HD.out.2 (by have := HQ.out; omega) HZ.out ?_; intro v3 w5 ho hb3; have HT := Lib.hid (HD.out.app HR1.out ho hb3); clear ho hb3))
        go_roundw
        case rel => exact ⟨c', 0, is ++ [y], by go_num, by have := HM.out; simp; omega, rfl, by have := HZ0.out; simp <;> omega, Lib.hid (HT.out.up (by simp; omega))⟩
        case measure => simp [intOf]; try omega
    · obtain rfl : c = 0 := by omega
      clear hlt
      go_wp2_with fail
      go_ret
      exact ⟨_, is, rfl, by omega, HI.out.2.wide (by omega), HB1.out.grown HI.out.1.1 HB1.out.size (fun k hk => by injection hk with hk; omega)⟩
theorem OwI.shape {w : World} {b : Nat} {v : Value} {is : List Int} (h : OwI w b v is) (hn : 0 < is.length) : ∃ g cap, v = .slice (some ⟨g, 0, none⟩) is.length cap ∧ b ≤ g ∧ g < w.heap.size ∧ is.length ≤ cap := by
  rcases Own.form h with ⟨_, h2⟩ | ⟨g, cap, h1, h2, h3, h4, _⟩
  · have : is = [] := by simpa [iv] using h2
    subst this
    simp at hn
  · rw [iv_len] at h1 h4
    exact ⟨g, cap, h1, h2, h3, h4⟩
/-- The first elements of a list. -/
theorem OwI.first {w : World} {b g n cap : Nat} {is : List Int} (h : OwI w b (.slice (some ⟨g, 0, none⟩) n cap) is) (k : Nat) (hk : k ≤ n) : RdI w (.slice (some ⟨g, 0, none⟩) k cap) (is.take k) := by
  have hl := h.row.1
  obtain ⟨a, c, h1, h2, _, _⟩ := h.rd
  injection h1 with h1a h1b h1c
  subst h1c
  have hlt : (is.take k).length = k := by rw [List.length_take]; omega
  refine ⟨some ⟨g, 0, none⟩, cap, by rw [hlt], by omega, fun h => (by cases h), fun x hx j i hj => ?_⟩
  injection hx with hx
  subst hx
  rw [addr_add, Nat.zero_add]
  rw [List.getElem?_take] at hj
  split at hj
  · exact (h.cellAt hj).1
  · cases hj
set_option maxHeartbeats 2000000 in
theorem fnRoomsOf_walk (a : Option Addr) (n cap : Nat) (zs : List Int) (w : World) (h : (a = none ∧ n = 0 ∧ cap = 0 ∧ zs = []) ∨ ∃ x, a = some x ∧ n ≤ cap ∧ cap ≤ maxLen ∧ zs.length = cap ∧ (∀ i, i < zs.length → w.cell? (x.add i) = some (.int .u8 (zs.getD i 0))) ∧ ∀ n ∈ zs, (Lit.int .u8 n).wf = true) :
    Calls Try.prog 11 #[.slice a n cap] w fun e w' => e = .returned (.bool true) ∧ Below w.heap.size w w' := by
  have HC := Lib.hid (dRoomsOf w a n cap (cr_of h))
  have hcap : n ≤ 9223372036854775807 := by
    rcases h with ⟨_, rfl, _⟩ | ⟨x, _, h1, h2, _⟩
    · omega
    · unfold maxLen at h2; omega
  clear h
  by_cases h0 : n ≤ 1048576
  · go_enter Try.func11, Try.ntmps11
    go_wp2_with fail
    refine HC.out.mono ?_
    rintro e w2 ⟨v, is, rfl, hl30, ho2, hb2⟩
    have HB2 := Lib.hid hb2
    have HV2 := Lib.hid ho2
    clear hb2 ho2 HC
    have HI := Lib.hid (fun w v (hv : RdI w v is) => implRooms_any is v w hv (by omega))
    have HS := Lib.hid (fun w v (hv : RdI w v is) => specRooms_any is v w hv (by omega))
    have HE := Lib.hid (fun w v1 v2 (h1 : RdI w v1 (roomsR is)) (h2 : RdI w v2 (roomsR is)) => sameInts_rd (roomsR is) v1 v2 w h1 h2 (roomsR_len is))
    go_wp2_with fail
    refine (HI.out _ _ HV2.out.rd).mono ?_
    rintro e w3 ⟨vo, rfl, ho3, hb3⟩
    have HB3 := Lib.hid (HB2.out.trans (hb3.mono HB2.out.size))
    have HV3 := Lib.hid (HV2.out.below hb3)
    have HO3 := Lib.hid ho3
    clear hb3 ho3
    go_wp2_with fail
    refine (HS.out _ _ HV3.out.rd).mono ?_
    rintro e w4 ⟨vw, rfl, ho4, hb4⟩
    have HB4 := Lib.hid (HB3.out.trans (hb4.mono HB3.out.size))
    have HV4 := Lib.hid (HV3.out.below hb4)
    have HO4 := Lib.hid (HO3.out.below hb4)
    have HW4 := Lib.hid ho4
    clear hb4 ho4
    go_wp2_with fail
    refine (HE.out _ _ _ HO4.out.rd HW4.out.rd).mono ?_
    rintro e w5 ⟨rfl, hb5⟩
    have HB5 := Lib.hid (HB4.out.trans (hb5.mono HB4.out.size))
    have HV5 := Lib.hid (HV4.out.below hb5)
    have HO5 := Lib.hid (HO4.out.below hb5)
    clear hb5 HV2 HV3 HV4 HO3 HO4 HW4 HB2 HB3 HB4
    by_cases hr : (roomsR is).length = 0
    · obtain ⟨a1, c1, rfl, _⟩ := HO5.out.rd.sub
      rw [hr]
      clear hr
      go_wp2_with fail
      go_ret
      exact ⟨rfl, HB5.out⟩
    · have hok : okL 0 is = true := by
        cases hq : okL 0 is
        · rw [roomsR_no hq] at hr; simp at hr
        · rfl
      rw [roomsR_ok hok] at HO5 hr
      rw [roomsL_len] at hr
      obtain ⟨g1, c1, rfl, _, _, hc1⟩ := HV5.out.shape (by omega)
      obtain ⟨g2, c2, rfl, _, _, hc2⟩ := HO5.out.shape (by rw [roomsL_len]; omega)
      rw [roomsL_len] at HO5 hc2 ⊢
      have HOK := Lib.hid (okL_parts hok)
      obtain ⟨k, hk⟩ : ∃ k, is.length = k + 1 := ⟨is.length - 1, by omega⟩
      have HK := Lib.hid hk
      rw [hk] at HV5 HO5 hc1 hc2 hl30 ⊢
      have HF1 := Lib.hid (HV5.out.first k (by omega))
      have HF2 := Lib.hid (HO5.out.first k (by omega))
      have HLS := Lib.hid (show roomsR (is.take k) = (roomsL is).take k by
        rw [← roomsL_take, roomsR_ok]
        unfold okL
        have h1 : (is.take k).length ≤ 60 := by rw [List.length_take]; omega
        have h2 : (is.take k).all (okI 0) = true := by
          rw [List.all_eq_true]
          intro x hx
          exact List.all_eq_true.1 HOK.out.2 x (List.mem_of_mem_take hx)
        rw [h2, decide_eq_true h1]; rfl)
      have HI2 := Lib.hid (fun w v (hv : RdI w v (is.take k)) => implRooms_any (is.take k) v w hv (by rw [List.length_take]; omega))
      have HE2 := Lib.hid (fun w v1 v2 (h1 : RdI w v1 ((roomsL is).take k)) (h2 : RdI w v2 ((roomsL is).take k)) => sameInts_rd ((roomsL is).take k) v1 v2 w h1 h2 (by rw [List.length_take]; omega))
      clear hok hr hk HI HS HE
      go_wp2_with fail
      refine (HI2.out _ _ HF1.out).mono ?_
      rintro e w6 ⟨vl, rfl, ho6, hb6⟩
      rw [HLS.out] at ho6
      have HB6 := Lib.hid (HB5.out.trans (hb6.mono HB5.out.size))
      have HV6 := Lib.hid (HV5.out.below hb6)
      have HO6 := Lib.hid (HO5.out.below hb6)
      have HL6 := Lib.hid ho6
      have HF6 := Lib.hid (HF2.out.below hb6)
      clear ho6 hb6 HV5 HO5 HF1 HF2 HI2
      have hk0 : (k : Int) + 1 ≤ 31 := by omega
      go_wp2_with fail
      go_loopw [8] (fun i wr => ∃ j m : Nat, j ≤ k + 1 ∧ i = .int .i64 (j : Int) ∧ wr = w6.drewN m) (fun i _ => k + 1 - (intOf i).toNat)
      case atStart => exact ⟨0, 0, by omega, rfl, rfl⟩
      case round =>
        obtain ⟨j, m, hj, rfl, rfl⟩ := hrel
        by_cases hlt : j < k + 1
        · obtain ⟨s, hs⟩ : ∃ s, is[j]? = some s := ⟨is[j]'(by have := HK.out; omega), List.getElem?_eq_getElem _⟩
          have hjl : j < is.length := by have := HK.out; omega
          have d1 : w6.cell? ⟨g1, j, none⟩ = some (.int .i64 s) := (HV6.out.cellAt hs).1
          have d2 : w6.cell? ⟨g2, j, none⟩ = some (.int .i64 (roomFold (is.take (j + 1)))) := (HO6.out.cellAt (roomsL_get hjl)).1
          have hge := roomFold_ge HOK.out.2 hs
          have k1 : (j : Int) < (k : Int) + 1 := by omega
          have k0 : 0 ≤ (j : Int) := by omega
          clear hs hjl
          generalize roomFold (is.take (j + 1)) = r at *
          go_wp2_with fail
          go_quiet (fail)
          go_wp2_with fail
          go_roundw
          case rel => exact ⟨j + 1, _, by omega, by go_num, rfl⟩
          case measure => simp [intOf]; try omega
        · obtain rfl : j = k + 1 := by omega
          clear hlt
          have HD := Lib.hid (show Below w6.heap.size w6 (w6.drewN m) from ⟨rfl, rfl, rfl, Nat.le_refl _, fun _ _ => rfl⟩)
          have HE3 := Lib.hid (HE2.out (w6.drewN m) _ _ (HL6.out.rd.below HD.out) (HF6.out.below HD.out))
          go_wp2_with fail
          refine HE3.out.mono ?_
          rintro e w7 ⟨rfl, hb7⟩
          have HB7 := Lib.hid (HB6.out.trans ((HD.out.trans hb7).mono HB6.out.size))
          clear hb7
          go_wp2_with fail
          go_ret
          exact ⟨rfl, HB7.out⟩
  · go_enter Try.func11, Try.ntmps11
    go_wp2_with fail
    go_ret
    exact ⟨rfl, Below.refl _ _⟩
end Go.Proofs.Ytbcphejblopekaa
