/- impl.IntPow. -/
import Derived.Test.YtckmpenlpkhnfabFns4
namespace Go.Proofs.Ytckmpenlpkhnfab
open Go.RowKit
theorem cnt_le40 {n : Nat} (h : n < 10 ^ 80) : (cnt n ≤ 40 → n < 10 ^ 40) ∧ (n < 10 ^ 40 → cnt n ≤ 40) := by
  have hs := cnt_spec n h
  constructor
  · intro hc
    have h6 : 10 ^ (cnt n) ≤ 10 ^ 40 := Nat.pow_le_pow_right (by omega) hc
    omega
  · intro hn
    rcases Nat.lt_or_ge 40 (cnt n) with h1 | h1
    · have h5 : 10 ^ (cnt n - 1) ≤ n := by omega
      have h6 : 10 ^ 40 ≤ 10 ^ (cnt n - 1) := Nat.pow_le_pow_right (by omega) (by omega)
      omega
    · exact h1
def powV (a : List UInt8) (n : Int) : Value := if okI a then (if 0 ≤ n ∧ n ≤ 200 then outI ((rz a) ^ n.toNat) else noV) else noV
/-- A power is being made. -/
def PwInv (w wr : World) (g : Nat) (x : Int) (g' : Nat) (p : Int) : Prop := Below w.heap.size w wr ∧ w.heap.size ≤ g ∧ g < g' ∧ Blk wr g 43 (ival x) ∧ Blk wr g' 43 (ival p)
section
variable {w w1 w2 : World} {g g' : Nat} {x p : Int}
theorem pw_start (h : OneInv w w1 g x) (p : Int) : PwInv w ((w1.alloc (Obj.cells Try.zeroCells43 43)).setRow w1.heap.size (ival p)) g x w1.heap.size p :=
  ⟨new81_below p h.1 h.1.size, h.2.1, one_lt h, new81_keep p h.2.2, new81 w1 p⟩
theorem pw_lt (h : PwInv w w1 g x g' p) : g' < w1.heap.size := h.2.2.2.2.lt
theorem pw_keep {B : Nat} (h : PwInv w w1 g x g' p) (hb : Below B w1 w2) (hB : g' < B) : PwInv w w2 g x g' p := by
  obtain ⟨h1, h2, h3, h4, h5⟩ := h
  exact ⟨h1.trans (hb.mono (by omega)), h2, h3, h4.below hb (by omega), h5.below hb hB⟩
theorem pw_store (h : PwInv w w1 g x g' p) (p2 : Int) : PwInv w (w1.setRow g' (ival p2)) g x g' p2 := by
  obtain ⟨h1, h2, h3, h4, h5⟩ := h
  exact ⟨below_setRow h1 (by omega), h2, h3, h4.rowOff (by omega), h5.row⟩
end
theorem pow_long (x : Int) {k n : Nat} (hk : k ≤ n) (h : ¬ (x ^ k).natAbs < 10 ^ 40) : ¬ (x ^ n).natAbs < 10 ^ 40 := by
  rw [Int.natAbs_pow] at h ⊢
  rcases Nat.eq_zero_or_pos x.natAbs with h0 | h0
  · rw [h0] at h
    exfalso; apply h
    rcases Nat.eq_zero_or_pos k with hk0 | hk0
    · subst hk0; decide
    · rw [Nat.zero_pow hk0]; decide
  · have := Nat.pow_le_pow_right h0 hk
    omega
theorem outI_long {z : Int} (h : ¬ z.natAbs < 10 ^ 40) : outI z = noV := by unfold outI; rw [if_neg h]
def PwPost (w : World) (v : Value) (e : Ending) (w' : World) : Prop := e = .returned v ∧ Below w.heap.size w w'
set_option maxHeartbeats 1000000 in
theorem intPow_any (s : ByteArray) (n : Int) (w : World) (hn1 : -9223372036854775808 ≤ n) (hn2 : n ≤ 9223372036854775807) : Calls Try.prog 27 #[.string s, .int .i64 n] w fun e w' => e = .returned (powV s.data.toList n) ∧ Below w.heap.size w w' := by
  have HR := Lib.hid (read_hid s)
  have HX := Lib.hid (okI_lt (l := s.data.toList))
  unfold powV
  generalize okI s.data.toList = ok at HR ⊢
  generalize rz s.data.toList = x at HR HX ⊢
  cases ok with
  | false =>
    go_enter Try.func27, Try.ntmps27
    go_wp2_with fail
    refine (HR.out _).out.mono ?_
    rintro e w1 ⟨rfl, hb1⟩
    have HI := Lib.hid (one_start (x := x) hb1)
    have HA := Lib.hid (Blk.new w1 43 Try.zeroCells43 rfl)
    clear hb1
    go_wp2_with (first | (refine ext rfl (.tmp 9) 0 [.agg (ival x), .bool false] (.agg (ival x)) rfl rfl rfl ?_) | (refine ext rfl (.tmp 9) 1 [.agg (ival x), .bool false] (.bool false) rfl rfl rfl ?_) | (refine stI rfl (.tmp 6) (.tmp 12) rfl w1.heap.size _ rfl rfl (t := 43) (old := Try.zeroCells43) ?_ ?_ ?_; exact HA.out; exact zero81_size; generalize (w1.alloc (Obj.cells Try.zeroCells43 43)).setRow w1.heap.size (ival x) = w2 at HI ⊢))
    go_ret2
    exact ⟨rfl, HI.out.1⟩
  | true =>
    simp only [if_true]
    by_cases hn : 0 ≤ n ∧ n ≤ 200
    · rw [if_pos hn]
      obtain ⟨k, rfl⟩ := Int.eq_ofNat_of_zero_le hn.1
      have hk : k ≤ 200 := by omega
      rw [Int.toNat_natCast]
      have HM := Lib.hid (fun w => make_any 1 false w (by decide))
      show Calls Try.prog 27 #[.string s, .int .i64 k] w (PwPost w (outI (x ^ k)))
      clear hn hn1 hn2
      go_enter Try.func27, Try.ntmps27
      go_wp2_with fail
      refine (HR.out _).out.mono ?_
      rintro e w1 ⟨rfl, hb1⟩
      have HI := Lib.hid (one_start (x := x) hb1)
      have HA := Lib.hid (Blk.new w1 43 Try.zeroCells43 rfl)
      clear hb1
      go_wp2_with (first | (refine ext rfl (.tmp 9) 0 [.agg (ival x), .bool true] (.agg (ival x)) rfl rfl rfl ?_) | (refine ext rfl (.tmp 9) 1 [.agg (ival x), .bool true] (.bool true) rfl rfl rfl ?_) | (refine stI rfl (.tmp 6) (.tmp 12) rfl w1.heap.size _ rfl rfl (t := 43) (old := Try.zeroCells43) ?_ ?_ ?_; exact HA.out; exact zero81_size; generalize (w1.alloc (Obj.cells Try.zeroCells43 43)).setRow w1.heap.size (ival x) = w2 at HI ⊢) | (refine (puts_build1 _ 0 (.const (.int .u8 1)) rfl (.int .u8 1) rfl _ built80one).gives.plain rfl ?_) | (go_at_call 57; refine (HM.out _).mono ?_; rintro e w3 ⟨rfl, hb3⟩; have HI3 := Lib.hid (one_keep HI.out hb3 (one_lt HI.out)); clear hb3; have HP := Lib.hid (pw_start HI3.out 1); have HB3 := Lib.hid (Blk.new w3 43 Try.zeroCells43 rfl)) | (refine stI rfl (.tmp 8) (.tmp 25) rfl w3.heap.size 1 rfl rfl (t := 43) (old := Try.zeroCells43) ?_ ?_ ?_; exact HB3.out; exact zero81_size; generalize (w3.alloc (Obj.cells Try.zeroCells43 43)).setRow w3.heap.size (ival 1) = w4 at HP ⊢))
      go_loopw [27] (fun i wr => ∃ j : Nat, j ≤ k ∧ i = .int .i64 j ∧ Hid ((x ^ j).natAbs < 10 ^ 40) ∧ PwInv w wr w1.heap.size x w3.heap.size (x ^ j)) (fun i _ => k - (intOf i).toNat)
      case atStart => exact ⟨0, by omega, rfl, Lib.hid (by rw [Int.pow_zero]; decide), by rw [Int.pow_zero]; exact HP.out⟩
      case round =>
        obtain ⟨j, hj, rfl, HL, hI⟩ := hrel
        have HQ := Lib.hid hI
        clear hI HP HI HI3 HA HB3 w2 w4
        by_cases hlt : j < k
        · have HT := Lib.hid (fun w => timesI (w := w) HL.out HX.out)
          have hlong : (x ^ j * x).natAbs < 10 ^ 80 := mul_lt HL.out HX.out
          have hpow : x ^ j * x = x ^ (j + 1) := (Int.pow_succ x j).symm
          rw [hpow] at HT hlong
          have hc := cnt_le40 hlong
          have HC := Lib.hid (fun w => cnt_any (x ^ (j + 1)).natAbs w)
          have HPL := Lib.hid (fun h => pow_long x (show j + 1 ≤ k by omega) h)
          have HF : Hid (∀ w5, Blk w5 w3.heap.size 43 (ival (x ^ (j + 1))) → Lies w5 w3.heap.size 0 (row80 (x ^ (j + 1)).natAbs)) := Lib.hid (fun w5 h => Blk.sizeOf h)
          have HO2 := Lib.hid (fun h => outI_long (HPL.out h))
          generalize hp : x ^ j = p at HL HQ HT
          generalize hp2 : x ^ (j + 1) = p2 at HT HC HF HO2 hlong hpow hc
          have HP2 := Lib.hid hp2
          clear hp hp2 HPL
          by_cases hs : p2.natAbs < 10 ^ 40
          · have hcn := hc.2 hs
            have HS := Lib.hid hs
            clear hc hs hlong hpow
            generalize cnt p2.natAbs = cn at HC hcn
            go_wp2_with (first | (refine ldI rfl (.tmp 8) rfl w3.heap.size p rfl (t := 43) ?_ ?_; exact HQ.out.2.2.2.2) | (refine ldI rfl (.tmp 6) rfl w1.heap.size x rfl (t := 43) ?_ ?_; exact HQ.out.2.2.2.1) | (go_at_call 43; refine (HT.out _).mono ?_; rintro e w5 ⟨rfl, hb5⟩; have HQ5 := Lib.hid (pw_keep HQ.out hb5 (pw_lt HQ.out)); clear hb5; have HQ6 := Lib.hid (pw_store HQ5.out p2)) | (refine stI rfl (.tmp 8) (.tmp 31) rfl w3.heap.size p2 rfl rfl (t := 43) (old := ival p) ?_ ?_ ?_; exact HQ5.out.2.2.2.2; exact irow_size _ _; generalize w5.setRow w3.heap.size (ival p2) = w6 at HQ6 ⊢) | (refine ld80 rfl (.tmp 32) rfl w3.heap.size 0 rfl (n := p2.natAbs) ?_ ?_; exact HF.out _ HQ6.out.2.2.2.2) | (go_at_call 58; refine (HC.out _).mono ?_; rintro e w7 ⟨rfl, hb7⟩; have HQ7 := Lib.hid (pw_keep HQ6.out hb7 (pw_lt HQ6.out)); clear hb7))
            go_roundw
            case rel => exact ⟨j + 1, by omega, by go_num, by rw [HP2.out]; exact HS, by rw [HP2.out]; exact HQ7.out⟩
            case measure => simp [intOf]; try omega
          · have hcn : 40 < cnt p2.natAbs := by have := hc.1; omega
            have HO := Lib.hid (HO2.out hs)
            clear hc hs hlong hpow
            generalize cnt p2.natAbs = cn at HC hcn
            go_wp2_with (first | (refine ldI rfl (.tmp 8) rfl w3.heap.size p rfl (t := 43) ?_ ?_; exact HQ.out.2.2.2.2) | (refine ldI rfl (.tmp 6) rfl w1.heap.size x rfl (t := 43) ?_ ?_; exact HQ.out.2.2.2.1) | (go_at_call 43; refine (HT.out _).mono ?_; rintro e w5 ⟨rfl, hb5⟩; have HQ5 := Lib.hid (pw_keep HQ.out hb5 (pw_lt HQ.out)); clear hb5; have HQ6 := Lib.hid (pw_store HQ5.out p2)) | (refine stI rfl (.tmp 8) (.tmp 31) rfl w3.heap.size p2 rfl rfl (t := 43) (old := ival p) ?_ ?_ ?_; exact HQ5.out.2.2.2.2; exact irow_size _ _; generalize w5.setRow w3.heap.size (ival p2) = w6 at HQ6 ⊢) | (refine ld80 rfl (.tmp 32) rfl w3.heap.size 0 rfl (n := p2.natAbs) ?_ ?_; exact HF.out _ HQ6.out.2.2.2.2) | (go_at_call 58; refine (HC.out _).mono ?_; rintro e w7 ⟨rfl, hb7⟩; have HQ7 := Lib.hid (pw_keep HQ6.out hb7 (pw_lt HQ6.out)); clear hb7))
            go_ret2
            exact ⟨by rw [HO.out]; rfl, HQ7.out.1⟩
        · obtain rfl : j = k := by omega
          obtain ⟨l, b, hl⟩ := outI_form (x ^ j)
          have HO := Lib.hid hl
          generalize hp : x ^ j = p at HL HQ hl
          have HT := Lib.hid (fun w => textI (w := w) (x := p) (Nat.lt_trans HL.out (by decide)))
          rw [hl] at HT
          clear hl hp
          go_wp2_with (first | (refine ldI rfl (.tmp 8) rfl w3.heap.size p rfl (t := 43) ?_ ?_; exact HQ.out.2.2.2.2) | (go_at_call 44; refine (HT.out _).mono ?_; rintro e w5 ⟨rfl, hb5⟩; have HQ5 := Lib.hid (pw_keep HQ.out hb5 (pw_lt HQ.out)); clear hb5) | (refine ext rfl (.tmp 38) 0 [.string ⟨l⟩, .bool b] (.string ⟨l⟩) rfl rfl rfl ?_) | (refine ext rfl (.tmp 38) 1 [.string ⟨l⟩, .bool b] (.bool b) rfl rfl rfl ?_))
          go_ret2
          exact ⟨by rw [HO.out]; rfl, HQ5.out.1⟩
    · rw [if_neg hn]
      by_cases hn0 : n < 0
      · clear hn
        go_enter Try.func27, Try.ntmps27
        go_wp2_with fail
        refine (HR.out _).out.mono ?_
        rintro e w1 ⟨rfl, hb1⟩
        have HI := Lib.hid (one_start (x := x) hb1)
        have HA := Lib.hid (Blk.new w1 43 Try.zeroCells43 rfl)
        clear hb1
        go_wp2_with (first | (refine ext rfl (.tmp 9) 0 [.agg (ival x), .bool true] (.agg (ival x)) rfl rfl rfl ?_) | (refine ext rfl (.tmp 9) 1 [.agg (ival x), .bool true] (.bool true) rfl rfl rfl ?_) | (refine stI rfl (.tmp 6) (.tmp 12) rfl w1.heap.size _ rfl rfl (t := 43) (old := Try.zeroCells43) ?_ ?_ ?_; exact HA.out; exact zero81_size; generalize (w1.alloc (Obj.cells Try.zeroCells43 43)).setRow w1.heap.size (ival x) = w2 at HI ⊢))
        go_ret2
        exact ⟨rfl, HI.out.1⟩
      · have hn3 : 200 < n := by omega
        have hn4 : 0 ≤ n := by omega
        clear hn hn0
        go_enter Try.func27, Try.ntmps27
        go_wp2_with fail
        refine (HR.out _).out.mono ?_
        rintro e w1 ⟨rfl, hb1⟩
        have HI := Lib.hid (one_start (x := x) hb1)
        have HA := Lib.hid (Blk.new w1 43 Try.zeroCells43 rfl)
        clear hb1
        go_wp2_with (first | (refine ext rfl (.tmp 9) 0 [.agg (ival x), .bool true] (.agg (ival x)) rfl rfl rfl ?_) | (refine ext rfl (.tmp 9) 1 [.agg (ival x), .bool true] (.bool true) rfl rfl rfl ?_) | (refine stI rfl (.tmp 6) (.tmp 12) rfl w1.heap.size _ rfl rfl (t := 43) (old := Try.zeroCells43) ?_ ?_ ?_; exact HA.out; exact zero81_size; generalize (w1.alloc (Obj.cells Try.zeroCells43 43)).setRow w1.heap.size (ival x) = w2 at HI ⊢))
        go_ret2
        exact ⟨rfl, HI.out.1⟩
end Go.Proofs.Ytckmpenlpkhnfab
