/- The model's form of a text within quotes. -/
import Derived.Test.YtdinjoenpiminaaQuo
import Derived.Deep.RegionWith
import Derived.Deep.RegionLaw
namespace Go.Proofs.Ytdinjoenpiminaa
open Go.RowKit
theorem lit8b (w : World) (y z : Int) (c d : UInt8) (h : y = (c.toNat : Int)) (h2 : z = (d.toNat : Int)) : Own (w.alloc (.cells #[.int .u8 y, .int .u8 z] 5)) w.heap.size 5 (.slice (some ⟨w.heap.size, 0, none⟩) 2 2) (([c, d] : List UInt8).map fun c => Value.int .u8 (c.toNat : Int)) := by
  subst h; subst h2
  exact World.ownsRow_lit w #[.int .u8 (c.toNat : Int), .int .u8 (d.toNat : Int)] 2 (Nat.le_refl _) (by decide) rfl
theorem cat_l (l m : List UInt8) : (⟨l.toArray⟩ ++ ⟨m.toArray⟩ : ByteArray) = ⟨(l ++ m).toArray⟩ := by apply ByteArray.ext; simp
theorem sz_l (l : List UInt8) : (⟨l.toArray⟩ : ByteArray).size = l.length := by simp [ByteArray.size]
theorem room_l (l m : List UInt8) (h : l.length ≤ 10000000) (h2 : m.length ≤ 10000000) : (⟨l.toArray⟩ : ByteArray).size + (⟨m.toArray⟩ : ByteArray).size ≤ 9223372036854775807 := by
  have h3 := h
  have h4 := h2
  rw [sz_l, sz_l]; omega
theorem run_text {w : World} {src dst e : TypeId} {base : Nat} {v : Value} {l : List UInt8} (hs : Try.prog.underlying src = some (.slice e)) (he : Try.prog.underlying e = some (.int .u8)) (hd : Try.prog.underlying dst = some .string) (hown : Own w base e v (l.map fun c => Value.int .u8 (c.toNat : Int))) : (convert src dst v).run Try.prog w = .ok (.string ⟨l.toArray⟩) w := by
  rcases hown.form with ⟨rfl, h0⟩ | ⟨g, cap, rfl, _, _, _, hc⟩
  · have : l = [] := by simpa using h0
    subst this
    exact run_convert_bytes_nil w src e hs he 0 0 dst hd
  · have hr := run_convert_bytes_arg w src e hs he g 0 (l.map fun c => Value.int .u8 (c.toNat : Int)).length cap (l.map fun c => (c.toNat : Int)) (by simp) (fun i hi => ?_) dst hd
    · have e1 : strOfNums (l.map fun c => (c.toNat : Int)) = ⟨l.toArray⟩ := by
        unfold strOfNums
        congr 2
        rw [List.map_map]
        conv => rhs; rw [← List.map_id l]
        apply List.map_congr_left
        intro c _
        simp
      rw [e1] at hr
      exact hr
    · have hil : i < l.length := by simpa using hi
      rw [Nat.zero_add]
      refine hc i _ ?_
      simp [List.getD, List.getElem?_eq_getElem hil]
theorem add_run (w : World) (l m : List UInt8) (h : l.length ≤ 10000000) (h2 : m.length ≤ 10000000) : (Op.stringOp .add ⟨l.toArray⟩ ⟨m.toArray⟩).run Try.prog w = .ok (.string ⟨(l ++ m).toArray⟩) w := by
  rw [run_string_add_sum (P := Try.prog) (w := w) _ _ (room_l l m h h2), cat_l]
set_option maxHeartbeats 4000000 in
theorem quoted_any (s : ByteArray) (w : World) (hs : s.size ≤ 400) : Calls Try.prog 52 #[.string s] w fun e w' => e = .returned (.string ⟨(39 :: qs s.data.toList ++ [39]).toArray⟩) ∧ Below w.heap.size w w' := by
  have hlen : s.data.toList.length = s.size := rfl
  have hs4 := hs
  have HX := Lib.hid (fun n (h : n < 16) (w : World) => hexDigit_any n w h)
  go_enter Try.func52, Try.ntmps52
  go_wp2
  go_loopw [3, 4] (fun v i wr => ∃ k : Nat, k ≤ s.size ∧ i = .int .i64 k ∧ v = .string ⟨(39 :: qs (s.data.toList.take k)).toArray⟩ ∧ Hid (Below w.heap.size w wr)) (fun _ i _ => s.size - (intOf i).toNat)
  case atStart => exact ⟨0, by omega, rfl, rfl, Lib.hid (Below.refl _ _)⟩
  case round =>
    obtain ⟨k, hk, rfl, rfl, HI⟩ := hrel
    by_cases hlt : k < s.size
    · obtain ⟨c, hc⟩ : ∃ c, c = s[k] := ⟨_, rfl⟩
      have hcl : s.data.toList[k]? = some c := by rw [List.getElem?_eq_getElem (by omega), hc]; rfl
      have hn := qs_next hcl
      have hr := qs_len (s.data.toList.take k)
      have hr2 : (39 :: qs (s.data.toList.take k)).length ≤ 10000000 := by rw [List.length_cons]; rw [List.length_take] at hr; omega
      have c1 : (s[k].toNat : Int) = (c.toNat : Int) := by rw [hc]
      have hce : (s.extract k (k + 1)) = ⟨[c].toArray⟩ := by rw [ext_one s k hlt, hc]
      have c255 : c.toNat < 256 := c.toNat_lt
      clear hc
      by_cases b1 : c.toNat = 39
      · have d1 : ((c.toNat : Int) == 39) = true := beq_iff_eq.2 (by omega)
        obtain rfl : c = 39 := UInt8.toNat.inj b1
        have c2 : (s[k].toNat : Int) = 39 := by rw [c1]; rfl
        clear c1 d1
        have e : qb 39 = [92, 39] := by unfold qb; rfl
        have HN := Lib.hid (show qs (s.data.toList.take (k + 1)) = qs (s.data.toList.take k) ++ [92, 39] by rw [hn, e])
        have HO := Lib.hid (lit8b wr 92 39 92 39 rfl rfl)
        have HB := Lib.hid (HI.out.alloc HI.out.size (.cells #[.int .u8 92, .int .u8 39] 5))
        have HL := Lib.hid (room_l (39 :: qs (s.data.toList.take k)) [92, 39] hr2 (by simp))
        have HC := Lib.hid (cat_l (39 :: qs (s.data.toList.take k)) [92, 39])
        clear hn hr hr2 hcl hce e
        go_wp2_with (first | (refine (puts_text 28 9 5 (.tmp 31) rfl Try.underlying28 Try.underlying5 Try.underlying9 wr.heap.size _ [92, 39] rfl HO.out).gives.plain rfl ?_) | (refine (puts_cat 9 9 (.tmp 29) (.tmp 32) rfl _ ⟨[92, 39].toArray⟩ rfl rfl HL.out).gives.plain rfl ?_; rw [HC.out]))
        go_roundw
        case rel => exact ⟨k + 1, by omega, by go_num, by rw [HN.out]; try rfl, HB⟩
        case measure => simp [intOf]; try omega
      · have d1 : ((c.toNat : Int) == 39) = false := beq_eq_false_iff_ne.2 (by omega)
        by_cases b2 : c.toNat = 92
        · have d2 : ((c.toNat : Int) == 92) = true := beq_iff_eq.2 (by omega)
          obtain rfl : c = 92 := UInt8.toNat.inj b2
          have c2 : (s[k].toNat : Int) = 92 := by rw [c1]; rfl
          clear c1 d1
          clear d2
          have e : qb 92 = [92, 92] := by unfold qb; rfl
          have HN := Lib.hid (show qs (s.data.toList.take (k + 1)) = qs (s.data.toList.take k) ++ [92, 92] by rw [hn, e])
          have HO := Lib.hid (lit8b wr 92 92 92 92 rfl rfl)
          have HB := Lib.hid (HI.out.alloc HI.out.size (.cells #[.int .u8 92, .int .u8 92] 5))
          have HL := Lib.hid (room_l (39 :: qs (s.data.toList.take k)) [92, 92] hr2 (by simp))
          have HC := Lib.hid (cat_l (39 :: qs (s.data.toList.take k)) [92, 92])
          clear hn hr hr2 hcl hce e
          go_wp2_with (first | (refine (puts_text 28 9 5 (.tmp 31) rfl Try.underlying28 Try.underlying5 Try.underlying9 wr.heap.size _ [92, 92] rfl HO.out).gives.plain rfl ?_) | (refine (puts_cat 9 9 (.tmp 29) (.tmp 32) rfl _ ⟨[92, 92].toArray⟩ rfl rfl HL.out).gives.plain rfl ?_; rw [HC.out]))
          go_roundw
          case rel => exact ⟨k + 1, by omega, by go_num, by rw [HN.out]; try rfl, HB⟩
          case measure => simp [intOf]; try omega
        · have d2 : ((c.toNat : Int) == 92) = false := beq_eq_false_iff_ne.2 (by omega)
          by_cases b3 : c.toNat = 10
          · have d3 : ((c.toNat : Int) == 10) = true := beq_iff_eq.2 (by omega)
            have e : qb c = [92, 110] := by unfold qb; rw [if_neg (by omega), if_pos b3]
            have HN := Lib.hid (show qs (s.data.toList.take (k + 1)) = qs (s.data.toList.take k) ++ [92, 110] by rw [hn, e])
            have HO := Lib.hid (lit8b wr 92 110 92 110 rfl rfl)
            have HB := Lib.hid (HI.out.alloc HI.out.size (.cells #[.int .u8 92, .int .u8 110] 5))
            have HL := Lib.hid (room_l (39 :: qs (s.data.toList.take k)) [92, 110] hr2 (by simp))
            have HC := Lib.hid (cat_l (39 :: qs (s.data.toList.take k)) [92, 110])
            clear hn hr hr2 hcl hce e
            go_wp2_with (first | (refine (puts_text 28 9 5 (.tmp 38) rfl Try.underlying28 Try.underlying5 Try.underlying9 wr.heap.size _ [92, 110] rfl HO.out).gives.plain rfl ?_) | (refine (puts_cat 9 9 (.tmp 37) (.tmp 39) rfl _ ⟨[92, 110].toArray⟩ rfl rfl HL.out).gives.plain rfl ?_; rw [HC.out]))
            go_roundw
            case rel => exact ⟨k + 1, by omega, by go_num, by rw [HN.out]; try rfl, HB⟩
            case measure => simp [intOf]; try omega
          · have d3 : ((c.toNat : Int) == 10) = false := beq_eq_false_iff_ne.2 (by omega)
            by_cases b4 : c.toNat < 32 ∨ 126 < c.toNat
            · have d4 : ((c.toNat : Int) < 32 ∨ 126 < (c.toNat : Int)) := by omega
              have e : qb c = [92, 120, hx (c.toNat / 16), hx (c.toNat % 16)] := by unfold qb; rw [if_neg (by omega), if_neg b3, if_pos b4]
              have HN := Lib.hid (show qs (s.data.toList.take (k + 1)) = qs (s.data.toList.take k) ++ [92, 120, hx (c.toNat / 16), hx (c.toNat % 16)] by rw [hn, e])
              have HB := Lib.hid (HI.out.alloc HI.out.size (.cells #[.int .u8 92, .int .u8 120] 5))
              have hv : (convert 28 9 (Value.slice (some ⟨wr.heap.size, 0, none⟩) 2 2)).run Try.prog (wr.alloc (.cells #[.int .u8 92, .int .u8 120] 5)).drew = .ok (.string ⟨[92, 120].toArray⟩) (wr.alloc (.cells #[.int .u8 92, .int .u8 120] 5)).drew := run_text Try.underlying28 Try.underlying5 Try.underlying9 (lit8b wr 92 120 92 120 rfl rfl).drew
              obtain ⟨y1, hy1⟩ : ∃ y, y = hx (c.toNat / 16) := ⟨_, rfl⟩
              obtain ⟨y2, hy2⟩ : ∃ y, y = hx (c.toNat % 16) := ⟨_, rfl⟩
              rw [← hy1, ← hy2] at HN
              generalize hg : 39 :: qs (s.data.toList.take k) = L0 at hr2 ⊢
              have hr' : L0.length ≤ 2000 := by rw [← hg, List.length_cons]; rw [List.length_take] at hr; omega
              obtain ⟨L1, hL1⟩ : ∃ L, L = L0 ++ [92, 120] := ⟨_, rfl⟩
              obtain ⟨L2, hL2⟩ : ∃ L, L = L1 ++ [y1] := ⟨_, rfl⟩
              obtain ⟨L3, hL3⟩ : ∃ L, L = L2 ++ [y2] := ⟨_, rfl⟩
              have hr3 : L1.length ≤ 2002 := by rw [hL1, List.length_append]; simp; omega
              have hr4 : L2.length ≤ 2003 := by rw [hL2, List.length_append]; simp; omega
              have ha1 : ∀ w, (Op.stringOp .add ⟨L0.toArray⟩ ⟨[92, 120].toArray⟩).run Try.prog w = .ok (.string ⟨L1.toArray⟩) w := fun w => by rw [hL1]; exact add_run w _ _ (by omega) (by simp)
              have ha2 : ∀ w, (Op.stringOp .add ⟨L1.toArray⟩ ⟨[y1].toArray⟩).run Try.prog w = .ok (.string ⟨L2.toArray⟩) w := fun w => by rw [hL2]; exact add_run w _ _ (by omega) (by simp)
              have ha3 : ∀ w, (Op.stringOp .add ⟨L2.toArray⟩ ⟨[y2].toArray⟩).run Try.prog w = .ok (.string ⟨L3.toArray⟩) w := fun w => by rw [hL3]; exact add_run w _ _ (by omega) (by simp)
              have HN3 := Lib.hid (show 39 :: qs (s.data.toList.take (k + 1)) = L3 by rw [HN.out, hL3, hL2, hL1, ← hg]; simp)
              have ew0 : IntKind.i64.wrap (c.toNat : Int) = (c.toNat : Int) := IntWalk.i64_in _ (by omega)
              have ew1 : IntKind.i64.wrap ((IntKind.i64.wrap (c.toNat : Int)).tdiv 16) = ((c.toNat / 16 : Nat) : Int) := by
                rw [ew0, Int.tdiv_eq_ediv_of_nonneg (by omega), IntWalk.i64_in _ (by omega)]; omega
              have ew2 : (IntKind.i64.wrap (c.toNat : Int)).tmod 16 = ((c.toNat % 16 : Nat) : Int) := by
                rw [ew0, Int.tmod_eq_emod_of_nonneg (by omega)]; omega
              have hE1 := Lib.hid ew1
              have hE2 := Lib.hid ew2
              clear ew0 ew1 ew2
              have hX1 := Lib.hid (fun (w : World) => HX.out (c.toNat / 16) (by omega) w)
              have hX2 := Lib.hid (fun (w : World) => HX.out (c.toNat % 16) (by omega) w)
              rw [← hy1] at hX1
              rw [← hy2] at hX2
              clear hn hr hr2 hr3 hr4 hr' hcl hce e HX b4 HN hg hL1 hL2 hL3 hy1 hy2
              rcases d4 with d4 | d4
              · go_wp2_with fail
                go_region_with (first | (rw [hE1.out]; refine (hX1.out _).mono ?_; rintro e w' ⟨rfl, rfl⟩) | (rw [hE2.out]; refine (hX2.out _).mono ?_; rintro e w' ⟨rfl, rfl⟩))
                all_goals
                  try go_wp2
                  go_roundw
                  case rel => exact ⟨k + 1, by omega, by go_num, by rw [HN3.out], Lib.hid HB.out.drew⟩
                  case measure => simp [intOf]; try omega
              · have d5 : ¬ (c.toNat : Int) < 32 := by omega
                go_wp2_with fail
                go_region_with (first | (rw [hE1.out]; refine (hX1.out _).mono ?_; rintro e w' ⟨rfl, rfl⟩) | (rw [hE2.out]; refine (hX2.out _).mono ?_; rintro e w' ⟨rfl, rfl⟩))
                all_goals
                  try go_wp2
                  go_roundw
                  case rel => exact ⟨k + 1, by omega, by go_num, by rw [HN3.out], Lib.hid HB.out.drew⟩
                  case measure => simp [intOf]; try omega
            · have d4 : ¬ (c.toNat : Int) < 32 := by omega
              have d5 : ¬ 126 < (c.toNat : Int) := by omega
              have e : qb c = [c] := by unfold qb; rw [if_neg (by omega), if_neg b3, if_neg b4]
              have HN := Lib.hid (show qs (s.data.toList.take (k + 1)) = qs (s.data.toList.take k) ++ [c] by rw [hn, e])
              have HB := HI
              have HE := Lib.hid hce
              have HL := Lib.hid (room_l (39 :: qs (s.data.toList.take k)) [c] hr2 (by simp))
              have HC := Lib.hid (cat_l (39 :: qs (s.data.toList.take k)) [c])
              clear hn hr hr2 hcl hce e
              go_wp2_with (first | (rw [HE.out]) | (refine (puts_cat 9 9 (.tmp 15) (.tmp 20) rfl _ ⟨[c].toArray⟩ rfl rfl HL.out).gives.plain rfl ?_; rw [HC.out]))
              go_roundw
              case rel => exact ⟨k + 1, by omega, by go_num, by rw [HN.out]; try rfl, HB⟩
              case measure => simp [intOf]; try omega
    · obtain rfl : k = s.size := by omega
      have HN := Lib.hid (show qs (s.data.toList.take s.size) = qs s.data.toList by rw [List.take_of_length_le (by omega)])
      have hr := qs_len s.data.toList
      have HL := Lib.hid (room_l (39 :: qs (s.data.toList.take s.size)) [39] (by rw [HN.out, List.length_cons]; omega) (by simp))
      have HC := Lib.hid (cat_l (39 :: qs (s.data.toList.take s.size)) [39])
      clear hr hlt
      go_wp2_with (first | (refine (puts_cat 9 9 (.tmp 62) (.const (.string ⟨#[39]⟩)) rfl _ ⟨[39].toArray⟩ rfl rfl HL.out).gives.plain rfl ?_; rw [HC.out]))
      go_ret
      exact ⟨by rw [HN.out]; try rfl, HI.out⟩
end Go.Proofs.Ytdinjoenpiminaa
