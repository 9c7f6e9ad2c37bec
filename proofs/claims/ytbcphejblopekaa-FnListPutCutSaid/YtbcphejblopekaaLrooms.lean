/- Rooms of a list that changes: the model's, the program's. -/
import Derived.Test.YtbcphejblopekaaLroom
namespace Go.Proofs.Ytbcphejblopekaa
open Go.RowKit
/-- 'append(s, i)'. -/
theorem appI {ops : Array Oper} {rest : List Oper} {o : Oper} {a : Act} {w : World} {Q : Exit → Act → World → Prop} (hgd : o.guard = none) (s x : Operand) (ho : o.op = .call { callee := .builtin .append, args := #[s, x], argTypes := #[24, 24] }) (W : World) (i : Int) (hw : w = W.alloc (.cells #[.int .i64 i] 3)) (base : Nat) (v : Value) (is : List Int) (hs : a.eval s = v) (hx : a.eval x = .slice (some ⟨W.heap.size, 0, none⟩) 1 1)
    (hown : OwI W base v is) (hlen : is.length + 1 ≤ 1000000) (hbase : base ≤ W.heap.size)
    (h : ∀ v' w', OwI w' base v' (is ++ [i]) → Below base W w' → wpList Try.prog ops Q rest (a.put o.dst v') w') : wpList Try.prog ops Q (o :: rest) a w :=
  app1 hgd s x 24 3 (.int .i64 0) 8 ho Try.underlying24 (by kernel_rfl) rfl (by decide) W W (.int .i64 i) hw base v (iv is) hs hx hown rfl (by rw [iv_len]; omega) hbase (Below.refl _ _) (fun v' w' h1 h2 _ => h v' w' (by unfold OwI; rw [iv_app]; exact h1) h2)
theorem okL_long {lo : Int} {is : List Int} (h : 60 < is.length) : okL lo is = false := by unfold okL; rw [decide_eq_false (by omega)]; rfl
theorem okL_short {lo : Int} {is : List Int} (h : is.length ≤ 60) : okL lo is = is.all (okI lo) := by unfold okL; rw [decide_eq_true h]; rfl
set_option maxHeartbeats 1000000 in
theorem areLengths_any (is : List Int) (lo : Int) (v : Value) (w : World) (h : RdI w v is) (hl : is.length ≤ 1048576) :
    Calls Try.prog 42 #[v, .int .i64 lo] w fun e w' => e = .returned (.bool (okL lo is)) ∧ w = w' := by
  obtain ⟨a, cap, rfl, hcap, hnil, hat⟩ := h.sub
  have HA := Lib.hid hat
  clear h hat hnil
  by_cases h60 : 60 < is.length
  · rw [okL_long h60]
    generalize is.length = n at *
    go_enter Try.func42, Try.ntmps42
    go_wp2
    go_ret
    exact ⟨rfl, rfl⟩
  · rw [okL_short (by omega)]
    obtain ⟨n, hn⟩ : ∃ n, n = is.length := ⟨_, rfl⟩
    have HN := Lib.hid hn
    rw [← hn] at hcap hl h60 ⊢
    clear hn
    go_enter Try.func42, Try.ntmps42
    go_wp2_with fail
    go_loop [12] (fun i => ∃ k : Nat, k ≤ n ∧ i = .int .i64 k ∧ Hid ((is.take k).all (okI lo) = true)) (fun i => n - (intOf i).toNat)
    case atStart => exact ⟨0, by omega, rfl, Lib.hid rfl⟩
    case round =>
      obtain ⟨k, hk, rfl, HK⟩ := hrel
      by_cases hlt : k < n
      · obtain ⟨s, hs⟩ : ∃ s, is[k]? = some s := ⟨is[k]'(by have := HN.out; omega), List.getElem?_eq_getElem _⟩
        obtain ⟨x, rfl, c1⟩ := HA.out k s hs
        have k1 : (k : Int) < (n : Int) := by omega
        have k0 : 0 ≤ (k : Int) := by omega
        by_cases h1 : s < lo
        · have HE := Lib.hid (not_all hs (show okI lo s = false by unfold okI; rw [decide_eq_false (by omega)]; rfl))
          clear hs
          go_wp2_with fail
          go_ret
          exact ⟨by rw [HE.out]; rfl, rfl⟩
        · by_cases h2 : 1000000 < s
          · have HE := Lib.hid (not_all hs (show okI lo s = false by unfold okI; rw [decide_eq_false (show ¬ s ≤ 1000000 by omega), Bool.and_false]))
            clear hs
            go_wp2_with fail
            go_ret
            exact ⟨by rw [HE.out]; rfl, rfl⟩
          · have HK2 := Lib.hid (take_all HK.out hs (show okI lo s = true by unfold okI; simp; omega))
            clear hs
            go_wp2_with fail
            go_round
            case rel => exact ⟨k + 1, by omega, by go_num, HK2⟩
            case measure => simp [intOf]; try omega
      · obtain rfl : k = n := by omega
        have HF := Lib.hid (show is.all (okI lo) = true by have := HK.out; rwa [List.take_of_length_le (by rw [HN.out]; exact Nat.le_refl _)] at this)
        clear hlt
        go_wp2_with fail
        go_ret
        exact ⟨by rw [HF.out]; rfl, rfl⟩
/-- A list is answered, in memory of its own. -/
def LiP (R : List Int) (w : World) (e : Ending) (w' : World) : Prop := ∃ v, e = .returned v ∧ OwI w' w.heap.size v R ∧ Below w.heap.size w w'
theorem LiP.nil {w w' : World} (hb : Below w.heap.size w w') : LiP [] w (.returned (.slice none 0 0)) w' := ⟨_, rfl, Own.nil _ _ _, hb⟩
theorem roomsR_no {is : List Int} (h : okL 0 is = false) : roomsR is = [] := by unfold roomsR; rw [h]; rfl
theorem roomsR_ok {is : List Int} (h : okL 0 is = true) : roomsR is = roomsL is := by unfold roomsR; rw [h]; rfl
theorem okL_parts {lo : Int} {is : List Int} (h : okL lo is = true) : is.length ≤ 60 ∧ is.all (okI lo) = true := by unfold okL at h; simpa using h
theorem step_big {r i : Int} (h : r < i) : roomStep r i = roomZ i := by unfold roomStep; rw [if_pos (.inl h)]
theorem step_small {r i : Int} (h : i < r / 2) : roomStep r i = roomZ i := by unfold roomStep; rw [if_pos (.inr h)]
theorem step_same {r i : Int} (h1 : ¬ r < i) (h2 : ¬ i < r / 2) : roomStep r i = r := by unfold roomStep; rw [if_neg (by omega)]
set_option maxHeartbeats 4000000 in
theorem implRooms_any (is : List Int) (v : Value) (w : World) (h : RdI w v is) (hl : is.length ≤ 1048576) :
    Calls Try.prog 19 #[v] w (LiP (roomsR is) w) := by
  have HOK := Lib.hid (fun w h => areLengths_any is 0 v w h hl)
  have HW := Lib.hid h
  obtain ⟨a, cap, rfl, hcap, hnil, hat⟩ := h.sub
  have HA := Lib.hid hat
  clear h hat hnil
  cases hq : okL 0 is with
  | false =>
    rw [hq] at HOK
    rw [roomsR_no hq]
    go_enter Try.func19, Try.ntmps19
    go_wp2_with fail
    refine (HOK.out _ HW.out).mono ?_
    rintro e w' ⟨rfl, rfl⟩
    go_wp2_with fail
    go_ret
    exact LiP.nil (Below.refl _ _)
  | true =>
    rw [hq] at HOK
    rw [roomsR_ok hq]
    obtain ⟨h60, hall⟩ := okL_parts hq
    have HALL := Lib.hid hall
    clear hq hall
    have HRL := Lib.hid (roomsL_len is)
    obtain ⟨n, hn⟩ : ∃ n, n = is.length := ⟨_, rfl⟩
    have HN := Lib.hid hn
    rw [← hn] at hcap hl h60 HOK HW ⊢
    clear hn
    go_enter Try.func19, Try.ntmps19
    go_wp2_with fail
    refine (HOK.out _ HW.out).mono ?_
    rintro e w' ⟨rfl, rfl⟩
    go_wp2_with (first | (refine mkIo rfl (.tmp 11) (.tmp 11) rfl n _ _ rfl rfl rfl rfl hl ?_; intro w3 ho hb3; have H0 := Lib.hid (show TiI w w3 (roomsL is) n 0 from ⟨hb3, by rw [List.take_zero, List.nil_append, Nat.sub_zero]; exact ho⟩); clear ho hb3))
    go_loopw [4, 15] (fun v i wr => ∃ k : Nat, k ≤ n ∧ i = .int .i64 k ∧ v = .int .i64 (roomFold (is.take k)) ∧ Hid (TiI w wr (roomsL is) n k)) (fun _ i _ => n - (intOf i).toNat)
    case atStart => exact ⟨0, by omega, rfl, rfl, H0⟩
    case round =>
      obtain ⟨k, hk, rfl, rfl, HI⟩ := hrel
      by_cases hlt : k < n
      · obtain ⟨s, hs⟩ : ∃ s, is[k]? = some s := ⟨is[k]'(by have := HN.out; omega), List.getElem?_eq_getElem _⟩
        obtain ⟨x, rfl, hx⟩ := HA.out k s hs
        have c1 : wr.cell? (x.add k) = some (.int .i64 s) := by rw [HI.out.1.cell (World.block_lt_of_cell? w _ hx)]; exact hx
        obtain ⟨c5, f5⟩ := HI.out.2.cellAt (nu_get (HRL.out.trans HN.out.symm) hlt)
        obtain ⟨s0, s1⟩ := okI_parts (List.all_eq_true.1 HALL.out s (List.mem_of_getElem? hs))
        have HT := Lib.hid (HI.out.next (HRL.out.trans HN.out.symm) (roomsL_get (by have := HN.out; omega)))
        have HF := Lib.hid (roomFold_next hs)
        have hr := roomFold_in HALL.out k
        have HRA := Lib.hid (fun w => show Calls Try.prog 16 #[.int .i64 s] w fun e w' => e = .returned (.int .i64 (roomZ s)) ∧ w = w' from by
          have := implRoom_any s w
          unfold roomA at this
          rw [if_pos ⟨s0, s1⟩] at this
          exact this)
        rw [roomFold_next hs] at HT
        clear hs hx
        generalize hg : roomFold (is.take k) = r at *
        have HG := Lib.hid hg
        clear hg
        obtain ⟨r0, r1⟩ := hr
        by_cases hb1 : r < s
        · have HS := Lib.hid (step_big hb1)
          rw [HS.out] at HT HF
          go_wp2_with fail
          refine (HRA.out _).mono ?_
          rintro e w' ⟨rfl, rfl⟩
          go_wp2_with fail
          go_roundw
          case rel => exact ⟨k + 1, by omega, by go_num, by rw [HF.out], HT⟩
          case measure => simp [intOf]; try omega
        · by_cases hb2 : s < r / 2
          · have HS := Lib.hid (step_small hb2)
            rw [HS.out] at HT HF
            go_wp2_with fail
            refine (HRA.out _).mono ?_
            rintro e w' ⟨rfl, rfl⟩
            go_wp2_with fail
            go_roundw
            case rel => exact ⟨k + 1, by omega, by go_num, by rw [HF.out], HT⟩
            case measure => simp [intOf]; try omega
          · have HS := Lib.hid (step_same hb1 hb2)
            rw [HS.out] at HT HF
            go_wp2_with fail
            go_roundw
            case rel => exact ⟨k + 1, by omega, by go_num, by rw [HF.out], HT⟩
            case measure => simp [intOf]; try omega
      · obtain rfl : k = n := by omega
        have HF := Lib.hid (HI.out.all (HRL.out.trans HN.out.symm))
        clear hlt
        go_wp2_with fail
        go_ret
        exact ⟨_, rfl, HF.out, HI.out.1⟩
def RmI (w wr : World) (v : Value) (l : List Int) : Prop := Below w.heap.size w wr ∧ OwI wr w.heap.size v l
theorem all_next {is : List Int} {lo : Int} {k : Nat} {s : Int} (h : (is.take k).all (okI lo) = true) (hs : is[k]? = some s) (h0 : lo ≤ s) (h1 : s ≤ 1000000) : (is.take (k + 1)).all (okI lo) = true := take_all h hs (by unfold okI; simp; omega)
theorem rng_no {s : Int} (h : okI 0 s = false) : (decide ((0:Int) ≤ s) && decide (s ≤ 1000000)) = false := h
set_option maxHeartbeats 4000000 in
theorem specRooms_any (is : List Int) (v : Value) (w : World) (h : RdI w v is) (hl : is.length ≤ 1048576) :
    Calls Try.prog 17 #[v] w (LiP (roomsR is) w) := by
  obtain ⟨a, cap, rfl, hcap, hnil, hat⟩ := h.sub
  have HA := Lib.hid hat
  clear h hat hnil
  by_cases h60 : 60 < is.length
  · rw [roomsR_no (okL_long h60)]
    generalize is.length = n at *
    go_enter Try.func17, Try.ntmps17
    go_wp2
    go_ret
    exact LiP.nil (Below.refl _ _)
  · obtain ⟨n, hn⟩ : ∃ n, n = is.length := ⟨_, rfl⟩
    have HN := Lib.hid hn
    rw [← hn] at hcap hl h60 ⊢
    clear hn
    have H0 := Lib.hid (show RmI w (w.alloc (Obj.cells #[] 3)) (.slice (some ⟨w.heap.size, 0, none⟩) 0 0) [] from ⟨(Below.refl _ _).alloc (Nat.le_refl _) _, World.ownsRow_lit w #[] 0 (Nat.le_refl _) (by decide) rfl⟩)
    go_enter Try.func17, Try.ntmps17
    go_wp2_with fail
    go_loopw [3, 4, 5] (fun v r i wr => ∃ k : Nat, k ≤ n ∧ i = .int .i64 k ∧ r = .int .i64 (roomFold (is.take k)) ∧ Hid ((is.take k).all (okI 0) = true) ∧ Hid (RmI w wr v (roomsL (is.take k)))) (fun _ _ i _ => n - (intOf i).toNat)
    case atStart => exact ⟨0, by omega, rfl, rfl, Lib.hid rfl, H0⟩
    case round =>
      obtain ⟨k, hk, rfl, rfl, HK, HI⟩ := hrel
      by_cases hlt : k < n
      · obtain ⟨s, hs⟩ : ∃ s, is[k]? = some s := ⟨is[k]'(by have := HN.out; omega), List.getElem?_eq_getElem _⟩
        obtain ⟨x, rfl, hx⟩ := HA.out k s hs
        have c1 : wr.cell? (x.add k) = some (.int .i64 s) := by rw [HI.out.1.cell (World.block_lt_of_cell? w _ hx)]; exact hx
        clear hx
        cases hq : okI 0 s with
        | false =>
          have HE := Lib.hid (roomsR_no (is := is) (by unfold okL; rw [not_all hs hq, Bool.and_false]))
          have HR := Lib.hid (rng_no hq)
          clear hs hq
          go_wp2_with fail
          refine (inRange_any _ _ _ _).mono ?_
          rintro e w' ⟨rfl, rfl⟩
          rw [HR.out]
          go_wp2_with fail
          go_ret
          rw [HE.out]
          exact LiP.nil HI.out.1
        | true =>
          have HR := Lib.hid (show (decide ((0:Int) ≤ s) && decide (s ≤ 1000000)) = true from hq)
          obtain ⟨s0, s1⟩ := okI_parts hq
          have HK2 := Lib.hid (all_next HK.out hs s0 s1)
          have HLN := Lib.hid (roomsL_next (show k < is.length by have := HN.out; omega))
          have hr := roomFold_in HK.out k
          rw [List.take_take, Nat.min_self] at hr
          rw [roomFold_next hs] at HLN
          have HF := Lib.hid (roomFold_next hs)
          have HRA := Lib.hid (fun w => roomFor_any s w s0 s1)
          have HLL := Lib.hid (show (roomsL (is.take k)).length + 1 ≤ 1000000 by rw [roomsL_len, List.length_take]; omega)
          have HZ := Lib.hid (show w.heap.size ≤ wr.heap.size from HI.out.1.size)
          clear hs hq
          generalize roomFold (is.take k) = r at *
          generalize hgl : roomsL (is.take k) = l at *
          clear hgl
          obtain ⟨r0, r1⟩ := hr
          by_cases hb1 : r < s
          · have HS := Lib.hid (step_big hb1)
            rw [HS.out] at HLN HF
            go_wp2_with fail
            refine (inRange_any _ _ _ _).mono ?_
            rintro e w' ⟨rfl, rfl⟩
            rw [HR.out]
            go_wp2_with fail
            refine (HRA.out _).mono ?_
            rintro e w' ⟨rfl, rfl⟩
            go_wp2_with (first | (refine appI rfl (.tmp 42) (.tmp 44) rfl wr _ rfl w.heap.size _ l rfl rfl HI.out.2 HLL.out HZ.out ?_; intro v2 w2 ho hb2; have HT := Lib.hid (show RmI w w2 v2 (roomsL (is.take (k + 1))) from ⟨HI.out.1.trans hb2, by rw [HLN.out]; exact ho⟩); clear ho hb2))
            go_roundw
            case rel => exact ⟨k + 1, by omega, by go_num, by rw [HF.out], HK2, HT⟩
            case measure => simp [intOf]; try omega
          · by_cases hb2 : s < r / 2
            · have HS := Lib.hid (step_small hb2)
              rw [HS.out] at HLN HF
              go_wp2_with fail
              refine (inRange_any _ _ _ _).mono ?_
              rintro e w' ⟨rfl, rfl⟩
              rw [HR.out]
              go_wp2_with fail
              refine (HRA.out _).mono ?_
              rintro e w' ⟨rfl, rfl⟩
              go_wp2_with (first | (refine appI rfl (.tmp 42) (.tmp 44) rfl wr _ rfl w.heap.size _ l rfl rfl HI.out.2 HLL.out HZ.out ?_; intro v2 w2 ho hb2; have HT := Lib.hid (show RmI w w2 v2 (roomsL (is.take (k + 1))) from ⟨HI.out.1.trans hb2, by rw [HLN.out]; exact ho⟩); clear ho hb2))
              go_roundw
              case rel => exact ⟨k + 1, by omega, by go_num, by rw [HF.out], HK2, HT⟩
              case measure => simp [intOf]; try omega
            · have HS := Lib.hid (step_same hb1 hb2)
              rw [HS.out] at HLN HF
              go_wp2_with fail
              refine (inRange_any _ _ _ _).mono ?_
              rintro e w' ⟨rfl, rfl⟩
              rw [HR.out]
              go_wp2_with (first | (refine appI rfl (.tmp 42) (.tmp 44) rfl wr _ rfl w.heap.size _ l rfl rfl HI.out.2 HLL.out HZ.out ?_; intro v2 w2 ho hb2; have HT := Lib.hid (show RmI w w2 v2 (roomsL (is.take (k + 1))) from ⟨HI.out.1.trans hb2, by rw [HLN.out]; exact ho⟩); clear ho hb2))
              go_roundw
              case rel => exact ⟨k + 1, by omega, by go_num, by rw [HF.out], HK2, HT⟩
              case measure => simp [intOf]; try omega
      · obtain rfl : k = n := by omega
        have HF := Lib.hid (show roomsL (is.take k) = roomsR is by
          rw [List.take_of_length_le (by rw [HN.out]; exact Nat.le_refl _), roomsR_ok]
          rw [okL_short (by have := HN.out; omega)]
          have := HK.out
          rwa [List.take_of_length_le (by rw [HN.out]; exact Nat.le_refl _)] at this)
        clear hlt
        go_wp2_with fail
        go_ret
        exact ⟨_, rfl, by rw [← HF.out]; exact HI.out.2, HI.out.1⟩
end Go.Proofs.Ytbcphejblopekaa
