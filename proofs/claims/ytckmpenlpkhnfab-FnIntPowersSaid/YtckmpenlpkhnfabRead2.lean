/- impl.readInteger, its other ways. -/
import Derived.Test.YtckmpenlpkhnfabRead
namespace Go.Proofs.Ytckmpenlpkhnfab
open Go.RowKit
theorem rd_zero (w : World) : Blk (w.alloc (Obj.cells Try.zeroCells43 43)) w.heap.size 43 (irow 0 false) := (Blk.new _ _ _ rfl).same zero81
theorem rd_below (w : World) : Below w.heap.size w (w.alloc (Obj.cells Try.zeroCells43 43)) := (Below.refl _ _).alloc (Nat.le_refl _) _
theorem rd_start (w : World) (d : List UInt8) : RdInv w ((w.alloc (Obj.cells Try.zeroCells43 43)).alloc (Obj.cells Try.zeroCells41 41)) d (w.heap.size + 1) 0 := by
  refine ⟨(rd_below w).alloc (by simp) _, (rd_zero w).alloc _, by omega, ?_, ?_⟩
  · refine (Blk.new _ _ _ (by simp)).same ?_
    rw [zero80]; simp [valD]
  · simp
theorem st81z {ops : Array Oper} {rest : List Oper} {o : Oper} {a : Act} {w : World} {Q : Exit → Act → World → Prop} (hgd : o.guard = none) (x y : Operand) (ho : o.op = .store 43 x y) (g : Nat) (hx : a.eval x = .pointer (some ⟨g, 0, none⟩)) (hy : a.eval y = .agg Try.zeroCells43) {t : TypeId} {old : Array Value} (hg : Blk w g t old) (hs : old.size = 81) (k : wpList Try.prog ops Q rest (a.put o.dst undef) (w.setRow g (irow 0 false))) : wpList Try.prog ops Q (o :: rest) a w :=
  st81 hgd x y ho g hx (by rw [hy, zero81]) hg hs k
def RdPost (w : World) (neg : Bool) (d : List UInt8) (e : Ending) (w' : World) : Prop := e = .returned (if d.all digB then .tuple #[.agg (ival (sgn neg (valD d))), .bool true] else .tuple #[.agg (irow 0 false), .bool false]) ∧ Below w.heap.size w w'
theorem byte_at (s : ByteArray) (i : Nat) (h : i < s.size) : s.data.toList[i]? = some s[i] := by
  rw [List.getElem?_eq_getElem (by simpa using h)]; rfl
theorem len_data (s : ByteArray) : s.data.toList.length = s.size := rfl
theorem head_data (s : ByteArray) (h : 0 < s.size) : s.data.toList.head? = some s[0] := by rw [List.head?_eq_getElem?, byte_at s 0 h]
theorem rd_all {w wr : World} {d : List UInt8} {g k : Nat} (h : RdInv w wr d g k) (hk : k = d.length) : Blk wr g 41 (row80 (valD d)) ∧ d.all digB = true := by
  subst hk
  have h4 := h.2.2.2.1
  have h5 := h.2.2.2.2
  rw [Nat.sub_self, List.drop_zero] at h4 h5
  exact ⟨h4, h5⟩
theorem all_bad {s : ByteArray} {i : Nat} (hi : i < s.size) (h : ¬ (48 ≤ s[i].toNat ∧ s[i].toNat ≤ 57)) : s.data.toList.all digB = false := by
  rw [List.all_eq_false]
  exact ⟨s[i], List.mem_of_getElem? (byte_at s i hi), by rw [digB_iff]; exact h⟩
theorem val_lt80 {d : List UInt8} (h : d.all digB = true) (hl : d.length ≤ 40) : valD d < 10 ^ 80 :=
  Nat.lt_of_lt_of_le (valD_lt d h) (Nat.pow_le_pow_right (by omega) (by omega))
set_option maxHeartbeats 1000000 in
theorem read_pos_loop (s : ByteArray) (w : World) (h0 : 0 < s.size) (h40 : s.size ≤ 40) (h45 : ((s[0].toNat : Int) == 45) = false) (h48 : ¬ (s[0].toNat = 48 ∧ 1 < s.size)) :
    Calls Try.prog 56 #[.string s] w (RdPost w false s.data.toList) := by
  have hne : ((s.size : Int) == 0) = false := beq_eq_false_iff_ne.2 (by omega)
  have hgt : (0 : Int) < s.size := by omega
  have HS := Lib.hid (rd_start w s.data.toList)
  by_cases h1 : s[0].toNat = 48
  · have h2 : s.size ≤ 1 := by omega
    have h48' : ((s[0].toNat : Int) == 48) = true := beq_iff_eq.2 (by omega)
    clear h1 h48
    go_enter Try.func56, Try.ntmps56
    go_wp2_with fail
    clear h2 h48' h45 hne
    go_loopw [42] (fun i wr => ∃ k : Nat, k ≤ s.size ∧ i = .int .i64 k ∧ RdInv w wr s.data.toList (w.heap.size + 1) k) (fun i _ => s.size - (intOf i).toNat)
    case atStart => exact ⟨0, by omega, rfl, HS.out⟩
    case round =>
      obtain ⟨k, hk, rfl, hI⟩ := hrel
      have HI := Lib.hid hI
      clear hI HS
      by_cases hlt : k < s.size
      · have cz : wr.cell? ⟨w.heap.size + 1, k, none⟩ = some (.int .u8 (dg (valD (s.data.toList.drop (s.data.toList.length - k))) k)) := by rw [HI.out.2.2.2.1.cell, row80_get _ _ (by omega)]
        have fz : wr.frozen? ⟨w.heap.size + 1, k, none⟩ = false := HI.out.2.2.2.1.free _
        have hix : s.size - 1 - k < s.size := by omega
        by_cases hd : 48 ≤ s[s.size - 1 - k].toNat ∧ s[s.size - 1 - k].toNat ≤ 57
        · have hd1 := hd.1
          have hd2 := hd.2
          go_wp2_with fail
          go_roundw
          case rel => exact ⟨k + 1, by omega, by go_num, rd_step HI.out (by rw [len_data]; omega) _ (by rw [len_data]; exact byte_at _ _ hix) hd1 hd2⟩
          case measure => simp [intOf]; try omega
        · have HBad := Lib.hid (all_bad hix hd)
          by_cases hlo : s[s.size - 1 - k].toNat < 48
          · clear hd
            go_wp2_with (first | (refine bd81 rfl rfl ?_) | (refine st81 rfl (.tmp 2) (.tmp 58) rfl w.heap.size rfl rfl (t := 43) (old := irow 0 false) ?_ ?_ ?_; exact HI.out.2.1; exact irow_size _ _) | (refine st81z rfl (.tmp 2) (.tmp 58) rfl w.heap.size rfl rfl (t := 43) (old := irow 0 false) ?_ ?_ ?_; exact HI.out.2.1; exact irow_size _ _))
            exact bodyPost_ret (v := .tuple #[.agg (irow 0 false), .bool false]) (results_one_tmp rfl _ _ rfl rfl (var81 HI.out.2.1.row)) rfl ⟨by rw [if_neg (by rw [HBad.out]; simp)], below_setRow HI.out.1 (by omega)⟩
          · have hhi : 57 < s[s.size - 1 - k].toNat := by omega
            have hlo' : 48 ≤ s[s.size - 1 - k].toNat := by omega
            clear hd hlo
            go_wp2_with (first | (refine bd81 rfl rfl ?_) | (refine st81 rfl (.tmp 2) (.tmp 58) rfl w.heap.size rfl rfl (t := 43) (old := irow 0 false) ?_ ?_ ?_; exact HI.out.2.1; exact irow_size _ _) | (refine st81z rfl (.tmp 2) (.tmp 58) rfl w.heap.size rfl rfl (t := 43) (old := irow 0 false) ?_ ?_ ?_; exact HI.out.2.1; exact irow_size _ _))
            exact bodyPost_ret (v := .tuple #[.agg (irow 0 false), .bool false]) (results_one_tmp rfl _ _ rfl rfl (var81 HI.out.2.1.row)) rfl ⟨by rw [if_neg (by rw [HBad.out]; simp)], below_setRow HI.out.1 (by omega)⟩
      · obtain rfl : k = s.size := by omega
        have hall := rd_all HI.out (len_data s).symm
        have HA := Lib.hid hall
        have hv := Lib.hid (val_lt80 hall.2 (by rw [len_data]; exact h40))
        clear hall
        go_wp2_with (first | (refine ld80 rfl (.tmp 5) rfl _ 0 rfl (HA.out.1.lies) ?_) | (go_at_call 57; refine (make_any (valD s.data.toList) false _ hv.out).mono ?_; rintro e w2 ⟨rfl, hb2⟩; have HB2 := Lib.hid (HI.out.2.1.below hb2 HI.out.2.1.lt); have HW := Lib.hid (HI.out.1.trans (hb2.mono HI.out.1.size)); clear hb2) | (refine st81 rfl (.tmp 2) (.tmp 66) rfl w.heap.size rfl rfl (t := 43) (old := irow 0 false) ?_ ?_ ?_; exact HB2.out; exact irow_size _ _))
        exact bodyPost_ret (v := .tuple #[.agg (ival (sgn false (valD s.data.toList))), .bool true]) (results_one_tmp rfl _ _ rfl rfl (var81 HB2.out.row)) rfl ⟨by rw [if_pos HA.out.2], below_setRow HW.out (by omega)⟩
  · have h48' : ((s[0].toNat : Int) == 48) = false := beq_eq_false_iff_ne.2 (by omega)
    clear h1 h48
    go_enter Try.func56, Try.ntmps56
    go_wp2_with fail
    go_loopw [42] (fun i wr => ∃ k : Nat, k ≤ s.size ∧ i = .int .i64 k ∧ RdInv w wr s.data.toList (w.heap.size + 1) k) (fun i _ => s.size - (intOf i).toNat)
    case atStart => exact ⟨0, by omega, rfl, HS.out⟩
    case round =>
      obtain ⟨k, hk, rfl, hI⟩ := hrel
      have HI := Lib.hid hI
      clear hI HS
      by_cases hlt : k < s.size
      · have cz : wr.cell? ⟨w.heap.size + 1, k, none⟩ = some (.int .u8 (dg (valD (s.data.toList.drop (s.data.toList.length - k))) k)) := by rw [HI.out.2.2.2.1.cell, row80_get _ _ (by omega)]
        have fz : wr.frozen? ⟨w.heap.size + 1, k, none⟩ = false := HI.out.2.2.2.1.free _
        have hix : s.size - 1 - k < s.size := by omega
        by_cases hd : 48 ≤ s[s.size - 1 - k].toNat ∧ s[s.size - 1 - k].toNat ≤ 57
        · have hd1 := hd.1
          have hd2 := hd.2
          go_wp2_with fail
          go_roundw
          case rel => exact ⟨k + 1, by omega, by go_num, rd_step HI.out (by rw [len_data]; omega) _ (by rw [len_data]; exact byte_at _ _ hix) hd1 hd2⟩
          case measure => simp [intOf]; try omega
        · have HBad := Lib.hid (all_bad hix hd)
          by_cases hlo : s[s.size - 1 - k].toNat < 48
          · clear hd
            go_wp2_with (first | (refine bd81 rfl rfl ?_) | (refine st81 rfl (.tmp 2) (.tmp 58) rfl w.heap.size rfl rfl (t := 43) (old := irow 0 false) ?_ ?_ ?_; exact HI.out.2.1; exact irow_size _ _) | (refine st81z rfl (.tmp 2) (.tmp 58) rfl w.heap.size rfl rfl (t := 43) (old := irow 0 false) ?_ ?_ ?_; exact HI.out.2.1; exact irow_size _ _))
            exact bodyPost_ret (v := .tuple #[.agg (irow 0 false), .bool false]) (results_one_tmp rfl _ _ rfl rfl (var81 HI.out.2.1.row)) rfl ⟨by rw [if_neg (by rw [HBad.out]; simp)], below_setRow HI.out.1 (by omega)⟩
          · have hhi : 57 < s[s.size - 1 - k].toNat := by omega
            have hlo' : 48 ≤ s[s.size - 1 - k].toNat := by omega
            clear hd hlo
            go_wp2_with (first | (refine bd81 rfl rfl ?_) | (refine st81 rfl (.tmp 2) (.tmp 58) rfl w.heap.size rfl rfl (t := 43) (old := irow 0 false) ?_ ?_ ?_; exact HI.out.2.1; exact irow_size _ _) | (refine st81z rfl (.tmp 2) (.tmp 58) rfl w.heap.size rfl rfl (t := 43) (old := irow 0 false) ?_ ?_ ?_; exact HI.out.2.1; exact irow_size _ _))
            exact bodyPost_ret (v := .tuple #[.agg (irow 0 false), .bool false]) (results_one_tmp rfl _ _ rfl rfl (var81 HI.out.2.1.row)) rfl ⟨by rw [if_neg (by rw [HBad.out]; simp)], below_setRow HI.out.1 (by omega)⟩
      · obtain rfl : k = s.size := by omega
        have hall := rd_all HI.out (len_data s).symm
        have HA := Lib.hid hall
        have hv := Lib.hid (val_lt80 hall.2 (by rw [len_data]; exact h40))
        clear hall
        go_wp2_with (first | (refine ld80 rfl (.tmp 5) rfl _ 0 rfl (HA.out.1.lies) ?_) | (go_at_call 57; refine (make_any (valD s.data.toList) false _ hv.out).mono ?_; rintro e w2 ⟨rfl, hb2⟩; have HB2 := Lib.hid (HI.out.2.1.below hb2 HI.out.2.1.lt); have HW := Lib.hid (HI.out.1.trans (hb2.mono HI.out.1.size)); clear hb2) | (refine st81 rfl (.tmp 2) (.tmp 66) rfl w.heap.size rfl rfl (t := 43) (old := irow 0 false) ?_ ?_ ?_; exact HB2.out; exact irow_size _ _))
        exact bodyPost_ret (v := .tuple #[.agg (ival (sgn false (valD s.data.toList))), .bool true]) (results_one_tmp rfl _ _ rfl rfl (var81 HB2.out.row)) rfl ⟨by rw [if_pos HA.out.2], below_setRow HW.out (by omega)⟩
set_option maxHeartbeats 1000000 in
theorem read_neg_loop (s t : ByteArray) (w : World) (h0 : 0 < s.size) (h45 : ((s[0].toNat : Int) == 45) = true) (ht : s.extract 1 s.size = t) (hts : s.size - 1 = t.size) (h0t : 0 < t.size) (h40 : t.size ≤ 40) (h48 : ((t[0].toNat : Int) == 48) = false) :
    Calls Try.prog 56 #[.string s] w (RdPost w true t.data.toList) := by
  have hne : ((t.size : Int) == 0) = false := beq_eq_false_iff_ne.2 (by omega)
  have hgt : (0 : Int) < s.size := by omega
  have HS := Lib.hid (rd_start w t.data.toList)
  have HTS := Lib.hid hts
  clear hts
  all_goals
    go_enter Try.func56, Try.ntmps56
    go_wp2_with fail
    go_loopw [42] (fun i wr => ∃ k : Nat, k ≤ t.size ∧ i = .int .i64 k ∧ RdInv w wr t.data.toList (w.heap.size + 1) k) (fun i _ => t.size - (intOf i).toNat)
    case atStart => exact ⟨0, by omega, rfl, HS.out⟩
    case round =>
      obtain ⟨k, hk, rfl, hI⟩ := hrel
      have HI := Lib.hid hI
      clear hI HS
      by_cases hlt : k < t.size
      · have cz : wr.cell? ⟨w.heap.size + 1, k, none⟩ = some (.int .u8 (dg (valD (t.data.toList.drop (t.data.toList.length - k))) k)) := by rw [HI.out.2.2.2.1.cell, row80_get _ _ (by omega)]
        have fz : wr.frozen? ⟨w.heap.size + 1, k, none⟩ = false := HI.out.2.2.2.1.free _
        have hix : t.size - 1 - k < t.size := by omega
        by_cases hd : 48 ≤ t[t.size - 1 - k].toNat ∧ t[t.size - 1 - k].toNat ≤ 57
        · have hd1 := hd.1
          have hd2 := hd.2
          go_wp2_with fail
          go_roundw
          case rel => exact ⟨k + 1, by omega, by go_num, rd_step HI.out (by rw [len_data]; omega) _ (by rw [len_data]; exact byte_at _ _ hix) hd1 hd2⟩
          case measure => simp [intOf]; try omega
        · have HBad := Lib.hid (all_bad hix hd)
          by_cases hlo : t[t.size - 1 - k].toNat < 48
          · clear hd
            go_wp2_with (first | (refine bd81 rfl rfl ?_) | (refine st81 rfl (.tmp 2) (.tmp 58) rfl w.heap.size rfl rfl (t := 43) (old := irow 0 false) ?_ ?_ ?_; exact HI.out.2.1; exact irow_size _ _) | (refine st81z rfl (.tmp 2) (.tmp 58) rfl w.heap.size rfl rfl (t := 43) (old := irow 0 false) ?_ ?_ ?_; exact HI.out.2.1; exact irow_size _ _))
            exact bodyPost_ret (v := .tuple #[.agg (irow 0 false), .bool false]) (results_one_tmp rfl _ _ rfl rfl (var81 HI.out.2.1.row)) rfl ⟨by rw [if_neg (by rw [HBad.out]; simp)], below_setRow HI.out.1 (by omega)⟩
          · have hhi : 57 < t[t.size - 1 - k].toNat := by omega
            have hlo' : 48 ≤ t[t.size - 1 - k].toNat := by omega
            clear hd hlo
            go_wp2_with (first | (refine bd81 rfl rfl ?_) | (refine st81 rfl (.tmp 2) (.tmp 58) rfl w.heap.size rfl rfl (t := 43) (old := irow 0 false) ?_ ?_ ?_; exact HI.out.2.1; exact irow_size _ _) | (refine st81z rfl (.tmp 2) (.tmp 58) rfl w.heap.size rfl rfl (t := 43) (old := irow 0 false) ?_ ?_ ?_; exact HI.out.2.1; exact irow_size _ _))
            exact bodyPost_ret (v := .tuple #[.agg (irow 0 false), .bool false]) (results_one_tmp rfl _ _ rfl rfl (var81 HI.out.2.1.row)) rfl ⟨by rw [if_neg (by rw [HBad.out]; simp)], below_setRow HI.out.1 (by omega)⟩
      · obtain rfl : k = t.size := by omega
        have hall := rd_all HI.out (len_data t).symm
        have HA := Lib.hid hall
        have hv := Lib.hid (val_lt80 hall.2 (by rw [len_data]; exact h40))
        clear hall
        go_wp2_with (first | (refine ld80 rfl (.tmp 5) rfl _ 0 rfl (HA.out.1.lies) ?_) | (go_at_call 57; refine (make_any (valD t.data.toList) true _ hv.out).mono ?_; rintro e w2 ⟨rfl, hb2⟩; have HB2 := Lib.hid (HI.out.2.1.below hb2 HI.out.2.1.lt); have HW := Lib.hid (HI.out.1.trans (hb2.mono HI.out.1.size)); clear hb2) | (refine st81 rfl (.tmp 2) (.tmp 66) rfl w.heap.size rfl rfl (t := 43) (old := irow 0 false) ?_ ?_ ?_; exact HB2.out; exact irow_size _ _))
        exact bodyPost_ret (v := .tuple #[.agg (ival (sgn true (valD t.data.toList))), .bool true]) (results_one_tmp rfl _ _ rfl rfl (var81 HB2.out.row)) rfl ⟨by rw [if_pos HA.out.2], below_setRow HW.out (by omega)⟩
set_option maxHeartbeats 400000 in
theorem read_pos_long (s : ByteArray) (w : World) (h40 : 40 < s.size) (h45 : ((s[0].toNat : Int) == 45) = false) :
    Calls Try.prog 56 #[.string s] w fun e w' => e = .returned (.tuple #[.agg (irow 0 false), .bool false]) ∧ Below w.heap.size w w' := by
  have H0 := Lib.hid (rd_zero w)
  have hgt : (0 : Int) < s.size := by omega
  have hne : ((s.size : Int) == 0) = false := beq_eq_false_iff_ne.2 (by omega)
  go_enter Try.func56, Try.ntmps56
  go_wp2_with (first | (refine bd81 rfl rfl ?_) | (refine st81 rfl (.tmp 2) (.tmp 27) rfl w.heap.size rfl rfl (t := 43) (old := irow 0 false) ?_ ?_ ?_; exact H0.out; exact irow_size _ _))
  exact bodyPost_ret (v := .tuple #[.agg (irow 0 false), .bool false]) (results_one_tmp rfl _ _ rfl rfl (var81 H0.out.row)) rfl ⟨rfl, below_setRow (rd_below w) (by omega)⟩
set_option maxHeartbeats 400000 in
theorem read_pos_zero (s : ByteArray) (w : World) (h1 : 1 < s.size) (h40 : s.size ≤ 40) (h45 : ((s[0].toNat : Int) == 45) = false) (h48 : ((s[0].toNat : Int) == 48) = true) :
    Calls Try.prog 56 #[.string s] w fun e w' => e = .returned (.tuple #[.agg (irow 0 false), .bool false]) ∧ Below w.heap.size w w' := by
  have H0 := Lib.hid (rd_zero w)
  have hgt : (0 : Int) < s.size := by omega
  have hne : ((s.size : Int) == 0) = false := beq_eq_false_iff_ne.2 (by omega)
  go_enter Try.func56, Try.ntmps56
  go_wp2_with (first | (refine bd81 rfl rfl ?_) | (refine st81 rfl (.tmp 2) (.tmp 39) rfl w.heap.size rfl rfl (t := 43) (old := irow 0 false) ?_ ?_ ?_; exact H0.out; exact irow_size _ _))
  exact bodyPost_ret (v := .tuple #[.agg (irow 0 false), .bool false]) (results_one_tmp rfl _ _ rfl rfl (var81 H0.out.row)) rfl ⟨rfl, below_setRow (rd_below w) (by omega)⟩
set_option maxHeartbeats 400000 in
theorem read_neg_none (s t : ByteArray) (w : World) (h0 : 0 < s.size) (h45 : ((s[0].toNat : Int) == 45) = true) (ht : s.extract 1 s.size = t) (h1 : t.size = 0) :
    Calls Try.prog 56 #[.string s] w fun e w' => e = .returned (.tuple #[.agg (irow 0 false), .bool false]) ∧ Below w.heap.size w w' := by
  have H0 := Lib.hid (rd_zero w)
  have hgt : (0 : Int) < s.size := by omega
  have hne : ((t.size : Int) == 0) = true := beq_iff_eq.2 (by omega)
  go_enter Try.func56, Try.ntmps56
  go_wp2_with (first | (refine bd81 rfl rfl ?_) | (refine st81 rfl (.tmp 2) (.tmp 27) rfl w.heap.size rfl rfl (t := 43) (old := irow 0 false) ?_ ?_ ?_; exact H0.out; exact irow_size _ _))
  exact bodyPost_ret (v := .tuple #[.agg (irow 0 false), .bool false]) (results_one_tmp rfl _ _ rfl rfl (var81 H0.out.row)) rfl ⟨rfl, below_setRow (rd_below w) (by omega)⟩
set_option maxHeartbeats 400000 in
theorem read_neg_long (s t : ByteArray) (w : World) (h0 : 0 < s.size) (h45 : ((s[0].toNat : Int) == 45) = true) (ht : s.extract 1 s.size = t) (h40 : 40 < t.size) :
    Calls Try.prog 56 #[.string s] w fun e w' => e = .returned (.tuple #[.agg (irow 0 false), .bool false]) ∧ Below w.heap.size w w' := by
  have H0 := Lib.hid (rd_zero w)
  have hgt : (0 : Int) < s.size := by omega
  have hne : ((t.size : Int) == 0) = false := beq_eq_false_iff_ne.2 (by omega)
  go_enter Try.func56, Try.ntmps56
  go_wp2_with (first | (refine bd81 rfl rfl ?_) | (refine st81 rfl (.tmp 2) (.tmp 27) rfl w.heap.size rfl rfl (t := 43) (old := irow 0 false) ?_ ?_ ?_; exact H0.out; exact irow_size _ _))
  exact bodyPost_ret (v := .tuple #[.agg (irow 0 false), .bool false]) (results_one_tmp rfl _ _ rfl rfl (var81 H0.out.row)) rfl ⟨rfl, below_setRow (rd_below w) (by omega)⟩
set_option maxHeartbeats 400000 in
theorem read_neg_zero (s t : ByteArray) (w : World) (h0 : 0 < s.size) (h45 : ((s[0].toNat : Int) == 45) = true) (ht : s.extract 1 s.size = t) (h0t : 0 < t.size) (h40 : t.size ≤ 40) (h48 : ((t[0].toNat : Int) == 48) = true) :
    Calls Try.prog 56 #[.string s] w fun e w' => e = .returned (.tuple #[.agg (irow 0 false), .bool false]) ∧ Below w.heap.size w w' := by
  have H0 := Lib.hid (rd_zero w)
  have hgt : (0 : Int) < s.size := by omega
  have hne : ((t.size : Int) == 0) = false := beq_eq_false_iff_ne.2 (by omega)
  go_enter Try.func56, Try.ntmps56
  go_wp2_with (first | (refine bd81 rfl rfl ?_) | (refine st81 rfl (.tmp 2) (.tmp 39) rfl w.heap.size rfl rfl (t := 43) (old := irow 0 false) ?_ ?_ ?_; exact H0.out; exact irow_size _ _))
  exact bodyPost_ret (v := .tuple #[.agg (irow 0 false), .bool false]) (results_one_tmp rfl _ _ rfl rfl (var81 H0.out.row)) rfl ⟨rfl, below_setRow (rd_below w) (by omega)⟩
end Go.Proofs.Ytckmpenlpkhnfab
