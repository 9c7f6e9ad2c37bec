/- A text repeated: the program's, the model's, the law. -/
import Derived.Test.YtfmpplolhhjpoaaAt
import Derived.Lib.AppendStr
namespace Go.Proofs.Ytfmpplolhhjpoaa
open Go.RowKit
/-- A text repeated. -/
def rp : Nat → List UInt8 → List UInt8
  | 0, _ => []
  | n + 1, l => rp n l ++ l
theorem rp_len (n : Nat) (l : List UInt8) : (rp n l).length = n * l.length := by
  induction n with
  | zero => simp [rp]
  | succ n ih => unfold rp; rw [List.length_append, ih, Nat.add_mul, Nat.one_mul]
theorem rp_size (n : Nat) (s : ByteArray) : (⟨(rp n s.data.toList).toArray⟩ : ByteArray).size = n * s.size := by
  show (rp n s.data.toList).toArray.size = _
  rw [List.size_toArray, rp_len]; rfl
theorem rp_cat (n : Nat) (s : ByteArray) : (⟨(rp n s.data.toList).toArray⟩ ++ s : ByteArray) = ⟨(rp (n + 1) s.data.toList).toArray⟩ := by
  apply ByteArray.ext
  simp [rp]
theorem toList_ne {s : ByteArray} (h : 0 < s.size) : (s.toList == []) = false := by
  rw [beq_eq_false_iff_ne, ByteArray.toList_eq]
  intro h2
  have : s.data.toList.length = s.size := rfl
  rw [h2] at this
  simp at this; omega
theorem toList_nil {s : ByteArray} (h : s.size = 0) : (s.toList == []) = true := by
  rw [beq_iff_eq, ByteArray.toList_eq]
  exact List.eq_nil_of_length_eq_zero h
theorem many_room {s : ByteArray} {n : Int} (_hok : okT s = true) (hz : 0 < s.size) (hn : 0 < n) (hq : n ≤ 400 / (s.size : Int)) : ∀ k : Nat, k ≤ n.toNat → (rp k s.data.toList).length ≤ 400 := by
  intro k hk
  rw [rp_len]
  have h1 : n * (s.size : Int) ≤ 400 := Int.le_trans (Int.mul_le_mul_of_nonneg_right hq (by omega)) (Int.ediv_mul_le 400 (by omega))
  have h2 : (k : Int) * (s.size : Int) ≤ n * (s.size : Int) := Int.mul_le_mul_of_nonneg_right (by omega) (by omega)
  have h3 : ((k * s.size : Nat) : Int) ≤ 400 := by rw [Int.natCast_mul]; omega
  have : s.data.toList.length = s.size := rfl
  rw [this]; omega
theorem many_le {s : ByteArray} {n : Int} (_hz : 0 < s.size) (hq : n ≤ 400 / (s.size : Int)) : n ≤ 400 := by
  have : 400 / (s.size : Int) ≤ 400 := Int.ediv_le_self _ (by decide)
  omega
/-- Bytes as values. -/
def bv (l : List UInt8) : List Value := l.map fun c : UInt8 => Value.int .u8 (c.toNat : Int)
theorem many_next {w wr w' : World} {s : ByteArray} {k : Nat} {v v' : Value} (h : Below w.heap.size w wr ∧ wr.ownsRow w.heap.size 5 1 v (k * s.size) (bv (rp k s.data.toList))) (ho : w'.ownsRow w.heap.size 5 1 v' (k * s.size + s.size) (bv (rp k s.data.toList) ++ Lib.strCells s)) (hg : wr.grownBy w' v.ownBlock) : Below w.heap.size w w' ∧ w'.ownsRow w.heap.size 5 1 v' ((k + 1) * s.size) (bv (rp (k + 1) s.data.toList)) := by
  refine ⟨h.1.grown hg h.1.size fun j hj => (World.ownsRow.lt h.2 j hj).1, ?_⟩
  have e : bv (rp k s.data.toList) ++ Lib.strCells s = bv (rp (k + 1) s.data.toList) := by simp [bv, rp, Lib.strCells]
  rw [e] at ho
  rw [Nat.add_mul, Nat.one_mul]
  exact ho
theorem many_own {w : World} {base : Nat} {s : ByteArray} {k : Nat} {v : Value} (h : w.ownsRow base 5 1 v (k * s.size) (bv (rp k s.data.toList))) : Own w base 5 v ((rp k s.data.toList).map fun c => Value.int .u8 (c.toNat : Int)) := by
  unfold Own
  rw [List.length_map, rp_len]
  exact h
set_option maxHeartbeats 1000000 in
theorem specManyA (s : ByteArray) (n : Int) (w : World) (hs : s.size ≤ 1048576) (hok : okT s = false) :
    Calls Try.prog 35 #[.string s, .int .i64 n] w fun e w' => e = .returned (.tuple #[.string ⟨#[]⟩, .bool false]) ∧ Below w.heap.size w w' := by
  have HV := Lib.hid (fun w => validText_any s w hs)
  rw [hok] at HV
  clear hok
  go_enter Try.func35, Try.ntmps35
  go_wp2_with (first | (go_at_call 45; refine (HV.out _).mono ?_; rintro e w' ⟨rfl, rfl⟩))
  go_ret2
  exact ⟨rfl, Below.refl _ _⟩
set_option maxHeartbeats 1000000 in
theorem specManyB (s : ByteArray) (n : Int) (w : World) (hs : s.size ≤ 1048576) (hok : okT s = true) (hn : n ≤ 0) :
    Calls Try.prog 35 #[.string s, .int .i64 n] w fun e w' => e = .returned (.tuple #[.string ⟨#[]⟩, .bool true]) ∧ Below w.heap.size w w' := by
  have HV := Lib.hid (fun w => validText_any s w hs)
  rw [hok] at HV
  clear hok
  go_enter Try.func35, Try.ntmps35
  go_wp2_with (first | (go_at_call 45; refine (HV.out _).mono ?_; rintro e w' ⟨rfl, rfl⟩))
  go_ret2
  exact ⟨rfl, Below.refl _ _⟩
set_option maxHeartbeats 1000000 in
theorem specManyC (s : ByteArray) (n : Int) (w : World) (hs : s.size ≤ 1048576) (hok : okT s = true) (hn : 0 < n) (hz : s.size = 0) :
    Calls Try.prog 35 #[.string s, .int .i64 n] w fun e w' => e = .returned (.tuple #[.string ⟨#[]⟩, .bool true]) ∧ Below w.heap.size w w' := by
  have HV := Lib.hid (fun w => validText_any s w hs)
  rw [hok] at HV
  clear hok
  have hse : (s.toList == []) = true := toList_nil hz
  go_enter Try.func35, Try.ntmps35
  go_wp2_with (first | (go_at_call 45; refine (HV.out _).mono ?_; rintro e w' ⟨rfl, rfl⟩))
  go_ret2
  exact ⟨rfl, Below.refl _ _⟩
set_option maxHeartbeats 1000000 in
theorem specManyD (s : ByteArray) (n : Int) (w : World) (hs : s.size ≤ 1048576) (hok : okT s = true) (hn : 0 < n) (hz : 0 < s.size) (hq : 400 / (s.size : Int) < n) :
    Calls Try.prog 35 #[.string s, .int .i64 n] w fun e w' => e = .returned (.tuple #[.string ⟨#[]⟩, .bool false]) ∧ Below w.heap.size w w' := by
  have HV := Lib.hid (fun w => validText_any s w hs)
  rw [hok] at HV
  clear hok
  have hse : (s.toList == []) = false := toList_ne hz
  go_enter Try.func35, Try.ntmps35
  go_wp2_with (first | (go_at_call 45; refine (HV.out _).mono ?_; rintro e w' ⟨rfl, rfl⟩))
  go_ret2
  exact ⟨rfl, Below.refl _ _⟩
set_option maxHeartbeats 1000000 in
theorem specManyE (s : ByteArray) (n : Int) (w : World) (hs : s.size ≤ 1048576) (hok : okT s = true) (hn : 0 < n) (hz : 0 < s.size) (hq : n ≤ 400 / (s.size : Int)) :
    Calls Try.prog 35 #[.string s, .int .i64 n] w fun e w' => e = .returned (.tuple #[.string ⟨(rp n.toNat s.data.toList).toArray⟩, .bool true]) ∧ Below w.heap.size w w' := by
  have HV := Lib.hid (fun w => validText_any s w hs)
  rw [hok] at HV
  have HM := Lib.hid (many_room hok hz hn hq)
  clear hok
  have hse : (s.toList == []) = false := toList_ne hz
  have hk4 : n ≤ 400 := many_le hz hq
  obtain ⟨k0, rfl⟩ : ∃ k0 : Nat, n = (k0 : Int) := ⟨n.toNat, by omega⟩
  rw [Int.toNat_natCast] at *
  have hk00 : ¬ k0 = 0 := by omega
  go_enter Try.func35, Try.ntmps35
  go_wp2_with (first | (go_at_call 45; refine (HV.out _).mono ?_; rintro e w' ⟨rfl, rfl⟩))
  go_loop [6, 7] (fun v i => ∃ k : Nat, k ≤ k0 ∧ i = .int .i64 k ∧ v = .string ⟨(rp k s.data.toList).toArray⟩) (fun _ i => k0 - (intOf i).toNat)
  case atStart => exact ⟨0, by omega, rfl, rfl⟩
  case round =>
    obtain ⟨k, hk, rfl, rfl⟩ := hrel
    by_cases hlt : k < k0
    · have HL := Lib.hid (show (⟨(rp k s.data.toList).toArray⟩ : ByteArray).size + s.size ≤ 9223372036854775807 by
        have h1 := HM.out (k + 1) (by omega)
        rw [rp_len] at h1
        have h2 := rp_size k s
        rw [h2]
        rw [show s.data.toList.length = s.size from rfl] at h1
        have : (k + 1) * s.size = k * s.size + s.size := by rw [Nat.add_mul, Nat.one_mul]
        omega)
      have HC := Lib.hid (rp_cat k s)
      go_wp2_with (first | (refine (puts_cat 9 9 (.tmp 27) (.tmp 28) rfl _ s rfl rfl HL.out).gives.plain rfl ?_; rw [HC.out]))
      go_round
      case rel => exact ⟨k + 1, by omega, by go_num, rfl⟩
      case measure => simp [intOf]; try omega
    · obtain rfl : k = k0 := by omega
      clear hlt
      go_wp2
      go_ret2
      exact ⟨rfl, Below.refl _ _⟩
set_option maxHeartbeats 1000000 in
theorem implManyA (s : ByteArray) (n : Int) (w : World) (_hs : s.size ≤ 1048576) (hok : okT s = false) :
    Calls Try.prog 34 #[.string s, .int .i64 n] w fun e w' => e = .returned (.tuple #[.string ⟨#[]⟩, .bool false]) ∧ Below w.heap.size w w' := by
  have HV := Lib.hid (fun w => areTexts_any [s] _ _ (RdS.one w s) (by simp))
  rw [all_one, hok] at HV
  have HB := Lib.hid (show Below w.heap.size w (w.alloc (Obj.cells #[.string s] 9)) from (Below.refl _ _).alloc (Nat.le_refl _) _)
  clear hok
  go_enter Try.func34, Try.ntmps34
  go_wp2_with (first | (go_at_call 47; refine (HV.out _).mono ?_; rintro e w1 ⟨rfl, hw⟩; have HB1 := Lib.hid (show Below w.heap.size w w1 from hw ▸ HB.out); clear hw))
  go_ret2
  exact ⟨rfl, HB1.out⟩
set_option maxHeartbeats 1000000 in
theorem implManyB (s : ByteArray) (n : Int) (w : World) (_hs : s.size ≤ 1048576) (hok : okT s = true) (hn : n ≤ 0) :
    Calls Try.prog 34 #[.string s, .int .i64 n] w fun e w' => e = .returned (.tuple #[.string ⟨#[]⟩, .bool true]) ∧ Below w.heap.size w w' := by
  have HV := Lib.hid (fun w => areTexts_any [s] _ _ (RdS.one w s) (by simp))
  rw [all_one, hok] at HV
  have HB := Lib.hid (show Below w.heap.size w (w.alloc (Obj.cells #[.string s] 9)) from (Below.refl _ _).alloc (Nat.le_refl _) _)
  clear hok
  cases hse : (s.toList == [])
  all_goals
    go_enter Try.func34, Try.ntmps34
    go_wp2_with (first | (go_at_call 47; refine (HV.out _).mono ?_; rintro e w1 ⟨rfl, hw⟩; have HB1 := Lib.hid (show Below w.heap.size w w1 from hw ▸ HB.out); clear hw))
    go_ret2
    exact ⟨rfl, HB1.out⟩
set_option maxHeartbeats 1000000 in
theorem implManyC (s : ByteArray) (n : Int) (w : World) (_hs : s.size ≤ 1048576) (hok : okT s = true) (_hn : 0 < n) (hz : s.size = 0) :
    Calls Try.prog 34 #[.string s, .int .i64 n] w fun e w' => e = .returned (.tuple #[.string ⟨#[]⟩, .bool true]) ∧ Below w.heap.size w w' := by
  have HV := Lib.hid (fun w => areTexts_any [s] _ _ (RdS.one w s) (by simp))
  rw [all_one, hok] at HV
  have HB := Lib.hid (show Below w.heap.size w (w.alloc (Obj.cells #[.string s] 9)) from (Below.refl _ _).alloc (Nat.le_refl _) _)
  clear hok
  have hse : (s.toList == []) = true := toList_nil hz
  go_enter Try.func34, Try.ntmps34
  go_wp2_with (first | (go_at_call 47; refine (HV.out _).mono ?_; rintro e w1 ⟨rfl, hw⟩; have HB1 := Lib.hid (show Below w.heap.size w w1 from hw ▸ HB.out); clear hw))
  go_ret2
  exact ⟨rfl, HB1.out⟩
set_option maxHeartbeats 1000000 in
theorem implManyD (s : ByteArray) (n : Int) (w : World) (hs : s.size ≤ 1048576) (hok : okT s = true) (hn : 0 < n) (hz : 0 < s.size) (hq : 400 / (s.size : Int) < n) :
    Calls Try.prog 34 #[.string s, .int .i64 n] w fun e w' => e = .returned (.tuple #[.string ⟨#[]⟩, .bool false]) ∧ Below w.heap.size w w' := by
  have HV := Lib.hid (fun w => areTexts_any [s] _ _ (RdS.one w s) (by simp))
  rw [all_one, hok] at HV
  have HB := Lib.hid (show Below w.heap.size w (w.alloc (Obj.cells #[.string s] 9)) from (Below.refl _ _).alloc (Nat.le_refl _) _)
  clear hok
  have hse : (s.toList == []) = false := toList_ne hz
  go_enter Try.func34, Try.ntmps34
  go_wp2_with (first | (go_at_call 47; refine (HV.out _).mono ?_; rintro e w1 ⟨rfl, hw⟩; have HB1 := Lib.hid (show Below w.heap.size w w1 from hw ▸ HB.out); clear hw))
  go_ret2
  exact ⟨rfl, HB1.out⟩
set_option maxHeartbeats 1000000 in
theorem implManyE (s : ByteArray) (n : Int) (w : World) (hs : s.size ≤ 1048576) (hok : okT s = true) (hn : 0 < n) (hz : 0 < s.size) (hq : n ≤ 400 / (s.size : Int)) :
    Calls Try.prog 34 #[.string s, .int .i64 n] w fun e w' => e = .returned (.tuple #[.string ⟨(rp n.toNat s.data.toList).toArray⟩, .bool true]) ∧ Below w.heap.size w w' := by
  have HV := Lib.hid (fun w => areTexts_any [s] _ _ (RdS.one w s) (by simp))
  rw [all_one, hok] at HV
  have HB := Lib.hid (show Below w.heap.size w (w.alloc (Obj.cells #[.string s] 9)) from (Below.refl _ _).alloc (Nat.le_refl _) _)
  have HM := Lib.hid (many_room hok hz hn hq)
  clear hok
  have hse : (s.toList == []) = false := toList_ne hz
  have hk4 : n ≤ 400 := many_le hz hq
  obtain ⟨k0, rfl⟩ : ∃ k0 : Nat, n = (k0 : Int) := ⟨n.toNat, by omega⟩
  rw [Int.toNat_natCast] at *
  have hk00 : ¬ k0 = 0 := by omega
  go_enter Try.func34, Try.ntmps34
  go_wp2_with (first | (go_at_call 47; refine (HV.out _).mono ?_; rintro e w1 ⟨rfl, hw⟩; have HB1 := Lib.hid (show Below w.heap.size w w1 from hw ▸ HB.out); clear hw))
  go_loopw [6, 23] (fun v i wr => ∃ k : Nat, k ≤ k0 ∧ i = .int .i64 k ∧ Hid (Below w.heap.size w wr ∧ wr.ownsRow w.heap.size 5 1 v (k * s.size) (bv (rp k s.data.toList)))) (fun _ i _ => k0 - (intOf i).toNat)
  case atStart => exact ⟨0, by omega, rfl, Lib.hid ⟨HB1.out, by rw [Nat.zero_mul]; exact World.ownsRow_nil _ _ _ _⟩⟩
  case round =>
    obtain ⟨k, hk, rfl, HI⟩ := hrel
    by_cases hlt : k < k0
    · have HL := Lib.hid (show k * s.size + s.size ≤ 400 by
        have h1 := HM.out (k + 1) (by omega)
        rw [rp_len] at h1
        have : (k + 1) * s.size = k * s.size + s.size := by rw [Nat.add_mul, Nat.one_mul]
        rw [show s.data.toList.length = s.size from rfl] at h1
        omega)
      obtain ⟨i0, hi1, hi2, hi3, hi4⟩ := info_of (P := Try.prog) (e := 5) (z := .int .u8 0) (s := 1) (b := 1) (by kernel_rfl)
      go_wp2_with (first | (refine Lib.wpList_append_own_string _ rfl (.tmp 25) (.tmp 26) 33 9 rfl w.heap.size 5 i0 Try.underlying33 Try.underlying9 hi1 hi2 hi3 hi4 _ _ _ rfl HI.out.2 s rfl (by have := HL.out; unfold maxLen; omega) (by have := HL.out; omega) HI.out.1.size ?_; intro v2 w2 ho hgr _; have HT := Lib.hid (many_next HI.out ho hgr); clear ho hgr))
      go_roundw
      case rel => exact ⟨k + 1, by omega, by go_num, HT⟩
      case measure => simp [intOf]; try omega
    · obtain rfl : k = k0 := by omega
      have HO := Lib.hid (many_own HI.out.2)
      clear hlt
      go_wp2_with (first | (refine (puts_text 33 9 5 (.tmp 29) rfl Try.underlying33 Try.underlying5 Try.underlying9 w.heap.size _ (rp k s.data.toList) rfl HO.out).gives.plain rfl ?_))
      go_ret2
      exact ⟨rfl, HI.out.1⟩
theorem many_all (s : ByteArray) (n : Int) (hs : s.size ≤ 1048576) : ∃ l bb, (∀ w, Calls Try.prog 35 #[.string s, .int .i64 n] w fun e w' => e = .returned (.tuple #[.string ⟨l⟩, .bool bb]) ∧ Below w.heap.size w w') ∧ (∀ w, Calls Try.prog 34 #[.string s, .int .i64 n] w fun e w' => e = .returned (.tuple #[.string ⟨l⟩, .bool bb]) ∧ Below w.heap.size w w') := by
  cases hok : okT s with
  | false => exact ⟨_, _, fun w => specManyA s n w hs hok, fun w => implManyA s n w hs hok⟩
  | true =>
    by_cases hn : n ≤ 0
    · exact ⟨_, _, fun w => specManyB s n w hs hok hn, fun w => implManyB s n w hs hok hn⟩
    · have hn' : 0 < n := by omega
      by_cases hz : s.size = 0
      · exact ⟨_, _, fun w => specManyC s n w hs hok hn' hz, fun w => implManyC s n w hs hok hn' hz⟩
      · have hz' : 0 < s.size := by omega
        by_cases hq : n ≤ 400 / (s.size : Int)
        · exact ⟨_, _, fun w => specManyE s n w hs hok hn' hz' hq, fun w => implManyE s n w hs hok hn' hz' hq⟩
        · exact ⟨_, _, fun w => specManyD s n w hs hok hn' hz' (Int.lt_of_not_ge hq), fun w => implManyD s n w hs hok hn' hz' (Int.lt_of_not_ge hq)⟩
end Go.Proofs.Ytfmpplolhhjpoaa
