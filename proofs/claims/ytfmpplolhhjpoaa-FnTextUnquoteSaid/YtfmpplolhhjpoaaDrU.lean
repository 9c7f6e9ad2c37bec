/- What may be a quoted text is drawn. -/
import Derived.Test.YtfmpplolhhjpoaaLwT
import Derived.Test.YtfmpplolhhjpoaaQuo2
import Derived.Test.YtfmpplolhhjpoaaUq4
namespace Go.Proofs.Ytfmpplolhhjpoaa
open Go.RowKit
section
variable {P : Program} {o : Oper} {a : Act} {w : World}
theorem puts_slice_to (T : TypeId) (x y : Operand) (ho : o.op = .slice T x none (some y) none) (s : ByteArray) (k : Nat) (hx : a.eval x = .string s) (hy : a.eval y = .int .i64 (k : Int)) (hu : P.underlying T = some .string) (hk : k ≤ s.size) : Puts P o a w (.string (s.extract 0 k)) := by
  have h := run_slice_string_h (P := P) w T s hu .i64 (k : Int) (by omega) (by omega)
  rw [Int.toNat_natCast] at h
  unfold Puts execOp
  simp only [ho, Option.map_some, Option.map_none, hx, hy]
  simp [run_sliceAt_string (P := P) (h := hu), h]
theorem puts_slice_from (T : TypeId) (x y : Operand) (ho : o.op = .slice T x (some y) none none) (s : ByteArray) (k : Nat) (hx : a.eval x = .string s) (hy : a.eval y = .int .i64 (k : Int)) (hu : P.underlying T = some .string) (hk : k ≤ s.size) : Puts P o a w (.string (s.extract k s.size)) := by
  have h := run_slice_string_l (P := P) w T s hu .i64 (k : Int) (by omega) (by omega)
  rw [Int.toNat_natCast] at h
  unfold Puts execOp
  simp only [ho, Option.map_some, Option.map_none, hx, hy]
  simp [run_sliceAt_string (P := P) (h := hu), h]
end
section
variable {o : Oper} {a : Act} {w : World}
theorem gives_lit1 (ho : o.op = .buildSlice 33 1 #[(0, .const (.int .u8 92))]) : Gives Try.prog o a w (.slice (some ⟨w.heap.size, 0, none⟩) 1 1) (w.alloc (.cells #[.int .u8 92] 5)) := by
  refine .inl ?_
  unfold execOp
  simp [ho, go_sem]
def unL : List ByteArray := [⟨#[39]⟩, ⟨#[92]⟩, ⟨#[10]⟩, ⟨#[92, 120, 52]⟩, ⟨#[92, 120, 52, 49]⟩, ⟨#[97]⟩]
theorem unL_le : ∀ d ∈ unL, d.size ≤ 4 := by decide
theorem gives_lit6 (n : Nat) (ho : o.op = .buildSlice 24 6 #[(0, .const (.string ⟨#[39]⟩)), (1, .tmp n), (2, .const (.string ⟨#[10]⟩)), (3, .const (.string ⟨#[92, 120, 52]⟩)), (4, .const (.string ⟨#[92, 120, 52, 49]⟩)), (5, .const (.string ⟨#[97]⟩))]) (hy : a.tmps[n]?.getD undef = .string ⟨#[92]⟩) : Gives Try.prog o a w (.slice (some ⟨w.heap.size, 0, none⟩) unL.length unL.length) (w.alloc (.cells (unL.map Value.string).toArray 9)) := by
  refine .inl ?_
  unfold execOp
  simp [ho, go_sem, hy, unL]
end
/-- While a quoted text is spoilt: the drawer lives. -/
def DuS (w : World) (a : Option Addr) (m cap K : Nat) (w' : World) : Prop := Below w.heap.size w w' ∧ ∃ k', k' ≤ K ∧ RI w' w.heap.size a m cap k'
theorem DuS.alloc {w w' : World} {a : Option Addr} {m cap K : Nat} (h : DuS w a m cap K w') (o : Obj) : DuS w a m cap K (w'.alloc o) := by
  obtain ⟨h1, k', h2, h3⟩ := h
  exact ⟨h1.alloc h1.size _, k', h2, ri_below h3 ((Below.refl _ _).alloc (Nat.le_refl _) _)⟩
theorem DuS.drew {w w' : World} {a : Option Addr} {m cap K : Nat} (h : DuS w a m cap K w') : DuS w a m cap K w'.drew := by
  obtain ⟨h1, k', h2, h3⟩ := h
  exact ⟨h1.trans ⟨rfl, rfl, rfl, Nat.le_refl _, fun _ _ => rfl⟩, k', h2, h3⟩
theorem DuS.up {w w' : World} {a : Option Addr} {m cap K K2 : Nat} (h : DuS w a m cap K w') (hK : K ≤ K2) : DuS w a m cap K2 w' := by
  obtain ⟨h1, k', h2, h3⟩ := h
  exact ⟨h1, k', by omega, h3⟩
/-- Some text. -/
def TuP (w : World) (e : Ending) (w' : World) : Prop := ∃ s : ByteArray, e = .returned (.string s) ∧ s.size ≤ 5000 ∧ Below w.heap.size w w'
set_option maxHeartbeats 4000000 in
theorem dTextUnquote (w : World) (a : Option Addr) (n cap : Nat) (h : Cr w a n cap) : Calls Try.prog 43 #[.slice a n cap] w (TuP w) := by
  have HN := Lib.hid (newRnd_any w a n cap h)
  clear h
  go_enter Try.func43, Try.ntmps43
  go_wp2_with fail
  refine HN.out.mono ?_
  rintro e w1 ⟨rfl, hb1, m, hr1⟩
  have HB1 := Lib.hid hb1
  have HR1 := Lib.hid hr1
  clear hb1 hr1
  go_wp2_with fail
  refine (text_draw w1 w.heap.size m cap 0 a HR1.out (by decide)).mono ?_
  rintro e w2 ⟨⟨l, rfl, hl⟩, hg2, k2, hk2, hr2⟩
  have HB2 := Lib.hid (below_row HB1.out hg2 (Nat.le_refl _))
  have HR2 := Lib.hid hr2
  have hlz : (⟨l.toArray⟩ : ByteArray).size ≤ 400 := by show l.toArray.size ≤ 400; rw [List.size_toArray]; exact hl
  clear hg2 hr2
  go_wp2_with fail
  refine (quoted_any ⟨l.toArray⟩ w2 hlz).mono ?_
  rintro e w3 ⟨rfl, hb3⟩
  have HB3 := Lib.hid (HB2.out.trans (hb3.mono HB2.out.size))
  have HR3 := Lib.hid (ri_below HR2.out hb3)
  obtain ⟨q, hq⟩ : ∃ q : ByteArray, q = ⟨(39 :: qs (⟨l.toArray⟩ : ByteArray).data.toList ++ [39]).toArray⟩ := ⟨_, rfl⟩
  have hqs : q.size ≤ 1602 := by
    have h5 := qs_len (⟨l.toArray⟩ : ByteArray).data.toList
    have h6 : l.length ≤ 400 := hl
    have h7 := qs_len l
    rw [hq]
    show ((39 :: qs (⟨l.toArray⟩ : ByteArray).data.toList ++ [39]).toArray).size ≤ 1602
    rw [List.size_toArray]
    simp only [List.length_append, List.length_cons, List.length_nil]
    omega
  rw [← hq]
  clear hb3 hq hlz hl
  go_wp2_with fail
  refine (pick_any w3 w.heap.size a m cap k2 4 HR3.out (by omega) (by decide)).mono ?_
  rintro e w4 ⟨r, rfl, _, hg4, k4, hk4, hr4⟩
  have HB4 := Lib.hid (below_row HB3.out hg4 (Nat.le_refl _))
  have HR4 := Lib.hid hr4
  clear hg4 hr4
  by_cases hr0 : r = 0
  · subst hr0
    go_wp2_with fail
    refine (pick_any w4 w.heap.size a m cap k4 ((q.size : Int) + 1) HR4.out (by omega) (by omega)).mono ?_
    rintro e w5 ⟨k, rfl, hkl, hg5, k5, hk5, hr5⟩
    have hkq : k ≤ q.size := by omega
    have H := Lib.hid (show DuS w a m cap 100 w5 from ⟨below_row HB4.out hg5 (Nat.le_refl _), k5, by omega, hr5⟩)
    clear hg5 hr5 hkl hk5 HR1 HR2 HR3 HR4 HB1 HB2 HB3 HB4
    go_wp2_with fail
    refine wp_region_held_drew (S := fun w' => DuS w a m cap 200 w') (by kernel_rfl) (H.out.drew.up (by decide)) fun hS => ?_
    refine held_take 0 (v := .string q) rfl rfl (by kernel_rfl) (by kernel_rfl) (by kernel_rfl) (fun _ _ _ h => h) (fun w' h => puts_move_to _ _ rfl rfl) hS ?_
    go_frame
    refine held_take 1 (v := .int .i64 (k : Int)) rfl rfl (by kernel_rfl) (by kernel_rfl) (by kernel_rfl) (fun _ _ _ h => h) (fun w' h => puts_move_to _ _ rfl rfl) hS ?_
    go_frame
    refine held_take 2 rfl rfl (by kernel_rfl) (by kernel_rfl) (by kernel_rfl) (fun _ _ _ h => h) (fun w' h => puts_slice_to _ _ _ rfl q k rfl rfl Try.underlying9 hkq) hS ?_
    go_frame
    refine held_take 3 (v := .pointer (some ⟨w.heap.size, 0, none⟩)) rfl rfl (by kernel_rfl) (by kernel_rfl) (by kernel_rfl) (fun _ _ _ h => h) (fun w' h => puts_move_to _ _ rfl rfl) hS ?_
    go_frame
    refine held_take 9 (v := .string q) rfl rfl (by kernel_rfl) (by kernel_rfl) (by kernel_rfl) (fun _ _ _ h => h) (fun w' h => puts_move_to _ _ rfl rfl) hS ?_
    go_frame
    refine held_take 10 (v := .int .i64 (k : Int)) rfl rfl (by kernel_rfl) (by kernel_rfl) (by kernel_rfl) (fun _ _ _ h => h) (fun w' h => puts_move_to _ _ rfl rfl) hS ?_
    go_frame
    refine held_take 11 rfl rfl (by kernel_rfl) (by kernel_rfl) (by kernel_rfl) (fun _ _ _ h => h) (fun w' h => puts_slice_from _ _ _ rfl q k rfl rfl Try.underlying9 hkq) hS ?_
    go_frame
    have hS2 := hS.alloc (.cells #[.int .u8 92] 5)
    refine held_only 4 (by kernel_rfl) rfl rfl (gives_lit1 rfl) hS2 ?_
    go_frame
    refine held_only 5 (by kernel_rfl) rfl rfl (puts_text 33 9 5 (.tmp 23) rfl Try.underlying33 Try.underlying5 Try.underlying9 _ _ [92] rfl (lit8 _ 92 92 rfl)).gives hS2 ?_
    go_frame
    have hS3 := hS2.alloc (.cells (unL.map Value.string).toArray 9)
    refine held_only 6 (by kernel_rfl) rfl rfl (gives_lit6 24 rfl rfl) hS3 ?_
    go_frame
    obtain ⟨hB6, k6, hk6, hR6⟩ := H.out.drew.alloc (.cells #[.int .u8 92] 5)
    refine held_call 7 (by kernel_rfl) rfl rfl (puts_call2 66 _ _ _ (.pointer (some ⟨w.heap.size, 0, none⟩)) (.slice (some ⟨_, 0, none⟩) unL.length unL.length) rfl rfl rfl (by kernel_rfl)) (of_lit unL hR6 (by omega) (by decide) (by decide)) ?_
    rintro e w7 ⟨⟨d, hd, rfl⟩, hg7, k7, hk7, hr7⟩
    have hd4 := unL_le d hd
    have hB7 : Below w.heap.size w w7 := below_row hB6 hg7 (Nat.le_refl _)
    refine ⟨_, rfl, ⟨hB7, k7, by omega, hr7⟩, ?_⟩
    go_frame
    have e1 : (q.extract 0 k).size ≤ 1602 := by simp; omega
    have e2 : (q.extract k q.size).size ≤ 1602 := by simp; omega
    refine held_only 8 (by kernel_rfl) rfl rfl (puts_cat 9 9 (.tmp 21) (.tmp 26) rfl (q.extract 0 k) d rfl rfl (by omega)).gives ⟨hB7, k7, by omega, hr7⟩ ?_
    go_frame
    refine held_only 12 (by kernel_rfl) rfl rfl (puts_cat 9 9 (.tmp 27) (.tmp 30) rfl (q.extract 0 k ++ d) (q.extract k q.size) rfl rfl (by rw [ByteArray.size_append]; omega)).gives ⟨hB7, k7, by omega, hr7⟩ ?_
    go_frame
    have e3 : (q.extract 0 k ++ d ++ q.extract k q.size).size ≤ 5000 := by rw [ByteArray.size_append, ByteArray.size_append]; omega
    generalize q.extract 0 k ++ d ++ q.extract k q.size = u at *
    refine held_only 13 (v := .string u) (by kernel_rfl) rfl rfl (puts_assign_to (.tmp 31) (.string u) rfl rfl).gives ⟨hB7, k7, by omega, hr7⟩ ?_
    go_frame
    refine wpAnyH_done (by kernel_rfl) ?_ _
    have HU := Lib.hid (And.intro e3 hB7)
    clear e1 e2 e3 hB7 hB6 hR6 hS2 hS3 hg7 hr7
    go_wp2_with fail
    go_ret
    exact ⟨u, rfl, HU.out.1, HU.out.2⟩
  · have hrf : ((r : Int) == 0) = false := beq_eq_false_iff_ne.2 (by omega)
    clear hr0
    go_wp2_with fail
    go_ret
    exact ⟨q, rfl, by omega, HB4.out⟩
set_option maxHeartbeats 4000000 in
theorem fnTextUnquote_walk (a : Option Addr) (n cap : Nat) (zs : List Int) (w : World) (h : (a = none ∧ n = 0 ∧ cap = 0 ∧ zs = []) ∨ ∃ x, a = some x ∧ n ≤ cap ∧ cap ≤ maxLen ∧ zs.length = cap ∧ (∀ i, i < zs.length → w.cell? (x.add i) = some (.int .u8 (zs.getD i 0))) ∧ ∀ n ∈ zs, (Lit.int .u8 n).wf = true) :
    Calls Try.prog 13 #[.slice a n cap] w fun e w' => e = .returned (.bool true) ∧ Below w.heap.size w w' := by
  have HC := Lib.hid (dTextUnquote w a n cap (cr_of h))
  have hcap : n ≤ 9223372036854775807 := by
    rcases h with ⟨_, rfl, _⟩ | ⟨x, _, h1, h2, _⟩
    · omega
    · unfold maxLen at h2; omega
  clear h
  by_cases h0 : n ≤ 1048576
  · go_enter Try.func13, Try.ntmps13
    go_wp2_with fail
    refine HC.out.mono ?_
    rintro e w2 ⟨q, rfl, hq, hb2⟩
    have HBw2 := Lib.hid hb2
    clear hb2
    have hq2 : q.size ≤ 1048576 := by omega
    by_cases h : ∃ s : List UInt8, s.length ≤ 400 ∧ q.data.toList = Qt s
    · obtain ⟨s, h4, hs⟩ := h
      have H1 := Lib.hid (show ∀ w, Calls Try.prog 23 #[.string q] w fun e w' => e = .returned (.tuple #[.string ⟨s.toArray⟩, .bool true]) ∧ Below w.heap.size w w' from fun w => (implUnq_any q w hq2).mono fun e w' ⟨h1, h2⟩ => ⟨h1.1 s h4 hs, h2⟩)
      have H2 := Lib.hid (show ∀ w, Calls Try.prog 22 #[.string q] w fun e w' => e = .returned (.tuple #[.string ⟨s.toArray⟩, .bool true]) ∧ Below w.heap.size w w' from fun w => (specUnq_any q w hq2).mono fun e w' ⟨h1, h2⟩ => ⟨h1.1 s h4 hs, h2⟩)
      have hsz : (⟨s.toArray⟩ : ByteArray).size ≤ 400 := by show s.toArray.size ≤ 400; rw [List.size_toArray]; exact h4
      have H3 := Lib.hid (fun w => implQuote_any ⟨s.toArray⟩ w (by omega))
      have hqe : quV ⟨s.toArray⟩ = q := by
        unfold quV
        rw [if_pos (okT_le hsz)]
        exact bytes_eq (by rw [hs]; rfl)
      rw [hqe] at H3
      obtain ⟨u, hu⟩ : ∃ u : ByteArray, u = ⟨s.toArray⟩ := ⟨_, rfl⟩
      rw [← hu] at H1 H2 H3
      clear hqe hsz hs h4 hu
      go_wp2_with fail
      refine (H1.out _).mono ?_
      rintro e w3 ⟨rfl, hb⟩
      have HBw3 := Lib.hid (HBw2.out.trans (hb.mono HBw2.out.size))
      clear hb
      go_wp2_with (first | (refine ext rfl (.tmp 14) 0 [.string u, .bool true] (.string u) rfl rfl rfl ?_) | (refine ext rfl (.tmp 14) 1 [.string u, .bool true] (.bool true) rfl rfl rfl ?_))
      refine (H2.out _).mono ?_
      rintro e w4 ⟨rfl, hb⟩
      have HBw4 := Lib.hid (HBw3.out.trans (hb.mono HBw3.out.size))
      clear hb
      go_wp2_with (first | (refine ext rfl (.tmp 19) 0 [.string u, .bool true] (.string u) rfl rfl rfl ?_) | (refine ext rfl (.tmp 19) 1 [.string u, .bool true] (.bool true) rfl rfl rfl ?_))
      refine (H3.out _).mono ?_
      rintro e w5 ⟨rfl, hb⟩
      have HBw5 := Lib.hid (HBw4.out.trans (hb.mono HBw4.out.size))
      clear hb
      go_wp2_with fail
      go_ret
      exact ⟨rfl, HBw5.out⟩
    · have hno : ∀ s : List UInt8, s.length ≤ 400 → q.data.toList ≠ Qt s := fun s h4 hs => h ⟨s, h4, hs⟩
      have H1 := Lib.hid (show ∀ w, Calls Try.prog 23 #[.string q] w fun e w' => e = .returned (.tuple #[.string ⟨#[]⟩, .bool false]) ∧ Below w.heap.size w w' from fun w => (implUnq_any q w hq2).mono fun e w' ⟨h1, h2⟩ => ⟨h1.2 hno, h2⟩)
      have H2 := Lib.hid (show ∀ w, Calls Try.prog 22 #[.string q] w fun e w' => e = .returned (.tuple #[.string ⟨#[]⟩, .bool false]) ∧ Below w.heap.size w w' from fun w => (specUnq_any q w hq2).mono fun e w' ⟨h1, h2⟩ => ⟨h1.2 hno, h2⟩)
      clear h hno
      go_wp2_with fail
      refine (H1.out _).mono ?_
      rintro e w3 ⟨rfl, hb⟩
      have HBw3 := Lib.hid (HBw2.out.trans (hb.mono HBw2.out.size))
      clear hb
      go_wp2_with (first | (refine ext rfl (.tmp 14) 0 [.string ⟨#[]⟩, .bool false] (.string ⟨#[]⟩) rfl rfl rfl ?_) | (refine ext rfl (.tmp 14) 1 [.string ⟨#[]⟩, .bool false] (.bool false) rfl rfl rfl ?_))
      refine (H2.out _).mono ?_
      rintro e w4 ⟨rfl, hb⟩
      have HBw4 := Lib.hid (HBw3.out.trans (hb.mono HBw3.out.size))
      clear hb
      go_wp2_with (first | (refine ext rfl (.tmp 19) 0 [.string ⟨#[]⟩, .bool false] (.string ⟨#[]⟩) rfl rfl rfl ?_) | (refine ext rfl (.tmp 19) 1 [.string ⟨#[]⟩, .bool false] (.bool false) rfl rfl rfl ?_))
      go_ret
      exact ⟨rfl, HBw4.out⟩
  · go_enter Try.func13, Try.ntmps13
    go_wp2_with fail
    go_ret
    exact ⟨rfl, Below.refl _ _⟩
end Go.Proofs.Ytfmpplolhhjpoaa
