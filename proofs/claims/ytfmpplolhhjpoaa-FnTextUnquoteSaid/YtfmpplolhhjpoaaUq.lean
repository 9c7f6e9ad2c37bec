/- What is read within quotes: the byte whose form begins a text. -/
import Derived.Test.YtfmpplolhhjpoaaQuo3
import Derived.Test.YtfmpplolhhjpoaaShelf
namespace Go.Proofs.Ytfmpplolhhjpoaa
open Go.RowKit
/-- If the form of some byte begins l, that byte is c, and its form has n bytes. -/
def Rdq (l : List UInt8) (c : UInt8) (n : Nat) : Prop := ∀ b t, l = qb b ++ t → c = b ∧ n = (qb b).length
theorem u8_eq {b : UInt8} {n : Nat} (h : b.toNat = n) (hn : n < 256) : b = UInt8.ofNat n := by
  apply UInt8.toNat_inj.1
  rw [h, UInt8.toNat_ofNat', Nat.mod_eq_of_lt hn]
theorem qb_cases (b : UInt8) : (qb b = [b] ∧ b ≠ 92 ∧ b ≠ 39 ∧ b ≠ 10) ∨ (qb b = [92, b] ∧ (b = 39 ∨ b = 92)) ∨ (qb b = [92, 110] ∧ b = 10) ∨ qb b = [92, 120, hx (b.toNat / 16), hx (b.toNat % 16)] := by
  unfold qb
  by_cases h1 : b.toNat = 39 ∨ b.toNat = 92
  · rw [if_pos h1]
    refine Or.inr (Or.inl ⟨rfl, ?_⟩)
    rcases h1 with h1 | h1
    · exact Or.inl (u8_eq h1 (by decide))
    · exact Or.inr (u8_eq h1 (by decide))
  · rw [if_neg h1]
    by_cases h2 : b.toNat = 10
    · rw [if_pos h2]
      exact Or.inr (Or.inr (Or.inl ⟨rfl, u8_eq h2 (by decide)⟩))
    · rw [if_neg h2]
      by_cases h3 : b.toNat < 32 ∨ 126 < b.toNat
      · rw [if_pos h3]
        exact Or.inr (Or.inr (Or.inr rfl))
      · rw [if_neg h3]
        refine Or.inl ⟨rfl, fun h => h1 (Or.inr ?_), fun h => h1 (Or.inl ?_), fun h => h2 ?_⟩
        all_goals subst h; rfl
theorem rdq_plain {c : UInt8} {t : List UInt8} (hc : c ≠ 92) : Rdq (c :: t) c 1 := by
  intro b t' e
  rcases qb_cases b with ⟨h, _⟩ | ⟨h, _⟩ | ⟨h, _⟩ | h
  all_goals rw [h] at e ⊢; simp at e
  · exact ⟨e.1, rfl⟩
  · exact absurd e.1 hc
  · exact absurd e.1 hc
  · exact absurd e.1 hc
theorem rdq_one {c : UInt8} : Rdq [c] c 1 := by
  intro b t' e
  rcases qb_cases b with ⟨h, _⟩ | ⟨h, _⟩ | ⟨h, _⟩ | h
  all_goals rw [h] at e ⊢; simp at e
  exact ⟨e.1, rfl⟩
theorem rdq_n {t : List UInt8} : Rdq (92 :: 110 :: t) 10 2 := by
  intro b t' e
  rcases qb_cases b with ⟨h, h1, _⟩ | ⟨h, h1⟩ | ⟨h, h1⟩ | h
  all_goals rw [h] at e ⊢; simp at e
  · exact absurd e.1.symm h1
  · rcases h1 with h1 | h1
    all_goals rw [h1] at e; exact absurd e.1 (by decide)
  · exact ⟨h1.symm, rfl⟩
theorem rdq_two {c : UInt8} {t : List UInt8} (h1 : c ≠ 110) (h2 : c ≠ 120 ∨ t.length < 2) : Rdq (92 :: c :: t) c 2 := by
  intro b t' e
  rcases qb_cases b with ⟨h, h3, _⟩ | ⟨h, _⟩ | ⟨h, _⟩ | h
  all_goals rw [h] at e ⊢; simp at e
  · exact absurd e.1.symm h3
  · exact ⟨e.1, rfl⟩
  · exact absurd e.1 h1
  · rcases h2 with h2 | h2
    · exact absurd e.1 h2
    · rw [e.2] at h2; simp at h2; omega
theorem rdq_hex {c h g : UInt8} {t : List UInt8} (hc : ∀ x y, x < 16 → y < 16 → h = hx x → g = hx y → c.toNat = x * 16 + y) : Rdq (92 :: 120 :: h :: g :: t) c 4 := by
  intro b t' e
  rcases qb_cases b with ⟨q, h3, _⟩ | ⟨q, h3⟩ | ⟨q, _⟩ | q
  all_goals rw [q] at e ⊢; simp at e
  · exact absurd e.1.symm h3
  · rcases h3 with h3 | h3
    all_goals rw [h3] at e; exact absurd e.1 (by decide)
  · refine ⟨?_, rfl⟩
    have hb := UInt8.toNat_lt b
    have := hc (b.toNat / 16) (b.toNat % 16) (by omega) (by omega) e.1 e.2.1
    apply UInt8.toNat_inj.1
    omega
def digs : List UInt8 := [48, 49, 50, 51, 52, 53, 54, 55, 56, 57, 97, 98, 99, 100, 101, 102]
theorem digs_at : ∀ x, x < 16 → Lib.indexByte digs (hx x) = (x : Int) := by decide
theorem hx_inj : ∀ x, x < 16 → ∀ y, y < 16 → hx x = hx y → x = y := by decide
theorem u8_of (z : Int) (h0 : 0 ≤ z) (h1 : z ≤ 255) : ∃ c : UInt8, (c.toNat : Int) = z := by
  refine ⟨UInt8.ofNat z.toNat, ?_⟩
  rw [UInt8.toNat_ofNat', Nat.mod_eq_of_lt (by omega)]; omega
theorem digit_any (c : UInt8) (w : World) : Calls Try.prog 70 #[.string ⟨#[48, 49, 50, 51, 52, 53, 54, 55, 56, 57, 97, 98, 99, 100, 101, 102]⟩, .int .u8 (c.toNat : Int)] w fun e w' => e = .returned (.int .i64 (Lib.indexByte digs c)) ∧ w = w' := by
  refine (Try.strings_IndexByte _ _ w).mono ?_
  rintro e w' ⟨he, hw⟩
  refine ⟨?_, hw.symm⟩
  rw [he]
  simp [digs]
theorem digs_in (c : UInt8) : -1 ≤ Lib.indexByte digs c ∧ Lib.indexByte digs c ≤ 15 := by
  refine ⟨Lib.indexByte_ge digs c, ?_⟩
  by_cases h : Lib.indexByte digs c = -1
  · omega
  · have := Lib.indexByte_ge digs c
    obtain ⟨o, ho⟩ : ∃ o : Nat, Lib.indexByte digs c = o := ⟨(Lib.indexByte digs c).toNat, by omega⟩
    have h2 := (Lib.indexByte_some ho).1
    have h3 : o < digs.length := by
      rcases Nat.lt_or_ge o digs.length with h3 | h3
      · exact h3
      · rw [List.getElem?_eq_none h3] at h2; cases h2
    have : digs.length = 16 := rfl
    omega
theorem digs_of {c : UInt8} (x : Nat) (h : x < 16) (e : c = hx x) : Lib.indexByte digs c = (x : Int) := by rw [e]; exact digs_at x h
/-- What readQuoted answers. -/
def RqP (l : List UInt8) (w : World) (e : Ending) (w' : World) : Prop := ∃ (c : UInt8) (n : Nat), e = .returned (.tuple #[.int .u8 (c.toNat : Int), .int .i64 (n : Int)]) ∧ 1 ≤ n ∧ n ≤ l.length ∧ Rdq l c n ∧ w = w'
theorem byte_at {r : ByteArray} {l : List UInt8} (hl : r.data.toList = l) (i : Nat) (h : i < r.size) (h2 : i < l.length) : r[i] = l[i] := by subst hl; rfl
theorem split1 {r : ByteArray} (h : 0 < r.size) : ∃ t, r.data.toList = r[0] :: t := by
  have h1 : 0 < r.data.toList.length := h
  match hl : r.data.toList, h1 with
  | c :: t, _ => exact ⟨t, by rw [byte_at hl 0 h (by simp)]; rfl⟩
theorem split2 {r : ByteArray} (h : 1 < r.size) : ∃ t, r.data.toList = r[0] :: r[1] :: t := by
  have h1 : 1 < r.data.toList.length := h
  match hl : r.data.toList, h1 with
  | c :: d :: t, _ => exact ⟨t, by rw [byte_at hl 0 (by omega) (by simp), byte_at hl 1 h (by simp)]; rfl⟩
theorem split4 {r : ByteArray} (h : 3 < r.size) : ∃ t, r.data.toList = r[0] :: r[1] :: r[2] :: r[3] :: t := by
  have h1 : 3 < r.data.toList.length := h
  match hl : r.data.toList, h1 with
  | a :: b :: c :: d :: t, _ => exact ⟨t, by rw [byte_at hl 0 (by omega) (by simp), byte_at hl 1 (by omega) (by simp), byte_at hl 2 (by omega) (by simp), byte_at hl 3 h (by simp)]; rfl⟩
theorem ne_of {b : UInt8} {n : Nat} (h : b.toNat ≠ n) (hn : n < 256) : b ≠ UInt8.ofNat n := by
  intro e
  rw [e, UInt8.toNat_ofNat', Nat.mod_eq_of_lt hn] at h
  exact h rfl
set_option maxHeartbeats 1000000 in
theorem readQuoted_any (r : ByteArray) (w : World) (hr : 0 < r.size) (hs : r.size ≤ 1048576) : Calls Try.prog 52 #[.string r] w (RqP r.data.toList w) := by
  have hlen : r.data.toList.length = r.size := rfl
  by_cases a0 : r[0].toNat = 92
  · have e0 := u8_eq a0 (by decide)
    have b0 : ((r[0].toNat : Int) != 92) = false := by rw [a0]; rfl
    by_cases h1 : r.size = 1
    · have HR := Lib.hid (show Rdq r.data.toList r[0] 1 by
        obtain ⟨t, ht⟩ := split1 hr
        have : t = [] := by rw [ht] at hlen; simp at hlen; exact List.eq_nil_of_length_eq_zero (by omega)
        rw [ht, this]
        exact rdq_one)
      have hb1 : ((r.size : Int) == 1) = true := by rw [h1]; rfl
      have H92 := Lib.hid a0
      clear h1 e0 a0
      go_enter Try.func52, Try.ntmps52
      go_wp2
      go_ret2
      exact ⟨r[0], 1, rfl, by omega, by omega, HR.out, rfl⟩
    · have hb1 : ((r.size : Int) == 1) = false := beq_eq_false_iff_ne.2 (by omega)
      have h2 : 1 < r.size := by omega
      obtain ⟨t, ht⟩ := split2 h2
      have HT := Lib.hid ht
      clear ht h1
      by_cases a1 : r[1].toNat = 110
      · have HR := Lib.hid (show Rdq r.data.toList 10 2 by rw [HT.out, e0, u8_eq a1 (by decide)]; exact rdq_n)
        have b1 : ((r[1].toNat : Int) == 110) = true := by rw [a1]; rfl
        clear a0 a1 e0
        go_enter Try.func52, Try.ntmps52
        go_wp2
        go_ret2
        exact ⟨10, 2, rfl, by omega, by omega, HR.out, rfl⟩
      · have b1 : ((r[1].toNat : Int) == 110) = false := beq_eq_false_iff_ne.2 (by omega)
        have n1 := ne_of a1 (by decide)
        by_cases a2 : r[1].toNat = 120
        · have b2 : ((r[1].toNat : Int) == 120) = true := by rw [a2]; rfl
          by_cases h4 : 4 ≤ r.size
          · obtain ⟨t4, ht4⟩ := split4 (r := r) (by omega)
            have HL := Lib.hid ht4
            have HI2 := Lib.hid (fun w => digit_any r[2] w)
            have HI3 := Lib.hid (fun w => digit_any r[3] w)
            have D2 := Lib.hid (show ∀ x : Nat, x < 16 → r[2] = hx x → Lib.indexByte digs r[2] = (x : Int) from fun x h e => digs_of x h e)
            have D3 := Lib.hid (show ∀ x : Nat, x < 16 → r[3] = hx x → Lib.indexByte digs r[3] = (x : Int) from fun x h e => digs_of x h e)
            have g2 := digs_in r[2]
            have g3 := digs_in r[3]
            generalize Lib.indexByte digs r[2] = i2 at *
            generalize Lib.indexByte digs r[3] = i3 at *
            obtain ⟨c, hc⟩ := u8_of ((i2 * 16 + i3) % 256) (Int.emod_nonneg _ (by decide)) (by omega)
            have HR := Lib.hid (show Rdq r.data.toList c 4 by
              rw [HL.out, e0, u8_eq a2 (by decide)]
              refine rdq_hex fun x y hx hy ex ey => ?_
              have := D2.out x hx ex
              have := D3.out y hy ey
              omega)
            have HC := Lib.hid hc
            clear a0 a1 e0 n1 a2 ht4 hc
            go_enter Try.func52, Try.ntmps52
            go_wp2_with fail
            refine (HI2.out _).mono ?_
            rintro e w' ⟨rfl, rfl⟩
            go_wp2_with fail
            refine (HI3.out _).mono ?_
            rintro e w' ⟨rfl, rfl⟩
            go_wp2_with fail
            go_ret2
            exact ⟨c, 4, by rw [HC.out]; rfl, by omega, by omega, HR.out, rfl⟩
          · have HR := Lib.hid (show Rdq r.data.toList r[1] 2 by
              have hl2 := HT.out
              rw [hl2] at hlen
              rw [hl2, e0]
              exact rdq_two n1 (Or.inr (by simp at hlen; omega)))
            have h4' : r.size < 4 := by omega
            clear a0 a1 e0 n1 a2 h4
            go_enter Try.func52, Try.ntmps52
            go_wp2
            go_ret2
            exact ⟨r[1], 2, rfl, by omega, by omega, HR.out, rfl⟩
        · have b2 : ((r[1].toNat : Int) == 120) = false := beq_eq_false_iff_ne.2 (by omega)
          have HR := Lib.hid (show Rdq r.data.toList r[1] 2 by rw [HT.out, e0]; exact rdq_two n1 (Or.inl (ne_of a2 (by decide))))
          clear a0 a1 e0 n1 a2
          go_enter Try.func52, Try.ntmps52
          go_wp2
          go_ret2
          exact ⟨r[1], 2, rfl, by omega, by omega, HR.out, rfl⟩
  · have b0 : ((r[0].toNat : Int) != 92) = true := by simp; omega
    have HR := Lib.hid (show Rdq r.data.toList r[0] 1 by
      obtain ⟨t, ht⟩ := split1 hr
      rw [ht]
      exact rdq_plain (ne_of a0 (by decide)))
    clear a0
    go_enter Try.func52, Try.ntmps52
    go_wp2
    go_ret2
    exact ⟨r[0], 1, rfl, by omega, by omega, HR.out, rfl⟩
end Go.Proofs.Ytfmpplolhhjpoaa
