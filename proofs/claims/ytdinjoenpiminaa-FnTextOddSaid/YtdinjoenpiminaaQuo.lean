/- The form that a text has within quotes. -/
import Derived.Test.YtdinjoenpiminaaMany
namespace Go.Proofs.Ytdinjoenpiminaa
open Go.RowKit
/-- A hexadecimal digit. -/
def hx (n : Nat) : UInt8 := if n < 10 then UInt8.ofNat (48 + n) else UInt8.ofNat (87 + n)
/-- The form of a byte. -/
def qb (c : UInt8) : List UInt8 :=
  if c.toNat = 39 ∨ c.toNat = 92 then [92, c] else if c.toNat = 10 then [92, 110] else if c.toNat < 32 ∨ 126 < c.toNat then [92, 120, hx (c.toNat / 16), hx (c.toNat % 16)] else [c]
/-- The forms of all. -/
def qs (l : List UInt8) : List UInt8 := l.flatMap qb
theorem qb_len (c : UInt8) : (qb c).length ≤ 4 := by
  unfold qb; split
  · simp
  · split
    · simp
    · split <;> simp
theorem qs_len (l : List UInt8) : (qs l).length ≤ 4 * l.length := by
  induction l with
  | nil => simp [qs]
  | cons a l ih =>
    have e : qs (a :: l) = qb a ++ qs l := rfl
    rw [e, List.length_append, List.length_cons]
    have := qb_len a
    omega
theorem qs_next {l : List UInt8} {k : Nat} {c : UInt8} (h : l[k]? = some c) : qs (l.take (k + 1)) = qs (l.take k) ++ qb c := by
  have hk : k < l.length := by
    rcases Nat.lt_or_ge k l.length with h1 | h1
    · exact h1
    · rw [List.getElem?_eq_none h1] at h; cases h
  rw [List.getElem?_eq_getElem hk] at h
  injection h with h
  rw [List.take_succ_eq_append_getElem hk, h]
  simp [qs]
theorem hex_at : ∀ n, n < 16 → (⟨#[48, 49, 50, 51, 52, 53, 54, 55, 56, 57, 97, 98, 99, 100, 101, 102]⟩ : ByteArray).extract n (n + 1) = ⟨#[hx n]⟩ := by
  decide
theorem hexDigit_any (n : Nat) (w : World) (h : n < 16) : Calls Try.prog 64 #[.int .i64 (n : Int)] w fun e w' => e = .returned (.string ⟨#[hx n]⟩) ∧ w = w' := by
  have HX := Lib.hid (hex_at n h)
  go_enter Try.func64, Try.ntmps64
  go_wp2
  go_ret
  rw [HX.out]
  exact ⟨rfl, rfl⟩
end Go.Proofs.Ytdinjoenpiminaa
