/- Three lists joined; a part of a list replaced. -/
import Derived.Test.YtbcphejblopekaaLput
import Derived.Test.YtbcphejblopekaaLex
namespace Go.Proofs.Ytbcphejblopekaa
open Go.RowKit
theorem lip_wide {w w1 w' : World} {v : Value} {R : List Int} (hb : Below w.heap.size w w1) (ho : OwI w' w1.heap.size v R) (hb2 : Below w1.heap.size w1 w') : LiP R w (.returned v) w' := ⟨v, rfl, ho.wide hb.size, hb.trans (hb2.mono hb.size)⟩
set_option maxHeartbeats 2000000 in
set_option maxRecDepth 20000 in
theorem concat3_any (is1 is2 is3 : List Int) (v1 v2 v3 : Value) (gb : Nat) (w : World) (h1 : RdI w v1 is1) (h2 : RdI w v2 is2) (h3 : RdI w v3 is3) (hc0 : w.cell? ⟨gb, 0, none⟩ = some v1) (hc1 : w.cell? ⟨gb, 1, none⟩ = some v2) (hc2 : w.cell? ⟨gb, 2, none⟩ = some v3) (hl1 : is1.length ≤ 100000) (hl2 : is2.length ≤ 100000) (hl3 : is3.length ≤ 100000) :
    Calls Try.prog 49 #[.slice (some ⟨gb, 0, none⟩) 3 3] w (LiP (is1 ++ is2 ++ is3) w) := by
  have HR1 := Lib.hid h1
  have HR2 := Lib.hid h2
  have HR3 := Lib.hid h3
  obtain ⟨a1, p1, rfl, _⟩ := h1
  obtain ⟨a2, p2, rfl, _⟩ := h2
  obtain ⟨a3, p3, rfl, _⟩ := h3
  have HL := Lib.hid (And.intro hl1 (And.intro hl2 hl3))
  generalize hn1 : is1.length = n1 at *
  generalize hn2 : is2.length = n2 at *
  generalize hn3 : is3.length = n3 at *
  have HN := Lib.hid (And.intro hn1 (And.intro hn2 hn3))
  clear hn1 hn2 hn3
  have HCE := Lib.hid (And.intro hc0 (And.intro hc1 hc2))
  have hgb : gb < w.heap.size := World.block_lt_of_cell? w _ hc0
  go_enter Try.func49, Try.ntmps49
  go_wp2_with fail
  go_loop [3, 11] (fun z i => (i = .int .i64 0 ∧ z = .int .i64 0) ∨ (i = .int .i64 1 ∧ z = .int .i64 (n1 : Int)) ∨ (i = .int .i64 2 ∧ z = .int .i64 ((n1 : Int) + n2)) ∨ (i = .int .i64 3 ∧ z = .int .i64 ((n1 : Int) + n2 + n3))) (fun _ i => 3 - (intOf i).toNat)
  case atStart => exact .inl ⟨rfl, rfl⟩
  case round =>
    rcases hrel with ⟨rfl, rfl⟩ | ⟨rfl, rfl⟩ | ⟨rfl, rfl⟩ | ⟨rfl, rfl⟩
    · go_wp2_with fail
      go_round
      case rel => exact .inr (.inl ⟨rfl, by go_num⟩)
      case measure => simp [intOf]
    · go_wp2_with fail
      go_round
      case rel => exact .inr (.inr (.inl ⟨rfl, by go_num⟩))
      case measure => simp [intOf]
    · go_wp2_with fail
      go_round
      case rel => exact .inr (.inr (.inr ⟨rfl, by go_num⟩))
      case measure => simp [intOf]
    · have e : (n1 : Int) + n2 + n3 = ((n1 + n2 + n3 : Nat) : Int) := by omega
      rw [e]
      clear hc0 hc1 hc2 e
      go_wp2_with fail
      refine (grow_any (n1 + n2 + n3) w (by omega)).mono ?_
      rintro e w1 ⟨v, rfl, ho, hb⟩
      have H0 := Lib.hid (show RmI w w1 v [] from ⟨hb, ho⟩)
      clear ho hb
      go_wp2_with fail
      go_loopw [6, 27] (fun v i wr => (i = .int .i64 0 ∧ Hid (RmI w wr v [])) ∨ (i = .int .i64 1 ∧ Hid (RmI w wr v is1)) ∨ (i = .int .i64 2 ∧ Hid (RmI w wr v (is1 ++ is2))) ∨ (i = .int .i64 3 ∧ Hid (RmI w wr v (is1 ++ is2 ++ is3)))) (fun _ i _ => 3 - (intOf i).toNat)
      case atStart => exact .inl ⟨rfl, H0⟩
      case round =>
        rcases hrel with ⟨rfl, HI⟩ | ⟨rfl, HI⟩ | ⟨rfl, HI⟩ | ⟨rfl, HI⟩
        · have d := HCE.out.1
          rw [← HI.out.1.cell (p := ⟨gb, 0, none⟩) hgb] at d
          have HZ := Lib.hid HI.out.1.size
          go_wp2_with (first | (refine appR rfl (.tmp 31) (.tmp 32) rfl w.heap.size _ _ [] is1 rfl rfl HI.out.2 (HR1.out.below HI.out.1) (by have := HN.out; have := HL.out; simp; omega) HZ.out ?_; intro v3 w3 ho hb3; have HT := Lib.hid (show RmI w w3 v3 is1 from ⟨HI.out.1.trans hb3, ho⟩); clear ho hb3))
          go_roundw
          case rel => exact .inr (.inl ⟨rfl, HT⟩)
          case measure => simp [intOf]
        · have d := HCE.out.2.1
          rw [← HI.out.1.cell (p := ⟨gb, 1, none⟩) hgb] at d
          have HZ := Lib.hid HI.out.1.size
          go_wp2_with (first | (refine appR rfl (.tmp 31) (.tmp 32) rfl w.heap.size _ _ is1 is2 rfl rfl HI.out.2 (HR2.out.below HI.out.1) (by have := HN.out; have := HL.out; omega) HZ.out ?_; intro v3 w3 ho hb3; have HT := Lib.hid (show RmI w w3 v3 (is1 ++ is2) from ⟨HI.out.1.trans hb3, ho⟩); clear ho hb3))
          go_roundw
          case rel => exact .inr (.inr (.inl ⟨rfl, HT⟩))
          case measure => simp [intOf]
        · have d := HCE.out.2.2
          rw [← HI.out.1.cell (p := ⟨gb, 2, none⟩) hgb] at d
          have HZ := Lib.hid HI.out.1.size
          go_wp2_with (first | (refine appR rfl (.tmp 31) (.tmp 32) rfl w.heap.size _ _ (is1 ++ is2) is3 rfl rfl HI.out.2 (HR3.out.below HI.out.1) (by have := HN.out; have := HL.out; simp; omega) HZ.out ?_; intro v3 w3 ho hb3; have HT := Lib.hid (show RmI w w3 v3 (is1 ++ is2 ++ is3) from ⟨HI.out.1.trans hb3, ho⟩); clear ho hb3))
          go_roundw
          case rel => exact .inr (.inr (.inr ⟨rfl, HT⟩))
          case measure => simp [intOf]
        · go_wp2_with fail
          go_ret
          exact ⟨_, rfl, HI.out.2, HI.out.1⟩
end Go.Proofs.Ytbcphejblopekaa
