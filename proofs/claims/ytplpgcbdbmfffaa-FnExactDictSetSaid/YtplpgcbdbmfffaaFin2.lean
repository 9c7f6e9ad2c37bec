/- The place of a key: the program's find. -/
import Derived.Test.YtplpgcbdbmfffaaFin
namespace Go.Proofs.Ytplpgcbdbmfffaa
open Go.RowKit
set_option maxHeartbeats 1000000 in
set_option maxRecDepth 20000 in
theorem find_any (ix : List Int) (es : List Ent) (key : ByteArray) (g c1 c2 hs T : Nat) (a : Option Addr) (w : World) (n : Int) (h : Tb w g ix a es) (hok : slotOk ix es) (hm8 : slotN ix.length = true) (hl : es.length ≤ 1048576) (hh : hs < 65536) (hT0 : T ≤ 1000) (hT : endB ix es key (pr ix.length hs T).1 = true) (hlt : ∀ t, t < T → endB ix es key (pr ix.length hs t).1 = false) (hn : ix[(pr ix.length hs T).1]? = some n) :
    Calls Try.prog 65 #[.agg #[.slice (some ⟨g, 0, none⟩) ix.length c1, .slice a es.length c2], .string key, .int .i64 (hs : Int)] w fun e w' => e = .returned (.int .i64 n) ∧ Below w.heap.size w w' := by
  have hmm : 8 ≤ ix.length ∧ ix.length ≤ 128 := by have := slotN_mem hm8; simp at this; omega
  have hp : (pr ix.length hs T).1 < ix.length := pr_lt (by omega) T
  have HC := Lib.hid (fun o => lastProbe_any ix es key g c1 c2 hs T a ((w.alloc o).drew) (h.below (((Below.refl _ _).alloc (Nat.le_refl _) _).drew)) hok hm8 hl hh hT0 hT hlt)
  have HD := Lib.hid (show ∀ w', Below w.heap.size w w' → w'.cell? ⟨g, (pr ix.length hs T).1, none⟩ = some (.int .i64 n) from fun w' hb => (h.below hb).2.1 _ _ hn)
  have HX := Lib.hid (Nat.le_refl w.heap.size)
  clear h hok hm8 hT hlt hn
  generalize ix.length = m at *
  generalize (pr m hs T).1 = s at *
  have s1 : (s : Int) < (m : Int) := by omega
  have s0 : 0 ≤ (s : Int) := by omega
  go_enter Try.func65, Try.ntmps65
  go_wp2_with fail
  go_region_with (first | (refine (HC.out _).mono ?_; rintro e w2 ⟨rfl, hb2⟩; have HB := Lib.hid (show Below w.heap.size w w2 from ((((Below.refl _ w).alloc (Nat.le_refl _) _).drew).trans (hb2.mono (by show w.heap.size ≤ (w.alloc _).heap.size; simp)))); have HBk := Lib.hid (Blk.below (Blk.drew (Blk.newest w _ _)) hb2 (by show w.heap.size < (w.alloc _).heap.size; simp)); have b0 := HBk.out.cell 0; have b1 := HBk.out.cell 1; have d0 := HD.out _ HB.out; clear hb2))
  all_goals (try go_wp2)
  all_goals go_ret
  all_goals exact ⟨rfl, HB.out⟩
end Go.Proofs.Ytplpgcbdbmfffaa
