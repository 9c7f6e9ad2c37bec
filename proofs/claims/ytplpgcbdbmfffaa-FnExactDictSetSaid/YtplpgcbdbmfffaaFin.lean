/- The slot at which looking for a key ends: the model's slotOf, the program's lastProbe and find. -/
import Derived.Test.YtplpgcbdbmfffaaPrb2
namespace Go.Proofs.Ytplpgcbdbmfffaa
open Go.RowKit
theorem PrI.last {w wr : World} {g m h T : Nat} {ix : List Int} {a : Option Addr} {es : List Ent} {v : Value} (hi : PrI w wr g ix a es m h (T + 1) v) : ∃ g' cap, v = .slice (some ⟨g', 0, none⟩) (T + 1) cap ∧ wr.cell? ⟨g', T, none⟩ = some (.int .i64 ((pr m h T).1 : Int)) := by
  rcases Own.form hi.2.2 with ⟨_, h2⟩ | ⟨g2, cap, h1, _, _, _, h5⟩
  · have := prl_len m h (T + 1); rw [h2] at this; simp at this
  · rw [prl_len] at h1
    exact ⟨g2, cap, h1, h5 T _ (by simp [prl])⟩
theorem two_allocs {w w2 : World} {o o' : Obj} (h : Below ((w.alloc o).alloc o').heap.size ((w.alloc o).alloc o') w2) : Below w.heap.size w w2 :=
  (((Below.refl _ _).alloc (Nat.le_refl _) o).alloc (by simp) o').trans (h.mono (by simp; omega))
set_option maxHeartbeats 1000000 in
set_option maxRecDepth 20000 in
theorem slotOf_any (ix : List Int) (es : List Ent) (key : ByteArray) (g c1 c2 T : Nat) (a : Option Addr) (w : World) (h : Tb w g ix a es) (hok : slotOk ix es) (hm8 : slotN ix.length = true) (hl : es.length ≤ 1048576) (hkey : key.size ≤ 1048576) (hT0 : T ≤ 1000) (hT : endB ix es key (pr ix.length (hsh key.data.toList) T).1 = true) (hlt : ∀ t, t < T → endB ix es key (pr ix.length (hsh key.data.toList) t).1 = false) :
    Calls Try.prog 68 #[.agg #[.slice (some ⟨g, 0, none⟩) ix.length c1, .slice a es.length c2], .string key] w fun e w' => e = .returned (.int .i64 ((pr ix.length (hsh key.data.toList) T).1 : Int)) ∧ Below w.heap.size w w' := by
  have HC := Lib.hid (fun o => probesOf_any ix es key g c1 c2 T a (w.alloc o) (h.below ((Below.refl _ _).alloc (Nat.le_refl _) _)) hok hm8 hl hkey hT0 hT hlt)
  clear h hok hm8 hT hlt
  generalize ix.length = m at *
  generalize hsh key.data.toList = hs at *
  go_enter Try.func68, Try.ntmps68
  go_wp2_with fail
  refine (HC.out _).mono ?_
  rintro e w2 ⟨v, rfl, hi⟩
  have HB := Lib.hid (two_allocs hi.1)
  obtain ⟨g', cap, rfl, hc⟩ := hi.last
  have k0 : (T : Int) < ((T + 1 : Nat) : Int) := by omega
  clear hi
  go_wp2_with fail
  go_ret
  exact ⟨rfl, HB.out⟩
set_option maxHeartbeats 1000000 in
set_option maxRecDepth 20000 in
theorem lastProbe_any (ix : List Int) (es : List Ent) (key : ByteArray) (g c1 c2 hs T : Nat) (a : Option Addr) (w : World) (h : Tb w g ix a es) (hok : slotOk ix es) (hm8 : slotN ix.length = true) (hl : es.length ≤ 1048576) (hh : hs < 65536) (hT0 : T ≤ 1000) (hT : endB ix es key (pr ix.length hs T).1 = true) (hlt : ∀ t, t < T → endB ix es key (pr ix.length hs t).1 = false) :
    Calls Try.prog 94 #[.agg #[.slice (some ⟨g, 0, none⟩) ix.length c1, .slice a es.length c2], .string key, .int .i64 (hs : Int)] w fun e w' => e = .returned (.int .i64 ((pr ix.length hs T).1 : Int)) ∧ Below w.heap.size w w' := by
  have HC := Lib.hid (fun o => probes_any ix es key g c1 c2 hs T a (w.alloc o) (h.below ((Below.refl _ _).alloc (Nat.le_refl _) _)) hok hm8 hl hh hT0 hT hlt)
  clear h hok hm8 hT hlt
  generalize ix.length = m at *
  go_enter Try.func94, Try.ntmps94
  go_wp2_with fail
  refine (HC.out _).mono ?_
  rintro e w2 ⟨v, rfl, hi⟩
  have HB := Lib.hid (two_allocs hi.1)
  obtain ⟨g', cap, rfl, hc⟩ := hi.last
  have k0 : (T : Int) < ((T + 1 : Nat) : Int) := by omega
  clear hi
  go_wp2_with fail
  go_ret
  exact ⟨rfl, HB.out⟩
end Go.Proofs.Ytplpgcbdbmfffaa
