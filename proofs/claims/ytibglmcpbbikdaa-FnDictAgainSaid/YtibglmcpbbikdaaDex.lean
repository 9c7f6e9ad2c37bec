/- The exact law on DictOk. -/
import Derived.Test.YtibglmcpbbikdaaLaE
import Derived.Test.YtibglmcpbbikdaaLaD
namespace Go.Proofs.Ytibglmcpbbikdaa
open Go.RowKit
theorem specDictOk_any (ix : List Int) (es : List Ent) (g c1 c2 : Nat) (a : Option Addr) (w : World) (h : Tb w g ix a es) (hl : es.length ≤ 1048576) (hm : ix.length ≤ 1048576) (hks : KeysS es) :
    Calls Try.prog 18 #[.agg #[.slice (some ⟨g, 0, none⟩) ix.length c1, .slice a es.length c2]] w fun e w' => e = .returned (.bool (dokB ix es)) ∧ Below w.heap.size w w' := by
  have H := Lib.hid (fun o => validDict_any ix es g c1 c2 a (w.alloc o) (h.below ((Below.refl _ _).alloc (Nat.le_refl _) _)) hl hm hks)
  clear h
  go_enter Try.func18, Try.ntmps18
  go_wp2_with fail
  refine (H.out _).mono ?_
  rintro e w' ⟨rfl, hb⟩
  have HB := Lib.hid (((Below.refl _ w).alloc (Nat.le_refl _) _).trans (hb.mono (by simp)))
  clear hb
  go_wp2_with fail
  go_ret
  exact ⟨rfl, HB.out⟩
/-- What the law asks of a dictionary's size. -/
theorem sz_of {m n k : Nat} (h : ¬ szV 1048576 (m + (n + k)) < 0) : m ≤ 1048576 ∧ n ≤ 1048576 ∧ k ≤ 1048576 := by
  unfold szV at h
  split at h
  · omega
  · exact absurd (by decide) h
theorem keys_of {es : List Ent} (h : ksz es ≤ 1048576) : KeysS es := fun _ he => Nat.le_trans (ksz_mem he) h
end Go.Proofs.Ytibglmcpbbikdaa
