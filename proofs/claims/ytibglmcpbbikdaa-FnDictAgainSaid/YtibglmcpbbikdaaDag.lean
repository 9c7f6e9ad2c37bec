/- A value too great is not set; nothing is found in a dictionary of no slots. -/
import Derived.Test.YtibglmcpbbikdaaDdl
import Derived.Test.YtibglmcpbbikdaaKz
import Derived.BigQuiet
namespace Go.Proofs.Ytibglmcpbbikdaa
open Go.RowKit
set_option maxRecDepth 20000 in
set_option maxHeartbeats 4000000 in
theorem iSetBig (m ne : Nat) (key : ByteArray) (val : Int) (g c1 c2 : Nat) (a : Option Addr) (w : World) (hkb : keyB key = true) (hov : okV val = false) (hky : key.size ≤ 1048576) :
    Calls Try.prog 37 #[.agg #[.slice (some ⟨g, 0, none⟩) m c1, .slice a ne c2], .string key, .int .i64 val] w fun e w' => e = .returned (.tuple #[.agg #[.slice none 0 0, .slice none 0 0], .bool false]) ∧ Below w.heap.size w w' := by
  obtain ⟨w1, hw1⟩ : ∃ w1, w1 = (w.alloc (Obj.cells #[.slice (some ⟨g, 0, none⟩) m c1, .slice a ne c2] 26)).alloc (Obj.cells #[.slice none 0 0, .slice none 0 0] 26) := ⟨_, rfl⟩
  have HB1 := Lib.hid (show Below w.heap.size w w1 from by rw [hw1]; exact ((Below.refl _ _).alloc (Nat.le_refl _) _).alloc (by simp) _)
  have HY1 := Lib.hid (show Blk w1 (w.heap.size + 1) 26 #[.slice none 0 0, .slice none 0 0] from by rw [hw1]; exact Blk.new _ _ _ (by simp))
  have HK := Lib.hid (fun w => by have h9 := isKey_any key w (by omega); rw [hkb] at h9; exact h9)
  have HV := Lib.hid (fun w => by have h9 := isIndex_any val w; rw [hov] at h9; exact h9)
  have HW1 := Lib.hid hw1
  clear hw1 hkb hov
  have HR := Lib.hid HY1.out
  have z0 := HR.out.cell 0
  have z1 := HR.out.cell 1
  have z2 := HR.out.free 0
  have z3 := HR.out.free 1
  go_enter Try.func37, Try.ntmps37
  go_wp2_with fail
  rw [← HW1.out]
  refine (HK.out _).mono ?_
  rintro e w2 ⟨rfl, rfl⟩
  go_wp2_with fail
  refine (HV.out _).mono ?_
  rintro e w2 ⟨rfl, rfl⟩
  go_wp2_with fail
  exact bodyPost_ret (v := .tuple #[.agg #[.slice none 0 0, .slice none 0 0], .bool false]) (by exact res_ct (p := 6) (u := 7) (ty := 26) rfl _ _ (w.heap.size + 1) #[.slice none 0 0, .slice none 0 0] rfl (ld_dict (two_set HR.out (.slice none 0 0) (.slice none 0 0)))) rfl
    ⟨rfl, (HB1.out.setCell (by show w.heap.size ≤ w.heap.size + 1; omega) _).setCell (by show w.heap.size ≤ w.heap.size + 1; omega) _⟩
set_option maxRecDepth 20000 in
set_option maxHeartbeats 4000000 in
theorem isWhole_nil (w : World) : Calls Try.prog 50 #[.agg #[.slice none 0 0, .slice none 0 0]] w fun e w' => e = .returned (.bool false) ∧ Below w.heap.size w w' := by
  have HS := Lib.hid (fun w => (isSlotCount_any 0 w (by omega)).mono fun _ _ h => And.intro h.1 h.2.symm)
  have HB := Lib.hid ((Below.refl w.heap.size w).alloc (Nat.le_refl _) (Obj.cells #[.slice none 0 0, .slice none 0 0] 54))
  go_enter Try.func50, Try.ntmps50
  go_wp2_with fail
  go_quiet ((go_at_call 86; exact Calls.quiet_of_same (HS.out _)))
  go_wp2_with fail
  go_ret
  exact ⟨rfl, below_drewN' HB.out⟩
set_option maxRecDepth 20000 in
set_option maxHeartbeats 4000000 in
theorem iOk_nil (w : World) : Calls Try.prog 17 #[.agg #[.slice none 0 0, .slice none 0 0]] w fun e w' => e = .returned (.bool false) ∧ Below w.heap.size w w' := by
  have HI := Lib.hid (fun w => isWhole_nil w)
  have HB := Lib.hid (((Below.refl w.heap.size w).alloc (Nat.le_refl _) (Obj.cells #[.slice none 0 0, .slice none 0 0] 26)).alloc (by simp) (Obj.cells #[.slice none 0 0, .slice none 0 0] 54))
  go_enter Try.func17, Try.ntmps17
  go_wp2_with fail
  refine (HI.out _).mono ?_
  rintro e w2 ⟨rfl, hb2⟩
  have HB2 := Lib.hid (HB.out.trans (hb2.mono HB.out.size))
  clear hb2
  go_wp2_with fail
  go_ret
  exact ⟨rfl, HB2.out⟩
set_option maxRecDepth 20000 in
set_option maxHeartbeats 4000000 in
theorem iGet_nil (key : ByteArray) (w : World) (hkb : keyB key = true) (hky : key.size ≤ 1048576) : Calls Try.prog 20 #[.agg #[.slice none 0 0, .slice none 0 0], .string key] w fun e w' => e = .returned (.tuple #[.int .i64 0, .bool false]) ∧ Below w.heap.size w w' := by
  have HK := Lib.hid (fun w => by have h9 := isKey_any key w (by omega); rw [hkb] at h9; exact h9)
  have HI := Lib.hid (fun w => iOk_nil w)
  have HB := Lib.hid ((Below.refl w.heap.size w).alloc (Nat.le_refl _) (Obj.cells #[.slice none 0 0, .slice none 0 0] 26))
  clear hkb
  go_enter Try.func20, Try.ntmps20
  go_wp2_with fail
  refine (HK.out _).mono ?_
  rintro e w2 ⟨rfl, rfl⟩
  go_wp2_with fail
  refine (HI.out _).mono ?_
  rintro e w2 ⟨rfl, hb2⟩
  have HB2 := Lib.hid (HB.out.trans (hb2.mono HB.out.size))
  clear hb2
  go_wp2_with fail
  go_ret2
  exact ⟨rfl, HB2.out⟩
end Go.Proofs.Ytibglmcpbbikdaa
