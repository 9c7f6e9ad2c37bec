/- Whether an entry is valid by itself: the program's. -/
import Derived.Test.YtplpgcbdbmfffaaFst
namespace Go.Proofs.Ytplpgcbdbmfffaa
open Go.RowKit
def zeroE (e : Ent) : Bool := e.key.toList == [] && e.hash == 0 && e.val == 0
/-- Whether an entry is valid by itself. -/
def entOk (e : Ent) : Bool := if e.live then keyB e.key && (e.hash == hashV e.key) && okV e.val else zeroE e
set_option maxHeartbeats 2000000 in
set_option maxRecDepth 20000 in
theorem isOk_any (e : Ent) (w : World) (hk : e.key.size ≤ 1048576) : Calls Try.prog 64 #[.agg #[.string e.key, .int .i64 e.hash, .int .i64 e.val, .bool e.live]] w fun r w' => r = .returned (.bool (entOk e)) ∧ Below w.heap.size w w' := by
  have HS := Lib.hid (fun w => (isKey_any e.key w (by omega)).mono fun _ _ h => And.intro h.1 h.2.symm)
  have HH := Lib.hid (fun w => (implHash_any e.key w (by omega)).mono fun _ _ h => And.intro h.1 h.2.symm)
  have HI := Lib.hid (fun w => (isIndex_any e.val w).mono fun _ _ h => And.intro h.1 h.2.symm)
  have HB0 := Lib.hid (show Below w.heap.size w (w.alloc (Obj.cells #[.string e.key, .int .i64 e.hash, .int .i64 e.val, .bool e.live] 64)) from (Below.refl _ _).alloc (Nat.le_refl _) _)
  cases hl : e.live with
  | false =>
    have HE : entOk e = zeroE e := by unfold entOk; rw [hl]; rfl
    rw [HE]
    clear HE HB0 HS HH HI hk
    obtain ⟨k, h, v, l⟩ := e
    subst hl
    go_enter Try.func64, Try.ntmps64
    go_wp2_with fail
    all_goals
      go_ret
      refine ⟨?_, (Below.refl _ _).alloc (Nat.le_refl _) _⟩
      refine congrArg (fun b => Ending.returned (.bool b)) ?_
      simp_all [zeroE]
  | true =>
    have HE : entOk e = (keyB e.key && (e.hash == hashV e.key) && okV e.val) := by unfold entOk; rw [hl]; rfl
    rw [HE]
    clear HE
    rw [hl] at HB0
    cases h1 : keyB e.key with
    | false =>
      rw [h1] at HS
      clear h1
      go_enter Try.func64, Try.ntmps64
      go_wp2_with fail
      go_quiet (first | (go_at_call 51; exact Calls.quiet_of_same (HS.out _)) | (go_at_call 16; exact Calls.quiet_of_same (HH.out _)) | (go_at_call 77; exact Calls.quiet_of_same (HI.out _)))
      go_wp2_with fail
      go_ret
      exact ⟨rfl, below_drewN' HB0.out⟩
    | true =>
      rw [h1] at HS
      clear h1
      generalize hashV e.key = hv at *
      cases h2 : (e.hash == hv) with
      | false =>
        go_enter Try.func64, Try.ntmps64
        go_wp2_with fail
        go_quiet (first | (go_at_call 51; exact Calls.quiet_of_same (HS.out _)) | (go_at_call 16; exact Calls.quiet_of_same (HH.out _)) | (go_at_call 77; exact Calls.quiet_of_same (HI.out _)))
        go_wp2_with fail
        go_ret
        exact ⟨rfl, below_drewN' HB0.out⟩
      | true =>
        generalize okV e.val = ov at *
        go_enter Try.func64, Try.ntmps64
        go_wp2_with fail
        go_quiet (first | (go_at_call 51; exact Calls.quiet_of_same (HS.out _)) | (go_at_call 16; exact Calls.quiet_of_same (HH.out _)) | (go_at_call 77; exact Calls.quiet_of_same (HI.out _)))
        go_wp2_with fail
        go_ret
        exact ⟨by simp, below_drewN' HB0.out⟩
end Go.Proofs.Ytplpgcbdbmfffaa
