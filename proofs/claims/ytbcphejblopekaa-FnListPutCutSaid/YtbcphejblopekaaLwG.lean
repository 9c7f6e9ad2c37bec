/- A list, a slice and numbers are drawn. -/
import Derived.Test.YtbcphejblopekaaLpk
import Derived.Test.YtbcphejblopekaaLwD
namespace Go.Proofs.Ytbcphejblopekaa
open Go.RowKit
theorem results_tmp3row {P : Program} {fn : Func} {q p r : Tmp} {ty : TypeId} (h : fn.results = #[.tmp q, .cell p ty, .tmp r]) (tmps : Array Value) (w : World) (u x : Value) (g : Nat) (t : TypeId) (cs : Array Value) (fr : Nat × Nat) (d : TypeDesc)
    (hq : tmps.getD q undef = u) (hp : tmps.getD p undef = .pointer (some ⟨g, 0, none⟩)) (hr : tmps.getD r undef = x) (hg : w.heap[g]? = some (.cells cs t fr))
    (hu : P.underlying ty = some d) (hd : (match d with | .struct _ | .array _ _ => true | _ => false) = true) (hi : (P.info? ty).map (·.size) = some cs.size) :
    (results fn tmps).run P w = .ok (.tuple #[u, .agg cs, x]) w := by
  have hr' : tmps[r]?.getD undef = x := by simpa using hr
  have hp' : tmps[p]?.getD undef = .pointer (some ⟨g, 0, none⟩) := by simpa using hp
  have hq' : tmps[q]?.getD undef = u := by simpa using hq
  simp [results, h, hp', hq', hr', asAddr, run_loadVar_row w g t ty cs fr d hg hu hd hi]
theorem row_off {w : World} {b g : Nat} {v : Value} {is : List Int} (new : Array Value) (h : OwI w b v is) (hg : g < b) : OwI (w.setRow g new) b v is :=
  h.grown (row := some g) ⟨rfl, rfl, rfl, by simp, fun j _ hj => setRow_other w g j new (fun e => hj (by rw [e]))⟩ (own_ne_of h hg)
theorem OwI.alloc' {w : World} {b : Nat} {v : Value} {is : List Int} (h : OwI w b v is) (x : Obj) : OwI (w.alloc x) b v is := h.below ((Below.refl _ _).alloc (Nat.le_refl _) _)
/-- A list, a slice, numbers. -/
def LpP (w : World) (e : Ending) (w' : World) : Prop := ∃ (v u : Value) (is news : List Int) (f t s : Int) (hf ht : Bool), e = .returned (.tuple #[v, .agg (cutC f t s hf ht), u]) ∧ is.length ≤ 12 ∧ news.length ≤ 12 ∧ OwI w' w.heap.size v is ∧ OwI w' w.heap.size u news ∧ Below w.heap.size w w'
/-- What stands while they are drawn. -/
def DpS (w wr : World) (a : Option Addr) (m cap K : Nat) (v : Value) (is : List Int) (f t s : Int) (hf ht : Bool) (g7 : Nat) : Prop := Below w.heap.size w wr ∧ (∃ k, k ≤ K ∧ RI wr (w.heap.size + 1) a m cap k) ∧ CutB wr w.heap.size 0 0 0 false false ∧ CutAt wr g7 f t s hf ht ∧ w.heap.size + 1 < g7 ∧ OwI wr (w.heap.size + 2) v is
theorem DpS.below {w wr w' : World} {a : Option Addr} {m cap K : Nat} {v : Value} {is : List Int} {f t s : Int} {hf ht : Bool} {g7 : Nat} (h : DpS w wr a m cap K v is f t s hf ht g7) (hb : Below wr.heap.size wr w') : DpS w w' a m cap K v is f t s hf ht g7 := by
  obtain ⟨h1, ⟨k, hk, hr⟩, h3, h4, h5, h6⟩ := h
  exact ⟨h1.trans (hb.mono h1.size), ⟨k, hk, ri_below hr hb⟩, Blk.below h3 hb (Blk.lt h3), h4.below hb h4.lt, h5, h6.below hb⟩
theorem DpS.pick {w wr w' : World} {a : Option Addr} {m cap K j k1 : Nat} {v : Value} {is : List Int} {f t s : Int} {hf ht : Bool} {g7 : Nat} (h : DpS w wr a m cap K v is f t s hf ht g7) (hk1 : k1 ≤ K) (hd : DrP wr (w.heap.size + 1) a m cap k1 j w') : DpS w w' a m cap (K + j) v is f t s hf ht g7 := by
  obtain ⟨h1, _, h3, h4, h5, h6⟩ := h
  obtain ⟨hg, k2, hk2, hr2⟩ := hd
  exact ⟨below_row h1 hg (Nat.le_succ _), ⟨k2, by omega, hr2⟩, (hg.block _ (Blk.lt h3) (by simp)).trans h3, (hg.block _ h4.lt (by simp; omega)).trans h4, h5, h6.grown hg (own_ne_of h6 (by omega))⟩
set_option maxHeartbeats 4000000 in
theorem dListPutCut (w : World) (a : Option Addr) (n cap : Nat) (h : Cr w a n cap) : Calls Try.prog 38 #[.slice a n cap] w (LpP w) := by
  have HB0 := Lib.hid (show Below w.heap.size w (w.alloc (.cells #[.int .i64 0, .int .i64 0, .int .i64 0, .bool false, .bool false] 32)) from (Below.refl _ _).alloc (Nat.le_refl _) _)
  have HX0 := Lib.hid (show CutB (w.alloc (.cells #[.int .i64 0, .int .i64 0, .int .i64 0, .bool false, .bool false] 32)) w.heap.size 0 0 0 false false from Blk.new _ _ _ rfl)
  have HN := Lib.hid (newRnd_on w (.cells #[.int .i64 0, .int .i64 0, .int .i64 0, .bool false, .bool false] 32) a n cap h)
  clear h
  go_enter Try.func38, Try.ntmps38
  go_wp2_with fail
  refine HN.out.mono ?_
  rintro e w1 ⟨rfl, hb1, m, hr1⟩
  have HB1 := Lib.hid (HB0.out.trans (hb1.mono (Nat.le_succ _)))
  have HX1 := Lib.hid (show CutB w1 w.heap.size 0 0 0 false false from Blk.below HX0.out hb1 (Nat.lt_succ_self _))
  have HR1 := Lib.hid hr1
  have hs2 : w.heap.size + 1 < w1.heap.size := hr1.1.lt
  clear hb1 hr1
  go_wp2_with fail
  refine (numbers_draw w1 (w.heap.size + 1) m cap 0 a 12 50 HR1.out (by decide) (by decide) (by decide) (by decide)).mono ?_
  rintro e w3 ⟨v, is, rfl, hl, _, ⟨hg3, k3, hk3, hr3⟩, ho3⟩
  have HB3 := Lib.hid (below_row HB1.out hg3 (Nat.le_succ _))
  have HX3 := Lib.hid (show CutB w3 w.heap.size 0 0 0 false false from (hg3.block _ (Blk.lt HX1.out) (by simp)).trans HX1.out)
  have HR3 := Lib.hid hr3
  have HV3 := Lib.hid (ho3.wide (show w.heap.size + 2 ≤ w1.heap.size by omega))
  have hs3 : w.heap.size + 1 < w3.heap.size := hr3.1.lt
  clear hg3 hr3 ho3
  go_wp2_with fail
  refine (cut_draw w3 (w.heap.size + 1) m cap k3 a HR3.out (by omega)).mono ?_
  rintro e wc ⟨f, t, s, hf, ht, rfl, q1, q2, q3, hg2, k9, hk9, hr9⟩
  unfold cutC
  have hs9 : w.heap.size + 1 < wc.heap.size := hr9.1.lt
  have H4 := Lib.hid (show DpS w (wc.alloc (.cells #[.int .i64 f, .int .i64 t, .int .i64 s, .bool hf, .bool ht] 32)) a m cap 60 v is f t s hf ht wc.heap.size from ⟨(below_row HB3.out hg2 (Nat.le_succ _)).alloc ((below_row HB3.out hg2 (Nat.le_succ _)).size) _, ⟨k9, by omega, ri_below hr9 ((Below.refl _ _).alloc (Nat.le_refl _) _)⟩, Blk.alloc ((hg2.block _ (Blk.lt HX3.out) (by simp)).trans HX3.out) _, Blk.new _ _ _ rfl, hs9, (HV3.out.grown hg2 (own_ne_of HV3.out (by omega))).alloc' _⟩)
  clear hg2 hr9 q1 q2 q3 HB0 HX0 HB1 HX1 HR1 HB3 HX3 HR3 HV3
  go_wp2_with fail
  obtain ⟨kA, hkA, hrA⟩ := H4.out.2.1
  refine (numbers_draw _ (w.heap.size + 1) m cap kA a 6 50 hrA (by omega) (by decide) (by decide) (by decide)).mono ?_
  rintro e w5 ⟨u0, ns, rfl, hln, _, hd5, ho5⟩
  have H5 := Lib.hid (H4.out.pick hkA hd5)
  have HU5 := Lib.hid (ho5.wide (show w.heap.size + 2 ≤ (wc.alloc (.cells #[.int .i64 f, .int .i64 t, .int .i64 s, .bool hf, .bool ht] 32)).heap.size by simp; omega))
  clear hd5 ho5 hrA hkA H4
  obtain ⟨a1, cp1, hv⟩ := H5.out.2.2.2.2.2.len
  subst hv
  obtain ⟨nn, hn⟩ : ∃ nn, nn = is.length := ⟨_, rfl⟩
  have HNN := Lib.hid hn
  rw [← hn] at hl H5 ⊢
  clear hn
  obtain ⟨A0, M0, _, hM0, _, _, _, eA0, eM0⟩ := cut_set nn 0 0 1 false false okC_all (by omega)
  have HC0 := Lib.hid (cut_spec okC_all (by omega) eA0 eM0)
  clear eA0 eM0
  unfold cutC at HC0
  go_wp2_with fail
  refine (HC0.out _).mono ?_
  rintro e w6 ⟨rfl, hb6⟩
  have H6 := Lib.hid (H5.out.below hb6)
  have HU6 := Lib.hid (HU5.out.below hb6)
  clear hb6 H5 HU5
  obtain ⟨e0, e1, e2, e3, e4⟩ := H6.out.2.2.2.1.cells
  go_wp2_with (first | (refine ext rfl (.tmp 20) 0 [.int .i64 A0, .int .i64 (M0 : Int)] (.int .i64 A0) rfl rfl rfl ?_) | (refine ext rfl (.tmp 20) 1 [.int .i64 A0, .int .i64 (M0 : Int)] (.int .i64 (M0 : Int)) rfl rfl rfl ?_))
  have HVC := Lib.hid (validCut_any f t s hf ht w6)
  unfold cutC at HVC
  refine HVC.out.mono ?_
  rintro e w7 ⟨rfl, hb7⟩
  have H7 := Lib.hid (H6.out.below hb7)
  have HU7 := Lib.hid (HU6.out.below hb7)
  clear hb7 H6 HU6 HVC e0 e1 e2 e3 e4
  obtain ⟨e0, e1, e2, e3, e4⟩ := H7.out.2.2.2.1.cells
  cases hq : okC f t s hf ht with
  | false =>
    clear hq
    go_wp2_with fail
    obtain ⟨kB, hkB, hrB⟩ := H7.out.2.1
    refine (pick_any w7 (w.heap.size + 1) a m cap kB 2 hrB (by omega) (by decide)).mono ?_
    rintro e w9 ⟨r, rfl, _, hg9, hr9⟩
    have H9 := Lib.hid (H7.out.pick hkB ⟨hg9, hr9⟩)
    have HU9 := Lib.hid (HU7.out.grown hg9 (own_ne_of HU7.out (by omega)))
    clear hg9 hr9 hrB hkB e0 e1 e2 e3 e4
    obtain ⟨e0, e1, e2, e3, e4⟩ := H9.out.2.2.2.1.cells
    by_cases hr0 : r = 0
    · subst hr0
      obtain ⟨kC, hkC, hrC⟩ := H9.out.2.1
      have HRC := Lib.hid hrC
      have HA := Lib.hid (show NuI w9 (w9.alloc (Obj.cells #[] 3)) (w.heap.size + 1) a m cap kC 0 (.slice (some ⟨w9.heap.size, 0, none⟩) 0 0) [] from ⟨(DrP.zero HRC.out).below ((Below.refl _ _).alloc (Nat.le_refl _) _), World.ownsRow_lit w9 #[] 0 (Nat.le_refl _) (by decide) rfl⟩)
      clear hrC e0 e1 e2 e3 e4
      go_wp2_with fail
      go_loopw [8, 11] (fun v i wr => ∃ (c : Nat) (l : List Int) (vv : Value), vv = v ∧ c ≤ M0 ∧ i = .int .i64 (c : Int) ∧ l.length = c ∧ Hid (NuI w9 wr (w.heap.size + 1) a m cap kC c v l)) (fun _ i _ => M0 - (intOf i).toNat)
      case atStart => exact ⟨0, [], _, rfl, by omega, rfl, rfl, HA⟩
      case round =>
        obtain ⟨c, l, vv, rfl, hc, rfl, hcl, HI⟩ := hrel
        by_cases hlt : c < M0
        · obtain ⟨kD, hkD, hrD⟩ := HI.out.1.2
          have HP := Lib.hid (pick_any _ (w.heap.size + 1) a m cap kD 50 hrD (by omega) (by decide))
          have HKD := Lib.hid hkD
          clear hkD hrD
          have HCL := Lib.hid hcl
          clear hcl
          go_wp2_with fail
          refine HP.out.mono ?_
          rintro e w10 ⟨p, rfl, _, hg10, hr10⟩
          have HC := Lib.hid (HI.out.call HRC.out HKD.out ⟨hg10, hr10⟩)
          have HZ := Lib.hid HC.out.1.1.size
          clear hg10 hr10
          go_wp2_with (first | (refine appI rfl (.tmp 45) (.tmp 48) rfl w10 _ rfl w9.heap.size _ l rfl rfl HC.out.2 (by rw [HCL.out]; omega) HZ.out ?_; intro v3 w11 ho hb3; have HT := Lib.hid (HC.out.app HRC.out ho hb3); clear ho hb3))
          go_roundw
          case rel => exact ⟨c + 1, l ++ [(p : Int)], _, rfl, by omega, by go_num, by rw [List.length_append, HCL.out]; rfl, HT⟩
          case measure => simp [intOf]; try omega
        · obtain rfl : c = M0 := by omega
          clear hlt
          have HF := Lib.hid (H9.out.pick hkC HI.out.1)
          have HUF := Lib.hid (HI.out.2.wide (show w.heap.size + 2 ≤ w9.heap.size by have := H9.out.2.2.2.1.lt; have := H9.out.2.2.2.2.1; omega))
          have HLN := Lib.hid hcl
          clear hcl
          generalize hwr : wr = wz at *
          clear hwr
          obtain ⟨e0, e1, e2, e3, e4⟩ := HF.out.2.2.2.1.cells
          have HXz := Lib.hid (show CutB wz.drew w.heap.size 0 0 0 false false from HF.out.2.2.1)
          have hg7 : w.heap.size + 1 < wc.heap.size := HF.out.2.2.2.2.1
          have HSR := Lib.hid (show CutAt (wz.drew.setRow w.heap.size #[.int .i64 f, .int .i64 t, .int .i64 s, .bool hf, .bool ht]) wc.heap.size f t s hf ht from Blk.rowOff (show CutAt wz.drew wc.heap.size f t s hf ht from HF.out.2.2.2.1) (by omega))
          have HR5 := Lib.hid (show CutB (wz.drew.setRow w.heap.size #[.int .i64 f, .int .i64 t, .int .i64 s, .bool hf, .bool ht]) w.heap.size f t s hf ht from Blk.row HXz.out)
          have HBs := Lib.hid (show Below w.heap.size w (wz.drew.setRow w.heap.size #[.int .i64 f, .int .i64 t, .int .i64 s, .bool hf, .bool ht]) from below_setRow (show Below w.heap.size w wz.drew from ⟨HF.out.1.os, HF.out.1.tape, HF.out.1.output, HF.out.1.size, HF.out.1.block⟩) (Nat.le_refl _))
          have HVs := Lib.hid (row_off #[.int .i64 f, .int .i64 t, .int .i64 s, .bool hf, .bool ht] (show OwI wz.drew (w.heap.size + 2) (.slice a1 nn cp1) is from HF.out.2.2.2.2.2) (show w.heap.size < w.heap.size + 2 by omega))
          have HUs := Lib.hid (row_off #[.int .i64 f, .int .i64 t, .int .i64 s, .bool hf, .bool ht] (show OwI wz.drew (w.heap.size + 2) vv l from HUF.out) (show w.heap.size < w.heap.size + 2 by omega))
          clear e0 e1 e2 e3 e4
          go_wp2_with fail
          refine wp_region_held_drew (S := fun w' => CutAt w' wc.heap.size f t s hf ht) (by kernel_rfl) (show CutAt wz.drew wc.heap.size f t s hf ht from HF.out.2.2.2.1) fun hS => ?_
          refine held_take 0 (v := .slice a1 nn cp1) rfl rfl (by kernel_rfl) (by kernel_rfl) (by kernel_rfl) (fun _ _ _ h => h) (fun w' h => puts_move_to _ _ rfl rfl) hS ?_
          go_frame
          refine held_take 1 (v := .agg #[.int .i64 f, .int .i64 t, .int .i64 s, .bool hf, .bool ht]) rfl rfl (by kernel_rfl) (by kernel_rfl) (by kernel_rfl) (fun _ _ _ h => h) (fun w' h => puts_load 32 _ rfl wc.heap.size 0 #[.int .i64 f, .int .i64 t, .int .i64 s, .bool hf, .bool ht] rfl (Blk.lies h) _ Try.underlying32 rfl (by kernel_rfl)) hS ?_
          go_frame
          refine held_take 2 (v := vv) rfl rfl (by kernel_rfl) (by kernel_rfl) (by kernel_rfl) (fun _ _ _ h => h) (fun w' h => puts_move_to _ _ rfl rfl) hS ?_
          go_frame
          refine held_take 3 (v := .slice a1 nn cp1) rfl rfl (by kernel_rfl) (by kernel_rfl) (by kernel_rfl) (fun _ _ _ h => h) (fun w' h => puts_assign_to _ _ rfl rfl) hS ?_
          go_frame
          refine held_only 4 (by kernel_rfl) rfl rfl (gives_store 32 _ _ rfl w.heap.size #[.int .i64 f, .int .i64 t, .int .i64 s, .bool hf, .bool ht] #[.int .i64 0, .int .i64 0, .int .i64 0, .bool false, .bool false] rfl rfl _ HXz.out (by kernel_rfl) rfl (by simp [Value.oneCell'])) HSR.out ?_
          go_frame
          refine held_take 5 (v := vv) rfl rfl (by kernel_rfl) (by kernel_rfl) (by kernel_rfl) (fun _ _ _ h => h) (fun w' h => puts_assign_to _ _ rfl rfl) HSR.out ?_
          go_frame
          refine wpAnyH_done (by kernel_rfl) ?_ _
          go_wp2_with fail
          refine bodyPost_ret (v := .tuple #[.slice a1 nn cp1, .agg (cutC f t s hf ht), vv]) (results_tmp3row rfl _ _ (.slice a1 nn cp1) vv w.heap.size 32 (cutC f t s hf ht) (0, 0) _ rfl rfl rfl HR5.out Try.underlying32 rfl (by kernel_rfl)) rfl ⟨_, _, is, l, f, t, s, hf, ht, rfl, by have := HNN.out; omega, by rw [HLN.out]; omega, HVs.out.wide (by omega), HUs.out.wide (by omega), HBs.out⟩
    · have hr1 : ¬ (r : Int) = 0 := by omega
      have HXz := Lib.hid (show CutB w9.drew w.heap.size 0 0 0 false false from H9.out.2.2.1)
      have hg7 : w.heap.size + 1 < wc.heap.size := H9.out.2.2.2.2.1
      have HSR := Lib.hid (show CutAt (w9.drew.setRow w.heap.size #[.int .i64 f, .int .i64 t, .int .i64 s, .bool hf, .bool ht]) wc.heap.size f t s hf ht from Blk.rowOff (show CutAt w9.drew wc.heap.size f t s hf ht from H9.out.2.2.2.1) (by omega))
      have HR5 := Lib.hid (show CutB (w9.drew.setRow w.heap.size #[.int .i64 f, .int .i64 t, .int .i64 s, .bool hf, .bool ht]) w.heap.size f t s hf ht from Blk.row HXz.out)
      have HBs := Lib.hid (show Below w.heap.size w (w9.drew.setRow w.heap.size #[.int .i64 f, .int .i64 t, .int .i64 s, .bool hf, .bool ht]) from below_setRow (show Below w.heap.size w w9.drew from ⟨H9.out.1.os, H9.out.1.tape, H9.out.1.output, H9.out.1.size, H9.out.1.block⟩) (Nat.le_refl _))
      have HVs := Lib.hid (row_off #[.int .i64 f, .int .i64 t, .int .i64 s, .bool hf, .bool ht] (show OwI w9.drew (w.heap.size + 2) (.slice a1 nn cp1) is from H9.out.2.2.2.2.2) (show w.heap.size < w.heap.size + 2 by omega))
      have HUs := Lib.hid (row_off #[.int .i64 f, .int .i64 t, .int .i64 s, .bool hf, .bool ht] (show OwI w9.drew (w.heap.size + 2) u0 ns from HU9.out) (show w.heap.size < w.heap.size + 2 by omega))
      clear e0 e1 e2 e3 e4
      go_wp2_with fail
      refine wp_region_held_drew (S := fun w' => CutAt w' wc.heap.size f t s hf ht) (by kernel_rfl) (show CutAt w9.drew wc.heap.size f t s hf ht from H9.out.2.2.2.1) fun hS => ?_
      refine held_take 0 (v := .slice a1 nn cp1) rfl rfl (by kernel_rfl) (by kernel_rfl) (by kernel_rfl) (fun _ _ _ h => h) (fun w' h => puts_move_to _ _ rfl rfl) hS ?_
      go_frame
      refine held_take 1 (v := .agg #[.int .i64 f, .int .i64 t, .int .i64 s, .bool hf, .bool ht]) rfl rfl (by kernel_rfl) (by kernel_rfl) (by kernel_rfl) (fun _ _ _ h => h) (fun w' h => puts_load 32 _ rfl wc.heap.size 0 #[.int .i64 f, .int .i64 t, .int .i64 s, .bool hf, .bool ht] rfl (Blk.lies h) _ Try.underlying32 rfl (by kernel_rfl)) hS ?_
      go_frame
      refine held_take 2 (v := u0) rfl rfl (by kernel_rfl) (by kernel_rfl) (by kernel_rfl) (fun _ _ _ h => h) (fun w' h => puts_move_to _ _ rfl rfl) hS ?_
      go_frame
      refine held_take 3 (v := .slice a1 nn cp1) rfl rfl (by kernel_rfl) (by kernel_rfl) (by kernel_rfl) (fun _ _ _ h => h) (fun w' h => puts_assign_to _ _ rfl rfl) hS ?_
      go_frame
      refine held_only 4 (by kernel_rfl) rfl rfl (gives_store 32 _ _ rfl w.heap.size #[.int .i64 f, .int .i64 t, .int .i64 s, .bool hf, .bool ht] #[.int .i64 0, .int .i64 0, .int .i64 0, .bool false, .bool false] rfl rfl _ HXz.out (by kernel_rfl) rfl (by simp [Value.oneCell'])) HSR.out ?_
      go_frame
      refine held_take 5 (v := u0) rfl rfl (by kernel_rfl) (by kernel_rfl) (by kernel_rfl) (fun _ _ _ h => h) (fun w' h => puts_assign_to _ _ rfl rfl) HSR.out ?_
      go_frame
      refine wpAnyH_done (by kernel_rfl) ?_ _
      go_wp2_with fail
      refine bodyPost_ret (v := .tuple #[.slice a1 nn cp1, .agg (cutC f t s hf ht), u0]) (results_tmp3row rfl _ _ (.slice a1 nn cp1) u0 w.heap.size 32 (cutC f t s hf ht) (0, 0) _ rfl rfl rfl HR5.out Try.underlying32 rfl (by kernel_rfl)) rfl ⟨_, _, is, ns, f, t, s, hf, ht, rfl, by have := HNN.out; omega, by omega, HVs.out.wide (by omega), HUs.out.wide (by omega), HBs.out⟩
  | true =>
    obtain ⟨A, M, _, hM, _, _, _, eA, eM⟩ := cut_set nn f t s hf ht hq (by omega)
    have HC2 := Lib.hid (cut_spec hq (by omega) eA eM)
    clear eA eM hq
    unfold cutC at HC2
    go_wp2_with fail
    refine (HC2.out _).mono ?_
    rintro e w8 ⟨rfl, hb8⟩
    have H8 := Lib.hid (H7.out.below hb8)
    have HU8 := Lib.hid (HU7.out.below hb8)
    clear hb8 H7 HU7 e0 e1 e2 e3 e4
    obtain ⟨e0, e1, e2, e3, e4⟩ := H8.out.2.2.2.1.cells
    go_wp2_with (first | (refine ext rfl (.tmp 29) 0 [.int .i64 A, .int .i64 (M : Int)] (.int .i64 A) rfl rfl rfl ?_) | (refine ext rfl (.tmp 29) 1 [.int .i64 A, .int .i64 (M : Int)] (.int .i64 (M : Int)) rfl rfl rfl ?_))
    obtain ⟨kB, hkB, hrB⟩ := H8.out.2.1
    refine (pick_any w8 (w.heap.size + 1) a m cap kB 2 hrB (by omega) (by decide)).mono ?_
    rintro e w9 ⟨r, rfl, _, hg9, hr9⟩
    have H9 := Lib.hid (H8.out.pick hkB ⟨hg9, hr9⟩)
    have HU9 := Lib.hid (HU8.out.grown hg9 (own_ne_of HU8.out (by omega)))
    clear hg9 hr9 hrB hkB e0 e1 e2 e3 e4
    obtain ⟨e0, e1, e2, e3, e4⟩ := H9.out.2.2.2.1.cells
    by_cases hr0 : r = 0
    · subst hr0
      obtain ⟨kC, hkC, hrC⟩ := H9.out.2.1
      have HRC := Lib.hid hrC
      have HA := Lib.hid (show NuI w9 (w9.alloc (Obj.cells #[] 3)) (w.heap.size + 1) a m cap kC 0 (.slice (some ⟨w9.heap.size, 0, none⟩) 0 0) [] from ⟨(DrP.zero HRC.out).below ((Below.refl _ _).alloc (Nat.le_refl _) _), World.ownsRow_lit w9 #[] 0 (Nat.le_refl _) (by decide) rfl⟩)
      clear hrC e0 e1 e2 e3 e4
      go_wp2_with fail
      go_loopw [8, 11] (fun v i wr => ∃ (c : Nat) (l : List Int) (vv : Value), vv = v ∧ c ≤ M ∧ i = .int .i64 (c : Int) ∧ l.length = c ∧ Hid (NuI w9 wr (w.heap.size + 1) a m cap kC c v l)) (fun _ i _ => M - (intOf i).toNat)
      case atStart => exact ⟨0, [], _, rfl, by omega, rfl, rfl, HA⟩
      case round =>
        obtain ⟨c, l, vv, rfl, hc, rfl, hcl, HI⟩ := hrel
        by_cases hlt : c < M
        · obtain ⟨kD, hkD, hrD⟩ := HI.out.1.2
          have HP := Lib.hid (pick_any _ (w.heap.size + 1) a m cap kD 50 hrD (by omega) (by decide))
          have HKD := Lib.hid hkD
          clear hkD hrD
          have HCL := Lib.hid hcl
          clear hcl
          go_wp2_with fail
          refine HP.out.mono ?_
          rintro e w10 ⟨p, rfl, _, hg10, hr10⟩
          have HC := Lib.hid (HI.out.call HRC.out HKD.out ⟨hg10, hr10⟩)
          have HZ := Lib.hid HC.out.1.1.size
          clear hg10 hr10
          go_wp2_with (first | (refine appI rfl (.tmp 45) (.tmp 48) rfl w10 _ rfl w9.heap.size _ l rfl rfl HC.out.2 (by rw [HCL.out]; omega) HZ.out ?_; intro v3 w11 ho hb3; have HT := Lib.hid (HC.out.app HRC.out ho hb3); clear ho hb3))
          go_roundw
          case rel => exact ⟨c + 1, l ++ [(p : Int)], _, rfl, by omega, by go_num, by rw [List.length_append, HCL.out]; rfl, HT⟩
          case measure => simp [intOf]; try omega
        · obtain rfl : c = M := by omega
          clear hlt
          have HF := Lib.hid (H9.out.pick hkC HI.out.1)
          have HUF := Lib.hid (HI.out.2.wide (show w.heap.size + 2 ≤ w9.heap.size by have := H9.out.2.2.2.1.lt; have := H9.out.2.2.2.2.1; omega))
          have HLN := Lib.hid hcl
          clear hcl
          generalize hwr : wr = wz at *
          clear hwr
          obtain ⟨e0, e1, e2, e3, e4⟩ := HF.out.2.2.2.1.cells
          have HXz := Lib.hid (show CutB wz.drew w.heap.size 0 0 0 false false from HF.out.2.2.1)
          have hg7 : w.heap.size + 1 < wc.heap.size := HF.out.2.2.2.2.1
          have HSR := Lib.hid (show CutAt (wz.drew.setRow w.heap.size #[.int .i64 f, .int .i64 t, .int .i64 s, .bool hf, .bool ht]) wc.heap.size f t s hf ht from Blk.rowOff (show CutAt wz.drew wc.heap.size f t s hf ht from HF.out.2.2.2.1) (by omega))
          have HR5 := Lib.hid (show CutB (wz.drew.setRow w.heap.size #[.int .i64 f, .int .i64 t, .int .i64 s, .bool hf, .bool ht]) w.heap.size f t s hf ht from Blk.row HXz.out)
          have HBs := Lib.hid (show Below w.heap.size w (wz.drew.setRow w.heap.size #[.int .i64 f, .int .i64 t, .int .i64 s, .bool hf, .bool ht]) from below_setRow (show Below w.heap.size w wz.drew from ⟨HF.out.1.os, HF.out.1.tape, HF.out.1.output, HF.out.1.size, HF.out.1.block⟩) (Nat.le_refl _))
          have HVs := Lib.hid (row_off #[.int .i64 f, .int .i64 t, .int .i64 s, .bool hf, .bool ht] (show OwI wz.drew (w.heap.size + 2) (.slice a1 nn cp1) is from HF.out.2.2.2.2.2) (show w.heap.size < w.heap.size + 2 by omega))
          have HUs := Lib.hid (row_off #[.int .i64 f, .int .i64 t, .int .i64 s, .bool hf, .bool ht] (show OwI wz.drew (w.heap.size + 2) vv l from HUF.out) (show w.heap.size < w.heap.size + 2 by omega))
          clear e0 e1 e2 e3 e4
          go_wp2_with fail
          refine wp_region_held_drew (S := fun w' => CutAt w' wc.heap.size f t s hf ht) (by kernel_rfl) (show CutAt wz.drew wc.heap.size f t s hf ht from HF.out.2.2.2.1) fun hS => ?_
          refine held_take 0 (v := .slice a1 nn cp1) rfl rfl (by kernel_rfl) (by kernel_rfl) (by kernel_rfl) (fun _ _ _ h => h) (fun w' h => puts_move_to _ _ rfl rfl) hS ?_
          go_frame
          refine held_take 1 (v := .agg #[.int .i64 f, .int .i64 t, .int .i64 s, .bool hf, .bool ht]) rfl rfl (by kernel_rfl) (by kernel_rfl) (by kernel_rfl) (fun _ _ _ h => h) (fun w' h => puts_load 32 _ rfl wc.heap.size 0 #[.int .i64 f, .int .i64 t, .int .i64 s, .bool hf, .bool ht] rfl (Blk.lies h) _ Try.underlying32 rfl (by kernel_rfl)) hS ?_
          go_frame
          refine held_take 2 (v := vv) rfl rfl (by kernel_rfl) (by kernel_rfl) (by kernel_rfl) (fun _ _ _ h => h) (fun w' h => puts_move_to _ _ rfl rfl) hS ?_
          go_frame
          refine held_take 3 (v := .slice a1 nn cp1) rfl rfl (by kernel_rfl) (by kernel_rfl) (by kernel_rfl) (fun _ _ _ h => h) (fun w' h => puts_assign_to _ _ rfl rfl) hS ?_
          go_frame
          refine held_only 4 (by kernel_rfl) rfl rfl (gives_store 32 _ _ rfl w.heap.size #[.int .i64 f, .int .i64 t, .int .i64 s, .bool hf, .bool ht] #[.int .i64 0, .int .i64 0, .int .i64 0, .bool false, .bool false] rfl rfl _ HXz.out (by kernel_rfl) rfl (by simp [Value.oneCell'])) HSR.out ?_
          go_frame
          refine held_take 5 (v := vv) rfl rfl (by kernel_rfl) (by kernel_rfl) (by kernel_rfl) (fun _ _ _ h => h) (fun w' h => puts_assign_to _ _ rfl rfl) HSR.out ?_
          go_frame
          refine wpAnyH_done (by kernel_rfl) ?_ _
          go_wp2_with fail
          refine bodyPost_ret (v := .tuple #[.slice a1 nn cp1, .agg (cutC f t s hf ht), vv]) (results_tmp3row rfl _ _ (.slice a1 nn cp1) vv w.heap.size 32 (cutC f t s hf ht) (0, 0) _ rfl rfl rfl HR5.out Try.underlying32 rfl (by kernel_rfl)) rfl ⟨_, _, is, l, f, t, s, hf, ht, rfl, by have := HNN.out; omega, by rw [HLN.out]; omega, HVs.out.wide (by omega), HUs.out.wide (by omega), HBs.out⟩
    · have hr1 : ¬ (r : Int) = 0 := by omega
      have HXz := Lib.hid (show CutB w9.drew w.heap.size 0 0 0 false false from H9.out.2.2.1)
      have hg7 : w.heap.size + 1 < wc.heap.size := H9.out.2.2.2.2.1
      have HSR := Lib.hid (show CutAt (w9.drew.setRow w.heap.size #[.int .i64 f, .int .i64 t, .int .i64 s, .bool hf, .bool ht]) wc.heap.size f t s hf ht from Blk.rowOff (show CutAt w9.drew wc.heap.size f t s hf ht from H9.out.2.2.2.1) (by omega))
      have HR5 := Lib.hid (show CutB (w9.drew.setRow w.heap.size #[.int .i64 f, .int .i64 t, .int .i64 s, .bool hf, .bool ht]) w.heap.size f t s hf ht from Blk.row HXz.out)
      have HBs := Lib.hid (show Below w.heap.size w (w9.drew.setRow w.heap.size #[.int .i64 f, .int .i64 t, .int .i64 s, .bool hf, .bool ht]) from below_setRow (show Below w.heap.size w w9.drew from ⟨H9.out.1.os, H9.out.1.tape, H9.out.1.output, H9.out.1.size, H9.out.1.block⟩) (Nat.le_refl _))
      have HVs := Lib.hid (row_off #[.int .i64 f, .int .i64 t, .int .i64 s, .bool hf, .bool ht] (show OwI w9.drew (w.heap.size + 2) (.slice a1 nn cp1) is from H9.out.2.2.2.2.2) (show w.heap.size < w.heap.size + 2 by omega))
      have HUs := Lib.hid (row_off #[.int .i64 f, .int .i64 t, .int .i64 s, .bool hf, .bool ht] (show OwI w9.drew (w.heap.size + 2) u0 ns from HU9.out) (show w.heap.size < w.heap.size + 2 by omega))
      clear e0 e1 e2 e3 e4
      go_wp2_with fail
      refine wp_region_held_drew (S := fun w' => CutAt w' wc.heap.size f t s hf ht) (by kernel_rfl) (show CutAt w9.drew wc.heap.size f t s hf ht from H9.out.2.2.2.1) fun hS => ?_
      refine held_take 0 (v := .slice a1 nn cp1) rfl rfl (by kernel_rfl) (by kernel_rfl) (by kernel_rfl) (fun _ _ _ h => h) (fun w' h => puts_move_to _ _ rfl rfl) hS ?_
      go_frame
      refine held_take 1 (v := .agg #[.int .i64 f, .int .i64 t, .int .i64 s, .bool hf, .bool ht]) rfl rfl (by kernel_rfl) (by kernel_rfl) (by kernel_rfl) (fun _ _ _ h => h) (fun w' h => puts_load 32 _ rfl wc.heap.size 0 #[.int .i64 f, .int .i64 t, .int .i64 s, .bool hf, .bool ht] rfl (Blk.lies h) _ Try.underlying32 rfl (by kernel_rfl)) hS ?_
      go_frame
      refine held_take 2 (v := u0) rfl rfl (by kernel_rfl) (by kernel_rfl) (by kernel_rfl) (fun _ _ _ h => h) (fun w' h => puts_move_to _ _ rfl rfl) hS ?_
      go_frame
      refine held_take 3 (v := .slice a1 nn cp1) rfl rfl (by kernel_rfl) (by kernel_rfl) (by kernel_rfl) (fun _ _ _ h => h) (fun w' h => puts_assign_to _ _ rfl rfl) hS ?_
      go_frame
      refine held_only 4 (by kernel_rfl) rfl rfl (gives_store 32 _ _ rfl w.heap.size #[.int .i64 f, .int .i64 t, .int .i64 s, .bool hf, .bool ht] #[.int .i64 0, .int .i64 0, .int .i64 0, .bool false, .bool false] rfl rfl _ HXz.out (by kernel_rfl) rfl (by simp [Value.oneCell'])) HSR.out ?_
      go_frame
      refine held_take 5 (v := u0) rfl rfl (by kernel_rfl) (by kernel_rfl) (by kernel_rfl) (fun _ _ _ h => h) (fun w' h => puts_assign_to _ _ rfl rfl) HSR.out ?_
      go_frame
      refine wpAnyH_done (by kernel_rfl) ?_ _
      go_wp2_with fail
      refine bodyPost_ret (v := .tuple #[.slice a1 nn cp1, .agg (cutC f t s hf ht), u0]) (results_tmp3row rfl _ _ (.slice a1 nn cp1) u0 w.heap.size 32 (cutC f t s hf ht) (0, 0) _ rfl rfl rfl HR5.out Try.underlying32 rfl (by kernel_rfl)) rfl ⟨_, _, is, ns, f, t, s, hf, ht, rfl, by have := HNN.out; omega, by omega, HVs.out.wide (by omega), HUs.out.wide (by omega), HBs.out⟩
end Go.Proofs.Ytbcphejblopekaa
