/- Texts joined: the program's TextJoin; the law. -/
import Derived.Test.YtfmpplolhhjpoaaJoin
namespace Go.Proofs.Ytfmpplolhhjpoaa
open Go.RowKit
theorem all_one' (s : ByteArray) : [s].all okT = okT s := by simp
/-- While texts are joined: so many bytes stand, a list lies beside them. -/
def JoI (w : World) (ss : List ByteArray) (g : Nat) (wr : World) (L : List UInt8) (v : Value) : Prop := Below w.heap.size w wr ∧ wr.ownsRow w.heap.size 5 1 v L.length (bv L) ∧ Cp wr g ss
theorem joi_app {w wr w2 : World} {ss : List ByteArray} {g : Nat} {L : List UInt8} {v v2 : Value} {s : ByteArray} (h0 : g < w.heap.size) (h : JoI w ss g wr L v) (ho : w2.ownsRow w.heap.size 5 1 v2 (L.length + s.size) (bv L ++ Lib.strCells s)) (hg : wr.grownBy w2 v.ownBlock) : JoI w ss g w2 (L ++ s.data.toList) v2 := by
  have hk : ∀ j, v.ownBlock = some j → w.heap.size ≤ j := fun j hj => (World.ownsRow.lt h.2.1 j hj).1
  refine ⟨h.1.grown hg h.1.size hk, ?_, fun j t hj => ?_⟩
  · have e : bv L ++ Lib.strCells s = bv (L ++ s.data.toList) := by simp [bv, Lib.strCells]
    rw [e] at ho
    rw [List.length_append]
    exact ho
  · have hc := h.2.2 j t hj
    refine hg.cell hc fun e => ?_
    have := hk g (by rw [← e])
    omega
theorem own_slice {w : World} {base : Nat} {e : TypeId} {v : Value} {n : Nat} {vals : List Value} (h : w.ownsRow base e 1 v n vals) : ∃ a c, v = .slice a n c := by
  obtain ⟨h1, h2⟩ := h
  rcases h2 with ⟨rfl, h0⟩ | ⟨g, cap, cur, hv, _⟩
  · exact ⟨none, 0, by rw [h0]⟩
  · exact ⟨_, _, hv⟩
theorem joi_own {w wr : World} {ss : List ByteArray} {g : Nat} {L : List UInt8} {v : Value} (h : JoI w ss g wr L v) : Own wr w.heap.size 5 v (L.map fun c => Value.int .u8 (c.toNat : Int)) := by
  unfold Own
  rw [List.length_map]
  exact h.2.1
set_option maxHeartbeats 4000000 in
theorem implJoin_any (ss : List ByteArray) (p : ByteArray) (g cap : Nat) (w : World) (h : Cp w g ss) (hg : g < w.heap.size) (hl : ss.length ≤ 1048576) (hz : Le ss 1048576) (hp : p.size ≤ 1048576) :
    Calls Try.prog 20 #[.slice (some ⟨g, 0, none⟩) ss.length cap, .string p] w (JnF ss p w) := by
  have HC := Lib.hid h
  have HS := Lib.hid hz
  clear h hz
  by_cases h4 : ss.length ≤ 401
  · have HV := Lib.hid (fun w => areTexts_any [p] _ _ (RdS.one w p) (by simp))
    rw [all_one'] at HV
    have HB := Lib.hid (show Below w.heap.size w (w.alloc (Obj.cells #[.string p] 9)) from (Below.refl _ _).alloc (Nat.le_refl _) _)
    by_cases hpp : p.size ≤ 400
    · rw [show okT p = true by unfold okT; simpa using hpp] at HV
      have HO := Lib.hid (show jOk ss p ↔ (jn ss p.data.toList ss.length).length ≤ 400 from ⟨fun h => h.2.2, fun h => ⟨h4, hpp, h⟩⟩)
      obtain ⟨n, hn⟩ : ∃ n, n = ss.length := ⟨_, rfl⟩
      have HN := Lib.hid hn
      rw [← hn] at h4 HO hl ⊢
      clear hn
      go_enter Try.func20, Try.ntmps20
      go_wp2_with fail
      refine (HV.out _).mono ?_
      rintro e w1 ⟨rfl, hw⟩
      have HB1 := Lib.hid (show Below w.heap.size w w1 from hw ▸ HB.out)
      clear hw
      go_wp2_with fail
      have H0 := Lib.hid (show JoI w ss g w1 (jn ss p.data.toList 0) (.slice none 0 0) from ⟨HB1.out, World.ownsRow_nil _ _ _ _, HC.out.below HB1.out⟩)
      go_loopw [6, 20] (fun v i wr => ∃ k : Nat, k ≤ n ∧ i = .int .i64 k ∧ (jn ss p.data.toList k).length ≤ 400 ∧ Hid (JoI w ss g wr (jn ss p.data.toList k) v)) (fun _ i _ => n - (intOf i).toNat)
      case atStart => exact ⟨0, by omega, rfl, Nat.zero_le _, H0⟩
      case round =>
        obtain ⟨k, hk, rfl, hL4, HI⟩ := hrel
        obtain ⟨i0, hi1, hi2, hi3, hi4⟩ := info_of (P := Try.prog) (e := 5) (z := .int .u8 0) (s := 1) (b := 1) (by kernel_rfl)
        by_cases hlt : k < n
        · obtain ⟨s, hs⟩ : ∃ s, ss[k]? = some s := ⟨ss[k]'(by have := HN.out; omega), List.getElem?_eq_getElem _⟩
          have c1 : wr.cell? ⟨g, k, none⟩ = some (.string s) := HI.out.2.2 k s hs
          have hs1 := HS.out s (List.mem_of_getElem? hs)
          have HHas := Lib.hid (jn_mono ss p.data.toList (k := k + 1) (m := ss.length) (by have := HN.out; omega))
          by_cases h0 : k = 0
          · subst h0
            have HJ := Lib.hid (show jn ss p.data.toList (0 + 1) = jn ss p.data.toList 0 ++ s.data.toList from (jn_one (p := p.data.toList) hs).trans rfl)
            have HLn := Lib.hid (show (jn ss p.data.toList (0 + 1)).length = (jn ss p.data.toList 0).length + s.size by rw [HJ.out, List.length_append]; rfl)
            obtain ⟨L, hL⟩ : ∃ L, L = jn ss p.data.toList 0 := ⟨_, rfl⟩
            rw [← hL] at HI hL4 HJ HLn
            clear hs hL
            by_cases h5 : L.length + s.size ≤ 400
            · have h5' : ((L.length + s.size : Nat) : Int) ≤ 400 := by omega
              go_wp2_with (first | (refine Lib.wpList_append_own_string _ rfl (.tmp 30) (.tmp 31) 33 9 rfl w.heap.size 5 i0 Try.underlying33 Try.underlying9 hi1 hi2 hi3 hi4 _ _ _ rfl HI.out.2.1 s rfl (by unfold maxLen; omega) (by omega) HI.out.1.size ?_; intro v2 w2 ho hgr _; obtain ⟨a2, c2, rfl⟩ := own_slice ho; have HT := Lib.hid (joi_app hg HI.out ho hgr); clear ho hgr))
              go_roundw
              case rel => exact ⟨0 + 1, by omega, by go_num, by rw [HLn.out]; exact h5, by rw [HJ.out]; exact HT⟩
              case measure => simp [intOf]; try omega
            · have h5' : 400 < ((L.length + s.size : Nat) : Int) := by omega
              have HF := Lib.hid (jn_no (ss := ss) (p := p) (fun h => h5 (by have := HO.out.1 h; have h6 := HHas.out; have h7 := HLn.out; have h8 := HN.out; rw [h8] at this; omega)))
              clear h5
              go_wp2_with (first | (refine Lib.wpList_append_own_string _ rfl (.tmp 30) (.tmp 31) 33 9 rfl w.heap.size 5 i0 Try.underlying33 Try.underlying9 hi1 hi2 hi3 hi4 _ _ _ rfl HI.out.2.1 s rfl (by unfold maxLen; omega) (by omega) HI.out.1.size ?_; intro v2 w2 ho hgr _; obtain ⟨a2, c2, rfl⟩ := own_slice ho; have HT := Lib.hid (joi_app hg HI.out ho hgr); clear ho hgr))
              go_ret2
              exact ⟨HF.out, HT.out.1⟩
          · have h0' : 0 < (k : Int) := by omega
            have HJ := Lib.hid (jn_more (p := p.data.toList) hs (by omega))
            have HLn := Lib.hid (show (jn ss p.data.toList (k + 1)).length = (jn ss p.data.toList k ++ p.data.toList).length + s.size by rw [HJ.out, List.length_append]; rfl)
            obtain ⟨L, hL⟩ : ∃ L, L = jn ss p.data.toList k := ⟨_, rfl⟩
            rw [← hL] at HI hL4 HJ HLn
            obtain ⟨M, hM⟩ : ∃ M, M = L ++ p.data.toList := ⟨_, rfl⟩
            have hM4 : M.length ≤ 800 := by rw [hM, List.length_append]; have : p.data.toList.length = p.size := rfl; omega
            rw [← hM] at HJ HLn
            have HM := Lib.hid hM
            clear hs hL hM h0
            by_cases h5 : M.length + s.size ≤ 400
            · have h5' : ((M.length + s.size : Nat) : Int) ≤ 400 := by omega
              go_wp2_with (first | (refine Lib.wpList_append_own_string _ rfl (.tmp 27) (.tmp 28) 33 9 rfl w.heap.size 5 i0 Try.underlying33 Try.underlying9 hi1 hi2 hi3 hi4 _ _ _ rfl HI.out.2.1 p rfl (by unfold maxLen; omega) (by omega) HI.out.1.size ?_; intro v1 w2 ho hgr _; have HT1 := Lib.hid (show JoI w ss g w2 M v1 by rw [HM.out]; exact joi_app hg HI.out ho hgr); clear ho hgr) | (refine Lib.wpList_append_own_string _ rfl (.tmp 30) (.tmp 31) 33 9 rfl w.heap.size 5 i0 Try.underlying33 Try.underlying9 hi1 hi2 hi3 hi4 _ _ _ rfl HT1.out.2.1 s rfl (by unfold maxLen; omega) (by omega) HT1.out.1.size ?_; intro v2 w3 ho hgr _; obtain ⟨a2, c2, rfl⟩ := own_slice ho; have HT := Lib.hid (joi_app hg HT1.out ho hgr); clear ho hgr))
              go_roundw
              case rel => exact ⟨k + 1, by omega, by go_num, by rw [HLn.out]; exact h5, by rw [HJ.out]; exact HT⟩
              case measure => simp [intOf]; try omega
            · have h5' : 400 < ((M.length + s.size : Nat) : Int) := by omega
              have HF := Lib.hid (jn_no (ss := ss) (p := p) (fun h => h5 (by have := HO.out.1 h; have h6 := HHas.out; have h7 := HLn.out; have h8 := HN.out; rw [h8] at this; omega)))
              clear h5
              go_wp2_with (first | (refine Lib.wpList_append_own_string _ rfl (.tmp 27) (.tmp 28) 33 9 rfl w.heap.size 5 i0 Try.underlying33 Try.underlying9 hi1 hi2 hi3 hi4 _ _ _ rfl HI.out.2.1 p rfl (by unfold maxLen; omega) (by omega) HI.out.1.size ?_; intro v1 w2 ho hgr _; have HT1 := Lib.hid (show JoI w ss g w2 M v1 by rw [HM.out]; exact joi_app hg HI.out ho hgr); clear ho hgr) | (refine Lib.wpList_append_own_string _ rfl (.tmp 30) (.tmp 31) 33 9 rfl w.heap.size 5 i0 Try.underlying33 Try.underlying9 hi1 hi2 hi3 hi4 _ _ _ rfl HT1.out.2.1 s rfl (by unfold maxLen; omega) (by omega) HT1.out.1.size ?_; intro v2 w3 ho hgr _; obtain ⟨a2, c2, rfl⟩ := own_slice ho; have HT := Lib.hid (joi_app hg HT1.out ho hgr); clear ho hgr))
              go_ret2
              exact ⟨HF.out, HT.out.1⟩
        · obtain rfl : k = n := by omega
          have HF := Lib.hid (show JnR ss p (.returned (.tuple #[.string ⟨(jn ss p.data.toList k).toArray⟩, .bool true])) from ⟨fun _ => by rw [HN.out], fun h => absurd (HO.out.2 hL4) h⟩)
          clear hlt
          obtain ⟨L, hL⟩ : ∃ L, L = jn ss p.data.toList k := ⟨_, rfl⟩
          rw [← hL] at HI hL4 HF
          clear hL
          go_wp2_with (first | (refine (puts_text 33 9 5 (.tmp 37) rfl Try.underlying33 Try.underlying5 Try.underlying9 w.heap.size _ L rfl (joi_own HI.out)).gives.plain rfl ?_))
          go_ret2
          exact ⟨HF.out, HI.out.1⟩
    · rw [show okT p = false by unfold okT; simpa using hpp] at HV
      have HF := Lib.hid (jn_no (ss := ss) (p := p) (fun h => hpp h.2.1))
      clear hpp
      go_enter Try.func20, Try.ntmps20
      go_wp2_with fail
      refine (HV.out _).mono ?_
      rintro e w1 ⟨rfl, hw⟩
      have HB1 := Lib.hid (show Below w.heap.size w w1 from hw ▸ HB.out)
      clear hw
      go_wp2_with fail
      go_ret2
      exact ⟨HF.out, HB1.out⟩
  · have HF := Lib.hid (jn_no (ss := ss) (p := p) (fun h => h4 h.1))
    have h4' : 401 < (ss.length : Int) := by omega
    clear h4
    go_enter Try.func20, Try.ntmps20
    go_wp2_with fail
    go_ret2
    exact ⟨HF.out, Below.refl _ _⟩
theorem jn_form (ss : List ByteArray) (p : ByteArray) : ∃ l b, ∀ e, JnR ss p e → e = .returned (.tuple #[.string ⟨l⟩, .bool b]) := by
  by_cases h : jOk ss p
  · exact ⟨_, _, fun e he => he.1 h⟩
  · exact ⟨_, _, fun e he => he.2 h⟩
set_option maxHeartbeats 2000000 in
theorem exactTextJoin_walk (ss : List ByteArray) (a : Option Addr) (cap : Nat) (p : ByteArray) (w : World) (h : Rs w a cap ss) (hc : cap ≤ 9223372036854775807) (hz : Le ss 9223372036854775807) (w1 : p.size ≤ 9223372036854775807) :
    Calls Try.prog 4 #[.slice a ss.length cap, .string p] w fun e w' => e = .returned (.bool true) ∧ Below w.heap.size w w' := by
  have hcap := h.1
  by_cases hp : p.size ≤ 1048576
  · have HZ := Lib.hid (szStringS_any ss a cap 1048576 w h (Nat.le_refl _) hc hz)
    have HR := Lib.hid h
    have hl0 : ss.length ≤ 9223372036854775807 := by omega
    clear h hz
    go_enter Try.func4, Try.ntmps4
    go_wp2_with fail
    refine HZ.out.mono ?_
    rintro e w' ⟨⟨z, rfl, hz1, hz2, hz3⟩, rfl⟩
    by_cases hneg : z < 0
    · clear hz3
      go_wp2_with fail
      go_ret
      exact ⟨rfl, Below.refl _ _⟩
    · obtain ⟨hl, hle⟩ := hz3 (by omega)
      have HL := Lib.hid hle
      have hneg' : 0 ≤ z := by omega
      obtain ⟨l, bb, hlb⟩ := jn_form ss p
      have HT := Lib.hid (fun w2 (h2 : Below w.heap.size w w2) => toStringS_any ss a cap w2 (HR.out.below h2) hl)
      have H1 := Lib.hid (show ∀ (w2 : World) (g : Nat), Cp w2 g ss → Calls Try.prog 18 #[.slice (some ⟨g, 0, none⟩) ss.length ss.length, .string p] w2 fun e w' => e = .returned (.tuple #[.string ⟨l⟩, .bool bb]) ∧ Below w2.heap.size w2 w' from fun w2 g hg => (specJoin_any ss p g ss.length w2 hg hl hle hp).mono fun e w' ⟨h1, h2⟩ => ⟨hlb e h1, h2⟩)
      have H2 := Lib.hid (show ∀ (w2 : World) (g : Nat), Cp w2 g ss → g < w2.heap.size → Calls Try.prog 20 #[.slice (some ⟨g, 0, none⟩) ss.length ss.length, .string p] w2 fun e w' => e = .returned (.tuple #[.string ⟨l⟩, .bool bb]) ∧ Below w2.heap.size w2 w' from fun w2 g hg hlt => (implJoin_any ss p g ss.length w2 hg hlt hl hle hp).mono fun e w' ⟨h1, h2⟩ => ⟨hlb e h1, h2⟩)
      have HE := Lib.hid (fun (w2 : World) (g1 g2 : Nat) (q1 : Cp w2 g1 ss) (q2 : Cp w2 g2 ss) => eqStringS_any ss g1 g2 ss.length ss.length w2 q1 q2 hl)
      clear hlb hle hneg
      go_wp2_with fail
      refine (HT.out w (Below.refl _ _)).mono ?_
      rintro e w3 ⟨rfl, hb3, hc3, _⟩
      have HB3 := Lib.hid hb3
      have HC3 := Lib.hid hc3
      clear hb3 hc3
      go_wp2_with fail
      refine (H1.out _ _ HC3.out).mono ?_
      rintro e w4 ⟨rfl, hb4⟩
      have HB4 := Lib.hid (HB3.out.trans (hb4.mono HB3.out.size))
      clear hb4
      go_wp2_with (first | (refine ext rfl (.tmp 19) 0 [.string ⟨l⟩, .bool bb] (.string ⟨l⟩) rfl rfl rfl ?_) | (refine ext rfl (.tmp 19) 1 [.string ⟨l⟩, .bool bb] (.bool bb) rfl rfl rfl ?_))
      refine (HT.out w4 HB4.out).mono ?_
      rintro e w5 ⟨rfl, hb5, hc5, hlt5⟩
      have HB5 := Lib.hid (HB4.out.trans (hb5.mono HB4.out.size))
      have HC5 := Lib.hid hc5
      have HL5 := Lib.hid hlt5
      clear hb5 hc5 hlt5
      go_wp2_with fail
      refine (H2.out _ _ HC5.out HL5.out).mono ?_
      rintro e w6 ⟨rfl, hb6⟩
      have HB6 := Lib.hid (HB5.out.trans (hb6.mono HB5.out.size))
      have HC6 := Lib.hid (HC5.out.below hb6)
      clear hb6
      go_wp2_with (first | (refine ext rfl (.tmp 28) 0 [.string ⟨l⟩, .bool bb] (.string ⟨l⟩) rfl rfl rfl ?_) | (refine ext rfl (.tmp 28) 1 [.string ⟨l⟩, .bool bb] (.bool bb) rfl rfl rfl ?_))
      refine (HT.out w6 HB6.out).mono ?_
      rintro e w7 ⟨rfl, hb7, hc7, _⟩
      have HB7 := Lib.hid (HB6.out.trans (hb7.mono HB6.out.size))
      have HC7 := Lib.hid hc7
      have HD7 := Lib.hid (HC6.out.below hb7)
      clear hb7 hc7
      go_wp2_with fail
      refine (HE.out _ _ _ HD7.out HC7.out).mono ?_
      rintro e w8 ⟨rfl, hb8⟩
      have HB8 := Lib.hid (HB7.out.trans (hb8.mono HB7.out.size))
      clear hb8
      go_wp2_with fail
      go_ret
      exact ⟨rfl, HB8.out⟩
  · clear h hz
    go_enter Try.func4, Try.ntmps4
    go_wp2_with fail
    go_ret
    exact ⟨rfl, Below.refl _ _⟩
end Go.Proofs.Ytfmpplolhhjpoaa
