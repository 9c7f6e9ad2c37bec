/- The slots that are looked at for a key: the model's. -/
import Derived.Test.YtplpgcbdbmfffaaPrb
namespace Go.Proofs.Ytplpgcbdbmfffaa
open Go.RowKit
theorem endB_is {ix : List Int} {es : List Ent} {key : ByteArray} {s : Nat} {n : Int} (h : ix[s]? = some n) : endB ix es key s = (n == -1 || (n != -2 && (match es[n.toNat]? with | some e => e.key.toList == key.toList | none => false))) := by
  unfold endB
  rw [h]
  simp
  cases es[n.toNat]? <;> rfl
theorem endB_way {ix : List Int} {es : List Ent} {key : ByteArray} {s : Nat} {n : Int} {b : Bool} (h : ix[s]? = some n) (hok : slotOk ix es) (hb : endB ix es key s = b) : (n = -1 ∧ b = true) ∨ (n = -2 ∧ b = false) ∨ ∃ k : Nat, n = (k : Int) ∧ ∃ hk : k < es.length, (es[k].key.toList == key.toList) = b := by
  rw [endB_is h] at hb
  rcases hok s n h with rfl | rfl | ⟨h0, h1⟩
  · exact .inl ⟨rfl, by rw [← hb]; rfl⟩
  · exact .inr (.inl ⟨rfl, by rw [← hb]; rfl⟩)
  · obtain ⟨k, rfl⟩ : ∃ k : Nat, n = (k : Int) := ⟨n.toNat, by omega⟩
    have hk : k < es.length := by omega
    refine .inr (.inr ⟨k, rfl, hk, ?_⟩)
    rw [Int.toNat_natCast, List.getElem?_eq_getElem hk] at hb
    have d1 : ((k : Int) == -1) = false := beq_eq_false_iff_ne.2 (by omega)
    have d2 : ((k : Int) != -2) = true := by rw [bne_iff_ne]; omega
    rw [d1, d2] at hb
    simpa using hb
theorem Tb.ent {w : World} {g g2 k : Nat} {ix : List Int} {es : List Ent} (h : Tb w g ix (some ⟨g2, 0, none⟩) es) (hk : k < es.length) : w.cell? ⟨g2, k * 4, none⟩ = some (.string es[k].key) := by
  rcases h.2.2 with ⟨h1, _⟩ | ⟨g3, h1, h2⟩
  · cases h1
  · injection h1 with h1; injection h1 with h1; subst h1
    exact (h2.2 k _ (List.getElem?_eq_getElem hk)).1
theorem Tb.has {w : World} {g k : Nat} {ix : List Int} {a : Option Addr} {es : List Ent} (h : Tb w g ix a es) (hk : k < es.length) : ∃ g2, a = some ⟨g2, 0, none⟩ := by
  rcases h.2.2 with ⟨_, h2⟩ | ⟨g3, h1, _⟩
  · rw [h2] at hk; simp at hk
  · exact ⟨g3, h1⟩
set_option maxHeartbeats 2000000 in
set_option maxRecDepth 20000 in
theorem probesOf_any (ix : List Int) (es : List Ent) (key : ByteArray) (g c1 c2 T : Nat) (a : Option Addr) (w : World) (h : Tb w g ix a es) (hok : slotOk ix es) (hm8 : slotN ix.length = true) (hl : es.length ≤ 1048576) (hkey : key.size ≤ 1048576) (hT0 : T ≤ 1000) (hT : endB ix es key (pr ix.length (hsh key.data.toList) T).1 = true) (hlt : ∀ t, t < T → endB ix es key (pr ix.length (hsh key.data.toList) t).1 = false) :
    Calls Try.prog 66 #[.agg #[.slice (some ⟨g, 0, none⟩) ix.length c1, .slice a es.length c2], .string key] w (PrP (w.alloc (Obj.cells #[.slice (some ⟨g, 0, none⟩) ix.length c1, .slice a es.length c2] 27)) g ix a es ix.length (hsh key.data.toList) (T + 1)) := by
  have hmm : 8 ≤ ix.length ∧ ix.length ≤ 128 := by have := slotN_mem hm8; simp at this; omega
  have hh := hsh_lt key.data.toList
  have HHash := Lib.hid (fun w => hashOf_any key w hkey)
  have HW := Lib.hid (fun (s : Nat) (n : Int) (b : Bool) (h : ix[s]? = some n) (hb : endB ix es key s = b) => endB_way h hok hb)
  obtain ⟨w1, hw1⟩ : ∃ w1, w1 = w.alloc (Obj.cells #[.slice (some ⟨g, 0, none⟩) ix.length c1, .slice a es.length c2] 27) := ⟨_, rfl⟩
  have HT1 := Lib.hid (show Tb w1 g ix a es from by rw [hw1]; exact h.below ((Below.refl _ _).alloc (Nat.le_refl _) _))
  have HBox := Lib.hid (show Blk w1 w.heap.size _ #[.slice (some ⟨g, 0, none⟩) ix.length c1, .slice a es.length c2] from by rw [hw1]; exact Blk.newest w _ _)
  have HG := Lib.hid (show g < w1.heap.size from HT1.out.1)
  have HA := Lib.hid (show ∀ g2, a = some ⟨g2, 0, none⟩ → g2 < w1.heap.size from fun g2 e => by
    rcases HT1.out.2.2 with ⟨h1, _⟩ | ⟨g3, h1, h2⟩
    · rw [h1] at e; cases e
    · rw [h1] at e; injection e with e; injection e with e; subst e; exact h2.1)
  generalize hsh key.data.toList = hs at *
  have H0 := Lib.hid (show PrI w1 (w1.alloc (Obj.cells #[] 3)) g ix a es ix.length hs 0 (.slice (some ⟨w1.heap.size, 0, none⟩) 0 0) from ⟨(Below.refl _ _).alloc (Nat.le_refl _) _, HT1.out.below ((Below.refl _ _).alloc (Nat.le_refl _) _), World.ownsRow_lit w1 #[] 0 (Nat.le_refl _) (by decide) rfl⟩)
  have e0 := first_eq ix.length hs
  have hsz : w1.heap.size = w.heap.size + 1 := by rw [hw1]; simp
  have HSZ := Lib.hid (show w.heap.size < w1.heap.size from by omega)
  clear hsz
  have HP := Lib.hid (fun t => (show (pr ix.length hs t).1 < ix.length from pr_lt (by omega) t))
  have HR := Lib.hid (fun t => (rest_le hh t : (pr ix.length hs t).2 < 65536))
  have HQ := Lib.hid (fun t => And.intro (rest_eq ix.length hs t) (slot_eq ix.length hs t))
  have HIx := Lib.hid (show ∀ s, s < ix.length → ∃ n, ix[s]? = some n from fun s hs => ⟨_, List.getElem?_eq_getElem hs⟩)
  have HTE := Lib.hid hT
  have HLT := Lib.hid hlt
  have HW1 := Lib.hid hw1
  have HE0 := Lib.hid e0
  have hm0 : ¬ (ix.length : Int) = 0 := by omega
  have hp0 := HP.out 0
  clear h hok hm8 hT hlt hw1
  generalize hmE : ix.length = m at *
  clear hmE
  go_enter Try.func66, Try.ntmps66
  go_wp2_with (first | (go_at_call 50; refine (HHash.out _).mono ?_; rintro e w' ⟨rfl, rfl⟩))
  go_loopw [6, 7, 8] (fun r s v wr => ∃ t : Nat, t ≤ T ∧ s = .int .i64 ((pr m hs t).1 : Int) ∧ r = .int .i64 ((pr m hs t).2 : Int) ∧ Hid (PrI w1 wr g ix a es m hs t v)) (fun _ _ v _ => T + 1 - slN v)
  case atStart => exact ⟨0, by omega, by first | rfl | rw [HE0.out] | simp [HE0.out], rfl, Lib.hid (by have h0 := H0.out; rw [HW1.out] at h0 ⊢; simpa using h0)⟩
  case round =>
    obtain ⟨t, ht, rfl, rfl, HI⟩ := hrel
    have HL := Lib.hid HI.out.len
    have HMk := Lib.hid (Nat.le_refl 0)
    obtain ⟨n, hn⟩ := HIx.out _ (HP.out t)
    have HN0 := Lib.hid hn
    have HZ := Lib.hid (show w1.heap.size ≤ wr.heap.size from HI.out.1.size)
    obtain ⟨q1, q2⟩ := HQ.out t
    have p1 := HP.out t
    have p2 := HP.out (t + 1)
    have r1 := HR.out t
    have r2 := HR.out (t + 1)
    obtain ⟨s', hs'⟩ : ∃ s', s' = (pr m hs (t + 1)).1 := ⟨_, rfl⟩
    obtain ⟨r', hr'⟩ : ∃ r', r' = (pr m hs (t + 1)).2 := ⟨_, rfl⟩
    obtain ⟨s, hs0⟩ : ∃ s, s = (pr m hs t).1 := ⟨_, rfl⟩
    obtain ⟨r, hr0⟩ : ∃ r, r = (pr m hs t).2 := ⟨_, rfl⟩
    have HS' := Lib.hid hs'
    have HR' := Lib.hid hr'
    have HS := Lib.hid hs0
    have HN := Lib.hid (show ix[s]? = some n by rw [hs0]; exact hn)
    by_cases hlt : t < T
    · have hway := HW.out _ _ _ hn (HLT.out t hlt)
      rw [← hs', ← hr', ← hs0] at q2
      rw [← hr', ← hr0] at q1
      rw [← hs'] at p2
      rw [← hr'] at r2
      rw [← hs0] at p1
      rw [← hr0] at r1
      rw [← hs0, ← hr0]
      clear hs' hr' hs0 hr0 hn
      have k1 : 0 ≤ 5 * (s : Int) + (r' : Int) + 1 := by omega
      have k2 : 5 * (s : Int) + (r' : Int) + 1 ≤ 100000 := by omega
      rcases hway with ⟨_, h⟩ | ⟨rfl, _⟩ | ⟨k, rfl, hk, hq⟩
      · cases h
      · go_wp2_with (first | (clear HMk; refine app1 rfl (.tmp 19) (.tmp 21) 24 3 (.int .i64 0) 8 rfl Try.underlying24 (by kernel_rfl) rfl (by decide) wr wr _ rfl w1.heap.size _ _ rfl rfl HI.out.2.2 rfl ?_ HZ.out (Below.refl _ _) ?_; (rw [prl_len]; omega); intro v2 w3 ho hb3 _; have HT := Lib.hid (HI.out.next HG.out HA.out (by rw [← HS.out]; exact ho) hb3); have HBo := Lib.hid (HBox.out.below HT.out.1 HSZ.out); have b0 := HBo.out.cell 0; have b1 := HBo.out.cell 1; have d0 := HT.out.2.1.2.1 s _ HN.out; clear ho hb3))
        go_roundw
        case rel => exact ⟨t + 1, by omega, by rw [HS'.out], by rw [HR'.out], HT⟩
        case measure => rw [HT.out.len, HL.out]; omega
      · obtain ⟨ek, hek⟩ : ∃ ek, ek = es[k].key := ⟨_, rfl⟩
        have HEk := Lib.hid hek
        have HK := Lib.hid hk
        rw [← hek] at hq
        obtain ⟨g2, rfl⟩ := HI.out.2.1.has hk
        have hk1 : (k : Int) < (es.length : Int) := by omega
        have hkm : ((k : Int) == -1) = false := beq_eq_false_iff_ne.2 (by omega)
        have hk0 : 0 ≤ (k : Int) := by omega
        clear hek
        go_wp2_with (first | (clear HMk; refine app1 rfl (.tmp 19) (.tmp 21) 24 3 (.int .i64 0) 8 rfl Try.underlying24 (by kernel_rfl) rfl (by decide) wr wr _ rfl w1.heap.size _ _ rfl rfl HI.out.2.2 rfl ?_ HZ.out (Below.refl _ _) ?_; (rw [prl_len]; omega); intro v2 w3 ho hb3 _; have HT := Lib.hid (HI.out.next HG.out HA.out (by rw [← HS.out]; exact ho) hb3); have HBo := Lib.hid (HBox.out.below HT.out.1 HSZ.out); have b0 := HBo.out.cell 0; have b1 := HBo.out.cell 1; have d0 := HT.out.2.1.2.1 s _ HN.out; have d1 := HT.out.2.1.ent HK.out; rw [← HEk.out] at d1; clear ho hb3))
        go_roundw
        case rel => exact ⟨t + 1, by omega, by rw [HS'.out], by rw [HR'.out], HT⟩
        case measure => rw [HT.out.len, HL.out]; omega
    · obtain rfl : t = T := by omega
      have hway := HW.out _ _ _ hn HTE.out
      rw [← hs0] at p1
      rw [← hr0] at r1
      rw [← hs0, ← hr0]
      clear hs' hr' hs0 hr0 hn q1 q2 p2 r2 HS' HR'
      rcases hway with ⟨rfl, _⟩ | ⟨_, h⟩ | ⟨k, rfl, hk, hq⟩
      · go_wp2_with (first | (clear HMk; refine app1 rfl (.tmp 19) (.tmp 21) 24 3 (.int .i64 0) 8 rfl Try.underlying24 (by kernel_rfl) rfl (by decide) wr wr _ rfl w1.heap.size _ _ rfl rfl HI.out.2.2 rfl ?_ HZ.out (Below.refl _ _) ?_; (rw [prl_len]; omega); intro v2 w3 ho hb3 _; have HT := Lib.hid (HI.out.next HG.out HA.out (by rw [← HS.out]; exact ho) hb3); have HBo := Lib.hid (HBox.out.below HT.out.1 HSZ.out); have b0 := HBo.out.cell 0; have b1 := HBo.out.cell 1; have d0 := HT.out.2.1.2.1 s _ HN.out; clear ho hb3))
        go_ret
        exact ⟨_, rfl, by rw [← HW1.out]; exact HT.out⟩
      · cases h
      · obtain ⟨ek, hek⟩ : ∃ ek, ek = es[k].key := ⟨_, rfl⟩
        have HEk := Lib.hid hek
        have HK := Lib.hid hk
        rw [← hek] at hq
        obtain ⟨g2, rfl⟩ := HI.out.2.1.has hk
        have hk1 : (k : Int) < (es.length : Int) := by omega
        have hkm : ((k : Int) == -1) = false := beq_eq_false_iff_ne.2 (by omega)
        have hk0 : 0 ≤ (k : Int) := by omega
        clear hek
        go_wp2_with (first | (clear HMk; refine app1 rfl (.tmp 19) (.tmp 21) 24 3 (.int .i64 0) 8 rfl Try.underlying24 (by kernel_rfl) rfl (by decide) wr wr _ rfl w1.heap.size _ _ rfl rfl HI.out.2.2 rfl ?_ HZ.out (Below.refl _ _) ?_; (rw [prl_len]; omega); intro v2 w3 ho hb3 _; have HT := Lib.hid (HI.out.next HG.out HA.out (by rw [← HS.out]; exact ho) hb3); have HBo := Lib.hid (HBox.out.below HT.out.1 HSZ.out); have b0 := HBo.out.cell 0; have b1 := HBo.out.cell 1; have d0 := HT.out.2.1.2.1 s _ HN.out; have d1 := HT.out.2.1.ent HK.out; rw [← HEk.out] at d1; clear ho hb3))
        go_ret
        exact ⟨_, rfl, by rw [← HW1.out]; exact HT.out⟩
end Go.Proofs.Ytplpgcbdbmfffaa
