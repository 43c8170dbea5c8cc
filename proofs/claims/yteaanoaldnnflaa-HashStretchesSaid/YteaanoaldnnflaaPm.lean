/- The reference's padded keys and macs. Condition: at most 2^47 bytes less 256 each. -/
import Derived.Test.YteaanoaldnnflaaSu
set_option linter.unusedVariables false
set_option linter.unusedSimpArgs false
namespace Go.Proofs.Yteaanoaldnnflaa
open Go.RowKit Go.Sort

/-- a row of the document's own numbers -/
def Kr (v : Value) (w : World) : Prop := ∃ g c, v = .slice (some ⟨g, 0, none⟩) 64 c ∧ g < w.heap.size ∧ ∀ i, i < 64 → w.cell? ⟨g, i, none⟩ = some (.int .u32 ((kL.getD i 0).toNat : Int))
theorem Kr.below {v : Value} {w w' : World} (h : Kr v w) (hb : Below w.heap.size w w') : Kr v w' := by
  obtain ⟨g, c, rfl, hg, hc⟩ := h
  exact ⟨g, c, rfl, Nat.lt_of_lt_of_le hg hb.size, fun i hi => (hb.cell (p := ⟨g, i, none⟩) hg).trans (hc i hi)⟩
theorem cell_in {W : World} {b : Nat} {v : Value} (h : W.cell? ⟨b, 0, none⟩ = some v) : b < W.heap.size := by
  rcases Nat.lt_or_ge b W.heap.size with h' | h'
  · exact h'
  · simp [World.cell?, Array.getElem?_eq_none h'] at h
theorem keys_k (w : World) : Calls Try.prog 22 #[] w fun e w' => (∃ v, e = .returned v ∧ Kr v w') ∧ Below w.heap.size w w' := by
  refine (keys_any w).mono ?_
  rintro e w' ⟨⟨v, rfl, hr⟩, hb⟩
  obtain ⟨g, c, rfl, _, hc⟩ := hr.un (by intro e; have := kL_length; rw [e] at this; simp at this)
  refine ⟨⟨_, rfl, g, c, by rw [kL_length], cell_in (hc 0 (by rw [kL_length]; decide)), fun i hi => ?_⟩, hb⟩
  rw [hc i (by rw [kL_length]; exact hi)]
  simp [List.getD, show i < kL.length from by rw [kL_length]; exact hi]
theorem sumK (s : List UInt8) (hs : s.length ≤ 140737488355200) (v : Value) (w : World) (h : Kr v w) :
    Calls Try.prog 21 #[.string ⟨s.toArray⟩, v] w fun e w' => e = .returned (.string ⟨(sumL s).toArray⟩) ∧ Below w.heap.size w w' := by
  obtain ⟨g, c, rfl, hg, hc⟩ := h
  exact sum21 s hs w g c hg hc
/-- one byte of a row set -/
theorem Rm.put {B : Nat} {v : Value} {l : List UInt8} {w : World} (h : Rm B v l w) (i : Nat) (hi : i < l.length) (x : UInt8) : ∃ g cap, v = .slice (some ⟨g, 0, none⟩) l.length cap ∧ B ≤ g ∧ w.cell? ⟨g, i, none⟩ = some (.int .u8 (l[i].toNat : Int)) ∧ w.frozen? ⟨g, i, none⟩ = false ∧
    Rm B v (l.set i x) (w.setCell ⟨g, i, none⟩ (.int .u8 (x.toNat : Int))) := by
  have hu := h.un
  obtain ⟨g, cap, cur, fz, rfl, hg, hh, hoff, hlc, hcm, hcs, htk⟩ := h
  obtain ⟨g', cap', e, _, _, _, hc⟩ := hu
  simp only [Value.slice.injEq, Option.some.injEq, Addr.mk.injEq, and_true, true_and] at e
  obtain ⟨rfl, rfl⟩ := e
  refine ⟨g, cap, rfl, hg, hc i hi, ?_, ?_⟩
  · obtain ⟨lo, hi'⟩ := fz
    simp only [World.frozen?, hh, Bool.and_eq_false_iff, decide_eq_false_iff_not]
    rcases hoff with h | h
    · right; simp only at h; omega
    · left; simp only at h; omega
  · refine ⟨g, cap, cur.setIfInBounds i (.int .u8 (x.toNat : Int)), fz, by rw [List.length_set], hg, blk_put hh i _, by simpa using hoff, by rw [List.length_set]; exact hlc, hcm, by simpa using hcs, ?_⟩
    rw [List.length_set, Array.toList_setIfInBounds, List.take_set, htk]
    simp [bl, List.map_set]
theorem fill_is (key : List UInt8) : fillL key = (if 64 < key.length then sumL key else key) ++ List.replicate (64 - (if 64 < key.length then sumL key else key).length) 0 := rfl


set_option maxHeartbeats 4000000 in
set_option maxRecDepth 100000 in
theorem padded_short (key : List UInt8) (c : UInt8) (hk : key.length ≤ 64) (v : Value) (w : World) (hK : Kr v w) :
    Calls Try.prog 39 #[.string ⟨key.toArray⟩, .int .u8 (c.toNat : Int), v] w fun e w' => e = .returned (.string ⟨(turnedL (fillL key) c).toArray⟩) ∧ Below w.heap.size w w' := by
  have hsz := size_ba key
  have hl : ¬ (64 < key.length) := by omega
  have HF : Hid (fillL key = key ++ List.replicate (64 - key.length) 0) := Lib.hid (by rw [fill_is, if_neg hl])
  have HS := Lib.hid hk
  have HK := Lib.hid hK
  obtain ⟨v0, w0, hc, hr, hb⟩ := conv_m key (by unfold maxLen; omega) w
  have HR1 := Lib.hid hr
  have HB1 := Lib.hid hb
  clear hr hb hK
  have HBW : Hid (Below w.heap.size w w) := Lib.hid (Below.refl _ _)
  go_enter Try.func39, Try.ntmps39
  go_wp2_with fail
  go_loopw [7] (fun v wr => ∃ k : Nat, k ≤ 64 - key.length ∧ Rm w.heap.size v (key ++ List.replicate k 0) wr ∧ Below w.heap.size w wr) (fun v _ => 64 - (match v with | .slice _ n _ => n | _ => 0))
  case atStart => exact ⟨0, by omega, by simpa using HR1.out, HB1.out⟩
  case round =>
    obtain ⟨k, hk, hr, hb⟩ := hrel
    have HR := Lib.hid hr
    have HB := Lib.hid hb
    obtain ⟨g, cap, hv, _⟩ := hr.un
    subst hv
    clear hr hb HR1 HB1
    have HSS := HS.out
    obtain ⟨m, hm⟩ : ∃ m, m = (key ++ List.replicate k 0).length := ⟨_, rfl⟩
    have HML := Lib.hid hm
    rw [← hm] at HR ⊢
    rw [List.length_append, List.length_replicate] at hm
    by_cases hkz : k < 64 - key.length
    · have hm64 : m < 64 := by omega
      have HK2 := Lib.hid hkz
      have HM := Lib.hid hm
      clear hkz hk hm
      go_wp2_with (at_builtin; refine app_m1 0 0 rfl (.tmp 20) (.tmp 21) rfl rfl rfl rfl HR.out HB.out (by rw [← HML.out]; omega) ?_; intro v2 w2 hr hb; have HR2 := Lib.hid hr; have HB2 := Lib.hid hb; clear hr hb)
      obtain ⟨g2, cap2, hv2, _⟩ := HR2.out.un
      have HV2 := Lib.hid hv2
      have HZ : Hid (key ++ List.replicate (k + 1) 0 = key ++ List.replicate k 0 ++ [0]) := Lib.hid (by rw [List.replicate_succ', List.append_assoc])
      have HKK := HK2.out
      have HMM := HM.out
      refine ⟨⟨k + 1, by omega, by rw [HZ.out]; exact HR2.out, HB2.out⟩, ?_⟩
      rw [HV2.out, List.length_append, ← HML.out]
      simp
      omega
    · have hm64 : m = 64 := by omega
      have hke : k = 64 - key.length := by omega
      have HFF : Hid (key ++ List.replicate k 0 = fillL key) := Lib.hid (by rw [HF.out, hke])
      clear hkz hk hm hke
      rw [HFF.out] at HR HML
      have HFL : Hid ((fillL key).length = 64) := Lib.hid (fill_length _)
      subst hm64
      obtain ⟨f, hfe⟩ : ∃ f, fillL key = f := ⟨_, rfl⟩
      have HFE := Lib.hid hfe
      rw [hfe] at HR HFL
      clear hfe
      go_wp2_with fail
      go_loopw [8] (fun i wq => ∃ j : Nat, j ≤ 64 ∧ i = .int .i64 j ∧ Rm w.heap.size (.slice (some ⟨g, 0, none⟩) 64 cap) (pref (· ^^^ c) f j) wq ∧ Below w.heap.size w wq) (fun i _ => 64 - (intOf i).toNat)
      case atStart => exact ⟨0, by omega, rfl, by simpa [pref] using HR.out, HB.out⟩
      case round =>
        obtain ⟨j, hj, rfl, hr, hb⟩ := hrel
        have HR2 := Lib.hid hr
        have HB2 := Lib.hid hb
        clear hr hb HR HB
        by_cases hlt : j < 64
        · have hjl : j < f.length := by rw [HFL.out]; exact hlt
          obtain ⟨g', cap', e, hg, cc, ff, hp⟩ := HR2.out.put j (by rw [pref_length]; exact hjl) (f[j] ^^^ c)
          simp only [Value.slice.injEq, Option.some.injEq, Addr.mk.injEq, and_true, true_and] at e
          obtain ⟨rfl, _, rfl⟩ := e
          rw [pref_get _ _ _ hjl] at cc
          rw [pref_set (· ^^^ c) f j hjl] at hp
          have HP := Lib.hid hp
          have HGG := Lib.hid hg
          have hx := xorB f[j] c
          clear hp hg
          generalize f[j] = x at cc hx HP
          generalize x ^^^ c = y at hx HP
          go_wp2_with fail
          go_roundw
          case rel => exact ⟨j + 1, by omega, by go_num, HP.out, HB2.out.setCell (p := ⟨g, j, none⟩) HGG.out _⟩
          case measure => simp [intOf]; omega
        · obtain rfl : j = 64 := by omega
          have hcv := HR2.out.conv
          rw [show pref (· ^^^ c) f 64 = turnedL f c from pref_all _ _ _ (by rw [HFL.out]; exact Nat.le_refl _)] at hcv
          go_wp2_with fail
          go_ret
          exact ⟨by rw [HFE.out]; rfl, HBW.out.trans (HB2.out.mono HBW.out.size)⟩


set_option maxHeartbeats 4000000 in
set_option maxRecDepth 100000 in
theorem padded_long (key : List UInt8) (c : UInt8) (hk : 64 < key.length) (hkm : key.length ≤ 140737488355200) (v : Value) (w : World) (hK : Kr v w) :
    Calls Try.prog 39 #[.string ⟨key.toArray⟩, .int .u8 (c.toNat : Int), v] w fun e w' => e = .returned (.string ⟨(turnedL (fillL key) c).toArray⟩) ∧ Below w.heap.size w w' := by
  have hsz := size_ba key
  have HF : Hid (fillL key = sumL key ++ List.replicate (64 - (sumL key).length) 0) := Lib.hid (by rw [fill_is, if_pos hk])
  have HS : Hid ((sumL key).length ≤ 64) := Lib.hid (by rw [sum_length]; decide)
  have HK := Lib.hid hK
  have HKM := Lib.hid hkm
  clear hK hkm
  go_enter Try.func39, Try.ntmps39
  go_wp2_with fail
  refine (sumK key HKM.out v _ HK.out).mono ?_
  rintro e w1 ⟨rfl, b1⟩
  have HBW := Lib.hid b1
  clear b1
  obtain ⟨v0, w0, hc, hr, hb⟩ := conv_m (sumL key) (by rw [sum_length]; decide) w1
  have HR1 := Lib.hid hr
  have HB1 := Lib.hid hb
  clear hr hb
  go_wp2_with fail
  go_loopw [7] (fun v wr => ∃ k : Nat, k ≤ 64 - (sumL key).length ∧ Rm w1.heap.size v ((sumL key) ++ List.replicate k 0) wr ∧ Below w1.heap.size w1 wr) (fun v _ => 64 - (match v with | .slice _ n _ => n | _ => 0))
  case atStart => exact ⟨0, by omega, by simpa using HR1.out, HB1.out⟩
  case round =>
    obtain ⟨k, hk, hr, hb⟩ := hrel
    have HR := Lib.hid hr
    have HB := Lib.hid hb
    obtain ⟨g, cap, hv, _⟩ := hr.un
    subst hv
    clear hr hb HR1 HB1
    have HSS := HS.out
    obtain ⟨m, hm⟩ : ∃ m, m = ((sumL key) ++ List.replicate k 0).length := ⟨_, rfl⟩
    have HML := Lib.hid hm
    rw [← hm] at HR ⊢
    rw [List.length_append, List.length_replicate] at hm
    by_cases hkz : k < 64 - (sumL key).length
    · have hm64 : m < 64 := by omega
      have HK2 := Lib.hid hkz
      have HM := Lib.hid hm
      clear hkz hk hm
      go_wp2_with (at_builtin; refine app_m1 0 0 rfl (.tmp 20) (.tmp 21) rfl rfl rfl rfl HR.out HB.out (by rw [← HML.out]; omega) ?_; intro v2 w2 hr hb; have HR2 := Lib.hid hr; have HB2 := Lib.hid hb; clear hr hb)
      obtain ⟨g2, cap2, hv2, _⟩ := HR2.out.un
      have HV2 := Lib.hid hv2
      have HZ : Hid ((sumL key) ++ List.replicate (k + 1) 0 = (sumL key) ++ List.replicate k 0 ++ [0]) := Lib.hid (by rw [List.replicate_succ', List.append_assoc])
      have HKK := HK2.out
      have HMM := HM.out
      refine ⟨⟨k + 1, by omega, by rw [HZ.out]; exact HR2.out, HB2.out⟩, ?_⟩
      rw [HV2.out, List.length_append, ← HML.out]
      simp
      omega
    · have hm64 : m = 64 := by omega
      have hke : k = 64 - (sumL key).length := by omega
      have HFF : Hid ((sumL key) ++ List.replicate k 0 = fillL key) := Lib.hid (by rw [HF.out, hke])
      clear hkz hk hm hke
      rw [HFF.out] at HR HML
      have HFL : Hid ((fillL key).length = 64) := Lib.hid (fill_length _)
      subst hm64
      obtain ⟨f, hfe⟩ : ∃ f, fillL key = f := ⟨_, rfl⟩
      have HFE := Lib.hid hfe
      rw [hfe] at HR HFL
      clear hfe
      go_wp2_with fail
      go_loopw [8] (fun i wq => ∃ j : Nat, j ≤ 64 ∧ i = .int .i64 j ∧ Rm w1.heap.size (.slice (some ⟨g, 0, none⟩) 64 cap) (pref (· ^^^ c) f j) wq ∧ Below w1.heap.size w1 wq) (fun i _ => 64 - (intOf i).toNat)
      case atStart => exact ⟨0, by omega, rfl, by simpa [pref] using HR.out, HB.out⟩
      case round =>
        obtain ⟨j, hj, rfl, hr, hb⟩ := hrel
        have HR2 := Lib.hid hr
        have HB2 := Lib.hid hb
        clear hr hb HR HB
        by_cases hlt : j < 64
        · have hjl : j < f.length := by rw [HFL.out]; exact hlt
          obtain ⟨g', cap', e, hg, cc, ff, hp⟩ := HR2.out.put j (by rw [pref_length]; exact hjl) (f[j] ^^^ c)
          simp only [Value.slice.injEq, Option.some.injEq, Addr.mk.injEq, and_true, true_and] at e
          obtain ⟨rfl, _, rfl⟩ := e
          rw [pref_get _ _ _ hjl] at cc
          rw [pref_set (· ^^^ c) f j hjl] at hp
          have HP := Lib.hid hp
          have HGG := Lib.hid hg
          have hx := xorB f[j] c
          clear hp hg
          generalize f[j] = x at cc hx HP
          generalize x ^^^ c = y at hx HP
          go_wp2_with fail
          go_roundw
          case rel => exact ⟨j + 1, by omega, by go_num, HP.out, HB2.out.setCell (p := ⟨g, j, none⟩) HGG.out _⟩
          case measure => simp [intOf]; omega
        · obtain rfl : j = 64 := by omega
          have hcv := HR2.out.conv
          rw [show pref (· ^^^ c) f 64 = turnedL f c from pref_all _ _ _ (by rw [HFL.out]; exact Nat.le_refl _)] at hcv
          go_wp2_with fail
          go_ret
          exact ⟨by rw [HFE.out]; rfl, HBW.out.trans (HB2.out.mono HBW.out.size)⟩


theorem padded_any (key : List UInt8) (c : UInt8) (hk : key.length ≤ 140737488355200) (v : Value) (w : World) (hK : Kr v w) :
    Calls Try.prog 39 #[.string ⟨key.toArray⟩, .int .u8 (c.toNat : Int), v] w fun e w' => e = .returned (.string ⟨(turnedL (fillL key) c).toArray⟩) ∧ Below w.heap.size w w' := by
  by_cases h : 64 < key.length
  · exact padded_long key c h hk v w hK
  · exact padded_short key c (by omega) v w hK

set_option maxHeartbeats 4000000 in
set_option maxRecDepth 100000 in
theorem mac_ref (key s : List UInt8) (hk : key.length ≤ 140737488355200) (hs : s.length ≤ 140737488355100) (v : Value) (w : World) (hK : Kr v w) :
    Calls Try.prog 25 #[.string ⟨key.toArray⟩, .string ⟨s.toArray⟩, v] w fun e w' => e = .returned (.string ⟨(macL key s).toArray⟩) ∧ Below w.heap.size w w' := by
  have HP1 := Lib.hid (fun w h => padded_any key 92 hk v w h)
  have HP2 := Lib.hid (fun w h => padded_any key 54 hk v w h)
  have hl1 : (turnedL (fillL key) 92).length = 64 := by rw [turnedL, List.length_map, fill_length]
  have hl2 : (turnedL (fillL key) 54).length = 64 := by rw [turnedL, List.length_map, fill_length]
  have HS1 := Lib.hid (fun w h => sumK (turnedL (fillL key) 54 ++ s) (by rw [List.length_append, hl2]; omega) v w h)
  have HS2 := Lib.hid (fun w h => sumK (turnedL (fillL key) 92 ++ sumL (turnedL (fillL key) 54 ++ s)) (by rw [List.length_append, hl1, sum_length]; omega) v w h)
  have HM : Hid (macL key s = sumL (turnedL (fillL key) 92 ++ sumL (turnedL (fillL key) 54 ++ s))) := Lib.hid rfl
  have ha1 := app_ba (turnedL (fillL key) 54) s
  have ha2 := app_ba (turnedL (fillL key) 92) (sumL (turnedL (fillL key) 54 ++ s))
  have hls := sum_length (turnedL (fillL key) 54 ++ s)
  rw [← HM.out] at HS2
  have HK := Lib.hid hK
  clear hK HM
  generalize turnedL (fillL key) 92 ++ sumL (turnedL (fillL key) 54 ++ s) = q2 at HS2 ha2
  generalize sumL (turnedL (fillL key) 54 ++ s) = m1 at HS1 ha2 hls
  generalize turnedL (fillL key) 54 ++ s = q1 at HS1 ha1
  generalize turnedL (fillL key) 92 = k1 at HP1 ha2 hl1
  generalize turnedL (fillL key) 54 = k2 at HP2 ha1 hl2
  go_enter Try.func25, Try.ntmps25
  go_wp2_with fail
  refine (HP1.out _ HK.out).mono ?_
  rintro e w1 ⟨rfl, b1⟩
  have B1 := Lib.hid b1
  have HK1 := Lib.hid (HK.out.below b1)
  clear b1 HP1
  go_wp2_with fail
  refine (HP2.out _ HK1.out).mono ?_
  rintro e w2 ⟨rfl, b2⟩
  have B2 := Lib.hid (B1.out.trans (b2.mono B1.out.size))
  have HK2 := Lib.hid (HK1.out.below b2)
  clear b2 B1 HK1 HP2
  go_wp2_with fail
  refine (HS1.out _ HK2.out).mono ?_
  rintro e w3 ⟨rfl, b3⟩
  have B3 := Lib.hid (B2.out.trans (b3.mono B2.out.size))
  have HK3 := Lib.hid (HK2.out.below b3)
  clear b3 B2 HK2 HS1
  go_wp2_with fail
  refine (HS2.out _ HK3.out).mono ?_
  rintro e w4 ⟨rfl, b4⟩
  have B4 := Lib.hid (B3.out.trans (b4.mono B3.out.size))
  clear b4 B3 HK3 HS2
  go_wp2_with fail
  go_ret
  exact ⟨rfl, B4.out⟩

set_option maxHeartbeats 1000000 in
theorem Mac_ref (key s : List UInt8) (hk : key.length ≤ 140737488355200) (hs : s.length ≤ 140737488355100) (w : World) :
    Calls Try.prog 13 #[.string ⟨key.toArray⟩, .string ⟨s.toArray⟩] w fun e w' => e = .returned (.string ⟨(macL key s).toArray⟩) ∧ Below w.heap.size w w' := by
  have HM := Lib.hid (fun v w h => mac_ref key s hk hs v w h)
  clear hk hs
  go_enter Try.func13, Try.ntmps13
  go_wp2_with fail
  refine (keys_k _).mono ?_
  rintro e w1 ⟨⟨v, rfl, hk⟩, b1⟩
  have HK := Lib.hid hk
  have B1 := Lib.hid b1
  clear hk b1
  go_wp2_with fail
  refine (HM.out v _ HK.out).mono ?_
  rintro e w2 ⟨rfl, b2⟩
  have B2 := Lib.hid (B1.out.trans (b2.mono B1.out.size))
  clear b2 B1
  go_wp2_with fail
  go_ret
  exact ⟨rfl, B2.out⟩
end Go.Proofs.Yteaanoaldnnflaa
