/- What the document's Open answers and leaves. Condition: the document's disk, that what must be cut off is safe. -/
import Derived.Test.YtmoihgniglomiaaDoorZRa
set_option linter.unusedVariables false
set_option linter.unusedSimpArgs false
set_option maxRecDepth 100000
namespace Go.Proofs.YtmoihgniglomiaaDoor
open Go.RowKit Go.Sort

/-- what the document's Open answers and leaves -/
def ROes (w : World) (r : Nat) (uv : Value) (x : Nat × (Wlg × Bs × List Bs) × St) (e : Ending) (w' : World) : Prop := ∃ lv rv, e = .returned (.tuple #[lv, .string ⟨x.2.1.2.1.toArray⟩, rv, .int .i64 (x.1 : Int)]) ∧ Rm w r uv w' x.2.2 ∧ w'.ownsRow 0 9 1 rv x.2.1.2.2.length (scells x.2.1.2.2) ∧ (∀ k, rv.ownBlock = some k → w.heap.size ≤ k) ∧
  (x.1 = 0 → ∃ b, lv = .pointer (some ⟨b, 0, none⟩) ∧ w.heap.size ≤ b ∧ Bk 102 w' b (rlc r x.2.1.1)) ∧ (x.1 ≠ 0 → lv = .pointer none)
theorem begins_behind {s : Bs} (h : (begins s).1 ≠ 0) : (begins s).2.2 = s.drop (20 + (begins s).2.1.length) ∧ 20 + (begins s).2.1.length ≤ s.length := by
  unfold begins at *
  split at h
  · rename_i hc
    cases hu : unframed (s.drop 12) 524288 with
    | none => rw [hu] at h; exact absurd rfl h
    | some x =>
      obtain ⟨sn, b⟩ := x
      rw [if_pos hc]
      simp only
      have h1 := unframed_drop hu
      have h2 := unframed_len hu
      rw [h1, List.drop_drop] at *
      simp only [List.length_drop] at h2
      exact ⟨by congr 1; omega, by omega⟩
  · exact absurd rfl h
set_option maxHeartbeats 8000000 in
theorem ropen_dead {w : World} {r : Nat} {S : St} {uv : Value} {kp : Int} (h : Rk w r S uv kp) (hg : S.gone = true) : Calls Tryd.prog 60 #[.pointer (some ⟨r, 0, none⟩)] w fun e w' => ROes w r uv (2, (⟨0, 0, 0, false⟩, [], []), S) e w' := by
  have c5 : w.cell? ⟨r, 5, none⟩ = some (.bool S.gone) := h.blk.cell 5
  rw [hg] at c5
  have H := Lib.hid h
  clear h
  go_enter Tryd.func60, Tryd.ntmps60
  go_wp2_with fail
  refine ⟨rfl, .tuple #[.pointer none, .string ⟨#[]⟩, .slice none 0 0, .int .i64 2], by simp [results, Tryd.results60, go_sem], ?_⟩
  exact ⟨_, _, rfl, Rm.same H.out (Below.refl _ _), owns_nil9 _, (fun k hk => by cases hk), (fun h => absurd h (by simp)), fun _ => rfl⟩
set_option maxHeartbeats 16000000 in
theorem ropen_form0 {w : World} {r : Nat} {S : St} {uv : Value} {kp : Int} (h : Rk w r S uv kp) (hg : S.gone = false) (hc : ¬ (begins S.f1).1 > (begins S.f0).1) (hz : (begins S.f0).1 = 0) : Calls Tryd.prog 60 #[.pointer (some ⟨r, 0, none⟩)] w fun e w' => ROes w r uv (100, (⟨0, 0, 0, false⟩, [], []), S) e w' := by
  have c5 : w.cell? ⟨r, 5, none⟩ = some (.bool S.gone) := h.blk.cell 5
  rw [hg] at c5
  have H := Lib.hid h
  have hl0 := h.wf.l0
  have hl1 := h.wf.l1
  have HF := Lib.hid (files40 r S uv kp w h)
  have HC0 := Lib.hid (counts_any S.f0 hl0)
  have HC1 := Lib.hid (counts_any S.f1 hl1)
  obtain ⟨g0, hg0⟩ : ∃ n, n = (begins S.f0).1 := ⟨_, rfl⟩
  obtain ⟨g1, hg1⟩ : ∃ n, n = (begins S.f1).1 := ⟨_, rfl⟩
  have HG0 : Hid ((begins S.f0).1 = g0) := Lib.hid hg0.symm
  have HG1 : Hid ((begins S.f1).1 = g1) := Lib.hid hg1.symm
  rw [← hg0, ← hg1] at hc
  have hcm : decide ((g0 : Int) < (g1 : Int)) = false := decide_eq_false (by omega)
  have hcmn : decide (g0 < g1) = false := decide_eq_false (by omega)
  have hz2 : g0 = 0 := by rw [hg0]; exact hz
  clear h hc hg0 hg1 hl0 hl1 hz
  subst hz2
  go_enter Tryd.func60, Tryd.ntmps60
  go_wp2_with fail
  refine HF.out.mono ?_
  rintro e w1 ⟨⟨v, rfl, ht⟩, hb⟩
  obtain ⟨g, rfl, hgB, hgk⟩ := ht
  have HB := Lib.hid hb
  have KG := Lib.hid hgk
  have HG := Lib.hid hgB
  have k0 := hgk.cell 0
  have k1 := hgk.cell 1
  simp only [List.getElem?_toArray, List.getElem?_cons_succ, List.getElem?_cons_zero] at k0 k1
  clear hb hgk hgB HF
  go_wp2_with fail
  refine (HC0.out w1).mono ?_
  rintro e w2 ⟨⟨s0, a0, rfl, ha0⟩, rfl⟩
  have HA0 := Lib.hid ha0
  clear ha0
  go_wp2_with fail
  refine (HC1.out w1).mono ?_
  rintro e w2 ⟨⟨s1, a1, rfl, ha1⟩, rfl⟩
  have HA1 := Lib.hid ha1
  clear ha1 HC0 HC1
  rw [HG0.out, HG1.out]
  go_wp2_with fail
  refine ⟨rfl, .tuple #[.pointer none, .string ⟨#[]⟩, .slice none 0 0, .int .i64 100], by simp [results, Tryd.results60, go_sem], ?_⟩
  exact ⟨_, _, rfl, Rm.same H.out HB.out, owns_nil9 _, (fun k hk => by cases hk), (fun h => absurd h (by simp)), fun _ => rfl⟩
set_option maxHeartbeats 32000000 in
theorem ropen0_plain {w : World} {r : Nat} {S : St} {uv : Value} {kp : Int} (h : Rk w r S uv kp) (hg : S.gone = false) (hc : ¬ (begins S.f1).1 > (begins S.f0).1) (hz : ¬ (begins S.f0).1 = 0) (ht : (recsOf (begins S.f0).2.2).2.length = 0) (ho : S.f1.length = 0) : Calls Tryd.prog 60 #[.pointer (some ⟨r, 0, none⟩)] w fun e w' => ROes w r uv (0, (⟨0, (begins S.f0).1, (recsOf (begins S.f0).2.2).1.length, false⟩, (begins S.f0).2.1, (recsOf (begins S.f0).2.2).1), S) e w' := by
  have c5 : w.cell? ⟨r, 5, none⟩ = some (.bool S.gone) := h.blk.cell 5
  rw [hg] at c5
  have H := Lib.hid h
  have hl0 := h.wf.l0
  have hl1 := h.wf.l1
  have HF := Lib.hid (files40 r S uv kp w h)
  have HC0 := Lib.hid (counts_any S.f0 hl0)
  have HC1 := Lib.hid (counts_any S.f1 hl1)
  obtain ⟨hbe, hbl⟩ := begins_behind hz
  obtain ⟨g0, hg0⟩ : ∃ n, n = (begins S.f0).1 := ⟨_, rfl⟩
  obtain ⟨g1, hg1⟩ : ∃ n, n = (begins S.f1).1 := ⟨_, rfl⟩
  have HG0 : Hid ((begins S.f0).1 = g0) := Lib.hid hg0.symm
  have HG1 : Hid ((begins S.f1).1 = g1) := Lib.hid hg1.symm
  rw [← hg0, ← hg1] at hc
  have hcm : decide ((g0 : Int) < (g1 : Int)) = false := decide_eq_false (by omega)
  have hcmn : decide (g0 < g1) = false := decide_eq_false (by omega)
  have HZ : Hid (g0 ≠ 0) := Lib.hid (by rw [hg0]; exact hz)
  have hz2 : ((g0 : Int) == 0) = false := by have := HZ.out; simp; omega
  have hz3 : decide (g0 = 0) = false := decide_eq_false HZ.out
  rw [← hg0]
  have HW := Lib.hid (fun p (hp : p ≤ S.f0.length) => whole_any S.f0 p 65536 hp hl0 (by omega))
  have HLE : Hid (S.f0.length ≤ 1048576) := Lib.hid hl0
  obtain ⟨sn, hsn⟩ : ∃ x, x = (begins S.f0).2.1 := ⟨_, rfl⟩
  obtain ⟨R, hR⟩ : ∃ x, x = recsOf (begins S.f0).2.2 := ⟨_, rfl⟩
  have HSN : Hid ((begins S.f0).2.1 = sn) := Lib.hid hsn.symm
  have HRB : Hid (R = recsOf (S.f0.drop (20 + sn.length)) ∧ 20 + sn.length ≤ S.f0.length) := Lib.hid (by rw [hR, hbe, hsn]; exact ⟨rfl, hbl⟩)
  have hrl : 8 * R.1.length + R.2.length ≤ 1048576 := by rw [hR]; exact Nat.le_trans (recs_len _ _ (Nat.le_refl _)) (Nat.le_trans (begins_le S.f0).2 hl0)
  rw [← hR] at ht 
  rw [← hR, ← hsn]
  have HRL := Lib.hid hrl
  obtain ⟨torn, htn⟩ : ∃ n, n = R.2.length := ⟨_, rfl⟩
  have HTN := Lib.hid htn
  have htz : torn = 0 := by rw [htn]; exact ht
  have hdo : decide ((0 : Int) < (S.f1.length : Int)) = false := decide_eq_false (by omega)
  have hdon : decide (0 < S.f1.length) = false := decide_eq_false (by omega)
  clear h hc hg0 hg1 hl0 hl1 hz hbe hbl hsn hR hrl htn ht ho
  go_enter Tryd.func60, Tryd.ntmps60
  go_wp2_with fail
  refine HF.out.mono ?_
  rintro e w1 ⟨⟨v, rfl, ht⟩, hb⟩
  obtain ⟨g, rfl, hgB, hgk⟩ := ht
  have HB := Lib.hid hb
  have KG := Lib.hid hgk
  have HG := Lib.hid hgB
  have k0 := hgk.cell 0
  have k1 := hgk.cell 1
  simp only [List.getElem?_toArray, List.getElem?_cons_succ, List.getElem?_cons_zero] at k0 k1
  clear hb hgk hgB HF
  go_wp2_with fail
  refine (HC0.out w1).mono ?_
  rintro e w2 ⟨⟨s0, a0, rfl, ha0⟩, rfl⟩
  have HA0 := Lib.hid ha0
  clear ha0
  go_wp2_with fail
  refine (HC1.out w1).mono ?_
  rintro e w2 ⟨⟨s1, a1, rfl, ha1⟩, rfl⟩
  have HA1 := Lib.hid ha1
  clear ha1 HC0 HC1
  rw [HG0.out, HG1.out]
  obtain ⟨hs, ha⟩ := HA0.out (by rw [HG0.out]; exact HZ.out)
  rw [HSN.out] at hs ha
  subst hs ha
  go_wp2_with fail
  have SR0 : Hid (Sr w1 (w1.alloc (.cells #[] 9)) (.slice (some ⟨w1.heap.size, 0, none⟩) 0 0) []) := Lib.hid ⟨⟨rfl, .inr ⟨w1.heap.size, 0, #[], rfl, Nat.zero_le _, Go.heap_alloc_new w1 _, Nat.le_refl _, by unfold maxLen; omega, rfl, rfl⟩⟩, by go_grown, fun k hk => by cases hk; exact Nat.le_refl _⟩
  clear k0 k1
  go_loopw [9, 14, 15, 16] (fun av rv sv ov wr => ∃ (p : Nat) (done : List Bs), av = .int .i64 (p : Int) ∧ p ≤ S.f0.length ∧ Sr w1 wr rv done ∧ R = (done ++ (recsOf (S.f0.drop p)).1, (recsOf (S.f0.drop p)).2)) (fun av _ _ _ _ => 1048577 - (intOf av).toNat)
  case atStart => exact ⟨20 + s0.length, [], by go_num, HRB.out.2, SR0.out, by rw [HRB.out.1]; rfl⟩
  case round =>
    clear SR0
    obtain ⟨p, done, rfl, hp, hsr, hrec⟩ := hrel
    have HS := Lib.hid hsr
    have HE := Lib.hid hrec
    have kk := (KG.out.below HS.out.2.1).cell 0
    simp only [List.getElem?_toArray, List.getElem?_cons_succ, List.getElem?_cons_zero] at kk
    have hpi : (p : Int) ≤ 1048576 := by have := HLE.out; omega
    clear hsr hrec
    go_wp2_with fail
    refine (HW.out p hp wr).mono ?_
    cases hu : unframed (S.f0.drop p) 65536 with
    | some x =>
      obtain ⟨rr, bb⟩ := x
      rintro e w3 ⟨rfl, rfl⟩
      have hrs := recsOf_some hu
      have hud := unframed_drop hu
      have hul := unframed_len hu
      rw [hrs] at HE
      rw [hud, List.drop_drop] at HE
      have hE2 : R = ((done ++ [rr]) ++ (recsOf (S.f0.drop (p + (8 + rr.length)))).1, (recsOf (S.f0.drop (p + (8 + rr.length)))).2) := by rw [HE.out]; simp
      have hdl : done.length + 1 ≤ 4194304 := by
        have h1 := HRL.out
        rw [hE2] at h1
        simp only [List.length_append, List.length_cons, List.length_nil] at h1
        omega
      simp only [List.length_drop] at hul
      have HUL := Lib.hid hul
      have hrl2 : (rr.length : Int) ≤ 65536 := by omega
      replace HE := Lib.hid hE2
      clear hu hrs hud hul hE2 kk
      go_wp2_with (at_builtin; refine wp_rec rfl _ _ rfl _ done wr.heap.size 1 rr rfl rfl (HS.out.down (by go_grown)) (Bk.new rfl) hdl ?_; intro v' w4 hs2; replace HS := Lib.hid hs2; clear hs2)
      go_roundw
      case rel => exact ⟨p + (8 + rr.length), done ++ [rr], by go_num, by have := HUL.out; omega, HS.out, HE.out⟩
      case measure => have := HUL.out; simp [intOf]; omega
    | none =>
      rintro e w3 ⟨⟨sx, rfl⟩, rfl⟩
      have hrn := recsOf_none hu
      rw [hrn] at HE
      obtain ⟨hR1, hR2⟩ : R.1 = done ∧ R.2.length = S.f0.length - p := ⟨by rw [HE.out]; simp, by rw [HE.out, List.length_drop]⟩
      have HR1 := Lib.hid hR1
      have htp : torn = S.f0.length - p := by rw [HTN.out]; exact hR2
      have hcp : (p : Int) = ((S.f0.length - torn : Nat) : Int) := by omega
      have hdt : decide ((p : Int) < (S.f0.length : Int)) = false := decide_eq_false (by omega)
      have hdtn : decide (p < S.f0.length) = false := decide_eq_false (by omega)
      have ko := (KG.out.below HS.out.2.1).cell 1
      simp only [List.getElem?_toArray, List.getElem?_cons_succ, List.getElem?_cons_zero] at ko
      have HCP := Lib.hid hcp
      clear hu hrn hR1 hR2 htp hcp HE
      have HB3 := Lib.hid (HB.out.trans (HS.out.2.1.mono HB.out.size))
      have hrg : Bk 61 wr r _ := H.out.blk.below HB3.out
      have hgn : g ≠ r := fun e => by
        have h1 := (KG.out.below HS.out.2.1)
        rw [e] at h1
        have h2 := h1.symm.trans hrg
        injection h2 with h3
        injection h3 with h4 h5
        exact absurd h5 (by decide)
      have hgr : Hid (g ≠ r ∧ r < w1.heap.size) := Lib.hid ⟨hgn, Nat.lt_of_lt_of_le H.out.blk.lt HB.out.size⟩
      clear hgn
      clear hrg
      have RM : Hid (Rm w r uv wr S) := Lib.hid (Rm.same H.out HB3.out)
      have KGW : Hid (Bk 9 wr g #[.string ⟨S.f0.toArray⟩, .string ⟨S.f1.toArray⟩]) := Lib.hid (KG.out.below HS.out.2.1)
      obtain ⟨ra, rc, hrv⟩ := HS.out.shape
      subst hrv
      have RW : Hid (wr.ownsRow 0 9 1 (.slice ra done.length rc) done.length (scells done)) := Lib.hid HS.out.1
      have RB : Hid (∀ k, (Value.slice ra done.length rc).ownBlock = some k → w1.heap.size ≤ k) := Lib.hid HS.out.2.2
      go_wp2_with fail
      have hbn : Below wr.heap.size wr (wr.alloc (.cells (rlc r ⟨0, g0, done.length, false⟩) 102)) := by go_grown
      rw [show R.1.length = done.length by rw [HR1.out], HR1.out]
      refine ⟨rfl, .tuple #[.pointer (some ⟨wr.heap.size, 0, none⟩), .string ⟨s0.toArray⟩, .slice ra done.length rc, .int .i64 0], by simp [results, Tryd.results60, go_sem], ?_⟩
      exact ⟨_, _, rfl, RM.out.down hbn, ownsS_of RW.out fun k hk hl => hbn.block k hl, fun k hk => Nat.le_trans HB.out.size (RB.out k hk), fun _ => ⟨_, rfl, RM.out.only.size, Bk.new rfl⟩, fun h => absurd rfl h⟩
set_option maxHeartbeats 32000000 in
theorem ropen0_other {w : World} {r : Nat} {S : St} {uv : Value} {kp : Int} (h : Rk w r S uv kp) (hg : S.gone = false) (hc : ¬ (begins S.f1).1 > (begins S.f0).1) (hz : ¬ (begins S.f0).1 = 0) (ht : (recsOf (begins S.f0).2.2).2.length = 0) (ho : S.f1.length > 0) (hc2 : (S.cut 1 0).1 = 0) : Calls Tryd.prog 60 #[.pointer (some ⟨r, 0, none⟩)] w fun e w' => ROes w r uv (0, (⟨0, (begins S.f0).1, (recsOf (begins S.f0).2.2).1.length, false⟩, (begins S.f0).2.1, (recsOf (begins S.f0).2.2).1), (S.cut 1 0).2) e w' := by
  have c5 : w.cell? ⟨r, 5, none⟩ = some (.bool S.gone) := h.blk.cell 5
  rw [hg] at c5
  have H := Lib.hid h
  have hl0 := h.wf.l0
  have hl1 := h.wf.l1
  have HF := Lib.hid (files40 r S uv kp w h)
  have HC0 := Lib.hid (counts_any S.f0 hl0)
  have HC1 := Lib.hid (counts_any S.f1 hl1)
  obtain ⟨hbe, hbl⟩ := begins_behind hz
  obtain ⟨g0, hg0⟩ : ∃ n, n = (begins S.f0).1 := ⟨_, rfl⟩
  obtain ⟨g1, hg1⟩ : ∃ n, n = (begins S.f1).1 := ⟨_, rfl⟩
  have HG0 : Hid ((begins S.f0).1 = g0) := Lib.hid hg0.symm
  have HG1 : Hid ((begins S.f1).1 = g1) := Lib.hid hg1.symm
  rw [← hg0, ← hg1] at hc
  have hcm : decide ((g0 : Int) < (g1 : Int)) = false := decide_eq_false (by omega)
  have hcmn : decide (g0 < g1) = false := decide_eq_false (by omega)
  have HZ : Hid (g0 ≠ 0) := Lib.hid (by rw [hg0]; exact hz)
  have hz2 : ((g0 : Int) == 0) = false := by have := HZ.out; simp; omega
  have hz3 : decide (g0 = 0) = false := decide_eq_false HZ.out
  rw [← hg0]
  have HW := Lib.hid (fun p (hp : p ≤ S.f0.length) => whole_any S.f0 p 65536 hp hl0 (by omega))
  have HLE : Hid (S.f0.length ≤ 1048576) := Lib.hid hl0
  obtain ⟨sn, hsn⟩ : ∃ x, x = (begins S.f0).2.1 := ⟨_, rfl⟩
  obtain ⟨R, hR⟩ : ∃ x, x = recsOf (begins S.f0).2.2 := ⟨_, rfl⟩
  have HSN : Hid ((begins S.f0).2.1 = sn) := Lib.hid hsn.symm
  have HRB : Hid (R = recsOf (S.f0.drop (20 + sn.length)) ∧ 20 + sn.length ≤ S.f0.length) := Lib.hid (by rw [hR, hbe, hsn]; exact ⟨rfl, hbl⟩)
  have hrl : 8 * R.1.length + R.2.length ≤ 1048576 := by rw [hR]; exact Nat.le_trans (recs_len _ _ (Nat.le_refl _)) (Nat.le_trans (begins_le S.f0).2 hl0)
  rw [← hR] at ht 
  rw [← hR, ← hsn]
  have HRL := Lib.hid hrl
  have HCUT2 : Hid (∀ (wx : World) (uvx : Value) (kpx : Int), Rk wx r (S) uvx kpx → Calls Tryd.prog 87 #[.pointer (some ⟨r, 0, none⟩), .int .i64 1, .int .i64 0] wx fun e w' => e = .returned (.int .i64 (((S).cut 1 0).1 : Int)) ∧ Rm wx r uvx w' ((S).cut 1 0).2) := Lib.hid fun wx uvx kpx hk => cut35 r _ uvx kpx 1 0 (by omega) (by omega) wx hk
  rw [hc2] at HCUT2
  generalize ((S).cut 1 0).2 = S3 at *
  obtain ⟨torn, htn⟩ : ∃ n, n = R.2.length := ⟨_, rfl⟩
  have HTN := Lib.hid htn
  have htz : torn = 0 := by rw [htn]; exact ht
  have hdo : decide ((0 : Int) < (S.f1.length : Int)) = true := decide_eq_true (by omega)
  have hdon : decide (0 < S.f1.length) = true := decide_eq_true (by omega)
  clear h hc hg0 hg1 hl0 hl1 hz hbe hbl hsn hR hrl htn ht ho hc2
  go_enter Tryd.func60, Tryd.ntmps60
  go_wp2_with fail
  refine HF.out.mono ?_
  rintro e w1 ⟨⟨v, rfl, ht⟩, hb⟩
  obtain ⟨g, rfl, hgB, hgk⟩ := ht
  have HB := Lib.hid hb
  have KG := Lib.hid hgk
  have HG := Lib.hid hgB
  have k0 := hgk.cell 0
  have k1 := hgk.cell 1
  simp only [List.getElem?_toArray, List.getElem?_cons_succ, List.getElem?_cons_zero] at k0 k1
  clear hb hgk hgB HF
  go_wp2_with fail
  refine (HC0.out w1).mono ?_
  rintro e w2 ⟨⟨s0, a0, rfl, ha0⟩, rfl⟩
  have HA0 := Lib.hid ha0
  clear ha0
  go_wp2_with fail
  refine (HC1.out w1).mono ?_
  rintro e w2 ⟨⟨s1, a1, rfl, ha1⟩, rfl⟩
  have HA1 := Lib.hid ha1
  clear ha1 HC0 HC1
  rw [HG0.out, HG1.out]
  obtain ⟨hs, ha⟩ := HA0.out (by rw [HG0.out]; exact HZ.out)
  rw [HSN.out] at hs ha
  subst hs ha
  go_wp2_with fail
  have SR0 : Hid (Sr w1 (w1.alloc (.cells #[] 9)) (.slice (some ⟨w1.heap.size, 0, none⟩) 0 0) []) := Lib.hid ⟨⟨rfl, .inr ⟨w1.heap.size, 0, #[], rfl, Nat.zero_le _, Go.heap_alloc_new w1 _, Nat.le_refl _, by unfold maxLen; omega, rfl, rfl⟩⟩, by go_grown, fun k hk => by cases hk; exact Nat.le_refl _⟩
  clear k0 k1
  go_loopw [9, 14, 15, 16] (fun av rv sv ov wr => ∃ (p : Nat) (done : List Bs), av = .int .i64 (p : Int) ∧ p ≤ S.f0.length ∧ Sr w1 wr rv done ∧ R = (done ++ (recsOf (S.f0.drop p)).1, (recsOf (S.f0.drop p)).2)) (fun av _ _ _ _ => 1048577 - (intOf av).toNat)
  case atStart => exact ⟨20 + s0.length, [], by go_num, HRB.out.2, SR0.out, by rw [HRB.out.1]; rfl⟩
  case round =>
    clear SR0
    obtain ⟨p, done, rfl, hp, hsr, hrec⟩ := hrel
    have HS := Lib.hid hsr
    have HE := Lib.hid hrec
    have kk := (KG.out.below HS.out.2.1).cell 0
    simp only [List.getElem?_toArray, List.getElem?_cons_succ, List.getElem?_cons_zero] at kk
    have hpi : (p : Int) ≤ 1048576 := by have := HLE.out; omega
    clear hsr hrec
    go_wp2_with fail
    refine (HW.out p hp wr).mono ?_
    cases hu : unframed (S.f0.drop p) 65536 with
    | some x =>
      obtain ⟨rr, bb⟩ := x
      rintro e w3 ⟨rfl, rfl⟩
      have hrs := recsOf_some hu
      have hud := unframed_drop hu
      have hul := unframed_len hu
      rw [hrs] at HE
      rw [hud, List.drop_drop] at HE
      have hE2 : R = ((done ++ [rr]) ++ (recsOf (S.f0.drop (p + (8 + rr.length)))).1, (recsOf (S.f0.drop (p + (8 + rr.length)))).2) := by rw [HE.out]; simp
      have hdl : done.length + 1 ≤ 4194304 := by
        have h1 := HRL.out
        rw [hE2] at h1
        simp only [List.length_append, List.length_cons, List.length_nil] at h1
        omega
      simp only [List.length_drop] at hul
      have HUL := Lib.hid hul
      have hrl2 : (rr.length : Int) ≤ 65536 := by omega
      replace HE := Lib.hid hE2
      clear hu hrs hud hul hE2 kk
      go_wp2_with (at_builtin; refine wp_rec rfl _ _ rfl _ done wr.heap.size 1 rr rfl rfl (HS.out.down (by go_grown)) (Bk.new rfl) hdl ?_; intro v' w4 hs2; replace HS := Lib.hid hs2; clear hs2)
      go_roundw
      case rel => exact ⟨p + (8 + rr.length), done ++ [rr], by go_num, by have := HUL.out; omega, HS.out, HE.out⟩
      case measure => have := HUL.out; simp [intOf]; omega
    | none =>
      rintro e w3 ⟨⟨sx, rfl⟩, rfl⟩
      have hrn := recsOf_none hu
      rw [hrn] at HE
      obtain ⟨hR1, hR2⟩ : R.1 = done ∧ R.2.length = S.f0.length - p := ⟨by rw [HE.out]; simp, by rw [HE.out, List.length_drop]⟩
      have HR1 := Lib.hid hR1
      have htp : torn = S.f0.length - p := by rw [HTN.out]; exact hR2
      have hcp : (p : Int) = ((S.f0.length - torn : Nat) : Int) := by omega
      have hdt : decide ((p : Int) < (S.f0.length : Int)) = false := decide_eq_false (by omega)
      have hdtn : decide (p < S.f0.length) = false := decide_eq_false (by omega)
      have ko := (KG.out.below HS.out.2.1).cell 1
      simp only [List.getElem?_toArray, List.getElem?_cons_succ, List.getElem?_cons_zero] at ko
      have HCP := Lib.hid hcp
      clear hu hrn hR1 hR2 htp hcp HE
      have HB3 := Lib.hid (HB.out.trans (HS.out.2.1.mono HB.out.size))
      have hrg : Bk 61 wr r _ := H.out.blk.below HB3.out
      have hgn : g ≠ r := fun e => by
        have h1 := (KG.out.below HS.out.2.1)
        rw [e] at h1
        have h2 := h1.symm.trans hrg
        injection h2 with h3
        injection h3 with h4 h5
        exact absurd h5 (by decide)
      have hgr : Hid (g ≠ r ∧ r < w1.heap.size) := Lib.hid ⟨hgn, Nat.lt_of_lt_of_le H.out.blk.lt HB.out.size⟩
      clear hgn
      clear hrg
      have RM : Hid (Rm w r uv wr S) := Lib.hid (Rm.same H.out HB3.out)
      have KGW : Hid (Bk 9 wr g #[.string ⟨S.f0.toArray⟩, .string ⟨S.f1.toArray⟩]) := Lib.hid (KG.out.below HS.out.2.1)
      obtain ⟨ra, rc, hrv⟩ := HS.out.shape
      subst hrv
      have RW : Hid (wr.ownsRow 0 9 1 (.slice ra done.length rc) done.length (scells done)) := Lib.hid HS.out.1
      have RB : Hid (∀ k, (Value.slice ra done.length rc).ownBlock = some k → w1.heap.size ≤ k) := Lib.hid HS.out.2.2
      go_wp2_with fail
      obtain ⟨uvx, kpx, rkx, ox, nx⟩ := RM.out
      refine (HCUT2.out wr uvx kpx rkx).mono ?_
      rintro e w7 ⟨rfl, hm⟩
      have hon := hm.only
      have rm2 : Rm w r uv w7 S3 := by
        obtain ⟨uv4, kp4, k4, o4, n4⟩ := hm
        refine ⟨uv4, kp4, k4, ox.trans o4 (fun x hx => .inl hx), fun g e => ?_⟩
        rcases n4 g e with e | e
        · exact nx g e
        · exact .inr (Nat.le_trans ox.size e)
      replace RM := Lib.hid rm2
      replace KGW := Lib.hid (KGW.out.only hon (by simp [hgr.out.1]))
      replace RW := Lib.hid (ownsS_of RW.out fun k hk hl => hon.block k hl (by have := RB.out k hk; have := hgr.out.2; simp; omega))
      clear hm hon rm2 rkx ox nx HCUT2
      clear ko
      go_wp2_with fail
      have hbn : Below w7.heap.size w7 (w7.alloc (.cells (rlc r ⟨0, g0, done.length, false⟩) 102)) := by go_grown
      rw [show R.1.length = done.length by rw [HR1.out], HR1.out]
      refine ⟨rfl, .tuple #[.pointer (some ⟨w7.heap.size, 0, none⟩), .string ⟨s0.toArray⟩, .slice ra done.length rc, .int .i64 0], by simp [results, Tryd.results60, go_sem], ?_⟩
      exact ⟨_, _, rfl, RM.out.down hbn, ownsS_of RW.out fun k hk hl => hbn.block k hl, fun k hk => Nat.le_trans HB.out.size (RB.out k hk), fun _ => ⟨_, rfl, RM.out.only.size, Bk.new rfl⟩, fun h => absurd rfl h⟩
set_option maxHeartbeats 32000000 in
theorem ropen0_otherdies {w : World} {r : Nat} {S : St} {uv : Value} {kp : Int} (h : Rk w r S uv kp) (hg : S.gone = false) (hc : ¬ (begins S.f1).1 > (begins S.f0).1) (hz : ¬ (begins S.f0).1 = 0) (ht : (recsOf (begins S.f0).2.2).2.length = 0) (ho : S.f1.length > 0) (hc2 : (S.cut 1 0).1 = 2) : Calls Tryd.prog 60 #[.pointer (some ⟨r, 0, none⟩)] w fun e w' => ROes w r uv (2, (⟨0, 0, 0, false⟩, [], []), (S.cut 1 0).2) e w' := by
  have c5 : w.cell? ⟨r, 5, none⟩ = some (.bool S.gone) := h.blk.cell 5
  rw [hg] at c5
  have H := Lib.hid h
  have hl0 := h.wf.l0
  have hl1 := h.wf.l1
  have HF := Lib.hid (files40 r S uv kp w h)
  have HC0 := Lib.hid (counts_any S.f0 hl0)
  have HC1 := Lib.hid (counts_any S.f1 hl1)
  obtain ⟨hbe, hbl⟩ := begins_behind hz
  obtain ⟨g0, hg0⟩ : ∃ n, n = (begins S.f0).1 := ⟨_, rfl⟩
  obtain ⟨g1, hg1⟩ : ∃ n, n = (begins S.f1).1 := ⟨_, rfl⟩
  have HG0 : Hid ((begins S.f0).1 = g0) := Lib.hid hg0.symm
  have HG1 : Hid ((begins S.f1).1 = g1) := Lib.hid hg1.symm
  rw [← hg0, ← hg1] at hc
  have hcm : decide ((g0 : Int) < (g1 : Int)) = false := decide_eq_false (by omega)
  have hcmn : decide (g0 < g1) = false := decide_eq_false (by omega)
  have HZ : Hid (g0 ≠ 0) := Lib.hid (by rw [hg0]; exact hz)
  have hz2 : ((g0 : Int) == 0) = false := by have := HZ.out; simp; omega
  have hz3 : decide (g0 = 0) = false := decide_eq_false HZ.out
  
  have HW := Lib.hid (fun p (hp : p ≤ S.f0.length) => whole_any S.f0 p 65536 hp hl0 (by omega))
  have HLE : Hid (S.f0.length ≤ 1048576) := Lib.hid hl0
  obtain ⟨sn, hsn⟩ : ∃ x, x = (begins S.f0).2.1 := ⟨_, rfl⟩
  obtain ⟨R, hR⟩ : ∃ x, x = recsOf (begins S.f0).2.2 := ⟨_, rfl⟩
  have HSN : Hid ((begins S.f0).2.1 = sn) := Lib.hid hsn.symm
  have HRB : Hid (R = recsOf (S.f0.drop (20 + sn.length)) ∧ 20 + sn.length ≤ S.f0.length) := Lib.hid (by rw [hR, hbe, hsn]; exact ⟨rfl, hbl⟩)
  have hrl : 8 * R.1.length + R.2.length ≤ 1048576 := by rw [hR]; exact Nat.le_trans (recs_len _ _ (Nat.le_refl _)) (Nat.le_trans (begins_le S.f0).2 hl0)
  rw [← hR] at ht 
  
  have HRL := Lib.hid hrl
  have HCUT2 : Hid (∀ (wx : World) (uvx : Value) (kpx : Int), Rk wx r (S) uvx kpx → Calls Tryd.prog 87 #[.pointer (some ⟨r, 0, none⟩), .int .i64 1, .int .i64 0] wx fun e w' => e = .returned (.int .i64 (((S).cut 1 0).1 : Int)) ∧ Rm wx r uvx w' ((S).cut 1 0).2) := Lib.hid fun wx uvx kpx hk => cut35 r _ uvx kpx 1 0 (by omega) (by omega) wx hk
  rw [hc2] at HCUT2
  generalize ((S).cut 1 0).2 = S3 at *
  obtain ⟨torn, htn⟩ : ∃ n, n = R.2.length := ⟨_, rfl⟩
  have HTN := Lib.hid htn
  have htz : torn = 0 := by rw [htn]; exact ht
  have hdo : decide ((0 : Int) < (S.f1.length : Int)) = true := decide_eq_true (by omega)
  have hdon : decide (0 < S.f1.length) = true := decide_eq_true (by omega)
  clear h hc hg0 hg1 hl0 hl1 hz hbe hbl hsn hR hrl htn ht ho hc2
  go_enter Tryd.func60, Tryd.ntmps60
  go_wp2_with fail
  refine HF.out.mono ?_
  rintro e w1 ⟨⟨v, rfl, ht⟩, hb⟩
  obtain ⟨g, rfl, hgB, hgk⟩ := ht
  have HB := Lib.hid hb
  have KG := Lib.hid hgk
  have HG := Lib.hid hgB
  have k0 := hgk.cell 0
  have k1 := hgk.cell 1
  simp only [List.getElem?_toArray, List.getElem?_cons_succ, List.getElem?_cons_zero] at k0 k1
  clear hb hgk hgB HF
  go_wp2_with fail
  refine (HC0.out w1).mono ?_
  rintro e w2 ⟨⟨s0, a0, rfl, ha0⟩, rfl⟩
  have HA0 := Lib.hid ha0
  clear ha0
  go_wp2_with fail
  refine (HC1.out w1).mono ?_
  rintro e w2 ⟨⟨s1, a1, rfl, ha1⟩, rfl⟩
  have HA1 := Lib.hid ha1
  clear ha1 HC0 HC1
  rw [HG0.out, HG1.out]
  obtain ⟨hs, ha⟩ := HA0.out (by rw [HG0.out]; exact HZ.out)
  rw [HSN.out] at hs ha
  subst hs ha
  go_wp2_with fail
  have SR0 : Hid (Sr w1 (w1.alloc (.cells #[] 9)) (.slice (some ⟨w1.heap.size, 0, none⟩) 0 0) []) := Lib.hid ⟨⟨rfl, .inr ⟨w1.heap.size, 0, #[], rfl, Nat.zero_le _, Go.heap_alloc_new w1 _, Nat.le_refl _, by unfold maxLen; omega, rfl, rfl⟩⟩, by go_grown, fun k hk => by cases hk; exact Nat.le_refl _⟩
  clear k0 k1
  go_loopw [9, 14, 15, 16] (fun av rv sv ov wr => ∃ (p : Nat) (done : List Bs), av = .int .i64 (p : Int) ∧ p ≤ S.f0.length ∧ Sr w1 wr rv done ∧ R = (done ++ (recsOf (S.f0.drop p)).1, (recsOf (S.f0.drop p)).2)) (fun av _ _ _ _ => 1048577 - (intOf av).toNat)
  case atStart => exact ⟨20 + s0.length, [], by go_num, HRB.out.2, SR0.out, by rw [HRB.out.1]; rfl⟩
  case round =>
    clear SR0
    obtain ⟨p, done, rfl, hp, hsr, hrec⟩ := hrel
    have HS := Lib.hid hsr
    have HE := Lib.hid hrec
    have kk := (KG.out.below HS.out.2.1).cell 0
    simp only [List.getElem?_toArray, List.getElem?_cons_succ, List.getElem?_cons_zero] at kk
    have hpi : (p : Int) ≤ 1048576 := by have := HLE.out; omega
    clear hsr hrec
    go_wp2_with fail
    refine (HW.out p hp wr).mono ?_
    cases hu : unframed (S.f0.drop p) 65536 with
    | some x =>
      obtain ⟨rr, bb⟩ := x
      rintro e w3 ⟨rfl, rfl⟩
      have hrs := recsOf_some hu
      have hud := unframed_drop hu
      have hul := unframed_len hu
      rw [hrs] at HE
      rw [hud, List.drop_drop] at HE
      have hE2 : R = ((done ++ [rr]) ++ (recsOf (S.f0.drop (p + (8 + rr.length)))).1, (recsOf (S.f0.drop (p + (8 + rr.length)))).2) := by rw [HE.out]; simp
      have hdl : done.length + 1 ≤ 4194304 := by
        have h1 := HRL.out
        rw [hE2] at h1
        simp only [List.length_append, List.length_cons, List.length_nil] at h1
        omega
      simp only [List.length_drop] at hul
      have HUL := Lib.hid hul
      have hrl2 : (rr.length : Int) ≤ 65536 := by omega
      replace HE := Lib.hid hE2
      clear hu hrs hud hul hE2 kk
      go_wp2_with (at_builtin; refine wp_rec rfl _ _ rfl _ done wr.heap.size 1 rr rfl rfl (HS.out.down (by go_grown)) (Bk.new rfl) hdl ?_; intro v' w4 hs2; replace HS := Lib.hid hs2; clear hs2)
      go_roundw
      case rel => exact ⟨p + (8 + rr.length), done ++ [rr], by go_num, by have := HUL.out; omega, HS.out, HE.out⟩
      case measure => have := HUL.out; simp [intOf]; omega
    | none =>
      rintro e w3 ⟨⟨sx, rfl⟩, rfl⟩
      have hrn := recsOf_none hu
      rw [hrn] at HE
      obtain ⟨hR1, hR2⟩ : R.1 = done ∧ R.2.length = S.f0.length - p := ⟨by rw [HE.out]; simp, by rw [HE.out, List.length_drop]⟩
      have HR1 := Lib.hid hR1
      have htp : torn = S.f0.length - p := by rw [HTN.out]; exact hR2
      have hcp : (p : Int) = ((S.f0.length - torn : Nat) : Int) := by omega
      have hdt : decide ((p : Int) < (S.f0.length : Int)) = false := decide_eq_false (by omega)
      have hdtn : decide (p < S.f0.length) = false := decide_eq_false (by omega)
      have ko := (KG.out.below HS.out.2.1).cell 1
      simp only [List.getElem?_toArray, List.getElem?_cons_succ, List.getElem?_cons_zero] at ko
      have HCP := Lib.hid hcp
      clear hu hrn hR1 hR2 htp hcp HE
      have HB3 := Lib.hid (HB.out.trans (HS.out.2.1.mono HB.out.size))
      have hrg : Bk 61 wr r _ := H.out.blk.below HB3.out
      have hgn : g ≠ r := fun e => by
        have h1 := (KG.out.below HS.out.2.1)
        rw [e] at h1
        have h2 := h1.symm.trans hrg
        injection h2 with h3
        injection h3 with h4 h5
        exact absurd h5 (by decide)
      have hgr : Hid (g ≠ r ∧ r < w1.heap.size) := Lib.hid ⟨hgn, Nat.lt_of_lt_of_le H.out.blk.lt HB.out.size⟩
      clear hgn
      clear hrg
      have RM : Hid (Rm w r uv wr S) := Lib.hid (Rm.same H.out HB3.out)
      have KGW : Hid (Bk 9 wr g #[.string ⟨S.f0.toArray⟩, .string ⟨S.f1.toArray⟩]) := Lib.hid (KG.out.below HS.out.2.1)
      obtain ⟨ra, rc, hrv⟩ := HS.out.shape
      subst hrv
      have RW : Hid (wr.ownsRow 0 9 1 (.slice ra done.length rc) done.length (scells done)) := Lib.hid HS.out.1
      have RB : Hid (∀ k, (Value.slice ra done.length rc).ownBlock = some k → w1.heap.size ≤ k) := Lib.hid HS.out.2.2
      go_wp2_with fail
      obtain ⟨uvx, kpx, rkx, ox, nx⟩ := RM.out
      refine (HCUT2.out wr uvx kpx rkx).mono ?_
      rintro e w7 ⟨rfl, hm⟩
      have hon := hm.only
      have rm2 : Rm w r uv w7 S3 := by
        obtain ⟨uv4, kp4, k4, o4, n4⟩ := hm
        refine ⟨uv4, kp4, k4, ox.trans o4 (fun x hx => .inl hx), fun g e => ?_⟩
        rcases n4 g e with e | e
        · exact nx g e
        · exact .inr (Nat.le_trans ox.size e)
      replace RM := Lib.hid rm2
      replace KGW := Lib.hid (KGW.out.only hon (by simp [hgr.out.1]))
      replace RW := Lib.hid (ownsS_of RW.out fun k hk hl => hon.block k hl (by have := RB.out k hk; have := hgr.out.2; simp; omega))
      clear hm hon rm2 rkx ox nx HCUT2
      clear ko
      go_wp2_with fail
      refine ⟨rfl, .tuple #[.pointer none, .string ⟨#[]⟩, .slice none 0 0, .int .i64 2], by simp [results, Tryd.results60, go_sem], ?_⟩
      exact ⟨_, _, rfl, RM.out, owns_nil9 _, (fun k hk => by cases hk), (fun h => absurd h (by simp)), fun _ => rfl⟩
set_option maxHeartbeats 32000000 in
theorem ropen0_torn {w : World} {r : Nat} {S : St} {uv : Value} {kp : Int} (h : Rk w r S uv kp) (hg : S.gone = false) (hc : ¬ (begins S.f1).1 > (begins S.f0).1) (hz : ¬ (begins S.f0).1 = 0) (ht : (recsOf (begins S.f0).2.2).2.length > 0) (hc1 : (S.cut 0 ((S.f0.length - (recsOf (begins S.f0).2.2).2.length : Nat) : Int)).1 = 0) (ho : S.f1.length = 0) : Calls Tryd.prog 60 #[.pointer (some ⟨r, 0, none⟩)] w fun e w' => ROes w r uv (0, (⟨0, (begins S.f0).1, (recsOf (begins S.f0).2.2).1.length, false⟩, (begins S.f0).2.1, (recsOf (begins S.f0).2.2).1), (S.cut 0 ((S.f0.length - (recsOf (begins S.f0).2.2).2.length : Nat) : Int)).2) e w' := by
  have c5 : w.cell? ⟨r, 5, none⟩ = some (.bool S.gone) := h.blk.cell 5
  rw [hg] at c5
  have H := Lib.hid h
  have hl0 := h.wf.l0
  have hl1 := h.wf.l1
  have HF := Lib.hid (files40 r S uv kp w h)
  have HC0 := Lib.hid (counts_any S.f0 hl0)
  have HC1 := Lib.hid (counts_any S.f1 hl1)
  obtain ⟨hbe, hbl⟩ := begins_behind hz
  obtain ⟨g0, hg0⟩ : ∃ n, n = (begins S.f0).1 := ⟨_, rfl⟩
  obtain ⟨g1, hg1⟩ : ∃ n, n = (begins S.f1).1 := ⟨_, rfl⟩
  have HG0 : Hid ((begins S.f0).1 = g0) := Lib.hid hg0.symm
  have HG1 : Hid ((begins S.f1).1 = g1) := Lib.hid hg1.symm
  rw [← hg0, ← hg1] at hc
  have hcm : decide ((g0 : Int) < (g1 : Int)) = false := decide_eq_false (by omega)
  have hcmn : decide (g0 < g1) = false := decide_eq_false (by omega)
  have HZ : Hid (g0 ≠ 0) := Lib.hid (by rw [hg0]; exact hz)
  have hz2 : ((g0 : Int) == 0) = false := by have := HZ.out; simp; omega
  have hz3 : decide (g0 = 0) = false := decide_eq_false HZ.out
  rw [← hg0]
  have HW := Lib.hid (fun p (hp : p ≤ S.f0.length) => whole_any S.f0 p 65536 hp hl0 (by omega))
  have HLE : Hid (S.f0.length ≤ 1048576) := Lib.hid hl0
  obtain ⟨sn, hsn⟩ : ∃ x, x = (begins S.f0).2.1 := ⟨_, rfl⟩
  obtain ⟨R, hR⟩ : ∃ x, x = recsOf (begins S.f0).2.2 := ⟨_, rfl⟩
  have HSN : Hid ((begins S.f0).2.1 = sn) := Lib.hid hsn.symm
  have HRB : Hid (R = recsOf (S.f0.drop (20 + sn.length)) ∧ 20 + sn.length ≤ S.f0.length) := Lib.hid (by rw [hR, hbe, hsn]; exact ⟨rfl, hbl⟩)
  have hrl : 8 * R.1.length + R.2.length ≤ 1048576 := by rw [hR]; exact Nat.le_trans (recs_len _ _ (Nat.le_refl _)) (Nat.le_trans (begins_le S.f0).2 hl0)
  rw [← hR] at ht hc1 
  rw [← hR, ← hsn]
  have HRL := Lib.hid hrl
  have HCUT : Hid (∀ (wx : World) (uvx : Value) (kpx : Int), Rk wx r S uvx kpx → Calls Tryd.prog 87 #[.pointer (some ⟨r, 0, none⟩), .int .i64 0, .int .i64 ((S.f0.length - R.2.length : Nat) : Int)] wx fun e w' => e = .returned (.int .i64 ((S.cut 0 ((S.f0.length - R.2.length : Nat) : Int)).1 : Int)) ∧ Rm wx r uvx w' (S.cut 0 ((S.f0.length - R.2.length : Nat) : Int)).2) := Lib.hid fun wx uvx kpx hk => cut35 r S uvx kpx 0 _ (by omega) (by omega) wx hk
  rw [hc1] at HCUT
  generalize (S.cut 0 ((S.f0.length - R.2.length : Nat) : Int)).2 = S2 at *
  obtain ⟨torn, htn⟩ : ∃ n, n = R.2.length := ⟨_, rfl⟩
  have HTN := Lib.hid htn
  have htz : torn > 0 := by rw [htn]; exact ht
  rw [← htn] at HCUT
  have hdo : decide ((0 : Int) < (S.f1.length : Int)) = false := decide_eq_false (by omega)
  have hdon : decide (0 < S.f1.length) = false := decide_eq_false (by omega)
  clear h hc hg0 hg1 hl0 hl1 hz hbe hbl hsn hR hrl htn ht hc1 ho
  go_enter Tryd.func60, Tryd.ntmps60
  go_wp2_with fail
  refine HF.out.mono ?_
  rintro e w1 ⟨⟨v, rfl, ht⟩, hb⟩
  obtain ⟨g, rfl, hgB, hgk⟩ := ht
  have HB := Lib.hid hb
  have KG := Lib.hid hgk
  have HG := Lib.hid hgB
  have k0 := hgk.cell 0
  have k1 := hgk.cell 1
  simp only [List.getElem?_toArray, List.getElem?_cons_succ, List.getElem?_cons_zero] at k0 k1
  clear hb hgk hgB HF
  go_wp2_with fail
  refine (HC0.out w1).mono ?_
  rintro e w2 ⟨⟨s0, a0, rfl, ha0⟩, rfl⟩
  have HA0 := Lib.hid ha0
  clear ha0
  go_wp2_with fail
  refine (HC1.out w1).mono ?_
  rintro e w2 ⟨⟨s1, a1, rfl, ha1⟩, rfl⟩
  have HA1 := Lib.hid ha1
  clear ha1 HC0 HC1
  rw [HG0.out, HG1.out]
  obtain ⟨hs, ha⟩ := HA0.out (by rw [HG0.out]; exact HZ.out)
  rw [HSN.out] at hs ha
  subst hs ha
  go_wp2_with fail
  have SR0 : Hid (Sr w1 (w1.alloc (.cells #[] 9)) (.slice (some ⟨w1.heap.size, 0, none⟩) 0 0) []) := Lib.hid ⟨⟨rfl, .inr ⟨w1.heap.size, 0, #[], rfl, Nat.zero_le _, Go.heap_alloc_new w1 _, Nat.le_refl _, by unfold maxLen; omega, rfl, rfl⟩⟩, by go_grown, fun k hk => by cases hk; exact Nat.le_refl _⟩
  clear k0 k1
  go_loopw [9, 14, 15, 16] (fun av rv sv ov wr => ∃ (p : Nat) (done : List Bs), av = .int .i64 (p : Int) ∧ p ≤ S.f0.length ∧ Sr w1 wr rv done ∧ R = (done ++ (recsOf (S.f0.drop p)).1, (recsOf (S.f0.drop p)).2)) (fun av _ _ _ _ => 1048577 - (intOf av).toNat)
  case atStart => exact ⟨20 + s0.length, [], by go_num, HRB.out.2, SR0.out, by rw [HRB.out.1]; rfl⟩
  case round =>
    clear SR0
    obtain ⟨p, done, rfl, hp, hsr, hrec⟩ := hrel
    have HS := Lib.hid hsr
    have HE := Lib.hid hrec
    have kk := (KG.out.below HS.out.2.1).cell 0
    simp only [List.getElem?_toArray, List.getElem?_cons_succ, List.getElem?_cons_zero] at kk
    have hpi : (p : Int) ≤ 1048576 := by have := HLE.out; omega
    clear hsr hrec
    go_wp2_with fail
    refine (HW.out p hp wr).mono ?_
    cases hu : unframed (S.f0.drop p) 65536 with
    | some x =>
      obtain ⟨rr, bb⟩ := x
      rintro e w3 ⟨rfl, rfl⟩
      have hrs := recsOf_some hu
      have hud := unframed_drop hu
      have hul := unframed_len hu
      rw [hrs] at HE
      rw [hud, List.drop_drop] at HE
      have hE2 : R = ((done ++ [rr]) ++ (recsOf (S.f0.drop (p + (8 + rr.length)))).1, (recsOf (S.f0.drop (p + (8 + rr.length)))).2) := by rw [HE.out]; simp
      have hdl : done.length + 1 ≤ 4194304 := by
        have h1 := HRL.out
        rw [hE2] at h1
        simp only [List.length_append, List.length_cons, List.length_nil] at h1
        omega
      simp only [List.length_drop] at hul
      have HUL := Lib.hid hul
      have hrl2 : (rr.length : Int) ≤ 65536 := by omega
      replace HE := Lib.hid hE2
      clear hu hrs hud hul hE2 kk
      go_wp2_with (at_builtin; refine wp_rec rfl _ _ rfl _ done wr.heap.size 1 rr rfl rfl (HS.out.down (by go_grown)) (Bk.new rfl) hdl ?_; intro v' w4 hs2; replace HS := Lib.hid hs2; clear hs2)
      go_roundw
      case rel => exact ⟨p + (8 + rr.length), done ++ [rr], by go_num, by have := HUL.out; omega, HS.out, HE.out⟩
      case measure => have := HUL.out; simp [intOf]; omega
    | none =>
      rintro e w3 ⟨⟨sx, rfl⟩, rfl⟩
      have hrn := recsOf_none hu
      rw [hrn] at HE
      obtain ⟨hR1, hR2⟩ : R.1 = done ∧ R.2.length = S.f0.length - p := ⟨by rw [HE.out]; simp, by rw [HE.out, List.length_drop]⟩
      have HR1 := Lib.hid hR1
      have htp : torn = S.f0.length - p := by rw [HTN.out]; exact hR2
      have hcp : (p : Int) = ((S.f0.length - torn : Nat) : Int) := by omega
      have hdt : decide ((p : Int) < (S.f0.length : Int)) = true := decide_eq_true (by omega)
      have hdtn : decide (p < S.f0.length) = true := decide_eq_true (by omega)
      have ko := (KG.out.below HS.out.2.1).cell 1
      simp only [List.getElem?_toArray, List.getElem?_cons_succ, List.getElem?_cons_zero] at ko
      have HCP := Lib.hid hcp
      clear hu hrn hR1 hR2 htp hcp HE
      have HB3 := Lib.hid (HB.out.trans (HS.out.2.1.mono HB.out.size))
      have hrg : Bk 61 wr r _ := H.out.blk.below HB3.out
      have hgn : g ≠ r := fun e => by
        have h1 := (KG.out.below HS.out.2.1)
        rw [e] at h1
        have h2 := h1.symm.trans hrg
        injection h2 with h3
        injection h3 with h4 h5
        exact absurd h5 (by decide)
      have hgr : Hid (g ≠ r ∧ r < w1.heap.size) := Lib.hid ⟨hgn, Nat.lt_of_lt_of_le H.out.blk.lt HB.out.size⟩
      clear hgn
      clear hrg
      have RM : Hid (Rm w r uv wr S) := Lib.hid (Rm.same H.out HB3.out)
      have KGW : Hid (Bk 9 wr g #[.string ⟨S.f0.toArray⟩, .string ⟨S.f1.toArray⟩]) := Lib.hid (KG.out.below HS.out.2.1)
      obtain ⟨ra, rc, hrv⟩ := HS.out.shape
      subst hrv
      have RW : Hid (wr.ownsRow 0 9 1 (.slice ra done.length rc) done.length (scells done)) := Lib.hid HS.out.1
      have RB : Hid (∀ k, (Value.slice ra done.length rc).ownBlock = some k → w1.heap.size ≤ k) := Lib.hid HS.out.2.2
      go_wp2_with fail
      rw [HCP.out]
      obtain ⟨uvx, kpx, rkx, ox, nx⟩ := RM.out
      refine (HCUT.out wr uvx kpx rkx).mono ?_
      rintro e w5 ⟨rfl, hm⟩
      have hon := hm.only
      have rm2 : Rm w r uv w5 S2 := by
        obtain ⟨uv4, kp4, k4, o4, n4⟩ := hm
        refine ⟨uv4, kp4, k4, ox.trans o4 (fun x hx => .inl hx), fun g e => ?_⟩
        rcases n4 g e with e | e
        · exact nx g e
        · exact .inr (Nat.le_trans ox.size e)
      replace RM := Lib.hid rm2
      replace KGW := Lib.hid (KGW.out.only hon (by simp [hgr.out.1]))
      replace RW := Lib.hid (ownsS_of RW.out fun k hk hl => hon.block k hl (by have := RB.out k hk; have := hgr.out.2; simp; omega))
      clear hm hon rm2 rkx ox nx HCUT
      clear ko
      have ko := KGW.out.cell 1
      simp only [List.getElem?_toArray, List.getElem?_cons_succ, List.getElem?_cons_zero] at ko
      go_wp2_with fail
      have hbn : Below w5.heap.size w5 (w5.alloc (.cells (rlc r ⟨0, g0, done.length, false⟩) 102)) := by go_grown
      rw [show R.1.length = done.length by rw [HR1.out], HR1.out]
      refine ⟨rfl, .tuple #[.pointer (some ⟨w5.heap.size, 0, none⟩), .string ⟨s0.toArray⟩, .slice ra done.length rc, .int .i64 0], by simp [results, Tryd.results60, go_sem], ?_⟩
      exact ⟨_, _, rfl, RM.out.down hbn, ownsS_of RW.out fun k hk hl => hbn.block k hl, fun k hk => Nat.le_trans HB.out.size (RB.out k hk), fun _ => ⟨_, rfl, RM.out.only.size, Bk.new rfl⟩, fun h => absurd rfl h⟩
set_option maxHeartbeats 32000000 in
theorem ropen0_both {w : World} {r : Nat} {S : St} {uv : Value} {kp : Int} (h : Rk w r S uv kp) (hg : S.gone = false) (hc : ¬ (begins S.f1).1 > (begins S.f0).1) (hz : ¬ (begins S.f0).1 = 0) (ht : (recsOf (begins S.f0).2.2).2.length > 0) (hc1 : (S.cut 0 ((S.f0.length - (recsOf (begins S.f0).2.2).2.length : Nat) : Int)).1 = 0) (ho : S.f1.length > 0) (hc2 : ((S.cut 0 ((S.f0.length - (recsOf (begins S.f0).2.2).2.length : Nat) : Int)).2.cut 1 0).1 = 0) : Calls Tryd.prog 60 #[.pointer (some ⟨r, 0, none⟩)] w fun e w' => ROes w r uv (0, (⟨0, (begins S.f0).1, (recsOf (begins S.f0).2.2).1.length, false⟩, (begins S.f0).2.1, (recsOf (begins S.f0).2.2).1), ((S.cut 0 ((S.f0.length - (recsOf (begins S.f0).2.2).2.length : Nat) : Int)).2.cut 1 0).2) e w' := by
  have c5 : w.cell? ⟨r, 5, none⟩ = some (.bool S.gone) := h.blk.cell 5
  rw [hg] at c5
  have H := Lib.hid h
  have hl0 := h.wf.l0
  have hl1 := h.wf.l1
  have HF := Lib.hid (files40 r S uv kp w h)
  have HC0 := Lib.hid (counts_any S.f0 hl0)
  have HC1 := Lib.hid (counts_any S.f1 hl1)
  obtain ⟨hbe, hbl⟩ := begins_behind hz
  obtain ⟨g0, hg0⟩ : ∃ n, n = (begins S.f0).1 := ⟨_, rfl⟩
  obtain ⟨g1, hg1⟩ : ∃ n, n = (begins S.f1).1 := ⟨_, rfl⟩
  have HG0 : Hid ((begins S.f0).1 = g0) := Lib.hid hg0.symm
  have HG1 : Hid ((begins S.f1).1 = g1) := Lib.hid hg1.symm
  rw [← hg0, ← hg1] at hc
  have hcm : decide ((g0 : Int) < (g1 : Int)) = false := decide_eq_false (by omega)
  have hcmn : decide (g0 < g1) = false := decide_eq_false (by omega)
  have HZ : Hid (g0 ≠ 0) := Lib.hid (by rw [hg0]; exact hz)
  have hz2 : ((g0 : Int) == 0) = false := by have := HZ.out; simp; omega
  have hz3 : decide (g0 = 0) = false := decide_eq_false HZ.out
  rw [← hg0]
  have HW := Lib.hid (fun p (hp : p ≤ S.f0.length) => whole_any S.f0 p 65536 hp hl0 (by omega))
  have HLE : Hid (S.f0.length ≤ 1048576) := Lib.hid hl0
  obtain ⟨sn, hsn⟩ : ∃ x, x = (begins S.f0).2.1 := ⟨_, rfl⟩
  obtain ⟨R, hR⟩ : ∃ x, x = recsOf (begins S.f0).2.2 := ⟨_, rfl⟩
  have HSN : Hid ((begins S.f0).2.1 = sn) := Lib.hid hsn.symm
  have HRB : Hid (R = recsOf (S.f0.drop (20 + sn.length)) ∧ 20 + sn.length ≤ S.f0.length) := Lib.hid (by rw [hR, hbe, hsn]; exact ⟨rfl, hbl⟩)
  have hrl : 8 * R.1.length + R.2.length ≤ 1048576 := by rw [hR]; exact Nat.le_trans (recs_len _ _ (Nat.le_refl _)) (Nat.le_trans (begins_le S.f0).2 hl0)
  rw [← hR] at ht hc1 hc2 
  rw [← hR, ← hsn]
  have HRL := Lib.hid hrl
  have HCUT : Hid (∀ (wx : World) (uvx : Value) (kpx : Int), Rk wx r S uvx kpx → Calls Tryd.prog 87 #[.pointer (some ⟨r, 0, none⟩), .int .i64 0, .int .i64 ((S.f0.length - R.2.length : Nat) : Int)] wx fun e w' => e = .returned (.int .i64 ((S.cut 0 ((S.f0.length - R.2.length : Nat) : Int)).1 : Int)) ∧ Rm wx r uvx w' (S.cut 0 ((S.f0.length - R.2.length : Nat) : Int)).2) := Lib.hid fun wx uvx kpx hk => cut35 r S uvx kpx 0 _ (by omega) (by omega) wx hk
  rw [hc1] at HCUT
  have HCUT2 : Hid (∀ (wx : World) (uvx : Value) (kpx : Int), Rk wx r ((S.cut 0 ((S.f0.length - R.2.length : Nat) : Int)).2) uvx kpx → Calls Tryd.prog 87 #[.pointer (some ⟨r, 0, none⟩), .int .i64 1, .int .i64 0] wx fun e w' => e = .returned (.int .i64 ((((S.cut 0 ((S.f0.length - R.2.length : Nat) : Int)).2).cut 1 0).1 : Int)) ∧ Rm wx r uvx w' (((S.cut 0 ((S.f0.length - R.2.length : Nat) : Int)).2).cut 1 0).2) := Lib.hid fun wx uvx kpx hk => cut35 r _ uvx kpx 1 0 (by omega) (by omega) wx hk
  rw [hc2] at HCUT2
  generalize (((S.cut 0 ((S.f0.length - R.2.length : Nat) : Int)).2).cut 1 0).2 = S3 at *
  generalize (S.cut 0 ((S.f0.length - R.2.length : Nat) : Int)).2 = S2 at *
  obtain ⟨torn, htn⟩ : ∃ n, n = R.2.length := ⟨_, rfl⟩
  have HTN := Lib.hid htn
  have htz : torn > 0 := by rw [htn]; exact ht
  rw [← htn] at HCUT
  have hdo : decide ((0 : Int) < (S.f1.length : Int)) = true := decide_eq_true (by omega)
  have hdon : decide (0 < S.f1.length) = true := decide_eq_true (by omega)
  clear h hc hg0 hg1 hl0 hl1 hz hbe hbl hsn hR hrl htn ht hc1 ho hc2
  go_enter Tryd.func60, Tryd.ntmps60
  go_wp2_with fail
  refine HF.out.mono ?_
  rintro e w1 ⟨⟨v, rfl, ht⟩, hb⟩
  obtain ⟨g, rfl, hgB, hgk⟩ := ht
  have HB := Lib.hid hb
  have KG := Lib.hid hgk
  have HG := Lib.hid hgB
  have k0 := hgk.cell 0
  have k1 := hgk.cell 1
  simp only [List.getElem?_toArray, List.getElem?_cons_succ, List.getElem?_cons_zero] at k0 k1
  clear hb hgk hgB HF
  go_wp2_with fail
  refine (HC0.out w1).mono ?_
  rintro e w2 ⟨⟨s0, a0, rfl, ha0⟩, rfl⟩
  have HA0 := Lib.hid ha0
  clear ha0
  go_wp2_with fail
  refine (HC1.out w1).mono ?_
  rintro e w2 ⟨⟨s1, a1, rfl, ha1⟩, rfl⟩
  have HA1 := Lib.hid ha1
  clear ha1 HC0 HC1
  rw [HG0.out, HG1.out]
  obtain ⟨hs, ha⟩ := HA0.out (by rw [HG0.out]; exact HZ.out)
  rw [HSN.out] at hs ha
  subst hs ha
  go_wp2_with fail
  have SR0 : Hid (Sr w1 (w1.alloc (.cells #[] 9)) (.slice (some ⟨w1.heap.size, 0, none⟩) 0 0) []) := Lib.hid ⟨⟨rfl, .inr ⟨w1.heap.size, 0, #[], rfl, Nat.zero_le _, Go.heap_alloc_new w1 _, Nat.le_refl _, by unfold maxLen; omega, rfl, rfl⟩⟩, by go_grown, fun k hk => by cases hk; exact Nat.le_refl _⟩
  clear k0 k1
  go_loopw [9, 14, 15, 16] (fun av rv sv ov wr => ∃ (p : Nat) (done : List Bs), av = .int .i64 (p : Int) ∧ p ≤ S.f0.length ∧ Sr w1 wr rv done ∧ R = (done ++ (recsOf (S.f0.drop p)).1, (recsOf (S.f0.drop p)).2)) (fun av _ _ _ _ => 1048577 - (intOf av).toNat)
  case atStart => exact ⟨20 + s0.length, [], by go_num, HRB.out.2, SR0.out, by rw [HRB.out.1]; rfl⟩
  case round =>
    clear SR0
    obtain ⟨p, done, rfl, hp, hsr, hrec⟩ := hrel
    have HS := Lib.hid hsr
    have HE := Lib.hid hrec
    have kk := (KG.out.below HS.out.2.1).cell 0
    simp only [List.getElem?_toArray, List.getElem?_cons_succ, List.getElem?_cons_zero] at kk
    have hpi : (p : Int) ≤ 1048576 := by have := HLE.out; omega
    clear hsr hrec
    go_wp2_with fail
    refine (HW.out p hp wr).mono ?_
    cases hu : unframed (S.f0.drop p) 65536 with
    | some x =>
      obtain ⟨rr, bb⟩ := x
      rintro e w3 ⟨rfl, rfl⟩
      have hrs := recsOf_some hu
      have hud := unframed_drop hu
      have hul := unframed_len hu
      rw [hrs] at HE
      rw [hud, List.drop_drop] at HE
      have hE2 : R = ((done ++ [rr]) ++ (recsOf (S.f0.drop (p + (8 + rr.length)))).1, (recsOf (S.f0.drop (p + (8 + rr.length)))).2) := by rw [HE.out]; simp
      have hdl : done.length + 1 ≤ 4194304 := by
        have h1 := HRL.out
        rw [hE2] at h1
        simp only [List.length_append, List.length_cons, List.length_nil] at h1
        omega
      simp only [List.length_drop] at hul
      have HUL := Lib.hid hul
      have hrl2 : (rr.length : Int) ≤ 65536 := by omega
      replace HE := Lib.hid hE2
      clear hu hrs hud hul hE2 kk
      go_wp2_with (at_builtin; refine wp_rec rfl _ _ rfl _ done wr.heap.size 1 rr rfl rfl (HS.out.down (by go_grown)) (Bk.new rfl) hdl ?_; intro v' w4 hs2; replace HS := Lib.hid hs2; clear hs2)
      go_roundw
      case rel => exact ⟨p + (8 + rr.length), done ++ [rr], by go_num, by have := HUL.out; omega, HS.out, HE.out⟩
      case measure => have := HUL.out; simp [intOf]; omega
    | none =>
      rintro e w3 ⟨⟨sx, rfl⟩, rfl⟩
      have hrn := recsOf_none hu
      rw [hrn] at HE
      obtain ⟨hR1, hR2⟩ : R.1 = done ∧ R.2.length = S.f0.length - p := ⟨by rw [HE.out]; simp, by rw [HE.out, List.length_drop]⟩
      have HR1 := Lib.hid hR1
      have htp : torn = S.f0.length - p := by rw [HTN.out]; exact hR2
      have hcp : (p : Int) = ((S.f0.length - torn : Nat) : Int) := by omega
      have hdt : decide ((p : Int) < (S.f0.length : Int)) = true := decide_eq_true (by omega)
      have hdtn : decide (p < S.f0.length) = true := decide_eq_true (by omega)
      have ko := (KG.out.below HS.out.2.1).cell 1
      simp only [List.getElem?_toArray, List.getElem?_cons_succ, List.getElem?_cons_zero] at ko
      have HCP := Lib.hid hcp
      clear hu hrn hR1 hR2 htp hcp HE
      have HB3 := Lib.hid (HB.out.trans (HS.out.2.1.mono HB.out.size))
      have hrg : Bk 61 wr r _ := H.out.blk.below HB3.out
      have hgn : g ≠ r := fun e => by
        have h1 := (KG.out.below HS.out.2.1)
        rw [e] at h1
        have h2 := h1.symm.trans hrg
        injection h2 with h3
        injection h3 with h4 h5
        exact absurd h5 (by decide)
      have hgr : Hid (g ≠ r ∧ r < w1.heap.size) := Lib.hid ⟨hgn, Nat.lt_of_lt_of_le H.out.blk.lt HB.out.size⟩
      clear hgn
      clear hrg
      have RM : Hid (Rm w r uv wr S) := Lib.hid (Rm.same H.out HB3.out)
      have KGW : Hid (Bk 9 wr g #[.string ⟨S.f0.toArray⟩, .string ⟨S.f1.toArray⟩]) := Lib.hid (KG.out.below HS.out.2.1)
      obtain ⟨ra, rc, hrv⟩ := HS.out.shape
      subst hrv
      have RW : Hid (wr.ownsRow 0 9 1 (.slice ra done.length rc) done.length (scells done)) := Lib.hid HS.out.1
      have RB : Hid (∀ k, (Value.slice ra done.length rc).ownBlock = some k → w1.heap.size ≤ k) := Lib.hid HS.out.2.2
      go_wp2_with fail
      rw [HCP.out]
      obtain ⟨uvx, kpx, rkx, ox, nx⟩ := RM.out
      refine (HCUT.out wr uvx kpx rkx).mono ?_
      rintro e w5 ⟨rfl, hm⟩
      have hon := hm.only
      have rm2 : Rm w r uv w5 S2 := by
        obtain ⟨uv4, kp4, k4, o4, n4⟩ := hm
        refine ⟨uv4, kp4, k4, ox.trans o4 (fun x hx => .inl hx), fun g e => ?_⟩
        rcases n4 g e with e | e
        · exact nx g e
        · exact .inr (Nat.le_trans ox.size e)
      replace RM := Lib.hid rm2
      replace KGW := Lib.hid (KGW.out.only hon (by simp [hgr.out.1]))
      replace RW := Lib.hid (ownsS_of RW.out fun k hk hl => hon.block k hl (by have := RB.out k hk; have := hgr.out.2; simp; omega))
      clear hm hon rm2 rkx ox nx HCUT
      clear ko
      have ko := KGW.out.cell 1
      simp only [List.getElem?_toArray, List.getElem?_cons_succ, List.getElem?_cons_zero] at ko
      go_wp2_with fail
      obtain ⟨uvx, kpx, rkx, ox, nx⟩ := RM.out
      refine (HCUT2.out w5 uvx kpx rkx).mono ?_
      rintro e w7 ⟨rfl, hm⟩
      have hon := hm.only
      have rm2 : Rm w r uv w7 S3 := by
        obtain ⟨uv4, kp4, k4, o4, n4⟩ := hm
        refine ⟨uv4, kp4, k4, ox.trans o4 (fun x hx => .inl hx), fun g e => ?_⟩
        rcases n4 g e with e | e
        · exact nx g e
        · exact .inr (Nat.le_trans ox.size e)
      replace RM := Lib.hid rm2
      replace KGW := Lib.hid (KGW.out.only hon (by simp [hgr.out.1]))
      replace RW := Lib.hid (ownsS_of RW.out fun k hk hl => hon.block k hl (by have := RB.out k hk; have := hgr.out.2; simp; omega))
      clear hm hon rm2 rkx ox nx HCUT2
      clear ko
      go_wp2_with fail
      have hbn : Below w7.heap.size w7 (w7.alloc (.cells (rlc r ⟨0, g0, done.length, false⟩) 102)) := by go_grown
      rw [show R.1.length = done.length by rw [HR1.out], HR1.out]
      refine ⟨rfl, .tuple #[.pointer (some ⟨w7.heap.size, 0, none⟩), .string ⟨s0.toArray⟩, .slice ra done.length rc, .int .i64 0], by simp [results, Tryd.results60, go_sem], ?_⟩
      exact ⟨_, _, rfl, RM.out.down hbn, ownsS_of RW.out fun k hk hl => hbn.block k hl, fun k hk => Nat.le_trans HB.out.size (RB.out k hk), fun _ => ⟨_, rfl, RM.out.only.size, Bk.new rfl⟩, fun h => absurd rfl h⟩
set_option maxHeartbeats 32000000 in
theorem ropen0_bothdies {w : World} {r : Nat} {S : St} {uv : Value} {kp : Int} (h : Rk w r S uv kp) (hg : S.gone = false) (hc : ¬ (begins S.f1).1 > (begins S.f0).1) (hz : ¬ (begins S.f0).1 = 0) (ht : (recsOf (begins S.f0).2.2).2.length > 0) (hc1 : (S.cut 0 ((S.f0.length - (recsOf (begins S.f0).2.2).2.length : Nat) : Int)).1 = 0) (ho : S.f1.length > 0) (hc2 : ((S.cut 0 ((S.f0.length - (recsOf (begins S.f0).2.2).2.length : Nat) : Int)).2.cut 1 0).1 = 2) : Calls Tryd.prog 60 #[.pointer (some ⟨r, 0, none⟩)] w fun e w' => ROes w r uv (2, (⟨0, 0, 0, false⟩, [], []), ((S.cut 0 ((S.f0.length - (recsOf (begins S.f0).2.2).2.length : Nat) : Int)).2.cut 1 0).2) e w' := by
  have c5 : w.cell? ⟨r, 5, none⟩ = some (.bool S.gone) := h.blk.cell 5
  rw [hg] at c5
  have H := Lib.hid h
  have hl0 := h.wf.l0
  have hl1 := h.wf.l1
  have HF := Lib.hid (files40 r S uv kp w h)
  have HC0 := Lib.hid (counts_any S.f0 hl0)
  have HC1 := Lib.hid (counts_any S.f1 hl1)
  obtain ⟨hbe, hbl⟩ := begins_behind hz
  obtain ⟨g0, hg0⟩ : ∃ n, n = (begins S.f0).1 := ⟨_, rfl⟩
  obtain ⟨g1, hg1⟩ : ∃ n, n = (begins S.f1).1 := ⟨_, rfl⟩
  have HG0 : Hid ((begins S.f0).1 = g0) := Lib.hid hg0.symm
  have HG1 : Hid ((begins S.f1).1 = g1) := Lib.hid hg1.symm
  rw [← hg0, ← hg1] at hc
  have hcm : decide ((g0 : Int) < (g1 : Int)) = false := decide_eq_false (by omega)
  have hcmn : decide (g0 < g1) = false := decide_eq_false (by omega)
  have HZ : Hid (g0 ≠ 0) := Lib.hid (by rw [hg0]; exact hz)
  have hz2 : ((g0 : Int) == 0) = false := by have := HZ.out; simp; omega
  have hz3 : decide (g0 = 0) = false := decide_eq_false HZ.out
  
  have HW := Lib.hid (fun p (hp : p ≤ S.f0.length) => whole_any S.f0 p 65536 hp hl0 (by omega))
  have HLE : Hid (S.f0.length ≤ 1048576) := Lib.hid hl0
  obtain ⟨sn, hsn⟩ : ∃ x, x = (begins S.f0).2.1 := ⟨_, rfl⟩
  obtain ⟨R, hR⟩ : ∃ x, x = recsOf (begins S.f0).2.2 := ⟨_, rfl⟩
  have HSN : Hid ((begins S.f0).2.1 = sn) := Lib.hid hsn.symm
  have HRB : Hid (R = recsOf (S.f0.drop (20 + sn.length)) ∧ 20 + sn.length ≤ S.f0.length) := Lib.hid (by rw [hR, hbe, hsn]; exact ⟨rfl, hbl⟩)
  have hrl : 8 * R.1.length + R.2.length ≤ 1048576 := by rw [hR]; exact Nat.le_trans (recs_len _ _ (Nat.le_refl _)) (Nat.le_trans (begins_le S.f0).2 hl0)
  rw [← hR] at ht hc1 hc2 
  rw [← hR]
  have HRL := Lib.hid hrl
  have HCUT : Hid (∀ (wx : World) (uvx : Value) (kpx : Int), Rk wx r S uvx kpx → Calls Tryd.prog 87 #[.pointer (some ⟨r, 0, none⟩), .int .i64 0, .int .i64 ((S.f0.length - R.2.length : Nat) : Int)] wx fun e w' => e = .returned (.int .i64 ((S.cut 0 ((S.f0.length - R.2.length : Nat) : Int)).1 : Int)) ∧ Rm wx r uvx w' (S.cut 0 ((S.f0.length - R.2.length : Nat) : Int)).2) := Lib.hid fun wx uvx kpx hk => cut35 r S uvx kpx 0 _ (by omega) (by omega) wx hk
  rw [hc1] at HCUT
  have HCUT2 : Hid (∀ (wx : World) (uvx : Value) (kpx : Int), Rk wx r ((S.cut 0 ((S.f0.length - R.2.length : Nat) : Int)).2) uvx kpx → Calls Tryd.prog 87 #[.pointer (some ⟨r, 0, none⟩), .int .i64 1, .int .i64 0] wx fun e w' => e = .returned (.int .i64 ((((S.cut 0 ((S.f0.length - R.2.length : Nat) : Int)).2).cut 1 0).1 : Int)) ∧ Rm wx r uvx w' (((S.cut 0 ((S.f0.length - R.2.length : Nat) : Int)).2).cut 1 0).2) := Lib.hid fun wx uvx kpx hk => cut35 r _ uvx kpx 1 0 (by omega) (by omega) wx hk
  rw [hc2] at HCUT2
  generalize (((S.cut 0 ((S.f0.length - R.2.length : Nat) : Int)).2).cut 1 0).2 = S3 at *
  generalize (S.cut 0 ((S.f0.length - R.2.length : Nat) : Int)).2 = S2 at *
  obtain ⟨torn, htn⟩ : ∃ n, n = R.2.length := ⟨_, rfl⟩
  have HTN := Lib.hid htn
  have htz : torn > 0 := by rw [htn]; exact ht
  rw [← htn] at HCUT
  have hdo : decide ((0 : Int) < (S.f1.length : Int)) = true := decide_eq_true (by omega)
  have hdon : decide (0 < S.f1.length) = true := decide_eq_true (by omega)
  clear h hc hg0 hg1 hl0 hl1 hz hbe hbl hsn hR hrl htn ht hc1 ho hc2
  go_enter Tryd.func60, Tryd.ntmps60
  go_wp2_with fail
  refine HF.out.mono ?_
  rintro e w1 ⟨⟨v, rfl, ht⟩, hb⟩
  obtain ⟨g, rfl, hgB, hgk⟩ := ht
  have HB := Lib.hid hb
  have KG := Lib.hid hgk
  have HG := Lib.hid hgB
  have k0 := hgk.cell 0
  have k1 := hgk.cell 1
  simp only [List.getElem?_toArray, List.getElem?_cons_succ, List.getElem?_cons_zero] at k0 k1
  clear hb hgk hgB HF
  go_wp2_with fail
  refine (HC0.out w1).mono ?_
  rintro e w2 ⟨⟨s0, a0, rfl, ha0⟩, rfl⟩
  have HA0 := Lib.hid ha0
  clear ha0
  go_wp2_with fail
  refine (HC1.out w1).mono ?_
  rintro e w2 ⟨⟨s1, a1, rfl, ha1⟩, rfl⟩
  have HA1 := Lib.hid ha1
  clear ha1 HC0 HC1
  rw [HG0.out, HG1.out]
  obtain ⟨hs, ha⟩ := HA0.out (by rw [HG0.out]; exact HZ.out)
  rw [HSN.out] at hs ha
  subst hs ha
  go_wp2_with fail
  have SR0 : Hid (Sr w1 (w1.alloc (.cells #[] 9)) (.slice (some ⟨w1.heap.size, 0, none⟩) 0 0) []) := Lib.hid ⟨⟨rfl, .inr ⟨w1.heap.size, 0, #[], rfl, Nat.zero_le _, Go.heap_alloc_new w1 _, Nat.le_refl _, by unfold maxLen; omega, rfl, rfl⟩⟩, by go_grown, fun k hk => by cases hk; exact Nat.le_refl _⟩
  clear k0 k1
  go_loopw [9, 14, 15, 16] (fun av rv sv ov wr => ∃ (p : Nat) (done : List Bs), av = .int .i64 (p : Int) ∧ p ≤ S.f0.length ∧ Sr w1 wr rv done ∧ R = (done ++ (recsOf (S.f0.drop p)).1, (recsOf (S.f0.drop p)).2)) (fun av _ _ _ _ => 1048577 - (intOf av).toNat)
  case atStart => exact ⟨20 + s0.length, [], by go_num, HRB.out.2, SR0.out, by rw [HRB.out.1]; rfl⟩
  case round =>
    clear SR0
    obtain ⟨p, done, rfl, hp, hsr, hrec⟩ := hrel
    have HS := Lib.hid hsr
    have HE := Lib.hid hrec
    have kk := (KG.out.below HS.out.2.1).cell 0
    simp only [List.getElem?_toArray, List.getElem?_cons_succ, List.getElem?_cons_zero] at kk
    have hpi : (p : Int) ≤ 1048576 := by have := HLE.out; omega
    clear hsr hrec
    go_wp2_with fail
    refine (HW.out p hp wr).mono ?_
    cases hu : unframed (S.f0.drop p) 65536 with
    | some x =>
      obtain ⟨rr, bb⟩ := x
      rintro e w3 ⟨rfl, rfl⟩
      have hrs := recsOf_some hu
      have hud := unframed_drop hu
      have hul := unframed_len hu
      rw [hrs] at HE
      rw [hud, List.drop_drop] at HE
      have hE2 : R = ((done ++ [rr]) ++ (recsOf (S.f0.drop (p + (8 + rr.length)))).1, (recsOf (S.f0.drop (p + (8 + rr.length)))).2) := by rw [HE.out]; simp
      have hdl : done.length + 1 ≤ 4194304 := by
        have h1 := HRL.out
        rw [hE2] at h1
        simp only [List.length_append, List.length_cons, List.length_nil] at h1
        omega
      simp only [List.length_drop] at hul
      have HUL := Lib.hid hul
      have hrl2 : (rr.length : Int) ≤ 65536 := by omega
      replace HE := Lib.hid hE2
      clear hu hrs hud hul hE2 kk
      go_wp2_with (at_builtin; refine wp_rec rfl _ _ rfl _ done wr.heap.size 1 rr rfl rfl (HS.out.down (by go_grown)) (Bk.new rfl) hdl ?_; intro v' w4 hs2; replace HS := Lib.hid hs2; clear hs2)
      go_roundw
      case rel => exact ⟨p + (8 + rr.length), done ++ [rr], by go_num, by have := HUL.out; omega, HS.out, HE.out⟩
      case measure => have := HUL.out; simp [intOf]; omega
    | none =>
      rintro e w3 ⟨⟨sx, rfl⟩, rfl⟩
      have hrn := recsOf_none hu
      rw [hrn] at HE
      obtain ⟨hR1, hR2⟩ : R.1 = done ∧ R.2.length = S.f0.length - p := ⟨by rw [HE.out]; simp, by rw [HE.out, List.length_drop]⟩
      have HR1 := Lib.hid hR1
      have htp : torn = S.f0.length - p := by rw [HTN.out]; exact hR2
      have hcp : (p : Int) = ((S.f0.length - torn : Nat) : Int) := by omega
      have hdt : decide ((p : Int) < (S.f0.length : Int)) = true := decide_eq_true (by omega)
      have hdtn : decide (p < S.f0.length) = true := decide_eq_true (by omega)
      have ko := (KG.out.below HS.out.2.1).cell 1
      simp only [List.getElem?_toArray, List.getElem?_cons_succ, List.getElem?_cons_zero] at ko
      have HCP := Lib.hid hcp
      clear hu hrn hR1 hR2 htp hcp HE
      have HB3 := Lib.hid (HB.out.trans (HS.out.2.1.mono HB.out.size))
      have hrg : Bk 61 wr r _ := H.out.blk.below HB3.out
      have hgn : g ≠ r := fun e => by
        have h1 := (KG.out.below HS.out.2.1)
        rw [e] at h1
        have h2 := h1.symm.trans hrg
        injection h2 with h3
        injection h3 with h4 h5
        exact absurd h5 (by decide)
      have hgr : Hid (g ≠ r ∧ r < w1.heap.size) := Lib.hid ⟨hgn, Nat.lt_of_lt_of_le H.out.blk.lt HB.out.size⟩
      clear hgn
      clear hrg
      have RM : Hid (Rm w r uv wr S) := Lib.hid (Rm.same H.out HB3.out)
      have KGW : Hid (Bk 9 wr g #[.string ⟨S.f0.toArray⟩, .string ⟨S.f1.toArray⟩]) := Lib.hid (KG.out.below HS.out.2.1)
      obtain ⟨ra, rc, hrv⟩ := HS.out.shape
      subst hrv
      have RW : Hid (wr.ownsRow 0 9 1 (.slice ra done.length rc) done.length (scells done)) := Lib.hid HS.out.1
      have RB : Hid (∀ k, (Value.slice ra done.length rc).ownBlock = some k → w1.heap.size ≤ k) := Lib.hid HS.out.2.2
      go_wp2_with fail
      rw [HCP.out]
      obtain ⟨uvx, kpx, rkx, ox, nx⟩ := RM.out
      refine (HCUT.out wr uvx kpx rkx).mono ?_
      rintro e w5 ⟨rfl, hm⟩
      have hon := hm.only
      have rm2 : Rm w r uv w5 S2 := by
        obtain ⟨uv4, kp4, k4, o4, n4⟩ := hm
        refine ⟨uv4, kp4, k4, ox.trans o4 (fun x hx => .inl hx), fun g e => ?_⟩
        rcases n4 g e with e | e
        · exact nx g e
        · exact .inr (Nat.le_trans ox.size e)
      replace RM := Lib.hid rm2
      replace KGW := Lib.hid (KGW.out.only hon (by simp [hgr.out.1]))
      replace RW := Lib.hid (ownsS_of RW.out fun k hk hl => hon.block k hl (by have := RB.out k hk; have := hgr.out.2; simp; omega))
      clear hm hon rm2 rkx ox nx HCUT
      clear ko
      have ko := KGW.out.cell 1
      simp only [List.getElem?_toArray, List.getElem?_cons_succ, List.getElem?_cons_zero] at ko
      go_wp2_with fail
      obtain ⟨uvx, kpx, rkx, ox, nx⟩ := RM.out
      refine (HCUT2.out w5 uvx kpx rkx).mono ?_
      rintro e w7 ⟨rfl, hm⟩
      have hon := hm.only
      have rm2 : Rm w r uv w7 S3 := by
        obtain ⟨uv4, kp4, k4, o4, n4⟩ := hm
        refine ⟨uv4, kp4, k4, ox.trans o4 (fun x hx => .inl hx), fun g e => ?_⟩
        rcases n4 g e with e | e
        · exact nx g e
        · exact .inr (Nat.le_trans ox.size e)
      replace RM := Lib.hid rm2
      replace KGW := Lib.hid (KGW.out.only hon (by simp [hgr.out.1]))
      replace RW := Lib.hid (ownsS_of RW.out fun k hk hl => hon.block k hl (by have := RB.out k hk; have := hgr.out.2; simp; omega))
      clear hm hon rm2 rkx ox nx HCUT2
      clear ko
      go_wp2_with fail
      refine ⟨rfl, .tuple #[.pointer none, .string ⟨#[]⟩, .slice none 0 0, .int .i64 2], by simp [results, Tryd.results60, go_sem], ?_⟩
      exact ⟨_, _, rfl, RM.out, owns_nil9 _, (fun k hk => by cases hk), (fun h => absurd h (by simp)), fun _ => rfl⟩
set_option maxHeartbeats 32000000 in
theorem ropen0_torndies {w : World} {r : Nat} {S : St} {uv : Value} {kp : Int} (h : Rk w r S uv kp) (hg : S.gone = false) (hc : ¬ (begins S.f1).1 > (begins S.f0).1) (hz : ¬ (begins S.f0).1 = 0) (ht : (recsOf (begins S.f0).2.2).2.length > 0) (hc1 : (S.cut 0 ((S.f0.length - (recsOf (begins S.f0).2.2).2.length : Nat) : Int)).1 = 2) : Calls Tryd.prog 60 #[.pointer (some ⟨r, 0, none⟩)] w fun e w' => ROes w r uv (2, (⟨0, 0, 0, false⟩, [], []), (S.cut 0 ((S.f0.length - (recsOf (begins S.f0).2.2).2.length : Nat) : Int)).2) e w' := by
  have c5 : w.cell? ⟨r, 5, none⟩ = some (.bool S.gone) := h.blk.cell 5
  rw [hg] at c5
  have H := Lib.hid h
  have hl0 := h.wf.l0
  have hl1 := h.wf.l1
  have HF := Lib.hid (files40 r S uv kp w h)
  have HC0 := Lib.hid (counts_any S.f0 hl0)
  have HC1 := Lib.hid (counts_any S.f1 hl1)
  obtain ⟨hbe, hbl⟩ := begins_behind hz
  obtain ⟨g0, hg0⟩ : ∃ n, n = (begins S.f0).1 := ⟨_, rfl⟩
  obtain ⟨g1, hg1⟩ : ∃ n, n = (begins S.f1).1 := ⟨_, rfl⟩
  have HG0 : Hid ((begins S.f0).1 = g0) := Lib.hid hg0.symm
  have HG1 : Hid ((begins S.f1).1 = g1) := Lib.hid hg1.symm
  rw [← hg0, ← hg1] at hc
  have hcm : decide ((g0 : Int) < (g1 : Int)) = false := decide_eq_false (by omega)
  have hcmn : decide (g0 < g1) = false := decide_eq_false (by omega)
  have HZ : Hid (g0 ≠ 0) := Lib.hid (by rw [hg0]; exact hz)
  have hz2 : ((g0 : Int) == 0) = false := by have := HZ.out; simp; omega
  have hz3 : decide (g0 = 0) = false := decide_eq_false HZ.out
  
  have HW := Lib.hid (fun p (hp : p ≤ S.f0.length) => whole_any S.f0 p 65536 hp hl0 (by omega))
  have HLE : Hid (S.f0.length ≤ 1048576) := Lib.hid hl0
  obtain ⟨sn, hsn⟩ : ∃ x, x = (begins S.f0).2.1 := ⟨_, rfl⟩
  obtain ⟨R, hR⟩ : ∃ x, x = recsOf (begins S.f0).2.2 := ⟨_, rfl⟩
  have HSN : Hid ((begins S.f0).2.1 = sn) := Lib.hid hsn.symm
  have HRB : Hid (R = recsOf (S.f0.drop (20 + sn.length)) ∧ 20 + sn.length ≤ S.f0.length) := Lib.hid (by rw [hR, hbe, hsn]; exact ⟨rfl, hbl⟩)
  have hrl : 8 * R.1.length + R.2.length ≤ 1048576 := by rw [hR]; exact Nat.le_trans (recs_len _ _ (Nat.le_refl _)) (Nat.le_trans (begins_le S.f0).2 hl0)
  rw [← hR] at ht hc1 
  rw [← hR]
  have HRL := Lib.hid hrl
  have HCUT : Hid (∀ (wx : World) (uvx : Value) (kpx : Int), Rk wx r S uvx kpx → Calls Tryd.prog 87 #[.pointer (some ⟨r, 0, none⟩), .int .i64 0, .int .i64 ((S.f0.length - R.2.length : Nat) : Int)] wx fun e w' => e = .returned (.int .i64 ((S.cut 0 ((S.f0.length - R.2.length : Nat) : Int)).1 : Int)) ∧ Rm wx r uvx w' (S.cut 0 ((S.f0.length - R.2.length : Nat) : Int)).2) := Lib.hid fun wx uvx kpx hk => cut35 r S uvx kpx 0 _ (by omega) (by omega) wx hk
  rw [hc1] at HCUT
  generalize (S.cut 0 ((S.f0.length - R.2.length : Nat) : Int)).2 = S2 at *
  obtain ⟨torn, htn⟩ : ∃ n, n = R.2.length := ⟨_, rfl⟩
  have HTN := Lib.hid htn
  have htz : torn > 0 := by rw [htn]; exact ht
  rw [← htn] at HCUT
  clear h hc hg0 hg1 hl0 hl1 hz hbe hbl hsn hR hrl htn ht hc1
  go_enter Tryd.func60, Tryd.ntmps60
  go_wp2_with fail
  refine HF.out.mono ?_
  rintro e w1 ⟨⟨v, rfl, ht⟩, hb⟩
  obtain ⟨g, rfl, hgB, hgk⟩ := ht
  have HB := Lib.hid hb
  have KG := Lib.hid hgk
  have HG := Lib.hid hgB
  have k0 := hgk.cell 0
  have k1 := hgk.cell 1
  simp only [List.getElem?_toArray, List.getElem?_cons_succ, List.getElem?_cons_zero] at k0 k1
  clear hb hgk hgB HF
  go_wp2_with fail
  refine (HC0.out w1).mono ?_
  rintro e w2 ⟨⟨s0, a0, rfl, ha0⟩, rfl⟩
  have HA0 := Lib.hid ha0
  clear ha0
  go_wp2_with fail
  refine (HC1.out w1).mono ?_
  rintro e w2 ⟨⟨s1, a1, rfl, ha1⟩, rfl⟩
  have HA1 := Lib.hid ha1
  clear ha1 HC0 HC1
  rw [HG0.out, HG1.out]
  obtain ⟨hs, ha⟩ := HA0.out (by rw [HG0.out]; exact HZ.out)
  rw [HSN.out] at hs ha
  subst hs ha
  go_wp2_with fail
  have SR0 : Hid (Sr w1 (w1.alloc (.cells #[] 9)) (.slice (some ⟨w1.heap.size, 0, none⟩) 0 0) []) := Lib.hid ⟨⟨rfl, .inr ⟨w1.heap.size, 0, #[], rfl, Nat.zero_le _, Go.heap_alloc_new w1 _, Nat.le_refl _, by unfold maxLen; omega, rfl, rfl⟩⟩, by go_grown, fun k hk => by cases hk; exact Nat.le_refl _⟩
  clear k0 k1
  go_loopw [9, 14, 15, 16] (fun av rv sv ov wr => ∃ (p : Nat) (done : List Bs), av = .int .i64 (p : Int) ∧ p ≤ S.f0.length ∧ Sr w1 wr rv done ∧ R = (done ++ (recsOf (S.f0.drop p)).1, (recsOf (S.f0.drop p)).2)) (fun av _ _ _ _ => 1048577 - (intOf av).toNat)
  case atStart => exact ⟨20 + s0.length, [], by go_num, HRB.out.2, SR0.out, by rw [HRB.out.1]; rfl⟩
  case round =>
    clear SR0
    obtain ⟨p, done, rfl, hp, hsr, hrec⟩ := hrel
    have HS := Lib.hid hsr
    have HE := Lib.hid hrec
    have kk := (KG.out.below HS.out.2.1).cell 0
    simp only [List.getElem?_toArray, List.getElem?_cons_succ, List.getElem?_cons_zero] at kk
    have hpi : (p : Int) ≤ 1048576 := by have := HLE.out; omega
    clear hsr hrec
    go_wp2_with fail
    refine (HW.out p hp wr).mono ?_
    cases hu : unframed (S.f0.drop p) 65536 with
    | some x =>
      obtain ⟨rr, bb⟩ := x
      rintro e w3 ⟨rfl, rfl⟩
      have hrs := recsOf_some hu
      have hud := unframed_drop hu
      have hul := unframed_len hu
      rw [hrs] at HE
      rw [hud, List.drop_drop] at HE
      have hE2 : R = ((done ++ [rr]) ++ (recsOf (S.f0.drop (p + (8 + rr.length)))).1, (recsOf (S.f0.drop (p + (8 + rr.length)))).2) := by rw [HE.out]; simp
      have hdl : done.length + 1 ≤ 4194304 := by
        have h1 := HRL.out
        rw [hE2] at h1
        simp only [List.length_append, List.length_cons, List.length_nil] at h1
        omega
      simp only [List.length_drop] at hul
      have HUL := Lib.hid hul
      have hrl2 : (rr.length : Int) ≤ 65536 := by omega
      replace HE := Lib.hid hE2
      clear hu hrs hud hul hE2 kk
      go_wp2_with (at_builtin; refine wp_rec rfl _ _ rfl _ done wr.heap.size 1 rr rfl rfl (HS.out.down (by go_grown)) (Bk.new rfl) hdl ?_; intro v' w4 hs2; replace HS := Lib.hid hs2; clear hs2)
      go_roundw
      case rel => exact ⟨p + (8 + rr.length), done ++ [rr], by go_num, by have := HUL.out; omega, HS.out, HE.out⟩
      case measure => have := HUL.out; simp [intOf]; omega
    | none =>
      rintro e w3 ⟨⟨sx, rfl⟩, rfl⟩
      have hrn := recsOf_none hu
      rw [hrn] at HE
      obtain ⟨hR1, hR2⟩ : R.1 = done ∧ R.2.length = S.f0.length - p := ⟨by rw [HE.out]; simp, by rw [HE.out, List.length_drop]⟩
      have HR1 := Lib.hid hR1
      have htp : torn = S.f0.length - p := by rw [HTN.out]; exact hR2
      have hcp : (p : Int) = ((S.f0.length - torn : Nat) : Int) := by omega
      have hdt : decide ((p : Int) < (S.f0.length : Int)) = true := decide_eq_true (by omega)
      have hdtn : decide (p < S.f0.length) = true := decide_eq_true (by omega)
      have ko := (KG.out.below HS.out.2.1).cell 1
      simp only [List.getElem?_toArray, List.getElem?_cons_succ, List.getElem?_cons_zero] at ko
      have HCP := Lib.hid hcp
      clear hu hrn hR1 hR2 htp hcp HE
      have HB3 := Lib.hid (HB.out.trans (HS.out.2.1.mono HB.out.size))
      have hrg : Bk 61 wr r _ := H.out.blk.below HB3.out
      have hgn : g ≠ r := fun e => by
        have h1 := (KG.out.below HS.out.2.1)
        rw [e] at h1
        have h2 := h1.symm.trans hrg
        injection h2 with h3
        injection h3 with h4 h5
        exact absurd h5 (by decide)
      have hgr : Hid (g ≠ r ∧ r < w1.heap.size) := Lib.hid ⟨hgn, Nat.lt_of_lt_of_le H.out.blk.lt HB.out.size⟩
      clear hgn
      clear hrg
      have RM : Hid (Rm w r uv wr S) := Lib.hid (Rm.same H.out HB3.out)
      have KGW : Hid (Bk 9 wr g #[.string ⟨S.f0.toArray⟩, .string ⟨S.f1.toArray⟩]) := Lib.hid (KG.out.below HS.out.2.1)
      obtain ⟨ra, rc, hrv⟩ := HS.out.shape
      subst hrv
      have RW : Hid (wr.ownsRow 0 9 1 (.slice ra done.length rc) done.length (scells done)) := Lib.hid HS.out.1
      have RB : Hid (∀ k, (Value.slice ra done.length rc).ownBlock = some k → w1.heap.size ≤ k) := Lib.hid HS.out.2.2
      go_wp2_with fail
      rw [HCP.out]
      obtain ⟨uvx, kpx, rkx, ox, nx⟩ := RM.out
      refine (HCUT.out wr uvx kpx rkx).mono ?_
      rintro e w5 ⟨rfl, hm⟩
      have hon := hm.only
      have rm2 : Rm w r uv w5 S2 := by
        obtain ⟨uv4, kp4, k4, o4, n4⟩ := hm
        refine ⟨uv4, kp4, k4, ox.trans o4 (fun x hx => .inl hx), fun g e => ?_⟩
        rcases n4 g e with e | e
        · exact nx g e
        · exact .inr (Nat.le_trans ox.size e)
      replace RM := Lib.hid rm2
      replace KGW := Lib.hid (KGW.out.only hon (by simp [hgr.out.1]))
      replace RW := Lib.hid (ownsS_of RW.out fun k hk hl => hon.block k hl (by have := RB.out k hk; have := hgr.out.2; simp; omega))
      clear hm hon rm2 rkx ox nx HCUT
      go_wp2_with fail
      refine ⟨rfl, .tuple #[.pointer none, .string ⟨#[]⟩, .slice none 0 0, .int .i64 2], by simp [results, Tryd.results60, go_sem], ?_⟩
      exact ⟨_, _, rfl, RM.out, owns_nil9 _, (fun k hk => by cases hk), (fun h => absurd h (by simp)), fun _ => rfl⟩
set_option maxHeartbeats 32000000 in
theorem ropen1_plain {w : World} {r : Nat} {S : St} {uv : Value} {kp : Int} (h : Rk w r S uv kp) (hg : S.gone = false) (hc : (begins S.f1).1 > (begins S.f0).1) (hz : ¬ (begins S.f1).1 = 0) (ht : (recsOf (begins S.f1).2.2).2.length = 0) (ho : S.f0.length = 0) : Calls Tryd.prog 60 #[.pointer (some ⟨r, 0, none⟩)] w fun e w' => ROes w r uv (0, (⟨1, (begins S.f1).1, (recsOf (begins S.f1).2.2).1.length, false⟩, (begins S.f1).2.1, (recsOf (begins S.f1).2.2).1), S) e w' := by
  have c5 : w.cell? ⟨r, 5, none⟩ = some (.bool S.gone) := h.blk.cell 5
  rw [hg] at c5
  have H := Lib.hid h
  have hl0 := h.wf.l0
  have hl1 := h.wf.l1
  have HF := Lib.hid (files40 r S uv kp w h)
  have HC0 := Lib.hid (counts_any S.f0 hl0)
  have HC1 := Lib.hid (counts_any S.f1 hl1)
  obtain ⟨hbe, hbl⟩ := begins_behind hz
  obtain ⟨g0, hg0⟩ : ∃ n, n = (begins S.f0).1 := ⟨_, rfl⟩
  obtain ⟨g1, hg1⟩ : ∃ n, n = (begins S.f1).1 := ⟨_, rfl⟩
  have HG0 : Hid ((begins S.f0).1 = g0) := Lib.hid hg0.symm
  have HG1 : Hid ((begins S.f1).1 = g1) := Lib.hid hg1.symm
  rw [← hg0, ← hg1] at hc
  have hcm : decide ((g0 : Int) < (g1 : Int)) = true := decide_eq_true (by omega)
  have hcmn : decide (g0 < g1) = true := decide_eq_true (by omega)
  have HZ : Hid (g1 ≠ 0) := Lib.hid (by rw [hg1]; exact hz)
  have hz2 : ((g1 : Int) == 0) = false := by have := HZ.out; simp; omega
  have hz3 : decide (g1 = 0) = false := decide_eq_false HZ.out
  rw [← hg1]
  have HW := Lib.hid (fun p (hp : p ≤ S.f1.length) => whole_any S.f1 p 65536 hp hl1 (by omega))
  have HLE : Hid (S.f1.length ≤ 1048576) := Lib.hid hl1
  obtain ⟨sn, hsn⟩ : ∃ x, x = (begins S.f1).2.1 := ⟨_, rfl⟩
  obtain ⟨R, hR⟩ : ∃ x, x = recsOf (begins S.f1).2.2 := ⟨_, rfl⟩
  have HSN : Hid ((begins S.f1).2.1 = sn) := Lib.hid hsn.symm
  have HRB : Hid (R = recsOf (S.f1.drop (20 + sn.length)) ∧ 20 + sn.length ≤ S.f1.length) := Lib.hid (by rw [hR, hbe, hsn]; exact ⟨rfl, hbl⟩)
  have hrl : 8 * R.1.length + R.2.length ≤ 1048576 := by rw [hR]; exact Nat.le_trans (recs_len _ _ (Nat.le_refl _)) (Nat.le_trans (begins_le S.f1).2 hl1)
  rw [← hR] at ht 
  rw [← hR, ← hsn]
  have HRL := Lib.hid hrl
  obtain ⟨torn, htn⟩ : ∃ n, n = R.2.length := ⟨_, rfl⟩
  have HTN := Lib.hid htn
  have htz : torn = 0 := by rw [htn]; exact ht
  have hdo : decide ((0 : Int) < (S.f0.length : Int)) = false := decide_eq_false (by omega)
  have hdon : decide (0 < S.f0.length) = false := decide_eq_false (by omega)
  clear h hc hg0 hg1 hl0 hl1 hz hbe hbl hsn hR hrl htn ht ho
  go_enter Tryd.func60, Tryd.ntmps60
  go_wp2_with fail
  refine HF.out.mono ?_
  rintro e w1 ⟨⟨v, rfl, ht⟩, hb⟩
  obtain ⟨g, rfl, hgB, hgk⟩ := ht
  have HB := Lib.hid hb
  have KG := Lib.hid hgk
  have HG := Lib.hid hgB
  have k0 := hgk.cell 0
  have k1 := hgk.cell 1
  simp only [List.getElem?_toArray, List.getElem?_cons_succ, List.getElem?_cons_zero] at k0 k1
  clear hb hgk hgB HF
  go_wp2_with fail
  refine (HC0.out w1).mono ?_
  rintro e w2 ⟨⟨s0, a0, rfl, ha0⟩, rfl⟩
  have HA0 := Lib.hid ha0
  clear ha0
  go_wp2_with fail
  refine (HC1.out w1).mono ?_
  rintro e w2 ⟨⟨s1, a1, rfl, ha1⟩, rfl⟩
  have HA1 := Lib.hid ha1
  clear ha1 HC0 HC1
  rw [HG0.out, HG1.out]
  obtain ⟨hs, ha⟩ := HA1.out (by rw [HG1.out]; exact HZ.out)
  rw [HSN.out] at hs ha
  subst hs ha
  go_wp2_with fail
  have SR0 : Hid (Sr w1 (w1.alloc (.cells #[] 9)) (.slice (some ⟨w1.heap.size, 0, none⟩) 0 0) []) := Lib.hid ⟨⟨rfl, .inr ⟨w1.heap.size, 0, #[], rfl, Nat.zero_le _, Go.heap_alloc_new w1 _, Nat.le_refl _, by unfold maxLen; omega, rfl, rfl⟩⟩, by go_grown, fun k hk => by cases hk; exact Nat.le_refl _⟩
  clear k0 k1
  go_loopw [9, 14, 15, 16] (fun av rv sv ov wr => ∃ (p : Nat) (done : List Bs), av = .int .i64 (p : Int) ∧ p ≤ S.f1.length ∧ Sr w1 wr rv done ∧ R = (done ++ (recsOf (S.f1.drop p)).1, (recsOf (S.f1.drop p)).2)) (fun av _ _ _ _ => 1048577 - (intOf av).toNat)
  case atStart => exact ⟨20 + s1.length, [], by go_num, HRB.out.2, SR0.out, by rw [HRB.out.1]; rfl⟩
  case round =>
    clear SR0
    obtain ⟨p, done, rfl, hp, hsr, hrec⟩ := hrel
    have HS := Lib.hid hsr
    have HE := Lib.hid hrec
    have kk := (KG.out.below HS.out.2.1).cell 1
    simp only [List.getElem?_toArray, List.getElem?_cons_succ, List.getElem?_cons_zero] at kk
    have hpi : (p : Int) ≤ 1048576 := by have := HLE.out; omega
    clear hsr hrec
    go_wp2_with fail
    refine (HW.out p hp wr).mono ?_
    cases hu : unframed (S.f1.drop p) 65536 with
    | some x =>
      obtain ⟨rr, bb⟩ := x
      rintro e w3 ⟨rfl, rfl⟩
      have hrs := recsOf_some hu
      have hud := unframed_drop hu
      have hul := unframed_len hu
      rw [hrs] at HE
      rw [hud, List.drop_drop] at HE
      have hE2 : R = ((done ++ [rr]) ++ (recsOf (S.f1.drop (p + (8 + rr.length)))).1, (recsOf (S.f1.drop (p + (8 + rr.length)))).2) := by rw [HE.out]; simp
      have hdl : done.length + 1 ≤ 4194304 := by
        have h1 := HRL.out
        rw [hE2] at h1
        simp only [List.length_append, List.length_cons, List.length_nil] at h1
        omega
      simp only [List.length_drop] at hul
      have HUL := Lib.hid hul
      have hrl2 : (rr.length : Int) ≤ 65536 := by omega
      replace HE := Lib.hid hE2
      clear hu hrs hud hul hE2 kk
      go_wp2_with (at_builtin; refine wp_rec rfl _ _ rfl _ done wr.heap.size 1 rr rfl rfl (HS.out.down (by go_grown)) (Bk.new rfl) hdl ?_; intro v' w4 hs2; replace HS := Lib.hid hs2; clear hs2)
      go_roundw
      case rel => exact ⟨p + (8 + rr.length), done ++ [rr], by go_num, by have := HUL.out; omega, HS.out, HE.out⟩
      case measure => have := HUL.out; simp [intOf]; omega
    | none =>
      rintro e w3 ⟨⟨sx, rfl⟩, rfl⟩
      have hrn := recsOf_none hu
      rw [hrn] at HE
      obtain ⟨hR1, hR2⟩ : R.1 = done ∧ R.2.length = S.f1.length - p := ⟨by rw [HE.out]; simp, by rw [HE.out, List.length_drop]⟩
      have HR1 := Lib.hid hR1
      have htp : torn = S.f1.length - p := by rw [HTN.out]; exact hR2
      have hcp : (p : Int) = ((S.f1.length - torn : Nat) : Int) := by omega
      have hdt : decide ((p : Int) < (S.f1.length : Int)) = false := decide_eq_false (by omega)
      have hdtn : decide (p < S.f1.length) = false := decide_eq_false (by omega)
      have ko := (KG.out.below HS.out.2.1).cell 0
      simp only [List.getElem?_toArray, List.getElem?_cons_succ, List.getElem?_cons_zero] at ko
      have HCP := Lib.hid hcp
      clear hu hrn hR1 hR2 htp hcp HE
      have HB3 := Lib.hid (HB.out.trans (HS.out.2.1.mono HB.out.size))
      have hrg : Bk 61 wr r _ := H.out.blk.below HB3.out
      have hgn : g ≠ r := fun e => by
        have h1 := (KG.out.below HS.out.2.1)
        rw [e] at h1
        have h2 := h1.symm.trans hrg
        injection h2 with h3
        injection h3 with h4 h5
        exact absurd h5 (by decide)
      have hgr : Hid (g ≠ r ∧ r < w1.heap.size) := Lib.hid ⟨hgn, Nat.lt_of_lt_of_le H.out.blk.lt HB.out.size⟩
      clear hgn
      clear hrg
      have RM : Hid (Rm w r uv wr S) := Lib.hid (Rm.same H.out HB3.out)
      have KGW : Hid (Bk 9 wr g #[.string ⟨S.f0.toArray⟩, .string ⟨S.f1.toArray⟩]) := Lib.hid (KG.out.below HS.out.2.1)
      obtain ⟨ra, rc, hrv⟩ := HS.out.shape
      subst hrv
      have RW : Hid (wr.ownsRow 0 9 1 (.slice ra done.length rc) done.length (scells done)) := Lib.hid HS.out.1
      have RB : Hid (∀ k, (Value.slice ra done.length rc).ownBlock = some k → w1.heap.size ≤ k) := Lib.hid HS.out.2.2
      go_wp2_with fail
      have hbn : Below wr.heap.size wr (wr.alloc (.cells (rlc r ⟨1, g1, done.length, false⟩) 102)) := by go_grown
      rw [show R.1.length = done.length by rw [HR1.out], HR1.out]
      refine ⟨rfl, .tuple #[.pointer (some ⟨wr.heap.size, 0, none⟩), .string ⟨s1.toArray⟩, .slice ra done.length rc, .int .i64 0], by simp [results, Tryd.results60, go_sem], ?_⟩
      exact ⟨_, _, rfl, RM.out.down hbn, ownsS_of RW.out fun k hk hl => hbn.block k hl, fun k hk => Nat.le_trans HB.out.size (RB.out k hk), fun _ => ⟨_, rfl, RM.out.only.size, Bk.new rfl⟩, fun h => absurd rfl h⟩
set_option maxHeartbeats 32000000 in
theorem ropen1_other {w : World} {r : Nat} {S : St} {uv : Value} {kp : Int} (h : Rk w r S uv kp) (hg : S.gone = false) (hc : (begins S.f1).1 > (begins S.f0).1) (hz : ¬ (begins S.f1).1 = 0) (ht : (recsOf (begins S.f1).2.2).2.length = 0) (ho : S.f0.length > 0) (hc2 : (S.cut 0 0).1 = 0) : Calls Tryd.prog 60 #[.pointer (some ⟨r, 0, none⟩)] w fun e w' => ROes w r uv (0, (⟨1, (begins S.f1).1, (recsOf (begins S.f1).2.2).1.length, false⟩, (begins S.f1).2.1, (recsOf (begins S.f1).2.2).1), (S.cut 0 0).2) e w' := by
  have c5 : w.cell? ⟨r, 5, none⟩ = some (.bool S.gone) := h.blk.cell 5
  rw [hg] at c5
  have H := Lib.hid h
  have hl0 := h.wf.l0
  have hl1 := h.wf.l1
  have HF := Lib.hid (files40 r S uv kp w h)
  have HC0 := Lib.hid (counts_any S.f0 hl0)
  have HC1 := Lib.hid (counts_any S.f1 hl1)
  obtain ⟨hbe, hbl⟩ := begins_behind hz
  obtain ⟨g0, hg0⟩ : ∃ n, n = (begins S.f0).1 := ⟨_, rfl⟩
  obtain ⟨g1, hg1⟩ : ∃ n, n = (begins S.f1).1 := ⟨_, rfl⟩
  have HG0 : Hid ((begins S.f0).1 = g0) := Lib.hid hg0.symm
  have HG1 : Hid ((begins S.f1).1 = g1) := Lib.hid hg1.symm
  rw [← hg0, ← hg1] at hc
  have hcm : decide ((g0 : Int) < (g1 : Int)) = true := decide_eq_true (by omega)
  have hcmn : decide (g0 < g1) = true := decide_eq_true (by omega)
  have HZ : Hid (g1 ≠ 0) := Lib.hid (by rw [hg1]; exact hz)
  have hz2 : ((g1 : Int) == 0) = false := by have := HZ.out; simp; omega
  have hz3 : decide (g1 = 0) = false := decide_eq_false HZ.out
  rw [← hg1]
  have HW := Lib.hid (fun p (hp : p ≤ S.f1.length) => whole_any S.f1 p 65536 hp hl1 (by omega))
  have HLE : Hid (S.f1.length ≤ 1048576) := Lib.hid hl1
  obtain ⟨sn, hsn⟩ : ∃ x, x = (begins S.f1).2.1 := ⟨_, rfl⟩
  obtain ⟨R, hR⟩ : ∃ x, x = recsOf (begins S.f1).2.2 := ⟨_, rfl⟩
  have HSN : Hid ((begins S.f1).2.1 = sn) := Lib.hid hsn.symm
  have HRB : Hid (R = recsOf (S.f1.drop (20 + sn.length)) ∧ 20 + sn.length ≤ S.f1.length) := Lib.hid (by rw [hR, hbe, hsn]; exact ⟨rfl, hbl⟩)
  have hrl : 8 * R.1.length + R.2.length ≤ 1048576 := by rw [hR]; exact Nat.le_trans (recs_len _ _ (Nat.le_refl _)) (Nat.le_trans (begins_le S.f1).2 hl1)
  rw [← hR] at ht 
  rw [← hR, ← hsn]
  have HRL := Lib.hid hrl
  have HCUT2 : Hid (∀ (wx : World) (uvx : Value) (kpx : Int), Rk wx r (S) uvx kpx → Calls Tryd.prog 87 #[.pointer (some ⟨r, 0, none⟩), .int .i64 0, .int .i64 0] wx fun e w' => e = .returned (.int .i64 (((S).cut 0 0).1 : Int)) ∧ Rm wx r uvx w' ((S).cut 0 0).2) := Lib.hid fun wx uvx kpx hk => cut35 r _ uvx kpx 0 0 (by omega) (by omega) wx hk
  rw [hc2] at HCUT2
  generalize ((S).cut 0 0).2 = S3 at *
  obtain ⟨torn, htn⟩ : ∃ n, n = R.2.length := ⟨_, rfl⟩
  have HTN := Lib.hid htn
  have htz : torn = 0 := by rw [htn]; exact ht
  have hdo : decide ((0 : Int) < (S.f0.length : Int)) = true := decide_eq_true (by omega)
  have hdon : decide (0 < S.f0.length) = true := decide_eq_true (by omega)
  clear h hc hg0 hg1 hl0 hl1 hz hbe hbl hsn hR hrl htn ht ho hc2
  go_enter Tryd.func60, Tryd.ntmps60
  go_wp2_with fail
  refine HF.out.mono ?_
  rintro e w1 ⟨⟨v, rfl, ht⟩, hb⟩
  obtain ⟨g, rfl, hgB, hgk⟩ := ht
  have HB := Lib.hid hb
  have KG := Lib.hid hgk
  have HG := Lib.hid hgB
  have k0 := hgk.cell 0
  have k1 := hgk.cell 1
  simp only [List.getElem?_toArray, List.getElem?_cons_succ, List.getElem?_cons_zero] at k0 k1
  clear hb hgk hgB HF
  go_wp2_with fail
  refine (HC0.out w1).mono ?_
  rintro e w2 ⟨⟨s0, a0, rfl, ha0⟩, rfl⟩
  have HA0 := Lib.hid ha0
  clear ha0
  go_wp2_with fail
  refine (HC1.out w1).mono ?_
  rintro e w2 ⟨⟨s1, a1, rfl, ha1⟩, rfl⟩
  have HA1 := Lib.hid ha1
  clear ha1 HC0 HC1
  rw [HG0.out, HG1.out]
  obtain ⟨hs, ha⟩ := HA1.out (by rw [HG1.out]; exact HZ.out)
  rw [HSN.out] at hs ha
  subst hs ha
  go_wp2_with fail
  have SR0 : Hid (Sr w1 (w1.alloc (.cells #[] 9)) (.slice (some ⟨w1.heap.size, 0, none⟩) 0 0) []) := Lib.hid ⟨⟨rfl, .inr ⟨w1.heap.size, 0, #[], rfl, Nat.zero_le _, Go.heap_alloc_new w1 _, Nat.le_refl _, by unfold maxLen; omega, rfl, rfl⟩⟩, by go_grown, fun k hk => by cases hk; exact Nat.le_refl _⟩
  clear k0 k1
  go_loopw [9, 14, 15, 16] (fun av rv sv ov wr => ∃ (p : Nat) (done : List Bs), av = .int .i64 (p : Int) ∧ p ≤ S.f1.length ∧ Sr w1 wr rv done ∧ R = (done ++ (recsOf (S.f1.drop p)).1, (recsOf (S.f1.drop p)).2)) (fun av _ _ _ _ => 1048577 - (intOf av).toNat)
  case atStart => exact ⟨20 + s1.length, [], by go_num, HRB.out.2, SR0.out, by rw [HRB.out.1]; rfl⟩
  case round =>
    clear SR0
    obtain ⟨p, done, rfl, hp, hsr, hrec⟩ := hrel
    have HS := Lib.hid hsr
    have HE := Lib.hid hrec
    have kk := (KG.out.below HS.out.2.1).cell 1
    simp only [List.getElem?_toArray, List.getElem?_cons_succ, List.getElem?_cons_zero] at kk
    have hpi : (p : Int) ≤ 1048576 := by have := HLE.out; omega
    clear hsr hrec
    go_wp2_with fail
    refine (HW.out p hp wr).mono ?_
    cases hu : unframed (S.f1.drop p) 65536 with
    | some x =>
      obtain ⟨rr, bb⟩ := x
      rintro e w3 ⟨rfl, rfl⟩
      have hrs := recsOf_some hu
      have hud := unframed_drop hu
      have hul := unframed_len hu
      rw [hrs] at HE
      rw [hud, List.drop_drop] at HE
      have hE2 : R = ((done ++ [rr]) ++ (recsOf (S.f1.drop (p + (8 + rr.length)))).1, (recsOf (S.f1.drop (p + (8 + rr.length)))).2) := by rw [HE.out]; simp
      have hdl : done.length + 1 ≤ 4194304 := by
        have h1 := HRL.out
        rw [hE2] at h1
        simp only [List.length_append, List.length_cons, List.length_nil] at h1
        omega
      simp only [List.length_drop] at hul
      have HUL := Lib.hid hul
      have hrl2 : (rr.length : Int) ≤ 65536 := by omega
      replace HE := Lib.hid hE2
      clear hu hrs hud hul hE2 kk
      go_wp2_with (at_builtin; refine wp_rec rfl _ _ rfl _ done wr.heap.size 1 rr rfl rfl (HS.out.down (by go_grown)) (Bk.new rfl) hdl ?_; intro v' w4 hs2; replace HS := Lib.hid hs2; clear hs2)
      go_roundw
      case rel => exact ⟨p + (8 + rr.length), done ++ [rr], by go_num, by have := HUL.out; omega, HS.out, HE.out⟩
      case measure => have := HUL.out; simp [intOf]; omega
    | none =>
      rintro e w3 ⟨⟨sx, rfl⟩, rfl⟩
      have hrn := recsOf_none hu
      rw [hrn] at HE
      obtain ⟨hR1, hR2⟩ : R.1 = done ∧ R.2.length = S.f1.length - p := ⟨by rw [HE.out]; simp, by rw [HE.out, List.length_drop]⟩
      have HR1 := Lib.hid hR1
      have htp : torn = S.f1.length - p := by rw [HTN.out]; exact hR2
      have hcp : (p : Int) = ((S.f1.length - torn : Nat) : Int) := by omega
      have hdt : decide ((p : Int) < (S.f1.length : Int)) = false := decide_eq_false (by omega)
      have hdtn : decide (p < S.f1.length) = false := decide_eq_false (by omega)
      have ko := (KG.out.below HS.out.2.1).cell 0
      simp only [List.getElem?_toArray, List.getElem?_cons_succ, List.getElem?_cons_zero] at ko
      have HCP := Lib.hid hcp
      clear hu hrn hR1 hR2 htp hcp HE
      have HB3 := Lib.hid (HB.out.trans (HS.out.2.1.mono HB.out.size))
      have hrg : Bk 61 wr r _ := H.out.blk.below HB3.out
      have hgn : g ≠ r := fun e => by
        have h1 := (KG.out.below HS.out.2.1)
        rw [e] at h1
        have h2 := h1.symm.trans hrg
        injection h2 with h3
        injection h3 with h4 h5
        exact absurd h5 (by decide)
      have hgr : Hid (g ≠ r ∧ r < w1.heap.size) := Lib.hid ⟨hgn, Nat.lt_of_lt_of_le H.out.blk.lt HB.out.size⟩
      clear hgn
      clear hrg
      have RM : Hid (Rm w r uv wr S) := Lib.hid (Rm.same H.out HB3.out)
      have KGW : Hid (Bk 9 wr g #[.string ⟨S.f0.toArray⟩, .string ⟨S.f1.toArray⟩]) := Lib.hid (KG.out.below HS.out.2.1)
      obtain ⟨ra, rc, hrv⟩ := HS.out.shape
      subst hrv
      have RW : Hid (wr.ownsRow 0 9 1 (.slice ra done.length rc) done.length (scells done)) := Lib.hid HS.out.1
      have RB : Hid (∀ k, (Value.slice ra done.length rc).ownBlock = some k → w1.heap.size ≤ k) := Lib.hid HS.out.2.2
      go_wp2_with fail
      obtain ⟨uvx, kpx, rkx, ox, nx⟩ := RM.out
      refine (HCUT2.out wr uvx kpx rkx).mono ?_
      rintro e w7 ⟨rfl, hm⟩
      have hon := hm.only
      have rm2 : Rm w r uv w7 S3 := by
        obtain ⟨uv4, kp4, k4, o4, n4⟩ := hm
        refine ⟨uv4, kp4, k4, ox.trans o4 (fun x hx => .inl hx), fun g e => ?_⟩
        rcases n4 g e with e | e
        · exact nx g e
        · exact .inr (Nat.le_trans ox.size e)
      replace RM := Lib.hid rm2
      replace KGW := Lib.hid (KGW.out.only hon (by simp [hgr.out.1]))
      replace RW := Lib.hid (ownsS_of RW.out fun k hk hl => hon.block k hl (by have := RB.out k hk; have := hgr.out.2; simp; omega))
      clear hm hon rm2 rkx ox nx HCUT2
      clear ko
      go_wp2_with fail
      have hbn : Below w7.heap.size w7 (w7.alloc (.cells (rlc r ⟨1, g1, done.length, false⟩) 102)) := by go_grown
      rw [show R.1.length = done.length by rw [HR1.out], HR1.out]
      refine ⟨rfl, .tuple #[.pointer (some ⟨w7.heap.size, 0, none⟩), .string ⟨s1.toArray⟩, .slice ra done.length rc, .int .i64 0], by simp [results, Tryd.results60, go_sem], ?_⟩
      exact ⟨_, _, rfl, RM.out.down hbn, ownsS_of RW.out fun k hk hl => hbn.block k hl, fun k hk => Nat.le_trans HB.out.size (RB.out k hk), fun _ => ⟨_, rfl, RM.out.only.size, Bk.new rfl⟩, fun h => absurd rfl h⟩
set_option maxHeartbeats 32000000 in
theorem ropen1_otherdies {w : World} {r : Nat} {S : St} {uv : Value} {kp : Int} (h : Rk w r S uv kp) (hg : S.gone = false) (hc : (begins S.f1).1 > (begins S.f0).1) (hz : ¬ (begins S.f1).1 = 0) (ht : (recsOf (begins S.f1).2.2).2.length = 0) (ho : S.f0.length > 0) (hc2 : (S.cut 0 0).1 = 2) : Calls Tryd.prog 60 #[.pointer (some ⟨r, 0, none⟩)] w fun e w' => ROes w r uv (2, (⟨0, 0, 0, false⟩, [], []), (S.cut 0 0).2) e w' := by
  have c5 : w.cell? ⟨r, 5, none⟩ = some (.bool S.gone) := h.blk.cell 5
  rw [hg] at c5
  have H := Lib.hid h
  have hl0 := h.wf.l0
  have hl1 := h.wf.l1
  have HF := Lib.hid (files40 r S uv kp w h)
  have HC0 := Lib.hid (counts_any S.f0 hl0)
  have HC1 := Lib.hid (counts_any S.f1 hl1)
  obtain ⟨hbe, hbl⟩ := begins_behind hz
  obtain ⟨g0, hg0⟩ : ∃ n, n = (begins S.f0).1 := ⟨_, rfl⟩
  obtain ⟨g1, hg1⟩ : ∃ n, n = (begins S.f1).1 := ⟨_, rfl⟩
  have HG0 : Hid ((begins S.f0).1 = g0) := Lib.hid hg0.symm
  have HG1 : Hid ((begins S.f1).1 = g1) := Lib.hid hg1.symm
  rw [← hg0, ← hg1] at hc
  have hcm : decide ((g0 : Int) < (g1 : Int)) = true := decide_eq_true (by omega)
  have hcmn : decide (g0 < g1) = true := decide_eq_true (by omega)
  have HZ : Hid (g1 ≠ 0) := Lib.hid (by rw [hg1]; exact hz)
  have hz2 : ((g1 : Int) == 0) = false := by have := HZ.out; simp; omega
  have hz3 : decide (g1 = 0) = false := decide_eq_false HZ.out
  
  have HW := Lib.hid (fun p (hp : p ≤ S.f1.length) => whole_any S.f1 p 65536 hp hl1 (by omega))
  have HLE : Hid (S.f1.length ≤ 1048576) := Lib.hid hl1
  obtain ⟨sn, hsn⟩ : ∃ x, x = (begins S.f1).2.1 := ⟨_, rfl⟩
  obtain ⟨R, hR⟩ : ∃ x, x = recsOf (begins S.f1).2.2 := ⟨_, rfl⟩
  have HSN : Hid ((begins S.f1).2.1 = sn) := Lib.hid hsn.symm
  have HRB : Hid (R = recsOf (S.f1.drop (20 + sn.length)) ∧ 20 + sn.length ≤ S.f1.length) := Lib.hid (by rw [hR, hbe, hsn]; exact ⟨rfl, hbl⟩)
  have hrl : 8 * R.1.length + R.2.length ≤ 1048576 := by rw [hR]; exact Nat.le_trans (recs_len _ _ (Nat.le_refl _)) (Nat.le_trans (begins_le S.f1).2 hl1)
  rw [← hR] at ht 
  
  have HRL := Lib.hid hrl
  have HCUT2 : Hid (∀ (wx : World) (uvx : Value) (kpx : Int), Rk wx r (S) uvx kpx → Calls Tryd.prog 87 #[.pointer (some ⟨r, 0, none⟩), .int .i64 0, .int .i64 0] wx fun e w' => e = .returned (.int .i64 (((S).cut 0 0).1 : Int)) ∧ Rm wx r uvx w' ((S).cut 0 0).2) := Lib.hid fun wx uvx kpx hk => cut35 r _ uvx kpx 0 0 (by omega) (by omega) wx hk
  rw [hc2] at HCUT2
  generalize ((S).cut 0 0).2 = S3 at *
  obtain ⟨torn, htn⟩ : ∃ n, n = R.2.length := ⟨_, rfl⟩
  have HTN := Lib.hid htn
  have htz : torn = 0 := by rw [htn]; exact ht
  have hdo : decide ((0 : Int) < (S.f0.length : Int)) = true := decide_eq_true (by omega)
  have hdon : decide (0 < S.f0.length) = true := decide_eq_true (by omega)
  clear h hc hg0 hg1 hl0 hl1 hz hbe hbl hsn hR hrl htn ht ho hc2
  go_enter Tryd.func60, Tryd.ntmps60
  go_wp2_with fail
  refine HF.out.mono ?_
  rintro e w1 ⟨⟨v, rfl, ht⟩, hb⟩
  obtain ⟨g, rfl, hgB, hgk⟩ := ht
  have HB := Lib.hid hb
  have KG := Lib.hid hgk
  have HG := Lib.hid hgB
  have k0 := hgk.cell 0
  have k1 := hgk.cell 1
  simp only [List.getElem?_toArray, List.getElem?_cons_succ, List.getElem?_cons_zero] at k0 k1
  clear hb hgk hgB HF
  go_wp2_with fail
  refine (HC0.out w1).mono ?_
  rintro e w2 ⟨⟨s0, a0, rfl, ha0⟩, rfl⟩
  have HA0 := Lib.hid ha0
  clear ha0
  go_wp2_with fail
  refine (HC1.out w1).mono ?_
  rintro e w2 ⟨⟨s1, a1, rfl, ha1⟩, rfl⟩
  have HA1 := Lib.hid ha1
  clear ha1 HC0 HC1
  rw [HG0.out, HG1.out]
  obtain ⟨hs, ha⟩ := HA1.out (by rw [HG1.out]; exact HZ.out)
  rw [HSN.out] at hs ha
  subst hs ha
  go_wp2_with fail
  have SR0 : Hid (Sr w1 (w1.alloc (.cells #[] 9)) (.slice (some ⟨w1.heap.size, 0, none⟩) 0 0) []) := Lib.hid ⟨⟨rfl, .inr ⟨w1.heap.size, 0, #[], rfl, Nat.zero_le _, Go.heap_alloc_new w1 _, Nat.le_refl _, by unfold maxLen; omega, rfl, rfl⟩⟩, by go_grown, fun k hk => by cases hk; exact Nat.le_refl _⟩
  clear k0 k1
  go_loopw [9, 14, 15, 16] (fun av rv sv ov wr => ∃ (p : Nat) (done : List Bs), av = .int .i64 (p : Int) ∧ p ≤ S.f1.length ∧ Sr w1 wr rv done ∧ R = (done ++ (recsOf (S.f1.drop p)).1, (recsOf (S.f1.drop p)).2)) (fun av _ _ _ _ => 1048577 - (intOf av).toNat)
  case atStart => exact ⟨20 + s1.length, [], by go_num, HRB.out.2, SR0.out, by rw [HRB.out.1]; rfl⟩
  case round =>
    clear SR0
    obtain ⟨p, done, rfl, hp, hsr, hrec⟩ := hrel
    have HS := Lib.hid hsr
    have HE := Lib.hid hrec
    have kk := (KG.out.below HS.out.2.1).cell 1
    simp only [List.getElem?_toArray, List.getElem?_cons_succ, List.getElem?_cons_zero] at kk
    have hpi : (p : Int) ≤ 1048576 := by have := HLE.out; omega
    clear hsr hrec
    go_wp2_with fail
    refine (HW.out p hp wr).mono ?_
    cases hu : unframed (S.f1.drop p) 65536 with
    | some x =>
      obtain ⟨rr, bb⟩ := x
      rintro e w3 ⟨rfl, rfl⟩
      have hrs := recsOf_some hu
      have hud := unframed_drop hu
      have hul := unframed_len hu
      rw [hrs] at HE
      rw [hud, List.drop_drop] at HE
      have hE2 : R = ((done ++ [rr]) ++ (recsOf (S.f1.drop (p + (8 + rr.length)))).1, (recsOf (S.f1.drop (p + (8 + rr.length)))).2) := by rw [HE.out]; simp
      have hdl : done.length + 1 ≤ 4194304 := by
        have h1 := HRL.out
        rw [hE2] at h1
        simp only [List.length_append, List.length_cons, List.length_nil] at h1
        omega
      simp only [List.length_drop] at hul
      have HUL := Lib.hid hul
      have hrl2 : (rr.length : Int) ≤ 65536 := by omega
      replace HE := Lib.hid hE2
      clear hu hrs hud hul hE2 kk
      go_wp2_with (at_builtin; refine wp_rec rfl _ _ rfl _ done wr.heap.size 1 rr rfl rfl (HS.out.down (by go_grown)) (Bk.new rfl) hdl ?_; intro v' w4 hs2; replace HS := Lib.hid hs2; clear hs2)
      go_roundw
      case rel => exact ⟨p + (8 + rr.length), done ++ [rr], by go_num, by have := HUL.out; omega, HS.out, HE.out⟩
      case measure => have := HUL.out; simp [intOf]; omega
    | none =>
      rintro e w3 ⟨⟨sx, rfl⟩, rfl⟩
      have hrn := recsOf_none hu
      rw [hrn] at HE
      obtain ⟨hR1, hR2⟩ : R.1 = done ∧ R.2.length = S.f1.length - p := ⟨by rw [HE.out]; simp, by rw [HE.out, List.length_drop]⟩
      have HR1 := Lib.hid hR1
      have htp : torn = S.f1.length - p := by rw [HTN.out]; exact hR2
      have hcp : (p : Int) = ((S.f1.length - torn : Nat) : Int) := by omega
      have hdt : decide ((p : Int) < (S.f1.length : Int)) = false := decide_eq_false (by omega)
      have hdtn : decide (p < S.f1.length) = false := decide_eq_false (by omega)
      have ko := (KG.out.below HS.out.2.1).cell 0
      simp only [List.getElem?_toArray, List.getElem?_cons_succ, List.getElem?_cons_zero] at ko
      have HCP := Lib.hid hcp
      clear hu hrn hR1 hR2 htp hcp HE
      have HB3 := Lib.hid (HB.out.trans (HS.out.2.1.mono HB.out.size))
      have hrg : Bk 61 wr r _ := H.out.blk.below HB3.out
      have hgn : g ≠ r := fun e => by
        have h1 := (KG.out.below HS.out.2.1)
        rw [e] at h1
        have h2 := h1.symm.trans hrg
        injection h2 with h3
        injection h3 with h4 h5
        exact absurd h5 (by decide)
      have hgr : Hid (g ≠ r ∧ r < w1.heap.size) := Lib.hid ⟨hgn, Nat.lt_of_lt_of_le H.out.blk.lt HB.out.size⟩
      clear hgn
      clear hrg
      have RM : Hid (Rm w r uv wr S) := Lib.hid (Rm.same H.out HB3.out)
      have KGW : Hid (Bk 9 wr g #[.string ⟨S.f0.toArray⟩, .string ⟨S.f1.toArray⟩]) := Lib.hid (KG.out.below HS.out.2.1)
      obtain ⟨ra, rc, hrv⟩ := HS.out.shape
      subst hrv
      have RW : Hid (wr.ownsRow 0 9 1 (.slice ra done.length rc) done.length (scells done)) := Lib.hid HS.out.1
      have RB : Hid (∀ k, (Value.slice ra done.length rc).ownBlock = some k → w1.heap.size ≤ k) := Lib.hid HS.out.2.2
      go_wp2_with fail
      obtain ⟨uvx, kpx, rkx, ox, nx⟩ := RM.out
      refine (HCUT2.out wr uvx kpx rkx).mono ?_
      rintro e w7 ⟨rfl, hm⟩
      have hon := hm.only
      have rm2 : Rm w r uv w7 S3 := by
        obtain ⟨uv4, kp4, k4, o4, n4⟩ := hm
        refine ⟨uv4, kp4, k4, ox.trans o4 (fun x hx => .inl hx), fun g e => ?_⟩
        rcases n4 g e with e | e
        · exact nx g e
        · exact .inr (Nat.le_trans ox.size e)
      replace RM := Lib.hid rm2
      replace KGW := Lib.hid (KGW.out.only hon (by simp [hgr.out.1]))
      replace RW := Lib.hid (ownsS_of RW.out fun k hk hl => hon.block k hl (by have := RB.out k hk; have := hgr.out.2; simp; omega))
      clear hm hon rm2 rkx ox nx HCUT2
      clear ko
      go_wp2_with fail
      refine ⟨rfl, .tuple #[.pointer none, .string ⟨#[]⟩, .slice none 0 0, .int .i64 2], by simp [results, Tryd.results60, go_sem], ?_⟩
      exact ⟨_, _, rfl, RM.out, owns_nil9 _, (fun k hk => by cases hk), (fun h => absurd h (by simp)), fun _ => rfl⟩
set_option maxHeartbeats 32000000 in
theorem ropen1_torn {w : World} {r : Nat} {S : St} {uv : Value} {kp : Int} (h : Rk w r S uv kp) (hg : S.gone = false) (hc : (begins S.f1).1 > (begins S.f0).1) (hz : ¬ (begins S.f1).1 = 0) (ht : (recsOf (begins S.f1).2.2).2.length > 0) (hc1 : (S.cut 1 ((S.f1.length - (recsOf (begins S.f1).2.2).2.length : Nat) : Int)).1 = 0) (ho : S.f0.length = 0) : Calls Tryd.prog 60 #[.pointer (some ⟨r, 0, none⟩)] w fun e w' => ROes w r uv (0, (⟨1, (begins S.f1).1, (recsOf (begins S.f1).2.2).1.length, false⟩, (begins S.f1).2.1, (recsOf (begins S.f1).2.2).1), (S.cut 1 ((S.f1.length - (recsOf (begins S.f1).2.2).2.length : Nat) : Int)).2) e w' := by
  have c5 : w.cell? ⟨r, 5, none⟩ = some (.bool S.gone) := h.blk.cell 5
  rw [hg] at c5
  have H := Lib.hid h
  have hl0 := h.wf.l0
  have hl1 := h.wf.l1
  have HF := Lib.hid (files40 r S uv kp w h)
  have HC0 := Lib.hid (counts_any S.f0 hl0)
  have HC1 := Lib.hid (counts_any S.f1 hl1)
  obtain ⟨hbe, hbl⟩ := begins_behind hz
  obtain ⟨g0, hg0⟩ : ∃ n, n = (begins S.f0).1 := ⟨_, rfl⟩
  obtain ⟨g1, hg1⟩ : ∃ n, n = (begins S.f1).1 := ⟨_, rfl⟩
  have HG0 : Hid ((begins S.f0).1 = g0) := Lib.hid hg0.symm
  have HG1 : Hid ((begins S.f1).1 = g1) := Lib.hid hg1.symm
  rw [← hg0, ← hg1] at hc
  have hcm : decide ((g0 : Int) < (g1 : Int)) = true := decide_eq_true (by omega)
  have hcmn : decide (g0 < g1) = true := decide_eq_true (by omega)
  have HZ : Hid (g1 ≠ 0) := Lib.hid (by rw [hg1]; exact hz)
  have hz2 : ((g1 : Int) == 0) = false := by have := HZ.out; simp; omega
  have hz3 : decide (g1 = 0) = false := decide_eq_false HZ.out
  rw [← hg1]
  have HW := Lib.hid (fun p (hp : p ≤ S.f1.length) => whole_any S.f1 p 65536 hp hl1 (by omega))
  have HLE : Hid (S.f1.length ≤ 1048576) := Lib.hid hl1
  obtain ⟨sn, hsn⟩ : ∃ x, x = (begins S.f1).2.1 := ⟨_, rfl⟩
  obtain ⟨R, hR⟩ : ∃ x, x = recsOf (begins S.f1).2.2 := ⟨_, rfl⟩
  have HSN : Hid ((begins S.f1).2.1 = sn) := Lib.hid hsn.symm
  have HRB : Hid (R = recsOf (S.f1.drop (20 + sn.length)) ∧ 20 + sn.length ≤ S.f1.length) := Lib.hid (by rw [hR, hbe, hsn]; exact ⟨rfl, hbl⟩)
  have hrl : 8 * R.1.length + R.2.length ≤ 1048576 := by rw [hR]; exact Nat.le_trans (recs_len _ _ (Nat.le_refl _)) (Nat.le_trans (begins_le S.f1).2 hl1)
  rw [← hR] at ht hc1 
  rw [← hR, ← hsn]
  have HRL := Lib.hid hrl
  have HCUT : Hid (∀ (wx : World) (uvx : Value) (kpx : Int), Rk wx r S uvx kpx → Calls Tryd.prog 87 #[.pointer (some ⟨r, 0, none⟩), .int .i64 1, .int .i64 ((S.f1.length - R.2.length : Nat) : Int)] wx fun e w' => e = .returned (.int .i64 ((S.cut 1 ((S.f1.length - R.2.length : Nat) : Int)).1 : Int)) ∧ Rm wx r uvx w' (S.cut 1 ((S.f1.length - R.2.length : Nat) : Int)).2) := Lib.hid fun wx uvx kpx hk => cut35 r S uvx kpx 1 _ (by omega) (by omega) wx hk
  rw [hc1] at HCUT
  generalize (S.cut 1 ((S.f1.length - R.2.length : Nat) : Int)).2 = S2 at *
  obtain ⟨torn, htn⟩ : ∃ n, n = R.2.length := ⟨_, rfl⟩
  have HTN := Lib.hid htn
  have htz : torn > 0 := by rw [htn]; exact ht
  rw [← htn] at HCUT
  have hdo : decide ((0 : Int) < (S.f0.length : Int)) = false := decide_eq_false (by omega)
  have hdon : decide (0 < S.f0.length) = false := decide_eq_false (by omega)
  clear h hc hg0 hg1 hl0 hl1 hz hbe hbl hsn hR hrl htn ht hc1 ho
  go_enter Tryd.func60, Tryd.ntmps60
  go_wp2_with fail
  refine HF.out.mono ?_
  rintro e w1 ⟨⟨v, rfl, ht⟩, hb⟩
  obtain ⟨g, rfl, hgB, hgk⟩ := ht
  have HB := Lib.hid hb
  have KG := Lib.hid hgk
  have HG := Lib.hid hgB
  have k0 := hgk.cell 0
  have k1 := hgk.cell 1
  simp only [List.getElem?_toArray, List.getElem?_cons_succ, List.getElem?_cons_zero] at k0 k1
  clear hb hgk hgB HF
  go_wp2_with fail
  refine (HC0.out w1).mono ?_
  rintro e w2 ⟨⟨s0, a0, rfl, ha0⟩, rfl⟩
  have HA0 := Lib.hid ha0
  clear ha0
  go_wp2_with fail
  refine (HC1.out w1).mono ?_
  rintro e w2 ⟨⟨s1, a1, rfl, ha1⟩, rfl⟩
  have HA1 := Lib.hid ha1
  clear ha1 HC0 HC1
  rw [HG0.out, HG1.out]
  obtain ⟨hs, ha⟩ := HA1.out (by rw [HG1.out]; exact HZ.out)
  rw [HSN.out] at hs ha
  subst hs ha
  go_wp2_with fail
  have SR0 : Hid (Sr w1 (w1.alloc (.cells #[] 9)) (.slice (some ⟨w1.heap.size, 0, none⟩) 0 0) []) := Lib.hid ⟨⟨rfl, .inr ⟨w1.heap.size, 0, #[], rfl, Nat.zero_le _, Go.heap_alloc_new w1 _, Nat.le_refl _, by unfold maxLen; omega, rfl, rfl⟩⟩, by go_grown, fun k hk => by cases hk; exact Nat.le_refl _⟩
  clear k0 k1
  go_loopw [9, 14, 15, 16] (fun av rv sv ov wr => ∃ (p : Nat) (done : List Bs), av = .int .i64 (p : Int) ∧ p ≤ S.f1.length ∧ Sr w1 wr rv done ∧ R = (done ++ (recsOf (S.f1.drop p)).1, (recsOf (S.f1.drop p)).2)) (fun av _ _ _ _ => 1048577 - (intOf av).toNat)
  case atStart => exact ⟨20 + s1.length, [], by go_num, HRB.out.2, SR0.out, by rw [HRB.out.1]; rfl⟩
  case round =>
    clear SR0
    obtain ⟨p, done, rfl, hp, hsr, hrec⟩ := hrel
    have HS := Lib.hid hsr
    have HE := Lib.hid hrec
    have kk := (KG.out.below HS.out.2.1).cell 1
    simp only [List.getElem?_toArray, List.getElem?_cons_succ, List.getElem?_cons_zero] at kk
    have hpi : (p : Int) ≤ 1048576 := by have := HLE.out; omega
    clear hsr hrec
    go_wp2_with fail
    refine (HW.out p hp wr).mono ?_
    cases hu : unframed (S.f1.drop p) 65536 with
    | some x =>
      obtain ⟨rr, bb⟩ := x
      rintro e w3 ⟨rfl, rfl⟩
      have hrs := recsOf_some hu
      have hud := unframed_drop hu
      have hul := unframed_len hu
      rw [hrs] at HE
      rw [hud, List.drop_drop] at HE
      have hE2 : R = ((done ++ [rr]) ++ (recsOf (S.f1.drop (p + (8 + rr.length)))).1, (recsOf (S.f1.drop (p + (8 + rr.length)))).2) := by rw [HE.out]; simp
      have hdl : done.length + 1 ≤ 4194304 := by
        have h1 := HRL.out
        rw [hE2] at h1
        simp only [List.length_append, List.length_cons, List.length_nil] at h1
        omega
      simp only [List.length_drop] at hul
      have HUL := Lib.hid hul
      have hrl2 : (rr.length : Int) ≤ 65536 := by omega
      replace HE := Lib.hid hE2
      clear hu hrs hud hul hE2 kk
      go_wp2_with (at_builtin; refine wp_rec rfl _ _ rfl _ done wr.heap.size 1 rr rfl rfl (HS.out.down (by go_grown)) (Bk.new rfl) hdl ?_; intro v' w4 hs2; replace HS := Lib.hid hs2; clear hs2)
      go_roundw
      case rel => exact ⟨p + (8 + rr.length), done ++ [rr], by go_num, by have := HUL.out; omega, HS.out, HE.out⟩
      case measure => have := HUL.out; simp [intOf]; omega
    | none =>
      rintro e w3 ⟨⟨sx, rfl⟩, rfl⟩
      have hrn := recsOf_none hu
      rw [hrn] at HE
      obtain ⟨hR1, hR2⟩ : R.1 = done ∧ R.2.length = S.f1.length - p := ⟨by rw [HE.out]; simp, by rw [HE.out, List.length_drop]⟩
      have HR1 := Lib.hid hR1
      have htp : torn = S.f1.length - p := by rw [HTN.out]; exact hR2
      have hcp : (p : Int) = ((S.f1.length - torn : Nat) : Int) := by omega
      have hdt : decide ((p : Int) < (S.f1.length : Int)) = true := decide_eq_true (by omega)
      have hdtn : decide (p < S.f1.length) = true := decide_eq_true (by omega)
      have ko := (KG.out.below HS.out.2.1).cell 0
      simp only [List.getElem?_toArray, List.getElem?_cons_succ, List.getElem?_cons_zero] at ko
      have HCP := Lib.hid hcp
      clear hu hrn hR1 hR2 htp hcp HE
      have HB3 := Lib.hid (HB.out.trans (HS.out.2.1.mono HB.out.size))
      have hrg : Bk 61 wr r _ := H.out.blk.below HB3.out
      have hgn : g ≠ r := fun e => by
        have h1 := (KG.out.below HS.out.2.1)
        rw [e] at h1
        have h2 := h1.symm.trans hrg
        injection h2 with h3
        injection h3 with h4 h5
        exact absurd h5 (by decide)
      have hgr : Hid (g ≠ r ∧ r < w1.heap.size) := Lib.hid ⟨hgn, Nat.lt_of_lt_of_le H.out.blk.lt HB.out.size⟩
      clear hgn
      clear hrg
      have RM : Hid (Rm w r uv wr S) := Lib.hid (Rm.same H.out HB3.out)
      have KGW : Hid (Bk 9 wr g #[.string ⟨S.f0.toArray⟩, .string ⟨S.f1.toArray⟩]) := Lib.hid (KG.out.below HS.out.2.1)
      obtain ⟨ra, rc, hrv⟩ := HS.out.shape
      subst hrv
      have RW : Hid (wr.ownsRow 0 9 1 (.slice ra done.length rc) done.length (scells done)) := Lib.hid HS.out.1
      have RB : Hid (∀ k, (Value.slice ra done.length rc).ownBlock = some k → w1.heap.size ≤ k) := Lib.hid HS.out.2.2
      go_wp2_with fail
      rw [HCP.out]
      obtain ⟨uvx, kpx, rkx, ox, nx⟩ := RM.out
      refine (HCUT.out wr uvx kpx rkx).mono ?_
      rintro e w5 ⟨rfl, hm⟩
      have hon := hm.only
      have rm2 : Rm w r uv w5 S2 := by
        obtain ⟨uv4, kp4, k4, o4, n4⟩ := hm
        refine ⟨uv4, kp4, k4, ox.trans o4 (fun x hx => .inl hx), fun g e => ?_⟩
        rcases n4 g e with e | e
        · exact nx g e
        · exact .inr (Nat.le_trans ox.size e)
      replace RM := Lib.hid rm2
      replace KGW := Lib.hid (KGW.out.only hon (by simp [hgr.out.1]))
      replace RW := Lib.hid (ownsS_of RW.out fun k hk hl => hon.block k hl (by have := RB.out k hk; have := hgr.out.2; simp; omega))
      clear hm hon rm2 rkx ox nx HCUT
      clear ko
      have ko := KGW.out.cell 0
      simp only [List.getElem?_toArray, List.getElem?_cons_succ, List.getElem?_cons_zero] at ko
      go_wp2_with fail
      have hbn : Below w5.heap.size w5 (w5.alloc (.cells (rlc r ⟨1, g1, done.length, false⟩) 102)) := by go_grown
      rw [show R.1.length = done.length by rw [HR1.out], HR1.out]
      refine ⟨rfl, .tuple #[.pointer (some ⟨w5.heap.size, 0, none⟩), .string ⟨s1.toArray⟩, .slice ra done.length rc, .int .i64 0], by simp [results, Tryd.results60, go_sem], ?_⟩
      exact ⟨_, _, rfl, RM.out.down hbn, ownsS_of RW.out fun k hk hl => hbn.block k hl, fun k hk => Nat.le_trans HB.out.size (RB.out k hk), fun _ => ⟨_, rfl, RM.out.only.size, Bk.new rfl⟩, fun h => absurd rfl h⟩
set_option maxHeartbeats 32000000 in
theorem ropen1_both {w : World} {r : Nat} {S : St} {uv : Value} {kp : Int} (h : Rk w r S uv kp) (hg : S.gone = false) (hc : (begins S.f1).1 > (begins S.f0).1) (hz : ¬ (begins S.f1).1 = 0) (ht : (recsOf (begins S.f1).2.2).2.length > 0) (hc1 : (S.cut 1 ((S.f1.length - (recsOf (begins S.f1).2.2).2.length : Nat) : Int)).1 = 0) (ho : S.f0.length > 0) (hc2 : ((S.cut 1 ((S.f1.length - (recsOf (begins S.f1).2.2).2.length : Nat) : Int)).2.cut 0 0).1 = 0) : Calls Tryd.prog 60 #[.pointer (some ⟨r, 0, none⟩)] w fun e w' => ROes w r uv (0, (⟨1, (begins S.f1).1, (recsOf (begins S.f1).2.2).1.length, false⟩, (begins S.f1).2.1, (recsOf (begins S.f1).2.2).1), ((S.cut 1 ((S.f1.length - (recsOf (begins S.f1).2.2).2.length : Nat) : Int)).2.cut 0 0).2) e w' := by
  have c5 : w.cell? ⟨r, 5, none⟩ = some (.bool S.gone) := h.blk.cell 5
  rw [hg] at c5
  have H := Lib.hid h
  have hl0 := h.wf.l0
  have hl1 := h.wf.l1
  have HF := Lib.hid (files40 r S uv kp w h)
  have HC0 := Lib.hid (counts_any S.f0 hl0)
  have HC1 := Lib.hid (counts_any S.f1 hl1)
  obtain ⟨hbe, hbl⟩ := begins_behind hz
  obtain ⟨g0, hg0⟩ : ∃ n, n = (begins S.f0).1 := ⟨_, rfl⟩
  obtain ⟨g1, hg1⟩ : ∃ n, n = (begins S.f1).1 := ⟨_, rfl⟩
  have HG0 : Hid ((begins S.f0).1 = g0) := Lib.hid hg0.symm
  have HG1 : Hid ((begins S.f1).1 = g1) := Lib.hid hg1.symm
  rw [← hg0, ← hg1] at hc
  have hcm : decide ((g0 : Int) < (g1 : Int)) = true := decide_eq_true (by omega)
  have hcmn : decide (g0 < g1) = true := decide_eq_true (by omega)
  have HZ : Hid (g1 ≠ 0) := Lib.hid (by rw [hg1]; exact hz)
  have hz2 : ((g1 : Int) == 0) = false := by have := HZ.out; simp; omega
  have hz3 : decide (g1 = 0) = false := decide_eq_false HZ.out
  rw [← hg1]
  have HW := Lib.hid (fun p (hp : p ≤ S.f1.length) => whole_any S.f1 p 65536 hp hl1 (by omega))
  have HLE : Hid (S.f1.length ≤ 1048576) := Lib.hid hl1
  obtain ⟨sn, hsn⟩ : ∃ x, x = (begins S.f1).2.1 := ⟨_, rfl⟩
  obtain ⟨R, hR⟩ : ∃ x, x = recsOf (begins S.f1).2.2 := ⟨_, rfl⟩
  have HSN : Hid ((begins S.f1).2.1 = sn) := Lib.hid hsn.symm
  have HRB : Hid (R = recsOf (S.f1.drop (20 + sn.length)) ∧ 20 + sn.length ≤ S.f1.length) := Lib.hid (by rw [hR, hbe, hsn]; exact ⟨rfl, hbl⟩)
  have hrl : 8 * R.1.length + R.2.length ≤ 1048576 := by rw [hR]; exact Nat.le_trans (recs_len _ _ (Nat.le_refl _)) (Nat.le_trans (begins_le S.f1).2 hl1)
  rw [← hR] at ht hc1 hc2 
  rw [← hR, ← hsn]
  have HRL := Lib.hid hrl
  have HCUT : Hid (∀ (wx : World) (uvx : Value) (kpx : Int), Rk wx r S uvx kpx → Calls Tryd.prog 87 #[.pointer (some ⟨r, 0, none⟩), .int .i64 1, .int .i64 ((S.f1.length - R.2.length : Nat) : Int)] wx fun e w' => e = .returned (.int .i64 ((S.cut 1 ((S.f1.length - R.2.length : Nat) : Int)).1 : Int)) ∧ Rm wx r uvx w' (S.cut 1 ((S.f1.length - R.2.length : Nat) : Int)).2) := Lib.hid fun wx uvx kpx hk => cut35 r S uvx kpx 1 _ (by omega) (by omega) wx hk
  rw [hc1] at HCUT
  have HCUT2 : Hid (∀ (wx : World) (uvx : Value) (kpx : Int), Rk wx r ((S.cut 1 ((S.f1.length - R.2.length : Nat) : Int)).2) uvx kpx → Calls Tryd.prog 87 #[.pointer (some ⟨r, 0, none⟩), .int .i64 0, .int .i64 0] wx fun e w' => e = .returned (.int .i64 ((((S.cut 1 ((S.f1.length - R.2.length : Nat) : Int)).2).cut 0 0).1 : Int)) ∧ Rm wx r uvx w' (((S.cut 1 ((S.f1.length - R.2.length : Nat) : Int)).2).cut 0 0).2) := Lib.hid fun wx uvx kpx hk => cut35 r _ uvx kpx 0 0 (by omega) (by omega) wx hk
  rw [hc2] at HCUT2
  generalize (((S.cut 1 ((S.f1.length - R.2.length : Nat) : Int)).2).cut 0 0).2 = S3 at *
  generalize (S.cut 1 ((S.f1.length - R.2.length : Nat) : Int)).2 = S2 at *
  obtain ⟨torn, htn⟩ : ∃ n, n = R.2.length := ⟨_, rfl⟩
  have HTN := Lib.hid htn
  have htz : torn > 0 := by rw [htn]; exact ht
  rw [← htn] at HCUT
  have hdo : decide ((0 : Int) < (S.f0.length : Int)) = true := decide_eq_true (by omega)
  have hdon : decide (0 < S.f0.length) = true := decide_eq_true (by omega)
  clear h hc hg0 hg1 hl0 hl1 hz hbe hbl hsn hR hrl htn ht hc1 ho hc2
  go_enter Tryd.func60, Tryd.ntmps60
  go_wp2_with fail
  refine HF.out.mono ?_
  rintro e w1 ⟨⟨v, rfl, ht⟩, hb⟩
  obtain ⟨g, rfl, hgB, hgk⟩ := ht
  have HB := Lib.hid hb
  have KG := Lib.hid hgk
  have HG := Lib.hid hgB
  have k0 := hgk.cell 0
  have k1 := hgk.cell 1
  simp only [List.getElem?_toArray, List.getElem?_cons_succ, List.getElem?_cons_zero] at k0 k1
  clear hb hgk hgB HF
  go_wp2_with fail
  refine (HC0.out w1).mono ?_
  rintro e w2 ⟨⟨s0, a0, rfl, ha0⟩, rfl⟩
  have HA0 := Lib.hid ha0
  clear ha0
  go_wp2_with fail
  refine (HC1.out w1).mono ?_
  rintro e w2 ⟨⟨s1, a1, rfl, ha1⟩, rfl⟩
  have HA1 := Lib.hid ha1
  clear ha1 HC0 HC1
  rw [HG0.out, HG1.out]
  obtain ⟨hs, ha⟩ := HA1.out (by rw [HG1.out]; exact HZ.out)
  rw [HSN.out] at hs ha
  subst hs ha
  go_wp2_with fail
  have SR0 : Hid (Sr w1 (w1.alloc (.cells #[] 9)) (.slice (some ⟨w1.heap.size, 0, none⟩) 0 0) []) := Lib.hid ⟨⟨rfl, .inr ⟨w1.heap.size, 0, #[], rfl, Nat.zero_le _, Go.heap_alloc_new w1 _, Nat.le_refl _, by unfold maxLen; omega, rfl, rfl⟩⟩, by go_grown, fun k hk => by cases hk; exact Nat.le_refl _⟩
  clear k0 k1
  go_loopw [9, 14, 15, 16] (fun av rv sv ov wr => ∃ (p : Nat) (done : List Bs), av = .int .i64 (p : Int) ∧ p ≤ S.f1.length ∧ Sr w1 wr rv done ∧ R = (done ++ (recsOf (S.f1.drop p)).1, (recsOf (S.f1.drop p)).2)) (fun av _ _ _ _ => 1048577 - (intOf av).toNat)
  case atStart => exact ⟨20 + s1.length, [], by go_num, HRB.out.2, SR0.out, by rw [HRB.out.1]; rfl⟩
  case round =>
    clear SR0
    obtain ⟨p, done, rfl, hp, hsr, hrec⟩ := hrel
    have HS := Lib.hid hsr
    have HE := Lib.hid hrec
    have kk := (KG.out.below HS.out.2.1).cell 1
    simp only [List.getElem?_toArray, List.getElem?_cons_succ, List.getElem?_cons_zero] at kk
    have hpi : (p : Int) ≤ 1048576 := by have := HLE.out; omega
    clear hsr hrec
    go_wp2_with fail
    refine (HW.out p hp wr).mono ?_
    cases hu : unframed (S.f1.drop p) 65536 with
    | some x =>
      obtain ⟨rr, bb⟩ := x
      rintro e w3 ⟨rfl, rfl⟩
      have hrs := recsOf_some hu
      have hud := unframed_drop hu
      have hul := unframed_len hu
      rw [hrs] at HE
      rw [hud, List.drop_drop] at HE
      have hE2 : R = ((done ++ [rr]) ++ (recsOf (S.f1.drop (p + (8 + rr.length)))).1, (recsOf (S.f1.drop (p + (8 + rr.length)))).2) := by rw [HE.out]; simp
      have hdl : done.length + 1 ≤ 4194304 := by
        have h1 := HRL.out
        rw [hE2] at h1
        simp only [List.length_append, List.length_cons, List.length_nil] at h1
        omega
      simp only [List.length_drop] at hul
      have HUL := Lib.hid hul
      have hrl2 : (rr.length : Int) ≤ 65536 := by omega
      replace HE := Lib.hid hE2
      clear hu hrs hud hul hE2 kk
      go_wp2_with (at_builtin; refine wp_rec rfl _ _ rfl _ done wr.heap.size 1 rr rfl rfl (HS.out.down (by go_grown)) (Bk.new rfl) hdl ?_; intro v' w4 hs2; replace HS := Lib.hid hs2; clear hs2)
      go_roundw
      case rel => exact ⟨p + (8 + rr.length), done ++ [rr], by go_num, by have := HUL.out; omega, HS.out, HE.out⟩
      case measure => have := HUL.out; simp [intOf]; omega
    | none =>
      rintro e w3 ⟨⟨sx, rfl⟩, rfl⟩
      have hrn := recsOf_none hu
      rw [hrn] at HE
      obtain ⟨hR1, hR2⟩ : R.1 = done ∧ R.2.length = S.f1.length - p := ⟨by rw [HE.out]; simp, by rw [HE.out, List.length_drop]⟩
      have HR1 := Lib.hid hR1
      have htp : torn = S.f1.length - p := by rw [HTN.out]; exact hR2
      have hcp : (p : Int) = ((S.f1.length - torn : Nat) : Int) := by omega
      have hdt : decide ((p : Int) < (S.f1.length : Int)) = true := decide_eq_true (by omega)
      have hdtn : decide (p < S.f1.length) = true := decide_eq_true (by omega)
      have ko := (KG.out.below HS.out.2.1).cell 0
      simp only [List.getElem?_toArray, List.getElem?_cons_succ, List.getElem?_cons_zero] at ko
      have HCP := Lib.hid hcp
      clear hu hrn hR1 hR2 htp hcp HE
      have HB3 := Lib.hid (HB.out.trans (HS.out.2.1.mono HB.out.size))
      have hrg : Bk 61 wr r _ := H.out.blk.below HB3.out
      have hgn : g ≠ r := fun e => by
        have h1 := (KG.out.below HS.out.2.1)
        rw [e] at h1
        have h2 := h1.symm.trans hrg
        injection h2 with h3
        injection h3 with h4 h5
        exact absurd h5 (by decide)
      have hgr : Hid (g ≠ r ∧ r < w1.heap.size) := Lib.hid ⟨hgn, Nat.lt_of_lt_of_le H.out.blk.lt HB.out.size⟩
      clear hgn
      clear hrg
      have RM : Hid (Rm w r uv wr S) := Lib.hid (Rm.same H.out HB3.out)
      have KGW : Hid (Bk 9 wr g #[.string ⟨S.f0.toArray⟩, .string ⟨S.f1.toArray⟩]) := Lib.hid (KG.out.below HS.out.2.1)
      obtain ⟨ra, rc, hrv⟩ := HS.out.shape
      subst hrv
      have RW : Hid (wr.ownsRow 0 9 1 (.slice ra done.length rc) done.length (scells done)) := Lib.hid HS.out.1
      have RB : Hid (∀ k, (Value.slice ra done.length rc).ownBlock = some k → w1.heap.size ≤ k) := Lib.hid HS.out.2.2
      go_wp2_with fail
      rw [HCP.out]
      obtain ⟨uvx, kpx, rkx, ox, nx⟩ := RM.out
      refine (HCUT.out wr uvx kpx rkx).mono ?_
      rintro e w5 ⟨rfl, hm⟩
      have hon := hm.only
      have rm2 : Rm w r uv w5 S2 := by
        obtain ⟨uv4, kp4, k4, o4, n4⟩ := hm
        refine ⟨uv4, kp4, k4, ox.trans o4 (fun x hx => .inl hx), fun g e => ?_⟩
        rcases n4 g e with e | e
        · exact nx g e
        · exact .inr (Nat.le_trans ox.size e)
      replace RM := Lib.hid rm2
      replace KGW := Lib.hid (KGW.out.only hon (by simp [hgr.out.1]))
      replace RW := Lib.hid (ownsS_of RW.out fun k hk hl => hon.block k hl (by have := RB.out k hk; have := hgr.out.2; simp; omega))
      clear hm hon rm2 rkx ox nx HCUT
      clear ko
      have ko := KGW.out.cell 0
      simp only [List.getElem?_toArray, List.getElem?_cons_succ, List.getElem?_cons_zero] at ko
      go_wp2_with fail
      obtain ⟨uvx, kpx, rkx, ox, nx⟩ := RM.out
      refine (HCUT2.out w5 uvx kpx rkx).mono ?_
      rintro e w7 ⟨rfl, hm⟩
      have hon := hm.only
      have rm2 : Rm w r uv w7 S3 := by
        obtain ⟨uv4, kp4, k4, o4, n4⟩ := hm
        refine ⟨uv4, kp4, k4, ox.trans o4 (fun x hx => .inl hx), fun g e => ?_⟩
        rcases n4 g e with e | e
        · exact nx g e
        · exact .inr (Nat.le_trans ox.size e)
      replace RM := Lib.hid rm2
      replace KGW := Lib.hid (KGW.out.only hon (by simp [hgr.out.1]))
      replace RW := Lib.hid (ownsS_of RW.out fun k hk hl => hon.block k hl (by have := RB.out k hk; have := hgr.out.2; simp; omega))
      clear hm hon rm2 rkx ox nx HCUT2
      clear ko
      go_wp2_with fail
      have hbn : Below w7.heap.size w7 (w7.alloc (.cells (rlc r ⟨1, g1, done.length, false⟩) 102)) := by go_grown
      rw [show R.1.length = done.length by rw [HR1.out], HR1.out]
      refine ⟨rfl, .tuple #[.pointer (some ⟨w7.heap.size, 0, none⟩), .string ⟨s1.toArray⟩, .slice ra done.length rc, .int .i64 0], by simp [results, Tryd.results60, go_sem], ?_⟩
      exact ⟨_, _, rfl, RM.out.down hbn, ownsS_of RW.out fun k hk hl => hbn.block k hl, fun k hk => Nat.le_trans HB.out.size (RB.out k hk), fun _ => ⟨_, rfl, RM.out.only.size, Bk.new rfl⟩, fun h => absurd rfl h⟩
set_option maxHeartbeats 32000000 in
theorem ropen1_bothdies {w : World} {r : Nat} {S : St} {uv : Value} {kp : Int} (h : Rk w r S uv kp) (hg : S.gone = false) (hc : (begins S.f1).1 > (begins S.f0).1) (hz : ¬ (begins S.f1).1 = 0) (ht : (recsOf (begins S.f1).2.2).2.length > 0) (hc1 : (S.cut 1 ((S.f1.length - (recsOf (begins S.f1).2.2).2.length : Nat) : Int)).1 = 0) (ho : S.f0.length > 0) (hc2 : ((S.cut 1 ((S.f1.length - (recsOf (begins S.f1).2.2).2.length : Nat) : Int)).2.cut 0 0).1 = 2) : Calls Tryd.prog 60 #[.pointer (some ⟨r, 0, none⟩)] w fun e w' => ROes w r uv (2, (⟨0, 0, 0, false⟩, [], []), ((S.cut 1 ((S.f1.length - (recsOf (begins S.f1).2.2).2.length : Nat) : Int)).2.cut 0 0).2) e w' := by
  have c5 : w.cell? ⟨r, 5, none⟩ = some (.bool S.gone) := h.blk.cell 5
  rw [hg] at c5
  have H := Lib.hid h
  have hl0 := h.wf.l0
  have hl1 := h.wf.l1
  have HF := Lib.hid (files40 r S uv kp w h)
  have HC0 := Lib.hid (counts_any S.f0 hl0)
  have HC1 := Lib.hid (counts_any S.f1 hl1)
  obtain ⟨hbe, hbl⟩ := begins_behind hz
  obtain ⟨g0, hg0⟩ : ∃ n, n = (begins S.f0).1 := ⟨_, rfl⟩
  obtain ⟨g1, hg1⟩ : ∃ n, n = (begins S.f1).1 := ⟨_, rfl⟩
  have HG0 : Hid ((begins S.f0).1 = g0) := Lib.hid hg0.symm
  have HG1 : Hid ((begins S.f1).1 = g1) := Lib.hid hg1.symm
  rw [← hg0, ← hg1] at hc
  have hcm : decide ((g0 : Int) < (g1 : Int)) = true := decide_eq_true (by omega)
  have hcmn : decide (g0 < g1) = true := decide_eq_true (by omega)
  have HZ : Hid (g1 ≠ 0) := Lib.hid (by rw [hg1]; exact hz)
  have hz2 : ((g1 : Int) == 0) = false := by have := HZ.out; simp; omega
  have hz3 : decide (g1 = 0) = false := decide_eq_false HZ.out
  
  have HW := Lib.hid (fun p (hp : p ≤ S.f1.length) => whole_any S.f1 p 65536 hp hl1 (by omega))
  have HLE : Hid (S.f1.length ≤ 1048576) := Lib.hid hl1
  obtain ⟨sn, hsn⟩ : ∃ x, x = (begins S.f1).2.1 := ⟨_, rfl⟩
  obtain ⟨R, hR⟩ : ∃ x, x = recsOf (begins S.f1).2.2 := ⟨_, rfl⟩
  have HSN : Hid ((begins S.f1).2.1 = sn) := Lib.hid hsn.symm
  have HRB : Hid (R = recsOf (S.f1.drop (20 + sn.length)) ∧ 20 + sn.length ≤ S.f1.length) := Lib.hid (by rw [hR, hbe, hsn]; exact ⟨rfl, hbl⟩)
  have hrl : 8 * R.1.length + R.2.length ≤ 1048576 := by rw [hR]; exact Nat.le_trans (recs_len _ _ (Nat.le_refl _)) (Nat.le_trans (begins_le S.f1).2 hl1)
  rw [← hR] at ht hc1 hc2 
  rw [← hR]
  have HRL := Lib.hid hrl
  have HCUT : Hid (∀ (wx : World) (uvx : Value) (kpx : Int), Rk wx r S uvx kpx → Calls Tryd.prog 87 #[.pointer (some ⟨r, 0, none⟩), .int .i64 1, .int .i64 ((S.f1.length - R.2.length : Nat) : Int)] wx fun e w' => e = .returned (.int .i64 ((S.cut 1 ((S.f1.length - R.2.length : Nat) : Int)).1 : Int)) ∧ Rm wx r uvx w' (S.cut 1 ((S.f1.length - R.2.length : Nat) : Int)).2) := Lib.hid fun wx uvx kpx hk => cut35 r S uvx kpx 1 _ (by omega) (by omega) wx hk
  rw [hc1] at HCUT
  have HCUT2 : Hid (∀ (wx : World) (uvx : Value) (kpx : Int), Rk wx r ((S.cut 1 ((S.f1.length - R.2.length : Nat) : Int)).2) uvx kpx → Calls Tryd.prog 87 #[.pointer (some ⟨r, 0, none⟩), .int .i64 0, .int .i64 0] wx fun e w' => e = .returned (.int .i64 ((((S.cut 1 ((S.f1.length - R.2.length : Nat) : Int)).2).cut 0 0).1 : Int)) ∧ Rm wx r uvx w' (((S.cut 1 ((S.f1.length - R.2.length : Nat) : Int)).2).cut 0 0).2) := Lib.hid fun wx uvx kpx hk => cut35 r _ uvx kpx 0 0 (by omega) (by omega) wx hk
  rw [hc2] at HCUT2
  generalize (((S.cut 1 ((S.f1.length - R.2.length : Nat) : Int)).2).cut 0 0).2 = S3 at *
  generalize (S.cut 1 ((S.f1.length - R.2.length : Nat) : Int)).2 = S2 at *
  obtain ⟨torn, htn⟩ : ∃ n, n = R.2.length := ⟨_, rfl⟩
  have HTN := Lib.hid htn
  have htz : torn > 0 := by rw [htn]; exact ht
  rw [← htn] at HCUT
  have hdo : decide ((0 : Int) < (S.f0.length : Int)) = true := decide_eq_true (by omega)
  have hdon : decide (0 < S.f0.length) = true := decide_eq_true (by omega)
  clear h hc hg0 hg1 hl0 hl1 hz hbe hbl hsn hR hrl htn ht hc1 ho hc2
  go_enter Tryd.func60, Tryd.ntmps60
  go_wp2_with fail
  refine HF.out.mono ?_
  rintro e w1 ⟨⟨v, rfl, ht⟩, hb⟩
  obtain ⟨g, rfl, hgB, hgk⟩ := ht
  have HB := Lib.hid hb
  have KG := Lib.hid hgk
  have HG := Lib.hid hgB
  have k0 := hgk.cell 0
  have k1 := hgk.cell 1
  simp only [List.getElem?_toArray, List.getElem?_cons_succ, List.getElem?_cons_zero] at k0 k1
  clear hb hgk hgB HF
  go_wp2_with fail
  refine (HC0.out w1).mono ?_
  rintro e w2 ⟨⟨s0, a0, rfl, ha0⟩, rfl⟩
  have HA0 := Lib.hid ha0
  clear ha0
  go_wp2_with fail
  refine (HC1.out w1).mono ?_
  rintro e w2 ⟨⟨s1, a1, rfl, ha1⟩, rfl⟩
  have HA1 := Lib.hid ha1
  clear ha1 HC0 HC1
  rw [HG0.out, HG1.out]
  obtain ⟨hs, ha⟩ := HA1.out (by rw [HG1.out]; exact HZ.out)
  rw [HSN.out] at hs ha
  subst hs ha
  go_wp2_with fail
  have SR0 : Hid (Sr w1 (w1.alloc (.cells #[] 9)) (.slice (some ⟨w1.heap.size, 0, none⟩) 0 0) []) := Lib.hid ⟨⟨rfl, .inr ⟨w1.heap.size, 0, #[], rfl, Nat.zero_le _, Go.heap_alloc_new w1 _, Nat.le_refl _, by unfold maxLen; omega, rfl, rfl⟩⟩, by go_grown, fun k hk => by cases hk; exact Nat.le_refl _⟩
  clear k0 k1
  go_loopw [9, 14, 15, 16] (fun av rv sv ov wr => ∃ (p : Nat) (done : List Bs), av = .int .i64 (p : Int) ∧ p ≤ S.f1.length ∧ Sr w1 wr rv done ∧ R = (done ++ (recsOf (S.f1.drop p)).1, (recsOf (S.f1.drop p)).2)) (fun av _ _ _ _ => 1048577 - (intOf av).toNat)
  case atStart => exact ⟨20 + s1.length, [], by go_num, HRB.out.2, SR0.out, by rw [HRB.out.1]; rfl⟩
  case round =>
    clear SR0
    obtain ⟨p, done, rfl, hp, hsr, hrec⟩ := hrel
    have HS := Lib.hid hsr
    have HE := Lib.hid hrec
    have kk := (KG.out.below HS.out.2.1).cell 1
    simp only [List.getElem?_toArray, List.getElem?_cons_succ, List.getElem?_cons_zero] at kk
    have hpi : (p : Int) ≤ 1048576 := by have := HLE.out; omega
    clear hsr hrec
    go_wp2_with fail
    refine (HW.out p hp wr).mono ?_
    cases hu : unframed (S.f1.drop p) 65536 with
    | some x =>
      obtain ⟨rr, bb⟩ := x
      rintro e w3 ⟨rfl, rfl⟩
      have hrs := recsOf_some hu
      have hud := unframed_drop hu
      have hul := unframed_len hu
      rw [hrs] at HE
      rw [hud, List.drop_drop] at HE
      have hE2 : R = ((done ++ [rr]) ++ (recsOf (S.f1.drop (p + (8 + rr.length)))).1, (recsOf (S.f1.drop (p + (8 + rr.length)))).2) := by rw [HE.out]; simp
      have hdl : done.length + 1 ≤ 4194304 := by
        have h1 := HRL.out
        rw [hE2] at h1
        simp only [List.length_append, List.length_cons, List.length_nil] at h1
        omega
      simp only [List.length_drop] at hul
      have HUL := Lib.hid hul
      have hrl2 : (rr.length : Int) ≤ 65536 := by omega
      replace HE := Lib.hid hE2
      clear hu hrs hud hul hE2 kk
      go_wp2_with (at_builtin; refine wp_rec rfl _ _ rfl _ done wr.heap.size 1 rr rfl rfl (HS.out.down (by go_grown)) (Bk.new rfl) hdl ?_; intro v' w4 hs2; replace HS := Lib.hid hs2; clear hs2)
      go_roundw
      case rel => exact ⟨p + (8 + rr.length), done ++ [rr], by go_num, by have := HUL.out; omega, HS.out, HE.out⟩
      case measure => have := HUL.out; simp [intOf]; omega
    | none =>
      rintro e w3 ⟨⟨sx, rfl⟩, rfl⟩
      have hrn := recsOf_none hu
      rw [hrn] at HE
      obtain ⟨hR1, hR2⟩ : R.1 = done ∧ R.2.length = S.f1.length - p := ⟨by rw [HE.out]; simp, by rw [HE.out, List.length_drop]⟩
      have HR1 := Lib.hid hR1
      have htp : torn = S.f1.length - p := by rw [HTN.out]; exact hR2
      have hcp : (p : Int) = ((S.f1.length - torn : Nat) : Int) := by omega
      have hdt : decide ((p : Int) < (S.f1.length : Int)) = true := decide_eq_true (by omega)
      have hdtn : decide (p < S.f1.length) = true := decide_eq_true (by omega)
      have ko := (KG.out.below HS.out.2.1).cell 0
      simp only [List.getElem?_toArray, List.getElem?_cons_succ, List.getElem?_cons_zero] at ko
      have HCP := Lib.hid hcp
      clear hu hrn hR1 hR2 htp hcp HE
      have HB3 := Lib.hid (HB.out.trans (HS.out.2.1.mono HB.out.size))
      have hrg : Bk 61 wr r _ := H.out.blk.below HB3.out
      have hgn : g ≠ r := fun e => by
        have h1 := (KG.out.below HS.out.2.1)
        rw [e] at h1
        have h2 := h1.symm.trans hrg
        injection h2 with h3
        injection h3 with h4 h5
        exact absurd h5 (by decide)
      have hgr : Hid (g ≠ r ∧ r < w1.heap.size) := Lib.hid ⟨hgn, Nat.lt_of_lt_of_le H.out.blk.lt HB.out.size⟩
      clear hgn
      clear hrg
      have RM : Hid (Rm w r uv wr S) := Lib.hid (Rm.same H.out HB3.out)
      have KGW : Hid (Bk 9 wr g #[.string ⟨S.f0.toArray⟩, .string ⟨S.f1.toArray⟩]) := Lib.hid (KG.out.below HS.out.2.1)
      obtain ⟨ra, rc, hrv⟩ := HS.out.shape
      subst hrv
      have RW : Hid (wr.ownsRow 0 9 1 (.slice ra done.length rc) done.length (scells done)) := Lib.hid HS.out.1
      have RB : Hid (∀ k, (Value.slice ra done.length rc).ownBlock = some k → w1.heap.size ≤ k) := Lib.hid HS.out.2.2
      go_wp2_with fail
      rw [HCP.out]
      obtain ⟨uvx, kpx, rkx, ox, nx⟩ := RM.out
      refine (HCUT.out wr uvx kpx rkx).mono ?_
      rintro e w5 ⟨rfl, hm⟩
      have hon := hm.only
      have rm2 : Rm w r uv w5 S2 := by
        obtain ⟨uv4, kp4, k4, o4, n4⟩ := hm
        refine ⟨uv4, kp4, k4, ox.trans o4 (fun x hx => .inl hx), fun g e => ?_⟩
        rcases n4 g e with e | e
        · exact nx g e
        · exact .inr (Nat.le_trans ox.size e)
      replace RM := Lib.hid rm2
      replace KGW := Lib.hid (KGW.out.only hon (by simp [hgr.out.1]))
      replace RW := Lib.hid (ownsS_of RW.out fun k hk hl => hon.block k hl (by have := RB.out k hk; have := hgr.out.2; simp; omega))
      clear hm hon rm2 rkx ox nx HCUT
      clear ko
      have ko := KGW.out.cell 0
      simp only [List.getElem?_toArray, List.getElem?_cons_succ, List.getElem?_cons_zero] at ko
      go_wp2_with fail
      obtain ⟨uvx, kpx, rkx, ox, nx⟩ := RM.out
      refine (HCUT2.out w5 uvx kpx rkx).mono ?_
      rintro e w7 ⟨rfl, hm⟩
      have hon := hm.only
      have rm2 : Rm w r uv w7 S3 := by
        obtain ⟨uv4, kp4, k4, o4, n4⟩ := hm
        refine ⟨uv4, kp4, k4, ox.trans o4 (fun x hx => .inl hx), fun g e => ?_⟩
        rcases n4 g e with e | e
        · exact nx g e
        · exact .inr (Nat.le_trans ox.size e)
      replace RM := Lib.hid rm2
      replace KGW := Lib.hid (KGW.out.only hon (by simp [hgr.out.1]))
      replace RW := Lib.hid (ownsS_of RW.out fun k hk hl => hon.block k hl (by have := RB.out k hk; have := hgr.out.2; simp; omega))
      clear hm hon rm2 rkx ox nx HCUT2
      clear ko
      go_wp2_with fail
      refine ⟨rfl, .tuple #[.pointer none, .string ⟨#[]⟩, .slice none 0 0, .int .i64 2], by simp [results, Tryd.results60, go_sem], ?_⟩
      exact ⟨_, _, rfl, RM.out, owns_nil9 _, (fun k hk => by cases hk), (fun h => absurd h (by simp)), fun _ => rfl⟩
set_option maxHeartbeats 32000000 in
theorem ropen1_torndies {w : World} {r : Nat} {S : St} {uv : Value} {kp : Int} (h : Rk w r S uv kp) (hg : S.gone = false) (hc : (begins S.f1).1 > (begins S.f0).1) (hz : ¬ (begins S.f1).1 = 0) (ht : (recsOf (begins S.f1).2.2).2.length > 0) (hc1 : (S.cut 1 ((S.f1.length - (recsOf (begins S.f1).2.2).2.length : Nat) : Int)).1 = 2) : Calls Tryd.prog 60 #[.pointer (some ⟨r, 0, none⟩)] w fun e w' => ROes w r uv (2, (⟨0, 0, 0, false⟩, [], []), (S.cut 1 ((S.f1.length - (recsOf (begins S.f1).2.2).2.length : Nat) : Int)).2) e w' := by
  have c5 : w.cell? ⟨r, 5, none⟩ = some (.bool S.gone) := h.blk.cell 5
  rw [hg] at c5
  have H := Lib.hid h
  have hl0 := h.wf.l0
  have hl1 := h.wf.l1
  have HF := Lib.hid (files40 r S uv kp w h)
  have HC0 := Lib.hid (counts_any S.f0 hl0)
  have HC1 := Lib.hid (counts_any S.f1 hl1)
  obtain ⟨hbe, hbl⟩ := begins_behind hz
  obtain ⟨g0, hg0⟩ : ∃ n, n = (begins S.f0).1 := ⟨_, rfl⟩
  obtain ⟨g1, hg1⟩ : ∃ n, n = (begins S.f1).1 := ⟨_, rfl⟩
  have HG0 : Hid ((begins S.f0).1 = g0) := Lib.hid hg0.symm
  have HG1 : Hid ((begins S.f1).1 = g1) := Lib.hid hg1.symm
  rw [← hg0, ← hg1] at hc
  have hcm : decide ((g0 : Int) < (g1 : Int)) = true := decide_eq_true (by omega)
  have hcmn : decide (g0 < g1) = true := decide_eq_true (by omega)
  have HZ : Hid (g1 ≠ 0) := Lib.hid (by rw [hg1]; exact hz)
  have hz2 : ((g1 : Int) == 0) = false := by have := HZ.out; simp; omega
  have hz3 : decide (g1 = 0) = false := decide_eq_false HZ.out
  
  have HW := Lib.hid (fun p (hp : p ≤ S.f1.length) => whole_any S.f1 p 65536 hp hl1 (by omega))
  have HLE : Hid (S.f1.length ≤ 1048576) := Lib.hid hl1
  obtain ⟨sn, hsn⟩ : ∃ x, x = (begins S.f1).2.1 := ⟨_, rfl⟩
  obtain ⟨R, hR⟩ : ∃ x, x = recsOf (begins S.f1).2.2 := ⟨_, rfl⟩
  have HSN : Hid ((begins S.f1).2.1 = sn) := Lib.hid hsn.symm
  have HRB : Hid (R = recsOf (S.f1.drop (20 + sn.length)) ∧ 20 + sn.length ≤ S.f1.length) := Lib.hid (by rw [hR, hbe, hsn]; exact ⟨rfl, hbl⟩)
  have hrl : 8 * R.1.length + R.2.length ≤ 1048576 := by rw [hR]; exact Nat.le_trans (recs_len _ _ (Nat.le_refl _)) (Nat.le_trans (begins_le S.f1).2 hl1)
  rw [← hR] at ht hc1 
  rw [← hR]
  have HRL := Lib.hid hrl
  have HCUT : Hid (∀ (wx : World) (uvx : Value) (kpx : Int), Rk wx r S uvx kpx → Calls Tryd.prog 87 #[.pointer (some ⟨r, 0, none⟩), .int .i64 1, .int .i64 ((S.f1.length - R.2.length : Nat) : Int)] wx fun e w' => e = .returned (.int .i64 ((S.cut 1 ((S.f1.length - R.2.length : Nat) : Int)).1 : Int)) ∧ Rm wx r uvx w' (S.cut 1 ((S.f1.length - R.2.length : Nat) : Int)).2) := Lib.hid fun wx uvx kpx hk => cut35 r S uvx kpx 1 _ (by omega) (by omega) wx hk
  rw [hc1] at HCUT
  generalize (S.cut 1 ((S.f1.length - R.2.length : Nat) : Int)).2 = S2 at *
  obtain ⟨torn, htn⟩ : ∃ n, n = R.2.length := ⟨_, rfl⟩
  have HTN := Lib.hid htn
  have htz : torn > 0 := by rw [htn]; exact ht
  rw [← htn] at HCUT
  clear h hc hg0 hg1 hl0 hl1 hz hbe hbl hsn hR hrl htn ht hc1
  go_enter Tryd.func60, Tryd.ntmps60
  go_wp2_with fail
  refine HF.out.mono ?_
  rintro e w1 ⟨⟨v, rfl, ht⟩, hb⟩
  obtain ⟨g, rfl, hgB, hgk⟩ := ht
  have HB := Lib.hid hb
  have KG := Lib.hid hgk
  have HG := Lib.hid hgB
  have k0 := hgk.cell 0
  have k1 := hgk.cell 1
  simp only [List.getElem?_toArray, List.getElem?_cons_succ, List.getElem?_cons_zero] at k0 k1
  clear hb hgk hgB HF
  go_wp2_with fail
  refine (HC0.out w1).mono ?_
  rintro e w2 ⟨⟨s0, a0, rfl, ha0⟩, rfl⟩
  have HA0 := Lib.hid ha0
  clear ha0
  go_wp2_with fail
  refine (HC1.out w1).mono ?_
  rintro e w2 ⟨⟨s1, a1, rfl, ha1⟩, rfl⟩
  have HA1 := Lib.hid ha1
  clear ha1 HC0 HC1
  rw [HG0.out, HG1.out]
  obtain ⟨hs, ha⟩ := HA1.out (by rw [HG1.out]; exact HZ.out)
  rw [HSN.out] at hs ha
  subst hs ha
  go_wp2_with fail
  have SR0 : Hid (Sr w1 (w1.alloc (.cells #[] 9)) (.slice (some ⟨w1.heap.size, 0, none⟩) 0 0) []) := Lib.hid ⟨⟨rfl, .inr ⟨w1.heap.size, 0, #[], rfl, Nat.zero_le _, Go.heap_alloc_new w1 _, Nat.le_refl _, by unfold maxLen; omega, rfl, rfl⟩⟩, by go_grown, fun k hk => by cases hk; exact Nat.le_refl _⟩
  clear k0 k1
  go_loopw [9, 14, 15, 16] (fun av rv sv ov wr => ∃ (p : Nat) (done : List Bs), av = .int .i64 (p : Int) ∧ p ≤ S.f1.length ∧ Sr w1 wr rv done ∧ R = (done ++ (recsOf (S.f1.drop p)).1, (recsOf (S.f1.drop p)).2)) (fun av _ _ _ _ => 1048577 - (intOf av).toNat)
  case atStart => exact ⟨20 + s1.length, [], by go_num, HRB.out.2, SR0.out, by rw [HRB.out.1]; rfl⟩
  case round =>
    clear SR0
    obtain ⟨p, done, rfl, hp, hsr, hrec⟩ := hrel
    have HS := Lib.hid hsr
    have HE := Lib.hid hrec
    have kk := (KG.out.below HS.out.2.1).cell 1
    simp only [List.getElem?_toArray, List.getElem?_cons_succ, List.getElem?_cons_zero] at kk
    have hpi : (p : Int) ≤ 1048576 := by have := HLE.out; omega
    clear hsr hrec
    go_wp2_with fail
    refine (HW.out p hp wr).mono ?_
    cases hu : unframed (S.f1.drop p) 65536 with
    | some x =>
      obtain ⟨rr, bb⟩ := x
      rintro e w3 ⟨rfl, rfl⟩
      have hrs := recsOf_some hu
      have hud := unframed_drop hu
      have hul := unframed_len hu
      rw [hrs] at HE
      rw [hud, List.drop_drop] at HE
      have hE2 : R = ((done ++ [rr]) ++ (recsOf (S.f1.drop (p + (8 + rr.length)))).1, (recsOf (S.f1.drop (p + (8 + rr.length)))).2) := by rw [HE.out]; simp
      have hdl : done.length + 1 ≤ 4194304 := by
        have h1 := HRL.out
        rw [hE2] at h1
        simp only [List.length_append, List.length_cons, List.length_nil] at h1
        omega
      simp only [List.length_drop] at hul
      have HUL := Lib.hid hul
      have hrl2 : (rr.length : Int) ≤ 65536 := by omega
      replace HE := Lib.hid hE2
      clear hu hrs hud hul hE2 kk
      go_wp2_with (at_builtin; refine wp_rec rfl _ _ rfl _ done wr.heap.size 1 rr rfl rfl (HS.out.down (by go_grown)) (Bk.new rfl) hdl ?_; intro v' w4 hs2; replace HS := Lib.hid hs2; clear hs2)
      go_roundw
      case rel => exact ⟨p + (8 + rr.length), done ++ [rr], by go_num, by have := HUL.out; omega, HS.out, HE.out⟩
      case measure => have := HUL.out; simp [intOf]; omega
    | none =>
      rintro e w3 ⟨⟨sx, rfl⟩, rfl⟩
      have hrn := recsOf_none hu
      rw [hrn] at HE
      obtain ⟨hR1, hR2⟩ : R.1 = done ∧ R.2.length = S.f1.length - p := ⟨by rw [HE.out]; simp, by rw [HE.out, List.length_drop]⟩
      have HR1 := Lib.hid hR1
      have htp : torn = S.f1.length - p := by rw [HTN.out]; exact hR2
      have hcp : (p : Int) = ((S.f1.length - torn : Nat) : Int) := by omega
      have hdt : decide ((p : Int) < (S.f1.length : Int)) = true := decide_eq_true (by omega)
      have hdtn : decide (p < S.f1.length) = true := decide_eq_true (by omega)
      have ko := (KG.out.below HS.out.2.1).cell 0
      simp only [List.getElem?_toArray, List.getElem?_cons_succ, List.getElem?_cons_zero] at ko
      have HCP := Lib.hid hcp
      clear hu hrn hR1 hR2 htp hcp HE
      have HB3 := Lib.hid (HB.out.trans (HS.out.2.1.mono HB.out.size))
      have hrg : Bk 61 wr r _ := H.out.blk.below HB3.out
      have hgn : g ≠ r := fun e => by
        have h1 := (KG.out.below HS.out.2.1)
        rw [e] at h1
        have h2 := h1.symm.trans hrg
        injection h2 with h3
        injection h3 with h4 h5
        exact absurd h5 (by decide)
      have hgr : Hid (g ≠ r ∧ r < w1.heap.size) := Lib.hid ⟨hgn, Nat.lt_of_lt_of_le H.out.blk.lt HB.out.size⟩
      clear hgn
      clear hrg
      have RM : Hid (Rm w r uv wr S) := Lib.hid (Rm.same H.out HB3.out)
      have KGW : Hid (Bk 9 wr g #[.string ⟨S.f0.toArray⟩, .string ⟨S.f1.toArray⟩]) := Lib.hid (KG.out.below HS.out.2.1)
      obtain ⟨ra, rc, hrv⟩ := HS.out.shape
      subst hrv
      have RW : Hid (wr.ownsRow 0 9 1 (.slice ra done.length rc) done.length (scells done)) := Lib.hid HS.out.1
      have RB : Hid (∀ k, (Value.slice ra done.length rc).ownBlock = some k → w1.heap.size ≤ k) := Lib.hid HS.out.2.2
      go_wp2_with fail
      rw [HCP.out]
      obtain ⟨uvx, kpx, rkx, ox, nx⟩ := RM.out
      refine (HCUT.out wr uvx kpx rkx).mono ?_
      rintro e w5 ⟨rfl, hm⟩
      have hon := hm.only
      have rm2 : Rm w r uv w5 S2 := by
        obtain ⟨uv4, kp4, k4, o4, n4⟩ := hm
        refine ⟨uv4, kp4, k4, ox.trans o4 (fun x hx => .inl hx), fun g e => ?_⟩
        rcases n4 g e with e | e
        · exact nx g e
        · exact .inr (Nat.le_trans ox.size e)
      replace RM := Lib.hid rm2
      replace KGW := Lib.hid (KGW.out.only hon (by simp [hgr.out.1]))
      replace RW := Lib.hid (ownsS_of RW.out fun k hk hl => hon.block k hl (by have := RB.out k hk; have := hgr.out.2; simp; omega))
      clear hm hon rm2 rkx ox nx HCUT
      go_wp2_with fail
      refine ⟨rfl, .tuple #[.pointer none, .string ⟨#[]⟩, .slice none 0 0, .int .i64 2], by simp [results, Tryd.results60, go_sem], ?_⟩
      exact ⟨_, _, rfl, RM.out, owns_nil9 _, (fun k hk => by cases hk), (fun h => absurd h (by simp)), fun _ => rfl⟩
theorem ropen0_any {w : World} {r : Nat} {S : St} {uv : Value} {kp : Int} (h : Rk w r S uv kp) (hg : S.gone = false) (hc : ¬ (begins S.f1).1 > (begins S.f0).1) (hcl : Clean S) : Calls Tryd.prog 60 #[.pointer (some ⟨r, 0, none⟩)] w fun e w' => ROes w r uv (lopen S) e w' := by
  have hn : newest S = (0, begins S.f0) := by unfold newest; rw [if_neg hc]
  obtain ⟨c1, c2⟩ := hcl
  unfold lopen
  rw [hn] at c1 c2
  rw [if_neg (by simp [hg]), hn]
  simp only at c1 c2 ⊢
  by_cases h0 : (begins S.f0).1 = 0
  · rw [if_pos h0]; exact ropen_form0 h hg hc h0
  · rw [if_neg h0]
    have hrl := recs_len _ (begins S.f0).2.2 (Nat.le_refl _)
    rw [show recs (begins S.f0).2.2.length (begins S.f0).2.2 = recsOf (begins S.f0).2.2 from rfl] at hrl
    have hbl := (begins_le S.f0).2
    have hfe : S.file 0 = S.f0 := rfl
    unfold ocut2 ocut
    simp only [show S.file 0 = S.f0 from rfl, show (1 - 0 : Nat) = 1 from rfl, show ((0 : Nat) : Int) = 0 from rfl, show ((1 : Nat) : Int) = 1 from rfl, show S.file 1 = S.f1 from rfl]
    by_cases ht : (recsOf (begins S.f0).2.2).2.length > 0
    · simp only [if_pos ht]
      rcases (show (S.cut 0 ((S.f0.length - (recsOf (begins S.f0).2.2).2.length : Nat) : Int)).1 = 0 ∨ (S.cut 0 ((S.f0.length - (recsOf (begins S.f0).2.2).2.length : Nat) : Int)).1 = 2 from cut_code S 0 (S.f0.length - (recsOf (begins S.f0).2.2).2.length) (by omega) (by rw [hfe]; omega) (c1 ht)) with hc1 | hc1
      · obtain ⟨k1, k2, k3, k4, k5, k6, k7, k8⟩ := cut_ok h.wf (f := 0) (n := S.f0.length - (recsOf (begins S.f0).2.2).2.length) (by omega) hc1
        simp only [if_pos hc1]
        have hk2 : (S.cut 0 ((S.f0.length - (recsOf (begins S.f0).2.2).2.length : Nat) : Int)).2.file 1 = S.f1 := k2
        rw [hk2]
        by_cases ho : S.f1.length > 0
        · simp only [if_pos ho]
          rcases (show ((S.cut 0 ((S.f0.length - (recsOf (begins S.f0).2.2).2.length : Nat) : Int)).2.cut 1 (0 : Int)).1 = 0 ∨ ((S.cut 0 ((S.f0.length - (recsOf (begins S.f0).2.2).2.length : Nat) : Int)).2.cut 1 (0 : Int)).1 = 2 from cut_code _ 1 0 (by omega) (Nat.zero_le _) (by rw [hk2]; rw [show (S.cut 0 ((S.f0.length - (recsOf (begins S.f0).2.2).2.length : Nat) : Int)).2.safe 1 = S.safe 1 from k3]; exact c2 ho)) with hc2 | hc2
          · rw [if_pos hc2]; exact ropen0_both h hg hc h0 ht hc1 ho hc2
          · rw [if_neg (by rw [hc2]; decide)]; exact ropen0_bothdies h hg hc h0 ht hc1 ho hc2
        · simp only [if_neg ho, if_true]; exact ropen0_torn h hg hc h0 ht hc1 (by omega)
      · simp only [if_neg (show ¬ (S.cut 0 ((S.f0.length - (recsOf (begins S.f0).2.2).2.length : Nat) : Int)).1 = 0 by rw [hc1]; decide)]
        exact ropen0_torndies h hg hc h0 ht hc1
    · simp only [if_neg ht, if_true, show S.file 1 = S.f1 from rfl]
      by_cases ho : S.f1.length > 0
      · simp only [if_pos ho]
        rcases (show (S.cut 1 (0 : Int)).1 = 0 ∨ (S.cut 1 (0 : Int)).1 = 2 from cut_code S 1 0 (by omega) (Nat.zero_le _) (c2 ho)) with hc2 | hc2
        · rw [if_pos hc2]; exact ropen0_other h hg hc h0 (by omega) ho hc2
        · rw [if_neg (by rw [hc2]; decide)]; exact ropen0_otherdies h hg hc h0 (by omega) ho hc2
      · simp only [if_neg ho, if_true]; exact ropen0_plain h hg hc h0 (by omega) (by omega)
theorem ropen1_any {w : World} {r : Nat} {S : St} {uv : Value} {kp : Int} (h : Rk w r S uv kp) (hg : S.gone = false) (hc : (begins S.f1).1 > (begins S.f0).1) (hcl : Clean S) : Calls Tryd.prog 60 #[.pointer (some ⟨r, 0, none⟩)] w fun e w' => ROes w r uv (lopen S) e w' := by
  have hn : newest S = (1, begins S.f1) := by unfold newest; rw [if_pos hc]
  obtain ⟨c1, c2⟩ := hcl
  unfold lopen
  rw [hn] at c1 c2
  rw [if_neg (by simp [hg]), hn]
  simp only at c1 c2 ⊢
  by_cases h0 : (begins S.f1).1 = 0
  · rw [if_pos h0]; exact absurd h0 (by omega)
  · rw [if_neg h0]
    have hrl := recs_len _ (begins S.f1).2.2 (Nat.le_refl _)
    rw [show recs (begins S.f1).2.2.length (begins S.f1).2.2 = recsOf (begins S.f1).2.2 from rfl] at hrl
    have hbl := (begins_le S.f1).2
    have hfe : S.file 1 = S.f1 := rfl
    unfold ocut2 ocut
    simp only [show S.file 1 = S.f1 from rfl, show (1 - 1 : Nat) = 0 from rfl, show ((1 : Nat) : Int) = 1 from rfl, show ((0 : Nat) : Int) = 0 from rfl, show S.file 0 = S.f0 from rfl]
    by_cases ht : (recsOf (begins S.f1).2.2).2.length > 0
    · simp only [if_pos ht]
      rcases (show (S.cut 1 ((S.f1.length - (recsOf (begins S.f1).2.2).2.length : Nat) : Int)).1 = 0 ∨ (S.cut 1 ((S.f1.length - (recsOf (begins S.f1).2.2).2.length : Nat) : Int)).1 = 2 from cut_code S 1 (S.f1.length - (recsOf (begins S.f1).2.2).2.length) (by omega) (by rw [hfe]; omega) (c1 ht)) with hc1 | hc1
      · obtain ⟨k1, k2, k3, k4, k5, k6, k7, k8⟩ := cut_ok h.wf (f := 1) (n := S.f1.length - (recsOf (begins S.f1).2.2).2.length) (by omega) hc1
        simp only [if_pos hc1]
        have hk2 : (S.cut 1 ((S.f1.length - (recsOf (begins S.f1).2.2).2.length : Nat) : Int)).2.file 0 = S.f0 := k2
        rw [hk2]
        by_cases ho : S.f0.length > 0
        · simp only [if_pos ho]
          rcases (show ((S.cut 1 ((S.f1.length - (recsOf (begins S.f1).2.2).2.length : Nat) : Int)).2.cut 0 (0 : Int)).1 = 0 ∨ ((S.cut 1 ((S.f1.length - (recsOf (begins S.f1).2.2).2.length : Nat) : Int)).2.cut 0 (0 : Int)).1 = 2 from cut_code _ 0 0 (by omega) (Nat.zero_le _) (by rw [hk2]; rw [show (S.cut 1 ((S.f1.length - (recsOf (begins S.f1).2.2).2.length : Nat) : Int)).2.safe 0 = S.safe 0 from k3]; exact c2 ho)) with hc2 | hc2
          · rw [if_pos hc2]; exact ropen1_both h hg hc h0 ht hc1 ho hc2
          · rw [if_neg (by rw [hc2]; decide)]; exact ropen1_bothdies h hg hc h0 ht hc1 ho hc2
        · simp only [if_neg ho, if_true]; exact ropen1_torn h hg hc h0 ht hc1 (by omega)
      · simp only [if_neg (show ¬ (S.cut 1 ((S.f1.length - (recsOf (begins S.f1).2.2).2.length : Nat) : Int)).1 = 0 by rw [hc1]; decide)]
        exact ropen1_torndies h hg hc h0 ht hc1
    · simp only [if_neg ht, if_true, show S.file 0 = S.f0 from rfl]
      by_cases ho : S.f0.length > 0
      · simp only [if_pos ho]
        rcases (show (S.cut 0 (0 : Int)).1 = 0 ∨ (S.cut 0 (0 : Int)).1 = 2 from cut_code S 0 0 (by omega) (Nat.zero_le _) (c2 ho)) with hc2 | hc2
        · rw [if_pos hc2]; exact ropen1_other h hg hc h0 (by omega) ho hc2
        · rw [if_neg (by rw [hc2]; decide)]; exact ropen1_otherdies h hg hc h0 (by omega) ho hc2
      · simp only [if_neg ho, if_true]; exact ropen1_plain h hg hc h0 (by omega) (by omega)
theorem ropen_any {w : World} {r : Nat} {S : St} {uv : Value} {kp : Int} (h : Rk w r S uv kp) (hcl : Clean S) : Calls Tryd.prog 60 #[.pointer (some ⟨r, 0, none⟩)] w fun e w' => ROes w r uv (lopen S) e w' := by
  by_cases hg : S.gone = true
  · have e : lopen S = (2, (⟨0, 0, 0, false⟩, [], []), S) := by unfold lopen; rw [if_pos hg]
    rw [e]; exact ropen_dead h hg
  · have hg' : S.gone = false := by simpa using hg
    by_cases hc : (begins S.f1).1 > (begins S.f0).1
    · exact ropen1_any h hg' hc hcl
    · exact ropen0_any h hg' hc hcl
end Go.Proofs.YtmoihgniglomiaaDoor
