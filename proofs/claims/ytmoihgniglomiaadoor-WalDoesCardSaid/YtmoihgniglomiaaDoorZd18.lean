/- What the document's Open answers and leaves. Condition: the document's disk, that what must be cut off is safe. Disks whose bytes are all safe: what an opening leaves; two rows of texts are the same. Condition: none. Both disks opened at once: they tell the same. Condition: the program's table, that all that must be cut off is safe. -/
import Derived.Test.YtmoihgniglomiaaDoorZd17
import Derived.Test.YtmoihgniglomiaaDoorZd06
set_option linter.unusedVariables false
set_option linter.unusedSimpArgs false
set_option maxRecDepth 100000
namespace Go.Proofs.YtmoihgniglomiaaDoor
open Go.RowKit Go.Sort
def ROes (w : World) (r : Nat) (uv : Value) (x : Nat × (Wlg × Bs × List Bs) × St) (e : Ending) (w' : World) : Prop := ∃ lv rv, e = .returned (.tuple #[lv, .string ⟨x.2.1.2.1.toArray⟩, rv, .int .i64 (x.1 : Int)]) ∧ Rm w r uv w' x.2.2 ∧ w'.ownsRow 0 9 1 rv x.2.1.2.2.length (scells x.2.1.2.2) ∧ (∀ k, rv.ownBlock = some k → w.heap.size ≤ k) ∧
  (x.1 = 0 → ∃ b, lv = .pointer (some ⟨b, 0, none⟩) ∧ w.heap.size ≤ b ∧ Bk 102 w' b (rlc r x.2.1.1)) ∧ (x.1 ≠ 0 → lv = .pointer none)
theorem begins_behind {s : Bs} (h : (begins s).1 ≠ 0) : (begins s).2.2 = s.drop (20 + (begins s).2.1.length) ∧ 20 + (begins s).2.1.length ≤ s.length := by
  unfold begins at *
  split at h
  · rename_i hc
    cases hu : unframed (s.drop 12) 524288 with
    | none => rw [hu] at h; exact absurd rfl h
    | some x =>
      obtain ⟨sn, b⟩ := x
      rw [if_pos hc]
      simp only
      have h1 := unframed_drop hu
      have h2 := unframed_len hu
      rw [h1, List.drop_drop] at *
      simp only [List.length_drop] at h2
      exact ⟨by congr 1; omega, by omega⟩
  · exact absurd rfl h
set_option maxHeartbeats 8000000 in
theorem ropen_dead {w : World} {r : Nat} {S : St} {uv : Value} {kp : Int} (h : Rk w r S uv kp) (hg : S.gone = true) : Calls Tryd.prog 60 #[.pointer (some ⟨r, 0, none⟩)] w fun e w' => ROes w r uv (2, (⟨0, 0, 0, false⟩, [], []), S) e w' := by
  have c5 : w.cell? ⟨r, 5, none⟩ = some (.bool S.gone) := h.blk.cell 5
  rw [hg] at c5
  have H := Lib.hid h
  clear h
  go_enter Tryd.func60, Tryd.ntmps60
  go_wp2_with fail
  refine ⟨rfl, .tuple #[.pointer none, .string ⟨#[]⟩, .slice none 0 0, .int .i64 2], by simp [results, Tryd.results60, go_sem], ?_⟩
  exact ⟨_, _, rfl, Rm.same H.out (Below.refl _ _), owns_nil9 _, (fun k hk => by cases hk), (fun h => absurd h (by simp)), fun _ => rfl⟩
set_option maxHeartbeats 16000000 in
theorem ropen_form0 {w : World} {r : Nat} {S : St} {uv : Value} {kp : Int} (h : Rk w r S uv kp) (hg : S.gone = false) (hc : ¬ (begins S.f1).1 > (begins S.f0).1) (hz : (begins S.f0).1 = 0) : Calls Tryd.prog 60 #[.pointer (some ⟨r, 0, none⟩)] w fun e w' => ROes w r uv (100, (⟨0, 0, 0, false⟩, [], []), S) e w' := by
  have c5 : w.cell? ⟨r, 5, none⟩ = some (.bool S.gone) := h.blk.cell 5
  rw [hg] at c5
  have H := Lib.hid h
  have hl0 := h.wf.l0
  have hl1 := h.wf.l1
  have HF := Lib.hid (files40 r S uv kp w h)
  have HC0 := Lib.hid (counts_any S.f0 hl0)
  have HC1 := Lib.hid (counts_any S.f1 hl1)
  obtain ⟨g0, hg0⟩ : ∃ n, n = (begins S.f0).1 := ⟨_, rfl⟩
  obtain ⟨g1, hg1⟩ : ∃ n, n = (begins S.f1).1 := ⟨_, rfl⟩
  have HG0 : Hid ((begins S.f0).1 = g0) := Lib.hid hg0.symm
  have HG1 : Hid ((begins S.f1).1 = g1) := Lib.hid hg1.symm
  rw [← hg0, ← hg1] at hc
  have hcm : decide ((g0 : Int) < (g1 : Int)) = false := decide_eq_false (by omega)
  have hcmn : decide (g0 < g1) = false := decide_eq_false (by omega)
  have hz2 : g0 = 0 := by rw [hg0]; exact hz
  clear h hc hg0 hg1 hl0 hl1 hz
  subst hz2
  go_enter Tryd.func60, Tryd.ntmps60
  go_wp2_with fail
  refine HF.out.mono ?_
  rintro e w1 ⟨⟨v, rfl, ht⟩, hb⟩
  obtain ⟨g, rfl, hgB, hgk⟩ := ht
  have HB := Lib.hid hb
  have KG := Lib.hid hgk
  have HG := Lib.hid hgB
  have k0 := hgk.cell 0
  have k1 := hgk.cell 1
  simp only [List.getElem?_toArray, List.getElem?_cons_succ, List.getElem?_cons_zero] at k0 k1
  clear hb hgk hgB HF
  go_wp2_with fail
  refine (HC0.out w1).mono ?_
  rintro e w2 ⟨⟨s0, a0, rfl, ha0⟩, rfl⟩
  have HA0 := Lib.hid ha0
  clear ha0
  go_wp2_with fail
  refine (HC1.out w1).mono ?_
  rintro e w2 ⟨⟨s1, a1, rfl, ha1⟩, rfl⟩
  have HA1 := Lib.hid ha1
  clear ha1 HC0 HC1
  rw [HG0.out, HG1.out]
  go_wp2_with fail
  refine ⟨rfl, .tuple #[.pointer none, .string ⟨#[]⟩, .slice none 0 0, .int .i64 100], by simp [results, Tryd.results60, go_sem], ?_⟩
  exact ⟨_, _, rfl, Rm.same H.out HB.out, owns_nil9 _, (fun k hk => by cases hk), (fun h => absurd h (by simp)), fun _ => rfl⟩
theorem rm_next {w wx wy : World} {r : Nat} {uv uvx : Value} {S1 : St} (hm : Rm wx r uvx wy S1) (ox : Only [r] w wx) (nx : ∀ g, uvx.ownBlock = some g → uv.ownBlock = some g ∨ w.heap.size ≤ g) : Rm w r uv wy S1 := by
  obtain ⟨uv4, kp4, k4, o4, n4⟩ := hm
  refine ⟨uv4, kp4, k4, ox.trans o4 (fun x hx => .inl hx), fun g e => ?_⟩
  rcases n4 g e with e | e
  · exact nx g e
  · exact .inr (Nat.le_trans ox.size e)
set_option maxHeartbeats 32000000 in
theorem ropen0_all {w : World} {r : Nat} {S : St} {uv : Value} {kp : Int} (h : Rk w r S uv kp) (hg : S.gone = false) (hc : ¬ (begins S.f1).1 > (begins S.f0).1) (hz : ¬ (begins S.f0).1 = 0) (X : Nat × (Wlg × Bs × List Bs) × St)
    (x0 : (recsOf (begins S.f0).2.2).2.length = 0 → S.f1.length = 0 → X = (0, (⟨0, (begins S.f0).1, (recsOf (begins S.f0).2.2).1.length, false⟩, (begins S.f0).2.1, (recsOf (begins S.f0).2.2).1), S))
    (x1 : (recsOf (begins S.f0).2.2).2.length = 0 → S.f1.length > 0 → (S.cut 1 0).1 = 0 ∧ X = (0, (⟨0, (begins S.f0).1, (recsOf (begins S.f0).2.2).1.length, false⟩, (begins S.f0).2.1, (recsOf (begins S.f0).2.2).1), (S.cut 1 0).2) ∨ (S.cut 1 0).1 = 2 ∧ X = (2, (⟨0, 0, 0, false⟩, [], []), (S.cut 1 0).2))
    (x2 : (recsOf (begins S.f0).2.2).2.length > 0 → (S.cut 0 ((S.f0.length - (recsOf (begins S.f0).2.2).2.length : Nat) : Int)).1 = 0 ∧ (S.f1.length = 0 → X = (0, (⟨0, (begins S.f0).1, (recsOf (begins S.f0).2.2).1.length, false⟩, (begins S.f0).2.1, (recsOf (begins S.f0).2.2).1), (S.cut 0 ((S.f0.length - (recsOf (begins S.f0).2.2).2.length : Nat) : Int)).2)) ∧ (S.f1.length > 0 → ((S.cut 0 ((S.f0.length - (recsOf (begins S.f0).2.2).2.length : Nat) : Int)).2.cut 1 0).1 = 0 ∧ X = (0, (⟨0, (begins S.f0).1, (recsOf (begins S.f0).2.2).1.length, false⟩, (begins S.f0).2.1, (recsOf (begins S.f0).2.2).1), ((S.cut 0 ((S.f0.length - (recsOf (begins S.f0).2.2).2.length : Nat) : Int)).2.cut 1 0).2) ∨ ((S.cut 0 ((S.f0.length - (recsOf (begins S.f0).2.2).2.length : Nat) : Int)).2.cut 1 0).1 = 2 ∧ X = (2, (⟨0, 0, 0, false⟩, [], []), ((S.cut 0 ((S.f0.length - (recsOf (begins S.f0).2.2).2.length : Nat) : Int)).2.cut 1 0).2)) ∨ (S.cut 0 ((S.f0.length - (recsOf (begins S.f0).2.2).2.length : Nat) : Int)).1 = 2 ∧ X = (2, (⟨0, 0, 0, false⟩, [], []), (S.cut 0 ((S.f0.length - (recsOf (begins S.f0).2.2).2.length : Nat) : Int)).2)) : Calls Tryd.prog 60 #[.pointer (some ⟨r, 0, none⟩)] w fun e w' => ROes w r uv X e w' := by
  have c5 : w.cell? ⟨r, 5, none⟩ = some (.bool S.gone) := h.blk.cell 5
  rw [hg] at c5
  have H := Lib.hid h
  have hl0 := h.wf.l0
  have hl1 := h.wf.l1
  have HF := Lib.hid (files40 r S uv kp w h)
  have HC0 := Lib.hid (counts_any S.f0 hl0)
  have HC1 := Lib.hid (counts_any S.f1 hl1)
  obtain ⟨hbe, hbl⟩ := begins_behind hz
  obtain ⟨g0, hg0⟩ : ∃ n, n = (begins S.f0).1 := ⟨_, rfl⟩
  obtain ⟨g1, hg1⟩ : ∃ n, n = (begins S.f1).1 := ⟨_, rfl⟩
  have HG0 : Hid ((begins S.f0).1 = g0) := Lib.hid hg0.symm
  have HG1 : Hid ((begins S.f1).1 = g1) := Lib.hid hg1.symm
  rw [← hg0, ← hg1] at hc
  have hcm : decide ((g0 : Int) < (g1 : Int)) = false := decide_eq_false (by omega)
  have hcmn : decide (g0 < g1) = false := decide_eq_false (by omega)
  have HZ : Hid (g0 ≠ 0) := Lib.hid (by rw [hg0]; exact hz)
  have hz2 : ((g0 : Int) == 0) = false := by have := HZ.out; simp; omega
  have hz3 : decide (g0 = 0) = false := decide_eq_false HZ.out
  rw [← hg0] at x0 x1 x2
  have HW := Lib.hid (fun p (hp : p ≤ S.f0.length) => whole_any S.f0 p 65536 hp hl0 (by omega))
  have HLE : Hid (S.f0.length ≤ 1048576) := Lib.hid hl0
  obtain ⟨sn, hsn⟩ : ∃ x, x = (begins S.f0).2.1 := ⟨_, rfl⟩
  obtain ⟨R, hR⟩ : ∃ x, x = recsOf (begins S.f0).2.2 := ⟨_, rfl⟩
  have HSN : Hid ((begins S.f0).2.1 = sn) := Lib.hid hsn.symm
  have HRB : Hid (R = recsOf (S.f0.drop (20 + sn.length)) ∧ 20 + sn.length ≤ S.f0.length) := Lib.hid (by rw [hR, hbe, hsn]; exact ⟨rfl, hbl⟩)
  have hrl : 8 * R.1.length + R.2.length ≤ 1048576 := by rw [hR]; exact Nat.le_trans (recs_len _ _ (Nat.le_refl _)) (Nat.le_trans (begins_le S.f0).2 hl0)
  rw [← hR, ← hsn] at x0 x1 x2
  have HRL := Lib.hid hrl
  have HX0 := Lib.hid x0
  have HX1 := Lib.hid x1
  have HX2 := Lib.hid x2
  have HCUT : Hid (∀ (wx : World) (uvx : Value) (kpx : Int), Rk wx r S uvx kpx → Calls Tryd.prog 87 #[.pointer (some ⟨r, 0, none⟩), .int .i64 0, .int .i64 ((S.f0.length - R.2.length : Nat) : Int)] wx fun e w' => e = .returned (.int .i64 ((S.cut 0 ((S.f0.length - R.2.length : Nat) : Int)).1 : Int)) ∧ Rm wx r uvx w' (S.cut 0 ((S.f0.length - R.2.length : Nat) : Int)).2) := Lib.hid fun wx uvx kpx hk => cut35 r S uvx kpx 0 _ (by omega) (by omega) wx hk
  have HCO : Hid (∀ (S1 : St) (wx : World) (uvx : Value) (kpx : Int), Rk wx r S1 uvx kpx → Calls Tryd.prog 87 #[.pointer (some ⟨r, 0, none⟩), .int .i64 1, .int .i64 0] wx fun e w' => e = .returned (.int .i64 ((S1.cut 1 0).1 : Int)) ∧ Rm wx r uvx w' (S1.cut 1 0).2) := Lib.hid fun S1 wx uvx kpx hk => cut35 r _ uvx kpx 1 0 (by omega) (by omega) wx hk
  clear h hc hg0 hg1 hl0 hl1 hz hbe hbl hsn hR hrl x0 x1 x2
  go_enter Tryd.func60, Tryd.ntmps60
  go_wp2_with fail
  refine HF.out.mono ?_
  rintro e w1 ⟨⟨v, rfl, ht⟩, hb⟩
  obtain ⟨g, rfl, hgB, hgk⟩ := ht
  have HB := Lib.hid hb
  have KG := Lib.hid hgk
  have HG := Lib.hid hgB
  have k0 := hgk.cell 0
  have k1 := hgk.cell 1
  simp only [List.getElem?_toArray, List.getElem?_cons_succ, List.getElem?_cons_zero] at k0 k1
  clear hb hgk hgB HF
  go_wp2_with fail
  refine (HC0.out w1).mono ?_
  rintro e w2 ⟨⟨s0, a0, rfl, ha0⟩, rfl⟩
  have HA0 := Lib.hid ha0
  clear ha0
  go_wp2_with fail
  refine (HC1.out w1).mono ?_
  rintro e w2 ⟨⟨s1, a1, rfl, ha1⟩, rfl⟩
  have HA1 := Lib.hid ha1
  clear ha1 HC0 HC1
  rw [HG0.out, HG1.out]
  obtain ⟨hs, ha⟩ := HA0.out (by rw [HG0.out]; exact HZ.out)
  rw [HSN.out] at hs ha
  subst hs ha
  go_wp2_with fail
  have SR0 : Hid (Sr w1 (w1.alloc (.cells #[] 9)) (.slice (some ⟨w1.heap.size, 0, none⟩) 0 0) []) := Lib.hid ⟨⟨rfl, .inr ⟨w1.heap.size, 0, #[], rfl, Nat.zero_le _, Go.heap_alloc_new w1 _, Nat.le_refl _, by unfold maxLen; omega, rfl, rfl⟩⟩, by go_grown, fun k hk => by cases hk; exact Nat.le_refl _⟩
  clear k0 k1
  go_loopw [9, 14, 15, 16] (fun av rv sv ov wr => ∃ (p : Nat) (done : List Bs), av = .int .i64 (p : Int) ∧ p ≤ S.f0.length ∧ Sr w1 wr rv done ∧ R = (done ++ (recsOf (S.f0.drop p)).1, (recsOf (S.f0.drop p)).2)) (fun av _ _ _ _ => 1048577 - (intOf av).toNat)
  case atStart => exact ⟨20 + s0.length, [], by go_num, HRB.out.2, SR0.out, by rw [HRB.out.1]; rfl⟩
  case round =>
    clear SR0
    obtain ⟨p, done, rfl, hp, hsr, hrec⟩ := hrel
    have HS := Lib.hid hsr
    have HE := Lib.hid hrec
    have kk := (KG.out.below HS.out.2.1).cell 0
    simp only [List.getElem?_toArray, List.getElem?_cons_succ, List.getElem?_cons_zero] at kk
    have hpi : (p : Int) ≤ 1048576 := by have := HLE.out; omega
    clear hsr hrec
    go_wp2_with fail
    refine (HW.out p hp wr).mono ?_
    cases hu : unframed (S.f0.drop p) 65536 with
    | some x =>
      obtain ⟨rr, bb⟩ := x
      rintro e w3 ⟨rfl, rfl⟩
      have hrs := recsOf_some hu
      have hud := unframed_drop hu
      have hul := unframed_len hu
      rw [hrs] at HE
      rw [hud, List.drop_drop] at HE
      have hE2 : R = ((done ++ [rr]) ++ (recsOf (S.f0.drop (p + (8 + rr.length)))).1, (recsOf (S.f0.drop (p + (8 + rr.length)))).2) := by rw [HE.out]; simp
      have hdl : done.length + 1 ≤ 4194304 := by
        have h1 := HRL.out
        rw [hE2] at h1
        simp only [List.length_append, List.length_cons, List.length_nil] at h1
        omega
      simp only [List.length_drop] at hul
      have HUL := Lib.hid hul
      have hrl2 : (rr.length : Int) ≤ 65536 := by omega
      replace HE := Lib.hid hE2
      clear hu hrs hud hul hE2 kk
      go_wp2_with (at_builtin; refine wp_rec rfl _ _ rfl _ done wr.heap.size 1 rr rfl rfl (HS.out.down (by go_grown)) (Bk.new rfl) hdl ?_; intro v' w4 hs2; replace HS := Lib.hid hs2; clear hs2)
      go_roundw
      case rel => exact ⟨p + (8 + rr.length), done ++ [rr], by go_num, by have := HUL.out; omega, HS.out, HE.out⟩
      case measure => have := HUL.out; simp [intOf]; omega
    | none =>
      rintro e w3 ⟨⟨sx, rfl⟩, rfl⟩
      have hrn := recsOf_none hu
      rw [hrn] at HE
      obtain ⟨hR1, hR2⟩ : R.1 = done ∧ R.2.length = S.f0.length - p := ⟨by rw [HE.out]; simp, by rw [HE.out, List.length_drop]⟩
      have HR1 := Lib.hid hR1
      have HR2 := Lib.hid hR2
      have hlp : (S.f0.length : Int) ≤ 1048576 := by have := HLE.out; omega
      have ko := (KG.out.below HS.out.2.1).cell 1
      simp only [List.getElem?_toArray, List.getElem?_cons_succ, List.getElem?_cons_zero] at ko
      clear hu hrn hR1 hR2 HE
      have HB3 := Lib.hid (HB.out.trans (HS.out.2.1.mono HB.out.size))
      have hrg : Bk 61 wr r _ := H.out.blk.below HB3.out
      have hgn : g ≠ r := fun e => by
        have h1 := (KG.out.below HS.out.2.1)
        rw [e] at h1
        have h2 := h1.symm.trans hrg
        injection h2 with h3
        injection h3 with h4 h5
        exact absurd h5 (by decide)
      have hgr : Hid (g ≠ r ∧ r < w1.heap.size) := Lib.hid ⟨hgn, Nat.lt_of_lt_of_le H.out.blk.lt HB.out.size⟩
      clear hgn
      clear hrg
      have RM : Hid (Rm w r uv wr S) := Lib.hid (Rm.same H.out HB3.out)
      have KGW : Hid (Bk 9 wr g #[.string ⟨S.f0.toArray⟩, .string ⟨S.f1.toArray⟩]) := Lib.hid (KG.out.below HS.out.2.1)
      obtain ⟨ra, rc, hrv⟩ := HS.out.shape
      subst hrv
      have RW : Hid (wr.ownsRow 0 9 1 (.slice ra done.length rc) done.length (scells done)) := Lib.hid HS.out.1
      have RB : Hid (∀ k, (Value.slice ra done.length rc).ownBlock = some k → w1.heap.size ≤ k) := Lib.hid HS.out.2.2
      by_cases ht : R.2.length = 0
      · have hdt : decide ((p : Int) < (S.f0.length : Int)) = false := decide_eq_false (by have := HR2.out; omega)
        have hdtn : decide (p < S.f0.length) = false := decide_eq_false (by have := HR2.out; omega)
        by_cases ho : S.f1.length = 0
        · have hx := HX0.out ht ho
          have hdo : decide ((0 : Int) < (S.f1.length : Int)) = false := decide_eq_false (by omega)
          have hdon : decide (0 < S.f1.length) = false := decide_eq_false (by omega)
          subst hx
          clear ho
          go_wp2_with fail
          have hbn : Below wr.heap.size wr (wr.alloc (.cells (rlc r ⟨0, g0, done.length, false⟩) 102)) := by go_grown
          rw [show R.1.length = done.length by rw [HR1.out], HR1.out]
          refine ⟨rfl, .tuple #[.pointer (some ⟨wr.heap.size, 0, none⟩), .string ⟨s0.toArray⟩, .slice ra done.length rc, .int .i64 0], by simp [results, Tryd.results60, go_sem], ?_⟩
          exact ⟨_, _, rfl, RM.out.down hbn, ownsS_of RW.out fun k hk hl => hbn.block k hl, fun k hk => Nat.le_trans HB.out.size (RB.out k hk), fun _ => ⟨_, rfl, RM.out.only.size, Bk.new rfl⟩, fun h => absurd rfl h⟩
        · have hx := HX1.out ht (by omega)
          have hdo : decide ((0 : Int) < (S.f1.length : Int)) = true := decide_eq_true (by omega)
          have hdon : decide (0 < S.f1.length) = true := decide_eq_true (by omega)
          have HC2 := Lib.hid (HCO.out S)
          generalize (S.cut 1 0) = q2 at hx HC2
          obtain ⟨c2, S3⟩ := q2
          simp only at hx HC2
          clear ho
          rcases hx with ⟨rfl, hx⟩ | ⟨rfl, hx⟩
          all_goals
            subst hx
            go_wp2_with fail
            obtain ⟨uvx, kpx, rkx, ox, nx⟩ := RM.out
            refine (HC2.out wr uvx kpx rkx).mono ?_
            rintro e w7 ⟨rfl, hm⟩
            have hon := hm.only
            replace RM : Hid (Rm w r uv w7 S3) := Lib.hid (rm_next hm ox nx)
            replace KGW := Lib.hid (KGW.out.only hon (by simp [hgr.out.1]))
            replace RW := Lib.hid (ownsS_of RW.out fun k hk hl => hon.block k hl (by have := RB.out k hk; have := hgr.out.2; simp; omega))
            clear hm hon rkx ox nx
            clear ko HC2
          · go_wp2_with fail
            have hbn : Below w7.heap.size w7 (w7.alloc (.cells (rlc r ⟨0, g0, done.length, false⟩) 102)) := by go_grown
            rw [show R.1.length = done.length by rw [HR1.out], HR1.out]
            refine ⟨rfl, .tuple #[.pointer (some ⟨w7.heap.size, 0, none⟩), .string ⟨s0.toArray⟩, .slice ra done.length rc, .int .i64 0], by simp [results, Tryd.results60, go_sem], ?_⟩
            exact ⟨_, _, rfl, RM.out.down hbn, ownsS_of RW.out fun k hk hl => hbn.block k hl, fun k hk => Nat.le_trans HB.out.size (RB.out k hk), fun _ => ⟨_, rfl, RM.out.only.size, Bk.new rfl⟩, fun h => absurd rfl h⟩
          · go_wp2_with fail
            refine ⟨rfl, .tuple #[.pointer none, .string ⟨#[]⟩, .slice none 0 0, .int .i64 2], by simp [results, Tryd.results60, go_sem], ?_⟩
            exact ⟨_, _, rfl, RM.out, owns_nil9 _, (fun k hk => by cases hk), (fun h => absurd h (by simp)), fun _ => rfl⟩
      · have hdt : decide ((p : Int) < (S.f0.length : Int)) = true := decide_eq_true (by have := HR2.out; omega)
        have hdtn : decide (p < S.f0.length) = true := decide_eq_true (by have := HR2.out; omega)
        have hcp : (p : Int) = ((S.f0.length - R.2.length : Nat) : Int) := by have := HR2.out; omega
        have HCP := Lib.hid hcp
        have hx := HX2.out (by omega)
        have HC1 := Lib.hid HCUT.out
        generalize (S.cut 0 ((S.f0.length - R.2.length : Nat) : Int)) = q1 at hx HC1
        obtain ⟨c1, S2⟩ := q1
        simp only at hx HC1
        clear hcp ht HCUT HX0 HX1 HX2
        have HY := Lib.hid hx
        clear hx
        go_wp2_with fail
        rw [HCP.out]
        obtain ⟨uvx, kpx, rkx, ox, nx⟩ := RM.out
        refine (HC1.out wr uvx kpx rkx).mono ?_
        rintro e w5 ⟨rfl, hm⟩
        have hon := hm.only
        replace RM : Hid (Rm w r uv w5 S2) := Lib.hid (rm_next hm ox nx)
        replace KGW := Lib.hid (KGW.out.only hon (by simp [hgr.out.1]))
        replace RW := Lib.hid (ownsS_of RW.out fun k hk hl => hon.block k hl (by have := RB.out k hk; have := hgr.out.2; simp; omega))
        clear hm hon rkx ox nx
        clear HC1 ko
        have ko := KGW.out.cell 1
        simp only [List.getElem?_toArray, List.getElem?_cons_succ, List.getElem?_cons_zero] at ko
        rcases HY.out with ⟨rfl, hx⟩ | ⟨rfl, hx⟩
        · clear HY
          have HY := Lib.hid hx
          clear hx
          by_cases ho : S.f1.length = 0
          · have hx := HY.out.1 ho
            have hdo : decide ((0 : Int) < (S.f1.length : Int)) = false := decide_eq_false (by omega)
            have hdon : decide (0 < S.f1.length) = false := decide_eq_false (by omega)
            subst hx
            clear ho
            go_wp2_with fail
            have hbn : Below w5.heap.size w5 (w5.alloc (.cells (rlc r ⟨0, g0, done.length, false⟩) 102)) := by go_grown
            rw [show R.1.length = done.length by rw [HR1.out], HR1.out]
            refine ⟨rfl, .tuple #[.pointer (some ⟨w5.heap.size, 0, none⟩), .string ⟨s0.toArray⟩, .slice ra done.length rc, .int .i64 0], by simp [results, Tryd.results60, go_sem], ?_⟩
            exact ⟨_, _, rfl, RM.out.down hbn, ownsS_of RW.out fun k hk hl => hbn.block k hl, fun k hk => Nat.le_trans HB.out.size (RB.out k hk), fun _ => ⟨_, rfl, RM.out.only.size, Bk.new rfl⟩, fun h => absurd rfl h⟩
          · have hx := HY.out.2 (by omega)
            have hdo : decide ((0 : Int) < (S.f1.length : Int)) = true := decide_eq_true (by omega)
            have hdon : decide (0 < S.f1.length) = true := decide_eq_true (by omega)
            have HC2 := Lib.hid (HCO.out S2)
            generalize (S2.cut 1 0) = q2 at hx HC2
            obtain ⟨c2, S3⟩ := q2
            simp only at hx HC2
            clear ho
            rcases hx with ⟨rfl, hx⟩ | ⟨rfl, hx⟩
            all_goals
              subst hx
              go_wp2_with fail
              obtain ⟨uvx, kpx, rkx, ox, nx⟩ := RM.out
              refine (HC2.out w5 uvx kpx rkx).mono ?_
              rintro e w7 ⟨rfl, hm⟩
              have hon := hm.only
              replace RM : Hid (Rm w r uv w7 S3) := Lib.hid (rm_next hm ox nx)
              replace KGW := Lib.hid (KGW.out.only hon (by simp [hgr.out.1]))
              replace RW := Lib.hid (ownsS_of RW.out fun k hk hl => hon.block k hl (by have := RB.out k hk; have := hgr.out.2; simp; omega))
              clear hm hon rkx ox nx
              clear ko HC2
            · go_wp2_with fail
              have hbn : Below w7.heap.size w7 (w7.alloc (.cells (rlc r ⟨0, g0, done.length, false⟩) 102)) := by go_grown
              rw [show R.1.length = done.length by rw [HR1.out], HR1.out]
              refine ⟨rfl, .tuple #[.pointer (some ⟨w7.heap.size, 0, none⟩), .string ⟨s0.toArray⟩, .slice ra done.length rc, .int .i64 0], by simp [results, Tryd.results60, go_sem], ?_⟩
              exact ⟨_, _, rfl, RM.out.down hbn, ownsS_of RW.out fun k hk hl => hbn.block k hl, fun k hk => Nat.le_trans HB.out.size (RB.out k hk), fun _ => ⟨_, rfl, RM.out.only.size, Bk.new rfl⟩, fun h => absurd rfl h⟩
            · go_wp2_with fail
              refine ⟨rfl, .tuple #[.pointer none, .string ⟨#[]⟩, .slice none 0 0, .int .i64 2], by simp [results, Tryd.results60, go_sem], ?_⟩
              exact ⟨_, _, rfl, RM.out, owns_nil9 _, (fun k hk => by cases hk), (fun h => absurd h (by simp)), fun _ => rfl⟩
        · clear HY
          subst hx
          go_wp2_with fail
          refine ⟨rfl, .tuple #[.pointer none, .string ⟨#[]⟩, .slice none 0 0, .int .i64 2], by simp [results, Tryd.results60, go_sem], ?_⟩
          exact ⟨_, _, rfl, RM.out, owns_nil9 _, (fun k hk => by cases hk), (fun h => absurd h (by simp)), fun _ => rfl⟩
set_option maxHeartbeats 32000000 in
theorem ropen1_all {w : World} {r : Nat} {S : St} {uv : Value} {kp : Int} (h : Rk w r S uv kp) (hg : S.gone = false) (hc : (begins S.f1).1 > (begins S.f0).1) (hz : ¬ (begins S.f1).1 = 0) (X : Nat × (Wlg × Bs × List Bs) × St)
    (x0 : (recsOf (begins S.f1).2.2).2.length = 0 → S.f0.length = 0 → X = (0, (⟨1, (begins S.f1).1, (recsOf (begins S.f1).2.2).1.length, false⟩, (begins S.f1).2.1, (recsOf (begins S.f1).2.2).1), S))
    (x1 : (recsOf (begins S.f1).2.2).2.length = 0 → S.f0.length > 0 → (S.cut 0 0).1 = 0 ∧ X = (0, (⟨1, (begins S.f1).1, (recsOf (begins S.f1).2.2).1.length, false⟩, (begins S.f1).2.1, (recsOf (begins S.f1).2.2).1), (S.cut 0 0).2) ∨ (S.cut 0 0).1 = 2 ∧ X = (2, (⟨0, 0, 0, false⟩, [], []), (S.cut 0 0).2))
    (x2 : (recsOf (begins S.f1).2.2).2.length > 0 → (S.cut 1 ((S.f1.length - (recsOf (begins S.f1).2.2).2.length : Nat) : Int)).1 = 0 ∧ (S.f0.length = 0 → X = (0, (⟨1, (begins S.f1).1, (recsOf (begins S.f1).2.2).1.length, false⟩, (begins S.f1).2.1, (recsOf (begins S.f1).2.2).1), (S.cut 1 ((S.f1.length - (recsOf (begins S.f1).2.2).2.length : Nat) : Int)).2)) ∧ (S.f0.length > 0 → ((S.cut 1 ((S.f1.length - (recsOf (begins S.f1).2.2).2.length : Nat) : Int)).2.cut 0 0).1 = 0 ∧ X = (0, (⟨1, (begins S.f1).1, (recsOf (begins S.f1).2.2).1.length, false⟩, (begins S.f1).2.1, (recsOf (begins S.f1).2.2).1), ((S.cut 1 ((S.f1.length - (recsOf (begins S.f1).2.2).2.length : Nat) : Int)).2.cut 0 0).2) ∨ ((S.cut 1 ((S.f1.length - (recsOf (begins S.f1).2.2).2.length : Nat) : Int)).2.cut 0 0).1 = 2 ∧ X = (2, (⟨0, 0, 0, false⟩, [], []), ((S.cut 1 ((S.f1.length - (recsOf (begins S.f1).2.2).2.length : Nat) : Int)).2.cut 0 0).2)) ∨ (S.cut 1 ((S.f1.length - (recsOf (begins S.f1).2.2).2.length : Nat) : Int)).1 = 2 ∧ X = (2, (⟨0, 0, 0, false⟩, [], []), (S.cut 1 ((S.f1.length - (recsOf (begins S.f1).2.2).2.length : Nat) : Int)).2)) : Calls Tryd.prog 60 #[.pointer (some ⟨r, 0, none⟩)] w fun e w' => ROes w r uv X e w' := by
  have c5 : w.cell? ⟨r, 5, none⟩ = some (.bool S.gone) := h.blk.cell 5
  rw [hg] at c5
  have H := Lib.hid h
  have hl0 := h.wf.l0
  have hl1 := h.wf.l1
  have HF := Lib.hid (files40 r S uv kp w h)
  have HC0 := Lib.hid (counts_any S.f0 hl0)
  have HC1 := Lib.hid (counts_any S.f1 hl1)
  obtain ⟨hbe, hbl⟩ := begins_behind hz
  obtain ⟨g0, hg0⟩ : ∃ n, n = (begins S.f0).1 := ⟨_, rfl⟩
  obtain ⟨g1, hg1⟩ : ∃ n, n = (begins S.f1).1 := ⟨_, rfl⟩
  have HG0 : Hid ((begins S.f0).1 = g0) := Lib.hid hg0.symm
  have HG1 : Hid ((begins S.f1).1 = g1) := Lib.hid hg1.symm
  rw [← hg0, ← hg1] at hc
  have hcm : decide ((g0 : Int) < (g1 : Int)) = true := decide_eq_true (by omega)
  have hcmn : decide (g0 < g1) = true := decide_eq_true (by omega)
  have HZ : Hid (g1 ≠ 0) := Lib.hid (by rw [hg1]; exact hz)
  have hz2 : ((g1 : Int) == 0) = false := by have := HZ.out; simp; omega
  have hz3 : decide (g1 = 0) = false := decide_eq_false HZ.out
  rw [← hg1] at x0 x1 x2
  have HW := Lib.hid (fun p (hp : p ≤ S.f1.length) => whole_any S.f1 p 65536 hp hl1 (by omega))
  have HLE : Hid (S.f1.length ≤ 1048576) := Lib.hid hl1
  obtain ⟨sn, hsn⟩ : ∃ x, x = (begins S.f1).2.1 := ⟨_, rfl⟩
  obtain ⟨R, hR⟩ : ∃ x, x = recsOf (begins S.f1).2.2 := ⟨_, rfl⟩
  have HSN : Hid ((begins S.f1).2.1 = sn) := Lib.hid hsn.symm
  have HRB : Hid (R = recsOf (S.f1.drop (20 + sn.length)) ∧ 20 + sn.length ≤ S.f1.length) := Lib.hid (by rw [hR, hbe, hsn]; exact ⟨rfl, hbl⟩)
  have hrl : 8 * R.1.length + R.2.length ≤ 1048576 := by rw [hR]; exact Nat.le_trans (recs_len _ _ (Nat.le_refl _)) (Nat.le_trans (begins_le S.f1).2 hl1)
  rw [← hR, ← hsn] at x0 x1 x2
  have HRL := Lib.hid hrl
  have HX0 := Lib.hid x0
  have HX1 := Lib.hid x1
  have HX2 := Lib.hid x2
  have HCUT : Hid (∀ (wx : World) (uvx : Value) (kpx : Int), Rk wx r S uvx kpx → Calls Tryd.prog 87 #[.pointer (some ⟨r, 0, none⟩), .int .i64 1, .int .i64 ((S.f1.length - R.2.length : Nat) : Int)] wx fun e w' => e = .returned (.int .i64 ((S.cut 1 ((S.f1.length - R.2.length : Nat) : Int)).1 : Int)) ∧ Rm wx r uvx w' (S.cut 1 ((S.f1.length - R.2.length : Nat) : Int)).2) := Lib.hid fun wx uvx kpx hk => cut35 r S uvx kpx 1 _ (by omega) (by omega) wx hk
  have HCO : Hid (∀ (S1 : St) (wx : World) (uvx : Value) (kpx : Int), Rk wx r S1 uvx kpx → Calls Tryd.prog 87 #[.pointer (some ⟨r, 0, none⟩), .int .i64 0, .int .i64 0] wx fun e w' => e = .returned (.int .i64 ((S1.cut 0 0).1 : Int)) ∧ Rm wx r uvx w' (S1.cut 0 0).2) := Lib.hid fun S1 wx uvx kpx hk => cut35 r _ uvx kpx 0 0 (by omega) (by omega) wx hk
  clear h hc hg0 hg1 hl0 hl1 hz hbe hbl hsn hR hrl x0 x1 x2
  go_enter Tryd.func60, Tryd.ntmps60
  go_wp2_with fail
  refine HF.out.mono ?_
  rintro e w1 ⟨⟨v, rfl, ht⟩, hb⟩
  obtain ⟨g, rfl, hgB, hgk⟩ := ht
  have HB := Lib.hid hb
  have KG := Lib.hid hgk
  have HG := Lib.hid hgB
  have k0 := hgk.cell 0
  have k1 := hgk.cell 1
  simp only [List.getElem?_toArray, List.getElem?_cons_succ, List.getElem?_cons_zero] at k0 k1
  clear hb hgk hgB HF
  go_wp2_with fail
  refine (HC0.out w1).mono ?_
  rintro e w2 ⟨⟨s0, a0, rfl, ha0⟩, rfl⟩
  have HA0 := Lib.hid ha0
  clear ha0
  go_wp2_with fail
  refine (HC1.out w1).mono ?_
  rintro e w2 ⟨⟨s1, a1, rfl, ha1⟩, rfl⟩
  have HA1 := Lib.hid ha1
  clear ha1 HC0 HC1
  rw [HG0.out, HG1.out]
  obtain ⟨hs, ha⟩ := HA1.out (by rw [HG1.out]; exact HZ.out)
  rw [HSN.out] at hs ha
  subst hs ha
  go_wp2_with fail
  have SR0 : Hid (Sr w1 (w1.alloc (.cells #[] 9)) (.slice (some ⟨w1.heap.size, 0, none⟩) 0 0) []) := Lib.hid ⟨⟨rfl, .inr ⟨w1.heap.size, 0, #[], rfl, Nat.zero_le _, Go.heap_alloc_new w1 _, Nat.le_refl _, by unfold maxLen; omega, rfl, rfl⟩⟩, by go_grown, fun k hk => by cases hk; exact Nat.le_refl _⟩
  clear k0 k1
  go_loopw [9, 14, 15, 16] (fun av rv sv ov wr => ∃ (p : Nat) (done : List Bs), av = .int .i64 (p : Int) ∧ p ≤ S.f1.length ∧ Sr w1 wr rv done ∧ R = (done ++ (recsOf (S.f1.drop p)).1, (recsOf (S.f1.drop p)).2)) (fun av _ _ _ _ => 1048577 - (intOf av).toNat)
  case atStart => exact ⟨20 + s1.length, [], by go_num, HRB.out.2, SR0.out, by rw [HRB.out.1]; rfl⟩
  case round =>
    clear SR0
    obtain ⟨p, done, rfl, hp, hsr, hrec⟩ := hrel
    have HS := Lib.hid hsr
    have HE := Lib.hid hrec
    have kk := (KG.out.below HS.out.2.1).cell 1
    simp only [List.getElem?_toArray, List.getElem?_cons_succ, List.getElem?_cons_zero] at kk
    have hpi : (p : Int) ≤ 1048576 := by have := HLE.out; omega
    clear hsr hrec
    go_wp2_with fail
    refine (HW.out p hp wr).mono ?_
    cases hu : unframed (S.f1.drop p) 65536 with
    | some x =>
      obtain ⟨rr, bb⟩ := x
      rintro e w3 ⟨rfl, rfl⟩
      have hrs := recsOf_some hu
      have hud := unframed_drop hu
      have hul := unframed_len hu
      rw [hrs] at HE
      rw [hud, List.drop_drop] at HE
      have hE2 : R = ((done ++ [rr]) ++ (recsOf (S.f1.drop (p + (8 + rr.length)))).1, (recsOf (S.f1.drop (p + (8 + rr.length)))).2) := by rw [HE.out]; simp
      have hdl : done.length + 1 ≤ 4194304 := by
        have h1 := HRL.out
        rw [hE2] at h1
        simp only [List.length_append, List.length_cons, List.length_nil] at h1
        omega
      simp only [List.length_drop] at hul
      have HUL := Lib.hid hul
      have hrl2 : (rr.length : Int) ≤ 65536 := by omega
      replace HE := Lib.hid hE2
      clear hu hrs hud hul hE2 kk
      go_wp2_with (at_builtin; refine wp_rec rfl _ _ rfl _ done wr.heap.size 1 rr rfl rfl (HS.out.down (by go_grown)) (Bk.new rfl) hdl ?_; intro v' w4 hs2; replace HS := Lib.hid hs2; clear hs2)
      go_roundw
      case rel => exact ⟨p + (8 + rr.length), done ++ [rr], by go_num, by have := HUL.out; omega, HS.out, HE.out⟩
      case measure => have := HUL.out; simp [intOf]; omega
    | none =>
      rintro e w3 ⟨⟨sx, rfl⟩, rfl⟩
      have hrn := recsOf_none hu
      rw [hrn] at HE
      obtain ⟨hR1, hR2⟩ : R.1 = done ∧ R.2.length = S.f1.length - p := ⟨by rw [HE.out]; simp, by rw [HE.out, List.length_drop]⟩
      have HR1 := Lib.hid hR1
      have HR2 := Lib.hid hR2
      have hlp : (S.f1.length : Int) ≤ 1048576 := by have := HLE.out; omega
      have ko := (KG.out.below HS.out.2.1).cell 0
      simp only [List.getElem?_toArray, List.getElem?_cons_succ, List.getElem?_cons_zero] at ko
      clear hu hrn hR1 hR2 HE
      have HB3 := Lib.hid (HB.out.trans (HS.out.2.1.mono HB.out.size))
      have hrg : Bk 61 wr r _ := H.out.blk.below HB3.out
      have hgn : g ≠ r := fun e => by
        have h1 := (KG.out.below HS.out.2.1)
        rw [e] at h1
        have h2 := h1.symm.trans hrg
        injection h2 with h3
        injection h3 with h4 h5
        exact absurd h5 (by decide)
      have hgr : Hid (g ≠ r ∧ r < w1.heap.size) := Lib.hid ⟨hgn, Nat.lt_of_lt_of_le H.out.blk.lt HB.out.size⟩
      clear hgn
      clear hrg
      have RM : Hid (Rm w r uv wr S) := Lib.hid (Rm.same H.out HB3.out)
      have KGW : Hid (Bk 9 wr g #[.string ⟨S.f0.toArray⟩, .string ⟨S.f1.toArray⟩]) := Lib.hid (KG.out.below HS.out.2.1)
      obtain ⟨ra, rc, hrv⟩ := HS.out.shape
      subst hrv
      have RW : Hid (wr.ownsRow 0 9 1 (.slice ra done.length rc) done.length (scells done)) := Lib.hid HS.out.1
      have RB : Hid (∀ k, (Value.slice ra done.length rc).ownBlock = some k → w1.heap.size ≤ k) := Lib.hid HS.out.2.2
      by_cases ht : R.2.length = 0
      · have hdt : decide ((p : Int) < (S.f1.length : Int)) = false := decide_eq_false (by have := HR2.out; omega)
        have hdtn : decide (p < S.f1.length) = false := decide_eq_false (by have := HR2.out; omega)
        by_cases ho : S.f0.length = 0
        · have hx := HX0.out ht ho
          have hdo : decide ((0 : Int) < (S.f0.length : Int)) = false := decide_eq_false (by omega)
          have hdon : decide (0 < S.f0.length) = false := decide_eq_false (by omega)
          subst hx
          clear ho
          go_wp2_with fail
          have hbn : Below wr.heap.size wr (wr.alloc (.cells (rlc r ⟨1, g1, done.length, false⟩) 102)) := by go_grown
          rw [show R.1.length = done.length by rw [HR1.out], HR1.out]
          refine ⟨rfl, .tuple #[.pointer (some ⟨wr.heap.size, 0, none⟩), .string ⟨s1.toArray⟩, .slice ra done.length rc, .int .i64 0], by simp [results, Tryd.results60, go_sem], ?_⟩
          exact ⟨_, _, rfl, RM.out.down hbn, ownsS_of RW.out fun k hk hl => hbn.block k hl, fun k hk => Nat.le_trans HB.out.size (RB.out k hk), fun _ => ⟨_, rfl, RM.out.only.size, Bk.new rfl⟩, fun h => absurd rfl h⟩
        · have hx := HX1.out ht (by omega)
          have hdo : decide ((0 : Int) < (S.f0.length : Int)) = true := decide_eq_true (by omega)
          have hdon : decide (0 < S.f0.length) = true := decide_eq_true (by omega)
          have HC2 := Lib.hid (HCO.out S)
          generalize (S.cut 0 0) = q2 at hx HC2
          obtain ⟨c2, S3⟩ := q2
          simp only at hx HC2
          clear ho
          rcases hx with ⟨rfl, hx⟩ | ⟨rfl, hx⟩
          all_goals
            subst hx
            go_wp2_with fail
            obtain ⟨uvx, kpx, rkx, ox, nx⟩ := RM.out
            refine (HC2.out wr uvx kpx rkx).mono ?_
            rintro e w7 ⟨rfl, hm⟩
            have hon := hm.only
            replace RM : Hid (Rm w r uv w7 S3) := Lib.hid (rm_next hm ox nx)
            replace KGW := Lib.hid (KGW.out.only hon (by simp [hgr.out.1]))
            replace RW := Lib.hid (ownsS_of RW.out fun k hk hl => hon.block k hl (by have := RB.out k hk; have := hgr.out.2; simp; omega))
            clear hm hon rkx ox nx
            clear ko HC2
          · go_wp2_with fail
            have hbn : Below w7.heap.size w7 (w7.alloc (.cells (rlc r ⟨1, g1, done.length, false⟩) 102)) := by go_grown
            rw [show R.1.length = done.length by rw [HR1.out], HR1.out]
            refine ⟨rfl, .tuple #[.pointer (some ⟨w7.heap.size, 0, none⟩), .string ⟨s1.toArray⟩, .slice ra done.length rc, .int .i64 0], by simp [results, Tryd.results60, go_sem], ?_⟩
            exact ⟨_, _, rfl, RM.out.down hbn, ownsS_of RW.out fun k hk hl => hbn.block k hl, fun k hk => Nat.le_trans HB.out.size (RB.out k hk), fun _ => ⟨_, rfl, RM.out.only.size, Bk.new rfl⟩, fun h => absurd rfl h⟩
          · go_wp2_with fail
            refine ⟨rfl, .tuple #[.pointer none, .string ⟨#[]⟩, .slice none 0 0, .int .i64 2], by simp [results, Tryd.results60, go_sem], ?_⟩
            exact ⟨_, _, rfl, RM.out, owns_nil9 _, (fun k hk => by cases hk), (fun h => absurd h (by simp)), fun _ => rfl⟩
      · have hdt : decide ((p : Int) < (S.f1.length : Int)) = true := decide_eq_true (by have := HR2.out; omega)
        have hdtn : decide (p < S.f1.length) = true := decide_eq_true (by have := HR2.out; omega)
        have hcp : (p : Int) = ((S.f1.length - R.2.length : Nat) : Int) := by have := HR2.out; omega
        have HCP := Lib.hid hcp
        have hx := HX2.out (by omega)
        have HC1 := Lib.hid HCUT.out
        generalize (S.cut 1 ((S.f1.length - R.2.length : Nat) : Int)) = q1 at hx HC1
        obtain ⟨c1, S2⟩ := q1
        simp only at hx HC1
        clear hcp ht HCUT HX0 HX1 HX2
        have HY := Lib.hid hx
        clear hx
        go_wp2_with fail
        rw [HCP.out]
        obtain ⟨uvx, kpx, rkx, ox, nx⟩ := RM.out
        refine (HC1.out wr uvx kpx rkx).mono ?_
        rintro e w5 ⟨rfl, hm⟩
        have hon := hm.only
        replace RM : Hid (Rm w r uv w5 S2) := Lib.hid (rm_next hm ox nx)
        replace KGW := Lib.hid (KGW.out.only hon (by simp [hgr.out.1]))
        replace RW := Lib.hid (ownsS_of RW.out fun k hk hl => hon.block k hl (by have := RB.out k hk; have := hgr.out.2; simp; omega))
        clear hm hon rkx ox nx
        clear HC1 ko
        have ko := KGW.out.cell 0
        simp only [List.getElem?_toArray, List.getElem?_cons_succ, List.getElem?_cons_zero] at ko
        rcases HY.out with ⟨rfl, hx⟩ | ⟨rfl, hx⟩
        · clear HY
          have HY := Lib.hid hx
          clear hx
          by_cases ho : S.f0.length = 0
          · have hx := HY.out.1 ho
            have hdo : decide ((0 : Int) < (S.f0.length : Int)) = false := decide_eq_false (by omega)
            have hdon : decide (0 < S.f0.length) = false := decide_eq_false (by omega)
            subst hx
            clear ho
            go_wp2_with fail
            have hbn : Below w5.heap.size w5 (w5.alloc (.cells (rlc r ⟨1, g1, done.length, false⟩) 102)) := by go_grown
            rw [show R.1.length = done.length by rw [HR1.out], HR1.out]
            refine ⟨rfl, .tuple #[.pointer (some ⟨w5.heap.size, 0, none⟩), .string ⟨s1.toArray⟩, .slice ra done.length rc, .int .i64 0], by simp [results, Tryd.results60, go_sem], ?_⟩
            exact ⟨_, _, rfl, RM.out.down hbn, ownsS_of RW.out fun k hk hl => hbn.block k hl, fun k hk => Nat.le_trans HB.out.size (RB.out k hk), fun _ => ⟨_, rfl, RM.out.only.size, Bk.new rfl⟩, fun h => absurd rfl h⟩
          · have hx := HY.out.2 (by omega)
            have hdo : decide ((0 : Int) < (S.f0.length : Int)) = true := decide_eq_true (by omega)
            have hdon : decide (0 < S.f0.length) = true := decide_eq_true (by omega)
            have HC2 := Lib.hid (HCO.out S2)
            generalize (S2.cut 0 0) = q2 at hx HC2
            obtain ⟨c2, S3⟩ := q2
            simp only at hx HC2
            clear ho
            rcases hx with ⟨rfl, hx⟩ | ⟨rfl, hx⟩
            all_goals
              subst hx
              go_wp2_with fail
              obtain ⟨uvx, kpx, rkx, ox, nx⟩ := RM.out
              refine (HC2.out w5 uvx kpx rkx).mono ?_
              rintro e w7 ⟨rfl, hm⟩
              have hon := hm.only
              replace RM : Hid (Rm w r uv w7 S3) := Lib.hid (rm_next hm ox nx)
              replace KGW := Lib.hid (KGW.out.only hon (by simp [hgr.out.1]))
              replace RW := Lib.hid (ownsS_of RW.out fun k hk hl => hon.block k hl (by have := RB.out k hk; have := hgr.out.2; simp; omega))
              clear hm hon rkx ox nx
              clear ko HC2
            · go_wp2_with fail
              have hbn : Below w7.heap.size w7 (w7.alloc (.cells (rlc r ⟨1, g1, done.length, false⟩) 102)) := by go_grown
              rw [show R.1.length = done.length by rw [HR1.out], HR1.out]
              refine ⟨rfl, .tuple #[.pointer (some ⟨w7.heap.size, 0, none⟩), .string ⟨s1.toArray⟩, .slice ra done.length rc, .int .i64 0], by simp [results, Tryd.results60, go_sem], ?_⟩
              exact ⟨_, _, rfl, RM.out.down hbn, ownsS_of RW.out fun k hk hl => hbn.block k hl, fun k hk => Nat.le_trans HB.out.size (RB.out k hk), fun _ => ⟨_, rfl, RM.out.only.size, Bk.new rfl⟩, fun h => absurd rfl h⟩
            · go_wp2_with fail
              refine ⟨rfl, .tuple #[.pointer none, .string ⟨#[]⟩, .slice none 0 0, .int .i64 2], by simp [results, Tryd.results60, go_sem], ?_⟩
              exact ⟨_, _, rfl, RM.out, owns_nil9 _, (fun k hk => by cases hk), (fun h => absurd h (by simp)), fun _ => rfl⟩
        · clear HY
          subst hx
          go_wp2_with fail
          refine ⟨rfl, .tuple #[.pointer none, .string ⟨#[]⟩, .slice none 0 0, .int .i64 2], by simp [results, Tryd.results60, go_sem], ?_⟩
          exact ⟨_, _, rfl, RM.out, owns_nil9 _, (fun k hk => by cases hk), (fun h => absurd h (by simp)), fun _ => rfl⟩
theorem ropen0_any {w : World} {r : Nat} {S : St} {uv : Value} {kp : Int} (h : Rk w r S uv kp) (hg : S.gone = false) (hc : ¬ (begins S.f1).1 > (begins S.f0).1) (hcl : Clean S) : Calls Tryd.prog 60 #[.pointer (some ⟨r, 0, none⟩)] w fun e w' => ROes w r uv (lopen S) e w' := by
  have hn : newest S = (0, begins S.f0) := by unfold newest; rw [if_neg hc]
  obtain ⟨c1, c2⟩ := hcl
  rw [hn] at c1 c2
  simp only at c1 c2
  by_cases h0 : (begins S.f0).1 = 0
  · have e : lopen S = (100, (⟨0, 0, 0, false⟩, [], []), S) := by
      unfold lopen
      rw [if_neg (by simp [hg]), hn]
      simp only
      rw [if_pos h0]
    rw [e]; exact ropen_form0 h hg hc h0
  · have hrl := recs_len _ (begins S.f0).2.2 (Nat.le_refl _)
    rw [show recs (begins S.f0).2.2.length (begins S.f0).2.2 = recsOf (begins S.f0).2.2 from rfl] at hrl
    have hbl := (begins_le S.f0).2
    have hfe : S.file 0 = S.f0 := rfl
    have hoe : S.file 1 = S.f1 := rfl
    refine ropen0_all h hg hc h0 _ (fun ht ho => ?_) (fun ht ho => ?_) (fun ht => ?_)
    all_goals
      unfold lopen
      rw [if_neg (by simp [hg]), hn]
      simp only
      rw [if_neg h0]
      unfold ocut2 ocut
      simp only [hfe, show (1 - 0 : Nat) = 1 from rfl, hoe, show ((0 : Nat) : Int) = 0 from rfl, show ((1 : Nat) : Int) = 1 from rfl]
    · simp only [if_neg (show ¬ (recsOf (begins S.f0).2.2).2.length > 0 by omega), if_true, hoe, if_neg (show ¬ S.f1.length > 0 by omega)]
    · simp only [if_neg (show ¬ (recsOf (begins S.f0).2.2).2.length > 0 by omega), if_true, hoe, if_pos ho]
      rcases (show (S.cut 1 (0 : Int)).1 = 0 ∨ (S.cut 1 (0 : Int)).1 = 2 from cut_code S 1 0 (by omega) (Nat.zero_le _) (c2 ho)) with hc2 | hc2
      · rw [if_pos hc2]; exact .inl ⟨hc2, rfl⟩
      · rw [if_neg (by rw [hc2]; decide)]; exact .inr ⟨hc2, rfl⟩
    · simp only [if_pos ht]
      rcases (show (S.cut 0 ((S.f0.length - (recsOf (begins S.f0).2.2).2.length : Nat) : Int)).1 = 0 ∨ (S.cut 0 ((S.f0.length - (recsOf (begins S.f0).2.2).2.length : Nat) : Int)).1 = 2 from cut_code S 0 (S.f0.length - (recsOf (begins S.f0).2.2).2.length) (by omega) (by rw [hfe]; omega) (c1 ht)) with hc1 | hc1
      · obtain ⟨k1, k2, k3, k4, k5, k6, k7, k8⟩ := cut_ok h.wf (f := 0) (n := S.f0.length - (recsOf (begins S.f0).2.2).2.length) (by omega) hc1
        have hk2 : (S.cut 0 ((S.f0.length - (recsOf (begins S.f0).2.2).2.length : Nat) : Int)).2.file 1 = S.f1 := k2
        have hk3 : (S.cut 0 ((S.f0.length - (recsOf (begins S.f0).2.2).2.length : Nat) : Int)).2.safe 1 = S.safe 1 := k3
        simp only [if_pos hc1, hk2]
        refine .inl ⟨hc1, fun ho => ?_, fun ho => ?_⟩
        · simp only [if_neg (show ¬ S.f1.length > 0 by omega), if_true]
        · simp only [if_pos ho]
          rcases (show ((S.cut 0 ((S.f0.length - (recsOf (begins S.f0).2.2).2.length : Nat) : Int)).2.cut 1 (0 : Int)).1 = 0 ∨ ((S.cut 0 ((S.f0.length - (recsOf (begins S.f0).2.2).2.length : Nat) : Int)).2.cut 1 (0 : Int)).1 = 2 from cut_code _ 1 0 (by omega) (Nat.zero_le _) (by rw [hk2, hk3]; exact c2 ho)) with hc2 | hc2
          · rw [if_pos hc2]; exact .inl ⟨hc2, rfl⟩
          · rw [if_neg (by rw [hc2]; decide)]; exact .inr ⟨hc2, rfl⟩
      · simp only [if_neg (show ¬ (S.cut 0 ((S.f0.length - (recsOf (begins S.f0).2.2).2.length : Nat) : Int)).1 = 0 by rw [hc1]; decide)]
        first | exact .inr ⟨hc1, rfl⟩ | exact .inr ⟨hc1, trivial⟩
theorem ropen1_any {w : World} {r : Nat} {S : St} {uv : Value} {kp : Int} (h : Rk w r S uv kp) (hg : S.gone = false) (hc : (begins S.f1).1 > (begins S.f0).1) (hcl : Clean S) : Calls Tryd.prog 60 #[.pointer (some ⟨r, 0, none⟩)] w fun e w' => ROes w r uv (lopen S) e w' := by
  have hn : newest S = (1, begins S.f1) := by unfold newest; rw [if_pos hc]
  obtain ⟨c1, c2⟩ := hcl
  rw [hn] at c1 c2
  simp only at c1 c2
  by_cases h0 : (begins S.f1).1 = 0
  · exact absurd h0 (by omega)
  · have hrl := recs_len _ (begins S.f1).2.2 (Nat.le_refl _)
    rw [show recs (begins S.f1).2.2.length (begins S.f1).2.2 = recsOf (begins S.f1).2.2 from rfl] at hrl
    have hbl := (begins_le S.f1).2
    have hfe : S.file 1 = S.f1 := rfl
    have hoe : S.file 0 = S.f0 := rfl
    refine ropen1_all h hg hc h0 _ (fun ht ho => ?_) (fun ht ho => ?_) (fun ht => ?_)
    all_goals
      unfold lopen
      rw [if_neg (by simp [hg]), hn]
      simp only
      rw [if_neg h0]
      unfold ocut2 ocut
      simp only [hfe, show (1 - 1 : Nat) = 0 from rfl, hoe, show ((1 : Nat) : Int) = 1 from rfl, show ((0 : Nat) : Int) = 0 from rfl]
    · simp only [if_neg (show ¬ (recsOf (begins S.f1).2.2).2.length > 0 by omega), if_true, hoe, if_neg (show ¬ S.f0.length > 0 by omega)]
    · simp only [if_neg (show ¬ (recsOf (begins S.f1).2.2).2.length > 0 by omega), if_true, hoe, if_pos ho]
      rcases (show (S.cut 0 (0 : Int)).1 = 0 ∨ (S.cut 0 (0 : Int)).1 = 2 from cut_code S 0 0 (by omega) (Nat.zero_le _) (c2 ho)) with hc2 | hc2
      · rw [if_pos hc2]; exact .inl ⟨hc2, rfl⟩
      · rw [if_neg (by rw [hc2]; decide)]; exact .inr ⟨hc2, rfl⟩
    · simp only [if_pos ht]
      rcases (show (S.cut 1 ((S.f1.length - (recsOf (begins S.f1).2.2).2.length : Nat) : Int)).1 = 0 ∨ (S.cut 1 ((S.f1.length - (recsOf (begins S.f1).2.2).2.length : Nat) : Int)).1 = 2 from cut_code S 1 (S.f1.length - (recsOf (begins S.f1).2.2).2.length) (by omega) (by rw [hfe]; omega) (c1 ht)) with hc1 | hc1
      · obtain ⟨k1, k2, k3, k4, k5, k6, k7, k8⟩ := cut_ok h.wf (f := 1) (n := S.f1.length - (recsOf (begins S.f1).2.2).2.length) (by omega) hc1
        have hk2 : (S.cut 1 ((S.f1.length - (recsOf (begins S.f1).2.2).2.length : Nat) : Int)).2.file 0 = S.f0 := k2
        have hk3 : (S.cut 1 ((S.f1.length - (recsOf (begins S.f1).2.2).2.length : Nat) : Int)).2.safe 0 = S.safe 0 := k3
        simp only [if_pos hc1, hk2]
        refine .inl ⟨hc1, fun ho => ?_, fun ho => ?_⟩
        · simp only [if_neg (show ¬ S.f0.length > 0 by omega), if_true]
        · simp only [if_pos ho]
          rcases (show ((S.cut 1 ((S.f1.length - (recsOf (begins S.f1).2.2).2.length : Nat) : Int)).2.cut 0 (0 : Int)).1 = 0 ∨ ((S.cut 1 ((S.f1.length - (recsOf (begins S.f1).2.2).2.length : Nat) : Int)).2.cut 0 (0 : Int)).1 = 2 from cut_code _ 0 0 (by omega) (Nat.zero_le _) (by rw [hk2, hk3]; exact c2 ho)) with hc2 | hc2
          · rw [if_pos hc2]; exact .inl ⟨hc2, rfl⟩
          · rw [if_neg (by rw [hc2]; decide)]; exact .inr ⟨hc2, rfl⟩
      · simp only [if_neg (show ¬ (S.cut 1 ((S.f1.length - (recsOf (begins S.f1).2.2).2.length : Nat) : Int)).1 = 0 by rw [hc1]; decide)]
        first | exact .inr ⟨hc1, rfl⟩ | exact .inr ⟨hc1, trivial⟩
theorem ropen_any {w : World} {r : Nat} {S : St} {uv : Value} {kp : Int} (h : Rk w r S uv kp) (hcl : Clean S) : Calls Tryd.prog 60 #[.pointer (some ⟨r, 0, none⟩)] w fun e w' => ROes w r uv (lopen S) e w' := by
  by_cases hg : S.gone = true
  · have e : lopen S = (2, (⟨0, 0, 0, false⟩, [], []), S) := by unfold lopen; rw [if_pos hg]
    rw [e]; exact ropen_dead h hg
  · have hg' : S.gone = false := by simpa using hg
    by_cases hc : (begins S.f1).1 > (begins S.f0).1
    · exact ropen1_any h hg' hc hcl
    · exact ropen0_any h hg' hc hcl
def Still (S : St) : Prop := S.row = [] ∧ S.s0 = S.f0.length ∧ S.s1 = S.f1.length
theorem Still.clean {S : St} (h : Still S) : Clean S := by
  have hs : ∀ f, (S.file f).length ≤ S.safe f := fun f => by
    unfold St.file St.safe
    split
    · rw [h.2.1]; exact Nat.le_refl _
    · rw [h.2.2]; exact Nat.le_refl _
  exact ⟨fun _ => hs _, fun _ => hs _⟩
theorem Still.power {S : St} (h : Still S) (g : Bool) (n k : Nat) : Still (S.power g n k) := h
theorem Still.keep {S : St} (h : Still S) (k : Nat) : Still (S.keep k) := by
  have e : S.left k = (S.s0, S.s1) := by unfold St.left; rw [h.1]; rfl
  refine ⟨rfl, ?_, ?_⟩
  · show (S.left k).1 = (S.f0.take (S.left k).1).length
    rw [e, List.length_take, h.2.1]; simp
  · show (S.left k).2 = (S.f1.take (S.left k).2).length
    rw [e, List.length_take, h.2.2]; simp
theorem Still.lose {S : St} (h : Still S) (k : Nat) : Still (S.lose k) := (h.keep k).power _ _ _
theorem Still.count {S : St} (h : Still S) : Still S.count.2 := by
  unfold St.count
  split
  · exact h
  · split
    · exact h
    · exact h.lose _
theorem Still.cutF {S : St} (h : Still S) (f n : Nat) (hn : n ≤ (S.file f).length) : Still (S.cutF f n) := by
  unfold St.cutF St.file at *
  split
  · rename_i h0
    rw [if_pos h0] at hn
    exact ⟨h.1, by show n = (S.f0.take n).length; rw [List.length_take]; omega, h.2.2⟩
  · rename_i h0
    rw [if_neg h0] at hn
    exact ⟨h.1, h.2.1, by show n = (S.f1.take n).length; rw [List.length_take]; omega⟩
theorem count_zero_file {S : St} (h : S.count.1 = 0) (f : Nat) : S.count.2.file f = S.file f := by
  unfold St.count at *
  split at h
  · rename_i h0; rw [if_pos h0]
  · rename_i h0
    rw [if_neg h0]
    split at h
    · rename_i h1; rw [if_pos h1]; rfl
    · cases h
theorem Still.cut {S : St} (h : Still S) (f n : Int) : Still (S.cut f n).2 := by
  unfold St.cut
  split
  · exact h
  · split
    · exact h
    · split
      · exact h
      · rename_i hb
        split
        · rename_i hc
          exact h.count.cutF _ _ (by rw [count_zero_file hc]; omega)
        · exact h.count
theorem Still.ocut {S : St} (h : Still S) (f t : Nat) : Still (ocut S f t).2 := by
  unfold YtmoihgniglomiaaDoor.ocut
  split
  · exact h.cut _ _
  · exact h
theorem Still.ocut2 {S : St} (h : Still S) (f t : Nat) : Still (ocut2 S f t).2 := by
  unfold YtmoihgniglomiaaDoor.ocut2
  split
  · split
    · exact (h.ocut _ _).cut _ _
    · exact h.ocut _ _
  · exact h.ocut _ _
theorem Still.open {S : St} (h : Still S) : Still (lopen S).2.2 := by
  unfold lopen
  split
  · exact h
  · split
    · exact h
    · split
      · exact h.ocut2 _ _
      · exact h.ocut2 _ _
theorem Still.revive {S : St} (h : Still S) : Still S.revive := h
theorem Still.arm {S : St} (h : Still S) (n k : Int) : Still (S.arm n k).2 := by
  unfold St.arm
  split
  · exact h
  · split
    · exact h
    · exact h
theorem Still.new (a b : List UInt8) : Still (St.new a b) := ⟨rfl, rfl, rfl⟩
theorem srow_at {w : World} {v : Value} {l : List Bs} {n : Nat} (hn : n = l.length) (h : w.ownsRow 0 9 1 v n (scells l)) : ∃ a c, v = .slice a n c ∧ ∀ i (hi : i < l.length), ∃ g, a = some ⟨g, 0, none⟩ ∧ w.cell? ⟨g, i, none⟩ = some (.string ⟨l[i].toArray⟩) := by
  subst hn
  have h' := h
  obtain ⟨_, ⟨rfl, h0⟩ | ⟨g, cap, cur, rfl, _⟩⟩ := h'
  · exact ⟨none, 0, by rw [h0], fun i hi => by omega⟩
  · refine ⟨_, _, rfl, fun i hi => ⟨g, rfl, ?_⟩⟩
    have := h.cells (g := g) rfl i (.string ⟨l[i].toArray⟩) (by simp [scells, hi])
    rwa [at0] at this
set_option maxHeartbeats 8000000 in
theorem sames_any (v v' : Value) (l : List Bs) (w : World) (h : w.ownsRow 0 9 1 v l.length (scells l)) (h' : w.ownsRow 0 9 1 v' l.length (scells l)) (hl : l.length ≤ 4194304) :
    Calls Tryd.prog 25 #[v, v'] w fun e w' => e = .returned (.bool true) ∧ Below w.heap.size w w' := by
  obtain ⟨n, hn⟩ : ∃ n, n = l.length := ⟨_, rfl⟩
  rw [← hn] at h h'
  obtain ⟨a, c, rfl, hc⟩ := srow_at hn h
  obtain ⟨a', c', rfl, hc'⟩ := srow_at hn h'
  have HC := Lib.hid (And.intro hc hc')
  have hlen : n ≤ 4194304 := by rw [hn]; exact hl
  have HN := Lib.hid hn
  have hne := ne9
  clear h h' hc hc' hl hn
  go_enter Tryd.func25, Tryd.ntmps25
  go_wp2_with fail
  go_loopw [5] (fun iv wr => ∃ i : Nat, i ≤ n ∧ iv = .int .i64 (i : Int) ∧ Hid (Below w.heap.size w wr) ∧ Hid (∀ g i x, w.cell? ⟨g, i, none⟩ = some x → wr.cell? ⟨g, i, none⟩ = some x)) (fun iv _ => n - (intOf iv).toNat)
  case atStart => exact ⟨0, Nat.zero_le _, rfl, Lib.hid (Below.refl _ _), Lib.hid fun _ _ _ h => h⟩
  case round =>
    obtain ⟨i, hi, rfl, HB, HW⟩ := hrel
    by_cases hlt : i < n
    · have hil : i < l.length := by rw [← HN.out]; exact hlt
      obtain ⟨g, rfl, c0⟩ := HC.out.1 i hil
      obtain ⟨g', rfl, c1⟩ := HC.out.2 i hil
      replace c0 := HW.out _ _ _ c0
      replace c1 := HW.out _ _ _ c1
      generalize (⟨l[i].toArray⟩ : ByteArray) = x at c0 c1
      go_wp2_with fail
      go_quiet (fail)
      go_wp2_with fail
      go_roundw
      case rel => exact ⟨i + 1, by omega, by go_num, Lib.hid (below_drewN HB.out _), Lib.hid fun g i x h => by have := HW.out g i x h; simpa using this⟩
      case measure => simp [intOf]; omega
    · have hin : i = n := by omega
      subst hin
      go_wp2_with fail
      go_ret
      exact ⟨rfl, HB.out⟩
structure PO (B : Nat) (w0 w : World) (p : Fp) (r : Nat) (S T : St) (uv : Value) (kp : Int) : Prop where
  d : DO B w0 w p S
  k : Rk w r T uv kp
  rb : B ≤ r
  ub : ∀ g, uv.ownBlock = some g → B ≤ g
  nr : r ∉ p.own
  nu : ∀ g, uv.ownBlock = some g → g ∉ p.own
theorem PO.down {B : Nat} {w0 w w' : World} {p : Fp} {r : Nat} {S T : St} {uv : Value} {kp : Int} (h : PO B w0 w p r S T uv kp) (hB : B ≤ w0.heap.size) (hb : Below w.heap.size w w') : PO B w0 w' p r S T uv kp :=
  ⟨h.d.down hB hb, h.k.below hb, h.rb, h.ub, h.nr, h.nu⟩
theorem PO.mut {B : Nat} {w0 w w' : World} {p p' : Fp} {r : Nat} {S S' T : St} {uv : Value} {kp : Int} (h : PO B w0 w p r S T uv kp) (hB : B ≤ w0.heap.size) (hB0 : 0 < B) (m : Mut w p w' p' S') : PO B w0 w' p' r S' T uv kp :=
  ⟨h.d.mut hB hB0 m, h.k.kept (m.2.2.1.block r h.k.blk.lt h.nr) (fun g e => m.2.2.1.block g (h.k.ult g e) (h.nu g e)), h.rb, h.ub,
    fun hx => (m.2.2.2 r hx).elim h.nr (by have := h.k.blk.lt; omega), fun g e hx => (m.2.2.2 g hx).elim (h.nu g e) (by have := h.k.ult g e; omega)⟩
theorem PO.rm {B : Nat} {w0 w w' : World} {p : Fp} {r : Nat} {S T T' : St} {uv : Value} {kp : Int} (h : PO B w0 w p r S T uv kp) (hB : B ≤ w0.heap.size) (hB0 : 0 < B) (m : Rm w r uv w' T') : ∃ uv' kp', PO B w0 w' p r S T' uv' kp' ∧ ∀ g, uv'.ownBlock = some g → uv.ownBlock = some g ∨ w.heap.size ≤ g := by
  obtain ⟨uv', kp', h1, h2, h3⟩ := m
  have hs : B ≤ w.heap.size := Nat.le_trans hB h.d.bw.size
  refine ⟨uv', kp', ⟨⟨h.d.dk.only h2 (fun k hk hx => by simp at hx; subst hx; exact h.nr hk), h.d.bw.trans (h2.below hs (fun x hx => by simp at hx; subst hx; exact h.rb)), h.d.op, h.d.tb.only h2 (by have := h.rb; simp; omega)⟩, h1, h.rb, fun g e => (h3 g e).elim (h.ub g) (fun h => Nat.le_trans hs h), h.nr, fun g e hx => (h3 g e).elim (fun e => h.nu g e hx) (fun hg => by have := h.d.dk.lt g hx; omega)⟩, h3⟩
theorem lopen_recs {S : St} (h : S.Wf) : (lopen S).2.1.2.2.length ≤ 1048576 := by
  have hr : ∀ s : Bs, s.length ≤ 1048576 → (recsOf s).1.length ≤ 1048576 := fun s hs => by
    have := recs_len s.length s (Nat.le_refl _)
    unfold recsOf
    omega
  unfold lopen
  split
  · simp
  · split
    · simp
    · split
      · refine hr _ ?_
        have h0 := file_le h 0
        have h1 := file_le h 1
        have b0 := begins_le S.f0
        have b1 := begins_le S.f1
        unfold newest
        split
        · simp only; have : S.file 1 = S.f1 := rfl; rw [this] at h1; omega
        · simp only; have : S.file 0 = S.f0 := rfl; rw [this] at h0; omega
      · simp
theorem PO.row {B : Nat} {w0 w w' : World} {p : Fp} {r : Nat} {S T : St} {uv : Value} {kp : Int} {L : List Nat} (h : PO B w0 w p r S T uv kp) (hB : B ≤ w0.heap.size) (hB0 : 0 < B) (ho : Only L w w') (hL : ∀ g ∈ L, B ≤ g ∧ g ∉ p.own ∧ g ≠ r ∧ uv.ownBlock ≠ some g) : PO B w0 w' p r S T uv kp :=
  ⟨⟨h.d.dk.only ho (fun k hk hx => (hL k hx).2.1 hk), h.d.bw.trans (ho.below (Nat.le_trans hB h.d.bw.size) (fun x hx => (hL x hx).1)), h.d.op, h.d.tb.only ho (fun hx => by have := (hL 0 hx).1; omega)⟩,
    h.k.kept (ho.block r h.k.blk.lt (fun hx => (hL r hx).2.2.1 rfl)) (fun k e => ho.block k (h.k.ult k e) (fun hx => (hL k hx).2.2.2 e)), h.rb, h.ub, h.nr, h.nu⟩
theorem Lk.only {w w' : World} {b : Nat} {p : Fp} {S : St} {l : Wlg} (h : Lk w b p S l) {L : List Nat} (ho : Only L w w') (hb : b ∉ L) (hp : ∀ k ∈ p.own, k ∉ L) : Lk w' b p S l :=
  ⟨h.blk.only ho hb, h.dk.only ho hp, h.ne, h.zb, h.zo, h.ff, h.gg⟩
theorem Rk.ne102 {w : World} {r : Nat} {S : St} {uv : Value} {kp : Int} (h : Rk w r S uv kp) {t : Nat} {cs : Array Value} (ht : Bk 102 w t cs) : uv.ownBlock ≠ some t := by
  intro e
  obtain ⟨_, ⟨hv, _⟩ | ⟨g, cap, cur, hv, _, hg, _⟩⟩ := h.row
  · rw [hv] at e; cases e
  · rw [hv] at e
    have : g = t := by simpa [Value.ownBlock] using e
    subst this
    have h2 := hg.symm.trans ht
    simp at h2
structure OL (w0 w : World) (p : Fp) (r : Nat) (S : St) (uv : Value) (l : Wlg) (b rb : Nat) : Prop where
  lk : Lk w b p S l
  bk : Bk 102 w rb (rlc r l)
  wb : w0.heap.size ≤ b
  wr : w0.heap.size ≤ rb
  br : b ≠ rb
  rp : rb ∉ p.own
  ub : uv.ownBlock ≠ some b
  ur : uv.ownBlock ≠ some rb
theorem OL.row {w0 w w' : World} {p : Fp} {r : Nat} {S : St} {uv : Value} {l : Wlg} {b rb : Nat} {L : List Nat} (h : OL w0 w p r S uv l b rb) (ho : Only L w w') (hL : ∀ g ∈ L, g ∉ p.own ∧ b ≠ g ∧ rb ≠ g) : OL w0 w' p r S uv l b rb :=
  ⟨h.lk.only ho (fun hx => (hL b hx).2.1 rfl) (fun k hk hx => (hL k hx).1 hk), h.bk.only ho (fun hx => (hL rb hx).2.2 rfl), h.wb, h.wr, h.br, h.rp, h.ub, h.ur⟩
def Told (w0 w : World) (p : Fp) (r : Nat) (x : Nat × (Wlg × Bs × List Bs) × St) (uv lv rv : Value) : Prop :=
  (x.1 = 0 ∧ ∃ b rb, lv = .pointer (some ⟨b, 0, none⟩) ∧ rv = .pointer (some ⟨rb, 0, none⟩) ∧ OL w0 w p r x.2.2 uv x.2.1.1 b rb) ∨ (x.1 ≠ 0 ∧ lv = .pointer none ∧ rv = .pointer none)
theorem Told.row {w0 w w' : World} {p : Fp} {r : Nat} {x : Nat × (Wlg × Bs × List Bs) × St} {uv lv rv : Value} {L : List Nat} (h : Told w0 w p r x uv lv rv) (ho : Only L w w') (hL : ∀ g ∈ L, g ∉ p.own ∧ (∀ b, lv = .pointer (some ⟨b, 0, none⟩) → b ≠ g) ∧ ∀ b, rv = .pointer (some ⟨b, 0, none⟩) → b ≠ g) : Told w0 w' p r x uv lv rv := by
  rcases h with ⟨h0, b, rb, e1, e2, h⟩ | h
  · exact .inl ⟨h0, b, rb, e1, e2, h.row ho (fun g hg => ⟨(hL g hg).1, (hL g hg).2.1 b e1, (hL g hg).2.2 rb e2⟩)⟩
  · exact .inr h
theorem Told.below {w0 w w' : World} {p : Fp} {r : Nat} {x : Nat × (Wlg × Bs × List Bs) × St} {uv lv rv : Value} (h : Told w0 w p r x uv lv rv) (hb : Below w.heap.size w w') : Told w0 w' p r x uv lv rv := by
  rcases h with ⟨h0, b, rb, e1, e2, h⟩ | h
  · exact .inl ⟨h0, b, rb, e1, e2, ⟨h.lk.below hb, h.bk.below hb, h.wb, h.wr, h.br, h.rp, h.ub, h.ur⟩⟩
  · exact .inr h
end Go.Proofs.YtmoihgniglomiaaDoor
