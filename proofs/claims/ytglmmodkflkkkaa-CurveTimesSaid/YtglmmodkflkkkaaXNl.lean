import Derived.Test.YtglmmodkflkkkaaXNj
import Derived.Laws.Cover3
set_option linter.unusedVariables false
set_option linter.unusedSimpArgs false
set_option maxRecDepth 100000
namespace Go.Proofs.Ytglmmodkflkkkaa
open Go.RowKit Go.Sort Limbs
theorem Bk.regrown {t : TypeId} {w : World} {g : Nat} {cs : Array Value} (h : Bk t w g cs) (d : Nat) (os : Array Obj) : Bk t (grow (redrawn w d) os) g cs := h.below (below_regrown w d os)
theorem mod_step (x c l M : Nat) : (x % M * c + l) % M = (x * c + l) % M := by
  rw [Nat.add_mod, Nat.mul_mod, Nat.mod_mod, ← Nat.mul_mod, ← Nat.add_mod]
theorem mul_any (m : Int) (a b : Nat) (ha : a < W256) (hb : b < W256) (w : World) :
    Calls Try.prog 23 #[.int .i64 m, nv a, nv b] w fun e w' => e = .returned (nv (a * b % md m)) ∧ Below w.heap.size w w' := by
  have hM := md_or m
  obtain ⟨hMW, hM2, hM3, hMp⟩ := md_lt hM
  have HM := Lib.hid (mod_any m)
  have HP := Lib.hid (product_nv a b ha hb)
  generalize md m = M at *
  have HA := Lib.hid (And.intro hM (And.intro hMW (And.intro hM2 hMp)))
  obtain ⟨ab, hab⟩ : ∃ z, z = a * b := ⟨_, rfl⟩
  rw [← hab] at HP ⊢
  obtain ⟨res, hres⟩ : ∃ z, z = ab % M := ⟨_, rfl⟩
  rw [← hres]
  have HRES := Lib.hid hres
  clear hres hab hM hMW hM2 hM3 hMp ha hb
  simp only [nv, num] at HP ⊢
  have HPa := HP
  go_enter Try.func23, Try.ntmps23
  go_wp2_with fail
  refine (keep w.heap.size w (HM.out _) (by go_grown) (Nat.le_refl _)).mono ?_
  rintro e w1 ⟨rfl, hb, hk⟩
  have KA : Hid (Bk 24 w1 w.heap.size (cs4 a)) := Lib.hid (Bk.below (Bk.alloc (Bk.alloc (Bk.new rfl))) hk)
  have KB : Hid (Bk 24 w1 (w.heap.size + 1) (cs4 b)) := Lib.hid (Bk.below (Bk.alloc (Bk.new (by simp))) hk)
  have KR : Hid (Bk 24 w1 (w.heap.size + 1 + 1) cs0) := Lib.hid (Bk.below (Bk.new (by simp)) hk)
  have HB := Lib.hid hb
  clear hk hb HM
  obtain ⟨i0, i1, i2, i3⟩ := KA.out.cellsA
  obtain ⟨j0, j1, j2, j3⟩ := KB.out.cellsA
  simp only [nv, num]
  go_wp2_with fail
  refine (keep w.heap.size w (HP.out _) (by have hb := HB.out; have hs := hb.size; go_grown) (Nat.le_refl _)).mono ?_
  rintro e w2 ⟨⟨l0, l1, l2, l3, l4, l5, l6, l7, hl, hh, he, rfl⟩, hb, hk⟩
  have K2R : Hid (Bk 24 w2 (w.heap.size + 1 + 1) cs0) := Lib.hid (Bk.below (Bk.alloc KR.out) hk)
  have K2M : Hid (Bk 24 w2 w1.heap.size (cs4 M)) := Lib.hid (Bk.below (Bk.new rfl) hk)
  have HL := Lib.hid hl
  have HH := Lib.hid hh
  have HE := Lib.hid he
  have HB2 := Lib.hid hb
  clear hk hb hl hh he i0 i1 i2 i3 j0 j1 j2 j3 KA KB KR HP
  unfold num8
  go_wp2_with fail
  have KL := Lib.hid (Bk.new (t := 80) (w := w2) (cs := #[.int .u64 (l0 : Int), .int .u64 (l1 : Int), .int .u64 (l2 : Int), .int .u64 (l3 : Int), .int .u64 (l4 : Int), .int .u64 (l5 : Int), .int .u64 (l6 : Int), .int .u64 (l7 : Int)]) rfl)
  have K3R := Lib.hid (Bk.alloc (o := .cells #[.int .u64 (l0 : Int), .int .u64 (l1 : Int), .int .u64 (l2 : Int), .int .u64 (l3 : Int), .int .u64 (l4 : Int), .int .u64 (l5 : Int), .int .u64 (l6 : Int), .int .u64 (l7 : Int)] 80) K2R.out)
  have K3M := Lib.hid (Bk.alloc (o := .cells #[.int .u64 (l0 : Int), .int .u64 (l1 : Int), .int .u64 (l2 : Int), .int .u64 (l3 : Int), .int .u64 (l4 : Int), .int .u64 (l5 : Int), .int .u64 (l6 : Int), .int .u64 (l7 : Int)] 80) K2M.out)
  have HB3 : Hid (Below w.heap.size w (w2.alloc (.cells #[.int .u64 (l0 : Int), .int .u64 (l1 : Int), .int .u64 (l2 : Int), .int .u64 (l3 : Int), .int .u64 (l4 : Int), .int .u64 (l5 : Int), .int .u64 (l6 : Int), .int .u64 (l7 : Int)] 80))) := Lib.hid (by have hb := HB2.out; have hs := hb.size; go_grown)
  clear K2R K2M HB2 HB
  generalize (w2.alloc (.cells #[.int .u64 (l0 : Int), .int .u64 (l1 : Int), .int .u64 (l2 : Int), .int .u64 (l3 : Int), .int .u64 (l4 : Int), .int .u64 (l5 : Int), .int .u64 (l6 : Int), .int .u64 (l7 : Int)] 80)) = W at KL K3R K3M HB3 ⊢
  generalize w2.heap.size = gl at KL ⊢
  generalize w1.heap.size = gM at K3M ⊢
  have hgl := KL.out.lt
  obtain ⟨R0, hR0⟩ : ∃ z, z = v4 l4 l5 l6 l7 % M := ⟨_, rfl⟩
  have HLE := Lib.hid (show ∀ w, Calls Try.prog 55 #[.agg #[.int .u64 (l4 : Int), .int .u64 (l5 : Int), .int .u64 (l6 : Int), .int .u64 (l7 : Int)], nv M] w fun e w' => e = .returned (nv R0) ∧ Below w.heap.size w w' from fun w => by
    have h8 := v4_lt HH.out.1 HH.out.2.1 HH.out.2.2.1 HH.out.2.2.2
    have := left_any (v4 l4 l5 l6 l7) M h8 HA.out.2.1 (by have := HA.out.2.2.1; omega) w
    rw [← nv_v4 HH.out.1 HH.out.2.1 HH.out.2.2.1 HH.out.2.2.2, ← hR0] at this
    exact this)
  have HR0 := Lib.hid hR0
  clear hR0
  refine m3 gl gM M l4 l5 l6 l7 R0 W hgl (KL.out.cell 4) (KL.out.cell 5) (KL.out.cell 6) (KL.out.cell 7) K3M.out HLE ?_
  intro _ _ _ _ _ g9 wq hb hg hk
  have K4L := Lib.hid (KL.out.below hb)
  have K4R := Lib.hid (K3R.out.below hb)
  have K4M := Lib.hid (K3M.out.below hb)
  have K49 := Lib.hid hk
  have HNE : Hid (gl ≠ g9 ∧ w.heap.size + 1 + 1 ≠ g9 ∧ gM ≠ g9 ∧ w.heap.size ≤ g9) := Lib.hid ⟨by omega, by have := K3R.out.lt; omega, by have := K3M.out.lt; omega, by have := HB3.out.size; omega⟩
  have HB4 := Lib.hid (HB3.out.trans (hb.mono HB3.out.size))
  clear KL K3R K3M HB3 hgl HLE hb hg hk
  generalize hgR : w.heap.size + 1 + 1 = gR at *
  go_wp2_with fail
  refine wp_loop_rounds 5 ?_
  rw [rounds_succ]
  go_wp2_with fail
  obtain ⟨R1, hR1⟩ : ∃ z, z = (R0 * 18446744073709551616 + l3) % M := ⟨_, rfl⟩
  have HC0 := Lib.hid (show ∀ w, Calls Try.prog 60 #[.agg (cs4 R0), .int .u64 (l3 : Int), .agg (cs4 M)] w fun e w' => e = .returned (nv R1) ∧ Below w.heap.size w w' from fun w => by
    have hp : 0 < M := by have := HA.out.2.2.2; omega
    have := behind_any R0 l3 M HA.out.1 (by rw [HR0.out]; exact Nat.mod_lt _ hp) HL.out.2.2.2 w
    rw [← hR1] at this
    exact this)
  have HR1 := Lib.hid hR1
  clear hR1
  have q3 : ∀ d os, (grow (redrawn wq d) os).cell? ⟨gl, 3, none⟩ = some (.int .u64 (l3 : Int)) := fun d os => (K4L.out.regrown d os).cell 3
  refine wp_region_below_tail 7 mixed (by kernel_rfl) ?_
  simp only [List.take_succ_cons, List.take_zero, List.drop_succ_cons, List.drop_zero]
  refine wpQuiet_load_row rfl 24 (.tmp 9) rfl g9 rfl 24 (cs4 R0) (0, 0) _ (fun w' hw' => heap_regrown K49.out hw') u24 rfl i24 ?_
  quiet_step (fail)
  iterate 3 go_big_quiet_step (fail)
  refine wpQuiet_load_row rfl 24 (.tmp 7) rfl gM rfl 24 (cs4 M) (0, 0) _ (fun w' hw' => heap_regrown K4M.out hw') u24 rfl i24 ?_
  quiet_step (exact qg HC0.out)
  refine wpQuiet_nil ?_
  intro _ hw'
  obtain ⟨⟨dq, osq⟩, hw''⟩ := hw'
  subst hw''
  have L4L := Lib.hid (K4L.out.regrown dq osq)
  have L4R := Lib.hid (K4R.out.regrown dq osq)
  have L4M := Lib.hid (K4M.out.regrown dq osq)
  have L49 := Lib.hid (K49.out.regrown dq osq)
  have HB5 := Lib.hid (HB4.out.trans ((below_regrown wq dq osq).mono HB4.out.size))
  clear K4L K4R K4M K49 HB4 q3 HC0
  generalize grow (redrawn wq dq) osq = v0 at L4L L4R L4M L49 HB5 ⊢
  obtain ⟨f0, f1, f2, f3⟩ := L49.out.fros
  obtain ⟨c0, c1, c2, c3⟩ := L49.out.cells
  simp only [nv, num, cs4] at c0 c1 c2 c3 ⊢
  go_wp2_with fail
  clear f0 f1 f2 f3 c0 c1 c2 c3
  have K4L : Hid (Bk 80 ((((v0.setCell ⟨g9, 0, none⟩ (.int .u64 (lb R1 0 : Nat))).setCell ⟨g9, 1, none⟩ (.int .u64 (lb R1 1 : Nat))).setCell ⟨g9, 2, none⟩ (.int .u64 (lb R1 2 : Nat))).setCell ⟨g9, 3, none⟩ (.int .u64 (lb R1 3 : Nat))) gl #[.int .u64 (l0 : Int), .int .u64 (l1 : Int), .int .u64 (l2 : Int), .int .u64 (l3 : Int), .int .u64 (l4 : Int), .int .u64 (l5 : Int), .int .u64 (l6 : Int), .int .u64 (l7 : Int)]) := Lib.hid (Bk.puto HNE.out.1 L4L.out)
  have K4R : Hid (Bk 24 ((((v0.setCell ⟨g9, 0, none⟩ (.int .u64 (lb R1 0 : Nat))).setCell ⟨g9, 1, none⟩ (.int .u64 (lb R1 1 : Nat))).setCell ⟨g9, 2, none⟩ (.int .u64 (lb R1 2 : Nat))).setCell ⟨g9, 3, none⟩ (.int .u64 (lb R1 3 : Nat))) gR cs0) := Lib.hid (Bk.puto HNE.out.2.1 L4R.out)
  have K4M : Hid (Bk 24 ((((v0.setCell ⟨g9, 0, none⟩ (.int .u64 (lb R1 0 : Nat))).setCell ⟨g9, 1, none⟩ (.int .u64 (lb R1 1 : Nat))).setCell ⟨g9, 2, none⟩ (.int .u64 (lb R1 2 : Nat))).setCell ⟨g9, 3, none⟩ (.int .u64 (lb R1 3 : Nat))) gM (cs4 M)) := Lib.hid (Bk.puto HNE.out.2.2.1 L4M.out)
  have K49 : Hid (Bk 24 ((((v0.setCell ⟨g9, 0, none⟩ (.int .u64 (lb R1 0 : Nat))).setCell ⟨g9, 1, none⟩ (.int .u64 (lb R1 1 : Nat))).setCell ⟨g9, 2, none⟩ (.int .u64 (lb R1 2 : Nat))).setCell ⟨g9, 3, none⟩ (.int .u64 (lb R1 3 : Nat))) g9 (cs4 R1)) := Lib.hid (Bk.put L49.out)
  have HB4 : Hid (Below w.heap.size w ((((v0.setCell ⟨g9, 0, none⟩ (.int .u64 (lb R1 0 : Nat))).setCell ⟨g9, 1, none⟩ (.int .u64 (lb R1 1 : Nat))).setCell ⟨g9, 2, none⟩ (.int .u64 (lb R1 2 : Nat))).setCell ⟨g9, 3, none⟩ (.int .u64 (lb R1 3 : Nat)))) := Lib.hid (by have hb := HB5.out; have h9 := HNE.out.2.2.2; go_grown)
  clear L4L L4R L4M L49 HB5
  generalize ((((v0.setCell ⟨g9, 0, none⟩ (.int .u64 (lb R1 0 : Nat))).setCell ⟨g9, 1, none⟩ (.int .u64 (lb R1 1 : Nat))).setCell ⟨g9, 2, none⟩ (.int .u64 (lb R1 2 : Nat))).setCell ⟨g9, 3, none⟩ (.int .u64 (lb R1 3 : Nat))) = wq1 at K4L K4R K4M K49 HB4 ⊢
  rw [rounds_succ]
  go_wp2_with fail
  obtain ⟨R2, hR2⟩ : ∃ z, z = (R1 * 18446744073709551616 + l2) % M := ⟨_, rfl⟩
  have HC1 := Lib.hid (show ∀ w, Calls Try.prog 60 #[.agg (cs4 R1), .int .u64 (l2 : Int), .agg (cs4 M)] w fun e w' => e = .returned (nv R2) ∧ Below w.heap.size w w' from fun w => by
    have hp : 0 < M := by have := HA.out.2.2.2; omega
    have := behind_any R1 l2 M HA.out.1 (by rw [HR1.out]; exact Nat.mod_lt _ hp) HL.out.2.2.1 w
    rw [← hR2] at this
    exact this)
  have HR2 := Lib.hid hR2
  clear hR2
  have q2 : ∀ d os, (grow (redrawn wq1 d) os).cell? ⟨gl, 2, none⟩ = some (.int .u64 (l2 : Int)) := fun d os => (K4L.out.regrown d os).cell 2
  refine wp_region_below_tail 7 mixed (by kernel_rfl) ?_
  simp only [List.take_succ_cons, List.take_zero, List.drop_succ_cons, List.drop_zero]
  refine wpQuiet_load_row rfl 24 (.tmp 9) rfl g9 rfl 24 (cs4 R1) (0, 0) _ (fun w' hw' => heap_regrown K49.out hw') u24 rfl i24 ?_
  quiet_step (fail)
  iterate 3 go_big_quiet_step (fail)
  refine wpQuiet_load_row rfl 24 (.tmp 7) rfl gM rfl 24 (cs4 M) (0, 0) _ (fun w' hw' => heap_regrown K4M.out hw') u24 rfl i24 ?_
  quiet_step (exact qg HC1.out)
  refine wpQuiet_nil ?_
  intro _ hw'
  obtain ⟨⟨dq, osq⟩, hw''⟩ := hw'
  subst hw''
  have L4L := Lib.hid (K4L.out.regrown dq osq)
  have L4R := Lib.hid (K4R.out.regrown dq osq)
  have L4M := Lib.hid (K4M.out.regrown dq osq)
  have L49 := Lib.hid (K49.out.regrown dq osq)
  have HB5 := Lib.hid (HB4.out.trans ((below_regrown wq1 dq osq).mono HB4.out.size))
  clear K4L K4R K4M K49 HB4 q2 HC1
  generalize grow (redrawn wq1 dq) osq = v1 at L4L L4R L4M L49 HB5 ⊢
  obtain ⟨f0, f1, f2, f3⟩ := L49.out.fros
  obtain ⟨c0, c1, c2, c3⟩ := L49.out.cells
  simp only [nv, num, cs4] at c0 c1 c2 c3 ⊢
  go_wp2_with fail
  clear f0 f1 f2 f3 c0 c1 c2 c3
  have K4L : Hid (Bk 80 ((((v1.setCell ⟨g9, 0, none⟩ (.int .u64 (lb R2 0 : Nat))).setCell ⟨g9, 1, none⟩ (.int .u64 (lb R2 1 : Nat))).setCell ⟨g9, 2, none⟩ (.int .u64 (lb R2 2 : Nat))).setCell ⟨g9, 3, none⟩ (.int .u64 (lb R2 3 : Nat))) gl #[.int .u64 (l0 : Int), .int .u64 (l1 : Int), .int .u64 (l2 : Int), .int .u64 (l3 : Int), .int .u64 (l4 : Int), .int .u64 (l5 : Int), .int .u64 (l6 : Int), .int .u64 (l7 : Int)]) := Lib.hid (Bk.puto HNE.out.1 L4L.out)
  have K4R : Hid (Bk 24 ((((v1.setCell ⟨g9, 0, none⟩ (.int .u64 (lb R2 0 : Nat))).setCell ⟨g9, 1, none⟩ (.int .u64 (lb R2 1 : Nat))).setCell ⟨g9, 2, none⟩ (.int .u64 (lb R2 2 : Nat))).setCell ⟨g9, 3, none⟩ (.int .u64 (lb R2 3 : Nat))) gR cs0) := Lib.hid (Bk.puto HNE.out.2.1 L4R.out)
  have K4M : Hid (Bk 24 ((((v1.setCell ⟨g9, 0, none⟩ (.int .u64 (lb R2 0 : Nat))).setCell ⟨g9, 1, none⟩ (.int .u64 (lb R2 1 : Nat))).setCell ⟨g9, 2, none⟩ (.int .u64 (lb R2 2 : Nat))).setCell ⟨g9, 3, none⟩ (.int .u64 (lb R2 3 : Nat))) gM (cs4 M)) := Lib.hid (Bk.puto HNE.out.2.2.1 L4M.out)
  have K49 : Hid (Bk 24 ((((v1.setCell ⟨g9, 0, none⟩ (.int .u64 (lb R2 0 : Nat))).setCell ⟨g9, 1, none⟩ (.int .u64 (lb R2 1 : Nat))).setCell ⟨g9, 2, none⟩ (.int .u64 (lb R2 2 : Nat))).setCell ⟨g9, 3, none⟩ (.int .u64 (lb R2 3 : Nat))) g9 (cs4 R2)) := Lib.hid (Bk.put L49.out)
  have HB4 : Hid (Below w.heap.size w ((((v1.setCell ⟨g9, 0, none⟩ (.int .u64 (lb R2 0 : Nat))).setCell ⟨g9, 1, none⟩ (.int .u64 (lb R2 1 : Nat))).setCell ⟨g9, 2, none⟩ (.int .u64 (lb R2 2 : Nat))).setCell ⟨g9, 3, none⟩ (.int .u64 (lb R2 3 : Nat)))) := Lib.hid (by have hb := HB5.out; have h9 := HNE.out.2.2.2; go_grown)
  clear L4L L4R L4M L49 HB5
  generalize ((((v1.setCell ⟨g9, 0, none⟩ (.int .u64 (lb R2 0 : Nat))).setCell ⟨g9, 1, none⟩ (.int .u64 (lb R2 1 : Nat))).setCell ⟨g9, 2, none⟩ (.int .u64 (lb R2 2 : Nat))).setCell ⟨g9, 3, none⟩ (.int .u64 (lb R2 3 : Nat))) = wq2 at K4L K4R K4M K49 HB4 ⊢
  rw [rounds_succ]
  go_wp2_with fail
  obtain ⟨R3, hR3⟩ : ∃ z, z = (R2 * 18446744073709551616 + l1) % M := ⟨_, rfl⟩
  have HC2 := Lib.hid (show ∀ w, Calls Try.prog 60 #[.agg (cs4 R2), .int .u64 (l1 : Int), .agg (cs4 M)] w fun e w' => e = .returned (nv R3) ∧ Below w.heap.size w w' from fun w => by
    have hp : 0 < M := by have := HA.out.2.2.2; omega
    have := behind_any R2 l1 M HA.out.1 (by rw [HR2.out]; exact Nat.mod_lt _ hp) HL.out.2.1 w
    rw [← hR3] at this
    exact this)
  have HR3 := Lib.hid hR3
  clear hR3
  have q1 : ∀ d os, (grow (redrawn wq2 d) os).cell? ⟨gl, 1, none⟩ = some (.int .u64 (l1 : Int)) := fun d os => (K4L.out.regrown d os).cell 1
  refine wp_region_below_tail 7 mixed (by kernel_rfl) ?_
  simp only [List.take_succ_cons, List.take_zero, List.drop_succ_cons, List.drop_zero]
  refine wpQuiet_load_row rfl 24 (.tmp 9) rfl g9 rfl 24 (cs4 R2) (0, 0) _ (fun w' hw' => heap_regrown K49.out hw') u24 rfl i24 ?_
  quiet_step (fail)
  iterate 3 go_big_quiet_step (fail)
  refine wpQuiet_load_row rfl 24 (.tmp 7) rfl gM rfl 24 (cs4 M) (0, 0) _ (fun w' hw' => heap_regrown K4M.out hw') u24 rfl i24 ?_
  quiet_step (exact qg HC2.out)
  refine wpQuiet_nil ?_
  intro _ hw'
  obtain ⟨⟨dq, osq⟩, hw''⟩ := hw'
  subst hw''
  have L4L := Lib.hid (K4L.out.regrown dq osq)
  have L4R := Lib.hid (K4R.out.regrown dq osq)
  have L4M := Lib.hid (K4M.out.regrown dq osq)
  have L49 := Lib.hid (K49.out.regrown dq osq)
  have HB5 := Lib.hid (HB4.out.trans ((below_regrown wq2 dq osq).mono HB4.out.size))
  clear K4L K4R K4M K49 HB4 q1 HC2
  generalize grow (redrawn wq2 dq) osq = v2 at L4L L4R L4M L49 HB5 ⊢
  obtain ⟨f0, f1, f2, f3⟩ := L49.out.fros
  obtain ⟨c0, c1, c2, c3⟩ := L49.out.cells
  simp only [nv, num, cs4] at c0 c1 c2 c3 ⊢
  go_wp2_with fail
  clear f0 f1 f2 f3 c0 c1 c2 c3
  have K4L : Hid (Bk 80 ((((v2.setCell ⟨g9, 0, none⟩ (.int .u64 (lb R3 0 : Nat))).setCell ⟨g9, 1, none⟩ (.int .u64 (lb R3 1 : Nat))).setCell ⟨g9, 2, none⟩ (.int .u64 (lb R3 2 : Nat))).setCell ⟨g9, 3, none⟩ (.int .u64 (lb R3 3 : Nat))) gl #[.int .u64 (l0 : Int), .int .u64 (l1 : Int), .int .u64 (l2 : Int), .int .u64 (l3 : Int), .int .u64 (l4 : Int), .int .u64 (l5 : Int), .int .u64 (l6 : Int), .int .u64 (l7 : Int)]) := Lib.hid (Bk.puto HNE.out.1 L4L.out)
  have K4R : Hid (Bk 24 ((((v2.setCell ⟨g9, 0, none⟩ (.int .u64 (lb R3 0 : Nat))).setCell ⟨g9, 1, none⟩ (.int .u64 (lb R3 1 : Nat))).setCell ⟨g9, 2, none⟩ (.int .u64 (lb R3 2 : Nat))).setCell ⟨g9, 3, none⟩ (.int .u64 (lb R3 3 : Nat))) gR cs0) := Lib.hid (Bk.puto HNE.out.2.1 L4R.out)
  have K4M : Hid (Bk 24 ((((v2.setCell ⟨g9, 0, none⟩ (.int .u64 (lb R3 0 : Nat))).setCell ⟨g9, 1, none⟩ (.int .u64 (lb R3 1 : Nat))).setCell ⟨g9, 2, none⟩ (.int .u64 (lb R3 2 : Nat))).setCell ⟨g9, 3, none⟩ (.int .u64 (lb R3 3 : Nat))) gM (cs4 M)) := Lib.hid (Bk.puto HNE.out.2.2.1 L4M.out)
  have K49 : Hid (Bk 24 ((((v2.setCell ⟨g9, 0, none⟩ (.int .u64 (lb R3 0 : Nat))).setCell ⟨g9, 1, none⟩ (.int .u64 (lb R3 1 : Nat))).setCell ⟨g9, 2, none⟩ (.int .u64 (lb R3 2 : Nat))).setCell ⟨g9, 3, none⟩ (.int .u64 (lb R3 3 : Nat))) g9 (cs4 R3)) := Lib.hid (Bk.put L49.out)
  have HB4 : Hid (Below w.heap.size w ((((v2.setCell ⟨g9, 0, none⟩ (.int .u64 (lb R3 0 : Nat))).setCell ⟨g9, 1, none⟩ (.int .u64 (lb R3 1 : Nat))).setCell ⟨g9, 2, none⟩ (.int .u64 (lb R3 2 : Nat))).setCell ⟨g9, 3, none⟩ (.int .u64 (lb R3 3 : Nat)))) := Lib.hid (by have hb := HB5.out; have h9 := HNE.out.2.2.2; go_grown)
  clear L4L L4R L4M L49 HB5
  generalize ((((v2.setCell ⟨g9, 0, none⟩ (.int .u64 (lb R3 0 : Nat))).setCell ⟨g9, 1, none⟩ (.int .u64 (lb R3 1 : Nat))).setCell ⟨g9, 2, none⟩ (.int .u64 (lb R3 2 : Nat))).setCell ⟨g9, 3, none⟩ (.int .u64 (lb R3 3 : Nat))) = wq3 at K4L K4R K4M K49 HB4 ⊢
  rw [rounds_succ]
  go_wp2_with fail
  obtain ⟨R4, hR4⟩ : ∃ z, z = (R3 * 18446744073709551616 + l0) % M := ⟨_, rfl⟩
  have HC3 := Lib.hid (show ∀ w, Calls Try.prog 60 #[.agg (cs4 R3), .int .u64 (l0 : Int), .agg (cs4 M)] w fun e w' => e = .returned (nv R4) ∧ Below w.heap.size w w' from fun w => by
    have hp : 0 < M := by have := HA.out.2.2.2; omega
    have := behind_any R3 l0 M HA.out.1 (by rw [HR3.out]; exact Nat.mod_lt _ hp) HL.out.1 w
    rw [← hR4] at this
    exact this)
  have HR4 := Lib.hid hR4
  clear hR4
  have q0 : ∀ d os, (grow (redrawn wq3 d) os).cell? ⟨gl, 0, none⟩ = some (.int .u64 (l0 : Int)) := fun d os => (K4L.out.regrown d os).cell 0
  refine wp_region_below_tail 7 mixed (by kernel_rfl) ?_
  simp only [List.take_succ_cons, List.take_zero, List.drop_succ_cons, List.drop_zero]
  refine wpQuiet_load_row rfl 24 (.tmp 9) rfl g9 rfl 24 (cs4 R3) (0, 0) _ (fun w' hw' => heap_regrown K49.out hw') u24 rfl i24 ?_
  quiet_step (fail)
  iterate 3 go_big_quiet_step (fail)
  refine wpQuiet_load_row rfl 24 (.tmp 7) rfl gM rfl 24 (cs4 M) (0, 0) _ (fun w' hw' => heap_regrown K4M.out hw') u24 rfl i24 ?_
  quiet_step (exact qg HC3.out)
  refine wpQuiet_nil ?_
  intro _ hw'
  obtain ⟨⟨dq, osq⟩, hw''⟩ := hw'
  subst hw''
  have L4L := Lib.hid (K4L.out.regrown dq osq)
  have L4R := Lib.hid (K4R.out.regrown dq osq)
  have L4M := Lib.hid (K4M.out.regrown dq osq)
  have L49 := Lib.hid (K49.out.regrown dq osq)
  have HB5 := Lib.hid (HB4.out.trans ((below_regrown wq3 dq osq).mono HB4.out.size))
  clear K4L K4R K4M K49 HB4 q0 HC3
  generalize grow (redrawn wq3 dq) osq = v3 at L4L L4R L4M L49 HB5 ⊢
  obtain ⟨f0, f1, f2, f3⟩ := L49.out.fros
  obtain ⟨c0, c1, c2, c3⟩ := L49.out.cells
  simp only [nv, num, cs4] at c0 c1 c2 c3 ⊢
  go_wp2_with fail
  clear f0 f1 f2 f3 c0 c1 c2 c3
  have K4L : Hid (Bk 80 ((((v3.setCell ⟨g9, 0, none⟩ (.int .u64 (lb R4 0 : Nat))).setCell ⟨g9, 1, none⟩ (.int .u64 (lb R4 1 : Nat))).setCell ⟨g9, 2, none⟩ (.int .u64 (lb R4 2 : Nat))).setCell ⟨g9, 3, none⟩ (.int .u64 (lb R4 3 : Nat))) gl #[.int .u64 (l0 : Int), .int .u64 (l1 : Int), .int .u64 (l2 : Int), .int .u64 (l3 : Int), .int .u64 (l4 : Int), .int .u64 (l5 : Int), .int .u64 (l6 : Int), .int .u64 (l7 : Int)]) := Lib.hid (Bk.puto HNE.out.1 L4L.out)
  have K4R : Hid (Bk 24 ((((v3.setCell ⟨g9, 0, none⟩ (.int .u64 (lb R4 0 : Nat))).setCell ⟨g9, 1, none⟩ (.int .u64 (lb R4 1 : Nat))).setCell ⟨g9, 2, none⟩ (.int .u64 (lb R4 2 : Nat))).setCell ⟨g9, 3, none⟩ (.int .u64 (lb R4 3 : Nat))) gR cs0) := Lib.hid (Bk.puto HNE.out.2.1 L4R.out)
  have K4M : Hid (Bk 24 ((((v3.setCell ⟨g9, 0, none⟩ (.int .u64 (lb R4 0 : Nat))).setCell ⟨g9, 1, none⟩ (.int .u64 (lb R4 1 : Nat))).setCell ⟨g9, 2, none⟩ (.int .u64 (lb R4 2 : Nat))).setCell ⟨g9, 3, none⟩ (.int .u64 (lb R4 3 : Nat))) gM (cs4 M)) := Lib.hid (Bk.puto HNE.out.2.2.1 L4M.out)
  have K49 : Hid (Bk 24 ((((v3.setCell ⟨g9, 0, none⟩ (.int .u64 (lb R4 0 : Nat))).setCell ⟨g9, 1, none⟩ (.int .u64 (lb R4 1 : Nat))).setCell ⟨g9, 2, none⟩ (.int .u64 (lb R4 2 : Nat))).setCell ⟨g9, 3, none⟩ (.int .u64 (lb R4 3 : Nat))) g9 (cs4 R4)) := Lib.hid (Bk.put L49.out)
  have HB4 : Hid (Below w.heap.size w ((((v3.setCell ⟨g9, 0, none⟩ (.int .u64 (lb R4 0 : Nat))).setCell ⟨g9, 1, none⟩ (.int .u64 (lb R4 1 : Nat))).setCell ⟨g9, 2, none⟩ (.int .u64 (lb R4 2 : Nat))).setCell ⟨g9, 3, none⟩ (.int .u64 (lb R4 3 : Nat)))) := Lib.hid (by have hb := HB5.out; have h9 := HNE.out.2.2.2; go_grown)
  clear L4L L4R L4M L49 HB5
  generalize ((((v3.setCell ⟨g9, 0, none⟩ (.int .u64 (lb R4 0 : Nat))).setCell ⟨g9, 1, none⟩ (.int .u64 (lb R4 1 : Nat))).setCell ⟨g9, 2, none⟩ (.int .u64 (lb R4 2 : Nat))).setCell ⟨g9, 3, none⟩ (.int .u64 (lb R4 3 : Nat))) = wq4 at K4L K4R K4M K49 HB4 ⊢
  rw [rounds_succ]
  have hgn : ¬ (g9 = gR) := fun h => HNE.out.2.1 h.symm
  have hgn2 : ¬ (gR = g9) := HNE.out.2.1
  obtain ⟨f0, f1, f2, f3⟩ := K4R.out.fros
  obtain ⟨c0, c1, c2, c3⟩ := K49.out.cells
  obtain ⟨e0, e1, e2, e3⟩ := K4R.out.cells
  go_wp2_with fail
  have hres : R4 = res := by
    have k1 := HR1.out
    rw [HR0.out, mod_step] at k1
    have k2 := HR2.out
    rw [k1, mod_step] at k2
    have k3 := HR3.out
    rw [k2, mod_step] at k3
    have k4 := HR4.out
    rw [k3, mod_step] at k4
    rw [HRES.out, ← HE.out, k4]
    congr 1
    unfold v4 W256
    omega
  subst hres
  refine ret_cell rfl gR R4 rfl (Bk.put K4R.out) rfl ⟨rfl, ?_⟩
  have hb := HB4.out
  have hg : w.heap.size ≤ gR := by omega
  go_grown
end Go.Proofs.Ytglmmodkflkkkaa
