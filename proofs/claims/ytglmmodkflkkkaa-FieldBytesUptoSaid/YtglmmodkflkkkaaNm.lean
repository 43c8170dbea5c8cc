/- Drawn regions that lay a number behind calls, each apart from the function that it stands in. No condition but what each reads. -/
import Derived.Test.YtglmmodkflkkkaaNk
import Derived.Test.YtglmmodkflkkkaaNh
import Derived.Laws.Cover3
import Derived.Deep.RegionLaw
set_option linter.unusedVariables false
set_option linter.unusedSimpArgs false
set_option maxRecDepth 100000
namespace Go.Proofs.Ytglmmodkflkkkaa
open Go.RowKit Limbs

noncomputable def ops19 (n : Nat) : Array Oper := (Try.f23.body.bind fun c => findR c n).getD #[]
noncomputable def ops15 (n : Nat) : Array Oper := (Try.f19.body.bind fun c => findR c n).getD #[]
noncomputable def ops17 (n : Nat) : Array Oper := (Try.f21.body.bind fun c => findR c n).getD #[]
theorem cell_alloc_old {w : World} {o : Obj} {g i : Nat} (h : g < w.heap.size) : (w.alloc o).cell? ⟨g, i, none⟩ = w.cell? ⟨g, i, none⟩ :=
  ((Below.refl w.heap.size w).alloc (Nat.le_refl _) o).cell (p := ⟨g, i, none⟩) h
theorem Bk.both {w w' : World} {g x : Nat} (h : Bk 24 w g (cs4 x)) (hB : Below w.heap.size w w') : (w'.cell? ⟨g, 0, none⟩ = some (.int .u64 (lb x 0 : Nat)) ∧ w'.cell? ⟨g, 1, none⟩ = some (.int .u64 (lb x 1 : Nat)) ∧ w'.cell? ⟨g, 2, none⟩ = some (.int .u64 (lb x 2 : Nat)) ∧ w'.cell? ⟨g, 3, none⟩ = some (.int .u64 (lb x 3 : Nat))) ∧ (∀ o, (w'.alloc o).cell? ⟨g, 0, none⟩ = some (.int .u64 (lb x 0 : Nat))) ∧ (∀ o, (w'.alloc o).cell? ⟨g, 1, none⟩ = some (.int .u64 (lb x 1 : Nat))) ∧ (∀ o, (w'.alloc o).cell? ⟨g, 2, none⟩ = some (.int .u64 (lb x 2 : Nat))) ∧ (∀ o, (w'.alloc o).cell? ⟨g, 3, none⟩ = some (.int .u64 (lb x 3 : Nat))) :=
  ⟨(h.below hB).cells, (h.below hB).cellsA⟩
theorem Bk.all4 {w : World} {g : Nat} {x0 x1 x2 x3 : Value} (h : Bk 24 w g #[x0, x1, x2, x3]) : ((∀ w', Below w.heap.size w w' → w'.cell? ⟨g, 0, none⟩ = some x0) ∧ (∀ w', Below w.heap.size w w' → w'.cell? ⟨g, 1, none⟩ = some x1) ∧ (∀ w', Below w.heap.size w w' → w'.cell? ⟨g, 2, none⟩ = some x2) ∧ (∀ w', Below w.heap.size w w' → w'.cell? ⟨g, 3, none⟩ = some x3)) ∧ (∀ w' o, Below w.heap.size w w' → (w'.alloc o).cell? ⟨g, 0, none⟩ = some x0) ∧ (∀ w' o, Below w.heap.size w w' → (w'.alloc o).cell? ⟨g, 1, none⟩ = some x1) ∧ (∀ w' o, Below w.heap.size w w' → (w'.alloc o).cell? ⟨g, 2, none⟩ = some x2) ∧ (∀ w' o, Below w.heap.size w w' → (w'.alloc o).cell? ⟨g, 3, none⟩ = some x3) :=
  ⟨⟨fun _ hB => (h.below hB).cell 0, fun _ hB => (h.below hB).cell 1, fun _ hB => (h.below hB).cell 2, fun _ hB => (h.below hB).cell 3⟩, fun _ _ hB => (h.below hB).alloc.cell 0, fun _ _ hB => (h.below hB).alloc.cell 1, fun _ _ hB => (h.below hB).alloc.cell 2, fun _ _ hB => (h.below hB).alloc.cell 3⟩
theorem kp {W w' : World} (hb : Below W.heap.size W w') : (∀ g i, g < W.heap.size → w'.cell? ⟨g, i, none⟩ = W.cell? ⟨g, i, none⟩) ∧ (∀ g i, g < W.heap.size → w'.frozen? ⟨g, i, none⟩ = W.frozen? ⟨g, i, none⟩) :=
  ⟨fun g i h => hb.cell (p := ⟨g, i, none⟩) h, fun g i h => hb.frozen (p := ⟨g, i, none⟩) h⟩

set_option maxHeartbeats 16000000 in
theorem m3 (gl gM M l4 l5 l6 l7 r : Nat) (w : World) (hgl : gl < w.heap.size) (k4 : w.cell? ⟨gl, 4, none⟩ = some (.int .u64 (l4 : Int))) (k5 : w.cell? ⟨gl, 5, none⟩ = some (.int .u64 (l5 : Int))) (k6 : w.cell? ⟨gl, 6, none⟩ = some (.int .u64 (l6 : Int))) (k7 : w.cell? ⟨gl, 7, none⟩ = some (.int .u64 (l7 : Int))) (KM : Bk 24 w gM (cs4 M)) (HQ : Hid (∀ w, Calls Try.prog 55 #[.agg #[.int .u64 (l4 : Int), .int .u64 (l5 : Int), .int .u64 (l6 : Int), .int .u64 (l7 : Int)], nv M] w fun e w' => e = .returned (nv r) ∧ Below w.heap.size w w'))
    {t0 t1 t2 t3 t4 t5 t6 t9 t10 t11 t12 t13 t14 t15 t16 t17 t18 t19 t20 t21 t22 t23 t24 t25 t26 t27 t28 t29 t30 t31 t32 : Value} {ds : List Deferred} {K : Act → World → Prop} {Q : Exit → Act → World → Prop}
    (h : ∀ (x16 x17 x18 x19 x20 : Value) (g : Nat) (w' : World) (hb : Below w.heap.size w w') (hg : w.heap.size ≤ g) (hk : Bk 24 w' g (cs4 r)), K { tmps := #[t0, t1, t2, t3, t4, t5, t6, .pointer (some ⟨gM, 0, none⟩), .pointer (some ⟨gl, 0, none⟩), .pointer (some ⟨g, 0, none⟩), t10, t11, t12, t13, t14, t15, x16, x17, x18, x19, x20, t21, t22, t23, t24, t25, t26, t27, t28, t29, t30, t31, t32], defers := ds } w') :
    (Code.region 3 (ops19 3) true).wp Try.prog (Exit.then K Q) { tmps := #[t0, t1, t2, t3, t4, t5, t6, .pointer (some ⟨gM, 0, none⟩), .pointer (some ⟨gl, 0, none⟩), t9, t10, t11, t12, t13, t14, t15, t16, t17, t18, t19, t20, t21, t22, t23, t24, t25, t26, t27, t28, t29, t30, t31, t32], defers := ds } w := by
  simp only [ops19, findR, Try.f23, Option.bind_some, Option.or, Option.getD, Nat.reduceEqDiff, if_true, if_false, reduceIte]
  have HH := Lib.hid h
  clear h
  refine Code.wp_mono (Q := Exit.then K (fun _ _ _ => False)) (fun e a w h => by cases e <;> first | exact h | exact h.elim) ?_
  have hat : ∀ w, (Instr.arrayAt 24 (.slice (some ⟨gl, 4, none⟩) 4 4)).run Try.prog w = .ok (.pointer (some ⟨gl, 4, none⟩)) w := fun w => run_arrayAt w 24 22 4 _ 4 4 u24 (by decide)
  obtain ⟨m0, m1, m2, m3⟩ := KM.cells
  obtain ⟨n0, n1, n2, n3⟩ := KM.cellsA
  have z4 : ∀ o, (w.alloc o).cell? ⟨gl, 4, none⟩ = some (.int .u64 (l4 : Int)) := fun o => by rw [← k4]; exact cell_alloc_old hgl
  have z5 : ∀ o, (w.alloc o).cell? ⟨gl, 5, none⟩ = some (.int .u64 (l5 : Int)) := fun o => by rw [← k5]; exact cell_alloc_old hgl
  have z6 : ∀ o, (w.alloc o).cell? ⟨gl, 6, none⟩ = some (.int .u64 (l6 : Int)) := fun o => by rw [← k6]; exact cell_alloc_old hgl
  have z7 : ∀ o, (w.alloc o).cell? ⟨gl, 7, none⟩ = some (.int .u64 (l7 : Int)) := fun o => by rw [← k7]; exact cell_alloc_old hgl
  simp only [nv, num] at HQ
  go_region_law (go_simp; go_at_call 55; refine (keep w.heap.size w (HQ.out _) (by go_grown) (Nat.le_refl _)).mono ?_; rintro e w' ⟨rfl, hB, hb⟩; obtain ⟨hc, hf⟩ := kp hb)
  all_goals have hs := hB.size
  all_goals first
    | exact HH.out _ _ _ _ _ _ _ (by go_grown) hs (Bk.new rfl)
    | exact HH.out _ _ _ _ _ _ _ (by go_grown) (Nat.le_refl _) (Bk.put (Bk.below (Bk.drew (Bk.new rfl)) hb))
end Go.Proofs.Ytglmmodkflkkkaa
