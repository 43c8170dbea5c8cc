/- The reference's Stretch. Condition: at most 2^47 bytes less 256 each. -/
import Derived.Test.YteaanoaldnnflaaPm
import Derived.Test.YteaanoaldnnflaaS
set_option linter.unusedVariables false
set_option linter.unusedSimpArgs false
namespace Go.Proofs.Yteaanoaldnnflaa
open Go.RowKit Go.Sort

/-- 'b = append(b, nl...)' -/
theorem app_n {ops : Array Oper} {rest : List Oper} {o : Oper} {a : Act} {Q : Exit → Act → World → Prop} {w : World} {B : Nat} {v : Value} {l : List UInt8} (nl : List UInt8) (bx c : Nat) (s x : Operand) (hgd : o.guard = none)
    (ho : o.op = .call { callee := .builtin .append, args := #[s, x], argTypes := #[33, 33] }) (hs : a.eval s = v) (hx : a.eval x = .slice (some ⟨bx, 0, none⟩) nl.length c) (hnews : ∀ j u, (bl nl)[j]? = some u → w.cell? ((⟨bx, 0, none⟩ : Addr).add j) = some u)
    (hI : Rm B v l w) (hB : B ≤ w.heap.size) (hlen : l.length + nl.length ≤ 140737488355328)
    (h : ∀ v' w', Rm B v' (l ++ nl) w' → Below B w w' → (∀ k, k < w.heap.size → v.ownBlock ≠ some k → w'.heap[k]? = w.heap[k]?) → wpList Try.prog ops Q rest (a.put o.dst v') w') : wpList Try.prog ops Q (o :: rest) a w := by
  obtain ⟨i0, hi, hz0, hz1, hz2⟩ := info_parts infoByte
  have HI := hI
  obtain ⟨g, cap, cur, fz, rfl, hbg, hg, hoff, hlc, hcm, hcs, htk⟩ := hI
  have hgw := blk_lt hg
  by_cases hroom : l.length + nl.length ≤ cap
  · have hf := run_firstCells_some (P := Try.prog) w 1 nl.length ⟨bx, 0, none⟩ nl.length c (bl nl) (by rw [bl_len, Nat.mul_one]) hnews
    have hst := run_storeM Try.prog g l.length 5 fz (bl nl) 0 cur w hg hoff (by rw [bl_len]; omega) (bl_one nl)
    simp only [Nat.add_zero] at hst
    have hr : (Builtin.append_ #[33, 33] o.type #[.slice (some ⟨g, 0, none⟩) l.length cap, .slice (some ⟨bx, 0, none⟩) nl.length c]).run Try.prog w = .ok (.slice (some ⟨g, 0, none⟩) (l.length + nl.length) cap) (w.setRow g (cur.toList.take l.length ++ bl nl ++ cur.toList.drop (l.length + (bl nl).length)).toArray) := by
      simp [Builtin.append_, run_underlying Try.underlying33, sizeOf, typeInfo, hi, hz1, Builtin.lenOf, hroom, hf, Addr.add_lit, hst]
    refine Lib.wpList_append_run w hgd s x 33 33 ho _ _ hs hx _ _ hr (h _ _ ?_ ?_ ?_)
    · refine ⟨g, cap, _, fz, by rw [List.length_append], hbg, setRow_heap w g cur _ 5 _ hg, ?_, by rw [List.length_append]; exact hroom, hcm, ?_, ?_⟩
      · have e : (cur.toList.take l.length ++ bl nl ++ cur.toList.drop (l.length + (bl nl).length)).toArray.size = cur.size := by simp [bl_len]; omega
        rw [e]; exact hoff
      · simp [bl_len]; omega
      · rw [htk, ← bl_app, ← bl_len (l ++ nl)]; simp only []; exact List.take_left
    · exact ⟨rfl, rfl, rfl, by rw [setRow_size]; exact Nat.le_refl _, fun k hk => setRow_other w g k _ (by omega)⟩
    · exact fun k _ hk => setRow_other w g k _ (fun e => hk (by simp [Value.ownBlock, e]))
  · obtain ⟨_, _, _, _, _, _, hc⟩ := HI.un
    have holds : ∀ j u, (bl l)[j]? = some u → w.cell? ((⟨g, 0, none⟩ : Addr).add j) = some u := fun j u hu => by
      rw [at0, blk_cell hg j]
      rw [← htk, List.getElem?_take] at hu
      split at hu
      · simpa using hu
      · cases hu
    have hr := run_append_grow (P := Try.prog) w 33 o.type 5 i0 (.int .u8 0) Try.underlying33 hi hz0 ⟨g, 0, none⟩ l.length cap (bl l) (by rw [bl_len, hz1, Nat.mul_one]) holds ⟨bx, 0, none⟩ nl.length c (bl nl) (by rw [bl_len, hz1, Nat.mul_one]) hnews (by omega) (by omega) (by rw [hz2]; exact growslice_fits (by omega) (by omega))
    have hge := grownCap_ge w (l.length + nl.length) cap 5
    refine Lib.wpList_append_run w hgd s x 33 33 ho _ _ hs hx _ _ hr (h _ _ ?_ ?_ ?_)
    · refine ⟨w.heap.size, _, _, (0, 0), by rw [List.length_append], hB, Go.heap_alloc_new w.drew _, .inl rfl, by rw [List.length_append]; exact hge, grownCap_le_maxLen w _ cap 5 (by unfold maxLen; omega), ?_, ?_⟩
      · have hz1' : (Value.int IntKind.u8 0).cells.size = 1 := rfl
        simp only [Array.size_append, List.size_toArray, size_zeroCells, hz1', bl_len]
        omega
      · simp only [Array.toList_append, List.append_assoc]
        rw [← List.append_assoc, ← bl_app, ← bl_len (l ++ nl)]
        exact List.take_left
    · exact (Below.refl _ _).drew.alloc hB _
    · exact fun k hk _ => Below.heap_alloc w.drew _ k hk

theorem Rm.news {B g cap : Nat} {n : Nat} {l : List UInt8} {w : World} (h : Rm B (.slice (some ⟨g, 0, none⟩) n cap) l w) : n = l.length ∧ ∀ j u, (bl l)[j]? = some u → w.cell? ((⟨g, 0, none⟩ : Addr).add j) = some u := by
  obtain ⟨g', cap', e, _, _, _, hc⟩ := h.un
  simp only [Value.slice.injEq, Option.some.injEq, Addr.mk.injEq, and_true, true_and] at e
  obtain ⟨rfl, rfl, rfl⟩ := e
  refine ⟨rfl, fun j u hu => ?_⟩
  have hj : j < l.length := by
    have := (List.getElem?_eq_some_iff.1 hu).1
    simpa [bl] using this
  rw [at0, hc j hj]
  rw [← hu]
  simp [bl, hj]
/-- the first n bytes of a row -/
theorem Rm.cut {B g cap m : Nat} {l : List UInt8} {w : World} (h : Rm B (.slice (some ⟨g, 0, none⟩) m cap) l w) (n : Nat) (hn : n ≤ l.length) : (convert 33 9 (.slice (some ⟨g, 0, none⟩) n cap)).run Try.prog w = .ok (.string ⟨(l.take n).toArray⟩) w := by
  obtain ⟨g', cap', e, _, _, _, hc⟩ := h.un
  simp only [Value.slice.injEq, Option.some.injEq, Addr.mk.injEq, and_true, true_and] at e
  obtain ⟨rfl, rfl, rfl⟩ := e
  have hl : (l.take n).length = n := by rw [List.length_take]; omega
  have := run_convert_bytes_back (P := Try.prog) w 33 9 5 ⟨g, 0, none⟩ cap (l.take n) Try.underlying33 Try.underlying5 Try.underlying9 (fun j hj => by
    rw [at0, hc j (by rw [hl] at hj; omega)]
    simp)
  rwa [hl] at this
theorem xor_zeros (m : List UInt8) (h : m.length = 32) : List.zipWith (· ^^^ ·) (List.replicate 32 0) m = m := by
  apply List.ext_getElem
  · simp [h]
  · intro i h1 h2
    rw [List.getElem_zipWith, List.getElem_replicate]
    simp
noncomputable def ops15 (n : Nat) : Array Oper := (Try.f15.body.bind fun c => findR c n).getD #[]
noncomputable def loop15 (n : Nat) : Code := (Try.f15.body.bind fun c => findL c n).getD .skip

set_option maxHeartbeats 4000000 in
set_option maxRecDepth 100000 in
theorem s19 (gb cb k : Nat) (u : List UInt8) (a : UInt8) (hk : k < 32) (hu : u.length = 32) (w : World) (ia : w.cell? ⟨gb, k, none⟩ = some (.int .u8 (a.toNat : Int))) (fh : w.frozen? ⟨gb, k, none⟩ = false)
    {t0 t1 t2 t3 t4 t5 t6 t7 t8 t9 t10 t11 t12 t15 t17 t18 t19 t20 t21 t22 t23 t24 t25 t26 t27 t28 t29 t30 t31 t32 t33 t34 t35 t36 t37 t38 t39 t40 t41 t42 t43 t44 t45 t46 t47 t48 t49 t50 t51 t52 t53 t54 t55 t56 t57 t58 t59 t60 t61 t62 t63 t64 t65 t66 t67 t68 t69 t70 t71 t72 t73 t74 t75 t76 : Value} {ds : List Deferred} {Q : Exit → Act → World → Prop}
    (h : ∀ (x61 x62 x63 x64 x65 x66 x67 x68 x69 : Value) (w' wm : World), Sm w wm → w' = wm.setCell ⟨gb, k, none⟩ (.int .u8 ((a ^^^ u[k]'(by rw [hu]; exact hk)).toNat : Int)) → Q .normal { tmps := #[t0, t1, t2, t3, t4, t5, t6, t7, t8, t9, t10, t11, t12, .string ⟨u.toArray⟩, .slice (some ⟨gb, 0, none⟩) 32 cb, t15, .int .i64 (k : Int), t17, t18, t19, t20, t21, t22, t23, t24, t25, t26, t27, t28, t29, t30, t31, t32, t33, t34, t35, t36, t37, t38, t39, t40, t41, t42, t43, t44, t45, t46, t47, t48, t49, t50, t51, t52, t53, t54, t55, t56, t57, t58, t59, t60, x61, x62, x63, x64, x65, x66, x67, x68, x69, t70, t71, t72, t73, t74, t75, t76], defers := ds } w') :
    (Code.region 19 (ops15 19) true).wp Try.prog Q { tmps := #[t0, t1, t2, t3, t4, t5, t6, t7, t8, t9, t10, t11, t12, .string ⟨u.toArray⟩, .slice (some ⟨gb, 0, none⟩) 32 cb, t15, .int .i64 (k : Int), t17, t18, t19, t20, t21, t22, t23, t24, t25, t26, t27, t28, t29, t30, t31, t32, t33, t34, t35, t36, t37, t38, t39, t40, t41, t42, t43, t44, t45, t46, t47, t48, t49, t50, t51, t52, t53, t54, t55, t56, t57, t58, t59, t60, t61, t62, t63, t64, t65, t66, t67, t68, t69, t70, t71, t72, t73, t74, t75, t76], defers := ds } w := by
  simp only [ops15, findR, Try.f15, Option.bind_some, Option.or, Option.getD, Nat.reduceEqDiff, if_true, if_false, reduceIte]
  have hsz := size_ba u
  rw [hu] at hsz
  have hx : bits .xor .u8 (a.toNat : Int) ((((⟨u.toArray⟩ : ByteArray)[k]'(by rw [hsz]; exact hk)).toNat : Int)) = ((a ^^^ u[k]'(by rw [hu]; exact hk)).toNat : Int) := xorB a (u[k]'(by rw [hu]; exact hk))
  have HH := Lib.hid (fun x61 x62 x63 x64 x65 x66 x67 x68 x69 w' wm h1 h2 => h x61 x62 x63 x64 x65 x66 x67 x68 x69 w' wm h1 h2)
  clear h
  generalize a ^^^ u[k]'(by rw [hu]; exact hk) = c at hx HH
  have hk2 : (k : Int) < 32 := by omega
  refine wp_region_quiet_tail 9 mixed (by kernel_rfl) ?_
  simp only [List.take_succ_cons, List.take_zero, List.drop_succ_cons, List.drop_zero]
  iterate 9 go_big_quiet_step (fail)
  refine wpQuiet_nil ?_
  intro _ hw'
  obtain ⟨nq, hw''⟩ := hw'
  subst hw''
  have f2 : (w.drewN nq).frozen? ⟨gb, k, none⟩ = false := fh
  have c2 : (w.drewN nq).cell? ⟨gb, k, none⟩ = some (.int .u8 (a.toNat : Int)) := ia
  go_wp2_with fail
  exact HH.out _ _ _ _ _ _ _ _ _ _ _ (Sm.drewN w nq) rfl

set_option maxHeartbeats 8000000 in
set_option maxRecDepth 100000 in
theorem xors (B gb cb : Nat) (b u : List UInt8) (hb : b.length = 32) (hu : u.length = 32) (w : World) (hr : Rm B (.slice (some ⟨gb, 0, none⟩) 32 cb) b w)
    {t0 t1 t2 t3 t4 t5 t6 t7 t8 t9 t10 t11 t12 t15 t17 t18 t19 t20 t21 t22 t23 t24 t25 t26 t27 t28 t29 t30 t31 t32 t33 t34 t35 t36 t37 t38 t39 t40 t41 t42 t43 t44 t45 t46 t47 t48 t49 t50 t51 t52 t53 t54 t55 t56 t57 t58 t59 t60 t61 t62 t63 t64 t65 t66 t67 t68 t69 t70 t71 t72 t73 t74 t75 t76 : Value} {ds : List Deferred} {Q : Exit → Act → World → Prop}
    (h : ∀ (x57 x58 x59 x60 x61 x62 x63 x64 x65 x66 x67 x68 x69 : Value) (w' : World), Rm B (.slice (some ⟨gb, 0, none⟩) 32 cb) (List.zipWith (· ^^^ ·) b u) w' → Below B w w' → Q .normal { tmps := #[t0, t1, t2, t3, t4, t5, t6, t7, t8, t9, t10, t11, t12, .string ⟨u.toArray⟩, .slice (some ⟨gb, 0, none⟩) 32 cb, t15, .int .i64 32, t17, t18, t19, t20, t21, t22, t23, t24, t25, t26, t27, t28, t29, t30, t31, t32, t33, t34, t35, t36, t37, t38, t39, t40, t41, t42, t43, t44, t45, t46, t47, t48, t49, t50, t51, t52, t53, t54, t55, t56, x57, x58, x59, x60, x61, x62, x63, x64, x65, x66, x67, x68, x69, t70, t71, t72, t73, t74, t75, t76], defers := ds } w') :
    (loop15 17).wp Try.prog (Exit.inBlock 4 Q) { tmps := #[t0, t1, t2, t3, t4, t5, t6, t7, t8, t9, t10, t11, t12, .string ⟨u.toArray⟩, .slice (some ⟨gb, 0, none⟩) 32 cb, t15, .int .i64 0, t17, t18, t19, t20, t21, t22, t23, t24, t25, t26, t27, t28, t29, t30, t31, t32, t33, t34, t35, t36, t37, t38, t39, t40, t41, t42, t43, t44, t45, t46, t47, t48, t49, t50, t51, t52, t53, t54, t55, t56, t57, t58, t59, t60, t61, t62, t63, t64, t65, t66, t67, t68, t69, t70, t71, t72, t73, t74, t75, t76], defers := ds } w := by
  have HH := Lib.hid h
  clear h
  simp only [loop15, findL, head1, Try.f15, Option.bind_some, Option.or, Option.getD, Nat.reduceEqDiff, if_true, if_false, reduceIte]
  have HR0 := Lib.hid hr
  have HL := Lib.hid hb
  have HU := Lib.hid hu
  clear hr hb hu
  go_loopw [16] (fun i wr => ∃ q : Nat, q ≤ 32 ∧ i = .int .i64 q ∧ Rm B (.slice (some ⟨gb, 0, none⟩) 32 cb) (zipX b u q) wr ∧ Below B w wr) (fun i _ => 32 - (intOf i).toNat)
  case atStart => exact ⟨0, by omega, rfl, by simpa [zipX] using HR0.out, Below.refl _ _⟩
  case round =>
    obtain ⟨q, hq, rfl, hr, hb⟩ := hrel
    have HR := Lib.hid hr
    have HB := Lib.hid hb
    clear hr hb HR0
    by_cases hlt : q < 32
    · have hqb : q < b.length := by rw [HL.out]; exact hlt
      have hqu : q < u.length := by rw [HU.out]; exact hlt
      obtain ⟨g', cap', e, hg, cc, ff, hp⟩ := HR.out.put q (by rw [zipX_length b u HL.out HU.out]; exact hlt) (b[q] ^^^ u[q])
      simp only [Value.slice.injEq, Option.some.injEq, Addr.mk.injEq, and_true, true_and] at e
      obtain ⟨rfl, e2, rfl⟩ := e
      clear e2
      rw [zipX_get b u HL.out HU.out q hlt] at cc
      rw [zipX_set b u HL.out HU.out q hlt] at hp
      have HP := Lib.hid hp
      have HG := Lib.hid hg
      have HC := Lib.hid cc
      have HF := Lib.hid ff
      clear hp hg cc ff
      go_wp2_with fail
      refine s19 gb cb q u b[q] hlt HU.out wr HC.out HF.out ?_
      intros
      rename_i w' wm sm e
      have HRN : Hid (Rm B (.slice (some ⟨gb, 0, none⟩) 32 cb) (zipX b u (q + 1)) w') := Lib.hid (by
        rw [e]
        obtain ⟨g, cap, cur, fz, ev, a1, a2, a3⟩ := HP.out
        refine ⟨g, cap, cur, fz, ev, a1, ?_, a3⟩
        rw [← a2]
        simp [World.setCell, sm.2.2.2])
      have HBN : Hid (Below B w w') := Lib.hid (by rw [e]; exact (sm.below HB.out).setCell (p := ⟨gb, q, none⟩) HG.out _)
      clear e sm HP HG HC HF HR HB
      go_wp2_with fail
      go_roundw
      case rel => exact ⟨q + 1, by omega, by go_num, HRN.out, HBN.out⟩
      case measure => simp [intOf]; omega
    · obtain rfl : q = 32 := by omega
      rw [zipX_all b u HL.out HU.out] at HR
      go_wp2_with fail
      exact HH.out _ _ _ _ _ _ _ _ _ _ _ _ _ wr HR.out HB.out

set_option maxHeartbeats 8000000 in
set_option maxRecDepth 100000 in
theorem turns13 (W1 : World) (gb cb r : Nat) (K : Value) (pass s : List UInt8) (hp : pass.length ≤ 140737488355200) (hr1 : 1 ≤ r) (hr2 : r ≤ 64) (w : World) (hK : Kr K W1) (hW : Below W1.heap.size W1 w) (hr : Rm W1.heap.size (.slice (some ⟨gb, 0, none⟩) 32 cb) (macL pass s) w)
    {t1 t3 t4 t5 t6 t7 t8 t9 t11 t12 t16 t17 t18 t19 t20 t21 t22 t23 t24 t25 t26 t27 t28 t29 t30 t31 t32 t33 t34 t35 t36 t37 t38 t39 t40 t41 t42 t43 t44 t45 t46 t47 t48 t49 t50 t51 t52 t53 t54 t55 t56 t57 t58 t59 t60 t61 t62 t63 t64 t65 t66 t67 t68 t69 t70 t71 t72 t73 t74 t75 t76 : Value} {ds : List Deferred} {Q : Exit → Act → World → Prop}
    (h : ∀ (x13 x16 x48 x49 x50 x51 x52 x53 x54 x55 x56 x57 x58 x59 x60 x61 x62 x63 x64 x65 x66 x67 x68 x69 : Value) (w' : World), Rm W1.heap.size (.slice (some ⟨gb, 0, none⟩) 32 cb) (strL (fillL pass) s r) w' → Below W1.heap.size W1 w' → Q .normal { tmps := #[.string ⟨pass.toArray⟩, t1, .int .i64 (r : Int), t3, t4, t5, t6, t7, t8, t9, K, t11, t12, x13, .slice (some ⟨gb, 0, none⟩) 32 cb, .int .i64 (r : Int), x16, t17, t18, t19, t20, t21, t22, t23, t24, t25, t26, t27, t28, t29, t30, t31, t32, t33, t34, t35, t36, t37, t38, t39, t40, t41, t42, t43, t44, t45, t46, t47, x48, x49, x50, x51, x52, x53, x54, x55, x56, x57, x58, x59, x60, x61, x62, x63, x64, x65, x66, x67, x68, x69, t70, t71, t72, t73, t74, t75, t76], defers := ds } w') :
    (loop15 13).wp Try.prog (Exit.inBlock 2 Q) { tmps := #[.string ⟨pass.toArray⟩, t1, .int .i64 (r : Int), t3, t4, t5, t6, t7, t8, t9, K, t11, t12, .string ⟨(macL pass s).toArray⟩, .slice (some ⟨gb, 0, none⟩) 32 cb, .int .i64 1, t16, t17, t18, t19, t20, t21, t22, t23, t24, t25, t26, t27, t28, t29, t30, t31, t32, t33, t34, t35, t36, t37, t38, t39, t40, t41, t42, t43, t44, t45, t46, t47, t48, t49, t50, t51, t52, t53, t54, t55, t56, t57, t58, t59, t60, t61, t62, t63, t64, t65, t66, t67, t68, t69, t70, t71, t72, t73, t74, t75, t76], defers := ds } w := by
  have HH := Lib.hid h
  clear h
  simp only [loop15, findL, head1, Try.f15, Option.bind_some, Option.or, Option.getD, Nat.reduceEqDiff, if_true, if_false, reduceIte]
  have HK := Lib.hid hK
  have HW := Lib.hid hW
  have HR0 := Lib.hid hr
  have HM := Lib.hid (fun u (hu : u.length = 32) w h => mac_ref pass u hp (by rw [hu]; decide) K w h)
  clear hK hW hr hp
  have H1 : Hid (strTo (fillL pass) 1 s (List.replicate 32 0) = (macL pass s, macL pass s)) := Lib.hid (by
    show (macK (fillL pass) s, List.zipWith (· ^^^ ·) (List.replicate 32 0) (macK (fillL pass) s)) = _
    rw [xor_zeros _ (mac_length _ _)]
    rfl)
  go_loopw [13, 15] (fun u i wr => ∃ q : Nat, 1 ≤ q ∧ q ≤ r ∧ i = .int .i64 q ∧ u = .string ⟨(strTo (fillL pass) q s (List.replicate 32 0)).1.toArray⟩ ∧ (strTo (fillL pass) q s (List.replicate 32 0)).1.length = 32 ∧ Rm W1.heap.size (.slice (some ⟨gb, 0, none⟩) 32 cb) (strTo (fillL pass) q s (List.replicate 32 0)).2 wr ∧ Below W1.heap.size W1 wr) (fun _ i _ => r - (intOf i).toNat)
  case atStart => exact ⟨1, by omega, hr1, rfl, by rw [H1.out], by rw [H1.out]; exact mac_length _ _, by rw [H1.out]; exact HR0.out, HW.out⟩
  case round =>
    obtain ⟨q, hq1, hq2, rfl, rfl, hul, hr, hb⟩ := hrel
    have HR := Lib.hid hr
    have HB := Lib.hid hb
    have HUL := Lib.hid hul
    clear hr hb hul HR0 HW H1
    by_cases hlt : q < r
    · have HN : Hid (strTo (fillL pass) (q + 1) s (List.replicate 32 0) = (macL pass (strTo (fillL pass) q s (List.replicate 32 0)).1, List.zipWith (· ^^^ ·) (strTo (fillL pass) q s (List.replicate 32 0)).2 (macL pass (strTo (fillL pass) q s (List.replicate 32 0)).1))) := Lib.hid rfl
      have HBL : Hid ((strTo (fillL pass) q s (List.replicate 32 0)).2.length = 32) := Lib.hid (str_length _ _ _ _ (by simp))
      generalize (strTo (fillL pass) q s (List.replicate 32 0)).1 = u at HN HUL ⊢
      generalize (strTo (fillL pass) q s (List.replicate 32 0)).2 = b at HN HBL HR
      have HML : Hid ((macL pass u).length = 32) := Lib.hid (mac_length _ _)
      go_wp2_with fail
      refine (HM.out u HUL.out _ (HK.out.below HB.out)).mono ?_
      rintro e w2 ⟨rfl, b2⟩
      generalize macL pass u = m at HN HML ⊢
      have HR2 := Lib.hid (HR.out.below b2)
      have HB2 := Lib.hid (HB.out.trans (b2.mono HB.out.size))
      clear b2 HR HB
      go_wp2_with fail
      refine xors W1.heap.size gb cb b m HBL.out HML.out _ HR2.out ?_
      intros
      rename_i w' f1 f2
      have HRN : Hid (Rm W1.heap.size (.slice (some ⟨gb, 0, none⟩) 32 cb) (strTo (fillL pass) (q + 1) s (List.replicate 32 0)).2 w') := Lib.hid (by rw [HN.out]; exact f1)
      have HBN := Lib.hid (HB2.out.trans f2)
      clear f1 f2 HR2 HB2
      go_wp2_with fail
      go_roundw
      case rel => exact ⟨q + 1, by omega, by omega, by go_num, by rw [HN.out], by rw [HN.out]; exact HML.out, HRN.out, HBN.out⟩
      case measure => simp [intOf]; omega
    · obtain rfl : q = r := by omega
      go_wp2_with fail
      exact HH.out _ _ _ _ _ _ _ _ _ _ _ _ _ _ _ _ _ _ _ _ _ _ _ _ wr HR.out HB.out
end Go.Proofs.Yteaanoaldnnflaa
