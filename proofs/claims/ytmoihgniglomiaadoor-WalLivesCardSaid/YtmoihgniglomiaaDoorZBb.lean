/- The document's disk: After's drawn region; a byte behind a row of bytes. No condition. -/
import Derived.Test.YtmoihgniglomiaaDoorZBa
import Derived.Test.YtmoihgniglomiaaDoorZN
set_option linter.unusedVariables false
set_option linter.unusedSimpArgs false
set_option maxRecDepth 100000
namespace Go.Proofs.YtmoihgniglomiaaDoor
open Go.RowKit Go.Sort

/-- x is a new row of a text's bytes -/
def Cv (B : Nat) (w : World) (x : Value) (s : ByteArray) : Prop := ∃ g cap, x = .slice (some ⟨g, 0, none⟩) s.size cap ∧ By w g cap s.data.toList ∧ B ≤ g
theorem Cv.below {B : Nat} {w w' : World} {x : Value} {s : ByteArray} (h : Cv B w x s) (hb : Below w.heap.size w w') : Cv B w' x s := by
  obtain ⟨g, cap, hx, hy, hB⟩ := h
  exact ⟨g, cap, hx, hy.below hb, hB⟩
def Sep (x y : Value) : Prop := ∀ g, x.ownBlock = some g → y.ownBlock ≠ some g
theorem sep_new1 {B : Nat} {w : World} {y : Value} {s : ByteArray} {n c : Nat} (h : Cv B w y s) : Sep (.slice (some ⟨w.heap.size, 0, none⟩) n c) y := by
  obtain ⟨g, cap, rfl, hy, hB⟩ := h
  have := hy.lt
  intro q hq hq'
  cases hq
  cases hq'
  exact Nat.lt_irrefl _ this
theorem sep_new2 {B : Nat} {w : World} {y : Value} {s : ByteArray} {n c : Nat} (h : Cv B w y s) : Sep y (.slice (some ⟨w.heap.size, 0, none⟩) n c) := by
  obtain ⟨g, cap, rfl, hy, hB⟩ := h
  have := hy.lt
  intro q hq hq'
  cases hq
  cases hq'
  exact Nat.lt_irrefl _ this
/-- 'b = append(b, c)', c a byte -/
theorem app_byte (w : World) (ty : TypeId) (g cap : Nat) (l : List UInt8) (q c : Nat) (x : UInt8) (n : Nat) (hn : n = l.length) (hI : By w g cap l) (hq : Bk 5 w q #[.int .u8 (x.toNat : Int)]) (hlen : l.length + 1 ≤ 140737488355328) :
    ∃ g' cap' w', (Builtin.append_ #[80, 80] ty #[.slice (some ⟨g, 0, none⟩) n cap, .slice (some ⟨q, 0, none⟩) 1 c]).run Tryd.prog w = .ok (.slice (some ⟨g', 0, none⟩) (l.length + 1) cap') w' ∧ By w' g' cap' (l ++ [x]) ∧ Only [g] w w' ∧ (g' = g ∨ g' = w.heap.size) := by
  subst hn
  obtain ⟨i0, hi, hz0, hz1, hz2⟩ := info_parts infoByte
  have HI := hI
  obtain ⟨cur, fz, hg, hoff, hlc, hcm, hcs, htk⟩ := hI
  have hnews : ∀ j u, [Value.int .u8 (x.toNat : Int)][j]? = some u → w.cell? ((⟨q, 0, none⟩ : Addr).add j) = some u := by
    intro j u hu
    rw [at0, hq.cell]
    match j with
    | 0 => simpa using hu
    | j + 1 => simp at hu
  by_cases hroom : l.length + 1 ≤ cap
  · have hf := run_firstCells_some (P := Tryd.prog) w 1 1 ⟨q, 0, none⟩ 1 c [Value.int .u8 (x.toNat : Int)] rfl hnews
    have hst := run_storeM Tryd.prog g l.length 5 fz [Value.int .u8 (x.toNat : Int)] 0 cur w hg hoff (by simp; omega) (by intro v hv; simp only [List.mem_singleton] at hv; subst hv; rfl)
    simp only [Nat.add_zero] at hst
    have hr : (Builtin.append_ #[80, 80] ty #[.slice (some ⟨g, 0, none⟩) l.length cap, .slice (some ⟨q, 0, none⟩) 1 c]).run Tryd.prog w = .ok (.slice (some ⟨g, 0, none⟩) (l.length + 1) cap) (w.setRow g (cur.toList.take l.length ++ [Value.int .u8 (x.toNat : Int)] ++ cur.toList.drop (l.length + 1)).toArray) := by
      simp at hf hst
      simp [Builtin.append_, run_underlying u56, sizeOf, typeInfo, hi, hz1, Builtin.lenOf, hroom, hf, Addr.add_lit, hst]
    refine ⟨g, cap, _, hr, ⟨_, fz, setRow_heap w g cur _ 5 _ hg, ?_, ?_, hcm, ?_, ?_⟩, ⟨rfl, rfl, rfl, by rw [setRow_size]; exact Nat.le_refl _, fun k _ hk => setRow_other w g k _ (by simpa using hk)⟩, .inl rfl⟩
    · have e : (cur.toList.take l.length ++ [Value.int .u8 (x.toNat : Int)] ++ cur.toList.drop (l.length + 1)).toArray.size = cur.size := by simp; omega
      rw [e]; exact hoff
    · simpa using hroom
    · simp; omega
    · have e1 : [Value.int .u8 (x.toNat : Int)] = bl [x] := rfl
      rw [htk, e1, ← bl_app, ← bl_len (l ++ [x])]; simp only []; exact List.take_left
  · have holds : ∀ j u, (bl l)[j]? = some u → w.cell? ((⟨g, 0, none⟩ : Addr).add j) = some u := fun j u hu => by
      rw [at0, blk_cell hg j]
      rw [← htk, List.getElem?_take] at hu
      split at hu
      · simpa using hu
      · cases hu
    have hr := run_append_grow (P := Tryd.prog) w 80 ty 5 i0 (.int .u8 0) u56 hi hz0 ⟨g, 0, none⟩ l.length cap (bl l) (by rw [bl_len, hz1, Nat.mul_one]) holds ⟨q, 0, none⟩ 1 c [Value.int .u8 (x.toNat : Int)] (by rw [hz1]; rfl) hnews (by omega) (by omega) (by rw [hz2]; exact growslice_fits (by omega) (by omega))
    have hge := grownCap_ge w (l.length + 1) cap 5
    refine ⟨w.heap.size, _, _, hr, ⟨_, (0, 0), Go.heap_alloc_new w.drew _, .inl rfl, by simpa using hge, grownCap_le_maxLen w _ cap 5 (by unfold maxLen; omega), ?_, ?_⟩, (Only.refl _ _).drew.alloc _, .inr rfl⟩
    · have hz1' : (Value.int IntKind.u8 0).cells.size = 1 := rfl
      simp only [Array.size_append, List.size_toArray, size_zeroCells, hz1', bl_len, List.length_singleton]
      omega
    · have e1 : [Value.int .u8 (x.toNat : Int)] = bl [x] := rfl
      simp only [Array.toList_append, List.append_assoc]
      rw [e1, ← List.append_assoc, ← bl_app, ← bl_len (l ++ [x])]
      exact List.take_left
theorem left_all11_1 {j0 j1 j2 j3 j4 j5 j6 j7 j8 j9 j10 : Bool} (h : left #[j0, j1, j2, j3, j4, j5, j6, j7, j8, j9, j10, false] = 1) : j0 = true ∧ j1 = true ∧ j2 = true ∧ j3 = true ∧ j4 = true ∧ j5 = true ∧ j6 = true ∧ j7 = true ∧ j8 = true ∧ j9 = true ∧ j10 = true := by
  have e := left_count #[j0, j1, j2, j3, j4, j5, j6, j7, j8, j9, j10] 1
  have e2 : (#[j0, j1, j2, j3, j4, j5, j6, j7, j8, j9, j10] ++ Array.replicate 1 false) = #[j0, j1, j2, j3, j4, j5, j6, j7, j8, j9, j10, false] := rfl
  rw [e2, h] at e
  have hz := left_zero (l := #[j0, j1, j2, j3, j4, j5, j6, j7, j8, j9, j10]) (by omega)
  simpa using hz
noncomputable def ra1O : Array Oper := (Tryd.f62.body.bind fun c => findR c 1).getD #[]
def ra1I (w0 : World) (r : Nat) (k : Int) (sa sb : ByteArray) (uv : Value) (n kp : Int) (g : Bool) (t2 t3 t6 t7 t18 t19 t20 t21 t22 t23 t24 t25 t26 t27 t28 t29 t30 t31 t32 t33 t34 t35 t36 t37 t38 t39 t40 t41 t42 t43 t44 t45 t46 t47 t48 t49 t50 t51 t52 t53 t54 t55 t56 t57 t58 t59 t60 t61 t62 t63 t64 t65 t66 t67 : Value) (ds : List Deferred) (l : Array Bool) (a : Act) (w : World) : Prop :=
  ∃ j0 j1 j2 j3 j4 j5 j6 j7 j8 j9 j10 : Bool, ∃ x0 x1 x2 x3 x4 x5 x6 x7 x8 x9 x10 : Value, l = #[j0, j1, j2, j3, j4, j5, j6, j7, j8, j9, j10, false] ∧ a = { tmps := #[.pointer (some ⟨r, 0, none⟩), .int .i64 k, t2, t3, .slice none 0 0, x10, t6, t7, x0, x1, x2, x3, x4, x5, x6, x7, x8, x9, t18, t19, t20, t21, t22, t23, t24, t25, t26, t27, t28, t29, t30, t31, t32, t33, t34, t35, t36, t37, t38, t39, t40, t41, t42, t43, t44, t45, t46, t47, t48, t49, t50, t51, t52, t53, t54, t55, t56, t57, t58, t59, t60, t61, t62, t63, t64, t65, t66, t67], defers := ds } ∧ Below w0.heap.size w0 w ∧
  (j0 = true → x0 = .pointer (some ⟨r, 0, none⟩)) ∧ (j1 = true → x1 = .pointer (some ⟨r, 0, none⟩)) ∧ (j2 = true → x2 = .pointer (some ⟨r, 0, none⟩)) ∧ (j3 = true → x3 = .string sa) ∧ (j4 = true → Cv w0.heap.size w x4 (sa)) ∧ (j5 = true → x5 = .pointer (some ⟨r, 0, none⟩)) ∧ (j6 = true → x6 = .pointer (some ⟨r, 0, none⟩)) ∧ (j7 = true → x7 = .pointer (some ⟨r, 1, none⟩)) ∧ (j8 = true → x8 = .string sb) ∧ (j9 = true → Cv w0.heap.size w x9 (sb)) ∧ (j10 = true → x10 = x4) ∧ (j1 = true → j0 = true) ∧ (j2 = true → j1 = true) ∧ (j3 = true → j2 = true) ∧ (j4 = true → j3 = true) ∧ (j6 = true → j5 = true) ∧ (j7 = true → j6 = true) ∧ (j8 = true → j7 = true) ∧ (j9 = true → j8 = true) ∧ (j10 = true → j0 = true ∧ j1 = true ∧ j2 = true ∧ j3 = true ∧ j4 = true) ∧ (j4 = true → j9 = true → Sep x4 x9)
set_option maxHeartbeats 16000000 in
theorem ra1_none (r : Nat) (k : Int) (sa sb : ByteArray) (uv : Value) (n kp : Int) (g : Bool) (w : World) {t2 t3 t6 t7 t18 t19 t20 t21 t22 t23 t24 t25 t26 t27 t28 t29 t30 t31 t32 t33 t34 t35 t36 t37 t38 t39 t40 t41 t42 t43 t44 t45 t46 t47 t48 t49 t50 t51 t52 t53 t54 t55 t56 t57 t58 t59 t60 t61 t62 t63 t64 t65 t66 t67 : Value} {ds : List Deferred} : ∀ l a w1, ra1I w r k sa sb uv n kp g t2 t3 t6 t7 t18 t19 t20 t21 t22 t23 t24 t25 t26 t27 t28 t29 t30 t31 t32 t33 t34 t35 t36 t37 t38 t39 t40 t41 t42 t43 t44 t45 t46 t47 t48 t49 t50 t51 t52 t53 t54 t55 t56 t57 t58 t59 t60 t61 t62 t63 t64 t65 t66 t67 ds l a w1 → Region.ready .any ra1O l = [] → left l = 1 := by
  simp only [ra1O, findR, Tryd.f62, Option.bind_some, Option.or, Option.getD, Nat.reduceEqDiff, if_true, if_false, reduceIte]
  rintro l a w1 hI hr
  obtain ⟨j0, j1, j2, j3, j4, j5, j6, j7, j8, j9, j10, x0, x1, x2, x3, x4, x5, x6, x7, x8, x9, x10, rfl, rfl, hB, h0, h1, h2, h3, h4, h5, h6, h7, h8, h9, h10, k1, k2, k3, k4, k6, k7, k8, k9, k10, z0⟩ := hI
  have hn := fun i => List.eq_nil_iff_forall_not_mem.1 hr i
  clear hr
  have d0 : j0 = true := by
    cases hj : j0
    · exact absurd (mem_ready.2 ⟨by simp [hj], _, rfl, by simp [Region.binds, hj]⟩) (hn 0)
    · rfl
  subst d0
  have d1 : j1 = true := by
    cases hj : j1
    · exact absurd (mem_ready.2 ⟨by simp [hj], _, rfl, by simp [Region.binds, hj]⟩) (hn 1)
    · rfl
  subst d1
  have d2 : j2 = true := by
    cases hj : j2
    · exact absurd (mem_ready.2 ⟨by simp [hj], _, rfl, by simp [Region.binds, hj]⟩) (hn 2)
    · rfl
  subst d2
  have d3 : j3 = true := by
    cases hj : j3
    · exact absurd (mem_ready.2 ⟨by simp [hj], _, rfl, by simp [Region.binds, hj]⟩) (hn 3)
    · rfl
  subst d3
  have d4 : j4 = true := by
    cases hj : j4
    · exact absurd (mem_ready.2 ⟨by simp [hj], _, rfl, by simp [Region.binds, hj]⟩) (hn 4)
    · rfl
  subst d4
  have d5 : j5 = true := by
    cases hj : j5
    · exact absurd (mem_ready.2 ⟨by simp [hj], _, rfl, by simp [Region.binds, hj]⟩) (hn 5)
    · rfl
  subst d5
  have d6 : j6 = true := by
    cases hj : j6
    · exact absurd (mem_ready.2 ⟨by simp [hj], _, rfl, by simp [Region.binds, hj]⟩) (hn 6)
    · rfl
  subst d6
  have d7 : j7 = true := by
    cases hj : j7
    · exact absurd (mem_ready.2 ⟨by simp [hj], _, rfl, by simp [Region.binds, hj]⟩) (hn 7)
    · rfl
  subst d7
  have d8 : j8 = true := by
    cases hj : j8
    · exact absurd (mem_ready.2 ⟨by simp [hj], _, rfl, by simp [Region.binds, hj]⟩) (hn 8)
    · rfl
  subst d8
  have d9 : j9 = true := by
    cases hj : j9
    · exact absurd (mem_ready.2 ⟨by simp [hj], _, rfl, by simp [Region.binds, hj]⟩) (hn 9)
    · rfl
  subst d9
  have d10 : j10 = true := by
    cases hj : j10
    · exact absurd (mem_ready.2 ⟨by simp [hj], _, rfl, by simp [Region.binds, hj]⟩) (hn 10)
    · rfl
  subst d10
  rfl
set_option maxHeartbeats 16000000 in
theorem ra1_steps (r : Nat) (k : Int) (sa sb : ByteArray) (uv : Value) (n kp : Int) (g : Bool) (w : World) (KR : Bk 61 w r #[.string sa, .string sb, uv, .int .i64 n, .int .i64 kp, .bool g]) (HS : sa.size ≤ maxLen ∧ sb.size ≤ maxLen)
    {t2 t3 t6 t7 t18 t19 t20 t21 t22 t23 t24 t25 t26 t27 t28 t29 t30 t31 t32 t33 t34 t35 t36 t37 t38 t39 t40 t41 t42 t43 t44 t45 t46 t47 t48 t49 t50 t51 t52 t53 t54 t55 t56 t57 t58 t59 t60 t61 t62 t63 t64 t65 t66 t67 : Value} {ds : List Deferred} {Q : Exit → Act → World → Prop} :
    ∀ l a w', ra1I w r k sa sb uv n kp g t2 t3 t6 t7 t18 t19 t20 t21 t22 t23 t24 t25 t26 t27 t28 t29 t30 t31 t32 t33 t34 t35 t36 t37 t38 t39 t40 t41 t42 t43 t44 t45 t46 t47 t48 t49 t50 t51 t52 t53 t54 t55 t56 t57 t58 t59 t60 t61 t62 t63 t64 t65 t66 t67 ds l a w' → left l ≠ 1 → ∀ i ∈ Region.ready .any ra1O l, wpOp Tryd.prog ra1O Q i (fun a' w'' => ra1I w r k sa sb uv n kp g t2 t3 t6 t7 t18 t19 t20 t21 t22 t23 t24 t25 t26 t27 t28 t29 t30 t31 t32 t33 t34 t35 t36 t37 t38 t39 t40 t41 t42 t43 t44 t45 t46 t47 t48 t49 t50 t51 t52 t53 t54 t55 t56 t57 t58 t59 t60 t61 t62 t63 t64 t65 t66 t67 ds (l.setIfInBounds i true) a' w'') a w' := by
  simp only [ra1O, findR, Tryd.f62, Option.bind_some, Option.or, Option.getD, Nat.reduceEqDiff, if_true, if_false, reduceIte]
  rintro l a w' hI hlt i hi
  rw [mem_ready] at hi
  obtain ⟨hu, oo, ho, hd⟩ := hi
  have hin : i < 12 := by
    have := (Array.getElem?_eq_some_iff.1 ho).1
    simpa using this
  have hcase : i = 0 ∨ i = 1 ∨ i = 2 ∨ i = 3 ∨ i = 4 ∨ i = 5 ∨ i = 6 ∨ i = 7 ∨ i = 8 ∨ i = 9 ∨ i = 10 ∨ i = 11 := by omega
  obtain ⟨j0, j1, j2, j3, j4, j5, j6, j7, j8, j9, j10, x0, x1, x2, x3, x4, x5, x6, x7, x8, x9, x10, rfl, rfl, hB, h0, h1, h2, h3, h4, h5, h6, h7, h8, h9, h10, k1, k2, k3, k4, k6, k7, k8, k9, k10, z0⟩ := hI
  replace h0 := Lib.hid h0
  replace h1 := Lib.hid h1
  replace h2 := Lib.hid h2
  replace h3 := Lib.hid h3
  replace h4 := Lib.hid h4
  replace h5 := Lib.hid h5
  replace h6 := Lib.hid h6
  replace h7 := Lib.hid h7
  replace h8 := Lib.hid h8
  replace h9 := Lib.hid h9
  replace h10 := Lib.hid h10
  replace k1 := Lib.hid k1
  replace k2 := Lib.hid k2
  replace k3 := Lib.hid k3
  replace k4 := Lib.hid k4
  replace k6 := Lib.hid k6
  replace k7 := Lib.hid k7
  replace k8 := Lib.hid k8
  replace k9 := Lib.hid k9
  replace k10 := Lib.hid k10
  replace z0 := Lib.hid z0
  rcases hcase with rfl | rfl | rfl | rfl | rfl | rfl | rfl | rfl | rfl | rfl | rfl | rfl
  · obtain rfl := Option.some.inj ho
    simp [Region.binds] at hu hd
    clear hd hlt
    refine wpOp_of rfl rfl ?_
    go_simp
    unfold ra1I
    exact ⟨true, j1, j2, j3, j4, j5, j6, j7, j8, j9, j10, _, x1, x2, x3, x4, x5, x6, x7, x8, x9, x10, rfl, rfl, hB, fun _ => rfl, h1.out, h2.out, h3.out, h4.out, h5.out, h6.out, h7.out, h8.out, h9.out, h10.out, fun hj => absurd ((k1.out hj)) (by simp [hu]), k2.out, k3.out, k4.out, k6.out, k7.out, k8.out, k9.out, fun hj => absurd ((k10.out hj).1) (by simp [hu]), z0.out⟩
  · obtain rfl := Option.some.inj ho
    simp [Region.binds] at hu hd
    have d0 : j0 = true := by simp [hd]
    have e0 := h0.out d0
    subst e0
    subst d0
    clear hd hlt
    refine wpOp_of rfl rfl ?_
    go_simp
    unfold ra1I
    exact ⟨true, true, j2, j3, j4, j5, j6, j7, j8, j9, j10, _, _, x2, x3, x4, x5, x6, x7, x8, x9, x10, rfl, rfl, hB, h0.out, fun _ => rfl, h2.out, h3.out, h4.out, h5.out, h6.out, h7.out, h8.out, h9.out, h10.out, fun _ => rfl, fun hj => absurd ((k2.out hj)) (by simp [hu]), k3.out, k4.out, k6.out, k7.out, k8.out, k9.out, fun hj => absurd ((k10.out hj).2.1) (by simp [hu]), z0.out⟩
  · obtain rfl := Option.some.inj ho
    simp [Region.binds] at hu hd
    have d1 : j1 = true := by simp [hd]
    have e1 := h1.out d1
    subst e1
    subst d1
    clear hd hlt
    refine wpOp_of rfl rfl ?_
    go_simp
    unfold ra1I
    exact ⟨j0, true, true, j3, j4, j5, j6, j7, j8, j9, j10, x0, _, _, x3, x4, x5, x6, x7, x8, x9, x10, rfl, rfl, hB, h0.out, h1.out, fun _ => rfl, h3.out, h4.out, h5.out, h6.out, h7.out, h8.out, h9.out, h10.out, k1.out, fun _ => rfl, fun hj => absurd ((k3.out hj)) (by simp [hu]), k4.out, k6.out, k7.out, k8.out, k9.out, fun hj => absurd ((k10.out hj).2.2.1) (by simp [hu]), z0.out⟩
  · obtain rfl := Option.some.inj ho
    simp [Region.binds] at hu hd
    have d2 : j2 = true := by simp [hd]
    have e2 := h2.out d2
    subst e2
    subst d2
    clear hd hlt
    refine wpOp_of rfl rfl ?_
    have i0 : w'.cell? ⟨r, 0, none⟩ = some (.string sa) := (KR.below hB).cell 0
    go_simp
    unfold ra1I
    exact ⟨j0, j1, true, true, j4, j5, j6, j7, j8, j9, j10, x0, x1, _, _, x4, x5, x6, x7, x8, x9, x10, rfl, rfl, hB, h0.out, h1.out, h2.out, fun _ => rfl, h4.out, h5.out, h6.out, h7.out, h8.out, h9.out, h10.out, k1.out, k2.out, fun _ => rfl, fun hj => absurd ((k4.out hj)) (by simp [hu]), k6.out, k7.out, k8.out, k9.out, fun hj => absurd ((k10.out hj).2.2.2.1) (by simp [hu]), z0.out⟩
  · obtain rfl := Option.some.inj ho
    simp [Region.binds] at hu hd
    have d3 : j3 = true := by simp [hd]
    have e3 := h3.out d3
    subst e3
    subst d3
    clear hd hlt
    refine wpOp_of rfl rfl ?_
    obtain ⟨cap, w2, hrun, hby, hb2⟩ := conv_new (sa) (HS.1) w'
    have hB2 := hB.trans (hb2.mono hB.size)
    have hs0 := hB.size
    go_simp
    unfold ra1I
    exact ⟨j0, j1, j2, true, true, j5, j6, j7, j8, j9, j10, x0, x1, x2, _, _, x5, x6, x7, x8, x9, x10, rfl, rfl, hB2, h0.out, h1.out, h2.out, h3.out, fun _ => ⟨_, _, rfl, hby, hs0⟩, h5.out, h6.out, h7.out, h8.out, fun hj => (h9.out hj).below hb2, fun hj => absurd ((k10.out hj).2.2.2.2) (by simp [hu]), k1.out, k2.out, k3.out, fun _ => rfl, k6.out, k7.out, k8.out, k9.out, fun hj => absurd ((k10.out hj).2.2.2.2) (by simp [hu]), fun _ hj => sep_new1 (h9.out hj)⟩
  · obtain rfl := Option.some.inj ho
    simp [Region.binds] at hu hd
    clear hd hlt
    refine wpOp_of rfl rfl ?_
    go_simp
    unfold ra1I
    exact ⟨j0, j1, j2, j3, j4, true, j6, j7, j8, j9, j10, x0, x1, x2, x3, x4, _, x6, x7, x8, x9, x10, rfl, rfl, hB, h0.out, h1.out, h2.out, h3.out, h4.out, fun _ => rfl, h6.out, h7.out, h8.out, h9.out, h10.out, k1.out, k2.out, k3.out, k4.out, fun hj => absurd ((k6.out hj)) (by simp [hu]), k7.out, k8.out, k9.out, k10.out, z0.out⟩
  · obtain rfl := Option.some.inj ho
    simp [Region.binds] at hu hd
    have d5 : j5 = true := by simp [hd]
    have e5 := h5.out d5
    subst e5
    subst d5
    clear hd hlt
    refine wpOp_of rfl rfl ?_
    go_simp
    unfold ra1I
    exact ⟨j0, j1, j2, j3, j4, true, true, j7, j8, j9, j10, x0, x1, x2, x3, x4, _, _, x7, x8, x9, x10, rfl, rfl, hB, h0.out, h1.out, h2.out, h3.out, h4.out, h5.out, fun _ => rfl, h7.out, h8.out, h9.out, h10.out, k1.out, k2.out, k3.out, k4.out, fun _ => rfl, fun hj => absurd ((k7.out hj)) (by simp [hu]), k8.out, k9.out, k10.out, z0.out⟩
  · obtain rfl := Option.some.inj ho
    simp [Region.binds] at hu hd
    have d6 : j6 = true := by simp [hd]
    have e6 := h6.out d6
    subst e6
    subst d6
    clear hd hlt
    refine wpOp_of rfl rfl ?_
    go_simp
    unfold ra1I
    exact ⟨j0, j1, j2, j3, j4, j5, true, true, j8, j9, j10, x0, x1, x2, x3, x4, x5, _, _, x8, x9, x10, rfl, rfl, hB, h0.out, h1.out, h2.out, h3.out, h4.out, h5.out, h6.out, fun _ => rfl, h8.out, h9.out, h10.out, k1.out, k2.out, k3.out, k4.out, k6.out, fun _ => rfl, fun hj => absurd ((k8.out hj)) (by simp [hu]), k9.out, k10.out, z0.out⟩
  · obtain rfl := Option.some.inj ho
    simp [Region.binds] at hu hd
    have d7 : j7 = true := by simp [hd]
    have e7 := h7.out d7
    subst e7
    subst d7
    clear hd hlt
    refine wpOp_of rfl rfl ?_
    have i1 : w'.cell? ⟨r, 1, none⟩ = some (.string sb) := (KR.below hB).cell 1
    go_simp
    unfold ra1I
    exact ⟨j0, j1, j2, j3, j4, j5, j6, true, true, j9, j10, x0, x1, x2, x3, x4, x5, x6, _, _, x9, x10, rfl, rfl, hB, h0.out, h1.out, h2.out, h3.out, h4.out, h5.out, h6.out, h7.out, fun _ => rfl, h9.out, h10.out, k1.out, k2.out, k3.out, k4.out, k6.out, k7.out, fun _ => rfl, fun hj => absurd ((k9.out hj)) (by simp [hu]), k10.out, z0.out⟩
  · obtain rfl := Option.some.inj ho
    simp [Region.binds] at hu hd
    have d8 : j8 = true := by simp [hd]
    have e8 := h8.out d8
    subst e8
    subst d8
    clear hd hlt
    refine wpOp_of rfl rfl ?_
    obtain ⟨cap, w2, hrun, hby, hb2⟩ := conv_new (sb) (HS.2) w'
    have hB2 := hB.trans (hb2.mono hB.size)
    have hs0 := hB.size
    go_simp
    unfold ra1I
    exact ⟨j0, j1, j2, j3, j4, j5, j6, j7, true, true, j10, x0, x1, x2, x3, x4, x5, x6, x7, _, _, x10, rfl, rfl, hB2, h0.out, h1.out, h2.out, h3.out, fun hj => (h4.out hj).below hb2, h5.out, h6.out, h7.out, h8.out, fun _ => ⟨_, _, rfl, hby, hs0⟩, h10.out, k1.out, k2.out, k3.out, k4.out, k6.out, k7.out, k8.out, fun _ => rfl, k10.out, fun hi _ => sep_new2 (h4.out hi)⟩
  · obtain rfl := Option.some.inj ho
    simp [Region.binds] at hu hd
    have d0 : j0 = true := by simp [hd]
    have d1 : j1 = true := by simp [hd]
    have d2 : j2 = true := by simp [hd]
    have d3 : j3 = true := by simp [hd]
    have d4 : j4 = true := by simp [hd]
    have e0 := h0.out d0
    subst e0
    have e1 := h1.out d1
    subst e1
    have e2 := h2.out d2
    subst e2
    have e3 := h3.out d3
    subst e3
    subst d0
    subst d1
    subst d2
    subst d3
    subst d4
    clear hd hlt
    refine wpOp_of rfl rfl ?_
    go_simp
    unfold ra1I
    exact ⟨true, true, true, true, true, j5, j6, j7, j8, j9, true, _, _, _, _, x4, x5, x6, x7, x8, x9, _, rfl, rfl, hB, h0.out, h1.out, h2.out, h3.out, h4.out, h5.out, h6.out, h7.out, h8.out, h9.out, fun _ => rfl, k1.out, k2.out, k3.out, k4.out, k6.out, k7.out, k8.out, k9.out, fun _ => ⟨rfl, rfl, rfl, rfl, rfl⟩, z0.out⟩
  · obtain rfl := Option.some.inj ho
    simp [Region.binds] at hu hd
    exfalso
    have d0 : j0 = true := by simp [hd]
    have d1 : j1 = true := by simp [hd]
    have d2 : j2 = true := by simp [hd]
    have d3 : j3 = true := by simp [hd]
    have d4 : j4 = true := by simp [hd]
    have d5 : j5 = true := by simp [hd]
    have d6 : j6 = true := by simp [hd]
    have d7 : j7 = true := by simp [hd]
    have d8 : j8 = true := by simp [hd]
    have d9 : j9 = true := by simp [hd]
    have d10 : j10 = true := by simp [hd]
    subst d0
    subst d1
    subst d2
    subst d3
    subst d4
    subst d5
    subst d6
    subst d7
    subst d8
    subst d9
    subst d10
    exact hlt rfl
set_option maxHeartbeats 16000000 in
theorem ra1 (r : Nat) (k : Int) (sa sb : ByteArray) (uv : Value) (n kp : Int) (g : Bool) (w : World) (KR : Bk 61 w r #[.string sa, .string sb, uv, .int .i64 n, .int .i64 kp, .bool g]) (HS : sa.size ≤ maxLen ∧ sb.size ≤ maxLen) {t2 t3 t5 t6 t7 t8 t9 t10 t11 t12 t13 t14 t15 t16 t17 t18 t19 t20 t21 t22 t23 t24 t25 t26 t27 t28 t29 t30 t31 t32 t33 t34 t35 t36 t37 t38 t39 t40 t41 t42 t43 t44 t45 t46 t47 t48 t49 t50 t51 t52 t53 t54 t55 t56 t57 t58 t59 t60 t61 t62 t63 t64 t65 t66 t67 : Value} {ds : List Deferred} {Q : Exit → Act → World → Prop}
    (h : ∀ (y4 y9 : Value) (w1 : World), Below w.heap.size w w1 → Cv w.heap.size w1 y4 (sa) → Cv w.heap.size w1 y9 (sb) → Sep y4 y9 → wpList Tryd.prog ra1O Q (ra1O.toList.drop 11) { tmps := #[.pointer (some ⟨r, 0, none⟩), .int .i64 k, t2, t3, .slice none 0 0, y4, t6, t7, .pointer (some ⟨r, 0, none⟩), .pointer (some ⟨r, 0, none⟩), .pointer (some ⟨r, 0, none⟩), .string sa, y4, .pointer (some ⟨r, 0, none⟩), .pointer (some ⟨r, 0, none⟩), .pointer (some ⟨r, 1, none⟩), .string sb, y9, t18, t19, t20, t21, t22, t23, t24, t25, t26, t27, t28, t29, t30, t31, t32, t33, t34, t35, t36, t37, t38, t39, t40, t41, t42, t43, t44, t45, t46, t47, t48, t49, t50, t51, t52, t53, t54, t55, t56, t57, t58, t59, t60, t61, t62, t63, t64, t65, t66, t67], defers := ds } w1) :
    (Code.region 1 ra1O true).wp Tryd.prog Q { tmps := #[.pointer (some ⟨r, 0, none⟩), .int .i64 k, t2, t3, .slice none 0 0, t5, t6, t7, t8, t9, t10, t11, t12, t13, t14, t15, t16, t17, t18, t19, t20, t21, t22, t23, t24, t25, t26, t27, t28, t29, t30, t31, t32, t33, t34, t35, t36, t37, t38, t39, t40, t41, t42, t43, t44, t45, t46, t47, t48, t49, t50, t51, t52, t53, t54, t55, t56, t57, t58, t59, t60, t61, t62, t63, t64, t65, t66, t67], defers := ds } w := by
  have hsz : ra1O.size = 12 := by kernel_rfl
  refine wp_region_any (show Tryd.prog.follows .mixedOrders = true from by kernel_rfl) ?_
  rw [hsz]
  refine wpAny_inv2 (I := ra1I w r k sa sb uv n kp g t2 t3 t6 t7 t18 t19 t20 t21 t22 t23 t24 t25 t26 t27 t28 t29 t30 t31 t32 t33 t34 t35 t36 t37 t38 t39 t40 t41 t42 t43 t44 t45 t46 t47 t48 t49 t50 t51 t52 t53 t54 t55 t56 t57 t58 t59 t60 t61 t62 t63 t64 t65 t66 t67 ds) (g := 1) (ra1_none r k sa sb uv n kp g w) (ra1_steps r k sa sb uv n kp g w KR HS) (fun l a w' hI hl => ?_) 12 _ _ _ (by decide) (by decide) ?_
  · obtain ⟨j0, j1, j2, j3, j4, j5, j6, j7, j8, j9, j10, x0, x1, x2, x3, x4, x5, x6, x7, x8, x9, x10, rfl, rfl, hB, h0, h1, h2, h3, h4, h5, h6, h7, h8, h9, h10, k1, k2, k3, k4, k6, k7, k8, k9, k10, z0⟩ := hI
    obtain ⟨d0, d1, d2, d3, d4, d5, d6, d7, d8, d9, d10⟩ := left_all11_1 hl
    subst d0
    subst d1
    subst d2
    subst d3
    subst d4
    subst d5
    subst d6
    subst d7
    subst d8
    subst d9
    subst d10
    obtain rfl := h0 rfl
    obtain rfl := h1 rfl
    obtain rfl := h2 rfl
    obtain rfl := h3 rfl
    obtain rfl := h5 rfl
    obtain rfl := h6 rfl
    obtain rfl := h7 rfl
    obtain rfl := h8 rfl
    obtain rfl := h10 rfl
    have hw := h _ _ _ hB (h4 rfl) (h9 rfl) (z0 rfl rfl)
    have hBB : Region.seqB .any ra1O (ra1O.toList.drop 11).length 11 #[true, true, true, true, true, true, true, true, true, true, true, false] = true := by kernel_rfl
    have hlen : (ra1O.toList.drop 11).length = 1 := by kernel_rfl
    have := wpAny_of_seq (md := .any) (ra1O.toList.drop 11) 11 _ _ _ (fun j => by simp [List.getElem?_drop]) hBB hw
    rw [hlen] at this
    exact this
  · exact ⟨false, false, false, false, false, false, false, false, false, false, false, t8, t9, t10, t11, t12, t13, t14, t15, t16, t17, t5, rfl, rfl, ⟨rfl, rfl, rfl, Nat.le_refl _, fun _ _ => rfl⟩, (fun h => by cases h), (fun h => by cases h), (fun h => by cases h), (fun h => by cases h), (fun h => by cases h), (fun h => by cases h), (fun h => by cases h), (fun h => by cases h), (fun h => by cases h), (fun h => by cases h), (fun h => by cases h), (fun h => by cases h), (fun h => by cases h), (fun h => by cases h), (fun h => by cases h), (fun h => by cases h), (fun h => by cases h), (fun h => by cases h), (fun h => by cases h), (fun h => by cases h), (fun h => by cases h)⟩

end Go.Proofs.YtmoihgniglomiaaDoor
