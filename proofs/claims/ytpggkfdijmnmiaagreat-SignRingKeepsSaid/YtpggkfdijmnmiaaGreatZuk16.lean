/- The sum's drawn regions of one round, each apart from the function that it stands in. No condition but what each reads. The sum's loops, each apart from the function that it stands in: the 64 rounds, the adding, the text. No condition but what each reads. The sum's loop over the blocks, apart from the function that it stands in. Condition: at most 2^47 bytes. The reference's sum (function 21) of a -/
import Derived.Test.YtpggkfdijmnmiaaGreatZuk15
import Derived.Test.YtpggkfdijmnmiaaGreatZuk12
import Derived.Test.YtpggkfdijmnmiaaGreatZuk13
import Derived.Test.YtpggkfdijmnmiaaGreatZuk11
import Derived.Lib.SliceRun
set_option linter.unusedVariables false
set_option linter.unusedSimpArgs false
set_option maxRecDepth 100000
namespace Go.Proofs.YtpggkfdijmnmiaaGreat.Hs
open Go.RowKit Go.Sort
def findR : Code → Nat → Option (Array Oper)
  | .region id ops _, n => if id = n then some ops else none
  | .seq a b, n => (findR a n).or (findR b n)
  | .cond _ a b, n => (findR a n).or (findR b n)
  | .block _ a, n => findR a n
  | .loop a, n => findR a n
  | .scope a, n => findR a n
  | _, _ => none
noncomputable def opsOf (n : Nat) : Array Oper := (Tryz.f151.body.bind fun c => findR c n).getD #[]
def Sm (w w' : World) : Prop := w'.os = w.os ∧ w'.tape = w.tape ∧ w'.output = w.output ∧ w'.heap = w.heap
theorem Sm.refl (w : World) : Sm w w := ⟨rfl, rfl, rfl, rfl⟩
theorem Sm.drew (w : World) : Sm w w.drew := ⟨rfl, rfl, rfl, rfl⟩
theorem Sm.drewN (w : World) (n : Nat) : Sm w (w.drewN n) := ⟨rfl, rfl, rfl, rfl⟩
theorem Sm.trans {a b c : World} (h : Sm a b) (k : Sm b c) : Sm a c := ⟨k.1.trans h.1, k.2.1.trans h.2.1, k.2.2.1.trans h.2.2.1, k.2.2.2.trans h.2.2.2⟩
theorem Sm.cell {w w' : World} (h : Sm w w') {p : Addr} {v : Value} (hc : w.cell? p = some v) : w'.cell? p = some v := by
  rw [World.cell?_of_block (w := w) (by rw [h.2.2.2])]; exact hc
theorem Sm.below {B : Nat} {a w w' : World} (h : Sm w w') (hb : Below B a w) : Below B a w' :=
  ⟨h.1.trans hb.os, h.2.1.trans hb.tape, h.2.2.1.trans hb.output, by rw [h.2.2.2]; exact hb.size, fun k hk => by rw [h.2.2.2]; exact hb.block k hk⟩
theorem qd {f : FuncId} {args : Array Value} {w : World} {n : Nat} {v : Value} (h : Calls Tryz.prog f args (w.drewN n) fun e w' => e = .returned v ∧ w' = (w.drewN n).drew) : Calls Tryz.prog f args (w.drewN n) fun e w'' => e = .returned v ∧ ∃ m, w'' = w.drewN m :=
  Calls.quiet_of (h.mono fun _ _ h => ⟨h.1, 1, h.2⟩)
set_option maxHeartbeats 4000000 in
set_option maxRecDepth 100000 in
theorem r25 (gw k : Nat) (a15 a2 : UInt32) (hk : 16 ≤ k) (hk2 : k < 64) (w : World) (c15 : w.cell? ⟨gw, k - 15, none⟩ = some (.int .u32 (a15.toNat : Int))) (c2 : w.cell? ⟨gw, k - 2, none⟩ = some (.int .u32 (a2.toNat : Int)))
    {t0 t1 t2 t3 t4 t5 t6 t7 t8 t9 t10 t12 t13 t15 t16 t17 t18 t19 t20 t21 t22 t23 t24 t25 t26 t27 t28 t29 t30 t31 t32 t33 t34 t35 t36 t37 t38 t39 t40 t41 t42 t43 t44 t45 t46 t47 t48 t49 t50 t51 t52 t53 t54 t55 t56 t57 t58 t59 t60 t61 t62 t63 t64 t65 t66 t67 t68 t69 t70 t71 t72 t73 t74 t75 t76 t77 t78 t79 t80 t81 t82 t83 t84 t85 t86 t87 t88 t89 t90 t91 t92 t93 t94 t95 t96 t97 t98 t99 t100 t101 t102 t103 t104 t105 t106 t107 t108 t109 t110 t111 t112 t113 t114 t115 t116 t117 t118 t119 t120 t121 t122 t123 t124 t125 t126 t127 t128 t129 t130 t131 t132 t133 t134 t135 t136 t137 t138 t139 t140 t141 t142 t143 t144 t145 t146 t147 t148 t149 t150 t151 t152 t153 t154 t155 t156 t157 t158 t159 t160 t161 t162 t163 t164 t165 t166 t167 t168 t169 t170 t171 t172 t173 t174 t175 t176 t177 t178 t179 t180 t181 t182 t183 t184 t185 t186 t187 t188 t189 t190 t191 t192 t193 t194 t195 t196 t197 t198 t199 t200 t201 t202 t203 t204 t205 t206 t207 t208 t209 t210 t211 t212 t213 t214 t215 t216 t217 t218 t219 t220 t221 t222 t223 t224 t225 t226 t227 t228 t229 t230 t231 t232 t233 t234 t235 t236 t237 t238 t239 t240 t241 t242 t243 t244 t245 t246 t247 t248 t249 t250 t251 t252 t253 t254 t255 t256 t257 t258 t259 t260 t261 t262 t263 t264 t265 t266 t267 t268 t269 t270 t271 t272 t273 t274 t275 t276 t277 t278 t279 t280 t281 t282 t283 t284 t285 t286 t287 t288 t289 t290 : Value} {ds : List Deferred} {K : Act → World → Prop} {Q : Exit → Act → World → Prop}
    (h : ∀ (x118 x119 x120 x121 x122 x123 x124 x125 x126 x127 : Value) (w' : World), Sm w w' → K { tmps := #[t0, t1, t2, t3, t4, t5, t6, t7, t8, t9, t10, .slice (some ⟨gw, 0, none⟩) 64 64, t12, t13, .int .i64 (k : Int), .int .u32 (a15.toNat : Int), .int .u32 (a2.toNat : Int), t17, t18, t19, t20, t21, t22, t23, t24, t25, t26, t27, t28, t29, t30, t31, t32, t33, t34, t35, t36, t37, t38, t39, t40, t41, t42, t43, t44, t45, t46, t47, t48, t49, t50, t51, t52, t53, t54, t55, t56, t57, t58, t59, t60, t61, t62, t63, t64, t65, t66, t67, t68, t69, t70, t71, t72, t73, t74, t75, t76, t77, t78, t79, t80, t81, t82, t83, t84, t85, t86, t87, t88, t89, t90, t91, t92, t93, t94, t95, t96, t97, t98, t99, t100, t101, t102, t103, t104, t105, t106, t107, t108, t109, t110, t111, t112, t113, t114, t115, t116, t117, x118, x119, x120, x121, x122, x123, x124, x125, x126, x127, t128, t129, t130, t131, t132, t133, t134, t135, t136, t137, t138, t139, t140, t141, t142, t143, t144, t145, t146, t147, t148, t149, t150, t151, t152, t153, t154, t155, t156, t157, t158, t159, t160, t161, t162, t163, t164, t165, t166, t167, t168, t169, t170, t171, t172, t173, t174, t175, t176, t177, t178, t179, t180, t181, t182, t183, t184, t185, t186, t187, t188, t189, t190, t191, t192, t193, t194, t195, t196, t197, t198, t199, t200, t201, t202, t203, t204, t205, t206, t207, t208, t209, t210, t211, t212, t213, t214, t215, t216, t217, t218, t219, t220, t221, t222, t223, t224, t225, t226, t227, t228, t229, t230, t231, t232, t233, t234, t235, t236, t237, t238, t239, t240, t241, t242, t243, t244, t245, t246, t247, t248, t249, t250, t251, t252, t253, t254, t255, t256, t257, t258, t259, t260, t261, t262, t263, t264, t265, t266, t267, t268, t269, t270, t271, t272, t273, t274, t275, t276, t277, t278, t279, t280, t281, t282, t283, t284, t285, t286, t287, t288, t289, t290], defers := ds } w') :
    (Code.region 25 (opsOf 25) true).wp Tryz.prog (Exit.then K Q) { tmps := #[t0, t1, t2, t3, t4, t5, t6, t7, t8, t9, t10, .slice (some ⟨gw, 0, none⟩) 64 64, t12, t13, .int .i64 (k : Int), t15, t16, t17, t18, t19, t20, t21, t22, t23, t24, t25, t26, t27, t28, t29, t30, t31, t32, t33, t34, t35, t36, t37, t38, t39, t40, t41, t42, t43, t44, t45, t46, t47, t48, t49, t50, t51, t52, t53, t54, t55, t56, t57, t58, t59, t60, t61, t62, t63, t64, t65, t66, t67, t68, t69, t70, t71, t72, t73, t74, t75, t76, t77, t78, t79, t80, t81, t82, t83, t84, t85, t86, t87, t88, t89, t90, t91, t92, t93, t94, t95, t96, t97, t98, t99, t100, t101, t102, t103, t104, t105, t106, t107, t108, t109, t110, t111, t112, t113, t114, t115, t116, t117, t118, t119, t120, t121, t122, t123, t124, t125, t126, t127, t128, t129, t130, t131, t132, t133, t134, t135, t136, t137, t138, t139, t140, t141, t142, t143, t144, t145, t146, t147, t148, t149, t150, t151, t152, t153, t154, t155, t156, t157, t158, t159, t160, t161, t162, t163, t164, t165, t166, t167, t168, t169, t170, t171, t172, t173, t174, t175, t176, t177, t178, t179, t180, t181, t182, t183, t184, t185, t186, t187, t188, t189, t190, t191, t192, t193, t194, t195, t196, t197, t198, t199, t200, t201, t202, t203, t204, t205, t206, t207, t208, t209, t210, t211, t212, t213, t214, t215, t216, t217, t218, t219, t220, t221, t222, t223, t224, t225, t226, t227, t228, t229, t230, t231, t232, t233, t234, t235, t236, t237, t238, t239, t240, t241, t242, t243, t244, t245, t246, t247, t248, t249, t250, t251, t252, t253, t254, t255, t256, t257, t258, t259, t260, t261, t262, t263, t264, t265, t266, t267, t268, t269, t270, t271, t272, t273, t274, t275, t276, t277, t278, t279, t280, t281, t282, t283, t284, t285, t286, t287, t288, t289, t290], defers := ds } w := by
  simp only [opsOf, findR, Tryz.f151, Option.bind_some, Option.or, Option.getD, Nat.reduceEqDiff, if_true, if_false, reduceIte]
  have t15 : ((k : Int) - 15).toNat = k - 15 := by omega
  have t2 : ((k : Int) - 2).toNat = k - 2 := by omega
  have HH := Lib.hid h
  clear h
  refine wp_region_quiet_lit (by kernel_rfl) (by kernel_rfl) ?_
  iterate 12 go_big_quiet_step (fail)
  refine wpQuiet_nil ?_
  intro _ hw'
  obtain ⟨nq, hw''⟩ := hw'
  subst hw''
  exact HH.out _ _ _ _ _ _ _ _ _ _ _ (Sm.drewN w nq)
def Kr (v : Value) (w : World) : Prop := ∃ g c, v = .slice (some ⟨g, 0, none⟩) 64 c ∧ g < w.heap.size ∧ ∀ i, i < 64 → w.cell? ⟨g, i, none⟩ = some (.int .u32 ((kL.getD i 0).toNat : Int))
theorem Kr.below {v : Value} {w w' : World} (h : Kr v w) (hb : Below w.heap.size w w') : Kr v w' := by
  obtain ⟨g, c, rfl, hg, hc⟩ := h
  exact ⟨g, c, rfl, Nat.lt_of_lt_of_le hg hb.size, fun i hi => (hb.cell (p := ⟨g, i, none⟩) hg).trans (hc i hi)⟩
theorem Rm.put {B : Nat} {v : Value} {l : List UInt8} {w : World} (h : Rm B v l w) (i : Nat) (hi : i < l.length) (x : UInt8) : ∃ g cap, v = .slice (some ⟨g, 0, none⟩) l.length cap ∧ B ≤ g ∧ w.cell? ⟨g, i, none⟩ = some (.int .u8 (l[i].toNat : Int)) ∧ w.frozen? ⟨g, i, none⟩ = false ∧
    Rm B v (l.set i x) (w.setCell ⟨g, i, none⟩ (.int .u8 (x.toNat : Int))) := by
  have hu := h.un
  obtain ⟨g, cap, cur, fz, rfl, hg, hh, hoff, hlc, hcm, hcs, htk⟩ := h
  obtain ⟨g', cap', e, _, _, _, hc⟩ := hu
  simp only [Value.slice.injEq, Option.some.injEq, Addr.mk.injEq, and_true, true_and] at e
  obtain ⟨rfl, rfl⟩ := e
  refine ⟨g, cap, rfl, hg, hc i hi, ?_, ?_⟩
  · obtain ⟨lo, hi'⟩ := fz
    simp only [World.frozen?, hh, Bool.and_eq_false_iff, decide_eq_false_iff_not]
    rcases hoff with h | h
    · right; simp only at h; omega
    · left; simp only at h; omega
  · refine ⟨g, cap, cur.setIfInBounds i (.int .u8 (x.toNat : Int)), fz, by rw [List.length_set], hg, blk_put hh i _, by simpa using hoff, by rw [List.length_set]; exact hlc, hcm, by simpa using hcs, ?_⟩
    rw [List.length_set, Array.toList_setIfInBounds, List.take_set, htk]
    simp [bl, List.map_set]
end Go.Proofs.YtpggkfdijmnmiaaGreat.Hs
namespace Go.Proofs.YtpggkfdijmnmiaaGreat
open Go.RowKit Limbs
def txt (s : List UInt8) : Value := .string ⟨s.toArray⟩
def Xg (B : Nat) (w : World) (x : Nat) (ss : List (List UInt8)) : Prop :=
  ∃ a c, Bk 46 w x #[.slice (some ⟨a, 0, none⟩) ss.length c] ∧ w.ownsRow B 9 1 (.slice (some ⟨a, 0, none⟩) ss.length c) ss.length (ss.map txt)
theorem Xg.below {B : Nat} {w w' : World} {x : Nat} {ss : List (List UInt8)} (h : Xg B w x ss) (hb : Below w.heap.size w w') : Xg B w' x ss := by
  obtain ⟨a, c, h1, h2⟩ := h
  exact ⟨a, c, h1.below hb, own_below h2 hb⟩
theorem row_at {B a n c i : Nat} {w : World} {T : TypeId} {l : List Value} {v : Value} (h : w.ownsRow B T 1 (.slice (some ⟨a, 0, none⟩) n c) n l) (hi : l[i]? = some v) : w.cell? ⟨a, i, none⟩ = some v := by
  have := h.cells (g := a) rfl i v hi
  by_cases h0 : i = 0
  · subst h0; simpa [Addr.add] using this
  · simpa [Addr.add, h0] using this
def findS : List (List UInt8) → List UInt8 → Nat → Int
  | [], _, _ => -1
  | s :: ss, n, i => if kidOf s = n then (i : Int) else findS ss n (i + 1)
theorem row_slice {B n : Nat} {w : World} {T : TypeId} {v : Value} {l : List Value} (h : w.ownsRow B T 1 v n l) : ∃ p c, v = .slice p n c ∧ ∀ w', Below w.heap.size w w' → ∀ i x, l[i]? = some x → ∃ a, p = some ⟨a, 0, none⟩ ∧ w'.cell? ⟨a, i, none⟩ = some x := by
  have h0 := h
  rcases h.2 with ⟨h1, h2⟩ | ⟨g', cap, cur', hx, _⟩
  · subst h1; subst h2
    exact ⟨none, 0, rfl, fun w' _ i x hi => by have := h.1; cases l with | nil => simp at hi | cons => simp at this⟩
  · subst hx
    exact ⟨some ⟨g', 0, none⟩, cap, rfl, fun w' hb i x hi => ⟨g', rfl, row_at (own_below h0 hb) hi⟩⟩
theorem row_news {B p n c : Nat} {w : World} {T : TypeId} {l : List Value} (h : w.ownsRow B T 1 (.slice (some ⟨p, 0, none⟩) n c) n l) : ∀ j u, l[j]? = some u → w.cell? ((⟨p, 0, none⟩ : Addr).add j) = some u := fun j u hu => by
  have := row_at h hu
  by_cases h0 : j = 0
  · subst h0; simpa [Addr.add] using this
  · simpa [Addr.add, h0] using this
theorem row_empty (w : World) (T : TypeId) : (w.alloc (.cells #[] T)).ownsRow w.heap.size T 1 (.slice (some ⟨w.heap.size, 0, none⟩) 0 0) 0 [] := ⟨rfl, .inr ⟨w.heap.size, 0, #[], rfl, Nat.le_refl _, heap_alloc_new w _, Nat.le_refl _, Nat.zero_le _, rfl, rfl⟩⟩
theorem row_len {B n : Nat} {w : World} {T : TypeId} {v : Value} {l : List Value} (h : w.ownsRow B T 1 v n l) : l.length = n := by
  have := h.1
  simpa using this
theorem cappk {ops : Array Oper} {rest : List Oper} {o : Oper} {a : Act} {Q : Exit → Act → World → Prop} {w : World} {B p n c : Nat} {l : List Value} (s x : Operand) (hgd : o.guard = none)
    (ho : o.op = .call { callee := .builtin .append, args := #[s, x], argTypes := #[105, 105] }) (hs : a.eval s = .slice (some ⟨w.heap.size, 0, none⟩) 0 0) (hx : a.eval x = .slice (some ⟨p, 0, none⟩) n c)
    (hI : w.ownsRow B 103 1 (.slice (some ⟨p, 0, none⟩) n c) n l) (hone : ∀ u ∈ l, u.oneCell' = true) (hlen : n ≤ 1000000)
    (h : ∀ v' w', w'.ownsRow w.heap.size 103 1 v' n l → (w.alloc (.cells #[] 103)).grownBy w' (some w.heap.size) → wpList Tryz.prog ops Q rest (a.put o.dst v') w') : wpList Tryz.prog ops Q (o :: rest) a (w.alloc (.cells #[] 103)) := by
  obtain ⟨i0, hi, hz0, hz1, hz2⟩ := info_parts infoKey
  refine wpList_append_own _ hgd s x 105 ho w.heap.size 103 i0 (.pointer none) 1 8 Tryz.underlying105 hi hz0 hz1 hz2 rfl (by decide) (.slice (some ⟨w.heap.size, 0, none⟩) 0 0) 0 [] hs (row_empty w 103) ⟨p, 0, none⟩ n c l hx (by rw [row_len hI, Nat.mul_one]) (row_news (hI.alloc _)) hone (by unfold maxLen; omega) (by omega) (by simp) ?_
  intro v' w' h1 h2 _
  rw [Nat.zero_add, List.nil_append] at h1
  exact h v' w' h1 h2
theorem grown_fresh {w w' : World} {T : TypeId} (hG : (w.alloc (.cells #[] T)).grownBy w' (some w.heap.size)) : Below w.heap.size w w' :=
  ((Below.refl w.heap.size w).alloc (Nat.le_refl _) (.cells #[] T)).grown hG (by simp) (fun q hq => by injection hq with hq; omega)
theorem own_slice0 {B n : Nat} {w : World} {v : Value} {l : List Value} {T : TypeId} (h : w.ownsRow B T 1 v n l) (hn : 0 < n) : ∃ a c, v = .slice (some ⟨a, 0, none⟩) n c := by
  obtain ⟨m, rfl⟩ : ∃ m, n = m + 1 := ⟨n - 1, by omega⟩
  exact own_slice h
set_option maxHeartbeats 8000000 in
theorem kclone_any {B : Nat} {w : World} {a n c : Nat} {l : List Value} (h : w.ownsRow B 103 1 (.slice (some ⟨a, 0, none⟩) n c) n l) (hone : ∀ u ∈ l, u.oneCell' = true) (hl : n ≤ 1000000) : Calls Tryz.prog 83 #[.slice (some ⟨a, 0, none⟩) n c] w fun e w' => ∃ v, e = .returned v ∧ w'.ownsRow w.heap.size 103 1 v n l ∧ Below w.heap.size w w' := by
  have H := Lib.hid h
  have HO := Lib.hid hone
  have hq : ∀ w, (binOp .eql 105 (.slice (some ⟨a, 0, none⟩) n c) (.slice none 0 0)).run Tryz.prog w = .ok (.bool false) w := fun w => Lib.run_eql_slice_nil w _ _ _ _ _ _ _ Tryz.underlying105
  clear h hone
  go_enter Tryz.func83, Tryz.ntmps83
  go_wp2_with (at_builtin; refine cappk _ _ rfl rfl rfl rfl H.out HO.out hl ?_; intro v' w3 hv hG; have HV := Lib.hid hv; have HG := Lib.hid hG; clear hv hG)
  go_returns
  exact ⟨_, rfl, HV.out, grown_fresh HG.out⟩
set_option maxHeartbeats 8000000 in
theorem clone_any {B : Nat} {w : World} {r : Nat} {ks : List (Nat × List UInt8)} (h : Rg B w r ks) (hl : ks.length ≤ 1000000) (hn : ks ≠ []) : Calls Tryz.prog 28 #[kpt r] w fun e w' => ∃ y, e = .returned (kpt y) ∧ Rg w.heap.size w' y ks ∧ w.heap.size ≤ y ∧ Below w.heap.size w w' := by
  obtain ⟨a, c, h1, h2, h3⟩ := h
  have c0 : w.cell? ⟨r, 0, none⟩ = some (.slice (some ⟨a, 0, none⟩) ks.length c) := h1.cell 0
  have HK := Lib.hid (kclone_any h2 (by intro u hu; rw [List.mem_map] at hu; obtain ⟨k, _, rfl⟩ := hu; rfl) hl)
  have H3 := Lib.hid h3
  have HN : Hid (0 < ks.length) := Lib.hid (List.length_pos_iff.2 hn)
  clear h1 h2 h3 hn
  unfold kpt
  go_enter Tryz.func28, Tryz.ntmps28
  go_wp2_with fail
  refine HK.out.mono ?_
  rintro e w1 ⟨v, rfl, ho, hb⟩
  obtain ⟨a2, c2, rfl⟩ := own_slice0 ho HN.out
  have HV := Lib.hid ho
  clear ho
  go_wp2_with fail
  go_returns
  have hbn : Below w1.heap.size w1 (w1.alloc (.cells #[.slice (some ⟨a2, 0, none⟩) ks.length c2] 107)) := by go_grown
  exact ⟨_, rfl, ⟨a2, c2, Bk.new rfl, own_below HV.out hbn, fun k hk => (H3.out k hk).below (bthen hb hbn)⟩, hb.size, bthen hb hbn⟩
theorem Xg.push {B : Nat} {w w2 : World} {x a c : Nat} {ss : List (List UInt8)} {s : List UInt8} {v' : Value} (h1 : Bk 46 w x #[.slice (some ⟨a, 0, none⟩) ss.length c]) (h2 : w.ownsRow B 9 1 (.slice (some ⟨a, 0, none⟩) ss.length c) ss.length (ss.map txt))
    (hv : w2.ownsRow B 9 1 v' (ss.length + 1) ((ss.map txt) ++ [txt s])) (hG : (w.alloc (.cells #[txt s] 9)).grownBy w2 (some a)) : Xg B (w2.setCell ⟨x, 0, none⟩ v') x (ss ++ [s]) := by
  have ha : ∃ cur, Bk 9 w a cur := by
    rcases h2.2 with ⟨hx, _⟩ | ⟨g', cap, cur, hx, _, hh, _⟩
    · cases hx
    · cases hx
      exact ⟨cur, hh⟩
  obtain ⟨cur, ha⟩ := ha
  have hlt : x < (w.alloc (.cells #[txt s] 9)).heap.size := by
    have := (Array.getElem?_eq_some_iff.1 h1).1
    simp; omega
  have hR : Bk 46 w2 x #[.slice (some ⟨a, 0, none⟩) ss.length c] := by
    have h' : Bk 46 (w.alloc (.cells #[txt s] 9)) x #[.slice (some ⟨a, 0, none⟩) ss.length c] := Bk.alloc h1
    exact (hG.block x hlt (fun e => bk_ne h1 ha (by decide) (by injection e))).trans h'
  obtain ⟨a', c', rfl⟩ := own_slice hv
  have ha' : ∃ cur', Bk 9 w2 a' cur' := by
    rcases hv.2 with ⟨hx, _⟩ | ⟨g', cap, cur', hx, _, hh, _⟩
    · cases hx
    · cases hx
      exact ⟨cur', hh⟩
  obtain ⟨cur', ha'⟩ := ha'
  have hne : x ≠ a' := bk_ne hR ha' (by decide)
  refine ⟨a', c', ?_, ?_⟩
  · rw [List.length_append]
    have := Bk.same (i := 0) (v := .slice (some ⟨a', 0, none⟩) (ss.length + 1) c') hR
    simpa using this
  · rw [List.length_append, List.map_append]
    refine ⟨hv.1, ?_⟩
    rcases hv.2 with ⟨hx, _⟩ | ⟨g', cap, cur2, hx, hb, hh, rest⟩
    · cases hx
    · cases hx
      exact .inr ⟨_, _, cur2, rfl, hb, (heap_setCell_other w2 _ a' _ (by simpa using Ne.symm hne)).trans hh, rest⟩
def Left (r a : Nat) (w w' : World) : Prop := w.heap.size ≤ w'.heap.size ∧ ∀ q, q < w.heap.size → q ≠ r → q ≠ a → w'.heap[q]? = w.heap[q]?
set_option maxHeartbeats 8000000 in
theorem turn_newF {B : Nat} {w : World} {r a : Nat} {ks : List (Nat × List UInt8)} (h : ∃ c, Bk 107 w r #[.slice (some ⟨a, 0, none⟩) ks.length c] ∧ w.ownsRow B 103 1 (.slice (some ⟨a, 0, none⟩) ks.length c) ks.length (ks.map fun k => kpt k.1) ∧ ∀ k ∈ ks, Bk 121 w k.1 (keyC k.2)) (hB : B ≤ w.heap.size) (hr : B ≤ r) (hl : ks.length < 8) (s : List UInt8) (hs : s.length ≤ 140737488351232) (hf : findK ks (kidOf s) = none) : Calls Tryz.prog 22 #[kpt r, .string ⟨s.toArray⟩] w fun e w' => e = .returned (.int .i64 0) ∧ ∃ g, Rg B w' r (ks ++ [(g, s)]) ∧ Below B w w' ∧ Left r a w w' := by
  have HK := Lib.hid (newKey_any s hs w)
  have H := Lib.hid h
  have HF := Lib.hid hf
  have HBR := Lib.hid (And.intro hB hr)
  clear h hf hs hB hr
  unfold kpt
  go_enter Tryz.func22, Tryz.ntmps22
  go_wp2_with fail
  refine HK.out.mono ?_
  rintro e w1 ⟨g, rfl, hg, hk, hb⟩
  obtain ⟨c, g1, g2, g3⟩ := H.out
  have hfi := find_any (r := r) (ks := ks) ⟨a, c, g1.below hb, own_below g2 hb, fun k hk => (g3 k hk).below hb⟩ (by omega) (kidOf s)
  rw [HF.out] at hfi
  unfold kpt fV at hfi
  have c1 := hk.cell 1
  unfold keyC at c1
  simp only [List.getElem?_toArray, List.getElem?_cons_succ, List.getElem?_cons_zero] at c1
  have HFI := Lib.hid hfi
  have HKK := Lib.hid hk
  have HBB := Lib.hid hb
  have h1 := g1.below hb
  have HH := Lib.hid (And.intro (g1.below hb) (And.intro (own_below g2 hb) (fun k hk => (g3 k hk).below hb : ∀ k ∈ ks, Bk 121 w1 k.1 (keyC k.2))))
  have c0 : w1.cell? ⟨r, 0, none⟩ = some (.slice (some ⟨a, 0, none⟩) ks.length c) := h1.cell 0
  have h8 : ((ks.length : Int) == 8) = false := by simp; omega
  clear hfi hk HK H h1 g1 g2 g3
  go_wp2_with fail
  refine HFI.out.mono ?_
  rintro e w2 ⟨rfl, rfl⟩
  go_wp2_with (at_builtin; refine appk g _ _ rfl rfl rfl rfl HH.out.2.1 (Nat.le_trans HBR.out.1 hb.size) (by omega) ?_; intro v' w3 hv hG; obtain ⟨a2, c2, hv2⟩ := own_slice hv; subst hv2; have hr3 := ring_keep HH.out.1 HH.out.2.1 hG; have d0 := hr3.cell 0; have f0 := hr3.fro 0; have HV := Lib.hid hv; have HG := Lib.hid hG; clear hv hG hr3 c0 c1)
  go_returns
  have hb3 : Below B w w3 := ((hb.mono HBR.out.1).alloc (Nat.le_trans HBR.out.1 hb.size) _).grown HG.out (by have := hb.size; have := HBR.out.1; simp; omega) (fun q hq => (World.ownsRow.lt HH.out.2.1 q hq).1)
  have hbl := hb3.setCell (p := ⟨r, 0, none⟩) HBR.out.2 (.slice (some ⟨a2, 0, none⟩) (ks.length + 1) c2)
  have hba : Below w.heap.size w (w1.alloc (.cells #[.pointer (some ⟨g, 0, none⟩)] 103)) := hb.alloc hb.size _
  refine ⟨rfl, g, Rg.push HH.out.1 HH.out.2.1 HH.out.2.2 HKK.out HV.out HG.out HBR.out.2, hbl, hbl.size, fun q hq h1 h2 => ?_⟩
  rw [heap_setCell_other w3 _ q _ (by simpa using h1), HG.out.block q (by have := hba.size; exact Nat.lt_of_lt_of_le hq this) (fun e => h2 (by injection e))]
  exact hba.block q hq
set_option maxHeartbeats 8000000 in
theorem turn_full {B : Nat} {w : World} {r : Nat} {ks : List (Nat × List UInt8)} (h : Rg B w r ks) (hl : ks.length = 8) (s : List UInt8) (hs : s.length ≤ 140737488351232) (hf : findK ks (kidOf s) = none) : Calls Tryz.prog 22 #[kpt r, .string ⟨s.toArray⟩] w fun e w' => e = .returned (.int .i64 82) ∧ Below w.heap.size w w' := by
  have HK := Lib.hid (newKey_any s hs w)
  have H := Lib.hid h
  have HF := Lib.hid hf
  clear h hf hs
  unfold kpt
  go_enter Tryz.func22, Tryz.ntmps22
  go_wp2_with fail
  refine HK.out.mono ?_
  rintro e w1 ⟨g, rfl, hg, hk, hb⟩
  have H1 := H.out.below hb
  have hfi := find_any H1 (by omega) (kidOf s)
  rw [HF.out] at hfi
  unfold kpt fV at hfi
  have c1 := hk.cell 1
  unfold keyC at c1
  simp only [List.getElem?_toArray, List.getElem?_cons_succ, List.getElem?_cons_zero] at c1
  have HFI := Lib.hid hfi
  obtain ⟨a, c, h1, h2, h3⟩ := H1
  rw [hl] at h1
  have c0 : w1.cell? ⟨r, 0, none⟩ = some (.slice (some ⟨a, 0, none⟩) 8 c) := h1.cell 0
  clear hfi hk HK H h1 h2 h3
  go_wp2_with fail
  refine HFI.out.mono ?_
  rintro e w2 ⟨rfl, rfl⟩
  go_wp2_with fail
  go_returns
  exact ⟨rfl, hb⟩
def RgA (a B : Nat) (w : World) (r : Nat) (ks : List (Nat × List UInt8)) : Prop :=
  ∃ c, Bk 107 w r #[.slice (some ⟨a, 0, none⟩) ks.length c] ∧ w.ownsRow B 103 1 (.slice (some ⟨a, 0, none⟩) ks.length c) ks.length (ks.map fun k => kpt k.1) ∧ ∀ k ∈ ks, Bk 121 w k.1 (keyC k.2)
def XgA (a B : Nat) (w : World) (x : Nat) (ss : List (List UInt8)) : Prop :=
  ∃ c, Bk 46 w x #[.slice (some ⟨a, 0, none⟩) ss.length c] ∧ w.ownsRow B 9 1 (.slice (some ⟨a, 0, none⟩) ss.length c) ss.length (ss.map txt)
theorem Rg.named {B : Nat} {w : World} {r : Nat} {ks : List (Nat × List UInt8)} (h : Rg B w r ks) : ∃ a, RgA a B w r ks := h
theorem Xg.named {B : Nat} {w : World} {x : Nat} {ss : List (List UInt8)} (h : Xg B w x ss) : ∃ a, XgA a B w x ss := h
theorem RgA.rg {a B : Nat} {w : World} {r : Nat} {ks : List (Nat × List UInt8)} (h : RgA a B w r ks) : Rg B w r ks := ⟨a, h⟩
theorem row_block {B n c a : Nat} {w : World} {T : TypeId} {z : Nat} {l : List Value} (h : w.ownsRow B T z (.slice (some ⟨a, 0, none⟩) n c) n l) : B ≤ a ∧ ∃ cur, Bk T w a cur := by
  rcases h.2 with ⟨hx, _⟩ | ⟨g', cap, cur, hx, hg, hh, _⟩
  · cases hx
  · cases hx
    exact ⟨hg, cur, hh⟩
theorem row_kept {B n c a : Nat} {w w' : World} {T : TypeId} {z : Nat} {l : List Value} (h : w.ownsRow B T z (.slice (some ⟨a, 0, none⟩) n c) n l) (hk : w'.heap[a]? = w.heap[a]?) : w'.ownsRow B T z (.slice (some ⟨a, 0, none⟩) n c) n l := by
  refine ⟨h.1, ?_⟩
  rcases h.2 with hn | ⟨g, cap, cur, hv, hg, hh, rest⟩
  · exact .inl hn
  · obtain rfl : a = g := by cases hv; rfl
    exact .inr ⟨a, cap, cur, hv, hg, hk.trans hh, rest⟩
theorem Bk.left {t : TypeId} {w w' : World} {q r a : Nat} {cs : Array Value} (h : Bk t w q cs) (hL : Left r a w w') (h1 : q ≠ r) (h2 : q ≠ a) : Bk t w' q cs :=
  (hL.2 q (Array.getElem?_eq_some_iff.1 h).1 h1 h2).trans h
theorem RgA.leaves {t : TypeId} {a B : Nat} {w w' : World} {q r : Nat} {ks : List (Nat × List UInt8)} {cs : Array Value} (hr : RgA a B w r ks) (hL : Left r a w w') (h : Bk t w q cs) (h1 : t ≠ 107) (h2 : t ≠ 103) : Bk t w' q cs := by
  obtain ⟨c, k1, k2, _⟩ := hr
  obtain ⟨_, cur, k3⟩ := row_block k2
  exact h.left hL (bk_ne h k1 h1) (bk_ne h k3 h2)
theorem XgA.leaves {t : TypeId} {a B : Nat} {w w' : World} {q x : Nat} {ss : List (List UInt8)} {cs : Array Value} (hr : XgA a B w x ss) (hL : Left x a w w') (h : Bk t w q cs) (h1 : t ≠ 46) (h2 : t ≠ 9) : Bk t w' q cs := by
  obtain ⟨c, k1, k2⟩ := hr
  obtain ⟨_, cur, k3⟩ := row_block k2
  exact h.left hL (bk_ne h k1 h1) (bk_ne h k3 h2)
theorem Xg.by_rg {a B B' : Nat} {w w' : World} {r x : Nat} {ks : List (Nat × List UInt8)} {ss : List (List UInt8)} (h : Xg B' w x ss) (hr : RgA a B w r ks) (hL : Left r a w w') : Xg B' w' x ss := by
  obtain ⟨b, d, h1, h2⟩ := h
  obtain ⟨_, cur, h3⟩ := row_block h2
  exact ⟨b, d, hr.leaves hL h1 (by decide) (by decide), row_kept h2 ((hr.leaves hL h3 (by decide) (by decide)).trans h3.symm)⟩
theorem Rg.by_xg {a B B' : Nat} {w w' : World} {r x : Nat} {ks : List (Nat × List UInt8)} {ss : List (List UInt8)} (h : Rg B' w r ks) (hr : XgA a B w x ss) (hL : Left x a w w') : Rg B' w' r ks := by
  obtain ⟨b, d, h1, h2, h4⟩ := h
  obtain ⟨_, cur, h3⟩ := row_block h2
  exact ⟨b, d, hr.leaves hL h1 (by decide) (by decide), row_kept h2 ((hr.leaves hL h3 (by decide) (by decide)).trans h3.symm), fun k hk => hr.leaves hL (h4 k hk) (by decide) (by decide)⟩
theorem Rg.by_rg {a B N : Nat} {w w' : World} {r q : Nat} {ks ls : List (Nat × List UInt8)} (h : Rg N w q ls) (hq : N ≤ q) (hr : RgA a B w r ks) (h1 : r < N) (h2 : a < N) (hL : Left r a w w') : Rg N w' q ls := by
  obtain ⟨b, d, k1, k2, k4⟩ := h
  obtain ⟨hb, cur, k3⟩ := row_block k2
  exact ⟨b, d, k1.left hL (by omega) (by omega), row_kept k2 ((k3.left hL (by omega) (by omega)).trans k3.symm), fun k hk => hr.leaves hL (k4 k hk) (by decide) (by decide)⟩
theorem Xg.by_xg {a B N : Nat} {w w' : World} {x q : Nat} {ss tt : List (List UInt8)} (h : Xg N w q tt) (hq : N ≤ q) (hr : XgA a B w x ss) (h1 : x < N) (h2 : a < N) (hL : Left x a w w') : Xg N w' q tt := by
  obtain ⟨b, d, k1, k2⟩ := h
  obtain ⟨hb, cur, k3⟩ := row_block k2
  exact ⟨b, d, k1.left hL (by omega) (by omega), row_kept k2 ((k3.left hL (by omega) (by omega)).trans k3.symm)⟩
theorem Rg.mono {B B' : Nat} {w : World} {r : Nat} {ks : List (Nat × List UInt8)} (h : Rg B w r ks) (hB : B' ≤ B) : Rg B' w r ks := by
  obtain ⟨a, c, h1, h2, h3⟩ := h
  refine ⟨a, c, h1, ⟨h2.1, ?_⟩, h3⟩
  rcases h2.2 with hn | ⟨g, cap, cur, hv, hg, rest⟩
  · exact .inl hn
  · exact .inr ⟨g, cap, cur, hv, Nat.le_trans hB hg, rest⟩
theorem Xg.mono {B B' : Nat} {w : World} {x : Nat} {ss : List (List UInt8)} (h : Xg B w x ss) (hB : B' ≤ B) : Xg B' w x ss := by
  obtain ⟨a, c, h1, h2⟩ := h
  refine ⟨a, c, h1, ⟨h2.1, ?_⟩⟩
  rcases h2.2 with hn | ⟨g, cap, cur, hv, hg, rest⟩
  · exact .inl hn
  · exact .inr ⟨g, cap, cur, hv, Nat.le_trans hB hg, rest⟩
theorem find_same (n : List UInt8) : ∀ (ks : List (Nat × List UInt8)) (i : Nat), (findK ks n = none ∧ findS (ks.map Prod.snd) n i = -1) ∨ ∃ j, ∃ h : j < ks.length, findK ks n = some (ks[j]).1 ∧ findS (ks.map Prod.snd) n i = ((i + j : Nat) : Int)
  | [], i => .inl ⟨rfl, rfl⟩
  | k :: ks, i => by
    rw [findK, List.map_cons, findS]
    by_cases hq : kidOf k.2 = n
    · rw [if_pos hq, if_pos hq]
      exact .inr ⟨0, by simp, rfl, by simp⟩
    · rw [if_neg hq, if_neg hq]
      rcases find_same n ks (i + 1) with h | ⟨j, hj, h1, h2⟩
      · exact .inl h
      · exact .inr ⟨j + 1, by simpa using hj, by simpa using h1, by rw [h2]; congr 1; omega⟩
def turnS (ss : List (List UInt8)) (s : List UInt8) : List (List UInt8) := if 0 ≤ findS ss (kidOf s) 0 then ss else if ss.length = 8 then ss else ss ++ [s]
def turnC (ss : List (List UInt8)) (s : List UInt8) : Int := if 0 ≤ findS ss (kidOf s) 0 then 80 else if ss.length = 8 then 82 else 0
theorem turnS_len {ss : List (List UInt8)} {s : List UInt8} (h : ss.length ≤ 8) : (turnS ss s).length ≤ 8 := by
  unfold turnS
  split
  · exact h
  · split
    · exact h
    · rw [List.length_append]
      simp
      omega
theorem Left.of_below {r a : Nat} {w w' : World} (h : Below w.heap.size w w') : Left r a w w' := ⟨h.size, fun q hq _ _ => h.block q hq⟩
end Go.Proofs.YtpggkfdijmnmiaaGreat
namespace Go.Proofs.YtpggkfdijmnmiaaGreat
open Go.RowKit Go.Sort Limbs
section
variable {t : TypeId} {w : World} {g : Nat} {a0 a1 a2 a3 a4 a5 a6 a7 a8 a9 p0 p1 p2 p3 p4 p5 p6 p7 p8 e0 e1 e2 e3 e4 e5 e6 e7 e8 : Value}
theorem Bk.fros19 {cs : Array Value} (h : Bk t w g cs) : (w.frozen? ⟨g, 10, none⟩ = false ∧ w.frozen? ⟨g, 11, none⟩ = false ∧ w.frozen? ⟨g, 12, none⟩ = false ∧ w.frozen? ⟨g, 13, none⟩ = false) ∧ (w.frozen? ⟨g, 14, none⟩ = false ∧ w.frozen? ⟨g, 15, none⟩ = false ∧ w.frozen? ⟨g, 16, none⟩ = false ∧ w.frozen? ⟨g, 17, none⟩ = false) ∧ w.frozen? ⟨g, 18, none⟩ = false :=
  ⟨⟨h.fro 10, h.fro 11, h.fro 12, h.fro 13⟩, ⟨h.fro 14, h.fro 15, h.fro 16, h.fro 17⟩, h.fro 18⟩
theorem Bk.cells19 (h : Bk t w g #[a0, a1, a2, a3, a4, a5, a6, a7, a8, a9, p0, p1, p2, p3, p4, p5, p6, p7, p8]) : (w.cell? ⟨g, 10, none⟩ = some p0 ∧ w.cell? ⟨g, 11, none⟩ = some p1 ∧ w.cell? ⟨g, 12, none⟩ = some p2 ∧ w.cell? ⟨g, 13, none⟩ = some p3) ∧ (w.cell? ⟨g, 14, none⟩ = some p4 ∧ w.cell? ⟨g, 15, none⟩ = some p5 ∧ w.cell? ⟨g, 16, none⟩ = some p6 ∧ w.cell? ⟨g, 17, none⟩ = some p7) ∧ w.cell? ⟨g, 18, none⟩ = some p8 :=
  ⟨⟨h.cell 10, h.cell 11, h.cell 12, h.cell 13⟩, ⟨h.cell 14, h.cell 15, h.cell 16, h.cell 17⟩, h.cell 18⟩
theorem Bk.put19 (h : Bk t w g #[a0, a1, a2, a3, a4, a5, a6, a7, a8, a9, p0, p1, p2, p3, p4, p5, p6, p7, p8]) : Bk t (((((((((w.setCell ⟨g, 10, none⟩ e0).setCell ⟨g, 11, none⟩ e1).setCell ⟨g, 12, none⟩ e2).setCell ⟨g, 13, none⟩ e3).setCell ⟨g, 14, none⟩ e4).setCell ⟨g, 15, none⟩ e5).setCell ⟨g, 16, none⟩ e6).setCell ⟨g, 17, none⟩ e7).setCell ⟨g, 18, none⟩ e8) g #[a0, a1, a2, a3, a4, a5, a6, a7, a8, a9, e0, e1, e2, e3, e4, e5, e6, e7, e8] := by
  have p := (Bk.same (i := 18) (v := e8) (Bk.same (i := 17) (v := e7) (Bk.same (i := 16) (v := e6) (Bk.same (i := 15) (v := e5) (Bk.same (i := 14) (v := e4) (Bk.same (i := 13) (v := e3) (Bk.same (i := 12) (v := e2) (Bk.same (i := 11) (v := e1) (Bk.same (i := 10) (v := e0) h)))))))))
  simpa using p
def Chg (r a : Nat) (w w' : World) : Prop := Below r w w' ∧ Left r a w w'
theorem left_trans {r a : Nat} {w w1 w2 : World} (h : Chg r a w w1) (k : Chg r a w1 w2) : Chg r a w w2 :=
  ⟨h.1.trans k.1, Nat.le_trans h.2.1 k.2.1, fun q hq h1 h2 => (k.2.2 q (Nat.lt_of_lt_of_le hq h.2.1) h1 h2).trans (h.2.2 q hq h1 h2)⟩
theorem left_cell {r a o : Nat} {w : World} {v : Value} : Chg r a w (w.setCell ⟨r, o, none⟩ v) :=
  ⟨(Below.refl r w).setCell (p := ⟨r, o, none⟩) (Nat.le_refl _) v, Nat.le_of_eq (World.size_setCell w _ v).symm, fun q hq h1 _ => heap_setCell_other w _ q v h1⟩
theorem left_drew {r a : Nat} {w : World} : Chg r a w w.drew := ⟨(Below.refl r w).drew, Nat.le_refl _, fun _ _ _ _ => rfl⟩
theorem chg_below {r a : Nat} {w w' : World} (hr : r ≤ w.heap.size) (h : Below w.heap.size w w') : Chg r a w w' := ⟨h.mono hr, Left.of_below h⟩
theorem left_put19 : Chg g g w (((((((((w.setCell ⟨g, 10, none⟩ e0).setCell ⟨g, 11, none⟩ e1).setCell ⟨g, 12, none⟩ e2).setCell ⟨g, 13, none⟩ e3).setCell ⟨g, 14, none⟩ e4).setCell ⟨g, 15, none⟩ e5).setCell ⟨g, 16, none⟩ e6).setCell ⟨g, 17, none⟩ e7).setCell ⟨g, 18, none⟩ e8) :=
  left_trans (left_trans (left_trans (left_trans (left_trans (left_trans (left_trans (left_trans (left_cell) left_cell) left_cell) left_cell) left_cell) left_cell) left_cell) left_cell) left_cell
end
set_option maxHeartbeats 16000000 in
theorem once_fn {pl g : Nat} (hne : pl ≠ g) (k : Nat) (hk : k < W256) {c0 c1 c2 d m z p0 p1 p2 p3 p4 p5 p6 p7 p8 : Value} (w : World) (hp : Bk 103 w pl #[.pointer (some ⟨g, 0, none⟩)]) (h : Bk 121 w g #[c0, c1, c2, .int .u64 (lb k 0 : Nat), .int .u64 (lb k 1 : Nat), .int .u64 (lb k 2 : Nat), .int .u64 (lb k 3 : Nat), d, m, z, p0, p1, p2, p3, p4, p5, p6, p7, p8]) :
    Calls Tryz.prog 139 #[.pointer (some ⟨pl, 0, none⟩)] w fun e w' => e = .returned (.tuple #[]) ∧ Bk 121 w' g #[c0, c1, c2, .int .u64 (lb k 0 : Nat), .int .u64 (lb k 1 : Nat), .int .u64 (lb k 2 : Nat), .int .u64 (lb k 3 : Nat), d, m, z, .int .u64 (lb (pubOf k).x 0 : Nat), .int .u64 (lb (pubOf k).x 1 : Nat), .int .u64 (lb (pubOf k).x 2 : Nat), .int .u64 (lb (pubOf k).x 3 : Nat), .int .u64 (lb (pubOf k).y 0 : Nat), .int .u64 (lb (pubOf k).y 1 : Nat), .int .u64 (lb (pubOf k).y 2 : Nat), .int .u64 (lb (pubOf k).y 3 : Nat), .bool (pubOf k).i] ∧ Chg g g w w' := by
  have HT := Lib.hid (timesBase_any k hk)
  have i0 : ∀ d os, (grow (redrawn w d) os).cell? ⟨pl, 0, none⟩ = some (.pointer (some ⟨g, 0, none⟩)) := fun d os => (hp.regrown d os).cell 0
  have i3 : ∀ d os, (grow (redrawn w d) os).cell? ⟨g, 3, none⟩ = some (.int .u64 (lb k 0 : Nat)) := fun d os => (h.regrown d os).cell 3
  have i4 : ∀ d os, (grow (redrawn w d) os).cell? ⟨g, 4, none⟩ = some (.int .u64 (lb k 1 : Nat)) := fun d os => (h.regrown d os).cell 4
  have i5 : ∀ d os, (grow (redrawn w d) os).cell? ⟨g, 5, none⟩ = some (.int .u64 (lb k 2 : Nat)) := fun d os => (h.regrown d os).cell 5
  have i6 : ∀ d os, (grow (redrawn w d) os).cell? ⟨g, 6, none⟩ = some (.int .u64 (lb k 3 : Nat)) := fun d os => (h.regrown d os).cell 6
  have HK := Lib.hid h
  have HLT := Lib.hid h.lt
  have HP := Lib.hid hp
  clear hk h hp
  generalize pubOf k = q at *
  obtain ⟨x, y, i⟩ := q
  unfold Po.v pn at HT
  simp only [nv, num] at HT
  go_enter Tryz.func139, Tryz.ntmps139
  go_upto_region 0 with fail
  refine wp_region_below_tail 6 mixed (by kernel_rfl) ?_
  simp only [List.take_succ_cons, List.take_zero, List.drop_succ_cons, List.drop_zero]
  iterate 5 go_big_quiet_step (fail)
  go_big_quiet_step (exact qg HT.out)
  refine wpQuiet_nil ?_
  intro _ hw'
  obtain ⟨⟨dq, osq⟩, hw''⟩ := hw'
  subst hw''
  have K4 := Lib.hid (HK.out.regrown dq osq)
  have HB := Lib.hid (below_regrown w dq osq)
  clear i0 i3 i4 i5 i6
  generalize grow (redrawn w dq) osq = V at K4 HB ⊢
  obtain ⟨⟨f0, f1, f2, f3⟩, ⟨f4, f5, f6, f7⟩, f8⟩ := K4.out.fros19
  obtain ⟨⟨e0, e1, e2, e3⟩, ⟨e4, e5, e6, e7⟩, e8⟩ := K4.out.cells19
  have K5 := Lib.hid (K4.out.put19 (e0 := .int .u64 (lb x 0 : Nat)) (e1 := .int .u64 (lb x 1 : Nat)) (e2 := .int .u64 (lb x 2 : Nat)) (e3 := .int .u64 (lb x 3 : Nat)) (e4 := .int .u64 (lb y 0 : Nat)) (e5 := .int .u64 (lb y 1 : Nat)) (e6 := .int .u64 (lb y 2 : Nat)) (e7 := .int .u64 (lb y 3 : Nat)) (e8 := .bool i))
  have HL := Lib.hid (left_put19 (g := g) (w := V) (e0 := .int .u64 (lb x 0 : Nat)) (e1 := .int .u64 (lb x 1 : Nat)) (e2 := .int .u64 (lb x 2 : Nat)) (e3 := .int .u64 (lb x 3 : Nat)) (e4 := .int .u64 (lb y 0 : Nat)) (e5 := .int .u64 (lb y 1 : Nat)) (e6 := .int .u64 (lb y 2 : Nat)) (e7 := .int .u64 (lb y 3 : Nat)) (e8 := .bool i))
  clear HK HP
  go_wp2_with fail
  go_returns
  exact ⟨rfl, K5.out, left_trans (chg_below (Nat.le_of_lt HLT.out) HB.out) HL.out⟩
set_option maxHeartbeats 16000000 in
theorem slow_key {pl g : Nat} (hne : pl ≠ g) (k : Nat) (hk : k < W256) {c0 c1 c2 z p0 p1 p2 p3 p4 p5 p6 p7 p8 : Value} (w : World) (hp : Bk 103 w pl #[.pointer (some ⟨g, 0, none⟩)]) (h : Bk 121 w g #[c0, c1, c2, .int .u64 (lb k 0 : Nat), .int .u64 (lb k 1 : Nat), .int .u64 (lb k 2 : Nat), .int .u64 (lb k 3 : Nat), .int .u32 0, .int .i32 0, z, p0, p1, p2, p3, p4, p5, p6, p7, p8]) :
    Calls Tryz.prog 167 #[.pointer (some ⟨g, 7, none⟩), .func (.func 139) #[] #[.pointer (some ⟨pl, 0, none⟩)]] w fun e w' => e = .returned (.tuple #[]) ∧ Bk 121 w' g #[c0, c1, c2, .int .u64 (lb k 0 : Nat), .int .u64 (lb k 1 : Nat), .int .u64 (lb k 2 : Nat), .int .u64 (lb k 3 : Nat), .int .u32 1, .int .i32 0, z, .int .u64 (lb (pubOf k).x 0 : Nat), .int .u64 (lb (pubOf k).x 1 : Nat), .int .u64 (lb (pubOf k).x 2 : Nat), .int .u64 (lb (pubOf k).x 3 : Nat), .int .u64 (lb (pubOf k).y 0 : Nat), .int .u64 (lb (pubOf k).y 1 : Nat), .int .u64 (lb (pubOf k).y 2 : Nat), .int .u64 (lb (pubOf k).y 3 : Nat), .bool (pubOf k).i] ∧ Chg g g w w' := by
  have HO := Lib.hid (fun W hP hK => once_fn (w := W) hne k hk (c0 := c0) (c1 := c1) (c2 := c2) (d := .int .u32 0) (m := .int .i32 1) (z := z) (p0 := p0) (p1 := p1) (p2 := p2) (p3 := p3) (p4 := p4) (p5 := p5) (p6 := p6) (p7 := p7) (p8 := p8) hP hK)
  have K1 : Bk 121 (w.setCell ⟨g, 8, none⟩ (.int .i32 1)) g #[c0, c1, c2, .int .u64 (lb k 0 : Nat), .int .u64 (lb k 1 : Nat), .int .u64 (lb k 2 : Nat), .int .u64 (lb k 3 : Nat), .int .u32 0, .int .i32 1, z, p0, p1, p2, p3, p4, p5, p6, p7, p8] := by
    have p := Bk.same (i := 8) (v := .int .i32 1) h
    simpa using p
  have P1 : Bk 103 (w.setCell ⟨g, 8, none⟩ (.int .i32 1)) pl #[.pointer (some ⟨g, 0, none⟩)] := Bk.oth hne hp
  have HL := Lib.hid (lock_free ⟨g, 8, none⟩ w (h.cell 8) (h.fro 8))
  have L1 := Lib.hid (left_cell (r := g) (a := g) (o := 8) (w := w) (v := .int .i32 1))
  have hd := Lib.hid (load_bool ⟨g, 7, none⟩ 0 _ (K1.cell 7))
  have HO1 := Lib.hid (HO.out _ P1 K1)
  clear HO P1 K1 h hp hk
  go_enter_defers Tryz.func167, Tryz.ntmps167
  go_wp2_with fail
  refine HL.out.mono ?_
  rintro e w1 ⟨rfl, rfl⟩
  generalize w.setCell ⟨g, 8, none⟩ (.int .i32 1) = W1 at *
  clear HL
  go_wp2_with fail
  refine hd.out.mono ?_
  rintro e w2 ⟨rfl, rfl⟩
  clear hd
  go_wp2_with fail
  refine HO1.out.mono ?_
  rintro e w3 ⟨rfl, hK, hL⟩
  have L3 := Lib.hid (left_trans L1.out hL)
  have K3 := Lib.hid hK
  clear HO1 L1 hK hL
  go_wp2_with fail
  refine leaves_cons (f := 191) (args := #[.pointer (some ⟨g, 7, none⟩), .bool true]) (by simp) (by simp [go_sem]) ?_
  refine (store_deferred ⟨g, 7, none⟩ (.int .u32 0) .returning _ (K3.out.cell 7) (K3.out.fro 7)).mono ?_
  rintro e u' w'' ⟨rfl, rfl, rfl⟩
  have K4 : Hid (Bk 121 (w3.drew.setCell ⟨g, 7, none⟩ (.int .u32 1)) g #[c0, c1, c2, .int .u64 (lb k 0 : Nat), .int .u64 (lb k 1 : Nat), .int .u64 (lb k 2 : Nat), .int .u64 (lb k 3 : Nat), .int .u32 1, .int .i32 1, z, .int .u64 (lb (pubOf k).x 0 : Nat), .int .u64 (lb (pubOf k).x 1 : Nat), .int .u64 (lb (pubOf k).x 2 : Nat), .int .u64 (lb (pubOf k).x 3 : Nat), .int .u64 (lb (pubOf k).y 0 : Nat), .int .u64 (lb (pubOf k).y 1 : Nat), .int .u64 (lb (pubOf k).y 2 : Nat), .int .u64 (lb (pubOf k).y 3 : Nat), .bool (pubOf k).i]) := by
    have p := Bk.same (i := 7) (v := .int .u32 1) (show Bk 121 w3.drew g #[c0, c1, c2, .int .u64 (lb k 0 : Nat), .int .u64 (lb k 1 : Nat), .int .u64 (lb k 2 : Nat), .int .u64 (lb k 3 : Nat), .int .u32 0, .int .i32 1, z, .int .u64 (lb (pubOf k).x 0 : Nat), .int .u64 (lb (pubOf k).x 1 : Nat), .int .u64 (lb (pubOf k).x 2 : Nat), .int .u64 (lb (pubOf k).x 3 : Nat), .int .u64 (lb (pubOf k).y 0 : Nat), .int .u64 (lb (pubOf k).y 1 : Nat), .int .u64 (lb (pubOf k).y 2 : Nat), .int .u64 (lb (pubOf k).y 3 : Nat), .bool (pubOf k).i] from K3.out)
    exact Lib.hid (by simpa using p)
  have L4 := Lib.hid (left_trans L3.out (left_trans (left_drew (r := g) (a := g) (w := w3)) (left_cell (w := w3.drew) (o := 7) (v := .int .u32 1))))
  generalize w3.drew.setCell ⟨g, 7, none⟩ (.int .u32 1) = W4 at *
  clear K3 L3
  refine leaves_cons (f := 190) (args := #[.pointer (some ⟨g, 8, none⟩)]) (by simp [settle]) (by simp [go_sem]) ?_
  refine (unlock_deferred ⟨g, 8, none⟩ _ _ (K4.out.cell 8) (K4.out.fro 8)).mono ?_
  rintro e u' w'' ⟨rfl, rfl, rfl⟩
  have K5 : Hid (Bk 121 (W4.setCell ⟨g, 8, none⟩ (.int .i32 0)) g #[c0, c1, c2, .int .u64 (lb k 0 : Nat), .int .u64 (lb k 1 : Nat), .int .u64 (lb k 2 : Nat), .int .u64 (lb k 3 : Nat), .int .u32 1, .int .i32 0, z, .int .u64 (lb (pubOf k).x 0 : Nat), .int .u64 (lb (pubOf k).x 1 : Nat), .int .u64 (lb (pubOf k).x 2 : Nat), .int .u64 (lb (pubOf k).x 3 : Nat), .int .u64 (lb (pubOf k).y 0 : Nat), .int .u64 (lb (pubOf k).y 1 : Nat), .int .u64 (lb (pubOf k).y 2 : Nat), .int .u64 (lb (pubOf k).y 3 : Nat), .bool (pubOf k).i]) := by
    have p := Bk.same (i := 8) (v := .int .i32 0) K4.out
    exact Lib.hid (by simpa using p)
  have L5 := Lib.hid (left_trans L4.out (left_cell (r := g) (a := g) (o := 8) (w := W4) (v := .int .i32 0)))
  simp only [Leaves, settle]
  exact ⟨_, results_none rfl _ _ _, rfl, K5.out, L5.out⟩
set_option maxHeartbeats 16000000 in
theorem do_key {pl g : Nat} (hne : pl ≠ g) (k : Nat) (hk : k < W256) {c0 c1 c2 z p0 p1 p2 p3 p4 p5 p6 p7 p8 : Value} (w : World) (hp : Bk 103 w pl #[.pointer (some ⟨g, 0, none⟩)]) (h : Bk 121 w g #[c0, c1, c2, .int .u64 (lb k 0 : Nat), .int .u64 (lb k 1 : Nat), .int .u64 (lb k 2 : Nat), .int .u64 (lb k 3 : Nat), .int .u32 0, .int .i32 0, z, p0, p1, p2, p3, p4, p5, p6, p7, p8]) :
    Calls Tryz.prog 138 #[.pointer (some ⟨g, 7, none⟩), .func (.func 139) #[] #[.pointer (some ⟨pl, 0, none⟩)]] w fun e w' => e = .returned (.tuple #[]) ∧ Bk 121 w' g #[c0, c1, c2, .int .u64 (lb k 0 : Nat), .int .u64 (lb k 1 : Nat), .int .u64 (lb k 2 : Nat), .int .u64 (lb k 3 : Nat), .int .u32 1, .int .i32 0, z, .int .u64 (lb (pubOf k).x 0 : Nat), .int .u64 (lb (pubOf k).x 1 : Nat), .int .u64 (lb (pubOf k).x 2 : Nat), .int .u64 (lb (pubOf k).x 3 : Nat), .int .u64 (lb (pubOf k).y 0 : Nat), .int .u64 (lb (pubOf k).y 1 : Nat), .int .u64 (lb (pubOf k).y 2 : Nat), .int .u64 (lb (pubOf k).y 3 : Nat), .bool (pubOf k).i] ∧ Chg g g w w' := by
  have HS := Lib.hid (slow_key hne k hk w hp h)
  have hd := Lib.hid (load_bool ⟨g, 7, none⟩ 0 w (h.cell 7))
  clear h hp hk
  go_enter Tryz.func138, Tryz.ntmps138
  go_wp2_with fail
  refine hd.out.mono ?_
  rintro e w2 ⟨rfl, rfl⟩
  clear hd
  go_wp2_with fail
  refine HS.out.mono ?_
  rintro e w3 ⟨rfl, hK, hL⟩
  have L3 := Lib.hid hL
  have K3 := Lib.hid hK
  clear HS hK hL
  go_wp2_with fail
  go_end0
  exact ⟨rfl, K3.out, L3.out⟩
theorem do_again (a : Addr) (fv : Value) (w : World) (h : w.cell? a = some (.int .u32 1)) :
    Calls Tryz.prog 138 #[.pointer (some a), fv] w fun e w' => e = .returned (.tuple #[]) ∧ w' = w := by
  have hd := Lib.hid (load_bool a 1 w h)
  go_enter Tryz.func138, Tryz.ntmps138
  go_wp2_with fail
  refine hd.out.mono ?_
  rintro e w2 ⟨rfl, rfl⟩
  go_wp2_with fail
  go_end0
  exact ⟨rfl, rfl⟩
theorem Bk.by_left {t : TypeId} {w w' : World} {r a q : Nat} {cs : Array Value} (hL : Chg r a w w') (h1 : q ≠ r) (h2 : q ≠ a) (h : Bk t w q cs) : Bk t w' q cs :=
  (hL.2.2 q h.lt h1 h2).trans h
theorem left_alloc {r a : Nat} {w : World} {o : Obj} (hr : r ≤ w.heap.size) : Chg r a w (w.alloc o) := chg_below hr (Below.alloc (Below.refl w.heap.size w) (Nat.le_refl _) o)
theorem left_into {r a b o : Nat} {w w2 : World} {v : Value} (h : Chg r a w w2) (hb : w.heap.size ≤ b) (hr : r ≤ b) : Chg r a w (w2.setCell ⟨b, o, none⟩ v) :=
  ⟨h.1.setCell (p := ⟨b, o, none⟩) hr v, by rw [World.size_setCell]; exact h.2.1, fun q hq h1 h2 => (heap_setCell_other w2 _ q v (fun e => by have : q = b := e; omega)).trans (h.2.2 q hq h1 h2)⟩
set_option maxHeartbeats 16000000 in
theorem point_first {g : Nat} (k : Nat) (hk : k < W256) {c0 c1 c2 z p0 p1 p2 p3 p4 p5 p6 p7 p8 : Value} (w : World) (h : Bk 121 w g #[c0, c1, c2, .int .u64 (lb k 0 : Nat), .int .u64 (lb k 1 : Nat), .int .u64 (lb k 2 : Nat), .int .u64 (lb k 3 : Nat), .int .u32 0, .int .i32 0, z, p0, p1, p2, p3, p4, p5, p6, p7, p8]) :
    Calls Tryz.prog 88 #[.pointer (some ⟨g, 0, none⟩)] w fun e w' => e = .returned (pubOf k).v ∧ Bk 121 w' g #[c0, c1, c2, .int .u64 (lb k 0 : Nat), .int .u64 (lb k 1 : Nat), .int .u64 (lb k 2 : Nat), .int .u64 (lb k 3 : Nat), .int .u32 1, .int .i32 0, z, .int .u64 (lb (pubOf k).x 0 : Nat), .int .u64 (lb (pubOf k).x 1 : Nat), .int .u64 (lb (pubOf k).x 2 : Nat), .int .u64 (lb (pubOf k).x 3 : Nat), .int .u64 (lb (pubOf k).y 0 : Nat), .int .u64 (lb (pubOf k).y 1 : Nat), .int .u64 (lb (pubOf k).y 2 : Nat), .int .u64 (lb (pubOf k).y 3 : Nat), .bool (pubOf k).i] ∧ Chg g g w w' := by
  have hlt := h.lt
  have hne : w.heap.size ≠ g := Nat.ne_of_gt hlt
  have hn2 : w.heap.size + 1 ≠ g := by omega
  have P1 : Bk 103 ((w.alloc (.cells #[.pointer (some ⟨g, 0, none⟩)] 103)).alloc (.cells #[.int .u64 0, .int .u64 0, .int .u64 0, .int .u64 0, .int .u64 0, .int .u64 0, .int .u64 0, .int .u64 0, .bool false] 26)) w.heap.size #[.pointer (some ⟨g, 0, none⟩)] := Bk.alloc (Bk.new rfl)
  have R1 : Bk 26 ((w.alloc (.cells #[.pointer (some ⟨g, 0, none⟩)] 103)).alloc (.cells #[.int .u64 0, .int .u64 0, .int .u64 0, .int .u64 0, .int .u64 0, .int .u64 0, .int .u64 0, .int .u64 0, .bool false] 26)) (w.heap.size + 1) #[.int .u64 0, .int .u64 0, .int .u64 0, .int .u64 0, .int .u64 0, .int .u64 0, .int .u64 0, .int .u64 0, .bool false] := Bk.new (by simp)
  have HD := Lib.hid (do_key hne k hk _ P1 (Bk.alloc (Bk.alloc h)))
  have HP := Lib.hid P1
  have HR := Lib.hid R1
  have HL := Lib.hid (left_trans (left_alloc (r := g) (a := g) (w := w) (o := .cells #[.pointer (some ⟨g, 0, none⟩)] 103) (Nat.le_of_lt hlt)) (left_alloc (hr := by simp; omega) (o := .cells #[.int .u64 0, .int .u64 0, .int .u64 0, .int .u64 0, .int .u64 0, .int .u64 0, .int .u64 0, .int .u64 0, .bool false] 26)))
  have HGE := Lib.hid (show g ≤ w.heap.size + 1 by omega)
  have HN := Lib.hid (And.intro hne hn2)
  have i0 := P1.cell 0
  clear h hk P1 R1 hne hn2 hlt
  unfold Po.v pn
  generalize pubOf k = q at *
  obtain ⟨x, y, i⟩ := q
  simp only [] at HD ⊢
  go_enter Tryz.func88, Tryz.ntmps88
  go_wp2_with fail
  refine HD.out.mono ?_
  rintro e w2 ⟨rfl, hK, hL⟩
  have L2 := Lib.hid (left_trans HL.out hL)
  have P2 := Bk.by_left hL HN.out.1 HN.out.1 HP.out
  have R2 := Bk.by_left hL HN.out.2 HN.out.2 HR.out
  have j0 := P2.cell 0
  obtain ⟨⟨e0, e1, e2, e3⟩, ⟨e4, e5, e6, e7⟩, e8⟩ := hK.cells19
  obtain ⟨⟨d0, d1, d2, d3⟩, ⟨d4, d5, d6, d7⟩, d8⟩ := R2.cells9
  obtain ⟨⟨f0, f1, f2, f3⟩, ⟨f4, f5, f6, f7⟩, f8⟩ := R2.fros9
  have K2 := Lib.hid hK
  have R3 := Lib.hid R2
  clear HD HP hK hL P2 R2 HL HR
  go_wp2_with fail
  refine ret_cell51 rfl (w.heap.size + 1) x y i rfl (Bk.put9 R3.out) rfl ⟨rfl, Bk.puto9 (Ne.symm HN.out.2) K2.out, ?_⟩
  iterate 9 refine left_into ?_ (Nat.le_succ _) HGE.out
  exact L2.out
set_option maxHeartbeats 16000000 in
theorem point_again {g : Nat} (k : Nat) {c0 c1 c2 z : Value} (w : World) (h : Bk 121 w g #[c0, c1, c2, .int .u64 (lb k 0 : Nat), .int .u64 (lb k 1 : Nat), .int .u64 (lb k 2 : Nat), .int .u64 (lb k 3 : Nat), .int .u32 1, .int .i32 0, z, .int .u64 (lb (pubOf k).x 0 : Nat), .int .u64 (lb (pubOf k).x 1 : Nat), .int .u64 (lb (pubOf k).x 2 : Nat), .int .u64 (lb (pubOf k).x 3 : Nat), .int .u64 (lb (pubOf k).y 0 : Nat), .int .u64 (lb (pubOf k).y 1 : Nat), .int .u64 (lb (pubOf k).y 2 : Nat), .int .u64 (lb (pubOf k).y 3 : Nat), .bool (pubOf k).i]) :
    Calls Tryz.prog 88 #[.pointer (some ⟨g, 0, none⟩)] w fun e w' => e = .returned (pubOf k).v ∧ Below w.heap.size w w' := by
  have P1 : Bk 103 ((w.alloc (.cells #[.pointer (some ⟨g, 0, none⟩)] 103)).alloc (.cells #[.int .u64 0, .int .u64 0, .int .u64 0, .int .u64 0, .int .u64 0, .int .u64 0, .int .u64 0, .int .u64 0, .bool false] 26)) w.heap.size #[.pointer (some ⟨g, 0, none⟩)] := Bk.alloc (Bk.new rfl)
  have R1 : Bk 26 ((w.alloc (.cells #[.pointer (some ⟨g, 0, none⟩)] 103)).alloc (.cells #[.int .u64 0, .int .u64 0, .int .u64 0, .int .u64 0, .int .u64 0, .int .u64 0, .int .u64 0, .int .u64 0, .bool false] 26)) (w.heap.size + 1) #[.int .u64 0, .int .u64 0, .int .u64 0, .int .u64 0, .int .u64 0, .int .u64 0, .int .u64 0, .int .u64 0, .bool false] := Bk.new (by simp)
  have KA := Bk.alloc (o := .cells #[.int .u64 0, .int .u64 0, .int .u64 0, .int .u64 0, .int .u64 0, .int .u64 0, .int .u64 0, .int .u64 0, .bool false] 26) (Bk.alloc (o := .cells #[.pointer (some ⟨g, 0, none⟩)] 103) h)
  have HD := Lib.hid (fun fv => do_again ⟨g, 7, none⟩ fv _ (KA.cell 7))
  have HR := Lib.hid R1
  have HB1 : Below w.heap.size w (w.alloc (.cells #[.pointer (some ⟨g, 0, none⟩)] 103)) := (Below.refl w.heap.size w).alloc (Nat.le_refl _) _
  have HB : Hid (Below w.heap.size w ((w.alloc (.cells #[.pointer (some ⟨g, 0, none⟩)] 103)).alloc (.cells #[.int .u64 0, .int .u64 0, .int .u64 0, .int .u64 0, .int .u64 0, .int .u64 0, .int .u64 0, .int .u64 0, .bool false] 26))) := Lib.hid (HB1.alloc HB1.size _)
  have HS : Hid (w.heap.size ≤ w.heap.size + 1) := Lib.hid (Nat.le_succ _)
  have i0 := P1.cell 0
  obtain ⟨⟨e0, e1, e2, e3⟩, ⟨e4, e5, e6, e7⟩, e8⟩ := KA.cells19
  obtain ⟨⟨d0, d1, d2, d3⟩, ⟨d4, d5, d6, d7⟩, d8⟩ := R1.cells9
  obtain ⟨⟨f0, f1, f2, f3⟩, ⟨f4, f5, f6, f7⟩, f8⟩ := R1.fros9
  clear h P1 KA R1 HB1
  unfold Po.v pn
  generalize pubOf k = q at *
  obtain ⟨x, y, i⟩ := q
  simp only [] at *
  go_enter Tryz.func88, Tryz.ntmps88
  go_wp2_with fail
  refine (HD.out _).mono ?_
  clear HD
  generalize ((w.alloc (.cells #[.pointer (some ⟨g, 0, none⟩)] 103)).alloc (.cells #[.int .u64 0, .int .u64 0, .int .u64 0, .int .u64 0, .int .u64 0, .int .u64 0, .int .u64 0, .int .u64 0, .bool false] 26)) = W1 at *
  rintro e w2 ⟨rfl, rfl⟩
  go_wp2_with fail
  refine ret_cell51 rfl (w.heap.size + 1) x y i rfl (Bk.put9 HR.out) rfl ⟨rfl, ?_⟩
  have hb := HB.out
  generalize w.heap.size + 1 = n at HS ⊢
  have hs := HS.out
  go_grown
def RF (w : World) (r a g : Nat) : Prop := ∃ n c cur, 0 < n ∧ n ≤ 1000000 ∧ Bk 107 w r #[.slice (some ⟨a, 0, none⟩) n c] ∧ Bk 103 w a cur ∧ cur[0]? = some (kpt g)
theorem RF.below {w w' : World} {r a g : Nat} (h : RF w r a g) (hb : Below w.heap.size w w') : RF w' r a g := by
  obtain ⟨n, c, cur, h1, h2, h3, h4, h5⟩ := h
  exact ⟨n, c, cur, h1, h2, h3.below hb, h4.below hb, h5⟩
theorem RF.left {w w' : World} {r a g q : Nat} (h : RF w r a g) {cs : Array Value} (hq : Bk 121 w q cs) (hL : Chg q q w w') : RF w' r a g := by
  obtain ⟨n, c, cur, h1, h2, h3, h4, h5⟩ := h
  have e1 : r ≠ q := fun e => by subst e; have := h3.symm.trans hq; simp at this
  have e2 : a ≠ q := fun e => by subst e; have := h4.symm.trans hq; simp at this
  exact ⟨n, c, cur, h1, h2, Bk.by_left hL e1 e1 h3, Bk.by_left hL e2 e2 h4, h5⟩
set_option maxHeartbeats 8000000 in
theorem find_first {w : World} {r a g : Nat} (h : RF w r a g) (n : List UInt8) (hc : w.cell? ⟨g, 1, none⟩ = some (.string ⟨n.toArray⟩)) : Calls Tryz.prog 75 #[kpt r, .string ⟨n.toArray⟩] w fun e w' => e = .returned (kpt g) ∧ w = w' := by
  obtain ⟨m, c, cur, h1, h2, h3, h4, h5⟩ := h
  have c0 : w.cell? ⟨r, 0, none⟩ = some (.slice (some ⟨a, 0, none⟩) m c) := h3.cell 0
  have c1 : w.cell? ⟨a, 0, none⟩ = some (.pointer (some ⟨g, 0, none⟩)) := (h4.cell 0).trans h5
  have hb : (n == n) = true := by simp
  have hlt : (0 : Int) < (m : Int) := by omega
  clear h3 h4 h5
  unfold kpt
  go_enter Tryz.func75, Tryz.ntmps75
  go_wp2_with fail
  go_loopw [12] (fun iv wr => iv = .int .i64 0 ∧ wr = w) (fun iv _ => 0)
  case atStart => exact ⟨rfl, rfl⟩
  case round =>
    obtain ⟨rfl, rfl⟩ := hrel
    go_wp2_with fail
    go_returns
    exact ⟨rfl, rfl⟩
set_option maxHeartbeats 8000000 in
theorem rverify {w : World} {r a g k : Nat} {b : Bool} (R : World → Prop) (h : RF w r a g) (n : List UInt8) (s sig : ByteArray) (hc : w.cell? ⟨g, 1, none⟩ = some (.string ⟨n.toArray⟩))
    (HP : Calls Tryz.prog 88 #[kpt g] w fun e w' => e = .returned (pubOf k).v ∧ R w')
    (HV : ∀ w, Calls Tryz.prog 16 #[(pubOf k).v, .string s, .string sig] w fun e w' => e = .returned (.bool b) ∧ Below w.heap.size w w') :
    Calls Tryz.prog 38 #[kpt r, .string ⟨n.toArray⟩, .string s, .string sig] w fun e w' => e = .returned (.bool b) ∧ ∃ w1, R w1 ∧ Below w1.heap.size w1 w' := by
  have HF := Lib.hid (find_first h n hc)
  have HP := Lib.hid HP
  have HV := Lib.hid HV
  clear h hc
  unfold kpt at *
  unfold Po.v pn at HP HV
  generalize pubOf k = q at *
  obtain ⟨x, y, i⟩ := q
  simp only [] at HP HV
  go_enter Tryz.func38, Tryz.ntmps38
  go_wp2_with fail
  refine HF.out.mono ?_
  rintro e w1 ⟨rfl, rfl⟩
  clear HF
  go_wp2_with fail
  refine HP.out.mono ?_
  rintro e w2 ⟨rfl, hR⟩
  have HR := Lib.hid hR
  clear HP hR
  go_wp2_with fail
  refine (HV.out _).mono ?_
  rintro e w3 ⟨rfl, hB⟩
  go_wp2_with fail
  go_returns
  exact ⟨rfl, _, HR.out, hB⟩
set_option maxHeartbeats 8000000 in
theorem rsign_ok {B : Nat} {w : World} {r g : Nat} {s0 : List UInt8} (h : Rg B w r [(g, s0)]) (hs0 : s0.length ≤ 140737488351232) (s sg : ByteArray)
    (HS : ∀ w, Calls Tryz.prog 14 #[nv (privOf s0), .string s] w fun e w' => e = .returned (.tuple #[.string sg, .int .i64 0]) ∧ Below w.heap.size w w') :
    Calls Tryz.prog 34 #[kpt r, .string s] w fun e w' => e = .returned (.tuple #[.string ⟨(kidOf s0).toArray⟩, .string sg, .int .i64 0]) ∧ Below w.heap.size w w' := by
  have HN := Lib.hid (newest_any (ks := []) h (by decide))
  have K := h.choose_spec.choose_spec.2.2 (g, s0) (by simp)
  have HK := Lib.hid K
  have HS := Lib.hid HS
  have HC := Lib.hid (fun w => sclone_any (kidOf s0) w (kidOf_len s0))
  clear h K hs0
  unfold kpt at *
  unfold keyC at HK
  simp only [nv, num] at HS
  go_enter Tryz.func34, Tryz.ntmps34
  go_wp2_with fail
  refine HN.out.mono ?_
  rintro e w1 ⟨rfl, hb⟩
  have K1 := HK.out.below hb
  have HB := Lib.hid hb
  have i1 := K1.cell 1
  have i3 := K1.cell 3
  have i4 := K1.cell 4
  have i5 := K1.cell 5
  have i6 := K1.cell 6
  simp only [List.getElem?_toArray, List.getElem?_cons_zero, List.getElem?_cons_succ] at i1 i3 i4 i5 i6
  have HK1 := Lib.hid K1
  clear HN HK hb K1
  go_wp2_with fail
  refine (HS.out _).mono ?_
  rintro e w2 ⟨rfl, hb⟩
  have K2 := HK1.out.below hb
  have HB2 := Lib.hid (HB.out.trans (hb.mono HB.out.size))
  have j1 := K2.cell 1
  simp only [List.getElem?_toArray, List.getElem?_cons_zero, List.getElem?_cons_succ] at j1
  clear i1 i3 i4 i5 i6 HK1 HB hb K2 HS
  go_wp2_with fail
  refine (HC.out _).mono ?_
  rintro e w3 ⟨rfl, hb⟩
  have HB3 := Lib.hid (HB2.out.trans (hb.mono HB2.out.size))
  clear hb
  go_wp2_with fail
  go_returns
  exact ⟨rfl, HB3.out⟩
set_option maxHeartbeats 8000000 in
theorem rsign_no {B : Nat} {w : World} {r g : Nat} {s0 : List UInt8} (h : Rg B w r [(g, s0)]) (s sg : ByteArray) (ee : Int) (he : (ee != 0) = true)
    (HS : ∀ w, Calls Tryz.prog 14 #[nv (privOf s0), .string s] w fun e w' => e = .returned (.tuple #[.string sg, .int .i64 ee]) ∧ Below w.heap.size w w') :
    Calls Tryz.prog 34 #[kpt r, .string s] w fun e w' => e = .returned (.tuple #[.string ⟨#[]⟩, .string ⟨#[]⟩, .int .i64 ee]) ∧ Below w.heap.size w w' := by
  have HN := Lib.hid (newest_any (ks := []) h (by decide))
  have K := h.choose_spec.choose_spec.2.2 (g, s0) (by simp)
  have HK := Lib.hid K
  have HS := Lib.hid HS
  clear h K
  unfold kpt at *
  unfold keyC at HK
  simp only [nv, num] at HS
  go_enter Tryz.func34, Tryz.ntmps34
  go_wp2_with fail
  refine HN.out.mono ?_
  rintro e w1 ⟨rfl, hb⟩
  have K1 := HK.out.below hb
  have HB := Lib.hid hb
  have i3 := K1.cell 3
  have i4 := K1.cell 4
  have i5 := K1.cell 5
  have i6 := K1.cell 6
  simp only [List.getElem?_toArray, List.getElem?_cons_zero, List.getElem?_cons_succ] at i3 i4 i5 i6
  clear HN HK hb K1
  go_wp2_with fail
  refine (HS.out _).mono ?_
  rintro e w2 ⟨rfl, hb⟩
  have HB2 := Lib.hid (HB.out.trans (hb.mono HB.out.size))
  clear i3 i4 i5 i6 HB hb HS
  go_wp2_with fail
  go_returns
  exact ⟨rfl, HB2.out⟩
theorem turn_more {a B : Nat} {w : World} {r : Nat} {ks : List (Nat × List UInt8)} (h : RgA a B w r ks) (hB : B ≤ w.heap.size) (hr : B ≤ r) (hl : ks.length ≤ 8) (s : List UInt8) (hs : s.length ≤ 140737488351232) : Calls Tryz.prog 22 #[kpt r, .string ⟨s.toArray⟩] w fun e w' => e = .returned (.int .i64 (turnC (ks.map Prod.snd) s)) ∧ (∃ t, (ks ++ t).map Prod.snd = turnS (ks.map Prod.snd) s ∧ Rg B w' r (ks ++ t)) ∧ Below B w w' ∧ Left r a w w' := by
  rcases find_same (kidOf s) ks 0 with ⟨hf, hf2⟩ | ⟨j, hj, hf, hf2⟩
  · have hz : ¬ (0 : Int) ≤ findS (ks.map Prod.snd) (kidOf s) 0 := by rw [hf2]; decide
    by_cases h8 : ks.length = 8
    · refine (turn_full h.rg h8 s hs hf).mono fun e w' ⟨he, hb⟩ => ?_
      refine ⟨?_, ⟨[], ?_, by simpa using h.rg.below hb⟩, hb.mono hB, .of_below hb⟩
      · rw [he, turnC, if_neg hz, if_pos (by simpa using h8)]
      · rw [turnS, if_neg hz, if_pos (by simpa using h8), List.append_nil]
    · refine (turn_newF h hB hr (by omega) s hs hf).mono fun e w' ⟨he, g, hg, hb, hL⟩ => ?_
      refine ⟨?_, ⟨[(g, s)], ?_, hg⟩, hb, hL⟩
      · rw [he, turnC, if_neg hz, if_neg (by simpa using h8)]
      · rw [turnS, if_neg hz, if_neg (by simpa using h8)]
        simp
  · have hz : (0 : Int) ≤ findS (ks.map Prod.snd) (kidOf s) 0 := by rw [hf2]; omega
    refine (turn_there h.rg (by omega) s hs _ hf).mono fun e w' ⟨he, hb⟩ => ?_
    refine ⟨?_, ⟨[], ?_, by simpa using h.rg.below hb⟩, hb.mono hB, .of_below hb⟩
    · rw [he, turnC, if_pos hz]
    · rw [turnS, if_pos hz, List.append_nil]
theorem RgA.rf {a B : Nat} {w : World} {r g : Nat} {s : List UInt8} {ks : List (Nat × List UInt8)} (h : RgA a B w r ((g, s) :: ks)) (hl : ks.length < 1000000) : RF w r a g := by
  obtain ⟨c, h1, h2, h3⟩ := h
  have h4 := h2.cells (g := a) rfl 0 (kpt g) (by simp)
  obtain ⟨hb, cur, h5⟩ := row_block h2
  refine ⟨_, c, cur, by simp, by simp; omega, h1, h5, ?_⟩
  have h6 := h5.cell 0
  simp only [Addr.add, Nat.add_zero] at h4
  exact h6.symm.trans (by simpa using h4)
theorem RF.apart {w : World} {r q a b g g' : Nat} (h : RF w r a g) (k : RF w q b g') (hg : g ≠ g') : r ≠ q ∧ a ≠ b := by
  obtain ⟨n, c, cur, h1, h2, h3, h4, h5⟩ := h
  obtain ⟨n', c', cur', k1, k2, k3, k4, k5⟩ := k
  have ha : a ≠ b := fun e => by
    subst e
    have := h4.symm.trans k4
    simp only [Option.some.injEq, Obj.cells.injEq] at this
    rw [this.1, k5] at h5
    exact hg (by simpa [kpt] using h5.symm)
  refine ⟨fun e => ?_, ha⟩
  subst e
  have := h3.symm.trans k3
  simp only [Option.some.injEq, Obj.cells.injEq] at this
  exact absurd this.1 (by simp [ha])
theorem Rg.apart {a b B B' : Nat} {w w' : World} {r q : Nat} {ks ls : List (Nat × List UInt8)} (h : RgA b B' w q ls) (hr : RgA a B w r ks) (h1 : r ≠ q ∧ a ≠ b) (hL : Left r a w w') : RgA b B' w' q ls := by
  obtain ⟨d, k1, k2, k4⟩ := h
  obtain ⟨hb, cur, k3⟩ := row_block k2
  obtain ⟨c, m1, m2, _⟩ := hr
  obtain ⟨_, cur2, m3⟩ := row_block m2
  have e1 : q ≠ a := bk_ne k1 m3 (by decide)
  have e2 : b ≠ r := bk_ne k3 m1 (by decide)
  exact ⟨d, k1.left hL (Ne.symm h1.1) e1, row_kept k2 ((k3.left hL e2 (Ne.symm h1.2)).trans k3.symm), fun k hk => (k4 k hk).left hL (bk_ne (k4 k hk) m1 (by decide)) (bk_ne (k4 k hk) m3 (by decide))⟩
structure KS (B : Nat) (w0 w : World) (r q g g' : Nat) (s0 : List UInt8) (ss tt : List (List UInt8)) : Prop where
  below : Below B w0 w
  size : B ≤ w.heap.size
  lr : B ≤ r
  lq : B ≤ q
  ne : g ≠ g'
  lenr : ss.length < 8
  lenq : tt.length < 8
  one : ∃ ks, ks.map Prod.snd = ss ∧ Rg B w r ((g, s0) :: ks)
  two : ∃ ks, ks.map Prod.snd = tt ∧ Rg B w q ((g', s0) :: ks)
theorem turnS_cons (s0 s : List UInt8) (ss : List (List UInt8)) (h : ss.length < 8) : ∃ tt, turnS (s0 :: ss) s = s0 :: tt ∧ tt.length < 8 := by
  have hl := turnS_len (ss := s0 :: ss) (s := s) (by simp; omega)
  unfold turnS at hl ⊢
  split
  · exact ⟨ss, rfl, h⟩
  · split
    · exact ⟨ss, rfl, h⟩
    · rename_i h1 h2
      rw [if_neg h1, if_neg h2] at hl
      refine ⟨ss ++ [s], rfl, ?_⟩
      simp at hl ⊢
      omega
def tailS (s0 : List UInt8) (ss : List (List UInt8)) (s : List UInt8) : List (List UInt8) := (turnS (s0 :: ss) s).tail
theorem tailS_is (s0 s : List UInt8) (ss : List (List UInt8)) (h : ss.length < 8) : turnS (s0 :: ss) s = s0 :: tailS s0 ss s ∧ (tailS s0 ss s).length < 8 := by
  obtain ⟨tt, h1, h2⟩ := turnS_cons s0 s ss h
  unfold tailS
  rw [h1]
  exact ⟨rfl, h2⟩
theorem KS.first {B : Nat} {w0 w : World} {r q g g' : Nat} {s0 : List UInt8} {ss tt : List (List UInt8)} (h : KS B w0 w r q g g' s0 ss tt) (s : List UInt8) (hs : s.length ≤ 140737488351232) :
    Calls Tryz.prog 22 #[kpt r, .string ⟨s.toArray⟩] w fun e w' => e = .returned (.int .i64 (turnC (s0 :: ss) s)) ∧ KS B w0 w' r q g g' s0 (tailS s0 ss s) tt ∧ ∃ a, RF w r a g ∧ Left r a w w' := by
  obtain ⟨ks, e1, k1⟩ := h.one
  obtain ⟨ls, e2, k2⟩ := h.two
  have hl1 : ks.length < 8 := by rw [← List.length_map (f := Prod.snd), e1]; exact h.lenr
  have hl2 : ls.length < 8 := by rw [← List.length_map (f := Prod.snd), e2]; exact h.lenq
  obtain ⟨a, ka⟩ := k1.named
  obtain ⟨b, kb⟩ := k2.named
  have ap := (ka.rf (by omega)).apart (kb.rf (by omega)) h.ne
  have hT := turn_more ka h.size h.lr (by simp; omega) s hs
  refine hT.mono fun e w' ⟨he, ⟨t, ht, hR⟩, hb, hL⟩ => ?_
  simp only [List.map_cons, e1] at he
  simp only [List.map_cons, List.cons_append, e1] at ht hR
  have ht2 := tailS_is s0 s ss h.lenr
  rw [ht2.1] at ht
  refine ⟨he, ⟨h.below.trans hb, Nat.le_trans h.size hL.1, h.lr, h.lq, h.ne, ht2.2, h.lenq, ⟨ks ++ t, ?_, hR⟩, ⟨ls, e2, (Rg.apart kb ka ap hL).rg⟩⟩, a, ka.rf (by omega), hL⟩
  exact (List.cons.inj ht).2
theorem KS.second {B : Nat} {w0 w : World} {r q g g' : Nat} {s0 : List UInt8} {ss tt : List (List UInt8)} (h : KS B w0 w r q g g' s0 ss tt) (s : List UInt8) (hs : s.length ≤ 140737488351232) :
    Calls Tryz.prog 22 #[kpt q, .string ⟨s.toArray⟩] w fun e w' => e = .returned (.int .i64 (turnC (s0 :: tt) s)) ∧ KS B w0 w' r q g g' s0 ss (tailS s0 tt s) ∧ ∃ a, RF w q a g' ∧ Left q a w w' := by
  have k : KS B w0 w q r g' g s0 tt ss := ⟨h.below, h.size, h.lq, h.lr, Ne.symm h.ne, h.lenq, h.lenr, h.two, h.one⟩
  refine (k.first s hs).mono fun e w' ⟨he, k', ha⟩ => ⟨he, ⟨k'.below, k'.size, k'.lq, k'.lr, Ne.symm k'.ne, k'.lenq, k'.lenr, k'.two, k'.one⟩, ha⟩
end Go.Proofs.YtpggkfdijmnmiaaGreat
