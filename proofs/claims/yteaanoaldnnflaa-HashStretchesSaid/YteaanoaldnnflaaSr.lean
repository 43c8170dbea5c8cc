/- The sum's drawn regions of one round, each apart from the function that it stands in. No condition but what each reads. -/
import Derived.Test.YteaanoaldnnflaaTk
import Derived.Test.YteaanoaldnnflaaQu
import Derived.Test.YteaanoaldnnflaaRr
set_option linter.unusedVariables false
set_option linter.unusedSimpArgs false
namespace Go.Proofs.Yteaanoaldnnflaa
open Go.RowKit Go.Sort

/-- a region's operations, by its number -/
def findR : Code → Nat → Option (Array Oper)
  | .region id ops _, n => if id = n then some ops else none
  | .seq a b, n => (findR a n).or (findR b n)
  | .cond _ a b, n => (findR a n).or (findR b n)
  | .block _ a, n => findR a n
  | .loop a, n => findR a n
  | .scope a, n => findR a n
  | _, _ => none
noncomputable def opsOf (n : Nat) : Array Oper := (Try.f21.body.bind fun c => findR c n).getD #[]
/-- the same but for what was drawn -/
def Sm (w w' : World) : Prop := w'.os = w.os ∧ w'.tape = w.tape ∧ w'.output = w.output ∧ w'.heap = w.heap
theorem Sm.refl (w : World) : Sm w w := ⟨rfl, rfl, rfl, rfl⟩
theorem Sm.drew (w : World) : Sm w w.drew := ⟨rfl, rfl, rfl, rfl⟩
theorem Sm.drewN (w : World) (n : Nat) : Sm w (w.drewN n) := ⟨rfl, rfl, rfl, rfl⟩
theorem Sm.trans {a b c : World} (h : Sm a b) (k : Sm b c) : Sm a c := ⟨k.1.trans h.1, k.2.1.trans h.2.1, k.2.2.1.trans h.2.2.1, k.2.2.2.trans h.2.2.2⟩
theorem Sm.cell {w w' : World} (h : Sm w w') {p : Addr} {v : Value} (hc : w.cell? p = some v) : w'.cell? p = some v := by
  rw [World.cell?_of_block (w := w) (by rw [h.2.2.2])]; exact hc
theorem Sm.below {B : Nat} {a w w' : World} (h : Sm w w') (hb : Below B a w) : Below B a w' :=
  ⟨h.1.trans hb.os, h.2.1.trans hb.tape, h.2.2.1.trans hb.output, by rw [h.2.2.2]; exact hb.size, fun k hk => by rw [h.2.2.2]; exact hb.block k hk⟩
theorem join4' (a b c d : UInt8) : ∃ n1 n2 : Nat, n1 < 4294967296 ∧ n2 < 4294967296 ∧ bits .or .u32 ((a.toNat : Int) * 16777216) ((b.toNat : Int) * 65536) = (n1 : Int) ∧ bits .or .u32 (n1 : Int) ((c.toNat : Int) * 256) = (n2 : Int) ∧ bits .or .u32 (n2 : Int) (d.toNat : Int) = ((word4 a b c d).toNat : Int) := by
  have ha := a.toNat_lt
  have hb := b.toNat_lt
  have hc := c.toNat_lt
  have hd := d.toNat_lt
  refine ⟨a.toNat * 16777216 + b.toNat * 65536, a.toNat * 16777216 + b.toNat * 65536 + c.toNat * 256, by omega, by omega, ?_, ?_, ?_⟩
  · rw [show (a.toNat : Int) * 16777216 = ((a.toNat * 16777216 : Nat) : Int) from by omega, show (b.toNat : Int) * 65536 = ((b.toNat * 65536 : Nat) : Int) from by omega, u32_or_nat _ _ (by omega) (by omega), nat_join 24 _ _ (by omega) (by omega)]
  · rw [show (c.toNat : Int) * 256 = ((c.toNat * 256 : Nat) : Int) from by omega, u32_or_nat _ _ (by omega) (by omega), nat_join 16 _ _ (by omega) (by omega)]
  · rw [u32_or_nat _ _ (by omega) (by omega), nat_join 8 _ _ (by omega) (by omega), word4_nat]


theorem qd {f : FuncId} {args : Array Value} {w : World} {n : Nat} {v : Value} (h : Calls Try.prog f args (w.drewN n) fun e w' => e = .returned v ∧ w' = (w.drewN n).drew) : Calls Try.prog f args (w.drewN n) fun e w'' => e = .returned v ∧ ∃ m, w'' = w.drewN m :=
  Calls.quiet_of (h.mono fun _ _ h => ⟨h.1, 1, h.2⟩)

set_option maxHeartbeats 4000000 in
set_option maxRecDepth 100000 in
theorem r31 (gv cv : Nat) (h0 h4 : UInt32) (w : World) (i0 : w.cell? ⟨gv, 0, none⟩ = some (.int .u32 (h0.toNat : Int))) (i4 : w.cell? ⟨gv, 4, none⟩ = some (.int .u32 (h4.toNat : Int)))
    {t0 t1 t2 t3 t4 t5 t6 t7 t8 t9 t10 t11 t12 t13 t14 t15 t16 t18 t19 t20 t21 t22 t23 t24 t25 t26 t27 t28 t29 t30 t31 t32 t33 t34 t35 t36 t37 t38 t39 t40 t41 t42 t43 t44 t45 t46 t47 t48 t49 t50 t51 t52 t53 t54 t55 t56 t57 t58 t59 t60 t61 t62 t63 t64 t65 t66 t67 t68 t69 t70 t71 t72 t73 t74 t75 t76 t77 t78 t79 t80 t81 t82 t83 t84 t85 t86 t87 t88 t89 t90 t91 t92 t93 t94 t95 t96 t97 t98 t99 t100 t101 t102 t103 t104 t105 t106 t107 t108 t109 t110 t111 t112 t113 t114 t115 t116 t117 t118 t119 t120 t121 t122 t123 t124 t125 t126 t127 t128 t129 t130 t131 t132 t133 t134 t135 t136 t137 t138 t139 t140 t141 t142 t143 t144 t145 t146 t147 t148 t149 t150 t151 t152 t153 t154 t155 t156 t157 t158 t159 t160 t161 t162 t163 t164 t165 t166 t167 t168 t169 t170 t171 t172 t173 t174 t175 t176 t177 t178 t179 t180 t181 t182 t183 t184 t185 t186 t187 t188 t189 t190 t191 t192 t193 t194 t195 t196 t197 t198 t199 t200 t201 t202 t203 t204 t205 t206 t207 t208 t209 t210 t211 t212 t213 t214 t215 t216 t217 t218 t219 t220 t221 t222 t223 t224 t225 t226 t227 t228 t229 t230 t231 t232 t233 t234 t235 t236 t237 t238 t239 t240 t241 t242 t243 t244 t245 t246 t247 t248 t249 t250 t251 t252 t253 t254 t255 t256 t257 t258 t259 t260 t261 t262 t263 t264 t265 t266 t267 t268 t269 t270 t271 t272 t273 t274 t275 t276 t277 t278 t279 t280 t281 t282 t283 t284 t285 t286 t287 t288 t289 t290 : Value} {ds : List Deferred} {K : Act → World → Prop} {Q : Exit → Act → World → Prop}
    (h : ∀ (x167 x168 x169 x170 x171 x172 : Value) (w' : World), Sm w w' → K { tmps := #[t0, t1, t2, t3, t4, t5, t6, t7, t8, t9, t10, t11, t12, t13, t14, t15, t16, .slice (some ⟨gv, 0, none⟩) 8 cv, t18, .int .u32 (h4.toNat : Int), .int .u32 (h0.toNat : Int), t21, t22, t23, t24, t25, t26, t27, t28, t29, t30, t31, t32, t33, t34, t35, t36, t37, t38, t39, t40, t41, t42, t43, t44, t45, t46, t47, t48, t49, t50, t51, t52, t53, t54, t55, t56, t57, t58, t59, t60, t61, t62, t63, t64, t65, t66, t67, t68, t69, t70, t71, t72, t73, t74, t75, t76, t77, t78, t79, t80, t81, t82, t83, t84, t85, t86, t87, t88, t89, t90, t91, t92, t93, t94, t95, t96, t97, t98, t99, t100, t101, t102, t103, t104, t105, t106, t107, t108, t109, t110, t111, t112, t113, t114, t115, t116, t117, t118, t119, t120, t121, t122, t123, t124, t125, t126, t127, t128, t129, t130, t131, t132, t133, t134, t135, t136, t137, t138, t139, t140, t141, t142, t143, t144, t145, t146, t147, t148, t149, t150, t151, t152, t153, t154, t155, t156, t157, t158, t159, t160, t161, t162, t163, t164, t165, t166, x167, x168, x169, x170, x171, x172, t173, t174, t175, t176, t177, t178, t179, t180, t181, t182, t183, t184, t185, t186, t187, t188, t189, t190, t191, t192, t193, t194, t195, t196, t197, t198, t199, t200, t201, t202, t203, t204, t205, t206, t207, t208, t209, t210, t211, t212, t213, t214, t215, t216, t217, t218, t219, t220, t221, t222, t223, t224, t225, t226, t227, t228, t229, t230, t231, t232, t233, t234, t235, t236, t237, t238, t239, t240, t241, t242, t243, t244, t245, t246, t247, t248, t249, t250, t251, t252, t253, t254, t255, t256, t257, t258, t259, t260, t261, t262, t263, t264, t265, t266, t267, t268, t269, t270, t271, t272, t273, t274, t275, t276, t277, t278, t279, t280, t281, t282, t283, t284, t285, t286, t287, t288, t289, t290], defers := ds } w') :
    (Code.region 31 (opsOf 31) true).wp Try.prog (Exit.then K Q) { tmps := #[t0, t1, t2, t3, t4, t5, t6, t7, t8, t9, t10, t11, t12, t13, t14, t15, t16, .slice (some ⟨gv, 0, none⟩) 8 cv, t18, t19, t20, t21, t22, t23, t24, t25, t26, t27, t28, t29, t30, t31, t32, t33, t34, t35, t36, t37, t38, t39, t40, t41, t42, t43, t44, t45, t46, t47, t48, t49, t50, t51, t52, t53, t54, t55, t56, t57, t58, t59, t60, t61, t62, t63, t64, t65, t66, t67, t68, t69, t70, t71, t72, t73, t74, t75, t76, t77, t78, t79, t80, t81, t82, t83, t84, t85, t86, t87, t88, t89, t90, t91, t92, t93, t94, t95, t96, t97, t98, t99, t100, t101, t102, t103, t104, t105, t106, t107, t108, t109, t110, t111, t112, t113, t114, t115, t116, t117, t118, t119, t120, t121, t122, t123, t124, t125, t126, t127, t128, t129, t130, t131, t132, t133, t134, t135, t136, t137, t138, t139, t140, t141, t142, t143, t144, t145, t146, t147, t148, t149, t150, t151, t152, t153, t154, t155, t156, t157, t158, t159, t160, t161, t162, t163, t164, t165, t166, t167, t168, t169, t170, t171, t172, t173, t174, t175, t176, t177, t178, t179, t180, t181, t182, t183, t184, t185, t186, t187, t188, t189, t190, t191, t192, t193, t194, t195, t196, t197, t198, t199, t200, t201, t202, t203, t204, t205, t206, t207, t208, t209, t210, t211, t212, t213, t214, t215, t216, t217, t218, t219, t220, t221, t222, t223, t224, t225, t226, t227, t228, t229, t230, t231, t232, t233, t234, t235, t236, t237, t238, t239, t240, t241, t242, t243, t244, t245, t246, t247, t248, t249, t250, t251, t252, t253, t254, t255, t256, t257, t258, t259, t260, t261, t262, t263, t264, t265, t266, t267, t268, t269, t270, t271, t272, t273, t274, t275, t276, t277, t278, t279, t280, t281, t282, t283, t284, t285, t286, t287, t288, t289, t290], defers := ds } w := by
  simp only [opsOf, findR, Try.f21, Option.bind_some, Option.or, Option.getD, Nat.reduceEqDiff, if_true, if_false, reduceIte]
  go_region
  exact h _ _ _ _ _ _ _ (Sm.drew w)

set_option maxHeartbeats 4000000 in
set_option maxRecDepth 100000 in
theorem r32 (gv cv gk ck gw k : Nat) (h4 h5 h6 h7 kk wn T : UInt32) (hk : k < 64) (hTT : h7 + S1 h4 + (h4 &&& h5 ^^^ (4294967295 ^^^ h4) &&& h6) + kk + wn = T) (w : World) (i5 : (w.cell? ⟨gv, 5, none⟩ = some (.int .u32 (h5.toNat : Int)))) (i6 : (w.cell? ⟨gv, 6, none⟩ = some (.int .u32 (h6.toNat : Int)))) (i7 : (w.cell? ⟨gv, 7, none⟩ = some (.int .u32 (h7.toNat : Int)))) (ik : (w.cell? ⟨gk, k, none⟩ = some (.int .u32 (kk.toNat : Int)))) (iw : (w.cell? ⟨gw, k, none⟩ = some (.int .u32 (wn.toNat : Int))))
    {t0 t2 t3 t4 t5 t6 t7 t8 t9 t10 t12 t13 t14 t15 t16 t20 t21 t22 t23 t24 t25 t26 t27 t28 t29 t30 t31 t32 t33 t34 t35 t36 t37 t38 t39 t40 t41 t42 t43 t44 t45 t46 t47 t48 t49 t50 t51 t52 t53 t54 t55 t56 t57 t58 t59 t60 t61 t62 t63 t64 t65 t66 t67 t68 t69 t70 t71 t72 t73 t74 t75 t76 t77 t78 t79 t80 t81 t82 t83 t84 t85 t86 t87 t88 t89 t90 t91 t92 t93 t94 t95 t96 t97 t98 t99 t100 t101 t102 t103 t104 t105 t106 t107 t108 t109 t110 t111 t112 t113 t114 t115 t116 t117 t118 t119 t120 t121 t122 t123 t124 t125 t126 t127 t128 t129 t130 t131 t132 t133 t134 t135 t136 t137 t138 t139 t140 t141 t142 t143 t144 t145 t146 t147 t148 t149 t150 t151 t152 t153 t154 t155 t156 t157 t158 t159 t160 t161 t162 t163 t164 t165 t166 t167 t168 t169 t170 t171 t172 t173 t174 t175 t176 t177 t178 t179 t180 t181 t182 t183 t184 t185 t186 t187 t188 t189 t190 t191 t192 t193 t194 t195 t196 t197 t198 t199 t200 t201 t202 t203 t204 t205 t206 t207 t208 t209 t210 t211 t212 t213 t214 t215 t216 t217 t218 t219 t220 t221 t222 t223 t224 t225 t226 t227 t228 t229 t230 t231 t232 t233 t234 t235 t236 t237 t238 t239 t240 t241 t242 t243 t244 t245 t246 t247 t248 t249 t250 t251 t252 t253 t254 t255 t256 t257 t258 t259 t260 t261 t262 t263 t264 t265 t266 t267 t268 t269 t270 t271 t272 t273 t274 t275 t276 t277 t278 t279 t280 t281 t282 t283 t284 t285 t286 t287 t288 t289 t290 : Value} {ds : List Deferred} {K : Act → World → Prop} {Q : Exit → Act → World → Prop}
    (h : ∀ (x173 x174 x175 x176 x177 x178 x179 x180 x181 x182 x183 x184 x185 x186 x187 x188 x189 x190 x191 x192 x193 x194 x195 x196 x197 x198 x199 x200 x201 x202 x203 x204 x205 x206 x207 : Value) (w' : World), Sm w w' → K { tmps := #[t0, .slice (some ⟨gk, 0, none⟩) 64 ck, t2, t3, t4, t5, t6, t7, t8, t9, t10, .slice (some ⟨gw, 0, none⟩) 64 64, t12, t13, t14, t15, t16, .slice (some ⟨gv, 0, none⟩) 8 cv, .int .i64 (k : Int), .int .u32 (h4.toNat : Int), t20, .int .u32 (T.toNat : Int), t22, t23, t24, t25, t26, t27, t28, t29, t30, t31, t32, t33, t34, t35, t36, t37, t38, t39, t40, t41, t42, t43, t44, t45, t46, t47, t48, t49, t50, t51, t52, t53, t54, t55, t56, t57, t58, t59, t60, t61, t62, t63, t64, t65, t66, t67, t68, t69, t70, t71, t72, t73, t74, t75, t76, t77, t78, t79, t80, t81, t82, t83, t84, t85, t86, t87, t88, t89, t90, t91, t92, t93, t94, t95, t96, t97, t98, t99, t100, t101, t102, t103, t104, t105, t106, t107, t108, t109, t110, t111, t112, t113, t114, t115, t116, t117, t118, t119, t120, t121, t122, t123, t124, t125, t126, t127, t128, t129, t130, t131, t132, t133, t134, t135, t136, t137, t138, t139, t140, t141, t142, t143, t144, t145, t146, t147, t148, t149, t150, t151, t152, t153, t154, t155, t156, t157, t158, t159, t160, t161, t162, t163, t164, t165, t166, t167, t168, t169, t170, t171, t172, x173, x174, x175, x176, x177, x178, x179, x180, x181, x182, x183, x184, x185, x186, x187, x188, x189, x190, x191, x192, x193, x194, x195, x196, x197, x198, x199, x200, x201, x202, x203, x204, x205, x206, x207, t208, t209, t210, t211, t212, t213, t214, t215, t216, t217, t218, t219, t220, t221, t222, t223, t224, t225, t226, t227, t228, t229, t230, t231, t232, t233, t234, t235, t236, t237, t238, t239, t240, t241, t242, t243, t244, t245, t246, t247, t248, t249, t250, t251, t252, t253, t254, t255, t256, t257, t258, t259, t260, t261, t262, t263, t264, t265, t266, t267, t268, t269, t270, t271, t272, t273, t274, t275, t276, t277, t278, t279, t280, t281, t282, t283, t284, t285, t286, t287, t288, t289, t290], defers := ds } w') :
    (Code.region 32 (opsOf 32) true).wp Try.prog (Exit.then K Q) { tmps := #[t0, .slice (some ⟨gk, 0, none⟩) 64 ck, t2, t3, t4, t5, t6, t7, t8, t9, t10, .slice (some ⟨gw, 0, none⟩) 64 64, t12, t13, t14, t15, t16, .slice (some ⟨gv, 0, none⟩) 8 cv, .int .i64 (k : Int), .int .u32 (h4.toNat : Int), t20, t21, t22, t23, t24, t25, t26, t27, t28, t29, t30, t31, t32, t33, t34, t35, t36, t37, t38, t39, t40, t41, t42, t43, t44, t45, t46, t47, t48, t49, t50, t51, t52, t53, t54, t55, t56, t57, t58, t59, t60, t61, t62, t63, t64, t65, t66, t67, t68, t69, t70, t71, t72, t73, t74, t75, t76, t77, t78, t79, t80, t81, t82, t83, t84, t85, t86, t87, t88, t89, t90, t91, t92, t93, t94, t95, t96, t97, t98, t99, t100, t101, t102, t103, t104, t105, t106, t107, t108, t109, t110, t111, t112, t113, t114, t115, t116, t117, t118, t119, t120, t121, t122, t123, t124, t125, t126, t127, t128, t129, t130, t131, t132, t133, t134, t135, t136, t137, t138, t139, t140, t141, t142, t143, t144, t145, t146, t147, t148, t149, t150, t151, t152, t153, t154, t155, t156, t157, t158, t159, t160, t161, t162, t163, t164, t165, t166, t167, t168, t169, t170, t171, t172, t173, t174, t175, t176, t177, t178, t179, t180, t181, t182, t183, t184, t185, t186, t187, t188, t189, t190, t191, t192, t193, t194, t195, t196, t197, t198, t199, t200, t201, t202, t203, t204, t205, t206, t207, t208, t209, t210, t211, t212, t213, t214, t215, t216, t217, t218, t219, t220, t221, t222, t223, t224, t225, t226, t227, t228, t229, t230, t231, t232, t233, t234, t235, t236, t237, t238, t239, t240, t241, t242, t243, t244, t245, t246, t247, t248, t249, t250, t251, t252, t253, t254, t255, t256, t257, t258, t259, t260, t261, t262, t263, t264, t265, t266, t267, t268, t269, t270, t271, t272, t273, t274, t275, t276, t277, t278, t279, t280, t281, t282, t283, t284, t285, t286, t287, t288, t289, t290], defers := ds } w := by
  simp only [opsOf, findR, Try.f21, Option.bind_some, Option.or, Option.getD, Nat.reduceEqDiff, if_true, if_false, reduceIte]
  have R6 := Lib.hid (rr6 h4)
  have R11 := Lib.hid (rr11 h4)
  have R25 := Lib.hid (rr25 h4)
  have z1 := xorW (rorW h4 6) (rorW h4 11)
  have z2 := xorW (rorW h4 6 ^^^ rorW h4 11) (rorW h4 25)
  have z3 := andW h4 h5
  have z4 : bits .xor .u32 (4294967295 : Int) (h4.toNat : Int) = ((4294967295 ^^^ h4 : UInt32).toNat : Int) := xorW 4294967295 h4
  have z5 := andW (4294967295 ^^^ h4) h6
  have z6 := xorW (h4 &&& h5) ((4294967295 ^^^ h4) &&& h6)
  have hT : ((h7.toNat : Int) + ((S1 h4).toNat : Int) + ((h4 &&& h5 ^^^ (4294967295 ^^^ h4) &&& h6).toNat : Int) + (kk.toNat : Int) + (wn.toNat : Int)) % 4294967296 = ((h7 + S1 h4 + (h4 &&& h5 ^^^ (4294967295 ^^^ h4) &&& h6) + kk + wn).toNat : Int) := by
    rw [UInt32.toNat_add, UInt32.toNat_add, UInt32.toNat_add, UInt32.toNat_add]; omega
  rw [hTT] at hT
  clear hTT
  unfold S1 at hT
  generalize rorW h4 6 ^^^ rorW h4 11 ^^^ rorW h4 25 = s1 at z2 hT
  generalize rorW h4 6 ^^^ rorW h4 11 = p1 at z1 z2
  generalize h4 &&& h5 ^^^ (4294967295 ^^^ h4) &&& h6 = ch at z6 hT
  generalize h4 &&& h5 = q1 at z3 z6
  generalize (4294967295 ^^^ h4) &&& h6 = q2 at z5 z6
  generalize 4294967295 ^^^ h4 = cm at z4 z5
  generalize rorW h4 6 = r6 at z1 R6
  generalize rorW h4 11 = r11 at z1 R11
  generalize rorW h4 25 = r25 at z2 R25
  have hT2 : (((h7.toNat : Int) + (s1.toNat : Int) + (ch.toNat : Int) + (kk.toNat : Int)) % 4294967296 + (wn.toNat : Int)) % 4294967296 = (T.toNat : Int) := by omega
  have HH := Lib.hid h
  clear h
  refine wp_region_quiet_lit (by kernel_rfl) (by kernel_rfl) ?_
  iterate 4 go_big_quiet_step (fail)
  go_big_quiet_step (exact qd (R6.out _))
  go_big_quiet_step (fail)
  go_big_quiet_step (exact qd (R11.out _))
  iterate 2 go_big_quiet_step (fail)
  go_big_quiet_step (exact qd (R25.out _))
  iterate 26 go_big_quiet_step (fail)
  refine wpQuiet_nil ?_
  intro _ hw'
  obtain ⟨nq, hw''⟩ := hw'
  subst hw''
  rw [hT2]
  exact HH.out _ _ _ _ _ _ _ _ _ _ _ _ _ _ _ _ _ _ _ _ _ _ _ _ _ _ _ _ _ _ _ _ _ _ _ _ (Sm.drewN w nq)

set_option maxHeartbeats 4000000 in
set_option maxRecDepth 100000 in
theorem r33 (gv cv : Nat) (h0 h1 h2 U : UInt32) (hUU : S0 h0 + Maj h0 h1 h2 = U) (w : World) (i1 : (w.cell? ⟨gv, 1, none⟩ = some (.int .u32 (h1.toNat : Int)))) (i2 : (w.cell? ⟨gv, 2, none⟩ = some (.int .u32 (h2.toNat : Int))))
    {t0 t1 t2 t3 t4 t5 t6 t7 t8 t9 t10 t11 t12 t13 t14 t15 t16 t18 t19 t21 t22 t23 t24 t25 t26 t27 t28 t29 t30 t31 t32 t33 t34 t35 t36 t37 t38 t39 t40 t41 t42 t43 t44 t45 t46 t47 t48 t49 t50 t51 t52 t53 t54 t55 t56 t57 t58 t59 t60 t61 t62 t63 t64 t65 t66 t67 t68 t69 t70 t71 t72 t73 t74 t75 t76 t77 t78 t79 t80 t81 t82 t83 t84 t85 t86 t87 t88 t89 t90 t91 t92 t93 t94 t95 t96 t97 t98 t99 t100 t101 t102 t103 t104 t105 t106 t107 t108 t109 t110 t111 t112 t113 t114 t115 t116 t117 t118 t119 t120 t121 t122 t123 t124 t125 t126 t127 t128 t129 t130 t131 t132 t133 t134 t135 t136 t137 t138 t139 t140 t141 t142 t143 t144 t145 t146 t147 t148 t149 t150 t151 t152 t153 t154 t155 t156 t157 t158 t159 t160 t161 t162 t163 t164 t165 t166 t167 t168 t169 t170 t171 t172 t173 t174 t175 t176 t177 t178 t179 t180 t181 t182 t183 t184 t185 t186 t187 t188 t189 t190 t191 t192 t193 t194 t195 t196 t197 t198 t199 t200 t201 t202 t203 t204 t205 t206 t207 t208 t209 t210 t211 t212 t213 t214 t215 t216 t217 t218 t219 t220 t221 t222 t223 t224 t225 t226 t227 t228 t229 t230 t231 t232 t233 t234 t235 t236 t237 t238 t239 t240 t241 t242 t243 t244 t245 t246 t247 t248 t249 t250 t251 t252 t253 t254 t255 t256 t257 t258 t259 t260 t261 t262 t263 t264 t265 t266 t267 t268 t269 t270 t271 t272 t273 t274 t275 t276 t277 t278 t279 t280 t281 t282 t283 t284 t285 t286 t287 t288 t289 t290 : Value} {ds : List Deferred} {K : Act → World → Prop} {Q : Exit → Act → World → Prop}
    (h : ∀ (x208 x209 x210 x211 x212 x213 x214 x215 x216 x217 x218 x219 x220 x221 x222 x223 x224 x225 x226 x227 x228 x229 x230 x231 x232 x233 x234 x235 : Value) (w' : World), Sm w w' → K { tmps := #[t0, t1, t2, t3, t4, t5, t6, t7, t8, t9, t10, t11, t12, t13, t14, t15, t16, .slice (some ⟨gv, 0, none⟩) 8 cv, t18, t19, .int .u32 (h0.toNat : Int), t21, .int .u32 (U.toNat : Int), t23, t24, t25, t26, t27, t28, t29, t30, t31, t32, t33, t34, t35, t36, t37, t38, t39, t40, t41, t42, t43, t44, t45, t46, t47, t48, t49, t50, t51, t52, t53, t54, t55, t56, t57, t58, t59, t60, t61, t62, t63, t64, t65, t66, t67, t68, t69, t70, t71, t72, t73, t74, t75, t76, t77, t78, t79, t80, t81, t82, t83, t84, t85, t86, t87, t88, t89, t90, t91, t92, t93, t94, t95, t96, t97, t98, t99, t100, t101, t102, t103, t104, t105, t106, t107, t108, t109, t110, t111, t112, t113, t114, t115, t116, t117, t118, t119, t120, t121, t122, t123, t124, t125, t126, t127, t128, t129, t130, t131, t132, t133, t134, t135, t136, t137, t138, t139, t140, t141, t142, t143, t144, t145, t146, t147, t148, t149, t150, t151, t152, t153, t154, t155, t156, t157, t158, t159, t160, t161, t162, t163, t164, t165, t166, t167, t168, t169, t170, t171, t172, t173, t174, t175, t176, t177, t178, t179, t180, t181, t182, t183, t184, t185, t186, t187, t188, t189, t190, t191, t192, t193, t194, t195, t196, t197, t198, t199, t200, t201, t202, t203, t204, t205, t206, t207, x208, x209, x210, x211, x212, x213, x214, x215, x216, x217, x218, x219, x220, x221, x222, x223, x224, x225, x226, x227, x228, x229, x230, x231, x232, x233, x234, x235, t236, t237, t238, t239, t240, t241, t242, t243, t244, t245, t246, t247, t248, t249, t250, t251, t252, t253, t254, t255, t256, t257, t258, t259, t260, t261, t262, t263, t264, t265, t266, t267, t268, t269, t270, t271, t272, t273, t274, t275, t276, t277, t278, t279, t280, t281, t282, t283, t284, t285, t286, t287, t288, t289, t290], defers := ds } w') :
    (Code.region 33 (opsOf 33) true).wp Try.prog (Exit.then K Q) { tmps := #[t0, t1, t2, t3, t4, t5, t6, t7, t8, t9, t10, t11, t12, t13, t14, t15, t16, .slice (some ⟨gv, 0, none⟩) 8 cv, t18, t19, .int .u32 (h0.toNat : Int), t21, t22, t23, t24, t25, t26, t27, t28, t29, t30, t31, t32, t33, t34, t35, t36, t37, t38, t39, t40, t41, t42, t43, t44, t45, t46, t47, t48, t49, t50, t51, t52, t53, t54, t55, t56, t57, t58, t59, t60, t61, t62, t63, t64, t65, t66, t67, t68, t69, t70, t71, t72, t73, t74, t75, t76, t77, t78, t79, t80, t81, t82, t83, t84, t85, t86, t87, t88, t89, t90, t91, t92, t93, t94, t95, t96, t97, t98, t99, t100, t101, t102, t103, t104, t105, t106, t107, t108, t109, t110, t111, t112, t113, t114, t115, t116, t117, t118, t119, t120, t121, t122, t123, t124, t125, t126, t127, t128, t129, t130, t131, t132, t133, t134, t135, t136, t137, t138, t139, t140, t141, t142, t143, t144, t145, t146, t147, t148, t149, t150, t151, t152, t153, t154, t155, t156, t157, t158, t159, t160, t161, t162, t163, t164, t165, t166, t167, t168, t169, t170, t171, t172, t173, t174, t175, t176, t177, t178, t179, t180, t181, t182, t183, t184, t185, t186, t187, t188, t189, t190, t191, t192, t193, t194, t195, t196, t197, t198, t199, t200, t201, t202, t203, t204, t205, t206, t207, t208, t209, t210, t211, t212, t213, t214, t215, t216, t217, t218, t219, t220, t221, t222, t223, t224, t225, t226, t227, t228, t229, t230, t231, t232, t233, t234, t235, t236, t237, t238, t239, t240, t241, t242, t243, t244, t245, t246, t247, t248, t249, t250, t251, t252, t253, t254, t255, t256, t257, t258, t259, t260, t261, t262, t263, t264, t265, t266, t267, t268, t269, t270, t271, t272, t273, t274, t275, t276, t277, t278, t279, t280, t281, t282, t283, t284, t285, t286, t287, t288, t289, t290], defers := ds } w := by
  simp only [opsOf, findR, Try.f21, Option.bind_some, Option.or, Option.getD, Nat.reduceEqDiff, if_true, if_false, reduceIte]
  have R2 := Lib.hid (rr2 h0)
  have R13 := Lib.hid (rr13 h0)
  have R22 := Lib.hid (rr22 h0)
  have y1 := xorW (rorW h0 2) (rorW h0 13)
  have y2 := xorW (rorW h0 2 ^^^ rorW h0 13) (rorW h0 22)
  have y3 := andW h0 h1
  have y4 := andW h0 h2
  have y5 := xorW (h0 &&& h1) (h0 &&& h2)
  have y6 := andW h1 h2
  have y7 := xorW (h0 &&& h1 ^^^ h0 &&& h2) (h1 &&& h2)
  have hU : (((S0 h0).toNat : Int) + ((Maj h0 h1 h2).toNat : Int)) % 4294967296 = ((S0 h0 + Maj h0 h1 h2).toNat : Int) := by
    rw [UInt32.toNat_add]; omega
  rw [hUU] at hU
  clear hUU
  unfold S0 Maj at hU
  generalize rorW h0 2 ^^^ rorW h0 13 ^^^ rorW h0 22 = s0 at y2 hU
  generalize rorW h0 2 ^^^ rorW h0 13 = p0 at y1 y2
  generalize h0 &&& h1 ^^^ h0 &&& h2 ^^^ h1 &&& h2 = mj at y7 hU
  generalize h0 &&& h1 ^^^ h0 &&& h2 = m3 at y5 y7
  generalize h0 &&& h1 = m1 at y3 y5
  generalize h0 &&& h2 = m2 at y4 y5
  generalize h1 &&& h2 = m4 at y6 y7
  generalize rorW h0 2 = r2 at y1 R2
  generalize rorW h0 13 = r13 at y1 R13
  generalize rorW h0 22 = r22 at y2 R22
  have HH := Lib.hid h
  clear h
  refine wp_region_quiet_lit (by kernel_rfl) (by kernel_rfl) ?_
  go_big_quiet_step (fail)
  go_big_quiet_step (exact qd (R2.out _))
  go_big_quiet_step (fail)
  go_big_quiet_step (exact qd (R13.out _))
  iterate 2 go_big_quiet_step (fail)
  go_big_quiet_step (exact qd (R22.out _))
  iterate 22 go_big_quiet_step (fail)
  refine wpQuiet_nil ?_
  intro _ hw'
  obtain ⟨nq, hw''⟩ := hw'
  subst hw''
  rw [hU]
  exact HH.out _ _ _ _ _ _ _ _ _ _ _ _ _ _ _ _ _ _ _ _ _ _ _ _ _ _ _ _ _ (Sm.drewN w nq)

set_option maxHeartbeats 4000000 in
set_option maxRecDepth 100000 in
theorem r34 (gv cv : Nat) (h0 h1 h2 h3 h4 h5 h6 T U : UInt32) (w : World) (i0 : (w.cell? ⟨gv, 0, none⟩ = some (.int .u32 (h0.toNat : Int)))) (i1 : (w.cell? ⟨gv, 1, none⟩ = some (.int .u32 (h1.toNat : Int)))) (i2 : (w.cell? ⟨gv, 2, none⟩ = some (.int .u32 (h2.toNat : Int)))) (i3 : (w.cell? ⟨gv, 3, none⟩ = some (.int .u32 (h3.toNat : Int)))) (i4 : (w.cell? ⟨gv, 4, none⟩ = some (.int .u32 (h4.toNat : Int)))) (i5 : (w.cell? ⟨gv, 5, none⟩ = some (.int .u32 (h5.toNat : Int)))) (i6 : (w.cell? ⟨gv, 6, none⟩ = some (.int .u32 (h6.toNat : Int))))
    {t0 t1 t2 t3 t4 t5 t6 t7 t8 t9 t10 t11 t12 t13 t14 t15 t16 t18 t19 t20 t23 t24 t25 t26 t27 t28 t29 t30 t31 t32 t33 t34 t35 t36 t37 t38 t39 t40 t41 t42 t43 t44 t45 t46 t47 t48 t49 t50 t51 t52 t53 t54 t55 t56 t57 t58 t59 t60 t61 t62 t63 t64 t65 t66 t67 t68 t69 t70 t71 t72 t73 t74 t75 t76 t77 t78 t79 t80 t81 t82 t83 t84 t85 t86 t87 t88 t89 t90 t91 t92 t93 t94 t95 t96 t97 t98 t99 t100 t101 t102 t103 t104 t105 t106 t107 t108 t109 t110 t111 t112 t113 t114 t115 t116 t117 t118 t119 t120 t121 t122 t123 t124 t125 t126 t127 t128 t129 t130 t131 t132 t133 t134 t135 t136 t137 t138 t139 t140 t141 t142 t143 t144 t145 t146 t147 t148 t149 t150 t151 t152 t153 t154 t155 t156 t157 t158 t159 t160 t161 t162 t163 t164 t165 t166 t167 t168 t169 t170 t171 t172 t173 t174 t175 t176 t177 t178 t179 t180 t181 t182 t183 t184 t185 t186 t187 t188 t189 t190 t191 t192 t193 t194 t195 t196 t197 t198 t199 t200 t201 t202 t203 t204 t205 t206 t207 t208 t209 t210 t211 t212 t213 t214 t215 t216 t217 t218 t219 t220 t221 t222 t223 t224 t225 t226 t227 t228 t229 t230 t231 t232 t233 t234 t235 t236 t237 t238 t239 t240 t241 t242 t243 t244 t245 t246 t247 t248 t249 t250 t251 t252 t253 t254 t255 t256 t257 t258 t259 t260 t261 t262 t263 t264 t265 t266 t267 t268 t269 t270 t271 t272 t273 t274 t275 t276 t277 t278 t279 t280 t281 t282 t283 t284 t285 t286 t287 t288 t289 t290 : Value} {ds : List Deferred} {Q : Exit → Act → World → Prop}
    (h : ∀ (x236 x237 x238 x239 x240 x241 x242 x243 x244 x245 x246 x247 x248 x249 x250 x251 x252 x253 x254 x255 x256 x257 x258 x259 x260 x261 x262 : Value) (w' : World), w'.heap[w.heap.size]? = some (.cells (ws [T + U, h0, h1, h2, h3 + T, h4, h5, h6]) 35 (0, 0)) → Below w.heap.size w w' → w.heap.size < w'.heap.size → Q .normal { tmps := #[t0, t1, t2, t3, t4, t5, t6, t7, t8, t9, t10, t11, t12, t13, t14, t15, t16, .slice (some ⟨w.heap.size, 0, none⟩) 8 8, t18, t19, t20, .int .u32 (T.toNat : Int), .int .u32 (U.toNat : Int), t23, t24, t25, t26, t27, t28, t29, t30, t31, t32, t33, t34, t35, t36, t37, t38, t39, t40, t41, t42, t43, t44, t45, t46, t47, t48, t49, t50, t51, t52, t53, t54, t55, t56, t57, t58, t59, t60, t61, t62, t63, t64, t65, t66, t67, t68, t69, t70, t71, t72, t73, t74, t75, t76, t77, t78, t79, t80, t81, t82, t83, t84, t85, t86, t87, t88, t89, t90, t91, t92, t93, t94, t95, t96, t97, t98, t99, t100, t101, t102, t103, t104, t105, t106, t107, t108, t109, t110, t111, t112, t113, t114, t115, t116, t117, t118, t119, t120, t121, t122, t123, t124, t125, t126, t127, t128, t129, t130, t131, t132, t133, t134, t135, t136, t137, t138, t139, t140, t141, t142, t143, t144, t145, t146, t147, t148, t149, t150, t151, t152, t153, t154, t155, t156, t157, t158, t159, t160, t161, t162, t163, t164, t165, t166, t167, t168, t169, t170, t171, t172, t173, t174, t175, t176, t177, t178, t179, t180, t181, t182, t183, t184, t185, t186, t187, t188, t189, t190, t191, t192, t193, t194, t195, t196, t197, t198, t199, t200, t201, t202, t203, t204, t205, t206, t207, t208, t209, t210, t211, t212, t213, t214, t215, t216, t217, t218, t219, t220, t221, t222, t223, t224, t225, t226, t227, t228, t229, t230, t231, t232, t233, t234, t235, x236, x237, x238, x239, x240, x241, x242, x243, x244, x245, x246, x247, x248, x249, x250, x251, x252, x253, x254, x255, x256, x257, x258, x259, x260, x261, x262, t263, t264, t265, t266, t267, t268, t269, t270, t271, t272, t273, t274, t275, t276, t277, t278, t279, t280, t281, t282, t283, t284, t285, t286, t287, t288, t289, t290], defers := ds } w') :
    (Code.region 34 (opsOf 34) true).wp Try.prog Q { tmps := #[t0, t1, t2, t3, t4, t5, t6, t7, t8, t9, t10, t11, t12, t13, t14, t15, t16, .slice (some ⟨gv, 0, none⟩) 8 cv, t18, t19, t20, .int .u32 (T.toNat : Int), .int .u32 (U.toNat : Int), t23, t24, t25, t26, t27, t28, t29, t30, t31, t32, t33, t34, t35, t36, t37, t38, t39, t40, t41, t42, t43, t44, t45, t46, t47, t48, t49, t50, t51, t52, t53, t54, t55, t56, t57, t58, t59, t60, t61, t62, t63, t64, t65, t66, t67, t68, t69, t70, t71, t72, t73, t74, t75, t76, t77, t78, t79, t80, t81, t82, t83, t84, t85, t86, t87, t88, t89, t90, t91, t92, t93, t94, t95, t96, t97, t98, t99, t100, t101, t102, t103, t104, t105, t106, t107, t108, t109, t110, t111, t112, t113, t114, t115, t116, t117, t118, t119, t120, t121, t122, t123, t124, t125, t126, t127, t128, t129, t130, t131, t132, t133, t134, t135, t136, t137, t138, t139, t140, t141, t142, t143, t144, t145, t146, t147, t148, t149, t150, t151, t152, t153, t154, t155, t156, t157, t158, t159, t160, t161, t162, t163, t164, t165, t166, t167, t168, t169, t170, t171, t172, t173, t174, t175, t176, t177, t178, t179, t180, t181, t182, t183, t184, t185, t186, t187, t188, t189, t190, t191, t192, t193, t194, t195, t196, t197, t198, t199, t200, t201, t202, t203, t204, t205, t206, t207, t208, t209, t210, t211, t212, t213, t214, t215, t216, t217, t218, t219, t220, t221, t222, t223, t224, t225, t226, t227, t228, t229, t230, t231, t232, t233, t234, t235, t236, t237, t238, t239, t240, t241, t242, t243, t244, t245, t246, t247, t248, t249, t250, t251, t252, t253, t254, t255, t256, t257, t258, t259, t260, t261, t262, t263, t264, t265, t266, t267, t268, t269, t270, t271, t272, t273, t274, t275, t276, t277, t278, t279, t280, t281, t282, t283, t284, t285, t286, t287, t288, t289, t290], defers := ds } w := by
  simp only [opsOf, findR, Try.f21, Option.bind_some, Option.or, Option.getD, Nat.reduceEqDiff, if_true, if_false, reduceIte]
  have hF := addW' T U
  have hE := addW' h3 T
  have hWS : ws [T + U, h0, h1, h2, h3 + T, h4, h5, h6] = #[.int .u32 ((T + U).toNat : Int), .int .u32 (h0.toNat : Int), .int .u32 (h1.toNat : Int), .int .u32 (h2.toNat : Int), .int .u32 ((h3 + T).toNat : Int), .int .u32 (h4.toNat : Int), .int .u32 (h5.toNat : Int), .int .u32 (h6.toNat : Int)] := rfl
  rw [hWS] at h
  clear hWS
  generalize T + U = F at hF h
  generalize h3 + T = E at hE h
  have HH := Lib.hid h
  clear h
  refine wp_region_quiet_tail 26 mixed (by kernel_rfl) ?_
  simp only [List.take_succ_cons, List.take_zero, List.drop_succ_cons, List.drop_zero]
  iterate 26 go_big_quiet_step (fail)
  refine wpQuiet_nil ?_
  intro _ hw'
  obtain ⟨nq, hw''⟩ := hw'
  subst hw''
  go_wp2_with fail
  exact HH.out _ _ _ _ _ _ _ _ _ _ _ _ _ _ _ _ _ _ _ _ _ _ _ _ _ _ _ _ (Go.heap_alloc_new (w.drewN nq) _) (((Sm.drewN w nq).below (Below.refl _ _)).alloc (Nat.le_refl _) _) (by rw [World.size_alloc]; exact Nat.lt_succ_self _)

set_option maxHeartbeats 4000000 in
set_option maxRecDepth 100000 in
theorem r38 (gv cv gh ch k : Nat) (a b : UInt32) (hk : k < 8) (w : World) (ia : w.cell? ⟨gh, k, none⟩ = some (.int .u32 (a.toNat : Int))) (ib : w.cell? ⟨gv, k, none⟩ = some (.int .u32 (b.toNat : Int))) (fh : w.frozen? ⟨gh, k, none⟩ = false)
    {t0 t1 t2 t3 t4 t5 t6 t8 t9 t10 t11 t12 t13 t14 t15 t16 t18 t19 t20 t21 t22 t24 t25 t26 t27 t28 t29 t30 t31 t32 t33 t34 t35 t36 t37 t38 t39 t40 t41 t42 t43 t44 t45 t46 t47 t48 t49 t50 t51 t52 t53 t54 t55 t56 t57 t58 t59 t60 t61 t62 t63 t64 t65 t66 t67 t68 t69 t70 t71 t72 t73 t74 t75 t76 t77 t78 t79 t80 t81 t82 t83 t84 t85 t86 t87 t88 t89 t90 t91 t92 t93 t94 t95 t96 t97 t98 t99 t100 t101 t102 t103 t104 t105 t106 t107 t108 t109 t110 t111 t112 t113 t114 t115 t116 t117 t118 t119 t120 t121 t122 t123 t124 t125 t126 t127 t128 t129 t130 t131 t132 t133 t134 t135 t136 t137 t138 t139 t140 t141 t142 t143 t144 t145 t146 t147 t148 t149 t150 t151 t152 t153 t154 t155 t156 t157 t158 t159 t160 t161 t162 t163 t164 t165 t166 t167 t168 t169 t170 t171 t172 t173 t174 t175 t176 t177 t178 t179 t180 t181 t182 t183 t184 t185 t186 t187 t188 t189 t190 t191 t192 t193 t194 t195 t196 t197 t198 t199 t200 t201 t202 t203 t204 t205 t206 t207 t208 t209 t210 t211 t212 t213 t214 t215 t216 t217 t218 t219 t220 t221 t222 t223 t224 t225 t226 t227 t228 t229 t230 t231 t232 t233 t234 t235 t236 t237 t238 t239 t240 t241 t242 t243 t244 t245 t246 t247 t248 t249 t250 t251 t252 t253 t254 t255 t256 t257 t258 t259 t260 t261 t262 t263 t264 t265 t266 t267 t268 t269 t270 t271 t272 t273 t274 t275 t276 t277 t278 t279 t280 t281 t282 t283 t284 t285 t286 t287 t288 t289 t290 : Value} {ds : List Deferred} {Q : Exit → Act → World → Prop}
    (h : ∀ (x267 x268 x269 x270 x271 x272 x273 x274 x275 x276 : Value) (w' wm : World), Sm w wm → w' = wm.setCell ⟨gh, k, none⟩ (.int .u32 ((a + b).toNat : Int)) → Q .normal { tmps := #[t0, t1, t2, t3, t4, t5, t6, .slice (some ⟨gh, 0, none⟩) 8 ch, t8, t9, t10, t11, t12, t13, t14, t15, t16, .slice (some ⟨gv, 0, none⟩) 8 cv, t18, t19, t20, t21, t22, .int .i64 (k : Int), t24, t25, t26, t27, t28, t29, t30, t31, t32, t33, t34, t35, t36, t37, t38, t39, t40, t41, t42, t43, t44, t45, t46, t47, t48, t49, t50, t51, t52, t53, t54, t55, t56, t57, t58, t59, t60, t61, t62, t63, t64, t65, t66, t67, t68, t69, t70, t71, t72, t73, t74, t75, t76, t77, t78, t79, t80, t81, t82, t83, t84, t85, t86, t87, t88, t89, t90, t91, t92, t93, t94, t95, t96, t97, t98, t99, t100, t101, t102, t103, t104, t105, t106, t107, t108, t109, t110, t111, t112, t113, t114, t115, t116, t117, t118, t119, t120, t121, t122, t123, t124, t125, t126, t127, t128, t129, t130, t131, t132, t133, t134, t135, t136, t137, t138, t139, t140, t141, t142, t143, t144, t145, t146, t147, t148, t149, t150, t151, t152, t153, t154, t155, t156, t157, t158, t159, t160, t161, t162, t163, t164, t165, t166, t167, t168, t169, t170, t171, t172, t173, t174, t175, t176, t177, t178, t179, t180, t181, t182, t183, t184, t185, t186, t187, t188, t189, t190, t191, t192, t193, t194, t195, t196, t197, t198, t199, t200, t201, t202, t203, t204, t205, t206, t207, t208, t209, t210, t211, t212, t213, t214, t215, t216, t217, t218, t219, t220, t221, t222, t223, t224, t225, t226, t227, t228, t229, t230, t231, t232, t233, t234, t235, t236, t237, t238, t239, t240, t241, t242, t243, t244, t245, t246, t247, t248, t249, t250, t251, t252, t253, t254, t255, t256, t257, t258, t259, t260, t261, t262, t263, t264, t265, t266, x267, x268, x269, x270, x271, x272, x273, x274, x275, x276, t277, t278, t279, t280, t281, t282, t283, t284, t285, t286, t287, t288, t289, t290], defers := ds } w') :
    (Code.region 38 (opsOf 38) true).wp Try.prog Q { tmps := #[t0, t1, t2, t3, t4, t5, t6, .slice (some ⟨gh, 0, none⟩) 8 ch, t8, t9, t10, t11, t12, t13, t14, t15, t16, .slice (some ⟨gv, 0, none⟩) 8 cv, t18, t19, t20, t21, t22, .int .i64 (k : Int), t24, t25, t26, t27, t28, t29, t30, t31, t32, t33, t34, t35, t36, t37, t38, t39, t40, t41, t42, t43, t44, t45, t46, t47, t48, t49, t50, t51, t52, t53, t54, t55, t56, t57, t58, t59, t60, t61, t62, t63, t64, t65, t66, t67, t68, t69, t70, t71, t72, t73, t74, t75, t76, t77, t78, t79, t80, t81, t82, t83, t84, t85, t86, t87, t88, t89, t90, t91, t92, t93, t94, t95, t96, t97, t98, t99, t100, t101, t102, t103, t104, t105, t106, t107, t108, t109, t110, t111, t112, t113, t114, t115, t116, t117, t118, t119, t120, t121, t122, t123, t124, t125, t126, t127, t128, t129, t130, t131, t132, t133, t134, t135, t136, t137, t138, t139, t140, t141, t142, t143, t144, t145, t146, t147, t148, t149, t150, t151, t152, t153, t154, t155, t156, t157, t158, t159, t160, t161, t162, t163, t164, t165, t166, t167, t168, t169, t170, t171, t172, t173, t174, t175, t176, t177, t178, t179, t180, t181, t182, t183, t184, t185, t186, t187, t188, t189, t190, t191, t192, t193, t194, t195, t196, t197, t198, t199, t200, t201, t202, t203, t204, t205, t206, t207, t208, t209, t210, t211, t212, t213, t214, t215, t216, t217, t218, t219, t220, t221, t222, t223, t224, t225, t226, t227, t228, t229, t230, t231, t232, t233, t234, t235, t236, t237, t238, t239, t240, t241, t242, t243, t244, t245, t246, t247, t248, t249, t250, t251, t252, t253, t254, t255, t256, t257, t258, t259, t260, t261, t262, t263, t264, t265, t266, t267, t268, t269, t270, t271, t272, t273, t274, t275, t276, t277, t278, t279, t280, t281, t282, t283, t284, t285, t286, t287, t288, t289, t290], defers := ds } w := by
  simp only [opsOf, findR, Try.f21, Option.bind_some, Option.or, Option.getD, Nat.reduceEqDiff, if_true, if_false, reduceIte]
  have hA := addW a b
  have HH := Lib.hid (fun x267 x268 x269 x270 x271 x272 x273 x274 x275 x276 w' wm h1 h2 => h x267 x268 x269 x270 x271 x272 x273 x274 x275 x276 w' wm h1 h2)
  clear h
  generalize a + b = c at hA HH
  refine wp_region_quiet_tail 10 mixed (by kernel_rfl) ?_
  simp only [List.take_succ_cons, List.take_zero, List.drop_succ_cons, List.drop_zero]
  iterate 10 go_big_quiet_step (fail)
  refine wpQuiet_nil ?_
  intro _ hw'
  obtain ⟨nq, hw''⟩ := hw'
  subst hw''
  have f2 : (w.drewN nq).frozen? ⟨gh, k, none⟩ = false := fh
  have c2 : (w.drewN nq).cell? ⟨gh, k, none⟩ = some (.int .u32 (a.toNat : Int)) := ia
  go_wp2_with fail
  exact HH.out _ _ _ _ _ _ _ _ _ _ _ _ (Sm.drewN w nq) rfl

set_option maxHeartbeats 4000000 in
set_option maxRecDepth 100000 in
theorem r21 (gb cb gw k q n : Nat) (y0 y1 y2 y3 : UInt8) (old : Value) (hk : k < 64) (hq : q + 3 < n) (hn : n ≤ 140737488355328) (w : World) (c0 : w.cell? ⟨gb, q, none⟩ = some (.int .u8 (y0.toNat : Int))) (c1 : w.cell? ⟨gb, q + 1, none⟩ = some (.int .u8 (y1.toNat : Int))) (c2 : w.cell? ⟨gb, q + 2, none⟩ = some (.int .u8 (y2.toNat : Int))) (c3 : w.cell? ⟨gb, q + 3, none⟩ = some (.int .u8 (y3.toNat : Int))) (ck : w.cell? ⟨gw, k, none⟩ = some old) (fk : w.frozen? ⟨gw, k, none⟩ = false)
    {t0 t1 t2 t3 t4 t6 t7 t8 t9 t10 t14 t15 t16 t17 t18 t19 t20 t21 t22 t23 t24 t25 t26 t27 t28 t29 t30 t31 t32 t33 t34 t35 t36 t37 t38 t39 t40 t41 t42 t43 t44 t45 t46 t47 t48 t49 t50 t51 t52 t53 t54 t55 t56 t57 t58 t59 t60 t61 t62 t63 t64 t65 t66 t67 t68 t69 t70 t71 t72 t73 t74 t75 t76 t77 t78 t79 t80 t81 t82 t83 t84 t85 t86 t87 t88 t89 t90 t91 t92 t93 t94 t95 t96 t97 t98 t99 t100 t101 t102 t103 t104 t105 t106 t107 t108 t109 t110 t111 t112 t113 t114 t115 t116 t117 t118 t119 t120 t121 t122 t123 t124 t125 t126 t127 t128 t129 t130 t131 t132 t133 t134 t135 t136 t137 t138 t139 t140 t141 t142 t143 t144 t145 t146 t147 t148 t149 t150 t151 t152 t153 t154 t155 t156 t157 t158 t159 t160 t161 t162 t163 t164 t165 t166 t167 t168 t169 t170 t171 t172 t173 t174 t175 t176 t177 t178 t179 t180 t181 t182 t183 t184 t185 t186 t187 t188 t189 t190 t191 t192 t193 t194 t195 t196 t197 t198 t199 t200 t201 t202 t203 t204 t205 t206 t207 t208 t209 t210 t211 t212 t213 t214 t215 t216 t217 t218 t219 t220 t221 t222 t223 t224 t225 t226 t227 t228 t229 t230 t231 t232 t233 t234 t235 t236 t237 t238 t239 t240 t241 t242 t243 t244 t245 t246 t247 t248 t249 t250 t251 t252 t253 t254 t255 t256 t257 t258 t259 t260 t261 t262 t263 t264 t265 t266 t267 t268 t269 t270 t271 t272 t273 t274 t275 t276 t277 t278 t279 t280 t281 t282 t283 t284 t285 t286 t287 t288 t289 t290 : Value} {ds : List Deferred} {Q : Exit → Act → World → Prop}
    (h : ∀ (x82 x83 x84 x85 x86 x87 x88 x89 x90 x91 x92 x93 x94 x95 x96 x97 x98 x99 x100 x101 x102 x103 x104 x105 x106 x107 x108 x109 x110 x111 x112 x113 : Value) (w' wm : World), Sm w wm → w' = wm.setCell ⟨gw, k, none⟩ (.int .u32 ((word4 y0 y1 y2 y3).toNat : Int)) → Q .normal { tmps := #[t0, t1, t2, t3, t4, .slice (some ⟨gb, 0, none⟩) n cb, t6, t7, t8, t9, t10, .slice (some ⟨gw, 0, none⟩) 64 64, .int .i64 (k : Int), .int .i64 (q : Int), t14, t15, t16, t17, t18, t19, t20, t21, t22, t23, t24, t25, t26, t27, t28, t29, t30, t31, t32, t33, t34, t35, t36, t37, t38, t39, t40, t41, t42, t43, t44, t45, t46, t47, t48, t49, t50, t51, t52, t53, t54, t55, t56, t57, t58, t59, t60, t61, t62, t63, t64, t65, t66, t67, t68, t69, t70, t71, t72, t73, t74, t75, t76, t77, t78, t79, t80, t81, x82, x83, x84, x85, x86, x87, x88, x89, x90, x91, x92, x93, x94, x95, x96, x97, x98, x99, x100, x101, x102, x103, x104, x105, x106, x107, x108, x109, x110, x111, x112, x113, t114, t115, t116, t117, t118, t119, t120, t121, t122, t123, t124, t125, t126, t127, t128, t129, t130, t131, t132, t133, t134, t135, t136, t137, t138, t139, t140, t141, t142, t143, t144, t145, t146, t147, t148, t149, t150, t151, t152, t153, t154, t155, t156, t157, t158, t159, t160, t161, t162, t163, t164, t165, t166, t167, t168, t169, t170, t171, t172, t173, t174, t175, t176, t177, t178, t179, t180, t181, t182, t183, t184, t185, t186, t187, t188, t189, t190, t191, t192, t193, t194, t195, t196, t197, t198, t199, t200, t201, t202, t203, t204, t205, t206, t207, t208, t209, t210, t211, t212, t213, t214, t215, t216, t217, t218, t219, t220, t221, t222, t223, t224, t225, t226, t227, t228, t229, t230, t231, t232, t233, t234, t235, t236, t237, t238, t239, t240, t241, t242, t243, t244, t245, t246, t247, t248, t249, t250, t251, t252, t253, t254, t255, t256, t257, t258, t259, t260, t261, t262, t263, t264, t265, t266, t267, t268, t269, t270, t271, t272, t273, t274, t275, t276, t277, t278, t279, t280, t281, t282, t283, t284, t285, t286, t287, t288, t289, t290], defers := ds } w') :
    (Code.region 21 (opsOf 21) true).wp Try.prog Q { tmps := #[t0, t1, t2, t3, t4, .slice (some ⟨gb, 0, none⟩) n cb, t6, t7, t8, t9, t10, .slice (some ⟨gw, 0, none⟩) 64 64, .int .i64 (k : Int), .int .i64 (q : Int), t14, t15, t16, t17, t18, t19, t20, t21, t22, t23, t24, t25, t26, t27, t28, t29, t30, t31, t32, t33, t34, t35, t36, t37, t38, t39, t40, t41, t42, t43, t44, t45, t46, t47, t48, t49, t50, t51, t52, t53, t54, t55, t56, t57, t58, t59, t60, t61, t62, t63, t64, t65, t66, t67, t68, t69, t70, t71, t72, t73, t74, t75, t76, t77, t78, t79, t80, t81, t82, t83, t84, t85, t86, t87, t88, t89, t90, t91, t92, t93, t94, t95, t96, t97, t98, t99, t100, t101, t102, t103, t104, t105, t106, t107, t108, t109, t110, t111, t112, t113, t114, t115, t116, t117, t118, t119, t120, t121, t122, t123, t124, t125, t126, t127, t128, t129, t130, t131, t132, t133, t134, t135, t136, t137, t138, t139, t140, t141, t142, t143, t144, t145, t146, t147, t148, t149, t150, t151, t152, t153, t154, t155, t156, t157, t158, t159, t160, t161, t162, t163, t164, t165, t166, t167, t168, t169, t170, t171, t172, t173, t174, t175, t176, t177, t178, t179, t180, t181, t182, t183, t184, t185, t186, t187, t188, t189, t190, t191, t192, t193, t194, t195, t196, t197, t198, t199, t200, t201, t202, t203, t204, t205, t206, t207, t208, t209, t210, t211, t212, t213, t214, t215, t216, t217, t218, t219, t220, t221, t222, t223, t224, t225, t226, t227, t228, t229, t230, t231, t232, t233, t234, t235, t236, t237, t238, t239, t240, t241, t242, t243, t244, t245, t246, t247, t248, t249, t250, t251, t252, t253, t254, t255, t256, t257, t258, t259, t260, t261, t262, t263, t264, t265, t266, t267, t268, t269, t270, t271, t272, t273, t274, t275, t276, t277, t278, t279, t280, t281, t282, t283, t284, t285, t286, t287, t288, t289, t290], defers := ds } w := by
  simp only [opsOf, findR, Try.f21, Option.bind_some, Option.or, Option.getD, Nat.reduceEqDiff, if_true, if_false, reduceIte]
  obtain ⟨n1, n2, hn1, hn2, j1, j2, j3⟩ := join4' y0 y1 y2 y3
  have hy0 := y0.toNat_lt
  have hy1 := y1.toNat_lt
  have hy2 := y2.toNat_lt
  have hy3 := y3.toNat_lt
  have t1 : ((q : Int) + 1).toNat = q + 1 := by omega
  have t2 : ((q : Int) + 2).toNat = q + 2 := by omega
  have t3 : ((q : Int) + 3).toNat = q + 3 := by omega
  have HH := Lib.hid (fun x82 x83 x84 x85 x86 x87 x88 x89 x90 x91 x92 x93 x94 x95 x96 x97 x98 x99 x100 x101 x102 x103 x104 x105 x106 x107 x108 x109 x110 x111 x112 x113 w' wm h1 h2 => h x82 x83 x84 x85 x86 x87 x88 x89 x90 x91 x92 x93 x94 x95 x96 x97 x98 x99 x100 x101 x102 x103 x104 x105 x106 x107 x108 x109 x110 x111 x112 x113 w' wm h1 h2)
  clear h
  generalize word4 y0 y1 y2 y3 = Y at j3 HH
  refine wp_region_quiet_tail 32 mixed (by kernel_rfl) ?_
  simp only [List.take_succ_cons, List.take_zero, List.drop_succ_cons, List.drop_zero]
  iterate 32 go_big_quiet_step (fail)
  refine wpQuiet_nil ?_
  intro _ hw'
  obtain ⟨nq, hw''⟩ := hw'
  subst hw''
  have f2 : (w.drewN nq).frozen? ⟨gw, k, none⟩ = false := fk
  have c9 : (w.drewN nq).cell? ⟨gw, k, none⟩ = some old := ck
  go_wp2_with fail
  exact HH.out _ _ _ _ _ _ _ _ _ _ _ _ _ _ _ _ _ _ _ _ _ _ _ _ _ _ _ _ _ _ _ _ _ _ (Sm.drewN w nq) rfl

set_option maxHeartbeats 4000000 in
set_option maxRecDepth 100000 in
theorem r25 (gw k : Nat) (a15 a2 : UInt32) (hk : 16 ≤ k) (hk2 : k < 64) (w : World) (c15 : w.cell? ⟨gw, k - 15, none⟩ = some (.int .u32 (a15.toNat : Int))) (c2 : w.cell? ⟨gw, k - 2, none⟩ = some (.int .u32 (a2.toNat : Int)))
    {t0 t1 t2 t3 t4 t5 t6 t7 t8 t9 t10 t12 t13 t15 t16 t17 t18 t19 t20 t21 t22 t23 t24 t25 t26 t27 t28 t29 t30 t31 t32 t33 t34 t35 t36 t37 t38 t39 t40 t41 t42 t43 t44 t45 t46 t47 t48 t49 t50 t51 t52 t53 t54 t55 t56 t57 t58 t59 t60 t61 t62 t63 t64 t65 t66 t67 t68 t69 t70 t71 t72 t73 t74 t75 t76 t77 t78 t79 t80 t81 t82 t83 t84 t85 t86 t87 t88 t89 t90 t91 t92 t93 t94 t95 t96 t97 t98 t99 t100 t101 t102 t103 t104 t105 t106 t107 t108 t109 t110 t111 t112 t113 t114 t115 t116 t117 t118 t119 t120 t121 t122 t123 t124 t125 t126 t127 t128 t129 t130 t131 t132 t133 t134 t135 t136 t137 t138 t139 t140 t141 t142 t143 t144 t145 t146 t147 t148 t149 t150 t151 t152 t153 t154 t155 t156 t157 t158 t159 t160 t161 t162 t163 t164 t165 t166 t167 t168 t169 t170 t171 t172 t173 t174 t175 t176 t177 t178 t179 t180 t181 t182 t183 t184 t185 t186 t187 t188 t189 t190 t191 t192 t193 t194 t195 t196 t197 t198 t199 t200 t201 t202 t203 t204 t205 t206 t207 t208 t209 t210 t211 t212 t213 t214 t215 t216 t217 t218 t219 t220 t221 t222 t223 t224 t225 t226 t227 t228 t229 t230 t231 t232 t233 t234 t235 t236 t237 t238 t239 t240 t241 t242 t243 t244 t245 t246 t247 t248 t249 t250 t251 t252 t253 t254 t255 t256 t257 t258 t259 t260 t261 t262 t263 t264 t265 t266 t267 t268 t269 t270 t271 t272 t273 t274 t275 t276 t277 t278 t279 t280 t281 t282 t283 t284 t285 t286 t287 t288 t289 t290 : Value} {ds : List Deferred} {K : Act → World → Prop} {Q : Exit → Act → World → Prop}
    (h : ∀ (x118 x119 x120 x121 x122 x123 x124 x125 x126 x127 : Value) (w' : World), Sm w w' → K { tmps := #[t0, t1, t2, t3, t4, t5, t6, t7, t8, t9, t10, .slice (some ⟨gw, 0, none⟩) 64 64, t12, t13, .int .i64 (k : Int), .int .u32 (a15.toNat : Int), .int .u32 (a2.toNat : Int), t17, t18, t19, t20, t21, t22, t23, t24, t25, t26, t27, t28, t29, t30, t31, t32, t33, t34, t35, t36, t37, t38, t39, t40, t41, t42, t43, t44, t45, t46, t47, t48, t49, t50, t51, t52, t53, t54, t55, t56, t57, t58, t59, t60, t61, t62, t63, t64, t65, t66, t67, t68, t69, t70, t71, t72, t73, t74, t75, t76, t77, t78, t79, t80, t81, t82, t83, t84, t85, t86, t87, t88, t89, t90, t91, t92, t93, t94, t95, t96, t97, t98, t99, t100, t101, t102, t103, t104, t105, t106, t107, t108, t109, t110, t111, t112, t113, t114, t115, t116, t117, x118, x119, x120, x121, x122, x123, x124, x125, x126, x127, t128, t129, t130, t131, t132, t133, t134, t135, t136, t137, t138, t139, t140, t141, t142, t143, t144, t145, t146, t147, t148, t149, t150, t151, t152, t153, t154, t155, t156, t157, t158, t159, t160, t161, t162, t163, t164, t165, t166, t167, t168, t169, t170, t171, t172, t173, t174, t175, t176, t177, t178, t179, t180, t181, t182, t183, t184, t185, t186, t187, t188, t189, t190, t191, t192, t193, t194, t195, t196, t197, t198, t199, t200, t201, t202, t203, t204, t205, t206, t207, t208, t209, t210, t211, t212, t213, t214, t215, t216, t217, t218, t219, t220, t221, t222, t223, t224, t225, t226, t227, t228, t229, t230, t231, t232, t233, t234, t235, t236, t237, t238, t239, t240, t241, t242, t243, t244, t245, t246, t247, t248, t249, t250, t251, t252, t253, t254, t255, t256, t257, t258, t259, t260, t261, t262, t263, t264, t265, t266, t267, t268, t269, t270, t271, t272, t273, t274, t275, t276, t277, t278, t279, t280, t281, t282, t283, t284, t285, t286, t287, t288, t289, t290], defers := ds } w') :
    (Code.region 25 (opsOf 25) true).wp Try.prog (Exit.then K Q) { tmps := #[t0, t1, t2, t3, t4, t5, t6, t7, t8, t9, t10, .slice (some ⟨gw, 0, none⟩) 64 64, t12, t13, .int .i64 (k : Int), t15, t16, t17, t18, t19, t20, t21, t22, t23, t24, t25, t26, t27, t28, t29, t30, t31, t32, t33, t34, t35, t36, t37, t38, t39, t40, t41, t42, t43, t44, t45, t46, t47, t48, t49, t50, t51, t52, t53, t54, t55, t56, t57, t58, t59, t60, t61, t62, t63, t64, t65, t66, t67, t68, t69, t70, t71, t72, t73, t74, t75, t76, t77, t78, t79, t80, t81, t82, t83, t84, t85, t86, t87, t88, t89, t90, t91, t92, t93, t94, t95, t96, t97, t98, t99, t100, t101, t102, t103, t104, t105, t106, t107, t108, t109, t110, t111, t112, t113, t114, t115, t116, t117, t118, t119, t120, t121, t122, t123, t124, t125, t126, t127, t128, t129, t130, t131, t132, t133, t134, t135, t136, t137, t138, t139, t140, t141, t142, t143, t144, t145, t146, t147, t148, t149, t150, t151, t152, t153, t154, t155, t156, t157, t158, t159, t160, t161, t162, t163, t164, t165, t166, t167, t168, t169, t170, t171, t172, t173, t174, t175, t176, t177, t178, t179, t180, t181, t182, t183, t184, t185, t186, t187, t188, t189, t190, t191, t192, t193, t194, t195, t196, t197, t198, t199, t200, t201, t202, t203, t204, t205, t206, t207, t208, t209, t210, t211, t212, t213, t214, t215, t216, t217, t218, t219, t220, t221, t222, t223, t224, t225, t226, t227, t228, t229, t230, t231, t232, t233, t234, t235, t236, t237, t238, t239, t240, t241, t242, t243, t244, t245, t246, t247, t248, t249, t250, t251, t252, t253, t254, t255, t256, t257, t258, t259, t260, t261, t262, t263, t264, t265, t266, t267, t268, t269, t270, t271, t272, t273, t274, t275, t276, t277, t278, t279, t280, t281, t282, t283, t284, t285, t286, t287, t288, t289, t290], defers := ds } w := by
  simp only [opsOf, findR, Try.f21, Option.bind_some, Option.or, Option.getD, Nat.reduceEqDiff, if_true, if_false, reduceIte]
  have t15 : ((k : Int) - 15).toNat = k - 15 := by omega
  have t2 : ((k : Int) - 2).toNat = k - 2 := by omega
  have HH := Lib.hid h
  clear h
  refine wp_region_quiet_lit (by kernel_rfl) (by kernel_rfl) ?_
  iterate 12 go_big_quiet_step (fail)
  refine wpQuiet_nil ?_
  intro _ hw'
  obtain ⟨nq, hw''⟩ := hw'
  subst hw''
  exact HH.out _ _ _ _ _ _ _ _ _ _ _ (Sm.drewN w nq)

set_option maxHeartbeats 4000000 in
set_option maxRecDepth 100000 in
theorem r26 (gw k : Nat) (a16 a15 a7 a2 Y : UInt32) (old : Value) (hk : 16 ≤ k) (hk2 : k < 64) (hY : a16 + sig0 a15 + a7 + sig1 a2 = Y) (w : World) (c16 : w.cell? ⟨gw, k - 16, none⟩ = some (.int .u32 (a16.toNat : Int))) (c7 : w.cell? ⟨gw, k - 7, none⟩ = some (.int .u32 (a7.toNat : Int))) (ck : w.cell? ⟨gw, k, none⟩ = some old) (fk : w.frozen? ⟨gw, k, none⟩ = false)
    {t0 t1 t2 t3 t4 t5 t6 t7 t8 t9 t10 t12 t13 t17 t18 t19 t20 t21 t22 t23 t24 t25 t26 t27 t28 t29 t30 t31 t32 t33 t34 t35 t36 t37 t38 t39 t40 t41 t42 t43 t44 t45 t46 t47 t48 t49 t50 t51 t52 t53 t54 t55 t56 t57 t58 t59 t60 t61 t62 t63 t64 t65 t66 t67 t68 t69 t70 t71 t72 t73 t74 t75 t76 t77 t78 t79 t80 t81 t82 t83 t84 t85 t86 t87 t88 t89 t90 t91 t92 t93 t94 t95 t96 t97 t98 t99 t100 t101 t102 t103 t104 t105 t106 t107 t108 t109 t110 t111 t112 t113 t114 t115 t116 t117 t118 t119 t120 t121 t122 t123 t124 t125 t126 t127 t128 t129 t130 t131 t132 t133 t134 t135 t136 t137 t138 t139 t140 t141 t142 t143 t144 t145 t146 t147 t148 t149 t150 t151 t152 t153 t154 t155 t156 t157 t158 t159 t160 t161 t162 t163 t164 t165 t166 t167 t168 t169 t170 t171 t172 t173 t174 t175 t176 t177 t178 t179 t180 t181 t182 t183 t184 t185 t186 t187 t188 t189 t190 t191 t192 t193 t194 t195 t196 t197 t198 t199 t200 t201 t202 t203 t204 t205 t206 t207 t208 t209 t210 t211 t212 t213 t214 t215 t216 t217 t218 t219 t220 t221 t222 t223 t224 t225 t226 t227 t228 t229 t230 t231 t232 t233 t234 t235 t236 t237 t238 t239 t240 t241 t242 t243 t244 t245 t246 t247 t248 t249 t250 t251 t252 t253 t254 t255 t256 t257 t258 t259 t260 t261 t262 t263 t264 t265 t266 t267 t268 t269 t270 t271 t272 t273 t274 t275 t276 t277 t278 t279 t280 t281 t282 t283 t284 t285 t286 t287 t288 t289 t290 : Value} {ds : List Deferred} {Q : Exit → Act → World → Prop}
    (h : ∀ (x128 x129 x130 x131 x132 x133 x134 x135 x136 x137 x138 x139 x140 x141 x142 x143 x144 x145 x146 x147 x148 x149 x150 x151 x152 x153 x154 x155 x156 x157 x158 x159 : Value) (w' wm : World), Sm w wm → w' = wm.setCell ⟨gw, k, none⟩ (.int .u32 (Y.toNat : Int)) → Q .normal { tmps := #[t0, t1, t2, t3, t4, t5, t6, t7, t8, t9, t10, .slice (some ⟨gw, 0, none⟩) 64 64, t12, t13, .int .i64 (k : Int), .int .u32 (a15.toNat : Int), .int .u32 (a2.toNat : Int), t17, t18, t19, t20, t21, t22, t23, t24, t25, t26, t27, t28, t29, t30, t31, t32, t33, t34, t35, t36, t37, t38, t39, t40, t41, t42, t43, t44, t45, t46, t47, t48, t49, t50, t51, t52, t53, t54, t55, t56, t57, t58, t59, t60, t61, t62, t63, t64, t65, t66, t67, t68, t69, t70, t71, t72, t73, t74, t75, t76, t77, t78, t79, t80, t81, t82, t83, t84, t85, t86, t87, t88, t89, t90, t91, t92, t93, t94, t95, t96, t97, t98, t99, t100, t101, t102, t103, t104, t105, t106, t107, t108, t109, t110, t111, t112, t113, t114, t115, t116, t117, t118, t119, t120, t121, t122, t123, t124, t125, t126, t127, x128, x129, x130, x131, x132, x133, x134, x135, x136, x137, x138, x139, x140, x141, x142, x143, x144, x145, x146, x147, x148, x149, x150, x151, x152, x153, x154, x155, x156, x157, x158, x159, t160, t161, t162, t163, t164, t165, t166, t167, t168, t169, t170, t171, t172, t173, t174, t175, t176, t177, t178, t179, t180, t181, t182, t183, t184, t185, t186, t187, t188, t189, t190, t191, t192, t193, t194, t195, t196, t197, t198, t199, t200, t201, t202, t203, t204, t205, t206, t207, t208, t209, t210, t211, t212, t213, t214, t215, t216, t217, t218, t219, t220, t221, t222, t223, t224, t225, t226, t227, t228, t229, t230, t231, t232, t233, t234, t235, t236, t237, t238, t239, t240, t241, t242, t243, t244, t245, t246, t247, t248, t249, t250, t251, t252, t253, t254, t255, t256, t257, t258, t259, t260, t261, t262, t263, t264, t265, t266, t267, t268, t269, t270, t271, t272, t273, t274, t275, t276, t277, t278, t279, t280, t281, t282, t283, t284, t285, t286, t287, t288, t289, t290], defers := ds } w') :
    (Code.region 26 (opsOf 26) true).wp Try.prog Q { tmps := #[t0, t1, t2, t3, t4, t5, t6, t7, t8, t9, t10, .slice (some ⟨gw, 0, none⟩) 64 64, t12, t13, .int .i64 (k : Int), .int .u32 (a15.toNat : Int), .int .u32 (a2.toNat : Int), t17, t18, t19, t20, t21, t22, t23, t24, t25, t26, t27, t28, t29, t30, t31, t32, t33, t34, t35, t36, t37, t38, t39, t40, t41, t42, t43, t44, t45, t46, t47, t48, t49, t50, t51, t52, t53, t54, t55, t56, t57, t58, t59, t60, t61, t62, t63, t64, t65, t66, t67, t68, t69, t70, t71, t72, t73, t74, t75, t76, t77, t78, t79, t80, t81, t82, t83, t84, t85, t86, t87, t88, t89, t90, t91, t92, t93, t94, t95, t96, t97, t98, t99, t100, t101, t102, t103, t104, t105, t106, t107, t108, t109, t110, t111, t112, t113, t114, t115, t116, t117, t118, t119, t120, t121, t122, t123, t124, t125, t126, t127, t128, t129, t130, t131, t132, t133, t134, t135, t136, t137, t138, t139, t140, t141, t142, t143, t144, t145, t146, t147, t148, t149, t150, t151, t152, t153, t154, t155, t156, t157, t158, t159, t160, t161, t162, t163, t164, t165, t166, t167, t168, t169, t170, t171, t172, t173, t174, t175, t176, t177, t178, t179, t180, t181, t182, t183, t184, t185, t186, t187, t188, t189, t190, t191, t192, t193, t194, t195, t196, t197, t198, t199, t200, t201, t202, t203, t204, t205, t206, t207, t208, t209, t210, t211, t212, t213, t214, t215, t216, t217, t218, t219, t220, t221, t222, t223, t224, t225, t226, t227, t228, t229, t230, t231, t232, t233, t234, t235, t236, t237, t238, t239, t240, t241, t242, t243, t244, t245, t246, t247, t248, t249, t250, t251, t252, t253, t254, t255, t256, t257, t258, t259, t260, t261, t262, t263, t264, t265, t266, t267, t268, t269, t270, t271, t272, t273, t274, t275, t276, t277, t278, t279, t280, t281, t282, t283, t284, t285, t286, t287, t288, t289, t290], defers := ds } w := by
  simp only [opsOf, findR, Try.f21, Option.bind_some, Option.or, Option.getD, Nat.reduceEqDiff, if_true, if_false, reduceIte]
  have t16 : ((k : Int) - 16).toNat = k - 16 := by omega
  have t7 : ((k : Int) - 7).toNat = k - 7 := by omega
  have R7 := Lib.hid (rr7 a15)
  have R18 := Lib.hid (rr18 a15)
  have R17 := Lib.hid (rr17 a2)
  have R19 := Lib.hid (rr19 a2)
  have x1' := xorW (rorW a15 7) (rorW a15 18)
  have x2' := xorW (rorW a15 7 ^^^ rorW a15 18) (shrW a15 3)
  have x3' := xorW (rorW a2 17) (rorW a2 19)
  have x4' := xorW (rorW a2 17 ^^^ rorW a2 19) (shrW a2 10)
  have d1 : (a15.toNat : Int) / 8 = ((shrW a15 3).toNat : Int) := shrW_div a15 3 8 (by decide)
  have d2 : (a2.toNat : Int) / 1024 = ((shrW a2 10).toNat : Int) := shrW_div a2 10 1024 (by decide)
  have s1 : ((a16.toNat : Int) + ((sig0 a15).toNat : Int) + (a7.toNat : Int) + ((sig1 a2).toNat : Int)) % 4294967296 = (Y.toNat : Int) := by
    rw [← hY, UInt32.toNat_add, UInt32.toNat_add, UInt32.toNat_add]; omega
  unfold sig0 sig1 at s1
  generalize rorW a15 7 ^^^ rorW a15 18 ^^^ shrW a15 3 = q0 at x2' s1
  generalize rorW a2 17 ^^^ rorW a2 19 ^^^ shrW a2 10 = q1 at x4' s1
  generalize rorW a15 7 ^^^ rorW a15 18 = p0 at x1' x2'
  generalize rorW a2 17 ^^^ rorW a2 19 = p1 at x3' x4'
  generalize rorW a15 7 = r7 at x1' R7
  generalize rorW a15 18 = r18 at x1' R18
  generalize rorW a2 17 = r17 at x3' R17
  generalize rorW a2 19 = r19 at x3' R19
  generalize shrW a15 3 = h3 at d1 x2'
  generalize shrW a2 10 = h10 at d2 x4'
  clear hY
  have HH := Lib.hid (fun x128 x129 x130 x131 x132 x133 x134 x135 x136 x137 x138 x139 x140 x141 x142 x143 x144 x145 x146 x147 x148 x149 x150 x151 x152 x153 x154 x155 x156 x157 x158 x159 w' wm h1 h2 => h x128 x129 x130 x131 x132 x133 x134 x135 x136 x137 x138 x139 x140 x141 x142 x143 x144 x145 x146 x147 x148 x149 x150 x151 x152 x153 x154 x155 x156 x157 x158 x159 w' wm h1 h2)
  clear h
  refine wp_region_quiet_tail 32 mixed (by kernel_rfl) ?_
  simp only [List.take_succ_cons, List.take_zero, List.drop_succ_cons, List.drop_zero]
  iterate 8 go_big_quiet_step (fail)
  go_big_quiet_step (exact qd (R7.out _))
  go_big_quiet_step (fail)
  go_big_quiet_step (exact qd (R18.out _))
  iterate 12 go_big_quiet_step (fail)
  go_big_quiet_step (exact qd (R17.out _))
  go_big_quiet_step (fail)
  go_big_quiet_step (exact qd (R19.out _))
  iterate 6 go_big_quiet_step (fail)
  refine wpQuiet_nil ?_
  intro _ hw'
  obtain ⟨nq, hw''⟩ := hw'
  subst hw''
  have f2 : (w.drewN nq).frozen? ⟨gw, k, none⟩ = false := fk
  have c9 : (w.drewN nq).cell? ⟨gw, k, none⟩ = some old := ck
  go_wp2_with fail
  exact HH.out _ _ _ _ _ _ _ _ _ _ _ _ _ _ _ _ _ _ _ _ _ _ _ _ _ _ _ _ _ _ _ _ _ _ (Sm.drewN w nq) rfl
end Go.Proofs.Yteaanoaldnnflaa
