/- The sum's loops, each apart from the function that it stands in: the 64 rounds, the adding, the text. No condition but what each reads. The sum's loop over the blocks, apart from the function that it stands in. Condition: at most 2^47 bytes. -/
import Derived.Test.YtpggkfdijmnmiaaGreatZum11
set_option linter.unusedVariables false
set_option linter.unusedSimpArgs false
set_option maxRecDepth 100000
namespace Go.Proofs.YtpggkfdijmnmiaaGreat.Hs
open Go.RowKit Go.Sort
def head1 : Code → Nat
  | .region id _ _ => id
  | .seq a _ => head1 a
  | _ => 1000
def findL : Code → Nat → Option Code
  | .seq a b, n => (findL a n).or (findL b n)
  | .cond _ a b, n => (findL a n).or (findL b n)
  | .block _ a, n => findL a n
  | .loop a, n => if head1 a = n then some (.loop a) else findL a n
  | .scope a, n => findL a n
  | _, _ => none
noncomputable def loopOf (n : Nat) : Code := (Tryz.f151.body.bind fun c => findL c n).getD .skip
set_option maxHeartbeats 8000000 in
set_option maxRecDepth 100000 in
theorem rounds (gv0 cv0 gk ck gw : Nat) (h ww : List UInt32) (hl : h.length = 8) (hw : ww.length = 64) (w : World) (hgk : gk < w.heap.size) (hkk : ∀ i, i < 64 → w.cell? ⟨gk, i, none⟩ = some (.int .u32 ((kL.getD i 0).toNat : Int))) (hgw : w.heap[gw]? = some (.cells (ws ww) 111 (0, 0))) (hgv : gv0 < w.heap.size) (hv0 : C8 w gv0 h)
    {t0 t2 t3 t4 t5 t6 t7 t8 t9 t10 t12 t13 t14 t15 t16 t19 t20 t21 t22 t23 t24 t25 t26 t27 t28 t29 t30 t31 t32 t33 t34 t35 t36 t37 t38 t39 t40 t41 t42 t43 t44 t45 t46 t47 t48 t49 t50 t51 t52 t53 t54 t55 t56 t57 t58 t59 t60 t61 t62 t63 t64 t65 t66 t67 t68 t69 t70 t71 t72 t73 t74 t75 t76 t77 t78 t79 t80 t81 t82 t83 t84 t85 t86 t87 t88 t89 t90 t91 t92 t93 t94 t95 t96 t97 t98 t99 t100 t101 t102 t103 t104 t105 t106 t107 t108 t109 t110 t111 t112 t113 t114 t115 t116 t117 t118 t119 t120 t121 t122 t123 t124 t125 t126 t127 t128 t129 t130 t131 t132 t133 t134 t135 t136 t137 t138 t139 t140 t141 t142 t143 t144 t145 t146 t147 t148 t149 t150 t151 t152 t153 t154 t155 t156 t157 t158 t159 t160 t161 t162 t163 t164 t165 t166 t167 t168 t169 t170 t171 t172 t173 t174 t175 t176 t177 t178 t179 t180 t181 t182 t183 t184 t185 t186 t187 t188 t189 t190 t191 t192 t193 t194 t195 t196 t197 t198 t199 t200 t201 t202 t203 t204 t205 t206 t207 t208 t209 t210 t211 t212 t213 t214 t215 t216 t217 t218 t219 t220 t221 t222 t223 t224 t225 t226 t227 t228 t229 t230 t231 t232 t233 t234 t235 t236 t237 t238 t239 t240 t241 t242 t243 t244 t245 t246 t247 t248 t249 t250 t251 t252 t253 t254 t255 t256 t257 t258 t259 t260 t261 t262 t263 t264 t265 t266 t267 t268 t269 t270 t271 t272 t273 t274 t275 t276 t277 t278 t279 t280 t281 t282 t283 t284 t285 t286 t287 t288 t289 t290 : Value} {ds : List Deferred} {K : Act → World → Prop} {Q : Exit → Act → World → Prop}
    (h : ∀ (x19 x20 x21 x22 x163 x164 x165 x166 x167 x168 x169 x170 x171 x172 x173 x174 x175 x176 x177 x178 x179 x180 x181 x182 x183 x184 x185 x186 x187 x188 x189 x190 x191 x192 x193 x194 x195 x196 x197 x198 x199 x200 x201 x202 x203 x204 x205 x206 x207 x208 x209 x210 x211 x212 x213 x214 x215 x216 x217 x218 x219 x220 x221 x222 x223 x224 x225 x226 x227 x228 x229 x230 x231 x232 x233 x234 x235 x236 x237 x238 x239 x240 x241 x242 x243 x244 x245 x246 x247 x248 x249 x250 x251 x252 x253 x254 x255 x256 x257 x258 x259 x260 x261 x262 : Value) (gv cv : Nat) (w' : World), (gv = gv0 ∨ w.heap.size ≤ gv) → gv < w'.heap.size → C8 w' gv (turnsTo ww h 64) → Below w.heap.size w w' → K { tmps := #[t0, .slice (some ⟨gk, 0, none⟩) 64 ck, t2, t3, t4, t5, t6, t7, t8, t9, t10, .slice (some ⟨gw, 0, none⟩) 64 64, t12, t13, t14, t15, t16, .slice (some ⟨gv, 0, none⟩) 8 cv, .int .i64 64, x19, x20, x21, x22, t23, t24, t25, t26, t27, t28, t29, t30, t31, t32, t33, t34, t35, t36, t37, t38, t39, t40, t41, t42, t43, t44, t45, t46, t47, t48, t49, t50, t51, t52, t53, t54, t55, t56, t57, t58, t59, t60, t61, t62, t63, t64, t65, t66, t67, t68, t69, t70, t71, t72, t73, t74, t75, t76, t77, t78, t79, t80, t81, t82, t83, t84, t85, t86, t87, t88, t89, t90, t91, t92, t93, t94, t95, t96, t97, t98, t99, t100, t101, t102, t103, t104, t105, t106, t107, t108, t109, t110, t111, t112, t113, t114, t115, t116, t117, t118, t119, t120, t121, t122, t123, t124, t125, t126, t127, t128, t129, t130, t131, t132, t133, t134, t135, t136, t137, t138, t139, t140, t141, t142, t143, t144, t145, t146, t147, t148, t149, t150, t151, t152, t153, t154, t155, t156, t157, t158, t159, t160, t161, t162, x163, x164, x165, x166, x167, x168, x169, x170, x171, x172, x173, x174, x175, x176, x177, x178, x179, x180, x181, x182, x183, x184, x185, x186, x187, x188, x189, x190, x191, x192, x193, x194, x195, x196, x197, x198, x199, x200, x201, x202, x203, x204, x205, x206, x207, x208, x209, x210, x211, x212, x213, x214, x215, x216, x217, x218, x219, x220, x221, x222, x223, x224, x225, x226, x227, x228, x229, x230, x231, x232, x233, x234, x235, x236, x237, x238, x239, x240, x241, x242, x243, x244, x245, x246, x247, x248, x249, x250, x251, x252, x253, x254, x255, x256, x257, x258, x259, x260, x261, x262, t263, t264, t265, t266, t267, t268, t269, t270, t271, t272, t273, t274, t275, t276, t277, t278, t279, t280, t281, t282, t283, t284, t285, t286, t287, t288, t289, t290], defers := ds } w') :
    (loopOf 29).wp Tryz.prog (Exit.inBlock 10 (Exit.then K Q)) { tmps := #[t0, .slice (some ⟨gk, 0, none⟩) 64 ck, t2, t3, t4, t5, t6, t7, t8, t9, t10, .slice (some ⟨gw, 0, none⟩) 64 64, t12, t13, t14, t15, t16, .slice (some ⟨gv0, 0, none⟩) 8 cv0, .int .i64 0, t19, t20, t21, t22, t23, t24, t25, t26, t27, t28, t29, t30, t31, t32, t33, t34, t35, t36, t37, t38, t39, t40, t41, t42, t43, t44, t45, t46, t47, t48, t49, t50, t51, t52, t53, t54, t55, t56, t57, t58, t59, t60, t61, t62, t63, t64, t65, t66, t67, t68, t69, t70, t71, t72, t73, t74, t75, t76, t77, t78, t79, t80, t81, t82, t83, t84, t85, t86, t87, t88, t89, t90, t91, t92, t93, t94, t95, t96, t97, t98, t99, t100, t101, t102, t103, t104, t105, t106, t107, t108, t109, t110, t111, t112, t113, t114, t115, t116, t117, t118, t119, t120, t121, t122, t123, t124, t125, t126, t127, t128, t129, t130, t131, t132, t133, t134, t135, t136, t137, t138, t139, t140, t141, t142, t143, t144, t145, t146, t147, t148, t149, t150, t151, t152, t153, t154, t155, t156, t157, t158, t159, t160, t161, t162, t163, t164, t165, t166, t167, t168, t169, t170, t171, t172, t173, t174, t175, t176, t177, t178, t179, t180, t181, t182, t183, t184, t185, t186, t187, t188, t189, t190, t191, t192, t193, t194, t195, t196, t197, t198, t199, t200, t201, t202, t203, t204, t205, t206, t207, t208, t209, t210, t211, t212, t213, t214, t215, t216, t217, t218, t219, t220, t221, t222, t223, t224, t225, t226, t227, t228, t229, t230, t231, t232, t233, t234, t235, t236, t237, t238, t239, t240, t241, t242, t243, t244, t245, t246, t247, t248, t249, t250, t251, t252, t253, t254, t255, t256, t257, t258, t259, t260, t261, t262, t263, t264, t265, t266, t267, t268, t269, t270, t271, t272, t273, t274, t275, t276, t277, t278, t279, t280, t281, t282, t283, t284, t285, t286, t287, t288, t289, t290], defers := ds } w := by
  have HH := Lib.hid h
  clear h
  simp only [loopOf, findL, head1, Tryz.f151, Option.bind_some, Option.or, Option.getD, Nat.reduceEqDiff, if_true, if_false, reduceIte]
  have HK := Lib.hid hkk
  have HG := Lib.hid hgk
  have HW := Lib.hid hgw
  have HL := Lib.hid hl
  have HWL := Lib.hid hw
  have HV := Lib.hid hv0
  have HZ := Lib.hid hgv
  clear hkk hgk hgw hl hw hv0 hgv
  go_loopw [17, 18] (fun v i wx => ∃ k : Nat, k ≤ 64 ∧ i = .int .i64 k ∧ (∃ gv cv, v = .slice (some ⟨gv, 0, none⟩) 8 cv ∧ (gv = gv0 ∨ w.heap.size ≤ gv) ∧ gv < wx.heap.size ∧ C8 wx gv (turnsTo ww h k)) ∧ Below w.heap.size w wx) (fun _ i _ => 64 - (intOf i).toNat)
  case atStart => exact ⟨0, by omega, rfl, ⟨gv0, cv0, rfl, .inl rfl, HZ.out, HV.out⟩, Below.refl _ _⟩
  case round =>
    obtain ⟨k, hk, rfl, ⟨gv, cv, rfl, hgv, hgl, hc⟩, hb⟩ := hrel
    have HGV := Lib.hid hgv
    have HGL := Lib.hid hgl
    have HC := Lib.hid hc
    have HB := Lib.hid hb
    clear hgv hgl hc hb HV HZ
    by_cases hk64 : k < 64
    · have HT := Lib.hid (turns_succ ww h k)
      obtain ⟨h0, h1, h2, h3, h4, h5, h6, h7, hl⟩ := eight (turnsTo ww h k) (turns_length ww h HL.out k)
      rw [hl] at HC HT
      rw [turn_ref] at HT
      have HKc : Hid (wr.cell? ⟨gk, k, none⟩ = some (.int .u32 ((kL.getD k 0).toNat : Int))) := Lib.hid ((HB.out.cell (p := ⟨gk, k, none⟩) HG.out).trans (HK.out k hk64))
      have HWc : Hid (wr.cell? ⟨gw, k, none⟩ = some (.int .u32 ((ww.getD k 0).toNat : Int))) := Lib.hid ((HB.out.cell (p := ⟨gw, k, none⟩) (blk_lt HW.out)).trans ((blk_cell HW.out k).trans ((ws_get _ _ (by rw [HWL.out]; exact hk64)).trans (by simp [List.getD, HWL.out, hk64]))))
      clear hl
      generalize kL.getD k 0 = kk at HKc HT
      generalize ww.getD k 0 = wn at HWc HT
      go_wp2_with fail
      obtain ⟨T, hTT⟩ : ∃ T, h7 + S1 h4 + (h4 &&& h5 ^^^ (4294967295 ^^^ h4) &&& h6) + kk + wn = T := ⟨_, rfl⟩
      obtain ⟨U, hUU⟩ : ∃ U, S0 h0 + Maj h0 h1 h2 = U := ⟨_, rfl⟩
      rw [hTT, hUU] at HT
      have HTT := Lib.hid hTT
      have HUU := Lib.hid hUU
      clear hTT hUU
      refine r31 gv cv h0 h4 wr (HC.out 0 (by decide)) (HC.out 4 (by decide)) ?_
      intros
      rename_i wa sa
      have SA := Lib.hid sa
      clear sa
      go_wp2_with fail
      refine r32 gv cv gk ck gw k h4 h5 h6 h7 kk wn T hk64 HTT.out _ (SA.out.cell (HC.out 5 (by decide))) (SA.out.cell (HC.out 6 (by decide))) (SA.out.cell (HC.out 7 (by decide))) (SA.out.cell HKc.out) (SA.out.cell HWc.out) ?_
      intros
      rename_i wb sb
      have SB := Lib.hid (SA.out.trans sb)
      clear sb SA
      go_wp2_with fail
      refine r33 gv cv h0 h1 h2 U HUU.out _ (SB.out.cell (HC.out 1 (by decide))) (SB.out.cell (HC.out 2 (by decide))) ?_
      intros
      rename_i wc sc
      have SC := Lib.hid (SB.out.trans sc)
      clear sc SB
      go_wp2_with fail
      refine r34 gv cv h0 h1 h2 h3 h4 h5 h6 T U _ (SC.out.cell (HC.out 0 (by decide))) (SC.out.cell (HC.out 1 (by decide))) (SC.out.cell (HC.out 2 (by decide))) (SC.out.cell (HC.out 3 (by decide))) (SC.out.cell (HC.out 4 (by decide))) (SC.out.cell (HC.out 5 (by decide))) (SC.out.cell (HC.out 6 (by decide))) ?_
      intros
      rename_i wd d1 d2 d3
      rw [← HT.out] at d1
      have HN := Lib.hid d1
      have HBN := Lib.hid ((SC.out.below HB.out).trans (d2.mono (SC.out.below HB.out).size))
      have HGE := Lib.hid (SC.out.below HB.out).size
      have HSZ := Lib.hid d3
      clear d1 d2 d3 HKc HWc HC HB HT SC
      generalize wc.heap.size = ge at HGE HSZ HN ⊢
      go_wp2_with fail
      go_roundw
      case rel => exact ⟨k + 1, by omega, by go_num, ⟨ge, 8, rfl, .inr HGE.out, HSZ.out, C8.block HN.out (turns_length ww h HL.out (k + 1))⟩, HBN.out⟩
      case measure => simp [intOf]; omega
    · obtain rfl : k = 64 := by omega
      go_wp2_with fail
      exact HH.out _ _ _ _ _ _ _ _ _ _ _ _ _ _ _ _ _ _ _ _ _ _ _ _ _ _ _ _ _ _ _ _ _ _ _ _ _ _ _ _ _ _ _ _ _ _ _ _ _ _ _ _ _ _ _ _ _ _ _ _ _ _ _ _ _ _ _ _ _ _ _ _ _ _ _ _ _ _ _ _ _ _ _ _ _ _ _ _ _ _ _ _ _ _ _ _ _ _ _ _ _ _ _ _ gv cv wr HGV.out HGL.out HC.out HB.out
set_option maxHeartbeats 8000000 in
set_option maxRecDepth 100000 in
theorem adding (gv cv gh ch : Nat) (h v : List UInt32) (hl : h.length = 8) (hvl : v.length = 8) (hne : gv ≠ gh) (w : World) (hgh : w.heap[gh]? = some (.cells (ws h) 111 (0, 0))) (hv : C8 w gv v)
    {t0 t1 t2 t3 t4 t5 t6 t8 t9 t10 t11 t12 t13 t14 t15 t16 t18 t19 t20 t21 t22 t24 t25 t26 t27 t28 t29 t30 t31 t32 t33 t34 t35 t36 t37 t38 t39 t40 t41 t42 t43 t44 t45 t46 t47 t48 t49 t50 t51 t52 t53 t54 t55 t56 t57 t58 t59 t60 t61 t62 t63 t64 t65 t66 t67 t68 t69 t70 t71 t72 t73 t74 t75 t76 t77 t78 t79 t80 t81 t82 t83 t84 t85 t86 t87 t88 t89 t90 t91 t92 t93 t94 t95 t96 t97 t98 t99 t100 t101 t102 t103 t104 t105 t106 t107 t108 t109 t110 t111 t112 t113 t114 t115 t116 t117 t118 t119 t120 t121 t122 t123 t124 t125 t126 t127 t128 t129 t130 t131 t132 t133 t134 t135 t136 t137 t138 t139 t140 t141 t142 t143 t144 t145 t146 t147 t148 t149 t150 t151 t152 t153 t154 t155 t156 t157 t158 t159 t160 t161 t162 t163 t164 t165 t166 t167 t168 t169 t170 t171 t172 t173 t174 t175 t176 t177 t178 t179 t180 t181 t182 t183 t184 t185 t186 t187 t188 t189 t190 t191 t192 t193 t194 t195 t196 t197 t198 t199 t200 t201 t202 t203 t204 t205 t206 t207 t208 t209 t210 t211 t212 t213 t214 t215 t216 t217 t218 t219 t220 t221 t222 t223 t224 t225 t226 t227 t228 t229 t230 t231 t232 t233 t234 t235 t236 t237 t238 t239 t240 t241 t242 t243 t244 t245 t246 t247 t248 t249 t250 t251 t252 t253 t254 t255 t256 t257 t258 t259 t260 t261 t262 t263 t264 t265 t266 t267 t268 t269 t270 t271 t272 t273 t274 t275 t276 t277 t278 t279 t280 t281 t282 t283 t284 t285 t286 t287 t288 t289 t290 : Value} {ds : List Deferred} {Q : Exit → Act → World → Prop}
    (h : ∀ (x263 x264 x265 x266 x267 x268 x269 x270 x271 x272 x273 x274 x275 x276 : Value) (w' : World), w'.heap[gh]? = some (.cells (ws (zipTo h v 8)) 111 (0, 0)) → Below gh w w' → Q .normal { tmps := #[t0, t1, t2, t3, t4, t5, t6, .slice (some ⟨gh, 0, none⟩) 8 ch, t8, t9, t10, t11, t12, t13, t14, t15, t16, .slice (some ⟨gv, 0, none⟩) 8 cv, t18, t19, t20, t21, t22, .int .i64 8, t24, t25, t26, t27, t28, t29, t30, t31, t32, t33, t34, t35, t36, t37, t38, t39, t40, t41, t42, t43, t44, t45, t46, t47, t48, t49, t50, t51, t52, t53, t54, t55, t56, t57, t58, t59, t60, t61, t62, t63, t64, t65, t66, t67, t68, t69, t70, t71, t72, t73, t74, t75, t76, t77, t78, t79, t80, t81, t82, t83, t84, t85, t86, t87, t88, t89, t90, t91, t92, t93, t94, t95, t96, t97, t98, t99, t100, t101, t102, t103, t104, t105, t106, t107, t108, t109, t110, t111, t112, t113, t114, t115, t116, t117, t118, t119, t120, t121, t122, t123, t124, t125, t126, t127, t128, t129, t130, t131, t132, t133, t134, t135, t136, t137, t138, t139, t140, t141, t142, t143, t144, t145, t146, t147, t148, t149, t150, t151, t152, t153, t154, t155, t156, t157, t158, t159, t160, t161, t162, t163, t164, t165, t166, t167, t168, t169, t170, t171, t172, t173, t174, t175, t176, t177, t178, t179, t180, t181, t182, t183, t184, t185, t186, t187, t188, t189, t190, t191, t192, t193, t194, t195, t196, t197, t198, t199, t200, t201, t202, t203, t204, t205, t206, t207, t208, t209, t210, t211, t212, t213, t214, t215, t216, t217, t218, t219, t220, t221, t222, t223, t224, t225, t226, t227, t228, t229, t230, t231, t232, t233, t234, t235, t236, t237, t238, t239, t240, t241, t242, t243, t244, t245, t246, t247, t248, t249, t250, t251, t252, t253, t254, t255, t256, t257, t258, t259, t260, t261, t262, x263, x264, x265, x266, x267, x268, x269, x270, x271, x272, x273, x274, x275, x276, t277, t278, t279, t280, t281, t282, t283, t284, t285, t286, t287, t288, t289, t290], defers := ds } w') :
    (loopOf 36).wp Tryz.prog (Exit.inBlock 12 Q) { tmps := #[t0, t1, t2, t3, t4, t5, t6, .slice (some ⟨gh, 0, none⟩) 8 ch, t8, t9, t10, t11, t12, t13, t14, t15, t16, .slice (some ⟨gv, 0, none⟩) 8 cv, t18, t19, t20, t21, t22, .int .i64 0, t24, t25, t26, t27, t28, t29, t30, t31, t32, t33, t34, t35, t36, t37, t38, t39, t40, t41, t42, t43, t44, t45, t46, t47, t48, t49, t50, t51, t52, t53, t54, t55, t56, t57, t58, t59, t60, t61, t62, t63, t64, t65, t66, t67, t68, t69, t70, t71, t72, t73, t74, t75, t76, t77, t78, t79, t80, t81, t82, t83, t84, t85, t86, t87, t88, t89, t90, t91, t92, t93, t94, t95, t96, t97, t98, t99, t100, t101, t102, t103, t104, t105, t106, t107, t108, t109, t110, t111, t112, t113, t114, t115, t116, t117, t118, t119, t120, t121, t122, t123, t124, t125, t126, t127, t128, t129, t130, t131, t132, t133, t134, t135, t136, t137, t138, t139, t140, t141, t142, t143, t144, t145, t146, t147, t148, t149, t150, t151, t152, t153, t154, t155, t156, t157, t158, t159, t160, t161, t162, t163, t164, t165, t166, t167, t168, t169, t170, t171, t172, t173, t174, t175, t176, t177, t178, t179, t180, t181, t182, t183, t184, t185, t186, t187, t188, t189, t190, t191, t192, t193, t194, t195, t196, t197, t198, t199, t200, t201, t202, t203, t204, t205, t206, t207, t208, t209, t210, t211, t212, t213, t214, t215, t216, t217, t218, t219, t220, t221, t222, t223, t224, t225, t226, t227, t228, t229, t230, t231, t232, t233, t234, t235, t236, t237, t238, t239, t240, t241, t242, t243, t244, t245, t246, t247, t248, t249, t250, t251, t252, t253, t254, t255, t256, t257, t258, t259, t260, t261, t262, t263, t264, t265, t266, t267, t268, t269, t270, t271, t272, t273, t274, t275, t276, t277, t278, t279, t280, t281, t282, t283, t284, t285, t286, t287, t288, t289, t290], defers := ds } w := by
  have HH := Lib.hid h
  clear h
  simp only [loopOf, findL, head1, Tryz.f151, Option.bind_some, Option.or, Option.getD, Nat.reduceEqDiff, if_true, if_false, reduceIte]
  have HA := Lib.hid hgh
  have HV := Lib.hid hv
  have HL := Lib.hid hl
  have HVL := Lib.hid hvl
  have HNE := Lib.hid hne
  clear hgh hv hl hvl hne
  go_loopw [23] (fun i wr => ∃ k : Nat, k ≤ 8 ∧ i = .int .i64 k ∧ wr.heap[gh]? = some (.cells (ws (zipTo h v k)) 111 (0, 0)) ∧ C8 wr gv v ∧ Below gh w wr) (fun i _ => 8 - (intOf i).toNat)
  case atStart => exact ⟨0, by omega, rfl, by rw [zip_0]; exact HA.out, HV.out, Below.refl _ _⟩
  case round =>
    obtain ⟨k, hk, rfl, ha, hv, hb⟩ := hrel
    have HB := Lib.hid ha
    have HC := Lib.hid hv
    have HW := Lib.hid hb
    clear ha hv hb HA HV
    by_cases hk8 : k < 8
    · have hkh : k < h.length := by rw [HL.out]; exact hk8
      have hkv : k < v.length := by rw [HVL.out]; exact hk8
      have IA : Hid (wr.cell? ⟨gh, k, none⟩ = some (.int .u32 ((h[k]).toNat : Int))) := Lib.hid (by
        have := (blk_cell HB.out k).trans (ws_get _ k (by rw [zipTo_length h v HL.out HVL.out]; exact hk8))
        rwa [zipTo_get h v HL.out HVL.out k hk8] at this)
      have IB : Hid (wr.cell? ⟨gv, k, none⟩ = some (.int .u32 ((v[k]).toNat : Int))) := Lib.hid (by
        have := HC.out k hk8
        rwa [show v.getD k 0 = v[k] from by simp [List.getD, hkv]] at this)
      have FH := Lib.hid (Lib.frozen_of_heap HB.out k)
      have HZ := Lib.hid (zipTo_set h v HL.out HVL.out k hk8)
      go_wp2_with fail
      refine r38 gv cv gh ch k h[k] v[k] hk8 wr IA.out IB.out FH.out ?_
      intros
      rename_i w' wm sm e
      have HN : Hid (w'.heap[gh]? = some (.cells (ws (zipTo h v (k + 1))) 111 (0, 0))) := Lib.hid (by
        rw [e]
        have := blk_put (w := wm) (b := gh) (cs := ws (zipTo h v k)) (T := 111) (z := (0, 0)) (by rw [sm.2.2.2]; exact HB.out) k (.int .u32 ((h[k] + v[k]).toNat : Int))
        rw [ws_set, HZ.out] at this
        exact this)
      have HCN : Hid (C8 w' gv v) := Lib.hid (fun i hi => by
        rw [e, World.cell?_of_block (w := wm) (Below.heap_setCell wm ⟨gh, k, none⟩ _ gv HNE.out)]
        exact sm.cell (HC.out i hi))
      have HWN : Hid (Below gh w w') := Lib.hid (by rw [e]; exact (sm.below HW.out).setCell (p := ⟨gh, k, none⟩) (Nat.le_refl _) _)
      clear e sm HZ IA IB FH HB HC HW
      go_wp2_with fail
      go_roundw
      case rel => exact ⟨k + 1, by omega, by go_num, HN.out, HCN.out, HWN.out⟩
      case measure => simp [intOf]; omega
    · obtain rfl : k = 8 := by omega
      go_wp2_with fail
      exact HH.out _ _ _ _ _ _ _ _ _ _ _ _ _ _ wr HB.out HW.out
set_option maxHeartbeats 8000000 in
set_option maxRecDepth 100000 in
theorem texts (B gh ch : Nat) (h : List UInt32) (v0 : Value) (hl : h.length = 8) (w : World) (hgh : w.heap[gh]? = some (.cells (ws h) 111 (0, 0))) (hgB : gh < B) (hB : B ≤ w.heap.size) (hv : Rm B v0 [] w)
    {t0 t1 t2 t3 t4 t5 t6 t8 t9 t10 t11 t12 t13 t14 t15 t16 t17 t18 t19 t20 t21 t22 t23 t26 t27 t28 t29 t30 t31 t32 t33 t34 t35 t36 t37 t38 t39 t40 t41 t42 t43 t44 t45 t46 t47 t48 t49 t50 t51 t52 t53 t54 t55 t56 t57 t58 t59 t60 t61 t62 t63 t64 t65 t66 t67 t68 t69 t70 t71 t72 t73 t74 t75 t76 t77 t78 t79 t80 t81 t82 t83 t84 t85 t86 t87 t88 t89 t90 t91 t92 t93 t94 t95 t96 t97 t98 t99 t100 t101 t102 t103 t104 t105 t106 t107 t108 t109 t110 t111 t112 t113 t114 t115 t116 t117 t118 t119 t120 t121 t122 t123 t124 t125 t126 t127 t128 t129 t130 t131 t132 t133 t134 t135 t136 t137 t138 t139 t140 t141 t142 t143 t144 t145 t146 t147 t148 t149 t150 t151 t152 t153 t154 t155 t156 t157 t158 t159 t160 t161 t162 t163 t164 t165 t166 t167 t168 t169 t170 t171 t172 t173 t174 t175 t176 t177 t178 t179 t180 t181 t182 t183 t184 t185 t186 t187 t188 t189 t190 t191 t192 t193 t194 t195 t196 t197 t198 t199 t200 t201 t202 t203 t204 t205 t206 t207 t208 t209 t210 t211 t212 t213 t214 t215 t216 t217 t218 t219 t220 t221 t222 t223 t224 t225 t226 t227 t228 t229 t230 t231 t232 t233 t234 t235 t236 t237 t238 t239 t240 t241 t242 t243 t244 t245 t246 t247 t248 t249 t250 t251 t252 t253 t254 t255 t256 t257 t258 t259 t260 t261 t262 t263 t264 t265 t266 t267 t268 t269 t270 t271 t272 t273 t274 t275 t276 t277 t278 t279 t280 t281 t282 t283 t284 t285 t286 t287 t288 t289 t290 : Value} {ds : List Deferred} {K : Act → World → Prop} {Q : Exit → Act → World → Prop}
    (h : ∀ (x278 x279 x280 x281 x282 x283 x284 x285 x286 x287 x288 : Value) (v : Value) (w' : World), Rm B v (textL h) w' → Below B w w' → K { tmps := #[t0, t1, t2, t3, t4, t5, t6, .slice (some ⟨gh, 0, none⟩) 8 ch, t8, t9, t10, t11, t12, t13, t14, t15, t16, t17, t18, t19, t20, t21, t22, t23, v, .int .i64 8, t26, t27, t28, t29, t30, t31, t32, t33, t34, t35, t36, t37, t38, t39, t40, t41, t42, t43, t44, t45, t46, t47, t48, t49, t50, t51, t52, t53, t54, t55, t56, t57, t58, t59, t60, t61, t62, t63, t64, t65, t66, t67, t68, t69, t70, t71, t72, t73, t74, t75, t76, t77, t78, t79, t80, t81, t82, t83, t84, t85, t86, t87, t88, t89, t90, t91, t92, t93, t94, t95, t96, t97, t98, t99, t100, t101, t102, t103, t104, t105, t106, t107, t108, t109, t110, t111, t112, t113, t114, t115, t116, t117, t118, t119, t120, t121, t122, t123, t124, t125, t126, t127, t128, t129, t130, t131, t132, t133, t134, t135, t136, t137, t138, t139, t140, t141, t142, t143, t144, t145, t146, t147, t148, t149, t150, t151, t152, t153, t154, t155, t156, t157, t158, t159, t160, t161, t162, t163, t164, t165, t166, t167, t168, t169, t170, t171, t172, t173, t174, t175, t176, t177, t178, t179, t180, t181, t182, t183, t184, t185, t186, t187, t188, t189, t190, t191, t192, t193, t194, t195, t196, t197, t198, t199, t200, t201, t202, t203, t204, t205, t206, t207, t208, t209, t210, t211, t212, t213, t214, t215, t216, t217, t218, t219, t220, t221, t222, t223, t224, t225, t226, t227, t228, t229, t230, t231, t232, t233, t234, t235, t236, t237, t238, t239, t240, t241, t242, t243, t244, t245, t246, t247, t248, t249, t250, t251, t252, t253, t254, t255, t256, t257, t258, t259, t260, t261, t262, t263, t264, t265, t266, t267, t268, t269, t270, t271, t272, t273, t274, t275, t276, t277, x278, x279, x280, x281, x282, x283, x284, x285, x286, x287, x288, t289, t290], defers := ds } w') :
    (loopOf 41).wp Tryz.prog (Exit.inBlock 14 (Exit.then K Q)) { tmps := #[t0, t1, t2, t3, t4, t5, t6, .slice (some ⟨gh, 0, none⟩) 8 ch, t8, t9, t10, t11, t12, t13, t14, t15, t16, t17, t18, t19, t20, t21, t22, t23, v0, .int .i64 0, t26, t27, t28, t29, t30, t31, t32, t33, t34, t35, t36, t37, t38, t39, t40, t41, t42, t43, t44, t45, t46, t47, t48, t49, t50, t51, t52, t53, t54, t55, t56, t57, t58, t59, t60, t61, t62, t63, t64, t65, t66, t67, t68, t69, t70, t71, t72, t73, t74, t75, t76, t77, t78, t79, t80, t81, t82, t83, t84, t85, t86, t87, t88, t89, t90, t91, t92, t93, t94, t95, t96, t97, t98, t99, t100, t101, t102, t103, t104, t105, t106, t107, t108, t109, t110, t111, t112, t113, t114, t115, t116, t117, t118, t119, t120, t121, t122, t123, t124, t125, t126, t127, t128, t129, t130, t131, t132, t133, t134, t135, t136, t137, t138, t139, t140, t141, t142, t143, t144, t145, t146, t147, t148, t149, t150, t151, t152, t153, t154, t155, t156, t157, t158, t159, t160, t161, t162, t163, t164, t165, t166, t167, t168, t169, t170, t171, t172, t173, t174, t175, t176, t177, t178, t179, t180, t181, t182, t183, t184, t185, t186, t187, t188, t189, t190, t191, t192, t193, t194, t195, t196, t197, t198, t199, t200, t201, t202, t203, t204, t205, t206, t207, t208, t209, t210, t211, t212, t213, t214, t215, t216, t217, t218, t219, t220, t221, t222, t223, t224, t225, t226, t227, t228, t229, t230, t231, t232, t233, t234, t235, t236, t237, t238, t239, t240, t241, t242, t243, t244, t245, t246, t247, t248, t249, t250, t251, t252, t253, t254, t255, t256, t257, t258, t259, t260, t261, t262, t263, t264, t265, t266, t267, t268, t269, t270, t271, t272, t273, t274, t275, t276, t277, t278, t279, t280, t281, t282, t283, t284, t285, t286, t287, t288, t289, t290], defers := ds } w := by
  have HH := Lib.hid h
  clear h
  simp only [loopOf, findL, head1, Tryz.f151, Option.bind_some, Option.or, Option.getD, Nat.reduceEqDiff, if_true, if_false, reduceIte]
  have HA := Lib.hid hgh
  have HV := Lib.hid hv
  have HL := Lib.hid hl
  have HGB := Lib.hid hgB
  have HBB := Lib.hid hB
  clear hgh hv hl hgB hB
  go_loopw [24, 25] (fun v i wr => ∃ k : Nat, k ≤ 8 ∧ i = .int .i64 k ∧ Rm B v (textL (h.take k)) wr ∧ Below B w wr) (fun _ i _ => 8 - (intOf i).toNat)
  case atStart => exact ⟨0, by omega, rfl, HV.out, Below.refl _ _⟩
  case round =>
    obtain ⟨k, hk, rfl, hr, hb⟩ := hrel
    have HR := Lib.hid hr
    have HW := Lib.hid hb
    clear hr hb HV
    by_cases hk8 : k < 8
    · have hkh : k < h.length := by rw [HL.out]; exact hk8
      have ic : wr.cell? ⟨gh, k, none⟩ = some (.int .u32 ((h[k]).toNat : Int)) := (HW.out.cell (p := ⟨gh, k, none⟩) HGB.out).trans ((blk_cell HA.out k).trans (ws_get _ k hkh))
      have HS := Lib.hid (textL_snoc h k hkh)
      have HLN : Hid ((textL (h.take k)).length ≤ 32) := Lib.hid (by rw [textL_length, List.length_take]; omega)
      generalize h[k] = x at ic HS
      have F1 := Lib.hid (four31 x)
      go_wp2_with (first | (go_at_call 178; refine (F1.out _).mono ?_; rintro e w2 ⟨rfl, rfl⟩) | (at_builtin; refine app_m (B := B) (fourL x) _ 4 (.tmp 282) (.tmp 287) rfl rfl rfl rfl (Go.heap_alloc_new _ _) (HR.out.below ((Below.refl _ _).alloc (Nat.le_refl _) _)) (Nat.le_trans (Nat.le_trans HBB.out HW.out.size) (alloc_le _ _)) (by have := HLN.out; simp only [fourL_length]; omega) ?_; intro v2 w2 hr hb _; rw [← HS.out] at hr; have HR2 := Lib.hid hr; have HB2 := Lib.hid ((HW.out.alloc (Nat.le_trans HBB.out HW.out.size) _).trans hb); clear hr hb))
      go_roundw
      case rel => exact ⟨k + 1, by omega, by go_num, HR2.out, HB2.out⟩
      case measure => simp [intOf]; omega
    · obtain rfl : k = 8 := by omega
      rw [show h.take 8 = h from List.take_of_length_le (by rw [HL.out]; exact Nat.le_refl _)] at HR
      go_wp2_with fail
      exact HH.out _ _ _ _ _ _ _ _ _ _ _ _ wr HR.out HW.out
set_option maxHeartbeats 8000000 in
set_option maxRecDepth 100000 in
theorem numbers (gb cb gw o : Nat) (p b : List UInt8) (hb : b = (p.drop o).take 64) (hgb : gb < gw) (ho : o + 64 ≤ p.length) (hpm : p.length ≤ 140737488355328) (w : World) (hcb : ∀ i (hi : i < p.length), w.cell? ⟨gb, i, none⟩ = some (.int .u8 ((p[i]).toNat : Int))) (hw : w.heap[gw]? = some (.cells (ws (wTo b 0)) 111 (0, 0)))
    {t0 t1 t2 t3 t4 t6 t7 t8 t9 t13 t14 t15 t16 t17 t18 t19 t20 t21 t22 t23 t24 t25 t26 t27 t28 t29 t30 t31 t32 t33 t34 t35 t36 t37 t38 t39 t40 t41 t42 t43 t44 t45 t46 t47 t48 t49 t50 t51 t52 t53 t54 t55 t56 t57 t58 t59 t60 t61 t62 t63 t64 t65 t66 t67 t68 t69 t70 t71 t72 t73 t74 t75 t76 t77 t78 t79 t80 t81 t82 t83 t84 t85 t86 t87 t88 t89 t90 t91 t92 t93 t94 t95 t96 t97 t98 t99 t100 t101 t102 t103 t104 t105 t106 t107 t108 t109 t110 t111 t112 t113 t114 t115 t116 t117 t118 t119 t120 t121 t122 t123 t124 t125 t126 t127 t128 t129 t130 t131 t132 t133 t134 t135 t136 t137 t138 t139 t140 t141 t142 t143 t144 t145 t146 t147 t148 t149 t150 t151 t152 t153 t154 t155 t156 t157 t158 t159 t160 t161 t162 t163 t164 t165 t166 t167 t168 t169 t170 t171 t172 t173 t174 t175 t176 t177 t178 t179 t180 t181 t182 t183 t184 t185 t186 t187 t188 t189 t190 t191 t192 t193 t194 t195 t196 t197 t198 t199 t200 t201 t202 t203 t204 t205 t206 t207 t208 t209 t210 t211 t212 t213 t214 t215 t216 t217 t218 t219 t220 t221 t222 t223 t224 t225 t226 t227 t228 t229 t230 t231 t232 t233 t234 t235 t236 t237 t238 t239 t240 t241 t242 t243 t244 t245 t246 t247 t248 t249 t250 t251 t252 t253 t254 t255 t256 t257 t258 t259 t260 t261 t262 t263 t264 t265 t266 t267 t268 t269 t270 t271 t272 t273 t274 t275 t276 t277 t278 t279 t280 t281 t282 t283 t284 t285 t286 t287 t288 t289 t290 : Value} {ds : List Deferred} {K : Act → World → Prop} {Q : Exit → Act → World → Prop}
    (h : ∀ (x13 x74 x75 x76 x77 x78 x79 x80 x81 x82 x83 x84 x85 x86 x87 x88 x89 x90 x91 x92 x93 x94 x95 x96 x97 x98 x99 x100 x101 x102 x103 x104 x105 x106 x107 x108 x109 x110 x111 x112 x113 : Value) (w' : World), w'.heap[gw]? = some (.cells (ws (wTo b 16)) 111 (0, 0)) → Below gw w w' → K { tmps := #[t0, t1, t2, t3, t4, .slice (some ⟨gb, 0, none⟩) p.length cb, t6, t7, t8, t9, .int .i64 (o : Int), .slice (some ⟨gw, 0, none⟩) 64 64, .int .i64 16, x13, t14, t15, t16, t17, t18, t19, t20, t21, t22, t23, t24, t25, t26, t27, t28, t29, t30, t31, t32, t33, t34, t35, t36, t37, t38, t39, t40, t41, t42, t43, t44, t45, t46, t47, t48, t49, t50, t51, t52, t53, t54, t55, t56, t57, t58, t59, t60, t61, t62, t63, t64, t65, t66, t67, t68, t69, t70, t71, t72, t73, x74, x75, x76, x77, x78, x79, x80, x81, x82, x83, x84, x85, x86, x87, x88, x89, x90, x91, x92, x93, x94, x95, x96, x97, x98, x99, x100, x101, x102, x103, x104, x105, x106, x107, x108, x109, x110, x111, x112, x113, t114, t115, t116, t117, t118, t119, t120, t121, t122, t123, t124, t125, t126, t127, t128, t129, t130, t131, t132, t133, t134, t135, t136, t137, t138, t139, t140, t141, t142, t143, t144, t145, t146, t147, t148, t149, t150, t151, t152, t153, t154, t155, t156, t157, t158, t159, t160, t161, t162, t163, t164, t165, t166, t167, t168, t169, t170, t171, t172, t173, t174, t175, t176, t177, t178, t179, t180, t181, t182, t183, t184, t185, t186, t187, t188, t189, t190, t191, t192, t193, t194, t195, t196, t197, t198, t199, t200, t201, t202, t203, t204, t205, t206, t207, t208, t209, t210, t211, t212, t213, t214, t215, t216, t217, t218, t219, t220, t221, t222, t223, t224, t225, t226, t227, t228, t229, t230, t231, t232, t233, t234, t235, t236, t237, t238, t239, t240, t241, t242, t243, t244, t245, t246, t247, t248, t249, t250, t251, t252, t253, t254, t255, t256, t257, t258, t259, t260, t261, t262, t263, t264, t265, t266, t267, t268, t269, t270, t271, t272, t273, t274, t275, t276, t277, t278, t279, t280, t281, t282, t283, t284, t285, t286, t287, t288, t289, t290], defers := ds } w') :
    (loopOf 18).wp Tryz.prog (Exit.inBlock 6 (Exit.then K Q)) { tmps := #[t0, t1, t2, t3, t4, .slice (some ⟨gb, 0, none⟩) p.length cb, t6, t7, t8, t9, .int .i64 (o : Int), .slice (some ⟨gw, 0, none⟩) 64 64, .int .i64 0, t13, t14, t15, t16, t17, t18, t19, t20, t21, t22, t23, t24, t25, t26, t27, t28, t29, t30, t31, t32, t33, t34, t35, t36, t37, t38, t39, t40, t41, t42, t43, t44, t45, t46, t47, t48, t49, t50, t51, t52, t53, t54, t55, t56, t57, t58, t59, t60, t61, t62, t63, t64, t65, t66, t67, t68, t69, t70, t71, t72, t73, t74, t75, t76, t77, t78, t79, t80, t81, t82, t83, t84, t85, t86, t87, t88, t89, t90, t91, t92, t93, t94, t95, t96, t97, t98, t99, t100, t101, t102, t103, t104, t105, t106, t107, t108, t109, t110, t111, t112, t113, t114, t115, t116, t117, t118, t119, t120, t121, t122, t123, t124, t125, t126, t127, t128, t129, t130, t131, t132, t133, t134, t135, t136, t137, t138, t139, t140, t141, t142, t143, t144, t145, t146, t147, t148, t149, t150, t151, t152, t153, t154, t155, t156, t157, t158, t159, t160, t161, t162, t163, t164, t165, t166, t167, t168, t169, t170, t171, t172, t173, t174, t175, t176, t177, t178, t179, t180, t181, t182, t183, t184, t185, t186, t187, t188, t189, t190, t191, t192, t193, t194, t195, t196, t197, t198, t199, t200, t201, t202, t203, t204, t205, t206, t207, t208, t209, t210, t211, t212, t213, t214, t215, t216, t217, t218, t219, t220, t221, t222, t223, t224, t225, t226, t227, t228, t229, t230, t231, t232, t233, t234, t235, t236, t237, t238, t239, t240, t241, t242, t243, t244, t245, t246, t247, t248, t249, t250, t251, t252, t253, t254, t255, t256, t257, t258, t259, t260, t261, t262, t263, t264, t265, t266, t267, t268, t269, t270, t271, t272, t273, t274, t275, t276, t277, t278, t279, t280, t281, t282, t283, t284, t285, t286, t287, t288, t289, t290], defers := ds } w := by
  have HH := Lib.hid h
  clear h
  simp only [loopOf, findL, head1, Tryz.f151, Option.bind_some, Option.or, Option.getD, Nat.reduceEqDiff, if_true, if_false, reduceIte]
  have HA := Lib.hid hw
  have HCB := Lib.hid hcb
  have HBB := Lib.hid hb
  have HGB := Lib.hid hgb
  have HOL := Lib.hid ho
  have HPM := Lib.hid hpm
  clear hw hcb hb hgb ho hpm
  go_loopw [12] (fun i wr => ∃ k : Nat, k ≤ 16 ∧ i = .int .i64 k ∧ wr.heap[gw]? = some (.cells (ws (wTo b k)) 111 (0, 0)) ∧ Below gw w wr) (fun i _ => 16 - (intOf i).toNat)
  case atStart => exact ⟨0, by omega, rfl, HA.out, Below.refl _ _⟩
  case round =>
    obtain ⟨k, hk, rfl, ha, hb⟩ := hrel
    have HA2 := Lib.hid ha
    have HB2 := Lib.hid hb
    clear ha hb HA
    by_cases hk16 : k < 16
    · have hol := HOL.out
      have hpm := HPM.out
      have CC : Hid (∀ c : Nat, c < 4 → wr.cell? ⟨gb, o + 4 * k + c, none⟩ = some (.int .u8 ((b.getD (4 * k + c) 0).toNat : Int))) := Lib.hid (fun c hc4 => by
        rw [HB2.out.cell (p := ⟨gb, o + 4 * k + c, none⟩) HGB.out, HCB.out (o + 4 * k + c) (by omega), HBB.out, chunk_get p o (4 * k + c) (by omega) (by omega)]
        simp only [Nat.add_assoc])
      have CK := Lib.hid ((blk_cell HA2.out k).trans (ws_get _ _ (by rw [wTo_len]; omega)))
      have FK := Lib.hid (Lib.frozen_of_heap HA2.out k)
      have HWS := Lib.hid (wTo_succ b k hk16)
      go_wp2_with fail
      rw [show ((o : Int) + 4 * (k : Int)) = ((o + 4 * k : Nat) : Int) from by omega]
      refine r21 gb cb gw k (o + 4 * k) p.length (b.getD (4 * k) 0) (b.getD (4 * k + 1) 0) (b.getD (4 * k + 2) 0) (b.getD (4 * k + 3) 0) _ (by omega) (by omega) hpm wr (by simpa using CC.out 0 (by decide)) (CC.out 1 (by decide)) (CC.out 2 (by decide)) (CC.out 3 (by decide)) CK.out FK.out ?_
      intros
      rename_i w' wm sm e
      have HN : Hid (w'.heap[gw]? = some (.cells (ws (wTo b (k + 1))) 111 (0, 0))) := Lib.hid (by
        rw [e]
        have := blk_put (w := wm) (b := gw) (cs := ws (wTo b k)) (T := 111) (z := (0, 0)) (by rw [sm.2.2.2]; exact HA2.out) k (.int .u32 ((word4 (b.getD (4 * k) 0) (b.getD (4 * k + 1) 0) (b.getD (4 * k + 2) 0) (b.getD (4 * k + 3) 0)).toNat : Int))
        rw [ws_set, HWS.out] at this
        exact this)
      have HWN : Hid (Below gw w w') := Lib.hid (by rw [e]; exact (sm.below HB2.out).setCell (p := ⟨gw, k, none⟩) (Nat.le_refl _) _)
      clear e sm CC CK FK HWS HA2 HB2
      go_wp2_with fail
      go_roundw
      case rel => exact ⟨k + 1, by omega, by go_num, HN.out, HWN.out⟩
      case measure => simp [intOf]; omega
    · obtain rfl : k = 16 := by omega
      go_wp2_with fail
      exact HH.out _ _ _ _ _ _ _ _ _ _ _ _ _ _ _ _ _ _ _ _ _ _ _ _ _ _ _ _ _ _ _ _ _ _ _ _ _ _ _ _ _ wr HA2.out HB2.out
set_option maxHeartbeats 8000000 in
set_option maxRecDepth 100000 in
theorem spreads (gw : Nat) (l : List UInt32) (hl : l.length = 16) (w : World) (hw : w.heap[gw]? = some (.cells (ws (spreadTo l 16)) 111 (0, 0)))
    {t0 t1 t2 t3 t4 t5 t6 t7 t8 t9 t10 t12 t13 t15 t16 t17 t18 t19 t20 t21 t22 t23 t24 t25 t26 t27 t28 t29 t30 t31 t32 t33 t34 t35 t36 t37 t38 t39 t40 t41 t42 t43 t44 t45 t46 t47 t48 t49 t50 t51 t52 t53 t54 t55 t56 t57 t58 t59 t60 t61 t62 t63 t64 t65 t66 t67 t68 t69 t70 t71 t72 t73 t74 t75 t76 t77 t78 t79 t80 t81 t82 t83 t84 t85 t86 t87 t88 t89 t90 t91 t92 t93 t94 t95 t96 t97 t98 t99 t100 t101 t102 t103 t104 t105 t106 t107 t108 t109 t110 t111 t112 t113 t114 t115 t116 t117 t118 t119 t120 t121 t122 t123 t124 t125 t126 t127 t128 t129 t130 t131 t132 t133 t134 t135 t136 t137 t138 t139 t140 t141 t142 t143 t144 t145 t146 t147 t148 t149 t150 t151 t152 t153 t154 t155 t156 t157 t158 t159 t160 t161 t162 t163 t164 t165 t166 t167 t168 t169 t170 t171 t172 t173 t174 t175 t176 t177 t178 t179 t180 t181 t182 t183 t184 t185 t186 t187 t188 t189 t190 t191 t192 t193 t194 t195 t196 t197 t198 t199 t200 t201 t202 t203 t204 t205 t206 t207 t208 t209 t210 t211 t212 t213 t214 t215 t216 t217 t218 t219 t220 t221 t222 t223 t224 t225 t226 t227 t228 t229 t230 t231 t232 t233 t234 t235 t236 t237 t238 t239 t240 t241 t242 t243 t244 t245 t246 t247 t248 t249 t250 t251 t252 t253 t254 t255 t256 t257 t258 t259 t260 t261 t262 t263 t264 t265 t266 t267 t268 t269 t270 t271 t272 t273 t274 t275 t276 t277 t278 t279 t280 t281 t282 t283 t284 t285 t286 t287 t288 t289 t290 : Value} {ds : List Deferred} {K : Act → World → Prop} {Q : Exit → Act → World → Prop}
    (h : ∀ (x15 x16 x114 x115 x116 x117 x118 x119 x120 x121 x122 x123 x124 x125 x126 x127 x128 x129 x130 x131 x132 x133 x134 x135 x136 x137 x138 x139 x140 x141 x142 x143 x144 x145 x146 x147 x148 x149 x150 x151 x152 x153 x154 x155 x156 x157 x158 x159 : Value) (w' : World), w'.heap[gw]? = some (.cells (ws (spreadL l)) 111 (0, 0)) → Below gw w w' → K { tmps := #[t0, t1, t2, t3, t4, t5, t6, t7, t8, t9, t10, .slice (some ⟨gw, 0, none⟩) 64 64, t12, t13, .int .i64 64, x15, x16, t17, t18, t19, t20, t21, t22, t23, t24, t25, t26, t27, t28, t29, t30, t31, t32, t33, t34, t35, t36, t37, t38, t39, t40, t41, t42, t43, t44, t45, t46, t47, t48, t49, t50, t51, t52, t53, t54, t55, t56, t57, t58, t59, t60, t61, t62, t63, t64, t65, t66, t67, t68, t69, t70, t71, t72, t73, t74, t75, t76, t77, t78, t79, t80, t81, t82, t83, t84, t85, t86, t87, t88, t89, t90, t91, t92, t93, t94, t95, t96, t97, t98, t99, t100, t101, t102, t103, t104, t105, t106, t107, t108, t109, t110, t111, t112, t113, x114, x115, x116, x117, x118, x119, x120, x121, x122, x123, x124, x125, x126, x127, x128, x129, x130, x131, x132, x133, x134, x135, x136, x137, x138, x139, x140, x141, x142, x143, x144, x145, x146, x147, x148, x149, x150, x151, x152, x153, x154, x155, x156, x157, x158, x159, t160, t161, t162, t163, t164, t165, t166, t167, t168, t169, t170, t171, t172, t173, t174, t175, t176, t177, t178, t179, t180, t181, t182, t183, t184, t185, t186, t187, t188, t189, t190, t191, t192, t193, t194, t195, t196, t197, t198, t199, t200, t201, t202, t203, t204, t205, t206, t207, t208, t209, t210, t211, t212, t213, t214, t215, t216, t217, t218, t219, t220, t221, t222, t223, t224, t225, t226, t227, t228, t229, t230, t231, t232, t233, t234, t235, t236, t237, t238, t239, t240, t241, t242, t243, t244, t245, t246, t247, t248, t249, t250, t251, t252, t253, t254, t255, t256, t257, t258, t259, t260, t261, t262, t263, t264, t265, t266, t267, t268, t269, t270, t271, t272, t273, t274, t275, t276, t277, t278, t279, t280, t281, t282, t283, t284, t285, t286, t287, t288, t289, t290], defers := ds } w') :
    (loopOf 23).wp Tryz.prog (Exit.inBlock 8 (Exit.then K Q)) { tmps := #[t0, t1, t2, t3, t4, t5, t6, t7, t8, t9, t10, .slice (some ⟨gw, 0, none⟩) 64 64, t12, t13, .int .i64 16, t15, t16, t17, t18, t19, t20, t21, t22, t23, t24, t25, t26, t27, t28, t29, t30, t31, t32, t33, t34, t35, t36, t37, t38, t39, t40, t41, t42, t43, t44, t45, t46, t47, t48, t49, t50, t51, t52, t53, t54, t55, t56, t57, t58, t59, t60, t61, t62, t63, t64, t65, t66, t67, t68, t69, t70, t71, t72, t73, t74, t75, t76, t77, t78, t79, t80, t81, t82, t83, t84, t85, t86, t87, t88, t89, t90, t91, t92, t93, t94, t95, t96, t97, t98, t99, t100, t101, t102, t103, t104, t105, t106, t107, t108, t109, t110, t111, t112, t113, t114, t115, t116, t117, t118, t119, t120, t121, t122, t123, t124, t125, t126, t127, t128, t129, t130, t131, t132, t133, t134, t135, t136, t137, t138, t139, t140, t141, t142, t143, t144, t145, t146, t147, t148, t149, t150, t151, t152, t153, t154, t155, t156, t157, t158, t159, t160, t161, t162, t163, t164, t165, t166, t167, t168, t169, t170, t171, t172, t173, t174, t175, t176, t177, t178, t179, t180, t181, t182, t183, t184, t185, t186, t187, t188, t189, t190, t191, t192, t193, t194, t195, t196, t197, t198, t199, t200, t201, t202, t203, t204, t205, t206, t207, t208, t209, t210, t211, t212, t213, t214, t215, t216, t217, t218, t219, t220, t221, t222, t223, t224, t225, t226, t227, t228, t229, t230, t231, t232, t233, t234, t235, t236, t237, t238, t239, t240, t241, t242, t243, t244, t245, t246, t247, t248, t249, t250, t251, t252, t253, t254, t255, t256, t257, t258, t259, t260, t261, t262, t263, t264, t265, t266, t267, t268, t269, t270, t271, t272, t273, t274, t275, t276, t277, t278, t279, t280, t281, t282, t283, t284, t285, t286, t287, t288, t289, t290], defers := ds } w := by
  have HH := Lib.hid h
  clear h
  simp only [loopOf, findL, head1, Tryz.f151, Option.bind_some, Option.or, Option.getD, Nat.reduceEqDiff, if_true, if_false, reduceIte]
  have HA := Lib.hid hw
  have HNL := Lib.hid hl
  clear hw hl
  go_loopw [14] (fun i wq => ∃ k : Nat, 16 ≤ k ∧ k ≤ 64 ∧ i = .int .i64 k ∧ wq.heap[gw]? = some (.cells (ws (spreadTo l k)) 111 (0, 0)) ∧ Below gw w wq) (fun i _ => 64 - (intOf i).toNat)
  case atStart => exact ⟨16, by omega, by omega, rfl, HA.out, Below.refl _ _⟩
  case round =>
    obtain ⟨k, hk, hk2, rfl, ha, hb⟩ := hrel
    have HA3 := Lib.hid ha
    have HB3 := Lib.hid hb
    clear ha hb HA
    by_cases hlt : k < 64
    · have hln := spread_length' l HNL.out k hk
      have HN := Lib.hid (spread_succ l k hk)
      have C16 := Lib.hid ((blk_cell HA3.out (k - 16)).trans (ws_get _ _ (by omega)))
      have C15 := Lib.hid ((blk_cell HA3.out (k - 15)).trans (ws_get _ _ (by omega)))
      have C7 := Lib.hid ((blk_cell HA3.out (k - 7)).trans (ws_get _ _ (by omega)))
      have C2 := Lib.hid ((blk_cell HA3.out (k - 2)).trans (ws_get _ _ (by omega)))
      have CK := Lib.hid ((blk_cell HA3.out k).trans (ws_get _ _ (by omega)))
      have FK := Lib.hid (Lib.frozen_of_heap HA3.out k)
      unfold sstep at HN
      have e16 : (spreadTo l k).getD (k - 16) 0 = (spreadTo l k)[k - 16]'(by omega) := by simp [List.getD, show k - 16 < (spreadTo l k).length by omega]
      have e15 : (spreadTo l k).getD (k - 15) 0 = (spreadTo l k)[k - 15]'(by omega) := by simp [List.getD, show k - 15 < (spreadTo l k).length by omega]
      have e7 : (spreadTo l k).getD (k - 7) 0 = (spreadTo l k)[k - 7]'(by omega) := by simp [List.getD, show k - 7 < (spreadTo l k).length by omega]
      have e2 : (spreadTo l k).getD (k - 2) 0 = (spreadTo l k)[k - 2]'(by omega) := by simp [List.getD, show k - 2 < (spreadTo l k).length by omega]
      rw [e16, e15, e7, e2] at HN
      clear e16 e15 e7 e2
      generalize (spreadTo l k)[k - 16]'(by omega) = a16 at C16 HN
      generalize (spreadTo l k)[k - 15]'(by omega) = a15 at C15 HN
      generalize (spreadTo l k)[k - 7]'(by omega) = a7 at C7 HN
      generalize (spreadTo l k)[k - 2]'(by omega) = a2 at C2 HN
      obtain ⟨Y, hY⟩ : ∃ Y, a16 + sig0 a15 + a7 + sig1 a2 = Y := ⟨_, rfl⟩
      rw [hY] at HN
      have HY := Lib.hid hY
      clear hY
      go_wp2_with fail
      refine r25 gw k a15 a2 hk hlt wr C15.out C2.out ?_
      intros
      rename_i wa sa
      have SA := Lib.hid sa
      clear sa
      go_wp2_with fail
      refine r26 gw k a16 a15 a7 a2 Y _ hk hlt HY.out wa (SA.out.cell C16.out) (SA.out.cell C7.out) (SA.out.cell CK.out) (by rw [World.frozen?_of_block (w := wr) (by rw [SA.out.2.2.2])]; exact FK.out) ?_
      intros
      rename_i w' wm sm e
      have SM := Lib.hid (SA.out.trans sm)
      have HN2 : Hid (w'.heap[gw]? = some (.cells (ws (spreadTo l (k + 1))) 111 (0, 0))) := Lib.hid (by
        rw [e]
        have := blk_put (w := wm) (b := gw) (cs := ws (spreadTo l k)) (T := 111) (z := (0, 0)) (by rw [SM.out.2.2.2]; exact HA3.out) k (.int .u32 (Y.toNat : Int))
        rw [ws_set, ← HN.out] at this
        exact this)
      have HWN : Hid (Below gw w w') := Lib.hid (by rw [e]; exact (SM.out.below HB3.out).setCell (p := ⟨gw, k, none⟩) (Nat.le_refl _) _)
      clear e sm SM SA C16 C15 C7 C2 CK FK HN HY HA3 HB3
      go_wp2_with fail
      go_roundw
      case rel => exact ⟨k + 1, by omega, by omega, by go_num, HN2.out, HWN.out⟩
      case measure => simp [intOf]; omega
    · obtain rfl : k = 64 := by omega
      go_wp2_with fail
      exact HH.out _ _ _ _ _ _ _ _ _ _ _ _ _ _ _ _ _ _ _ _ _ _ _ _ _ _ _ _ _ _ _ _ _ _ _ _ _ _ _ _ _ _ _ _ _ _ _ _ wr HA3.out HB3.out
end Go.Proofs.YtpggkfdijmnmiaaGreat.Hs
namespace Go.Proofs.YtpggkfdijmnmiaaGreat.Hs
open Go.RowKit Go.Sort
theorem rk_nil (w : World) : Rk w.heap.size (.slice (some ⟨w.heap.size, 0, none⟩) 0 0) [] (w.alloc (.cells #[] 111)) :=
  ⟨rfl, .inr ⟨w.heap.size, 0, #[], rfl, Nat.le_refl _, Go.heap_alloc_new w _, Nat.le_refl _, Nat.zero_le _, rfl, rfl⟩⟩
theorem made_ws (n : Nat) : madeCells (Value.int .u32 0).cells (n * 1) = ws (List.replicate n 0) := by
  apply Array.ext
  · simp [ws, madeCells]
  · intro i h1 h2
    simp [ws, madeCells, Value.cells, Nat.mod_one]
theorem make_u32 (w : World) (n : Nat) (hn : n ≤ 100000) : (Instr.makeSlice 69 (.int .i64 (n : Int)) (.int .i64 (n : Int))).run Tryz.prog w = .ok (.slice (some ⟨w.heap.size, 0, none⟩) n n) (w.alloc (.cells (ws (List.replicate n 0)) 111)) := by
  obtain ⟨i0, hi, hz0, hz1, hz2⟩ := info_parts info35
  have := run_make (P := Tryz.prog) w 69 111 i0 (.int .u32 0) Tryz.underlying69 hi hz0 .i64 .i64 n n (by omega) (Int.le_refl _) (by rw [hz2]; omega) (by omega)
  rw [hz1] at this
  simp only [Int.toNat_natCast] at this
  rw [this, made_ws]
set_option maxHeartbeats 8000000 in
set_option maxRecDepth 100000 in
theorem blocks (gb cb gh gk ck NB : Nat) (p : List UInt8) (hpl : p.length = 64 * NB) (hpm : p.length ≤ 140737488355328) (w : World) (hgb : gb < gh) (hcb : ∀ i (hi : i < p.length), w.cell? ⟨gb, i, none⟩ = some (.int .u8 ((p[i]).toNat : Int)))
    (hgk : gk < gh) (hkk : ∀ i, i < 64 → w.cell? ⟨gk, i, none⟩ = some (.int .u32 ((kL.getD i 0).toNat : Int))) (ha : w.heap[gh]? = some (.cells (ws firstL) 111 (0, 0)))
    {t0 t2 t3 t4 t6 t8 t9 t11 t12 t13 t14 t15 t16 t17 t18 t19 t20 t21 t22 t23 t24 t25 t26 t27 t28 t29 t30 t31 t32 t33 t34 t35 t36 t37 t38 t39 t40 t41 t42 t43 t44 t45 t46 t47 t48 t49 t50 t51 t52 t53 t54 t55 t56 t57 t58 t59 t60 t61 t62 t63 t64 t65 t66 t67 t68 t69 t70 t71 t72 t73 t74 t75 t76 t77 t78 t79 t80 t81 t82 t83 t84 t85 t86 t87 t88 t89 t90 t91 t92 t93 t94 t95 t96 t97 t98 t99 t100 t101 t102 t103 t104 t105 t106 t107 t108 t109 t110 t111 t112 t113 t114 t115 t116 t117 t118 t119 t120 t121 t122 t123 t124 t125 t126 t127 t128 t129 t130 t131 t132 t133 t134 t135 t136 t137 t138 t139 t140 t141 t142 t143 t144 t145 t146 t147 t148 t149 t150 t151 t152 t153 t154 t155 t156 t157 t158 t159 t160 t161 t162 t163 t164 t165 t166 t167 t168 t169 t170 t171 t172 t173 t174 t175 t176 t177 t178 t179 t180 t181 t182 t183 t184 t185 t186 t187 t188 t189 t190 t191 t192 t193 t194 t195 t196 t197 t198 t199 t200 t201 t202 t203 t204 t205 t206 t207 t208 t209 t210 t211 t212 t213 t214 t215 t216 t217 t218 t219 t220 t221 t222 t223 t224 t225 t226 t227 t228 t229 t230 t231 t232 t233 t234 t235 t236 t237 t238 t239 t240 t241 t242 t243 t244 t245 t246 t247 t248 t249 t250 t251 t252 t253 t254 t255 t256 t257 t258 t259 t260 t261 t262 t263 t264 t265 t266 t267 t268 t269 t270 t271 t272 t273 t274 t275 t276 t277 t278 t279 t280 t281 t282 t283 t284 t285 t286 t287 t288 t289 t290 : Value} {ds : List Deferred} {K : Act → World → Prop} {Q : Exit → Act → World → Prop}
    (h : ∀ (x11 x12 x13 x14 x15 x16 x17 x18 x19 x20 x21 x22 x23 x67 x68 x69 x70 x71 x72 x73 x74 x75 x76 x77 x78 x79 x80 x81 x82 x83 x84 x85 x86 x87 x88 x89 x90 x91 x92 x93 x94 x95 x96 x97 x98 x99 x100 x101 x102 x103 x104 x105 x106 x107 x108 x109 x110 x111 x112 x113 x114 x115 x116 x117 x118 x119 x120 x121 x122 x123 x124 x125 x126 x127 x128 x129 x130 x131 x132 x133 x134 x135 x136 x137 x138 x139 x140 x141 x142 x143 x144 x145 x146 x147 x148 x149 x150 x151 x152 x153 x154 x155 x156 x157 x158 x159 x160 x161 x162 x163 x164 x165 x166 x167 x168 x169 x170 x171 x172 x173 x174 x175 x176 x177 x178 x179 x180 x181 x182 x183 x184 x185 x186 x187 x188 x189 x190 x191 x192 x193 x194 x195 x196 x197 x198 x199 x200 x201 x202 x203 x204 x205 x206 x207 x208 x209 x210 x211 x212 x213 x214 x215 x216 x217 x218 x219 x220 x221 x222 x223 x224 x225 x226 x227 x228 x229 x230 x231 x232 x233 x234 x235 x236 x237 x238 x239 x240 x241 x242 x243 x244 x245 x246 x247 x248 x249 x250 x251 x252 x253 x254 x255 x256 x257 x258 x259 x260 x261 x262 x263 x264 x265 x266 x267 x268 x269 x270 x271 x272 x273 x274 x275 x276 : Value) (w' : World), w'.heap[gh]? = some (.cells (ws (thrL NB firstL p)) 111 (0, 0)) → Below gh w w' → K { tmps := #[t0, .slice (some ⟨gk, 0, none⟩) 64 ck, t2, t3, t4, .slice (some ⟨gb, 0, none⟩) p.length cb, t6, .slice (some ⟨gh, 0, none⟩) 8 8, t8, t9, .int .i64 (p.length : Int), x11, x12, x13, x14, x15, x16, x17, x18, x19, x20, x21, x22, x23, t24, t25, t26, t27, t28, t29, t30, t31, t32, t33, t34, t35, t36, t37, t38, t39, t40, t41, t42, t43, t44, t45, t46, t47, t48, t49, t50, t51, t52, t53, t54, t55, t56, t57, t58, t59, t60, t61, t62, t63, t64, t65, t66, x67, x68, x69, x70, x71, x72, x73, x74, x75, x76, x77, x78, x79, x80, x81, x82, x83, x84, x85, x86, x87, x88, x89, x90, x91, x92, x93, x94, x95, x96, x97, x98, x99, x100, x101, x102, x103, x104, x105, x106, x107, x108, x109, x110, x111, x112, x113, x114, x115, x116, x117, x118, x119, x120, x121, x122, x123, x124, x125, x126, x127, x128, x129, x130, x131, x132, x133, x134, x135, x136, x137, x138, x139, x140, x141, x142, x143, x144, x145, x146, x147, x148, x149, x150, x151, x152, x153, x154, x155, x156, x157, x158, x159, x160, x161, x162, x163, x164, x165, x166, x167, x168, x169, x170, x171, x172, x173, x174, x175, x176, x177, x178, x179, x180, x181, x182, x183, x184, x185, x186, x187, x188, x189, x190, x191, x192, x193, x194, x195, x196, x197, x198, x199, x200, x201, x202, x203, x204, x205, x206, x207, x208, x209, x210, x211, x212, x213, x214, x215, x216, x217, x218, x219, x220, x221, x222, x223, x224, x225, x226, x227, x228, x229, x230, x231, x232, x233, x234, x235, x236, x237, x238, x239, x240, x241, x242, x243, x244, x245, x246, x247, x248, x249, x250, x251, x252, x253, x254, x255, x256, x257, x258, x259, x260, x261, x262, x263, x264, x265, x266, x267, x268, x269, x270, x271, x272, x273, x274, x275, x276, t277, t278, t279, t280, t281, t282, t283, t284, t285, t286, t287, t288, t289, t290], defers := ds } w') :
    (loopOf 14).wp Tryz.prog (Exit.inBlock 4 (Exit.then K Q)) { tmps := #[t0, .slice (some ⟨gk, 0, none⟩) 64 ck, t2, t3, t4, .slice (some ⟨gb, 0, none⟩) p.length cb, t6, .slice (some ⟨gh, 0, none⟩) 8 8, t8, t9, .int .i64 0, t11, t12, t13, t14, t15, t16, t17, t18, t19, t20, t21, t22, t23, t24, t25, t26, t27, t28, t29, t30, t31, t32, t33, t34, t35, t36, t37, t38, t39, t40, t41, t42, t43, t44, t45, t46, t47, t48, t49, t50, t51, t52, t53, t54, t55, t56, t57, t58, t59, t60, t61, t62, t63, t64, t65, t66, t67, t68, t69, t70, t71, t72, t73, t74, t75, t76, t77, t78, t79, t80, t81, t82, t83, t84, t85, t86, t87, t88, t89, t90, t91, t92, t93, t94, t95, t96, t97, t98, t99, t100, t101, t102, t103, t104, t105, t106, t107, t108, t109, t110, t111, t112, t113, t114, t115, t116, t117, t118, t119, t120, t121, t122, t123, t124, t125, t126, t127, t128, t129, t130, t131, t132, t133, t134, t135, t136, t137, t138, t139, t140, t141, t142, t143, t144, t145, t146, t147, t148, t149, t150, t151, t152, t153, t154, t155, t156, t157, t158, t159, t160, t161, t162, t163, t164, t165, t166, t167, t168, t169, t170, t171, t172, t173, t174, t175, t176, t177, t178, t179, t180, t181, t182, t183, t184, t185, t186, t187, t188, t189, t190, t191, t192, t193, t194, t195, t196, t197, t198, t199, t200, t201, t202, t203, t204, t205, t206, t207, t208, t209, t210, t211, t212, t213, t214, t215, t216, t217, t218, t219, t220, t221, t222, t223, t224, t225, t226, t227, t228, t229, t230, t231, t232, t233, t234, t235, t236, t237, t238, t239, t240, t241, t242, t243, t244, t245, t246, t247, t248, t249, t250, t251, t252, t253, t254, t255, t256, t257, t258, t259, t260, t261, t262, t263, t264, t265, t266, t267, t268, t269, t270, t271, t272, t273, t274, t275, t276, t277, t278, t279, t280, t281, t282, t283, t284, t285, t286, t287, t288, t289, t290], defers := ds } w := by
  have HH := Lib.hid h
  have HPL := Lib.hid hpl
  have HPM := Lib.hid hpm
  have HGB := Lib.hid hgb
  have HCB := Lib.hid hcb
  have HGK := Lib.hid hgk
  have HKK := Lib.hid hkk
  have HA := Lib.hid ha
  clear h hpl hpm hgb hcb hgk hkk ha
  simp only [loopOf, findL, head1, Tryz.f151, Option.bind_some, Option.or, Option.getD, Nat.reduceEqDiff, if_true, if_false, reduceIte]
  go_loopw [10] (fun i wr => ∃ j : Nat, 64 * j ≤ p.length ∧ i = .int .i64 ((64 * j : Nat) : Int) ∧ wr.heap[gh]? = some (.cells (ws (thrL j firstL p)) 111 (0, 0)) ∧ Below gh w wr) (fun i _ => p.length - (intOf i).toNat)
  case atStart => exact ⟨0, by omega, rfl, HA.out, Below.refl _ _⟩
  case round =>
    obtain ⟨j, hj, rfl, ha, hb⟩ := hrel
    have HA1 := Lib.hid ha
    have HB1 := Lib.hid hb
    clear ha hb HA
    generalize wr = wB at HA1 HB1 ⊢
    by_cases hjp : 64 * j < p.length
    · obtain ⟨o, ho⟩ : ∃ o, o = 64 * j := ⟨_, rfl⟩
      rw [← ho] at hjp hj ⊢
      have HO := Lib.hid ho
      clear ho
      have hpm := HPM.out
      go_wp2_with fail
      rw [show (64 : Int) = ((64 : Nat) : Int) from rfl, make_u32 wB 64 (by omega)]
      simp only [Result.andThen]
      rw [Oper.upon_value]
      obtain ⟨gw, hgw⟩ : ∃ gw, gw = wB.heap.size := ⟨_, rfl⟩
      obtain ⟨w8, hw8⟩ : ∃ w8, wB.alloc (.cells (ws (List.replicate 64 0)) 111) = w8 := ⟨_, rfl⟩
      obtain ⟨b, hb⟩ : ∃ b, b = (p.drop o).take 64 := ⟨_, rfl⟩
      have HW8 : Hid (w8.heap[gw]? = some (.cells (ws (wTo b 0)) 111 (0, 0))) := Lib.hid (by rw [← hw8, hgw, wTo_0]; exact Go.heap_alloc_new wB _)
      have HGWH : Hid (gh < gw) := Lib.hid (by rw [hgw]; exact blk_lt HA1.out)
      have HL8 : Hid (Below gw wB w8) := Lib.hid (by rw [← hw8, hgw]; exact (Below.refl _ _).alloc (Nat.le_refl _) _)
      have HBB := Lib.hid hb
      have HGWE := Lib.hid hgw
      rw [hw8, ← hgw]
      clear hw8 hgw hb
      have HOL : Hid (o + 64 ≤ p.length) := Lib.hid (by have := HO.out; have := HPL.out; omega)
      go_wp2_with fail
      refine numbers gb cb gw o p b HBB.out (by have := HGWH.out; have := HGB.out; omega) HOL.out HPM.out _ (fun i hi => (HL8.out.cell (p := ⟨gb, i, none⟩) (by have := HGWH.out; have := HGB.out; show gb < gw; omega)).trans ((HB1.out.cell (p := ⟨gb, i, none⟩) HGB.out).trans (HCB.out i hi))) HW8.out ?_
      intros
      rename_i wn n1 n2
      rw [wTo_16] at n1
      have HN1 := Lib.hid n1
      have HN2 := Lib.hid (HL8.out.trans n2)
      clear n1 n2 HW8 HL8
      have HNL := Lib.hid (show (numsL b).length = 16 from num_length b)
      go_wp2_with fail
      refine spreads gw (numsL b) HNL.out _ HN1.out ?_
      intros
      rename_i wq s1 s2
      have HA3 := Lib.hid s1
      have HB3 := Lib.hid (HN2.out.trans s2)
      clear s1 s2 HN1 HN2
      have HL3 := Lib.hid (thr_len j firstL p (by rfl))
      obtain ⟨h, hh⟩ : ∃ h, h = thrL j firstL p := ⟨_, rfl⟩
      have HH1 := Lib.hid hh
      rw [← hh] at HL3 HA1
      obtain ⟨ww, hww⟩ : ∃ ww, ww = spreadL (numsL b) := ⟨_, rfl⟩
      have HWW := Lib.hid hww
      have HA6 : Hid (wq.heap[gw]? = some (.cells (ws ww) 111 (0, 0))) := Lib.hid (by rw [hww]; exact HA3.out)
      have HWL : Hid (ww.length = 64) := Lib.hid (by rw [hww]; exact spr_length b)
      have HHq : Hid (wq.heap[gh]? = some (.cells (ws h) 111 (0, 0))) := Lib.hid ((HB3.out.block _ (by have := HGWH.out; omega)).trans HA1.out)
      have HX8 : Hid (∀ c : Nat, Value.slice (some ⟨gh, 0, none⟩) 8 c = Value.slice (some ⟨gh, 0, none⟩) h.length c) := Lib.hid (fun c => by rw [HL3.out])
      have HKq : Hid (∀ i, i < 64 → wq.cell? ⟨gk, i, none⟩ = some (.int .u32 ((kL.getD i 0).toNat : Int))) := Lib.hid (fun i hi => (HB3.out.cell (p := ⟨gk, i, none⟩) (by have := HGK.out; have := HGWH.out; show gk < gw; omega)).trans ((HB1.out.cell (p := ⟨gk, i, none⟩) HGK.out).trans (HKK.out i hi)))
      have HGKq : Hid (gk < wq.heap.size) := Lib.hid (by have := HGK.out; have := blk_lt HHq.out; omega)
      clear hh hww HA3
      go_wp2_with (at_builtin; refine app_kl (B := wq.heap.size) (v := .slice (some ⟨wq.heap.size, 0, none⟩) 0 0) (l := []) h gh 8 (.tmp 160) (.tmp 161) rfl rfl rfl (HX8.out _) ((Below.heap_alloc _ _ _ (blk_lt HHq.out)).trans HHq.out) (rk_nil wq) (alloc_le _ _) (by rw [HL3.out]; decide) ?_; intro v' w9 hr hb; have HR9 := Lib.hid hr; have HB9 := Lib.hid (((Below.refl _ _).alloc (Nat.le_refl _) _).trans hb); clear hr hb)
      obtain ⟨gv0, cv0, hv, hgv, hgl, hc8⟩ := HR9.out.c8 (by rw [List.nil_append]; exact HL3.out)
      subst hv
      have HC9 := Lib.hid hc8
      have HGV := Lib.hid hgv
      have HGL := Lib.hid hgl
      clear hc8 hgv hgl HR9
      refine rounds gv0 cv0 gk ck gw h ww HL3.out HWL.out _ (Nat.lt_of_lt_of_le HGKq.out HB9.out.size) (fun i hi => (HB9.out.cell (p := ⟨gk, i, none⟩) HGKq.out).trans (HKq.out i hi)) ((HB9.out.block _ (blk_lt HA6.out)).trans HA6.out) HGL.out HC9.out ?_
      intros
      rename_i gv cv wx e1 e2 e3 e4
      have HHx : Hid (wx.heap[gh]? = some (.cells (ws h) 111 (0, 0))) := Lib.hid ((e4.block _ (Nat.lt_of_lt_of_le (blk_lt HHq.out) HB9.out.size)).trans ((HB9.out.block _ (blk_lt HHq.out)).trans HHq.out))
      have HNE : Hid (gv ≠ gh) := Lib.hid (by have := HGV.out; have := blk_lt HHq.out; have := HB9.out.size; rcases e1 with e | e <;> omega)
      have HCX := Lib.hid e3
      have HBX : Hid (Below gh w wx) := Lib.hid (HB1.out.trans (((HB3.out.mono (by have := HGWH.out; omega)).trans ((HB9.out.trans (e4.mono HB9.out.size)).mono (by have := blk_lt HHq.out; omega)))))
      clear e1 e2 e3 e4
      go_wp2_with fail
      refine adding gv cv gh 8 h (turnsTo ww h 64) HL3.out (turns_length ww h HL3.out 64) HNE.out _ HHx.out HCX.out ?_
      intros
      rename_i wy f1 f2
      have HTH : Hid (zipTo h (turnsTo ww h 64) 8 = thrL (j + 1) firstL p) := Lib.hid (by
        rw [thr_succ, ← HH1.out, ← HO.out, ← HBB.out, HWW.out]
        exact next_zip h HL3.out b)
      rw [HTH.out] at f1
      have HY1 := Lib.hid f1
      have HY2 := Lib.hid (HBX.out.trans f2)
      have HOO : Hid ((o : Int) + 64 = ((64 * (j + 1) : Nat) : Int)) := Lib.hid (by have := HO.out; omega)
      clear f1 f2 HHx HNE HCX HBX HTH
      have hpm := HPM.out
      have hol := HOL.out
      go_wp2_with fail
      go_roundw
      case rel => exact ⟨j + 1, by have := HO.out; omega, by rw [← HOO.out], HY1.out, HY2.out⟩
      case measure => simp [intOf]; omega
    · have hje : 64 * j = p.length := by omega
      have HJ : Hid (j = NB) := Lib.hid (by have := HPL.out; omega)
      rw [HJ.out] at HA1
      rw [hje] at *
      have hpm := HPM.out
      go_wp2_with fail
      exact HH.out _ _ _ _ _ _ _ _ _ _ _ _ _ _ _ _ _ _ _ _ _ _ _ _ _ _ _ _ _ _ _ _ _ _ _ _ _ _ _ _ _ _ _ _ _ _ _ _ _ _ _ _ _ _ _ _ _ _ _ _ _ _ _ _ _ _ _ _ _ _ _ _ _ _ _ _ _ _ _ _ _ _ _ _ _ _ _ _ _ _ _ _ _ _ _ _ _ _ _ _ _ _ _ _ _ _ _ _ _ _ _ _ _ _ _ _ _ _ _ _ _ _ _ _ _ _ _ _ _ _ _ _ _ _ _ _ _ _ _ _ _ _ _ _ _ _ _ _ _ _ _ _ _ _ _ _ _ _ _ _ _ _ _ _ _ _ _ _ _ _ _ _ _ _ _ _ _ _ _ _ _ _ _ _ _ _ _ _ _ _ _ _ _ _ _ _ _ _ _ _ _ _ _ _ _ _ _ _ _ _ _ _ _ _ _ _ _ _ _ _ _ _ _ _ HA1.out HB1.out
end Go.Proofs.YtpggkfdijmnmiaaGreat.Hs
