/- The drawn region of the document's Checkpoint, in its three cases. No condition. -/
import Derived.Test.YtmoihgniglomiaaDoorZd20
set_option linter.unusedVariables false
set_option linter.unusedSimpArgs false
set_option maxRecDepth 100000
namespace Go.Proofs.YtmoihgniglomiaaDoor
open Go.RowKit Go.Sort
noncomputable def rC1O : Array Oper := (Tryd.f54.body.bind fun c => findR c 7).getD #[]
def rC1_m : List (List Nat) := [[], [], [], [], [], [], [], [], [], [], [], [], [], [], [], [14], [], [14], [14, 17], [14, 17], [14, 17, 19], [14, 17, 19], [14, 17, 19], [14, 17, 19], [14, 17, 19], [14, 17, 19], [14, 17, 19], [14, 17, 19], [14, 17, 19], [14, 17, 19], [14, 17, 19], [14, 17, 19], [14, 17, 19], [14, 17, 19], [14, 17, 19], [14, 17, 19], [14, 17, 19], [14, 17, 19], [14, 17, 19], [14, 17, 19], [14, 17, 19]]
set_option maxHeartbeats 32000000 in
theorem rC1 (PW : Bool → Bool → Bool → World → Prop) (rb r : Nat) (lf g c1 c2 c3 : Int) (sn s1 s2 s3 fo : ByteArray) (bb : Bool) (w : World) (fa : IntKind.i64.wrap (1 - lf) = 1 - lf) (fb : IntKind.u64.wrap (g + 1) = g + 1) (fc : (⟨#[83, 78, 76, 49]⟩ : ByteArray) ++ s3 = s1) (fd : s1 ++ s2 = fo) (g1 : ¬ 9223372036854775807 < 4 + s3.size) (g2 : ¬ 9223372036854775807 < s1.size + s2.size) (f1 : (c1 != 0) = true) (la : ∀ (b14 b17 b19 : Bool) (w : World), PW b14 b17 b19  w → w.cell? ⟨rb, 0, none⟩ = some (.pointer (some ⟨r, 0, none⟩))) (lb : ∀ (b14 b17 b19 : Bool) (w : World), PW b14 b17 b19  w → w.cell? ⟨rb, 1, none⟩ = some (.int .i64 lf)) (lc2 : ∀ (b14 b17 b19 : Bool) (w : World), PW b14 b17 b19  w → w.cell? ⟨rb, 2, none⟩ = some (.int .u64 g)) (cl14 : ∀ (w : World), PW false false false w → Calls Tryd.prog 47 #[.int .u64 (g + 1), .int .i64 8] w fun e w1 => e = .returned (.string s3) ∧ PW true false false  w1) (cl17 : ∀ (w : World), PW true false false w → Calls Tryd.prog 48 #[.string sn] w fun e w1 => e = .returned (.string s2) ∧ PW true true false  w1) (cl19 : ∀ (w : World), PW true true false w → Calls Tryd.prog 46 #[.pointer (some ⟨r, 0, none⟩), .int .i64 (1 - lf), .string fo] w fun e w1 => e = .returned (.int .i64 (c1)) ∧ PW true true true  w1) {t2 t3 t4 t5 t6 t7 t8 t9 t10 t11 t12 t13 t14 t15 t16 t17 t18 t19 t20 t21 t22 t23 t24 t25 t26 t27 t28 t29 t30 t31 t32 t33 t34 t35 t36 t37 t38 t39 t40 t41 t42 t43 t44 t45 t46 t47 t48 t49 t50 t51 t52 t53 t54 t55 t56 t57 t58 t59 t60 t61 t62 t63 t64 t65 t66 t67 t68 t69 t70 t71 t72 t73 t74 t75 t76 t77 : Value} (w0 : PW false false false  w.drew) {ds : List Deferred} {Q : Exit → Act → World → Prop}
    (h : ∀ (w1 : World), PW true true true  w1 → Q .normal { tmps := #[.pointer (some ⟨rb, 0, none⟩), .string sn, t2, t3, t4, t5, t6, t7, t8, t9, t10, t11, t12, t13, t14, t15, t16, .pointer (some ⟨rb, 0, none⟩), .pointer (some ⟨rb, 0, none⟩), .pointer (some ⟨rb, 0, none⟩), .pointer (some ⟨r, 0, none⟩), .pointer (some ⟨rb, 0, none⟩), .pointer (some ⟨rb, 0, none⟩), .pointer (some ⟨rb, 1, none⟩), .int .i64 lf, .int .i64 (1 - lf), .pointer (some ⟨rb, 0, none⟩), .pointer (some ⟨rb, 0, none⟩), .pointer (some ⟨rb, 2, none⟩), .int .u64 g, .int .u64 (g + 1), .string s3, .string s1, .string sn, .string s2, .string fo, .int .i64 (c1), .bool true, .bool true, undef, undef, undef, undef, undef, undef, .bool true, .bool true, undef, undef, undef, undef, undef, undef, undef, undef, undef, undef, .bool true, t58, t59, t60, t61, t62, t63, t64, t65, t66, t67, t68, t69, t70, t71, t72, t73, t74, t75, t76, t77], defers := ds } w1) :
    (Code.region 7 rC1O true).wp Tryd.prog Q { tmps := #[.pointer (some ⟨rb, 0, none⟩), .string sn, t2, t3, t4, t5, t6, t7, t8, t9, t10, t11, t12, t13, t14, t15, t16, t17, t18, t19, t20, t21, t22, t23, t24, t25, t26, t27, t28, t29, t30, t31, t32, t33, t34, t35, t36, t37, t38, t39, t40, t41, t42, t43, t44, t45, t46, t47, t48, t49, t50, t51, t52, t53, t54, t55, t56, t57, t58, t59, t60, t61, t62, t63, t64, t65, t66, t67, t68, t69, t70, t71, t72, t73, t74, t75, t76, t77], defers := ds } w := by
  have hsz : rC1O.size = 41 := by kernel_rfl
  generalize hT : List.toArray _ = T0
  have hs : T0.size = 78 := by subst hT; rfl
  have g0 : T0.getD 0 undef = .pointer (some ⟨rb, 0, none⟩) := by subst hT; rfl
  have g1 : T0.getD 1 undef = .string sn := by subst hT; rfl
  obtain ⟨W, hV⟩ : ∃ W : List ((Nat × (Value → Value)) ⊕ Value), W = [.inr (.pointer (some ⟨rb, 0, none⟩)), .inr (.pointer (some ⟨rb, 0, none⟩)), .inr (.pointer (some ⟨rb, 0, none⟩)), .inr (.pointer (some ⟨r, 0, none⟩)), .inr (.pointer (some ⟨rb, 0, none⟩)), .inr (.pointer (some ⟨rb, 0, none⟩)), .inr (.pointer (some ⟨rb, 1, none⟩)), .inr (.int .i64 lf), .inr (.int .i64 (1 - lf)), .inr (.pointer (some ⟨rb, 0, none⟩)), .inr (.pointer (some ⟨rb, 0, none⟩)), .inr (.pointer (some ⟨rb, 2, none⟩)), .inr (.int .u64 g), .inr (.int .u64 (g + 1)), .inr (.string s3), .inr (.string s1), .inr (.string sn), .inr (.string s2), .inr (.string fo), .inr (.int .i64 (c1)), .inr (.bool true), .inr (.bool true), .inr undef, .inr undef, .inr undef, .inr undef, .inr undef, .inr undef, .inr (.bool true), .inr (.bool true), .inr undef, .inr undef, .inr undef, .inr undef, .inr undef, .inr undef, .inr undef, .inr undef, .inr undef, .inr undef, .inr (.bool true)] := ⟨_, rfl⟩
  refine wp_plan (by kernel_rfl) T0 ds [14, 17, 19] rC1_m (mkV W) (fun dx yx wx => PW (dx 14) (dx 17) (dx 19)  wx) w (by rw [hs]; kernel_rfl) (by kernel_rfl) (by kernel_rfl) (by rw [hsz]; decide) (fun cx hc ix hne ha yx vx => mkV_fix (by rw [hV]; kernel_rfl) hne ha yx vx) (?key) (fun cx hc ox ho dx yx Tx wx hd hdb hda hK hW => ?_) ⟨fun k => undef, w0⟩ (fun dx yx wx hd hW => ?_)
  case key =>
    rw [hsz]
    refine all_step (all_step (all_step (all_step (all_step (all_step (all_step (all_step (all_step (all_step (all_step (all_step (all_step (all_step (all_step (all_step (all_step (all_step (all_step (all_step (all_step (all_step (all_step (all_step (all_step (all_step (all_step (all_step (all_step (all_step (all_step (all_step (all_step (all_step (all_step (all_step (all_step (all_step (all_step (all_step (all_step all_zero ?_) ?_) ?_) ?_) ?_) ?_) ?_) ?_) ?_) ?_) ?_) ?_) ?_) ?_) ?_) ?_) ?_) ?_) ?_) ?_) ?_) ?_) ?_) ?_) ?_) ?_) ?_) ?_) ?_) ?_) ?_) ?_) ?_) ?_) ?_) ?_) ?_) ?_) ?_) ?_) ?_
    all_goals
      intro ox ho hic dx yx Tx wx hdb hK hW
      replace hdb := Lib.hid hdb
    · exact pl0 17 0 38 ho hK (by kernel_rfl) (by kernel_rfl) g0 (by subst hV; rfl) fun ps af e => k_mv e
    · exact pl1 18 17 0 0 ho hK (by kernel_rfl) (by kernel_rfl) (by subst hV; rfl) (by subst hV; rfl) fun ps af e => k_nc e
    · exact pl1 19 18 1 0 ho hK (by kernel_rfl) (by kernel_rfl) (by subst hV; rfl) (by subst hV; rfl) fun ps af e => k_fa102_0 e
    · exact pl1 20 19 2 32 ho hK (by kernel_rfl) (by kernel_rfl) (by subst hV; rfl) (by subst hV; rfl) fun ps af e => k_ld32 (la _ _ _ _ hW) e
    · exact pl0 21 0 38 ho hK (by kernel_rfl) (by kernel_rfl) g0 (by subst hV; rfl) fun ps af e => k_mv e
    · exact pl1 22 21 4 0 ho hK (by kernel_rfl) (by kernel_rfl) (by subst hV; rfl) (by subst hV; rfl) fun ps af e => k_nc e
    · exact pl1 23 22 5 0 ho hK (by kernel_rfl) (by kernel_rfl) (by subst hV; rfl) (by subst hV; rfl) fun ps af e => k_fa102_1 e
    · exact pl1 24 23 6 3 ho hK (by kernel_rfl) (by kernel_rfl) (by subst hV; rfl) (by subst hV; rfl) fun ps af e => k_ld3 (lb _ _ _ _ hW) e
    · obtain ⟨ps, af, rfl⟩ := core (some 25) (.binOp BinOp.sub 3 (.const (Value.int IntKind.i64 1)) (.tmp 24) 3) 3 none ho (by kernel_rfl)
      have e24 : Tx.getD 24 undef = .int .i64 lf := hK.is 7 ho (by kernel_rfl) (by subst hV; rfl)
      exact wpOp_plain ho rfl (by subst hV; go_simp; try rfl)
    · exact pl0 26 0 38 ho hK (by kernel_rfl) (by kernel_rfl) g0 (by subst hV; rfl) fun ps af e => k_mv e
    · exact pl1 27 26 9 0 ho hK (by kernel_rfl) (by kernel_rfl) (by subst hV; rfl) (by subst hV; rfl) fun ps af e => k_nc e
    · exact pl1 28 27 10 0 ho hK (by kernel_rfl) (by kernel_rfl) (by subst hV; rfl) (by subst hV; rfl) fun ps af e => k_fa102_2 e
    · exact pl1 29 28 11 99 ho hK (by kernel_rfl) (by kernel_rfl) (by subst hV; rfl) (by subst hV; rfl) fun ps af e => k_ld99 (lc2 _ _ _ _ hW) e
    · obtain ⟨ps, af, rfl⟩ := core (some 30) (.binOp BinOp.add 99 (.tmp 29) (.const (Value.int IntKind.u64 1)) 99) 99 none ho (by kernel_rfl)
      have e29 : Tx.getD 29 undef = .int .u64 g := hK.is 12 ho (by kernel_rfl) (by subst hV; rfl)
      exact wpOp_plain ho rfl (by subst hV; go_simp; try rfl)
    · exact absurd (by decide) hic
    · obtain ⟨ps, af, rfl⟩ := core (some 32) (.binOp BinOp.add 9 (.const (Value.string { data := #[83, 78, 76, 49] })) (.tmp 31) 9) 9 none ho (by kernel_rfl)
      have e31 : Tx.getD 31 undef = .string s3 := hK.is 14 ho (by kernel_rfl) (by subst hV; rfl)
      exact wpOp_plain ho rfl (by subst hV; go_simp; try rfl)
    · exact pl0 33 1 9 ho hK (by kernel_rfl) (by kernel_rfl) g1 (by subst hV; rfl) fun ps af e => k_mv e
    · exact absurd (by decide) hic
    · obtain ⟨ps, af, rfl⟩ := core (some 35) (.binOp BinOp.add 9 (.tmp 32) (.tmp 34) 9) 9 none ho (by kernel_rfl)
      have e32 : Tx.getD 32 undef = .string s1 := hK.is 15 ho (by kernel_rfl) (by subst hV; rfl)
      have e34 : Tx.getD 34 undef = .string s2 := hK.is 17 ho (by kernel_rfl) (by subst hV; rfl)
      exact wpOp_plain ho rfl (by subst hV; go_simp; try rfl)
    · exact absurd (by decide) hic
    · obtain ⟨ps, af, rfl⟩ := core (some 37) (.binOp BinOp.neq 28 (.tmp 36) (.const (Value.int IntKind.i64 0)) 28) 4 none ho (by kernel_rfl)
      have e36 : Tx.getD 36 undef = .int .i64 (c1) := hK.is 19 ho (by kernel_rfl) (by subst hV; rfl)
      exact wpOp_plain ho rfl (by subst hV; go_simp; try rfl)
    · exact pl1 38 37 20 4 ho hK (by kernel_rfl) (by kernel_rfl) (by subst hV; rfl) (by subst hV; rfl) fun ps af e => k_mv e
    · exact psk 21 38 true false ho hK (by kernel_rfl) (by kernel_rfl) (by kernel_rfl) (by subst hV; rfl) rfl (by subst hV; rfl)
    · exact psk 21 38 true false ho hK (by kernel_rfl) (by kernel_rfl) (by kernel_rfl) (by subst hV; rfl) rfl (by subst hV; rfl)
    · exact psk 21 38 true false ho hK (by kernel_rfl) (by kernel_rfl) (by kernel_rfl) (by subst hV; rfl) rfl (by subst hV; rfl)
    · exact psk 21 38 true false ho hK (by kernel_rfl) (by kernel_rfl) (by kernel_rfl) (by subst hV; rfl) rfl (by subst hV; rfl)
    · exact psk 21 38 true false ho hK (by kernel_rfl) (by kernel_rfl) (by kernel_rfl) (by subst hV; rfl) rfl (by subst hV; rfl)
    · exact psk 21 38 true false ho hK (by kernel_rfl) (by kernel_rfl) (by kernel_rfl) (by subst hV; rfl) rfl (by subst hV; rfl)
    · obtain ⟨ps, af, rfl⟩ := core (some 45) (.pick (.tmp 38) (.const (Value.bool true)) (.tmp 44)) 4 none ho (by kernel_rfl)
      have e38 : Tx.getD 38 undef = .bool true := hK.is 21 ho (by kernel_rfl) (by subst hV; rfl)
      have e44 : Tx.getD 44 undef = undef := hK.is 27 ho (by kernel_rfl) (by subst hV; rfl)
      exact wpOp_plain ho rfl (by subst hV; go_simp; try rfl)
    · exact pl1 46 45 28 4 ho hK (by kernel_rfl) (by kernel_rfl) (by subst hV; rfl) (by subst hV; rfl) fun ps af e => k_mv e
    · exact psk 29 46 true false ho hK (by kernel_rfl) (by kernel_rfl) (by kernel_rfl) (by subst hV; rfl) rfl (by subst hV; rfl)
    · exact psk 29 46 true false ho hK (by kernel_rfl) (by kernel_rfl) (by kernel_rfl) (by subst hV; rfl) rfl (by subst hV; rfl)
    · exact psk 29 46 true false ho hK (by kernel_rfl) (by kernel_rfl) (by kernel_rfl) (by subst hV; rfl) rfl (by subst hV; rfl)
    · exact psk 29 46 true false ho hK (by kernel_rfl) (by kernel_rfl) (by kernel_rfl) (by subst hV; rfl) rfl (by subst hV; rfl)
    · exact psk 29 46 true false ho hK (by kernel_rfl) (by kernel_rfl) (by kernel_rfl) (by subst hV; rfl) rfl (by subst hV; rfl)
    · exact psk 29 46 true false ho hK (by kernel_rfl) (by kernel_rfl) (by kernel_rfl) (by subst hV; rfl) rfl (by subst hV; rfl)
    · exact psk 29 46 true false ho hK (by kernel_rfl) (by kernel_rfl) (by kernel_rfl) (by subst hV; rfl) rfl (by subst hV; rfl)
    · exact psk 29 46 true false ho hK (by kernel_rfl) (by kernel_rfl) (by kernel_rfl) (by subst hV; rfl) rfl (by subst hV; rfl)
    · exact psk 29 46 true false ho hK (by kernel_rfl) (by kernel_rfl) (by kernel_rfl) (by subst hV; rfl) rfl (by subst hV; rfl)
    · exact psk 29 46 true false ho hK (by kernel_rfl) (by kernel_rfl) (by kernel_rfl) (by subst hV; rfl) rfl (by subst hV; rfl)
    · obtain ⟨ps, af, rfl⟩ := core (some 57) (.pick (.tmp 46) (.const (Value.bool true)) (.tmp 56)) 4 none ho (by kernel_rfl)
      have e46 : Tx.getD 46 undef = .bool true := hK.is 29 ho (by kernel_rfl) (by subst hV; rfl)
      have e56 : Tx.getD 56 undef = undef := hK.is 39 ho (by kernel_rfl) (by subst hV; rfl)
      exact wpOp_plain ho rfl (by subst hV; go_simp; try rfl)
  · have hcase : cx = 14 ∨ cx = 17 ∨ cx = 19 := by simpa using hc
    rcases hcase with rfl | rfl | rfl
    · obtain ⟨ps, af, rfl⟩ := core (some 31) (.call { callee := .value (.func 47), args := #[.tmp 30, .const (Value.int IntKind.i64 8)], argTypes := #[99, 3] }) 9 none ho (by kernel_rfl)
      have e30 : Tx.getD 30 undef = .int .u64 (g + 1) := hK.is 13 ho (by kernel_rfl) (by subst hV; rfl)
      have hW1 : PW (dx 14) (dx 17) (dx 19)  wx := hW
      have f17 := hda 17 (by decide) (by kernel_rfl)
      have f19 := hda 19 (by decide) (by kernel_rfl)
      clear hdb hda
      rw [hd, f17, f19] at hW1
      replace f17 := Lib.hid f17
      replace f19 := Lib.hid f19
      clear hd hW hc
      refine wpOp_plain ho rfl ?_
      go_simp
      go_at_call 47
      refine (cl14 _ hW1).mono ?_
      rintro ex w2 ⟨rfl, hW2⟩
      subst hV
      first | refine ⟨undef, rfl, ?_⟩ | refine ⟨⟨undef, rfl⟩, ?_⟩
      simpa [updB, upd, f17.out, f19.out] using hW2
    · obtain ⟨ps, af, rfl⟩ := core (some 34) (.call { callee := .value (.func 48), args := #[.tmp 33], argTypes := #[9] }) 9 none ho (by kernel_rfl)
      have e33 : Tx.getD 33 undef = .string sn := hK.is 16 ho (by kernel_rfl) (by subst hV; rfl)
      have hW1 : PW (dx 14) (dx 17) (dx 19)  wx := hW
      have f14 := hdb 14 (by decide) (by kernel_rfl)
      have f19 := hda 19 (by decide) (by kernel_rfl)
      clear hdb hda
      rw [hd, f14, f19] at hW1
      replace f14 := Lib.hid f14
      replace f19 := Lib.hid f19
      clear hd hW hc
      refine wpOp_plain ho rfl ?_
      go_simp
      go_at_call 48
      refine (cl17 _ hW1).mono ?_
      rintro ex w2 ⟨rfl, hW2⟩
      subst hV
      first | refine ⟨undef, rfl, ?_⟩ | refine ⟨⟨undef, rfl⟩, ?_⟩
      simpa [updB, upd, f14.out, f19.out] using hW2
    · obtain ⟨ps, af, rfl⟩ := core (some 36) (.call { callee := .value (.func 46), args := #[.tmp 20, .tmp 25, .tmp 35], argTypes := #[32, 3, 9] }) 28 none ho (by kernel_rfl)
      have e20 : Tx.getD 20 undef = .pointer (some ⟨r, 0, none⟩) := hK.is 3 ho (by kernel_rfl) (by subst hV; rfl)
      have e25 : Tx.getD 25 undef = .int .i64 (1 - lf) := hK.is 8 ho (by kernel_rfl) (by subst hV; rfl)
      have e35 : Tx.getD 35 undef = .string fo := hK.is 18 ho (by kernel_rfl) (by subst hV; rfl)
      have hW1 : PW (dx 14) (dx 17) (dx 19)  wx := hW
      have f14 := hdb 14 (by decide) (by kernel_rfl)
      have f17 := hdb 17 (by decide) (by kernel_rfl)
      clear hdb hda
      rw [hd, f14, f17] at hW1
      replace f14 := Lib.hid f14
      replace f17 := Lib.hid f17
      clear hd hW hc
      refine wpOp_plain ho rfl ?_
      go_simp
      go_at_call 46
      refine (cl19 _ hW1).mono ?_
      rintro ex w2 ⟨rfl, hW2⟩
      subst hV
      first | refine ⟨undef, rfl, ?_⟩ | refine ⟨⟨undef, rfl⟩, ?_⟩
      simpa [updB, upd, f14.out, f17.out] using hW2
  · have hW1 : PW (dx 14) (dx 17) (dx 19)  wx := hW
    rw [hd 14 (by decide), hd 17 (by decide), hd 19 (by decide)] at hW1
    have hQ := h _ hW1
    rw [hsz]
    subst hV hT
    refine cast (congrArg (fun Tx => Q .normal ⟨Tx, ds⟩ wx) ?_) hQ
    kernel_rfl
noncomputable def rC2O : Array Oper := (Tryd.f54.body.bind fun c => findR c 7).getD #[]
def rC2_m : List (List Nat) := [[], [], [], [], [], [], [], [], [], [], [], [], [], [], [], [14], [], [14], [14, 17], [14, 17], [14, 17, 19], [14, 17, 19], [14, 17, 19], [14, 17, 19], [14, 17, 19], [14, 17, 19], [14, 17, 19], [14, 17, 19, 26], [14, 17, 19, 26], [14, 17, 19, 26], [14, 17, 19, 26], [14, 17, 19, 26], [14, 17, 19, 26], [14, 17, 19, 26], [14, 17, 19, 26], [14, 17, 19, 26], [14, 17, 19, 26], [14, 17, 19, 26], [14, 17, 19, 26], [14, 17, 19, 26], [14, 17, 19, 26]]
set_option maxHeartbeats 32000000 in
theorem rC2 (PW : Bool → Bool → Bool → Bool → World → Prop) (rb r : Nat) (lf g c1 c2 c3 : Int) (sn s1 s2 s3 fo : ByteArray) (bb : Bool) (w : World) (fa : IntKind.i64.wrap (1 - lf) = 1 - lf) (fb : IntKind.u64.wrap (g + 1) = g + 1) (fc : (⟨#[83, 78, 76, 49]⟩ : ByteArray) ++ s3 = s1) (fd : s1 ++ s2 = fo) (g1 : ¬ 9223372036854775807 < 4 + s3.size) (g2 : ¬ 9223372036854775807 < s1.size + s2.size) (f1 : (c1 != 0) = false) (f2 : (c2 != 0) = true) (la : ∀ (b14 b17 b19 b26 : Bool) (w : World), PW b14 b17 b19 b26  w → w.cell? ⟨rb, 0, none⟩ = some (.pointer (some ⟨r, 0, none⟩))) (lb : ∀ (b14 b17 b19 b26 : Bool) (w : World), PW b14 b17 b19 b26  w → w.cell? ⟨rb, 1, none⟩ = some (.int .i64 lf)) (lc2 : ∀ (b14 b17 b19 b26 : Bool) (w : World), PW b14 b17 b19 b26  w → w.cell? ⟨rb, 2, none⟩ = some (.int .u64 g)) (cl14 : ∀ (w : World), PW false false false false w → Calls Tryd.prog 47 #[.int .u64 (g + 1), .int .i64 8] w fun e w1 => e = .returned (.string s3) ∧ PW true false false false  w1) (cl17 : ∀ (w : World), PW true false false false w → Calls Tryd.prog 48 #[.string sn] w fun e w1 => e = .returned (.string s2) ∧ PW true true false false  w1) (cl19 : ∀ (w : World), PW true true false false w → Calls Tryd.prog 46 #[.pointer (some ⟨r, 0, none⟩), .int .i64 (1 - lf), .string fo] w fun e w1 => e = .returned (.int .i64 (c1)) ∧ PW true true true false  w1) (cl26 : ∀ (w : World), PW true true true false w → Calls Tryd.prog 49 #[.pointer (some ⟨r, 0, none⟩)] w fun e w1 => e = .returned (.int .i64 (c2)) ∧ PW true true true true  w1) {t2 t3 t4 t5 t6 t7 t8 t9 t10 t11 t12 t13 t14 t15 t16 t17 t18 t19 t20 t21 t22 t23 t24 t25 t26 t27 t28 t29 t30 t31 t32 t33 t34 t35 t36 t37 t38 t39 t40 t41 t42 t43 t44 t45 t46 t47 t48 t49 t50 t51 t52 t53 t54 t55 t56 t57 t58 t59 t60 t61 t62 t63 t64 t65 t66 t67 t68 t69 t70 t71 t72 t73 t74 t75 t76 t77 : Value} (w0 : PW false false false false  w.drew) {ds : List Deferred} {Q : Exit → Act → World → Prop}
    (h : ∀ (w1 : World), PW true true true true  w1 → Q .normal { tmps := #[.pointer (some ⟨rb, 0, none⟩), .string sn, t2, t3, t4, t5, t6, t7, t8, t9, t10, t11, t12, t13, t14, t15, t16, .pointer (some ⟨rb, 0, none⟩), .pointer (some ⟨rb, 0, none⟩), .pointer (some ⟨rb, 0, none⟩), .pointer (some ⟨r, 0, none⟩), .pointer (some ⟨rb, 0, none⟩), .pointer (some ⟨rb, 0, none⟩), .pointer (some ⟨rb, 1, none⟩), .int .i64 lf, .int .i64 (1 - lf), .pointer (some ⟨rb, 0, none⟩), .pointer (some ⟨rb, 0, none⟩), .pointer (some ⟨rb, 2, none⟩), .int .u64 g, .int .u64 (g + 1), .string s3, .string s1, .string sn, .string s2, .string fo, .int .i64 (c1), .bool false, .bool false, .pointer (some ⟨rb, 0, none⟩), .pointer (some ⟨rb, 0, none⟩), .pointer (some ⟨rb, 0, none⟩), .pointer (some ⟨r, 0, none⟩), .int .i64 (c2), .bool true, .bool true, .bool true, undef, undef, undef, undef, undef, undef, undef, undef, undef, undef, .bool true, t58, t59, t60, t61, t62, t63, t64, t65, t66, t67, t68, t69, t70, t71, t72, t73, t74, t75, t76, t77], defers := ds } w1) :
    (Code.region 7 rC2O true).wp Tryd.prog Q { tmps := #[.pointer (some ⟨rb, 0, none⟩), .string sn, t2, t3, t4, t5, t6, t7, t8, t9, t10, t11, t12, t13, t14, t15, t16, t17, t18, t19, t20, t21, t22, t23, t24, t25, t26, t27, t28, t29, t30, t31, t32, t33, t34, t35, t36, t37, t38, t39, t40, t41, t42, t43, t44, t45, t46, t47, t48, t49, t50, t51, t52, t53, t54, t55, t56, t57, t58, t59, t60, t61, t62, t63, t64, t65, t66, t67, t68, t69, t70, t71, t72, t73, t74, t75, t76, t77], defers := ds } w := by
  have hsz : rC2O.size = 41 := by kernel_rfl
  generalize hT : List.toArray _ = T0
  have hs : T0.size = 78 := by subst hT; rfl
  have g0 : T0.getD 0 undef = .pointer (some ⟨rb, 0, none⟩) := by subst hT; rfl
  have g1 : T0.getD 1 undef = .string sn := by subst hT; rfl
  obtain ⟨W, hV⟩ : ∃ W : List ((Nat × (Value → Value)) ⊕ Value), W = [.inr (.pointer (some ⟨rb, 0, none⟩)), .inr (.pointer (some ⟨rb, 0, none⟩)), .inr (.pointer (some ⟨rb, 0, none⟩)), .inr (.pointer (some ⟨r, 0, none⟩)), .inr (.pointer (some ⟨rb, 0, none⟩)), .inr (.pointer (some ⟨rb, 0, none⟩)), .inr (.pointer (some ⟨rb, 1, none⟩)), .inr (.int .i64 lf), .inr (.int .i64 (1 - lf)), .inr (.pointer (some ⟨rb, 0, none⟩)), .inr (.pointer (some ⟨rb, 0, none⟩)), .inr (.pointer (some ⟨rb, 2, none⟩)), .inr (.int .u64 g), .inr (.int .u64 (g + 1)), .inr (.string s3), .inr (.string s1), .inr (.string sn), .inr (.string s2), .inr (.string fo), .inr (.int .i64 (c1)), .inr (.bool false), .inr (.bool false), .inr (.pointer (some ⟨rb, 0, none⟩)), .inr (.pointer (some ⟨rb, 0, none⟩)), .inr (.pointer (some ⟨rb, 0, none⟩)), .inr (.pointer (some ⟨r, 0, none⟩)), .inr (.int .i64 (c2)), .inr (.bool true), .inr (.bool true), .inr (.bool true), .inr undef, .inr undef, .inr undef, .inr undef, .inr undef, .inr undef, .inr undef, .inr undef, .inr undef, .inr undef, .inr (.bool true)] := ⟨_, rfl⟩
  refine wp_plan (by kernel_rfl) T0 ds [14, 17, 19, 26] rC2_m (mkV W) (fun dx yx wx => PW (dx 14) (dx 17) (dx 19) (dx 26)  wx) w (by rw [hs]; kernel_rfl) (by kernel_rfl) (by kernel_rfl) (by rw [hsz]; decide) (fun cx hc ix hne ha yx vx => mkV_fix (by rw [hV]; kernel_rfl) hne ha yx vx) (?key) (fun cx hc ox ho dx yx Tx wx hd hdb hda hK hW => ?_) ⟨fun k => undef, w0⟩ (fun dx yx wx hd hW => ?_)
  case key =>
    rw [hsz]
    refine all_step (all_step (all_step (all_step (all_step (all_step (all_step (all_step (all_step (all_step (all_step (all_step (all_step (all_step (all_step (all_step (all_step (all_step (all_step (all_step (all_step (all_step (all_step (all_step (all_step (all_step (all_step (all_step (all_step (all_step (all_step (all_step (all_step (all_step (all_step (all_step (all_step (all_step (all_step (all_step (all_step all_zero ?_) ?_) ?_) ?_) ?_) ?_) ?_) ?_) ?_) ?_) ?_) ?_) ?_) ?_) ?_) ?_) ?_) ?_) ?_) ?_) ?_) ?_) ?_) ?_) ?_) ?_) ?_) ?_) ?_) ?_) ?_) ?_) ?_) ?_) ?_) ?_) ?_) ?_) ?_) ?_) ?_
    all_goals
      intro ox ho hic dx yx Tx wx hdb hK hW
      replace hdb := Lib.hid hdb
    · exact pl0 17 0 38 ho hK (by kernel_rfl) (by kernel_rfl) g0 (by subst hV; rfl) fun ps af e => k_mv e
    · exact pl1 18 17 0 0 ho hK (by kernel_rfl) (by kernel_rfl) (by subst hV; rfl) (by subst hV; rfl) fun ps af e => k_nc e
    · exact pl1 19 18 1 0 ho hK (by kernel_rfl) (by kernel_rfl) (by subst hV; rfl) (by subst hV; rfl) fun ps af e => k_fa102_0 e
    · exact pl1 20 19 2 32 ho hK (by kernel_rfl) (by kernel_rfl) (by subst hV; rfl) (by subst hV; rfl) fun ps af e => k_ld32 (la _ _ _ _ _ hW) e
    · exact pl0 21 0 38 ho hK (by kernel_rfl) (by kernel_rfl) g0 (by subst hV; rfl) fun ps af e => k_mv e
    · exact pl1 22 21 4 0 ho hK (by kernel_rfl) (by kernel_rfl) (by subst hV; rfl) (by subst hV; rfl) fun ps af e => k_nc e
    · exact pl1 23 22 5 0 ho hK (by kernel_rfl) (by kernel_rfl) (by subst hV; rfl) (by subst hV; rfl) fun ps af e => k_fa102_1 e
    · exact pl1 24 23 6 3 ho hK (by kernel_rfl) (by kernel_rfl) (by subst hV; rfl) (by subst hV; rfl) fun ps af e => k_ld3 (lb _ _ _ _ _ hW) e
    · obtain ⟨ps, af, rfl⟩ := core (some 25) (.binOp BinOp.sub 3 (.const (Value.int IntKind.i64 1)) (.tmp 24) 3) 3 none ho (by kernel_rfl)
      have e24 : Tx.getD 24 undef = .int .i64 lf := hK.is 7 ho (by kernel_rfl) (by subst hV; rfl)
      exact wpOp_plain ho rfl (by subst hV; go_simp; try rfl)
    · exact pl0 26 0 38 ho hK (by kernel_rfl) (by kernel_rfl) g0 (by subst hV; rfl) fun ps af e => k_mv e
    · exact pl1 27 26 9 0 ho hK (by kernel_rfl) (by kernel_rfl) (by subst hV; rfl) (by subst hV; rfl) fun ps af e => k_nc e
    · exact pl1 28 27 10 0 ho hK (by kernel_rfl) (by kernel_rfl) (by subst hV; rfl) (by subst hV; rfl) fun ps af e => k_fa102_2 e
    · exact pl1 29 28 11 99 ho hK (by kernel_rfl) (by kernel_rfl) (by subst hV; rfl) (by subst hV; rfl) fun ps af e => k_ld99 (lc2 _ _ _ _ _ hW) e
    · obtain ⟨ps, af, rfl⟩ := core (some 30) (.binOp BinOp.add 99 (.tmp 29) (.const (Value.int IntKind.u64 1)) 99) 99 none ho (by kernel_rfl)
      have e29 : Tx.getD 29 undef = .int .u64 g := hK.is 12 ho (by kernel_rfl) (by subst hV; rfl)
      exact wpOp_plain ho rfl (by subst hV; go_simp; try rfl)
    · exact absurd (by decide) hic
    · obtain ⟨ps, af, rfl⟩ := core (some 32) (.binOp BinOp.add 9 (.const (Value.string { data := #[83, 78, 76, 49] })) (.tmp 31) 9) 9 none ho (by kernel_rfl)
      have e31 : Tx.getD 31 undef = .string s3 := hK.is 14 ho (by kernel_rfl) (by subst hV; rfl)
      exact wpOp_plain ho rfl (by subst hV; go_simp; try rfl)
    · exact pl0 33 1 9 ho hK (by kernel_rfl) (by kernel_rfl) g1 (by subst hV; rfl) fun ps af e => k_mv e
    · exact absurd (by decide) hic
    · obtain ⟨ps, af, rfl⟩ := core (some 35) (.binOp BinOp.add 9 (.tmp 32) (.tmp 34) 9) 9 none ho (by kernel_rfl)
      have e32 : Tx.getD 32 undef = .string s1 := hK.is 15 ho (by kernel_rfl) (by subst hV; rfl)
      have e34 : Tx.getD 34 undef = .string s2 := hK.is 17 ho (by kernel_rfl) (by subst hV; rfl)
      exact wpOp_plain ho rfl (by subst hV; go_simp; try rfl)
    · exact absurd (by decide) hic
    · obtain ⟨ps, af, rfl⟩ := core (some 37) (.binOp BinOp.neq 28 (.tmp 36) (.const (Value.int IntKind.i64 0)) 28) 4 none ho (by kernel_rfl)
      have e36 : Tx.getD 36 undef = .int .i64 (c1) := hK.is 19 ho (by kernel_rfl) (by subst hV; rfl)
      exact wpOp_plain ho rfl (by subst hV; go_simp; try rfl)
    · exact pl1 38 37 20 4 ho hK (by kernel_rfl) (by kernel_rfl) (by subst hV; rfl) (by subst hV; rfl) fun ps af e => k_mv e
    · exact pg0 21 38 false 39 0 38 ho hK (by kernel_rfl) (by kernel_rfl) (by kernel_rfl) (by subst hV; rfl) (by kernel_rfl) g0 (by subst hV; rfl) fun ps af e => k_mv e
    · exact pg1 21 38 false 40 39 22 0 ho hK (by kernel_rfl) (by kernel_rfl) (by kernel_rfl) (by subst hV; rfl) (by kernel_rfl) (by subst hV; rfl) (by subst hV; rfl) fun ps af e => k_nc e
    · exact pg1 21 38 false 41 40 23 0 ho hK (by kernel_rfl) (by kernel_rfl) (by kernel_rfl) (by subst hV; rfl) (by kernel_rfl) (by subst hV; rfl) (by subst hV; rfl) fun ps af e => k_fa102_0 e
    · exact pg1 21 38 false 42 41 24 32 ho hK (by kernel_rfl) (by kernel_rfl) (by kernel_rfl) (by subst hV; rfl) (by kernel_rfl) (by subst hV; rfl) (by subst hV; rfl) fun ps af e => k_ld32 (la _ _ _ _ _ hW) e
    · exact absurd (by decide) hic
    · obtain ⟨ps, af, rfl⟩ := core (some 44) (.binOp BinOp.neq 28 (.tmp 43) (.const (Value.int IntKind.i64 0)) 28) 4 (some (21, false)) ho (by kernel_rfl)
      have e43 : Tx.getD 43 undef = .int .i64 (c2) := hK.is 26 ho (by kernel_rfl) (by subst hV; rfl)
      exact wpOp_want ho ((wanted_of (d := 38) (b := false) rfl (by kernel_rfl) (hK.is 21 ho (by kernel_rfl) (by subst hV; rfl))).trans rfl) (by subst hV; go_simp; try rfl)
    · obtain ⟨ps, af, rfl⟩ := core (some 45) (.pick (.tmp 38) (.const (Value.bool true)) (.tmp 44)) 4 none ho (by kernel_rfl)
      have e38 : Tx.getD 38 undef = .bool false := hK.is 21 ho (by kernel_rfl) (by subst hV; rfl)
      have e44 : Tx.getD 44 undef = .bool true := hK.is 27 ho (by kernel_rfl) (by subst hV; rfl)
      exact wpOp_plain ho rfl (by subst hV; go_simp; try rfl)
    · exact pl1 46 45 28 4 ho hK (by kernel_rfl) (by kernel_rfl) (by subst hV; rfl) (by subst hV; rfl) fun ps af e => k_mv e
    · exact psk 29 46 true false ho hK (by kernel_rfl) (by kernel_rfl) (by kernel_rfl) (by subst hV; rfl) rfl (by subst hV; rfl)
    · exact psk 29 46 true false ho hK (by kernel_rfl) (by kernel_rfl) (by kernel_rfl) (by subst hV; rfl) rfl (by subst hV; rfl)
    · exact psk 29 46 true false ho hK (by kernel_rfl) (by kernel_rfl) (by kernel_rfl) (by subst hV; rfl) rfl (by subst hV; rfl)
    · exact psk 29 46 true false ho hK (by kernel_rfl) (by kernel_rfl) (by kernel_rfl) (by subst hV; rfl) rfl (by subst hV; rfl)
    · exact psk 29 46 true false ho hK (by kernel_rfl) (by kernel_rfl) (by kernel_rfl) (by subst hV; rfl) rfl (by subst hV; rfl)
    · exact psk 29 46 true false ho hK (by kernel_rfl) (by kernel_rfl) (by kernel_rfl) (by subst hV; rfl) rfl (by subst hV; rfl)
    · exact psk 29 46 true false ho hK (by kernel_rfl) (by kernel_rfl) (by kernel_rfl) (by subst hV; rfl) rfl (by subst hV; rfl)
    · exact psk 29 46 true false ho hK (by kernel_rfl) (by kernel_rfl) (by kernel_rfl) (by subst hV; rfl) rfl (by subst hV; rfl)
    · exact psk 29 46 true false ho hK (by kernel_rfl) (by kernel_rfl) (by kernel_rfl) (by subst hV; rfl) rfl (by subst hV; rfl)
    · exact psk 29 46 true false ho hK (by kernel_rfl) (by kernel_rfl) (by kernel_rfl) (by subst hV; rfl) rfl (by subst hV; rfl)
    · obtain ⟨ps, af, rfl⟩ := core (some 57) (.pick (.tmp 46) (.const (Value.bool true)) (.tmp 56)) 4 none ho (by kernel_rfl)
      have e46 : Tx.getD 46 undef = .bool true := hK.is 29 ho (by kernel_rfl) (by subst hV; rfl)
      have e56 : Tx.getD 56 undef = undef := hK.is 39 ho (by kernel_rfl) (by subst hV; rfl)
      exact wpOp_plain ho rfl (by subst hV; go_simp; try rfl)
  · have hcase : cx = 14 ∨ cx = 17 ∨ cx = 19 ∨ cx = 26 := by simpa using hc
    rcases hcase with rfl | rfl | rfl | rfl
    · obtain ⟨ps, af, rfl⟩ := core (some 31) (.call { callee := .value (.func 47), args := #[.tmp 30, .const (Value.int IntKind.i64 8)], argTypes := #[99, 3] }) 9 none ho (by kernel_rfl)
      have e30 : Tx.getD 30 undef = .int .u64 (g + 1) := hK.is 13 ho (by kernel_rfl) (by subst hV; rfl)
      have hW1 : PW (dx 14) (dx 17) (dx 19) (dx 26)  wx := hW
      have f17 := hda 17 (by decide) (by kernel_rfl)
      have f19 := hda 19 (by decide) (by kernel_rfl)
      have f26 := hda 26 (by decide) (by kernel_rfl)
      clear hdb hda
      rw [hd, f17, f19, f26] at hW1
      replace f17 := Lib.hid f17
      replace f19 := Lib.hid f19
      replace f26 := Lib.hid f26
      clear hd hW hc
      refine wpOp_plain ho rfl ?_
      go_simp
      go_at_call 47
      refine (cl14 _ hW1).mono ?_
      rintro ex w2 ⟨rfl, hW2⟩
      subst hV
      first | refine ⟨undef, rfl, ?_⟩ | refine ⟨⟨undef, rfl⟩, ?_⟩
      simpa [updB, upd, f17.out, f19.out, f26.out] using hW2
    · obtain ⟨ps, af, rfl⟩ := core (some 34) (.call { callee := .value (.func 48), args := #[.tmp 33], argTypes := #[9] }) 9 none ho (by kernel_rfl)
      have e33 : Tx.getD 33 undef = .string sn := hK.is 16 ho (by kernel_rfl) (by subst hV; rfl)
      have hW1 : PW (dx 14) (dx 17) (dx 19) (dx 26)  wx := hW
      have f14 := hdb 14 (by decide) (by kernel_rfl)
      have f19 := hda 19 (by decide) (by kernel_rfl)
      have f26 := hda 26 (by decide) (by kernel_rfl)
      clear hdb hda
      rw [hd, f14, f19, f26] at hW1
      replace f14 := Lib.hid f14
      replace f19 := Lib.hid f19
      replace f26 := Lib.hid f26
      clear hd hW hc
      refine wpOp_plain ho rfl ?_
      go_simp
      go_at_call 48
      refine (cl17 _ hW1).mono ?_
      rintro ex w2 ⟨rfl, hW2⟩
      subst hV
      first | refine ⟨undef, rfl, ?_⟩ | refine ⟨⟨undef, rfl⟩, ?_⟩
      simpa [updB, upd, f14.out, f19.out, f26.out] using hW2
    · obtain ⟨ps, af, rfl⟩ := core (some 36) (.call { callee := .value (.func 46), args := #[.tmp 20, .tmp 25, .tmp 35], argTypes := #[32, 3, 9] }) 28 none ho (by kernel_rfl)
      have e20 : Tx.getD 20 undef = .pointer (some ⟨r, 0, none⟩) := hK.is 3 ho (by kernel_rfl) (by subst hV; rfl)
      have e25 : Tx.getD 25 undef = .int .i64 (1 - lf) := hK.is 8 ho (by kernel_rfl) (by subst hV; rfl)
      have e35 : Tx.getD 35 undef = .string fo := hK.is 18 ho (by kernel_rfl) (by subst hV; rfl)
      have hW1 : PW (dx 14) (dx 17) (dx 19) (dx 26)  wx := hW
      have f14 := hdb 14 (by decide) (by kernel_rfl)
      have f17 := hdb 17 (by decide) (by kernel_rfl)
      have f26 := hda 26 (by decide) (by kernel_rfl)
      clear hdb hda
      rw [hd, f14, f17, f26] at hW1
      replace f14 := Lib.hid f14
      replace f17 := Lib.hid f17
      replace f26 := Lib.hid f26
      clear hd hW hc
      refine wpOp_plain ho rfl ?_
      go_simp
      go_at_call 46
      refine (cl19 _ hW1).mono ?_
      rintro ex w2 ⟨rfl, hW2⟩
      subst hV
      first | refine ⟨undef, rfl, ?_⟩ | refine ⟨⟨undef, rfl⟩, ?_⟩
      simpa [updB, upd, f14.out, f17.out, f26.out] using hW2
    · obtain ⟨ps, af, rfl⟩ := core (some 43) (.call { callee := .value (.func 49), args := #[.tmp 42], argTypes := #[32] }) 28 (some (21, false)) ho (by kernel_rfl)
      have e42 : Tx.getD 42 undef = .pointer (some ⟨r, 0, none⟩) := hK.is 25 ho (by kernel_rfl) (by subst hV; rfl)
      have hW1 : PW (dx 14) (dx 17) (dx 19) (dx 26)  wx := hW
      have f14 := hdb 14 (by decide) (by kernel_rfl)
      have f17 := hdb 17 (by decide) (by kernel_rfl)
      have f19 := hdb 19 (by decide) (by kernel_rfl)
      clear hdb hda
      rw [hd, f14, f17, f19] at hW1
      replace f14 := Lib.hid f14
      replace f17 := Lib.hid f17
      replace f19 := Lib.hid f19
      clear hd hW hc
      refine wpOp_want ho ((wanted_of (d := 38) (b := false) rfl (by kernel_rfl) (hK.is 21 ho (by kernel_rfl) (by subst hV; rfl))).trans rfl) ?_
      go_simp
      go_at_call 49
      refine (cl26 _ hW1).mono ?_
      rintro ex w2 ⟨rfl, hW2⟩
      subst hV
      first | refine ⟨undef, rfl, ?_⟩ | refine ⟨⟨undef, rfl⟩, ?_⟩
      simpa [updB, upd, f14.out, f17.out, f19.out] using hW2
  · have hW1 : PW (dx 14) (dx 17) (dx 19) (dx 26)  wx := hW
    rw [hd 14 (by decide), hd 17 (by decide), hd 19 (by decide), hd 26 (by decide)] at hW1
    have hQ := h _ hW1
    rw [hsz]
    subst hV hT
    refine cast (congrArg (fun Tx => Q .normal ⟨Tx, ds⟩ wx) ?_) hQ
    kernel_rfl
noncomputable def rC3O : Array Oper := (Tryd.f54.body.bind fun c => findR c 7).getD #[]
def rC3_m : List (List Nat) := [[], [], [], [], [], [], [], [], [], [], [], [], [], [], [], [14], [], [14], [14, 17], [14, 17], [14, 17, 19], [14, 17, 19], [14, 17, 19], [14, 17, 19], [14, 17, 19], [14, 17, 19], [14, 17, 19], [14, 17, 19, 26], [14, 17, 19, 26], [14, 17, 19, 26], [14, 17, 19, 26], [14, 17, 19, 26], [14, 17, 19, 26], [14, 17, 19, 26], [14, 17, 19, 26], [14, 17, 19, 26], [14, 17, 19, 26], [14, 17, 19, 26], [14, 17, 19, 26], [14, 17, 19, 26, 38], [14, 17, 19, 26, 38]]
set_option maxHeartbeats 32000000 in
theorem rC3 (PW : Bool → Bool → Bool → Bool → Bool → World → Prop) (rb r : Nat) (lf g c1 c2 c3 : Int) (sn s1 s2 s3 fo : ByteArray) (bb : Bool) (w : World) (fa : IntKind.i64.wrap (1 - lf) = 1 - lf) (fb : IntKind.u64.wrap (g + 1) = g + 1) (fc : (⟨#[83, 78, 76, 49]⟩ : ByteArray) ++ s3 = s1) (fd : s1 ++ s2 = fo) (g1 : ¬ 9223372036854775807 < 4 + s3.size) (g2 : ¬ 9223372036854775807 < s1.size + s2.size) (f1 : (c1 != 0) = false) (f2 : (c2 != 0) = false) (f3 : (c3 != 0) = bb) (la : ∀ (b14 b17 b19 b26 b38 : Bool) (w : World), PW b14 b17 b19 b26 b38  w → w.cell? ⟨rb, 0, none⟩ = some (.pointer (some ⟨r, 0, none⟩))) (lb : ∀ (b14 b17 b19 b26 b38 : Bool) (w : World), PW b14 b17 b19 b26 b38  w → w.cell? ⟨rb, 1, none⟩ = some (.int .i64 lf)) (lc2 : ∀ (b14 b17 b19 b26 b38 : Bool) (w : World), PW b14 b17 b19 b26 b38  w → w.cell? ⟨rb, 2, none⟩ = some (.int .u64 g)) (cl14 : ∀ (w : World), PW false false false false false w → Calls Tryd.prog 47 #[.int .u64 (g + 1), .int .i64 8] w fun e w1 => e = .returned (.string s3) ∧ PW true false false false false  w1) (cl17 : ∀ (w : World), PW true false false false false w → Calls Tryd.prog 48 #[.string sn] w fun e w1 => e = .returned (.string s2) ∧ PW true true false false false  w1) (cl19 : ∀ (w : World), PW true true false false false w → Calls Tryd.prog 46 #[.pointer (some ⟨r, 0, none⟩), .int .i64 (1 - lf), .string fo] w fun e w1 => e = .returned (.int .i64 (c1)) ∧ PW true true true false false  w1) (cl26 : ∀ (w : World), PW true true true false false w → Calls Tryd.prog 49 #[.pointer (some ⟨r, 0, none⟩)] w fun e w1 => e = .returned (.int .i64 (c2)) ∧ PW true true true true false  w1) (cl38 : ∀ (w : World), PW true true true true false w → Calls Tryd.prog 87 #[.pointer (some ⟨r, 0, none⟩), .int .i64 lf, .int .i64 0] w fun e w1 => e = .returned (.int .i64 (c3)) ∧ PW true true true true true  w1) {t2 t3 t4 t5 t6 t7 t8 t9 t10 t11 t12 t13 t14 t15 t16 t17 t18 t19 t20 t21 t22 t23 t24 t25 t26 t27 t28 t29 t30 t31 t32 t33 t34 t35 t36 t37 t38 t39 t40 t41 t42 t43 t44 t45 t46 t47 t48 t49 t50 t51 t52 t53 t54 t55 t56 t57 t58 t59 t60 t61 t62 t63 t64 t65 t66 t67 t68 t69 t70 t71 t72 t73 t74 t75 t76 t77 : Value} (w0 : PW false false false false false  w.drew) {ds : List Deferred} {Q : Exit → Act → World → Prop}
    (h : ∀ (w1 : World), PW true true true true true  w1 → Q .normal { tmps := #[.pointer (some ⟨rb, 0, none⟩), .string sn, t2, t3, t4, t5, t6, t7, t8, t9, t10, t11, t12, t13, t14, t15, t16, .pointer (some ⟨rb, 0, none⟩), .pointer (some ⟨rb, 0, none⟩), .pointer (some ⟨rb, 0, none⟩), .pointer (some ⟨r, 0, none⟩), .pointer (some ⟨rb, 0, none⟩), .pointer (some ⟨rb, 0, none⟩), .pointer (some ⟨rb, 1, none⟩), .int .i64 lf, .int .i64 (1 - lf), .pointer (some ⟨rb, 0, none⟩), .pointer (some ⟨rb, 0, none⟩), .pointer (some ⟨rb, 2, none⟩), .int .u64 g, .int .u64 (g + 1), .string s3, .string s1, .string sn, .string s2, .string fo, .int .i64 (c1), .bool false, .bool false, .pointer (some ⟨rb, 0, none⟩), .pointer (some ⟨rb, 0, none⟩), .pointer (some ⟨rb, 0, none⟩), .pointer (some ⟨r, 0, none⟩), .int .i64 (c2), .bool false, .bool false, .bool false, .pointer (some ⟨rb, 0, none⟩), .pointer (some ⟨rb, 0, none⟩), .pointer (some ⟨rb, 0, none⟩), .pointer (some ⟨r, 0, none⟩), .pointer (some ⟨rb, 0, none⟩), .pointer (some ⟨rb, 0, none⟩), .pointer (some ⟨rb, 1, none⟩), .int .i64 lf, .int .i64 (c3), .bool bb, .bool bb, t58, t59, t60, t61, t62, t63, t64, t65, t66, t67, t68, t69, t70, t71, t72, t73, t74, t75, t76, t77], defers := ds } w1) :
    (Code.region 7 rC3O true).wp Tryd.prog Q { tmps := #[.pointer (some ⟨rb, 0, none⟩), .string sn, t2, t3, t4, t5, t6, t7, t8, t9, t10, t11, t12, t13, t14, t15, t16, t17, t18, t19, t20, t21, t22, t23, t24, t25, t26, t27, t28, t29, t30, t31, t32, t33, t34, t35, t36, t37, t38, t39, t40, t41, t42, t43, t44, t45, t46, t47, t48, t49, t50, t51, t52, t53, t54, t55, t56, t57, t58, t59, t60, t61, t62, t63, t64, t65, t66, t67, t68, t69, t70, t71, t72, t73, t74, t75, t76, t77], defers := ds } w := by
  have hsz : rC3O.size = 41 := by kernel_rfl
  generalize hT : List.toArray _ = T0
  have hs : T0.size = 78 := by subst hT; rfl
  have g0 : T0.getD 0 undef = .pointer (some ⟨rb, 0, none⟩) := by subst hT; rfl
  have g1 : T0.getD 1 undef = .string sn := by subst hT; rfl
  obtain ⟨W, hV⟩ : ∃ W : List ((Nat × (Value → Value)) ⊕ Value), W = [.inr (.pointer (some ⟨rb, 0, none⟩)), .inr (.pointer (some ⟨rb, 0, none⟩)), .inr (.pointer (some ⟨rb, 0, none⟩)), .inr (.pointer (some ⟨r, 0, none⟩)), .inr (.pointer (some ⟨rb, 0, none⟩)), .inr (.pointer (some ⟨rb, 0, none⟩)), .inr (.pointer (some ⟨rb, 1, none⟩)), .inr (.int .i64 lf), .inr (.int .i64 (1 - lf)), .inr (.pointer (some ⟨rb, 0, none⟩)), .inr (.pointer (some ⟨rb, 0, none⟩)), .inr (.pointer (some ⟨rb, 2, none⟩)), .inr (.int .u64 g), .inr (.int .u64 (g + 1)), .inr (.string s3), .inr (.string s1), .inr (.string sn), .inr (.string s2), .inr (.string fo), .inr (.int .i64 (c1)), .inr (.bool false), .inr (.bool false), .inr (.pointer (some ⟨rb, 0, none⟩)), .inr (.pointer (some ⟨rb, 0, none⟩)), .inr (.pointer (some ⟨rb, 0, none⟩)), .inr (.pointer (some ⟨r, 0, none⟩)), .inr (.int .i64 (c2)), .inr (.bool false), .inr (.bool false), .inr (.bool false), .inr (.pointer (some ⟨rb, 0, none⟩)), .inr (.pointer (some ⟨rb, 0, none⟩)), .inr (.pointer (some ⟨rb, 0, none⟩)), .inr (.pointer (some ⟨r, 0, none⟩)), .inr (.pointer (some ⟨rb, 0, none⟩)), .inr (.pointer (some ⟨rb, 0, none⟩)), .inr (.pointer (some ⟨rb, 1, none⟩)), .inr (.int .i64 lf), .inr (.int .i64 (c3)), .inr (.bool bb), .inr (.bool bb)] := ⟨_, rfl⟩
  refine wp_plan (by kernel_rfl) T0 ds [14, 17, 19, 26, 38] rC3_m (mkV W) (fun dx yx wx => PW (dx 14) (dx 17) (dx 19) (dx 26) (dx 38)  wx) w (by rw [hs]; kernel_rfl) (by kernel_rfl) (by kernel_rfl) (by rw [hsz]; decide) (fun cx hc ix hne ha yx vx => mkV_fix (by rw [hV]; kernel_rfl) hne ha yx vx) (?key) (fun cx hc ox ho dx yx Tx wx hd hdb hda hK hW => ?_) ⟨fun k => undef, w0⟩ (fun dx yx wx hd hW => ?_)
  case key =>
    rw [hsz]
    refine all_step (all_step (all_step (all_step (all_step (all_step (all_step (all_step (all_step (all_step (all_step (all_step (all_step (all_step (all_step (all_step (all_step (all_step (all_step (all_step (all_step (all_step (all_step (all_step (all_step (all_step (all_step (all_step (all_step (all_step (all_step (all_step (all_step (all_step (all_step (all_step (all_step (all_step (all_step (all_step (all_step all_zero ?_) ?_) ?_) ?_) ?_) ?_) ?_) ?_) ?_) ?_) ?_) ?_) ?_) ?_) ?_) ?_) ?_) ?_) ?_) ?_) ?_) ?_) ?_) ?_) ?_) ?_) ?_) ?_) ?_) ?_) ?_) ?_) ?_) ?_) ?_) ?_) ?_) ?_) ?_) ?_) ?_
    all_goals
      intro ox ho hic dx yx Tx wx hdb hK hW
      replace hdb := Lib.hid hdb
    · exact pl0 17 0 38 ho hK (by kernel_rfl) (by kernel_rfl) g0 (by subst hV; rfl) fun ps af e => k_mv e
    · exact pl1 18 17 0 0 ho hK (by kernel_rfl) (by kernel_rfl) (by subst hV; rfl) (by subst hV; rfl) fun ps af e => k_nc e
    · exact pl1 19 18 1 0 ho hK (by kernel_rfl) (by kernel_rfl) (by subst hV; rfl) (by subst hV; rfl) fun ps af e => k_fa102_0 e
    · exact pl1 20 19 2 32 ho hK (by kernel_rfl) (by kernel_rfl) (by subst hV; rfl) (by subst hV; rfl) fun ps af e => k_ld32 (la _ _ _ _ _ _ hW) e
    · exact pl0 21 0 38 ho hK (by kernel_rfl) (by kernel_rfl) g0 (by subst hV; rfl) fun ps af e => k_mv e
    · exact pl1 22 21 4 0 ho hK (by kernel_rfl) (by kernel_rfl) (by subst hV; rfl) (by subst hV; rfl) fun ps af e => k_nc e
    · exact pl1 23 22 5 0 ho hK (by kernel_rfl) (by kernel_rfl) (by subst hV; rfl) (by subst hV; rfl) fun ps af e => k_fa102_1 e
    · exact pl1 24 23 6 3 ho hK (by kernel_rfl) (by kernel_rfl) (by subst hV; rfl) (by subst hV; rfl) fun ps af e => k_ld3 (lb _ _ _ _ _ _ hW) e
    · obtain ⟨ps, af, rfl⟩ := core (some 25) (.binOp BinOp.sub 3 (.const (Value.int IntKind.i64 1)) (.tmp 24) 3) 3 none ho (by kernel_rfl)
      have e24 : Tx.getD 24 undef = .int .i64 lf := hK.is 7 ho (by kernel_rfl) (by subst hV; rfl)
      exact wpOp_plain ho rfl (by subst hV; go_simp; try rfl)
    · exact pl0 26 0 38 ho hK (by kernel_rfl) (by kernel_rfl) g0 (by subst hV; rfl) fun ps af e => k_mv e
    · exact pl1 27 26 9 0 ho hK (by kernel_rfl) (by kernel_rfl) (by subst hV; rfl) (by subst hV; rfl) fun ps af e => k_nc e
    · exact pl1 28 27 10 0 ho hK (by kernel_rfl) (by kernel_rfl) (by subst hV; rfl) (by subst hV; rfl) fun ps af e => k_fa102_2 e
    · exact pl1 29 28 11 99 ho hK (by kernel_rfl) (by kernel_rfl) (by subst hV; rfl) (by subst hV; rfl) fun ps af e => k_ld99 (lc2 _ _ _ _ _ _ hW) e
    · obtain ⟨ps, af, rfl⟩ := core (some 30) (.binOp BinOp.add 99 (.tmp 29) (.const (Value.int IntKind.u64 1)) 99) 99 none ho (by kernel_rfl)
      have e29 : Tx.getD 29 undef = .int .u64 g := hK.is 12 ho (by kernel_rfl) (by subst hV; rfl)
      exact wpOp_plain ho rfl (by subst hV; go_simp; try rfl)
    · exact absurd (by decide) hic
    · obtain ⟨ps, af, rfl⟩ := core (some 32) (.binOp BinOp.add 9 (.const (Value.string { data := #[83, 78, 76, 49] })) (.tmp 31) 9) 9 none ho (by kernel_rfl)
      have e31 : Tx.getD 31 undef = .string s3 := hK.is 14 ho (by kernel_rfl) (by subst hV; rfl)
      exact wpOp_plain ho rfl (by subst hV; go_simp; try rfl)
    · exact pl0 33 1 9 ho hK (by kernel_rfl) (by kernel_rfl) g1 (by subst hV; rfl) fun ps af e => k_mv e
    · exact absurd (by decide) hic
    · obtain ⟨ps, af, rfl⟩ := core (some 35) (.binOp BinOp.add 9 (.tmp 32) (.tmp 34) 9) 9 none ho (by kernel_rfl)
      have e32 : Tx.getD 32 undef = .string s1 := hK.is 15 ho (by kernel_rfl) (by subst hV; rfl)
      have e34 : Tx.getD 34 undef = .string s2 := hK.is 17 ho (by kernel_rfl) (by subst hV; rfl)
      exact wpOp_plain ho rfl (by subst hV; go_simp; try rfl)
    · exact absurd (by decide) hic
    · obtain ⟨ps, af, rfl⟩ := core (some 37) (.binOp BinOp.neq 28 (.tmp 36) (.const (Value.int IntKind.i64 0)) 28) 4 none ho (by kernel_rfl)
      have e36 : Tx.getD 36 undef = .int .i64 (c1) := hK.is 19 ho (by kernel_rfl) (by subst hV; rfl)
      exact wpOp_plain ho rfl (by subst hV; go_simp; try rfl)
    · exact pl1 38 37 20 4 ho hK (by kernel_rfl) (by kernel_rfl) (by subst hV; rfl) (by subst hV; rfl) fun ps af e => k_mv e
    · exact pg0 21 38 false 39 0 38 ho hK (by kernel_rfl) (by kernel_rfl) (by kernel_rfl) (by subst hV; rfl) (by kernel_rfl) g0 (by subst hV; rfl) fun ps af e => k_mv e
    · exact pg1 21 38 false 40 39 22 0 ho hK (by kernel_rfl) (by kernel_rfl) (by kernel_rfl) (by subst hV; rfl) (by kernel_rfl) (by subst hV; rfl) (by subst hV; rfl) fun ps af e => k_nc e
    · exact pg1 21 38 false 41 40 23 0 ho hK (by kernel_rfl) (by kernel_rfl) (by kernel_rfl) (by subst hV; rfl) (by kernel_rfl) (by subst hV; rfl) (by subst hV; rfl) fun ps af e => k_fa102_0 e
    · exact pg1 21 38 false 42 41 24 32 ho hK (by kernel_rfl) (by kernel_rfl) (by kernel_rfl) (by subst hV; rfl) (by kernel_rfl) (by subst hV; rfl) (by subst hV; rfl) fun ps af e => k_ld32 (la _ _ _ _ _ _ hW) e
    · exact absurd (by decide) hic
    · obtain ⟨ps, af, rfl⟩ := core (some 44) (.binOp BinOp.neq 28 (.tmp 43) (.const (Value.int IntKind.i64 0)) 28) 4 (some (21, false)) ho (by kernel_rfl)
      have e43 : Tx.getD 43 undef = .int .i64 (c2) := hK.is 26 ho (by kernel_rfl) (by subst hV; rfl)
      exact wpOp_want ho ((wanted_of (d := 38) (b := false) rfl (by kernel_rfl) (hK.is 21 ho (by kernel_rfl) (by subst hV; rfl))).trans rfl) (by subst hV; go_simp; try rfl)
    · obtain ⟨ps, af, rfl⟩ := core (some 45) (.pick (.tmp 38) (.const (Value.bool true)) (.tmp 44)) 4 none ho (by kernel_rfl)
      have e38 : Tx.getD 38 undef = .bool false := hK.is 21 ho (by kernel_rfl) (by subst hV; rfl)
      have e44 : Tx.getD 44 undef = .bool false := hK.is 27 ho (by kernel_rfl) (by subst hV; rfl)
      exact wpOp_plain ho rfl (by subst hV; go_simp; try rfl)
    · exact pl1 46 45 28 4 ho hK (by kernel_rfl) (by kernel_rfl) (by subst hV; rfl) (by subst hV; rfl) fun ps af e => k_mv e
    · exact pg0 29 46 false 47 0 38 ho hK (by kernel_rfl) (by kernel_rfl) (by kernel_rfl) (by subst hV; rfl) (by kernel_rfl) g0 (by subst hV; rfl) fun ps af e => k_mv e
    · exact pg1 29 46 false 48 47 30 0 ho hK (by kernel_rfl) (by kernel_rfl) (by kernel_rfl) (by subst hV; rfl) (by kernel_rfl) (by subst hV; rfl) (by subst hV; rfl) fun ps af e => k_nc e
    · exact pg1 29 46 false 49 48 31 0 ho hK (by kernel_rfl) (by kernel_rfl) (by kernel_rfl) (by subst hV; rfl) (by kernel_rfl) (by subst hV; rfl) (by subst hV; rfl) fun ps af e => k_fa102_0 e
    · exact pg1 29 46 false 50 49 32 32 ho hK (by kernel_rfl) (by kernel_rfl) (by kernel_rfl) (by subst hV; rfl) (by kernel_rfl) (by subst hV; rfl) (by subst hV; rfl) fun ps af e => k_ld32 (la _ _ _ _ _ _ hW) e
    · exact pg0 29 46 false 51 0 38 ho hK (by kernel_rfl) (by kernel_rfl) (by kernel_rfl) (by subst hV; rfl) (by kernel_rfl) g0 (by subst hV; rfl) fun ps af e => k_mv e
    · exact pg1 29 46 false 52 51 34 0 ho hK (by kernel_rfl) (by kernel_rfl) (by kernel_rfl) (by subst hV; rfl) (by kernel_rfl) (by subst hV; rfl) (by subst hV; rfl) fun ps af e => k_nc e
    · exact pg1 29 46 false 53 52 35 0 ho hK (by kernel_rfl) (by kernel_rfl) (by kernel_rfl) (by subst hV; rfl) (by kernel_rfl) (by subst hV; rfl) (by subst hV; rfl) fun ps af e => k_fa102_1 e
    · exact pg1 29 46 false 54 53 36 3 ho hK (by kernel_rfl) (by kernel_rfl) (by kernel_rfl) (by subst hV; rfl) (by kernel_rfl) (by subst hV; rfl) (by subst hV; rfl) fun ps af e => k_ld3 (lb _ _ _ _ _ _ hW) e
    · exact absurd (by decide) hic
    · obtain ⟨ps, af, rfl⟩ := core (some 56) (.binOp BinOp.neq 28 (.tmp 55) (.const (Value.int IntKind.i64 0)) 28) 4 (some (29, false)) ho (by kernel_rfl)
      have e55 : Tx.getD 55 undef = .int .i64 (c3) := hK.is 38 ho (by kernel_rfl) (by subst hV; rfl)
      exact wpOp_want ho ((wanted_of (d := 46) (b := false) rfl (by kernel_rfl) (hK.is 29 ho (by kernel_rfl) (by subst hV; rfl))).trans rfl) (by subst hV; go_simp; try rfl)
    · obtain ⟨ps, af, rfl⟩ := core (some 57) (.pick (.tmp 46) (.const (Value.bool true)) (.tmp 56)) 4 none ho (by kernel_rfl)
      have e46 : Tx.getD 46 undef = .bool false := hK.is 29 ho (by kernel_rfl) (by subst hV; rfl)
      have e56 : Tx.getD 56 undef = .bool bb := hK.is 39 ho (by kernel_rfl) (by subst hV; rfl)
      exact wpOp_plain ho rfl (by subst hV; go_simp; try rfl)
  · have hcase : cx = 14 ∨ cx = 17 ∨ cx = 19 ∨ cx = 26 ∨ cx = 38 := by simpa using hc
    rcases hcase with rfl | rfl | rfl | rfl | rfl
    · obtain ⟨ps, af, rfl⟩ := core (some 31) (.call { callee := .value (.func 47), args := #[.tmp 30, .const (Value.int IntKind.i64 8)], argTypes := #[99, 3] }) 9 none ho (by kernel_rfl)
      have e30 : Tx.getD 30 undef = .int .u64 (g + 1) := hK.is 13 ho (by kernel_rfl) (by subst hV; rfl)
      have hW1 : PW (dx 14) (dx 17) (dx 19) (dx 26) (dx 38)  wx := hW
      have f17 := hda 17 (by decide) (by kernel_rfl)
      have f19 := hda 19 (by decide) (by kernel_rfl)
      have f26 := hda 26 (by decide) (by kernel_rfl)
      have f38 := hda 38 (by decide) (by kernel_rfl)
      clear hdb hda
      rw [hd, f17, f19, f26, f38] at hW1
      replace f17 := Lib.hid f17
      replace f19 := Lib.hid f19
      replace f26 := Lib.hid f26
      replace f38 := Lib.hid f38
      clear hd hW hc
      refine wpOp_plain ho rfl ?_
      go_simp
      go_at_call 47
      refine (cl14 _ hW1).mono ?_
      rintro ex w2 ⟨rfl, hW2⟩
      subst hV
      first | refine ⟨undef, rfl, ?_⟩ | refine ⟨⟨undef, rfl⟩, ?_⟩
      simpa [updB, upd, f17.out, f19.out, f26.out, f38.out] using hW2
    · obtain ⟨ps, af, rfl⟩ := core (some 34) (.call { callee := .value (.func 48), args := #[.tmp 33], argTypes := #[9] }) 9 none ho (by kernel_rfl)
      have e33 : Tx.getD 33 undef = .string sn := hK.is 16 ho (by kernel_rfl) (by subst hV; rfl)
      have hW1 : PW (dx 14) (dx 17) (dx 19) (dx 26) (dx 38)  wx := hW
      have f14 := hdb 14 (by decide) (by kernel_rfl)
      have f19 := hda 19 (by decide) (by kernel_rfl)
      have f26 := hda 26 (by decide) (by kernel_rfl)
      have f38 := hda 38 (by decide) (by kernel_rfl)
      clear hdb hda
      rw [hd, f14, f19, f26, f38] at hW1
      replace f14 := Lib.hid f14
      replace f19 := Lib.hid f19
      replace f26 := Lib.hid f26
      replace f38 := Lib.hid f38
      clear hd hW hc
      refine wpOp_plain ho rfl ?_
      go_simp
      go_at_call 48
      refine (cl17 _ hW1).mono ?_
      rintro ex w2 ⟨rfl, hW2⟩
      subst hV
      first | refine ⟨undef, rfl, ?_⟩ | refine ⟨⟨undef, rfl⟩, ?_⟩
      simpa [updB, upd, f14.out, f19.out, f26.out, f38.out] using hW2
    · obtain ⟨ps, af, rfl⟩ := core (some 36) (.call { callee := .value (.func 46), args := #[.tmp 20, .tmp 25, .tmp 35], argTypes := #[32, 3, 9] }) 28 none ho (by kernel_rfl)
      have e20 : Tx.getD 20 undef = .pointer (some ⟨r, 0, none⟩) := hK.is 3 ho (by kernel_rfl) (by subst hV; rfl)
      have e25 : Tx.getD 25 undef = .int .i64 (1 - lf) := hK.is 8 ho (by kernel_rfl) (by subst hV; rfl)
      have e35 : Tx.getD 35 undef = .string fo := hK.is 18 ho (by kernel_rfl) (by subst hV; rfl)
      have hW1 : PW (dx 14) (dx 17) (dx 19) (dx 26) (dx 38)  wx := hW
      have f14 := hdb 14 (by decide) (by kernel_rfl)
      have f17 := hdb 17 (by decide) (by kernel_rfl)
      have f26 := hda 26 (by decide) (by kernel_rfl)
      have f38 := hda 38 (by decide) (by kernel_rfl)
      clear hdb hda
      rw [hd, f14, f17, f26, f38] at hW1
      replace f14 := Lib.hid f14
      replace f17 := Lib.hid f17
      replace f26 := Lib.hid f26
      replace f38 := Lib.hid f38
      clear hd hW hc
      refine wpOp_plain ho rfl ?_
      go_simp
      go_at_call 46
      refine (cl19 _ hW1).mono ?_
      rintro ex w2 ⟨rfl, hW2⟩
      subst hV
      first | refine ⟨undef, rfl, ?_⟩ | refine ⟨⟨undef, rfl⟩, ?_⟩
      simpa [updB, upd, f14.out, f17.out, f26.out, f38.out] using hW2
    · obtain ⟨ps, af, rfl⟩ := core (some 43) (.call { callee := .value (.func 49), args := #[.tmp 42], argTypes := #[32] }) 28 (some (21, false)) ho (by kernel_rfl)
      have e42 : Tx.getD 42 undef = .pointer (some ⟨r, 0, none⟩) := hK.is 25 ho (by kernel_rfl) (by subst hV; rfl)
      have hW1 : PW (dx 14) (dx 17) (dx 19) (dx 26) (dx 38)  wx := hW
      have f14 := hdb 14 (by decide) (by kernel_rfl)
      have f17 := hdb 17 (by decide) (by kernel_rfl)
      have f19 := hdb 19 (by decide) (by kernel_rfl)
      have f38 := hda 38 (by decide) (by kernel_rfl)
      clear hdb hda
      rw [hd, f14, f17, f19, f38] at hW1
      replace f14 := Lib.hid f14
      replace f17 := Lib.hid f17
      replace f19 := Lib.hid f19
      replace f38 := Lib.hid f38
      clear hd hW hc
      refine wpOp_want ho ((wanted_of (d := 38) (b := false) rfl (by kernel_rfl) (hK.is 21 ho (by kernel_rfl) (by subst hV; rfl))).trans rfl) ?_
      go_simp
      go_at_call 49
      refine (cl26 _ hW1).mono ?_
      rintro ex w2 ⟨rfl, hW2⟩
      subst hV
      first | refine ⟨undef, rfl, ?_⟩ | refine ⟨⟨undef, rfl⟩, ?_⟩
      simpa [updB, upd, f14.out, f17.out, f19.out, f38.out] using hW2
    · obtain ⟨ps, af, rfl⟩ := core (some 55) (.call { callee := .value (.func 87), args := #[.tmp 50, .tmp 54, .const (Value.int IntKind.i64 0)], argTypes := #[32, 3, 3] }) 28 (some (29, false)) ho (by kernel_rfl)
      have e50 : Tx.getD 50 undef = .pointer (some ⟨r, 0, none⟩) := hK.is 33 ho (by kernel_rfl) (by subst hV; rfl)
      have e54 : Tx.getD 54 undef = .int .i64 lf := hK.is 37 ho (by kernel_rfl) (by subst hV; rfl)
      have hW1 : PW (dx 14) (dx 17) (dx 19) (dx 26) (dx 38)  wx := hW
      have f14 := hdb 14 (by decide) (by kernel_rfl)
      have f17 := hdb 17 (by decide) (by kernel_rfl)
      have f19 := hdb 19 (by decide) (by kernel_rfl)
      have f26 := hdb 26 (by decide) (by kernel_rfl)
      clear hdb hda
      rw [hd, f14, f17, f19, f26] at hW1
      replace f14 := Lib.hid f14
      replace f17 := Lib.hid f17
      replace f19 := Lib.hid f19
      replace f26 := Lib.hid f26
      clear hd hW hc
      refine wpOp_want ho ((wanted_of (d := 46) (b := false) rfl (by kernel_rfl) (hK.is 29 ho (by kernel_rfl) (by subst hV; rfl))).trans rfl) ?_
      go_simp
      go_at_call 87
      refine (cl38 _ hW1).mono ?_
      rintro ex w2 ⟨rfl, hW2⟩
      subst hV
      first | refine ⟨undef, rfl, ?_⟩ | refine ⟨⟨undef, rfl⟩, ?_⟩
      simpa [updB, upd, f14.out, f17.out, f19.out, f26.out] using hW2
  · have hW1 : PW (dx 14) (dx 17) (dx 19) (dx 26) (dx 38)  wx := hW
    rw [hd 14 (by decide), hd 17 (by decide), hd 19 (by decide), hd 26 (by decide), hd 38 (by decide)] at hW1
    have hQ := h _ hW1
    rw [hsz]
    subst hV hT
    refine cast (congrArg (fun Tx => Q .normal ⟨Tx, ds⟩ wx) ?_) hQ
    kernel_rfl
end Go.Proofs.YtmoihgniglomiaaDoor
