/- The drawn region of sign's fixed answers. No condition. -/
import Derived.Test.YtpggkfdijmnmiaaGreatZuk10
import Derived.Test.YtpggkfdijmnmiaaGreatZuk05
set_option linter.unusedVariables false
set_option linter.unusedSimpArgs false
set_option maxRecDepth 100000
namespace Go.Proofs.YtpggkfdijmnmiaaGreat.Pl
open Go.RowKit Go.Sort Limbs
noncomputable def tFO : Array Oper := (Tryz.f13.body.bind fun c => findR c 8).getD #[]
def tF_m : List (List Nat) := [[], [], [1], [1], [1], [1], [1], [1], [1], [1], [1], [1], [1], [1], [1], [1], [1], [1], [1], [1], [1, 19], [1, 19], [1, 19], [1, 19], [1, 19], [1, 19, 24], [1, 19, 24], [1, 19, 24], [1, 19, 24], [1, 19, 24], [1, 19, 24, 29], [1, 19, 24, 29], [1, 19, 24, 29], [1, 19, 24, 29], [1, 19, 24, 29], [1, 19, 24, 29], [1, 19, 24, 29], [1, 19, 24, 29], [1, 19, 24, 29], [1, 19, 24, 29], [1, 19, 24, 29]]
set_option maxHeartbeats 32000000 in
theorem tF (PW : Bool → Bool → Bool → Bool → World → Prop) (gp r : Nat) (kd mc : ByteArray) (w : World)  (cl1 : ∀ (w : World), PW false false false false w → Calls Tryz.prog 48 #[] w fun e w1 => e = .returned (.agg #[.int .u64 17627433388654248598, .int .u64 8575836109218198432, .int .u64 17923454489921339634, .int .u64 7716867327612699207, .int .u64 14678990851816772085, .int .u64 3156516839386865358, .int .u64 10297457778147434006, .int .u64 5756518291402817435, .bool false]) ∧ PW true false false false  w1) (cl19 : ∀ (w : World), PW true false false false w → Calls Tryz.prog 26 #[.pointer (some ⟨r, 0, none⟩), .string kd, .string ⟨#[115]⟩, .string mc] w fun e w1 => e = .returned (.bool true) ∧ PW true true false false  w1) (cl24 : ∀ (w : World), PW true true false false w → Calls Tryz.prog 26 #[.pointer (some ⟨r, 0, none⟩), .string ⟨#[]⟩, .string ⟨#[115]⟩, .string mc] w fun e w1 => e = .returned (.bool false) ∧ PW true true true false  w1) (cl29 : ∀ (w : World), PW true true true false w → Calls Tryz.prog 16 #[.agg #[.int .u64 17627433388654248598, .int .u64 8575836109218198432, .int .u64 17923454489921339634, .int .u64 7716867327612699207, .int .u64 14678990851816772085, .int .u64 3156516839386865358, .int .u64 10297457778147434006, .int .u64 5756518291402817435, .bool false], .string ⟨#[]⟩, .string ⟨#[]⟩] w fun e w1 => e = .returned (.bool false) ∧ PW true true true true  w1) (lk : ∀ (b1 b19 b24 b29 : Bool) (w : World), PW b1 b19 b24 b29 w → w.cell? ⟨gp, 0, none⟩ = some (.int .u64 17627433388654248598) ∧ w.cell? ⟨gp, 1, none⟩ = some (.int .u64 8575836109218198432) ∧ w.cell? ⟨gp, 2, none⟩ = some (.int .u64 17923454489921339634) ∧ w.cell? ⟨gp, 3, none⟩ = some (.int .u64 7716867327612699207) ∧ w.cell? ⟨gp, 4, none⟩ = some (.int .u64 14678990851816772085) ∧ w.cell? ⟨gp, 5, none⟩ = some (.int .u64 3156516839386865358) ∧ w.cell? ⟨gp, 6, none⟩ = some (.int .u64 10297457778147434006) ∧ w.cell? ⟨gp, 7, none⟩ = some (.int .u64 5756518291402817435) ∧ w.cell? ⟨gp, 8, none⟩ = some (.bool false)) (hq : ∀ w, (Op.equalIn 10000 26 (.agg #[.int .u64 17627433388654248598, .int .u64 8575836109218198432, .int .u64 17923454489921339634, .int .u64 7716867327612699207, .int .u64 14678990851816772085, .int .u64 3156516839386865358, .int .u64 10297457778147434006, .int .u64 5756518291402817435, .bool false]) (.agg #[.int .u64 17627433388654248598, .int .u64 8575836109218198432, .int .u64 17923454489921339634, .int .u64 7716867327612699207, .int .u64 14678990851816772085, .int .u64 3156516839386865358, .int .u64 10297457778147434006, .int .u64 5756518291402817435, .bool false])).run Tryz.prog w = .ok true w) {t0 t3 t5 t10 t11 t12 t13 t14 t15 t16 t17 t18 t19 t20 t21 t22 t23 t24 t25 t26 t27 t28 t29 t30 t31 t32 t33 t34 t35 t36 t37 t38 t39 t40 t41 t42 t43 t44 t45 t46 t47 t48 t49 t50 t51 t52 t53 t54 t55 t56 t57 t58 t59 t60 t61 t62 t63 t64 t65 t66 t67 t68 t69 t70 t71 t72 t73 t74 t75 t76 t77 t78 t79 t80 t81 t82 t83 t84 t85 t86 t87 t88 : Value} (w0 : PW false false false false  w.drew) {ds : List Deferred} {Q : Exit → Act → World → Prop}
    (h : ∀ (w1 : World), PW true true true true  w1 → Q .normal { tmps := #[.bool true, .pointer (some ⟨gp, 0, none⟩), .int .i64 0, t3, .int .i64 80, t5, .int .i64 80, .pointer (some ⟨r, 0, none⟩), .string kd, .string mc, t10, t11, t12, t13, t14, t15, t16, t17, t18, t19, t20, t21, t22, t23, t24, t25, t26, t27, t28, t29, t30, t31, t32, t33, t34, t35, t36, t37, t38, t39, t40, t41, t42, t43, t44, t45, t46, t47, t48, .agg #[.int .u64 17627433388654248598, .int .u64 8575836109218198432, .int .u64 17923454489921339634, .int .u64 7716867327612699207, .int .u64 14678990851816772085, .int .u64 3156516839386865358, .int .u64 10297457778147434006, .int .u64 5756518291402817435, .bool false], .agg #[.int .u64 17627433388654248598, .int .u64 8575836109218198432, .int .u64 17923454489921339634, .int .u64 7716867327612699207, .int .u64 14678990851816772085, .int .u64 3156516839386865358, .int .u64 10297457778147434006, .int .u64 5756518291402817435, .bool false], .bool true, .bool true, .int .i64 0, .bool true, .bool true, .bool true, .int .i64 80, .bool true, .bool true, .bool true, .int .i64 80, .bool true, .bool true, .bool true, .pointer (some ⟨r, 0, none⟩), .string kd, .string mc, .bool true, .bool true, .bool true, .pointer (some ⟨r, 0, none⟩), .string mc, .bool false, .bool true, .bool true, .bool true, .agg #[.int .u64 17627433388654248598, .int .u64 8575836109218198432, .int .u64 17923454489921339634, .int .u64 7716867327612699207, .int .u64 14678990851816772085, .int .u64 3156516839386865358, .int .u64 10297457778147434006, .int .u64 5756518291402817435, .bool false], .bool false, .bool true, .bool true, .bool true, .bool true, .bool true, .bool true, .bool true, .bool true, .bool true, .bool true], defers := ds } w1) :
    (Code.region 8 tFO true).wp Tryz.prog Q { tmps := #[t0, .pointer (some ⟨gp, 0, none⟩), .int .i64 0, t3, .int .i64 80, t5, .int .i64 80, .pointer (some ⟨r, 0, none⟩), .string kd, .string mc, t10, t11, t12, t13, t14, t15, t16, t17, t18, t19, t20, t21, t22, t23, t24, t25, t26, t27, t28, t29, t30, t31, t32, t33, t34, t35, t36, t37, t38, t39, t40, t41, t42, t43, t44, t45, t46, t47, t48, t49, t50, t51, t52, t53, t54, t55, t56, t57, t58, t59, t60, t61, t62, t63, t64, t65, t66, t67, t68, t69, t70, t71, t72, t73, t74, t75, t76, t77, t78, t79, t80, t81, t82, t83, t84, t85, t86, t87, t88], defers := ds } w := by
  have hsz : tFO.size = 41 := by kernel_rfl
  generalize hT : List.toArray _ = T0
  have hs : T0.size = 89 := by subst hT; rfl
  have g1 : T0.getD 1 undef = .pointer (some ⟨gp, 0, none⟩) := by subst hT; rfl
  have g2 : T0.getD 2 undef = .int .i64 0 := by subst hT; rfl
  have g4 : T0.getD 4 undef = .int .i64 80 := by subst hT; rfl
  have g6 : T0.getD 6 undef = .int .i64 80 := by subst hT; rfl
  have g7 : T0.getD 7 undef = .pointer (some ⟨r, 0, none⟩) := by subst hT; rfl
  have g8 : T0.getD 8 undef = .string kd := by subst hT; rfl
  have g9 : T0.getD 9 undef = .string mc := by subst hT; rfl
  obtain ⟨W, hV⟩ : ∃ W : List ((Nat × (Value → Value)) ⊕ Value), W = [.inr (.agg #[.int .u64 17627433388654248598, .int .u64 8575836109218198432, .int .u64 17923454489921339634, .int .u64 7716867327612699207, .int .u64 14678990851816772085, .int .u64 3156516839386865358, .int .u64 10297457778147434006, .int .u64 5756518291402817435, .bool false]), .inr (.agg #[.int .u64 17627433388654248598, .int .u64 8575836109218198432, .int .u64 17923454489921339634, .int .u64 7716867327612699207, .int .u64 14678990851816772085, .int .u64 3156516839386865358, .int .u64 10297457778147434006, .int .u64 5756518291402817435, .bool false]), .inr (.bool true), .inr (.bool true), .inr (.int .i64 0), .inr (.bool true), .inr (.bool true), .inr (.bool true), .inr (.int .i64 80), .inr (.bool true), .inr (.bool true), .inr (.bool true), .inr (.int .i64 80), .inr (.bool true), .inr (.bool true), .inr (.bool true), .inr (.pointer (some ⟨r, 0, none⟩)), .inr (.string kd), .inr (.string mc), .inr (.bool true), .inr (.bool true), .inr (.bool true), .inr (.pointer (some ⟨r, 0, none⟩)), .inr (.string mc), .inr (.bool false), .inr (.bool true), .inr (.bool true), .inr (.bool true), .inr (.agg #[.int .u64 17627433388654248598, .int .u64 8575836109218198432, .int .u64 17923454489921339634, .int .u64 7716867327612699207, .int .u64 14678990851816772085, .int .u64 3156516839386865358, .int .u64 10297457778147434006, .int .u64 5756518291402817435, .bool false]), .inr (.bool false), .inr (.bool true), .inr (.bool true), .inr (.bool true), .inr (.bool true), .inr (.bool true), .inr (.bool true), .inr (.bool true), .inr (.bool true), .inr (.bool true), .inr (.bool true), .inr (.bool true)] := ⟨_, rfl⟩
  refine wp_plan (by kernel_rfl) T0 ds [1, 19, 24, 29] tF_m (mkV W) (fun dx yx wx => PW (dx 1) (dx 19) (dx 24) (dx 29)  wx) w (by rw [hs]; kernel_rfl) (by kernel_rfl) (by kernel_rfl) (by rw [hsz]; decide) (fun cx hc ix hne ha yx vx => mkV_fix (by rw [hV]; kernel_rfl) hne ha yx vx) (?key) (fun cx hc ox ho dx yx Tx wx hd hdb hda hK hW => ?_) ⟨fun k => undef, w0⟩ (fun dx yx wx hd hW => ?_)
  case key =>
    rw [hsz]
    refine all_step (all_step (all_step (all_step (all_step (all_step (all_step (all_step (all_step (all_step (all_step (all_step (all_step (all_step (all_step (all_step (all_step (all_step (all_step (all_step (all_step (all_step (all_step (all_step (all_step (all_step (all_step (all_step (all_step (all_step (all_step (all_step (all_step (all_step (all_step (all_step (all_step (all_step (all_step (all_step (all_step all_zero ?_) ?_) ?_) ?_) ?_) ?_) ?_) ?_) ?_) ?_) ?_) ?_) ?_) ?_) ?_) ?_) ?_) ?_) ?_) ?_) ?_) ?_) ?_) ?_) ?_) ?_) ?_) ?_) ?_) ?_) ?_) ?_) ?_) ?_) ?_) ?_) ?_) ?_) ?_) ?_) ?_
    all_goals
      intro ox ho hic dx yx Tx wx hdb hK hW
      replace hdb := Lib.hid hdb
    · obtain ⟨ps, af, rfl⟩ := core (some 49) (.load 26 (.tmp 1)) 26 none ho (by kernel_rfl)
      have e1 : Tx.getD 1 undef = .pointer (some ⟨gp, 0, none⟩) := hK.of (by kernel_rfl) g1
      obtain ⟨hl0, hl1, hl2, hl3, hl4, hl5, hl6, hl7, hl8⟩ := lk _ _ _ _ _ hW
      exact wpOp_plain ho rfl (by subst hV; go_simp; try rfl)
    · exact absurd (by decide) hic
    · obtain ⟨ps, af, rfl⟩ := core (some 51) (.binOp BinOp.eql 26 (.tmp 49) (.tmp 50) 26) 4 none ho (by kernel_rfl)
      have e49 : Tx.getD 49 undef = .agg #[.int .u64 17627433388654248598, .int .u64 8575836109218198432, .int .u64 17923454489921339634, .int .u64 7716867327612699207, .int .u64 14678990851816772085, .int .u64 3156516839386865358, .int .u64 10297457778147434006, .int .u64 5756518291402817435, .bool false] := hK.is 0 ho (by kernel_rfl) (by subst hV; rfl)
      have e50 : Tx.getD 50 undef = .agg #[.int .u64 17627433388654248598, .int .u64 8575836109218198432, .int .u64 17923454489921339634, .int .u64 7716867327612699207, .int .u64 14678990851816772085, .int .u64 3156516839386865358, .int .u64 10297457778147434006, .int .u64 5756518291402817435, .bool false] := hK.is 1 ho (by kernel_rfl) (by subst hV; rfl)
      have hq1 := hq
      exact wpOp_plain ho rfl (by subst hV; go_simp; try rfl)
    · exact pl1 52 51 2 4 ho hK (by kernel_rfl) (by kernel_rfl) (by subst hV; rfl) (by subst hV; rfl) fun ps af e => k_mv e
    · exact pg0 3 52 true 53 2 27 ho hK (by kernel_rfl) (by kernel_rfl) (by kernel_rfl) (by subst hV; rfl) (by kernel_rfl) g2 (by subst hV; rfl) fun ps af e => k_mv e
    · obtain ⟨ps, af, rfl⟩ := core (some 54) (.binOp BinOp.eql 27 (.tmp 53) (.const (Value.int IntKind.i64 0)) 27) 4 (some (3, true)) ho (by kernel_rfl)
      have e53 : Tx.getD 53 undef = .int .i64 0 := hK.is 4 ho (by kernel_rfl) (by subst hV; rfl)
      exact wpOp_want ho ((wanted_of (d := 52) (b := true) rfl (by kernel_rfl) (hK.is 3 ho (by kernel_rfl) (by subst hV; rfl))).trans rfl) (by subst hV; go_simp; try rfl)
    · obtain ⟨ps, af, rfl⟩ := core (some 55) (.pick (.tmp 52) (.tmp 54) (.const (Value.bool false))) 4 none ho (by kernel_rfl)
      have e52 : Tx.getD 52 undef = .bool true := hK.is 3 ho (by kernel_rfl) (by subst hV; rfl)
      have e54 : Tx.getD 54 undef = .bool true := hK.is 5 ho (by kernel_rfl) (by subst hV; rfl)
      exact wpOp_plain ho rfl (by subst hV; go_simp; try rfl)
    · exact pl1 56 55 6 4 ho hK (by kernel_rfl) (by kernel_rfl) (by subst hV; rfl) (by subst hV; rfl) fun ps af e => k_mv e
    · exact pg0 7 56 true 57 4 27 ho hK (by kernel_rfl) (by kernel_rfl) (by kernel_rfl) (by subst hV; rfl) (by kernel_rfl) g4 (by subst hV; rfl) fun ps af e => k_mv e
    · obtain ⟨ps, af, rfl⟩ := core (some 58) (.binOp BinOp.eql 27 (.tmp 57) (.const (Value.int IntKind.i64 80)) 27) 4 (some (7, true)) ho (by kernel_rfl)
      have e57 : Tx.getD 57 undef = .int .i64 80 := hK.is 8 ho (by kernel_rfl) (by subst hV; rfl)
      exact wpOp_want ho ((wanted_of (d := 56) (b := true) rfl (by kernel_rfl) (hK.is 7 ho (by kernel_rfl) (by subst hV; rfl))).trans rfl) (by subst hV; go_simp; try rfl)
    · obtain ⟨ps, af, rfl⟩ := core (some 59) (.pick (.tmp 56) (.tmp 58) (.const (Value.bool false))) 4 none ho (by kernel_rfl)
      have e56 : Tx.getD 56 undef = .bool true := hK.is 7 ho (by kernel_rfl) (by subst hV; rfl)
      have e58 : Tx.getD 58 undef = .bool true := hK.is 9 ho (by kernel_rfl) (by subst hV; rfl)
      exact wpOp_plain ho rfl (by subst hV; go_simp; try rfl)
    · exact pl1 60 59 10 4 ho hK (by kernel_rfl) (by kernel_rfl) (by subst hV; rfl) (by subst hV; rfl) fun ps af e => k_mv e
    · exact pg0 11 60 true 61 6 27 ho hK (by kernel_rfl) (by kernel_rfl) (by kernel_rfl) (by subst hV; rfl) (by kernel_rfl) g6 (by subst hV; rfl) fun ps af e => k_mv e
    · obtain ⟨ps, af, rfl⟩ := core (some 62) (.binOp BinOp.eql 27 (.tmp 61) (.const (Value.int IntKind.i64 80)) 27) 4 (some (11, true)) ho (by kernel_rfl)
      have e61 : Tx.getD 61 undef = .int .i64 80 := hK.is 12 ho (by kernel_rfl) (by subst hV; rfl)
      exact wpOp_want ho ((wanted_of (d := 60) (b := true) rfl (by kernel_rfl) (hK.is 11 ho (by kernel_rfl) (by subst hV; rfl))).trans rfl) (by subst hV; go_simp; try rfl)
    · obtain ⟨ps, af, rfl⟩ := core (some 63) (.pick (.tmp 60) (.tmp 62) (.const (Value.bool false))) 4 none ho (by kernel_rfl)
      have e60 : Tx.getD 60 undef = .bool true := hK.is 11 ho (by kernel_rfl) (by subst hV; rfl)
      have e62 : Tx.getD 62 undef = .bool true := hK.is 13 ho (by kernel_rfl) (by subst hV; rfl)
      exact wpOp_plain ho rfl (by subst hV; go_simp; try rfl)
    · exact pl1 64 63 14 4 ho hK (by kernel_rfl) (by kernel_rfl) (by subst hV; rfl) (by subst hV; rfl) fun ps af e => k_mv e
    · exact pg0 15 64 true 65 7 41 ho hK (by kernel_rfl) (by kernel_rfl) (by kernel_rfl) (by subst hV; rfl) (by kernel_rfl) g7 (by subst hV; rfl) fun ps af e => k_mv e
    · exact pg0 15 64 true 66 8 9 ho hK (by kernel_rfl) (by kernel_rfl) (by kernel_rfl) (by subst hV; rfl) (by kernel_rfl) g8 (by subst hV; rfl) fun ps af e => k_mv e
    · exact pg0 15 64 true 67 9 9 ho hK (by kernel_rfl) (by kernel_rfl) (by kernel_rfl) (by subst hV; rfl) (by kernel_rfl) g9 (by subst hV; rfl) fun ps af e => k_mv e
    · exact absurd (by decide) hic
    · obtain ⟨ps, af, rfl⟩ := core (some 69) (.pick (.tmp 64) (.tmp 68) (.const (Value.bool false))) 4 none ho (by kernel_rfl)
      have e64 : Tx.getD 64 undef = .bool true := hK.is 15 ho (by kernel_rfl) (by subst hV; rfl)
      have e68 : Tx.getD 68 undef = .bool true := hK.is 19 ho (by kernel_rfl) (by subst hV; rfl)
      exact wpOp_plain ho rfl (by subst hV; go_simp; try rfl)
    · exact pl1 70 69 20 4 ho hK (by kernel_rfl) (by kernel_rfl) (by subst hV; rfl) (by subst hV; rfl) fun ps af e => k_mv e
    · exact pg0 21 70 true 71 7 41 ho hK (by kernel_rfl) (by kernel_rfl) (by kernel_rfl) (by subst hV; rfl) (by kernel_rfl) g7 (by subst hV; rfl) fun ps af e => k_mv e
    · exact pg0 21 70 true 72 9 9 ho hK (by kernel_rfl) (by kernel_rfl) (by kernel_rfl) (by subst hV; rfl) (by kernel_rfl) g9 (by subst hV; rfl) fun ps af e => k_mv e
    · exact absurd (by decide) hic
    · obtain ⟨ps, af, rfl⟩ := core (some 74) (.unOp UnOp.not 4 (.tmp 73)) 4 (some (21, true)) ho (by kernel_rfl)
      have e73 : Tx.getD 73 undef = .bool false := hK.is 24 ho (by kernel_rfl) (by subst hV; rfl)
      exact wpOp_want ho ((wanted_of (d := 70) (b := true) rfl (by kernel_rfl) (hK.is 21 ho (by kernel_rfl) (by subst hV; rfl))).trans rfl) (by subst hV; go_simp; try rfl)
    · obtain ⟨ps, af, rfl⟩ := core (some 75) (.pick (.tmp 70) (.tmp 74) (.const (Value.bool false))) 4 none ho (by kernel_rfl)
      have e70 : Tx.getD 70 undef = .bool true := hK.is 21 ho (by kernel_rfl) (by subst hV; rfl)
      have e74 : Tx.getD 74 undef = .bool true := hK.is 25 ho (by kernel_rfl) (by subst hV; rfl)
      exact wpOp_plain ho rfl (by subst hV; go_simp; try rfl)
    · exact pl1 76 75 26 4 ho hK (by kernel_rfl) (by kernel_rfl) (by subst hV; rfl) (by subst hV; rfl) fun ps af e => k_mv e
    · obtain ⟨ps, af, rfl⟩ := core (some 77) (.load 26 (.tmp 1)) 26 (some (27, true)) ho (by kernel_rfl)
      have e1 : Tx.getD 1 undef = .pointer (some ⟨gp, 0, none⟩) := hK.of (by kernel_rfl) g1
      obtain ⟨hl0, hl1, hl2, hl3, hl4, hl5, hl6, hl7, hl8⟩ := lk _ _ _ _ _ hW
      exact wpOp_want ho ((wanted_of (d := 76) (b := true) rfl (by kernel_rfl) (hK.is 27 ho (by kernel_rfl) (by subst hV; rfl))).trans rfl) (by subst hV; go_simp; try rfl)
    · exact absurd (by decide) hic
    · obtain ⟨ps, af, rfl⟩ := core (some 79) (.unOp UnOp.not 4 (.tmp 78)) 4 (some (27, true)) ho (by kernel_rfl)
      have e78 : Tx.getD 78 undef = .bool false := hK.is 29 ho (by kernel_rfl) (by subst hV; rfl)
      exact wpOp_want ho ((wanted_of (d := 76) (b := true) rfl (by kernel_rfl) (hK.is 27 ho (by kernel_rfl) (by subst hV; rfl))).trans rfl) (by subst hV; go_simp; try rfl)
    · obtain ⟨ps, af, rfl⟩ := core (some 80) (.pick (.tmp 76) (.tmp 79) (.const (Value.bool false))) 4 none ho (by kernel_rfl)
      have e76 : Tx.getD 76 undef = .bool true := hK.is 27 ho (by kernel_rfl) (by subst hV; rfl)
      have e79 : Tx.getD 79 undef = .bool true := hK.is 30 ho (by kernel_rfl) (by subst hV; rfl)
      exact wpOp_plain ho rfl (by subst hV; go_simp; try rfl)
    · exact pl1 81 80 31 4 ho hK (by kernel_rfl) (by kernel_rfl) (by subst hV; rfl) (by subst hV; rfl) fun ps af e => k_mv e
    · obtain ⟨ps, af, rfl⟩ := core (some 82) (.pick (.tmp 81) (.const (Value.bool true)) (.const (Value.bool false))) 4 none ho (by kernel_rfl)
      have e81 : Tx.getD 81 undef = .bool true := hK.is 32 ho (by kernel_rfl) (by subst hV; rfl)
      exact wpOp_plain ho rfl (by subst hV; go_simp; try rfl)
    · exact pl1 83 82 33 4 ho hK (by kernel_rfl) (by kernel_rfl) (by subst hV; rfl) (by subst hV; rfl) fun ps af e => k_mv e
    · obtain ⟨ps, af, rfl⟩ := core (some 84) (.pick (.tmp 83) (.const (Value.bool true)) (.const (Value.bool false))) 4 none ho (by kernel_rfl)
      have e83 : Tx.getD 83 undef = .bool true := hK.is 34 ho (by kernel_rfl) (by subst hV; rfl)
      exact wpOp_plain ho rfl (by subst hV; go_simp; try rfl)
    · exact pl1 85 84 35 4 ho hK (by kernel_rfl) (by kernel_rfl) (by subst hV; rfl) (by subst hV; rfl) fun ps af e => k_mv e
    · obtain ⟨ps, af, rfl⟩ := core (some 86) (.pick (.tmp 85) (.const (Value.bool true)) (.const (Value.bool false))) 4 none ho (by kernel_rfl)
      have e85 : Tx.getD 85 undef = .bool true := hK.is 36 ho (by kernel_rfl) (by subst hV; rfl)
      exact wpOp_plain ho rfl (by subst hV; go_simp; try rfl)
    · exact pl1 87 86 37 4 ho hK (by kernel_rfl) (by kernel_rfl) (by subst hV; rfl) (by subst hV; rfl) fun ps af e => k_mv e
    · obtain ⟨ps, af, rfl⟩ := core (some 88) (.pick (.tmp 87) (.const (Value.bool true)) (.const (Value.bool false))) 4 none ho (by kernel_rfl)
      have e87 : Tx.getD 87 undef = .bool true := hK.is 38 ho (by kernel_rfl) (by subst hV; rfl)
      exact wpOp_plain ho rfl (by subst hV; go_simp; try rfl)
    · exact pl1 0 88 39 4 ho hK (by kernel_rfl) (by kernel_rfl) (by subst hV; rfl) (by subst hV; rfl) fun ps af e => k_as e
  · have hcase : cx = 1 ∨ cx = 19 ∨ cx = 24 ∨ cx = 29 := by simpa using hc
    rcases hcase with rfl | rfl | rfl | rfl
    · obtain ⟨ps, af, rfl⟩ := core (some 50) (.call { callee := .value (.func 48), args := #[], argTypes := #[] }) 26 none ho (by kernel_rfl)
      have hW1 : PW (dx 1) (dx 19) (dx 24) (dx 29)  wx := hW
      have f19 := hda 19 (by decide) (by kernel_rfl)
      have f24 := hda 24 (by decide) (by kernel_rfl)
      have f29 := hda 29 (by decide) (by kernel_rfl)
      clear hdb hda
      rw [hd, f19, f24, f29] at hW1
      replace f19 := Lib.hid f19
      replace f24 := Lib.hid f24
      replace f29 := Lib.hid f29
      clear hd hW hc
      refine wpOp_plain ho rfl ?_
      go_simp
      go_at_call 48
      refine (cl1 _ hW1).mono ?_
      rintro ex w2 ⟨rfl, hW2⟩
      subst hV
      first | refine ⟨undef, rfl, ?_⟩ | refine ⟨⟨undef, rfl⟩, ?_⟩
      simpa [updB, upd, f19.out, f24.out, f29.out] using hW2
    · obtain ⟨ps, af, rfl⟩ := core (some 68) (.call { callee := .value (.func 26), args := #[.tmp 65, .tmp 66, .const (Value.string { data := #[115] }), .tmp 67], argTypes := #[41, 9, 9, 9] }) 4 (some (15, true)) ho (by kernel_rfl)
      have e65 : Tx.getD 65 undef = .pointer (some ⟨r, 0, none⟩) := hK.is 16 ho (by kernel_rfl) (by subst hV; rfl)
      have e66 : Tx.getD 66 undef = .string kd := hK.is 17 ho (by kernel_rfl) (by subst hV; rfl)
      have e67 : Tx.getD 67 undef = .string mc := hK.is 18 ho (by kernel_rfl) (by subst hV; rfl)
      have hW1 : PW (dx 1) (dx 19) (dx 24) (dx 29)  wx := hW
      have f1 := hdb 1 (by decide) (by kernel_rfl)
      have f24 := hda 24 (by decide) (by kernel_rfl)
      have f29 := hda 29 (by decide) (by kernel_rfl)
      clear hdb hda
      rw [hd, f1, f24, f29] at hW1
      replace f1 := Lib.hid f1
      replace f24 := Lib.hid f24
      replace f29 := Lib.hid f29
      clear hd hW hc
      refine wpOp_want ho ((wanted_of (d := 64) (b := true) rfl (by kernel_rfl) (hK.is 15 ho (by kernel_rfl) (by subst hV; rfl))).trans rfl) ?_
      go_simp
      go_at_call 26
      refine (cl19 _ hW1).mono ?_
      rintro ex w2 ⟨rfl, hW2⟩
      subst hV
      first | refine ⟨undef, rfl, ?_⟩ | refine ⟨⟨undef, rfl⟩, ?_⟩
      simpa [updB, upd, f1.out, f24.out, f29.out] using hW2
    · obtain ⟨ps, af, rfl⟩ := core (some 73) (.call { callee := .value (.func 26), args := #[.tmp 71, .const (Value.string { data := #[] }), .const (Value.string { data := #[115] }), .tmp 72], argTypes := #[41, 9, 9, 9] }) 4 (some (21, true)) ho (by kernel_rfl)
      have e71 : Tx.getD 71 undef = .pointer (some ⟨r, 0, none⟩) := hK.is 22 ho (by kernel_rfl) (by subst hV; rfl)
      have e72 : Tx.getD 72 undef = .string mc := hK.is 23 ho (by kernel_rfl) (by subst hV; rfl)
      have hW1 : PW (dx 1) (dx 19) (dx 24) (dx 29)  wx := hW
      have f1 := hdb 1 (by decide) (by kernel_rfl)
      have f19 := hdb 19 (by decide) (by kernel_rfl)
      have f29 := hda 29 (by decide) (by kernel_rfl)
      clear hdb hda
      rw [hd, f1, f19, f29] at hW1
      replace f1 := Lib.hid f1
      replace f19 := Lib.hid f19
      replace f29 := Lib.hid f29
      clear hd hW hc
      refine wpOp_want ho ((wanted_of (d := 70) (b := true) rfl (by kernel_rfl) (hK.is 21 ho (by kernel_rfl) (by subst hV; rfl))).trans rfl) ?_
      go_simp
      go_at_call 26
      refine (cl24 _ hW1).mono ?_
      rintro ex w2 ⟨rfl, hW2⟩
      subst hV
      first | refine ⟨undef, rfl, ?_⟩ | refine ⟨⟨undef, rfl⟩, ?_⟩
      simpa [updB, upd, f1.out, f19.out, f29.out] using hW2
    · obtain ⟨ps, af, rfl⟩ := core (some 78) (.call { callee := .value (.func 16), args := #[.tmp 77, .const (Value.string { data := #[] }), .const (Value.string { data := #[] })], argTypes := #[26, 9, 9] }) 4 (some (27, true)) ho (by kernel_rfl)
      have e77 : Tx.getD 77 undef = .agg #[.int .u64 17627433388654248598, .int .u64 8575836109218198432, .int .u64 17923454489921339634, .int .u64 7716867327612699207, .int .u64 14678990851816772085, .int .u64 3156516839386865358, .int .u64 10297457778147434006, .int .u64 5756518291402817435, .bool false] := hK.is 28 ho (by kernel_rfl) (by subst hV; rfl)
      have hW1 : PW (dx 1) (dx 19) (dx 24) (dx 29)  wx := hW
      have f1 := hdb 1 (by decide) (by kernel_rfl)
      have f19 := hdb 19 (by decide) (by kernel_rfl)
      have f24 := hdb 24 (by decide) (by kernel_rfl)
      clear hdb hda
      rw [hd, f1, f19, f24] at hW1
      replace f1 := Lib.hid f1
      replace f19 := Lib.hid f19
      replace f24 := Lib.hid f24
      clear hd hW hc
      refine wpOp_want ho ((wanted_of (d := 76) (b := true) rfl (by kernel_rfl) (hK.is 27 ho (by kernel_rfl) (by subst hV; rfl))).trans rfl) ?_
      go_simp
      go_at_call 16
      refine (cl29 _ hW1).mono ?_
      rintro ex w2 ⟨rfl, hW2⟩
      subst hV
      first | refine ⟨undef, rfl, ?_⟩ | refine ⟨⟨undef, rfl⟩, ?_⟩
      simpa [updB, upd, f1.out, f19.out, f24.out] using hW2
  · have hW1 : PW (dx 1) (dx 19) (dx 24) (dx 29)  wx := hW
    rw [hd 1 (by decide), hd 19 (by decide), hd 24 (by decide), hd 29 (by decide)] at hW1
    have hQ := h _ hW1
    rw [hsz]
    subst hV hT
    refine cast (congrArg (fun Tx => Q .normal ⟨Tx, ds⟩ wx) ?_) hQ
    kernel_rfl
end Go.Proofs.YtpggkfdijmnmiaaGreat.Pl
