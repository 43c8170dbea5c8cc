/- The drawn region of sign's fixed answers. No condition. What sign's fixed answers: true. No condition. SignFits' walk: what was signed fits. Condition: texts of at most 2^47 - 4096 bytes. -/
import Derived.Test.YtpggkfdijmnmiaaGreatZuf11
import Derived.Test.YtpggkfdijmnmiaaGreatZuf05
import Derived.Test.YtpggkfdijmnmiaaGreatZuf17
import Derived.Test.YtpggkfdijmnmiaaGreatZuf16
set_option linter.unusedVariables false
set_option linter.unusedSimpArgs false
set_option maxRecDepth 100000
namespace Go.Proofs.YtpggkfdijmnmiaaGreat.Pl
open Go.RowKit Go.Sort Limbs
noncomputable def tFO : Array Oper := (Tryz.f13.body.bind fun c => findR c 8).getD #[]
def tF_m : List (List Nat) := [[], [], [1], [1], [1], [1], [1], [1], [1], [1], [1], [1], [1], [1], [1], [1], [1], [1], [1], [1], [1, 19], [1, 19], [1, 19], [1, 19], [1, 19], [1, 19, 24], [1, 19, 24], [1, 19, 24], [1, 19, 24], [1, 19, 24], [1, 19, 24, 29], [1, 19, 24, 29], [1, 19, 24, 29], [1, 19, 24, 29], [1, 19, 24, 29], [1, 19, 24, 29], [1, 19, 24, 29], [1, 19, 24, 29], [1, 19, 24, 29], [1, 19, 24, 29], [1, 19, 24, 29]]
set_option maxHeartbeats 32000000 in
theorem tF (PW : Bool → Bool → Bool → Bool → World → Prop) (gp r : Nat) (kd mc : ByteArray) (w : World)  (cl1 : ∀ (w : World), PW false false false false w → Calls Tryz.prog 48 #[] w fun e w1 => e = .returned (.agg #[.int .u64 17627433388654248598, .int .u64 8575836109218198432, .int .u64 17923454489921339634, .int .u64 7716867327612699207, .int .u64 14678990851816772085, .int .u64 3156516839386865358, .int .u64 10297457778147434006, .int .u64 5756518291402817435, .bool false]) ∧ PW true false false false  w1) (cl19 : ∀ (w : World), PW true false false false w → Calls Tryz.prog 26 #[.pointer (some ⟨r, 0, none⟩), .string kd, .string ⟨#[115]⟩, .string mc] w fun e w1 => e = .returned (.bool true) ∧ PW true true false false  w1) (cl24 : ∀ (w : World), PW true true false false w → Calls Tryz.prog 26 #[.pointer (some ⟨r, 0, none⟩), .string ⟨#[]⟩, .string ⟨#[115]⟩, .string mc] w fun e w1 => e = .returned (.bool false) ∧ PW true true true false  w1) (cl29 : ∀ (w : World), PW true true true false w → Calls Tryz.prog 16 #[.agg #[.int .u64 17627433388654248598, .int .u64 8575836109218198432, .int .u64 17923454489921339634, .int .u64 7716867327612699207, .int .u64 14678990851816772085, .int .u64 3156516839386865358, .int .u64 10297457778147434006, .int .u64 5756518291402817435, .bool false], .string ⟨#[]⟩, .string ⟨#[]⟩] w fun e w1 => e = .returned (.bool false) ∧ PW true true true true  w1) (lk : ∀ (b1 b19 b24 b29 : Bool) (w : World), PW b1 b19 b24 b29 w → w.cell? ⟨gp, 0, none⟩ = some (.int .u64 17627433388654248598) ∧ w.cell? ⟨gp, 1, none⟩ = some (.int .u64 8575836109218198432) ∧ w.cell? ⟨gp, 2, none⟩ = some (.int .u64 17923454489921339634) ∧ w.cell? ⟨gp, 3, none⟩ = some (.int .u64 7716867327612699207) ∧ w.cell? ⟨gp, 4, none⟩ = some (.int .u64 14678990851816772085) ∧ w.cell? ⟨gp, 5, none⟩ = some (.int .u64 3156516839386865358) ∧ w.cell? ⟨gp, 6, none⟩ = some (.int .u64 10297457778147434006) ∧ w.cell? ⟨gp, 7, none⟩ = some (.int .u64 5756518291402817435) ∧ w.cell? ⟨gp, 8, none⟩ = some (.bool false)) (hq : ∀ w, (Op.equalIn 10000 26 (.agg #[.int .u64 17627433388654248598, .int .u64 8575836109218198432, .int .u64 17923454489921339634, .int .u64 7716867327612699207, .int .u64 14678990851816772085, .int .u64 3156516839386865358, .int .u64 10297457778147434006, .int .u64 5756518291402817435, .bool false]) (.agg #[.int .u64 17627433388654248598, .int .u64 8575836109218198432, .int .u64 17923454489921339634, .int .u64 7716867327612699207, .int .u64 14678990851816772085, .int .u64 3156516839386865358, .int .u64 10297457778147434006, .int .u64 5756518291402817435, .bool false])).run Tryz.prog w = .ok true w) {t0 t3 t5 t10 t11 t12 t13 t14 t15 t16 t17 t18 t19 t20 t21 t22 t23 t24 t25 t26 t27 t28 t29 t30 t31 t32 t33 t34 t35 t36 t37 t38 t39 t40 t41 t42 t43 t44 t45 t46 t47 t48 t49 t50 t51 t52 t53 t54 t55 t56 t57 t58 t59 t60 t61 t62 t63 t64 t65 t66 t67 t68 t69 t70 t71 t72 t73 t74 t75 t76 t77 t78 t79 t80 t81 t82 t83 t84 t85 t86 t87 t88 : Value} (w0 : PW false false false false  w.drew) {ds : List Deferred} {Q : Exit → Act → World → Prop}
    (h : ∀ (w1 : World), PW true true true true  w1 → Q .normal { tmps := #[.bool true, .pointer (some ⟨gp, 0, none⟩), .int .i64 0, t3, .int .i64 80, t5, .int .i64 80, .pointer (some ⟨r, 0, none⟩), .string kd, .string mc, t10, t11, t12, t13, t14, t15, t16, t17, t18, t19, t20, t21, t22, t23, t24, t25, t26, t27, t28, t29, t30, t31, t32, t33, t34, t35, t36, t37, t38, t39, t40, t41, t42, t43, t44, t45, t46, t47, t48, .agg #[.int .u64 17627433388654248598, .int .u64 8575836109218198432, .int .u64 17923454489921339634, .int .u64 7716867327612699207, .int .u64 14678990851816772085, .int .u64 3156516839386865358, .int .u64 10297457778147434006, .int .u64 5756518291402817435, .bool false], .agg #[.int .u64 17627433388654248598, .int .u64 8575836109218198432, .int .u64 17923454489921339634, .int .u64 7716867327612699207, .int .u64 14678990851816772085, .int .u64 3156516839386865358, .int .u64 10297457778147434006, .int .u64 5756518291402817435, .bool false], .bool true, .bool true, .int .i64 0, .bool true, .bool true, .bool true, .int .i64 80, .bool true, .bool true, .bool true, .int .i64 80, .bool true, .bool true, .bool true, .pointer (some ⟨r, 0, none⟩), .string kd, .string mc, .bool true, .bool true, .bool true, .pointer (some ⟨r, 0, none⟩), .string mc, .bool false, .bool true, .bool true, .bool true, .agg #[.int .u64 17627433388654248598, .int .u64 8575836109218198432, .int .u64 17923454489921339634, .int .u64 7716867327612699207, .int .u64 14678990851816772085, .int .u64 3156516839386865358, .int .u64 10297457778147434006, .int .u64 5756518291402817435, .bool false], .bool false, .bool true, .bool true, .bool true, .bool true, .bool true, .bool true, .bool true, .bool true, .bool true, .bool true], defers := ds } w1) :
    (Code.region 8 tFO true).wp Tryz.prog Q { tmps := #[t0, .pointer (some ⟨gp, 0, none⟩), .int .i64 0, t3, .int .i64 80, t5, .int .i64 80, .pointer (some ⟨r, 0, none⟩), .string kd, .string mc, t10, t11, t12, t13, t14, t15, t16, t17, t18, t19, t20, t21, t22, t23, t24, t25, t26, t27, t28, t29, t30, t31, t32, t33, t34, t35, t36, t37, t38, t39, t40, t41, t42, t43, t44, t45, t46, t47, t48, t49, t50, t51, t52, t53, t54, t55, t56, t57, t58, t59, t60, t61, t62, t63, t64, t65, t66, t67, t68, t69, t70, t71, t72, t73, t74, t75, t76, t77, t78, t79, t80, t81, t82, t83, t84, t85, t86, t87, t88], defers := ds } w := by
  have hsz : tFO.size = 41 := by kernel_rfl
  generalize hT : List.toArray _ = T0
  have hs : T0.size = 89 := by subst hT; rfl
  have g1 : T0.getD 1 undef = .pointer (some ⟨gp, 0, none⟩) := by subst hT; rfl
  have g2 : T0.getD 2 undef = .int .i64 0 := by subst hT; rfl
  have g4 : T0.getD 4 undef = .int .i64 80 := by subst hT; rfl
  have g6 : T0.getD 6 undef = .int .i64 80 := by subst hT; rfl
  have g7 : T0.getD 7 undef = .pointer (some ⟨r, 0, none⟩) := by subst hT; rfl
  have g8 : T0.getD 8 undef = .string kd := by subst hT; rfl
  have g9 : T0.getD 9 undef = .string mc := by subst hT; rfl
  obtain ⟨W, hV⟩ : ∃ W : List ((Nat × (Value → Value)) ⊕ Value), W = [.inr (.agg #[.int .u64 17627433388654248598, .int .u64 8575836109218198432, .int .u64 17923454489921339634, .int .u64 7716867327612699207, .int .u64 14678990851816772085, .int .u64 3156516839386865358, .int .u64 10297457778147434006, .int .u64 5756518291402817435, .bool false]), .inr (.agg #[.int .u64 17627433388654248598, .int .u64 8575836109218198432, .int .u64 17923454489921339634, .int .u64 7716867327612699207, .int .u64 14678990851816772085, .int .u64 3156516839386865358, .int .u64 10297457778147434006, .int .u64 5756518291402817435, .bool false]), .inr (.bool true), .inr (.bool true), .inr (.int .i64 0), .inr (.bool true), .inr (.bool true), .inr (.bool true), .inr (.int .i64 80), .inr (.bool true), .inr (.bool true), .inr (.bool true), .inr (.int .i64 80), .inr (.bool true), .inr (.bool true), .inr (.bool true), .inr (.pointer (some ⟨r, 0, none⟩)), .inr (.string kd), .inr (.string mc), .inr (.bool true), .inr (.bool true), .inr (.bool true), .inr (.pointer (some ⟨r, 0, none⟩)), .inr (.string mc), .inr (.bool false), .inr (.bool true), .inr (.bool true), .inr (.bool true), .inr (.agg #[.int .u64 17627433388654248598, .int .u64 8575836109218198432, .int .u64 17923454489921339634, .int .u64 7716867327612699207, .int .u64 14678990851816772085, .int .u64 3156516839386865358, .int .u64 10297457778147434006, .int .u64 5756518291402817435, .bool false]), .inr (.bool false), .inr (.bool true), .inr (.bool true), .inr (.bool true), .inr (.bool true), .inr (.bool true), .inr (.bool true), .inr (.bool true), .inr (.bool true), .inr (.bool true), .inr (.bool true), .inr (.bool true)] := ⟨_, rfl⟩
  refine wp_plan (by kernel_rfl) T0 ds [1, 19, 24, 29] tF_m (mkV W) (fun dx yx wx => PW (dx 1) (dx 19) (dx 24) (dx 29)  wx) w (by rw [hs]; kernel_rfl) (by kernel_rfl) (by kernel_rfl) (by rw [hsz]; decide) (fun cx hc ix hne ha yx vx => mkV_fix (by rw [hV]; kernel_rfl) hne ha yx vx) (?key) (fun cx hc ox ho dx yx Tx wx hd hdb hda hK hW => ?_) ⟨fun k => undef, w0⟩ (fun dx yx wx hd hW => ?_)
  case key =>
    rw [hsz]
    refine all_step (all_step (all_step (all_step (all_step (all_step (all_step (all_step (all_step (all_step (all_step (all_step (all_step (all_step (all_step (all_step (all_step (all_step (all_step (all_step (all_step (all_step (all_step (all_step (all_step (all_step (all_step (all_step (all_step (all_step (all_step (all_step (all_step (all_step (all_step (all_step (all_step (all_step (all_step (all_step (all_step all_zero ?_) ?_) ?_) ?_) ?_) ?_) ?_) ?_) ?_) ?_) ?_) ?_) ?_) ?_) ?_) ?_) ?_) ?_) ?_) ?_) ?_) ?_) ?_) ?_) ?_) ?_) ?_) ?_) ?_) ?_) ?_) ?_) ?_) ?_) ?_) ?_) ?_) ?_) ?_) ?_) ?_
    all_goals
      intro ox ho hic dx yx Tx wx hdb hK hW
      replace hdb := Lib.hid hdb
    · obtain ⟨ps, af, rfl⟩ := core (some 49) (.load 26 (.tmp 1)) 26 none ho (by kernel_rfl)
      have e1 : Tx.getD 1 undef = .pointer (some ⟨gp, 0, none⟩) := hK.of (by kernel_rfl) g1
      obtain ⟨hl0, hl1, hl2, hl3, hl4, hl5, hl6, hl7, hl8⟩ := lk _ _ _ _ _ hW
      exact wpOp_plain ho rfl (by subst hV; go_simp; try rfl)
    · exact absurd (by decide) hic
    · obtain ⟨ps, af, rfl⟩ := core (some 51) (.binOp BinOp.eql 26 (.tmp 49) (.tmp 50) 26) 4 none ho (by kernel_rfl)
      have e49 : Tx.getD 49 undef = .agg #[.int .u64 17627433388654248598, .int .u64 8575836109218198432, .int .u64 17923454489921339634, .int .u64 7716867327612699207, .int .u64 14678990851816772085, .int .u64 3156516839386865358, .int .u64 10297457778147434006, .int .u64 5756518291402817435, .bool false] := hK.is 0 ho (by kernel_rfl) (by subst hV; rfl)
      have e50 : Tx.getD 50 undef = .agg #[.int .u64 17627433388654248598, .int .u64 8575836109218198432, .int .u64 17923454489921339634, .int .u64 7716867327612699207, .int .u64 14678990851816772085, .int .u64 3156516839386865358, .int .u64 10297457778147434006, .int .u64 5756518291402817435, .bool false] := hK.is 1 ho (by kernel_rfl) (by subst hV; rfl)
      have hq1 := hq
      exact wpOp_plain ho rfl (by subst hV; go_simp; try rfl)
    · exact pl1 52 51 2 4 ho hK (by kernel_rfl) (by kernel_rfl) (by subst hV; rfl) (by subst hV; rfl) fun ps af e => k_mv e
    · exact pg0 3 52 true 53 2 27 ho hK (by kernel_rfl) (by kernel_rfl) (by kernel_rfl) (by subst hV; rfl) (by kernel_rfl) g2 (by subst hV; rfl) fun ps af e => k_mv e
    · obtain ⟨ps, af, rfl⟩ := core (some 54) (.binOp BinOp.eql 27 (.tmp 53) (.const (Value.int IntKind.i64 0)) 27) 4 (some (3, true)) ho (by kernel_rfl)
      have e53 : Tx.getD 53 undef = .int .i64 0 := hK.is 4 ho (by kernel_rfl) (by subst hV; rfl)
      exact wpOp_want ho ((wanted_of (d := 52) (b := true) rfl (by kernel_rfl) (hK.is 3 ho (by kernel_rfl) (by subst hV; rfl))).trans rfl) (by subst hV; go_simp; try rfl)
    · obtain ⟨ps, af, rfl⟩ := core (some 55) (.pick (.tmp 52) (.tmp 54) (.const (Value.bool false))) 4 none ho (by kernel_rfl)
      have e52 : Tx.getD 52 undef = .bool true := hK.is 3 ho (by kernel_rfl) (by subst hV; rfl)
      have e54 : Tx.getD 54 undef = .bool true := hK.is 5 ho (by kernel_rfl) (by subst hV; rfl)
      exact wpOp_plain ho rfl (by subst hV; go_simp; try rfl)
    · exact pl1 56 55 6 4 ho hK (by kernel_rfl) (by kernel_rfl) (by subst hV; rfl) (by subst hV; rfl) fun ps af e => k_mv e
    · exact pg0 7 56 true 57 4 27 ho hK (by kernel_rfl) (by kernel_rfl) (by kernel_rfl) (by subst hV; rfl) (by kernel_rfl) g4 (by subst hV; rfl) fun ps af e => k_mv e
    · obtain ⟨ps, af, rfl⟩ := core (some 58) (.binOp BinOp.eql 27 (.tmp 57) (.const (Value.int IntKind.i64 80)) 27) 4 (some (7, true)) ho (by kernel_rfl)
      have e57 : Tx.getD 57 undef = .int .i64 80 := hK.is 8 ho (by kernel_rfl) (by subst hV; rfl)
      exact wpOp_want ho ((wanted_of (d := 56) (b := true) rfl (by kernel_rfl) (hK.is 7 ho (by kernel_rfl) (by subst hV; rfl))).trans rfl) (by subst hV; go_simp; try rfl)
    · obtain ⟨ps, af, rfl⟩ := core (some 59) (.pick (.tmp 56) (.tmp 58) (.const (Value.bool false))) 4 none ho (by kernel_rfl)
      have e56 : Tx.getD 56 undef = .bool true := hK.is 7 ho (by kernel_rfl) (by subst hV; rfl)
      have e58 : Tx.getD 58 undef = .bool true := hK.is 9 ho (by kernel_rfl) (by subst hV; rfl)
      exact wpOp_plain ho rfl (by subst hV; go_simp; try rfl)
    · exact pl1 60 59 10 4 ho hK (by kernel_rfl) (by kernel_rfl) (by subst hV; rfl) (by subst hV; rfl) fun ps af e => k_mv e
    · exact pg0 11 60 true 61 6 27 ho hK (by kernel_rfl) (by kernel_rfl) (by kernel_rfl) (by subst hV; rfl) (by kernel_rfl) g6 (by subst hV; rfl) fun ps af e => k_mv e
    · obtain ⟨ps, af, rfl⟩ := core (some 62) (.binOp BinOp.eql 27 (.tmp 61) (.const (Value.int IntKind.i64 80)) 27) 4 (some (11, true)) ho (by kernel_rfl)
      have e61 : Tx.getD 61 undef = .int .i64 80 := hK.is 12 ho (by kernel_rfl) (by subst hV; rfl)
      exact wpOp_want ho ((wanted_of (d := 60) (b := true) rfl (by kernel_rfl) (hK.is 11 ho (by kernel_rfl) (by subst hV; rfl))).trans rfl) (by subst hV; go_simp; try rfl)
    · obtain ⟨ps, af, rfl⟩ := core (some 63) (.pick (.tmp 60) (.tmp 62) (.const (Value.bool false))) 4 none ho (by kernel_rfl)
      have e60 : Tx.getD 60 undef = .bool true := hK.is 11 ho (by kernel_rfl) (by subst hV; rfl)
      have e62 : Tx.getD 62 undef = .bool true := hK.is 13 ho (by kernel_rfl) (by subst hV; rfl)
      exact wpOp_plain ho rfl (by subst hV; go_simp; try rfl)
    · exact pl1 64 63 14 4 ho hK (by kernel_rfl) (by kernel_rfl) (by subst hV; rfl) (by subst hV; rfl) fun ps af e => k_mv e
    · exact pg0 15 64 true 65 7 41 ho hK (by kernel_rfl) (by kernel_rfl) (by kernel_rfl) (by subst hV; rfl) (by kernel_rfl) g7 (by subst hV; rfl) fun ps af e => k_mv e
    · exact pg0 15 64 true 66 8 9 ho hK (by kernel_rfl) (by kernel_rfl) (by kernel_rfl) (by subst hV; rfl) (by kernel_rfl) g8 (by subst hV; rfl) fun ps af e => k_mv e
    · exact pg0 15 64 true 67 9 9 ho hK (by kernel_rfl) (by kernel_rfl) (by kernel_rfl) (by subst hV; rfl) (by kernel_rfl) g9 (by subst hV; rfl) fun ps af e => k_mv e
    · exact absurd (by decide) hic
    · obtain ⟨ps, af, rfl⟩ := core (some 69) (.pick (.tmp 64) (.tmp 68) (.const (Value.bool false))) 4 none ho (by kernel_rfl)
      have e64 : Tx.getD 64 undef = .bool true := hK.is 15 ho (by kernel_rfl) (by subst hV; rfl)
      have e68 : Tx.getD 68 undef = .bool true := hK.is 19 ho (by kernel_rfl) (by subst hV; rfl)
      exact wpOp_plain ho rfl (by subst hV; go_simp; try rfl)
    · exact pl1 70 69 20 4 ho hK (by kernel_rfl) (by kernel_rfl) (by subst hV; rfl) (by subst hV; rfl) fun ps af e => k_mv e
    · exact pg0 21 70 true 71 7 41 ho hK (by kernel_rfl) (by kernel_rfl) (by kernel_rfl) (by subst hV; rfl) (by kernel_rfl) g7 (by subst hV; rfl) fun ps af e => k_mv e
    · exact pg0 21 70 true 72 9 9 ho hK (by kernel_rfl) (by kernel_rfl) (by kernel_rfl) (by subst hV; rfl) (by kernel_rfl) g9 (by subst hV; rfl) fun ps af e => k_mv e
    · exact absurd (by decide) hic
    · obtain ⟨ps, af, rfl⟩ := core (some 74) (.unOp UnOp.not 4 (.tmp 73)) 4 (some (21, true)) ho (by kernel_rfl)
      have e73 : Tx.getD 73 undef = .bool false := hK.is 24 ho (by kernel_rfl) (by subst hV; rfl)
      exact wpOp_want ho ((wanted_of (d := 70) (b := true) rfl (by kernel_rfl) (hK.is 21 ho (by kernel_rfl) (by subst hV; rfl))).trans rfl) (by subst hV; go_simp; try rfl)
    · obtain ⟨ps, af, rfl⟩ := core (some 75) (.pick (.tmp 70) (.tmp 74) (.const (Value.bool false))) 4 none ho (by kernel_rfl)
      have e70 : Tx.getD 70 undef = .bool true := hK.is 21 ho (by kernel_rfl) (by subst hV; rfl)
      have e74 : Tx.getD 74 undef = .bool true := hK.is 25 ho (by kernel_rfl) (by subst hV; rfl)
      exact wpOp_plain ho rfl (by subst hV; go_simp; try rfl)
    · exact pl1 76 75 26 4 ho hK (by kernel_rfl) (by kernel_rfl) (by subst hV; rfl) (by subst hV; rfl) fun ps af e => k_mv e
    · obtain ⟨ps, af, rfl⟩ := core (some 77) (.load 26 (.tmp 1)) 26 (some (27, true)) ho (by kernel_rfl)
      have e1 : Tx.getD 1 undef = .pointer (some ⟨gp, 0, none⟩) := hK.of (by kernel_rfl) g1
      obtain ⟨hl0, hl1, hl2, hl3, hl4, hl5, hl6, hl7, hl8⟩ := lk _ _ _ _ _ hW
      exact wpOp_want ho ((wanted_of (d := 76) (b := true) rfl (by kernel_rfl) (hK.is 27 ho (by kernel_rfl) (by subst hV; rfl))).trans rfl) (by subst hV; go_simp; try rfl)
    · exact absurd (by decide) hic
    · obtain ⟨ps, af, rfl⟩ := core (some 79) (.unOp UnOp.not 4 (.tmp 78)) 4 (some (27, true)) ho (by kernel_rfl)
      have e78 : Tx.getD 78 undef = .bool false := hK.is 29 ho (by kernel_rfl) (by subst hV; rfl)
      exact wpOp_want ho ((wanted_of (d := 76) (b := true) rfl (by kernel_rfl) (hK.is 27 ho (by kernel_rfl) (by subst hV; rfl))).trans rfl) (by subst hV; go_simp; try rfl)
    · obtain ⟨ps, af, rfl⟩ := core (some 80) (.pick (.tmp 76) (.tmp 79) (.const (Value.bool false))) 4 none ho (by kernel_rfl)
      have e76 : Tx.getD 76 undef = .bool true := hK.is 27 ho (by kernel_rfl) (by subst hV; rfl)
      have e79 : Tx.getD 79 undef = .bool true := hK.is 30 ho (by kernel_rfl) (by subst hV; rfl)
      exact wpOp_plain ho rfl (by subst hV; go_simp; try rfl)
    · exact pl1 81 80 31 4 ho hK (by kernel_rfl) (by kernel_rfl) (by subst hV; rfl) (by subst hV; rfl) fun ps af e => k_mv e
    · obtain ⟨ps, af, rfl⟩ := core (some 82) (.pick (.tmp 81) (.const (Value.bool true)) (.const (Value.bool false))) 4 none ho (by kernel_rfl)
      have e81 : Tx.getD 81 undef = .bool true := hK.is 32 ho (by kernel_rfl) (by subst hV; rfl)
      exact wpOp_plain ho rfl (by subst hV; go_simp; try rfl)
    · exact pl1 83 82 33 4 ho hK (by kernel_rfl) (by kernel_rfl) (by subst hV; rfl) (by subst hV; rfl) fun ps af e => k_mv e
    · obtain ⟨ps, af, rfl⟩ := core (some 84) (.pick (.tmp 83) (.const (Value.bool true)) (.const (Value.bool false))) 4 none ho (by kernel_rfl)
      have e83 : Tx.getD 83 undef = .bool true := hK.is 34 ho (by kernel_rfl) (by subst hV; rfl)
      exact wpOp_plain ho rfl (by subst hV; go_simp; try rfl)
    · exact pl1 85 84 35 4 ho hK (by kernel_rfl) (by kernel_rfl) (by subst hV; rfl) (by subst hV; rfl) fun ps af e => k_mv e
    · obtain ⟨ps, af, rfl⟩ := core (some 86) (.pick (.tmp 85) (.const (Value.bool true)) (.const (Value.bool false))) 4 none ho (by kernel_rfl)
      have e85 : Tx.getD 85 undef = .bool true := hK.is 36 ho (by kernel_rfl) (by subst hV; rfl)
      exact wpOp_plain ho rfl (by subst hV; go_simp; try rfl)
    · exact pl1 87 86 37 4 ho hK (by kernel_rfl) (by kernel_rfl) (by subst hV; rfl) (by subst hV; rfl) fun ps af e => k_mv e
    · obtain ⟨ps, af, rfl⟩ := core (some 88) (.pick (.tmp 87) (.const (Value.bool true)) (.const (Value.bool false))) 4 none ho (by kernel_rfl)
      have e87 : Tx.getD 87 undef = .bool true := hK.is 38 ho (by kernel_rfl) (by subst hV; rfl)
      exact wpOp_plain ho rfl (by subst hV; go_simp; try rfl)
    · exact pl1 0 88 39 4 ho hK (by kernel_rfl) (by kernel_rfl) (by subst hV; rfl) (by subst hV; rfl) fun ps af e => k_as e
  · have hcase : cx = 1 ∨ cx = 19 ∨ cx = 24 ∨ cx = 29 := by simpa using hc
    rcases hcase with rfl | rfl | rfl | rfl
    · obtain ⟨ps, af, rfl⟩ := core (some 50) (.call { callee := .value (.func 48), args := #[], argTypes := #[] }) 26 none ho (by kernel_rfl)
      have hW1 : PW (dx 1) (dx 19) (dx 24) (dx 29)  wx := hW
      have f19 := hda 19 (by decide) (by kernel_rfl)
      have f24 := hda 24 (by decide) (by kernel_rfl)
      have f29 := hda 29 (by decide) (by kernel_rfl)
      clear hdb hda
      rw [hd, f19, f24, f29] at hW1
      replace f19 := Lib.hid f19
      replace f24 := Lib.hid f24
      replace f29 := Lib.hid f29
      clear hd hW hc
      refine wpOp_plain ho rfl ?_
      go_simp
      go_at_call 48
      refine (cl1 _ hW1).mono ?_
      rintro ex w2 ⟨rfl, hW2⟩
      subst hV
      first | refine ⟨undef, rfl, ?_⟩ | refine ⟨⟨undef, rfl⟩, ?_⟩
      simpa [updB, upd, f19.out, f24.out, f29.out] using hW2
    · obtain ⟨ps, af, rfl⟩ := core (some 68) (.call { callee := .value (.func 26), args := #[.tmp 65, .tmp 66, .const (Value.string { data := #[115] }), .tmp 67], argTypes := #[41, 9, 9, 9] }) 4 (some (15, true)) ho (by kernel_rfl)
      have e65 : Tx.getD 65 undef = .pointer (some ⟨r, 0, none⟩) := hK.is 16 ho (by kernel_rfl) (by subst hV; rfl)
      have e66 : Tx.getD 66 undef = .string kd := hK.is 17 ho (by kernel_rfl) (by subst hV; rfl)
      have e67 : Tx.getD 67 undef = .string mc := hK.is 18 ho (by kernel_rfl) (by subst hV; rfl)
      have hW1 : PW (dx 1) (dx 19) (dx 24) (dx 29)  wx := hW
      have f1 := hdb 1 (by decide) (by kernel_rfl)
      have f24 := hda 24 (by decide) (by kernel_rfl)
      have f29 := hda 29 (by decide) (by kernel_rfl)
      clear hdb hda
      rw [hd, f1, f24, f29] at hW1
      replace f1 := Lib.hid f1
      replace f24 := Lib.hid f24
      replace f29 := Lib.hid f29
      clear hd hW hc
      refine wpOp_want ho ((wanted_of (d := 64) (b := true) rfl (by kernel_rfl) (hK.is 15 ho (by kernel_rfl) (by subst hV; rfl))).trans rfl) ?_
      go_simp
      go_at_call 26
      refine (cl19 _ hW1).mono ?_
      rintro ex w2 ⟨rfl, hW2⟩
      subst hV
      first | refine ⟨undef, rfl, ?_⟩ | refine ⟨⟨undef, rfl⟩, ?_⟩
      simpa [updB, upd, f1.out, f24.out, f29.out] using hW2
    · obtain ⟨ps, af, rfl⟩ := core (some 73) (.call { callee := .value (.func 26), args := #[.tmp 71, .const (Value.string { data := #[] }), .const (Value.string { data := #[115] }), .tmp 72], argTypes := #[41, 9, 9, 9] }) 4 (some (21, true)) ho (by kernel_rfl)
      have e71 : Tx.getD 71 undef = .pointer (some ⟨r, 0, none⟩) := hK.is 22 ho (by kernel_rfl) (by subst hV; rfl)
      have e72 : Tx.getD 72 undef = .string mc := hK.is 23 ho (by kernel_rfl) (by subst hV; rfl)
      have hW1 : PW (dx 1) (dx 19) (dx 24) (dx 29)  wx := hW
      have f1 := hdb 1 (by decide) (by kernel_rfl)
      have f19 := hdb 19 (by decide) (by kernel_rfl)
      have f29 := hda 29 (by decide) (by kernel_rfl)
      clear hdb hda
      rw [hd, f1, f19, f29] at hW1
      replace f1 := Lib.hid f1
      replace f19 := Lib.hid f19
      replace f29 := Lib.hid f29
      clear hd hW hc
      refine wpOp_want ho ((wanted_of (d := 70) (b := true) rfl (by kernel_rfl) (hK.is 21 ho (by kernel_rfl) (by subst hV; rfl))).trans rfl) ?_
      go_simp
      go_at_call 26
      refine (cl24 _ hW1).mono ?_
      rintro ex w2 ⟨rfl, hW2⟩
      subst hV
      first | refine ⟨undef, rfl, ?_⟩ | refine ⟨⟨undef, rfl⟩, ?_⟩
      simpa [updB, upd, f1.out, f19.out, f29.out] using hW2
    · obtain ⟨ps, af, rfl⟩ := core (some 78) (.call { callee := .value (.func 16), args := #[.tmp 77, .const (Value.string { data := #[] }), .const (Value.string { data := #[] })], argTypes := #[26, 9, 9] }) 4 (some (27, true)) ho (by kernel_rfl)
      have e77 : Tx.getD 77 undef = .agg #[.int .u64 17627433388654248598, .int .u64 8575836109218198432, .int .u64 17923454489921339634, .int .u64 7716867327612699207, .int .u64 14678990851816772085, .int .u64 3156516839386865358, .int .u64 10297457778147434006, .int .u64 5756518291402817435, .bool false] := hK.is 28 ho (by kernel_rfl) (by subst hV; rfl)
      have hW1 : PW (dx 1) (dx 19) (dx 24) (dx 29)  wx := hW
      have f1 := hdb 1 (by decide) (by kernel_rfl)
      have f19 := hdb 19 (by decide) (by kernel_rfl)
      have f24 := hdb 24 (by decide) (by kernel_rfl)
      clear hdb hda
      rw [hd, f1, f19, f24] at hW1
      replace f1 := Lib.hid f1
      replace f19 := Lib.hid f19
      replace f24 := Lib.hid f24
      clear hd hW hc
      refine wpOp_want ho ((wanted_of (d := 76) (b := true) rfl (by kernel_rfl) (hK.is 27 ho (by kernel_rfl) (by subst hV; rfl))).trans rfl) ?_
      go_simp
      go_at_call 16
      refine (cl29 _ hW1).mono ?_
      rintro ex w2 ⟨rfl, hW2⟩
      subst hV
      first | refine ⟨undef, rfl, ?_⟩ | refine ⟨⟨undef, rfl⟩, ?_⟩
      simpa [updB, upd, f1.out, f19.out, f24.out] using hW2
  · have hW1 : PW (dx 1) (dx 19) (dx 24) (dx 29)  wx := hW
    rw [hd 1 (by decide), hd 19 (by decide), hd 24 (by decide), hd 29 (by decide)] at hW1
    have hQ := h _ hW1
    rw [hsz]
    subst hV hT
    refine cast (congrArg (fun Tx => Q .normal ⟨Tx, ds⟩ wx) ?_) hQ
    kernel_rfl
end Go.Proofs.YtpggkfdijmnmiaaGreat.Pl
namespace Go.Proofs.YtpggkfdijmnmiaaGreat
open Go.RowKit Limbs
theorem nv1 : nv 1 = .agg #[.int .u64 1, .int .u64 0, .int .u64 0, .int .u64 0] := rfl
theorem nv0 : nv 0 = .agg #[.int .u64 0, .int .u64 0, .int .u64 0, .int .u64 0] := rfl
theorem hp1 : ∀ w, Calls Tryz.prog 11 #[.agg #[.int .u64 1, .int .u64 0, .int .u64 0, .int .u64 0]] w fun e w' => e = .returned (.tuple #[G.v, .int .i64 0]) ∧ Below w.heap.size w w' := fun w => by
  have h := public_yes 1 (by decide) w
  rw [pub_one, nv1] at h
  exact h
theorem hp0 : ∀ w, Calls Tryz.prog 11 #[.agg #[.int .u64 0, .int .u64 0, .int .u64 0, .int .u64 0]] w fun e w' => e = .returned (.tuple #[.agg #[.int .u64 0, .int .u64 0, .int .u64 0, .int .u64 0, .int .u64 0, .int .u64 0, .int .u64 0, .int .u64 0, .bool false], .int .i64 80]) ∧ Below w.heap.size w w' := fun w => by
  have h := public_no 0 (by decide) (by decide) w
  rw [nv0] at h
  exact h
theorem hsn : ∀ w, Calls Tryz.prog 14 #[nv mN, .string ⟨#[]⟩] w fun e w' => e = .returned (.tuple #[.string ⟨#[]⟩, .int .i64 80]) ∧ Below w.heap.size w w' := fun w => sign_no mN (by decide) (fun h => Nat.lt_irrefl _ h.2) _ w
theorem hmd : ∀ w, Calls Tryz.prog 47 #[.int .i64 1] w fun e w' => e = .returned (nv mN) ∧ Below w.heap.size w w' := fun w => by
  have h := mod_any 1 w
  rw [show md 1 = mN by unfold md; rw [if_neg (by decide)]] at h
  exact h
theorem find_a (g : Nat) : findK [(g, [97])] (kidOf [97]) = some g := by rw [findK, if_pos rfl]
theorem find_ab (g : Nat) : findK [(g, [97])] (kidOf [98]) = none := by rw [findK, if_neg kid_ab]; rfl
theorem find_b (g q : Nat) : findK [(g, [97]), (q, [98])] (kidOf [98]) = some q := by rw [findK, if_neg kid_ab, findK, if_pos rfl]
theorem find_no (g q : Nat) : findK [(g, [97]), (q, [98])] [] = none := by rw [findK, if_neg kid_a, findK, if_neg kid_b]; rfl
def g9 : Array Value := #[.int .u64 17627433388654248598, .int .u64 8575836109218198432, .int .u64 17923454489921339634, .int .u64 7716867327612699207, .int .u64 14678990851816772085, .int .u64 3156516839386865358, .int .u64 10297457778147434006, .int .u64 5756518291402817435, .bool false]
set_option maxHeartbeats 16000000 in
theorem fixed_any (w : World) : Calls Tryz.prog 13 #[] w fun e w' => e = .returned (.bool true) ∧ Below w.heap.size w w' := by
  have H1 := Lib.hid hp1
  have H0 := Lib.hid hp0
  have HS := Lib.hid hsn
  have HM := Lib.hid hmd
  rw [vG] at H1
  simp only [nv, num] at HS HM
  go_enter Tryz.func13, Tryz.ntmps13
  go_wp2_with fail
  refine (H1.out _).mono ?_
  rintro e w1 ⟨rfl, hb1⟩
  go_wp2_with fail
  have KG : Bk 26 (w1.alloc (.cells g9 26)) w1.heap.size g9 := Bk.new rfl
  have hbA : Below w.heap.size w (w1.alloc (.cells g9 26)) := by
    have hs := hb1.size
    go_grown
  unfold g9 at KG hbA
  generalize w1.heap.size = gp at KG ⊢
  generalize (w1.alloc (.cells #[.int .u64 17627433388654248598, .int .u64 8575836109218198432, .int .u64 17923454489921339634, .int .u64 7716867327612699207, .int .u64 14678990851816772085, .int .u64 3156516839386865358, .int .u64 10297457778147434006, .int .u64 5756518291402817435, .bool false] 26)) = wA at KG hbA ⊢
  clear hb1
  refine (H0.out wA).mono ?_
  rintro e w2 ⟨rfl, hb2⟩
  have KG2 := Lib.hid (KG.below hb2)
  have HB2 := Lib.hid (bthen hbA hb2)
  clear KG hbA hb2
  go_wp2_with fail
  refine (HM.out _).mono ?_
  rintro e w3 ⟨rfl, hb3⟩
  go_wp2_with fail
  refine (HS.out _).mono ?_
  rintro e w4 ⟨rfl, hb4⟩
  have hbz : Below w2.heap.size w2 w3 := Below.trans (show Below w2.heap.size w2 (w2.alloc _) by go_grown) (hb3.mono (by simp))
  have KG4 := Lib.hid ((KG2.out.below hbz).below hb4)
  have HB4 := Lib.hid (bthen (bthen HB2.out hbz) hb4)
  clear KG2 HB2 hbz hb3 hb4 H1 H0 HS HM
  have hnr := newRing_any [97] (by decide) w4
  have HNR := Lib.hid hnr
  clear hnr
  go_wp2_with fail
  refine HNR.out.mono ?_
  rintro e w5 ⟨r, g, rfl, hrg, hb5, hr5⟩
  have HG5 := Lib.hid hrg
  have HB5 := Lib.hid hb5
  have HR5 := Lib.hid hr5
  have htt : Calls Tryz.prog 22 #[.pointer (some ⟨r, 0, none⟩), .string ⟨#[97]⟩] w5 fun e w' => e = .returned (.int .i64 80) ∧ Below w5.heap.size w5 w' := turn_there hrg (by simp) [97] (by decide) g (find_a g)
  have HTT := Lib.hid htt
  clear htt hrg hb5 hr5 HNR
  unfold kpt
  go_wp2_with fail
  refine HTT.out.mono ?_
  rintro e w6 ⟨rfl, hb6⟩
  have HG6 := Lib.hid (HG5.out.below hb6)
  have HB6 := Lib.hid (bthen HB5.out hb6)
  have htn : Calls Tryz.prog 22 #[.pointer (some ⟨r, 0, none⟩), .string ⟨#[98]⟩] w6 fun e w' => e = .returned (.int .i64 0) ∧ ∃ q, Rg w4.heap.size w' r ([(g, [97])] ++ [(q, [98])]) ∧ Below w4.heap.size w6 w' := turn_new HG6.out HB6.out.size HR5.out (by simp) [98] (by decide) (find_ab g)
  have HTN := Lib.hid htn
  clear htn hb6 HTT HG5 HB5
  go_wp2_with fail
  refine HTN.out.mono ?_
  rintro e w7 ⟨rfl, q, hrg, hb7⟩
  have HG7 := Lib.hid hrg
  have HB7 := Lib.hid (HB6.out.trans hb7)
  have hki : Calls Tryz.prog 31 #[.pointer (some ⟨r, 0, none⟩)] w7 fun e w' => ∃ v, e = .returned v ∧ w'.ownsRow w7.heap.size 9 1 v 2 [kidV (g, [97]), kidV (q, [98])] ∧ Below w7.heap.size w7 w' := kids_any hrg (by simp) (by simp)
  have HKI := Lib.hid hki
  clear hki hrg hb7 HTN HG6 HB6
  go_wp2_with fail
  refine HKI.out.mono ?_
  rintro e w8 ⟨v, rfl, ho, hb8⟩
  obtain ⟨a8, c8, rfl⟩ := own_slice (n := 1) ho
  have HG8 := Lib.hid (HG7.out.below hb8)
  have HB8 := Lib.hid (bthen HB7.out hb8)
  have hmc : Calls Tryz.prog 24 #[.pointer (some ⟨r, 0, none⟩), .string ⟨#[115]⟩] w8 fun e w' => e = .returned (.tuple #[.string ⟨(kidOf [98]).toArray⟩, .string ⟨(Hs.macL (macOf [98]) [115]).toArray⟩]) ∧ Below w8.heap.size w8 w' := rmac_any (ks := [(g, [97])]) (k := (q, [98])) HG8.out (by simp) (show ([98] : List UInt8).length ≤ 140737488351232 by decide) [115] (by decide)
  have HMC := Lib.hid hmc
  clear hmc ho hb8 HKI HG7 HB7
  go_wp2_with fail
  refine HMC.out.mono ?_
  rintro e w9 ⟨rfl, hb9⟩
  have HG9 := Lib.hid (HG8.out.below hb9)
  have HB9 := Lib.hid (bthen HB8.out hb9)
  obtain ⟨mc, hmc⟩ : ∃ m, m = Hs.macL (macOf [98]) [115] := ⟨_, rfl⟩
  have HMC2 := Lib.hid hmc
  rw [← hmc]
  clear hmc hb9 HMC HG8 HB8
  obtain ⟨kd, hkd⟩ : ∃ m, m = kidOf [98] := ⟨_, rfl⟩
  have HKD := Lib.hid hkd
  rw [← hkd]
  clear hkd
  go_wp2_with fail
  refine Pl.tF (fun _ _ _ _ w' => Below w9.heap.size w9 w') gp r ⟨kd.toArray⟩ ⟨mc.toArray⟩ w9 ?c1 ?c19 ?c24 ?c29 ?lk ?hq ?w0 ?h
  case c1 =>
    intro w1 h
    refine (kBase w1).mono ?_
    rintro e w2 ⟨rfl, hb⟩
    exact ⟨rfl, bthen h hb⟩
  case c19 =>
    intro w1 h
    have := vouch_some (HG9.out.below h) (by simp) kd [115] mc (by decide) (by rw [HMC2.out, macL_len]; decide) (q, [98]) (by simp) (by rw [HKD.out]; exact find_b g q)
    refine this.mono ?_
    rintro e w2 ⟨rfl, hb⟩
    exact ⟨by rw [HMC2.out]; simp, bthen h hb⟩
  case c24 =>
    intro w1 h
    refine (vouch_none (HG9.out.below h) (by simp) [] ⟨#[115]⟩ ⟨mc.toArray⟩ (find_no g q)).mono ?_
    rintro e w2 ⟨rfl, hb⟩
    exact ⟨rfl, bthen h hb⟩
  case c29 =>
    intro w1 h
    have := verify_empty G.x G.y G.i ⟨#[]⟩ w1
    rw [show pn G.x G.y G.i = G.v from rfl, vG] at this
    refine this.mono ?_
    rintro e w2 ⟨rfl, hb⟩
    exact ⟨rfl, bthen h hb⟩
  case lk =>
    intro b1 b19 b24 b29 w1 h
    obtain ⟨⟨d0, d1, d2, d3⟩, ⟨d4, d5, d6, d7⟩, d8⟩ := (KG4.out.below (bthen HB9.out h)).cells9
    exact ⟨d0, d1, d2, d3, d4, d5, d6, d7, d8⟩
  case hq =>
    intro w1
    have := eqP G.x G.y G.x G.y G.i G.i G_ok.1 G_ok.2 G_ok.1 G_ok.2 w1
    rw [show pn G.x G.y G.i = G.v from rfl, vG] at this
    rw [this]
    simp
  case w0 => exact ⟨rfl, rfl, rfl, Nat.le_refl _, fun _ _ => rfl⟩
  case h =>
  intro w1 h
  go_wp2_with fail
  go_returns
  exact ⟨rfl, bthen (bthen HB4.out HB9.out) h⟩
end Go.Proofs.YtpggkfdijmnmiaaGreat
namespace Go.Proofs.YtpggkfdijmnmiaaGreat
open Go.RowKit Go.Sort Limbs
theorem not_far_of {P : Curve.Pt (Fin Curve.PP)} (h : P ≠ .far) : (ofPt P).i = false := by
  cases P with
  | far => exact absurd rfl h
  | aff x y => rfl
set_option maxHeartbeats 16000000 in
theorem fits_no (d : Nat) (hdW : d < W256) (hd : ¬ (0 < d ∧ d < mN)) (s : List UInt8) (w : World) : Calls Tryz.prog 6 #[nv d, .string ⟨s.toArray⟩] w fun e w' => e = .returned (.bool true) ∧ Below w.heap.size w w' := by
  have HS := Lib.hid (fun w => sign_no d hdW hd ⟨s.toArray⟩ w)
  have hp : ∀ w, Calls Tryz.prog 11 #[nv d] w fun e w' => e = .returned (.tuple #[.agg #[.int .u64 0, .int .u64 0, .int .u64 0, .int .u64 0, .int .u64 0, .int .u64 0, .int .u64 0, .int .u64 0, .bool false], .int .i64 80]) ∧ Below w.heap.size w w' := public_no d hdW hd
  have HP := Lib.hid hp
  have HF := Lib.hid fixed_any
  have hz : ∀ w, (Op.equalIn 10000 26 (.agg #[.int .u64 0, .int .u64 0, .int .u64 0, .int .u64 0, .int .u64 0, .int .u64 0, .int .u64 0, .int .u64 0, .bool false]) (.agg #[.int .u64 0, .int .u64 0, .int .u64 0, .int .u64 0, .int .u64 0, .int .u64 0, .int .u64 0, .int .u64 0, .bool false])).run Tryz.prog w = .ok true w := qZ
  have HZ := Lib.hid hz
  clear hp hz hdW hd
  generalize (⟨s.toArray⟩ : ByteArray) = sb at *
  simp only [nv, num] at HS HP ⊢
  go_enter Tryz.func6, Tryz.ntmps6
  go_wp2_with fail
  refine (keep w.heap.size w (HS.out _) (by go_grown) (Nat.le_refl _)).mono ?_
  rintro x w1 ⟨rfl, hb1, hk1⟩
  have KD : Bk 24 w1 w.heap.size (cs4 d) := Bk.below (Bk.new rfl) hk1
  obtain ⟨a0, a1, a2, a3⟩ := KD.cells
  clear hk1
  go_wp2_with fail
  refine (keep w.heap.size w (HP.out _) hb1 (Nat.le_refl _)).mono ?_
  rintro x w2 ⟨rfl, hb2, hk2⟩
  clear hk2 KD hb1 a0 a1 a2 a3
  have HB2 := Lib.hid (And.intro (hb2.alloc hb2.size (.cells #[.int .u64 0, .int .u64 0, .int .u64 0, .int .u64 0, .int .u64 0, .int .u64 0, .int .u64 0, .int .u64 0, .bool false] 26)) hb2.size)
  clear hb2
  go_wp2_with fail
  have K7 : Hid (Bk 26 (w2.alloc (.cells #[.int .u64 0, .int .u64 0, .int .u64 0, .int .u64 0, .int .u64 0, .int .u64 0, .int .u64 0, .int .u64 0, .bool false] 26)) w2.heap.size (cs9 0 0 false)) := Lib.hid (Bk.new rfl)
  generalize w2.alloc (.cells #[.int .u64 0, .int .u64 0, .int .u64 0, .int .u64 0, .int .u64 0, .int .u64 0, .int .u64 0, .int .u64 0, .bool false] 26) = W at K7 HB2 ⊢
  generalize w2.heap.size = gq at K7 HB2 ⊢
  refine (HF.out _).mono ?_
  rintro x w3 ⟨rfl, hb3⟩
  have HB3 := Lib.hid (HB2.out.1.trans (hb3.mono HB2.out.1.size))
  have K73 : Hid (Bk 26 w3 gq #[.int .u64 0, .int .u64 0, .int .u64 0, .int .u64 0, .int .u64 0, .int .u64 0, .int .u64 0, .int .u64 0, .bool false]) := Lib.hid (K7.out.below hb3)
  clear hb3 HB2 K7
  obtain ⟨⟨c0, c1, c2, c3⟩, ⟨c4, c5, c6, c7⟩, c8⟩ := K73.out.cells9
  have hz := HZ.out
  go_wp2_with fail
  go_returns
  exact ⟨rfl, HB3.out⟩
set_option maxHeartbeats 16000000 in
theorem fits_none (d : Nat) (hd : 0 < d ∧ d < mN) (s : List UInt8) (hs : s.length ≤ 140737488351232) (hn : (nzs d (eOf s)).find? (good d (eOf s)) = none) (w : World) : Calls Tryz.prog 6 #[nv d, .string ⟨s.toArray⟩] w fun e w' => e = .returned (.bool true) ∧ Below w.heap.size w w' := by
  have h := sign_yes d hd s hs
  rw [sgV, sgL, hn, sgO] at h
  have HS := Lib.hid h
  have HP := Lib.hid (public_yes d hd)
  have HF := Lib.hid fixed_any
  have hpi : (pubOf d).i = false := by
    rw [pub_is d (Nat.lt_trans hd.2 mN_W)]
    exact not_far_of (GP_order hd.1 hd.2)
  clear h hd hs hn
  generalize pubOf d = q at *
  obtain ⟨x, y, i⟩ := q
  simp only [] at hpi
  subst hpi
  unfold Po.v pn at HP
  generalize (⟨s.toArray⟩ : ByteArray) = sb at *
  simp only [nv, num] at HS HP ⊢
  go_enter Tryz.func6, Tryz.ntmps6
  go_wp2_with fail
  refine (keep w.heap.size w (HS.out _) (by go_grown) (Nat.le_refl _)).mono ?_
  rintro z w1 ⟨rfl, hb1, hk1⟩
  have KD : Bk 24 w1 w.heap.size (cs4 d) := Bk.below (Bk.new rfl) hk1
  obtain ⟨a0, a1, a2, a3⟩ := KD.cells
  clear hk1
  go_wp2_with fail
  refine (keep w.heap.size w (HP.out _) hb1 (Nat.le_refl _)).mono ?_
  rintro z w2 ⟨rfl, hb2, hk2⟩
  have KD2 := Lib.hid (Bk.alloc (o := .cells #[.int .u64 (lb x 0 : Nat), .int .u64 (lb x 1 : Nat), .int .u64 (lb x 2 : Nat), .int .u64 (lb x 3 : Nat), .int .u64 (lb y 0 : Nat), .int .u64 (lb y 1 : Nat), .int .u64 (lb y 2 : Nat), .int .u64 (lb y 3 : Nat), .bool false] 26) (KD.below hk2))
  clear hk2 KD hb1 a0 a1 a2 a3
  have HB2 := Lib.hid (And.intro (hb2.alloc hb2.size (.cells #[.int .u64 (lb x 0 : Nat), .int .u64 (lb x 1 : Nat), .int .u64 (lb x 2 : Nat), .int .u64 (lb x 3 : Nat), .int .u64 (lb y 0 : Nat), .int .u64 (lb y 1 : Nat), .int .u64 (lb y 2 : Nat), .int .u64 (lb y 3 : Nat), .bool false] 26)) hb2.size)
  clear hb2
  go_wp2_with fail
  have K7 : Hid (Bk 26 (w2.alloc (.cells #[.int .u64 (lb x 0 : Nat), .int .u64 (lb x 1 : Nat), .int .u64 (lb x 2 : Nat), .int .u64 (lb x 3 : Nat), .int .u64 (lb y 0 : Nat), .int .u64 (lb y 1 : Nat), .int .u64 (lb y 2 : Nat), .int .u64 (lb y 3 : Nat), .bool false] 26)) w2.heap.size (cs9 x y false)) := Lib.hid (Bk.new rfl)
  generalize w2.alloc (.cells #[.int .u64 (lb x 0 : Nat), .int .u64 (lb x 1 : Nat), .int .u64 (lb x 2 : Nat), .int .u64 (lb x 3 : Nat), .int .u64 (lb y 0 : Nat), .int .u64 (lb y 1 : Nat), .int .u64 (lb y 2 : Nat), .int .u64 (lb y 3 : Nat), .bool false] 26) = W at K7 HB2 KD2 ⊢
  generalize w2.heap.size = gq at K7 HB2 ⊢
  refine (HF.out _).mono ?_
  rintro z w3 ⟨rfl, hb3⟩
  have HB3 := Lib.hid (HB2.out.1.trans (hb3.mono HB2.out.1.size))
  have K73 := Lib.hid (K7.out.below hb3)
  have KD3 := Lib.hid (KD2.out.below hb3)
  clear hb3 HB2 K7 KD2 HF HP
  go_wp2_with fail
  go_returns
  exact ⟨rfl, HB3.out⟩
set_option maxHeartbeats 16000000 in
theorem fits_some (d : Nat) (hd : 0 < d ∧ d < mN) (s : List UInt8) (hs : s.length ≤ 140737488351232) (k : Nz) (hn : (nzs d (eOf s)).find? (good d (eOf s)) = some k) (w : World) : Calls Tryz.prog 6 #[nv d, .string ⟨s.toArray⟩] w fun e w' => e = .returned (.bool true) ∧ Below w.heap.size w w' := by
  have hW := mN_W
  have h := sign_yes d hd s hs
  rw [sgV, sgL, hn, sgO] at h
  have hg := List.find?_some hn
  have hgd : rOf k.1 ≠ 0 ∧ tOf d (eOf s) k.1 ≠ 0 := of_decide_eq_true hg
  obtain ⟨k, hk0, hk1⟩ := k
  simp only [] at h hgd
  have ht := tOf_lt d (eOf s) k
  have hr := rOf_lt k
  have hon := pub_on d (Nat.lt_trans hd.2 hW)
  have hpi : (pubOf d).i = false := by
    rw [pub_is d (Nat.lt_trans hd.2 hW)]
    exact not_far_of (GP_order hd.1 hd.2)
  have hv1 := verify_sig (pubOf d) hon.1 hon.2.2 hpi s hs (rOf k) (tOf d (eOf s) k) (by omega) hr (by omega) ht
  have hv2 := verify_sig (pubOf d) hon.1 hon.2.2 hpi s hs (rOf k) (mN - tOf d (eOf s) k) (by omega) hr (by omega) (by omega)
  rw [show bv (Hs.sumL s) % mN = eOf s from rfl, fits_sign hd ⟨hk0, hk1⟩ hgd.1 hgd.2] at hv1
  rw [show bv (Hs.sumL s) % mN = eOf s from rfl, fits_twin hd ⟨hk0, hk1⟩ hgd.1 hgd.2] at hv2
  have hof := of_any 1 (nb (tOf d (eOf s) k)) (by rw [nb_length]; decide)
  rw [md1', nb_val (by omega), nb_length, if_pos ⟨rfl, ht⟩] at hof
  have hng := neg_any 1 (tOf d (eOf s) k) (by omega)
  rw [md1', Nat.mod_eq_of_lt ht, Nat.mod_eq_of_lt (show mN - tOf d (eOf s) k < mN by omega)] at hng
  have HS := Lib.hid h
  have HP := Lib.hid (public_yes d hd)
  have HF := Lib.hid fixed_any
  have HV1 := Lib.hid hv1
  have HV2 := Lib.hid hv2
  have HO := Lib.hid hof
  have HNG := Lib.hid hng
  have HBY := Lib.hid (fun w => bytes_any (mN - tOf d (eOf s) k) w)
  have HE1 := Lib.hid (sgB_1 (rOf k) (tOf d (eOf s) k))
  have HE2 := Lib.hid (sgB_2 (rOf k) (tOf d (eOf s) k))
  have HCC : Hid ((⟨(nb (rOf k)).toArray⟩ : ByteArray) ++ ⟨(nb (mN - tOf d (eOf s) k)).toArray⟩ = ⟨(sgB (rOf k) (mN - tOf d (eOf s) k)).toArray⟩) := Lib.hid (ByteArray.mk_append_mk _ _)
  have hz1 : (⟨(nb (rOf k)).toArray⟩ : ByteArray).size ≤ 32 := by rw [app_size _ [], nb_length]; exact Nat.le_refl _
  have hz2 : (⟨(nb (mN - tOf d (eOf s) k)).toArray⟩ : ByteArray).size ≤ 32 := by rw [app_size _ [], nb_length]; exact Nat.le_refl _
  have hz64 : (⟨(sgB (rOf k) (tOf d (eOf s) k)).toArray⟩ : ByteArray).size = 64 := by rw [app_size _ [], sgB_len]
  clear h hg hgd hd hs hn ht hr hon hv1 hv2 hof hng hk0 hk1 hW
  generalize (⟨(sgB (rOf k) (mN - tOf d (eOf s) k)).toArray⟩ : ByteArray) = SB2 at *
  generalize (⟨(sgB (rOf k) (tOf d (eOf s) k)).toArray⟩ : ByteArray) = SB at *
  generalize (⟨(nb (mN - tOf d (eOf s) k)).toArray⟩ : ByteArray) = TB2 at *
  generalize (⟨(nb (tOf d (eOf s) k)).toArray⟩ : ByteArray) = TB at *
  generalize (⟨(nb (rOf k)).toArray⟩ : ByteArray) = RB at *
  generalize mN - tOf d (eOf s) k = t2 at *
  generalize tOf d (eOf s) k = t at *
  generalize pubOf d = q at *
  obtain ⟨x, y, i⟩ := q
  simp only [] at hpi
  subst hpi
  unfold Po.v pn at HP HV1 HV2
  generalize (⟨s.toArray⟩ : ByteArray) = sb at *
  simp only [nv, num] at HS HP HO HNG HBY ⊢
  go_enter Tryz.func6, Tryz.ntmps6
  go_wp2_with fail
  refine (keep w.heap.size w (HS.out _) (by go_grown) (Nat.le_refl _)).mono ?_
  rintro z w1 ⟨rfl, hb1, hk1⟩
  have KD : Bk 24 w1 w.heap.size (cs4 d) := Bk.below (Bk.new rfl) hk1
  obtain ⟨a0, a1, a2, a3⟩ := KD.cells
  clear hk1
  go_wp2_with fail
  refine (keep w.heap.size w (HP.out _) hb1 (Nat.le_refl _)).mono ?_
  rintro z w2 ⟨rfl, hb2, hk2⟩
  have KD2 := Lib.hid (Bk.alloc (o := .cells #[.int .u64 (lb x 0 : Nat), .int .u64 (lb x 1 : Nat), .int .u64 (lb x 2 : Nat), .int .u64 (lb x 3 : Nat), .int .u64 (lb y 0 : Nat), .int .u64 (lb y 1 : Nat), .int .u64 (lb y 2 : Nat), .int .u64 (lb y 3 : Nat), .bool false] 26) (KD.below hk2))
  clear hk2 KD hb1 a0 a1 a2 a3
  have HB2 := Lib.hid (And.intro (hb2.alloc hb2.size (.cells #[.int .u64 (lb x 0 : Nat), .int .u64 (lb x 1 : Nat), .int .u64 (lb x 2 : Nat), .int .u64 (lb x 3 : Nat), .int .u64 (lb y 0 : Nat), .int .u64 (lb y 1 : Nat), .int .u64 (lb y 2 : Nat), .int .u64 (lb y 3 : Nat), .bool false] 26)) hb2.size)
  clear hb2
  go_wp2_with fail
  have K7 : Hid (Bk 26 (w2.alloc (.cells #[.int .u64 (lb x 0 : Nat), .int .u64 (lb x 1 : Nat), .int .u64 (lb x 2 : Nat), .int .u64 (lb x 3 : Nat), .int .u64 (lb y 0 : Nat), .int .u64 (lb y 1 : Nat), .int .u64 (lb y 2 : Nat), .int .u64 (lb y 3 : Nat), .bool false] 26)) w2.heap.size (cs9 x y false)) := Lib.hid (Bk.new rfl)
  generalize w2.alloc (.cells #[.int .u64 (lb x 0 : Nat), .int .u64 (lb x 1 : Nat), .int .u64 (lb x 2 : Nat), .int .u64 (lb x 3 : Nat), .int .u64 (lb y 0 : Nat), .int .u64 (lb y 1 : Nat), .int .u64 (lb y 2 : Nat), .int .u64 (lb y 3 : Nat), .bool false] 26) = W at K7 HB2 KD2 ⊢
  generalize w2.heap.size = gq at K7 HB2 ⊢
  refine (HF.out _).mono ?_
  rintro z w3 ⟨rfl, hb3⟩
  have HB3 := Lib.hid (HB2.out.1.trans (hb3.mono HB2.out.1.size))
  have K73 := Lib.hid (K7.out.below hb3)
  have KD3 := Lib.hid (KD2.out.below hb3)
  clear hb3 HB2 K7 KD2 HF HP
  obtain ⟨⟨c0, c1, c2, c3⟩, ⟨c4, c5, c6, c7⟩, c8⟩ := K73.out.cells9
  go_wp2_with fail
  refine (HV1.out _).mono ?_
  rintro z w4 ⟨rfl, hb4⟩
  have HB4 := Lib.hid (HB3.out.trans (hb4.mono HB3.out.size))
  have K74 := Lib.hid (K73.out.below hb4)
  have KD4 := Lib.hid (KD3.out.below hb4)
  clear hb4 HB3 K73 KD3 HV1 c0 c1 c2 c3 c4 c5 c6 c7 c8
  go_wp2_with fail
  rw [HE2.out]
  refine (HO.out _).mono ?_
  rintro z w5 ⟨rfl, hb5⟩
  have HB5 := Lib.hid (And.intro ((HB4.out.trans (hb5.mono HB4.out.size)).alloc (Nat.le_trans HB4.out.size hb5.size) (.cells #[.int .u64 (lb t 0 : Nat), .int .u64 (lb t 1 : Nat), .int .u64 (lb t 2 : Nat), .int .u64 (lb t 3 : Nat)] 24)) (Nat.le_trans HB4.out.size hb5.size))
  have K75 := Lib.hid (Bk.alloc (o := .cells #[.int .u64 (lb t 0 : Nat), .int .u64 (lb t 1 : Nat), .int .u64 (lb t 2 : Nat), .int .u64 (lb t 3 : Nat)] 24) (K74.out.below hb5))
  have KD5 := Lib.hid (Bk.alloc (o := .cells #[.int .u64 (lb t 0 : Nat), .int .u64 (lb t 1 : Nat), .int .u64 (lb t 2 : Nat), .int .u64 (lb t 3 : Nat)] 24) (KD4.out.below hb5))
  have KT5 : Hid (Bk 24 (w5.alloc (.cells #[.int .u64 (lb t 0 : Nat), .int .u64 (lb t 1 : Nat), .int .u64 (lb t 2 : Nat), .int .u64 (lb t 3 : Nat)] 24)) w5.heap.size (cs4 t)) := Lib.hid (Bk.new rfl)
  clear hb5 HB4 K74 KD4 HO HE2
  go_upto_region 12 with fail
  generalize w5.alloc (.cells #[.int .u64 (lb t 0 : Nat), .int .u64 (lb t 1 : Nat), .int .u64 (lb t 2 : Nat), .int .u64 (lb t 3 : Nat)] 24) = V at HB5 K75 KD5 KT5 ⊢
  generalize w5.heap.size = gt at HB5 KT5 ⊢
  obtain ⟨a0, a1, a2, a3⟩ := KD5.out.cells
  go_wp2_with fail
  refine (HS.out _).mono ?_
  rintro z w6 ⟨rfl, hb6⟩
  have HB6 := Lib.hid (HB5.out.1.trans (hb6.mono HB5.out.1.size))
  have K76 := Lib.hid (K75.out.below hb6)
  have KT6 := Lib.hid (KT5.out.below hb6)
  clear hb6 HB5 K75 KD5 KT5 HS a0 a1 a2 a3
  go_upto_region 13 with fail
  obtain ⟨⟨c0, c1, c2, c3⟩, ⟨c4, c5, c6, c7⟩, c8⟩ := K76.out.reg9
  obtain ⟨e0, e1, e2, e3⟩ := KT6.out.reg
  have he1 := HE1.out
  have hcc := HCC.out
  refine wp_region_quiet_below mixed (by kernel_rfl) ?_
  iterate 8 go_big_quiet_step (fail)
  go_big_quiet_step (exact qg HNG.out)
  go_big_quiet_step (exact qg HBY.out)
  go_big_quiet_step (fail)
  go_big_quiet_step (exact qg HV2.out)
  iterate 11 go_big_quiet_step (fail)
  refine wpQuiet_nil ?_
  intro _ hw'
  obtain ⟨⟨dq, osq⟩, hw''⟩ := hw'
  subst hw''
  go_wp2_with fail
  go_returns
  exact ⟨rfl, HB6.out.trans ((below_regrown w6 dq osq).mono HB6.out.size)⟩
theorem fits_walk (d : Nat) (hdW : d < W256) (s : List UInt8) (hs : s.length ≤ 140737488351232) (w : World) : Calls Tryz.prog 6 #[nv d, .string ⟨s.toArray⟩] w fun e w' => e = .returned (.bool true) ∧ Below w.heap.size w w' := by
  by_cases hd : 0 < d ∧ d < mN
  · cases hn : (nzs d (eOf s)).find? (good d (eOf s)) with
    | none => exact fits_none d hd s hs hn w
    | some k => exact fits_some d hd s hs k hn w
  · exact fits_no d hdW hd s w
end Go.Proofs.YtpggkfdijmnmiaaGreat
