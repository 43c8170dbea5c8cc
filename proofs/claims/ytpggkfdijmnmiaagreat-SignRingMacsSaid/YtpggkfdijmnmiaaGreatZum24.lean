/- The drawn region of sign's fixed answers. No condition. What sign's fixed answers: true. No condition. SignRingMacs' walk: every call on a ring answers what the document's ring answers. Condition: the texts' lengths. -/
import Derived.Test.YtpggkfdijmnmiaaGreatZum21
import Derived.Test.YtpggkfdijmnmiaaGreatZum14
import Derived.Test.YtpggkfdijmnmiaaGreatZum23
import Derived.Deep.CutBlock
import Derived.Deep.DeepCutAuto
import Derived.Test.YtpggkfdijmnmiaaGreatZum22
set_option linter.unusedVariables false
set_option linter.unusedSimpArgs false
set_option maxRecDepth 100000
namespace Go.Proofs.YtpggkfdijmnmiaaGreat.Pl
open Go.RowKit Go.Sort Limbs
noncomputable def tFO : Array Oper := (Tryz.f13.body.bind fun c => findR c 8).getD #[]
def tF_m : List (List Nat) := [[], [], [1], [1], [1], [1], [1], [1], [1], [1], [1], [1], [1], [1], [1], [1], [1], [1], [1], [1], [1, 19], [1, 19], [1, 19], [1, 19], [1, 19], [1, 19, 24], [1, 19, 24], [1, 19, 24], [1, 19, 24], [1, 19, 24], [1, 19, 24, 29], [1, 19, 24, 29], [1, 19, 24, 29], [1, 19, 24, 29], [1, 19, 24, 29], [1, 19, 24, 29], [1, 19, 24, 29], [1, 19, 24, 29], [1, 19, 24, 29], [1, 19, 24, 29], [1, 19, 24, 29]]
set_option maxHeartbeats 32000000 in
theorem tF (PW : Bool → Bool → Bool → Bool → World → Prop) (gp r : Nat) (kd mc : ByteArray) (w : World)  (cl1 : ∀ (w : World), PW false false false false w → Calls Tryz.prog 48 #[] w fun e w1 => e = .returned (.agg #[.int .u64 17627433388654248598, .int .u64 8575836109218198432, .int .u64 17923454489921339634, .int .u64 7716867327612699207, .int .u64 14678990851816772085, .int .u64 3156516839386865358, .int .u64 10297457778147434006, .int .u64 5756518291402817435, .bool false]) ∧ PW true false false false  w1) (cl19 : ∀ (w : World), PW true false false false w → Calls Tryz.prog 26 #[.pointer (some ⟨r, 0, none⟩), .string kd, .string ⟨#[115]⟩, .string mc] w fun e w1 => e = .returned (.bool true) ∧ PW true true false false  w1) (cl24 : ∀ (w : World), PW true true false false w → Calls Tryz.prog 26 #[.pointer (some ⟨r, 0, none⟩), .string ⟨#[]⟩, .string ⟨#[115]⟩, .string mc] w fun e w1 => e = .returned (.bool false) ∧ PW true true true false  w1) (cl29 : ∀ (w : World), PW true true true false w → Calls Tryz.prog 16 #[.agg #[.int .u64 17627433388654248598, .int .u64 8575836109218198432, .int .u64 17923454489921339634, .int .u64 7716867327612699207, .int .u64 14678990851816772085, .int .u64 3156516839386865358, .int .u64 10297457778147434006, .int .u64 5756518291402817435, .bool false], .string ⟨#[]⟩, .string ⟨#[]⟩] w fun e w1 => e = .returned (.bool false) ∧ PW true true true true  w1) (lk : ∀ (b1 b19 b24 b29 : Bool) (w : World), PW b1 b19 b24 b29 w → w.cell? ⟨gp, 0, none⟩ = some (.int .u64 17627433388654248598) ∧ w.cell? ⟨gp, 1, none⟩ = some (.int .u64 8575836109218198432) ∧ w.cell? ⟨gp, 2, none⟩ = some (.int .u64 17923454489921339634) ∧ w.cell? ⟨gp, 3, none⟩ = some (.int .u64 7716867327612699207) ∧ w.cell? ⟨gp, 4, none⟩ = some (.int .u64 14678990851816772085) ∧ w.cell? ⟨gp, 5, none⟩ = some (.int .u64 3156516839386865358) ∧ w.cell? ⟨gp, 6, none⟩ = some (.int .u64 10297457778147434006) ∧ w.cell? ⟨gp, 7, none⟩ = some (.int .u64 5756518291402817435) ∧ w.cell? ⟨gp, 8, none⟩ = some (.bool false)) (hq : ∀ w, (Op.equalIn 10000 26 (.agg #[.int .u64 17627433388654248598, .int .u64 8575836109218198432, .int .u64 17923454489921339634, .int .u64 7716867327612699207, .int .u64 14678990851816772085, .int .u64 3156516839386865358, .int .u64 10297457778147434006, .int .u64 5756518291402817435, .bool false]) (.agg #[.int .u64 17627433388654248598, .int .u64 8575836109218198432, .int .u64 17923454489921339634, .int .u64 7716867327612699207, .int .u64 14678990851816772085, .int .u64 3156516839386865358, .int .u64 10297457778147434006, .int .u64 5756518291402817435, .bool false])).run Tryz.prog w = .ok true w) {t0 t3 t5 t10 t11 t12 t13 t14 t15 t16 t17 t18 t19 t20 t21 t22 t23 t24 t25 t26 t27 t28 t29 t30 t31 t32 t33 t34 t35 t36 t37 t38 t39 t40 t41 t42 t43 t44 t45 t46 t47 t48 t49 t50 t51 t52 t53 t54 t55 t56 t57 t58 t59 t60 t61 t62 t63 t64 t65 t66 t67 t68 t69 t70 t71 t72 t73 t74 t75 t76 t77 t78 t79 t80 t81 t82 t83 t84 t85 t86 t87 t88 : Value} (w0 : PW false false false false  w.drew) {ds : List Deferred} {Q : Exit → Act → World → Prop}
    (h : ∀ (w1 : World), PW true true true true  w1 → Q .normal { tmps := #[.bool true, .pointer (some ⟨gp, 0, none⟩), .int .i64 0, t3, .int .i64 80, t5, .int .i64 80, .pointer (some ⟨r, 0, none⟩), .string kd, .string mc, t10, t11, t12, t13, t14, t15, t16, t17, t18, t19, t20, t21, t22, t23, t24, t25, t26, t27, t28, t29, t30, t31, t32, t33, t34, t35, t36, t37, t38, t39, t40, t41, t42, t43, t44, t45, t46, t47, t48, .agg #[.int .u64 17627433388654248598, .int .u64 8575836109218198432, .int .u64 17923454489921339634, .int .u64 7716867327612699207, .int .u64 14678990851816772085, .int .u64 3156516839386865358, .int .u64 10297457778147434006, .int .u64 5756518291402817435, .bool false], .agg #[.int .u64 17627433388654248598, .int .u64 8575836109218198432, .int .u64 17923454489921339634, .int .u64 7716867327612699207, .int .u64 14678990851816772085, .int .u64 3156516839386865358, .int .u64 10297457778147434006, .int .u64 5756518291402817435, .bool false], .bool true, .bool true, .int .i64 0, .bool true, .bool true, .bool true, .int .i64 80, .bool true, .bool true, .bool true, .int .i64 80, .bool true, .bool true, .bool true, .pointer (some ⟨r, 0, none⟩), .string kd, .string mc, .bool true, .bool true, .bool true, .pointer (some ⟨r, 0, none⟩), .string mc, .bool false, .bool true, .bool true, .bool true, .agg #[.int .u64 17627433388654248598, .int .u64 8575836109218198432, .int .u64 17923454489921339634, .int .u64 7716867327612699207, .int .u64 14678990851816772085, .int .u64 3156516839386865358, .int .u64 10297457778147434006, .int .u64 5756518291402817435, .bool false], .bool false, .bool true, .bool true, .bool true, .bool true, .bool true, .bool true, .bool true, .bool true, .bool true, .bool true], defers := ds } w1) :
    (Code.region 8 tFO true).wp Tryz.prog Q { tmps := #[t0, .pointer (some ⟨gp, 0, none⟩), .int .i64 0, t3, .int .i64 80, t5, .int .i64 80, .pointer (some ⟨r, 0, none⟩), .string kd, .string mc, t10, t11, t12, t13, t14, t15, t16, t17, t18, t19, t20, t21, t22, t23, t24, t25, t26, t27, t28, t29, t30, t31, t32, t33, t34, t35, t36, t37, t38, t39, t40, t41, t42, t43, t44, t45, t46, t47, t48, t49, t50, t51, t52, t53, t54, t55, t56, t57, t58, t59, t60, t61, t62, t63, t64, t65, t66, t67, t68, t69, t70, t71, t72, t73, t74, t75, t76, t77, t78, t79, t80, t81, t82, t83, t84, t85, t86, t87, t88], defers := ds } w := by
  have hsz : tFO.size = 41 := by kernel_rfl
  generalize hT : List.toArray _ = T0
  have hs : T0.size = 89 := by subst hT; rfl
  have g1 : T0.getD 1 undef = .pointer (some ⟨gp, 0, none⟩) := by subst hT; rfl
  have g2 : T0.getD 2 undef = .int .i64 0 := by subst hT; rfl
  have g4 : T0.getD 4 undef = .int .i64 80 := by subst hT; rfl
  have g6 : T0.getD 6 undef = .int .i64 80 := by subst hT; rfl
  have g7 : T0.getD 7 undef = .pointer (some ⟨r, 0, none⟩) := by subst hT; rfl
  have g8 : T0.getD 8 undef = .string kd := by subst hT; rfl
  have g9 : T0.getD 9 undef = .string mc := by subst hT; rfl
  obtain ⟨W, hV⟩ : ∃ W : List ((Nat × (Value → Value)) ⊕ Value), W = [.inr (.agg #[.int .u64 17627433388654248598, .int .u64 8575836109218198432, .int .u64 17923454489921339634, .int .u64 7716867327612699207, .int .u64 14678990851816772085, .int .u64 3156516839386865358, .int .u64 10297457778147434006, .int .u64 5756518291402817435, .bool false]), .inr (.agg #[.int .u64 17627433388654248598, .int .u64 8575836109218198432, .int .u64 17923454489921339634, .int .u64 7716867327612699207, .int .u64 14678990851816772085, .int .u64 3156516839386865358, .int .u64 10297457778147434006, .int .u64 5756518291402817435, .bool false]), .inr (.bool true), .inr (.bool true), .inr (.int .i64 0), .inr (.bool true), .inr (.bool true), .inr (.bool true), .inr (.int .i64 80), .inr (.bool true), .inr (.bool true), .inr (.bool true), .inr (.int .i64 80), .inr (.bool true), .inr (.bool true), .inr (.bool true), .inr (.pointer (some ⟨r, 0, none⟩)), .inr (.string kd), .inr (.string mc), .inr (.bool true), .inr (.bool true), .inr (.bool true), .inr (.pointer (some ⟨r, 0, none⟩)), .inr (.string mc), .inr (.bool false), .inr (.bool true), .inr (.bool true), .inr (.bool true), .inr (.agg #[.int .u64 17627433388654248598, .int .u64 8575836109218198432, .int .u64 17923454489921339634, .int .u64 7716867327612699207, .int .u64 14678990851816772085, .int .u64 3156516839386865358, .int .u64 10297457778147434006, .int .u64 5756518291402817435, .bool false]), .inr (.bool false), .inr (.bool true), .inr (.bool true), .inr (.bool true), .inr (.bool true), .inr (.bool true), .inr (.bool true), .inr (.bool true), .inr (.bool true), .inr (.bool true), .inr (.bool true), .inr (.bool true)] := ⟨_, rfl⟩
  refine wp_plan (by kernel_rfl) T0 ds [1, 19, 24, 29] tF_m (mkV W) (fun dx yx wx => PW (dx 1) (dx 19) (dx 24) (dx 29)  wx) w (by rw [hs]; kernel_rfl) (by kernel_rfl) (by kernel_rfl) (by rw [hsz]; decide) (fun cx hc ix hne ha yx vx => mkV_fix (by rw [hV]; kernel_rfl) hne ha yx vx) (?key) (fun cx hc ox ho dx yx Tx wx hd hdb hda hK hW => ?_) ⟨fun k => undef, w0⟩ (fun dx yx wx hd hW => ?_)
  case key =>
    rw [hsz]
    refine all_step (all_step (all_step (all_step (all_step (all_step (all_step (all_step (all_step (all_step (all_step (all_step (all_step (all_step (all_step (all_step (all_step (all_step (all_step (all_step (all_step (all_step (all_step (all_step (all_step (all_step (all_step (all_step (all_step (all_step (all_step (all_step (all_step (all_step (all_step (all_step (all_step (all_step (all_step (all_step (all_step all_zero ?_) ?_) ?_) ?_) ?_) ?_) ?_) ?_) ?_) ?_) ?_) ?_) ?_) ?_) ?_) ?_) ?_) ?_) ?_) ?_) ?_) ?_) ?_) ?_) ?_) ?_) ?_) ?_) ?_) ?_) ?_) ?_) ?_) ?_) ?_) ?_) ?_) ?_) ?_) ?_) ?_
    all_goals
      intro ox ho hic dx yx Tx wx hdb hK hW
      replace hdb := Lib.hid hdb
    · obtain ⟨ps, af, rfl⟩ := core (some 49) (.load 26 (.tmp 1)) 26 none ho (by kernel_rfl)
      have e1 : Tx.getD 1 undef = .pointer (some ⟨gp, 0, none⟩) := hK.of (by kernel_rfl) g1
      obtain ⟨hl0, hl1, hl2, hl3, hl4, hl5, hl6, hl7, hl8⟩ := lk _ _ _ _ _ hW
      exact wpOp_plain ho rfl (by subst hV; go_simp; try rfl)
    · exact absurd (by decide) hic
    · obtain ⟨ps, af, rfl⟩ := core (some 51) (.binOp BinOp.eql 26 (.tmp 49) (.tmp 50) 26) 4 none ho (by kernel_rfl)
      have e49 : Tx.getD 49 undef = .agg #[.int .u64 17627433388654248598, .int .u64 8575836109218198432, .int .u64 17923454489921339634, .int .u64 7716867327612699207, .int .u64 14678990851816772085, .int .u64 3156516839386865358, .int .u64 10297457778147434006, .int .u64 5756518291402817435, .bool false] := hK.is 0 ho (by kernel_rfl) (by subst hV; rfl)
      have e50 : Tx.getD 50 undef = .agg #[.int .u64 17627433388654248598, .int .u64 8575836109218198432, .int .u64 17923454489921339634, .int .u64 7716867327612699207, .int .u64 14678990851816772085, .int .u64 3156516839386865358, .int .u64 10297457778147434006, .int .u64 5756518291402817435, .bool false] := hK.is 1 ho (by kernel_rfl) (by subst hV; rfl)
      have hq1 := hq
      exact wpOp_plain ho rfl (by subst hV; go_simp; try rfl)
    · exact pl1 52 51 2 4 ho hK (by kernel_rfl) (by kernel_rfl) (by subst hV; rfl) (by subst hV; rfl) fun ps af e => k_mv e
    · exact pg0 3 52 true 53 2 27 ho hK (by kernel_rfl) (by kernel_rfl) (by kernel_rfl) (by subst hV; rfl) (by kernel_rfl) g2 (by subst hV; rfl) fun ps af e => k_mv e
    · obtain ⟨ps, af, rfl⟩ := core (some 54) (.binOp BinOp.eql 27 (.tmp 53) (.const (Value.int IntKind.i64 0)) 27) 4 (some (3, true)) ho (by kernel_rfl)
      have e53 : Tx.getD 53 undef = .int .i64 0 := hK.is 4 ho (by kernel_rfl) (by subst hV; rfl)
      exact wpOp_want ho ((wanted_of (d := 52) (b := true) rfl (by kernel_rfl) (hK.is 3 ho (by kernel_rfl) (by subst hV; rfl))).trans rfl) (by subst hV; go_simp; try rfl)
    · obtain ⟨ps, af, rfl⟩ := core (some 55) (.pick (.tmp 52) (.tmp 54) (.const (Value.bool false))) 4 none ho (by kernel_rfl)
      have e52 : Tx.getD 52 undef = .bool true := hK.is 3 ho (by kernel_rfl) (by subst hV; rfl)
      have e54 : Tx.getD 54 undef = .bool true := hK.is 5 ho (by kernel_rfl) (by subst hV; rfl)
      exact wpOp_plain ho rfl (by subst hV; go_simp; try rfl)
    · exact pl1 56 55 6 4 ho hK (by kernel_rfl) (by kernel_rfl) (by subst hV; rfl) (by subst hV; rfl) fun ps af e => k_mv e
    · exact pg0 7 56 true 57 4 27 ho hK (by kernel_rfl) (by kernel_rfl) (by kernel_rfl) (by subst hV; rfl) (by kernel_rfl) g4 (by subst hV; rfl) fun ps af e => k_mv e
    · obtain ⟨ps, af, rfl⟩ := core (some 58) (.binOp BinOp.eql 27 (.tmp 57) (.const (Value.int IntKind.i64 80)) 27) 4 (some (7, true)) ho (by kernel_rfl)
      have e57 : Tx.getD 57 undef = .int .i64 80 := hK.is 8 ho (by kernel_rfl) (by subst hV; rfl)
      exact wpOp_want ho ((wanted_of (d := 56) (b := true) rfl (by kernel_rfl) (hK.is 7 ho (by kernel_rfl) (by subst hV; rfl))).trans rfl) (by subst hV; go_simp; try rfl)
    · obtain ⟨ps, af, rfl⟩ := core (some 59) (.pick (.tmp 56) (.tmp 58) (.const (Value.bool false))) 4 none ho (by kernel_rfl)
      have e56 : Tx.getD 56 undef = .bool true := hK.is 7 ho (by kernel_rfl) (by subst hV; rfl)
      have e58 : Tx.getD 58 undef = .bool true := hK.is 9 ho (by kernel_rfl) (by subst hV; rfl)
      exact wpOp_plain ho rfl (by subst hV; go_simp; try rfl)
    · exact pl1 60 59 10 4 ho hK (by kernel_rfl) (by kernel_rfl) (by subst hV; rfl) (by subst hV; rfl) fun ps af e => k_mv e
    · exact pg0 11 60 true 61 6 27 ho hK (by kernel_rfl) (by kernel_rfl) (by kernel_rfl) (by subst hV; rfl) (by kernel_rfl) g6 (by subst hV; rfl) fun ps af e => k_mv e
    · obtain ⟨ps, af, rfl⟩ := core (some 62) (.binOp BinOp.eql 27 (.tmp 61) (.const (Value.int IntKind.i64 80)) 27) 4 (some (11, true)) ho (by kernel_rfl)
      have e61 : Tx.getD 61 undef = .int .i64 80 := hK.is 12 ho (by kernel_rfl) (by subst hV; rfl)
      exact wpOp_want ho ((wanted_of (d := 60) (b := true) rfl (by kernel_rfl) (hK.is 11 ho (by kernel_rfl) (by subst hV; rfl))).trans rfl) (by subst hV; go_simp; try rfl)
    · obtain ⟨ps, af, rfl⟩ := core (some 63) (.pick (.tmp 60) (.tmp 62) (.const (Value.bool false))) 4 none ho (by kernel_rfl)
      have e60 : Tx.getD 60 undef = .bool true := hK.is 11 ho (by kernel_rfl) (by subst hV; rfl)
      have e62 : Tx.getD 62 undef = .bool true := hK.is 13 ho (by kernel_rfl) (by subst hV; rfl)
      exact wpOp_plain ho rfl (by subst hV; go_simp; try rfl)
    · exact pl1 64 63 14 4 ho hK (by kernel_rfl) (by kernel_rfl) (by subst hV; rfl) (by subst hV; rfl) fun ps af e => k_mv e
    · exact pg0 15 64 true 65 7 41 ho hK (by kernel_rfl) (by kernel_rfl) (by kernel_rfl) (by subst hV; rfl) (by kernel_rfl) g7 (by subst hV; rfl) fun ps af e => k_mv e
    · exact pg0 15 64 true 66 8 9 ho hK (by kernel_rfl) (by kernel_rfl) (by kernel_rfl) (by subst hV; rfl) (by kernel_rfl) g8 (by subst hV; rfl) fun ps af e => k_mv e
    · exact pg0 15 64 true 67 9 9 ho hK (by kernel_rfl) (by kernel_rfl) (by kernel_rfl) (by subst hV; rfl) (by kernel_rfl) g9 (by subst hV; rfl) fun ps af e => k_mv e
    · exact absurd (by decide) hic
    · obtain ⟨ps, af, rfl⟩ := core (some 69) (.pick (.tmp 64) (.tmp 68) (.const (Value.bool false))) 4 none ho (by kernel_rfl)
      have e64 : Tx.getD 64 undef = .bool true := hK.is 15 ho (by kernel_rfl) (by subst hV; rfl)
      have e68 : Tx.getD 68 undef = .bool true := hK.is 19 ho (by kernel_rfl) (by subst hV; rfl)
      exact wpOp_plain ho rfl (by subst hV; go_simp; try rfl)
    · exact pl1 70 69 20 4 ho hK (by kernel_rfl) (by kernel_rfl) (by subst hV; rfl) (by subst hV; rfl) fun ps af e => k_mv e
    · exact pg0 21 70 true 71 7 41 ho hK (by kernel_rfl) (by kernel_rfl) (by kernel_rfl) (by subst hV; rfl) (by kernel_rfl) g7 (by subst hV; rfl) fun ps af e => k_mv e
    · exact pg0 21 70 true 72 9 9 ho hK (by kernel_rfl) (by kernel_rfl) (by kernel_rfl) (by subst hV; rfl) (by kernel_rfl) g9 (by subst hV; rfl) fun ps af e => k_mv e
    · exact absurd (by decide) hic
    · obtain ⟨ps, af, rfl⟩ := core (some 74) (.unOp UnOp.not 4 (.tmp 73)) 4 (some (21, true)) ho (by kernel_rfl)
      have e73 : Tx.getD 73 undef = .bool false := hK.is 24 ho (by kernel_rfl) (by subst hV; rfl)
      exact wpOp_want ho ((wanted_of (d := 70) (b := true) rfl (by kernel_rfl) (hK.is 21 ho (by kernel_rfl) (by subst hV; rfl))).trans rfl) (by subst hV; go_simp; try rfl)
    · obtain ⟨ps, af, rfl⟩ := core (some 75) (.pick (.tmp 70) (.tmp 74) (.const (Value.bool false))) 4 none ho (by kernel_rfl)
      have e70 : Tx.getD 70 undef = .bool true := hK.is 21 ho (by kernel_rfl) (by subst hV; rfl)
      have e74 : Tx.getD 74 undef = .bool true := hK.is 25 ho (by kernel_rfl) (by subst hV; rfl)
      exact wpOp_plain ho rfl (by subst hV; go_simp; try rfl)
    · exact pl1 76 75 26 4 ho hK (by kernel_rfl) (by kernel_rfl) (by subst hV; rfl) (by subst hV; rfl) fun ps af e => k_mv e
    · obtain ⟨ps, af, rfl⟩ := core (some 77) (.load 26 (.tmp 1)) 26 (some (27, true)) ho (by kernel_rfl)
      have e1 : Tx.getD 1 undef = .pointer (some ⟨gp, 0, none⟩) := hK.of (by kernel_rfl) g1
      obtain ⟨hl0, hl1, hl2, hl3, hl4, hl5, hl6, hl7, hl8⟩ := lk _ _ _ _ _ hW
      exact wpOp_want ho ((wanted_of (d := 76) (b := true) rfl (by kernel_rfl) (hK.is 27 ho (by kernel_rfl) (by subst hV; rfl))).trans rfl) (by subst hV; go_simp; try rfl)
    · exact absurd (by decide) hic
    · obtain ⟨ps, af, rfl⟩ := core (some 79) (.unOp UnOp.not 4 (.tmp 78)) 4 (some (27, true)) ho (by kernel_rfl)
      have e78 : Tx.getD 78 undef = .bool false := hK.is 29 ho (by kernel_rfl) (by subst hV; rfl)
      exact wpOp_want ho ((wanted_of (d := 76) (b := true) rfl (by kernel_rfl) (hK.is 27 ho (by kernel_rfl) (by subst hV; rfl))).trans rfl) (by subst hV; go_simp; try rfl)
    · obtain ⟨ps, af, rfl⟩ := core (some 80) (.pick (.tmp 76) (.tmp 79) (.const (Value.bool false))) 4 none ho (by kernel_rfl)
      have e76 : Tx.getD 76 undef = .bool true := hK.is 27 ho (by kernel_rfl) (by subst hV; rfl)
      have e79 : Tx.getD 79 undef = .bool true := hK.is 30 ho (by kernel_rfl) (by subst hV; rfl)
      exact wpOp_plain ho rfl (by subst hV; go_simp; try rfl)
    · exact pl1 81 80 31 4 ho hK (by kernel_rfl) (by kernel_rfl) (by subst hV; rfl) (by subst hV; rfl) fun ps af e => k_mv e
    · obtain ⟨ps, af, rfl⟩ := core (some 82) (.pick (.tmp 81) (.const (Value.bool true)) (.const (Value.bool false))) 4 none ho (by kernel_rfl)
      have e81 : Tx.getD 81 undef = .bool true := hK.is 32 ho (by kernel_rfl) (by subst hV; rfl)
      exact wpOp_plain ho rfl (by subst hV; go_simp; try rfl)
    · exact pl1 83 82 33 4 ho hK (by kernel_rfl) (by kernel_rfl) (by subst hV; rfl) (by subst hV; rfl) fun ps af e => k_mv e
    · obtain ⟨ps, af, rfl⟩ := core (some 84) (.pick (.tmp 83) (.const (Value.bool true)) (.const (Value.bool false))) 4 none ho (by kernel_rfl)
      have e83 : Tx.getD 83 undef = .bool true := hK.is 34 ho (by kernel_rfl) (by subst hV; rfl)
      exact wpOp_plain ho rfl (by subst hV; go_simp; try rfl)
    · exact pl1 85 84 35 4 ho hK (by kernel_rfl) (by kernel_rfl) (by subst hV; rfl) (by subst hV; rfl) fun ps af e => k_mv e
    · obtain ⟨ps, af, rfl⟩ := core (some 86) (.pick (.tmp 85) (.const (Value.bool true)) (.const (Value.bool false))) 4 none ho (by kernel_rfl)
      have e85 : Tx.getD 85 undef = .bool true := hK.is 36 ho (by kernel_rfl) (by subst hV; rfl)
      exact wpOp_plain ho rfl (by subst hV; go_simp; try rfl)
    · exact pl1 87 86 37 4 ho hK (by kernel_rfl) (by kernel_rfl) (by subst hV; rfl) (by subst hV; rfl) fun ps af e => k_mv e
    · obtain ⟨ps, af, rfl⟩ := core (some 88) (.pick (.tmp 87) (.const (Value.bool true)) (.const (Value.bool false))) 4 none ho (by kernel_rfl)
      have e87 : Tx.getD 87 undef = .bool true := hK.is 38 ho (by kernel_rfl) (by subst hV; rfl)
      exact wpOp_plain ho rfl (by subst hV; go_simp; try rfl)
    · exact pl1 0 88 39 4 ho hK (by kernel_rfl) (by kernel_rfl) (by subst hV; rfl) (by subst hV; rfl) fun ps af e => k_as e
  · have hcase : cx = 1 ∨ cx = 19 ∨ cx = 24 ∨ cx = 29 := by simpa using hc
    rcases hcase with rfl | rfl | rfl | rfl
    · obtain ⟨ps, af, rfl⟩ := core (some 50) (.call { callee := .value (.func 48), args := #[], argTypes := #[] }) 26 none ho (by kernel_rfl)
      have hW1 : PW (dx 1) (dx 19) (dx 24) (dx 29)  wx := hW
      have f19 := hda 19 (by decide) (by kernel_rfl)
      have f24 := hda 24 (by decide) (by kernel_rfl)
      have f29 := hda 29 (by decide) (by kernel_rfl)
      clear hdb hda
      rw [hd, f19, f24, f29] at hW1
      replace f19 := Lib.hid f19
      replace f24 := Lib.hid f24
      replace f29 := Lib.hid f29
      clear hd hW hc
      refine wpOp_plain ho rfl ?_
      go_simp
      go_at_call 48
      refine (cl1 _ hW1).mono ?_
      rintro ex w2 ⟨rfl, hW2⟩
      subst hV
      first | refine ⟨undef, rfl, ?_⟩ | refine ⟨⟨undef, rfl⟩, ?_⟩
      simpa [updB, upd, f19.out, f24.out, f29.out] using hW2
    · obtain ⟨ps, af, rfl⟩ := core (some 68) (.call { callee := .value (.func 26), args := #[.tmp 65, .tmp 66, .const (Value.string { data := #[115] }), .tmp 67], argTypes := #[41, 9, 9, 9] }) 4 (some (15, true)) ho (by kernel_rfl)
      have e65 : Tx.getD 65 undef = .pointer (some ⟨r, 0, none⟩) := hK.is 16 ho (by kernel_rfl) (by subst hV; rfl)
      have e66 : Tx.getD 66 undef = .string kd := hK.is 17 ho (by kernel_rfl) (by subst hV; rfl)
      have e67 : Tx.getD 67 undef = .string mc := hK.is 18 ho (by kernel_rfl) (by subst hV; rfl)
      have hW1 : PW (dx 1) (dx 19) (dx 24) (dx 29)  wx := hW
      have f1 := hdb 1 (by decide) (by kernel_rfl)
      have f24 := hda 24 (by decide) (by kernel_rfl)
      have f29 := hda 29 (by decide) (by kernel_rfl)
      clear hdb hda
      rw [hd, f1, f24, f29] at hW1
      replace f1 := Lib.hid f1
      replace f24 := Lib.hid f24
      replace f29 := Lib.hid f29
      clear hd hW hc
      refine wpOp_want ho ((wanted_of (d := 64) (b := true) rfl (by kernel_rfl) (hK.is 15 ho (by kernel_rfl) (by subst hV; rfl))).trans rfl) ?_
      go_simp
      go_at_call 26
      refine (cl19 _ hW1).mono ?_
      rintro ex w2 ⟨rfl, hW2⟩
      subst hV
      first | refine ⟨undef, rfl, ?_⟩ | refine ⟨⟨undef, rfl⟩, ?_⟩
      simpa [updB, upd, f1.out, f24.out, f29.out] using hW2
    · obtain ⟨ps, af, rfl⟩ := core (some 73) (.call { callee := .value (.func 26), args := #[.tmp 71, .const (Value.string { data := #[] }), .const (Value.string { data := #[115] }), .tmp 72], argTypes := #[41, 9, 9, 9] }) 4 (some (21, true)) ho (by kernel_rfl)
      have e71 : Tx.getD 71 undef = .pointer (some ⟨r, 0, none⟩) := hK.is 22 ho (by kernel_rfl) (by subst hV; rfl)
      have e72 : Tx.getD 72 undef = .string mc := hK.is 23 ho (by kernel_rfl) (by subst hV; rfl)
      have hW1 : PW (dx 1) (dx 19) (dx 24) (dx 29)  wx := hW
      have f1 := hdb 1 (by decide) (by kernel_rfl)
      have f19 := hdb 19 (by decide) (by kernel_rfl)
      have f29 := hda 29 (by decide) (by kernel_rfl)
      clear hdb hda
      rw [hd, f1, f19, f29] at hW1
      replace f1 := Lib.hid f1
      replace f19 := Lib.hid f19
      replace f29 := Lib.hid f29
      clear hd hW hc
      refine wpOp_want ho ((wanted_of (d := 70) (b := true) rfl (by kernel_rfl) (hK.is 21 ho (by kernel_rfl) (by subst hV; rfl))).trans rfl) ?_
      go_simp
      go_at_call 26
      refine (cl24 _ hW1).mono ?_
      rintro ex w2 ⟨rfl, hW2⟩
      subst hV
      first | refine ⟨undef, rfl, ?_⟩ | refine ⟨⟨undef, rfl⟩, ?_⟩
      simpa [updB, upd, f1.out, f19.out, f29.out] using hW2
    · obtain ⟨ps, af, rfl⟩ := core (some 78) (.call { callee := .value (.func 16), args := #[.tmp 77, .const (Value.string { data := #[] }), .const (Value.string { data := #[] })], argTypes := #[26, 9, 9] }) 4 (some (27, true)) ho (by kernel_rfl)
      have e77 : Tx.getD 77 undef = .agg #[.int .u64 17627433388654248598, .int .u64 8575836109218198432, .int .u64 17923454489921339634, .int .u64 7716867327612699207, .int .u64 14678990851816772085, .int .u64 3156516839386865358, .int .u64 10297457778147434006, .int .u64 5756518291402817435, .bool false] := hK.is 28 ho (by kernel_rfl) (by subst hV; rfl)
      have hW1 : PW (dx 1) (dx 19) (dx 24) (dx 29)  wx := hW
      have f1 := hdb 1 (by decide) (by kernel_rfl)
      have f19 := hdb 19 (by decide) (by kernel_rfl)
      have f24 := hdb 24 (by decide) (by kernel_rfl)
      clear hdb hda
      rw [hd, f1, f19, f24] at hW1
      replace f1 := Lib.hid f1
      replace f19 := Lib.hid f19
      replace f24 := Lib.hid f24
      clear hd hW hc
      refine wpOp_want ho ((wanted_of (d := 76) (b := true) rfl (by kernel_rfl) (hK.is 27 ho (by kernel_rfl) (by subst hV; rfl))).trans rfl) ?_
      go_simp
      go_at_call 16
      refine (cl29 _ hW1).mono ?_
      rintro ex w2 ⟨rfl, hW2⟩
      subst hV
      first | refine ⟨undef, rfl, ?_⟩ | refine ⟨⟨undef, rfl⟩, ?_⟩
      simpa [updB, upd, f1.out, f19.out, f24.out] using hW2
  · have hW1 : PW (dx 1) (dx 19) (dx 24) (dx 29)  wx := hW
    rw [hd 1 (by decide), hd 19 (by decide), hd 24 (by decide), hd 29 (by decide)] at hW1
    have hQ := h _ hW1
    rw [hsz]
    subst hV hT
    refine cast (congrArg (fun Tx => Q .normal ⟨Tx, ds⟩ wx) ?_) hQ
    kernel_rfl
end Go.Proofs.YtpggkfdijmnmiaaGreat.Pl
namespace Go.Proofs.YtpggkfdijmnmiaaGreat
open Go.RowKit Limbs
theorem nv1 : nv 1 = .agg #[.int .u64 1, .int .u64 0, .int .u64 0, .int .u64 0] := rfl
theorem nv0 : nv 0 = .agg #[.int .u64 0, .int .u64 0, .int .u64 0, .int .u64 0] := rfl
theorem hp1 : ∀ w, Calls Tryz.prog 11 #[.agg #[.int .u64 1, .int .u64 0, .int .u64 0, .int .u64 0]] w fun e w' => e = .returned (.tuple #[G.v, .int .i64 0]) ∧ Below w.heap.size w w' := fun w => by
  have h := public_yes 1 (by decide) w
  rw [pub_one, nv1] at h
  exact h
theorem hp0 : ∀ w, Calls Tryz.prog 11 #[.agg #[.int .u64 0, .int .u64 0, .int .u64 0, .int .u64 0]] w fun e w' => e = .returned (.tuple #[.agg #[.int .u64 0, .int .u64 0, .int .u64 0, .int .u64 0, .int .u64 0, .int .u64 0, .int .u64 0, .int .u64 0, .bool false], .int .i64 80]) ∧ Below w.heap.size w w' := fun w => by
  have h := public_no 0 (by decide) (by decide) w
  rw [nv0] at h
  exact h
theorem hsn : ∀ w, Calls Tryz.prog 14 #[nv mN, .string ⟨#[]⟩] w fun e w' => e = .returned (.tuple #[.string ⟨#[]⟩, .int .i64 80]) ∧ Below w.heap.size w w' := fun w => sign_no mN (by decide) (fun h => Nat.lt_irrefl _ h.2) _ w
theorem hmd : ∀ w, Calls Tryz.prog 47 #[.int .i64 1] w fun e w' => e = .returned (nv mN) ∧ Below w.heap.size w w' := fun w => by
  have h := mod_any 1 w
  rw [show md 1 = mN by unfold md; rw [if_neg (by decide)]] at h
  exact h
theorem find_a (g : Nat) : findK [(g, [97])] (kidOf [97]) = some g := by rw [findK, if_pos rfl]
theorem find_ab (g : Nat) : findK [(g, [97])] (kidOf [98]) = none := by rw [findK, if_neg kid_ab]; rfl
theorem find_b (g q : Nat) : findK [(g, [97]), (q, [98])] (kidOf [98]) = some q := by rw [findK, if_neg kid_ab, findK, if_pos rfl]
theorem find_no (g q : Nat) : findK [(g, [97]), (q, [98])] [] = none := by rw [findK, if_neg kid_a, findK, if_neg kid_b]; rfl
def g9 : Array Value := #[.int .u64 17627433388654248598, .int .u64 8575836109218198432, .int .u64 17923454489921339634, .int .u64 7716867327612699207, .int .u64 14678990851816772085, .int .u64 3156516839386865358, .int .u64 10297457778147434006, .int .u64 5756518291402817435, .bool false]
set_option maxHeartbeats 16000000 in
theorem fixed_any (w : World) : Calls Tryz.prog 13 #[] w fun e w' => e = .returned (.bool true) ∧ Below w.heap.size w w' := by
  have H1 := Lib.hid hp1
  have H0 := Lib.hid hp0
  have HS := Lib.hid hsn
  have HM := Lib.hid hmd
  rw [vG] at H1
  simp only [nv, num] at HS HM
  go_enter Tryz.func13, Tryz.ntmps13
  go_wp2_with fail
  refine (H1.out _).mono ?_
  rintro e w1 ⟨rfl, hb1⟩
  go_wp2_with fail
  have KG : Bk 26 (w1.alloc (.cells g9 26)) w1.heap.size g9 := Bk.new rfl
  have hbA : Below w.heap.size w (w1.alloc (.cells g9 26)) := by
    have hs := hb1.size
    go_grown
  unfold g9 at KG hbA
  generalize w1.heap.size = gp at KG ⊢
  generalize (w1.alloc (.cells #[.int .u64 17627433388654248598, .int .u64 8575836109218198432, .int .u64 17923454489921339634, .int .u64 7716867327612699207, .int .u64 14678990851816772085, .int .u64 3156516839386865358, .int .u64 10297457778147434006, .int .u64 5756518291402817435, .bool false] 26)) = wA at KG hbA ⊢
  clear hb1
  refine (H0.out wA).mono ?_
  rintro e w2 ⟨rfl, hb2⟩
  have KG2 := Lib.hid (KG.below hb2)
  have HB2 := Lib.hid (bthen hbA hb2)
  clear KG hbA hb2
  go_wp2_with fail
  refine (HM.out _).mono ?_
  rintro e w3 ⟨rfl, hb3⟩
  go_wp2_with fail
  refine (HS.out _).mono ?_
  rintro e w4 ⟨rfl, hb4⟩
  have hbz : Below w2.heap.size w2 w3 := Below.trans (show Below w2.heap.size w2 (w2.alloc _) by go_grown) (hb3.mono (by simp))
  have KG4 := Lib.hid ((KG2.out.below hbz).below hb4)
  have HB4 := Lib.hid (bthen (bthen HB2.out hbz) hb4)
  clear KG2 HB2 hbz hb3 hb4 H1 H0 HS HM
  have hnr := newRing_any [97] (by decide) w4
  have HNR := Lib.hid hnr
  clear hnr
  go_wp2_with fail
  refine HNR.out.mono ?_
  rintro e w5 ⟨r, g, rfl, hrg, hb5, hr5⟩
  have HG5 := Lib.hid hrg
  have HB5 := Lib.hid hb5
  have HR5 := Lib.hid hr5
  have htt : Calls Tryz.prog 22 #[.pointer (some ⟨r, 0, none⟩), .string ⟨#[97]⟩] w5 fun e w' => e = .returned (.int .i64 80) ∧ Below w5.heap.size w5 w' := turn_there hrg (by simp) [97] (by decide) g (find_a g)
  have HTT := Lib.hid htt
  clear htt hrg hb5 hr5 HNR
  unfold kpt
  go_wp2_with fail
  refine HTT.out.mono ?_
  rintro e w6 ⟨rfl, hb6⟩
  have HG6 := Lib.hid (HG5.out.below hb6)
  have HB6 := Lib.hid (bthen HB5.out hb6)
  have htn : Calls Tryz.prog 22 #[.pointer (some ⟨r, 0, none⟩), .string ⟨#[98]⟩] w6 fun e w' => e = .returned (.int .i64 0) ∧ ∃ q, Rg w4.heap.size w' r ([(g, [97])] ++ [(q, [98])]) ∧ Below w4.heap.size w6 w' := turn_new HG6.out HB6.out.size HR5.out (by simp) [98] (by decide) (find_ab g)
  have HTN := Lib.hid htn
  clear htn hb6 HTT HG5 HB5
  go_wp2_with fail
  refine HTN.out.mono ?_
  rintro e w7 ⟨rfl, q, hrg, hb7⟩
  have HG7 := Lib.hid hrg
  have HB7 := Lib.hid (HB6.out.trans hb7)
  have hki : Calls Tryz.prog 31 #[.pointer (some ⟨r, 0, none⟩)] w7 fun e w' => ∃ v, e = .returned v ∧ w'.ownsRow w7.heap.size 9 1 v 2 [kidV (g, [97]), kidV (q, [98])] ∧ Below w7.heap.size w7 w' := kids_any hrg (by simp) (by simp)
  have HKI := Lib.hid hki
  clear hki hrg hb7 HTN HG6 HB6
  go_wp2_with fail
  refine HKI.out.mono ?_
  rintro e w8 ⟨v, rfl, ho, hb8⟩
  obtain ⟨a8, c8, rfl⟩ := own_slice (n := 1) ho
  have HG8 := Lib.hid (HG7.out.below hb8)
  have HB8 := Lib.hid (bthen HB7.out hb8)
  have hmc : Calls Tryz.prog 24 #[.pointer (some ⟨r, 0, none⟩), .string ⟨#[115]⟩] w8 fun e w' => e = .returned (.tuple #[.string ⟨(kidOf [98]).toArray⟩, .string ⟨(Hs.macL (macOf [98]) [115]).toArray⟩]) ∧ Below w8.heap.size w8 w' := rmac_any (ks := [(g, [97])]) (k := (q, [98])) HG8.out (by simp) (show ([98] : List UInt8).length ≤ 140737488351232 by decide) [115] (by decide)
  have HMC := Lib.hid hmc
  clear hmc ho hb8 HKI HG7 HB7
  go_wp2_with fail
  refine HMC.out.mono ?_
  rintro e w9 ⟨rfl, hb9⟩
  have HG9 := Lib.hid (HG8.out.below hb9)
  have HB9 := Lib.hid (bthen HB8.out hb9)
  obtain ⟨mc, hmc⟩ : ∃ m, m = Hs.macL (macOf [98]) [115] := ⟨_, rfl⟩
  have HMC2 := Lib.hid hmc
  rw [← hmc]
  clear hmc hb9 HMC HG8 HB8
  obtain ⟨kd, hkd⟩ : ∃ m, m = kidOf [98] := ⟨_, rfl⟩
  have HKD := Lib.hid hkd
  rw [← hkd]
  clear hkd
  go_wp2_with fail
  refine Pl.tF (fun _ _ _ _ w' => Below w9.heap.size w9 w') gp r ⟨kd.toArray⟩ ⟨mc.toArray⟩ w9 ?c1 ?c19 ?c24 ?c29 ?lk ?hq ?w0 ?h
  case c1 =>
    intro w1 h
    refine (kBase w1).mono ?_
    rintro e w2 ⟨rfl, hb⟩
    exact ⟨rfl, bthen h hb⟩
  case c19 =>
    intro w1 h
    have := vouch_some (HG9.out.below h) (by simp) kd [115] mc (by decide) (by rw [HMC2.out, macL_len]; decide) (q, [98]) (by simp) (by rw [HKD.out]; exact find_b g q)
    refine this.mono ?_
    rintro e w2 ⟨rfl, hb⟩
    exact ⟨by rw [HMC2.out]; simp, bthen h hb⟩
  case c24 =>
    intro w1 h
    refine (vouch_none (HG9.out.below h) (by simp) [] ⟨#[115]⟩ ⟨mc.toArray⟩ (find_no g q)).mono ?_
    rintro e w2 ⟨rfl, hb⟩
    exact ⟨rfl, bthen h hb⟩
  case c29 =>
    intro w1 h
    have := verify_empty G.x G.y G.i ⟨#[]⟩ w1
    rw [show pn G.x G.y G.i = G.v from rfl, vG] at this
    refine this.mono ?_
    rintro e w2 ⟨rfl, hb⟩
    exact ⟨rfl, bthen h hb⟩
  case lk =>
    intro b1 b19 b24 b29 w1 h
    obtain ⟨⟨d0, d1, d2, d3⟩, ⟨d4, d5, d6, d7⟩, d8⟩ := (KG4.out.below (bthen HB9.out h)).cells9
    exact ⟨d0, d1, d2, d3, d4, d5, d6, d7, d8⟩
  case hq =>
    intro w1
    have := eqP G.x G.y G.x G.y G.i G.i G_ok.1 G_ok.2 G_ok.1 G_ok.2 w1
    rw [show pn G.x G.y G.i = G.v from rfl, vG] at this
    rw [this]
    simp
  case w0 => exact ⟨rfl, rfl, rfl, Nat.le_refl _, fun _ _ => rfl⟩
  case h =>
  intro w1 h
  go_wp2_with fail
  go_returns
  exact ⟨rfl, bthen (bthen HB4.out HB9.out) h⟩
end Go.Proofs.YtpggkfdijmnmiaaGreat
namespace Go.Proofs.YtpggkfdijmnmiaaGreat
open Go.RowKit Limbs
theorem Stt.start {w w1 w2 : World} {r g : Nat} {sd : List UInt8} {c1 : Array Value} (hsd : sd.length ≤ 140737488351232) (hrg : Rg w.heap.size w1 r [(g, sd)]) (hb1 : Below w.heap.size w w1) (hr1 : w.heap.size ≤ r) (hb2 : Below ((w1.alloc (.cells #[txt sd] 9)).alloc (.cells #[.slice (some ⟨w1.heap.size, 0, none⟩) 1 1] 46)).heap.size ((w1.alloc (.cells #[txt sd] 9)).alloc (.cells #[.slice (some ⟨w1.heap.size, 0, none⟩) 1 1] 46)) w2) : Stt w.heap.size w w2 r (w1.heap.size + 1) [(g, sd)] := by
  have hA : Below w1.heap.size w1 ((w1.alloc (.cells #[txt sd] 9)).alloc (.cells #[.slice (some ⟨w1.heap.size, 0, none⟩) 1 1] 46)) := by go_grown
  have hz : (w1.alloc (.cells #[txt sd] 9)).heap.size = w1.heap.size + 1 := by simp
  have hz2 : ((w1.alloc (.cells #[txt sd] 9)).alloc (.cells #[.slice (some ⟨w1.heap.size, 0, none⟩) 1 1] 46)).heap.size = w1.heap.size + 2 := by simp
  have hbk : Bk 46 ((w1.alloc (.cells #[txt sd] 9)).alloc (.cells #[.slice (some ⟨w1.heap.size, 0, none⟩) 1 1] 46)) (w1.heap.size + 1) #[.slice (some ⟨w1.heap.size, 0, none⟩) 1 1] := Bk.new hz.symm
  have hrow : ((w1.alloc (.cells #[txt sd] 9)).alloc (.cells #[.slice (some ⟨w1.heap.size, 0, none⟩) 1 1] 46)).ownsRow w.heap.size 9 1 (.slice (some ⟨w1.heap.size, 0, none⟩) 1 1) 1 [txt sd] := by
    refine ⟨rfl, .inr ⟨w1.heap.size, 1, #[txt sd], rfl, hb1.size, ?_, Nat.le_refl _, by decide, rfl, rfl⟩⟩
    exact (Bk.alloc (Bk.new rfl) : Bk 9 _ w1.heap.size #[txt sd])
  have hbA := hA.trans (hb2.mono (by omega))
  exact ⟨hrg.below hbA, ⟨w1.heap.size, 1, hbk.below hb2, own_below hrow hb2⟩, hb1.trans (hbA.mono hb1.size), Nat.le_refl _, hr1, Nat.le_trans hb1.size (Nat.le_succ _), by simp, by simp, by simpa using hsd⟩
theorem Stt.clone {B : Nat} {w0 w w' : World} {r x q : Nat} {ks : List (Nat × List UInt8)} (h : Stt B w0 w r x ks) (hr : Rg w.heap.size w' q ks) (hq : w.heap.size ≤ q) (hb : Below w.heap.size w w') : Stt B w0 w' q x ks :=
  have hB : B ≤ w.heap.size := Nat.le_trans h.base h.bel.size
  ⟨hr.mono hB, h.xg.below hb, h.bel.trans (hb.mono hB), h.base, Nat.le_trans hB hq, h.hx, h.len, h.ne, h.sl⟩
def SpR (n : Nat) (w : World) (a : Nat) : Prop := ∃ cur, Bk 9 w a cur ∧ n ≤ cur.size
theorem SpR.cell {n j : Nat} {w : World} {a : Nat} (h : SpR n w a) (hj : j < n) : (∃ u, w.cell? ⟨a, j, none⟩ = some u) ∧ w.frozen? ⟨a, j, none⟩ = false := by
  obtain ⟨cur, hk, hn⟩ := h
  exact ⟨⟨cur[j]'(by omega), by rw [hk.cell j, Array.getElem?_eq_getElem (by omega)]⟩, hk.fro j⟩
theorem SpR.put {n j : Nat} {w : World} {a b : Nat} {u : Value} (h : SpR n w a) : SpR n (w.setCell ⟨b, j, none⟩ u) a := by
  obtain ⟨cur, hk, hn⟩ := h
  by_cases hab : a = b
  · subst hab
    exact ⟨_, hk.same, by simpa using hn⟩
  · exact ⟨cur, Bk.oth (a := ⟨b, j, none⟩) hab hk, hn⟩
set_option maxHeartbeats 32000000 in
theorem macs_walk (sd : List UInt8) (hsd : sd.length ≤ 140737488351232) (v : Value) (ops : List ROp) (hok : ∀ o ∈ ops, ROpOk o) (hlen : ops.length ≤ 2513169434843) (w : World) (h : ROpsIn w v ops) :
    Calls Tryz.prog 7 #[.string ⟨sd.toArray⟩, v] w fun e w' => e = .returned (.bool true) ∧ Below w.heap.size w w' := by
  obtain ⟨a, c, rfl, hl⟩ := h
  have HNR := Lib.hid (newRing_any sd hsd w)
  have HFX := Lib.hid fixed_any
  have HL := Lib.hid hl
  have HOK := Lib.hid hok
  have HSD := Lib.hid hsd
  clear hl hok hsd
  obtain ⟨n, hn⟩ : ∃ n, n = ops.length := ⟨_, rfl⟩
  have HN := Lib.hid hn
  rw [← hn] at hlen ⊢
  clear hn
  go_enter Tryz.func7, Tryz.ntmps7
  go_wp2_with fail
  refine HNR.out.mono ?_
  rintro e w1 ⟨r, g, rfl, hrg, hb1, hr1⟩
  have HG1 := Lib.hid (And.intro hrg (And.intro hb1 hr1))
  clear hrg hb1 hr1 HNR
  unfold kpt
  go_wp2_with fail
  refine (HFX.out _).mono ?_
  rintro e w2 ⟨rfl, hb2⟩
  have HS0 : Hid (Stt w.heap.size w w2 r (w1.heap.size + 1) [(g, sd)]) := Lib.hid (Stt.start (c1 := #[]) HSD.out HG1.out.1 HG1.out.2.1 HG1.out.2.2 hb2)
  clear hb2 HG1 HFX
  generalize w1.heap.size + 1 = x at HS0 ⊢
  generalize ([(g, sd)] : List (Nat × List UInt8)) = ks0 at HS0
  go_wp2_with fail
  go_loopw [5, 7] (fun rv iv wr => ∃ (r : Nat) (ks : List (Nat × List UInt8)) (i : Nat), i ≤ n ∧ rv = .pointer (some ⟨r, 0, none⟩) ∧ iv = .int .i64 (i : Int) ∧ Hid (Stt w.heap.size w wr r x ks)) (fun _ iv _ => n - (intOf iv).toNat)
  case atStart => exact ⟨r, ks0, 0, Nat.zero_le _, rfl, rfl, HS0⟩
  case round =>
    clear HS0
    obtain ⟨r, ks, i, hi, rfl, rfl, HS⟩ := hrel
    by_cases hlt : i < n
    · have hlo : i < ops.length := HN.out ▸ hlt
      obtain ⟨b, o, rfl, hbl, hc⟩ := HL.out (by intro e; rw [e] at hlo; simp at hlo)
      obtain ⟨o0, o1, o2, o3⟩ := hc i hlo
      have HO := Lib.hid (HOK.out ops[i] (List.getElem_mem hlo))
      generalize ops[i] = op at o0 o1 o2 o3 HO
      obtain ⟨sa, hsa⟩ := ba_list op.s
      obtain ⟨na, hna⟩ := ba_list op.n
      obtain ⟨ma, hma⟩ := ba_list op.m
      have HLS : Hid (sa.length ≤ 140737488351232 ∧ na.length ≤ 140737488351232 ∧ ma.length ≤ 140737488351232) := Lib.hid (by
        obtain ⟨_, _, p1, p2, p3⟩ := HO.out
        rw [hsa] at p1
        rw [hna] at p2
        rw [hma] at p3
        exact ⟨p1, p2, p3⟩)
      rw [hsa] at o1
      rw [hna] at o2
      rw [hma] at o3
      generalize op.kind = kd at o0
      clear hsa hna hma HO
      clear op
      have hcc : ∀ k, wr.cell? ⟨b, k, none⟩ = w.cell? ⟨b, k, none⟩ := fun k => HS.out.bel.cell (p := ⟨b, k, none⟩) hbl
      rw [← hcc] at o0 o1 o2 o3
      have hx40 := index40 b o c n i hlt wr
      have hltI : (i : Int) < (n : Int) := by omega
      clear hcc hc hbl
      go_upto_block 2 with fail
      obtain ⟨CS, hCS⟩ : ∃ z : Array Value, z = #[.int .i64 kd, .string ⟨sa.toArray⟩, .string ⟨na.toArray⟩, .string ⟨ma.toArray⟩] := ⟨_, rfl⟩
      rw [← hCS]
      have HCS := Lib.hid hCS
      clear hCS
      have HVB : Hid (Bk 48 (wr.alloc (.cells CS 48)) wr.heap.size CS) := Lib.hid (Bk.new rfl)
      have HVS : Hid (Stt w.heap.size w (wr.alloc (.cells CS 48)) r x ks) := Lib.hid (HS.out.below (by go_grown))
      generalize wr.alloc (.cells CS 48) = wv at HVB HVS ⊢
      generalize wr.heap.size = vb at HVB ⊢
      clear HS o0 o1 o2 o3 hx40
      go_cut [5] (fun rv wc => ∃ (r2 : Nat) (ls : List (Nat × List UInt8)), rv = .pointer (some ⟨r2, 0, none⟩) ∧ Hid (Stt w.heap.size w wc r2 x ls))
      case first =>
        by_cases k0 : kd = 0
        · have t0 : (kd == 0) = true := by simp [k0]
          clear k0
          have c0 : wv.cell? ⟨vb, 0, none⟩ = some (.int .i64 kd) := by
            rw [HVB.out.cell 0, HCS.out]
            rfl
          go_wp2_with fail
          refine Pl.tT (PT w.heap.size vb CS w r x ks sa) r x vb ⟨sa.toArray⟩ (turnC (ks.map Prod.snd) sa) wv ?l1 ?c3 ?c7 ?w0 ?h
          case l1 =>
            intro _ _ w' h
            rw [h.1.cell 1, HCS.out]
            rfl
          case c3 => exact fun w' h => PT.one HVS.out HLS.out.1 w' h
          case c7 => exact fun w' h => PT.two HVS.out HLS.out.1 w' h
          case w0 =>
            have hb := HVS.out.bel
            exact ⟨HVB.out, ⟨hb.os, hb.tape, hb.output, hb.size, hb.block⟩, HVS.out.rg, HVS.out.xg⟩
          case h =>
            intro w3 h3
            obtain ⟨h31, h32, ⟨ls, hls, h33⟩, h34⟩ := h3
            have HS4 : Hid (Stt w.heap.size w w3 r x ls) := Lib.hid (HVS.out.cons HLS.out.1 hls h33 h34 h32)
            clear h31 h32 h33 h34 hls HVS HVB
            go_wp2_with fail
            go_meet
            exact ⟨r, ls, rfl, HS4⟩
        have t0 : (kd == 0) = false := by simpa using k0
        clear k0
        by_cases k1 : kd = 1
        · have t1 : (kd == 1) = true := by simp [k1]
          clear k1
          have c0 : wv.cell? ⟨vb, 0, none⟩ = some (.int .i64 kd) := by
            rw [HVB.out.cell 0, HCS.out]
            rfl
          obtain ⟨mk, mm, hm1, hm2⟩ := HVS.out.mac sa HLS.out.1
          have HM1 := Lib.hid hm1
          have HM2 := Lib.hid hm2
          clear hm1 hm2
          have c1 : wv.cell? ⟨vb, 1, none⟩ = some (.string ⟨sa.toArray⟩) := by
            rw [HVB.out.cell 1, HCS.out]
            rfl
          go_wp2_with fail
          refine (HM1.out _ HVS.out).mono ?_
          rintro e wx ⟨rfl, hbx⟩
          have HVBx := Lib.hid (HVB.out.below hbx)
          have HVSx := Lib.hid (HVS.out.below hbx)
          clear hbx HVB HVS c1 HM1
          have c1 : wx.cell? ⟨vb, 1, none⟩ = some (.string ⟨sa.toArray⟩) := by
            rw [HVBx.out.cell 1, HCS.out]
            rfl
          go_wp2_with fail
          refine (HM2.out _ HVSx.out).mono ?_
          rintro e wy ⟨rfl, hby⟩
          have HVSy := Lib.hid (HVSx.out.below hby)
          clear hby HVBx HVSx c1 HM2
          go_wp2_with fail
          go_meet
          exact ⟨r, ks, rfl, HVSy⟩
        have t1 : (kd == 1) = false := by simpa using k1
        clear k1
        by_cases k2 : kd = 2
        · have t2 : (kd == 2) = true := by simp [k2]
          clear k2
          have c0 : wv.cell? ⟨vb, 0, none⟩ = some (.int .i64 kd) := by
            rw [HVB.out.cell 0, HCS.out]
            rfl
          go_wp2_with fail
          refine Pl.tV (fun _ _ w' => Bk 48 w' vb CS ∧ Stt w.heap.size w w' r x ks) r x vb ⟨sa.toArray⟩ ⟨na.toArray⟩ ⟨ma.toArray⟩ (vouS (ks.map Prod.snd) na sa ma) wv ?l2 ?l1 ?l3 ?c7 ?c15 ?w0 ?h
          case l2 =>
            intro _ _ w' h
            rw [h.1.cell 2, HCS.out]
            rfl
          case l1 =>
            intro _ _ w' h
            rw [h.1.cell 1, HCS.out]
            rfl
          case l3 =>
            intro _ _ w' h
            rw [h.1.cell 3, HCS.out]
            rfl
          case c7 =>
            intro w' h
            refine (vouch_post h.2.rg h.2.len na sa ma HLS.out.1 HLS.out.2.2).mono ?_
            rintro e w'' ⟨he, hb⟩
            exact ⟨he, h.1.below hb, h.2.below hb⟩
          case c15 =>
            intro w' h
            refine (rvouch_any h.2.xg (by have := h.2.len; simp; omega) h.2.sl na sa ma HLS.out.1).mono ?_
            rintro e w'' ⟨he, hb⟩
            exact ⟨he, h.1.below hb, h.2.below hb⟩
          case w0 =>
            have hb := HVS.out.bel
            exact ⟨HVB.out, ⟨HVS.out.rg, HVS.out.xg, ⟨hb.os, hb.tape, hb.output, hb.size, hb.block⟩, HVS.out.base, HVS.out.hr, HVS.out.hx, HVS.out.len, HVS.out.ne, HVS.out.sl⟩⟩
          case h =>
            intro w3 h3
            have HS4 : Hid (Stt w.heap.size w w3 r x ks) := Lib.hid h3.2
            clear h3 HVS HVB
            go_wp2_with fail
            go_meet
            exact ⟨r, ks, rfl, HS4⟩
        have t2 : (kd == 2) = false := by simpa using k2
        clear k2
        by_cases k3 : kd = 3
        · have t3 : (kd == 3) = true := by simp [k3]
          clear k3
          have c0 : wv.cell? ⟨vb, 0, none⟩ = some (.int .i64 kd) := by
            rw [HVB.out.cell 0, HCS.out]
            rfl
          go_wp2_with fail
          have hcl := clone_any HVS.out.rg (by have := HVS.out.len; omega) HVS.out.ne
          unfold kpt at hcl
          refine hcl.mono ?_
          rintro e wx ⟨q, rfl, hrq, hq, hbx⟩
          have HS4 : Hid (Stt w.heap.size w wx q x ks) := Lib.hid (HVS.out.clone hrq hq hbx)
          clear hrq hq hbx hcl HVS HVB
          go_wp2_with fail
          go_meet
          exact ⟨q, ks, rfl, HS4⟩
        have t3 : (kd == 3) = false := by simpa using k3
        clear k3
        by_cases k4 : kd = 4
        · have t4 : (kd == 4) = true := by simp [k4]
          clear k4
          have c0 : wv.cell? ⟨vb, 0, none⟩ = some (.int .i64 kd) := by
            rw [HVB.out.cell 0, HCS.out]
            rfl
          go_wp2_with fail
          have hcl := clone_any HVS.out.rg (by have := HVS.out.len; omega) HVS.out.ne
          unfold kpt at hcl
          refine hcl.mono ?_
          rintro e wx ⟨q, rfl, hrq, hq, hbx⟩
          have HRQ := Lib.hid (And.intro hrq (And.intro hq hbx))
          have HVSx := Lib.hid (HVS.out.below hbx)
          clear hrq hq hbx hcl
          go_wp2_with fail
          have hcl := rclone_any HVSx.out.xg (by have := HVS.out.len; simp; omega) (by simpa using HVS.out.ne)
          unfold kpt at hcl
          refine hcl.mono ?_
          rintro e wy ⟨y, rfl, hry, hy, hby⟩
          have HRY := Lib.hid (And.intro hry (And.intro hy hby))
          clear hry hy hby hcl
          go_wp2_with fail
          have HP0 : Hid (PK w.heap.size w wv r x vb q y CS ks sa na false false false false false false false undef undef wy) := Lib.hid (by
            obtain ⟨h1, h2, h3⟩ := HRQ.out
            obtain ⟨k1, k2, k3⟩ := HRY.out
            have hbb := h3.trans (k3.mono h3.size)
            exact ⟨HVB.out.below hbb, hbb, h1.below k3, k1.mono h3.size⟩)
          have HQQ := Lib.hid HRQ.out.2.1
          have HYY : Hid (wv.heap.size ≤ y) := Lib.hid (Nat.le_trans HRQ.out.2.2.size HRY.out.2.1)
          clear HRQ HRY HVSx
          refine Pl.tK (PK w.heap.size w wv r x vb q y CS ks sa na) r x vb q y ⟨sa.toArray⟩ ⟨na.toArray⟩ (turnC (ks.map Prod.snd) sa) (turnC (ks.map Prod.snd) na) wy ?l1 ?l2 ?c6 ?c10 ?c17 ?c21 ?c26 ?c28 ?c29 ?w0 ?h
          case l1 => exact PK.cell 1 _ (by rw [HCS.out]; rfl)
          case l2 => exact PK.cell 2 _ (by rw [HCS.out]; rfl)
          case c6 => exact PK.c6 HVS.out HQQ.out HLS.out.1
          case c10 => exact PK.c10 HVS.out HYY.out HLS.out.1
          case c17 => exact PK.c17 HVS.out HQQ.out HLS.out.2.1
          case c21 => exact PK.c21 HVS.out HYY.out HLS.out.2.1
          case c26 => exact PK.c26 HVS.out (Nat.le_refl _)
          case c28 => exact PK.c28 HVS.out (Nat.le_refl _) HLS.out.1
          case c29 => exact PK.c29 HVS.out (Nat.le_refl _)
          case w0 =>
            obtain ⟨h1, hb, h3⟩ := HP0.out
            exact ⟨h1, ⟨hb.os, hb.tape, hb.output, hb.size, hb.block⟩, h3⟩
          case h =>
            intro y26 y28 w3 h3
            obtain ⟨ls, hls⟩ := PK.end HVS.out HLS.out.2.1 y26 y28 w3 h3
            have HS4 := Lib.hid hls
            clear h3 hls HP0 HVS HVB
            go_wp2_with fail
            go_meet
            exact ⟨r, ls, rfl, HS4⟩
        have t4 : (kd == 4) = false := by simpa using k4
        clear k4
        have c0 : wv.cell? ⟨vb, 0, none⟩ = some (.int .i64 kd) := by
          rw [HVB.out.cell 0, HCS.out]
          rfl
        go_wp2_with fail
        go_meet
        exact ⟨r, ks, rfl, HVS⟩
      case rest =>
        obtain ⟨r2, ls, rfl, HS4⟩ := hcut
        clear HVB HVS HCS HLS
        generalize wc = w3 at HS4 ⊢
        go_wp2_with fail
        have hki := kids_any HS4.out.rg HS4.out.len HS4.out.ne
        unfold kpt at hki
        refine hki.mono ?_
        rintro e wa ⟨va, rfl, hra, hba⟩
        clear hki
        obtain ⟨aa, ca, rfl⟩ := own_slice0 hra HS4.out.pos
        have HSa := Lib.hid (HS4.out.below hba)
        have HRA := Lib.hid (And.intro hra hba)
        clear hra hba
        go_wp2_with fail
        have hki := seeds_any HSa.out.rg HSa.out.len HSa.out.ne HSa.out.sl2
        unfold kpt at hki
        refine hki.mono ?_
        rintro e wb ⟨vb2, rfl, hrb, hbb⟩
        clear hki
        obtain ⟨ab, cb, rfl⟩ := own_slice0 hrb HSa.out.pos
        have HSb := Lib.hid (HSa.out.below hbb)
        have HRB := Lib.hid (And.intro hrb hbb)
        clear hrb hbb
        go_wp2_with fail
        have hki := rkids_any HSb.out.xg (by simpa using HSb.out.len) HSb.out.sl
        unfold kpt at hki
        refine hki.mono ?_
        rintro e wc ⟨vc, rfl, hrc, hbc⟩
        clear hki
        rw [List.length_map] at hrc
        have HRC := Lib.hid (And.intro hrc hbc)
        clear hrc hbc
        have HSK := Lib.hid (same_kids (own_below (own_below HRA.out.1 HRB.out.2) HRC.out.2) HRC.out.1 HSb.out.len)
        obtain ⟨ac, cc, rfl⟩ := own_slice0 HRC.out.1 HSb.out.pos
        go_wp2_with fail
        refine HSK.out.mono ?_
        rintro e wd ⟨rfl, hbd⟩
        clear HSK
        have HSd := Lib.hid ((HSb.out.below HRC.out.2).below hbd)
        have HBD := Lib.hid (bthen HRC.out.2 hbd)
        clear hbd HRC
        obtain ⟨ax, cx, x1, x2⟩ := HSd.out.xg
        rw [List.length_map] at x1 x2
        have xc : wd.cell? ⟨x, 0, none⟩ = some (.slice (some ⟨ax, 0, none⟩) ls.length cx) := x1.cell 0
        have HSS := Lib.hid (same_seeds (own_below HRB.out.1 HBD.out) x2 HSd.out.len)
        clear x1 x2
        go_wp2_with fail
        refine HSS.out.mono ?_
        rintro e we ⟨rfl, hbe⟩
        clear HSS xc
        have HBE := Lib.hid (bthen (bthen HRB.out.2 HBD.out) hbe)
        have HRA2 := Lib.hid (own_below HRA.out.1 HBE.out)
        have HRB2 := Lib.hid (own_below HRB.out.1 (bthen HBD.out hbe))
        have HBF := Lib.hid (bthen HRA.out.2 HBE.out)
        clear hbe HBD HSd HSb HSa
        go_wp2_with fail
        obtain ⟨m, hm⟩ : ∃ m, m = ls.length := ⟨_, rfl⟩
        have hm8 : m ≤ 8 := hm ▸ HS4.out.len
        have HSA : Hid (SpR m we aa) := Lib.hid (by
          obtain ⟨cur, k1, k2, _⟩ := row_bk HRA2.out
          exact ⟨cur, k1, by omega⟩)
        have HSB : Hid (SpR m we ab) := Lib.hid (by
          obtain ⟨cur, k1, k2, _⟩ := row_bk HRB2.out
          exact ⟨cur, k1, by omega⟩)
        rw [← hm]
        have HGE : Hid (w3.heap.size ≤ aa ∧ w3.heap.size ≤ ab) := Lib.hid (by
          obtain ⟨_, _, _, k1⟩ := row_bk HRA2.out
          obtain ⟨_, _, _, k2⟩ := row_bk HRB2.out
          have := HRA.out.2.size
          exact ⟨k1, by omega⟩)
        clear hm HRA2 HRB2 HRA HRB HBE
        go_loopw [17] (fun kv wq => ∃ k : Nat, k ≤ m ∧ kv = .int .i64 (k : Int) ∧ Hid (SpR m wq aa ∧ SpR m wq ab ∧ Below w3.heap.size w3 wq)) (fun kv _ => m - (intOf kv).toNat)
        case atStart => exact ⟨0, Nat.zero_le _, rfl, Lib.hid ⟨HSA.out, HSB.out, HBF.out⟩⟩
        case round =>
          obtain ⟨k, hk, rfl, HQ⟩ := hrel
          by_cases hkm : k < m
          · have hkI : (k : Int) < (m : Int) := by omega
            obtain ⟨⟨u1, q1⟩, f1⟩ := HQ.out.1.cell hkm
            have HQ2 : Hid (SpR m (wr.setCell ⟨aa, k, none⟩ (.string ⟨#[115, 112, 111, 105, 108, 116]⟩)) aa ∧ SpR m (wr.setCell ⟨aa, k, none⟩ (.string ⟨#[115, 112, 111, 105, 108, 116]⟩)) ab ∧ Below w3.heap.size w3 (wr.setCell ⟨aa, k, none⟩ (.string ⟨#[115, 112, 111, 105, 108, 116]⟩))) := Lib.hid ⟨HQ.out.1.put, HQ.out.2.1.put, HQ.out.2.2.setCell (p := ⟨aa, k, none⟩) HGE.out.1 _⟩
            obtain ⟨⟨u2, q2⟩, f2⟩ := HQ2.out.2.1.cell hkm
            go_wp2_with fail
            exact ⟨⟨k + 1, hkm, by go_num, Lib.hid ⟨HQ2.out.1.put, HQ2.out.2.1.put, HQ2.out.2.2.setCell (p := ⟨ab, k, none⟩) HGE.out.2 _⟩⟩, by simp [intOf]; omega⟩
          · have hkI : decide ((k : Int) < (m : Int)) = false := decide_eq_false (by omega)
            have HS5 := Lib.hid (HS4.out.below HQ.out.2.2)
            clear HS4 HQ HGE HBF HSA HSB
            go_wp2_with fail
            exact ⟨⟨r2, ls, i + 1, hlt, rfl, by go_num, HS5⟩, by simp [intOf]; omega⟩
    · have hltI : decide ((i : Int) < (n : Int)) = false := decide_eq_false (by omega)
      go_wp2_with fail
      go_returns
      exact ⟨rfl, HS.out.bel⟩
end Go.Proofs.YtpggkfdijmnmiaaGreat
