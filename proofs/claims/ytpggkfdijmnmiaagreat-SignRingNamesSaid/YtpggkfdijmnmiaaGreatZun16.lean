/- The drawn region of sign's fixed answers. No condition. What sign's fixed answers: true. No condition. What the document's own bit and Base64 answer. Condition: at most 2097152 bytes. The two ways of writing base64url are one. No condition. SignRingNames' walk: a key's name and its mac are told by its seed alone. Condition: at most 2^47 - 4096 bytes each. -/
import Derived.Test.YtpggkfdijmnmiaaGreatZun15
import Derived.Test.YtpggkfdijmnmiaaGreatZun09
import Derived.Test.YtpggkfdijmnmiaaGreatZun08
set_option linter.unusedVariables false
set_option linter.unusedSimpArgs false
set_option maxRecDepth 100000
namespace Go.Proofs.YtpggkfdijmnmiaaGreat.Pl
open Go.RowKit Go.Sort Limbs
noncomputable def tFO : Array Oper := (Tryz.f13.body.bind fun c => findR c 8).getD #[]
def tF_m : List (List Nat) := [[], [], [1], [1], [1], [1], [1], [1], [1], [1], [1], [1], [1], [1], [1], [1], [1], [1], [1], [1], [1, 19], [1, 19], [1, 19], [1, 19], [1, 19], [1, 19, 24], [1, 19, 24], [1, 19, 24], [1, 19, 24], [1, 19, 24], [1, 19, 24, 29], [1, 19, 24, 29], [1, 19, 24, 29], [1, 19, 24, 29], [1, 19, 24, 29], [1, 19, 24, 29], [1, 19, 24, 29], [1, 19, 24, 29], [1, 19, 24, 29], [1, 19, 24, 29], [1, 19, 24, 29]]
set_option maxHeartbeats 32000000 in
theorem tF (PW : Bool → Bool → Bool → Bool → World → Prop) (gp r : Nat) (kd mc : ByteArray) (w : World)  (cl1 : ∀ (w : World), PW false false false false w → Calls Tryz.prog 48 #[] w fun e w1 => e = .returned (.agg #[.int .u64 17627433388654248598, .int .u64 8575836109218198432, .int .u64 17923454489921339634, .int .u64 7716867327612699207, .int .u64 14678990851816772085, .int .u64 3156516839386865358, .int .u64 10297457778147434006, .int .u64 5756518291402817435, .bool false]) ∧ PW true false false false  w1) (cl19 : ∀ (w : World), PW true false false false w → Calls Tryz.prog 26 #[.pointer (some ⟨r, 0, none⟩), .string kd, .string ⟨#[115]⟩, .string mc] w fun e w1 => e = .returned (.bool true) ∧ PW true true false false  w1) (cl24 : ∀ (w : World), PW true true false false w → Calls Tryz.prog 26 #[.pointer (some ⟨r, 0, none⟩), .string ⟨#[]⟩, .string ⟨#[115]⟩, .string mc] w fun e w1 => e = .returned (.bool false) ∧ PW true true true false  w1) (cl29 : ∀ (w : World), PW true true true false w → Calls Tryz.prog 16 #[.agg #[.int .u64 17627433388654248598, .int .u64 8575836109218198432, .int .u64 17923454489921339634, .int .u64 7716867327612699207, .int .u64 14678990851816772085, .int .u64 3156516839386865358, .int .u64 10297457778147434006, .int .u64 5756518291402817435, .bool false], .string ⟨#[]⟩, .string ⟨#[]⟩] w fun e w1 => e = .returned (.bool false) ∧ PW true true true true  w1) (lk : ∀ (b1 b19 b24 b29 : Bool) (w : World), PW b1 b19 b24 b29 w → w.cell? ⟨gp, 0, none⟩ = some (.int .u64 17627433388654248598) ∧ w.cell? ⟨gp, 1, none⟩ = some (.int .u64 8575836109218198432) ∧ w.cell? ⟨gp, 2, none⟩ = some (.int .u64 17923454489921339634) ∧ w.cell? ⟨gp, 3, none⟩ = some (.int .u64 7716867327612699207) ∧ w.cell? ⟨gp, 4, none⟩ = some (.int .u64 14678990851816772085) ∧ w.cell? ⟨gp, 5, none⟩ = some (.int .u64 3156516839386865358) ∧ w.cell? ⟨gp, 6, none⟩ = some (.int .u64 10297457778147434006) ∧ w.cell? ⟨gp, 7, none⟩ = some (.int .u64 5756518291402817435) ∧ w.cell? ⟨gp, 8, none⟩ = some (.bool false)) (hq : ∀ w, (Op.equalIn 10000 26 (.agg #[.int .u64 17627433388654248598, .int .u64 8575836109218198432, .int .u64 17923454489921339634, .int .u64 7716867327612699207, .int .u64 14678990851816772085, .int .u64 3156516839386865358, .int .u64 10297457778147434006, .int .u64 5756518291402817435, .bool false]) (.agg #[.int .u64 17627433388654248598, .int .u64 8575836109218198432, .int .u64 17923454489921339634, .int .u64 7716867327612699207, .int .u64 14678990851816772085, .int .u64 3156516839386865358, .int .u64 10297457778147434006, .int .u64 5756518291402817435, .bool false])).run Tryz.prog w = .ok true w) {t0 t3 t5 t10 t11 t12 t13 t14 t15 t16 t17 t18 t19 t20 t21 t22 t23 t24 t25 t26 t27 t28 t29 t30 t31 t32 t33 t34 t35 t36 t37 t38 t39 t40 t41 t42 t43 t44 t45 t46 t47 t48 t49 t50 t51 t52 t53 t54 t55 t56 t57 t58 t59 t60 t61 t62 t63 t64 t65 t66 t67 t68 t69 t70 t71 t72 t73 t74 t75 t76 t77 t78 t79 t80 t81 t82 t83 t84 t85 t86 t87 t88 : Value} (w0 : PW false false false false  w.drew) {ds : List Deferred} {Q : Exit → Act → World → Prop}
    (h : ∀ (w1 : World), PW true true true true  w1 → Q .normal { tmps := #[.bool true, .pointer (some ⟨gp, 0, none⟩), .int .i64 0, t3, .int .i64 80, t5, .int .i64 80, .pointer (some ⟨r, 0, none⟩), .string kd, .string mc, t10, t11, t12, t13, t14, t15, t16, t17, t18, t19, t20, t21, t22, t23, t24, t25, t26, t27, t28, t29, t30, t31, t32, t33, t34, t35, t36, t37, t38, t39, t40, t41, t42, t43, t44, t45, t46, t47, t48, .agg #[.int .u64 17627433388654248598, .int .u64 8575836109218198432, .int .u64 17923454489921339634, .int .u64 7716867327612699207, .int .u64 14678990851816772085, .int .u64 3156516839386865358, .int .u64 10297457778147434006, .int .u64 5756518291402817435, .bool false], .agg #[.int .u64 17627433388654248598, .int .u64 8575836109218198432, .int .u64 17923454489921339634, .int .u64 7716867327612699207, .int .u64 14678990851816772085, .int .u64 3156516839386865358, .int .u64 10297457778147434006, .int .u64 5756518291402817435, .bool false], .bool true, .bool true, .int .i64 0, .bool true, .bool true, .bool true, .int .i64 80, .bool true, .bool true, .bool true, .int .i64 80, .bool true, .bool true, .bool true, .pointer (some ⟨r, 0, none⟩), .string kd, .string mc, .bool true, .bool true, .bool true, .pointer (some ⟨r, 0, none⟩), .string mc, .bool false, .bool true, .bool true, .bool true, .agg #[.int .u64 17627433388654248598, .int .u64 8575836109218198432, .int .u64 17923454489921339634, .int .u64 7716867327612699207, .int .u64 14678990851816772085, .int .u64 3156516839386865358, .int .u64 10297457778147434006, .int .u64 5756518291402817435, .bool false], .bool false, .bool true, .bool true, .bool true, .bool true, .bool true, .bool true, .bool true, .bool true, .bool true, .bool true], defers := ds } w1) :
    (Code.region 8 tFO true).wp Tryz.prog Q { tmps := #[t0, .pointer (some ⟨gp, 0, none⟩), .int .i64 0, t3, .int .i64 80, t5, .int .i64 80, .pointer (some ⟨r, 0, none⟩), .string kd, .string mc, t10, t11, t12, t13, t14, t15, t16, t17, t18, t19, t20, t21, t22, t23, t24, t25, t26, t27, t28, t29, t30, t31, t32, t33, t34, t35, t36, t37, t38, t39, t40, t41, t42, t43, t44, t45, t46, t47, t48, t49, t50, t51, t52, t53, t54, t55, t56, t57, t58, t59, t60, t61, t62, t63, t64, t65, t66, t67, t68, t69, t70, t71, t72, t73, t74, t75, t76, t77, t78, t79, t80, t81, t82, t83, t84, t85, t86, t87, t88], defers := ds } w := by
  have hsz : tFO.size = 41 := by kernel_rfl
  generalize hT : List.toArray _ = T0
  have hs : T0.size = 89 := by subst hT; rfl
  have g1 : T0.getD 1 undef = .pointer (some ⟨gp, 0, none⟩) := by subst hT; rfl
  have g2 : T0.getD 2 undef = .int .i64 0 := by subst hT; rfl
  have g4 : T0.getD 4 undef = .int .i64 80 := by subst hT; rfl
  have g6 : T0.getD 6 undef = .int .i64 80 := by subst hT; rfl
  have g7 : T0.getD 7 undef = .pointer (some ⟨r, 0, none⟩) := by subst hT; rfl
  have g8 : T0.getD 8 undef = .string kd := by subst hT; rfl
  have g9 : T0.getD 9 undef = .string mc := by subst hT; rfl
  obtain ⟨W, hV⟩ : ∃ W : List ((Nat × (Value → Value)) ⊕ Value), W = [.inr (.agg #[.int .u64 17627433388654248598, .int .u64 8575836109218198432, .int .u64 17923454489921339634, .int .u64 7716867327612699207, .int .u64 14678990851816772085, .int .u64 3156516839386865358, .int .u64 10297457778147434006, .int .u64 5756518291402817435, .bool false]), .inr (.agg #[.int .u64 17627433388654248598, .int .u64 8575836109218198432, .int .u64 17923454489921339634, .int .u64 7716867327612699207, .int .u64 14678990851816772085, .int .u64 3156516839386865358, .int .u64 10297457778147434006, .int .u64 5756518291402817435, .bool false]), .inr (.bool true), .inr (.bool true), .inr (.int .i64 0), .inr (.bool true), .inr (.bool true), .inr (.bool true), .inr (.int .i64 80), .inr (.bool true), .inr (.bool true), .inr (.bool true), .inr (.int .i64 80), .inr (.bool true), .inr (.bool true), .inr (.bool true), .inr (.pointer (some ⟨r, 0, none⟩)), .inr (.string kd), .inr (.string mc), .inr (.bool true), .inr (.bool true), .inr (.bool true), .inr (.pointer (some ⟨r, 0, none⟩)), .inr (.string mc), .inr (.bool false), .inr (.bool true), .inr (.bool true), .inr (.bool true), .inr (.agg #[.int .u64 17627433388654248598, .int .u64 8575836109218198432, .int .u64 17923454489921339634, .int .u64 7716867327612699207, .int .u64 14678990851816772085, .int .u64 3156516839386865358, .int .u64 10297457778147434006, .int .u64 5756518291402817435, .bool false]), .inr (.bool false), .inr (.bool true), .inr (.bool true), .inr (.bool true), .inr (.bool true), .inr (.bool true), .inr (.bool true), .inr (.bool true), .inr (.bool true), .inr (.bool true), .inr (.bool true), .inr (.bool true)] := ⟨_, rfl⟩
  refine wp_plan (by kernel_rfl) T0 ds [1, 19, 24, 29] tF_m (mkV W) (fun dx yx wx => PW (dx 1) (dx 19) (dx 24) (dx 29)  wx) w (by rw [hs]; kernel_rfl) (by kernel_rfl) (by kernel_rfl) (by rw [hsz]; decide) (fun cx hc ix hne ha yx vx => mkV_fix (by rw [hV]; kernel_rfl) hne ha yx vx) (?key) (fun cx hc ox ho dx yx Tx wx hd hdb hda hK hW => ?_) ⟨fun k => undef, w0⟩ (fun dx yx wx hd hW => ?_)
  case key =>
    rw [hsz]
    refine all_step (all_step (all_step (all_step (all_step (all_step (all_step (all_step (all_step (all_step (all_step (all_step (all_step (all_step (all_step (all_step (all_step (all_step (all_step (all_step (all_step (all_step (all_step (all_step (all_step (all_step (all_step (all_step (all_step (all_step (all_step (all_step (all_step (all_step (all_step (all_step (all_step (all_step (all_step (all_step (all_step all_zero ?_) ?_) ?_) ?_) ?_) ?_) ?_) ?_) ?_) ?_) ?_) ?_) ?_) ?_) ?_) ?_) ?_) ?_) ?_) ?_) ?_) ?_) ?_) ?_) ?_) ?_) ?_) ?_) ?_) ?_) ?_) ?_) ?_) ?_) ?_) ?_) ?_) ?_) ?_) ?_) ?_
    all_goals
      intro ox ho hic dx yx Tx wx hdb hK hW
      replace hdb := Lib.hid hdb
    · obtain ⟨ps, af, rfl⟩ := core (some 49) (.load 26 (.tmp 1)) 26 none ho (by kernel_rfl)
      have e1 : Tx.getD 1 undef = .pointer (some ⟨gp, 0, none⟩) := hK.of (by kernel_rfl) g1
      obtain ⟨hl0, hl1, hl2, hl3, hl4, hl5, hl6, hl7, hl8⟩ := lk _ _ _ _ _ hW
      exact wpOp_plain ho rfl (by subst hV; go_simp; try rfl)
    · exact absurd (by decide) hic
    · obtain ⟨ps, af, rfl⟩ := core (some 51) (.binOp BinOp.eql 26 (.tmp 49) (.tmp 50) 26) 4 none ho (by kernel_rfl)
      have e49 : Tx.getD 49 undef = .agg #[.int .u64 17627433388654248598, .int .u64 8575836109218198432, .int .u64 17923454489921339634, .int .u64 7716867327612699207, .int .u64 14678990851816772085, .int .u64 3156516839386865358, .int .u64 10297457778147434006, .int .u64 5756518291402817435, .bool false] := hK.is 0 ho (by kernel_rfl) (by subst hV; rfl)
      have e50 : Tx.getD 50 undef = .agg #[.int .u64 17627433388654248598, .int .u64 8575836109218198432, .int .u64 17923454489921339634, .int .u64 7716867327612699207, .int .u64 14678990851816772085, .int .u64 3156516839386865358, .int .u64 10297457778147434006, .int .u64 5756518291402817435, .bool false] := hK.is 1 ho (by kernel_rfl) (by subst hV; rfl)
      have hq1 := hq
      exact wpOp_plain ho rfl (by subst hV; go_simp; try rfl)
    · exact pl1 52 51 2 4 ho hK (by kernel_rfl) (by kernel_rfl) (by subst hV; rfl) (by subst hV; rfl) fun ps af e => k_mv e
    · exact pg0 3 52 true 53 2 27 ho hK (by kernel_rfl) (by kernel_rfl) (by kernel_rfl) (by subst hV; rfl) (by kernel_rfl) g2 (by subst hV; rfl) fun ps af e => k_mv e
    · obtain ⟨ps, af, rfl⟩ := core (some 54) (.binOp BinOp.eql 27 (.tmp 53) (.const (Value.int IntKind.i64 0)) 27) 4 (some (3, true)) ho (by kernel_rfl)
      have e53 : Tx.getD 53 undef = .int .i64 0 := hK.is 4 ho (by kernel_rfl) (by subst hV; rfl)
      exact wpOp_want ho ((wanted_of (d := 52) (b := true) rfl (by kernel_rfl) (hK.is 3 ho (by kernel_rfl) (by subst hV; rfl))).trans rfl) (by subst hV; go_simp; try rfl)
    · obtain ⟨ps, af, rfl⟩ := core (some 55) (.pick (.tmp 52) (.tmp 54) (.const (Value.bool false))) 4 none ho (by kernel_rfl)
      have e52 : Tx.getD 52 undef = .bool true := hK.is 3 ho (by kernel_rfl) (by subst hV; rfl)
      have e54 : Tx.getD 54 undef = .bool true := hK.is 5 ho (by kernel_rfl) (by subst hV; rfl)
      exact wpOp_plain ho rfl (by subst hV; go_simp; try rfl)
    · exact pl1 56 55 6 4 ho hK (by kernel_rfl) (by kernel_rfl) (by subst hV; rfl) (by subst hV; rfl) fun ps af e => k_mv e
    · exact pg0 7 56 true 57 4 27 ho hK (by kernel_rfl) (by kernel_rfl) (by kernel_rfl) (by subst hV; rfl) (by kernel_rfl) g4 (by subst hV; rfl) fun ps af e => k_mv e
    · obtain ⟨ps, af, rfl⟩ := core (some 58) (.binOp BinOp.eql 27 (.tmp 57) (.const (Value.int IntKind.i64 80)) 27) 4 (some (7, true)) ho (by kernel_rfl)
      have e57 : Tx.getD 57 undef = .int .i64 80 := hK.is 8 ho (by kernel_rfl) (by subst hV; rfl)
      exact wpOp_want ho ((wanted_of (d := 56) (b := true) rfl (by kernel_rfl) (hK.is 7 ho (by kernel_rfl) (by subst hV; rfl))).trans rfl) (by subst hV; go_simp; try rfl)
    · obtain ⟨ps, af, rfl⟩ := core (some 59) (.pick (.tmp 56) (.tmp 58) (.const (Value.bool false))) 4 none ho (by kernel_rfl)
      have e56 : Tx.getD 56 undef = .bool true := hK.is 7 ho (by kernel_rfl) (by subst hV; rfl)
      have e58 : Tx.getD 58 undef = .bool true := hK.is 9 ho (by kernel_rfl) (by subst hV; rfl)
      exact wpOp_plain ho rfl (by subst hV; go_simp; try rfl)
    · exact pl1 60 59 10 4 ho hK (by kernel_rfl) (by kernel_rfl) (by subst hV; rfl) (by subst hV; rfl) fun ps af e => k_mv e
    · exact pg0 11 60 true 61 6 27 ho hK (by kernel_rfl) (by kernel_rfl) (by kernel_rfl) (by subst hV; rfl) (by kernel_rfl) g6 (by subst hV; rfl) fun ps af e => k_mv e
    · obtain ⟨ps, af, rfl⟩ := core (some 62) (.binOp BinOp.eql 27 (.tmp 61) (.const (Value.int IntKind.i64 80)) 27) 4 (some (11, true)) ho (by kernel_rfl)
      have e61 : Tx.getD 61 undef = .int .i64 80 := hK.is 12 ho (by kernel_rfl) (by subst hV; rfl)
      exact wpOp_want ho ((wanted_of (d := 60) (b := true) rfl (by kernel_rfl) (hK.is 11 ho (by kernel_rfl) (by subst hV; rfl))).trans rfl) (by subst hV; go_simp; try rfl)
    · obtain ⟨ps, af, rfl⟩ := core (some 63) (.pick (.tmp 60) (.tmp 62) (.const (Value.bool false))) 4 none ho (by kernel_rfl)
      have e60 : Tx.getD 60 undef = .bool true := hK.is 11 ho (by kernel_rfl) (by subst hV; rfl)
      have e62 : Tx.getD 62 undef = .bool true := hK.is 13 ho (by kernel_rfl) (by subst hV; rfl)
      exact wpOp_plain ho rfl (by subst hV; go_simp; try rfl)
    · exact pl1 64 63 14 4 ho hK (by kernel_rfl) (by kernel_rfl) (by subst hV; rfl) (by subst hV; rfl) fun ps af e => k_mv e
    · exact pg0 15 64 true 65 7 41 ho hK (by kernel_rfl) (by kernel_rfl) (by kernel_rfl) (by subst hV; rfl) (by kernel_rfl) g7 (by subst hV; rfl) fun ps af e => k_mv e
    · exact pg0 15 64 true 66 8 9 ho hK (by kernel_rfl) (by kernel_rfl) (by kernel_rfl) (by subst hV; rfl) (by kernel_rfl) g8 (by subst hV; rfl) fun ps af e => k_mv e
    · exact pg0 15 64 true 67 9 9 ho hK (by kernel_rfl) (by kernel_rfl) (by kernel_rfl) (by subst hV; rfl) (by kernel_rfl) g9 (by subst hV; rfl) fun ps af e => k_mv e
    · exact absurd (by decide) hic
    · obtain ⟨ps, af, rfl⟩ := core (some 69) (.pick (.tmp 64) (.tmp 68) (.const (Value.bool false))) 4 none ho (by kernel_rfl)
      have e64 : Tx.getD 64 undef = .bool true := hK.is 15 ho (by kernel_rfl) (by subst hV; rfl)
      have e68 : Tx.getD 68 undef = .bool true := hK.is 19 ho (by kernel_rfl) (by subst hV; rfl)
      exact wpOp_plain ho rfl (by subst hV; go_simp; try rfl)
    · exact pl1 70 69 20 4 ho hK (by kernel_rfl) (by kernel_rfl) (by subst hV; rfl) (by subst hV; rfl) fun ps af e => k_mv e
    · exact pg0 21 70 true 71 7 41 ho hK (by kernel_rfl) (by kernel_rfl) (by kernel_rfl) (by subst hV; rfl) (by kernel_rfl) g7 (by subst hV; rfl) fun ps af e => k_mv e
    · exact pg0 21 70 true 72 9 9 ho hK (by kernel_rfl) (by kernel_rfl) (by kernel_rfl) (by subst hV; rfl) (by kernel_rfl) g9 (by subst hV; rfl) fun ps af e => k_mv e
    · exact absurd (by decide) hic
    · obtain ⟨ps, af, rfl⟩ := core (some 74) (.unOp UnOp.not 4 (.tmp 73)) 4 (some (21, true)) ho (by kernel_rfl)
      have e73 : Tx.getD 73 undef = .bool false := hK.is 24 ho (by kernel_rfl) (by subst hV; rfl)
      exact wpOp_want ho ((wanted_of (d := 70) (b := true) rfl (by kernel_rfl) (hK.is 21 ho (by kernel_rfl) (by subst hV; rfl))).trans rfl) (by subst hV; go_simp; try rfl)
    · obtain ⟨ps, af, rfl⟩ := core (some 75) (.pick (.tmp 70) (.tmp 74) (.const (Value.bool false))) 4 none ho (by kernel_rfl)
      have e70 : Tx.getD 70 undef = .bool true := hK.is 21 ho (by kernel_rfl) (by subst hV; rfl)
      have e74 : Tx.getD 74 undef = .bool true := hK.is 25 ho (by kernel_rfl) (by subst hV; rfl)
      exact wpOp_plain ho rfl (by subst hV; go_simp; try rfl)
    · exact pl1 76 75 26 4 ho hK (by kernel_rfl) (by kernel_rfl) (by subst hV; rfl) (by subst hV; rfl) fun ps af e => k_mv e
    · obtain ⟨ps, af, rfl⟩ := core (some 77) (.load 26 (.tmp 1)) 26 (some (27, true)) ho (by kernel_rfl)
      have e1 : Tx.getD 1 undef = .pointer (some ⟨gp, 0, none⟩) := hK.of (by kernel_rfl) g1
      obtain ⟨hl0, hl1, hl2, hl3, hl4, hl5, hl6, hl7, hl8⟩ := lk _ _ _ _ _ hW
      exact wpOp_want ho ((wanted_of (d := 76) (b := true) rfl (by kernel_rfl) (hK.is 27 ho (by kernel_rfl) (by subst hV; rfl))).trans rfl) (by subst hV; go_simp; try rfl)
    · exact absurd (by decide) hic
    · obtain ⟨ps, af, rfl⟩ := core (some 79) (.unOp UnOp.not 4 (.tmp 78)) 4 (some (27, true)) ho (by kernel_rfl)
      have e78 : Tx.getD 78 undef = .bool false := hK.is 29 ho (by kernel_rfl) (by subst hV; rfl)
      exact wpOp_want ho ((wanted_of (d := 76) (b := true) rfl (by kernel_rfl) (hK.is 27 ho (by kernel_rfl) (by subst hV; rfl))).trans rfl) (by subst hV; go_simp; try rfl)
    · obtain ⟨ps, af, rfl⟩ := core (some 80) (.pick (.tmp 76) (.tmp 79) (.const (Value.bool false))) 4 none ho (by kernel_rfl)
      have e76 : Tx.getD 76 undef = .bool true := hK.is 27 ho (by kernel_rfl) (by subst hV; rfl)
      have e79 : Tx.getD 79 undef = .bool true := hK.is 30 ho (by kernel_rfl) (by subst hV; rfl)
      exact wpOp_plain ho rfl (by subst hV; go_simp; try rfl)
    · exact pl1 81 80 31 4 ho hK (by kernel_rfl) (by kernel_rfl) (by subst hV; rfl) (by subst hV; rfl) fun ps af e => k_mv e
    · obtain ⟨ps, af, rfl⟩ := core (some 82) (.pick (.tmp 81) (.const (Value.bool true)) (.const (Value.bool false))) 4 none ho (by kernel_rfl)
      have e81 : Tx.getD 81 undef = .bool true := hK.is 32 ho (by kernel_rfl) (by subst hV; rfl)
      exact wpOp_plain ho rfl (by subst hV; go_simp; try rfl)
    · exact pl1 83 82 33 4 ho hK (by kernel_rfl) (by kernel_rfl) (by subst hV; rfl) (by subst hV; rfl) fun ps af e => k_mv e
    · obtain ⟨ps, af, rfl⟩ := core (some 84) (.pick (.tmp 83) (.const (Value.bool true)) (.const (Value.bool false))) 4 none ho (by kernel_rfl)
      have e83 : Tx.getD 83 undef = .bool true := hK.is 34 ho (by kernel_rfl) (by subst hV; rfl)
      exact wpOp_plain ho rfl (by subst hV; go_simp; try rfl)
    · exact pl1 85 84 35 4 ho hK (by kernel_rfl) (by kernel_rfl) (by subst hV; rfl) (by subst hV; rfl) fun ps af e => k_mv e
    · obtain ⟨ps, af, rfl⟩ := core (some 86) (.pick (.tmp 85) (.const (Value.bool true)) (.const (Value.bool false))) 4 none ho (by kernel_rfl)
      have e85 : Tx.getD 85 undef = .bool true := hK.is 36 ho (by kernel_rfl) (by subst hV; rfl)
      exact wpOp_plain ho rfl (by subst hV; go_simp; try rfl)
    · exact pl1 87 86 37 4 ho hK (by kernel_rfl) (by kernel_rfl) (by subst hV; rfl) (by subst hV; rfl) fun ps af e => k_mv e
    · obtain ⟨ps, af, rfl⟩ := core (some 88) (.pick (.tmp 87) (.const (Value.bool true)) (.const (Value.bool false))) 4 none ho (by kernel_rfl)
      have e87 : Tx.getD 87 undef = .bool true := hK.is 38 ho (by kernel_rfl) (by subst hV; rfl)
      exact wpOp_plain ho rfl (by subst hV; go_simp; try rfl)
    · exact pl1 0 88 39 4 ho hK (by kernel_rfl) (by kernel_rfl) (by subst hV; rfl) (by subst hV; rfl) fun ps af e => k_as e
  · have hcase : cx = 1 ∨ cx = 19 ∨ cx = 24 ∨ cx = 29 := by simpa using hc
    rcases hcase with rfl | rfl | rfl | rfl
    · obtain ⟨ps, af, rfl⟩ := core (some 50) (.call { callee := .value (.func 48), args := #[], argTypes := #[] }) 26 none ho (by kernel_rfl)
      have hW1 : PW (dx 1) (dx 19) (dx 24) (dx 29)  wx := hW
      have f19 := hda 19 (by decide) (by kernel_rfl)
      have f24 := hda 24 (by decide) (by kernel_rfl)
      have f29 := hda 29 (by decide) (by kernel_rfl)
      clear hdb hda
      rw [hd, f19, f24, f29] at hW1
      replace f19 := Lib.hid f19
      replace f24 := Lib.hid f24
      replace f29 := Lib.hid f29
      clear hd hW hc
      refine wpOp_plain ho rfl ?_
      go_simp
      go_at_call 48
      refine (cl1 _ hW1).mono ?_
      rintro ex w2 ⟨rfl, hW2⟩
      subst hV
      first | refine ⟨undef, rfl, ?_⟩ | refine ⟨⟨undef, rfl⟩, ?_⟩
      simpa [updB, upd, f19.out, f24.out, f29.out] using hW2
    · obtain ⟨ps, af, rfl⟩ := core (some 68) (.call { callee := .value (.func 26), args := #[.tmp 65, .tmp 66, .const (Value.string { data := #[115] }), .tmp 67], argTypes := #[41, 9, 9, 9] }) 4 (some (15, true)) ho (by kernel_rfl)
      have e65 : Tx.getD 65 undef = .pointer (some ⟨r, 0, none⟩) := hK.is 16 ho (by kernel_rfl) (by subst hV; rfl)
      have e66 : Tx.getD 66 undef = .string kd := hK.is 17 ho (by kernel_rfl) (by subst hV; rfl)
      have e67 : Tx.getD 67 undef = .string mc := hK.is 18 ho (by kernel_rfl) (by subst hV; rfl)
      have hW1 : PW (dx 1) (dx 19) (dx 24) (dx 29)  wx := hW
      have f1 := hdb 1 (by decide) (by kernel_rfl)
      have f24 := hda 24 (by decide) (by kernel_rfl)
      have f29 := hda 29 (by decide) (by kernel_rfl)
      clear hdb hda
      rw [hd, f1, f24, f29] at hW1
      replace f1 := Lib.hid f1
      replace f24 := Lib.hid f24
      replace f29 := Lib.hid f29
      clear hd hW hc
      refine wpOp_want ho ((wanted_of (d := 64) (b := true) rfl (by kernel_rfl) (hK.is 15 ho (by kernel_rfl) (by subst hV; rfl))).trans rfl) ?_
      go_simp
      go_at_call 26
      refine (cl19 _ hW1).mono ?_
      rintro ex w2 ⟨rfl, hW2⟩
      subst hV
      first | refine ⟨undef, rfl, ?_⟩ | refine ⟨⟨undef, rfl⟩, ?_⟩
      simpa [updB, upd, f1.out, f24.out, f29.out] using hW2
    · obtain ⟨ps, af, rfl⟩ := core (some 73) (.call { callee := .value (.func 26), args := #[.tmp 71, .const (Value.string { data := #[] }), .const (Value.string { data := #[115] }), .tmp 72], argTypes := #[41, 9, 9, 9] }) 4 (some (21, true)) ho (by kernel_rfl)
      have e71 : Tx.getD 71 undef = .pointer (some ⟨r, 0, none⟩) := hK.is 22 ho (by kernel_rfl) (by subst hV; rfl)
      have e72 : Tx.getD 72 undef = .string mc := hK.is 23 ho (by kernel_rfl) (by subst hV; rfl)
      have hW1 : PW (dx 1) (dx 19) (dx 24) (dx 29)  wx := hW
      have f1 := hdb 1 (by decide) (by kernel_rfl)
      have f19 := hdb 19 (by decide) (by kernel_rfl)
      have f29 := hda 29 (by decide) (by kernel_rfl)
      clear hdb hda
      rw [hd, f1, f19, f29] at hW1
      replace f1 := Lib.hid f1
      replace f19 := Lib.hid f19
      replace f29 := Lib.hid f29
      clear hd hW hc
      refine wpOp_want ho ((wanted_of (d := 70) (b := true) rfl (by kernel_rfl) (hK.is 21 ho (by kernel_rfl) (by subst hV; rfl))).trans rfl) ?_
      go_simp
      go_at_call 26
      refine (cl24 _ hW1).mono ?_
      rintro ex w2 ⟨rfl, hW2⟩
      subst hV
      first | refine ⟨undef, rfl, ?_⟩ | refine ⟨⟨undef, rfl⟩, ?_⟩
      simpa [updB, upd, f1.out, f19.out, f29.out] using hW2
    · obtain ⟨ps, af, rfl⟩ := core (some 78) (.call { callee := .value (.func 16), args := #[.tmp 77, .const (Value.string { data := #[] }), .const (Value.string { data := #[] })], argTypes := #[26, 9, 9] }) 4 (some (27, true)) ho (by kernel_rfl)
      have e77 : Tx.getD 77 undef = .agg #[.int .u64 17627433388654248598, .int .u64 8575836109218198432, .int .u64 17923454489921339634, .int .u64 7716867327612699207, .int .u64 14678990851816772085, .int .u64 3156516839386865358, .int .u64 10297457778147434006, .int .u64 5756518291402817435, .bool false] := hK.is 28 ho (by kernel_rfl) (by subst hV; rfl)
      have hW1 : PW (dx 1) (dx 19) (dx 24) (dx 29)  wx := hW
      have f1 := hdb 1 (by decide) (by kernel_rfl)
      have f19 := hdb 19 (by decide) (by kernel_rfl)
      have f24 := hdb 24 (by decide) (by kernel_rfl)
      clear hdb hda
      rw [hd, f1, f19, f24] at hW1
      replace f1 := Lib.hid f1
      replace f19 := Lib.hid f19
      replace f24 := Lib.hid f24
      clear hd hW hc
      refine wpOp_want ho ((wanted_of (d := 76) (b := true) rfl (by kernel_rfl) (hK.is 27 ho (by kernel_rfl) (by subst hV; rfl))).trans rfl) ?_
      go_simp
      go_at_call 16
      refine (cl29 _ hW1).mono ?_
      rintro ex w2 ⟨rfl, hW2⟩
      subst hV
      first | refine ⟨undef, rfl, ?_⟩ | refine ⟨⟨undef, rfl⟩, ?_⟩
      simpa [updB, upd, f1.out, f19.out, f24.out] using hW2
  · have hW1 : PW (dx 1) (dx 19) (dx 24) (dx 29)  wx := hW
    rw [hd 1 (by decide), hd 19 (by decide), hd 24 (by decide), hd 29 (by decide)] at hW1
    have hQ := h _ hW1
    rw [hsz]
    subst hV hT
    refine cast (congrArg (fun Tx => Q .normal ⟨Tx, ds⟩ wx) ?_) hQ
    kernel_rfl
end Go.Proofs.YtpggkfdijmnmiaaGreat.Pl
namespace Go.Proofs.YtpggkfdijmnmiaaGreat
open Go.RowKit Limbs
theorem nv1 : nv 1 = .agg #[.int .u64 1, .int .u64 0, .int .u64 0, .int .u64 0] := rfl
theorem nv0 : nv 0 = .agg #[.int .u64 0, .int .u64 0, .int .u64 0, .int .u64 0] := rfl
theorem hp1 : ∀ w, Calls Tryz.prog 11 #[.agg #[.int .u64 1, .int .u64 0, .int .u64 0, .int .u64 0]] w fun e w' => e = .returned (.tuple #[G.v, .int .i64 0]) ∧ Below w.heap.size w w' := fun w => by
  have h := public_yes 1 (by decide) w
  rw [pub_one, nv1] at h
  exact h
theorem hp0 : ∀ w, Calls Tryz.prog 11 #[.agg #[.int .u64 0, .int .u64 0, .int .u64 0, .int .u64 0]] w fun e w' => e = .returned (.tuple #[.agg #[.int .u64 0, .int .u64 0, .int .u64 0, .int .u64 0, .int .u64 0, .int .u64 0, .int .u64 0, .int .u64 0, .bool false], .int .i64 80]) ∧ Below w.heap.size w w' := fun w => by
  have h := public_no 0 (by decide) (by decide) w
  rw [nv0] at h
  exact h
theorem hsn : ∀ w, Calls Tryz.prog 14 #[nv mN, .string ⟨#[]⟩] w fun e w' => e = .returned (.tuple #[.string ⟨#[]⟩, .int .i64 80]) ∧ Below w.heap.size w w' := fun w => sign_no mN (by decide) (fun h => Nat.lt_irrefl _ h.2) _ w
theorem hmd : ∀ w, Calls Tryz.prog 47 #[.int .i64 1] w fun e w' => e = .returned (nv mN) ∧ Below w.heap.size w w' := fun w => by
  have h := mod_any 1 w
  rw [show md 1 = mN by unfold md; rw [if_neg (by decide)]] at h
  exact h
theorem find_a (g : Nat) : findK [(g, [97])] (kidOf [97]) = some g := by rw [findK, if_pos rfl]
theorem find_ab (g : Nat) : findK [(g, [97])] (kidOf [98]) = none := by rw [findK, if_neg kid_ab]; rfl
theorem find_b (g q : Nat) : findK [(g, [97]), (q, [98])] (kidOf [98]) = some q := by rw [findK, if_neg kid_ab, findK, if_pos rfl]
theorem find_no (g q : Nat) : findK [(g, [97]), (q, [98])] [] = none := by rw [findK, if_neg kid_a, findK, if_neg kid_b]; rfl
def g9 : Array Value := #[.int .u64 17627433388654248598, .int .u64 8575836109218198432, .int .u64 17923454489921339634, .int .u64 7716867327612699207, .int .u64 14678990851816772085, .int .u64 3156516839386865358, .int .u64 10297457778147434006, .int .u64 5756518291402817435, .bool false]
set_option maxHeartbeats 16000000 in
theorem fixed_any (w : World) : Calls Tryz.prog 13 #[] w fun e w' => e = .returned (.bool true) ∧ Below w.heap.size w w' := by
  have H1 := Lib.hid hp1
  have H0 := Lib.hid hp0
  have HS := Lib.hid hsn
  have HM := Lib.hid hmd
  rw [vG] at H1
  simp only [nv, num] at HS HM
  go_enter Tryz.func13, Tryz.ntmps13
  go_wp2_with fail
  refine (H1.out _).mono ?_
  rintro e w1 ⟨rfl, hb1⟩
  go_wp2_with fail
  have KG : Bk 26 (w1.alloc (.cells g9 26)) w1.heap.size g9 := Bk.new rfl
  have hbA : Below w.heap.size w (w1.alloc (.cells g9 26)) := by
    have hs := hb1.size
    go_grown
  unfold g9 at KG hbA
  generalize w1.heap.size = gp at KG ⊢
  generalize (w1.alloc (.cells #[.int .u64 17627433388654248598, .int .u64 8575836109218198432, .int .u64 17923454489921339634, .int .u64 7716867327612699207, .int .u64 14678990851816772085, .int .u64 3156516839386865358, .int .u64 10297457778147434006, .int .u64 5756518291402817435, .bool false] 26)) = wA at KG hbA ⊢
  clear hb1
  refine (H0.out wA).mono ?_
  rintro e w2 ⟨rfl, hb2⟩
  have KG2 := Lib.hid (KG.below hb2)
  have HB2 := Lib.hid (bthen hbA hb2)
  clear KG hbA hb2
  go_wp2_with fail
  refine (HM.out _).mono ?_
  rintro e w3 ⟨rfl, hb3⟩
  go_wp2_with fail
  refine (HS.out _).mono ?_
  rintro e w4 ⟨rfl, hb4⟩
  have hbz : Below w2.heap.size w2 w3 := Below.trans (show Below w2.heap.size w2 (w2.alloc _) by go_grown) (hb3.mono (by simp))
  have KG4 := Lib.hid ((KG2.out.below hbz).below hb4)
  have HB4 := Lib.hid (bthen (bthen HB2.out hbz) hb4)
  clear KG2 HB2 hbz hb3 hb4 H1 H0 HS HM
  have hnr := newRing_any [97] (by decide) w4
  have HNR := Lib.hid hnr
  clear hnr
  go_wp2_with fail
  refine HNR.out.mono ?_
  rintro e w5 ⟨r, g, rfl, hrg, hb5, hr5⟩
  have HG5 := Lib.hid hrg
  have HB5 := Lib.hid hb5
  have HR5 := Lib.hid hr5
  have htt : Calls Tryz.prog 22 #[.pointer (some ⟨r, 0, none⟩), .string ⟨#[97]⟩] w5 fun e w' => e = .returned (.int .i64 80) ∧ Below w5.heap.size w5 w' := turn_there hrg (by simp) [97] (by decide) g (find_a g)
  have HTT := Lib.hid htt
  clear htt hrg hb5 hr5 HNR
  unfold kpt
  go_wp2_with fail
  refine HTT.out.mono ?_
  rintro e w6 ⟨rfl, hb6⟩
  have HG6 := Lib.hid (HG5.out.below hb6)
  have HB6 := Lib.hid (bthen HB5.out hb6)
  have htn : Calls Tryz.prog 22 #[.pointer (some ⟨r, 0, none⟩), .string ⟨#[98]⟩] w6 fun e w' => e = .returned (.int .i64 0) ∧ ∃ q, Rg w4.heap.size w' r ([(g, [97])] ++ [(q, [98])]) ∧ Below w4.heap.size w6 w' := turn_new HG6.out HB6.out.size HR5.out (by simp) [98] (by decide) (find_ab g)
  have HTN := Lib.hid htn
  clear htn hb6 HTT HG5 HB5
  go_wp2_with fail
  refine HTN.out.mono ?_
  rintro e w7 ⟨rfl, q, hrg, hb7⟩
  have HG7 := Lib.hid hrg
  have HB7 := Lib.hid (HB6.out.trans hb7)
  have hki : Calls Tryz.prog 31 #[.pointer (some ⟨r, 0, none⟩)] w7 fun e w' => ∃ v, e = .returned v ∧ w'.ownsRow w7.heap.size 9 1 v 2 [kidV (g, [97]), kidV (q, [98])] ∧ Below w7.heap.size w7 w' := kids_any hrg (by simp) (by simp)
  have HKI := Lib.hid hki
  clear hki hrg hb7 HTN HG6 HB6
  go_wp2_with fail
  refine HKI.out.mono ?_
  rintro e w8 ⟨v, rfl, ho, hb8⟩
  obtain ⟨a8, c8, rfl⟩ := own_slice (n := 1) ho
  have HG8 := Lib.hid (HG7.out.below hb8)
  have HB8 := Lib.hid (bthen HB7.out hb8)
  have hmc : Calls Tryz.prog 24 #[.pointer (some ⟨r, 0, none⟩), .string ⟨#[115]⟩] w8 fun e w' => e = .returned (.tuple #[.string ⟨(kidOf [98]).toArray⟩, .string ⟨(Hs.macL (macOf [98]) [115]).toArray⟩]) ∧ Below w8.heap.size w8 w' := rmac_any (ks := [(g, [97])]) (k := (q, [98])) HG8.out (by simp) (show ([98] : List UInt8).length ≤ 140737488351232 by decide) [115] (by decide)
  have HMC := Lib.hid hmc
  clear hmc ho hb8 HKI HG7 HB7
  go_wp2_with fail
  refine HMC.out.mono ?_
  rintro e w9 ⟨rfl, hb9⟩
  have HG9 := Lib.hid (HG8.out.below hb9)
  have HB9 := Lib.hid (bthen HB8.out hb9)
  obtain ⟨mc, hmc⟩ : ∃ m, m = Hs.macL (macOf [98]) [115] := ⟨_, rfl⟩
  have HMC2 := Lib.hid hmc
  rw [← hmc]
  clear hmc hb9 HMC HG8 HB8
  obtain ⟨kd, hkd⟩ : ∃ m, m = kidOf [98] := ⟨_, rfl⟩
  have HKD := Lib.hid hkd
  rw [← hkd]
  clear hkd
  go_wp2_with fail
  refine Pl.tF (fun _ _ _ _ w' => Below w9.heap.size w9 w') gp r ⟨kd.toArray⟩ ⟨mc.toArray⟩ w9 ?c1 ?c19 ?c24 ?c29 ?lk ?hq ?w0 ?h
  case c1 =>
    intro w1 h
    refine (kBase w1).mono ?_
    rintro e w2 ⟨rfl, hb⟩
    exact ⟨rfl, bthen h hb⟩
  case c19 =>
    intro w1 h
    have := vouch_some (HG9.out.below h) (by simp) kd [115] mc (by decide) (by rw [HMC2.out, macL_len]; decide) (q, [98]) (by simp) (by rw [HKD.out]; exact find_b g q)
    refine this.mono ?_
    rintro e w2 ⟨rfl, hb⟩
    exact ⟨by rw [HMC2.out]; simp, bthen h hb⟩
  case c24 =>
    intro w1 h
    refine (vouch_none (HG9.out.below h) (by simp) [] ⟨#[115]⟩ ⟨mc.toArray⟩ (find_no g q)).mono ?_
    rintro e w2 ⟨rfl, hb⟩
    exact ⟨rfl, bthen h hb⟩
  case c29 =>
    intro w1 h
    have := verify_empty G.x G.y G.i ⟨#[]⟩ w1
    rw [show pn G.x G.y G.i = G.v from rfl, vG] at this
    refine this.mono ?_
    rintro e w2 ⟨rfl, hb⟩
    exact ⟨rfl, bthen h hb⟩
  case lk =>
    intro b1 b19 b24 b29 w1 h
    obtain ⟨⟨d0, d1, d2, d3⟩, ⟨d4, d5, d6, d7⟩, d8⟩ := (KG4.out.below (bthen HB9.out h)).cells9
    exact ⟨d0, d1, d2, d3, d4, d5, d6, d7, d8⟩
  case hq =>
    intro w1
    have := eqP G.x G.y G.x G.y G.i G.i G_ok.1 G_ok.2 G_ok.1 G_ok.2 w1
    rw [show pn G.x G.y G.i = G.v from rfl, vG] at this
    rw [this]
    simp
  case w0 => exact ⟨rfl, rfl, rfl, Nat.le_refl _, fun _ _ => rfl⟩
  case h =>
  intro w1 h
  go_wp2_with fail
  go_returns
  exact ⟨rfl, bthen (bthen HB4.out HB9.out) h⟩
end Go.Proofs.YtpggkfdijmnmiaaGreat
namespace Go.Proofs.YtpggkfdijmnmiaaGreat.Hs
open Go.RowKit
def bitAt (l : List UInt8) (k : Nat) : Nat := (l.getD (k / 8) 0).toNat / 2 ^ (7 - k % 8) % 2
def vb (f : Nat → Nat) (k : Nat) : Nat → Nat
  | 0 => 0
  | n + 1 => 2 * vb f k n + f (k + n)
theorem vb_succ (f : Nat → Nat) (k n : Nat) : vb f k (n + 1) = 2 * vb f k n + f (k + n) := rfl
theorem bitAt_le (l : List UInt8) (k : Nat) : bitAt l k ≤ 1 := by unfold bitAt; omega
theorem vb_lt (f : Nat → Nat) (hf : ∀ k, f k ≤ 1) (k n : Nat) : vb f k n < 2 ^ n := by
  induction n with
  | zero => simp [vb]
  | succ n ih => have := hf (k + n); rw [vb, Nat.pow_succ]; omega
theorem getD_at (s : ByteArray) (q : Nat) (h : q < s.size) : s.data.toList.getD q 0 = s[q] := by
  rw [List.getD_eq_getElem?_getD, List.getElem?_eq_getElem (by simpa using h)]; rfl
theorem getD_no (s : ByteArray) (q : Nat) (h : s.size ≤ q) : s.data.toList.getD q 0 = 0 := by
  rw [List.getD_eq_getElem?_getD, List.getElem?_eq_none (by simpa using h)]; rfl
theorem bitAt_at (s : ByteArray) (k q j : Nat) (h : k / 8 = q) (hj : k % 8 = j) (hq : q < s.size) : bitAt s.data.toList k = s[q].toNat / 2 ^ (7 - j) % 2 := by
  subst h; subst hj
  rw [bitAt, getD_at s _ hq]
set_option maxHeartbeats 2000000 in
set_option maxRecDepth 100000 in
theorem bit_any (s : ByteArray) (k : Nat) (w : World) (hs : s.size ≤ 67108864) (hk : k ≤ 1073741824) :
    Calls Tryz.prog 91 #[.string s, .int .i64 k] w fun e w' => e = .returned (.int .i64 (bitAt s.data.toList k)) ∧ w = w' := by
  by_cases h : 8 * s.size ≤ k
  · have hB : bitAt s.data.toList k = 0 := by rw [bitAt, getD_no s _ (by omega)]; simp
    have HB := Lib.hid hB
    clear hB
    go_enter Tryz.func91, Tryz.ntmps91
    go_wp2
    go_ret
    exact ⟨by rw [HB.out]; rfl, rfl⟩
  · obtain ⟨q, j, hlt, hd, hm, hj8, HB⟩ : ∃ q j : Nat, ∃ h : q < s.size, (k : Int) / 8 = (q : Int) ∧ (k : Int) % 8 = (j : Int) ∧ j < 8 ∧ Hid (bitAt s.data.toList k = s[q].toNat / 2 ^ (7 - j) % 2) :=
      ⟨k / 8, k % 8, by omega, by omega, by omega, by omega, bitAt_at s k _ _ rfl rfl (by omega)⟩
    have h8 := s[q].toNat_lt
    obtain rfl | rfl | rfl | rfl | rfl | rfl | rfl | rfl : j = 0 ∨ j = 1 ∨ j = 2 ∨ j = 3 ∨ j = 4 ∨ j = 5 ∨ j = 6 ∨ j = 7 := by omega
    · have ham : bits BinOp.and IntKind.i64 ((s[q].toNat : Int) / 128) 1 = ((s[q].toNat : Int) / 128) % 2 := and_int 1 _ _ (by omega) rfl (by omega) (by omega)
      go_enter Tryz.func91, Tryz.ntmps91
      go_wp2
      go_ret
      exact ⟨ret_int (by rw [HB.out]; simp), rfl⟩
    · have ham : bits BinOp.and IntKind.i64 ((s[q].toNat : Int) / 64) 1 = ((s[q].toNat : Int) / 64) % 2 := and_int 1 _ _ (by omega) rfl (by omega) (by omega)
      go_enter Tryz.func91, Tryz.ntmps91
      go_wp2
      go_ret
      exact ⟨ret_int (by rw [HB.out]; simp), rfl⟩
    · have ham : bits BinOp.and IntKind.i64 ((s[q].toNat : Int) / 32) 1 = ((s[q].toNat : Int) / 32) % 2 := and_int 1 _ _ (by omega) rfl (by omega) (by omega)
      go_enter Tryz.func91, Tryz.ntmps91
      go_wp2
      go_ret
      exact ⟨ret_int (by rw [HB.out]; simp), rfl⟩
    · have ham : bits BinOp.and IntKind.i64 ((s[q].toNat : Int) / 16) 1 = ((s[q].toNat : Int) / 16) % 2 := and_int 1 _ _ (by omega) rfl (by omega) (by omega)
      go_enter Tryz.func91, Tryz.ntmps91
      go_wp2
      go_ret
      exact ⟨ret_int (by rw [HB.out]; simp), rfl⟩
    · have ham : bits BinOp.and IntKind.i64 ((s[q].toNat : Int) / 8) 1 = ((s[q].toNat : Int) / 8) % 2 := and_int 1 _ _ (by omega) rfl (by omega) (by omega)
      go_enter Tryz.func91, Tryz.ntmps91
      go_wp2
      go_ret
      exact ⟨ret_int (by rw [HB.out]; simp), rfl⟩
    · have ham : bits BinOp.and IntKind.i64 ((s[q].toNat : Int) / 4) 1 = ((s[q].toNat : Int) / 4) % 2 := and_int 1 _ _ (by omega) rfl (by omega) (by omega)
      go_enter Tryz.func91, Tryz.ntmps91
      go_wp2
      go_ret
      exact ⟨ret_int (by rw [HB.out]; simp), rfl⟩
    · have ham : bits BinOp.and IntKind.i64 ((s[q].toNat : Int) / 2) 1 = ((s[q].toNat : Int) / 2) % 2 := and_int 1 _ _ (by omega) rfl (by omega) (by omega)
      go_enter Tryz.func91, Tryz.ntmps91
      go_wp2
      go_ret
      exact ⟨ret_int (by rw [HB.out]; simp), rfl⟩
    · have ham : bits BinOp.and IntKind.i64 ((s[q].toNat : Int)) 1 = ((s[q].toNat : Int)) % 2 := and_int 1 _ _ (by omega) rfl (by omega) (by omega)
      go_enter Tryz.func91, Tryz.ntmps91
      go_wp2
      go_ret
      exact ⟨ret_int (by rw [HB.out]; simp), rfl⟩
theorem bit_add (s : ByteArray) (k m : Nat) (w : World) (hs : s.size ≤ 67108864) (hk : k + m ≤ 1073741824) :
    Calls Tryz.prog 91 #[.string s, .int .i64 ((k : Int) + (m : Int))] w fun e w' => e = .returned (.int .i64 (bitAt s.data.toList (k + m))) ∧ w = w' := bit_any s (k + m) w hs hk
def chr (l : List UInt8) (q : Nat) : UInt8 := six (vb (bitAt l) (6 * q) 6)
def r64 (l : List UInt8) : List UInt8 := (List.range ((8 * l.length + 5) / 6)).map (chr l)
set_option maxHeartbeats 2000000 in
set_option maxRecDepth 100000 in
theorem rbase64_any (s : ByteArray) (w : World) (hs : s.size ≤ 2097152) :
    Calls Tryz.prog 40 #[.string s] w fun e w' => e = .returned (.string ⟨(r64 s.data.toList).toArray⟩) ∧ Below w.heap.size w w' := by
  go_enter Tryz.func40, Tryz.ntmps40
  go_wp2
  go_loopw [3, 4] (fun v i wr => ∃ q : Nat, 6 * q ≤ 8 * s.size + 5 ∧ i = .int .i64 (6 * q : Nat) ∧ Rw w.heap.size v ((List.range q).map (chr s.data.toList)) wr ∧ Below w.heap.size w wr) (fun _ i _ => 8 * s.size + 6 - (intOf i).toNat)
  case atStart => exact ⟨0, by omega, rfl, Rw.start w, (Below.refl _ _).alloc (Nat.le_refl _) _⟩
  case round =>
    obtain ⟨q, hq, rfl, hI, hb⟩ := hrel
    obtain ⟨k, hk⟩ : ∃ k, 6 * q = k := ⟨_, rfl⟩
    rw [hk]
    have HK := Lib.hid hk
    clear hk
    obtain ⟨wo, rfl⟩ : ∃ wo : World, wo = wr := ⟨_, rfl⟩
    by_cases hlt : k < 8 * s.size
    · have hlt' : (k : Int) < 8 * (s.size : Int) := by omega
      go_wp2_with (fail)
      go_loop [5, 6] (fun n j => ∃ m : Nat, m ≤ 6 ∧ j = .int .i64 m ∧ n = .int .i64 (vb (bitAt s.data.toList) k m)) (fun _ j => 6 - (intOf j).toNat)
      case atStart => exact ⟨0, by omega, rfl, rfl⟩
      case round =>
        obtain ⟨m, hm, rfl, rfl⟩ := hrel
        have hv := vb_lt (bitAt s.data.toList) (bitAt_le _) k m
        have hv2 : 2 ^ m ≤ 2 ^ 6 := Nat.pow_le_pow_right (by omega) hm
        have hv3 : vb (bitAt s.data.toList) k m ≤ 64 := by omega
        have hbl := bitAt_le s.data.toList (k + m)
        clear hv hv2
        by_cases hlm : m < 6
        · go_wp2_with (go_at_call 91; refine (bit_add _ _ _ _ (by omega) (by omega)).mono ?_; rintro e w' ⟨rfl, rfl⟩)
          go_round
          case rel => exact ⟨m + 1, by omega, by go_num, by rw [vb_succ]; go_num⟩
          case measure => simp [intOf]; omega
        · obtain rfl : m = 6 := by omega
          have hc : six (vb (bitAt s.data.toList) k 6) = chr s.data.toList q := by rw [chr, HK.out]
          have HC := Lib.hid hc
          have hv4 : vb (bitAt s.data.toList) k 6 < 64 := vb_lt (bitAt s.data.toList) (bitAt_le _) k 6
          clear hc
          have hl3 : ((List.range q).map (chr s.data.toList)).length ≤ 281474976710 := by simp; omega
          have hcast : ((({ data := #[65, 66, 67, 68, 69, 70, 71, 72, 73, 74, 75, 76, 77, 78, 79, 80, 81, 82, 83, 84, 85, 86, 87, 88, 89, 90, 97, 98, 99, 100, 101, 102, 103, 104, 105, 106, 107, 108, 109, 110, 111, 112, 113, 114, 115, 116, 117, 118, 119, 120, 121, 122, 48, 49, 50, 51, 52, 53, 54, 55, 56, 57, 45, 95] } : ByteArray)[vb (bitAt s.data.toList) k 6]'hv4).toNat : Int) = ((chr s.data.toList q).toNat : Int) := by rw [six_at _ hv4, HC.out]
          have HX := Lib.hid hcast
          clear hcast
          go_wp2_with (at_builtin; refine app1 _ (chr s.data.toList q) HX.out _ _ rfl rfl rfl rfl hI hb (Nat.le_refl _) hl3 ?_)
          intro v3 w3 h3 hb3
          go_wp2
          go_roundw
          case rel =>
            refine ⟨q + 1, by have := HK.out; omega, ?_, by rw [List.range_succ, List.map_append]; exact h3, hb3⟩
            have := HK.out
            congr 1; omega
          case measure => simp [intOf]; omega
    · have hcv := hI.conv
      have hn : q = (8 * s.data.toList.length + 5) / 6 := by have := HK.out; simp; omega
      have HN := Lib.hid hn
      clear hn
      go_wp2
      go_ret
      refine ⟨?_, hb⟩
      rw [r64, ← HN.out]
      rfl
end Go.Proofs.YtpggkfdijmnmiaaGreat.Hs
namespace Go.Proofs.YtpggkfdijmnmiaaGreat.Hs
open Go.RowKit
theorem bitAt_shift (a b c : UInt8) (l : List UInt8) (k : Nat) : bitAt (a :: b :: c :: l) (k + 24) = bitAt l k := by
  have e1 : (k + 24) / 8 = k / 8 + 1 + 1 + 1 := by omega
  have e2 : (k + 24) % 8 = k % 8 := by omega
  simp only [bitAt, e1, e2, List.getD_cons_succ]
theorem vb_shift {f g : Nat → Nat} {d : Nat} (h : ∀ k, f (k + d) = g k) (k : Nat) : ∀ n, vb f (k + d) n = vb g k n
  | 0 => rfl
  | n + 1 => by
    rw [vb_succ, vb_succ, vb_shift h k n]
    have e : k + d + n = k + n + d := by omega
    rw [e, h]
theorem chr_shift (a b c : UInt8) (l : List UInt8) (q : Nat) : chr (a :: b :: c :: l) (4 + q) = chr l q := by
  have e : 6 * (4 + q) = 6 * q + 24 := by omega
  rw [chr, e, vb_shift (bitAt_shift a b c l), chr]
theorem chr0 (a : UInt8) (l : List UInt8) : vb (bitAt (a :: l)) 0 6 = a.toNat / 4 := by
  have := a.toNat_lt
  simp only [vb, bitAt]
  simp
  omega
theorem chr1 (a b : UInt8) (l : List UInt8) : vb (bitAt (a :: b :: l)) 6 6 = a.toNat % 4 * 16 + b.toNat / 16 := by
  have := a.toNat_lt
  have := b.toNat_lt
  simp only [vb, bitAt]
  simp
  omega
theorem chr1' (a : UInt8) : vb (bitAt [a]) 6 6 = a.toNat % 4 * 16 := by
  have := a.toNat_lt
  simp only [vb, bitAt]
  simp
  omega
theorem chr2 (a b c : UInt8) (l : List UInt8) : vb (bitAt (a :: b :: c :: l)) 12 6 = b.toNat % 16 * 4 + c.toNat / 64 := by
  have := b.toNat_lt
  have := c.toNat_lt
  simp only [vb, bitAt]
  simp
  omega
theorem chr2' (a b : UInt8) : vb (bitAt [a, b]) 12 6 = b.toNat % 16 * 4 := by
  have := b.toNat_lt
  simp only [vb, bitAt]
  simp
  omega
theorem chr3 (a b c : UInt8) (l : List UInt8) : vb (bitAt (a :: b :: c :: l)) 18 6 = c.toNat % 64 := by
  have := c.toNat_lt
  simp only [vb, bitAt]
  simp
  omega
theorem q2 (x y : Nat) : (x % 4 * 256 + y) / 16 = x % 4 * 16 + y / 16 := by omega
theorem q3a (x y : Nat) : (x % 4 * 256 + y) % 16 = y % 16 := by omega
theorem q3 (y z : Nat) : (y % 16 * 256 + z) / 64 = y % 16 * 4 + z / 64 := by omega
theorem q4 (y z : Nat) : (y % 16 * 256 + z) % 64 = z % 64 := by omega
theorem enc3 (a b c : UInt8) (l : List UInt8) : enc 0 0 (a :: b :: c :: l) = six (a.toNat / 4) :: six (a.toNat % 4 * 16 + b.toNat / 16) :: six (b.toNat % 16 * 4 + c.toNat / 64) :: six (c.toNat % 64) :: enc 0 0 l := by
  show six ((0 * 256 + a.toNat) / 4) :: six (((0 * 256 + a.toNat) % 4 * 256 + b.toNat) / 16) :: six ((((0 * 256 + a.toNat) % 4 * 256 + b.toNat) % 16 * 256 + c.toNat) / 64) :: six ((((0 * 256 + a.toNat) % 4 * 256 + b.toNat) % 16 * 256 + c.toNat) % 64 / 1) :: enc ((((0 * 256 + a.toNat) % 4 * 256 + b.toNat) % 16 * 256 + c.toNat) % 64 % 1) 0 l = _
  rw [Nat.zero_mul, Nat.zero_add, q2, q3a, q3, q4, Nat.div_one, Nat.mod_one]
theorem enc2 (a b : UInt8) : enc 0 0 [a, b] = [six (a.toNat / 4), six (a.toNat % 4 * 16 + b.toNat / 16), six (b.toNat % 16 * 4)] := by
  show [six ((0 * 256 + a.toNat) / 4), six (((0 * 256 + a.toNat) % 4 * 256 + b.toNat) / 16), six (((0 * 256 + a.toNat) % 4 * 256 + b.toNat) % 16 * 4)] = _
  rw [Nat.zero_mul, Nat.zero_add, q2, q3a]
theorem enc1 (a : UInt8) : enc 0 0 [a] = [six (a.toNat / 4), six (a.toNat % 4 * 16)] := by
  show [six ((0 * 256 + a.toNat) / 4), six ((0 * 256 + a.toNat) % 4 * 16)] = _
  rw [Nat.zero_mul, Nat.zero_add]
theorem r64_eq : ∀ l : List UInt8, r64 l = b64L l
  | [] => rfl
  | [a] => by
    have h : r64 [a] = [chr [a] 0, chr [a] 1] := by
      rw [r64, show (8 * [a].length + 5) / 6 = 2 by simp]; rfl
    rw [h, b64L, enc1, chr, chr, show 6 * 0 = 0 from rfl, show 6 * 1 = 6 from rfl, chr0, chr1']
  | [a, b] => by
    have h : r64 [a, b] = [chr [a, b] 0, chr [a, b] 1, chr [a, b] 2] := by
      rw [r64, show (8 * [a, b].length + 5) / 6 = 3 by simp]; rfl
    rw [h, b64L, enc2, chr, chr, chr, show 6 * 0 = 0 from rfl, show 6 * 1 = 6 from rfl, show 6 * 2 = 12 from rfl, chr0, chr1, chr2']
  | a :: b :: c :: l => by
    have ih := r64_eq l
    rw [b64L] at ih ⊢
    rw [enc3, ← ih, r64]
    have e : (8 * (a :: b :: c :: l).length + 5) / 6 = 4 + (8 * l.length + 5) / 6 := by simp; omega
    rw [e, List.range_add, List.map_append, List.map_map]
    have e2 : (chr (a :: b :: c :: l) ∘ fun x => 4 + x) = chr l := by funext q; exact chr_shift a b c l q
    rw [e2]
    show [chr (a :: b :: c :: l) 0, chr (a :: b :: c :: l) 1, chr (a :: b :: c :: l) 2, chr (a :: b :: c :: l) 3] ++ r64 l = _
    rw [chr, chr, chr, chr, show 6 * 0 = 0 from rfl, show 6 * 1 = 6 from rfl, show 6 * 2 = 12 from rfl, show 6 * 3 = 18 from rfl, chr0, chr1, chr2, chr3]
    rfl
end Go.Proofs.YtpggkfdijmnmiaaGreat.Hs
namespace Go.Proofs.YtpggkfdijmnmiaaGreat
open Go.RowKit Limbs
set_option maxHeartbeats 16000000 in
theorem names_walk (s t : List UInt8) (hs : s.length ≤ 140737488351232) (ht : t.length ≤ 140737488351232) (w : World) : Calls Tryz.prog 10 #[.string ⟨s.toArray⟩, .string ⟨t.toArray⟩] w fun e w' => e = .returned (.bool true) ∧ Below w.heap.size w w' := by
  have HNR := Lib.hid (newRing_any s hs w)
  have HFX := Lib.hid fixed_any
  have HM1 := Lib.hid (fun w => Hs.Mac_any [107, 105, 100] s (by decide) (by omega) w)
  have HM2 := Lib.hid (fun w => Hs.Mac_any [109, 97, 99] s (by decide) (by omega) w)
  have HM3 := Lib.hid (fun w => Hs.Mac_any (macOf s) t (by rw [show (macOf s).length = 32 from macL_len _ _]; decide) (by omega) w)
  have hl1 := macL_len [107, 105, 100] s
  have HB64 : Hid (∀ w, Calls Tryz.prog 40 #[.string ⟨((Hs.macL [107, 105, 100] s).take 9).toArray⟩] w fun e w' => e = .returned (.string ⟨(kidOf s).toArray⟩) ∧ Below w.heap.size w w') := Lib.hid fun w => by
    have h := Hs.rbase64_any ⟨((Hs.macL [107, 105, 100] s).take 9).toArray⟩ w (by show ((Hs.macL [107, 105, 100] s).take 9).toArray.size ≤ _; simp [macL_len])
    rw [Hs.r64_eq] at h
    exact h
  have HLS := Lib.hid (And.intro hs ht)
  clear hs ht
  go_enter Tryz.func10, Tryz.ntmps10
  go_wp2_with fail
  refine HNR.out.mono ?_
  rintro e w1 ⟨r, g, rfl, hrg, hb1, -⟩
  have HG1 := Lib.hid hrg
  have HB1 := Lib.hid hb1
  clear hrg hb1 HNR
  unfold kpt
  go_wp2_with fail
  refine (HFX.out _).mono ?_
  rintro e w2 ⟨rfl, hb2⟩
  have HG2 := Lib.hid (HG1.out.below hb2)
  have HB2 := Lib.hid (bthen HB1.out hb2)
  have hmc : Calls Tryz.prog 24 #[.pointer (some ⟨r, 0, none⟩), .string ⟨t.toArray⟩] w2 fun e w' => e = .returned (.tuple #[.string ⟨(kidOf s).toArray⟩, .string ⟨(Hs.macL (macOf s) t).toArray⟩]) ∧ Below w2.heap.size w2 w' := rmac_any (ks := []) (k := (g, s)) HG2.out (by simp) HLS.out.1 t HLS.out.2
  have HMC := Lib.hid hmc
  clear hmc hb2 HG1 HB1 HFX
  go_wp2_with fail
  refine HMC.out.mono ?_
  rintro e w3 ⟨rfl, hb3⟩
  have HG3 := Lib.hid (HG2.out.below hb3)
  have HB3 := Lib.hid (bthen HB2.out hb3)
  have hki : Calls Tryz.prog 31 #[.pointer (some ⟨r, 0, none⟩)] w3 fun e w' => ∃ v, e = .returned v ∧ w'.ownsRow w3.heap.size 9 1 v 1 [kidV (g, s)] ∧ Below w3.heap.size w3 w' := kids_any HG3.out (by simp) (by simp)
  have HKI := Lib.hid hki
  clear hki hb3 HMC HG2 HB2
  go_wp2_with fail
  refine HKI.out.mono ?_
  rintro e w4 ⟨v, rfl, ho, hb4⟩
  obtain ⟨a8, c8, rfl⟩ := own_slice (n := 0) ho
  have HB4 := Lib.hid (bthen HB3.out hb4)
  have HO := Lib.hid ho
  clear ho hb4 HKI HG3 HB3
  go_wp2_with fail
  refine (HM1.out _).mono ?_
  rintro e w5 ⟨rfl, hb5⟩
  have ho5 := own_below HO.out hb5
  have HB5 := Lib.hid (bthen HB4.out hb5)
  have c0 : w5.cell? ⟨a8, 0, none⟩ = some (.string ⟨(kidOf s).toArray⟩) := by
    have := ho5.cells (g := a8) rfl 0 (kidV (g, s)) rfl
    simpa [Addr.add, kidV] using this
  clear ho5 hb5 HB4 HO
  go_wp2_with fail
  rw [ba_take]
  refine (HB64.out _).mono ?_
  rintro e w6 ⟨rfl, hb6⟩
  have HB6 := Lib.hid (bthen HB5.out hb6)
  clear hb6 HB5
  go_wp2_with fail
  refine (HM2.out _).mono ?_
  rintro e w7 ⟨rfl, hb7⟩
  have HB7 := Lib.hid (bthen HB6.out hb7)
  clear hb7 HB6
  go_wp2_with fail
  refine (HM3.out _).mono ?_
  rintro e w8 ⟨rfl, hb8⟩
  go_wp2_with fail
  go_returns
  exact ⟨by simp, bthen HB7.out hb8⟩
end Go.Proofs.YtpggkfdijmnmiaaGreat
