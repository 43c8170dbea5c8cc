/- Drawn regions of Append: the text is laid behind the file, and the row gets a piece. No condition. -/
import Derived.Test.YtmoihgniglomiaaDoorZd03
set_option linter.unusedVariables false
set_option linter.unusedSimpArgs false
set_option maxRecDepth 100000
namespace Go.Proofs.YtmoihgniglomiaaDoor
open Go.RowKit Go.Sort
noncomputable def rA0O : Array Oper := (Tryd.f75.body.bind fun c => findR c 4).getD #[]
def rA0_m : List (List Nat) := [[], [], [], [], [], [], [], [], [], [], [], [], []]
def rA0_a : List (List Nat) := [[], [], [], [], [2], [2, 4], [2, 3, 4, 5], [2, 3, 4, 5, 6], [2, 3, 4, 5, 6, 7], [], [2, 3, 4, 5, 6, 7, 8, 9], [0], [0, 11], [0, 1, 2, 3, 4, 5, 6, 7, 8, 9, 10, 11, 12], [0, 1, 2, 3, 4, 5, 6, 7, 8, 9, 10, 11, 12, 13], [0, 1, 2, 3, 4, 5, 6, 7, 8, 9, 10, 11, 12, 13, 14]]
set_option maxHeartbeats 16000000 in
theorem rA0 (b3 b4 b5 b g n c : Nat) (s : ByteArray) (R : World → Value → Prop) (w : World)  (c0 : w.cell? ⟨b3, 0, none⟩ = some (.pointer (some ⟨b, 0, none⟩))) (rc0 : Hid (∀ w1 v, R w1 v → w1.cell? ⟨b3, 0, none⟩ = some (.pointer (some ⟨b, 0, none⟩)))) (c1 : w.cell? ⟨b4, 0, none⟩ = some (.int .i64 0)) (rc1 : Hid (∀ w1 v, R w1 v → w1.cell? ⟨b4, 0, none⟩ = some (.int .i64 0))) (c2 : w.cell? ⟨b, 0, none⟩ = some (.slice (some ⟨g, 0, none⟩) n c)) (rc2 : Hid (∀ w1 v, R w1 v → w1.cell? ⟨b, 0, none⟩ = some (.slice (some ⟨g, 0, none⟩) n c))) (c3 : w.cell? ⟨b5, 0, none⟩ = some (.string s)) (rc3 : Hid (∀ w1 v, R w1 v → w1.cell? ⟨b5, 0, none⟩ = some (.string s))) (hE : Hid (∃ v1 w1, (Builtin.append_ #[80, 9] 80 #[.slice (some ⟨g, 0, none⟩) n c, .string s]).run Tryd.prog w.drew = .ok v1 w1 ∧ R w1 v1)) {t0 t1 t2 t6 t7 t8 t9 t10 t11 t12 t13 t14 t15 t16 t17 t18 t19 t20 t21 t22 t23 t24 t25 t26 t27 t28 t29 t30 t31 t32 t33 t34 t35 t36 t37 t38 t39 t40 t41 t42 : Value} {ds : List Deferred} {Q : Exit → Act → World → Prop}
    (h : ∀ (yE : Value) (w1 : World), R w1 yE → wpList Tryd.prog rA0O Q (rA0O.toList.drop 13) { tmps := #[t0, t1, t2, .pointer (some ⟨b3, 0, none⟩), .pointer (some ⟨b4, 0, none⟩), .pointer (some ⟨b5, 0, none⟩), t6, t7, t8, t9, t10, t11, t12, t13, .pointer (some ⟨b, 0, none⟩), .int .i64 0, .pointer (some ⟨b, 0, none⟩), .int .i64 0, .pointer (some ⟨b, 0, none⟩), .pointer (some ⟨b, 0, none⟩), .pointer (some ⟨b, 0, none⟩), .pointer (some ⟨b, 0, none⟩), .slice (some ⟨g, 0, none⟩) n c, .string s, yE, .pointer (some ⟨b, 0, none⟩), .pointer (some ⟨b, 0, none⟩), t27, t28, t29, t30, t31, t32, t33, t34, t35, t36, t37, t38, t39, t40, t41, t42], defers := ds } w1) :
    (Code.region 4 rA0O true).wp Tryd.prog Q { tmps := #[t0, t1, t2, .pointer (some ⟨b3, 0, none⟩), .pointer (some ⟨b4, 0, none⟩), .pointer (some ⟨b5, 0, none⟩), t6, t7, t8, t9, t10, t11, t12, t13, t14, t15, t16, t17, t18, t19, t20, t21, t22, t23, t24, t25, t26, t27, t28, t29, t30, t31, t32, t33, t34, t35, t36, t37, t38, t39, t40, t41, t42], defers := ds } w := by
  have hsz : rA0O.size = 16 := by kernel_rfl
  generalize hT : List.toArray _ = T0
  have hs : T0.size = 43 := by subst hT; rfl
  have w0 := RW.zero w R t24
  have g3 : T0.getD 3 undef = .pointer (some ⟨b3, 0, none⟩) := by subst hT; rfl
  have g4 : T0.getD 4 undef = .pointer (some ⟨b4, 0, none⟩) := by subst hT; rfl
  have g5 : T0.getD 5 undef = .pointer (some ⟨b5, 0, none⟩) := by subst hT; rfl
  obtain ⟨W, hV⟩ : ∃ W : List ((Nat × (Value → Value)) ⊕ Value), W = [.inr (.pointer (some ⟨b, 0, none⟩)), .inr (.int .i64 0), .inr (.pointer (some ⟨b, 0, none⟩)), .inr (.int .i64 0), .inr (.pointer (some ⟨b, 0, none⟩)), .inr (.pointer (some ⟨b, 0, none⟩)), .inr (.pointer (some ⟨b, 0, none⟩)), .inr (.pointer (some ⟨b, 0, none⟩)), .inr (.slice (some ⟨g, 0, none⟩) n c), .inr (.string s), .inl (10, id), .inr (.pointer (some ⟨b, 0, none⟩)), .inr (.pointer (some ⟨b, 0, none⟩))] := ⟨_, rfl⟩
  refine wp_planT (by kernel_rfl) T0 ds 13 rA0_a [10] rA0_m (mkV W) (fun dx yx wx => RW w R (dx 10) (yx 10) wx) w (by rw [hs]; kernel_rfl) (by kernel_rfl) (by kernel_rfl) (by kernel_rfl) (by rw [hsz]; decide) (by rw [hsz]; decide) (by kernel_rfl) (by decide) (fun cx hc ix hne ha yx vx => mkV_fix (by rw [hV]; kernel_rfl) hne ha yx vx) (?key) (fun cx hc ox ho dx yx Tx wx hd hdb hda hK hW => ?_) ⟨fun k => if k = 10 then t24 else undef, w0⟩ (fun dx yx wx hd hW => ?_)
  case key =>
    refine all_step (all_step (all_step (all_step (all_step (all_step (all_step (all_step (all_step (all_step (all_step (all_step (all_step all_zero ?_) ?_) ?_) ?_) ?_) ?_) ?_) ?_) ?_) ?_) ?_) ?_) ?_
    all_goals
      intro ox ho hic dx yx Tx wx hdb hK hW
      replace hdb := Lib.hid hdb
    · exact pl0 14 3 27 ho hK (by kernel_rfl) (by kernel_rfl) g3 (by subst hV; rfl) fun ps af e => k_ld27 (RW.cell hW c0 rc0) e
    · exact pl0 15 4 3 ho hK (by kernel_rfl) (by kernel_rfl) g4 (by subst hV; rfl) fun ps af e => k_ld3 (RW.cell hW c1 rc1) e
    · exact pl0 16 3 27 ho hK (by kernel_rfl) (by kernel_rfl) g3 (by subst hV; rfl) fun ps af e => k_ld27 (RW.cell hW c0 rc0) e
    · exact pl0 17 4 3 ho hK (by kernel_rfl) (by kernel_rfl) g4 (by subst hV; rfl) fun ps af e => k_ld3 (RW.cell hW c1 rc1) e
    · exact pl1 18 16 2 0 ho hK (by kernel_rfl) (by kernel_rfl) (by subst hV; rfl) (by subst hV; rfl) fun ps af e => k_nc e
    · exact pl1 19 18 4 0 ho hK (by kernel_rfl) (by kernel_rfl) (by subst hV; rfl) (by subst hV; rfl) fun ps af e => k_fa93_0 e
    · obtain ⟨ps, af, rfl⟩ := core (some 20) (.indexAddr 88 (.tmp 19) (.tmp 17)) 0 none ho (by kernel_rfl)
      have e19 : Tx.getD 19 undef = .pointer (some ⟨b, 0, none⟩) := hK.is 5 ho (by kernel_rfl) (by subst hV; rfl)
      have e17 : Tx.getD 17 undef = .int .i64 0 := hK.is 3 ho (by kernel_rfl) (by subst hV; rfl)
      exact wpOp_plain ho rfl (by subst hV; go_simp; try rfl)
    · exact pl1 21 20 6 0 ho hK (by kernel_rfl) (by kernel_rfl) (by subst hV; rfl) (by subst hV; rfl) fun ps af e => k_fa87_0 e
    · exact pl1 22 21 7 80 ho hK (by kernel_rfl) (by kernel_rfl) (by subst hV; rfl) (by subst hV; rfl) fun ps af e => k_ld80 (RW.cell hW c2 rc2) e
    · exact pl0 23 5 9 ho hK (by kernel_rfl) (by kernel_rfl) g5 (by subst hV; rfl) fun ps af e => k_ld9 (RW.cell hW c3 rc3) e
    · exact absurd (by decide) hic
    · exact pl1 25 14 0 0 ho hK (by kernel_rfl) (by kernel_rfl) (by subst hV; rfl) (by subst hV; rfl) fun ps af e => k_nc e
    · exact pl1 26 25 11 0 ho hK (by kernel_rfl) (by kernel_rfl) (by subst hV; rfl) (by subst hV; rfl) fun ps af e => k_fa93_0 e
  · obtain rfl : cx = 10 := by simpa using hc
    · obtain ⟨ps, af, rfl⟩ := core (some 24) (.call { callee := .builtin Builtin.append, args := #[.tmp 22, .tmp 23], argTypes := #[80, 9] }) 80 none ho (by kernel_rfl)
      have e22 : Tx.getD 22 undef = .slice (some ⟨g, 0, none⟩) n c := hK.is 8 ho (by kernel_rfl) (by subst hV; rfl)
      have e23 : Tx.getD 23 undef = .string s := hK.is 9 ho (by kernel_rfl) (by subst hV; rfl)
      have hW1 : RW w R (dx 10) (yx 10) wx := hW
      clear hdb hda
      rw [hd] at hW1
      clear hd hW hc
      obtain ⟨vx, w2, hrun, hW2⟩ := RW.run hE  hW1
      subst hV
      refine wpOp_plain ho rfl (wp_append_runE _ _ _ _ rfl _ _ (by first | exact e22 | rfl) (by first | exact e23 | rfl) vx w2 hrun ⟨vx, rfl, ?_⟩)
      simpa [updB, upd] using hW2
  · have hW1 : RW w R (dx 10) (yx 10) wx := hW
    rw [hd 10 (by decide)] at hW1
    have hQ := h _ _ (hW1.2 rfl)
    subst hV hT
    refine cast (congrArg (fun Tx => wpList Tryd.prog rA0O Q (rA0O.toList.drop 13) ⟨Tx, ds⟩ wx) ?_) hQ
    kernel_rfl
noncomputable def rB0O : Array Oper := (Tryd.f75.body.bind fun c => findR c 5).getD #[]
def rB0_m : List (List Nat) := [[], [], [], [], [], [], [], [], [], []]
def rB0_a : List (List Nat) := [[], [], [1], [1, 2], [1, 2, 3], [], [], [6], [5, 6, 7], [1, 2, 3, 4, 5, 6, 7, 8], [0, 1, 2, 3, 4, 5, 6, 7, 8, 9], [0, 1, 2, 3, 4, 5, 6, 7, 8, 9, 10], [0, 1, 2, 3, 4, 5, 6, 7, 8, 9, 10, 11]]
set_option maxHeartbeats 16000000 in
theorem rB0 (b3 b4 b5 b : Nat) (ra : Option Addr) (rn rc : Nat) (s : ByteArray) (R : World → Value → Prop) (w : World)  (c0 : w.cell? ⟨b3, 0, none⟩ = some (.pointer (some ⟨b, 0, none⟩))) (rc0 : Hid (∀ w1 v, R w1 v → w1.cell? ⟨b3, 0, none⟩ = some (.pointer (some ⟨b, 0, none⟩)))) (c1 : w.cell? ⟨b, 4, none⟩ = some (.slice ra rn rc)) (rc1 : Hid (∀ w1 v, R w1 v → w1.cell? ⟨b, 4, none⟩ = some (.slice ra rn rc))) (c2 : w.cell? ⟨b4, 0, none⟩ = some (.int .i64 0)) (rc2 : Hid (∀ w1 v, R w1 v → w1.cell? ⟨b4, 0, none⟩ = some (.int .i64 0))) (c3 : w.cell? ⟨b5, 0, none⟩ = some (.string s)) (rc3 : Hid (∀ w1 v, R w1 v → w1.cell? ⟨b5, 0, none⟩ = some (.string s))) (hE : Hid (Calls Tryd.prog 97 #[.slice ra rn rc, .agg #[.int .i64 0, .int .i64 (s.size : Int)]] w.drew fun e w1 => ∃ v, e = .returned v ∧ R w1 v)) {t0 t1 t2 t6 t7 t8 t9 t10 t11 t12 t13 t14 t15 t16 t17 t18 t19 t20 t21 t22 t23 t24 t25 t26 t27 t28 t29 t30 t31 t32 t33 t34 t35 t36 t37 t38 t39 t40 t41 t42 : Value} {ds : List Deferred} {Q : Exit → Act → World → Prop}
    (h : ∀ (yE : Value) (w1 : World), R w1 yE → wpList Tryd.prog rB0O Q (rB0O.toList.drop 10) { tmps := #[t0, t1, t2, .pointer (some ⟨b3, 0, none⟩), .pointer (some ⟨b4, 0, none⟩), .pointer (some ⟨b5, 0, none⟩), t6, t7, t8, t9, t10, t11, t12, t13, t14, t15, t16, t17, t18, t19, t20, t21, t22, t23, t24, t25, t26, t27, t28, .pointer (some ⟨b, 0, none⟩), .pointer (some ⟨b, 0, none⟩), .pointer (some ⟨b, 0, none⟩), .pointer (some ⟨b, 4, none⟩), .slice ra rn rc, .int .i64 0, .string s, .int .i64 (s.size : Int), .agg #[.int .i64 0, .int .i64 (s.size : Int)], yE, t39, t40, t41, t42], defers := ds } w1) :
    (Code.region 5 rB0O true).wp Tryd.prog Q { tmps := #[t0, t1, t2, .pointer (some ⟨b3, 0, none⟩), .pointer (some ⟨b4, 0, none⟩), .pointer (some ⟨b5, 0, none⟩), t6, t7, t8, t9, t10, t11, t12, t13, t14, t15, t16, t17, t18, t19, t20, t21, t22, t23, t24, t25, t26, t27, t28, t29, t30, t31, t32, t33, t34, t35, t36, t37, t38, t39, t40, t41, t42], defers := ds } w := by
  have hsz : rB0O.size = 13 := by kernel_rfl
  generalize hT : List.toArray _ = T0
  have hs : T0.size = 43 := by subst hT; rfl
  have w0 := RW.zero w R t38
  have g3 : T0.getD 3 undef = .pointer (some ⟨b3, 0, none⟩) := by subst hT; rfl
  have g4 : T0.getD 4 undef = .pointer (some ⟨b4, 0, none⟩) := by subst hT; rfl
  have g5 : T0.getD 5 undef = .pointer (some ⟨b5, 0, none⟩) := by subst hT; rfl
  obtain ⟨W, hV⟩ : ∃ W : List ((Nat × (Value → Value)) ⊕ Value), W = [.inr (.pointer (some ⟨b, 0, none⟩)), .inr (.pointer (some ⟨b, 0, none⟩)), .inr (.pointer (some ⟨b, 0, none⟩)), .inr (.pointer (some ⟨b, 4, none⟩)), .inr (.slice ra rn rc), .inr (.int .i64 0), .inr (.string s), .inr (.int .i64 (s.size : Int)), .inr (.agg #[.int .i64 0, .int .i64 (s.size : Int)]), .inl (9, id)] := ⟨_, rfl⟩
  refine wp_planT (by kernel_rfl) T0 ds 10 rB0_a [9] rB0_m (mkV W) (fun dx yx wx => RW w R (dx 9) (yx 9) wx) w (by rw [hs]; kernel_rfl) (by kernel_rfl) (by kernel_rfl) (by kernel_rfl) (by rw [hsz]; decide) (by rw [hsz]; decide) (by kernel_rfl) (by decide) (fun cx hc ix hne ha yx vx => mkV_fix (by rw [hV]; kernel_rfl) hne ha yx vx) (?key) (fun cx hc ox ho dx yx Tx wx hd hdb hda hK hW => ?_) ⟨fun k => if k = 9 then t38 else undef, w0⟩ (fun dx yx wx hd hW => ?_)
  case key =>
    refine all_step (all_step (all_step (all_step (all_step (all_step (all_step (all_step (all_step (all_step all_zero ?_) ?_) ?_) ?_) ?_) ?_) ?_) ?_) ?_) ?_
    all_goals
      intro ox ho hic dx yx Tx wx hdb hK hW
      replace hdb := Lib.hid hdb
    · exact pl0 29 3 27 ho hK (by kernel_rfl) (by kernel_rfl) g3 (by subst hV; rfl) fun ps af e => k_ld27 (RW.cell hW c0 rc0) e
    · exact pl0 30 3 27 ho hK (by kernel_rfl) (by kernel_rfl) g3 (by subst hV; rfl) fun ps af e => k_ld27 (RW.cell hW c0 rc0) e
    · exact pl1 31 30 1 0 ho hK (by kernel_rfl) (by kernel_rfl) (by subst hV; rfl) (by subst hV; rfl) fun ps af e => k_nc e
    · exact pl1 32 31 2 0 ho hK (by kernel_rfl) (by kernel_rfl) (by subst hV; rfl) (by subst hV; rfl) fun ps af e => k_fa93_1 e
    · exact pl1 33 32 3 89 ho hK (by kernel_rfl) (by kernel_rfl) (by subst hV; rfl) (by subst hV; rfl) fun ps af e => k_ld89 (RW.cell hW c1 rc1) e
    · exact pl0 34 4 3 ho hK (by kernel_rfl) (by kernel_rfl) g4 (by subst hV; rfl) fun ps af e => k_ld3 (RW.cell hW c2 rc2) e
    · exact pl0 35 5 9 ho hK (by kernel_rfl) (by kernel_rfl) g5 (by subst hV; rfl) fun ps af e => k_ld9 (RW.cell hW c3 rc3) e
    · obtain ⟨ps, af, rfl⟩ := core (some 36) (.call { callee := .builtin Builtin.len, args := #[.tmp 35], argTypes := #[9] }) 3 none ho (by kernel_rfl)
      have e35 : Tx.getD 35 undef = .string s := hK.is 6 ho (by kernel_rfl) (by subst hV; rfl)
      exact wpOp_plain ho rfl (by subst hV; go_simp; try rfl)
    · obtain ⟨ps, af, rfl⟩ := core (some 37) (.build 105 #[(0, .tmp 34), (1, .tmp 36)]) 105 none ho (by kernel_rfl)
      have e34 : Tx.getD 34 undef = .int .i64 0 := hK.is 5 ho (by kernel_rfl) (by subst hV; rfl)
      have e36 : Tx.getD 36 undef = .int .i64 (s.size : Int) := hK.is 7 ho (by kernel_rfl) (by subst hV; rfl)
      simp only [Array.getD_eq_getD_getElem?] at e34 e36
      exact wpOp_plain ho rfl (by subst hV; go_simp; try rfl)
    · exact absurd (by decide) hic
  · obtain rfl : cx = 9 := by simpa using hc
    · obtain ⟨ps, af, rfl⟩ := core (some 38) (.call { callee := .value (.func 97), args := #[.tmp 33, .tmp 37], argTypes := #[89, 105] }) 89 none ho (by kernel_rfl)
      have e33 : Tx.getD 33 undef = .slice ra rn rc := hK.is 4 ho (by kernel_rfl) (by subst hV; rfl)
      have e37 : Tx.getD 37 undef = .agg #[.int .i64 0, .int .i64 (s.size : Int)] := hK.is 8 ho (by kernel_rfl) (by subst hV; rfl)
      have hW1 : RW w R (dx 9) (yx 9) wx := hW
      clear hdb hda
      rw [hd] at hW1
      clear hd hW hc
      refine wpOp_plain ho rfl ?_
      go_simp
      go_at_call 97
      refine (RW.call hE  hW1).mono ?_
      rintro ex w2 ⟨vx, rfl, hW2⟩
      subst hV
      refine ⟨vx, rfl, ?_⟩
      simpa [updB, upd] using hW2
  · have hW1 : RW w R (dx 9) (yx 9) wx := hW
    rw [hd 9 (by decide)] at hW1
    have hQ := h _ _ (hW1.2 rfl)
    subst hV hT
    refine cast (congrArg (fun Tx => wpList Tryd.prog rB0O Q (rB0O.toList.drop 10) ⟨Tx, ds⟩ wx) ?_) hQ
    kernel_rfl
noncomputable def rA1O : Array Oper := (Tryd.f75.body.bind fun c => findR c 4).getD #[]
def rA1_m : List (List Nat) := [[], [], [], [], [], [], [], [], [], [], [], [], []]
def rA1_a : List (List Nat) := [[], [], [], [], [2], [2, 4], [2, 3, 4, 5], [2, 3, 4, 5, 6], [2, 3, 4, 5, 6, 7], [], [2, 3, 4, 5, 6, 7, 8, 9], [0], [0, 11], [0, 1, 2, 3, 4, 5, 6, 7, 8, 9, 10, 11, 12], [0, 1, 2, 3, 4, 5, 6, 7, 8, 9, 10, 11, 12, 13], [0, 1, 2, 3, 4, 5, 6, 7, 8, 9, 10, 11, 12, 13, 14]]
set_option maxHeartbeats 16000000 in
theorem rA1 (b3 b4 b5 b g n c : Nat) (s : ByteArray) (R : World → Value → Prop) (w : World)  (c0 : w.cell? ⟨b3, 0, none⟩ = some (.pointer (some ⟨b, 0, none⟩))) (rc0 : Hid (∀ w1 v, R w1 v → w1.cell? ⟨b3, 0, none⟩ = some (.pointer (some ⟨b, 0, none⟩)))) (c1 : w.cell? ⟨b4, 0, none⟩ = some (.int .i64 1)) (rc1 : Hid (∀ w1 v, R w1 v → w1.cell? ⟨b4, 0, none⟩ = some (.int .i64 1))) (c2 : w.cell? ⟨b, 2, none⟩ = some (.slice (some ⟨g, 0, none⟩) n c)) (rc2 : Hid (∀ w1 v, R w1 v → w1.cell? ⟨b, 2, none⟩ = some (.slice (some ⟨g, 0, none⟩) n c))) (c3 : w.cell? ⟨b5, 0, none⟩ = some (.string s)) (rc3 : Hid (∀ w1 v, R w1 v → w1.cell? ⟨b5, 0, none⟩ = some (.string s))) (hE : Hid (∃ v1 w1, (Builtin.append_ #[80, 9] 80 #[.slice (some ⟨g, 0, none⟩) n c, .string s]).run Tryd.prog w.drew = .ok v1 w1 ∧ R w1 v1)) {t0 t1 t2 t6 t7 t8 t9 t10 t11 t12 t13 t14 t15 t16 t17 t18 t19 t20 t21 t22 t23 t24 t25 t26 t27 t28 t29 t30 t31 t32 t33 t34 t35 t36 t37 t38 t39 t40 t41 t42 : Value} {ds : List Deferred} {Q : Exit → Act → World → Prop}
    (h : ∀ (yE : Value) (w1 : World), R w1 yE → wpList Tryd.prog rA1O Q (rA1O.toList.drop 13) { tmps := #[t0, t1, t2, .pointer (some ⟨b3, 0, none⟩), .pointer (some ⟨b4, 0, none⟩), .pointer (some ⟨b5, 0, none⟩), t6, t7, t8, t9, t10, t11, t12, t13, .pointer (some ⟨b, 0, none⟩), .int .i64 1, .pointer (some ⟨b, 0, none⟩), .int .i64 1, .pointer (some ⟨b, 0, none⟩), .pointer (some ⟨b, 0, none⟩), .pointer (some ⟨b, 2, none⟩), .pointer (some ⟨b, 2, none⟩), .slice (some ⟨g, 0, none⟩) n c, .string s, yE, .pointer (some ⟨b, 0, none⟩), .pointer (some ⟨b, 0, none⟩), t27, t28, t29, t30, t31, t32, t33, t34, t35, t36, t37, t38, t39, t40, t41, t42], defers := ds } w1) :
    (Code.region 4 rA1O true).wp Tryd.prog Q { tmps := #[t0, t1, t2, .pointer (some ⟨b3, 0, none⟩), .pointer (some ⟨b4, 0, none⟩), .pointer (some ⟨b5, 0, none⟩), t6, t7, t8, t9, t10, t11, t12, t13, t14, t15, t16, t17, t18, t19, t20, t21, t22, t23, t24, t25, t26, t27, t28, t29, t30, t31, t32, t33, t34, t35, t36, t37, t38, t39, t40, t41, t42], defers := ds } w := by
  have hsz : rA1O.size = 16 := by kernel_rfl
  generalize hT : List.toArray _ = T0
  have hs : T0.size = 43 := by subst hT; rfl
  have w0 := RW.zero w R t24
  have g3 : T0.getD 3 undef = .pointer (some ⟨b3, 0, none⟩) := by subst hT; rfl
  have g4 : T0.getD 4 undef = .pointer (some ⟨b4, 0, none⟩) := by subst hT; rfl
  have g5 : T0.getD 5 undef = .pointer (some ⟨b5, 0, none⟩) := by subst hT; rfl
  obtain ⟨W, hV⟩ : ∃ W : List ((Nat × (Value → Value)) ⊕ Value), W = [.inr (.pointer (some ⟨b, 0, none⟩)), .inr (.int .i64 1), .inr (.pointer (some ⟨b, 0, none⟩)), .inr (.int .i64 1), .inr (.pointer (some ⟨b, 0, none⟩)), .inr (.pointer (some ⟨b, 0, none⟩)), .inr (.pointer (some ⟨b, 2, none⟩)), .inr (.pointer (some ⟨b, 2, none⟩)), .inr (.slice (some ⟨g, 0, none⟩) n c), .inr (.string s), .inl (10, id), .inr (.pointer (some ⟨b, 0, none⟩)), .inr (.pointer (some ⟨b, 0, none⟩))] := ⟨_, rfl⟩
  refine wp_planT (by kernel_rfl) T0 ds 13 rA1_a [10] rA1_m (mkV W) (fun dx yx wx => RW w R (dx 10) (yx 10) wx) w (by rw [hs]; kernel_rfl) (by kernel_rfl) (by kernel_rfl) (by kernel_rfl) (by rw [hsz]; decide) (by rw [hsz]; decide) (by kernel_rfl) (by decide) (fun cx hc ix hne ha yx vx => mkV_fix (by rw [hV]; kernel_rfl) hne ha yx vx) (?key) (fun cx hc ox ho dx yx Tx wx hd hdb hda hK hW => ?_) ⟨fun k => if k = 10 then t24 else undef, w0⟩ (fun dx yx wx hd hW => ?_)
  case key =>
    refine all_step (all_step (all_step (all_step (all_step (all_step (all_step (all_step (all_step (all_step (all_step (all_step (all_step all_zero ?_) ?_) ?_) ?_) ?_) ?_) ?_) ?_) ?_) ?_) ?_) ?_) ?_
    all_goals
      intro ox ho hic dx yx Tx wx hdb hK hW
      replace hdb := Lib.hid hdb
    · exact pl0 14 3 27 ho hK (by kernel_rfl) (by kernel_rfl) g3 (by subst hV; rfl) fun ps af e => k_ld27 (RW.cell hW c0 rc0) e
    · exact pl0 15 4 3 ho hK (by kernel_rfl) (by kernel_rfl) g4 (by subst hV; rfl) fun ps af e => k_ld3 (RW.cell hW c1 rc1) e
    · exact pl0 16 3 27 ho hK (by kernel_rfl) (by kernel_rfl) g3 (by subst hV; rfl) fun ps af e => k_ld27 (RW.cell hW c0 rc0) e
    · exact pl0 17 4 3 ho hK (by kernel_rfl) (by kernel_rfl) g4 (by subst hV; rfl) fun ps af e => k_ld3 (RW.cell hW c1 rc1) e
    · exact pl1 18 16 2 0 ho hK (by kernel_rfl) (by kernel_rfl) (by subst hV; rfl) (by subst hV; rfl) fun ps af e => k_nc e
    · exact pl1 19 18 4 0 ho hK (by kernel_rfl) (by kernel_rfl) (by subst hV; rfl) (by subst hV; rfl) fun ps af e => k_fa93_0 e
    · obtain ⟨ps, af, rfl⟩ := core (some 20) (.indexAddr 88 (.tmp 19) (.tmp 17)) 0 none ho (by kernel_rfl)
      have e19 : Tx.getD 19 undef = .pointer (some ⟨b, 0, none⟩) := hK.is 5 ho (by kernel_rfl) (by subst hV; rfl)
      have e17 : Tx.getD 17 undef = .int .i64 1 := hK.is 3 ho (by kernel_rfl) (by subst hV; rfl)
      exact wpOp_plain ho rfl (by subst hV; go_simp; try rfl)
    · exact pl1 21 20 6 0 ho hK (by kernel_rfl) (by kernel_rfl) (by subst hV; rfl) (by subst hV; rfl) fun ps af e => k_fa87_0_2 e
    · exact pl1 22 21 7 80 ho hK (by kernel_rfl) (by kernel_rfl) (by subst hV; rfl) (by subst hV; rfl) fun ps af e => k_ld80 (RW.cell hW c2 rc2) e
    · exact pl0 23 5 9 ho hK (by kernel_rfl) (by kernel_rfl) g5 (by subst hV; rfl) fun ps af e => k_ld9 (RW.cell hW c3 rc3) e
    · exact absurd (by decide) hic
    · exact pl1 25 14 0 0 ho hK (by kernel_rfl) (by kernel_rfl) (by subst hV; rfl) (by subst hV; rfl) fun ps af e => k_nc e
    · exact pl1 26 25 11 0 ho hK (by kernel_rfl) (by kernel_rfl) (by subst hV; rfl) (by subst hV; rfl) fun ps af e => k_fa93_0 e
  · obtain rfl : cx = 10 := by simpa using hc
    · obtain ⟨ps, af, rfl⟩ := core (some 24) (.call { callee := .builtin Builtin.append, args := #[.tmp 22, .tmp 23], argTypes := #[80, 9] }) 80 none ho (by kernel_rfl)
      have e22 : Tx.getD 22 undef = .slice (some ⟨g, 0, none⟩) n c := hK.is 8 ho (by kernel_rfl) (by subst hV; rfl)
      have e23 : Tx.getD 23 undef = .string s := hK.is 9 ho (by kernel_rfl) (by subst hV; rfl)
      have hW1 : RW w R (dx 10) (yx 10) wx := hW
      clear hdb hda
      rw [hd] at hW1
      clear hd hW hc
      obtain ⟨vx, w2, hrun, hW2⟩ := RW.run hE  hW1
      subst hV
      refine wpOp_plain ho rfl (wp_append_runE _ _ _ _ rfl _ _ (by first | exact e22 | rfl) (by first | exact e23 | rfl) vx w2 hrun ⟨vx, rfl, ?_⟩)
      simpa [updB, upd] using hW2
  · have hW1 : RW w R (dx 10) (yx 10) wx := hW
    rw [hd 10 (by decide)] at hW1
    have hQ := h _ _ (hW1.2 rfl)
    subst hV hT
    refine cast (congrArg (fun Tx => wpList Tryd.prog rA1O Q (rA1O.toList.drop 13) ⟨Tx, ds⟩ wx) ?_) hQ
    kernel_rfl
noncomputable def rB1O : Array Oper := (Tryd.f75.body.bind fun c => findR c 5).getD #[]
def rB1_m : List (List Nat) := [[], [], [], [], [], [], [], [], [], []]
def rB1_a : List (List Nat) := [[], [], [1], [1, 2], [1, 2, 3], [], [], [6], [5, 6, 7], [1, 2, 3, 4, 5, 6, 7, 8], [0, 1, 2, 3, 4, 5, 6, 7, 8, 9], [0, 1, 2, 3, 4, 5, 6, 7, 8, 9, 10], [0, 1, 2, 3, 4, 5, 6, 7, 8, 9, 10, 11]]
set_option maxHeartbeats 16000000 in
theorem rB1 (b3 b4 b5 b : Nat) (ra : Option Addr) (rn rc : Nat) (s : ByteArray) (R : World → Value → Prop) (w : World)  (c0 : w.cell? ⟨b3, 0, none⟩ = some (.pointer (some ⟨b, 0, none⟩))) (rc0 : Hid (∀ w1 v, R w1 v → w1.cell? ⟨b3, 0, none⟩ = some (.pointer (some ⟨b, 0, none⟩)))) (c1 : w.cell? ⟨b, 4, none⟩ = some (.slice ra rn rc)) (rc1 : Hid (∀ w1 v, R w1 v → w1.cell? ⟨b, 4, none⟩ = some (.slice ra rn rc))) (c2 : w.cell? ⟨b4, 0, none⟩ = some (.int .i64 1)) (rc2 : Hid (∀ w1 v, R w1 v → w1.cell? ⟨b4, 0, none⟩ = some (.int .i64 1))) (c3 : w.cell? ⟨b5, 0, none⟩ = some (.string s)) (rc3 : Hid (∀ w1 v, R w1 v → w1.cell? ⟨b5, 0, none⟩ = some (.string s))) (hE : Hid (Calls Tryd.prog 97 #[.slice ra rn rc, .agg #[.int .i64 1, .int .i64 (s.size : Int)]] w.drew fun e w1 => ∃ v, e = .returned v ∧ R w1 v)) {t0 t1 t2 t6 t7 t8 t9 t10 t11 t12 t13 t14 t15 t16 t17 t18 t19 t20 t21 t22 t23 t24 t25 t26 t27 t28 t29 t30 t31 t32 t33 t34 t35 t36 t37 t38 t39 t40 t41 t42 : Value} {ds : List Deferred} {Q : Exit → Act → World → Prop}
    (h : ∀ (yE : Value) (w1 : World), R w1 yE → wpList Tryd.prog rB1O Q (rB1O.toList.drop 10) { tmps := #[t0, t1, t2, .pointer (some ⟨b3, 0, none⟩), .pointer (some ⟨b4, 0, none⟩), .pointer (some ⟨b5, 0, none⟩), t6, t7, t8, t9, t10, t11, t12, t13, t14, t15, t16, t17, t18, t19, t20, t21, t22, t23, t24, t25, t26, t27, t28, .pointer (some ⟨b, 0, none⟩), .pointer (some ⟨b, 0, none⟩), .pointer (some ⟨b, 0, none⟩), .pointer (some ⟨b, 4, none⟩), .slice ra rn rc, .int .i64 1, .string s, .int .i64 (s.size : Int), .agg #[.int .i64 1, .int .i64 (s.size : Int)], yE, t39, t40, t41, t42], defers := ds } w1) :
    (Code.region 5 rB1O true).wp Tryd.prog Q { tmps := #[t0, t1, t2, .pointer (some ⟨b3, 0, none⟩), .pointer (some ⟨b4, 0, none⟩), .pointer (some ⟨b5, 0, none⟩), t6, t7, t8, t9, t10, t11, t12, t13, t14, t15, t16, t17, t18, t19, t20, t21, t22, t23, t24, t25, t26, t27, t28, t29, t30, t31, t32, t33, t34, t35, t36, t37, t38, t39, t40, t41, t42], defers := ds } w := by
  have hsz : rB1O.size = 13 := by kernel_rfl
  generalize hT : List.toArray _ = T0
  have hs : T0.size = 43 := by subst hT; rfl
  have w0 := RW.zero w R t38
  have g3 : T0.getD 3 undef = .pointer (some ⟨b3, 0, none⟩) := by subst hT; rfl
  have g4 : T0.getD 4 undef = .pointer (some ⟨b4, 0, none⟩) := by subst hT; rfl
  have g5 : T0.getD 5 undef = .pointer (some ⟨b5, 0, none⟩) := by subst hT; rfl
  obtain ⟨W, hV⟩ : ∃ W : List ((Nat × (Value → Value)) ⊕ Value), W = [.inr (.pointer (some ⟨b, 0, none⟩)), .inr (.pointer (some ⟨b, 0, none⟩)), .inr (.pointer (some ⟨b, 0, none⟩)), .inr (.pointer (some ⟨b, 4, none⟩)), .inr (.slice ra rn rc), .inr (.int .i64 1), .inr (.string s), .inr (.int .i64 (s.size : Int)), .inr (.agg #[.int .i64 1, .int .i64 (s.size : Int)]), .inl (9, id)] := ⟨_, rfl⟩
  refine wp_planT (by kernel_rfl) T0 ds 10 rB1_a [9] rB1_m (mkV W) (fun dx yx wx => RW w R (dx 9) (yx 9) wx) w (by rw [hs]; kernel_rfl) (by kernel_rfl) (by kernel_rfl) (by kernel_rfl) (by rw [hsz]; decide) (by rw [hsz]; decide) (by kernel_rfl) (by decide) (fun cx hc ix hne ha yx vx => mkV_fix (by rw [hV]; kernel_rfl) hne ha yx vx) (?key) (fun cx hc ox ho dx yx Tx wx hd hdb hda hK hW => ?_) ⟨fun k => if k = 9 then t38 else undef, w0⟩ (fun dx yx wx hd hW => ?_)
  case key =>
    refine all_step (all_step (all_step (all_step (all_step (all_step (all_step (all_step (all_step (all_step all_zero ?_) ?_) ?_) ?_) ?_) ?_) ?_) ?_) ?_) ?_
    all_goals
      intro ox ho hic dx yx Tx wx hdb hK hW
      replace hdb := Lib.hid hdb
    · exact pl0 29 3 27 ho hK (by kernel_rfl) (by kernel_rfl) g3 (by subst hV; rfl) fun ps af e => k_ld27 (RW.cell hW c0 rc0) e
    · exact pl0 30 3 27 ho hK (by kernel_rfl) (by kernel_rfl) g3 (by subst hV; rfl) fun ps af e => k_ld27 (RW.cell hW c0 rc0) e
    · exact pl1 31 30 1 0 ho hK (by kernel_rfl) (by kernel_rfl) (by subst hV; rfl) (by subst hV; rfl) fun ps af e => k_nc e
    · exact pl1 32 31 2 0 ho hK (by kernel_rfl) (by kernel_rfl) (by subst hV; rfl) (by subst hV; rfl) fun ps af e => k_fa93_1 e
    · exact pl1 33 32 3 89 ho hK (by kernel_rfl) (by kernel_rfl) (by subst hV; rfl) (by subst hV; rfl) fun ps af e => k_ld89 (RW.cell hW c1 rc1) e
    · exact pl0 34 4 3 ho hK (by kernel_rfl) (by kernel_rfl) g4 (by subst hV; rfl) fun ps af e => k_ld3 (RW.cell hW c2 rc2) e
    · exact pl0 35 5 9 ho hK (by kernel_rfl) (by kernel_rfl) g5 (by subst hV; rfl) fun ps af e => k_ld9 (RW.cell hW c3 rc3) e
    · obtain ⟨ps, af, rfl⟩ := core (some 36) (.call { callee := .builtin Builtin.len, args := #[.tmp 35], argTypes := #[9] }) 3 none ho (by kernel_rfl)
      have e35 : Tx.getD 35 undef = .string s := hK.is 6 ho (by kernel_rfl) (by subst hV; rfl)
      exact wpOp_plain ho rfl (by subst hV; go_simp; try rfl)
    · obtain ⟨ps, af, rfl⟩ := core (some 37) (.build 105 #[(0, .tmp 34), (1, .tmp 36)]) 105 none ho (by kernel_rfl)
      have e34 : Tx.getD 34 undef = .int .i64 1 := hK.is 5 ho (by kernel_rfl) (by subst hV; rfl)
      have e36 : Tx.getD 36 undef = .int .i64 (s.size : Int) := hK.is 7 ho (by kernel_rfl) (by subst hV; rfl)
      simp only [Array.getD_eq_getD_getElem?] at e34 e36
      exact wpOp_plain ho rfl (by subst hV; go_simp; try rfl)
    · exact absurd (by decide) hic
  · obtain rfl : cx = 9 := by simpa using hc
    · obtain ⟨ps, af, rfl⟩ := core (some 38) (.call { callee := .value (.func 97), args := #[.tmp 33, .tmp 37], argTypes := #[89, 105] }) 89 none ho (by kernel_rfl)
      have e33 : Tx.getD 33 undef = .slice ra rn rc := hK.is 4 ho (by kernel_rfl) (by subst hV; rfl)
      have e37 : Tx.getD 37 undef = .agg #[.int .i64 1, .int .i64 (s.size : Int)] := hK.is 8 ho (by kernel_rfl) (by subst hV; rfl)
      have hW1 : RW w R (dx 9) (yx 9) wx := hW
      clear hdb hda
      rw [hd] at hW1
      clear hd hW hc
      refine wpOp_plain ho rfl ?_
      go_simp
      go_at_call 97
      refine (RW.call hE  hW1).mono ?_
      rintro ex w2 ⟨vx, rfl, hW2⟩
      subst hV
      refine ⟨vx, rfl, ?_⟩
      simpa [updB, upd] using hW2
  · have hW1 : RW w R (dx 9) (yx 9) wx := hW
    rw [hd 9 (by decide)] at hW1
    have hQ := h _ _ (hW1.2 rfl)
    subst hV hT
    refine cast (congrArg (fun Tx => wpList Tryd.prog rB1O Q (rB1O.toList.drop 10) ⟨Tx, ds⟩ wx) ?_) hQ
    kernel_rfl
end Go.Proofs.YtmoihgniglomiaaDoor
