/- Drawn regions of Clone. No condition. A clone of a disk. No condition but the disk's own. New disks; an argument that is a slice of texts. Conditions: the texts' lengths. New disks in all ways; remainders; rows of two texts compared. Conditions: that the numbers are int64. A disk behind calls that a log may make (made). Conditions: the texts' lengths. Arguments that are slices of texts, and slices -/
import Derived.Test.YtmoihgniglomiaaDoorZd03
import Derived.Test.YtmoihgniglomiaaDoorZd05
import Derived.Test.YtmoihgniglomiaaDoorRows
import Derived.WalkKit
import Derived.ProofKit
import Derived.OpenShut
import Derived.Deep.DeepHandedRow
import Derived.Deep.DeepWitnessRowRef
import Derived.PinnedBridge
import Derived.Below
import Derived.Lib.SmallJoins
import Derived.SizedLaws
import Derived.ChangeMaps5
import Derived.ShutString
import Derived.Deep.SlicePairs
import Derived.Deep.Strs
import Derived.Carry
set_option linter.unusedVariables false
set_option linter.unusedSimpArgs false
set_option maxRecDepth 100000
namespace Go.Proofs.YtmoihgniglomiaaDoor
open Go.RowKit Go.Sort
noncomputable def rCO : Array Oper := (Tryd.f16.body.bind fun c => findR c 1).getD #[]
def rC_m : List (List Nat) := [[], [], [], [], [], [], [], [], []]
def rC_a : List (List Nat) := [[], [0], [0, 1], [0, 1, 2], [0, 1, 2, 3], [], [5], [5, 6], [5, 6, 7], [0, 1, 2, 3, 4, 5, 6, 7, 8], [0, 1, 2, 3, 4, 5, 6, 7, 8, 9], [0, 1, 2, 3, 4, 5, 6, 7, 8, 9, 10]]
set_option maxHeartbeats 16000000 in
theorem rC (b : Nat) (ra : Option Addr) (rn rc : Nat) (gb : Bool) (i1 i2 : Int) (R : World → Value → Prop) (w : World)  (c0 : w.cell? ⟨b, 4, none⟩ = some (.slice ra rn rc)) (rc0 : Hid (∀ w1 v, R w1 v → w1.cell? ⟨b, 4, none⟩ = some (.slice ra rn rc))) (c1 : w.cell? ⟨b, 5, none⟩ = some (.bool gb)) (rc1 : Hid (∀ w1 v, R w1 v → w1.cell? ⟨b, 5, none⟩ = some (.bool gb))) (c2 : w.cell? ⟨b, 6, none⟩ = some (.int .i64 i1)) (rc2 : Hid (∀ w1 v, R w1 v → w1.cell? ⟨b, 6, none⟩ = some (.int .i64 i1))) (c3 : w.cell? ⟨b, 7, none⟩ = some (.int .i64 i2)) (rc3 : Hid (∀ w1 v, R w1 v → w1.cell? ⟨b, 7, none⟩ = some (.int .i64 i2))) (hE : Hid (Calls Tryd.prog 50 #[.slice ra rn rc] w.drew fun e w1 => ∃ v, e = .returned v ∧ R w1 v)) {t1 t2 t3 t4 t5 t6 t7 t8 t9 t10 t11 t12 t13 t14 t15 t16 t17 t18 t19 t20 t21 t22 t23 t24 t25 t26 t27 t28 t29 t30 t31 t32 t33 t34 t35 t36 t37 : Value} {ds : List Deferred} {Q : Exit → Act → World → Prop}
    (h : ∀ (yE : Value) (w1 : World), R w1 yE → wpList Tryd.prog rCO Q (rCO.toList.drop 9) { tmps := #[.pointer (some ⟨b, 0, none⟩), t1, t2, t3, t4, t5, .pointer (some ⟨b, 0, none⟩), .pointer (some ⟨b, 0, none⟩), .pointer (some ⟨b, 4, none⟩), .slice ra rn rc, yE, .pointer (some ⟨b, 0, none⟩), .pointer (some ⟨b, 0, none⟩), .pointer (some ⟨b, 5, none⟩), .agg #[.bool gb, .int .i64 i1, .int .i64 i2], t15, t16, t17, t18, t19, t20, t21, t22, t23, t24, t25, t26, t27, t28, t29, t30, t31, t32, t33, t34, t35, t36, t37], defers := ds } w1) :
    (Code.region 1 rCO true).wp Tryd.prog Q { tmps := #[.pointer (some ⟨b, 0, none⟩), t1, t2, t3, t4, t5, t6, t7, t8, t9, t10, t11, t12, t13, t14, t15, t16, t17, t18, t19, t20, t21, t22, t23, t24, t25, t26, t27, t28, t29, t30, t31, t32, t33, t34, t35, t36, t37], defers := ds } w := by
  have hsz : rCO.size = 12 := by kernel_rfl
  generalize hT : List.toArray _ = T0
  have hs : T0.size = 38 := by subst hT; rfl
  have w0 := RW.zero w R t10
  have g0 : T0.getD 0 undef = .pointer (some ⟨b, 0, none⟩) := by subst hT; rfl
  obtain ⟨W, hV⟩ : ∃ W : List ((Nat × (Value → Value)) ⊕ Value), W = [.inr (.pointer (some ⟨b, 0, none⟩)), .inr (.pointer (some ⟨b, 0, none⟩)), .inr (.pointer (some ⟨b, 4, none⟩)), .inr (.slice ra rn rc), .inl (4, id), .inr (.pointer (some ⟨b, 0, none⟩)), .inr (.pointer (some ⟨b, 0, none⟩)), .inr (.pointer (some ⟨b, 5, none⟩)), .inr (.agg #[.bool gb, .int .i64 i1, .int .i64 i2])] := ⟨_, rfl⟩
  refine wp_planT (by kernel_rfl) T0 ds 9 rC_a [4] rC_m (mkV W) (fun dx yx wx => RW w R (dx 4) (yx 4) wx) w (by rw [hs]; kernel_rfl) (by kernel_rfl) (by kernel_rfl) (by kernel_rfl) (by rw [hsz]; decide) (by rw [hsz]; decide) (by kernel_rfl) (by decide) (fun cx hc ix hne ha yx vx => mkV_fix (by rw [hV]; kernel_rfl) hne ha yx vx) (?key) (fun cx hc ox ho dx yx Tx wx hd hdb hda hK hW => ?_) ⟨fun k => if k = 4 then t10 else undef, w0⟩ (fun dx yx wx hd hW => ?_)
  case key =>
    refine all_step (all_step (all_step (all_step (all_step (all_step (all_step (all_step (all_step all_zero ?_) ?_) ?_) ?_) ?_) ?_) ?_) ?_) ?_
    all_goals
      intro ox ho hic dx yx Tx wx hdb hK hW
      replace hdb := Lib.hid hdb
    · exact pl0 6 0 27 ho hK (by kernel_rfl) (by kernel_rfl) g0 (by subst hV; rfl) fun ps af e => k_mv e
    · exact pl1 7 6 0 0 ho hK (by kernel_rfl) (by kernel_rfl) (by subst hV; rfl) (by subst hV; rfl) fun ps af e => k_nc e
    · exact pl1 8 7 1 0 ho hK (by kernel_rfl) (by kernel_rfl) (by subst hV; rfl) (by subst hV; rfl) fun ps af e => k_fa93_1 e
    · exact pl1 9 8 2 89 ho hK (by kernel_rfl) (by kernel_rfl) (by subst hV; rfl) (by subst hV; rfl) fun ps af e => k_ld89 (RW.cell hW c0 rc0) e
    · exact absurd (by decide) hic
    · exact pl0 11 0 27 ho hK (by kernel_rfl) (by kernel_rfl) g0 (by subst hV; rfl) fun ps af e => k_mv e
    · exact pl1 12 11 5 0 ho hK (by kernel_rfl) (by kernel_rfl) (by subst hV; rfl) (by subst hV; rfl) fun ps af e => k_nc e
    · exact pl1 13 12 6 0 ho hK (by kernel_rfl) (by kernel_rfl) (by subst hV; rfl) (by subst hV; rfl) fun ps af e => k_fa93_2 e
    · obtain ⟨ps, af, rfl⟩ := core (some 14) (.load 91 (.tmp 13)) 91 none ho (by kernel_rfl)
      have e13 : Tx.getD 13 undef = .pointer (some ⟨b, 5, none⟩) := hK.is 7 ho (by kernel_rfl) (by subst hV; rfl)
      have hl0 := RW.cell hW c1 rc1
      have hl1 := RW.cell hW c2 rc2
      have hl2 := RW.cell hW c3 rc3
      exact wpOp_plain ho rfl (by subst hV; go_simp; try rfl)
  · obtain rfl : cx = 4 := by simpa using hc
    · obtain ⟨ps, af, rfl⟩ := core (some 10) (.call { callee := .value (.func 50), args := #[.tmp 9], argTypes := #[89] }) 89 none ho (by kernel_rfl)
      have e9 : Tx.getD 9 undef = .slice ra rn rc := hK.is 3 ho (by kernel_rfl) (by subst hV; rfl)
      have hW1 : RW w R (dx 4) (yx 4) wx := hW
      clear hdb hda
      rw [hd] at hW1
      clear hd hW hc
      refine wpOp_plain ho rfl ?_
      go_simp
      go_at_call 50
      refine (RW.call hE  hW1).mono ?_
      rintro ex w2 ⟨vx, rfl, hW2⟩
      subst hV
      refine ⟨vx, rfl, ?_⟩
      simpa [updB, upd] using hW2
  · have hW1 : RW w R (dx 4) (yx 4) wx := hW
    rw [hd 4 (by decide)] at hW1
    have hQ := h _ _ (hW1.2 rfl)
    subst hV hT
    refine cast (congrArg (fun Tx => wpList Tryd.prog rCO Q (rCO.toList.drop 9) ⟨Tx, ds⟩ wx) ?_) hQ
    kernel_rfl
noncomputable def rD0O : Array Oper := (Tryd.f16.body.bind fun c => findR c 5).getD #[]
def rD0_m : List (List Nat) := [[], [], [], [], [], [], [], [4], [], []]
def rD0_a : List (List Nat) := [[], [], [], [2], [2, 3], [], [5], [2, 3, 4, 5, 6], [0], [0, 8], [0, 1, 2, 3, 4, 5, 6, 7, 8, 9], [0, 1, 2, 3, 4, 5, 6, 7, 8, 9, 10]]
set_option maxHeartbeats 16000000 in
theorem rD0 (cb tb g n c : Nat) (s : Int) (R : World → Value → Prop) (w : World)  (c0 : w.cell? ⟨tb, 0, none⟩ = some (.slice (some ⟨g, 0, none⟩) n c)) (rc0 : Hid (∀ w1 v, R w1 v → w1.cell? ⟨tb, 0, none⟩ = some (.slice (some ⟨g, 0, none⟩) n c))) (c1 : w.cell? ⟨tb, 1, none⟩ = some (.int .i64 s)) (rc1 : Hid (∀ w1 v, R w1 v → w1.cell? ⟨tb, 1, none⟩ = some (.int .i64 s))) (hsh : Hid (∀ w1 v, R w1 v → ∃ a n c, v = .slice a n c)) (hE : Hid (Calls Tryd.prog 51 #[.slice (some ⟨g, 0, none⟩) n c] w.drew fun e w1 => ∃ v, e = .returned v ∧ R w1 v)) {t0 t1 t2 t6 t7 t8 t9 t10 t11 t12 t13 t14 t15 t16 t17 t18 t19 t20 t21 t22 t23 t24 t25 t26 t27 t28 t29 t30 t31 t32 t33 t34 t35 t36 t37 : Value} {ds : List Deferred} {Q : Exit → Act → World → Prop}
    (h : ∀ (yE : Value) (w1 : World), R w1 yE → wpList Tryd.prog rD0O Q (rD0O.toList.drop 10) { tmps := #[t0, t1, t2, .pointer (some ⟨cb, 0, none⟩), .int .i64 0, .pointer (some ⟨tb, 0, none⟩), t6, t7, t8, t9, t10, t11, t12, t13, t14, t15, t16, t17, t18, t19, t20, t21, t22, t23, t24, .pointer (some ⟨cb, 0, none⟩), .int .i64 0, .pointer (some ⟨tb, 0, none⟩), .slice (some ⟨g, 0, none⟩) n c, yE, .pointer (some ⟨tb, 1, none⟩), .int .i64 s, .agg #[yE, .int .i64 s], .pointer (some ⟨cb, 0, none⟩), .pointer (some ⟨cb, 0, none⟩), t35, t36, t37], defers := ds } w1) :
    (Code.region 5 rD0O true).wp Tryd.prog Q { tmps := #[t0, t1, t2, .pointer (some ⟨cb, 0, none⟩), .int .i64 0, .pointer (some ⟨tb, 0, none⟩), t6, t7, t8, t9, t10, t11, t12, t13, t14, t15, t16, t17, t18, t19, t20, t21, t22, t23, t24, t25, t26, t27, t28, t29, t30, t31, t32, t33, t34, t35, t36, t37], defers := ds } w := by
  have hsz : rD0O.size = 12 := by kernel_rfl
  generalize hT : List.toArray _ = T0
  have hs : T0.size = 38 := by subst hT; rfl
  have w0 := RW.zero w R t29
  have g3 : T0.getD 3 undef = .pointer (some ⟨cb, 0, none⟩) := by subst hT; rfl
  have g4 : T0.getD 4 undef = .int .i64 0 := by subst hT; rfl
  have g5 : T0.getD 5 undef = .pointer (some ⟨tb, 0, none⟩) := by subst hT; rfl
  obtain ⟨W, hV⟩ : ∃ W : List ((Nat × (Value → Value)) ⊕ Value), W = [.inr (.pointer (some ⟨cb, 0, none⟩)), .inr (.int .i64 0), .inr (.pointer (some ⟨tb, 0, none⟩)), .inr (.slice (some ⟨g, 0, none⟩) n c), .inl (4, id), .inr (.pointer (some ⟨tb, 1, none⟩)), .inr (.int .i64 s), .inl (4, fun v => .agg #[v, .int .i64 s]), .inr (.pointer (some ⟨cb, 0, none⟩)), .inr (.pointer (some ⟨cb, 0, none⟩))] := ⟨_, rfl⟩
  refine wp_planT (by kernel_rfl) T0 ds 10 rD0_a [4] rD0_m (mkV W) (fun dx yx wx => RW w R (dx 4) (yx 4) wx) w (by rw [hs]; kernel_rfl) (by kernel_rfl) (by kernel_rfl) (by kernel_rfl) (by rw [hsz]; decide) (by rw [hsz]; decide) (by kernel_rfl) (by decide) (fun cx hc ix hne ha yx vx => mkV_fix (by rw [hV]; kernel_rfl) hne ha yx vx) (?key) (fun cx hc ox ho dx yx Tx wx hd hdb hda hK hW => ?_) ⟨fun k => if k = 4 then t29 else undef, w0⟩ (fun dx yx wx hd hW => ?_)
  case key =>
    refine all_step (all_step (all_step (all_step (all_step (all_step (all_step (all_step (all_step (all_step all_zero ?_) ?_) ?_) ?_) ?_) ?_) ?_) ?_) ?_) ?_
    all_goals
      intro ox ho hic dx yx Tx wx hdb hK hW
      replace hdb := Lib.hid hdb
    · exact pl0 25 3 27 ho hK (by kernel_rfl) (by kernel_rfl) g3 (by subst hV; rfl) fun ps af e => k_mv e
    · exact pl0 26 4 3 ho hK (by kernel_rfl) (by kernel_rfl) g4 (by subst hV; rfl) fun ps af e => k_mv e
    · exact pl0 27 5 0 ho hK (by kernel_rfl) (by kernel_rfl) g5 (by subst hV; rfl) fun ps af e => k_fa87_0 e
    · exact pl1 28 27 2 80 ho hK (by kernel_rfl) (by kernel_rfl) (by subst hV; rfl) (by subst hV; rfl) fun ps af e => k_ld80 (RW.cell hW c0 rc0) e
    · exact absurd (by decide) hic
    · exact pl0 30 5 0 ho hK (by kernel_rfl) (by kernel_rfl) g5 (by subst hV; rfl) fun ps af e => k_fa87_1 e
    · exact pl1 31 30 5 3 ho hK (by kernel_rfl) (by kernel_rfl) (by subst hV; rfl) (by subst hV; rfl) fun ps af e => k_ld3 (RW.cell hW c1 rc1) e
    · obtain ⟨ps, af, rfl⟩ := core (some 32) (.build 87 #[(0, .tmp 29), (1, .tmp 31)]) 87 none ho (by kernel_rfl)
      have e29 : Tx.getD 29 undef = yx 4 := hK.is 4 ho (by kernel_rfl) (by subst hV; rfl)
      have e31 : Tx.getD 31 undef = .int .i64 s := hK.is 6 ho (by kernel_rfl) (by subst hV; rfl)
      obtain ⟨sa, sn, sc, es⟩ := hsh.out _ _ (hW.2 (hdb.out 4 (by decide) (by kernel_rfl)))
      rw [es] at e29
      simp only [Array.getD_eq_getD_getElem?] at e29 e31
      exact wpOp_plain ho rfl (by subst hV; go_simp; show _ = Tx.setIfInBounds 32 (.agg #[(yx 4), .int .i64 s]); rw [es])
    · exact pl1 33 25 0 0 ho hK (by kernel_rfl) (by kernel_rfl) (by subst hV; rfl) (by subst hV; rfl) fun ps af e => k_nc e
    · exact pl1 34 33 8 0 ho hK (by kernel_rfl) (by kernel_rfl) (by subst hV; rfl) (by subst hV; rfl) fun ps af e => k_fa93_0 e
  · obtain rfl : cx = 4 := by simpa using hc
    · obtain ⟨ps, af, rfl⟩ := core (some 29) (.call { callee := .value (.func 51), args := #[.tmp 28], argTypes := #[80] }) 80 none ho (by kernel_rfl)
      have e28 : Tx.getD 28 undef = .slice (some ⟨g, 0, none⟩) n c := hK.is 3 ho (by kernel_rfl) (by subst hV; rfl)
      have hW1 : RW w R (dx 4) (yx 4) wx := hW
      clear hdb hda
      rw [hd] at hW1
      clear hd hW hc
      refine wpOp_plain ho rfl ?_
      go_simp
      go_at_call 51
      refine (RW.call hE  hW1).mono ?_
      rintro ex w2 ⟨vx, rfl, hW2⟩
      subst hV
      refine ⟨vx, rfl, ?_⟩
      simpa [updB, upd] using hW2
  · have hW1 : RW w R (dx 4) (yx 4) wx := hW
    rw [hd 4 (by decide)] at hW1
    have hQ := h _ _ (hW1.2 rfl)
    subst hV hT
    refine cast (congrArg (fun Tx => wpList Tryd.prog rD0O Q (rD0O.toList.drop 10) ⟨Tx, ds⟩ wx) ?_) hQ
    kernel_rfl
noncomputable def rD1O : Array Oper := (Tryd.f16.body.bind fun c => findR c 5).getD #[]
def rD1_m : List (List Nat) := [[], [], [], [], [], [], [], [4], [], []]
def rD1_a : List (List Nat) := [[], [], [], [2], [2, 3], [], [5], [2, 3, 4, 5, 6], [0], [0, 8], [0, 1, 2, 3, 4, 5, 6, 7, 8, 9], [0, 1, 2, 3, 4, 5, 6, 7, 8, 9, 10]]
set_option maxHeartbeats 16000000 in
theorem rD1 (cb tb g n c : Nat) (s : Int) (R : World → Value → Prop) (w : World)  (c0 : w.cell? ⟨tb, 0, none⟩ = some (.slice (some ⟨g, 0, none⟩) n c)) (rc0 : Hid (∀ w1 v, R w1 v → w1.cell? ⟨tb, 0, none⟩ = some (.slice (some ⟨g, 0, none⟩) n c))) (c1 : w.cell? ⟨tb, 1, none⟩ = some (.int .i64 s)) (rc1 : Hid (∀ w1 v, R w1 v → w1.cell? ⟨tb, 1, none⟩ = some (.int .i64 s))) (hsh : Hid (∀ w1 v, R w1 v → ∃ a n c, v = .slice a n c)) (hE : Hid (Calls Tryd.prog 51 #[.slice (some ⟨g, 0, none⟩) n c] w.drew fun e w1 => ∃ v, e = .returned v ∧ R w1 v)) {t0 t1 t2 t6 t7 t8 t9 t10 t11 t12 t13 t14 t15 t16 t17 t18 t19 t20 t21 t22 t23 t24 t25 t26 t27 t28 t29 t30 t31 t32 t33 t34 t35 t36 t37 : Value} {ds : List Deferred} {Q : Exit → Act → World → Prop}
    (h : ∀ (yE : Value) (w1 : World), R w1 yE → wpList Tryd.prog rD1O Q (rD1O.toList.drop 10) { tmps := #[t0, t1, t2, .pointer (some ⟨cb, 0, none⟩), .int .i64 1, .pointer (some ⟨tb, 0, none⟩), t6, t7, t8, t9, t10, t11, t12, t13, t14, t15, t16, t17, t18, t19, t20, t21, t22, t23, t24, .pointer (some ⟨cb, 0, none⟩), .int .i64 1, .pointer (some ⟨tb, 0, none⟩), .slice (some ⟨g, 0, none⟩) n c, yE, .pointer (some ⟨tb, 1, none⟩), .int .i64 s, .agg #[yE, .int .i64 s], .pointer (some ⟨cb, 0, none⟩), .pointer (some ⟨cb, 0, none⟩), t35, t36, t37], defers := ds } w1) :
    (Code.region 5 rD1O true).wp Tryd.prog Q { tmps := #[t0, t1, t2, .pointer (some ⟨cb, 0, none⟩), .int .i64 1, .pointer (some ⟨tb, 0, none⟩), t6, t7, t8, t9, t10, t11, t12, t13, t14, t15, t16, t17, t18, t19, t20, t21, t22, t23, t24, t25, t26, t27, t28, t29, t30, t31, t32, t33, t34, t35, t36, t37], defers := ds } w := by
  have hsz : rD1O.size = 12 := by kernel_rfl
  generalize hT : List.toArray _ = T0
  have hs : T0.size = 38 := by subst hT; rfl
  have w0 := RW.zero w R t29
  have g3 : T0.getD 3 undef = .pointer (some ⟨cb, 0, none⟩) := by subst hT; rfl
  have g4 : T0.getD 4 undef = .int .i64 1 := by subst hT; rfl
  have g5 : T0.getD 5 undef = .pointer (some ⟨tb, 0, none⟩) := by subst hT; rfl
  obtain ⟨W, hV⟩ : ∃ W : List ((Nat × (Value → Value)) ⊕ Value), W = [.inr (.pointer (some ⟨cb, 0, none⟩)), .inr (.int .i64 1), .inr (.pointer (some ⟨tb, 0, none⟩)), .inr (.slice (some ⟨g, 0, none⟩) n c), .inl (4, id), .inr (.pointer (some ⟨tb, 1, none⟩)), .inr (.int .i64 s), .inl (4, fun v => .agg #[v, .int .i64 s]), .inr (.pointer (some ⟨cb, 0, none⟩)), .inr (.pointer (some ⟨cb, 0, none⟩))] := ⟨_, rfl⟩
  refine wp_planT (by kernel_rfl) T0 ds 10 rD1_a [4] rD1_m (mkV W) (fun dx yx wx => RW w R (dx 4) (yx 4) wx) w (by rw [hs]; kernel_rfl) (by kernel_rfl) (by kernel_rfl) (by kernel_rfl) (by rw [hsz]; decide) (by rw [hsz]; decide) (by kernel_rfl) (by decide) (fun cx hc ix hne ha yx vx => mkV_fix (by rw [hV]; kernel_rfl) hne ha yx vx) (?key) (fun cx hc ox ho dx yx Tx wx hd hdb hda hK hW => ?_) ⟨fun k => if k = 4 then t29 else undef, w0⟩ (fun dx yx wx hd hW => ?_)
  case key =>
    refine all_step (all_step (all_step (all_step (all_step (all_step (all_step (all_step (all_step (all_step all_zero ?_) ?_) ?_) ?_) ?_) ?_) ?_) ?_) ?_) ?_
    all_goals
      intro ox ho hic dx yx Tx wx hdb hK hW
      replace hdb := Lib.hid hdb
    · exact pl0 25 3 27 ho hK (by kernel_rfl) (by kernel_rfl) g3 (by subst hV; rfl) fun ps af e => k_mv e
    · exact pl0 26 4 3 ho hK (by kernel_rfl) (by kernel_rfl) g4 (by subst hV; rfl) fun ps af e => k_mv e
    · exact pl0 27 5 0 ho hK (by kernel_rfl) (by kernel_rfl) g5 (by subst hV; rfl) fun ps af e => k_fa87_0 e
    · exact pl1 28 27 2 80 ho hK (by kernel_rfl) (by kernel_rfl) (by subst hV; rfl) (by subst hV; rfl) fun ps af e => k_ld80 (RW.cell hW c0 rc0) e
    · exact absurd (by decide) hic
    · exact pl0 30 5 0 ho hK (by kernel_rfl) (by kernel_rfl) g5 (by subst hV; rfl) fun ps af e => k_fa87_1 e
    · exact pl1 31 30 5 3 ho hK (by kernel_rfl) (by kernel_rfl) (by subst hV; rfl) (by subst hV; rfl) fun ps af e => k_ld3 (RW.cell hW c1 rc1) e
    · obtain ⟨ps, af, rfl⟩ := core (some 32) (.build 87 #[(0, .tmp 29), (1, .tmp 31)]) 87 none ho (by kernel_rfl)
      have e29 : Tx.getD 29 undef = yx 4 := hK.is 4 ho (by kernel_rfl) (by subst hV; rfl)
      have e31 : Tx.getD 31 undef = .int .i64 s := hK.is 6 ho (by kernel_rfl) (by subst hV; rfl)
      obtain ⟨sa, sn, sc, es⟩ := hsh.out _ _ (hW.2 (hdb.out 4 (by decide) (by kernel_rfl)))
      rw [es] at e29
      simp only [Array.getD_eq_getD_getElem?] at e29 e31
      exact wpOp_plain ho rfl (by subst hV; go_simp; show _ = Tx.setIfInBounds 32 (.agg #[(yx 4), .int .i64 s]); rw [es])
    · exact pl1 33 25 0 0 ho hK (by kernel_rfl) (by kernel_rfl) (by subst hV; rfl) (by subst hV; rfl) fun ps af e => k_nc e
    · exact pl1 34 33 8 0 ho hK (by kernel_rfl) (by kernel_rfl) (by subst hV; rfl) (by subst hV; rfl) fun ps af e => k_fa93_0 e
  · obtain rfl : cx = 4 := by simpa using hc
    · obtain ⟨ps, af, rfl⟩ := core (some 29) (.call { callee := .value (.func 51), args := #[.tmp 28], argTypes := #[80] }) 80 none ho (by kernel_rfl)
      have e28 : Tx.getD 28 undef = .slice (some ⟨g, 0, none⟩) n c := hK.is 3 ho (by kernel_rfl) (by subst hV; rfl)
      have hW1 : RW w R (dx 4) (yx 4) wx := hW
      clear hdb hda
      rw [hd] at hW1
      clear hd hW hc
      refine wpOp_plain ho rfl ?_
      go_simp
      go_at_call 51
      refine (RW.call hE  hW1).mono ?_
      rintro ex w2 ⟨vx, rfl, hW2⟩
      subst hV
      refine ⟨vx, rfl, ?_⟩
      simpa [updB, upd] using hW2
  · have hW1 : RW w R (dx 4) (yx 4) wx := hW
    rw [hd 4 (by decide)] at hW1
    have hQ := h _ _ (hW1.2 rfl)
    subst hV hT
    refine cast (congrArg (fun Tx => wpList Tryd.prog rD1O Q (rD1O.toList.drop 10) ⟨Tx, ds⟩ wx) ?_) hQ
    kernel_rfl
set_option maxHeartbeats 8000000 in
theorem clone_any (p : Fp) (S : St) (w : World) (h : Dk w p S) :
    Calls Tryd.prog 16 #[p.v] w fun e w' => ∃ p' : Fp, e = .returned p'.v ∧ Dk w' p' S ∧ Below w.heap.size w w' ∧ ∀ k ∈ p'.own, w.heap.size ≤ k := by
  have H := Lib.hid h
  obtain ⟨ra, rn, rc, hrv⟩ := h.rvs
  have HRV := Lib.hid hrv
  have HRL := Lib.hid h.wf.rowlen
  have hb4 : w.cell? ⟨p.b, 4, none⟩ = some (.slice ra rn rc) := (h.blk.cell 4).trans (by simp [hrv])
  have B4 := Lib.hid hb4
  clear hb4 hrv h
  have hf0 : ∀ w, (Instr.index 88 (.agg #[.slice (some ⟨p.g0, 0, none⟩) S.f0.length p.c0, .int .i64 (S.s0 : Int), .slice (some ⟨p.g1, 0, none⟩) S.f1.length p.c1, .int .i64 (S.s1 : Int)]) (.int .i64 0)).run Tryd.prog w = .ok (.agg #[.slice (some ⟨p.g0, 0, none⟩) S.f0.length p.c0, .int .i64 (S.s0 : Int)]) w := fun _ => by kernel_rfl
  have hf1 : ∀ w, (Instr.index 88 (.agg #[.slice (some ⟨p.g0, 0, none⟩) S.f0.length p.c0, .int .i64 (S.s0 : Int), .slice (some ⟨p.g1, 0, none⟩) S.f1.length p.c1, .int .i64 (S.s1 : Int)]) (.int .i64 1)).run Tryd.prog w = .ok (.agg #[.slice (some ⟨p.g1, 0, none⟩) S.f1.length p.c1, .int .i64 (S.s1 : Int)]) w := fun _ => by kernel_rfl
  unfold Fp.v
  go_enter Tryd.func16, Tryd.ntmps16
  go_wp2_with fail
  refine rC p.b ra rn rc S.gone S.inn S.lft (fun w1 v => w1.ownsRow 0 105 2 v S.row.length (pcells S.row) ∧ Below w.heap.size w w1 ∧ ∀ k, v.ownBlock = some k → w.heap.size ≤ k) w
    B4.out (Lib.hid fun w1 v h => (h.2.1.cell H.out.blk.lt).trans B4.out) (H.out.blk.cell 5) (Lib.hid fun w1 v h => (h.2.1.cell H.out.blk.lt).trans (H.out.blk.cell 5)) (H.out.blk.cell 6) (Lib.hid fun w1 v h => (h.2.1.cell H.out.blk.lt).trans (H.out.blk.cell 6)) (H.out.blk.cell 7) (Lib.hid fun w1 v h => (h.2.1.cell H.out.blk.lt).trans (H.out.blk.cell 7))
    (Lib.hid (by
      rw [← HRV.out]
      refine (cloneRow p.rv S.row (by have := HRL.out; omega) w.drew (owns_of H.out.rr fun g _ _ => rfl)).mono ?_
      rintro e w' ⟨v, rfl, ho, hb, hk⟩
      exact ⟨v, rfl, ho, ⟨hb.os, hb.tape, hb.output, hb.size, hb.block⟩, hk⟩)) ?_
  rintro v w1 ⟨ho, hb, hk⟩
  have hsh : ∃ va vn vc, v = .slice va vn vc := by
    obtain ⟨_, ⟨hv, _⟩ | ⟨r', cap, cur, hv, _⟩⟩ := ho
    · exact ⟨_, _, _, hv⟩
    · exact ⟨_, _, _, hv⟩
  obtain ⟨va, vn, vc, rfl⟩ := hsh
  have OV := Lib.hid ho
  have HB1 := Lib.hid hb
  have NV := Lib.hid hk
  clear ho hb hk
  have i0 := ((H.out.below HB1.out).blk.alloc (o := .cells #[.slice none 0 0, .int .i64 0, .slice none 0 0, .int .i64 0, .slice va vn vc, .bool S.gone, .int .i64 (S.inn : Int), .int .i64 (S.lft : Int)] 93)).cell 0
  have i1 := ((H.out.below HB1.out).blk.alloc (o := .cells #[.slice none 0 0, .int .i64 0, .slice none 0 0, .int .i64 0, .slice va vn vc, .bool S.gone, .int .i64 (S.inn : Int), .int .i64 (S.lft : Int)] 93)).cell 1
  have i2 := ((H.out.below HB1.out).blk.alloc (o := .cells #[.slice none 0 0, .int .i64 0, .slice none 0 0, .int .i64 0, .slice va vn vc, .bool S.gone, .int .i64 (S.inn : Int), .int .i64 (S.lft : Int)] 93)).cell 2
  have i3 := ((H.out.below HB1.out).blk.alloc (o := .cells #[.slice none 0 0, .int .i64 0, .slice none 0 0, .int .i64 0, .slice va vn vc, .bool S.gone, .int .i64 (S.inn : Int), .int .i64 (S.lft : Int)] 93)).cell 3
  simp only [rCO, findR, Tryd.f16, Option.bind_some, Option.or, Option.getD, Nat.reduceEqDiff, if_true, if_false, reduceIte, List.drop_succ_cons, List.drop_zero]
  go_wp2_with fail
  refine wp_loop_rounds 3 ?_
  rw [rounds_succ]
  clear i0 i1 i2 i3
  go_wp2_with fail
  have KC2 : Hid (Bk 93 ((w1.alloc (.cells #[.slice none 0 0, .int .i64 0, .slice none 0 0, .int .i64 0, .slice va vn vc, .bool S.gone, .int .i64 (S.inn : Int), .int .i64 (S.lft : Int)] 93)).alloc (.cells #[.slice (some ⟨p.g0, 0, none⟩) S.f0.length p.c0, .int .i64 (S.s0 : Int)] 87)) w1.heap.size #[.slice none 0 0, .int .i64 0, .slice none 0 0, .int .i64 0, .slice va vn vc, .bool S.gone, .int .i64 (S.inn : Int), .int .i64 (S.lft : Int)]) := Lib.hid (Bk.alloc (Bk.new rfl))
  have KT0 : Hid (Bk 87 ((w1.alloc (.cells #[.slice none 0 0, .int .i64 0, .slice none 0 0, .int .i64 0, .slice va vn vc, .bool S.gone, .int .i64 (S.inn : Int), .int .i64 (S.lft : Int)] 93)).alloc (.cells #[.slice (some ⟨p.g0, 0, none⟩) S.f0.length p.c0, .int .i64 (S.s0 : Int)] 87)) (w1.heap.size + 1) #[.slice (some ⟨p.g0, 0, none⟩) S.f0.length p.c0, .int .i64 (S.s0 : Int)]) := Lib.hid (Bk.new (by simp))
  have HBw2 : Hid (Below w.heap.size w ((w1.alloc (.cells #[.slice none 0 0, .int .i64 0, .slice none 0 0, .int .i64 0, .slice va vn vc, .bool S.gone, .int .i64 (S.inn : Int), .int .i64 (S.lft : Int)] 93)).alloc (.cells #[.slice (some ⟨p.g0, 0, none⟩) S.f0.length p.c0, .int .i64 (S.s0 : Int)] 87))) := Lib.hid ((HB1.out.alloc HB1.out.size _).alloc (by have := HB1.out.size; rw [World.size_alloc]; omega) _)
  have OV2 : Hid (((w1.alloc (.cells #[.slice none 0 0, .int .i64 0, .slice none 0 0, .int .i64 0, .slice va vn vc, .bool S.gone, .int .i64 (S.inn : Int), .int .i64 (S.lft : Int)] 93)).alloc (.cells #[.slice (some ⟨p.g0, 0, none⟩) S.f0.length p.c0, .int .i64 (S.s0 : Int)] 87)).ownsRow 0 105 2 (.slice va vn vc) S.row.length (pcells S.row)) := Lib.hid (owns_below OV.out (by go_grown))
  have NW : Hid (∀ k, (Value.slice va vn vc).ownBlock = some k → k < w1.heap.size) := Lib.hid fun k hk => owns_lt OV.out hk
  generalize ((w1.alloc (.cells #[.slice none 0 0, .int .i64 0, .slice none 0 0, .int .i64 0, .slice va vn vc, .bool S.gone, .int .i64 (S.inn : Int), .int .i64 (S.lft : Int)] 93)).alloc (.cells #[.slice (some ⟨p.g0, 0, none⟩) S.f0.length p.c0, .int .i64 (S.s0 : Int)] 87)) = w2 at KC2 KT0 HBw2 OV2 ⊢
  refine rD0 w1.heap.size (w1.heap.size + 1) p.g0 S.f0.length p.c0 S.s0 (fun w3 v => (∃ g' c', v = .slice (some ⟨g', 0, none⟩) S.f0.length c' ∧ By w3 g' c' S.f0 ∧ w2.heap.size ≤ g') ∧ Below w2.heap.size w2 w3) w2
    (KT0.out.cell 0) (Lib.hid fun w3 v h => (h.2.cell KT0.out.lt).trans (KT0.out.cell 0)) (KT0.out.cell 1) (Lib.hid fun w3 v h => (h.2.cell KT0.out.lt).trans (KT0.out.cell 1)) (Lib.hid fun w3 v ⟨⟨g', c', hv, _⟩, _⟩ => ⟨_, _, _, hv⟩)
    (Lib.hid (by
      refine (cloneBytes p.g0 _ p.c0 S.f0 (by have := H.out.wf.l0; omega) w2.drew ((H.out.below HBw2.out).r0.of rfl) rfl).mono ?_
      rintro e w' ⟨v, rfl, ho, hb⟩
      exact ⟨v, rfl, ho, ⟨hb.os, hb.tape, hb.output, hb.size, hb.block⟩⟩)) ?_
  rintro _ w3 ⟨⟨ga, ca, rfl, hby, hga⟩, hb3⟩
  have BA := Lib.hid hby
  have GA := Lib.hid hga
  have H3 := Lib.hid hb3
  have KC3 := Lib.hid (KC2.out.below hb3)
  have HBw3 := Lib.hid (HBw2.out.trans (hb3.mono HBw2.out.size))
  have OV3 := Lib.hid (owns_below OV2.out hb3)
  have C1 : Hid (w1.heap.size < w3.heap.size) := Lib.hid KC3.out.lt
  clear hby hga hb3
  have c0 := KC3.out.cell 0
  have c1 := KC3.out.cell 1
  have f0 := KC3.out.fro 0
  have f1 := KC3.out.fro 1
  simp only [rD0O, findR, Tryd.f16, Option.bind_some, Option.or, Option.getD, Nat.reduceEqDiff, if_true, if_false, reduceIte, List.drop_succ_cons, List.drop_zero]
  go_wp2_with fail
  clear c0 c1 f0 f1
  rw [rounds_succ]
  go_wp2_with fail
  have hcw : w.heap.size ≤ w1.heap.size := HB1.out.size
  have KC4 : Hid (Bk 93 ((w3.setCell ⟨w1.heap.size, 0, none⟩ (.slice (some ⟨ga, 0, none⟩) S.f0.length ca)).setCell ⟨w1.heap.size, 1, none⟩ (.int .i64 (S.s0 : Int))) w1.heap.size #[.slice (some ⟨ga, 0, none⟩) S.f0.length ca, .int .i64 (S.s0 : Int), .slice none 0 0, .int .i64 0, .slice va vn vc, .bool S.gone, .int .i64 (S.inn : Int), .int .i64 (S.lft : Int)]) := Lib.hid (by
    have := Bk.same (i := 1) (v := .int .i64 (S.s0 : Int)) (Bk.same (i := 0) (v := .slice (some ⟨ga, 0, none⟩) S.f0.length ca) KC3.out)
    simpa using this)
  have KC5 : Hid (Bk 93 (((w3.setCell ⟨w1.heap.size, 0, none⟩ (.slice (some ⟨ga, 0, none⟩) S.f0.length ca)).setCell ⟨w1.heap.size, 1, none⟩ (.int .i64 (S.s0 : Int))).alloc (.cells #[.slice (some ⟨p.g1, 0, none⟩) S.f1.length p.c1, .int .i64 (S.s1 : Int)] 87)) w1.heap.size _) := Lib.hid (Bk.alloc KC4.out)
  have HBw4 : Hid (Below w.heap.size w ((w3.setCell ⟨w1.heap.size, 0, none⟩ (.slice (some ⟨ga, 0, none⟩) S.f0.length ca)).setCell ⟨w1.heap.size, 1, none⟩ (.int .i64 (S.s0 : Int)))) := Lib.hid ((HBw3.out.setCell hcw _).setCell hcw _)
  have KT1 : Hid (Bk 87 (((w3.setCell ⟨w1.heap.size, 0, none⟩ (.slice (some ⟨ga, 0, none⟩) S.f0.length ca)).setCell ⟨w1.heap.size, 1, none⟩ (.int .i64 (S.s0 : Int))).alloc (.cells #[.slice (some ⟨p.g1, 0, none⟩) S.f1.length p.c1, .int .i64 (S.s1 : Int)] 87)) w3.heap.size #[.slice (some ⟨p.g1, 0, none⟩) S.f1.length p.c1, .int .i64 (S.s1 : Int)]) := Lib.hid (Bk.new (by simp))
  have HBw5 : Hid (Below w.heap.size w (((w3.setCell ⟨w1.heap.size, 0, none⟩ (.slice (some ⟨ga, 0, none⟩) S.f0.length ca)).setCell ⟨w1.heap.size, 1, none⟩ (.int .i64 (S.s0 : Int))).alloc (.cells #[.slice (some ⟨p.g1, 0, none⟩) S.f1.length p.c1, .int .i64 (S.s1 : Int)] 87))) := Lib.hid (HBw4.out.alloc HBw4.out.size _)
  have nga : ga ≠ w1.heap.size := fun e => BA.out.ne KC3.out (by decide) e.symm
  have BA5 : Hid (By (((w3.setCell ⟨w1.heap.size, 0, none⟩ (.slice (some ⟨ga, 0, none⟩) S.f0.length ca)).setCell ⟨w1.heap.size, 1, none⟩ (.int .i64 (S.s0 : Int))).alloc (.cells #[.slice (some ⟨p.g1, 0, none⟩) S.f1.length p.c1, .int .i64 (S.s1 : Int)] 87)) ga ca S.f0) := Lib.hid ((BA.out.of ((heap_setCell_other _ _ _ _ nga).trans (heap_setCell_other _ _ _ _ nga))).below (by go_grown))
  have OV5 : Hid ((((w3.setCell ⟨w1.heap.size, 0, none⟩ (.slice (some ⟨ga, 0, none⟩) S.f0.length ca)).setCell ⟨w1.heap.size, 1, none⟩ (.int .i64 (S.s0 : Int))).alloc (.cells #[.slice (some ⟨p.g1, 0, none⟩) S.f1.length p.c1, .int .i64 (S.s1 : Int)] 87)).ownsRow 0 105 2 (.slice va vn vc) S.row.length (pcells S.row)) := Lib.hid (owns_below (owns_of (owns_of OV3.out (fun g hg _ => heap_setCell_other w3 ⟨w1.heap.size, 0, none⟩ g (.slice (some ⟨ga, 0, none⟩) S.f0.length ca) (by have := NW.out g hg; show g ≠ w1.heap.size; omega))) (fun g hg _ => heap_setCell_other _ ⟨w1.heap.size, 1, none⟩ g (.int .i64 (S.s0 : Int)) (by have := NW.out g hg; show g ≠ w1.heap.size; omega))) (by go_grown))
  generalize (((w3.setCell ⟨w1.heap.size, 0, none⟩ (.slice (some ⟨ga, 0, none⟩) S.f0.length ca)).setCell ⟨w1.heap.size, 1, none⟩ (.int .i64 (S.s0 : Int))).alloc (.cells #[.slice (some ⟨p.g1, 0, none⟩) S.f1.length p.c1, .int .i64 (S.s1 : Int)] 87)) = w5 at KC5 KT1 HBw5 BA5 OV5 ⊢
  refine rD1 w1.heap.size (w3.heap.size) p.g1 S.f1.length p.c1 S.s1 (fun w3 v => (∃ g' c', v = .slice (some ⟨g', 0, none⟩) S.f1.length c' ∧ By w3 g' c' S.f1 ∧ w5.heap.size ≤ g') ∧ Below w5.heap.size w5 w3) w5
    (KT1.out.cell 0) (Lib.hid fun w3 v h => (h.2.cell KT1.out.lt).trans (KT1.out.cell 0)) (KT1.out.cell 1) (Lib.hid fun w3 v h => (h.2.cell KT1.out.lt).trans (KT1.out.cell 1)) (Lib.hid fun w3 v ⟨⟨g', c', hv, _⟩, _⟩ => ⟨_, _, _, hv⟩)
    (Lib.hid (by
      refine (cloneBytes p.g1 _ p.c1 S.f1 (by have := H.out.wf.l1; omega) w5.drew ((H.out.below HBw5.out).r1.of rfl) rfl).mono ?_
      rintro e w' ⟨v, rfl, ho, hb⟩
      exact ⟨v, rfl, ho, ⟨hb.os, hb.tape, hb.output, hb.size, hb.block⟩⟩)) ?_
  rintro _ w6 ⟨⟨gb, cb, rfl, hby, hgb⟩, hb6⟩
  have BB := Lib.hid hby
  have GB := Lib.hid hgb
  have KC6 := Lib.hid (KC5.out.below hb6)
  have HBw6 := Lib.hid (HBw5.out.trans (hb6.mono HBw5.out.size))
  have OV6 := Lib.hid (owns_below OV5.out hb6)
  have BA6 := Lib.hid (BA5.out.below hb6)
  clear hby hgb hb6
  have c2 := KC6.out.cell 2
  have c3 := KC6.out.cell 3
  have f2 := KC6.out.fro 2
  have f3 := KC6.out.fro 3
  simp only [rD1O, findR, Tryd.f16, Option.bind_some, Option.or, Option.getD, Nat.reduceEqDiff, if_true, if_false, reduceIte, List.drop_succ_cons, List.drop_zero]
  go_wp2_with fail
  clear c2 c3 f2 f3
  rw [rounds_succ]
  go_wp2_with fail
  go_ret
  have ngb : gb ≠ w1.heap.size := fun e => BB.out.ne KC6.out (by decide) e.symm
  have KC8 : Bk 93 ((w6.setCell ⟨w1.heap.size, 2, none⟩ (.slice (some ⟨gb, 0, none⟩) S.f1.length cb)).setCell ⟨w1.heap.size, 3, none⟩ (.int .i64 (S.s1 : Int))) w1.heap.size #[.slice (some ⟨ga, 0, none⟩) S.f0.length ca, .int .i64 (S.s0 : Int), .slice (some ⟨gb, 0, none⟩) S.f1.length cb, .int .i64 (S.s1 : Int), .slice va vn vc, .bool S.gone, .int .i64 (S.inn : Int), .int .i64 (S.lft : Int)] := by
    have := Bk.same (i := 3) (v := .int .i64 (S.s1 : Int)) (Bk.same (i := 2) (v := .slice (some ⟨gb, 0, none⟩) S.f1.length cb) KC6.out)
    simpa using this
  have hgab : ga ≠ gb := by
    have h1 := BA5.out.lt
    have h2 := GB.out
    omega
  refine ⟨⟨w1.heap.size, ga, gb, ca, cb, .slice va vn vc⟩, rfl, ⟨KC8, BA6.out.of ((heap_setCell_other _ _ _ _ nga).trans (heap_setCell_other _ _ _ _ nga)), BB.out.of ((heap_setCell_other _ _ _ _ ngb).trans (heap_setCell_other _ _ _ _ ngb)), ?_, hgab, H.out.wf⟩, ?_, ?_⟩
  · exact owns_of (owns_of OV6.out (fun g hg _ => heap_setCell_other w6 ⟨w1.heap.size, 2, none⟩ g (.slice (some ⟨gb, 0, none⟩) S.f1.length cb) (by have := NW.out g hg; show g ≠ w1.heap.size; omega))) (fun g hg _ => heap_setCell_other _ ⟨w1.heap.size, 3, none⟩ g (.int .i64 (S.s1 : Int)) (by have := NW.out g hg; show g ≠ w1.heap.size; omega))
  · exact (HBw6.out.setCell hcw _).setCell hcw _
  · intro k hk
    simp only [Fp.own, List.mem_cons, Option.mem_toList] at hk
    rcases hk with h | h | h | h
    · omega
    · have h1 := GA.out
      have h2 := HBw2.out.size
      omega
    · have h1 := GB.out
      have h2 := HBw5.out.size
      omega
    · exact NV.out k h
def StrIn (w : World) (v : Value) (l : List ByteArray) : Prop :=
  ∃ a c, v = .slice a l.length c ∧ (l ≠ [] → ∃ b o, a = some ⟨b, o, none⟩ ∧ b < w.heap.size ∧ ∀ i (hi : i < l.length), w.cell? ⟨b, o + i, none⟩ = some (.string l[i]))
theorem StrIn.below {w w' : World} {v : Value} {l : List ByteArray} (h : StrIn w v l) (hb : Below w.heap.size w w') : StrIn w' v l := by
  obtain ⟨a, c, hv, hl⟩ := h
  refine ⟨a, c, hv, fun hne => ?_⟩
  obtain ⟨b, o, ha, hlt, hc⟩ := hl hne
  exact ⟨b, o, ha, Nat.lt_of_lt_of_le hlt hb.size, fun i hi => (hb.cell (p := ⟨b, o + i, none⟩) hlt).trans (hc i hi)⟩
set_option maxHeartbeats 8000000 in
theorem new_ok (b o c : Nat) (x y : ByteArray) (w : World) (hb : b < w.heap.size) (h0 : w.cell? ⟨b, o, none⟩ = some (.string x)) (h1 : w.cell? ⟨b, o + 1, none⟩ = some (.string y)) (hx : ¬ 1048576 < x.size) (hy : ¬ 1048576 < y.size) :
    Calls Tryd.prog 11 #[.slice (some ⟨b, o, none⟩) 2 c] w fun e w' => ∃ p : Fp, e = .returned (.tuple #[p.v, .int .i64 0]) ∧ Dk w' p (St.new x.data.toList y.data.toList) ∧ Below w.heap.size w w' ∧ ∀ k ∈ p.own, w.heap.size ≤ k := by
  have ht : decide ((1048576 : Int) < (x.size : Int)) = false := by simp; omega
  have ht2 : decide ((1048576 : Int) < (y.size : Int)) = false := by simp; omega
  have HX : Hid (x.size ≤ 1048576 ∧ y.size ≤ 1048576) := Lib.hid (by omega)
  have HBL := Lib.hid hb
  have H0 := Lib.hid h0
  have H1 := Lib.hid h1
  clear hx hy hb
  go_enter Tryd.func11, Tryd.ntmps11
  go_wp2_with fail
  refine wp_loop_rounds 3 ?_
  rw [rounds_succ]
  go_wp2_with fail
  rw [rounds_succ]
  go_wp2_with fail
  rw [rounds_succ]
  have g0 := fun (O : Obj) => ((show Below w.heap.size w (w.alloc O) by go_grown).cell (p := ⟨b, o, none⟩) HBL.out).trans H0.out
  go_wp2_with fail
  refine wp_loop_rounds 3 ?_
  rw [rounds_succ]
  go_wp2_with fail
  obtain ⟨ca, w2, hrun, hby, hb2⟩ := conv_new x (by have := HX.out; unfold maxLen; omega) (w.alloc (.cells #[.slice none 0 0, .int .i64 0, .slice none 0 0, .int .i64 0, .slice none 0 0, .bool false, .int .i64 0, .int .i64 0] 93))
  rw [hrun]
  simp only [Result.andThen]
  rw [Oper.upon_value]
  have hs1 : (w.alloc (.cells #[.slice none 0 0, .int .i64 0, .slice none 0 0, .int .i64 0, .slice none 0 0, .bool false, .int .i64 0, .int .i64 0] 93)).heap.size = w.heap.size + 1 := World.size_alloc _ _
  rw [hs1] at hby ⊢
  have BA := Lib.hid hby
  have KC2 := Lib.hid (Bk.below (Bk.new (t := 93) (cs := #[.slice none 0 0, .int .i64 0, .slice none 0 0, .int .i64 0, .slice none 0 0, .bool false, .int .i64 0, .int .i64 0]) (rfl : w.heap.size = w.heap.size)) hb2)
  have HB2 : Hid (Below w.heap.size w w2) := Lib.hid ((show Below w.heap.size w (w.alloc (.cells #[.slice none 0 0, .int .i64 0, .slice none 0 0, .int .i64 0, .slice none 0 0, .bool false, .int .i64 0, .int .i64 0] 93)) by go_grown).trans (hb2.mono (by rw [hs1]; omega)))
  clear hrun hby hb2 hs1 g0
  have c0 := KC2.out.cell 0
  have c1 := KC2.out.cell 1
  have f0 := KC2.out.fro 0
  have f1 := KC2.out.fro 1
  go_wp2_with fail
  clear c0 c1 f0 f1
  have KC3 : Hid (Bk 93 ((w2.setCell ⟨w.heap.size, 0, none⟩ (.slice (some ⟨w.heap.size + 1, 0, none⟩) x.size ca)).setCell ⟨w.heap.size, 1, none⟩ (.int .i64 (x.size : Int))) w.heap.size #[.slice (some ⟨w.heap.size + 1, 0, none⟩) x.size ca, .int .i64 (x.size : Int), .slice none 0 0, .int .i64 0, .slice none 0 0, .bool false, .int .i64 0, .int .i64 0]) := Lib.hid (by
    have := Bk.same (i := 1) (v := .int .i64 (x.size : Int)) (Bk.same (i := 0) (v := .slice (some ⟨w.heap.size + 1, 0, none⟩) x.size ca) KC2.out)
    simpa using this)
  have HB3 : Hid (Below w.heap.size w ((w2.setCell ⟨w.heap.size, 0, none⟩ (.slice (some ⟨w.heap.size + 1, 0, none⟩) x.size ca)).setCell ⟨w.heap.size, 1, none⟩ (.int .i64 (x.size : Int)))) := Lib.hid ((HB2.out.setCell (Nat.le_refl _) _).setCell (Nat.le_refl _) _)
  have BA3 : Hid (By ((w2.setCell ⟨w.heap.size, 0, none⟩ (.slice (some ⟨w.heap.size + 1, 0, none⟩) x.size ca)).setCell ⟨w.heap.size, 1, none⟩ (.int .i64 (x.size : Int))) (w.heap.size + 1) ca x.data.toList) := Lib.hid (BA.out.of ((heap_setCell_other _ _ _ _ (by show w.heap.size + 1 ≠ w.heap.size; omega)).trans (heap_setCell_other _ _ _ _ (by show w.heap.size + 1 ≠ w.heap.size; omega))))
  have g1 : ((w2.setCell ⟨w.heap.size, 0, none⟩ (.slice (some ⟨w.heap.size + 1, 0, none⟩) x.size ca)).setCell ⟨w.heap.size, 1, none⟩ (.int .i64 (x.size : Int))).cell? ⟨b, o + 1, none⟩ = some (.string y) := (HB3.out.cell (p := ⟨b, o + 1, none⟩) HBL.out).trans H1.out
  clear h0 h1
  rw [rounds_succ]
  go_wp2_with fail
  obtain ⟨cb, w4, hrun, hby, hb4⟩ := conv_new y (by have := HX.out; unfold maxLen; omega) ((w2.setCell ⟨w.heap.size, 0, none⟩ (.slice (some ⟨w.heap.size + 1, 0, none⟩) x.size ca)).setCell ⟨w.heap.size, 1, none⟩ (.int .i64 (x.size : Int)))
  rw [hrun]
  simp only [Result.andThen]
  rw [Oper.upon_value]
  have hs3 : ((w2.setCell ⟨w.heap.size, 0, none⟩ (.slice (some ⟨w.heap.size + 1, 0, none⟩) x.size ca)).setCell ⟨w.heap.size, 1, none⟩ (.int .i64 (x.size : Int))).heap.size = w2.heap.size := by simp
  rw [hs3] at hby ⊢
  have BB := Lib.hid hby
  have KC4 := Lib.hid (KC3.out.below hb4)
  have BA4 := Lib.hid (BA3.out.below hb4)
  have HB4 : Hid (Below w.heap.size w w4) := Lib.hid (HB3.out.trans (hb4.mono HB3.out.size))
  have HLT : Hid (w.heap.size + 1 < w2.heap.size) := Lib.hid BA.out.lt
  clear hrun hby hb4 hs3 g1
  have c2 := KC4.out.cell 2
  have c3 := KC4.out.cell 3
  have f2 := KC4.out.fro 2
  have f3 := KC4.out.fro 3
  go_wp2_with fail
  clear c2 c3 f2 f3
  rw [rounds_succ]
  go_wp2_with fail
  go_returns
  have KC5 : Bk 93 ((w4.setCell ⟨w.heap.size, 2, none⟩ (.slice (some ⟨w2.heap.size, 0, none⟩) y.size cb)).setCell ⟨w.heap.size, 3, none⟩ (.int .i64 (y.size : Int))) w.heap.size #[.slice (some ⟨w.heap.size + 1, 0, none⟩) x.size ca, .int .i64 (x.size : Int), .slice (some ⟨w2.heap.size, 0, none⟩) y.size cb, .int .i64 (y.size : Int), .slice none 0 0, .bool false, .int .i64 0, .int .i64 0] := by
    have := Bk.same (i := 3) (v := .int .i64 (y.size : Int)) (Bk.same (i := 2) (v := .slice (some ⟨w2.heap.size, 0, none⟩) y.size cb) KC4.out)
    simpa using this
  have hlt := HLT.out
  have hx := ba_size x
  have hy := ba_size y
  refine ⟨⟨w.heap.size, w.heap.size + 1, w2.heap.size, ca, cb, .slice none 0 0⟩, rfl, ⟨?_, BA4.out.of ((heap_setCell_other _ _ _ _ (by show w.heap.size + 1 ≠ w.heap.size; omega)).trans (heap_setCell_other _ _ _ _ (by show w.heap.size + 1 ≠ w.heap.size; omega))), BB.out.of ((heap_setCell_other _ _ _ _ (by show w2.heap.size ≠ w.heap.size; omega)).trans (heap_setCell_other _ _ _ _ (by show w2.heap.size ≠ w.heap.size; omega))), ⟨rfl, .inl ⟨rfl, rfl⟩⟩, (by show w.heap.size + 1 ≠ w2.heap.size; omega), St.Wf.new (by rw [hx]; exact HX.out.1) (by rw [hy]; exact HX.out.2)⟩, ?_, ?_⟩
  · simp only [St.new, hx, hy]
    exact KC5
  · exact (HB4.out.setCell (Nat.le_refl _) _).setCell (Nat.le_refl _) _
  · intro k hk
    simp only [Fp.own, Value.ownBlock, Option.toList, List.mem_cons, List.not_mem_nil, or_false] at hk
    omega
theorem tmod_emod (n m : Int) (hm : 0 < m) : n % m = if n.tmod m < 0 then n.tmod m + m else n.tmod m := by
  have h1 := Int.emod_nonneg n (show m ≠ 0 by omega)
  have h2 := Int.emod_lt_of_pos n hm
  rw [Int.tmod_eq_emod]
  by_cases h : 0 ≤ n ∨ m ∣ n
  · rw [if_pos h, if_neg (by omega)]; omega
  · rw [if_neg h, if_pos (by omega)]; omega
set_option maxHeartbeats 4000000 in
theorem place_any (n m : Int) (hm : 0 < m) (hm2 : m ≤ 4611686018427387904) (h1 : -9223372036854775808 ≤ n) (h2 : n ≤ 9223372036854775807) (w : World) :
    Calls Tryd.prog 15 #[.int .i64 n, .int .i64 m] w fun e w' => e = .returned (.int .i64 (n % m)) ∧ w = w' := by
  rw [tmod_emod n m hm]
  have hz : (m == 0) = false := by simp; omega
  have hb : -m < n.tmod m ∧ n.tmod m < m := by
    have := Int.tmod_lt_of_pos n hm
    have := Int.lt_tmod_of_pos n hm
    omega
  have hw : IntKind.i64.wrap (n.tmod m) = n.tmod m := by rw [IntWalk.i64_in _ (by omega)]
  have HW := Lib.hid hw
  generalize hq : n.tmod m = q at hb ⊢
  have HQ := Lib.hid hq
  by_cases hneg : q < 0
  · rw [if_pos hneg]
    have hd : decide (q < 0) = true := by simpa using hneg
    go_enter Tryd.func15, Tryd.ntmps15
    go_wp2_with fail
    go_ret
    exact ⟨rfl, rfl⟩
  · rw [if_neg hneg]
    have hd : decide (q < 0) = false := by simpa using hneg
    go_enter Tryd.func15, Tryd.ntmps15
    go_wp2_with fail
    go_ret
    exact ⟨rfl, rfl⟩
theorem ne9 (s : ByteArray) (w : World) : (binOp .neq 9 (.string s) (.string s)).run Tryd.prog w = .ok (.bool false) w := by
  go_simp
set_option maxHeartbeats 8000000 in
theorem same_any (b b' o o' c c' : Nat) (x y : ByteArray) (w : World) (h0 : w.cell? ⟨b, o, none⟩ = some (.string x)) (h1 : w.cell? ⟨b, o + 1, none⟩ = some (.string y)) (g0 : w.cell? ⟨b', o', none⟩ = some (.string x)) (g1 : w.cell? ⟨b', o' + 1, none⟩ = some (.string y)) :
    Calls Tryd.prog 25 #[.slice (some ⟨b, o, none⟩) 2 c, .slice (some ⟨b', o', none⟩) 2 c'] w fun e w' => e = .returned (.bool true) ∧ Below w.heap.size w w' := by
  have hn := ne9
  go_enter Tryd.func25, Tryd.ntmps25
  go_wp2_with fail
  refine wp_loop_rounds 3 ?_
  rw [rounds_succ]
  go_wp2_with fail
  go_quiet (fail)
  go_wp2_with fail
  rw [rounds_succ]
  go_wp2_with fail
  go_quiet (fail)
  go_wp2_with fail
  rw [rounds_succ]
  go_wp2_with fail
  go_ret
  exact ⟨rfl, below_drewN (Below.refl _ _) _⟩
theorem same_two (w : World) (v v' : Value) (a b : List UInt8) (B B' : Nat) (h : Two B w v a b) (h' : Two B' w v' a b) :
    Calls Tryd.prog 25 #[v, v'] w fun e w' => e = .returned (.bool true) ∧ Below w.heap.size w w' := by
  obtain ⟨g, rfl, _, k⟩ := h
  obtain ⟨g', rfl, _, k'⟩ := h'
  exact same_any g g' 0 0 2 2 _ _ w (k.cell 0) (k.cell 1) (k'.cell 0) (k'.cell 1)
structure Op where
  on : Int
  kind : Int
  a : Int
  b : Int
  s : ByteArray
def Op.cells (o : Op) : List Value := [.int .i64 o.on, .int .i64 o.kind, .int .i64 o.a, .int .i64 o.b, .string o.s]
def OpsIn (w : World) (v : Value) (l : List Op) : Prop :=
  ∃ a c, v = .slice a l.length c ∧ (l ≠ [] → ∃ b o, a = some ⟨b, o, none⟩ ∧ b < w.heap.size ∧ ∀ i (hi : i < l.length), w.cell? ⟨b, o + i * 5, none⟩ = some (.int .i64 l[i].on) ∧ w.cell? ⟨b, o + i * 5 + 1, none⟩ = some (.int .i64 l[i].kind) ∧ w.cell? ⟨b, o + i * 5 + 2, none⟩ = some (.int .i64 l[i].a) ∧ w.cell? ⟨b, o + i * 5 + 3, none⟩ = some (.int .i64 l[i].b) ∧ w.cell? ⟨b, o + i * 5 + 4, none⟩ = some (.string l[i].s))
theorem OpsIn.below {w w' : World} {v : Value} {l : List Op} (h : OpsIn w v l) (hb : Below w.heap.size w w') : OpsIn w' v l := by
  obtain ⟨a, c, hv, hl⟩ := h
  refine ⟨a, c, hv, fun hne => ?_⟩
  obtain ⟨b, o, ha, hlt, hc⟩ := hl hne
  have e : ∀ k, w'.cell? ⟨b, k, none⟩ = w.cell? ⟨b, k, none⟩ := fun k => hb.cell (p := ⟨b, k, none⟩) hlt
  refine ⟨b, o, ha, Nat.lt_of_lt_of_le hlt hb.size, fun i hi => ?_⟩
  simp only [e]
  exact hc i hi
def OpOk (o : Op) : Prop := -9223372036854775808 ≤ o.on ∧ o.on ≤ 9223372036854775807 ∧ -9223372036854775808 ≤ o.kind ∧ o.kind ≤ 9223372036854775807 ∧ -9223372036854775808 ≤ o.a ∧ o.a ≤ 9223372036854775807 ∧ -9223372036854775808 ≤ o.b ∧ o.b ≤ 9223372036854775807 ∧ o.s.size ≤ 140737488355232
def stepM (S : St) (o : Op) : St := if o.kind = 1 then (S.append o.a o.s.data.toList).2 else if o.kind = 2 then S.sync.2 else if o.kind = 3 then (S.cut o.a o.b).2 else S
theorem index23 (b o c n i : Nat) (h : i < n) (w : World) : (Instr.indexAt 26 (.slice (some ⟨b, o, none⟩) n c) (.int .i64 (i : Int))).run Tryd.prog w = .ok (.pointer (some ⟨b, o + i * 5, none⟩)) w := by
  go_simp
theorem Mut.b {w w' : World} {p p' : Fp} {S : St} (h : Mut w p w' p' S) : p'.v = p.v := by unfold Fp.v; rw [h.2.1]
def Own (B : Nat) (w0 w : World) (p : Fp) (S : St) : Prop := Dk w p S ∧ Below B w0 w ∧ ∀ k ∈ p.own, B ≤ k
theorem Own.mut {B : Nat} {w0 w w' : World} {p p' : Fp} {S S' : St} (h : Own B w0 w p S) (hB : B ≤ w0.heap.size) (hm : Mut w p w' p' S') : Own B w0 w' p' S' :=
  ⟨hm.1, h.2.1.trans (hm.2.2.1.below (Nat.le_trans hB h.2.1.size) h.2.2), fun k hk => (hm.2.2.2 k hk).elim (h.2.2 k) (fun e => Nat.le_trans (Nat.le_trans hB h.2.1.size) e)⟩
theorem Own.below {B : Nat} {w0 w w' : World} {p : Fp} {S : St} (h : Own B w0 w p S) (hB : B ≤ w0.heap.size) (hb : Below w.heap.size w w') : Own B w0 w' p S :=
  ⟨h.1.below hb, h.2.1.trans (hb.mono (Nat.le_trans hB h.2.1.size)), h.2.2⟩
end Go.Proofs.YtmoihgniglomiaaDoor
namespace Go.Proofs.YtmoihgniglomiaaDoor
open Go.ChangeShapes Go.WideShapes Go.ChangeAt Go.ChangeMaps Go.RowKit Go.Deep
theorem own : ownKnob Tryd.prog.godebug = none := by kernel_rfl
section
variable {H : Type} {enc : TypeId × Value → H} {P : Program}
theorem post_below {f : Func} {s : ChangeSpec} {apart fresh handsOn again : Bool} {W W' : World} {args : Array Value} {v : Value} {ds gs : List (DataW H)} {before pa pv : List MemPlace}
    (hW : DataW.Whole enc P f.params.toList s.vars apart W args.toList ds gs before)
    (hres : ∀ (b : Nat) (sp : Nat → Bool) (hd : Bool), DataW.TrodAll enc P W' b sp hd f.resultTypes.toList (v.resultList f.resultTypes.size) (s.fn H (ds ++ gs)).results [])
    (hargs : ∀ sp : Nat → Bool, (∀ p ∈ before, sp p.block = true) → DataW.TrodAll enc P W' 0 sp true f.params.toList args.toList (s.fn H (ds ++ gs)).args pa)
    (hvars : ∀ sp : Nat → Bool, (∀ p ∈ before, sp p.block = true) → DataW.TrodVars enc P W' sp s.vars (s.fn H (ds ++ gs)).vars pv)
    (hps : before = pa ++ pv) (hb : Below W.heap.size W W')
    (hok : ∀ (j : Nat) (t : TypeId) (r : Value), f.resultTypes[j]? = some t → (v.resultList f.resultTypes.size)[j]? = some r → Value.okWide P W' .any 0 t r) :
    s.post enc P f apart fresh handsOn again W args v W' := by
  have hlt : ∀ p ∈ before, p.block < W.heap.size := fun p hp => hW.lt p hp
  have hold : ∀ p ∈ before, (fun b => decide (b < W.heap.size)) p.block = true := fun p hp => by simpa using hlt p hp
  refine ⟨ds, gs, before, [], pa, pv, hW, hres _ _ _, hargs _ hold, hvars _ hold, World.keptBut_mono (fun p hp => ⟨hp, ?_⟩) (hb.frame (· ∈ before)), fun _ => ?_⟩
  · rw [hps, List.mem_append] at hp
    exact Or.inr hp
  · obtain ⟨_, _, _, _, _, hz, hn⟩ := hW
    refine ⟨hok, _, _, ([] ++ pa) ++ pv, ⟨[] ++ pa, pv, trodAll_append (hargs _ (fun _ _ => rfl)) (hres _ _ _), hvars _ (fun _ _ => rfl), rfl, ?_, ?_⟩, ?_⟩
    · intro b off hp
      have hin : MemPlace.cell b off ∈ before := by rw [hps]; simpa using hp
      rw [hb.frozen (hlt _ hin)]
      exact hz b off hin
    · intro ha
      have := hn ha
      rw [hps] at this
      simpa using this
    · intro p hp _
      rw [hps]
      simpa using hp
end
section
variable {H : Type} {enc : TypeId × Value → H}
theorem reach_is : reachBytes ≤ 140737488351232 := by decide
theorem wf_int {n : Int} (h : (Lit.int .i64 n).wf = true) : -9223372036854775808 ≤ n ∧ n ≤ 9223372036854775807 := by
  simpa [Lit.wf, IntKind.min, IntKind.max, IntKind.signed, IntKind.bits] using h
theorem laidOut : laidOutB Tryd.prog = true := by kernel_rfl
theorem read23 : Tryd.prog.readableRec 26 = true := by kernel_rfl
theorem row23 : 26 < Tryd.prog.types.size := of_decide_eq_true (by kernel_rfl)
theorem trod_keep {t : TypeId} (hr : Tryd.prog.readableRec t = true) (hrow : t < Tryd.prog.types.size) {W W' : World} {v : Value} {d : DataW H} {ps : List MemPlace}
    (h : DataW.Trod enc Tryd.prog W 0 (fun _ => true) true t v d ps) (hb : Below W.heap.size W W') (hlt : ∀ x ∈ ps, x.block < W.heap.size) (sp : Nat → Bool) (hsp : ∀ x ∈ ps, sp x.block = true) :
    DataW.Trod enc Tryd.prog W' 0 sp true t v d ps :=
  WideElems.Trod_stays laidOut hr hrow h (fun x hx => hb.same (hlt x hx)) hsp
theorem cells35 : Tryd.prog.cellsOf 46 = 5 := by kernel_rfl
theorem bytes35 : Tryd.prog.bytesOf 46 = 48 := by kernel_rfl
theorem cells3 : Tryd.prog.cellsOf 3 = 1 := by kernel_rfl
theorem cells9 : Tryd.prog.cellsOf 9 = 1 := by kernel_rfl
theorem add_off {a : Addr} {W : World} {v : Value} (h : W.cell? a = some v) (j : Nat) : a.add j = ⟨a.block, a.off + j, none⟩ := by
  have hspot : a = ⟨a.block, a.off, none⟩ := by
    obtain ⟨ab, ao, asp⟩ := a
    cases asp with
    | none => rfl
    | some x =>
      exfalso
      unfold World.cell? at h
      split at h <;> simp at h
  rw [hspot]
  unfold Addr.add
  split
  · rename_i h; subst h; rfl
  · rfl
theorem weights_all {t : TypeId} {n : Nat} {d : DataW H} : ∀ {l : List (DataW H)}, d ∈ l → n ∈ d.weights Tryd.prog t → n ∈ DataW.weightsAll Tryd.prog t l
  | x :: r, hd, hn => by
    simp only [DataW.weightsAll, List.mem_append]
    cases List.mem_cons.1 hd with
    | inl e => subst e; exact .inl hn
    | inr e => exact .inr (weights_all e hn)
theorem open_op {W : World} {sp : Nat → Bool} {held : Bool} {fuel : Nat} {cs : List Value} {x : DataW H × List MemPlace} (h : DataW.trod enc Tryd.prog W 0 sp held fuel 46 cs = some x) (hw : ∀ n ∈ x.1.weights Tryd.prog 46, n ≤ 140737488351232) :
    ∃ o : Op, cs = o.cells ∧ OpOk o ∧ x = (.agg [.lit (.int .i64 o.on), .lit (.int .i64 o.kind), .lit (.int .i64 o.a), .lit (.int .i64 o.b), .lit (.string o.s.data.toList)], []) := by
  obtain ⟨xs, n, rfl, rfl, hlen, hxl, hf⟩ := DataW.trod_struct Tryd.underlying46 h
  rw [cells35] at hlen
  match xs, hxl, cs, hlen with
  | [y0, y1, y2, y3, y4], _, [v0, v1, v2, v3, v4], _ =>
    have g0 := hf 0 _ rfl
    have g1 := hf 1 _ rfl
    have g2 := hf 2 _ rfl
    have g3 := hf 3 _ rfl
    have g4 := hf 4 _ rfl
    simp [cells3, cells9] at g0 g1 g2 g3 g4
    obtain ⟨n0, e0, x0, w0⟩ := DataW.trod_int Tryd.underlying3 g0
    obtain ⟨n1, e1, x1, w1⟩ := DataW.trod_int Tryd.underlying3 g1
    obtain ⟨n2, e2, x2, w2⟩ := DataW.trod_int Tryd.underlying3 g2
    obtain ⟨n3, e3, x3, w3⟩ := DataW.trod_int Tryd.underlying3 g3
    obtain ⟨s, e4, x4, w4⟩ := DataW.trod_string Tryd.underlying9 g4
    simp only [List.cons.injEq, and_true] at e0 e1 e2 e3 e4
    subst e0 e1 e2 e3 e4 x0 x1 x2 x3 x4
    have hs : s.data.toList.length ≤ 140737488351232 := hw _ (by simp [DataW.weights, Tryd.underlying46, DataW.weightsEach])
    have b0 := wf_int w0
    have b1 := wf_int w1
    have b2 := wf_int w2
    have b3 := wf_int w3
    refine ⟨⟨n0, n1, n2, n3, s⟩, rfl, ⟨b0.1, b0.2, b1.1, b1.2, b2.1, b2.2, b3.1, b3.2, ?_⟩, rfl⟩
    rw [ba_size] at hs
    show s.size ≤ _
    omega
theorem open_ops23 {W : World} {b0 : Nat} {v : Value} {d : DataW H} {ps : List MemPlace} (hv : Value.okWide Tryd.prog W .any b0 26 v) (h : DataW.Trod enc Tryd.prog W 0 (fun _ => true) true 26 v d ps)
    (hw : ∀ n ∈ d.weights Tryd.prog 26, n ≤ 140737488351232) : ∃ l : List Op, OpsIn W v l ∧ (∀ x ∈ l, OpOk x) ∧ l.length ≤ 2932031007402 := by
  obtain ⟨A, n, c, rfl⟩ := okWide_slice Tryd.underlying26 hv
  obtain ⟨fuel, hf⟩ := h
  rcases open_slice Tryd.underlying26 hf with ⟨hc, hx⟩ | ⟨a, len, cap, m, n', D, Pl, hc, _, hl, hm, hmm, hx, hi⟩
  · have e : Value.slice A n c = .slice none 0 0 := by simpa [Value.cells] using hc
    rw [e]
    exact ⟨[], ⟨none, 0, rfl, fun h => absurd rfl h⟩, by simp, by simp⟩
  · have e : Value.slice A n c = .slice (some a) len cap := by simpa [Value.cells] using hc
    rw [e]
    obtain ⟨hd, _⟩ := Prod.mk.inj hx
    subst hd
    have hlm : len ≤ m := by rw [hmm]; simp; exact hl
    have hlw : (len + (m - len)) * 48 ≤ 140737488351232 := hw _ (by simp [DataW.weights, Tryd.underlying26, bytes35])
    have each : ∀ i, ∃ o : Op, i < len → OpOk o ∧ W.cell? (a.add (i * 5)) = some (.int .i64 o.on) ∧ W.cell? ((a.add (i * 5)).add 1) = some (.int .i64 o.kind) ∧ W.cell? ((a.add (i * 5)).add 2) = some (.int .i64 o.a) ∧ W.cell? ((a.add (i * 5)).add 3) = some (.int .i64 o.b) ∧ W.cell? ((a.add (i * 5)).add 4) = some (.string o.s) := by
      intro i
      by_cases hil : i < len
      · obtain ⟨cs', h2, h3⟩ := hi i (by omega)
        rw [cells35] at h2
        obtain ⟨o, rfl, hok, _⟩ := open_op h3 (fun n hn => hw n (by
          simp only [DataW.weights, Tryd.underlying26, List.mem_cons, List.mem_append]
          exact .inr (.inl (weights_all (List.mem_map.2 ⟨i, List.mem_range.2 hil, rfl⟩) hn))))
        obtain ⟨_, _, hcell⟩ := World.cells?_some h2
        refine ⟨o, fun _ => ⟨hok, ?_, hcell 1 (by simp [Op.cells]), hcell 2 (by simp [Op.cells]), hcell 3 (by simp [Op.cells]), hcell 4 (by simp [Op.cells])⟩⟩
        have := hcell 0 (by simp [Op.cells])
        have e0 : (a.add (i * 5)).add 0 = a.add (i * 5) := by simp [Addr.add]
        rw [e0] at this
        exact this
      · exact ⟨⟨0, 0, 0, 0, ⟨#[]⟩⟩, fun h => absurd h hil⟩
    obtain ⟨F, hF⟩ := Classical.skolem.1 each
    have hlen : ((List.range len).map F).length = len := by simp
    refine ⟨(List.range len).map F, ⟨some a, cap, by rw [hlen], fun hne => ?_⟩, ?_, by rw [hlen]; omega⟩
    · have h0 : 0 < len := by
        rcases Nat.eq_zero_or_pos len with h | h
        · subst h; exact absurd rfl hne
        · exact h
      have c0 := (hF 0 h0).2.1
      have e0 : a.add (0 * 5) = a := by simp [Addr.add]
      rw [e0] at c0
      have hadd := add_off c0
      refine ⟨a.block, a.off, by have := hadd 0; simpa [Addr.add] using this, World.block_lt_of_cell? W _ c0, fun i hi' => ?_⟩
      have hil : i < len := by rwa [hlen] at hi'
      obtain ⟨f1, f2, f3, f4, f5, f6⟩ := hF i hil
      have hadd2 := add_off f2
      rw [hadd2] at f3 f4 f5 f6
      rw [hadd] at f2 f3 f4 f5 f6
      have hg : ((List.range len).map F)[i] = F i := by simp
      rw [hg]
      exact ⟨f2, f3, f4, f5, f6⟩
    · intro o ho
      obtain ⟨i, hir, rfl⟩ := List.mem_map.1 ho
      exact (hF i (List.mem_range.1 hir)).1
end
end Go.Proofs.YtmoihgniglomiaaDoor
