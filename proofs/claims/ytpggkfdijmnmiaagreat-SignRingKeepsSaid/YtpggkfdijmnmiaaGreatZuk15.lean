/- The drawn regions of sign's number and fits. No condition. What sign's timesBase answers. Condition: the number is below 2 to the 256. sync.Once over a key: the lock, both deferred calls, the function that makes the point. Condition: the lock is free, or held with nobody waiting. What sign's Public answers, and Sign of a number that may be no private key. Condition: the number is below 2 to the 25 -/
import Derived.Test.YtpggkfdijmnmiaaGreatZuk10
import Derived.Test.YtpggkfdijmnmiaaGreatZuk05
import Derived.Test.YtpggkfdijmnmiaaGreatZuk13
import Derived.Test.YtpggkfdijmnmiaaGreatZuk12
import Derived.Laws.IdiomStrings
import Derived.Lib.AppendZeros
import Derived.Test.YtpggkfdijmnmiaaGreatZuk11
set_option linter.unusedVariables false
set_option linter.unusedSimpArgs false
set_option maxRecDepth 100000
namespace Go.Proofs.YtpggkfdijmnmiaaGreat.Pl
open Go.RowKit Go.Sort Limbs
noncomputable def tNO : Array Oper := (Tryz.f60.body.bind fun c => findR c 2).getD #[]
def tN_m : List (List Nat) := [[], [], [], [], [], [], [5], [5], [5, 7]]
set_option maxHeartbeats 16000000 in
theorem tN (PW : Bool → Bool → World → Prop) (ja jz z : Nat) (ok : Bool) (w : World)  (cl5 : ∀ (w : World), PW false false w → Calls Tryz.prog 41 #[.agg #[.int .u64 (lb z 0 : Nat), .int .u64 (lb z 1 : Nat), .int .u64 (lb z 2 : Nat), .int .u64 (lb z 3 : Nat)]] w fun e w1 => e = .returned (.bool ok) ∧ PW true false  w1) (cl7 : ∀ (w : World), PW true false w → ∃ (d0 d1 d2 d3 : Value), Bk 24 w ja #[d0, d1, d2, d3] ∧ PW true true  ((((w.setCell ⟨ja, 0, none⟩ (.int .u64 (lb z 0 : Nat))).setCell ⟨ja, 1, none⟩ (.int .u64 (lb z 1 : Nat))).setCell ⟨ja, 2, none⟩ (.int .u64 (lb z 2 : Nat))).setCell ⟨ja, 3, none⟩ (.int .u64 (lb z 3 : Nat)))) (lz : ∀ (b5 b7 : Bool) (w : World), PW b5 b7  w → w.cell? ⟨jz, 0, none⟩ = some (.int .u64 (lb z 0 : Nat)) ∧ w.cell? ⟨jz, 1, none⟩ = some (.int .u64 (lb z 1 : Nat)) ∧ w.cell? ⟨jz, 2, none⟩ = some (.int .u64 (lb z 2 : Nat)) ∧ w.cell? ⟨jz, 3, none⟩ = some (.int .u64 (lb z 3 : Nat))) {t0 t1 t3 t6 t7 t8 t9 t10 t11 t12 t13 t14 t15 t16 t17 : Value} (w0 : PW false false  w.drew) {ds : List Deferred} {Q : Exit → Act → World → Prop}
    (h : ∀ (w1 : World), PW true true  w1 → Q .normal { tmps := #[t0, t1, .pointer (some ⟨ja, 0, none⟩), .bool ok, .pointer (some ⟨jz, 0, none⟩), .int .i64 0, t6, t7, t8, t9, t10, .agg #[.int .u64 (lb z 0 : Nat), .int .u64 (lb z 1 : Nat), .int .u64 (lb z 2 : Nat), .int .u64 (lb z 3 : Nat)], .int .i64 0, .bool true, .bool true, .agg #[.int .u64 (lb z 0 : Nat), .int .u64 (lb z 1 : Nat), .int .u64 (lb z 2 : Nat), .int .u64 (lb z 3 : Nat)], .bool ok, .bool ok], defers := ds } w1) :
    (Code.region 2 tNO true).wp Tryz.prog Q { tmps := #[t0, t1, .pointer (some ⟨ja, 0, none⟩), t3, .pointer (some ⟨jz, 0, none⟩), .int .i64 0, t6, t7, t8, t9, t10, t11, t12, t13, t14, t15, t16, t17], defers := ds } w := by
  have hsz : tNO.size = 9 := by kernel_rfl
  generalize hT : List.toArray _ = T0
  have hs : T0.size = 18 := by subst hT; rfl
  have g2 : T0.getD 2 undef = .pointer (some ⟨ja, 0, none⟩) := by subst hT; rfl
  have g4 : T0.getD 4 undef = .pointer (some ⟨jz, 0, none⟩) := by subst hT; rfl
  have g5 : T0.getD 5 undef = .int .i64 0 := by subst hT; rfl
  obtain ⟨W, hV⟩ : ∃ W : List ((Nat × (Value → Value)) ⊕ Value), W = [.inr (.agg #[.int .u64 (lb z 0 : Nat), .int .u64 (lb z 1 : Nat), .int .u64 (lb z 2 : Nat), .int .u64 (lb z 3 : Nat)]), .inr (.int .i64 0), .inr (.bool true), .inr (.bool true), .inr (.agg #[.int .u64 (lb z 0 : Nat), .int .u64 (lb z 1 : Nat), .int .u64 (lb z 2 : Nat), .int .u64 (lb z 3 : Nat)]), .inr (.bool ok), .inr (.bool ok), .inr undef, .inr (.bool ok)] := ⟨_, rfl⟩
  refine wp_plan (by kernel_rfl) T0 ds [5, 7] tN_m (mkV W) (fun dx yx wx => PW (dx 5) (dx 7)  wx) w (by rw [hs]; kernel_rfl) (by kernel_rfl) (by kernel_rfl) (by rw [hsz]; decide) (fun cx hc ix hne ha yx vx => mkV_fix (by rw [hV]; kernel_rfl) hne ha yx vx) (?key) (fun cx hc ox ho dx yx Tx wx hd hdb hda hK hW => ?_) ⟨fun k => undef, w0⟩ (fun dx yx wx hd hW => ?_)
  case key =>
    rw [hsz]
    refine all_step (all_step (all_step (all_step (all_step (all_step (all_step (all_step (all_step all_zero ?_) ?_) ?_) ?_) ?_) ?_) ?_) ?_) ?_
    all_goals
      intro ox ho hic dx yx Tx wx hdb hK hW
      replace hdb := Lib.hid hdb
    · obtain ⟨ps, af, rfl⟩ := core (some 11) (.load 24 (.tmp 4)) 24 none ho (by kernel_rfl)
      have e4 : Tx.getD 4 undef = .pointer (some ⟨jz, 0, none⟩) := hK.of (by kernel_rfl) g4
      obtain ⟨hlz0, hlz1, hlz2, hlz3⟩ := lz _ _ _ hW
      exact wpOp_plain ho rfl (by subst hV; go_simp; try rfl)
    · exact pl0 12 5 27 ho hK (by kernel_rfl) (by kernel_rfl) g5 (by subst hV; rfl) fun ps af e => k_mv e
    · obtain ⟨ps, af, rfl⟩ := core (some 13) (.binOp BinOp.eql 27 (.tmp 12) (.const (Value.int IntKind.i64 0)) 27) 4 none ho (by kernel_rfl)
      have e12 : Tx.getD 12 undef = .int .i64 0 := hK.is 1 ho (by kernel_rfl) (by subst hV; rfl)
      exact wpOp_plain ho rfl (by subst hV; go_simp; try rfl)
    · exact pl1 14 13 2 4 ho hK (by kernel_rfl) (by kernel_rfl) (by subst hV; rfl) (by subst hV; rfl) fun ps af e => k_mv e
    · obtain ⟨ps, af, rfl⟩ := core (some 15) (.load 24 (.tmp 4)) 24 (some (3, true)) ho (by kernel_rfl)
      have e4 : Tx.getD 4 undef = .pointer (some ⟨jz, 0, none⟩) := hK.of (by kernel_rfl) g4
      obtain ⟨hlz0, hlz1, hlz2, hlz3⟩ := lz _ _ _ hW
      exact wpOp_want ho ((wanted_of (d := 14) (b := true) rfl (by kernel_rfl) (hK.is 3 ho (by kernel_rfl) (by subst hV; rfl))).trans rfl) (by subst hV; go_simp; try rfl)
    · exact absurd (by decide) hic
    · obtain ⟨ps, af, rfl⟩ := core (some 17) (.pick (.tmp 14) (.tmp 16) (.const (Value.bool false))) 4 none ho (by kernel_rfl)
      have e14 : Tx.getD 14 undef = .bool true := hK.is 3 ho (by kernel_rfl) (by subst hV; rfl)
      have e16 : Tx.getD 16 undef = .bool ok := hK.is 5 ho (by kernel_rfl) (by subst hV; rfl)
      exact wpOp_plain ho rfl (by subst hV; go_simp; try rfl)
    · exact absurd (by decide) hic
    · exact pl1 3 17 6 4 ho hK (by kernel_rfl) (by kernel_rfl) (by subst hV; rfl) (by subst hV; rfl) fun ps af e => k_as e
  · have hcase : cx = 5 ∨ cx = 7 := by simpa using hc
    rcases hcase with rfl | rfl
    · obtain ⟨ps, af, rfl⟩ := core (some 16) (.call { callee := .value (.func 41), args := #[.tmp 15], argTypes := #[24] }) 4 (some (3, true)) ho (by kernel_rfl)
      have e15 : Tx.getD 15 undef = .agg #[.int .u64 (lb z 0 : Nat), .int .u64 (lb z 1 : Nat), .int .u64 (lb z 2 : Nat), .int .u64 (lb z 3 : Nat)] := hK.is 4 ho (by kernel_rfl) (by subst hV; rfl)
      have hW1 : PW (dx 5) (dx 7)  wx := hW
      have f7 := hda 7 (by decide) (by kernel_rfl)
      clear hdb hda
      rw [hd, f7] at hW1
      replace f7 := Lib.hid f7
      clear hd hW hc
      refine wpOp_want ho ((wanted_of (d := 14) (b := true) rfl (by kernel_rfl) (hK.is 3 ho (by kernel_rfl) (by subst hV; rfl))).trans rfl) ?_
      go_simp
      go_at_call 41
      refine (cl5 _ hW1).mono ?_
      rintro ex w2 ⟨rfl, hW2⟩
      subst hV
      first | refine ⟨undef, rfl, ?_⟩ | refine ⟨⟨undef, rfl⟩, ?_⟩
      simpa [updB, upd, f7.out] using hW2
    · obtain ⟨ps, af, rfl⟩ := core none (.store 24 (.tmp 2) (.tmp 11)) 0 none ho (by kernel_rfl)
      have e2 : Tx.getD 2 undef = .pointer (some ⟨ja, 0, none⟩) := hK.of (by kernel_rfl) g2
      have e11 : Tx.getD 11 undef = .agg #[.int .u64 (lb z 0 : Nat), .int .u64 (lb z 1 : Nat), .int .u64 (lb z 2 : Nat), .int .u64 (lb z 3 : Nat)] := hK.is 0 ho (by kernel_rfl) (by subst hV; rfl)
      have hW1 : PW (dx 5) (dx 7)  wx := hW
      have f5 := hdb 5 (by decide) (by kernel_rfl)
      clear hdb hda
      rw [hd, f5] at hW1
      replace f5 := Lib.hid f5
      clear hd hW hc
      obtain ⟨d0, d1, d2, d3, hk, hW2⟩ := cl7 _ hW1
      obtain ⟨c0, c1, c2, c3⟩ := hk.cells
      obtain ⟨z0, z1, z2, z3⟩ := hk.fros
      subst hV
      refine wpOp_plain ho rfl ?_
      go_simp
      simpa [updB, upd, f5.out] using hW2
  · have hW1 : PW (dx 5) (dx 7)  wx := hW
    rw [hd 5 (by decide), hd 7 (by decide)] at hW1
    have hQ := h _ hW1
    rw [hsz]
    subst hV hT
    refine cast (congrArg (fun Tx => Q .normal ⟨Tx, ds⟩ wx) ?_) hQ
    kernel_rfl
noncomputable def tMO : Array Oper := (Tryz.f60.body.bind fun c => findR c 2).getD #[]
def tM_m : List (List Nat) := [[], [], [], [], [], [], [], [], [7]]
set_option maxHeartbeats 16000000 in
theorem tM (PW : Bool → World → Prop) (ja jz z : Nat) (w : World)  (cl7 : ∀ (w : World), PW false w → ∃ (d0 d1 d2 d3 : Value), Bk 24 w ja #[d0, d1, d2, d3] ∧ PW true  ((((w.setCell ⟨ja, 0, none⟩ (.int .u64 (lb z 0 : Nat))).setCell ⟨ja, 1, none⟩ (.int .u64 (lb z 1 : Nat))).setCell ⟨ja, 2, none⟩ (.int .u64 (lb z 2 : Nat))).setCell ⟨ja, 3, none⟩ (.int .u64 (lb z 3 : Nat)))) (lz : ∀ (b7 : Bool) (w : World), PW b7  w → w.cell? ⟨jz, 0, none⟩ = some (.int .u64 (lb z 0 : Nat)) ∧ w.cell? ⟨jz, 1, none⟩ = some (.int .u64 (lb z 1 : Nat)) ∧ w.cell? ⟨jz, 2, none⟩ = some (.int .u64 (lb z 2 : Nat)) ∧ w.cell? ⟨jz, 3, none⟩ = some (.int .u64 (lb z 3 : Nat))) {t0 t1 t3 t6 t7 t8 t9 t10 t11 t12 t13 t14 t15 t16 t17 : Value} (w0 : PW false  w.drew) {ds : List Deferred} {Q : Exit → Act → World → Prop}
    (h : ∀ (w1 : World), PW true  w1 → Q .normal { tmps := #[t0, t1, .pointer (some ⟨ja, 0, none⟩), .bool false, .pointer (some ⟨jz, 0, none⟩), .int .i64 60, t6, t7, t8, t9, t10, .agg #[.int .u64 (lb z 0 : Nat), .int .u64 (lb z 1 : Nat), .int .u64 (lb z 2 : Nat), .int .u64 (lb z 3 : Nat)], .int .i64 60, .bool false, .bool false, undef, undef, .bool false], defers := ds } w1) :
    (Code.region 2 tMO true).wp Tryz.prog Q { tmps := #[t0, t1, .pointer (some ⟨ja, 0, none⟩), t3, .pointer (some ⟨jz, 0, none⟩), .int .i64 60, t6, t7, t8, t9, t10, t11, t12, t13, t14, t15, t16, t17], defers := ds } w := by
  have hsz : tMO.size = 9 := by kernel_rfl
  generalize hT : List.toArray _ = T0
  have hs : T0.size = 18 := by subst hT; rfl
  have g2 : T0.getD 2 undef = .pointer (some ⟨ja, 0, none⟩) := by subst hT; rfl
  have g4 : T0.getD 4 undef = .pointer (some ⟨jz, 0, none⟩) := by subst hT; rfl
  have g5 : T0.getD 5 undef = .int .i64 60 := by subst hT; rfl
  obtain ⟨W, hV⟩ : ∃ W : List ((Nat × (Value → Value)) ⊕ Value), W = [.inr (.agg #[.int .u64 (lb z 0 : Nat), .int .u64 (lb z 1 : Nat), .int .u64 (lb z 2 : Nat), .int .u64 (lb z 3 : Nat)]), .inr (.int .i64 60), .inr (.bool false), .inr (.bool false), .inr undef, .inr undef, .inr (.bool false), .inr undef, .inr (.bool false)] := ⟨_, rfl⟩
  refine wp_plan (by kernel_rfl) T0 ds [7] tM_m (mkV W) (fun dx yx wx => PW (dx 7)  wx) w (by rw [hs]; kernel_rfl) (by kernel_rfl) (by kernel_rfl) (by rw [hsz]; decide) (fun cx hc ix hne ha yx vx => mkV_fix (by rw [hV]; kernel_rfl) hne ha yx vx) (?key) (fun cx hc ox ho dx yx Tx wx hd hdb hda hK hW => ?_) ⟨fun k => undef, w0⟩ (fun dx yx wx hd hW => ?_)
  case key =>
    rw [hsz]
    refine all_step (all_step (all_step (all_step (all_step (all_step (all_step (all_step (all_step all_zero ?_) ?_) ?_) ?_) ?_) ?_) ?_) ?_) ?_
    all_goals
      intro ox ho hic dx yx Tx wx hdb hK hW
      replace hdb := Lib.hid hdb
    · obtain ⟨ps, af, rfl⟩ := core (some 11) (.load 24 (.tmp 4)) 24 none ho (by kernel_rfl)
      have e4 : Tx.getD 4 undef = .pointer (some ⟨jz, 0, none⟩) := hK.of (by kernel_rfl) g4
      obtain ⟨hlz0, hlz1, hlz2, hlz3⟩ := lz _ _ hW
      exact wpOp_plain ho rfl (by subst hV; go_simp; try rfl)
    · exact pl0 12 5 27 ho hK (by kernel_rfl) (by kernel_rfl) g5 (by subst hV; rfl) fun ps af e => k_mv e
    · obtain ⟨ps, af, rfl⟩ := core (some 13) (.binOp BinOp.eql 27 (.tmp 12) (.const (Value.int IntKind.i64 0)) 27) 4 none ho (by kernel_rfl)
      have e12 : Tx.getD 12 undef = .int .i64 60 := hK.is 1 ho (by kernel_rfl) (by subst hV; rfl)
      exact wpOp_plain ho rfl (by subst hV; go_simp; try rfl)
    · exact pl1 14 13 2 4 ho hK (by kernel_rfl) (by kernel_rfl) (by subst hV; rfl) (by subst hV; rfl) fun ps af e => k_mv e
    · exact psk 3 14 false true ho hK (by kernel_rfl) (by kernel_rfl) (by kernel_rfl) (by subst hV; rfl) rfl (by subst hV; rfl)
    · exact psk 3 14 false true ho hK (by kernel_rfl) (by kernel_rfl) (by kernel_rfl) (by subst hV; rfl) rfl (by subst hV; rfl)
    · obtain ⟨ps, af, rfl⟩ := core (some 17) (.pick (.tmp 14) (.tmp 16) (.const (Value.bool false))) 4 none ho (by kernel_rfl)
      have e14 : Tx.getD 14 undef = .bool false := hK.is 3 ho (by kernel_rfl) (by subst hV; rfl)
      have e16 : Tx.getD 16 undef = undef := hK.is 5 ho (by kernel_rfl) (by subst hV; rfl)
      exact wpOp_plain ho rfl (by subst hV; go_simp; try rfl)
    · exact absurd (by decide) hic
    · exact pl1 3 17 6 4 ho hK (by kernel_rfl) (by kernel_rfl) (by subst hV; rfl) (by subst hV; rfl) fun ps af e => k_as e
  · obtain rfl : cx = 7 := by simpa using hc
    · obtain ⟨ps, af, rfl⟩ := core none (.store 24 (.tmp 2) (.tmp 11)) 0 none ho (by kernel_rfl)
      have e2 : Tx.getD 2 undef = .pointer (some ⟨ja, 0, none⟩) := hK.of (by kernel_rfl) g2
      have e11 : Tx.getD 11 undef = .agg #[.int .u64 (lb z 0 : Nat), .int .u64 (lb z 1 : Nat), .int .u64 (lb z 2 : Nat), .int .u64 (lb z 3 : Nat)] := hK.is 0 ho (by kernel_rfl) (by subst hV; rfl)
      have hW1 : PW (dx 7)  wx := hW
      clear hdb hda
      rw [hd] at hW1
      clear hd hW hc
      obtain ⟨d0, d1, d2, d3, hk, hW2⟩ := cl7 _ hW1
      obtain ⟨c0, c1, c2, c3⟩ := hk.cells
      obtain ⟨z0, z1, z2, z3⟩ := hk.fros
      subst hV
      refine wpOp_plain ho rfl ?_
      go_simp
      simpa [updB, upd] using hW2
  · have hW1 : PW (dx 7)  wx := hW
    rw [hd 7 (by decide)] at hW1
    have hQ := h _ hW1
    rw [hsz]
    subst hV hT
    refine cast (congrArg (fun Tx => Q .normal ⟨Tx, ds⟩ wx) ?_) hQ
    kernel_rfl
noncomputable def tGO : Array Oper := (Tryz.f62.body.bind fun c => findR c 2).getD #[]
def tG_m : List (List Nat) := [[], [], [], [], [2], [2, 4], [2, 4], [2, 4], [], [2, 4, 8], [2, 4, 8, 9]]
set_option maxHeartbeats 16000000 in
theorem tG (PW : Bool → Bool → Bool → Bool → Value → World → Prop) (gr gb gq r b rb x y u v : Nat) (i k : Bool) (w : World)  (cl2 : ∀ (b8 : Bool) (y8 : Value) (w : World), PW false false b8 false y8 w → Calls Tryz.prog 113 #[.agg #[.int .u64 (lb r 0 : Nat), .int .u64 (lb r 1 : Nat), .int .u64 (lb r 2 : Nat), .int .u64 (lb r 3 : Nat)], .agg #[.int .u64 (lb b 0 : Nat), .int .u64 (lb b 1 : Nat), .int .u64 (lb b 2 : Nat), .int .u64 (lb b 3 : Nat)]] w fun e w1 => e = .returned (.agg #[.int .u64 (lb rb 0 : Nat), .int .u64 (lb rb 1 : Nat), .int .u64 (lb rb 2 : Nat), .int .u64 (lb rb 3 : Nat)]) ∧ PW true false b8 false y8 w1) (cl4 : ∀ (b8 : Bool) (y8 : Value) (w : World), PW true false b8 false y8 w → Calls Tryz.prog 93 #[.agg #[.int .u64 (lb rb 0 : Nat), .int .u64 (lb rb 1 : Nat), .int .u64 (lb rb 2 : Nat), .int .u64 (lb rb 3 : Nat)], .agg #[.int .u64 (lb x 0 : Nat), .int .u64 (lb x 1 : Nat), .int .u64 (lb x 2 : Nat), .int .u64 (lb x 3 : Nat), .int .u64 (lb y 0 : Nat), .int .u64 (lb y 1 : Nat), .int .u64 (lb y 2 : Nat), .int .u64 (lb y 3 : Nat), .bool i]] w fun e w1 => e = .returned (.tuple #[.agg #[.int .u64 (lb u 0 : Nat), .int .u64 (lb u 1 : Nat), .int .u64 (lb u 2 : Nat), .int .u64 (lb u 3 : Nat), .int .u64 (lb v 0 : Nat), .int .u64 (lb v 1 : Nat), .int .u64 (lb v 2 : Nat), .int .u64 (lb v 3 : Nat), .bool k], .int .i64 0]) ∧ PW true true b8 false y8 w1) (cl8 : ∀ (b2 b4 : Bool) (y8 : Value) (w : World), PW b2 b4 false false y8 w → PW b2 b4 true false (.pointer (some ⟨w.heap.size, 0, none⟩)) (w.alloc (.cells #[.int .u64 0, .int .u64 0, .int .u64 0, .int .u64 0, .int .u64 0, .int .u64 0, .int .u64 0, .int .u64 0, .bool false] 26))) (cl9 : ∀ (y8 : Value) (w : World), PW true true true false y8 w → ∃ (g : Nat) (d0 d1 d2 d3 d4 d5 d6 d7 d8 : Value), y8 = .pointer (some ⟨g, 0, none⟩) ∧ Bk 26 w g #[d0, d1, d2, d3, d4, d5, d6, d7, d8] ∧ PW true true true true y8 (((((((((w.setCell ⟨g, 0, none⟩ (.int .u64 (lb u 0 : Nat))).setCell ⟨g, 1, none⟩ (.int .u64 (lb u 1 : Nat))).setCell ⟨g, 2, none⟩ (.int .u64 (lb u 2 : Nat))).setCell ⟨g, 3, none⟩ (.int .u64 (lb u 3 : Nat))).setCell ⟨g, 4, none⟩ (.int .u64 (lb v 0 : Nat))).setCell ⟨g, 5, none⟩ (.int .u64 (lb v 1 : Nat))).setCell ⟨g, 6, none⟩ (.int .u64 (lb v 2 : Nat))).setCell ⟨g, 7, none⟩ (.int .u64 (lb v 3 : Nat))).setCell ⟨g, 8, none⟩ (.bool k))) (lr : ∀ (b2 b4 b8 b9 : Bool) (y8 : Value) (w : World), PW b2 b4 b8 b9 y8 w → w.cell? ⟨gr, 0, none⟩ = some (.int .u64 (lb r 0 : Nat)) ∧ w.cell? ⟨gr, 1, none⟩ = some (.int .u64 (lb r 1 : Nat)) ∧ w.cell? ⟨gr, 2, none⟩ = some (.int .u64 (lb r 2 : Nat)) ∧ w.cell? ⟨gr, 3, none⟩ = some (.int .u64 (lb r 3 : Nat))) (lb0 : ∀ (b2 b4 b8 b9 : Bool) (y8 : Value) (w : World), PW b2 b4 b8 b9 y8 w → w.cell? ⟨gb, 0, none⟩ = some (.int .u64 (lb b 0 : Nat)) ∧ w.cell? ⟨gb, 1, none⟩ = some (.int .u64 (lb b 1 : Nat)) ∧ w.cell? ⟨gb, 2, none⟩ = some (.int .u64 (lb b 2 : Nat)) ∧ w.cell? ⟨gb, 3, none⟩ = some (.int .u64 (lb b 3 : Nat))) (lq : ∀ (b2 b4 b8 b9 : Bool) (y8 : Value) (w : World), PW b2 b4 b8 b9 y8 w → w.cell? ⟨gq, 0, none⟩ = some (.int .u64 (lb x 0 : Nat)) ∧ w.cell? ⟨gq, 1, none⟩ = some (.int .u64 (lb x 1 : Nat)) ∧ w.cell? ⟨gq, 2, none⟩ = some (.int .u64 (lb x 2 : Nat)) ∧ w.cell? ⟨gq, 3, none⟩ = some (.int .u64 (lb x 3 : Nat)) ∧ w.cell? ⟨gq, 4, none⟩ = some (.int .u64 (lb y 0 : Nat)) ∧ w.cell? ⟨gq, 5, none⟩ = some (.int .u64 (lb y 1 : Nat)) ∧ w.cell? ⟨gq, 6, none⟩ = some (.int .u64 (lb y 2 : Nat)) ∧ w.cell? ⟨gq, 7, none⟩ = some (.int .u64 (lb y 3 : Nat)) ∧ w.cell? ⟨gq, 8, none⟩ = some (.bool i)) {t0 t1 t2 t3 t5 t7 t8 t10 t11 t12 t13 t14 t15 t16 t17 t18 t19 t20 t21 t22 t23 t24 t25 t26 t27 t28 t29 t30 t31 t32 t33 t34 t35 t36 t37 t38 t39 t40 t41 t42 : Value} (w0 : PW false false false false t10 w.drew) {ds : List Deferred} {Q : Exit → Act → World → Prop}
    (h : ∀ (y8 : Value) (w1 : World), PW true true true true y8 w1 → Q .normal { tmps := #[t0, t1, t2, t3, .pointer (some ⟨gq, 0, none⟩), t5, .pointer (some ⟨gr, 0, none⟩), t7, t8, .pointer (some ⟨gb, 0, none⟩), y8, .int .i64 0, t12, t13, t14, t15, .tuple #[.agg #[.int .u64 (lb u 0 : Nat), .int .u64 (lb u 1 : Nat), .int .u64 (lb u 2 : Nat), .int .u64 (lb u 3 : Nat), .int .u64 (lb v 0 : Nat), .int .u64 (lb v 1 : Nat), .int .u64 (lb v 2 : Nat), .int .u64 (lb v 3 : Nat), .bool k], .int .i64 0], .agg #[.int .u64 (lb r 0 : Nat), .int .u64 (lb r 1 : Nat), .int .u64 (lb r 2 : Nat), .int .u64 (lb r 3 : Nat)], .agg #[.int .u64 (lb b 0 : Nat), .int .u64 (lb b 1 : Nat), .int .u64 (lb b 2 : Nat), .int .u64 (lb b 3 : Nat)], .agg #[.int .u64 (lb rb 0 : Nat), .int .u64 (lb rb 1 : Nat), .int .u64 (lb rb 2 : Nat), .int .u64 (lb rb 3 : Nat)], .agg #[.int .u64 (lb x 0 : Nat), .int .u64 (lb x 1 : Nat), .int .u64 (lb x 2 : Nat), .int .u64 (lb x 3 : Nat), .int .u64 (lb y 0 : Nat), .int .u64 (lb y 1 : Nat), .int .u64 (lb y 2 : Nat), .int .u64 (lb y 3 : Nat), .bool i], .tuple #[.agg #[.int .u64 (lb u 0 : Nat), .int .u64 (lb u 1 : Nat), .int .u64 (lb u 2 : Nat), .int .u64 (lb u 3 : Nat), .int .u64 (lb v 0 : Nat), .int .u64 (lb v 1 : Nat), .int .u64 (lb v 2 : Nat), .int .u64 (lb v 3 : Nat), .bool k], .int .i64 0], .agg #[.int .u64 (lb u 0 : Nat), .int .u64 (lb u 1 : Nat), .int .u64 (lb u 2 : Nat), .int .u64 (lb u 3 : Nat), .int .u64 (lb v 0 : Nat), .int .u64 (lb v 1 : Nat), .int .u64 (lb v 2 : Nat), .int .u64 (lb v 3 : Nat), .bool k], .int .i64 0, t24, t25, t26, t27, t28, t29, t30, t31, t32, t33, t34, t35, t36, t37, t38, t39, t40, t41, t42], defers := ds } w1) :
    (Code.region 2 tGO true).wp Tryz.prog Q { tmps := #[t0, t1, t2, t3, .pointer (some ⟨gq, 0, none⟩), t5, .pointer (some ⟨gr, 0, none⟩), t7, t8, .pointer (some ⟨gb, 0, none⟩), t10, t11, t12, t13, t14, t15, t16, t17, t18, t19, t20, t21, t22, t23, t24, t25, t26, t27, t28, t29, t30, t31, t32, t33, t34, t35, t36, t37, t38, t39, t40, t41, t42], defers := ds } w := by
  have hsz : tGO.size = 11 := by kernel_rfl
  generalize hT : List.toArray _ = T0
  have hs : T0.size = 43 := by subst hT; rfl
  have g4 : T0.getD 4 undef = .pointer (some ⟨gq, 0, none⟩) := by subst hT; rfl
  have g6 : T0.getD 6 undef = .pointer (some ⟨gr, 0, none⟩) := by subst hT; rfl
  have g9 : T0.getD 9 undef = .pointer (some ⟨gb, 0, none⟩) := by subst hT; rfl
  obtain ⟨W, hV⟩ : ∃ W : List ((Nat × (Value → Value)) ⊕ Value), W = [.inr (.agg #[.int .u64 (lb r 0 : Nat), .int .u64 (lb r 1 : Nat), .int .u64 (lb r 2 : Nat), .int .u64 (lb r 3 : Nat)]), .inr (.agg #[.int .u64 (lb b 0 : Nat), .int .u64 (lb b 1 : Nat), .int .u64 (lb b 2 : Nat), .int .u64 (lb b 3 : Nat)]), .inr (.agg #[.int .u64 (lb rb 0 : Nat), .int .u64 (lb rb 1 : Nat), .int .u64 (lb rb 2 : Nat), .int .u64 (lb rb 3 : Nat)]), .inr (.agg #[.int .u64 (lb x 0 : Nat), .int .u64 (lb x 1 : Nat), .int .u64 (lb x 2 : Nat), .int .u64 (lb x 3 : Nat), .int .u64 (lb y 0 : Nat), .int .u64 (lb y 1 : Nat), .int .u64 (lb y 2 : Nat), .int .u64 (lb y 3 : Nat), .bool i]), .inr (.tuple #[.agg #[.int .u64 (lb u 0 : Nat), .int .u64 (lb u 1 : Nat), .int .u64 (lb u 2 : Nat), .int .u64 (lb u 3 : Nat), .int .u64 (lb v 0 : Nat), .int .u64 (lb v 1 : Nat), .int .u64 (lb v 2 : Nat), .int .u64 (lb v 3 : Nat), .bool k], .int .i64 0]), .inr (.tuple #[.agg #[.int .u64 (lb u 0 : Nat), .int .u64 (lb u 1 : Nat), .int .u64 (lb u 2 : Nat), .int .u64 (lb u 3 : Nat), .int .u64 (lb v 0 : Nat), .int .u64 (lb v 1 : Nat), .int .u64 (lb v 2 : Nat), .int .u64 (lb v 3 : Nat), .bool k], .int .i64 0]), .inr (.agg #[.int .u64 (lb u 0 : Nat), .int .u64 (lb u 1 : Nat), .int .u64 (lb u 2 : Nat), .int .u64 (lb u 3 : Nat), .int .u64 (lb v 0 : Nat), .int .u64 (lb v 1 : Nat), .int .u64 (lb v 2 : Nat), .int .u64 (lb v 3 : Nat), .bool k]), .inr (.int .i64 0), .inl (8, id), .inr undef, .inr (.int .i64 0)] := ⟨_, rfl⟩
  refine wp_plan (by kernel_rfl) T0 ds [2, 4, 8, 9] tG_m (mkV W) (fun dx yx wx => PW (dx 2) (dx 4) (dx 8) (dx 9) (yx 8) wx) w (by rw [hs]; kernel_rfl) (by kernel_rfl) (by kernel_rfl) (by rw [hsz]; decide) (fun cx hc ix hne ha yx vx => mkV_fix (by rw [hV]; kernel_rfl) hne ha yx vx) (?key) (fun cx hc ox ho dx yx Tx wx hd hdb hda hK hW => ?_) ⟨fun k => if k = 8 then t10 else undef, w0⟩ (fun dx yx wx hd hW => ?_)
  case key =>
    rw [hsz]
    refine all_step (all_step (all_step (all_step (all_step (all_step (all_step (all_step (all_step (all_step (all_step all_zero ?_) ?_) ?_) ?_) ?_) ?_) ?_) ?_) ?_) ?_) ?_
    all_goals
      intro ox ho hic dx yx Tx wx hdb hK hW
      replace hdb := Lib.hid hdb
    · obtain ⟨ps, af, rfl⟩ := core (some 17) (.load 24 (.tmp 6)) 24 none ho (by kernel_rfl)
      have e6 : Tx.getD 6 undef = .pointer (some ⟨gr, 0, none⟩) := hK.of (by kernel_rfl) g6
      obtain ⟨hlr0, hlr1, hlr2, hlr3⟩ := lr _ _ _ _ _ _ hW
      exact wpOp_plain ho rfl (by subst hV; go_simp; try rfl)
    · obtain ⟨ps, af, rfl⟩ := core (some 18) (.load 24 (.tmp 9)) 24 none ho (by kernel_rfl)
      have e9 : Tx.getD 9 undef = .pointer (some ⟨gb, 0, none⟩) := hK.of (by kernel_rfl) g9
      obtain ⟨hlb00, hlb01, hlb02, hlb03⟩ := lb0 _ _ _ _ _ _ hW
      exact wpOp_plain ho rfl (by subst hV; go_simp; try rfl)
    · exact absurd (by decide) hic
    · obtain ⟨ps, af, rfl⟩ := core (some 20) (.load 26 (.tmp 4)) 26 none ho (by kernel_rfl)
      have e4 : Tx.getD 4 undef = .pointer (some ⟨gq, 0, none⟩) := hK.of (by kernel_rfl) g4
      obtain ⟨hlq0, hlq1, hlq2, hlq3, hlq4, hlq5, hlq6, hlq7, hlq8⟩ := lq _ _ _ _ _ _ hW
      exact wpOp_plain ho rfl (by subst hV; go_simp; try rfl)
    · exact absurd (by decide) hic
    · exact pl1 16 21 4 28 ho hK (by kernel_rfl) (by kernel_rfl) (by subst hV; rfl) (by subst hV; rfl) fun ps af e => k_mv e
    · obtain ⟨ps, af, rfl⟩ := core (some 22) (.extract (.tmp 16) 0) 26 none ho (by kernel_rfl)
      have e16 : Tx.getD 16 undef = .tuple #[.agg #[.int .u64 (lb u 0 : Nat), .int .u64 (lb u 1 : Nat), .int .u64 (lb u 2 : Nat), .int .u64 (lb u 3 : Nat), .int .u64 (lb v 0 : Nat), .int .u64 (lb v 1 : Nat), .int .u64 (lb v 2 : Nat), .int .u64 (lb v 3 : Nat), .bool k], .int .i64 0] := hK.is 5 ho (by kernel_rfl) (by subst hV; rfl)
      exact wpOp_plain ho rfl (by subst hV; go_simp; try rfl)
    · obtain ⟨ps, af, rfl⟩ := core (some 23) (.extract (.tmp 16) 1) 27 none ho (by kernel_rfl)
      have e16 : Tx.getD 16 undef = .tuple #[.agg #[.int .u64 (lb u 0 : Nat), .int .u64 (lb u 1 : Nat), .int .u64 (lb u 2 : Nat), .int .u64 (lb u 3 : Nat), .int .u64 (lb v 0 : Nat), .int .u64 (lb v 1 : Nat), .int .u64 (lb v 2 : Nat), .int .u64 (lb v 3 : Nat), .bool k], .int .i64 0] := hK.is 5 ho (by kernel_rfl) (by subst hV; rfl)
      exact wpOp_plain ho rfl (by subst hV; go_simp; try rfl)
    · exact absurd (by decide) hic
    · exact absurd (by decide) hic
    · exact pl1 11 23 7 27 ho hK (by kernel_rfl) (by kernel_rfl) (by subst hV; rfl) (by subst hV; rfl) fun ps af e => k_as e
  · have hcase : cx = 2 ∨ cx = 4 ∨ cx = 8 ∨ cx = 9 := by simpa using hc
    rcases hcase with rfl | rfl | rfl | rfl
    · obtain ⟨ps, af, rfl⟩ := core (some 19) (.call { callee := .value (.func 113), args := #[.tmp 17, .tmp 18], argTypes := #[24, 24] }) 24 none ho (by kernel_rfl)
      have e17 : Tx.getD 17 undef = .agg #[.int .u64 (lb r 0 : Nat), .int .u64 (lb r 1 : Nat), .int .u64 (lb r 2 : Nat), .int .u64 (lb r 3 : Nat)] := hK.is 0 ho (by kernel_rfl) (by subst hV; rfl)
      have e18 : Tx.getD 18 undef = .agg #[.int .u64 (lb b 0 : Nat), .int .u64 (lb b 1 : Nat), .int .u64 (lb b 2 : Nat), .int .u64 (lb b 3 : Nat)] := hK.is 1 ho (by kernel_rfl) (by subst hV; rfl)
      have hW1 : PW (dx 2) (dx 4) (dx 8) (dx 9) (yx 8) wx := hW
      have f4 := hda 4 (by decide) (by kernel_rfl)
      have f9 := hda 9 (by decide) (by kernel_rfl)
      clear hdb hda
      rw [hd, f4, f9] at hW1
      replace f4 := Lib.hid f4
      replace f9 := Lib.hid f9
      clear hd hW hc
      refine wpOp_plain ho rfl ?_
      go_simp
      go_at_call 113
      refine (cl2 _ _ _ hW1).mono ?_
      rintro ex w2 ⟨rfl, hW2⟩
      subst hV
      first | refine ⟨undef, rfl, ?_⟩ | refine ⟨⟨undef, rfl⟩, ?_⟩
      simpa [updB, upd, f4.out, f9.out] using hW2
    · obtain ⟨ps, af, rfl⟩ := core (some 21) (.call { callee := .value (.func 93), args := #[.tmp 19, .tmp 20], argTypes := #[24, 26] }) 28 none ho (by kernel_rfl)
      have e19 : Tx.getD 19 undef = .agg #[.int .u64 (lb rb 0 : Nat), .int .u64 (lb rb 1 : Nat), .int .u64 (lb rb 2 : Nat), .int .u64 (lb rb 3 : Nat)] := hK.is 2 ho (by kernel_rfl) (by subst hV; rfl)
      have e20 : Tx.getD 20 undef = .agg #[.int .u64 (lb x 0 : Nat), .int .u64 (lb x 1 : Nat), .int .u64 (lb x 2 : Nat), .int .u64 (lb x 3 : Nat), .int .u64 (lb y 0 : Nat), .int .u64 (lb y 1 : Nat), .int .u64 (lb y 2 : Nat), .int .u64 (lb y 3 : Nat), .bool i] := hK.is 3 ho (by kernel_rfl) (by subst hV; rfl)
      have hW1 : PW (dx 2) (dx 4) (dx 8) (dx 9) (yx 8) wx := hW
      have f2 := hdb 2 (by decide) (by kernel_rfl)
      have f9 := hda 9 (by decide) (by kernel_rfl)
      clear hdb hda
      rw [hd, f2, f9] at hW1
      replace f2 := Lib.hid f2
      replace f9 := Lib.hid f9
      clear hd hW hc
      refine wpOp_plain ho rfl ?_
      go_simp
      go_at_call 93
      refine (cl4 _ _ _ hW1).mono ?_
      rintro ex w2 ⟨rfl, hW2⟩
      subst hV
      first | refine ⟨undef, rfl, ?_⟩ | refine ⟨⟨undef, rfl⟩, ?_⟩
      simpa [updB, upd, f2.out, f9.out] using hW2
    · obtain ⟨ps, af, rfl⟩ := core (some 10) (.alloc 26) 0 none ho (by kernel_rfl)
      have hW1 : PW (dx 2) (dx 4) (dx 8) (dx 9) (yx 8) wx := hW
      have f9 := hda 9 (by decide) (by kernel_rfl)
      clear hdb hda
      rw [hd, f9] at hW1
      replace f9 := Lib.hid f9
      clear hd hW hc
      have hW2 := cl8 _ _ _ _ hW1
      subst hV
      refine wpOp_plain ho rfl ?_
      go_simp
      refine ⟨_, rfl, ?_⟩
      simpa [updB, upd, f9.out] using hW2
    · obtain ⟨ps, af, rfl⟩ := core none (.store 26 (.tmp 10) (.tmp 22)) 0 none ho (by kernel_rfl)
      have e10 : Tx.getD 10 undef = yx 8 := hK.is 8 ho (by kernel_rfl) (by subst hV; rfl)
      have e22 : Tx.getD 22 undef = .agg #[.int .u64 (lb u 0 : Nat), .int .u64 (lb u 1 : Nat), .int .u64 (lb u 2 : Nat), .int .u64 (lb u 3 : Nat), .int .u64 (lb v 0 : Nat), .int .u64 (lb v 1 : Nat), .int .u64 (lb v 2 : Nat), .int .u64 (lb v 3 : Nat), .bool k] := hK.is 6 ho (by kernel_rfl) (by subst hV; rfl)
      have hW1 : PW (dx 2) (dx 4) (dx 8) (dx 9) (yx 8) wx := hW
      have f2 := hdb 2 (by decide) (by kernel_rfl)
      have f4 := hdb 4 (by decide) (by kernel_rfl)
      have f8 := hdb 8 (by decide) (by kernel_rfl)
      clear hdb hda
      rw [hd, f2, f4, f8] at hW1
      replace f2 := Lib.hid f2
      replace f4 := Lib.hid f4
      replace f8 := Lib.hid f8
      clear hd hW hc
      obtain ⟨g, d0, d1, d2, d3, d4, d5, d6, d7, d8, e6, hk, hW2⟩ := cl9 _ _ hW1
      rw [e6] at e10
      obtain ⟨⟨c0, c1, c2, c3⟩, ⟨c4, c5, c6, c7⟩, c8⟩ := hk.cells9
      obtain ⟨⟨z0, z1, z2, z3⟩, ⟨z4, z5, z6, z7⟩, z8⟩ := hk.fros9
      subst hV
      refine wpOp_plain ho rfl ?_
      go_simp
      simpa [updB, upd, f2.out, f4.out, f8.out] using hW2
  · have hW1 : PW (dx 2) (dx 4) (dx 8) (dx 9) (yx 8) wx := hW
    rw [hd 2 (by decide), hd 4 (by decide), hd 8 (by decide), hd 9 (by decide)] at hW1
    have hQ := h _ _ hW1
    rw [hsz]
    subst hV hT
    refine cast (congrArg (fun Tx => Q .normal ⟨Tx, ds⟩ wx) ?_) hQ
    kernel_rfl
noncomputable def tHO : Array Oper := (Tryz.f62.body.bind fun c => findR c 3).getD #[]
def tH_m : List (List Nat) := [[], [], [], [2], [], [2, 3], [2, 3, 5], [2, 3, 5], [2, 3, 5], [], [2, 3, 5, 9], [2, 3, 5, 9, 10]]
set_option maxHeartbeats 16000000 in
theorem tH (PW : Bool → Bool → Bool → Bool → Bool → Value → World → Prop) (ge gb gq e0 b eb x y u v m n : Nat) (i k o : Bool) (w : World)  (cl2 : ∀ (b9 : Bool) (y9 : Value) (w : World), PW false false false b9 false y9 w → Calls Tryz.prog 113 #[.agg #[.int .u64 (lb e0 0 : Nat), .int .u64 (lb e0 1 : Nat), .int .u64 (lb e0 2 : Nat), .int .u64 (lb e0 3 : Nat)], .agg #[.int .u64 (lb b 0 : Nat), .int .u64 (lb b 1 : Nat), .int .u64 (lb b 2 : Nat), .int .u64 (lb b 3 : Nat)]] w fun e w1 => e = .returned (.agg #[.int .u64 (lb eb 0 : Nat), .int .u64 (lb eb 1 : Nat), .int .u64 (lb eb 2 : Nat), .int .u64 (lb eb 3 : Nat)]) ∧ PW true false false b9 false y9 w1) (cl3 : ∀ (b9 : Bool) (y9 : Value) (w : World), PW true false false b9 false y9 w → Calls Tryz.prog 42 #[.agg #[.int .u64 (lb eb 0 : Nat), .int .u64 (lb eb 1 : Nat), .int .u64 (lb eb 2 : Nat), .int .u64 (lb eb 3 : Nat)]] w fun e w1 => e = .returned (.agg #[.int .u64 (lb x 0 : Nat), .int .u64 (lb x 1 : Nat), .int .u64 (lb x 2 : Nat), .int .u64 (lb x 3 : Nat), .int .u64 (lb y 0 : Nat), .int .u64 (lb y 1 : Nat), .int .u64 (lb y 2 : Nat), .int .u64 (lb y 3 : Nat), .bool i]) ∧ PW true true false b9 false y9 w1) (cl5 : ∀ (b9 : Bool) (y9 : Value) (w : World), PW true true false b9 false y9 w → Calls Tryz.prog 114 #[.agg #[.int .u64 (lb x 0 : Nat), .int .u64 (lb x 1 : Nat), .int .u64 (lb x 2 : Nat), .int .u64 (lb x 3 : Nat), .int .u64 (lb y 0 : Nat), .int .u64 (lb y 1 : Nat), .int .u64 (lb y 2 : Nat), .int .u64 (lb y 3 : Nat), .bool i], .agg #[.int .u64 (lb u 0 : Nat), .int .u64 (lb u 1 : Nat), .int .u64 (lb u 2 : Nat), .int .u64 (lb u 3 : Nat), .int .u64 (lb v 0 : Nat), .int .u64 (lb v 1 : Nat), .int .u64 (lb v 2 : Nat), .int .u64 (lb v 3 : Nat), .bool k]] w fun e w1 => e = .returned (.tuple #[.agg #[.int .u64 (lb m 0 : Nat), .int .u64 (lb m 1 : Nat), .int .u64 (lb m 2 : Nat), .int .u64 (lb m 3 : Nat), .int .u64 (lb n 0 : Nat), .int .u64 (lb n 1 : Nat), .int .u64 (lb n 2 : Nat), .int .u64 (lb n 3 : Nat), .bool o], .int .i64 0]) ∧ PW true true true b9 false y9 w1) (cl9 : ∀ (b2 b3 b5 : Bool) (y9 : Value) (w : World), PW b2 b3 b5 false false y9 w → PW b2 b3 b5 true false (.pointer (some ⟨w.heap.size, 0, none⟩)) (w.alloc (.cells #[.int .u64 0, .int .u64 0, .int .u64 0, .int .u64 0, .int .u64 0, .int .u64 0, .int .u64 0, .int .u64 0, .bool false] 26))) (cl10 : ∀ (y9 : Value) (w : World), PW true true true true false y9 w → ∃ (g : Nat) (d0 d1 d2 d3 d4 d5 d6 d7 d8 : Value), y9 = .pointer (some ⟨g, 0, none⟩) ∧ Bk 26 w g #[d0, d1, d2, d3, d4, d5, d6, d7, d8] ∧ PW true true true true true y9 (((((((((w.setCell ⟨g, 0, none⟩ (.int .u64 (lb m 0 : Nat))).setCell ⟨g, 1, none⟩ (.int .u64 (lb m 1 : Nat))).setCell ⟨g, 2, none⟩ (.int .u64 (lb m 2 : Nat))).setCell ⟨g, 3, none⟩ (.int .u64 (lb m 3 : Nat))).setCell ⟨g, 4, none⟩ (.int .u64 (lb n 0 : Nat))).setCell ⟨g, 5, none⟩ (.int .u64 (lb n 1 : Nat))).setCell ⟨g, 6, none⟩ (.int .u64 (lb n 2 : Nat))).setCell ⟨g, 7, none⟩ (.int .u64 (lb n 3 : Nat))).setCell ⟨g, 8, none⟩ (.bool o))) (le : ∀ (b2 b3 b5 b9 b10 : Bool) (y9 : Value) (w : World), PW b2 b3 b5 b9 b10 y9 w → w.cell? ⟨ge, 0, none⟩ = some (.int .u64 (lb e0 0 : Nat)) ∧ w.cell? ⟨ge, 1, none⟩ = some (.int .u64 (lb e0 1 : Nat)) ∧ w.cell? ⟨ge, 2, none⟩ = some (.int .u64 (lb e0 2 : Nat)) ∧ w.cell? ⟨ge, 3, none⟩ = some (.int .u64 (lb e0 3 : Nat))) (lb0 : ∀ (b2 b3 b5 b9 b10 : Bool) (y9 : Value) (w : World), PW b2 b3 b5 b9 b10 y9 w → w.cell? ⟨gb, 0, none⟩ = some (.int .u64 (lb b 0 : Nat)) ∧ w.cell? ⟨gb, 1, none⟩ = some (.int .u64 (lb b 1 : Nat)) ∧ w.cell? ⟨gb, 2, none⟩ = some (.int .u64 (lb b 2 : Nat)) ∧ w.cell? ⟨gb, 3, none⟩ = some (.int .u64 (lb b 3 : Nat))) (lq : ∀ (b2 b3 b5 b9 b10 : Bool) (y9 : Value) (w : World), PW b2 b3 b5 b9 b10 y9 w → w.cell? ⟨gq, 0, none⟩ = some (.int .u64 (lb u 0 : Nat)) ∧ w.cell? ⟨gq, 1, none⟩ = some (.int .u64 (lb u 1 : Nat)) ∧ w.cell? ⟨gq, 2, none⟩ = some (.int .u64 (lb u 2 : Nat)) ∧ w.cell? ⟨gq, 3, none⟩ = some (.int .u64 (lb u 3 : Nat)) ∧ w.cell? ⟨gq, 4, none⟩ = some (.int .u64 (lb v 0 : Nat)) ∧ w.cell? ⟨gq, 5, none⟩ = some (.int .u64 (lb v 1 : Nat)) ∧ w.cell? ⟨gq, 6, none⟩ = some (.int .u64 (lb v 2 : Nat)) ∧ w.cell? ⟨gq, 7, none⟩ = some (.int .u64 (lb v 3 : Nat)) ∧ w.cell? ⟨gq, 8, none⟩ = some (.bool k)) {t0 t1 t2 t3 t4 t6 t7 t8 t11 t12 t13 t14 t15 t16 t17 t18 t19 t20 t21 t22 t23 t24 t25 t26 t27 t28 t29 t30 t31 t32 t33 t34 t35 t36 t37 t38 t39 t40 t41 t42 : Value} (w0 : PW false false false false false t12 w.drew) {ds : List Deferred} {Q : Exit → Act → World → Prop}
    (h : ∀ (y9 : Value) (w1 : World), PW true true true true true y9 w1 → Q .normal { tmps := #[t0, t1, t2, t3, t4, .pointer (some ⟨ge, 0, none⟩), t6, t7, t8, .pointer (some ⟨gb, 0, none⟩), .pointer (some ⟨gq, 0, none⟩), t11, y9, .int .i64 0, t14, t15, t16, t17, t18, t19, t20, t21, t22, t23, .tuple #[.agg #[.int .u64 (lb m 0 : Nat), .int .u64 (lb m 1 : Nat), .int .u64 (lb m 2 : Nat), .int .u64 (lb m 3 : Nat), .int .u64 (lb n 0 : Nat), .int .u64 (lb n 1 : Nat), .int .u64 (lb n 2 : Nat), .int .u64 (lb n 3 : Nat), .bool o], .int .i64 0], .agg #[.int .u64 (lb e0 0 : Nat), .int .u64 (lb e0 1 : Nat), .int .u64 (lb e0 2 : Nat), .int .u64 (lb e0 3 : Nat)], .agg #[.int .u64 (lb b 0 : Nat), .int .u64 (lb b 1 : Nat), .int .u64 (lb b 2 : Nat), .int .u64 (lb b 3 : Nat)], .agg #[.int .u64 (lb eb 0 : Nat), .int .u64 (lb eb 1 : Nat), .int .u64 (lb eb 2 : Nat), .int .u64 (lb eb 3 : Nat)], .agg #[.int .u64 (lb x 0 : Nat), .int .u64 (lb x 1 : Nat), .int .u64 (lb x 2 : Nat), .int .u64 (lb x 3 : Nat), .int .u64 (lb y 0 : Nat), .int .u64 (lb y 1 : Nat), .int .u64 (lb y 2 : Nat), .int .u64 (lb y 3 : Nat), .bool i], .agg #[.int .u64 (lb u 0 : Nat), .int .u64 (lb u 1 : Nat), .int .u64 (lb u 2 : Nat), .int .u64 (lb u 3 : Nat), .int .u64 (lb v 0 : Nat), .int .u64 (lb v 1 : Nat), .int .u64 (lb v 2 : Nat), .int .u64 (lb v 3 : Nat), .bool k], .tuple #[.agg #[.int .u64 (lb m 0 : Nat), .int .u64 (lb m 1 : Nat), .int .u64 (lb m 2 : Nat), .int .u64 (lb m 3 : Nat), .int .u64 (lb n 0 : Nat), .int .u64 (lb n 1 : Nat), .int .u64 (lb n 2 : Nat), .int .u64 (lb n 3 : Nat), .bool o], .int .i64 0], .agg #[.int .u64 (lb m 0 : Nat), .int .u64 (lb m 1 : Nat), .int .u64 (lb m 2 : Nat), .int .u64 (lb m 3 : Nat), .int .u64 (lb n 0 : Nat), .int .u64 (lb n 1 : Nat), .int .u64 (lb n 2 : Nat), .int .u64 (lb n 3 : Nat), .bool o], .int .i64 0, t33, t34, t35, t36, t37, t38, t39, t40, t41, t42], defers := ds } w1) :
    (Code.region 3 tHO true).wp Tryz.prog Q { tmps := #[t0, t1, t2, t3, t4, .pointer (some ⟨ge, 0, none⟩), t6, t7, t8, .pointer (some ⟨gb, 0, none⟩), .pointer (some ⟨gq, 0, none⟩), t11, t12, t13, t14, t15, t16, t17, t18, t19, t20, t21, t22, t23, t24, t25, t26, t27, t28, t29, t30, t31, t32, t33, t34, t35, t36, t37, t38, t39, t40, t41, t42], defers := ds } w := by
  have hsz : tHO.size = 12 := by kernel_rfl
  generalize hT : List.toArray _ = T0
  have hs : T0.size = 43 := by subst hT; rfl
  have g5 : T0.getD 5 undef = .pointer (some ⟨ge, 0, none⟩) := by subst hT; rfl
  have g9 : T0.getD 9 undef = .pointer (some ⟨gb, 0, none⟩) := by subst hT; rfl
  have g10 : T0.getD 10 undef = .pointer (some ⟨gq, 0, none⟩) := by subst hT; rfl
  obtain ⟨W, hV⟩ : ∃ W : List ((Nat × (Value → Value)) ⊕ Value), W = [.inr (.agg #[.int .u64 (lb e0 0 : Nat), .int .u64 (lb e0 1 : Nat), .int .u64 (lb e0 2 : Nat), .int .u64 (lb e0 3 : Nat)]), .inr (.agg #[.int .u64 (lb b 0 : Nat), .int .u64 (lb b 1 : Nat), .int .u64 (lb b 2 : Nat), .int .u64 (lb b 3 : Nat)]), .inr (.agg #[.int .u64 (lb eb 0 : Nat), .int .u64 (lb eb 1 : Nat), .int .u64 (lb eb 2 : Nat), .int .u64 (lb eb 3 : Nat)]), .inr (.agg #[.int .u64 (lb x 0 : Nat), .int .u64 (lb x 1 : Nat), .int .u64 (lb x 2 : Nat), .int .u64 (lb x 3 : Nat), .int .u64 (lb y 0 : Nat), .int .u64 (lb y 1 : Nat), .int .u64 (lb y 2 : Nat), .int .u64 (lb y 3 : Nat), .bool i]), .inr (.agg #[.int .u64 (lb u 0 : Nat), .int .u64 (lb u 1 : Nat), .int .u64 (lb u 2 : Nat), .int .u64 (lb u 3 : Nat), .int .u64 (lb v 0 : Nat), .int .u64 (lb v 1 : Nat), .int .u64 (lb v 2 : Nat), .int .u64 (lb v 3 : Nat), .bool k]), .inr (.tuple #[.agg #[.int .u64 (lb m 0 : Nat), .int .u64 (lb m 1 : Nat), .int .u64 (lb m 2 : Nat), .int .u64 (lb m 3 : Nat), .int .u64 (lb n 0 : Nat), .int .u64 (lb n 1 : Nat), .int .u64 (lb n 2 : Nat), .int .u64 (lb n 3 : Nat), .bool o], .int .i64 0]), .inr (.tuple #[.agg #[.int .u64 (lb m 0 : Nat), .int .u64 (lb m 1 : Nat), .int .u64 (lb m 2 : Nat), .int .u64 (lb m 3 : Nat), .int .u64 (lb n 0 : Nat), .int .u64 (lb n 1 : Nat), .int .u64 (lb n 2 : Nat), .int .u64 (lb n 3 : Nat), .bool o], .int .i64 0]), .inr (.agg #[.int .u64 (lb m 0 : Nat), .int .u64 (lb m 1 : Nat), .int .u64 (lb m 2 : Nat), .int .u64 (lb m 3 : Nat), .int .u64 (lb n 0 : Nat), .int .u64 (lb n 1 : Nat), .int .u64 (lb n 2 : Nat), .int .u64 (lb n 3 : Nat), .bool o]), .inr (.int .i64 0), .inl (9, id), .inr undef, .inr (.int .i64 0)] := ⟨_, rfl⟩
  refine wp_plan (by kernel_rfl) T0 ds [2, 3, 5, 9, 10] tH_m (mkV W) (fun dx yx wx => PW (dx 2) (dx 3) (dx 5) (dx 9) (dx 10) (yx 9) wx) w (by rw [hs]; kernel_rfl) (by kernel_rfl) (by kernel_rfl) (by rw [hsz]; decide) (fun cx hc ix hne ha yx vx => mkV_fix (by rw [hV]; kernel_rfl) hne ha yx vx) (?key) (fun cx hc ox ho dx yx Tx wx hd hdb hda hK hW => ?_) ⟨fun k => if k = 9 then t12 else undef, w0⟩ (fun dx yx wx hd hW => ?_)
  case key =>
    rw [hsz]
    refine all_step (all_step (all_step (all_step (all_step (all_step (all_step (all_step (all_step (all_step (all_step (all_step all_zero ?_) ?_) ?_) ?_) ?_) ?_) ?_) ?_) ?_) ?_) ?_) ?_
    all_goals
      intro ox ho hic dx yx Tx wx hdb hK hW
      replace hdb := Lib.hid hdb
    · obtain ⟨ps, af, rfl⟩ := core (some 25) (.load 24 (.tmp 5)) 24 none ho (by kernel_rfl)
      have e5 : Tx.getD 5 undef = .pointer (some ⟨ge, 0, none⟩) := hK.of (by kernel_rfl) g5
      obtain ⟨hle0, hle1, hle2, hle3⟩ := le _ _ _ _ _ _ _ hW
      exact wpOp_plain ho rfl (by subst hV; go_simp; try rfl)
    · obtain ⟨ps, af, rfl⟩ := core (some 26) (.load 24 (.tmp 9)) 24 none ho (by kernel_rfl)
      have e9 : Tx.getD 9 undef = .pointer (some ⟨gb, 0, none⟩) := hK.of (by kernel_rfl) g9
      obtain ⟨hlb00, hlb01, hlb02, hlb03⟩ := lb0 _ _ _ _ _ _ _ hW
      exact wpOp_plain ho rfl (by subst hV; go_simp; try rfl)
    · exact absurd (by decide) hic
    · exact absurd (by decide) hic
    · obtain ⟨ps, af, rfl⟩ := core (some 29) (.load 26 (.tmp 10)) 26 none ho (by kernel_rfl)
      have e10 : Tx.getD 10 undef = .pointer (some ⟨gq, 0, none⟩) := hK.of (by kernel_rfl) g10
      obtain ⟨hlq0, hlq1, hlq2, hlq3, hlq4, hlq5, hlq6, hlq7, hlq8⟩ := lq _ _ _ _ _ _ _ hW
      exact wpOp_plain ho rfl (by subst hV; go_simp; try rfl)
    · exact absurd (by decide) hic
    · exact pl1 24 30 5 28 ho hK (by kernel_rfl) (by kernel_rfl) (by subst hV; rfl) (by subst hV; rfl) fun ps af e => k_mv e
    · obtain ⟨ps, af, rfl⟩ := core (some 31) (.extract (.tmp 24) 0) 26 none ho (by kernel_rfl)
      have e24 : Tx.getD 24 undef = .tuple #[.agg #[.int .u64 (lb m 0 : Nat), .int .u64 (lb m 1 : Nat), .int .u64 (lb m 2 : Nat), .int .u64 (lb m 3 : Nat), .int .u64 (lb n 0 : Nat), .int .u64 (lb n 1 : Nat), .int .u64 (lb n 2 : Nat), .int .u64 (lb n 3 : Nat), .bool o], .int .i64 0] := hK.is 6 ho (by kernel_rfl) (by subst hV; rfl)
      exact wpOp_plain ho rfl (by subst hV; go_simp; try rfl)
    · obtain ⟨ps, af, rfl⟩ := core (some 32) (.extract (.tmp 24) 1) 27 none ho (by kernel_rfl)
      have e24 : Tx.getD 24 undef = .tuple #[.agg #[.int .u64 (lb m 0 : Nat), .int .u64 (lb m 1 : Nat), .int .u64 (lb m 2 : Nat), .int .u64 (lb m 3 : Nat), .int .u64 (lb n 0 : Nat), .int .u64 (lb n 1 : Nat), .int .u64 (lb n 2 : Nat), .int .u64 (lb n 3 : Nat), .bool o], .int .i64 0] := hK.is 6 ho (by kernel_rfl) (by subst hV; rfl)
      exact wpOp_plain ho rfl (by subst hV; go_simp; try rfl)
    · exact absurd (by decide) hic
    · exact absurd (by decide) hic
    · exact pl1 13 32 8 27 ho hK (by kernel_rfl) (by kernel_rfl) (by subst hV; rfl) (by subst hV; rfl) fun ps af e => k_as e
  · have hcase : cx = 2 ∨ cx = 3 ∨ cx = 5 ∨ cx = 9 ∨ cx = 10 := by simpa using hc
    rcases hcase with rfl | rfl | rfl | rfl | rfl
    · obtain ⟨ps, af, rfl⟩ := core (some 27) (.call { callee := .value (.func 113), args := #[.tmp 25, .tmp 26], argTypes := #[24, 24] }) 24 none ho (by kernel_rfl)
      have e25 : Tx.getD 25 undef = .agg #[.int .u64 (lb e0 0 : Nat), .int .u64 (lb e0 1 : Nat), .int .u64 (lb e0 2 : Nat), .int .u64 (lb e0 3 : Nat)] := hK.is 0 ho (by kernel_rfl) (by subst hV; rfl)
      have e26 : Tx.getD 26 undef = .agg #[.int .u64 (lb b 0 : Nat), .int .u64 (lb b 1 : Nat), .int .u64 (lb b 2 : Nat), .int .u64 (lb b 3 : Nat)] := hK.is 1 ho (by kernel_rfl) (by subst hV; rfl)
      have hW1 : PW (dx 2) (dx 3) (dx 5) (dx 9) (dx 10) (yx 9) wx := hW
      have f3 := hda 3 (by decide) (by kernel_rfl)
      have f5 := hda 5 (by decide) (by kernel_rfl)
      have f10 := hda 10 (by decide) (by kernel_rfl)
      clear hdb hda
      rw [hd, f3, f5, f10] at hW1
      replace f3 := Lib.hid f3
      replace f5 := Lib.hid f5
      replace f10 := Lib.hid f10
      clear hd hW hc
      refine wpOp_plain ho rfl ?_
      go_simp
      go_at_call 113
      refine (cl2 _ _ _ hW1).mono ?_
      rintro ex w2 ⟨rfl, hW2⟩
      subst hV
      first | refine ⟨undef, rfl, ?_⟩ | refine ⟨⟨undef, rfl⟩, ?_⟩
      simpa [updB, upd, f3.out, f5.out, f10.out] using hW2
    · obtain ⟨ps, af, rfl⟩ := core (some 28) (.call { callee := .value (.func 42), args := #[.tmp 27], argTypes := #[24] }) 26 none ho (by kernel_rfl)
      have e27 : Tx.getD 27 undef = .agg #[.int .u64 (lb eb 0 : Nat), .int .u64 (lb eb 1 : Nat), .int .u64 (lb eb 2 : Nat), .int .u64 (lb eb 3 : Nat)] := hK.is 2 ho (by kernel_rfl) (by subst hV; rfl)
      have hW1 : PW (dx 2) (dx 3) (dx 5) (dx 9) (dx 10) (yx 9) wx := hW
      have f2 := hdb 2 (by decide) (by kernel_rfl)
      have f5 := hda 5 (by decide) (by kernel_rfl)
      have f10 := hda 10 (by decide) (by kernel_rfl)
      clear hdb hda
      rw [hd, f2, f5, f10] at hW1
      replace f2 := Lib.hid f2
      replace f5 := Lib.hid f5
      replace f10 := Lib.hid f10
      clear hd hW hc
      refine wpOp_plain ho rfl ?_
      go_simp
      go_at_call 42
      refine (cl3 _ _ _ hW1).mono ?_
      rintro ex w2 ⟨rfl, hW2⟩
      subst hV
      first | refine ⟨undef, rfl, ?_⟩ | refine ⟨⟨undef, rfl⟩, ?_⟩
      simpa [updB, upd, f2.out, f5.out, f10.out] using hW2
    · obtain ⟨ps, af, rfl⟩ := core (some 30) (.call { callee := .value (.func 114), args := #[.tmp 28, .tmp 29], argTypes := #[26, 26] }) 28 none ho (by kernel_rfl)
      have e28 : Tx.getD 28 undef = .agg #[.int .u64 (lb x 0 : Nat), .int .u64 (lb x 1 : Nat), .int .u64 (lb x 2 : Nat), .int .u64 (lb x 3 : Nat), .int .u64 (lb y 0 : Nat), .int .u64 (lb y 1 : Nat), .int .u64 (lb y 2 : Nat), .int .u64 (lb y 3 : Nat), .bool i] := hK.is 3 ho (by kernel_rfl) (by subst hV; rfl)
      have e29 : Tx.getD 29 undef = .agg #[.int .u64 (lb u 0 : Nat), .int .u64 (lb u 1 : Nat), .int .u64 (lb u 2 : Nat), .int .u64 (lb u 3 : Nat), .int .u64 (lb v 0 : Nat), .int .u64 (lb v 1 : Nat), .int .u64 (lb v 2 : Nat), .int .u64 (lb v 3 : Nat), .bool k] := hK.is 4 ho (by kernel_rfl) (by subst hV; rfl)
      have hW1 : PW (dx 2) (dx 3) (dx 5) (dx 9) (dx 10) (yx 9) wx := hW
      have f2 := hdb 2 (by decide) (by kernel_rfl)
      have f3 := hdb 3 (by decide) (by kernel_rfl)
      have f10 := hda 10 (by decide) (by kernel_rfl)
      clear hdb hda
      rw [hd, f2, f3, f10] at hW1
      replace f2 := Lib.hid f2
      replace f3 := Lib.hid f3
      replace f10 := Lib.hid f10
      clear hd hW hc
      refine wpOp_plain ho rfl ?_
      go_simp
      go_at_call 114
      refine (cl5 _ _ _ hW1).mono ?_
      rintro ex w2 ⟨rfl, hW2⟩
      subst hV
      first | refine ⟨undef, rfl, ?_⟩ | refine ⟨⟨undef, rfl⟩, ?_⟩
      simpa [updB, upd, f2.out, f3.out, f10.out] using hW2
    · obtain ⟨ps, af, rfl⟩ := core (some 12) (.alloc 26) 0 none ho (by kernel_rfl)
      have hW1 : PW (dx 2) (dx 3) (dx 5) (dx 9) (dx 10) (yx 9) wx := hW
      have f10 := hda 10 (by decide) (by kernel_rfl)
      clear hdb hda
      rw [hd, f10] at hW1
      replace f10 := Lib.hid f10
      clear hd hW hc
      have hW2 := cl9 _ _ _ _ _ hW1
      subst hV
      refine wpOp_plain ho rfl ?_
      go_simp
      refine ⟨_, rfl, ?_⟩
      simpa [updB, upd, f10.out] using hW2
    · obtain ⟨ps, af, rfl⟩ := core none (.store 26 (.tmp 12) (.tmp 31)) 0 none ho (by kernel_rfl)
      have e12 : Tx.getD 12 undef = yx 9 := hK.is 9 ho (by kernel_rfl) (by subst hV; rfl)
      have e31 : Tx.getD 31 undef = .agg #[.int .u64 (lb m 0 : Nat), .int .u64 (lb m 1 : Nat), .int .u64 (lb m 2 : Nat), .int .u64 (lb m 3 : Nat), .int .u64 (lb n 0 : Nat), .int .u64 (lb n 1 : Nat), .int .u64 (lb n 2 : Nat), .int .u64 (lb n 3 : Nat), .bool o] := hK.is 7 ho (by kernel_rfl) (by subst hV; rfl)
      have hW1 : PW (dx 2) (dx 3) (dx 5) (dx 9) (dx 10) (yx 9) wx := hW
      have f2 := hdb 2 (by decide) (by kernel_rfl)
      have f3 := hdb 3 (by decide) (by kernel_rfl)
      have f5 := hdb 5 (by decide) (by kernel_rfl)
      have f9 := hdb 9 (by decide) (by kernel_rfl)
      clear hdb hda
      rw [hd, f2, f3, f5, f9] at hW1
      replace f2 := Lib.hid f2
      replace f3 := Lib.hid f3
      replace f5 := Lib.hid f5
      replace f9 := Lib.hid f9
      clear hd hW hc
      obtain ⟨g, d0, d1, d2, d3, d4, d5, d6, d7, d8, e6, hk, hW2⟩ := cl10 _ _ hW1
      rw [e6] at e12
      obtain ⟨⟨c0, c1, c2, c3⟩, ⟨c4, c5, c6, c7⟩, c8⟩ := hk.cells9
      obtain ⟨⟨z0, z1, z2, z3⟩, ⟨z4, z5, z6, z7⟩, z8⟩ := hk.fros9
      subst hV
      refine wpOp_plain ho rfl ?_
      go_simp
      simpa [updB, upd, f2.out, f3.out, f5.out, f9.out] using hW2
  · have hW1 : PW (dx 2) (dx 3) (dx 5) (dx 9) (dx 10) (yx 9) wx := hW
    rw [hd 2 (by decide), hd 3 (by decide), hd 5 (by decide), hd 9 (by decide), hd 10 (by decide)] at hW1
    have hQ := h _ _ hW1
    rw [hsz]
    subst hV hT
    refine cast (congrArg (fun Tx => Q .normal ⟨Tx, ds⟩ wx) ?_) hQ
    kernel_rfl
end Go.Proofs.YtpggkfdijmnmiaaGreat.Pl
namespace Go.Proofs.YtpggkfdijmnmiaaGreat
open Go.RowKit Limbs
def pubOf (k : Nat) : Po := Po.mul k G
def z9 : Array Value := #[.int .u64 0, .int .u64 0, .int .u64 0, .int .u64 0, .int .u64 0, .int .u64 0, .int .u64 0, .int .u64 0, .bool false]
def TW (W : World) (x y : Nat) (i : Bool) (b1 b2 b6 b7 : Bool) (y6 : Value) (w' : World) : Prop :=
  Below W.heap.size W w' ∧ (b6 = true → ∃ g : Nat, y6 = .pointer (some ⟨g, 0, none⟩) ∧ W.heap.size ≤ g ∧ Bk 26 w' g (if b7 then cs9 x y i else z9))
theorem TW.on {W : World} {x y : Nat} {i b1 b2 b6 b7 c1 c2 : Bool} {y6 : Value} {w' w2 : World} (h : TW W x y i b1 b2 b6 b7 y6 w') (hb : Below w'.heap.size w' w2) : TW W x y i c1 c2 b6 b7 y6 w2 :=
  ⟨h.1.trans (hb.mono h.1.size), fun e => by
    obtain ⟨g, e1, e2, e3⟩ := h.2 e
    exact ⟨g, e1, e2, e3.below hb⟩⟩
set_option maxHeartbeats 8000000 in
theorem timesBase_any (k : Nat) (hk : k < W256) (w : World) : Calls Tryz.prog 42 #[nv k] w fun e w' => e = .returned (pubOf k).v ∧ Below w.heap.size w w' := by
  have hm := mulP hk G_on G_ok
  have HM : Hid (∀ w, Calls Tryz.prog 93 #[nv k, G.v] w fun e w' => e = .returned (.tuple #[(pubOf k).v, .int .i64 0]) ∧ Below w.heap.size w w') := Lib.hid hm
  have HB := Lib.hid kBase
  rw [vG] at HM
  clear hm
  generalize pubOf k = q at *
  obtain ⟨x, y, i⟩ := q
  unfold Po.v pn at HM ⊢
  simp only [nv, num] at HM ⊢
  go_enter Tryz.func42, Tryz.ntmps42
  go_wp2_with fail
  have K1 : Bk 24 ((w.alloc (.cells #[.int .u64 (lb k 0 : Nat), .int .u64 (lb k 1 : Nat), .int .u64 (lb k 2 : Nat), .int .u64 (lb k 3 : Nat)] 24)).alloc (.cells z9 26)) w.heap.size #[.int .u64 (lb k 0 : Nat), .int .u64 (lb k 1 : Nat), .int .u64 (lb k 2 : Nat), .int .u64 (lb k 3 : Nat)] := Bk.alloc (Bk.new rfl)
  have K2 : Bk 26 ((w.alloc (.cells #[.int .u64 (lb k 0 : Nat), .int .u64 (lb k 1 : Nat), .int .u64 (lb k 2 : Nat), .int .u64 (lb k 3 : Nat)] 24)).alloc (.cells z9 26)) (w.heap.size + 1) z9 := Bk.new (by simp)
  have hb0 : Below w.heap.size w ((w.alloc (.cells #[.int .u64 (lb k 0 : Nat), .int .u64 (lb k 1 : Nat), .int .u64 (lb k 2 : Nat), .int .u64 (lb k 3 : Nat)] 24)).alloc (.cells z9 26)) := by go_grown
  have hs0 : ((w.alloc (.cells #[.int .u64 (lb k 0 : Nat), .int .u64 (lb k 1 : Nat), .int .u64 (lb k 2 : Nat), .int .u64 (lb k 3 : Nat)] 24)).alloc (.cells z9 26)).heap.size = w.heap.size + 2 := by simp
  unfold z9 at K1 K2 hb0 hs0
  generalize ((w.alloc (.cells #[.int .u64 (lb k 0 : Nat), .int .u64 (lb k 1 : Nat), .int .u64 (lb k 2 : Nat), .int .u64 (lb k 3 : Nat)] 24)).alloc _) = W at K1 K2 hb0 hs0 ⊢
  refine Pl.tB (TW W x y i) w.heap.size k x y i W ?c1 ?c2 ?c6 ?c7 ?lk ?w0 ?h
  case c1 =>
    intro b6 y6 w1 h
    refine (HB.out w1).mono ?_
    rintro e w2 ⟨rfl, hb⟩
    exact ⟨rfl, h.on hb⟩
  case c2 =>
    intro b6 y6 w1 h
    refine (HM.out w1).mono ?_
    rintro e w2 ⟨rfl, hb⟩
    exact ⟨rfl, h.on hb⟩
  case c6 =>
    intro b1 b2 y6 w1 h
    exact ⟨h.1.trans ((show Below w1.heap.size w1 (w1.alloc (.cells z9 26)) by go_grown).mono h.1.size), fun _ => ⟨_, rfl, h.1.size, Bk.new rfl⟩⟩
  case c7 =>
    intro y6 w1 h
    obtain ⟨g, rfl, hg, hk9⟩ := h.2 rfl
    refine ⟨g, _, _, _, _, _, _, _, _, _, rfl, hk9, ?_, fun _ => ⟨g, rfl, hg, Bk.put9 hk9⟩⟩
    have hb := h.1
    go_grown
  case lk =>
    intro b1 b2 b6 b7 y6 w1 h
    have K := K1.below h.1
    exact K.cells
  case w0 => exact ⟨⟨rfl, rfl, rfl, Nat.le_refl _, fun _ _ => rfl⟩, fun h => by cases h⟩
  case h =>
  intro y6 w1 h
  obtain ⟨g, rfl, hg, hk9⟩ := h.2 rfl
  have K3 := K2.below h.1
  obtain ⟨⟨c0, c1, c2, c3⟩, ⟨c4, c5, c6, c7⟩, c8⟩ := hk9.cells9
  obtain ⟨⟨d0, d1, d2, d3⟩, ⟨d4, d5, d6, d7⟩, d8⟩ := K3.cells9
  obtain ⟨⟨f0, f1, f2, f3⟩, ⟨f4, f5, f6, f7⟩, f8⟩ := K3.fros9
  have hb1 := hb0.trans (h.1.mono hb0.size)
  go_wp2_with fail
  refine ret_cell51 rfl (w.heap.size + 1) x y i rfl (Bk.put9 K3) rfl ⟨rfl, ?_⟩
  go_grown
theorem lock_free (a : Addr) (w : World) (hc : w.cell? a = some (.int .i32 0)) (hz : w.frozen? a = false) :
    Calls Tryz.prog 189 #[.pointer (some a)] w fun e w' => e = .returned (.tuple #[]) ∧ w' = w.setCell a (.int .i32 1) := by
  have HL := Lib.hid (lock_in a w hc hz)
  go_enter Tryz.func189, Tryz.ntmps189
  go_wp2_with fail
  refine HL.out.mono ?_
  rintro e w1 ⟨rfl, rfl⟩
  go_wp2_with fail
  all_goals try go_end0
  all_goals exact ⟨rfl, rfl⟩
theorem store_deferred (a : Addr) (x : Value) (u : FrameMode) (w : World) (hc : w.cell? a = some x) (hz : w.frozen? a = false) :
    CallsD Tryz.prog 191 #[.pointer (some a), .bool true] u w fun e u' w' => u' = u ∧ (e = .returned (.tuple #[]) ∧ w' = w.drew.setCell a (.int .u32 1)) := by
  have hc' : w.drew.cell? a = some x := by go_simp
  have hz' : w.drew.frozen? a = false := by go_simp
  have hst := run_call_store (P := Tryz.prog) Tryz.func203 (by kernel_rfl) (by kernel_rfl) (by kernel_rfl) (by kernel_rfl) (k := .u32) (y := 1) hc' hz'
  go_enter_d Tryz.func191, Tryz.ntmps191
  go_wp2
  go_region_calls
  all_goals (go_end0; exact ⟨rfl, rfl⟩)
theorem unlock_in (a : Addr) (w : World) (hc : w.cell? a = some (.int .i32 1)) (hz : w.frozen? a = false) :
    Calls Tryz.prog 202 #[.pointer (some a)] w fun e w' => e = .returned (.tuple #[]) ∧ w' = w.setCell a (.int .i32 0) := by
  have hd := o_disable
  have he := o_enable
  have hr := o_release
  have hadd := run_call_add (P := Tryz.prog) Tryz.func214 (by kernel_rfl) (by kernel_rfl) (by kernel_rfl) .i32 (by kernel_rfl) (y := -1) (s := 0) hc hz (by simp [go_sem]; rfl)
  have hcv := run_convert_to_unsafe (P := Tryz.prog) (src := 232) (dst := 225) Tryz.underlying232 Tryz.underlying225 (by kernel_rfl) hc
  go_enter Tryz.func202, Tryz.ntmps202
  go_wp2
  all_goals try go_end0
  all_goals exact ⟨rfl, rfl⟩
theorem unlock_deferred (a : Addr) (u : FrameMode) (w : World) (hc : w.cell? a = some (.int .i32 1)) (hz : w.frozen? a = false) :
    CallsD Tryz.prog 190 #[.pointer (some a)] u w fun e u' w' => u' = u ∧ (e = .returned (.tuple #[]) ∧ w' = w.setCell a (.int .i32 0)) := by
  have HU := Lib.hid (unlock_in a w hc hz)
  go_enter_d Tryz.func190, Tryz.ntmps190
  go_wp2_with fail
  refine HU.out.mono ?_
  rintro e w1 ⟨rfl, rfl⟩
  go_wp2_with fail
  all_goals try go_end0
  all_goals exact ⟨rfl, rfl⟩
set_option maxHeartbeats 8000000 in
theorem public_yes (k : Nat) (hk : 0 < k ∧ k < mN) (w : World) : Calls Tryz.prog 11 #[nv k] w fun e w' => e = .returned (.tuple #[(pubOf k).v, .int .i64 0]) ∧ Below w.heap.size w w' := by
  have hkW : k < W256 := Nat.lt_trans hk.2 (by decide)
  have hi := inRange_any k hkW
  rw [decide_eq_true hk] at hi
  have HI := Lib.hid hi
  have HT := Lib.hid (timesBase_any k hkW)
  clear hi hkW hk
  generalize pubOf k = q at *
  obtain ⟨x, y, i⟩ := q
  unfold Po.v pn at HT ⊢
  simp only [nv, num] at HI HT ⊢
  go_enter Tryz.func11, Tryz.ntmps11
  go_wp2_with fail
  refine (keep w.heap.size w (HI.out _) (by go_grown) (Nat.le_refl _)).mono ?_
  rintro e w1 ⟨rfl, hb1, hk1⟩
  have K1 : Bk 24 w1 w.heap.size (cs4 k) := Bk.below (Bk.alloc (Bk.new rfl)) hk1
  have K2 : Bk 26 w1 (w.heap.size + 1) z9 := Bk.below (Bk.new (by simp)) hk1
  obtain ⟨a0, a1, a2, a3⟩ := K1.cells
  clear hk1
  go_wp2_with fail
  refine (keep w.heap.size w (HT.out _) hb1 (Nat.le_refl _)).mono ?_
  rintro e w2 ⟨rfl, hb2, hk2⟩
  have K3 := K2.below hk2
  obtain ⟨⟨d0, d1, d2, d3⟩, ⟨d4, d5, d6, d7⟩, d8⟩ := K3.cells9
  obtain ⟨⟨f0, f1, f2, f3⟩, ⟨f4, f5, f6, f7⟩, f8⟩ := K3.fros9
  clear a0 a1 a2 a3 K1 K2 hk2
  go_wp2_with fail
  refine ret_cell51e rfl (w.heap.size + 1) x y i (.int .i64 0) rfl rfl (Bk.put9 K3) rfl ⟨rfl, ?_⟩
  go_grown
set_option maxHeartbeats 8000000 in
theorem public_no (k : Nat) (hkW : k < W256) (hk : ¬ (0 < k ∧ k < mN)) (w : World) : Calls Tryz.prog 11 #[nv k] w fun e w' => e = .returned (.tuple #[pn 0 0 false, .int .i64 80]) ∧ Below w.heap.size w w' := by
  have hi := inRange_any k hkW
  rw [decide_eq_false hk] at hi
  have HI := Lib.hid hi
  clear hi hkW hk
  simp only [nv, num] at HI ⊢
  go_enter Tryz.func11, Tryz.ntmps11
  go_wp2_with fail
  refine (keep w.heap.size w (HI.out _) (by go_grown) (Nat.le_refl _)).mono ?_
  rintro e w1 ⟨rfl, hb1, hk1⟩
  have K3 : Bk 26 w1 (w.heap.size + 1) z9 := Bk.below (Bk.new (by simp)) hk1
  obtain ⟨⟨d0, d1, d2, d3⟩, ⟨d4, d5, d6, d7⟩, d8⟩ := K3.cells9
  obtain ⟨⟨f0, f1, f2, f3⟩, ⟨f4, f5, f6, f7⟩, f8⟩ := K3.fros9
  clear hk1
  go_wp2_with fail
  refine ret_cell51e rfl (w.heap.size + 1) 0 0 false (.int .i64 80) rfl rfl (Bk.put9 K3) rfl ⟨rfl, ?_⟩
  go_grown
set_option maxHeartbeats 8000000 in
theorem sign_no (k : Nat) (hkW : k < W256) (hk : ¬ (0 < k ∧ k < mN)) (s : ByteArray) (w : World) : Calls Tryz.prog 14 #[nv k, .string s] w fun e w' => e = .returned (.tuple #[.string ⟨#[]⟩, .int .i64 80]) ∧ Below w.heap.size w w' := by
  have hi := inRange_any k hkW
  rw [decide_eq_false hk] at hi
  have HI := Lib.hid hi
  clear hi hkW hk
  simp only [nv, num] at HI ⊢
  go_enter Tryz.func14, Tryz.ntmps14
  go_wp2_with fail
  refine (keep w.heap.size w (HI.out _) (by go_grown) (Nat.le_refl _)).mono ?_
  rintro e w1 ⟨rfl, hb1, hk1⟩
  clear hk1
  go_wp2_with fail
  go_returns
  exact ⟨rfl, hb1⟩
set_option maxHeartbeats 8000000 in
theorem vouch_none {B : Nat} {w : World} {r : Nat} {ks : List (Nat × List UInt8)} (h : Rg B w r ks) (hl : ks.length ≤ 1000000) (n : List UInt8) (s m : ByteArray) (hf : findK ks n = none) : Calls Tryz.prog 26 #[kpt r, .string ⟨n.toArray⟩, .string s, .string m] w fun e w' => e = .returned (.bool false) ∧ Below w.heap.size w w' := by
  have hfi := find_any h hl n
  rw [hf] at hfi
  unfold kpt fV at hfi
  have HF := Lib.hid hfi
  clear hfi h hf
  unfold kpt
  go_enter Tryz.func26, Tryz.ntmps26
  go_wp2_with fail
  refine HF.out.mono ?_
  rintro e w1 ⟨rfl, rfl⟩
  go_wp2_with fail
  go_returns
  exact ⟨rfl, Below.refl _ _⟩
set_option maxHeartbeats 8000000 in
theorem vouch_some {B : Nat} {w : World} {r : Nat} {ks : List (Nat × List UInt8)} (h : Rg B w r ks) (hl : ks.length ≤ 1000000) (n s m : List UInt8) (hs : s.length ≤ 140737488351232) (hm : m.length ≤ 140737488351232) (k : Nat × List UInt8) (hk : k ∈ ks) (hf : findK ks n = some k.1) : Calls Tryz.prog 26 #[kpt r, .string ⟨n.toArray⟩, .string ⟨s.toArray⟩, .string ⟨m.toArray⟩] w fun e w' => e = .returned (.bool (decide (Hs.macL (macOf k.2) s = m))) ∧ Below w.heap.size w w' := by
  have hfi := find_any h hl n
  rw [hf] at hfi
  unfold kpt fV kpt at hfi
  have HF := Lib.hid hfi
  obtain ⟨a, c, h1, h2, h3⟩ := h
  have c2 := (h3 k hk).cell 2
  unfold keyC at c2
  simp only [List.getElem?_toArray, List.getElem?_cons_succ, List.getElem?_cons_zero] at c2
  have hml : (macOf k.2).length = 32 := macL_len _ _
  have HM := Lib.hid (fun w => Hs.Mac_any (macOf k.2) s (by omega) (by omega) w)
  have HS := Lib.hid (fun w => Hs.same_any (Hs.macL (macOf k.2) s) m (by rw [macL_len]; decide) (by omega) w)
  clear hfi hf h1 h2 h3 hml hk hs hm
  unfold kpt
  go_enter Tryz.func26, Tryz.ntmps26
  go_wp2_with fail
  refine HF.out.mono ?_
  rintro e w1 ⟨rfl, rfl⟩
  go_wp2_with fail
  refine (HM.out _).mono ?_
  rintro e w2 ⟨rfl, hb2⟩
  go_wp2_with fail
  refine (HS.out _).mono ?_
  rintro e w3 ⟨rfl, rfl⟩
  go_wp2_with fail
  go_returns
  exact ⟨rfl, hb2⟩
set_option maxHeartbeats 8000000 in
theorem verify_empty (x y : Nat) (i : Bool) (s : ByteArray) (w : World) : Calls Tryz.prog 16 #[pn x y i, .string s, .string ⟨#[]⟩] w fun e w' => e = .returned (.bool false) ∧ Below w.heap.size w w' := by
  unfold pn
  go_enter Tryz.func16, Tryz.ntmps16
  go_wp2_with fail
  go_returns
  exact ⟨rfl, by go_grown⟩
end Go.Proofs.YtpggkfdijmnmiaaGreat
namespace Go.Proofs.YtpggkfdijmnmiaaGreat.Hs
open Go.RowKit
end Go.Proofs.YtpggkfdijmnmiaaGreat.Hs
namespace Go.Proofs.YtpggkfdijmnmiaaGreat.Hs
open Go.RowKit Go.Sort
def bl (l : List UInt8) : List Value := l.map fun x => Value.int .u8 (x.toNat : Int)
def Off (fz : Nat × Nat) (n : Nat) : Prop := fz.2 = 0 ∨ n ≤ fz.1
def Rm (B : Nat) (v : Value) (l : List UInt8) (w : World) : Prop :=
  ∃ g cap cur fz, v = .slice (some ⟨g, 0, none⟩) l.length cap ∧ B ≤ g ∧ w.heap[g]? = some (.cells cur 5 fz) ∧ Off fz cur.size ∧ l.length ≤ cap ∧ cap ≤ maxLen ∧ cur.size = cap ∧ cur.toList.take l.length = bl l
theorem Rm.below {B : Nat} {v : Value} {l : List UInt8} {w w' : World} (h : Rm B v l w) (hb : Below w.heap.size w w') : Rm B v l w' := by
  obtain ⟨g, cap, cur, fz, hv, hg, hh, rest⟩ := h
  exact ⟨g, cap, cur, fz, hv, hg, (hb.block _ (blk_lt hh)).trans hh, rest⟩
theorem Rm.un {B : Nat} {v : Value} {l : List UInt8} {w : World} (h : Rm B v l w) : ∃ g cap, v = .slice (some ⟨g, 0, none⟩) l.length cap ∧ B ≤ g ∧ g < w.heap.size ∧ (∃ cur fz, w.heap[g]? = some (.cells cur 5 fz)) ∧ ∀ i (hi : i < l.length), w.cell? ⟨g, i, none⟩ = some (.int .u8 (l[i].toNat : Int)) := by
  obtain ⟨g, cap, cur, fz, rfl, hg, hh, _, hlc, _, hcs, htk⟩ := h
  refine ⟨g, cap, rfl, hg, blk_lt hh, ⟨_, _, hh⟩, fun i hi => ?_⟩
  rw [blk_cell hh i]
  have h1 : (bl l)[i]? = some (.int .u8 (l[i].toNat : Int)) := by simp [bl, hi]
  rw [← htk, List.getElem?_take, if_pos hi] at h1
  simpa using h1
theorem Rm.conv {B : Nat} {v : Value} {l : List UInt8} {w : World} (h : Rm B v l w) : (convert 101 9 v).run Tryz.prog w = .ok (.string ⟨l.toArray⟩) w := by
  obtain ⟨g, cap, rfl, _, _, _, hc⟩ := h.un
  exact run_convert_bytes_back w 101 9 5 _ cap l Tryz.underlying101 Tryz.underlying5 Tryz.underlying9 (fun j hj => by rw [at0]; exact hc j hj)
end Go.Proofs.YtpggkfdijmnmiaaGreat.Hs
namespace Go.Proofs.YtpggkfdijmnmiaaGreat.Hs
theorem eight (l : List UInt32) (h : l.length = 8) : ∃ a b c d e f g i, l = [a, b, c, d, e, f, g, i] := by
  match l, h with
  | [a, b, c, d, e, f, g, i], _ => exact ⟨a, b, c, d, e, f, g, i, rfl⟩
end Go.Proofs.YtpggkfdijmnmiaaGreat.Hs
namespace Go.Proofs.YtpggkfdijmnmiaaGreat.Hs
open Go.RowKit Go.Sort
def C8 (w : World) (g : Nat) (l : List UInt32) : Prop := ∀ i, i < 8 → w.cell? ⟨g, i, none⟩ = some (.int .u32 ((l.getD i 0).toNat : Int))
theorem Rk.c8 {B : Nat} {v : Value} {l : List UInt32} {w : World} (h : Rk B v l w) (hl : l.length = 8) : ∃ g cap, v = .slice (some ⟨g, 0, none⟩) 8 cap ∧ B ≤ g ∧ g < w.heap.size ∧ C8 w g l := by
  obtain ⟨g, cap, hv, hg, hc⟩ := h.un (by intro e; rw [e] at hl; simp at hl)
  refine ⟨g, cap, by rw [hv, hl], hg, ?_, fun i hi => ?_⟩
  · rcases h.2 with ⟨rfl, h0⟩ | ⟨g', cap', cur, e, hg', hh, _⟩
    · cases hv
    · rw [hv] at e
      cases e
      exact blk_lt hh
  · rw [hc i (by omega)]
    simp [List.getD, show i < l.length by omega]
theorem C8.block {w : World} {g : Nat} {l : List UInt32} (h : w.heap[g]? = some (.cells (ws l) 111 (0, 0))) (hl : l.length = 8) : C8 w g l := fun i hi => by
  rw [blk_cell h, ws_get _ _ (by omega)]
  simp [List.getD, show i < l.length by omega]
theorem C8.below {w w' : World} {g : Nat} {l : List UInt32} (h : C8 w g l) (hb : Below w.heap.size w w') (hg : g < w.heap.size) : C8 w' g l := fun i hi => by
  rw [hb.cell (p := ⟨g, i, none⟩) hg]; exact h i hi
end Go.Proofs.YtpggkfdijmnmiaaGreat.Hs
