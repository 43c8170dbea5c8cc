/- The drawn region of same. No condition. -/
import Derived.Test.YtmoihgniglomiaaDoorZd20
set_option linter.unusedVariables false
set_option linter.unusedSimpArgs false
set_option maxRecDepth 100000
namespace Go.Proofs.YtmoihgniglomiaaDoor
open Go.RowKit Go.Sort
noncomputable def rSO : Array Oper := (Tryd.f21.body.bind fun c => findR c 1).getD #[]
def rS_m : List (List Nat) := [[], [], [], [], [], [], [], [], [], [], [], [], [4], [4], [4], [4], [4], [4], [4], [4], [4], [4], [4], [4], [4], [4], [4, 18], [4, 18], [4, 18], [4, 18], [4, 18], [4, 18], [4, 18], [4, 18], [4, 18], [4, 18], [4, 18], [4, 18], [4, 18, 33], [4, 18, 33, 38], [4, 18, 33, 38], [4, 18, 33, 38], [4, 18, 33, 38], [4, 18, 33, 38], [4, 18, 33, 38], [4, 18, 33, 38], [4, 18, 33, 38], [4, 18, 33, 38], [4, 18, 33, 38], [4, 18, 33, 38], [4, 18, 33, 38], [4, 18, 33, 38, 46], [4, 18, 33, 38, 46, 51], [4, 18, 33, 38, 46, 51, 52], [4, 18, 33, 38, 46, 51, 52], [4, 18, 33, 38, 46, 51, 52], [4, 18, 33, 38, 46, 51, 52], [4, 18, 33, 38, 46, 51, 52], [4, 18, 33, 38, 46, 51, 52], [4, 18, 33, 38, 46, 51, 52], [4, 18, 33, 38, 46, 51, 52], [4, 18, 33, 38, 46, 51, 52], [4, 18, 33, 38, 46, 51, 52], [4, 18, 33, 38, 46, 51, 52], [4, 18, 33, 38, 46, 51, 52], [4, 18, 33, 38, 46, 51, 52], [4, 18, 33, 38, 46, 51, 52], [4, 18, 33, 38, 46, 51, 52], [4, 18, 33, 38, 46, 51, 52, 59], [4, 18, 33, 38, 46, 51, 52, 59], [4, 18, 33, 38, 46, 51, 52, 59], [4, 18, 33, 38, 46, 51, 52, 59], [4, 18, 33, 38, 46, 51, 52, 59], [4, 18, 33, 38, 46, 51, 52, 59], [4, 18, 33, 38, 46, 51, 52, 59], [4, 18, 33, 38, 46, 51, 52, 59], [4, 18, 33, 38, 46, 51, 52, 59], [4, 18, 33, 38, 46, 51, 52, 59], [4, 18, 33, 38, 46, 51, 52, 59], [4, 18, 33, 38, 46, 51, 52, 59], [4, 18, 33, 38, 46, 51, 52, 59], [4, 18, 33, 38, 46, 51, 52, 59], [4, 18, 33, 38, 46, 51, 52, 59], [4, 18, 33, 38, 46, 51, 52, 59, 75], [4, 18, 33, 38, 46, 51, 52, 59, 75], [4, 18, 33, 38, 46, 51, 52, 59, 75]]
def rSV (q b rb d r : Nat) (n rm : Int) (dd gn : Bool) (ua : Option Addr) (un uc : Nat) : List ((Nat × (Value → Value)) ⊕ Value) := [.inr (.pointer (some ⟨q, 0, none⟩)), .inr (.pointer (some ⟨q, 0, none⟩)), .inr (.pointer (some ⟨q, 0, none⟩)), .inr (.pointer (some ⟨b, 0, none⟩)), .inr (.int .i64 n), .inr (.pointer (some ⟨q, 0, none⟩)), .inr (.pointer (some ⟨q, 0, none⟩)), .inr (.pointer (some ⟨q, 2, none⟩)), .inr (.pointer (some ⟨rb, 0, none⟩)), .inr (.pointer (some ⟨rb, 0, none⟩)), .inr (.pointer (some ⟨rb, 3, none⟩)), .inr (.int .i64 n), .inr (.bool true), .inr (.bool true), .inr (.pointer (some ⟨q, 0, none⟩)), .inr (.pointer (some ⟨q, 0, none⟩)), .inr (.pointer (some ⟨q, 0, none⟩)), .inr (.pointer (some ⟨b, 0, none⟩)), .inr (.bool dd), .inr (.pointer (some ⟨q, 0, none⟩)), .inr (.pointer (some ⟨q, 0, none⟩)), .inr (.pointer (some ⟨q, 2, none⟩)), .inr (.pointer (some ⟨rb, 0, none⟩)), .inr (.pointer (some ⟨rb, 0, none⟩)), .inr (.pointer (some ⟨rb, 4, none⟩)), .inr (.bool dd), .inr (.bool true), .inr (.bool true), .inr (.bool true), .inr (.pointer (some ⟨q, 0, none⟩)), .inr (.pointer (some ⟨q, 0, none⟩)), .inr (.pointer (some ⟨q, 0, none⟩)), .inr (.pointer (some ⟨b, 0, none⟩)), .inr (.int .i64 rm), .inr (.pointer (some ⟨q, 0, none⟩)), .inr (.pointer (some ⟨q, 0, none⟩)), .inr (.pointer (some ⟨q, 2, none⟩)), .inr (.pointer (some ⟨rb, 0, none⟩)), .inr (.int .i64 rm), .inr (.bool true), .inr (.bool true), .inr (.bool true), .inr (.pointer (some ⟨q, 0, none⟩)), .inr (.pointer (some ⟨q, 0, none⟩)), .inr (.pointer (some ⟨q, 1, none⟩)), .inr (.pointer (some ⟨d, 0, none⟩)), .inl (46, id), .inr (.pointer (some ⟨q, 0, none⟩)), .inr (.pointer (some ⟨q, 0, none⟩)), .inr (.pointer (some ⟨q, 3, none⟩)), .inr (.pointer (some ⟨r, 0, none⟩)), .inl (51, id), .inr (.bool true), .inr (.bool true), .inr (.bool true), .inr (.pointer (some ⟨q, 0, none⟩)), .inr (.pointer (some ⟨q, 0, none⟩)), .inr (.pointer (some ⟨q, 1, none⟩)), .inr (.pointer (some ⟨d, 0, none⟩)), .inr (.int .i64 (un : Int)), .inr (.pointer (some ⟨q, 0, none⟩)), .inr (.pointer (some ⟨q, 0, none⟩)), .inr (.pointer (some ⟨q, 3, none⟩)), .inr (.pointer (some ⟨r, 0, none⟩)), .inr (.pointer (some ⟨r, 0, none⟩)), .inr (.pointer (some ⟨r, 2, none⟩)), .inr (.slice ua un uc), .inr (.int .i64 (un : Int)), .inr (.bool true), .inr (.bool true), .inr (.bool true), .inr (.pointer (some ⟨q, 0, none⟩)), .inr (.pointer (some ⟨q, 0, none⟩)), .inr (.pointer (some ⟨q, 1, none⟩)), .inr (.pointer (some ⟨d, 0, none⟩)), .inr (.bool gn), .inr (.pointer (some ⟨q, 0, none⟩)), .inr (.pointer (some ⟨q, 0, none⟩)), .inr (.pointer (some ⟨q, 3, none⟩)), .inr (.pointer (some ⟨r, 0, none⟩)), .inr (.pointer (some ⟨r, 0, none⟩)), .inr (.pointer (some ⟨r, 5, none⟩)), .inr (.bool gn), .inr (.bool true), .inr (.bool true), .inr (.bool true)]
structure rSH (PW : Bool → Bool → Bool → Bool → Bool → Bool → Bool → Bool → Bool → Value → Value → World → Prop) (q b rb d r : Nat) (n rm : Int) (dd gn : Bool) (ua : Option Addr) (un uc : Nat) : Prop where
  lq0 : ∀ (b4 b18 b33 b38 b46 b51 b52 b59 b75 : Bool) (y46 y51 : Value) (w : World), PW b4 b18 b33 b38 b46 b51 b52 b59 b75 y46 y51 w → w.cell? ⟨q, 0, none⟩ = some (.pointer (some ⟨b, 0, none⟩))
  lq2 : ∀ (b4 b18 b33 b38 b46 b51 b52 b59 b75 : Bool) (y46 y51 : Value) (w : World), PW b4 b18 b33 b38 b46 b51 b52 b59 b75 y46 y51 w → w.cell? ⟨q, 2, none⟩ = some (.pointer (some ⟨rb, 0, none⟩))
  lq1 : ∀ (b4 b18 b33 b38 b46 b51 b52 b59 b75 : Bool) (y46 y51 : Value) (w : World), PW b4 b18 b33 b38 b46 b51 b52 b59 b75 y46 y51 w → w.cell? ⟨q, 1, none⟩ = some (.pointer (some ⟨d, 0, none⟩))
  lq3 : ∀ (b4 b18 b33 b38 b46 b51 b52 b59 b75 : Bool) (y46 y51 : Value) (w : World), PW b4 b18 b33 b38 b46 b51 b52 b59 b75 y46 y51 w → w.cell? ⟨q, 3, none⟩ = some (.pointer (some ⟨r, 0, none⟩))
  lr3 : ∀ (b4 b18 b33 b38 b46 b51 b52 b59 b75 : Bool) (y46 y51 : Value) (w : World), PW b4 b18 b33 b38 b46 b51 b52 b59 b75 y46 y51 w → w.cell? ⟨rb, 3, none⟩ = some (.int .i64 n)
  lr4 : ∀ (b4 b18 b33 b38 b46 b51 b52 b59 b75 : Bool) (y46 y51 : Value) (w : World), PW b4 b18 b33 b38 b46 b51 b52 b59 b75 y46 y51 w → w.cell? ⟨rb, 4, none⟩ = some (.bool dd)
  lu : ∀ (b4 b18 b33 b38 b46 b51 b52 b59 b75 : Bool) (y46 y51 : Value) (w : World), PW b4 b18 b33 b38 b46 b51 b52 b59 b75 y46 y51 w → w.cell? ⟨r, 2, none⟩ = some (.slice ua un uc)
  lg : ∀ (b4 b18 b33 b38 b46 b51 b52 b59 b75 : Bool) (y46 y51 : Value) (w : World), PW b4 b18 b33 b38 b46 b51 b52 b59 b75 y46 y51 w → w.cell? ⟨r, 5, none⟩ = some (.bool gn)
  cl4 : ∀ (y46 y51 : Value) (w : World), PW false false false false false false false false false y46 y51 w → Calls Tryd.prog 35 #[.pointer (some ⟨b, 0, none⟩)] w fun e w1 => e = .returned (.int .i64 n) ∧ PW true false false false false false false false false y46 y51 w1
  cl18 : ∀ (y46 y51 : Value) (w : World), PW true false false false false false false false false y46 y51 w → Calls Tryd.prog 42 #[.pointer (some ⟨b, 0, none⟩)] w fun e w1 => e = .returned (.bool dd) ∧ PW true true false false false false false false false y46 y51 w1
  cl33 : ∀ (y46 y51 : Value) (w : World), PW true true false false false false false false false y46 y51 w → Calls Tryd.prog 37 #[.pointer (some ⟨b, 0, none⟩)] w fun e w1 => e = .returned (.int .i64 rm) ∧ PW true true true false false false false false false y46 y51 w1
  cl38 : ∀ (y46 y51 : Value) (w : World), PW true true true false false false false false false y46 y51 w → Calls Tryd.prog 56 #[.pointer (some ⟨rb, 0, none⟩)] w fun e w1 => e = .returned (.int .i64 rm) ∧ PW true true true true false false false false false y46 y51 w1
  cl46 : ∀ (y46 y51 : Value) (w : World), PW true true true true false false false false false y46 y51 w → Calls Tryd.prog 26 #[.pointer (some ⟨d, 0, none⟩)] w fun e w1 => ∃ v, e = .returned v ∧ PW true true true true true false false false false v y51 w1
  cl51 : ∀ (y46 y51 : Value) (w : World), PW true true true true true false false false false y46 y51 w → Calls Tryd.prog 27 #[.pointer (some ⟨r, 0, none⟩)] w fun e w1 => ∃ v, e = .returned v ∧ PW true true true true true true false false false y46 v w1
  cl52 : ∀ (y46 y51 : Value) (w : World), PW true true true true true true false false false y46 y51 w → Calls Tryd.prog 25 #[y46, y51] w fun e w1 => e = .returned (.bool true) ∧ PW true true true true true true true false false y46 y51 w1
  cl59 : ∀ (y46 y51 : Value) (w : World), PW true true true true true true true false false y46 y51 w → Calls Tryd.prog 57 #[.pointer (some ⟨d, 0, none⟩)] w fun e w1 => e = .returned (.int .i64 (un : Int)) ∧ PW true true true true true true true true false y46 y51 w1
  cl75 : ∀ (y46 y51 : Value) (w : World), PW true true true true true true true true false y46 y51 w → Calls Tryd.prog 28 #[.pointer (some ⟨d, 0, none⟩)] w fun e w1 => e = .returned (.bool gn) ∧ PW true true true true true true true true true y46 y51 w1
set_option maxHeartbeats 64000000 in
theorem rSp0 (PW : Bool → Bool → Bool → Bool → Bool → Bool → Bool → Bool → Bool → Value → Value → World → Prop) (q b rb d r : Nat) (n rm : Int) (dd gn : Bool) (ua : Option Addr) (un uc : Nat) (H : rSH PW q b rb d r n rm dd gn ua un uc) {T0 : Array Value} (g0 : T0.getD 0 undef = .pointer (some ⟨q, 0, none⟩)) {ds : List Deferred} {Q : Exit → Act → World → Prop} : ∀ i, 0 ≤ i → i < 29 → Plain Tryd.prog rSO Q T0 ds [4, 18, 33, 38, 46, 51, 52, 59, 75] rS_m (mkV (rSV q b rb d r n rm dd gn ua un uc)) (fun dx yx wx => PW (dx 4) (dx 18) (dx 33) (dx 38) (dx 46) (dx 51) (dx 52) (dx 59) (dx 75) (yx 46) (yx 51) wx) i := by
  refine all_stepr (all_stepr (all_stepr (all_stepr (all_stepr (all_stepr (all_stepr (all_stepr (all_stepr (all_stepr (all_stepr (all_stepr (all_stepr (all_stepr (all_stepr (all_stepr (all_stepr (all_stepr (all_stepr (all_stepr (all_stepr (all_stepr (all_stepr (all_stepr (all_stepr (all_stepr (all_stepr (all_stepr (all_stepr all_zeror ?_) ?_) ?_) ?_) ?_) ?_) ?_) ?_) ?_) ?_) ?_) ?_) ?_) ?_) ?_) ?_) ?_) ?_) ?_) ?_) ?_) ?_) ?_) ?_) ?_) ?_) ?_) ?_) ?_
  all_goals
    intro ox ho hic dx yx Tx wx hdb hK hW
    replace hdb := Lib.hid hdb
  · exact pl0 3 0 41 ho hK (by kernel_rfl) (by kernel_rfl) g0 (rfl) fun ps af e => k_mv e
  · exact pl1 4 3 0 0 ho hK (by kernel_rfl) (by kernel_rfl) (rfl) (rfl) fun ps af e => k_nc e
  · exact pl1 5 4 1 0 ho hK (by kernel_rfl) (by kernel_rfl) (rfl) (rfl) fun ps af e => k_fa43_0 e
  · exact pl1 6 5 2 35 ho hK (by kernel_rfl) (by kernel_rfl) (rfl) (rfl) fun ps af e => k_ld35 (H.lq0 _ _ _ _ _ _ _ _ _ _ _ _ hW) e
  · exact absurd (by decide) hic
  · exact pl0 8 0 41 ho hK (by kernel_rfl) (by kernel_rfl) g0 (rfl) fun ps af e => k_mv e
  · exact pl1 9 8 5 0 ho hK (by kernel_rfl) (by kernel_rfl) (rfl) (rfl) fun ps af e => k_nc e
  · exact pl1 10 9 6 0 ho hK (by kernel_rfl) (by kernel_rfl) (rfl) (rfl) fun ps af e => k_fa43_2 e
  · exact pl1 11 10 7 38 ho hK (by kernel_rfl) (by kernel_rfl) (rfl) (rfl) fun ps af e => k_ld38 (H.lq2 _ _ _ _ _ _ _ _ _ _ _ _ hW) e
  · exact pl1 12 11 8 0 ho hK (by kernel_rfl) (by kernel_rfl) (rfl) (rfl) fun ps af e => k_nc e
  · exact pl1 13 12 9 0 ho hK (by kernel_rfl) (by kernel_rfl) (rfl) (rfl) fun ps af e => k_fa102_3 e
  · exact pl1 14 13 10 3 ho hK (by kernel_rfl) (by kernel_rfl) (rfl) (rfl) fun ps af e => k_ld3 (H.lr3 _ _ _ _ _ _ _ _ _ _ _ _ hW) e
  · obtain ⟨ps, af, rfl⟩ := core (some 15) (.binOp BinOp.eql 3 (.tmp 7) (.tmp 14) 3) 4 none ho (by kernel_rfl)
    have e7 : Tx.getD 7 undef = .int .i64 n := hK.is 4 ho (by kernel_rfl) (by rfl)
    have e14 : Tx.getD 14 undef = .int .i64 n := hK.is 11 ho (by kernel_rfl) (by rfl)
    exact wpOp_plain ho rfl (by go_simp; try rfl)
  · exact pl1 16 15 12 4 ho hK (by kernel_rfl) (by kernel_rfl) (rfl) (rfl) fun ps af e => k_mv e
  · exact pg0 13 16 true 17 0 41 ho hK (by kernel_rfl) (by kernel_rfl) (by kernel_rfl) (rfl) (by kernel_rfl) g0 (rfl) fun ps af e => k_mv e
  · exact pg1 13 16 true 18 17 14 0 ho hK (by kernel_rfl) (by kernel_rfl) (by kernel_rfl) (rfl) (by kernel_rfl) (rfl) (rfl) fun ps af e => k_nc e
  · exact pg1 13 16 true 19 18 15 0 ho hK (by kernel_rfl) (by kernel_rfl) (by kernel_rfl) (rfl) (by kernel_rfl) (rfl) (rfl) fun ps af e => k_fa43_0 e
  · exact pg1 13 16 true 20 19 16 35 ho hK (by kernel_rfl) (by kernel_rfl) (by kernel_rfl) (rfl) (by kernel_rfl) (rfl) (rfl) fun ps af e => k_ld35 (H.lq0 _ _ _ _ _ _ _ _ _ _ _ _ hW) e
  · exact absurd (by decide) hic
  · exact pg0 13 16 true 22 0 41 ho hK (by kernel_rfl) (by kernel_rfl) (by kernel_rfl) (rfl) (by kernel_rfl) g0 (rfl) fun ps af e => k_mv e
  · exact pg1 13 16 true 23 22 19 0 ho hK (by kernel_rfl) (by kernel_rfl) (by kernel_rfl) (rfl) (by kernel_rfl) (rfl) (rfl) fun ps af e => k_nc e
  · exact pg1 13 16 true 24 23 20 0 ho hK (by kernel_rfl) (by kernel_rfl) (by kernel_rfl) (rfl) (by kernel_rfl) (rfl) (rfl) fun ps af e => k_fa43_2 e
  · exact pg1 13 16 true 25 24 21 38 ho hK (by kernel_rfl) (by kernel_rfl) (by kernel_rfl) (rfl) (by kernel_rfl) (rfl) (rfl) fun ps af e => k_ld38 (H.lq2 _ _ _ _ _ _ _ _ _ _ _ _ hW) e
  · exact pg1 13 16 true 26 25 22 0 ho hK (by kernel_rfl) (by kernel_rfl) (by kernel_rfl) (rfl) (by kernel_rfl) (rfl) (rfl) fun ps af e => k_nc e
  · exact pg1 13 16 true 27 26 23 0 ho hK (by kernel_rfl) (by kernel_rfl) (by kernel_rfl) (rfl) (by kernel_rfl) (rfl) (rfl) fun ps af e => k_fa102_4 e
  · exact pg1 13 16 true 28 27 24 4 ho hK (by kernel_rfl) (by kernel_rfl) (by kernel_rfl) (rfl) (by kernel_rfl) (rfl) (rfl) fun ps af e => k_ld4 (H.lr4 _ _ _ _ _ _ _ _ _ _ _ _ hW) e
  · obtain ⟨ps, af, rfl⟩ := core (some 29) (.binOp BinOp.eql 4 (.tmp 21) (.tmp 28) 4) 4 (some (13, true)) ho (by kernel_rfl)
    have e21 : Tx.getD 21 undef = .bool dd := hK.is 18 ho (by kernel_rfl) (by rfl)
    have e28 : Tx.getD 28 undef = .bool dd := hK.is 25 ho (by kernel_rfl) (by rfl)
    exact wpOp_want ho ((wanted_of (d := 16) (b := true) rfl (by kernel_rfl) (hK.is 13 ho (by kernel_rfl) (rfl))).trans rfl) (by go_simp; try rfl)
  · obtain ⟨ps, af, rfl⟩ := core (some 30) (.pick (.tmp 16) (.tmp 29) (.const (Value.bool false))) 4 none ho (by kernel_rfl)
    have e16 : Tx.getD 16 undef = .bool true := hK.is 13 ho (by kernel_rfl) (by rfl)
    have e29 : Tx.getD 29 undef = .bool true := hK.is 26 ho (by kernel_rfl) (by rfl)
    exact wpOp_plain ho rfl (by go_simp; try rfl)
  · exact pl1 31 30 27 4 ho hK (by kernel_rfl) (by kernel_rfl) (rfl) (rfl) fun ps af e => k_mv e
set_option maxHeartbeats 64000000 in
theorem rSp29 (PW : Bool → Bool → Bool → Bool → Bool → Bool → Bool → Bool → Bool → Value → Value → World → Prop) (q b rb d r : Nat) (n rm : Int) (dd gn : Bool) (ua : Option Addr) (un uc : Nat) (H : rSH PW q b rb d r n rm dd gn ua un uc) {T0 : Array Value} (g0 : T0.getD 0 undef = .pointer (some ⟨q, 0, none⟩)) {ds : List Deferred} {Q : Exit → Act → World → Prop} : ∀ i, 29 ≤ i → i < 58 → Plain Tryd.prog rSO Q T0 ds [4, 18, 33, 38, 46, 51, 52, 59, 75] rS_m (mkV (rSV q b rb d r n rm dd gn ua un uc)) (fun dx yx wx => PW (dx 4) (dx 18) (dx 33) (dx 38) (dx 46) (dx 51) (dx 52) (dx 59) (dx 75) (yx 46) (yx 51) wx) i := by
  refine all_stepr (all_stepr (all_stepr (all_stepr (all_stepr (all_stepr (all_stepr (all_stepr (all_stepr (all_stepr (all_stepr (all_stepr (all_stepr (all_stepr (all_stepr (all_stepr (all_stepr (all_stepr (all_stepr (all_stepr (all_stepr (all_stepr (all_stepr (all_stepr (all_stepr (all_stepr (all_stepr (all_stepr (all_stepr all_zeror ?_) ?_) ?_) ?_) ?_) ?_) ?_) ?_) ?_) ?_) ?_) ?_) ?_) ?_) ?_) ?_) ?_) ?_) ?_) ?_) ?_) ?_) ?_) ?_) ?_) ?_) ?_) ?_) ?_
  all_goals
    intro ox ho hic dx yx Tx wx hdb hK hW
    replace hdb := Lib.hid hdb
  · exact pg0 28 31 true 32 0 41 ho hK (by kernel_rfl) (by kernel_rfl) (by kernel_rfl) (rfl) (by kernel_rfl) g0 (rfl) fun ps af e => k_mv e
  · exact pg1 28 31 true 33 32 29 0 ho hK (by kernel_rfl) (by kernel_rfl) (by kernel_rfl) (rfl) (by kernel_rfl) (rfl) (rfl) fun ps af e => k_nc e
  · exact pg1 28 31 true 34 33 30 0 ho hK (by kernel_rfl) (by kernel_rfl) (by kernel_rfl) (rfl) (by kernel_rfl) (rfl) (rfl) fun ps af e => k_fa43_0 e
  · exact pg1 28 31 true 35 34 31 35 ho hK (by kernel_rfl) (by kernel_rfl) (by kernel_rfl) (rfl) (by kernel_rfl) (rfl) (rfl) fun ps af e => k_ld35 (H.lq0 _ _ _ _ _ _ _ _ _ _ _ _ hW) e
  · exact absurd (by decide) hic
  · exact pg0 28 31 true 37 0 41 ho hK (by kernel_rfl) (by kernel_rfl) (by kernel_rfl) (rfl) (by kernel_rfl) g0 (rfl) fun ps af e => k_mv e
  · exact pg1 28 31 true 38 37 34 0 ho hK (by kernel_rfl) (by kernel_rfl) (by kernel_rfl) (rfl) (by kernel_rfl) (rfl) (rfl) fun ps af e => k_nc e
  · exact pg1 28 31 true 39 38 35 0 ho hK (by kernel_rfl) (by kernel_rfl) (by kernel_rfl) (rfl) (by kernel_rfl) (rfl) (rfl) fun ps af e => k_fa43_2 e
  · exact pg1 28 31 true 40 39 36 38 ho hK (by kernel_rfl) (by kernel_rfl) (by kernel_rfl) (rfl) (by kernel_rfl) (rfl) (rfl) fun ps af e => k_ld38 (H.lq2 _ _ _ _ _ _ _ _ _ _ _ _ hW) e
  · exact absurd (by decide) hic
  · obtain ⟨ps, af, rfl⟩ := core (some 42) (.binOp BinOp.eql 3 (.tmp 36) (.tmp 41) 3) 4 (some (28, true)) ho (by kernel_rfl)
    have e36 : Tx.getD 36 undef = .int .i64 rm := hK.is 33 ho (by kernel_rfl) (by rfl)
    have e41 : Tx.getD 41 undef = .int .i64 rm := hK.is 38 ho (by kernel_rfl) (by rfl)
    exact wpOp_want ho ((wanted_of (d := 31) (b := true) rfl (by kernel_rfl) (hK.is 28 ho (by kernel_rfl) (rfl))).trans rfl) (by go_simp; try rfl)
  · obtain ⟨ps, af, rfl⟩ := core (some 43) (.pick (.tmp 31) (.tmp 42) (.const (Value.bool false))) 4 none ho (by kernel_rfl)
    have e31 : Tx.getD 31 undef = .bool true := hK.is 28 ho (by kernel_rfl) (by rfl)
    have e42 : Tx.getD 42 undef = .bool true := hK.is 39 ho (by kernel_rfl) (by rfl)
    exact wpOp_plain ho rfl (by go_simp; try rfl)
  · exact pl1 44 43 40 4 ho hK (by kernel_rfl) (by kernel_rfl) (rfl) (rfl) fun ps af e => k_mv e
  · exact pg0 41 44 true 45 0 41 ho hK (by kernel_rfl) (by kernel_rfl) (by kernel_rfl) (rfl) (by kernel_rfl) g0 (rfl) fun ps af e => k_mv e
  · exact pg1 41 44 true 46 45 42 0 ho hK (by kernel_rfl) (by kernel_rfl) (by kernel_rfl) (rfl) (by kernel_rfl) (rfl) (rfl) fun ps af e => k_nc e
  · exact pg1 41 44 true 47 46 43 0 ho hK (by kernel_rfl) (by kernel_rfl) (by kernel_rfl) (rfl) (by kernel_rfl) (rfl) (rfl) fun ps af e => k_fa43_1 e
  · exact pg1 41 44 true 48 47 44 27 ho hK (by kernel_rfl) (by kernel_rfl) (by kernel_rfl) (rfl) (by kernel_rfl) (rfl) (rfl) fun ps af e => k_ld27 (H.lq1 _ _ _ _ _ _ _ _ _ _ _ _ hW) e
  · exact absurd (by decide) hic
  · exact pg0 41 44 true 50 0 41 ho hK (by kernel_rfl) (by kernel_rfl) (by kernel_rfl) (rfl) (by kernel_rfl) g0 (rfl) fun ps af e => k_mv e
  · exact pg1 41 44 true 51 50 47 0 ho hK (by kernel_rfl) (by kernel_rfl) (by kernel_rfl) (rfl) (by kernel_rfl) (rfl) (rfl) fun ps af e => k_nc e
  · exact pg1 41 44 true 52 51 48 0 ho hK (by kernel_rfl) (by kernel_rfl) (by kernel_rfl) (rfl) (by kernel_rfl) (rfl) (rfl) fun ps af e => k_fa43_3 e
  · exact pg1 41 44 true 53 52 49 32 ho hK (by kernel_rfl) (by kernel_rfl) (by kernel_rfl) (rfl) (by kernel_rfl) (rfl) (rfl) fun ps af e => k_ld32 (H.lq3 _ _ _ _ _ _ _ _ _ _ _ _ hW) e
  · exact absurd (by decide) hic
  · exact absurd (by decide) hic
  · obtain ⟨ps, af, rfl⟩ := core (some 56) (.pick (.tmp 44) (.tmp 55) (.const (Value.bool false))) 4 none ho (by kernel_rfl)
    have e44 : Tx.getD 44 undef = .bool true := hK.is 41 ho (by kernel_rfl) (by rfl)
    have e55 : Tx.getD 55 undef = .bool true := hK.is 52 ho (by kernel_rfl) (by rfl)
    exact wpOp_plain ho rfl (by go_simp; try rfl)
  · exact pl1 57 56 53 4 ho hK (by kernel_rfl) (by kernel_rfl) (rfl) (rfl) fun ps af e => k_mv e
  · exact pg0 54 57 true 58 0 41 ho hK (by kernel_rfl) (by kernel_rfl) (by kernel_rfl) (rfl) (by kernel_rfl) g0 (rfl) fun ps af e => k_mv e
  · exact pg1 54 57 true 59 58 55 0 ho hK (by kernel_rfl) (by kernel_rfl) (by kernel_rfl) (rfl) (by kernel_rfl) (rfl) (rfl) fun ps af e => k_nc e
  · exact pg1 54 57 true 60 59 56 0 ho hK (by kernel_rfl) (by kernel_rfl) (by kernel_rfl) (rfl) (by kernel_rfl) (rfl) (rfl) fun ps af e => k_fa43_1 e
set_option maxHeartbeats 64000000 in
theorem rSp58 (PW : Bool → Bool → Bool → Bool → Bool → Bool → Bool → Bool → Bool → Value → Value → World → Prop) (q b rb d r : Nat) (n rm : Int) (dd gn : Bool) (ua : Option Addr) (un uc : Nat) (H : rSH PW q b rb d r n rm dd gn ua un uc) {T0 : Array Value} (g0 : T0.getD 0 undef = .pointer (some ⟨q, 0, none⟩)) {ds : List Deferred} {Q : Exit → Act → World → Prop} : ∀ i, 58 ≤ i → i < 86 → Plain Tryd.prog rSO Q T0 ds [4, 18, 33, 38, 46, 51, 52, 59, 75] rS_m (mkV (rSV q b rb d r n rm dd gn ua un uc)) (fun dx yx wx => PW (dx 4) (dx 18) (dx 33) (dx 38) (dx 46) (dx 51) (dx 52) (dx 59) (dx 75) (yx 46) (yx 51) wx) i := by
  refine all_stepr (all_stepr (all_stepr (all_stepr (all_stepr (all_stepr (all_stepr (all_stepr (all_stepr (all_stepr (all_stepr (all_stepr (all_stepr (all_stepr (all_stepr (all_stepr (all_stepr (all_stepr (all_stepr (all_stepr (all_stepr (all_stepr (all_stepr (all_stepr (all_stepr (all_stepr (all_stepr (all_stepr all_zeror ?_) ?_) ?_) ?_) ?_) ?_) ?_) ?_) ?_) ?_) ?_) ?_) ?_) ?_) ?_) ?_) ?_) ?_) ?_) ?_) ?_) ?_) ?_) ?_) ?_) ?_) ?_) ?_
  all_goals
    intro ox ho hic dx yx Tx wx hdb hK hW
    replace hdb := Lib.hid hdb
  · exact pg1 54 57 true 61 60 57 27 ho hK (by kernel_rfl) (by kernel_rfl) (by kernel_rfl) (rfl) (by kernel_rfl) (rfl) (rfl) fun ps af e => k_ld27 (H.lq1 _ _ _ _ _ _ _ _ _ _ _ _ hW) e
  · exact absurd (by decide) hic
  · exact pg0 54 57 true 63 0 41 ho hK (by kernel_rfl) (by kernel_rfl) (by kernel_rfl) (rfl) (by kernel_rfl) g0 (rfl) fun ps af e => k_mv e
  · exact pg1 54 57 true 64 63 60 0 ho hK (by kernel_rfl) (by kernel_rfl) (by kernel_rfl) (rfl) (by kernel_rfl) (rfl) (rfl) fun ps af e => k_nc e
  · exact pg1 54 57 true 65 64 61 0 ho hK (by kernel_rfl) (by kernel_rfl) (by kernel_rfl) (rfl) (by kernel_rfl) (rfl) (rfl) fun ps af e => k_fa43_3 e
  · exact pg1 54 57 true 66 65 62 32 ho hK (by kernel_rfl) (by kernel_rfl) (by kernel_rfl) (rfl) (by kernel_rfl) (rfl) (rfl) fun ps af e => k_ld32 (H.lq3 _ _ _ _ _ _ _ _ _ _ _ _ hW) e
  · exact pg1 54 57 true 67 66 63 0 ho hK (by kernel_rfl) (by kernel_rfl) (by kernel_rfl) (rfl) (by kernel_rfl) (rfl) (rfl) fun ps af e => k_nc e
  · exact pg1 54 57 true 68 67 64 0 ho hK (by kernel_rfl) (by kernel_rfl) (by kernel_rfl) (rfl) (by kernel_rfl) (rfl) (rfl) fun ps af e => k_fa61_2 e
  · exact pg1 54 57 true 69 68 65 59 ho hK (by kernel_rfl) (by kernel_rfl) (by kernel_rfl) (rfl) (by kernel_rfl) (rfl) (rfl) fun ps af e => k_ld59 (H.lu _ _ _ _ _ _ _ _ _ _ _ _ hW) e
  · obtain ⟨ps, af, rfl⟩ := core (some 70) (.call { callee := .builtin Builtin.len, args := #[.tmp 69], argTypes := #[59] }) 3 (some (54, true)) ho (by kernel_rfl)
    have e69 : Tx.getD 69 undef = .slice ua un uc := hK.is 66 ho (by kernel_rfl) (by rfl)
    exact wpOp_want ho ((wanted_of (d := 57) (b := true) rfl (by kernel_rfl) (hK.is 54 ho (by kernel_rfl) (rfl))).trans rfl) (by go_simp; try rfl)
  · obtain ⟨ps, af, rfl⟩ := core (some 71) (.binOp BinOp.eql 3 (.tmp 62) (.tmp 70) 3) 4 (some (54, true)) ho (by kernel_rfl)
    have e62 : Tx.getD 62 undef = .int .i64 (un : Int) := hK.is 59 ho (by kernel_rfl) (by rfl)
    have e70 : Tx.getD 70 undef = .int .i64 (un : Int) := hK.is 67 ho (by kernel_rfl) (by rfl)
    exact wpOp_want ho ((wanted_of (d := 57) (b := true) rfl (by kernel_rfl) (hK.is 54 ho (by kernel_rfl) (rfl))).trans rfl) (by go_simp; try rfl)
  · obtain ⟨ps, af, rfl⟩ := core (some 72) (.pick (.tmp 57) (.tmp 71) (.const (Value.bool false))) 4 none ho (by kernel_rfl)
    have e57 : Tx.getD 57 undef = .bool true := hK.is 54 ho (by kernel_rfl) (by rfl)
    have e71 : Tx.getD 71 undef = .bool true := hK.is 68 ho (by kernel_rfl) (by rfl)
    exact wpOp_plain ho rfl (by go_simp; try rfl)
  · exact pl1 73 72 69 4 ho hK (by kernel_rfl) (by kernel_rfl) (rfl) (rfl) fun ps af e => k_mv e
  · exact pg0 70 73 true 74 0 41 ho hK (by kernel_rfl) (by kernel_rfl) (by kernel_rfl) (rfl) (by kernel_rfl) g0 (rfl) fun ps af e => k_mv e
  · exact pg1 70 73 true 75 74 71 0 ho hK (by kernel_rfl) (by kernel_rfl) (by kernel_rfl) (rfl) (by kernel_rfl) (rfl) (rfl) fun ps af e => k_nc e
  · exact pg1 70 73 true 76 75 72 0 ho hK (by kernel_rfl) (by kernel_rfl) (by kernel_rfl) (rfl) (by kernel_rfl) (rfl) (rfl) fun ps af e => k_fa43_1 e
  · exact pg1 70 73 true 77 76 73 27 ho hK (by kernel_rfl) (by kernel_rfl) (by kernel_rfl) (rfl) (by kernel_rfl) (rfl) (rfl) fun ps af e => k_ld27 (H.lq1 _ _ _ _ _ _ _ _ _ _ _ _ hW) e
  · exact absurd (by decide) hic
  · exact pg0 70 73 true 79 0 41 ho hK (by kernel_rfl) (by kernel_rfl) (by kernel_rfl) (rfl) (by kernel_rfl) g0 (rfl) fun ps af e => k_mv e
  · exact pg1 70 73 true 80 79 76 0 ho hK (by kernel_rfl) (by kernel_rfl) (by kernel_rfl) (rfl) (by kernel_rfl) (rfl) (rfl) fun ps af e => k_nc e
  · exact pg1 70 73 true 81 80 77 0 ho hK (by kernel_rfl) (by kernel_rfl) (by kernel_rfl) (rfl) (by kernel_rfl) (rfl) (rfl) fun ps af e => k_fa43_3 e
  · exact pg1 70 73 true 82 81 78 32 ho hK (by kernel_rfl) (by kernel_rfl) (by kernel_rfl) (rfl) (by kernel_rfl) (rfl) (rfl) fun ps af e => k_ld32 (H.lq3 _ _ _ _ _ _ _ _ _ _ _ _ hW) e
  · exact pg1 70 73 true 83 82 79 0 ho hK (by kernel_rfl) (by kernel_rfl) (by kernel_rfl) (rfl) (by kernel_rfl) (rfl) (rfl) fun ps af e => k_nc e
  · exact pg1 70 73 true 84 83 80 0 ho hK (by kernel_rfl) (by kernel_rfl) (by kernel_rfl) (rfl) (by kernel_rfl) (rfl) (rfl) fun ps af e => k_fa61_5 e
  · exact pg1 70 73 true 85 84 81 4 ho hK (by kernel_rfl) (by kernel_rfl) (by kernel_rfl) (rfl) (by kernel_rfl) (rfl) (rfl) fun ps af e => k_ld4 (H.lg _ _ _ _ _ _ _ _ _ _ _ _ hW) e
  · obtain ⟨ps, af, rfl⟩ := core (some 86) (.binOp BinOp.eql 4 (.tmp 78) (.tmp 85) 4) 4 (some (70, true)) ho (by kernel_rfl)
    have e78 : Tx.getD 78 undef = .bool gn := hK.is 75 ho (by kernel_rfl) (by rfl)
    have e85 : Tx.getD 85 undef = .bool gn := hK.is 82 ho (by kernel_rfl) (by rfl)
    exact wpOp_want ho ((wanted_of (d := 73) (b := true) rfl (by kernel_rfl) (hK.is 70 ho (by kernel_rfl) (rfl))).trans rfl) (by go_simp; try rfl)
  · obtain ⟨ps, af, rfl⟩ := core (some 87) (.pick (.tmp 73) (.tmp 86) (.const (Value.bool false))) 4 none ho (by kernel_rfl)
    have e73 : Tx.getD 73 undef = .bool true := hK.is 70 ho (by kernel_rfl) (by rfl)
    have e86 : Tx.getD 86 undef = .bool true := hK.is 83 ho (by kernel_rfl) (by rfl)
    exact wpOp_plain ho rfl (by go_simp; try rfl)
  · exact pl1 2 87 84 4 ho hK (by kernel_rfl) (by kernel_rfl) (rfl) (rfl) fun ps af e => k_as e
set_option maxHeartbeats 64000000 in
theorem rSc4 (PW : Bool → Bool → Bool → Bool → Bool → Bool → Bool → Bool → Bool → Value → Value → World → Prop) (q b rb d r : Nat) (n rm : Int) (dd gn : Bool) (ua : Option Addr) (un uc : Nat) (H : rSH PW q b rb d r n rm dd gn ua un uc) {T0 : Array Value} (g0 : T0.getD 0 undef = .pointer (some ⟨q, 0, none⟩)) {ds : List Deferred} {Q : Exit → Act → World → Prop} : Chg Tryd.prog rSO Q T0 ds [4, 18, 33, 38, 46, 51, 52, 59, 75] rS_m (mkV (rSV q b rb d r n rm dd gn ua un uc)) (fun dx yx wx => PW (dx 4) (dx 18) (dx 33) (dx 38) (dx 46) (dx 51) (dx 52) (dx 59) (dx 75) (yx 46) (yx 51) wx) 4 := by
  intro ox ho dx yx Tx wx hd hdb hda hK hW
  obtain ⟨ps, af, rfl⟩ := core (some 7) (.call { callee := .value (.func 35), args := #[.tmp 6], argTypes := #[35] }) 3 none ho (by kernel_rfl)
  have e6 : Tx.getD 6 undef = .pointer (some ⟨b, 0, none⟩) := hK.is 3 ho (by kernel_rfl) (by rfl)
  have hW1 : PW (dx 4) (dx 18) (dx 33) (dx 38) (dx 46) (dx 51) (dx 52) (dx 59) (dx 75) (yx 46) (yx 51) wx := hW
  have f18 := hda 18 (by decide) (by kernel_rfl)
  have f33 := hda 33 (by decide) (by kernel_rfl)
  have f38 := hda 38 (by decide) (by kernel_rfl)
  have f46 := hda 46 (by decide) (by kernel_rfl)
  have f51 := hda 51 (by decide) (by kernel_rfl)
  have f52 := hda 52 (by decide) (by kernel_rfl)
  have f59 := hda 59 (by decide) (by kernel_rfl)
  have f75 := hda 75 (by decide) (by kernel_rfl)
  clear hdb hda
  rw [hd, f18, f33, f38, f46, f51, f52, f59, f75] at hW1
  replace f18 := Lib.hid f18
  replace f33 := Lib.hid f33
  replace f38 := Lib.hid f38
  replace f46 := Lib.hid f46
  replace f51 := Lib.hid f51
  replace f52 := Lib.hid f52
  replace f59 := Lib.hid f59
  replace f75 := Lib.hid f75
  clear hd hW
  refine wpOp_plain ho rfl ?_
  go_simp
  go_at_call 35
  refine (H.cl4 _ _ _ hW1).mono ?_
  rintro ex w2 ⟨rfl, hW2⟩
  first | refine ⟨undef, rfl, ?_⟩ | refine ⟨⟨undef, rfl⟩, ?_⟩
  simpa [updB, upd, f18.out, f33.out, f38.out, f46.out, f51.out, f52.out, f59.out, f75.out] using hW2
set_option maxHeartbeats 64000000 in
theorem rSc18 (PW : Bool → Bool → Bool → Bool → Bool → Bool → Bool → Bool → Bool → Value → Value → World → Prop) (q b rb d r : Nat) (n rm : Int) (dd gn : Bool) (ua : Option Addr) (un uc : Nat) (H : rSH PW q b rb d r n rm dd gn ua un uc) {T0 : Array Value} (g0 : T0.getD 0 undef = .pointer (some ⟨q, 0, none⟩)) {ds : List Deferred} {Q : Exit → Act → World → Prop} : Chg Tryd.prog rSO Q T0 ds [4, 18, 33, 38, 46, 51, 52, 59, 75] rS_m (mkV (rSV q b rb d r n rm dd gn ua un uc)) (fun dx yx wx => PW (dx 4) (dx 18) (dx 33) (dx 38) (dx 46) (dx 51) (dx 52) (dx 59) (dx 75) (yx 46) (yx 51) wx) 18 := by
  intro ox ho dx yx Tx wx hd hdb hda hK hW
  obtain ⟨ps, af, rfl⟩ := core (some 21) (.call { callee := .value (.func 42), args := #[.tmp 20], argTypes := #[35] }) 4 (some (13, true)) ho (by kernel_rfl)
  have e20 : Tx.getD 20 undef = .pointer (some ⟨b, 0, none⟩) := hK.is 17 ho (by kernel_rfl) (by rfl)
  have hW1 : PW (dx 4) (dx 18) (dx 33) (dx 38) (dx 46) (dx 51) (dx 52) (dx 59) (dx 75) (yx 46) (yx 51) wx := hW
  have f4 := hdb 4 (by decide) (by kernel_rfl)
  have f33 := hda 33 (by decide) (by kernel_rfl)
  have f38 := hda 38 (by decide) (by kernel_rfl)
  have f46 := hda 46 (by decide) (by kernel_rfl)
  have f51 := hda 51 (by decide) (by kernel_rfl)
  have f52 := hda 52 (by decide) (by kernel_rfl)
  have f59 := hda 59 (by decide) (by kernel_rfl)
  have f75 := hda 75 (by decide) (by kernel_rfl)
  clear hdb hda
  rw [hd, f4, f33, f38, f46, f51, f52, f59, f75] at hW1
  replace f4 := Lib.hid f4
  replace f33 := Lib.hid f33
  replace f38 := Lib.hid f38
  replace f46 := Lib.hid f46
  replace f51 := Lib.hid f51
  replace f52 := Lib.hid f52
  replace f59 := Lib.hid f59
  replace f75 := Lib.hid f75
  clear hd hW
  refine wpOp_want ho ((wanted_of (d := 16) (b := true) rfl (by kernel_rfl) (hK.is 13 ho (by kernel_rfl) (rfl))).trans rfl) ?_
  go_simp
  go_at_call 42
  refine (H.cl18 _ _ _ hW1).mono ?_
  rintro ex w2 ⟨rfl, hW2⟩
  first | refine ⟨undef, rfl, ?_⟩ | refine ⟨⟨undef, rfl⟩, ?_⟩
  simpa [updB, upd, f4.out, f33.out, f38.out, f46.out, f51.out, f52.out, f59.out, f75.out] using hW2
set_option maxHeartbeats 64000000 in
theorem rSc33 (PW : Bool → Bool → Bool → Bool → Bool → Bool → Bool → Bool → Bool → Value → Value → World → Prop) (q b rb d r : Nat) (n rm : Int) (dd gn : Bool) (ua : Option Addr) (un uc : Nat) (H : rSH PW q b rb d r n rm dd gn ua un uc) {T0 : Array Value} (g0 : T0.getD 0 undef = .pointer (some ⟨q, 0, none⟩)) {ds : List Deferred} {Q : Exit → Act → World → Prop} : Chg Tryd.prog rSO Q T0 ds [4, 18, 33, 38, 46, 51, 52, 59, 75] rS_m (mkV (rSV q b rb d r n rm dd gn ua un uc)) (fun dx yx wx => PW (dx 4) (dx 18) (dx 33) (dx 38) (dx 46) (dx 51) (dx 52) (dx 59) (dx 75) (yx 46) (yx 51) wx) 33 := by
  intro ox ho dx yx Tx wx hd hdb hda hK hW
  obtain ⟨ps, af, rfl⟩ := core (some 36) (.call { callee := .value (.func 37), args := #[.tmp 35], argTypes := #[35] }) 3 (some (28, true)) ho (by kernel_rfl)
  have e35 : Tx.getD 35 undef = .pointer (some ⟨b, 0, none⟩) := hK.is 32 ho (by kernel_rfl) (by rfl)
  have hW1 : PW (dx 4) (dx 18) (dx 33) (dx 38) (dx 46) (dx 51) (dx 52) (dx 59) (dx 75) (yx 46) (yx 51) wx := hW
  have f4 := hdb 4 (by decide) (by kernel_rfl)
  have f18 := hdb 18 (by decide) (by kernel_rfl)
  have f38 := hda 38 (by decide) (by kernel_rfl)
  have f46 := hda 46 (by decide) (by kernel_rfl)
  have f51 := hda 51 (by decide) (by kernel_rfl)
  have f52 := hda 52 (by decide) (by kernel_rfl)
  have f59 := hda 59 (by decide) (by kernel_rfl)
  have f75 := hda 75 (by decide) (by kernel_rfl)
  clear hdb hda
  rw [hd, f4, f18, f38, f46, f51, f52, f59, f75] at hW1
  replace f4 := Lib.hid f4
  replace f18 := Lib.hid f18
  replace f38 := Lib.hid f38
  replace f46 := Lib.hid f46
  replace f51 := Lib.hid f51
  replace f52 := Lib.hid f52
  replace f59 := Lib.hid f59
  replace f75 := Lib.hid f75
  clear hd hW
  refine wpOp_want ho ((wanted_of (d := 31) (b := true) rfl (by kernel_rfl) (hK.is 28 ho (by kernel_rfl) (rfl))).trans rfl) ?_
  go_simp
  go_at_call 37
  refine (H.cl33 _ _ _ hW1).mono ?_
  rintro ex w2 ⟨rfl, hW2⟩
  first | refine ⟨undef, rfl, ?_⟩ | refine ⟨⟨undef, rfl⟩, ?_⟩
  simpa [updB, upd, f4.out, f18.out, f38.out, f46.out, f51.out, f52.out, f59.out, f75.out] using hW2
set_option maxHeartbeats 64000000 in
theorem rSc38 (PW : Bool → Bool → Bool → Bool → Bool → Bool → Bool → Bool → Bool → Value → Value → World → Prop) (q b rb d r : Nat) (n rm : Int) (dd gn : Bool) (ua : Option Addr) (un uc : Nat) (H : rSH PW q b rb d r n rm dd gn ua un uc) {T0 : Array Value} (g0 : T0.getD 0 undef = .pointer (some ⟨q, 0, none⟩)) {ds : List Deferred} {Q : Exit → Act → World → Prop} : Chg Tryd.prog rSO Q T0 ds [4, 18, 33, 38, 46, 51, 52, 59, 75] rS_m (mkV (rSV q b rb d r n rm dd gn ua un uc)) (fun dx yx wx => PW (dx 4) (dx 18) (dx 33) (dx 38) (dx 46) (dx 51) (dx 52) (dx 59) (dx 75) (yx 46) (yx 51) wx) 38 := by
  intro ox ho dx yx Tx wx hd hdb hda hK hW
  obtain ⟨ps, af, rfl⟩ := core (some 41) (.call { callee := .value (.func 56), args := #[.tmp 40], argTypes := #[38] }) 3 (some (28, true)) ho (by kernel_rfl)
  have e40 : Tx.getD 40 undef = .pointer (some ⟨rb, 0, none⟩) := hK.is 37 ho (by kernel_rfl) (by rfl)
  have hW1 : PW (dx 4) (dx 18) (dx 33) (dx 38) (dx 46) (dx 51) (dx 52) (dx 59) (dx 75) (yx 46) (yx 51) wx := hW
  have f4 := hdb 4 (by decide) (by kernel_rfl)
  have f18 := hdb 18 (by decide) (by kernel_rfl)
  have f33 := hdb 33 (by decide) (by kernel_rfl)
  have f46 := hda 46 (by decide) (by kernel_rfl)
  have f51 := hda 51 (by decide) (by kernel_rfl)
  have f52 := hda 52 (by decide) (by kernel_rfl)
  have f59 := hda 59 (by decide) (by kernel_rfl)
  have f75 := hda 75 (by decide) (by kernel_rfl)
  clear hdb hda
  rw [hd, f4, f18, f33, f46, f51, f52, f59, f75] at hW1
  replace f4 := Lib.hid f4
  replace f18 := Lib.hid f18
  replace f33 := Lib.hid f33
  replace f46 := Lib.hid f46
  replace f51 := Lib.hid f51
  replace f52 := Lib.hid f52
  replace f59 := Lib.hid f59
  replace f75 := Lib.hid f75
  clear hd hW
  refine wpOp_want ho ((wanted_of (d := 31) (b := true) rfl (by kernel_rfl) (hK.is 28 ho (by kernel_rfl) (rfl))).trans rfl) ?_
  go_simp
  go_at_call 56
  refine (H.cl38 _ _ _ hW1).mono ?_
  rintro ex w2 ⟨rfl, hW2⟩
  first | refine ⟨undef, rfl, ?_⟩ | refine ⟨⟨undef, rfl⟩, ?_⟩
  simpa [updB, upd, f4.out, f18.out, f33.out, f46.out, f51.out, f52.out, f59.out, f75.out] using hW2
set_option maxHeartbeats 64000000 in
theorem rSc46 (PW : Bool → Bool → Bool → Bool → Bool → Bool → Bool → Bool → Bool → Value → Value → World → Prop) (q b rb d r : Nat) (n rm : Int) (dd gn : Bool) (ua : Option Addr) (un uc : Nat) (H : rSH PW q b rb d r n rm dd gn ua un uc) {T0 : Array Value} (g0 : T0.getD 0 undef = .pointer (some ⟨q, 0, none⟩)) {ds : List Deferred} {Q : Exit → Act → World → Prop} : Chg Tryd.prog rSO Q T0 ds [4, 18, 33, 38, 46, 51, 52, 59, 75] rS_m (mkV (rSV q b rb d r n rm dd gn ua un uc)) (fun dx yx wx => PW (dx 4) (dx 18) (dx 33) (dx 38) (dx 46) (dx 51) (dx 52) (dx 59) (dx 75) (yx 46) (yx 51) wx) 46 := by
  intro ox ho dx yx Tx wx hd hdb hda hK hW
  obtain ⟨ps, af, rfl⟩ := core (some 49) (.call { callee := .value (.func 26), args := #[.tmp 48], argTypes := #[27] }) 31 (some (41, true)) ho (by kernel_rfl)
  have e48 : Tx.getD 48 undef = .pointer (some ⟨d, 0, none⟩) := hK.is 45 ho (by kernel_rfl) (by rfl)
  have hW1 : PW (dx 4) (dx 18) (dx 33) (dx 38) (dx 46) (dx 51) (dx 52) (dx 59) (dx 75) (yx 46) (yx 51) wx := hW
  have f4 := hdb 4 (by decide) (by kernel_rfl)
  have f18 := hdb 18 (by decide) (by kernel_rfl)
  have f33 := hdb 33 (by decide) (by kernel_rfl)
  have f38 := hdb 38 (by decide) (by kernel_rfl)
  have f51 := hda 51 (by decide) (by kernel_rfl)
  have f52 := hda 52 (by decide) (by kernel_rfl)
  have f59 := hda 59 (by decide) (by kernel_rfl)
  have f75 := hda 75 (by decide) (by kernel_rfl)
  clear hdb hda
  rw [hd, f4, f18, f33, f38, f51, f52, f59, f75] at hW1
  replace f4 := Lib.hid f4
  replace f18 := Lib.hid f18
  replace f33 := Lib.hid f33
  replace f38 := Lib.hid f38
  replace f51 := Lib.hid f51
  replace f52 := Lib.hid f52
  replace f59 := Lib.hid f59
  replace f75 := Lib.hid f75
  clear hd hW
  refine wpOp_want ho ((wanted_of (d := 44) (b := true) rfl (by kernel_rfl) (hK.is 41 ho (by kernel_rfl) (rfl))).trans rfl) ?_
  go_simp
  go_at_call 26
  refine (H.cl46 _ _ _ hW1).mono ?_
  rintro ex w2 ⟨vx, rfl, hW2⟩
  refine ⟨vx, rfl, ?_⟩
  simpa [updB, upd, f4.out, f18.out, f33.out, f38.out, f51.out, f52.out, f59.out, f75.out] using hW2
set_option maxHeartbeats 64000000 in
theorem rSc51 (PW : Bool → Bool → Bool → Bool → Bool → Bool → Bool → Bool → Bool → Value → Value → World → Prop) (q b rb d r : Nat) (n rm : Int) (dd gn : Bool) (ua : Option Addr) (un uc : Nat) (H : rSH PW q b rb d r n rm dd gn ua un uc) {T0 : Array Value} (g0 : T0.getD 0 undef = .pointer (some ⟨q, 0, none⟩)) {ds : List Deferred} {Q : Exit → Act → World → Prop} : Chg Tryd.prog rSO Q T0 ds [4, 18, 33, 38, 46, 51, 52, 59, 75] rS_m (mkV (rSV q b rb d r n rm dd gn ua un uc)) (fun dx yx wx => PW (dx 4) (dx 18) (dx 33) (dx 38) (dx 46) (dx 51) (dx 52) (dx 59) (dx 75) (yx 46) (yx 51) wx) 51 := by
  intro ox ho dx yx Tx wx hd hdb hda hK hW
  obtain ⟨ps, af, rfl⟩ := core (some 54) (.call { callee := .value (.func 27), args := #[.tmp 53], argTypes := #[32] }) 31 (some (41, true)) ho (by kernel_rfl)
  have e53 : Tx.getD 53 undef = .pointer (some ⟨r, 0, none⟩) := hK.is 50 ho (by kernel_rfl) (by rfl)
  have hW1 : PW (dx 4) (dx 18) (dx 33) (dx 38) (dx 46) (dx 51) (dx 52) (dx 59) (dx 75) (yx 46) (yx 51) wx := hW
  have f4 := hdb 4 (by decide) (by kernel_rfl)
  have f18 := hdb 18 (by decide) (by kernel_rfl)
  have f33 := hdb 33 (by decide) (by kernel_rfl)
  have f38 := hdb 38 (by decide) (by kernel_rfl)
  have f46 := hdb 46 (by decide) (by kernel_rfl)
  have f52 := hda 52 (by decide) (by kernel_rfl)
  have f59 := hda 59 (by decide) (by kernel_rfl)
  have f75 := hda 75 (by decide) (by kernel_rfl)
  clear hdb hda
  rw [hd, f4, f18, f33, f38, f46, f52, f59, f75] at hW1
  replace f4 := Lib.hid f4
  replace f18 := Lib.hid f18
  replace f33 := Lib.hid f33
  replace f38 := Lib.hid f38
  replace f46 := Lib.hid f46
  replace f52 := Lib.hid f52
  replace f59 := Lib.hid f59
  replace f75 := Lib.hid f75
  clear hd hW
  refine wpOp_want ho ((wanted_of (d := 44) (b := true) rfl (by kernel_rfl) (hK.is 41 ho (by kernel_rfl) (rfl))).trans rfl) ?_
  go_simp
  go_at_call 27
  refine (H.cl51 _ _ _ hW1).mono ?_
  rintro ex w2 ⟨vx, rfl, hW2⟩
  refine ⟨vx, rfl, ?_⟩
  simpa [updB, upd, f4.out, f18.out, f33.out, f38.out, f46.out, f52.out, f59.out, f75.out] using hW2
set_option maxHeartbeats 64000000 in
theorem rSc52 (PW : Bool → Bool → Bool → Bool → Bool → Bool → Bool → Bool → Bool → Value → Value → World → Prop) (q b rb d r : Nat) (n rm : Int) (dd gn : Bool) (ua : Option Addr) (un uc : Nat) (H : rSH PW q b rb d r n rm dd gn ua un uc) {T0 : Array Value} (g0 : T0.getD 0 undef = .pointer (some ⟨q, 0, none⟩)) {ds : List Deferred} {Q : Exit → Act → World → Prop} : Chg Tryd.prog rSO Q T0 ds [4, 18, 33, 38, 46, 51, 52, 59, 75] rS_m (mkV (rSV q b rb d r n rm dd gn ua un uc)) (fun dx yx wx => PW (dx 4) (dx 18) (dx 33) (dx 38) (dx 46) (dx 51) (dx 52) (dx 59) (dx 75) (yx 46) (yx 51) wx) 52 := by
  intro ox ho dx yx Tx wx hd hdb hda hK hW
  obtain ⟨ps, af, rfl⟩ := core (some 55) (.call { callee := .value (.func 25), args := #[.tmp 49, .tmp 54], argTypes := #[31, 31] }) 4 (some (41, true)) ho (by kernel_rfl)
  have e49 : Tx.getD 49 undef = yx 46 := hK.is 46 ho (by kernel_rfl) (by rfl)
  have e54 : Tx.getD 54 undef = yx 51 := hK.is 51 ho (by kernel_rfl) (by rfl)
  have hW1 : PW (dx 4) (dx 18) (dx 33) (dx 38) (dx 46) (dx 51) (dx 52) (dx 59) (dx 75) (yx 46) (yx 51) wx := hW
  have f4 := hdb 4 (by decide) (by kernel_rfl)
  have f18 := hdb 18 (by decide) (by kernel_rfl)
  have f33 := hdb 33 (by decide) (by kernel_rfl)
  have f38 := hdb 38 (by decide) (by kernel_rfl)
  have f46 := hdb 46 (by decide) (by kernel_rfl)
  have f51 := hdb 51 (by decide) (by kernel_rfl)
  have f59 := hda 59 (by decide) (by kernel_rfl)
  have f75 := hda 75 (by decide) (by kernel_rfl)
  clear hdb hda
  rw [hd, f4, f18, f33, f38, f46, f51, f59, f75] at hW1
  replace f4 := Lib.hid f4
  replace f18 := Lib.hid f18
  replace f33 := Lib.hid f33
  replace f38 := Lib.hid f38
  replace f46 := Lib.hid f46
  replace f51 := Lib.hid f51
  replace f59 := Lib.hid f59
  replace f75 := Lib.hid f75
  clear hd hW
  refine wpOp_want ho ((wanted_of (d := 44) (b := true) rfl (by kernel_rfl) (hK.is 41 ho (by kernel_rfl) (rfl))).trans rfl) ?_
  go_simp
  go_at_call 25
  refine (H.cl52 _ _ _ hW1).mono ?_
  rintro ex w2 ⟨rfl, hW2⟩
  first | refine ⟨undef, rfl, ?_⟩ | refine ⟨⟨undef, rfl⟩, ?_⟩
  simpa [updB, upd, f4.out, f18.out, f33.out, f38.out, f46.out, f51.out, f59.out, f75.out] using hW2
set_option maxHeartbeats 64000000 in
theorem rSc59 (PW : Bool → Bool → Bool → Bool → Bool → Bool → Bool → Bool → Bool → Value → Value → World → Prop) (q b rb d r : Nat) (n rm : Int) (dd gn : Bool) (ua : Option Addr) (un uc : Nat) (H : rSH PW q b rb d r n rm dd gn ua un uc) {T0 : Array Value} (g0 : T0.getD 0 undef = .pointer (some ⟨q, 0, none⟩)) {ds : List Deferred} {Q : Exit → Act → World → Prop} : Chg Tryd.prog rSO Q T0 ds [4, 18, 33, 38, 46, 51, 52, 59, 75] rS_m (mkV (rSV q b rb d r n rm dd gn ua un uc)) (fun dx yx wx => PW (dx 4) (dx 18) (dx 33) (dx 38) (dx 46) (dx 51) (dx 52) (dx 59) (dx 75) (yx 46) (yx 51) wx) 59 := by
  intro ox ho dx yx Tx wx hd hdb hda hK hW
  obtain ⟨ps, af, rfl⟩ := core (some 62) (.call { callee := .value (.func 57), args := #[.tmp 61], argTypes := #[27] }) 3 (some (54, true)) ho (by kernel_rfl)
  have e61 : Tx.getD 61 undef = .pointer (some ⟨d, 0, none⟩) := hK.is 58 ho (by kernel_rfl) (by rfl)
  have hW1 : PW (dx 4) (dx 18) (dx 33) (dx 38) (dx 46) (dx 51) (dx 52) (dx 59) (dx 75) (yx 46) (yx 51) wx := hW
  have f4 := hdb 4 (by decide) (by kernel_rfl)
  have f18 := hdb 18 (by decide) (by kernel_rfl)
  have f33 := hdb 33 (by decide) (by kernel_rfl)
  have f38 := hdb 38 (by decide) (by kernel_rfl)
  have f46 := hdb 46 (by decide) (by kernel_rfl)
  have f51 := hdb 51 (by decide) (by kernel_rfl)
  have f52 := hdb 52 (by decide) (by kernel_rfl)
  have f75 := hda 75 (by decide) (by kernel_rfl)
  clear hdb hda
  rw [hd, f4, f18, f33, f38, f46, f51, f52, f75] at hW1
  replace f4 := Lib.hid f4
  replace f18 := Lib.hid f18
  replace f33 := Lib.hid f33
  replace f38 := Lib.hid f38
  replace f46 := Lib.hid f46
  replace f51 := Lib.hid f51
  replace f52 := Lib.hid f52
  replace f75 := Lib.hid f75
  clear hd hW
  refine wpOp_want ho ((wanted_of (d := 57) (b := true) rfl (by kernel_rfl) (hK.is 54 ho (by kernel_rfl) (rfl))).trans rfl) ?_
  go_simp
  go_at_call 57
  refine (H.cl59 _ _ _ hW1).mono ?_
  rintro ex w2 ⟨rfl, hW2⟩
  first | refine ⟨undef, rfl, ?_⟩ | refine ⟨⟨undef, rfl⟩, ?_⟩
  simpa [updB, upd, f4.out, f18.out, f33.out, f38.out, f46.out, f51.out, f52.out, f75.out] using hW2
set_option maxHeartbeats 64000000 in
theorem rSc75 (PW : Bool → Bool → Bool → Bool → Bool → Bool → Bool → Bool → Bool → Value → Value → World → Prop) (q b rb d r : Nat) (n rm : Int) (dd gn : Bool) (ua : Option Addr) (un uc : Nat) (H : rSH PW q b rb d r n rm dd gn ua un uc) {T0 : Array Value} (g0 : T0.getD 0 undef = .pointer (some ⟨q, 0, none⟩)) {ds : List Deferred} {Q : Exit → Act → World → Prop} : Chg Tryd.prog rSO Q T0 ds [4, 18, 33, 38, 46, 51, 52, 59, 75] rS_m (mkV (rSV q b rb d r n rm dd gn ua un uc)) (fun dx yx wx => PW (dx 4) (dx 18) (dx 33) (dx 38) (dx 46) (dx 51) (dx 52) (dx 59) (dx 75) (yx 46) (yx 51) wx) 75 := by
  intro ox ho dx yx Tx wx hd hdb hda hK hW
  obtain ⟨ps, af, rfl⟩ := core (some 78) (.call { callee := .value (.func 28), args := #[.tmp 77], argTypes := #[27] }) 4 (some (70, true)) ho (by kernel_rfl)
  have e77 : Tx.getD 77 undef = .pointer (some ⟨d, 0, none⟩) := hK.is 74 ho (by kernel_rfl) (by rfl)
  have hW1 : PW (dx 4) (dx 18) (dx 33) (dx 38) (dx 46) (dx 51) (dx 52) (dx 59) (dx 75) (yx 46) (yx 51) wx := hW
  have f4 := hdb 4 (by decide) (by kernel_rfl)
  have f18 := hdb 18 (by decide) (by kernel_rfl)
  have f33 := hdb 33 (by decide) (by kernel_rfl)
  have f38 := hdb 38 (by decide) (by kernel_rfl)
  have f46 := hdb 46 (by decide) (by kernel_rfl)
  have f51 := hdb 51 (by decide) (by kernel_rfl)
  have f52 := hdb 52 (by decide) (by kernel_rfl)
  have f59 := hdb 59 (by decide) (by kernel_rfl)
  clear hdb hda
  rw [hd, f4, f18, f33, f38, f46, f51, f52, f59] at hW1
  replace f4 := Lib.hid f4
  replace f18 := Lib.hid f18
  replace f33 := Lib.hid f33
  replace f38 := Lib.hid f38
  replace f46 := Lib.hid f46
  replace f51 := Lib.hid f51
  replace f52 := Lib.hid f52
  replace f59 := Lib.hid f59
  clear hd hW
  refine wpOp_want ho ((wanted_of (d := 73) (b := true) rfl (by kernel_rfl) (hK.is 70 ho (by kernel_rfl) (rfl))).trans rfl) ?_
  go_simp
  go_at_call 28
  refine (H.cl75 _ _ _ hW1).mono ?_
  rintro ex w2 ⟨rfl, hW2⟩
  first | refine ⟨undef, rfl, ?_⟩ | refine ⟨⟨undef, rfl⟩, ?_⟩
  simpa [updB, upd, f4.out, f18.out, f33.out, f38.out, f46.out, f51.out, f52.out, f59.out] using hW2
set_option maxHeartbeats 64000000 in
theorem rS (PW : Bool → Bool → Bool → Bool → Bool → Bool → Bool → Bool → Bool → Value → Value → World → Prop) (q b rb d r : Nat) (n rm : Int) (dd gn : Bool) (ua : Option Addr) (un uc : Nat) (w : World)  (lq0 : ∀ (b4 b18 b33 b38 b46 b51 b52 b59 b75 : Bool) (y46 y51 : Value) (w : World), PW b4 b18 b33 b38 b46 b51 b52 b59 b75 y46 y51 w → w.cell? ⟨q, 0, none⟩ = some (.pointer (some ⟨b, 0, none⟩))) (lq2 : ∀ (b4 b18 b33 b38 b46 b51 b52 b59 b75 : Bool) (y46 y51 : Value) (w : World), PW b4 b18 b33 b38 b46 b51 b52 b59 b75 y46 y51 w → w.cell? ⟨q, 2, none⟩ = some (.pointer (some ⟨rb, 0, none⟩))) (lq1 : ∀ (b4 b18 b33 b38 b46 b51 b52 b59 b75 : Bool) (y46 y51 : Value) (w : World), PW b4 b18 b33 b38 b46 b51 b52 b59 b75 y46 y51 w → w.cell? ⟨q, 1, none⟩ = some (.pointer (some ⟨d, 0, none⟩))) (lq3 : ∀ (b4 b18 b33 b38 b46 b51 b52 b59 b75 : Bool) (y46 y51 : Value) (w : World), PW b4 b18 b33 b38 b46 b51 b52 b59 b75 y46 y51 w → w.cell? ⟨q, 3, none⟩ = some (.pointer (some ⟨r, 0, none⟩))) (lr3 : ∀ (b4 b18 b33 b38 b46 b51 b52 b59 b75 : Bool) (y46 y51 : Value) (w : World), PW b4 b18 b33 b38 b46 b51 b52 b59 b75 y46 y51 w → w.cell? ⟨rb, 3, none⟩ = some (.int .i64 n)) (lr4 : ∀ (b4 b18 b33 b38 b46 b51 b52 b59 b75 : Bool) (y46 y51 : Value) (w : World), PW b4 b18 b33 b38 b46 b51 b52 b59 b75 y46 y51 w → w.cell? ⟨rb, 4, none⟩ = some (.bool dd)) (lu : ∀ (b4 b18 b33 b38 b46 b51 b52 b59 b75 : Bool) (y46 y51 : Value) (w : World), PW b4 b18 b33 b38 b46 b51 b52 b59 b75 y46 y51 w → w.cell? ⟨r, 2, none⟩ = some (.slice ua un uc)) (lg : ∀ (b4 b18 b33 b38 b46 b51 b52 b59 b75 : Bool) (y46 y51 : Value) (w : World), PW b4 b18 b33 b38 b46 b51 b52 b59 b75 y46 y51 w → w.cell? ⟨r, 5, none⟩ = some (.bool gn)) (cl4 : ∀ (y46 y51 : Value) (w : World), PW false false false false false false false false false y46 y51 w → Calls Tryd.prog 35 #[.pointer (some ⟨b, 0, none⟩)] w fun e w1 => e = .returned (.int .i64 n) ∧ PW true false false false false false false false false y46 y51 w1) (cl18 : ∀ (y46 y51 : Value) (w : World), PW true false false false false false false false false y46 y51 w → Calls Tryd.prog 42 #[.pointer (some ⟨b, 0, none⟩)] w fun e w1 => e = .returned (.bool dd) ∧ PW true true false false false false false false false y46 y51 w1) (cl33 : ∀ (y46 y51 : Value) (w : World), PW true true false false false false false false false y46 y51 w → Calls Tryd.prog 37 #[.pointer (some ⟨b, 0, none⟩)] w fun e w1 => e = .returned (.int .i64 rm) ∧ PW true true true false false false false false false y46 y51 w1) (cl38 : ∀ (y46 y51 : Value) (w : World), PW true true true false false false false false false y46 y51 w → Calls Tryd.prog 56 #[.pointer (some ⟨rb, 0, none⟩)] w fun e w1 => e = .returned (.int .i64 rm) ∧ PW true true true true false false false false false y46 y51 w1) (cl46 : ∀ (y46 y51 : Value) (w : World), PW true true true true false false false false false y46 y51 w → Calls Tryd.prog 26 #[.pointer (some ⟨d, 0, none⟩)] w fun e w1 => ∃ v, e = .returned v ∧ PW true true true true true false false false false v y51 w1) (cl51 : ∀ (y46 y51 : Value) (w : World), PW true true true true true false false false false y46 y51 w → Calls Tryd.prog 27 #[.pointer (some ⟨r, 0, none⟩)] w fun e w1 => ∃ v, e = .returned v ∧ PW true true true true true true false false false y46 v w1) (cl52 : ∀ (y46 y51 : Value) (w : World), PW true true true true true true false false false y46 y51 w → Calls Tryd.prog 25 #[y46, y51] w fun e w1 => e = .returned (.bool true) ∧ PW true true true true true true true false false y46 y51 w1) (cl59 : ∀ (y46 y51 : Value) (w : World), PW true true true true true true true false false y46 y51 w → Calls Tryd.prog 57 #[.pointer (some ⟨d, 0, none⟩)] w fun e w1 => e = .returned (.int .i64 (un : Int)) ∧ PW true true true true true true true true false y46 y51 w1) (cl75 : ∀ (y46 y51 : Value) (w : World), PW true true true true true true true true false y46 y51 w → Calls Tryd.prog 28 #[.pointer (some ⟨d, 0, none⟩)] w fun e w1 => e = .returned (.bool gn) ∧ PW true true true true true true true true true y46 y51 w1) {t1 t3 t4 t5 t6 t7 t8 t9 t10 t11 t12 t13 t14 t15 t16 t17 t18 t19 t20 t21 t22 t23 t24 t25 t26 t27 t28 t29 t30 t31 t32 t33 t34 t35 t36 t37 t38 t39 t40 t41 t42 t43 t44 t45 t46 t47 t48 t49 t50 t51 t52 t53 t54 t55 t56 t57 t58 t59 t60 t61 t62 t63 t64 t65 t66 t67 t68 t69 t70 t71 t72 t73 t74 t75 t76 t77 t78 t79 t80 t81 t82 t83 t84 t85 t86 t87 : Value} (w0 : PW false false false false false false false false false t49 t54 w.drew) {ds : List Deferred} {Q : Exit → Act → World → Prop}
    (h : ∀ (y46 y51 : Value) (w1 : World), PW true true true true true true true true true y46 y51 w1 → Q .normal { tmps := #[.pointer (some ⟨q, 0, none⟩), t1, .bool true, .pointer (some ⟨q, 0, none⟩), .pointer (some ⟨q, 0, none⟩), .pointer (some ⟨q, 0, none⟩), .pointer (some ⟨b, 0, none⟩), .int .i64 n, .pointer (some ⟨q, 0, none⟩), .pointer (some ⟨q, 0, none⟩), .pointer (some ⟨q, 2, none⟩), .pointer (some ⟨rb, 0, none⟩), .pointer (some ⟨rb, 0, none⟩), .pointer (some ⟨rb, 3, none⟩), .int .i64 n, .bool true, .bool true, .pointer (some ⟨q, 0, none⟩), .pointer (some ⟨q, 0, none⟩), .pointer (some ⟨q, 0, none⟩), .pointer (some ⟨b, 0, none⟩), .bool dd, .pointer (some ⟨q, 0, none⟩), .pointer (some ⟨q, 0, none⟩), .pointer (some ⟨q, 2, none⟩), .pointer (some ⟨rb, 0, none⟩), .pointer (some ⟨rb, 0, none⟩), .pointer (some ⟨rb, 4, none⟩), .bool dd, .bool true, .bool true, .bool true, .pointer (some ⟨q, 0, none⟩), .pointer (some ⟨q, 0, none⟩), .pointer (some ⟨q, 0, none⟩), .pointer (some ⟨b, 0, none⟩), .int .i64 rm, .pointer (some ⟨q, 0, none⟩), .pointer (some ⟨q, 0, none⟩), .pointer (some ⟨q, 2, none⟩), .pointer (some ⟨rb, 0, none⟩), .int .i64 rm, .bool true, .bool true, .bool true, .pointer (some ⟨q, 0, none⟩), .pointer (some ⟨q, 0, none⟩), .pointer (some ⟨q, 1, none⟩), .pointer (some ⟨d, 0, none⟩), y46, .pointer (some ⟨q, 0, none⟩), .pointer (some ⟨q, 0, none⟩), .pointer (some ⟨q, 3, none⟩), .pointer (some ⟨r, 0, none⟩), y51, .bool true, .bool true, .bool true, .pointer (some ⟨q, 0, none⟩), .pointer (some ⟨q, 0, none⟩), .pointer (some ⟨q, 1, none⟩), .pointer (some ⟨d, 0, none⟩), .int .i64 (un : Int), .pointer (some ⟨q, 0, none⟩), .pointer (some ⟨q, 0, none⟩), .pointer (some ⟨q, 3, none⟩), .pointer (some ⟨r, 0, none⟩), .pointer (some ⟨r, 0, none⟩), .pointer (some ⟨r, 2, none⟩), .slice ua un uc, .int .i64 (un : Int), .bool true, .bool true, .bool true, .pointer (some ⟨q, 0, none⟩), .pointer (some ⟨q, 0, none⟩), .pointer (some ⟨q, 1, none⟩), .pointer (some ⟨d, 0, none⟩), .bool gn, .pointer (some ⟨q, 0, none⟩), .pointer (some ⟨q, 0, none⟩), .pointer (some ⟨q, 3, none⟩), .pointer (some ⟨r, 0, none⟩), .pointer (some ⟨r, 0, none⟩), .pointer (some ⟨r, 5, none⟩), .bool gn, .bool true, .bool true], defers := ds } w1) :
    (Code.region 1 rSO true).wp Tryd.prog Q { tmps := #[.pointer (some ⟨q, 0, none⟩), t1, .bool false, t3, t4, t5, t6, t7, t8, t9, t10, t11, t12, t13, t14, t15, t16, t17, t18, t19, t20, t21, t22, t23, t24, t25, t26, t27, t28, t29, t30, t31, t32, t33, t34, t35, t36, t37, t38, t39, t40, t41, t42, t43, t44, t45, t46, t47, t48, t49, t50, t51, t52, t53, t54, t55, t56, t57, t58, t59, t60, t61, t62, t63, t64, t65, t66, t67, t68, t69, t70, t71, t72, t73, t74, t75, t76, t77, t78, t79, t80, t81, t82, t83, t84, t85, t86, t87], defers := ds } w := by
  have hsz : rSO.size = 86 := by kernel_rfl
  generalize hT : List.toArray _ = T0
  have hs : T0.size = 88 := by subst hT; rfl
  have g0 : T0.getD 0 undef = .pointer (some ⟨q, 0, none⟩) := by subst hT; rfl
  have H : rSH PW q b rb d r n rm dd gn ua un uc := ⟨lq0, lq2, lq1, lq3, lr3, lr4, lu, lg, cl4, cl18, cl33, cl38, cl46, cl51, cl52, cl59, cl75⟩
  refine wp_plan (by kernel_rfl) T0 ds [4, 18, 33, 38, 46, 51, 52, 59, 75] rS_m (mkV (rSV q b rb d r n rm dd gn ua un uc)) (fun dx yx wx => PW (dx 4) (dx 18) (dx 33) (dx 38) (dx 46) (dx 51) (dx 52) (dx 59) (dx 75) (yx 46) (yx 51) wx) w (by rw [hs]; kernel_rfl) (by kernel_rfl) (by kernel_rfl) (by rw [hsz]; decide) (fun cx hc ix hne ha yx vx => mkV_fix (by kernel_rfl) hne ha yx vx) (fun i hi => ?_) (fun cx hc => ?_) ⟨fun k => if k = 46 then t49 else if k = 51 then t54 else undef, w0⟩ (fun dx yx wx hd hW => ?_)
  · rw [hsz] at hi
    by_cases h29 : i < 29
    · exact rSp0 PW q b rb d r n rm dd gn ua un uc H g0 i (by omega) h29
    by_cases h58 : i < 58
    · exact rSp29 PW q b rb d r n rm dd gn ua un uc H g0 i (by omega) h58
    exact rSp58 PW q b rb d r n rm dd gn ua un uc H g0 i (by omega) hi
  · have hcase : cx = 4 ∨ cx = 18 ∨ cx = 33 ∨ cx = 38 ∨ cx = 46 ∨ cx = 51 ∨ cx = 52 ∨ cx = 59 ∨ cx = 75 := by simpa using hc
    rcases hcase with rfl | rfl | rfl | rfl | rfl | rfl | rfl | rfl | rfl
    · exact rSc4 PW q b rb d r n rm dd gn ua un uc H g0
    · exact rSc18 PW q b rb d r n rm dd gn ua un uc H g0
    · exact rSc33 PW q b rb d r n rm dd gn ua un uc H g0
    · exact rSc38 PW q b rb d r n rm dd gn ua un uc H g0
    · exact rSc46 PW q b rb d r n rm dd gn ua un uc H g0
    · exact rSc51 PW q b rb d r n rm dd gn ua un uc H g0
    · exact rSc52 PW q b rb d r n rm dd gn ua un uc H g0
    · exact rSc59 PW q b rb d r n rm dd gn ua un uc H g0
    · exact rSc75 PW q b rb d r n rm dd gn ua un uc H g0
  · have hW1 : PW (dx 4) (dx 18) (dx 33) (dx 38) (dx 46) (dx 51) (dx 52) (dx 59) (dx 75) (yx 46) (yx 51) wx := hW
    rw [hd 4 (by decide), hd 18 (by decide), hd 33 (by decide), hd 38 (by decide), hd 46 (by decide), hd 51 (by decide), hd 52 (by decide), hd 59 (by decide), hd 75 (by decide)] at hW1
    have hQ := h _ _ _ hW1
    subst hT
    refine cast (congrArg (fun Tx => Q .normal ⟨Tx, ds⟩ wx) ?_) hQ
    kernel_rfl
end Go.Proofs.YtmoihgniglomiaaDoor
