/- What Decode answers: the item with which the bytes begin, how many they are, or why not. Condition: the library's tables. -/
import Derived.Test.YtghdcgokndmkjaaDoorW
import Derived.Test.YtghdcgokndmkjaaDoorP
set_option linter.unusedVariables false
set_option linter.unusedSimpArgs false
namespace Go.Proofs.YtghdcgokndmkjaaDoor
open Go.RowKit Go.Sort

/-- what Decode tells: the item, how many bytes, the error -/
def decR (V : List UInt8 → Bool) (s : List UInt8) : It × Nat × Int :=
  if 4096 < s.length then (It.none, 0, 32)
  else match dec V 16 s with
    | .error deep => (It.none, 0, errN deep)
    | .ok (t, r) => (t, s.length - r.length, 0)
/-- an item with its bytes' number and an error, its list in blocks from W on -/
def DecR (W : Nat) (x : It × Nat × Int) (w' : World) (e : Ending) : Prop :=
  ∃ A c, c ≤ 9223372036854775807 ∧ e = .returned (.tuple #[itV x.1 A c, .int .i64 x.2.1, .int .i64 x.2.2]) ∧ Sz x.1 ∧ RdL 16 (fun b => W ≤ b) w' A x.1.list ∧ x.2.1 ≤ 4096
theorem DecR.no {W : Nat} {n : Int} {w' : World} : DecR W (It.none, 0, n) w' (.returned (.tuple #[.agg #[.int .i64 0, .int .i64 0, .string ⟨#[]⟩, .slice none 0 0], .int .i64 0, .int .i64 n])) :=
  ⟨none, 0, by omega, rfl, ⟨by show (_ : Int) ≤ 0; omega, by show (0 : Int) ≤ _; omega, by simp [It.none, It.text]⟩, RdL.nil _ _ _ _, by simp⟩

set_option maxHeartbeats 1000000 in
set_option maxRecDepth 100000 in
theorem dcatch_panicking (p q r : Nat) (n : Int) (older : List PanicEntry) (w : World) (x0 x1 x2 x3 y z : Value) (h0 : w.cell? ⟨p, 0, none⟩ = some x0) (h1 : w.cell? ⟨p, 1, none⟩ = some x1) (h2 : w.cell? ⟨p, 2, none⟩ = some x2) (h3 : w.cell? ⟨p, 3, none⟩ = some x3) (hy : w.cell? ⟨q, 0, none⟩ = some y) (hz : w.cell? ⟨r, 0, none⟩ = some z)
    (f0 : w.frozen? ⟨p, 0, none⟩ = false) (f1 : w.frozen? ⟨p, 1, none⟩ = false) (f2 : w.frozen? ⟨p, 2, none⟩ = false) (f3 : w.frozen? ⟨p, 3, none⟩ = false) (fy : w.frozen? ⟨q, 0, none⟩ = false) (fz : w.frozen? ⟨r, 0, none⟩ = false) (hpq : p ≠ q) (hpr : p ≠ r) (hqr : q ≠ r) :
    CallsD Tryd.prog 17 #[.pointer (some ⟨p, 0, none⟩), .pointer (some ⟨q, 0, none⟩), .pointer (some ⟨r, 0, none⟩)] (.panicking ({ v := .iface 25 (.int .i64 n), recovered := false } :: older)) w fun e u' w' =>
      e = .returned (.tuple #[]) ∧ u' = .panicking ({ v := .iface 25 (.int .i64 n), recovered := true } :: older) ∧ w' = (((S4 w p (.int .i64 0) (.int .i64 0) (.string ⟨#[]⟩) (.slice none 0 0)).setCell ⟨q, 0, none⟩ (.int .i64 0)).setCell ⟨r, 0, none⟩ (.int .i64 n)).drew := by
  have hta := assert_errno n
  unfold S4
  refine callsD_of_wpS Tryd.func17 rfl fun c₀ cs hu => ?_
  apply wpS_seq
  apply wpS_region
  simp [wpOpsS, go_sem, recoverD, hu, Tryd.ntmps17, Exit.thenS]
  apply wpS_seq
  apply wpS_region
  simp [wpOpsS, go_sem, Exit.thenS]
  refine wpS_cond (t := true) (by simp [Act.eval, Array.replicate]) ?_
  simp only [if_true]
  refine wpS_of_wp ?_
  go_region
  all_goals
    clear h0 h1 h2 h3 hy hz f0 f1 f2 f3 fy fz hpq hpr hqr hta
    generalize World.drew _ = W'
    cases c₀
    simp_all [bodyPostS, results, Tryd.results17, go_sem]

set_option maxRecDepth 100000 in
theorem dcatch_idle (a b c : Value) (w : World) :
    CallsD Tryd.prog 17 #[a, b, c] .returning w fun e u' w' => e = .returned (.tuple #[]) ∧ u' = .returning ∧ w' = w := by
  refine callsD_of_wpS Tryd.func17 rfl fun c₀ cs hu => ?_
  apply wpS_seq
  apply wpS_region
  simp [wpOpsS, go_sem, recoverD, hu, Tryd.ntmps17, Exit.thenS]
  apply wpS_seq
  apply wpS_region
  simp [wpOpsS, go_sem, Exit.thenS]
  refine wpS_cond (t := false) (by simp [Act.eval, Array.replicate]) ?_
  simp only [Bool.false_eq_true, if_false]
  refine wpS_of_wp (wp_skip ?_)
  cases c₀
  simp_all [bodyPostS, results, Tryd.results17]

set_option maxHeartbeats 2000000 in
set_option maxRecDepth 100000 in
theorem decode_long (s : List UInt8) (w : World) (hs : 4096 < s.length) (hs2 : s.length ≤ 9223372036854775807) :
    Calls Tryd.prog 7 #[.string ⟨s.toArray⟩] w fun e w' => DecR w.heap.size (decR Lib.validD s) w' e ∧ Below w.heap.size w w' := by
  have HE : Hid (decR Lib.validD s = (It.none, 0, 32)) := Lib.hid (by unfold decR; rw [if_pos hs])
  have ha : Below w.heap.size w (((w.alloc (.cells #[.int .i64 0, .int .i64 0, .string ⟨#[]⟩, .slice none 0 0] 24)).alloc (.cells #[.int .i64 0] 3)).alloc (.cells #[.int .i64 0] 25)) := (((Below.refl _ _).alloc (Nat.le_refl _) _).alloc (by simp) _).alloc (by simp; omega) _
  have HA := Lib.hid ha
  obtain ⟨h0, h1, h2, _, _⟩ := box3 (w := w) (wr := (((w.alloc (.cells #[.int .i64 0, .int .i64 0, .string ⟨#[]⟩, .slice none 0 0] 24)).alloc (.cells #[.int .i64 0] 3)).alloc (.cells #[.int .i64 0] 25))) (a0 := #[.int .i64 0, .int .i64 0, .string ⟨#[]⟩, .slice none 0 0]) (a1 := #[.int .i64 0]) (a2 := #[.int .i64 0]) (T := 24) (T' := 3) (T'' := 25) (Below.refl _ _)
  have hlen : (⟨s.toArray⟩ : ByteArray).size = s.length := by simp [ByteArray.size]
  have z0 := cellOf h0 0
  have z1 := cellOf h0 1
  have z2 := cellOf h0 2
  have z3 := cellOf h0 3
  have c1 := cellOf h1 0
  have c2 := cellOf h2 0
  simp at z0 z1 z2 z3 c1 c2
  have y0 := Lib.frozen_of_heap h0 0
  have y1 := Lib.frozen_of_heap h0 1
  have y2 := Lib.frozen_of_heap h0 2
  have y3 := Lib.frozen_of_heap h0 3
  have f1 := Lib.frozen_of_heap h1 0
  have f2 := Lib.frozen_of_heap h2 0
  clear h0 h1 h2 ha
  go_enter_defers Tryd.func7, Tryd.ntmps7
  go_wp2_with fail
  clear y0 y1 y2 y3 f1 f2
  generalize (((w.alloc (.cells #[.int .i64 0, .int .i64 0, .string ⟨#[]⟩, .slice none 0 0] 24)).alloc (.cells #[.int .i64 0] 3)).alloc (.cells #[.int .i64 0] 25)) = w3 at HA z0 z1 z2 z3 c1 c2 ⊢
  refine ⟨.tuple #[.agg #[.int .i64 0, .int .i64 0, .string ⟨#[]⟩, .slice none 0 0], .int .i64 0, .int .i64 32], by simp [results, Tryd.results7, go_sem, z0, z1, z2, z3, c1, c2], by rw [HE.out]; exact DecR.no, ?_⟩
  exact (((Below.refl _ _).alloc (Nat.le_refl _) _).alloc (by simp) _).alloc (by simp; omega) _
end Go.Proofs.YtghdcgokndmkjaaDoor
