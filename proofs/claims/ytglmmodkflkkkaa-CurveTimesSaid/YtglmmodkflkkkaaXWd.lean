import Derived.Test.YtglmmodkflkkkaaXWc
import Derived.Test.YtglmmodkflkkkaaXWa
import Derived.Test.YtglmmodkflkkkaaXDb
set_option linter.unusedVariables false
set_option linter.unusedSimpArgs false
set_option maxRecDepth 100000
namespace Go.Proofs.Ytglmmodkflkkkaa.Ref
open Go.RowKit Go.Sort Go.Proofs.Ytglmmodkflkkkaa.Digits Limbs Curve
set_option maxHeartbeats 16000000 in
theorem times_off (kx px py ax ay : Nat) (pi ai : Bool) (HMU : Hid (∀ w, Calls Try.prog 50 #[.agg #[.int .u64 (lb kx 0 : Nat), .int .u64 (lb kx 1 : Nat), .int .u64 (lb kx 2 : Nat), .int .u64 (lb kx 3 : Nat)], .agg #[.int .u64 (lb px 0 : Nat), .int .u64 (lb px 1 : Nat), .int .u64 (lb px 2 : Nat), .int .u64 (lb px 3 : Nat), .int .u64 (lb py 0 : Nat), .int .u64 (lb py 1 : Nat), .int .u64 (lb py 2 : Nat), .int .u64 (lb py 3 : Nat), .bool pi]] w fun e w' => e = .returned (.tuple #[.agg #[.int .u64 0, .int .u64 0, .int .u64 0, .int .u64 0, .int .u64 0, .int .u64 0, .int .u64 0, .int .u64 0, .bool false], .int .i64 70]) ∧ Below w.heap.size w w')) (HRP : Hid (∀ w, Calls Try.prog 40 #[.agg #[.int .u64 (lb px 0 : Nat), .int .u64 (lb px 1 : Nat), .int .u64 (lb px 2 : Nat), .int .u64 (lb px 3 : Nat), .int .u64 (lb py 0 : Nat), .int .u64 (lb py 1 : Nat), .int .u64 (lb py 2 : Nat), .int .u64 (lb py 3 : Nat), .bool pi]] w fun e w' => e = .returned (.bool false) ∧ Below w.heap.size w w')) (HEZ : Hid (∀ w, (Op.equalIn 10000 51 (.agg #[.int .u64 0, .int .u64 0, .int .u64 0, .int .u64 0, .int .u64 0, .int .u64 0, .int .u64 0, .int .u64 0, .bool false]) (.agg #[.int .u64 0, .int .u64 0, .int .u64 0, .int .u64 0, .int .u64 0, .int .u64 0, .int .u64 0, .int .u64 0, .bool false])).run Try.prog w = .ok true w)) (w : World) :
    Calls Try.prog 10 #[.agg #[.int .u64 (lb kx 0 : Nat), .int .u64 (lb kx 1 : Nat), .int .u64 (lb kx 2 : Nat), .int .u64 (lb kx 3 : Nat)], .agg #[.int .u64 (lb px 0 : Nat), .int .u64 (lb px 1 : Nat), .int .u64 (lb px 2 : Nat), .int .u64 (lb px 3 : Nat), .int .u64 (lb py 0 : Nat), .int .u64 (lb py 1 : Nat), .int .u64 (lb py 2 : Nat), .int .u64 (lb py 3 : Nat), .bool pi]] w fun r w' => r = .returned (.bool true) ∧ Below w.heap.size w w' := by
  have HAW := Lib.hid awake7_any
  go_enter Try.func10, Try.ntmps10
  go_wp2_with fail
  have KN : Hid (Bk 24 ((w.alloc (.cells #[.int .u64 (lb kx 0 : Nat), .int .u64 (lb kx 1 : Nat), .int .u64 (lb kx 2 : Nat), .int .u64 (lb kx 3 : Nat)] 24)).alloc (.cells #[.int .u64 (lb px 0 : Nat), .int .u64 (lb px 1 : Nat), .int .u64 (lb px 2 : Nat), .int .u64 (lb px 3 : Nat), .int .u64 (lb py 0 : Nat), .int .u64 (lb py 1 : Nat), .int .u64 (lb py 2 : Nat), .int .u64 (lb py 3 : Nat), .bool pi] 51)) w.heap.size #[.int .u64 (lb kx 0 : Nat), .int .u64 (lb kx 1 : Nat), .int .u64 (lb kx 2 : Nat), .int .u64 (lb kx 3 : Nat)]) := Lib.hid (Bk.alloc (Bk.new rfl))
  have KP : Hid (Bk 51 ((w.alloc (.cells #[.int .u64 (lb kx 0 : Nat), .int .u64 (lb kx 1 : Nat), .int .u64 (lb kx 2 : Nat), .int .u64 (lb kx 3 : Nat)] 24)).alloc (.cells #[.int .u64 (lb px 0 : Nat), .int .u64 (lb px 1 : Nat), .int .u64 (lb px 2 : Nat), .int .u64 (lb px 3 : Nat), .int .u64 (lb py 0 : Nat), .int .u64 (lb py 1 : Nat), .int .u64 (lb py 2 : Nat), .int .u64 (lb py 3 : Nat), .bool pi] 51)) (w.heap.size + 1) #[.int .u64 (lb px 0 : Nat), .int .u64 (lb px 1 : Nat), .int .u64 (lb px 2 : Nat), .int .u64 (lb px 3 : Nat), .int .u64 (lb py 0 : Nat), .int .u64 (lb py 1 : Nat), .int .u64 (lb py 2 : Nat), .int .u64 (lb py 3 : Nat), .bool pi]) := Lib.hid (Bk.new (by simp))
  have HB : Hid (Below w.heap.size w ((w.alloc (.cells #[.int .u64 (lb kx 0 : Nat), .int .u64 (lb kx 1 : Nat), .int .u64 (lb kx 2 : Nat), .int .u64 (lb kx 3 : Nat)] 24)).alloc (.cells #[.int .u64 (lb px 0 : Nat), .int .u64 (lb px 1 : Nat), .int .u64 (lb px 2 : Nat), .int .u64 (lb px 3 : Nat), .int .u64 (lb py 0 : Nat), .int .u64 (lb py 1 : Nat), .int .u64 (lb py 2 : Nat), .int .u64 (lb py 3 : Nat), .bool pi] 51))) := Lib.hid (by go_grown)
  obtain ⟨gP, hgP⟩ : ∃ g, g = w.heap.size + 1 := ⟨_, rfl⟩
  rw [← hgP] at KP ⊢
  clear hgP
  generalize ((w.alloc (.cells #[.int .u64 (lb kx 0 : Nat), .int .u64 (lb kx 1 : Nat), .int .u64 (lb kx 2 : Nat), .int .u64 (lb kx 3 : Nat)] 24)).alloc (.cells #[.int .u64 (lb px 0 : Nat), .int .u64 (lb px 1 : Nat), .int .u64 (lb px 2 : Nat), .int .u64 (lb px 3 : Nat), .int .u64 (lb py 0 : Nat), .int .u64 (lb py 1 : Nat), .int .u64 (lb py 2 : Nat), .int .u64 (lb py 3 : Nat), .bool pi] 51)) = w0 at KN KP HB ⊢
  obtain ⟨b0, b1, b2, b3⟩ := KN.out.cells
  obtain ⟨⟨a0, a1, a2, a3⟩, ⟨a4, a5, a6, a7⟩, a8⟩ := KP.out.cells9
  go_wp2_with fail
  clear b0 b1 b2 b3 a0 a1 a2 a3 a4 a5 a6 a7 a8
  refine (keep w.heap.size w (HMU.out _) HB.out (Nat.le_refl _)).mono ?_
  rintro e w1 ⟨rfl, hb, hk⟩
  replace KN := Lib.hid (KN.out.below hk)
  replace KP := Lib.hid (KP.out.below hk)
  replace HB := Lib.hid hb
  clear hb hk
  go_wp2_with fail
  have KA : Hid (Bk 51 (w1.alloc (.cells #[.int .u64 0, .int .u64 0, .int .u64 0, .int .u64 0, .int .u64 0, .int .u64 0, .int .u64 0, .int .u64 0, .bool false] 51)) w1.heap.size #[.int .u64 0, .int .u64 0, .int .u64 0, .int .u64 0, .int .u64 0, .int .u64 0, .int .u64 0, .int .u64 0, .bool false]) := Lib.hid (Bk.new rfl)
  have hal := al_below w1 (.cells #[.int .u64 0, .int .u64 0, .int .u64 0, .int .u64 0, .int .u64 0, .int .u64 0, .int .u64 0, .int .u64 0, .bool false] 51)
  replace KN := Lib.hid (KN.out.below hal)
  replace KP := Lib.hid (KP.out.below hal)
  replace HB := Lib.hid (HB.out.trans (hal.mono HB.out.size))
  clear hal
  obtain ⟨gA, hg⟩ : ∃ g, g = w1.heap.size := ⟨_, rfl⟩
  rw [← hg] at KA ⊢
  clear hg
  generalize (w1.alloc (.cells #[.int .u64 0, .int .u64 0, .int .u64 0, .int .u64 0, .int .u64 0, .int .u64 0, .int .u64 0, .int .u64 0, .bool false] 51)) = w1x at HB KA KN KP ⊢
  refine (keep w.heap.size w (HAW.out _) HB.out (Nat.le_refl _)).mono ?_
  rintro e w2 ⟨rfl, hb, hk⟩
  replace KN := Lib.hid (KN.out.below hk)
  replace KP := Lib.hid (KP.out.below hk)
  replace KA := Lib.hid (KA.out.below hk)
  replace HB := Lib.hid hb
  clear hb hk
  obtain ⟨⟨a0, a1, a2, a3⟩, ⟨a4, a5, a6, a7⟩, a8⟩ := KP.out.cells9
  go_wp2_with fail
  clear a0 a1 a2 a3 a4 a5 a6 a7 a8
  have hQ := HEZ.out
  refine (keep w.heap.size w (HRP.out _) HB.out (Nat.le_refl _)).mono ?_
  rintro e w3 ⟨rfl, hb, hk⟩
  replace KN := Lib.hid (KN.out.below hk)
  replace KP := Lib.hid (KP.out.below hk)
  replace KA := Lib.hid (KA.out.below hk)
  replace HB := Lib.hid hb
  clear hb hk
  obtain ⟨⟨c0, c1, c2, c3⟩, ⟨c4, c5, c6, c7⟩, c8⟩ := KA.out.cells9
  go_wp2_with fail
  go_ret
  exact ⟨rfl, HB.out⟩
set_option maxHeartbeats 16000000 in
theorem times_on (kx px py ax ay : Nat) (pi ai : Bool) (HMU : Hid (∀ w, Calls Try.prog 50 #[.agg #[.int .u64 (lb kx 0 : Nat), .int .u64 (lb kx 1 : Nat), .int .u64 (lb kx 2 : Nat), .int .u64 (lb kx 3 : Nat)], .agg #[.int .u64 (lb px 0 : Nat), .int .u64 (lb px 1 : Nat), .int .u64 (lb px 2 : Nat), .int .u64 (lb px 3 : Nat), .int .u64 (lb py 0 : Nat), .int .u64 (lb py 1 : Nat), .int .u64 (lb py 2 : Nat), .int .u64 (lb py 3 : Nat), .bool pi]] w fun e w' => e = .returned (.tuple #[.agg #[.int .u64 (lb ax 0 : Nat), .int .u64 (lb ax 1 : Nat), .int .u64 (lb ax 2 : Nat), .int .u64 (lb ax 3 : Nat), .int .u64 (lb ay 0 : Nat), .int .u64 (lb ay 1 : Nat), .int .u64 (lb ay 2 : Nat), .int .u64 (lb ay 3 : Nat), .bool ai], .int .i64 0]) ∧ Below w.heap.size w w')) (HRP : Hid (∀ w, Calls Try.prog 40 #[.agg #[.int .u64 (lb px 0 : Nat), .int .u64 (lb px 1 : Nat), .int .u64 (lb px 2 : Nat), .int .u64 (lb px 3 : Nat), .int .u64 (lb py 0 : Nat), .int .u64 (lb py 1 : Nat), .int .u64 (lb py 2 : Nat), .int .u64 (lb py 3 : Nat), .bool pi]] w fun e w' => e = .returned (.bool true) ∧ Below w.heap.size w w')) (HIP : Hid (∀ w, Calls Try.prog 46 #[.agg #[.int .u64 (lb px 0 : Nat), .int .u64 (lb px 1 : Nat), .int .u64 (lb px 2 : Nat), .int .u64 (lb px 3 : Nat), .int .u64 (lb py 0 : Nat), .int .u64 (lb py 1 : Nat), .int .u64 (lb py 2 : Nat), .int .u64 (lb py 3 : Nat), .bool pi]] w fun e w' => ∃ v', e = .returned v' ∧ RP w' v' (Po.mk px py pi) ∧ Below w.heap.size w w')) (HIK : Hid (∀ w, Calls Try.prog 14 #[.agg #[.int .u64 (lb kx 0 : Nat), .int .u64 (lb kx 1 : Nat), .int .u64 (lb kx 2 : Nat), .int .u64 (lb kx 3 : Nat)]] w fun e w' => ∃ v', e = .returned v' ∧ Nr w w' v' kx)) (HTI : Hid (∀ v u w, RP w v (Po.mk px py pi) → NV w u kx → Calls Try.prog 51 #[v, u] w fun e w' => ∃ v', e = .returned v' ∧ RP w' v' (mulB (Po.mk px py pi) kx 0) ∧ Below w.heap.size w w')) (HFA : Hid (∀ v u w, RP w v (Po.mk px py pi) → NV w u kx → Calls Try.prog 52 #[v, u] w fun e w' => ∃ v', e = .returned v' ∧ RP w' v' (mulB (Po.mk px py pi) kx 0) ∧ Below w.heap.size w w')) (HOU : Hid (∀ v w, RP w v (mulB (Po.mk px py pi) kx 0) → Calls Try.prog 48 #[v] w fun e w' => e = .returned (.agg #[.int .u64 (lb ax 0 : Nat), .int .u64 (lb ax 1 : Nat), .int .u64 (lb ax 2 : Nat), .int .u64 (lb ax 3 : Nat), .int .u64 (lb ay 0 : Nat), .int .u64 (lb ay 1 : Nat), .int .u64 (lb ay 2 : Nat), .int .u64 (lb ay 3 : Nat), .bool ai]) ∧ Below w.heap.size w w')) (HEQ : Hid (∀ w, (Op.equalIn 10000 51 (.agg #[.int .u64 (lb ax 0 : Nat), .int .u64 (lb ax 1 : Nat), .int .u64 (lb ax 2 : Nat), .int .u64 (lb ax 3 : Nat), .int .u64 (lb ay 0 : Nat), .int .u64 (lb ay 1 : Nat), .int .u64 (lb ay 2 : Nat), .int .u64 (lb ay 3 : Nat), .bool ai]) (.agg #[.int .u64 (lb ax 0 : Nat), .int .u64 (lb ax 1 : Nat), .int .u64 (lb ax 2 : Nat), .int .u64 (lb ax 3 : Nat), .int .u64 (lb ay 0 : Nat), .int .u64 (lb ay 1 : Nat), .int .u64 (lb ay 2 : Nat), .int .u64 (lb ay 3 : Nat), .bool ai])).run Try.prog w = .ok true w)) (w : World) :
    Calls Try.prog 10 #[.agg #[.int .u64 (lb kx 0 : Nat), .int .u64 (lb kx 1 : Nat), .int .u64 (lb kx 2 : Nat), .int .u64 (lb kx 3 : Nat)], .agg #[.int .u64 (lb px 0 : Nat), .int .u64 (lb px 1 : Nat), .int .u64 (lb px 2 : Nat), .int .u64 (lb px 3 : Nat), .int .u64 (lb py 0 : Nat), .int .u64 (lb py 1 : Nat), .int .u64 (lb py 2 : Nat), .int .u64 (lb py 3 : Nat), .bool pi]] w fun r w' => r = .returned (.bool true) ∧ Below w.heap.size w w' := by
  have HAW := Lib.hid awake7_any
  go_enter Try.func10, Try.ntmps10
  go_wp2_with fail
  have KN : Hid (Bk 24 ((w.alloc (.cells #[.int .u64 (lb kx 0 : Nat), .int .u64 (lb kx 1 : Nat), .int .u64 (lb kx 2 : Nat), .int .u64 (lb kx 3 : Nat)] 24)).alloc (.cells #[.int .u64 (lb px 0 : Nat), .int .u64 (lb px 1 : Nat), .int .u64 (lb px 2 : Nat), .int .u64 (lb px 3 : Nat), .int .u64 (lb py 0 : Nat), .int .u64 (lb py 1 : Nat), .int .u64 (lb py 2 : Nat), .int .u64 (lb py 3 : Nat), .bool pi] 51)) w.heap.size #[.int .u64 (lb kx 0 : Nat), .int .u64 (lb kx 1 : Nat), .int .u64 (lb kx 2 : Nat), .int .u64 (lb kx 3 : Nat)]) := Lib.hid (Bk.alloc (Bk.new rfl))
  have KP : Hid (Bk 51 ((w.alloc (.cells #[.int .u64 (lb kx 0 : Nat), .int .u64 (lb kx 1 : Nat), .int .u64 (lb kx 2 : Nat), .int .u64 (lb kx 3 : Nat)] 24)).alloc (.cells #[.int .u64 (lb px 0 : Nat), .int .u64 (lb px 1 : Nat), .int .u64 (lb px 2 : Nat), .int .u64 (lb px 3 : Nat), .int .u64 (lb py 0 : Nat), .int .u64 (lb py 1 : Nat), .int .u64 (lb py 2 : Nat), .int .u64 (lb py 3 : Nat), .bool pi] 51)) (w.heap.size + 1) #[.int .u64 (lb px 0 : Nat), .int .u64 (lb px 1 : Nat), .int .u64 (lb px 2 : Nat), .int .u64 (lb px 3 : Nat), .int .u64 (lb py 0 : Nat), .int .u64 (lb py 1 : Nat), .int .u64 (lb py 2 : Nat), .int .u64 (lb py 3 : Nat), .bool pi]) := Lib.hid (Bk.new (by simp))
  have HB : Hid (Below w.heap.size w ((w.alloc (.cells #[.int .u64 (lb kx 0 : Nat), .int .u64 (lb kx 1 : Nat), .int .u64 (lb kx 2 : Nat), .int .u64 (lb kx 3 : Nat)] 24)).alloc (.cells #[.int .u64 (lb px 0 : Nat), .int .u64 (lb px 1 : Nat), .int .u64 (lb px 2 : Nat), .int .u64 (lb px 3 : Nat), .int .u64 (lb py 0 : Nat), .int .u64 (lb py 1 : Nat), .int .u64 (lb py 2 : Nat), .int .u64 (lb py 3 : Nat), .bool pi] 51))) := Lib.hid (by go_grown)
  obtain ⟨gP, hgP⟩ : ∃ g, g = w.heap.size + 1 := ⟨_, rfl⟩
  rw [← hgP] at KP ⊢
  clear hgP
  generalize ((w.alloc (.cells #[.int .u64 (lb kx 0 : Nat), .int .u64 (lb kx 1 : Nat), .int .u64 (lb kx 2 : Nat), .int .u64 (lb kx 3 : Nat)] 24)).alloc (.cells #[.int .u64 (lb px 0 : Nat), .int .u64 (lb px 1 : Nat), .int .u64 (lb px 2 : Nat), .int .u64 (lb px 3 : Nat), .int .u64 (lb py 0 : Nat), .int .u64 (lb py 1 : Nat), .int .u64 (lb py 2 : Nat), .int .u64 (lb py 3 : Nat), .bool pi] 51)) = w0 at KN KP HB ⊢
  obtain ⟨b0, b1, b2, b3⟩ := KN.out.cells
  obtain ⟨⟨a0, a1, a2, a3⟩, ⟨a4, a5, a6, a7⟩, a8⟩ := KP.out.cells9
  go_wp2_with fail
  clear b0 b1 b2 b3 a0 a1 a2 a3 a4 a5 a6 a7 a8
  refine (keep w.heap.size w (HMU.out _) HB.out (Nat.le_refl _)).mono ?_
  rintro e w1 ⟨rfl, hb, hk⟩
  replace KN := Lib.hid (KN.out.below hk)
  replace KP := Lib.hid (KP.out.below hk)
  replace HB := Lib.hid hb
  clear hb hk
  go_wp2_with fail
  have KA : Hid (Bk 51 (w1.alloc (.cells #[.int .u64 (lb ax 0 : Nat), .int .u64 (lb ax 1 : Nat), .int .u64 (lb ax 2 : Nat), .int .u64 (lb ax 3 : Nat), .int .u64 (lb ay 0 : Nat), .int .u64 (lb ay 1 : Nat), .int .u64 (lb ay 2 : Nat), .int .u64 (lb ay 3 : Nat), .bool ai] 51)) w1.heap.size #[.int .u64 (lb ax 0 : Nat), .int .u64 (lb ax 1 : Nat), .int .u64 (lb ax 2 : Nat), .int .u64 (lb ax 3 : Nat), .int .u64 (lb ay 0 : Nat), .int .u64 (lb ay 1 : Nat), .int .u64 (lb ay 2 : Nat), .int .u64 (lb ay 3 : Nat), .bool ai]) := Lib.hid (Bk.new rfl)
  have hal := al_below w1 (.cells #[.int .u64 (lb ax 0 : Nat), .int .u64 (lb ax 1 : Nat), .int .u64 (lb ax 2 : Nat), .int .u64 (lb ax 3 : Nat), .int .u64 (lb ay 0 : Nat), .int .u64 (lb ay 1 : Nat), .int .u64 (lb ay 2 : Nat), .int .u64 (lb ay 3 : Nat), .bool ai] 51)
  replace KN := Lib.hid (KN.out.below hal)
  replace KP := Lib.hid (KP.out.below hal)
  replace HB := Lib.hid (HB.out.trans (hal.mono HB.out.size))
  clear hal
  obtain ⟨gA, hg⟩ : ∃ g, g = w1.heap.size := ⟨_, rfl⟩
  rw [← hg] at KA ⊢
  clear hg
  generalize (w1.alloc (.cells #[.int .u64 (lb ax 0 : Nat), .int .u64 (lb ax 1 : Nat), .int .u64 (lb ax 2 : Nat), .int .u64 (lb ax 3 : Nat), .int .u64 (lb ay 0 : Nat), .int .u64 (lb ay 1 : Nat), .int .u64 (lb ay 2 : Nat), .int .u64 (lb ay 3 : Nat), .bool ai] 51)) = w1x at HB KA KN KP ⊢
  refine (keep w.heap.size w (HAW.out _) HB.out (Nat.le_refl _)).mono ?_
  rintro e w2 ⟨rfl, hb, hk⟩
  replace KN := Lib.hid (KN.out.below hk)
  replace KP := Lib.hid (KP.out.below hk)
  replace KA := Lib.hid (KA.out.below hk)
  replace HB := Lib.hid hb
  clear hb hk
  obtain ⟨⟨a0, a1, a2, a3⟩, ⟨a4, a5, a6, a7⟩, a8⟩ := KP.out.cells9
  go_wp2_with fail
  clear a0 a1 a2 a3 a4 a5 a6 a7 a8
  refine (keep w.heap.size w (HRP.out _) HB.out (Nat.le_refl _)).mono ?_
  rintro e w3 ⟨rfl, hb, hk⟩
  replace KN := Lib.hid (KN.out.below hk)
  replace KP := Lib.hid (KP.out.below hk)
  replace KA := Lib.hid (KA.out.below hk)
  replace HB := Lib.hid hb
  clear hb hk
  go_wp2_with fail
  refine cs6 w.heap.size gP gA kx px py ax ay pi ai w3 KN.out KP.out KA.out HIP HIK HTI HFA HOU HEQ ?_
  intros
  rename_i wy hb1
  replace HB := Lib.hid (HB.out.trans (hb1.mono HB.out.size))
  clear hb1
  go_wp2_with fail
  go_ret
  exact ⟨rfl, HB.out⟩
theorem v_on' {p : Po} (hp : p.on = true) : (if p.i = true then pn 0 0 true else pn p.x p.y false) = p.v := by
  obtain ⟨x, y, i⟩ := p
  cases i
  · rfl
  · obtain ⟨rfl, rfl⟩ := on_far hp
    rfl
theorem curvetimes_walk (k : Nat) (hk : k < W256) (p : Po) (hp : p.ok) (w : World) :
    Calls Try.prog 10 #[nv k, p.v] w fun r w' => r = .returned (.bool true) ∧ Below w.heap.size w w' := by
  have HMU := mulp hk hp
  have HRP := fun w => ron_any p hp w
  have HEZ := eq_same (p := ⟨0, 0, false⟩) ⟨by decide +kernel, by decide +kernel⟩
  have vz : (Po.mk 0 0 false).v = .agg #[.int .u64 0, .int .u64 0, .int .u64 0, .int .u64 0, .int .u64 0, .int .u64 0, .int .u64 0, .int .u64 0, .bool false] := lZero9
  rw [vz] at HEZ
  have vz2 : Po.zero.v = .agg #[.int .u64 0, .int .u64 0, .int .u64 0, .int .u64 0, .int .u64 0, .int .u64 0, .int .u64 0, .int .u64 0, .bool false] := vz
  rw [vz2] at HMU
  cases hon : p.on
  · simp only [hon, Bool.false_eq_true, if_false] at HMU HRP
    exact times_off k p.x p.y 0 0 p.i false (Lib.hid HMU) (Lib.hid HRP) (Lib.hid HEZ) w
  · simp only [hon, if_true] at HMU HRP
    have hkb : k < big := w_big hk
    have hm : mulB p k 0 = Po.mul k p := by
      rw [mul_is hk hon]
      unfold mulB
      rw [Nat.pow_zero, Nat.div_one]
    have hmo : (mulB p k 0).on = true := mulB_on hon k 0
    have hmk : (mulB p k 0).ok := (on_ofPt (mul_on (on_iff hon).1 _)).2.2
    have HOU := fun v w (h : RP w v (mulB p k 0)) => out7 v (mulB p k 0) hmk w h
    rw [v_on' hmo] at HOU
    rw [← hm] at HMU
    exact times_on k p.x p.y (mulB p k 0).x (mulB p k 0).y p.i (mulB p k 0).i (Lib.hid HMU) (Lib.hid HRP) (Lib.hid (in7 p hp)) (Lib.hid (fun w => in_any k hk w)) (Lib.hid (fun v u w h q => times7 v u p k hon hkb w h q)) (Lib.hid (fun v u w h q => fast7 v u p k hon hkb w h q)) (Lib.hid HOU) (Lib.hid (eq_same hmk)) w
end Go.Proofs.Ytglmmodkflkkkaa.Ref
