/- Opposites and sums of any two points are what the document says: the law's walk. Condition: the numbers' size. -/
import Derived.Test.YtglmmodkflkkkaaXKs0
import Derived.Test.YtglmmodkflkkkaaXKk
set_option linter.unusedVariables false
set_option linter.unusedSimpArgs false
set_option maxRecDepth 100000
namespace Go.Proofs.Ytglmmodkflkkkaa.Ref
open Go.RowKit Go.Sort Go.Proofs.Ytglmmodkflkkkaa.Digits Limbs Curve

set_option maxHeartbeats 16000000 in
theorem sums_off (px py qx qy ax ay bx bb : Nat) (pi qi ai bi : Bool) (HNG : Hid (∀ w, Calls Try.prog 44 #[.agg #[.int .u64 (lb px 0 : Nat), .int .u64 (lb px 1 : Nat), .int .u64 (lb px 2 : Nat), .int .u64 (lb px 3 : Nat), .int .u64 (lb py 0 : Nat), .int .u64 (lb py 1 : Nat), .int .u64 (lb py 2 : Nat), .int .u64 (lb py 3 : Nat), .bool pi]] w fun e w' => e = .returned (.tuple #[.agg #[.int .u64 0, .int .u64 0, .int .u64 0, .int .u64 0, .int .u64 0, .int .u64 0, .int .u64 0, .int .u64 0, .bool false], .int .i64 70]) ∧ Below w.heap.size w w')) (HAD : Hid (∀ w, Calls Try.prog 45 #[.agg #[.int .u64 (lb px 0 : Nat), .int .u64 (lb px 1 : Nat), .int .u64 (lb px 2 : Nat), .int .u64 (lb px 3 : Nat), .int .u64 (lb py 0 : Nat), .int .u64 (lb py 1 : Nat), .int .u64 (lb py 2 : Nat), .int .u64 (lb py 3 : Nat), .bool pi], .agg #[.int .u64 (lb qx 0 : Nat), .int .u64 (lb qx 1 : Nat), .int .u64 (lb qx 2 : Nat), .int .u64 (lb qx 3 : Nat), .int .u64 (lb qy 0 : Nat), .int .u64 (lb qy 1 : Nat), .int .u64 (lb qy 2 : Nat), .int .u64 (lb qy 3 : Nat), .bool qi]] w fun e w' => e = .returned (.tuple #[.agg #[.int .u64 0, .int .u64 0, .int .u64 0, .int .u64 0, .int .u64 0, .int .u64 0, .int .u64 0, .int .u64 0, .bool false], .int .i64 70]) ∧ Below w.heap.size w w')) (HRP : Hid (∀ w, Calls Try.prog 40 #[.agg #[.int .u64 (lb px 0 : Nat), .int .u64 (lb px 1 : Nat), .int .u64 (lb px 2 : Nat), .int .u64 (lb px 3 : Nat), .int .u64 (lb py 0 : Nat), .int .u64 (lb py 1 : Nat), .int .u64 (lb py 2 : Nat), .int .u64 (lb py 3 : Nat), .bool pi]] w fun e w' => e = .returned (.bool false) ∧ Below w.heap.size w w')) (HEZ : Hid (∀ w, (Op.equalIn 10000 51 (.agg #[.int .u64 0, .int .u64 0, .int .u64 0, .int .u64 0, .int .u64 0, .int .u64 0, .int .u64 0, .int .u64 0, .bool false]) (.agg #[.int .u64 0, .int .u64 0, .int .u64 0, .int .u64 0, .int .u64 0, .int .u64 0, .int .u64 0, .int .u64 0, .bool false])).run Try.prog w = .ok true w)) (w : World) :
    Calls Try.prog 9 #[.agg #[.int .u64 (lb px 0 : Nat), .int .u64 (lb px 1 : Nat), .int .u64 (lb px 2 : Nat), .int .u64 (lb px 3 : Nat), .int .u64 (lb py 0 : Nat), .int .u64 (lb py 1 : Nat), .int .u64 (lb py 2 : Nat), .int .u64 (lb py 3 : Nat), .bool pi], .agg #[.int .u64 (lb qx 0 : Nat), .int .u64 (lb qx 1 : Nat), .int .u64 (lb qx 2 : Nat), .int .u64 (lb qx 3 : Nat), .int .u64 (lb qy 0 : Nat), .int .u64 (lb qy 1 : Nat), .int .u64 (lb qy 2 : Nat), .int .u64 (lb qy 3 : Nat), .bool qi]] w fun r w' => r = .returned (.bool true) ∧ Below w.heap.size w w' := by
  have HAW := Lib.hid awake7_any
  go_enter Try.func9, Try.ntmps9
  go_wp2_with fail
  have KP : Hid (Bk 51 ((w.alloc (.cells #[.int .u64 (lb px 0 : Nat), .int .u64 (lb px 1 : Nat), .int .u64 (lb px 2 : Nat), .int .u64 (lb px 3 : Nat), .int .u64 (lb py 0 : Nat), .int .u64 (lb py 1 : Nat), .int .u64 (lb py 2 : Nat), .int .u64 (lb py 3 : Nat), .bool pi] 51)).alloc (.cells #[.int .u64 (lb qx 0 : Nat), .int .u64 (lb qx 1 : Nat), .int .u64 (lb qx 2 : Nat), .int .u64 (lb qx 3 : Nat), .int .u64 (lb qy 0 : Nat), .int .u64 (lb qy 1 : Nat), .int .u64 (lb qy 2 : Nat), .int .u64 (lb qy 3 : Nat), .bool qi] 51)) w.heap.size #[.int .u64 (lb px 0 : Nat), .int .u64 (lb px 1 : Nat), .int .u64 (lb px 2 : Nat), .int .u64 (lb px 3 : Nat), .int .u64 (lb py 0 : Nat), .int .u64 (lb py 1 : Nat), .int .u64 (lb py 2 : Nat), .int .u64 (lb py 3 : Nat), .bool pi]) := Lib.hid (Bk.alloc (Bk.new rfl))
  have KQ : Hid (Bk 51 ((w.alloc (.cells #[.int .u64 (lb px 0 : Nat), .int .u64 (lb px 1 : Nat), .int .u64 (lb px 2 : Nat), .int .u64 (lb px 3 : Nat), .int .u64 (lb py 0 : Nat), .int .u64 (lb py 1 : Nat), .int .u64 (lb py 2 : Nat), .int .u64 (lb py 3 : Nat), .bool pi] 51)).alloc (.cells #[.int .u64 (lb qx 0 : Nat), .int .u64 (lb qx 1 : Nat), .int .u64 (lb qx 2 : Nat), .int .u64 (lb qx 3 : Nat), .int .u64 (lb qy 0 : Nat), .int .u64 (lb qy 1 : Nat), .int .u64 (lb qy 2 : Nat), .int .u64 (lb qy 3 : Nat), .bool qi] 51)) (w.heap.size + 1) #[.int .u64 (lb qx 0 : Nat), .int .u64 (lb qx 1 : Nat), .int .u64 (lb qx 2 : Nat), .int .u64 (lb qx 3 : Nat), .int .u64 (lb qy 0 : Nat), .int .u64 (lb qy 1 : Nat), .int .u64 (lb qy 2 : Nat), .int .u64 (lb qy 3 : Nat), .bool qi]) := Lib.hid (Bk.new (by simp))
  have HB : Hid (Below w.heap.size w ((w.alloc (.cells #[.int .u64 (lb px 0 : Nat), .int .u64 (lb px 1 : Nat), .int .u64 (lb px 2 : Nat), .int .u64 (lb px 3 : Nat), .int .u64 (lb py 0 : Nat), .int .u64 (lb py 1 : Nat), .int .u64 (lb py 2 : Nat), .int .u64 (lb py 3 : Nat), .bool pi] 51)).alloc (.cells #[.int .u64 (lb qx 0 : Nat), .int .u64 (lb qx 1 : Nat), .int .u64 (lb qx 2 : Nat), .int .u64 (lb qx 3 : Nat), .int .u64 (lb qy 0 : Nat), .int .u64 (lb qy 1 : Nat), .int .u64 (lb qy 2 : Nat), .int .u64 (lb qy 3 : Nat), .bool qi] 51))) := Lib.hid (by go_grown)
  obtain ⟨gQ, hgQ⟩ : ∃ g, g = w.heap.size + 1 := ⟨_, rfl⟩
  rw [← hgQ] at KQ ⊢
  clear hgQ
  generalize ((w.alloc (.cells #[.int .u64 (lb px 0 : Nat), .int .u64 (lb px 1 : Nat), .int .u64 (lb px 2 : Nat), .int .u64 (lb px 3 : Nat), .int .u64 (lb py 0 : Nat), .int .u64 (lb py 1 : Nat), .int .u64 (lb py 2 : Nat), .int .u64 (lb py 3 : Nat), .bool pi] 51)).alloc (.cells #[.int .u64 (lb qx 0 : Nat), .int .u64 (lb qx 1 : Nat), .int .u64 (lb qx 2 : Nat), .int .u64 (lb qx 3 : Nat), .int .u64 (lb qy 0 : Nat), .int .u64 (lb qy 1 : Nat), .int .u64 (lb qy 2 : Nat), .int .u64 (lb qy 3 : Nat), .bool qi] 51)) = w0 at KP KQ HB ⊢
  obtain ⟨⟨a0, a1, a2, a3⟩, ⟨a4, a5, a6, a7⟩, a8⟩ := KP.out.cells9
  go_wp2_with fail
  clear a0 a1 a2 a3 a4 a5 a6 a7 a8
  refine (keep w.heap.size w (HNG.out _) HB.out (Nat.le_refl _)).mono ?_
  rintro e w1 ⟨rfl, hb, hk⟩
  replace KP := Lib.hid (KP.out.below hk)
  replace KQ := Lib.hid (KQ.out.below hk)
  replace HB := Lib.hid hb
  clear hb hk
  obtain ⟨⟨a0, a1, a2, a3⟩, ⟨a4, a5, a6, a7⟩, a8⟩ := KP.out.cellsA9
  obtain ⟨⟨b0, b1, b2, b3⟩, ⟨b4, b5, b6, b7⟩, b8⟩ := KQ.out.cellsA9
  go_wp2_with fail
  clear a0 a1 a2 a3 a4 a5 a6 a7 a8 b0 b1 b2 b3 b4 b5 b6 b7 b8
  have KA : Hid (Bk 51 (w1.alloc (.cells #[.int .u64 0, .int .u64 0, .int .u64 0, .int .u64 0, .int .u64 0, .int .u64 0, .int .u64 0, .int .u64 0, .bool false] 51)) w1.heap.size #[.int .u64 0, .int .u64 0, .int .u64 0, .int .u64 0, .int .u64 0, .int .u64 0, .int .u64 0, .int .u64 0, .bool false]) := Lib.hid (Bk.new rfl)
  have hal := al_below w1 (.cells #[.int .u64 0, .int .u64 0, .int .u64 0, .int .u64 0, .int .u64 0, .int .u64 0, .int .u64 0, .int .u64 0, .bool false] 51)
  replace KP := Lib.hid (KP.out.below hal)
  replace KQ := Lib.hid (KQ.out.below hal)
  replace HB := Lib.hid (HB.out.trans (hal.mono HB.out.size))
  clear hal
  obtain ⟨gA, hg⟩ : ∃ g, g = w1.heap.size := ⟨_, rfl⟩
  rw [← hg] at KA ⊢
  clear hg
  generalize (w1.alloc (.cells #[.int .u64 0, .int .u64 0, .int .u64 0, .int .u64 0, .int .u64 0, .int .u64 0, .int .u64 0, .int .u64 0, .bool false] 51)) = w1x at HB KA KP KQ ⊢
  refine (keep w.heap.size w (HAD.out _) HB.out (Nat.le_refl _)).mono ?_
  rintro e w2 ⟨rfl, hb, hk⟩
  replace KP := Lib.hid (KP.out.below hk)
  replace KQ := Lib.hid (KQ.out.below hk)
  replace KA := Lib.hid (KA.out.below hk)
  replace HB := Lib.hid hb
  clear hb hk
  go_wp2_with fail
  have KB : Hid (Bk 51 (w2.alloc (.cells #[.int .u64 0, .int .u64 0, .int .u64 0, .int .u64 0, .int .u64 0, .int .u64 0, .int .u64 0, .int .u64 0, .bool false] 51)) w2.heap.size #[.int .u64 0, .int .u64 0, .int .u64 0, .int .u64 0, .int .u64 0, .int .u64 0, .int .u64 0, .int .u64 0, .bool false]) := Lib.hid (Bk.new rfl)
  have hal := al_below w2 (.cells #[.int .u64 0, .int .u64 0, .int .u64 0, .int .u64 0, .int .u64 0, .int .u64 0, .int .u64 0, .int .u64 0, .bool false] 51)
  replace KP := Lib.hid (KP.out.below hal)
  replace KQ := Lib.hid (KQ.out.below hal)
  replace KA := Lib.hid (KA.out.below hal)
  replace HB := Lib.hid (HB.out.trans (hal.mono HB.out.size))
  clear hal
  obtain ⟨gB, hg⟩ : ∃ g, g = w2.heap.size := ⟨_, rfl⟩
  rw [← hg] at KB ⊢
  clear hg
  generalize (w2.alloc (.cells #[.int .u64 0, .int .u64 0, .int .u64 0, .int .u64 0, .int .u64 0, .int .u64 0, .int .u64 0, .int .u64 0, .bool false] 51)) = w2x at HB KB KP KQ KA ⊢
  refine (keep w.heap.size w (HAW.out _) HB.out (Nat.le_refl _)).mono ?_
  rintro e w3 ⟨rfl, hb, hk⟩
  replace KP := Lib.hid (KP.out.below hk)
  replace KQ := Lib.hid (KQ.out.below hk)
  replace KA := Lib.hid (KA.out.below hk)
  replace KB := Lib.hid (KB.out.below hk)
  replace HB := Lib.hid hb
  clear hb hk
  go_wp2_with fail
  obtain ⟨⟨a0, a1, a2, a3⟩, ⟨a4, a5, a6, a7⟩, a8⟩ := Bk.reg9 KP.out
  obtain ⟨⟨b0, b1, b2, b3⟩, ⟨b4, b5, b6, b7⟩, b8⟩ := Bk.reg9 KA.out
  have hQ := HEZ.out
  refine wp_region_quiet_below mixed (by kernel_rfl) ?_
  repeat (first | go_big_quiet_step (exact qg HRP.out) | go_big_quiet_step (fail) | quiet_step (fail))
  refine wpQuiet_nil ?_
  intro _ hw'
  obtain ⟨⟨dq, osq⟩, hw''⟩ := hw'
  subst hw''
  have hb1 := below_regrown w3 dq osq
  replace KP := Lib.hid (KP.out.below hb1)
  replace KQ := Lib.hid (KQ.out.below hb1)
  replace KA := Lib.hid (KA.out.below hb1)
  replace KB := Lib.hid (KB.out.below hb1)
  replace HB := Lib.hid (HB.out.trans (hb1.mono HB.out.size))
  clear hb1 hQ a0 a1 a2 a3 a4 a5 a6 a7 a8 b0 b1 b2 b3 b4 b5 b6 b7 b8
  generalize grow (redrawn w3 dq) osq = wv at HB KP KQ KA KB ⊢
  obtain ⟨⟨a0, a1, a2, a3⟩, ⟨a4, a5, a6, a7⟩, a8⟩ := KP.out.cells9
  go_wp2_with fail
  clear a0 a1 a2 a3 a4 a5 a6 a7 a8
  have hQ := HEZ.out
  refine (keep w.heap.size w (HRP.out _) HB.out (Nat.le_refl _)).mono ?_
  rintro e w4 ⟨rfl, hb, hk⟩
  replace KP := Lib.hid (KP.out.below hk)
  replace KQ := Lib.hid (KQ.out.below hk)
  replace KA := Lib.hid (KA.out.below hk)
  replace KB := Lib.hid (KB.out.below hk)
  replace HB := Lib.hid hb
  clear hb hk
  obtain ⟨⟨c0, c1, c2, c3⟩, ⟨c4, c5, c6, c7⟩, c8⟩ := KB.out.cells9
  go_wp2_with fail
  go_ret
  exact ⟨rfl, HB.out⟩
set_option maxHeartbeats 16000000 in
theorem sums_half (px py qx qy ax ay bx bb : Nat) (pi qi ai bi : Bool) (HNG : Hid (∀ w, Calls Try.prog 44 #[.agg #[.int .u64 (lb px 0 : Nat), .int .u64 (lb px 1 : Nat), .int .u64 (lb px 2 : Nat), .int .u64 (lb px 3 : Nat), .int .u64 (lb py 0 : Nat), .int .u64 (lb py 1 : Nat), .int .u64 (lb py 2 : Nat), .int .u64 (lb py 3 : Nat), .bool pi]] w fun e w' => e = .returned (.tuple #[.agg #[.int .u64 (lb ax 0 : Nat), .int .u64 (lb ax 1 : Nat), .int .u64 (lb ax 2 : Nat), .int .u64 (lb ax 3 : Nat), .int .u64 (lb ay 0 : Nat), .int .u64 (lb ay 1 : Nat), .int .u64 (lb ay 2 : Nat), .int .u64 (lb ay 3 : Nat), .bool ai], .int .i64 0]) ∧ Below w.heap.size w w')) (HAD : Hid (∀ w, Calls Try.prog 45 #[.agg #[.int .u64 (lb px 0 : Nat), .int .u64 (lb px 1 : Nat), .int .u64 (lb px 2 : Nat), .int .u64 (lb px 3 : Nat), .int .u64 (lb py 0 : Nat), .int .u64 (lb py 1 : Nat), .int .u64 (lb py 2 : Nat), .int .u64 (lb py 3 : Nat), .bool pi], .agg #[.int .u64 (lb qx 0 : Nat), .int .u64 (lb qx 1 : Nat), .int .u64 (lb qx 2 : Nat), .int .u64 (lb qx 3 : Nat), .int .u64 (lb qy 0 : Nat), .int .u64 (lb qy 1 : Nat), .int .u64 (lb qy 2 : Nat), .int .u64 (lb qy 3 : Nat), .bool qi]] w fun e w' => e = .returned (.tuple #[.agg #[.int .u64 0, .int .u64 0, .int .u64 0, .int .u64 0, .int .u64 0, .int .u64 0, .int .u64 0, .int .u64 0, .bool false], .int .i64 70]) ∧ Below w.heap.size w w')) (HRP : Hid (∀ w, Calls Try.prog 40 #[.agg #[.int .u64 (lb px 0 : Nat), .int .u64 (lb px 1 : Nat), .int .u64 (lb px 2 : Nat), .int .u64 (lb px 3 : Nat), .int .u64 (lb py 0 : Nat), .int .u64 (lb py 1 : Nat), .int .u64 (lb py 2 : Nat), .int .u64 (lb py 3 : Nat), .bool pi]] w fun e w' => e = .returned (.bool true) ∧ Below w.heap.size w w')) (HRQ : Hid (∀ w, Calls Try.prog 40 #[.agg #[.int .u64 (lb qx 0 : Nat), .int .u64 (lb qx 1 : Nat), .int .u64 (lb qx 2 : Nat), .int .u64 (lb qx 3 : Nat), .int .u64 (lb qy 0 : Nat), .int .u64 (lb qy 1 : Nat), .int .u64 (lb qy 2 : Nat), .int .u64 (lb qy 3 : Nat), .bool qi]] w fun e w' => e = .returned (.bool false) ∧ Below w.heap.size w w')) (HEZ : Hid (∀ w, (Op.equalIn 10000 51 (.agg #[.int .u64 0, .int .u64 0, .int .u64 0, .int .u64 0, .int .u64 0, .int .u64 0, .int .u64 0, .int .u64 0, .bool false]) (.agg #[.int .u64 0, .int .u64 0, .int .u64 0, .int .u64 0, .int .u64 0, .int .u64 0, .int .u64 0, .int .u64 0, .bool false])).run Try.prog w = .ok true w)) (HIP : Hid (∀ w, Calls Try.prog 46 #[.agg #[.int .u64 (lb px 0 : Nat), .int .u64 (lb px 1 : Nat), .int .u64 (lb px 2 : Nat), .int .u64 (lb px 3 : Nat), .int .u64 (lb py 0 : Nat), .int .u64 (lb py 1 : Nat), .int .u64 (lb py 2 : Nat), .int .u64 (lb py 3 : Nat), .bool pi]] w fun e w' => ∃ v', e = .returned v' ∧ RP w' v' (Po.mk px py pi) ∧ Below w.heap.size w w')) (HOP : Hid (∀ v w, RP w v (Po.mk px py pi) → Calls Try.prog 47 #[v] w fun e w' => ∃ v', e = .returned v' ∧ RP w' v' (Po.mk px py pi).neg ∧ Below w.heap.size w w')) (HON : Hid (∀ v w, RP w v (Po.mk px py pi).neg → Calls Try.prog 48 #[v] w fun e w' => e = .returned (.agg #[.int .u64 (lb ax 0 : Nat), .int .u64 (lb ax 1 : Nat), .int .u64 (lb ax 2 : Nat), .int .u64 (lb ax 3 : Nat), .int .u64 (lb ay 0 : Nat), .int .u64 (lb ay 1 : Nat), .int .u64 (lb ay 2 : Nat), .int .u64 (lb ay 3 : Nat), .bool ai]) ∧ Below w.heap.size w w')) (HEA : Hid (∀ w, (Op.equalIn 10000 51 (.agg #[.int .u64 (lb ax 0 : Nat), .int .u64 (lb ax 1 : Nat), .int .u64 (lb ax 2 : Nat), .int .u64 (lb ax 3 : Nat), .int .u64 (lb ay 0 : Nat), .int .u64 (lb ay 1 : Nat), .int .u64 (lb ay 2 : Nat), .int .u64 (lb ay 3 : Nat), .bool ai]) (.agg #[.int .u64 (lb ax 0 : Nat), .int .u64 (lb ax 1 : Nat), .int .u64 (lb ax 2 : Nat), .int .u64 (lb ax 3 : Nat), .int .u64 (lb ay 0 : Nat), .int .u64 (lb ay 1 : Nat), .int .u64 (lb ay 2 : Nat), .int .u64 (lb ay 3 : Nat), .bool ai])).run Try.prog w = .ok true w)) (w : World) :
    Calls Try.prog 9 #[.agg #[.int .u64 (lb px 0 : Nat), .int .u64 (lb px 1 : Nat), .int .u64 (lb px 2 : Nat), .int .u64 (lb px 3 : Nat), .int .u64 (lb py 0 : Nat), .int .u64 (lb py 1 : Nat), .int .u64 (lb py 2 : Nat), .int .u64 (lb py 3 : Nat), .bool pi], .agg #[.int .u64 (lb qx 0 : Nat), .int .u64 (lb qx 1 : Nat), .int .u64 (lb qx 2 : Nat), .int .u64 (lb qx 3 : Nat), .int .u64 (lb qy 0 : Nat), .int .u64 (lb qy 1 : Nat), .int .u64 (lb qy 2 : Nat), .int .u64 (lb qy 3 : Nat), .bool qi]] w fun r w' => r = .returned (.bool true) ∧ Below w.heap.size w w' := by
  have HAW := Lib.hid awake7_any
  go_enter Try.func9, Try.ntmps9
  go_wp2_with fail
  have KP : Hid (Bk 51 ((w.alloc (.cells #[.int .u64 (lb px 0 : Nat), .int .u64 (lb px 1 : Nat), .int .u64 (lb px 2 : Nat), .int .u64 (lb px 3 : Nat), .int .u64 (lb py 0 : Nat), .int .u64 (lb py 1 : Nat), .int .u64 (lb py 2 : Nat), .int .u64 (lb py 3 : Nat), .bool pi] 51)).alloc (.cells #[.int .u64 (lb qx 0 : Nat), .int .u64 (lb qx 1 : Nat), .int .u64 (lb qx 2 : Nat), .int .u64 (lb qx 3 : Nat), .int .u64 (lb qy 0 : Nat), .int .u64 (lb qy 1 : Nat), .int .u64 (lb qy 2 : Nat), .int .u64 (lb qy 3 : Nat), .bool qi] 51)) w.heap.size #[.int .u64 (lb px 0 : Nat), .int .u64 (lb px 1 : Nat), .int .u64 (lb px 2 : Nat), .int .u64 (lb px 3 : Nat), .int .u64 (lb py 0 : Nat), .int .u64 (lb py 1 : Nat), .int .u64 (lb py 2 : Nat), .int .u64 (lb py 3 : Nat), .bool pi]) := Lib.hid (Bk.alloc (Bk.new rfl))
  have KQ : Hid (Bk 51 ((w.alloc (.cells #[.int .u64 (lb px 0 : Nat), .int .u64 (lb px 1 : Nat), .int .u64 (lb px 2 : Nat), .int .u64 (lb px 3 : Nat), .int .u64 (lb py 0 : Nat), .int .u64 (lb py 1 : Nat), .int .u64 (lb py 2 : Nat), .int .u64 (lb py 3 : Nat), .bool pi] 51)).alloc (.cells #[.int .u64 (lb qx 0 : Nat), .int .u64 (lb qx 1 : Nat), .int .u64 (lb qx 2 : Nat), .int .u64 (lb qx 3 : Nat), .int .u64 (lb qy 0 : Nat), .int .u64 (lb qy 1 : Nat), .int .u64 (lb qy 2 : Nat), .int .u64 (lb qy 3 : Nat), .bool qi] 51)) (w.heap.size + 1) #[.int .u64 (lb qx 0 : Nat), .int .u64 (lb qx 1 : Nat), .int .u64 (lb qx 2 : Nat), .int .u64 (lb qx 3 : Nat), .int .u64 (lb qy 0 : Nat), .int .u64 (lb qy 1 : Nat), .int .u64 (lb qy 2 : Nat), .int .u64 (lb qy 3 : Nat), .bool qi]) := Lib.hid (Bk.new (by simp))
  have HB : Hid (Below w.heap.size w ((w.alloc (.cells #[.int .u64 (lb px 0 : Nat), .int .u64 (lb px 1 : Nat), .int .u64 (lb px 2 : Nat), .int .u64 (lb px 3 : Nat), .int .u64 (lb py 0 : Nat), .int .u64 (lb py 1 : Nat), .int .u64 (lb py 2 : Nat), .int .u64 (lb py 3 : Nat), .bool pi] 51)).alloc (.cells #[.int .u64 (lb qx 0 : Nat), .int .u64 (lb qx 1 : Nat), .int .u64 (lb qx 2 : Nat), .int .u64 (lb qx 3 : Nat), .int .u64 (lb qy 0 : Nat), .int .u64 (lb qy 1 : Nat), .int .u64 (lb qy 2 : Nat), .int .u64 (lb qy 3 : Nat), .bool qi] 51))) := Lib.hid (by go_grown)
  obtain ⟨gQ, hgQ⟩ : ∃ g, g = w.heap.size + 1 := ⟨_, rfl⟩
  rw [← hgQ] at KQ ⊢
  clear hgQ
  generalize ((w.alloc (.cells #[.int .u64 (lb px 0 : Nat), .int .u64 (lb px 1 : Nat), .int .u64 (lb px 2 : Nat), .int .u64 (lb px 3 : Nat), .int .u64 (lb py 0 : Nat), .int .u64 (lb py 1 : Nat), .int .u64 (lb py 2 : Nat), .int .u64 (lb py 3 : Nat), .bool pi] 51)).alloc (.cells #[.int .u64 (lb qx 0 : Nat), .int .u64 (lb qx 1 : Nat), .int .u64 (lb qx 2 : Nat), .int .u64 (lb qx 3 : Nat), .int .u64 (lb qy 0 : Nat), .int .u64 (lb qy 1 : Nat), .int .u64 (lb qy 2 : Nat), .int .u64 (lb qy 3 : Nat), .bool qi] 51)) = w0 at KP KQ HB ⊢
  obtain ⟨⟨a0, a1, a2, a3⟩, ⟨a4, a5, a6, a7⟩, a8⟩ := KP.out.cells9
  go_wp2_with fail
  clear a0 a1 a2 a3 a4 a5 a6 a7 a8
  refine (keep w.heap.size w (HNG.out _) HB.out (Nat.le_refl _)).mono ?_
  rintro e w1 ⟨rfl, hb, hk⟩
  replace KP := Lib.hid (KP.out.below hk)
  replace KQ := Lib.hid (KQ.out.below hk)
  replace HB := Lib.hid hb
  clear hb hk
  obtain ⟨⟨a0, a1, a2, a3⟩, ⟨a4, a5, a6, a7⟩, a8⟩ := KP.out.cellsA9
  obtain ⟨⟨b0, b1, b2, b3⟩, ⟨b4, b5, b6, b7⟩, b8⟩ := KQ.out.cellsA9
  go_wp2_with fail
  clear a0 a1 a2 a3 a4 a5 a6 a7 a8 b0 b1 b2 b3 b4 b5 b6 b7 b8
  have KA : Hid (Bk 51 (w1.alloc (.cells #[.int .u64 (lb ax 0 : Nat), .int .u64 (lb ax 1 : Nat), .int .u64 (lb ax 2 : Nat), .int .u64 (lb ax 3 : Nat), .int .u64 (lb ay 0 : Nat), .int .u64 (lb ay 1 : Nat), .int .u64 (lb ay 2 : Nat), .int .u64 (lb ay 3 : Nat), .bool ai] 51)) w1.heap.size #[.int .u64 (lb ax 0 : Nat), .int .u64 (lb ax 1 : Nat), .int .u64 (lb ax 2 : Nat), .int .u64 (lb ax 3 : Nat), .int .u64 (lb ay 0 : Nat), .int .u64 (lb ay 1 : Nat), .int .u64 (lb ay 2 : Nat), .int .u64 (lb ay 3 : Nat), .bool ai]) := Lib.hid (Bk.new rfl)
  have hal := al_below w1 (.cells #[.int .u64 (lb ax 0 : Nat), .int .u64 (lb ax 1 : Nat), .int .u64 (lb ax 2 : Nat), .int .u64 (lb ax 3 : Nat), .int .u64 (lb ay 0 : Nat), .int .u64 (lb ay 1 : Nat), .int .u64 (lb ay 2 : Nat), .int .u64 (lb ay 3 : Nat), .bool ai] 51)
  replace KP := Lib.hid (KP.out.below hal)
  replace KQ := Lib.hid (KQ.out.below hal)
  replace HB := Lib.hid (HB.out.trans (hal.mono HB.out.size))
  clear hal
  obtain ⟨gA, hg⟩ : ∃ g, g = w1.heap.size := ⟨_, rfl⟩
  rw [← hg] at KA ⊢
  clear hg
  generalize (w1.alloc (.cells #[.int .u64 (lb ax 0 : Nat), .int .u64 (lb ax 1 : Nat), .int .u64 (lb ax 2 : Nat), .int .u64 (lb ax 3 : Nat), .int .u64 (lb ay 0 : Nat), .int .u64 (lb ay 1 : Nat), .int .u64 (lb ay 2 : Nat), .int .u64 (lb ay 3 : Nat), .bool ai] 51)) = w1x at HB KA KP KQ ⊢
  refine (keep w.heap.size w (HAD.out _) HB.out (Nat.le_refl _)).mono ?_
  rintro e w2 ⟨rfl, hb, hk⟩
  replace KP := Lib.hid (KP.out.below hk)
  replace KQ := Lib.hid (KQ.out.below hk)
  replace KA := Lib.hid (KA.out.below hk)
  replace HB := Lib.hid hb
  clear hb hk
  go_wp2_with fail
  have KB : Hid (Bk 51 (w2.alloc (.cells #[.int .u64 0, .int .u64 0, .int .u64 0, .int .u64 0, .int .u64 0, .int .u64 0, .int .u64 0, .int .u64 0, .bool false] 51)) w2.heap.size #[.int .u64 0, .int .u64 0, .int .u64 0, .int .u64 0, .int .u64 0, .int .u64 0, .int .u64 0, .int .u64 0, .bool false]) := Lib.hid (Bk.new rfl)
  have hal := al_below w2 (.cells #[.int .u64 0, .int .u64 0, .int .u64 0, .int .u64 0, .int .u64 0, .int .u64 0, .int .u64 0, .int .u64 0, .bool false] 51)
  replace KP := Lib.hid (KP.out.below hal)
  replace KQ := Lib.hid (KQ.out.below hal)
  replace KA := Lib.hid (KA.out.below hal)
  replace HB := Lib.hid (HB.out.trans (hal.mono HB.out.size))
  clear hal
  obtain ⟨gB, hg⟩ : ∃ g, g = w2.heap.size := ⟨_, rfl⟩
  rw [← hg] at KB ⊢
  clear hg
  generalize (w2.alloc (.cells #[.int .u64 0, .int .u64 0, .int .u64 0, .int .u64 0, .int .u64 0, .int .u64 0, .int .u64 0, .int .u64 0, .bool false] 51)) = w2x at HB KB KP KQ KA ⊢
  refine (keep w.heap.size w (HAW.out _) HB.out (Nat.le_refl _)).mono ?_
  rintro e w3 ⟨rfl, hb, hk⟩
  replace KP := Lib.hid (KP.out.below hk)
  replace KQ := Lib.hid (KQ.out.below hk)
  replace KA := Lib.hid (KA.out.below hk)
  replace KB := Lib.hid (KB.out.below hk)
  replace HB := Lib.hid hb
  clear hb hk
  go_wp2_with fail
  refine cs5 w.heap.size gA px py ax ay pi ai w3 KP.out KA.out HRP HIP HOP HON HEA ?_
  intros
  rename_i wv hb1
  replace KP := Lib.hid (KP.out.below hb1)
  replace KQ := Lib.hid (KQ.out.below hb1)
  replace KA := Lib.hid (KA.out.below hb1)
  replace KB := Lib.hid (KB.out.below hb1)
  replace HB := Lib.hid (HB.out.trans (hb1.mono HB.out.size))
  clear hb1
  obtain ⟨⟨a0, a1, a2, a3⟩, ⟨a4, a5, a6, a7⟩, a8⟩ := KP.out.cells9
  go_wp2_with fail
  clear a0 a1 a2 a3 a4 a5 a6 a7 a8
  refine (keep w.heap.size w (HRP.out _) HB.out (Nat.le_refl _)).mono ?_
  rintro e w4 ⟨rfl, hb, hk⟩
  replace KP := Lib.hid (KP.out.below hk)
  replace KQ := Lib.hid (KQ.out.below hk)
  replace KA := Lib.hid (KA.out.below hk)
  replace KB := Lib.hid (KB.out.below hk)
  replace HB := Lib.hid hb
  clear hb hk
  obtain ⟨⟨a0, a1, a2, a3⟩, ⟨a4, a5, a6, a7⟩, a8⟩ := KQ.out.cells9
  go_wp2_with fail
  clear a0 a1 a2 a3 a4 a5 a6 a7 a8
  have hQ := HEZ.out
  refine (keep w.heap.size w (HRQ.out _) HB.out (Nat.le_refl _)).mono ?_
  rintro e w5 ⟨rfl, hb, hk⟩
  replace KP := Lib.hid (KP.out.below hk)
  replace KQ := Lib.hid (KQ.out.below hk)
  replace KA := Lib.hid (KA.out.below hk)
  replace KB := Lib.hid (KB.out.below hk)
  replace HB := Lib.hid hb
  clear hb hk
  obtain ⟨⟨c0, c1, c2, c3⟩, ⟨c4, c5, c6, c7⟩, c8⟩ := KB.out.cells9
  go_wp2_with fail
  go_ret
  exact ⟨rfl, HB.out⟩
set_option maxHeartbeats 16000000 in
theorem sums_on (px py qx qy ax ay bx bb : Nat) (pi qi ai bi : Bool) (HNG : Hid (∀ w, Calls Try.prog 44 #[.agg #[.int .u64 (lb px 0 : Nat), .int .u64 (lb px 1 : Nat), .int .u64 (lb px 2 : Nat), .int .u64 (lb px 3 : Nat), .int .u64 (lb py 0 : Nat), .int .u64 (lb py 1 : Nat), .int .u64 (lb py 2 : Nat), .int .u64 (lb py 3 : Nat), .bool pi]] w fun e w' => e = .returned (.tuple #[.agg #[.int .u64 (lb ax 0 : Nat), .int .u64 (lb ax 1 : Nat), .int .u64 (lb ax 2 : Nat), .int .u64 (lb ax 3 : Nat), .int .u64 (lb ay 0 : Nat), .int .u64 (lb ay 1 : Nat), .int .u64 (lb ay 2 : Nat), .int .u64 (lb ay 3 : Nat), .bool ai], .int .i64 0]) ∧ Below w.heap.size w w')) (HAD : Hid (∀ w, Calls Try.prog 45 #[.agg #[.int .u64 (lb px 0 : Nat), .int .u64 (lb px 1 : Nat), .int .u64 (lb px 2 : Nat), .int .u64 (lb px 3 : Nat), .int .u64 (lb py 0 : Nat), .int .u64 (lb py 1 : Nat), .int .u64 (lb py 2 : Nat), .int .u64 (lb py 3 : Nat), .bool pi], .agg #[.int .u64 (lb qx 0 : Nat), .int .u64 (lb qx 1 : Nat), .int .u64 (lb qx 2 : Nat), .int .u64 (lb qx 3 : Nat), .int .u64 (lb qy 0 : Nat), .int .u64 (lb qy 1 : Nat), .int .u64 (lb qy 2 : Nat), .int .u64 (lb qy 3 : Nat), .bool qi]] w fun e w' => e = .returned (.tuple #[.agg #[.int .u64 (lb bx 0 : Nat), .int .u64 (lb bx 1 : Nat), .int .u64 (lb bx 2 : Nat), .int .u64 (lb bx 3 : Nat), .int .u64 (lb bb 0 : Nat), .int .u64 (lb bb 1 : Nat), .int .u64 (lb bb 2 : Nat), .int .u64 (lb bb 3 : Nat), .bool bi], .int .i64 0]) ∧ Below w.heap.size w w')) (HRP : Hid (∀ w, Calls Try.prog 40 #[.agg #[.int .u64 (lb px 0 : Nat), .int .u64 (lb px 1 : Nat), .int .u64 (lb px 2 : Nat), .int .u64 (lb px 3 : Nat), .int .u64 (lb py 0 : Nat), .int .u64 (lb py 1 : Nat), .int .u64 (lb py 2 : Nat), .int .u64 (lb py 3 : Nat), .bool pi]] w fun e w' => e = .returned (.bool true) ∧ Below w.heap.size w w')) (HRQ : Hid (∀ w, Calls Try.prog 40 #[.agg #[.int .u64 (lb qx 0 : Nat), .int .u64 (lb qx 1 : Nat), .int .u64 (lb qx 2 : Nat), .int .u64 (lb qx 3 : Nat), .int .u64 (lb qy 0 : Nat), .int .u64 (lb qy 1 : Nat), .int .u64 (lb qy 2 : Nat), .int .u64 (lb qy 3 : Nat), .bool qi]] w fun e w' => e = .returned (.bool true) ∧ Below w.heap.size w w')) (HEZ : Hid (∀ w, (Op.equalIn 10000 51 (.agg #[.int .u64 0, .int .u64 0, .int .u64 0, .int .u64 0, .int .u64 0, .int .u64 0, .int .u64 0, .int .u64 0, .bool false]) (.agg #[.int .u64 0, .int .u64 0, .int .u64 0, .int .u64 0, .int .u64 0, .int .u64 0, .int .u64 0, .int .u64 0, .bool false])).run Try.prog w = .ok true w)) (HIP : Hid (∀ w, Calls Try.prog 46 #[.agg #[.int .u64 (lb px 0 : Nat), .int .u64 (lb px 1 : Nat), .int .u64 (lb px 2 : Nat), .int .u64 (lb px 3 : Nat), .int .u64 (lb py 0 : Nat), .int .u64 (lb py 1 : Nat), .int .u64 (lb py 2 : Nat), .int .u64 (lb py 3 : Nat), .bool pi]] w fun e w' => ∃ v', e = .returned v' ∧ RP w' v' (Po.mk px py pi) ∧ Below w.heap.size w w')) (HOP : Hid (∀ v w, RP w v (Po.mk px py pi) → Calls Try.prog 47 #[v] w fun e w' => ∃ v', e = .returned v' ∧ RP w' v' (Po.mk px py pi).neg ∧ Below w.heap.size w w')) (HON : Hid (∀ v w, RP w v (Po.mk px py pi).neg → Calls Try.prog 48 #[v] w fun e w' => e = .returned (.agg #[.int .u64 (lb ax 0 : Nat), .int .u64 (lb ax 1 : Nat), .int .u64 (lb ax 2 : Nat), .int .u64 (lb ax 3 : Nat), .int .u64 (lb ay 0 : Nat), .int .u64 (lb ay 1 : Nat), .int .u64 (lb ay 2 : Nat), .int .u64 (lb ay 3 : Nat), .bool ai]) ∧ Below w.heap.size w w')) (HEA : Hid (∀ w, (Op.equalIn 10000 51 (.agg #[.int .u64 (lb ax 0 : Nat), .int .u64 (lb ax 1 : Nat), .int .u64 (lb ax 2 : Nat), .int .u64 (lb ax 3 : Nat), .int .u64 (lb ay 0 : Nat), .int .u64 (lb ay 1 : Nat), .int .u64 (lb ay 2 : Nat), .int .u64 (lb ay 3 : Nat), .bool ai]) (.agg #[.int .u64 (lb ax 0 : Nat), .int .u64 (lb ax 1 : Nat), .int .u64 (lb ax 2 : Nat), .int .u64 (lb ax 3 : Nat), .int .u64 (lb ay 0 : Nat), .int .u64 (lb ay 1 : Nat), .int .u64 (lb ay 2 : Nat), .int .u64 (lb ay 3 : Nat), .bool ai])).run Try.prog w = .ok true w)) (HIQ : Hid (∀ w, Calls Try.prog 46 #[.agg #[.int .u64 (lb qx 0 : Nat), .int .u64 (lb qx 1 : Nat), .int .u64 (lb qx 2 : Nat), .int .u64 (lb qx 3 : Nat), .int .u64 (lb qy 0 : Nat), .int .u64 (lb qy 1 : Nat), .int .u64 (lb qy 2 : Nat), .int .u64 (lb qy 3 : Nat), .bool qi]] w fun e w' => ∃ v', e = .returned v' ∧ RP w' v' (Po.mk qx qy qi) ∧ Below w.heap.size w w')) (HSU : Hid (∀ v u w, RP w v (Po.mk px py pi) → RP w u (Po.mk qx qy qi) → Calls Try.prog 49 #[v, u] w fun e w' => ∃ v', e = .returned v' ∧ RP w' v' ((Po.mk px py pi).add (Po.mk qx qy qi)) ∧ Below w.heap.size w w')) (HOS : Hid (∀ v w, RP w v ((Po.mk px py pi).add (Po.mk qx qy qi)) → Calls Try.prog 48 #[v] w fun e w' => e = .returned (.agg #[.int .u64 (lb bx 0 : Nat), .int .u64 (lb bx 1 : Nat), .int .u64 (lb bx 2 : Nat), .int .u64 (lb bx 3 : Nat), .int .u64 (lb bb 0 : Nat), .int .u64 (lb bb 1 : Nat), .int .u64 (lb bb 2 : Nat), .int .u64 (lb bb 3 : Nat), .bool bi]) ∧ Below w.heap.size w w')) (HEB : Hid (∀ w, (Op.equalIn 10000 51 (.agg #[.int .u64 (lb bx 0 : Nat), .int .u64 (lb bx 1 : Nat), .int .u64 (lb bx 2 : Nat), .int .u64 (lb bx 3 : Nat), .int .u64 (lb bb 0 : Nat), .int .u64 (lb bb 1 : Nat), .int .u64 (lb bb 2 : Nat), .int .u64 (lb bb 3 : Nat), .bool bi]) (.agg #[.int .u64 (lb bx 0 : Nat), .int .u64 (lb bx 1 : Nat), .int .u64 (lb bx 2 : Nat), .int .u64 (lb bx 3 : Nat), .int .u64 (lb bb 0 : Nat), .int .u64 (lb bb 1 : Nat), .int .u64 (lb bb 2 : Nat), .int .u64 (lb bb 3 : Nat), .bool bi])).run Try.prog w = .ok true w)) (w : World) :
    Calls Try.prog 9 #[.agg #[.int .u64 (lb px 0 : Nat), .int .u64 (lb px 1 : Nat), .int .u64 (lb px 2 : Nat), .int .u64 (lb px 3 : Nat), .int .u64 (lb py 0 : Nat), .int .u64 (lb py 1 : Nat), .int .u64 (lb py 2 : Nat), .int .u64 (lb py 3 : Nat), .bool pi], .agg #[.int .u64 (lb qx 0 : Nat), .int .u64 (lb qx 1 : Nat), .int .u64 (lb qx 2 : Nat), .int .u64 (lb qx 3 : Nat), .int .u64 (lb qy 0 : Nat), .int .u64 (lb qy 1 : Nat), .int .u64 (lb qy 2 : Nat), .int .u64 (lb qy 3 : Nat), .bool qi]] w fun r w' => r = .returned (.bool true) ∧ Below w.heap.size w w' := by
  have HAW := Lib.hid awake7_any
  go_enter Try.func9, Try.ntmps9
  go_wp2_with fail
  have KP : Hid (Bk 51 ((w.alloc (.cells #[.int .u64 (lb px 0 : Nat), .int .u64 (lb px 1 : Nat), .int .u64 (lb px 2 : Nat), .int .u64 (lb px 3 : Nat), .int .u64 (lb py 0 : Nat), .int .u64 (lb py 1 : Nat), .int .u64 (lb py 2 : Nat), .int .u64 (lb py 3 : Nat), .bool pi] 51)).alloc (.cells #[.int .u64 (lb qx 0 : Nat), .int .u64 (lb qx 1 : Nat), .int .u64 (lb qx 2 : Nat), .int .u64 (lb qx 3 : Nat), .int .u64 (lb qy 0 : Nat), .int .u64 (lb qy 1 : Nat), .int .u64 (lb qy 2 : Nat), .int .u64 (lb qy 3 : Nat), .bool qi] 51)) w.heap.size #[.int .u64 (lb px 0 : Nat), .int .u64 (lb px 1 : Nat), .int .u64 (lb px 2 : Nat), .int .u64 (lb px 3 : Nat), .int .u64 (lb py 0 : Nat), .int .u64 (lb py 1 : Nat), .int .u64 (lb py 2 : Nat), .int .u64 (lb py 3 : Nat), .bool pi]) := Lib.hid (Bk.alloc (Bk.new rfl))
  have KQ : Hid (Bk 51 ((w.alloc (.cells #[.int .u64 (lb px 0 : Nat), .int .u64 (lb px 1 : Nat), .int .u64 (lb px 2 : Nat), .int .u64 (lb px 3 : Nat), .int .u64 (lb py 0 : Nat), .int .u64 (lb py 1 : Nat), .int .u64 (lb py 2 : Nat), .int .u64 (lb py 3 : Nat), .bool pi] 51)).alloc (.cells #[.int .u64 (lb qx 0 : Nat), .int .u64 (lb qx 1 : Nat), .int .u64 (lb qx 2 : Nat), .int .u64 (lb qx 3 : Nat), .int .u64 (lb qy 0 : Nat), .int .u64 (lb qy 1 : Nat), .int .u64 (lb qy 2 : Nat), .int .u64 (lb qy 3 : Nat), .bool qi] 51)) (w.heap.size + 1) #[.int .u64 (lb qx 0 : Nat), .int .u64 (lb qx 1 : Nat), .int .u64 (lb qx 2 : Nat), .int .u64 (lb qx 3 : Nat), .int .u64 (lb qy 0 : Nat), .int .u64 (lb qy 1 : Nat), .int .u64 (lb qy 2 : Nat), .int .u64 (lb qy 3 : Nat), .bool qi]) := Lib.hid (Bk.new (by simp))
  have HB : Hid (Below w.heap.size w ((w.alloc (.cells #[.int .u64 (lb px 0 : Nat), .int .u64 (lb px 1 : Nat), .int .u64 (lb px 2 : Nat), .int .u64 (lb px 3 : Nat), .int .u64 (lb py 0 : Nat), .int .u64 (lb py 1 : Nat), .int .u64 (lb py 2 : Nat), .int .u64 (lb py 3 : Nat), .bool pi] 51)).alloc (.cells #[.int .u64 (lb qx 0 : Nat), .int .u64 (lb qx 1 : Nat), .int .u64 (lb qx 2 : Nat), .int .u64 (lb qx 3 : Nat), .int .u64 (lb qy 0 : Nat), .int .u64 (lb qy 1 : Nat), .int .u64 (lb qy 2 : Nat), .int .u64 (lb qy 3 : Nat), .bool qi] 51))) := Lib.hid (by go_grown)
  obtain ⟨gQ, hgQ⟩ : ∃ g, g = w.heap.size + 1 := ⟨_, rfl⟩
  rw [← hgQ] at KQ ⊢
  clear hgQ
  generalize ((w.alloc (.cells #[.int .u64 (lb px 0 : Nat), .int .u64 (lb px 1 : Nat), .int .u64 (lb px 2 : Nat), .int .u64 (lb px 3 : Nat), .int .u64 (lb py 0 : Nat), .int .u64 (lb py 1 : Nat), .int .u64 (lb py 2 : Nat), .int .u64 (lb py 3 : Nat), .bool pi] 51)).alloc (.cells #[.int .u64 (lb qx 0 : Nat), .int .u64 (lb qx 1 : Nat), .int .u64 (lb qx 2 : Nat), .int .u64 (lb qx 3 : Nat), .int .u64 (lb qy 0 : Nat), .int .u64 (lb qy 1 : Nat), .int .u64 (lb qy 2 : Nat), .int .u64 (lb qy 3 : Nat), .bool qi] 51)) = w0 at KP KQ HB ⊢
  obtain ⟨⟨a0, a1, a2, a3⟩, ⟨a4, a5, a6, a7⟩, a8⟩ := KP.out.cells9
  go_wp2_with fail
  clear a0 a1 a2 a3 a4 a5 a6 a7 a8
  refine (keep w.heap.size w (HNG.out _) HB.out (Nat.le_refl _)).mono ?_
  rintro e w1 ⟨rfl, hb, hk⟩
  replace KP := Lib.hid (KP.out.below hk)
  replace KQ := Lib.hid (KQ.out.below hk)
  replace HB := Lib.hid hb
  clear hb hk
  obtain ⟨⟨a0, a1, a2, a3⟩, ⟨a4, a5, a6, a7⟩, a8⟩ := KP.out.cellsA9
  obtain ⟨⟨b0, b1, b2, b3⟩, ⟨b4, b5, b6, b7⟩, b8⟩ := KQ.out.cellsA9
  go_wp2_with fail
  clear a0 a1 a2 a3 a4 a5 a6 a7 a8 b0 b1 b2 b3 b4 b5 b6 b7 b8
  have KA : Hid (Bk 51 (w1.alloc (.cells #[.int .u64 (lb ax 0 : Nat), .int .u64 (lb ax 1 : Nat), .int .u64 (lb ax 2 : Nat), .int .u64 (lb ax 3 : Nat), .int .u64 (lb ay 0 : Nat), .int .u64 (lb ay 1 : Nat), .int .u64 (lb ay 2 : Nat), .int .u64 (lb ay 3 : Nat), .bool ai] 51)) w1.heap.size #[.int .u64 (lb ax 0 : Nat), .int .u64 (lb ax 1 : Nat), .int .u64 (lb ax 2 : Nat), .int .u64 (lb ax 3 : Nat), .int .u64 (lb ay 0 : Nat), .int .u64 (lb ay 1 : Nat), .int .u64 (lb ay 2 : Nat), .int .u64 (lb ay 3 : Nat), .bool ai]) := Lib.hid (Bk.new rfl)
  have hal := al_below w1 (.cells #[.int .u64 (lb ax 0 : Nat), .int .u64 (lb ax 1 : Nat), .int .u64 (lb ax 2 : Nat), .int .u64 (lb ax 3 : Nat), .int .u64 (lb ay 0 : Nat), .int .u64 (lb ay 1 : Nat), .int .u64 (lb ay 2 : Nat), .int .u64 (lb ay 3 : Nat), .bool ai] 51)
  replace KP := Lib.hid (KP.out.below hal)
  replace KQ := Lib.hid (KQ.out.below hal)
  replace HB := Lib.hid (HB.out.trans (hal.mono HB.out.size))
  clear hal
  obtain ⟨gA, hg⟩ : ∃ g, g = w1.heap.size := ⟨_, rfl⟩
  rw [← hg] at KA ⊢
  clear hg
  generalize (w1.alloc (.cells #[.int .u64 (lb ax 0 : Nat), .int .u64 (lb ax 1 : Nat), .int .u64 (lb ax 2 : Nat), .int .u64 (lb ax 3 : Nat), .int .u64 (lb ay 0 : Nat), .int .u64 (lb ay 1 : Nat), .int .u64 (lb ay 2 : Nat), .int .u64 (lb ay 3 : Nat), .bool ai] 51)) = w1x at HB KA KP KQ ⊢
  refine (keep w.heap.size w (HAD.out _) HB.out (Nat.le_refl _)).mono ?_
  rintro e w2 ⟨rfl, hb, hk⟩
  replace KP := Lib.hid (KP.out.below hk)
  replace KQ := Lib.hid (KQ.out.below hk)
  replace KA := Lib.hid (KA.out.below hk)
  replace HB := Lib.hid hb
  clear hb hk
  go_wp2_with fail
  have KB : Hid (Bk 51 (w2.alloc (.cells #[.int .u64 (lb bx 0 : Nat), .int .u64 (lb bx 1 : Nat), .int .u64 (lb bx 2 : Nat), .int .u64 (lb bx 3 : Nat), .int .u64 (lb bb 0 : Nat), .int .u64 (lb bb 1 : Nat), .int .u64 (lb bb 2 : Nat), .int .u64 (lb bb 3 : Nat), .bool bi] 51)) w2.heap.size #[.int .u64 (lb bx 0 : Nat), .int .u64 (lb bx 1 : Nat), .int .u64 (lb bx 2 : Nat), .int .u64 (lb bx 3 : Nat), .int .u64 (lb bb 0 : Nat), .int .u64 (lb bb 1 : Nat), .int .u64 (lb bb 2 : Nat), .int .u64 (lb bb 3 : Nat), .bool bi]) := Lib.hid (Bk.new rfl)
  have hal := al_below w2 (.cells #[.int .u64 (lb bx 0 : Nat), .int .u64 (lb bx 1 : Nat), .int .u64 (lb bx 2 : Nat), .int .u64 (lb bx 3 : Nat), .int .u64 (lb bb 0 : Nat), .int .u64 (lb bb 1 : Nat), .int .u64 (lb bb 2 : Nat), .int .u64 (lb bb 3 : Nat), .bool bi] 51)
  replace KP := Lib.hid (KP.out.below hal)
  replace KQ := Lib.hid (KQ.out.below hal)
  replace KA := Lib.hid (KA.out.below hal)
  replace HB := Lib.hid (HB.out.trans (hal.mono HB.out.size))
  clear hal
  obtain ⟨gB, hg⟩ : ∃ g, g = w2.heap.size := ⟨_, rfl⟩
  rw [← hg] at KB ⊢
  clear hg
  generalize (w2.alloc (.cells #[.int .u64 (lb bx 0 : Nat), .int .u64 (lb bx 1 : Nat), .int .u64 (lb bx 2 : Nat), .int .u64 (lb bx 3 : Nat), .int .u64 (lb bb 0 : Nat), .int .u64 (lb bb 1 : Nat), .int .u64 (lb bb 2 : Nat), .int .u64 (lb bb 3 : Nat), .bool bi] 51)) = w2x at HB KB KP KQ KA ⊢
  refine (keep w.heap.size w (HAW.out _) HB.out (Nat.le_refl _)).mono ?_
  rintro e w3 ⟨rfl, hb, hk⟩
  replace KP := Lib.hid (KP.out.below hk)
  replace KQ := Lib.hid (KQ.out.below hk)
  replace KA := Lib.hid (KA.out.below hk)
  replace KB := Lib.hid (KB.out.below hk)
  replace HB := Lib.hid hb
  clear hb hk
  go_wp2_with fail
  refine cs5 w.heap.size gA px py ax ay pi ai w3 KP.out KA.out HRP HIP HOP HON HEA ?_
  intros
  rename_i wv hb1
  replace KP := Lib.hid (KP.out.below hb1)
  replace KQ := Lib.hid (KQ.out.below hb1)
  replace KA := Lib.hid (KA.out.below hb1)
  replace KB := Lib.hid (KB.out.below hb1)
  replace HB := Lib.hid (HB.out.trans (hb1.mono HB.out.size))
  clear hb1
  obtain ⟨⟨a0, a1, a2, a3⟩, ⟨a4, a5, a6, a7⟩, a8⟩ := KP.out.cells9
  go_wp2_with fail
  clear a0 a1 a2 a3 a4 a5 a6 a7 a8
  refine (keep w.heap.size w (HRP.out _) HB.out (Nat.le_refl _)).mono ?_
  rintro e w4 ⟨rfl, hb, hk⟩
  replace KP := Lib.hid (KP.out.below hk)
  replace KQ := Lib.hid (KQ.out.below hk)
  replace KA := Lib.hid (KA.out.below hk)
  replace KB := Lib.hid (KB.out.below hk)
  replace HB := Lib.hid hb
  clear hb hk
  obtain ⟨⟨a0, a1, a2, a3⟩, ⟨a4, a5, a6, a7⟩, a8⟩ := KQ.out.cells9
  go_wp2_with fail
  clear a0 a1 a2 a3 a4 a5 a6 a7 a8
  refine (keep w.heap.size w (HRQ.out _) HB.out (Nat.le_refl _)).mono ?_
  rintro e w5 ⟨rfl, hb, hk⟩
  replace KP := Lib.hid (KP.out.below hk)
  replace KQ := Lib.hid (KQ.out.below hk)
  replace KA := Lib.hid (KA.out.below hk)
  replace KB := Lib.hid (KB.out.below hk)
  replace HB := Lib.hid hb
  clear hb hk
  go_wp2_with fail
  refine cs9 w.heap.size gQ gB px py qx qy bx bb pi qi bi w5 KP.out KQ.out KB.out HIP HIQ HSU HOS HEB ?_
  intros
  rename_i wy hb1
  replace HB := Lib.hid (HB.out.trans (hb1.mono HB.out.size))
  clear hb1
  go_wp2_with fail
  go_ret
  exact ⟨rfl, HB.out⟩
theorem neg_on_lt {p : Po} (hp : p.on = true) (ok : p.ok) : p.neg.ok ∧ (if p.neg.i = true then pn 0 0 true else pn p.neg.x p.neg.y false) = p.neg.v := by
  obtain ⟨x, y, i⟩ := p
  cases i
  · exact ⟨⟨ok.1, Nat.lt_trans (ngj_p y) (by decide +kernel)⟩, rfl⟩
  · obtain ⟨rfl, rfl⟩ := on_far hp
    have e : ngj 0 = 0 := by decide +kernel
    refine ⟨⟨by decide +kernel, by decide +kernel⟩, ?_⟩
    show pn 0 0 true = pn 0 (ngj 0) true
    rw [e]
theorem add_on {p q : Po} (hp : p.on = true) (hq : q.on = true) : (p.add q).on = true ∧ (p.add q).ok := by
  rw [add_is hp hq]
  have h := on_ofPt (on_sum fit (on_iff hp).1 (on_iff hq).1)
  exact ⟨h.1, h.2.2⟩
theorem v_on {p : Po} (hp : p.on = true) : (if p.i = true then pn 0 0 true else pn p.x p.y false) = p.v := by
  obtain ⟨x, y, i⟩ := p
  cases i
  · rfl
  · obtain ⟨rfl, rfl⟩ := on_far hp
    rfl
theorem curvesums_walk (p : Po) (hp : p.ok) (q : Po) (hq : q.ok) (w : World) :
    Calls Try.prog 9 #[p.v, q.v] w fun r w' => r = .returned (.bool true) ∧ Below w.heap.size w w' := by
  have HNG := negp hp
  have HAD := addp hp hq
  have HRP := fun w => ron_any p hp w
  have HRQ := fun w => ron_any q hq w
  have HEZ := eq_same (p := ⟨0, 0, false⟩) ⟨by decide +kernel, by decide +kernel⟩
  have vz : (Po.mk 0 0 false).v = .agg #[.int .u64 0, .int .u64 0, .int .u64 0, .int .u64 0, .int .u64 0, .int .u64 0, .int .u64 0, .int .u64 0, .bool false] := lZero9
  rw [vz] at HEZ
  have vz2 : Po.zero.v = .agg #[.int .u64 0, .int .u64 0, .int .u64 0, .int .u64 0, .int .u64 0, .int .u64 0, .int .u64 0, .int .u64 0, .bool false] := vz
  rw [vz2] at HNG HAD
  cases hon : p.on
  · simp only [hon, Bool.false_eq_true, false_and, if_false] at HNG HAD HRP
    exact sums_off p.x p.y q.x q.y 0 0 0 0 p.i q.i false false (Lib.hid HNG) (Lib.hid HAD) (Lib.hid HRP) (Lib.hid HEZ) w
  · have hno := neg_on_lt hon hp
    have HON := fun v w (h : RP w v p.neg) => out7 v p.neg hno.1 w h
    rw [hno.2] at HON
    have hby : p.y < big := w_big hp.2
    cases hoq : q.on
    · simp only [hon, hoq, Bool.false_eq_true, and_false, if_false, if_true] at HNG HAD HRP HRQ
      exact sums_half p.x p.y q.x q.y p.neg.x p.neg.y 0 0 p.i q.i p.neg.i false (Lib.hid HNG) (Lib.hid HAD) (Lib.hid HRP) (Lib.hid HRQ) (Lib.hid HEZ) (Lib.hid (in7 p hp)) (Lib.hid (fun v w h => opp7 v p hby w h)) (Lib.hid HON) (Lib.hid (eq_same hno.1)) w
    · simp only [hon, hoq, and_self, if_true] at HNG HAD HRP HRQ
      obtain ⟨hao, hak⟩ := add_on hon hoq
      have HOS := fun v w (h : RP w v (p.add q)) => out7 v (p.add q) hak w h
      rw [v_on hao] at HOS
      exact sums_on p.x p.y q.x q.y p.neg.x p.neg.y (p.add q).x (p.add q).y p.i q.i p.neg.i (p.add q).i (Lib.hid HNG) (Lib.hid HAD) (Lib.hid HRP) (Lib.hid HRQ) (Lib.hid HEZ) (Lib.hid (in7 p hp)) (Lib.hid (fun v w h => opp7 v p hby w h)) (Lib.hid HON) (Lib.hid (eq_same hno.1)) (Lib.hid (in7 q hq)) (Lib.hid (fun v u w h k => sum7 v u p q hon hoq w h k)) (Lib.hid HOS) (Lib.hid (eq_same hak)) w
end Go.Proofs.Ytglmmodkflkkkaa.Ref
