import Derived.Test.YtglmmodkflkkkaaXCm
set_option linter.unusedVariables false
set_option linter.unusedSimpArgs false
set_option maxRecDepth 100000
namespace Go.Proofs.Ytglmmodkflkkkaa
open Go.RowKit Go.Sort Limbs
theorem lG : pn 48439561293906451759052585252797914202762949526041747995844080717082404635286 36134250956749795798585127919587881956611106672985015071877198253568414405109 false = .agg #[.int .u64 17627433388654248598, .int .u64 8575836109218198432, .int .u64 17923454489921339634, .int .u64 7716867327612699207, .int .u64 14678990851816772085, .int .u64 3156516839386865358, .int .u64 10297457778147434006, .int .u64 5756518291402817435, .bool false] := by
  have h : lb 48439561293906451759052585252797914202762949526041747995844080717082404635286 0 = 17627433388654248598 ∧ lb 48439561293906451759052585252797914202762949526041747995844080717082404635286 1 = 8575836109218198432 ∧ lb 48439561293906451759052585252797914202762949526041747995844080717082404635286 2 = 17923454489921339634 ∧ lb 48439561293906451759052585252797914202762949526041747995844080717082404635286 3 = 7716867327612699207 ∧ lb 36134250956749795798585127919587881956611106672985015071877198253568414405109 0 = 14678990851816772085 ∧ lb 36134250956749795798585127919587881956611106672985015071877198253568414405109 1 = 3156516839386865358 ∧ lb 36134250956749795798585127919587881956611106672985015071877198253568414405109 2 = 10297457778147434006 ∧ lb 36134250956749795798585127919587881956611106672985015071877198253568414405109 3 = 5756518291402817435 := by decide +kernel
  unfold pn
  rw [h.1]
  rw [h.2.1]
  rw [h.2.2.1]
  rw [h.2.2.2.1]
  rw [h.2.2.2.2.1]
  rw [h.2.2.2.2.2.1]
  rw [h.2.2.2.2.2.2.1]
  rw [h.2.2.2.2.2.2.2]
  rfl
theorem lNG : pn 48439561293906451759052585252797914202762949526041747995844080717082404635286 79657838253606452964112319029819691573475036742305299123656433055298683448842 false = .agg #[.int .u64 17627433388654248598, .int .u64 8575836109218198432, .int .u64 17923454489921339634, .int .u64 7716867327612699207, .int .u64 3767753221892779530, .int .u64 15290227238617653553, .int .u64 8149286295562117609, .int .u64 12690225778011766885, .bool false] := by
  have h : lb 48439561293906451759052585252797914202762949526041747995844080717082404635286 0 = 17627433388654248598 ∧ lb 48439561293906451759052585252797914202762949526041747995844080717082404635286 1 = 8575836109218198432 ∧ lb 48439561293906451759052585252797914202762949526041747995844080717082404635286 2 = 17923454489921339634 ∧ lb 48439561293906451759052585252797914202762949526041747995844080717082404635286 3 = 7716867327612699207 ∧ lb 79657838253606452964112319029819691573475036742305299123656433055298683448842 0 = 3767753221892779530 ∧ lb 79657838253606452964112319029819691573475036742305299123656433055298683448842 1 = 15290227238617653553 ∧ lb 79657838253606452964112319029819691573475036742305299123656433055298683448842 2 = 8149286295562117609 ∧ lb 79657838253606452964112319029819691573475036742305299123656433055298683448842 3 = 12690225778011766885 := by decide +kernel
  unfold pn
  rw [h.1]
  rw [h.2.1]
  rw [h.2.2.1]
  rw [h.2.2.2.1]
  rw [h.2.2.2.2.1]
  rw [h.2.2.2.2.2.1]
  rw [h.2.2.2.2.2.2.1]
  rw [h.2.2.2.2.2.2.2]
  rfl
theorem lTwo9 : pn 56515219790691171413109057904011688695424810155802929973526481321309856242040 3377031843712258259223711451491452598088675519751548567112458094635497583569 false = .agg #[.int .u64 11964737083406719352, .int .u64 13873736548487404341, .int .u64 9967090510939364035, .int .u64 9003393950442278782, .int .u64 11386427643415524305, .int .u64 13438088067519447593, .int .u64 2971701507003789531, .int .u64 537992211385471040, .bool false] := by
  have h : lb 56515219790691171413109057904011688695424810155802929973526481321309856242040 0 = 11964737083406719352 ∧ lb 56515219790691171413109057904011688695424810155802929973526481321309856242040 1 = 13873736548487404341 ∧ lb 56515219790691171413109057904011688695424810155802929973526481321309856242040 2 = 9967090510939364035 ∧ lb 56515219790691171413109057904011688695424810155802929973526481321309856242040 3 = 9003393950442278782 ∧ lb 3377031843712258259223711451491452598088675519751548567112458094635497583569 0 = 11386427643415524305 ∧ lb 3377031843712258259223711451491452598088675519751548567112458094635497583569 1 = 13438088067519447593 ∧ lb 3377031843712258259223711451491452598088675519751548567112458094635497583569 2 = 2971701507003789531 ∧ lb 3377031843712258259223711451491452598088675519751548567112458094635497583569 3 = 537992211385471040 := by decide +kernel
  unfold pn
  rw [h.1]
  rw [h.2.1]
  rw [h.2.2.1]
  rw [h.2.2.2.1]
  rw [h.2.2.2.2.1]
  rw [h.2.2.2.2.2.1]
  rw [h.2.2.2.2.2.2.1]
  rw [h.2.2.2.2.2.2.2]
  rfl
theorem lOne1 : pn 1 1 false = .agg #[.int .u64 1, .int .u64 0, .int .u64 0, .int .u64 0, .int .u64 1, .int .u64 0, .int .u64 0, .int .u64 0, .bool false] := rfl
theorem lFar : pn 0 0 true = .agg #[.int .u64 0, .int .u64 0, .int .u64 0, .int .u64 0, .int .u64 0, .int .u64 0, .int .u64 0, .int .u64 0, .bool true] := rfl
theorem lZero9 : pn 0 0 false = .agg #[.int .u64 0, .int .u64 0, .int .u64 0, .int .u64 0, .int .u64 0, .int .u64 0, .int .u64 0, .int .u64 0, .bool false] := rfl
def G : Po := ⟨48439561293906451759052585252797914202762949526041747995844080717082404635286, 36134250956749795798585127919587881956611106672985015071877198253568414405109, false⟩
def NG : Po := ⟨48439561293906451759052585252797914202762949526041747995844080717082404635286, 79657838253606452964112319029819691573475036742305299123656433055298683448842, false⟩
def One1 : Po := ⟨1, 1, false⟩
theorem G_ok : G.ok := ⟨by decide +kernel, by decide +kernel⟩
theorem NG_ok : NG.ok := ⟨by decide +kernel, by decide +kernel⟩
theorem One1_ok : One1.ok := ⟨by decide +kernel, by decide +kernel⟩
theorem G_on : G.on = true := by decide +kernel
theorem NG_on : NG.on = true := by decide +kernel
theorem One1_on : One1.on = false := by decide +kernel
theorem vG : G.v = .agg #[.int .u64 17627433388654248598, .int .u64 8575836109218198432, .int .u64 17923454489921339634, .int .u64 7716867327612699207, .int .u64 14678990851816772085, .int .u64 3156516839386865358, .int .u64 10297457778147434006, .int .u64 5756518291402817435, .bool false] := lG
theorem vNG : NG.v = .agg #[.int .u64 17627433388654248598, .int .u64 8575836109218198432, .int .u64 17923454489921339634, .int .u64 7716867327612699207, .int .u64 3767753221892779530, .int .u64 15290227238617653553, .int .u64 8149286295562117609, .int .u64 12690225778011766885, .bool false] := lNG
theorem vOne1 : One1.v = .agg #[.int .u64 1, .int .u64 0, .int .u64 0, .int .u64 0, .int .u64 1, .int .u64 0, .int .u64 0, .int .u64 0, .bool false] := lOne1
theorem GG : (J.begin G.x G.y G.i).plus (J.begin G.x G.y G.i) = ⟨69923961955967387994258645329874512676251231789611885617885350872868369909519, 29468416531536242154810423193772930342200868632530199947817229236472112149969, 72268501913499591597170255839175763913222213345970030143754396507136828810218⟩ := by decide +kernel
theorem iN_pm (z : Nat) : iN z = Primes.pm mP 256 z (mP - 2) := by
  unfold iN
  rw [Primes.pm_is mP 256 _ (mP - 2) (by decide +kernel)]
theorem point_mk (x y z : Nat) (h : ¬ J.mk x y z = J.far) : (J.mk x y z).point = ⟨((J.mk x y z).over (Primes.pm mP 256 z (mP - 2))).x, ((J.mk x y z).over (Primes.pm mP 256 z (mP - 2))).y, false⟩ := by
  rw [J.point_not h]
  simp only [iN_pm]
theorem G_two : G.add G = ⟨56515219790691171413109057904011688695424810155802929973526481321309856242040, 3377031843712258259223711451491452598088675519751548567112458094635497583569, false⟩ := by
  unfold Po.add
  rw [GG, point_mk _ _ _ (by decide +kernel)]
  decide +kernel
theorem G_far : G.add NG = ⟨0, 0, true⟩ := by
  unfold Po.add
  rw [J.point_far (by decide +kernel)]
theorem kBase : ∀ w, Calls Try.prog 71 #[] w fun e w' => e = .returned (.agg #[.int .u64 17627433388654248598, .int .u64 8575836109218198432, .int .u64 17923454489921339634, .int .u64 7716867327612699207, .int .u64 14678990851816772085, .int .u64 3156516839386865358, .int .u64 10297457778147434006, .int .u64 5756518291402817435, .bool false]) ∧ Below w.heap.size w w' := fun w => by
  go_enter Try.func71, Try.ntmps71
  go_wp2_with fail
  rw [← lG]
  refine ret_cell51 rfl w.heap.size 48439561293906451759052585252797914202762949526041747995844080717082404635286 36134250956749795798585127919587881956611106672985015071877198253568414405109 false rfl ?_ rfl ⟨rfl, ?_⟩
  · have h := lG
    unfold pn at h
    injection h with h
    unfold cs9
    rw [h]
    exact Bk.new rfl
  · go_grown
theorem kRBase : ∀ w, Calls Try.prog 72 #[] w fun e w' => e = .returned (.agg #[.int .u64 17627433388654248598, .int .u64 8575836109218198432, .int .u64 17923454489921339634, .int .u64 7716867327612699207, .int .u64 14678990851816772085, .int .u64 3156516839386865358, .int .u64 10297457778147434006, .int .u64 5756518291402817435, .bool false]) ∧ Below w.heap.size w w' := fun w => by
  go_enter Try.func72, Try.ntmps72
  go_wp2_with fail
  rw [← lG]
  refine ret_cell51 rfl w.heap.size 48439561293906451759052585252797914202762949526041747995844080717082404635286 36134250956749795798585127919587881956611106672985015071877198253568414405109 false rfl ?_ rfl ⟨rfl, ?_⟩
  · have h := lG
    unfold pn at h
    injection h with h
    unfold cs9
    rw [h]
    exact Bk.new rfl
  · go_grown
theorem kNeg : ∀ w, Calls Try.prog 44 #[.agg #[.int .u64 17627433388654248598, .int .u64 8575836109218198432, .int .u64 17923454489921339634, .int .u64 7716867327612699207, .int .u64 14678990851816772085, .int .u64 3156516839386865358, .int .u64 10297457778147434006, .int .u64 5756518291402817435, .bool false]] w fun e w' => e = .returned (.tuple #[.agg #[.int .u64 17627433388654248598, .int .u64 8575836109218198432, .int .u64 17923454489921339634, .int .u64 7716867327612699207, .int .u64 3767753221892779530, .int .u64 15290227238617653553, .int .u64 8149286295562117609, .int .u64 12690225778011766885, .bool false], .int .i64 0]) ∧ Below w.heap.size w w' := fun w => by
  have h := negp G_ok w
  rw [if_pos G_on, vG, show G.neg = NG from by decide +kernel, vNG] at h
  exact h
theorem kAdd1 : ∀ w, Calls Try.prog 45 #[.agg #[.int .u64 17627433388654248598, .int .u64 8575836109218198432, .int .u64 17923454489921339634, .int .u64 7716867327612699207, .int .u64 14678990851816772085, .int .u64 3156516839386865358, .int .u64 10297457778147434006, .int .u64 5756518291402817435, .bool false], .agg #[.int .u64 17627433388654248598, .int .u64 8575836109218198432, .int .u64 17923454489921339634, .int .u64 7716867327612699207, .int .u64 3767753221892779530, .int .u64 15290227238617653553, .int .u64 8149286295562117609, .int .u64 12690225778011766885, .bool false]] w fun e w' => e = .returned (.tuple #[.agg #[.int .u64 0, .int .u64 0, .int .u64 0, .int .u64 0, .int .u64 0, .int .u64 0, .int .u64 0, .int .u64 0, .bool true], .int .i64 0]) ∧ Below w.heap.size w w' := fun w => by
  have h := addp G_ok NG_ok w
  rw [if_pos ⟨G_on, NG_on⟩, vG, vNG, G_far] at h
  exact h
theorem kAdd2 : ∀ w, Calls Try.prog 45 #[.agg #[.int .u64 17627433388654248598, .int .u64 8575836109218198432, .int .u64 17923454489921339634, .int .u64 7716867327612699207, .int .u64 14678990851816772085, .int .u64 3156516839386865358, .int .u64 10297457778147434006, .int .u64 5756518291402817435, .bool false], .agg #[.int .u64 17627433388654248598, .int .u64 8575836109218198432, .int .u64 17923454489921339634, .int .u64 7716867327612699207, .int .u64 14678990851816772085, .int .u64 3156516839386865358, .int .u64 10297457778147434006, .int .u64 5756518291402817435, .bool false]] w fun e w' => e = .returned (.tuple #[.agg #[.int .u64 11964737083406719352, .int .u64 13873736548487404341, .int .u64 9967090510939364035, .int .u64 9003393950442278782, .int .u64 11386427643415524305, .int .u64 13438088067519447593, .int .u64 2971701507003789531, .int .u64 537992211385471040, .bool false], .int .i64 0]) ∧ Below w.heap.size w w' := fun w => by
  have h := addp G_ok G_ok w
  rw [if_pos ⟨G_on, G_on⟩, vG, G_two, show (Po.mk 56515219790691171413109057904011688695424810155802929973526481321309856242040 3377031843712258259223711451491452598088675519751548567112458094635497583569 false).v = .agg #[.int .u64 11964737083406719352, .int .u64 13873736548487404341, .int .u64 9967090510939364035, .int .u64 9003393950442278782, .int .u64 11386427643415524305, .int .u64 13438088067519447593, .int .u64 2971701507003789531, .int .u64 537992211385471040, .bool false] from lTwo9] at h
  exact h
theorem kAdd3 : ∀ w, Calls Try.prog 45 #[.agg #[.int .u64 17627433388654248598, .int .u64 8575836109218198432, .int .u64 17923454489921339634, .int .u64 7716867327612699207, .int .u64 14678990851816772085, .int .u64 3156516839386865358, .int .u64 10297457778147434006, .int .u64 5756518291402817435, .bool false], .agg #[.int .u64 1, .int .u64 0, .int .u64 0, .int .u64 0, .int .u64 1, .int .u64 0, .int .u64 0, .int .u64 0, .bool false]] w fun e w' => e = .returned (.tuple #[.agg #[.int .u64 0, .int .u64 0, .int .u64 0, .int .u64 0, .int .u64 0, .int .u64 0, .int .u64 0, .int .u64 0, .bool false], .int .i64 70]) ∧ Below w.heap.size w w' := fun w => by
  have h := addp G_ok One1_ok w
  rw [if_neg (fun h => absurd h.2 (by rw [One1_on]; simp)), vG, vOne1] at h
  exact h
theorem kBytes : ∀ w, Calls Try.prog 37 #[.agg #[.int .u64 0, .int .u64 0, .int .u64 0, .int .u64 0, .int .u64 0, .int .u64 0, .int .u64 0, .int .u64 0, .bool true]] w fun e w' => e = .returned (.tuple #[.string ⟨#[0]⟩, .int .i64 0]) ∧ Below w.heap.size w w' := fun w => by
  have h := bytesp (p := ⟨0, 0, true⟩) ⟨by decide, by decide⟩ w
  rw [if_pos (by decide)] at h
  exact h
theorem kOf : ∀ w, Calls Try.prog 38 #[.string ⟨#[4]⟩] w fun e w' => e = .returned (.tuple #[.agg #[.int .u64 0, .int .u64 0, .int .u64 0, .int .u64 0, .int .u64 0, .int .u64 0, .int .u64 0, .int .u64 0, .bool false], .int .i64 71]) ∧ Below w.heap.size w w' := fun w => by
  have h := of_c [4] (by decide) w
  rw [show Po.of [4] = none from by decide +kernel] at h
  exact h
theorem kOn1 : ∀ w, Calls Try.prog 42 #[.agg #[.int .u64 17627433388654248598, .int .u64 8575836109218198432, .int .u64 17923454489921339634, .int .u64 7716867327612699207, .int .u64 14678990851816772085, .int .u64 3156516839386865358, .int .u64 10297457778147434006, .int .u64 5756518291402817435, .bool false]] w fun e w' => e = .returned (.bool true) ∧ Below w.heap.size w w' := fun w => by
  have h := onj G_ok w
  rw [G_on, vG] at h
  exact h
theorem kOn2 : ∀ w, Calls Try.prog 42 #[.agg #[.int .u64 0, .int .u64 0, .int .u64 0, .int .u64 0, .int .u64 0, .int .u64 0, .int .u64 0, .int .u64 0, .bool true]] w fun e w' => e = .returned (.bool true) ∧ Below w.heap.size w w' := fun w => onj (p := ⟨0, 0, true⟩) ⟨by decide, by decide⟩ w
theorem kOn3 : ∀ w, Calls Try.prog 42 #[.agg #[.int .u64 0, .int .u64 0, .int .u64 0, .int .u64 0, .int .u64 0, .int .u64 0, .int .u64 0, .int .u64 0, .bool false]] w fun e w' => e = .returned (.bool false) ∧ Below w.heap.size w w' := fun w => by
  have h := onj (p := ⟨0, 0, false⟩) ⟨by decide, by decide⟩ w
  rw [show (Po.mk 0 0 false).on = false from by decide +kernel] at h
  exact h
theorem qG : ∀ w, (Op.equalIn 10000 51 (.agg #[.int .u64 17627433388654248598, .int .u64 8575836109218198432, .int .u64 17923454489921339634, .int .u64 7716867327612699207, .int .u64 14678990851816772085, .int .u64 3156516839386865358, .int .u64 10297457778147434006, .int .u64 5756518291402817435, .bool false]) (.agg #[.int .u64 17627433388654248598, .int .u64 8575836109218198432, .int .u64 17923454489921339634, .int .u64 7716867327612699207, .int .u64 14678990851816772085, .int .u64 3156516839386865358, .int .u64 10297457778147434006, .int .u64 5756518291402817435, .bool false])).run Try.prog w = .ok true w := fun w => by
  have h := eqP 48439561293906451759052585252797914202762949526041747995844080717082404635286 36134250956749795798585127919587881956611106672985015071877198253568414405109 48439561293906451759052585252797914202762949526041747995844080717082404635286 36134250956749795798585127919587881956611106672985015071877198253568414405109 false false (by decide +kernel) (by decide +kernel) (by decide +kernel) (by decide +kernel) w
  rw [lG] at h
  simpa using h
theorem qF : ∀ w, (Op.equalIn 10000 51 (.agg #[.int .u64 0, .int .u64 0, .int .u64 0, .int .u64 0, .int .u64 0, .int .u64 0, .int .u64 0, .int .u64 0, .bool true]) (.agg #[.int .u64 0, .int .u64 0, .int .u64 0, .int .u64 0, .int .u64 0, .int .u64 0, .int .u64 0, .int .u64 0, .bool true])).run Try.prog w = .ok true w := fun w => by
  have h := eqP 0 0 0 0 true true (by decide) (by decide) (by decide) (by decide) w
  rw [lFar] at h
  simpa using h
end Go.Proofs.Ytglmmodkflkkkaa
set_option linter.unusedVariables false
set_option linter.unusedSimpArgs false
set_option maxRecDepth 100000
namespace Go.Proofs.Ytglmmodkflkkkaa
open Go.RowKit Go.Sort Limbs
set_option maxHeartbeats 32000000 in
theorem awake7_any (w : World) : Calls Try.prog 41 #[] w fun e w' => e = .returned (.bool true) ∧ Below w.heap.size w w' := by
  have HBase := Lib.hid kBase
  have HRB := Lib.hid kRBase
  have HNeg := Lib.hid kNeg
  have HA1 := Lib.hid kAdd1
  have HA2 := Lib.hid kAdd2
  have HA3 := Lib.hid kAdd3
  have HBy := Lib.hid kBytes
  have HOf := Lib.hid kOf
  have HO1 := Lib.hid kOn1
  have HO2 := Lib.hid kOn2
  have HO3 := Lib.hid kOn3
  go_enter Try.func41, Try.ntmps41
  go_wp2_with fail
  refine (keep w.heap.size w (HBase.out _) (Below.refl _ _) (Nat.le_refl _)).mono ?_
  rintro e w1 ⟨rfl, hB1, hk⟩
  clear hk
  go_wp2_with fail
  refine (keep w.heap.size w (HNeg.out _) (by have hs := hB1.size; go_grown) (Nat.le_refl _)).mono ?_
  rintro e w2 ⟨rfl, hB2, hk⟩
  have K1 : Hid (Bk 51 w2 w1.heap.size #[.int .u64 17627433388654248598, .int .u64 8575836109218198432, .int .u64 17923454489921339634, .int .u64 7716867327612699207, .int .u64 14678990851816772085, .int .u64 3156516839386865358, .int .u64 10297457778147434006, .int .u64 5756518291402817435, .bool false]) := Lib.hid (Bk.below (Bk.new rfl) hk)
  clear hk hB1
  generalize w1.heap.size = g1 at K1 ⊢
  obtain ⟨⟨a0, a1, a2, a3⟩, ⟨a4, a5, a6, a7⟩, a8⟩ := K1.out.cellsA9
  go_wp2_with fail
  refine (keep w.heap.size w (HA1.out _) (by have hs := hB2.size; go_grown) (Nat.le_refl _)).mono ?_
  rintro e w3 ⟨rfl, hB3, hk⟩
  have K13 := Lib.hid (Bk.below (Bk.alloc K1.out) hk)
  clear hk hB2 K1 a0 a1 a2 a3 a4 a5 a6 a7 a8
  generalize w2.heap.size = g2 at *
  obtain ⟨⟨a0, a1, a2, a3⟩, ⟨a4, a5, a6, a7⟩, a8⟩ := K13.out.cellsA9
  go_wp2_with fail
  refine (keep w.heap.size w (HA2.out _) (by have hs := hB3.size; go_grown) (Nat.le_refl _)).mono ?_
  rintro e w4 ⟨rfl, hB4, hk⟩
  have K14 := Lib.hid (Bk.below (Bk.alloc K13.out) hk)
  have K44 : Hid (Bk 51 w4 w3.heap.size #[.int .u64 0, .int .u64 0, .int .u64 0, .int .u64 0, .int .u64 0, .int .u64 0, .int .u64 0, .int .u64 0, .bool true]) := Lib.hid (Bk.below (Bk.new rfl) hk)
  clear hk hB3 K13 a0 a1 a2 a3 a4 a5 a6 a7 a8
  generalize w3.heap.size = g4 at K44 ⊢
  obtain ⟨⟨a0, a1, a2, a3⟩, ⟨a4, a5, a6, a7⟩, a8⟩ := K14.out.cellsA9
  go_wp2_with fail
  refine (keep w.heap.size w (HA3.out _) (by have hs := hB4.size; go_grown) (Nat.le_refl _)).mono ?_
  rintro e w5 ⟨rfl, hB5, hk⟩
  have K15 := Lib.hid (Bk.below (Bk.alloc K14.out) hk)
  have K45 := Lib.hid (Bk.below (Bk.alloc K44.out) hk)
  have K65 : Hid (Bk 51 w5 w4.heap.size #[.int .u64 11964737083406719352, .int .u64 13873736548487404341, .int .u64 9967090510939364035, .int .u64 9003393950442278782, .int .u64 11386427643415524305, .int .u64 13438088067519447593, .int .u64 2971701507003789531, .int .u64 537992211385471040, .bool false]) := Lib.hid (Bk.below (Bk.new rfl) hk)
  clear hk hB4 K14 K44 a0 a1 a2 a3 a4 a5 a6 a7 a8
  generalize w4.heap.size = g6 at K65 ⊢
  obtain ⟨⟨a0, a1, a2, a3⟩, ⟨a4, a5, a6, a7⟩, a8⟩ := K45.out.cellsA9
  go_wp2_with fail
  refine (keep w.heap.size w (HBy.out _) (by have hs := hB5.size; go_grown) (Nat.le_refl _)).mono ?_
  rintro e w6 ⟨rfl, hB6, hk⟩
  have K16 := Lib.hid (Bk.below (Bk.alloc K15.out) hk)
  have K46 := Lib.hid (Bk.below (Bk.alloc K45.out) hk)
  have K66 := Lib.hid (Bk.below (Bk.alloc K65.out) hk)
  clear hk hB5 K15 K45 K65 a0 a1 a2 a3 a4 a5 a6 a7 a8
  generalize w5.heap.size = g8 at *
  go_wp2_with fail
  refine (keep w.heap.size w (HOf.out _) hB6 (Nat.le_refl _)).mono ?_
  rintro e w7 ⟨rfl, hB7, hk⟩
  have K17 : Hid (Bk 51 (w7.alloc (.cells #[.int .u64 0, .int .u64 0, .int .u64 0, .int .u64 0, .int .u64 0, .int .u64 0, .int .u64 0, .int .u64 0, .bool false] 51)) g1 #[.int .u64 17627433388654248598, .int .u64 8575836109218198432, .int .u64 17923454489921339634, .int .u64 7716867327612699207, .int .u64 14678990851816772085, .int .u64 3156516839386865358, .int .u64 10297457778147434006, .int .u64 5756518291402817435, .bool false]) := Lib.hid (Bk.alloc (Bk.below K16.out hk))
  have K47 : Hid (Bk 51 (w7.alloc (.cells #[.int .u64 0, .int .u64 0, .int .u64 0, .int .u64 0, .int .u64 0, .int .u64 0, .int .u64 0, .int .u64 0, .bool false] 51)) g4 #[.int .u64 0, .int .u64 0, .int .u64 0, .int .u64 0, .int .u64 0, .int .u64 0, .int .u64 0, .int .u64 0, .bool true]) := Lib.hid (Bk.alloc (Bk.below K46.out hk))
  have K67 : Hid (Bk 51 (w7.alloc (.cells #[.int .u64 0, .int .u64 0, .int .u64 0, .int .u64 0, .int .u64 0, .int .u64 0, .int .u64 0, .int .u64 0, .bool false] 51)) g6 #[.int .u64 11964737083406719352, .int .u64 13873736548487404341, .int .u64 9967090510939364035, .int .u64 9003393950442278782, .int .u64 11386427643415524305, .int .u64 13438088067519447593, .int .u64 2971701507003789531, .int .u64 537992211385471040, .bool false]) := Lib.hid (Bk.alloc (Bk.below K66.out hk))
  have HB7 : Hid (Below w.heap.size w (w7.alloc (.cells #[.int .u64 0, .int .u64 0, .int .u64 0, .int .u64 0, .int .u64 0, .int .u64 0, .int .u64 0, .int .u64 0, .bool false] 51))) := Lib.hid (by have hs := hB7.size; go_grown)
  clear hk hB6 hB7 K16 K46 K66
  go_wp2_with fail
  generalize (w7.alloc (.cells #[.int .u64 0, .int .u64 0, .int .u64 0, .int .u64 0, .int .u64 0, .int .u64 0, .int .u64 0, .int .u64 0, .bool false] 51)) = W at K17 K47 K67 HB7 ⊢
  obtain ⟨⟨a0, a1, a2, a3⟩, ⟨a4, a5, a6, a7⟩, a8⟩ := K17.out.reg9
  obtain ⟨⟨b0, b1, b2, b3⟩, ⟨b4, b5, b6, b7⟩, b8⟩ := K47.out.reg9
  obtain ⟨⟨c0, c1, c2, c3⟩, ⟨c4, c5, c6, c7⟩, c8⟩ := K67.out.reg9
  have hqG := qG
  have hqF := qF
  have heq := eq24
  refine wp_region_quiet_below mixed (by kernel_rfl) ?_
  iterate 1 go_big_quiet_step (fail)
  go_big_quiet_step (exact qg HRB.out)
  iterate 42 go_big_quiet_step (fail)
  go_big_quiet_step (exact qg HO1.out)
  iterate 3 go_big_quiet_step (fail)
  go_big_quiet_step (exact qg HO2.out)
  iterate 3 go_big_quiet_step (fail)
  go_big_quiet_step (exact qg HO3.out)
  iterate 7 go_big_quiet_step (fail)
  refine wpQuiet_nil ?_
  intro _ hw'
  obtain ⟨⟨dq, osq⟩, hw''⟩ := hw'
  subst hw''
  have HB8 := Lib.hid (HB7.out.trans ((below_regrown W dq osq).mono HB7.out.size))
  go_wp2_with fail
  go_ret
  exact ⟨rfl, HB8.out⟩
end Go.Proofs.Ytglmmodkflkkkaa
set_option linter.unusedVariables false
set_option linter.unusedSimpArgs false
set_option maxRecDepth 100000
namespace Go.Proofs.Ytglmmodkflkkkaa
open Go.RowKit Go.Sort Limbs
theorem eq_same {p : Po} (hp : p.ok) : ∀ w, (Op.equalIn 10000 51 p.v p.v).run Try.prog w = .ok true w := fun w => by
  have h := eqP p.x p.y p.x p.y p.i p.i hp.1 hp.2 hp.1 hp.2 w
  have h2 : (Op.equalIn 10000 51 (pn p.x p.y p.i) (pn p.x p.y p.i)).run Try.prog w = .ok true w := by simpa using h
  exact h2
end Go.Proofs.Ytglmmodkflkkkaa
