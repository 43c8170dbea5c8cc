/- The calls whose answers the document fixes, together: the walk of the law's beginning. No condition. -/
import Derived.Test.YtglmmodkflkkkaaCp
set_option linter.unusedVariables false
set_option linter.unusedSimpArgs false
set_option maxRecDepth 100000
namespace Go.Proofs.Ytglmmodkflkkkaa
open Go.RowKit Go.Sort Limbs

set_option maxHeartbeats 32000000 in
theorem awake7_any (w : World) : Calls Try.prog 41 #[] w fun e w' => e = .returned (.bool true) ∧ Below w.heap.size w w' := by
  have HBase := Lib.hid kBase
  have HRB := Lib.hid kRBase
  have HNeg := Lib.hid kNeg
  have HA1 := Lib.hid kAdd1
  have HA2 := Lib.hid kAdd2
  have HA3 := Lib.hid kAdd3
  have HBy := Lib.hid kBytes
  have HOf := Lib.hid kOf
  have HO1 := Lib.hid kOn1
  have HO2 := Lib.hid kOn2
  have HO3 := Lib.hid kOn3
  go_enter Try.func41, Try.ntmps41
  go_wp2_with fail
  refine (keep w.heap.size w (HBase.out _) (Below.refl _ _) (Nat.le_refl _)).mono ?_
  rintro e w1 ⟨rfl, hB1, hk⟩
  clear hk
  go_wp2_with fail
  refine (keep w.heap.size w (HNeg.out _) (by have hs := hB1.size; go_grown) (Nat.le_refl _)).mono ?_
  rintro e w2 ⟨rfl, hB2, hk⟩
  have K1 : Hid (Bk 51 w2 w1.heap.size #[.int .u64 17627433388654248598, .int .u64 8575836109218198432, .int .u64 17923454489921339634, .int .u64 7716867327612699207, .int .u64 14678990851816772085, .int .u64 3156516839386865358, .int .u64 10297457778147434006, .int .u64 5756518291402817435, .bool false]) := Lib.hid (Bk.below (Bk.new rfl) hk)
  clear hk hB1
  generalize w1.heap.size = g1 at K1 ⊢
  obtain ⟨⟨a0, a1, a2, a3⟩, ⟨a4, a5, a6, a7⟩, a8⟩ := K1.out.cellsA9
  go_wp2_with fail
  refine (keep w.heap.size w (HA1.out _) (by have hs := hB2.size; go_grown) (Nat.le_refl _)).mono ?_
  rintro e w3 ⟨rfl, hB3, hk⟩
  have K13 := Lib.hid (Bk.below (Bk.alloc K1.out) hk)
  clear hk hB2 K1 a0 a1 a2 a3 a4 a5 a6 a7 a8
  generalize w2.heap.size = g2 at *
  obtain ⟨⟨a0, a1, a2, a3⟩, ⟨a4, a5, a6, a7⟩, a8⟩ := K13.out.cellsA9
  go_wp2_with fail
  refine (keep w.heap.size w (HA2.out _) (by have hs := hB3.size; go_grown) (Nat.le_refl _)).mono ?_
  rintro e w4 ⟨rfl, hB4, hk⟩
  have K14 := Lib.hid (Bk.below (Bk.alloc K13.out) hk)
  have K44 : Hid (Bk 51 w4 w3.heap.size #[.int .u64 0, .int .u64 0, .int .u64 0, .int .u64 0, .int .u64 0, .int .u64 0, .int .u64 0, .int .u64 0, .bool true]) := Lib.hid (Bk.below (Bk.new rfl) hk)
  clear hk hB3 K13 a0 a1 a2 a3 a4 a5 a6 a7 a8
  generalize w3.heap.size = g4 at K44 ⊢
  obtain ⟨⟨a0, a1, a2, a3⟩, ⟨a4, a5, a6, a7⟩, a8⟩ := K14.out.cellsA9
  go_wp2_with fail
  refine (keep w.heap.size w (HA3.out _) (by have hs := hB4.size; go_grown) (Nat.le_refl _)).mono ?_
  rintro e w5 ⟨rfl, hB5, hk⟩
  have K15 := Lib.hid (Bk.below (Bk.alloc K14.out) hk)
  have K45 := Lib.hid (Bk.below (Bk.alloc K44.out) hk)
  have K65 : Hid (Bk 51 w5 w4.heap.size #[.int .u64 11964737083406719352, .int .u64 13873736548487404341, .int .u64 9967090510939364035, .int .u64 9003393950442278782, .int .u64 11386427643415524305, .int .u64 13438088067519447593, .int .u64 2971701507003789531, .int .u64 537992211385471040, .bool false]) := Lib.hid (Bk.below (Bk.new rfl) hk)
  clear hk hB4 K14 K44 a0 a1 a2 a3 a4 a5 a6 a7 a8
  generalize w4.heap.size = g6 at K65 ⊢
  obtain ⟨⟨a0, a1, a2, a3⟩, ⟨a4, a5, a6, a7⟩, a8⟩ := K45.out.cellsA9
  go_wp2_with fail
  refine (keep w.heap.size w (HBy.out _) (by have hs := hB5.size; go_grown) (Nat.le_refl _)).mono ?_
  rintro e w6 ⟨rfl, hB6, hk⟩
  have K16 := Lib.hid (Bk.below (Bk.alloc K15.out) hk)
  have K46 := Lib.hid (Bk.below (Bk.alloc K45.out) hk)
  have K66 := Lib.hid (Bk.below (Bk.alloc K65.out) hk)
  clear hk hB5 K15 K45 K65 a0 a1 a2 a3 a4 a5 a6 a7 a8
  generalize w5.heap.size = g8 at *
  go_wp2_with fail
  refine (keep w.heap.size w (HOf.out _) hB6 (Nat.le_refl _)).mono ?_
  rintro e w7 ⟨rfl, hB7, hk⟩
  have K17 : Hid (Bk 51 (w7.alloc (.cells #[.int .u64 0, .int .u64 0, .int .u64 0, .int .u64 0, .int .u64 0, .int .u64 0, .int .u64 0, .int .u64 0, .bool false] 51)) g1 #[.int .u64 17627433388654248598, .int .u64 8575836109218198432, .int .u64 17923454489921339634, .int .u64 7716867327612699207, .int .u64 14678990851816772085, .int .u64 3156516839386865358, .int .u64 10297457778147434006, .int .u64 5756518291402817435, .bool false]) := Lib.hid (Bk.alloc (Bk.below K16.out hk))
  have K47 : Hid (Bk 51 (w7.alloc (.cells #[.int .u64 0, .int .u64 0, .int .u64 0, .int .u64 0, .int .u64 0, .int .u64 0, .int .u64 0, .int .u64 0, .bool false] 51)) g4 #[.int .u64 0, .int .u64 0, .int .u64 0, .int .u64 0, .int .u64 0, .int .u64 0, .int .u64 0, .int .u64 0, .bool true]) := Lib.hid (Bk.alloc (Bk.below K46.out hk))
  have K67 : Hid (Bk 51 (w7.alloc (.cells #[.int .u64 0, .int .u64 0, .int .u64 0, .int .u64 0, .int .u64 0, .int .u64 0, .int .u64 0, .int .u64 0, .bool false] 51)) g6 #[.int .u64 11964737083406719352, .int .u64 13873736548487404341, .int .u64 9967090510939364035, .int .u64 9003393950442278782, .int .u64 11386427643415524305, .int .u64 13438088067519447593, .int .u64 2971701507003789531, .int .u64 537992211385471040, .bool false]) := Lib.hid (Bk.alloc (Bk.below K66.out hk))
  have HB7 : Hid (Below w.heap.size w (w7.alloc (.cells #[.int .u64 0, .int .u64 0, .int .u64 0, .int .u64 0, .int .u64 0, .int .u64 0, .int .u64 0, .int .u64 0, .bool false] 51))) := Lib.hid (by have hs := hB7.size; go_grown)
  clear hk hB6 hB7 K16 K46 K66
  go_wp2_with fail
  generalize (w7.alloc (.cells #[.int .u64 0, .int .u64 0, .int .u64 0, .int .u64 0, .int .u64 0, .int .u64 0, .int .u64 0, .int .u64 0, .bool false] 51)) = W at K17 K47 K67 HB7 ⊢
  obtain ⟨⟨a0, a1, a2, a3⟩, ⟨a4, a5, a6, a7⟩, a8⟩ := K17.out.reg9
  obtain ⟨⟨b0, b1, b2, b3⟩, ⟨b4, b5, b6, b7⟩, b8⟩ := K47.out.reg9
  obtain ⟨⟨c0, c1, c2, c3⟩, ⟨c4, c5, c6, c7⟩, c8⟩ := K67.out.reg9
  have hqG := qG
  have hqF := qF
  have heq := eq24
  refine wp_region_quiet_below mixed (by kernel_rfl) ?_
  iterate 1 go_big_quiet_step (fail)
  go_big_quiet_step (exact qg HRB.out)
  iterate 42 go_big_quiet_step (fail)
  go_big_quiet_step (exact qg HO1.out)
  iterate 3 go_big_quiet_step (fail)
  go_big_quiet_step (exact qg HO2.out)
  iterate 3 go_big_quiet_step (fail)
  go_big_quiet_step (exact qg HO3.out)
  iterate 7 go_big_quiet_step (fail)
  refine wpQuiet_nil ?_
  intro _ hw'
  obtain ⟨⟨dq, osq⟩, hw''⟩ := hw'
  subst hw''
  have HB8 := Lib.hid (HB7.out.trans ((below_regrown W dq osq).mono HB7.out.size))
  go_wp2_with fail
  go_ret
  exact ⟨rfl, HB8.out⟩
end Go.Proofs.Ytglmmodkflkkkaa
