/- What the calls whose answers the document fixes tell, in whatever world that holds the library's variable: all of them as the document says. -/
import Derived.Test.YtlifnfchemiipaaDoorS
set_option linter.unusedSimpArgs false
namespace Go.Proofs.YtlifnfchemiipaaDoor
open Go.RowKit

set_option maxHeartbeats 4000000 in
set_option maxRecDepth 200000 in
theorem awake_any (w : World) (hm : Hm w) : Calls Tryd.prog 13 #[] w fun e w' => e = .returned (.bool true) ∧ Below w.heap.size w w' := by
  have hpos := hm.lt
  have hb0 := Below.refl w.heap.size w
  go_enter Tryd.func13, Tryd.ntmps13
  go_wp2_with (fail)
  refine (aw1 _).mono ?_
  rintro e w1 ⟨rfl, b1⟩
  have hb1 := hb0.trans (b1.mono hb0.size)
  go_wp2_with (fail)
  refine (aw2 _).mono ?_
  rintro e w2 ⟨rfl, b2⟩
  have hb2 := hb1.trans (b2.mono hb1.size)
  go_wp2_with (fail)
  refine (aw3 _).mono ?_
  rintro e w3 ⟨rfl, b3⟩
  have hb3 := hb2.trans (b3.mono hb2.size)
  go_wp2_with (fail)
  refine (aw4 _).mono ?_
  rintro e w4 ⟨rfl, b4⟩
  have hb4 := hb3.trans (b4.mono hb3.size)
  go_wp2_with (fail)
  refine (aw5 _).mono ?_
  rintro e w5 ⟨rfl, b5⟩
  have hb5 := hb4.trans (b5.mono hb4.size)
  go_wp2_with (fail)
  have hm6 := (hm.below hpos hb5).below (Nat.lt_of_lt_of_le hpos hb5.size) ((Below.refl w5.heap.size w5).alloc (Nat.le_refl _) (.cells #[.string ⟨#[97]⟩, .string ⟨#[49, 32, 50]⟩, .string ⟨#[98]⟩, .string ⟨#[38]⟩] 34))
  refine (aw6 _ _ hm6 (heap_alloc_new w5 _)).mono ?_
  rintro e w6 ⟨rfl, b6⟩
  have hb6 := (hb5.alloc hb5.size (.cells #[.string ⟨#[97]⟩, .string ⟨#[49, 32, 50]⟩, .string ⟨#[98]⟩, .string ⟨#[38]⟩] 34)).trans (b6.mono (Nat.le_trans hb5.size (by simp)))
  go_wp2_with (fail)
  refine (aw7 _ (hm.below hpos hb6)).mono ?_
  rintro e w7 ⟨g, cap, rfl, hR, b7⟩
  have hb7 := hb6.trans (b7.mono hb6.size)
  go_wp2_with (fail)
  refine (aw8 _ (hm.below hpos hb7)).mono ?_
  rintro e w8 ⟨v8, rfl, b8⟩
  have hb8 := hb7.trans (b8.mono hb7.size)
  go_wp2_with (fail)
  refine (aw9 _).mono ?_
  rintro e w9 ⟨rfl, b9⟩
  have hb9 := hb8.trans (b9.mono hb8.size)
  go_wp2_with (fail)
  have hP9 := ((hR.parts).below b8).below b9
  refine (aw10 _ _ hP9).mono ?_
  rintro e w10 ⟨rfl, b10⟩
  have hb10 := hb9.trans (b10.mono hb9.size)
  go_wp2_with (fail)
  refine (aw11 _).mono ?_
  rintro e w11 ⟨rfl, b11⟩
  have hb11 := hb10.trans (b11.mono hb10.size)
  go_wp2_with (fail)
  refine (aw12 _).mono ?_
  rintro e w12 ⟨rfl, b12⟩
  have hb12 := hb11.trans (b12.mono hb11.size)
  go_wp2_with (fail)
  refine (aw13 _).mono ?_
  rintro e w13 ⟨rfl, b13⟩
  have hb13 := hb12.trans (b13.mono hb12.size)
  go_wp2_with (fail)
  go_ret
  exact ⟨rfl, hb13⟩
end Go.Proofs.YtlifnfchemiipaaDoor
