/- What the laws' 'awake' answers: true. No condition. -/
import Derived.Test.YteaanoaldnnflaaR
set_option linter.unusedVariables false
set_option linter.unusedSimpArgs false
namespace Go.Proofs.Yteaanoaldnnflaa
open Go.RowKit Go.Sort

theorem abc_sum : sumL [97, 98, 99] = [0xba, 0x78, 0x16, 0xbf, 0x8f, 0x01, 0xcf, 0xea, 0x41, 0x41, 0x40, 0xde, 0x5d, 0xae, 0x22, 0x23, 0xb0, 0x03, 0x61, 0xa3, 0x96, 0x17, 0x7a, 0x9c, 0xb4, 0x10, 0xff, 0x61, 0xf2, 0x00, 0x15, 0xad] := be_hex
theorem jefe_mac : (macL [74, 101, 102, 101] [119, 104, 97, 116, 32, 100, 111, 32, 121, 97, 32, 119, 97, 110, 116, 32, 102, 111, 114, 32, 110, 111, 116, 104, 105, 110, 103, 63]).take 4 = [91, 220, 193, 70] := by decide +kernel
theorem pw_str : (stretchR [112, 97, 115, 115, 119, 111, 114, 100] [115, 97, 108, 116] 2 32).1.take 4 = [174, 77, 12, 149] ∧ (stretchR [112, 97, 115, 115, 119, 111, 114, 100] [115, 97, 108, 116] 2 32).1.length = 32 := by decide +kernel
theorem pw_str2 : (stretchR [112, 97, 115, 115, 119, 111, 114, 100] [115, 97, 108, 116] 2 32).2 = 0 := rfl
theorem str0 : stretchR [] [] 0 0 = ([], 40) := rfl
theorem str97 : stretchR [] [] 1 97 = ([], 41) := rfl
theorem mac_len (key s : List UInt8) : (macL key s).length = 32 := mac_length _ _
theorem head4 (s : List UInt8) : (⟨s.toArray⟩ : ByteArray).extract 0 4 = ⟨(s.take 4).toArray⟩ := by simpa using ext_ba s 0 4
theorem last4 (s : List UInt8) (h : s.length = 32) : (⟨s.toArray⟩ : ByteArray).extract 28 32 = ⟨(s.drop 28).toArray⟩ := by
  have := ext_ba s 28 4
  rwa [List.take_of_length_le (by rw [List.length_drop]; omega)] at this

set_option maxHeartbeats 4000000 in
set_option maxRecDepth 100000 in
theorem awake_any (w : World) : Calls Try.prog 9 #[] w fun e w' => e = .returned (.bool true) ∧ Below w.heap.size w w' := by
  have H1 := Lib.hid (sum_any [97, 98, 99] (by decide))
  have h1a := head4 (sumL [97, 98, 99])
  rw [show (sumL [97, 98, 99]).take 4 = [186, 120, 22, 191] from by rw [abc_sum]; rfl] at h1a
  have h1b := last4 (sumL [97, 98, 99]) (sum_length _)
  rw [show (sumL [97, 98, 99]).drop 28 = [242, 0, 21, 173] from by rw [abc_sum]; rfl] at h1b
  have h1c := size_ba (sumL [97, 98, 99])
  rw [sum_length] at h1c
  have h1d := sum_length [97, 98, 99]
  have H2 := Lib.hid (Mac_any [74, 101, 102, 101] [119, 104, 97, 116, 32, 100, 111, 32, 121, 97, 32, 119, 97, 110, 116, 32, 102, 111, 114, 32, 110, 111, 116, 104, 105, 110, 103, 63] (by decide) (by decide))
  have h2a := head4 (macL [74, 101, 102, 101] [119, 104, 97, 116, 32, 100, 111, 32, 121, 97, 32, 119, 97, 110, 116, 32, 102, 111, 114, 32, 110, 111, 116, 104, 105, 110, 103, 63])
  rw [jefe_mac] at h2a
  have h2c := size_ba (macL [74, 101, 102, 101] [119, 104, 97, 116, 32, 100, 111, 32, 121, 97, 32, 119, 97, 110, 116, 32, 102, 111, 114, 32, 110, 111, 116, 104, 105, 110, 103, 63])
  rw [mac_len] at h2c
  have h2d := mac_len [74, 101, 102, 101] [119, 104, 97, 116, 32, 100, 111, 32, 121, 97, 32, 119, 97, 110, 116, 32, 102, 111, 114, 32, 110, 111, 116, 104, 105, 110, 103, 63]
  have H3 := Lib.hid (stretch_any [112, 97, 115, 115, 119, 111, 114, 100] [115, 97, 108, 116] (by decide) (by decide) 2 32)
  rw [pw_str2] at H3
  have h3a := head4 (stretchR [112, 97, 115, 115, 119, 111, 114, 100] [115, 97, 108, 116] 2 32).1
  rw [pw_str.1] at h3a
  have h3c := size_ba (stretchR [112, 97, 115, 115, 119, 111, 114, 100] [115, 97, 108, 116] 2 32).1
  rw [pw_str.2] at h3c
  have h3d := pw_str.2
  have H4 := Lib.hid (stretch_any [] [] (by decide) (by decide) 0 0)
  rw [str0] at H4
  have H5 := Lib.hid (stretch_any [] [] (by decide) (by decide) 1 97)
  rw [str97] at H5
  have H6 := Lib.hid (same_any [97, 98] [97, 98] (by decide) (by decide))
  have H7 := Lib.hid (same_any [97, 98] [97, 99] (by decide) (by decide))
  rw [show decide (([97, 98] : List UInt8) = [97, 98]) = true from by decide] at H6
  rw [show decide (([97, 98] : List UInt8) = [97, 99]) = false from by decide] at H7
  generalize sumL [97, 98, 99] = s at H1 h1a h1b h1c h1d
  generalize macL [74, 101, 102, 101] [119, 104, 97, 116, 32, 100, 111, 32, 121, 97, 32, 119, 97, 110, 116, 32, 102, 111, 114, 32, 110, 111, 116, 104, 105, 110, 103, 63] = m at H2 h2a h2c h2d
  generalize (stretchR [112, 97, 115, 115, 119, 111, 114, 100] [115, 97, 108, 116] 2 32).1 = p at H3 h3a h3c h3d
  go_enter Try.func9, Try.ntmps9
  go_wp2_with fail
  refine (H1.out _).mono ?_
  rintro e w1 ⟨rfl, b1⟩
  have B1 := Lib.hid b1
  clear b1 H1
  go_wp2_with fail
  refine (H2.out _).mono ?_
  rintro e w2 ⟨rfl, b2⟩
  have B2 := Lib.hid (B1.out.trans (b2.mono B1.out.size))
  clear b2 B1 H2
  go_wp2_with fail
  refine (H3.out _).mono ?_
  rintro e w3 ⟨rfl, b3⟩
  have B3 := Lib.hid (B2.out.trans (b3.mono B2.out.size))
  clear b3 B2 H3
  go_wp2_with fail
  refine (H4.out _).mono ?_
  rintro e w4 ⟨rfl, b4⟩
  have B4 := Lib.hid (B3.out.trans (b4.mono B3.out.size))
  clear b4 B3 H4
  go_wp2_with fail
  refine (H5.out _).mono ?_
  rintro e w5 ⟨rfl, b5⟩
  have B5 := Lib.hid (B4.out.trans (b5.mono B4.out.size))
  clear b5 B4 H5
  go_wp2_with fail
  refine (H6.out _).mono ?_
  rintro e w6 ⟨rfl, rfl⟩
  go_wp2_with fail
  refine (H7.out _).mono ?_
  rintro e w6 ⟨rfl, rfl⟩
  go_wp2_with fail
  go_ret
  exact ⟨rfl, B5.out⟩
end Go.Proofs.Yteaanoaldnnflaa
