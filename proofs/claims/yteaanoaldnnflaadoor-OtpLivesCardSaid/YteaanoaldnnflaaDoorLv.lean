/- OtpLives: the walk. Condition: at most 2^47 bytes; the library's table. -/
import Derived.Test.YteaanoaldnnflaaDoorWw
set_option linter.unusedVariables false
set_option linter.unusedSimpArgs false
namespace Go.Proofs.YteaanoaldnnflaaDoor
open Go.RowKit Go.Sort
namespace otpLives

set_option maxHeartbeats 8000000 in
set_option maxRecDepth 100000 in
theorem walk (key : List UInt8) (s d : Int) (w : World) (hk : key.length ≤ 140737488355328) (hs0 : -9223372036854775808 ≤ s) (hs1 : s ≤ 9223372036854775807) (hd0 : -9223372036854775808 ≤ d) (hd1 : d ≤ 9223372036854775807) (hT : Tb w) :
    Calls Tryd.prog 5 #[.string ⟨key.toArray⟩, .int .i64 s, .int .i64 d] w fun e w' => e = .returned (.bool true) ∧ Below w.heap.size w w' := by
  have HK := Lib.hid hk
  have HT := Lib.hid hT
  have H1 := Lib.hid (fun w h => code_any key (Nat.le_trans hk (by decide)) s hs0 hs1 w h)
  by_cases hr : s < 0 ∨ 1099511627766 < s ∨ d < -10 ∨ 10 < d
  · clear H1 hT hk
    have hr2 : decide (s < 0) = true ∨ decide (1099511627766 < s) = true ∨ decide (d < -10) = true ∨ decide (10 < d) = true := by simpa using hr
    go_enter Tryd.func5, Tryd.ntmps5
    go_wp2_with fail
    refine (awake_any _ HT.out).mono ?_
    rintro e w1 ⟨rfl, b1⟩
    have B1 := Lib.hid b1
    clear b1
    go_wp2_with fail
    all_goals
      go_ret
      exact ⟨rfl, B1.out⟩
  · have e1 : decide (s < 0) = false := by simpa using (by omega : 0 ≤ s)
    have e2 : decide (1099511627766 < s) = false := by simpa using (by omega : s ≤ 1099511627766)
    have e3 : decide (d < -10) = false := by simpa using (by omega : -10 ≤ d)
    have e4 : decide (10 < d) = false := by simpa using (by omega : d ≤ 10)
    have q0 : 0 ≤ s := by omega
    have q1 : s ≤ 1099511627766 := by omega
    have q2 : -10 ≤ d := by omega
    have q3 : d ≤ 10 := by omega
    by_cases hn : s + d < 0
    · clear hr hT hk
      go_enter Tryd.func5, Tryd.ntmps5
      go_wp2_with fail
      refine (awake_any _ HT.out).mono ?_
      rintro e w1 ⟨rfl, b1⟩
      have B1 := Lib.hid b1
      clear b1
      go_wp2_with fail
      go_ret
      exact ⟨rfl, B1.out⟩
    · clear hr hT
      have e5 : decide (s + d < 0) = false := by simpa using (by omega : 0 ≤ s + d)
      have HF := Lib.hid (fun t w h => find_any key (codeL key s) hk (by rw [codeL_length]; decide) (s + d) t w h)
      have HC := Lib.hid (fun j (h0 : 0 ≤ j) (h1 : j ≤ 1099511627800) w h => code_any key (Nat.le_trans hk (by decide)) j (by omega) (by omega) w h)
      have HN := Lib.hid (fun t => @findL_none key (codeL key s) (s + d) t)
      have HS := Lib.hid (fun t => @findL_some key (codeL key s) (s + d) t)
      have HA := Lib.hid (fun t (h0 : 0 ≤ t) (h1 : t ≤ 10) (h2 : s + d - t ≤ s) (h3 : s ≤ s + d + t) => findL_has (key := key) (code := codeL key s) (s := s + d) (d := t) (n := s) (by omega) (by omega) h0 h1 q0 h2 h3 rfl)
      have hcL := codeL_length key s
      clear hk
      go_enter Tryd.func5, Tryd.ntmps5
      go_wp2_with fail
      refine (awake_any _ HT.out).mono ?_
      rintro e w1 ⟨rfl, b1⟩
      have B1 := Lib.hid b1
      have HT1 := Lib.hid (HT.out.below b1)
      clear b1
      go_wp2_with fail
      refine (H1.out _ HT1.out).mono ?_
      rintro e w2 ⟨rfl, b2⟩
      have B2 := Lib.hid (B1.out.trans (b2.mono B1.out.size))
      have HT2 := Lib.hid (HT1.out.below b2)
      clear b2 B1 HT1 H1
      generalize codeL key s = c at HF HS HA HN hcL ⊢
      go_wp2_with fail
      go_loopw [8] (fun i wr => ∃ t : Int, 0 ≤ t ∧ t ≤ 15 ∧ i = .int .i64 t ∧ Below w.heap.size w wr) (fun i _ => (15 - intOf i).toNat)
      case atStart => exact ⟨0, by omega, by omega, rfl, B2.out⟩
      case round =>
        obtain ⟨t, ht0, ht1, rfl, hB⟩ := hrel
        have HB := Lib.hid hB
        have HTr := Lib.hid (HT.out.below hB)
        clear hB
        by_cases hlt : t ≤ 10
        · have HFt := Lib.hid (HF.out t)
          have HSt := Lib.hid (HS.out t)
          have HNt := Lib.hid (HN.out t)
          have HAt := Lib.hid (HA.out t ht0 hlt)
          obtain ⟨n, b, hf⟩ : ∃ n b, findL key c (s + d) t = (n, b) := ⟨_, _, rfl⟩
          rw [hf] at HFt HSt HAt HNt
          clear hf
          go_wp2_with fail
          refine (HFt.out _ HTr.out).mono ?_
          rintro e w3 ⟨rfl, b3⟩
          have B3 := Lib.hid (HB.out.trans (b3.mono HB.out.size))
          have HT3 := Lib.hid (HTr.out.below b3)
          clear b3 HFt
          cases b with
          | false =>
            have hnw : -t ≤ d → ¬ (d ≤ t) := fun h1 h2 => by
              have := (HAt.out (by omega) (by omega)).1
              cases this
            obtain rfl : n = 0 := HNt.out rfl
            clear HAt HSt HNt
            go_wp2_with fail
            all_goals
              go_loopw [11] (fun i wr => i = .int .i64 1 ∧ Below w.heap.size w wr) (fun _ _ => 0)
              case atStart => exact ⟨rfl, B3.out⟩
              case round =>
                obtain ⟨rfl, hB4⟩ := hrel
                have HB4 := Lib.hid hB4
                clear hB4
                go_wp2_with fail
                go_roundw
                case rel => exact ⟨t + 5, by omega, by omega, rfl, HB4.out⟩
                case measure => simp [intOf]; omega
          | true =>
            obtain ⟨a1, a2, a3, a4, a5, a6, a7, a8, a9⟩ := HSt.out rfl
            have a5 : s + d - t ≤ n := a5
            have a6 : 0 ≤ n := a6
            have a7 : n ≤ s + d + t := a7
            have a8 : codeL key n = c := a8
            have H9 := Lib.hid a9
            have hin : -t ≤ d → d ≤ t → s ≤ n := fun h1 h2 => (HAt.out (by omega) (by omega)).2
            clear a9 HAt HSt
            have HCn := Lib.hid (HC.out n (by omega) (by omega))
            rw [a8] at HCn
            clear a8
            go_wp2_with fail
            refine (HCn.out _ HT3.out).mono ?_
            rintro e w4 ⟨rfl, b4⟩
            have B4 := Lib.hid (B3.out.trans (b4.mono B3.out.size))
            have HT4 := Lib.hid (HT3.out.below b4)
            clear b4 B3 HT3 HCn HNt
            go_wp2_with fail
            all_goals
              go_loopw [11] (fun i wr => ∃ j : Int, n + 1 ≤ j ∧ j ≤ s + d + t + 1 ∧ i = .int .i64 j ∧ Below w.heap.size w wr) (fun i _ => (s + d + t + 1 - intOf i).toNat)
              case atStart => exact ⟨n + 1, by omega, by omega, rfl, B4.out⟩
              case round =>
                obtain ⟨j, hj0, hj1, rfl, hB5⟩ := hrel
                have HB5 := Lib.hid hB5
                have HT5 := Lib.hid (HT.out.below hB5)
                clear hB5
                by_cases hj : j ≤ s + d + t
                · have HCj := Lib.hid (HC.out j (by omega) (by omega))
                  have hne : (codeL key j == c) = false := by
                    have := H9.out j (by omega) hj
                    simpa using this
                  generalize codeL key j = cj at HCj hne
                  go_wp2_with fail
                  refine (HCj.out _ HT5.out).mono ?_
                  rintro e w5 ⟨rfl, b5⟩
                  have B5 := Lib.hid (HB5.out.trans (b5.mono HB5.out.size))
                  clear b5 HCj
                  go_wp2_with fail
                  go_roundw
                  case rel => exact ⟨j + 1, by omega, by omega, rfl, B5.out⟩
                  case measure => simp [intOf]; omega
                · go_wp2_with fail
                  go_roundw
                  case rel => exact ⟨t + 5, by omega, by omega, rfl, HB5.out⟩
                  case measure => simp [intOf]; omega
        · go_wp2_with fail
          go_ret
          exact ⟨rfl, HB.out⟩
end otpLives
end Go.Proofs.YteaanoaldnnflaaDoor
