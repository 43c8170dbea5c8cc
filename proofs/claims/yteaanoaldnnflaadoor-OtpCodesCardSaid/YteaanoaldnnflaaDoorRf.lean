/- The reference's Find. Condition: secrets of at most 2^47 bytes less 128. -/
import Derived.Test.YteaanoaldnnflaaDoorRc
import Derived.Test.YteaanoaldnnflaaDoorWw
set_option linter.unusedVariables false
set_option linter.unusedSimpArgs false
set_option maxRecDepth 100000
namespace Go.Proofs.YteaanoaldnnflaaDoor
open Go.RowKit Go.Sort

theorem findL_at {key code : List UInt8} {s d n : Int} (h0 : 0 ≤ s) (h1 : s ≤ 1099511627776) (h2 : 0 ≤ d) (h3 : d ≤ 10) (hn0 : 0 ≤ n) (hn1 : s - d ≤ n) (hn2 : n ≤ s + d) (hc : codeL key n = code) (hl : ∀ m, n < m → m ≤ s + d → codeL key m ≠ code) : findL key code s d = (n, true) := by
  obtain ⟨hs, hle⟩ := findL_has h0 h1 h2 h3 hn0 hn1 hn2 hc
  obtain ⟨_, _, _, _, _, _, a7, a8, _⟩ := findL_some hs
  have hg : ¬ n < (findL key code s d).1 := fun h => hl _ h a7 a8
  have e : (findL key code s d).1 = n := by omega
  rw [← e, ← hs]
theorem findL_no {key code : List UInt8} {s d : Int} (hl : ∀ m, s - d ≤ m → 0 ≤ m → m ≤ s + d → codeL key m ≠ code) : findL key code s d = (0, false) := by
  have hs : (findL key code s d).2 = false := by
    cases hb : (findL key code s d).2 with
    | false => rfl
    | true =>
      obtain ⟨_, _, _, _, a5, a6, a7, a8, _⟩ := findL_some hb
      exact absurd a8 (hl _ a5 a6 a7)
  rw [← hs, ← findL_none hs]

set_option maxHeartbeats 4000000 in
theorem find_ref (key code : List UInt8) (hk : key.length ≤ 140737488355200) (s d : Int) (w : World) :
    Calls Tryd.prog 12 #[.string ⟨key.toArray⟩, .string ⟨code.toArray⟩, .int .i64 s, .int .i64 d] w fun e w' => e = .returned (.tuple #[.int .i64 (findL key code s d).1, .bool (findL key code s d).2]) ∧ RowKit.Below w.heap.size w w' := by
  by_cases hr : s < 0 ∨ 1099511627776 < s ∨ d < 0 ∨ 10 < d
  · have hf : findL key code s d = (0, false) := by rw [findL, if_pos hr]
    rw [hf]
    clear hf hk
    have key2 : (decide (s < 0) || (decide (1099511627776 < s) || (decide (d < 0) || decide (10 < d)))) = true := by simpa using hr
    go_enter Tryd.func12, Tryd.ntmps12
    go_wp2_with fail
    all_goals
      go_ret2
      exact ⟨rfl, RowKit.Below.refl _ _⟩
  · have q0 : 0 ≤ s := by omega
    have q1 : s ≤ 1099511627776 := by omega
    have q2 : 0 ≤ d := by omega
    have q3 : d ≤ 10 := by omega
    have e1 : decide (s < 0) = false := by simpa using q0
    have e2 : decide (1099511627776 < s) = false := by simpa using q1
    have e3 : decide (d < 0) = false := by simpa using q2
    have e4 : decide (10 < d) = false := by simpa using q3
    have HC := Lib.hid (fun j (h0 : 0 ≤ j) (h1 : j ≤ 1099511627800) w => code_ref key hk j (by omega) (by omega) w)
    have HAT : Hid (∀ n : Int, 0 ≤ s → s ≤ 1099511627776 → 0 ≤ d → d ≤ 10 → 0 ≤ n → s - d ≤ n → n ≤ s + d → codeL key n = code → (∀ m, n < m → m ≤ s + d → codeL key m ≠ code) → findL key code s d = (n, true)) := Lib.hid (fun n => findL_at)
    have HNO := Lib.hid (@findL_no key code s d)
    clear hk hr
    go_enter Tryd.func12, Tryd.ntmps12
    go_wp2_with fail
    go_loopw [10] (fun i wr => ∃ n : Int, n ≤ s + d ∧ s - d - 1 ≤ n ∧ -1 ≤ n ∧ i = .int .i64 n ∧ (∀ m, n < m → m ≤ s + d → codeL key m ≠ code) ∧ RowKit.Below w.heap.size w wr) (fun i _ => (intOf i + 2).toNat)
    case atStart => exact ⟨s + d, by omega, by omega, by omega, rfl, fun m h1 h2 => by omega, RowKit.Below.refl _ _⟩
    case round =>
      obtain ⟨n, hn, hn1, hn2, rfl, hl, hb⟩ := hrel
      have HL := Lib.hid hl
      have HB := Lib.hid hb
      clear hl hb
      by_cases h1 : s - d ≤ n
      · by_cases h2 : 0 ≤ n
        · have HCn := Lib.hid (HC.out n h2 (by omega))
          by_cases hc : codeL key n = code
          · have hf := HAT.out n q0 q1 q2 q3 h2 h1 hn hc (fun m a b => HL.out m a b)
            have HF := Lib.hid hf
            rw [hc] at HCn
            clear hf hc
            go_wp2_with fail
            refine (HCn.out _).mono ?_
            rintro e w3 ⟨rfl, b3⟩
            have B3 := Lib.hid (HB.out.trans (b3.mono HB.out.size))
            clear b3 HCn
            go_wp2_with fail
            go_ret2
            exact ⟨by rw [HF.out]; rfl, B3.out⟩
          · have hne : (codeL key n == code) = false := by simpa using hc
            have HNE := Lib.hid hc
            clear hc
            have HL2 : Hid (∀ m, n - 1 < m → m ≤ s + d → codeL key m ≠ code) := Lib.hid (fun m a b => by
              by_cases e : m = n
              · subst e; exact HNE.out
              · exact HL.out m (by omega) b)
            generalize codeL key n = cn at HCn hne
            go_wp2_with fail
            refine (HCn.out _).mono ?_
            rintro e w3 ⟨rfl, b3⟩
            have B3 := Lib.hid (HB.out.trans (b3.mono HB.out.size))
            clear b3 HCn
            go_wp2_with fail
            go_roundw
            case rel => exact ⟨n - 1, by omega, by omega, by omega, rfl, HL2.out, B3.out⟩
            case measure => simp [intOf]; omega
        · have HF := Lib.hid (HNO.out (fun m a b c => HL.out m (by omega) c))
          go_wp2_with fail
          go_ret2
          exact ⟨by rw [HF.out]; rfl, HB.out⟩
      · have HF := Lib.hid (HNO.out (fun m a b c => HL.out m (by omega) c))
        go_wp2_with fail
        go_ret2
        exact ⟨by rw [HF.out]; rfl, HB.out⟩

namespace otpCodes
set_option maxHeartbeats 4000000 in
theorem walk (key : List UInt8) (s : Int) (w : World) (hk : key.length ≤ 140737488355200) (hs0 : -9223372036854775808 ≤ s) (hs1 : s ≤ 9223372036854775807) (hT : Tb w) :
    Calls Tryd.prog 3 #[.string ⟨key.toArray⟩, .int .i64 s] w fun e w' => e = .returned (.bool true) ∧ RowKit.Below w.heap.size w w' := by
  have H1 := Lib.hid (fun w h => code_any key (Nat.le_trans hk (by decide)) s hs0 hs1 w h)
  have H2 := Lib.hid (fun w => code_ref key hk s hs0 hs1 w)
  have HT := Lib.hid hT
  clear hk hT
  go_enter Tryd.func3, Tryd.ntmps3
  go_wp2_with fail
  refine (awake_any _ HT.out).mono ?_
  rintro e w1 ⟨rfl, b1⟩
  have B1 := Lib.hid b1
  have HT1 := Lib.hid (HT.out.below b1)
  clear b1
  go_wp2_with fail
  refine (H1.out _ HT1.out).mono ?_
  rintro e w2 ⟨rfl, b2⟩
  have B2 := Lib.hid (B1.out.trans (b2.mono B1.out.size))
  clear b2 B1 H1 HT1
  go_wp2_with fail
  refine (H2.out _).mono ?_
  rintro e w3 ⟨rfl, b3⟩
  have B3 := Lib.hid (B2.out.trans (b3.mono B2.out.size))
  clear b3 B2 H2
  go_wp2_with fail
  go_ret
  exact ⟨rfl, B3.out⟩
end otpCodes

namespace otpFinds
set_option maxHeartbeats 4000000 in
theorem walk (key code : List UInt8) (x y : Int) (w : World) (hk : key.length ≤ 140737488355200) (hc : code.length ≤ 140737488355328) (hx0 : -9223372036854775808 ≤ x) (hx1 : x ≤ 9223372036854775807) (hy0 : -9223372036854775808 ≤ y) (hy1 : y ≤ 9223372036854775807) (hT : Tb w) :
    Calls Tryd.prog 4 #[.string ⟨key.toArray⟩, .string ⟨code.toArray⟩, .agg #[.int .i64 x, .int .i64 y]] w fun e w' => e = .returned (.bool true) ∧ RowKit.Below w.heap.size w w' := by
  have H1 := Lib.hid (fun w h => find_any key code (Nat.le_trans hk (by decide)) hc x y w h)
  have H2 := Lib.hid (fun w => find_ref key code hk x y w)
  obtain ⟨n, b, hf⟩ : ∃ n b, findL key code x y = (n, b) := ⟨_, _, rfl⟩
  rw [hf] at H1 H2
  clear hf
  obtain ⟨w0, hw0⟩ : ∃ w0, w.alloc (.cells #[.int .i64 x, .int .i64 y] 26) = w0 := ⟨_, rfl⟩
  have hb0 : RowKit.Below w.heap.size w w0 := by rw [← hw0]; exact (RowKit.Below.refl _ _).alloc (Nat.le_refl _) _
  have hh0 : w0.heap[w.heap.size]? = some (.cells #[.int .i64 x, .int .i64 y] 26 (0, 0)) := by rw [← hw0]; exact Go.heap_alloc_new w _
  have hz0 : w.heap.size < w0.heap.size := by rw [← hw0]; simp
  have HT := Lib.hid (hT.below hb0)
  have HW0 := Lib.hid hw0
  have HB0 := Lib.hid hb0
  have HH0 := Lib.hid hh0
  clear hw0 hb0 hh0 hT hk hc
  go_enter Tryd.func4, Tryd.ntmps4
  go_wp2_with fail
  rw [HW0.out]
  refine (H1.out _ HT.out).mono ?_
  rintro e w1 ⟨rfl, b1⟩
  have HH1 := Lib.hid ((b1.block _ hz0).trans HH0.out)
  have c0 := (blk_cell HH1.out 0)
  have c1 := (blk_cell HH1.out 1)
  have B1 := Lib.hid (HB0.out.trans (b1.mono HB0.out.size))
  have HT1 := Lib.hid (HT.out.below b1)
  clear b1 H1 HH0 HB0 HW0 hz0
  go_wp2_with fail
  refine (H2.out _).mono ?_
  rintro e w2 ⟨rfl, b2⟩
  have B2 := Lib.hid (B1.out.trans (b2.mono B1.out.size))
  have HT2 := Lib.hid (HT1.out.below b2)
  clear b2 B1 HT1 HH1 H2
  go_wp2_with fail
  refine (awake_any _ HT2.out).mono ?_
  rintro e w3 ⟨rfl, b3⟩
  have B3 := Lib.hid (B2.out.trans (b3.mono B2.out.size))
  clear b3 B2 HT2
  cases b
  all_goals
    go_wp2_with fail
    go_ret
    exact ⟨rfl, B3.out⟩
end otpFinds
end Go.Proofs.YteaanoaldnnflaaDoor
