/- OtpForms: the walk. Condition: at most 2^47 bytes each; the library's table. -/
import Derived.Test.YteaanoaldnnflaaDoorWw
set_option linter.unusedVariables false
set_option linter.unusedSimpArgs false
namespace Go.Proofs.YteaanoaldnnflaaDoor
open Go.RowKit Go.Sort

theorem codeL_digit (key : List UInt8) (s : Int) (i : Nat) (h : i < (codeL key s).length) : 48 ≤ ((codeL key s)[i]).toNat ∧ ((codeL key s)[i]).toNat ≤ 57 := digs_digit _ _ (List.getElem_mem h)
/-- six bytes, the first k of them digits -/
def dgs (c : List UInt8) (k : Nat) : Bool := decide (c.length = 6 ∧ ∀ j, j < k → 48 ≤ (c.getD j 0).toNat ∧ (c.getD j 0).toNat ≤ 57)
theorem dgs_0 (c : List UInt8) : dgs c 0 = decide (c.length = 6) := by simp [dgs]
theorem dgs_f (c : List UInt8) (k : Nat) (h : dgs c k = false) : dgs c (k + 1) = false := by
  simp only [dgs, decide_eq_false_iff_not] at h ⊢
  rintro ⟨h1, h2⟩
  exact h ⟨h1, fun j hj => h2 j (by omega)⟩
theorem dgs_s (c : List UInt8) (k : Nat) (h : dgs c k = true) : dgs c (k + 1) = (decide (48 ≤ (c.getD k 0).toNat) && decide ((c.getD k 0).toNat ≤ 57)) := by
  rw [← Bool.decide_and, dgs, decide_eq_decide]
  simp only [dgs, decide_eq_true_eq] at h
  constructor
  · rintro ⟨_, h2⟩; exact h2 k (by omega)
  · intro h3
    refine ⟨h.1, fun j hj => ?_⟩
    by_cases e : j = k
    · subst e; exact h3
    · exact h.2 j (by omega)
theorem dgs_len (c : List UInt8) (k : Nat) (h : dgs c k = true) : c.length = 6 := by
  simp only [dgs, decide_eq_true_eq] at h
  exact h.1
theorem dgs_code (key : List UInt8) (s : Int) : dgs (codeL key s) 6 = true := by
  simp only [dgs, decide_eq_true_eq]
  refine ⟨codeL_length _ _, fun j hj => ?_⟩
  have hl : j < (codeL key s).length := by rw [codeL_length]; exact hj
  have := codeL_digit key s j hl
  simpa [List.getD, hl] using this

namespace otpForms
set_option maxHeartbeats 4000000 in
set_option maxRecDepth 100000 in
theorem walk (key code : List UInt8) (x y : Int) (w : World) (hk : key.length ≤ 140737488355328) (hc : code.length ≤ 140737488355328) (hx0 : -9223372036854775808 ≤ x) (hx1 : x ≤ 9223372036854775807) (hT : Tb w) :
    Calls Tryd.prog 6 #[.string ⟨key.toArray⟩, .string ⟨code.toArray⟩, .agg #[.int .i64 x, .int .i64 y]] w fun e w' => e = .returned (.bool true) ∧ Below w.heap.size w w' := by
  have H1 := Lib.hid (fun w h => code_any key (Nat.le_trans hk (by decide)) x hx0 hx1 w h)
  have H2 := Lib.hid (fun w h => find_any key code hk hc x y w h)
  have HCL := Lib.hid (codeL_length key x)
  have HCD := Lib.hid (codeL_digit key x)
  have HS := Lib.hid (fun h => show dgs code 6 = true by
    have := (findL_some (key := key) (code := code) (s := x) (d := y) h).2.2.2.2.2.2.2.1
    rw [← this]; exact dgs_code _ _)
  have HN := Lib.hid (@findL_none key code x y)
  obtain ⟨n, b, hf⟩ : ∃ n b, findL key code x y = (n, b) := ⟨_, _, rfl⟩
  rw [hf] at H2 HS HN
  clear hf
  have hsc := size_ba (codeL key x)
  rw [codeL_length] at hsc
  have hss := size_ba code
  generalize codeL key x = c at H1 HCL HCD hsc
  obtain ⟨w0, hw0⟩ : ∃ w0, w.alloc (.cells #[.int .i64 x, .int .i64 y] 26) = w0 := ⟨_, rfl⟩
  have hb0 : Below w.heap.size w w0 := by rw [← hw0]; exact (Below.refl _ _).alloc (Nat.le_refl _) _
  have hh0 : w0.heap[w.heap.size]? = some (.cells #[.int .i64 x, .int .i64 y] 26 (0, 0)) := by rw [← hw0]; exact Go.heap_alloc_new w _
  have hz0 : w.heap.size < w0.heap.size := by rw [← hw0]; simp
  have HT := Lib.hid (hT.below hb0)
  have HW0 := Lib.hid hw0
  have HB0 := Lib.hid hb0
  have HH0 := Lib.hid hh0
  clear hw0 hb0 hh0 hT hk
  go_enter Tryd.func6, Tryd.ntmps6
  go_wp2_with fail
  rw [HW0.out]
  refine (H1.out _ HT.out).mono ?_
  rintro e w1 ⟨rfl, b1⟩
  have HH1 := Lib.hid ((b1.block _ hz0).trans HH0.out)
  have B1 := Lib.hid (HB0.out.trans (b1.mono HB0.out.size))
  have HT1 := Lib.hid (HT.out.below b1)
  have hz1 : w.heap.size < w1.heap.size := Nat.lt_of_lt_of_le hz0 b1.size
  clear b1 H1 HH0 HB0 HW0 hz0
  go_wp2_with fail
  refine (awake_any _ HT1.out).mono ?_
  rintro e w2 ⟨rfl, b2⟩
  have c0 := (blk_cell ((b2.block _ hz1).trans HH1.out) 0)
  have c1 := (blk_cell ((b2.block _ hz1).trans HH1.out) 1)
  have B2 := Lib.hid (B1.out.trans (b2.mono B1.out.size))
  have HT2 := Lib.hid (HT1.out.below b2)
  clear b2 B1 HT1 HH1 hz1
  have hd0 := dgs_0 code
  have hd1 : ((code.length : Int) == 6) = dgs code 0 := by
    rw [hd0, Bool.eq_iff_iff]; simp; omega
  clear hd0
  go_wp2_with fail
  go_loop [8, 9] (fun d i => ∃ k : Nat, k ≤ 6 ∧ d = .bool (dgs code k) ∧ i = .int .i64 k) (fun _ i => 6 - (intOf i).toNat)
  case atStart => exact ⟨0, by omega, rfl, rfl⟩
  case round =>
    obtain ⟨k, hk, rfl, rfl⟩ := hrel
    by_cases hlt : k < 6
    · have hkc : k < c.length := by rw [HCL.out]; exact hlt
      have hlo := HCD.out k hkc
      have h8 : (48 : Int) ≤ (((⟨c.toArray⟩ : ByteArray)[k]'(by rw [hsc]; exact hlt)).toNat : Int) := by
        show (48 : Int) ≤ ((c[k]).toNat : Int)
        omega
      have h9 : (((⟨c.toArray⟩ : ByteArray)[k]'(by rw [hsc]; exact hlt)).toNat : Int) ≤ 57 := by
        show ((c[k]).toNat : Int) ≤ 57
        omega
      clear hlo
      cases hdk : dgs code k with
      | false =>
        have HF := Lib.hid (dgs_f code k hdk)
        clear hdk
        go_wp2_with fail
        go_round
        case rel => exact ⟨k + 1, by omega, by rw [HF.out], by go_num⟩
        case measure => simp [intOf]; omega
      | true =>
        have h6 := dgs_len code k hdk
        have HD := Lib.hid (dgs_s code k hdk)
        have hkd : k < code.length := by rw [h6]; exact hlt
        have e : (code.getD k 0) = code[k] := by simp [List.getD, hkd]
        rw [e] at HD
        clear hdk e
        by_cases hl : 48 ≤ (code[k]).toNat
        · have hl' : (48 : Int) ≤ (((⟨code.toArray⟩ : ByteArray)[k]'(by rw [hss]; exact hkd)).toNat : Int) := by
            show (48 : Int) ≤ ((code[k]).toNat : Int)
            omega
          have hd : decide ((((⟨code.toArray⟩ : ByteArray)[k]'(by rw [hss]; exact hkd)).toNat : Int) ≤ 57) = dgs code (k + 1) := by
            rw [HD.out, decide_eq_true hl, Bool.true_and, decide_eq_decide]
            show ((code[k]).toNat : Int) ≤ 57 ↔ _
            omega
          have HD2 := Lib.hid hd
          clear hd hl
          go_wp2_with fail
          go_round
          case rel => exact ⟨_, .bool (dgs code (k + 1)), .int .i64 ((k + 1 : Nat) : Int), ⟨k + 1, by omega, rfl, rfl⟩, rfl, by rw [HD2.out], by go_num⟩
          case measure => simp [intOf]; omega
        · have hl' : (((⟨code.toArray⟩ : ByteArray)[k]'(by rw [hss]; exact hkd)).toNat : Int) < 48 := by
            show ((code[k]).toNat : Int) < 48
            omega
          have HD2 : Hid (dgs code (k + 1) = false) := Lib.hid (by rw [HD.out, decide_eq_false hl, Bool.false_and])
          clear hl
          go_wp2_with fail
          go_round
          case rel => exact ⟨_, .bool (dgs code (k + 1)), .int .i64 ((k + 1 : Nat) : Int), ⟨k + 1, by omega, rfl, rfl⟩, rfl, by rw [HD2.out], by go_num⟩
          case measure => simp [intOf]; omega
    · obtain rfl : k = 6 := by omega
      cases hdk : dgs code 6 with
      | true =>
        clear hdk HS
        go_wp2_with fail
        refine (H2.out _ HT2.out).mono ?_
        rintro e w3 ⟨rfl, b3⟩
        have B3 := Lib.hid (B2.out.trans (b3.mono B2.out.size))
        clear b3
        cases b with
        | true =>
          go_wp2_with fail
          go_ret
          exact ⟨rfl, B3.out⟩
        | false =>
          obtain rfl : n = 0 := HN.out rfl
          go_wp2_with fail
          go_ret
          exact ⟨rfl, B3.out⟩
      | false =>
        cases b with
        | true => rw [HS.out rfl] at hdk; cases hdk
        | false =>
          obtain rfl : n = 0 := HN.out rfl
          clear hdk HS
          go_wp2_with fail
          refine (H2.out _ HT2.out).mono ?_
          rintro e w3 ⟨rfl, b3⟩
          have B3 := Lib.hid (B2.out.trans (b3.mono B2.out.size))
          clear b3
          go_wp2_with fail
          go_ret
          exact ⟨rfl, B3.out⟩
end otpForms
end Go.Proofs.YteaanoaldnnflaaDoor
