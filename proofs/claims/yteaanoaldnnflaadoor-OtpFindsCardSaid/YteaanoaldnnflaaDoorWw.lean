/- OtpWider: the walk. Condition: at most 2^47 bytes each; the library's table. -/
import Derived.Test.YteaanoaldnnflaaDoorOh
set_option linter.unusedVariables false
set_option linter.unusedSimpArgs false
namespace Go.Proofs.YteaanoaldnnflaaDoor
open Go.RowKit Go.Sort

theorem mem_downL {last first n : Int} : n ∈ downL last first ↔ first ≤ n ∧ n ≤ last := by
  unfold downL
  rw [List.mem_map]
  constructor
  · rintro ⟨k, hk, rfl⟩
    rw [List.mem_range] at hk
    omega
  · rintro ⟨h1, h2⟩
    exact ⟨(last - n).toNat, by rw [List.mem_range]; omega, by omega⟩
/-- what is found is in the window, has the code, and none later has it -/
theorem findL_some {key code : List UInt8} {s d : Int} (h : (findL key code s d).2 = true) :
    0 ≤ s ∧ s ≤ 1099511627776 ∧ 0 ≤ d ∧ d ≤ 10 ∧ s - d ≤ (findL key code s d).1 ∧ 0 ≤ (findL key code s d).1 ∧ (findL key code s d).1 ≤ s + d ∧ codeL key (findL key code s d).1 = code ∧
      ∀ n, (findL key code s d).1 < n → n ≤ s + d → codeL key n ≠ code := by
  by_cases hr : s < 0 ∨ 1099511627776 < s ∨ d < 0 ∨ 10 < d
  · rw [findL, if_pos hr] at h; cases h
  · rw [findL, if_neg hr] at h ⊢
    cases hf : (downL (s + d) (max (s - d) 0)).find? (fun n => decide (codeL key n = code)) with
    | none => rw [hf] at h; cases h
    | some m =>
      have hm := List.mem_of_find?_eq_some hf
      rw [mem_downL] at hm
      have hc := List.find?_some hf
      simp only [decide_eq_true_eq] at hc
      refine ⟨by omega, by omega, by omega, by omega, by show s - d ≤ m; omega, by show 0 ≤ m; omega, hm.2, hc, ?_⟩
      intro n h1 h2 hcn
      have h1 : m < n := h1
      rw [List.find?_eq_some_iff_getElem] at hf
      obtain ⟨_, i, hi, hmi, hb⟩ := hf
      rw [show (downL (s + d) (max (s - d) 0)).length = (s + d - max (s - d) 0 + 1).toNat from by simp [downL]] at hi
      have hmi' : s + d - (i : Int) = m := by simpa [downL] using hmi
      have := hb (s + d - n).toNat (by omega)
      simp only [downL, List.getElem_map, List.getElem_range] at this
      rw [show s + d - (((s + d - n).toNat : Nat) : Int) = n from by omega] at this
      simp [hcn] at this
theorem findL_none {key code : List UInt8} {s d : Int} (h : (findL key code s d).2 = false) : (findL key code s d).1 = 0 := by
  by_cases hr : s < 0 ∨ 1099511627776 < s ∨ d < 0 ∨ 10 < d
  · rw [findL, if_pos hr]
  · rw [findL, if_neg hr] at h ⊢
    cases hf : (downL (s + d) (max (s - d) 0)).find? (fun n => decide (codeL key n = code)) with
    | none => rfl
    | some m => rw [hf] at h; cases h
/-- a step of the window that has the code: some step is found, and none earlier -/
theorem findL_has {key code : List UInt8} {s d n : Int} (h0 : 0 ≤ s) (h1 : s ≤ 1099511627776) (h2 : 0 ≤ d) (h3 : d ≤ 10) (hn0 : 0 ≤ n) (hn1 : s - d ≤ n) (hn2 : n ≤ s + d) (hc : codeL key n = code) :
    (findL key code s d).2 = true ∧ n ≤ (findL key code s d).1 := by
  have hs : (findL key code s d).2 = true := by
    rw [findL, if_neg (by omega)]
    cases hf : (downL (s + d) (max (s - d) 0)).find? (fun n => decide (codeL key n = code)) with
    | none =>
      rw [List.find?_eq_none] at hf
      have := hf n (by rw [mem_downL]; omega)
      simp [hc] at this
    | some m => rfl
  refine ⟨hs, ?_⟩
  obtain ⟨_, _, _, _, _, _, _, _, hl⟩ := findL_some hs
  rcases Int.lt_or_le (findL key code s d).1 n with h | h
  · exact absurd hc (hl n h hn2)
  · exact h
theorem findL_wider {key code : List UInt8} {s d : Int} (h : (findL key code s d).2 = true) (hd : d < 10) :
    (findL key code s (d + 1)).2 = true ∧ (findL key code s d).1 ≤ (findL key code s (d + 1)).1 := by
  obtain ⟨a1, a2, a3, a4, a5, a6, a7, a8, _⟩ := findL_some h
  exact findL_has a1 a2 (by omega) (by omega) a6 (by omega) (by omega) a8

namespace otpWider
set_option maxHeartbeats 4000000 in
set_option maxRecDepth 100000 in
theorem walk (key code : List UInt8) (x y : Int) (w : World) (hk : key.length ≤ 140737488355328) (hc : code.length ≤ 140737488355328) (hx0 : -9223372036854775808 ≤ x) (hx1 : x ≤ 9223372036854775807) (hy0 : -9223372036854775808 ≤ y) (hy1 : y ≤ 9223372036854775807) (hT : Tb w) :
    Calls Tryd.prog 7 #[.string ⟨key.toArray⟩, .string ⟨code.toArray⟩, .agg #[.int .i64 x, .int .i64 y]] w fun e w' => e = .returned (.bool true) ∧ Below w.heap.size w w' := by
  have H1 := Lib.hid (fun w h => find_any key code hk hc x y w h)
  have H2 := Lib.hid (fun w h => find_any key code hk hc x (y + 1) w h)
  have HW := Lib.hid (@findL_wider key code x y)
  have HS := Lib.hid (@findL_some key code x y)
  obtain ⟨n, b, hf⟩ : ∃ n b, findL key code x y = (n, b) := ⟨_, _, rfl⟩
  rw [hf] at H1 HW HS
  obtain ⟨m, c, hg⟩ : ∃ m c, findL key code x (y + 1) = (m, c) := ⟨_, _, rfl⟩
  rw [hg] at H2 HW
  clear hf hg
  obtain ⟨w0, hw0⟩ : ∃ w0, w.alloc (.cells #[.int .i64 x, .int .i64 y] 26) = w0 := ⟨_, rfl⟩
  have hb0 : Below w.heap.size w w0 := by rw [← hw0]; exact (Below.refl _ _).alloc (Nat.le_refl _) _
  have hh0 : w0.heap[w.heap.size]? = some (.cells #[.int .i64 x, .int .i64 y] 26 (0, 0)) := by rw [← hw0]; exact Go.heap_alloc_new w _
  have hz0 : w.heap.size < w0.heap.size := by rw [← hw0]; simp
  have HT := Lib.hid (hT.below hb0)
  have HW0 := Lib.hid hw0
  have HB0 := Lib.hid hb0
  have HH0 := Lib.hid hh0
  clear hw0 hb0 hh0 hT hk hc
  go_enter Tryd.func7, Tryd.ntmps7
  go_wp2_with fail
  rw [HW0.out]
  refine (H1.out _ HT.out).mono ?_
  rintro e w1 ⟨rfl, b1⟩
  have HH1 := Lib.hid ((b1.block _ hz0).trans HH0.out)
  have B1 := Lib.hid (HB0.out.trans (b1.mono HB0.out.size))
  have HT1 := Lib.hid (HT.out.below b1)
  have hz1 : w.heap.size < w1.heap.size := Nat.lt_of_lt_of_le hz0 b1.size
  clear b1 H1 HH0 HB0 HW0 hz0
  go_wp2_with fail
  refine (awake_any _ HT1.out).mono ?_
  rintro e w2 ⟨rfl, b2⟩
  have c0 := (blk_cell ((b2.block _ hz1).trans HH1.out) 0)
  have c1 := (blk_cell ((b2.block _ hz1).trans HH1.out) 1)
  have B2 := Lib.hid (B1.out.trans (b2.mono B1.out.size))
  have HT2 := Lib.hid (HT1.out.below b2)
  clear b2 B1 HT1 HH1 hz1
  cases b with
  | false =>
    go_wp2_with fail
    go_ret
    exact ⟨rfl, B2.out⟩
  | true =>
    have hs := HS.out rfl
    have hy10 : y ≤ 10 := hs.2.2.2.1
    by_cases hy : y < 10
    · have hw := HW.out rfl hy
      obtain ⟨rfl, hnm⟩ := hw
      have hnm : n ≤ m := hnm
      have hd : decide (10 ≤ y) = false := by simpa using hy
      clear hs HS HW
      go_wp2_with fail
      refine (H2.out _ HT2.out).mono ?_
      rintro e w3 ⟨rfl, b3⟩
      have B3 := Lib.hid (B2.out.trans (b3.mono B2.out.size))
      clear b3 B2 H2
      go_wp2_with fail
      go_ret
      exact ⟨rfl, B3.out⟩
    · have hd : decide (10 ≤ y) = true := by simpa using hy
      clear hs HS HW
      go_wp2_with fail
      go_ret
      exact ⟨rfl, B2.out⟩
end otpWider
end Go.Proofs.YteaanoaldnnflaaDoor
