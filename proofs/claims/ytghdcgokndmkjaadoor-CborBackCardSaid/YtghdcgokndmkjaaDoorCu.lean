/- CborCuts: the walk. Condition: the library's tables. -/
import Derived.Test.YtghdcgokndmkjaaDoorFi
import Derived.Test.YtghdcgokndmkjaaDoorPb
set_option linter.unusedVariables false
set_option linter.unusedSimpArgs false
namespace Go.Proofs.YtghdcgokndmkjaaDoor
open Go.RowKit Go.Sort
theorem deep_less : ∀ {d : Nat} {t : It}, DeepOk (d + 1) t → DeepOk d t
  | 0, t, h => h.1
  | d + 1, t, h => ⟨h.1, fun x hx => deep_less (h.2 x hx)⟩
theorem deep_16 {D : Nat} {B : Nat → Prop} {w : World} {A : Option Addr} {t : It} (hz : Sz t) (hr : RdL D B w A t.list) : DeepOk 16 t := by
  have h : DeepOk (16 + D) t := deep_ok hz (hr.deep (by omega))
  clear hr
  induction D with
  | zero => exact h
  | succ D ih => exact ih (deep_less h)
theorem encR_ok {t : It} (h : (encR Lib.validD t).2 = 0) : chk Lib.validD 16 t = 0 ∧ (encR Lib.validD t).1 = enc 16 t ∧ (enc 16 t).length ≤ 4096 := by
  unfold encR at h ⊢
  by_cases h1 : chk Lib.validD 16 t = 0
  · rw [if_pos h1] at h ⊢
    by_cases h2 : (enc 16 t).length ≤ 4096
    · rw [if_pos h2]; exact ⟨h1, rfl, h2⟩
    · rw [if_neg h2] at h; simp at h
  · rw [if_neg h1] at h; exact absurd h h1
theorem cut_dec {D : Nat} {B : Nat → Prop} {w : World} {A : Option Addr} {t : It} (hz : Sz t) (hr : RdL D B w A t.list) (h : (encR Lib.validD t).2 = 0) (n : Nat) (hn : n < (encR Lib.validD t).1.length) : decR Lib.validD ((encR Lib.validD t).1.take n) = (It.none, 0, 30) := by
  obtain ⟨h1, h2, h3⟩ := encR_ok h
  rw [h2] at hn ⊢
  have hc := dec_cut Lib.validD 16 t ((enc 16 t).take n) ((enc 16 t).drop n) (by simp; omega) (deep_16 hz hr) h1 (List.take_append_drop _ _).symm
  unfold decR
  rw [if_neg (by simp; omega), hc]
  rfl
namespace cborCuts
set_option maxHeartbeats 4000000 in
set_option maxRecDepth 100000 in
theorem walk (D : Nat) (t : It) (A : Option Addr) (c : Nat) (n : Int) (w : World) (hc : c ≤ 9223372036854775807) (hz : Sz t) (hr : RdL (D + 1) (fun _ => True) w A t.list) (hT : Tb w) (hn : -9223372036854775808 ≤ n ∧ n ≤ 9223372036854775807) :
    Calls Tryd.prog 6 #[itV t A c, .int .i64 n] w fun e w' => e = .returned (.bool true) ∧ Below w.heap.size w w' := by
  have hb0 : Below w.heap.size w (w.alloc (.cells #[.int .i64 t.kind, .int .i64 t.num, .string ⟨t.text.toArray⟩, .slice A t.list.length c] 24)) := (Below.refl _ _).alloc (Nat.le_refl _) _
  have HE := Lib.hid (Encode_any D (fun _ => True) t A c (w.alloc (.cells #[.int .i64 t.kind, .int .i64 t.num, .string ⟨t.text.toArray⟩, .slice A t.list.length c] 24)) hz (hr.below hb0) (hT.below hb0))
  have HCut := Lib.hid (fun h n hn => cut_dec hz hr h n hn)
  have HT := Lib.hid (hT.below hb0)
  have HB := Lib.hid hb0
  have HLen : Hid ((encR Lib.validD t).1.length ≤ 4096) := Lib.hid (by
    unfold encR; split
    · split
      · assumption
      · simp
    · simp)
  generalize encR Lib.validD t = R at HE HCut HLen
  obtain ⟨E, er⟩ := R
  simp only at HE HCut HLen
  clear hb0 hr hT
  unfold itV at HE ⊢
  go_enter Tryd.func6, Tryd.ntmps6
  go_wp2_with fail
  refine HE.out.mono ?_
  rintro e w1 ⟨rfl, b1⟩
  have HB1 := Lib.hid (HB.out.trans (b1.mono HB.out.size))
  have HT1 := Lib.hid (HT.out.below b1)
  clear b1 HE HB HT
  go_wp2_with fail
  refine (awake_any _ HT1.out).mono ?_
  rintro e w2 ⟨rfl, b2⟩
  have HB2 := Lib.hid (HB1.out.trans (b2.mono HB1.out.size))
  have HT2 := Lib.hid (HT1.out.below b2)
  clear b2 HB1 HT1
  have hlen : (⟨E.toArray⟩ : ByteArray).size = E.length := by simp [ByteArray.size]
  by_cases h1 : er = 0
  rotate_left
  · have h1' : (er != 0) = true := by simp [h1]
    clear h1
    go_wp2_with fail
    go_ret
    exact ⟨rfl, HB2.out⟩
  subst h1
  by_cases h2 : n < 0
  · go_wp2_with fail
    go_ret
    exact ⟨rfl, HB2.out⟩
  by_cases h3 : (E.length : Int) ≤ n
  · go_wp2_with fail
    go_ret
    exact ⟨rfl, HB2.out⟩
  obtain ⟨m, rfl⟩ : ∃ m : Nat, n = m := ⟨n.toNat, by omega⟩
  have hm : m < E.length := by omega
  have hex : (⟨E.toArray⟩ : ByteArray).extract 0 m = ⟨(E.take m).toArray⟩ := by
    have := ext_ba E 0 m
    simpa using this
  have hmc : (m : Int) ≤ (E.length : Int) := by omega
  have HD := Lib.hid (Decode_any (E.take m) w2 (by have := HLen.out; simp; omega) HT2.out)
  have HDR := Lib.hid (HCut.out rfl m hm)
  rw [HDR.out] at HD
  have HD : Hid (Calls Tryd.prog 7 #[.string ⟨(E.take m).toArray⟩] w2 fun e w3 => (∃ A3 c3, c3 ≤ 9223372036854775807 ∧ e = .returned (.tuple #[.agg #[.int .i64 0, .int .i64 0, .string ⟨#[]⟩, .slice A3 0 c3], .int .i64 0, .int .i64 30])) ∧ Below w2.heap.size w2 w3) := Lib.hid (HD.out.mono fun e w3 ⟨⟨A3, c3, q1, q2, _⟩, q3⟩ => ⟨⟨A3, c3, q1, q2⟩, q3⟩)
  clear HCut HDR
  go_wp2_with fail
  refine HD.out.mono ?_
  rintro e w3 ⟨⟨A3, c3, hc3, rfl⟩, b3⟩
  have hb4 : Below w3.heap.size w3 (w3.alloc (.cells #[.int .i64 0, .int .i64 0, .string ⟨#[]⟩, .slice A3 0 c3] 24)) := (Below.refl _ _).alloc (Nat.le_refl _) _
  have HB4 := Lib.hid (HB2.out.trans ((b3.trans (hb4.mono b3.size)).mono HB2.out.size))
  have hx := cellOf (Go.heap_alloc_new w3 (.cells #[.int .i64 0, .int .i64 0, .string ⟨#[]⟩, .slice A3 0 c3] 24))
  have x0 := hx 0
  have x1 := hx 1
  have x2 := hx 2
  have x3 := hx 3
  simp only [List.getElem?_toArray, List.getElem?_cons_zero, List.getElem?_cons_succ] at x0 x1 x2 x3
  clear hx b3 hb4
  go_wp2_with fail
  refine (same_any 0 (fun _ => True) It.none A3 none c3 0 _ hc3 (by decide) (RdL.nil _ _ _ _) (RdL.nil _ _ _ _)).mono ?_
  rintro e w5 ⟨rfl, b5⟩
  have HB5 := Lib.hid (HB4.out.trans (b5.mono HB4.out.size))
  clear b5 HB4 x0 x1 x2 x3
  go_wp2_with fail
  go_ret
  exact ⟨rfl, HB5.out⟩
end cborCuts
end Go.Proofs.YtghdcgokndmkjaaDoor
