/- Odd numbers, and differences modulo a number (the reference's odd, less and halved). Conditions: at most 10^5 digits; the difference is not below nought. -/
import Derived.Test.YtglmmodkflkkkaaFh
set_option linter.unusedVariables false
set_option linter.unusedSimpArgs false
set_option maxRecDepth 100000
namespace Go.Proofs.Ytglmmodkflkkkaa.Ref
open Go.RowKit Go.Proofs.Ytglmmodkflkkkaa.Digits

set_option maxHeartbeats 4000000 in
theorem odd_any (a : List Nat) (ha : Dig a) (v : Value) (w : World) (h : Dr w v a) :
    Calls Try.prog 62 #[v] w fun e w' => e = .returned (.bool (decide (val a % 2 = 1))) ∧ Sm w w' := by
  obtain ⟨g, cap, rfl, hc, hcm, hg, hca⟩ := h
  rcases a with _ | ⟨x, a⟩
  · clear hca
    go_enter Try.func62, Try.ntmps62
    go_wp2_with fail
    go_ret
    exact ⟨by simp [val], Sm.refl _⟩
  · have h0 := hca 0 (by simp)
    have hx := ha x (by simp)
    have hv : val (x :: a) % 2 = x % 2 := by rw [val]; omega
    rw [hv]
    simp only [List.getElem_cons_zero] at h0
    rw [List.length_cons] at hc ⊢
    obtain ⟨n, hn⟩ : ∃ n, n = a.length := ⟨_, rfl⟩
    rw [← hn] at hc ⊢
    clear hca ha hv hn
    go_enter Try.func62, Try.ntmps62
    go_wp2_with fail
    go_ret
    refine ⟨?_, Sm.refl _⟩
    have e : (((x : Nat) : Int) % 2 == 1) = decide (x % 2 = 1) := by
      rw [Bool.eq_iff_iff, beq_iff_eq, decide_eq_true_eq]; omega
    rw [← e]
    rfl

theorem Sm.below0 {w w' : World} (h : Sm w w') : Below w.heap.size w w' := h.below (Below.refl w.heap.size w)
theorem Nr.from {w w1 w2 : World} {v : Value} {n : Nat} (hb : Below w.heap.size w w1) (h : Nr w1 w2 v n) : Nr w w2 v n :=
  ⟨h.row, hb.trans (h.below.mono hb.size)⟩

theorem len_le {r : List Nat} {n : Nat} (ht : Trim r) (h : val r < 65536 ^ n) : r.length ≤ n := by
  by_cases he : r = []
  · subst he; simp
  · have h1 := Nat.lt_of_le_of_lt (val_ge ht he) h
    have h2 := (Nat.pow_lt_pow_iff_right (by omega : 1 < 65536)).1 h1
    omega
theorem sum_len {a b r : List Nat} {n : Nat} (ha : Dig a) (hb : Dig b) (hla : a.length ≤ n) (hlb : b.length ≤ n) (ht : Trim r) (h : val r = val a + val b) : r.length ≤ n + 1 := by
  refine len_le ht ?_
  have h1 := Nat.lt_of_lt_of_le (val_lt a ha) (Nat.pow_le_pow_right (by omega) hla)
  have h2 := Nat.lt_of_lt_of_le (val_lt b hb) (Nat.pow_le_pow_right (by omega) hlb)
  rw [h, Nat.pow_succ]
  omega

set_option maxHeartbeats 4000000 in
theorem less_any (a b m : List Nat) (ha : Dig a) (hb : Dig b) (hm : Dig m) (hla : a.length ≤ 100000) (hlb : b.length ≤ 100000) (hlm : m.length ≤ 100000) (hle : val b ≤ val a + val m) (v u z : Value) (w : World) (h : Dr w v a) (k : Dr w u b) (q : Dr w z m) :
    Calls Try.prog 65 #[v, u, z] w fun e w' => ∃ v', e = .returned v' ∧ Nr w w' v' ((if val a < val b then val a + val m else val a) - val b) := by
  have C1 := cmp_any a b ha hb v u w h k
  have A1 := Lib.hid (fun w1 h1 h2 => add_any a m ha hm (by omega) (by omega) v z w1 h1 h2)
  have S1 := Lib.hid (fun r hr hl hv y w1 h1 h2 => sub_any r b hr hb hl hv y u w1 h1 h2)
  have HA := Lib.hid h
  have HB := Lib.hid k
  have HM := Lib.hid q
  have HD := Lib.hid ha
  clear h k q
  by_cases hlt : val a < val b
  · rw [cmpN_lt hlt] at C1
    rw [if_pos hlt]
    have HC1 := Lib.hid C1
    have HLE := Lib.hid hle
    obtain ⟨R, hR⟩ : ∃ R, R = val a + val m - val b := ⟨_, rfl⟩
    rw [← hR]
    have HR := Lib.hid hR
    clear C1 hR hle hlt
    go_enter Try.func65, Try.ntmps65
    go_wp2_with fail
    refine HC1.out.mono ?_
    rintro e w1 ⟨rfl, s1⟩
    have HS1 := Lib.hid s1
    clear s1
    go_wp2_with fail
    refine (A1.out w1 (HA.out.sm HS1.out) (HM.out.sm HS1.out)).mono ?_
    rintro e w2 ⟨v2, rfl, hn⟩
    obtain ⟨⟨r, hr, hrd, hrt, hrv⟩, hb2⟩ := hn
    have HSU := Lib.hid (S1.out r hrd (by have := sum_len HD.out hm hla hlm hrt hrv; omega) (by rw [hrv]; exact HLE.out) v2 w2 hr ((HB.out.sm HS1.out).below hb2))
    have HB2 := Lib.hid (HS1.out.below0.trans (hb2.mono HS1.out.below0.size))
    have HRV := Lib.hid hrv
    clear hr hrd hrt hrv hb2
    go_wp2_with fail
    refine HSU.out.mono ?_
    rintro e w3 ⟨v3, rfl, hn⟩
    have HN := Lib.hid hn
    clear hn
    go_wp2_with fail
    go_ret
    exact ⟨_, rfl, by rw [HR.out, ← HRV.out]; exact Nr.from HB2.out HN.out⟩
  · obtain ⟨c, hc⟩ : ∃ c, c = cmpN (val a) (val b) := ⟨_, rfl⟩
    have hc0 : 0 ≤ c ∧ c ≤ 1 := by rw [hc]; unfold cmpN; rw [if_neg hlt]; split <;> omega
    rw [← hc] at C1
    rw [if_neg hlt]
    have HC1 := Lib.hid C1
    have HLT := Lib.hid hlt
    obtain ⟨R, hR⟩ : ∃ R, R = val a - val b := ⟨_, rfl⟩
    rw [← hR]
    have HR := Lib.hid hR
    clear C1 hR hle hlt hc
    go_enter Try.func65, Try.ntmps65
    go_wp2_with fail
    refine HC1.out.mono ?_
    rintro e w1 ⟨rfl, s1⟩
    have HS1 := Lib.hid s1
    clear s1
    go_wp2_with fail
    refine (S1.out a HD.out (by omega) (by have := HLT.out; omega) v w1 (HA.out.sm HS1.out) (HB.out.sm HS1.out)).mono ?_
    rintro e w3 ⟨v3, rfl, hn⟩
    have HN := Lib.hid hn
    clear hn
    go_wp2_with fail
    go_ret
    exact ⟨_, rfl, by rw [HR.out]; exact Nr.from HS1.out.below0 HN.out⟩

set_option maxHeartbeats 4000000 in
theorem halved_any (a m : List Nat) (ha : Dig a) (hm : Dig m) (hla : a.length ≤ 99999) (hlm : m.length ≤ 99999) (v z : Value) (w : World) (h : Dr w v a) (q : Dr w z m) :
    Calls Try.prog 64 #[v, z] w fun e w' => ∃ v', e = .returned v' ∧ Nr w w' v' ((if val a % 2 = 1 then val a + val m else val a) / 2) := by
  have C1 := odd_any a ha v w h
  have A1 := Lib.hid (fun w1 h1 h2 => add_any a m ha hm (by omega) (by omega) v z w1 h1 h2)
  have S1 := Lib.hid (fun r hr hl y w1 h1 => half_any r hr hl y w1 h1)
  have HA := Lib.hid h
  have HM := Lib.hid q
  have HD := Lib.hid ha
  clear h q
  by_cases hlt : val a % 2 = 1
  · rw [decide_eq_true hlt] at C1
    rw [if_pos hlt]
    have HC1 := Lib.hid C1
    obtain ⟨R, hR⟩ : ∃ R, R = (val a + val m) / 2 := ⟨_, rfl⟩
    rw [← hR]
    have HR := Lib.hid hR
    clear C1 hR hlt
    go_enter Try.func64, Try.ntmps64
    go_wp2_with fail
    refine HC1.out.mono ?_
    rintro e w1 ⟨rfl, s1⟩
    have HS1 := Lib.hid s1
    clear s1
    go_wp2_with fail
    refine (A1.out w1 (HA.out.sm HS1.out) (HM.out.sm HS1.out)).mono ?_
    rintro e w2 ⟨v2, rfl, hn⟩
    obtain ⟨⟨r, hr, hrd, hrt, hrv⟩, hb2⟩ := hn
    have HSU := Lib.hid (S1.out r hrd (by have := sum_len HD.out hm hla hlm hrt hrv; omega) v2 w2 hr)
    have HB2 := Lib.hid (HS1.out.below0.trans (hb2.mono HS1.out.below0.size))
    have HRV := Lib.hid hrv
    clear hr hrd hrt hrv hb2
    go_wp2_with fail
    refine HSU.out.mono ?_
    rintro e w3 ⟨v3, rfl, hn⟩
    have HN := Lib.hid hn
    clear hn
    go_wp2_with fail
    go_ret
    exact ⟨_, rfl, by rw [HR.out, ← HRV.out]; exact Nr.from HB2.out HN.out⟩
  · rw [decide_eq_false hlt] at C1
    rw [if_neg hlt]
    have HC1 := Lib.hid C1
    obtain ⟨R, hR⟩ : ∃ R, R = val a / 2 := ⟨_, rfl⟩
    rw [← hR]
    have HR := Lib.hid hR
    clear C1 hR hlt
    go_enter Try.func64, Try.ntmps64
    go_wp2_with fail
    refine HC1.out.mono ?_
    rintro e w1 ⟨rfl, s1⟩
    have HS1 := Lib.hid s1
    clear s1
    go_wp2_with fail
    refine (S1.out a HD.out (by omega) v w1 (HA.out.sm HS1.out)).mono ?_
    rintro e w3 ⟨v3, rfl, hn⟩
    have HN := Lib.hid hn
    clear hn
    go_wp2_with fail
    go_ret
    exact ⟨_, rfl, by rw [HR.out]; exact Nr.from HS1.out.below0 HN.out⟩
end Go.Proofs.Ytglmmodkflkkkaa.Ref
