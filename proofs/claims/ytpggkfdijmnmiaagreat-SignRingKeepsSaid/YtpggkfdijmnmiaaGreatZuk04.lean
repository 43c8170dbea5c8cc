/- Powers modulo. No condition but that each number is below 2 to the 256. Inverses: by a power. No condition but that the number is below 2 to the 256. A number's bytes; the number of bytes. No condition. Any bytes modulo. Condition: fewer than 2 to the 47. A number read from 32 bytes. Condition: fewer than 2 to the 47 bytes. -/
import Derived.Laws.Shifts
import Derived.Laws.BitsAllLaws
import Derived.LoopTactic
import Derived.Test.YtpggkfdijmnmiaaGreatZuk03
import Derived.Test.YtpggkfdijmnmiaaGreatZuk00
import Derived.Laws.IdiomStrings
import Derived.Lib.ConvBytes
import Derived.Lib.BufferRead
set_option linter.unusedVariables false
set_option linter.unusedSimpArgs false
set_option maxRecDepth 100000
namespace Go.Proofs.YtpggkfdijmnmiaaGreat
open Go.RowKit Limbs
theorem bit_mod (x k : Nat) (hk : k < 64) : x % 18446744073709551616 / 2 ^ k % 2 = x / 2 ^ k % 2 := by
  have h := Nat.testBit_mod_two_pow x 64 k
  rw [Nat.testBit_eq_decide_div_mod_eq, Nat.testBit_eq_decide_div_mod_eq] at h
  simp only [hk, decide_true, Bool.true_and, decide_eq_decide] at h
  have e : (2 : Nat) ^ 64 = 18446744073709551616 := by decide
  rw [e] at h
  omega
theorem lb_bit (e j k : Nat) (hj : j < 4) (hk : k < 64) : lb e j / 2 ^ k % 2 = e / 2 ^ (64 * j + k) % 2 := by
  have h : j = 0 ∨ j = 1 ∨ j = 2 ∨ j = 3 := by omega
  have p (n : Nat) : e / 2 ^ n / 2 ^ k = e / 2 ^ (n + k) := by rw [Nat.div_div_eq_div_mul, Nat.pow_add]
  rcases h with rfl | rfl | rfl | rfl
  · show e % 18446744073709551616 / 2 ^ k % 2 = _
    rw [bit_mod _ _ hk]; simp
  · show e / 18446744073709551616 % 18446744073709551616 / 2 ^ k % 2 = _
    rw [bit_mod _ _ hk]; exact congrArg (· % 2) (p 64)
  · show e / 340282366920938463463374607431768211456 % 18446744073709551616 / 2 ^ k % 2 = _
    rw [bit_mod _ _ hk]; exact congrArg (· % 2) (p 128)
  · show e / 6277101735386680763835789423207666416102355444464034512896 % 18446744073709551616 / 2 ^ k % 2 = _
    rw [bit_mod _ _ hk]; exact congrArg (· % 2) (p 192)
theorem pow_step (a e n M : Nat) (r : Nat) (hr : r = a ^ (e / 2 ^ (n + 1)) % M) : (e / 2 ^ n % 2 = 0 → a ^ (e / 2 ^ n) % M = r * r % M) ∧ (e / 2 ^ n % 2 = 1 → a ^ (e / 2 ^ n) % M = r * r % M * a % M) := by
  have h : e / 2 ^ (n + 1) = e / 2 ^ n / 2 := by rw [Nat.pow_succ, Nat.div_div_eq_div_mul]
  rw [h] at hr
  generalize e / 2 ^ n = x at *
  have hs : a ^ (x / 2 * 2) % M = r * r % M := by
    rw [Nat.pow_mul, hr, Nat.pow_two, ← Nat.mul_mod]
  constructor
  · intro h0
    rw [← hs]; congr 2; omega
  · intro h1
    have hm := mod_step (a ^ (x / 2 * 2)) a 0 M
    rw [hs] at hm
    simp only [Nat.add_zero] at hm
    rw [hm, ← Nat.pow_succ]; congr 2; omega
theorem shr_one (x k : Nat) (hx : x < 18446744073709551616) : bits .and .u64 ((x / 2 ^ k : Nat) : Int) 1 = ((x / 2 ^ k % 2 : Nat) : Int) := by
  have h := bits_and_u64_nat (x / 2 ^ k) 1 (Nat.lt_of_le_of_lt (Nat.div_le_self _ _) hx) (by decide)
  have e : (x / 2 ^ k) &&& 1 = x / 2 ^ k % 2 := Nat.and_one_is_mod _
  rw [e] at h
  exact h
set_option maxHeartbeats 16000000 in
theorem pow_any (m : Int) (a e : Nat) (ha : a < W256) (he : e < W256) (w : World) :
    Calls Tryz.prog 183 #[.int .i64 m, nv a, nv e] w fun e' w' => e' = .returned (nv (a ^ e % md m)) ∧ Below w.heap.size w w' := by
  have hM := md_or m
  obtain ⟨hMW, hM2, hM3, hMp⟩ := md_lt hM
  have HM := Lib.hid (show ∀ x y, x < W256 → y < W256 → ∀ w, Calls Tryz.prog 156 #[.int .i64 m, .agg (cs4 x), .agg (cs4 y)] w fun e w' => e = .returned (nv (x * y % md m)) ∧ Below w.heap.size w w' from fun x y hx hy w => mul_any m x y hx hy w)
  generalize md m = M at *
  have HA := Lib.hid (And.intro hMW (And.intro hMp (And.intro ha he)))
  obtain ⟨res, hres⟩ : ∃ z, z = a ^ e % M := ⟨_, rfl⟩
  rw [← hres]
  have HRES := Lib.hid hres
  have h1 : Bk 24 (w.alloc (.cells #[.int .u64 1, .int .u64 0, .int .u64 0, .int .u64 0] 24)) w.heap.size (cs4 (a ^ (e / 2 ^ 256) % M)) := by
    have : e / 2 ^ 256 = 0 := Nat.div_eq_of_lt (by have := he; unfold W256 at this; simpa using this)
    rw [this, Nat.pow_zero, Nat.mod_eq_of_lt (by omega)]
    exact Bk.new rfl
  have e1 : cs4 (a ^ (e / 2 ^ 256) % M) = #[.int .u64 1, .int .u64 0, .int .u64 0, .int .u64 0] := by
    have h2 := h1
    unfold Bk at h2
    rw [Go.heap_alloc_new] at h2
    injection h2 with h2
    injection h2 with h2
    exact h2.symm
  have HE1 := Lib.hid e1
  clear hres h1 e1 hM hMW hM2 hM3 hMp ha he
  simp only [nv, num]
  go_enter Tryz.func183, Tryz.ntmps183
  go_wp2_with fail
  have KA : Hid (Bk 24 ((((w.alloc (.cells #[.int .u64 (lb a 0 : Nat), .int .u64 (lb a 1 : Nat), .int .u64 (lb a 2 : Nat), .int .u64 (lb a 3 : Nat)] 24)).alloc (.cells #[.int .u64 (lb e 0 : Nat), .int .u64 (lb e 1 : Nat), .int .u64 (lb e 2 : Nat), .int .u64 (lb e 3 : Nat)] 24)).alloc (.cells #[.int .u64 0, .int .u64 0, .int .u64 0, .int .u64 0] 24)).alloc (.cells #[.int .u64 1, .int .u64 0, .int .u64 0, .int .u64 0] 24)) w.heap.size (cs4 a)) := Lib.hid (Bk.alloc (Bk.alloc (Bk.alloc (Bk.new rfl))))
  have KE : Hid (Bk 24 ((((w.alloc (.cells #[.int .u64 (lb a 0 : Nat), .int .u64 (lb a 1 : Nat), .int .u64 (lb a 2 : Nat), .int .u64 (lb a 3 : Nat)] 24)).alloc (.cells #[.int .u64 (lb e 0 : Nat), .int .u64 (lb e 1 : Nat), .int .u64 (lb e 2 : Nat), .int .u64 (lb e 3 : Nat)] 24)).alloc (.cells #[.int .u64 0, .int .u64 0, .int .u64 0, .int .u64 0] 24)).alloc (.cells #[.int .u64 1, .int .u64 0, .int .u64 0, .int .u64 0] 24)) (w.heap.size + 1) (cs4 e)) := Lib.hid (Bk.alloc (Bk.alloc (Bk.new (by simp))))
  have KR : Hid (Bk 24 ((((w.alloc (.cells #[.int .u64 (lb a 0 : Nat), .int .u64 (lb a 1 : Nat), .int .u64 (lb a 2 : Nat), .int .u64 (lb a 3 : Nat)] 24)).alloc (.cells #[.int .u64 (lb e 0 : Nat), .int .u64 (lb e 1 : Nat), .int .u64 (lb e 2 : Nat), .int .u64 (lb e 3 : Nat)] 24)).alloc (.cells #[.int .u64 0, .int .u64 0, .int .u64 0, .int .u64 0] 24)).alloc (.cells #[.int .u64 1, .int .u64 0, .int .u64 0, .int .u64 0] 24)) (w.heap.size + 1 + 1) cs0) := Lib.hid (Bk.alloc (Bk.new (by simp)))
  have K7 : Hid (Bk 24 ((((w.alloc (.cells #[.int .u64 (lb a 0 : Nat), .int .u64 (lb a 1 : Nat), .int .u64 (lb a 2 : Nat), .int .u64 (lb a 3 : Nat)] 24)).alloc (.cells #[.int .u64 (lb e 0 : Nat), .int .u64 (lb e 1 : Nat), .int .u64 (lb e 2 : Nat), .int .u64 (lb e 3 : Nat)] 24)).alloc (.cells #[.int .u64 0, .int .u64 0, .int .u64 0, .int .u64 0] 24)).alloc (.cells #[.int .u64 1, .int .u64 0, .int .u64 0, .int .u64 0] 24)) (w.heap.size + 1 + 1 + 1) (cs4 (a ^ (e / 2 ^ 256) % M))) := Lib.hid (by rw [HE1.out]; exact Bk.new (by simp))
  have HB : Hid (Below w.heap.size w ((((w.alloc (.cells #[.int .u64 (lb a 0 : Nat), .int .u64 (lb a 1 : Nat), .int .u64 (lb a 2 : Nat), .int .u64 (lb a 3 : Nat)] 24)).alloc (.cells #[.int .u64 (lb e 0 : Nat), .int .u64 (lb e 1 : Nat), .int .u64 (lb e 2 : Nat), .int .u64 (lb e 3 : Nat)] 24)).alloc (.cells #[.int .u64 0, .int .u64 0, .int .u64 0, .int .u64 0] 24)).alloc (.cells #[.int .u64 1, .int .u64 0, .int .u64 0, .int .u64 0] 24))) := Lib.hid (by go_grown)
  clear HE1
  generalize ((((w.alloc (.cells #[.int .u64 (lb a 0 : Nat), .int .u64 (lb a 1 : Nat), .int .u64 (lb a 2 : Nat), .int .u64 (lb a 3 : Nat)] 24)).alloc (.cells #[.int .u64 (lb e 0 : Nat), .int .u64 (lb e 1 : Nat), .int .u64 (lb e 2 : Nat), .int .u64 (lb e 3 : Nat)] 24)).alloc (.cells #[.int .u64 0, .int .u64 0, .int .u64 0, .int .u64 0] 24)).alloc (.cells #[.int .u64 1, .int .u64 0, .int .u64 0, .int .u64 0] 24)) = wr0 at KA KE KR K7 HB ⊢
  obtain ⟨gE, hgE⟩ : ∃ z, z = w.heap.size + 1 := ⟨_, rfl⟩
  obtain ⟨gR, hgR⟩ : ∃ z, z = w.heap.size + 1 + 1 := ⟨_, rfl⟩
  obtain ⟨g7, hg7⟩ : ∃ z, z = w.heap.size + 1 + 1 + 1 := ⟨_, rfl⟩
  rw [← hgE] at KE
  rw [← hgR] at KR
  rw [← hg7] at K7
  rw [← hg7, ← hgR, ← hgE]
  obtain ⟨gA, hgA⟩ : ∃ z, z = w.heap.size := ⟨_, rfl⟩
  rw [← hgA] at KA ⊢
  have HNE : Hid (gA ≠ g7 ∧ gE ≠ g7 ∧ gR ≠ g7 ∧ w.heap.size ≤ g7 ∧ w.heap.size ≤ gR) := Lib.hid ⟨by omega, by omega, by omega, by omega, by omega⟩
  clear hgE hgR hg7 hgA
  refine wp_loop_rounds 5 ?_
  rw [rounds_succ]
  go_wp2_with fail
  go_loopw [14] (fun b wr => ∃ k : Nat, k ≤ 64 ∧ b = .int .i64 (k : Int) ∧ Bk 24 wr gA (cs4 a) ∧ Bk 24 wr gE (cs4 e) ∧ Bk 24 wr gR cs0 ∧ Bk 24 wr g7 (cs4 (a ^ (e / 2 ^ (256 - k)) % M)) ∧ Below w.heap.size w wr) (fun b _ => 64 - (intOf b).toNat)
  case atStart => exact ⟨0, Nat.zero_le _, rfl, KA.out, KE.out, KR.out, K7.out, HB.out⟩
  case round =>
    clear KA KE KR K7 HB
    obtain ⟨k, hk, rfl, ka, ke, kr, k7, hb⟩ := hrel
    have KA := Lib.hid ka
    have KE := Lib.hid ke
    have KR := Lib.hid kr
    have K7 := Lib.hid k7
    have HB := Lib.hid hb
    clear ka ke kr k7 hb
    by_cases hlt : k < 64
    · obtain ⟨R, hR⟩ : ∃ z, z = a ^ (e / 2 ^ (256 - k)) % M := ⟨_, rfl⟩
      rw [← hR] at K7
      have hRW : R < W256 := by rw [hR]; exact Nat.lt_trans (Nat.mod_lt _ (by have := HA.out.2.1; omega)) HA.out.1
      have hc1 := HM.out R R hRW hRW
      have hst := pow_step a e (256 - (k + 1)) M R (by rw [hR, show 256 - (k + 1) + 1 = 256 - k from by omega])
      have hbt := lb_bit e 3 (63 - k) (by decide) (by omega)
      rw [show 64 * 3 + (63 - k) = 256 - (k + 1) from by omega] at hbt
      rw [← hbt] at hst
      have hsh : bits .and .u64 (((lb e 3 : Nat) : Int) / 2 ^ (63 - k)) 1 = ((lb e 3 / 2 ^ (63 - k) % 2 : Nat) : Int) := by
        rw [← shr_one _ _ (lb_lt e 3)]
        congr 1
      have hR2 : R * R % M < W256 := Nat.lt_trans (Nat.mod_lt _ (by have := HA.out.2.1; omega)) HA.out.1
      have hc2 := HM.out (R * R % M) a hR2 HA.out.2.2.1
      obtain ⟨RR, hRR⟩ : ∃ z, z = R * R % M := ⟨_, rfl⟩
      rw [← hRR] at hc1 hc2 hst
      obtain ⟨RA, hRA⟩ : ∃ z, z = RR * a % M := ⟨_, rfl⟩
      rw [← hRA] at hc2 hst
      have HC := Lib.hid hc1
      have HC2 := Lib.hid hc2
      clear hRR hRA hc1 hc2
      have t1 : (0 : Int) ≤ 63 - (k : Int) := by omega
      have n1 : ¬ (gE = g7) := HNE.out.2.1
      have n2 : ¬ (g7 = gE) := fun h => HNE.out.2.1 h.symm
      have n3 : ¬ (gA = g7) := HNE.out.1
      have n4 : ¬ (g7 = gA) := fun h => HNE.out.1 h.symm
      generalize hbv : lb e 3 / 2 ^ (63 - k) % 2 = bt at *
      have hb2 : bt = 0 ∨ bt = 1 := by omega
      clear hbv hbt hR hRW hR2
      obtain ⟨c0, c1, c2, c3⟩ := K7.out.cells
      rcases hb2 with rfl | rfl
      · have HST := Lib.hid (hst.1 rfl)
        clear hst
        go_wp2_with fail
        refine (keep w.heap.size w (HC.out _) HB.out (Nat.le_refl _)).mono ?_
        rintro e' w2 ⟨rfl, hb, hk⟩
        have KA2 := Lib.hid (KA.out.below hk)
        have KE2 := Lib.hid (KE.out.below hk)
        have KR2 := Lib.hid (KR.out.below hk)
        have K72 := Lib.hid (K7.out.below hk)
        have HB2 := Lib.hid hb
        clear KA KE KR K7 HB hb hk c0 c1 c2 c3 HC HC2
        obtain ⟨c0, c1, c2, c3⟩ := K72.out.cells
        obtain ⟨f0, f1, f2, f3⟩ := K72.out.fros
        obtain ⟨x0, x1, x2, x3⟩ := KE2.out.cells
        simp only [nv, num]
        go_wp2_with fail
        go_roundw
        case rel => exact ⟨k + 1, by omega, by go_num, Bk.puto HNE.out.1 KA2.out, Bk.puto HNE.out.2.1 KE2.out, Bk.puto HNE.out.2.2.1 KR2.out, by rw [HST.out]; exact Bk.put K72.out, by have hb := HB2.out; have h7 := HNE.out.2.2.2.1; go_grown⟩
        case measure => simp [intOf]; omega
      · have HST := Lib.hid (hst.2 rfl)
        clear hst
        go_wp2_with fail
        refine (keep w.heap.size w (HC.out _) HB.out (Nat.le_refl _)).mono ?_
        rintro e' w2 ⟨rfl, hb, hk⟩
        have KA2 := Lib.hid (KA.out.below hk)
        have KE2 := Lib.hid (KE.out.below hk)
        have KR2 := Lib.hid (KR.out.below hk)
        have K72 := Lib.hid (K7.out.below hk)
        have HB2 := Lib.hid hb
        clear KA KE KR K7 HB hb hk c0 c1 c2 c3 HC
        obtain ⟨c0, c1, c2, c3⟩ := K72.out.cells
        obtain ⟨f0, f1, f2, f3⟩ := K72.out.fros
        obtain ⟨x0, x1, x2, x3⟩ := KE2.out.cells
        obtain ⟨y0, y1, y2, y3⟩ := KA2.out.cells
        simp only [nv, num]
        go_wp2_with fail
        refine (keep w.heap.size w (HC2.out _) (by have hb := HB2.out; have h7 := HNE.out.2.2.2.1; go_grown) (Nat.le_refl _)).mono ?_
        rintro e' w3 ⟨rfl, hb, hk⟩
        have KA3 := Lib.hid (Bk.below (Bk.puto HNE.out.1 KA2.out) hk)
        have KE3 := Lib.hid (Bk.below (Bk.puto HNE.out.2.1 KE2.out) hk)
        have KR3 := Lib.hid (Bk.below (Bk.puto HNE.out.2.2.1 KR2.out) hk)
        have K73 := Lib.hid (Bk.below (Bk.put K72.out) hk)
        have HB3 := Lib.hid hb
        clear KA2 KE2 KR2 K72 HB2 hb hk c0 c1 c2 c3 f0 f1 f2 f3 x0 x1 x2 x3 y0 y1 y2 y3 HC2
        obtain ⟨c0, c1, c2, c3⟩ := K73.out.cells
        obtain ⟨f0, f1, f2, f3⟩ := K73.out.fros
        simp only [nv, num]
        go_wp2_with fail
        go_roundw
        case rel => exact ⟨k + 1, by omega, by go_num, Bk.puto HNE.out.1 KA3.out, Bk.puto HNE.out.2.1 KE3.out, Bk.puto HNE.out.2.2.1 KR3.out, by rw [HST.out]; exact Bk.put K73.out, by have hb := HB3.out; have h7 := HNE.out.2.2.2.1; go_grown⟩
        case measure => simp [intOf]; omega
    · obtain rfl : k = 64 := by omega
      clear hlt hk
      rw [show 256 - 64 = 192 from rfl] at K7
      go_wp2_with fail
      rw [rounds_succ]
      go_wp2_with fail
      go_loopw [14] (fun b wr => ∃ k : Nat, k ≤ 64 ∧ b = .int .i64 (k : Int) ∧ Bk 24 wr gA (cs4 a) ∧ Bk 24 wr gE (cs4 e) ∧ Bk 24 wr gR cs0 ∧ Bk 24 wr g7 (cs4 (a ^ (e / 2 ^ (192 - k)) % M)) ∧ Below w.heap.size w wr) (fun b _ => 64 - (intOf b).toNat)
      case atStart => exact ⟨0, Nat.zero_le _, rfl, KA.out, KE.out, KR.out, K7.out, HB.out⟩
      case round =>
        clear KA KE KR K7 HB
        obtain ⟨k, hk, rfl, ka, ke, kr, k7, hb⟩ := hrel
        have KA := Lib.hid ka
        have KE := Lib.hid ke
        have KR := Lib.hid kr
        have K7 := Lib.hid k7
        have HB := Lib.hid hb
        clear ka ke kr k7 hb
        by_cases hlt : k < 64
        · obtain ⟨R, hR⟩ : ∃ z, z = a ^ (e / 2 ^ (192 - k)) % M := ⟨_, rfl⟩
          rw [← hR] at K7
          have hRW : R < W256 := by rw [hR]; exact Nat.lt_trans (Nat.mod_lt _ (by have := HA.out.2.1; omega)) HA.out.1
          have hc1 := HM.out R R hRW hRW
          have hst := pow_step a e (192 - (k + 1)) M R (by rw [hR, show 192 - (k + 1) + 1 = 192 - k from by omega])
          have hbt := lb_bit e 2 (63 - k) (by decide) (by omega)
          rw [show 64 * 2 + (63 - k) = 192 - (k + 1) from by omega] at hbt
          rw [← hbt] at hst
          have hsh : bits .and .u64 (((lb e 2 : Nat) : Int) / 2 ^ (63 - k)) 1 = ((lb e 2 / 2 ^ (63 - k) % 2 : Nat) : Int) := by
            rw [← shr_one _ _ (lb_lt e 2)]
            congr 1
          have hR2 : R * R % M < W256 := Nat.lt_trans (Nat.mod_lt _ (by have := HA.out.2.1; omega)) HA.out.1
          have hc2 := HM.out (R * R % M) a hR2 HA.out.2.2.1
          obtain ⟨RR, hRR⟩ : ∃ z, z = R * R % M := ⟨_, rfl⟩
          rw [← hRR] at hc1 hc2 hst
          obtain ⟨RA, hRA⟩ : ∃ z, z = RR * a % M := ⟨_, rfl⟩
          rw [← hRA] at hc2 hst
          have HC := Lib.hid hc1
          have HC2 := Lib.hid hc2
          clear hRR hRA hc1 hc2
          have t1 : (0 : Int) ≤ 63 - (k : Int) := by omega
          have n1 : ¬ (gE = g7) := HNE.out.2.1
          have n2 : ¬ (g7 = gE) := fun h => HNE.out.2.1 h.symm
          have n3 : ¬ (gA = g7) := HNE.out.1
          have n4 : ¬ (g7 = gA) := fun h => HNE.out.1 h.symm
          generalize hbv : lb e 2 / 2 ^ (63 - k) % 2 = bt at *
          have hb2 : bt = 0 ∨ bt = 1 := by omega
          clear hbv hbt hR hRW hR2
          obtain ⟨c0, c1, c2, c3⟩ := K7.out.cells
          rcases hb2 with rfl | rfl
          · have HST := Lib.hid (hst.1 rfl)
            clear hst
            go_wp2_with fail
            refine (keep w.heap.size w (HC.out _) HB.out (Nat.le_refl _)).mono ?_
            rintro e' w2 ⟨rfl, hb, hk⟩
            have KA2 := Lib.hid (KA.out.below hk)
            have KE2 := Lib.hid (KE.out.below hk)
            have KR2 := Lib.hid (KR.out.below hk)
            have K72 := Lib.hid (K7.out.below hk)
            have HB2 := Lib.hid hb
            clear KA KE KR K7 HB hb hk c0 c1 c2 c3 HC HC2
            obtain ⟨c0, c1, c2, c3⟩ := K72.out.cells
            obtain ⟨f0, f1, f2, f3⟩ := K72.out.fros
            obtain ⟨x0, x1, x2, x3⟩ := KE2.out.cells
            simp only [nv, num]
            go_wp2_with fail
            go_roundw
            case rel => exact ⟨k + 1, by omega, by go_num, Bk.puto HNE.out.1 KA2.out, Bk.puto HNE.out.2.1 KE2.out, Bk.puto HNE.out.2.2.1 KR2.out, by rw [HST.out]; exact Bk.put K72.out, by have hb := HB2.out; have h7 := HNE.out.2.2.2.1; go_grown⟩
            case measure => simp [intOf]; omega
          · have HST := Lib.hid (hst.2 rfl)
            clear hst
            go_wp2_with fail
            refine (keep w.heap.size w (HC.out _) HB.out (Nat.le_refl _)).mono ?_
            rintro e' w2 ⟨rfl, hb, hk⟩
            have KA2 := Lib.hid (KA.out.below hk)
            have KE2 := Lib.hid (KE.out.below hk)
            have KR2 := Lib.hid (KR.out.below hk)
            have K72 := Lib.hid (K7.out.below hk)
            have HB2 := Lib.hid hb
            clear KA KE KR K7 HB hb hk c0 c1 c2 c3 HC
            obtain ⟨c0, c1, c2, c3⟩ := K72.out.cells
            obtain ⟨f0, f1, f2, f3⟩ := K72.out.fros
            obtain ⟨x0, x1, x2, x3⟩ := KE2.out.cells
            obtain ⟨y0, y1, y2, y3⟩ := KA2.out.cells
            simp only [nv, num]
            go_wp2_with fail
            refine (keep w.heap.size w (HC2.out _) (by have hb := HB2.out; have h7 := HNE.out.2.2.2.1; go_grown) (Nat.le_refl _)).mono ?_
            rintro e' w3 ⟨rfl, hb, hk⟩
            have KA3 := Lib.hid (Bk.below (Bk.puto HNE.out.1 KA2.out) hk)
            have KE3 := Lib.hid (Bk.below (Bk.puto HNE.out.2.1 KE2.out) hk)
            have KR3 := Lib.hid (Bk.below (Bk.puto HNE.out.2.2.1 KR2.out) hk)
            have K73 := Lib.hid (Bk.below (Bk.put K72.out) hk)
            have HB3 := Lib.hid hb
            clear KA2 KE2 KR2 K72 HB2 hb hk c0 c1 c2 c3 f0 f1 f2 f3 x0 x1 x2 x3 y0 y1 y2 y3 HC2
            obtain ⟨c0, c1, c2, c3⟩ := K73.out.cells
            obtain ⟨f0, f1, f2, f3⟩ := K73.out.fros
            simp only [nv, num]
            go_wp2_with fail
            go_roundw
            case rel => exact ⟨k + 1, by omega, by go_num, Bk.puto HNE.out.1 KA3.out, Bk.puto HNE.out.2.1 KE3.out, Bk.puto HNE.out.2.2.1 KR3.out, by rw [HST.out]; exact Bk.put K73.out, by have hb := HB3.out; have h7 := HNE.out.2.2.2.1; go_grown⟩
            case measure => simp [intOf]; omega
        · obtain rfl : k = 64 := by omega
          clear hlt hk
          rw [show 192 - 64 = 128 from rfl] at K7
          go_wp2_with fail
          rw [rounds_succ]
          go_wp2_with fail
          go_loopw [14] (fun b wr => ∃ k : Nat, k ≤ 64 ∧ b = .int .i64 (k : Int) ∧ Bk 24 wr gA (cs4 a) ∧ Bk 24 wr gE (cs4 e) ∧ Bk 24 wr gR cs0 ∧ Bk 24 wr g7 (cs4 (a ^ (e / 2 ^ (128 - k)) % M)) ∧ Below w.heap.size w wr) (fun b _ => 64 - (intOf b).toNat)
          case atStart => exact ⟨0, Nat.zero_le _, rfl, KA.out, KE.out, KR.out, K7.out, HB.out⟩
          case round =>
            clear KA KE KR K7 HB
            obtain ⟨k, hk, rfl, ka, ke, kr, k7, hb⟩ := hrel
            have KA := Lib.hid ka
            have KE := Lib.hid ke
            have KR := Lib.hid kr
            have K7 := Lib.hid k7
            have HB := Lib.hid hb
            clear ka ke kr k7 hb
            by_cases hlt : k < 64
            · obtain ⟨R, hR⟩ : ∃ z, z = a ^ (e / 2 ^ (128 - k)) % M := ⟨_, rfl⟩
              rw [← hR] at K7
              have hRW : R < W256 := by rw [hR]; exact Nat.lt_trans (Nat.mod_lt _ (by have := HA.out.2.1; omega)) HA.out.1
              have hc1 := HM.out R R hRW hRW
              have hst := pow_step a e (128 - (k + 1)) M R (by rw [hR, show 128 - (k + 1) + 1 = 128 - k from by omega])
              have hbt := lb_bit e 1 (63 - k) (by decide) (by omega)
              rw [show 64 * 1 + (63 - k) = 128 - (k + 1) from by omega] at hbt
              rw [← hbt] at hst
              have hsh : bits .and .u64 (((lb e 1 : Nat) : Int) / 2 ^ (63 - k)) 1 = ((lb e 1 / 2 ^ (63 - k) % 2 : Nat) : Int) := by
                rw [← shr_one _ _ (lb_lt e 1)]
                congr 1
              have hR2 : R * R % M < W256 := Nat.lt_trans (Nat.mod_lt _ (by have := HA.out.2.1; omega)) HA.out.1
              have hc2 := HM.out (R * R % M) a hR2 HA.out.2.2.1
              obtain ⟨RR, hRR⟩ : ∃ z, z = R * R % M := ⟨_, rfl⟩
              rw [← hRR] at hc1 hc2 hst
              obtain ⟨RA, hRA⟩ : ∃ z, z = RR * a % M := ⟨_, rfl⟩
              rw [← hRA] at hc2 hst
              have HC := Lib.hid hc1
              have HC2 := Lib.hid hc2
              clear hRR hRA hc1 hc2
              have t1 : (0 : Int) ≤ 63 - (k : Int) := by omega
              have n1 : ¬ (gE = g7) := HNE.out.2.1
              have n2 : ¬ (g7 = gE) := fun h => HNE.out.2.1 h.symm
              have n3 : ¬ (gA = g7) := HNE.out.1
              have n4 : ¬ (g7 = gA) := fun h => HNE.out.1 h.symm
              generalize hbv : lb e 1 / 2 ^ (63 - k) % 2 = bt at *
              have hb2 : bt = 0 ∨ bt = 1 := by omega
              clear hbv hbt hR hRW hR2
              obtain ⟨c0, c1, c2, c3⟩ := K7.out.cells
              rcases hb2 with rfl | rfl
              · have HST := Lib.hid (hst.1 rfl)
                clear hst
                go_wp2_with fail
                refine (keep w.heap.size w (HC.out _) HB.out (Nat.le_refl _)).mono ?_
                rintro e' w2 ⟨rfl, hb, hk⟩
                have KA2 := Lib.hid (KA.out.below hk)
                have KE2 := Lib.hid (KE.out.below hk)
                have KR2 := Lib.hid (KR.out.below hk)
                have K72 := Lib.hid (K7.out.below hk)
                have HB2 := Lib.hid hb
                clear KA KE KR K7 HB hb hk c0 c1 c2 c3 HC HC2
                obtain ⟨c0, c1, c2, c3⟩ := K72.out.cells
                obtain ⟨f0, f1, f2, f3⟩ := K72.out.fros
                obtain ⟨x0, x1, x2, x3⟩ := KE2.out.cells
                simp only [nv, num]
                go_wp2_with fail
                go_roundw
                case rel => exact ⟨k + 1, by omega, by go_num, Bk.puto HNE.out.1 KA2.out, Bk.puto HNE.out.2.1 KE2.out, Bk.puto HNE.out.2.2.1 KR2.out, by rw [HST.out]; exact Bk.put K72.out, by have hb := HB2.out; have h7 := HNE.out.2.2.2.1; go_grown⟩
                case measure => simp [intOf]; omega
              · have HST := Lib.hid (hst.2 rfl)
                clear hst
                go_wp2_with fail
                refine (keep w.heap.size w (HC.out _) HB.out (Nat.le_refl _)).mono ?_
                rintro e' w2 ⟨rfl, hb, hk⟩
                have KA2 := Lib.hid (KA.out.below hk)
                have KE2 := Lib.hid (KE.out.below hk)
                have KR2 := Lib.hid (KR.out.below hk)
                have K72 := Lib.hid (K7.out.below hk)
                have HB2 := Lib.hid hb
                clear KA KE KR K7 HB hb hk c0 c1 c2 c3 HC
                obtain ⟨c0, c1, c2, c3⟩ := K72.out.cells
                obtain ⟨f0, f1, f2, f3⟩ := K72.out.fros
                obtain ⟨x0, x1, x2, x3⟩ := KE2.out.cells
                obtain ⟨y0, y1, y2, y3⟩ := KA2.out.cells
                simp only [nv, num]
                go_wp2_with fail
                refine (keep w.heap.size w (HC2.out _) (by have hb := HB2.out; have h7 := HNE.out.2.2.2.1; go_grown) (Nat.le_refl _)).mono ?_
                rintro e' w3 ⟨rfl, hb, hk⟩
                have KA3 := Lib.hid (Bk.below (Bk.puto HNE.out.1 KA2.out) hk)
                have KE3 := Lib.hid (Bk.below (Bk.puto HNE.out.2.1 KE2.out) hk)
                have KR3 := Lib.hid (Bk.below (Bk.puto HNE.out.2.2.1 KR2.out) hk)
                have K73 := Lib.hid (Bk.below (Bk.put K72.out) hk)
                have HB3 := Lib.hid hb
                clear KA2 KE2 KR2 K72 HB2 hb hk c0 c1 c2 c3 f0 f1 f2 f3 x0 x1 x2 x3 y0 y1 y2 y3 HC2
                obtain ⟨c0, c1, c2, c3⟩ := K73.out.cells
                obtain ⟨f0, f1, f2, f3⟩ := K73.out.fros
                simp only [nv, num]
                go_wp2_with fail
                go_roundw
                case rel => exact ⟨k + 1, by omega, by go_num, Bk.puto HNE.out.1 KA3.out, Bk.puto HNE.out.2.1 KE3.out, Bk.puto HNE.out.2.2.1 KR3.out, by rw [HST.out]; exact Bk.put K73.out, by have hb := HB3.out; have h7 := HNE.out.2.2.2.1; go_grown⟩
                case measure => simp [intOf]; omega
            · obtain rfl : k = 64 := by omega
              clear hlt hk
              rw [show 128 - 64 = 64 from rfl] at K7
              go_wp2_with fail
              rw [rounds_succ]
              go_wp2_with fail
              go_loopw [14] (fun b wr => ∃ k : Nat, k ≤ 64 ∧ b = .int .i64 (k : Int) ∧ Bk 24 wr gA (cs4 a) ∧ Bk 24 wr gE (cs4 e) ∧ Bk 24 wr gR cs0 ∧ Bk 24 wr g7 (cs4 (a ^ (e / 2 ^ (64 - k)) % M)) ∧ Below w.heap.size w wr) (fun b _ => 64 - (intOf b).toNat)
              case atStart => exact ⟨0, Nat.zero_le _, rfl, KA.out, KE.out, KR.out, K7.out, HB.out⟩
              case round =>
                clear KA KE KR K7 HB
                obtain ⟨k, hk, rfl, ka, ke, kr, k7, hb⟩ := hrel
                have KA := Lib.hid ka
                have KE := Lib.hid ke
                have KR := Lib.hid kr
                have K7 := Lib.hid k7
                have HB := Lib.hid hb
                clear ka ke kr k7 hb
                by_cases hlt : k < 64
                · obtain ⟨R, hR⟩ : ∃ z, z = a ^ (e / 2 ^ (64 - k)) % M := ⟨_, rfl⟩
                  rw [← hR] at K7
                  have hRW : R < W256 := by rw [hR]; exact Nat.lt_trans (Nat.mod_lt _ (by have := HA.out.2.1; omega)) HA.out.1
                  have hc1 := HM.out R R hRW hRW
                  have hst := pow_step a e (64 - (k + 1)) M R (by rw [hR, show 64 - (k + 1) + 1 = 64 - k from by omega])
                  have hbt := lb_bit e 0 (63 - k) (by decide) (by omega)
                  rw [show 64 * 0 + (63 - k) = 64 - (k + 1) from by omega] at hbt
                  rw [← hbt] at hst
                  have hsh : bits .and .u64 (((lb e 0 : Nat) : Int) / 2 ^ (63 - k)) 1 = ((lb e 0 / 2 ^ (63 - k) % 2 : Nat) : Int) := by
                    rw [← shr_one _ _ (lb_lt e 0)]
                    congr 1
                  have hR2 : R * R % M < W256 := Nat.lt_trans (Nat.mod_lt _ (by have := HA.out.2.1; omega)) HA.out.1
                  have hc2 := HM.out (R * R % M) a hR2 HA.out.2.2.1
                  obtain ⟨RR, hRR⟩ : ∃ z, z = R * R % M := ⟨_, rfl⟩
                  rw [← hRR] at hc1 hc2 hst
                  obtain ⟨RA, hRA⟩ : ∃ z, z = RR * a % M := ⟨_, rfl⟩
                  rw [← hRA] at hc2 hst
                  have HC := Lib.hid hc1
                  have HC2 := Lib.hid hc2
                  clear hRR hRA hc1 hc2
                  have t1 : (0 : Int) ≤ 63 - (k : Int) := by omega
                  have n1 : ¬ (gE = g7) := HNE.out.2.1
                  have n2 : ¬ (g7 = gE) := fun h => HNE.out.2.1 h.symm
                  have n3 : ¬ (gA = g7) := HNE.out.1
                  have n4 : ¬ (g7 = gA) := fun h => HNE.out.1 h.symm
                  generalize hbv : lb e 0 / 2 ^ (63 - k) % 2 = bt at *
                  have hb2 : bt = 0 ∨ bt = 1 := by omega
                  clear hbv hbt hR hRW hR2
                  obtain ⟨c0, c1, c2, c3⟩ := K7.out.cells
                  rcases hb2 with rfl | rfl
                  · have HST := Lib.hid (hst.1 rfl)
                    clear hst
                    go_wp2_with fail
                    refine (keep w.heap.size w (HC.out _) HB.out (Nat.le_refl _)).mono ?_
                    rintro e' w2 ⟨rfl, hb, hk⟩
                    have KA2 := Lib.hid (KA.out.below hk)
                    have KE2 := Lib.hid (KE.out.below hk)
                    have KR2 := Lib.hid (KR.out.below hk)
                    have K72 := Lib.hid (K7.out.below hk)
                    have HB2 := Lib.hid hb
                    clear KA KE KR K7 HB hb hk c0 c1 c2 c3 HC HC2
                    obtain ⟨c0, c1, c2, c3⟩ := K72.out.cells
                    obtain ⟨f0, f1, f2, f3⟩ := K72.out.fros
                    obtain ⟨x0, x1, x2, x3⟩ := KE2.out.cells
                    simp only [nv, num]
                    go_wp2_with fail
                    go_roundw
                    case rel => exact ⟨k + 1, by omega, by go_num, Bk.puto HNE.out.1 KA2.out, Bk.puto HNE.out.2.1 KE2.out, Bk.puto HNE.out.2.2.1 KR2.out, by rw [HST.out]; exact Bk.put K72.out, by have hb := HB2.out; have h7 := HNE.out.2.2.2.1; go_grown⟩
                    case measure => simp [intOf]; omega
                  · have HST := Lib.hid (hst.2 rfl)
                    clear hst
                    go_wp2_with fail
                    refine (keep w.heap.size w (HC.out _) HB.out (Nat.le_refl _)).mono ?_
                    rintro e' w2 ⟨rfl, hb, hk⟩
                    have KA2 := Lib.hid (KA.out.below hk)
                    have KE2 := Lib.hid (KE.out.below hk)
                    have KR2 := Lib.hid (KR.out.below hk)
                    have K72 := Lib.hid (K7.out.below hk)
                    have HB2 := Lib.hid hb
                    clear KA KE KR K7 HB hb hk c0 c1 c2 c3 HC
                    obtain ⟨c0, c1, c2, c3⟩ := K72.out.cells
                    obtain ⟨f0, f1, f2, f3⟩ := K72.out.fros
                    obtain ⟨x0, x1, x2, x3⟩ := KE2.out.cells
                    obtain ⟨y0, y1, y2, y3⟩ := KA2.out.cells
                    simp only [nv, num]
                    go_wp2_with fail
                    refine (keep w.heap.size w (HC2.out _) (by have hb := HB2.out; have h7 := HNE.out.2.2.2.1; go_grown) (Nat.le_refl _)).mono ?_
                    rintro e' w3 ⟨rfl, hb, hk⟩
                    have KA3 := Lib.hid (Bk.below (Bk.puto HNE.out.1 KA2.out) hk)
                    have KE3 := Lib.hid (Bk.below (Bk.puto HNE.out.2.1 KE2.out) hk)
                    have KR3 := Lib.hid (Bk.below (Bk.puto HNE.out.2.2.1 KR2.out) hk)
                    have K73 := Lib.hid (Bk.below (Bk.put K72.out) hk)
                    have HB3 := Lib.hid hb
                    clear KA2 KE2 KR2 K72 HB2 hb hk c0 c1 c2 c3 f0 f1 f2 f3 x0 x1 x2 x3 y0 y1 y2 y3 HC2
                    obtain ⟨c0, c1, c2, c3⟩ := K73.out.cells
                    obtain ⟨f0, f1, f2, f3⟩ := K73.out.fros
                    simp only [nv, num]
                    go_wp2_with fail
                    go_roundw
                    case rel => exact ⟨k + 1, by omega, by go_num, Bk.puto HNE.out.1 KA3.out, Bk.puto HNE.out.2.1 KE3.out, Bk.puto HNE.out.2.2.1 KR3.out, by rw [HST.out]; exact Bk.put K73.out, by have hb := HB3.out; have h7 := HNE.out.2.2.2.1; go_grown⟩
                    case measure => simp [intOf]; omega
                · obtain rfl : k = 64 := by omega
                  clear hlt hk
                  rw [show 64 - 64 = 0 from rfl] at K7
                  go_wp2_with fail
                  rw [rounds_succ]
                  obtain ⟨c0, c1, c2, c3⟩ := K7.out.cells
                  obtain ⟨f0, f1, f2, f3⟩ := KR.out.fros
                  obtain ⟨x0, x1, x2, x3⟩ := KR.out.cells
                  generalize hfin : a ^ (e / 2 ^ 0) % M = fin at *
                  go_wp2_with fail
                  refine ret_cell rfl gR fin rfl (Bk.put KR.out) rfl ⟨by rw [← hfin, HRES.out, Nat.pow_zero, Nat.div_one]; rfl, ?_⟩
                  have hb := HB.out
                  have h7 := HNE.out.2.2.2.2
                  go_grown
set_option maxHeartbeats 16000000 in
theorem inv_any (m : Int) (a : Nat) (ha : a < W256) (w : World) :
    Calls Tryz.prog 157 #[.int .i64 m, nv a] w fun e w' => e = .returned (if a % md m = 0 then .tuple #[nv 0, .int .i64 61] else .tuple #[nv (a ^ (md m - 2) % md m), .int .i64 0]) ∧ Below w.heap.size w w' := by
  have hM := md_or m
  obtain ⟨hMW, hM2, hM3, hMp⟩ := md_lt hM
  have HM := Lib.hid (mod_any m)
  have HP := Lib.hid (pow_any m a (md m - 2) ha (by omega))
  generalize md m = M at *
  have hr : a % M < W256 := Nat.lt_trans (Nat.mod_lt _ (by omega)) hMW
  have HL := Lib.hid (left_any a M ha hMW (by omega))
  have HMI := Lib.hid (minus_nv M 2 hMW (by decide))
  obtain ⟨r, hrr⟩ : ∃ z, z = a % M := ⟨_, rfl⟩
  rw [← hrr] at HL hr ⊢
  have HA := Lib.hid (And.intro hMW hMp)
  obtain ⟨pw, hpw⟩ : ∃ z, z = a ^ (M - 2) % M := ⟨_, rfl⟩
  rw [← hpw] at HP ⊢
  have HEQ : Hid (∀ w, (Op.equalIn 10000 24 (.agg #[.int .u64 (lb r 0 : Nat), .int .u64 (lb r 1 : Nat), .int .u64 (lb r 2 : Nat), .int .u64 (lb r 3 : Nat)]) (.agg #[.int .u64 0, .int .u64 0, .int .u64 0, .int .u64 0])).run Tryz.prog w = .ok (decide (r = 0)) w) := Lib.hid fun w => eqN r 0 hr (by decide) w
  clear hM hMW hM2 hM3 hMp ha hrr hpw hr
  obtain ⟨RV, hRV⟩ : ∃ z, z = if r = 0 then Value.tuple #[nv 0, .int .i64 61] else .tuple #[nv pw, .int .i64 0] := ⟨_, rfl⟩
  rw [← hRV]
  have HRV := Lib.hid hRV
  clear hRV
  simp only [nv, num] at HL HP ⊢
  go_enter Tryz.func157, Tryz.ntmps157
  go_wp2_with fail
  refine (keep w.heap.size w (HM.out _) (by go_grown) (Nat.le_refl _)).mono ?_
  rintro e w1 ⟨rfl, hb, hk⟩
  have KA : Hid (Bk 24 w1 w.heap.size (cs4 a)) := Lib.hid (Bk.below (Bk.alloc (Bk.new rfl)) hk)
  have KR : Hid (Bk 24 w1 (w.heap.size + 1) cs0) := Lib.hid (Bk.below (Bk.new (by simp)) hk)
  have HB := Lib.hid hb
  clear hk hb HM
  obtain ⟨i0, i1, i2, i3⟩ := KA.out.cellsA
  simp only [nv, num]
  go_wp2_with fail
  refine (keep w.heap.size w (HL.out _) (by have hb := HB.out; have hs := hb.size; go_grown) (Nat.le_refl _)).mono ?_
  rintro e w2 ⟨rfl, hb, hk⟩
  have K2A := Lib.hid (Bk.below (Bk.alloc KA.out) hk)
  have K2R := Lib.hid (Bk.below (Bk.alloc KR.out) hk)
  have K2M : Hid (Bk 24 w2 w1.heap.size (cs4 M)) := Lib.hid (Bk.below (Bk.new rfl) hk)
  have HB2 := Lib.hid hb
  clear hk hb i0 i1 i2 i3 HL KA KR HB
  have heq := HEQ.out
  by_cases hz : r = 0
  · have h1 : decide (r = 0) = true := by simp [hz]
    rw [h1] at heq
    have HV : Hid (RV = .tuple #[nv 0, .int .i64 61]) := Lib.hid (by rw [HRV.out, if_pos hz])
    clear hz h1 HEQ HRV
    obtain ⟨j0, j1, j2, j3⟩ := K2R.out.cells
    obtain ⟨f0, f1, f2, f3⟩ := K2R.out.fros
    go_wp2_with fail
    refine ret_cell2 rfl (w.heap.size + 1) 0 (.int .i64 61) rfl rfl (Bk.put K2R.out) rfl ⟨by rw [HV.out], ?_⟩
    have hb := HB2.out
    go_grown
  · have h1 : decide (r = 0) = false := by simp [hz]
    rw [h1] at heq
    have HV : Hid (RV = .tuple #[nv pw, .int .i64 0]) := Lib.hid (by rw [HRV.out, if_neg hz])
    clear hz h1 HEQ HRV
    obtain ⟨j0, j1, j2, j3⟩ := K2M.out.cells
    go_wp2_with fail
    refine (keep w.heap.size w (HMI.out _) HB2.out (Nat.le_refl _)).mono ?_
    rintro e w3 ⟨⟨d, c, hd, hc, he, rfl⟩, hb, hk⟩
    have hdM : d = M - 2 := by
      have h1 := HA.out
      unfold W256 at *
      omega
    subst hdM
    have K3A := Lib.hid (K2A.out.below hk)
    have K3R := Lib.hid (K2R.out.below hk)
    have HB3 := Lib.hid hb
    clear hk hb hd hc he heq j0 j1 j2 j3 K2A K2R K2M HB2
    obtain ⟨i0, i1, i2, i3⟩ := K3A.out.cellsA
    simp only [nv, num]
    go_wp2_with fail
    refine (keep w.heap.size w (HP.out _) (by have hb := HB3.out; have hs := hb.size; go_grown) (Nat.le_refl _)).mono ?_
    rintro e w4 ⟨rfl, hb, hk⟩
    have K4R := Lib.hid (Bk.below (Bk.alloc K3R.out) hk)
    have HB4 := Lib.hid hb
    clear hk hb i0 i1 i2 i3
    obtain ⟨j0, j1, j2, j3⟩ := K4R.out.cells
    obtain ⟨f0, f1, f2, f3⟩ := K4R.out.fros
    go_wp2_with fail
    refine ret_cell2 rfl (w.heap.size + 1) pw (.int .i64 0) rfl rfl (Bk.put K4R.out) rfl ⟨by rw [HV.out], ?_⟩
    have hb := HB4.out
    go_grown
def eight (x : Nat) : List UInt8 := [UInt8.ofNat (x / 72057594037927936), UInt8.ofNat (x / 281474976710656), UInt8.ofNat (x / 1099511627776), UInt8.ofNat (x / 4294967296), UInt8.ofNat (x / 16777216), UInt8.ofNat (x / 65536), UInt8.ofNat (x / 256), UInt8.ofNat (x)]
def nb (a : Nat) : List UInt8 := eight (lb a 3) ++ (eight (lb a 2) ++ (eight (lb a 1) ++ eight (lb a 0)))
theorem nb_length (a : Nat) : (nb a).length = 32 := rfl
def bv (l : List UInt8) : Nat := l.foldl (fun acc b => acc * 256 + b.toNat) 0
theorem bv_from : ∀ (l : List UInt8) (k : Nat), l.foldl (fun acc b => acc * 256 + b.toNat) k = k * 256 ^ l.length + bv l
  | [], k => by simp [bv]
  | b :: l, k => by
    have e : bv (b :: l) = b.toNat * 256 ^ l.length + bv l := by
      have h := bv_from l (0 * 256 + b.toNat)
      rw [Nat.zero_mul, Nat.zero_add] at h
      rw [← h]; simp [bv]
    rw [List.foldl_cons, bv_from l, e, List.length_cons, Nat.pow_succ, Nat.add_mul, Nat.mul_assoc, Nat.mul_comm 256, Nat.add_assoc]
theorem bv_append (l m : List UInt8) : bv (l ++ m) = bv l * 256 ^ m.length + bv m := by
  rw [bv, List.foldl_append, bv_from]; rfl
theorem bv_snoc (l : List UInt8) (b : UInt8) : bv (l ++ [b]) = bv l * 256 + b.toNat := by
  rw [bv_append]; simp [bv]
theorem bv_lt : ∀ l : List UInt8, bv l < 256 ^ l.length
  | [] => by simp [bv]
  | b :: l => by
    have ih := bv_lt l
    have hb := b.toNat_lt
    have e := bv_append [b] l
    rw [show [b] ++ l = b :: l from rfl, show bv [b] = b.toNat by simp [bv]] at e
    rw [e, List.length_cons, Nat.pow_succ, Nat.mul_comm (256 ^ l.length)]
    have h1 : (b.toNat + 1) * 256 ^ l.length ≤ 256 * 256 ^ l.length := Nat.mul_le_mul_right _ (by omega)
    rw [Nat.add_mul, Nat.one_mul] at h1
    omega
theorem bv_inj : ∀ (l m : List UInt8), l.length = m.length → bv l = bv m → l = m
  | [], m, h, _ => (List.eq_nil_of_length_eq_zero h.symm).symm
  | b :: l, c :: m, h, e => by
    have h' : l.length = m.length := by simpa using h
    have e1 := bv_append [b] l
    have e2 := bv_append [c] m
    rw [show [b] ++ l = b :: l from rfl, show bv [b] = b.toNat by simp [bv]] at e1
    rw [show [c] ++ m = c :: m from rfl, show bv [c] = c.toNat by simp [bv]] at e2
    have l1 := bv_lt l
    have l2 := bv_lt m
    rw [← h'] at l2 e2
    rw [e1, e2] at e
    have hp : 0 < 256 ^ l.length := Nat.pow_pos (by decide)
    have d1 : (b.toNat * 256 ^ l.length + bv l) / 256 ^ l.length = b.toNat := by rw [Nat.mul_comm, Nat.mul_add_div hp, Nat.div_eq_of_lt l1, Nat.add_zero]
    have d2 : (c.toNat * 256 ^ l.length + bv m) / 256 ^ l.length = c.toNat := by rw [Nat.mul_comm, Nat.mul_add_div hp, Nat.div_eq_of_lt l2, Nat.add_zero]
    have hbc : b.toNat = c.toNat := by rw [← d1, e, d2]
    have hb : b = c := UInt8.toNat_inj.1 hbc
    subst hb
    rw [bv_inj l m h' (by omega)]
theorem div_div (x : Nat) : x / 65536 = x / 256 / 256 ∧ x / 16777216 = x / 256 / 256 / 256 ∧ x / 4294967296 = x / 256 / 256 / 256 / 256 ∧ x / 1099511627776 = x / 256 / 256 / 256 / 256 / 256 ∧ x / 281474976710656 = x / 256 / 256 / 256 / 256 / 256 / 256 ∧ x / 72057594037927936 = x / 256 / 256 / 256 / 256 / 256 / 256 / 256 ∧ x / 18446744073709551616 = x / 256 / 256 / 256 / 256 / 256 / 256 / 256 / 256 := by
  simp only [Nat.div_div_eq_div_mul, Nat.reduceMul, and_self]
theorem eight_val {x : Nat} (h : x < 18446744073709551616) : bv (eight x) = x := by
  have h0 : x / 18446744073709551616 = 0 := Nat.div_eq_of_lt h
  obtain ⟨e1, e2, e3, e4, e5, e6, e7⟩ := div_div x
  rw [e7] at h0
  simp only [bv, eight, List.foldl_cons, List.foldl_nil, UInt8.toNat_ofNat', Nat.reducePow]
  rw [e1, e2, e3, e4, e5, e6]
  clear e1 e2 e3 e4 e5 e6 e7 h
  have g1 := Nat.div_add_mod x 256
  generalize x % 256 = r0 at *
  generalize x / 256 = x1 at *
  have g2 := Nat.div_add_mod x1 256
  generalize x1 % 256 = r1 at *
  generalize x1 / 256 = x2 at *
  have g3 := Nat.div_add_mod x2 256
  generalize x2 % 256 = r2 at *
  generalize x2 / 256 = x3 at *
  have g4 := Nat.div_add_mod x3 256
  generalize x3 % 256 = r3 at *
  generalize x3 / 256 = x4 at *
  have g5 := Nat.div_add_mod x4 256
  generalize x4 % 256 = r4 at *
  generalize x4 / 256 = x5 at *
  have g6 := Nat.div_add_mod x5 256
  generalize x5 % 256 = r5 at *
  generalize x5 / 256 = x6 at *
  have g7 := Nat.div_add_mod x6 256
  generalize x6 % 256 = r6 at *
  generalize x6 / 256 = x7 at *
  have g8 := Nat.div_add_mod x7 256
  generalize x7 % 256 = r7 at *
  generalize x7 / 256 = x8 at *
  omega
theorem nb_val {a : Nat} (h : a < W256) : bv (nb a) = a := by
  have e := v4_lb h
  unfold nb
  rw [bv_append, bv_append, bv_append, eight_val (lb_lt _ _), eight_val (lb_lt _ _), eight_val (lb_lt _ _), eight_val (lb_lt _ _)]
  have l1 : (eight (lb a 0)).length = 8 := rfl
  have l2 : (eight (lb a 1) ++ eight (lb a 0)).length = 16 := rfl
  have l3 : (eight (lb a 2) ++ (eight (lb a 1) ++ eight (lb a 0))).length = 24 := rfl
  rw [l1, l2, l3]
  simp only [Nat.reducePow]
  unfold v4 at e
  omega
theorem conv_row {w : World} {b : Nat} {l : List UInt8} {c : Nat} {T : TypeId} {z : Nat × Nat} (h : w.heap[b]? = some (.cells (l.map (fun c => Value.int .u8 (c.toNat : Int))).toArray T z)) :
    (convert 101 9 (.slice (some ⟨b, 0, none⟩) l.length c)).run Tryz.prog w = .ok (.string ⟨l.toArray⟩) w :=
  run_convert_bytes_back w 101 9 5 _ c l Tryz.underlying101 Tryz.underlying5 Tryz.underlying9 (fun j hj => by
    rw [show (⟨b, 0, none⟩ : Addr).add j = ⟨b, j, none⟩ from by unfold Addr.add; split <;> simp_all, Lib.cell_of_heap h]
    simp [hj])
theorem eight_get (x : Nat) : (eight x).map (fun c => Value.int .u8 (c.toNat : Int)) = [.int .u8 ((x : Int) / 72057594037927936 % 256), .int .u8 ((x : Int) / 281474976710656 % 256), .int .u8 ((x : Int) / 1099511627776 % 256), .int .u8 ((x : Int) / 4294967296 % 256), .int .u8 ((x : Int) / 16777216 % 256), .int .u8 ((x : Int) / 65536 % 256), .int .u8 ((x : Int) / 256 % 256), .int .u8 ((x : Int) % 256)] := by
  simp only [eight, List.map_cons, List.map_nil, UInt8.toNat_ofNat']
  have e0 : ((x / 72057594037927936 % 2 ^ 8 : Nat) : Int) = (x : Int) / 72057594037927936 % 256 := by omega
  have e1 : ((x / 281474976710656 % 2 ^ 8 : Nat) : Int) = (x : Int) / 281474976710656 % 256 := by omega
  have e2 : ((x / 1099511627776 % 2 ^ 8 : Nat) : Int) = (x : Int) / 1099511627776 % 256 := by omega
  have e3 : ((x / 4294967296 % 2 ^ 8 : Nat) : Int) = (x : Int) / 4294967296 % 256 := by omega
  have e4 : ((x / 16777216 % 2 ^ 8 : Nat) : Int) = (x : Int) / 16777216 % 256 := by omega
  have e5 : ((x / 65536 % 2 ^ 8 : Nat) : Int) = (x : Int) / 65536 % 256 := by omega
  have e6 : ((x / 256 % 2 ^ 8 : Nat) : Int) = (x : Int) / 256 % 256 := by omega
  have e7 : ((x % 2 ^ 8 : Nat) : Int) = (x : Int) % 256 := by omega
  rw [e0, e1, e2, e3, e4, e5, e6, e7]
set_option maxHeartbeats 16000000 in
theorem bytes_any (a : Nat) (w : World) :
    Calls Tryz.prog 19 #[nv a] w fun e w' => e = .returned (.string ⟨(nb a).toArray⟩) ∧ Below w.heap.size w w' := by
  have hc : (convert 101 9 (.slice (some ⟨w.heap.size + 1, 0, none⟩) 32 32)).run Tryz.prog ((w.alloc (Obj.cells #[.int .u64 (lb a 0 : Nat), .int .u64 (lb a 1 : Nat), .int .u64 (lb a 2 : Nat), .int .u64 (lb a 3 : Nat)] 24)).alloc (Obj.cells #[.int .u8 (((lb a 3 : Nat) : Int) / 72057594037927936 % 256), .int .u8 (((lb a 3 : Nat) : Int) / 281474976710656 % 256), .int .u8 (((lb a 3 : Nat) : Int) / 1099511627776 % 256), .int .u8 (((lb a 3 : Nat) : Int) / 4294967296 % 256), .int .u8 (((lb a 3 : Nat) : Int) / 16777216 % 256), .int .u8 (((lb a 3 : Nat) : Int) / 65536 % 256), .int .u8 (((lb a 3 : Nat) : Int) / 256 % 256), .int .u8 (((lb a 3 : Nat) : Int) % 256), .int .u8 (((lb a 2 : Nat) : Int) / 72057594037927936 % 256), .int .u8 (((lb a 2 : Nat) : Int) / 281474976710656 % 256), .int .u8 (((lb a 2 : Nat) : Int) / 1099511627776 % 256), .int .u8 (((lb a 2 : Nat) : Int) / 4294967296 % 256), .int .u8 (((lb a 2 : Nat) : Int) / 16777216 % 256), .int .u8 (((lb a 2 : Nat) : Int) / 65536 % 256), .int .u8 (((lb a 2 : Nat) : Int) / 256 % 256), .int .u8 (((lb a 2 : Nat) : Int) % 256), .int .u8 (((lb a 1 : Nat) : Int) / 72057594037927936 % 256), .int .u8 (((lb a 1 : Nat) : Int) / 281474976710656 % 256), .int .u8 (((lb a 1 : Nat) : Int) / 1099511627776 % 256), .int .u8 (((lb a 1 : Nat) : Int) / 4294967296 % 256), .int .u8 (((lb a 1 : Nat) : Int) / 16777216 % 256), .int .u8 (((lb a 1 : Nat) : Int) / 65536 % 256), .int .u8 (((lb a 1 : Nat) : Int) / 256 % 256), .int .u8 (((lb a 1 : Nat) : Int) % 256), .int .u8 (((lb a 0 : Nat) : Int) / 72057594037927936 % 256), .int .u8 (((lb a 0 : Nat) : Int) / 281474976710656 % 256), .int .u8 (((lb a 0 : Nat) : Int) / 1099511627776 % 256), .int .u8 (((lb a 0 : Nat) : Int) / 4294967296 % 256), .int .u8 (((lb a 0 : Nat) : Int) / 16777216 % 256), .int .u8 (((lb a 0 : Nat) : Int) / 65536 % 256), .int .u8 (((lb a 0 : Nat) : Int) / 256 % 256), .int .u8 (((lb a 0 : Nat) : Int) % 256)] 100)) = .ok (.string ⟨(nb a).toArray⟩) _ :=
    conv_row (l := nb a) (c := 32) (b := w.heap.size + 1) (T := 100) (z := (0, 0)) (by
      have hm : (nb a).map (fun c => Value.int .u8 (c.toNat : Int)) = [.int .u8 (((lb a 3 : Nat) : Int) / 72057594037927936 % 256), .int .u8 (((lb a 3 : Nat) : Int) / 281474976710656 % 256), .int .u8 (((lb a 3 : Nat) : Int) / 1099511627776 % 256), .int .u8 (((lb a 3 : Nat) : Int) / 4294967296 % 256), .int .u8 (((lb a 3 : Nat) : Int) / 16777216 % 256), .int .u8 (((lb a 3 : Nat) : Int) / 65536 % 256), .int .u8 (((lb a 3 : Nat) : Int) / 256 % 256), .int .u8 (((lb a 3 : Nat) : Int) % 256), .int .u8 (((lb a 2 : Nat) : Int) / 72057594037927936 % 256), .int .u8 (((lb a 2 : Nat) : Int) / 281474976710656 % 256), .int .u8 (((lb a 2 : Nat) : Int) / 1099511627776 % 256), .int .u8 (((lb a 2 : Nat) : Int) / 4294967296 % 256), .int .u8 (((lb a 2 : Nat) : Int) / 16777216 % 256), .int .u8 (((lb a 2 : Nat) : Int) / 65536 % 256), .int .u8 (((lb a 2 : Nat) : Int) / 256 % 256), .int .u8 (((lb a 2 : Nat) : Int) % 256), .int .u8 (((lb a 1 : Nat) : Int) / 72057594037927936 % 256), .int .u8 (((lb a 1 : Nat) : Int) / 281474976710656 % 256), .int .u8 (((lb a 1 : Nat) : Int) / 1099511627776 % 256), .int .u8 (((lb a 1 : Nat) : Int) / 4294967296 % 256), .int .u8 (((lb a 1 : Nat) : Int) / 16777216 % 256), .int .u8 (((lb a 1 : Nat) : Int) / 65536 % 256), .int .u8 (((lb a 1 : Nat) : Int) / 256 % 256), .int .u8 (((lb a 1 : Nat) : Int) % 256), .int .u8 (((lb a 0 : Nat) : Int) / 72057594037927936 % 256), .int .u8 (((lb a 0 : Nat) : Int) / 281474976710656 % 256), .int .u8 (((lb a 0 : Nat) : Int) / 1099511627776 % 256), .int .u8 (((lb a 0 : Nat) : Int) / 4294967296 % 256), .int .u8 (((lb a 0 : Nat) : Int) / 16777216 % 256), .int .u8 (((lb a 0 : Nat) : Int) / 65536 % 256), .int .u8 (((lb a 0 : Nat) : Int) / 256 % 256), .int .u8 (((lb a 0 : Nat) : Int) % 256)] := by
        unfold nb
        rw [List.map_append, List.map_append, List.map_append, eight_get, eight_get, eight_get, eight_get]
        rfl
      rw [hm]
      exact Bk.new (by simp))
  simp only [nv, num]
  generalize lb a 0 = A0 at *
  generalize lb a 1 = A1 at *
  generalize lb a 2 = A2 at *
  generalize lb a 3 = A3 at *
  generalize nb a = res at *
  go_enter Tryz.func19, Tryz.ntmps19
  have HC := Lib.hid hc
  clear hc
  go_wp2_with fail
  refine wp_loop_rounds 33 ?_
  iterate 32 (rw [rounds_succ]; go_wp2_with fail)
  rw [rounds_succ]
  have hc := HC.out
  go_wp2_with fail
  go_ret
  exact ⟨rfl, by go_grown⟩
def pend (n i : Nat) : Nat := (8 - (n - i) % 8) % 8
theorem pend_next {n i : Nat} (h : i < n) : ((n - 1 - i) % 8 = 0 → pend n i = 7 ∧ pend n (i + 1) = 0) ∧ ((n - 1 - i) % 8 ≠ 0 → pend n (i + 1) = pend n i + 1 ∧ pend n i < 7) := by
  unfold pend
  omega
theorem or_byte {x b : Nat} (hx : x < 18446744073709551616) (h8 : x % 256 = 0) (hb : b < 256) : bits .or .u64 (x : Int) (b : Int) = ((x + b : Nat) : Int) := by
  rw [bits_or_u64_nat x b hx (by omega)]
  congr 1
  have h := Nat.two_pow_add_eq_or_of_lt (i := 8) (b := b) (by simpa using hb) (x / 256)
  have e : 2 ^ 8 * (x / 256) = x := by omega
  rw [e] at h
  exact h.symm
set_option maxHeartbeats 16000000 in
theorem reduce_any (m : Int) (s : List UInt8) (hs : s.length ≤ 140737488351232) (w : World) :
    Calls Tryz.prog 72 #[.int .i64 m, .string ⟨s.toArray⟩] w fun e w' => e = .returned (nv (bv s % md m)) ∧ Below w.heap.size w w' := by
  have hM := md_or m
  obtain ⟨hMW, hM2, hM3, hMp⟩ := md_lt hM
  have HM := Lib.hid (mod_any m)
  generalize md m = M at *
  have HA := Lib.hid (And.intro hM (And.intro hMW hMp))
  obtain ⟨res, hres⟩ : ∃ z, z = bv s % M := ⟨_, rfl⟩
  rw [← hres]
  have HRES := Lib.hid hres
  clear hres hM hMW hM2 hM3 hMp
  have hsz : (⟨s.toArray⟩ : ByteArray).size = s.length := by simp [ByteArray.size]
  have hst : ∀ i (h : i < s.length), (⟨s.toArray⟩ : ByteArray)[i]'(by rw [hsz]; exact h) = s[i] := fun i h => by simp [ByteArray.getElem_eq_getElem_data]
  obtain ⟨S, hS⟩ : ∃ S, S = (⟨s.toArray⟩ : ByteArray) := ⟨_, rfl⟩
  rw [← hS]
  have hSn : S.size = s.length := by rw [hS]; exact hsz
  have hSi : ∀ i (h : i < S.size) (h2 : i < s.length), S[i] = s[i] := fun i h h2 => by subst hS; exact hst i h2
  have HS := Lib.hid hSi
  have HN := Lib.hid (And.intro hSn hs)
  clear hsz hst hS hSi hSn hs
  simp only [nv, num]
  go_enter Tryz.func72, Tryz.ntmps72
  go_wp2_with fail
  refine (keep w.heap.size w (HM.out _) (by go_grown) (Nat.le_refl _)).mono ?_
  rintro e w1 ⟨rfl, hb, hk⟩
  have KR : Hid (Bk 24 w1 w.heap.size cs0) := Lib.hid (Bk.below (Bk.new rfl) hk)
  have HB := Lib.hid hb
  clear hk hb HM
  simp only [nv, num]
  go_wp2_with fail
  have K2R : Hid (Bk 24 ((w1.alloc (.cells #[.int .u64 (lb M 0 : Nat), .int .u64 (lb M 1 : Nat), .int .u64 (lb M 2 : Nat), .int .u64 (lb M 3 : Nat)] 24)).alloc (.cells #[.int .u64 0, .int .u64 0, .int .u64 0, .int .u64 0] 24)) w.heap.size cs0) := Lib.hid (Bk.alloc (Bk.alloc KR.out))
  have K2M : Hid (Bk 24 ((w1.alloc (.cells #[.int .u64 (lb M 0 : Nat), .int .u64 (lb M 1 : Nat), .int .u64 (lb M 2 : Nat), .int .u64 (lb M 3 : Nat)] 24)).alloc (.cells #[.int .u64 0, .int .u64 0, .int .u64 0, .int .u64 0] 24)) w1.heap.size (cs4 M)) := Lib.hid (Bk.alloc (Bk.new rfl))
  have K26 : Hid (Bk 24 ((w1.alloc (.cells #[.int .u64 (lb M 0 : Nat), .int .u64 (lb M 1 : Nat), .int .u64 (lb M 2 : Nat), .int .u64 (lb M 3 : Nat)] 24)).alloc (.cells #[.int .u64 0, .int .u64 0, .int .u64 0, .int .u64 0] 24)) (w1.heap.size + 1) (cs4 0)) := Lib.hid (Bk.new (by simp))
  have HB2 : Hid (Below w.heap.size w ((w1.alloc (.cells #[.int .u64 (lb M 0 : Nat), .int .u64 (lb M 1 : Nat), .int .u64 (lb M 2 : Nat), .int .u64 (lb M 3 : Nat)] 24)).alloc (.cells #[.int .u64 0, .int .u64 0, .int .u64 0, .int .u64 0] 24))) := Lib.hid (by have hb := HB.out; have hs := hb.size; go_grown)
  have HNE : Hid (w.heap.size ≠ w1.heap.size + 1 ∧ w1.heap.size ≠ w1.heap.size + 1 ∧ w.heap.size ≤ w1.heap.size + 1) := Lib.hid ⟨by have := HB.out.size; omega, by omega, by have := HB.out.size; omega⟩
  clear KR HB
  generalize ((w1.alloc (.cells #[.int .u64 (lb M 0 : Nat), .int .u64 (lb M 1 : Nat), .int .u64 (lb M 2 : Nat), .int .u64 (lb M 3 : Nat)] 24)).alloc (.cells #[.int .u64 0, .int .u64 0, .int .u64 0, .int .u64 0] 24)) = wr0 at K2R K2M K26 HB2 ⊢
  obtain ⟨gM, hgM⟩ : ∃ z, z = w1.heap.size := ⟨_, rfl⟩
  obtain ⟨g6, hg6⟩ : ∃ z, z = w1.heap.size + 1 := ⟨_, rfl⟩
  rw [← hg6] at K26 HNE ⊢
  rw [← hgM] at K2M HNE ⊢
  clear hgM hg6
  go_loopw [7, 13] (fun L c wr => ∃ (i l R : Nat), i ≤ S.size ∧ c = .int .i64 (i : Int) ∧ L = .int .u64 (l : Int) ∧ l < 256 ^ pend S.size i ∧ R < M ∧ (R * 256 ^ pend S.size i + l) % M = bv (s.take i) % M ∧ Bk 24 wr w.heap.size cs0 ∧ Bk 24 wr gM (cs4 M) ∧ Bk 24 wr g6 (cs4 R) ∧ Below w.heap.size w wr) (fun _ c _ => S.size - (intOf c).toNat)
  case atStart => exact ⟨0, 0, 0, Nat.zero_le _, rfl, rfl, Nat.pow_pos (by decide), by have := HA.out.2.2; omega, by simp [bv], K2R.out, K2M.out, K26.out, HB2.out⟩
  case round =>
    clear K2R K2M K26 HB2
    obtain ⟨i, l, R, hi, rfl, rfl, hl, hR, hv, kr, km, k6, hb⟩ := hrel
    have KR := Lib.hid kr
    have KM := Lib.hid km
    have K6 := Lib.hid k6
    have HB := Lib.hid hb
    clear kr km k6 hb
    have hN := HN.out
    by_cases hlt : i < S.size
    · have hix : i < s.length := by omega
      have hby := HS.out i hlt hix
      obtain ⟨b, hbb⟩ : ∃ b, b = s[i].toNat := ⟨_, rfl⟩
      have hb256 : b < 256 := by rw [hbb]; exact s[i].toNat_lt
      have hiv : ((S[i]).toNat : Int) = (b : Int) := by rw [hby, ← hbb]
      have htk : bv (s.take (i + 1)) = bv (s.take i) * 256 + b := by
        rw [List.take_succ_eq_append_getElem hix, bv_snoc, hbb]
      have hpn := pend_next hlt
      have hp7 : pend S.size i ≤ 7 := by unfold pend; omega
      have hl8 : l * 256 < 18446744073709551616 := by
        have h1 : 256 ^ pend S.size i ≤ 256 ^ 7 := Nat.pow_le_pow_right (by decide) hp7
        have h2 : (256 : Nat) ^ 7 = 72057594037927936 := by decide
        omega
      obtain ⟨l2, hl2⟩ : ∃ z, z = l * 256 + b := ⟨_, rfl⟩
      have a2 := or_byte (x := l * 256) (b := b) (by omega) (by omega) hb256
      rw [← hl2, show ((l * 256 : Nat) : Int) = (l : Int) * 256 from by omega] at a2
      have hl2W : l2 < 18446744073709551616 := by omega
      have aw1 : IntKind.u64.wrap ((l : Int) * 256) = (l : Int) * 256 := by rw [IntKind.wrap_u64]; omega
      have aw2 : IntKind.u64.wrap (b : Int) = (b : Int) := by rw [IntKind.wrap_u64]; omega
      have hval : bv (s.take (i + 1)) % M = ((R * 256 ^ pend S.size i + l) * 256 + b) % M := by
        rw [htk, ← mod_step (bv (s.take i)), ← hv, mod_step]
      have HALL := Lib.hid (And.intro hval (And.intro hl2 (And.intro hl2W (And.intro hl (And.intro hR (And.intro hi (And.intro hlt (And.intro hpn hb256))))))))
      have hsm : S.size ≤ 140737488351232 := by omega
      by_cases hq : (S.size - 1 - i) % 8 = 0
      · have t1 : (((S.size : Int) - 1 - (i : Int)) % 8 == 0) = true := by simp; omega
        have HQ := Lib.hid (hpn.1 hq)
        have HC := Lib.hid (behind_any R l2 M HA.out.1 hR hl2W)
        obtain ⟨R2, hR2⟩ : ∃ z, z = (R * 18446744073709551616 + l2) % M := ⟨_, rfl⟩
        rw [← hR2] at HC
        have HR2 := Lib.hid hR2
        clear hR2 hq hpn hval hl2 hl2W hl hR hi hv hN hby hbb htk hp7 hl8 hix hb256
        simp only [nv, num] at HC
        obtain ⟨c0, c1, c2, c3⟩ := K6.out.cells
        obtain ⟨j0, j1, j2, j3⟩ := KM.out.cells
        go_wp2_with fail
        refine (keep w.heap.size w (HC.out _) HB.out (Nat.le_refl _)).mono ?_
        rintro e w2 ⟨rfl, hb, hk⟩
        have LR := Lib.hid (KR.out.below hk)
        have LM := Lib.hid (KM.out.below hk)
        have L6 := Lib.hid (K6.out.below hk)
        have HB3 := Lib.hid hb
        clear hk hb c0 c1 c2 c3 j0 j1 j2 j3 KR KM K6 HB HC
        obtain ⟨c0, c1, c2, c3⟩ := L6.out.cells
        obtain ⟨f0, f1, f2, f3⟩ := L6.out.fros
        go_wp2_with fail
        obtain ⟨hval, hl2, hl2W, hl, hR, hi, hlt, hpn, hb256⟩ := HALL.out
        go_roundw
        case rel =>
          refine ⟨i + 1, 0, R2, by omega, by go_num, rfl, Nat.pow_pos (by decide), by rw [HR2.out]; exact Nat.mod_lt _ (by have := HA.out.2.2; omega), ?_, Bk.puto HNE.out.1 LR.out, Bk.puto HNE.out.2.1 LM.out, Bk.put L6.out, by have hb := HB3.out; have h7 := HNE.out.2.2; go_grown⟩
          rw [hval, HQ.out.1, HQ.out.2, Nat.pow_zero, Nat.mul_one, Nat.add_zero, HR2.out, Nat.mod_mod, hl2]
          congr 1
          have : (256 : Nat) ^ 7 = 72057594037927936 := by decide
          rw [this]
          omega
        case measure => simp [intOf]; omega
      · have t1 : (((S.size : Int) - 1 - (i : Int)) % 8 == 0) = false := by simp; omega
        have HQ := Lib.hid (hpn.2 hq)
        clear hq hpn hval hl2 hl2W hl hR hi hv hN hby hbb htk hp7 hl8 hix hb256
        go_wp2_with fail
        obtain ⟨hval, hl2, hl2W, hl, hR, hi, hlt, hpn, hb256⟩ := HALL.out
        go_roundw
        case rel =>
          refine ⟨i + 1, l2, R, by omega, by go_num, rfl, ?_, hR, ?_, KR.out, KM.out, K6.out, HB.out⟩
          · rw [HQ.out.1, Nat.pow_succ, hl2]
            have h1 : (l + 1) * 256 ≤ 256 ^ pend S.size i * 256 := Nat.mul_le_mul_right _ hl
            omega
          · rw [hval, HQ.out.1, Nat.pow_succ, hl2]
            congr 1
            rw [Nat.add_mul, Nat.mul_assoc]
            omega
        case measure => simp [intOf]; omega
    · obtain rfl : i = S.size := by omega
      have hp : pend S.size S.size = 0 := by unfold pend; omega
      rw [hp, Nat.pow_zero] at hl hv
      obtain rfl : l = 0 := by omega
      rw [Nat.mul_one, Nat.add_zero, Nat.mod_eq_of_lt hR, List.take_of_length_le (by omega), ← HRES.out] at hv
      have HV := Lib.hid hv
      clear hp hl hR hv hN hlt hi
      obtain ⟨c0, c1, c2, c3⟩ := K6.out.cells
      obtain ⟨j0, j1, j2, j3⟩ := KR.out.cells
      obtain ⟨f0, f1, f2, f3⟩ := KR.out.fros
      go_wp2_with fail
      refine ret_cell rfl w.heap.size R rfl (Bk.put KR.out) rfl ⟨by rw [HV.out]; rfl, ?_⟩
      have hb := HB.out
      go_grown
theorem nb_same {s : List UInt8} {x : Nat} (hx : x < W256) (hs : s.length = 32) : nb x = s ↔ bv s = x := by
  constructor
  · rintro rfl; exact nb_val hx
  · intro h
    exact bv_inj _ _ (by rw [nb_length, hs]) (by rw [nb_val hx, h])
set_option maxHeartbeats 16000000 in
theorem of_any (m : Int) (s : List UInt8) (hs : s.length ≤ 140737488351232) (w : World) :
    Calls Tryz.prog 18 #[.int .i64 m, .string ⟨s.toArray⟩] w fun e w' => e = .returned (if s.length = 32 ∧ bv s < md m then .tuple #[nv (bv s), .int .i64 0] else .tuple #[nv 0, .int .i64 60]) ∧ Below w.heap.size w w' := by
  have hM := md_or m
  obtain ⟨hMW, hM2, hM3, hMp⟩ := md_lt hM
  have HR := Lib.hid (reduce_any m s hs)
  generalize md m = M at *
  obtain ⟨RV, hRV⟩ : ∃ z, z = if s.length = 32 ∧ bv s < M then Value.tuple #[nv (bv s), .int .i64 0] else .tuple #[nv 0, .int .i64 60] := ⟨_, rfl⟩
  rw [← hRV]
  have HRV := Lib.hid hRV
  clear hRV
  have hrW : bv s % M < W256 := Nat.lt_trans (Nat.mod_lt _ (by omega)) hMW
  have hmod : bv s % M = bv s ↔ bv s < M := ⟨fun h => by rw [← h]; exact Nat.mod_lt _ (by omega), fun h => Nat.mod_eq_of_lt h⟩
  have HBY := Lib.hid (bytes_any (bv s % M))
  by_cases h32 : s.length = 32
  · have hsame := nb_same hrW h32
    obtain ⟨r, hr⟩ : ∃ z, z = bv s % M := ⟨_, rfl⟩
    rw [← hr] at HR HBY hsame hmod
    simp only [nv, num] at HR HBY ⊢
    have hsz : (⟨s.toArray⟩ : ByteArray).size = 32 := by simp [ByteArray.size, h32]
    have hSN : (⟨(nb r).toArray⟩ : ByteArray) = ⟨s.toArray⟩ ↔ bv s = r := by
      rw [← hsame]
      constructor
      · intro h
        injection h with h
        have := congrArg Array.toList h
        simpa using this
      · intro h; rw [h]
    generalize (⟨s.toArray⟩ : ByteArray) = S at *
    generalize (⟨(nb r).toArray⟩ : ByteArray) = NB at *
    have HX := Lib.hid (And.intro hSN (And.intro hmod h32))
    have t1 : ((S.size : Int) != 32) = false := by simp [hsz]
    clear hSN hmod h32 hsame hr hrW hs hM hMW hM2 hM3 hMp hsz
    go_enter Tryz.func18, Tryz.ntmps18
    go_wp2_with fail
    refine (keep w.heap.size w (HR.out _) (by go_grown) (Nat.le_refl _)).mono ?_
    rintro e w1 ⟨rfl, hb, hk⟩
    have KR : Hid (Bk 24 w1 w.heap.size cs0) := Lib.hid (Bk.below (Bk.new rfl) hk)
    have HB := Lib.hid hb
    clear hk hb
    go_wp2_with fail
    refine (keep w.heap.size w (HBY.out _) (by have hb := HB.out; have hs := hb.size; go_grown) (Nat.le_refl _)).mono ?_
    rintro e w2 ⟨rfl, hb, hk⟩
    have K2R := Lib.hid (Bk.below (Bk.alloc KR.out) hk)
    have K2A : Hid (Bk 24 w2 w1.heap.size (cs4 r)) := Lib.hid (Bk.below (Bk.new rfl) hk)
    have HB2 := Lib.hid hb
    clear hk hb KR HB
    obtain ⟨j0, j1, j2, j3⟩ := K2R.out.cells
    obtain ⟨f0, f1, f2, f3⟩ := K2R.out.fros
    obtain ⟨i0, i1, i2, i3⟩ := K2A.out.cells
    by_cases hNS : NB = S
    · have HV : Hid (RV = .tuple #[nv r, .int .i64 0]) := Lib.hid (by
        have h1 := HX.out.1.1 hNS
        have h2 := HX.out.2.1.1 h1.symm
        rw [HRV.out, if_pos ⟨HX.out.2.2, h2⟩, h1])
      have t2 : (NB.toList == S.toList) = true := by rw [hNS]; simp
      clear hNS HRV
      go_wp2_with fail
      refine ret_cell2 rfl w.heap.size r (.int .i64 0) rfl rfl (Bk.put K2R.out) rfl ⟨by rw [HV.out], ?_⟩
      have hb := HB2.out
      go_grown
    · have HV : Hid (RV = .tuple #[nv 0, .int .i64 60]) := Lib.hid (by
        rw [HRV.out, if_neg (fun h => hNS (HX.out.1.2 (HX.out.2.1.2 h.2).symm))])
      have t2 : (NB.toList == S.toList) = false := by rw [← beq_toListBytes]; show (NB.data == S.data) = false; exact beq_eq_false_iff_ne.2 (fun h => hNS (ByteArray.ext h))
      clear hNS HRV
      go_wp2_with fail
      refine ret_cell2 rfl w.heap.size 0 (.int .i64 60) rfl rfl (Bk.put K2R.out) rfl ⟨by rw [HV.out], ?_⟩
      have hb := HB2.out
      go_grown
  · have HV : Hid (RV = .tuple #[nv 0, .int .i64 60]) := Lib.hid (by rw [HRV.out, if_neg (fun h => h32 h.1)])
    have t1 : (((⟨s.toArray⟩ : ByteArray).size : Int) != 32) = true := by simp [ByteArray.size]; omega
    generalize (⟨s.toArray⟩ : ByteArray) = S at *
    clear HRV h32 hmod hrW hs hM hMW hM2 hM3 hMp HBY HR
    go_enter Tryz.func18, Tryz.ntmps18
    go_wp2_with fail
    refine ret_cell2 rfl w.heap.size 0 (.int .i64 60) rfl rfl (Bk.new rfl) rfl ⟨by rw [HV.out], by go_grown⟩
end Go.Proofs.YtpggkfdijmnmiaaGreat
