/- Powers modulo. No condition but that each number is below 2 to the 256. Two numbers are compared. No condition. Inverses: by a power. No condition but that the number is below 2 to the 256. A region that draws its order, shown by what holds whichever operations have come up: each operation is run once, from any state of that kind. General, of any program. No condition. -/
import Derived.Laws.Shifts
import Derived.Laws.BitsAllLaws
import Derived.LoopTactic
import Derived.Test.YtpggkfdijmnmiaaGreatZum02
import Derived.ChangeKeysEq
import Derived.Test.YtpggkfdijmnmiaaGreatZum00
set_option linter.unusedVariables false
set_option linter.unusedSimpArgs false
set_option maxRecDepth 100000
namespace Go.Proofs.YtpggkfdijmnmiaaGreat
open Go.RowKit Limbs
theorem bit_mod (x k : Nat) (hk : k < 64) : x % 18446744073709551616 / 2 ^ k % 2 = x / 2 ^ k % 2 := by
  have h := Nat.testBit_mod_two_pow x 64 k
  rw [Nat.testBit_eq_decide_div_mod_eq, Nat.testBit_eq_decide_div_mod_eq] at h
  simp only [hk, decide_true, Bool.true_and, decide_eq_decide] at h
  have e : (2 : Nat) ^ 64 = 18446744073709551616 := by decide
  rw [e] at h
  omega
theorem lb_bit (e j k : Nat) (hj : j < 4) (hk : k < 64) : lb e j / 2 ^ k % 2 = e / 2 ^ (64 * j + k) % 2 := by
  have h : j = 0 ∨ j = 1 ∨ j = 2 ∨ j = 3 := by omega
  have p (n : Nat) : e / 2 ^ n / 2 ^ k = e / 2 ^ (n + k) := by rw [Nat.div_div_eq_div_mul, Nat.pow_add]
  rcases h with rfl | rfl | rfl | rfl
  · show e % 18446744073709551616 / 2 ^ k % 2 = _
    rw [bit_mod _ _ hk]; simp
  · show e / 18446744073709551616 % 18446744073709551616 / 2 ^ k % 2 = _
    rw [bit_mod _ _ hk]; exact congrArg (· % 2) (p 64)
  · show e / 340282366920938463463374607431768211456 % 18446744073709551616 / 2 ^ k % 2 = _
    rw [bit_mod _ _ hk]; exact congrArg (· % 2) (p 128)
  · show e / 6277101735386680763835789423207666416102355444464034512896 % 18446744073709551616 / 2 ^ k % 2 = _
    rw [bit_mod _ _ hk]; exact congrArg (· % 2) (p 192)
theorem pow_step (a e n M : Nat) (r : Nat) (hr : r = a ^ (e / 2 ^ (n + 1)) % M) : (e / 2 ^ n % 2 = 0 → a ^ (e / 2 ^ n) % M = r * r % M) ∧ (e / 2 ^ n % 2 = 1 → a ^ (e / 2 ^ n) % M = r * r % M * a % M) := by
  have h : e / 2 ^ (n + 1) = e / 2 ^ n / 2 := by rw [Nat.pow_succ, Nat.div_div_eq_div_mul]
  rw [h] at hr
  generalize e / 2 ^ n = x at *
  have hs : a ^ (x / 2 * 2) % M = r * r % M := by
    rw [Nat.pow_mul, hr, Nat.pow_two, ← Nat.mul_mod]
  constructor
  · intro h0
    rw [← hs]; congr 2; omega
  · intro h1
    have hm := mod_step (a ^ (x / 2 * 2)) a 0 M
    rw [hs] at hm
    simp only [Nat.add_zero] at hm
    rw [hm, ← Nat.pow_succ]; congr 2; omega
theorem shr_one (x k : Nat) (hx : x < 18446744073709551616) : bits .and .u64 ((x / 2 ^ k : Nat) : Int) 1 = ((x / 2 ^ k % 2 : Nat) : Int) := by
  have h := bits_and_u64_nat (x / 2 ^ k) 1 (Nat.lt_of_le_of_lt (Nat.div_le_self _ _) hx) (by decide)
  have e : (x / 2 ^ k) &&& 1 = x / 2 ^ k % 2 := Nat.and_one_is_mod _
  rw [e] at h
  exact h
set_option maxHeartbeats 16000000 in
theorem pow_any (m : Int) (a e : Nat) (ha : a < W256) (he : e < W256) (w : World) :
    Calls Tryz.prog 183 #[.int .i64 m, nv a, nv e] w fun e' w' => e' = .returned (nv (a ^ e % md m)) ∧ Below w.heap.size w w' := by
  have hM := md_or m
  obtain ⟨hMW, hM2, hM3, hMp⟩ := md_lt hM
  have HM := Lib.hid (show ∀ x y, x < W256 → y < W256 → ∀ w, Calls Tryz.prog 156 #[.int .i64 m, .agg (cs4 x), .agg (cs4 y)] w fun e w' => e = .returned (nv (x * y % md m)) ∧ Below w.heap.size w w' from fun x y hx hy w => mul_any m x y hx hy w)
  generalize md m = M at *
  have HA := Lib.hid (And.intro hMW (And.intro hMp (And.intro ha he)))
  obtain ⟨res, hres⟩ : ∃ z, z = a ^ e % M := ⟨_, rfl⟩
  rw [← hres]
  have HRES := Lib.hid hres
  have h1 : Bk 24 (w.alloc (.cells #[.int .u64 1, .int .u64 0, .int .u64 0, .int .u64 0] 24)) w.heap.size (cs4 (a ^ (e / 2 ^ 256) % M)) := by
    have : e / 2 ^ 256 = 0 := Nat.div_eq_of_lt (by have := he; unfold W256 at this; simpa using this)
    rw [this, Nat.pow_zero, Nat.mod_eq_of_lt (by omega)]
    exact Bk.new rfl
  have e1 : cs4 (a ^ (e / 2 ^ 256) % M) = #[.int .u64 1, .int .u64 0, .int .u64 0, .int .u64 0] := by
    have h2 := h1
    unfold Bk at h2
    rw [Go.heap_alloc_new] at h2
    injection h2 with h2
    injection h2 with h2
    exact h2.symm
  have HE1 := Lib.hid e1
  clear hres h1 e1 hM hMW hM2 hM3 hMp ha he
  simp only [nv, num]
  go_enter Tryz.func183, Tryz.ntmps183
  go_wp2_with fail
  have KA : Hid (Bk 24 ((((w.alloc (.cells #[.int .u64 (lb a 0 : Nat), .int .u64 (lb a 1 : Nat), .int .u64 (lb a 2 : Nat), .int .u64 (lb a 3 : Nat)] 24)).alloc (.cells #[.int .u64 (lb e 0 : Nat), .int .u64 (lb e 1 : Nat), .int .u64 (lb e 2 : Nat), .int .u64 (lb e 3 : Nat)] 24)).alloc (.cells #[.int .u64 0, .int .u64 0, .int .u64 0, .int .u64 0] 24)).alloc (.cells #[.int .u64 1, .int .u64 0, .int .u64 0, .int .u64 0] 24)) w.heap.size (cs4 a)) := Lib.hid (Bk.alloc (Bk.alloc (Bk.alloc (Bk.new rfl))))
  have KE : Hid (Bk 24 ((((w.alloc (.cells #[.int .u64 (lb a 0 : Nat), .int .u64 (lb a 1 : Nat), .int .u64 (lb a 2 : Nat), .int .u64 (lb a 3 : Nat)] 24)).alloc (.cells #[.int .u64 (lb e 0 : Nat), .int .u64 (lb e 1 : Nat), .int .u64 (lb e 2 : Nat), .int .u64 (lb e 3 : Nat)] 24)).alloc (.cells #[.int .u64 0, .int .u64 0, .int .u64 0, .int .u64 0] 24)).alloc (.cells #[.int .u64 1, .int .u64 0, .int .u64 0, .int .u64 0] 24)) (w.heap.size + 1) (cs4 e)) := Lib.hid (Bk.alloc (Bk.alloc (Bk.new (by simp))))
  have KR : Hid (Bk 24 ((((w.alloc (.cells #[.int .u64 (lb a 0 : Nat), .int .u64 (lb a 1 : Nat), .int .u64 (lb a 2 : Nat), .int .u64 (lb a 3 : Nat)] 24)).alloc (.cells #[.int .u64 (lb e 0 : Nat), .int .u64 (lb e 1 : Nat), .int .u64 (lb e 2 : Nat), .int .u64 (lb e 3 : Nat)] 24)).alloc (.cells #[.int .u64 0, .int .u64 0, .int .u64 0, .int .u64 0] 24)).alloc (.cells #[.int .u64 1, .int .u64 0, .int .u64 0, .int .u64 0] 24)) (w.heap.size + 1 + 1) cs0) := Lib.hid (Bk.alloc (Bk.new (by simp)))
  have K7 : Hid (Bk 24 ((((w.alloc (.cells #[.int .u64 (lb a 0 : Nat), .int .u64 (lb a 1 : Nat), .int .u64 (lb a 2 : Nat), .int .u64 (lb a 3 : Nat)] 24)).alloc (.cells #[.int .u64 (lb e 0 : Nat), .int .u64 (lb e 1 : Nat), .int .u64 (lb e 2 : Nat), .int .u64 (lb e 3 : Nat)] 24)).alloc (.cells #[.int .u64 0, .int .u64 0, .int .u64 0, .int .u64 0] 24)).alloc (.cells #[.int .u64 1, .int .u64 0, .int .u64 0, .int .u64 0] 24)) (w.heap.size + 1 + 1 + 1) (cs4 (a ^ (e / 2 ^ 256) % M))) := Lib.hid (by rw [HE1.out]; exact Bk.new (by simp))
  have HB : Hid (Below w.heap.size w ((((w.alloc (.cells #[.int .u64 (lb a 0 : Nat), .int .u64 (lb a 1 : Nat), .int .u64 (lb a 2 : Nat), .int .u64 (lb a 3 : Nat)] 24)).alloc (.cells #[.int .u64 (lb e 0 : Nat), .int .u64 (lb e 1 : Nat), .int .u64 (lb e 2 : Nat), .int .u64 (lb e 3 : Nat)] 24)).alloc (.cells #[.int .u64 0, .int .u64 0, .int .u64 0, .int .u64 0] 24)).alloc (.cells #[.int .u64 1, .int .u64 0, .int .u64 0, .int .u64 0] 24))) := Lib.hid (by go_grown)
  clear HE1
  generalize ((((w.alloc (.cells #[.int .u64 (lb a 0 : Nat), .int .u64 (lb a 1 : Nat), .int .u64 (lb a 2 : Nat), .int .u64 (lb a 3 : Nat)] 24)).alloc (.cells #[.int .u64 (lb e 0 : Nat), .int .u64 (lb e 1 : Nat), .int .u64 (lb e 2 : Nat), .int .u64 (lb e 3 : Nat)] 24)).alloc (.cells #[.int .u64 0, .int .u64 0, .int .u64 0, .int .u64 0] 24)).alloc (.cells #[.int .u64 1, .int .u64 0, .int .u64 0, .int .u64 0] 24)) = wr0 at KA KE KR K7 HB ⊢
  obtain ⟨gE, hgE⟩ : ∃ z, z = w.heap.size + 1 := ⟨_, rfl⟩
  obtain ⟨gR, hgR⟩ : ∃ z, z = w.heap.size + 1 + 1 := ⟨_, rfl⟩
  obtain ⟨g7, hg7⟩ : ∃ z, z = w.heap.size + 1 + 1 + 1 := ⟨_, rfl⟩
  rw [← hgE] at KE
  rw [← hgR] at KR
  rw [← hg7] at K7
  rw [← hg7, ← hgR, ← hgE]
  obtain ⟨gA, hgA⟩ : ∃ z, z = w.heap.size := ⟨_, rfl⟩
  rw [← hgA] at KA ⊢
  have HNE : Hid (gA ≠ g7 ∧ gE ≠ g7 ∧ gR ≠ g7 ∧ w.heap.size ≤ g7 ∧ w.heap.size ≤ gR) := Lib.hid ⟨by omega, by omega, by omega, by omega, by omega⟩
  clear hgE hgR hg7 hgA
  refine wp_loop_rounds 5 ?_
  rw [rounds_succ]
  go_wp2_with fail
  go_loopw [14] (fun b wr => ∃ k : Nat, k ≤ 64 ∧ b = .int .i64 (k : Int) ∧ Bk 24 wr gA (cs4 a) ∧ Bk 24 wr gE (cs4 e) ∧ Bk 24 wr gR cs0 ∧ Bk 24 wr g7 (cs4 (a ^ (e / 2 ^ (256 - k)) % M)) ∧ Below w.heap.size w wr) (fun b _ => 64 - (intOf b).toNat)
  case atStart => exact ⟨0, Nat.zero_le _, rfl, KA.out, KE.out, KR.out, K7.out, HB.out⟩
  case round =>
    clear KA KE KR K7 HB
    obtain ⟨k, hk, rfl, ka, ke, kr, k7, hb⟩ := hrel
    have KA := Lib.hid ka
    have KE := Lib.hid ke
    have KR := Lib.hid kr
    have K7 := Lib.hid k7
    have HB := Lib.hid hb
    clear ka ke kr k7 hb
    by_cases hlt : k < 64
    · obtain ⟨R, hR⟩ : ∃ z, z = a ^ (e / 2 ^ (256 - k)) % M := ⟨_, rfl⟩
      rw [← hR] at K7
      have hRW : R < W256 := by rw [hR]; exact Nat.lt_trans (Nat.mod_lt _ (by have := HA.out.2.1; omega)) HA.out.1
      have hc1 := HM.out R R hRW hRW
      have hst := pow_step a e (256 - (k + 1)) M R (by rw [hR, show 256 - (k + 1) + 1 = 256 - k from by omega])
      have hbt := lb_bit e 3 (63 - k) (by decide) (by omega)
      rw [show 64 * 3 + (63 - k) = 256 - (k + 1) from by omega] at hbt
      rw [← hbt] at hst
      have hsh : bits .and .u64 (((lb e 3 : Nat) : Int) / 2 ^ (63 - k)) 1 = ((lb e 3 / 2 ^ (63 - k) % 2 : Nat) : Int) := by
        rw [← shr_one _ _ (lb_lt e 3)]
        congr 1
      have hR2 : R * R % M < W256 := Nat.lt_trans (Nat.mod_lt _ (by have := HA.out.2.1; omega)) HA.out.1
      have hc2 := HM.out (R * R % M) a hR2 HA.out.2.2.1
      obtain ⟨RR, hRR⟩ : ∃ z, z = R * R % M := ⟨_, rfl⟩
      rw [← hRR] at hc1 hc2 hst
      obtain ⟨RA, hRA⟩ : ∃ z, z = RR * a % M := ⟨_, rfl⟩
      rw [← hRA] at hc2 hst
      have HC := Lib.hid hc1
      have HC2 := Lib.hid hc2
      clear hRR hRA hc1 hc2
      have t1 : (0 : Int) ≤ 63 - (k : Int) := by omega
      have n1 : ¬ (gE = g7) := HNE.out.2.1
      have n2 : ¬ (g7 = gE) := fun h => HNE.out.2.1 h.symm
      have n3 : ¬ (gA = g7) := HNE.out.1
      have n4 : ¬ (g7 = gA) := fun h => HNE.out.1 h.symm
      generalize hbv : lb e 3 / 2 ^ (63 - k) % 2 = bt at *
      have hb2 : bt = 0 ∨ bt = 1 := by omega
      clear hbv hbt hR hRW hR2
      obtain ⟨c0, c1, c2, c3⟩ := K7.out.cells
      rcases hb2 with rfl | rfl
      · have HST := Lib.hid (hst.1 rfl)
        clear hst
        go_wp2_with fail
        refine (keep w.heap.size w (HC.out _) HB.out (Nat.le_refl _)).mono ?_
        rintro e' w2 ⟨rfl, hb, hk⟩
        have KA2 := Lib.hid (KA.out.below hk)
        have KE2 := Lib.hid (KE.out.below hk)
        have KR2 := Lib.hid (KR.out.below hk)
        have K72 := Lib.hid (K7.out.below hk)
        have HB2 := Lib.hid hb
        clear KA KE KR K7 HB hb hk c0 c1 c2 c3 HC HC2
        obtain ⟨c0, c1, c2, c3⟩ := K72.out.cells
        obtain ⟨f0, f1, f2, f3⟩ := K72.out.fros
        obtain ⟨x0, x1, x2, x3⟩ := KE2.out.cells
        simp only [nv, num]
        go_wp2_with fail
        go_roundw
        case rel => exact ⟨k + 1, by omega, by go_num, Bk.puto HNE.out.1 KA2.out, Bk.puto HNE.out.2.1 KE2.out, Bk.puto HNE.out.2.2.1 KR2.out, by rw [HST.out]; exact Bk.put K72.out, by have hb := HB2.out; have h7 := HNE.out.2.2.2.1; go_grown⟩
        case measure => simp [intOf]; omega
      · have HST := Lib.hid (hst.2 rfl)
        clear hst
        go_wp2_with fail
        refine (keep w.heap.size w (HC.out _) HB.out (Nat.le_refl _)).mono ?_
        rintro e' w2 ⟨rfl, hb, hk⟩
        have KA2 := Lib.hid (KA.out.below hk)
        have KE2 := Lib.hid (KE.out.below hk)
        have KR2 := Lib.hid (KR.out.below hk)
        have K72 := Lib.hid (K7.out.below hk)
        have HB2 := Lib.hid hb
        clear KA KE KR K7 HB hb hk c0 c1 c2 c3 HC
        obtain ⟨c0, c1, c2, c3⟩ := K72.out.cells
        obtain ⟨f0, f1, f2, f3⟩ := K72.out.fros
        obtain ⟨x0, x1, x2, x3⟩ := KE2.out.cells
        obtain ⟨y0, y1, y2, y3⟩ := KA2.out.cells
        simp only [nv, num]
        go_wp2_with fail
        refine (keep w.heap.size w (HC2.out _) (by have hb := HB2.out; have h7 := HNE.out.2.2.2.1; go_grown) (Nat.le_refl _)).mono ?_
        rintro e' w3 ⟨rfl, hb, hk⟩
        have KA3 := Lib.hid (Bk.below (Bk.puto HNE.out.1 KA2.out) hk)
        have KE3 := Lib.hid (Bk.below (Bk.puto HNE.out.2.1 KE2.out) hk)
        have KR3 := Lib.hid (Bk.below (Bk.puto HNE.out.2.2.1 KR2.out) hk)
        have K73 := Lib.hid (Bk.below (Bk.put K72.out) hk)
        have HB3 := Lib.hid hb
        clear KA2 KE2 KR2 K72 HB2 hb hk c0 c1 c2 c3 f0 f1 f2 f3 x0 x1 x2 x3 y0 y1 y2 y3 HC2
        obtain ⟨c0, c1, c2, c3⟩ := K73.out.cells
        obtain ⟨f0, f1, f2, f3⟩ := K73.out.fros
        simp only [nv, num]
        go_wp2_with fail
        go_roundw
        case rel => exact ⟨k + 1, by omega, by go_num, Bk.puto HNE.out.1 KA3.out, Bk.puto HNE.out.2.1 KE3.out, Bk.puto HNE.out.2.2.1 KR3.out, by rw [HST.out]; exact Bk.put K73.out, by have hb := HB3.out; have h7 := HNE.out.2.2.2.1; go_grown⟩
        case measure => simp [intOf]; omega
    · obtain rfl : k = 64 := by omega
      clear hlt hk
      rw [show 256 - 64 = 192 from rfl] at K7
      go_wp2_with fail
      rw [rounds_succ]
      go_wp2_with fail
      go_loopw [14] (fun b wr => ∃ k : Nat, k ≤ 64 ∧ b = .int .i64 (k : Int) ∧ Bk 24 wr gA (cs4 a) ∧ Bk 24 wr gE (cs4 e) ∧ Bk 24 wr gR cs0 ∧ Bk 24 wr g7 (cs4 (a ^ (e / 2 ^ (192 - k)) % M)) ∧ Below w.heap.size w wr) (fun b _ => 64 - (intOf b).toNat)
      case atStart => exact ⟨0, Nat.zero_le _, rfl, KA.out, KE.out, KR.out, K7.out, HB.out⟩
      case round =>
        clear KA KE KR K7 HB
        obtain ⟨k, hk, rfl, ka, ke, kr, k7, hb⟩ := hrel
        have KA := Lib.hid ka
        have KE := Lib.hid ke
        have KR := Lib.hid kr
        have K7 := Lib.hid k7
        have HB := Lib.hid hb
        clear ka ke kr k7 hb
        by_cases hlt : k < 64
        · obtain ⟨R, hR⟩ : ∃ z, z = a ^ (e / 2 ^ (192 - k)) % M := ⟨_, rfl⟩
          rw [← hR] at K7
          have hRW : R < W256 := by rw [hR]; exact Nat.lt_trans (Nat.mod_lt _ (by have := HA.out.2.1; omega)) HA.out.1
          have hc1 := HM.out R R hRW hRW
          have hst := pow_step a e (192 - (k + 1)) M R (by rw [hR, show 192 - (k + 1) + 1 = 192 - k from by omega])
          have hbt := lb_bit e 2 (63 - k) (by decide) (by omega)
          rw [show 64 * 2 + (63 - k) = 192 - (k + 1) from by omega] at hbt
          rw [← hbt] at hst
          have hsh : bits .and .u64 (((lb e 2 : Nat) : Int) / 2 ^ (63 - k)) 1 = ((lb e 2 / 2 ^ (63 - k) % 2 : Nat) : Int) := by
            rw [← shr_one _ _ (lb_lt e 2)]
            congr 1
          have hR2 : R * R % M < W256 := Nat.lt_trans (Nat.mod_lt _ (by have := HA.out.2.1; omega)) HA.out.1
          have hc2 := HM.out (R * R % M) a hR2 HA.out.2.2.1
          obtain ⟨RR, hRR⟩ : ∃ z, z = R * R % M := ⟨_, rfl⟩
          rw [← hRR] at hc1 hc2 hst
          obtain ⟨RA, hRA⟩ : ∃ z, z = RR * a % M := ⟨_, rfl⟩
          rw [← hRA] at hc2 hst
          have HC := Lib.hid hc1
          have HC2 := Lib.hid hc2
          clear hRR hRA hc1 hc2
          have t1 : (0 : Int) ≤ 63 - (k : Int) := by omega
          have n1 : ¬ (gE = g7) := HNE.out.2.1
          have n2 : ¬ (g7 = gE) := fun h => HNE.out.2.1 h.symm
          have n3 : ¬ (gA = g7) := HNE.out.1
          have n4 : ¬ (g7 = gA) := fun h => HNE.out.1 h.symm
          generalize hbv : lb e 2 / 2 ^ (63 - k) % 2 = bt at *
          have hb2 : bt = 0 ∨ bt = 1 := by omega
          clear hbv hbt hR hRW hR2
          obtain ⟨c0, c1, c2, c3⟩ := K7.out.cells
          rcases hb2 with rfl | rfl
          · have HST := Lib.hid (hst.1 rfl)
            clear hst
            go_wp2_with fail
            refine (keep w.heap.size w (HC.out _) HB.out (Nat.le_refl _)).mono ?_
            rintro e' w2 ⟨rfl, hb, hk⟩
            have KA2 := Lib.hid (KA.out.below hk)
            have KE2 := Lib.hid (KE.out.below hk)
            have KR2 := Lib.hid (KR.out.below hk)
            have K72 := Lib.hid (K7.out.below hk)
            have HB2 := Lib.hid hb
            clear KA KE KR K7 HB hb hk c0 c1 c2 c3 HC HC2
            obtain ⟨c0, c1, c2, c3⟩ := K72.out.cells
            obtain ⟨f0, f1, f2, f3⟩ := K72.out.fros
            obtain ⟨x0, x1, x2, x3⟩ := KE2.out.cells
            simp only [nv, num]
            go_wp2_with fail
            go_roundw
            case rel => exact ⟨k + 1, by omega, by go_num, Bk.puto HNE.out.1 KA2.out, Bk.puto HNE.out.2.1 KE2.out, Bk.puto HNE.out.2.2.1 KR2.out, by rw [HST.out]; exact Bk.put K72.out, by have hb := HB2.out; have h7 := HNE.out.2.2.2.1; go_grown⟩
            case measure => simp [intOf]; omega
          · have HST := Lib.hid (hst.2 rfl)
            clear hst
            go_wp2_with fail
            refine (keep w.heap.size w (HC.out _) HB.out (Nat.le_refl _)).mono ?_
            rintro e' w2 ⟨rfl, hb, hk⟩
            have KA2 := Lib.hid (KA.out.below hk)
            have KE2 := Lib.hid (KE.out.below hk)
            have KR2 := Lib.hid (KR.out.below hk)
            have K72 := Lib.hid (K7.out.below hk)
            have HB2 := Lib.hid hb
            clear KA KE KR K7 HB hb hk c0 c1 c2 c3 HC
            obtain ⟨c0, c1, c2, c3⟩ := K72.out.cells
            obtain ⟨f0, f1, f2, f3⟩ := K72.out.fros
            obtain ⟨x0, x1, x2, x3⟩ := KE2.out.cells
            obtain ⟨y0, y1, y2, y3⟩ := KA2.out.cells
            simp only [nv, num]
            go_wp2_with fail
            refine (keep w.heap.size w (HC2.out _) (by have hb := HB2.out; have h7 := HNE.out.2.2.2.1; go_grown) (Nat.le_refl _)).mono ?_
            rintro e' w3 ⟨rfl, hb, hk⟩
            have KA3 := Lib.hid (Bk.below (Bk.puto HNE.out.1 KA2.out) hk)
            have KE3 := Lib.hid (Bk.below (Bk.puto HNE.out.2.1 KE2.out) hk)
            have KR3 := Lib.hid (Bk.below (Bk.puto HNE.out.2.2.1 KR2.out) hk)
            have K73 := Lib.hid (Bk.below (Bk.put K72.out) hk)
            have HB3 := Lib.hid hb
            clear KA2 KE2 KR2 K72 HB2 hb hk c0 c1 c2 c3 f0 f1 f2 f3 x0 x1 x2 x3 y0 y1 y2 y3 HC2
            obtain ⟨c0, c1, c2, c3⟩ := K73.out.cells
            obtain ⟨f0, f1, f2, f3⟩ := K73.out.fros
            simp only [nv, num]
            go_wp2_with fail
            go_roundw
            case rel => exact ⟨k + 1, by omega, by go_num, Bk.puto HNE.out.1 KA3.out, Bk.puto HNE.out.2.1 KE3.out, Bk.puto HNE.out.2.2.1 KR3.out, by rw [HST.out]; exact Bk.put K73.out, by have hb := HB3.out; have h7 := HNE.out.2.2.2.1; go_grown⟩
            case measure => simp [intOf]; omega
        · obtain rfl : k = 64 := by omega
          clear hlt hk
          rw [show 192 - 64 = 128 from rfl] at K7
          go_wp2_with fail
          rw [rounds_succ]
          go_wp2_with fail
          go_loopw [14] (fun b wr => ∃ k : Nat, k ≤ 64 ∧ b = .int .i64 (k : Int) ∧ Bk 24 wr gA (cs4 a) ∧ Bk 24 wr gE (cs4 e) ∧ Bk 24 wr gR cs0 ∧ Bk 24 wr g7 (cs4 (a ^ (e / 2 ^ (128 - k)) % M)) ∧ Below w.heap.size w wr) (fun b _ => 64 - (intOf b).toNat)
          case atStart => exact ⟨0, Nat.zero_le _, rfl, KA.out, KE.out, KR.out, K7.out, HB.out⟩
          case round =>
            clear KA KE KR K7 HB
            obtain ⟨k, hk, rfl, ka, ke, kr, k7, hb⟩ := hrel
            have KA := Lib.hid ka
            have KE := Lib.hid ke
            have KR := Lib.hid kr
            have K7 := Lib.hid k7
            have HB := Lib.hid hb
            clear ka ke kr k7 hb
            by_cases hlt : k < 64
            · obtain ⟨R, hR⟩ : ∃ z, z = a ^ (e / 2 ^ (128 - k)) % M := ⟨_, rfl⟩
              rw [← hR] at K7
              have hRW : R < W256 := by rw [hR]; exact Nat.lt_trans (Nat.mod_lt _ (by have := HA.out.2.1; omega)) HA.out.1
              have hc1 := HM.out R R hRW hRW
              have hst := pow_step a e (128 - (k + 1)) M R (by rw [hR, show 128 - (k + 1) + 1 = 128 - k from by omega])
              have hbt := lb_bit e 1 (63 - k) (by decide) (by omega)
              rw [show 64 * 1 + (63 - k) = 128 - (k + 1) from by omega] at hbt
              rw [← hbt] at hst
              have hsh : bits .and .u64 (((lb e 1 : Nat) : Int) / 2 ^ (63 - k)) 1 = ((lb e 1 / 2 ^ (63 - k) % 2 : Nat) : Int) := by
                rw [← shr_one _ _ (lb_lt e 1)]
                congr 1
              have hR2 : R * R % M < W256 := Nat.lt_trans (Nat.mod_lt _ (by have := HA.out.2.1; omega)) HA.out.1
              have hc2 := HM.out (R * R % M) a hR2 HA.out.2.2.1
              obtain ⟨RR, hRR⟩ : ∃ z, z = R * R % M := ⟨_, rfl⟩
              rw [← hRR] at hc1 hc2 hst
              obtain ⟨RA, hRA⟩ : ∃ z, z = RR * a % M := ⟨_, rfl⟩
              rw [← hRA] at hc2 hst
              have HC := Lib.hid hc1
              have HC2 := Lib.hid hc2
              clear hRR hRA hc1 hc2
              have t1 : (0 : Int) ≤ 63 - (k : Int) := by omega
              have n1 : ¬ (gE = g7) := HNE.out.2.1
              have n2 : ¬ (g7 = gE) := fun h => HNE.out.2.1 h.symm
              have n3 : ¬ (gA = g7) := HNE.out.1
              have n4 : ¬ (g7 = gA) := fun h => HNE.out.1 h.symm
              generalize hbv : lb e 1 / 2 ^ (63 - k) % 2 = bt at *
              have hb2 : bt = 0 ∨ bt = 1 := by omega
              clear hbv hbt hR hRW hR2
              obtain ⟨c0, c1, c2, c3⟩ := K7.out.cells
              rcases hb2 with rfl | rfl
              · have HST := Lib.hid (hst.1 rfl)
                clear hst
                go_wp2_with fail
                refine (keep w.heap.size w (HC.out _) HB.out (Nat.le_refl _)).mono ?_
                rintro e' w2 ⟨rfl, hb, hk⟩
                have KA2 := Lib.hid (KA.out.below hk)
                have KE2 := Lib.hid (KE.out.below hk)
                have KR2 := Lib.hid (KR.out.below hk)
                have K72 := Lib.hid (K7.out.below hk)
                have HB2 := Lib.hid hb
                clear KA KE KR K7 HB hb hk c0 c1 c2 c3 HC HC2
                obtain ⟨c0, c1, c2, c3⟩ := K72.out.cells
                obtain ⟨f0, f1, f2, f3⟩ := K72.out.fros
                obtain ⟨x0, x1, x2, x3⟩ := KE2.out.cells
                simp only [nv, num]
                go_wp2_with fail
                go_roundw
                case rel => exact ⟨k + 1, by omega, by go_num, Bk.puto HNE.out.1 KA2.out, Bk.puto HNE.out.2.1 KE2.out, Bk.puto HNE.out.2.2.1 KR2.out, by rw [HST.out]; exact Bk.put K72.out, by have hb := HB2.out; have h7 := HNE.out.2.2.2.1; go_grown⟩
                case measure => simp [intOf]; omega
              · have HST := Lib.hid (hst.2 rfl)
                clear hst
                go_wp2_with fail
                refine (keep w.heap.size w (HC.out _) HB.out (Nat.le_refl _)).mono ?_
                rintro e' w2 ⟨rfl, hb, hk⟩
                have KA2 := Lib.hid (KA.out.below hk)
                have KE2 := Lib.hid (KE.out.below hk)
                have KR2 := Lib.hid (KR.out.below hk)
                have K72 := Lib.hid (K7.out.below hk)
                have HB2 := Lib.hid hb
                clear KA KE KR K7 HB hb hk c0 c1 c2 c3 HC
                obtain ⟨c0, c1, c2, c3⟩ := K72.out.cells
                obtain ⟨f0, f1, f2, f3⟩ := K72.out.fros
                obtain ⟨x0, x1, x2, x3⟩ := KE2.out.cells
                obtain ⟨y0, y1, y2, y3⟩ := KA2.out.cells
                simp only [nv, num]
                go_wp2_with fail
                refine (keep w.heap.size w (HC2.out _) (by have hb := HB2.out; have h7 := HNE.out.2.2.2.1; go_grown) (Nat.le_refl _)).mono ?_
                rintro e' w3 ⟨rfl, hb, hk⟩
                have KA3 := Lib.hid (Bk.below (Bk.puto HNE.out.1 KA2.out) hk)
                have KE3 := Lib.hid (Bk.below (Bk.puto HNE.out.2.1 KE2.out) hk)
                have KR3 := Lib.hid (Bk.below (Bk.puto HNE.out.2.2.1 KR2.out) hk)
                have K73 := Lib.hid (Bk.below (Bk.put K72.out) hk)
                have HB3 := Lib.hid hb
                clear KA2 KE2 KR2 K72 HB2 hb hk c0 c1 c2 c3 f0 f1 f2 f3 x0 x1 x2 x3 y0 y1 y2 y3 HC2
                obtain ⟨c0, c1, c2, c3⟩ := K73.out.cells
                obtain ⟨f0, f1, f2, f3⟩ := K73.out.fros
                simp only [nv, num]
                go_wp2_with fail
                go_roundw
                case rel => exact ⟨k + 1, by omega, by go_num, Bk.puto HNE.out.1 KA3.out, Bk.puto HNE.out.2.1 KE3.out, Bk.puto HNE.out.2.2.1 KR3.out, by rw [HST.out]; exact Bk.put K73.out, by have hb := HB3.out; have h7 := HNE.out.2.2.2.1; go_grown⟩
                case measure => simp [intOf]; omega
            · obtain rfl : k = 64 := by omega
              clear hlt hk
              rw [show 128 - 64 = 64 from rfl] at K7
              go_wp2_with fail
              rw [rounds_succ]
              go_wp2_with fail
              go_loopw [14] (fun b wr => ∃ k : Nat, k ≤ 64 ∧ b = .int .i64 (k : Int) ∧ Bk 24 wr gA (cs4 a) ∧ Bk 24 wr gE (cs4 e) ∧ Bk 24 wr gR cs0 ∧ Bk 24 wr g7 (cs4 (a ^ (e / 2 ^ (64 - k)) % M)) ∧ Below w.heap.size w wr) (fun b _ => 64 - (intOf b).toNat)
              case atStart => exact ⟨0, Nat.zero_le _, rfl, KA.out, KE.out, KR.out, K7.out, HB.out⟩
              case round =>
                clear KA KE KR K7 HB
                obtain ⟨k, hk, rfl, ka, ke, kr, k7, hb⟩ := hrel
                have KA := Lib.hid ka
                have KE := Lib.hid ke
                have KR := Lib.hid kr
                have K7 := Lib.hid k7
                have HB := Lib.hid hb
                clear ka ke kr k7 hb
                by_cases hlt : k < 64
                · obtain ⟨R, hR⟩ : ∃ z, z = a ^ (e / 2 ^ (64 - k)) % M := ⟨_, rfl⟩
                  rw [← hR] at K7
                  have hRW : R < W256 := by rw [hR]; exact Nat.lt_trans (Nat.mod_lt _ (by have := HA.out.2.1; omega)) HA.out.1
                  have hc1 := HM.out R R hRW hRW
                  have hst := pow_step a e (64 - (k + 1)) M R (by rw [hR, show 64 - (k + 1) + 1 = 64 - k from by omega])
                  have hbt := lb_bit e 0 (63 - k) (by decide) (by omega)
                  rw [show 64 * 0 + (63 - k) = 64 - (k + 1) from by omega] at hbt
                  rw [← hbt] at hst
                  have hsh : bits .and .u64 (((lb e 0 : Nat) : Int) / 2 ^ (63 - k)) 1 = ((lb e 0 / 2 ^ (63 - k) % 2 : Nat) : Int) := by
                    rw [← shr_one _ _ (lb_lt e 0)]
                    congr 1
                  have hR2 : R * R % M < W256 := Nat.lt_trans (Nat.mod_lt _ (by have := HA.out.2.1; omega)) HA.out.1
                  have hc2 := HM.out (R * R % M) a hR2 HA.out.2.2.1
                  obtain ⟨RR, hRR⟩ : ∃ z, z = R * R % M := ⟨_, rfl⟩
                  rw [← hRR] at hc1 hc2 hst
                  obtain ⟨RA, hRA⟩ : ∃ z, z = RR * a % M := ⟨_, rfl⟩
                  rw [← hRA] at hc2 hst
                  have HC := Lib.hid hc1
                  have HC2 := Lib.hid hc2
                  clear hRR hRA hc1 hc2
                  have t1 : (0 : Int) ≤ 63 - (k : Int) := by omega
                  have n1 : ¬ (gE = g7) := HNE.out.2.1
                  have n2 : ¬ (g7 = gE) := fun h => HNE.out.2.1 h.symm
                  have n3 : ¬ (gA = g7) := HNE.out.1
                  have n4 : ¬ (g7 = gA) := fun h => HNE.out.1 h.symm
                  generalize hbv : lb e 0 / 2 ^ (63 - k) % 2 = bt at *
                  have hb2 : bt = 0 ∨ bt = 1 := by omega
                  clear hbv hbt hR hRW hR2
                  obtain ⟨c0, c1, c2, c3⟩ := K7.out.cells
                  rcases hb2 with rfl | rfl
                  · have HST := Lib.hid (hst.1 rfl)
                    clear hst
                    go_wp2_with fail
                    refine (keep w.heap.size w (HC.out _) HB.out (Nat.le_refl _)).mono ?_
                    rintro e' w2 ⟨rfl, hb, hk⟩
                    have KA2 := Lib.hid (KA.out.below hk)
                    have KE2 := Lib.hid (KE.out.below hk)
                    have KR2 := Lib.hid (KR.out.below hk)
                    have K72 := Lib.hid (K7.out.below hk)
                    have HB2 := Lib.hid hb
                    clear KA KE KR K7 HB hb hk c0 c1 c2 c3 HC HC2
                    obtain ⟨c0, c1, c2, c3⟩ := K72.out.cells
                    obtain ⟨f0, f1, f2, f3⟩ := K72.out.fros
                    obtain ⟨x0, x1, x2, x3⟩ := KE2.out.cells
                    simp only [nv, num]
                    go_wp2_with fail
                    go_roundw
                    case rel => exact ⟨k + 1, by omega, by go_num, Bk.puto HNE.out.1 KA2.out, Bk.puto HNE.out.2.1 KE2.out, Bk.puto HNE.out.2.2.1 KR2.out, by rw [HST.out]; exact Bk.put K72.out, by have hb := HB2.out; have h7 := HNE.out.2.2.2.1; go_grown⟩
                    case measure => simp [intOf]; omega
                  · have HST := Lib.hid (hst.2 rfl)
                    clear hst
                    go_wp2_with fail
                    refine (keep w.heap.size w (HC.out _) HB.out (Nat.le_refl _)).mono ?_
                    rintro e' w2 ⟨rfl, hb, hk⟩
                    have KA2 := Lib.hid (KA.out.below hk)
                    have KE2 := Lib.hid (KE.out.below hk)
                    have KR2 := Lib.hid (KR.out.below hk)
                    have K72 := Lib.hid (K7.out.below hk)
                    have HB2 := Lib.hid hb
                    clear KA KE KR K7 HB hb hk c0 c1 c2 c3 HC
                    obtain ⟨c0, c1, c2, c3⟩ := K72.out.cells
                    obtain ⟨f0, f1, f2, f3⟩ := K72.out.fros
                    obtain ⟨x0, x1, x2, x3⟩ := KE2.out.cells
                    obtain ⟨y0, y1, y2, y3⟩ := KA2.out.cells
                    simp only [nv, num]
                    go_wp2_with fail
                    refine (keep w.heap.size w (HC2.out _) (by have hb := HB2.out; have h7 := HNE.out.2.2.2.1; go_grown) (Nat.le_refl _)).mono ?_
                    rintro e' w3 ⟨rfl, hb, hk⟩
                    have KA3 := Lib.hid (Bk.below (Bk.puto HNE.out.1 KA2.out) hk)
                    have KE3 := Lib.hid (Bk.below (Bk.puto HNE.out.2.1 KE2.out) hk)
                    have KR3 := Lib.hid (Bk.below (Bk.puto HNE.out.2.2.1 KR2.out) hk)
                    have K73 := Lib.hid (Bk.below (Bk.put K72.out) hk)
                    have HB3 := Lib.hid hb
                    clear KA2 KE2 KR2 K72 HB2 hb hk c0 c1 c2 c3 f0 f1 f2 f3 x0 x1 x2 x3 y0 y1 y2 y3 HC2
                    obtain ⟨c0, c1, c2, c3⟩ := K73.out.cells
                    obtain ⟨f0, f1, f2, f3⟩ := K73.out.fros
                    simp only [nv, num]
                    go_wp2_with fail
                    go_roundw
                    case rel => exact ⟨k + 1, by omega, by go_num, Bk.puto HNE.out.1 KA3.out, Bk.puto HNE.out.2.1 KE3.out, Bk.puto HNE.out.2.2.1 KR3.out, by rw [HST.out]; exact Bk.put K73.out, by have hb := HB3.out; have h7 := HNE.out.2.2.2.1; go_grown⟩
                    case measure => simp [intOf]; omega
                · obtain rfl : k = 64 := by omega
                  clear hlt hk
                  rw [show 64 - 64 = 0 from rfl] at K7
                  go_wp2_with fail
                  rw [rounds_succ]
                  obtain ⟨c0, c1, c2, c3⟩ := K7.out.cells
                  obtain ⟨f0, f1, f2, f3⟩ := KR.out.fros
                  obtain ⟨x0, x1, x2, x3⟩ := KR.out.cells
                  generalize hfin : a ^ (e / 2 ^ 0) % M = fin at *
                  go_wp2_with fail
                  refine ret_cell rfl gR fin rfl (Bk.put KR.out) rfl ⟨by rw [← hfin, HRES.out, Nat.pow_zero, Nat.div_one]; rfl, ?_⟩
                  have hb := HB.out
                  have h7 := HNE.out.2.2.2.2
                  go_grown
end Go.Proofs.YtpggkfdijmnmiaaGreat
namespace Go.Proofs.YtpggkfdijmnmiaaGreat
open Go.RowKit Limbs
theorem info22 : ∃ i, Tryz.prog.info? 22 = some i := Option.isSome_iff_exists.1 (by kernel_rfl)
theorem cells22 : Tryz.prog.cellsOf 22 = 1 := by kernel_rfl
theorem one22 (v : Int) (j : Nat) (xs : Array Value) (h : xs[j]? = some (.int .u64 v)) (w : World) : (part 22 xs j).run Tryz.prog w = .ok (.int .u64 v) w := by
  simp [part, go_sem, Tryz.underlying22, Tryz.isAgg22, Tryz.sizeOf22, h]
theorem eq24 (a0 a1 a2 a3 b0 b1 b2 b3 : Int) (w : World) : (Op.equalIn 10000 24 (.agg #[.int .u64 a0, .int .u64 a1, .int .u64 a2, .int .u64 a3]) (.agg #[.int .u64 b0, .int .u64 b1, .int .u64 b2, .int .u64 b3])).run Tryz.prog w = .ok (a0 == b0 && (a1 == b1 && (a2 == b2 && a3 == b3))) w := by
  obtain ⟨i, hi⟩ := info22
  rw [show (10000 : Nat) = 9999 + 1 from rfl, run_equalIn_array w 9999 _ _ u24 hi, cells22]
  have hr : List.range 4 = [0, 1, 2, 3] := rfl
  rw [hr]
  have e (a b : Int) (w : World) : (Op.equalIn 9999 22 (.int .u64 a) (.int .u64 b)).run Tryz.prog w = .ok (a == b) w := run_equalIn_int w 9998 22 .u64 .u64 a b Tryz.underlying22
  have pa0 := one22 a0 0 #[.int .u64 a0, .int .u64 a1, .int .u64 a2, .int .u64 a3] rfl
  have pa1 := one22 a1 1 #[.int .u64 a0, .int .u64 a1, .int .u64 a2, .int .u64 a3] rfl
  have pa2 := one22 a2 2 #[.int .u64 a0, .int .u64 a1, .int .u64 a2, .int .u64 a3] rfl
  have pa3 := one22 a3 3 #[.int .u64 a0, .int .u64 a1, .int .u64 a2, .int .u64 a3] rfl
  have pb0 := one22 b0 0 #[.int .u64 b0, .int .u64 b1, .int .u64 b2, .int .u64 b3] rfl
  have pb1 := one22 b1 1 #[.int .u64 b0, .int .u64 b1, .int .u64 b2, .int .u64 b3] rfl
  have pb2 := one22 b2 2 #[.int .u64 b0, .int .u64 b1, .int .u64 b2, .int .u64 b3] rfl
  have pb3 := one22 b3 3 #[.int .u64 b0, .int .u64 b1, .int .u64 b2, .int .u64 b3] rfl
  simp only [Op.eqItems, Sem.run_bind, Nat.mul_one, pa0, pa1, pa2, pa3, pb0, pb1, pb2, pb3, Result.andThen_ok, e]
  cases h0 : (a0 == b0) <;> cases h1 : (a1 == b1) <;> cases h2 : (a2 == b2) <;> cases h3 : (a3 == b3) <;> simp [pa1, pa2, pa3, pb1, pb2, pb3, e, h0, h1, h2, h3, Op.eqItems]
theorem eqN (x y : Nat) (hx : x < W256) (hy : y < W256) (w : World) : (Op.equalIn 10000 24 (.agg #[.int .u64 (lb x 0 : Nat), .int .u64 (lb x 1 : Nat), .int .u64 (lb x 2 : Nat), .int .u64 (lb x 3 : Nat)]) (.agg #[.int .u64 (lb y 0 : Nat), .int .u64 (lb y 1 : Nat), .int .u64 (lb y 2 : Nat), .int .u64 (lb y 3 : Nat)])).run Tryz.prog w = .ok (decide (x = y)) w := by
  rw [eq24]
  congr 1
  rw [Bool.eq_iff_iff]
  simp only [Bool.and_eq_true, beq_iff_eq, decide_eq_true_eq]
  constructor
  · rintro ⟨h0, h1, h2, h3⟩
    rw [← v4_lb hx, ← v4_lb hy, show lb x 0 = lb y 0 by omega, show lb x 1 = lb y 1 by omega, show lb x 2 = lb y 2 by omega, show lb x 3 = lb y 3 by omega]
  · rintro rfl; simp
end Go.Proofs.YtpggkfdijmnmiaaGreat
namespace Go.Proofs.YtpggkfdijmnmiaaGreat
open Go.RowKit Limbs
set_option maxHeartbeats 16000000 in
theorem inv_any (m : Int) (a : Nat) (ha : a < W256) (w : World) :
    Calls Tryz.prog 157 #[.int .i64 m, nv a] w fun e w' => e = .returned (if a % md m = 0 then .tuple #[nv 0, .int .i64 61] else .tuple #[nv (a ^ (md m - 2) % md m), .int .i64 0]) ∧ Below w.heap.size w w' := by
  have hM := md_or m
  obtain ⟨hMW, hM2, hM3, hMp⟩ := md_lt hM
  have HM := Lib.hid (mod_any m)
  have HP := Lib.hid (pow_any m a (md m - 2) ha (by omega))
  generalize md m = M at *
  have hr : a % M < W256 := Nat.lt_trans (Nat.mod_lt _ (by omega)) hMW
  have HL := Lib.hid (left_any a M ha hMW (by omega))
  have HMI := Lib.hid (minus_nv M 2 hMW (by decide))
  obtain ⟨r, hrr⟩ : ∃ z, z = a % M := ⟨_, rfl⟩
  rw [← hrr] at HL hr ⊢
  have HA := Lib.hid (And.intro hMW hMp)
  obtain ⟨pw, hpw⟩ : ∃ z, z = a ^ (M - 2) % M := ⟨_, rfl⟩
  rw [← hpw] at HP ⊢
  have HEQ : Hid (∀ w, (Op.equalIn 10000 24 (.agg #[.int .u64 (lb r 0 : Nat), .int .u64 (lb r 1 : Nat), .int .u64 (lb r 2 : Nat), .int .u64 (lb r 3 : Nat)]) (.agg #[.int .u64 0, .int .u64 0, .int .u64 0, .int .u64 0])).run Tryz.prog w = .ok (decide (r = 0)) w) := Lib.hid fun w => eqN r 0 hr (by decide) w
  clear hM hMW hM2 hM3 hMp ha hrr hpw hr
  obtain ⟨RV, hRV⟩ : ∃ z, z = if r = 0 then Value.tuple #[nv 0, .int .i64 61] else .tuple #[nv pw, .int .i64 0] := ⟨_, rfl⟩
  rw [← hRV]
  have HRV := Lib.hid hRV
  clear hRV
  simp only [nv, num] at HL HP ⊢
  go_enter Tryz.func157, Tryz.ntmps157
  go_wp2_with fail
  refine (keep w.heap.size w (HM.out _) (by go_grown) (Nat.le_refl _)).mono ?_
  rintro e w1 ⟨rfl, hb, hk⟩
  have KA : Hid (Bk 24 w1 w.heap.size (cs4 a)) := Lib.hid (Bk.below (Bk.alloc (Bk.new rfl)) hk)
  have KR : Hid (Bk 24 w1 (w.heap.size + 1) cs0) := Lib.hid (Bk.below (Bk.new (by simp)) hk)
  have HB := Lib.hid hb
  clear hk hb HM
  obtain ⟨i0, i1, i2, i3⟩ := KA.out.cellsA
  simp only [nv, num]
  go_wp2_with fail
  refine (keep w.heap.size w (HL.out _) (by have hb := HB.out; have hs := hb.size; go_grown) (Nat.le_refl _)).mono ?_
  rintro e w2 ⟨rfl, hb, hk⟩
  have K2A := Lib.hid (Bk.below (Bk.alloc KA.out) hk)
  have K2R := Lib.hid (Bk.below (Bk.alloc KR.out) hk)
  have K2M : Hid (Bk 24 w2 w1.heap.size (cs4 M)) := Lib.hid (Bk.below (Bk.new rfl) hk)
  have HB2 := Lib.hid hb
  clear hk hb i0 i1 i2 i3 HL KA KR HB
  have heq := HEQ.out
  by_cases hz : r = 0
  · have h1 : decide (r = 0) = true := by simp [hz]
    rw [h1] at heq
    have HV : Hid (RV = .tuple #[nv 0, .int .i64 61]) := Lib.hid (by rw [HRV.out, if_pos hz])
    clear hz h1 HEQ HRV
    obtain ⟨j0, j1, j2, j3⟩ := K2R.out.cells
    obtain ⟨f0, f1, f2, f3⟩ := K2R.out.fros
    go_wp2_with fail
    refine ret_cell2 rfl (w.heap.size + 1) 0 (.int .i64 61) rfl rfl (Bk.put K2R.out) rfl ⟨by rw [HV.out], ?_⟩
    have hb := HB2.out
    go_grown
  · have h1 : decide (r = 0) = false := by simp [hz]
    rw [h1] at heq
    have HV : Hid (RV = .tuple #[nv pw, .int .i64 0]) := Lib.hid (by rw [HRV.out, if_neg hz])
    clear hz h1 HEQ HRV
    obtain ⟨j0, j1, j2, j3⟩ := K2M.out.cells
    go_wp2_with fail
    refine (keep w.heap.size w (HMI.out _) HB2.out (Nat.le_refl _)).mono ?_
    rintro e w3 ⟨⟨d, c, hd, hc, he, rfl⟩, hb, hk⟩
    have hdM : d = M - 2 := by
      have h1 := HA.out
      unfold W256 at *
      omega
    subst hdM
    have K3A := Lib.hid (K2A.out.below hk)
    have K3R := Lib.hid (K2R.out.below hk)
    have HB3 := Lib.hid hb
    clear hk hb hd hc he heq j0 j1 j2 j3 K2A K2R K2M HB2
    obtain ⟨i0, i1, i2, i3⟩ := K3A.out.cellsA
    simp only [nv, num]
    go_wp2_with fail
    refine (keep w.heap.size w (HP.out _) (by have hb := HB3.out; have hs := hb.size; go_grown) (Nat.le_refl _)).mono ?_
    rintro e w4 ⟨rfl, hb, hk⟩
    have K4R := Lib.hid (Bk.below (Bk.alloc K3R.out) hk)
    have HB4 := Lib.hid hb
    clear hk hb i0 i1 i2 i3
    obtain ⟨j0, j1, j2, j3⟩ := K4R.out.cells
    obtain ⟨f0, f1, f2, f3⟩ := K4R.out.fros
    go_wp2_with fail
    refine ret_cell2 rfl (w.heap.size + 1) pw (.int .i64 0) rfl rfl (Bk.put K4R.out) rfl ⟨by rw [HV.out], ?_⟩
    have hb := HB4.out
    go_grown
end Go.Proofs.YtpggkfdijmnmiaaGreat
namespace Go.Proofs.YtpggkfdijmnmiaaGreat
open Go.RowKit
section
variable {P : Program} {ops : Array Oper} {md : Region.Mode} {Q : Exit → Act → World → Prop}
def left (l : Array Bool) : Nat := (l.toList.filter (fun x => !x)).length
theorem left_set_list : ∀ (l : List Bool) (i : Nat) (h : i < l.length), l[i] = false → ((l.set i true).filter (fun x => !x)).length + 1 = (l.filter (fun x => !x)).length
  | x :: l, 0, h, hx => by
    have : x = false := hx
    subst this
    simp
  | x :: l, i + 1, h, hx => by
    have ih := left_set_list l i (by simpa using h) (by simpa using hx)
    cases x <;> simp [List.filter_cons] <;> omega
theorem left_set {l : Array Bool} {i : Nat} (h : l.getD i true = false) : left (l.setIfInBounds i true) + 1 = left l := by
  have hi : i < l.size := by
    rcases Nat.lt_or_ge i l.size with h' | h'
    · exact h'
    · simp [Array.getElem?_eq_none h'] at h
  have hx : l[i] = false := by simpa [hi] using h
  unfold left
  have := left_set_list l.toList i (by simpa using hi) (by simpa using hx)
  simpa [Array.toList_setIfInBounds, hi] using this
theorem ready_left {l : Array Bool} {i : Nat} (h : i ∈ Region.ready md ops l) : 0 < left l := by
  have := left_set (mem_ready.1 h).1
  omega
theorem wpAny_inv {I : Array Bool → Act → World → Prop} (step : ∀ l a w, I l a w → ∀ i ∈ Region.ready md ops l, wpOp P ops Q i (fun a' w' => I (l.setIfInBounds i true) a' w') a w)
    (fin : ∀ l a w, I l a w → Region.ready md ops l = [] → Q .normal a w) : ∀ (fuel : Nat) (l : Array Bool) (a : Act) (w : World), left l ≤ fuel → I l a w → wpAny P md ops Q fuel l a w
  | 0, l, a, w, hf, h => by
    have h0 : Region.ready md ops l = [] := by
      rw [List.eq_nil_iff_forall_not_mem]
      intro i hi
      have := ready_left hi
      omega
    exact ⟨h0, fin l a w h h0⟩
  | fuel + 1, l, a, w, hf, h => by
    refine ⟨fin l a w h, fun i hi => ?_⟩
    have hl := left_set (mem_ready.1 hi).1
    exact wpOp_mono (fun a' w' h' => wpAny_inv step fin fuel _ a' w' (by omega) h') (step l a w h i hi)
theorem wpOp_of {i : Nat} {o : Oper} {K : Act → World → Prop} {a : Act} {w : World} (hi : ops[i]? = some o) (hg : o.guard = none) (h : o.wp P a w K Q) : wpOp P ops Q i K a w := by
  unfold wpOp
  simp only [hi]
  rw [if_pos (by simp [Region.wanted, hg])]
  exact .inl h
end
end Go.Proofs.YtpggkfdijmnmiaaGreat
