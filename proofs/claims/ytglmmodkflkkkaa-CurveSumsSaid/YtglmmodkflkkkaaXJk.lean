/- The calls whose answers the document fixes. No condition. -/
import Derived.Test.YtglmmodkflkkkaaXIy
import Derived.Test.YtglmmodkflkkkaaXNp
import Derived.Test.YtglmmodkflkkkaaXJb
import Derived.Test.YtglmmodkflkkkaaXPri
set_option linter.unusedVariables false
set_option linter.unusedSimpArgs false
set_option maxRecDepth 100000
namespace Go.Proofs.Ytglmmodkflkkkaa
open Go.RowKit Limbs

theorem nv_of {x a b c d : Nat} (h0 : lb x 0 = a) (h1 : lb x 1 = b) (h2 : lb x 2 = c) (h3 : lb x 3 = d) : nv x = num a b c d := by
  unfold nv; rw [h0, h1, h2, h3]
theorem lP : nv mP = .agg #[.int .u64 18446744073709551615, .int .u64 4294967295, .int .u64 0, .int .u64 18446744069414584321] := nv_of (a := 18446744073709551615) (b := 4294967295) (c := 0) (d := 18446744069414584321) (by decide +kernel) (by decide +kernel) (by decide +kernel) (by decide +kernel)
theorem lN : nv mN = .agg #[.int .u64 17562291160714782033, .int .u64 13611842547513532036, .int .u64 18446744073709551615, .int .u64 18446744069414584320] := nv_of (a := 17562291160714782033) (b := 13611842547513532036) (c := 18446744073709551615) (d := 18446744069414584320) (by decide +kernel) (by decide +kernel) (by decide +kernel) (by decide +kernel)
theorem lTop : nv 115792089210356248762697446949407573530086143415290314195533631308867097853950 = .agg #[.int .u64 18446744073709551614, .int .u64 4294967295, .int .u64 0, .int .u64 18446744069414584321] := nv_of (a := 18446744073709551614) (b := 4294967295) (c := 0) (d := 18446744069414584321) (by decide +kernel) (by decide +kernel) (by decide +kernel) (by decide +kernel)
theorem lHalf : nv 57896044605178124381348723474703786765043071707645157097766815654433548926976 = .agg #[.int .u64 0, .int .u64 2147483648, .int .u64 9223372036854775808, .int .u64 9223372034707292160] := nv_of (a := 0) (b := 2147483648) (c := 9223372036854775808) (d := 9223372034707292160) (by decide +kernel) (by decide +kernel) (by decide +kernel) (by decide +kernel)
theorem lOne : nv 1 = .agg #[.int .u64 1, .int .u64 0, .int .u64 0, .int .u64 0] := nv_of (a := 1) (b := 0) (c := 0) (d := 0) (by decide +kernel) (by decide +kernel) (by decide +kernel) (by decide +kernel)
theorem lTwo : nv 2 = .agg #[.int .u64 2, .int .u64 0, .int .u64 0, .int .u64 0] := nv_of (a := 2) (b := 0) (c := 0) (d := 0) (by decide +kernel) (by decide +kernel) (by decide +kernel) (by decide +kernel)
theorem lThree : nv 3 = .agg #[.int .u64 3, .int .u64 0, .int .u64 0, .int .u64 0] := nv_of (a := 3) (b := 0) (c := 0) (d := 0) (by decide +kernel) (by decide +kernel) (by decide +kernel) (by decide +kernel)
theorem lFive : nv 5 = .agg #[.int .u64 5, .int .u64 0, .int .u64 0, .int .u64 0] := nv_of (a := 5) (b := 0) (c := 0) (d := 0) (by decide +kernel) (by decide +kernel) (by decide +kernel) (by decide +kernel)
theorem lB243 : nv 243 = .agg #[.int .u64 243, .int .u64 0, .int .u64 0, .int .u64 0] := nv_of (a := 243) (b := 0) (c := 0) (d := 0) (by decide +kernel) (by decide +kernel) (by decide +kernel) (by decide +kernel)
theorem lB256 : nv 256 = .agg #[.int .u64 256, .int .u64 0, .int .u64 0, .int .u64 0] := nv_of (a := 256) (b := 0) (c := 0) (d := 0) (by decide +kernel) (by decide +kernel) (by decide +kernel) (by decide +kernel)
theorem lZero : nv 0 = .agg #[.int .u64 0, .int .u64 0, .int .u64 0, .int .u64 0] := nv_of (a := 0) (b := 0) (c := 0) (d := 0) (by decide +kernel) (by decide +kernel) (by decide +kernel) (by decide +kernel)
theorem md0 : md 0 = mP := rfl
theorem md1 : md 1 = mN := rfl
theorem half_is : 2 ^ (mP - 2) % mP = 57896044605178124381348723474703786765043071707645157097766815654433548926976 := by
  rw [← Primes.pm_is mP 256 2 (mP - 2) (by decide +kernel)]
  decide +kernel
theorem cMod0 : ∀ w, Calls Try.prog 16 #[.int .i64 0] w fun e w' => e = .returned (.agg #[.int .u64 18446744073709551615, .int .u64 4294967295, .int .u64 0, .int .u64 18446744069414584321]) ∧ Below w.heap.size w w' := fun w => by
  have h := mod_any 0 w
  rw [md0, lP] at h
  exact h
theorem cMod1 : ∀ w, Calls Try.prog 16 #[.int .i64 1] w fun e w' => e = .returned (.agg #[.int .u64 17562291160714782033, .int .u64 13611842547513532036, .int .u64 18446744073709551615, .int .u64 18446744069414584320]) ∧ Below w.heap.size w w' := fun w => by
  have h := mod_any 1 w
  rw [md1, lN] at h
  exact h
theorem cSub : ∀ w, Calls Try.prog 21 #[.int .i64 0, .agg #[.int .u64 1, .int .u64 0, .int .u64 0, .int .u64 0], .agg #[.int .u64 2, .int .u64 0, .int .u64 0, .int .u64 0]] w fun e w' => e = .returned (.agg #[.int .u64 18446744073709551614, .int .u64 4294967295, .int .u64 0, .int .u64 18446744069414584321]) ∧ Below w.heap.size w w' := fun w => by
  have h := sub_any 0 1 2 (by decide) (by decide) w
  rw [md0, show (1 + (mP - 2 % mP)) % mP = 115792089210356248762697446949407573530086143415290314195533631308867097853950 from by decide +kernel, lTop, lOne, lTwo] at h
  exact h
theorem cInv0 : ∀ w, Calls Try.prog 26 #[.int .i64 0, .agg #[.int .u64 2, .int .u64 0, .int .u64 0, .int .u64 0]] w fun e w' => e = .returned (.tuple #[.agg #[.int .u64 0, .int .u64 2147483648, .int .u64 9223372036854775808, .int .u64 9223372034707292160], .int .i64 0]) ∧ Below w.heap.size w w' := fun w => by
  have h := inv_any 0 2 (by decide) w
  rw [md0, if_neg (by decide +kernel), half_is, lHalf, lTwo] at h
  exact h
theorem cInv1 : ∀ w, Calls Try.prog 26 #[.int .i64 1, .agg #[.int .u64 17562291160714782033, .int .u64 13611842547513532036, .int .u64 18446744073709551615, .int .u64 18446744069414584320]] w fun e w' => e = .returned (.tuple #[.agg #[.int .u64 0, .int .u64 0, .int .u64 0, .int .u64 0], .int .i64 61]) ∧ Below w.heap.size w w' := fun w => by
  have h := inv_any 1 mN (by decide +kernel) w
  rw [md1, if_pos (Nat.mod_self mN), lZero, lN] at h
  exact h
theorem cBytes : ∀ w, Calls Try.prog 34 #[.agg #[.int .u64 18446744073709551615, .int .u64 4294967295, .int .u64 0, .int .u64 18446744069414584321]] w fun e w' => e = .returned (.string ⟨(nb mP).toArray⟩) ∧ Below w.heap.size w w' := fun w => by
  have h := bytes_any mP w
  rw [lP] at h
  exact h
theorem cOf : ∀ w, Calls Try.prog 31 #[.int .i64 0, .string ⟨(nb mP).toArray⟩] w fun e w' => e = .returned (.tuple #[.agg #[.int .u64 0, .int .u64 0, .int .u64 0, .int .u64 0], .int .i64 60]) ∧ Below w.heap.size w w' := fun w => by
  have h := of_any 0 (nb mP) (by rw [nb_length]; decide) w
  rw [md0, if_neg (fun h => by rw [nb_val (by decide +kernel)] at h; exact absurd h.2 (Nat.lt_irrefl _)), lZero] at h
  exact h
theorem cMul : ∀ w, Calls Try.prog 23 #[.int .i64 0, .agg #[.int .u64 18446744073709551614, .int .u64 4294967295, .int .u64 0, .int .u64 18446744069414584321], .agg #[.int .u64 18446744073709551614, .int .u64 4294967295, .int .u64 0, .int .u64 18446744069414584321]] w fun e w' => e = .returned (.agg #[.int .u64 1, .int .u64 0, .int .u64 0, .int .u64 0]) ∧ Below w.heap.size w w' := fun w => by
  have h := mul_any 0 115792089210356248762697446949407573530086143415290314195533631308867097853950 115792089210356248762697446949407573530086143415290314195533631308867097853950 (by decide +kernel) (by decide +kernel) w
  rw [md0, show 115792089210356248762697446949407573530086143415290314195533631308867097853950 * 115792089210356248762697446949407573530086143415290314195533631308867097853950 % mP = 1 from by decide +kernel, lTop, lOne] at h
  exact h
theorem cAdd : ∀ w, Calls Try.prog 19 #[.int .i64 0, .agg #[.int .u64 0, .int .u64 2147483648, .int .u64 9223372036854775808, .int .u64 9223372034707292160], .agg #[.int .u64 0, .int .u64 2147483648, .int .u64 9223372036854775808, .int .u64 9223372034707292160]] w fun e w' => e = .returned (.agg #[.int .u64 1, .int .u64 0, .int .u64 0, .int .u64 0]) ∧ Below w.heap.size w w' := fun w => by
  have h := add_any 0 57896044605178124381348723474703786765043071707645157097766815654433548926976 57896044605178124381348723474703786765043071707645157097766815654433548926976 (by decide +kernel) (by decide +kernel) w
  rw [md0, show (57896044605178124381348723474703786765043071707645157097766815654433548926976 + 57896044605178124381348723474703786765043071707645157097766815654433548926976) % mP = 1 from by decide +kernel, lHalf, lOne] at h
  exact h
theorem cPow : ∀ w, Calls Try.prog 29 #[.int .i64 0, .agg #[.int .u64 3, .int .u64 0, .int .u64 0, .int .u64 0], .agg #[.int .u64 5, .int .u64 0, .int .u64 0, .int .u64 0]] w fun e w' => e = .returned (.agg #[.int .u64 243, .int .u64 0, .int .u64 0, .int .u64 0]) ∧ Below w.heap.size w w' := fun w => by
  have h := pow_any 0 3 5 (by decide) (by decide) w
  rw [md0, show 3 ^ 5 % mP = 243 from by decide +kernel, lThree, lFive, lB243] at h
  exact h
theorem cReduce : ∀ w, Calls Try.prog 36 #[.int .i64 1, .string ⟨#[1, 0]⟩] w fun e w' => e = .returned (.agg #[.int .u64 256, .int .u64 0, .int .u64 0, .int .u64 0]) ∧ Below w.heap.size w w' := fun w => by
  have h := reduce_any 1 [1, 0] (by decide) w
  rw [md1, show bv [1, 0] % mN = 256 from by decide +kernel, lB256] at h
  exact h
theorem cNeg : ∀ w, Calls Try.prog 25 #[.int .i64 1, .agg #[.int .u64 0, .int .u64 0, .int .u64 0, .int .u64 0]] w fun e w' => e = .returned (.agg #[.int .u64 0, .int .u64 0, .int .u64 0, .int .u64 0]) ∧ Below w.heap.size w w' := fun w => by
  have h := neg_any 1 0 (by decide) w
  rw [md1, show (mN - 0 % mN) % mN = 0 from by decide +kernel, lZero] at h
  exact h

set_option maxHeartbeats 32000000 in
theorem awake_any (w : World) : Calls Try.prog 15 #[] w fun e w' => e = .returned (.bool true) ∧ Below w.heap.size w w' := by
  have HM0 := Lib.hid cMod0
  have HM1 := Lib.hid cMod1
  have HSub := Lib.hid cSub
  have HI0 := Lib.hid cInv0
  have HI1 := Lib.hid cInv1
  have HBy := Lib.hid cBytes
  have HOf := Lib.hid cOf
  have HMul := Lib.hid cMul
  have HAdd := Lib.hid cAdd
  have HPow := Lib.hid cPow
  have HRed := Lib.hid cReduce
  have HNeg := Lib.hid cNeg
  generalize (⟨(nb mP).toArray⟩ : ByteArray) = NB at *
  go_enter Try.func15, Try.ntmps15
  go_wp2_with fail
  refine (keep w.heap.size w (HM0.out _) (Below.refl _ _) (Nat.le_refl _)).mono ?_
  rintro e w1 ⟨rfl, hB1, hk⟩
  clear hk
  go_wp2_with fail
  refine (keep w.heap.size w (HSub.out _) (by have hs := hB1.size; go_grown) (Nat.le_refl _)).mono ?_
  rintro e w2 ⟨rfl, hB2, hk⟩
  have K1 : Hid (Bk 24 w2 w1.heap.size #[.int .u64 18446744073709551615, .int .u64 4294967295, .int .u64 0, .int .u64 18446744069414584321]) := Lib.hid (Bk.below (Bk.new rfl) hk)
  clear hk hB1
  go_wp2_with fail
  refine (keep w.heap.size w (HI0.out _) (by have hs := hB2.size; go_grown) (Nat.le_refl _)).mono ?_
  rintro e w3 ⟨rfl, hB3, hk⟩
  have K13 := Lib.hid (Bk.below (Bk.alloc K1.out) hk)
  have K23 : Hid (Bk 24 w3 w2.heap.size #[.int .u64 18446744073709551614, .int .u64 4294967295, .int .u64 0, .int .u64 18446744069414584321]) := Lib.hid (Bk.below (Bk.new rfl) hk)
  clear hk hB2 K1
  have KK1 := Lib.hid (Bk.alloc (o := .cells #[.int .u64 0, .int .u64 2147483648, .int .u64 9223372036854775808, .int .u64 9223372034707292160] 24) K13.out)
  have KK2 := Lib.hid (Bk.alloc (o := .cells #[.int .u64 0, .int .u64 2147483648, .int .u64 9223372036854775808, .int .u64 9223372034707292160] 24) K23.out)
  have KK3 : Hid (Bk 24 (w3.alloc (.cells #[.int .u64 0, .int .u64 2147483648, .int .u64 9223372036854775808, .int .u64 9223372034707292160] 24)) w3.heap.size #[.int .u64 0, .int .u64 2147483648, .int .u64 9223372036854775808, .int .u64 9223372034707292160]) := Lib.hid (Bk.new rfl)
  have HBW : Hid (Below w.heap.size w (w3.alloc (.cells #[.int .u64 0, .int .u64 2147483648, .int .u64 9223372036854775808, .int .u64 9223372034707292160] 24))) := Lib.hid (by have hs := hB3.size; go_grown)
  clear K13 K23 hB3
  obtain ⟨g1, hg1⟩ : ∃ z, z = w1.heap.size := ⟨_, rfl⟩
  obtain ⟨g2, hg2⟩ : ∃ z, z = w2.heap.size := ⟨_, rfl⟩
  obtain ⟨g3, hg3⟩ : ∃ z, z = w3.heap.size := ⟨_, rfl⟩
  go_wp2_with fail
  rw [← hg1] at KK1
  rw [← hg2] at KK2
  rw [← hg3] at KK3
  rw [← hg1, ← hg2, ← hg3]
  clear hg1 hg2 hg3
  generalize (w3.alloc (.cells #[.int .u64 0, .int .u64 2147483648, .int .u64 9223372036854775808, .int .u64 9223372034707292160] 24)) = W at KK1 KK2 KK3 HBW ⊢
  obtain ⟨⟨p0, p1, p2, p3⟩, p4, p5, p6, p7⟩ := Bk.all4 KK1.out
  obtain ⟨⟨q0, q1, q2, q3⟩, q4, q5, q6, q7⟩ := Bk.all4 KK2.out
  obtain ⟨⟨r0, r1, r2, r3⟩, r4, r5, r6, r7⟩ := Bk.all4 KK3.out
  clear KK1 KK2 KK3
  have heq := eq24
  refine (keep W.heap.size W (HM1.out _) (Below.refl _ _) (Nat.le_refl _)).mono ?_
  rintro e v0 ⟨rfl, hb', hk⟩
  have hB := hb'
  clear hb' hk
  go_wp2_with fail
  refine (keep W.heap.size W (HI1.out _) (by first | exact hB | (have hs := hB.size; go_grown)) (Nat.le_refl _)).mono ?_
  rintro e v1 ⟨rfl, hb', hk⟩
  clear hB
  have hB := hb'
  clear hb' hk
  go_wp2_with fail
  refine (keep W.heap.size W (HBy.out _) (by first | exact hB | (have hs := hB.size; go_grown)) (Nat.le_refl _)).mono ?_
  rintro e v2 ⟨rfl, hb', hk⟩
  clear hB
  have hB := hb'
  clear hb' hk
  go_wp2_with fail
  refine (keep W.heap.size W (HOf.out _) (by first | exact hB | (have hs := hB.size; go_grown)) (Nat.le_refl _)).mono ?_
  rintro e v3 ⟨rfl, hb', hk⟩
  clear hB
  have hB := hb'
  clear hb' hk
  go_wp2_with fail
  refine (keep W.heap.size W (HM1.out _) (by first | exact hB | (have hs := hB.size; go_grown)) (Nat.le_refl _)).mono ?_
  rintro e v4 ⟨rfl, hb', hk⟩
  clear hB
  have hB := hb'
  clear hb' hk
  go_wp2_with fail
  refine (keep W.heap.size W (HMul.out _) (by first | exact hB | (have hs := hB.size; go_grown)) (Nat.le_refl _)).mono ?_
  rintro e v5 ⟨rfl, hb', hk⟩
  clear hB
  have hB := hb'
  clear hb' hk
  go_wp2_with fail
  refine (keep W.heap.size W (HAdd.out _) (by first | exact hB | (have hs := hB.size; go_grown)) (Nat.le_refl _)).mono ?_
  rintro e v6 ⟨rfl, hb', hk⟩
  clear hB
  have hB := hb'
  clear hb' hk
  go_wp2_with fail
  refine (keep W.heap.size W (HPow.out _) (by first | exact hB | (have hs := hB.size; go_grown)) (Nat.le_refl _)).mono ?_
  rintro e v7 ⟨rfl, hb', hk⟩
  clear hB
  have hB := hb'
  clear hb' hk
  go_wp2_with fail
  refine (keep W.heap.size W (HRed.out _) (by first | exact hB | (have hs := hB.size; go_grown)) (Nat.le_refl _)).mono ?_
  rintro e v8 ⟨rfl, hb', hk⟩
  clear hB
  have hB := hb'
  clear hb' hk
  go_wp2_with fail
  refine (keep W.heap.size W (HNeg.out _) (by first | exact hB | (have hs := hB.size; go_grown)) (Nat.le_refl _)).mono ?_
  rintro e v9 ⟨rfl, hb', hk⟩
  clear hB
  have hB := hb'
  clear hb' hk
  go_wp2_with fail
  go_ret
  refine ⟨rfl, ?_⟩
  exact HBW.out.trans (hB.mono HBW.out.size)
end Go.Proofs.Ytglmmodkflkkkaa
