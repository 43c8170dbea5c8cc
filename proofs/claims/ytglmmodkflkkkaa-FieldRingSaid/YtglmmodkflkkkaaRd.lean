/- Each prime makes a field: the walk of the law of rings. No condition but that each number is below 2 to the 256. -/
import Derived.Test.YtglmmodkflkkkaaRc
set_option linter.unusedVariables false
set_option linter.unusedSimpArgs false
set_option maxRecDepth 100000
namespace Go.Proofs.Ytglmmodkflkkkaa
open Go.RowKit Go.Sort Limbs

theorem add_lt {M : Nat} (h : 0 < M) (hW : M < W256) (a : Nat) : a % M < W256 := Nat.lt_trans (Nat.mod_lt _ h) hW
theorem ring_neg {a M : Nat} (hM : 0 < M) : (a + (M - a % M) % M) % M = 0 := by
  have h := Nat.mod_lt a hM
  rw [Nat.add_mod, Nat.mod_mod, ← Nat.add_mod]
  rw [← Nat.mod_add_mod, show a % M + (M - a % M) = M by omega, Nat.mod_self]
theorem ring_sub {a b M : Nat} (hM : 0 < M) : ((a + b) % M + (M - b % M)) % M = a % M := by
  have h := Nat.mod_lt b hM
  have e : ((a + b) % M + (M - b % M)) % M = ((a + b) + (M - b % M)) % M := by rw [Nat.mod_add_mod]
  have e2 : (a + b) + (M - b % M) = a + (b / M + 1) * M := by
    have := Nat.mod_add_div b M
    rw [Nat.add_mul, Nat.one_mul, Nat.mul_comm (b / M) M]
    generalize M * (b / M) = q at *
    omega
  rw [e, e2, Nat.add_mul_mod_self_right]
set_option maxHeartbeats 64000000 in
theorem ring_walk (m : Int) (a b c : Nat) (ha : a < W256) (hb : b < W256) (hc : c < W256) (w : World) :
    Calls Try.prog 7 #[.int .i64 m, .agg #[.int .u64 (lb a 0 : Nat), .int .u64 (lb a 1 : Nat), .int .u64 (lb a 2 : Nat), .int .u64 (lb a 3 : Nat), .int .u64 (lb b 0 : Nat), .int .u64 (lb b 1 : Nat), .int .u64 (lb b 2 : Nat), .int .u64 (lb b 3 : Nat), .int .u64 (lb c 0 : Nat), .int .u64 (lb c 1 : Nat), .int .u64 (lb c 2 : Nat), .int .u64 (lb c 3 : Nat)]] w fun r w' => r = .returned (.bool true) ∧ Below w.heap.size w w' := by
  have hM := md_or m
  obtain ⟨hMW, hM2, hM3, hMp⟩ := md_lt hM
  have HAW := Lib.hid awake_any
  have hpr := md_prime hM
  have hp0 : 0 < md m := by omega
  have lt (n : Nat) : n % md m < W256 := add_lt hp0 hMW n
  have c1 := mul_any m a b ha hb
  have c2 := add_any m b c hb hc
  have c3 := mul_any m b a hb ha
  rw [Nat.mul_comm b a] at c3
  have c4 := add_any m c b hc hb
  rw [Nat.add_comm c b] at c4
  have c5 := add_any m a ((b + c) % md m) ha (lt _)
  rw [Nat.add_mod_mod] at c5
  have c6 := add_any m a b ha hb
  have c7 := add_any m ((a + b) % md m) c (lt _) hc
  rw [Nat.mod_add_mod, Nat.add_assoc] at c7
  have c8 := mul_any m b c hb hc
  have c9 := mul_any m a (b * c % md m) ha (lt _)
  rw [Nat.mul_mod_mod] at c9
  have c10 := mul_any m (a * b % md m) c (lt _) hc
  rw [Nat.mod_mul_mod, Nat.mul_assoc] at c10
  have c11 := mul_any m a ((b + c) % md m) ha (lt _)
  rw [Nat.mul_mod_mod, Nat.mul_add] at c11
  have c12 := mul_any m a c ha hc
  have c13 := add_any m (a * b % md m) (a * c % md m) (lt _) (lt _)
  rw [← Nat.add_mod] at c13
  have c14 := add_any m a 0 ha (by decide)
  rw [Nat.add_zero] at c14
  have c15 := sub_any m ((a + b) % md m) b (lt _) hb
  rw [ring_sub hp0] at c15
  have c16 := neg_any m a ha
  have c17 := add_any m a ((md m - a % md m) % md m) ha (lt _)
  rw [ring_neg hp0] at c17
  have c18 := mul_any m a 1 ha (by decide)
  rw [Nat.mul_one] at c18
  have c19 := mul_any m a 0 ha (by decide)
  rw [Nat.mul_zero, Nat.zero_mod] at c19
  have c20 := inv_any m a ha
  have c21 := mul_any m a (a ^ (md m - 2) % md m) ha (lt _)
  rw [Nat.mul_mod_mod, ← Nat.pow_succ', show (md m - 2).succ = md m - 1 by omega] at c21
  have c22 := add_any m b 0 hb (by decide)
  rw [Nat.add_zero] at c22
  have hone : a % md m ≠ 0 → a ^ (md m - 1) % md m = 1 := fun h => Primes.fermat hpr (fun hd => h (Nat.mod_eq_zero_of_dvd hd))
  have huni : a % md m ≠ 0 → a * b % md m = 1 → b % md m = a ^ (md m - 2) % md m := fun h h1 => by
    have hcop := hpr.cop (a := a) (fun hd => h (Nat.mod_eq_zero_of_dvd hd))
    have h2 := hone h
    have h3 : a * (a ^ (md m - 2)) % md m = 1 := by rw [← Nat.pow_succ', show (md m - 2).succ = md m - 1 by omega]; exact h2
    exact Primes.cancel hcop (by rw [h1, h3])
  have hxl := lt (a ^ (md m - 2))
  have hal := lt a
  have hbl := lt b
  have habl := lt (a * b)
  clear lt
  generalize a ^ (md m - 1) % md m = one' at *
  generalize hx : a ^ (md m - 2) % md m = x at *
  generalize (md m - a % md m) % md m = na at *
  generalize a % md m = ra at *
  generalize (a * b + a * c) % md m = d1 at *
  generalize a * c % md m = ac at *
  generalize a * (b * c) % md m = m2 at *
  generalize b * c % md m = m1 at *
  generalize (a + (b + c)) % md m = s1 at *
  generalize (a + b) % md m = s2 at *
  generalize (b + c) % md m = bc at *
  generalize a * b % md m = ab at *
  generalize b % md m = rb at *
  clear hM hMW hM2 hM3 hMp hpr hp0 hx ha hb hc
  have HONE := Lib.hid hone
  have HUNI := Lib.hid huni
  have HL := Lib.hid (And.intro hxl (And.intro hal (And.intro hbl habl)))
  clear hone huni hxl hal hbl habl
  have e0 : nv 0 = .agg #[.int .u64 0, .int .u64 0, .int .u64 0, .int .u64 0] := rfl
  have e1 : nv 1 = .agg #[.int .u64 1, .int .u64 0, .int .u64 0, .int .u64 0] := rfl
  rw [e0] at c14 c17 c19 c22
  rw [e1] at c18
  have C1 := Lib.hid c1
  have C2 := Lib.hid c2
  have C3 := Lib.hid c3
  have C4 := Lib.hid c4
  have C5 := Lib.hid c5
  have C6 := Lib.hid c6
  have C7 := Lib.hid c7
  have C8 := Lib.hid c8
  have C9 := Lib.hid c9
  have C10 := Lib.hid c10
  have C11 := Lib.hid c11
  have C12 := Lib.hid c12
  have C13 := Lib.hid c13
  have C14 := Lib.hid c14
  have C15 := Lib.hid c15
  have C16 := Lib.hid c16
  have C17 := Lib.hid c17
  have C18 := Lib.hid c18
  have C19 := Lib.hid c19
  have C20 := Lib.hid c20
  have C21 := Lib.hid c21
  have C22 := Lib.hid c22
  clear c1 c2 c3 c4 c5 c6 c7 c8 c9 c10 c11 c12 c13 c14 c15 c16 c17 c18 c19 c20 c21 c22 e0 e1
  have HI : Hid (∀ w, Calls Try.prog 26 #[.int .i64 m, nv a] w fun e w' => e = .returned (if ra = 0 then .tuple #[nv 0, .int .i64 61] else .tuple #[nv x, .int .i64 0]) ∧ Below w.heap.size w w') := C20
  clear C20
  simp only [nv, num] at C1 C2 C3 C4 C5 C6 C7 C8 C9 C10 C11 C12 C13 C14 C15 C16 C17 C18 C19 C21 C22
  go_enter Try.func7, Try.ntmps7
  go_wp2_with fail
  have K3 : Hid (Bk 48 (w.alloc (.cells #[.int .u64 (lb a 0 : Nat), .int .u64 (lb a 1 : Nat), .int .u64 (lb a 2 : Nat), .int .u64 (lb a 3 : Nat), .int .u64 (lb b 0 : Nat), .int .u64 (lb b 1 : Nat), .int .u64 (lb b 2 : Nat), .int .u64 (lb b 3 : Nat), .int .u64 (lb c 0 : Nat), .int .u64 (lb c 1 : Nat), .int .u64 (lb c 2 : Nat), .int .u64 (lb c 3 : Nat)] 48)) w.heap.size #[.int .u64 (lb a 0 : Nat), .int .u64 (lb a 1 : Nat), .int .u64 (lb a 2 : Nat), .int .u64 (lb a 3 : Nat), .int .u64 (lb b 0 : Nat), .int .u64 (lb b 1 : Nat), .int .u64 (lb b 2 : Nat), .int .u64 (lb b 3 : Nat), .int .u64 (lb c 0 : Nat), .int .u64 (lb c 1 : Nat), .int .u64 (lb c 2 : Nat), .int .u64 (lb c 3 : Nat)]) := Lib.hid (Bk.new rfl)
  have HB0 : Hid (Below w.heap.size w (w.alloc (.cells #[.int .u64 (lb a 0 : Nat), .int .u64 (lb a 1 : Nat), .int .u64 (lb a 2 : Nat), .int .u64 (lb a 3 : Nat), .int .u64 (lb b 0 : Nat), .int .u64 (lb b 1 : Nat), .int .u64 (lb b 2 : Nat), .int .u64 (lb b 3 : Nat), .int .u64 (lb c 0 : Nat), .int .u64 (lb c 1 : Nat), .int .u64 (lb c 2 : Nat), .int .u64 (lb c 3 : Nat)] 48))) := Lib.hid (by go_grown)
  generalize (w.alloc (.cells #[.int .u64 (lb a 0 : Nat), .int .u64 (lb a 1 : Nat), .int .u64 (lb a 2 : Nat), .int .u64 (lb a 3 : Nat), .int .u64 (lb b 0 : Nat), .int .u64 (lb b 1 : Nat), .int .u64 (lb b 2 : Nat), .int .u64 (lb b 3 : Nat), .int .u64 (lb c 0 : Nat), .int .u64 (lb c 1 : Nat), .int .u64 (lb c 2 : Nat), .int .u64 (lb c 3 : Nat)] 48)) = W at K3 HB0 ⊢
  refine r1 w.heap.size (lb a 0) (lb a 1) (lb a 2) (lb a 3) (lb b 0) (lb b 1) (lb b 2) (lb b 3) (lb c 0) (lb c 1) (lb c 2) (lb c 3) W (fun w2 h => (K3.out.below h).cell 0) (fun w2 h => (K3.out.below h).cell 1) (fun w2 h => (K3.out.below h).cell 2) (fun w2 h => (K3.out.below h).cell 3) (fun w2 h => (K3.out.below h).cell 4) (fun w2 h => (K3.out.below h).cell 5) (fun w2 h => (K3.out.below h).cell 6) (fun w2 h => (K3.out.below h).cell 7) (fun w2 h => (K3.out.below h).cell 8) (fun w2 h => (K3.out.below h).cell 9) (fun w2 h => (K3.out.below h).cell 10) (fun w2 h => (K3.out.below h).cell 11) ?_
  intro _ _ _ _ _ _ ga gb gc w1 hb1 ha1 hgb1 hgc1 kA kB kC
  have KA := Lib.hid kA
  have KB := Lib.hid kB
  have KC := Lib.hid kC
  have HB1 := Lib.hid (HB0.out.trans (hb1.mono HB0.out.size))
  clear K3 HB0 hb1 ha1 hgb1 hgc1 kA kB kC
  go_wp2_with fail
  refine (keep w.heap.size w (HAW.out _) HB1.out (Nat.le_refl _)).mono ?_
  rintro r' w2 ⟨rfl, hb2, hk⟩
  have KA2 := Lib.hid (KA.out.below hk)
  have KB2 := Lib.hid (KB.out.below hk)
  have KC2 := Lib.hid (KC.out.below hk)
  have HB2 := Lib.hid hb2
  clear hk hb2 KA KB KC HB1 HAW
  go_wp2_with fail
  refine ri4 ga gb gc a b c ab bc m w2 KA2.out KB2.out KC2.out C1 C2 ?_
  intro _ _ _ _ _ _ _ _ g8 g9 w3 hb3 hg8 hg9 hk8 hk9 hn
  have KA3 := Lib.hid (KA2.out.below hb3)
  have KB3 := Lib.hid (KB2.out.below hb3)
  have KC3 := Lib.hid (KC2.out.below hb3)
  have K83 := Lib.hid hk8
  have K93 := Lib.hid hk9
  have HB3 := Lib.hid (HB2.out.trans (hb3.mono HB2.out.size))
  clear hb3 hg8 hg9 hk8 hk9 hn KA2 KB2 KC2 HB2
  go_wp2_with fail
  obtain ⟨a0, a1, a2, a3⟩ := KA3.out.reg
  obtain ⟨b0, b1, b2, b3⟩ := KB3.out.reg
  obtain ⟨c0, c1, c2, c3⟩ := KC3.out.reg
  obtain ⟨p0, p1, p2, p3⟩ := K83.out.reg
  obtain ⟨q0, q1, q2, q3⟩ := K93.out.reg
  have heq := eq24
  refine wp_region_quiet_below mixed (by kernel_rfl) ?_
  iterate 4 go_big_quiet_step (fail)
  go_big_quiet_step (exact qg C3.out)
  iterate 6 go_big_quiet_step (fail)
  go_big_quiet_step (exact qg C4.out)
  iterate 6 go_big_quiet_step (fail)
  go_big_quiet_step (exact qg C5.out)
  iterate 4 go_big_quiet_step (fail)
  go_big_quiet_step (exact qg C6.out)
  go_big_quiet_step (fail)
  go_big_quiet_step (exact qg C7.out)
  iterate 8 go_big_quiet_step (fail)
  go_big_quiet_step (exact qg C8.out)
  go_big_quiet_step (exact qg C9.out)
  iterate 3 go_big_quiet_step (fail)
  go_big_quiet_step (exact qg C10.out)
  iterate 6 go_big_quiet_step (fail)
  go_big_quiet_step (exact qg C11.out)
  iterate 5 go_big_quiet_step (fail)
  go_big_quiet_step (exact qg C12.out)
  go_big_quiet_step (exact qg C13.out)
  iterate 2 go_big_quiet_step (fail)
  refine wpQuiet_nil ?_
  intro _ hw'
  obtain ⟨⟨dq, osq⟩, hw''⟩ := hw'
  subst hw''
  have KA4 := Lib.hid (KA3.out.regrown dq osq)
  have KB4 := Lib.hid (KB3.out.regrown dq osq)
  have HB4 := Lib.hid (HB3.out.trans ((below_regrown w3 dq osq).mono HB3.out.size))
  clear KA3 KB3 KC3 K83 K93 HB3 a0 a1 a2 a3 b0 b1 b2 b3 c0 c1 c2 c3 p0 p1 p2 p3 q0 q1 q2 q3 C3 C4 C5 C7 C8 C9 C10 C11 C12 C13
  generalize grow (redrawn w3 dq) osq = V at KA4 KB4 HB4 ⊢
  obtain ⟨i0, i1, i2, i3⟩ := KA4.out.cells
  go_wp2_with fail
  refine (keep w.heap.size w (C14.out _) HB4.out (Nat.le_refl _)).mono ?_
  rintro r' w5 ⟨rfl, hb, hk⟩
  have KA5 : Hid (Bk 24 (w5.alloc (.cells #[.int .u64 (lb ra 0 : Nat), .int .u64 (lb ra 1 : Nat), .int .u64 (lb ra 2 : Nat), .int .u64 (lb ra 3 : Nat)] 24)) ga #[.int .u64 (lb a 0 : Nat), .int .u64 (lb a 1 : Nat), .int .u64 (lb a 2 : Nat), .int .u64 (lb a 3 : Nat)]) := Lib.hid (Bk.alloc (KA4.out.below hk))
  have KB5 : Hid (Bk 24 (w5.alloc (.cells #[.int .u64 (lb ra 0 : Nat), .int .u64 (lb ra 1 : Nat), .int .u64 (lb ra 2 : Nat), .int .u64 (lb ra 3 : Nat)] 24)) gb #[.int .u64 (lb b 0 : Nat), .int .u64 (lb b 1 : Nat), .int .u64 (lb b 2 : Nat), .int .u64 (lb b 3 : Nat)]) := Lib.hid (Bk.alloc (KB4.out.below hk))
  have KO5 : Hid (Bk 24 (w5.alloc (.cells #[.int .u64 (lb ra 0 : Nat), .int .u64 (lb ra 1 : Nat), .int .u64 (lb ra 2 : Nat), .int .u64 (lb ra 3 : Nat)] 24)) w5.heap.size #[.int .u64 (lb ra 0 : Nat), .int .u64 (lb ra 1 : Nat), .int .u64 (lb ra 2 : Nat), .int .u64 (lb ra 3 : Nat)]) := Lib.hid (Bk.new rfl)
  have HB5 : Hid (Below w.heap.size w (w5.alloc (.cells #[.int .u64 (lb ra 0 : Nat), .int .u64 (lb ra 1 : Nat), .int .u64 (lb ra 2 : Nat), .int .u64 (lb ra 3 : Nat)] 24))) := Lib.hid (by have hs := hb.size; go_grown)
  clear hk hb KA4 KB4 HB4 i0 i1 i2 i3
  obtain ⟨go, hgo⟩ : ∃ z, z = w5.heap.size := ⟨_, rfl⟩
  go_wp2_with fail
  rw [← hgo] at KO5
  rw [← hgo]
  clear hgo
  generalize (w5.alloc (.cells #[.int .u64 (lb ra 0 : Nat), .int .u64 (lb ra 1 : Nat), .int .u64 (lb ra 2 : Nat), .int .u64 (lb ra 3 : Nat)] 24)) = V5 at KA5 KB5 KO5 HB5 ⊢
  obtain ⟨a0, a1, a2, a3⟩ := KA5.out.reg
  obtain ⟨b0, b1, b2, b3⟩ := KB5.out.reg
  obtain ⟨p0, p1, p2, p3⟩ := KO5.out.reg
  refine wp_region_quiet_below mixed (by kernel_rfl) ?_
  iterate 4 go_big_quiet_step (fail)
  go_big_quiet_step (exact qg C6.out)
  go_big_quiet_step (fail)
  go_big_quiet_step (exact qg C15.out)
  iterate 7 go_big_quiet_step (fail)
  go_big_quiet_step (exact qg C16.out)
  go_big_quiet_step (exact qg C17.out)
  iterate 7 go_big_quiet_step (fail)
  go_big_quiet_step (exact qg C18.out)
  iterate 7 go_big_quiet_step (fail)
  go_big_quiet_step (exact qg C19.out)
  iterate 3 go_big_quiet_step (fail)
  refine wpQuiet_nil ?_
  intro _ hw'
  obtain ⟨⟨dq, osq⟩, hw''⟩ := hw'
  subst hw''
  have KA6 := Lib.hid (KA5.out.regrown dq osq)
  have KB6 := Lib.hid (KB5.out.regrown dq osq)
  have KO6 := Lib.hid (KO5.out.regrown dq osq)
  have HB6 := Lib.hid (HB5.out.trans ((below_regrown V5 dq osq).mono HB5.out.size))
  clear KA5 KB5 KO5 HB5 a0 a1 a2 a3 b0 b1 b2 b3 p0 p1 p2 p3 C6 C15 C16 C17 C18 C19 heq
  generalize grow (redrawn V5 dq) osq = V at KA6 KB6 KO6 HB6 ⊢
  obtain ⟨i0, i1, i2, i3⟩ := KA6.out.cells
  have heq := fun w => eqN ra 0 HL.out.2.1 (by decide) w
  by_cases hr0 : ra = 0
  · rw [if_pos hr0] at HI
    rw [decide_eq_true hr0] at heq
    have heq2 : ∀ w, (Op.equalIn 10000 24 (.agg #[.int .u64 (lb ra 0 : Nat), .int .u64 (lb ra 1 : Nat), .int .u64 (lb ra 2 : Nat), .int .u64 (lb ra 3 : Nat)]) (.agg #[.int .u64 0, .int .u64 0, .int .u64 0, .int .u64 0])).run Try.prog w = .ok true w := heq
    clear heq hr0
    simp only [nv, num] at HI
    go_wp2_with fail
    refine (keep w.heap.size w (HI.out _) HB6.out (Nat.le_refl _)).mono ?_
    rintro r' w7 ⟨rfl, hb, hk⟩
    have KO7 := Lib.hid (KO6.out.below hk)
    have HB7 := Lib.hid hb
    clear hk hb i0 i1 i2 i3 KA6 KB6 KO6 HB6
    obtain ⟨p0, p1, p2, p3⟩ := KO7.out.cellsA
    go_wp2_with fail
    go_ret
    refine ⟨rfl, ?_⟩
    have hb := HB7.out
    have hs := hb.size
    go_grown
  · rw [if_neg hr0] at HI
    rw [decide_eq_false hr0] at heq
    have heq2 : ∀ w, (Op.equalIn 10000 24 (.agg #[.int .u64 (lb ra 0 : Nat), .int .u64 (lb ra 1 : Nat), .int .u64 (lb ra 2 : Nat), .int .u64 (lb ra 3 : Nat)]) (.agg #[.int .u64 0, .int .u64 0, .int .u64 0, .int .u64 0])).run Try.prog w = .ok false w := heq
    have h1 := HONE.out hr0
    subst h1
    have HU := Lib.hid (HUNI.out hr0)
    clear heq hr0 HONE HUNI
    have C21' : Hid (∀ w, Calls Try.prog 23 #[.int .i64 m, .agg #[.int .u64 (lb a 0 : Nat), .int .u64 (lb a 1 : Nat), .int .u64 (lb a 2 : Nat), .int .u64 (lb a 3 : Nat)], .agg #[.int .u64 (lb x 0 : Nat), .int .u64 (lb x 1 : Nat), .int .u64 (lb x 2 : Nat), .int .u64 (lb x 3 : Nat)]] w fun e w' => e = .returned (.agg #[.int .u64 1, .int .u64 0, .int .u64 0, .int .u64 0]) ∧ Below w.heap.size w w') := C21
    clear C21
    simp only [nv, num] at HI
    go_wp2_with fail
    refine (keep w.heap.size w (HI.out _) HB6.out (Nat.le_refl _)).mono ?_
    rintro r' w7 ⟨rfl, hb, hk⟩
    have KO7 := Lib.hid (KO6.out.below hk)
    have KA8 : Hid (Bk 24 (w7.alloc (.cells #[.int .u64 (lb x 0 : Nat), .int .u64 (lb x 1 : Nat), .int .u64 (lb x 2 : Nat), .int .u64 (lb x 3 : Nat)] 24)) ga #[.int .u64 (lb a 0 : Nat), .int .u64 (lb a 1 : Nat), .int .u64 (lb a 2 : Nat), .int .u64 (lb a 3 : Nat)]) := Lib.hid (Bk.alloc (KA6.out.below hk))
    have KB8 : Hid (Bk 24 (w7.alloc (.cells #[.int .u64 (lb x 0 : Nat), .int .u64 (lb x 1 : Nat), .int .u64 (lb x 2 : Nat), .int .u64 (lb x 3 : Nat)] 24)) gb #[.int .u64 (lb b 0 : Nat), .int .u64 (lb b 1 : Nat), .int .u64 (lb b 2 : Nat), .int .u64 (lb b 3 : Nat)]) := Lib.hid (Bk.alloc (KB6.out.below hk))
    have KX8 : Hid (Bk 24 (w7.alloc (.cells #[.int .u64 (lb x 0 : Nat), .int .u64 (lb x 1 : Nat), .int .u64 (lb x 2 : Nat), .int .u64 (lb x 3 : Nat)] 24)) w7.heap.size #[.int .u64 (lb x 0 : Nat), .int .u64 (lb x 1 : Nat), .int .u64 (lb x 2 : Nat), .int .u64 (lb x 3 : Nat)]) := Lib.hid (Bk.new rfl)
    have HB8 : Hid (Below w.heap.size w (w7.alloc (.cells #[.int .u64 (lb x 0 : Nat), .int .u64 (lb x 1 : Nat), .int .u64 (lb x 2 : Nat), .int .u64 (lb x 3 : Nat)] 24))) := Lib.hid (by have hs := hb.size; go_grown)
    clear hk hb i0 i1 i2 i3 KA6 KB6 KO6 HB6
    obtain ⟨p0, p1, p2, p3⟩ := KO7.out.cellsA
    obtain ⟨gx, hgx⟩ : ∃ z, z = w7.heap.size := ⟨_, rfl⟩
    go_wp2_with fail
    rw [← hgx] at KX8
    rw [← hgx]
    clear hgx p0 p1 p2 p3 KO7
    generalize (w7.alloc (.cells #[.int .u64 (lb x 0 : Nat), .int .u64 (lb x 1 : Nat), .int .u64 (lb x 2 : Nat), .int .u64 (lb x 3 : Nat)] 24)) = V8 at KA8 KB8 KX8 HB8 ⊢
    obtain ⟨a0, a1, a2, a3⟩ := KA8.out.reg
    obtain ⟨b0, b1, b2, b3⟩ := KB8.out.reg
    obtain ⟨p0, p1, p2, p3⟩ := KX8.out.reg
    have heq1 := eqN ab 1 HL.out.2.2.2 (by decide)
    have l1 : lb 1 0 = 1 ∧ lb 1 1 = 0 ∧ lb 1 2 = 0 ∧ lb 1 3 = 0 := by decide
    rw [l1.1, l1.2.1, l1.2.2.1, l1.2.2.2] at heq1
    clear l1
    have heq1' : ∀ w, (Op.equalIn 10000 24 (.agg #[.int .u64 (lb ab 0 : Nat), .int .u64 (lb ab 1 : Nat), .int .u64 (lb ab 2 : Nat), .int .u64 (lb ab 3 : Nat)]) (.agg #[.int .u64 1, .int .u64 0, .int .u64 0, .int .u64 0])).run Try.prog w = .ok (decide (ab = 1)) w := heq1
    have heqo : ∀ w, (Op.equalIn 10000 24 (.agg #[.int .u64 1, .int .u64 0, .int .u64 0, .int .u64 0]) (.agg #[.int .u64 1, .int .u64 0, .int .u64 0, .int .u64 0])).run Try.prog w = .ok true w := fun w => by rw [eq24]; rfl
    have heqx : ∀ w, (Op.equalIn 10000 24 (.agg #[.int .u64 (lb x 0 : Nat), .int .u64 (lb x 1 : Nat), .int .u64 (lb x 2 : Nat), .int .u64 (lb x 3 : Nat)]) (.agg #[.int .u64 (lb x 0 : Nat), .int .u64 (lb x 1 : Nat), .int .u64 (lb x 2 : Nat), .int .u64 (lb x 3 : Nat)])).run Try.prog w = .ok true w := fun w => by rw [eq24]; simp
    clear heq1
    by_cases hab : ab = 1
    · have hrb := HU.out hab
      subst hrb
      rw [decide_eq_true hab] at heq1'
      clear hab HU
      refine wp_region_quiet_below mixed (by kernel_rfl) ?_
      iterate 6 go_big_quiet_step (fail)
      go_big_quiet_step (exact qg C21'.out)
      iterate 7 go_big_quiet_step (fail)
      go_big_quiet_step (exact qg C1.out)
      iterate 6 go_big_quiet_step (fail)
      go_big_quiet_step (exact qg C22.out)
      iterate 5 go_big_quiet_step (fail)
      refine wpQuiet_nil ?_
      intro _ hw'
      obtain ⟨⟨dq, osq⟩, hw''⟩ := hw'
      subst hw''
      have HB9 := Lib.hid (HB8.out.trans ((below_regrown V8 dq osq).mono HB8.out.size))
      go_wp2_with fail
      go_ret
      exact ⟨rfl, HB9.out⟩
    · rw [decide_eq_false hab] at heq1'
      clear hab HU
      refine wp_region_quiet_below mixed (by kernel_rfl) ?_
      iterate 6 go_big_quiet_step (fail)
      go_big_quiet_step (exact qg C21'.out)
      iterate 7 go_big_quiet_step (fail)
      go_big_quiet_step (exact qg C1.out)
      iterate 12 go_big_quiet_step (fail)
      refine wpQuiet_nil ?_
      intro _ hw'
      obtain ⟨⟨dq, osq⟩, hw''⟩ := hw'
      subst hw''
      have HB9 := Lib.hid (HB8.out.trans ((below_regrown V8 dq osq).mono HB8.out.size))
      go_wp2_with fail
      go_ret
      exact ⟨rfl, HB9.out⟩
end Go.Proofs.Ytglmmodkflkkkaa
