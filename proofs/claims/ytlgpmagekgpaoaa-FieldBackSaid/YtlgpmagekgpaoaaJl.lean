/- A number to the power of the modulus is itself: the law's walk. No condition but that each number is below 2 to the 256. -/
import Derived.Test.YtlgpmagekgpaoaaJk
set_option linter.unusedVariables false
set_option linter.unusedSimpArgs false
set_option maxRecDepth 100000
namespace Go.Proofs.Ytlgpmagekgpaoaa
open Go.RowKit Go.Sort Limbs

theorem md_prime {M : Nat} (h : M = mP ∨ M = mN) : Primes.Prm M := by
  rcases h with rfl | rfl
  · exact Primes.P256
  · exact Primes.N256
theorem md_less {M : Nat} (h : M = mP ∨ M = mN) : lb (M - 2) 0 = lb M 0 - 2 ∧ lb (M - 2) 1 = lb M 1 ∧ lb (M - 2) 2 = lb M 2 ∧ lb (M - 2) 3 = lb M 3 ∧ 2 ≤ lb M 0 := by
  rcases h with rfl | rfl <;> decide +kernel
theorem more_lb {e : Nat} (he : e < W256) (h : lb e 0 ≠ 18446744073709551615) : e + 1 < W256 ∧ lb (e + 1) 0 = lb e 0 + 1 ∧ lb (e + 1) 1 = lb e 1 ∧ lb (e + 1) 2 = lb e 2 ∧ lb (e + 1) 3 = lb e 3 := by
  have h0 := lb_lt e 0
  have hv := v4_lb he
  have h1 : e + 1 = v4 (lb e 0 + 1) (lb e 1) (lb e 2) (lb e 3) := by
    have : v4 (lb e 0 + 1) (lb e 1) (lb e 2) (lb e 3) = v4 (lb e 0) (lb e 1) (lb e 2) (lb e 3) + 1 := by unfold v4; omega
    rw [this, hv]
  obtain ⟨e0, e1, e2, e3⟩ := lb_v4 (a := lb e 0 + 1) (b := lb e 1) (c := lb e 2) (d := lb e 3) (by omega) (lb_lt e 1) (lb_lt e 2) (lb_lt e 3)
  have hl := v4_lt (a := lb e 0 + 1) (b := lb e 1) (c := lb e 2) (d := lb e 3) (by omega) (lb_lt e 1) (lb_lt e 2) (lb_lt e 3)
  rw [← h1] at e0 e1 e2 e3 hl
  exact ⟨hl, e0, e1, e2, e3⟩
theorem Bk.reg {w : World} {g : Nat} {x0 x1 x2 x3 : Value} (h : Bk 24 w g #[x0, x1, x2, x3]) : (∀ d os, (grow (redrawn w d) os).cell? ⟨g, 0, none⟩ = some x0) ∧ (∀ d os, (grow (redrawn w d) os).cell? ⟨g, 1, none⟩ = some x1) ∧ (∀ d os, (grow (redrawn w d) os).cell? ⟨g, 2, none⟩ = some x2) ∧ (∀ d os, (grow (redrawn w d) os).cell? ⟨g, 3, none⟩ = some x3) :=
  ⟨fun d os => (h.regrown d os).cell 0, fun d os => (h.regrown d os).cell 1, fun d os => (h.regrown d os).cell 2, fun d os => (h.regrown d os).cell 3⟩

set_option maxHeartbeats 32000000 in
theorem fermat_walk (m : Int) (a e : Nat) (ha : a < W256) (he : e < W256) (w : World) :
    Calls Try.prog 8 #[.int .i64 m, nv a, nv e] w fun r w' => r = .returned (.bool true) ∧ Below w.heap.size w w' := by
  have hM := md_or m
  obtain ⟨hMW, hM2, hM3, hMp⟩ := md_lt hM
  have HAW := Lib.hid awake_any
  have HM := Lib.hid (mod_any m)
  have HI := Lib.hid (inv_any m a ha)
  have h1 := pow_any m a (md m) ha hMW
  have h2 := add_any m a 0 ha (by decide)
  have h3 := pow_any m a (md m - 2) ha (by omega)
  have hpr := md_prime hM
  have hls := md_less hM
  have HPW := Lib.hid (fun y (hy : y < W256) => pow_any m a y ha hy)
  have HMU := Lib.hid (fun y (hy : y < W256) => mul_any m y a hy ha)
  generalize md m = M at *
  have HMp : Hid (2 < M) := Lib.hid hMp
  rw [Primes.fermat_all hpr] at h1
  rw [Nat.add_zero] at h2
  obtain ⟨r, hr⟩ : ∃ z, z = a % M := ⟨_, rfl⟩
  obtain ⟨x, hx⟩ : ∃ z, z = a ^ (M - 2) % M := ⟨_, rfl⟩
  rw [← hr] at h1 h2 HI
  rw [← hx] at h3 HI
  have hrW : r < W256 := by rw [hr]; exact Nat.lt_trans (Nat.mod_lt _ (by omega)) hMW
  have hxW : x < W256 := by rw [hx]; exact Nat.lt_trans (Nat.mod_lt _ (by omega)) hMW
  have HP1 := Lib.hid h1
  have HA2 := Lib.hid h2
  have HP3 := Lib.hid h3
  have HL := Lib.hid hls
  have HEQR := Lib.hid (eqN r r hrW hrW)
  have HEQX := Lib.hid (eqN x x hxW hxW)
  have HW := Lib.hid (And.intro hMW (And.intro ha he))
  have hz : lb M 0 - 2 + 2 = lb M 0 := by have := hls.2.2.2.2; omega
  have hm0 := lb_lt M 0
  obtain ⟨low, hlow⟩ : ∃ z, z = lb M 0 - 2 := ⟨_, rfl⟩
  have aw : IntKind.u64.wrap (((lb M 0 : Nat) : Int) - 2) = (low : Int) := by rw [IntKind.wrap_u64]; omega
  have HLOW := Lib.hid hlow
  clear hM hM2 hM3 hMp h1 h2 h3 hpr hls hr hx hrW hxW hMW ha he hz hm0 hlow
  simp only [nv, num]
  go_enter Try.func8, Try.ntmps8
  go_wp2_with fail
  refine (keep w.heap.size w (HAW.out _) (by go_grown) (Nat.le_refl _)).mono ?_
  rintro r' w1 ⟨rfl, hb, hk⟩
  have KA : Hid (Bk 24 w1 w.heap.size (cs4 a)) := Lib.hid (Bk.below (Bk.alloc (Bk.new rfl)) hk)
  have KE : Hid (Bk 24 w1 (w.heap.size + 1) (cs4 e)) := Lib.hid (Bk.below (Bk.new (by simp)) hk)
  have HB := Lib.hid hb
  clear hk hb HAW
  go_wp2_with fail
  refine (keep w.heap.size w (HM.out _) HB.out (Nat.le_refl _)).mono ?_
  rintro r' w2 ⟨rfl, hb, hk⟩
  have KA2 := Lib.hid (KA.out.below hk)
  have KE2 := Lib.hid (KE.out.below hk)
  have HB2 := Lib.hid hb
  clear hk hb HM KA KE HB
  simp only [nv, num]
  have KA3 := fun o => (KA2.out.alloc (o := o)).cellsA
  have y0 : ∀ o o', ((w2.alloc o).alloc o').cell? ⟨w.heap.size, 0, none⟩ = some (.int .u64 (lb a 0 : Nat)) := fun o o' => (KA2.out.alloc (o := o)).alloc.cell 0
  have y1 : ∀ o o', ((w2.alloc o).alloc o').cell? ⟨w.heap.size, 1, none⟩ = some (.int .u64 (lb a 1 : Nat)) := fun o o' => (KA2.out.alloc (o := o)).alloc.cell 1
  have y2 : ∀ o o', ((w2.alloc o).alloc o').cell? ⟨w.heap.size, 2, none⟩ = some (.int .u64 (lb a 2 : Nat)) := fun o o' => (KA2.out.alloc (o := o)).alloc.cell 2
  have y3 : ∀ o o', ((w2.alloc o).alloc o').cell? ⟨w.heap.size, 3, none⟩ = some (.int .u64 (lb a 3 : Nat)) := fun o o' => (KA2.out.alloc (o := o)).alloc.cell 3
  clear KA3
  go_wp2_with fail
  have K7 : Hid (Bk 24 ((w2.alloc (.cells #[.int .u64 (lb M 0 : Nat), .int .u64 (lb M 1 : Nat), .int .u64 (lb M 2 : Nat), .int .u64 (lb M 3 : Nat)] 24)).alloc (.cells #[.int .u64 (low : Int), .int .u64 (lb M 1 : Nat), .int .u64 (lb M 2 : Nat), .int .u64 (lb M 3 : Nat)] 24)) w2.heap.size (cs4 M)) := Lib.hid (Bk.alloc (Bk.new rfl))
  have K8 : Hid (Bk 24 ((w2.alloc (.cells #[.int .u64 (lb M 0 : Nat), .int .u64 (lb M 1 : Nat), .int .u64 (lb M 2 : Nat), .int .u64 (lb M 3 : Nat)] 24)).alloc (.cells #[.int .u64 (low : Int), .int .u64 (lb M 1 : Nat), .int .u64 (lb M 2 : Nat), .int .u64 (lb M 3 : Nat)] 24)) (w2.heap.size + 1) (cs4 (M - 2))) := Lib.hid (by
    unfold cs4
    rw [HL.out.1, HL.out.2.1, HL.out.2.2.1, HL.out.2.2.2.1, ← HLOW.out]
    exact Bk.new (by simp))
  refine (keep w.heap.size w (HI.out _) (by have hb := HB2.out; have hs := hb.size; go_grown) (Nat.le_refl _)).mono ?_
  rintro r' w3 ⟨rfl, hb, hk⟩
  have KA3 := Lib.hid (Bk.below (Bk.alloc (Bk.alloc KA2.out)) hk)
  have KE3 := Lib.hid (Bk.below (Bk.alloc (Bk.alloc KE2.out)) hk)
  have K73 := Lib.hid (K7.out.below hk)
  have K83 := Lib.hid (K8.out.below hk)
  have HB3 := Lib.hid hb
  clear hk hb y0 y1 y2 y3 KA2 KE2 K7 K8 HB2 aw
  generalize w2.heap.size = g7 at *
  by_cases hr0 : r = 0
  · rw [if_pos hr0, nv_zero]
    clear hr0
    have KA4 := Lib.hid (Bk.alloc (o := .cells #[.int .u64 0, .int .u64 0, .int .u64 0, .int .u64 0] 24) KA3.out)
    have KE4 := Lib.hid (Bk.alloc (o := .cells #[.int .u64 0, .int .u64 0, .int .u64 0, .int .u64 0] 24) KE3.out)
    have K74 := Lib.hid (Bk.alloc (o := .cells #[.int .u64 0, .int .u64 0, .int .u64 0, .int .u64 0] 24) K73.out)
    have K84 := Lib.hid (Bk.alloc (o := .cells #[.int .u64 0, .int .u64 0, .int .u64 0, .int .u64 0] 24) K83.out)
    have K94 : Hid (Bk 24 (w3.alloc (.cells #[.int .u64 0, .int .u64 0, .int .u64 0, .int .u64 0] 24)) w3.heap.size #[.int .u64 0, .int .u64 0, .int .u64 0, .int .u64 0]) := Lib.hid (Bk.new rfl)
    have HB4 : Hid (Below w.heap.size w (w3.alloc (.cells #[.int .u64 0, .int .u64 0, .int .u64 0, .int .u64 0] 24))) := Lib.hid (by have hb := HB3.out; have hs := hb.size; go_grown)
    simp only [nv, num]
    go_wp2_with fail
    clear KA3 KE3 K73 K83 HB3
    generalize (w3.alloc (.cells #[.int .u64 0, .int .u64 0, .int .u64 0, .int .u64 0] 24)) = W at KA4 KE4 K74 K84 K94 HB4 ⊢
    generalize w3.heap.size = g9 at K94 ⊢
    obtain ⟨a0, a1, a2, a3⟩ := KA4.out.reg
    obtain ⟨p0, p1, p2, p3⟩ := K74.out.reg
    obtain ⟨l0, l1, l2, l3⟩ := K84.out.reg
    obtain ⟨x0, x1, x2, x3⟩ := K94.out.reg
    have heqr := HEQR.out
    have heqx := HEQX.out
    refine wp_region_quiet_below mixed (by kernel_rfl) ?_
    iterate 3 go_big_quiet_step (fail)
    go_big_quiet_step (exact qg HP1.out)
    iterate 3 go_big_quiet_step (fail)
    go_big_quiet_step (exact qg HA2.out)
    simp only [nv, num]
    repeat (first | go_big_quiet_step (fail) | quiet_step (fail))
    refine wpQuiet_nil ?_
    intro _ hw'
    obtain ⟨⟨dq, osq⟩, hw''⟩ := hw'
    subst hw''
    have KA5 := Lib.hid (KA4.out.regrown dq osq)
    have KE5 := Lib.hid (KE4.out.regrown dq osq)
    have HB5 := Lib.hid (HB4.out.trans ((below_regrown W dq osq).mono HB4.out.size))
    clear KA4 KE4 K74 K84 K94 HB4 a0 a1 a2 a3 p0 p1 p2 p3 l0 l1 l2 l3 x0 x1 x2 x3 heqr heqx
    generalize grow (redrawn W dq) osq = V at KA5 KE5 HB5 ⊢
    obtain ⟨i0, i1, i2, i3⟩ := KE5.out.cells
    by_cases hmx : lb e 0 = 18446744073709551615
    · have t1 : (((lb e 0 : Nat) : Int) == 18446744073709551615) = true := by simp; omega
      clear hmx
      go_wp2_with fail
      go_ret
      exact ⟨rfl, HB5.out⟩
    · have t1 : (((lb e 0 : Nat) : Int) == 18446744073709551615) = false := by simp; omega
      have hmo := more_lb HW.out.2.2 hmx
      have HMO := Lib.hid hmo
      have aw2 : IntKind.u64.wrap (((lb e 0 : Nat) : Int) + 1) = ((lb (e + 1) 0 : Nat) : Int) := by rw [hmo.2.1, IntKind.wrap_u64]; have := lb_lt e 0; omega
      clear hmx hmo
      go_wp2_with fail
      obtain ⟨y, hy⟩ : ∃ z, z = a ^ (e + 1) % M := ⟨_, rfl⟩
      obtain ⟨z, hz⟩ : ∃ z, z = a ^ e % M := ⟨_, rfl⟩
      have hzW : z < W256 := by rw [hz]; exact Nat.lt_trans (Nat.mod_lt _ (by have := HMp.out; omega)) HW.out.1
      have hzy : z * a % M = y := by
        have h := mod_step (a ^ e) a 0 M
        simp only [Nat.add_zero] at h
        rw [hz, hy, h, ← Nat.pow_succ]
      have h1 := HPW.out (e + 1) HMO.out.1
      rw [← hy] at h1
      have h2 := HPW.out e HW.out.2.2
      rw [← hz] at h2
      have h3 := HMU.out z hzW
      rw [hzy] at h3
      have h4 := HPW.out 0 (by decide)
      rw [Nat.pow_zero, Nat.mod_eq_of_lt (show 1 < M by have := HMp.out; omega)] at h4
      have HQ1 := Lib.hid h1
      have HQ2 := Lib.hid h2
      have HQ3 := Lib.hid h3
      have HQ4 := Lib.hid h4
      clear h1 h2 h3 h4 hzW hzy hy hz t1 aw2
      have KA6 := Lib.hid (Bk.alloc (o := .cells #[.int .u64 (lb (e + 1) 0 : Nat), .int .u64 (lb e 1 : Nat), .int .u64 (lb e 2 : Nat), .int .u64 (lb e 3 : Nat)] 24) KA5.out)
      have KE6 := Lib.hid (Bk.alloc (o := .cells #[.int .u64 (lb (e + 1) 0 : Nat), .int .u64 (lb e 1 : Nat), .int .u64 (lb e 2 : Nat), .int .u64 (lb e 3 : Nat)] 24) KE5.out)
      have KM6 : Hid (Bk 24 (V.alloc (.cells #[.int .u64 (lb (e + 1) 0 : Nat), .int .u64 (lb e 1 : Nat), .int .u64 (lb e 2 : Nat), .int .u64 (lb e 3 : Nat)] 24)) V.heap.size (cs4 (e + 1))) := Lib.hid (by
        unfold cs4
        rw [HMO.out.2.2.1, HMO.out.2.2.2.1, HMO.out.2.2.2.2]
        exact Bk.new rfl)
      have HB6 : Hid (Below w.heap.size w (V.alloc (.cells #[.int .u64 (lb (e + 1) 0 : Nat), .int .u64 (lb e 1 : Nat), .int .u64 (lb e 2 : Nat), .int .u64 (lb e 3 : Nat)] 24))) := Lib.hid (by have hb := HB5.out; have hs := hb.size; go_grown)
      clear KA5 KE5 HB5 i0 i1 i2 i3
      generalize (V.alloc (.cells #[.int .u64 (lb (e + 1) 0 : Nat), .int .u64 (lb e 1 : Nat), .int .u64 (lb e 2 : Nat), .int .u64 (lb e 3 : Nat)] 24)) = U at KA6 KE6 KM6 HB6 ⊢
      generalize V.heap.size = gm at KM6 ⊢
      obtain ⟨a0, a1, a2, a3⟩ := KA6.out.reg
      obtain ⟨p0, p1, p2, p3⟩ := KE6.out.reg
      obtain ⟨l0, l1, l2, l3⟩ := KM6.out.reg
      have heq := eq24
      refine wp_region_quiet_below mixed (by kernel_rfl) ?_
      iterate 3 go_big_quiet_step (fail)
      go_big_quiet_step (exact qg HQ1.out)
      iterate 4 go_big_quiet_step (fail)
      go_big_quiet_step (exact qg HQ2.out)
      go_big_quiet_step (fail)
      go_big_quiet_step (exact qg HQ3.out)
      simp only [nv, num]
      iterate 5 go_big_quiet_step (fail)
      go_big_quiet_step (exact qg HQ4.out)
      simp only [lOne]
      repeat (first | go_big_quiet_step (fail) | quiet_step (fail))
      refine wpQuiet_nil ?_
      intro _ hw'
      obtain ⟨⟨dq, osq⟩, hw''⟩ := hw'
      subst hw''
      have HB7 := Lib.hid (HB6.out.trans ((below_regrown U dq osq).mono HB6.out.size))
      go_wp2_with fail
      go_ret
      exact ⟨rfl, HB7.out⟩
  · rw [if_neg hr0]
    clear hr0
    have KA4 := Lib.hid (Bk.alloc (o := .cells #[.int .u64 (lb x 0 : Nat), .int .u64 (lb x 1 : Nat), .int .u64 (lb x 2 : Nat), .int .u64 (lb x 3 : Nat)] 24) KA3.out)
    have KE4 := Lib.hid (Bk.alloc (o := .cells #[.int .u64 (lb x 0 : Nat), .int .u64 (lb x 1 : Nat), .int .u64 (lb x 2 : Nat), .int .u64 (lb x 3 : Nat)] 24) KE3.out)
    have K74 := Lib.hid (Bk.alloc (o := .cells #[.int .u64 (lb x 0 : Nat), .int .u64 (lb x 1 : Nat), .int .u64 (lb x 2 : Nat), .int .u64 (lb x 3 : Nat)] 24) K73.out)
    have K84 := Lib.hid (Bk.alloc (o := .cells #[.int .u64 (lb x 0 : Nat), .int .u64 (lb x 1 : Nat), .int .u64 (lb x 2 : Nat), .int .u64 (lb x 3 : Nat)] 24) K83.out)
    have K94 : Hid (Bk 24 (w3.alloc (.cells #[.int .u64 (lb x 0 : Nat), .int .u64 (lb x 1 : Nat), .int .u64 (lb x 2 : Nat), .int .u64 (lb x 3 : Nat)] 24)) w3.heap.size #[.int .u64 (lb x 0 : Nat), .int .u64 (lb x 1 : Nat), .int .u64 (lb x 2 : Nat), .int .u64 (lb x 3 : Nat)]) := Lib.hid (Bk.new rfl)
    have HB4 : Hid (Below w.heap.size w (w3.alloc (.cells #[.int .u64 (lb x 0 : Nat), .int .u64 (lb x 1 : Nat), .int .u64 (lb x 2 : Nat), .int .u64 (lb x 3 : Nat)] 24))) := Lib.hid (by have hb := HB3.out; have hs := hb.size; go_grown)
    simp only [nv, num]
    go_wp2_with fail
    clear KA3 KE3 K73 K83 HB3
    generalize (w3.alloc (.cells #[.int .u64 (lb x 0 : Nat), .int .u64 (lb x 1 : Nat), .int .u64 (lb x 2 : Nat), .int .u64 (lb x 3 : Nat)] 24)) = W at KA4 KE4 K74 K84 K94 HB4 ⊢
    generalize w3.heap.size = g9 at K94 ⊢
    obtain ⟨a0, a1, a2, a3⟩ := KA4.out.reg
    obtain ⟨p0, p1, p2, p3⟩ := K74.out.reg
    obtain ⟨l0, l1, l2, l3⟩ := K84.out.reg
    obtain ⟨x0, x1, x2, x3⟩ := K94.out.reg
    have heqr := HEQR.out
    have heqx := HEQX.out
    refine wp_region_quiet_below mixed (by kernel_rfl) ?_
    iterate 3 go_big_quiet_step (fail)
    go_big_quiet_step (exact qg HP1.out)
    iterate 3 go_big_quiet_step (fail)
    go_big_quiet_step (exact qg HA2.out)
    simp only [nv, num]
    iterate 8 go_big_quiet_step (fail)
    go_big_quiet_step (exact qg HP3.out)
    simp only [nv, num]
    repeat (first | go_big_quiet_step (fail) | quiet_step (fail))
    refine wpQuiet_nil ?_
    intro _ hw'
    obtain ⟨⟨dq, osq⟩, hw''⟩ := hw'
    subst hw''
    have KA5 := Lib.hid (KA4.out.regrown dq osq)
    have KE5 := Lib.hid (KE4.out.regrown dq osq)
    have HB5 := Lib.hid (HB4.out.trans ((below_regrown W dq osq).mono HB4.out.size))
    clear KA4 KE4 K74 K84 K94 HB4 a0 a1 a2 a3 p0 p1 p2 p3 l0 l1 l2 l3 x0 x1 x2 x3 heqr heqx
    generalize grow (redrawn W dq) osq = V at KA5 KE5 HB5 ⊢
    obtain ⟨i0, i1, i2, i3⟩ := KE5.out.cells
    by_cases hmx : lb e 0 = 18446744073709551615
    · have t1 : (((lb e 0 : Nat) : Int) == 18446744073709551615) = true := by simp; omega
      clear hmx
      go_wp2_with fail
      go_ret
      exact ⟨rfl, HB5.out⟩
    · have t1 : (((lb e 0 : Nat) : Int) == 18446744073709551615) = false := by simp; omega
      have hmo := more_lb HW.out.2.2 hmx
      have HMO := Lib.hid hmo
      have aw2 : IntKind.u64.wrap (((lb e 0 : Nat) : Int) + 1) = ((lb (e + 1) 0 : Nat) : Int) := by rw [hmo.2.1, IntKind.wrap_u64]; have := lb_lt e 0; omega
      clear hmx hmo
      go_wp2_with fail
      obtain ⟨y, hy⟩ : ∃ z, z = a ^ (e + 1) % M := ⟨_, rfl⟩
      obtain ⟨z, hz⟩ : ∃ z, z = a ^ e % M := ⟨_, rfl⟩
      have hzW : z < W256 := by rw [hz]; exact Nat.lt_trans (Nat.mod_lt _ (by have := HMp.out; omega)) HW.out.1
      have hzy : z * a % M = y := by
        have h := mod_step (a ^ e) a 0 M
        simp only [Nat.add_zero] at h
        rw [hz, hy, h, ← Nat.pow_succ]
      have h1 := HPW.out (e + 1) HMO.out.1
      rw [← hy] at h1
      have h2 := HPW.out e HW.out.2.2
      rw [← hz] at h2
      have h3 := HMU.out z hzW
      rw [hzy] at h3
      have h4 := HPW.out 0 (by decide)
      rw [Nat.pow_zero, Nat.mod_eq_of_lt (show 1 < M by have := HMp.out; omega)] at h4
      have HQ1 := Lib.hid h1
      have HQ2 := Lib.hid h2
      have HQ3 := Lib.hid h3
      have HQ4 := Lib.hid h4
      clear h1 h2 h3 h4 hzW hzy hy hz t1 aw2
      have KA6 := Lib.hid (Bk.alloc (o := .cells #[.int .u64 (lb (e + 1) 0 : Nat), .int .u64 (lb e 1 : Nat), .int .u64 (lb e 2 : Nat), .int .u64 (lb e 3 : Nat)] 24) KA5.out)
      have KE6 := Lib.hid (Bk.alloc (o := .cells #[.int .u64 (lb (e + 1) 0 : Nat), .int .u64 (lb e 1 : Nat), .int .u64 (lb e 2 : Nat), .int .u64 (lb e 3 : Nat)] 24) KE5.out)
      have KM6 : Hid (Bk 24 (V.alloc (.cells #[.int .u64 (lb (e + 1) 0 : Nat), .int .u64 (lb e 1 : Nat), .int .u64 (lb e 2 : Nat), .int .u64 (lb e 3 : Nat)] 24)) V.heap.size (cs4 (e + 1))) := Lib.hid (by
        unfold cs4
        rw [HMO.out.2.2.1, HMO.out.2.2.2.1, HMO.out.2.2.2.2]
        exact Bk.new rfl)
      have HB6 : Hid (Below w.heap.size w (V.alloc (.cells #[.int .u64 (lb (e + 1) 0 : Nat), .int .u64 (lb e 1 : Nat), .int .u64 (lb e 2 : Nat), .int .u64 (lb e 3 : Nat)] 24))) := Lib.hid (by have hb := HB5.out; have hs := hb.size; go_grown)
      clear KA5 KE5 HB5 i0 i1 i2 i3
      generalize (V.alloc (.cells #[.int .u64 (lb (e + 1) 0 : Nat), .int .u64 (lb e 1 : Nat), .int .u64 (lb e 2 : Nat), .int .u64 (lb e 3 : Nat)] 24)) = U at KA6 KE6 KM6 HB6 ⊢
      generalize V.heap.size = gm at KM6 ⊢
      obtain ⟨a0, a1, a2, a3⟩ := KA6.out.reg
      obtain ⟨p0, p1, p2, p3⟩ := KE6.out.reg
      obtain ⟨l0, l1, l2, l3⟩ := KM6.out.reg
      have heq := eq24
      refine wp_region_quiet_below mixed (by kernel_rfl) ?_
      iterate 3 go_big_quiet_step (fail)
      go_big_quiet_step (exact qg HQ1.out)
      iterate 4 go_big_quiet_step (fail)
      go_big_quiet_step (exact qg HQ2.out)
      go_big_quiet_step (fail)
      go_big_quiet_step (exact qg HQ3.out)
      simp only [nv, num]
      iterate 5 go_big_quiet_step (fail)
      go_big_quiet_step (exact qg HQ4.out)
      simp only [lOne]
      repeat (first | go_big_quiet_step (fail) | quiet_step (fail))
      refine wpQuiet_nil ?_
      intro _ hw'
      obtain ⟨⟨dq, osq⟩, hw''⟩ := hw'
      subst hw''
      have HB7 := Lib.hid (HB6.out.trans ((below_regrown U dq osq).mono HB6.out.size))
      go_wp2_with fail
      go_ret
      exact ⟨rfl, HB7.out⟩
end Go.Proofs.Ytlgpmagekgpaoaa
