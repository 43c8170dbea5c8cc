/- Bytes read and told back: the law's walk. Condition: at most 2 to the 47 bytes each. -/
import Derived.Test.YtlgpmagekgpaoaaKc
set_option linter.unusedVariables false
set_option linter.unusedSimpArgs false
set_option maxRecDepth 100000
namespace Go.Proofs.Ytlgpmagekgpaoaa
open Go.RowKit Go.Sort Limbs

theorem small_lb {n : Nat} (h : n < 18446744073709551616) : lb n 0 = n ∧ lb n 1 = 0 ∧ lb n 2 = 0 ∧ lb n 3 = 0 := by
  simp only [lb]
  omega
theorem nv_small {n : Nat} (h : n < 18446744073709551616) : nv n = .agg #[.int .u64 (n : Int), .int .u64 0, .int .u64 0, .int .u64 0] := by
  obtain ⟨h0, h1, h2, h3⟩ := small_lb h
  unfold nv num
  rw [h0, h1, h2, h3]; rfl
set_option maxHeartbeats 32000000 in
theorem back_walk (m : Int) (s t : List UInt8) (hs : s.length ≤ 140737488351232) (ht : t.length ≤ 140737488351232) (w : World) :
    Calls Try.prog 9 #[.int .i64 m, .string ⟨s.toArray⟩, .string ⟨t.toArray⟩] w fun r w' => r = .returned (.bool true) ∧ Below w.heap.size w w' := by
  have hM := md_or m
  obtain ⟨hMW, hM2, hM3, hMp⟩ := md_lt hM
  have hpos : 0 < md m := by omega
  have lt (x : Nat) : x % md m < W256 := Nat.lt_trans (Nat.mod_lt _ hpos) hMW
  have hof := of_any m s hs
  have hrs := reduce_any m s hs
  have hrt := reduce_any m t ht
  have hrst := reduce_wide m (s ++ t) (by rw [List.length_append]; omega)
  have hpw := pow_any m 256 t.length (by decide) (by unfold W256; omega)
  rw [lB256, nv_small (show t.length < 18446744073709551616 by omega)] at hpw
  have hob := of_any m (nb (bv s % md m)) (by rw [nb_length]; decide)
  rw [nb_val (lt _), if_pos ⟨nb_length _, Nat.mod_lt _ hpos⟩] at hob
  have hby := bytes_any (bv s % md m)
  have hbx := bytes_any (bv s)
  have hmu := mul_any m (bv s % md m) (256 ^ t.length % md m) (lt _) (lt _)
  have had := add_any m (bv s % md m * (256 ^ t.length % md m) % md m) (bv t % md m) (lt _) (lt _)
  have hfin : (bv s % md m * (256 ^ t.length % md m) % md m + bv t % md m) % md m = bv (s ++ t) % md m := by
    rw [bv_append, ← Nat.mul_mod, ← Nat.add_mod]
  rw [hfin] at had
  have hC : s.length = 32 ∧ bv s < md m → bv s % md m = bv s ∧ nb (bv s) = s := fun h => ⟨Nat.mod_eq_of_lt h.2, (nb_same (Nat.lt_trans h.2 hMW) h.1).2 rfl⟩
  generalize 256 ^ t.length % md m = sh at *
  generalize bv s % md m * sh % md m = p at *
  generalize bv (s ++ t) % md m = res at *
  generalize bv t % md m = b at *
  generalize bv s % md m = a at *
  generalize md m = M at *
  have hap : (⟨s.toArray⟩ : ByteArray) ++ ⟨t.toArray⟩ = ⟨(s ++ t).toArray⟩ := by
    apply ByteArray.ext; simp
  have hsz : (⟨s.toArray⟩ : ByteArray).size = s.length := by simp [ByteArray.size]
  have htz : (⟨t.toArray⟩ : ByteArray).size = t.length := by simp [ByteArray.size]
  have htn : (((⟨t.toArray⟩ : ByteArray).size : Nat) : Int) = (t.length : Int) := by rw [htz]
  generalize (⟨(s ++ t).toArray⟩ : ByteArray) = ST at *
  generalize (⟨t.toArray⟩ : ByteArray) = T at *
  generalize (⟨(nb a).toArray⟩ : ByteArray) = NBA at *
  have HAW := Lib.hid awake_any
  have HRS := Lib.hid hrs
  have HRT := Lib.hid hrt
  have HRST := Lib.hid hrst
  have HPW := Lib.hid hpw
  have HOB := Lib.hid hob
  have HBY := Lib.hid hby
  have HMU := Lib.hid hmu
  have HAD := Lib.hid had
  have HZ := Lib.hid (And.intro hap (And.intro hsz (And.intro htz (And.intro hs ht))))
  by_cases hc : s.length = 32 ∧ bv s < M
  · rw [if_pos hc] at hof
    obtain ⟨hx, hn⟩ := hC hc
    rw [← hx] at hof hbx
    rw [← hx] at hn
    rw [hn] at hbx
    generalize (⟨s.toArray⟩ : ByteArray) = S at *
    have HOF := Lib.hid hof
    have HBX := Lib.hid hbx
    clear hM hMW hM2 hM3 hMp hpos lt hof hrs hrt hrst hpw hob hby hbx hmu had hfin hC hap hsz htz hs ht htn hx hn hc
    simp only [nv, num] at HOF HRS HRT HRST HPW HOB HMU HAD HBX HBY
    have heq := eq24
    go_enter Try.func9, Try.ntmps9
    go_wp2_with fail
    refine (keep w.heap.size w (HOF.out _) (by go_grown) (Nat.le_refl _)).mono ?_
    rintro r' w1 ⟨rfl, hB, hk⟩
    clear hk
    go_wp2_with fail
    refine (keep w.heap.size w (HAW.out _) (by have hs := hB.size; go_grown) (Nat.le_refl _)).mono ?_
    rintro r' w2 ⟨rfl, hB2, hk⟩
    have K7 : Hid (Bk 24 w2 w1.heap.size #[.int .u64 (lb a 0 : Nat), .int .u64 (lb a 1 : Nat), .int .u64 (lb a 2 : Nat), .int .u64 (lb a 3 : Nat)]) := Lib.hid (Bk.below (Bk.new rfl) hk)
    clear hB hk
    generalize w1.heap.size = g7 at *
    obtain ⟨i0, i1, i2, i3⟩ := K7.out.cells
    go_wp2_with fail
    refine (keep w.heap.size w (HBX.out _) hB2 (Nat.le_refl _)).mono ?_
    rintro r' w3 ⟨rfl, hB3, hk⟩
    have K73 := Lib.hid (K7.out.below hk)
    clear hB2 hk i0 i1 i2 i3 K7
    go_wp2_with fail
    refine (keep w.heap.size w (HRS.out _) hB3 (Nat.le_refl _)).mono ?_
    rintro r' w4 ⟨rfl, hB4, hk⟩
    have K74 := Lib.hid (K73.out.below hk)
    clear hB3 hk K73
    go_wp2_with fail
    refine (keep w.heap.size w (HRT.out _) hB4 (Nat.le_refl _)).mono ?_
    rintro r' w5 ⟨rfl, hB5, hk⟩
    have K75 := Lib.hid (K74.out.below hk)
    clear hB4 hk K74
    go_wp2_with fail
    refine (keep w.heap.size w (HBY.out _) (by have hs := hB5.size; go_grown) (Nat.le_refl _)).mono ?_
    rintro r' w6 ⟨rfl, hB6, hk⟩
    have K76 := Lib.hid (Bk.below (Bk.alloc (Bk.alloc K75.out)) hk)
    have K96 : Hid (Bk 24 w6 w5.heap.size #[.int .u64 (lb a 0 : Nat), .int .u64 (lb a 1 : Nat), .int .u64 (lb a 2 : Nat), .int .u64 (lb a 3 : Nat)]) := Lib.hid (Bk.below (Bk.alloc (Bk.new rfl)) hk)
    have KB6 : Hid (Bk 24 w6 (w5.heap.size + 1) #[.int .u64 (lb b 0 : Nat), .int .u64 (lb b 1 : Nat), .int .u64 (lb b 2 : Nat), .int .u64 (lb b 3 : Nat)]) := Lib.hid (Bk.below (Bk.new (by simp)) hk)
    clear hB5 hk K75
    generalize w5.heap.size = g9 at *
    go_wp2_with fail
    refine (keep w.heap.size w (HOB.out _) hB6 (Nat.le_refl _)).mono ?_
    rintro r' w7 ⟨rfl, hB7, hk⟩
    have K77 := Lib.hid (K76.out.below hk)
    have K97 := Lib.hid (K96.out.below hk)
    have KB7 := Lib.hid (KB6.out.below hk)
    clear hB6 hk K76 K96 KB6
    obtain ⟨i0, i1, i2, i3⟩ := K97.out.cellsA
    obtain ⟨j0, j1, j2, j3⟩ := K77.out.cellsA
    have htn := HZ.out.2.2.1
    have htl : t.length < 9223372036854775807 := by have := HZ.out.2.2.2.2; omega
    have aw : IntKind.u64.wrap (t.length : Int) = (t.length : Int) := by rw [IntKind.wrap_u64]; omega
    go_wp2_with fail
    refine (keep w.heap.size w (HPW.out _) (by have hs := hB7.size; go_grown) (Nat.le_refl _)).mono ?_
    rintro r' w8 ⟨rfl, hB8, hk⟩
    have K98 := Lib.hid (Bk.alloc (o := .cells #[.int .u64 (lb sh 0 : Nat), .int .u64 (lb sh 1 : Nat), .int .u64 (lb sh 2 : Nat), .int .u64 (lb sh 3 : Nat)] 24) (Bk.below (Bk.alloc K97.out) hk))
    have KB8 := Lib.hid (Bk.alloc (o := .cells #[.int .u64 (lb sh 0 : Nat), .int .u64 (lb sh 1 : Nat), .int .u64 (lb sh 2 : Nat), .int .u64 (lb sh 3 : Nat)] 24) (Bk.below (Bk.alloc KB7.out) hk))
    have KS8 : Hid (Bk 24 (w8.alloc (.cells #[.int .u64 (lb sh 0 : Nat), .int .u64 (lb sh 1 : Nat), .int .u64 (lb sh 2 : Nat), .int .u64 (lb sh 3 : Nat)] 24)) w8.heap.size #[.int .u64 (lb sh 0 : Nat), .int .u64 (lb sh 1 : Nat), .int .u64 (lb sh 2 : Nat), .int .u64 (lb sh 3 : Nat)]) := Lib.hid (Bk.new rfl)
    have HB9 : Hid (Below w.heap.size w (w8.alloc (.cells #[.int .u64 (lb sh 0 : Nat), .int .u64 (lb sh 1 : Nat), .int .u64 (lb sh 2 : Nat), .int .u64 (lb sh 3 : Nat)] 24))) := Lib.hid (by have hs := hB8.size; go_grown)
    clear hB7 hk K77 K97 KB7 i0 i1 i2 i3 j0 j1 j2 j3 htn htl aw hB8
    go_wp2_with fail
    generalize (w8.alloc (.cells #[.int .u64 (lb sh 0 : Nat), .int .u64 (lb sh 1 : Nat), .int .u64 (lb sh 2 : Nat), .int .u64 (lb sh 3 : Nat)] 24)) = U at K98 KB8 KS8 HB9 ⊢
    generalize w8.heap.size = gs at *
    obtain ⟨i0, i1, i2, i3⟩ := K98.out.reg
    obtain ⟨j0, j1, j2, j3⟩ := KB8.out.reg
    obtain ⟨p0, p1, p2, p3⟩ := KS8.out.reg
    have hap := HZ.out.1
    have hl1 : S.size ≤ 140737488351232 := by have h1 := HZ.out.2.1; have h2 := HZ.out.2.2.2.1; omega
    have hl2 : T.size ≤ 140737488351232 := by have h1 := HZ.out.2.2.1; have h2 := HZ.out.2.2.2.2; omega
    refine wp_region_quiet_below mixed (by kernel_rfl) ?_
    iterate 4 go_big_quiet_step (fail)
    go_big_quiet_step (exact qg HRST.out)
    iterate 4 go_big_quiet_step (fail)
    go_big_quiet_step (exact qg HMU.out)
    iterate 1 go_big_quiet_step (fail)
    go_big_quiet_step (exact qg HAD.out)
    repeat (first | go_big_quiet_step (fail) | quiet_step (fail))
    refine wpQuiet_nil ?_
    intro _ hw'
    obtain ⟨⟨dq, osq⟩, hw''⟩ := hw'
    subst hw''
    have HB10 := Lib.hid (HB9.out.trans ((below_regrown U dq osq).mono HB9.out.size))
    go_wp2_with fail
    go_ret
    exact ⟨rfl, HB10.out⟩
  · rw [if_neg hc] at hof
    generalize (⟨s.toArray⟩ : ByteArray) = S at *
    have HOF := Lib.hid hof
    clear hM hMW hM2 hM3 hMp hpos lt hof hrs hrt hrst hpw hob hby hbx hmu had hfin hC hap hsz htz hs ht htn hc
    simp only [nv, num] at HOF HRS HRT HRST HPW HOB HMU HAD HBY
    have heq := eq24
    go_enter Try.func9, Try.ntmps9
    go_wp2_with fail
    refine (keep w.heap.size w (HOF.out _) (by go_grown) (Nat.le_refl _)).mono ?_
    rintro r' w1 ⟨rfl, hB, hk⟩
    clear hk
    go_wp2_with fail
    refine (keep w.heap.size w (HAW.out _) (by have hs := hB.size; go_grown) (Nat.le_refl _)).mono ?_
    rintro r' w2 ⟨rfl, hB2, hk⟩
    have K7 : Hid (Bk 24 w2 w1.heap.size #[.int .u64 0, .int .u64 0, .int .u64 0, .int .u64 0]) := Lib.hid (Bk.below (Bk.new rfl) hk)
    clear hB hk
    generalize w1.heap.size = g7 at *
    obtain ⟨i0, i1, i2, i3⟩ := K7.out.cells
    go_wp2_with fail
    have hB3 := hB2
    have K73 := K7
    clear hB2 i0 i1 i2 i3 K7
    refine (keep w.heap.size w (HRS.out _) hB3 (Nat.le_refl _)).mono ?_
    rintro r' w4 ⟨rfl, hB4, hk⟩
    have K74 := Lib.hid (K73.out.below hk)
    clear hB3 hk K73
    go_wp2_with fail
    refine (keep w.heap.size w (HRT.out _) hB4 (Nat.le_refl _)).mono ?_
    rintro r' w5 ⟨rfl, hB5, hk⟩
    have K75 := Lib.hid (K74.out.below hk)
    clear hB4 hk K74
    go_wp2_with fail
    refine (keep w.heap.size w (HBY.out _) (by have hs := hB5.size; go_grown) (Nat.le_refl _)).mono ?_
    rintro r' w6 ⟨rfl, hB6, hk⟩
    have K76 := Lib.hid (Bk.below (Bk.alloc (Bk.alloc K75.out)) hk)
    have K96 : Hid (Bk 24 w6 w5.heap.size #[.int .u64 (lb a 0 : Nat), .int .u64 (lb a 1 : Nat), .int .u64 (lb a 2 : Nat), .int .u64 (lb a 3 : Nat)]) := Lib.hid (Bk.below (Bk.alloc (Bk.new rfl)) hk)
    have KB6 : Hid (Bk 24 w6 (w5.heap.size + 1) #[.int .u64 (lb b 0 : Nat), .int .u64 (lb b 1 : Nat), .int .u64 (lb b 2 : Nat), .int .u64 (lb b 3 : Nat)]) := Lib.hid (Bk.below (Bk.new (by simp)) hk)
    clear hB5 hk K75
    generalize w5.heap.size = g9 at *
    go_wp2_with fail
    refine (keep w.heap.size w (HOB.out _) hB6 (Nat.le_refl _)).mono ?_
    rintro r' w7 ⟨rfl, hB7, hk⟩
    have K77 := Lib.hid (K76.out.below hk)
    have K97 := Lib.hid (K96.out.below hk)
    have KB7 := Lib.hid (KB6.out.below hk)
    clear hB6 hk K76 K96 KB6
    obtain ⟨i0, i1, i2, i3⟩ := K97.out.cellsA
    obtain ⟨j0, j1, j2, j3⟩ := K77.out.cellsA
    have htn := HZ.out.2.2.1
    have htl : t.length < 9223372036854775807 := by have := HZ.out.2.2.2.2; omega
    have aw : IntKind.u64.wrap (t.length : Int) = (t.length : Int) := by rw [IntKind.wrap_u64]; omega
    go_wp2_with fail
    refine (keep w.heap.size w (HPW.out _) (by have hs := hB7.size; go_grown) (Nat.le_refl _)).mono ?_
    rintro r' w8 ⟨rfl, hB8, hk⟩
    have K98 := Lib.hid (Bk.alloc (o := .cells #[.int .u64 (lb sh 0 : Nat), .int .u64 (lb sh 1 : Nat), .int .u64 (lb sh 2 : Nat), .int .u64 (lb sh 3 : Nat)] 24) (Bk.below (Bk.alloc K97.out) hk))
    have KB8 := Lib.hid (Bk.alloc (o := .cells #[.int .u64 (lb sh 0 : Nat), .int .u64 (lb sh 1 : Nat), .int .u64 (lb sh 2 : Nat), .int .u64 (lb sh 3 : Nat)] 24) (Bk.below (Bk.alloc KB7.out) hk))
    have KS8 : Hid (Bk 24 (w8.alloc (.cells #[.int .u64 (lb sh 0 : Nat), .int .u64 (lb sh 1 : Nat), .int .u64 (lb sh 2 : Nat), .int .u64 (lb sh 3 : Nat)] 24)) w8.heap.size #[.int .u64 (lb sh 0 : Nat), .int .u64 (lb sh 1 : Nat), .int .u64 (lb sh 2 : Nat), .int .u64 (lb sh 3 : Nat)]) := Lib.hid (Bk.new rfl)
    have HB9 : Hid (Below w.heap.size w (w8.alloc (.cells #[.int .u64 (lb sh 0 : Nat), .int .u64 (lb sh 1 : Nat), .int .u64 (lb sh 2 : Nat), .int .u64 (lb sh 3 : Nat)] 24))) := Lib.hid (by have hs := hB8.size; go_grown)
    clear hB7 hk K77 K97 KB7 i0 i1 i2 i3 j0 j1 j2 j3 htn htl aw hB8
    go_wp2_with fail
    generalize (w8.alloc (.cells #[.int .u64 (lb sh 0 : Nat), .int .u64 (lb sh 1 : Nat), .int .u64 (lb sh 2 : Nat), .int .u64 (lb sh 3 : Nat)] 24)) = U at K98 KB8 KS8 HB9 ⊢
    generalize w8.heap.size = gs at *
    obtain ⟨i0, i1, i2, i3⟩ := K98.out.reg
    obtain ⟨j0, j1, j2, j3⟩ := KB8.out.reg
    obtain ⟨p0, p1, p2, p3⟩ := KS8.out.reg
    have hap := HZ.out.1
    have hl1 : S.size ≤ 140737488351232 := by have h1 := HZ.out.2.1; have h2 := HZ.out.2.2.2.1; omega
    have hl2 : T.size ≤ 140737488351232 := by have h1 := HZ.out.2.2.1; have h2 := HZ.out.2.2.2.2; omega
    refine wp_region_quiet_below mixed (by kernel_rfl) ?_
    iterate 4 go_big_quiet_step (fail)
    go_big_quiet_step (exact qg HRST.out)
    iterate 4 go_big_quiet_step (fail)
    go_big_quiet_step (exact qg HMU.out)
    iterate 1 go_big_quiet_step (fail)
    go_big_quiet_step (exact qg HAD.out)
    repeat (first | go_big_quiet_step (fail) | quiet_step (fail))
    refine wpQuiet_nil ?_
    intro _ hw'
    obtain ⟨⟨dq, osq⟩, hw''⟩ := hw'
    subst hw''
    have HB10 := Lib.hid (HB9.out.trans ((below_regrown U dq osq).mono HB9.out.size))
    go_wp2_with fail
    go_ret
    exact ⟨rfl, HB10.out⟩
end Go.Proofs.Ytlgpmagekgpaoaa
