/- Products of numbers (the reference's Mul). Condition: at most 50000 digits each. -/
import Derived.Test.YtglmmodkflkkkaaFk
import Derived.Deep.QuietTactic
set_option linter.unusedVariables false
set_option linter.unusedSimpArgs false
set_option maxRecDepth 100000
namespace Go.Proofs.Ytglmmodkflkkkaa.Ref
open Go.RowKit Go.Proofs.Ytglmmodkflkkkaa.Digits

theorem set_val : ∀ (l : List Nat) (j d : Nat) (h : j < l.length), val (l.set j d) + 65536 ^ j * l[j] = val l + 65536 ^ j * d
  | x :: l, 0, d, h => by simp [val]; omega
  | x :: l, j + 1, d, h => by
    have ih := set_val l j d (by simpa using h)
    simp only [List.set_cons_succ, val, List.getElem_cons_succ, Nat.pow_succ]
    rw [Nat.mul_comm (65536 ^ j) 65536, Nat.mul_assoc, Nat.mul_assoc]
    omega
theorem step_arith {V V2 P cc z M D C R : Nat} (h1 : V2 + P * z = V + P * D) (hD : D + 65536 * C = cc + z + M) (h : V + P * cc = R) : V2 + P * 65536 * C = R + P * M := by
  have e : P * D + P * 65536 * C = P * cc + P * z + P * M := by
    rw [Nat.mul_assoc, ← Nat.mul_add, hD, Nat.mul_add, Nat.mul_add]
  omega
theorem zero_set {l : List Nat} {i d m : Nat} (h : ∀ q (hq : q < l.length), m ≤ q → l[q] = 0) (hi : i < m) : ∀ q (hq : q < (l.set i d).length), m ≤ q → (l.set i d)[q] = 0 := fun q hq hm => by
  rw [List.getElem_set_ne (by omega)]
  exact h q (by simpa using hq) hm
theorem dig_set {l : List Nat} (h : Dig l) {d : Nat} (hd : d < 65536) (i : Nat) : Dig (l.set i d) := fun y hy => by
  rcases List.mem_or_eq_of_mem_set hy with h' | h'
  · exact h y h'
  · omega
set_option maxHeartbeats 8000000 in
theorem mul_any (a b : List Nat) (ha : Dig a) (hb : Dig b) (hla : a.length ≤ 50000) (hlb : b.length ≤ 50000) (v u : Value) (w : World) (h : Dr w v a) (k : Dr w u b) :
    Calls Try.prog 61 #[v, u] w fun e w' => ∃ v', e = .returned v' ∧ Nr w w' v' (val a * val b) := by
  obtain ⟨g, cap, rfl, hc, hcm, hg, hca⟩ := h
  obtain ⟨g2, cap2, rfl, hc2, hcm2, hg2, hcb⟩ := k
  have HCA := Lib.hid hca
  have HCB := Lib.hid hcb
  have HA := Lib.hid ha
  have HBD := Lib.hid hb
  have HG := Lib.hid (And.intro hg hg2)
  obtain ⟨na, hna⟩ : ∃ n, n = a.length := ⟨_, rfl⟩
  obtain ⟨nb, hnb⟩ : ∃ n, n = b.length := ⟨_, rfl⟩
  rw [← hna] at hla ⊢
  rw [← hnb] at hlb ⊢
  have HN := Lib.hid (And.intro hna hnb)
  have hmk := make_us w (na + nb) (by omega)
  have e0 : (((na + nb : Nat) : Nat) : Int) = (na : Int) + nb := by omega
  rw [e0] at hmk
  have HB0 := Lib.hid ((Below.refl w.heap.size w).alloc (Nat.le_refl _) (.cells (us (List.replicate (na + nb) 0)) 75))
  have HH0 : Hid ((w.alloc (.cells (us (List.replicate (na + nb) 0)) 75)).heap[w.heap.size]? = some (.cells (us (List.replicate (na + nb) 0)) 75 (0, 0))) := Lib.hid (Go.heap_alloc_new w _)
  clear hca hcb ha hb hg hg2 hc hcm hc2 hcm2 hna hnb e0
  go_enter Try.func61, Try.ntmps61
  go_wp2_with fail
  clear hmk
  go_loopw [6] (fun i wr => ∃ (j : Nat) (out : List Nat), j ≤ na ∧ i = .int .i64 (j : Int) ∧ out.length = na + nb ∧ Dig out ∧ val out = val (a.take j) * val b ∧ (∀ q (hq : q < out.length), j + nb ≤ q → out[q] = 0) ∧ wr.heap[w.heap.size]? = some (.cells (us out) 75 (0, 0)) ∧ Below w.heap.size w wr) (fun i _ => na - (intOf i).toNat)
  case atStart => exact ⟨0, List.replicate (na + nb) 0, Nat.zero_le _, rfl, by simp, fun x hx => by rw [List.mem_replicate] at hx; omega, by
    rw [List.take_zero, val, Nat.zero_mul]
    generalize na + nb = n
    induction n with
    | zero => rfl
    | succ n ih => rw [List.replicate_succ, val, ih], fun q hq _ => by simp, HH0.out, HB0.out⟩
  case round =>
    obtain ⟨j, out, hj, rfl, hol, hd, hv, hz, hh, hb⟩ := hrel
    have HH := Lib.hid hh
    have HW := Lib.hid hb
    have HD := Lib.hid hd
    have HV := Lib.hid hv
    have HZ := Lib.hid hz
    have HOL := Lib.hid hol
    clear hh hb hd hv hz hol HH0 HB0
    by_cases hlt : j < na
    · have hja : j < a.length := by have := HN.out.1; omega
      have hca := HCA.out j hja
      have hxl := HA.out _ (List.getElem_mem hja)
      have HTV := Lib.hid (take_val hja)
      generalize a[j] = x at hca hxl HTV
      have HCX := Lib.hid hca
      clear hca
      go_wp2_with fail
      go_loopw [7, 8] (fun c k wr => ∃ (kk cc : Nat) (o2 : List Nat), kk ≤ nb ∧ k = .int .i64 (kk : Int) ∧ c = .int .u64 (cc : Int) ∧ cc < 65536 ∧ o2.length = na + nb ∧ Dig o2 ∧ val o2 + 65536 ^ (j + kk) * cc = val out + 65536 ^ j * (x * val (b.take kk)) ∧ (∀ q (hq : q < o2.length), j + nb ≤ q → o2[q] = 0) ∧ wr.heap[w.heap.size]? = some (.cells (us o2) 75 (0, 0)) ∧ Below w.heap.size w wr) (fun _ k _ => nb - (intOf k).toNat)
      case atStart => exact ⟨0, 0, out, Nat.zero_le _, rfl, rfl, by omega, HOL.out, HD.out, by simp [val], HZ.out, HH.out, HW.out⟩
      case round =>
        clear HH HW HD HZ HOL
        obtain ⟨kk, cc, o2, hk, rfl, rfl, hcc, hol, hd, hv, hz, hh, hb⟩ := hrel
        have HH := Lib.hid hh
        have HW := Lib.hid hb
        have HD := Lib.hid hd
        have HVI := Lib.hid hv
        have HZ := Lib.hid hz
        have HOL := Lib.hid hol
        clear hh hb hd hv hz hol
        by_cases hlk : kk < nb
        · have hkb : kk < b.length := by have := HN.out.2; omega
          have hjo : j + kk < o2.length := by rw [HOL.out]; omega
          have ia := (HW.out.cell (p := ⟨g, j, none⟩) HG.out.1).trans HCX.out
          have ib := (HW.out.cell (p := ⟨g2, kk, none⟩) HG.out.2).trans (HCB.out kk hkb)
          have io : wr.cell? ⟨w.heap.size, j + kk, none⟩ = some (.int .u32 ((o2[j + kk] : Nat) : Int)) := by
            rw [Lib.cell_of_heap HH.out]; simp [us, hjo]
          have fo := Lib.frozen_of_heap HH.out (j + kk)
          have hyl := HBD.out _ (List.getElem_mem hkb)
          have hzl := HD.out _ (List.getElem_mem hjo)
          have HTB := Lib.hid (take_val hkb)
          have HSV := Lib.hid (fun d => set_val o2 (j + kk) d hjo)
          generalize b[kk] = y at ib hyl HTB
          generalize o2[j + kk] = z at io hzl HSV
          have ej : ((j : Int) + (kk : Int)).toNat = j + kk := by omega
          obtain ⟨M, hM⟩ : ∃ M, M = x * y := ⟨_, rfl⟩
          have hMl : M ≤ 65535 * 65535 := by rw [hM]; exact Nat.mul_le_mul (by omega) (by omega)
          have hMi : (x : Int) * (y : Int) = (M : Int) := by rw [hM]; exact (Int.natCast_mul x y).symm
          obtain ⟨N, hN⟩ : ∃ N, N = z + M := ⟨_, rfl⟩
          obtain ⟨S, hS⟩ : ∃ S, S = cc + N := ⟨_, rfl⟩
          obtain ⟨D, hD⟩ : ∃ D, D = S % 65536 := ⟨_, rfl⟩
          obtain ⟨C, hC⟩ : ∃ C, C = S / 65536 := ⟨_, rfl⟩
          have w1 : IntKind.u64.wrap ((x : Int) * (y : Int)) = (M : Int) := by rw [hMi, IntKind.wrap_u64]; omega
          have w2 : IntKind.u64.wrap ((z : Int) + (M : Int)) = (N : Int) := by rw [IntKind.wrap_u64]; omega
          have w3 : IntKind.u64.wrap ((cc : Int) + (N : Int)) = (S : Int) := by rw [IntKind.wrap_u64]; omega
          have b1 : bits .and .u64 (S : Int) 65535 = (D : Int) := by rw [hD]; exact and64 S (by omega)
          have b2 : (D : Int) % 4294967296 = (D : Int) := by omega
          have b3 : (S : Int) / 65536 = (C : Int) := by omega
          have hDl : D < 65536 := by omega
          have hCl : C < 65536 := by omega
          have hDC : D + 65536 * C = cc + z + M := by omega
          have HST : Hid (val (o2.set (j + kk) D) + 65536 ^ (j + (kk + 1)) * C = val out + 65536 ^ j * (x * val (b.take (kk + 1)))) := Lib.hid (by
            have := step_arith (HSV.out D) hDC HVI.out
            rw [show j + (kk + 1) = (j + kk) + 1 by omega, Nat.pow_succ (n := 65536) (m := j + kk), this, HTB.out, hM, Nat.mul_add, Nat.mul_add, Nat.pow_add, Nat.mul_left_comm x, Nat.mul_assoc, Nat.add_assoc])
          have HU : Hid ((us o2).setIfInBounds (j + kk) (.int .u32 ((D : Nat) : Int)) = us (o2.set (j + kk) D)) := Lib.hid (us_set _ _ _)
          have HD2 := Lib.hid (dig_set HD.out hDl (j + kk))
          have HZ2 := Lib.hid (zero_set (d := D) HZ.out (show j + kk < j + nb by omega))
          clear hM hMl hMi hN hS hD hC hDC HTB HSV HVI
          go_wp2_with fail
          go_quiet (fail)
          rename_i nq
          have io' : (wr.drewN nq).cell? ⟨w.heap.size, j + kk, none⟩ = some (.int .u32 ((z : Nat) : Int)) := io
          have fo' : (wr.drewN nq).frozen? ⟨w.heap.size, j + kk, none⟩ = false := fo
          have HHq : Hid ((wr.drewN nq).heap[w.heap.size]? = some (.cells (us o2) 75 (0, 0))) := Lib.hid HH.out
          have HWq : Hid (Below w.heap.size w (wr.drewN nq)) := Lib.hid ((Sm.drewN wr nq).below HW.out)
          clear io fo ia ib HH HW
          generalize wr.drewN nq = V at io' fo' HHq HWq ⊢
          go_wp2_with fail
          go_roundw
          case rel => exact ⟨kk + 1, C, o2.set (j + kk) D, by omega, by go_num, rfl, hCl, by rw [List.length_set]; exact HOL.out, HD2.out, HST.out, HZ2.out, (blk_put HHq.out (j + kk) _).trans (by rw [HU.out]), HWq.out.setCell (p := ⟨w.heap.size, j + kk, none⟩) (Nat.le_refl _) _⟩
          case measure => simp [intOf]; omega
        · obtain rfl : kk = nb := by omega
          have hjo : j + kk < o2.length := by rw [HOL.out]; omega
          have io : wr.cell? ⟨w.heap.size, j + kk, none⟩ = some (.int .u32 ((o2[j + kk] : Nat) : Int)) := by
            rw [Lib.cell_of_heap HH.out]; simp [us, hjo]
          have fo := Lib.frozen_of_heap HH.out (j + kk)
          have HSV := Lib.hid (set_val o2 (j + kk) cc hjo)
          have hz0 := HZ.out (j + kk) hjo (Nat.le_refl _)
          have HVB : Hid (val (o2.set (j + kk) cc) = val (a.take (j + 1)) * val b) := Lib.hid (by
            have h1 := HSV.out
            rw [hz0, Nat.mul_zero, Nat.add_zero] at h1
            have h2 := HVI.out
            rw [List.take_of_length_le (by have := HN.out.2; omega)] at h2
            rw [h1, h2, HTV.out, HV.out, Nat.add_mul, Nat.mul_assoc])
          generalize o2[j + kk] = z at io
          have ej : ((j : Int) + (kk : Int)).toNat = j + kk := by omega
          have b2 : (cc : Int) % 4294967296 = (cc : Int) := by omega
          have HU : Hid ((us o2).setIfInBounds (j + kk) (.int .u32 ((cc : Nat) : Int)) = us (o2.set (j + kk) cc)) := Lib.hid (us_set _ _ _)
          have HD2 := Lib.hid (dig_set HD.out hcc (j + kk))
          have HZ2 := Lib.hid (zero_set (d := cc) (m := j + 1 + kk) (fun q hq hm => HZ.out q hq (by omega)) (show j + kk < j + 1 + kk by omega))
          clear hz0 HSV HVI
          go_wp2_with fail
          go_roundw
          case rel => exact ⟨j + 1, o2.set (j + kk) cc, by omega, by go_num, by rw [List.length_set]; exact HOL.out, HD2.out, HVB.out, HZ2.out, (blk_put HH.out (j + kk) _).trans (by rw [HU.out]), HW.out.setCell (p := ⟨w.heap.size, j + kk, none⟩) (Nat.le_refl _) _⟩
          case measure => simp [intOf]; omega
    · obtain rfl : j = na := by omega
      have HVV : Hid (val out = val a * val b) := Lib.hid (by
        have := HV.out
        rwa [List.take_of_length_le (by have := HN.out.1; omega)] at this)
      have HDR := Lib.hid (us_dr HH.out (by rw [HOL.out]; omega))
      rw [HOL.out] at HDR
      go_wp2_with fail
      refine (trim_any out _ _ HDR.out).mono ?_
      rintro e w2 ⟨⟨v2, rfl, hdr⟩, rfl⟩
      have HF : Hid (Nr w wr v2 (val a * val b)) := Lib.hid ⟨⟨_, hdr, trim_dig HD.out, trim_trim _, by rw [trim_val, HVV.out]⟩, HW.out⟩
      clear hdr
      go_wp2_with fail
      go_ret
      exact ⟨_, rfl, HF.out⟩
end Go.Proofs.Ytglmmodkflkkkaa.Ref
