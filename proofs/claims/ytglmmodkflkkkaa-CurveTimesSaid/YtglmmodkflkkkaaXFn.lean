import Derived.Test.YtglmmodkflkkkaaXFk
set_option linter.unusedVariables false
set_option linter.unusedSimpArgs false
set_option maxRecDepth 100000
namespace Go.Proofs.Ytglmmodkflkkkaa.Ref
open Go.RowKit Go.Proofs.Ytglmmodkflkkkaa.Digits
def mval (w : World) (g : Nat) : Nat := match w.heap[g]? with
  | some (.cells cs _ _) => val (cs.toList.map fun v => (intOf v).toNat)
  | _ => 0
theorem us_back (l : List Nat) : (us l).toList.map (fun v => (intOf v).toNat) = l := by
  simp only [us, List.map_map]
  induction l with
  | nil => rfl
  | cons x l ih => rw [List.map_cons, ih]; rfl
theorem mval_us {w : World} {g : Nat} {l : List Nat} {z : Nat × Nat} (h : w.heap[g]? = some (.cells (us l) 75 z)) : mval w g = val l := by
  unfold mval
  rw [h]
  simp only []
  rw [us_back]
theorem left_arith {A B L P bb D z C y tm : Nat} (h : A + tm * B = L + P * bb) (hD : D + (bb + tm * y) = z + 65536 * C) : A + P * D + tm * (B + P * y) = L + P * z + P * 65536 * C := by
  have e : P * D + (P * bb + P * (tm * y)) = P * z + P * 65536 * C := by
    rw [← Nat.mul_add, ← Nat.mul_add, hD, Nat.mul_add, Nat.mul_assoc]
  rw [Nat.mul_add, Nat.mul_left_comm tm P y]
  omega
theorem left_end {V V2 T P bb : Nat} (h : V2 + T = V + P * bb) (h2 : V2 < P) (hT : T ≤ V) : V2 = V - T := by
  rcases Nat.eq_zero_or_pos bb with h0 | h0
  · subst h0; omega
  · have : P * 1 ≤ P * bb := Nat.mul_le_mul_left _ h0
    omega
theorem sub_mod_mul {V M tm : Nat} (h : tm * M ≤ V) : (V - tm * M) % M = V % M := by
  obtain ⟨d, hd⟩ := Nat.le.dest h
  rw [← hd, Nat.add_sub_cancel_left, Nat.add_comm, Nat.add_mul_mod_self_right]
theorem take_set_val {l : List Nat} {k d : Nat} (h : k < l.length) : val ((l.set k d).take (k + 1)) = val (l.take k) + 65536 ^ k * d := by
  rw [take_val (by rw [List.length_set]; exact h), List.getElem_set_self, List.take_set_of_le (Nat.le_refl _)]
theorem top_val' {l : List Nat} {n : Nat} (h : l.length = n + 1) : val l = val (l.take n) + 65536 ^ n * l[n] := by
  have := take_val (a := l) (i := n) (by omega)
  rwa [List.take_of_length_le (by omega)] at this
theorem shift_is {l l2 : List Nat} {n x : Nat} (hl : l.length = n + 1) (hl2 : l2.length = n + 1) (h : ∀ p (hp : p < l2.length) (hp' : p - 1 < l.length), 0 < p → l2[p] = l[p - 1]) : l2.set 0 x = x :: l.take n := by
  apply List.ext_getElem
  · simp [hl, hl2]
  · intro i h1 h2
    cases i with
    | zero => simp
    | succ i =>
      rw [List.getElem_set_ne (by omega), List.getElem_cons_succ, List.getElem_take]
      have := h (i + 1) (by simpa using h1) (by simp [hl2] at h1; omega) (by omega)
      simpa using this
set_option maxHeartbeats 16000000 in
theorem left_any (a m : List Nat) (ha : Dig a) (hm : Dig m) (hla : a.length ≤ 1000000000000) (hlm : m.length ≤ 50000) (hm0 : 0 < val m) (v u : Value) (w : World) (h : Dr w v a) (k : Dr w u m) :
    Calls Try.prog 27 #[v, u] w fun e w' => ∃ v', e = .returned v' ∧ Nr w w' v' (val a % val m) := by
  have HDM := Lib.hid k
  obtain ⟨g, cap, rfl, hc, hcm, hg, hca⟩ := h
  obtain ⟨g2, cap2, rfl, hc2, hcm2, hg2, hcb⟩ := k
  have HCA := Lib.hid hca
  have HCB := Lib.hid hcb
  have HA := Lib.hid ha
  have HMD := Lib.hid hm
  have HG := Lib.hid (And.intro hg hg2)
  have HM0 := Lib.hid hm0
  obtain ⟨na, hna⟩ : ∃ n, n = a.length := ⟨_, rfl⟩
  obtain ⟨n, hn⟩ : ∃ n, n = m.length := ⟨_, rfl⟩
  rw [← hna] at hla ⊢
  rw [← hn] at hlm ⊢
  rw [← hn] at HDM
  have HN := Lib.hid (And.intro hna hn)
  have HMT : Hid (val m < 65536 ^ n) := Lib.hid (by rw [hn]; exact val_lt m hm)
  have hmk := make_us w (n + 1) (by omega)
  have e0 : (((n + 1 : Nat) : Nat) : Int) = (n : Int) + 1 := by omega
  rw [e0] at hmk
  have HB0 := Lib.hid ((Below.refl w.heap.size w).alloc (Nat.le_refl _) (.cells (us (List.replicate (n + 1) 0)) 75))
  have HH0 : Hid ((w.alloc (.cells (us (List.replicate (n + 1) 0)) 75)).heap[w.heap.size]? = some (.cells (us (List.replicate (n + 1) 0)) 75 (0, 0))) := Lib.hid (Go.heap_alloc_new w _)
  clear hca hcb ha hm hg hg2 hc hcm hc2 hcm2 hna hn e0 hm0
  go_enter Try.func27, Try.ntmps27
  go_wp2_with fail
  clear hmk
  go_loopw [7] (fun i wr => ∃ (j : Nat) (l : List Nat), j ≤ na ∧ i = .int .i64 ((j : Int) - 1) ∧ l.length = n + 1 ∧ Dig l ∧ val l = val (a.drop j) % val m ∧ wr.heap[w.heap.size]? = some (.cells (us l) 75 (0, 0)) ∧ Below w.heap.size w wr) (fun i _ => (intOf i + 1).toNat)
  case atStart => exact ⟨na, List.replicate (n + 1) 0, Nat.le_refl _, rfl, by simp, fun x hx => by rw [List.mem_replicate] at hx; omega, by
    rw [List.drop_of_length_le (by have := HN.out.1; omega), val, Nat.zero_mod]
    generalize n + 1 = q
    induction q with
    | zero => rfl
    | succ q ih => rw [List.replicate_succ, val, ih], HH0.out, HB0.out⟩
  case round =>
    obtain ⟨j, l, hj, rfl, hol, hd, hv, hh, hb⟩ := hrel
    have HH := Lib.hid hh
    have HW := Lib.hid hb
    have HD := Lib.hid hd
    have HV := Lib.hid hv
    have HOL := Lib.hid hol
    clear hh hb hd hv hol HH0 HB0
    by_cases h0 : j = 0
    · subst h0
      have HVV : Hid (val l = val a % val m) := Lib.hid (by have := HV.out; rwa [List.drop_zero] at this)
      have HDR := Lib.hid (us_dr HH.out (by rw [HOL.out]; omega))
      rw [HOL.out] at HDR
      go_wp2_with fail
      refine (trim_any l _ _ HDR.out).mono ?_
      rintro e w2 ⟨⟨v2, rfl, hdr⟩, rfl⟩
      have HF : Hid (Nr w wr v2 (val a % val m)) := Lib.hid ⟨⟨_, hdr, trim_dig HD.out, trim_trim _, by rw [trim_val, HVV.out]⟩, HW.out⟩
      clear hdr
      go_wp2_with fail
      go_ret
      exact ⟨_, rfl, HF.out⟩
    · obtain ⟨k, rfl⟩ : ∃ k, j = k + 1 := ⟨j - 1, by omega⟩
      have hka : k < a.length := by have := HN.out.1; omega
      have hca := HCA.out k hka
      have hxl := HA.out _ (List.getElem_mem hka)
      have HDV := Lib.hid (drop_val hka)
      generalize a[k] = x at hca hxl HDV
      have HCX := Lib.hid hca
      clear hca
      have e1 : ((k + 1 : Nat) : Int) - 1 = (k : Int) := by omega
      rw [e1]
      have HLT : Hid (val (l.take n) = val l ∧ val l < val m) := Lib.hid (by
        have h1 : val l < val m := by rw [HV.out]; exact Nat.mod_lt _ HM0.out
        refine ⟨?_, h1⟩
        have h2 := top_val' HOL.out
        rcases Nat.eq_zero_or_pos (l[n]'(by rw [HOL.out]; omega)) with h3 | h3
        · rw [h3] at h2; omega
        · have h4 : 65536 ^ n * 1 ≤ 65536 ^ n * (l[n]'(by rw [HOL.out]; omega)) := Nat.mul_le_mul_left _ h3
          have h5 := HMT.out
          omega)
      go_wp2_with fail
      go_loopw [8] (fun c wr => ∃ (q : Nat) (l2 : List Nat), q ≤ n ∧ c = .int .i64 (q : Int) ∧ l2.length = n + 1 ∧ (∀ p (hp : p < l2.length) (hp' : p < l.length), p ≤ q → l2[p] = l[p]) ∧ (∀ p (hp : p < l2.length) (hp' : p - 1 < l.length), q < p → l2[p] = l[p - 1]) ∧ wr.heap[w.heap.size]? = some (.cells (us l2) 75 (0, 0)) ∧ Below w.heap.size w wr) (fun c _ => (intOf c).toNat)
      case atStart => exact ⟨n, l, Nat.le_refl _, rfl, HOL.out, fun _ _ _ _ => rfl, fun p hp _ h => by rw [HOL.out] at hp; omega, HH.out, HW.out⟩
      case round =>
        clear HH HW
        obtain ⟨q, l2, hq, rfl, hol2, hlo, hhi, hh, hb⟩ := hrel
        have HH := Lib.hid hh
        have HW := Lib.hid hb
        have HLO := Lib.hid hlo
        have HHI := Lib.hid hhi
        have HOL2 := Lib.hid hol2
        clear hh hb hlo hhi hol2
        by_cases hq0 : q = 0
        · subst hq0
          have HS := Lib.hid (shift_is (x := x) HOL.out HOL2.out (fun p hp hp' h => HHI.out p hp hp' h))
          have ia := (HW.out.cell (p := ⟨g, k, none⟩) HG.out.1).trans HCX.out
          have hl0 : 0 < l2.length := by rw [HOL2.out]; omega
          have io : wr.cell? ⟨w.heap.size, 0, none⟩ = some (.int .u32 ((l2[0] : Nat) : Int)) := by
            rw [Lib.cell_of_heap HH.out]; simp [us, hl0]
          have fo := Lib.frozen_of_heap HH.out 0
          generalize l2[0] = old at io
          have HU : Hid ((us l2).setIfInBounds 0 (.int .u32 ((x : Nat) : Int)) = us (x :: l.take n)) := Lib.hid (by rw [us_set, HS.out])
          have HH3 : Hid ((wr.setCell ⟨w.heap.size, 0, none⟩ (.int .u32 ((x : Nat) : Int))).heap[w.heap.size]? = some (.cells (us (x :: l.take n)) 75 (0, 0))) := Lib.hid ((blk_put HH.out 0 _).trans (by rw [HU.out]))
          have HW3 : Hid (Below w.heap.size w (wr.setCell ⟨w.heap.size, 0, none⟩ (.int .u32 ((x : Nat) : Int)))) := Lib.hid (HW.out.setCell (p := ⟨w.heap.size, 0, none⟩) (Nat.le_refl _) _)
          obtain ⟨R, hR⟩ : ∃ R, R = (x + 65536 * val l) % val m := ⟨_, rfl⟩
          have HR0 : Hid (val (x :: l.take n) % val m = R) := Lib.hid (by rw [val, HLT.out.1, hR])
          have HRF : Hid (R = val (a.drop k) % val m) := Lib.hid (by rw [hR, HDV.out, HV.out, Nat.add_mod, Nat.mul_mod, Nat.mod_mod, ← Nat.mul_mod, ← Nat.add_mod])
          have HD3 : Hid (Dig (x :: l.take n)) := Lib.hid (fun y hy => by
            rcases List.mem_cons.1 hy with h | h
            · omega
            · exact HD.out y (List.mem_of_mem_take h))
          have HL3 : Hid ((x :: l.take n).length = n + 1) := Lib.hid (by rw [List.length_cons, List.length_take, HOL.out]; omega)
          clear hR HS HLT HDV HD HV HLO HHI
          go_wp2_with fail
          clear ia io fo HH HW HU
          generalize (wr.setCell ⟨w.heap.size, 0, none⟩ (.int .u32 ((x : Nat) : Int))) = V at HH3 HW3 ⊢
          generalize x :: l.take n = l3 at HH3 HR0 HD3 HL3
          go_loopw [9] (fun _ wr => ∃ (l : List Nat), l.length = n + 1 ∧ Dig l ∧ val l % val m = R ∧ wr.heap[w.heap.size]? = some (.cells (us l) 75 (0, 0)) ∧ Below w.heap.size w wr) (fun _ wr => mval wr w.heap.size)
          case atStart => exact ⟨l3, HL3.out, HD3.out, HR0.out, HH3.out, HW3.out⟩
          case round =>
            clear HH3 HW3 HL3 HD3 HR0 HOL HOL2
            obtain ⟨l, hol, hd, hv, hh, hb⟩ := hrel
            have HH := Lib.hid hh
            have HW := Lib.hid hb
            have HD := Lib.hid hd
            have HV := Lib.hid hv
            have HOL := Lib.hid hol
            clear hh hb hd hv hol
            have hnl : n < l.length := by rw [HOL.out]; omega
            have hcn : wr.cell? ⟨w.heap.size, n, none⟩ = some (.int .u32 ((l[n] : Nat) : Int)) := by
              rw [Lib.cell_of_heap HH.out]; simp [us, hnl]
            have htn := HD.out _ (List.getElem_mem hnl)
            have HTV := Lib.hid (top_val' HOL.out)
            have HLN : Hid (val (l.take n) < 65536 ^ n) := Lib.hid (by
              have := val_lt (l.take n) (dig_take HD.out n)
              rwa [List.length_take, Nat.min_eq_left (by omega)] at this)
            generalize htq : l[n] = tn at hcn htn HTV
            clear htq
            have HDL : Hid (Dr wr (.slice (some ⟨w.heap.size, 0, none⟩) n (n + 1)) (l.take n)) := Lib.hid ⟨w.heap.size, n + 1, by rw [List.length_take, Nat.min_eq_left (by omega)], by rw [List.length_take]; omega, by omega, (Array.getElem?_eq_some_iff.1 HH.out).1, fun i hi => by
              rw [Lib.cell_of_heap HH.out]
              have hi' : i < l.length := by rw [List.length_take] at hi; omega
              simp [us, hi']⟩
            have HC := Lib.hid (cmp_any (l.take n) m (dig_take HD.out n) HMD.out _ _ wr HDL.out (HDM.out.below (HW.out.mono (Nat.le_refl _))))
            by_cases hge : val m ≤ val l
            · have HMV : Hid (mval wr w.heap.size = val l) := Lib.hid (mval_us HH.out)
              by_cases htn0 : tn = 0
              · subst htn0
                have hcm : 0 ≤ cmpN (val (l.take n)) (val m) := by
                  have h6 := HTV.out
                  rw [Nat.mul_zero, Nat.add_zero] at h6
                  rw [← h6]
                  unfold cmpN
                  rw [if_neg (by omega)]
                  split <;> omega
                generalize cmpN (val (l.take n)) (val m) = cm at hcm HC
                have HTM : Hid (1 * val m ≤ val l) := Lib.hid (by omega)
                clear hge htn HTV HLN
                go_wp2_with fail
                refine (HC.out).mono ?_
                rintro e w5 ⟨rfl, hsm⟩
                have HHC : Hid (w5.heap[w.heap.size]? = some (.cells (us l) 75 (0, 0))) := Lib.hid (by rw [hsm.2.2.2]; exact HH.out)
                have HWC := Lib.hid (hsm.below HW.out)
                have hcn5 : w5.cell? ⟨w.heap.size, n, none⟩ = some (.int .u32 ((0 : Nat) : Int)) := hsm.cell hcn
                clear hsm HC HDL hcn HH HW
                go_wp2_with fail
                clear hcn5 hcm
                go_loopw [10, 11] (fun bo k wr => ∃ (kk bb : Nat) (l2 : List Nat), kk ≤ n + 1 ∧ k = .int .i64 (kk : Int) ∧ bo = .int .u64 (bb : Int) ∧ bb < 65536 ∧ l2.length = n + 1 ∧ Dig l2 ∧ (∀ p (hp : p < l2.length) (hp' : p < l.length), kk ≤ p → l2[p] = l[p]) ∧ val (l2.take kk) + 1 * val (m.take kk) = val (l.take kk) + 65536 ^ kk * bb ∧ wr.heap[w.heap.size]? = some (.cells (us l2) 75 (0, 0)) ∧ Below w.heap.size w wr) (fun _ k _ => n + 1 - (intOf k).toNat)
                case atStart => exact ⟨0, 0, l, by omega, rfl, rfl, by omega, HOL.out, HD.out, fun _ _ _ _ => rfl, by simp [val], HHC.out, HWC.out⟩
                case round =>
                  clear HHC HWC
                  obtain ⟨kk, bb, l2, hkk, rfl, rfl, hbb, hol2, hd2, hup, hvv, hh, hb⟩ := hrel
                  have HH := Lib.hid hh
                  have HW := Lib.hid hb
                  have HD2 := Lib.hid hd2
                  have HUP := Lib.hid hup
                  have HVV := Lib.hid hvv
                  have HOL2 := Lib.hid hol2
                  clear hh hb hd2 hup hvv hol2
                  by_cases hkn : kk < n + 1
                  · have hk2 : kk < l2.length := by rw [HOL2.out]; omega
                    have hkl : kk < l.length := by rw [HOL.out]; omega
                    have hll : l2[kk] = l[kk] := HUP.out kk hk2 hkl (Nat.le_refl _)
                    have io : wr.cell? ⟨w.heap.size, kk, none⟩ = some (.int .u32 ((l[kk] : Nat) : Int)) := by
                      rw [Lib.cell_of_heap HH.out, ← hll]; simp [us, hk2]
                    have fo := Lib.frozen_of_heap HH.out kk
                    have hzl := HD.out _ (List.getElem_mem hkl)
                    have HTL := Lib.hid (take_val hkl)
                    clear hll
                    generalize l[kk] = z at io hzl HTL
                    have HSV := Lib.hid (fun d => take_set_val (d := d) hk2)
                    have HUP2 : Hid (∀ d, ∀ p (hp : p < (l2.set kk d).length) (hp' : p < l.length), kk + 1 ≤ p → (l2.set kk d)[p] = l[p]) := Lib.hid (fun d p hp hp' h => by
                      rw [List.getElem_set_ne (by omega)]; exact HUP.out p (by simpa using hp) hp' (by omega))
                    by_cases hkm : kk < n
                    · have hkb : kk < m.length := by have := HN.out.2; omega
                      have ib := (HW.out.cell (p := ⟨g2, kk, none⟩) HG.out.2).trans (HCB.out kk hkb)
                      have hyl := HMD.out _ (List.getElem_mem hkb)
                      have HTB := Lib.hid (take_val hkb)
                      generalize m[kk] = y at ib hyl HTB
                      obtain ⟨M, hM⟩ : ∃ M, M = 1 * y := ⟨_, rfl⟩
                      have hMl : M ≤ 65535 * 65535 := by rw [hM]; exact Nat.mul_le_mul (by omega) (by omega)
                      have hMi : 1 * (y : Int) = (M : Int) := by rw [hM]; omega
                      obtain ⟨T, hT⟩ : ∃ T, T = bb + M := ⟨_, rfl⟩
                      obtain ⟨Z, hZ⟩ : ∃ Z, Z = z + 1099511627776 := ⟨_, rfl⟩
                      obtain ⟨X, hX⟩ : ∃ X, X = Z - T := ⟨_, rfl⟩
                      obtain ⟨D, hDD⟩ : ∃ D, D = X % 65536 := ⟨_, rfl⟩
                      obtain ⟨Q, hQ⟩ : ∃ Q, Q = X / 65536 := ⟨_, rfl⟩
                      obtain ⟨C, hC⟩ : ∃ C, C = 16777216 - Q := ⟨_, rfl⟩
                      have w1 : IntKind.u64.wrap (1 * (y : Int)) = (M : Int) := by rw [hMi, IntKind.wrap_u64]; omega
                      have w1' : IntKind.u64.wrap (y : Int) = (y : Int) := by rw [IntKind.wrap_u64]; omega
                      have w2 : IntKind.u64.wrap ((bb : Int) + (y : Int)) = (T : Int) := by rw [IntKind.wrap_u64]; omega
                      have w3 : IntKind.u64.wrap ((z : Int) + 1099511627776) = (Z : Int) := by rw [IntKind.wrap_u64]; omega
                      have w4 : IntKind.u64.wrap ((Z : Int) - (T : Int)) = (X : Int) := by rw [IntKind.wrap_u64]; omega
                      have w5 : IntKind.u64.wrap (16777216 - (Q : Int)) = (C : Int) := by rw [IntKind.wrap_u64]; omega
                      have b1 : bits .and .u64 (X : Int) 65535 = (D : Int) := by rw [hDD]; exact and64 X (by omega)
                      have b2 : (D : Int) % 4294967296 = (D : Int) := by omega
                      have b3 : (X : Int) / 65536 = (Q : Int) := by omega
                      have hDl : D < 65536 := by omega
                      have hCl : C < 65536 := by omega
                      have hDC : D + (bb + M) = z + 65536 * C := by omega
                      have HST : Hid (val ((l2.set kk D).take (kk + 1)) + 1 * val (m.take (kk + 1)) = val (l.take (kk + 1)) + 65536 ^ (kk + 1) * C) := Lib.hid (by
                        rw [hM] at hDC
                        rw [HSV.out, HTB.out, HTL.out, Nat.pow_succ]
                        exact left_arith HVV.out hDC)
                      have HU : Hid ((us l2).setIfInBounds kk (.int .u32 ((D : Nat) : Int)) = us (l2.set kk D)) := Lib.hid (us_set _ _ _)
                      have HD3 := Lib.hid (dig_set HD2.out hDl kk)
                      clear hM hMl hMi hT hZ hX hDD hQ hC hDC HTB HTL HSV HVV HUP
                      go_wp2_with fail
                      go_roundw
                      case rel => exact ⟨kk + 1, C, l2.set kk D, by omega, by go_num, rfl, hCl, by rw [List.length_set]; exact HOL2.out, HD3.out, HUP2.out D, HST.out, (blk_put HH.out kk _).trans (by rw [HU.out]), HW.out.setCell (p := ⟨w.heap.size, kk, none⟩) (Nat.le_refl _) _⟩
                      case measure => simp [intOf] <;> omega
                    · obtain rfl : kk = n := by omega
                      obtain ⟨Z, hZ⟩ : ∃ Z, Z = z + 1099511627776 := ⟨_, rfl⟩
                      obtain ⟨X, hX⟩ : ∃ X, X = Z - bb := ⟨_, rfl⟩
                      obtain ⟨D, hDD⟩ : ∃ D, D = X % 65536 := ⟨_, rfl⟩
                      obtain ⟨Q, hQ⟩ : ∃ Q, Q = X / 65536 := ⟨_, rfl⟩
                      obtain ⟨C, hC⟩ : ∃ C, C = 16777216 - Q := ⟨_, rfl⟩
                      have w3 : IntKind.u64.wrap ((z : Int) + 1099511627776) = (Z : Int) := by rw [IntKind.wrap_u64]; omega
                      have w4 : IntKind.u64.wrap ((Z : Int) - (bb : Int)) = (X : Int) := by rw [IntKind.wrap_u64]; omega
                      have w5 : IntKind.u64.wrap (16777216 - (Q : Int)) = (C : Int) := by rw [IntKind.wrap_u64]; omega
                      have b1 : bits .and .u64 (X : Int) 65535 = (D : Int) := by rw [hDD]; exact and64 X (by omega)
                      have b2 : (D : Int) % 4294967296 = (D : Int) := by omega
                      have b3 : (X : Int) / 65536 = (Q : Int) := by omega
                      have hDl : D < 65536 := by omega
                      have hCl : C < 65536 := by omega
                      have hDC : D + (bb + 1 * 0) = z + 65536 * C := by omega
                      have HST : Hid (val ((l2.set kk D).take (kk + 1)) + 1 * val (m.take (kk + 1)) = val (l.take (kk + 1)) + 65536 ^ (kk + 1) * C) := Lib.hid (by
                        rw [HSV.out, HTL.out, Nat.pow_succ, List.take_of_length_le (l := m) (by have := HN.out.2; omega)]
                        have h1 := HVV.out
                        rw [List.take_of_length_le (l := m) (by have := HN.out.2; omega)] at h1
                        have := left_arith h1 hDC
                        rwa [Nat.mul_zero, Nat.add_zero] at this)
                      have HU : Hid ((us l2).setIfInBounds kk (.int .u32 ((D : Nat) : Int)) = us (l2.set kk D)) := Lib.hid (us_set _ _ _)
                      have HD3 := Lib.hid (dig_set HD2.out hDl kk)
                      clear hZ hX hDD hQ hC hDC HTL HSV HVV HUP
                      go_wp2_with fail
                      go_roundw
                      case rel => exact ⟨kk + 1, C, l2.set kk D, by omega, by go_num, rfl, hCl, by rw [List.length_set]; exact HOL2.out, HD3.out, HUP2.out D, HST.out, (blk_put HH.out kk _).trans (by rw [HU.out]), HW.out.setCell (p := ⟨w.heap.size, kk, none⟩) (Nat.le_refl _) _⟩
                      case measure => simp [intOf] <;> omega
                  · obtain rfl : kk = n + 1 := by omega
                    have HE : Hid (val l2 = val l - 1 * val m) := Lib.hid (by
                      have h1 := HVV.out
                      rw [List.take_of_length_le (l := l2) (by rw [HOL2.out]; omega), List.take_of_length_le (l := l) (by rw [HOL.out]; omega), List.take_of_length_le (l := m) (by have := HN.out.2; omega)] at h1
                      have h2 := val_lt l2 HD2.out
                      rw [HOL2.out] at h2
                      exact left_end h1 h2 HTM.out)
                    have HV2 : Hid (val l2 % val m = R) := Lib.hid (by rw [HE.out, sub_mod_mul HTM.out, HV.out])
                    have HLS : Hid (mval wr w.heap.size < val l) := Lib.hid (by
                      rw [mval_us HH.out, HE.out]
                      have h1 := HM0.out
                      have h2 := HTM.out
                      have h3 : 0 < 1 * val m := Nat.mul_pos (by omega) h1
                      omega)
                    clear HVV HUP HE
                    go_wp2_with fail
                    go_roundw
                    case rel => exact ⟨_, _, _, _, _, _, _, _, _, _, _, _, _, _, _, _, _, _, _, _, _, _, _, _, _, _, _, _, _, _, _, _, _, _, _, _, _, _, _, _, _, _, _, _, _, _, _, _, _, _, _, _, _, _, _, _, _, _, _, _, ⟨l2, HOL2.out, HD2.out, HV2.out, HH.out, HW.out⟩, rfl⟩
                    case measure => rw [HMV.out]; exact HLS.out
              · have HTM : Hid (tn * val m ≤ val l) := Lib.hid (by
                  have h5 := HMT.out
                  have h6 := HTV.out
                  have h7 : tn * val m ≤ tn * 65536 ^ n := Nat.mul_le_mul_left _ (by omega)
                  rw [Nat.mul_comm tn (65536 ^ n)] at h7
                  omega)
                have htp : (0 : Int) < (tn : Int) := by omega
                have htz : (((tn : Nat) : Int) == 0) = false := by simp; omega
                have HHC := HH
                have HWC := HW
                clear hge HTV HLN HC HDL HH HW
                go_wp2_with fail
                clear hcn
                go_loopw [10, 11] (fun bo k wr => ∃ (kk bb : Nat) (l2 : List Nat), kk ≤ n + 1 ∧ k = .int .i64 (kk : Int) ∧ bo = .int .u64 (bb : Int) ∧ bb < 65536 ∧ l2.length = n + 1 ∧ Dig l2 ∧ (∀ p (hp : p < l2.length) (hp' : p < l.length), kk ≤ p → l2[p] = l[p]) ∧ val (l2.take kk) + tn * val (m.take kk) = val (l.take kk) + 65536 ^ kk * bb ∧ wr.heap[w.heap.size]? = some (.cells (us l2) 75 (0, 0)) ∧ Below w.heap.size w wr) (fun _ k _ => n + 1 - (intOf k).toNat)
                case atStart => exact ⟨0, 0, l, by omega, rfl, rfl, by omega, HOL.out, HD.out, fun _ _ _ _ => rfl, by simp [val], HHC.out, HWC.out⟩
                case round =>
                  clear HHC HWC
                  obtain ⟨kk, bb, l2, hkk, rfl, rfl, hbb, hol2, hd2, hup, hvv, hh, hb⟩ := hrel
                  have HH := Lib.hid hh
                  have HW := Lib.hid hb
                  have HD2 := Lib.hid hd2
                  have HUP := Lib.hid hup
                  have HVV := Lib.hid hvv
                  have HOL2 := Lib.hid hol2
                  clear hh hb hd2 hup hvv hol2
                  by_cases hkn : kk < n + 1
                  · have hk2 : kk < l2.length := by rw [HOL2.out]; omega
                    have hkl : kk < l.length := by rw [HOL.out]; omega
                    have hll : l2[kk] = l[kk] := HUP.out kk hk2 hkl (Nat.le_refl _)
                    have io : wr.cell? ⟨w.heap.size, kk, none⟩ = some (.int .u32 ((l[kk] : Nat) : Int)) := by
                      rw [Lib.cell_of_heap HH.out, ← hll]; simp [us, hk2]
                    have fo := Lib.frozen_of_heap HH.out kk
                    have hzl := HD.out _ (List.getElem_mem hkl)
                    have HTL := Lib.hid (take_val hkl)
                    clear hll
                    generalize l[kk] = z at io hzl HTL
                    have HSV := Lib.hid (fun d => take_set_val (d := d) hk2)
                    have HUP2 : Hid (∀ d, ∀ p (hp : p < (l2.set kk d).length) (hp' : p < l.length), kk + 1 ≤ p → (l2.set kk d)[p] = l[p]) := Lib.hid (fun d p hp hp' h => by
                      rw [List.getElem_set_ne (by omega)]; exact HUP.out p (by simpa using hp) hp' (by omega))
                    by_cases hkm : kk < n
                    · have hkb : kk < m.length := by have := HN.out.2; omega
                      have ib := (HW.out.cell (p := ⟨g2, kk, none⟩) HG.out.2).trans (HCB.out kk hkb)
                      have hyl := HMD.out _ (List.getElem_mem hkb)
                      have HTB := Lib.hid (take_val hkb)
                      generalize m[kk] = y at ib hyl HTB
                      obtain ⟨M, hM⟩ : ∃ M, M = tn * y := ⟨_, rfl⟩
                      have hMl : M ≤ 65535 * 65535 := by rw [hM]; exact Nat.mul_le_mul (by omega) (by omega)
                      have hMi : (tn : Int) * (y : Int) = (M : Int) := by rw [hM]; exact (Int.natCast_mul tn y).symm
                      obtain ⟨T, hT⟩ : ∃ T, T = bb + M := ⟨_, rfl⟩
                      obtain ⟨Z, hZ⟩ : ∃ Z, Z = z + 1099511627776 := ⟨_, rfl⟩
                      obtain ⟨X, hX⟩ : ∃ X, X = Z - T := ⟨_, rfl⟩
                      obtain ⟨D, hDD⟩ : ∃ D, D = X % 65536 := ⟨_, rfl⟩
                      obtain ⟨Q, hQ⟩ : ∃ Q, Q = X / 65536 := ⟨_, rfl⟩
                      obtain ⟨C, hC⟩ : ∃ C, C = 16777216 - Q := ⟨_, rfl⟩
                      have w1 : IntKind.u64.wrap ((tn : Int) * (y : Int)) = (M : Int) := by rw [hMi, IntKind.wrap_u64]; omega
                      have w1' : IntKind.u64.wrap (y : Int) = (y : Int) := by rw [IntKind.wrap_u64]; omega
                      have w2 : IntKind.u64.wrap ((bb : Int) + (M : Int)) = (T : Int) := by rw [IntKind.wrap_u64]; omega
                      have w3 : IntKind.u64.wrap ((z : Int) + 1099511627776) = (Z : Int) := by rw [IntKind.wrap_u64]; omega
                      have w4 : IntKind.u64.wrap ((Z : Int) - (T : Int)) = (X : Int) := by rw [IntKind.wrap_u64]; omega
                      have w5 : IntKind.u64.wrap (16777216 - (Q : Int)) = (C : Int) := by rw [IntKind.wrap_u64]; omega
                      have b1 : bits .and .u64 (X : Int) 65535 = (D : Int) := by rw [hDD]; exact and64 X (by omega)
                      have b2 : (D : Int) % 4294967296 = (D : Int) := by omega
                      have b3 : (X : Int) / 65536 = (Q : Int) := by omega
                      have hDl : D < 65536 := by omega
                      have hCl : C < 65536 := by omega
                      have hDC : D + (bb + M) = z + 65536 * C := by omega
                      have HST : Hid (val ((l2.set kk D).take (kk + 1)) + tn * val (m.take (kk + 1)) = val (l.take (kk + 1)) + 65536 ^ (kk + 1) * C) := Lib.hid (by
                        rw [hM] at hDC
                        rw [HSV.out, HTB.out, HTL.out, Nat.pow_succ]
                        exact left_arith HVV.out hDC)
                      have HU : Hid ((us l2).setIfInBounds kk (.int .u32 ((D : Nat) : Int)) = us (l2.set kk D)) := Lib.hid (us_set _ _ _)
                      have HD3 := Lib.hid (dig_set HD2.out hDl kk)
                      clear hM hMl hMi hT hZ hX hDD hQ hC hDC HTB HTL HSV HVV HUP
                      go_wp2_with fail
                      go_roundw
                      case rel => exact ⟨kk + 1, C, l2.set kk D, by omega, by go_num, rfl, hCl, by rw [List.length_set]; exact HOL2.out, HD3.out, HUP2.out D, HST.out, (blk_put HH.out kk _).trans (by rw [HU.out]), HW.out.setCell (p := ⟨w.heap.size, kk, none⟩) (Nat.le_refl _) _⟩
                      case measure => simp [intOf] <;> omega
                    · obtain rfl : kk = n := by omega
                      obtain ⟨Z, hZ⟩ : ∃ Z, Z = z + 1099511627776 := ⟨_, rfl⟩
                      obtain ⟨X, hX⟩ : ∃ X, X = Z - bb := ⟨_, rfl⟩
                      obtain ⟨D, hDD⟩ : ∃ D, D = X % 65536 := ⟨_, rfl⟩
                      obtain ⟨Q, hQ⟩ : ∃ Q, Q = X / 65536 := ⟨_, rfl⟩
                      obtain ⟨C, hC⟩ : ∃ C, C = 16777216 - Q := ⟨_, rfl⟩
                      have w3 : IntKind.u64.wrap ((z : Int) + 1099511627776) = (Z : Int) := by rw [IntKind.wrap_u64]; omega
                      have w4 : IntKind.u64.wrap ((Z : Int) - (bb : Int)) = (X : Int) := by rw [IntKind.wrap_u64]; omega
                      have w5 : IntKind.u64.wrap (16777216 - (Q : Int)) = (C : Int) := by rw [IntKind.wrap_u64]; omega
                      have b1 : bits .and .u64 (X : Int) 65535 = (D : Int) := by rw [hDD]; exact and64 X (by omega)
                      have b2 : (D : Int) % 4294967296 = (D : Int) := by omega
                      have b3 : (X : Int) / 65536 = (Q : Int) := by omega
                      have hDl : D < 65536 := by omega
                      have hCl : C < 65536 := by omega
                      have hDC : D + (bb + tn * 0) = z + 65536 * C := by omega
                      have HST : Hid (val ((l2.set kk D).take (kk + 1)) + tn * val (m.take (kk + 1)) = val (l.take (kk + 1)) + 65536 ^ (kk + 1) * C) := Lib.hid (by
                        rw [HSV.out, HTL.out, Nat.pow_succ, List.take_of_length_le (l := m) (by have := HN.out.2; omega)]
                        have h1 := HVV.out
                        rw [List.take_of_length_le (l := m) (by have := HN.out.2; omega)] at h1
                        have := left_arith h1 hDC
                        rwa [Nat.mul_zero, Nat.add_zero] at this)
                      have HU : Hid ((us l2).setIfInBounds kk (.int .u32 ((D : Nat) : Int)) = us (l2.set kk D)) := Lib.hid (us_set _ _ _)
                      have HD3 := Lib.hid (dig_set HD2.out hDl kk)
                      clear hZ hX hDD hQ hC hDC HTL HSV HVV HUP
                      go_wp2_with fail
                      go_roundw
                      case rel => exact ⟨kk + 1, C, l2.set kk D, by omega, by go_num, rfl, hCl, by rw [List.length_set]; exact HOL2.out, HD3.out, HUP2.out D, HST.out, (blk_put HH.out kk _).trans (by rw [HU.out]), HW.out.setCell (p := ⟨w.heap.size, kk, none⟩) (Nat.le_refl _) _⟩
                      case measure => simp [intOf] <;> omega
                  · obtain rfl : kk = n + 1 := by omega
                    have HE : Hid (val l2 = val l - tn * val m) := Lib.hid (by
                      have h1 := HVV.out
                      rw [List.take_of_length_le (l := l2) (by rw [HOL2.out]; omega), List.take_of_length_le (l := l) (by rw [HOL.out]; omega), List.take_of_length_le (l := m) (by have := HN.out.2; omega)] at h1
                      have h2 := val_lt l2 HD2.out
                      rw [HOL2.out] at h2
                      exact left_end h1 h2 HTM.out)
                    have HV2 : Hid (val l2 % val m = R) := Lib.hid (by rw [HE.out, sub_mod_mul HTM.out, HV.out])
                    have HLS : Hid (mval wr w.heap.size < val l) := Lib.hid (by
                      rw [mval_us HH.out, HE.out]
                      have h1 := HM0.out
                      have h2 := HTM.out
                      have h3 : 0 < tn * val m := Nat.mul_pos (by omega) h1
                      omega)
                    clear HVV HUP HE
                    go_wp2_with fail
                    go_roundw
                    case rel => exact ⟨_, _, _, _, _, _, _, _, _, _, _, _, _, _, _, _, _, _, _, _, _, _, _, _, _, _, _, _, _, _, _, _, _, _, _, _, _, _, _, _, _, _, _, _, _, _, _, _, _, _, _, _, _, _, _, _, _, _, _, _, ⟨l2, HOL2.out, HD2.out, HV2.out, HH.out, HW.out⟩, rfl⟩
                    case measure => rw [HMV.out]; exact HLS.out
            · have htn0 : tn = 0 := by
                rcases Nat.eq_zero_or_pos tn with h3 | h3
                · exact h3
                · have h4 : 65536 ^ n * 1 ≤ 65536 ^ n * tn := Nat.mul_le_mul_left _ h3
                  have h5 := HMT.out
                  have h6 := HTV.out
                  omega
              subst htn0
              have hcm : cmpN (val (l.take n)) (val m) = -1 := by
                have h6 := HTV.out
                rw [Nat.mul_zero, Nat.add_zero] at h6
                rw [← h6]
                unfold cmpN
                rw [if_pos (by omega)]
              rw [hcm] at HC
              have HV2 : Hid (val l = val (a.drop k) % val m) := Lib.hid (by rw [← HRF.out, ← HV.out, Nat.mod_eq_of_lt (by omega)])
              clear hge hcm htn HTV HLN
              go_wp2_with fail
              refine (HC.out).mono ?_
              rintro e w5 ⟨rfl, hsm⟩
              have HH5 : Hid (w5.heap[w.heap.size]? = some (.cells (us l) 75 (0, 0))) := Lib.hid (by rw [hsm.2.2.2]; exact HH.out)
              have HW5 := Lib.hid (hsm.below HW.out)
              clear hsm HC HDL hcn
              go_wp2_with fail
              go_roundw
              case rel => exact ⟨k, l, by omega, by go_num, HOL.out, HD.out, HV2.out, HH5.out, HW5.out⟩
              case measure => simp [intOf]
        · obtain ⟨q', rfl⟩ : ∃ q', q = q' + 1 := ⟨q - 1, by omega⟩
          have h1 : q' < l2.length := by rw [HOL2.out]; omega
          have h2 : q' + 1 < l2.length := by rw [HOL2.out]; omega
          have h3 : q' < l.length := by rw [HOL.out]; omega
          have i1 : wr.cell? ⟨w.heap.size, q', none⟩ = some (.int .u32 ((l2[q'] : Nat) : Int)) := by
            rw [Lib.cell_of_heap HH.out]; simp [us, h1]
          have i2 : wr.cell? ⟨w.heap.size, q' + 1, none⟩ = some (.int .u32 ((l2[q' + 1] : Nat) : Int)) := by
            rw [Lib.cell_of_heap HH.out]; simp [us, h2]
          have fo := Lib.frozen_of_heap HH.out (q' + 1)
          have hzz : l2[q'] = l[q'] := HLO.out q' h1 h3 (by omega)
          have e2 : ((q' + 1 : Nat) : Int) - 1 = (q' : Int) := by omega
          have HLO2 : Hid (∀ d, ∀ p (hp : p < (l2.set (q' + 1) d).length) (hp' : p < l.length), p ≤ q' → (l2.set (q' + 1) d)[p] = l[p]) := Lib.hid (fun d p hp hp' h => by
            rw [List.getElem_set_ne (by omega)]; exact HLO.out p (by simpa using hp) hp' (by omega))
          have HHI2 : Hid (∀ p (hp : p < (l2.set (q' + 1) (l2[q'])).length) (hp' : p - 1 < l.length), q' < p → (l2.set (q' + 1) (l2[q']))[p] = l[p - 1]) := Lib.hid (fun p hp hp' h => by
            by_cases hpq : p = q' + 1
            · subst hpq
              rw [List.getElem_set_self]
              simpa using hzz
            · rw [List.getElem_set_ne (by omega)]; exact HHI.out p (by simpa using hp) hp' (by omega))
          generalize l2[q'] = z at i1 hzz HHI2
          generalize l2[q' + 1] = z2 at i2
          have HU : Hid ((us l2).setIfInBounds (q' + 1) (.int .u32 ((z : Nat) : Int)) = us (l2.set (q' + 1) z)) := Lib.hid (us_set _ _ _)
          have e3 : (((q' : Nat) : Int) + 1).toNat = q' + 1 := by omega
          clear hzz
          go_wp2_with fail
          go_roundw
          case rel => exact ⟨q', l2.set (q' + 1) z, by omega, by go_num, by rw [List.length_set]; exact HOL2.out, HLO2.out z, HHI2.out, (blk_put HH.out (q' + 1) _).trans (by rw [HU.out]), HW.out.setCell (p := ⟨w.heap.size, q' + 1, none⟩) (Nat.le_refl _) _⟩
          case measure => simp [intOf]
end Go.Proofs.Ytglmmodkflkkkaa.Ref
