/- How two numbers stand (the reference's Cmp). No condition but that both lie in memory. -/
import Derived.Test.YtglmmodkflkkkaaFb
set_option linter.unusedVariables false
set_option linter.unusedSimpArgs false
set_option maxRecDepth 100000
namespace Go.Proofs.Ytglmmodkflkkkaa.Ref
open Go.RowKit Go.Proofs.Ytglmmodkflkkkaa.Digits

/-- -1, 0, 1 -/
def cmpN (a b : Nat) : Int := if a < b then -1 else if b < a then 1 else 0
theorem cmpN_lt {a b : Nat} (h : a < b) : cmpN a b = -1 := by rw [cmpN, if_pos h]
theorem cmpN_gt {a b : Nat} (h : b < a) : cmpN a b = 1 := by rw [cmpN, if_neg (by omega), if_pos h]
theorem cmpN_eq {a b : Nat} (h : a = b) : cmpN a b = 0 := by rw [cmpN, if_neg (by omega), if_neg (by omega)]

set_option maxHeartbeats 4000000 in
theorem cmp_any (l m : List Nat) (hl : Dig l) (hm : Dig m) (v u : Value) (w : World) (h : Dr w v l) (k : Dr w u m) :
    Calls Try.prog 33 #[v, u] w fun e w' => e = .returned (.int .i64 (cmpN (val l) (val m))) ∧ Sm w w' := by
  have T1 := Lib.hid (trim_any l v w h)
  have T2 := Lib.hid (trim_any m u w k)
  have ha := trim_dig hl
  have hb := trim_dig hm
  have ta := trim_trim l
  have tb := trim_trim m
  rw [← trim_val l, ← trim_val m]
  have HA := Lib.hid ha
  have HB := Lib.hid hb
  have HTA := Lib.hid ta
  have HTB := Lib.hid tb
  generalize trimL l = a at *
  generalize trimL m = b at *
  clear ha hb ta tb hl hm h k
  go_enter Try.func33, Try.ntmps33
  go_wp2_with fail
  refine T1.out.mono ?_
  rintro e w1 ⟨⟨v1, rfl, h1⟩, rfl⟩
  obtain ⟨g, cap, rfl, hc, hcm, hg, hca⟩ := h1
  have HCA := Lib.hid hca
  go_wp2_with fail
  refine T2.out.mono ?_
  rintro e w2 ⟨⟨v2, rfl, h2⟩, rfl⟩
  obtain ⟨g2, cap2, rfl, hc2, hcm2, hg2, hcb⟩ := h2
  have HCB := Lib.hid hcb
  clear hca hcb T1 T2
  by_cases hlen : a.length = b.length
  · have HEQ := Lib.hid hlen
    have hlen2 : ((a.length : Int) != (b.length : Int)) = false := by simp; omega
    obtain ⟨n, hn⟩ : ∃ n, n = a.length := ⟨_, rfl⟩
    rw [← hlen, ← hn] at hlen2
    rw [← hlen] at hc2
    rw [← hlen, ← hn]
    rw [← hn] at hc hc2
    have HN := Lib.hid hn
    clear hlen hn
    go_wp2_with fail
    go_loopw [5] (fun i wr => ∃ j : Nat, j ≤ n ∧ i = .int .i64 ((j : Int) - 1) ∧ (∀ k, j ≤ k → k < n → a.getD k 0 = b.getD k 0) ∧ Sm w wr) (fun i _ => (intOf i + 1).toNat)
    case atStart => exact ⟨n, Nat.le_refl _, rfl, fun k h1 h2 => by omega, Sm.refl _⟩
    case round =>
      obtain ⟨j, hj, rfl, hs, hsm⟩ := hrel
      have HS := Lib.hid hs
      have HM := Lib.hid hsm
      clear hs hsm
      by_cases h0 : j = 0
      · subst h0
        have HV : Hid (val a = val b) := Lib.hid (by
          have : a = b := List.ext_getElem HEQ.out (fun k h1 h2 => by
            have := HS.out k (by omega) (by rw [HN.out]; exact h1)
            simpa [List.getD, h1, h2] using this)
          rw [this])
        go_wp2_with fail
        go_ret
        exact ⟨by rw [cmpN_eq HV.out]; rfl, HM.out⟩
      · obtain ⟨k, rfl⟩ : ∃ k, j = k + 1 := ⟨j - 1, by omega⟩
        have hka : k < a.length := by have := HN.out; omega
        have hkb : k < b.length := by have := HEQ.out; omega
        have ia := HM.out.cell (HCA.out k hka)
        have ib := HM.out.cell (HCB.out k hkb)
        have t1 : (((k + 1 : Nat) : Int) - 1).toNat = k := by omega
        have e1 : ((k + 1 : Nat) : Int) - 1 = (k : Int) := by omega
        have ga : a.getD k 0 = a[k] := by simp [List.getD, hka]
        have gb : b.getD k 0 = b[k] := by simp [List.getD, hkb]
        have HSS : Hid (∀ q, k < q → q < a.length → a.getD q 0 = b.getD q 0) := Lib.hid (fun q h1 h2 => HS.out q (by omega) (by rw [HN.out]; exact h2))
        have HLT : Hid (a[k] < b[k] → val a < val b) := Lib.hid (fun h => lt_of_digit HA.out HB.out HEQ.out k hka HSS.out (by rw [ga, gb]; exact h))
        have HGT : Hid (b[k] < a[k] → val b < val a) := Lib.hid (fun h => lt_of_digit HB.out HA.out HEQ.out.symm k hkb (fun q h1 h2 => (HSS.out q h1 (by rw [HEQ.out]; exact h2)).symm) (by rw [ga, gb]; exact h))
        have HNX : Hid (a[k] = b[k] → ∀ q, k ≤ q → q < n → a.getD q 0 = b.getD q 0) := Lib.hid (fun h q h1 h2 => by
          by_cases e : q = k
          · subst e; rw [ga, gb, h]
          · exact HS.out q (by omega) h2)
        have hkn : (k : Int) < n := by omega
        clear ga gb HSS HS
        generalize a[k] = x at ia HLT HGT HNX
        generalize b[k] = y at ib HLT HGT HNX
        rw [e1]
        go_wp2_with fail
        refine wp_region_quiet_lit (by kernel_rfl) (by kernel_rfl) ?_
        iterate 9 go_big_quiet_step (fail)
        refine wpQuiet_nil ?_
        intro _ hw'
        obtain ⟨nq, hw''⟩ := hw'
        subst hw''
        have HM2 := Lib.hid (HM.out.trans (Sm.drewN wr nq))
        by_cases hxy : x < y
        · have hlt : ((x : Int) < (y : Int)) := by omega
          go_wp2_with fail
          go_ret
          exact ⟨by rw [cmpN_lt (HLT.out hxy)]; rfl, HM2.out⟩
        · have hnlt : ¬ ((x : Int) < (y : Int)) := by omega
          have ia2 : (wr.drewN nq).cell? ⟨g, k, none⟩ = some (.int .u32 (x : Int)) := ia
          have ib2 : (wr.drewN nq).cell? ⟨g2, k, none⟩ = some (.int .u32 (y : Int)) := ib
          clear ia ib HM
          generalize wr.drewN nq = ws at HM2 ia2 ib2 ⊢
          go_wp2_with fail
          refine wp_region_quiet_lit (by kernel_rfl) (by kernel_rfl) ?_
          iterate 9 go_big_quiet_step (fail)
          refine wpQuiet_nil ?_
          intro _ hw'
          obtain ⟨nq2, hw''⟩ := hw'
          subst hw''
          have HM3 := Lib.hid (HM2.out.trans (Sm.drewN ws nq2))
          by_cases hyx : y < x
          · have hlt : ((y : Int) < (x : Int)) := by omega
            go_wp2_with fail
            go_ret
            exact ⟨by rw [cmpN_gt (HGT.out hyx)]; rfl, HM3.out⟩
          · have hnlt2 : ¬ ((y : Int) < (x : Int)) := by omega
            have hxe : x = y := by omega
            have HX2 := Lib.hid (HNX.out hxe)
            clear HNX hxe
            go_wp2_with fail
            go_roundw
            case rel => exact ⟨k, by omega, by go_num, HX2.out, HM3.out⟩
            case measure => simp [intOf]
  · have hlen2 : ((a.length : Int) != (b.length : Int)) = true := by simp; omega
    by_cases hlt : a.length < b.length
    · have h1 : ((a.length : Int) < (b.length : Int)) := by omega
      have HV := Lib.hid (lt_of_len HA.out HTB.out hlt)
      clear hlen hlt
      go_wp2_with fail
      go_ret
      exact ⟨by rw [cmpN_lt HV.out]; rfl, Sm.refl _⟩
    · have h1 : ¬ ((a.length : Int) < (b.length : Int)) := by omega
      have HV := Lib.hid (lt_of_len HB.out HTA.out (by omega))
      clear hlen hlt
      go_wp2_with fail
      go_ret
      exact ⟨by rw [cmpN_gt HV.out]; rfl, Sm.refl _⟩
end Go.Proofs.Ytglmmodkflkkkaa.Ref
