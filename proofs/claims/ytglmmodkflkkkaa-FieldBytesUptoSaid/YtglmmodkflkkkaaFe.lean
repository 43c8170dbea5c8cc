/- Differences of numbers (the reference's Sub). Conditions: at most 10^13 digits each; the first is not below the second. -/
import Derived.Test.YtglmmodkflkkkaaFd
set_option linter.unusedVariables false
set_option linter.unusedSimpArgs false
set_option maxRecDepth 100000
namespace Go.Proofs.Ytglmmodkflkkkaa.Ref
open Go.RowKit Go.Proofs.Ytglmmodkflkkkaa.Digits

theorem val_drop (l : List Nat) (n : Nat) (h : n ≤ l.length) : val l = val (l.take n) + 65536 ^ n * val (l.drop n) := by
  have := val_append (l.take n) (l.drop n)
  rwa [List.take_append_drop, List.length_take, Nat.min_eq_left h] at this

theorem Rd.dr0 {B : Nat} {v : Value} {l : List Nat} {w : World} (h : Rd B v l w) (hz : l = [] → v = .slice (some ⟨B, 0, none⟩) 0 0) (hlt : B < w.heap.size) (hm : l.length ≤ 10000000000001) : Dr w v l := by
  by_cases ho : l = []
  · have h1 := hz ho
    subst ho
    rw [h1]
    exact ⟨B, 0, rfl, Nat.le_refl _, by omega, hlt, fun i hi => by simp at hi⟩
  · exact h.dr ho hm

set_option maxHeartbeats 4000000 in
theorem sub_any (a b : List Nat) (ha : Dig a) (hb : Dig b) (hla : a.length ≤ 1000000000000) (hle : val b ≤ val a) (v u : Value) (w : World) (h : Dr w v a) (k : Dr w u b) :
    Calls Try.prog 58 #[v, u] w fun e w' => ∃ v', e = .returned v' ∧ Nr w w' v' (val a - val b) := by
  obtain ⟨g, cap, rfl, hc, hcm, hg, hca⟩ := h
  obtain ⟨g2, cap2, rfl, hc2, hcm2, hg2, hcb⟩ := k
  have HCA := Lib.hid hca
  have HCB := Lib.hid hcb
  have HA := Lib.hid ha
  have HB := Lib.hid hb
  have HLE := Lib.hid hle
  have HG := Lib.hid (And.intro hg hg2)
  have HR0 := Lib.hid (Rd.nil w)
  have HB0 := Lib.hid ((Below.refl w.heap.size w).alloc (Nat.le_refl _) (.cells #[] 75))
  have HZ0 : Hid (w.heap.size < (w.alloc (.cells #[] 75)).heap.size) := Lib.hid (by simp)
  clear hca hcb ha hb hg hg2 hc hcm hc2 hcm2 hle
  obtain ⟨na, hna⟩ : ∃ na, na = a.length := ⟨_, rfl⟩
  obtain ⟨nb, hnb⟩ : ∃ nb, nb = b.length := ⟨_, rfl⟩
  rw [← hna] at hla ⊢
  rw [← hnb]
  have HNA := Lib.hid hna
  have HNB := Lib.hid hnb
  clear hna hnb
  go_enter Try.func58, Try.ntmps58
  go_wp2_with fail
  go_loopw [5, 6, 7] (fun o c i wr => ∃ (j cc : Nat) (out : List Nat), j ≤ na ∧ i = .int .i64 j ∧ c = .int .u32 cc ∧ cc ≤ 1 ∧ out.length = j ∧ Dig out ∧ val out + val (b.take j) = val (a.take j) + 65536 ^ j * cc ∧ Rd w.heap.size o out wr ∧ Below w.heap.size w wr ∧ (out = [] → o = .slice (some ⟨w.heap.size, 0, none⟩) 0 0) ∧ w.heap.size < wr.heap.size) (fun _ _ i _ => na - (intOf i).toNat)
  case atStart => exact ⟨0, 0, [], by omega, rfl, rfl, by omega, rfl, fun x hx => by simp at hx, by simp [val], HR0.out, HB0.out, fun _ => rfl, HZ0.out⟩
  case round =>
    obtain ⟨j, cc, out, hj, rfl, rfl, hcc, hol, hd, hv, hr, hb, hz⟩ := hrel
    have HR := Lib.hid hr
    have HW := Lib.hid hb
    have HD := Lib.hid hd
    have HV := Lib.hid hv
    have HOL := Lib.hid hol
    have HZ := Lib.hid hz
    clear hr hb hd hv hol hz HR0 HB0 HZ0
    by_cases hlt : j < na
    · have hex : ∃ x y : Nat, x < 65536 ∧ y < 65536 ∧ wr.cell? ⟨g, j, none⟩ = some (.int .u32 (x : Int)) ∧ (j < nb → wr.cell? ⟨g2, j, none⟩ = some (.int .u32 (y : Int))) ∧ (¬ j < nb → y = 0) ∧ val (a.take (j + 1)) = val (a.take j) + 65536 ^ j * x ∧ val (b.take (j + 1)) = val (b.take j) + 65536 ^ j * y := by
        have hja : j < a.length := by have := HNA.out; omega
        by_cases hjb : j < b.length
        · exact ⟨a[j], b[j], HA.out _ (List.getElem_mem hja), HB.out _ (List.getElem_mem hjb), (HW.out.cell (p := ⟨g, j, none⟩) HG.out.1).trans (HCA.out j hja), fun _ => (HW.out.cell (p := ⟨g2, j, none⟩) HG.out.2).trans (HCB.out j hjb), fun h => by have := HNB.out; omega, take_val hja, take_val hjb⟩
        · refine ⟨a[j], 0, HA.out _ (List.getElem_mem hja), by omega, (HW.out.cell (p := ⟨g, j, none⟩) HG.out.1).trans (HCA.out j hja), fun h => by have := HNB.out; omega, fun _ => rfl, take_val hja, ?_⟩
          rw [List.take_of_length_le (by omega), List.take_of_length_le (by omega)]; simp
      obtain ⟨x, y, hx, hy, ix, iy, zy, tx, ty⟩ := hex
      have HTX := Lib.hid tx
      have HTY := Lib.hid ty
      clear tx ty
      obtain ⟨S, hS⟩ : ∃ S, S + cc + y = 65536 + x := ⟨65536 + x - cc - y, by omega⟩
      have hS2 : 65536 * (S / 65536) + S % 65536 = S := Nat.div_add_mod S 65536
      have hs1 : S / 65536 ≤ 1 := by omega
      obtain ⟨C, hC⟩ : ∃ C, C + S / 65536 = 1 := ⟨1 - S / 65536, by omega⟩
      have HS : Hid (val (out ++ [S % 65536]) + val (b.take (j + 1)) = val (a.take (j + 1)) + 65536 ^ (j + 1) * C) := Lib.hid (by
        have e : S % 65536 + y + cc = x + 65536 * C := by omega
        have e2 : 65536 ^ j * (S % 65536 + y + cc) = 65536 ^ j * (x + 65536 * C) := by rw [e]
        rw [Nat.mul_add, Nat.mul_add, Nat.mul_add, ← Nat.mul_assoc] at e2
        rw [val_snoc, HOL.out, HTX.out, HTY.out, Nat.pow_succ]
        have := HV.out
        omega)
      have HD2 : Hid (Dig (out ++ [S % 65536])) := Lib.hid (dig_snoc HD.out (Nat.mod_lt _ (by decide)))
      have hs16 := and16 S (by omega)
      have hs2 : C ≤ 1 := by omega
      have hsd : (S : Int) / 65536 = 1 - (C : Int) := by omega
      have hse : (S : Int) % 65536 = ((S % 65536 : Nat) : Int) := by omega
      have hsf : (1 : Int) - (1 - (C : Int)) = (C : Int) := by omega
      have hsb : S < 200000 := by omega
      clear hS2 hs1 hC
      generalize S % 65536 = D at HS HD2 hs16 hse
      clear HTX HTY HV HD
      by_cases h2 : j < nb
      · have iy' := iy h2
        clear iy zy
        have hsx : ((65536 : Int) + x - cc - y) = (S : Int) := by omega
        clear hS
        go_wp2_with (at_builtin; refine app_d _ D rfl (.tmp 33) (.tmp 36) rfl rfl rfl rfl HR.out HW.out (by rw [HOL.out]; omega) ?_; intro v1 w1 hr hb; have HR2 := Lib.hid hr; have HW2 := Lib.hid hb; clear hr hb)
        have HZ2 : Hid (w.heap.size < w1.heap.size) := Lib.hid (by
          rcases HR2.out.2 with ⟨_, h0⟩ | ⟨g', cap', cur', _, hg', hh', _⟩
          · simp at h0
          · have := (Array.getElem?_eq_some_iff.1 hh').1; omega)
        go_roundw
        case rel => exact ⟨j + 1, C, out ++ [D], by omega, by go_num, rfl, hs2, by rw [List.length_append, HOL.out]; rfl, HD2.out, HS.out, HR2.out, HW2.out, fun h => by simp at h, HZ2.out⟩
        case measure => simp [intOf]; omega
      · have y0 := zy h2
        have hsx : ((65536 : Int) + x - cc) = (S : Int) := by omega
        clear hS iy zy y0
        go_wp2_with (at_builtin; refine app_d _ D rfl (.tmp 33) (.tmp 36) rfl rfl rfl rfl HR.out HW.out (by rw [HOL.out]; omega) ?_; intro v1 w1 hr hb; have HR2 := Lib.hid hr; have HW2 := Lib.hid hb; clear hr hb)
        have HZ2 : Hid (w.heap.size < w1.heap.size) := Lib.hid (by
          rcases HR2.out.2 with ⟨_, h0⟩ | ⟨g', cap', cur', _, hg', hh', _⟩
          · simp at h0
          · have := (Array.getElem?_eq_some_iff.1 hh').1; omega)
        go_roundw
        case rel => exact ⟨j + 1, C, out ++ [D], by omega, by go_num, rfl, hs2, by rw [List.length_append, HOL.out]; rfl, HD2.out, HS.out, HR2.out, HW2.out, fun h => by simp at h, HZ2.out⟩
        case measure => simp [intOf]; omega
    · obtain rfl : j = na := by omega
      have hout := val_lt out HD.out
      rw [HOL.out] at hout
      have HOUT := Lib.hid hout
      clear hout
      have HVV : Hid (val out = val a - val b) := Lib.hid (by
        have h1 := HV.out
        have h2 := HNA.out
        have h3 := val_lt a HA.out
        have hout := HOUT.out
        rw [← h2] at h3
        rw [List.take_of_length_le (show a.length ≤ j by omega)] at h1
        have h4 := HLE.out
        have h5 : val (b.take j) = val b := by
          rcases Nat.lt_or_ge j b.length with hlt | hge
          · have h6 := val_drop b j (by omega)
            rcases Nat.eq_zero_or_pos (val (b.drop j)) with h7 | h7
            · rw [h7] at h6; omega
            · have h8 : 65536 ^ j * 1 ≤ 65536 ^ j * val (b.drop j) := Nat.mul_le_mul_left _ h7
              omega
          · rw [List.take_of_length_le hge]
        rw [h5] at h1
        rcases Nat.eq_zero_or_pos cc with h9 | h9
        · rw [h9] at h1; omega
        · have : cc = 1 := by omega
          rw [this] at h1; omega)
      have HDR := Lib.hid (HR.out.dr0 HZ.out.1 HZ.out.2 (by rw [HOL.out]; omega))
      go_wp2_with fail
      refine (trim_any out _ _ HDR.out).mono ?_
      rintro e w2 ⟨⟨v2, rfl, hdr⟩, rfl⟩
      have HF : Hid (Nr w wr v2 (val a - val b)) := Lib.hid ⟨⟨_, hdr, trim_dig HD.out, trim_trim _, by rw [trim_val, HVV.out]⟩, HW.out⟩
      clear hdr
      go_wp2_with fail
      go_ret
      exact ⟨_, rfl, HF.out⟩
end Go.Proofs.Ytglmmodkflkkkaa.Ref
