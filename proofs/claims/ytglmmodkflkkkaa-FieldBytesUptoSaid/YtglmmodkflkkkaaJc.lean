/- Any bytes modulo. Condition: fewer than 2 to the 47. -/
import Derived.Test.YtglmmodkflkkkaaJb
set_option linter.unusedVariables false
set_option linter.unusedSimpArgs false
set_option maxRecDepth 100000
namespace Go.Proofs.Ytglmmodkflkkkaa
open Go.RowKit Limbs

def pend (n i : Nat) : Nat := (8 - (n - i) % 8) % 8
theorem pend_next {n i : Nat} (h : i < n) : ((n - 1 - i) % 8 = 0 → pend n i = 7 ∧ pend n (i + 1) = 0) ∧ ((n - 1 - i) % 8 ≠ 0 → pend n (i + 1) = pend n i + 1 ∧ pend n i < 7) := by
  unfold pend
  omega
theorem or_byte {x b : Nat} (hx : x < 18446744073709551616) (h8 : x % 256 = 0) (hb : b < 256) : bits .or .u64 (x : Int) (b : Int) = ((x + b : Nat) : Int) := by
  rw [bits_or_u64_nat x b hx (by omega)]
  congr 1
  have h := Nat.two_pow_add_eq_or_of_lt (i := 8) (b := b) (by simpa using hb) (x / 256)
  have e : 2 ^ 8 * (x / 256) = x := by omega
  rw [e] at h
  exact h.symm

set_option maxHeartbeats 16000000 in
theorem reduce_any (m : Int) (s : List UInt8) (hs : s.length ≤ 140737488351232) (w : World) :
    Calls Try.prog 36 #[.int .i64 m, .string ⟨s.toArray⟩] w fun e w' => e = .returned (nv (bv s % md m)) ∧ Below w.heap.size w w' := by
  have hM := md_or m
  obtain ⟨hMW, hM2, hM3, hMp⟩ := md_lt hM
  have HM := Lib.hid (mod_any m)
  generalize md m = M at *
  have HA := Lib.hid (And.intro hM (And.intro hMW hMp))
  obtain ⟨res, hres⟩ : ∃ z, z = bv s % M := ⟨_, rfl⟩
  rw [← hres]
  have HRES := Lib.hid hres
  clear hres hM hMW hM2 hM3 hMp
  have hsz : (⟨s.toArray⟩ : ByteArray).size = s.length := by simp [ByteArray.size]
  have hst : ∀ i (h : i < s.length), (⟨s.toArray⟩ : ByteArray)[i]'(by rw [hsz]; exact h) = s[i] := fun i h => by simp [ByteArray.getElem_eq_getElem_data]
  obtain ⟨S, hS⟩ : ∃ S, S = (⟨s.toArray⟩ : ByteArray) := ⟨_, rfl⟩
  rw [← hS]
  have hSn : S.size = s.length := by rw [hS]; exact hsz
  have hSi : ∀ i (h : i < S.size) (h2 : i < s.length), S[i] = s[i] := fun i h h2 => by subst hS; exact hst i h2
  have HS := Lib.hid hSi
  have HN := Lib.hid (And.intro hSn hs)
  clear hsz hst hS hSi hSn hs
  simp only [nv, num]
  go_enter Try.func36, Try.ntmps36
  go_wp2_with fail
  refine (keep w.heap.size w (HM.out _) (by go_grown) (Nat.le_refl _)).mono ?_
  rintro e w1 ⟨rfl, hb, hk⟩
  have KR : Hid (Bk 24 w1 w.heap.size cs0) := Lib.hid (Bk.below (Bk.new rfl) hk)
  have HB := Lib.hid hb
  clear hk hb HM
  simp only [nv, num]
  go_wp2_with fail
  have K2R : Hid (Bk 24 ((w1.alloc (.cells #[.int .u64 (lb M 0 : Nat), .int .u64 (lb M 1 : Nat), .int .u64 (lb M 2 : Nat), .int .u64 (lb M 3 : Nat)] 24)).alloc (.cells #[.int .u64 0, .int .u64 0, .int .u64 0, .int .u64 0] 24)) w.heap.size cs0) := Lib.hid (Bk.alloc (Bk.alloc KR.out))
  have K2M : Hid (Bk 24 ((w1.alloc (.cells #[.int .u64 (lb M 0 : Nat), .int .u64 (lb M 1 : Nat), .int .u64 (lb M 2 : Nat), .int .u64 (lb M 3 : Nat)] 24)).alloc (.cells #[.int .u64 0, .int .u64 0, .int .u64 0, .int .u64 0] 24)) w1.heap.size (cs4 M)) := Lib.hid (Bk.alloc (Bk.new rfl))
  have K26 : Hid (Bk 24 ((w1.alloc (.cells #[.int .u64 (lb M 0 : Nat), .int .u64 (lb M 1 : Nat), .int .u64 (lb M 2 : Nat), .int .u64 (lb M 3 : Nat)] 24)).alloc (.cells #[.int .u64 0, .int .u64 0, .int .u64 0, .int .u64 0] 24)) (w1.heap.size + 1) (cs4 0)) := Lib.hid (Bk.new (by simp))
  have HB2 : Hid (Below w.heap.size w ((w1.alloc (.cells #[.int .u64 (lb M 0 : Nat), .int .u64 (lb M 1 : Nat), .int .u64 (lb M 2 : Nat), .int .u64 (lb M 3 : Nat)] 24)).alloc (.cells #[.int .u64 0, .int .u64 0, .int .u64 0, .int .u64 0] 24))) := Lib.hid (by have hb := HB.out; have hs := hb.size; go_grown)
  have HNE : Hid (w.heap.size ≠ w1.heap.size + 1 ∧ w1.heap.size ≠ w1.heap.size + 1 ∧ w.heap.size ≤ w1.heap.size + 1) := Lib.hid ⟨by have := HB.out.size; omega, by omega, by have := HB.out.size; omega⟩
  clear KR HB
  generalize ((w1.alloc (.cells #[.int .u64 (lb M 0 : Nat), .int .u64 (lb M 1 : Nat), .int .u64 (lb M 2 : Nat), .int .u64 (lb M 3 : Nat)] 24)).alloc (.cells #[.int .u64 0, .int .u64 0, .int .u64 0, .int .u64 0] 24)) = wr0 at K2R K2M K26 HB2 ⊢
  obtain ⟨gM, hgM⟩ : ∃ z, z = w1.heap.size := ⟨_, rfl⟩
  obtain ⟨g6, hg6⟩ : ∃ z, z = w1.heap.size + 1 := ⟨_, rfl⟩
  rw [← hg6] at K26 HNE ⊢
  rw [← hgM] at K2M HNE ⊢
  clear hgM hg6
  go_loopw [7, 13] (fun L c wr => ∃ (i l R : Nat), i ≤ S.size ∧ c = .int .i64 (i : Int) ∧ L = .int .u64 (l : Int) ∧ l < 256 ^ pend S.size i ∧ R < M ∧ (R * 256 ^ pend S.size i + l) % M = bv (s.take i) % M ∧ Bk 24 wr w.heap.size cs0 ∧ Bk 24 wr gM (cs4 M) ∧ Bk 24 wr g6 (cs4 R) ∧ Below w.heap.size w wr) (fun _ c _ => S.size - (intOf c).toNat)
  case atStart => exact ⟨0, 0, 0, Nat.zero_le _, rfl, rfl, Nat.pow_pos (by decide), by have := HA.out.2.2; omega, by simp [bv], K2R.out, K2M.out, K26.out, HB2.out⟩
  case round =>
    clear K2R K2M K26 HB2
    obtain ⟨i, l, R, hi, rfl, rfl, hl, hR, hv, kr, km, k6, hb⟩ := hrel
    have KR := Lib.hid kr
    have KM := Lib.hid km
    have K6 := Lib.hid k6
    have HB := Lib.hid hb
    clear kr km k6 hb
    have hN := HN.out
    by_cases hlt : i < S.size
    · have hix : i < s.length := by omega
      have hby := HS.out i hlt hix
      obtain ⟨b, hbb⟩ : ∃ b, b = s[i].toNat := ⟨_, rfl⟩
      have hb256 : b < 256 := by rw [hbb]; exact s[i].toNat_lt
      have hiv : ((S[i]).toNat : Int) = (b : Int) := by rw [hby, ← hbb]
      have htk : bv (s.take (i + 1)) = bv (s.take i) * 256 + b := by
        rw [List.take_succ_eq_append_getElem hix, bv_snoc, hbb]
      have hpn := pend_next hlt
      have hp7 : pend S.size i ≤ 7 := by unfold pend; omega
      have hl8 : l * 256 < 18446744073709551616 := by
        have h1 : 256 ^ pend S.size i ≤ 256 ^ 7 := Nat.pow_le_pow_right (by decide) hp7
        have h2 : (256 : Nat) ^ 7 = 72057594037927936 := by decide
        omega
      obtain ⟨l2, hl2⟩ : ∃ z, z = l * 256 + b := ⟨_, rfl⟩
      have a2 := or_byte (x := l * 256) (b := b) (by omega) (by omega) hb256
      rw [← hl2, show ((l * 256 : Nat) : Int) = (l : Int) * 256 from by omega] at a2
      have hl2W : l2 < 18446744073709551616 := by omega
      have aw1 : IntKind.u64.wrap ((l : Int) * 256) = (l : Int) * 256 := by rw [IntKind.wrap_u64]; omega
      have aw2 : IntKind.u64.wrap (b : Int) = (b : Int) := by rw [IntKind.wrap_u64]; omega
      have hval : bv (s.take (i + 1)) % M = ((R * 256 ^ pend S.size i + l) * 256 + b) % M := by
        rw [htk, ← mod_step (bv (s.take i)), ← hv, mod_step]
      have HALL := Lib.hid (And.intro hval (And.intro hl2 (And.intro hl2W (And.intro hl (And.intro hR (And.intro hi (And.intro hlt (And.intro hpn hb256))))))))
      have hsm : S.size ≤ 140737488351232 := by omega
      by_cases hq : (S.size - 1 - i) % 8 = 0
      · have t1 : (((S.size : Int) - 1 - (i : Int)) % 8 == 0) = true := by simp; omega
        have HQ := Lib.hid (hpn.1 hq)
        have HC := Lib.hid (behind_any R l2 M HA.out.1 hR hl2W)
        obtain ⟨R2, hR2⟩ : ∃ z, z = (R * 18446744073709551616 + l2) % M := ⟨_, rfl⟩
        rw [← hR2] at HC
        have HR2 := Lib.hid hR2
        clear hR2 hq hpn hval hl2 hl2W hl hR hi hv hN hby hbb htk hp7 hl8 hix hb256
        simp only [nv, num] at HC
        obtain ⟨c0, c1, c2, c3⟩ := K6.out.cells
        obtain ⟨j0, j1, j2, j3⟩ := KM.out.cells
        go_wp2_with fail
        refine (keep w.heap.size w (HC.out _) HB.out (Nat.le_refl _)).mono ?_
        rintro e w2 ⟨rfl, hb, hk⟩
        have LR := Lib.hid (KR.out.below hk)
        have LM := Lib.hid (KM.out.below hk)
        have L6 := Lib.hid (K6.out.below hk)
        have HB3 := Lib.hid hb
        clear hk hb c0 c1 c2 c3 j0 j1 j2 j3 KR KM K6 HB HC
        obtain ⟨c0, c1, c2, c3⟩ := L6.out.cells
        obtain ⟨f0, f1, f2, f3⟩ := L6.out.fros
        go_wp2_with fail
        obtain ⟨hval, hl2, hl2W, hl, hR, hi, hlt, hpn, hb256⟩ := HALL.out
        go_roundw
        case rel =>
          refine ⟨i + 1, 0, R2, by omega, by go_num, rfl, Nat.pow_pos (by decide), by rw [HR2.out]; exact Nat.mod_lt _ (by have := HA.out.2.2; omega), ?_, Bk.puto HNE.out.1 LR.out, Bk.puto HNE.out.2.1 LM.out, Bk.put L6.out, by have hb := HB3.out; have h7 := HNE.out.2.2; go_grown⟩
          rw [hval, HQ.out.1, HQ.out.2, Nat.pow_zero, Nat.mul_one, Nat.add_zero, HR2.out, Nat.mod_mod, hl2]
          congr 1
          have : (256 : Nat) ^ 7 = 72057594037927936 := by decide
          rw [this]
          omega
        case measure => simp [intOf]; omega
      · have t1 : (((S.size : Int) - 1 - (i : Int)) % 8 == 0) = false := by simp; omega
        have HQ := Lib.hid (hpn.2 hq)
        clear hq hpn hval hl2 hl2W hl hR hi hv hN hby hbb htk hp7 hl8 hix hb256
        go_wp2_with fail
        obtain ⟨hval, hl2, hl2W, hl, hR, hi, hlt, hpn, hb256⟩ := HALL.out
        go_roundw
        case rel =>
          refine ⟨i + 1, l2, R, by omega, by go_num, rfl, ?_, hR, ?_, KR.out, KM.out, K6.out, HB.out⟩
          · rw [HQ.out.1, Nat.pow_succ, hl2]
            have h1 : (l + 1) * 256 ≤ 256 ^ pend S.size i * 256 := Nat.mul_le_mul_right _ hl
            omega
          · rw [hval, HQ.out.1, Nat.pow_succ, hl2]
            congr 1
            rw [Nat.add_mul, Nat.mul_assoc]
            omega
        case measure => simp [intOf]; omega
    · obtain rfl : i = S.size := by omega
      have hp : pend S.size S.size = 0 := by unfold pend; omega
      rw [hp, Nat.pow_zero] at hl hv
      obtain rfl : l = 0 := by omega
      rw [Nat.mul_one, Nat.add_zero, Nat.mod_eq_of_lt hR, List.take_of_length_le (by omega), ← HRES.out] at hv
      have HV := Lib.hid hv
      clear hp hl hR hv hN hlt hi
      obtain ⟨c0, c1, c2, c3⟩ := K6.out.cells
      obtain ⟨j0, j1, j2, j3⟩ := KR.out.cells
      obtain ⟨f0, f1, f2, f3⟩ := KR.out.fros
      go_wp2_with fail
      refine ret_cell rfl w.heap.size R rfl (Bk.put KR.out) rfl ⟨by rw [HV.out]; rfl, ?_⟩
      have hb := HB.out
      go_grown
end Go.Proofs.Ytglmmodkflkkkaa
