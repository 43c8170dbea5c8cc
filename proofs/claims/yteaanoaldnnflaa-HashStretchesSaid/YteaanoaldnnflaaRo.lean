/- The document's own roots. Condition: a number below 2^16, its square or cube root. -/
import Derived.Test.YteaanoaldnnflaaAb
import Derived.Test.YteaanoaldnnflaaS
set_option linter.unusedVariables false
set_option linter.unusedSimpArgs false
namespace Go.Proofs.Yteaanoaldnnflaa
open Go.RowKit Go.Sort

theorem root_lt (p n : Nat) : ∀ (k x : Nat), x % 2 ^ k = 0 → ∃ y, rootN p n k x = x + y ∧ y < 2 ^ k
  | 0, x, _ => ⟨0, by simp [rootN], by simp⟩
  | k + 1, x, hx => by
    have hx' : x % 2 ^ k = 0 := by
      have := Nat.mod_mod_of_dvd x (Nat.pow_dvd_pow 2 (Nat.le_succ k))
      rw [hx] at this
      simpa using this.symm
    unfold rootN
    split
    · obtain ⟨y, h1, h2⟩ := root_lt p n k x hx'
      exact ⟨y, h1, by rw [Nat.pow_succ]; omega⟩
    · obtain ⟨y, h1, h2⟩ := root_lt p n k (x + 2 ^ k) (by rw [Nat.add_mod, hx']; simp)
      exact ⟨2 ^ k + y, by rw [h1]; omega, by rw [Nat.pow_succ]; omega⟩
def dig3 (y : Nat) : List Nat := [y % 65536, y / 65536 % 65536, y / 4294967296]
theorem dig3_val (y : Nat) : val (dig3 y) = y := by simp [dig3, val]; omega
theorem dig3_dig (y : Nat) (h : y < 281474976710656) : Dig (dig3 y) := by
  intro x hx
  simp [dig3] at hx
  omega
/-- the first 32 bits behind the point -/
def rootW (p n : Nat) : UInt32 := UInt32.ofNat (rootN p n 41 0 % 4294967296)
/-- the loop's relation -/
def RoR (w : World) (p n R : Nat) (u i : Value) (wr : World) : Prop := ∃ (z : Int) (x : Nat), i = .int .i64 z ∧ u = .int .u64 x ∧ -1 ≤ z ∧ z ≤ 40 ∧ x + 2 ^ (z + 1).toNat ≤ 2199023255552 ∧ rootN p n (z + 1).toNat x = R ∧ Below w.heap.size w wr
/-- the powers' loop -/
def RoP (w : World) (gd y n : Nat) (u i : Value) (wr : World) : Prop := ∃ (j g : Nat) (out : List Nat), j ≤ n ∧ i = .int .i64 j ∧ u = .slice (some ⟨g, 0, none⟩) out.length out.length ∧ wr.heap[g]? = some (.cells (us out) 61 (0, 0)) ∧ Dig out ∧ out.length = 1 + 3 * j ∧ val out = y ^ j ∧
  wr.heap[gd]? = some (.cells (us (dig3 y)) 61 (0, 0)) ∧ Below w.heap.size w wr
theorem pow_le40 (m : Nat) (h : m ≤ 40) : 2 ^ m ≤ 1099511627776 := by
  have := Nat.pow_le_pow_right (show 1 ≤ 2 by omega) h
  exact this
set_option maxHeartbeats 4000000 in
set_option maxRecDepth 100000 in
theorem root_any (p n : Nat) (hp : p < 65536) (hn : n = 2 ∨ n = 3) (w : World) :
    Calls Try.prog 36 #[.int .u64 p, .int .i64 n] w fun e w' => e = .returned (.int .u32 ((rootW p n).toNat : Int)) ∧ Below w.heap.size w w' := by
  have HP := Lib.hid hp
  have HNN := Lib.hid hn
  have n1 : (n : Int) ≤ 3 := by omega
  obtain ⟨R, hR⟩ : ∃ R, R = rootN p n 41 0 := ⟨_, rfl⟩
  have HR := Lib.hid hR
  clear hp hn hR
  go_enter Try.func36, Try.ntmps36
  go_wp2_with fail
  go_loopw [5, 6] (fun u i wr => RoR w p n R u i wr) (fun _ i _ => (intOf i + 1).toNat)
  case atStart => exact ⟨40, 0, rfl, rfl, by omega, by omega, by decide, HR.out.symm, Below.refl _ _⟩
  case round =>
    obtain ⟨z, x, rfl, rfl, hz1, hz2, hx, hr, hb⟩ := hrel
    have HRR := Lib.hid hr
    have HB := Lib.hid hb
    have HXB := Lib.hid hx
    clear hr hb hx
    by_cases hz : 0 ≤ z
    · obtain ⟨m, rfl⟩ : ∃ m : Nat, z = m := ⟨z.toNat, by omega⟩
      have hm : m ≤ 40 := by omega
      have HXM : Hid (x + 2 ^ (m + 1) ≤ 2199023255552) := Lib.hid (by have := HXB.out; rwa [show ((m : Int) + 1).toNat = m + 1 from by omega] at this)
      have HRM : Hid (rootN p n (m + 1) x = R) := Lib.hid (by have := HRR.out; rwa [show ((m : Int) + 1).toNat = m + 1 from by omega] at this)
      obtain ⟨D, hD⟩ : ∃ D, D = 2 ^ m := ⟨_, rfl⟩
      have hD40 : D ≤ 1099511627776 := by rw [hD]; exact pow_le40 m hm
      have hxD : x + D + D ≤ 2199023255552 := by have := HXM.out; rw [Nat.pow_succ, ← hD] at this; omega
      have w1 : IntKind.u64.wrap ((2 : Int) ^ m) = (D : Int) := by
        rw [show ((2 : Int) ^ m) = ((2 ^ m : Nat) : Int) from by simp, ← hD]; exact IntWalk.u64_in _ (by omega)
      have HDM := Lib.hid hD
      clear hD
      obtain ⟨y, hy⟩ : ∃ y, y = x + D := ⟨_, rfl⟩
      have w2 : IntKind.u64.wrap ((x : Int) + (D : Int)) = (y : Int) := by rw [IntWalk.u64_in _ (by omega)]; omega
      have b1 := and16 y (by omega)
      have s1 : (y : Int) / 65536 = ((y / 65536 : Nat) : Int) := by simp
      have b2 := and16 (y / 65536) (by omega)
      have s2 : (y : Int) / 4294967296 = ((y / 4294967296 : Nat) : Int) := by simp
      have HV := Lib.hid (dig3_val y)
      have HDG := Lib.hid (dig3_dig y (by omega))
      have hd3 : us (dig3 y) = #[.int .u64 ((y % 65536 : Nat) : Int), .int .u64 ((y / 65536 % 65536 : Nat) : Int), .int .u64 ((y / 4294967296 : Nat) : Int)] := rfl
      have HD3 := Lib.hid hd3
      clear hd3
      have HLEN : Hid ((dig3 y).length = 3) := Lib.hid rfl
      generalize y % 65536 = y0 at b1 HD3
      generalize y / 65536 % 65536 = y1 at b2 HD3
      generalize y / 65536 = yq at s1 b2
      generalize y / 4294967296 = y2 at s2 HD3
      have HY := Lib.hid hy
      clear hy
      generalize hgd : dig3 y = dy at HV HDG HD3 HLEN
      have HDY := Lib.hid hgd
      clear hgd
      go_wp2_with fail
      rw [← HD3.out]
      have HGA : Hid (((wr.alloc (.cells (us dy) 61)).alloc (.cells #[.int .u64 1] 61)).heap[wr.heap.size]? = some (.cells (us dy) 61 (0, 0))) := Lib.hid (alloc2a wr _ _)
      have HGB : Hid (((wr.alloc (.cells (us dy) 61)).alloc (.cells #[.int .u64 1] 61)).heap[wr.heap.size + 1]? = some (.cells (us [1]) 61 (0, 0))) := Lib.hid (alloc2b wr _ _)
      have HBA : Hid (Below w.heap.size w ((wr.alloc (.cells (us dy) 61)).alloc (.cells #[.int .u64 1] 61))) := Lib.hid ((HB.out.alloc HB.out.size _).alloc (by have := HB.out.size; simp; omega) _)
      generalize (wr.alloc (.cells (us dy) 61)).alloc (.cells #[.int .u64 1] 61) = w3 at HGA HGB HBA ⊢
      generalize wr.heap.size = gd at HGA HGB ⊢
      go_loopw [9, 10] (fun u i wr => ∃ (j g : Nat) (out : List Nat), j ≤ n ∧ i = .int .i64 j ∧ u = .slice (some ⟨g, 0, none⟩) out.length out.length ∧ wr.heap[g]? = some (.cells (us out) 61 (0, 0)) ∧ Dig out ∧ out.length = 1 + 3 * j ∧ val out = y ^ j ∧
  wr.heap[gd]? = some (.cells (us dy) 61 (0, 0)) ∧ Below w.heap.size w wr) (fun _ i _ => n - (intOf i).toNat)
      case atStart => exact ⟨0, gd + 1, [1], by omega, rfl, rfl, HGB.out, by intro q hq; simp at hq; omega, rfl, by simp [val], HGA.out, HBA.out⟩
      case round =>
        obtain ⟨j, g, out, hj, rfl, rfl, hw, hdg, hlen, hval, hgd, hb⟩ := hrel
        have HW := Lib.hid hw
        have HDO := Lib.hid hdg
        have HLO := Lib.hid hlen
        have HVO := Lib.hid hval
        have HGD := Lib.hid hgd
        have HBB := Lib.hid hb
        have HJ := Lib.hid hj
        clear hw hdg hlen hval hgd hb HGA HGB HBA hj
        by_cases hjn : j < n
        · have HT : Hid (Calls Try.prog 48 #[.slice (some ⟨g, 0, none⟩) out.length out.length, .slice (some ⟨gd, 0, none⟩) 3 3] wr fun e w' =>
              (∃ g' o', e = .returned (.slice (some ⟨g', 0, none⟩) o'.length o'.length) ∧ w'.heap[g']? = some (.cells (us o') 61 (0, 0)) ∧ Dig o' ∧ o'.length = out.length + 3 ∧ val o' = val out * val dy) ∧ Below wr.heap.size wr w') := Lib.hid (by
            have := times_any g gd out dy HDO.out HDG.out (by have := HLO.out; omega) (by rw [HLEN.out]; omega) out.length 3 61 61 wr HW.out HGD.out
            rwa [HLEN.out] at this)
          go_wp2_with fail
          refine HT.out.mono ?_
          rintro e w6 ⟨⟨g', o', rfl, h1, h2, h3, h4⟩, b6⟩
          have HA1 := Lib.hid h1
          have HA2 := Lib.hid h2
          have HA3 : Hid (o'.length = 1 + 3 * (j + 1)) := Lib.hid (by rw [h3, HLO.out]; omega)
          have HA4 : Hid (val o' = y ^ (j + 1)) := Lib.hid (by rw [h4, HVO.out, HV.out, Nat.pow_succ])
          have HA5 : Hid (w6.heap[gd]? = some (.cells (us dy) 61 (0, 0))) := Lib.hid ((b6.block _ (blk_lt HGD.out)).trans HGD.out)
          have HA6 := Lib.hid (HBB.out.trans (b6.mono HBB.out.size))
          clear h1 h2 h3 h4 b6 HT
          go_wp2_with fail
          go_roundw
          case rel => exact ⟨j + 1, g', o', by omega, by go_num, rfl, HA1.out, HA2.out, HA3.out, HA4.out, HA5.out, HA6.out⟩
          case measure => simp [intOf]; omega
        · have hjn2 : j = n := by have := HJ.out; omega
          have HC := Lib.hid (above_any g out HDO.out (by have := HLO.out; have := HJ.out; omega) p n HP.out (by have := HLO.out; rw [this, hjn2]; omega) out.length 61 wr HW.out)
          rw [HVO.out, hjn2] at HC
          clear hjn2
          by_cases hab : p * 65536 ^ (2 * n) < y ^ n
          · rw [decide_eq_true hab] at HC
            have HN : Hid (rootN p n m x = R) := Lib.hid (by
              have := HRM.out
              unfold rootN at this
              rwa [← HDM.out, ← HY.out, if_pos hab] at this)
            clear hab
            go_wp2_with fail
            refine HC.out.mono ?_
            rintro e w6 ⟨rfl, rfl⟩
            go_wp2_with fail
            go_roundw
            case rel => exact ⟨(m : Int) - 1, x, rfl, rfl, by omega, by omega, by rw [show ((m : Int) - 1 + 1).toNat = m from by omega, ← HDM.out]; omega, by rw [show ((m : Int) - 1 + 1).toNat = m from by omega]; exact HN.out, HBB.out⟩
            case measure => (simp [intOf]; try omega)
          · rw [decide_eq_false hab] at HC
            have HN : Hid (rootN p n m y = R) := Lib.hid (by
              have := HRM.out
              unfold rootN at this
              rwa [← HDM.out, ← HY.out, if_neg hab] at this)
            clear hab
            go_wp2_with fail
            refine HC.out.mono ?_
            rintro e w6 ⟨rfl, rfl⟩
            go_wp2_with fail
            go_roundw
            case rel => exact ⟨(m : Int) - 1, y, rfl, rfl, by omega, by omega, by rw [show ((m : Int) - 1 + 1).toNat = m from by omega, ← HDM.out, HY.out]; omega, by rw [show ((m : Int) - 1 + 1).toNat = m from by omega]; exact HN.out, HBB.out⟩
            case measure => (simp [intOf]; try omega)
    · obtain rfl : z = -1 := by omega
      have HF : Hid (x = R) := Lib.hid HRR.out
      have hx41 : x < 18446744073709551616 := by have := HXB.out; simp at this; omega
      have hbb : bits .and .u64 (x : Int) 4294967295 = ((UInt32.ofNat (R % 4294967296)).toNat : Int) := by
        have := u64_and_nat x 4294967295 hx41 (by omega)
        rw [show ((4294967295 : Nat) : Int) = 4294967295 from rfl] at this
        rw [this, show (4294967295 : Nat) = 2 ^ 32 - 1 from rfl, Nat.and_two_pow_sub_one_eq_mod, HF.out, w_ofNat _ (Nat.mod_lt _ (by decide))]
      have hlt := (UInt32.ofNat (R % 4294967296)).toNat_lt
      clear HF
      generalize hrr : UInt32.ofNat (R % 4294967296) = r at hbb hlt
      have HR2 : Hid (rootW p n = r) := Lib.hid (by unfold rootW; rw [← HR.out]; exact hrr)
      clear hrr
      go_wp2_with fail
      go_ret
      exact ⟨by rw [HR2.out]; rfl, HB.out⟩
end Go.Proofs.Yteaanoaldnnflaa
