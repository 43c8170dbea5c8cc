/- Numbers of four limbs of 64 bits: sums, differences, what is left of one divided by a modulus whose highest bit is 1. No condition. Sums and differences of numbers of four limbs. No condition but that each limb is one. What is left of a number, divided by a modulus of 256 bits; blocks of memory through calls. No condition but the modulus's highest bit. Two numbers are compared. No condition. Point -/
import Derived.Test.YtpggkfdijmnmiaaGreatProg
import Derived.WalkKit
import Derived.WalkSpells
import Derived.WalkLawsBesides
import Derived.BigCall
import Derived.BigRegion
import Derived.Outline
import Derived.KernelRfl
import Derived.Lib.Walk
import Derived.Lib.QuietBelow
import Derived.BigQuiet
import Derived.Laws.Externs
import Derived.RegionTactic
import Derived.LoopN
import Derived.Lib.Hide
import Derived.Handy
import Derived.Shelf.Spec.BitsCarry
import Derived.Laws.Rows
import Derived.Laws.ResultCell
import Derived.ChangeKeysEq
import Derived.Deep.MidRow
import Derived.Test.YtpggkfdijmnmiaaGreatRows
import Derived.ProofKit
import Derived.OpenShut
import Derived.Deep.DeepHandedRow
import Derived.Deep.DeepWitnessRowRef
import Derived.PinnedBridge
import Derived.Below
import Derived.Lib.SmallJoins
import Derived.Laws.IdiomArrays
import Derived.Laws.BitsAllLaws
import Derived.Lib.SlBuf
import Derived.Deep.AppendLies
import Derived.Laws.Shifts
import Derived.Laws.IdiomStrings
import Derived.Laws.Tables
import Derived.Lib.BufferRead
import Derived.Laws.MakeOwn
set_option linter.unusedVariables false
set_option linter.unusedSimpArgs false
set_option maxRecDepth 100000
namespace Go.Proofs.YtpggkfdijmnmiaaGreat.Limbs
def v4 (a b c d : Nat) : Nat := a + 18446744073709551616 * (b + 18446744073709551616 * (c + 18446744073709551616 * d))
def W256 : Nat := 115792089237316195423570985008687907853269984665640564039457584007913129639936
theorem v4_lt {a b c d : Nat} (ha : a < 18446744073709551616) (hb : b < 18446744073709551616) (hc : c < 18446744073709551616) (hd : d < 18446744073709551616) : v4 a b c d < W256 := by
  unfold v4 W256; omega
def lb (x : Nat) : Nat → Nat
  | 0 => x % 18446744073709551616
  | 1 => x / 18446744073709551616 % 18446744073709551616
  | 2 => x / 340282366920938463463374607431768211456 % 18446744073709551616
  | _ => x / 6277101735386680763835789423207666416102355444464034512896 % 18446744073709551616
theorem lb_lt (x : Nat) (i : Nat) : lb x i < 18446744073709551616 := by
  unfold lb; split <;> exact Nat.mod_lt _ (by decide)
theorem v4_lb {x : Nat} (h : x < W256) : v4 (lb x 0) (lb x 1) (lb x 2) (lb x 3) = x := by
  unfold W256 at h
  simp only [v4, lb]
  omega
theorem lb_v4 {a b c d : Nat} (ha : a < 18446744073709551616) (hb : b < 18446744073709551616) (hc : c < 18446744073709551616) (hd : d < 18446744073709551616) :
    lb (v4 a b c d) 0 = a ∧ lb (v4 a b c d) 1 = b ∧ lb (v4 a b c d) 2 = c ∧ lb (v4 a b c d) 3 = d := by
  simp only [v4, lb]
  refine ⟨?_, ?_, ?_, ?_⟩ <;> omega
def quo (r3 r2 m3 : Nat) : Nat := if r3 = m3 then 18446744073709551615 else (r3 * 18446744073709551616 + r2) / m3
theorem quo_lt {r3 r2 m3 : Nat} (h : r3 ≤ m3) (h2 : r2 < 18446744073709551616) : quo r3 r2 m3 < 18446744073709551616 := by
  unfold quo
  split
  · omega
  · refine (Nat.div_lt_iff_lt_mul (by omega)).2 ?_
    have : (r3 + 1) * 18446744073709551616 ≤ m3 * 18446744073709551616 := Nat.mul_le_mul_right _ (by omega)
    omega
theorem up_top {r0 r1 r2 r3 l : Nat} (hr0 : r0 < 18446744073709551616) (hr1 : r1 < 18446744073709551616) (hl : l < 18446744073709551616) :
    v4 r0 r1 r2 r3 * 18446744073709551616 + l < (r3 * 18446744073709551616 + r2 + 1) * 6277101735386680763835789423207666416102355444464034512896 := by
  unfold v4; omega
theorem low_top (r0 r1 r2 r3 l : Nat) : (r3 * 18446744073709551616 + r2) * 6277101735386680763835789423207666416102355444464034512896 ≤ v4 r0 r1 r2 r3 * 18446744073709551616 + l := by
  unfold v4; omega
theorem q_top {q : Nat} (h : q < 18446744073709551616) : q * 6277101735386680763835789423207666416102355444464034512896 ≤ W256 := by
  unfold W256; omega
theorem quo_bounds {r0 r1 r2 r3 m0 m1 m2 m3 l : Nat} (hr0 : r0 < 18446744073709551616) (hr1 : r1 < 18446744073709551616) (hr2 : r2 < 18446744073709551616) (hr3 : r3 < 18446744073709551616)
    (hm0 : m0 < 18446744073709551616) (hm1 : m1 < 18446744073709551616) (hm2 : m2 < 18446744073709551616) (hm3 : m3 < 18446744073709551616) (hl : l < 18446744073709551616)
    (htop : 9223372036854775808 ≤ m3) (h : v4 r0 r1 r2 r3 < v4 m0 m1 m2 m3) :
    (v4 r0 r1 r2 r3 * 18446744073709551616 + l) / v4 m0 m1 m2 m3 ≤ quo r3 r2 m3 ∧ quo r3 r2 m3 ≤ (v4 r0 r1 r2 r3 * 18446744073709551616 + l) / v4 m0 m1 m2 m3 + 2 := by
  have hrm : r3 ≤ m3 := by unfold v4 at h; omega
  have hq := quo_lt (m3 := m3) hrm hr2
  have hMpos : 0 < v4 m0 m1 m2 m3 := Nat.lt_of_le_of_lt (Nat.zero_le _) h
  have hM2 : W256 ≤ 2 * v4 m0 m1 m2 m3 := by unfold v4 W256; omega
  have b1 : quo r3 r2 m3 * m3 ≤ r3 * 18446744073709551616 + r2 := by
    unfold quo
    split
    · subst_vars; omega
    · exact Nat.div_mul_le_self _ _
  have b2 : r3 = m3 ∨ r3 * 18446744073709551616 + r2 < (quo r3 r2 m3 + 1) * m3 := by
    unfold quo
    split
    · left; assumption
    · right
      have := Nat.lt_div_mul_add (a := r3 * 18446744073709551616 + r2) (b := m3) (by omega)
      rw [Nat.add_mul, Nat.one_mul]
      exact this
  have b3 : r3 = m3 → quo r3 r2 m3 = 18446744073709551615 := by
    intro e; unfold quo; rw [if_pos e]
  generalize quo r3 r2 m3 = q at *
  constructor
  · refine Nat.lt_succ_iff.1 ((Nat.div_lt_iff_lt_mul hMpos).2 ?_)
    have hs : q.succ = q + 1 := rfl
    rw [hs]
    rcases b2 with e | e
    · have e1 := b3 e
      have e2 : q + 1 = 18446744073709551616 := by omega
      rw [e2]
      have : (v4 r0 r1 r2 r3 + 1) * 18446744073709551616 ≤ v4 m0 m1 m2 m3 * 18446744073709551616 := Nat.mul_le_mul_right _ h
      omega
    · have e1 : (q + 1) * (m3 * 6277101735386680763835789423207666416102355444464034512896) ≤ (q + 1) * v4 m0 m1 m2 m3 := Nat.mul_le_mul_left _ (by unfold v4; omega)
      have e2 : (q + 1) * m3 * 6277101735386680763835789423207666416102355444464034512896 ≥ (r3 * 18446744073709551616 + r2 + 1) * 6277101735386680763835789423207666416102355444464034512896 := Nat.mul_le_mul_right _ e
      rw [Nat.mul_assoc] at e2
      exact Nat.lt_of_lt_of_le (up_top hr0 hr1 hl) (Nat.le_trans e2 e1)
  · rcases Nat.lt_or_ge q 2 with hq2 | hq2
    · exact Nat.le_trans (Nat.le_of_lt hq2) (Nat.le_add_left 2 _)
    · have : q - 2 ≤ (v4 r0 r1 r2 r3 * 18446744073709551616 + l) / v4 m0 m1 m2 m3 := by
        refine (Nat.le_div_iff_mul_le hMpos).2 ?_
        have e1 : q * v4 m0 m1 m2 m3 ≤ q * ((m3 + 1) * 6277101735386680763835789423207666416102355444464034512896) := Nat.mul_le_mul_left _ (by unfold v4; omega)
        have e2 : q * m3 * 6277101735386680763835789423207666416102355444464034512896 ≤ (r3 * 18446744073709551616 + r2) * 6277101735386680763835789423207666416102355444464034512896 := Nat.mul_le_mul_right _ b1
        have e3 : q * ((m3 + 1) * 6277101735386680763835789423207666416102355444464034512896) = q * m3 * 6277101735386680763835789423207666416102355444464034512896 + q * 6277101735386680763835789423207666416102355444464034512896 := by
          rw [Nat.add_mul, Nat.one_mul, Nat.mul_add, Nat.mul_assoc]
        have e4 : (q - 2) * v4 m0 m1 m2 m3 + 2 * v4 m0 m1 m2 m3 = q * v4 m0 m1 m2 m3 := by
          rw [← Nat.add_mul, Nat.sub_add_cancel hq2]
        have f1 : q * m3 * 6277101735386680763835789423207666416102355444464034512896 ≤ v4 r0 r1 r2 r3 * 18446744073709551616 + l := Nat.le_trans e2 (low_top _ _ _ _ _)
        have f2 : q * 6277101735386680763835789423207666416102355444464034512896 ≤ 2 * v4 m0 m1 m2 m3 := Nat.le_trans (q_top hq) hM2
        refine Nat.le_of_add_le_add_right (b := 2 * v4 m0 m1 m2 m3) ?_
        rw [e4]
        refine Nat.le_trans e1 ?_
        rw [e3]
        exact Nat.add_le_add f1 f2
      generalize (v4 r0 r1 r2 r3 * 18446744073709551616 + l) / v4 m0 m1 m2 m3 = Z at *
      omega
end Go.Proofs.YtpggkfdijmnmiaaGreat.Limbs
namespace Go.Proofs.YtpggkfdijmnmiaaGreat
open Go.RowKit Limbs
theorem add64 (x y c : Nat) (hc : c ≤ 1) (hx : x < 18446744073709551616) (hy : y < 18446744073709551616) : ∃ s c' : Nat, s < 18446744073709551616 ∧ c' ≤ 1 ∧ s + 18446744073709551616 * c' = x + y + c ∧
    ∀ w, (callFunc 163 #[.int .u64 (x : Int), .int .u64 (y : Int), .int .u64 (c : Int)]).run Tryz.prog w = .ok (.value (.tuple #[.int .u64 (s : Int), .int .u64 (c' : Int)])) w := by
  refine ⟨(x + y + c) % 18446744073709551616, (x + y + c) / 18446744073709551616, by omega, by omega, by omega, fun w => ?_⟩
  rw [run_callFunc_extern Tryz.func163 (by kernel_rfl) (by kernel_rfl) (by kernel_rfl) (e := add64Entry) (by kernel_rfl), run_add64 x y c (by omega) (by omega) (by omega) (by omega)]
  simp only [Result.andThen]
  congr 5 <;> omega
theorem sub64 (x y b : Nat) (hb : b ≤ 1) (hx : x < 18446744073709551616) (hy : y < 18446744073709551616) : ∃ d b' : Nat, d < 18446744073709551616 ∧ b' ≤ 1 ∧ d + y + b = x + 18446744073709551616 * b' ∧
    ∀ w, (callFunc 162 #[.int .u64 (x : Int), .int .u64 (y : Int), .int .u64 (b : Int)]).run Tryz.prog w = .ok (.value (.tuple #[.int .u64 (d : Int), .int .u64 (b' : Int)])) w := by
  refine ⟨(x + 18446744073709551616 - y - b) % 18446744073709551616, if x < y + b then 1 else 0, by omega, by split <;> omega, by split <;> omega, fun w => ?_⟩
  rw [run_callFunc_extern Tryz.func162 (by kernel_rfl) (by kernel_rfl) (by kernel_rfl) (e := sub64Entry) (by kernel_rfl), run_sub64 x y b hb]
  rfl
def num (a b c d : Nat) : Value := .agg #[.int .u64 (a : Int), .int .u64 (b : Int), .int .u64 (c : Int), .int .u64 (d : Int)]
set_option maxHeartbeats 4000000 in
theorem plus_any {a0 a1 a2 a3 b0 b1 b2 b3 : Nat} (ha0 : a0 < 18446744073709551616) (ha1 : a1 < 18446744073709551616) (ha2 : a2 < 18446744073709551616) (ha3 : a3 < 18446744073709551616)
    (hb0 : b0 < 18446744073709551616) (hb1 : b1 < 18446744073709551616) (hb2 : b2 < 18446744073709551616) (hb3 : b3 < 18446744073709551616) (w : World) :
    Calls Tryz.prog 133 #[num a0 a1 a2 a3, num b0 b1 b2 b3] w fun e w' => (∃ s0 s1 s2 s3 c : Nat, s0 < 18446744073709551616 ∧ s1 < 18446744073709551616 ∧ s2 < 18446744073709551616 ∧ s3 < 18446744073709551616 ∧ c ≤ 1 ∧ v4 s0 s1 s2 s3 + W256 * c = v4 a0 a1 a2 a3 + v4 b0 b1 b2 b3 ∧ e = .returned (.tuple #[num s0 s1 s2 s3, .int .u64 (c : Int)])) ∧ Below w.heap.size w w' := by
  obtain ⟨s0, c0, hs0, hc0, e0, k0⟩ := add64 a0 b0 0 (by omega) ha0 hb0
  obtain ⟨s1, c1, hs1, hc1, e1, k1⟩ := add64 a1 b1 c0 hc0 ha1 hb1
  obtain ⟨s2, c2, hs2, hc2, e2, k2⟩ := add64 a2 b2 c1 hc1 ha2 hb2
  obtain ⟨s3, c3, hs3, hc3, e3, k3⟩ := add64 a3 b3 c2 hc2 ha3 hb3
  rw [show ((0 : Nat) : Int) = 0 from rfl] at k0
  have HF : Hid (v4 s0 s1 s2 s3 + W256 * c3 = v4 a0 a1 a2 a3 + v4 b0 b1 b2 b3) := Lib.hid (by unfold v4 W256; omega)
  have HB := Lib.hid (And.intro hs0 (And.intro hs1 (And.intro hs2 (And.intro hs3 hc3))))
  clear hs0 hs1 hs2 hs3 hc0 hc1 hc2 hc3 e0 e1 e2 e3 ha0 ha1 ha2 ha3 hb0 hb1 hb2 hb3
  unfold num
  go_enter Tryz.func133, Tryz.ntmps133
  go_wp2_with fail
  refine wp_loop_rounds 5 ?_
  iterate 4 (rw [rounds_succ]; go_wp2_with fail; go_region; go_wp2_with fail)
  rw [rounds_succ]
  go_wp2_with fail
  go_returns
  refine ⟨⟨s0, s1, s2, s3, c3, HB.out.1, HB.out.2.1, HB.out.2.2.1, HB.out.2.2.2.1, HB.out.2.2.2.2, HF.out, rfl⟩, ?_⟩
  go_grown
set_option maxHeartbeats 4000000 in
theorem minus_any {a0 a1 a2 a3 b0 b1 b2 b3 : Nat} (ha0 : a0 < 18446744073709551616) (ha1 : a1 < 18446744073709551616) (ha2 : a2 < 18446744073709551616) (ha3 : a3 < 18446744073709551616)
    (hb0 : b0 < 18446744073709551616) (hb1 : b1 < 18446744073709551616) (hb2 : b2 < 18446744073709551616) (hb3 : b3 < 18446744073709551616) (w : World) :
    Calls Tryz.prog 131 #[num a0 a1 a2 a3, num b0 b1 b2 b3] w fun e w' => (∃ s0 s1 s2 s3 c : Nat, s0 < 18446744073709551616 ∧ s1 < 18446744073709551616 ∧ s2 < 18446744073709551616 ∧ s3 < 18446744073709551616 ∧ c ≤ 1 ∧ v4 s0 s1 s2 s3 + v4 b0 b1 b2 b3 = v4 a0 a1 a2 a3 + W256 * c ∧ e = .returned (.tuple #[num s0 s1 s2 s3, .int .u64 (c : Int)])) ∧ Below w.heap.size w w' := by
  obtain ⟨s0, c0, hs0, hc0, e0, k0⟩ := sub64 a0 b0 0 (by omega) ha0 hb0
  obtain ⟨s1, c1, hs1, hc1, e1, k1⟩ := sub64 a1 b1 c0 hc0 ha1 hb1
  obtain ⟨s2, c2, hs2, hc2, e2, k2⟩ := sub64 a2 b2 c1 hc1 ha2 hb2
  obtain ⟨s3, c3, hs3, hc3, e3, k3⟩ := sub64 a3 b3 c2 hc2 ha3 hb3
  rw [show ((0 : Nat) : Int) = 0 from rfl] at k0
  have HF : Hid (v4 s0 s1 s2 s3 + v4 b0 b1 b2 b3 = v4 a0 a1 a2 a3 + W256 * c3) := Lib.hid (by unfold v4 W256; omega)
  have HB := Lib.hid (And.intro hs0 (And.intro hs1 (And.intro hs2 (And.intro hs3 hc3))))
  clear hs0 hs1 hs2 hs3 hc0 hc1 hc2 hc3 e0 e1 e2 e3 ha0 ha1 ha2 ha3 hb0 hb1 hb2 hb3
  unfold num
  go_enter Tryz.func131, Tryz.ntmps131
  go_wp2_with fail
  refine wp_loop_rounds 5 ?_
  iterate 4 (rw [rounds_succ]; go_wp2_with fail; go_region; go_wp2_with fail)
  rw [rounds_succ]
  go_wp2_with fail
  go_returns
  refine ⟨⟨s0, s1, s2, s3, c3, HB.out.1, HB.out.2.1, HB.out.2.2.1, HB.out.2.2.2.1, HB.out.2.2.2.2, HF.out, rfl⟩, ?_⟩
  go_grown
def nv (x : Nat) : Value := num (lb x 0) (lb x 1) (lb x 2) (lb x 3)
theorem nv_v4 {a b c d : Nat} (ha : a < 18446744073709551616) (hb : b < 18446744073709551616) (hc : c < 18446744073709551616) (hd : d < 18446744073709551616) : num a b c d = nv (v4 a b c d) := by
  obtain ⟨e0, e1, e2, e3⟩ := lb_v4 ha hb hc hd
  unfold nv
  rw [e0, e1, e2, e3]
theorem plus_nv (a b : Nat) (ha : a < W256) (hb : b < W256) (w : World) :
    Calls Tryz.prog 133 #[nv a, nv b] w fun e w' => e = .returned (.tuple #[nv ((a + b) % W256), .int .u64 (((a + b) / W256 : Nat) : Int)]) ∧ Below w.heap.size w w' := by
  refine (plus_any (lb_lt a 0) (lb_lt a 1) (lb_lt a 2) (lb_lt a 3) (lb_lt b 0) (lb_lt b 1) (lb_lt b 2) (lb_lt b 3) w).mono ?_
  rintro e w' ⟨⟨s0, s1, s2, s3, c, h0, h1, h2, h3, hc, he, rfl⟩, hb'⟩
  refine ⟨?_, hb'⟩
  rw [v4_lb ha, v4_lb hb] at he
  have hl := v4_lt h0 h1 h2 h3
  rw [nv_v4 h0 h1 h2 h3]
  have e1 : (a + b) % W256 = v4 s0 s1 s2 s3 := by rw [← he, Nat.add_mul_mod_self_left, Nat.mod_eq_of_lt hl]
  have e2 : (a + b) / W256 = c := by rw [← he, Nat.add_mul_div_left _ _ (Nat.lt_of_le_of_lt (Nat.zero_le _) hl), Nat.div_eq_of_lt hl, Nat.zero_add]
  rw [e1, e2]
theorem minus_nv (a b : Nat) (ha : a < W256) (hb : b < W256) (w : World) :
    Calls Tryz.prog 131 #[nv a, nv b] w fun e w' => (∃ d c : Nat, d < W256 ∧ c ≤ 1 ∧ d + b = a + W256 * c ∧ e = .returned (.tuple #[nv d, .int .u64 (c : Int)])) ∧ Below w.heap.size w w' := by
  refine (minus_any (lb_lt a 0) (lb_lt a 1) (lb_lt a 2) (lb_lt a 3) (lb_lt b 0) (lb_lt b 1) (lb_lt b 2) (lb_lt b 3) w).mono ?_
  rintro e w' ⟨⟨s0, s1, s2, s3, c, h0, h1, h2, h3, hc, he, rfl⟩, hb'⟩
  rw [v4_lb ha, v4_lb hb] at he
  exact ⟨⟨v4 s0 s1 s2 s3, c, v4_lt h0 h1 h2 h3, hc, he, by rw [nv_v4 h0 h1 h2 h3]⟩, hb'⟩
def Bk (t : TypeId) (w : World) (g : Nat) (cs : Array Value) : Prop := w.heap[g]? = some (.cells cs t (0, 0))
theorem Bk.lt {t : TypeId} {w : World} {g : Nat} {cs : Array Value} (h : Bk t w g cs) : g < w.heap.size := (Array.getElem?_eq_some_iff.1 h).1
theorem Bk.new {t : TypeId} {w : World} {g : Nat} {cs : Array Value} (h : g = w.heap.size) : Bk t (w.alloc (.cells cs t)) g cs := by
  subst h; exact Go.heap_alloc_new w _
theorem Bk.alloc {t : TypeId} {w : World} {g : Nat} {cs : Array Value} {o : Obj} (h : Bk t w g cs) : Bk t (w.alloc o) g cs := (show (w.alloc o).heap[g]? = w.heap[g]? from by show (w.heap.push o)[g]? = _; rw [Array.getElem?_push, if_neg (Nat.ne_of_lt h.lt)]).trans h
theorem Bk.drew {t : TypeId} {w : World} {g : Nat} {cs : Array Value} (h : Bk t w g cs) : Bk t w.drew g cs := h
theorem Bk.same {t : TypeId} {w : World} {g i : Nat} {cs : Array Value} {v : Value} (h : Bk t w g cs) : Bk t (w.setCell ⟨g, i, none⟩ v) g (cs.setIfInBounds i v) := heap_setCell_same w g i cs t v h
theorem Bk.oth {t : TypeId} {w : World} {g : Nat} {a : Addr} {cs : Array Value} {v : Value} (hn : g ≠ a.block) (h : Bk t w g cs) : Bk t (w.setCell a v) g cs := (heap_setCell_other w a g v hn).trans h
theorem Bk.below {t : TypeId} {w w' : World} {g : Nat} {cs : Array Value} (h : Bk t w g cs) (hb : Below w.heap.size w w') : Bk t w' g cs := (hb.block _ h.lt).trans h
theorem Bk.cell {t : TypeId} {w : World} {g : Nat} {cs : Array Value} (h : Bk t w g cs) (i : Nat) : w.cell? ⟨g, i, none⟩ = cs[i]? := cell_of_row w g i cs t (0, 0) h
theorem Bk.fro {t : TypeId} {w : World} {g : Nat} {cs : Array Value} (h : Bk t w g cs) (i : Nat) : w.frozen? ⟨g, i, none⟩ = false := frozen_of_row w g i cs t h
theorem Bk.cells {t : TypeId} {w : World} {g : Nat} {a b c d : Value} (h : Bk t w g #[a, b, c, d]) : w.cell? ⟨g, 0, none⟩ = some a ∧ w.cell? ⟨g, 1, none⟩ = some b ∧ w.cell? ⟨g, 2, none⟩ = some c ∧ w.cell? ⟨g, 3, none⟩ = some d :=
  ⟨h.cell 0, h.cell 1, h.cell 2, h.cell 3⟩
theorem Bk.fros {t : TypeId} {w : World} {g : Nat} {cs : Array Value} (h : Bk t w g cs) : w.frozen? ⟨g, 0, none⟩ = false ∧ w.frozen? ⟨g, 1, none⟩ = false ∧ w.frozen? ⟨g, 2, none⟩ = false ∧ w.frozen? ⟨g, 3, none⟩ = false :=
  ⟨h.fro 0, h.fro 1, h.fro 2, h.fro 3⟩
theorem Bk.cellsA {t : TypeId} {w : World} {g : Nat} {a b c d : Value} (h : Bk t w g #[a, b, c, d]) : (∀ o, (w.alloc o).cell? ⟨g, 0, none⟩ = some a) ∧ (∀ o, (w.alloc o).cell? ⟨g, 1, none⟩ = some b) ∧ (∀ o, (w.alloc o).cell? ⟨g, 2, none⟩ = some c) ∧ (∀ o, (w.alloc o).cell? ⟨g, 3, none⟩ = some d) :=
  ⟨fun _ => h.alloc.cell 0, fun _ => h.alloc.cell 1, fun _ => h.alloc.cell 2, fun _ => h.alloc.cell 3⟩
theorem Bk.frosA {t : TypeId} {w : World} {g : Nat} {cs : Array Value} (h : Bk t w g cs) : (∀ o, (w.alloc o).frozen? ⟨g, 0, none⟩ = false) ∧ (∀ o, (w.alloc o).frozen? ⟨g, 1, none⟩ = false) ∧ (∀ o, (w.alloc o).frozen? ⟨g, 2, none⟩ = false) ∧ (∀ o, (w.alloc o).frozen? ⟨g, 3, none⟩ = false) :=
  ⟨fun _ => h.alloc.fro 0, fun _ => h.alloc.fro 1, fun _ => h.alloc.fro 2, fun _ => h.alloc.fro 3⟩
def cs4 (x : Nat) : Array Value := #[.int .u64 (lb x 0 : Nat), .int .u64 (lb x 1 : Nat), .int .u64 (lb x 2 : Nat), .int .u64 (lb x 3 : Nat)]
def cs0 : Array Value := #[.int .u64 0, .int .u64 0, .int .u64 0, .int .u64 0]
theorem keep {f : FuncId} {args : Array Value} {W : World} {R : Ending → Prop} (B : Nat) (w : World) (h : Calls Tryz.prog f args W fun e w' => R e ∧ Below W.heap.size W w') (hb : Below B w W) (hB : B ≤ w.heap.size) :
    Calls Tryz.prog f args W fun e w' => R e ∧ Below B w w' ∧ Below W.heap.size W w' :=
  h.mono fun _ _ h => ⟨h.1, hb.trans (h.2.mono (Nat.le_trans hB hb.size)), h.2⟩
theorem Bk.put {t : TypeId} {w : World} {g : Nat} {a b c d a' b' c' d' : Value} (h : Bk t w g #[a, b, c, d]) : Bk t ((((w.setCell ⟨g, 0, none⟩ a').setCell ⟨g, 1, none⟩ b').setCell ⟨g, 2, none⟩ c').setCell ⟨g, 3, none⟩ d') g #[a', b', c', d'] :=
  Bk.same (i := 3) (v := d') (Bk.same (i := 2) (v := c') (Bk.same (i := 1) (v := b') (Bk.same (i := 0) (v := a') h)))
theorem Bk.puto {t : TypeId} {w : World} {g h : Nat} {cs : Array Value} {a' b' c' d' : Value} (hn : g ≠ h) (k : Bk t w g cs) : Bk t ((((w.setCell ⟨h, 0, none⟩ a').setCell ⟨h, 1, none⟩ b').setCell ⟨h, 2, none⟩ c').setCell ⟨h, 3, none⟩ d') g cs :=
  Bk.oth hn (Bk.oth hn (Bk.oth hn (Bk.oth hn k)))
theorem u24 : Tryz.prog.underlying 24 = some (.array 4 22) := by kernel_rfl
theorem i24 : (Tryz.prog.info? 24).map (·.size) = some 4 := by kernel_rfl
theorem ret_cell {fn : Func} {R : Ending → World → Prop} {a : Act} {w : World} {p : Tmp} (h : fn.results = #[.cell p 24]) (g x : Nat) (hp : a.tmps.getD p undef = .pointer (some ⟨g, 0, none⟩)) (hk : Bk 24 w g (cs4 x)) (hd : a.defers = []) (hR : R (.returned (nv x)) w) : bodyPost Tryz.prog fn R .ret a w :=
  bodyPost_ret (v := nv x) (results_cell_row h a.tmps w g 24 (cs4 x) (0, 0) _ hp hk u24 rfl i24) hd hR
theorem ret_cell2 {fn : Func} {R : Ending → World → Prop} {a : Act} {w : World} {p u : Tmp} (h : fn.results = #[.cell p 24, .tmp u]) (g x : Nat) (y : Value) (hp : a.tmps.getD p undef = .pointer (some ⟨g, 0, none⟩)) (hy : a.tmps.getD u undef = y) (hk : Bk 24 w g (cs4 x)) (hd : a.defers = []) (hR : R (.returned (.tuple #[nv x, y])) w) : bodyPost Tryz.prog fn R .ret a w := by
  subst hy
  refine bodyPost_ret (v := .tuple #[nv x, a.tmps.getD u undef]) ?_ hd hR
  rw [results_cell_tmp h, hp]
  show ((loadVar 24 ⟨g, 0, none⟩).run Tryz.prog w).andThen _ = _
  rw [run_loadVar_row w g 24 24 (cs4 x) (0, 0) _ hk u24 rfl i24]
  rfl
set_option maxHeartbeats 4000000 in
theorem left_any (a M : Nat) (ha : a < W256) (hM : M < W256) (h2 : a < 2 * M) (w : World) :
    Calls Tryz.prog 132 #[nv a, nv M] w fun e w' => e = .returned (nv (a % M)) ∧ Below w.heap.size w w' := by
  have HM : Hid (∀ d c : Nat, d < W256 → d + M = a + W256 * c → (c = 0 → d = a % M) ∧ (c ≠ 0 → a = a % M)) := Lib.hid (by
    intro d c hd he
    constructor
    · intro h; subst h
      rw [show a = d + M from by omega, Nat.add_mod_right, Nat.mod_eq_of_lt (by omega)]
    · intro h
      have : W256 * 1 ≤ W256 * c := Nat.mul_le_mul_left _ (by omega)
      rw [Nat.mod_eq_of_lt (by omega)])
  simp only [nv, num]
  go_enter Tryz.func132, Tryz.ntmps132
  go_wp2_with fail
  refine (keep w.heap.size w (minus_nv a M ha hM _) (by go_grown) (Nat.le_refl _)).mono ?_
  rintro e w2 ⟨⟨d, c, hd, hc, he, rfl⟩, hb, hk⟩
  have K0 : Hid (Bk 24 w2 w.heap.size (cs4 a)) := Lib.hid (Bk.below (Bk.alloc (Bk.alloc (Bk.new rfl))) hk)
  have K1 : Hid (Bk 24 w2 (w.heap.size + 1 + 1) cs0) := Lib.hid (Bk.below (Bk.new (by simp)) hk)
  clear hk
  simp only [nv, num]
  have HE := Lib.hid (HM.out d c hd he)
  have HB := Lib.hid hb
  clear he hb HM
  obtain ⟨i0, i1, i2, i3⟩ := K0.out.cellsA
  obtain ⟨j0, j1, j2, j3⟩ := K1.out.cellsA
  obtain ⟨f0, f1, f2, f3⟩ := K1.out.frosA
  clear hc
  by_cases hc0 : c = 0
  · have HA : Hid (d = a % M) := Lib.hid (HE.out.1 hc0)
    subst hc0
    clear HE
    go_wp2_with fail
    refine ret_cell rfl (w.heap.size + 1 + 1) d rfl (Bk.put K1.out.alloc) rfl ⟨by rw [← HA.out]; rfl, ?_⟩
    have hb := HB.out
    have hs := hb.size
    go_grown
  · have HA : Hid (a = a % M) := Lib.hid (HE.out.2 hc0)
    have hc1 : (((c : Nat) : Int) != 0) = true := by simp; omega
    clear HE hc0
    go_wp2_with fail
    refine ret_cell rfl (w.heap.size + 1 + 1) a rfl (Bk.put K1.out.alloc) rfl ⟨by rw [← HA.out]; rfl, ?_⟩
    have hb := HB.out
    have hs := hb.size
    go_grown
theorem info22 : ∃ i, Tryz.prog.info? 22 = some i := Option.isSome_iff_exists.1 (by kernel_rfl)
theorem cells22 : Tryz.prog.cellsOf 22 = 1 := by kernel_rfl
theorem one22 (v : Int) (j : Nat) (xs : Array Value) (h : xs[j]? = some (.int .u64 v)) (w : World) : (part 22 xs j).run Tryz.prog w = .ok (.int .u64 v) w := by
  simp [part, go_sem, Tryz.underlying22, Tryz.isAgg22, Tryz.sizeOf22, h]
theorem eq24 (a0 a1 a2 a3 b0 b1 b2 b3 : Int) (w : World) : (Op.equalIn 10000 24 (.agg #[.int .u64 a0, .int .u64 a1, .int .u64 a2, .int .u64 a3]) (.agg #[.int .u64 b0, .int .u64 b1, .int .u64 b2, .int .u64 b3])).run Tryz.prog w = .ok (a0 == b0 && (a1 == b1 && (a2 == b2 && a3 == b3))) w := by
  obtain ⟨i, hi⟩ := info22
  rw [show (10000 : Nat) = 9999 + 1 from rfl, run_equalIn_array w 9999 _ _ u24 hi, cells22]
  have hr : List.range 4 = [0, 1, 2, 3] := rfl
  rw [hr]
  have e (a b : Int) (w : World) : (Op.equalIn 9999 22 (.int .u64 a) (.int .u64 b)).run Tryz.prog w = .ok (a == b) w := run_equalIn_int w 9998 22 .u64 .u64 a b Tryz.underlying22
  have pa0 := one22 a0 0 #[.int .u64 a0, .int .u64 a1, .int .u64 a2, .int .u64 a3] rfl
  have pa1 := one22 a1 1 #[.int .u64 a0, .int .u64 a1, .int .u64 a2, .int .u64 a3] rfl
  have pa2 := one22 a2 2 #[.int .u64 a0, .int .u64 a1, .int .u64 a2, .int .u64 a3] rfl
  have pa3 := one22 a3 3 #[.int .u64 a0, .int .u64 a1, .int .u64 a2, .int .u64 a3] rfl
  have pb0 := one22 b0 0 #[.int .u64 b0, .int .u64 b1, .int .u64 b2, .int .u64 b3] rfl
  have pb1 := one22 b1 1 #[.int .u64 b0, .int .u64 b1, .int .u64 b2, .int .u64 b3] rfl
  have pb2 := one22 b2 2 #[.int .u64 b0, .int .u64 b1, .int .u64 b2, .int .u64 b3] rfl
  have pb3 := one22 b3 3 #[.int .u64 b0, .int .u64 b1, .int .u64 b2, .int .u64 b3] rfl
  simp only [Op.eqItems, Sem.run_bind, Nat.mul_one, pa0, pa1, pa2, pa3, pb0, pb1, pb2, pb3, Result.andThen_ok, e]
  cases h0 : (a0 == b0) <;> cases h1 : (a1 == b1) <;> cases h2 : (a2 == b2) <;> cases h3 : (a3 == b3) <;> simp [pa1, pa2, pa3, pb1, pb2, pb3, e, h0, h1, h2, h3, Op.eqItems]
theorem eqN (x y : Nat) (hx : x < W256) (hy : y < W256) (w : World) : (Op.equalIn 10000 24 (.agg #[.int .u64 (lb x 0 : Nat), .int .u64 (lb x 1 : Nat), .int .u64 (lb x 2 : Nat), .int .u64 (lb x 3 : Nat)]) (.agg #[.int .u64 (lb y 0 : Nat), .int .u64 (lb y 1 : Nat), .int .u64 (lb y 2 : Nat), .int .u64 (lb y 3 : Nat)])).run Tryz.prog w = .ok (decide (x = y)) w := by
  rw [eq24]
  congr 1
  rw [Bool.eq_iff_iff]
  simp only [Bool.and_eq_true, beq_iff_eq, decide_eq_true_eq]
  constructor
  · rintro ⟨h0, h1, h2, h3⟩
    rw [← v4_lb hx, ← v4_lb hy, show lb x 0 = lb y 0 by omega, show lb x 1 = lb y 1 by omega, show lb x 2 = lb y 2 by omega, show lb x 3 = lb y 3 by omega]
  · rintro rfl; simp
def jn (x y z : Nat) : Value := .agg #[.int .u64 (lb x 0 : Nat), .int .u64 (lb x 1 : Nat), .int .u64 (lb x 2 : Nat), .int .u64 (lb x 3 : Nat), .int .u64 (lb y 0 : Nat), .int .u64 (lb y 1 : Nat), .int .u64 (lb y 2 : Nat), .int .u64 (lb y 3 : Nat), .int .u64 (lb z 0 : Nat), .int .u64 (lb z 1 : Nat), .int .u64 (lb z 2 : Nat), .int .u64 (lb z 3 : Nat)]
def pn (x y : Nat) (i : Bool) : Value := .agg #[.int .u64 (lb x 0 : Nat), .int .u64 (lb x 1 : Nat), .int .u64 (lb x 2 : Nat), .int .u64 (lb x 3 : Nat), .int .u64 (lb y 0 : Nat), .int .u64 (lb y 1 : Nat), .int .u64 (lb y 2 : Nat), .int .u64 (lb y 3 : Nat), .bool i]
theorem u93 : Tryz.prog.underlying 162 = some (.struct (Tryz.prog.fieldsOf 162)) := by kernel_rfl
theorem u51 : Tryz.prog.underlying 26 = some (.struct (Tryz.prog.fieldsOf 26)) := by kernel_rfl
theorem i93 : (Tryz.prog.info? 162).map (·.size) = some 12 := by kernel_rfl
theorem i51 : (Tryz.prog.info? 26).map (·.size) = some 9 := by kernel_rfl
theorem part24 (xs : Array Value) (o : Nat) (h : o + 4 ≤ xs.size) (w : World) : (part 24 xs o).run Tryz.prog w = .ok (.agg (xs.extract o (o + 4))) w := by
  simp [part, go_sem, Tryz.underlying24, Tryz.isAgg24, Tryz.sizeOf24, h]
theorem eq24' (d : Nat) (a0 a1 a2 a3 b0 b1 b2 b3 : Int) (w : World) : (Op.equalIn (d + 2) 24 (.agg #[.int .u64 a0, .int .u64 a1, .int .u64 a2, .int .u64 a3]) (.agg #[.int .u64 b0, .int .u64 b1, .int .u64 b2, .int .u64 b3])).run Tryz.prog w = .ok (a0 == b0 && (a1 == b1 && (a2 == b2 && a3 == b3))) w := by
  obtain ⟨i, hi⟩ := info22
  rw [run_equalIn_array w (d + 1) _ _ u24 hi, cells22]
  have hr : List.range 4 = [0, 1, 2, 3] := rfl
  rw [hr]
  have e (a b : Int) (w : World) : (Op.equalIn (d + 1) 22 (.int .u64 a) (.int .u64 b)).run Tryz.prog w = .ok (a == b) w := run_equalIn_int w d 22 .u64 .u64 a b Tryz.underlying22
  have pa0 := one22 a0 0 #[.int .u64 a0, .int .u64 a1, .int .u64 a2, .int .u64 a3] rfl
  have pa1 := one22 a1 1 #[.int .u64 a0, .int .u64 a1, .int .u64 a2, .int .u64 a3] rfl
  have pa2 := one22 a2 2 #[.int .u64 a0, .int .u64 a1, .int .u64 a2, .int .u64 a3] rfl
  have pa3 := one22 a3 3 #[.int .u64 a0, .int .u64 a1, .int .u64 a2, .int .u64 a3] rfl
  have pb0 := one22 b0 0 #[.int .u64 b0, .int .u64 b1, .int .u64 b2, .int .u64 b3] rfl
  have pb1 := one22 b1 1 #[.int .u64 b0, .int .u64 b1, .int .u64 b2, .int .u64 b3] rfl
  have pb2 := one22 b2 2 #[.int .u64 b0, .int .u64 b1, .int .u64 b2, .int .u64 b3] rfl
  have pb3 := one22 b3 3 #[.int .u64 b0, .int .u64 b1, .int .u64 b2, .int .u64 b3] rfl
  simp only [Op.eqItems, Sem.run_bind, Nat.mul_one, pa0, pa1, pa2, pa3, pb0, pb1, pb2, pb3, Result.andThen_ok, e]
  cases h0 : (a0 == b0) <;> cases h1 : (a1 == b1) <;> cases h2 : (a2 == b2) <;> cases h3 : (a3 == b3) <;> simp [pa1, pa2, pa3, pb1, pb2, pb3, e, h0, h1, h2, h3, Op.eqItems]
theorem eqN' (d : Nat) (x y : Nat) (hx : x < W256) (hy : y < W256) (w : World) : (Op.equalIn (d + 2) 24 (.agg #[.int .u64 (lb x 0 : Nat), .int .u64 (lb x 1 : Nat), .int .u64 (lb x 2 : Nat), .int .u64 (lb x 3 : Nat)]) (.agg #[.int .u64 (lb y 0 : Nat), .int .u64 (lb y 1 : Nat), .int .u64 (lb y 2 : Nat), .int .u64 (lb y 3 : Nat)])).run Tryz.prog w = .ok (decide (x = y)) w := by
  rw [eq24']
  congr 1
  rw [Bool.eq_iff_iff]
  simp only [Bool.and_eq_true, beq_iff_eq, decide_eq_true_eq]
  constructor
  · rintro ⟨h0, h1, h2, h3⟩
    rw [← v4_lb hx, ← v4_lb hy, show lb x 0 = lb y 0 by omega, show lb x 1 = lb y 1 by omega, show lb x 2 = lb y 2 by omega, show lb x 3 = lb y 3 by omega]
  · rintro rfl; simp
theorem eqJ (x y z x' y' z' : Nat) (hx : x < W256) (hy : y < W256) (hz : z < W256) (hx' : x' < W256) (hy' : y' < W256) (hz' : z' < W256) (w : World) : (Op.equalIn 10000 162 (jn x y z) (jn x' y' z')).run Tryz.prog w = .ok (decide (x = x' ∧ y = y' ∧ z = z')) w := by
  unfold jn
  rw [show (10000 : Nat) = 9999 + 1 from rfl, run_equalIn_struct w 9999 162 _ _ u93 (by kernel_rfl)]
  have h1 := eqN' 9997 x x' hx hx' w
  have h2 := eqN' 9997 y y' hy hy' w
  have h3 := eqN' 9997 z z' hz hz' w
  have a0 : (part 24 #[.int .u64 (lb x 0 : Nat), .int .u64 (lb x 1 : Nat), .int .u64 (lb x 2 : Nat), .int .u64 (lb x 3 : Nat), .int .u64 (lb y 0 : Nat), .int .u64 (lb y 1 : Nat), .int .u64 (lb y 2 : Nat), .int .u64 (lb y 3 : Nat), .int .u64 (lb z 0 : Nat), .int .u64 (lb z 1 : Nat), .int .u64 (lb z 2 : Nat), .int .u64 (lb z 3 : Nat)] 0).run Tryz.prog w = .ok (.agg #[.int .u64 (lb x 0 : Nat), .int .u64 (lb x 1 : Nat), .int .u64 (lb x 2 : Nat), .int .u64 (lb x 3 : Nat)]) w := part24 _ _ (by simp) w
  have a1 : (part 24 #[.int .u64 (lb x 0 : Nat), .int .u64 (lb x 1 : Nat), .int .u64 (lb x 2 : Nat), .int .u64 (lb x 3 : Nat), .int .u64 (lb y 0 : Nat), .int .u64 (lb y 1 : Nat), .int .u64 (lb y 2 : Nat), .int .u64 (lb y 3 : Nat), .int .u64 (lb z 0 : Nat), .int .u64 (lb z 1 : Nat), .int .u64 (lb z 2 : Nat), .int .u64 (lb z 3 : Nat)] 4).run Tryz.prog w = .ok (.agg #[.int .u64 (lb y 0 : Nat), .int .u64 (lb y 1 : Nat), .int .u64 (lb y 2 : Nat), .int .u64 (lb y 3 : Nat)]) w := part24 _ _ (by simp) w
  have a2 : (part 24 #[.int .u64 (lb x 0 : Nat), .int .u64 (lb x 1 : Nat), .int .u64 (lb x 2 : Nat), .int .u64 (lb x 3 : Nat), .int .u64 (lb y 0 : Nat), .int .u64 (lb y 1 : Nat), .int .u64 (lb y 2 : Nat), .int .u64 (lb y 3 : Nat), .int .u64 (lb z 0 : Nat), .int .u64 (lb z 1 : Nat), .int .u64 (lb z 2 : Nat), .int .u64 (lb z 3 : Nat)] 8).run Tryz.prog w = .ok (.agg #[.int .u64 (lb z 0 : Nat), .int .u64 (lb z 1 : Nat), .int .u64 (lb z 2 : Nat), .int .u64 (lb z 3 : Nat)]) w := part24 _ _ (by simp) w
  have b0 : (part 24 #[.int .u64 (lb x' 0 : Nat), .int .u64 (lb x' 1 : Nat), .int .u64 (lb x' 2 : Nat), .int .u64 (lb x' 3 : Nat), .int .u64 (lb y' 0 : Nat), .int .u64 (lb y' 1 : Nat), .int .u64 (lb y' 2 : Nat), .int .u64 (lb y' 3 : Nat), .int .u64 (lb z' 0 : Nat), .int .u64 (lb z' 1 : Nat), .int .u64 (lb z' 2 : Nat), .int .u64 (lb z' 3 : Nat)] 0).run Tryz.prog w = .ok (.agg #[.int .u64 (lb x' 0 : Nat), .int .u64 (lb x' 1 : Nat), .int .u64 (lb x' 2 : Nat), .int .u64 (lb x' 3 : Nat)]) w := part24 _ _ (by simp) w
  have b1 : (part 24 #[.int .u64 (lb x' 0 : Nat), .int .u64 (lb x' 1 : Nat), .int .u64 (lb x' 2 : Nat), .int .u64 (lb x' 3 : Nat), .int .u64 (lb y' 0 : Nat), .int .u64 (lb y' 1 : Nat), .int .u64 (lb y' 2 : Nat), .int .u64 (lb y' 3 : Nat), .int .u64 (lb z' 0 : Nat), .int .u64 (lb z' 1 : Nat), .int .u64 (lb z' 2 : Nat), .int .u64 (lb z' 3 : Nat)] 4).run Tryz.prog w = .ok (.agg #[.int .u64 (lb y' 0 : Nat), .int .u64 (lb y' 1 : Nat), .int .u64 (lb y' 2 : Nat), .int .u64 (lb y' 3 : Nat)]) w := part24 _ _ (by simp) w
  have b2 : (part 24 #[.int .u64 (lb x' 0 : Nat), .int .u64 (lb x' 1 : Nat), .int .u64 (lb x' 2 : Nat), .int .u64 (lb x' 3 : Nat), .int .u64 (lb y' 0 : Nat), .int .u64 (lb y' 1 : Nat), .int .u64 (lb y' 2 : Nat), .int .u64 (lb y' 3 : Nat), .int .u64 (lb z' 0 : Nat), .int .u64 (lb z' 1 : Nat), .int .u64 (lb z' 2 : Nat), .int .u64 (lb z' 3 : Nat)] 8).run Tryz.prog w = .ok (.agg #[.int .u64 (lb z' 0 : Nat), .int .u64 (lb z' 1 : Nat), .int .u64 (lb z' 2 : Nat), .int .u64 (lb z' 3 : Nat)]) w := part24 _ _ (by simp) w
  have f1 : ("x" ≠ "_") = True := by simp
  have f2 : ("y" ≠ "_") = True := by simp
  have f3 : ("z" ≠ "_") = True := by simp
  simp only [Program.fieldsOf, Tryz.underlying162, Op.eqFields, f1, f2, f3, if_true, Sem.run_bind, a0, b0, Result.andThen_ok, h1]
  rw [show decide (x = x' ∧ y = y' ∧ z = z') = (decide (x = x') && (decide (y = y') && decide (z = z'))) from by rw [Bool.decide_and, Bool.decide_and]]
  clear a0 b0 h1
  generalize decide (x = x') = c1
  generalize decide (y = y') = c2 at h2 ⊢
  generalize decide (z = z') = c3 at h3 ⊢
  cases c1 <;> cases c2 <;> cases c3 <;> simp only [Bool.and_true, Bool.and_false, Bool.true_and, Bool.false_and, a1, a2, b1, b2, h2, h3, decide_true, decide_false, Bool.not_true, Bool.not_false, Bool.false_eq_true, if_true, if_false, Sem.run_bind, Sem.run_pure, Result.andThen_ok, and_true, and_false, true_and, false_and]
theorem eqP (x y x' y' : Nat) (i i' : Bool) (hx : x < W256) (hy : y < W256) (hx' : x' < W256) (hy' : y' < W256) (w : World) : (Op.equalIn 10000 26 (pn x y i) (pn x' y' i')).run Tryz.prog w = .ok (decide (x = x' ∧ y = y' ∧ i = i')) w := by
  unfold pn
  rw [show (10000 : Nat) = 9999 + 1 from rfl, run_equalIn_struct w 9999 26 _ _ u51 (by kernel_rfl)]
  have h1 := eqN' 9997 x x' hx hx' w
  have h2 := eqN' 9997 y y' hy hy' w
  have h3 : (Op.equalIn 9999 4 (.bool i) (.bool i')).run Tryz.prog w = .ok (i == i') w := run_equalIn_bool' w 9998 4 i i' Tryz.underlying4
  have a0 : (part 24 #[.int .u64 (lb x 0 : Nat), .int .u64 (lb x 1 : Nat), .int .u64 (lb x 2 : Nat), .int .u64 (lb x 3 : Nat), .int .u64 (lb y 0 : Nat), .int .u64 (lb y 1 : Nat), .int .u64 (lb y 2 : Nat), .int .u64 (lb y 3 : Nat), .bool i] 0).run Tryz.prog w = .ok (.agg #[.int .u64 (lb x 0 : Nat), .int .u64 (lb x 1 : Nat), .int .u64 (lb x 2 : Nat), .int .u64 (lb x 3 : Nat)]) w := part24 _ _ (by simp) w
  have a1 : (part 24 #[.int .u64 (lb x 0 : Nat), .int .u64 (lb x 1 : Nat), .int .u64 (lb x 2 : Nat), .int .u64 (lb x 3 : Nat), .int .u64 (lb y 0 : Nat), .int .u64 (lb y 1 : Nat), .int .u64 (lb y 2 : Nat), .int .u64 (lb y 3 : Nat), .bool i] 4).run Tryz.prog w = .ok (.agg #[.int .u64 (lb y 0 : Nat), .int .u64 (lb y 1 : Nat), .int .u64 (lb y 2 : Nat), .int .u64 (lb y 3 : Nat)]) w := part24 _ _ (by simp) w
  have a2 : (part 4 #[.int .u64 (lb x 0 : Nat), .int .u64 (lb x 1 : Nat), .int .u64 (lb x 2 : Nat), .int .u64 (lb x 3 : Nat), .int .u64 (lb y 0 : Nat), .int .u64 (lb y 1 : Nat), .int .u64 (lb y 2 : Nat), .int .u64 (lb y 3 : Nat), .bool i] 8).run Tryz.prog w = .ok (.bool i) w := by
    have : #[.int .u64 (lb x 0 : Nat), .int .u64 (lb x 1 : Nat), .int .u64 (lb x 2 : Nat), .int .u64 (lb x 3 : Nat), .int .u64 (lb y 0 : Nat), .int .u64 (lb y 1 : Nat), .int .u64 (lb y 2 : Nat), .int .u64 (lb y 3 : Nat), .bool i][8]? = some (Value.bool i) := rfl
    simp [part, go_sem, Tryz.underlying4, Tryz.isAgg4, Tryz.sizeOf4]
  have b0 : (part 24 #[.int .u64 (lb x' 0 : Nat), .int .u64 (lb x' 1 : Nat), .int .u64 (lb x' 2 : Nat), .int .u64 (lb x' 3 : Nat), .int .u64 (lb y' 0 : Nat), .int .u64 (lb y' 1 : Nat), .int .u64 (lb y' 2 : Nat), .int .u64 (lb y' 3 : Nat), .bool i'] 0).run Tryz.prog w = .ok (.agg #[.int .u64 (lb x' 0 : Nat), .int .u64 (lb x' 1 : Nat), .int .u64 (lb x' 2 : Nat), .int .u64 (lb x' 3 : Nat)]) w := part24 _ _ (by simp) w
  have b1 : (part 24 #[.int .u64 (lb x' 0 : Nat), .int .u64 (lb x' 1 : Nat), .int .u64 (lb x' 2 : Nat), .int .u64 (lb x' 3 : Nat), .int .u64 (lb y' 0 : Nat), .int .u64 (lb y' 1 : Nat), .int .u64 (lb y' 2 : Nat), .int .u64 (lb y' 3 : Nat), .bool i'] 4).run Tryz.prog w = .ok (.agg #[.int .u64 (lb y' 0 : Nat), .int .u64 (lb y' 1 : Nat), .int .u64 (lb y' 2 : Nat), .int .u64 (lb y' 3 : Nat)]) w := part24 _ _ (by simp) w
  have b2 : (part 4 #[.int .u64 (lb x' 0 : Nat), .int .u64 (lb x' 1 : Nat), .int .u64 (lb x' 2 : Nat), .int .u64 (lb x' 3 : Nat), .int .u64 (lb y' 0 : Nat), .int .u64 (lb y' 1 : Nat), .int .u64 (lb y' 2 : Nat), .int .u64 (lb y' 3 : Nat), .bool i'] 8).run Tryz.prog w = .ok (.bool i') w := by
    have : #[.int .u64 (lb x' 0 : Nat), .int .u64 (lb x' 1 : Nat), .int .u64 (lb x' 2 : Nat), .int .u64 (lb x' 3 : Nat), .int .u64 (lb y' 0 : Nat), .int .u64 (lb y' 1 : Nat), .int .u64 (lb y' 2 : Nat), .int .u64 (lb y' 3 : Nat), .bool i'][8]? = some (Value.bool i') := rfl
    simp [part, go_sem, Tryz.underlying4, Tryz.isAgg4, Tryz.sizeOf4]
  have f1 : ("X" ≠ "_") = True := by simp
  have f2 : ("Y" ≠ "_") = True := by simp
  have f3 : ("Inf" ≠ "_") = True := by simp
  simp only [Program.fieldsOf, Tryz.underlying26, Op.eqFields, f1, f2, f3, if_true, Sem.run_bind, a0, b0, Result.andThen_ok, h1]
  rw [show decide (x = x' ∧ y = y' ∧ i = i') = (decide (x = x') && (decide (y = y') && (i == i'))) from by rw [Bool.decide_and, Bool.decide_and]; cases i <;> cases i' <;> rfl]
  clear a0 b0 h1
  generalize decide (x = x') = c1
  generalize decide (y = y') = c2 at h2 ⊢
  generalize (i == i') = c3 at h3 ⊢
  cases c1 <;> cases c2 <;> cases c3 <;> simp only [Bool.and_true, Bool.and_false, Bool.true_and, Bool.false_and, a1, a2, b1, b2, h2, h3, decide_true, decide_false, Bool.not_true, Bool.not_false, Bool.false_eq_true, if_true, if_false, Sem.run_bind, Sem.run_pure, Result.andThen_ok, and_true, and_false, true_and, false_and]
end Go.Proofs.YtpggkfdijmnmiaaGreat
namespace Go.Proofs.YtpggkfdijmnmiaaGreat
open Go.ChangeShapes Go.WideShapes Go.ChangeAt Go.RowKit Limbs
theorem own : ownKnob Tryz.prog.godebug = none := by kernel_rfl
section
variable {H : Type} {enc : TypeId × Value → H} {P : Program}
theorem post_below {f : Func} {s : ChangeSpec} {apart fresh handsOn again : Bool} {W W' : World} {args : Array Value} {v : Value} {ds gs : List (DataW H)} {before pa pv : List MemPlace}
    (hW : DataW.Whole enc P f.params.toList s.vars apart W args.toList ds gs before)
    (hres : ∀ (b : Nat) (sp : Nat → Bool) (hd : Bool), DataW.TrodAll enc P W' b sp hd f.resultTypes.toList (v.resultList f.resultTypes.size) (s.fn H (ds ++ gs)).results [])
    (hargs : ∀ sp : Nat → Bool, (∀ p ∈ before, sp p.block = true) → DataW.TrodAll enc P W' 0 sp true f.params.toList args.toList (s.fn H (ds ++ gs)).args pa)
    (hvars : ∀ sp : Nat → Bool, (∀ p ∈ before, sp p.block = true) → DataW.TrodVars enc P W' sp s.vars (s.fn H (ds ++ gs)).vars pv)
    (hps : before = pa ++ pv) (hb : Below W.heap.size W W')
    (hok : ∀ (j : Nat) (t : TypeId) (r : Value), f.resultTypes[j]? = some t → (v.resultList f.resultTypes.size)[j]? = some r → Value.okWide P W' .any 0 t r) :
    s.post enc P f apart fresh handsOn again W args v W' := by
  have hlt : ∀ p ∈ before, p.block < W.heap.size := fun p hp => hW.lt p hp
  have hold : ∀ p ∈ before, (fun b => decide (b < W.heap.size)) p.block = true := fun p hp => by simpa using hlt p hp
  refine ⟨ds, gs, before, [], pa, pv, hW, hres _ _ _, hargs _ hold, hvars _ hold, World.keptBut_mono (fun p hp => ⟨hp, ?_⟩) (hb.frame (· ∈ before)), fun _ => ?_⟩
  · rw [hps, List.mem_append] at hp
    exact Or.inr hp
  · obtain ⟨_, _, _, _, _, hz, hn⟩ := hW
    refine ⟨hok, _, _, ([] ++ pa) ++ pv, ⟨[] ++ pa, pv, trodAll_append (hargs _ (fun _ _ => rfl)) (hres _ _ _), hvars _ (fun _ _ => rfl), rfl, ?_, ?_⟩, ?_⟩
    · intro b off hp
      have hin : MemPlace.cell b off ∈ before := by rw [hps]; simpa using hp
      rw [hb.frozen (hlt _ hin)]
      exact hz b off hin
    · intro ha
      have := hn ha
      rw [hps] at this
      simpa using this
    · intro p hp _
      rw [hps]
      simpa using hp
end
section
open Go.Joins
variable {H : Type} {enc : TypeId × Value → H}
def nd (x : Nat) : DataW H := .agg [.lit (.int .u64 (lb x 0 : Nat)), .lit (.int .u64 (lb x 1 : Nat)), .lit (.int .u64 (lb x 2 : Nat)), .lit (.int .u64 (lb x 3 : Nat))]
theorem wf_u64 {n : Int} (h : (Lit.int .u64 n).wf = true) : 0 ≤ n ∧ n ≤ 18446744073709551615 := by
  simpa [Lit.wf, IntKind.min, IntKind.max, IntKind.signed, IntKind.bits] using h
theorem u64_wf {n : Nat} (h : n < 18446744073709551616) : (Lit.int .u64 (n : Int)).wf = true := by
  simp [Lit.wf, IntKind.min, IntKind.max, IntKind.signed, IntKind.bits]; omega
theorem open_num {W : World} {r : Reach} {b0 base : Nat} {spare : Nat → Bool} {held : Bool} {v : Value} {d : DataW H} {p : List MemPlace} (hv : Value.okWide Tryz.prog W r b0 24 v) (h : DataW.Trod enc Tryz.prog W base spare held 24 v d p) :
    ∃ x : Nat, x < W256 ∧ v = nv x ∧ d = nd x ∧ p = [] := by
  obtain ⟨cs, rfl, hsz, _⟩ : ∃ cs, v = .agg cs ∧ cs.size = Tryz.prog.cellsOf 24 ∧ Row.okWide Tryz.prog W r b0 24 cs := by
    simpa [Value.okWide, Tryz.underlying24] using hv
  rw [show Tryz.prog.cellsOf 24 = 4 by kernel_rfl] at hsz
  obtain ⟨c0, c1, c2, c3, rfl⟩ := array4 hsz
  obtain ⟨fuel, hf⟩ := h
  obtain ⟨y0, y1, y2, y3, m, hx, hy0, hy1, hy2, hy3⟩ := trod_array4 Tryz.underlying24 (show Tryz.prog.cellsOf 22 = 1 by kernel_rfl) hf
  obtain ⟨x0, e0, rfl, w0⟩ := DataW.trod_int Tryz.underlying22 hy0
  obtain ⟨x1, e1, rfl, w1⟩ := DataW.trod_int Tryz.underlying22 hy1
  obtain ⟨x2, e2, rfl, w2⟩ := DataW.trod_int Tryz.underlying22 hy2
  obtain ⟨x3, e3, rfl, w3⟩ := DataW.trod_int Tryz.underlying22 hy3
  simp at e0 e1 e2 e3
  subst e0 e1 e2 e3
  simp only [Prod.mk.injEq] at hx
  obtain ⟨rfl, rfl⟩ := hx
  have b0 := wf_u64 w0
  have b1 := wf_u64 w1
  have b2 := wf_u64 w2
  have b3 := wf_u64 w3
  obtain ⟨n0, rfl⟩ := Int.eq_ofNat_of_zero_le b0.1
  obtain ⟨n1, rfl⟩ := Int.eq_ofNat_of_zero_le b1.1
  obtain ⟨n2, rfl⟩ := Int.eq_ofNat_of_zero_le b2.1
  obtain ⟨n3, rfl⟩ := Int.eq_ofNat_of_zero_le b3.1
  have h0 : n0 < 18446744073709551616 := by omega
  have h1 : n1 < 18446744073709551616 := by omega
  have h2 : n2 < 18446744073709551616 := by omega
  have h3 : n3 < 18446744073709551616 := by omega
  obtain ⟨l0, l1, l2, l3⟩ := lb_v4 h0 h1 h2 h3
  refine ⟨v4 n0 n1 n2 n3, v4_lt h0 h1 h2 h3, ?_, ?_, rfl⟩
  · exact nv_v4 h0 h1 h2 h3
  · unfold nd; rw [l0, l1, l2, l3]
theorem shut_num {W : World} {base : Nat} {spare : Nat → Bool} {held : Bool} (x : Nat) :
    DataW.Trod enc Tryz.prog W base spare held 24 (nv x) (nd x) [] := by
  have c22 : Tryz.prog.cellsOf 22 = 1 := by kernel_rfl
  have c24 : Tryz.prog.cellsOf 24 = 4 := by kernel_rfl
  have r4 : List.range 4 = [0, 1, 2, 3] := rfl
  exact ⟨2, by simp [DataW.trod, nv, num, nd, Value.cells, Tryz.underlying24, Tryz.underlying22, c22, c24, r4, u64_wf (lb_lt x 0), u64_wf (lb_lt x 1), u64_wf (lb_lt x 2), u64_wf (lb_lt x 3)]⟩
end
end Go.Proofs.YtpggkfdijmnmiaaGreat
namespace Go.Proofs.YtpggkfdijmnmiaaGreat.Digits
def val : List Nat → Nat
  | [] => 0
  | x :: l => x + 65536 * val l
def Dig (l : List Nat) : Prop := ∀ x ∈ l, x < 65536
theorem val_append : ∀ l m : List Nat, val (l ++ m) = val l + 65536 ^ l.length * val m
  | [], m => by simp [val]
  | x :: l, m => by
    rw [List.cons_append, val, val, val_append l m, List.length_cons, Nat.pow_succ, Nat.mul_add, ← Nat.mul_assoc, Nat.mul_comm 65536 (65536 ^ l.length)]
    omega
theorem val_snoc (l : List Nat) (x : Nat) : val (l ++ [x]) = val l + 65536 ^ l.length * x := by
  rw [val_append]; simp [val]
theorem val_lt : ∀ l : List Nat, Dig l → val l < 65536 ^ l.length
  | [], _ => by simp [val]
  | x :: l, h => by
    have h1 := h x (by simp)
    have h2 := val_lt l fun y hy => h y (by simp [hy])
    rw [val, List.length_cons, Nat.pow_succ]
    omega
theorem dig_take {l : List Nat} (h : Dig l) (n : Nat) : Dig (l.take n) := fun x hx => h x (List.mem_of_mem_take hx)
theorem dig_snoc {l : List Nat} {x : Nat} (h : Dig l) (hx : x < 65536) : Dig (l ++ [x]) := by
  intro y hy
  rcases List.mem_append.1 hy with hy | hy
  · exact h y hy
  · simp at hy; omega
def top (l : List Nat) : Nat → Nat
  | 0 => 0
  | n + 1 => if l.getD n 0 = 0 then top l n else n + 1
theorem top_le (l : List Nat) : ∀ n, top l n ≤ n
  | 0 => Nat.le_refl _
  | n + 1 => by
    rw [top]
    split
    · exact Nat.le_trans (top_le l n) (Nat.le_succ n)
    · exact Nat.le_refl _
theorem top_val (l : List Nat) : ∀ n, n ≤ l.length → val (l.take (top l n)) = val (l.take n)
  | 0, _ => rfl
  | n + 1, h => by
    rw [top]
    split
    · rename_i h0
      rw [top_val l n (by omega), List.take_succ_eq_append_getElem (by omega), val_snoc]
      have : l[n]'(by omega) = 0 := by simpa [List.getD, show n < l.length by omega] using h0
      rw [this]; simp
    · rfl
theorem top_last (l : List Nat) : ∀ n, 0 < top l n → l.getD (top l n - 1) 0 ≠ 0
  | 0, h => by simp [top] at h
  | n + 1, h => by
    rw [top] at h ⊢
    split
    · rename_i h0
      rw [if_pos h0] at h
      exact top_last l n h
    · rename_i h0
      simpa using h0
def trimL (l : List Nat) : List Nat := l.take (top l l.length)
theorem trim_val (l : List Nat) : val (trimL l) = val l := by
  unfold trimL
  rw [top_val l _ (Nat.le_refl _), List.take_length]
theorem trim_dig {l : List Nat} (h : Dig l) : Dig (trimL l) := dig_take h _
def Trim (l : List Nat) : Prop := l = [] ∨ l.getD (l.length - 1) 0 ≠ 0
theorem trim_trim (l : List Nat) : Trim (trimL l) := by
  have hle := top_le l l.length
  have hlen : (trimL l).length = top l l.length := by unfold trimL; rw [List.length_take]; omega
  rcases Nat.eq_zero_or_pos (top l l.length) with h | h
  · left
    unfold trimL; rw [h]; rfl
  · right
    have := top_last l l.length h
    rw [hlen]
    unfold trimL
    have hi : top l l.length - 1 < l.length := by omega
    simpa [List.getD, List.getElem?_take, show top l l.length - 1 < top l l.length by omega] using this
theorem val_ge {l : List Nat} (h : Trim l) (hl : l ≠ []) : 65536 ^ (l.length - 1) ≤ val l := by
  rcases h with h | h
  · exact absurd h hl
  · have hp : 0 < l.length := List.length_pos_iff.2 hl
    have e : l = l.take (l.length - 1) ++ [l[l.length - 1]'(by omega)] := by
      rw [← List.take_succ_eq_append_getElem (by omega), show l.length - 1 + 1 = l.length from by omega, List.take_length]
    have h1 : l[l.length - 1]'(by omega) ≠ 0 := by
      simpa [List.getD, show l.length - 1 < l.length by omega] using h
    have h2 : val l = val (l.take (l.length - 1)) + 65536 ^ (l.length - 1) * l[l.length - 1]'(by omega) := by
      have := val_snoc (l.take (l.length - 1)) (l[l.length - 1]'(by omega))
      rw [← e, List.length_take, Nat.min_eq_left (by omega)] at this
      exact this
    rw [h2]
    have h3 : 65536 ^ (l.length - 1) * 1 ≤ 65536 ^ (l.length - 1) * l[l.length - 1]'(by omega) := Nat.mul_le_mul_left _ (by omega)
    omega
theorem lt_of_len {a b : List Nat} (ha : Dig a) (hb : Trim b) (h : a.length < b.length) : val a < val b := by
  have h1 := val_lt a ha
  have h2 := val_ge hb (by intro e; rw [e] at h; simp at h)
  have h3 : 65536 ^ a.length ≤ 65536 ^ (b.length - 1) := Nat.pow_le_pow_right (by decide) (by omega)
  omega
theorem lt_of_digit {a b : List Nat} (ha : Dig a) (hb : Dig b) (hl : a.length = b.length) (i : Nat) (hi : i < a.length) (hs : ∀ k, i < k → k < a.length → a.getD k 0 = b.getD k 0) (hd : a.getD i 0 < b.getD i 0) : val a < val b := by
  have ea : a = a.take i ++ a[i] :: a.drop (i + 1) := by rw [← List.drop_eq_getElem_cons hi, List.take_append_drop]
  have eb : b = b.take i ++ b[i]'(by omega) :: b.drop (i + 1) := by rw [← List.drop_eq_getElem_cons (by omega), List.take_append_drop]
  have hdr : a.drop (i + 1) = b.drop (i + 1) := by
    apply List.ext_getElem
    · simp [hl]
    · intro k h1 h2
      have h3 : i + 1 + k < a.length := by rw [List.length_drop] at h1; omega
      have := hs (i + 1 + k) (by omega) h3
      rw [List.getElem_drop, List.getElem_drop]
      simpa [List.getD, h3, show i + 1 + k < b.length by omega] using this
  have va : val a = val (a.take i) + 65536 ^ i * (a[i] + 65536 * val (a.drop (i + 1))) := by
    conv => lhs; rw [ea]
    rw [val_append, val, List.length_take, Nat.min_eq_left (by omega)]
  have vb : val b = val (b.take i) + 65536 ^ i * (b[i]'(by omega) + 65536 * val (b.drop (i + 1))) := by
    conv => lhs; rw [eb]
    rw [val_append, val, List.length_take, Nat.min_eq_left (by omega)]
  have hd' : a[i] + 1 ≤ b[i]'(by omega) := by
    have : a[i] < b[i]'(by omega) := by simpa [List.getD, hi, show i < b.length by omega] using hd
    omega
  have h1 := val_lt (a.take i) (dig_take ha i)
  rw [List.length_take, Nat.min_eq_left (by omega)] at h1
  rw [va, vb, hdr]
  have h2 : 65536 ^ i * (a[i] + 1 + 65536 * val (b.drop (i + 1))) ≤ 65536 ^ i * (b[i]'(by omega) + 65536 * val (b.drop (i + 1))) := Nat.mul_le_mul_left _ (by omega)
  have h3 : 65536 ^ i * (a[i] + 1 + 65536 * val (b.drop (i + 1))) = 65536 ^ i + 65536 ^ i * (a[i] + 65536 * val (b.drop (i + 1))) := by
    rw [show a[i] + 1 + 65536 * val (b.drop (i + 1)) = 1 + (a[i] + 65536 * val (b.drop (i + 1))) from by omega, Nat.mul_add, Nat.mul_one]
  omega
end Go.Proofs.YtpggkfdijmnmiaaGreat.Digits
namespace Go.Proofs.YtpggkfdijmnmiaaGreat.Ref
open Go.RowKit Go.Proofs.YtpggkfdijmnmiaaGreat.Digits
def Sm (w w' : World) : Prop := w'.os = w.os ∧ w'.tape = w.tape ∧ w'.output = w.output ∧ w'.heap = w.heap
theorem Sm.refl (w : World) : Sm w w := ⟨rfl, rfl, rfl, rfl⟩
theorem Sm.drew (w : World) : Sm w w.drew := ⟨rfl, rfl, rfl, rfl⟩
theorem Sm.drewN (w : World) (n : Nat) : Sm w (w.drewN n) := ⟨rfl, rfl, rfl, rfl⟩
theorem Sm.trans {a b c : World} (h : Sm a b) (k : Sm b c) : Sm a c := ⟨k.1.trans h.1, k.2.1.trans h.2.1, k.2.2.1.trans h.2.2.1, k.2.2.2.trans h.2.2.2⟩
theorem Sm.cell {w w' : World} (h : Sm w w') {p : Addr} {v : Value} (hc : w.cell? p = some v) : w'.cell? p = some v := by
  rw [World.cell?_of_block (w := w) (by rw [h.2.2.2])]; exact hc
theorem Sm.below {B : Nat} {a w w' : World} (h : Sm w w') (hb : Below B a w) : Below B a w' :=
  ⟨h.1.trans hb.os, h.2.1.trans hb.tape, h.2.2.1.trans hb.output, by rw [h.2.2.2]; exact hb.size, fun k hk => by rw [h.2.2.2]; exact hb.block k hk⟩
theorem mixed : Tryz.prog.follows .mixedOrders = true := by kernel_rfl
def Dr (w : World) (v : Value) (l : List Nat) : Prop := ∃ g cap, v = .slice (some ⟨g, 0, none⟩) l.length cap ∧ l.length ≤ cap ∧ cap ≤ 9223372036854775807 ∧ g < w.heap.size ∧ ∀ i (hi : i < l.length), w.cell? ⟨g, i, none⟩ = some (.int .u32 ((l[i] : Nat) : Int))
theorem Dr.below {w w' : World} {v : Value} {l : List Nat} (h : Dr w v l) (hb : Below w.heap.size w w') : Dr w' v l := by
  obtain ⟨g, cap, hv, hc, hm, hg, hl⟩ := h
  exact ⟨g, cap, hv, hc, hm, Nat.lt_of_lt_of_le hg hb.size, fun i hi => (hb.cell (p := ⟨g, i, none⟩) hg).trans (hl i hi)⟩
theorem Dr.sm {w w' : World} {v : Value} {l : List Nat} (h : Dr w v l) (s : Sm w w') : Dr w' v l := by
  obtain ⟨g, cap, hv, hc, hm, hg, hl⟩ := h
  exact ⟨g, cap, hv, hc, hm, by rw [s.2.2.2]; exact hg, fun i hi => s.cell (hl i hi)⟩
set_option maxHeartbeats 2000000 in
theorem trim_any (l : List Nat) (v : Value) (w : World) (h : Dr w v l) :
    Calls Tryz.prog 95 #[v] w fun e w' => (∃ v', e = .returned v' ∧ Dr w v' (trimL l)) ∧ w = w' := by
  obtain ⟨g, cap, rfl, hc, hm, hg, hl⟩ := h
  have HC := Lib.hid hl
  have HG := Lib.hid hg
  have HTL : Hid (∀ n, n = top l l.length → Dr w (.slice (some ⟨g, 0, none⟩) n cap) (trimL l)) := Lib.hid (fun n hn => by
    have hle := top_le l l.length
    have hlen : (trimL l).length = n := by rw [hn]; unfold trimL; rw [List.length_take]; omega
    refine ⟨g, cap, by rw [hlen], by omega, hm, hg, fun i hi => ?_⟩
    have hi' : i < l.length := by omega
    have e : (trimL l)[i] = l[i] := List.getElem_take
    rw [e]; exact hl i hi')
  clear hl hg
  go_enter Tryz.func95, Tryz.ntmps95
  go_wp2_with fail
  go_loop [3] (fun i => ∃ n : Nat, n ≤ l.length ∧ i = .int .i64 n ∧ top l n = top l l.length) (fun i => (intOf i).toNat)
  case atStart => exact ⟨l.length, Nat.le_refl _, rfl, rfl⟩
  case round =>
    obtain ⟨n, hn, rfl, ht⟩ := hrel
    have HT := Lib.hid ht
    clear ht
    by_cases h0 : n = 0
    · subst h0
      have hcc : (0 : Int) ≤ cap := by omega
      go_wp2_with fail
      go_ret
      exact ⟨⟨_, rfl, HTL.out 0 HT.out⟩, rfl⟩
    · obtain ⟨k, rfl⟩ : ∃ k, n = k + 1 := ⟨n - 1, by omega⟩
      have hk : k < l.length := by omega
      have ic := HC.out k hk
      have t1 : (((k + 1 : Nat) : Int) - 1).toNat = k := by omega
      have e1 : ((k + 1 : Nat) : Int) - 1 = (k : Int) := by omega
      have hgd : l.getD k 0 = l[k] := by simp [List.getD, hk]
      by_cases hz : l[k] = 0
      · have HT2 : Hid (top l k = top l l.length) := Lib.hid (by
          have := HT.out
          rw [top, hgd, if_pos hz] at this
          exact this)
        rw [hz] at ic
        go_wp2_with fail
        go_round
        case rel => exact ⟨k, by omega, by go_num, HT2.out⟩
        case measure => simp [intOf]
      · have hz2 : (((l[k] : Nat) : Int) == 0) = false := by simp; omega
        have HT2 : Hid (k + 1 = top l l.length) := Lib.hid (by
          have := HT.out
          rw [top, hgd, if_neg hz] at this
          exact this)
        have hcc : ((k + 1 : Nat) : Int) ≤ cap := by omega
        generalize l[k] = d at ic hz2
        go_wp2_with fail
        go_ret
        exact ⟨⟨_, rfl, HTL.out (k + 1) HT2.out⟩, rfl⟩
def cmpN (a b : Nat) : Int := if a < b then -1 else if b < a then 1 else 0
theorem cmpN_lt {a b : Nat} (h : a < b) : cmpN a b = -1 := by rw [cmpN, if_pos h]
theorem cmpN_gt {a b : Nat} (h : b < a) : cmpN a b = 1 := by rw [cmpN, if_neg (by omega), if_pos h]
theorem cmpN_eq {a b : Nat} (h : a = b) : cmpN a b = 0 := by rw [cmpN, if_neg (by omega), if_neg (by omega)]
set_option maxHeartbeats 4000000 in
theorem cmp_any (l m : List Nat) (hl : Dig l) (hm : Dig m) (v u : Value) (w : World) (h : Dr w v l) (k : Dr w u m) :
    Calls Tryz.prog 69 #[v, u] w fun e w' => e = .returned (.int .i64 (cmpN (val l) (val m))) ∧ Sm w w' := by
  have T1 := Lib.hid (trim_any l v w h)
  have T2 := Lib.hid (trim_any m u w k)
  have ha := trim_dig hl
  have hb := trim_dig hm
  have ta := trim_trim l
  have tb := trim_trim m
  rw [← trim_val l, ← trim_val m]
  have HA := Lib.hid ha
  have HB := Lib.hid hb
  have HTA := Lib.hid ta
  have HTB := Lib.hid tb
  generalize trimL l = a at *
  generalize trimL m = b at *
  clear ha hb ta tb hl hm h k
  go_enter Tryz.func69, Tryz.ntmps69
  go_wp2_with fail
  refine T1.out.mono ?_
  rintro e w1 ⟨⟨v1, rfl, h1⟩, rfl⟩
  obtain ⟨g, cap, rfl, hc, hcm, hg, hca⟩ := h1
  have HCA := Lib.hid hca
  go_wp2_with fail
  refine T2.out.mono ?_
  rintro e w2 ⟨⟨v2, rfl, h2⟩, rfl⟩
  obtain ⟨g2, cap2, rfl, hc2, hcm2, hg2, hcb⟩ := h2
  have HCB := Lib.hid hcb
  clear hca hcb T1 T2
  by_cases hlen : a.length = b.length
  · have HEQ := Lib.hid hlen
    have hlen2 : ((a.length : Int) != (b.length : Int)) = false := by simp; omega
    obtain ⟨n, hn⟩ : ∃ n, n = a.length := ⟨_, rfl⟩
    rw [← hlen, ← hn] at hlen2
    rw [← hlen] at hc2
    rw [← hlen, ← hn]
    rw [← hn] at hc hc2
    have HN := Lib.hid hn
    clear hlen hn
    go_wp2_with fail
    go_loopw [5] (fun i wr => ∃ j : Nat, j ≤ n ∧ i = .int .i64 ((j : Int) - 1) ∧ (∀ k, j ≤ k → k < n → a.getD k 0 = b.getD k 0) ∧ Sm w wr) (fun i _ => (intOf i + 1).toNat)
    case atStart => exact ⟨n, Nat.le_refl _, rfl, fun k h1 h2 => by omega, Sm.refl _⟩
    case round =>
      obtain ⟨j, hj, rfl, hs, hsm⟩ := hrel
      have HS := Lib.hid hs
      have HM := Lib.hid hsm
      clear hs hsm
      by_cases h0 : j = 0
      · subst h0
        have HV : Hid (val a = val b) := Lib.hid (by
          have : a = b := List.ext_getElem HEQ.out (fun k h1 h2 => by
            have := HS.out k (by omega) (by rw [HN.out]; exact h1)
            simpa [List.getD, h1, h2] using this)
          rw [this])
        go_wp2_with fail
        go_ret
        exact ⟨by rw [cmpN_eq HV.out]; rfl, HM.out⟩
      · obtain ⟨k, rfl⟩ : ∃ k, j = k + 1 := ⟨j - 1, by omega⟩
        have hka : k < a.length := by have := HN.out; omega
        have hkb : k < b.length := by have := HEQ.out; omega
        have ia := HM.out.cell (HCA.out k hka)
        have ib := HM.out.cell (HCB.out k hkb)
        have t1 : (((k + 1 : Nat) : Int) - 1).toNat = k := by omega
        have e1 : ((k + 1 : Nat) : Int) - 1 = (k : Int) := by omega
        have ga : a.getD k 0 = a[k] := by simp [List.getD, hka]
        have gb : b.getD k 0 = b[k] := by simp [List.getD, hkb]
        have HSS : Hid (∀ q, k < q → q < a.length → a.getD q 0 = b.getD q 0) := Lib.hid (fun q h1 h2 => HS.out q (by omega) (by rw [HN.out]; exact h2))
        have HLT : Hid (a[k] < b[k] → val a < val b) := Lib.hid (fun h => lt_of_digit HA.out HB.out HEQ.out k hka HSS.out (by rw [ga, gb]; exact h))
        have HGT : Hid (b[k] < a[k] → val b < val a) := Lib.hid (fun h => lt_of_digit HB.out HA.out HEQ.out.symm k hkb (fun q h1 h2 => (HSS.out q h1 (by rw [HEQ.out]; exact h2)).symm) (by rw [ga, gb]; exact h))
        have HNX : Hid (a[k] = b[k] → ∀ q, k ≤ q → q < n → a.getD q 0 = b.getD q 0) := Lib.hid (fun h q h1 h2 => by
          by_cases e : q = k
          · subst e; rw [ga, gb, h]
          · exact HS.out q (by omega) h2)
        have hkn : (k : Int) < n := by omega
        clear ga gb HSS HS
        generalize a[k] = x at ia HLT HGT HNX
        generalize b[k] = y at ib HLT HGT HNX
        rw [e1]
        go_wp2_with fail
        refine wp_region_quiet_lit (by kernel_rfl) (by kernel_rfl) ?_
        iterate 9 go_big_quiet_step (fail)
        refine wpQuiet_nil ?_
        intro _ hw'
        obtain ⟨nq, hw''⟩ := hw'
        subst hw''
        have HM2 := Lib.hid (HM.out.trans (Sm.drewN wr nq))
        by_cases hxy : x < y
        · have hlt : ((x : Int) < (y : Int)) := by omega
          go_wp2_with fail
          go_ret
          exact ⟨by rw [cmpN_lt (HLT.out hxy)]; rfl, HM2.out⟩
        · have hnlt : ¬ ((x : Int) < (y : Int)) := by omega
          have ia2 : (wr.drewN nq).cell? ⟨g, k, none⟩ = some (.int .u32 (x : Int)) := ia
          have ib2 : (wr.drewN nq).cell? ⟨g2, k, none⟩ = some (.int .u32 (y : Int)) := ib
          clear ia ib HM
          generalize wr.drewN nq = ws at HM2 ia2 ib2 ⊢
          go_wp2_with fail
          refine wp_region_quiet_lit (by kernel_rfl) (by kernel_rfl) ?_
          iterate 9 go_big_quiet_step (fail)
          refine wpQuiet_nil ?_
          intro _ hw'
          obtain ⟨nq2, hw''⟩ := hw'
          subst hw''
          have HM3 := Lib.hid (HM2.out.trans (Sm.drewN ws nq2))
          by_cases hyx : y < x
          · have hlt : ((y : Int) < (x : Int)) := by omega
            go_wp2_with fail
            go_ret
            exact ⟨by rw [cmpN_gt (HGT.out hyx)]; rfl, HM3.out⟩
          · have hnlt2 : ¬ ((y : Int) < (x : Int)) := by omega
            have hxe : x = y := by omega
            have HX2 := Lib.hid (HNX.out hxe)
            clear HNX hxe
            go_wp2_with fail
            go_roundw
            case rel => exact ⟨k, by omega, by go_num, HX2.out, HM3.out⟩
            case measure => simp [intOf]
  · have hlen2 : ((a.length : Int) != (b.length : Int)) = true := by simp; omega
    by_cases hlt : a.length < b.length
    · have h1 : ((a.length : Int) < (b.length : Int)) := by omega
      have HV := Lib.hid (lt_of_len HA.out HTB.out hlt)
      clear hlen hlt
      go_wp2_with fail
      go_ret
      exact ⟨by rw [cmpN_lt HV.out]; rfl, Sm.refl _⟩
    · have h1 : ¬ ((a.length : Int) < (b.length : Int)) := by omega
      have HV := Lib.hid (lt_of_len HB.out HTA.out (by omega))
      clear hlen hlt
      go_wp2_with fail
      go_ret
      exact ⟨by rw [cmpN_gt HV.out]; rfl, Sm.refl _⟩
theorem at0 (g j : Nat) : (⟨g, 0, none⟩ : Addr).add j = ⟨g, j, none⟩ := by unfold Addr.add; split <;> simp_all
def cd (l : List Nat) : List Value := l.map fun x => Value.int .u32 ((x : Nat) : Int)
def Rd (B : Nat) (v : Value) (l : List Nat) (w : World) : Prop := w.ownsRow B 111 1 v l.length (cd l)
theorem Rd.snoc {B : Nat} {v : Value} {l : List Nat} {w : World} {x : Nat} (h : w.ownsRow B 111 1 v (l.length + 1) (cd l ++ [.int .u32 ((x : Nat) : Int)])) : Rd B v (l ++ [x]) w := by
  have e : cd (l ++ [x]) = cd l ++ [.int .u32 ((x : Nat) : Int)] := by simp [cd]
  unfold Rd
  rw [e]
  simpa using h
theorem Rd.below {B : Nat} {v : Value} {l : List Nat} {w w' : World} (h : Rd B v l w) (hb : Below w.heap.size w w') : Rd B v l w' := by
  refine ⟨h.1, ?_⟩
  rcases h.2 with hn | ⟨g, cap, cur, hv, hg, hh, rest⟩
  · exact .inl hn
  · exact .inr ⟨g, cap, cur, hv, hg, (hb.block _ (Array.getElem?_eq_some_iff.1 hh).1).trans hh, rest⟩
theorem Rd.nil (w : World) : Rd w.heap.size (.slice (some ⟨w.heap.size, 0, none⟩) 0 0) [] (w.alloc (.cells #[] 111)) :=
  ⟨rfl, .inr ⟨w.heap.size, 0, #[], rfl, Nat.le_refl _, Go.heap_alloc_new w _, Nat.le_refl _, Nat.zero_le _, rfl, rfl⟩⟩
theorem Rd.dr {B : Nat} {v : Value} {l : List Nat} {w : World} (h : Rd B v l w) (hl : l ≠ []) (hm : l.length ≤ 10000000000001) : Dr w v l := by
  have H := h
  rcases h.2 with ⟨rfl, h0⟩ | ⟨g, cap, cur, rfl, hg, hh, h1, h2, h3, _⟩
  · exact absurd (List.eq_nil_of_length_eq_zero h0) hl
  · refine ⟨g, cap, rfl, h1, by unfold maxLen at h2; omega, (Array.getElem?_eq_some_iff.1 hh).1, fun i hi => ?_⟩
    have := World.ownsRow.cells H (g := g) rfl i (.int .u32 ((l[i] : Nat) : Int)) (by simp [cd, hi])
    rwa [at0] at this
theorem info75 : (Tryz.prog.info? 111).map (fun i => (i.zero, i.size, i.bytes)) = some (some (.int .u32 0), 1, 4) := by kernel_rfl
theorem app_d {ops : Array Oper} {rest : List Oper} {o : Oper} {a : Act} {Q : Exit → Act → World → Prop} {w W : World} {v : Value} {l : List Nat} (z : Int) (n : Nat) (hz : z = (n : Int)) (s x : Operand) (hgd : o.guard = none)
    (ho : o.op = .call { callee := .builtin .append, args := #[s, x], argTypes := #[70, 70] }) (hs : a.eval s = v) (hx : a.eval x = .slice (some ⟨w.heap.size, 0, none⟩) 1 1)
    (hI : Rd W.heap.size v l w) (hb : Below W.heap.size W w) (hlen : l.length ≤ 10000000000000)
    (h : ∀ v' w', Rd W.heap.size v' (l ++ [n]) w' → Below W.heap.size W w' → wpList Tryz.prog ops Q rest (a.put o.dst v') w') : wpList Tryz.prog ops Q (o :: rest) a (w.alloc (.cells #[.int .u32 z] 111)) := by
  subst hz
  obtain ⟨i0, hi, hz0, hz1, hz2⟩ := info_parts info75
  have hI' := hI.below (Below.alloc (Below.refl _ _) (Nat.le_refl _) (.cells #[.int .u32 (n : Int)] 111))
  have hsz := hb.size
  refine wpList_append_own _ hgd s x 70 ho W.heap.size 111 i0 (.int .u32 0) 1 4 Tryz.underlying70 hi hz0 hz1 hz2 rfl (by decide) v l.length _ hs hI' ⟨w.heap.size, 0, none⟩ 1 1 [.int .u32 (n : Int)] hx rfl (World.news_of_block (Go.heap_alloc_new w _)) (by simp [Value.oneCell']) (by unfold maxLen; omega) (by omega) (by simp; omega) ?_
  intro v' w' h1 h2 _
  exact h v' w' (Rd.snoc h1) ((hb.alloc (by omega) _).grown h2 (by simp; omega) (fun g hk => (World.ownsRow.lt hI' g hk).1))
theorem and16 (n : Nat) (h : n < 4294967296) : bits .and .u32 (n : Int) 65535 = ((n % 65536 : Nat) : Int) := by
  have := u32_and_nat n 65535 h (by decide)
  rw [show ((65535 : Nat) : Int) = 65535 from rfl, show (65535 : Nat) = 2 ^ 16 - 1 from rfl, Nat.and_two_pow_sub_one_eq_mod] at this
  exact this
structure Nr (w w' : World) (v : Value) (n : Nat) : Prop where
  row : ∃ r, Dr w' v r ∧ Dig r ∧ Trim r ∧ val r = n
  below : Below w.heap.size w w'
theorem take_val {a : List Nat} {i : Nat} (h : i < a.length) : val (a.take (i + 1)) = val (a.take i) + 65536 ^ i * a[i] := by
  rw [List.take_succ_eq_append_getElem h, val_snoc, List.length_take, Nat.min_eq_left (by omega)]
set_option maxHeartbeats 4000000 in
theorem add_any (a b : List Nat) (ha : Dig a) (hb : Dig b) (hla : a.length ≤ 1000000000000) (hlb : b.length ≤ 1000000000000) (v u : Value) (w : World) (h : Dr w v a) (k : Dr w u b) :
    Calls Tryz.prog 155 #[v, u] w fun e w' => ∃ v', e = .returned v' ∧ Nr w w' v' (val a + val b) := by
  obtain ⟨g, cap, rfl, hc, hcm, hg, hca⟩ := h
  obtain ⟨g2, cap2, rfl, hc2, hcm2, hg2, hcb⟩ := k
  have HCA := Lib.hid hca
  have HCB := Lib.hid hcb
  have HA := Lib.hid ha
  have HB := Lib.hid hb
  have HG := Lib.hid (And.intro hg hg2)
  have HR0 := Lib.hid (Rd.nil w)
  have HB0 := Lib.hid ((Below.refl w.heap.size w).alloc (Nat.le_refl _) (.cells #[] 111))
  clear hca hcb ha hb hg hg2 hc hcm hc2 hcm2
  obtain ⟨na, hna⟩ : ∃ na, na = a.length := ⟨_, rfl⟩
  obtain ⟨nb, hnb⟩ : ∃ nb, nb = b.length := ⟨_, rfl⟩
  rw [← hna] at hla ⊢
  rw [← hnb] at hlb ⊢
  have HNA := Lib.hid hna
  have HNB := Lib.hid hnb
  clear hna hnb
  go_enter Tryz.func155, Tryz.ntmps155
  go_wp2_with fail
  go_loopw [5, 6, 7] (fun o c i wr => ∃ (j cc : Nat) (out : List Nat), j ≤ max na nb ∧ i = .int .i64 j ∧ c = .int .u32 cc ∧ cc ≤ 1 ∧ out.length = j ∧ Dig out ∧ val out + 65536 ^ j * cc = val (a.take j) + val (b.take j) ∧ Rd w.heap.size o out wr ∧ Below w.heap.size w wr) (fun _ _ i _ => max na nb - (intOf i).toNat)
  case atStart => exact ⟨0, 0, [], by omega, rfl, rfl, by omega, rfl, fun x hx => by simp at hx, by simp [val], HR0.out, HB0.out⟩
  case round =>
    obtain ⟨j, cc, out, hj, rfl, rfl, hcc, hol, hd, hv, hr, hb⟩ := hrel
    have HR := Lib.hid hr
    have HW := Lib.hid hb
    have HD := Lib.hid hd
    have HV := Lib.hid hv
    have HOL := Lib.hid hol
    clear hr hb hd hv hol HR0 HB0
    by_cases hlt : j < max na nb
    · have hex : ∃ x y : Nat, x < 65536 ∧ y < 65536 ∧ (j < na → wr.cell? ⟨g, j, none⟩ = some (.int .u32 (x : Int))) ∧ (¬ j < na → x = 0) ∧ (j < nb → wr.cell? ⟨g2, j, none⟩ = some (.int .u32 (y : Int))) ∧ (¬ j < nb → y = 0) ∧ val (a.take (j + 1)) = val (a.take j) + 65536 ^ j * x ∧ val (b.take (j + 1)) = val (b.take j) + 65536 ^ j * y := by
        have one : ∀ (l : List Nat) (g n : Nat), n = l.length → Dig l → g < w.heap.size → (∀ i (hi : i < l.length), w.cell? ⟨g, i, none⟩ = some (.int .u32 ((l[i] : Nat) : Int))) → ∃ x : Nat, x < 65536 ∧ (j < n → wr.cell? ⟨g, j, none⟩ = some (.int .u32 (x : Int))) ∧ (¬ j < n → x = 0) ∧ val (l.take (j + 1)) = val (l.take j) + 65536 ^ j * x := by
          intro l g n hn hd hg hc
          by_cases hjl : j < l.length
          · exact ⟨l[j], hd _ (List.getElem_mem hjl), fun _ => (HW.out.cell (p := ⟨g, j, none⟩) hg).trans (hc j hjl), fun h => by omega, take_val hjl⟩
          · refine ⟨0, by omega, fun h => by omega, fun _ => rfl, ?_⟩
            rw [List.take_of_length_le (by omega), List.take_of_length_le (by omega)]; simp
        obtain ⟨x, x1, x2, x3, x4⟩ := one a g na HNA.out HA.out HG.out.1 HCA.out
        obtain ⟨y, y1, y2, y3, y4⟩ := one b g2 nb HNB.out HB.out HG.out.2 HCB.out
        exact ⟨x, y, x1, y1, x2, x3, y2, y3, x4, y4⟩
      obtain ⟨x, y, hx, hy, ix, zx, iy, zy, tx, ty⟩ := hex
      have HTX := Lib.hid tx
      have HTY := Lib.hid ty
      clear tx ty
      obtain ⟨S, hS⟩ : ∃ S, S = cc + x + y := ⟨_, rfl⟩
      have HS : Hid (val (out ++ [S % 65536]) + 65536 ^ (j + 1) * (S / 65536) = val (a.take (j + 1)) + val (b.take (j + 1))) := Lib.hid (by
        rw [val_snoc, HOL.out, HTX.out, HTY.out, Nat.pow_succ, Nat.mul_assoc, Nat.add_assoc, ← Nat.mul_add, Nat.mod_add_div, hS]
        have := HV.out
        rw [Nat.mul_add, Nat.mul_add]
        omega)
      have HD2 : Hid (Dig (out ++ [S % 65536])) := Lib.hid (dig_snoc HD.out (Nat.mod_lt _ (by decide)))
      have hs16 := and16 S (by omega)
      have hs2 : S / 65536 ≤ 1 := by omega
      have hsd : (S : Int) / 65536 = ((S / 65536 : Nat) : Int) := by omega
      have hse : (S : Int) % 65536 = ((S % 65536 : Nat) : Int) := by omega
      have hsb : S < 200000 := by omega
      generalize S % 65536 = D at HS HD2 hs16 hse
      generalize S / 65536 = C at HS hs2 hsd
      clear HTX HTY HV HD
      by_cases h1 : j < na
      · have ix' := ix h1
        clear ix zx
        by_cases h2 : j < nb
        · have iy' := iy h2
          clear iy zy
          have hsx : ((cc : Int) + x + y) = (S : Int) := by omega
          clear hS
          go_wp2_with (at_builtin; refine app_d _ D rfl (.tmp 41) (.tmp 44) rfl rfl rfl rfl HR.out HW.out (by rw [HOL.out]; omega) ?_; intro v1 w1 hr hb; have HR2 := Lib.hid hr; have HW2 := Lib.hid hb; clear hr hb)
          go_roundw
          case rel => exact ⟨j + 1, C, out ++ [D], by omega, by go_num, rfl, hs2, by rw [List.length_append, HOL.out]; rfl, HD2.out, HS.out, HR2.out, HW2.out⟩
          case measure => simp [intOf]; omega
        · have y0 := zy h2
          have hsx : ((cc : Int) + x) = (S : Int) := by omega
          clear hS iy zy y0
          go_wp2_with (at_builtin; refine app_d _ D rfl (.tmp 41) (.tmp 44) rfl rfl rfl rfl HR.out HW.out (by rw [HOL.out]; omega) ?_; intro v1 w1 hr hb; have HR2 := Lib.hid hr; have HW2 := Lib.hid hb; clear hr hb)
          go_roundw
          case rel => exact ⟨j + 1, C, out ++ [D], by omega, by go_num, rfl, hs2, by rw [List.length_append, HOL.out]; rfl, HD2.out, HS.out, HR2.out, HW2.out⟩
          case measure => simp [intOf]; omega
      · have x0 := zx h1
        have h2 : j < nb := by omega
        have iy' := iy h2
        have hsx : ((cc : Int) + y) = (S : Int) := by omega
        clear hS ix zx iy zy x0
        go_wp2_with (at_builtin; refine app_d _ D rfl (.tmp 41) (.tmp 44) rfl rfl rfl rfl HR.out HW.out (by rw [HOL.out]; omega) ?_; intro v1 w1 hr hb; have HR2 := Lib.hid hr; have HW2 := Lib.hid hb; clear hr hb)
        go_roundw
        case rel => exact ⟨j + 1, C, out ++ [D], by omega, by go_num, rfl, hs2, by rw [List.length_append, HOL.out]; rfl, HD2.out, HS.out, HR2.out, HW2.out⟩
        case measure => simp [intOf]; omega
    · obtain rfl : j = max na nb := by omega
      have HVV : Hid (val (out ++ [cc]) = val a + val b) := Lib.hid (by
        have := HV.out
        rw [List.take_of_length_le (by rw [← HNA.out]; omega), List.take_of_length_le (by rw [← HNB.out]; omega)] at this
        rw [val_snoc, HOL.out]
        exact this)
      have HDD : Hid (Dig (out ++ [cc])) := Lib.hid (dig_snoc HD.out (by omega))
      have h1 : ¬ (max na nb < na) := by omega
      have h2 : ¬ (max na nb < nb) := by omega
      generalize hmx : max na nb = mx at *
      have h1' : ¬ ((mx : Int) < na) := by omega
      have h2' : ¬ ((mx : Int) < nb) := by omega
      go_wp2_with (at_builtin; refine app_d _ cc rfl (.tmp 48) (.tmp 50) rfl rfl rfl rfl HR.out HW.out (by rw [HOL.out]; omega) ?_; intro v1 w1 hr hb; have HR2 := Lib.hid hr; have HW2 := Lib.hid hb; clear hr hb)
      refine (trim_any (out ++ [cc]) v1 w1 (HR2.out.dr (by simp) (by rw [List.length_append, HOL.out]; simp; omega))).mono ?_
      rintro e w2 ⟨⟨v2, rfl, hdr⟩, rfl⟩
      have HF : Hid (Nr w w1 v2 (val a + val b)) := Lib.hid ⟨⟨_, hdr, trim_dig HDD.out, trim_trim _, by rw [trim_val, HVV.out]⟩, HW2.out⟩
      clear hdr
      go_wp2_with fail
      go_ret
      exact ⟨_, rfl, HF.out⟩
theorem val_drop (l : List Nat) (n : Nat) (h : n ≤ l.length) : val l = val (l.take n) + 65536 ^ n * val (l.drop n) := by
  have := val_append (l.take n) (l.drop n)
  rwa [List.take_append_drop, List.length_take, Nat.min_eq_left h] at this
theorem Rd.dr0 {B : Nat} {v : Value} {l : List Nat} {w : World} (h : Rd B v l w) (hz : l = [] → v = .slice (some ⟨B, 0, none⟩) 0 0) (hlt : B < w.heap.size) (hm : l.length ≤ 10000000000001) : Dr w v l := by
  by_cases ho : l = []
  · have h1 := hz ho
    subst ho
    rw [h1]
    exact ⟨B, 0, rfl, Nat.le_refl _, by omega, hlt, fun i hi => by simp at hi⟩
  · exact h.dr ho hm
set_option maxHeartbeats 4000000 in
theorem sub_any (a b : List Nat) (ha : Dig a) (hb : Dig b) (hla : a.length ≤ 1000000000000) (hle : val b ≤ val a) (v u : Value) (w : World) (h : Dr w v a) (k : Dr w u b) :
    Calls Tryz.prog 122 #[v, u] w fun e w' => ∃ v', e = .returned v' ∧ Nr w w' v' (val a - val b) := by
  obtain ⟨g, cap, rfl, hc, hcm, hg, hca⟩ := h
  obtain ⟨g2, cap2, rfl, hc2, hcm2, hg2, hcb⟩ := k
  have HCA := Lib.hid hca
  have HCB := Lib.hid hcb
  have HA := Lib.hid ha
  have HB := Lib.hid hb
  have HLE := Lib.hid hle
  have HG := Lib.hid (And.intro hg hg2)
  have HR0 := Lib.hid (Rd.nil w)
  have HB0 := Lib.hid ((Below.refl w.heap.size w).alloc (Nat.le_refl _) (.cells #[] 111))
  have HZ0 : Hid (w.heap.size < (w.alloc (.cells #[] 111)).heap.size) := Lib.hid (by simp)
  clear hca hcb ha hb hg hg2 hc hcm hc2 hcm2 hle
  obtain ⟨na, hna⟩ : ∃ na, na = a.length := ⟨_, rfl⟩
  obtain ⟨nb, hnb⟩ : ∃ nb, nb = b.length := ⟨_, rfl⟩
  rw [← hna] at hla ⊢
  rw [← hnb]
  have HNA := Lib.hid hna
  have HNB := Lib.hid hnb
  clear hna hnb
  go_enter Tryz.func122, Tryz.ntmps122
  go_wp2_with fail
  go_loopw [5, 6, 7] (fun o c i wr => ∃ (j cc : Nat) (out : List Nat), j ≤ na ∧ i = .int .i64 j ∧ c = .int .u32 cc ∧ cc ≤ 1 ∧ out.length = j ∧ Dig out ∧ val out + val (b.take j) = val (a.take j) + 65536 ^ j * cc ∧ Rd w.heap.size o out wr ∧ Below w.heap.size w wr ∧ (out = [] → o = .slice (some ⟨w.heap.size, 0, none⟩) 0 0) ∧ w.heap.size < wr.heap.size) (fun _ _ i _ => na - (intOf i).toNat)
  case atStart => exact ⟨0, 0, [], by omega, rfl, rfl, by omega, rfl, fun x hx => by simp at hx, by simp [val], HR0.out, HB0.out, fun _ => rfl, HZ0.out⟩
  case round =>
    obtain ⟨j, cc, out, hj, rfl, rfl, hcc, hol, hd, hv, hr, hb, hz⟩ := hrel
    have HR := Lib.hid hr
    have HW := Lib.hid hb
    have HD := Lib.hid hd
    have HV := Lib.hid hv
    have HOL := Lib.hid hol
    have HZ := Lib.hid hz
    clear hr hb hd hv hol hz HR0 HB0 HZ0
    by_cases hlt : j < na
    · have hex : ∃ x y : Nat, x < 65536 ∧ y < 65536 ∧ wr.cell? ⟨g, j, none⟩ = some (.int .u32 (x : Int)) ∧ (j < nb → wr.cell? ⟨g2, j, none⟩ = some (.int .u32 (y : Int))) ∧ (¬ j < nb → y = 0) ∧ val (a.take (j + 1)) = val (a.take j) + 65536 ^ j * x ∧ val (b.take (j + 1)) = val (b.take j) + 65536 ^ j * y := by
        have hja : j < a.length := by have := HNA.out; omega
        by_cases hjb : j < b.length
        · exact ⟨a[j], b[j], HA.out _ (List.getElem_mem hja), HB.out _ (List.getElem_mem hjb), (HW.out.cell (p := ⟨g, j, none⟩) HG.out.1).trans (HCA.out j hja), fun _ => (HW.out.cell (p := ⟨g2, j, none⟩) HG.out.2).trans (HCB.out j hjb), fun h => by have := HNB.out; omega, take_val hja, take_val hjb⟩
        · refine ⟨a[j], 0, HA.out _ (List.getElem_mem hja), by omega, (HW.out.cell (p := ⟨g, j, none⟩) HG.out.1).trans (HCA.out j hja), fun h => by have := HNB.out; omega, fun _ => rfl, take_val hja, ?_⟩
          rw [List.take_of_length_le (by omega), List.take_of_length_le (by omega)]; simp
      obtain ⟨x, y, hx, hy, ix, iy, zy, tx, ty⟩ := hex
      have HTX := Lib.hid tx
      have HTY := Lib.hid ty
      clear tx ty
      obtain ⟨S, hS⟩ : ∃ S, S + cc + y = 65536 + x := ⟨65536 + x - cc - y, by omega⟩
      have hS2 : 65536 * (S / 65536) + S % 65536 = S := Nat.div_add_mod S 65536
      have hs1 : S / 65536 ≤ 1 := by omega
      obtain ⟨C, hC⟩ : ∃ C, C + S / 65536 = 1 := ⟨1 - S / 65536, by omega⟩
      have HS : Hid (val (out ++ [S % 65536]) + val (b.take (j + 1)) = val (a.take (j + 1)) + 65536 ^ (j + 1) * C) := Lib.hid (by
        have e : S % 65536 + y + cc = x + 65536 * C := by omega
        have e2 : 65536 ^ j * (S % 65536 + y + cc) = 65536 ^ j * (x + 65536 * C) := by rw [e]
        rw [Nat.mul_add, Nat.mul_add, Nat.mul_add, ← Nat.mul_assoc] at e2
        rw [val_snoc, HOL.out, HTX.out, HTY.out, Nat.pow_succ]
        have := HV.out
        omega)
      have HD2 : Hid (Dig (out ++ [S % 65536])) := Lib.hid (dig_snoc HD.out (Nat.mod_lt _ (by decide)))
      have hs16 := and16 S (by omega)
      have hs2 : C ≤ 1 := by omega
      have hsd : (S : Int) / 65536 = 1 - (C : Int) := by omega
      have hse : (S : Int) % 65536 = ((S % 65536 : Nat) : Int) := by omega
      have hsf : (1 : Int) - (1 - (C : Int)) = (C : Int) := by omega
      have hsb : S < 200000 := by omega
      clear hS2 hs1 hC
      generalize S % 65536 = D at HS HD2 hs16 hse
      clear HTX HTY HV HD
      by_cases h2 : j < nb
      · have iy' := iy h2
        clear iy zy
        have hsx : ((65536 : Int) + x - cc - y) = (S : Int) := by omega
        clear hS
        go_wp2_with (at_builtin; refine app_d _ D rfl (.tmp 33) (.tmp 36) rfl rfl rfl rfl HR.out HW.out (by rw [HOL.out]; omega) ?_; intro v1 w1 hr hb; have HR2 := Lib.hid hr; have HW2 := Lib.hid hb; clear hr hb)
        have HZ2 : Hid (w.heap.size < w1.heap.size) := Lib.hid (by
          rcases HR2.out.2 with ⟨_, h0⟩ | ⟨g', cap', cur', _, hg', hh', _⟩
          · simp at h0
          · have := (Array.getElem?_eq_some_iff.1 hh').1; omega)
        go_roundw
        case rel => exact ⟨j + 1, C, out ++ [D], by omega, by go_num, rfl, hs2, by rw [List.length_append, HOL.out]; rfl, HD2.out, HS.out, HR2.out, HW2.out, fun h => by simp at h, HZ2.out⟩
        case measure => simp [intOf]; omega
      · have y0 := zy h2
        have hsx : ((65536 : Int) + x - cc) = (S : Int) := by omega
        clear hS iy zy y0
        go_wp2_with (at_builtin; refine app_d _ D rfl (.tmp 33) (.tmp 36) rfl rfl rfl rfl HR.out HW.out (by rw [HOL.out]; omega) ?_; intro v1 w1 hr hb; have HR2 := Lib.hid hr; have HW2 := Lib.hid hb; clear hr hb)
        have HZ2 : Hid (w.heap.size < w1.heap.size) := Lib.hid (by
          rcases HR2.out.2 with ⟨_, h0⟩ | ⟨g', cap', cur', _, hg', hh', _⟩
          · simp at h0
          · have := (Array.getElem?_eq_some_iff.1 hh').1; omega)
        go_roundw
        case rel => exact ⟨j + 1, C, out ++ [D], by omega, by go_num, rfl, hs2, by rw [List.length_append, HOL.out]; rfl, HD2.out, HS.out, HR2.out, HW2.out, fun h => by simp at h, HZ2.out⟩
        case measure => simp [intOf]; omega
    · obtain rfl : j = na := by omega
      have hout := val_lt out HD.out
      rw [HOL.out] at hout
      have HOUT := Lib.hid hout
      clear hout
      have HVV : Hid (val out = val a - val b) := Lib.hid (by
        have h1 := HV.out
        have h2 := HNA.out
        have h3 := val_lt a HA.out
        have hout := HOUT.out
        rw [← h2] at h3
        rw [List.take_of_length_le (show a.length ≤ j by omega)] at h1
        have h4 := HLE.out
        have h5 : val (b.take j) = val b := by
          rcases Nat.lt_or_ge j b.length with hlt | hge
          · have h6 := val_drop b j (by omega)
            rcases Nat.eq_zero_or_pos (val (b.drop j)) with h7 | h7
            · rw [h7] at h6; omega
            · have h8 : 65536 ^ j * 1 ≤ 65536 ^ j * val (b.drop j) := Nat.mul_le_mul_left _ h7
              omega
          · rw [List.take_of_length_le hge]
        rw [h5] at h1
        rcases Nat.eq_zero_or_pos cc with h9 | h9
        · rw [h9] at h1; omega
        · have : cc = 1 := by omega
          rw [this] at h1; omega)
      have HDR := Lib.hid (HR.out.dr0 HZ.out.1 HZ.out.2 (by rw [HOL.out]; omega))
      go_wp2_with fail
      refine (trim_any out _ _ HDR.out).mono ?_
      rintro e w2 ⟨⟨v2, rfl, hdr⟩, rfl⟩
      have HF : Hid (Nr w wr v2 (val a - val b)) := Lib.hid ⟨⟨_, hdr, trim_dig HD.out, trim_trim _, by rw [trim_val, HVV.out]⟩, HW.out⟩
      clear hdr
      go_wp2_with fail
      go_ret
      exact ⟨_, rfl, HF.out⟩
def us (l : List Nat) : Array Value := (l.map fun x => Value.int .u32 ((x : Nat) : Int)).toArray
theorem us_set (l : List Nat) (o x : Nat) : (us l).setIfInBounds o (.int .u32 ((x : Nat) : Int)) = us (l.set o x) := by simp [us, List.map_set]
theorem blk_put {w : World} {b : Nat} {cs : Array Value} {T : TypeId} {z : Nat × Nat} (h : w.heap[b]? = some (.cells cs T z)) (o : Nat) (v : Value) : (w.setCell ⟨b, o, none⟩ v).heap[b]? = some (.cells (cs.setIfInBounds o v) T z) := by
  simp [World.setCell, Array.getElem?_modify, h]
theorem made_us (n : Nat) : madeCells (Value.int .u32 0).cells (n * 1) = us (List.replicate n 0) := by
  apply Array.ext
  · simp [us, madeCells]
  · intro i h1 h2
    simp [us, madeCells, Value.cells, Nat.mod_one]
theorem make_us (w : World) (n : Nat) (hn : n ≤ 100000) : (Instr.makeSlice 70 (.int .i64 (n : Int)) (.int .i64 (n : Int))).run Tryz.prog w = .ok (.slice (some ⟨w.heap.size, 0, none⟩) n n) (w.alloc (.cells (us (List.replicate n 0)) 111)) := by
  obtain ⟨i0, hi, hz0, hz1, hz2⟩ := info_parts info75
  have := run_make (P := Tryz.prog) w 70 111 i0 (.int .u32 0) Tryz.underlying70 hi hz0 .i64 .i64 n n (by omega) (Int.le_refl _) (by rw [hz2]; omega) (by omega)
  rw [hz1] at this
  simp only [Int.toNat_natCast] at this
  rw [this, made_us]
theorem us_dr {w : World} {g : Nat} {l : List Nat} (h : w.heap[g]? = some (.cells (us l) 111 (0, 0))) (hl : l.length ≤ 100000) : Dr w (.slice (some ⟨g, 0, none⟩) l.length l.length) l := by
  refine ⟨g, l.length, rfl, Nat.le_refl _, by omega, (Array.getElem?_eq_some_iff.1 h).1, fun i hi => ?_⟩
  rw [Lib.cell_of_heap h]
  simp [us, hi]
theorem drop_val {l : List Nat} {i : Nat} (h : i < l.length) : val (l.drop i) = l[i] + 65536 * val (l.drop (i + 1)) := by
  rw [List.drop_eq_getElem_cons h, val]
set_option maxHeartbeats 4000000 in
theorem half_any (a : List Nat) (ha : Dig a) (hla : a.length ≤ 100000) (v : Value) (w : World) (h : Dr w v a) :
    Calls Tryz.prog 120 #[v] w fun e w' => ∃ v', e = .returned v' ∧ Nr w w' v' (val a / 2) := by
  obtain ⟨g, cap, rfl, hc, hcm, hg, hca⟩ := h
  have HCA := Lib.hid hca
  have HA := Lib.hid ha
  have HG := Lib.hid hg
  obtain ⟨n, hn⟩ : ∃ n, n = a.length := ⟨_, rfl⟩
  rw [← hn] at hla ⊢
  have HN := Lib.hid hn
  have hmk := make_us w n hla
  have HB0 := Lib.hid ((Below.refl w.heap.size w).alloc (Nat.le_refl _) (.cells (us (List.replicate n 0)) 111))
  have HH0 : Hid ((w.alloc (.cells (us (List.replicate n 0)) 111)).heap[w.heap.size]? = some (.cells (us (List.replicate n 0)) 111 (0, 0))) := Lib.hid (Go.heap_alloc_new w _)
  clear hca ha hg hc hcm hn
  go_enter Tryz.func120, Tryz.ntmps120
  go_wp2_with fail
  clear hmk
  go_loopw [4, 5] (fun c i wr => ∃ (j cc : Nat) (out : List Nat), j ≤ n ∧ i = .int .i64 ((j : Int) - 1) ∧ c = .int .u32 cc ∧ cc ≤ 1 ∧ out.length = n ∧ Dig out ∧ 2 * val (out.drop j) + cc = val (a.drop j) ∧ wr.heap[w.heap.size]? = some (.cells (us out) 111 (0, 0)) ∧ Below w.heap.size w wr) (fun _ i _ => (intOf i + 1).toNat)
  case atStart => exact ⟨n, 0, List.replicate n 0, Nat.le_refl _, rfl, rfl, by omega, by simp, fun x hx => by rw [List.mem_replicate] at hx; omega, by rw [List.drop_of_length_le (by simp), List.drop_of_length_le (by have := HN.out; omega)]; rfl, HH0.out, HB0.out⟩
  case round =>
    obtain ⟨j, cc, out, hj, rfl, rfl, hcc, hol, hd, hv, hh, hb⟩ := hrel
    have HH := Lib.hid hh
    have HW := Lib.hid hb
    have HD := Lib.hid hd
    have HV := Lib.hid hv
    have HOL := Lib.hid hol
    clear hh hb hd hv hol HH0 HB0
    by_cases h0 : j = 0
    · subst h0
      have HVV : Hid (val out = val a / 2) := Lib.hid (by
        have := HV.out
        rw [List.drop_zero, List.drop_zero] at this
        omega)
      have HDR := Lib.hid (us_dr HH.out (by rw [HOL.out]; exact hla))
      rw [HOL.out] at HDR
      go_wp2_with fail
      refine (trim_any out _ _ HDR.out).mono ?_
      rintro e w2 ⟨⟨v2, rfl, hdr⟩, rfl⟩
      have HF : Hid (Nr w wr v2 (val a / 2)) := Lib.hid ⟨⟨_, hdr, trim_dig HD.out, trim_trim _, by rw [trim_val, HVV.out]⟩, HW.out⟩
      clear hdr
      go_wp2_with fail
      go_ret
      exact ⟨_, rfl, HF.out⟩
    · obtain ⟨k, rfl⟩ : ∃ k, j = k + 1 := ⟨j - 1, by omega⟩
      have hka : k < a.length := by have := HN.out; omega
      have hko : k < out.length := by rw [HOL.out]; omega
      have ia := (HW.out.cell (p := ⟨g, k, none⟩) HG.out).trans (HCA.out k hka)
      have io : wr.cell? ⟨w.heap.size, k, none⟩ = some (.int .u32 ((out[k] : Nat) : Int)) := by
        rw [Lib.cell_of_heap HH.out]; simp [us, hko]
      have fo := Lib.frozen_of_heap HH.out k
      have hx := HA.out _ (List.getElem_mem hka)
      have e1 : ((k + 1 : Nat) : Int) - 1 = (k : Int) := by omega
      have hda := drop_val hka
      generalize a[k] = x at ia hx hda
      generalize out[k] = old at io
      obtain ⟨S, hS⟩ : ∃ S, S = cc * 65536 + x := ⟨_, rfl⟩
      have hor : bits .or .u32 ((cc : Int) * 65536) (x : Int) = (S : Int) := by
        rw [show ((cc : Int) * 65536) = ((cc * 65536 : Nat) : Int) from by omega, u32_or_nat _ _ (by omega) (by omega), nat_join 16 _ _ (by omega) (by omega), hS]
      have hand : bits .and .u32 (S : Int) 1 = ((S % 2 : Nat) : Int) := by
        have := u32_and_nat S 1 (by omega) (by decide)
        rw [show ((1 : Nat) : Int) = 1 from rfl, Nat.and_one_is_mod] at this
        exact this
      have hsd : (S : Int) / 2 = ((S / 2 : Nat) : Int) := by omega
      have hsb : S < 131072 := by omega
      have hs2 : S % 2 ≤ 1 := by omega
      have HS : Hid (2 * val ((out.set k (S / 2)).drop k) + S % 2 = val (a.drop k)) := Lib.hid (by
        rw [hda, drop_val (by rw [List.length_set]; exact hko)]
        have h1 : (out.set k (S / 2)).drop (k + 1) = out.drop (k + 1) := by rw [List.drop_set_of_lt (by omega)]
        have h2 : (out.set k (S / 2))[k]'(by rw [List.length_set]; exact hko) = S / 2 := by simp
        rw [h1, h2]
        have := HV.out
        omega)
      have HD2 : Hid (Dig (out.set k (S / 2))) := Lib.hid (fun y hy => by
        rcases List.mem_or_eq_of_mem_set hy with h | h
        · exact HD.out y h
        · omega)
      have HU : Hid ((us out).setIfInBounds k (.int .u32 ((S / 2 : Nat) : Int)) = us (out.set k (S / 2))) := Lib.hid (us_set _ _ _)
      have HOL2 : Hid ((out.set k (S / 2)).length = n) := Lib.hid (by rw [List.length_set]; exact HOL.out)
      clear hS hda HV HD
      generalize S / 2 = H at hsd HS HD2 HU HOL2
      generalize S % 2 = C at hand hs2 HS
      rw [e1]
      go_wp2_with fail
      go_roundw
      case rel => exact ⟨k, C, out.set k H, by omega, by go_num, rfl, hs2, HOL2.out, HD2.out, HS.out, (blk_put HH.out k _).trans (by rw [HU.out]), HW.out.setCell (p := ⟨w.heap.size, k, none⟩) (Nat.le_refl _) _⟩
      case measure => simp [intOf]
set_option maxHeartbeats 4000000 in
theorem odd_any (a : List Nat) (ha : Dig a) (v : Value) (w : World) (h : Dr w v a) :
    Calls Tryz.prog 119 #[v] w fun e w' => e = .returned (.bool (decide (val a % 2 = 1))) ∧ Sm w w' := by
  obtain ⟨g, cap, rfl, hc, hcm, hg, hca⟩ := h
  rcases a with _ | ⟨x, a⟩
  · clear hca
    go_enter Tryz.func119, Tryz.ntmps119
    go_wp2_with fail
    go_ret
    exact ⟨by simp [val], Sm.refl _⟩
  · have h0 := hca 0 (by simp)
    have hx := ha x (by simp)
    have hv : val (x :: a) % 2 = x % 2 := by rw [val]; omega
    rw [hv]
    simp only [List.getElem_cons_zero] at h0
    rw [List.length_cons] at hc ⊢
    obtain ⟨n, hn⟩ : ∃ n, n = a.length := ⟨_, rfl⟩
    rw [← hn] at hc ⊢
    clear hca ha hv hn
    go_enter Tryz.func119, Tryz.ntmps119
    go_wp2_with fail
    go_ret
    refine ⟨?_, Sm.refl _⟩
    have e : (((x : Nat) : Int) % 2 == 1) = decide (x % 2 = 1) := by
      rw [Bool.eq_iff_iff, beq_iff_eq, decide_eq_true_eq]; omega
    rw [← e]
    rfl
theorem Sm.below0 {w w' : World} (h : Sm w w') : Below w.heap.size w w' := h.below (Below.refl w.heap.size w)
theorem Nr.from {w w1 w2 : World} {v : Value} {n : Nat} (hb : Below w.heap.size w w1) (h : Nr w1 w2 v n) : Nr w w2 v n :=
  ⟨h.row, hb.trans (h.below.mono hb.size)⟩
theorem len_le {r : List Nat} {n : Nat} (ht : Trim r) (h : val r < 65536 ^ n) : r.length ≤ n := by
  by_cases he : r = []
  · subst he; simp
  · have h1 := Nat.lt_of_le_of_lt (val_ge ht he) h
    have h2 := (Nat.pow_lt_pow_iff_right (by omega : 1 < 65536)).1 h1
    omega
theorem sum_len {a b r : List Nat} {n : Nat} (ha : Dig a) (hb : Dig b) (hla : a.length ≤ n) (hlb : b.length ≤ n) (ht : Trim r) (h : val r = val a + val b) : r.length ≤ n + 1 := by
  refine len_le ht ?_
  have h1 := Nat.lt_of_lt_of_le (val_lt a ha) (Nat.pow_le_pow_right (by omega) hla)
  have h2 := Nat.lt_of_lt_of_le (val_lt b hb) (Nat.pow_le_pow_right (by omega) hlb)
  rw [h, Nat.pow_succ]
  omega
set_option maxHeartbeats 4000000 in
theorem less_any (a b m : List Nat) (ha : Dig a) (hb : Dig b) (hm : Dig m) (hla : a.length ≤ 100000) (hlb : b.length ≤ 100000) (hlm : m.length ≤ 100000) (hle : val b ≤ val a + val m) (v u z : Value) (w : World) (h : Dr w v a) (k : Dr w u b) (q : Dr w z m) :
    Calls Tryz.prog 123 #[v, u, z] w fun e w' => ∃ v', e = .returned v' ∧ Nr w w' v' ((if val a < val b then val a + val m else val a) - val b) := by
  have C1 := cmp_any a b ha hb v u w h k
  have A1 := Lib.hid (fun w1 h1 h2 => add_any a m ha hm (by omega) (by omega) v z w1 h1 h2)
  have S1 := Lib.hid (fun r hr hl hv y w1 h1 h2 => sub_any r b hr hb hl hv y u w1 h1 h2)
  have HA := Lib.hid h
  have HB := Lib.hid k
  have HM := Lib.hid q
  have HD := Lib.hid ha
  clear h k q
  by_cases hlt : val a < val b
  · rw [cmpN_lt hlt] at C1
    rw [if_pos hlt]
    have HC1 := Lib.hid C1
    have HLE := Lib.hid hle
    obtain ⟨R, hR⟩ : ∃ R, R = val a + val m - val b := ⟨_, rfl⟩
    rw [← hR]
    have HR := Lib.hid hR
    clear C1 hR hle hlt
    go_enter Tryz.func123, Tryz.ntmps123
    go_wp2_with fail
    refine HC1.out.mono ?_
    rintro e w1 ⟨rfl, s1⟩
    have HS1 := Lib.hid s1
    clear s1
    go_wp2_with fail
    refine (A1.out w1 (HA.out.sm HS1.out) (HM.out.sm HS1.out)).mono ?_
    rintro e w2 ⟨v2, rfl, hn⟩
    obtain ⟨⟨r, hr, hrd, hrt, hrv⟩, hb2⟩ := hn
    have HSU := Lib.hid (S1.out r hrd (by have := sum_len HD.out hm hla hlm hrt hrv; omega) (by rw [hrv]; exact HLE.out) v2 w2 hr ((HB.out.sm HS1.out).below hb2))
    have HB2 := Lib.hid (HS1.out.below0.trans (hb2.mono HS1.out.below0.size))
    have HRV := Lib.hid hrv
    clear hr hrd hrt hrv hb2
    go_wp2_with fail
    refine HSU.out.mono ?_
    rintro e w3 ⟨v3, rfl, hn⟩
    have HN := Lib.hid hn
    clear hn
    go_wp2_with fail
    go_ret
    exact ⟨_, rfl, by rw [HR.out, ← HRV.out]; exact Nr.from HB2.out HN.out⟩
  · obtain ⟨c, hc⟩ : ∃ c, c = cmpN (val a) (val b) := ⟨_, rfl⟩
    have hc0 : 0 ≤ c ∧ c ≤ 1 := by rw [hc]; unfold cmpN; rw [if_neg hlt]; split <;> omega
    rw [← hc] at C1
    rw [if_neg hlt]
    have HC1 := Lib.hid C1
    have HLT := Lib.hid hlt
    obtain ⟨R, hR⟩ : ∃ R, R = val a - val b := ⟨_, rfl⟩
    rw [← hR]
    have HR := Lib.hid hR
    clear C1 hR hle hlt hc
    go_enter Tryz.func123, Tryz.ntmps123
    go_wp2_with fail
    refine HC1.out.mono ?_
    rintro e w1 ⟨rfl, s1⟩
    have HS1 := Lib.hid s1
    clear s1
    go_wp2_with fail
    refine (S1.out a HD.out (by omega) (by have := HLT.out; omega) v w1 (HA.out.sm HS1.out) (HB.out.sm HS1.out)).mono ?_
    rintro e w3 ⟨v3, rfl, hn⟩
    have HN := Lib.hid hn
    clear hn
    go_wp2_with fail
    go_ret
    exact ⟨_, rfl, by rw [HR.out]; exact Nr.from HS1.out.below0 HN.out⟩
set_option maxHeartbeats 4000000 in
theorem halved_any (a m : List Nat) (ha : Dig a) (hm : Dig m) (hla : a.length ≤ 99999) (hlm : m.length ≤ 99999) (v z : Value) (w : World) (h : Dr w v a) (q : Dr w z m) :
    Calls Tryz.prog 121 #[v, z] w fun e w' => ∃ v', e = .returned v' ∧ Nr w w' v' ((if val a % 2 = 1 then val a + val m else val a) / 2) := by
  have C1 := odd_any a ha v w h
  have A1 := Lib.hid (fun w1 h1 h2 => add_any a m ha hm (by omega) (by omega) v z w1 h1 h2)
  have S1 := Lib.hid (fun r hr hl y w1 h1 => half_any r hr hl y w1 h1)
  have HA := Lib.hid h
  have HM := Lib.hid q
  have HD := Lib.hid ha
  clear h q
  by_cases hlt : val a % 2 = 1
  · rw [decide_eq_true hlt] at C1
    rw [if_pos hlt]
    have HC1 := Lib.hid C1
    obtain ⟨R, hR⟩ : ∃ R, R = (val a + val m) / 2 := ⟨_, rfl⟩
    rw [← hR]
    have HR := Lib.hid hR
    clear C1 hR hlt
    go_enter Tryz.func121, Tryz.ntmps121
    go_wp2_with fail
    refine HC1.out.mono ?_
    rintro e w1 ⟨rfl, s1⟩
    have HS1 := Lib.hid s1
    clear s1
    go_wp2_with fail
    refine (A1.out w1 (HA.out.sm HS1.out) (HM.out.sm HS1.out)).mono ?_
    rintro e w2 ⟨v2, rfl, hn⟩
    obtain ⟨⟨r, hr, hrd, hrt, hrv⟩, hb2⟩ := hn
    have HSU := Lib.hid (S1.out r hrd (by have := sum_len HD.out hm hla hlm hrt hrv; omega) v2 w2 hr)
    have HB2 := Lib.hid (HS1.out.below0.trans (hb2.mono HS1.out.below0.size))
    have HRV := Lib.hid hrv
    clear hr hrd hrt hrv hb2
    go_wp2_with fail
    refine HSU.out.mono ?_
    rintro e w3 ⟨v3, rfl, hn⟩
    have HN := Lib.hid hn
    clear hn
    go_wp2_with fail
    go_ret
    exact ⟨_, rfl, by rw [HR.out, ← HRV.out]; exact Nr.from HB2.out HN.out⟩
  · rw [decide_eq_false hlt] at C1
    rw [if_neg hlt]
    have HC1 := Lib.hid C1
    obtain ⟨R, hR⟩ : ∃ R, R = val a / 2 := ⟨_, rfl⟩
    rw [← hR]
    have HR := Lib.hid hR
    clear C1 hR hlt
    go_enter Tryz.func121, Tryz.ntmps121
    go_wp2_with fail
    refine HC1.out.mono ?_
    rintro e w1 ⟨rfl, s1⟩
    have HS1 := Lib.hid s1
    clear s1
    go_wp2_with fail
    refine (S1.out a HD.out (by omega) v w1 (HA.out.sm HS1.out)).mono ?_
    rintro e w3 ⟨v3, rfl, hn⟩
    have HN := Lib.hid hn
    clear hn
    go_wp2_with fail
    go_ret
    exact ⟨_, rfl, by rw [HR.out]; exact Nr.from HS1.out.below0 HN.out⟩
end Go.Proofs.YtpggkfdijmnmiaaGreat.Ref
