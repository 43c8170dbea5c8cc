/- Numbers of four limbs of 64 bits: sums, differences, what is left of one divided by a modulus whose highest bit is 1. No condition. Sums and differences of numbers of four limbs. No condition but that each limb is one. What a call leaves that lays new memory alone, for each statement of this seat. No condition. Primes: Euclid's lemma, Fermat's little theorem, Pocklington's test; the two moduli of  -/
import Derived.Test.YtpggkfdijmnmiaaGreatProg
import Derived.WalkKit
import Derived.WalkSpells
import Derived.WalkLawsBesides
import Derived.BigCall
import Derived.BigRegion
import Derived.Outline
import Derived.KernelRfl
import Derived.Lib.Walk
import Derived.Lib.QuietBelow
import Derived.BigQuiet
import Derived.Laws.Externs
import Derived.RegionTactic
import Derived.LoopN
import Derived.Lib.Hide
import Derived.Handy
import Derived.Shelf.Spec.BitsCarry
import Derived.Test.YtpggkfdijmnmiaaGreatRows
import Derived.ProofKit
import Derived.OpenShut
import Derived.Deep.DeepHandedRow
import Derived.Deep.DeepWitnessRowRef
import Derived.PinnedBridge
import Derived.Below
import Derived.Lib.SmallJoins
import Derived.Laws.IdiomArrays
import Derived.Laws.Rows
import Derived.Laws.ResultCell
import Derived.ChangeKeysEq
import Derived.Deep.MidRow
set_option linter.unusedVariables false
set_option linter.unusedSimpArgs false
set_option maxRecDepth 100000
namespace Go.Proofs.YtpggkfdijmnmiaaGreat.Limbs
def v4 (a b c d : Nat) : Nat := a + 18446744073709551616 * (b + 18446744073709551616 * (c + 18446744073709551616 * d))
def W256 : Nat := 115792089237316195423570985008687907853269984665640564039457584007913129639936
theorem v4_lt {a b c d : Nat} (ha : a < 18446744073709551616) (hb : b < 18446744073709551616) (hc : c < 18446744073709551616) (hd : d < 18446744073709551616) : v4 a b c d < W256 := by
  unfold v4 W256; omega
def lb (x : Nat) : Nat → Nat
  | 0 => x % 18446744073709551616
  | 1 => x / 18446744073709551616 % 18446744073709551616
  | 2 => x / 340282366920938463463374607431768211456 % 18446744073709551616
  | _ => x / 6277101735386680763835789423207666416102355444464034512896 % 18446744073709551616
theorem lb_lt (x : Nat) (i : Nat) : lb x i < 18446744073709551616 := by
  unfold lb; split <;> exact Nat.mod_lt _ (by decide)
theorem v4_lb {x : Nat} (h : x < W256) : v4 (lb x 0) (lb x 1) (lb x 2) (lb x 3) = x := by
  unfold W256 at h
  simp only [v4, lb]
  omega
theorem lb_v4 {a b c d : Nat} (ha : a < 18446744073709551616) (hb : b < 18446744073709551616) (hc : c < 18446744073709551616) (hd : d < 18446744073709551616) :
    lb (v4 a b c d) 0 = a ∧ lb (v4 a b c d) 1 = b ∧ lb (v4 a b c d) 2 = c ∧ lb (v4 a b c d) 3 = d := by
  simp only [v4, lb]
  refine ⟨?_, ?_, ?_, ?_⟩ <;> omega
def quo (r3 r2 m3 : Nat) : Nat := if r3 = m3 then 18446744073709551615 else (r3 * 18446744073709551616 + r2) / m3
theorem quo_lt {r3 r2 m3 : Nat} (h : r3 ≤ m3) (h2 : r2 < 18446744073709551616) : quo r3 r2 m3 < 18446744073709551616 := by
  unfold quo
  split
  · omega
  · refine (Nat.div_lt_iff_lt_mul (by omega)).2 ?_
    have : (r3 + 1) * 18446744073709551616 ≤ m3 * 18446744073709551616 := Nat.mul_le_mul_right _ (by omega)
    omega
theorem up_top {r0 r1 r2 r3 l : Nat} (hr0 : r0 < 18446744073709551616) (hr1 : r1 < 18446744073709551616) (hl : l < 18446744073709551616) :
    v4 r0 r1 r2 r3 * 18446744073709551616 + l < (r3 * 18446744073709551616 + r2 + 1) * 6277101735386680763835789423207666416102355444464034512896 := by
  unfold v4; omega
theorem low_top (r0 r1 r2 r3 l : Nat) : (r3 * 18446744073709551616 + r2) * 6277101735386680763835789423207666416102355444464034512896 ≤ v4 r0 r1 r2 r3 * 18446744073709551616 + l := by
  unfold v4; omega
theorem q_top {q : Nat} (h : q < 18446744073709551616) : q * 6277101735386680763835789423207666416102355444464034512896 ≤ W256 := by
  unfold W256; omega
theorem quo_bounds {r0 r1 r2 r3 m0 m1 m2 m3 l : Nat} (hr0 : r0 < 18446744073709551616) (hr1 : r1 < 18446744073709551616) (hr2 : r2 < 18446744073709551616) (hr3 : r3 < 18446744073709551616)
    (hm0 : m0 < 18446744073709551616) (hm1 : m1 < 18446744073709551616) (hm2 : m2 < 18446744073709551616) (hm3 : m3 < 18446744073709551616) (hl : l < 18446744073709551616)
    (htop : 9223372036854775808 ≤ m3) (h : v4 r0 r1 r2 r3 < v4 m0 m1 m2 m3) :
    (v4 r0 r1 r2 r3 * 18446744073709551616 + l) / v4 m0 m1 m2 m3 ≤ quo r3 r2 m3 ∧ quo r3 r2 m3 ≤ (v4 r0 r1 r2 r3 * 18446744073709551616 + l) / v4 m0 m1 m2 m3 + 2 := by
  have hrm : r3 ≤ m3 := by unfold v4 at h; omega
  have hq := quo_lt (m3 := m3) hrm hr2
  have hMpos : 0 < v4 m0 m1 m2 m3 := Nat.lt_of_le_of_lt (Nat.zero_le _) h
  have hM2 : W256 ≤ 2 * v4 m0 m1 m2 m3 := by unfold v4 W256; omega
  have b1 : quo r3 r2 m3 * m3 ≤ r3 * 18446744073709551616 + r2 := by
    unfold quo
    split
    · subst_vars; omega
    · exact Nat.div_mul_le_self _ _
  have b2 : r3 = m3 ∨ r3 * 18446744073709551616 + r2 < (quo r3 r2 m3 + 1) * m3 := by
    unfold quo
    split
    · left; assumption
    · right
      have := Nat.lt_div_mul_add (a := r3 * 18446744073709551616 + r2) (b := m3) (by omega)
      rw [Nat.add_mul, Nat.one_mul]
      exact this
  have b3 : r3 = m3 → quo r3 r2 m3 = 18446744073709551615 := by
    intro e; unfold quo; rw [if_pos e]
  generalize quo r3 r2 m3 = q at *
  constructor
  · refine Nat.lt_succ_iff.1 ((Nat.div_lt_iff_lt_mul hMpos).2 ?_)
    have hs : q.succ = q + 1 := rfl
    rw [hs]
    rcases b2 with e | e
    · have e1 := b3 e
      have e2 : q + 1 = 18446744073709551616 := by omega
      rw [e2]
      have : (v4 r0 r1 r2 r3 + 1) * 18446744073709551616 ≤ v4 m0 m1 m2 m3 * 18446744073709551616 := Nat.mul_le_mul_right _ h
      omega
    · have e1 : (q + 1) * (m3 * 6277101735386680763835789423207666416102355444464034512896) ≤ (q + 1) * v4 m0 m1 m2 m3 := Nat.mul_le_mul_left _ (by unfold v4; omega)
      have e2 : (q + 1) * m3 * 6277101735386680763835789423207666416102355444464034512896 ≥ (r3 * 18446744073709551616 + r2 + 1) * 6277101735386680763835789423207666416102355444464034512896 := Nat.mul_le_mul_right _ e
      rw [Nat.mul_assoc] at e2
      exact Nat.lt_of_lt_of_le (up_top hr0 hr1 hl) (Nat.le_trans e2 e1)
  · rcases Nat.lt_or_ge q 2 with hq2 | hq2
    · exact Nat.le_trans (Nat.le_of_lt hq2) (Nat.le_add_left 2 _)
    · have : q - 2 ≤ (v4 r0 r1 r2 r3 * 18446744073709551616 + l) / v4 m0 m1 m2 m3 := by
        refine (Nat.le_div_iff_mul_le hMpos).2 ?_
        have e1 : q * v4 m0 m1 m2 m3 ≤ q * ((m3 + 1) * 6277101735386680763835789423207666416102355444464034512896) := Nat.mul_le_mul_left _ (by unfold v4; omega)
        have e2 : q * m3 * 6277101735386680763835789423207666416102355444464034512896 ≤ (r3 * 18446744073709551616 + r2) * 6277101735386680763835789423207666416102355444464034512896 := Nat.mul_le_mul_right _ b1
        have e3 : q * ((m3 + 1) * 6277101735386680763835789423207666416102355444464034512896) = q * m3 * 6277101735386680763835789423207666416102355444464034512896 + q * 6277101735386680763835789423207666416102355444464034512896 := by
          rw [Nat.add_mul, Nat.one_mul, Nat.mul_add, Nat.mul_assoc]
        have e4 : (q - 2) * v4 m0 m1 m2 m3 + 2 * v4 m0 m1 m2 m3 = q * v4 m0 m1 m2 m3 := by
          rw [← Nat.add_mul, Nat.sub_add_cancel hq2]
        have f1 : q * m3 * 6277101735386680763835789423207666416102355444464034512896 ≤ v4 r0 r1 r2 r3 * 18446744073709551616 + l := Nat.le_trans e2 (low_top _ _ _ _ _)
        have f2 : q * 6277101735386680763835789423207666416102355444464034512896 ≤ 2 * v4 m0 m1 m2 m3 := Nat.le_trans (q_top hq) hM2
        refine Nat.le_of_add_le_add_right (b := 2 * v4 m0 m1 m2 m3) ?_
        rw [e4]
        refine Nat.le_trans e1 ?_
        rw [e3]
        exact Nat.add_le_add f1 f2
      generalize (v4 r0 r1 r2 r3 * 18446744073709551616 + l) / v4 m0 m1 m2 m3 = Z at *
      omega
end Go.Proofs.YtpggkfdijmnmiaaGreat.Limbs
namespace Go.Proofs.YtpggkfdijmnmiaaGreat
open Go.RowKit Limbs
theorem add64 (x y c : Nat) (hc : c ≤ 1) (hx : x < 18446744073709551616) (hy : y < 18446744073709551616) : ∃ s c' : Nat, s < 18446744073709551616 ∧ c' ≤ 1 ∧ s + 18446744073709551616 * c' = x + y + c ∧
    ∀ w, (callFunc 163 #[.int .u64 (x : Int), .int .u64 (y : Int), .int .u64 (c : Int)]).run Tryz.prog w = .ok (.value (.tuple #[.int .u64 (s : Int), .int .u64 (c' : Int)])) w := by
  refine ⟨(x + y + c) % 18446744073709551616, (x + y + c) / 18446744073709551616, by omega, by omega, by omega, fun w => ?_⟩
  rw [run_callFunc_extern Tryz.func163 (by kernel_rfl) (by kernel_rfl) (by kernel_rfl) (e := add64Entry) (by kernel_rfl), run_add64 x y c (by omega) (by omega) (by omega) (by omega)]
  simp only [Result.andThen]
  congr 5 <;> omega
theorem sub64 (x y b : Nat) (hb : b ≤ 1) (hx : x < 18446744073709551616) (hy : y < 18446744073709551616) : ∃ d b' : Nat, d < 18446744073709551616 ∧ b' ≤ 1 ∧ d + y + b = x + 18446744073709551616 * b' ∧
    ∀ w, (callFunc 162 #[.int .u64 (x : Int), .int .u64 (y : Int), .int .u64 (b : Int)]).run Tryz.prog w = .ok (.value (.tuple #[.int .u64 (d : Int), .int .u64 (b' : Int)])) w := by
  refine ⟨(x + 18446744073709551616 - y - b) % 18446744073709551616, if x < y + b then 1 else 0, by omega, by split <;> omega, by split <;> omega, fun w => ?_⟩
  rw [run_callFunc_extern Tryz.func162 (by kernel_rfl) (by kernel_rfl) (by kernel_rfl) (e := sub64Entry) (by kernel_rfl), run_sub64 x y b hb]
  rfl
def num (a b c d : Nat) : Value := .agg #[.int .u64 (a : Int), .int .u64 (b : Int), .int .u64 (c : Int), .int .u64 (d : Int)]
set_option maxHeartbeats 4000000 in
theorem plus_any {a0 a1 a2 a3 b0 b1 b2 b3 : Nat} (ha0 : a0 < 18446744073709551616) (ha1 : a1 < 18446744073709551616) (ha2 : a2 < 18446744073709551616) (ha3 : a3 < 18446744073709551616)
    (hb0 : b0 < 18446744073709551616) (hb1 : b1 < 18446744073709551616) (hb2 : b2 < 18446744073709551616) (hb3 : b3 < 18446744073709551616) (w : World) :
    Calls Tryz.prog 133 #[num a0 a1 a2 a3, num b0 b1 b2 b3] w fun e w' => (∃ s0 s1 s2 s3 c : Nat, s0 < 18446744073709551616 ∧ s1 < 18446744073709551616 ∧ s2 < 18446744073709551616 ∧ s3 < 18446744073709551616 ∧ c ≤ 1 ∧ v4 s0 s1 s2 s3 + W256 * c = v4 a0 a1 a2 a3 + v4 b0 b1 b2 b3 ∧ e = .returned (.tuple #[num s0 s1 s2 s3, .int .u64 (c : Int)])) ∧ Below w.heap.size w w' := by
  obtain ⟨s0, c0, hs0, hc0, e0, k0⟩ := add64 a0 b0 0 (by omega) ha0 hb0
  obtain ⟨s1, c1, hs1, hc1, e1, k1⟩ := add64 a1 b1 c0 hc0 ha1 hb1
  obtain ⟨s2, c2, hs2, hc2, e2, k2⟩ := add64 a2 b2 c1 hc1 ha2 hb2
  obtain ⟨s3, c3, hs3, hc3, e3, k3⟩ := add64 a3 b3 c2 hc2 ha3 hb3
  rw [show ((0 : Nat) : Int) = 0 from rfl] at k0
  have HF : Hid (v4 s0 s1 s2 s3 + W256 * c3 = v4 a0 a1 a2 a3 + v4 b0 b1 b2 b3) := Lib.hid (by unfold v4 W256; omega)
  have HB := Lib.hid (And.intro hs0 (And.intro hs1 (And.intro hs2 (And.intro hs3 hc3))))
  clear hs0 hs1 hs2 hs3 hc0 hc1 hc2 hc3 e0 e1 e2 e3 ha0 ha1 ha2 ha3 hb0 hb1 hb2 hb3
  unfold num
  go_enter Tryz.func133, Tryz.ntmps133
  go_wp2_with fail
  refine wp_loop_rounds 5 ?_
  iterate 4 (rw [rounds_succ]; go_wp2_with fail; go_region; go_wp2_with fail)
  rw [rounds_succ]
  go_wp2_with fail
  go_returns
  refine ⟨⟨s0, s1, s2, s3, c3, HB.out.1, HB.out.2.1, HB.out.2.2.1, HB.out.2.2.2.1, HB.out.2.2.2.2, HF.out, rfl⟩, ?_⟩
  go_grown
set_option maxHeartbeats 4000000 in
theorem minus_any {a0 a1 a2 a3 b0 b1 b2 b3 : Nat} (ha0 : a0 < 18446744073709551616) (ha1 : a1 < 18446744073709551616) (ha2 : a2 < 18446744073709551616) (ha3 : a3 < 18446744073709551616)
    (hb0 : b0 < 18446744073709551616) (hb1 : b1 < 18446744073709551616) (hb2 : b2 < 18446744073709551616) (hb3 : b3 < 18446744073709551616) (w : World) :
    Calls Tryz.prog 131 #[num a0 a1 a2 a3, num b0 b1 b2 b3] w fun e w' => (∃ s0 s1 s2 s3 c : Nat, s0 < 18446744073709551616 ∧ s1 < 18446744073709551616 ∧ s2 < 18446744073709551616 ∧ s3 < 18446744073709551616 ∧ c ≤ 1 ∧ v4 s0 s1 s2 s3 + v4 b0 b1 b2 b3 = v4 a0 a1 a2 a3 + W256 * c ∧ e = .returned (.tuple #[num s0 s1 s2 s3, .int .u64 (c : Int)])) ∧ Below w.heap.size w w' := by
  obtain ⟨s0, c0, hs0, hc0, e0, k0⟩ := sub64 a0 b0 0 (by omega) ha0 hb0
  obtain ⟨s1, c1, hs1, hc1, e1, k1⟩ := sub64 a1 b1 c0 hc0 ha1 hb1
  obtain ⟨s2, c2, hs2, hc2, e2, k2⟩ := sub64 a2 b2 c1 hc1 ha2 hb2
  obtain ⟨s3, c3, hs3, hc3, e3, k3⟩ := sub64 a3 b3 c2 hc2 ha3 hb3
  rw [show ((0 : Nat) : Int) = 0 from rfl] at k0
  have HF : Hid (v4 s0 s1 s2 s3 + v4 b0 b1 b2 b3 = v4 a0 a1 a2 a3 + W256 * c3) := Lib.hid (by unfold v4 W256; omega)
  have HB := Lib.hid (And.intro hs0 (And.intro hs1 (And.intro hs2 (And.intro hs3 hc3))))
  clear hs0 hs1 hs2 hs3 hc0 hc1 hc2 hc3 e0 e1 e2 e3 ha0 ha1 ha2 ha3 hb0 hb1 hb2 hb3
  unfold num
  go_enter Tryz.func131, Tryz.ntmps131
  go_wp2_with fail
  refine wp_loop_rounds 5 ?_
  iterate 4 (rw [rounds_succ]; go_wp2_with fail; go_region; go_wp2_with fail)
  rw [rounds_succ]
  go_wp2_with fail
  go_returns
  refine ⟨⟨s0, s1, s2, s3, c3, HB.out.1, HB.out.2.1, HB.out.2.2.1, HB.out.2.2.2.1, HB.out.2.2.2.2, HF.out, rfl⟩, ?_⟩
  go_grown
def nv (x : Nat) : Value := num (lb x 0) (lb x 1) (lb x 2) (lb x 3)
theorem nv_v4 {a b c d : Nat} (ha : a < 18446744073709551616) (hb : b < 18446744073709551616) (hc : c < 18446744073709551616) (hd : d < 18446744073709551616) : num a b c d = nv (v4 a b c d) := by
  obtain ⟨e0, e1, e2, e3⟩ := lb_v4 ha hb hc hd
  unfold nv
  rw [e0, e1, e2, e3]
theorem plus_nv (a b : Nat) (ha : a < W256) (hb : b < W256) (w : World) :
    Calls Tryz.prog 133 #[nv a, nv b] w fun e w' => e = .returned (.tuple #[nv ((a + b) % W256), .int .u64 (((a + b) / W256 : Nat) : Int)]) ∧ Below w.heap.size w w' := by
  refine (plus_any (lb_lt a 0) (lb_lt a 1) (lb_lt a 2) (lb_lt a 3) (lb_lt b 0) (lb_lt b 1) (lb_lt b 2) (lb_lt b 3) w).mono ?_
  rintro e w' ⟨⟨s0, s1, s2, s3, c, h0, h1, h2, h3, hc, he, rfl⟩, hb'⟩
  refine ⟨?_, hb'⟩
  rw [v4_lb ha, v4_lb hb] at he
  have hl := v4_lt h0 h1 h2 h3
  rw [nv_v4 h0 h1 h2 h3]
  have e1 : (a + b) % W256 = v4 s0 s1 s2 s3 := by rw [← he, Nat.add_mul_mod_self_left, Nat.mod_eq_of_lt hl]
  have e2 : (a + b) / W256 = c := by rw [← he, Nat.add_mul_div_left _ _ (Nat.lt_of_le_of_lt (Nat.zero_le _) hl), Nat.div_eq_of_lt hl, Nat.zero_add]
  rw [e1, e2]
theorem minus_nv (a b : Nat) (ha : a < W256) (hb : b < W256) (w : World) :
    Calls Tryz.prog 131 #[nv a, nv b] w fun e w' => (∃ d c : Nat, d < W256 ∧ c ≤ 1 ∧ d + b = a + W256 * c ∧ e = .returned (.tuple #[nv d, .int .u64 (c : Int)])) ∧ Below w.heap.size w w' := by
  refine (minus_any (lb_lt a 0) (lb_lt a 1) (lb_lt a 2) (lb_lt a 3) (lb_lt b 0) (lb_lt b 1) (lb_lt b 2) (lb_lt b 3) w).mono ?_
  rintro e w' ⟨⟨s0, s1, s2, s3, c, h0, h1, h2, h3, hc, he, rfl⟩, hb'⟩
  rw [v4_lb ha, v4_lb hb] at he
  exact ⟨⟨v4 s0 s1 s2 s3, c, v4_lt h0 h1 h2 h3, hc, he, by rw [nv_v4 h0 h1 h2 h3]⟩, hb'⟩
end Go.Proofs.YtpggkfdijmnmiaaGreat
namespace Go.Proofs.YtpggkfdijmnmiaaGreat
open Go.ChangeShapes Go.WideShapes Go.ChangeAt Go.RowKit Limbs
theorem own : ownKnob Tryz.prog.godebug = none := by kernel_rfl
section
variable {H : Type} {enc : TypeId × Value → H} {P : Program}
theorem post_below {f : Func} {s : ChangeSpec} {apart fresh handsOn again : Bool} {W W' : World} {args : Array Value} {v : Value} {ds gs : List (DataW H)} {before pa pv : List MemPlace}
    (hW : DataW.Whole enc P f.params.toList s.vars apart W args.toList ds gs before)
    (hres : ∀ (b : Nat) (sp : Nat → Bool) (hd : Bool), DataW.TrodAll enc P W' b sp hd f.resultTypes.toList (v.resultList f.resultTypes.size) (s.fn H (ds ++ gs)).results [])
    (hargs : ∀ sp : Nat → Bool, (∀ p ∈ before, sp p.block = true) → DataW.TrodAll enc P W' 0 sp true f.params.toList args.toList (s.fn H (ds ++ gs)).args pa)
    (hvars : ∀ sp : Nat → Bool, (∀ p ∈ before, sp p.block = true) → DataW.TrodVars enc P W' sp s.vars (s.fn H (ds ++ gs)).vars pv)
    (hps : before = pa ++ pv) (hb : Below W.heap.size W W')
    (hok : ∀ (j : Nat) (t : TypeId) (r : Value), f.resultTypes[j]? = some t → (v.resultList f.resultTypes.size)[j]? = some r → Value.okWide P W' .any 0 t r) :
    s.post enc P f apart fresh handsOn again W args v W' := by
  have hlt : ∀ p ∈ before, p.block < W.heap.size := fun p hp => hW.lt p hp
  have hold : ∀ p ∈ before, (fun b => decide (b < W.heap.size)) p.block = true := fun p hp => by simpa using hlt p hp
  refine ⟨ds, gs, before, [], pa, pv, hW, hres _ _ _, hargs _ hold, hvars _ hold, World.keptBut_mono (fun p hp => ⟨hp, ?_⟩) (hb.frame (· ∈ before)), fun _ => ?_⟩
  · rw [hps, List.mem_append] at hp
    exact Or.inr hp
  · obtain ⟨_, _, _, _, _, hz, hn⟩ := hW
    refine ⟨hok, _, _, ([] ++ pa) ++ pv, ⟨[] ++ pa, pv, trodAll_append (hargs _ (fun _ _ => rfl)) (hres _ _ _), hvars _ (fun _ _ => rfl), rfl, ?_, ?_⟩, ?_⟩
    · intro b off hp
      have hin : MemPlace.cell b off ∈ before := by rw [hps]; simpa using hp
      rw [hb.frozen (hlt _ hin)]
      exact hz b off hin
    · intro ha
      have := hn ha
      rw [hps] at this
      simpa using this
    · intro p hp _
      rw [hps]
      simpa using hp
end
theorem reach_is : reachBytes ≤ 140737488351232 := by decide
section
open Go.Joins
variable {H : Type} {enc : TypeId × Value → H}
def nd (x : Nat) : DataW H := .agg [.lit (.int .u64 (lb x 0 : Nat)), .lit (.int .u64 (lb x 1 : Nat)), .lit (.int .u64 (lb x 2 : Nat)), .lit (.int .u64 (lb x 3 : Nat))]
theorem wf_u64 {n : Int} (h : (Lit.int .u64 n).wf = true) : 0 ≤ n ∧ n ≤ 18446744073709551615 := by
  simpa [Lit.wf, IntKind.min, IntKind.max, IntKind.signed, IntKind.bits] using h
theorem u64_wf {n : Nat} (h : n < 18446744073709551616) : (Lit.int .u64 (n : Int)).wf = true := by
  simp [Lit.wf, IntKind.min, IntKind.max, IntKind.signed, IntKind.bits]; omega
theorem open_num {W : World} {r : Reach} {b0 base : Nat} {spare : Nat → Bool} {held : Bool} {v : Value} {d : DataW H} {p : List MemPlace} (hv : Value.okWide Tryz.prog W r b0 24 v) (h : DataW.Trod enc Tryz.prog W base spare held 24 v d p) :
    ∃ x : Nat, x < W256 ∧ v = nv x ∧ d = nd x ∧ p = [] := by
  obtain ⟨cs, rfl, hsz, _⟩ : ∃ cs, v = .agg cs ∧ cs.size = Tryz.prog.cellsOf 24 ∧ Row.okWide Tryz.prog W r b0 24 cs := by
    simpa [Value.okWide, Tryz.underlying24] using hv
  rw [show Tryz.prog.cellsOf 24 = 4 by kernel_rfl] at hsz
  obtain ⟨c0, c1, c2, c3, rfl⟩ := array4 hsz
  obtain ⟨fuel, hf⟩ := h
  obtain ⟨y0, y1, y2, y3, m, hx, hy0, hy1, hy2, hy3⟩ := trod_array4 Tryz.underlying24 (show Tryz.prog.cellsOf 22 = 1 by kernel_rfl) hf
  obtain ⟨x0, e0, rfl, w0⟩ := DataW.trod_int Tryz.underlying22 hy0
  obtain ⟨x1, e1, rfl, w1⟩ := DataW.trod_int Tryz.underlying22 hy1
  obtain ⟨x2, e2, rfl, w2⟩ := DataW.trod_int Tryz.underlying22 hy2
  obtain ⟨x3, e3, rfl, w3⟩ := DataW.trod_int Tryz.underlying22 hy3
  simp at e0 e1 e2 e3
  subst e0 e1 e2 e3
  simp only [Prod.mk.injEq] at hx
  obtain ⟨rfl, rfl⟩ := hx
  have b0 := wf_u64 w0
  have b1 := wf_u64 w1
  have b2 := wf_u64 w2
  have b3 := wf_u64 w3
  obtain ⟨n0, rfl⟩ := Int.eq_ofNat_of_zero_le b0.1
  obtain ⟨n1, rfl⟩ := Int.eq_ofNat_of_zero_le b1.1
  obtain ⟨n2, rfl⟩ := Int.eq_ofNat_of_zero_le b2.1
  obtain ⟨n3, rfl⟩ := Int.eq_ofNat_of_zero_le b3.1
  have h0 : n0 < 18446744073709551616 := by omega
  have h1 : n1 < 18446744073709551616 := by omega
  have h2 : n2 < 18446744073709551616 := by omega
  have h3 : n3 < 18446744073709551616 := by omega
  obtain ⟨l0, l1, l2, l3⟩ := lb_v4 h0 h1 h2 h3
  refine ⟨v4 n0 n1 n2 n3, v4_lt h0 h1 h2 h3, ?_, ?_, rfl⟩
  · exact nv_v4 h0 h1 h2 h3
  · unfold nd; rw [l0, l1, l2, l3]
theorem shut_num {W : World} {base : Nat} {spare : Nat → Bool} {held : Bool} (x : Nat) :
    DataW.Trod enc Tryz.prog W base spare held 24 (nv x) (nd x) [] := by
  have c22 : Tryz.prog.cellsOf 22 = 1 := by kernel_rfl
  have c24 : Tryz.prog.cellsOf 24 = 4 := by kernel_rfl
  have r4 : List.range 4 = [0, 1, 2, 3] := rfl
  exact ⟨2, by simp [DataW.trod, nv, num, nd, Value.cells, Tryz.underlying24, Tryz.underlying22, c22, c24, r4, u64_wf (lb_lt x 0), u64_wf (lb_lt x 1), u64_wf (lb_lt x 2), u64_wf (lb_lt x 3)]⟩
end
end Go.Proofs.YtpggkfdijmnmiaaGreat
namespace Go.Proofs.YtpggkfdijmnmiaaGreat.Primes
def Prm (p : Nat) : Prop := 2 ≤ p ∧ ∀ m, 2 ≤ m → m ∣ p → m = p
theorem Prm.pos {p : Nat} (h : Prm p) : 0 < p := by have := h.1; omega
theorem Prm.cop {p a : Nat} (h : Prm p) (ha : ¬ p ∣ a) : Nat.Coprime p a := by
  have h1 : Nat.gcd p a ∣ p := Nat.gcd_dvd_left p a
  have h2 : Nat.gcd p a ∣ a := Nat.gcd_dvd_right p a
  have h0 : 0 < Nat.gcd p a := Nat.gcd_pos_of_pos_left a h.pos
  rcases Nat.lt_or_ge (Nat.gcd p a) 2 with hl | hl
  · show Nat.gcd p a = 1
    omega
  · have := h.2 _ hl h1
    rw [this] at h2
    exact absurd h2 ha
theorem cancel {p c x y : Nat} (hc : Nat.Coprime p c) (h : c * x % p = c * y % p) : x % p = y % p := by
  have key : ∀ x y : Nat, x ≤ y → c * x % p = c * y % p → x % p = y % p := by
    intro x y hxy h
    have h1 : (c * y - c * x) % p = 0 := Nat.sub_mod_eq_zero_of_mod_eq h.symm
    rw [← Nat.mul_sub] at h1
    obtain ⟨k, hk⟩ := hc.dvd_of_dvd_mul_left (Nat.dvd_of_mod_eq_zero h1)
    have : y = x + p * k := by omega
    rw [this, Nat.add_mul_mod_self_left]
  rcases Nat.le_total x y with hxy | hxy
  · exact key x y hxy h
  · exact (key y x hxy h.symm).symm
def pr : List Nat → Nat
  | [] => 1
  | x :: l => x * pr l
theorem pr_perm {l m : List Nat} (h : l.Perm m) : pr l = pr m := by
  induction h with
  | nil => rfl
  | cons x _ ih => simp [pr, ih]
  | swap x y l => simp only [pr]; rw [← Nat.mul_assoc, ← Nat.mul_assoc, Nat.mul_comm y x]
  | trans _ _ a b => exact a.trans b
theorem perm_of : ∀ (l m : List Nat), l.Nodup → (∀ x ∈ l, x ∈ m) → m.length ≤ l.length → l.Perm m
  | [], m, _, _, h => by
    have : m = [] := List.eq_nil_of_length_eq_zero (by simpa using h)
    rw [this]
  | x :: l, m, hn, hs, h => by
    have hx : x ∈ m := hs x (by simp)
    rw [List.nodup_cons] at hn
    have ih := perm_of l (m.erase x) hn.2 (fun y hy => by
      rw [List.mem_erase_of_ne]
      · exact hs y (by simp [hy])
      · intro e; subst e; exact hn.1 hy) (by rw [List.length_erase_of_mem hx]; simp at h; omega)
    exact (ih.cons x).trans (List.perm_cons_erase hx).symm
theorem pr_mul (p a : Nat) : ∀ l : List Nat, pr (l.map fun x => a * x % p) % p = a ^ l.length * pr l % p
  | [] => by simp [pr]
  | x :: l => by
    have ih := pr_mul p a l
    simp only [List.map_cons, pr, List.length_cons]
    rw [Nat.mul_mod, ih, Nat.mod_mod, ← Nat.mul_mod, Nat.pow_succ]
    congr 1
    rw [Nat.mul_comm (a ^ l.length) a, Nat.mul_assoc, Nat.mul_assoc, Nat.mul_left_comm x]
theorem pr_cop {p : Nat} (h : Prm p) : ∀ l : List Nat, (∀ x ∈ l, ¬ p ∣ x) → Nat.Coprime p (pr l)
  | [], _ => Nat.coprime_one_right p
  | x :: l, hl => Nat.Coprime.mul_right (h.cop (hl x (by simp))) (pr_cop h l fun y hy => hl y (by simp [hy]))
theorem fermat {p a : Nat} (h : Prm p) (ha : ¬ p ∣ a) : a ^ (p - 1) % p = 1 := by
  have h2 := h.1
  have hL : ∀ x, x ∈ List.range' 1 (p - 1) ↔ 1 ≤ x ∧ x < p := by
    intro x
    rw [List.mem_range'_1]
    omega
  have hnd : ∀ x ∈ List.range' 1 (p - 1), ¬ p ∣ x := by
    intro x hx hd
    rw [hL] at hx
    have := Nat.le_of_dvd (by omega) hd
    omega
  have hperm : ((List.range' 1 (p - 1)).map fun x => a * x % p).Perm (List.range' 1 (p - 1)) := by
    apply perm_of
    · rw [List.nodup_iff_pairwise_ne, List.pairwise_map]
      have hp : (List.range' 1 (p - 1)).Pairwise (· < ·) := List.pairwise_lt_range' 1 (by decide)
      refine List.Pairwise.imp_of_mem ?_ hp
      intro x y hx hy hlt e
      rw [hL] at hx hy
      have := cancel (h.cop ha) e
      rw [Nat.mod_eq_of_lt hx.2, Nat.mod_eq_of_lt hy.2] at this
      omega
    · intro y hy
      rw [List.mem_map] at hy
      obtain ⟨x, hx, rfl⟩ := hy
      rw [hL]
      refine ⟨?_, Nat.mod_lt _ h.pos⟩
      rcases Nat.eq_zero_or_pos (a * x % p) with e | e
      · exact absurd ((h.cop ha).dvd_of_dvd_mul_left (Nat.dvd_of_mod_eq_zero e)) (hnd x hx)
      · exact e
    · simp
  have e := pr_mul p a (List.range' 1 (p - 1))
  rw [pr_perm hperm, List.length_range'] at e
  have e2 : pr (List.range' 1 (p - 1)) * 1 % p = pr (List.range' 1 (p - 1)) * a ^ (p - 1) % p := by
    rw [Nat.mul_one, e, Nat.mul_comm]
  have := cancel (pr_cop h _ hnd) e2
  rw [← this]
  exact Nat.mod_eq_of_lt (by omega)
theorem fermat_all {p : Nat} (h : Prm p) (a : Nat) : a ^ p % p = a % p := by
  have h2 := h.1
  obtain ⟨q, hq⟩ : ∃ q, p = q + 1 := ⟨p - 1, by omega⟩
  by_cases ha : p ∣ a
  · have h0 : a % p = 0 := Nat.mod_eq_zero_of_dvd ha
    rw [Nat.pow_mod, h0, Nat.zero_pow (by omega), Nat.zero_mod]
  · have hf := fermat h ha
    have e : a ^ p = a ^ (p - 1) * a := by
      rw [← Nat.pow_succ, show (p - 1).succ = p from by omega]
    rw [e, Nat.mul_mod, hf, Nat.one_mul, Nat.mod_mod]
theorem has_prime : ∀ n : Nat, 2 ≤ n → ∃ r, Prm r ∧ r ∣ n := by
  intro n
  induction n using Nat.strongRecOn with
  | _ n ih =>
    intro hn
    by_cases h : ∃ m, 2 ≤ m ∧ m ∣ n ∧ m ≠ n
    · obtain ⟨m, hm, hd, hne⟩ := h
      have hlt : m < n := Nat.lt_of_le_of_ne (Nat.le_of_dvd (by omega) hd) hne
      obtain ⟨r, hr, hrm⟩ := ih m hlt hm
      exact ⟨r, hr, Nat.dvd_trans hrm hd⟩
    · refine ⟨n, ⟨hn, fun m hm hd => ?_⟩, Nat.dvd_refl n⟩
      by_cases e : m = n
      · exact e
      · exact absurd ⟨m, hm, hd, e⟩ h
theorem prime_of_big {N : Nat} (h2 : 2 ≤ N) (h : ∀ r, Prm r → r ∣ N → N < r * r) : Prm N := by
  refine ⟨h2, fun m hm hd => ?_⟩
  obtain ⟨k, hk⟩ := hd
  rcases Nat.lt_or_ge k 2 with hk2 | hk2
  · have : k = 1 := by
      rcases Nat.eq_zero_or_pos k with e | e
      · rw [e, Nat.mul_zero] at hk; omega
      · omega
    rw [this, Nat.mul_one] at hk
    exact hk.symm
  · exfalso
    have key : ∀ t s : Nat, 2 ≤ t → t ≤ s → N = t * s → False := by
      intro t s ht hts hN
      obtain ⟨r, hr, hrt⟩ := has_prime t ht
      have h1 := h r hr (Nat.dvd_trans hrt ⟨s, hN⟩)
      have h3 : r ≤ t := Nat.le_of_dvd (by omega) hrt
      have h4 : r * r ≤ t * s := Nat.mul_le_mul h3 (Nat.le_trans h3 hts)
      omega
    rcases Nat.le_total m k with hmk | hmk
    · exact key m k hm hmk hk
    · exact key k m hk2 hmk (by rw [hk, Nat.mul_comm])
def noDiv (n : Nat) : Nat → Nat → Bool
  | 0, _ => true
  | f + 1, d => n % d != 0 && noDiv n f (d + 1)
theorem noDiv_says (n : Nat) : ∀ (f d : Nat), noDiv n f d = true → ∀ x, d ≤ x → x < d + f → ¬ x ∣ n
  | 0, d, _, x, h1, h2 => by omega
  | f + 1, d, h, x, h1, h2 => by
    simp only [noDiv, Bool.and_eq_true, bne_iff_ne, ne_eq] at h
    rcases Nat.eq_or_lt_of_le h1 with e | e
    · subst e
      intro hd
      exact h.1 (Nat.mod_eq_zero_of_dvd hd)
    · exact noDiv_says n f (d + 1) h.2 x e (by omega)
theorem prime_by_trial {N : Nat} (s : Nat) (h2 : 2 ≤ N) (hs : N < s * s) (h : noDiv N (s - 2) 2 = true) : Prm N := by
  refine prime_of_big h2 fun r hr hd => ?_
  have h2r := hr.1
  rcases Nat.lt_or_ge r s with hl | hl
  · exact absurd hd (noDiv_says N (s - 2) 2 h r h2r (by omega))
  · exact Nat.lt_of_lt_of_le hs (Nat.mul_le_mul hl hl)
def pm (m : Nat) : Nat → Nat → Nat → Nat
  | 0, _, _ => 1 % m
  | f + 1, a, e => if e % 2 = 1 then a * pm m f (a * a % m) (e / 2) % m else pm m f (a * a % m) (e / 2)
theorem pm_is (m : Nat) : ∀ (f a e : Nat), e < 2 ^ f → pm m f a e = a ^ e % m
  | 0, a, e, h => by
    have : e = 0 := by simpa using h
    subst this; rfl
  | f + 1, a, e, h => by
    have ih := pm_is m f (a * a % m) (e / 2) (by rw [Nat.pow_succ] at h; omega)
    have hp : (a * a % m) ^ (e / 2) % m = (a * a) ^ (e / 2) % m := (Nat.pow_mod (a * a) (e / 2) m).symm
    have h2 : (a * a) ^ (e / 2) = a ^ (2 * (e / 2)) := by
      rw [Nat.pow_mul, Nat.pow_two]
    rw [pm, ih, hp, h2]
    split
    · rename_i ho
      rw [Nat.mul_mod, Nat.mod_mod, ← Nat.mul_mod, Nat.mul_comm, ← Nat.pow_succ, show (2 * (e / 2)).succ = e from by omega]
    · rename_i ho
      rw [show 2 * (e / 2) = e from by omega]
theorem pow_gcd {r b : Nat} (hr : 2 ≤ r) : ∀ x y : Nat, b ^ x % r = 1 → b ^ y % r = 1 → b ^ Nat.gcd x y % r = 1 := by
  intro x y
  induction x, y using Nat.gcd.induction with
  | H0 y => intro _ h; rw [Nat.gcd_zero_left]; exact h
  | H1 x y hx ih =>
    intro h1 h2
    rw [Nat.gcd_rec]
    refine ih ?_ h1
    have e : b ^ y = (b ^ x) ^ (y / x) * b ^ (y % x) := by
      rw [← Nat.pow_mul, ← Nat.pow_add, Nat.div_add_mod]
    rw [e, Nat.mul_mod, Nat.pow_mod, h1, Nat.one_pow, Nat.mod_eq_of_lt (show 1 < r by omega), Nat.one_mul, Nat.mod_mod] at h2
    exact h2
theorem pock_one {N q a r : Nat} (hq : Prm q) (hqN : q ∣ N - 1) (hN : 2 ≤ N) (h1 : a ^ (N - 1) % N = 1) (h2 : Nat.gcd (a ^ ((N - 1) / q) % N + (N - 1)) N = 1) (hr : Prm r) (hd : r ∣ N) : q ∣ r - 1 := by
  have hr2 := hr.1
  obtain ⟨k, hk⟩ := hqN
  have hkd : (N - 1) / q = k := by rw [hk]; exact Nat.mul_div_cancel_left k hq.pos
  rw [hkd] at h2
  have modr : ∀ x : Nat, x % N % r = x % r := fun x => Nat.mod_mod_of_dvd x hd
  have e1 : (a ^ k) ^ q % r = 1 := by
    rw [← Nat.pow_mul, Nat.mul_comm, ← hk, ← modr, h1]
    exact Nat.mod_eq_of_lt (by omega)
  have hra : ¬ r ∣ a ^ k := by
    intro h
    have : (a ^ k) ^ q % r = 0 := by
      rw [Nat.pow_mod, Nat.mod_eq_zero_of_dvd h, Nat.zero_pow hq.pos, Nat.zero_mod]
    omega
  have e2 : (a ^ k) ^ (r - 1) % r = 1 := fermat hr hra
  have hne : (a ^ k) % r ≠ 1 := by
    intro h
    have hdv : r ∣ a ^ k % N + (N - 1) := by
      apply Nat.dvd_of_mod_eq_zero
      have h3 : (N - 1 + 1) % r = 0 := by rw [show N - 1 + 1 = N from by omega]; exact Nat.mod_eq_zero_of_dvd hd
      rw [Nat.add_mod, modr, h]
      rw [Nat.add_mod] at h3
      rw [Nat.mod_eq_of_lt (show 1 < r by omega)] at h3
      rw [Nat.add_comm]
      exact h3
    have : r ∣ 1 := by rw [← h2]; exact Nat.dvd_gcd hdv hd
    have := Nat.le_of_dvd (by decide) this
    omega
  have hg := pow_gcd hr2 q (r - 1) e1 e2
  rcases Nat.lt_or_ge (Nat.gcd q (r - 1)) 2 with hl | hl
  · have h0 : 0 < Nat.gcd q (r - 1) := Nat.gcd_pos_of_pos_left _ hq.pos
    rw [show Nat.gcd q (r - 1) = 1 from by omega, Nat.pow_one] at hg
    exact absurd hg hne
  · have := hq.2 _ hl (Nat.gcd_dvd_left q (r - 1))
    rw [← this]
    exact Nat.gcd_dvd_right q (r - 1)
theorem pock1 {N : Nat} (q a : Nat) (hq : Prm q) (hN : 2 ≤ N) (hqN : (N - 1) % q = 0) (hs : N < q * q) (h1 : pm N 256 a (N - 1) = 1) (hb : N - 1 < 2 ^ 256) (h2 : Nat.gcd (pm N 256 a ((N - 1) / q) + (N - 1)) N = 1) : Prm N := by
  rw [pm_is _ _ _ _ hb] at h1
  rw [pm_is _ _ _ _ (Nat.lt_of_le_of_lt (Nat.div_le_self _ _) hb)] at h2
  refine prime_of_big hN fun r hr hd => ?_
  have h := pock_one hq (Nat.dvd_of_mod_eq_zero hqN) hN h1 h2 hr hd
  have hr2 := hr.1
  have hle := Nat.le_of_dvd (by omega) h
  exact Nat.lt_of_lt_of_le hs (Nat.mul_le_mul (by omega) (by omega))
theorem pock2 {N : Nat} (q a q' a' : Nat) (hq : Prm q) (hq' : Prm q') (hN : 2 ≤ N) (hqq : Nat.gcd q q' = 1) (hqN : (N - 1) % q = 0) (hqN' : (N - 1) % q' = 0) (hs : N < (q * q') * (q * q')) (h1 : pm N 256 a (N - 1) = 1) (h1' : pm N 256 a' (N - 1) = 1) (hb : N - 1 < 2 ^ 256)
    (h2 : Nat.gcd (pm N 256 a ((N - 1) / q) + (N - 1)) N = 1) (h2' : Nat.gcd (pm N 256 a' ((N - 1) / q') + (N - 1)) N = 1) : Prm N := by
  rw [pm_is _ _ _ _ hb] at h1 h1'
  rw [pm_is _ _ _ _ (Nat.lt_of_le_of_lt (Nat.div_le_self _ _) hb)] at h2 h2'
  refine prime_of_big hN fun r hr hd => ?_
  have h := pock_one hq (Nat.dvd_of_mod_eq_zero hqN) hN h1 h2 hr hd
  have h' := pock_one hq' (Nat.dvd_of_mod_eq_zero hqN') hN h1' h2' hr hd
  have hm : q * q' ∣ r - 1 := Nat.Coprime.mul_dvd_of_dvd_of_dvd hqq h h'
  have hr2 := hr.1
  have hle := Nat.le_of_dvd (by omega) hm
  exact Nat.lt_of_lt_of_le hs (Nat.mul_le_mul (by omega) (by omega))
end Go.Proofs.YtpggkfdijmnmiaaGreat.Primes
namespace Go.Proofs.YtpggkfdijmnmiaaGreat.Primes
theorem p197 : Prm 197 := prime_by_trial 15 (by decide +kernel) (by decide +kernel) (by decide +kernel)
theorem p3023 : Prm 3023 := prime_by_trial 55 (by decide +kernel) (by decide +kernel) (by decide +kernel)
theorem p3677 : Prm 3677 := prime_by_trial 61 (by decide +kernel) (by decide +kernel) (by decide +kernel)
theorem p78283 : Prm 78283 := prime_by_trial 280 (by decide +kernel) (by decide +kernel) (by decide +kernel)
theorem p704251 : Prm 704251 := prime_by_trial 840 (by decide +kernel) (by decide +kernel) (by decide +kernel)
theorem p3969899 : Prm 3969899 := prime_by_trial 1993 (by decide +kernel) (by decide +kernel) (by decide +kernel)
theorem p191039911 : Prm 191039911 := prime_by_trial 13822 (by decide +kernel) (by decide +kernel) (by decide +kernel)
theorem p66417393611 : Prm 66417393611 := pock2 3677 2 197 2 p3677 p197 (by decide +kernel) (by decide +kernel) (by decide +kernel) (by decide +kernel) (by decide +kernel) (by decide +kernel) (by decide +kernel) (by decide +kernel) (by decide +kernel) (by decide +kernel)
theorem p1002328039319 : Prm 1002328039319 := pock1 3969899 2 p3969899 (by decide +kernel) (by decide +kernel) (by decide +kernel) (by decide +kernel) (by decide +kernel) (by decide +kernel)
theorem p11290956913871 : Prm 11290956913871 := pock1 66417393611 2 p66417393611 (by decide +kernel) (by decide +kernel) (by decide +kernel) (by decide +kernel) (by decide +kernel) (by decide +kernel)
theorem p46076956964474543 : Prm 46076956964474543 := pock2 704251 2 78283 2 p704251 p78283 (by decide +kernel) (by decide +kernel) (by decide +kernel) (by decide +kernel) (by decide +kernel) (by decide +kernel) (by decide +kernel) (by decide +kernel) (by decide +kernel) (by decide +kernel)
theorem p208150935158385979 : Prm 208150935158385979 := pock2 191039911 2 3023 2 p191039911 p3023 (by decide +kernel) (by decide +kernel) (by decide +kernel) (by decide +kernel) (by decide +kernel) (by decide +kernel) (by decide +kernel) (by decide +kernel) (by decide +kernel) (by decide +kernel)
theorem p2624747550333869278416773953 : Prm 2624747550333869278416773953 := pock1 208150935158385979 2 p208150935158385979 (by decide +kernel) (by decide +kernel) (by decide +kernel) (by decide +kernel) (by decide +kernel) (by decide +kernel)
theorem p774023187263532362759620327192479577272145303 : Prm 774023187263532362759620327192479577272145303 := pock2 46076956964474543 2 11290956913871 2 p46076956964474543 p11290956913871 (by decide +kernel) (by decide +kernel) (by decide +kernel) (by decide +kernel) (by decide +kernel) (by decide +kernel) (by decide +kernel) (by decide +kernel) (by decide +kernel) (by decide +kernel)
theorem p835945042244614951780389953367877943453916927241 : Prm 835945042244614951780389953367877943453916927241 := pock1 774023187263532362759620327192479577272145303 2 p774023187263532362759620327192479577272145303 (by decide +kernel) (by decide +kernel) (by decide +kernel) (by decide +kernel) (by decide +kernel) (by decide +kernel)
theorem N256 : Prm 115792089210356248762697446949407573529996955224135760342422259061068512044369 := pock2 2624747550333869278416773953 2 1002328039319 2 p2624747550333869278416773953 p1002328039319 (by decide +kernel) (by decide +kernel) (by decide +kernel) (by decide +kernel) (by decide +kernel) (by decide +kernel) (by decide +kernel) (by decide +kernel) (by decide +kernel) (by decide +kernel)
theorem P256 : Prm 115792089210356248762697446949407573530086143415290314195533631308867097853951 := pock1 835945042244614951780389953367877943453916927241 2 p835945042244614951780389953367877943453916927241 (by decide +kernel) (by decide +kernel) (by decide +kernel) (by decide +kernel) (by decide +kernel) (by decide +kernel)
end Go.Proofs.YtpggkfdijmnmiaaGreat.Primes
namespace Go.Proofs.YtpggkfdijmnmiaaGreat
open Go.RowKit Limbs
def Bk (t : TypeId) (w : World) (g : Nat) (cs : Array Value) : Prop := w.heap[g]? = some (.cells cs t (0, 0))
theorem Bk.lt {t : TypeId} {w : World} {g : Nat} {cs : Array Value} (h : Bk t w g cs) : g < w.heap.size := (Array.getElem?_eq_some_iff.1 h).1
theorem Bk.new {t : TypeId} {w : World} {g : Nat} {cs : Array Value} (h : g = w.heap.size) : Bk t (w.alloc (.cells cs t)) g cs := by
  subst h; exact Go.heap_alloc_new w _
theorem Bk.alloc {t : TypeId} {w : World} {g : Nat} {cs : Array Value} {o : Obj} (h : Bk t w g cs) : Bk t (w.alloc o) g cs := (show (w.alloc o).heap[g]? = w.heap[g]? from by show (w.heap.push o)[g]? = _; rw [Array.getElem?_push, if_neg (Nat.ne_of_lt h.lt)]).trans h
theorem Bk.drew {t : TypeId} {w : World} {g : Nat} {cs : Array Value} (h : Bk t w g cs) : Bk t w.drew g cs := h
theorem Bk.same {t : TypeId} {w : World} {g i : Nat} {cs : Array Value} {v : Value} (h : Bk t w g cs) : Bk t (w.setCell ⟨g, i, none⟩ v) g (cs.setIfInBounds i v) := heap_setCell_same w g i cs t v h
theorem Bk.oth {t : TypeId} {w : World} {g : Nat} {a : Addr} {cs : Array Value} {v : Value} (hn : g ≠ a.block) (h : Bk t w g cs) : Bk t (w.setCell a v) g cs := (heap_setCell_other w a g v hn).trans h
theorem Bk.below {t : TypeId} {w w' : World} {g : Nat} {cs : Array Value} (h : Bk t w g cs) (hb : Below w.heap.size w w') : Bk t w' g cs := (hb.block _ h.lt).trans h
theorem Bk.cell {t : TypeId} {w : World} {g : Nat} {cs : Array Value} (h : Bk t w g cs) (i : Nat) : w.cell? ⟨g, i, none⟩ = cs[i]? := cell_of_row w g i cs t (0, 0) h
theorem Bk.fro {t : TypeId} {w : World} {g : Nat} {cs : Array Value} (h : Bk t w g cs) (i : Nat) : w.frozen? ⟨g, i, none⟩ = false := frozen_of_row w g i cs t h
theorem Bk.cells {t : TypeId} {w : World} {g : Nat} {a b c d : Value} (h : Bk t w g #[a, b, c, d]) : w.cell? ⟨g, 0, none⟩ = some a ∧ w.cell? ⟨g, 1, none⟩ = some b ∧ w.cell? ⟨g, 2, none⟩ = some c ∧ w.cell? ⟨g, 3, none⟩ = some d :=
  ⟨h.cell 0, h.cell 1, h.cell 2, h.cell 3⟩
theorem Bk.fros {t : TypeId} {w : World} {g : Nat} {cs : Array Value} (h : Bk t w g cs) : w.frozen? ⟨g, 0, none⟩ = false ∧ w.frozen? ⟨g, 1, none⟩ = false ∧ w.frozen? ⟨g, 2, none⟩ = false ∧ w.frozen? ⟨g, 3, none⟩ = false :=
  ⟨h.fro 0, h.fro 1, h.fro 2, h.fro 3⟩
theorem Bk.cellsA {t : TypeId} {w : World} {g : Nat} {a b c d : Value} (h : Bk t w g #[a, b, c, d]) : (∀ o, (w.alloc o).cell? ⟨g, 0, none⟩ = some a) ∧ (∀ o, (w.alloc o).cell? ⟨g, 1, none⟩ = some b) ∧ (∀ o, (w.alloc o).cell? ⟨g, 2, none⟩ = some c) ∧ (∀ o, (w.alloc o).cell? ⟨g, 3, none⟩ = some d) :=
  ⟨fun _ => h.alloc.cell 0, fun _ => h.alloc.cell 1, fun _ => h.alloc.cell 2, fun _ => h.alloc.cell 3⟩
theorem Bk.frosA {t : TypeId} {w : World} {g : Nat} {cs : Array Value} (h : Bk t w g cs) : (∀ o, (w.alloc o).frozen? ⟨g, 0, none⟩ = false) ∧ (∀ o, (w.alloc o).frozen? ⟨g, 1, none⟩ = false) ∧ (∀ o, (w.alloc o).frozen? ⟨g, 2, none⟩ = false) ∧ (∀ o, (w.alloc o).frozen? ⟨g, 3, none⟩ = false) :=
  ⟨fun _ => h.alloc.fro 0, fun _ => h.alloc.fro 1, fun _ => h.alloc.fro 2, fun _ => h.alloc.fro 3⟩
def cs4 (x : Nat) : Array Value := #[.int .u64 (lb x 0 : Nat), .int .u64 (lb x 1 : Nat), .int .u64 (lb x 2 : Nat), .int .u64 (lb x 3 : Nat)]
def cs0 : Array Value := #[.int .u64 0, .int .u64 0, .int .u64 0, .int .u64 0]
theorem keep {f : FuncId} {args : Array Value} {W : World} {R : Ending → Prop} (B : Nat) (w : World) (h : Calls Tryz.prog f args W fun e w' => R e ∧ Below W.heap.size W w') (hb : Below B w W) (hB : B ≤ w.heap.size) :
    Calls Tryz.prog f args W fun e w' => R e ∧ Below B w w' ∧ Below W.heap.size W w' :=
  h.mono fun _ _ h => ⟨h.1, hb.trans (h.2.mono (Nat.le_trans hB hb.size)), h.2⟩
theorem Bk.put {t : TypeId} {w : World} {g : Nat} {a b c d a' b' c' d' : Value} (h : Bk t w g #[a, b, c, d]) : Bk t ((((w.setCell ⟨g, 0, none⟩ a').setCell ⟨g, 1, none⟩ b').setCell ⟨g, 2, none⟩ c').setCell ⟨g, 3, none⟩ d') g #[a', b', c', d'] :=
  Bk.same (i := 3) (v := d') (Bk.same (i := 2) (v := c') (Bk.same (i := 1) (v := b') (Bk.same (i := 0) (v := a') h)))
theorem Bk.puto {t : TypeId} {w : World} {g h : Nat} {cs : Array Value} {a' b' c' d' : Value} (hn : g ≠ h) (k : Bk t w g cs) : Bk t ((((w.setCell ⟨h, 0, none⟩ a').setCell ⟨h, 1, none⟩ b').setCell ⟨h, 2, none⟩ c').setCell ⟨h, 3, none⟩ d') g cs :=
  Bk.oth hn (Bk.oth hn (Bk.oth hn (Bk.oth hn k)))
theorem u24 : Tryz.prog.underlying 24 = some (.array 4 22) := by kernel_rfl
theorem i24 : (Tryz.prog.info? 24).map (·.size) = some 4 := by kernel_rfl
theorem ret_cell {fn : Func} {R : Ending → World → Prop} {a : Act} {w : World} {p : Tmp} (h : fn.results = #[.cell p 24]) (g x : Nat) (hp : a.tmps.getD p undef = .pointer (some ⟨g, 0, none⟩)) (hk : Bk 24 w g (cs4 x)) (hd : a.defers = []) (hR : R (.returned (nv x)) w) : bodyPost Tryz.prog fn R .ret a w :=
  bodyPost_ret (v := nv x) (results_cell_row h a.tmps w g 24 (cs4 x) (0, 0) _ hp hk u24 rfl i24) hd hR
theorem ret_cell2 {fn : Func} {R : Ending → World → Prop} {a : Act} {w : World} {p u : Tmp} (h : fn.results = #[.cell p 24, .tmp u]) (g x : Nat) (y : Value) (hp : a.tmps.getD p undef = .pointer (some ⟨g, 0, none⟩)) (hy : a.tmps.getD u undef = y) (hk : Bk 24 w g (cs4 x)) (hd : a.defers = []) (hR : R (.returned (.tuple #[nv x, y])) w) : bodyPost Tryz.prog fn R .ret a w := by
  subst hy
  refine bodyPost_ret (v := .tuple #[nv x, a.tmps.getD u undef]) ?_ hd hR
  rw [results_cell_tmp h, hp]
  show ((loadVar 24 ⟨g, 0, none⟩).run Tryz.prog w).andThen _ = _
  rw [run_loadVar_row w g 24 24 (cs4 x) (0, 0) _ hk u24 rfl i24]
  rfl
set_option maxHeartbeats 4000000 in
theorem left_any (a M : Nat) (ha : a < W256) (hM : M < W256) (h2 : a < 2 * M) (w : World) :
    Calls Tryz.prog 132 #[nv a, nv M] w fun e w' => e = .returned (nv (a % M)) ∧ Below w.heap.size w w' := by
  have HM : Hid (∀ d c : Nat, d < W256 → d + M = a + W256 * c → (c = 0 → d = a % M) ∧ (c ≠ 0 → a = a % M)) := Lib.hid (by
    intro d c hd he
    constructor
    · intro h; subst h
      rw [show a = d + M from by omega, Nat.add_mod_right, Nat.mod_eq_of_lt (by omega)]
    · intro h
      have : W256 * 1 ≤ W256 * c := Nat.mul_le_mul_left _ (by omega)
      rw [Nat.mod_eq_of_lt (by omega)])
  simp only [nv, num]
  go_enter Tryz.func132, Tryz.ntmps132
  go_wp2_with fail
  refine (keep w.heap.size w (minus_nv a M ha hM _) (by go_grown) (Nat.le_refl _)).mono ?_
  rintro e w2 ⟨⟨d, c, hd, hc, he, rfl⟩, hb, hk⟩
  have K0 : Hid (Bk 24 w2 w.heap.size (cs4 a)) := Lib.hid (Bk.below (Bk.alloc (Bk.alloc (Bk.new rfl))) hk)
  have K1 : Hid (Bk 24 w2 (w.heap.size + 1 + 1) cs0) := Lib.hid (Bk.below (Bk.new (by simp)) hk)
  clear hk
  simp only [nv, num]
  have HE := Lib.hid (HM.out d c hd he)
  have HB := Lib.hid hb
  clear he hb HM
  obtain ⟨i0, i1, i2, i3⟩ := K0.out.cellsA
  obtain ⟨j0, j1, j2, j3⟩ := K1.out.cellsA
  obtain ⟨f0, f1, f2, f3⟩ := K1.out.frosA
  clear hc
  by_cases hc0 : c = 0
  · have HA : Hid (d = a % M) := Lib.hid (HE.out.1 hc0)
    subst hc0
    clear HE
    go_wp2_with fail
    refine ret_cell rfl (w.heap.size + 1 + 1) d rfl (Bk.put K1.out.alloc) rfl ⟨by rw [← HA.out]; rfl, ?_⟩
    have hb := HB.out
    have hs := hb.size
    go_grown
  · have HA : Hid (a = a % M) := Lib.hid (HE.out.2 hc0)
    have hc1 : (((c : Nat) : Int) != 0) = true := by simp; omega
    clear HE hc0
    go_wp2_with fail
    refine ret_cell rfl (w.heap.size + 1 + 1) a rfl (Bk.put K1.out.alloc) rfl ⟨by rw [← HA.out]; rfl, ?_⟩
    have hb := HB.out
    have hs := hb.size
    go_grown
end Go.Proofs.YtpggkfdijmnmiaaGreat
namespace Go.Proofs.YtpggkfdijmnmiaaGreat
open Go.RowKit Limbs
theorem info22 : ∃ i, Tryz.prog.info? 22 = some i := Option.isSome_iff_exists.1 (by kernel_rfl)
theorem cells22 : Tryz.prog.cellsOf 22 = 1 := by kernel_rfl
theorem one22 (v : Int) (j : Nat) (xs : Array Value) (h : xs[j]? = some (.int .u64 v)) (w : World) : (part 22 xs j).run Tryz.prog w = .ok (.int .u64 v) w := by
  simp [part, go_sem, Tryz.underlying22, Tryz.isAgg22, Tryz.sizeOf22, h]
theorem eq24 (a0 a1 a2 a3 b0 b1 b2 b3 : Int) (w : World) : (Op.equalIn 10000 24 (.agg #[.int .u64 a0, .int .u64 a1, .int .u64 a2, .int .u64 a3]) (.agg #[.int .u64 b0, .int .u64 b1, .int .u64 b2, .int .u64 b3])).run Tryz.prog w = .ok (a0 == b0 && (a1 == b1 && (a2 == b2 && a3 == b3))) w := by
  obtain ⟨i, hi⟩ := info22
  rw [show (10000 : Nat) = 9999 + 1 from rfl, run_equalIn_array w 9999 _ _ u24 hi, cells22]
  have hr : List.range 4 = [0, 1, 2, 3] := rfl
  rw [hr]
  have e (a b : Int) (w : World) : (Op.equalIn 9999 22 (.int .u64 a) (.int .u64 b)).run Tryz.prog w = .ok (a == b) w := run_equalIn_int w 9998 22 .u64 .u64 a b Tryz.underlying22
  have pa0 := one22 a0 0 #[.int .u64 a0, .int .u64 a1, .int .u64 a2, .int .u64 a3] rfl
  have pa1 := one22 a1 1 #[.int .u64 a0, .int .u64 a1, .int .u64 a2, .int .u64 a3] rfl
  have pa2 := one22 a2 2 #[.int .u64 a0, .int .u64 a1, .int .u64 a2, .int .u64 a3] rfl
  have pa3 := one22 a3 3 #[.int .u64 a0, .int .u64 a1, .int .u64 a2, .int .u64 a3] rfl
  have pb0 := one22 b0 0 #[.int .u64 b0, .int .u64 b1, .int .u64 b2, .int .u64 b3] rfl
  have pb1 := one22 b1 1 #[.int .u64 b0, .int .u64 b1, .int .u64 b2, .int .u64 b3] rfl
  have pb2 := one22 b2 2 #[.int .u64 b0, .int .u64 b1, .int .u64 b2, .int .u64 b3] rfl
  have pb3 := one22 b3 3 #[.int .u64 b0, .int .u64 b1, .int .u64 b2, .int .u64 b3] rfl
  simp only [Op.eqItems, Sem.run_bind, Nat.mul_one, pa0, pa1, pa2, pa3, pb0, pb1, pb2, pb3, Result.andThen_ok, e]
  cases h0 : (a0 == b0) <;> cases h1 : (a1 == b1) <;> cases h2 : (a2 == b2) <;> cases h3 : (a3 == b3) <;> simp [pa1, pa2, pa3, pb1, pb2, pb3, e, h0, h1, h2, h3, Op.eqItems]
theorem eqN (x y : Nat) (hx : x < W256) (hy : y < W256) (w : World) : (Op.equalIn 10000 24 (.agg #[.int .u64 (lb x 0 : Nat), .int .u64 (lb x 1 : Nat), .int .u64 (lb x 2 : Nat), .int .u64 (lb x 3 : Nat)]) (.agg #[.int .u64 (lb y 0 : Nat), .int .u64 (lb y 1 : Nat), .int .u64 (lb y 2 : Nat), .int .u64 (lb y 3 : Nat)])).run Tryz.prog w = .ok (decide (x = y)) w := by
  rw [eq24]
  congr 1
  rw [Bool.eq_iff_iff]
  simp only [Bool.and_eq_true, beq_iff_eq, decide_eq_true_eq]
  constructor
  · rintro ⟨h0, h1, h2, h3⟩
    rw [← v4_lb hx, ← v4_lb hy, show lb x 0 = lb y 0 by omega, show lb x 1 = lb y 1 by omega, show lb x 2 = lb y 2 by omega, show lb x 3 = lb y 3 by omega]
  · rintro rfl; simp
end Go.Proofs.YtpggkfdijmnmiaaGreat
namespace Go.Proofs.YtpggkfdijmnmiaaGreat
open Go.RowKit Limbs
def jn (x y z : Nat) : Value := .agg #[.int .u64 (lb x 0 : Nat), .int .u64 (lb x 1 : Nat), .int .u64 (lb x 2 : Nat), .int .u64 (lb x 3 : Nat), .int .u64 (lb y 0 : Nat), .int .u64 (lb y 1 : Nat), .int .u64 (lb y 2 : Nat), .int .u64 (lb y 3 : Nat), .int .u64 (lb z 0 : Nat), .int .u64 (lb z 1 : Nat), .int .u64 (lb z 2 : Nat), .int .u64 (lb z 3 : Nat)]
def pn (x y : Nat) (i : Bool) : Value := .agg #[.int .u64 (lb x 0 : Nat), .int .u64 (lb x 1 : Nat), .int .u64 (lb x 2 : Nat), .int .u64 (lb x 3 : Nat), .int .u64 (lb y 0 : Nat), .int .u64 (lb y 1 : Nat), .int .u64 (lb y 2 : Nat), .int .u64 (lb y 3 : Nat), .bool i]
theorem u93 : Tryz.prog.underlying 162 = some (.struct (Tryz.prog.fieldsOf 162)) := by kernel_rfl
theorem u51 : Tryz.prog.underlying 26 = some (.struct (Tryz.prog.fieldsOf 26)) := by kernel_rfl
theorem i93 : (Tryz.prog.info? 162).map (·.size) = some 12 := by kernel_rfl
theorem i51 : (Tryz.prog.info? 26).map (·.size) = some 9 := by kernel_rfl
theorem part24 (xs : Array Value) (o : Nat) (h : o + 4 ≤ xs.size) (w : World) : (part 24 xs o).run Tryz.prog w = .ok (.agg (xs.extract o (o + 4))) w := by
  simp [part, go_sem, Tryz.underlying24, Tryz.isAgg24, Tryz.sizeOf24, h]
theorem eq24' (d : Nat) (a0 a1 a2 a3 b0 b1 b2 b3 : Int) (w : World) : (Op.equalIn (d + 2) 24 (.agg #[.int .u64 a0, .int .u64 a1, .int .u64 a2, .int .u64 a3]) (.agg #[.int .u64 b0, .int .u64 b1, .int .u64 b2, .int .u64 b3])).run Tryz.prog w = .ok (a0 == b0 && (a1 == b1 && (a2 == b2 && a3 == b3))) w := by
  obtain ⟨i, hi⟩ := info22
  rw [run_equalIn_array w (d + 1) _ _ u24 hi, cells22]
  have hr : List.range 4 = [0, 1, 2, 3] := rfl
  rw [hr]
  have e (a b : Int) (w : World) : (Op.equalIn (d + 1) 22 (.int .u64 a) (.int .u64 b)).run Tryz.prog w = .ok (a == b) w := run_equalIn_int w d 22 .u64 .u64 a b Tryz.underlying22
  have pa0 := one22 a0 0 #[.int .u64 a0, .int .u64 a1, .int .u64 a2, .int .u64 a3] rfl
  have pa1 := one22 a1 1 #[.int .u64 a0, .int .u64 a1, .int .u64 a2, .int .u64 a3] rfl
  have pa2 := one22 a2 2 #[.int .u64 a0, .int .u64 a1, .int .u64 a2, .int .u64 a3] rfl
  have pa3 := one22 a3 3 #[.int .u64 a0, .int .u64 a1, .int .u64 a2, .int .u64 a3] rfl
  have pb0 := one22 b0 0 #[.int .u64 b0, .int .u64 b1, .int .u64 b2, .int .u64 b3] rfl
  have pb1 := one22 b1 1 #[.int .u64 b0, .int .u64 b1, .int .u64 b2, .int .u64 b3] rfl
  have pb2 := one22 b2 2 #[.int .u64 b0, .int .u64 b1, .int .u64 b2, .int .u64 b3] rfl
  have pb3 := one22 b3 3 #[.int .u64 b0, .int .u64 b1, .int .u64 b2, .int .u64 b3] rfl
  simp only [Op.eqItems, Sem.run_bind, Nat.mul_one, pa0, pa1, pa2, pa3, pb0, pb1, pb2, pb3, Result.andThen_ok, e]
  cases h0 : (a0 == b0) <;> cases h1 : (a1 == b1) <;> cases h2 : (a2 == b2) <;> cases h3 : (a3 == b3) <;> simp [pa1, pa2, pa3, pb1, pb2, pb3, e, h0, h1, h2, h3, Op.eqItems]
theorem eqN' (d : Nat) (x y : Nat) (hx : x < W256) (hy : y < W256) (w : World) : (Op.equalIn (d + 2) 24 (.agg #[.int .u64 (lb x 0 : Nat), .int .u64 (lb x 1 : Nat), .int .u64 (lb x 2 : Nat), .int .u64 (lb x 3 : Nat)]) (.agg #[.int .u64 (lb y 0 : Nat), .int .u64 (lb y 1 : Nat), .int .u64 (lb y 2 : Nat), .int .u64 (lb y 3 : Nat)])).run Tryz.prog w = .ok (decide (x = y)) w := by
  rw [eq24']
  congr 1
  rw [Bool.eq_iff_iff]
  simp only [Bool.and_eq_true, beq_iff_eq, decide_eq_true_eq]
  constructor
  · rintro ⟨h0, h1, h2, h3⟩
    rw [← v4_lb hx, ← v4_lb hy, show lb x 0 = lb y 0 by omega, show lb x 1 = lb y 1 by omega, show lb x 2 = lb y 2 by omega, show lb x 3 = lb y 3 by omega]
  · rintro rfl; simp
theorem eqJ (x y z x' y' z' : Nat) (hx : x < W256) (hy : y < W256) (hz : z < W256) (hx' : x' < W256) (hy' : y' < W256) (hz' : z' < W256) (w : World) : (Op.equalIn 10000 162 (jn x y z) (jn x' y' z')).run Tryz.prog w = .ok (decide (x = x' ∧ y = y' ∧ z = z')) w := by
  unfold jn
  rw [show (10000 : Nat) = 9999 + 1 from rfl, run_equalIn_struct w 9999 162 _ _ u93 (by kernel_rfl)]
  have h1 := eqN' 9997 x x' hx hx' w
  have h2 := eqN' 9997 y y' hy hy' w
  have h3 := eqN' 9997 z z' hz hz' w
  have a0 : (part 24 #[.int .u64 (lb x 0 : Nat), .int .u64 (lb x 1 : Nat), .int .u64 (lb x 2 : Nat), .int .u64 (lb x 3 : Nat), .int .u64 (lb y 0 : Nat), .int .u64 (lb y 1 : Nat), .int .u64 (lb y 2 : Nat), .int .u64 (lb y 3 : Nat), .int .u64 (lb z 0 : Nat), .int .u64 (lb z 1 : Nat), .int .u64 (lb z 2 : Nat), .int .u64 (lb z 3 : Nat)] 0).run Tryz.prog w = .ok (.agg #[.int .u64 (lb x 0 : Nat), .int .u64 (lb x 1 : Nat), .int .u64 (lb x 2 : Nat), .int .u64 (lb x 3 : Nat)]) w := part24 _ _ (by simp) w
  have a1 : (part 24 #[.int .u64 (lb x 0 : Nat), .int .u64 (lb x 1 : Nat), .int .u64 (lb x 2 : Nat), .int .u64 (lb x 3 : Nat), .int .u64 (lb y 0 : Nat), .int .u64 (lb y 1 : Nat), .int .u64 (lb y 2 : Nat), .int .u64 (lb y 3 : Nat), .int .u64 (lb z 0 : Nat), .int .u64 (lb z 1 : Nat), .int .u64 (lb z 2 : Nat), .int .u64 (lb z 3 : Nat)] 4).run Tryz.prog w = .ok (.agg #[.int .u64 (lb y 0 : Nat), .int .u64 (lb y 1 : Nat), .int .u64 (lb y 2 : Nat), .int .u64 (lb y 3 : Nat)]) w := part24 _ _ (by simp) w
  have a2 : (part 24 #[.int .u64 (lb x 0 : Nat), .int .u64 (lb x 1 : Nat), .int .u64 (lb x 2 : Nat), .int .u64 (lb x 3 : Nat), .int .u64 (lb y 0 : Nat), .int .u64 (lb y 1 : Nat), .int .u64 (lb y 2 : Nat), .int .u64 (lb y 3 : Nat), .int .u64 (lb z 0 : Nat), .int .u64 (lb z 1 : Nat), .int .u64 (lb z 2 : Nat), .int .u64 (lb z 3 : Nat)] 8).run Tryz.prog w = .ok (.agg #[.int .u64 (lb z 0 : Nat), .int .u64 (lb z 1 : Nat), .int .u64 (lb z 2 : Nat), .int .u64 (lb z 3 : Nat)]) w := part24 _ _ (by simp) w
  have b0 : (part 24 #[.int .u64 (lb x' 0 : Nat), .int .u64 (lb x' 1 : Nat), .int .u64 (lb x' 2 : Nat), .int .u64 (lb x' 3 : Nat), .int .u64 (lb y' 0 : Nat), .int .u64 (lb y' 1 : Nat), .int .u64 (lb y' 2 : Nat), .int .u64 (lb y' 3 : Nat), .int .u64 (lb z' 0 : Nat), .int .u64 (lb z' 1 : Nat), .int .u64 (lb z' 2 : Nat), .int .u64 (lb z' 3 : Nat)] 0).run Tryz.prog w = .ok (.agg #[.int .u64 (lb x' 0 : Nat), .int .u64 (lb x' 1 : Nat), .int .u64 (lb x' 2 : Nat), .int .u64 (lb x' 3 : Nat)]) w := part24 _ _ (by simp) w
  have b1 : (part 24 #[.int .u64 (lb x' 0 : Nat), .int .u64 (lb x' 1 : Nat), .int .u64 (lb x' 2 : Nat), .int .u64 (lb x' 3 : Nat), .int .u64 (lb y' 0 : Nat), .int .u64 (lb y' 1 : Nat), .int .u64 (lb y' 2 : Nat), .int .u64 (lb y' 3 : Nat), .int .u64 (lb z' 0 : Nat), .int .u64 (lb z' 1 : Nat), .int .u64 (lb z' 2 : Nat), .int .u64 (lb z' 3 : Nat)] 4).run Tryz.prog w = .ok (.agg #[.int .u64 (lb y' 0 : Nat), .int .u64 (lb y' 1 : Nat), .int .u64 (lb y' 2 : Nat), .int .u64 (lb y' 3 : Nat)]) w := part24 _ _ (by simp) w
  have b2 : (part 24 #[.int .u64 (lb x' 0 : Nat), .int .u64 (lb x' 1 : Nat), .int .u64 (lb x' 2 : Nat), .int .u64 (lb x' 3 : Nat), .int .u64 (lb y' 0 : Nat), .int .u64 (lb y' 1 : Nat), .int .u64 (lb y' 2 : Nat), .int .u64 (lb y' 3 : Nat), .int .u64 (lb z' 0 : Nat), .int .u64 (lb z' 1 : Nat), .int .u64 (lb z' 2 : Nat), .int .u64 (lb z' 3 : Nat)] 8).run Tryz.prog w = .ok (.agg #[.int .u64 (lb z' 0 : Nat), .int .u64 (lb z' 1 : Nat), .int .u64 (lb z' 2 : Nat), .int .u64 (lb z' 3 : Nat)]) w := part24 _ _ (by simp) w
  have f1 : ("x" ≠ "_") = True := by simp
  have f2 : ("y" ≠ "_") = True := by simp
  have f3 : ("z" ≠ "_") = True := by simp
  simp only [Program.fieldsOf, Tryz.underlying162, Op.eqFields, f1, f2, f3, if_true, Sem.run_bind, a0, b0, Result.andThen_ok, h1]
  rw [show decide (x = x' ∧ y = y' ∧ z = z') = (decide (x = x') && (decide (y = y') && decide (z = z'))) from by rw [Bool.decide_and, Bool.decide_and]]
  clear a0 b0 h1
  generalize decide (x = x') = c1
  generalize decide (y = y') = c2 at h2 ⊢
  generalize decide (z = z') = c3 at h3 ⊢
  cases c1 <;> cases c2 <;> cases c3 <;> simp only [Bool.and_true, Bool.and_false, Bool.true_and, Bool.false_and, a1, a2, b1, b2, h2, h3, decide_true, decide_false, Bool.not_true, Bool.not_false, Bool.false_eq_true, if_true, if_false, Sem.run_bind, Sem.run_pure, Result.andThen_ok, and_true, and_false, true_and, false_and]
theorem eqP (x y x' y' : Nat) (i i' : Bool) (hx : x < W256) (hy : y < W256) (hx' : x' < W256) (hy' : y' < W256) (w : World) : (Op.equalIn 10000 26 (pn x y i) (pn x' y' i')).run Tryz.prog w = .ok (decide (x = x' ∧ y = y' ∧ i = i')) w := by
  unfold pn
  rw [show (10000 : Nat) = 9999 + 1 from rfl, run_equalIn_struct w 9999 26 _ _ u51 (by kernel_rfl)]
  have h1 := eqN' 9997 x x' hx hx' w
  have h2 := eqN' 9997 y y' hy hy' w
  have h3 : (Op.equalIn 9999 4 (.bool i) (.bool i')).run Tryz.prog w = .ok (i == i') w := run_equalIn_bool' w 9998 4 i i' Tryz.underlying4
  have a0 : (part 24 #[.int .u64 (lb x 0 : Nat), .int .u64 (lb x 1 : Nat), .int .u64 (lb x 2 : Nat), .int .u64 (lb x 3 : Nat), .int .u64 (lb y 0 : Nat), .int .u64 (lb y 1 : Nat), .int .u64 (lb y 2 : Nat), .int .u64 (lb y 3 : Nat), .bool i] 0).run Tryz.prog w = .ok (.agg #[.int .u64 (lb x 0 : Nat), .int .u64 (lb x 1 : Nat), .int .u64 (lb x 2 : Nat), .int .u64 (lb x 3 : Nat)]) w := part24 _ _ (by simp) w
  have a1 : (part 24 #[.int .u64 (lb x 0 : Nat), .int .u64 (lb x 1 : Nat), .int .u64 (lb x 2 : Nat), .int .u64 (lb x 3 : Nat), .int .u64 (lb y 0 : Nat), .int .u64 (lb y 1 : Nat), .int .u64 (lb y 2 : Nat), .int .u64 (lb y 3 : Nat), .bool i] 4).run Tryz.prog w = .ok (.agg #[.int .u64 (lb y 0 : Nat), .int .u64 (lb y 1 : Nat), .int .u64 (lb y 2 : Nat), .int .u64 (lb y 3 : Nat)]) w := part24 _ _ (by simp) w
  have a2 : (part 4 #[.int .u64 (lb x 0 : Nat), .int .u64 (lb x 1 : Nat), .int .u64 (lb x 2 : Nat), .int .u64 (lb x 3 : Nat), .int .u64 (lb y 0 : Nat), .int .u64 (lb y 1 : Nat), .int .u64 (lb y 2 : Nat), .int .u64 (lb y 3 : Nat), .bool i] 8).run Tryz.prog w = .ok (.bool i) w := by
    have : #[.int .u64 (lb x 0 : Nat), .int .u64 (lb x 1 : Nat), .int .u64 (lb x 2 : Nat), .int .u64 (lb x 3 : Nat), .int .u64 (lb y 0 : Nat), .int .u64 (lb y 1 : Nat), .int .u64 (lb y 2 : Nat), .int .u64 (lb y 3 : Nat), .bool i][8]? = some (Value.bool i) := rfl
    simp [part, go_sem, Tryz.underlying4, Tryz.isAgg4, Tryz.sizeOf4]
  have b0 : (part 24 #[.int .u64 (lb x' 0 : Nat), .int .u64 (lb x' 1 : Nat), .int .u64 (lb x' 2 : Nat), .int .u64 (lb x' 3 : Nat), .int .u64 (lb y' 0 : Nat), .int .u64 (lb y' 1 : Nat), .int .u64 (lb y' 2 : Nat), .int .u64 (lb y' 3 : Nat), .bool i'] 0).run Tryz.prog w = .ok (.agg #[.int .u64 (lb x' 0 : Nat), .int .u64 (lb x' 1 : Nat), .int .u64 (lb x' 2 : Nat), .int .u64 (lb x' 3 : Nat)]) w := part24 _ _ (by simp) w
  have b1 : (part 24 #[.int .u64 (lb x' 0 : Nat), .int .u64 (lb x' 1 : Nat), .int .u64 (lb x' 2 : Nat), .int .u64 (lb x' 3 : Nat), .int .u64 (lb y' 0 : Nat), .int .u64 (lb y' 1 : Nat), .int .u64 (lb y' 2 : Nat), .int .u64 (lb y' 3 : Nat), .bool i'] 4).run Tryz.prog w = .ok (.agg #[.int .u64 (lb y' 0 : Nat), .int .u64 (lb y' 1 : Nat), .int .u64 (lb y' 2 : Nat), .int .u64 (lb y' 3 : Nat)]) w := part24 _ _ (by simp) w
  have b2 : (part 4 #[.int .u64 (lb x' 0 : Nat), .int .u64 (lb x' 1 : Nat), .int .u64 (lb x' 2 : Nat), .int .u64 (lb x' 3 : Nat), .int .u64 (lb y' 0 : Nat), .int .u64 (lb y' 1 : Nat), .int .u64 (lb y' 2 : Nat), .int .u64 (lb y' 3 : Nat), .bool i'] 8).run Tryz.prog w = .ok (.bool i') w := by
    have : #[.int .u64 (lb x' 0 : Nat), .int .u64 (lb x' 1 : Nat), .int .u64 (lb x' 2 : Nat), .int .u64 (lb x' 3 : Nat), .int .u64 (lb y' 0 : Nat), .int .u64 (lb y' 1 : Nat), .int .u64 (lb y' 2 : Nat), .int .u64 (lb y' 3 : Nat), .bool i'][8]? = some (Value.bool i') := rfl
    simp [part, go_sem, Tryz.underlying4, Tryz.isAgg4, Tryz.sizeOf4]
  have f1 : ("X" ≠ "_") = True := by simp
  have f2 : ("Y" ≠ "_") = True := by simp
  have f3 : ("Inf" ≠ "_") = True := by simp
  simp only [Program.fieldsOf, Tryz.underlying26, Op.eqFields, f1, f2, f3, if_true, Sem.run_bind, a0, b0, Result.andThen_ok, h1]
  rw [show decide (x = x' ∧ y = y' ∧ i = i') = (decide (x = x') && (decide (y = y') && (i == i'))) from by rw [Bool.decide_and, Bool.decide_and]; cases i <;> cases i' <;> rfl]
  clear a0 b0 h1
  generalize decide (x = x') = c1
  generalize decide (y = y') = c2 at h2 ⊢
  generalize (i == i') = c3 at h3 ⊢
  cases c1 <;> cases c2 <;> cases c3 <;> simp only [Bool.and_true, Bool.and_false, Bool.true_and, Bool.false_and, a1, a2, b1, b2, h2, h3, decide_true, decide_false, Bool.not_true, Bool.not_false, Bool.false_eq_true, if_true, if_false, Sem.run_bind, Sem.run_pure, Result.andThen_ok, and_true, and_false, true_and, false_and]
end Go.Proofs.YtpggkfdijmnmiaaGreat
