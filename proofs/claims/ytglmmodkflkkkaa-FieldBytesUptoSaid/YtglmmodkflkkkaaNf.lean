/- The two moduli; how often one goes into a number with a limb behind it, or that and one or two too much. Condition: the number is below the modulus. -/
import Derived.Test.YtglmmodkflkkkaaNe
set_option linter.unusedVariables false
set_option linter.unusedSimpArgs false
set_option maxRecDepth 100000
namespace Go.Proofs.Ytglmmodkflkkkaa
open Go.RowKit Limbs

def mP : Nat := 115792089210356248762697446949407573530086143415290314195533631308867097853951
def mN : Nat := 115792089210356248762697446949407573529996955224135760342422259061068512044369
/-- a modulus by its number -/
def md (m : Int) : Nat := if m = 0 then mP else mN
theorem md_or (m : Int) : md m = mP ∨ md m = mN := by unfold md; split <;> simp
theorem lbP : lb mP 0 = 18446744073709551615 ∧ lb mP 1 = 4294967295 ∧ lb mP 2 = 0 ∧ lb mP 3 = 18446744069414584321 := by decide +kernel
theorem lbN : lb mN 0 = 17562291160714782033 ∧ lb mN 1 = 13611842547513532036 ∧ lb mN 2 = 18446744073709551615 ∧ lb mN 3 = 18446744069414584320 := by decide +kernel
theorem md_lt {M : Nat} (h : M = mP ∨ M = mN) : M < W256 ∧ W256 < 2 * M ∧ 9223372036854775808 ≤ lb M 3 ∧ 2 < M := by
  rcases h with rfl | rfl <;> decide +kernel
theorem lb_le {r M : Nat} (hr : r < M) (hM : M < W256) : lb r 3 ≤ lb M 3 := by
  unfold W256 at hM
  simp only [lb]
  omega

set_option maxHeartbeats 4000000 in
theorem quot_one (r m3 : Nat) (M : Nat) (hr3 : lb r 3 ≤ m3) (hm3 : m3 < 18446744073709551616) (eM : lb M 3 = m3) (hd : ∀ (h l : Nat), h < m3 → l < 18446744073709551616 → ∀ w, Calls Try.prog 96 #[.int .u64 (h : Int), .int .u64 (l : Int), .int .u64 (m3 : Int)] w fun e w' => (∃ r : Value, e = .returned (.tuple #[.int .u64 (((h * 18446744073709551616 + l) / m3 : Nat) : Int), r])) ∧ Below w.heap.size w w') (w : World) :
    Calls Try.prog 90 #[nv r, nv M] w fun e w' => e = .returned (.int .u64 (quo (lb r 3) (lb r 2) m3 : Nat)) ∧ Below w.heap.size w w' := by
  simp only [nv, num]
  rw [eM]
  have h2 := lb_lt r 2
  generalize lb r 3 = r3 at *
  generalize lb r 2 = r2 at *
  generalize lb r 1 = r1 at *
  generalize lb r 0 = r0 at *
  by_cases h : r3 = m3
  · have e : quo r3 r2 m3 = 18446744073709551615 := by unfold quo; rw [if_pos h]
    rw [e]
    subst h
    clear hd e eM hr3
    go_enter Try.func90, Try.ntmps90
    go_wp2_with fail
    go_ret
    exact ⟨rfl, by go_grown⟩
  · have e : quo r3 r2 m3 = (r3 * 18446744073709551616 + r2) / m3 := by unfold quo; rw [if_neg h]
    rw [e]
    have HD := Lib.hid (hd r3 r2 (by omega) h2)
    generalize (r3 * 18446744073709551616 + r2) / m3 = q at *
    have t1 : ((r3 : Int) == (m3 : Int)) = false := by simp; omega
    clear hd e eM hr3 h h2
    go_enter Try.func90, Try.ntmps90
    go_wp2_with fail
    refine (keep w.heap.size w (HD.out _) (by go_grown) (Nat.le_refl _)).mono ?_
    rintro e w' ⟨⟨rr, rfl⟩, hb, _⟩
    have HB := Lib.hid hb
    clear hb
    go_wp2_with fail
    go_ret
    exact ⟨rfl, HB.out⟩
theorem quot_any (r M : Nat) (hM : M = mP ∨ M = mN) (hr : r < M) (w : World) :
    Calls Try.prog 90 #[nv r, nv M] w fun e w' => e = .returned (.int .u64 (quo (lb r 3) (lb r 2) (lb M 3) : Nat)) ∧ Below w.heap.size w w' := by
  have hle := lb_le hr (md_lt hM).1
  rcases hM with rfl | rfl
  · exact quot_one r (lb mP 3) mP hle (lb_lt _ _) rfl (fun h l hh hl w => by rw [lbP.2.2.2] at hh ⊢; exact div_P h l hh hl w) w
  · exact quot_one r (lb mN 3) mN hle (lb_lt _ _) rfl (fun h l hh hl w => by rw [lbN.2.2.2] at hh ⊢; exact div_N h l hh hl w) w
end Go.Proofs.Ytglmmodkflkkkaa
