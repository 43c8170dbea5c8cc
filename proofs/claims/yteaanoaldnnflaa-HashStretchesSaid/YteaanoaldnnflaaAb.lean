/- The document's own comparison of a number in digits. Condition: at most 1000 digits. -/
import Derived.Test.YteaanoaldnnflaaTi
set_option linter.unusedVariables false
set_option linter.unusedSimpArgs false
namespace Go.Proofs.Yteaanoaldnnflaa
open Go.RowKit Go.Sort

/-- the loop's relation -/
def AbR (a : List Nat) (p m : Nat) (i : Value) : Prop := ∃ z : Int, i = .int .i64 z ∧ -1 ≤ z ∧ z < a.length ∧ Top a p m (z + 1).toNat
set_option maxHeartbeats 4000000 in
set_option maxRecDepth 100000 in
theorem above_any (g : Nat) (a : List Nat) (ha : Dig a) (la : a.length ≤ 1000) (p n : Nat) (hp : p < 65536) (hn : 2 * n < a.length) (ca : Nat) (Ta : TypeId) (w : World) (wa : w.heap[g]? = some (.cells (us a) Ta (0, 0))) :
    Calls Try.prog 49 #[.slice (some ⟨g, 0, none⟩) a.length ca, .int .u64 p, .int .i64 n] w fun e w' => e = .returned (.bool (decide (p * 65536 ^ (2 * n) < val a))) ∧ w = w' := by
  have HDA := Lib.hid ha
  have HWA := Lib.hid wa
  have HP := Lib.hid hp
  have HN := Lib.hid hn
  have HT0 : Hid (Top a p (2 * n) a.length) := Lib.hid fun i h hle => by omega
  have la1 : (a.length : Int) ≤ 1000 := by omega
  have n1 : (n : Int) ≤ 1000 := by omega
  have l0 : (1 : Int) ≤ a.length := by omega
  clear ha wa hp hn
  go_enter Try.func49, Try.ntmps49
  go_wp2_with fail
  go_loop [7] (fun i => AbR a p (2 * n) i) (fun i => (intOf i + 1).toNat)
  case atStart => exact ⟨(a.length : Int) - 1, rfl, by omega, by omega, by rw [show ((a.length : Int) - 1 + 1).toNat = a.length from by omega]; exact HT0.out⟩
  case round =>
    obtain ⟨z, rfl, hz1, hz2, ht⟩ := hrel
    have HT := Lib.hid ht
    clear ht HT0
    by_cases hz : 0 ≤ z
    · obtain ⟨m, rfl⟩ : ∃ m : Nat, z = m := ⟨z.toNat, by omega⟩
      have hm : m < a.length := by omega
      have HT1 : Hid (Top a p (2 * n) (m + 1)) := Lib.hid (by have := HT.out; rwa [show ((m : Int) + 1).toNat = m + 1 from by omega] at this)
      have cm := (blk_cell HWA.out m).trans (us_get a m hm)
      have HF := Lib.hid (fun hne => top_found (j := m) HDA.out HP.out HT1.out hm HN.out hne)
      have HTS : Hid (a[m] = spot p (2 * n) m → Top a p (2 * n) m) := Lib.hid fun he i h hle => by
        by_cases e : i = m
        · subst e; exact he
        · exact HT1.out i h (by omega)
      generalize a[m] = x at cm HF HTS
      by_cases hmn : m = 2 * n
      · have hsp : spot p (2 * n) m = p := by unfold spot; rw [if_pos hmn]
        rw [hsp] at HF HTS
        have hb : ((m : Int) == 2 * (n : Int)) = true := by simp; omega
        have HM := Lib.hid hmn
        clear hsp hmn HT
        by_cases hx : x = p
        · have HX := Lib.hid (HTS.out hx)
          have hxb : ((x : Int) != (p : Int)) = false := by simp [hx]
          clear HTS HF
          subst hx
          go_wp2_with fail
          go_round
          case rel => exact ⟨(m : Int) - 1, rfl, by omega, by omega, by rw [show ((m : Int) - 1 + 1).toNat = m from by omega]; exact HX.out⟩
          case measure => (simp [intOf]; try omega)
        · have hxb : ((x : Int) != (p : Int)) = true := by simp; omega
          have HR : Hid (decide (p * 65536 ^ (2 * n) < val a) = decide (p < x)) := Lib.hid (decide_eq_decide.2 (HF.out hx).symm)
          have HX := Lib.hid hx
          clear HTS HF hx
          go_wp2_with fail
          go_ret
          exact ⟨by rw [HR.out]; rfl, rfl⟩
      · have hsp : spot p (2 * n) m = 0 := by unfold spot; rw [if_neg hmn]
        rw [hsp] at HF HTS
        have hb : ((m : Int) == 2 * (n : Int)) = false := by simp; omega
        have hb2 : ¬ (m : Int) = 2 * (n : Int) := by omega
        clear hsp hmn HT
        by_cases hx : x = 0
        · have HX := Lib.hid (HTS.out hx)
          clear HTS HF
          subst hx
          go_wp2_with fail
          go_round
          case rel => exact ⟨(m : Int) - 1, rfl, by omega, by omega, by rw [show ((m : Int) - 1 + 1).toNat = m from by omega]; exact HX.out⟩
          case measure => (simp [intOf]; try omega)
        · have hxb : ((x : Int) != 0) = true := by simp; omega
          have hx0 : 0 < x := by omega
          have hx1 : decide ((0 : Int) < (x : Int)) = true := by simp; omega
          have HR : Hid (decide (p * 65536 ^ (2 * n) < val a) = true) := Lib.hid (decide_eq_true ((HF.out hx).1 hx0))
          clear HTS HF hx
          go_wp2_with fail
          go_ret
          exact ⟨by rw [HR.out]; rfl, rfl⟩
    · obtain rfl : z = -1 := by omega
      have HR : Hid (decide (p * 65536 ^ (2 * n) < val a) = false) := Lib.hid (by
        have := top_end (show Top a p (2 * n) 0 from HT.out) HN.out
        rw [this]; simp)
      go_wp2_with fail
      go_ret
      exact ⟨by rw [HR.out]; rfl, rfl⟩
end Go.Proofs.Yteaanoaldnnflaa
