/- One turn as the reference writes it. No condition. -/
import Derived.Test.YteaanoaldnnflaaNu
import Derived.Test.YteaanoaldnnflaaK
set_option linter.unusedVariables false
namespace Go.Proofs.Yteaanoaldnnflaa

theorem turn_ref (a b c d e f g h k n : UInt32) : turnL [a, b, c, d, e, f, g, h] (k + n) =
    [(h + S1 e + (e &&& f ^^^ (4294967295 ^^^ e) &&& g) + k + n) + (S0 a + Maj a b c), a, b, c, d + (h + S1 e + (e &&& f ^^^ (4294967295 ^^^ e) &&& g) + k + n), e, f, g] := by
  rw [ch_w]
  simp only [turnL, UInt32.add_assoc]
/-- the eight of a state -/
theorem eight (l : List UInt32) (h : l.length = 8) : ∃ a b c d e f g i, l = [a, b, c, d, e, f, g, i] := by
  match l, h with
  | [a, b, c, d, e, f, g, i], _ => exact ⟨a, b, c, d, e, f, g, i, rfl⟩
/-- a block's turn in whole: the starting words and the turned ones added, place by place -/
theorem next_zip (h : List UInt32) (hl : h.length = 8) (b : List UInt8) : zipTo h (turnsTo (spreadL (numsL b)) h 64) 8 = nextL h b := by
  rw [zipTo_all _ _ hl (turns_length _ _ hl _), nextL]
  apply List.ext_getElem
  · simp [Nat.min_comm]
  · intro i h1 h2
    simp [UInt32.add_comm]
theorem zip_0 (v h : List UInt32) : zipTo v h 0 = v := by simp [zipTo]
theorem thr_len : ∀ (n : Nat) (h : List UInt32) (s : List UInt8), h.length = 8 → (thrL n h s).length = 8
  | 0, h, s, hl => hl
  | n + 1, h, s, hl => thr_len n _ _ (by unfold nextL; simp [turns_length _ _ hl, hl])
end Go.Proofs.Yteaanoaldnnflaa
