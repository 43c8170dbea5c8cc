/- A text with percent signs in which each blank's sign is replaced by a plus is the text as it stands in a form. No condition. -/
import Derived.Test.YtlifnfchemiipaaDoorL
import Derived.Lib.ReplaceLaws
import Derived.Lib.SplitLaws
namespace Go.Proofs.YtlifnfchemiipaaDoor
open Go.RowKit

/-- all of them replaced, as many as there are -/
def repR (old new s : List UInt8) : List UInt8 := Lib.replaceK old new (Lib.count s old) s
theorem repR_all (old new s : List UInt8) (h : old ≠ new) : Lib.replaceAll s old new = repR old new s := by
  have e : ¬ (old == new) = true := by simpa using h
  rw [Lib.replaceAll, Lib.replace, if_neg e, Lib.replaceNum, if_pos (.inl (by omega)), repR]
theorem repR_miss (old new s : List UInt8) (h : Lib.index s old = -1) : repR old new s = s := by
  rw [repR, Lib.count_miss h, Lib.replaceK]
theorem repR_hit (old new s : List UInt8) (h0 : old ≠ []) (i : Nat) (h : Lib.index s old = i) : repR old new s = s.take i ++ new ++ repR old new (s.drop (i + old.length)) := by
  rw [repR, Lib.count_hit h0 h, Nat.add_comm, Lib.replaceK_hit old new _ s i h, repR]
theorem repR_nil (old new : List UInt8) (h0 : old ≠ []) : repR old new [] = [] := by
  refine repR_miss _ _ _ ?_
  rw [Lib.index, if_neg]
  simpa using h0
theorem repR_pre (old new s : List UInt8) (h0 : old ≠ []) (b : UInt8) (h : old.isPrefixOf (b :: s) = true) : repR old new (b :: s) = new ++ repR old new ((b :: s).drop old.length) := by
  have := repR_hit old new (b :: s) h0 0 (by rw [Lib.index, if_pos h]; rfl)
  simpa using this
theorem repR_not (old new s : List UInt8) (h0 : old ≠ []) (b : UInt8) (h : ¬ old.isPrefixOf (b :: s) = true) : repR old new (b :: s) = b :: repR old new s := by
  have hg := Lib.index_ge s old
  by_cases hm : Lib.index s old = -1
  · rw [repR_miss old new s hm, repR_miss]
    rw [Lib.index, if_neg h, if_pos (by simpa using hm)]
  · obtain ⟨i, hi⟩ : ∃ i : Nat, Lib.index s old = i := ⟨(Lib.index s old).toNat, by omega⟩
    rw [repR_hit old new s h0 i hi, repR_hit old new (b :: s) h0 (i + 1) ?_]
    · have e : i + 1 + old.length = i + old.length + 1 := by omega
      rw [e]; simp
    · rw [Lib.index, if_neg h, if_neg (by simpa using hm), hi]; simp

/-- one byte for another one -/
theorem repR_one (c d : UInt8) (s : List UInt8) : repR [c] [d] s = s.map fun x => if x = c then d else x := by
  induction s with
  | nil => exact repR_nil _ _ (by simp)
  | cons b s ih =>
    by_cases h : b = c
    · subst h
      rw [repR_pre _ _ _ (by simp) _ (by simp [List.isPrefixOf])]
      simp [ih]
    · rw [repR_not _ _ _ (by simp) _ (by simp [List.isPrefixOf]; exact fun e => h e.symm)]
      simp [ih, h]

/-- a name, or a value, as it stands in a form -/
def wordOne (c : UInt8) : List UInt8 := if c = 32 then [43] else pctOne c
def wordL (l : List UInt8) : List UInt8 := l.flatMap wordOne
theorem plain_pct (c : UInt8) : plainB c = true → c ≠ 37 ∧ c ≠ 32 := all_u8 (p := fun c => plainB c = true → c ≠ 37 ∧ c ≠ 32) (by decide +kernel) c
theorem high_pct (n : Nat) (h : n < 16) : highD.getD n 0 ≠ 37 := by
  have : ∀ n, n < 16 → highD.getD n 0 ≠ 37 := by decide +kernel
  exact this n h
theorem high_20 (c : UInt8) : c ≠ 32 → ¬ (highD.getD (c.toNat / 16) 0 = 50 ∧ highD.getD (c.toNat % 16) 0 = 48) := all_u8 (p := fun c => c ≠ 32 → ¬ (highD.getD (c.toNat / 16) 0 = 50 ∧ highD.getD (c.toNat % 16) 0 = 48)) (by decide +kernel) c
theorem word_rep (l : List UInt8) : repR [37, 50, 48] [43] (pctL l) = wordL l := by
  induction l with
  | nil => exact repR_nil _ _ (by simp)
  | cons c l ih =>
    have e1 : pctL (c :: l) = pctOne c ++ pctL l := by simp [pctL]
    have e2 : wordL (c :: l) = wordOne c ++ wordL l := by simp [wordL]
    have h8 := c.toNat_lt
    rw [e1, e2, ← ih]
    by_cases hp : plainB c = true
    · obtain ⟨h1, h2⟩ := plain_pct c hp
      rw [wordOne, if_neg h2, pctOne, if_pos hp]
      rw [List.singleton_append, repR_not _ _ _ (by simp) _ (by simp [List.isPrefixOf]; intro e; exact absurd e.symm h1)]
      rfl
    · by_cases h32 : c = 32
      · subst h32
        have e3 : pctOne 32 = [37, 50, 48] := by decide
        rw [e3, wordOne, if_pos rfl]
        show repR _ _ (37 :: 50 :: 48 :: pctL l) = _
        rw [repR_pre _ _ _ (by simp) _ (by simp [List.isPrefixOf])]
        rfl
      · have hq := high_20 c h32
        have ha := high_pct (c.toNat / 16) (by omega)
        have hb := high_pct (c.toNat % 16) (by omega)
        rw [wordOne, if_neg h32, pctOne, if_neg hp]
        generalize highD.getD (c.toNat / 16) 0 = x at hq ha ⊢
        generalize highD.getD (c.toNat % 16) 0 = y at hq hb ⊢
        show repR _ _ (37 :: x :: y :: pctL l) = 37 :: x :: y :: repR _ _ (pctL l)
        rw [repR_not _ _ _ (by simp) _ (by simp [List.isPrefixOf]; intro e1 e2; exact hq ⟨e1.symm, e2.symm⟩), repR_not _ _ _ (by simp) _ (by simp [List.isPrefixOf]; intro e; exact absurd e.symm ha), repR_not _ _ _ (by simp) _ (by simp [List.isPrefixOf]; intro e; exact absurd e.symm hb)]
end Go.Proofs.YtlifnfchemiipaaDoor
