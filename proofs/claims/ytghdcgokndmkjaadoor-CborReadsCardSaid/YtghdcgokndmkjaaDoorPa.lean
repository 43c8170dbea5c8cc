/- A head reads as itself; what is read, or is too deep, stays so with more behind it; what was read is an item that may be, and its bytes are those that were read; an item is read from its bytes; its bytes cut short are none. Nothing of the program; no condition. -/
import Derived.Test.YtghdcgokndmkjaaDoorA
set_option linter.unusedVariables false
set_option linter.unusedSimpArgs false
namespace Go.Proofs.YtghdcgokndmkjaaDoor

theorem b8_nat (n : Nat) : (b8 n).toNat = n % 256 := UInt8.toNat_ofNat'
theorem be_length (m n : Nat) : (be m n).length = m := by simp [be]
theorem be1 (n : Nat) : be 1 n = [b8 n] := by simp [be, List.range, List.range.loop]
theorem be2 (n : Nat) : be 2 n = [b8 (n / 256), b8 n] := by simp [be, List.range, List.range.loop]
theorem be4 (n : Nat) : be 4 n = [b8 (n / 16777216), b8 (n / 65536), b8 (n / 256), b8 n] := by simp [be, List.range, List.range.loop]
theorem be8 (n : Nat) : be 8 n = [b8 (n / 72057594037927936), b8 (n / 281474976710656), b8 (n / 1099511627776), b8 (n / 4294967296), b8 (n / 16777216), b8 (n / 65536), b8 (n / 256), b8 n] := by simp [be, List.range, List.range.loop]
theorem beVal1 {n : Nat} (h : n < 256) : beVal (be 1 n) = n := by
  rw [be1]; simp only [beVal, List.foldl_cons, List.foldl_nil, b8_nat]; omega
theorem beVal2 {n : Nat} (h : n < 65536) : beVal (be 2 n) = n := by
  rw [be2]; simp only [beVal, List.foldl_cons, List.foldl_nil, b8_nat]; omega
theorem beVal4 {n : Nat} (h : n < 4294967296) : beVal (be 4 n) = n := by
  rw [be4]; simp only [beVal, List.foldl_cons, List.foldl_nil, b8_nat]; omega
theorem beVal8 {n : Nat} (h : n < 18446744073709551616) : beVal (be 8 n) = n := by
  rw [be8]; simp only [beVal, List.foldl_cons, List.foldl_nil, b8_nat]; omega

theorem hd_big {k n j : Nat} {r : List UInt8} (hk : k ≤ 7) (hj : j ≤ 3) (hn : n < 9223372036854775808) (hv : beVal (be (2 ^ j) n) = n) (hl : headL k n = b8 (32 * k + 24 + j) :: be (2 ^ j) n) : hd (headL k n ++ r) = some (k, n, 1 + 2 ^ j) := by
  have hc : (b8 (32 * k + 24 + j)).toNat = 32 * k + 24 + j := by rw [b8_nat]; omega
  rw [hl, List.cons_append, hd, hc]
  have h1 : (32 * k + 24 + j) % 32 = 24 + j := by omega
  have h2 : (32 * k + 24 + j) / 32 = k := by omega
  have ht : (be (2 ^ j) n ++ r).take (2 ^ j) = be (2 ^ j) n := by rw [List.take_append_of_le_length (by rw [be_length]; omega), List.take_of_length_le (by rw [be_length]; omega)]
  rw [h1, h2, if_neg (by omega), if_pos (by omega), show 24 + j - 24 = j from by omega, ht, hv, if_pos ⟨by simp [be_length], hn, hl⟩]
theorem hd_headL {k n : Nat} {r : List UInt8} (hk : k ≤ 7) (hn : n < 9223372036854775808) : hd (headL k n ++ r) = some (k, n, (headL k n).length) := by
  by_cases h1 : n < 24
  · have e : headL k n = [b8 (32 * k + n)] := by unfold headL; rw [if_pos h1]
    have hc : (b8 (32 * k + n)).toNat = 32 * k + n := by rw [b8_nat]; omega
    rw [e, List.cons_append, hd, hc, if_pos (by omega)]
    simp only [Option.some.injEq, Prod.mk.injEq, List.length_singleton, and_true]
    omega
  by_cases h2 : n < 256
  · have e : headL k n = b8 (32 * k + 24 + 0) :: be (2 ^ 0) n := by unfold headL; rw [if_neg h1, if_pos h2]
    rw [hd_big hk (by omega) hn (beVal1 h2) e, e, List.length_cons, be_length, Nat.add_comm 1]
  by_cases h3 : n < 65536
  · have e : headL k n = b8 (32 * k + 24 + 1) :: be (2 ^ 1) n := by unfold headL; rw [if_neg h1, if_neg h2, if_pos h3]
    rw [hd_big hk (by omega) hn (beVal2 h3) e, e, List.length_cons, be_length, Nat.add_comm 1]
  by_cases h4 : n < 4294967296
  · have e : headL k n = b8 (32 * k + 24 + 2) :: be (2 ^ 2) n := by unfold headL; rw [if_neg h1, if_neg h2, if_neg h3, if_pos h4]
    rw [hd_big hk (by omega) hn (beVal4 h4) e, e, List.length_cons, be_length, Nat.add_comm 1]
  · have e : headL k n = b8 (32 * k + 24 + 3) :: be (2 ^ 3) n := by unfold headL; rw [if_neg h1, if_neg h2, if_neg h3, if_neg h4]
    rw [hd_big hk (by omega) hn (beVal8 (by omega)) e, e, List.length_cons, be_length, Nat.add_comm 1]
/-- what a head was read of is that head -/
theorem hd_back {s : List UInt8} {k n m : Nat} (h : hd s = some (k, n, m)) : headL k n = s.take m ∧ k ≤ 7 ∧ n < 9223372036854775808 ∧ 1 ≤ m ∧ m ≤ s.length := by
  cases s with
  | nil => rw [hd] at h; cases h
  | cons c r =>
    have hc := c.toNat_lt
    rw [hd] at h
    by_cases h1 : c.toNat % 32 < 24
    · rw [if_pos h1] at h
      simp only [Option.some.injEq, Prod.mk.injEq] at h
      obtain ⟨rfl, rfl, rfl⟩ := h
      refine ⟨?_, by omega, by omega, by omega, by simp⟩
      unfold headL
      rw [if_pos h1]
      have : b8 (32 * (c.toNat / 32) + c.toNat % 32) = c := by
        apply UInt8.toNat.inj
        rw [b8_nat]; omega
      rw [this]; rfl
    · rw [if_neg h1] at h
      by_cases h2 : c.toNat % 32 ≤ 27
      · rw [if_pos h2] at h
        by_cases h3 : 2 ^ (c.toNat % 32 - 24) ≤ r.length ∧ beVal (r.take (2 ^ (c.toNat % 32 - 24))) < 9223372036854775808 ∧ headL (c.toNat / 32) (beVal (r.take (2 ^ (c.toNat % 32 - 24)))) = c :: r.take (2 ^ (c.toNat % 32 - 24))
        · rw [if_pos h3] at h
          simp only [Option.some.injEq, Prod.mk.injEq] at h
          obtain ⟨rfl, rfl, rfl⟩ := h
          refine ⟨?_, by omega, h3.2.1, Nat.le_add_right _ _, by have := h3.1; simp only [List.length_cons]; omega⟩
          rw [h3.2.2, Nat.add_comm 1, List.take_succ_cons]
        · rw [if_neg h3] at h; cases h
      · rw [if_neg h2] at h; cases h
theorem hd_more {s : List UInt8} {k n m : Nat} (q : List UInt8) (h : hd s = some (k, n, m)) : hd (s ++ q) = some (k, n, m) := by
  obtain ⟨h1, h2, h3, h4, h5⟩ := hd_back h
  have e : s ++ q = headL k n ++ (s.drop m ++ q) := by rw [h1, ← List.append_assoc, List.take_append_drop]
  rw [e, hd_headL h2 h3, h1, List.length_take, Nat.min_eq_left h5]
/-- what is read, and what is too deep, stays so with more behind it -/
def Ext {α : Type} (f : List UInt8 → Res α) : Prop :=
  ∀ p q, (∀ x r, f p = .ok (x, r) → f (p ++ q) = .ok (x, r ++ q)) ∧ (f p = .error true → f (p ++ q) = .error true)
theorem decN_ext {f : List UInt8 → Res It} (hf : Ext f) : ∀ n, Ext (decN f n)
  | 0, p, q => ⟨fun x r h => by rw [decN] at h ⊢; cases h; rfl, fun h => by rw [decN] at h; cases h⟩
  | n + 1, p, q => by
    have ih := decN_ext hf n
    simp only [decN]
    match h1 : f p with
    | .error e =>
      refine ⟨fun x r h => by simp at h, fun h => ?_⟩
      have he : e = true := by simpa using h
      subst he
      rw [(hf p q).2 h1]
    | .ok (t, r1) =>
      rw [(hf p q).1 t r1 h1]
      simp only
      match h2 : decN f n r1 with
      | .error e =>
        refine ⟨fun x r h => by simp at h, fun h => ?_⟩
        have he : e = true := by simpa using h
        subst he
        rw [(ih r1 q).2 h2]
      | .ok (l, r2) =>
        rw [(ih r1 q).1 l r2 h2]
        exact ⟨fun x r h => by simp at h; obtain ⟨rfl, rfl⟩ := h; rfl, fun h => by simp at h⟩
theorem cut_more (s r q : List UInt8) : (s ++ q).take ((s ++ q).length - (r ++ q).length) = s.take (s.length - r.length) := by
  have : (s ++ q).length - (r ++ q).length = s.length - r.length := by simp only [List.length_append]; omega
  rw [this, List.take_append_of_le_length (by omega)]
theorem decP_ext {f : List UInt8 → Res It} (hf : Ext f) : ∀ n last, Ext (decP f n last)
  | 0, last, p, q => ⟨fun x r h => by rw [decP] at h ⊢; cases h; rfl, fun h => by rw [decP] at h; cases h⟩
  | n + 1, last, p, q => by
    have ih := decP_ext hf n
    simp only [decP]
    match h1 : f p with
    | .error e =>
      refine ⟨fun x r h => by simp at h, fun h => ?_⟩
      have he : e = true := by simpa using h
      subst he
      rw [(hf p q).2 h1]
    | .ok (t, r1) =>
      rw [(hf p q).1 t r1 h1]
      simp only [cut_more]
      by_cases hc : (isKey t && decide (last < p.take (p.length - r1.length))) = true
      · rw [if_pos hc, if_pos hc]
        match h2 : f r1 with
        | .error e =>
          refine ⟨fun x r h => by simp at h, fun h => ?_⟩
          have he : e = true := by simpa using h
          subst he
          rw [(hf r1 q).2 h2]
        | .ok (u, r2) =>
          rw [(hf r1 q).1 u r2 h2]
          simp only
          match h3 : decP f n (p.take (p.length - r1.length)) r2 with
          | .error e =>
            refine ⟨fun x r h => by simp at h, fun h => ?_⟩
            have he : e = true := by simpa using h
            subst he
            rw [(ih _ r2 q).2 h3]
          | .ok (l, r3) =>
            rw [(ih _ r2 q).1 l r3 h3]
            exact ⟨fun x r h => by simp at h; obtain ⟨rfl, rfl⟩ := h; rfl, fun h => by simp at h⟩
      · rw [if_neg hc]
        exact ⟨fun x r h => by simp at h, fun h => by simp at h⟩
theorem body_ext (V : List UInt8 → Bool) (sub : Option (List UInt8 → Res It)) (hs : ∀ f, sub = some f → Ext f) (k n : Nat) : Ext (body V sub k n) := by
  intro p q
  unfold body
  by_cases h0 : k = 0
  · simp only [if_pos h0]
    exact ⟨fun x r h => by simp at h; obtain ⟨rfl, rfl⟩ := h; rfl, fun h => by simp at h⟩
  by_cases h1 : k = 1
  · simp only [if_neg h0, if_pos h1]
    exact ⟨fun x r h => by simp at h; obtain ⟨rfl, rfl⟩ := h; rfl, fun h => by simp at h⟩
  by_cases h2 : k = 2
  · simp only [if_neg h0, if_neg h1, if_pos h2]
    by_cases hn : n ≤ p.length
    · have hn2 : n ≤ (p ++ q).length := by simp; omega
      rw [if_pos hn, if_pos hn2, List.take_append_of_le_length hn, List.drop_append_of_le_length hn]
      exact ⟨fun x r h => by simp at h; obtain ⟨rfl, rfl⟩ := h; rfl, fun h => by simp at h⟩
    · rw [if_neg hn]
      exact ⟨fun x r h => by simp at h, fun h => by simp at h⟩
  by_cases h3 : k = 3
  · simp only [if_neg h0, if_neg h1, if_neg h2, if_pos h3]
    by_cases hn : n ≤ p.length
    · have hn2 : n ≤ (p ++ q).length := by simp; omega
      rw [if_pos hn, if_pos hn2, List.take_append_of_le_length hn, List.drop_append_of_le_length hn]
      by_cases hv : V (p.take n) = true
      · rw [if_pos hv, if_pos hv]
        exact ⟨fun x r h => by simp at h; obtain ⟨rfl, rfl⟩ := h; rfl, fun h => by simp at h⟩
      · rw [if_neg hv]
        exact ⟨fun x r h => by simp at h, fun h => by simp at h⟩
    · rw [if_neg hn]
      exact ⟨fun x r h => by simp at h, fun h => by simp at h⟩
  by_cases h4 : k = 4
  · simp only [if_neg h0, if_neg h1, if_neg h2, if_neg h3, if_pos h4]
    cases sub with
    | none => exact ⟨fun x r h => by simp at h, fun _ => rfl⟩
    | some f =>
      have hx := decN_ext (hs f rfl) n p q
      simp only
      match hd : decN f n p with
      | .error e =>
        refine ⟨fun x r h => by simp at h, fun h => ?_⟩
        have he : e = true := by simpa using h
        subst he
        rw [hx.2 hd]
      | .ok (l, r1) =>
        rw [hx.1 l r1 hd]
        exact ⟨fun x r h => by simp at h; obtain ⟨rfl, rfl⟩ := h; rfl, fun h => by simp at h⟩
  by_cases h5 : k = 5
  · simp only [if_neg h0, if_neg h1, if_neg h2, if_neg h3, if_neg h4, if_pos h5]
    cases sub with
    | none => exact ⟨fun x r h => by simp at h, fun _ => rfl⟩
    | some f =>
      have hx := decP_ext (hs f rfl) n [] p q
      simp only
      match hd : decP f n [] p with
      | .error e =>
        refine ⟨fun x r h => by simp at h, fun h => ?_⟩
        have he : e = true := by simpa using h
        subst he
        rw [hx.2 hd]
      | .ok (l, r1) =>
        rw [hx.1 l r1 hd]
        exact ⟨fun x r h => by simp at h; obtain ⟨rfl, rfl⟩ := h; rfl, fun h => by simp at h⟩
  · simp only [if_neg h0, if_neg h1, if_neg h2, if_neg h3, if_neg h4, if_neg h5]
    exact ⟨fun x r h => by simp at h, fun h => by simp at h⟩
theorem item_ext (V : List UInt8 → Bool) (sub : Option (List UInt8 → Res It)) (hs : ∀ f, sub = some f → Ext f) : Ext (item V sub) := by
  intro p q
  unfold item
  match h : hd p with
  | none => exact ⟨fun x r h => by simp at h, fun h => by simp at h⟩
  | some (k, n, m) =>
    rw [hd_more q h]
    simp only
    obtain ⟨_, _, _, _, h5⟩ := hd_back h
    rw [List.drop_append_of_le_length h5]
    exact body_ext V sub hs k n (p.drop m) q
theorem dec_ext (V : List UInt8 → Bool) : ∀ d, Ext (dec V d)
  | 0 => item_ext V Option.none (fun f h => by cases h)
  | d + 1 => item_ext V (some (dec V d)) (fun f h => by cases h; exact dec_ext V d)
def NumOk (t : It) : Prop := -9223372036854775808 ≤ t.num ∧ t.num ≤ 9223372036854775807 ∧ t.text.length ≤ 9223372036854775807 ∧ t.list.length ≤ 9223372036854775807
def DeepOk : Nat → It → Prop
  | 0, t => NumOk t
  | d + 1, t => NumOk t ∧ ∀ x, x ∈ t.list → DeepOk d x
theorem DeepOk.num : ∀ {d : Nat} {t : It}, DeepOk d t → NumOk t
  | 0, _, h => h
  | _ + 1, _, h => h.1

theorem app_lt {u v : List UInt8} (x y : List UInt8) : (∀ z, v ≠ u ++ z) → (∀ z, u ≠ v ++ z) → (u ++ x < v ++ y ↔ u < v) := by
  induction u generalizing v with
  | nil => intro h _; exact absurd rfl (h v)
  | cons a u ih =>
    intro h1 h2
    cases v with
    | nil => exact absurd rfl (h2 (a :: u))
    | cons b v =>
      rw [List.cons_append, List.cons_append, List.cons_lt_cons_iff, List.cons_lt_cons_iff]
      by_cases hab : a = b
      · subst hab
        rw [ih (fun z hz => h1 z (by rw [hz]; rfl)) (fun z hz => h2 z (by rw [hz]; rfl))]
      · simp [hab]
theorem same_lt (u x y : List UInt8) : u ++ x < u ++ y ↔ x < y := by
  induction u with
  | nil => exact Iff.rfl
  | cons a u ih => rw [List.cons_append, List.cons_append, List.cons_lt_cons_iff, ih]; simp
theorem headL_one {k n k' n' : Nat} {z : List UInt8} (hk : k ≤ 7) (hk' : k' ≤ 7) (hn : n < 9223372036854775808) (hn' : n' < 9223372036854775808) (h : headL k' n' = headL k n ++ z) : k = k' ∧ n = n' := by
  have h1 := hd_headL (r := z) hk hn
  have h2 := hd_headL (r := []) hk' hn'
  rw [List.append_nil, h, h1] at h2
  simp only [Option.some.injEq, Prod.mk.injEq] at h2
  exact ⟨h2.1, h2.2.1⟩
/-- the head's two numbers -/
def hk (t : It) : Nat := if t.kind = 0 then (if t.num < 0 then 1 else 0) else if t.kind = 1 then 2 else if t.kind = 2 then 3 else if t.kind = 3 then 4 else 5
def hn (t : It) : Nat := if t.kind = 0 then (if t.num < 0 then (-1 - t.num).toNat else t.num.toNat) else if t.kind = 1 then t.text.length else if t.kind = 2 then t.text.length else if t.kind = 3 then t.list.length else t.list.length / 2
theorem headOf_eq (t : It) : headOf t = headL (hk t) (hn t) := by
  unfold headOf hk hn
  by_cases h0 : t.kind = 0
  · simp only [if_pos h0]; split <;> rfl
  by_cases h1 : t.kind = 1
  · simp only [if_neg h0, if_pos h1]
  by_cases h2 : t.kind = 2
  · simp only [if_neg h0, if_neg h1, if_pos h2]
  by_cases h3 : t.kind = 3
  · simp only [if_neg h0, if_neg h1, if_neg h2, if_pos h3]
  · simp only [if_neg h0, if_neg h1, if_neg h2, if_neg h3]
theorem hk_le (t : It) : hk t ≤ 7 := by unfold hk; repeat' split <;> try omega
theorem hn_lt {t : It} (h : NumOk t) : hn t < 9223372036854775808 := by
  obtain ⟨h1, h2, h3, h4⟩ := h
  unfold hn; repeat' split <;> try omega
theorem headOf_free {a b : It} (ha : NumOk a) (hb : NumOk b) (hne : headOf a ≠ headOf b) (z : List UInt8) : headOf b ≠ headOf a ++ z := by
  intro h
  rw [headOf_eq, headOf_eq] at h
  obtain ⟨h1, h2⟩ := headL_one (hk_le a) (hk_le b) (hn_lt ha) (hn_lt hb) h
  exact hne (by rw [headOf_eq, headOf_eq, h1, h2])
theorem key_rises {V : List UInt8 → Bool} {a b : It} (ha : NumOk a) (hb : NumOk b) (ka : isKey a = true) (kb : isKey b = true) (fa : formed V a = true) (fb : formed V b = true) :
    (headOf a ++ a.text < headOf b ++ b.text) ↔ risesB a b = true := by
  unfold risesB
  by_cases h : headOf a = headOf b
  · rw [if_pos h, h, same_lt]
    simp only [Bool.and_eq_true, decide_eq_true_eq]
    refine ⟨fun hl => ⟨?_, hl⟩, fun hl => hl.2⟩
    simp only [isKey, Bool.or_eq_true, decide_eq_true_eq] at ka kb
    rcases ka with ka | ka
    · exfalso
      have e : hk a = hk b := by
        rw [headOf_eq, headOf_eq] at h
        exact (headL_one (z := []) (hk_le a) (hk_le b) (hn_lt ha) (hn_lt hb) (by rw [List.append_nil]; exact h.symm)).1
      have kb0 : b.kind = 0 := by
        rcases kb with kb | kb
        · exact kb
        · exfalso
          unfold hk at e
          simp only [if_pos ka, kb] at e
          split at e <;> simp at e
      have tb : b.text = [] := by
        unfold formed at fb
        rw [if_pos kb0] at fb
        simp only [Bool.and_eq_true, decide_eq_true_eq] at fb
        exact fb.1
      rw [tb] at hl
      simp at hl
    · exact ka
  · rw [if_neg h, decide_eq_true_eq]
    exact app_lt _ _ (headOf_free ha hb h) (headOf_free hb ha (fun e => h e.symm))
theorem firstErr_zero {f : It → Int} : ∀ {l : List It}, firstErr f l = 0 ↔ ∀ x, x ∈ l → f x = 0
  | [] => by simp [firstErr]
  | x :: l => by
    rw [firstErr]
    by_cases h : f x = 0
    · rw [if_pos h, firstErr_zero]
      simp [h]
    · rw [if_neg h]
      simp [h]
theorem chk_formed {V : List UInt8 → Bool} {d : Nat} {t : It} (h : chk V d t = 0) : formed V t = true := by
  cases d with
  | zero =>
    unfold chk at h
    split at h
    · simp at h
    · split at h
      · assumption
      · simp at h
  | succ d =>
    unfold chk at h
    split at h
    · assumption
    · simp at h
theorem key_enc {V : List UInt8 → Bool} {d : Nat} {t : It} (hk : isKey t = true) (hf : formed V t = true) : enc d t = headOf t ++ t.text := by
  cases d with
  | zero => rfl
  | succ d =>
    have hl : t.list = [] := by
      unfold formed at hf
      simp only [isKey, Bool.or_eq_true, decide_eq_true_eq] at hk
      rcases hk with hk | hk
      · rw [if_pos hk] at hf
        simp only [Bool.and_eq_true, decide_eq_true_eq] at hf
        exact List.length_eq_zero_iff.1 hf.2
      · rw [if_neg (by omega), if_neg (by omega), if_pos hk] at hf
        simp only [Bool.and_eq_true, decide_eq_true_eq] at hf
        exact List.length_eq_zero_iff.1 hf.1.2
    show headOf t ++ t.text ++ t.list.flatMap (enc d) = _
    rw [hl]; simp
theorem headL_ne (k n : Nat) : headL k n ≠ [] := by
  unfold headL; repeat' split <;> try simp
theorem enc_ne (d : Nat) (t : It) : enc d t ≠ [] := by
  have h := headL_ne (hk t) (hn t)
  rw [← headOf_eq] at h
  cases d with
  | zero => intro e; have e : headOf t ++ t.text = [] := e; simp at e; exact h e.1
  | succ d => intro e; have e : headOf t ++ t.text ++ t.list.flatMap (enc d) = [] := e; simp at e; exact h e.1
theorem chk_leaf {V : List UInt8 → Bool} (d : Nat) {t : It} (h3 : t.kind ≠ 3) (h4 : t.kind ≠ 4) (hf : formed V t = true) (hl : t.list = []) : chk V d t = 0 := by
  cases d with
  | zero => unfold chk; rw [if_neg (by omega), if_pos hf]
  | succ d => unfold chk; rw [if_pos hf, hl]; rfl
theorem enc_leaf (d : Nat) {t : It} (hl : t.list = []) : enc d t = headOf t ++ t.text := by
  cases d with
  | zero => rfl
  | succ d =>
    show headOf t ++ t.text ++ t.list.flatMap (enc d) = _
    rw [hl]; simp
theorem deep_leaf (d : Nat) {t : It} (h : NumOk t) (hl : t.list = []) : DeepOk d t := by
  cases d with
  | zero => exact h
  | succ d => exact ⟨h, fun x hx => by rw [hl] at hx; cases hx⟩
/-- what was read, told back -/
def Back (V : List UInt8 → Bool) (d : Nat) (s : List UInt8) (t : It) (r : List UInt8) : Prop := chk V d t = 0 ∧ enc d t ++ r = s ∧ DeepOk d t
theorem Back.len {V : List UInt8 → Bool} {d : Nat} {s r : List UInt8} {t : It} (h : Back V d s t r) : r.length ≤ s.length := by rw [← h.2.1]; simp
theorem Back.cut {V : List UInt8 → Bool} {d : Nat} {s r : List UInt8} {t : It} (h : Back V d s t r) : s.take (s.length - r.length) = enc d t := by
  rw [← h.2.1, List.length_append, Nat.add_sub_cancel, List.take_append_of_le_length (Nat.le_refl _), List.take_length]
def Prev (V : List UInt8 → Bool) (d : Nat) (last : List UInt8) : Option It → Prop
  | none => last = []
  | some p => last = enc d p ∧ isKey p = true ∧ chk V d p = 0 ∧ DeepOk d p
def risesO : Option It → It → Bool
  | none, _ => true
  | some p, k => risesB p k
theorem pairs_two (o : Option It) (k x : It) (l : List It) : pairsB o (k :: x :: l) = (isKey k && risesO o k && pairsB (some k) l) := by cases o <;> rfl
theorem prev_rises {V : List UInt8 → Bool} {d : Nat} {last : List UInt8} {o : Option It} {k : It} (hp : Prev V d last o) (hk : isKey k = true) (hc : chk V d k = 0) (hd : DeepOk d k) :
    decide (last < enc d k) = risesO o k := by
  cases o with
  | none =>
    have hp : last = [] := hp
    subst hp
    have := enc_ne d k
    cases h : enc d k with
    | nil => exact absurd h this
    | cons a l => simp [risesO]
  | some p =>
    obtain ⟨rfl, h1, h2, h3⟩ := hp
    rw [key_enc h1 (chk_formed h2), key_enc hk (chk_formed hc)]
    have := key_rises h3.num hd.num h1 hk (chk_formed h2) (chk_formed hc)
    show _ = risesB p k
    cases hr : risesB p k with
    | true => exact decide_eq_true (this.2 hr)
    | false => exact decide_eq_false (fun h => by rw [this.1 h] at hr; cases hr)
theorem decN_back {V : List UInt8 → Bool} {d : Nat} (hf : ∀ s t r, s.length ≤ 9223372036854775807 → dec V d s = .ok (t, r) → Back V d s t r) : ∀ (n : Nat) (s : List UInt8) (l : List It) (r : List UInt8), s.length ≤ 9223372036854775807 → decN (dec V d) n s = .ok (l, r) →
    l.length = n ∧ (∀ x, x ∈ l → chk V d x = 0 ∧ DeepOk d x) ∧ l.flatMap (enc d) ++ r = s
  | 0, s, l, r, hs, h => by
    rw [decN] at h; cases h
    exact ⟨rfl, fun x hx => (by cases hx), rfl⟩
  | n + 1, s, l, r, hs, h => by
    rw [decN] at h
    match h1 : dec V d s with
    | .error e => rw [h1] at h; simp at h
    | .ok (t, r1) =>
      rw [h1] at h
      simp only at h
      have hb := hf s t r1 hs h1
      match h2 : decN (dec V d) n r1 with
      | .error e => rw [h2] at h; simp at h
      | .ok (l', r2) =>
        rw [h2] at h
        simp at h
        obtain ⟨rfl, rfl⟩ := h
        obtain ⟨i1, i2, i3⟩ := decN_back hf n r1 l' r2 (by have := hb.len; omega) h2
        refine ⟨by simp [i1], fun x hx => ?_, ?_⟩
        · rcases List.mem_cons.1 hx with e | e
          · subst e; exact ⟨hb.1, hb.2.2⟩
          · exact i2 x e
        · rw [List.flatMap_cons, List.append_assoc, i3, hb.2.1]
theorem decP_back {V : List UInt8 → Bool} {d : Nat} (hf : ∀ s t r, s.length ≤ 9223372036854775807 → dec V d s = .ok (t, r) → Back V d s t r) : ∀ (n : Nat) (last s : List UInt8) (o : Option It) (l : List It) (r : List UInt8), s.length ≤ 9223372036854775807 → Prev V d last o → decP (dec V d) n last s = .ok (l, r) →
    l.length = 2 * n ∧ (∀ x, x ∈ l → chk V d x = 0 ∧ DeepOk d x) ∧ l.flatMap (enc d) ++ r = s ∧ pairsB o l = true
  | 0, last, s, o, l, r, hs, hp, h => by
    rw [decP] at h; cases h
    exact ⟨rfl, fun x hx => (by cases hx), rfl, by simp [pairsB]⟩
  | n + 1, last, s, o, l, r, hs, hp, h => by
    rw [decP] at h
    match h1 : dec V d s with
    | .error e => rw [h1] at h; simp at h
    | .ok (k, r1) =>
      rw [h1] at h
      simp only at h
      have hb := hf s k r1 hs h1
      rw [hb.cut] at h
      by_cases hc : (isKey k && decide (last < enc d k)) = true
      · rw [if_pos hc] at h
        simp only [Bool.and_eq_true] at hc
        match h2 : dec V d r1 with
        | .error e => rw [h2] at h; simp at h
        | .ok (x, r2) =>
          rw [h2] at h
          simp only at h
          have hl1 := hb.len
          have hb2 := hf r1 x r2 (by omega) h2
          match h3 : decP (dec V d) n (enc d k) r2 with
          | .error e => rw [h3] at h; simp at h
          | .ok (l', r3) =>
            rw [h3] at h
            simp at h
            obtain ⟨rfl, rfl⟩ := h
            obtain ⟨i1, i2, i3, i4⟩ := decP_back hf n (enc d k) r2 (some k) l' r3 (by have := hb2.len; omega) ⟨rfl, hc.1, hb.1, hb.2.2⟩ h3
            refine ⟨by simp [i1]; omega, fun y hy => ?_, ?_, ?_⟩
            · rcases List.mem_cons.1 hy with e | e
              · subst e; exact ⟨hb.1, hb.2.2⟩
              rcases List.mem_cons.1 e with e | e
              · subst e; exact ⟨hb2.1, hb2.2.2⟩
              · exact i2 y e
            · rw [List.flatMap_cons, List.flatMap_cons, List.append_assoc, List.append_assoc, i3, hb2.2.1, hb.2.1]
            · have hr := prev_rises hp hc.1 hb.1 hb.2.2
              rw [pairs_two, hc.1, i4, ← hr, hc.2]; rfl
      · rw [if_neg hc] at h; simp at h
/-- what may stand in lists, for the body: nothing at depth 0 -/
def subOf (V : List UInt8 → Bool) : Nat → Option (List UInt8 → Res It)
  | 0 => Option.none
  | d + 1 => some (dec V d)
theorem dec_item (V : List UInt8 → Bool) (d : Nat) (s : List UInt8) : dec V d s = item V (subOf V d) s := by cases d <;> rfl
theorem hk0 {t : It} (h : t.kind = 0) (h2 : ¬ t.num < 0) : hk t = 0 := by unfold hk; rw [if_pos h, if_neg h2]
theorem hk1 {t : It} (h : t.kind = 0) (h2 : t.num < 0) : hk t = 1 := by unfold hk; rw [if_pos h, if_pos h2]
theorem hn0 {t : It} (h : t.kind = 0) (h2 : ¬ t.num < 0) : hn t = t.num.toNat := by unfold hn; rw [if_pos h, if_neg h2]
theorem hn1 {t : It} (h : t.kind = 0) (h2 : t.num < 0) : hn t = (-1 - t.num).toNat := by unfold hn; rw [if_pos h, if_pos h2]
theorem leaf_back {V : List UInt8 → Bool} (d : Nat) {t : It} {r s : List UInt8} (hl : t.list = []) (h3 : t.kind ≠ 3) (h4 : t.kind ≠ 4) (hf : formed V t = true) (hn : NumOk t) (he : headOf t ++ t.text ++ r = s) : Back V d s t r :=
  ⟨chk_leaf d h3 h4 hf hl, by rw [enc_leaf d hl]; exact he, deep_leaf d hn hl⟩
theorem dec_back (V : List UInt8 → Bool) : ∀ (d : Nat) (s : List UInt8) (t : It) (r : List UInt8), s.length ≤ 9223372036854775807 → dec V d s = .ok (t, r) → Back V d s t r := by
  intro d
  induction d with
  | zero =>
    intro s t r hs h
    exact aux 0 (fun _ h _ => by cases h) s t r hs h
  | succ d ih =>
    intro s t r hs h
    exact aux (d + 1) (fun d' hd' _ => by cases hd'; exact ih) s t r hs h
where
  aux (D : Nat) (ih : ∀ d, D = d + 1 → True → ∀ s t r, s.length ≤ 9223372036854775807 → dec V d s = .ok (t, r) → Back V d s t r) (s : List UInt8) (t : It) (r : List UInt8) (hs : s.length ≤ 9223372036854775807) (h : dec V D s = .ok (t, r)) : Back V D s t r := by
    rw [dec_item] at h
    unfold item at h
    match hh : hd s with
    | none => rw [hh] at h; simp at h
    | some (k, n, m) =>
      rw [hh] at h
      simp only at h
      obtain ⟨e1, e2, e3, e4, e5⟩ := hd_back hh
      have es : headL k n ++ s.drop m = s := by rw [e1, List.take_append_drop]
      have hlen : (s.drop m).length ≤ 9223372036854775807 := by simp; omega
      generalize s.drop m = p at h es hlen
      unfold body at h
      by_cases h0 : k = 0
      · rw [if_pos h0] at h
        simp at h
        obtain ⟨rfl, rfl⟩ := h
        refine leaf_back D rfl (by simp [It.kind]) (by simp [It.kind]) (by simp [formed, It.kind, It.text, It.list]) ⟨by show (_ : Int) ≤ (n : Int); omega, by show (n : Int) ≤ _; omega, by simp [It.text], by simp [It.list]⟩ ?_
        rw [← es, headOf_eq]
        subst h0
        have a : hk (It.mk 0 n [] []) = 0 := hk0 rfl (by show ¬ ((n : Int) < 0); omega)
        have b : hn (It.mk 0 n [] []) = n := by rw [hn0 rfl (by show ¬ ((n : Int) < 0); omega)]; show ((n : Int)).toNat = n; omega
        rw [a, b]; simp [It.text]
      by_cases h1 : k = 1
      · rw [if_neg h0, if_pos h1] at h
        simp at h
        obtain ⟨rfl, rfl⟩ := h
        refine leaf_back D rfl (by simp [It.kind]) (by simp [It.kind]) (by simp [formed, It.kind, It.text, It.list]) ⟨by show (_ : Int) ≤ -1 - (n : Int); omega, by show -1 - (n : Int) ≤ _; omega, by simp [It.text], by simp [It.list]⟩ ?_
        rw [← es, headOf_eq]
        subst h1
        have a : hk (It.mk 0 (-1 - n) [] []) = 1 := hk1 rfl (by show -1 - (n : Int) < 0; omega)
        have b : hn (It.mk 0 (-1 - n) [] []) = n := by rw [hn1 rfl (by show -1 - (n : Int) < 0; omega)]; show (-1 - (-1 - (n : Int))).toNat = n; omega
        rw [a, b]; simp [It.text]
      by_cases h2 : k = 2
      · rw [if_neg h0, if_neg h1, if_pos h2] at h
        by_cases hc : n ≤ p.length
        · rw [if_pos hc] at h
          simp at h
          obtain ⟨rfl, rfl⟩ := h
          have hl : (p.take n).length = n := by rw [List.length_take, Nat.min_eq_left hc]
          refine leaf_back D rfl (by simp [It.kind]) (by simp [It.kind]) (by simp [formed, It.kind, It.num, It.list]) ⟨by show (_ : Int) ≤ 0; omega, by show (0 : Int) ≤ _; omega, by show (p.take n).length ≤ _; omega, by simp [It.list]⟩ ?_
          rw [← es, headOf_eq]
          subst h2
          have a : hk (It.mk 1 0 (p.take n) []) = 2 := by simp [hk, It.kind]
          have b : hn (It.mk 1 0 (p.take n) []) = n := by simp only [hn, It.kind, It.text]; simp; omega
          rw [a, b]
          show headL 2 n ++ p.take n ++ p.drop n = _
          rw [List.append_assoc, List.take_append_drop]
        · rw [if_neg hc] at h; simp at h
      by_cases h3 : k = 3
      · rw [if_neg h0, if_neg h1, if_neg h2, if_pos h3] at h
        by_cases hc : n ≤ p.length
        · rw [if_pos hc] at h
          by_cases hv : V (p.take n) = true
          · rw [if_pos hv] at h
            simp at h
            obtain ⟨rfl, rfl⟩ := h
            have hl : (p.take n).length = n := by rw [List.length_take, Nat.min_eq_left hc]
            refine leaf_back D rfl (by simp [It.kind]) (by simp [It.kind]) (by simp [formed, It.kind, It.num, It.list, It.text, hv]) ⟨by show (_ : Int) ≤ 0; omega, by show (0 : Int) ≤ _; omega, by show (p.take n).length ≤ _; omega, by simp [It.list]⟩ ?_
            rw [← es, headOf_eq]
            subst h3
            have a : hk (It.mk 2 0 (p.take n) []) = 3 := by simp [hk, It.kind]
            have b : hn (It.mk 2 0 (p.take n) []) = n := by simp only [hn, It.kind, It.text]; simp; omega
            rw [a, b]
            show headL 3 n ++ p.take n ++ p.drop n = _
            rw [List.append_assoc, List.take_append_drop]
          · rw [if_neg hv] at h; simp at h
        · rw [if_neg hc] at h; simp at h
      by_cases h4 : k = 4
      · rw [if_neg h0, if_neg h1, if_neg h2, if_neg h3, if_pos h4] at h
        cases D with
        | zero => simp [subOf] at h
        | succ d =>
          simp only [subOf] at h
          match hd : decN (dec V d) n p with
          | .error e => rw [hd] at h; simp at h
          | .ok (l, r1) =>
            rw [hd] at h
            simp at h
            obtain ⟨rfl, rfl⟩ := h
            obtain ⟨i1, i2, i3⟩ := decN_back (ih d rfl trivial) n p l r1 hlen hd
            have hf : formed V (.mk 3 0 [] l) = true := by simp [formed, It.kind, It.num, It.text]
            refine ⟨?_, ?_, ⟨by show (_ : Int) ≤ 0; omega, by show (0 : Int) ≤ _; omega, by simp [It.text], by show l.length ≤ _; omega⟩, fun x hx => (i2 x hx).2⟩
            · unfold chk; rw [if_pos hf]; exact firstErr_zero.2 fun x hx => (i2 x hx).1
            · show headOf (.mk 3 0 [] l) ++ [] ++ l.flatMap (enc d) ++ r1 = s
              rw [← es, headOf_eq]
              subst h4
              have a : hk (It.mk 3 0 [] l) = 4 := by simp [hk, It.kind]
              have b : hn (It.mk 3 0 [] l) = n := by simp only [hn, It.kind, It.list]; simp; omega
              rw [a, b, List.append_nil, List.append_assoc, i3]
      by_cases h5 : k = 5
      · rw [if_neg h0, if_neg h1, if_neg h2, if_neg h3, if_neg h4, if_pos h5] at h
        cases D with
        | zero => simp [subOf] at h
        | succ d =>
          simp only [subOf] at h
          match hd : decP (dec V d) n [] p with
          | .error e => rw [hd] at h; simp at h
          | .ok (l, r1) =>
            rw [hd] at h
            simp at h
            obtain ⟨rfl, rfl⟩ := h
            obtain ⟨i1, i2, i3, i4⟩ := decP_back (ih d rfl trivial) n [] p Option.none l r1 hlen rfl hd
            have hf : formed V (.mk 4 0 [] l) = true := by simp [formed, It.kind, It.num, It.text, It.list, i4]
            have hll : l.length ≤ p.length := by
              have : l.length ≤ (l.flatMap (enc d)).length := by
                clear i1 i2 i3 i4 hf hd
                induction l with
                | nil => simp
                | cons x l ihl =>
                  have := List.length_pos_iff.2 (enc_ne d x)
                  rw [List.flatMap_cons, List.length_append, List.length_cons]; omega
              rw [← i3, List.length_append]; omega
            refine ⟨?_, ?_, ⟨by show (_ : Int) ≤ 0; omega, by show (0 : Int) ≤ _; omega, by simp [It.text], by show l.length ≤ _; omega⟩, fun x hx => (i2 x hx).2⟩
            · unfold chk; rw [if_pos hf]; exact firstErr_zero.2 fun x hx => (i2 x hx).1
            · show headOf (.mk 4 0 [] l) ++ [] ++ l.flatMap (enc d) ++ r1 = s
              rw [← es, headOf_eq]
              subst h5
              have a : hk (It.mk 4 0 [] l) = 5 := by simp [hk, It.kind]
              have b : hn (It.mk 4 0 [] l) = n := by simp only [hn, It.kind, It.list]; simp; omega
              rw [a, b, List.append_nil, List.append_assoc, i3]
      · rw [if_neg h0, if_neg h1, if_neg h2, if_neg h3, if_neg h4, if_neg h5] at h; simp at h
theorem item_enc {V : List UInt8 → Bool} {sub : Option (List UInt8 → Res It)} {t : It} (h : NumOk t) (r : List UInt8) : item V sub (headOf t ++ r) = body V sub (hk t) (hn t) r := by
  rw [headOf_eq]
  unfold item
  rw [hd_headL (hk_le t) (hn_lt h)]
  simp only [List.drop_left]
theorem decN_enc {V : List UInt8 → Bool} {d : Nat} (ih : ∀ t s, DeepOk d t → chk V d t = 0 → dec V d (enc d t ++ s) = .ok (t, s)) : ∀ (l : List It) (s : List UInt8), (∀ x, x ∈ l → DeepOk d x ∧ chk V d x = 0) → decN (dec V d) l.length (l.flatMap (enc d) ++ s) = .ok (l, s)
  | [], s, _ => rfl
  | x :: l, s, h => by
    have hx := h x (by simp)
    rw [List.length_cons, decN, List.flatMap_cons, List.append_assoc, ih x _ hx.1 hx.2]
    simp only
    rw [decN_enc ih l s (fun y hy => h y (by simp [hy]))]
theorem decP_enc {V : List UInt8 → Bool} {d : Nat} (ih : ∀ t s, DeepOk d t → chk V d t = 0 → dec V d (enc d t ++ s) = .ok (t, s)) : ∀ (n : Nat) (l : List It) (o : Option It) (last s : List UInt8), l.length = 2 * n → Prev V d last o → pairsB o l = true → (∀ x, x ∈ l → DeepOk d x ∧ chk V d x = 0) →
    decP (dec V d) n last (l.flatMap (enc d) ++ s) = .ok (l, s)
  | 0, l, o, last, s, hl, _, _, _ => by
    have : l = [] := List.length_eq_zero_iff.1 (by omega)
    subst this; rfl
  | n + 1, l, o, last, s, hl, hp, hr, h => by
    match l, hl with
    | k :: x :: l', hl =>
      have hk := h k (by simp)
      have hx := h x (by simp)
      rw [pairs_two] at hr
      simp only [Bool.and_eq_true] at hr
      obtain ⟨⟨r1, r2⟩, r3⟩ := hr
      have hb : Back V d (enc d k ++ (enc d x ++ (l'.flatMap (enc d) ++ s))) k (enc d x ++ (l'.flatMap (enc d) ++ s)) := ⟨hk.2, rfl, hk.1⟩
      have hc : (isKey k && decide (last < enc d k)) = true := by rw [r1, prev_rises hp r1 hk.2 hk.1, r2]; rfl
      rw [decP, List.flatMap_cons, List.flatMap_cons, List.append_assoc, List.append_assoc, ih k _ hk.1 hk.2]
      simp only
      rw [hb.cut, if_pos hc, ih x _ hx.1 hx.2]
      simp only
      rw [decP_enc ih n l' (some k) (enc d k) s (by simp at hl; omega) ⟨rfl, r1, hk.2, hk.1⟩ r3 (fun y hy => h y (by simp [hy]))]
theorem pairs_even : ∀ (l : List It) (o : Option It), pairsB o l = true → ∃ n, l.length = 2 * n
  | [], _, _ => ⟨0, rfl⟩
  | [_], o, h => by simp [pairsB] at h
  | k :: x :: l, o, h => by
    rw [pairs_two] at h
    simp only [Bool.and_eq_true] at h
    obtain ⟨n, hn⟩ := pairs_even l (some k) h.2
    exact ⟨n + 1, by simp [hn]; omega⟩
theorem dec_enc (V : List UInt8 → Bool) : ∀ (d : Nat) (t : It) (s : List UInt8), DeepOk d t → chk V d t = 0 → dec V d (enc d t ++ s) = .ok (t, s) := by
  intro d
  induction d with
  | zero => exact fun t s => aux 0 (fun _ h _ => by cases h) t s
  | succ d ih => exact fun t s => aux (d + 1) (fun d' hd' _ => by cases hd'; exact ih) t s
where
  aux (D : Nat) (ih : ∀ d, D = d + 1 → True → ∀ t s, DeepOk d t → chk V d t = 0 → dec V d (enc d t ++ s) = .ok (t, s)) (t : It) (s : List UInt8) (hd : DeepOk D t) (hc : chk V D t = 0) : dec V D (enc D t ++ s) = .ok (t, s) := by
    have hf := chk_formed hc
    have hnum := hd.num
    rw [dec_item]
    obtain ⟨kd, num, text, list⟩ := t
    unfold formed at hf
    by_cases h0 : kd = 0
    · rw [if_pos (show (It.mk kd num text list).kind = 0 from h0)] at hf
      simp only [Bool.and_eq_true, decide_eq_true_eq] at hf; simp only [It.num, It.text, It.list] at hf
      obtain ⟨rfl, hl⟩ := hf
      obtain rfl := List.length_eq_zero_iff.1 hl
      subst h0
      rw [enc_leaf D rfl, List.append_assoc, item_enc hnum]
      by_cases hneg : num < 0
      · rw [hk1 (t := .mk 0 num [] []) rfl hneg, hn1 (t := .mk 0 num [] []) rfl hneg]
        show Except.ok (It.mk 0 (-1 - ((-1 - num).toNat : Int)) [] [], s) = _
        rw [show (-1 - ((-1 - num).toNat : Int)) = num by omega]
      · rw [hk0 (t := .mk 0 num [] []) rfl hneg, hn0 (t := .mk 0 num [] []) rfl hneg]
        show Except.ok (It.mk 0 (num.toNat : Int) [] [], s) = _
        rw [show (num.toNat : Int) = num by omega]
    by_cases h1 : kd = 1
    · rw [if_neg (show ¬ (It.mk kd num text list).kind = 0 from h0), if_pos (show (It.mk kd num text list).kind = 1 from h1)] at hf
      simp only [Bool.and_eq_true, decide_eq_true_eq] at hf; simp only [It.num, It.text, It.list] at hf
      obtain ⟨rfl, hl⟩ := hf
      obtain rfl := List.length_eq_zero_iff.1 hl
      subst h1
      rw [enc_leaf D rfl, List.append_assoc, item_enc hnum]
      show (if text.length ≤ (text ++ s).length then Except.ok (It.mk 1 0 ((text ++ s).take text.length) [], (text ++ s).drop text.length) else .error false) = _
      rw [if_pos (by simp), List.take_left, List.drop_left]
    by_cases h2 : kd = 2
    · rw [if_neg (show ¬ (It.mk kd num text list).kind = 0 from h0), if_neg (show ¬ (It.mk kd num text list).kind = 1 from h1), if_pos (show (It.mk kd num text list).kind = 2 from h2)] at hf
      simp only [Bool.and_eq_true, decide_eq_true_eq] at hf; simp only [It.num, It.text, It.list] at hf
      obtain ⟨⟨rfl, hl⟩, hv⟩ := hf
      obtain rfl := List.length_eq_zero_iff.1 hl
      subst h2
      rw [enc_leaf D rfl, List.append_assoc, item_enc hnum]
      show (if text.length ≤ (text ++ s).length then if V ((text ++ s).take text.length) = true then Except.ok (It.mk 2 0 ((text ++ s).take text.length) [], (text ++ s).drop text.length) else .error false else .error false) = _
      rw [if_pos (by simp), List.take_left, List.drop_left, if_pos hv]
    by_cases h3 : kd = 3
    · rw [if_neg (show ¬ (It.mk kd num text list).kind = 0 from h0), if_neg (show ¬ (It.mk kd num text list).kind = 1 from h1), if_neg (show ¬ (It.mk kd num text list).kind = 2 from h2), if_pos (show (It.mk kd num text list).kind = 3 from h3)] at hf
      simp only [Bool.and_eq_true, decide_eq_true_eq] at hf; simp only [It.num, It.text, It.list] at hf
      obtain ⟨rfl, rfl⟩ := hf
      subst h3
      cases D with
      | zero => exact absurd hc (by unfold chk; simp [It.kind])
      | succ d =>
        have hall := firstErr_zero.1 (show firstErr (chk V d) list = 0 by unfold chk at hc; rw [if_pos (chk_formed (d := d + 1) (by unfold chk; exact hc))] at hc; exact hc)
        show item V (some (dec V d)) (headOf (It.mk 3 0 [] list) ++ [] ++ list.flatMap (enc d) ++ s) = _
        rw [List.append_nil, List.append_assoc, item_enc hnum]
        show (match decN (dec V d) list.length (list.flatMap (enc d) ++ s) with | .error e => (Except.error e : Res It) | .ok (l, r') => Except.ok (It.mk 3 0 [] l, r')) = _
        rw [decN_enc (ih d rfl trivial) list s (fun x hx => ⟨hd.2 x hx, hall x hx⟩)]
    by_cases h4 : kd = 4
    · rw [if_neg (show ¬ (It.mk kd num text list).kind = 0 from h0), if_neg (show ¬ (It.mk kd num text list).kind = 1 from h1), if_neg (show ¬ (It.mk kd num text list).kind = 2 from h2), if_neg (show ¬ (It.mk kd num text list).kind = 3 from h3), if_pos (show (It.mk kd num text list).kind = 4 from h4)] at hf
      simp only [Bool.and_eq_true, decide_eq_true_eq] at hf; simp only [It.num, It.text, It.list] at hf
      obtain ⟨⟨rfl, rfl⟩, hp⟩ := hf
      subst h4
      cases D with
      | zero => exact absurd hc (by unfold chk; simp [It.kind])
      | succ d =>
        have hall := firstErr_zero.1 (show firstErr (chk V d) list = 0 by unfold chk at hc; rw [if_pos (chk_formed (d := d + 1) (by unfold chk; exact hc))] at hc; exact hc)
        obtain ⟨n, hn2⟩ := pairs_even list _ hp
        show item V (some (dec V d)) (headOf (It.mk 4 0 [] list) ++ [] ++ list.flatMap (enc d) ++ s) = _
        rw [List.append_nil, List.append_assoc, item_enc hnum]
        show (match decP (dec V d) (list.length / 2) [] (list.flatMap (enc d) ++ s) with | .error e => (Except.error e : Res It) | .ok (l, r') => Except.ok (It.mk 4 0 [] l, r')) = _
        rw [hn2, Nat.mul_div_cancel_left n (by omega), decP_enc (ih d rfl trivial) n list Option.none [] s hn2 rfl hp (fun x hx => ⟨hd.2 x hx, hall x hx⟩)]
    · rw [if_neg (show ¬ (It.mk kd num text list).kind = 0 from h0), if_neg (show ¬ (It.mk kd num text list).kind = 1 from h1), if_neg (show ¬ (It.mk kd num text list).kind = 2 from h2), if_neg (show ¬ (It.mk kd num text list).kind = 3 from h3), if_neg (show ¬ (It.mk kd num text list).kind = 4 from h4)] at hf
      cases hf
theorem chk_vals (V : List UInt8 → Bool) : ∀ (d : Nat) (t : It), chk V d t = 0 ∨ chk V d t = 31 ∨ chk V d t = 33
  | 0, t => by unfold chk; repeat' split <;> try simp
  | d + 1, t => by
    unfold chk
    split
    · have key : ∀ l : List It, firstErr (chk V d) l = 0 ∨ firstErr (chk V d) l = 31 ∨ firstErr (chk V d) l = 33 := by
        intro l
        induction l with
        | nil => exact .inl rfl
        | cons x l ihl =>
          rw [firstErr]
          split
          · exact ihl
          · exact chk_vals V d x
      exact key _
    · simp
/-- no item's bytes, cut short, are an item's; and the reader calls them wrong, not too deep -/
theorem dec_cut (V : List UInt8 → Bool) (d : Nat) (t : It) (p q : List UInt8) (hq : q ≠ []) (hd : DeepOk d t) (hc : chk V d t = 0) (he : enc d t = p ++ q) : dec V d p = .error false := by
  have h1 := dec_enc V d t [] hd hc
  rw [List.append_nil, he] at h1
  match h2 : dec V d p with
  | .error false => rfl
  | .error true => rw [((dec_ext V d) p q).2 h2] at h1; simp at h1
  | .ok (x, r) =>
    rw [((dec_ext V d) p q).1 x r h2] at h1
    simp at h1
    exact absurd h1.2.2 hq
end Go.Proofs.YtghdcgokndmkjaaDoor
