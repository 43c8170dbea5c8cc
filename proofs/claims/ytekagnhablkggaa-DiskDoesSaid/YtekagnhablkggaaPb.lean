/- Plain: the row of unsafe bytes that a disk's pieces stand for, one by one, as the document has them. No condition. -/
import Derived.Test.YtekagnhablkggaaPa
set_option linter.unusedVariables false
set_option linter.unusedSimpArgs false
namespace Go.Proofs.Ytekagnhablkggaa

/-- the unsafe bytes, one by one, and whose they are -/
def exp : List (Nat × Nat) → List UInt8 → List UInt8 → List (Nat × UInt8)
  | [], _, _ => []
  | p :: r, x, y => if p.1 = 0 then (x.take p.2).map (fun c => (0, c)) ++ exp r (x.drop p.2) y else (y.take p.2).map (fun c => (1, c)) ++ exp r x (y.drop p.2)
def pick0 (l : List (Nat × UInt8)) : List UInt8 := l.filterMap fun x => if x.1 = 0 then some x.2 else none
def pick1 (l : List (Nat × UInt8)) : List UInt8 := l.filterMap fun x => if x.1 = 0 then none else some x.2
theorem pick0_app (a b : List (Nat × UInt8)) : pick0 (a ++ b) = pick0 a ++ pick0 b := by simp [pick0]
theorem pick1_app (a b : List (Nat × UInt8)) : pick1 (a ++ b) = pick1 a ++ pick1 b := by simp [pick1]
theorem pick0_0 (l : List UInt8) : pick0 (l.map fun c => (0, c)) = l := by
  induction l with
  | nil => rfl
  | cons c r ih => simp [pick0] at ih ⊢; exact ih
theorem pick0_1 (l : List UInt8) : pick0 (l.map fun c => (1, c)) = [] := by
  induction l with
  | nil => rfl
  | cons c r ih => simp [pick0] at ih ⊢
theorem pick1_0 (l : List UInt8) : pick1 (l.map fun c => (0, c)) = [] := by
  induction l with
  | nil => rfl
  | cons c r ih => simp [pick1] at ih ⊢
theorem pick1_1 (l : List UInt8) : pick1 (l.map fun c => (1, c)) = l := by
  induction l with
  | nil => rfl
  | cons c r ih => simp [pick1] at ih ⊢; exact ih
theorem leftL_add (l : List (Nat × Nat)) (k a b : Nat) : leftL l k a b = (a + (leftL l k 0 0).1, b + (leftL l k 0 0).2) := by
  induction l generalizing k a b with
  | nil => simp [leftL]
  | cons p r ih =>
    simp only [leftL]
    split
    · rw [ih _ (a + _) b, ih _ (0 + _) 0]; simp; omega
    · rw [ih _ a (b + _), ih _ 0 (0 + _)]; simp; omega
theorem take_map (l : List UInt8) (f : UInt8 → Nat × UInt8) (k : Nat) : (l.map f).take k = (l.take k).map f := by rw [List.map_take]
theorem join_take (x : List UInt8) (n m k : Nat) (h : k < n → m = 0) : (x.take n).take k ++ (x.drop n).take m = x.take (min n k + m) := by
  rw [List.take_take]
  by_cases hk : k < n
  · rw [h hk]; simp [Nat.min_comm]
  · have e1 : min k n = n := by omega
    have e2 : min n k = n := by omega
    rw [e1, e2, ← List.take_add]
theorem exp_take (l : List (Nat × Nat)) (h : okRow l) (x y : List UInt8) (hx : tot 0 l ≤ x.length) (hy : tot 1 l ≤ y.length) (k : Nat) :
    pick0 ((exp l x y).take k) = x.take (leftL l k 0 0).1 ∧ pick1 ((exp l x y).take k) = y.take (leftL l k 0 0).2 := by
  induction l generalizing x y k with
  | nil => simp [exp, pick0, pick1, leftL]
  | cons p r ih =>
    obtain ⟨h1, h2⟩ := h p (by simp)
    have hr := h.tail
    simp only [exp, leftL, tot] at hx hy ⊢
    rcases (by omega : p.1 = 0 ∨ p.1 = 1) with h0 | h0
    · simp only [h0, if_true, Nat.zero_ne_one, if_false] at hx hy ⊢
      rw [List.take_append, pick0_app, pick1_app, take_map, pick0_0, pick1_0, leftL_add]
      have hl : ((x.take p.2).map fun c => ((0 : Nat), c)).length = p.2 := by simp; omega
      rw [hl]
      obtain ⟨i1, i2⟩ := ih hr (x.drop p.2) y (by simp; omega) (by omega) (k - p.2)
      rw [i1, i2, show k - min p.2 k = k - p.2 from by omega]
      refine ⟨?_, by simp⟩
      simp only [Nat.zero_add]
      apply join_take
      intro hlt
      rw [show k - p.2 = 0 by omega, leftL_none r hr]
    · simp only [h0, Nat.one_ne_zero, if_false, if_true] at hx hy ⊢
      rw [List.take_append, pick0_app, pick1_app, take_map, pick0_1, pick1_1, leftL_add]
      have hl : ((y.take p.2).map fun c => ((1 : Nat), c)).length = p.2 := by simp; omega
      rw [hl]
      obtain ⟨i1, i2⟩ := ih hr x (y.drop p.2) (by omega) (by simp; omega) (k - p.2)
      rw [i1, i2, show k - min p.2 k = k - p.2 from by omega]
      refine ⟨by simp, ?_⟩
      simp only [Nat.zero_add]
      apply join_take
      intro hlt
      rw [show k - p.2 = 0 by omega, leftL_none r hr]
theorem exp_len (l : List (Nat × Nat)) (h : okRow l) (x y : List UInt8) (hx : tot 0 l ≤ x.length) (hy : tot 1 l ≤ y.length) : (exp l x y).length = tot 0 l + tot 1 l := by
  induction l generalizing x y with
  | nil => simp [exp, tot]
  | cons p r ih =>
    obtain ⟨h1, h2⟩ := h p (by simp)
    simp only [exp, tot] at hx hy ⊢
    rcases (by omega : p.1 = 0 ∨ p.1 = 1) with h0 | h0
    · simp only [h0, if_true, Nat.zero_ne_one, if_false] at hx hy ⊢
      rw [List.length_append, ih h.tail _ _ (by simp; omega) (by omega)]; simp; omega
    · simp only [h0, Nat.one_ne_zero, if_false, if_true] at hx hy ⊢
      rw [List.length_append, ih h.tail _ _ (by omega) (by simp; omega)]; simp; omega
theorem exp_lt (l : List (Nat × Nat)) (x y : List UInt8) : ∀ c ∈ exp l x y, c.1 < 2 := by
  induction l generalizing x y with
  | nil => simp [exp]
  | cons p r ih =>
    simp only [exp]
    split <;> (intro c hc; rw [List.mem_append] at hc; rcases hc with hc | hc)
    · obtain ⟨b, _, rfl⟩ := List.mem_map.1 hc; simp
    · exact ih _ _ c hc
    · obtain ⟨b, _, rfl⟩ := List.mem_map.1 hc; simp
    · exact ih _ _ c hc
theorem exp_app (l m : List (Nat × Nat)) (h : okRow l) (x y : List UInt8) : exp (l ++ m) x y = exp l x y ++ exp m (x.drop (tot 0 l)) (y.drop (tot 1 l)) := by
  induction l generalizing x y with
  | nil => simp [exp, tot]
  | cons p r ih =>
    obtain ⟨h1, h2⟩ := h p (by simp)
    simp only [List.cons_append, exp, tot]
    rcases (by omega : p.1 = 0 ∨ p.1 = 1) with h0 | h0
    · simp only [h0, if_true, Nat.zero_ne_one, if_false]
      rw [ih h.tail, List.append_assoc, List.drop_drop, Nat.zero_add]
    · simp only [h0, Nat.one_ne_zero, if_false, if_true]
      rw [ih h.tail, List.append_assoc, List.drop_drop, Nat.zero_add]
theorem exp_more (l : List (Nat × Nat)) (h : okRow l) (x y s t : List UInt8) (hx : tot 0 l ≤ x.length) (hy : tot 1 l ≤ y.length) : exp l (x ++ s) (y ++ t) = exp l x y := by
  induction l generalizing x y with
  | nil => simp [exp]
  | cons p r ih =>
    obtain ⟨h1, h2⟩ := h p (by simp)
    simp only [exp, tot] at hx hy ⊢
    rcases (by omega : p.1 = 0 ∨ p.1 = 1) with h0 | h0
    · simp only [h0, if_true, Nat.zero_ne_one, if_false] at hx hy ⊢
      rw [List.take_append_of_le_length (by omega), List.drop_append_of_le_length (by omega), ih h.tail _ _ (by simp; omega) (by omega)]
    · simp only [h0, Nat.one_ne_zero, if_false, if_true] at hx hy ⊢
      rw [List.take_append_of_le_length (by omega), List.drop_append_of_le_length (by omega), ih h.tail _ _ (by omega) (by simp; omega)]
theorem exp_longer (l : List (Nat × Nat)) (h : okRow l) (f n : Nat) (x y : List UInt8) : exp (longer l f n) x y = exp (l ++ [(f, n)]) x y := by
  by_cases h0 : n = 0
  · subst h0
    rw [longer_zero, exp_app l _ h]
    simp [exp]
  · rcases split_last l with rfl | ⟨r, g, m, rfl⟩
    · rw [longer_nil _ _ h0]; rfl
    · by_cases hg : g = f
      · subst hg
        have hr : okRow r := fun q hq => h q (by simp [hq])
        rw [longer_same _ _ _ _ h0, List.append_assoc, exp_app r _ hr, exp_app r _ hr]
        congr 1
        simp only [List.cons_append, List.nil_append, exp, List.append_nil]
        split
        · rw [List.take_add, List.map_append]
        · rw [List.take_add, List.map_append]
      · rw [longer_other _ _ _ _ _ h0 hg]

namespace St
/-- the unsafe bytes, in the order in which they were laid -/
def un (S : St) : List (Nat × UInt8) := exp S.row (S.f0.drop S.s0) (S.f1.drop S.s1)
theorem un_len {S : St} (h : S.Wf) : S.un.length = S.waiting := by
  have h0 := h.t0
  have h1 := h.t1
  unfold un waiting
  rw [exp_len _ h.ok _ _ (by simp; omega) (by simp; omega)]
  omega
theorem un_lt (S : St) : ∀ c ∈ S.un, c.1 < 2 := exp_lt _ _ _
theorem drop_take (l : List UInt8) (n m : Nat) : l.take n ++ (l.drop n).take m = l.take (n + m) := by rw [List.take_add]
theorem un_after {S : St} (h : S.Wf) (k : Nat) : S.f0.take S.s0 ++ pick0 (S.un.take k) = S.f0.take (S.left k).1 ∧ S.f1.take S.s1 ++ pick1 (S.un.take k) = S.f1.take (S.left k).2 := by
  have h0 := h.t0
  have h1 := h.t1
  have := exp_take S.row h.ok (S.f0.drop S.s0) (S.f1.drop S.s1) (by simp; omega) (by simp; omega) k
  unfold un St.left
  rw [this.1, this.2, drop_take, drop_take, leftL_add S.row k S.s0 S.s1]
  exact ⟨rfl, rfl⟩
theorem un_all {S : St} (h : S.Wf) : S.f0.take S.s0 ++ pick0 S.un = S.f0 ∧ S.f1.take S.s1 ++ pick1 S.un = S.f1 := by
  have := un_after h S.waiting
  rw [h.left_all _ (Nat.le_refl _), ← un_len h, List.take_length, List.take_length, List.take_length] at this
  exact this
theorem un_count {S : St} (h : S.Wf) : (pick0 S.un).length = S.f0.length - S.s0 ∧ (pick1 S.un).length = S.f1.length - S.s1 := by
  have h0 := h.t0
  have h1 := h.t1
  obtain ⟨a, b⟩ := un_all h
  have a' := congrArg List.length a
  have b' := congrArg List.length b
  simp only [List.length_append, List.length_take] at a' b'
  omega
theorem un_lay0 {S : St} (h : S.Wf) (s : List UInt8) : (S.lay 0 s).un = S.un ++ s.map (fun c => (0, c)) := by
  have h0 := h.t0
  have h1 := h.t1
  unfold St.lay un
  rw [if_pos rfl]
  simp only []
  have hx : tot 0 S.row = (S.f0.drop S.s0).length := by simp; omega
  have hy : tot 1 S.row = (S.f1.drop S.s1).length := by simp; omega
  rw [List.drop_append_of_le_length (by omega), exp_longer _ h.ok, exp_app _ _ h.ok, ← List.append_nil (S.f1.drop S.s1), exp_more _ h.ok _ _ _ _ (by omega) (by omega), List.append_nil]
  congr 1
  rw [hx, List.drop_append_of_le_length (Nat.le_refl _), List.drop_length]
  simp [exp]
theorem un_lay1 {S : St} (h : S.Wf) (s : List UInt8) : (S.lay 1 s).un = S.un ++ s.map (fun c => (1, c)) := by
  have h0 := h.t0
  have h1 := h.t1
  unfold St.lay un
  rw [if_neg (by decide)]
  simp only []
  have hx : tot 0 S.row = (S.f0.drop S.s0).length := by simp; omega
  have hy : tot 1 S.row = (S.f1.drop S.s1).length := by simp; omega
  rw [List.drop_append_of_le_length (by omega), exp_longer _ h.ok, exp_app _ _ h.ok, ← List.append_nil (S.f0.drop S.s0), exp_more _ h.ok _ _ _ _ (by omega) (by omega), List.append_nil]
  congr 1
  rw [hy, List.drop_append_of_le_length (Nat.le_refl _), List.drop_length]
  simp [exp]
theorem un_cut {S : St} (h : S.Wf) (f n : Nat) (hn : n ≤ (S.file f).length) (hs : ¬ S.safe f < (S.file f).length) : (S.cutF f n).un = S.un := by
  have h0 := h.t0
  have h1 := h.t1
  unfold file at hn hs
  unfold safe at hs
  unfold St.cutF cut0 cut1 un
  split
  · rename_i hf
    rw [if_pos hf] at hn hs
    rw [if_pos hf] at hs
    have e1 : S.f0.drop S.s0 = [] := by rw [List.drop_eq_nil_iff]; omega
    have e2 : (S.f0.take n).drop n = [] := by rw [List.drop_eq_nil_iff, List.length_take]; omega
    rw [e1]; simp only [e2]
  · rename_i hf
    rw [if_neg hf] at hn hs
    rw [if_neg hf] at hs
    have e1 : S.f1.drop S.s1 = [] := by rw [List.drop_eq_nil_iff]; omega
    have e2 : (S.f1.take n).drop n = [] := by rw [List.drop_eq_nil_iff, List.length_take]; omega
    rw [e1]; simp only [e2]
theorem un_nil {S : St} (h : S.row = []) : S.un = [] := by unfold un; rw [h]; rfl
end St
end Go.Proofs.Ytekagnhablkggaa
