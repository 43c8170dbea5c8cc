/- Plain: the state of a disk of two files, what is left of it, and what its calls make of it. No condition. -/
set_option linter.unusedVariables false
set_option linter.unusedSimpArgs false
namespace Go.Proofs.Ytekagnhablkggaa

structure St where
  f0 : List UInt8
  f1 : List UInt8
  s0 : Nat
  s1 : Nat
  row : List (Nat × Nat)
  gone : Bool
  inn : Nat
  lft : Nat

/-- how many bytes of file f the pieces are -/
def tot (f : Nat) : List (Nat × Nat) → Nat
  | [] => 0
  | p :: r => (if p.1 = f then p.2 else 0) + tot f r
def leftL : List (Nat × Nat) → Nat → Nat → Nat → Nat × Nat
  | [], _, a, b => (a, b)
  | p :: r, k, a, b => leftL r (k - min p.2 k) (if p.1 = 0 then a + min p.2 k else a) (if p.1 = 0 then b else b + min p.2 k)
def okRow (l : List (Nat × Nat)) : Prop := ∀ p ∈ l, p.1 < 2 ∧ 1 ≤ p.2

theorem okRow.tail {p : Nat × Nat} {l : List (Nat × Nat)} (h : okRow (p :: l)) : okRow l := fun q hq => h q (by simp [hq])
theorem tot_app (f : Nat) (a b : List (Nat × Nat)) : tot f (a ++ b) = tot f a + tot f b := by
  induction a with
  | nil => simp [tot]
  | cons p r ih => simp only [List.cons_append, tot, ih]; omega
theorem len_tot (l : List (Nat × Nat)) (h : okRow l) : l.length ≤ tot 0 l + tot 1 l := by
  induction l with
  | nil => simp [tot]
  | cons p r ih =>
    have := ih h.tail
    have h1 := h p (by simp)
    simp only [List.length_cons, tot]
    split <;> split <;> omega
theorem leftL_bd (l : List (Nat × Nat)) (h : okRow l) (k a b : Nat) :
    a ≤ (leftL l k a b).1 ∧ (leftL l k a b).1 ≤ a + tot 0 l ∧ b ≤ (leftL l k a b).2 ∧ (leftL l k a b).2 ≤ b + tot 1 l ∧ (leftL l k a b).1 + (leftL l k a b).2 = a + b + min k (tot 0 l + tot 1 l) := by
  induction l generalizing k a b with
  | nil => simp [leftL, tot]
  | cons p r ih =>
    obtain ⟨h1, h2⟩ := h p (by simp)
    simp only [leftL, tot]
    rcases (by omega : p.1 = 0 ∨ p.1 = 1) with h0 | h0
    · simp only [h0, if_true]
      have := ih h.tail (k - min p.2 k) (a + min p.2 k) b
      simp only [Nat.zero_ne_one, if_false]
      omega
    · have := ih h.tail (k - min p.2 k) a (b + min p.2 k)
      simp only [h0, Nat.one_ne_zero, if_false, if_true]
      omega
theorem leftL_all (l : List (Nat × Nat)) (h : okRow l) (k a b : Nat) (hk : tot 0 l + tot 1 l ≤ k) : leftL l k a b = (a + tot 0 l, b + tot 1 l) := by
  have := leftL_bd l h k a b
  apply Prod.ext <;> simp only <;> omega
theorem leftL_none (l : List (Nat × Nat)) (h : okRow l) (a b : Nat) : leftL l 0 a b = (a, b) := by
  have := leftL_bd l h 0 a b
  apply Prod.ext <;> simp only <;> omega

/-- one piece more, or a longer last one -/
def longer (l : List (Nat × Nat)) (f n : Nat) : List (Nat × Nat) :=
  if n = 0 then l else
    match l.getLast? with
    | some q => if q.1 = f then l.dropLast ++ [(q.1, q.2 + n)] else l ++ [(f, n)]
    | none => [(f, n)]
theorem longer_zero (l : List (Nat × Nat)) (f : Nat) : longer l f 0 = l := by simp [longer]
theorem longer_nil (f n : Nat) (h : n ≠ 0) : longer [] f n = [(f, n)] := by simp [longer, h]
theorem longer_same (l : List (Nat × Nat)) (f n m : Nat) (h : n ≠ 0) : longer (l ++ [(f, m)]) f n = l ++ [(f, m + n)] := by simp [longer, h]
theorem longer_other (l : List (Nat × Nat)) (f g n m : Nat) (h : n ≠ 0) (hg : g ≠ f) : longer (l ++ [(g, m)]) f n = l ++ [(g, m)] ++ [(f, n)] := by simp [longer, h, hg]
theorem split_last (l : List (Nat × Nat)) : l = [] ∨ ∃ r g m, l = r ++ [(g, m)] := by
  rcases List.eq_nil_or_concat l with h | ⟨r, x, h⟩
  · exact .inl h
  · exact .inr ⟨r, x.1, x.2, by rw [h, List.concat_eq_append]⟩
theorem longer_tot (l : List (Nat × Nat)) (f n e : Nat) : tot e (longer l f n) = tot e l + if f = e then n else 0 := by
  by_cases h : n = 0
  · subst h; simp [longer_zero]
  · rcases split_last l with rfl | ⟨r, g, m, rfl⟩
    · rw [longer_nil _ _ h]; simp [tot]
    · by_cases hg : g = f
      · subst hg
        rw [longer_same _ _ _ _ h]
        simp only [tot_app, tot]
        split <;> omega
      · rw [longer_other _ _ _ _ _ h hg]
        simp only [tot_app, tot]
        omega
theorem longer_ok (l : List (Nat × Nat)) (f n : Nat) (hf : f < 2) (h : okRow l) : okRow (longer l f n) := by
  by_cases h0 : n = 0
  · subst h0; rw [longer_zero]; exact h
  · rcases split_last l with rfl | ⟨r, g, m, rfl⟩
    · rw [longer_nil _ _ h0]
      intro p hp
      simp only [List.mem_singleton] at hp
      subst hp
      exact ⟨hf, by simp only; omega⟩
    · by_cases hg : g = f
      · subst hg
        rw [longer_same _ _ _ _ h0]
        intro p hp
        simp only [List.mem_append, List.mem_singleton] at hp
        rcases hp with hp | rfl
        · exact h p (by simp [hp])
        · exact ⟨hf, by simp only; omega⟩
      · rw [longer_other _ _ _ _ _ h0 hg]
        intro p hp
        simp only [List.mem_append, List.mem_singleton, or_assoc] at hp
        rcases hp with hp | rfl | rfl
        · exact h p (by simp [hp])
        · exact h _ (by simp)
        · exact ⟨hf, by simp only; omega⟩

namespace St
def left (S : St) (k : Nat) : Nat × Nat := leftL S.row k S.s0 S.s1
def waiting (S : St) : Nat := (S.f0.length - S.s0) + (S.f1.length - S.s1)
def cut0 (S : St) (n : Nat) : St := { S with f0 := S.f0.take n, s0 := n }
def cut1 (S : St) (n : Nat) : St := { S with f1 := S.f1.take n, s1 := n }
def cutF (S : St) (f n : Nat) : St := if f = 0 then S.cut0 n else S.cut1 n
def keep (S : St) (k : Nat) : St := { S with f0 := S.f0.take (S.left k).1, f1 := S.f1.take (S.left k).2, s0 := (S.left k).1, s1 := (S.left k).2, row := [] }
def power (S : St) (g : Bool) (n k : Nat) : St := { S with gone := g, inn := n, lft := k }
def lose (S : St) (k : Nat) : St := (S.keep k).power true 0 0
def file (S : St) (f : Nat) : List UInt8 := if f = 0 then S.f0 else S.f1
def safe (S : St) (f : Nat) : Nat := if f = 0 then S.s0 else S.s1
def lay (S : St) (f : Nat) (s : List UInt8) : St :=
  if f = 0 then { S with f0 := S.f0 ++ s, row := longer S.row 0 s.length } else { S with f1 := S.f1 ++ s, row := longer S.row 1 s.length }
/-- a change is under way -/
def count (S : St) : Nat × St :=
  if S.inn = 0 then (0, S) else if S.inn - 1 > 0 then (0, { S with inn := S.inn - 1 }) else (2, S.lose S.lft)
def there (f : Int) : Bool := decide (0 ≤ f ∧ f < 2)
def size (S : St) (f : Int) : Int := if there f then ((S.file f.toNat).length : Int) else -1
def append (S : St) (f : Int) (s : List UInt8) : Nat × St :=
  if S.gone then (2, S) else if ¬ there f then (90, S) else if (S.file f.toNat).length + s.length > 1048576 then (91, S) else (S.lay f.toNat s).count
def sync (S : St) : Nat × St :=
  if S.gone then (2, S) else if (S.count).1 = 0 then (0, (S.count).2.keep (S.count).2.waiting) else S.count
def cut (S : St) (f n : Int) : Nat × St :=
  if S.gone then (2, S) else if ¬ there f then (90, S) else if n < 0 ∨ n > ((S.file f.toNat).length : Int) ∨ S.safe f.toNat < (S.file f.toNat).length then (92, S)
  else if (S.count).1 = 0 then (0, (S.count).2.cutF f.toNat n.toNat) else S.count
def arm (S : St) (n k : Int) : Nat × St :=
  if S.gone then (2, S) else if n < 0 ∨ k < 0 then (1, S) else (0, S.power false n.toNat k.toNat)
def crash (S : St) (k : Int) : Nat × St :=
  if S.gone then (2, S) else if k < 0 then (1, S) else (0, S.lose k.toNat)
def read (S : St) (f : Int) : List UInt8 × Nat :=
  if S.gone then ([], 2) else if ¬ there f then ([], 90) else (S.file f.toNat, 0)
def revive (S : St) : St := S.power false 0 0
def after (S : St) (k : Int) : List UInt8 × List UInt8 := (S.f0.take (S.left k.toNat).1, S.f1.take (S.left k.toNat).2)
def new (a b : List UInt8) : St := ⟨a, b, a.length, b.length, [], false, 0, 0⟩

structure Wf (S : St) : Prop where
  ok : okRow S.row
  t0 : S.s0 + tot 0 S.row = S.f0.length
  t1 : S.s1 + tot 1 S.row = S.f1.length
  l0 : S.f0.length ≤ 1048576
  l1 : S.f1.length ≤ 1048576
  li : S.inn ≤ 9223372036854775807
  ll : S.lft ≤ 9223372036854775807

theorem Wf.left {S : St} (h : S.Wf) (k : Nat) : S.s0 ≤ (S.left k).1 ∧ (S.left k).1 ≤ S.f0.length ∧ S.s1 ≤ (S.left k).2 ∧ (S.left k).2 ≤ S.f1.length ∧ (S.left k).1 + (S.left k).2 = S.s0 + S.s1 + min k S.waiting := by
  have := leftL_bd S.row h.ok k S.s0 S.s1
  have h0 := h.t0
  have h1 := h.t1
  unfold St.left waiting
  omega
theorem Wf.left_all {S : St} (h : S.Wf) (k : Nat) (hk : S.waiting ≤ k) : S.left k = (S.f0.length, S.f1.length) := by
  have := h.left k
  have h0 := h.t0
  have h1 := h.t1
  unfold waiting at *
  apply Prod.ext <;> simp only <;> omega
theorem Wf.left_none {S : St} (h : S.Wf) : S.left 0 = (S.s0, S.s1) := leftL_none S.row h.ok _ _
theorem Wf.rowlen {S : St} (h : S.Wf) : S.row.length ≤ 2097152 := by
  have := len_tot S.row h.ok
  have h0 := h.t0
  have h1 := h.t1
  have h2 := h.l0
  have h3 := h.l1
  omega
theorem Wf.keep {S : St} (h : S.Wf) (k : Nat) : (S.keep k).Wf := by
  have := h.left k
  have h2 := h.l0
  have h3 := h.l1
  refine ⟨fun p hp => by simp [St.keep] at hp, ?_, ?_, ?_, ?_, h.li, h.ll⟩ <;> simp only [St.keep, tot, List.length_take] <;> omega
theorem Wf.power {S : St} (h : S.Wf) (g : Bool) {n k : Nat} (hn : n ≤ 9223372036854775807) (hk : k ≤ 9223372036854775807) : (S.power g n k).Wf := ⟨h.ok, h.t0, h.t1, h.l0, h.l1, hn, hk⟩
theorem Wf.lose {S : St} (h : S.Wf) (k : Nat) : (S.lose k).Wf := (h.keep k).power true (by omega) (by omega)
theorem Wf.dec {S : St} (h : S.Wf) : ({ S with inn := S.inn - 1 } : St).Wf := ⟨h.ok, h.t0, h.t1, h.l0, h.l1, by have := h.li; simp only; omega, h.ll⟩
theorem Wf.count {S : St} (h : S.Wf) : (S.count).2.Wf := by
  unfold St.count
  split
  · exact h
  · split
    · exact h.dec
    · exact h.lose _
theorem Wf.lay {S : St} (h : S.Wf) (f : Nat) (s : List UInt8) (hf : f < 2) (hs : (S.file f).length + s.length ≤ 1048576) : (S.lay f s).Wf := by
  have h0 := h.t0
  have h1 := h.t1
  unfold St.lay
  unfold file at hs
  split
  · rename_i hf0
    rw [if_pos hf0] at hs
    refine ⟨longer_ok _ _ _ (by omega) h.ok, ?_, ?_, ?_, h.l1, h.li, h.ll⟩ <;> simp [longer_tot, List.length_append] <;> omega
  · rename_i hf0
    rw [if_neg hf0] at hs
    refine ⟨longer_ok _ _ _ (by omega) h.ok, ?_, ?_, h.l0, ?_, h.li, h.ll⟩ <;> simp [longer_tot, List.length_append] <;> omega
theorem Wf.cutF {S : St} (h : S.Wf) (f n : Nat) (hn : n ≤ (S.file f).length) (hs : ¬ S.safe f < (S.file f).length) : (S.cutF f n).Wf := by
  have h0 := h.t0
  have h1 := h.t1
  have h2 := h.l0
  have h3 := h.l1
  unfold St.cutF cut0 cut1
  unfold file at hn hs
  unfold safe at hs
  split
  · rename_i hf0
    simp only [hf0, if_true] at hn hs
    refine ⟨h.ok, ?_, h.t1, ?_, h.l1, h.li, h.ll⟩ <;> simp only [List.length_take] <;> omega
  · rename_i hf0
    simp only [hf0, if_false] at hn hs
    refine ⟨h.ok, h.t0, ?_, h.l0, ?_, h.li, h.ll⟩ <;> simp only [List.length_take] <;> omega
theorem Wf.new {a b : List UInt8} (ha : a.length ≤ 1048576) (hb : b.length ≤ 1048576) : (St.new a b).Wf := ⟨fun p hp => by simp [St.new] at hp, by simp [St.new, tot], by simp [St.new, tot], ha, hb, by simp [St.new], by simp [St.new]⟩
theorem count_file {S : St} (h : (S.count).1 = 0) : (S.count).2.f0 = S.f0 ∧ (S.count).2.f1 = S.f1 ∧ (S.count).2.s0 = S.s0 ∧ (S.count).2.s1 = S.s1 ∧ (S.count).2.row = S.row ∧ (S.count).2.gone = S.gone := by
  unfold St.count at *
  split
  · exact ⟨rfl, rfl, rfl, rfl, rfl, rfl⟩
  · split
    · exact ⟨rfl, rfl, rfl, rfl, rfl, rfl⟩
    · rename_i a b
      simp [a, b] at h
end St
end Go.Proofs.Ytekagnhablkggaa
