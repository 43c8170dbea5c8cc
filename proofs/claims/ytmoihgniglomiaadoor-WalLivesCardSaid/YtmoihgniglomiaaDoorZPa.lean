/- Plain: the state of a disk of two files, what is left of it, and what its calls make of it. No condition. -/
import Derived.Test.YtmoihgniglomiaaDoorProg
set_option linter.unusedVariables false
set_option linter.unusedSimpArgs false
namespace Go.Proofs.YtmoihgniglomiaaDoor

structure St where
  f0 : List UInt8
  f1 : List UInt8
  s0 : Nat
  s1 : Nat
  row : List (Nat × Nat)
  gone : Bool
  inn : Nat
  lft : Nat

/-- how many bytes of file f the pieces are -/
def tot (f : Nat) : List (Nat × Nat) → Nat
  | [] => 0
  | p :: r => (if p.1 = f then p.2 else 0) + tot f r
def leftL : List (Nat × Nat) → Nat → Nat → Nat → Nat × Nat
  | [], _, a, b => (a, b)
  | p :: r, k, a, b => leftL r (k - min p.2 k) (if p.1 = 0 then a + min p.2 k else a) (if p.1 = 0 then b else b + min p.2 k)
def okRow (l : List (Nat × Nat)) : Prop := ∀ p ∈ l, p.1 < 2 ∧ 1 ≤ p.2

theorem okRow.tail {p : Nat × Nat} {l : List (Nat × Nat)} (h : okRow (p :: l)) : okRow l := fun q hq => h q (by simp [hq])
theorem tot_app (f : Nat) (a b : List (Nat × Nat)) : tot f (a ++ b) = tot f a + tot f b := by
  induction a with
  | nil => simp [tot]
  | cons p r ih => simp only [List.cons_append, tot, ih]; omega
theorem len_tot (l : List (Nat × Nat)) (h : okRow l) : l.length ≤ tot 0 l + tot 1 l := by
  induction l with
  | nil => simp [tot]
  | cons p r ih =>
    have := ih h.tail
    have h1 := h p (by simp)
    simp only [List.length_cons, tot]
    split <;> split <;> omega
theorem leftL_bd (l : List (Nat × Nat)) (h : okRow l) (k a b : Nat) :
    a ≤ (leftL l k a b).1 ∧ (leftL l k a b).1 ≤ a + tot 0 l ∧ b ≤ (leftL l k a b).2 ∧ (leftL l k a b).2 ≤ b + tot 1 l ∧ (leftL l k a b).1 + (leftL l k a b).2 = a + b + min k (tot 0 l + tot 1 l) := by
  induction l generalizing k a b with
  | nil => simp [leftL, tot]
  | cons p r ih =>
    obtain ⟨h1, h2⟩ := h p (by simp)
    simp only [leftL, tot]
    rcases (by omega : p.1 = 0 ∨ p.1 = 1) with h0 | h0
    · simp only [h0, if_true]
      have := ih h.tail (k - min p.2 k) (a + min p.2 k) b
      simp only [Nat.zero_ne_one, if_false]
      omega
    · have := ih h.tail (k - min p.2 k) a (b + min p.2 k)
      simp only [h0, Nat.one_ne_zero, if_false, if_true]
      omega
theorem leftL_all (l : List (Nat × Nat)) (h : okRow l) (k a b : Nat) (hk : tot 0 l + tot 1 l ≤ k) : leftL l k a b = (a + tot 0 l, b + tot 1 l) := by
  have := leftL_bd l h k a b
  apply Prod.ext <;> simp only <;> omega
theorem leftL_none (l : List (Nat × Nat)) (h : okRow l) (a b : Nat) : leftL l 0 a b = (a, b) := by
  have := leftL_bd l h 0 a b
  apply Prod.ext <;> simp only <;> omega

/-- one piece more, or a longer last one -/
def longer (l : List (Nat × Nat)) (f n : Nat) : List (Nat × Nat) :=
  if n = 0 then l else
    match l.getLast? with
    | some q => if q.1 = f then l.dropLast ++ [(q.1, q.2 + n)] else l ++ [(f, n)]
    | none => [(f, n)]
theorem longer_zero (l : List (Nat × Nat)) (f : Nat) : longer l f 0 = l := by simp [longer]
theorem longer_nil (f n : Nat) (h : n ≠ 0) : longer [] f n = [(f, n)] := by simp [longer, h]
theorem longer_same (l : List (Nat × Nat)) (f n m : Nat) (h : n ≠ 0) : longer (l ++ [(f, m)]) f n = l ++ [(f, m + n)] := by simp [longer, h]
theorem longer_other (l : List (Nat × Nat)) (f g n m : Nat) (h : n ≠ 0) (hg : g ≠ f) : longer (l ++ [(g, m)]) f n = l ++ [(g, m)] ++ [(f, n)] := by simp [longer, h, hg]
theorem split_last (l : List (Nat × Nat)) : l = [] ∨ ∃ r g m, l = r ++ [(g, m)] := by
  rcases List.eq_nil_or_concat l with h | ⟨r, x, h⟩
  · exact .inl h
  · exact .inr ⟨r, x.1, x.2, by rw [h, List.concat_eq_append]⟩
theorem longer_tot (l : List (Nat × Nat)) (f n e : Nat) : tot e (longer l f n) = tot e l + if f = e then n else 0 := by
  by_cases h : n = 0
  · subst h; simp [longer_zero]
  · rcases split_last l with rfl | ⟨r, g, m, rfl⟩
    · rw [longer_nil _ _ h]; simp [tot]
    · by_cases hg : g = f
      · subst hg
        rw [longer_same _ _ _ _ h]
        simp only [tot_app, tot]
        split <;> omega
      · rw [longer_other _ _ _ _ _ h hg]
        simp only [tot_app, tot]
        omega
theorem longer_ok (l : List (Nat × Nat)) (f n : Nat) (hf : f < 2) (h : okRow l) : okRow (longer l f n) := by
  by_cases h0 : n = 0
  · subst h0; rw [longer_zero]; exact h
  · rcases split_last l with rfl | ⟨r, g, m, rfl⟩
    · rw [longer_nil _ _ h0]
      intro p hp
      simp only [List.mem_singleton] at hp
      subst hp
      exact ⟨hf, by simp only; omega⟩
    · by_cases hg : g = f
      · subst hg
        rw [longer_same _ _ _ _ h0]
        intro p hp
        simp only [List.mem_append, List.mem_singleton] at hp
        rcases hp with hp | rfl
        · exact h p (by simp [hp])
        · exact ⟨hf, by simp only; omega⟩
      · rw [longer_other _ _ _ _ _ h0 hg]
        intro p hp
        simp only [List.mem_append, List.mem_singleton, or_assoc] at hp
        rcases hp with hp | rfl | rfl
        · exact h p (by simp [hp])
        · exact h _ (by simp)
        · exact ⟨hf, by simp only; omega⟩

namespace St
def left (S : St) (k : Nat) : Nat × Nat := leftL S.row k S.s0 S.s1
def waiting (S : St) : Nat := (S.f0.length - S.s0) + (S.f1.length - S.s1)
def cut0 (S : St) (n : Nat) : St := { S with f0 := S.f0.take n, s0 := n }
def cut1 (S : St) (n : Nat) : St := { S with f1 := S.f1.take n, s1 := n }
def cutF (S : St) (f n : Nat) : St := if f = 0 then S.cut0 n else S.cut1 n
def keep (S : St) (k : Nat) : St := { S with f0 := S.f0.take (S.left k).1, f1 := S.f1.take (S.left k).2, s0 := (S.left k).1, s1 := (S.left k).2, row := [] }
def power (S : St) (g : Bool) (n k : Nat) : St := { S with gone := g, inn := n, lft := k }
def lose (S : St) (k : Nat) : St := (S.keep k).power true 0 0
def file (S : St) (f : Nat) : List UInt8 := if f = 0 then S.f0 else S.f1
def safe (S : St) (f : Nat) : Nat := if f = 0 then S.s0 else S.s1
def lay (S : St) (f : Nat) (s : List UInt8) : St :=
  if f = 0 then { S with f0 := S.f0 ++ s, row := longer S.row 0 s.length } else { S with f1 := S.f1 ++ s, row := longer S.row 1 s.length }
/-- a change is under way -/
def count (S : St) : Nat × St :=
  if S.inn = 0 then (0, S) else if S.inn - 1 > 0 then (0, { S with inn := S.inn - 1 }) else (2, S.lose S.lft)
def there (f : Int) : Bool := decide (0 ≤ f ∧ f < 2)
def size (S : St) (f : Int) : Int := if there f then ((S.file f.toNat).length : Int) else -1
def append (S : St) (f : Int) (s : List UInt8) : Nat × St :=
  if S.gone then (2, S) else if ¬ there f then (90, S) else if (S.file f.toNat).length + s.length > 1048576 then (91, S) else (S.lay f.toNat s).count
def sync (S : St) : Nat × St :=
  if S.gone then (2, S) else if (S.count).1 = 0 then (0, (S.count).2.keep (S.count).2.waiting) else S.count
def cut (S : St) (f n : Int) : Nat × St :=
  if S.gone then (2, S) else if ¬ there f then (90, S) else if n < 0 ∨ n > ((S.file f.toNat).length : Int) ∨ S.safe f.toNat < (S.file f.toNat).length then (92, S)
  else if (S.count).1 = 0 then (0, (S.count).2.cutF f.toNat n.toNat) else S.count
def arm (S : St) (n k : Int) : Nat × St :=
  if S.gone then (2, S) else if n < 0 ∨ k < 0 then (1, S) else (0, S.power false n.toNat k.toNat)
def crash (S : St) (k : Int) : Nat × St :=
  if S.gone then (2, S) else if k < 0 then (1, S) else (0, S.lose k.toNat)
def read (S : St) (f : Int) : List UInt8 × Nat :=
  if S.gone then ([], 2) else if ¬ there f then ([], 90) else (S.file f.toNat, 0)
def revive (S : St) : St := S.power false 0 0
def after (S : St) (k : Int) : List UInt8 × List UInt8 := (S.f0.take (S.left k.toNat).1, S.f1.take (S.left k.toNat).2)
def new (a b : List UInt8) : St := ⟨a, b, a.length, b.length, [], false, 0, 0⟩

structure Wf (S : St) : Prop where
  ok : okRow S.row
  t0 : S.s0 + tot 0 S.row = S.f0.length
  t1 : S.s1 + tot 1 S.row = S.f1.length
  l0 : S.f0.length ≤ 1048576
  l1 : S.f1.length ≤ 1048576
  li : S.inn ≤ 9223372036854775807
  ll : S.lft ≤ 9223372036854775807

theorem Wf.left {S : St} (h : S.Wf) (k : Nat) : S.s0 ≤ (S.left k).1 ∧ (S.left k).1 ≤ S.f0.length ∧ S.s1 ≤ (S.left k).2 ∧ (S.left k).2 ≤ S.f1.length ∧ (S.left k).1 + (S.left k).2 = S.s0 + S.s1 + min k S.waiting := by
  have := leftL_bd S.row h.ok k S.s0 S.s1
  have h0 := h.t0
  have h1 := h.t1
  unfold St.left waiting
  omega
theorem Wf.left_all {S : St} (h : S.Wf) (k : Nat) (hk : S.waiting ≤ k) : S.left k = (S.f0.length, S.f1.length) := by
  have := h.left k
  have h0 := h.t0
  have h1 := h.t1
  unfold waiting at *
  apply Prod.ext <;> simp only <;> omega
theorem Wf.left_none {S : St} (h : S.Wf) : S.left 0 = (S.s0, S.s1) := leftL_none S.row h.ok _ _
theorem Wf.rowlen {S : St} (h : S.Wf) : S.row.length ≤ 2097152 := by
  have := len_tot S.row h.ok
  have h0 := h.t0
  have h1 := h.t1
  have h2 := h.l0
  have h3 := h.l1
  omega
theorem Wf.keep {S : St} (h : S.Wf) (k : Nat) : (S.keep k).Wf := by
  have := h.left k
  have h2 := h.l0
  have h3 := h.l1
  refine ⟨fun p hp => by simp [St.keep] at hp, ?_, ?_, ?_, ?_, h.li, h.ll⟩ <;> simp only [St.keep, tot, List.length_take] <;> omega
theorem Wf.power {S : St} (h : S.Wf) (g : Bool) {n k : Nat} (hn : n ≤ 9223372036854775807) (hk : k ≤ 9223372036854775807) : (S.power g n k).Wf := ⟨h.ok, h.t0, h.t1, h.l0, h.l1, hn, hk⟩
theorem Wf.lose {S : St} (h : S.Wf) (k : Nat) : (S.lose k).Wf := (h.keep k).power true (by omega) (by omega)
theorem Wf.dec {S : St} (h : S.Wf) : ({ S with inn := S.inn - 1 } : St).Wf := ⟨h.ok, h.t0, h.t1, h.l0, h.l1, by have := h.li; simp only; omega, h.ll⟩
theorem Wf.count {S : St} (h : S.Wf) : (S.count).2.Wf := by
  unfold St.count
  split
  · exact h
  · split
    · exact h.dec
    · exact h.lose _
theorem Wf.lay {S : St} (h : S.Wf) (f : Nat) (s : List UInt8) (hf : f < 2) (hs : (S.file f).length + s.length ≤ 1048576) : (S.lay f s).Wf := by
  have h0 := h.t0
  have h1 := h.t1
  unfold St.lay
  unfold file at hs
  split
  · rename_i hf0
    rw [if_pos hf0] at hs
    refine ⟨longer_ok _ _ _ (by omega) h.ok, ?_, ?_, ?_, h.l1, h.li, h.ll⟩ <;> simp [longer_tot, List.length_append] <;> omega
  · rename_i hf0
    rw [if_neg hf0] at hs
    refine ⟨longer_ok _ _ _ (by omega) h.ok, ?_, ?_, h.l0, ?_, h.li, h.ll⟩ <;> simp [longer_tot, List.length_append] <;> omega
theorem Wf.cutF {S : St} (h : S.Wf) (f n : Nat) (hn : n ≤ (S.file f).length) (hs : ¬ S.safe f < (S.file f).length) : (S.cutF f n).Wf := by
  have h0 := h.t0
  have h1 := h.t1
  have h2 := h.l0
  have h3 := h.l1
  unfold St.cutF cut0 cut1
  unfold file at hn hs
  unfold safe at hs
  split
  · rename_i hf0
    simp only [hf0, if_true] at hn hs
    refine ⟨h.ok, ?_, h.t1, ?_, h.l1, h.li, h.ll⟩ <;> simp only [List.length_take] <;> omega
  · rename_i hf0
    simp only [hf0, if_false] at hn hs
    refine ⟨h.ok, h.t0, ?_, h.l0, ?_, h.li, h.ll⟩ <;> simp only [List.length_take] <;> omega
theorem Wf.new {a b : List UInt8} (ha : a.length ≤ 1048576) (hb : b.length ≤ 1048576) : (St.new a b).Wf := ⟨fun p hp => by simp [St.new] at hp, by simp [St.new, tot], by simp [St.new, tot], ha, hb, by simp [St.new], by simp [St.new]⟩
theorem count_file {S : St} (h : (S.count).1 = 0) : (S.count).2.f0 = S.f0 ∧ (S.count).2.f1 = S.f1 ∧ (S.count).2.s0 = S.s0 ∧ (S.count).2.s1 = S.s1 ∧ (S.count).2.row = S.row ∧ (S.count).2.gone = S.gone := by
  unfold St.count at *
  split
  · exact ⟨rfl, rfl, rfl, rfl, rfl, rfl⟩
  · split
    · exact ⟨rfl, rfl, rfl, rfl, rfl, rfl⟩
    · rename_i a b
      simp [a, b] at h
end St
end Go.Proofs.YtmoihgniglomiaaDoor
/- The sum of bytes: half a byte at a time as bit by bit. No condition. -/
set_option linter.unusedVariables false
namespace Go.Proofs.YtmoihgniglomiaaDoor
namespace Crc
def P : Nat := 3988292384
def g (r : Nat) : Nat := (r / 2) ^^^ (if r % 2 = 1 then P else 0)
theorem xor_half (a b : Nat) : (a ^^^ b) / 2 = a / 2 ^^^ b / 2 := by
  have := Nat.shiftRight_xor_distrib (a := a) (b := b) (i := 1)
  simpa [Nat.shiftRight_succ] using this
theorem xor_par (a b : Nat) : (a ^^^ b) % 2 = (a + b) % 2 := by
  have h := Nat.testBit_xor a b 0
  simp only [Nat.testBit_zero] at h
  have hc : ∀ p q r : Nat, p < 2 → q < 2 → r < 2 → decide (p = 1) = (decide (q = 1) ^^ decide (r = 1)) → p = (q + r) % 2 := by
    intro p q r hp hq hr
    have : ∀ p, p < 2 → ∀ q, q < 2 → ∀ r, r < 2 → decide (p = 1) = (decide (q = 1) ^^ decide (r = 1)) → p = (q + r) % 2 := by decide
    exact this p hp q hq r hr
  have := hc _ _ _ (Nat.mod_lt _ (by decide)) (Nat.mod_lt _ (by decide)) (Nat.mod_lt _ (by decide)) h
  omega
theorem g_xor (a b : Nat) : g (a ^^^ b) = g a ^^^ g b := by
  unfold g
  rw [xor_half, xor_par]
  rcases Nat.mod_two_eq_zero_or_one a with ha | ha <;> rcases Nat.mod_two_eq_zero_or_one b with hb | hb
  · rw [if_neg (by omega), if_neg (by omega), if_neg (by omega)]; simp
  · rw [if_pos (by omega), if_neg (by omega), if_pos (by omega)]; simp [Nat.xor_assoc]
  · rw [if_pos (by omega), if_pos (by omega), if_neg (by omega)]; simp only [Nat.xor_zero, Nat.xor_assoc]; rw [Nat.xor_comm P]
  · rw [if_neg (by omega), if_pos (by omega), if_pos (by omega)]
    rw [show a / 2 ^^^ P ^^^ (b / 2 ^^^ P) = (a / 2 ^^^ b / 2) ^^^ (P ^^^ P) from by ac_rfl]; simp
theorem g_even (a : Nat) : g (2 * a) = a := by unfold g; rw [if_neg (by omega)]; simp
/-- one bit of a byte -/
def bit1 (r b : Nat) : Nat := (r / 2) ^^^ (if r % 2 ≠ b then P else 0)
theorem bit1_g (r b : Nat) (hb : b < 2) : bit1 r b = g (r ^^^ b) := by
  unfold bit1 g
  rw [xor_half, xor_par]
  have : b / 2 = 0 := by omega
  rw [this, Nat.xor_zero]
  congr 1
  by_cases h : r % 2 = b
  · rw [if_neg (by simpa using h), if_neg (by omega)]
  · rw [if_pos h, if_pos (by omega)]
/-- the eight bits of a byte, the lowest first -/
def bits (r x : Nat) : Nat → Nat
  | 0 => r
  | k + 1 => bit1 (bits r x k) (x / 2 ^ k % 2)
def gs : Nat → Nat → Nat
  | 0, r => r
  | k + 1, r => g (gs k r)
theorem gs_xor : ∀ (k a b : Nat), gs k (a ^^^ b) = gs k a ^^^ gs k b
  | 0, _, _ => rfl
  | k + 1, a, b => by simp only [gs]; rw [gs_xor k, g_xor]
theorem gs_pow : ∀ (k a : Nat), gs k (2 ^ k * a) = a
  | 0, a => by simp [gs]
  | k + 1, a => by
    have : 2 ^ (k + 1) * a = 2 ^ k * (2 * a) := by rw [Nat.pow_succ]; ac_rfl
    simp only [gs]
    rw [this, gs_pow k, g_even]
theorem split_low (x k : Nat) : x % 2 ^ (k + 1) = x % 2 ^ k ^^^ 2 ^ k * (x / 2 ^ k % 2) := by
  rw [Nat.pow_succ, Nat.mod_mul]
  have h := Nat.two_pow_add_eq_or_of_lt (Nat.mod_lt x (Nat.two_pow_pos k)) (x / 2 ^ k % 2)
  apply Nat.eq_of_testBit_eq
  intro i
  rw [Nat.add_comm, h, Nat.testBit_or, Nat.testBit_xor]
  rw [Nat.testBit_two_pow_mul]
  by_cases hi : k ≤ i
  · have : (x % 2 ^ k).testBit i = false := Nat.testBit_lt_two_pow (Nat.lt_of_lt_of_le (Nat.mod_lt x (Nat.two_pow_pos k)) (Nat.pow_le_pow_right (by decide) hi))
    rw [this]; simp
  · simp [hi]
theorem bits_gs (r x : Nat) : ∀ k, bits r x k = gs k (r ^^^ x % 2 ^ k)
  | 0 => by simp [bits, gs, Nat.mod_one]
  | k + 1 => by
    simp only [bits]
    rw [bits_gs r x k, bit1_g _ _ (by omega)]
    simp only [gs]
    congr 1
    rw [split_low, ← Nat.xor_assoc, gs_xor k (r ^^^ x % 2 ^ k), gs_pow]
/-- what a half of a byte adds -/
def T : List Nat := [0x00000000, 0x1DB71064, 0x3B6E20C8, 0x26D930AC, 0x76DC4190, 0x6B6B51F4, 0x4DB26158, 0x5005713C, 0xEDB88320, 0xF00F9344, 0xD6D6A3E8, 0xCB61B38C, 0x9B64C2B0, 0x86D3D2D4, 0xA00AE278, 0xBDBDF21C]
def nib (r : Nat) : Nat := r / 16 ^^^ T.getD (r % 16) 0
theorem T_gs : ∀ i, i < 16 → T.getD i 0 = gs 4 i := by decide
theorem nib_gs (r : Nat) : nib r = gs 4 r := by
  unfold nib
  rw [T_gs _ (by omega)]
  conv => rhs; rw [show r = 2 ^ 4 * (r / 16) ^^^ r % 16 from by
    have h := Nat.two_pow_add_eq_or_of_lt (i := 4) (Nat.mod_lt r (Nat.two_pow_pos 4)) (r / 16)
    have e : r = 2 ^ 4 * (r / 16) + r % 2 ^ 4 := by omega
    rw [h] at e
    apply Nat.eq_of_testBit_eq
    intro i
    conv => lhs; rw [e]
    rw [Nat.testBit_or, Nat.testBit_xor, Nat.testBit_two_pow_mul]
    by_cases hi : 4 ≤ i
    · have : (r % 2 ^ 4).testBit i = false := Nat.testBit_lt_two_pow (Nat.lt_of_lt_of_le (Nat.mod_lt r (Nat.two_pow_pos 4)) (Nat.pow_le_pow_right (by decide) hi))
      rw [this]; simp
    · simp [hi]]
  rw [gs_xor, gs_pow]
def byte (r x : Nat) : Nat := nib (nib (r ^^^ x))
theorem byte_bits (r x : Nat) (hx : x < 256) : bits r x 8 = byte r x := by
  rw [bits_gs, byte, nib_gs, nib_gs, show x % 2 ^ 8 = x from Nat.mod_eq_of_lt hx]
  rfl
def reg (r : Nat) (l : List UInt8) : Nat := l.foldl (fun r x => byte r x.toNat) r
/-- the sum of bytes -/
def sum (l : List UInt8) : Nat := 4294967295 ^^^ reg 4294967295 l
theorem T_lt (i : Nat) : T.getD i 0 < 4294967296 := by
  by_cases h : i < 16
  · have : ∀ i, i < 16 → T.getD i 0 < 4294967296 := by decide
    exact this i h
  · have : T[i]? = none := List.getElem?_eq_none (by simp [T]; omega)
    rw [List.getD, this]; decide
theorem nib_lt (r : Nat) (h : r < 4294967296) : nib r < 4294967296 := Nat.xor_lt_two_pow (n := 32) (Nat.lt_of_le_of_lt (Nat.div_le_self _ _) h) (T_lt _)
theorem byte_lt (r x : Nat) (h : r < 4294967296) (hx : x < 256) : byte r x < 4294967296 := nib_lt _ (nib_lt _ (Nat.xor_lt_two_pow (n := 32) h (Nat.lt_of_lt_of_le hx (by decide))))
theorem reg_lt (l : List UInt8) (r : Nat) (h : r < 4294967296) : reg r l < 4294967296 := by
  induction l generalizing r with
  | nil => exact h
  | cons x l ih => exact ih _ (byte_lt _ _ h x.toNat_lt)
theorem sum_lt (l : List UInt8) : sum l < 4294967296 := Nat.xor_lt_two_pow (n := 32) (by decide) (reg_lt l _ (by decide))
theorem bit1_lt (r b : Nat) (h : r < 4294967296) : bit1 r b < 4294967296 := by
  unfold bit1
  exact Nat.xor_lt_two_pow (n := 32) (Nat.lt_of_le_of_lt (Nat.div_le_self _ _) h) (by split <;> decide)
theorem bits_lt (r x : Nat) (h : r < 4294967296) : ∀ k, bits r x k < 4294967296
  | 0 => h
  | k + 1 => bit1_lt _ _ (bits_lt r x h k)
theorem ones (n : Nat) (h : n < 4294967296) : 4294967295 ^^^ n = 4294967295 - n := by
  apply Nat.eq_of_testBit_eq
  intro i
  rw [Nat.testBit_xor, show 4294967295 = 2 ^ 32 - 1 from rfl, Nat.testBit_two_pow_sub_one, show 2 ^ 32 - 1 - n = 2 ^ 32 - (n + 1) by omega, Nat.testBit_two_pow_sub_succ h]
  by_cases hi : i < 32
  · simp [hi]
  · have : n.testBit i = false := Nat.testBit_lt_two_pow (Nat.lt_of_lt_of_le h (Nat.pow_le_pow_right (n := 2) (i := 32) (by decide) (by omega)))
    simp [hi, this]
theorem sum_sub (l : List UInt8) : sum l = 4294967295 - reg 4294967295 l := ones _ (reg_lt l _ (by decide))
theorem reg_app (r : Nat) (a b : List UInt8) : reg r (a ++ b) = reg (reg r a) b := by simp [reg]
end Crc
end Go.Proofs.YtmoihgniglomiaaDoor
/- Plain: the row of unsafe bytes that a disk's pieces stand for, one by one, as the document has them. No condition. -/
set_option linter.unusedVariables false
set_option linter.unusedSimpArgs false
namespace Go.Proofs.YtmoihgniglomiaaDoor

/-- the unsafe bytes, one by one, and whose they are -/
def exp : List (Nat × Nat) → List UInt8 → List UInt8 → List (Nat × UInt8)
  | [], _, _ => []
  | p :: r, x, y => if p.1 = 0 then (x.take p.2).map (fun c => (0, c)) ++ exp r (x.drop p.2) y else (y.take p.2).map (fun c => (1, c)) ++ exp r x (y.drop p.2)
def pick0 (l : List (Nat × UInt8)) : List UInt8 := l.filterMap fun x => if x.1 = 0 then some x.2 else none
def pick1 (l : List (Nat × UInt8)) : List UInt8 := l.filterMap fun x => if x.1 = 0 then none else some x.2
theorem pick0_app (a b : List (Nat × UInt8)) : pick0 (a ++ b) = pick0 a ++ pick0 b := by simp [pick0]
theorem pick1_app (a b : List (Nat × UInt8)) : pick1 (a ++ b) = pick1 a ++ pick1 b := by simp [pick1]
theorem pick0_0 (l : List UInt8) : pick0 (l.map fun c => (0, c)) = l := by
  induction l with
  | nil => rfl
  | cons c r ih => simp [pick0] at ih ⊢; exact ih
theorem pick0_1 (l : List UInt8) : pick0 (l.map fun c => (1, c)) = [] := by
  induction l with
  | nil => rfl
  | cons c r ih => simp [pick0] at ih ⊢
theorem pick1_0 (l : List UInt8) : pick1 (l.map fun c => (0, c)) = [] := by
  induction l with
  | nil => rfl
  | cons c r ih => simp [pick1] at ih ⊢
theorem pick1_1 (l : List UInt8) : pick1 (l.map fun c => (1, c)) = l := by
  induction l with
  | nil => rfl
  | cons c r ih => simp [pick1] at ih ⊢; exact ih
theorem leftL_add (l : List (Nat × Nat)) (k a b : Nat) : leftL l k a b = (a + (leftL l k 0 0).1, b + (leftL l k 0 0).2) := by
  induction l generalizing k a b with
  | nil => simp [leftL]
  | cons p r ih =>
    simp only [leftL]
    split
    · rw [ih _ (a + _) b, ih _ (0 + _) 0]; simp; omega
    · rw [ih _ a (b + _), ih _ 0 (0 + _)]; simp; omega
theorem take_map (l : List UInt8) (f : UInt8 → Nat × UInt8) (k : Nat) : (l.map f).take k = (l.take k).map f := by rw [List.map_take]
theorem join_take (x : List UInt8) (n m k : Nat) (h : k < n → m = 0) : (x.take n).take k ++ (x.drop n).take m = x.take (min n k + m) := by
  rw [List.take_take]
  by_cases hk : k < n
  · rw [h hk]; simp [Nat.min_comm]
  · have e1 : min k n = n := by omega
    have e2 : min n k = n := by omega
    rw [e1, e2, ← List.take_add]
theorem exp_take (l : List (Nat × Nat)) (h : okRow l) (x y : List UInt8) (hx : tot 0 l ≤ x.length) (hy : tot 1 l ≤ y.length) (k : Nat) :
    pick0 ((exp l x y).take k) = x.take (leftL l k 0 0).1 ∧ pick1 ((exp l x y).take k) = y.take (leftL l k 0 0).2 := by
  induction l generalizing x y k with
  | nil => simp [exp, pick0, pick1, leftL]
  | cons p r ih =>
    obtain ⟨h1, h2⟩ := h p (by simp)
    have hr := h.tail
    simp only [exp, leftL, tot] at hx hy ⊢
    rcases (by omega : p.1 = 0 ∨ p.1 = 1) with h0 | h0
    · simp only [h0, if_true, Nat.zero_ne_one, if_false] at hx hy ⊢
      rw [List.take_append, pick0_app, pick1_app, take_map, pick0_0, pick1_0, leftL_add]
      have hl : ((x.take p.2).map fun c => ((0 : Nat), c)).length = p.2 := by simp; omega
      rw [hl]
      obtain ⟨i1, i2⟩ := ih hr (x.drop p.2) y (by simp; omega) (by omega) (k - p.2)
      rw [i1, i2, show k - min p.2 k = k - p.2 from by omega]
      refine ⟨?_, by simp⟩
      simp only [Nat.zero_add]
      apply join_take
      intro hlt
      rw [show k - p.2 = 0 by omega, leftL_none r hr]
    · simp only [h0, Nat.one_ne_zero, if_false, if_true] at hx hy ⊢
      rw [List.take_append, pick0_app, pick1_app, take_map, pick0_1, pick1_1, leftL_add]
      have hl : ((y.take p.2).map fun c => ((1 : Nat), c)).length = p.2 := by simp; omega
      rw [hl]
      obtain ⟨i1, i2⟩ := ih hr x (y.drop p.2) (by omega) (by simp; omega) (k - p.2)
      rw [i1, i2, show k - min p.2 k = k - p.2 from by omega]
      refine ⟨by simp, ?_⟩
      simp only [Nat.zero_add]
      apply join_take
      intro hlt
      rw [show k - p.2 = 0 by omega, leftL_none r hr]
theorem exp_len (l : List (Nat × Nat)) (h : okRow l) (x y : List UInt8) (hx : tot 0 l ≤ x.length) (hy : tot 1 l ≤ y.length) : (exp l x y).length = tot 0 l + tot 1 l := by
  induction l generalizing x y with
  | nil => simp [exp, tot]
  | cons p r ih =>
    obtain ⟨h1, h2⟩ := h p (by simp)
    simp only [exp, tot] at hx hy ⊢
    rcases (by omega : p.1 = 0 ∨ p.1 = 1) with h0 | h0
    · simp only [h0, if_true, Nat.zero_ne_one, if_false] at hx hy ⊢
      rw [List.length_append, ih h.tail _ _ (by simp; omega) (by omega)]; simp; omega
    · simp only [h0, Nat.one_ne_zero, if_false, if_true] at hx hy ⊢
      rw [List.length_append, ih h.tail _ _ (by omega) (by simp; omega)]; simp; omega
theorem exp_lt (l : List (Nat × Nat)) (x y : List UInt8) : ∀ c ∈ exp l x y, c.1 < 2 := by
  induction l generalizing x y with
  | nil => simp [exp]
  | cons p r ih =>
    simp only [exp]
    split <;> (intro c hc; rw [List.mem_append] at hc; rcases hc with hc | hc)
    · obtain ⟨b, _, rfl⟩ := List.mem_map.1 hc; simp
    · exact ih _ _ c hc
    · obtain ⟨b, _, rfl⟩ := List.mem_map.1 hc; simp
    · exact ih _ _ c hc
theorem exp_app (l m : List (Nat × Nat)) (h : okRow l) (x y : List UInt8) : exp (l ++ m) x y = exp l x y ++ exp m (x.drop (tot 0 l)) (y.drop (tot 1 l)) := by
  induction l generalizing x y with
  | nil => simp [exp, tot]
  | cons p r ih =>
    obtain ⟨h1, h2⟩ := h p (by simp)
    simp only [List.cons_append, exp, tot]
    rcases (by omega : p.1 = 0 ∨ p.1 = 1) with h0 | h0
    · simp only [h0, if_true, Nat.zero_ne_one, if_false]
      rw [ih h.tail, List.append_assoc, List.drop_drop, Nat.zero_add]
    · simp only [h0, Nat.one_ne_zero, if_false, if_true]
      rw [ih h.tail, List.append_assoc, List.drop_drop, Nat.zero_add]
theorem exp_more (l : List (Nat × Nat)) (h : okRow l) (x y s t : List UInt8) (hx : tot 0 l ≤ x.length) (hy : tot 1 l ≤ y.length) : exp l (x ++ s) (y ++ t) = exp l x y := by
  induction l generalizing x y with
  | nil => simp [exp]
  | cons p r ih =>
    obtain ⟨h1, h2⟩ := h p (by simp)
    simp only [exp, tot] at hx hy ⊢
    rcases (by omega : p.1 = 0 ∨ p.1 = 1) with h0 | h0
    · simp only [h0, if_true, Nat.zero_ne_one, if_false] at hx hy ⊢
      rw [List.take_append_of_le_length (by omega), List.drop_append_of_le_length (by omega), ih h.tail _ _ (by simp; omega) (by omega)]
    · simp only [h0, Nat.one_ne_zero, if_false, if_true] at hx hy ⊢
      rw [List.take_append_of_le_length (by omega), List.drop_append_of_le_length (by omega), ih h.tail _ _ (by omega) (by simp; omega)]
theorem exp_longer (l : List (Nat × Nat)) (h : okRow l) (f n : Nat) (x y : List UInt8) : exp (longer l f n) x y = exp (l ++ [(f, n)]) x y := by
  by_cases h0 : n = 0
  · subst h0
    rw [longer_zero, exp_app l _ h]
    simp [exp]
  · rcases split_last l with rfl | ⟨r, g, m, rfl⟩
    · rw [longer_nil _ _ h0]; rfl
    · by_cases hg : g = f
      · subst hg
        have hr : okRow r := fun q hq => h q (by simp [hq])
        rw [longer_same _ _ _ _ h0, List.append_assoc, exp_app r _ hr, exp_app r _ hr]
        congr 1
        simp only [List.cons_append, List.nil_append, exp, List.append_nil]
        split
        · rw [List.take_add, List.map_append]
        · rw [List.take_add, List.map_append]
      · rw [longer_other _ _ _ _ _ h0 hg]

namespace St
/-- the unsafe bytes, in the order in which they were laid -/
def un (S : St) : List (Nat × UInt8) := exp S.row (S.f0.drop S.s0) (S.f1.drop S.s1)
theorem un_len {S : St} (h : S.Wf) : S.un.length = S.waiting := by
  have h0 := h.t0
  have h1 := h.t1
  unfold un waiting
  rw [exp_len _ h.ok _ _ (by simp; omega) (by simp; omega)]
  omega
theorem un_lt (S : St) : ∀ c ∈ S.un, c.1 < 2 := exp_lt _ _ _
theorem drop_take (l : List UInt8) (n m : Nat) : l.take n ++ (l.drop n).take m = l.take (n + m) := by rw [List.take_add]
theorem un_after {S : St} (h : S.Wf) (k : Nat) : S.f0.take S.s0 ++ pick0 (S.un.take k) = S.f0.take (S.left k).1 ∧ S.f1.take S.s1 ++ pick1 (S.un.take k) = S.f1.take (S.left k).2 := by
  have h0 := h.t0
  have h1 := h.t1
  have := exp_take S.row h.ok (S.f0.drop S.s0) (S.f1.drop S.s1) (by simp; omega) (by simp; omega) k
  unfold un St.left
  rw [this.1, this.2, drop_take, drop_take, leftL_add S.row k S.s0 S.s1]
  exact ⟨rfl, rfl⟩
theorem un_all {S : St} (h : S.Wf) : S.f0.take S.s0 ++ pick0 S.un = S.f0 ∧ S.f1.take S.s1 ++ pick1 S.un = S.f1 := by
  have := un_after h S.waiting
  rw [h.left_all _ (Nat.le_refl _), ← un_len h, List.take_length, List.take_length, List.take_length] at this
  exact this
theorem un_count {S : St} (h : S.Wf) : (pick0 S.un).length = S.f0.length - S.s0 ∧ (pick1 S.un).length = S.f1.length - S.s1 := by
  have h0 := h.t0
  have h1 := h.t1
  obtain ⟨a, b⟩ := un_all h
  have a' := congrArg List.length a
  have b' := congrArg List.length b
  simp only [List.length_append, List.length_take] at a' b'
  omega
theorem un_lay0 {S : St} (h : S.Wf) (s : List UInt8) : (S.lay 0 s).un = S.un ++ s.map (fun c => (0, c)) := by
  have h0 := h.t0
  have h1 := h.t1
  unfold St.lay un
  rw [if_pos rfl]
  simp only []
  have hx : tot 0 S.row = (S.f0.drop S.s0).length := by simp; omega
  have hy : tot 1 S.row = (S.f1.drop S.s1).length := by simp; omega
  rw [List.drop_append_of_le_length (by omega), exp_longer _ h.ok, exp_app _ _ h.ok, ← List.append_nil (S.f1.drop S.s1), exp_more _ h.ok _ _ _ _ (by omega) (by omega), List.append_nil]
  congr 1
  rw [hx, List.drop_append_of_le_length (Nat.le_refl _), List.drop_length]
  simp [exp]
theorem un_lay1 {S : St} (h : S.Wf) (s : List UInt8) : (S.lay 1 s).un = S.un ++ s.map (fun c => (1, c)) := by
  have h0 := h.t0
  have h1 := h.t1
  unfold St.lay un
  rw [if_neg (by decide)]
  simp only []
  have hx : tot 0 S.row = (S.f0.drop S.s0).length := by simp; omega
  have hy : tot 1 S.row = (S.f1.drop S.s1).length := by simp; omega
  rw [List.drop_append_of_le_length (by omega), exp_longer _ h.ok, exp_app _ _ h.ok, ← List.append_nil (S.f0.drop S.s0), exp_more _ h.ok _ _ _ _ (by omega) (by omega), List.append_nil]
  congr 1
  rw [hy, List.drop_append_of_le_length (Nat.le_refl _), List.drop_length]
  simp [exp]
theorem un_cut {S : St} (h : S.Wf) (f n : Nat) (hn : n ≤ (S.file f).length) (hs : ¬ S.safe f < (S.file f).length) : (S.cutF f n).un = S.un := by
  have h0 := h.t0
  have h1 := h.t1
  unfold file at hn hs
  unfold safe at hs
  unfold St.cutF cut0 cut1 un
  split
  · rename_i hf
    rw [if_pos hf] at hn hs
    rw [if_pos hf] at hs
    have e1 : S.f0.drop S.s0 = [] := by rw [List.drop_eq_nil_iff]; omega
    have e2 : (S.f0.take n).drop n = [] := by rw [List.drop_eq_nil_iff, List.length_take]; omega
    rw [e1]; simp only [e2]
  · rename_i hf
    rw [if_neg hf] at hn hs
    rw [if_neg hf] at hs
    have e1 : S.f1.drop S.s1 = [] := by rw [List.drop_eq_nil_iff]; omega
    have e2 : (S.f1.take n).drop n = [] := by rw [List.drop_eq_nil_iff, List.length_take]; omega
    rw [e1]; simp only [e2]
theorem un_nil {S : St} (h : S.row = []) : S.un = [] := by unfold un; rw [h]; rfl
end St
end Go.Proofs.YtmoihgniglomiaaDoor
/- A log's bytes, plainly: frames, what a file begins with, its records; a log over a disk. No condition. -/
set_option linter.unusedVariables false
namespace Go.Proofs.YtmoihgniglomiaaDoor
abbrev Bs := List UInt8
/-- a number's bytes, the highest first -/
def be : Nat → Nat → Bs
  | 0, _ => []
  | k + 1, n => be k (n / 256) ++ [UInt8.ofNat (n % 256)]
def valN (l : Bs) : Nat := l.foldl (fun n x => 256 * n + x.toNat) 0
def frame (s : Bs) : Bs := be 4 s.length ++ be 4 (Crc.sum s) ++ s
def whole (s : Bs) (most : Nat) : Bool := decide (8 ≤ s.length) && decide (valN (s.take 4) ≤ most) && decide (valN (s.take 4) ≤ s.length - 8) && decide (valN ((s.drop 4).take 4) = Crc.sum ((s.drop 8).take (valN (s.take 4))))
/-- the bytes of the whole frame with which s begins, and what stands behind it -/
def unframed (s : Bs) (most : Nat) : Option (Bs × Bs) :=
  if whole s most then some ((s.drop 8).take (valN (s.take 4)), (s.drop 8).drop (valN (s.take 4))) else none
def recs : Nat → Bs → List Bs × Bs
  | 0, s => ([], s)
  | k + 1, s => match unframed s 65536 with
    | none => ([], s)
    | some (r, b) => (r :: (recs k b).1, (recs k b).2)
def recsOf (s : Bs) : List Bs × Bs := recs s.length s
def mark : Bs := [83, 78, 76, 49]
def fileOf (g : Nat) (snap : Bs) : Bs := mark ++ be 8 g ++ frame snap
/-- the generation, the snapshot, what stands behind it -/
def begins (s : Bs) : Nat × Bs × Bs :=
  if s.take 4 = mark ∧ 12 ≤ s.length ∧ valN ((s.drop 4).take 8) ≤ 4611686018427387904 then
    match unframed (s.drop 12) 524288 with
    | none => (0, [], [])
    | some (snap, b) => (valN ((s.drop 4).take 8), snap, b)
  else (0, [], [])

theorem be_len : ∀ (k n : Nat), (be k n).length = k
  | 0, _ => rfl
  | k + 1, n => by simp [be, be_len k]
theorem valN_app (a b : Bs) : valN (a ++ b) = b.foldl (fun n x => 256 * n + x.toNat) (valN a) := by simp [valN]
theorem valN_one (a : Bs) (x : UInt8) : valN (a ++ [x]) = 256 * valN a + x.toNat := by simp [valN_app]
theorem valN_be : ∀ (k n : Nat), valN (be k n) = n % 256 ^ k
  | 0, n => by simp [be, valN, Nat.mod_one]
  | k + 1, n => by
    rw [be, valN_one, valN_be k]
    have h1 : (UInt8.ofNat (n % 256)).toNat = n % 256 := by simp
    rw [h1, Nat.pow_succ, Nat.mul_comm (256 ^ k), Nat.mod_mul]
    omega
theorem valN_lt (l : Bs) : valN l < 256 ^ l.length := by
  suffices h : ∀ l : Bs, ∀ n k, n < 256 ^ k → l.foldl (fun n x => 256 * n + x.toNat) n < 256 ^ (k + l.length) by
    have := h l 0 0 (by simp)
    simpa [valN] using this
  intro l
  induction l with
  | nil => intro n k h; simpa using h
  | cons x l ih =>
    intro n k h
    simp only [List.foldl_cons, List.length_cons]
    have hx := x.toNat_lt
    have := ih (256 * n + x.toNat) (k + 1) (by rw [Nat.pow_succ]; omega)
    rwa [show k + (l.length + 1) = k + 1 + l.length by omega]
theorem valN4 (l : Bs) (h : l.length ≤ 4) : valN l < 4294967296 := Nat.lt_of_lt_of_le (valN_lt l) (Nat.le_trans (Nat.pow_le_pow_right (by decide) h) (by decide))
theorem unframed_len {s : Bs} {most : Nat} {r b : Bs} (h : unframed s most = some (r, b)) : b.length + 8 + r.length = s.length ∧ r.length ≤ most := by
  unfold unframed at h
  split at h
  · rename_i hw
    simp only [Option.some.injEq, Prod.mk.injEq] at h
    obtain ⟨rfl, rfl⟩ := h
    simp only [whole, Bool.and_eq_true, decide_eq_true_eq] at hw
    simp only [List.length_take, List.length_drop]
    omega
  · cases h
theorem recs_more : ∀ (k j : Nat) (s : Bs), s.length ≤ k → s.length ≤ j → recs k s = recs j s
  | 0, j, s, hk, hj => by
    have : s = [] := List.eq_nil_of_length_eq_zero (by omega)
    subst this
    cases j with
    | zero => rfl
    | succ j => rfl
  | k + 1, 0, s, hk, hj => by
    have : s = [] := List.eq_nil_of_length_eq_zero (by omega)
    subst this
    rfl
  | k + 1, j + 1, s, hk, hj => by
    unfold recs
    cases h : unframed s 65536 with
    | none => rfl
    | some x =>
      obtain ⟨r, b⟩ := x
      have := unframed_len h
      simp only
      rw [recs_more k j b (by omega) (by omega)]
theorem recsOf_none {s : Bs} (h : unframed s 65536 = none) : recsOf s = ([], s) := by
  rw [recsOf, recs_more _ (s.length + 1) s (Nat.le_refl _) (by omega), recs, h]
theorem recsOf_some {s r b : Bs} (h : unframed s 65536 = some (r, b)) : recsOf s = (r :: (recsOf b).1, (recsOf b).2) := by
  have := unframed_len h
  obtain ⟨m, hm⟩ : ∃ m, s.length = m + 1 := ⟨s.length - 1, by omega⟩
  rw [recsOf, hm, recs, h]
  simp only
  rw [recsOf, recs_more m b.length b (by omega) (Nat.le_refl _)]
theorem frame_len (s : Bs) : (frame s).length = 8 + s.length := by simp [frame, be_len]; omega
theorem unframed_frame (s b : Bs) (most : Nat) (h : s.length ≤ most) (hm : most < 4294967296) : unframed (frame s ++ b) most = some (s, b) := by
  have h4 : (frame s ++ b).take 4 = be 4 s.length := by
    simp only [frame, List.append_assoc]; rw [List.take_append_of_le_length (by simp [be_len])]; exact List.take_of_length_le (by simp [be_len])
  have hv : valN ((frame s ++ b).take 4) = s.length := by rw [h4, valN_be]; exact Nat.mod_eq_of_lt (by omega)
  have h8 : (frame s ++ b).drop 8 = s ++ b := by
    simp only [frame, List.append_assoc]
    rw [← List.append_assoc]
    exact List.drop_left' (by simp [be_len])
  have hs : ((frame s ++ b).drop 4).take 4 = be 4 (Crc.sum s) := by
    simp only [frame, List.append_assoc]
    rw [List.drop_left' (by simp [be_len]), List.take_append_of_le_length (by simp [be_len])]
    exact List.take_of_length_le (by simp [be_len])
  have hw : whole (frame s ++ b) most = true := by
    unfold whole
    rw [hv, hs, h8, valN_be, List.take_left' rfl, Nat.mod_eq_of_lt (by have := Crc.sum_lt s; omega)]
    simp [frame_len]
    omega
  unfold unframed
  rw [if_pos hw, hv, h8]
  simp

/-- a log: its file, its generation, how many records, whether it is dead -/
structure Wlg where
  file : Nat
  gen : Nat
  n : Nat
  dead : Bool
def room (S : St) (l : Wlg) : Int := max (-1) (min 65536 (1048576 - ((S.file l.file).length : Int) - 8))
def Wlg.sink (l : Wlg) : Wlg := { l with dead := true }
/-- a change of the disk, and what it makes of the log -/
def lap (S : St) (l : Wlg) (r : Bs) : Nat × St × Wlg :=
  if l.dead ∨ S.gone then (2, S, l.sink)
  else if r.length > 65536 then (101, S, l)
  else if (r.length : Int) > room S l then (102, S, l)
  else if (S.append l.file (frame r)).1 = 0 then (0, (S.append l.file (frame r)).2, { l with n := l.n + 1 })
  else (2, (S.append l.file (frame r)).2, l.sink)
def lsync (S : St) (l : Wlg) : Nat × St × Wlg :=
  if l.dead ∨ S.gone then (2, S, l.sink)
  else if S.sync.1 = 0 then (0, S.sync.2, l) else (2, S.sync.2, l.sink)
/-- a log's file is laid and made safe -/
def lays (S : St) (f g : Nat) (snap : Bs) : Nat × St :=
  if (S.append f (fileOf g snap)).1 = 0 then (S.append f (fileOf g snap)).2.sync else S.append f (fileOf g snap)
def lchk (S : St) (l : Wlg) (snap : Bs) : Nat × St × Wlg :=
  if l.dead ∨ S.gone then (2, S, l.sink)
  else if snap.length > 524288 then (101, S, l)
  else if l.gen = 4611686018427387904 then (102, S, l)
  else if (lays S (1 - l.file) (l.gen + 1) snap).1 = 0 then
    if ((lays S (1 - l.file) (l.gen + 1) snap).2.cut l.file 0).1 = 0 then (0, ((lays S (1 - l.file) (l.gen + 1) snap).2.cut l.file 0).2, ⟨1 - l.file, l.gen + 1, 0, false⟩)
    else (2, ((lays S (1 - l.file) (l.gen + 1) snap).2.cut l.file 0).2, l.sink)
  else (2, (lays S (1 - l.file) (l.gen + 1) snap).2, l.sink)
def lnew (S : St) : Nat × St :=
  if S.gone then (2, S)
  else if S.f0.length > 0 ∨ S.f1.length > 0 then (100, S)
  else lays S 0 1 []
def newest (S : St) : Nat × Nat × Bs × Bs :=
  if (begins S.f1).1 > (begins S.f0).1 then (1, begins S.f1) else (0, begins S.f0)
/-- the cuts of an opening: the torn end, then the other file -/
def ocut (S : St) (f torn : Nat) : Nat × St :=
  if torn > 0 then S.cut f ((S.file f).length - torn : Nat) else (0, S)
def ocut2 (S : St) (f torn : Nat) : Nat × St :=
  if (ocut S f torn).1 = 0 then
    if ((ocut S f torn).2.file (1 - f)).length > 0 then (ocut S f torn).2.cut (1 - f : Nat) 0 else (0, (ocut S f torn).2)
  else ocut S f torn
/-- what an opening tells: the error; the log, the snapshot, the records -/
def lopen (S : St) : Nat × (Wlg × Bs × List Bs) × St :=
  if S.gone then (2, (⟨0, 0, 0, false⟩, [], []), S)
  else if (newest S).2.1 = 0 then (100, (⟨0, 0, 0, false⟩, [], []), S)
  else if (ocut2 S (newest S).1 (recsOf (newest S).2.2.2).2.length).1 = 0 then
    (0, (⟨(newest S).1, (newest S).2.1, (recsOf (newest S).2.2.2).1.length, false⟩, (newest S).2.2.1, (recsOf (newest S).2.2.2).1), (ocut2 S (newest S).1 (recsOf (newest S).2.2.2).2.length).2)
  else (2, (⟨0, 0, 0, false⟩, [], []), (ocut2 S (newest S).1 (recsOf (newest S).2.2.2).2.length).2)
end Go.Proofs.YtmoihgniglomiaaDoor
