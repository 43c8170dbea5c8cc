/- The sum of bytes: half a byte at a time as bit by bit. No condition. Plain: the row of unsafe bytes that a disk's pieces stand for, one by one, as the document has them. No condition. A log's bytes, plainly: frames, what a file begins with, its records; a log over a disk. No condition. The document's disk in memory; its calls that only look at it: unsafe, Size. No condition but the disk's own. The -/
import Derived.Test.YtmoihgniglomiaaDoorProg
import Derived.Test.YtmoihgniglomiaaDoorZd00
import Derived.Test.YtmoihgniglomiaaDoorZd02
set_option linter.unusedVariables false
set_option linter.unusedSimpArgs false
set_option maxRecDepth 100000
namespace Go.Proofs.YtmoihgniglomiaaDoor
namespace Crc
def P : Nat := 3988292384
def g (r : Nat) : Nat := (r / 2) ^^^ (if r % 2 = 1 then P else 0)
theorem xor_half (a b : Nat) : (a ^^^ b) / 2 = a / 2 ^^^ b / 2 := by
  have := Nat.shiftRight_xor_distrib (a := a) (b := b) (i := 1)
  simpa [Nat.shiftRight_succ] using this
theorem xor_par (a b : Nat) : (a ^^^ b) % 2 = (a + b) % 2 := by
  have h := Nat.testBit_xor a b 0
  simp only [Nat.testBit_zero] at h
  have hc : ∀ p q r : Nat, p < 2 → q < 2 → r < 2 → decide (p = 1) = (decide (q = 1) ^^ decide (r = 1)) → p = (q + r) % 2 := by
    intro p q r hp hq hr
    have : ∀ p, p < 2 → ∀ q, q < 2 → ∀ r, r < 2 → decide (p = 1) = (decide (q = 1) ^^ decide (r = 1)) → p = (q + r) % 2 := by decide
    exact this p hp q hq r hr
  have := hc _ _ _ (Nat.mod_lt _ (by decide)) (Nat.mod_lt _ (by decide)) (Nat.mod_lt _ (by decide)) h
  omega
theorem g_xor (a b : Nat) : g (a ^^^ b) = g a ^^^ g b := by
  unfold g
  rw [xor_half, xor_par]
  rcases Nat.mod_two_eq_zero_or_one a with ha | ha <;> rcases Nat.mod_two_eq_zero_or_one b with hb | hb
  · rw [if_neg (by omega), if_neg (by omega), if_neg (by omega)]; simp
  · rw [if_pos (by omega), if_neg (by omega), if_pos (by omega)]; simp [Nat.xor_assoc]
  · rw [if_pos (by omega), if_pos (by omega), if_neg (by omega)]; simp only [Nat.xor_zero, Nat.xor_assoc]; rw [Nat.xor_comm P]
  · rw [if_neg (by omega), if_pos (by omega), if_pos (by omega)]
    rw [show a / 2 ^^^ P ^^^ (b / 2 ^^^ P) = (a / 2 ^^^ b / 2) ^^^ (P ^^^ P) from by ac_rfl]; simp
theorem g_even (a : Nat) : g (2 * a) = a := by unfold g; rw [if_neg (by omega)]; simp
def bit1 (r b : Nat) : Nat := (r / 2) ^^^ (if r % 2 ≠ b then P else 0)
theorem bit1_g (r b : Nat) (hb : b < 2) : bit1 r b = g (r ^^^ b) := by
  unfold bit1 g
  rw [xor_half, xor_par]
  have : b / 2 = 0 := by omega
  rw [this, Nat.xor_zero]
  congr 1
  by_cases h : r % 2 = b
  · rw [if_neg (by simpa using h), if_neg (by omega)]
  · rw [if_pos h, if_pos (by omega)]
def bits (r x : Nat) : Nat → Nat
  | 0 => r
  | k + 1 => bit1 (bits r x k) (x / 2 ^ k % 2)
def gs : Nat → Nat → Nat
  | 0, r => r
  | k + 1, r => g (gs k r)
theorem gs_xor : ∀ (k a b : Nat), gs k (a ^^^ b) = gs k a ^^^ gs k b
  | 0, _, _ => rfl
  | k + 1, a, b => by simp only [gs]; rw [gs_xor k, g_xor]
theorem gs_pow : ∀ (k a : Nat), gs k (2 ^ k * a) = a
  | 0, a => by simp [gs]
  | k + 1, a => by
    have : 2 ^ (k + 1) * a = 2 ^ k * (2 * a) := by rw [Nat.pow_succ]; ac_rfl
    simp only [gs]
    rw [this, gs_pow k, g_even]
theorem split_low (x k : Nat) : x % 2 ^ (k + 1) = x % 2 ^ k ^^^ 2 ^ k * (x / 2 ^ k % 2) := by
  rw [Nat.pow_succ, Nat.mod_mul]
  have h := Nat.two_pow_add_eq_or_of_lt (Nat.mod_lt x (Nat.two_pow_pos k)) (x / 2 ^ k % 2)
  apply Nat.eq_of_testBit_eq
  intro i
  rw [Nat.add_comm, h, Nat.testBit_or, Nat.testBit_xor]
  rw [Nat.testBit_two_pow_mul]
  by_cases hi : k ≤ i
  · have : (x % 2 ^ k).testBit i = false := Nat.testBit_lt_two_pow (Nat.lt_of_lt_of_le (Nat.mod_lt x (Nat.two_pow_pos k)) (Nat.pow_le_pow_right (by decide) hi))
    rw [this]; simp
  · simp [hi]
theorem bits_gs (r x : Nat) : ∀ k, bits r x k = gs k (r ^^^ x % 2 ^ k)
  | 0 => by simp [bits, gs, Nat.mod_one]
  | k + 1 => by
    simp only [bits]
    rw [bits_gs r x k, bit1_g _ _ (by omega)]
    simp only [gs]
    congr 1
    rw [split_low, ← Nat.xor_assoc, gs_xor k (r ^^^ x % 2 ^ k), gs_pow]
def T : List Nat := [0x00000000, 0x1DB71064, 0x3B6E20C8, 0x26D930AC, 0x76DC4190, 0x6B6B51F4, 0x4DB26158, 0x5005713C, 0xEDB88320, 0xF00F9344, 0xD6D6A3E8, 0xCB61B38C, 0x9B64C2B0, 0x86D3D2D4, 0xA00AE278, 0xBDBDF21C]
def nib (r : Nat) : Nat := r / 16 ^^^ T.getD (r % 16) 0
theorem T_gs : ∀ i, i < 16 → T.getD i 0 = gs 4 i := by decide
theorem nib_gs (r : Nat) : nib r = gs 4 r := by
  unfold nib
  rw [T_gs _ (by omega)]
  conv => rhs; rw [show r = 2 ^ 4 * (r / 16) ^^^ r % 16 from by
    have h := Nat.two_pow_add_eq_or_of_lt (i := 4) (Nat.mod_lt r (Nat.two_pow_pos 4)) (r / 16)
    have e : r = 2 ^ 4 * (r / 16) + r % 2 ^ 4 := by omega
    rw [h] at e
    apply Nat.eq_of_testBit_eq
    intro i
    conv => lhs; rw [e]
    rw [Nat.testBit_or, Nat.testBit_xor, Nat.testBit_two_pow_mul]
    by_cases hi : 4 ≤ i
    · have : (r % 2 ^ 4).testBit i = false := Nat.testBit_lt_two_pow (Nat.lt_of_lt_of_le (Nat.mod_lt r (Nat.two_pow_pos 4)) (Nat.pow_le_pow_right (by decide) hi))
      rw [this]; simp
    · simp [hi]]
  rw [gs_xor, gs_pow]
def byte (r x : Nat) : Nat := nib (nib (r ^^^ x))
theorem byte_bits (r x : Nat) (hx : x < 256) : bits r x 8 = byte r x := by
  rw [bits_gs, byte, nib_gs, nib_gs, show x % 2 ^ 8 = x from Nat.mod_eq_of_lt hx]
  rfl
def reg (r : Nat) (l : List UInt8) : Nat := l.foldl (fun r x => byte r x.toNat) r
def sum (l : List UInt8) : Nat := 4294967295 ^^^ reg 4294967295 l
theorem T_lt (i : Nat) : T.getD i 0 < 4294967296 := by
  by_cases h : i < 16
  · have : ∀ i, i < 16 → T.getD i 0 < 4294967296 := by decide
    exact this i h
  · have : T[i]? = none := List.getElem?_eq_none (by simp [T]; omega)
    rw [List.getD, this]; decide
theorem nib_lt (r : Nat) (h : r < 4294967296) : nib r < 4294967296 := Nat.xor_lt_two_pow (n := 32) (Nat.lt_of_le_of_lt (Nat.div_le_self _ _) h) (T_lt _)
theorem byte_lt (r x : Nat) (h : r < 4294967296) (hx : x < 256) : byte r x < 4294967296 := nib_lt _ (nib_lt _ (Nat.xor_lt_two_pow (n := 32) h (Nat.lt_of_lt_of_le hx (by decide))))
theorem reg_lt (l : List UInt8) (r : Nat) (h : r < 4294967296) : reg r l < 4294967296 := by
  induction l generalizing r with
  | nil => exact h
  | cons x l ih => exact ih _ (byte_lt _ _ h x.toNat_lt)
theorem sum_lt (l : List UInt8) : sum l < 4294967296 := Nat.xor_lt_two_pow (n := 32) (by decide) (reg_lt l _ (by decide))
theorem bit1_lt (r b : Nat) (h : r < 4294967296) : bit1 r b < 4294967296 := by
  unfold bit1
  exact Nat.xor_lt_two_pow (n := 32) (Nat.lt_of_le_of_lt (Nat.div_le_self _ _) h) (by split <;> decide)
theorem bits_lt (r x : Nat) (h : r < 4294967296) : ∀ k, bits r x k < 4294967296
  | 0 => h
  | k + 1 => bit1_lt _ _ (bits_lt r x h k)
theorem ones (n : Nat) (h : n < 4294967296) : 4294967295 ^^^ n = 4294967295 - n := by
  apply Nat.eq_of_testBit_eq
  intro i
  rw [Nat.testBit_xor, show 4294967295 = 2 ^ 32 - 1 from rfl, Nat.testBit_two_pow_sub_one, show 2 ^ 32 - 1 - n = 2 ^ 32 - (n + 1) by omega, Nat.testBit_two_pow_sub_succ h]
  by_cases hi : i < 32
  · simp [hi]
  · have : n.testBit i = false := Nat.testBit_lt_two_pow (Nat.lt_of_lt_of_le h (Nat.pow_le_pow_right (n := 2) (i := 32) (by decide) (by omega)))
    simp [hi, this]
theorem sum_sub (l : List UInt8) : sum l = 4294967295 - reg 4294967295 l := ones _ (reg_lt l _ (by decide))
theorem reg_app (r : Nat) (a b : List UInt8) : reg r (a ++ b) = reg (reg r a) b := by simp [reg]
end Crc
end Go.Proofs.YtmoihgniglomiaaDoor
namespace Go.Proofs.YtmoihgniglomiaaDoor
def exp : List (Nat × Nat) → List UInt8 → List UInt8 → List (Nat × UInt8)
  | [], _, _ => []
  | p :: r, x, y => if p.1 = 0 then (x.take p.2).map (fun c => (0, c)) ++ exp r (x.drop p.2) y else (y.take p.2).map (fun c => (1, c)) ++ exp r x (y.drop p.2)
def pick0 (l : List (Nat × UInt8)) : List UInt8 := l.filterMap fun x => if x.1 = 0 then some x.2 else none
def pick1 (l : List (Nat × UInt8)) : List UInt8 := l.filterMap fun x => if x.1 = 0 then none else some x.2
theorem pick0_app (a b : List (Nat × UInt8)) : pick0 (a ++ b) = pick0 a ++ pick0 b := by simp [pick0]
theorem pick1_app (a b : List (Nat × UInt8)) : pick1 (a ++ b) = pick1 a ++ pick1 b := by simp [pick1]
theorem pick0_0 (l : List UInt8) : pick0 (l.map fun c => (0, c)) = l := by
  induction l with
  | nil => rfl
  | cons c r ih => simp [pick0] at ih ⊢; exact ih
theorem pick0_1 (l : List UInt8) : pick0 (l.map fun c => (1, c)) = [] := by
  induction l with
  | nil => rfl
  | cons c r ih => simp [pick0] at ih ⊢
theorem pick1_0 (l : List UInt8) : pick1 (l.map fun c => (0, c)) = [] := by
  induction l with
  | nil => rfl
  | cons c r ih => simp [pick1] at ih ⊢
theorem pick1_1 (l : List UInt8) : pick1 (l.map fun c => (1, c)) = l := by
  induction l with
  | nil => rfl
  | cons c r ih => simp [pick1] at ih ⊢; exact ih
theorem leftL_add (l : List (Nat × Nat)) (k a b : Nat) : leftL l k a b = (a + (leftL l k 0 0).1, b + (leftL l k 0 0).2) := by
  induction l generalizing k a b with
  | nil => simp [leftL]
  | cons p r ih =>
    simp only [leftL]
    split
    · rw [ih _ (a + _) b, ih _ (0 + _) 0]; simp; omega
    · rw [ih _ a (b + _), ih _ 0 (0 + _)]; simp; omega
theorem take_map (l : List UInt8) (f : UInt8 → Nat × UInt8) (k : Nat) : (l.map f).take k = (l.take k).map f := by rw [List.map_take]
theorem join_take (x : List UInt8) (n m k : Nat) (h : k < n → m = 0) : (x.take n).take k ++ (x.drop n).take m = x.take (min n k + m) := by
  rw [List.take_take]
  by_cases hk : k < n
  · rw [h hk]; simp [Nat.min_comm]
  · have e1 : min k n = n := by omega
    have e2 : min n k = n := by omega
    rw [e1, e2, ← List.take_add]
theorem exp_take (l : List (Nat × Nat)) (h : okRow l) (x y : List UInt8) (hx : tot 0 l ≤ x.length) (hy : tot 1 l ≤ y.length) (k : Nat) :
    pick0 ((exp l x y).take k) = x.take (leftL l k 0 0).1 ∧ pick1 ((exp l x y).take k) = y.take (leftL l k 0 0).2 := by
  induction l generalizing x y k with
  | nil => simp [exp, pick0, pick1, leftL]
  | cons p r ih =>
    obtain ⟨h1, h2⟩ := h p (by simp)
    have hr := h.tail
    simp only [exp, leftL, tot] at hx hy ⊢
    rcases (by omega : p.1 = 0 ∨ p.1 = 1) with h0 | h0
    · simp only [h0, if_true, Nat.zero_ne_one, if_false] at hx hy ⊢
      rw [List.take_append, pick0_app, pick1_app, take_map, pick0_0, pick1_0, leftL_add]
      have hl : ((x.take p.2).map fun c => ((0 : Nat), c)).length = p.2 := by simp; omega
      rw [hl]
      obtain ⟨i1, i2⟩ := ih hr (x.drop p.2) y (by simp; omega) (by omega) (k - p.2)
      rw [i1, i2, show k - min p.2 k = k - p.2 from by omega]
      refine ⟨?_, by simp⟩
      simp only [Nat.zero_add]
      apply join_take
      intro hlt
      rw [show k - p.2 = 0 by omega, leftL_none r hr]
    · simp only [h0, Nat.one_ne_zero, if_false, if_true] at hx hy ⊢
      rw [List.take_append, pick0_app, pick1_app, take_map, pick0_1, pick1_1, leftL_add]
      have hl : ((y.take p.2).map fun c => ((1 : Nat), c)).length = p.2 := by simp; omega
      rw [hl]
      obtain ⟨i1, i2⟩ := ih hr x (y.drop p.2) (by omega) (by simp; omega) (k - p.2)
      rw [i1, i2, show k - min p.2 k = k - p.2 from by omega]
      refine ⟨by simp, ?_⟩
      simp only [Nat.zero_add]
      apply join_take
      intro hlt
      rw [show k - p.2 = 0 by omega, leftL_none r hr]
theorem exp_len (l : List (Nat × Nat)) (h : okRow l) (x y : List UInt8) (hx : tot 0 l ≤ x.length) (hy : tot 1 l ≤ y.length) : (exp l x y).length = tot 0 l + tot 1 l := by
  induction l generalizing x y with
  | nil => simp [exp, tot]
  | cons p r ih =>
    obtain ⟨h1, h2⟩ := h p (by simp)
    simp only [exp, tot] at hx hy ⊢
    rcases (by omega : p.1 = 0 ∨ p.1 = 1) with h0 | h0
    · simp only [h0, if_true, Nat.zero_ne_one, if_false] at hx hy ⊢
      rw [List.length_append, ih h.tail _ _ (by simp; omega) (by omega)]; simp; omega
    · simp only [h0, Nat.one_ne_zero, if_false, if_true] at hx hy ⊢
      rw [List.length_append, ih h.tail _ _ (by omega) (by simp; omega)]; simp; omega
theorem exp_lt (l : List (Nat × Nat)) (x y : List UInt8) : ∀ c ∈ exp l x y, c.1 < 2 := by
  induction l generalizing x y with
  | nil => simp [exp]
  | cons p r ih =>
    simp only [exp]
    split <;> (intro c hc; rw [List.mem_append] at hc; rcases hc with hc | hc)
    · obtain ⟨b, _, rfl⟩ := List.mem_map.1 hc; simp
    · exact ih _ _ c hc
    · obtain ⟨b, _, rfl⟩ := List.mem_map.1 hc; simp
    · exact ih _ _ c hc
theorem exp_app (l m : List (Nat × Nat)) (h : okRow l) (x y : List UInt8) : exp (l ++ m) x y = exp l x y ++ exp m (x.drop (tot 0 l)) (y.drop (tot 1 l)) := by
  induction l generalizing x y with
  | nil => simp [exp, tot]
  | cons p r ih =>
    obtain ⟨h1, h2⟩ := h p (by simp)
    simp only [List.cons_append, exp, tot]
    rcases (by omega : p.1 = 0 ∨ p.1 = 1) with h0 | h0
    · simp only [h0, if_true, Nat.zero_ne_one, if_false]
      rw [ih h.tail, List.append_assoc, List.drop_drop, Nat.zero_add]
    · simp only [h0, Nat.one_ne_zero, if_false, if_true]
      rw [ih h.tail, List.append_assoc, List.drop_drop, Nat.zero_add]
theorem exp_more (l : List (Nat × Nat)) (h : okRow l) (x y s t : List UInt8) (hx : tot 0 l ≤ x.length) (hy : tot 1 l ≤ y.length) : exp l (x ++ s) (y ++ t) = exp l x y := by
  induction l generalizing x y with
  | nil => simp [exp]
  | cons p r ih =>
    obtain ⟨h1, h2⟩ := h p (by simp)
    simp only [exp, tot] at hx hy ⊢
    rcases (by omega : p.1 = 0 ∨ p.1 = 1) with h0 | h0
    · simp only [h0, if_true, Nat.zero_ne_one, if_false] at hx hy ⊢
      rw [List.take_append_of_le_length (by omega), List.drop_append_of_le_length (by omega), ih h.tail _ _ (by simp; omega) (by omega)]
    · simp only [h0, Nat.one_ne_zero, if_false, if_true] at hx hy ⊢
      rw [List.take_append_of_le_length (by omega), List.drop_append_of_le_length (by omega), ih h.tail _ _ (by omega) (by simp; omega)]
theorem exp_longer (l : List (Nat × Nat)) (h : okRow l) (f n : Nat) (x y : List UInt8) : exp (longer l f n) x y = exp (l ++ [(f, n)]) x y := by
  by_cases h0 : n = 0
  · subst h0
    rw [longer_zero, exp_app l _ h]
    simp [exp]
  · rcases split_last l with rfl | ⟨r, g, m, rfl⟩
    · rw [longer_nil _ _ h0]; rfl
    · by_cases hg : g = f
      · subst hg
        have hr : okRow r := fun q hq => h q (by simp [hq])
        rw [longer_same _ _ _ _ h0, List.append_assoc, exp_app r _ hr, exp_app r _ hr]
        congr 1
        simp only [List.cons_append, List.nil_append, exp, List.append_nil]
        split
        · rw [List.take_add, List.map_append]
        · rw [List.take_add, List.map_append]
      · rw [longer_other _ _ _ _ _ h0 hg]
namespace St
def un (S : St) : List (Nat × UInt8) := exp S.row (S.f0.drop S.s0) (S.f1.drop S.s1)
theorem un_len {S : St} (h : S.Wf) : S.un.length = S.waiting := by
  have h0 := h.t0
  have h1 := h.t1
  unfold un waiting
  rw [exp_len _ h.ok _ _ (by simp; omega) (by simp; omega)]
  omega
theorem un_lt (S : St) : ∀ c ∈ S.un, c.1 < 2 := exp_lt _ _ _
theorem drop_take (l : List UInt8) (n m : Nat) : l.take n ++ (l.drop n).take m = l.take (n + m) := by rw [List.take_add]
theorem un_after {S : St} (h : S.Wf) (k : Nat) : S.f0.take S.s0 ++ pick0 (S.un.take k) = S.f0.take (S.left k).1 ∧ S.f1.take S.s1 ++ pick1 (S.un.take k) = S.f1.take (S.left k).2 := by
  have h0 := h.t0
  have h1 := h.t1
  have := exp_take S.row h.ok (S.f0.drop S.s0) (S.f1.drop S.s1) (by simp; omega) (by simp; omega) k
  unfold un St.left
  rw [this.1, this.2, drop_take, drop_take, leftL_add S.row k S.s0 S.s1]
  exact ⟨rfl, rfl⟩
theorem un_all {S : St} (h : S.Wf) : S.f0.take S.s0 ++ pick0 S.un = S.f0 ∧ S.f1.take S.s1 ++ pick1 S.un = S.f1 := by
  have := un_after h S.waiting
  rw [h.left_all _ (Nat.le_refl _), ← un_len h, List.take_length, List.take_length, List.take_length] at this
  exact this
theorem un_count {S : St} (h : S.Wf) : (pick0 S.un).length = S.f0.length - S.s0 ∧ (pick1 S.un).length = S.f1.length - S.s1 := by
  have h0 := h.t0
  have h1 := h.t1
  obtain ⟨a, b⟩ := un_all h
  have a' := congrArg List.length a
  have b' := congrArg List.length b
  simp only [List.length_append, List.length_take] at a' b'
  omega
theorem un_lay0 {S : St} (h : S.Wf) (s : List UInt8) : (S.lay 0 s).un = S.un ++ s.map (fun c => (0, c)) := by
  have h0 := h.t0
  have h1 := h.t1
  unfold St.lay un
  rw [if_pos rfl]
  simp only []
  have hx : tot 0 S.row = (S.f0.drop S.s0).length := by simp; omega
  have hy : tot 1 S.row = (S.f1.drop S.s1).length := by simp; omega
  rw [List.drop_append_of_le_length (by omega), exp_longer _ h.ok, exp_app _ _ h.ok, ← List.append_nil (S.f1.drop S.s1), exp_more _ h.ok _ _ _ _ (by omega) (by omega), List.append_nil]
  congr 1
  rw [hx, List.drop_append_of_le_length (Nat.le_refl _), List.drop_length]
  simp [exp]
theorem un_lay1 {S : St} (h : S.Wf) (s : List UInt8) : (S.lay 1 s).un = S.un ++ s.map (fun c => (1, c)) := by
  have h0 := h.t0
  have h1 := h.t1
  unfold St.lay un
  rw [if_neg (by decide)]
  simp only []
  have hx : tot 0 S.row = (S.f0.drop S.s0).length := by simp; omega
  have hy : tot 1 S.row = (S.f1.drop S.s1).length := by simp; omega
  rw [List.drop_append_of_le_length (by omega), exp_longer _ h.ok, exp_app _ _ h.ok, ← List.append_nil (S.f0.drop S.s0), exp_more _ h.ok _ _ _ _ (by omega) (by omega), List.append_nil]
  congr 1
  rw [hy, List.drop_append_of_le_length (Nat.le_refl _), List.drop_length]
  simp [exp]
theorem un_cut {S : St} (h : S.Wf) (f n : Nat) (hn : n ≤ (S.file f).length) (hs : ¬ S.safe f < (S.file f).length) : (S.cutF f n).un = S.un := by
  have h0 := h.t0
  have h1 := h.t1
  unfold file at hn hs
  unfold safe at hs
  unfold St.cutF cut0 cut1 un
  split
  · rename_i hf
    rw [if_pos hf] at hn hs
    rw [if_pos hf] at hs
    have e1 : S.f0.drop S.s0 = [] := by rw [List.drop_eq_nil_iff]; omega
    have e2 : (S.f0.take n).drop n = [] := by rw [List.drop_eq_nil_iff, List.length_take]; omega
    rw [e1]; simp only [e2]
  · rename_i hf
    rw [if_neg hf] at hn hs
    rw [if_neg hf] at hs
    have e1 : S.f1.drop S.s1 = [] := by rw [List.drop_eq_nil_iff]; omega
    have e2 : (S.f1.take n).drop n = [] := by rw [List.drop_eq_nil_iff, List.length_take]; omega
    rw [e1]; simp only [e2]
theorem un_nil {S : St} (h : S.row = []) : S.un = [] := by unfold un; rw [h]; rfl
end St
end Go.Proofs.YtmoihgniglomiaaDoor
namespace Go.Proofs.YtmoihgniglomiaaDoor
abbrev Bs := List UInt8
def be : Nat → Nat → Bs
  | 0, _ => []
  | k + 1, n => be k (n / 256) ++ [UInt8.ofNat (n % 256)]
def valN (l : Bs) : Nat := l.foldl (fun n x => 256 * n + x.toNat) 0
def frame (s : Bs) : Bs := be 4 s.length ++ be 4 (Crc.sum s) ++ s
def whole (s : Bs) (most : Nat) : Bool := decide (8 ≤ s.length) && decide (valN (s.take 4) ≤ most) && decide (valN (s.take 4) ≤ s.length - 8) && decide (valN ((s.drop 4).take 4) = Crc.sum ((s.drop 8).take (valN (s.take 4))))
def unframed (s : Bs) (most : Nat) : Option (Bs × Bs) :=
  if whole s most then some ((s.drop 8).take (valN (s.take 4)), (s.drop 8).drop (valN (s.take 4))) else none
def recs : Nat → Bs → List Bs × Bs
  | 0, s => ([], s)
  | k + 1, s => match unframed s 65536 with
    | none => ([], s)
    | some (r, b) => (r :: (recs k b).1, (recs k b).2)
def recsOf (s : Bs) : List Bs × Bs := recs s.length s
def mark : Bs := [83, 78, 76, 49]
def fileOf (g : Nat) (snap : Bs) : Bs := mark ++ be 8 g ++ frame snap
def begins (s : Bs) : Nat × Bs × Bs :=
  if s.take 4 = mark ∧ 12 ≤ s.length ∧ valN ((s.drop 4).take 8) ≤ 4611686018427387904 then
    match unframed (s.drop 12) 524288 with
    | none => (0, [], [])
    | some (snap, b) => (valN ((s.drop 4).take 8), snap, b)
  else (0, [], [])
theorem be_len : ∀ (k n : Nat), (be k n).length = k
  | 0, _ => rfl
  | k + 1, n => by simp [be, be_len k]
theorem valN_app (a b : Bs) : valN (a ++ b) = b.foldl (fun n x => 256 * n + x.toNat) (valN a) := by simp [valN]
theorem valN_one (a : Bs) (x : UInt8) : valN (a ++ [x]) = 256 * valN a + x.toNat := by simp [valN_app]
theorem valN_be : ∀ (k n : Nat), valN (be k n) = n % 256 ^ k
  | 0, n => by simp [be, valN, Nat.mod_one]
  | k + 1, n => by
    rw [be, valN_one, valN_be k]
    have h1 : (UInt8.ofNat (n % 256)).toNat = n % 256 := by simp
    rw [h1, Nat.pow_succ, Nat.mul_comm (256 ^ k), Nat.mod_mul]
    omega
theorem valN_lt (l : Bs) : valN l < 256 ^ l.length := by
  suffices h : ∀ l : Bs, ∀ n k, n < 256 ^ k → l.foldl (fun n x => 256 * n + x.toNat) n < 256 ^ (k + l.length) by
    have := h l 0 0 (by simp)
    simpa [valN] using this
  intro l
  induction l with
  | nil => intro n k h; simpa using h
  | cons x l ih =>
    intro n k h
    simp only [List.foldl_cons, List.length_cons]
    have hx := x.toNat_lt
    have := ih (256 * n + x.toNat) (k + 1) (by rw [Nat.pow_succ]; omega)
    rwa [show k + (l.length + 1) = k + 1 + l.length by omega]
theorem valN4 (l : Bs) (h : l.length ≤ 4) : valN l < 4294967296 := Nat.lt_of_lt_of_le (valN_lt l) (Nat.le_trans (Nat.pow_le_pow_right (by decide) h) (by decide))
theorem unframed_len {s : Bs} {most : Nat} {r b : Bs} (h : unframed s most = some (r, b)) : b.length + 8 + r.length = s.length ∧ r.length ≤ most := by
  unfold unframed at h
  split at h
  · rename_i hw
    simp only [Option.some.injEq, Prod.mk.injEq] at h
    obtain ⟨rfl, rfl⟩ := h
    simp only [whole, Bool.and_eq_true, decide_eq_true_eq] at hw
    simp only [List.length_take, List.length_drop]
    omega
  · cases h
theorem recs_more : ∀ (k j : Nat) (s : Bs), s.length ≤ k → s.length ≤ j → recs k s = recs j s
  | 0, j, s, hk, hj => by
    have : s = [] := List.eq_nil_of_length_eq_zero (by omega)
    subst this
    cases j with
    | zero => rfl
    | succ j => rfl
  | k + 1, 0, s, hk, hj => by
    have : s = [] := List.eq_nil_of_length_eq_zero (by omega)
    subst this
    rfl
  | k + 1, j + 1, s, hk, hj => by
    unfold recs
    cases h : unframed s 65536 with
    | none => rfl
    | some x =>
      obtain ⟨r, b⟩ := x
      have := unframed_len h
      simp only
      rw [recs_more k j b (by omega) (by omega)]
theorem recsOf_none {s : Bs} (h : unframed s 65536 = none) : recsOf s = ([], s) := by
  rw [recsOf, recs_more _ (s.length + 1) s (Nat.le_refl _) (by omega), recs, h]
theorem recsOf_some {s r b : Bs} (h : unframed s 65536 = some (r, b)) : recsOf s = (r :: (recsOf b).1, (recsOf b).2) := by
  have := unframed_len h
  obtain ⟨m, hm⟩ : ∃ m, s.length = m + 1 := ⟨s.length - 1, by omega⟩
  rw [recsOf, hm, recs, h]
  simp only
  rw [recsOf, recs_more m b.length b (by omega) (Nat.le_refl _)]
theorem frame_len (s : Bs) : (frame s).length = 8 + s.length := by simp [frame, be_len]; omega
theorem unframed_frame (s b : Bs) (most : Nat) (h : s.length ≤ most) (hm : most < 4294967296) : unframed (frame s ++ b) most = some (s, b) := by
  have h4 : (frame s ++ b).take 4 = be 4 s.length := by
    simp only [frame, List.append_assoc]; rw [List.take_append_of_le_length (by simp [be_len])]; exact List.take_of_length_le (by simp [be_len])
  have hv : valN ((frame s ++ b).take 4) = s.length := by rw [h4, valN_be]; exact Nat.mod_eq_of_lt (by omega)
  have h8 : (frame s ++ b).drop 8 = s ++ b := by
    simp only [frame, List.append_assoc]
    rw [← List.append_assoc]
    exact List.drop_left' (by simp [be_len])
  have hs : ((frame s ++ b).drop 4).take 4 = be 4 (Crc.sum s) := by
    simp only [frame, List.append_assoc]
    rw [List.drop_left' (by simp [be_len]), List.take_append_of_le_length (by simp [be_len])]
    exact List.take_of_length_le (by simp [be_len])
  have hw : whole (frame s ++ b) most = true := by
    unfold whole
    rw [hv, hs, h8, valN_be, List.take_left' rfl, Nat.mod_eq_of_lt (by have := Crc.sum_lt s; omega)]
    simp [frame_len]
    omega
  unfold unframed
  rw [if_pos hw, hv, h8]
  simp
structure Wlg where
  file : Nat
  gen : Nat
  n : Nat
  dead : Bool
def room (S : St) (l : Wlg) : Int := max (-1) (min 65536 (1048576 - ((S.file l.file).length : Int) - 8))
def Wlg.sink (l : Wlg) : Wlg := { l with dead := true }
def lap (S : St) (l : Wlg) (r : Bs) : Nat × St × Wlg :=
  if l.dead ∨ S.gone then (2, S, l.sink)
  else if r.length > 65536 then (101, S, l)
  else if (r.length : Int) > room S l then (102, S, l)
  else if (S.append l.file (frame r)).1 = 0 then (0, (S.append l.file (frame r)).2, { l with n := l.n + 1 })
  else (2, (S.append l.file (frame r)).2, l.sink)
def lsync (S : St) (l : Wlg) : Nat × St × Wlg :=
  if l.dead ∨ S.gone then (2, S, l.sink)
  else if S.sync.1 = 0 then (0, S.sync.2, l) else (2, S.sync.2, l.sink)
def lays (S : St) (f g : Nat) (snap : Bs) : Nat × St :=
  if (S.append f (fileOf g snap)).1 = 0 then (S.append f (fileOf g snap)).2.sync else S.append f (fileOf g snap)
def lchk (S : St) (l : Wlg) (snap : Bs) : Nat × St × Wlg :=
  if l.dead ∨ S.gone then (2, S, l.sink)
  else if snap.length > 524288 then (101, S, l)
  else if l.gen = 4611686018427387904 then (102, S, l)
  else if (lays S (1 - l.file) (l.gen + 1) snap).1 = 0 then
    if ((lays S (1 - l.file) (l.gen + 1) snap).2.cut l.file 0).1 = 0 then (0, ((lays S (1 - l.file) (l.gen + 1) snap).2.cut l.file 0).2, ⟨1 - l.file, l.gen + 1, 0, false⟩)
    else (2, ((lays S (1 - l.file) (l.gen + 1) snap).2.cut l.file 0).2, l.sink)
  else (2, (lays S (1 - l.file) (l.gen + 1) snap).2, l.sink)
def lnew (S : St) : Nat × St :=
  if S.gone then (2, S)
  else if S.f0.length > 0 ∨ S.f1.length > 0 then (100, S)
  else lays S 0 1 []
def newest (S : St) : Nat × Nat × Bs × Bs :=
  if (begins S.f1).1 > (begins S.f0).1 then (1, begins S.f1) else (0, begins S.f0)
def ocut (S : St) (f torn : Nat) : Nat × St :=
  if torn > 0 then S.cut f ((S.file f).length - torn : Nat) else (0, S)
def ocut2 (S : St) (f torn : Nat) : Nat × St :=
  if (ocut S f torn).1 = 0 then
    if ((ocut S f torn).2.file (1 - f)).length > 0 then (ocut S f torn).2.cut (1 - f : Nat) 0 else (0, (ocut S f torn).2)
  else ocut S f torn
def lopen (S : St) : Nat × (Wlg × Bs × List Bs) × St :=
  if S.gone then (2, (⟨0, 0, 0, false⟩, [], []), S)
  else if (newest S).2.1 = 0 then (100, (⟨0, 0, 0, false⟩, [], []), S)
  else if (ocut2 S (newest S).1 (recsOf (newest S).2.2.2).2.length).1 = 0 then
    (0, (⟨(newest S).1, (newest S).2.1, (recsOf (newest S).2.2.2).1.length, false⟩, (newest S).2.2.1, (recsOf (newest S).2.2.2).1), (ocut2 S (newest S).1 (recsOf (newest S).2.2.2).2.length).2)
  else (2, (⟨0, 0, 0, false⟩, [], []), (ocut2 S (newest S).1 (recsOf (newest S).2.2.2).2.length).2)
end Go.Proofs.YtmoihgniglomiaaDoor
namespace Go.Proofs.YtmoihgniglomiaaDoor
open Go.RowKit Go.Sort
def ucells (l : List (Nat × UInt8)) : List Value := l.flatMap fun p => [.int .i64 (p.1 : Int), .int .u8 (p.2.toNat : Int)]
theorem ucells_len (l : List (Nat × UInt8)) : (ucells l).length = l.length * 2 := by
  induction l with
  | nil => rfl
  | cons p r ih => simp only [ucells, List.flatMap_cons, List.length_append, List.length_cons, List.length_nil] at ih ⊢; omega
theorem ucells_app (a b : List (Nat × UInt8)) : ucells (a ++ b) = ucells a ++ ucells b := by simp [ucells]
theorem ucells_get (l : List (Nat × UInt8)) (i : Nat) (hi : i < l.length) : (ucells l)[i * 2]? = some (.int .i64 (l[i].1 : Int)) ∧ (ucells l)[i * 2 + 1]? = some (.int .u8 (l[i].2.toNat : Int)) := by
  induction l generalizing i with
  | nil => cases hi
  | cons p r ih =>
    cases i with
    | zero => simp [ucells]
    | succ i =>
      have := ih i (by simpa using hi)
      simp only [ucells, List.flatMap_cons] at this ⊢
      rw [List.getElem?_append_right (by simp; omega), List.getElem?_append_right (by simp; omega)]
      simp only [List.length_cons, List.length_nil, List.getElem_cons_succ]
      rw [show (i + 1) * 2 - (0 + 1 + 1) = i * 2 from by omega, show (i + 1) * 2 + 1 - (0 + 1 + 1) = i * 2 + 1 from by omega]
      exact this
theorem ucells_one (l : List (Nat × UInt8)) : ∀ u ∈ ucells l, u.oneCell' = true := by
  intro u hu
  unfold ucells at hu
  obtain ⟨x, _, hx⟩ := List.mem_flatMap.1 hu
  simp only [List.mem_cons, List.not_mem_nil, or_false] at hx
  rcases hx with rfl | rfl <;> rfl
theorem u65 : Tryd.prog.underlying 59 = some (.slice 127) := by kernel_rfl
theorem infoU : (Tryd.prog.info? 127).map (fun i => (i.zero, i.size, i.bytes)) = some (some (.agg #[.int .i64 0, .int .u8 0]), 2, 16) := by kernel_rfl
theorem ownsU_of {w w' : World} {v : Value} {n : Nat} {xs : List Value} (h : w.ownsRow 0 127 2 v n xs) (e : ∀ g, v.ownBlock = some g → g < w.heap.size → w'.heap[g]? = w.heap[g]?) : w'.ownsRow 0 127 2 v n xs := by
  obtain ⟨hl, h | ⟨g, cap, cur, rfl, hb, hg, rest⟩⟩ := h
  · exact ⟨hl, .inl h⟩
  · exact ⟨hl, .inr ⟨g, cap, cur, rfl, hb, (e g rfl (blk_lt hg)).trans hg, rest⟩⟩
structure Rk (w : World) (r : Nat) (S : St) (uv : Value) (kp : Int) : Prop where
  blk : Bk 61 w r #[.string ⟨(S.f0.take S.s0).toArray⟩, .string ⟨(S.f1.take S.s1).toArray⟩, uv, .int .i64 (S.inn : Int), .int .i64 kp, .bool S.gone]
  row : w.ownsRow 0 127 2 uv S.un.length (ucells S.un)
  kp : S.inn ≠ 0 → kp = (S.lft : Int)
  wf : S.Wf
theorem Rk.below {w w' : World} {r : Nat} {S : St} {uv : Value} {kp : Int} (h : Rk w r S uv kp) (hb : Below w.heap.size w w') : Rk w' r S uv kp :=
  ⟨h.blk.below hb, ownsU_of h.row fun g _ hg => hb.block g hg, h.kp, h.wf⟩
theorem Rk.kept {w w' : World} {r : Nat} {S : St} {uv : Value} {kp : Int} (h : Rk w r S uv kp) (hr : w'.heap[r]? = w.heap[r]?) (hu : ∀ g, uv.ownBlock = some g → w'.heap[g]? = w.heap[g]?) : Rk w' r S uv kp :=
  ⟨hr.trans h.blk, ownsU_of h.row fun g e _ => hu g e, h.kp, h.wf⟩
theorem Rk.ne {w : World} {r : Nat} {S : St} {uv : Value} {kp : Int} (h : Rk w r S uv kp) {t : Nat} {cs : Array Value} (ht : Bk 61 w t cs) : ∀ g, uv.ownBlock = some g → g ≠ t := by
  intro g e hgt
  subst hgt
  obtain ⟨_, ⟨rfl, _⟩ | ⟨q, cap, cur, rfl, _, hg, _⟩⟩ := h.row
  · cases e
  · cases e
    unfold Bk at ht
    rw [hg] at ht
    cases ht
theorem Rk.ult {w : World} {r : Nat} {S : St} {uv : Value} {kp : Int} (h : Rk w r S uv kp) : ∀ g, uv.ownBlock = some g → g < w.heap.size := by
  intro g e
  exact (h.row.lt g e).2
theorem owns_len {w : World} {v : Value} {l : List (Nat × UInt8)} {n : Nat} (hn : n = l.length) (h : w.ownsRow 0 127 2 v n (ucells l)) : ∃ a c, v = .slice a l.length c ∧ ∀ i (hi : i < l.length), ∃ g, a = some ⟨g, 0, none⟩ ∧ w.cell? ⟨g, i * 2, none⟩ = some (.int .i64 (l[i].1 : Int)) ∧ w.cell? ⟨g, i * 2 + 1, none⟩ = some (.int .u8 (l[i].2.toNat : Int)) := by
  subst hn
  have h' := h
  obtain ⟨_, ⟨rfl, h0⟩ | ⟨g, cap, cur, rfl, _⟩⟩ := h'
  · exact ⟨none, 0, by rw [h0], fun i hi => by omega⟩
  · refine ⟨_, _, rfl, fun i hi => ⟨g, rfl, ?_, ?_⟩⟩
    · have := h.cells (g := g) rfl _ _ (ucells_get l i hi).1
      rwa [at0] at this
    · have := h.cells (g := g) rfl _ _ (ucells_get l i hi).2
      rwa [at0] at this
def cnt (f : Nat) (l : List (Nat × UInt8)) : Nat := l.countP fun x => x.1 == f
theorem cnt_succ (f : Nat) (l : List (Nat × UInt8)) (i : Nat) (hi : i < l.length) : cnt f (l.take (i + 1)) = cnt f (l.take i) + if l[i].1 = f then 1 else 0 := by
  rw [List.take_succ_eq_append_getElem hi]
  unfold cnt
  rw [List.countP_append]
  by_cases h : l[i].1 = f <;> simp [h]
theorem cnt_le (f : Nat) (l : List (Nat × UInt8)) : cnt f l ≤ l.length := List.countP_le_length
theorem cnt_pick0 (l : List (Nat × UInt8)) : cnt 0 l = (pick0 l).length := by
  induction l with
  | nil => rfl
  | cons x r ih => by_cases h : x.1 = 0 <;> simp [cnt, pick0, h] at ih ⊢ <;> omega
theorem cnt_pick1 (l : List (Nat × UInt8)) (hl : ∀ c ∈ l, c.1 < 2) : cnt 1 l = (pick1 l).length := by
  induction l with
  | nil => rfl
  | cons x r ih =>
    have h2 := hl x (by simp)
    have ih := ih (fun c hc => hl c (by simp [hc]))
    rcases (by omega : x.1 = 0 ∨ x.1 = 1) with h | h <;> simp [cnt, pick1, h] at ih ⊢ <;> omega
theorem cnt_un {S : St} (h : S.Wf) (f : Nat) (hf : f < 2) : cnt f S.un = (S.file f).length - S.safe f := by
  have hc := St.un_count h
  rcases (by omega : f = 0 ∨ f = 1) with rfl | rfl
  · rw [cnt_pick0, hc.1]; rfl
  · rw [cnt_pick1 _ (St.un_lt S), hc.2]; rfl
theorem un_small {S : St} (h : S.Wf) : S.un.length ≤ 2097152 := by
  have h2 := h.l0
  have h3 := h.l1
  rw [St.un_len h]
  unfold St.waiting
  omega
set_option maxHeartbeats 8000000 in
theorem unsafe56 (r : Nat) (S : St) (uv : Value) (kp : Int) (f : Nat) (hf : f < 2) (w : World) (h : Rk w r S uv kp) :
    Calls Tryd.prog 83 #[.pointer (some ⟨r, 0, none⟩), .int .i64 (f : Int)] w fun e w' => e = .returned (.int .i64 (((S.file f).length - S.safe f : Nat) : Int)) ∧ w = w' := by
  rw [← cnt_un h.wf f hf]
  have hlen := un_small h.wf
  obtain ⟨a, c, rfl, hcell⟩ := owns_len rfl h.row
  have b2 := h.blk.cell 2
  simp only [List.getElem?_toArray, List.getElem?_cons_succ, List.getElem?_cons_zero] at b2
  clear h hf
  generalize S.un = l at hcell b2 hlen ⊢
  obtain ⟨n, hn⟩ : ∃ n, n = l.length := ⟨_, rfl⟩
  have HL : Hid (l.length = n) := Lib.hid hn.symm
  have HC := Lib.hid hcell
  rw [← hn] at b2 hlen
  have HLE := Lib.hid hlen
  have e0 : cnt f (l.take 0) = 0 := rfl
  have eN : cnt f l = cnt f (l.take n) := by rw [hn, List.take_length]
  rw [eN]
  clear hcell hn eN
  go_enter Tryd.func83, Tryd.ntmps83
  go_wp2_with fail
  go_loopw [5, 6] (fun nv iv wr => ∃ i : Nat, i ≤ n ∧ iv = .int .i64 (i : Int) ∧ nv = .int .i64 (cnt f (l.take i) : Int) ∧ wr = w) (fun _ iv _ => n - (intOf iv).toNat)
  case atStart => exact ⟨0, Nat.zero_le _, rfl, rfl, rfl⟩
  case round =>
    obtain ⟨i, hi, rfl, rfl, rfl⟩ := hrel
    by_cases hlt : i < n
    · have hil : i < l.length := by rw [HL.out]; exact hlt
      obtain ⟨g, rfl, c0, c1⟩ := HC.out i hil
      have hst := Lib.hid (cnt_succ f l i hil)
      have hcb : cnt f (l.take i) ≤ 2097152 := by
        have h1 := cnt_le f (l.take i)
        have h2 : (l.take i).length ≤ i := by rw [List.length_take]; omega
        have := HLE.out
        omega
      generalize cnt f (l.take i) = m at hst hcb ⊢
      generalize l[i].1 = x at c0 hst
      clear c1
      by_cases hx : x = f
      · have t1 : ((x : Int) == (f : Int)) = true := by simp [hx]
        have hs := hst.out
        rw [if_pos hx] at hs
        replace hs := Lib.hid hs
        clear hst hx
        go_wp2_with fail
        go_roundw
        case rel => exact ⟨i + 1, by omega, by go_num, by rw [hs.out]; go_num, trivial⟩
        case measure => simp [intOf]; omega
      · have t1 : ((x : Int) == (f : Int)) = false := by simp; omega
        have hs := hst.out
        rw [if_neg hx] at hs
        replace hs := Lib.hid hs
        clear hst hx
        go_wp2_with fail
        go_roundw
        case rel => exact ⟨i + 1, by omega, by go_num, by rw [hs.out, Nat.add_zero], trivial⟩
        case measure => simp [intOf]; omega
    · have hin : i = n := by omega
      subst hin
      go_wp2_with fail
      go_ret
      exact ⟨rfl, rfl⟩
end Go.Proofs.YtmoihgniglomiaaDoor
namespace Go.Proofs.YtmoihgniglomiaaDoor
open Go.RowKit Go.Sort
def Cv (B : Nat) (w : World) (x : Value) (s : ByteArray) : Prop := ∃ g cap, x = .slice (some ⟨g, 0, none⟩) s.size cap ∧ By w g cap s.data.toList ∧ B ≤ g
theorem Cv.below {B : Nat} {w w' : World} {x : Value} {s : ByteArray} (h : Cv B w x s) (hb : Below w.heap.size w w') : Cv B w' x s := by
  obtain ⟨g, cap, hx, hy, hB⟩ := h
  exact ⟨g, cap, hx, hy.below hb, hB⟩
def Sep (x y : Value) : Prop := ∀ g, x.ownBlock = some g → y.ownBlock ≠ some g
theorem sep_new1 {B : Nat} {w : World} {y : Value} {s : ByteArray} {n c : Nat} (h : Cv B w y s) : Sep (.slice (some ⟨w.heap.size, 0, none⟩) n c) y := by
  obtain ⟨g, cap, rfl, hy, hB⟩ := h
  have := hy.lt
  intro q hq hq'
  cases hq
  cases hq'
  exact Nat.lt_irrefl _ this
theorem sep_new2 {B : Nat} {w : World} {y : Value} {s : ByteArray} {n c : Nat} (h : Cv B w y s) : Sep y (.slice (some ⟨w.heap.size, 0, none⟩) n c) := by
  obtain ⟨g, cap, rfl, hy, hB⟩ := h
  have := hy.lt
  intro q hq hq'
  cases hq
  cases hq'
  exact Nat.lt_irrefl _ this
theorem app_byte (w : World) (ty : TypeId) (g cap : Nat) (l : List UInt8) (q c : Nat) (x : UInt8) (n : Nat) (hn : n = l.length) (hI : By w g cap l) (hq : Bk 5 w q #[.int .u8 (x.toNat : Int)]) (hlen : l.length + 1 ≤ 140737488355328) :
    ∃ g' cap' w', (Builtin.append_ #[80, 80] ty #[.slice (some ⟨g, 0, none⟩) n cap, .slice (some ⟨q, 0, none⟩) 1 c]).run Tryd.prog w = .ok (.slice (some ⟨g', 0, none⟩) (l.length + 1) cap') w' ∧ By w' g' cap' (l ++ [x]) ∧ Only [g] w w' ∧ (g' = g ∨ g' = w.heap.size) := by
  subst hn
  obtain ⟨i0, hi, hz0, hz1, hz2⟩ := info_parts infoByte
  have HI := hI
  obtain ⟨cur, fz, hg, hoff, hlc, hcm, hcs, htk⟩ := hI
  have hnews : ∀ j u, [Value.int .u8 (x.toNat : Int)][j]? = some u → w.cell? ((⟨q, 0, none⟩ : Addr).add j) = some u := by
    intro j u hu
    rw [at0, hq.cell]
    match j with
    | 0 => simpa using hu
    | j + 1 => simp at hu
  by_cases hroom : l.length + 1 ≤ cap
  · have hf := run_firstCells_some (P := Tryd.prog) w 1 1 ⟨q, 0, none⟩ 1 c [Value.int .u8 (x.toNat : Int)] rfl hnews
    have hst := run_storeM Tryd.prog g l.length 5 fz [Value.int .u8 (x.toNat : Int)] 0 cur w hg hoff (by simp; omega) (by intro v hv; simp only [List.mem_singleton] at hv; subst hv; rfl)
    simp only [Nat.add_zero] at hst
    have hr : (Builtin.append_ #[80, 80] ty #[.slice (some ⟨g, 0, none⟩) l.length cap, .slice (some ⟨q, 0, none⟩) 1 c]).run Tryd.prog w = .ok (.slice (some ⟨g, 0, none⟩) (l.length + 1) cap) (w.setRow g (cur.toList.take l.length ++ [Value.int .u8 (x.toNat : Int)] ++ cur.toList.drop (l.length + 1)).toArray) := by
      simp at hf hst
      simp [Builtin.append_, run_underlying u56, sizeOf, typeInfo, hi, hz1, Builtin.lenOf, hroom, hf, Addr.add_lit, hst]
    refine ⟨g, cap, _, hr, ⟨_, fz, setRow_heap w g cur _ 5 _ hg, ?_, ?_, hcm, ?_, ?_⟩, ⟨rfl, rfl, rfl, by rw [setRow_size]; exact Nat.le_refl _, fun k _ hk => setRow_other w g k _ (by simpa using hk)⟩, .inl rfl⟩
    · have e : (cur.toList.take l.length ++ [Value.int .u8 (x.toNat : Int)] ++ cur.toList.drop (l.length + 1)).toArray.size = cur.size := by simp; omega
      rw [e]; exact hoff
    · simpa using hroom
    · simp; omega
    · have e1 : [Value.int .u8 (x.toNat : Int)] = bl [x] := rfl
      rw [htk, e1, ← bl_app, ← bl_len (l ++ [x])]; simp only []; exact List.take_left
  · have holds : ∀ j u, (bl l)[j]? = some u → w.cell? ((⟨g, 0, none⟩ : Addr).add j) = some u := fun j u hu => by
      rw [at0, blk_cell hg j]
      rw [← htk, List.getElem?_take] at hu
      split at hu
      · simpa using hu
      · cases hu
    have hr := run_append_grow (P := Tryd.prog) w 80 ty 5 i0 (.int .u8 0) u56 hi hz0 ⟨g, 0, none⟩ l.length cap (bl l) (by rw [bl_len, hz1, Nat.mul_one]) holds ⟨q, 0, none⟩ 1 c [Value.int .u8 (x.toNat : Int)] (by rw [hz1]; rfl) hnews (by omega) (by omega) (by rw [hz2]; exact growslice_fits (by omega) (by omega))
    have hge := grownCap_ge w (l.length + 1) cap 5
    refine ⟨w.heap.size, _, _, hr, ⟨_, (0, 0), Go.heap_alloc_new w.drew _, .inl rfl, by simpa using hge, grownCap_le_maxLen w _ cap 5 (by unfold maxLen; omega), ?_, ?_⟩, (Only.refl _ _).drew.alloc _, .inr rfl⟩
    · have hz1' : (Value.int IntKind.u8 0).cells.size = 1 := rfl
      simp only [Array.size_append, List.size_toArray, size_zeroCells, hz1', bl_len, List.length_singleton]
      omega
    · have e1 : [Value.int .u8 (x.toNat : Int)] = bl [x] := rfl
      simp only [Array.toList_append, List.append_assoc]
      rw [e1, ← List.append_assoc, ← bl_app, ← bl_len (l ++ [x])]
      exact List.take_left
theorem left_all11_1 {j0 j1 j2 j3 j4 j5 j6 j7 j8 j9 j10 : Bool} (h : left #[j0, j1, j2, j3, j4, j5, j6, j7, j8, j9, j10, false] = 1) : j0 = true ∧ j1 = true ∧ j2 = true ∧ j3 = true ∧ j4 = true ∧ j5 = true ∧ j6 = true ∧ j7 = true ∧ j8 = true ∧ j9 = true ∧ j10 = true := by
  have e := left_count #[j0, j1, j2, j3, j4, j5, j6, j7, j8, j9, j10] 1
  have e2 : (#[j0, j1, j2, j3, j4, j5, j6, j7, j8, j9, j10] ++ Array.replicate 1 false) = #[j0, j1, j2, j3, j4, j5, j6, j7, j8, j9, j10, false] := rfl
  rw [e2, h] at e
  have hz := left_zero (l := #[j0, j1, j2, j3, j4, j5, j6, j7, j8, j9, j10]) (by omega)
  simpa using hz
noncomputable def ra1O : Array Oper := (Tryd.f62.body.bind fun c => findR c 1).getD #[]
def ra1I (w0 : World) (r : Nat) (k : Int) (sa sb : ByteArray) (uv : Value) (n kp : Int) (g : Bool) (t2 t3 t6 t7 t18 t19 t20 t21 t22 t23 t24 t25 t26 t27 t28 t29 t30 t31 t32 t33 t34 t35 t36 t37 t38 t39 t40 t41 t42 t43 t44 t45 t46 t47 t48 t49 t50 t51 t52 t53 t54 t55 t56 t57 t58 t59 t60 t61 t62 t63 t64 t65 t66 t67 : Value) (ds : List Deferred) (l : Array Bool) (a : Act) (w : World) : Prop :=
  ∃ j0 j1 j2 j3 j4 j5 j6 j7 j8 j9 j10 : Bool, ∃ x0 x1 x2 x3 x4 x5 x6 x7 x8 x9 x10 : Value, l = #[j0, j1, j2, j3, j4, j5, j6, j7, j8, j9, j10, false] ∧ a = { tmps := #[.pointer (some ⟨r, 0, none⟩), .int .i64 k, t2, t3, .slice none 0 0, x10, t6, t7, x0, x1, x2, x3, x4, x5, x6, x7, x8, x9, t18, t19, t20, t21, t22, t23, t24, t25, t26, t27, t28, t29, t30, t31, t32, t33, t34, t35, t36, t37, t38, t39, t40, t41, t42, t43, t44, t45, t46, t47, t48, t49, t50, t51, t52, t53, t54, t55, t56, t57, t58, t59, t60, t61, t62, t63, t64, t65, t66, t67], defers := ds } ∧ Below w0.heap.size w0 w ∧
  (j0 = true → x0 = .pointer (some ⟨r, 0, none⟩)) ∧ (j1 = true → x1 = .pointer (some ⟨r, 0, none⟩)) ∧ (j2 = true → x2 = .pointer (some ⟨r, 0, none⟩)) ∧ (j3 = true → x3 = .string sa) ∧ (j4 = true → Cv w0.heap.size w x4 (sa)) ∧ (j5 = true → x5 = .pointer (some ⟨r, 0, none⟩)) ∧ (j6 = true → x6 = .pointer (some ⟨r, 0, none⟩)) ∧ (j7 = true → x7 = .pointer (some ⟨r, 1, none⟩)) ∧ (j8 = true → x8 = .string sb) ∧ (j9 = true → Cv w0.heap.size w x9 (sb)) ∧ (j10 = true → x10 = x4) ∧ (j1 = true → j0 = true) ∧ (j2 = true → j1 = true) ∧ (j3 = true → j2 = true) ∧ (j4 = true → j3 = true) ∧ (j6 = true → j5 = true) ∧ (j7 = true → j6 = true) ∧ (j8 = true → j7 = true) ∧ (j9 = true → j8 = true) ∧ (j10 = true → j0 = true ∧ j1 = true ∧ j2 = true ∧ j3 = true ∧ j4 = true) ∧ (j4 = true → j9 = true → Sep x4 x9)
set_option maxHeartbeats 16000000 in
theorem ra1_none (r : Nat) (k : Int) (sa sb : ByteArray) (uv : Value) (n kp : Int) (g : Bool) (w : World) {t2 t3 t6 t7 t18 t19 t20 t21 t22 t23 t24 t25 t26 t27 t28 t29 t30 t31 t32 t33 t34 t35 t36 t37 t38 t39 t40 t41 t42 t43 t44 t45 t46 t47 t48 t49 t50 t51 t52 t53 t54 t55 t56 t57 t58 t59 t60 t61 t62 t63 t64 t65 t66 t67 : Value} {ds : List Deferred} : ∀ l a w1, ra1I w r k sa sb uv n kp g t2 t3 t6 t7 t18 t19 t20 t21 t22 t23 t24 t25 t26 t27 t28 t29 t30 t31 t32 t33 t34 t35 t36 t37 t38 t39 t40 t41 t42 t43 t44 t45 t46 t47 t48 t49 t50 t51 t52 t53 t54 t55 t56 t57 t58 t59 t60 t61 t62 t63 t64 t65 t66 t67 ds l a w1 → Region.ready .any ra1O l = [] → left l = 1 := by
  simp only [ra1O, findR, Tryd.f62, Option.bind_some, Option.or, Option.getD, Nat.reduceEqDiff, if_true, if_false, reduceIte]
  rintro l a w1 hI hr
  obtain ⟨j0, j1, j2, j3, j4, j5, j6, j7, j8, j9, j10, x0, x1, x2, x3, x4, x5, x6, x7, x8, x9, x10, rfl, rfl, hB, h0, h1, h2, h3, h4, h5, h6, h7, h8, h9, h10, k1, k2, k3, k4, k6, k7, k8, k9, k10, z0⟩ := hI
  have hn := fun i => List.eq_nil_iff_forall_not_mem.1 hr i
  clear hr
  have d0 : j0 = true := by
    cases hj : j0
    · exact absurd (mem_ready.2 ⟨by simp [hj], _, rfl, by simp [Region.binds, hj]⟩) (hn 0)
    · rfl
  subst d0
  have d1 : j1 = true := by
    cases hj : j1
    · exact absurd (mem_ready.2 ⟨by simp [hj], _, rfl, by simp [Region.binds, hj]⟩) (hn 1)
    · rfl
  subst d1
  have d2 : j2 = true := by
    cases hj : j2
    · exact absurd (mem_ready.2 ⟨by simp [hj], _, rfl, by simp [Region.binds, hj]⟩) (hn 2)
    · rfl
  subst d2
  have d3 : j3 = true := by
    cases hj : j3
    · exact absurd (mem_ready.2 ⟨by simp [hj], _, rfl, by simp [Region.binds, hj]⟩) (hn 3)
    · rfl
  subst d3
  have d4 : j4 = true := by
    cases hj : j4
    · exact absurd (mem_ready.2 ⟨by simp [hj], _, rfl, by simp [Region.binds, hj]⟩) (hn 4)
    · rfl
  subst d4
  have d5 : j5 = true := by
    cases hj : j5
    · exact absurd (mem_ready.2 ⟨by simp [hj], _, rfl, by simp [Region.binds, hj]⟩) (hn 5)
    · rfl
  subst d5
  have d6 : j6 = true := by
    cases hj : j6
    · exact absurd (mem_ready.2 ⟨by simp [hj], _, rfl, by simp [Region.binds, hj]⟩) (hn 6)
    · rfl
  subst d6
  have d7 : j7 = true := by
    cases hj : j7
    · exact absurd (mem_ready.2 ⟨by simp [hj], _, rfl, by simp [Region.binds, hj]⟩) (hn 7)
    · rfl
  subst d7
  have d8 : j8 = true := by
    cases hj : j8
    · exact absurd (mem_ready.2 ⟨by simp [hj], _, rfl, by simp [Region.binds, hj]⟩) (hn 8)
    · rfl
  subst d8
  have d9 : j9 = true := by
    cases hj : j9
    · exact absurd (mem_ready.2 ⟨by simp [hj], _, rfl, by simp [Region.binds, hj]⟩) (hn 9)
    · rfl
  subst d9
  have d10 : j10 = true := by
    cases hj : j10
    · exact absurd (mem_ready.2 ⟨by simp [hj], _, rfl, by simp [Region.binds, hj]⟩) (hn 10)
    · rfl
  subst d10
  rfl
set_option maxHeartbeats 16000000 in
theorem ra1_steps (r : Nat) (k : Int) (sa sb : ByteArray) (uv : Value) (n kp : Int) (g : Bool) (w : World) (KR : Bk 61 w r #[.string sa, .string sb, uv, .int .i64 n, .int .i64 kp, .bool g]) (HS : sa.size ≤ maxLen ∧ sb.size ≤ maxLen)
    {t2 t3 t6 t7 t18 t19 t20 t21 t22 t23 t24 t25 t26 t27 t28 t29 t30 t31 t32 t33 t34 t35 t36 t37 t38 t39 t40 t41 t42 t43 t44 t45 t46 t47 t48 t49 t50 t51 t52 t53 t54 t55 t56 t57 t58 t59 t60 t61 t62 t63 t64 t65 t66 t67 : Value} {ds : List Deferred} {Q : Exit → Act → World → Prop} :
    ∀ l a w', ra1I w r k sa sb uv n kp g t2 t3 t6 t7 t18 t19 t20 t21 t22 t23 t24 t25 t26 t27 t28 t29 t30 t31 t32 t33 t34 t35 t36 t37 t38 t39 t40 t41 t42 t43 t44 t45 t46 t47 t48 t49 t50 t51 t52 t53 t54 t55 t56 t57 t58 t59 t60 t61 t62 t63 t64 t65 t66 t67 ds l a w' → left l ≠ 1 → ∀ i ∈ Region.ready .any ra1O l, wpOp Tryd.prog ra1O Q i (fun a' w'' => ra1I w r k sa sb uv n kp g t2 t3 t6 t7 t18 t19 t20 t21 t22 t23 t24 t25 t26 t27 t28 t29 t30 t31 t32 t33 t34 t35 t36 t37 t38 t39 t40 t41 t42 t43 t44 t45 t46 t47 t48 t49 t50 t51 t52 t53 t54 t55 t56 t57 t58 t59 t60 t61 t62 t63 t64 t65 t66 t67 ds (l.setIfInBounds i true) a' w'') a w' := by
  simp only [ra1O, findR, Tryd.f62, Option.bind_some, Option.or, Option.getD, Nat.reduceEqDiff, if_true, if_false, reduceIte]
  rintro l a w' hI hlt i hi
  rw [mem_ready] at hi
  obtain ⟨hu, oo, ho, hd⟩ := hi
  have hin : i < 12 := by
    have := (Array.getElem?_eq_some_iff.1 ho).1
    simpa using this
  have hcase : i = 0 ∨ i = 1 ∨ i = 2 ∨ i = 3 ∨ i = 4 ∨ i = 5 ∨ i = 6 ∨ i = 7 ∨ i = 8 ∨ i = 9 ∨ i = 10 ∨ i = 11 := by omega
  obtain ⟨j0, j1, j2, j3, j4, j5, j6, j7, j8, j9, j10, x0, x1, x2, x3, x4, x5, x6, x7, x8, x9, x10, rfl, rfl, hB, h0, h1, h2, h3, h4, h5, h6, h7, h8, h9, h10, k1, k2, k3, k4, k6, k7, k8, k9, k10, z0⟩ := hI
  replace h0 := Lib.hid h0
  replace h1 := Lib.hid h1
  replace h2 := Lib.hid h2
  replace h3 := Lib.hid h3
  replace h4 := Lib.hid h4
  replace h5 := Lib.hid h5
  replace h6 := Lib.hid h6
  replace h7 := Lib.hid h7
  replace h8 := Lib.hid h8
  replace h9 := Lib.hid h9
  replace h10 := Lib.hid h10
  replace k1 := Lib.hid k1
  replace k2 := Lib.hid k2
  replace k3 := Lib.hid k3
  replace k4 := Lib.hid k4
  replace k6 := Lib.hid k6
  replace k7 := Lib.hid k7
  replace k8 := Lib.hid k8
  replace k9 := Lib.hid k9
  replace k10 := Lib.hid k10
  replace z0 := Lib.hid z0
  rcases hcase with rfl | rfl | rfl | rfl | rfl | rfl | rfl | rfl | rfl | rfl | rfl | rfl
  · obtain rfl := Option.some.inj ho
    simp [Region.binds] at hu hd
    clear hd hlt
    refine wpOp_of rfl rfl ?_
    go_simp
    unfold ra1I
    exact ⟨true, j1, j2, j3, j4, j5, j6, j7, j8, j9, j10, _, x1, x2, x3, x4, x5, x6, x7, x8, x9, x10, rfl, rfl, hB, fun _ => rfl, h1.out, h2.out, h3.out, h4.out, h5.out, h6.out, h7.out, h8.out, h9.out, h10.out, fun hj => absurd ((k1.out hj)) (by simp [hu]), k2.out, k3.out, k4.out, k6.out, k7.out, k8.out, k9.out, fun hj => absurd ((k10.out hj).1) (by simp [hu]), z0.out⟩
  · obtain rfl := Option.some.inj ho
    simp [Region.binds] at hu hd
    have d0 : j0 = true := by simp [hd]
    have e0 := h0.out d0
    subst e0
    subst d0
    clear hd hlt
    refine wpOp_of rfl rfl ?_
    go_simp
    unfold ra1I
    exact ⟨true, true, j2, j3, j4, j5, j6, j7, j8, j9, j10, _, _, x2, x3, x4, x5, x6, x7, x8, x9, x10, rfl, rfl, hB, h0.out, fun _ => rfl, h2.out, h3.out, h4.out, h5.out, h6.out, h7.out, h8.out, h9.out, h10.out, fun _ => rfl, fun hj => absurd ((k2.out hj)) (by simp [hu]), k3.out, k4.out, k6.out, k7.out, k8.out, k9.out, fun hj => absurd ((k10.out hj).2.1) (by simp [hu]), z0.out⟩
  · obtain rfl := Option.some.inj ho
    simp [Region.binds] at hu hd
    have d1 : j1 = true := by simp [hd]
    have e1 := h1.out d1
    subst e1
    subst d1
    clear hd hlt
    refine wpOp_of rfl rfl ?_
    go_simp
    unfold ra1I
    exact ⟨j0, true, true, j3, j4, j5, j6, j7, j8, j9, j10, x0, _, _, x3, x4, x5, x6, x7, x8, x9, x10, rfl, rfl, hB, h0.out, h1.out, fun _ => rfl, h3.out, h4.out, h5.out, h6.out, h7.out, h8.out, h9.out, h10.out, k1.out, fun _ => rfl, fun hj => absurd ((k3.out hj)) (by simp [hu]), k4.out, k6.out, k7.out, k8.out, k9.out, fun hj => absurd ((k10.out hj).2.2.1) (by simp [hu]), z0.out⟩
  · obtain rfl := Option.some.inj ho
    simp [Region.binds] at hu hd
    have d2 : j2 = true := by simp [hd]
    have e2 := h2.out d2
    subst e2
    subst d2
    clear hd hlt
    refine wpOp_of rfl rfl ?_
    have i0 : w'.cell? ⟨r, 0, none⟩ = some (.string sa) := (KR.below hB).cell 0
    go_simp
    unfold ra1I
    exact ⟨j0, j1, true, true, j4, j5, j6, j7, j8, j9, j10, x0, x1, _, _, x4, x5, x6, x7, x8, x9, x10, rfl, rfl, hB, h0.out, h1.out, h2.out, fun _ => rfl, h4.out, h5.out, h6.out, h7.out, h8.out, h9.out, h10.out, k1.out, k2.out, fun _ => rfl, fun hj => absurd ((k4.out hj)) (by simp [hu]), k6.out, k7.out, k8.out, k9.out, fun hj => absurd ((k10.out hj).2.2.2.1) (by simp [hu]), z0.out⟩
  · obtain rfl := Option.some.inj ho
    simp [Region.binds] at hu hd
    have d3 : j3 = true := by simp [hd]
    have e3 := h3.out d3
    subst e3
    subst d3
    clear hd hlt
    refine wpOp_of rfl rfl ?_
    obtain ⟨cap, w2, hrun, hby, hb2⟩ := conv_new (sa) (HS.1) w'
    have hB2 := hB.trans (hb2.mono hB.size)
    have hs0 := hB.size
    go_simp
    unfold ra1I
    exact ⟨j0, j1, j2, true, true, j5, j6, j7, j8, j9, j10, x0, x1, x2, _, _, x5, x6, x7, x8, x9, x10, rfl, rfl, hB2, h0.out, h1.out, h2.out, h3.out, fun _ => ⟨_, _, rfl, hby, hs0⟩, h5.out, h6.out, h7.out, h8.out, fun hj => (h9.out hj).below hb2, fun hj => absurd ((k10.out hj).2.2.2.2) (by simp [hu]), k1.out, k2.out, k3.out, fun _ => rfl, k6.out, k7.out, k8.out, k9.out, fun hj => absurd ((k10.out hj).2.2.2.2) (by simp [hu]), fun _ hj => sep_new1 (h9.out hj)⟩
  · obtain rfl := Option.some.inj ho
    simp [Region.binds] at hu hd
    clear hd hlt
    refine wpOp_of rfl rfl ?_
    go_simp
    unfold ra1I
    exact ⟨j0, j1, j2, j3, j4, true, j6, j7, j8, j9, j10, x0, x1, x2, x3, x4, _, x6, x7, x8, x9, x10, rfl, rfl, hB, h0.out, h1.out, h2.out, h3.out, h4.out, fun _ => rfl, h6.out, h7.out, h8.out, h9.out, h10.out, k1.out, k2.out, k3.out, k4.out, fun hj => absurd ((k6.out hj)) (by simp [hu]), k7.out, k8.out, k9.out, k10.out, z0.out⟩
  · obtain rfl := Option.some.inj ho
    simp [Region.binds] at hu hd
    have d5 : j5 = true := by simp [hd]
    have e5 := h5.out d5
    subst e5
    subst d5
    clear hd hlt
    refine wpOp_of rfl rfl ?_
    go_simp
    unfold ra1I
    exact ⟨j0, j1, j2, j3, j4, true, true, j7, j8, j9, j10, x0, x1, x2, x3, x4, _, _, x7, x8, x9, x10, rfl, rfl, hB, h0.out, h1.out, h2.out, h3.out, h4.out, h5.out, fun _ => rfl, h7.out, h8.out, h9.out, h10.out, k1.out, k2.out, k3.out, k4.out, fun _ => rfl, fun hj => absurd ((k7.out hj)) (by simp [hu]), k8.out, k9.out, k10.out, z0.out⟩
  · obtain rfl := Option.some.inj ho
    simp [Region.binds] at hu hd
    have d6 : j6 = true := by simp [hd]
    have e6 := h6.out d6
    subst e6
    subst d6
    clear hd hlt
    refine wpOp_of rfl rfl ?_
    go_simp
    unfold ra1I
    exact ⟨j0, j1, j2, j3, j4, j5, true, true, j8, j9, j10, x0, x1, x2, x3, x4, x5, _, _, x8, x9, x10, rfl, rfl, hB, h0.out, h1.out, h2.out, h3.out, h4.out, h5.out, h6.out, fun _ => rfl, h8.out, h9.out, h10.out, k1.out, k2.out, k3.out, k4.out, k6.out, fun _ => rfl, fun hj => absurd ((k8.out hj)) (by simp [hu]), k9.out, k10.out, z0.out⟩
  · obtain rfl := Option.some.inj ho
    simp [Region.binds] at hu hd
    have d7 : j7 = true := by simp [hd]
    have e7 := h7.out d7
    subst e7
    subst d7
    clear hd hlt
    refine wpOp_of rfl rfl ?_
    have i1 : w'.cell? ⟨r, 1, none⟩ = some (.string sb) := (KR.below hB).cell 1
    go_simp
    unfold ra1I
    exact ⟨j0, j1, j2, j3, j4, j5, j6, true, true, j9, j10, x0, x1, x2, x3, x4, x5, x6, _, _, x9, x10, rfl, rfl, hB, h0.out, h1.out, h2.out, h3.out, h4.out, h5.out, h6.out, h7.out, fun _ => rfl, h9.out, h10.out, k1.out, k2.out, k3.out, k4.out, k6.out, k7.out, fun _ => rfl, fun hj => absurd ((k9.out hj)) (by simp [hu]), k10.out, z0.out⟩
  · obtain rfl := Option.some.inj ho
    simp [Region.binds] at hu hd
    have d8 : j8 = true := by simp [hd]
    have e8 := h8.out d8
    subst e8
    subst d8
    clear hd hlt
    refine wpOp_of rfl rfl ?_
    obtain ⟨cap, w2, hrun, hby, hb2⟩ := conv_new (sb) (HS.2) w'
    have hB2 := hB.trans (hb2.mono hB.size)
    have hs0 := hB.size
    go_simp
    unfold ra1I
    exact ⟨j0, j1, j2, j3, j4, j5, j6, j7, true, true, j10, x0, x1, x2, x3, x4, x5, x6, x7, _, _, x10, rfl, rfl, hB2, h0.out, h1.out, h2.out, h3.out, fun hj => (h4.out hj).below hb2, h5.out, h6.out, h7.out, h8.out, fun _ => ⟨_, _, rfl, hby, hs0⟩, h10.out, k1.out, k2.out, k3.out, k4.out, k6.out, k7.out, k8.out, fun _ => rfl, k10.out, fun hi _ => sep_new2 (h4.out hi)⟩
  · obtain rfl := Option.some.inj ho
    simp [Region.binds] at hu hd
    have d0 : j0 = true := by simp [hd]
    have d1 : j1 = true := by simp [hd]
    have d2 : j2 = true := by simp [hd]
    have d3 : j3 = true := by simp [hd]
    have d4 : j4 = true := by simp [hd]
    have e0 := h0.out d0
    subst e0
    have e1 := h1.out d1
    subst e1
    have e2 := h2.out d2
    subst e2
    have e3 := h3.out d3
    subst e3
    subst d0
    subst d1
    subst d2
    subst d3
    subst d4
    clear hd hlt
    refine wpOp_of rfl rfl ?_
    go_simp
    unfold ra1I
    exact ⟨true, true, true, true, true, j5, j6, j7, j8, j9, true, _, _, _, _, x4, x5, x6, x7, x8, x9, _, rfl, rfl, hB, h0.out, h1.out, h2.out, h3.out, h4.out, h5.out, h6.out, h7.out, h8.out, h9.out, fun _ => rfl, k1.out, k2.out, k3.out, k4.out, k6.out, k7.out, k8.out, k9.out, fun _ => ⟨rfl, rfl, rfl, rfl, rfl⟩, z0.out⟩
  · obtain rfl := Option.some.inj ho
    simp [Region.binds] at hu hd
    exfalso
    have d0 : j0 = true := by simp [hd]
    have d1 : j1 = true := by simp [hd]
    have d2 : j2 = true := by simp [hd]
    have d3 : j3 = true := by simp [hd]
    have d4 : j4 = true := by simp [hd]
    have d5 : j5 = true := by simp [hd]
    have d6 : j6 = true := by simp [hd]
    have d7 : j7 = true := by simp [hd]
    have d8 : j8 = true := by simp [hd]
    have d9 : j9 = true := by simp [hd]
    have d10 : j10 = true := by simp [hd]
    subst d0
    subst d1
    subst d2
    subst d3
    subst d4
    subst d5
    subst d6
    subst d7
    subst d8
    subst d9
    subst d10
    exact hlt rfl
set_option maxHeartbeats 16000000 in
theorem ra1 (r : Nat) (k : Int) (sa sb : ByteArray) (uv : Value) (n kp : Int) (g : Bool) (w : World) (KR : Bk 61 w r #[.string sa, .string sb, uv, .int .i64 n, .int .i64 kp, .bool g]) (HS : sa.size ≤ maxLen ∧ sb.size ≤ maxLen) {t2 t3 t5 t6 t7 t8 t9 t10 t11 t12 t13 t14 t15 t16 t17 t18 t19 t20 t21 t22 t23 t24 t25 t26 t27 t28 t29 t30 t31 t32 t33 t34 t35 t36 t37 t38 t39 t40 t41 t42 t43 t44 t45 t46 t47 t48 t49 t50 t51 t52 t53 t54 t55 t56 t57 t58 t59 t60 t61 t62 t63 t64 t65 t66 t67 : Value} {ds : List Deferred} {Q : Exit → Act → World → Prop}
    (h : ∀ (y4 y9 : Value) (w1 : World), Below w.heap.size w w1 → Cv w.heap.size w1 y4 (sa) → Cv w.heap.size w1 y9 (sb) → Sep y4 y9 → wpList Tryd.prog ra1O Q (ra1O.toList.drop 11) { tmps := #[.pointer (some ⟨r, 0, none⟩), .int .i64 k, t2, t3, .slice none 0 0, y4, t6, t7, .pointer (some ⟨r, 0, none⟩), .pointer (some ⟨r, 0, none⟩), .pointer (some ⟨r, 0, none⟩), .string sa, y4, .pointer (some ⟨r, 0, none⟩), .pointer (some ⟨r, 0, none⟩), .pointer (some ⟨r, 1, none⟩), .string sb, y9, t18, t19, t20, t21, t22, t23, t24, t25, t26, t27, t28, t29, t30, t31, t32, t33, t34, t35, t36, t37, t38, t39, t40, t41, t42, t43, t44, t45, t46, t47, t48, t49, t50, t51, t52, t53, t54, t55, t56, t57, t58, t59, t60, t61, t62, t63, t64, t65, t66, t67], defers := ds } w1) :
    (Code.region 1 ra1O true).wp Tryd.prog Q { tmps := #[.pointer (some ⟨r, 0, none⟩), .int .i64 k, t2, t3, .slice none 0 0, t5, t6, t7, t8, t9, t10, t11, t12, t13, t14, t15, t16, t17, t18, t19, t20, t21, t22, t23, t24, t25, t26, t27, t28, t29, t30, t31, t32, t33, t34, t35, t36, t37, t38, t39, t40, t41, t42, t43, t44, t45, t46, t47, t48, t49, t50, t51, t52, t53, t54, t55, t56, t57, t58, t59, t60, t61, t62, t63, t64, t65, t66, t67], defers := ds } w := by
  have hsz : ra1O.size = 12 := by kernel_rfl
  refine wp_region_any (show Tryd.prog.follows .mixedOrders = true from by kernel_rfl) ?_
  rw [hsz]
  refine wpAny_inv2 (I := ra1I w r k sa sb uv n kp g t2 t3 t6 t7 t18 t19 t20 t21 t22 t23 t24 t25 t26 t27 t28 t29 t30 t31 t32 t33 t34 t35 t36 t37 t38 t39 t40 t41 t42 t43 t44 t45 t46 t47 t48 t49 t50 t51 t52 t53 t54 t55 t56 t57 t58 t59 t60 t61 t62 t63 t64 t65 t66 t67 ds) (g := 1) (ra1_none r k sa sb uv n kp g w) (ra1_steps r k sa sb uv n kp g w KR HS) (fun l a w' hI hl => ?_) 12 _ _ _ (by decide) (by decide) ?_
  · obtain ⟨j0, j1, j2, j3, j4, j5, j6, j7, j8, j9, j10, x0, x1, x2, x3, x4, x5, x6, x7, x8, x9, x10, rfl, rfl, hB, h0, h1, h2, h3, h4, h5, h6, h7, h8, h9, h10, k1, k2, k3, k4, k6, k7, k8, k9, k10, z0⟩ := hI
    obtain ⟨d0, d1, d2, d3, d4, d5, d6, d7, d8, d9, d10⟩ := left_all11_1 hl
    subst d0
    subst d1
    subst d2
    subst d3
    subst d4
    subst d5
    subst d6
    subst d7
    subst d8
    subst d9
    subst d10
    obtain rfl := h0 rfl
    obtain rfl := h1 rfl
    obtain rfl := h2 rfl
    obtain rfl := h3 rfl
    obtain rfl := h5 rfl
    obtain rfl := h6 rfl
    obtain rfl := h7 rfl
    obtain rfl := h8 rfl
    obtain rfl := h10 rfl
    have hw := h _ _ _ hB (h4 rfl) (h9 rfl) (z0 rfl rfl)
    have hBB : Region.seqB .any ra1O (ra1O.toList.drop 11).length 11 #[true, true, true, true, true, true, true, true, true, true, true, false] = true := by kernel_rfl
    have hlen : (ra1O.toList.drop 11).length = 1 := by kernel_rfl
    have := wpAny_of_seq (md := .any) (ra1O.toList.drop 11) 11 _ _ _ (fun j => by simp [List.getElem?_drop]) hBB hw
    rw [hlen] at this
    exact this
  · exact ⟨false, false, false, false, false, false, false, false, false, false, false, t8, t9, t10, t11, t12, t13, t14, t15, t16, t17, t5, rfl, rfl, ⟨rfl, rfl, rfl, Nat.le_refl _, fun _ _ => rfl⟩, (fun h => by cases h), (fun h => by cases h), (fun h => by cases h), (fun h => by cases h), (fun h => by cases h), (fun h => by cases h), (fun h => by cases h), (fun h => by cases h), (fun h => by cases h), (fun h => by cases h), (fun h => by cases h), (fun h => by cases h), (fun h => by cases h), (fun h => by cases h), (fun h => by cases h), (fun h => by cases h), (fun h => by cases h), (fun h => by cases h), (fun h => by cases h), (fun h => by cases h), (fun h => by cases h)⟩
end Go.Proofs.YtmoihgniglomiaaDoor
