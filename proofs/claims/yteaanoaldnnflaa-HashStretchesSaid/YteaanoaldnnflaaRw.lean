/- Rows of bytes of the call's own, two side by side: what an append to one leaves of the other. Condition: at most 2^47 bytes. -/
import Derived.Test.YteaanoaldnnflaaS
import Derived.Deep.AppendLies
set_option linter.unusedVariables false
set_option linter.unusedSimpArgs false
namespace Go.Proofs.Yteaanoaldnnflaa
open Go.RowKit Go.Sort

/-- v is a row of bytes of the call's own, in blocks from B on -/
def Rw (B : Nat) (v : Value) (l : List UInt8) (w : World) : Prop := w.ownsRow B 5 1 v l.length (Lib.byteCells l)
theorem Rw.snoc {B : Nat} {v : Value} {l : List UInt8} {w : World} {c : UInt8} (h : w.ownsRow B 5 1 v (l.length + 1) (Lib.byteCells l ++ [.int .u8 c.toNat])) : Rw B v (l ++ [c]) w := by
  have e : Lib.byteCells (l ++ [c]) = Lib.byteCells l ++ [.int .u8 c.toNat] := by rw [Lib.byteCells_append]; rfl
  unfold Rw
  rw [e]
  simpa using h
theorem Rw.conv {B : Nat} {v : Value} {l : List UInt8} {w : World} (h : Rw B v l w) : (convert 33 9 v).run Try.prog w = .ok (.string ⟨l.toArray⟩) w := by
  rcases h.2 with ⟨rfl, h0⟩ | ⟨g, cap, cur, rfl, hg, hh, _⟩
  · obtain rfl : l = [] := List.eq_nil_of_length_eq_zero h0
    exact Lib.run_convert_nil_bytes w 33 9 5 _ Try.underlying33 Try.underlying5 Try.underlying9
  · refine run_convert_bytes_back w 33 9 5 _ cap l Try.underlying33 Try.underlying5 Try.underlying9 (fun j hj => ?_)
    exact World.ownsRow.cells h (g := g) rfl j _ (by simp [Lib.byteCells, hj])
theorem Rw.keep {B : Nat} {v : Value} {l : List UInt8} {w w' : World} (h : Rw B v l w) (hb : ∀ g, v.ownBlock = some g → g < w.heap.size → w'.heap[g]? = w.heap[g]?) : Rw B v l w' := by
  refine ⟨h.1, ?_⟩
  rcases h.2 with hn | ⟨g, cap, cur, hv, hg, hh, rest⟩
  · exact .inl hn
  · exact .inr ⟨g, cap, cur, hv, hg, (hb g (by rw [hv]; rfl) (blk_lt hh)).trans hh, rest⟩
theorem Rw.below {B : Nat} {v : Value} {l : List UInt8} {w w' : World} (h : Rw B v l w) (hb : Below w.heap.size w w') : Rw B v l w' := h.keep fun g _ hg => hb.block g hg
theorem Rw.head {B : Nat} {v : Value} {x : UInt8} {l : List UInt8} {w : World} (h : Rw B v (x :: l) w) : ∃ g, v.ownBlock = some g ∧ g < w.heap.size ∧ w.cell? ⟨g, 0, none⟩ = some (.int .u8 x.toNat) := by
  rcases h.2 with ⟨rfl, h0⟩ | ⟨g, cap, cur, rfl, hg, hh, _⟩
  · simp at h0
  · exact ⟨g, rfl, blk_lt hh, World.ownsRow.cells h (g := g) rfl 0 _ (by simp [Lib.byteCells])⟩

/-- what lies at a row's first place: its first byte, or nothing -/
def Fst (v : Value) (l : List UInt8) (w : World) : Prop := l = [] → ∀ g, v.ownBlock = some g → g < w.heap.size ∧ w.cell? ⟨g, 0, none⟩ = none
/-- two rows in blocks of their own -/
structure Two (W w : World) (va vb : Value) (la lb : List UInt8) : Prop where
  a : Rw W.heap.size va la w
  b : Rw W.heap.size vb lb w
  apart : ∀ g, va.ownBlock = some g → vb.ownBlock ≠ some g
  fa : Fst va la w
  fb : Fst vb lb w
  below : Below W.heap.size W w
theorem Two.swap {W w : World} {va vb : Value} {la lb : List UInt8} (h : Two W w va vb la lb) : Two W w vb va lb la :=
  ⟨h.b, h.a, fun g hg hg' => h.apart g hg' hg, h.fb, h.fa, h.below⟩
theorem Rw.own_lt {B : Nat} {v : Value} {l : List UInt8} {w : World} (h : Rw B v l w) {g : Nat} (hg : v.ownBlock = some g) : g < w.heap.size := by
  rcases h.2 with ⟨rfl, h0⟩ | ⟨g', cap, cur, rfl, hg', hh, _⟩
  · cases hg
  · cases hg; exact blk_lt hh
theorem Two.on {W w w' : World} {va vb : Value} {la lb : List UInt8} (h : Two W w va vb la lb) (b : Below w.heap.size w w') : Two W w' va vb la lb := by
  refine ⟨h.a.below b, h.b.below b, h.apart, fun e g hg => ?_, fun e g hg => ?_, h.below.trans (b.mono h.below.size)⟩
  · obtain ⟨h1, h2⟩ := h.fa e g hg
    exact ⟨Nat.lt_of_lt_of_le h1 b.size, (b.cell (p := ⟨g, 0, none⟩) h1).trans h2⟩
  · obtain ⟨h1, h2⟩ := h.fb e g hg
    exact ⟨Nat.lt_of_lt_of_le h1 b.size, (b.cell (p := ⟨g, 0, none⟩) h1).trans h2⟩

/-- 'a = append(a, c)', where another row lies beside: its first byte is another one, or it is empty -/
theorem app_two {ops : Array Oper} {rest : List Oper} {o : Oper} {a : Act} {Q : Exit → Act → World → Prop} {w W : World} {va vb : Value} {la lb : List UInt8} (n : Int) (c : UInt8) (hn : n = (c.toNat : Int)) (s x : Operand) (hgd : o.guard = none)
    (ho : o.op = .call { callee := .builtin .append, args := #[s, x], argTypes := #[33, 33] }) (hs : a.eval s = va) (hx : a.eval x = .slice (some ⟨w.heap.size, 0, none⟩) 1 1)
    (hT : Two W w va vb la lb) (hlen : la.length ≤ 281474976710) (hd : ∀ p q, (la ++ [c]).head? = some p → lb.head? = some q → p ≠ q)
    (h : ∀ v' w', Two W w' v' vb (la ++ [c]) lb → wpList Try.prog ops Q rest (a.put o.dst v') w') : wpList Try.prog ops Q (o :: rest) a (w.alloc (.cells #[.int .u8 n] 5)) := by
  subst hn
  obtain ⟨i0, hi, hz0, hz1, hz2⟩ := info_parts infoByte
  have hT' : Two W (w.alloc (.cells #[.int .u8 (c.toNat : Int)] 5)) va vb la lb := hT.on ((Below.refl _ _).alloc (Nat.le_refl _) _)
  have hsz := hT.below.size
  refine wpList_append_own _ hgd s x 33 ho W.heap.size 5 i0 (.int .u8 0) 1 1 Try.underlying33 hi hz0 hz1 hz2 rfl (by decide) va la.length _ hs hT'.a ⟨w.heap.size, 0, none⟩ 1 1 [.int .u8 c.toNat] hx rfl (World.news_of_block (Go.heap_alloc_new w _)) (by simp [Value.oneCell']) (by unfold maxLen; omega) (by omega) (by simp; omega) ?_
  intro v' w' h1 h2 _
  have hR := Rw.snoc h1
  have hkb : ∀ g, vb.ownBlock = some g → g < (w.alloc (.cells #[.int .u8 (c.toNat : Int)] 5)).heap.size → w'.heap[g]? = (w.alloc (.cells #[.int .u8 (c.toNat : Int)] 5)).heap[g]? := fun g hg hlt => h2.block g hlt (fun e => hT.apart g e.symm hg)
  have hRb := hT'.b.keep hkb
  have hbl := hT'.below.grown h2 (by simp; omega) (fun g hk => (World.ownsRow.lt hT'.a g hk).1)
  have hfb : Fst vb lb w' := fun e g hg => by
    obtain ⟨q1, q2⟩ := hT'.fb e g hg
    exact ⟨Nat.lt_of_lt_of_le q1 (by have := h2.size; omega), (World.cell?_of_block (w := (w.alloc (.cells #[.int .u8 (c.toNat : Int)] 5))) (w' := w') (a := ⟨g, 0, none⟩) (hkb g hg q1)).trans q2⟩
  refine h v' w' ⟨hR, hRb, fun g hg hg' => ?_, fun e => by simp at e, hfb, hbl⟩
  obtain ⟨p, t, hpt⟩ : ∃ p t, la ++ [c] = p :: t := by cases la <;> simp
  rw [hpt] at hR
  obtain ⟨g1, e1, e2, e3⟩ := hR.head
  rw [hg] at e1
  cases e1
  cases hl : lb with
  | nil =>
    obtain ⟨_, q2⟩ := hfb hl g hg'
    rw [q2] at e3; cases e3
  | cons q t' =>
    rw [hl] at hRb
    obtain ⟨g2, f1, f2, f3⟩ := hRb.head
    rw [hg'] at f1
    cases f1
    rw [e3] at f3
    have := hd p q (by rw [hpt]; rfl) (by rw [hl]; rfl)
    simp only [Option.some.injEq, Value.int.injEq, true_and] at f3
    exact this (UInt8.toNat_inj.1 (by omega))
end Go.Proofs.Yteaanoaldnnflaa
