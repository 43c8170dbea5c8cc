/- What a call on a log leaves of what lies beside it; the states that may be told. No condition but the log's own. -/
import Derived.Test.YtmoihgniglomiaaDoorZKh
import Derived.Test.YtmoihgniglomiaaDoorZKc
import Derived.Test.YtmoihgniglomiaaDoorZKd
set_option linter.unusedVariables false
set_option linter.unusedSimpArgs false
set_option maxRecDepth 100000
namespace Go.Proofs.YtmoihgniglomiaaDoor
open Go.RowKit Go.Sort

theorem mut_head {w w' : World} {p : Fp} {S : St} (hd : Dk w' p S) (ho : Only [p.b] w w') : Mut w p w' p S :=
  ⟨hd, rfl, ho.mono (fun x hx => .inl (by simp at hx; subst hx; simp [Fp.own])), fun k hk => .inl hk⟩
theorem Lk.only {w w' : World} {b : Nat} {p : Fp} {S : St} {l : Wlg} (h : Lk w b p S l) {L : List Nat} (ho : Only L w w') (hb : b ∉ L) (hp : ∀ k ∈ p.own, k ∉ L) : Lk w' b p S l :=
  ⟨h.blk.only ho hb, h.dk.only ho hp, h.ne, h.zb, h.zo, h.ff, h.gg⟩
/-- blocks of texts, of calls, of states and of lives stay as they are -/
def Kin (w w' : World) : Prop := ∀ (g : Nat) (cs : Array Value) (t : TypeId) (z : Nat × Nat), w.heap[g]? = some (.cells cs t z) → (t = 9 ∨ t = 46 ∨ t = 67 ∨ t = 69) → w'.heap[g]? = w.heap[g]?
theorem Kin.trans {a b c : World} (h : Kin a b) (k : Kin b c) : Kin a c := fun g cs t z hg ht => by
  have h1 := h g cs t z hg ht
  exact (k g cs t z (h1.trans hg) ht).trans h1
theorem Kin.below {w w' : World} (h : Below w.heap.size w w') : Kin w w' := fun g cs t z hg ht => h.block g (blk_lt hg)
theorem Kin.rowS {w w' : World} (k : Kin w w') {v : Value} {l : List Bs} (h : RowS w v l) : RowS w' v l := h.kept fun g e => by
  obtain ⟨_, ⟨hv, _⟩ | ⟨q, cap, cur, hv, _, hg, _⟩⟩ := h
  · rw [hv] at e; cases e
  · rw [hv] at e
    simp only [Value.ownBlock, Option.some.injEq] at e
    subst e
    exact k _ _ _ _ hg (.inl rfl)
theorem Kin.ss {w w' : World} (k : Kin w w') {v : Value} {ss : List Stt} (h : SS w v ss) : SS w' v ss := by
  obtain ⟨rvs, h1, h2, h3⟩ := h
  refine ⟨rvs, h1, owns2_of h2 fun g e _ => ?_, fun i s hi => ?_⟩
  · obtain ⟨_, ⟨hv, _⟩ | ⟨q, cap, cur, hv, _, hg, _⟩⟩ := h2
    · rw [hv] at e; cases e
    · rw [hv] at e
      simp only [Value.ownBlock, Option.some.injEq] at e
      subst e
      exact k _ _ _ _ hg (.inr (.inr (.inl rfl)))
  · obtain ⟨rv, e, r⟩ := h3 i s hi
    exact ⟨rv, e, k.rowS r⟩
theorem Kin.bk {w w' : World} (k : Kin w w') {g : Nat} {t : TypeId} {cs : Array Value} (h : Bk t w g cs) (ht : t = 9 ∨ t = 46 ∨ t = 67 ∨ t = 69) : Bk t w' g cs := (k _ _ _ _ h ht).trans h
theorem Dk.typ {w : World} {p : Fp} {S : St} (h : Dk w p S) : ∀ g ∈ p.own, ∃ cs t z, w.heap[g]? = some (.cells cs t z) ∧ (t = 93 ∨ t = 5 ∨ t = 105) := by
  intro g hg
  simp only [Fp.own, List.mem_cons, Option.mem_toList] at hg
  rcases hg with rfl | rfl | rfl | hg
  · exact ⟨_, _, _, h.blk, .inl rfl⟩
  · obtain ⟨cur, fz, h1, _⟩ := h.r0
    exact ⟨_, _, _, h1, .inr (.inl rfl)⟩
  · obtain ⟨cur, fz, h1, _⟩ := h.r1
    exact ⟨_, _, _, h1, .inr (.inl rfl)⟩
  · obtain ⟨_, ⟨hv, _⟩ | ⟨q, cap, cur, hv, _, hq, _⟩⟩ := h.rr
    · rw [hv] at hg; cases hg
    · rw [hv] at hg
      simp only [Value.ownBlock, Option.some.injEq] at hg
      subst hg
      exact ⟨_, _, _, hq, .inr (.inr rfl)⟩
theorem Dk.far {w : World} {p : Fp} {S : St} (h : Dk w p S) {g : Nat} {cs : Array Value} {t : TypeId} {z : Nat × Nat} (hg : w.heap[g]? = some (.cells cs t z)) (ht : t = 9 ∨ t = 46 ∨ t = 67 ∨ t = 69) : g ∉ p.own := fun hx => by
  obtain ⟨cs', t', z', h1, h2⟩ := h.typ g hx
  have e := hg.symm.trans h1
  simp only [Option.some.injEq, Obj.cells.injEq] at e
  obtain ⟨_, rfl, _⟩ := e
  rcases ht with rfl | rfl | rfl | rfl <;> simp at h2
theorem Mut.kin {w w' : World} {p p' : Fp} {S S' : St} (h : Dk w p S) (m : Mut w p w' p' S') : Kin w w' := fun g cs t z hg ht => m.2.2.1.block g (blk_lt hg) (h.far hg ht)
theorem Lk.far {w : World} {b : Nat} {p : Fp} {S : St} {l : Wlg} (h : Lk w b p S l) {g : Nat} {cs : Array Value} {t : TypeId} {z : Nat × Nat} (hg : w.heap[g]? = some (.cells cs t z)) (ht : t = 9 ∨ t = 46 ∨ t = 67 ∨ t = 69) : g ≠ b ∧ g ∉ p.own :=
  ⟨fun e => by
    subst e
    have e := hg.symm.trans h.blk
    simp only [Option.some.injEq, Obj.cells.injEq] at e
    obtain ⟨_, rfl, _⟩ := e
    rcases ht with h | h | h | h <;> (cases h), h.dk.far hg ht⟩
theorem LM.kin {w w' : World} {b : Nat} {p p' : Fp} {S S' : St} {l l' : Wlg} (h : Lk w b p S l) (m : LM w b p w' p' S' l') : Kin w w' := fun g cs t z hg ht => by
  obtain ⟨h1, h2⟩ := h.far hg ht
  exact m.2.2.1.block g (blk_lt hg) (by simp [h1, h2])
theorem LM.trans {w w1 w2 : World} {b : Nat} {p p1 p2 : Fp} {S1 S2 : St} {l1 l2 : Wlg} (h : LM w b p w1 p1 S1 l1) (k : LM w1 b p1 w2 p2 S2 l2) (hb : b < w.heap.size) : LM w b p w2 p2 S2 l2 := by
  refine ⟨k.1, k.2.1.trans h.2.1, h.2.2.1.trans k.2.2.1 (fun x hx => ?_), fun x hx => ?_⟩
  · rcases List.mem_cons.1 hx with rfl | hx
    · exact .inl (by simp)
    · rcases h.2.2.2 x hx with h1 | h1
      · exact .inl (by simp [h1])
      · exact .inr h1
  · rcases k.2.2.2 x hx with h1 | h1
    · exact h.2.2.2 x h1
    · exact .inr (Nat.le_trans h.2.2.1.size h1)
/-- the states that may be told behind a crash now -/
def MayBe (may : List Stt) (snap : Bs) (rs : List Bs) (m : Nat) : Prop := ∀ j, m ≤ j → j ≤ rs.length → (snap, rs.take j) ∈ may
theorem MayBe.one (snap : Bs) (rs : List Bs) : MayBe [(snap, rs)] snap rs rs.length := fun j h1 h2 => by
  rw [List.take_of_length_le h1]; simp
theorem MayBe.nil (s : Bs) : MayBe [(s, [])] s [] 0 := fun j h1 h2 => by simp
theorem MayBe.app {may : List Stt} {snap : Bs} {rs : List Bs} {m : Nat} (h : MayBe may snap rs m) (r : Bs) : MayBe (may ++ [(snap, rs ++ [r])]) snap (rs ++ [r]) m := fun j h1 h2 => by
  rw [List.length_append, List.length_singleton] at h2
  by_cases hj : j ≤ rs.length
  · rw [List.take_append_of_le_length hj]
    exact List.mem_append.2 (.inl (h j h1 hj))
  · rw [List.take_of_length_le (by rw [List.length_append, List.length_singleton]; omega)]
    simp
/-- what a life leaves -/
def LEnd (S : St) (l : Wlg) (may : List Stt) : Prop := (∃ snap rs m, LOwn S l snap rs m ∧ MayBe may snap rs m) ∨ (S.gone = true ∧ l.dead = true ∧ ∃ s, LDown S s.1 s.2 ∧ s ∈ may)
theorem LEnd.down {S' : St} {l' : Wlg} {may : List Stt} {snap snap2 : Bs} {rs rs2 : List Bs} {m : Nat} (h : MayBe may snap rs m) (hg : S'.gone = true) (hd : l'.dead = true) (k : (∃ j, m ≤ j ∧ j ≤ rs.length ∧ LDown S' snap (rs.take j)) ∨ LDown S' snap2 rs2) : LEnd S' l' (may ++ [(snap2, rs2)]) := by
  refine .inr ⟨hg, hd, ?_⟩
  rcases k with ⟨j, h1, h2, h3⟩ | h3
  · exact ⟨(snap, rs.take j), h3, List.mem_append.2 (.inl (h j h1 h2))⟩
  · exact ⟨(snap2, rs2), h3, by simp⟩
theorem arm_pos {S : St} (hg : S.gone = false) {n k : Int} (hn : 0 < n) : S.arm n (max 0 k) = (0, S.power false n.toNat (max 0 k).toNat) := by
  unfold St.arm
  rw [if_neg (by simp [hg]), if_neg (by omega)]
end Go.Proofs.YtmoihgniglomiaaDoor
