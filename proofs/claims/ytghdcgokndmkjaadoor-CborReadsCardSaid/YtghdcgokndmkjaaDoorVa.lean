/- A region that draws its order and whose last operation panics: the lexical walk of the others serves every order. General, of any program. -/
import Derived.Test.YtghdcgokndmkjaaDoorU
set_option linter.unusedVariables false
set_option linter.unusedSimpArgs false
namespace Go.Proofs.YtghdcgokndmkjaaDoor
open Go.RowKit Go.Sort

/-- the operation, its work put aside: it hands on a slot -/
def aside (o : Oper) (t : Nat) : Oper := { o with op := .move (.tmp t) }

section
variable {P : Program} {ops : Array Oper} {md : Region.Mode} {C : World → Prop} {n t dt : Nat} {o : Oper}

theorem aside_get (hn : ops[n]? = some o) (j : Nat) : (ops.setIfInBounds n (aside o t))[j]? = if j = n then some (aside o t) else ops[j]? := by
  have hlt := (Array.getElem?_eq_some_iff.1 hn).1
  by_cases h : j = n
  · subst h; simp [hlt]
  · rw [if_neg h, Array.getElem?_setIfInBounds_ne (fun e => h e.symm)]
theorem aside_ready (hn : ops[n]? = some o) (listed : Array Bool) : Region.ready md (ops.setIfInBounds n (aside o t)) listed = Region.ready md ops listed := by
  unfold Region.ready
  rw [Array.size_setIfInBounds]
  refine List.filter_congr fun i _ => ?_
  rw [aside_get hn]
  by_cases h : i = n
  · subst h; rw [if_pos rfl, hn]; rfl
  · rw [if_neg h]
theorem aside_yielded (hn : ops[n]? = some o) (ts : Array Value) : yielded (ops.setIfInBounds n (aside o t)) ts = yielded ops ts := by
  funext g
  unfold yielded
  rw [aside_get hn]
  by_cases h : g = n
  · subst h; rw [if_pos rfl, hn]; rfl
  · rw [if_neg h]
theorem aside_qOp (hn : ops[n]? = some o) {i : Nat} (hi : i ≠ n) {K : Act → Prop} {a : Act} (h : qOp P (ops.setIfInBounds n (aside o t)) C i K a) : qOp P ops C i K a := by
  unfold qOp at *
  rw [aside_get hn, if_neg hi] at h
  split
  · rename_i ho; simp only [ho] at h; exact h
  · rename_i o' ho
    simp only [ho, aside_yielded hn] at h
    exact h
/-- some operation can always come up -/
theorem ready_some (haft : ∀ (j : Nat) (oj : Oper), ops[j]? = some oj → ∀ e ∈ oj.after, e.on < j) {listed : Array Bool} : ∀ n : Nat, n < ops.size → listed.getD n true = false → Region.ready md ops listed ≠ [] := by
  intro n
  induction n using Nat.strongRecOn with
  | _ n ih =>
    intro hn hu h0
    by_cases hm : ∃ m, m < n ∧ listed.getD m true = false
    · obtain ⟨m, h1, h2⟩ := hm
      exact ih m h1 (by omega) h2 h0
    · have hlt : n < listed.size := by
        rcases Nat.lt_or_ge n listed.size with h | h
        · exact h
        · simp [Array.getElem?_eq_none h] at hu
      have : n ∈ Region.ready md ops listed := mem_ready.2 ⟨hu, ops[n], Array.getElem?_eq_some_iff.2 ⟨hn, rfl⟩, fun e he _ => by
        have hen := haft n _ (Array.getElem?_eq_some_iff.2 ⟨hn, rfl⟩) e he
        by_cases hh : listed.getD e.on true = false
        · exact absurd ⟨e.on, hen, hh⟩ hm
        · have hes : e.on < listed.size := by omega
          simpa [hes] using hh⟩
      rw [h0] at this
      cases this
/-- a slot that no operation writes any more keeps what it has -/
theorem wpAnyQ_slot {v : Value} (hoth : ∀ (j : Nat) (oj : Oper), j ≠ n → ops[j]? = some oj → oj.dst ≠ some dt) : ∀ (fuel : Nat) (listed : Array Bool) (a : Act), (Region.ready md ops listed).contains n = false → (listed.getD n true = true) →
    wpAnyQ P md ops C (fun a => a.tmps[dt]? = some v) fuel listed a → a.tmps[dt]? = some v
  | 0, _, _, _, _, h => h.2
  | fuel + 1, listed, a, hr, hl, h => by
    cases hrd : Region.ready md ops listed with
    | nil => exact h.1 hrd
    | cons i l =>
      have hi : i ∈ Region.ready md ops listed := by rw [hrd]; simp
      have hne : i ≠ n := fun e => by
        have := (mem_ready.1 hi).1
        rw [e, hl] at this
        cases this
      have h2 := h.2 i hi
      obtain ⟨_, oi, hoi, _⟩ := mem_ready.1 hi
      obtain ⟨u, _, hK⟩ := yieldsIn_of_qOp hoi h2
      have hl' : (listed.setIfInBounds i true).getD n true = true := by rw [getD_set_ne true hne]; exact hl
      have h3 := wpAnyQ_slot hoth fuel _ _ (by
        cases hc : (Region.ready md ops (listed.setIfInBounds i true)).contains n with
        | false => rfl
        | true =>
          have := (mem_ready.1 (show n ∈ Region.ready md ops (listed.setIfInBounds i true) by simpa using hc)).1
          rw [hl'] at this; cases this) hl' hK
      have hd := hoth i oi hne hoi
      unfold Act.put at h3
      cases hdst : oi.dst with
      | none => rw [hdst] at h3; exact h3
      | some d =>
        rw [hdst] at h3 hd
        have : d ≠ dt := fun e => hd (by rw [e])
        simpa [Array.getElem?_setIfInBounds_ne this] using h3

theorem wpAny_last {Q' : Exit → Act → World → Prop} {v : Value} (hn : ops[n]? = some o) (hdst : o.dst = some dt) (hg : o.guard = none) (hoth : ∀ (j : Nat) (oj : Oper), j ≠ n → ops[j]? = some oj → oj.dst ≠ some dt)
    (haft : ∀ (j : Nat) (oj : Oper), ops[j]? = some oj → ∀ e ∈ oj.after, e.on < j) {D : List Deferred} (hbad : ∀ a w K, C w → a.defers = D → a.eval (.tmp t) = v → o.wp P a w K Q') : ∀ (fuel : Nat) (listed : Array Bool) (a : Act) (w : World), C w → a.defers = D → listed.getD n true = false →
    wpAnyQ P md (ops.setIfInBounds n (aside o t)) C (fun a => a.tmps[dt]? = some v) fuel listed a → wpAny P md ops Q' fuel listed a w
  | 0, listed, _, _, _, _, hu, h => by
    have := ready_some (md := md) haft n (Array.getElem?_eq_some_iff.1 hn).1 hu
    rw [← aside_ready (t := t) hn] at this
    exact absurd h.1 this
  | fuel + 1, listed, a, w, hw, hD, hu, h => by
    refine ⟨fun h0 => absurd h0 (ready_some (md := md) haft n (Array.getElem?_eq_some_iff.1 hn).1 hu), fun i hi => ?_⟩
    have h2 := h.2 i (by rw [aside_ready hn]; exact hi)
    by_cases hin : i = n
    · subst hin
      unfold qOp at h2
      rw [aside_get hn, if_pos rfl] at h2
      have hwant : ∀ y, Region.wanted (aside o t) y = true := fun y => by unfold Region.wanted aside; simp only [hg]
      have hwant' : ∀ y, Region.wanted o y = true := fun y => by unfold Region.wanted; simp only [hg]
      simp only [hwant, if_true] at h2
      obtain ⟨u, h3, h4⟩ := h2
      have h5 : u = a.eval (.tmp t) := ((h3 w hw).2).symm
      have hlt : i < listed.size := by
        rcases Nat.lt_or_ge i listed.size with h | h
        · exact h
        · simp [Array.getElem?_eq_none h] at hu
      have hl' : (listed.setIfInBounds i true).getD i true = true := by simp [hlt]
      have h6 := wpAnyQ_slot (n := i) (fun j oj hj ho => hoth j oj hj (by rw [aside_get hn, if_neg hj] at ho; exact ho)) fuel _ _ (by
        cases hc : (Region.ready md (ops.setIfInBounds i (aside o t)) (listed.setIfInBounds i true)).contains i with
        | false => rfl
        | true =>
          have := (mem_ready.1 (show i ∈ Region.ready md (ops.setIfInBounds i (aside o t)) (listed.setIfInBounds i true) by simpa using hc)).1
          rw [hl'] at this; cases this) hl' h4
      have h7 : a.eval (.tmp t) = v := by
        rw [← h5]
        have hd : (aside o t).dst = some dt := hdst
        rw [hd] at h6
        unfold Act.put at h6
        by_cases hds : dt < a.tmps.size
        · simpa [hds] using h6
        · simp [hds] at h6
      unfold wpOp
      simp only [hn, hwant', if_true]
      exact .inl (hbad a w _ hw hD h7)
    · obtain ⟨_, oi, hoi, _⟩ := mem_ready.1 hi
      obtain ⟨u, hy, hK⟩ := yieldsIn_of_qOp hoi (aside_qOp hn hin h2)
      have h8 : qOp P ops C i (fun a' => wpAnyQ P md (ops.setIfInBounds n (aside o t)) C (fun a => a.tmps[dt]? = some v) fuel (listed.setIfInBounds i true) a' ∧ a'.defers = D) a := hy.qOp hoi ⟨hK, by cases oi.dst <;> exact hD⟩
      exact wpOp_of_qOp hw (fun a' w' hw' hk => wpAny_last hn hdst hg hoth haft hbad fuel _ a' w' hw' hk.2 (by rw [getD_set_ne true hin]; exact hu) hk.1) h8

/-- what is asked of the region's text -/
def lastB (ops : Array Oper) (n t dt : Nat) : Bool :=
  (match ops[n]? with
   | some o => o.dst == some dt && o.guard.isNone && Region.lexB .any (ops.setIfInBounds n (aside o t))
   | none => false) &&
  (List.range ops.size).all fun j => match ops[j]? with
    | some oj => (j == n || oj.dst != some dt) && oj.after.all fun e => decide (e.on < j)
    | none => true

theorem wp_region_last {id : Nat} {Q : Exit → Act → World → Prop} {a : Act} {w : World} {l : List Oper} (n t dt : Nat) (v : Value) (hm : P.follows .mixedOrders = true) (hB : lastB l.toArray n t dt = true) (hn : l[n]? = some o)
    (hbad : ∀ a' w' K, (∃ p : Regrown, w' = grow (redrawn w p.d) p.os) → a'.defers = a.defers → a'.eval (.tmp t) = v → o.wp P a' w' K Q)
    (h : wpQuiet P (l.set n (aside o t)).toArray (fun w' => ∃ p : Regrown, w' = grow (redrawn w p.d) p.os) (fun a' => a'.tmps[dt]? = some v) (l.set n (aside o t)) a) : (Code.region id l.toArray true).wp P Q a w := by
  have hn' : l.toArray[n]? = some o := by simpa using hn
  have hlt : n < l.length := (List.getElem?_eq_some_iff.1 hn).1
  unfold lastB at hB
  rw [hn'] at hB
  simp only [Bool.and_eq_true, beq_iff_eq, List.all_eq_true, List.mem_range] at hB
  obtain ⟨⟨⟨h1, h2⟩, h3⟩, h4⟩ := hB
  have h2 : o.guard = none := by simpa using h2
  have hall : ∀ (j : Nat) (oj : Oper), l.toArray[j]? = some oj → (j = n ∨ oj.dst ≠ some dt) ∧ ∀ e ∈ oj.after, e.on < j := fun j oj hj => by
    have := h4 j (Array.getElem?_eq_some_iff.1 hj).1
    rw [hj] at this
    simp only [Bool.and_eq_true, Bool.or_eq_true, beq_iff_eq, bne_iff_ne, Array.all_eq_true_iff_forall_mem, decide_eq_true_eq] at this
    exact this
  simp only [Region.lexB, Bool.and_eq_true] at h3
  refine wp_region_any hm (wpAny_last (C := fun w' => ∃ p : Regrown, w' = grow (redrawn w p.d) p.os) (v := v) (t := t) hn' h1 h2 (fun j oj hj ho => ((hall j oj ho).1).resolve_left hj) (fun j oj ho => (hall j oj ho).2) hbad _ _ _ _ ⟨⟨w.drawn + 1, #[]⟩, by rw [grow_empty]; rfl⟩ rfl (by simp [hlt]) ?_)
  have hl : (l.set n (aside o t)).toArray = l.toArray.setIfInBounds n (aside o t) := by simp
  rw [hl] at h
  have := wpAnyQ_lex (P := P) (C := fun w' => ∃ p : Regrown, w' = grow (redrawn w p.d) p.os) (md := .any) h3.1 (l.set n (aside o t)) 0 (Array.replicate l.toArray.size false) a (by intro j; rw [← hl]; simp) (by simpa using h3.2) h
  simpa using this
end

/-- a call that panics, as an operation -/
theorem call_panics {P : Program} {o : Oper} {a : Act} {w : World} {K : Act → World → Prop} {Q : Exit → Act → World → Prop} {f t : Nat} {tys : Array TypeId} (ho : o.op = .call { callee := .value (.func f), args := #[.tmp t], argTypes := tys })
    (hf : ∀ (x : Value) (w : World), (callFunc f #[x]).run P w = .ok (.enter f #[x]) w)
    (h : Calls P f #[a.eval (.tmp t)] w fun e w' => ∃ c, e = .panicked c ∧ Q (.panic c) a w') : o.wp P a w K Q := by
  obtain ⟨dst, op, ty, pos, aft, gd⟩ := o
  simp only at ho
  subst ho
  unfold Oper.wp
  have he : (execOp a.eval { dst := dst, op := Op.call { callee := Callee.value (Operand.func f), args := #[Operand.tmp t], argTypes := tys }, type := ty, pos := pos, after := aft, guard := gd }).run P w = .ok (.enter f #[a.eval (.tmp t)]) w := by
    have h1 := hf (a.eval (.tmp t)) w
    have h2 : execOp a.eval { dst := dst, op := Op.call { callee := Callee.value (Operand.func f), args := #[Operand.tmp t], argTypes := tys }, type := ty, pos := pos, after := aft, guard := gd } = callFunc f (#[] ++ #[a.eval (.tmp t)] ++ #[]) := by
      simp only [execOp, resolve, Act.eval, Deferred.ofValue, List.map_toArray, List.map_cons, List.map_nil]
      rfl
    rw [h2]
    simpa using h1
  rw [he]
  exact h.mono fun e w' ⟨c, he, hq⟩ => by subst he; exact hq
end Go.Proofs.YtghdcgokndmkjaaDoor
