/- A region that draws its order and ends in operations of one forced order; a whole array read within it. General, of any program. No condition but that the region's text is of that form. A drawn region within a round of a loop over a function, walked as outside of it. General, of any program. No condition but that nothing is deferred in it. The whole product of two numbers. No condition but that ea -/
import Derived.StillTail
import Derived.StillTailTactics
import Derived.Lib.QuietBelow
import Derived.BigQuiet
import Derived.Test.YtpggkfdijmnmiaaGreatZuk01
import Derived.OrdersIn
import Derived.RangeFuncNested
import Derived.RangeFuncCalls
import Derived.Deep.RegionLaw
import Derived.Laws.Cover3
set_option linter.unusedVariables false
set_option linter.unusedSimpArgs false
set_option maxRecDepth 100000
namespace Go.Proofs.YtpggkfdijmnmiaaGreat
open Go.RowKit Go.Sort
section
variable {P : Program}
theorem exec_load_row {o : Oper} {a : Act} {w : World} (ty : TypeId) (x : Operand) (ho : o.op = .load ty x)
    (g : Nat) (hx : a.eval x = .pointer (some ⟨g, 0, none⟩)) (t : TypeId) (cs : Array Value) (fr : Nat × Nat) (d : TypeDesc) (hg : w.heap[g]? = some (.cells cs t fr))
    (hu : P.underlying ty = some d) (hd : (match d with | .struct _ | .array _ _ => true | _ => false) = true) (hi : (P.info? ty).map (·.size) = some cs.size) :
    (execOp a.eval o).run P w = .ok (.value (.agg cs)) w := by
  unfold execOp
  simp only [ho, hx, Instr.loadAt, Instr.sureAddr, Sem.run_bind, Sem.run_pure, Result.andThen_ok, run_loadVar_row w g t ty cs fr d hg hu hd hi]
theorem wpStill_load_row {ops : Array Oper} {w : World} {Q : Act → Prop} {a : Act} {o : Oper} {rest : List Oper} (hgd : o.guard = none) (ty : TypeId) (x : Operand) (ho : o.op = .load ty x)
    (g : Nat) (hx : a.eval x = .pointer (some ⟨g, 0, none⟩)) (t : TypeId) (cs : Array Value) (fr : Nat × Nat) (d : TypeDesc) (hg : w.heap[g]? = some (.cells cs t fr))
    (hu : P.underlying ty = some d) (hd : (match d with | .struct _ | .array _ _ => true | _ => false) = true) (hi : (P.info? ty).map (·.size) = some cs.size)
    (h : wpStill P ops w Q rest (a.put o.dst (.agg cs))) : wpStill P ops w Q (o :: rest) a :=
  wpStill_step fun K hK => by
    rw [if_pos (by simp [Region.wanted, hgd])]
    unfold Oper.still
    rw [exec_load_row ty x ho g hx t cs fr d hg hu hd hi, Oper.stillUpon_value]
    exact hK _ h
theorem wpQuiet_load_row {ops : Array Oper} {C : World → Prop} {Q : Act → Prop} {a : Act} {o : Oper} {rest : List Oper} (hgd : o.guard = none) (ty : TypeId) (x : Operand) (ho : o.op = .load ty x)
    (g : Nat) (hx : a.eval x = .pointer (some ⟨g, 0, none⟩)) (t : TypeId) (cs : Array Value) (fr : Nat × Nat) (d : TypeDesc) (hg : ∀ w, C w → w.heap[g]? = some (.cells cs t fr))
    (hu : P.underlying ty = some d) (hd : (match d with | .struct _ | .array _ _ => true | _ => false) = true) (hi : (P.info? ty).map (·.size) = some cs.size)
    (h : wpQuiet P ops C Q rest (a.put o.dst (.agg cs))) : wpQuiet P ops C Q (o :: rest) a :=
  wpQuiet_step fun K hK => by
    rw [if_pos (by simp [Region.wanted, hgd])]
    refine ⟨.agg cs, fun w hw => ?_, hK _ h⟩
    unfold Oper.quietAt
    rw [exec_load_row ty x ho g hx t cs fr d (hg w hw) hu hd hi]
    exact ⟨rfl, rfl⟩
theorem heap_regrown {w w' : World} {b : Nat} {o : Obj} (h : w.heap[b]? = some o) (hw : ∃ p : Regrown, w' = grow (redrawn w p.d) p.os) : w'.heap[b]? = some o := by
  obtain ⟨p, rfl⟩ := hw
  exact ((below_regrown w p.d p.os).block _ (Array.getElem?_eq_some_iff.1 h).1).trans h
end
theorem mixed : Tryz.prog.follows .mixedOrders = true := by kernel_rfl
section
variable {P : Program} {ops : Array Oper} {md : Region.Mode} {C : World → Prop}
def headQ (P : Program) (md : Region.Mode) (ops : Array Oper) (C : World → Prop) (n : Nat) (L : Array Bool → Act → Prop) : Nat → Array Bool → Act → Prop
  | 0, ls, a => L ls a
  | f + 1, ls, a => Region.ready md ops ls ≠ [] ∧ ∀ i, i ∈ Region.ready md ops ls → i < n ∧ qOp P ops C i (headQ P md ops C n L f (ls.setIfInBounds i true)) a
theorem any_of_headQ {n g : Nat} {L : Array Bool → Act → Prop} {Q : Exit → Act → World → Prop} (hL : ∀ ls a w, C w → L ls a → wpAny P md ops Q g ls a w) (f : Nat) :
    ∀ (ls : Array Bool) (a : Act) (w : World), C w → headQ P md ops C n L f ls a → wpAny P md ops Q (f + g) ls a w := by
  induction f with
  | zero => intro ls a w hw h; rw [Nat.zero_add]; exact hL _ _ _ hw h
  | succ f ih =>
    intro ls a w hw h
    rw [Nat.succ_add]
    exact ⟨fun h0 => absurd h0 h.1, fun i hi => wpOp_of_qOp hw (fun a' w' hw' h' => ih _ a' w' hw' h') (h.2 i hi).2⟩
theorem headQ_first {n i : Nat} {oi : Oper} {v : Value} {L : Array Bool → Act → Prop} (hi : ops[i]? = some oi) (hsel : ∀ (j : Nat) (o : Oper) cs b, ops[j]? = some o → o.op ≠ .select cs b)
    (hs : Region.sinkB md ops n = true) (hc : Region.chainB md ops n = true) (hn : n < ops.size) (hin : i < n) (hdone : ∀ ls a, L ls a → ∀ j ∈ Region.ready md ops ls, n ≤ j) (f : Nat) :
    ∀ (ls : Array Bool) (a : Act), HeadInv md ops n ls → (∀ j oj, ops[j]? = some oj → j ≠ i → ls.getD j true = false → (∀ e ∈ oj.after, Region.binds md e = true → e.on ≠ i) → oi.apart ops oj = true) →
      i ∈ Region.ready md ops ls → YieldsIn P ops C oi v a → headQ P md ops C n L f (ls.setIfInBounds i true) (a.put oi.dst v) → headQ P md ops C n L (f + 1) ls a := by
  induction f with
  | zero =>
    intro ls a inv _ hr hy H
    have hun := (mem_ready.1 hr).1
    refine ⟨fun h => (by rw [h] at hr; cases hr), fun j hj => ?_⟩
    have hjn : j < n := Nat.lt_of_not_le fun h => tail_waits hs hc hn inv _ i rfl hin hun j h hj
    refine ⟨hjn, ?_⟩
    by_cases hji : j = i
    · subst hji; exact hy.qOp hi H
    · have := hdone _ _ H j (ready_mono hj hji)
      omega
  | succ f ih =>
    intro ls a inv hfree hr hy H
    have hun := (mem_ready.1 hr).1
    refine ⟨fun h => (by rw [h] at hr; cases hr), fun j hj => ?_⟩
    have hjn : j < n := Nat.lt_of_not_le fun h => tail_waits hs hc hn inv _ i rfl hin hun j h hj
    refine ⟨hjn, ?_⟩
    by_cases hji : j = i
    · subst hji; exact hy.qOp hi H
    · obtain ⟨hjun, oj, hoj, hall⟩ := mem_ready.1 hj
      have hnot : ∀ e ∈ oj.after, Region.binds md e = true → e.on ≠ i := fun e he hb heq => by
        have h1 := hall e he hb
        rw [heq, getD_both hun] at h1
        cases h1
      have h2 := qOp_put hoj (hfree j oj hoj hji hjun hnot) (fun cs b => hsel i oi cs b hi) (fun cs b => hsel j oj cs b hoj) hy (H.2 j (ready_mono hj hji)).2
      refine qOp_mono (fun a' h3 => ih _ a' (inv.set hj hjn) (fun k ok hk hki hu hno => hfree k ok hk hki ?_ hno) (ready_mono hr (Ne.symm hji)) h3.1 ?_) h2
      · by_cases hjk : j = k
        · subst hjk; exact hjun
        · rw [getD_set_ne true hjk] at hu; exact hu
      · rw [Array.setIfInBounds_comm _ _ hji]; exact h3.2
theorem headQ_lex {n g : Nat} {F : Act → Prop} (hsel : Region.noSelect ops = true) (hs : Region.sinkB md ops n = true) (hc : Region.chainB md ops n = true) (hn : n < ops.size) :
    ∀ (l : List Oper) (k : Nat) (ls : Array Bool) (a : Act), (∀ j, j < l.length → l[j]? = ops[k + j]?) → k + l.length = n → HeadInv md ops n ls →
    Region.lexHead md ops g l.length k ls = true → wpQuiet P ops C F l a → headQ P md ops C n (fun ls' a' => Region.seqB md ops g n ls' = true ∧ F a') l.length ls a
  | [], k, ls, a, _, hk, _, hB, h => by
    obtain rfl : k = n := by simpa using hk
    exact ⟨by simpa [Region.lexHead] using hB, h⟩
  | o :: l, k, ls, a, hl, hk, inv, hB, h => by
    have h0 : ops[k]? = some o := by simpa using (hl 0 (by simp)).symm
    simp only [List.length_cons, Region.lexHead, Bool.and_eq_true] at hB hk
    obtain ⟨⟨hr, hf⟩, hB'⟩ := hB
    have hr' : k ∈ Region.ready md ops ls := by simpa using hr
    obtain ⟨v, hy, hK⟩ := yieldsIn_of_qOp (K := wpQuiet P ops C F l) h0 (by unfold qOp; simp only [h0]; exact h)
    exact headQ_first h0 (Region.noSelect_spec hsel) hs hc hn (by omega) (fun ls' a' hL => seqB_ready hL.1) l.length ls a inv (Region.free_spec h0 hf) hr' hy
      (headQ_lex hsel hs hc hn l (k + 1) _ _ (fun j hj => by have := hl (j + 1) (by simp; omega); simpa [Nat.add_assoc, Nat.add_comm 1 j] using this) (by omega) (inv.set hr' (by omega)) hB' hK)
theorem wp_region_below_tail {id : Nat} {Q : Exit → Act → World → Prop} {a : Act} {w : World} {l : List Oper} (n : Nat) (hm : P.follows .mixedOrders = true) (hB : Region.lexTailB .any l.toArray n = true)
    (h : wpQuiet P l.toArray (fun w' => ∃ p : Regrown, w' = grow (redrawn w p.d) p.os) (fun a' => ∀ w', (∃ p : Regrown, w' = grow (redrawn w p.d) p.os) → wpList P l.toArray Q (l.drop n) a' w') (l.take n) a) : (Code.region id l.toArray true).wp P Q a w := by
  simp only [Region.lexTailB, Bool.and_eq_true, decide_eq_true_eq] at hB
  obtain ⟨⟨⟨⟨hsel, hn⟩, hs⟩, hc⟩, hlex⟩ := hB
  have hn' : n < l.length := by simpa using hn
  have htl : (l.take n).length = n := by simp; omega
  have hdl : (l.drop n).length = l.toArray.size - n := by simp
  have inv0 : HeadInv .any l.toArray n (Array.replicate l.toArray.size false) :=
    ⟨by simp, fun j oj _ hl => (by rw [getD_replicate_false] at hl; cases hl), fun t _ ht => getD_in (by simpa using ht) (getD_replicate_false _ _)⟩
  have H := headQ_lex (md := .any) (g := l.toArray.size - n) hsel hs hc hn (l.take n) 0 _ a (fun j hj => by
    have hj' : j < n := by rw [htl] at hj; exact hj
    simp [hj']) (by simpa using htl) inv0 (by rw [htl]; exact hlex) h
  refine wp_region_any hm ?_
  have := any_of_headQ (Q := Q) (g := l.toArray.size - n) (fun ls a' w' hw' hL => by
    have := wpAny_of_seq (md := .any) (Q' := Q) (l.drop n) n ls a' w' (fun j => by simp [List.getElem?_drop]) (by rw [hdl]; exact hL.1) (hL.2 w' hw')
    rwa [hdl] at this) _ _ _ _ (show ∃ p : Regrown, _ = grow (redrawn w p.d) p.os from ⟨⟨w.drawn + 1, #[]⟩, by rw [grow_empty]⟩) H
  rw [htl, show n + (l.toArray.size - n) = l.toArray.size by omega] at this
  exact this
end
section
variable {P : Program}
theorem wp_region_quiet_tail {id : Nat} {Q : Exit → Act → World → Prop} {a : Act} {w : World} {l : List Oper} (n : Nat) (hm : P.follows .mixedOrders = true) (hB : Region.lexTailB .any l.toArray n = true)
    (h : wpQuiet P l.toArray (fun w' => ∃ m : Nat, w' = w.drewN m) (fun a' => ∀ w', (∃ m : Nat, w' = w.drewN m) → wpList P l.toArray Q (l.drop n) a' w') (l.take n) a) : (Code.region id l.toArray true).wp P Q a w := by
  simp only [Region.lexTailB, Bool.and_eq_true, decide_eq_true_eq] at hB
  obtain ⟨⟨⟨⟨hsel, hn⟩, hs⟩, hc⟩, hlex⟩ := hB
  have hn' : n < l.length := by simpa using hn
  have htl : (l.take n).length = n := by simp; omega
  have hdl : (l.drop n).length = l.toArray.size - n := by simp
  have inv0 : HeadInv .any l.toArray n (Array.replicate l.toArray.size false) :=
    ⟨by simp, fun j oj _ hl => (by rw [getD_replicate_false] at hl; cases hl), fun t _ ht => getD_in (by simpa using ht) (getD_replicate_false _ _)⟩
  have H := headQ_lex (md := .any) (g := l.toArray.size - n) hsel hs hc hn (l.take n) 0 _ a (fun j hj => by
    have hj' : j < n := by rw [htl] at hj; exact hj
    simp [hj']) (by simpa using htl) inv0 (by rw [htl]; exact hlex) h
  refine wp_region_any hm ?_
  have := any_of_headQ (Q := Q) (g := l.toArray.size - n) (fun ls a' w' hw' hL => by
    have := wpAny_of_seq (md := .any) (Q' := Q) (l.drop n) n ls a' w' (fun j => by simp [List.getElem?_drop]) (by rw [hdl]; exact hL.1) (hL.2 w' hw')
    rwa [hdl] at this) _ _ _ _ (show ∃ m : Nat, w.drew = w.drewN m from ⟨1, rfl⟩) H
  rw [htl, show n + (l.toArray.size - n) = l.toArray.size by omega] at this
  exact this
end
theorem qd {f : FuncId} {args : Array Value} {w : World} {n : Nat} {v : Value} (h : ∀ w, Calls Tryz.prog f args w fun e w' => e = .returned v ∧ w' = w) : Calls Tryz.prog f args (w.drewN n) fun e w'' => e = .returned v ∧ ∃ m, w'' = w.drewN m :=
  (h _).mono fun _ _ h => ⟨h.1, n, h.2⟩
theorem qg {f : FuncId} {args : Array Value} {w : World} {d : Nat} {os : Array Obj} {v : Value} (h : ∀ w, Calls Tryz.prog f args w fun e w' => e = .returned v ∧ Below w.heap.size w w') :
    Calls Tryz.prog f args (grow (redrawn w d) os) fun e w'' => e = .returned v ∧ ∃ p : Regrown, w'' = grow (redrawn w p.d) p.os := Calls.regrown_of (h _)
section
variable {P : Program}
theorem any_below_tail {Q : Exit → Act → World → Prop} {a : Act} {w : World} {l : List Oper} (n : Nat) (hB : Region.lexTailB .any l.toArray n = true)
    (h : wpQuiet P l.toArray (fun w' => ∃ p : Regrown, w' = grow (redrawn w p.d) p.os) (fun a' => ∀ w', (∃ p : Regrown, w' = grow (redrawn w p.d) p.os) → wpList P l.toArray Q (l.drop n) a' w') (l.take n) a) : wpAny P .any l.toArray Q l.toArray.size (Array.replicate l.toArray.size false) a { w with drawn := w.drawn + 1 } := by
  simp only [Region.lexTailB, Bool.and_eq_true, decide_eq_true_eq] at hB
  obtain ⟨⟨⟨⟨hsel, hn⟩, hs⟩, hc⟩, hlex⟩ := hB
  have hn' : n < l.length := by simpa using hn
  have htl : (l.take n).length = n := by simp; omega
  have hdl : (l.drop n).length = l.toArray.size - n := by simp
  have inv0 : HeadInv .any l.toArray n (Array.replicate l.toArray.size false) :=
    ⟨by simp, fun j oj _ hl => (by rw [getD_replicate_false] at hl; cases hl), fun t _ ht => getD_in (by simpa using ht) (getD_replicate_false _ _)⟩
  have H := headQ_lex (md := .any) (g := l.toArray.size - n) hsel hs hc hn (l.take n) 0 _ a (fun j hj => by
    have hj' : j < n := by rw [htl] at hj; exact hj
    simp [hj']) (by simpa using htl) inv0 (by rw [htl]; exact hlex) h
  have := any_of_headQ (Q := Q) (g := l.toArray.size - n) (fun ls a' w' hw' hL => by
    have := wpAny_of_seq (md := .any) (Q' := Q) (l.drop n) n ls a' w' (fun j => by simp [List.getElem?_drop]) (by rw [hdl]; exact hL.1) (hL.2 w' hw')
    rwa [hdl] at this) _ _ _ _ (show ∃ p : Regrown, _ = grow (redrawn w p.d) p.os from ⟨⟨w.drawn + 1, #[]⟩, by rw [grow_empty]⟩) H
  rw [htl, show n + (l.toArray.size - n) = l.toArray.size by omega] at this
  exact this
def noDefer (l : List Oper) : Bool := l.all fun o => match o.op with
  | .defer _ => false
  | _ => true
theorem noDefer_spec {l : List Oper} (h : noDefer l = true) {i : Nat} {o : Oper} (hi : l.toArray[i]? = some o) (c : Call) : o.op ≠ .defer c := by
  intro hc
  have hm : o ∈ l := List.mem_iff_getElem?.2 ⟨i, by simpa using hi⟩
  have := List.all_eq_true.1 h o hm
  rw [hc] at this
  cases this
theorem op_in {l : Nat} {n : Nat} {ops : Array Oper} {Q : Exit → Act → World → Prop} {i : Nat} {K K' : Act → World → Prop} {a : Act} {w : World} (hQ : ∀ a w, ¬ Q .outgrown a w) (hd : ∀ o, ops[i]? = some o → ∀ c, o.op ≠ .defer c) (hK : ∀ a w, K a w → K' a w) (h : wpOp P ops Q i K a w) : wpOpIn (Fence.wide.inRound l) n P ops Q i K' a w := by
  unfold wpOp at h
  unfold wpOpIn
  cases hi : ops[i]? with
  | none =>
    rw [hi] at h
    exact hK _ _ h
  | some o =>
    rw [hi] at h
    simp only [] at h ⊢
    split
    · rename_i hw
      rw [if_pos hw] at h
      rcases h with h | ⟨_, a', w', hq⟩
      · refine ⟨fun _ _ => trivial, ?_⟩
        rw [Oper.semAt_eq _ _ _ (hd o hi)]
        unfold Oper.wp at h
        generalize (execOp a.eval o).run P w = r at h ⊢
        cases r with
        | halt e w' =>
          cases e <;> first | exact h | exact h.elim
        | ok x w' =>
          cases x with
          | value v => exact hK _ _ h
          | skip => exact hK _ _ h
          | defer d => exact hK _ _ h
          | enter f args =>
            refine ⟨(fun hh => by cases hh), CallsIn.inRound l (callsIn_wide.2 (Calls.mono h ?_))⟩
            intro e w2 h2
            cases e with
            | returned v => exact hK _ _ h2
            | panicked c => exact h2
            | outgrown => exact h2
          | row row args =>
            refine ⟨(fun hh => by cases hh), ?_⟩
            intro c cs _
            obtain ⟨v, w2, h2, h3⟩ := h c cs
            exact ⟨v, w2, hK _ _ h2, stepsIn_wide.2 h3⟩
          | _ => exact h.elim
      · exact absurd hq (hQ _ _)
    · rename_i hw
      rw [if_neg hw] at h
      exact ⟨fun _ _ => trivial, hK _ _ h⟩
theorem any_in {l : Nat} {n : Nat} {md : Region.Mode} {ops : Array Oper} {Q : Exit → Act → World → Prop} (hQ : ∀ a w, ¬ Q .outgrown a w) (hd : ∀ (i : Nat) (o : Oper), ops[i]? = some o → ∀ c : Call, o.op ≠ .defer c) : ∀ (fuel : Nat) (listed : Array Bool) (a : Act) (w : World), wpAny P md ops Q fuel listed a w → wpAnyIn (Fence.wide.inRound l) n P md ops Q fuel listed a w := by
  intro fuel
  induction fuel with
  | zero => exact fun listed a w h => h
  | succ fuel ih => exact fun listed a w h => ⟨h.1, fun i hi => op_in hQ (hd i) (fun a w h => ih _ a w h) (h.2 i hi)⟩
theorem wpIn_region_below_tail {r m : Nat} {id : Nat} {Q : Exit → Act → World → Prop} {a : Act} {w : World} {l : List Oper} (n : Nat) (hm : P.follows .mixedOrders = true) (hB : Region.lexTailB .any l.toArray n = true) (hd : noDefer l = true) (hQ : ∀ a w, ¬ Q .outgrown a w)
    (h : wpQuiet P l.toArray (fun w' => ∃ p : Regrown, w' = grow (redrawn w p.d) p.os) (fun a' => ∀ w', (∃ p : Regrown, w' = grow (redrawn w p.d) p.os) → wpList P l.toArray Q (l.drop n) a' w') (l.take n) a) : (Code.region id l.toArray true).wpIn (Fence.wide.inRound r) m P Q a w :=
  wpIn_region_any hm (any_in hQ (fun i o hi c => noDefer_spec hd hi c) _ _ _ _ (any_below_tail n hB h))
end
end Go.Proofs.YtpggkfdijmnmiaaGreat
namespace Go.Proofs.YtpggkfdijmnmiaaGreat
open Go.RowKit Limbs
theorem times_det {a b c d : Nat} (ha : a < 18446744073709551616) (hb : b < 18446744073709551616) (hc : c < 18446744073709551616) (hd : d < 18446744073709551616) :
    ∃ l h : Nat, l < 18446744073709551616 ∧ h < 18446744073709551616 ∧ l + 18446744073709551616 * h = a * b + c + d ∧ ∀ w, Calls Tryz.prog 161 #[.int .u64 (a : Int), .int .u64 (b : Int), .int .u64 (c : Int), .int .u64 (d : Int)] w fun e w' => e = .returned (.tuple #[.int .u64 (l : Int), .int .u64 (h : Int)]) ∧ w' = w := by
  refine ⟨(a * b + c + d) % 18446744073709551616, (a * b + c + d) / 18446744073709551616, ?_, ?_, ?_, fun w => ?_⟩
  · omega
  · have hP : a * b ≤ 18446744073709551615 * 18446744073709551615 := Nat.mul_le_mul (by omega) (by omega)
    omega
  · omega
  · refine (times_any ha hb hc hd w).mono ?_
    rintro e w' ⟨⟨l, h, hl, hh, he, rfl⟩, hw⟩
    refine ⟨?_, hw⟩
    have e1 : (a * b + c + d) % 18446744073709551616 = l := by omega
    have e2 : (a * b + c + d) / 18446744073709551616 = h := by omega
    rw [e1, e2]
theorem row_arith {a b0 b1 b2 b3 c0 c1 c2 c3 n0 n1 n2 n3 k0 k1 k2 k3 : Nat} (e0 : n0 + 18446744073709551616 * k0 = a * b0 + c0 + 0) (e1 : n1 + 18446744073709551616 * k1 = a * b1 + c1 + k0) (e2 : n2 + 18446744073709551616 * k2 = a * b2 + c2 + k1) (e3 : n3 + 18446744073709551616 * k3 = a * b3 + c3 + k2) :
    v4 n0 n1 n2 n3 + W256 * k3 = a * v4 b0 b1 b2 b3 + v4 c0 c1 c2 c3 := by
  rw [mul_v4]
  generalize a * b0 = t0 at *
  generalize a * b1 = t1 at *
  generalize a * b2 = t2 at *
  generalize a * b3 = t3 at *
  unfold v4 W256
  omega
def num8 (a b c d e f g h : Nat) : Value := .agg #[.int .u64 (a : Int), .int .u64 (b : Int), .int .u64 (c : Int), .int .u64 (d : Int), .int .u64 (e : Int), .int .u64 (f : Int), .int .u64 (g : Int), .int .u64 (h : Int)]
theorem u56 : Tryz.prog.underlying 208 = some (.array 8 22) := by kernel_rfl
theorem i56 : (Tryz.prog.info? 208).map (·.size) = some 8 := by kernel_rfl
def findR : Code → Nat → Option (Array Oper)
  | .region id ops _, n => if id = n then some ops else none
  | .seq a b, n => (findR a n).or (findR b n)
  | .cond _ a b, n => (findR a n).or (findR b n)
  | .block _ a, n => findR a n
  | .loop a, n => findR a n
  | .scope a, n => findR a n
  | _, _ => none
noncomputable def ops39 (n : Nat) : Array Oper := (Tryz.f182.body.bind fun c => findR c n).getD #[]
set_option maxHeartbeats 8000000 in
theorem r9 (ga gb gl i j : Nat) (a b c d n k : Nat) (hi : i < 4) (hj : j < 4) (w : World) (ia : w.cell? ⟨ga, i, none⟩ = some (.int .u64 (a : Int))) (ib : w.cell? ⟨gb, j, none⟩ = some (.int .u64 (b : Int))) (ic : w.cell? ⟨gl, i + j, none⟩ = some (.int .u64 (c : Int))) (hf : w.frozen? ⟨gl, i + j, none⟩ = false)
    (HQ : Hid (∀ w, Calls Tryz.prog 161 #[.int .u64 (a : Int), .int .u64 (b : Int), .int .u64 (c : Int), .int .u64 (d : Int)] w fun e w' => e = .returned (.tuple #[.int .u64 (n : Int), .int .u64 (k : Int)]) ∧ w' = w))
    {t0 t1 t4 t9 t10 t11 t12 t13 t14 t15 t16 t17 t18 t19 t20 t21 t22 t23 t24 t25 t26 t27 t28 t29 t30 t31 t32 t33 t34 t35 t36 t37 t38 t39 t40 t41 : Value} {ds : List Deferred} {Q : Exit → Act → World → Prop}
    (h : ∀ (x15 x16 x17 x18 x19 x20 x21 x22 x23 x24 x25 x26 x27 x28 x29 x30 x31 x32 x33 x34 : Value), Q .normal { tmps := #[t0, t1, .pointer (some ⟨ga, 0, none⟩), .pointer (some ⟨gb, 0, none⟩), t4, .pointer (some ⟨gl, 0, none⟩), .int .i64 (i : Int), .int .u64 (k : Int), .int .i64 (j : Int), t9, t10, t11, t12, t13, t14, x15, x16, x17, x18, x19, x20, x21, x22, x23, x24, x25, x26, x27, x28, x29, x30, x31, x32, x33, x34, t35, t36, t37, t38, t39, t40, t41], defers := ds } (w.drew.setCell ⟨gl, i + j, none⟩ (.int .u64 (n : Int)))) :
    (Code.region 9 (ops39 9) true).wp Tryz.prog Q { tmps := #[t0, t1, .pointer (some ⟨ga, 0, none⟩), .pointer (some ⟨gb, 0, none⟩), t4, .pointer (some ⟨gl, 0, none⟩), .int .i64 (i : Int), .int .u64 (d : Int), .int .i64 (j : Int), t9, t10, t11, t12, t13, t14, t15, t16, t17, t18, t19, t20, t21, t22, t23, t24, t25, t26, t27, t28, t29, t30, t31, t32, t33, t34, t35, t36, t37, t38, t39, t40, t41], defers := ds } w := by
  simp only [ops39, findR, Tryz.f182, Option.bind_some, Option.or, Option.getD, Nat.reduceEqDiff, if_true, if_false, reduceIte]
  have b1 : ((i : Int) : Int) < 4 := by omega
  have b2 : ((j : Int) : Int) < 4 := by omega
  have e1 : IntKind.i64.wrap ((i : Int) + (j : Int)) = ((i + j : Nat) : Int) := by rw [IntKind.wrap_i64]; omega
  have e2 : ((i : Int) + (j : Int)).toNat = i + j := by omega
  have b3 : (i : Int) + (j : Int) < 8 := by omega
  have b4 : (0 : Int) ≤ (i : Int) + (j : Int) := by omega
  have HH := Lib.hid h
  clear h
  refine Code.wp_mono (Q := Exit.then (fun a w => Q .normal a w) (fun _ _ _ => False)) (fun e a w h => by cases e <;> first | exact h | exact h.elim) ?_
  go_region_law (go_simp; go_at_call 161; refine (HQ.out _).mono ?_; rintro e w' ⟨rfl, rfl⟩)
  all_goals exact HH.out _ _ _ _ _ _ _ _ _ _ _ _ _ _ _ _ _ _ _ _
theorem ret_cell8 {fn : Func} {R : Ending → World → Prop} {a : Act} {w : World} {p : Tmp} (h : fn.results = #[.cell p 208]) (g : Nat) (x0 x1 x2 x3 x4 x5 x6 x7 : Value) (hp : a.tmps.getD p undef = .pointer (some ⟨g, 0, none⟩)) (hk : Bk 208 w g #[x0, x1, x2, x3, x4, x5, x6, x7]) (hd : a.defers = []) (hR : R (.returned (.agg #[x0, x1, x2, x3, x4, x5, x6, x7])) w) : bodyPost Tryz.prog fn R .ret a w :=
  bodyPost_ret (v := .agg #[x0, x1, x2, x3, x4, x5, x6, x7]) (results_cell_row h a.tmps w g 208 #[x0, x1, x2, x3, x4, x5, x6, x7] (0, 0) _ hp hk u56 rfl i56) hd hR
set_option maxHeartbeats 32000000 in
theorem product_any {a0 a1 a2 a3 b0 b1 b2 b3 : Nat} (ha0 : a0 < 18446744073709551616) (ha1 : a1 < 18446744073709551616) (ha2 : a2 < 18446744073709551616) (ha3 : a3 < 18446744073709551616)
    (hb0 : b0 < 18446744073709551616) (hb1 : b1 < 18446744073709551616) (hb2 : b2 < 18446744073709551616) (hb3 : b3 < 18446744073709551616) (w : World) :
    Calls Tryz.prog 182 #[num a0 a1 a2 a3, num b0 b1 b2 b3] w fun e w' => (∃ l0 l1 l2 l3 l4 l5 l6 l7 : Nat, (l0 < 18446744073709551616 ∧ l1 < 18446744073709551616 ∧ l2 < 18446744073709551616 ∧ l3 < 18446744073709551616) ∧ (l4 < 18446744073709551616 ∧ l5 < 18446744073709551616 ∧ l6 < 18446744073709551616 ∧ l7 < 18446744073709551616) ∧ v4 l0 l1 l2 l3 + W256 * v4 l4 l5 l6 l7 = v4 a0 a1 a2 a3 * v4 b0 b1 b2 b3 ∧ e = .returned (num8 l0 l1 l2 l3 l4 l5 l6 l7)) ∧ Below w.heap.size w w' := by
  have z : (0 : Nat) < 18446744073709551616 := by decide
  obtain ⟨n00, k00, hn00, hk00, e00, q00⟩ := times_det (a := a0) (b := b0) (c := 0) (d := 0) ha0 hb0 z z
  obtain ⟨n01, k01, hn01, hk01, e01, q01⟩ := times_det (a := a0) (b := b1) (c := 0) (d := k00) ha0 hb1 z hk00
  obtain ⟨n02, k02, hn02, hk02, e02, q02⟩ := times_det (a := a0) (b := b2) (c := 0) (d := k01) ha0 hb2 z hk01
  obtain ⟨n03, k03, hn03, hk03, e03, q03⟩ := times_det (a := a0) (b := b3) (c := 0) (d := k02) ha0 hb3 z hk02
  obtain ⟨n10, k10, hn10, hk10, e10, q10⟩ := times_det (a := a1) (b := b0) (c := n01) (d := 0) ha1 hb0 hn01 z
  obtain ⟨n11, k11, hn11, hk11, e11, q11⟩ := times_det (a := a1) (b := b1) (c := n02) (d := k10) ha1 hb1 hn02 hk10
  obtain ⟨n12, k12, hn12, hk12, e12, q12⟩ := times_det (a := a1) (b := b2) (c := n03) (d := k11) ha1 hb2 hn03 hk11
  obtain ⟨n13, k13, hn13, hk13, e13, q13⟩ := times_det (a := a1) (b := b3) (c := k03) (d := k12) ha1 hb3 hk03 hk12
  obtain ⟨n20, k20, hn20, hk20, e20, q20⟩ := times_det (a := a2) (b := b0) (c := n11) (d := 0) ha2 hb0 hn11 z
  obtain ⟨n21, k21, hn21, hk21, e21, q21⟩ := times_det (a := a2) (b := b1) (c := n12) (d := k20) ha2 hb1 hn12 hk20
  obtain ⟨n22, k22, hn22, hk22, e22, q22⟩ := times_det (a := a2) (b := b2) (c := n13) (d := k21) ha2 hb2 hn13 hk21
  obtain ⟨n23, k23, hn23, hk23, e23, q23⟩ := times_det (a := a2) (b := b3) (c := k13) (d := k22) ha2 hb3 hk13 hk22
  obtain ⟨n30, k30, hn30, hk30, e30, q30⟩ := times_det (a := a3) (b := b0) (c := n21) (d := 0) ha3 hb0 hn21 z
  obtain ⟨n31, k31, hn31, hk31, e31, q31⟩ := times_det (a := a3) (b := b1) (c := n22) (d := k30) ha3 hb1 hn22 hk30
  obtain ⟨n32, k32, hn32, hk32, e32, q32⟩ := times_det (a := a3) (b := b2) (c := n23) (d := k31) ha3 hb2 hn23 hk31
  obtain ⟨n33, k33, hn33, hk33, e33, q33⟩ := times_det (a := a3) (b := b3) (c := k23) (d := k32) ha3 hb3 hk23 hk32
  have r0 := row_arith (a := a0) (b0 := b0) (b1 := b1) (b2 := b2) (b3 := b3) (c0 := 0) (c1 := 0) (c2 := 0) (c3 := 0) e00 e01 e02 e03
  have r1 := row_arith (a := a1) (b0 := b0) (b1 := b1) (b2 := b2) (b3 := b3) (c0 := n01) (c1 := n02) (c2 := n03) (c3 := k03) e10 e11 e12 e13
  have r2 := row_arith (a := a2) (b0 := b0) (b1 := b1) (b2 := b2) (b3 := b3) (c0 := n11) (c1 := n12) (c2 := n13) (c3 := k13) e20 e21 e22 e23
  have r3 := row_arith (a := a3) (b0 := b0) (b1 := b1) (b2 := b2) (b3 := b3) (c0 := n21) (c1 := n22) (c2 := n23) (c3 := k23) e30 e31 e32 e33
  have HF : Hid (v4 n00 n10 n20 n30 + W256 * v4 n31 n32 n33 k33 = v4 a0 a1 a2 a3 * v4 b0 b1 b2 b3) := Lib.hid (by
    have e : v4 a0 a1 a2 a3 * v4 b0 b1 b2 b3 = a0 * v4 b0 b1 b2 b3 + 18446744073709551616 * (a1 * v4 b0 b1 b2 b3 + 18446744073709551616 * (a2 * v4 b0 b1 b2 b3 + 18446744073709551616 * (a3 * v4 b0 b1 b2 b3))) := by
      generalize v4 b0 b1 b2 b3 = V
      unfold v4
      simp only [Nat.add_mul, Nat.mul_assoc]
    rw [e]
    clear e e00 e01 e02 e03 e10 e11 e12 e13 e20 e21 e22 e23 e30 e31 e32 e33
    generalize a0 * v4 b0 b1 b2 b3 = t0 at *
    generalize a1 * v4 b0 b1 b2 b3 = t1 at *
    generalize a2 * v4 b0 b1 b2 b3 = t2 at *
    generalize a3 * v4 b0 b1 b2 b3 = t3 at *
    unfold v4 W256 at *
    omega)
  have HB := Lib.hid (show (n00 < 18446744073709551616 ∧ n10 < 18446744073709551616 ∧ n20 < 18446744073709551616 ∧ n30 < 18446744073709551616) ∧ (n31 < 18446744073709551616 ∧ n32 < 18446744073709551616 ∧ n33 < 18446744073709551616 ∧ k33 < 18446744073709551616) from ⟨⟨hn00, hn10, hn20, hn30⟩, hn31, hn32, hn33, hk33⟩)
  have Q00 := Lib.hid q00
  have Q01 := Lib.hid q01
  have Q02 := Lib.hid q02
  have Q03 := Lib.hid q03
  have Q10 := Lib.hid q10
  have Q11 := Lib.hid q11
  have Q12 := Lib.hid q12
  have Q13 := Lib.hid q13
  have Q20 := Lib.hid q20
  have Q21 := Lib.hid q21
  have Q22 := Lib.hid q22
  have Q23 := Lib.hid q23
  have Q30 := Lib.hid q30
  have Q31 := Lib.hid q31
  have Q32 := Lib.hid q32
  have Q33 := Lib.hid q33
  clear z r0 r1 r2 r3 hn00 hk00 e00 q00 hn01 hk01 e01 q01 hn02 hk02 e02 q02 hn03 hk03 e03 q03 hn10 hk10 e10 q10 hn11 hk11 e11 q11 hn12 hk12 e12 q12 hn13 hk13 e13 q13 hn20 hk20 e20 q20 hn21 hk21 e21 q21 hn22 hk22 e22 q22 hn23 hk23 e23 q23 hn30 hk30 e30 q30 hn31 hk31 e31 q31 hn32 hk32 e32 q32 hn33 hk33 e33 q33 ha0 ha1 ha2 ha3 hb0 hb1 hb2 hb3
  have w0 : IntKind.i64.wrap 0 = 0 := by rw [IntKind.wrap_i64]; rfl
  have w1 : IntKind.i64.wrap 1 = 1 := by rw [IntKind.wrap_i64]; rfl
  have w2 : IntKind.i64.wrap 2 = 2 := by rw [IntKind.wrap_i64]; rfl
  have w3 : IntKind.i64.wrap 3 = 3 := by rw [IntKind.wrap_i64]; rfl
  have w4 : IntKind.i64.wrap 4 = 4 := by rw [IntKind.wrap_i64]; rfl
  have w5 : IntKind.i64.wrap 5 = 5 := by rw [IntKind.wrap_i64]; rfl
  have w6 : IntKind.i64.wrap 6 = 6 := by rw [IntKind.wrap_i64]; rfl
  have w7 : IntKind.i64.wrap 7 = 7 := by rw [IntKind.wrap_i64]; rfl
  unfold num
  go_enter Tryz.func182, Tryz.ntmps182
  go_wp2_with fail
  refine wp_loop_rounds 5 ?_
  rw [rounds_succ]
  go_wp2_with fail
  refine wp_loop_rounds 5 ?_
  rw [rounds_succ]
  go_wp2_with fail
  refine r9 w.heap.size (w.heap.size + 1) (w.heap.size + 1 + 1 + 1) 0 0 a0 b0 0 0 n00 k00 (by decide) (by decide) _ (by go_cell) (by go_cell) (by go_cell) (by simp [go_sem]) Q00 ?_
  intros
  simp only [Nat.reduceAdd, Nat.zero_add, Nat.add_zero]
  clear Q00
  go_wp2_with fail
  rw [rounds_succ]
  go_wp2_with fail
  refine r9 w.heap.size (w.heap.size + 1) (w.heap.size + 1 + 1 + 1) 0 1 a0 b1 0 k00 n01 k01 (by decide) (by decide) _ (by go_cell) (by go_cell) (by go_cell) (by simp [go_sem]) Q01 ?_
  intros
  simp only [Nat.reduceAdd, Nat.zero_add, Nat.add_zero]
  clear Q01
  go_wp2_with fail
  rw [rounds_succ]
  go_wp2_with fail
  refine r9 w.heap.size (w.heap.size + 1) (w.heap.size + 1 + 1 + 1) 0 2 a0 b2 0 k01 n02 k02 (by decide) (by decide) _ (by go_cell) (by go_cell) (by go_cell) (by simp [go_sem]) Q02 ?_
  intros
  simp only [Nat.reduceAdd, Nat.zero_add, Nat.add_zero]
  clear Q02
  go_wp2_with fail
  rw [rounds_succ]
  go_wp2_with fail
  refine r9 w.heap.size (w.heap.size + 1) (w.heap.size + 1 + 1 + 1) 0 3 a0 b3 0 k02 n03 k03 (by decide) (by decide) _ (by go_cell) (by go_cell) (by go_cell) (by simp [go_sem]) Q03 ?_
  intros
  simp only [Nat.reduceAdd, Nat.zero_add, Nat.add_zero]
  clear Q03
  go_wp2_with fail
  rw [rounds_succ]
  go_wp2_with fail
  rw [rounds_succ]
  go_wp2_with fail
  refine wp_loop_rounds 5 ?_
  rw [rounds_succ]
  go_wp2_with fail
  refine r9 w.heap.size (w.heap.size + 1) (w.heap.size + 1 + 1 + 1) 1 0 a1 b0 n01 0 n10 k10 (by decide) (by decide) _ (by go_cell) (by go_cell) (by go_cell) (by simp [go_sem]) Q10 ?_
  intros
  simp only [Nat.reduceAdd, Nat.zero_add, Nat.add_zero]
  clear Q10
  go_wp2_with fail
  rw [rounds_succ]
  go_wp2_with fail
  refine r9 w.heap.size (w.heap.size + 1) (w.heap.size + 1 + 1 + 1) 1 1 a1 b1 n02 k10 n11 k11 (by decide) (by decide) _ (by go_cell) (by go_cell) (by go_cell) (by simp [go_sem]) Q11 ?_
  intros
  simp only [Nat.reduceAdd, Nat.zero_add, Nat.add_zero]
  clear Q11
  go_wp2_with fail
  rw [rounds_succ]
  go_wp2_with fail
  refine r9 w.heap.size (w.heap.size + 1) (w.heap.size + 1 + 1 + 1) 1 2 a1 b2 n03 k11 n12 k12 (by decide) (by decide) _ (by go_cell) (by go_cell) (by go_cell) (by simp [go_sem]) Q12 ?_
  intros
  simp only [Nat.reduceAdd, Nat.zero_add, Nat.add_zero]
  clear Q12
  go_wp2_with fail
  rw [rounds_succ]
  go_wp2_with fail
  refine r9 w.heap.size (w.heap.size + 1) (w.heap.size + 1 + 1 + 1) 1 3 a1 b3 k03 k12 n13 k13 (by decide) (by decide) _ (by go_cell) (by go_cell) (by go_cell) (by simp [go_sem]) Q13 ?_
  intros
  simp only [Nat.reduceAdd, Nat.zero_add, Nat.add_zero]
  clear Q13
  go_wp2_with fail
  rw [rounds_succ]
  go_wp2_with fail
  rw [rounds_succ]
  go_wp2_with fail
  refine wp_loop_rounds 5 ?_
  rw [rounds_succ]
  go_wp2_with fail
  refine r9 w.heap.size (w.heap.size + 1) (w.heap.size + 1 + 1 + 1) 2 0 a2 b0 n11 0 n20 k20 (by decide) (by decide) _ (by go_cell) (by go_cell) (by go_cell) (by simp [go_sem]) Q20 ?_
  intros
  simp only [Nat.reduceAdd, Nat.zero_add, Nat.add_zero]
  clear Q20
  go_wp2_with fail
  rw [rounds_succ]
  go_wp2_with fail
  refine r9 w.heap.size (w.heap.size + 1) (w.heap.size + 1 + 1 + 1) 2 1 a2 b1 n12 k20 n21 k21 (by decide) (by decide) _ (by go_cell) (by go_cell) (by go_cell) (by simp [go_sem]) Q21 ?_
  intros
  simp only [Nat.reduceAdd, Nat.zero_add, Nat.add_zero]
  clear Q21
  go_wp2_with fail
  rw [rounds_succ]
  go_wp2_with fail
  refine r9 w.heap.size (w.heap.size + 1) (w.heap.size + 1 + 1 + 1) 2 2 a2 b2 n13 k21 n22 k22 (by decide) (by decide) _ (by go_cell) (by go_cell) (by go_cell) (by simp [go_sem]) Q22 ?_
  intros
  simp only [Nat.reduceAdd, Nat.zero_add, Nat.add_zero]
  clear Q22
  go_wp2_with fail
  rw [rounds_succ]
  go_wp2_with fail
  refine r9 w.heap.size (w.heap.size + 1) (w.heap.size + 1 + 1 + 1) 2 3 a2 b3 k13 k22 n23 k23 (by decide) (by decide) _ (by go_cell) (by go_cell) (by go_cell) (by simp [go_sem]) Q23 ?_
  intros
  simp only [Nat.reduceAdd, Nat.zero_add, Nat.add_zero]
  clear Q23
  go_wp2_with fail
  rw [rounds_succ]
  go_wp2_with fail
  rw [rounds_succ]
  go_wp2_with fail
  refine wp_loop_rounds 5 ?_
  rw [rounds_succ]
  go_wp2_with fail
  refine r9 w.heap.size (w.heap.size + 1) (w.heap.size + 1 + 1 + 1) 3 0 a3 b0 n21 0 n30 k30 (by decide) (by decide) _ (by go_cell) (by go_cell) (by go_cell) (by simp [go_sem]) Q30 ?_
  intros
  simp only [Nat.reduceAdd, Nat.zero_add, Nat.add_zero]
  clear Q30
  go_wp2_with fail
  rw [rounds_succ]
  go_wp2_with fail
  refine r9 w.heap.size (w.heap.size + 1) (w.heap.size + 1 + 1 + 1) 3 1 a3 b1 n22 k30 n31 k31 (by decide) (by decide) _ (by go_cell) (by go_cell) (by go_cell) (by simp [go_sem]) Q31 ?_
  intros
  simp only [Nat.reduceAdd, Nat.zero_add, Nat.add_zero]
  clear Q31
  go_wp2_with fail
  rw [rounds_succ]
  go_wp2_with fail
  refine r9 w.heap.size (w.heap.size + 1) (w.heap.size + 1 + 1 + 1) 3 2 a3 b2 n23 k31 n32 k32 (by decide) (by decide) _ (by go_cell) (by go_cell) (by go_cell) (by simp [go_sem]) Q32 ?_
  intros
  simp only [Nat.reduceAdd, Nat.zero_add, Nat.add_zero]
  clear Q32
  go_wp2_with fail
  rw [rounds_succ]
  go_wp2_with fail
  refine r9 w.heap.size (w.heap.size + 1) (w.heap.size + 1 + 1 + 1) 3 3 a3 b3 k23 k32 n33 k33 (by decide) (by decide) _ (by go_cell) (by go_cell) (by go_cell) (by simp [go_sem]) Q33 ?_
  intros
  simp only [Nat.reduceAdd, Nat.zero_add, Nat.add_zero]
  clear Q33
  go_wp2_with fail
  rw [rounds_succ]
  go_wp2_with fail
  rw [rounds_succ]
  go_wp2_with fail
  refine ret_cell8 rfl (w.heap.size + 1 + 1) _ _ _ _ _ _ _ _ rfl ?_ rfl ⟨⟨n00, n10, n20, n30, n31, n32, n33, k33, HB.out.1, HB.out.2, HF.out, rfl⟩, by go_grown⟩
  repeat (refine Bk.drew ?_)
  exact Bk.alloc (Bk.new (by simp))
theorem product_nv (a b : Nat) (ha : a < W256) (hb : b < W256) (w : World) :
    Calls Tryz.prog 182 #[nv a, nv b] w fun e w' => (∃ l0 l1 l2 l3 l4 l5 l6 l7 : Nat, (l0 < 18446744073709551616 ∧ l1 < 18446744073709551616 ∧ l2 < 18446744073709551616 ∧ l3 < 18446744073709551616) ∧ (l4 < 18446744073709551616 ∧ l5 < 18446744073709551616 ∧ l6 < 18446744073709551616 ∧ l7 < 18446744073709551616) ∧ v4 l0 l1 l2 l3 + W256 * v4 l4 l5 l6 l7 = a * b ∧ e = .returned (num8 l0 l1 l2 l3 l4 l5 l6 l7)) ∧ Below w.heap.size w w' := by
  have h := product_any (lb_lt a 0) (lb_lt a 1) (lb_lt a 2) (lb_lt a 3) (lb_lt b 0) (lb_lt b 1) (lb_lt b 2) (lb_lt b 3) w
  rw [v4_lb ha, v4_lb hb] at h
  exact h
noncomputable def ops19 (n : Nat) : Array Oper := (Tryz.f156.body.bind fun c => findR c n).getD #[]
noncomputable def ops15 (n : Nat) : Array Oper := (Tryz.f141.body.bind fun c => findR c n).getD #[]
noncomputable def ops17 (n : Nat) : Array Oper := (Tryz.f73.body.bind fun c => findR c n).getD #[]
theorem cell_alloc_old {w : World} {o : Obj} {g i : Nat} (h : g < w.heap.size) : (w.alloc o).cell? ⟨g, i, none⟩ = w.cell? ⟨g, i, none⟩ :=
  ((Below.refl w.heap.size w).alloc (Nat.le_refl _) o).cell (p := ⟨g, i, none⟩) h
theorem Bk.all4 {w : World} {g : Nat} {x0 x1 x2 x3 : Value} (h : Bk 24 w g #[x0, x1, x2, x3]) : ((∀ w', Below w.heap.size w w' → w'.cell? ⟨g, 0, none⟩ = some x0) ∧ (∀ w', Below w.heap.size w w' → w'.cell? ⟨g, 1, none⟩ = some x1) ∧ (∀ w', Below w.heap.size w w' → w'.cell? ⟨g, 2, none⟩ = some x2) ∧ (∀ w', Below w.heap.size w w' → w'.cell? ⟨g, 3, none⟩ = some x3)) ∧ (∀ w' o, Below w.heap.size w w' → (w'.alloc o).cell? ⟨g, 0, none⟩ = some x0) ∧ (∀ w' o, Below w.heap.size w w' → (w'.alloc o).cell? ⟨g, 1, none⟩ = some x1) ∧ (∀ w' o, Below w.heap.size w w' → (w'.alloc o).cell? ⟨g, 2, none⟩ = some x2) ∧ (∀ w' o, Below w.heap.size w w' → (w'.alloc o).cell? ⟨g, 3, none⟩ = some x3) :=
  ⟨⟨fun _ hB => (h.below hB).cell 0, fun _ hB => (h.below hB).cell 1, fun _ hB => (h.below hB).cell 2, fun _ hB => (h.below hB).cell 3⟩, fun _ _ hB => (h.below hB).alloc.cell 0, fun _ _ hB => (h.below hB).alloc.cell 1, fun _ _ hB => (h.below hB).alloc.cell 2, fun _ _ hB => (h.below hB).alloc.cell 3⟩
theorem kp {W w' : World} (hb : Below W.heap.size W w') : (∀ g i, g < W.heap.size → w'.cell? ⟨g, i, none⟩ = W.cell? ⟨g, i, none⟩) ∧ (∀ g i, g < W.heap.size → w'.frozen? ⟨g, i, none⟩ = W.frozen? ⟨g, i, none⟩) :=
  ⟨fun g i h => hb.cell (p := ⟨g, i, none⟩) h, fun g i h => hb.frozen (p := ⟨g, i, none⟩) h⟩
set_option maxHeartbeats 16000000 in
theorem m3 (gl gM M l4 l5 l6 l7 r : Nat) (w : World) (hgl : gl < w.heap.size) (k4 : w.cell? ⟨gl, 4, none⟩ = some (.int .u64 (l4 : Int))) (k5 : w.cell? ⟨gl, 5, none⟩ = some (.int .u64 (l5 : Int))) (k6 : w.cell? ⟨gl, 6, none⟩ = some (.int .u64 (l6 : Int))) (k7 : w.cell? ⟨gl, 7, none⟩ = some (.int .u64 (l7 : Int))) (KM : Bk 24 w gM (cs4 M)) (HQ : Hid (∀ w, Calls Tryz.prog 132 #[.agg #[.int .u64 (l4 : Int), .int .u64 (l5 : Int), .int .u64 (l6 : Int), .int .u64 (l7 : Int)], nv M] w fun e w' => e = .returned (nv r) ∧ Below w.heap.size w w'))
    {t0 t1 t2 t3 t4 t5 t6 t9 t10 t11 t12 t13 t14 t15 t16 t17 t18 t19 t20 t21 t22 t23 t24 t25 t26 t27 t28 t29 t30 t31 t32 : Value} {ds : List Deferred} {K : Act → World → Prop} {Q : Exit → Act → World → Prop}
    (h : ∀ (x16 x17 x18 x19 x20 : Value) (g : Nat) (w' : World) (hb : Below w.heap.size w w') (hg : w.heap.size ≤ g) (hk : Bk 24 w' g (cs4 r)), K { tmps := #[t0, t1, t2, t3, t4, t5, t6, .pointer (some ⟨gM, 0, none⟩), .pointer (some ⟨gl, 0, none⟩), .pointer (some ⟨g, 0, none⟩), t10, t11, t12, t13, t14, t15, x16, x17, x18, x19, x20, t21, t22, t23, t24, t25, t26, t27, t28, t29, t30, t31, t32], defers := ds } w') :
    (Code.region 3 (ops19 3) true).wp Tryz.prog (Exit.then K Q) { tmps := #[t0, t1, t2, t3, t4, t5, t6, .pointer (some ⟨gM, 0, none⟩), .pointer (some ⟨gl, 0, none⟩), t9, t10, t11, t12, t13, t14, t15, t16, t17, t18, t19, t20, t21, t22, t23, t24, t25, t26, t27, t28, t29, t30, t31, t32], defers := ds } w := by
  simp only [ops19, findR, Tryz.f156, Option.bind_some, Option.or, Option.getD, Nat.reduceEqDiff, if_true, if_false, reduceIte]
  have HH := Lib.hid h
  clear h
  refine Code.wp_mono (Q := Exit.then K (fun _ _ _ => False)) (fun e a w h => by cases e <;> first | exact h | exact h.elim) ?_
  have hat : ∀ w, (Instr.arrayAt 24 (.slice (some ⟨gl, 4, none⟩) 4 4)).run Tryz.prog w = .ok (.pointer (some ⟨gl, 4, none⟩)) w := fun w => run_arrayAt w 24 22 4 _ 4 4 u24 (by decide)
  obtain ⟨m0, m1, m2, m3⟩ := KM.cells
  obtain ⟨n0, n1, n2, n3⟩ := KM.cellsA
  have z4 : ∀ o, (w.alloc o).cell? ⟨gl, 4, none⟩ = some (.int .u64 (l4 : Int)) := fun o => by rw [← k4]; exact cell_alloc_old hgl
  have z5 : ∀ o, (w.alloc o).cell? ⟨gl, 5, none⟩ = some (.int .u64 (l5 : Int)) := fun o => by rw [← k5]; exact cell_alloc_old hgl
  have z6 : ∀ o, (w.alloc o).cell? ⟨gl, 6, none⟩ = some (.int .u64 (l6 : Int)) := fun o => by rw [← k6]; exact cell_alloc_old hgl
  have z7 : ∀ o, (w.alloc o).cell? ⟨gl, 7, none⟩ = some (.int .u64 (l7 : Int)) := fun o => by rw [← k7]; exact cell_alloc_old hgl
  simp only [nv, num] at HQ
  go_region_law (go_simp; go_at_call 132; refine (keep w.heap.size w (HQ.out _) (by go_grown) (Nat.le_refl _)).mono ?_; rintro e w' ⟨rfl, hB, hb⟩; obtain ⟨hc, hf⟩ := kp hb)
  all_goals have hs := hB.size
  all_goals first
    | exact HH.out _ _ _ _ _ _ _ (by go_grown) hs (Bk.new rfl)
    | exact HH.out _ _ _ _ _ _ _ (by go_grown) (Nat.le_refl _) (Bk.put (Bk.below (Bk.drew (Bk.new rfl)) hb))
end Go.Proofs.YtpggkfdijmnmiaaGreat
namespace Go.Proofs.YtpggkfdijmnmiaaGreat
open Go.RowKit
section
variable {P : Program} {ops : Array Oper} {md : Region.Mode} {Q : Exit → Act → World → Prop}
def left (l : Array Bool) : Nat := (l.toList.filter (fun x => !x)).length
theorem left_set_list : ∀ (l : List Bool) (i : Nat) (h : i < l.length), l[i] = false → ((l.set i true).filter (fun x => !x)).length + 1 = (l.filter (fun x => !x)).length
  | x :: l, 0, h, hx => by
    have : x = false := hx
    subst this
    simp
  | x :: l, i + 1, h, hx => by
    have ih := left_set_list l i (by simpa using h) (by simpa using hx)
    cases x <;> simp [List.filter_cons] <;> omega
theorem left_set {l : Array Bool} {i : Nat} (h : l.getD i true = false) : left (l.setIfInBounds i true) + 1 = left l := by
  have hi : i < l.size := by
    rcases Nat.lt_or_ge i l.size with h' | h'
    · exact h'
    · simp [Array.getElem?_eq_none h'] at h
  have hx : l[i] = false := by simpa [hi] using h
  unfold left
  have := left_set_list l.toList i (by simpa using hi) (by simpa using hx)
  simpa [Array.toList_setIfInBounds, hi] using this
theorem ready_left {l : Array Bool} {i : Nat} (h : i ∈ Region.ready md ops l) : 0 < left l := by
  have := left_set (mem_ready.1 h).1
  omega
theorem wpAny_inv {I : Array Bool → Act → World → Prop} (step : ∀ l a w, I l a w → ∀ i ∈ Region.ready md ops l, wpOp P ops Q i (fun a' w' => I (l.setIfInBounds i true) a' w') a w)
    (fin : ∀ l a w, I l a w → Region.ready md ops l = [] → Q .normal a w) : ∀ (fuel : Nat) (l : Array Bool) (a : Act) (w : World), left l ≤ fuel → I l a w → wpAny P md ops Q fuel l a w
  | 0, l, a, w, hf, h => by
    have h0 : Region.ready md ops l = [] := by
      rw [List.eq_nil_iff_forall_not_mem]
      intro i hi
      have := ready_left hi
      omega
    exact ⟨h0, fin l a w h h0⟩
  | fuel + 1, l, a, w, hf, h => by
    refine ⟨fin l a w h, fun i hi => ?_⟩
    have hl := left_set (mem_ready.1 hi).1
    exact wpOp_mono (fun a' w' h' => wpAny_inv step fin fuel _ a' w' (by omega) h') (step l a w h i hi)
theorem wpOp_of {i : Nat} {o : Oper} {K : Act → World → Prop} {a : Act} {w : World} (hi : ops[i]? = some o) (hg : o.guard = none) (h : o.wp P a w K Q) : wpOp P ops Q i K a w := by
  unfold wpOp
  simp only [hi]
  rw [if_pos (by simp [Region.wanted, hg])]
  exact .inl h
end
end Go.Proofs.YtpggkfdijmnmiaaGreat
namespace Go.Proofs.YtpggkfdijmnmiaaGreat
open Go.RowKit Limbs
def a2I (w0 : World) (ga gb gM c a0 a1 a2 a3 b0 b1 b2 b3 m0 m1 m2 m3 p0 p1 p2 p3 q0 q1 q2 q3 s0 s1 s2 s3 : Nat) (t0 t1 t2 t3 t6 t10 t11 t12 t13 t24 t25 t26 t27 t28 t29 t30 t31 t32 t33 t34 : Value) (ds : List Deferred) (l : Array Bool) (a : Act) (w : World) : Prop :=
  ∃ j0 j1 j2 j3 j4 j5 j6 j7 j8 j9 j10 j11 j12 : Bool, ∃ x0 x1 x2 x3 x4 x5 x6 x7 x8 x9 x10 x12 : Value, l = #[j0, j1, j2, j3, j4, j5, j6, j7, j8, j9, j10, j11, j12] ∧ a = { tmps := #[t0, t1, t2, t3, .pointer (some ⟨ga, 0, none⟩), .pointer (some ⟨gb, 0, none⟩), t6, .pointer (some ⟨gM, 0, none⟩), x10, x12, t10, t11, t12, t13, x7, x0, x1, x2, x3, x4, x5, x6, x8, x9, t24, t25, t26, t27, t28, t29, t30, t31, t32, t33, t34], defers := ds } ∧ Below w0.heap.size w0 w ∧
  (j0 = true → x0 = .agg #[.int .u64 (a0 : Int), .int .u64 (a1 : Int), .int .u64 (a2 : Int), .int .u64 (a3 : Int)]) ∧ (j1 = true → x1 = .agg #[.int .u64 (m0 : Int), .int .u64 (m1 : Int), .int .u64 (m2 : Int), .int .u64 (m3 : Int)]) ∧ (j2 = true → x2 = .agg #[.int .u64 (p0 : Int), .int .u64 (p1 : Int), .int .u64 (p2 : Int), .int .u64 (p3 : Int)]) ∧ (j3 = true → x3 = .agg #[.int .u64 (b0 : Int), .int .u64 (b1 : Int), .int .u64 (b2 : Int), .int .u64 (b3 : Int)]) ∧ (j4 = true → x4 = .agg #[.int .u64 (m0 : Int), .int .u64 (m1 : Int), .int .u64 (m2 : Int), .int .u64 (m3 : Int)]) ∧ (j5 = true → x5 = .agg #[.int .u64 (q0 : Int), .int .u64 (q1 : Int), .int .u64 (q2 : Int), .int .u64 (q3 : Int)]) ∧ (j6 = true → x6 = .tuple #[.agg #[.int .u64 (s0 : Int), .int .u64 (s1 : Int), .int .u64 (s2 : Int), .int .u64 (s3 : Int)], .int .u64 (c : Int)]) ∧ (j7 = true → x7 = .tuple #[.agg #[.int .u64 (s0 : Int), .int .u64 (s1 : Int), .int .u64 (s2 : Int), .int .u64 (s3 : Int)], .int .u64 (c : Int)]) ∧ (j8 = true → x8 = .agg #[.int .u64 (s0 : Int), .int .u64 (s1 : Int), .int .u64 (s2 : Int), .int .u64 (s3 : Int)]) ∧ (j9 = true → x9 = .int .u64 (c : Int)) ∧
  (j10 = true → ∃ (g : Nat) (z0 z1 z2 z3 : Value), x10 = .pointer (some ⟨g, 0, none⟩) ∧ w0.heap.size ≤ g ∧ Bk 24 w g #[z0, z1, z2, z3] ∧ (j11 = true → #[z0, z1, z2, z3] = #[.int .u64 (s0 : Int), .int .u64 (s1 : Int), .int .u64 (s2 : Int), .int .u64 (s3 : Int)])) ∧ (j12 = true → x12 = .int .u64 (c : Int)) ∧ (j11 = true → j10 = true)
set_option maxHeartbeats 16000000 in
theorem a2_steps (ga gb gM c a0 a1 a2 a3 b0 b1 b2 b3 m0 m1 m2 m3 p0 p1 p2 p3 q0 q1 q2 q3 s0 s1 s2 s3 : Nat) (w : World) (KA : Bk 24 w ga #[.int .u64 (a0 : Int), .int .u64 (a1 : Int), .int .u64 (a2 : Int), .int .u64 (a3 : Int)]) (KB : Bk 24 w gb #[.int .u64 (b0 : Int), .int .u64 (b1 : Int), .int .u64 (b2 : Int), .int .u64 (b3 : Int)]) (KM : Bk 24 w gM #[.int .u64 (m0 : Int), .int .u64 (m1 : Int), .int .u64 (m2 : Int), .int .u64 (m3 : Int)]) (HA : Hid (∀ w, Calls Tryz.prog 132 #[.agg #[.int .u64 (a0 : Int), .int .u64 (a1 : Int), .int .u64 (a2 : Int), .int .u64 (a3 : Int)], .agg #[.int .u64 (m0 : Int), .int .u64 (m1 : Int), .int .u64 (m2 : Int), .int .u64 (m3 : Int)]] w fun e w' => e = .returned (.agg #[.int .u64 (p0 : Int), .int .u64 (p1 : Int), .int .u64 (p2 : Int), .int .u64 (p3 : Int)]) ∧ Below w.heap.size w w')) (HB : Hid (∀ w, Calls Tryz.prog 132 #[.agg #[.int .u64 (b0 : Int), .int .u64 (b1 : Int), .int .u64 (b2 : Int), .int .u64 (b3 : Int)], .agg #[.int .u64 (m0 : Int), .int .u64 (m1 : Int), .int .u64 (m2 : Int), .int .u64 (m3 : Int)]] w fun e w' => e = .returned (.agg #[.int .u64 (q0 : Int), .int .u64 (q1 : Int), .int .u64 (q2 : Int), .int .u64 (q3 : Int)]) ∧ Below w.heap.size w w')) (HC : Hid (∀ w, Calls Tryz.prog 133 #[.agg #[.int .u64 (p0 : Int), .int .u64 (p1 : Int), .int .u64 (p2 : Int), .int .u64 (p3 : Int)], .agg #[.int .u64 (q0 : Int), .int .u64 (q1 : Int), .int .u64 (q2 : Int), .int .u64 (q3 : Int)]] w fun e w' => e = .returned (.tuple #[.agg #[.int .u64 (s0 : Int), .int .u64 (s1 : Int), .int .u64 (s2 : Int), .int .u64 (s3 : Int)], .int .u64 (c : Int)]) ∧ Below w.heap.size w w'))
    {t0 t1 t2 t3 t6 t10 t11 t12 t13 t24 t25 t26 t27 t28 t29 t30 t31 t32 t33 t34 : Value} {ds : List Deferred} {Q : Exit → Act → World → Prop} :
    ∀ l a w', a2I w ga gb gM c a0 a1 a2 a3 b0 b1 b2 b3 m0 m1 m2 m3 p0 p1 p2 p3 q0 q1 q2 q3 s0 s1 s2 s3 t0 t1 t2 t3 t6 t10 t11 t12 t13 t24 t25 t26 t27 t28 t29 t30 t31 t32 t33 t34 ds l a w' → ∀ i ∈ Region.ready .any (ops15 2) l, wpOp Tryz.prog (ops15 2) Q i (fun a' w'' => a2I w ga gb gM c a0 a1 a2 a3 b0 b1 b2 b3 m0 m1 m2 m3 p0 p1 p2 p3 q0 q1 q2 q3 s0 s1 s2 s3 t0 t1 t2 t3 t6 t10 t11 t12 t13 t24 t25 t26 t27 t28 t29 t30 t31 t32 t33 t34 ds (l.setIfInBounds i true) a' w'') a w' := by
  simp only [ops15, findR, Tryz.f141, Option.bind_some, Option.or, Option.getD, Nat.reduceEqDiff, if_true, if_false, reduceIte]
  rintro l a w' ⟨j0, j1, j2, j3, j4, j5, j6, j7, j8, j9, j10, j11, j12, x0, x1, x2, x3, x4, x5, x6, x7, x8, x9, x10, x12, rfl, rfl, hB, h0, h1, h2, h3, h4, h5, h6, h7, h8, h9, h10, h11, h12⟩ i hi
  rw [mem_ready] at hi
  obtain ⟨hu, oo, ho, hd⟩ := hi
  have hi13 : i < 13 := by
    have := (Array.getElem?_eq_some_iff.1 ho).1
    simpa using this
  obtain ⟨⟨ca0, ca1, ca2, ca3⟩, -⟩ := Bk.all4 KA
  obtain ⟨⟨cb0, cb1, cb2, cb3⟩, -⟩ := Bk.all4 KB
  obtain ⟨⟨cm0, cm1, cm2, cm3⟩, -⟩ := Bk.all4 KM
  clear KA KB KM
  have hcase : i = 0 ∨ i = 1 ∨ i = 2 ∨ i = 3 ∨ i = 4 ∨ i = 5 ∨ i = 6 ∨ i = 7 ∨ i = 8 ∨ i = 9 ∨ i = 10 ∨ i = 11 ∨ i = 12 := by omega
  rcases hcase with rfl | rfl | rfl | rfl | rfl | rfl | rfl | rfl | rfl | rfl | rfl | rfl | rfl
  · obtain rfl := Option.some.inj ho
    simp [Region.binds] at hu hd
    refine wpOp_of rfl rfl ?_
    go_simp
    unfold a2I
    exact ⟨true, j1, j2, j3, j4, j5, j6, j7, j8, j9, j10, j11, j12, _, x1, x2, x3, x4, x5, x6, x7, x8, x9, x10, x12, rfl, rfl, hB, fun _ => rfl, h1, h2, h3, h4, h5, h6, h7, h8, h9, h10, h11, h12⟩
  · obtain rfl := Option.some.inj ho
    simp [Region.binds] at hu hd
    refine wpOp_of rfl rfl ?_
    go_simp
    unfold a2I
    exact ⟨j0, true, j2, j3, j4, j5, j6, j7, j8, j9, j10, j11, j12, x0, _, x2, x3, x4, x5, x6, x7, x8, x9, x10, x12, rfl, rfl, hB, h0, fun _ => rfl, h2, h3, h4, h5, h6, h7, h8, h9, h10, h11, h12⟩
  · obtain rfl := Option.some.inj ho
    simp [Region.binds] at hu hd
    have d0 : j0 = true := by simp [hd]
    have e0 := h0 d0
    subst e0
    have d1 : j1 = true := by simp [hd]
    have e1 := h1 d1
    subst e1
    subst d0
    subst d1
    refine wpOp_of rfl rfl ?_
    go_simp
    go_at_call 132
    refine (keep w.heap.size w (HA.out _) hB (Nat.le_refl _)).mono ?_
    rintro e w2 ⟨rfl, hB2, hb2⟩
    unfold a2I
    exact ⟨true, true, true, j3, j4, j5, j6, j7, j8, j9, j10, j11, j12, _, _, _, x3, x4, x5, x6, x7, x8, x9, x10, x12, rfl, rfl, hB2, h0, h1, fun _ => rfl, h3, h4, h5, h6, h7, h8, h9, (fun hj => by obtain ⟨g, z0, z1, z2, z3, e1, e2, e3, e4⟩ := h10 hj; exact ⟨g, z0, z1, z2, z3, e1, e2, e3.below hb2, e4⟩), h11, h12⟩
  · obtain rfl := Option.some.inj ho
    simp [Region.binds] at hu hd
    refine wpOp_of rfl rfl ?_
    go_simp
    unfold a2I
    exact ⟨j0, j1, j2, true, j4, j5, j6, j7, j8, j9, j10, j11, j12, x0, x1, x2, _, x4, x5, x6, x7, x8, x9, x10, x12, rfl, rfl, hB, h0, h1, h2, fun _ => rfl, h4, h5, h6, h7, h8, h9, h10, h11, h12⟩
  · obtain rfl := Option.some.inj ho
    simp [Region.binds] at hu hd
    refine wpOp_of rfl rfl ?_
    go_simp
    unfold a2I
    exact ⟨j0, j1, j2, j3, true, j5, j6, j7, j8, j9, j10, j11, j12, x0, x1, x2, x3, _, x5, x6, x7, x8, x9, x10, x12, rfl, rfl, hB, h0, h1, h2, h3, fun _ => rfl, h5, h6, h7, h8, h9, h10, h11, h12⟩
  · obtain rfl := Option.some.inj ho
    simp [Region.binds] at hu hd
    have d2 : j2 = true := by simp [hd]
    have e2 := h2 d2
    subst e2
    have d3 : j3 = true := by simp [hd]
    have e3 := h3 d3
    subst e3
    have d4 : j4 = true := by simp [hd]
    have e4 := h4 d4
    subst e4
    subst d2
    subst d3
    subst d4
    refine wpOp_of rfl rfl ?_
    go_simp
    go_at_call 132
    refine (keep w.heap.size w (HB.out _) hB (Nat.le_refl _)).mono ?_
    rintro e w2 ⟨rfl, hB2, hb2⟩
    unfold a2I
    exact ⟨j0, j1, true, true, true, true, j6, j7, j8, j9, j10, j11, j12, x0, x1, _, _, _, _, x6, x7, x8, x9, x10, x12, rfl, rfl, hB2, h0, h1, h2, h3, h4, fun _ => rfl, h6, h7, h8, h9, (fun hj => by obtain ⟨g, z0, z1, z2, z3, e1, e2, e3, e4⟩ := h10 hj; exact ⟨g, z0, z1, z2, z3, e1, e2, e3.below hb2, e4⟩), h11, h12⟩
  · obtain rfl := Option.some.inj ho
    simp [Region.binds] at hu hd
    have d2 : j2 = true := by simp [hd]
    have e2 := h2 d2
    subst e2
    have d5 : j5 = true := by simp [hd]
    have e5 := h5 d5
    subst e5
    subst d2
    subst d5
    refine wpOp_of rfl rfl ?_
    go_simp
    go_at_call 133
    refine (keep w.heap.size w (HC.out _) hB (Nat.le_refl _)).mono ?_
    rintro e w2 ⟨rfl, hB2, hb2⟩
    unfold a2I
    exact ⟨j0, j1, true, j3, j4, true, true, j7, j8, j9, j10, j11, j12, x0, x1, _, x3, x4, _, _, x7, x8, x9, x10, x12, rfl, rfl, hB2, h0, h1, h2, h3, h4, h5, fun _ => rfl, h7, h8, h9, (fun hj => by obtain ⟨g, z0, z1, z2, z3, e1, e2, e3, e4⟩ := h10 hj; exact ⟨g, z0, z1, z2, z3, e1, e2, e3.below hb2, e4⟩), h11, h12⟩
  · obtain rfl := Option.some.inj ho
    simp [Region.binds] at hu hd
    have d6 : j6 = true := by simp [hd]
    have e6 := h6 d6
    subst e6
    subst d6
    refine wpOp_of rfl rfl ?_
    go_simp
    unfold a2I
    exact ⟨j0, j1, j2, j3, j4, j5, true, true, j8, j9, j10, j11, j12, x0, x1, x2, x3, x4, x5, _, _, x8, x9, x10, x12, rfl, rfl, hB, h0, h1, h2, h3, h4, h5, h6, fun _ => rfl, h8, h9, h10, h11, h12⟩
  · obtain rfl := Option.some.inj ho
    simp [Region.binds] at hu hd
    have d7 : j7 = true := by simp [hd]
    have e7 := h7 d7
    subst e7
    subst d7
    refine wpOp_of rfl rfl ?_
    go_simp
    unfold a2I
    exact ⟨j0, j1, j2, j3, j4, j5, j6, true, true, j9, j10, j11, j12, x0, x1, x2, x3, x4, x5, x6, _, _, x9, x10, x12, rfl, rfl, hB, h0, h1, h2, h3, h4, h5, h6, h7, fun _ => rfl, h9, h10, h11, h12⟩
  · obtain rfl := Option.some.inj ho
    simp [Region.binds] at hu hd
    have d7 : j7 = true := by simp [hd]
    have e7 := h7 d7
    subst e7
    subst d7
    refine wpOp_of rfl rfl ?_
    go_simp
    unfold a2I
    exact ⟨j0, j1, j2, j3, j4, j5, j6, true, j8, true, j10, j11, j12, x0, x1, x2, x3, x4, x5, x6, _, x8, _, x10, x12, rfl, rfl, hB, h0, h1, h2, h3, h4, h5, h6, h7, h8, fun _ => rfl, h10, h11, h12⟩
  · obtain rfl := Option.some.inj ho
    simp [Region.binds] at hu hd
    refine wpOp_of rfl rfl ?_
    have hs := hB.size
    go_simp
    unfold a2I
    exact ⟨j0, j1, j2, j3, j4, j5, j6, j7, j8, j9, true, j11, j12, x0, x1, x2, x3, x4, x5, x6, x7, x8, x9, _, x12, rfl, rfl, (by go_grown), h0, h1, h2, h3, h4, h5, h6, h7, h8, h9, fun _ => ⟨_, _, _, _, _, rfl, hs, Bk.new rfl, fun hj => absurd (h12 hj) (by simp [hu])⟩, h11, fun _ => rfl⟩
  · obtain rfl := Option.some.inj ho
    simp [Region.binds] at hu hd
    have d0 : j0 = true := by simp [hd]
    have e0 := h0 d0
    subst e0
    have d1 : j1 = true := by simp [hd]
    have e1 := h1 d1
    subst e1
    have d2 : j2 = true := by simp [hd]
    have e2 := h2 d2
    subst e2
    have d3 : j3 = true := by simp [hd]
    have e3 := h3 d3
    subst e3
    have d4 : j4 = true := by simp [hd]
    have e4 := h4 d4
    subst e4
    have d5 : j5 = true := by simp [hd]
    have e5 := h5 d5
    subst e5
    have d6 : j6 = true := by simp [hd]
    have e6 := h6 d6
    subst e6
    have d7 : j7 = true := by simp [hd]
    have e7 := h7 d7
    subst e7
    have d8 : j8 = true := by simp [hd]
    have e8 := h8 d8
    subst e8
    have d10 : j10 = true := by simp [hd]
    subst d0
    subst d1
    subst d2
    subst d3
    subst d4
    subst d5
    subst d6
    subst d7
    subst d8
    subst d10
    refine wpOp_of rfl rfl ?_
    obtain ⟨g, z0, z1, z2, z3, e1, e2, e3, e4⟩ := h10 rfl
    subst e1
    obtain ⟨f0, f1, f2, f3⟩ := e3.fros
    obtain ⟨c0, c1, c2, c3⟩ := e3.cells
    go_simp
    unfold a2I
    exact ⟨true, true, true, true, true, true, true, true, true, j9, true, true, j12, _, _, _, _, _, _, _, _, _, x9, _, x12, rfl, rfl, (by go_grown), h0, h1, h2, h3, h4, h5, h6, h7, h8, h9, fun _ => ⟨g, _, _, _, _, rfl, e2, Bk.put e3, fun _ => rfl⟩, h11, fun _ => rfl⟩
  · obtain rfl := Option.some.inj ho
    simp [Region.binds] at hu hd
    have d0 : j0 = true := by simp [hd]
    have e0 := h0 d0
    subst e0
    have d1 : j1 = true := by simp [hd]
    have e1 := h1 d1
    subst e1
    have d2 : j2 = true := by simp [hd]
    have e2 := h2 d2
    subst e2
    have d3 : j3 = true := by simp [hd]
    have e3 := h3 d3
    subst e3
    have d4 : j4 = true := by simp [hd]
    have e4 := h4 d4
    subst e4
    have d5 : j5 = true := by simp [hd]
    have e5 := h5 d5
    subst e5
    have d6 : j6 = true := by simp [hd]
    have e6 := h6 d6
    subst e6
    have d7 : j7 = true := by simp [hd]
    have e7 := h7 d7
    subst e7
    have d8 : j8 = true := by simp [hd]
    have e8 := h8 d8
    subst e8
    have d9 : j9 = true := by simp [hd]
    have e9 := h9 d9
    subst e9
    have d10 : j10 = true := by simp [hd]
    have d11 : j11 = true := by simp [hd]
    subst d0
    subst d1
    subst d2
    subst d3
    subst d4
    subst d5
    subst d6
    subst d7
    subst d8
    subst d9
    subst d10
    subst d11
    refine wpOp_of rfl rfl ?_
    go_simp
    unfold a2I
    exact ⟨true, true, true, true, true, true, true, true, true, true, true, true, true, _, _, _, _, _, _, _, _, _, _, x10, _, rfl, rfl, hB, h0, h1, h2, h3, h4, h5, h6, h7, h8, h9, h10, fun _ => rfl, h12⟩
set_option maxHeartbeats 16000000 in
theorem a2_fin (ga gb gM c a0 a1 a2 a3 b0 b1 b2 b3 m0 m1 m2 m3 p0 p1 p2 p3 q0 q1 q2 q3 s0 s1 s2 s3 : Nat) (w : World) (KA : Bk 24 w ga #[.int .u64 (a0 : Int), .int .u64 (a1 : Int), .int .u64 (a2 : Int), .int .u64 (a3 : Int)]) (KB : Bk 24 w gb #[.int .u64 (b0 : Int), .int .u64 (b1 : Int), .int .u64 (b2 : Int), .int .u64 (b3 : Int)]) (KM : Bk 24 w gM #[.int .u64 (m0 : Int), .int .u64 (m1 : Int), .int .u64 (m2 : Int), .int .u64 (m3 : Int)])
    {t0 t1 t2 t3 t6 t10 t11 t12 t13 t24 t25 t26 t27 t28 t29 t30 t31 t32 t33 t34 : Value} {ds : List Deferred} : ∀ l a w', a2I w ga gb gM c a0 a1 a2 a3 b0 b1 b2 b3 m0 m1 m2 m3 p0 p1 p2 p3 q0 q1 q2 q3 s0 s1 s2 s3 t0 t1 t2 t3 t6 t10 t11 t12 t13 t24 t25 t26 t27 t28 t29 t30 t31 t32 t33 t34 ds l a w' → Region.ready .any (ops15 2) l = [] →
    ∃ (y0 y1 y2 y3 y4 y5 y6 y7 y8 y9 : Value) (g : Nat), a = { tmps := #[t0, t1, t2, t3, .pointer (some ⟨ga, 0, none⟩), .pointer (some ⟨gb, 0, none⟩), t6, .pointer (some ⟨gM, 0, none⟩), .pointer (some ⟨g, 0, none⟩), .int .u64 (c : Int), t10, t11, t12, t13, y7, y0, y1, y2, y3, y4, y5, y6, y8, y9, t24, t25, t26, t27, t28, t29, t30, t31, t32, t33, t34], defers := ds } ∧ Below w.heap.size w w' ∧ w.heap.size ≤ g ∧ Bk 24 w' g #[.int .u64 (s0 : Int), .int .u64 (s1 : Int), .int .u64 (s2 : Int), .int .u64 (s3 : Int)] := by
  simp only [ops15, findR, Tryz.f141, Option.bind_some, Option.or, Option.getD, Nat.reduceEqDiff, if_true, if_false, reduceIte]
  rintro l a w' ⟨j0, j1, j2, j3, j4, j5, j6, j7, j8, j9, j10, j11, j12, x0, x1, x2, x3, x4, x5, x6, x7, x8, x9, x10, x12, rfl, rfl, hB, h0, h1, h2, h3, h4, h5, h6, h7, h8, h9, h10, h11, h12⟩ hr
  have hn := fun i => List.eq_nil_iff_forall_not_mem.1 hr i
  clear hr
  cases j0; exact absurd (mem_ready.2 ⟨by simp, _, rfl, by simp [Region.binds]⟩) (hn 0)
  obtain rfl := h0 rfl
  cases j1; exact absurd (mem_ready.2 ⟨by simp, _, rfl, by simp [Region.binds]⟩) (hn 1)
  obtain rfl := h1 rfl
  cases j2; exact absurd (mem_ready.2 ⟨by simp, _, rfl, by simp [Region.binds]⟩) (hn 2)
  obtain rfl := h2 rfl
  cases j3; exact absurd (mem_ready.2 ⟨by simp, _, rfl, by simp [Region.binds]⟩) (hn 3)
  obtain rfl := h3 rfl
  cases j4; exact absurd (mem_ready.2 ⟨by simp, _, rfl, by simp [Region.binds]⟩) (hn 4)
  obtain rfl := h4 rfl
  cases j5; exact absurd (mem_ready.2 ⟨by simp, _, rfl, by simp [Region.binds]⟩) (hn 5)
  obtain rfl := h5 rfl
  cases j6; exact absurd (mem_ready.2 ⟨by simp, _, rfl, by simp [Region.binds]⟩) (hn 6)
  obtain rfl := h6 rfl
  cases j7; exact absurd (mem_ready.2 ⟨by simp, _, rfl, by simp [Region.binds]⟩) (hn 7)
  obtain rfl := h7 rfl
  cases j8; exact absurd (mem_ready.2 ⟨by simp, _, rfl, by simp [Region.binds]⟩) (hn 8)
  obtain rfl := h8 rfl
  cases j9; exact absurd (mem_ready.2 ⟨by simp, _, rfl, by simp [Region.binds]⟩) (hn 9)
  obtain rfl := h9 rfl
  cases j10; exact absurd (mem_ready.2 ⟨by simp, _, rfl, by simp [Region.binds]⟩) (hn 10)
  cases j11; exact absurd (mem_ready.2 ⟨by simp, _, rfl, by simp [Region.binds]⟩) (hn 11)
  cases j12; exact absurd (mem_ready.2 ⟨by simp, _, rfl, by simp [Region.binds]⟩) (hn 12)
  obtain rfl := h11 rfl
  obtain ⟨g, z0, z1, z2, z3, rfl, e2, e3, e4⟩ := h10 rfl
  rw [e4 rfl] at e3
  exact ⟨_, _, _, _, _, _, _, _, _, _, g, rfl, hB, e2, e3⟩
theorem a2 (ga gb gM c a0 a1 a2 a3 b0 b1 b2 b3 m0 m1 m2 m3 p0 p1 p2 p3 q0 q1 q2 q3 s0 s1 s2 s3 : Nat) (w : World) (KA : Bk 24 w ga #[.int .u64 (a0 : Int), .int .u64 (a1 : Int), .int .u64 (a2 : Int), .int .u64 (a3 : Int)]) (KB : Bk 24 w gb #[.int .u64 (b0 : Int), .int .u64 (b1 : Int), .int .u64 (b2 : Int), .int .u64 (b3 : Int)]) (KM : Bk 24 w gM #[.int .u64 (m0 : Int), .int .u64 (m1 : Int), .int .u64 (m2 : Int), .int .u64 (m3 : Int)]) (HA : Hid (∀ w, Calls Tryz.prog 132 #[.agg #[.int .u64 (a0 : Int), .int .u64 (a1 : Int), .int .u64 (a2 : Int), .int .u64 (a3 : Int)], .agg #[.int .u64 (m0 : Int), .int .u64 (m1 : Int), .int .u64 (m2 : Int), .int .u64 (m3 : Int)]] w fun e w' => e = .returned (.agg #[.int .u64 (p0 : Int), .int .u64 (p1 : Int), .int .u64 (p2 : Int), .int .u64 (p3 : Int)]) ∧ Below w.heap.size w w')) (HB : Hid (∀ w, Calls Tryz.prog 132 #[.agg #[.int .u64 (b0 : Int), .int .u64 (b1 : Int), .int .u64 (b2 : Int), .int .u64 (b3 : Int)], .agg #[.int .u64 (m0 : Int), .int .u64 (m1 : Int), .int .u64 (m2 : Int), .int .u64 (m3 : Int)]] w fun e w' => e = .returned (.agg #[.int .u64 (q0 : Int), .int .u64 (q1 : Int), .int .u64 (q2 : Int), .int .u64 (q3 : Int)]) ∧ Below w.heap.size w w')) (HC : Hid (∀ w, Calls Tryz.prog 133 #[.agg #[.int .u64 (p0 : Int), .int .u64 (p1 : Int), .int .u64 (p2 : Int), .int .u64 (p3 : Int)], .agg #[.int .u64 (q0 : Int), .int .u64 (q1 : Int), .int .u64 (q2 : Int), .int .u64 (q3 : Int)]] w fun e w' => e = .returned (.tuple #[.agg #[.int .u64 (s0 : Int), .int .u64 (s1 : Int), .int .u64 (s2 : Int), .int .u64 (s3 : Int)], .int .u64 (c : Int)]) ∧ Below w.heap.size w w'))
    {t0 t1 t2 t3 t6 t8 t9 t10 t11 t12 t13 t14 t15 t16 t17 t18 t19 t20 t21 t22 t23 t24 t25 t26 t27 t28 t29 t30 t31 t32 t33 t34 : Value} {ds : List Deferred} {K : Act → World → Prop} {Q : Exit → Act → World → Prop}
    (h : ∀ (y0 y1 y2 y3 y4 y5 y6 y7 y8 y9 : Value) (g : Nat) (w' : World) (hb : Below w.heap.size w w') (hg : w.heap.size ≤ g) (hk : Bk 24 w' g #[.int .u64 (s0 : Int), .int .u64 (s1 : Int), .int .u64 (s2 : Int), .int .u64 (s3 : Int)]), K { tmps := #[t0, t1, t2, t3, .pointer (some ⟨ga, 0, none⟩), .pointer (some ⟨gb, 0, none⟩), t6, .pointer (some ⟨gM, 0, none⟩), .pointer (some ⟨g, 0, none⟩), .int .u64 (c : Int), t10, t11, t12, t13, y7, y0, y1, y2, y3, y4, y5, y6, y8, y9, t24, t25, t26, t27, t28, t29, t30, t31, t32, t33, t34], defers := ds } w') :
    (Code.region 2 (ops15 2) true).wp Tryz.prog (Exit.then K Q) { tmps := #[t0, t1, t2, t3, .pointer (some ⟨ga, 0, none⟩), .pointer (some ⟨gb, 0, none⟩), t6, .pointer (some ⟨gM, 0, none⟩), t8, t9, t10, t11, t12, t13, t14, t15, t16, t17, t18, t19, t20, t21, t22, t23, t24, t25, t26, t27, t28, t29, t30, t31, t32, t33, t34], defers := ds } w := by
  have hsz : (ops15 2).size = 13 := by kernel_rfl
  refine wp_region_any mixed ?_
  rw [hsz]
  refine wpAny_inv (I := a2I w ga gb gM c a0 a1 a2 a3 b0 b1 b2 b3 m0 m1 m2 m3 p0 p1 p2 p3 q0 q1 q2 q3 s0 s1 s2 s3 t0 t1 t2 t3 t6 t10 t11 t12 t13 t24 t25 t26 t27 t28 t29 t30 t31 t32 t33 t34 ds) (a2_steps ga gb gM c a0 a1 a2 a3 b0 b1 b2 b3 m0 m1 m2 m3 p0 p1 p2 p3 q0 q1 q2 q3 s0 s1 s2 s3 w KA KB KM HA HB HC) (fun l a w' hI hr => ?_) 13 _ _ _ (by decide) ?_
  · obtain ⟨y0, y1, y2, y3, y4, y5, y6, y7, y8, y9, g, rfl, hb, hg, hk⟩ := a2_fin ga gb gM c a0 a1 a2 a3 b0 b1 b2 b3 m0 m1 m2 m3 p0 p1 p2 p3 q0 q1 q2 q3 s0 s1 s2 s3 w KA KB KM l a w' hI hr
    exact h _ _ _ _ _ _ _ _ _ _ g w' hb hg hk
  · exact ⟨false, false, false, false, false, false, false, false, false, false, false, false, false, t15, t16, t17, t18, t19, t20, t21, t14, t22, t23, t8, t9, rfl, rfl, ⟨rfl, rfl, rfl, Nat.le_refl _, fun _ _ => rfl⟩, (fun h => by cases h), (fun h => by cases h), (fun h => by cases h), (fun h => by cases h), (fun h => by cases h), (fun h => by cases h), (fun h => by cases h), (fun h => by cases h), (fun h => by cases h), (fun h => by cases h), (fun h => by cases h), (fun h => by cases h), (fun h => by cases h)⟩
end Go.Proofs.YtpggkfdijmnmiaaGreat
