/- A region that draws its order and ends in operations of one forced order; a whole array read within it. General, of any program. No condition but that the region's text is of that form. The moduli as the program hands them; the whole product of two numbers. No condition. The whole product of two numbers. No condition but that each limb is one. The whole product of two numbers: the walk. No conditi -/
import Derived.StillTail
import Derived.StillTailTactics
import Derived.Lib.QuietBelow
import Derived.BigQuiet
import Derived.Test.YtpggkfdijmnmiaaGreatZuf01
import Derived.Deep.RegionLaw
import Derived.Laws.Cover3
set_option linter.unusedVariables false
set_option linter.unusedSimpArgs false
set_option maxRecDepth 100000
namespace Go.Proofs.YtpggkfdijmnmiaaGreat
open Go.RowKit Go.Sort
section
variable {P : Program}
theorem exec_load_row {o : Oper} {a : Act} {w : World} (ty : TypeId) (x : Operand) (ho : o.op = .load ty x)
    (g : Nat) (hx : a.eval x = .pointer (some ⟨g, 0, none⟩)) (t : TypeId) (cs : Array Value) (fr : Nat × Nat) (d : TypeDesc) (hg : w.heap[g]? = some (.cells cs t fr))
    (hu : P.underlying ty = some d) (hd : (match d with | .struct _ | .array _ _ => true | _ => false) = true) (hi : (P.info? ty).map (·.size) = some cs.size) :
    (execOp a.eval o).run P w = .ok (.value (.agg cs)) w := by
  unfold execOp
  simp only [ho, hx, Instr.loadAt, Instr.sureAddr, Sem.run_bind, Sem.run_pure, Result.andThen_ok, run_loadVar_row w g t ty cs fr d hg hu hd hi]
theorem wpStill_load_row {ops : Array Oper} {w : World} {Q : Act → Prop} {a : Act} {o : Oper} {rest : List Oper} (hgd : o.guard = none) (ty : TypeId) (x : Operand) (ho : o.op = .load ty x)
    (g : Nat) (hx : a.eval x = .pointer (some ⟨g, 0, none⟩)) (t : TypeId) (cs : Array Value) (fr : Nat × Nat) (d : TypeDesc) (hg : w.heap[g]? = some (.cells cs t fr))
    (hu : P.underlying ty = some d) (hd : (match d with | .struct _ | .array _ _ => true | _ => false) = true) (hi : (P.info? ty).map (·.size) = some cs.size)
    (h : wpStill P ops w Q rest (a.put o.dst (.agg cs))) : wpStill P ops w Q (o :: rest) a :=
  wpStill_step fun K hK => by
    rw [if_pos (by simp [Region.wanted, hgd])]
    unfold Oper.still
    rw [exec_load_row ty x ho g hx t cs fr d hg hu hd hi, Oper.stillUpon_value]
    exact hK _ h
theorem wpQuiet_load_row {ops : Array Oper} {C : World → Prop} {Q : Act → Prop} {a : Act} {o : Oper} {rest : List Oper} (hgd : o.guard = none) (ty : TypeId) (x : Operand) (ho : o.op = .load ty x)
    (g : Nat) (hx : a.eval x = .pointer (some ⟨g, 0, none⟩)) (t : TypeId) (cs : Array Value) (fr : Nat × Nat) (d : TypeDesc) (hg : ∀ w, C w → w.heap[g]? = some (.cells cs t fr))
    (hu : P.underlying ty = some d) (hd : (match d with | .struct _ | .array _ _ => true | _ => false) = true) (hi : (P.info? ty).map (·.size) = some cs.size)
    (h : wpQuiet P ops C Q rest (a.put o.dst (.agg cs))) : wpQuiet P ops C Q (o :: rest) a :=
  wpQuiet_step fun K hK => by
    rw [if_pos (by simp [Region.wanted, hgd])]
    refine ⟨.agg cs, fun w hw => ?_, hK _ h⟩
    unfold Oper.quietAt
    rw [exec_load_row ty x ho g hx t cs fr d (hg w hw) hu hd hi]
    exact ⟨rfl, rfl⟩
theorem heap_regrown {w w' : World} {b : Nat} {o : Obj} (h : w.heap[b]? = some o) (hw : ∃ p : Regrown, w' = grow (redrawn w p.d) p.os) : w'.heap[b]? = some o := by
  obtain ⟨p, rfl⟩ := hw
  exact ((below_regrown w p.d p.os).block _ (Array.getElem?_eq_some_iff.1 h).1).trans h
end
theorem mixed : Tryz.prog.follows .mixedOrders = true := by kernel_rfl
section
variable {P : Program} {ops : Array Oper} {md : Region.Mode} {C : World → Prop}
def headQ (P : Program) (md : Region.Mode) (ops : Array Oper) (C : World → Prop) (n : Nat) (L : Array Bool → Act → Prop) : Nat → Array Bool → Act → Prop
  | 0, ls, a => L ls a
  | f + 1, ls, a => Region.ready md ops ls ≠ [] ∧ ∀ i, i ∈ Region.ready md ops ls → i < n ∧ qOp P ops C i (headQ P md ops C n L f (ls.setIfInBounds i true)) a
theorem any_of_headQ {n g : Nat} {L : Array Bool → Act → Prop} {Q : Exit → Act → World → Prop} (hL : ∀ ls a w, C w → L ls a → wpAny P md ops Q g ls a w) (f : Nat) :
    ∀ (ls : Array Bool) (a : Act) (w : World), C w → headQ P md ops C n L f ls a → wpAny P md ops Q (f + g) ls a w := by
  induction f with
  | zero => intro ls a w hw h; rw [Nat.zero_add]; exact hL _ _ _ hw h
  | succ f ih =>
    intro ls a w hw h
    rw [Nat.succ_add]
    exact ⟨fun h0 => absurd h0 h.1, fun i hi => wpOp_of_qOp hw (fun a' w' hw' h' => ih _ a' w' hw' h') (h.2 i hi).2⟩
theorem headQ_first {n i : Nat} {oi : Oper} {v : Value} {L : Array Bool → Act → Prop} (hi : ops[i]? = some oi) (hsel : ∀ (j : Nat) (o : Oper) cs b, ops[j]? = some o → o.op ≠ .select cs b)
    (hs : Region.sinkB md ops n = true) (hc : Region.chainB md ops n = true) (hn : n < ops.size) (hin : i < n) (hdone : ∀ ls a, L ls a → ∀ j ∈ Region.ready md ops ls, n ≤ j) (f : Nat) :
    ∀ (ls : Array Bool) (a : Act), HeadInv md ops n ls → (∀ j oj, ops[j]? = some oj → j ≠ i → ls.getD j true = false → (∀ e ∈ oj.after, Region.binds md e = true → e.on ≠ i) → oi.apart ops oj = true) →
      i ∈ Region.ready md ops ls → YieldsIn P ops C oi v a → headQ P md ops C n L f (ls.setIfInBounds i true) (a.put oi.dst v) → headQ P md ops C n L (f + 1) ls a := by
  induction f with
  | zero =>
    intro ls a inv _ hr hy H
    have hun := (mem_ready.1 hr).1
    refine ⟨fun h => (by rw [h] at hr; cases hr), fun j hj => ?_⟩
    have hjn : j < n := Nat.lt_of_not_le fun h => tail_waits hs hc hn inv _ i rfl hin hun j h hj
    refine ⟨hjn, ?_⟩
    by_cases hji : j = i
    · subst hji; exact hy.qOp hi H
    · have := hdone _ _ H j (ready_mono hj hji)
      omega
  | succ f ih =>
    intro ls a inv hfree hr hy H
    have hun := (mem_ready.1 hr).1
    refine ⟨fun h => (by rw [h] at hr; cases hr), fun j hj => ?_⟩
    have hjn : j < n := Nat.lt_of_not_le fun h => tail_waits hs hc hn inv _ i rfl hin hun j h hj
    refine ⟨hjn, ?_⟩
    by_cases hji : j = i
    · subst hji; exact hy.qOp hi H
    · obtain ⟨hjun, oj, hoj, hall⟩ := mem_ready.1 hj
      have hnot : ∀ e ∈ oj.after, Region.binds md e = true → e.on ≠ i := fun e he hb heq => by
        have h1 := hall e he hb
        rw [heq, getD_both hun] at h1
        cases h1
      have h2 := qOp_put hoj (hfree j oj hoj hji hjun hnot) (fun cs b => hsel i oi cs b hi) (fun cs b => hsel j oj cs b hoj) hy (H.2 j (ready_mono hj hji)).2
      refine qOp_mono (fun a' h3 => ih _ a' (inv.set hj hjn) (fun k ok hk hki hu hno => hfree k ok hk hki ?_ hno) (ready_mono hr (Ne.symm hji)) h3.1 ?_) h2
      · by_cases hjk : j = k
        · subst hjk; exact hjun
        · rw [getD_set_ne true hjk] at hu; exact hu
      · rw [Array.setIfInBounds_comm _ _ hji]; exact h3.2
theorem headQ_lex {n g : Nat} {F : Act → Prop} (hsel : Region.noSelect ops = true) (hs : Region.sinkB md ops n = true) (hc : Region.chainB md ops n = true) (hn : n < ops.size) :
    ∀ (l : List Oper) (k : Nat) (ls : Array Bool) (a : Act), (∀ j, j < l.length → l[j]? = ops[k + j]?) → k + l.length = n → HeadInv md ops n ls →
    Region.lexHead md ops g l.length k ls = true → wpQuiet P ops C F l a → headQ P md ops C n (fun ls' a' => Region.seqB md ops g n ls' = true ∧ F a') l.length ls a
  | [], k, ls, a, _, hk, _, hB, h => by
    obtain rfl : k = n := by simpa using hk
    exact ⟨by simpa [Region.lexHead] using hB, h⟩
  | o :: l, k, ls, a, hl, hk, inv, hB, h => by
    have h0 : ops[k]? = some o := by simpa using (hl 0 (by simp)).symm
    simp only [List.length_cons, Region.lexHead, Bool.and_eq_true] at hB hk
    obtain ⟨⟨hr, hf⟩, hB'⟩ := hB
    have hr' : k ∈ Region.ready md ops ls := by simpa using hr
    obtain ⟨v, hy, hK⟩ := yieldsIn_of_qOp (K := wpQuiet P ops C F l) h0 (by unfold qOp; simp only [h0]; exact h)
    exact headQ_first h0 (Region.noSelect_spec hsel) hs hc hn (by omega) (fun ls' a' hL => seqB_ready hL.1) l.length ls a inv (Region.free_spec h0 hf) hr' hy
      (headQ_lex hsel hs hc hn l (k + 1) _ _ (fun j hj => by have := hl (j + 1) (by simp; omega); simpa [Nat.add_assoc, Nat.add_comm 1 j] using this) (by omega) (inv.set hr' (by omega)) hB' hK)
theorem wp_region_below_tail {id : Nat} {Q : Exit → Act → World → Prop} {a : Act} {w : World} {l : List Oper} (n : Nat) (hm : P.follows .mixedOrders = true) (hB : Region.lexTailB .any l.toArray n = true)
    (h : wpQuiet P l.toArray (fun w' => ∃ p : Regrown, w' = grow (redrawn w p.d) p.os) (fun a' => ∀ w', (∃ p : Regrown, w' = grow (redrawn w p.d) p.os) → wpList P l.toArray Q (l.drop n) a' w') (l.take n) a) : (Code.region id l.toArray true).wp P Q a w := by
  simp only [Region.lexTailB, Bool.and_eq_true, decide_eq_true_eq] at hB
  obtain ⟨⟨⟨⟨hsel, hn⟩, hs⟩, hc⟩, hlex⟩ := hB
  have hn' : n < l.length := by simpa using hn
  have htl : (l.take n).length = n := by simp; omega
  have hdl : (l.drop n).length = l.toArray.size - n := by simp
  have inv0 : HeadInv .any l.toArray n (Array.replicate l.toArray.size false) :=
    ⟨by simp, fun j oj _ hl => (by rw [getD_replicate_false] at hl; cases hl), fun t _ ht => getD_in (by simpa using ht) (getD_replicate_false _ _)⟩
  have H := headQ_lex (md := .any) (g := l.toArray.size - n) hsel hs hc hn (l.take n) 0 _ a (fun j hj => by
    have hj' : j < n := by rw [htl] at hj; exact hj
    simp [hj']) (by simpa using htl) inv0 (by rw [htl]; exact hlex) h
  refine wp_region_any hm ?_
  have := any_of_headQ (Q := Q) (g := l.toArray.size - n) (fun ls a' w' hw' hL => by
    have := wpAny_of_seq (md := .any) (Q' := Q) (l.drop n) n ls a' w' (fun j => by simp [List.getElem?_drop]) (by rw [hdl]; exact hL.1) (hL.2 w' hw')
    rwa [hdl] at this) _ _ _ _ (show ∃ p : Regrown, _ = grow (redrawn w p.d) p.os from ⟨⟨w.drawn + 1, #[]⟩, by rw [grow_empty]⟩) H
  rw [htl, show n + (l.toArray.size - n) = l.toArray.size by omega] at this
  exact this
end
section
variable {P : Program}
end
theorem qd {f : FuncId} {args : Array Value} {w : World} {n : Nat} {v : Value} (h : ∀ w, Calls Tryz.prog f args w fun e w' => e = .returned v ∧ w' = w) : Calls Tryz.prog f args (w.drewN n) fun e w'' => e = .returned v ∧ ∃ m, w'' = w.drewN m :=
  (h _).mono fun _ _ h => ⟨h.1, n, h.2⟩
theorem qg {f : FuncId} {args : Array Value} {w : World} {d : Nat} {os : Array Obj} {v : Value} (h : ∀ w, Calls Tryz.prog f args w fun e w' => e = .returned v ∧ Below w.heap.size w w') :
    Calls Tryz.prog f args (grow (redrawn w d) os) fun e w'' => e = .returned v ∧ ∃ p : Regrown, w'' = grow (redrawn w p.d) p.os := Calls.regrown_of (h _)
end Go.Proofs.YtpggkfdijmnmiaaGreat
namespace Go.Proofs.YtpggkfdijmnmiaaGreat
open Go.RowKit Limbs
theorem nvP : nv mP = .agg #[.int .u64 18446744073709551615, .int .u64 4294967295, .int .u64 0, .int .u64 18446744069414584321] := by
  unfold nv num; rw [lbP.1, lbP.2.1, lbP.2.2.1, lbP.2.2.2]; rfl
theorem nvN : nv mN = .agg #[.int .u64 17562291160714782033, .int .u64 13611842547513532036, .int .u64 18446744073709551615, .int .u64 18446744069414584320] := by
  unfold nv num; rw [lbN.1, lbN.2.1, lbN.2.2.1, lbN.2.2.2]; rfl
set_option maxHeartbeats 4000000 in
theorem mod_any (m : Int) (w : World) : Calls Tryz.prog 47 #[.int .i64 m] w fun e w' => e = .returned (nv (md m)) ∧ Below w.heap.size w w' := by
  by_cases h : m = 0
  · subst h
    show Calls Tryz.prog 47 #[.int .i64 0] w fun e w' => e = .returned (nv mP) ∧ Below w.heap.size w w'
    rw [nvP]
    go_enter Tryz.func47, Tryz.ntmps47
    go_wp2_with fail
    go_returns
    exact ⟨rfl, by go_grown⟩
  · have e : md m = mN := by unfold md; rw [if_neg h]
    rw [e, nvN]
    have t : (m == 0) = false := by simpa using h
    clear e h
    go_enter Tryz.func47, Tryz.ntmps47
    go_wp2_with fail
    go_returns
    exact ⟨rfl, by go_grown⟩
end Go.Proofs.YtpggkfdijmnmiaaGreat
namespace Go.Proofs.YtpggkfdijmnmiaaGreat
open Go.RowKit Limbs
theorem times_det {a b c d : Nat} (ha : a < 18446744073709551616) (hb : b < 18446744073709551616) (hc : c < 18446744073709551616) (hd : d < 18446744073709551616) :
    ∃ l h : Nat, l < 18446744073709551616 ∧ h < 18446744073709551616 ∧ l + 18446744073709551616 * h = a * b + c + d ∧ ∀ w, Calls Tryz.prog 161 #[.int .u64 (a : Int), .int .u64 (b : Int), .int .u64 (c : Int), .int .u64 (d : Int)] w fun e w' => e = .returned (.tuple #[.int .u64 (l : Int), .int .u64 (h : Int)]) ∧ w' = w := by
  refine ⟨(a * b + c + d) % 18446744073709551616, (a * b + c + d) / 18446744073709551616, ?_, ?_, ?_, fun w => ?_⟩
  · omega
  · have hP : a * b ≤ 18446744073709551615 * 18446744073709551615 := Nat.mul_le_mul (by omega) (by omega)
    omega
  · omega
  · refine (times_any ha hb hc hd w).mono ?_
    rintro e w' ⟨⟨l, h, hl, hh, he, rfl⟩, hw⟩
    refine ⟨?_, hw⟩
    have e1 : (a * b + c + d) % 18446744073709551616 = l := by omega
    have e2 : (a * b + c + d) / 18446744073709551616 = h := by omega
    rw [e1, e2]
theorem row_arith {a b0 b1 b2 b3 c0 c1 c2 c3 n0 n1 n2 n3 k0 k1 k2 k3 : Nat} (e0 : n0 + 18446744073709551616 * k0 = a * b0 + c0 + 0) (e1 : n1 + 18446744073709551616 * k1 = a * b1 + c1 + k0) (e2 : n2 + 18446744073709551616 * k2 = a * b2 + c2 + k1) (e3 : n3 + 18446744073709551616 * k3 = a * b3 + c3 + k2) :
    v4 n0 n1 n2 n3 + W256 * k3 = a * v4 b0 b1 b2 b3 + v4 c0 c1 c2 c3 := by
  rw [mul_v4]
  generalize a * b0 = t0 at *
  generalize a * b1 = t1 at *
  generalize a * b2 = t2 at *
  generalize a * b3 = t3 at *
  unfold v4 W256
  omega
def num8 (a b c d e f g h : Nat) : Value := .agg #[.int .u64 (a : Int), .int .u64 (b : Int), .int .u64 (c : Int), .int .u64 (d : Int), .int .u64 (e : Int), .int .u64 (f : Int), .int .u64 (g : Int), .int .u64 (h : Int)]
theorem u56 : Tryz.prog.underlying 208 = some (.array 8 22) := by kernel_rfl
theorem i56 : (Tryz.prog.info? 208).map (·.size) = some 8 := by kernel_rfl
def findR : Code → Nat → Option (Array Oper)
  | .region id ops _, n => if id = n then some ops else none
  | .seq a b, n => (findR a n).or (findR b n)
  | .cond _ a b, n => (findR a n).or (findR b n)
  | .block _ a, n => findR a n
  | .loop a, n => findR a n
  | .scope a, n => findR a n
  | _, _ => none
noncomputable def ops39 (n : Nat) : Array Oper := (Tryz.f182.body.bind fun c => findR c n).getD #[]
set_option maxHeartbeats 8000000 in
theorem r9 (ga gb gl i j : Nat) (a b c d n k : Nat) (hi : i < 4) (hj : j < 4) (w : World) (ia : w.cell? ⟨ga, i, none⟩ = some (.int .u64 (a : Int))) (ib : w.cell? ⟨gb, j, none⟩ = some (.int .u64 (b : Int))) (ic : w.cell? ⟨gl, i + j, none⟩ = some (.int .u64 (c : Int))) (hf : w.frozen? ⟨gl, i + j, none⟩ = false)
    (HQ : Hid (∀ w, Calls Tryz.prog 161 #[.int .u64 (a : Int), .int .u64 (b : Int), .int .u64 (c : Int), .int .u64 (d : Int)] w fun e w' => e = .returned (.tuple #[.int .u64 (n : Int), .int .u64 (k : Int)]) ∧ w' = w))
    {t0 t1 t4 t9 t10 t11 t12 t13 t14 t15 t16 t17 t18 t19 t20 t21 t22 t23 t24 t25 t26 t27 t28 t29 t30 t31 t32 t33 t34 t35 t36 t37 t38 t39 t40 t41 : Value} {ds : List Deferred} {Q : Exit → Act → World → Prop}
    (h : ∀ (x15 x16 x17 x18 x19 x20 x21 x22 x23 x24 x25 x26 x27 x28 x29 x30 x31 x32 x33 x34 : Value), Q .normal { tmps := #[t0, t1, .pointer (some ⟨ga, 0, none⟩), .pointer (some ⟨gb, 0, none⟩), t4, .pointer (some ⟨gl, 0, none⟩), .int .i64 (i : Int), .int .u64 (k : Int), .int .i64 (j : Int), t9, t10, t11, t12, t13, t14, x15, x16, x17, x18, x19, x20, x21, x22, x23, x24, x25, x26, x27, x28, x29, x30, x31, x32, x33, x34, t35, t36, t37, t38, t39, t40, t41], defers := ds } (w.drew.setCell ⟨gl, i + j, none⟩ (.int .u64 (n : Int)))) :
    (Code.region 9 (ops39 9) true).wp Tryz.prog Q { tmps := #[t0, t1, .pointer (some ⟨ga, 0, none⟩), .pointer (some ⟨gb, 0, none⟩), t4, .pointer (some ⟨gl, 0, none⟩), .int .i64 (i : Int), .int .u64 (d : Int), .int .i64 (j : Int), t9, t10, t11, t12, t13, t14, t15, t16, t17, t18, t19, t20, t21, t22, t23, t24, t25, t26, t27, t28, t29, t30, t31, t32, t33, t34, t35, t36, t37, t38, t39, t40, t41], defers := ds } w := by
  simp only [ops39, findR, Tryz.f182, Option.bind_some, Option.or, Option.getD, Nat.reduceEqDiff, if_true, if_false, reduceIte]
  have b1 : ((i : Int) : Int) < 4 := by omega
  have b2 : ((j : Int) : Int) < 4 := by omega
  have e1 : IntKind.i64.wrap ((i : Int) + (j : Int)) = ((i + j : Nat) : Int) := by rw [IntKind.wrap_i64]; omega
  have e2 : ((i : Int) + (j : Int)).toNat = i + j := by omega
  have b3 : (i : Int) + (j : Int) < 8 := by omega
  have b4 : (0 : Int) ≤ (i : Int) + (j : Int) := by omega
  have HH := Lib.hid h
  clear h
  refine Code.wp_mono (Q := Exit.then (fun a w => Q .normal a w) (fun _ _ _ => False)) (fun e a w h => by cases e <;> first | exact h | exact h.elim) ?_
  go_region_law (go_simp; go_at_call 161; refine (HQ.out _).mono ?_; rintro e w' ⟨rfl, rfl⟩)
  all_goals exact HH.out _ _ _ _ _ _ _ _ _ _ _ _ _ _ _ _ _ _ _ _
end Go.Proofs.YtpggkfdijmnmiaaGreat
namespace Go.Proofs.YtpggkfdijmnmiaaGreat
open Go.RowKit Limbs
theorem ret_cell8 {fn : Func} {R : Ending → World → Prop} {a : Act} {w : World} {p : Tmp} (h : fn.results = #[.cell p 208]) (g : Nat) (x0 x1 x2 x3 x4 x5 x6 x7 : Value) (hp : a.tmps.getD p undef = .pointer (some ⟨g, 0, none⟩)) (hk : Bk 208 w g #[x0, x1, x2, x3, x4, x5, x6, x7]) (hd : a.defers = []) (hR : R (.returned (.agg #[x0, x1, x2, x3, x4, x5, x6, x7])) w) : bodyPost Tryz.prog fn R .ret a w :=
  bodyPost_ret (v := .agg #[x0, x1, x2, x3, x4, x5, x6, x7]) (results_cell_row h a.tmps w g 208 #[x0, x1, x2, x3, x4, x5, x6, x7] (0, 0) _ hp hk u56 rfl i56) hd hR
set_option maxHeartbeats 32000000 in
theorem product_any {a0 a1 a2 a3 b0 b1 b2 b3 : Nat} (ha0 : a0 < 18446744073709551616) (ha1 : a1 < 18446744073709551616) (ha2 : a2 < 18446744073709551616) (ha3 : a3 < 18446744073709551616)
    (hb0 : b0 < 18446744073709551616) (hb1 : b1 < 18446744073709551616) (hb2 : b2 < 18446744073709551616) (hb3 : b3 < 18446744073709551616) (w : World) :
    Calls Tryz.prog 182 #[num a0 a1 a2 a3, num b0 b1 b2 b3] w fun e w' => (∃ l0 l1 l2 l3 l4 l5 l6 l7 : Nat, (l0 < 18446744073709551616 ∧ l1 < 18446744073709551616 ∧ l2 < 18446744073709551616 ∧ l3 < 18446744073709551616) ∧ (l4 < 18446744073709551616 ∧ l5 < 18446744073709551616 ∧ l6 < 18446744073709551616 ∧ l7 < 18446744073709551616) ∧ v4 l0 l1 l2 l3 + W256 * v4 l4 l5 l6 l7 = v4 a0 a1 a2 a3 * v4 b0 b1 b2 b3 ∧ e = .returned (num8 l0 l1 l2 l3 l4 l5 l6 l7)) ∧ Below w.heap.size w w' := by
  have z : (0 : Nat) < 18446744073709551616 := by decide
  obtain ⟨n00, k00, hn00, hk00, e00, q00⟩ := times_det (a := a0) (b := b0) (c := 0) (d := 0) ha0 hb0 z z
  obtain ⟨n01, k01, hn01, hk01, e01, q01⟩ := times_det (a := a0) (b := b1) (c := 0) (d := k00) ha0 hb1 z hk00
  obtain ⟨n02, k02, hn02, hk02, e02, q02⟩ := times_det (a := a0) (b := b2) (c := 0) (d := k01) ha0 hb2 z hk01
  obtain ⟨n03, k03, hn03, hk03, e03, q03⟩ := times_det (a := a0) (b := b3) (c := 0) (d := k02) ha0 hb3 z hk02
  obtain ⟨n10, k10, hn10, hk10, e10, q10⟩ := times_det (a := a1) (b := b0) (c := n01) (d := 0) ha1 hb0 hn01 z
  obtain ⟨n11, k11, hn11, hk11, e11, q11⟩ := times_det (a := a1) (b := b1) (c := n02) (d := k10) ha1 hb1 hn02 hk10
  obtain ⟨n12, k12, hn12, hk12, e12, q12⟩ := times_det (a := a1) (b := b2) (c := n03) (d := k11) ha1 hb2 hn03 hk11
  obtain ⟨n13, k13, hn13, hk13, e13, q13⟩ := times_det (a := a1) (b := b3) (c := k03) (d := k12) ha1 hb3 hk03 hk12
  obtain ⟨n20, k20, hn20, hk20, e20, q20⟩ := times_det (a := a2) (b := b0) (c := n11) (d := 0) ha2 hb0 hn11 z
  obtain ⟨n21, k21, hn21, hk21, e21, q21⟩ := times_det (a := a2) (b := b1) (c := n12) (d := k20) ha2 hb1 hn12 hk20
  obtain ⟨n22, k22, hn22, hk22, e22, q22⟩ := times_det (a := a2) (b := b2) (c := n13) (d := k21) ha2 hb2 hn13 hk21
  obtain ⟨n23, k23, hn23, hk23, e23, q23⟩ := times_det (a := a2) (b := b3) (c := k13) (d := k22) ha2 hb3 hk13 hk22
  obtain ⟨n30, k30, hn30, hk30, e30, q30⟩ := times_det (a := a3) (b := b0) (c := n21) (d := 0) ha3 hb0 hn21 z
  obtain ⟨n31, k31, hn31, hk31, e31, q31⟩ := times_det (a := a3) (b := b1) (c := n22) (d := k30) ha3 hb1 hn22 hk30
  obtain ⟨n32, k32, hn32, hk32, e32, q32⟩ := times_det (a := a3) (b := b2) (c := n23) (d := k31) ha3 hb2 hn23 hk31
  obtain ⟨n33, k33, hn33, hk33, e33, q33⟩ := times_det (a := a3) (b := b3) (c := k23) (d := k32) ha3 hb3 hk23 hk32
  have r0 := row_arith (a := a0) (b0 := b0) (b1 := b1) (b2 := b2) (b3 := b3) (c0 := 0) (c1 := 0) (c2 := 0) (c3 := 0) e00 e01 e02 e03
  have r1 := row_arith (a := a1) (b0 := b0) (b1 := b1) (b2 := b2) (b3 := b3) (c0 := n01) (c1 := n02) (c2 := n03) (c3 := k03) e10 e11 e12 e13
  have r2 := row_arith (a := a2) (b0 := b0) (b1 := b1) (b2 := b2) (b3 := b3) (c0 := n11) (c1 := n12) (c2 := n13) (c3 := k13) e20 e21 e22 e23
  have r3 := row_arith (a := a3) (b0 := b0) (b1 := b1) (b2 := b2) (b3 := b3) (c0 := n21) (c1 := n22) (c2 := n23) (c3 := k23) e30 e31 e32 e33
  have HF : Hid (v4 n00 n10 n20 n30 + W256 * v4 n31 n32 n33 k33 = v4 a0 a1 a2 a3 * v4 b0 b1 b2 b3) := Lib.hid (by
    have e : v4 a0 a1 a2 a3 * v4 b0 b1 b2 b3 = a0 * v4 b0 b1 b2 b3 + 18446744073709551616 * (a1 * v4 b0 b1 b2 b3 + 18446744073709551616 * (a2 * v4 b0 b1 b2 b3 + 18446744073709551616 * (a3 * v4 b0 b1 b2 b3))) := by
      generalize v4 b0 b1 b2 b3 = V
      unfold v4
      simp only [Nat.add_mul, Nat.mul_assoc]
    rw [e]
    clear e e00 e01 e02 e03 e10 e11 e12 e13 e20 e21 e22 e23 e30 e31 e32 e33
    generalize a0 * v4 b0 b1 b2 b3 = t0 at *
    generalize a1 * v4 b0 b1 b2 b3 = t1 at *
    generalize a2 * v4 b0 b1 b2 b3 = t2 at *
    generalize a3 * v4 b0 b1 b2 b3 = t3 at *
    unfold v4 W256 at *
    omega)
  have HB := Lib.hid (show (n00 < 18446744073709551616 ∧ n10 < 18446744073709551616 ∧ n20 < 18446744073709551616 ∧ n30 < 18446744073709551616) ∧ (n31 < 18446744073709551616 ∧ n32 < 18446744073709551616 ∧ n33 < 18446744073709551616 ∧ k33 < 18446744073709551616) from ⟨⟨hn00, hn10, hn20, hn30⟩, hn31, hn32, hn33, hk33⟩)
  have Q00 := Lib.hid q00
  have Q01 := Lib.hid q01
  have Q02 := Lib.hid q02
  have Q03 := Lib.hid q03
  have Q10 := Lib.hid q10
  have Q11 := Lib.hid q11
  have Q12 := Lib.hid q12
  have Q13 := Lib.hid q13
  have Q20 := Lib.hid q20
  have Q21 := Lib.hid q21
  have Q22 := Lib.hid q22
  have Q23 := Lib.hid q23
  have Q30 := Lib.hid q30
  have Q31 := Lib.hid q31
  have Q32 := Lib.hid q32
  have Q33 := Lib.hid q33
  clear z r0 r1 r2 r3 hn00 hk00 e00 q00 hn01 hk01 e01 q01 hn02 hk02 e02 q02 hn03 hk03 e03 q03 hn10 hk10 e10 q10 hn11 hk11 e11 q11 hn12 hk12 e12 q12 hn13 hk13 e13 q13 hn20 hk20 e20 q20 hn21 hk21 e21 q21 hn22 hk22 e22 q22 hn23 hk23 e23 q23 hn30 hk30 e30 q30 hn31 hk31 e31 q31 hn32 hk32 e32 q32 hn33 hk33 e33 q33 ha0 ha1 ha2 ha3 hb0 hb1 hb2 hb3
  have w0 : IntKind.i64.wrap 0 = 0 := by rw [IntKind.wrap_i64]; rfl
  have w1 : IntKind.i64.wrap 1 = 1 := by rw [IntKind.wrap_i64]; rfl
  have w2 : IntKind.i64.wrap 2 = 2 := by rw [IntKind.wrap_i64]; rfl
  have w3 : IntKind.i64.wrap 3 = 3 := by rw [IntKind.wrap_i64]; rfl
  have w4 : IntKind.i64.wrap 4 = 4 := by rw [IntKind.wrap_i64]; rfl
  have w5 : IntKind.i64.wrap 5 = 5 := by rw [IntKind.wrap_i64]; rfl
  have w6 : IntKind.i64.wrap 6 = 6 := by rw [IntKind.wrap_i64]; rfl
  have w7 : IntKind.i64.wrap 7 = 7 := by rw [IntKind.wrap_i64]; rfl
  unfold num
  go_enter Tryz.func182, Tryz.ntmps182
  go_wp2_with fail
  refine wp_loop_rounds 5 ?_
  rw [rounds_succ]
  go_wp2_with fail
  refine wp_loop_rounds 5 ?_
  rw [rounds_succ]
  go_wp2_with fail
  refine r9 w.heap.size (w.heap.size + 1) (w.heap.size + 1 + 1 + 1) 0 0 a0 b0 0 0 n00 k00 (by decide) (by decide) _ (by go_cell) (by go_cell) (by go_cell) (by simp [go_sem]) Q00 ?_
  intros
  simp only [Nat.reduceAdd, Nat.zero_add, Nat.add_zero]
  clear Q00
  go_wp2_with fail
  rw [rounds_succ]
  go_wp2_with fail
  refine r9 w.heap.size (w.heap.size + 1) (w.heap.size + 1 + 1 + 1) 0 1 a0 b1 0 k00 n01 k01 (by decide) (by decide) _ (by go_cell) (by go_cell) (by go_cell) (by simp [go_sem]) Q01 ?_
  intros
  simp only [Nat.reduceAdd, Nat.zero_add, Nat.add_zero]
  clear Q01
  go_wp2_with fail
  rw [rounds_succ]
  go_wp2_with fail
  refine r9 w.heap.size (w.heap.size + 1) (w.heap.size + 1 + 1 + 1) 0 2 a0 b2 0 k01 n02 k02 (by decide) (by decide) _ (by go_cell) (by go_cell) (by go_cell) (by simp [go_sem]) Q02 ?_
  intros
  simp only [Nat.reduceAdd, Nat.zero_add, Nat.add_zero]
  clear Q02
  go_wp2_with fail
  rw [rounds_succ]
  go_wp2_with fail
  refine r9 w.heap.size (w.heap.size + 1) (w.heap.size + 1 + 1 + 1) 0 3 a0 b3 0 k02 n03 k03 (by decide) (by decide) _ (by go_cell) (by go_cell) (by go_cell) (by simp [go_sem]) Q03 ?_
  intros
  simp only [Nat.reduceAdd, Nat.zero_add, Nat.add_zero]
  clear Q03
  go_wp2_with fail
  rw [rounds_succ]
  go_wp2_with fail
  rw [rounds_succ]
  go_wp2_with fail
  refine wp_loop_rounds 5 ?_
  rw [rounds_succ]
  go_wp2_with fail
  refine r9 w.heap.size (w.heap.size + 1) (w.heap.size + 1 + 1 + 1) 1 0 a1 b0 n01 0 n10 k10 (by decide) (by decide) _ (by go_cell) (by go_cell) (by go_cell) (by simp [go_sem]) Q10 ?_
  intros
  simp only [Nat.reduceAdd, Nat.zero_add, Nat.add_zero]
  clear Q10
  go_wp2_with fail
  rw [rounds_succ]
  go_wp2_with fail
  refine r9 w.heap.size (w.heap.size + 1) (w.heap.size + 1 + 1 + 1) 1 1 a1 b1 n02 k10 n11 k11 (by decide) (by decide) _ (by go_cell) (by go_cell) (by go_cell) (by simp [go_sem]) Q11 ?_
  intros
  simp only [Nat.reduceAdd, Nat.zero_add, Nat.add_zero]
  clear Q11
  go_wp2_with fail
  rw [rounds_succ]
  go_wp2_with fail
  refine r9 w.heap.size (w.heap.size + 1) (w.heap.size + 1 + 1 + 1) 1 2 a1 b2 n03 k11 n12 k12 (by decide) (by decide) _ (by go_cell) (by go_cell) (by go_cell) (by simp [go_sem]) Q12 ?_
  intros
  simp only [Nat.reduceAdd, Nat.zero_add, Nat.add_zero]
  clear Q12
  go_wp2_with fail
  rw [rounds_succ]
  go_wp2_with fail
  refine r9 w.heap.size (w.heap.size + 1) (w.heap.size + 1 + 1 + 1) 1 3 a1 b3 k03 k12 n13 k13 (by decide) (by decide) _ (by go_cell) (by go_cell) (by go_cell) (by simp [go_sem]) Q13 ?_
  intros
  simp only [Nat.reduceAdd, Nat.zero_add, Nat.add_zero]
  clear Q13
  go_wp2_with fail
  rw [rounds_succ]
  go_wp2_with fail
  rw [rounds_succ]
  go_wp2_with fail
  refine wp_loop_rounds 5 ?_
  rw [rounds_succ]
  go_wp2_with fail
  refine r9 w.heap.size (w.heap.size + 1) (w.heap.size + 1 + 1 + 1) 2 0 a2 b0 n11 0 n20 k20 (by decide) (by decide) _ (by go_cell) (by go_cell) (by go_cell) (by simp [go_sem]) Q20 ?_
  intros
  simp only [Nat.reduceAdd, Nat.zero_add, Nat.add_zero]
  clear Q20
  go_wp2_with fail
  rw [rounds_succ]
  go_wp2_with fail
  refine r9 w.heap.size (w.heap.size + 1) (w.heap.size + 1 + 1 + 1) 2 1 a2 b1 n12 k20 n21 k21 (by decide) (by decide) _ (by go_cell) (by go_cell) (by go_cell) (by simp [go_sem]) Q21 ?_
  intros
  simp only [Nat.reduceAdd, Nat.zero_add, Nat.add_zero]
  clear Q21
  go_wp2_with fail
  rw [rounds_succ]
  go_wp2_with fail
  refine r9 w.heap.size (w.heap.size + 1) (w.heap.size + 1 + 1 + 1) 2 2 a2 b2 n13 k21 n22 k22 (by decide) (by decide) _ (by go_cell) (by go_cell) (by go_cell) (by simp [go_sem]) Q22 ?_
  intros
  simp only [Nat.reduceAdd, Nat.zero_add, Nat.add_zero]
  clear Q22
  go_wp2_with fail
  rw [rounds_succ]
  go_wp2_with fail
  refine r9 w.heap.size (w.heap.size + 1) (w.heap.size + 1 + 1 + 1) 2 3 a2 b3 k13 k22 n23 k23 (by decide) (by decide) _ (by go_cell) (by go_cell) (by go_cell) (by simp [go_sem]) Q23 ?_
  intros
  simp only [Nat.reduceAdd, Nat.zero_add, Nat.add_zero]
  clear Q23
  go_wp2_with fail
  rw [rounds_succ]
  go_wp2_with fail
  rw [rounds_succ]
  go_wp2_with fail
  refine wp_loop_rounds 5 ?_
  rw [rounds_succ]
  go_wp2_with fail
  refine r9 w.heap.size (w.heap.size + 1) (w.heap.size + 1 + 1 + 1) 3 0 a3 b0 n21 0 n30 k30 (by decide) (by decide) _ (by go_cell) (by go_cell) (by go_cell) (by simp [go_sem]) Q30 ?_
  intros
  simp only [Nat.reduceAdd, Nat.zero_add, Nat.add_zero]
  clear Q30
  go_wp2_with fail
  rw [rounds_succ]
  go_wp2_with fail
  refine r9 w.heap.size (w.heap.size + 1) (w.heap.size + 1 + 1 + 1) 3 1 a3 b1 n22 k30 n31 k31 (by decide) (by decide) _ (by go_cell) (by go_cell) (by go_cell) (by simp [go_sem]) Q31 ?_
  intros
  simp only [Nat.reduceAdd, Nat.zero_add, Nat.add_zero]
  clear Q31
  go_wp2_with fail
  rw [rounds_succ]
  go_wp2_with fail
  refine r9 w.heap.size (w.heap.size + 1) (w.heap.size + 1 + 1 + 1) 3 2 a3 b2 n23 k31 n32 k32 (by decide) (by decide) _ (by go_cell) (by go_cell) (by go_cell) (by simp [go_sem]) Q32 ?_
  intros
  simp only [Nat.reduceAdd, Nat.zero_add, Nat.add_zero]
  clear Q32
  go_wp2_with fail
  rw [rounds_succ]
  go_wp2_with fail
  refine r9 w.heap.size (w.heap.size + 1) (w.heap.size + 1 + 1 + 1) 3 3 a3 b3 k23 k32 n33 k33 (by decide) (by decide) _ (by go_cell) (by go_cell) (by go_cell) (by simp [go_sem]) Q33 ?_
  intros
  simp only [Nat.reduceAdd, Nat.zero_add, Nat.add_zero]
  clear Q33
  go_wp2_with fail
  rw [rounds_succ]
  go_wp2_with fail
  rw [rounds_succ]
  go_wp2_with fail
  refine ret_cell8 rfl (w.heap.size + 1 + 1) _ _ _ _ _ _ _ _ rfl ?_ rfl ⟨⟨n00, n10, n20, n30, n31, n32, n33, k33, HB.out.1, HB.out.2, HF.out, rfl⟩, by go_grown⟩
  repeat (refine Bk.drew ?_)
  exact Bk.alloc (Bk.new (by simp))
theorem product_nv (a b : Nat) (ha : a < W256) (hb : b < W256) (w : World) :
    Calls Tryz.prog 182 #[nv a, nv b] w fun e w' => (∃ l0 l1 l2 l3 l4 l5 l6 l7 : Nat, (l0 < 18446744073709551616 ∧ l1 < 18446744073709551616 ∧ l2 < 18446744073709551616 ∧ l3 < 18446744073709551616) ∧ (l4 < 18446744073709551616 ∧ l5 < 18446744073709551616 ∧ l6 < 18446744073709551616 ∧ l7 < 18446744073709551616) ∧ v4 l0 l1 l2 l3 + W256 * v4 l4 l5 l6 l7 = a * b ∧ e = .returned (num8 l0 l1 l2 l3 l4 l5 l6 l7)) ∧ Below w.heap.size w w' := by
  have h := product_any (lb_lt a 0) (lb_lt a 1) (lb_lt a 2) (lb_lt a 3) (lb_lt b 0) (lb_lt b 1) (lb_lt b 2) (lb_lt b 3) w
  rw [v4_lb ha, v4_lb hb] at h
  exact h
end Go.Proofs.YtpggkfdijmnmiaaGreat
namespace Go.Proofs.YtpggkfdijmnmiaaGreat
open Go.RowKit Limbs
set_option maxHeartbeats 16000000 in
theorem behind_any (r l M : Nat) (hM : M = mP ∨ M = mN) (hr : r < M) (hl : l < 18446744073709551616) (w : World) :
    Calls Tryz.prog 130 #[nv r, .int .u64 (l : Int), nv M] w fun e w' => e = .returned (nv ((r * 18446744073709551616 + l) % M)) ∧ Below w.heap.size w w' := by
  obtain ⟨hMW, hM2, hM3, hMp⟩ := md_lt hM
  have HC := Lib.hid (quot_any r M hM hr)
  have hqb := quo_bounds (lb_lt r 0) (lb_lt r 1) (lb_lt r 2) (lb_lt r 3) (lb_lt M 0) (lb_lt M 1) (lb_lt M 2) (lb_lt M 3) hl hM3 (by rw [v4_lb hMW, v4_lb (by omega)]; exact hr)
  rw [v4_lb hMW, v4_lb (by omega)] at hqb
  have hql := quo_lt (lb_le hr hMW) (lb_lt r 2)
  have hXE : r * 18446744073709551616 + l = v4 l (lb r 0) (lb r 1) (lb r 2) + W256 * lb r 3 := by
    have := v4_lb (x := r) (by omega)
    unfold v4 at *
    unfold W256
    omega
  have hME := v4_lb hMW
  have hr0 := lb_lt r 0
  have hr1 := lb_lt r 1
  have hr2 := lb_lt r 2
  have hr3 := lb_lt r 3
  have hm0 := lb_lt M 0
  have hm1 := lb_lt M 1
  have hm2 := lb_lt M 2
  have hm3 := lb_lt M 3
  obtain ⟨X, hX⟩ : ∃ z, z = r * 18446744073709551616 + l := ⟨_, rfl⟩
  rw [← hX] at hqb hXE ⊢
  simp only [nv, num] at HC ⊢
  generalize quo (lb r 3) (lb r 2) (lb M 3) = q at *
  obtain ⟨Y, hY⟩ : ∃ z, z = X % M := ⟨_, rfl⟩
  rw [← hY]
  obtain ⟨r0, er0⟩ : ∃ z, z = lb r 0 := ⟨_, rfl⟩
  obtain ⟨r1, er1⟩ : ∃ z, z = lb r 1 := ⟨_, rfl⟩
  obtain ⟨r2, er2⟩ : ∃ z, z = lb r 2 := ⟨_, rfl⟩
  obtain ⟨r3, er3⟩ : ∃ z, z = lb r 3 := ⟨_, rfl⟩
  obtain ⟨m0, em0⟩ : ∃ z, z = lb M 0 := ⟨_, rfl⟩
  obtain ⟨m1, em1⟩ : ∃ z, z = lb M 1 := ⟨_, rfl⟩
  obtain ⟨m2, em2⟩ : ∃ z, z = lb M 2 := ⟨_, rfl⟩
  obtain ⟨m3, em3⟩ : ∃ z, z = lb M 3 := ⟨_, rfl⟩
  rw [← er0, ← er1, ← er2, ← er3] at HC hXE ⊢
  rw [← em0, ← em1, ← em2, ← em3] at HC hME ⊢
  rw [← er0] at hr0
  rw [← er1] at hr1
  rw [← er2] at hr2
  rw [← er3] at hr3
  rw [← em0] at hm0
  rw [← em1] at hm1
  rw [← em2] at hm2
  rw [← em3] at hm3 hM3
  have HA := Lib.hid (And.intro hqb.1 (And.intro hqb.2 (And.intro hM2 (And.intro hMW (And.intro hMp (And.intro hXE (And.intro hME hY)))))))
  have HL := Lib.hid (And.intro hql (And.intro hl (And.intro hr0 (And.intro hr1 (And.intro hr2 (And.intro hr3 (And.intro hm0 (And.intro hm1 (And.intro hm2 hm3)))))))))
  clear hqb hM2 hMW hMp hXE hME hY hX hql hl hr0 hr1 hr2 hr3 hm0 hm1 hm2 hm3 hM3 hr hM er0 er1 er2 er3 em0 em1 em2 em3
  go_enter Tryz.func130, Tryz.ntmps130
  go_wp2_with fail
  refine (keep w.heap.size w (HC.out _) (by go_grown) (Nat.le_refl _)).mono ?_
  rintro e w2 ⟨rfl, hb, hk⟩
  have K0 : Hid (Bk 24 w2 w.heap.size #[.int .u64 (r0 : Int), .int .u64 (r1 : Int), .int .u64 (r2 : Int), .int .u64 (r3 : Int)]) := Lib.hid (Bk.below (Bk.alloc (Bk.alloc (Bk.new rfl))) hk)
  have K1 : Hid (Bk 24 w2 (w.heap.size + 1) #[.int .u64 (m0 : Int), .int .u64 (m1 : Int), .int .u64 (m2 : Int), .int .u64 (m3 : Int)]) := Lib.hid (Bk.below (Bk.alloc (Bk.new (by simp))) hk)
  have K2 : Hid (Bk 24 w2 (w.heap.size + 1 + 1) cs0) := Lib.hid (Bk.below (Bk.new (by simp)) hk)
  have HB := Lib.hid hb
  clear hk hb HC
  obtain ⟨i0, i1, i2, i3⟩ := K0.out.cells
  obtain ⟨x0, x1, x2, x3⟩ := K0.out.cellsA
  obtain ⟨j0, j1, j2, j3⟩ := K1.out.cellsA
  go_wp2_with fail
  refine wp_loop_rounds 5 ?_
  rw [rounds_succ]
  go_wp2_with fail
  refine (times_any (a := q) (b := m0) (c := 0) (d := 0) HL.out.1 HL.out.2.2.2.2.2.2.1 (by decide) (by decide) _).mono ?_
  rintro e wz ⟨⟨n0, k0, hn0, hk0, en0, rfl⟩, rfl⟩
  obtain ⟨d0, b0, hd0, hb0, ed0, kd0⟩ := sub64 l n0 0 (by decide) HL.out.2.1 hn0
  rw [show ((0 : Nat) : Int) = 0 from rfl] at kd0
  have HK0 := Lib.hid (And.intro hn0 (And.intro hk0 (And.intro hd0 (And.intro hb0 (And.intro en0 ed0)))))
  clear hn0 hk0 hd0 hb0 en0 ed0
  go_wp2_with fail
  clear kd0
  rw [rounds_succ]
  go_wp2_with fail
  refine (times_any (a := q) (b := m1) (c := k0) (d := 0) HL.out.1 HL.out.2.2.2.2.2.2.2.1 HK0.out.2.1 (by decide) _).mono ?_
  rintro e wz ⟨⟨n1, k1, hn1, hk1, en1, rfl⟩, rfl⟩
  obtain ⟨d1, b1, hd1, hb1, ed1, kd1⟩ := sub64 r0 n1 b0 HK0.out.2.2.2.1 HL.out.2.2.1 hn1
  have HK1 := Lib.hid (And.intro hn1 (And.intro hk1 (And.intro hd1 (And.intro hb1 (And.intro en1 ed1)))))
  clear hn1 hk1 hd1 hb1 en1 ed1
  go_wp2_with fail
  clear kd1
  rw [rounds_succ]
  go_wp2_with fail
  refine (times_any (a := q) (b := m2) (c := k1) (d := 0) HL.out.1 HL.out.2.2.2.2.2.2.2.2.1 HK1.out.2.1 (by decide) _).mono ?_
  rintro e wz ⟨⟨n2, k2, hn2, hk2, en2, rfl⟩, rfl⟩
  obtain ⟨d2, b2, hd2, hb2, ed2, kd2⟩ := sub64 r1 n2 b1 HK1.out.2.2.2.1 HL.out.2.2.2.1 hn2
  have HK2 := Lib.hid (And.intro hn2 (And.intro hk2 (And.intro hd2 (And.intro hb2 (And.intro en2 ed2)))))
  clear hn2 hk2 hd2 hb2 en2 ed2
  go_wp2_with fail
  clear kd2
  rw [rounds_succ]
  go_wp2_with fail
  refine (times_any (a := q) (b := m3) (c := k2) (d := 0) HL.out.1 HL.out.2.2.2.2.2.2.2.2.2 HK2.out.2.1 (by decide) _).mono ?_
  rintro e wz ⟨⟨n3, k3, hn3, hk3, en3, rfl⟩, rfl⟩
  obtain ⟨d3, b3, hd3, hb3, ed3, kd3⟩ := sub64 r2 n3 b2 HK2.out.2.2.2.1 HL.out.2.2.2.2.1 hn3
  have HK3 := Lib.hid (And.intro hn3 (And.intro hk3 (And.intro hd3 (And.intro hb3 (And.intro en3 ed3)))))
  clear hn3 hk3 hd3 hb3 en3 ed3
  go_wp2_with fail
  clear kd3
  obtain ⟨hi, hhi, hz, ehi⟩ : ∃ hi : Nat, hi < 18446744073709551616 ∧ (∃ z : Nat, hi + k3 + b3 = r3 + 18446744073709551616 * z) ∧ IntKind.u64.wrap ((r3 : Int) - IntKind.u64.wrap ((k3 : Int) + (b3 : Int))) = (hi : Int) := by
    have h1 := HK3.out.2.1
    have h2 := HK3.out.2.2.2.1
    have h3 := HL.out.2.2.2.2.2.1
    refine ⟨(r3 + 36893488147419103232 - (k3 + b3)) % 18446744073709551616, by omega, ⟨(k3 + b3 + (r3 + 36893488147419103232 - (k3 + b3)) % 18446744073709551616 - r3) / 18446744073709551616, by omega⟩, by rw [IntKind.wrap_u64, IntKind.wrap_u64]; omega⟩
  have HE := Lib.hid (show (q = X / M ∧ hi = 0 ∧ v4 d0 d1 d2 d3 = Y) ∨ (q = X / M + 1 ∧ v4 d0 d1 d2 d3 + M = W256 + Y ∧ hi = 18446744073709551615) ∨ (q = X / M + 2 ∧ v4 d0 d1 d2 d3 + W256 * hi + 2 * M = W256 * 18446744073709551616 + Y) from by
    obtain ⟨g1, g2, g3, g4, g5, g6, g7, g8⟩ := HA.out
    obtain ⟨f1, f2, f3, f4, f5, f6, f7, f8, f9, f10⟩ := HL.out
    obtain ⟨hn0, hk0, hd0, hb0, en0, ed0⟩ := HK0.out
    obtain ⟨hn1, hk1, hd1, hb1, en1, ed1⟩ := HK1.out
    obtain ⟨hn2, hk2, hd2, hb2, en2, ed2⟩ := HK2.out
    obtain ⟨hn3, hk3, hd3, hb3, en3, ed3⟩ := HK3.out
    rw [g8]
    refine behind_arith (N := v4 n0 n1 n2 n3) (low := v4 l r0 r1 r2) (k3 := k3) (b3 := b3) (r3 := r3) (by omega) g1 g2 g3 g4 ?_ (v4_lt hd0 hd1 hd2 hd3) hb3 ?_ g6 f6 hk3 hhi hz
    · rw [← g7, mul_v4]
      generalize q * m0 = t0 at *
      generalize q * m1 = t1 at *
      generalize q * m2 = t2 at *
      generalize q * m3 = t3 at *
      unfold v4 W256
      omega
    · unfold v4 W256
      omega)
  have HD := Lib.hid (And.intro HK0.out.2.2.1 (And.intro HK1.out.2.2.1 (And.intro HK2.out.2.2.1 HK3.out.2.2.1)))
  have HHI := Lib.hid hhi
  clear hz hhi HK0 HK1 HK2 HK3
  rw [rounds_succ]
  go_wp2_with fail
  clear x0 x1 x2 x3 i0 i1 i2 i3 j0 j1 j2 j3
  obtain ⟨f0, f1, f2, f3⟩ := K2.out.frosA
  obtain ⟨c0, c1, c2, c3⟩ := K2.out.cellsA
  rcases HE.out with ⟨_, h0, hY⟩ | ⟨_, hY, h1⟩ | ⟨_, hY⟩
  · subst h0
    have HY := Lib.hid hY
    clear hY
    refine wp_loop_rounds 1 ?_
    rw [rounds_succ]
    go_wp2_with fail
    refine ret_cell rfl (w.heap.size + 1 + 1) Y rfl (by rw [← HY.out, cs4_v4 HD.out.1 HD.out.2.1 HD.out.2.2.1 HD.out.2.2.2]; exact Bk.put K2.out.alloc) rfl ⟨rfl, ?_⟩
    have hb := HB.out
    have hs := hb.size
    go_grown
  · subst h1
    have hYM : Y < M := by
      have h1 := HA.out.2.2.2.2.2.2.2
      have h2 := HA.out.2.2.2.2.1
      rw [h1]; exact Nat.mod_lt _ (by omega)
    have HY := Lib.hid (And.intro hY hYM)
    clear hY hYM
    refine wp_loop_rounds 2 ?_
    rw [rounds_succ]
    obtain ⟨j0, j1, j2, j3⟩ := K1.out.cellsA
    have HD1 := HD
    go_wp2_with fail
    refine (keep w.heap.size w (plus_any HD1.out.1 HD1.out.2.1 HD1.out.2.2.1 HD1.out.2.2.2 HL.out.2.2.2.2.2.2.1 HL.out.2.2.2.2.2.2.2.1 HL.out.2.2.2.2.2.2.2.2.1 HL.out.2.2.2.2.2.2.2.2.2 _) (by have hb := HB.out; have hs := hb.size; go_grown) (Nat.le_refl _)).mono ?_
    rintro e w3 ⟨⟨s0, s1, s2, s3, c, z0, z1, z2, z3, zc, ze, rfl⟩, hb, hk⟩
    have HD2 := Lib.hid (And.intro z0 (And.intro z1 (And.intro z2 z3)))
    obtain ⟨hc1, hs1⟩ : c = 1 ∧ v4 s0 s1 s2 s3 = Y := by
      rw [HA.out.2.2.2.2.2.2.1] at ze
      have h1 := HY.out.1
      have h2 := HY.out.2
      have h3 := HA.out.2.2.2.1
      have h4 := v4_lt z0 z1 z2 z3
      generalize v4 s0 s1 s2 s3 = S at *
      generalize v4 d0 d1 d2 d3 = DD at *
      unfold W256 at *
      omega
    subst hc1
    have HS := Lib.hid hs1
    have KK2 : Hid (Bk 24 w3 (w.heap.size + 1 + 1) cs0) := Lib.hid (Bk.below (Bk.alloc K2.out) hk)
    have KKL : Hid (Bk 24 w3 w2.heap.size #[.int .u64 (d0 : Int), .int .u64 (d1 : Int), .int .u64 (d2 : Int), .int .u64 (d3 : Int)]) := Lib.hid (Bk.below (Bk.new rfl) hk)
    have hne1 : ¬ (w.heap.size + 1 + 1 = w2.heap.size) := by have := K2.out.lt; omega
    have hne2 : ¬ (w2.heap.size = w.heap.size + 1 + 1) := by have := K2.out.lt; omega
    have HB3 := Lib.hid hb
    clear z0 z1 z2 z3 zc ze hs1 hk hb f0 f1 f2 f3 c0 c1 c2 c3 j0 j1 j2 j3
    obtain ⟨f0, f1, f2, f3⟩ := KK2.out.fros
    obtain ⟨c0, c1, c2, c3⟩ := KK2.out.cells
    obtain ⟨y0, y1, y2, y3⟩ := KKL.out.fros
    obtain ⟨x0, x1, x2, x3⟩ := KKL.out.cells
    simp only [num]
    go_wp2_with fail
    rw [rounds_succ]
    go_wp2_with fail
    refine ret_cell rfl (w.heap.size + 1 + 1) Y rfl (by rw [← HS.out, cs4_v4 HD2.out.1 HD2.out.2.1 HD2.out.2.2.1 HD2.out.2.2.2]; exact Bk.put (Bk.puto hne1 KK2.out)) rfl ⟨rfl, ?_⟩
    have hb := HB3.out
    have hs := HB.out.size
    go_grown
  · have hYM : Y < M := by
      have h1 := HA.out.2.2.2.2.2.2.2
      have h2 := HA.out.2.2.2.2.1
      rw [h1]; exact Nat.mod_lt _ (by omega)
    have HY := Lib.hid (And.intro hY hYM)
    have hi1 : ((hi : Int) != 0) = true := by
      have h3 := HA.out.2.2.2.1
      have h4 := v4_lt HD.out.1 HD.out.2.1 HD.out.2.2.1 HD.out.2.2.2
      generalize v4 d0 d1 d2 d3 = DD at *
      unfold W256 at *
      simp
      omega
    clear hY hYM
    refine wp_loop_rounds 3 ?_
    rw [rounds_succ]
    obtain ⟨j0, j1, j2, j3⟩ := K1.out.cellsA
    have HD1 := HD
    go_wp2_with fail
    refine (keep w.heap.size w (plus_any HD1.out.1 HD1.out.2.1 HD1.out.2.2.1 HD1.out.2.2.2 HL.out.2.2.2.2.2.2.1 HL.out.2.2.2.2.2.2.2.1 HL.out.2.2.2.2.2.2.2.2.1 HL.out.2.2.2.2.2.2.2.2.2 _) (by have hb := HB.out; have hs := hb.size; have hs2 := HB.out.size; go_grown) (Nat.le_refl _)).mono ?_
    rintro e w3 ⟨⟨s0, s1, s2, s3, c, z0, z1, z2, z3, zc, ze, rfl⟩, hb, hk⟩
    have HD2 := Lib.hid (And.intro z0 (And.intro z1 (And.intro z2 z3)))
    obtain ⟨hc1, hs1⟩ : IntKind.u64.wrap ((hi : Int) + (c : Int)) = 18446744073709551615 ∧ v4 s0 s1 s2 s3 + M = W256 + Y := by
      rw [HA.out.2.2.2.2.2.2.1] at ze
      have h1 := HY.out.1
      have h2 := HY.out.2
      have h3 := HA.out.2.2.2.1
      have h4 := v4_lt z0 z1 z2 z3
      have h5 := HHI.out
      generalize v4 s0 s1 s2 s3 = S at *
      generalize v4 d0 d1 d2 d3 = DD at *
      rw [IntKind.wrap_u64]
      unfold W256 at *
      omega
    have HS := Lib.hid hs1
    have KM : Hid (Bk 24 w3 (w.heap.size + 1) #[.int .u64 (m0 : Int), .int .u64 (m1 : Int), .int .u64 (m2 : Int), .int .u64 (m3 : Int)]) := Lib.hid (Bk.below (Bk.alloc K1.out) hk)
    have KK2 : Hid (Bk 24 w3 (w.heap.size + 1 + 1) cs0) := Lib.hid (Bk.below (Bk.alloc K2.out) hk)
    have KKL : Hid (Bk 24 w3 w2.heap.size #[.int .u64 (d0 : Int), .int .u64 (d1 : Int), .int .u64 (d2 : Int), .int .u64 (d3 : Int)]) := Lib.hid (Bk.below (Bk.new rfl) hk)
    have hne1 : ¬ (w.heap.size + 1 + 1 = w2.heap.size) := by have := K2.out.lt; omega
    have hne2 : ¬ (w2.heap.size = w.heap.size + 1 + 1) := by have := K2.out.lt; omega
    have hne3 : ¬ (w.heap.size + 1 = w2.heap.size) := by have := K2.out.lt; omega
    have hne4 : ¬ (w2.heap.size = w.heap.size + 1) := by have := K2.out.lt; omega
    have HB3 := Lib.hid hb
    clear z0 z1 z2 z3 zc ze hs1 hk hb f0 f1 f2 f3 c0 c1 c2 c3 j0 j1 j2 j3
    obtain ⟨j0, j1, j2, j3⟩ := KM.out.cells
    obtain ⟨y0, y1, y2, y3⟩ := KKL.out.fros
    obtain ⟨x0, x1, x2, x3⟩ := KKL.out.cells
    simp only [num]
    go_wp2_with fail
    rw [rounds_succ]
    go_wp2_with fail
    refine (keep w.heap.size w (plus_any HD2.out.1 HD2.out.2.1 HD2.out.2.2.1 HD2.out.2.2.2 HL.out.2.2.2.2.2.2.1 HL.out.2.2.2.2.2.2.2.1 HL.out.2.2.2.2.2.2.2.2.1 HL.out.2.2.2.2.2.2.2.2.2 _) (by have hb := HB3.out; have hs := hb.size; have hs2 := HB.out.size; go_grown) (Nat.le_refl _)).mono ?_
    rintro e w4 ⟨⟨u0, u1, u2, u3, cc, z0, z1, z2, z3, zc, ze, rfl⟩, hb, hk⟩
    have HD3 := Lib.hid (And.intro z0 (And.intro z1 (And.intro z2 z3)))
    obtain ⟨hcc1, hu1⟩ : cc = 1 ∧ v4 u0 u1 u2 u3 = Y := by
      rw [HA.out.2.2.2.2.2.2.1] at ze
      have h1 := HS.out
      have h2 := HY.out.2
      have h3 := HA.out.2.2.2.1
      have h4 := v4_lt z0 z1 z2 z3
      generalize v4 u0 u1 u2 u3 = U at *
      generalize v4 s0 s1 s2 s3 = S at *
      unfold W256 at *
      omega
    subst hcc1
    have HU := Lib.hid hu1
    have LK2 : Hid (Bk 24 w4 (w.heap.size + 1 + 1) cs0) := Lib.hid (Bk.below (Bk.puto hne1 KK2.out) hk)
    have LKL : Hid (Bk 24 w4 w2.heap.size #[.int .u64 (s0 : Int), .int .u64 (s1 : Int), .int .u64 (s2 : Int), .int .u64 (s3 : Int)]) := Lib.hid (Bk.below (Bk.put KKL.out) hk)
    have HB4 := Lib.hid hb
    clear z0 z1 z2 z3 zc ze hu1 hk hb j0 j1 j2 j3 y0 y1 y2 y3 x0 x1 x2 x3 hc1
    obtain ⟨f0, f1, f2, f3⟩ := LK2.out.fros
    obtain ⟨c0, c1, c2, c3⟩ := LK2.out.cells
    obtain ⟨y0, y1, y2, y3⟩ := LKL.out.fros
    obtain ⟨x0, x1, x2, x3⟩ := LKL.out.cells
    simp only [num]
    go_wp2_with fail
    rw [rounds_succ]
    go_wp2_with fail
    refine ret_cell rfl (w.heap.size + 1 + 1) Y rfl (by rw [← HU.out, cs4_v4 HD3.out.1 HD3.out.2.1 HD3.out.2.2.1 HD3.out.2.2.2]; exact Bk.put (Bk.puto hne1 LK2.out)) rfl ⟨rfl, ?_⟩
    have hb := HB4.out
    have hs := HB.out.size
    go_grown
end Go.Proofs.YtpggkfdijmnmiaaGreat
namespace Go.Proofs.YtpggkfdijmnmiaaGreat
open Go.RowKit Limbs
noncomputable def ops19 (n : Nat) : Array Oper := (Tryz.f156.body.bind fun c => findR c n).getD #[]
noncomputable def ops15 (n : Nat) : Array Oper := (Tryz.f141.body.bind fun c => findR c n).getD #[]
noncomputable def ops17 (n : Nat) : Array Oper := (Tryz.f73.body.bind fun c => findR c n).getD #[]
theorem cell_alloc_old {w : World} {o : Obj} {g i : Nat} (h : g < w.heap.size) : (w.alloc o).cell? ⟨g, i, none⟩ = w.cell? ⟨g, i, none⟩ :=
  ((Below.refl w.heap.size w).alloc (Nat.le_refl _) o).cell (p := ⟨g, i, none⟩) h
theorem Bk.all4 {w : World} {g : Nat} {x0 x1 x2 x3 : Value} (h : Bk 24 w g #[x0, x1, x2, x3]) : ((∀ w', Below w.heap.size w w' → w'.cell? ⟨g, 0, none⟩ = some x0) ∧ (∀ w', Below w.heap.size w w' → w'.cell? ⟨g, 1, none⟩ = some x1) ∧ (∀ w', Below w.heap.size w w' → w'.cell? ⟨g, 2, none⟩ = some x2) ∧ (∀ w', Below w.heap.size w w' → w'.cell? ⟨g, 3, none⟩ = some x3)) ∧ (∀ w' o, Below w.heap.size w w' → (w'.alloc o).cell? ⟨g, 0, none⟩ = some x0) ∧ (∀ w' o, Below w.heap.size w w' → (w'.alloc o).cell? ⟨g, 1, none⟩ = some x1) ∧ (∀ w' o, Below w.heap.size w w' → (w'.alloc o).cell? ⟨g, 2, none⟩ = some x2) ∧ (∀ w' o, Below w.heap.size w w' → (w'.alloc o).cell? ⟨g, 3, none⟩ = some x3) :=
  ⟨⟨fun _ hB => (h.below hB).cell 0, fun _ hB => (h.below hB).cell 1, fun _ hB => (h.below hB).cell 2, fun _ hB => (h.below hB).cell 3⟩, fun _ _ hB => (h.below hB).alloc.cell 0, fun _ _ hB => (h.below hB).alloc.cell 1, fun _ _ hB => (h.below hB).alloc.cell 2, fun _ _ hB => (h.below hB).alloc.cell 3⟩
theorem kp {W w' : World} (hb : Below W.heap.size W w') : (∀ g i, g < W.heap.size → w'.cell? ⟨g, i, none⟩ = W.cell? ⟨g, i, none⟩) ∧ (∀ g i, g < W.heap.size → w'.frozen? ⟨g, i, none⟩ = W.frozen? ⟨g, i, none⟩) :=
  ⟨fun g i h => hb.cell (p := ⟨g, i, none⟩) h, fun g i h => hb.frozen (p := ⟨g, i, none⟩) h⟩
set_option maxHeartbeats 16000000 in
theorem m3 (gl gM M l4 l5 l6 l7 r : Nat) (w : World) (hgl : gl < w.heap.size) (k4 : w.cell? ⟨gl, 4, none⟩ = some (.int .u64 (l4 : Int))) (k5 : w.cell? ⟨gl, 5, none⟩ = some (.int .u64 (l5 : Int))) (k6 : w.cell? ⟨gl, 6, none⟩ = some (.int .u64 (l6 : Int))) (k7 : w.cell? ⟨gl, 7, none⟩ = some (.int .u64 (l7 : Int))) (KM : Bk 24 w gM (cs4 M)) (HQ : Hid (∀ w, Calls Tryz.prog 132 #[.agg #[.int .u64 (l4 : Int), .int .u64 (l5 : Int), .int .u64 (l6 : Int), .int .u64 (l7 : Int)], nv M] w fun e w' => e = .returned (nv r) ∧ Below w.heap.size w w'))
    {t0 t1 t2 t3 t4 t5 t6 t9 t10 t11 t12 t13 t14 t15 t16 t17 t18 t19 t20 t21 t22 t23 t24 t25 t26 t27 t28 t29 t30 t31 t32 : Value} {ds : List Deferred} {K : Act → World → Prop} {Q : Exit → Act → World → Prop}
    (h : ∀ (x16 x17 x18 x19 x20 : Value) (g : Nat) (w' : World) (hb : Below w.heap.size w w') (hg : w.heap.size ≤ g) (hk : Bk 24 w' g (cs4 r)), K { tmps := #[t0, t1, t2, t3, t4, t5, t6, .pointer (some ⟨gM, 0, none⟩), .pointer (some ⟨gl, 0, none⟩), .pointer (some ⟨g, 0, none⟩), t10, t11, t12, t13, t14, t15, x16, x17, x18, x19, x20, t21, t22, t23, t24, t25, t26, t27, t28, t29, t30, t31, t32], defers := ds } w') :
    (Code.region 3 (ops19 3) true).wp Tryz.prog (Exit.then K Q) { tmps := #[t0, t1, t2, t3, t4, t5, t6, .pointer (some ⟨gM, 0, none⟩), .pointer (some ⟨gl, 0, none⟩), t9, t10, t11, t12, t13, t14, t15, t16, t17, t18, t19, t20, t21, t22, t23, t24, t25, t26, t27, t28, t29, t30, t31, t32], defers := ds } w := by
  simp only [ops19, findR, Tryz.f156, Option.bind_some, Option.or, Option.getD, Nat.reduceEqDiff, if_true, if_false, reduceIte]
  have HH := Lib.hid h
  clear h
  refine Code.wp_mono (Q := Exit.then K (fun _ _ _ => False)) (fun e a w h => by cases e <;> first | exact h | exact h.elim) ?_
  have hat : ∀ w, (Instr.arrayAt 24 (.slice (some ⟨gl, 4, none⟩) 4 4)).run Tryz.prog w = .ok (.pointer (some ⟨gl, 4, none⟩)) w := fun w => run_arrayAt w 24 22 4 _ 4 4 u24 (by decide)
  obtain ⟨m0, m1, m2, m3⟩ := KM.cells
  obtain ⟨n0, n1, n2, n3⟩ := KM.cellsA
  have z4 : ∀ o, (w.alloc o).cell? ⟨gl, 4, none⟩ = some (.int .u64 (l4 : Int)) := fun o => by rw [← k4]; exact cell_alloc_old hgl
  have z5 : ∀ o, (w.alloc o).cell? ⟨gl, 5, none⟩ = some (.int .u64 (l5 : Int)) := fun o => by rw [← k5]; exact cell_alloc_old hgl
  have z6 : ∀ o, (w.alloc o).cell? ⟨gl, 6, none⟩ = some (.int .u64 (l6 : Int)) := fun o => by rw [← k6]; exact cell_alloc_old hgl
  have z7 : ∀ o, (w.alloc o).cell? ⟨gl, 7, none⟩ = some (.int .u64 (l7 : Int)) := fun o => by rw [← k7]; exact cell_alloc_old hgl
  simp only [nv, num] at HQ
  go_region_law (go_simp; go_at_call 132; refine (keep w.heap.size w (HQ.out _) (by go_grown) (Nat.le_refl _)).mono ?_; rintro e w' ⟨rfl, hB, hb⟩; obtain ⟨hc, hf⟩ := kp hb)
  all_goals have hs := hB.size
  all_goals first
    | exact HH.out _ _ _ _ _ _ _ (by go_grown) hs (Bk.new rfl)
    | exact HH.out _ _ _ _ _ _ _ (by go_grown) (Nat.le_refl _) (Bk.put (Bk.below (Bk.drew (Bk.new rfl)) hb))
end Go.Proofs.YtpggkfdijmnmiaaGreat
namespace Go.Proofs.YtpggkfdijmnmiaaGreat
open Go.RowKit
section
variable {P : Program} {ops : Array Oper} {md : Region.Mode} {Q : Exit → Act → World → Prop}
def left (l : Array Bool) : Nat := (l.toList.filter (fun x => !x)).length
theorem left_set_list : ∀ (l : List Bool) (i : Nat) (h : i < l.length), l[i] = false → ((l.set i true).filter (fun x => !x)).length + 1 = (l.filter (fun x => !x)).length
  | x :: l, 0, h, hx => by
    have : x = false := hx
    subst this
    simp
  | x :: l, i + 1, h, hx => by
    have ih := left_set_list l i (by simpa using h) (by simpa using hx)
    cases x <;> simp [List.filter_cons] <;> omega
theorem left_set {l : Array Bool} {i : Nat} (h : l.getD i true = false) : left (l.setIfInBounds i true) + 1 = left l := by
  have hi : i < l.size := by
    rcases Nat.lt_or_ge i l.size with h' | h'
    · exact h'
    · simp [Array.getElem?_eq_none h'] at h
  have hx : l[i] = false := by simpa [hi] using h
  unfold left
  have := left_set_list l.toList i (by simpa using hi) (by simpa using hx)
  simpa [Array.toList_setIfInBounds, hi] using this
theorem ready_left {l : Array Bool} {i : Nat} (h : i ∈ Region.ready md ops l) : 0 < left l := by
  have := left_set (mem_ready.1 h).1
  omega
theorem wpAny_inv {I : Array Bool → Act → World → Prop} (step : ∀ l a w, I l a w → ∀ i ∈ Region.ready md ops l, wpOp P ops Q i (fun a' w' => I (l.setIfInBounds i true) a' w') a w)
    (fin : ∀ l a w, I l a w → Region.ready md ops l = [] → Q .normal a w) : ∀ (fuel : Nat) (l : Array Bool) (a : Act) (w : World), left l ≤ fuel → I l a w → wpAny P md ops Q fuel l a w
  | 0, l, a, w, hf, h => by
    have h0 : Region.ready md ops l = [] := by
      rw [List.eq_nil_iff_forall_not_mem]
      intro i hi
      have := ready_left hi
      omega
    exact ⟨h0, fin l a w h h0⟩
  | fuel + 1, l, a, w, hf, h => by
    refine ⟨fin l a w h, fun i hi => ?_⟩
    have hl := left_set (mem_ready.1 hi).1
    exact wpOp_mono (fun a' w' h' => wpAny_inv step fin fuel _ a' w' (by omega) h') (step l a w h i hi)
theorem wpOp_of {i : Nat} {o : Oper} {K : Act → World → Prop} {a : Act} {w : World} (hi : ops[i]? = some o) (hg : o.guard = none) (h : o.wp P a w K Q) : wpOp P ops Q i K a w := by
  unfold wpOp
  simp only [hi]
  rw [if_pos (by simp [Region.wanted, hg])]
  exact .inl h
end
end Go.Proofs.YtpggkfdijmnmiaaGreat
