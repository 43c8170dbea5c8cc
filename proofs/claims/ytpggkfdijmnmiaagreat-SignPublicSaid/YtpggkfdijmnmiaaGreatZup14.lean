/- A drawn region by a plan: what each operation gives, in whatever order its edges allow. General; no condition. A drawn region by a plan: reading what is known. General; no condition. The drawn region of sign's timesBase. No condition. The drawn region of sign's fixed answers. No condition. What sign's timesBase answers. Condition: the number is below 2 to the 256. What sign's Public answers, and S -/
import Derived.Test.YtpggkfdijmnmiaaGreatZup13
import Derived.Test.YtpggkfdijmnmiaaGreatZup04
import Derived.Test.YtpggkfdijmnmiaaGreatZup08
import Derived.Test.YtpggkfdijmnmiaaGreatRows
import Derived.Lib.Hide
import Derived.WalkKit
import Derived.WalkSpells
import Derived.WalkLawsBesides
import Derived.BigCall
import Derived.Outline
import Derived.Lib.OthersKept
import Derived.Test.YtpggkfdijmnmiaaGreatZup01
import Derived.Laws.BitsAllLaws
import Derived.Lib.QuietBelow
import Derived.Lib.Walk
import Derived.Laws.Shifts
import Derived.Lib.ConvBytes
import Derived.Lib.BufferRead
import Derived.Laws.IdiomStrings
set_option linter.unusedVariables false
set_option linter.unusedSimpArgs false
set_option maxRecDepth 100000
namespace Go.Proofs.YtpggkfdijmnmiaaGreat.Pl
open Go.RowKit Go.Sort
section
variable {P : Program} {ops : Array Oper} {Q : Exit → Act → World → Prop}
def maskB (ops : Array Oper) (M : List (List Nat)) : Bool := (List.range ops.size).all fun i => match ops[i]? with
  | some o => (M.getD i []).all fun c => o.after.any fun e => Region.binds .any e && (e.on == c || (M.getD e.on []).contains c)
  | none => true
def backB (ops : Array Oper) : Bool := (List.range ops.size).all fun i => match ops[i]? with
  | some o => o.after.all fun e => !Region.binds .any e || decide (e.on < i)
  | none => true
theorem backB_spec (hb : backB ops = true) {i : Nat} {o : Oper} (ho : ops[i]? = some o) {e : Edge} (he : e ∈ o.after) (hbe : Region.binds .any e = true) : e.on < i := by
  unfold backB at hb
  rw [List.all_eq_true] at hb
  have h1 := hb i (List.mem_range.2 (Array.getElem?_eq_some_iff.1 ho).1)
  rw [ho] at h1
  simp only [Array.all_eq_true, Bool.or_eq_true, Bool.not_eq_true', decide_eq_true_eq] at h1
  obtain ⟨q, hq, rfl⟩ := Array.mem_iff_getElem.1 he
  rcases h1 q hq with h2 | h2
  · rw [hbe] at h2; cases h2
  · exact h2
def Closed (ops : Array Oper) (l : Array Bool) : Prop := ∀ (i : Nat) (o : Oper), l.getD i false = true → ops[i]? = some o → ∀ e ∈ o.after, Region.binds .any e = true → l.getD e.on false = true
theorem anc_listed {M : List (List Nat)} (hM : maskB ops M = true) (hbw : backB ops = true) {l : Array Bool} (h : Closed ops l) : ∀ (n i c : Nat) (o : Oper), i < n → ops[i]? = some o → (∀ e ∈ o.after, Region.binds .any e = true → l.getD e.on false = true) → (M.getD i []).contains c = true → l.getD c false = true
  | 0, _, _, _, hi, _, _, _ => absurd hi (Nat.not_lt_zero _)
  | n + 1, i, c, o, hi, ho, hd, ha => by
    have h1 := hM
    unfold maskB at h1
    rw [List.all_eq_true] at h1
    have h2 := h1 i (List.mem_range.2 (Array.getElem?_eq_some_iff.1 ho).1)
    rw [ho] at h2
    simp only [List.all_eq_true] at h2
    have h3 := h2 c (by simpa using ha)
    simp only [Array.any_eq_true, Bool.and_eq_true, Bool.or_eq_true, beq_iff_eq] at h3
    obtain ⟨k, hk, hb, ha⟩ := h3
    have hl := hd _ (Array.getElem_mem hk) hb
    have hlt := backB_spec hbw ho (Array.getElem_mem hk) hb
    rcases ha with ha | ha
    · rw [← ha]; exact hl
    · have hin : (o.after[k]).on < ops.size := Nat.lt_trans hlt (Array.getElem?_eq_some_iff.1 ho).1
      exact anc_listed hM hbw h n _ c _ (by omega) (Array.getElem?_eq_getElem hin) (h _ _ hl (Array.getElem?_eq_getElem hin)) ha
def dstB (ops : Array Oper) (m : Nat) : Bool := (List.range ops.size).all fun i => (List.range ops.size).all fun j => match ops[i]?, ops[j]? with
  | some o, some o' => match o.dst with
    | none => true
    | some d => decide (d < m) && (i == j || o'.dst != some d)
  | _, _ => true
theorem dstB_spec {m : Nat} (h : dstB ops m = true) {i j : Nat} {o o' : Oper} {d : Tmp} (hi : ops[i]? = some o) (hj : ops[j]? = some o') (hd : o.dst = some d) : d < m ∧ (i = j ∨ o'.dst ≠ some d) := by
  unfold dstB at h
  rw [List.all_eq_true] at h
  have h1 := h i (List.mem_range.2 (Array.getElem?_eq_some_iff.1 hi).1)
  rw [List.all_eq_true] at h1
  have h2 := h1 j (List.mem_range.2 (Array.getElem?_eq_some_iff.1 hj).1)
  rw [hi, hj] at h2
  simp only [hd, Bool.and_eq_true, decide_eq_true_eq, Bool.or_eq_true, beq_iff_eq, bne_iff_ne, ne_eq] at h2
  exact h2
structure Tm (ops : Array Oper) (T0 : Array Value) (v : Nat → Value) (l : Array Bool) (T : Array Value) : Prop where
  size : T.size = T0.size
  come : ∀ (i : Nat) (o : Oper) (d : Tmp), l.getD i false = true → ops[i]? = some o → o.dst = some d → T.getD d undef = v i
  rest : ∀ (d : Tmp), (∀ (i : Nat) (o : Oper), l.getD i false = true → ops[i]? = some o → o.dst ≠ some d) → T.getD d undef = T0.getD d undef
theorem getD_set (T : Array Value) (d k : Nat) (x : Value) (hd : d < T.size) : (T.setIfInBounds d x).getD k undef = if k = d then x else T.getD k undef := by
  by_cases hk : k = d
  · subst hk
    simp [Array.getD, hd]
  · rw [if_neg hk]
    simp only [Array.getD]
    by_cases h : k < T.size
    · simp [h, Array.getElem_setIfInBounds, Ne.symm hk]
    · simp [h]
theorem getD_lset (l : Array Bool) (i k : Nat) (hi : l.getD i true = false) : (l.setIfInBounds i true).getD k false = if k = i then true else l.getD k false := by
  have hlt : i < l.size := by
    by_cases h : i < l.size
    · exact h
    · simp [Array.getD, h] at hi
  by_cases hk : k = i
  · subst hk
    simp [Array.getD, hlt]
  · rw [if_neg hk]
    simp only [Array.getD]
    by_cases h : k < l.size
    · simp [h, Array.getElem_setIfInBounds, Ne.symm hk]
    · simp [h]
theorem Tm.put {T0 T : Array Value} {v : Nat → Value} {l : Array Bool} (h : Tm ops T0 v l T) (hB : dstB ops T0.size = true) {i : Nat} {o : Oper} (ho : ops[i]? = some o) (hi : l.getD i true = false) (ds : List Deferred) : Tm ops T0 v (l.setIfInBounds i true) (Act.put ⟨T, ds⟩ o.dst (v i)).tmps := by
  unfold Act.put
  cases hd : o.dst with
  | none =>
    refine ⟨h.size, fun k o' d hl hk hd' => ?_, fun d hn => h.rest d fun k o' hl hk => hn k o' (by rw [getD_lset l i k hi]; split <;> simp_all) hk⟩
    rw [getD_lset l i k hi] at hl
    by_cases hki : k = i
    · subst hki
      rw [ho] at hk
      cases hk
      rw [hd] at hd'
      cases hd'
    · rw [if_neg hki] at hl
      exact h.come k o' d hl hk hd'
  | some d0 =>
    have hlt : d0 < T.size := by rw [h.size]; exact (dstB_spec hB ho ho hd).1
    refine ⟨by simp [h.size], fun k o' d hl hk hd' => ?_, fun d hn => ?_⟩
    · rw [getD_lset l i k hi] at hl
      show (T.setIfInBounds d0 (v i)).getD d undef = v k
      rw [getD_set T d0 d _ hlt]
      by_cases hki : k = i
      · subst hki
        rw [ho] at hk
        cases hk
        rw [hd] at hd'
        cases hd'
        rw [if_pos rfl]
      · rw [if_neg hki] at hl
        rw [if_neg (fun e => by
          subst e
          rcases (dstB_spec hB ho hk hd).2 with e | e
          · exact hki e.symm
          · exact e hd')]
        exact h.come k o' d hl hk hd'
    · show (T.setIfInBounds d0 (v i)).getD d undef = T0.getD d undef
      have hne : d ≠ d0 := fun e => hn i o (by rw [getD_lset l i i hi, if_pos rfl]) ho (by rw [hd, e])
      rw [getD_set T d0 d _ hlt, if_neg hne]
      exact h.rest d fun k o' hl hk => hn k o' (by rw [getD_lset l i k hi]; split <;> simp_all) hk
def planT (ops : Array Oper) (T0 : Array Value) (v : Nat → Value) : Nat → Array Value
  | 0 => T0
  | k + 1 => (Act.put ⟨planT ops T0 v k, []⟩ ((ops[k]?).bind (·.dst)) (v k)).tmps
theorem planT_tm {T0 : Array Value} {v : Nat → Value} (hB : dstB ops T0.size = true) : ∀ k, k ≤ ops.size → ∃ l : Array Bool, l.size = ops.size ∧ (∀ i, l.getD i false = true ↔ i < k) ∧ Tm ops T0 v l (planT ops T0 v k)
  | 0, _ => ⟨Array.replicate ops.size false, by simp, fun i => by
      simp only [Array.getD]
      by_cases h : i < ops.size <;> simp [h], ⟨rfl, fun i o d hl _ _ => by
      simp only [Array.getD] at hl
      by_cases h : i < ops.size <;> simp [h] at hl, fun d _ => rfl⟩⟩
  | k + 1, hk => by
    obtain ⟨l, hs, hl, ht⟩ := planT_tm (v := v) hB k (by omega)
    obtain ⟨o, ho⟩ : ∃ o, ops[k]? = some o := ⟨_, Array.getElem?_eq_getElem (by omega)⟩
    have hkf : l.getD k true = false := by
      have h1 : k < l.size := by omega
      have h2 := (hl k)
      simp only [Array.getD, h1, dif_pos] at h2 ⊢
      simpa using h2
    refine ⟨l.setIfInBounds k true, by simp [hs], fun i => ?_, ?_⟩
    · rw [getD_lset l k i hkf]
      split
      · simp; omega
      · rw [hl i]; omega
    · have := ht.put hB ho hkf []
      unfold planT
      rw [ho]
      exact this
theorem tm_ext {T T' : Array Value} (hs : T.size = T'.size) (h : ∀ d, T.getD d undef = T'.getD d undef) : T = T' := by
  apply Array.ext hs
  intro i h1 h2
  have := h i
  simpa [Array.getD, h1, h2] using this
theorem Tm.all {T0 T : Array Value} {v : Nat → Value} {l : Array Bool} (h : Tm ops T0 v l T) (hB : dstB ops T0.size = true) (hl : ∀ i, i < ops.size → l.getD i false = true) : T = planT ops T0 v ops.size := by
  obtain ⟨l', hs', hl', ht'⟩ := planT_tm (ops := ops) (v := v) hB ops.size (Nat.le_refl _)
  refine tm_ext (by rw [h.size, ht'.size]) fun d => ?_
  by_cases hd : ∃ (i : Nat) (o : Oper), ops[i]? = some o ∧ o.dst = some d
  · obtain ⟨i, o, ho, hd⟩ := hd
    have hi := (Array.getElem?_eq_some_iff.1 ho).1
    rw [h.come i o d (hl i hi) ho hd, ht'.come i o d ((hl' i).2 hi) ho hd]
  · rw [h.rest d fun i o _ ho hd' => hd ⟨i, o, ho, hd'⟩, ht'.rest d fun i o _ ho hd' => hd ⟨i, o, ho, hd'⟩]
def upd (y : Nat → Value) (c : Nat) (v : Value) : Nat → Value := fun k => if k = c then v else y k
def Known (ops : Array Oper) (T0 : Array Value) (v : Nat → Value) (o : Oper) (T : Array Value) : Prop :=
  (∀ e ∈ o.after, Region.binds .any e = true → ∀ (o' : Oper) (d : Tmp), ops[e.on]? = some o' → o'.dst = some d → T.getD d undef = v e.on) ∧ (∀ d : Tmp, (∀ (k : Nat) (o' : Oper), ops[k]? = some o' → o'.dst ≠ some d) → T.getD d undef = T0.getD d undef)
def updB (d : Nat → Bool) (c : Nat) : Nat → Bool := fun k => if k = c then true else d k
def Pin (ops : Array Oper) (T0 : Array Value) (ds : List Deferred) (cs : List Nat) (vs : (Nat → Value) → Nat → Value) (PW : (Nat → Bool) → (Nat → Value) → World → Prop) (l : Array Bool) (a : Act) (w : World) : Prop :=
  ∃ y d, l.size = ops.size ∧ Closed ops l ∧ (∀ c ∈ cs, l.getD c false = d c) ∧ a.defers = ds ∧ Tm ops T0 (vs y) l a.tmps ∧ PW d y w
theorem closed_set {l : Array Bool} (h : Closed ops l) {i : Nat} {o : Oper} (ho : ops[i]? = some o) (hi : l.getD i true = false) (hd : ∀ e ∈ o.after, Region.binds .any e = true → l.getD e.on false = true) : Closed ops (l.setIfInBounds i true) := fun k o' hk ho' e he hb => by
  rw [getD_lset l i _ hi]
  split
  · rfl
  · rw [getD_lset l i k hi] at hk
    by_cases hki : k = i
    · subst hki
      rw [ho] at ho'
      cases ho'
      exact hd e he hb
    · rw [if_neg hki] at hk
      exact h k o' hk ho' e he hb
theorem all_listed (hb : backB ops = true) {l : Array Bool} (hs : l.size = ops.size) (hr : Region.ready .any ops l = []) : left l = 0 := by
  have hall : ∀ k, ∀ i, i < k → i < ops.size → l.getD i false = true := fun k => by
    induction k with
    | zero => intro i hi; omega
    | succ k ih =>
      intro i hi hin
      cases hli : l.getD i false
      · exfalso
        have ho := Array.getElem?_eq_getElem hin
        refine List.eq_nil_iff_forall_not_mem.1 hr i (mem_ready.2 ⟨?_, _, ho, fun e he hbe => ?_⟩)
        · simpa [Array.getD, hs, hin] using hli
        · unfold backB at hb
          rw [List.all_eq_true] at hb
          have h1 := hb i (List.mem_range.2 hin)
          rw [ho] at h1
          simp only [Array.all_eq_true, Bool.or_eq_true, Bool.not_eq_true', decide_eq_true_eq] at h1
          obtain ⟨q, hq, rfl⟩ := Array.mem_iff_getElem.1 he
          rcases h1 q hq with h2 | h2
          · rw [hbe] at h2; cases h2
          · exact ih _ (by omega) (by omega)
      · rfl
  unfold left
  rw [List.length_eq_zero_iff, List.filter_eq_nil_iff]
  intro x hx
  obtain ⟨i, hi, rfl⟩ := List.mem_iff_getElem.1 hx
  have h1 : i < l.size := by simpa using hi
  have := hall (i + 1) i (by omega) (by omega)
  simp only [Array.getD, h1, dif_pos] at this
  simpa using this
theorem getD_tf {l : Array Bool} {i : Nat} (h : l.getD i true = false) : l.getD i false = false := by
  simp only [Array.getD] at h ⊢
  split at h <;> simp_all
def Plain (P : Program) (ops : Array Oper) (Q : Exit → Act → World → Prop) (T0 : Array Value) (ds : List Deferred) (cs : List Nat) (M : List (List Nat)) (vs : (Nat → Value) → Nat → Value) (PW : (Nat → Bool) → (Nat → Value) → World → Prop) (i : Nat) : Prop :=
  ∀ o, ops[i]? = some o → i ∉ cs → ∀ d y T w', (∀ c' ∈ cs, (M.getD i []).contains c' = true → d c' = true) → Known ops T0 (vs y) o T → PW d y w' → wpOp P ops Q i (fun a' w'' => a' = Act.put ⟨T, ds⟩ o.dst (vs y i) ∧ w'' = w') ⟨T, ds⟩ w'
def Chg (P : Program) (ops : Array Oper) (Q : Exit → Act → World → Prop) (T0 : Array Value) (ds : List Deferred) (cs : List Nat) (M : List (List Nat)) (vs : (Nat → Value) → Nat → Value) (PW : (Nat → Bool) → (Nat → Value) → World → Prop) (c : Nat) : Prop :=
  ∀ o, ops[c]? = some o → ∀ d y T w', d c = false → (∀ c' ∈ cs, (M.getD c []).contains c' = true → d c' = true) → (∀ c' ∈ cs, (M.getD c' []).contains c = true → d c' = false) → Known ops T0 (vs y) o T → PW d y w' → wpOp P ops Q c (fun a' w'' => ∃ v, a' = Act.put ⟨T, ds⟩ o.dst (vs (upd y c v) c) ∧ PW (updB d c) (upd y c v) w'') ⟨T, ds⟩ w'
theorem wp_plan {id : Nat} (hm : P.follows .mixedOrders = true) (T0 : Array Value) (ds : List Deferred) (cs : List Nat) (M : List (List Nat)) (vs : (Nat → Value) → Nat → Value) (PW : (Nat → Bool) → (Nat → Value) → World → Prop) (w : World)
    (hB : dstB ops T0.size = true) (hbw : backB ops = true) (hM : maskB ops M = true) (hcin : ∀ c ∈ cs, c < ops.size)
    (hfix : ∀ c ∈ cs, ∀ i, i ≠ c → (M.getD i []).contains c = false → ∀ y v, vs (upd y c v) i = vs y i)
    (hplain : ∀ i, i < ops.size → Plain P ops Q T0 ds cs M vs PW i)
    (hchg : ∀ c ∈ cs, Chg P ops Q T0 ds cs M vs PW c)
    (h0 : ∃ y, PW (fun _ => false) y w.drew)
    (hfin : ∀ d y w', (∀ c ∈ cs, d c = true) → PW d y w' → Q .normal ⟨planT ops T0 (vs y) ops.size, ds⟩ w') :
    (Code.region id ops true).wp P Q ⟨T0, ds⟩ w := by
  refine wp_region_any hm ?_
  have hrep : ∀ i, (Array.replicate ops.size false).getD i false = false := fun i => by
    simp only [Array.getD]
    by_cases h : i < ops.size <;> simp [h]
  refine wpAny_inv2 (I := Pin ops T0 ds cs vs PW) (g := 0) (fun l a w1 hI hr => ?_) (fun l a w1 hI _ i hi => ?_) (fun l a w1 hI hl => ?_) ops.size _ _ _ (by simp [left]) (Nat.zero_le _) ?_
  · obtain ⟨y, d, h1, h2, _⟩ := hI
    exact all_listed hbw h1 hr
  · obtain ⟨y, d, h1, h2, h3, h5, h6, h7⟩ := hI
    obtain ⟨T, ds'⟩ := a
    simp only at h5 h6
    subst h5
    rw [mem_ready] at hi
    obtain ⟨hu, o, ho, hd⟩ := hi
    have hul := getD_tf hu
    have hkn : Known ops T0 (vs y) o T := ⟨fun e he hb o' d ho' hd' => h6.come e.on o' d (hd e he hb) ho' hd', fun d hn => h6.rest d fun k o' _ ho' => hn k o' ho'⟩
    by_cases hic : i ∈ cs
    · refine wpOp_mono (fun a' w'' hx => ?_) (hchg i hic o ho d y T w1 (by rw [← h3 i hic]; exact hul) (fun c' hc' ha => ?_) (fun c' hc' ha => ?_) hkn h7)
      · obtain ⟨v, rfl, hpw⟩ := hx
        have hsame : Tm ops T0 (vs (upd y i v)) l T := ⟨h6.size, (fun k o' d hl hk hd' => by
          rw [h6.come k o' d hl hk hd']
          refine (hfix i hic k (fun e => ?_) ?_ y v).symm
          · subst e
            rw [hul] at hl
            cases hl
          · cases ha : (M.getD k []).contains i
            · rfl
            · have := anc_listed hM hbw h2 (k + 1) k i o' (Nat.lt_succ_self k) hk (fun e he hb => h2 k o' hl hk e he hb) ha
              rw [hul] at this
              exact absurd this (by decide)), h6.rest⟩
        refine ⟨upd y i v, updB d i, by simp [h1], closed_set h2 ho hu hd, fun c hc => ?_, by unfold Act.put; split <;> rfl, hsame.put hB ho hu ds', hpw⟩
        rw [getD_lset l i c hu]
        unfold updB
        split
        · rfl
        · exact h3 c hc
      · rw [← h3 c' hc']
        exact anc_listed hM hbw h2 (i + 1) i c' o (Nat.lt_succ_self i) ho hd ha
      · rw [← h3 c' hc']
        cases hl : l.getD c' false
        · rfl
        · have ho' := Array.getElem?_eq_getElem (hcin c' hc')
          have := anc_listed hM hbw h2 (c' + 1) c' i _ (Nat.lt_succ_self c') ho' (fun e he hb => h2 c' _ hl ho' e he hb) ha
          rw [hul] at this
          cases this
    · refine wpOp_mono (fun a' w'' hx => ?_) (hplain i (Array.getElem?_eq_some_iff.1 ho).1 o ho hic d y T w1 (fun c' hc' ha => by rw [← h3 c' hc']; exact anc_listed hM hbw h2 (i + 1) i c' o (Nat.lt_succ_self i) ho hd ha) hkn h7)
      obtain ⟨rfl, rfl⟩ := hx
      refine ⟨y, d, by simp [h1], closed_set h2 ho hu hd, fun c hc => ?_, by unfold Act.put; split <;> rfl, h6.put hB ho hu ds', h7⟩
      rw [getD_lset l i c hu, if_neg (fun (e : c = i) => hic (by rw [← e]; exact hc)), h3 c hc]
  · obtain ⟨y, d, h1, h2, h3, h5, h6, h7⟩ := hI
    obtain ⟨T, ds'⟩ := a
    simp only at h5 h6
    subst h5
    have hall : ∀ i, i < ops.size → l.getD i false = true := fun i hi => by
      have := left_zero hl (l[i]'(by omega)) (Array.getElem_mem _)
      simpa [Array.getD, h1, hi] using this
    have hT := h6.all hB hall
    subst hT
    refine ⟨?_, hfin d y w1 (fun c hc => by rw [← h3 c hc]; exact hall c (hcin c hc)) h7⟩
    apply List.eq_nil_iff_forall_not_mem.2
    intro i hi
    rw [mem_ready] at hi
    obtain ⟨hu, o, ho, _⟩ := hi
    have := hall i (Array.getElem?_eq_some_iff.1 ho).1
    rw [getD_tf hu] at this
    cases this
  · obtain ⟨y, hy⟩ := h0
    refine ⟨y, fun _ => false, by simp, fun i o hl _ _ _ _ => (by rw [hrep] at hl; cases hl), fun c hc => hrep c, rfl, ⟨rfl, fun i o d hl _ _ => (by rw [hrep] at hl; cases hl), fun d _ => rfl⟩, hy⟩
end
section
variable {P : Program} {ops : Array Oper} {Q : Exit → Act → World → Prop}
theorem wpOp_skip {i : Nat} {o : Oper} {K : Act → World → Prop} {a : Act} {w : World} (hi : ops[i]? = some o) (hg : Region.wanted o (yielded ops a.tmps) = false) (h : K (a.put o.dst undef) w) : wpOp P ops Q i K a w := by
  unfold wpOp
  simp only [hi]
  rw [if_neg (by simp [hg])]
  exact h
def readsB (ops : Array Oper) (i d k : Nat) : Bool := match ops[i]?, ops[k]? with
  | some o, some o' => o'.dst == some d && o.after.any fun e => e.on == k && Region.binds .any e
  | _, _ => false
def freeB (ops : Array Oper) (d : Nat) : Bool := ops.all fun o => o.dst != some d
theorem Known.val {T0 T : Array Value} {v : Nat → Value} {o : Oper} {i d k : Nat} (h : Known ops T0 v o T) (ho : ops[i]? = some o) (hr : readsB ops i d k = true) : T.getD d undef = v k := by
  unfold readsB at hr
  rw [ho] at hr
  cases hk : ops[k]? with
  | none => rw [hk] at hr; cases hr
  | some o' =>
    rw [hk] at hr
    simp only [Bool.and_eq_true, beq_iff_eq, Array.any_eq_true] at hr
    obtain ⟨hd, m, hm, he, hb⟩ := hr
    have := h.1 _ (Array.getElem_mem hm) hb o' d (by rw [he]; exact hk) hd
    rw [he] at this
    exact this
theorem Known.old {T0 T : Array Value} {v : Nat → Value} {o : Oper} {d : Nat} (h : Known ops T0 v o T) (hf : freeB ops d = true) : T.getD d undef = T0.getD d undef := by
  refine h.2 d fun k o' hk hd => ?_
  unfold freeB at hf
  rw [Array.all_eq_true] at hf
  obtain ⟨h1, h2⟩ := Array.getElem?_eq_some_iff.1 hk
  have := hf k h1
  rw [h2, hd] at this
  simp at this
theorem op_core {i : Nat} {o : Oper} {dst : Option Tmp} {op : Go.Op} {ty : TypeId} {gd : Option (Nat × Bool)} (h : (ops[i]?).map (fun o => (o.dst, o.op, o.type, o.guard)) = some (dst, op, ty, gd)) (ho : ops[i]? = some o) : ∃ ps af, o = ⟨dst, op, ty, ps, af, gd⟩ := by
  rw [ho] at h
  obtain ⟨a, b, c, d, e, f⟩ := o
  simp only [Option.map_some, Option.some.injEq, Prod.mk.injEq] at h
  obtain ⟨rfl, rfl, rfl, rfl⟩ := h
  exact ⟨_, _, rfl⟩
theorem Known.is {T0 T : Array Value} {v : Nat → Value} {o : Oper} {i d : Nat} {x : Value} (h : Known ops T0 v o T) (k : Nat) (ho : ops[i]? = some o) (hr : readsB ops i d k = true) (hx : v k = x) : T.getD d undef = x := (h.val ho hr).trans hx
theorem Known.of {T0 T : Array Value} {v : Nat → Value} {o : Oper} {d : Nat} {x : Value} (h : Known ops T0 v o T) (hf : freeB ops d = true) (hx : T0.getD d undef = x) : T.getD d undef = x := (h.old hf).trans hx
theorem core {i : Nat} {o : Oper} (dst : Option Tmp) (op : Go.Op) (ty : TypeId) (gd : Option (Nat × Bool)) (ho : ops[i]? = some o) (h : (ops[i]?).map (fun o => (o.dst, o.op, o.type, o.guard)) = some (dst, op, ty, gd)) : ∃ ps af, o = ⟨dst, op, ty, ps, af, gd⟩ := op_core h ho
theorem getD_some {T : Array Value} {d : Nat} {v : Value} (h : T.getD d undef = v) (hv : v ≠ undef) : T[d]? = some v := by
  simp only [Array.getD] at h
  by_cases hd : d < T.size
  · simp only [hd, dif_pos] at h
    rw [Array.getElem?_eq_getElem hd]
    exact congrArg some h
  · simp only [hd, dif_neg, not_false_eq_true] at h
    exact absurd h.symm hv
theorem wanted_of {o : Oper} {T : Array Value} {j d : Nat} {b wb : Bool} (hg : o.guard = some (j, wb)) (hd : (ops[j]?).bind (·.dst) = some d) (hT : T.getD d undef = .bool b) : Region.wanted o (yielded ops T) = (b == wb) := by
  unfold Region.wanted yielded
  rw [hg]
  simp only [hd, Option.bind_some, getD_some hT (by intro h; cases h)]
  cases b <;> cases wb <;> rfl
theorem wpOp_want {i : Nat} {o : Oper} {K : Act → World → Prop} {a : Act} {w : World} (hi : ops[i]? = some o) (hg : Region.wanted o (yielded ops a.tmps) = true) (h : o.wp P a w K Q) : wpOp P ops Q i K a w := by
  unfold wpOp
  simp only [hi]
  rw [if_pos hg]
  exact .inl h
theorem wpOp_plain {i : Nat} {o : Oper} {K : Act → World → Prop} {a : Act} {w : World} (hi : ops[i]? = some o) (hg : o.guard = none) (h : o.wp P a w K Q) : wpOp P ops Q i K a w := by
  unfold wpOp
  simp only [hi]
  rw [if_pos (by unfold Region.wanted; rw [hg])]
  exact .inl h
theorem all_step {F : Nat → Prop} {n : Nat} (h : ∀ i, i < n → F i) (hn : F n) : ∀ i, i < n + 1 → F i := fun i hi => by
  rcases Nat.lt_succ_iff_lt_or_eq.1 hi with h1 | rfl
  · exact h i h1
  · exact hn
theorem all_zero {F : Nat → Prop} : ∀ i, i < 0 → F i := fun i hi => absurd hi (Nat.not_lt_zero i)
def mkV (V : List ((Nat × (Value → Value)) ⊕ Value)) (y : Nat → Value) (i : Nat) : Value := match V[i]? with
  | some (.inl (k, g)) => g (y k)
  | some (.inr v) => v
  | none => undef
def depB (M : List (List Nat)) (V : List ((Nat × (Value → Value)) ⊕ Value)) : Bool := (List.range V.length).all fun i => match V[i]? with
  | some (.inl (k, _)) => i == k || (M.getD i []).contains k
  | _ => true
theorem mkV_fix {M : List (List Nat)} {V : List ((Nat × (Value → Value)) ⊕ Value)} (h : depB M V = true) {i c : Nat} (hi : i ≠ c) (ha : (M.getD i []).contains c = false) (y : Nat → Value) (v : Value) : mkV V (upd y c v) i = mkV V y i := by
  unfold mkV
  cases hv : V[i]? with
  | none => rfl
  | some x =>
    cases x with
    | inr z => rfl
    | inl kg =>
      obtain ⟨k, g⟩ := kg
      show g (upd y c v k) = g (y k)
      refine congrArg g ?_
      unfold upd
      rw [if_neg fun e => ?_]
      subst e
      unfold depB at h
      rw [List.all_eq_true] at h
      have := h i (List.mem_range.2 (List.getElem?_eq_some_iff.1 hv).1)
      rw [hv] at this
      simp only [Bool.or_eq_true, beq_iff_eq] at this
      rcases this with e | e
      · exact hi e
      · rw [ha] at e
        cases e
section
variable {T0 T : Array Value} {W : List ((Nat × (Value → Value)) ⊕ Value)} {y : Nat → Value} {o : Oper} {i : Nat} {ds : List Deferred} {w : World}
theorem pl1 (dst s k : Nat) (ty : TypeId) {op : Go.Op} {x v : Value} (ho : ops[i]? = some o) (hK : Known ops T0 (mkV W y) o T) (hc : (ops[i]?).map (fun o => (o.dst, o.op, o.type, o.guard)) = some (some dst, op, ty, none)) (hr : readsB ops i s k = true) (hk : mkV W y k = x) (hi : mkV W y i = v) (h : ∀ ps af, T.getD s undef = x → Oper.wp P ⟨some dst, op, ty, ps, af, none⟩ ⟨T, ds⟩ w (fun a' w'' => a' = Act.put ⟨T, ds⟩ (some dst) v ∧ w'' = w) Q) : wpOp P ops Q i (fun a' w'' => a' = Act.put ⟨T, ds⟩ o.dst (mkV W y i) ∧ w'' = w) ⟨T, ds⟩ w := by
  obtain ⟨ps, af, rfl⟩ := op_core hc ho
  subst hk hi
  exact wpOp_plain ho rfl (h ps af (hK.val ho hr))
theorem pg0 (j d : Nat) (b : Bool) (dst s : Nat) (ty : TypeId) {op : Go.Op} {x v : Value} (ho : ops[i]? = some o) (hK : Known ops T0 (mkV W y) o T) (hc : (ops[i]?).map (fun o => (o.dst, o.op, o.type, o.guard)) = some (some dst, op, ty, some (j, b))) (hd : (ops[j]?).bind (·.dst) = some d) (hrj : readsB ops i d j = true) (hj : mkV W y j = .bool b) (hr : freeB ops s = true) (hk : T0.getD s undef = x) (hi : mkV W y i = v) (h : ∀ ps af, T.getD s undef = x → Oper.wp P ⟨some dst, op, ty, ps, af, some (j, b)⟩ ⟨T, ds⟩ w (fun a' w'' => a' = Act.put ⟨T, ds⟩ (some dst) v ∧ w'' = w) Q) : wpOp P ops Q i (fun a' w'' => a' = Act.put ⟨T, ds⟩ o.dst (mkV W y i) ∧ w'' = w) ⟨T, ds⟩ w := by
  obtain ⟨ps, af, rfl⟩ := op_core hc ho
  subst hi
  exact wpOp_want ho ((wanted_of (d := d) (b := b) rfl hd ((hK.val ho hrj).trans hj)).trans (by simp)) (h ps af ((hK.old hr).trans hk))
theorem k_mv {ty : TypeId} {dst : Option Tmp} {s : Nat} {ps af g} {x : Value} (e : T.getD s undef = x) : Oper.wp P ⟨dst, .move (.tmp s), ty, ps, af, g⟩ ⟨T, ds⟩ w (fun a' w'' => a' = Act.put ⟨T, ds⟩ dst x ∧ w'' = w) Q := by
  subst e
  exact ⟨rfl, rfl⟩
theorem k_as {ty : TypeId} {dst : Option Tmp} {s : Nat} {ps af g} {x : Value} (e : T.getD s undef = x) : Oper.wp P ⟨dst, .assign (.tmp s), ty, ps, af, g⟩ ⟨T, ds⟩ w (fun a' w'' => a' = Act.put ⟨T, ds⟩ dst x ∧ w'' = w) Q := by
  subst e
  exact ⟨rfl, rfl⟩
end
end
end Go.Proofs.YtpggkfdijmnmiaaGreat.Pl
namespace Go.Proofs.YtpggkfdijmnmiaaGreat.Pl
open Go.RowKit Go.Sort Limbs
noncomputable def tBO : Array Oper := (Tryz.f42.body.bind fun c => findR c 1).getD #[]
def tB_m : List (List Nat) := [[], [], [1], [1, 2], [1, 2], [1, 2], [], [1, 2, 6], [1, 2, 6, 7]]
set_option maxHeartbeats 16000000 in
theorem tB (PW : Bool → Bool → Bool → Bool → Value → World → Prop) (gk k x y : Nat) (i : Bool) (w : World)  (cl1 : ∀ (b6 : Bool) (y6 : Value) (w : World), PW false false b6 false y6 w → Calls Tryz.prog 48 #[] w fun e w1 => e = .returned (.agg #[.int .u64 17627433388654248598, .int .u64 8575836109218198432, .int .u64 17923454489921339634, .int .u64 7716867327612699207, .int .u64 14678990851816772085, .int .u64 3156516839386865358, .int .u64 10297457778147434006, .int .u64 5756518291402817435, .bool false]) ∧ PW true false b6 false y6 w1) (cl2 : ∀ (b6 : Bool) (y6 : Value) (w : World), PW true false b6 false y6 w → Calls Tryz.prog 93 #[.agg #[.int .u64 (lb k 0 : Nat), .int .u64 (lb k 1 : Nat), .int .u64 (lb k 2 : Nat), .int .u64 (lb k 3 : Nat)], .agg #[.int .u64 17627433388654248598, .int .u64 8575836109218198432, .int .u64 17923454489921339634, .int .u64 7716867327612699207, .int .u64 14678990851816772085, .int .u64 3156516839386865358, .int .u64 10297457778147434006, .int .u64 5756518291402817435, .bool false]] w fun e w1 => e = .returned (.tuple #[.agg #[.int .u64 (lb x 0 : Nat), .int .u64 (lb x 1 : Nat), .int .u64 (lb x 2 : Nat), .int .u64 (lb x 3 : Nat), .int .u64 (lb y 0 : Nat), .int .u64 (lb y 1 : Nat), .int .u64 (lb y 2 : Nat), .int .u64 (lb y 3 : Nat), .bool i], .int .i64 0]) ∧ PW true true b6 false y6 w1) (cl6 : ∀ (b1 b2 : Bool) (y6 : Value) (w : World), PW b1 b2 false false y6 w → PW b1 b2 true false (.pointer (some ⟨w.heap.size, 0, none⟩)) (w.alloc (.cells #[.int .u64 0, .int .u64 0, .int .u64 0, .int .u64 0, .int .u64 0, .int .u64 0, .int .u64 0, .int .u64 0, .bool false] 26))) (cl7 : ∀ (y6 : Value) (w : World), PW true true true false y6 w → ∃ (g : Nat) (d0 d1 d2 d3 d4 d5 d6 d7 d8 : Value), y6 = .pointer (some ⟨g, 0, none⟩) ∧ Bk 26 w g #[d0, d1, d2, d3, d4, d5, d6, d7, d8] ∧ PW true true true true y6 (((((((((w.setCell ⟨g, 0, none⟩ (.int .u64 (lb x 0 : Nat))).setCell ⟨g, 1, none⟩ (.int .u64 (lb x 1 : Nat))).setCell ⟨g, 2, none⟩ (.int .u64 (lb x 2 : Nat))).setCell ⟨g, 3, none⟩ (.int .u64 (lb x 3 : Nat))).setCell ⟨g, 4, none⟩ (.int .u64 (lb y 0 : Nat))).setCell ⟨g, 5, none⟩ (.int .u64 (lb y 1 : Nat))).setCell ⟨g, 6, none⟩ (.int .u64 (lb y 2 : Nat))).setCell ⟨g, 7, none⟩ (.int .u64 (lb y 3 : Nat))).setCell ⟨g, 8, none⟩ (.bool i))) (lk : ∀ (b1 b2 b6 b7 : Bool) (y6 : Value) (w : World), PW b1 b2 b6 b7 y6 w → w.cell? ⟨gk, 0, none⟩ = some (.int .u64 (lb k 0 : Nat)) ∧ w.cell? ⟨gk, 1, none⟩ = some (.int .u64 (lb k 1 : Nat)) ∧ w.cell? ⟨gk, 2, none⟩ = some (.int .u64 (lb k 2 : Nat)) ∧ w.cell? ⟨gk, 3, none⟩ = some (.int .u64 (lb k 3 : Nat))) {t0 t2 t3 t4 t5 t6 t7 t8 t9 t10 t11 : Value} (w0 : PW false false false false t3 w.drew) {ds : List Deferred} {Q : Exit → Act → World → Prop}
    (h : ∀ (y6 : Value) (w1 : World), PW true true true true y6 w1 → Q .normal { tmps := #[t0, .pointer (some ⟨gk, 0, none⟩), t2, y6, .int .i64 0, .tuple #[.agg #[.int .u64 (lb x 0 : Nat), .int .u64 (lb x 1 : Nat), .int .u64 (lb x 2 : Nat), .int .u64 (lb x 3 : Nat), .int .u64 (lb y 0 : Nat), .int .u64 (lb y 1 : Nat), .int .u64 (lb y 2 : Nat), .int .u64 (lb y 3 : Nat), .bool i], .int .i64 0], .agg #[.int .u64 (lb k 0 : Nat), .int .u64 (lb k 1 : Nat), .int .u64 (lb k 2 : Nat), .int .u64 (lb k 3 : Nat)], .agg #[.int .u64 17627433388654248598, .int .u64 8575836109218198432, .int .u64 17923454489921339634, .int .u64 7716867327612699207, .int .u64 14678990851816772085, .int .u64 3156516839386865358, .int .u64 10297457778147434006, .int .u64 5756518291402817435, .bool false], .tuple #[.agg #[.int .u64 (lb x 0 : Nat), .int .u64 (lb x 1 : Nat), .int .u64 (lb x 2 : Nat), .int .u64 (lb x 3 : Nat), .int .u64 (lb y 0 : Nat), .int .u64 (lb y 1 : Nat), .int .u64 (lb y 2 : Nat), .int .u64 (lb y 3 : Nat), .bool i], .int .i64 0], .agg #[.int .u64 (lb x 0 : Nat), .int .u64 (lb x 1 : Nat), .int .u64 (lb x 2 : Nat), .int .u64 (lb x 3 : Nat), .int .u64 (lb y 0 : Nat), .int .u64 (lb y 1 : Nat), .int .u64 (lb y 2 : Nat), .int .u64 (lb y 3 : Nat), .bool i], .int .i64 0, t11], defers := ds } w1) :
    (Code.region 1 tBO true).wp Tryz.prog Q { tmps := #[t0, .pointer (some ⟨gk, 0, none⟩), t2, t3, t4, t5, t6, t7, t8, t9, t10, t11], defers := ds } w := by
  have hsz : tBO.size = 9 := by kernel_rfl
  generalize hT : List.toArray _ = T0
  have hs : T0.size = 12 := by subst hT; rfl
  have g1 : T0.getD 1 undef = .pointer (some ⟨gk, 0, none⟩) := by subst hT; rfl
  obtain ⟨W, hV⟩ : ∃ W : List ((Nat × (Value → Value)) ⊕ Value), W = [.inr (.agg #[.int .u64 (lb k 0 : Nat), .int .u64 (lb k 1 : Nat), .int .u64 (lb k 2 : Nat), .int .u64 (lb k 3 : Nat)]), .inr (.agg #[.int .u64 17627433388654248598, .int .u64 8575836109218198432, .int .u64 17923454489921339634, .int .u64 7716867327612699207, .int .u64 14678990851816772085, .int .u64 3156516839386865358, .int .u64 10297457778147434006, .int .u64 5756518291402817435, .bool false]), .inr (.tuple #[.agg #[.int .u64 (lb x 0 : Nat), .int .u64 (lb x 1 : Nat), .int .u64 (lb x 2 : Nat), .int .u64 (lb x 3 : Nat), .int .u64 (lb y 0 : Nat), .int .u64 (lb y 1 : Nat), .int .u64 (lb y 2 : Nat), .int .u64 (lb y 3 : Nat), .bool i], .int .i64 0]), .inr (.tuple #[.agg #[.int .u64 (lb x 0 : Nat), .int .u64 (lb x 1 : Nat), .int .u64 (lb x 2 : Nat), .int .u64 (lb x 3 : Nat), .int .u64 (lb y 0 : Nat), .int .u64 (lb y 1 : Nat), .int .u64 (lb y 2 : Nat), .int .u64 (lb y 3 : Nat), .bool i], .int .i64 0]), .inr (.agg #[.int .u64 (lb x 0 : Nat), .int .u64 (lb x 1 : Nat), .int .u64 (lb x 2 : Nat), .int .u64 (lb x 3 : Nat), .int .u64 (lb y 0 : Nat), .int .u64 (lb y 1 : Nat), .int .u64 (lb y 2 : Nat), .int .u64 (lb y 3 : Nat), .bool i]), .inr (.int .i64 0), .inl (6, id), .inr undef, .inr (.int .i64 0)] := ⟨_, rfl⟩
  refine wp_plan (by kernel_rfl) T0 ds [1, 2, 6, 7] tB_m (mkV W) (fun dx yx wx => PW (dx 1) (dx 2) (dx 6) (dx 7) (yx 6) wx) w (by rw [hs]; kernel_rfl) (by kernel_rfl) (by kernel_rfl) (by rw [hsz]; decide) (fun cx hc ix hne ha yx vx => mkV_fix (by rw [hV]; kernel_rfl) hne ha yx vx) (?key) (fun cx hc ox ho dx yx Tx wx hd hdb hda hK hW => ?_) ⟨fun k => if k = 6 then t3 else undef, w0⟩ (fun dx yx wx hd hW => ?_)
  case key =>
    rw [hsz]
    refine all_step (all_step (all_step (all_step (all_step (all_step (all_step (all_step (all_step all_zero ?_) ?_) ?_) ?_) ?_) ?_) ?_) ?_) ?_
    all_goals
      intro ox ho hic dx yx Tx wx hdb hK hW
      replace hdb := Lib.hid hdb
    · obtain ⟨ps, af, rfl⟩ := core (some 6) (.load 24 (.tmp 1)) 24 none ho (by kernel_rfl)
      have e1 : Tx.getD 1 undef = .pointer (some ⟨gk, 0, none⟩) := hK.of (by kernel_rfl) g1
      obtain ⟨hl0, hl1, hl2, hl3⟩ := lk _ _ _ _ _ _ hW
      exact wpOp_plain ho rfl (by subst hV; go_simp; try rfl)
    · exact absurd (by decide) hic
    · exact absurd (by decide) hic
    · exact pl1 5 8 2 28 ho hK (by kernel_rfl) (by kernel_rfl) (by subst hV; rfl) (by subst hV; rfl) fun ps af e => k_mv e
    · obtain ⟨ps, af, rfl⟩ := core (some 9) (.extract (.tmp 5) 0) 26 none ho (by kernel_rfl)
      have e5 : Tx.getD 5 undef = .tuple #[.agg #[.int .u64 (lb x 0 : Nat), .int .u64 (lb x 1 : Nat), .int .u64 (lb x 2 : Nat), .int .u64 (lb x 3 : Nat), .int .u64 (lb y 0 : Nat), .int .u64 (lb y 1 : Nat), .int .u64 (lb y 2 : Nat), .int .u64 (lb y 3 : Nat), .bool i], .int .i64 0] := hK.is 3 ho (by kernel_rfl) (by subst hV; rfl)
      exact wpOp_plain ho rfl (by subst hV; go_simp; try rfl)
    · obtain ⟨ps, af, rfl⟩ := core (some 10) (.extract (.tmp 5) 1) 27 none ho (by kernel_rfl)
      have e5 : Tx.getD 5 undef = .tuple #[.agg #[.int .u64 (lb x 0 : Nat), .int .u64 (lb x 1 : Nat), .int .u64 (lb x 2 : Nat), .int .u64 (lb x 3 : Nat), .int .u64 (lb y 0 : Nat), .int .u64 (lb y 1 : Nat), .int .u64 (lb y 2 : Nat), .int .u64 (lb y 3 : Nat), .bool i], .int .i64 0] := hK.is 3 ho (by kernel_rfl) (by subst hV; rfl)
      exact wpOp_plain ho rfl (by subst hV; go_simp; try rfl)
    · exact absurd (by decide) hic
    · exact absurd (by decide) hic
    · exact pl1 4 10 5 27 ho hK (by kernel_rfl) (by kernel_rfl) (by subst hV; rfl) (by subst hV; rfl) fun ps af e => k_as e
  · have hcase : cx = 1 ∨ cx = 2 ∨ cx = 6 ∨ cx = 7 := by simpa using hc
    rcases hcase with rfl | rfl | rfl | rfl
    · obtain ⟨ps, af, rfl⟩ := core (some 7) (.call { callee := .value (.func 48), args := #[], argTypes := #[] }) 26 none ho (by kernel_rfl)
      have hW1 : PW (dx 1) (dx 2) (dx 6) (dx 7) (yx 6) wx := hW
      have f2 := hda 2 (by decide) (by kernel_rfl)
      have f7 := hda 7 (by decide) (by kernel_rfl)
      clear hdb hda
      rw [hd, f2, f7] at hW1
      replace f2 := Lib.hid f2
      replace f7 := Lib.hid f7
      clear hd hW hc
      refine wpOp_plain ho rfl ?_
      go_simp
      go_at_call 48
      refine (cl1 _ _ _ hW1).mono ?_
      rintro ex w2 ⟨rfl, hW2⟩
      subst hV
      first | refine ⟨undef, rfl, ?_⟩ | refine ⟨⟨undef, rfl⟩, ?_⟩
      simpa [updB, upd, f2.out, f7.out] using hW2
    · obtain ⟨ps, af, rfl⟩ := core (some 8) (.call { callee := .value (.func 93), args := #[.tmp 6, .tmp 7], argTypes := #[24, 26] }) 28 none ho (by kernel_rfl)
      have e6 : Tx.getD 6 undef = .agg #[.int .u64 (lb k 0 : Nat), .int .u64 (lb k 1 : Nat), .int .u64 (lb k 2 : Nat), .int .u64 (lb k 3 : Nat)] := hK.is 0 ho (by kernel_rfl) (by subst hV; rfl)
      have e7 : Tx.getD 7 undef = .agg #[.int .u64 17627433388654248598, .int .u64 8575836109218198432, .int .u64 17923454489921339634, .int .u64 7716867327612699207, .int .u64 14678990851816772085, .int .u64 3156516839386865358, .int .u64 10297457778147434006, .int .u64 5756518291402817435, .bool false] := hK.is 1 ho (by kernel_rfl) (by subst hV; rfl)
      have hW1 : PW (dx 1) (dx 2) (dx 6) (dx 7) (yx 6) wx := hW
      have f1 := hdb 1 (by decide) (by kernel_rfl)
      have f7 := hda 7 (by decide) (by kernel_rfl)
      clear hdb hda
      rw [hd, f1, f7] at hW1
      replace f1 := Lib.hid f1
      replace f7 := Lib.hid f7
      clear hd hW hc
      refine wpOp_plain ho rfl ?_
      go_simp
      go_at_call 93
      refine (cl2 _ _ _ hW1).mono ?_
      rintro ex w2 ⟨rfl, hW2⟩
      subst hV
      first | refine ⟨undef, rfl, ?_⟩ | refine ⟨⟨undef, rfl⟩, ?_⟩
      simpa [updB, upd, f1.out, f7.out] using hW2
    · obtain ⟨ps, af, rfl⟩ := core (some 3) (.alloc 26) 0 none ho (by kernel_rfl)
      have hW1 : PW (dx 1) (dx 2) (dx 6) (dx 7) (yx 6) wx := hW
      have f7 := hda 7 (by decide) (by kernel_rfl)
      clear hdb hda
      rw [hd, f7] at hW1
      replace f7 := Lib.hid f7
      clear hd hW hc
      have hW2 := cl6 _ _ _ _ hW1
      subst hV
      refine wpOp_plain ho rfl ?_
      go_simp
      refine ⟨_, rfl, ?_⟩
      simpa [updB, upd, f7.out] using hW2
    · obtain ⟨ps, af, rfl⟩ := core none (.store 26 (.tmp 3) (.tmp 9)) 0 none ho (by kernel_rfl)
      have e3 : Tx.getD 3 undef = yx 6 := hK.is 6 ho (by kernel_rfl) (by subst hV; rfl)
      have e9 : Tx.getD 9 undef = .agg #[.int .u64 (lb x 0 : Nat), .int .u64 (lb x 1 : Nat), .int .u64 (lb x 2 : Nat), .int .u64 (lb x 3 : Nat), .int .u64 (lb y 0 : Nat), .int .u64 (lb y 1 : Nat), .int .u64 (lb y 2 : Nat), .int .u64 (lb y 3 : Nat), .bool i] := hK.is 4 ho (by kernel_rfl) (by subst hV; rfl)
      have hW1 : PW (dx 1) (dx 2) (dx 6) (dx 7) (yx 6) wx := hW
      have f1 := hdb 1 (by decide) (by kernel_rfl)
      have f2 := hdb 2 (by decide) (by kernel_rfl)
      have f6 := hdb 6 (by decide) (by kernel_rfl)
      clear hdb hda
      rw [hd, f1, f2, f6] at hW1
      replace f1 := Lib.hid f1
      replace f2 := Lib.hid f2
      replace f6 := Lib.hid f6
      clear hd hW hc
      obtain ⟨g, d0, d1, d2, d3, d4, d5, d6, d7, d8, e6, hk, hW2⟩ := cl7 _ _ hW1
      rw [e6] at e3
      obtain ⟨⟨c0, c1, c2, c3⟩, ⟨c4, c5, c6, c7⟩, c8⟩ := hk.cells9
      obtain ⟨⟨z0, z1, z2, z3⟩, ⟨z4, z5, z6, z7⟩, z8⟩ := hk.fros9
      subst hV
      refine wpOp_plain ho rfl ?_
      go_simp
      simpa [updB, upd, f1.out, f2.out, f6.out] using hW2
  · have hW1 : PW (dx 1) (dx 2) (dx 6) (dx 7) (yx 6) wx := hW
    rw [hd 1 (by decide), hd 2 (by decide), hd 6 (by decide), hd 7 (by decide)] at hW1
    have hQ := h _ _ hW1
    rw [hsz]
    subst hV hT
    refine cast (congrArg (fun Tx => Q .normal ⟨Tx, ds⟩ wx) ?_) hQ
    kernel_rfl
noncomputable def tFO : Array Oper := (Tryz.f13.body.bind fun c => findR c 8).getD #[]
def tF_m : List (List Nat) := [[], [], [1], [1], [1], [1], [1], [1], [1], [1], [1], [1], [1], [1], [1], [1], [1], [1], [1], [1], [1, 19], [1, 19], [1, 19], [1, 19], [1, 19], [1, 19, 24], [1, 19, 24], [1, 19, 24], [1, 19, 24], [1, 19, 24], [1, 19, 24, 29], [1, 19, 24, 29], [1, 19, 24, 29], [1, 19, 24, 29], [1, 19, 24, 29], [1, 19, 24, 29], [1, 19, 24, 29], [1, 19, 24, 29], [1, 19, 24, 29], [1, 19, 24, 29], [1, 19, 24, 29]]
set_option maxHeartbeats 32000000 in
theorem tF (PW : Bool → Bool → Bool → Bool → World → Prop) (gp r : Nat) (kd mc : ByteArray) (w : World)  (cl1 : ∀ (w : World), PW false false false false w → Calls Tryz.prog 48 #[] w fun e w1 => e = .returned (.agg #[.int .u64 17627433388654248598, .int .u64 8575836109218198432, .int .u64 17923454489921339634, .int .u64 7716867327612699207, .int .u64 14678990851816772085, .int .u64 3156516839386865358, .int .u64 10297457778147434006, .int .u64 5756518291402817435, .bool false]) ∧ PW true false false false  w1) (cl19 : ∀ (w : World), PW true false false false w → Calls Tryz.prog 26 #[.pointer (some ⟨r, 0, none⟩), .string kd, .string ⟨#[115]⟩, .string mc] w fun e w1 => e = .returned (.bool true) ∧ PW true true false false  w1) (cl24 : ∀ (w : World), PW true true false false w → Calls Tryz.prog 26 #[.pointer (some ⟨r, 0, none⟩), .string ⟨#[]⟩, .string ⟨#[115]⟩, .string mc] w fun e w1 => e = .returned (.bool false) ∧ PW true true true false  w1) (cl29 : ∀ (w : World), PW true true true false w → Calls Tryz.prog 16 #[.agg #[.int .u64 17627433388654248598, .int .u64 8575836109218198432, .int .u64 17923454489921339634, .int .u64 7716867327612699207, .int .u64 14678990851816772085, .int .u64 3156516839386865358, .int .u64 10297457778147434006, .int .u64 5756518291402817435, .bool false], .string ⟨#[]⟩, .string ⟨#[]⟩] w fun e w1 => e = .returned (.bool false) ∧ PW true true true true  w1) (lk : ∀ (b1 b19 b24 b29 : Bool) (w : World), PW b1 b19 b24 b29 w → w.cell? ⟨gp, 0, none⟩ = some (.int .u64 17627433388654248598) ∧ w.cell? ⟨gp, 1, none⟩ = some (.int .u64 8575836109218198432) ∧ w.cell? ⟨gp, 2, none⟩ = some (.int .u64 17923454489921339634) ∧ w.cell? ⟨gp, 3, none⟩ = some (.int .u64 7716867327612699207) ∧ w.cell? ⟨gp, 4, none⟩ = some (.int .u64 14678990851816772085) ∧ w.cell? ⟨gp, 5, none⟩ = some (.int .u64 3156516839386865358) ∧ w.cell? ⟨gp, 6, none⟩ = some (.int .u64 10297457778147434006) ∧ w.cell? ⟨gp, 7, none⟩ = some (.int .u64 5756518291402817435) ∧ w.cell? ⟨gp, 8, none⟩ = some (.bool false)) (hq : ∀ w, (Op.equalIn 10000 26 (.agg #[.int .u64 17627433388654248598, .int .u64 8575836109218198432, .int .u64 17923454489921339634, .int .u64 7716867327612699207, .int .u64 14678990851816772085, .int .u64 3156516839386865358, .int .u64 10297457778147434006, .int .u64 5756518291402817435, .bool false]) (.agg #[.int .u64 17627433388654248598, .int .u64 8575836109218198432, .int .u64 17923454489921339634, .int .u64 7716867327612699207, .int .u64 14678990851816772085, .int .u64 3156516839386865358, .int .u64 10297457778147434006, .int .u64 5756518291402817435, .bool false])).run Tryz.prog w = .ok true w) {t0 t3 t5 t10 t11 t12 t13 t14 t15 t16 t17 t18 t19 t20 t21 t22 t23 t24 t25 t26 t27 t28 t29 t30 t31 t32 t33 t34 t35 t36 t37 t38 t39 t40 t41 t42 t43 t44 t45 t46 t47 t48 t49 t50 t51 t52 t53 t54 t55 t56 t57 t58 t59 t60 t61 t62 t63 t64 t65 t66 t67 t68 t69 t70 t71 t72 t73 t74 t75 t76 t77 t78 t79 t80 t81 t82 t83 t84 t85 t86 t87 t88 : Value} (w0 : PW false false false false  w.drew) {ds : List Deferred} {Q : Exit → Act → World → Prop}
    (h : ∀ (w1 : World), PW true true true true  w1 → Q .normal { tmps := #[.bool true, .pointer (some ⟨gp, 0, none⟩), .int .i64 0, t3, .int .i64 80, t5, .int .i64 80, .pointer (some ⟨r, 0, none⟩), .string kd, .string mc, t10, t11, t12, t13, t14, t15, t16, t17, t18, t19, t20, t21, t22, t23, t24, t25, t26, t27, t28, t29, t30, t31, t32, t33, t34, t35, t36, t37, t38, t39, t40, t41, t42, t43, t44, t45, t46, t47, t48, .agg #[.int .u64 17627433388654248598, .int .u64 8575836109218198432, .int .u64 17923454489921339634, .int .u64 7716867327612699207, .int .u64 14678990851816772085, .int .u64 3156516839386865358, .int .u64 10297457778147434006, .int .u64 5756518291402817435, .bool false], .agg #[.int .u64 17627433388654248598, .int .u64 8575836109218198432, .int .u64 17923454489921339634, .int .u64 7716867327612699207, .int .u64 14678990851816772085, .int .u64 3156516839386865358, .int .u64 10297457778147434006, .int .u64 5756518291402817435, .bool false], .bool true, .bool true, .int .i64 0, .bool true, .bool true, .bool true, .int .i64 80, .bool true, .bool true, .bool true, .int .i64 80, .bool true, .bool true, .bool true, .pointer (some ⟨r, 0, none⟩), .string kd, .string mc, .bool true, .bool true, .bool true, .pointer (some ⟨r, 0, none⟩), .string mc, .bool false, .bool true, .bool true, .bool true, .agg #[.int .u64 17627433388654248598, .int .u64 8575836109218198432, .int .u64 17923454489921339634, .int .u64 7716867327612699207, .int .u64 14678990851816772085, .int .u64 3156516839386865358, .int .u64 10297457778147434006, .int .u64 5756518291402817435, .bool false], .bool false, .bool true, .bool true, .bool true, .bool true, .bool true, .bool true, .bool true, .bool true, .bool true, .bool true], defers := ds } w1) :
    (Code.region 8 tFO true).wp Tryz.prog Q { tmps := #[t0, .pointer (some ⟨gp, 0, none⟩), .int .i64 0, t3, .int .i64 80, t5, .int .i64 80, .pointer (some ⟨r, 0, none⟩), .string kd, .string mc, t10, t11, t12, t13, t14, t15, t16, t17, t18, t19, t20, t21, t22, t23, t24, t25, t26, t27, t28, t29, t30, t31, t32, t33, t34, t35, t36, t37, t38, t39, t40, t41, t42, t43, t44, t45, t46, t47, t48, t49, t50, t51, t52, t53, t54, t55, t56, t57, t58, t59, t60, t61, t62, t63, t64, t65, t66, t67, t68, t69, t70, t71, t72, t73, t74, t75, t76, t77, t78, t79, t80, t81, t82, t83, t84, t85, t86, t87, t88], defers := ds } w := by
  have hsz : tFO.size = 41 := by kernel_rfl
  generalize hT : List.toArray _ = T0
  have hs : T0.size = 89 := by subst hT; rfl
  have g1 : T0.getD 1 undef = .pointer (some ⟨gp, 0, none⟩) := by subst hT; rfl
  have g2 : T0.getD 2 undef = .int .i64 0 := by subst hT; rfl
  have g4 : T0.getD 4 undef = .int .i64 80 := by subst hT; rfl
  have g6 : T0.getD 6 undef = .int .i64 80 := by subst hT; rfl
  have g7 : T0.getD 7 undef = .pointer (some ⟨r, 0, none⟩) := by subst hT; rfl
  have g8 : T0.getD 8 undef = .string kd := by subst hT; rfl
  have g9 : T0.getD 9 undef = .string mc := by subst hT; rfl
  obtain ⟨W, hV⟩ : ∃ W : List ((Nat × (Value → Value)) ⊕ Value), W = [.inr (.agg #[.int .u64 17627433388654248598, .int .u64 8575836109218198432, .int .u64 17923454489921339634, .int .u64 7716867327612699207, .int .u64 14678990851816772085, .int .u64 3156516839386865358, .int .u64 10297457778147434006, .int .u64 5756518291402817435, .bool false]), .inr (.agg #[.int .u64 17627433388654248598, .int .u64 8575836109218198432, .int .u64 17923454489921339634, .int .u64 7716867327612699207, .int .u64 14678990851816772085, .int .u64 3156516839386865358, .int .u64 10297457778147434006, .int .u64 5756518291402817435, .bool false]), .inr (.bool true), .inr (.bool true), .inr (.int .i64 0), .inr (.bool true), .inr (.bool true), .inr (.bool true), .inr (.int .i64 80), .inr (.bool true), .inr (.bool true), .inr (.bool true), .inr (.int .i64 80), .inr (.bool true), .inr (.bool true), .inr (.bool true), .inr (.pointer (some ⟨r, 0, none⟩)), .inr (.string kd), .inr (.string mc), .inr (.bool true), .inr (.bool true), .inr (.bool true), .inr (.pointer (some ⟨r, 0, none⟩)), .inr (.string mc), .inr (.bool false), .inr (.bool true), .inr (.bool true), .inr (.bool true), .inr (.agg #[.int .u64 17627433388654248598, .int .u64 8575836109218198432, .int .u64 17923454489921339634, .int .u64 7716867327612699207, .int .u64 14678990851816772085, .int .u64 3156516839386865358, .int .u64 10297457778147434006, .int .u64 5756518291402817435, .bool false]), .inr (.bool false), .inr (.bool true), .inr (.bool true), .inr (.bool true), .inr (.bool true), .inr (.bool true), .inr (.bool true), .inr (.bool true), .inr (.bool true), .inr (.bool true), .inr (.bool true), .inr (.bool true)] := ⟨_, rfl⟩
  refine wp_plan (by kernel_rfl) T0 ds [1, 19, 24, 29] tF_m (mkV W) (fun dx yx wx => PW (dx 1) (dx 19) (dx 24) (dx 29)  wx) w (by rw [hs]; kernel_rfl) (by kernel_rfl) (by kernel_rfl) (by rw [hsz]; decide) (fun cx hc ix hne ha yx vx => mkV_fix (by rw [hV]; kernel_rfl) hne ha yx vx) (?key) (fun cx hc ox ho dx yx Tx wx hd hdb hda hK hW => ?_) ⟨fun k => undef, w0⟩ (fun dx yx wx hd hW => ?_)
  case key =>
    rw [hsz]
    refine all_step (all_step (all_step (all_step (all_step (all_step (all_step (all_step (all_step (all_step (all_step (all_step (all_step (all_step (all_step (all_step (all_step (all_step (all_step (all_step (all_step (all_step (all_step (all_step (all_step (all_step (all_step (all_step (all_step (all_step (all_step (all_step (all_step (all_step (all_step (all_step (all_step (all_step (all_step (all_step (all_step all_zero ?_) ?_) ?_) ?_) ?_) ?_) ?_) ?_) ?_) ?_) ?_) ?_) ?_) ?_) ?_) ?_) ?_) ?_) ?_) ?_) ?_) ?_) ?_) ?_) ?_) ?_) ?_) ?_) ?_) ?_) ?_) ?_) ?_) ?_) ?_) ?_) ?_) ?_) ?_) ?_) ?_
    all_goals
      intro ox ho hic dx yx Tx wx hdb hK hW
      replace hdb := Lib.hid hdb
    · obtain ⟨ps, af, rfl⟩ := core (some 49) (.load 26 (.tmp 1)) 26 none ho (by kernel_rfl)
      have e1 : Tx.getD 1 undef = .pointer (some ⟨gp, 0, none⟩) := hK.of (by kernel_rfl) g1
      obtain ⟨hl0, hl1, hl2, hl3, hl4, hl5, hl6, hl7, hl8⟩ := lk _ _ _ _ _ hW
      exact wpOp_plain ho rfl (by subst hV; go_simp; try rfl)
    · exact absurd (by decide) hic
    · obtain ⟨ps, af, rfl⟩ := core (some 51) (.binOp BinOp.eql 26 (.tmp 49) (.tmp 50) 26) 4 none ho (by kernel_rfl)
      have e49 : Tx.getD 49 undef = .agg #[.int .u64 17627433388654248598, .int .u64 8575836109218198432, .int .u64 17923454489921339634, .int .u64 7716867327612699207, .int .u64 14678990851816772085, .int .u64 3156516839386865358, .int .u64 10297457778147434006, .int .u64 5756518291402817435, .bool false] := hK.is 0 ho (by kernel_rfl) (by subst hV; rfl)
      have e50 : Tx.getD 50 undef = .agg #[.int .u64 17627433388654248598, .int .u64 8575836109218198432, .int .u64 17923454489921339634, .int .u64 7716867327612699207, .int .u64 14678990851816772085, .int .u64 3156516839386865358, .int .u64 10297457778147434006, .int .u64 5756518291402817435, .bool false] := hK.is 1 ho (by kernel_rfl) (by subst hV; rfl)
      have hq1 := hq
      exact wpOp_plain ho rfl (by subst hV; go_simp; try rfl)
    · exact pl1 52 51 2 4 ho hK (by kernel_rfl) (by kernel_rfl) (by subst hV; rfl) (by subst hV; rfl) fun ps af e => k_mv e
    · exact pg0 3 52 true 53 2 27 ho hK (by kernel_rfl) (by kernel_rfl) (by kernel_rfl) (by subst hV; rfl) (by kernel_rfl) g2 (by subst hV; rfl) fun ps af e => k_mv e
    · obtain ⟨ps, af, rfl⟩ := core (some 54) (.binOp BinOp.eql 27 (.tmp 53) (.const (Value.int IntKind.i64 0)) 27) 4 (some (3, true)) ho (by kernel_rfl)
      have e53 : Tx.getD 53 undef = .int .i64 0 := hK.is 4 ho (by kernel_rfl) (by subst hV; rfl)
      exact wpOp_want ho ((wanted_of (d := 52) (b := true) rfl (by kernel_rfl) (hK.is 3 ho (by kernel_rfl) (by subst hV; rfl))).trans rfl) (by subst hV; go_simp; try rfl)
    · obtain ⟨ps, af, rfl⟩ := core (some 55) (.pick (.tmp 52) (.tmp 54) (.const (Value.bool false))) 4 none ho (by kernel_rfl)
      have e52 : Tx.getD 52 undef = .bool true := hK.is 3 ho (by kernel_rfl) (by subst hV; rfl)
      have e54 : Tx.getD 54 undef = .bool true := hK.is 5 ho (by kernel_rfl) (by subst hV; rfl)
      exact wpOp_plain ho rfl (by subst hV; go_simp; try rfl)
    · exact pl1 56 55 6 4 ho hK (by kernel_rfl) (by kernel_rfl) (by subst hV; rfl) (by subst hV; rfl) fun ps af e => k_mv e
    · exact pg0 7 56 true 57 4 27 ho hK (by kernel_rfl) (by kernel_rfl) (by kernel_rfl) (by subst hV; rfl) (by kernel_rfl) g4 (by subst hV; rfl) fun ps af e => k_mv e
    · obtain ⟨ps, af, rfl⟩ := core (some 58) (.binOp BinOp.eql 27 (.tmp 57) (.const (Value.int IntKind.i64 80)) 27) 4 (some (7, true)) ho (by kernel_rfl)
      have e57 : Tx.getD 57 undef = .int .i64 80 := hK.is 8 ho (by kernel_rfl) (by subst hV; rfl)
      exact wpOp_want ho ((wanted_of (d := 56) (b := true) rfl (by kernel_rfl) (hK.is 7 ho (by kernel_rfl) (by subst hV; rfl))).trans rfl) (by subst hV; go_simp; try rfl)
    · obtain ⟨ps, af, rfl⟩ := core (some 59) (.pick (.tmp 56) (.tmp 58) (.const (Value.bool false))) 4 none ho (by kernel_rfl)
      have e56 : Tx.getD 56 undef = .bool true := hK.is 7 ho (by kernel_rfl) (by subst hV; rfl)
      have e58 : Tx.getD 58 undef = .bool true := hK.is 9 ho (by kernel_rfl) (by subst hV; rfl)
      exact wpOp_plain ho rfl (by subst hV; go_simp; try rfl)
    · exact pl1 60 59 10 4 ho hK (by kernel_rfl) (by kernel_rfl) (by subst hV; rfl) (by subst hV; rfl) fun ps af e => k_mv e
    · exact pg0 11 60 true 61 6 27 ho hK (by kernel_rfl) (by kernel_rfl) (by kernel_rfl) (by subst hV; rfl) (by kernel_rfl) g6 (by subst hV; rfl) fun ps af e => k_mv e
    · obtain ⟨ps, af, rfl⟩ := core (some 62) (.binOp BinOp.eql 27 (.tmp 61) (.const (Value.int IntKind.i64 80)) 27) 4 (some (11, true)) ho (by kernel_rfl)
      have e61 : Tx.getD 61 undef = .int .i64 80 := hK.is 12 ho (by kernel_rfl) (by subst hV; rfl)
      exact wpOp_want ho ((wanted_of (d := 60) (b := true) rfl (by kernel_rfl) (hK.is 11 ho (by kernel_rfl) (by subst hV; rfl))).trans rfl) (by subst hV; go_simp; try rfl)
    · obtain ⟨ps, af, rfl⟩ := core (some 63) (.pick (.tmp 60) (.tmp 62) (.const (Value.bool false))) 4 none ho (by kernel_rfl)
      have e60 : Tx.getD 60 undef = .bool true := hK.is 11 ho (by kernel_rfl) (by subst hV; rfl)
      have e62 : Tx.getD 62 undef = .bool true := hK.is 13 ho (by kernel_rfl) (by subst hV; rfl)
      exact wpOp_plain ho rfl (by subst hV; go_simp; try rfl)
    · exact pl1 64 63 14 4 ho hK (by kernel_rfl) (by kernel_rfl) (by subst hV; rfl) (by subst hV; rfl) fun ps af e => k_mv e
    · exact pg0 15 64 true 65 7 41 ho hK (by kernel_rfl) (by kernel_rfl) (by kernel_rfl) (by subst hV; rfl) (by kernel_rfl) g7 (by subst hV; rfl) fun ps af e => k_mv e
    · exact pg0 15 64 true 66 8 9 ho hK (by kernel_rfl) (by kernel_rfl) (by kernel_rfl) (by subst hV; rfl) (by kernel_rfl) g8 (by subst hV; rfl) fun ps af e => k_mv e
    · exact pg0 15 64 true 67 9 9 ho hK (by kernel_rfl) (by kernel_rfl) (by kernel_rfl) (by subst hV; rfl) (by kernel_rfl) g9 (by subst hV; rfl) fun ps af e => k_mv e
    · exact absurd (by decide) hic
    · obtain ⟨ps, af, rfl⟩ := core (some 69) (.pick (.tmp 64) (.tmp 68) (.const (Value.bool false))) 4 none ho (by kernel_rfl)
      have e64 : Tx.getD 64 undef = .bool true := hK.is 15 ho (by kernel_rfl) (by subst hV; rfl)
      have e68 : Tx.getD 68 undef = .bool true := hK.is 19 ho (by kernel_rfl) (by subst hV; rfl)
      exact wpOp_plain ho rfl (by subst hV; go_simp; try rfl)
    · exact pl1 70 69 20 4 ho hK (by kernel_rfl) (by kernel_rfl) (by subst hV; rfl) (by subst hV; rfl) fun ps af e => k_mv e
    · exact pg0 21 70 true 71 7 41 ho hK (by kernel_rfl) (by kernel_rfl) (by kernel_rfl) (by subst hV; rfl) (by kernel_rfl) g7 (by subst hV; rfl) fun ps af e => k_mv e
    · exact pg0 21 70 true 72 9 9 ho hK (by kernel_rfl) (by kernel_rfl) (by kernel_rfl) (by subst hV; rfl) (by kernel_rfl) g9 (by subst hV; rfl) fun ps af e => k_mv e
    · exact absurd (by decide) hic
    · obtain ⟨ps, af, rfl⟩ := core (some 74) (.unOp UnOp.not 4 (.tmp 73)) 4 (some (21, true)) ho (by kernel_rfl)
      have e73 : Tx.getD 73 undef = .bool false := hK.is 24 ho (by kernel_rfl) (by subst hV; rfl)
      exact wpOp_want ho ((wanted_of (d := 70) (b := true) rfl (by kernel_rfl) (hK.is 21 ho (by kernel_rfl) (by subst hV; rfl))).trans rfl) (by subst hV; go_simp; try rfl)
    · obtain ⟨ps, af, rfl⟩ := core (some 75) (.pick (.tmp 70) (.tmp 74) (.const (Value.bool false))) 4 none ho (by kernel_rfl)
      have e70 : Tx.getD 70 undef = .bool true := hK.is 21 ho (by kernel_rfl) (by subst hV; rfl)
      have e74 : Tx.getD 74 undef = .bool true := hK.is 25 ho (by kernel_rfl) (by subst hV; rfl)
      exact wpOp_plain ho rfl (by subst hV; go_simp; try rfl)
    · exact pl1 76 75 26 4 ho hK (by kernel_rfl) (by kernel_rfl) (by subst hV; rfl) (by subst hV; rfl) fun ps af e => k_mv e
    · obtain ⟨ps, af, rfl⟩ := core (some 77) (.load 26 (.tmp 1)) 26 (some (27, true)) ho (by kernel_rfl)
      have e1 : Tx.getD 1 undef = .pointer (some ⟨gp, 0, none⟩) := hK.of (by kernel_rfl) g1
      obtain ⟨hl0, hl1, hl2, hl3, hl4, hl5, hl6, hl7, hl8⟩ := lk _ _ _ _ _ hW
      exact wpOp_want ho ((wanted_of (d := 76) (b := true) rfl (by kernel_rfl) (hK.is 27 ho (by kernel_rfl) (by subst hV; rfl))).trans rfl) (by subst hV; go_simp; try rfl)
    · exact absurd (by decide) hic
    · obtain ⟨ps, af, rfl⟩ := core (some 79) (.unOp UnOp.not 4 (.tmp 78)) 4 (some (27, true)) ho (by kernel_rfl)
      have e78 : Tx.getD 78 undef = .bool false := hK.is 29 ho (by kernel_rfl) (by subst hV; rfl)
      exact wpOp_want ho ((wanted_of (d := 76) (b := true) rfl (by kernel_rfl) (hK.is 27 ho (by kernel_rfl) (by subst hV; rfl))).trans rfl) (by subst hV; go_simp; try rfl)
    · obtain ⟨ps, af, rfl⟩ := core (some 80) (.pick (.tmp 76) (.tmp 79) (.const (Value.bool false))) 4 none ho (by kernel_rfl)
      have e76 : Tx.getD 76 undef = .bool true := hK.is 27 ho (by kernel_rfl) (by subst hV; rfl)
      have e79 : Tx.getD 79 undef = .bool true := hK.is 30 ho (by kernel_rfl) (by subst hV; rfl)
      exact wpOp_plain ho rfl (by subst hV; go_simp; try rfl)
    · exact pl1 81 80 31 4 ho hK (by kernel_rfl) (by kernel_rfl) (by subst hV; rfl) (by subst hV; rfl) fun ps af e => k_mv e
    · obtain ⟨ps, af, rfl⟩ := core (some 82) (.pick (.tmp 81) (.const (Value.bool true)) (.const (Value.bool false))) 4 none ho (by kernel_rfl)
      have e81 : Tx.getD 81 undef = .bool true := hK.is 32 ho (by kernel_rfl) (by subst hV; rfl)
      exact wpOp_plain ho rfl (by subst hV; go_simp; try rfl)
    · exact pl1 83 82 33 4 ho hK (by kernel_rfl) (by kernel_rfl) (by subst hV; rfl) (by subst hV; rfl) fun ps af e => k_mv e
    · obtain ⟨ps, af, rfl⟩ := core (some 84) (.pick (.tmp 83) (.const (Value.bool true)) (.const (Value.bool false))) 4 none ho (by kernel_rfl)
      have e83 : Tx.getD 83 undef = .bool true := hK.is 34 ho (by kernel_rfl) (by subst hV; rfl)
      exact wpOp_plain ho rfl (by subst hV; go_simp; try rfl)
    · exact pl1 85 84 35 4 ho hK (by kernel_rfl) (by kernel_rfl) (by subst hV; rfl) (by subst hV; rfl) fun ps af e => k_mv e
    · obtain ⟨ps, af, rfl⟩ := core (some 86) (.pick (.tmp 85) (.const (Value.bool true)) (.const (Value.bool false))) 4 none ho (by kernel_rfl)
      have e85 : Tx.getD 85 undef = .bool true := hK.is 36 ho (by kernel_rfl) (by subst hV; rfl)
      exact wpOp_plain ho rfl (by subst hV; go_simp; try rfl)
    · exact pl1 87 86 37 4 ho hK (by kernel_rfl) (by kernel_rfl) (by subst hV; rfl) (by subst hV; rfl) fun ps af e => k_mv e
    · obtain ⟨ps, af, rfl⟩ := core (some 88) (.pick (.tmp 87) (.const (Value.bool true)) (.const (Value.bool false))) 4 none ho (by kernel_rfl)
      have e87 : Tx.getD 87 undef = .bool true := hK.is 38 ho (by kernel_rfl) (by subst hV; rfl)
      exact wpOp_plain ho rfl (by subst hV; go_simp; try rfl)
    · exact pl1 0 88 39 4 ho hK (by kernel_rfl) (by kernel_rfl) (by subst hV; rfl) (by subst hV; rfl) fun ps af e => k_as e
  · have hcase : cx = 1 ∨ cx = 19 ∨ cx = 24 ∨ cx = 29 := by simpa using hc
    rcases hcase with rfl | rfl | rfl | rfl
    · obtain ⟨ps, af, rfl⟩ := core (some 50) (.call { callee := .value (.func 48), args := #[], argTypes := #[] }) 26 none ho (by kernel_rfl)
      have hW1 : PW (dx 1) (dx 19) (dx 24) (dx 29)  wx := hW
      have f19 := hda 19 (by decide) (by kernel_rfl)
      have f24 := hda 24 (by decide) (by kernel_rfl)
      have f29 := hda 29 (by decide) (by kernel_rfl)
      clear hdb hda
      rw [hd, f19, f24, f29] at hW1
      replace f19 := Lib.hid f19
      replace f24 := Lib.hid f24
      replace f29 := Lib.hid f29
      clear hd hW hc
      refine wpOp_plain ho rfl ?_
      go_simp
      go_at_call 48
      refine (cl1 _ hW1).mono ?_
      rintro ex w2 ⟨rfl, hW2⟩
      subst hV
      first | refine ⟨undef, rfl, ?_⟩ | refine ⟨⟨undef, rfl⟩, ?_⟩
      simpa [updB, upd, f19.out, f24.out, f29.out] using hW2
    · obtain ⟨ps, af, rfl⟩ := core (some 68) (.call { callee := .value (.func 26), args := #[.tmp 65, .tmp 66, .const (Value.string { data := #[115] }), .tmp 67], argTypes := #[41, 9, 9, 9] }) 4 (some (15, true)) ho (by kernel_rfl)
      have e65 : Tx.getD 65 undef = .pointer (some ⟨r, 0, none⟩) := hK.is 16 ho (by kernel_rfl) (by subst hV; rfl)
      have e66 : Tx.getD 66 undef = .string kd := hK.is 17 ho (by kernel_rfl) (by subst hV; rfl)
      have e67 : Tx.getD 67 undef = .string mc := hK.is 18 ho (by kernel_rfl) (by subst hV; rfl)
      have hW1 : PW (dx 1) (dx 19) (dx 24) (dx 29)  wx := hW
      have f1 := hdb 1 (by decide) (by kernel_rfl)
      have f24 := hda 24 (by decide) (by kernel_rfl)
      have f29 := hda 29 (by decide) (by kernel_rfl)
      clear hdb hda
      rw [hd, f1, f24, f29] at hW1
      replace f1 := Lib.hid f1
      replace f24 := Lib.hid f24
      replace f29 := Lib.hid f29
      clear hd hW hc
      refine wpOp_want ho ((wanted_of (d := 64) (b := true) rfl (by kernel_rfl) (hK.is 15 ho (by kernel_rfl) (by subst hV; rfl))).trans rfl) ?_
      go_simp
      go_at_call 26
      refine (cl19 _ hW1).mono ?_
      rintro ex w2 ⟨rfl, hW2⟩
      subst hV
      first | refine ⟨undef, rfl, ?_⟩ | refine ⟨⟨undef, rfl⟩, ?_⟩
      simpa [updB, upd, f1.out, f24.out, f29.out] using hW2
    · obtain ⟨ps, af, rfl⟩ := core (some 73) (.call { callee := .value (.func 26), args := #[.tmp 71, .const (Value.string { data := #[] }), .const (Value.string { data := #[115] }), .tmp 72], argTypes := #[41, 9, 9, 9] }) 4 (some (21, true)) ho (by kernel_rfl)
      have e71 : Tx.getD 71 undef = .pointer (some ⟨r, 0, none⟩) := hK.is 22 ho (by kernel_rfl) (by subst hV; rfl)
      have e72 : Tx.getD 72 undef = .string mc := hK.is 23 ho (by kernel_rfl) (by subst hV; rfl)
      have hW1 : PW (dx 1) (dx 19) (dx 24) (dx 29)  wx := hW
      have f1 := hdb 1 (by decide) (by kernel_rfl)
      have f19 := hdb 19 (by decide) (by kernel_rfl)
      have f29 := hda 29 (by decide) (by kernel_rfl)
      clear hdb hda
      rw [hd, f1, f19, f29] at hW1
      replace f1 := Lib.hid f1
      replace f19 := Lib.hid f19
      replace f29 := Lib.hid f29
      clear hd hW hc
      refine wpOp_want ho ((wanted_of (d := 70) (b := true) rfl (by kernel_rfl) (hK.is 21 ho (by kernel_rfl) (by subst hV; rfl))).trans rfl) ?_
      go_simp
      go_at_call 26
      refine (cl24 _ hW1).mono ?_
      rintro ex w2 ⟨rfl, hW2⟩
      subst hV
      first | refine ⟨undef, rfl, ?_⟩ | refine ⟨⟨undef, rfl⟩, ?_⟩
      simpa [updB, upd, f1.out, f19.out, f29.out] using hW2
    · obtain ⟨ps, af, rfl⟩ := core (some 78) (.call { callee := .value (.func 16), args := #[.tmp 77, .const (Value.string { data := #[] }), .const (Value.string { data := #[] })], argTypes := #[26, 9, 9] }) 4 (some (27, true)) ho (by kernel_rfl)
      have e77 : Tx.getD 77 undef = .agg #[.int .u64 17627433388654248598, .int .u64 8575836109218198432, .int .u64 17923454489921339634, .int .u64 7716867327612699207, .int .u64 14678990851816772085, .int .u64 3156516839386865358, .int .u64 10297457778147434006, .int .u64 5756518291402817435, .bool false] := hK.is 28 ho (by kernel_rfl) (by subst hV; rfl)
      have hW1 : PW (dx 1) (dx 19) (dx 24) (dx 29)  wx := hW
      have f1 := hdb 1 (by decide) (by kernel_rfl)
      have f19 := hdb 19 (by decide) (by kernel_rfl)
      have f24 := hdb 24 (by decide) (by kernel_rfl)
      clear hdb hda
      rw [hd, f1, f19, f24] at hW1
      replace f1 := Lib.hid f1
      replace f19 := Lib.hid f19
      replace f24 := Lib.hid f24
      clear hd hW hc
      refine wpOp_want ho ((wanted_of (d := 76) (b := true) rfl (by kernel_rfl) (hK.is 27 ho (by kernel_rfl) (by subst hV; rfl))).trans rfl) ?_
      go_simp
      go_at_call 16
      refine (cl29 _ hW1).mono ?_
      rintro ex w2 ⟨rfl, hW2⟩
      subst hV
      first | refine ⟨undef, rfl, ?_⟩ | refine ⟨⟨undef, rfl⟩, ?_⟩
      simpa [updB, upd, f1.out, f19.out, f24.out] using hW2
  · have hW1 : PW (dx 1) (dx 19) (dx 24) (dx 29)  wx := hW
    rw [hd 1 (by decide), hd 19 (by decide), hd 24 (by decide), hd 29 (by decide)] at hW1
    have hQ := h _ hW1
    rw [hsz]
    subst hV hT
    refine cast (congrArg (fun Tx => Q .normal ⟨Tx, ds⟩ wx) ?_) hQ
    kernel_rfl
end Go.Proofs.YtpggkfdijmnmiaaGreat.Pl
namespace Go.Proofs.YtpggkfdijmnmiaaGreat
open Go.RowKit Limbs
def pubOf (k : Nat) : Po := Po.mul k G
def z9 : Array Value := #[.int .u64 0, .int .u64 0, .int .u64 0, .int .u64 0, .int .u64 0, .int .u64 0, .int .u64 0, .int .u64 0, .bool false]
def TW (W : World) (x y : Nat) (i : Bool) (b1 b2 b6 b7 : Bool) (y6 : Value) (w' : World) : Prop :=
  Below W.heap.size W w' ∧ (b6 = true → ∃ g : Nat, y6 = .pointer (some ⟨g, 0, none⟩) ∧ W.heap.size ≤ g ∧ Bk 26 w' g (if b7 then cs9 x y i else z9))
theorem TW.on {W : World} {x y : Nat} {i b1 b2 b6 b7 c1 c2 : Bool} {y6 : Value} {w' w2 : World} (h : TW W x y i b1 b2 b6 b7 y6 w') (hb : Below w'.heap.size w' w2) : TW W x y i c1 c2 b6 b7 y6 w2 :=
  ⟨h.1.trans (hb.mono h.1.size), fun e => by
    obtain ⟨g, e1, e2, e3⟩ := h.2 e
    exact ⟨g, e1, e2, e3.below hb⟩⟩
set_option maxHeartbeats 8000000 in
theorem timesBase_any (k : Nat) (hk : k < W256) (w : World) : Calls Tryz.prog 42 #[nv k] w fun e w' => e = .returned (pubOf k).v ∧ Below w.heap.size w w' := by
  have hm := mulP hk G_on G_ok
  have HM : Hid (∀ w, Calls Tryz.prog 93 #[nv k, G.v] w fun e w' => e = .returned (.tuple #[(pubOf k).v, .int .i64 0]) ∧ Below w.heap.size w w') := Lib.hid hm
  have HB := Lib.hid kBase
  rw [vG] at HM
  clear hm
  generalize pubOf k = q at *
  obtain ⟨x, y, i⟩ := q
  unfold Po.v pn at HM ⊢
  simp only [nv, num] at HM ⊢
  go_enter Tryz.func42, Tryz.ntmps42
  go_wp2_with fail
  have K1 : Bk 24 ((w.alloc (.cells #[.int .u64 (lb k 0 : Nat), .int .u64 (lb k 1 : Nat), .int .u64 (lb k 2 : Nat), .int .u64 (lb k 3 : Nat)] 24)).alloc (.cells z9 26)) w.heap.size #[.int .u64 (lb k 0 : Nat), .int .u64 (lb k 1 : Nat), .int .u64 (lb k 2 : Nat), .int .u64 (lb k 3 : Nat)] := Bk.alloc (Bk.new rfl)
  have K2 : Bk 26 ((w.alloc (.cells #[.int .u64 (lb k 0 : Nat), .int .u64 (lb k 1 : Nat), .int .u64 (lb k 2 : Nat), .int .u64 (lb k 3 : Nat)] 24)).alloc (.cells z9 26)) (w.heap.size + 1) z9 := Bk.new (by simp)
  have hb0 : Below w.heap.size w ((w.alloc (.cells #[.int .u64 (lb k 0 : Nat), .int .u64 (lb k 1 : Nat), .int .u64 (lb k 2 : Nat), .int .u64 (lb k 3 : Nat)] 24)).alloc (.cells z9 26)) := by go_grown
  have hs0 : ((w.alloc (.cells #[.int .u64 (lb k 0 : Nat), .int .u64 (lb k 1 : Nat), .int .u64 (lb k 2 : Nat), .int .u64 (lb k 3 : Nat)] 24)).alloc (.cells z9 26)).heap.size = w.heap.size + 2 := by simp
  unfold z9 at K1 K2 hb0 hs0
  generalize ((w.alloc (.cells #[.int .u64 (lb k 0 : Nat), .int .u64 (lb k 1 : Nat), .int .u64 (lb k 2 : Nat), .int .u64 (lb k 3 : Nat)] 24)).alloc _) = W at K1 K2 hb0 hs0 ⊢
  refine Pl.tB (TW W x y i) w.heap.size k x y i W ?c1 ?c2 ?c6 ?c7 ?lk ?w0 ?h
  case c1 =>
    intro b6 y6 w1 h
    refine (HB.out w1).mono ?_
    rintro e w2 ⟨rfl, hb⟩
    exact ⟨rfl, h.on hb⟩
  case c2 =>
    intro b6 y6 w1 h
    refine (HM.out w1).mono ?_
    rintro e w2 ⟨rfl, hb⟩
    exact ⟨rfl, h.on hb⟩
  case c6 =>
    intro b1 b2 y6 w1 h
    exact ⟨h.1.trans ((show Below w1.heap.size w1 (w1.alloc (.cells z9 26)) by go_grown).mono h.1.size), fun _ => ⟨_, rfl, h.1.size, Bk.new rfl⟩⟩
  case c7 =>
    intro y6 w1 h
    obtain ⟨g, rfl, hg, hk9⟩ := h.2 rfl
    refine ⟨g, _, _, _, _, _, _, _, _, _, rfl, hk9, ?_, fun _ => ⟨g, rfl, hg, Bk.put9 hk9⟩⟩
    have hb := h.1
    go_grown
  case lk =>
    intro b1 b2 b6 b7 y6 w1 h
    have K := K1.below h.1
    exact K.cells
  case w0 => exact ⟨⟨rfl, rfl, rfl, Nat.le_refl _, fun _ _ => rfl⟩, fun h => by cases h⟩
  case h =>
  intro y6 w1 h
  obtain ⟨g, rfl, hg, hk9⟩ := h.2 rfl
  have K3 := K2.below h.1
  obtain ⟨⟨c0, c1, c2, c3⟩, ⟨c4, c5, c6, c7⟩, c8⟩ := hk9.cells9
  obtain ⟨⟨d0, d1, d2, d3⟩, ⟨d4, d5, d6, d7⟩, d8⟩ := K3.cells9
  obtain ⟨⟨f0, f1, f2, f3⟩, ⟨f4, f5, f6, f7⟩, f8⟩ := K3.fros9
  have hb1 := hb0.trans (h.1.mono hb0.size)
  go_wp2_with fail
  refine ret_cell51 rfl (w.heap.size + 1) x y i rfl (Bk.put9 K3) rfl ⟨rfl, ?_⟩
  go_grown
set_option maxHeartbeats 8000000 in
theorem public_yes (k : Nat) (hk : 0 < k ∧ k < mN) (w : World) : Calls Tryz.prog 11 #[nv k] w fun e w' => e = .returned (.tuple #[(pubOf k).v, .int .i64 0]) ∧ Below w.heap.size w w' := by
  have hkW : k < W256 := Nat.lt_trans hk.2 (by decide)
  have hi := inRange_any k hkW
  rw [decide_eq_true hk] at hi
  have HI := Lib.hid hi
  have HT := Lib.hid (timesBase_any k hkW)
  clear hi hkW hk
  generalize pubOf k = q at *
  obtain ⟨x, y, i⟩ := q
  unfold Po.v pn at HT ⊢
  simp only [nv, num] at HI HT ⊢
  go_enter Tryz.func11, Tryz.ntmps11
  go_wp2_with fail
  refine (keep w.heap.size w (HI.out _) (by go_grown) (Nat.le_refl _)).mono ?_
  rintro e w1 ⟨rfl, hb1, hk1⟩
  have K1 : Bk 24 w1 w.heap.size (cs4 k) := Bk.below (Bk.alloc (Bk.new rfl)) hk1
  have K2 : Bk 26 w1 (w.heap.size + 1) z9 := Bk.below (Bk.new (by simp)) hk1
  obtain ⟨a0, a1, a2, a3⟩ := K1.cells
  clear hk1
  go_wp2_with fail
  refine (keep w.heap.size w (HT.out _) hb1 (Nat.le_refl _)).mono ?_
  rintro e w2 ⟨rfl, hb2, hk2⟩
  have K3 := K2.below hk2
  obtain ⟨⟨d0, d1, d2, d3⟩, ⟨d4, d5, d6, d7⟩, d8⟩ := K3.cells9
  obtain ⟨⟨f0, f1, f2, f3⟩, ⟨f4, f5, f6, f7⟩, f8⟩ := K3.fros9
  clear a0 a1 a2 a3 K1 K2 hk2
  go_wp2_with fail
  refine ret_cell51e rfl (w.heap.size + 1) x y i (.int .i64 0) rfl rfl (Bk.put9 K3) rfl ⟨rfl, ?_⟩
  go_grown
set_option maxHeartbeats 8000000 in
theorem public_no (k : Nat) (hkW : k < W256) (hk : ¬ (0 < k ∧ k < mN)) (w : World) : Calls Tryz.prog 11 #[nv k] w fun e w' => e = .returned (.tuple #[pn 0 0 false, .int .i64 80]) ∧ Below w.heap.size w w' := by
  have hi := inRange_any k hkW
  rw [decide_eq_false hk] at hi
  have HI := Lib.hid hi
  clear hi hkW hk
  simp only [nv, num] at HI ⊢
  go_enter Tryz.func11, Tryz.ntmps11
  go_wp2_with fail
  refine (keep w.heap.size w (HI.out _) (by go_grown) (Nat.le_refl _)).mono ?_
  rintro e w1 ⟨rfl, hb1, hk1⟩
  have K3 : Bk 26 w1 (w.heap.size + 1) z9 := Bk.below (Bk.new (by simp)) hk1
  obtain ⟨⟨d0, d1, d2, d3⟩, ⟨d4, d5, d6, d7⟩, d8⟩ := K3.cells9
  obtain ⟨⟨f0, f1, f2, f3⟩, ⟨f4, f5, f6, f7⟩, f8⟩ := K3.fros9
  clear hk1
  go_wp2_with fail
  refine ret_cell51e rfl (w.heap.size + 1) 0 0 false (.int .i64 80) rfl rfl (Bk.put9 K3) rfl ⟨rfl, ?_⟩
  go_grown
set_option maxHeartbeats 8000000 in
theorem sign_no (k : Nat) (hkW : k < W256) (hk : ¬ (0 < k ∧ k < mN)) (s : ByteArray) (w : World) : Calls Tryz.prog 14 #[nv k, .string s] w fun e w' => e = .returned (.tuple #[.string ⟨#[]⟩, .int .i64 80]) ∧ Below w.heap.size w w' := by
  have hi := inRange_any k hkW
  rw [decide_eq_false hk] at hi
  have HI := Lib.hid hi
  clear hi hkW hk
  simp only [nv, num] at HI ⊢
  go_enter Tryz.func14, Tryz.ntmps14
  go_wp2_with fail
  refine (keep w.heap.size w (HI.out _) (by go_grown) (Nat.le_refl _)).mono ?_
  rintro e w1 ⟨rfl, hb1, hk1⟩
  clear hk1
  go_wp2_with fail
  go_returns
  exact ⟨rfl, hb1⟩
end Go.Proofs.YtpggkfdijmnmiaaGreat
namespace Go.Proofs.YtpggkfdijmnmiaaGreat
open Curve Limbs
instance : NeZero mN := ⟨by decide +kernel⟩
def cn (n : Nat) : Fin mN := ⟨n % mN, Nat.mod_lt _ mN_pos⟩
theorem pub_is (k : Nat) (hk : k < W256) : pubOf k = ofPt (mul GP k) := mul_is hk G_on
theorem mN_W : mN < W256 := by decide +kernel
theorem pub_on (k : Nat) (hk : k < W256) : (pubOf k).on = true ∧ toPt (pubOf k) = mul GP k ∧ (pubOf k).ok := by
  rw [pub_is k hk]
  exact on_ofPt (mul_on GP_on k)
theorem Po.neg_x (P : Pt (Fin PP)) : (ofPt (Curve.neg P)).x = (ofPt P).x ∧ (ofPt (Curve.neg P)).i = (ofPt P).i := by
  cases P with
  | far => exact ⟨rfl, rfl⟩
  | aff x y => exact ⟨rfl, rfl⟩
end Go.Proofs.YtpggkfdijmnmiaaGreat
namespace Go.Proofs.YtpggkfdijmnmiaaGreat.Hs
def rorW (x : UInt32) (n : Nat) : UInt32 := UInt32.ofNat (x.toNat * 2 ^ (32 - n) % 4294967296 ||| x.toNat / 2 ^ n)
def shrW (x : UInt32) (n : Nat) : UInt32 := UInt32.ofNat (x.toNat / 2 ^ n)
def fourL (x : UInt32) : List UInt8 := [UInt8.ofNat (x.toNat / 16777216), UInt8.ofNat (x.toNat / 65536), UInt8.ofNat (x.toNat / 256), UInt8.ofNat x.toNat]
def sh8 (x : UInt32) (c : UInt8) : UInt32 := UInt32.ofNat (x.toNat * 256 + c.toNat)
def nstep (b : List UInt8) (l : List UInt32) (i : Nat) : List UInt32 := l.set (i / 4) (sh8 (l.getD (i / 4) 0) (b.getD i 0))
def numsTo (b : List UInt8) (i : Nat) : List UInt32 := (List.range i).foldl (nstep b) (List.replicate 16 0)
def numsL (b : List UInt8) : List UInt32 := numsTo b 64
def sig0 (x : UInt32) : UInt32 := rorW x 7 ^^^ rorW x 18 ^^^ shrW x 3
def sig1 (x : UInt32) : UInt32 := rorW x 17 ^^^ rorW x 19 ^^^ shrW x 10
def sstep (l : List UInt32) (i : Nat) : List UInt32 := l.set i (l.getD (i - 16) 0 + sig0 (l.getD (i - 15) 0) + l.getD (i - 7) 0 + sig1 (l.getD (i - 2) 0))
def spreadTo (l : List UInt32) (i : Nat) : List UInt32 := (List.range' 16 (i - 16)).foldl sstep (l ++ List.replicate 48 0)
def spreadL (l : List UInt32) : List UInt32 := spreadTo l 64
def S1 (e : UInt32) : UInt32 := rorW e 6 ^^^ rorW e 11 ^^^ rorW e 25
def S0 (a : UInt32) : UInt32 := rorW a 2 ^^^ rorW a 13 ^^^ rorW a 22
def Ch (e f g : UInt32) : UInt32 := e &&& f ^^^ g &&& ~~~e
def Maj (a b c : UInt32) : UInt32 := a &&& b ^^^ a &&& c ^^^ b &&& c
def turnL : List UInt32 → UInt32 → List UInt32
  | [a, b, c, d, e, f, g, h], n => [(h + S1 e + Ch e f g + n) + (S0 a + Maj a b c), a, b, c, d + (h + S1 e + Ch e f g + n), e, f, g]
  | l, _ => l
def firstL : List UInt32 := [0x6a09e667, 0xbb67ae85, 0x3c6ef372, 0xa54ff53a, 0x510e527f, 0x9b05688c, 0x1f83d9ab, 0x5be0cd19]
def kL : List UInt32 := [
  0x428a2f98, 0x71374491, 0xb5c0fbcf, 0xe9b5dba5, 0x3956c25b, 0x59f111f1, 0x923f82a4, 0xab1c5ed5,
  0xd807aa98, 0x12835b01, 0x243185be, 0x550c7dc3, 0x72be5d74, 0x80deb1fe, 0x9bdc06a7, 0xc19bf174,
  0xe49b69c1, 0xefbe4786, 0x0fc19dc6, 0x240ca1cc, 0x2de92c6f, 0x4a7484aa, 0x5cb0a9dc, 0x76f988da,
  0x983e5152, 0xa831c66d, 0xb00327c8, 0xbf597fc7, 0xc6e00bf3, 0xd5a79147, 0x06ca6351, 0x14292967,
  0x27b70a85, 0x2e1b2138, 0x4d2c6dfc, 0x53380d13, 0x650a7354, 0x766a0abb, 0x81c2c92e, 0x92722c85,
  0xa2bfe8a1, 0xa81a664b, 0xc24b8b70, 0xc76c51a3, 0xd192e819, 0xd6990624, 0xf40e3585, 0x106aa070,
  0x19a4c116, 0x1e376c08, 0x2748774c, 0x34b0bcb5, 0x391c0cb3, 0x4ed8aa4a, 0x5b9cca4f, 0x682e6ff3,
  0x748f82ee, 0x78a5636f, 0x84c87814, 0x8cc70208, 0x90befffa, 0xa4506ceb, 0xbef9a3f7, 0xc67178f2]
def turnsTo (w : List UInt32) (h : List UInt32) (i : Nat) : List UInt32 := (List.range i).foldl (fun v i => turnL v (kL.getD i 0 + w.getD i 0)) h
def nextL (h : List UInt32) (b : List UInt8) : List UInt32 := List.zipWith (· + ·) (turnsTo (spreadL (numsL b)) h 64) h
def thrL : Nat → List UInt32 → List UInt8 → List UInt32
  | 0, h, _ => h
  | n + 1, h, s => thrL n (nextL h (s.take 64)) (s.drop 64)
def textL (h : List UInt32) : List UInt8 := h.flatMap fourL
def behindL (n : Nat) : List UInt8 := 128 :: List.replicate ((119 - n % 64) % 64) 0 ++ fourL (UInt32.ofNat (n * 8 / 4294967296)) ++ fourL (UInt32.ofNat (n * 8))
def sumL (s : List UInt8) : List UInt8 := textL (thrL ((s.length + 72) / 64) firstL (s ++ behindL s.length))
def fillL (key : List UInt8) : List UInt8 :=
  (if 64 < key.length then sumL key else key) ++ List.replicate (64 - (if 64 < key.length then sumL key else key).length) 0
def turnedL (k : List UInt8) (by' : UInt8) : List UInt8 := k.map (· ^^^ by')
def macK (k s : List UInt8) : List UInt8 := sumL (turnedL k 92 ++ sumL (turnedL k 54 ++ s))
def macL (key s : List UInt8) : List UInt8 := macK (fillL key) s
end Go.Proofs.YtpggkfdijmnmiaaGreat.Hs
namespace Go.Proofs.YtpggkfdijmnmiaaGreat.Hs
open Go.RowKit
theorem sizeB : (Tryz.prog.info? 188).map (·.size) = some 2 := by kernel_rfl
theorem liesB : liesAt Tryz.prog Tryz.prog.depth 188 (2 / Tryz.prog.cellsOf 188) 0 188 1 = true := by kernel_rfl
theorem infoByte : (Tryz.prog.info? 5).map (fun i => (i.zero, i.size, i.bytes)) = some (some (.int .u8 0), 1, 1) := by kernel_rfl
set_option maxHeartbeats 1000000 in
set_option maxRecDepth 100000 in
theorem copyCheck_used (b : Nat) (w : World) (h0 : w.cell? ⟨b, 0, none⟩ = some (.pointer (some ⟨b, 0, none⟩))) :
    Calls Tryz.prog 187 #[.pointer (some ⟨b, 0, none⟩)] w fun e w' => e = .returned (.tuple #[]) ∧ w = w' := by
  obtain ⟨j, hj, hjs⟩ := Option.map_eq_some_iff.1 sizeB
  go_enter Tryz.func187, Tryz.ntmps187
  go_wp2
  rw [Lib.run_neq_ptr_same w _ Tryz.underlying186 hj]
  go_wp2
  go_end0
  exact ⟨rfl, rfl⟩
set_option maxHeartbeats 1000000 in
set_option maxRecDepth 100000 in
theorem copyCheck_fresh (b : Nat) (w : World) (h0 : w.cell? ⟨b, 0, none⟩ = some (.pointer none)) (hsh : w.shape? b = some (188, 2)) (hfz : w.frozen? ⟨b, 0, none⟩ = false) :
    Calls Tryz.prog 187 #[.pointer (some ⟨b, 0, none⟩)] w fun e w' => e = .returned (.tuple #[]) ∧ w.setCell ⟨b, 0, none⟩ (.pointer (some ⟨b, 0, none⟩)) = w' := by
  obtain ⟨j, hj, hjs⟩ := Option.map_eq_some_iff.1 sizeB
  go_enter Tryz.func187, Tryz.ntmps187
  go_wp2
  rw [Lib.run_to_unsafe w ⟨b, 0, none⟩ Tryz.underlying186 Tryz.underlying225 hj (by rw [hjs]; decide) hsh (Nat.zero_lt_succ 1)]
  simp only [Result.andThen]
  rw [Oper.upon_value]
  go_wp2
  rw [run_callFunc_extern Tryz.func200 (by kernel_rfl) (by kernel_rfl) (by kernel_rfl) (e := Extern.AbiNoEscape.same) (by kernel_rfl)]
  rw [Lib.run_noEscape]
  simp only [Result.andThen]
  rw [Oper.upon_value]
  go_wp2
  rw [Lib.run_from_unsafe w ⟨b, 0, none⟩ Tryz.underlying225 Tryz.underlying186 hj hsh liesB]
  simp only [Result.andThen]
  rw [Oper.upon_value]
  go_wp2
  go_end0
  exact ⟨rfl, rfl⟩
theorem copyCheck_any (B b : Nat) (bs : List Value) (w : World) (h : Lib.IsBuilderF 188 5 B b bs w) :
    Calls Tryz.prog 187 #[.pointer (some ⟨b, 0, none⟩)] w fun e w' => e = .returned (.tuple #[]) ∧ Lib.BuilderAtF 188 5 B b (.pointer (some ⟨b, 0, none⟩)) bs w' ∧ Below B w w' ∧ Lib.OthersKept 5 (some b) w w' := by
  rcases h with h | h
  · refine (copyCheck_fresh b w h.cell0 h.shape h.frozen0).mono ?_
    rintro e w' ⟨rfl, rfl⟩
    exact ⟨rfl, h.used _, (Below.refl B w).setCell (p := ⟨b, 0, none⟩) h.1 _, (Lib.OthersKept.refl _ _ w).setCell ⟨b, 0, none⟩ rfl _⟩
  · refine (copyCheck_used b w h.cell0).mono ?_
    rintro e w' ⟨rfl, rfl⟩
    exact ⟨rfl, h, Below.refl B _, Lib.OthersKept.refl _ _ _⟩
theorem blk_lt {w : World} {b : Nat} {o : Obj} (h : w.heap[b]? = some o) : b < w.heap.size := (Array.getElem?_eq_some_iff.1 h).1
set_option maxHeartbeats 2000000 in
set_option maxRecDepth 100000 in
theorem writeString_any (B b : Nat) (bs : List Value) (s : ByteArray) (w : World) (h : Lib.IsBuilderF 188 5 B b bs w) (hlen : bs.length + s.size ≤ 140737488355328) (hBw : B ≤ w.heap.size) :
    Calls Tryz.prog 173 #[.pointer (some ⟨b, 0, none⟩), .string s] w fun e w' => e = .returned (.tuple #[.int .i64 s.size, .nilIface]) ∧ Lib.BuilderAtF 188 5 B b (.pointer (some ⟨b, 0, none⟩)) (bs ++ Lib.strCells s) w' ∧ Below B w w' ∧ Lib.OthersKept 5 (some b) w w' := by
  obtain ⟨i0, hi, hz0, hz1, hz2⟩ := info_parts infoByte
  go_enter Tryz.func173, Tryz.ntmps173
  go_wp2_with (go_at_call 187; refine (copyCheck_any B b bs _ h).mono ?_)
  rintro e w1 ⟨rfl, h1, hb1, hk1⟩
  obtain ⟨hB, v, hbk, hown, hne⟩ := h1
  have c0 : w1.cell? ⟨b, 0, none⟩ = some (.pointer (some ⟨b, 0, none⟩)) := by rw [Lib.cell_of_heap hbk]; rfl
  have c1 : w1.cell? ⟨b, 1, none⟩ = some v := by rw [Lib.cell_of_heap hbk]; rfl
  have hsz := hb1.size
  go_wp2_with (at_builtin; refine Lib.wpList_append_own_stringF _ rfl _ _ 101 9 rfl B 5 i0 Tryz.underlying101 Tryz.underlying9 hi hz0 hz1 hz2 _ _ _ rfl hown s rfl ?c3 ?c4 ?c5 ?_)
  case c3 => unfold maxLen; omega
  case c4 => omega
  case c5 => omega
  intro v' w2 hown' hgrow _
  have hb2 : w2.heap[b]? = some (.cells #[.pointer (some ⟨b, 0, none⟩), v] 188 (0, 0)) := by
    rw [hgrow.block b (blk_lt hbk) (fun e => hne e.symm)]
    exact hbk
  have d0 : w2.cell? ⟨b, 0, none⟩ = some (.pointer (some ⟨b, 0, none⟩)) := by rw [Lib.cell_of_heap hb2]; rfl
  have d1 : w2.cell? ⟨b, 1, none⟩ = some v := by rw [Lib.cell_of_heap hb2]; rfl
  have f1 : w2.frozen? ⟨b, 1, none⟩ = false := Lib.frozen_of_heap hb2 1
  obtain ⟨ao, n', cap, rfl⟩ : ∃ ao n' cap, v' = .slice ao n' cap := by
    rcases hown'.2 with ⟨hv, _⟩ | ⟨g, cap, cur, fz, hv, _⟩
    · exact ⟨_, _, _, hv⟩
    · exact ⟨_, _, _, hv⟩
  go_wp2
  go_ret2
  refine ⟨rfl, ?_, ?_, (hk1.grown hgrow (Lib.ownsRowF_kind hown)).setCell ⟨b, 1, none⟩ rfl _⟩
  · exact Lib.BuilderAtF.put hB hb2 (bs' := bs ++ Lib.strCells s) (by simpa [Lib.strCells_length] using hown') (by decide)
  · exact (hb1.grown hgrow (by omega) (fun k hk => (hown.lt k hk).1)).setCell (p := ⟨b, 1, none⟩) hB _
def Bd (B : Nat) (l : List UInt8) (w : World) : Prop := Lib.IsBuilderF 188 5 B B (Lib.byteCells l) w
theorem Bd.start (w : World) : Bd w.heap.size [] (w.alloc (.cells #[.pointer none, .slice none 0 0] 188)) := Lib.IsBuilderF.of (Lib.fresh_isBuilder 188 5 w)
theorem Bd.lt {B : Nat} {l : List UInt8} {w : World} (h : Bd B l w) : B < w.heap.size := by
  rcases h with h | h
  · exact h.lt
  · exact h.lt
theorem Bd.below {B : Nat} {l : List UInt8} {w w' : World} (h : Bd B l w) (hb : Below w.heap.size w w') : Bd B l w' := by
  have key : ∀ {p : Value}, Lib.BuilderAtF 188 5 B B p (Lib.byteCells l) w → Lib.BuilderAtF 188 5 B B p (Lib.byteCells l) w' := by
    intro p h
    obtain ⟨hB, v, hbk, hown, hne⟩ := h
    refine ⟨hB, v, (hb.block _ (blk_lt hbk)).trans hbk, ⟨hown.1, ?_⟩, hne⟩
    rcases hown.2 with hn | ⟨g, cap, cur, fz, hv, hg, hh, rest⟩
    · exact .inl hn
    · exact .inr ⟨g, cap, cur, fz, hv, hg, (hb.block _ (blk_lt hh)).trans hh, rest⟩
  exact h.elim (fun x => .inl (key x)) (fun x => .inr (key x))
theorem Bd.drew {B : Nat} {l : List UInt8} {w : World} (h : Bd B l w) : Bd B l w.drew := h
theorem write_s (B : Nat) (l : List UInt8) (s : ByteArray) (w : World) (h : Bd B l w) (hlen : l.length + s.size ≤ 140737488355328) :
    Calls Tryz.prog 173 #[.pointer (some ⟨B, 0, none⟩), .string s] w fun e w' => e = .returned (.tuple #[.int .i64 s.size, .nilIface]) ∧ Bd B (l ++ s.data.toList) w' ∧ Below B w w' ∧ Lib.OthersKept 5 (some B) w w' := by
  refine (writeString_any B B (Lib.byteCells l) s w h (by rw [Lib.byteCells_length]; exact hlen) (Nat.le_of_lt h.lt)).mono ?_
  rintro e w' ⟨rfl, h1, h2, h3⟩
  refine ⟨rfl, .inr ?_, h2, h3⟩
  rw [Lib.byteCells_append]
  exact h1
theorem string_b (B : Nat) (l : List UInt8) (w : World) (h : Bd B l w) :
    Calls Tryz.prog 165 #[.pointer (some ⟨B, 0, none⟩)] w fun e w' => e = .returned (.string ⟨l.toArray⟩) ∧ Below B w w' := by
  refine (Tryz.Builder_String_any_k B B l w h (Nat.le_of_lt h.lt)).mono ?_
  rintro e w' ⟨rfl, _, h2, _⟩
  exact ⟨rfl, h2⟩
theorem ret_int {k : IntKind} {a b : Int} (h : a = b) : Ending.returned (.int k a) = .returned (.int k b) := by rw [h]
theorem w_lt (x : UInt32) : x.toNat < 4294967296 := x.toNat_lt
theorem w_ofNat (n : Nat) (h : n < 4294967296) : (UInt32.ofNat n).toNat = n := by
  rw [UInt32.toNat_ofNat']; exact Nat.mod_eq_of_lt h
theorem or_lt {a b : Nat} (ha : a < 4294967296) (hb : b < 4294967296) : a ||| b < 4294967296 := Nat.or_lt_two_pow (n := 32) ha hb
theorem or_ror (x : UInt32) (n m d : Nat) (hm : m = 2 ^ (32 - n)) (hd : d = 2 ^ n) : bits .or .u32 ((x.toNat : Int) * m % 4294967296) ((x.toNat : Int) / d) = ((rorW x n).toNat : Int) := by
  have h1 : (x.toNat : Int) * m % 4294967296 = ((x.toNat * m % 4294967296 : Nat) : Int) := by simp
  have h2 : (x.toNat : Int) / d = ((x.toNat / d : Nat) : Int) := by simp
  have l1 : x.toNat * m % 4294967296 < 4294967296 := Nat.mod_lt _ (by decide)
  have l2 : x.toNat / d < 4294967296 := Nat.lt_of_le_of_lt (Nat.div_le_self _ _) (w_lt x)
  rw [h1, h2, u32_or_nat _ _ l1 l2, rorW, ← hm, ← hd, w_ofNat _ (or_lt l1 l2)]
theorem xorW (x y : UInt32) : bits .xor .u32 (x.toNat : Int) (y.toNat : Int) = ((x ^^^ y).toNat : Int) := by
  rw [u32_xor_nat _ _ (w_lt x) (w_lt y), UInt32.toNat_xor]
theorem andW (x y : UInt32) : bits .and .u32 (x.toNat : Int) (y.toNat : Int) = ((x &&& y).toNat : Int) := by
  rw [u32_and_nat _ _ (w_lt x) (w_lt y), UInt32.toNat_and]
theorem andNotW (x y : UInt32) : bits .andNot .u32 (x.toNat : Int) (y.toNat : Int) = ((x &&& ~~~ y).toNat : Int) := by
  rw [u32_andNot_nat _ _ (w_lt x) (w_lt y), UInt32.toNat_and, UInt32.toNat_not]
  rfl
theorem addW (x y : UInt32) : IntKind.u32.wrap ((x.toNat : Int) + (y.toNat : Int)) = ((x + y).toNat : Int) := by
  rw [IntKind.wrap_u32', UInt32.toNat_add]; omega
theorem shrW_div (x : UInt32) (n d : Nat) (hd : d = 2 ^ n) : (x.toNat : Int) / d = ((shrW x n).toNat : Int) := by
  have l2 : x.toNat / d < 4294967296 := Nat.lt_of_le_of_lt (Nat.div_le_self _ _) (w_lt x)
  rw [shrW, ← hd, w_ofNat _ l2]; simp
theorem xorB (x y : UInt8) : bits .xor .u8 (x.toNat : Int) (y.toNat : Int) = ((x ^^^ y).toNat : Int) := by
  rw [u8_xor_nat _ _ x.toNat_lt y.toNat_lt, UInt8.toNat_xor]
theorem sh8_or (x : UInt32) (c : UInt8) : bits .or .u32 ((x.toNat : Int) * 256 % 4294967296) (c.toNat : Int) = ((sh8 x c).toNat : Int) := by
  have hc := c.toNat_lt
  have h1 : (x.toNat : Int) * 256 % 4294967296 = ((x.toNat * 256 % 4294967296 : Nat) : Int) := by simp
  have l1 : x.toNat * 256 % 4294967296 < 4294967296 := Nat.mod_lt _ (by decide)
  rw [h1, u32_or_nat _ _ l1 (by omega), nat_join 8 _ _ (by omega) (by omega), sh8, UInt32.toNat_ofNat']
  omega
set_option maxHeartbeats 1000000 in
theorem rotl2 (x : UInt32) (w : World) :
    Calls Tryz.prog 216 #[.int .u32 (x.toNat : Int), .int .i64 (-2)] w fun e w' => e = .returned (.int .u32 ((rorW x 2).toNat : Int)) ∧ w = w' := by
  have hx := x.toNat_lt
  have hb : bits BinOp.and IntKind.u64 (IntKind.u64.wrap (-2)) 31 = 30 := by decide
  have ho : bits BinOp.or IntKind.u32 ((x.toNat : Int) * 1073741824 % 4294967296) ((x.toNat : Int) / 4) = ((rorW x 2).toNat : Int) := or_ror x 2 1073741824 4 (by decide) (by decide)
  go_enter Tryz.func216, Tryz.ntmps216
  go_wp2
  go_ret
  exact ⟨rfl, rfl⟩
set_option maxHeartbeats 1000000 in
theorem ror2 (x : UInt32) (w : World) :
    Calls Tryz.prog 205 #[.int .u32 (x.toNat : Int), .int .i64 2] w fun e w' => e = .returned (.int .u32 ((rorW x 2).toNat : Int)) ∧ w = w' := by
  have hx := x.toNat_lt
  go_enter Tryz.func205, Tryz.ntmps205
  go_wp2_with (go_at_call 216; refine (rotl2 x _).mono ?_; rintro e w' ⟨rfl, rfl⟩)
  go_ret
  exact ⟨rfl, rfl⟩
set_option maxHeartbeats 1000000 in
theorem rotl6 (x : UInt32) (w : World) :
    Calls Tryz.prog 216 #[.int .u32 (x.toNat : Int), .int .i64 (-6)] w fun e w' => e = .returned (.int .u32 ((rorW x 6).toNat : Int)) ∧ w = w' := by
  have hx := x.toNat_lt
  have hb : bits BinOp.and IntKind.u64 (IntKind.u64.wrap (-6)) 31 = 26 := by decide
  have ho : bits BinOp.or IntKind.u32 ((x.toNat : Int) * 67108864 % 4294967296) ((x.toNat : Int) / 64) = ((rorW x 6).toNat : Int) := or_ror x 6 67108864 64 (by decide) (by decide)
  go_enter Tryz.func216, Tryz.ntmps216
  go_wp2
  go_ret
  exact ⟨rfl, rfl⟩
set_option maxHeartbeats 1000000 in
theorem ror6 (x : UInt32) (w : World) :
    Calls Tryz.prog 205 #[.int .u32 (x.toNat : Int), .int .i64 6] w fun e w' => e = .returned (.int .u32 ((rorW x 6).toNat : Int)) ∧ w = w' := by
  have hx := x.toNat_lt
  go_enter Tryz.func205, Tryz.ntmps205
  go_wp2_with (go_at_call 216; refine (rotl6 x _).mono ?_; rintro e w' ⟨rfl, rfl⟩)
  go_ret
  exact ⟨rfl, rfl⟩
set_option maxHeartbeats 1000000 in
theorem rotl7 (x : UInt32) (w : World) :
    Calls Tryz.prog 216 #[.int .u32 (x.toNat : Int), .int .i64 (-7)] w fun e w' => e = .returned (.int .u32 ((rorW x 7).toNat : Int)) ∧ w = w' := by
  have hx := x.toNat_lt
  have hb : bits BinOp.and IntKind.u64 (IntKind.u64.wrap (-7)) 31 = 25 := by decide
  have ho : bits BinOp.or IntKind.u32 ((x.toNat : Int) * 33554432 % 4294967296) ((x.toNat : Int) / 128) = ((rorW x 7).toNat : Int) := or_ror x 7 33554432 128 (by decide) (by decide)
  go_enter Tryz.func216, Tryz.ntmps216
  go_wp2
  go_ret
  exact ⟨rfl, rfl⟩
set_option maxHeartbeats 1000000 in
theorem ror7 (x : UInt32) (w : World) :
    Calls Tryz.prog 205 #[.int .u32 (x.toNat : Int), .int .i64 7] w fun e w' => e = .returned (.int .u32 ((rorW x 7).toNat : Int)) ∧ w = w' := by
  have hx := x.toNat_lt
  go_enter Tryz.func205, Tryz.ntmps205
  go_wp2_with (go_at_call 216; refine (rotl7 x _).mono ?_; rintro e w' ⟨rfl, rfl⟩)
  go_ret
  exact ⟨rfl, rfl⟩
set_option maxHeartbeats 1000000 in
theorem rotl11 (x : UInt32) (w : World) :
    Calls Tryz.prog 216 #[.int .u32 (x.toNat : Int), .int .i64 (-11)] w fun e w' => e = .returned (.int .u32 ((rorW x 11).toNat : Int)) ∧ w = w' := by
  have hx := x.toNat_lt
  have hb : bits BinOp.and IntKind.u64 (IntKind.u64.wrap (-11)) 31 = 21 := by decide
  have ho : bits BinOp.or IntKind.u32 ((x.toNat : Int) * 2097152 % 4294967296) ((x.toNat : Int) / 2048) = ((rorW x 11).toNat : Int) := or_ror x 11 2097152 2048 (by decide) (by decide)
  go_enter Tryz.func216, Tryz.ntmps216
  go_wp2
  go_ret
  exact ⟨rfl, rfl⟩
set_option maxHeartbeats 1000000 in
theorem ror11 (x : UInt32) (w : World) :
    Calls Tryz.prog 205 #[.int .u32 (x.toNat : Int), .int .i64 11] w fun e w' => e = .returned (.int .u32 ((rorW x 11).toNat : Int)) ∧ w = w' := by
  have hx := x.toNat_lt
  go_enter Tryz.func205, Tryz.ntmps205
  go_wp2_with (go_at_call 216; refine (rotl11 x _).mono ?_; rintro e w' ⟨rfl, rfl⟩)
  go_ret
  exact ⟨rfl, rfl⟩
set_option maxHeartbeats 1000000 in
theorem rotl13 (x : UInt32) (w : World) :
    Calls Tryz.prog 216 #[.int .u32 (x.toNat : Int), .int .i64 (-13)] w fun e w' => e = .returned (.int .u32 ((rorW x 13).toNat : Int)) ∧ w = w' := by
  have hx := x.toNat_lt
  have hb : bits BinOp.and IntKind.u64 (IntKind.u64.wrap (-13)) 31 = 19 := by decide
  have ho : bits BinOp.or IntKind.u32 ((x.toNat : Int) * 524288 % 4294967296) ((x.toNat : Int) / 8192) = ((rorW x 13).toNat : Int) := or_ror x 13 524288 8192 (by decide) (by decide)
  go_enter Tryz.func216, Tryz.ntmps216
  go_wp2
  go_ret
  exact ⟨rfl, rfl⟩
set_option maxHeartbeats 1000000 in
theorem ror13 (x : UInt32) (w : World) :
    Calls Tryz.prog 205 #[.int .u32 (x.toNat : Int), .int .i64 13] w fun e w' => e = .returned (.int .u32 ((rorW x 13).toNat : Int)) ∧ w = w' := by
  have hx := x.toNat_lt
  go_enter Tryz.func205, Tryz.ntmps205
  go_wp2_with (go_at_call 216; refine (rotl13 x _).mono ?_; rintro e w' ⟨rfl, rfl⟩)
  go_ret
  exact ⟨rfl, rfl⟩
set_option maxHeartbeats 1000000 in
theorem rotl17 (x : UInt32) (w : World) :
    Calls Tryz.prog 216 #[.int .u32 (x.toNat : Int), .int .i64 (-17)] w fun e w' => e = .returned (.int .u32 ((rorW x 17).toNat : Int)) ∧ w = w' := by
  have hx := x.toNat_lt
  have hb : bits BinOp.and IntKind.u64 (IntKind.u64.wrap (-17)) 31 = 15 := by decide
  have ho : bits BinOp.or IntKind.u32 ((x.toNat : Int) * 32768 % 4294967296) ((x.toNat : Int) / 131072) = ((rorW x 17).toNat : Int) := or_ror x 17 32768 131072 (by decide) (by decide)
  go_enter Tryz.func216, Tryz.ntmps216
  go_wp2
  go_ret
  exact ⟨rfl, rfl⟩
set_option maxHeartbeats 1000000 in
theorem ror17 (x : UInt32) (w : World) :
    Calls Tryz.prog 205 #[.int .u32 (x.toNat : Int), .int .i64 17] w fun e w' => e = .returned (.int .u32 ((rorW x 17).toNat : Int)) ∧ w = w' := by
  have hx := x.toNat_lt
  go_enter Tryz.func205, Tryz.ntmps205
  go_wp2_with (go_at_call 216; refine (rotl17 x _).mono ?_; rintro e w' ⟨rfl, rfl⟩)
  go_ret
  exact ⟨rfl, rfl⟩
set_option maxHeartbeats 1000000 in
theorem rotl18 (x : UInt32) (w : World) :
    Calls Tryz.prog 216 #[.int .u32 (x.toNat : Int), .int .i64 (-18)] w fun e w' => e = .returned (.int .u32 ((rorW x 18).toNat : Int)) ∧ w = w' := by
  have hx := x.toNat_lt
  have hb : bits BinOp.and IntKind.u64 (IntKind.u64.wrap (-18)) 31 = 14 := by decide
  have ho : bits BinOp.or IntKind.u32 ((x.toNat : Int) * 16384 % 4294967296) ((x.toNat : Int) / 262144) = ((rorW x 18).toNat : Int) := or_ror x 18 16384 262144 (by decide) (by decide)
  go_enter Tryz.func216, Tryz.ntmps216
  go_wp2
  go_ret
  exact ⟨rfl, rfl⟩
set_option maxHeartbeats 1000000 in
theorem ror18 (x : UInt32) (w : World) :
    Calls Tryz.prog 205 #[.int .u32 (x.toNat : Int), .int .i64 18] w fun e w' => e = .returned (.int .u32 ((rorW x 18).toNat : Int)) ∧ w = w' := by
  have hx := x.toNat_lt
  go_enter Tryz.func205, Tryz.ntmps205
  go_wp2_with (go_at_call 216; refine (rotl18 x _).mono ?_; rintro e w' ⟨rfl, rfl⟩)
  go_ret
  exact ⟨rfl, rfl⟩
set_option maxHeartbeats 1000000 in
theorem rotl19 (x : UInt32) (w : World) :
    Calls Tryz.prog 216 #[.int .u32 (x.toNat : Int), .int .i64 (-19)] w fun e w' => e = .returned (.int .u32 ((rorW x 19).toNat : Int)) ∧ w = w' := by
  have hx := x.toNat_lt
  have hb : bits BinOp.and IntKind.u64 (IntKind.u64.wrap (-19)) 31 = 13 := by decide
  have ho : bits BinOp.or IntKind.u32 ((x.toNat : Int) * 8192 % 4294967296) ((x.toNat : Int) / 524288) = ((rorW x 19).toNat : Int) := or_ror x 19 8192 524288 (by decide) (by decide)
  go_enter Tryz.func216, Tryz.ntmps216
  go_wp2
  go_ret
  exact ⟨rfl, rfl⟩
set_option maxHeartbeats 1000000 in
theorem ror19 (x : UInt32) (w : World) :
    Calls Tryz.prog 205 #[.int .u32 (x.toNat : Int), .int .i64 19] w fun e w' => e = .returned (.int .u32 ((rorW x 19).toNat : Int)) ∧ w = w' := by
  have hx := x.toNat_lt
  go_enter Tryz.func205, Tryz.ntmps205
  go_wp2_with (go_at_call 216; refine (rotl19 x _).mono ?_; rintro e w' ⟨rfl, rfl⟩)
  go_ret
  exact ⟨rfl, rfl⟩
set_option maxHeartbeats 1000000 in
theorem rotl22 (x : UInt32) (w : World) :
    Calls Tryz.prog 216 #[.int .u32 (x.toNat : Int), .int .i64 (-22)] w fun e w' => e = .returned (.int .u32 ((rorW x 22).toNat : Int)) ∧ w = w' := by
  have hx := x.toNat_lt
  have hb : bits BinOp.and IntKind.u64 (IntKind.u64.wrap (-22)) 31 = 10 := by decide
  have ho : bits BinOp.or IntKind.u32 ((x.toNat : Int) * 1024 % 4294967296) ((x.toNat : Int) / 4194304) = ((rorW x 22).toNat : Int) := or_ror x 22 1024 4194304 (by decide) (by decide)
  go_enter Tryz.func216, Tryz.ntmps216
  go_wp2
  go_ret
  exact ⟨rfl, rfl⟩
set_option maxHeartbeats 1000000 in
theorem ror22 (x : UInt32) (w : World) :
    Calls Tryz.prog 205 #[.int .u32 (x.toNat : Int), .int .i64 22] w fun e w' => e = .returned (.int .u32 ((rorW x 22).toNat : Int)) ∧ w = w' := by
  have hx := x.toNat_lt
  go_enter Tryz.func205, Tryz.ntmps205
  go_wp2_with (go_at_call 216; refine (rotl22 x _).mono ?_; rintro e w' ⟨rfl, rfl⟩)
  go_ret
  exact ⟨rfl, rfl⟩
set_option maxHeartbeats 1000000 in
theorem rotl25 (x : UInt32) (w : World) :
    Calls Tryz.prog 216 #[.int .u32 (x.toNat : Int), .int .i64 (-25)] w fun e w' => e = .returned (.int .u32 ((rorW x 25).toNat : Int)) ∧ w = w' := by
  have hx := x.toNat_lt
  have hb : bits BinOp.and IntKind.u64 (IntKind.u64.wrap (-25)) 31 = 7 := by decide
  have ho : bits BinOp.or IntKind.u32 ((x.toNat : Int) * 128 % 4294967296) ((x.toNat : Int) / 33554432) = ((rorW x 25).toNat : Int) := or_ror x 25 128 33554432 (by decide) (by decide)
  go_enter Tryz.func216, Tryz.ntmps216
  go_wp2
  go_ret
  exact ⟨rfl, rfl⟩
set_option maxHeartbeats 1000000 in
theorem ror25 (x : UInt32) (w : World) :
    Calls Tryz.prog 205 #[.int .u32 (x.toNat : Int), .int .i64 25] w fun e w' => e = .returned (.int .u32 ((rorW x 25).toNat : Int)) ∧ w = w' := by
  have hx := x.toNat_lt
  go_enter Tryz.func205, Tryz.ntmps205
  go_wp2_with (go_at_call 216; refine (rotl25 x _).mono ?_; rintro e w' ⟨rfl, rfl⟩)
  go_ret
  exact ⟨rfl, rfl⟩
theorem fourL_get (x : UInt32) : (fourL x).map (fun c => Value.int .u8 (c.toNat : Int)) = [.int .u8 ((x.toNat : Int) / 16777216), .int .u8 ((x.toNat : Int) / 65536 % 256), .int .u8 ((x.toNat : Int) / 256 % 256), .int .u8 ((x.toNat : Int) % 256)] := by
  have hx := w_lt x
  simp only [fourL, List.map_cons, List.map_nil, UInt8.toNat_ofNat']
  have e1 : ((x.toNat / 16777216 % 2 ^ 8 : Nat) : Int) = (x.toNat : Int) / 16777216 := by omega
  have e2 : ((x.toNat / 65536 % 2 ^ 8 : Nat) : Int) = (x.toNat : Int) / 65536 % 256 := by omega
  have e3 : ((x.toNat / 256 % 2 ^ 8 : Nat) : Int) = (x.toNat : Int) / 256 % 256 := by omega
  have e4 : ((x.toNat % 2 ^ 8 : Nat) : Int) = (x.toNat : Int) % 256 := by omega
  rw [e1, e2, e3, e4]
theorem conv_row {w : World} {b : Nat} {l : List UInt8} {c : Nat} {T : TypeId} {z : Nat × Nat} (h : w.heap[b]? = some (.cells (l.map (fun c => Value.int .u8 (c.toNat : Int))).toArray T z)) :
    (convert 101 9 (.slice (some ⟨b, 0, none⟩) l.length c)).run Tryz.prog w = .ok (.string ⟨l.toArray⟩) w :=
  run_convert_bytes_back w 101 9 5 _ c l Tryz.underlying101 Tryz.underlying5 Tryz.underlying9 (fun j hj => by
    rw [show (⟨b, 0, none⟩ : Addr).add j = ⟨b, j, none⟩ from by unfold Addr.add; split <;> simp_all, Lib.cell_of_heap h]
    simp [hj])
set_option maxHeartbeats 1000000 in
theorem four_any (x : UInt32) (w : World) :
    Calls Tryz.prog 172 #[.int .u32 (x.toNat : Int)] w fun e w' => e = .returned (.string ⟨(fourL x).toArray⟩) ∧ Below w.heap.size w w' := by
  have hx := x.toNat_lt
  have hc : (convert 101 9 (.slice (some ⟨w.heap.size, 0, none⟩) 4 4)).run Tryz.prog (w.alloc (Obj.cells #[.int .u8 ((x.toNat : Int) / 16777216), .int .u8 ((x.toNat : Int) / 65536 % 256), .int .u8 ((x.toNat : Int) / 256 % 256), .int .u8 ((x.toNat : Int) % 256)] 5)) = .ok (.string ⟨(fourL x).toArray⟩) _ :=
    conv_row (l := fourL x) (c := 4) (b := w.heap.size) (by rw [fourL_get]; exact Go.heap_alloc_new w _)
  go_enter Tryz.func172, Tryz.ntmps172
  go_wp2
  go_ret
  exact ⟨rfl, (Below.refl _ _).alloc (Nat.le_refl _) _⟩
end Go.Proofs.YtpggkfdijmnmiaaGreat.Hs
