/- A drawn region by a plan: what each operation gives, in whatever order its edges allow. General; no condition. A drawn region by a plan: reading what is known. General; no condition. What loads and fields give in the regions of the disk. No condition. -/
import Derived.Test.YtmoihgniglomiaaDoorZd02
set_option linter.unusedVariables false
set_option linter.unusedSimpArgs false
set_option maxRecDepth 100000
namespace Go.Proofs.YtmoihgniglomiaaDoor
open Go.RowKit Go.Sort
section
variable {P : Program} {ops : Array Oper} {Q : Exit → Act → World → Prop}
def maskB (ops : Array Oper) (M : List (List Nat)) : Bool := (List.range ops.size).all fun i => match ops[i]? with
  | some o => (M.getD i []).all fun c => o.after.any fun e => Region.binds .any e && (e.on == c || (M.getD e.on []).contains c)
  | none => true
def backB (ops : Array Oper) : Bool := (List.range ops.size).all fun i => match ops[i]? with
  | some o => o.after.all fun e => !Region.binds .any e || decide (e.on < i)
  | none => true
theorem backB_spec (hb : backB ops = true) {i : Nat} {o : Oper} (ho : ops[i]? = some o) {e : Edge} (he : e ∈ o.after) (hbe : Region.binds .any e = true) : e.on < i := by
  unfold backB at hb
  rw [List.all_eq_true] at hb
  have h1 := hb i (List.mem_range.2 (Array.getElem?_eq_some_iff.1 ho).1)
  rw [ho] at h1
  simp only [Array.all_eq_true, Bool.or_eq_true, Bool.not_eq_true', decide_eq_true_eq] at h1
  obtain ⟨q, hq, rfl⟩ := Array.mem_iff_getElem.1 he
  rcases h1 q hq with h2 | h2
  · rw [hbe] at h2; cases h2
  · exact h2
def Closed (ops : Array Oper) (l : Array Bool) : Prop := ∀ (i : Nat) (o : Oper), l.getD i false = true → ops[i]? = some o → ∀ e ∈ o.after, Region.binds .any e = true → l.getD e.on false = true
theorem anc_listed {M : List (List Nat)} (hM : maskB ops M = true) (hbw : backB ops = true) {l : Array Bool} (h : Closed ops l) : ∀ (n i c : Nat) (o : Oper), i < n → ops[i]? = some o → (∀ e ∈ o.after, Region.binds .any e = true → l.getD e.on false = true) → (M.getD i []).contains c = true → l.getD c false = true
  | 0, _, _, _, hi, _, _, _ => absurd hi (Nat.not_lt_zero _)
  | n + 1, i, c, o, hi, ho, hd, ha => by
    have h1 := hM
    unfold maskB at h1
    rw [List.all_eq_true] at h1
    have h2 := h1 i (List.mem_range.2 (Array.getElem?_eq_some_iff.1 ho).1)
    rw [ho] at h2
    simp only [List.all_eq_true] at h2
    have h3 := h2 c (by simpa using ha)
    simp only [Array.any_eq_true, Bool.and_eq_true, Bool.or_eq_true, beq_iff_eq] at h3
    obtain ⟨k, hk, hb, ha⟩ := h3
    have hl := hd _ (Array.getElem_mem hk) hb
    have hlt := backB_spec hbw ho (Array.getElem_mem hk) hb
    rcases ha with ha | ha
    · rw [← ha]; exact hl
    · have hin : (o.after[k]).on < ops.size := Nat.lt_trans hlt (Array.getElem?_eq_some_iff.1 ho).1
      exact anc_listed hM hbw h n _ c _ (by omega) (Array.getElem?_eq_getElem hin) (h _ _ hl (Array.getElem?_eq_getElem hin)) ha
def dstB (ops : Array Oper) (m : Nat) : Bool := (List.range ops.size).all fun i => (List.range ops.size).all fun j => match ops[i]?, ops[j]? with
  | some o, some o' => match o.dst with
    | none => true
    | some d => decide (d < m) && (i == j || o'.dst != some d)
  | _, _ => true
theorem dstB_spec {m : Nat} (h : dstB ops m = true) {i j : Nat} {o o' : Oper} {d : Tmp} (hi : ops[i]? = some o) (hj : ops[j]? = some o') (hd : o.dst = some d) : d < m ∧ (i = j ∨ o'.dst ≠ some d) := by
  unfold dstB at h
  rw [List.all_eq_true] at h
  have h1 := h i (List.mem_range.2 (Array.getElem?_eq_some_iff.1 hi).1)
  rw [List.all_eq_true] at h1
  have h2 := h1 j (List.mem_range.2 (Array.getElem?_eq_some_iff.1 hj).1)
  rw [hi, hj] at h2
  simp only [hd, Bool.and_eq_true, decide_eq_true_eq, Bool.or_eq_true, beq_iff_eq, bne_iff_ne, ne_eq] at h2
  exact h2
structure Tm (ops : Array Oper) (T0 : Array Value) (v : Nat → Value) (l : Array Bool) (T : Array Value) : Prop where
  size : T.size = T0.size
  come : ∀ (i : Nat) (o : Oper) (d : Tmp), l.getD i false = true → ops[i]? = some o → o.dst = some d → T.getD d undef = v i
  rest : ∀ (d : Tmp), (∀ (i : Nat) (o : Oper), l.getD i false = true → ops[i]? = some o → o.dst ≠ some d) → T.getD d undef = T0.getD d undef
theorem getD_set (T : Array Value) (d k : Nat) (x : Value) (hd : d < T.size) : (T.setIfInBounds d x).getD k undef = if k = d then x else T.getD k undef := by
  by_cases hk : k = d
  · subst hk
    simp [Array.getD, hd]
  · rw [if_neg hk]
    simp only [Array.getD]
    by_cases h : k < T.size
    · simp [h, Array.getElem_setIfInBounds, Ne.symm hk]
    · simp [h]
theorem getD_lset (l : Array Bool) (i k : Nat) (hi : l.getD i true = false) : (l.setIfInBounds i true).getD k false = if k = i then true else l.getD k false := by
  have hlt : i < l.size := by
    by_cases h : i < l.size
    · exact h
    · simp [Array.getD, h] at hi
  by_cases hk : k = i
  · subst hk
    simp [Array.getD, hlt]
  · rw [if_neg hk]
    simp only [Array.getD]
    by_cases h : k < l.size
    · simp [h, Array.getElem_setIfInBounds, Ne.symm hk]
    · simp [h]
theorem Tm.put {T0 T : Array Value} {v : Nat → Value} {l : Array Bool} (h : Tm ops T0 v l T) (hB : dstB ops T0.size = true) {i : Nat} {o : Oper} (ho : ops[i]? = some o) (hi : l.getD i true = false) (ds : List Deferred) : Tm ops T0 v (l.setIfInBounds i true) (Act.put ⟨T, ds⟩ o.dst (v i)).tmps := by
  unfold Act.put
  cases hd : o.dst with
  | none =>
    refine ⟨h.size, fun k o' d hl hk hd' => ?_, fun d hn => h.rest d fun k o' hl hk => hn k o' (by rw [getD_lset l i k hi]; split <;> simp_all) hk⟩
    rw [getD_lset l i k hi] at hl
    by_cases hki : k = i
    · subst hki
      rw [ho] at hk
      cases hk
      rw [hd] at hd'
      cases hd'
    · rw [if_neg hki] at hl
      exact h.come k o' d hl hk hd'
  | some d0 =>
    have hlt : d0 < T.size := by rw [h.size]; exact (dstB_spec hB ho ho hd).1
    refine ⟨by simp [h.size], fun k o' d hl hk hd' => ?_, fun d hn => ?_⟩
    · rw [getD_lset l i k hi] at hl
      show (T.setIfInBounds d0 (v i)).getD d undef = v k
      rw [getD_set T d0 d _ hlt]
      by_cases hki : k = i
      · subst hki
        rw [ho] at hk
        cases hk
        rw [hd] at hd'
        cases hd'
        rw [if_pos rfl]
      · rw [if_neg hki] at hl
        rw [if_neg (fun e => by
          subst e
          rcases (dstB_spec hB ho hk hd).2 with e | e
          · exact hki e.symm
          · exact e hd')]
        exact h.come k o' d hl hk hd'
    · show (T.setIfInBounds d0 (v i)).getD d undef = T0.getD d undef
      have hne : d ≠ d0 := fun e => hn i o (by rw [getD_lset l i i hi, if_pos rfl]) ho (by rw [hd, e])
      rw [getD_set T d0 d _ hlt, if_neg hne]
      exact h.rest d fun k o' hl hk => hn k o' (by rw [getD_lset l i k hi]; split <;> simp_all) hk
def planT (ops : Array Oper) (T0 : Array Value) (v : Nat → Value) : Nat → Array Value
  | 0 => T0
  | k + 1 => (Act.put ⟨planT ops T0 v k, []⟩ ((ops[k]?).bind (·.dst)) (v k)).tmps
theorem planT_tm {T0 : Array Value} {v : Nat → Value} (hB : dstB ops T0.size = true) : ∀ k, k ≤ ops.size → ∃ l : Array Bool, l.size = ops.size ∧ (∀ i, l.getD i false = true ↔ i < k) ∧ Tm ops T0 v l (planT ops T0 v k)
  | 0, _ => ⟨Array.replicate ops.size false, by simp, fun i => by
      simp only [Array.getD]
      by_cases h : i < ops.size <;> simp [h], ⟨rfl, fun i o d hl _ _ => by
      simp only [Array.getD] at hl
      by_cases h : i < ops.size <;> simp [h] at hl, fun d _ => rfl⟩⟩
  | k + 1, hk => by
    obtain ⟨l, hs, hl, ht⟩ := planT_tm (v := v) hB k (by omega)
    obtain ⟨o, ho⟩ : ∃ o, ops[k]? = some o := ⟨_, Array.getElem?_eq_getElem (by omega)⟩
    have hkf : l.getD k true = false := by
      have h1 : k < l.size := by omega
      have h2 := (hl k)
      simp only [Array.getD, h1, dif_pos] at h2 ⊢
      simpa using h2
    refine ⟨l.setIfInBounds k true, by simp [hs], fun i => ?_, ?_⟩
    · rw [getD_lset l k i hkf]
      split
      · simp; omega
      · rw [hl i]; omega
    · have := ht.put hB ho hkf []
      unfold planT
      rw [ho]
      exact this
theorem tm_ext {T T' : Array Value} (hs : T.size = T'.size) (h : ∀ d, T.getD d undef = T'.getD d undef) : T = T' := by
  apply Array.ext hs
  intro i h1 h2
  have := h i
  simpa [Array.getD, h1, h2] using this
theorem Tm.all {T0 T : Array Value} {v : Nat → Value} {l : Array Bool} (h : Tm ops T0 v l T) (hB : dstB ops T0.size = true) (hl : ∀ i, i < ops.size → l.getD i false = true) : T = planT ops T0 v ops.size := by
  obtain ⟨l', hs', hl', ht'⟩ := planT_tm (ops := ops) (v := v) hB ops.size (Nat.le_refl _)
  refine tm_ext (by rw [h.size, ht'.size]) fun d => ?_
  by_cases hd : ∃ (i : Nat) (o : Oper), ops[i]? = some o ∧ o.dst = some d
  · obtain ⟨i, o, ho, hd⟩ := hd
    have hi := (Array.getElem?_eq_some_iff.1 ho).1
    rw [h.come i o d (hl i hi) ho hd, ht'.come i o d ((hl' i).2 hi) ho hd]
  · rw [h.rest d fun i o _ ho hd' => hd ⟨i, o, ho, hd'⟩, ht'.rest d fun i o _ ho hd' => hd ⟨i, o, ho, hd'⟩]
def upd (y : Nat → Value) (c : Nat) (v : Value) : Nat → Value := fun k => if k = c then v else y k
def Known (ops : Array Oper) (T0 : Array Value) (v : Nat → Value) (o : Oper) (T : Array Value) : Prop :=
  (∀ e ∈ o.after, Region.binds .any e = true → ∀ (o' : Oper) (d : Tmp), ops[e.on]? = some o' → o'.dst = some d → T.getD d undef = v e.on) ∧ (∀ d : Tmp, (∀ (k : Nat) (o' : Oper), ops[k]? = some o' → o'.dst ≠ some d) → T.getD d undef = T0.getD d undef)
def updB (d : Nat → Bool) (c : Nat) : Nat → Bool := fun k => if k = c then true else d k
def Pin (ops : Array Oper) (T0 : Array Value) (ds : List Deferred) (cs : List Nat) (vs : (Nat → Value) → Nat → Value) (PW : (Nat → Bool) → (Nat → Value) → World → Prop) (l : Array Bool) (a : Act) (w : World) : Prop :=
  ∃ y d, l.size = ops.size ∧ Closed ops l ∧ (∀ c ∈ cs, l.getD c false = d c) ∧ a.defers = ds ∧ Tm ops T0 (vs y) l a.tmps ∧ PW d y w
theorem closed_set {l : Array Bool} (h : Closed ops l) {i : Nat} {o : Oper} (ho : ops[i]? = some o) (hi : l.getD i true = false) (hd : ∀ e ∈ o.after, Region.binds .any e = true → l.getD e.on false = true) : Closed ops (l.setIfInBounds i true) := fun k o' hk ho' e he hb => by
  rw [getD_lset l i _ hi]
  split
  · rfl
  · rw [getD_lset l i k hi] at hk
    by_cases hki : k = i
    · subst hki
      rw [ho] at ho'
      cases ho'
      exact hd e he hb
    · rw [if_neg hki] at hk
      exact h k o' hk ho' e he hb
theorem all_listed (hb : backB ops = true) {l : Array Bool} (hs : l.size = ops.size) (hr : Region.ready .any ops l = []) : left l = 0 := by
  have hall : ∀ k, ∀ i, i < k → i < ops.size → l.getD i false = true := fun k => by
    induction k with
    | zero => intro i hi; omega
    | succ k ih =>
      intro i hi hin
      cases hli : l.getD i false
      · exfalso
        have ho := Array.getElem?_eq_getElem hin
        refine List.eq_nil_iff_forall_not_mem.1 hr i (mem_ready.2 ⟨?_, _, ho, fun e he hbe => ?_⟩)
        · simpa [Array.getD, hs, hin] using hli
        · unfold backB at hb
          rw [List.all_eq_true] at hb
          have h1 := hb i (List.mem_range.2 hin)
          rw [ho] at h1
          simp only [Array.all_eq_true, Bool.or_eq_true, Bool.not_eq_true', decide_eq_true_eq] at h1
          obtain ⟨q, hq, rfl⟩ := Array.mem_iff_getElem.1 he
          rcases h1 q hq with h2 | h2
          · rw [hbe] at h2; cases h2
          · exact ih _ (by omega) (by omega)
      · rfl
  unfold left
  rw [List.length_eq_zero_iff, List.filter_eq_nil_iff]
  intro x hx
  obtain ⟨i, hi, rfl⟩ := List.mem_iff_getElem.1 hx
  have h1 : i < l.size := by simpa using hi
  have := hall (i + 1) i (by omega) (by omega)
  simp only [Array.getD, h1, dif_pos] at this
  simpa using this
theorem getD_tf {l : Array Bool} {i : Nat} (h : l.getD i true = false) : l.getD i false = false := by
  simp only [Array.getD] at h ⊢
  split at h <;> simp_all
def Plain (P : Program) (ops : Array Oper) (Q : Exit → Act → World → Prop) (T0 : Array Value) (ds : List Deferred) (cs : List Nat) (M : List (List Nat)) (vs : (Nat → Value) → Nat → Value) (PW : (Nat → Bool) → (Nat → Value) → World → Prop) (i : Nat) : Prop :=
  ∀ o, ops[i]? = some o → i ∉ cs → ∀ d y T w', (∀ c' ∈ cs, (M.getD i []).contains c' = true → d c' = true) → Known ops T0 (vs y) o T → PW d y w' → wpOp P ops Q i (fun a' w'' => a' = Act.put ⟨T, ds⟩ o.dst (vs y i) ∧ w'' = w') ⟨T, ds⟩ w'
def Chg (P : Program) (ops : Array Oper) (Q : Exit → Act → World → Prop) (T0 : Array Value) (ds : List Deferred) (cs : List Nat) (M : List (List Nat)) (vs : (Nat → Value) → Nat → Value) (PW : (Nat → Bool) → (Nat → Value) → World → Prop) (c : Nat) : Prop :=
  ∀ o, ops[c]? = some o → ∀ d y T w', d c = false → (∀ c' ∈ cs, (M.getD c []).contains c' = true → d c' = true) → (∀ c' ∈ cs, (M.getD c' []).contains c = true → d c' = false) → Known ops T0 (vs y) o T → PW d y w' → wpOp P ops Q c (fun a' w'' => ∃ v, a' = Act.put ⟨T, ds⟩ o.dst (vs (upd y c v) c) ∧ PW (updB d c) (upd y c v) w'') ⟨T, ds⟩ w'
theorem wp_plan {id : Nat} (hm : P.follows .mixedOrders = true) (T0 : Array Value) (ds : List Deferred) (cs : List Nat) (M : List (List Nat)) (vs : (Nat → Value) → Nat → Value) (PW : (Nat → Bool) → (Nat → Value) → World → Prop) (w : World)
    (hB : dstB ops T0.size = true) (hbw : backB ops = true) (hM : maskB ops M = true) (hcin : ∀ c ∈ cs, c < ops.size)
    (hfix : ∀ c ∈ cs, ∀ i, i ≠ c → (M.getD i []).contains c = false → ∀ y v, vs (upd y c v) i = vs y i)
    (hplain : ∀ i, i < ops.size → Plain P ops Q T0 ds cs M vs PW i)
    (hchg : ∀ c ∈ cs, Chg P ops Q T0 ds cs M vs PW c)
    (h0 : ∃ y, PW (fun _ => false) y w.drew)
    (hfin : ∀ d y w', (∀ c ∈ cs, d c = true) → PW d y w' → Q .normal ⟨planT ops T0 (vs y) ops.size, ds⟩ w') :
    (Code.region id ops true).wp P Q ⟨T0, ds⟩ w := by
  refine wp_region_any hm ?_
  have hrep : ∀ i, (Array.replicate ops.size false).getD i false = false := fun i => by
    simp only [Array.getD]
    by_cases h : i < ops.size <;> simp [h]
  refine wpAny_inv2 (I := Pin ops T0 ds cs vs PW) (g := 0) (fun l a w1 hI hr => ?_) (fun l a w1 hI _ i hi => ?_) (fun l a w1 hI hl => ?_) ops.size _ _ _ (by simp [left]) (Nat.zero_le _) ?_
  · obtain ⟨y, d, h1, h2, _⟩ := hI
    exact all_listed hbw h1 hr
  · obtain ⟨y, d, h1, h2, h3, h5, h6, h7⟩ := hI
    obtain ⟨T, ds'⟩ := a
    simp only at h5 h6
    subst h5
    rw [mem_ready] at hi
    obtain ⟨hu, o, ho, hd⟩ := hi
    have hul := getD_tf hu
    have hkn : Known ops T0 (vs y) o T := ⟨fun e he hb o' d ho' hd' => h6.come e.on o' d (hd e he hb) ho' hd', fun d hn => h6.rest d fun k o' _ ho' => hn k o' ho'⟩
    by_cases hic : i ∈ cs
    · refine wpOp_mono (fun a' w'' hx => ?_) (hchg i hic o ho d y T w1 (by rw [← h3 i hic]; exact hul) (fun c' hc' ha => ?_) (fun c' hc' ha => ?_) hkn h7)
      · obtain ⟨v, rfl, hpw⟩ := hx
        have hsame : Tm ops T0 (vs (upd y i v)) l T := ⟨h6.size, (fun k o' d hl hk hd' => by
          rw [h6.come k o' d hl hk hd']
          refine (hfix i hic k (fun e => ?_) ?_ y v).symm
          · subst e
            rw [hul] at hl
            cases hl
          · cases ha : (M.getD k []).contains i
            · rfl
            · have := anc_listed hM hbw h2 (k + 1) k i o' (Nat.lt_succ_self k) hk (fun e he hb => h2 k o' hl hk e he hb) ha
              rw [hul] at this
              exact absurd this (by decide)), h6.rest⟩
        refine ⟨upd y i v, updB d i, by simp [h1], closed_set h2 ho hu hd, fun c hc => ?_, by unfold Act.put; split <;> rfl, hsame.put hB ho hu ds', hpw⟩
        rw [getD_lset l i c hu]
        unfold updB
        split
        · rfl
        · exact h3 c hc
      · rw [← h3 c' hc']
        exact anc_listed hM hbw h2 (i + 1) i c' o (Nat.lt_succ_self i) ho hd ha
      · rw [← h3 c' hc']
        cases hl : l.getD c' false
        · rfl
        · have ho' := Array.getElem?_eq_getElem (hcin c' hc')
          have := anc_listed hM hbw h2 (c' + 1) c' i _ (Nat.lt_succ_self c') ho' (fun e he hb => h2 c' _ hl ho' e he hb) ha
          rw [hul] at this
          cases this
    · refine wpOp_mono (fun a' w'' hx => ?_) (hplain i (Array.getElem?_eq_some_iff.1 ho).1 o ho hic d y T w1 (fun c' hc' ha => by rw [← h3 c' hc']; exact anc_listed hM hbw h2 (i + 1) i c' o (Nat.lt_succ_self i) ho hd ha) hkn h7)
      obtain ⟨rfl, rfl⟩ := hx
      refine ⟨y, d, by simp [h1], closed_set h2 ho hu hd, fun c hc => ?_, by unfold Act.put; split <;> rfl, h6.put hB ho hu ds', h7⟩
      rw [getD_lset l i c hu, if_neg (fun (e : c = i) => hic (by rw [← e]; exact hc)), h3 c hc]
  · obtain ⟨y, d, h1, h2, h3, h5, h6, h7⟩ := hI
    obtain ⟨T, ds'⟩ := a
    simp only at h5 h6
    subst h5
    have hall : ∀ i, i < ops.size → l.getD i false = true := fun i hi => by
      have := left_zero hl (l[i]'(by omega)) (Array.getElem_mem _)
      simpa [Array.getD, h1, hi] using this
    have hT := h6.all hB hall
    subst hT
    refine ⟨?_, hfin d y w1 (fun c hc => by rw [← h3 c hc]; exact hall c (hcin c hc)) h7⟩
    apply List.eq_nil_iff_forall_not_mem.2
    intro i hi
    rw [mem_ready] at hi
    obtain ⟨hu, o, ho, _⟩ := hi
    have := hall i (Array.getElem?_eq_some_iff.1 ho).1
    rw [getD_tf hu] at this
    cases this
  · obtain ⟨y, hy⟩ := h0
    refine ⟨y, fun _ => false, by simp, fun i o hl _ _ _ _ => (by rw [hrep] at hl; cases hl), fun c hc => hrep c, rfl, ⟨rfl, fun i o d hl _ _ => (by rw [hrep] at hl; cases hl), fun d _ => rfl⟩, hy⟩
def tailB (n m : Nat) (A : List (List Nat)) : Bool := (List.range n).all fun i => decide (i < m) || (List.range m).all fun k => (A.getD i []).contains k
theorem tail_split {l : Array Bool} {n m : Nat} (hs : l.size = n) (hm : m ≤ n) (ht : ∀ i, m ≤ i → i < n → l.getD i true = false) : l = l.extract 0 m ++ Array.replicate (n - m) false := by
  apply Array.ext
  · simp; omega
  · intro i h1 h2
    rw [Array.getElem_append]
    split
    · rename_i h; simp
    · rename_i h
      have hi : m ≤ i := by simp at h; omega
      have := ht i hi (by omega)
      simpa [Array.getD, h1] using this
theorem tail_left {l : Array Bool} {n m : Nat} (hs : l.size = n) (hm : m ≤ n) (ht : ∀ i, m ≤ i → i < n → l.getD i true = false) : left l = n - m ↔ ∀ i, i < m → l.getD i false = true := by
  have e : left l = left (l.extract 0 m) + (n - m) := by
    have h := congrArg left (tail_split hs hm ht)
    rw [left_count] at h
    exact h
  rw [e]
  have hg : ∀ i (hi : i < m), l.getD i false = (l.extract 0 m)[i]'(by simp; omega) := fun i hi => by
    have h1 : i < l.size := by omega
    simp [Array.getD, h1]
  constructor
  · intro h i hi
    have hz : left (l.extract 0 m) = 0 := by omega
    rw [hg i hi]
    exact left_zero hz _ (Array.getElem_mem _)
  · intro h
    suffices hz : left (l.extract 0 m) = 0 by omega
    unfold left
    rw [List.length_eq_zero_iff, List.filter_eq_nil_iff]
    intro x hx
    obtain ⟨i, hi, rfl⟩ := List.mem_iff_getElem.1 hx
    have h1 : i < (l.extract 0 m).size := by simpa using hi
    have h3 : i < m := by simp at h1; omega
    have h2 := h i h3
    rw [hg i h3] at h2
    simpa using h2
theorem wp_planT {id : Nat} (hm : P.follows .mixedOrders = true) (T0 : Array Value) (ds : List Deferred) (m : Nat) (A : List (List Nat)) (cs : List Nat) (M : List (List Nat)) (vs : (Nat → Value) → Nat → Value) (PW : (Nat → Bool) → (Nat → Value) → World → Prop) (w : World)
    (hB : dstB ops T0.size = true) (hbw : backB ops = true) (hM : maskB ops M = true) (hA : maskB ops A = true) (hmn : m ≤ ops.size) (hT : tailB ops.size m A = true) (hseq : Region.seqB .any ops (ops.size - m) m (Array.replicate m true ++ Array.replicate (ops.size - m) false) = true) (hcin : ∀ c ∈ cs, c < m)
    (hfix : ∀ c ∈ cs, ∀ i, i ≠ c → (M.getD i []).contains c = false → ∀ y v, vs (upd y c v) i = vs y i)
    (hplain : ∀ i, i < m → Plain P ops Q T0 ds cs M vs PW i)
    (hchg : ∀ c ∈ cs, Chg P ops Q T0 ds cs M vs PW c)
    (h0 : ∃ y, PW (fun _ => false) y w.drew)
    (hfin : ∀ d y w', (∀ c ∈ cs, d c = true) → PW d y w' → wpList P ops Q (ops.toList.drop m) ⟨planT ops T0 (vs y) m, ds⟩ w') :
    (Code.region id ops true).wp P Q ⟨T0, ds⟩ w := by
  refine wp_region_any hm ?_
  have hrep : ∀ i, (Array.replicate ops.size false).getD i false = false := fun i => by
    simp only [Array.getD]
    by_cases h : i < ops.size <;> simp [h]
  refine wpAny_inv2 (I := fun l a w => Pin ops T0 ds cs vs PW l a w ∧ ∀ i, m ≤ i → i < ops.size → l.getD i true = false) (g := ops.size - m) (fun l a w1 hI hr => ?_) (fun l a w1 hI hlt i hi => ?_) (fun l a w1 hI hl => ?_) ops.size _ _ _ (by simp [left]) (Nat.sub_le _ _) ?_
  · obtain ⟨⟨y, d, h1, h2, _⟩, ht⟩ := hI
    have hz := all_listed hbw h1 hr
    have := tail_split h1 hmn ht
    rw [this, left_count] at hz
    rw [this, left_count]
    omega
  · obtain ⟨⟨y, d, h1, h2, h3, h5, h6, h7⟩, ht⟩ := hI
    obtain ⟨T, ds'⟩ := a
    simp only at h5 h6
    subst h5
    rw [mem_ready] at hi
    obtain ⟨hu, o, ho, hd⟩ := hi
    have hul := getD_tf hu
    have hin := (Array.getElem?_eq_some_iff.1 ho).1
    have him : i < m := by
      rcases Nat.lt_or_ge i m with h | h
      · exact h
      · refine absurd ((tail_left h1 hmn ht).2 fun k hk => ?_) hlt
        have hT1 := hT
        unfold tailB at hT1
        rw [List.all_eq_true] at hT1
        have h8 := hT1 i (List.mem_range.2 hin)
        rw [Bool.or_eq_true, List.all_eq_true] at h8
        rcases h8 with h8 | h8
        · simp at h8; omega
        · exact anc_listed hA hbw h2 (i + 1) i k o (Nat.lt_succ_self i) ho hd (h8 k (List.mem_range.2 hk))
    have htl : ∀ k, m ≤ k → k < ops.size → (l.setIfInBounds i true).getD k true = false := fun k h8 h9 => by
      have h10 := ht k h8 h9
      have hne : k ≠ i := by omega
      simpa [Array.getD, h1, h9, Array.getElem_setIfInBounds, Ne.symm hne] using h10
    have hkn : Known ops T0 (vs y) o T := ⟨fun e he hb o' d ho' hd' => h6.come e.on o' d (hd e he hb) ho' hd', fun d hn => h6.rest d fun k o' _ ho' => hn k o' ho'⟩
    by_cases hic : i ∈ cs
    · refine wpOp_mono (fun a' w'' hx => ⟨?_, htl⟩) (hchg i hic o ho d y T w1 (by rw [← h3 i hic]; exact hul) (fun c' hc' ha => ?_) (fun c' hc' ha => ?_) hkn h7)
      · obtain ⟨v, rfl, hpw⟩ := hx
        have hsame : Tm ops T0 (vs (upd y i v)) l T := ⟨h6.size, (fun k o' d hl hk hd' => by
          rw [h6.come k o' d hl hk hd']
          refine (hfix i hic k (fun e => ?_) ?_ y v).symm
          · subst e
            rw [hul] at hl
            cases hl
          · cases ha : (M.getD k []).contains i
            · rfl
            · have := anc_listed hM hbw h2 (k + 1) k i o' (Nat.lt_succ_self k) hk (fun e he hb => h2 k o' hl hk e he hb) ha
              rw [hul] at this
              exact absurd this (by decide)), h6.rest⟩
        refine ⟨upd y i v, updB d i, by simp [h1], closed_set h2 ho hu hd, fun c hc => ?_, by unfold Act.put; split <;> rfl, hsame.put hB ho hu ds', hpw⟩
        rw [getD_lset l i c hu]
        unfold updB
        split
        · rfl
        · exact h3 c hc
      · rw [← h3 c' hc']
        exact anc_listed hM hbw h2 (i + 1) i c' o (Nat.lt_succ_self i) ho hd ha
      · rw [← h3 c' hc']
        cases hl : l.getD c' false
        · rfl
        · have ho' := Array.getElem?_eq_getElem (Nat.lt_of_lt_of_le (hcin c' hc') hmn)
          have := anc_listed hM hbw h2 (c' + 1) c' i _ (Nat.lt_succ_self c') ho' (fun e he hb => h2 c' _ hl ho' e he hb) ha
          rw [hul] at this
          cases this
    · refine wpOp_mono (fun a' w'' hx => ⟨?_, htl⟩) (hplain i him o ho hic d y T w1 (fun c' hc' ha => by rw [← h3 c' hc']; exact anc_listed hM hbw h2 (i + 1) i c' o (Nat.lt_succ_self i) ho hd ha) hkn h7)
      obtain ⟨rfl, rfl⟩ := hx
      refine ⟨y, d, by simp [h1], closed_set h2 ho hu hd, fun c hc => ?_, by unfold Act.put; split <;> rfl, h6.put hB ho hu ds', h7⟩
      rw [getD_lset l i c hu, if_neg (fun (e : c = i) => hic (by rw [← e]; exact hc)), h3 c hc]
  · obtain ⟨⟨y, d, h1, h2, h3, h5, h6, h7⟩, ht⟩ := hI
    obtain ⟨T, ds'⟩ := a
    simp only at h5 h6
    subst h5
    have hall := (tail_left h1 hmn ht).1 hl
    obtain ⟨l', hs', hl', ht'⟩ := planT_tm (ops := ops) (v := vs y) hB m hmn
    have hiff : ∀ i, l.getD i false = true ↔ i < m := fun i => ⟨fun h => by
      rcases Nat.lt_or_ge i m with h8 | h8
      · exact h8
      · rcases Nat.lt_or_ge i ops.size with h9 | h9
        · rw [getD_tf (ht i h8 h9)] at h; cases h
        · simp [Array.getD, h1, Nat.not_lt.2 h9] at h, hall i⟩
    have hT : T = planT ops T0 (vs y) m := by
      refine tm_ext (by rw [h6.size, ht'.size]) fun d => ?_
      by_cases hd : ∃ (i : Nat) (o : Oper), i < m ∧ ops[i]? = some o ∧ o.dst = some d
      · obtain ⟨i, o, hi, ho, hd⟩ := hd
        rw [h6.come i o d (hall i hi) ho hd, ht'.come i o d ((hl' i).2 hi) ho hd]
      · rw [h6.rest d fun i o hi ho hd' => hd ⟨i, o, (hiff i).1 hi, ho, hd'⟩, ht'.rest d fun i o hi ho hd' => hd ⟨i, o, (hl' i).1 hi, ho, hd'⟩]
    subst hT
    have hle : l = Array.replicate m true ++ Array.replicate (ops.size - m) false := by
      apply Array.ext
      · simp [h1]; omega
      · intro i h8 h9
        rw [Array.getElem_append]
        split
        · rename_i h
          have := hall i (by simpa using h)
          simpa [Array.getD, h8] using this
        · rename_i h
          have := ht i (by simp at h; omega) (by omega)
          simpa [Array.getD, h8] using this
    have hlen : (ops.toList.drop m).length = ops.size - m := by simp
    rw [hle]
    have hw := hfin d y w1 (fun c hc => by rw [← h3 c hc]; exact hall c (hcin c hc)) h7
    have hq := wpAny_of_seq (md := .any) (ops.toList.drop m) m (Array.replicate m true ++ Array.replicate (ops.size - m) false) _ _ (fun j => by simp [List.getElem?_drop]) (by rw [hlen]; exact hseq) hw
    rw [hlen] at hq
    exact hq
  · obtain ⟨y, hy⟩ := h0
    refine ⟨⟨y, fun _ => false, by simp, fun i o hl _ _ _ _ => (by rw [hrep] at hl; cases hl), fun c hc => hrep c, rfl, ⟨rfl, fun i o d hl _ _ => (by rw [hrep] at hl; cases hl), fun d _ => rfl⟩, hy⟩, fun i _ hi => by simp [Array.getD, hi]⟩
end
section
variable {P : Program} {ops : Array Oper} {Q : Exit → Act → World → Prop}
theorem wpOp_skip {i : Nat} {o : Oper} {K : Act → World → Prop} {a : Act} {w : World} (hi : ops[i]? = some o) (hg : Region.wanted o (yielded ops a.tmps) = false) (h : K (a.put o.dst undef) w) : wpOp P ops Q i K a w := by
  unfold wpOp
  simp only [hi]
  rw [if_neg (by simp [hg])]
  exact h
def readsB (ops : Array Oper) (i d k : Nat) : Bool := match ops[i]?, ops[k]? with
  | some o, some o' => o'.dst == some d && o.after.any fun e => e.on == k && Region.binds .any e
  | _, _ => false
def freeB (ops : Array Oper) (d : Nat) : Bool := ops.all fun o => o.dst != some d
theorem Known.val {T0 T : Array Value} {v : Nat → Value} {o : Oper} {i d k : Nat} (h : Known ops T0 v o T) (ho : ops[i]? = some o) (hr : readsB ops i d k = true) : T.getD d undef = v k := by
  unfold readsB at hr
  rw [ho] at hr
  cases hk : ops[k]? with
  | none => rw [hk] at hr; cases hr
  | some o' =>
    rw [hk] at hr
    simp only [Bool.and_eq_true, beq_iff_eq, Array.any_eq_true] at hr
    obtain ⟨hd, m, hm, he, hb⟩ := hr
    have := h.1 _ (Array.getElem_mem hm) hb o' d (by rw [he]; exact hk) hd
    rw [he] at this
    exact this
theorem Known.old {T0 T : Array Value} {v : Nat → Value} {o : Oper} {d : Nat} (h : Known ops T0 v o T) (hf : freeB ops d = true) : T.getD d undef = T0.getD d undef := by
  refine h.2 d fun k o' hk hd => ?_
  unfold freeB at hf
  rw [Array.all_eq_true] at hf
  obtain ⟨h1, h2⟩ := Array.getElem?_eq_some_iff.1 hk
  have := hf k h1
  rw [h2, hd] at this
  simp at this
theorem op_core {i : Nat} {o : Oper} {dst : Option Tmp} {op : Go.Op} {ty : TypeId} {gd : Option (Nat × Bool)} (h : (ops[i]?).map (fun o => (o.dst, o.op, o.type, o.guard)) = some (dst, op, ty, gd)) (ho : ops[i]? = some o) : ∃ ps af, o = ⟨dst, op, ty, ps, af, gd⟩ := by
  rw [ho] at h
  obtain ⟨a, b, c, d, e, f⟩ := o
  simp only [Option.map_some, Option.some.injEq, Prod.mk.injEq] at h
  obtain ⟨rfl, rfl, rfl, rfl⟩ := h
  exact ⟨_, _, rfl⟩
theorem Known.is {T0 T : Array Value} {v : Nat → Value} {o : Oper} {i d : Nat} {x : Value} (h : Known ops T0 v o T) (k : Nat) (ho : ops[i]? = some o) (hr : readsB ops i d k = true) (hx : v k = x) : T.getD d undef = x := (h.val ho hr).trans hx
theorem Known.of {T0 T : Array Value} {v : Nat → Value} {o : Oper} {d : Nat} {x : Value} (h : Known ops T0 v o T) (hf : freeB ops d = true) (hx : T0.getD d undef = x) : T.getD d undef = x := (h.old hf).trans hx
theorem core {i : Nat} {o : Oper} (dst : Option Tmp) (op : Go.Op) (ty : TypeId) (gd : Option (Nat × Bool)) (ho : ops[i]? = some o) (h : (ops[i]?).map (fun o => (o.dst, o.op, o.type, o.guard)) = some (dst, op, ty, gd)) : ∃ ps af, o = ⟨dst, op, ty, ps, af, gd⟩ := op_core h ho
theorem getD_some {T : Array Value} {d : Nat} {v : Value} (h : T.getD d undef = v) (hv : v ≠ undef) : T[d]? = some v := by
  simp only [Array.getD] at h
  by_cases hd : d < T.size
  · simp only [hd, dif_pos] at h
    rw [Array.getElem?_eq_getElem hd]
    exact congrArg some h
  · simp only [hd, dif_neg, not_false_eq_true] at h
    exact absurd h.symm hv
theorem wanted_of {o : Oper} {T : Array Value} {j d : Nat} {b wb : Bool} (hg : o.guard = some (j, wb)) (hd : (ops[j]?).bind (·.dst) = some d) (hT : T.getD d undef = .bool b) : Region.wanted o (yielded ops T) = (b == wb) := by
  unfold Region.wanted yielded
  rw [hg]
  simp only [hd, Option.bind_some, getD_some hT (by intro h; cases h)]
  cases b <;> cases wb <;> rfl
theorem wpOp_want {i : Nat} {o : Oper} {K : Act → World → Prop} {a : Act} {w : World} (hi : ops[i]? = some o) (hg : Region.wanted o (yielded ops a.tmps) = true) (h : o.wp P a w K Q) : wpOp P ops Q i K a w := by
  unfold wpOp
  simp only [hi]
  rw [if_pos hg]
  exact .inl h
theorem wpOp_plain {i : Nat} {o : Oper} {K : Act → World → Prop} {a : Act} {w : World} (hi : ops[i]? = some o) (hg : o.guard = none) (h : o.wp P a w K Q) : wpOp P ops Q i K a w := by
  unfold wpOp
  simp only [hi]
  rw [if_pos (by unfold Region.wanted; rw [hg])]
  exact .inl h
theorem all_step {F : Nat → Prop} {n : Nat} (h : ∀ i, i < n → F i) (hn : F n) : ∀ i, i < n + 1 → F i := fun i hi => by
  rcases Nat.lt_succ_iff_lt_or_eq.1 hi with h1 | rfl
  · exact h i h1
  · exact hn
theorem all_zero {F : Nat → Prop} : ∀ i, i < 0 → F i := fun i hi => absurd hi (Nat.not_lt_zero i)
def mkV (V : List ((Nat × (Value → Value)) ⊕ Value)) (y : Nat → Value) (i : Nat) : Value := match V[i]? with
  | some (.inl (k, g)) => g (y k)
  | some (.inr v) => v
  | none => undef
def depB (M : List (List Nat)) (V : List ((Nat × (Value → Value)) ⊕ Value)) : Bool := (List.range V.length).all fun i => match V[i]? with
  | some (.inl (k, _)) => i == k || (M.getD i []).contains k
  | _ => true
theorem mkV_fix {M : List (List Nat)} {V : List ((Nat × (Value → Value)) ⊕ Value)} (h : depB M V = true) {i c : Nat} (hi : i ≠ c) (ha : (M.getD i []).contains c = false) (y : Nat → Value) (v : Value) : mkV V (upd y c v) i = mkV V y i := by
  unfold mkV
  cases hv : V[i]? with
  | none => rfl
  | some x =>
    cases x with
    | inr z => rfl
    | inl kg =>
      obtain ⟨k, g⟩ := kg
      show g (upd y c v k) = g (y k)
      refine congrArg g ?_
      unfold upd
      rw [if_neg fun e => ?_]
      subst e
      unfold depB at h
      rw [List.all_eq_true] at h
      have := h i (List.mem_range.2 (List.getElem?_eq_some_iff.1 hv).1)
      rw [hv] at this
      simp only [Bool.or_eq_true, beq_iff_eq] at this
      rcases this with e | e
      · exact hi e
      · rw [ha] at e
        cases e
theorem all_stepr {F : Nat → Prop} {a n : Nat} (h : ∀ i, a ≤ i → i < n → F i) (hn : F n) : ∀ i, a ≤ i → i < n + 1 → F i := fun i ha hi => by
  rcases Nat.lt_succ_iff_lt_or_eq.1 hi with h1 | rfl
  · exact h i ha h1
  · exact hn
theorem all_zeror {F : Nat → Prop} {a : Nat} : ∀ i, a ≤ i → i < a → F i := fun i ha hi => absurd hi (Nat.not_lt.2 ha)
section
variable {T0 T : Array Value} {W : List ((Nat × (Value → Value)) ⊕ Value)} {y : Nat → Value} {o : Oper} {i : Nat} {ds : List Deferred} {w : World}
theorem pl1 (dst s k : Nat) (ty : TypeId) {op : Go.Op} {x v : Value} (ho : ops[i]? = some o) (hK : Known ops T0 (mkV W y) o T) (hc : (ops[i]?).map (fun o => (o.dst, o.op, o.type, o.guard)) = some (some dst, op, ty, none)) (hr : readsB ops i s k = true) (hk : mkV W y k = x) (hi : mkV W y i = v) (h : ∀ ps af, T.getD s undef = x → Oper.wp P ⟨some dst, op, ty, ps, af, none⟩ ⟨T, ds⟩ w (fun a' w'' => a' = Act.put ⟨T, ds⟩ (some dst) v ∧ w'' = w) Q) : wpOp P ops Q i (fun a' w'' => a' = Act.put ⟨T, ds⟩ o.dst (mkV W y i) ∧ w'' = w) ⟨T, ds⟩ w := by
  obtain ⟨ps, af, rfl⟩ := op_core hc ho
  subst hk hi
  exact wpOp_plain ho rfl (h ps af (hK.val ho hr))
theorem pl0 (dst s : Nat) (ty : TypeId) {op : Go.Op} {x v : Value} (ho : ops[i]? = some o) (hK : Known ops T0 (mkV W y) o T) (hc : (ops[i]?).map (fun o => (o.dst, o.op, o.type, o.guard)) = some (some dst, op, ty, none)) (hr : freeB ops s = true) (hk : T0.getD s undef = x) (hi : mkV W y i = v) (h : ∀ ps af, T.getD s undef = x → Oper.wp P ⟨some dst, op, ty, ps, af, none⟩ ⟨T, ds⟩ w (fun a' w'' => a' = Act.put ⟨T, ds⟩ (some dst) v ∧ w'' = w) Q) : wpOp P ops Q i (fun a' w'' => a' = Act.put ⟨T, ds⟩ o.dst (mkV W y i) ∧ w'' = w) ⟨T, ds⟩ w := by
  obtain ⟨ps, af, rfl⟩ := op_core hc ho
  subst hi
  exact wpOp_plain ho rfl (h ps af ((hK.old hr).trans hk))
theorem pg1 (j d : Nat) (b : Bool) (dst s k : Nat) (ty : TypeId) {op : Go.Op} {x v : Value} (ho : ops[i]? = some o) (hK : Known ops T0 (mkV W y) o T) (hc : (ops[i]?).map (fun o => (o.dst, o.op, o.type, o.guard)) = some (some dst, op, ty, some (j, b))) (hd : (ops[j]?).bind (·.dst) = some d) (hrj : readsB ops i d j = true) (hj : mkV W y j = .bool b) (hr : readsB ops i s k = true) (hk : mkV W y k = x) (hi : mkV W y i = v) (h : ∀ ps af, T.getD s undef = x → Oper.wp P ⟨some dst, op, ty, ps, af, some (j, b)⟩ ⟨T, ds⟩ w (fun a' w'' => a' = Act.put ⟨T, ds⟩ (some dst) v ∧ w'' = w) Q) : wpOp P ops Q i (fun a' w'' => a' = Act.put ⟨T, ds⟩ o.dst (mkV W y i) ∧ w'' = w) ⟨T, ds⟩ w := by
  obtain ⟨ps, af, rfl⟩ := op_core hc ho
  subst hk hi
  exact wpOp_want ho ((wanted_of (d := d) (b := b) rfl hd ((hK.val ho hrj).trans hj)).trans (by simp)) (h ps af (hK.val ho hr))
theorem pg0 (j d : Nat) (b : Bool) (dst s : Nat) (ty : TypeId) {op : Go.Op} {x v : Value} (ho : ops[i]? = some o) (hK : Known ops T0 (mkV W y) o T) (hc : (ops[i]?).map (fun o => (o.dst, o.op, o.type, o.guard)) = some (some dst, op, ty, some (j, b))) (hd : (ops[j]?).bind (·.dst) = some d) (hrj : readsB ops i d j = true) (hj : mkV W y j = .bool b) (hr : freeB ops s = true) (hk : T0.getD s undef = x) (hi : mkV W y i = v) (h : ∀ ps af, T.getD s undef = x → Oper.wp P ⟨some dst, op, ty, ps, af, some (j, b)⟩ ⟨T, ds⟩ w (fun a' w'' => a' = Act.put ⟨T, ds⟩ (some dst) v ∧ w'' = w) Q) : wpOp P ops Q i (fun a' w'' => a' = Act.put ⟨T, ds⟩ o.dst (mkV W y i) ∧ w'' = w) ⟨T, ds⟩ w := by
  obtain ⟨ps, af, rfl⟩ := op_core hc ho
  subst hi
  exact wpOp_want ho ((wanted_of (d := d) (b := b) rfl hd ((hK.val ho hrj).trans hj)).trans (by simp)) (h ps af ((hK.old hr).trans hk))
theorem psk (j d : Nat) (b wb : Bool) (ho : ops[i]? = some o) (hK : Known ops T0 (mkV W y) o T) (hc : (ops[i]?).map (·.guard) = some (some (j, wb))) (hd : (ops[j]?).bind (·.dst) = some d) (hrj : readsB ops i d j = true) (hj : mkV W y j = .bool b) (hb : (b == wb) = false) (hi : mkV W y i = undef) : wpOp P ops Q i (fun a' w'' => a' = Act.put ⟨T, ds⟩ o.dst (mkV W y i) ∧ w'' = w) ⟨T, ds⟩ w := by
  rw [hi]
  rw [ho] at hc
  exact wpOp_skip ho ((wanted_of (d := d) (b := b) (by simpa using hc) hd ((hK.val ho hrj).trans hj)).trans hb) ⟨rfl, rfl⟩
theorem k_mv {ty : TypeId} {dst : Option Tmp} {s : Nat} {ps af g} {x : Value} (e : T.getD s undef = x) : Oper.wp P ⟨dst, .move (.tmp s), ty, ps, af, g⟩ ⟨T, ds⟩ w (fun a' w'' => a' = Act.put ⟨T, ds⟩ dst x ∧ w'' = w) Q := by
  subst e
  exact ⟨rfl, rfl⟩
theorem k_as {ty : TypeId} {dst : Option Tmp} {s : Nat} {ps af g} {x : Value} (e : T.getD s undef = x) : Oper.wp P ⟨dst, .assign (.tmp s), ty, ps, af, g⟩ ⟨T, ds⟩ w (fun a' w'' => a' = Act.put ⟨T, ds⟩ dst x ∧ w'' = w) Q := by
  subst e
  exact ⟨rfl, rfl⟩
theorem k_nc {ty : TypeId} {dst : Option Tmp} {s : Nat} {ps af g} {x : Addr} (e : T.getD s undef = .pointer (some x)) : Oper.wp P ⟨dst, .nilCheck (.tmp s), ty, ps, af, g⟩ ⟨T, ds⟩ w (fun a' w'' => a' = Act.put ⟨T, ds⟩ dst (.pointer (some x)) ∧ w'' = w) Q := by
  go_simp
end
end
def RW (w : World) (R : World → Value → Prop) (b : Bool) (y : Value) (w' : World) : Prop := (b = false → w' = w.drew) ∧ (b = true → R w' y)
theorem RW.cell {w w' : World} {R : World → Value → Prop} {b : Bool} {y v : Value} {a : Addr} (h : RW w R b y w') (c : w.cell? a = some v) (rc : Hid (∀ w1 v', R w1 v' → w1.cell? a = some v)) : w'.cell? a = some v := by
  cases b
  · rw [h.1 rfl]; exact c
  · exact rc.out _ _ (h.2 rfl)
theorem RW.zero (w : World) (R : World → Value → Prop) (y : Value) : RW w R false y w.drew := ⟨fun _ => rfl, fun h => by cases h⟩
theorem RW.run {w w' : World} {R : World → Value → Prop} {y : Value} {f : World → Result Value} (hE : Hid (∃ v1 w1, f w.drew = .ok v1 w1 ∧ R w1 v1)) (h : RW w R false y w') : ∃ v w1, f w' = .ok v w1 ∧ RW w R true v w1 := by
  rw [h.1 rfl]
  obtain ⟨v, w1, e, hr⟩ := hE.out
  exact ⟨v, w1, e, (fun h => by cases h), fun _ => hr⟩
theorem RW.call {P : Program} {f : FuncId} {args : Array Value} {w w' : World} {R : World → Value → Prop} {y : Value} (hE : Hid (Calls P f args w.drew fun e w1 => ∃ v, e = .returned v ∧ R w1 v)) (h : RW w R false y w') : Calls P f args w' fun e w1 => ∃ v, e = .returned v ∧ RW w R true v w1 := by
  rw [h.1 rfl]
  refine hE.out.mono ?_
  rintro e w1 ⟨v, rfl, hr⟩
  exact ⟨v, rfl, (fun h => by cases h), fun _ => hr⟩
theorem k_fa87_0 {Q : Exit → Act → World → Prop} {T : Array Value} {ds : List Deferred} {w : World} {ty : TypeId} {dst : Option Tmp} {s : Nat} {ps af g} {b : Nat} (e : T.getD s undef = .pointer (some ⟨b, 0, none⟩)) : Oper.wp Tryd.prog ⟨dst, .fieldAddr 87 (.tmp s) 0, ty, ps, af, g⟩ ⟨T, ds⟩ w (fun a' w'' => a' = Act.put ⟨T, ds⟩ dst (.pointer (some ⟨b, 0, none⟩)) ∧ w'' = w) Q := by
  go_simp
theorem k_fa87_0_2 {Q : Exit → Act → World → Prop} {T : Array Value} {ds : List Deferred} {w : World} {ty : TypeId} {dst : Option Tmp} {s : Nat} {ps af g} {b : Nat} (e : T.getD s undef = .pointer (some ⟨b, 2, none⟩)) : Oper.wp Tryd.prog ⟨dst, .fieldAddr 87 (.tmp s) 0, ty, ps, af, g⟩ ⟨T, ds⟩ w (fun a' w'' => a' = Act.put ⟨T, ds⟩ dst (.pointer (some ⟨b, 2, none⟩)) ∧ w'' = w) Q := by
  go_simp
theorem k_fa87_1 {Q : Exit → Act → World → Prop} {T : Array Value} {ds : List Deferred} {w : World} {ty : TypeId} {dst : Option Tmp} {s : Nat} {ps af g} {b : Nat} (e : T.getD s undef = .pointer (some ⟨b, 0, none⟩)) : Oper.wp Tryd.prog ⟨dst, .fieldAddr 87 (.tmp s) 1, ty, ps, af, g⟩ ⟨T, ds⟩ w (fun a' w'' => a' = Act.put ⟨T, ds⟩ dst (.pointer (some ⟨b, 1, none⟩)) ∧ w'' = w) Q := by
  go_simp
theorem k_fa93_0 {Q : Exit → Act → World → Prop} {T : Array Value} {ds : List Deferred} {w : World} {ty : TypeId} {dst : Option Tmp} {s : Nat} {ps af g} {b : Nat} (e : T.getD s undef = .pointer (some ⟨b, 0, none⟩)) : Oper.wp Tryd.prog ⟨dst, .fieldAddr 93 (.tmp s) 0, ty, ps, af, g⟩ ⟨T, ds⟩ w (fun a' w'' => a' = Act.put ⟨T, ds⟩ dst (.pointer (some ⟨b, 0, none⟩)) ∧ w'' = w) Q := by
  go_simp
theorem k_fa93_1 {Q : Exit → Act → World → Prop} {T : Array Value} {ds : List Deferred} {w : World} {ty : TypeId} {dst : Option Tmp} {s : Nat} {ps af g} {b : Nat} (e : T.getD s undef = .pointer (some ⟨b, 0, none⟩)) : Oper.wp Tryd.prog ⟨dst, .fieldAddr 93 (.tmp s) 1, ty, ps, af, g⟩ ⟨T, ds⟩ w (fun a' w'' => a' = Act.put ⟨T, ds⟩ dst (.pointer (some ⟨b, 4, none⟩)) ∧ w'' = w) Q := by
  go_simp
theorem k_fa93_2 {Q : Exit → Act → World → Prop} {T : Array Value} {ds : List Deferred} {w : World} {ty : TypeId} {dst : Option Tmp} {s : Nat} {ps af g} {b : Nat} (e : T.getD s undef = .pointer (some ⟨b, 0, none⟩)) : Oper.wp Tryd.prog ⟨dst, .fieldAddr 93 (.tmp s) 2, ty, ps, af, g⟩ ⟨T, ds⟩ w (fun a' w'' => a' = Act.put ⟨T, ds⟩ dst (.pointer (some ⟨b, 5, none⟩)) ∧ w'' = w) Q := by
  go_simp
theorem k_ld27 {Q : Exit → Act → World → Prop} {T : Array Value} {ds : List Deferred} {w : World} {ty : TypeId} {dst : Option Tmp} {s : Nat} {ps af g} {b o : Nat} {v : Value} (h : w.cell? ⟨b, o, none⟩ = some v) (e : T.getD s undef = .pointer (some ⟨b, o, none⟩)) : Oper.wp Tryd.prog ⟨dst, .load 27 (.tmp s), ty, ps, af, g⟩ ⟨T, ds⟩ w (fun a' w'' => a' = Act.put ⟨T, ds⟩ dst v ∧ w'' = w) Q := by
  go_simp
theorem k_ld3 {Q : Exit → Act → World → Prop} {T : Array Value} {ds : List Deferred} {w : World} {ty : TypeId} {dst : Option Tmp} {s : Nat} {ps af g} {b o : Nat} {v : Value} (h : w.cell? ⟨b, o, none⟩ = some v) (e : T.getD s undef = .pointer (some ⟨b, o, none⟩)) : Oper.wp Tryd.prog ⟨dst, .load 3 (.tmp s), ty, ps, af, g⟩ ⟨T, ds⟩ w (fun a' w'' => a' = Act.put ⟨T, ds⟩ dst v ∧ w'' = w) Q := by
  go_simp
theorem k_ld80 {Q : Exit → Act → World → Prop} {T : Array Value} {ds : List Deferred} {w : World} {ty : TypeId} {dst : Option Tmp} {s : Nat} {ps af g} {b o : Nat} {v : Value} (h : w.cell? ⟨b, o, none⟩ = some v) (e : T.getD s undef = .pointer (some ⟨b, o, none⟩)) : Oper.wp Tryd.prog ⟨dst, .load 80 (.tmp s), ty, ps, af, g⟩ ⟨T, ds⟩ w (fun a' w'' => a' = Act.put ⟨T, ds⟩ dst v ∧ w'' = w) Q := by
  go_simp
theorem k_ld89 {Q : Exit → Act → World → Prop} {T : Array Value} {ds : List Deferred} {w : World} {ty : TypeId} {dst : Option Tmp} {s : Nat} {ps af g} {b o : Nat} {v : Value} (h : w.cell? ⟨b, o, none⟩ = some v) (e : T.getD s undef = .pointer (some ⟨b, o, none⟩)) : Oper.wp Tryd.prog ⟨dst, .load 89 (.tmp s), ty, ps, af, g⟩ ⟨T, ds⟩ w (fun a' w'' => a' = Act.put ⟨T, ds⟩ dst v ∧ w'' = w) Q := by
  go_simp
theorem k_ld9 {Q : Exit → Act → World → Prop} {T : Array Value} {ds : List Deferred} {w : World} {ty : TypeId} {dst : Option Tmp} {s : Nat} {ps af g} {b o : Nat} {v : Value} (h : w.cell? ⟨b, o, none⟩ = some v) (e : T.getD s undef = .pointer (some ⟨b, o, none⟩)) : Oper.wp Tryd.prog ⟨dst, .load 9 (.tmp s), ty, ps, af, g⟩ ⟨T, ds⟩ w (fun a' w'' => a' = Act.put ⟨T, ds⟩ dst v ∧ w'' = w) Q := by
  go_simp
end Go.Proofs.YtmoihgniglomiaaDoor
