/- What sign's left and inRange answer. Condition: the number is below 2 to the 256. Drawn regions of Append: the text is laid behind the file, and the row gets a piece. No condition. A drawn region by a plan: what each operation gives, in whatever order its edges allow. General; no condition. A drawn region by a plan: reading what is known. General; no condition. The drawn region of sign's timesBase -/
import Derived.Test.YtpggkfdijmnmiaaGreatZuf04
import Derived.Test.YtpggkfdijmnmiaaGreatZuf05
import Derived.Lib.AppendZeros
import Derived.StillTail
import Derived.Test.YtpggkfdijmnmiaaGreatZuf02
import Derived.Test.YtpggkfdijmnmiaaGreatZuf10
set_option linter.unusedVariables false
set_option linter.unusedSimpArgs false
set_option maxRecDepth 100000
namespace Go.Proofs.YtpggkfdijmnmiaaGreat
open Go.RowKit Limbs
set_option maxHeartbeats 8000000 in
theorem sleft_any (a : Nat) (ha : a < W256) (w : World) : Calls Tryz.prog 92 #[nv a] w fun e w' => e = .returned (nv (a % mN)) ∧ Below w.heap.size w w' := by
  have h := add_any 1 a 0 ha (by decide)
  rw [show md 1 = mN by unfold md; rw [if_neg (by decide)], Nat.add_zero] at h
  have HADD := Lib.hid h
  clear h
  have hz : nv 0 = .agg #[.int .u64 0, .int .u64 0, .int .u64 0, .int .u64 0] := rfl
  rw [hz] at HADD
  simp only [nv, num] at HADD ⊢
  go_enter Tryz.func92, Tryz.ntmps92
  go_wp2_with fail
  refine (keep w.heap.size w (HADD.out _) (by go_grown) (Nat.le_refl _)).mono ?_
  rintro e w1 ⟨rfl, hb, hk⟩
  have KR : Bk 24 w1 (w.heap.size + 1) cs0 := Bk.below (Bk.new (by simp)) hk
  obtain ⟨f0, f1, f2, f3⟩ := KR.fros
  obtain ⟨j0, j1, j2, j3⟩ := KR.cells
  go_wp2_with fail
  refine ret_cell rfl (w.heap.size + 1) (a % mN) rfl (Bk.put KR) rfl ⟨rfl, ?_⟩
  go_grown
set_option maxHeartbeats 8000000 in
theorem inRange_any (a : Nat) (ha : a < W256) (w : World) : Calls Tryz.prog 41 #[nv a] w fun e w' => e = .returned (.bool (decide (0 < a ∧ a < mN))) ∧ Below w.heap.size w w' := by
  have hmN : mN < W256 := by decide
  have HL := Lib.hid (sleft_any a ha)
  have HZ : Hid (∀ w, (Op.equalIn 10000 24 (.agg #[.int .u64 (lb a 0 : Nat), .int .u64 (lb a 1 : Nat), .int .u64 (lb a 2 : Nat), .int .u64 (lb a 3 : Nat)]) (.agg #[.int .u64 0, .int .u64 0, .int .u64 0, .int .u64 0])).run Tryz.prog w = .ok (decide (a = 0)) w) := Lib.hid fun w => eqN a 0 ha (by decide) w
  have HE : Hid (∀ w, (Op.equalIn 10000 24 (.agg #[.int .u64 (lb (a % mN) 0 : Nat), .int .u64 (lb (a % mN) 1 : Nat), .int .u64 (lb (a % mN) 2 : Nat), .int .u64 (lb (a % mN) 3 : Nat)]) (.agg #[.int .u64 (lb a 0 : Nat), .int .u64 (lb a 1 : Nat), .int .u64 (lb a 2 : Nat), .int .u64 (lb a 3 : Nat)])).run Tryz.prog w = .ok (decide (a % mN = a)) w) := Lib.hid fun w => eqN (a % mN) a (Nat.lt_trans (Nat.mod_lt _ (by decide)) hmN) ha w
  have hv : decide (0 < a ∧ a < mN) = (!decide (a = 0) && decide (a % mN = a)) := by
    have h1 : a % mN = a ↔ a < mN := ⟨fun h => by rw [← h]; exact Nat.mod_lt _ (by decide), Nat.mod_eq_of_lt⟩
    by_cases h0 : a = 0
    · subst h0; simp
    · have : 0 < a := by omega
      simp [h0, this, h1]
  rw [hv]
  clear hv hmN ha
  by_cases h0 : a = 0
  · rw [decide_eq_true h0] at HZ ⊢
    clear h0
    have hz := HZ.out
    simp only [nv, num] at HL ⊢
    go_enter Tryz.func41, Tryz.ntmps41
    go_wp2_with fail
    have K : Bk 24 (w.alloc (.cells (cs4 a) 24)) w.heap.size (cs4 a) := Bk.new rfl
    have hb0 : Below w.heap.size w (w.alloc (.cells (cs4 a) 24)) := by go_grown
    unfold cs4 at K hb0
    generalize (w.alloc (.cells #[.int .u64 (lb a 0 : Nat), .int .u64 (lb a 1 : Nat), .int .u64 (lb a 2 : Nat), .int .u64 (lb a 3 : Nat)] 24)) = W at K hb0 ⊢
    obtain ⟨x0, x1, x2, x3⟩ := K.reg
    refine wp_region_quiet_below mixed (by kernel_rfl) ?_
    repeat (first | go_big_quiet_step (exact qg HL.out) | quiet_step (exact qg HL.out))
    refine wpQuiet_nil ?_
    intro _ hw'
    obtain ⟨⟨dq, osq⟩, hw''⟩ := hw'
    subst hw''
    go_wp2_with fail
    go_returns
    exact ⟨rfl, hb0.trans ((below_regrown W dq osq).mono hb0.size)⟩
  · rw [decide_eq_false h0] at HZ ⊢
    clear h0
    have hz := HZ.out
    have he := HE.out
    generalize decide (a % mN = a) = bb at he ⊢
    simp only [nv, num] at HL ⊢
    go_enter Tryz.func41, Tryz.ntmps41
    go_wp2_with fail
    have K : Bk 24 (w.alloc (.cells (cs4 a) 24)) w.heap.size (cs4 a) := Bk.new rfl
    have hb0 : Below w.heap.size w (w.alloc (.cells (cs4 a) 24)) := by go_grown
    unfold cs4 at K hb0
    generalize (w.alloc (.cells #[.int .u64 (lb a 0 : Nat), .int .u64 (lb a 1 : Nat), .int .u64 (lb a 2 : Nat), .int .u64 (lb a 3 : Nat)] 24)) = W at K hb0 ⊢
    obtain ⟨x0, x1, x2, x3⟩ := K.reg
    refine wp_region_quiet_below mixed (by kernel_rfl) ?_
    repeat (first | go_big_quiet_step (exact qg HL.out) | quiet_step (exact qg HL.out))
    refine wpQuiet_nil ?_
    intro _ hw'
    obtain ⟨⟨dq, osq⟩, hw''⟩ := hw'
    subst hw''
    go_wp2_with fail
    go_returns
    exact ⟨by simp, hb0.trans ((below_regrown W dq osq).mono hb0.size)⟩
end Go.Proofs.YtpggkfdijmnmiaaGreat
namespace Go.Proofs.YtpggkfdijmnmiaaGreat.Pl
open Go.RowKit Go.Sort
section
variable {P : Program} {ops : Array Oper} {md : Region.Mode} {Q : Exit → Act → World → Prop}
def findR : Code → Nat → Option (Array Oper)
  | .region i os _, n => if i = n then some os else none
  | .seq a b, n => (findR a n).or (findR b n)
  | .cond _ a b, n => (findR a n).or (findR b n)
  | .block _ a, n => findR a n
  | .loop a, n => findR a n
  | .scope a, n => findR a n
  | _, _ => none
def left (l : Array Bool) : Nat := (l.toList.filter (fun x => !x)).length
theorem left_set_list : ∀ (l : List Bool) (i : Nat) (h : i < l.length), l[i] = false → ((l.set i true).filter (fun x => !x)).length + 1 = (l.filter (fun x => !x)).length
  | x :: l, 0, h, hx => by
    have : x = false := hx
    subst this
    simp
  | x :: l, i + 1, h, hx => by
    have ih := left_set_list l i (by simpa using h) (by simpa using hx)
    cases x <;> simp [List.filter_cons] <;> omega
theorem left_set {l : Array Bool} {i : Nat} (h : l.getD i true = false) : left (l.setIfInBounds i true) + 1 = left l := by
  have hi : i < l.size := by
    rcases Nat.lt_or_ge i l.size with h' | h'
    · exact h'
    · simp [Array.getElem?_eq_none h'] at h
  have hx : l[i] = false := by simpa [hi] using h
  unfold left
  have := left_set_list l.toList i (by simpa using hi) (by simpa using hx)
  simpa [Array.toList_setIfInBounds, hi] using this
theorem left_zero {l : Array Bool} (h : left l = 0) : ∀ x ∈ l, x = true := by
  intro x hx
  unfold left at h
  rw [List.length_eq_zero_iff, List.filter_eq_nil_iff] at h
  have := h x (by simpa using hx)
  simpa using this
theorem wpAny_inv2 {I : Array Bool → Act → World → Prop} {g : Nat} (none : ∀ l a w, I l a w → Region.ready md ops l = [] → left l = g) (step : ∀ l a w, I l a w → left l ≠ g → ∀ i ∈ Region.ready md ops l, wpOp P ops Q i (fun a' w' => I (l.setIfInBounds i true) a' w') a w)
    (fin : ∀ l a w, I l a w → left l = g → wpAny P md ops Q g l a w) : ∀ (fuel : Nat) (l : Array Bool) (a : Act) (w : World), left l = fuel → g ≤ fuel → I l a w → wpAny P md ops Q fuel l a w
  | 0, l, a, w, hf, hg, h => by
    obtain rfl : g = 0 := by omega
    exact fin l a w h hf
  | fuel + 1, l, a, w, hf, hg, h => by
    by_cases hgf : g = fuel + 1
    · subst hgf
      exact fin l a w h hf
    · refine ⟨fun h0 => absurd (none l a w h h0) (by omega), fun i hi => ?_⟩
      have hl := left_set (mem_ready.1 hi).1
      exact wpOp_mono (fun a' w' h' => wpAny_inv2 none step fin fuel _ a' w' (by omega) (by omega) h') (step l a w h (by omega) i hi)
theorem wpOp_of {i : Nat} {o : Oper} {K : Act → World → Prop} {a : Act} {w : World} (hi : ops[i]? = some o) (hg : o.guard = none) (h : o.wp P a w K Q) : wpOp P ops Q i K a w := by
  unfold wpOp
  simp only [hi]
  rw [if_pos (by simp [Region.wanted, hg])]
  exact .inl h
end
end Go.Proofs.YtpggkfdijmnmiaaGreat.Pl
namespace Go.Proofs.YtpggkfdijmnmiaaGreat.Pl
open Go.RowKit Go.Sort
section
variable {P : Program} {ops : Array Oper} {Q : Exit → Act → World → Prop}
def maskB (ops : Array Oper) (M : List (List Nat)) : Bool := (List.range ops.size).all fun i => match ops[i]? with
  | some o => (M.getD i []).all fun c => o.after.any fun e => Region.binds .any e && (e.on == c || (M.getD e.on []).contains c)
  | none => true
def backB (ops : Array Oper) : Bool := (List.range ops.size).all fun i => match ops[i]? with
  | some o => o.after.all fun e => !Region.binds .any e || decide (e.on < i)
  | none => true
theorem backB_spec (hb : backB ops = true) {i : Nat} {o : Oper} (ho : ops[i]? = some o) {e : Edge} (he : e ∈ o.after) (hbe : Region.binds .any e = true) : e.on < i := by
  unfold backB at hb
  rw [List.all_eq_true] at hb
  have h1 := hb i (List.mem_range.2 (Array.getElem?_eq_some_iff.1 ho).1)
  rw [ho] at h1
  simp only [Array.all_eq_true, Bool.or_eq_true, Bool.not_eq_true', decide_eq_true_eq] at h1
  obtain ⟨q, hq, rfl⟩ := Array.mem_iff_getElem.1 he
  rcases h1 q hq with h2 | h2
  · rw [hbe] at h2; cases h2
  · exact h2
def Closed (ops : Array Oper) (l : Array Bool) : Prop := ∀ (i : Nat) (o : Oper), l.getD i false = true → ops[i]? = some o → ∀ e ∈ o.after, Region.binds .any e = true → l.getD e.on false = true
theorem anc_listed {M : List (List Nat)} (hM : maskB ops M = true) (hbw : backB ops = true) {l : Array Bool} (h : Closed ops l) : ∀ (n i c : Nat) (o : Oper), i < n → ops[i]? = some o → (∀ e ∈ o.after, Region.binds .any e = true → l.getD e.on false = true) → (M.getD i []).contains c = true → l.getD c false = true
  | 0, _, _, _, hi, _, _, _ => absurd hi (Nat.not_lt_zero _)
  | n + 1, i, c, o, hi, ho, hd, ha => by
    have h1 := hM
    unfold maskB at h1
    rw [List.all_eq_true] at h1
    have h2 := h1 i (List.mem_range.2 (Array.getElem?_eq_some_iff.1 ho).1)
    rw [ho] at h2
    simp only [List.all_eq_true] at h2
    have h3 := h2 c (by simpa using ha)
    simp only [Array.any_eq_true, Bool.and_eq_true, Bool.or_eq_true, beq_iff_eq] at h3
    obtain ⟨k, hk, hb, ha⟩ := h3
    have hl := hd _ (Array.getElem_mem hk) hb
    have hlt := backB_spec hbw ho (Array.getElem_mem hk) hb
    rcases ha with ha | ha
    · rw [← ha]; exact hl
    · have hin : (o.after[k]).on < ops.size := Nat.lt_trans hlt (Array.getElem?_eq_some_iff.1 ho).1
      exact anc_listed hM hbw h n _ c _ (by omega) (Array.getElem?_eq_getElem hin) (h _ _ hl (Array.getElem?_eq_getElem hin)) ha
def dstB (ops : Array Oper) (m : Nat) : Bool := (List.range ops.size).all fun i => (List.range ops.size).all fun j => match ops[i]?, ops[j]? with
  | some o, some o' => match o.dst with
    | none => true
    | some d => decide (d < m) && (i == j || o'.dst != some d)
  | _, _ => true
theorem dstB_spec {m : Nat} (h : dstB ops m = true) {i j : Nat} {o o' : Oper} {d : Tmp} (hi : ops[i]? = some o) (hj : ops[j]? = some o') (hd : o.dst = some d) : d < m ∧ (i = j ∨ o'.dst ≠ some d) := by
  unfold dstB at h
  rw [List.all_eq_true] at h
  have h1 := h i (List.mem_range.2 (Array.getElem?_eq_some_iff.1 hi).1)
  rw [List.all_eq_true] at h1
  have h2 := h1 j (List.mem_range.2 (Array.getElem?_eq_some_iff.1 hj).1)
  rw [hi, hj] at h2
  simp only [hd, Bool.and_eq_true, decide_eq_true_eq, Bool.or_eq_true, beq_iff_eq, bne_iff_ne, ne_eq] at h2
  exact h2
structure Tm (ops : Array Oper) (T0 : Array Value) (v : Nat → Value) (l : Array Bool) (T : Array Value) : Prop where
  size : T.size = T0.size
  come : ∀ (i : Nat) (o : Oper) (d : Tmp), l.getD i false = true → ops[i]? = some o → o.dst = some d → T.getD d undef = v i
  rest : ∀ (d : Tmp), (∀ (i : Nat) (o : Oper), l.getD i false = true → ops[i]? = some o → o.dst ≠ some d) → T.getD d undef = T0.getD d undef
theorem getD_set (T : Array Value) (d k : Nat) (x : Value) (hd : d < T.size) : (T.setIfInBounds d x).getD k undef = if k = d then x else T.getD k undef := by
  by_cases hk : k = d
  · subst hk
    simp [Array.getD, hd]
  · rw [if_neg hk]
    simp only [Array.getD]
    by_cases h : k < T.size
    · simp [h, Array.getElem_setIfInBounds, Ne.symm hk]
    · simp [h]
theorem getD_lset (l : Array Bool) (i k : Nat) (hi : l.getD i true = false) : (l.setIfInBounds i true).getD k false = if k = i then true else l.getD k false := by
  have hlt : i < l.size := by
    by_cases h : i < l.size
    · exact h
    · simp [Array.getD, h] at hi
  by_cases hk : k = i
  · subst hk
    simp [Array.getD, hlt]
  · rw [if_neg hk]
    simp only [Array.getD]
    by_cases h : k < l.size
    · simp [h, Array.getElem_setIfInBounds, Ne.symm hk]
    · simp [h]
theorem Tm.put {T0 T : Array Value} {v : Nat → Value} {l : Array Bool} (h : Tm ops T0 v l T) (hB : dstB ops T0.size = true) {i : Nat} {o : Oper} (ho : ops[i]? = some o) (hi : l.getD i true = false) (ds : List Deferred) : Tm ops T0 v (l.setIfInBounds i true) (Act.put ⟨T, ds⟩ o.dst (v i)).tmps := by
  unfold Act.put
  cases hd : o.dst with
  | none =>
    refine ⟨h.size, fun k o' d hl hk hd' => ?_, fun d hn => h.rest d fun k o' hl hk => hn k o' (by rw [getD_lset l i k hi]; split <;> simp_all) hk⟩
    rw [getD_lset l i k hi] at hl
    by_cases hki : k = i
    · subst hki
      rw [ho] at hk
      cases hk
      rw [hd] at hd'
      cases hd'
    · rw [if_neg hki] at hl
      exact h.come k o' d hl hk hd'
  | some d0 =>
    have hlt : d0 < T.size := by rw [h.size]; exact (dstB_spec hB ho ho hd).1
    refine ⟨by simp [h.size], fun k o' d hl hk hd' => ?_, fun d hn => ?_⟩
    · rw [getD_lset l i k hi] at hl
      show (T.setIfInBounds d0 (v i)).getD d undef = v k
      rw [getD_set T d0 d _ hlt]
      by_cases hki : k = i
      · subst hki
        rw [ho] at hk
        cases hk
        rw [hd] at hd'
        cases hd'
        rw [if_pos rfl]
      · rw [if_neg hki] at hl
        rw [if_neg (fun e => by
          subst e
          rcases (dstB_spec hB ho hk hd).2 with e | e
          · exact hki e.symm
          · exact e hd')]
        exact h.come k o' d hl hk hd'
    · show (T.setIfInBounds d0 (v i)).getD d undef = T0.getD d undef
      have hne : d ≠ d0 := fun e => hn i o (by rw [getD_lset l i i hi, if_pos rfl]) ho (by rw [hd, e])
      rw [getD_set T d0 d _ hlt, if_neg hne]
      exact h.rest d fun k o' hl hk => hn k o' (by rw [getD_lset l i k hi]; split <;> simp_all) hk
def planT (ops : Array Oper) (T0 : Array Value) (v : Nat → Value) : Nat → Array Value
  | 0 => T0
  | k + 1 => (Act.put ⟨planT ops T0 v k, []⟩ ((ops[k]?).bind (·.dst)) (v k)).tmps
theorem planT_tm {T0 : Array Value} {v : Nat → Value} (hB : dstB ops T0.size = true) : ∀ k, k ≤ ops.size → ∃ l : Array Bool, l.size = ops.size ∧ (∀ i, l.getD i false = true ↔ i < k) ∧ Tm ops T0 v l (planT ops T0 v k)
  | 0, _ => ⟨Array.replicate ops.size false, by simp, fun i => by
      simp only [Array.getD]
      by_cases h : i < ops.size <;> simp [h], ⟨rfl, fun i o d hl _ _ => by
      simp only [Array.getD] at hl
      by_cases h : i < ops.size <;> simp [h] at hl, fun d _ => rfl⟩⟩
  | k + 1, hk => by
    obtain ⟨l, hs, hl, ht⟩ := planT_tm (v := v) hB k (by omega)
    obtain ⟨o, ho⟩ : ∃ o, ops[k]? = some o := ⟨_, Array.getElem?_eq_getElem (by omega)⟩
    have hkf : l.getD k true = false := by
      have h1 : k < l.size := by omega
      have h2 := (hl k)
      simp only [Array.getD, h1, dif_pos] at h2 ⊢
      simpa using h2
    refine ⟨l.setIfInBounds k true, by simp [hs], fun i => ?_, ?_⟩
    · rw [getD_lset l k i hkf]
      split
      · simp; omega
      · rw [hl i]; omega
    · have := ht.put hB ho hkf []
      unfold planT
      rw [ho]
      exact this
theorem tm_ext {T T' : Array Value} (hs : T.size = T'.size) (h : ∀ d, T.getD d undef = T'.getD d undef) : T = T' := by
  apply Array.ext hs
  intro i h1 h2
  have := h i
  simpa [Array.getD, h1, h2] using this
theorem Tm.all {T0 T : Array Value} {v : Nat → Value} {l : Array Bool} (h : Tm ops T0 v l T) (hB : dstB ops T0.size = true) (hl : ∀ i, i < ops.size → l.getD i false = true) : T = planT ops T0 v ops.size := by
  obtain ⟨l', hs', hl', ht'⟩ := planT_tm (ops := ops) (v := v) hB ops.size (Nat.le_refl _)
  refine tm_ext (by rw [h.size, ht'.size]) fun d => ?_
  by_cases hd : ∃ (i : Nat) (o : Oper), ops[i]? = some o ∧ o.dst = some d
  · obtain ⟨i, o, ho, hd⟩ := hd
    have hi := (Array.getElem?_eq_some_iff.1 ho).1
    rw [h.come i o d (hl i hi) ho hd, ht'.come i o d ((hl' i).2 hi) ho hd]
  · rw [h.rest d fun i o _ ho hd' => hd ⟨i, o, ho, hd'⟩, ht'.rest d fun i o _ ho hd' => hd ⟨i, o, ho, hd'⟩]
def upd (y : Nat → Value) (c : Nat) (v : Value) : Nat → Value := fun k => if k = c then v else y k
def Known (ops : Array Oper) (T0 : Array Value) (v : Nat → Value) (o : Oper) (T : Array Value) : Prop :=
  (∀ e ∈ o.after, Region.binds .any e = true → ∀ (o' : Oper) (d : Tmp), ops[e.on]? = some o' → o'.dst = some d → T.getD d undef = v e.on) ∧ (∀ d : Tmp, (∀ (k : Nat) (o' : Oper), ops[k]? = some o' → o'.dst ≠ some d) → T.getD d undef = T0.getD d undef)
def updB (d : Nat → Bool) (c : Nat) : Nat → Bool := fun k => if k = c then true else d k
def Pin (ops : Array Oper) (T0 : Array Value) (ds : List Deferred) (cs : List Nat) (vs : (Nat → Value) → Nat → Value) (PW : (Nat → Bool) → (Nat → Value) → World → Prop) (l : Array Bool) (a : Act) (w : World) : Prop :=
  ∃ y d, l.size = ops.size ∧ Closed ops l ∧ (∀ c ∈ cs, l.getD c false = d c) ∧ a.defers = ds ∧ Tm ops T0 (vs y) l a.tmps ∧ PW d y w
theorem closed_set {l : Array Bool} (h : Closed ops l) {i : Nat} {o : Oper} (ho : ops[i]? = some o) (hi : l.getD i true = false) (hd : ∀ e ∈ o.after, Region.binds .any e = true → l.getD e.on false = true) : Closed ops (l.setIfInBounds i true) := fun k o' hk ho' e he hb => by
  rw [getD_lset l i _ hi]
  split
  · rfl
  · rw [getD_lset l i k hi] at hk
    by_cases hki : k = i
    · subst hki
      rw [ho] at ho'
      cases ho'
      exact hd e he hb
    · rw [if_neg hki] at hk
      exact h k o' hk ho' e he hb
theorem all_listed (hb : backB ops = true) {l : Array Bool} (hs : l.size = ops.size) (hr : Region.ready .any ops l = []) : left l = 0 := by
  have hall : ∀ k, ∀ i, i < k → i < ops.size → l.getD i false = true := fun k => by
    induction k with
    | zero => intro i hi; omega
    | succ k ih =>
      intro i hi hin
      cases hli : l.getD i false
      · exfalso
        have ho := Array.getElem?_eq_getElem hin
        refine List.eq_nil_iff_forall_not_mem.1 hr i (mem_ready.2 ⟨?_, _, ho, fun e he hbe => ?_⟩)
        · simpa [Array.getD, hs, hin] using hli
        · unfold backB at hb
          rw [List.all_eq_true] at hb
          have h1 := hb i (List.mem_range.2 hin)
          rw [ho] at h1
          simp only [Array.all_eq_true, Bool.or_eq_true, Bool.not_eq_true', decide_eq_true_eq] at h1
          obtain ⟨q, hq, rfl⟩ := Array.mem_iff_getElem.1 he
          rcases h1 q hq with h2 | h2
          · rw [hbe] at h2; cases h2
          · exact ih _ (by omega) (by omega)
      · rfl
  unfold left
  rw [List.length_eq_zero_iff, List.filter_eq_nil_iff]
  intro x hx
  obtain ⟨i, hi, rfl⟩ := List.mem_iff_getElem.1 hx
  have h1 : i < l.size := by simpa using hi
  have := hall (i + 1) i (by omega) (by omega)
  simp only [Array.getD, h1, dif_pos] at this
  simpa using this
theorem getD_tf {l : Array Bool} {i : Nat} (h : l.getD i true = false) : l.getD i false = false := by
  simp only [Array.getD] at h ⊢
  split at h <;> simp_all
def Plain (P : Program) (ops : Array Oper) (Q : Exit → Act → World → Prop) (T0 : Array Value) (ds : List Deferred) (cs : List Nat) (M : List (List Nat)) (vs : (Nat → Value) → Nat → Value) (PW : (Nat → Bool) → (Nat → Value) → World → Prop) (i : Nat) : Prop :=
  ∀ o, ops[i]? = some o → i ∉ cs → ∀ d y T w', (∀ c' ∈ cs, (M.getD i []).contains c' = true → d c' = true) → Known ops T0 (vs y) o T → PW d y w' → wpOp P ops Q i (fun a' w'' => a' = Act.put ⟨T, ds⟩ o.dst (vs y i) ∧ w'' = w') ⟨T, ds⟩ w'
def Chg (P : Program) (ops : Array Oper) (Q : Exit → Act → World → Prop) (T0 : Array Value) (ds : List Deferred) (cs : List Nat) (M : List (List Nat)) (vs : (Nat → Value) → Nat → Value) (PW : (Nat → Bool) → (Nat → Value) → World → Prop) (c : Nat) : Prop :=
  ∀ o, ops[c]? = some o → ∀ d y T w', d c = false → (∀ c' ∈ cs, (M.getD c []).contains c' = true → d c' = true) → (∀ c' ∈ cs, (M.getD c' []).contains c = true → d c' = false) → Known ops T0 (vs y) o T → PW d y w' → wpOp P ops Q c (fun a' w'' => ∃ v, a' = Act.put ⟨T, ds⟩ o.dst (vs (upd y c v) c) ∧ PW (updB d c) (upd y c v) w'') ⟨T, ds⟩ w'
theorem wp_plan {id : Nat} (hm : P.follows .mixedOrders = true) (T0 : Array Value) (ds : List Deferred) (cs : List Nat) (M : List (List Nat)) (vs : (Nat → Value) → Nat → Value) (PW : (Nat → Bool) → (Nat → Value) → World → Prop) (w : World)
    (hB : dstB ops T0.size = true) (hbw : backB ops = true) (hM : maskB ops M = true) (hcin : ∀ c ∈ cs, c < ops.size)
    (hfix : ∀ c ∈ cs, ∀ i, i ≠ c → (M.getD i []).contains c = false → ∀ y v, vs (upd y c v) i = vs y i)
    (hplain : ∀ i, i < ops.size → Plain P ops Q T0 ds cs M vs PW i)
    (hchg : ∀ c ∈ cs, Chg P ops Q T0 ds cs M vs PW c)
    (h0 : ∃ y, PW (fun _ => false) y w.drew)
    (hfin : ∀ d y w', (∀ c ∈ cs, d c = true) → PW d y w' → Q .normal ⟨planT ops T0 (vs y) ops.size, ds⟩ w') :
    (Code.region id ops true).wp P Q ⟨T0, ds⟩ w := by
  refine wp_region_any hm ?_
  have hrep : ∀ i, (Array.replicate ops.size false).getD i false = false := fun i => by
    simp only [Array.getD]
    by_cases h : i < ops.size <;> simp [h]
  refine wpAny_inv2 (I := Pin ops T0 ds cs vs PW) (g := 0) (fun l a w1 hI hr => ?_) (fun l a w1 hI _ i hi => ?_) (fun l a w1 hI hl => ?_) ops.size _ _ _ (by simp [left]) (Nat.zero_le _) ?_
  · obtain ⟨y, d, h1, h2, _⟩ := hI
    exact all_listed hbw h1 hr
  · obtain ⟨y, d, h1, h2, h3, h5, h6, h7⟩ := hI
    obtain ⟨T, ds'⟩ := a
    simp only at h5 h6
    subst h5
    rw [mem_ready] at hi
    obtain ⟨hu, o, ho, hd⟩ := hi
    have hul := getD_tf hu
    have hkn : Known ops T0 (vs y) o T := ⟨fun e he hb o' d ho' hd' => h6.come e.on o' d (hd e he hb) ho' hd', fun d hn => h6.rest d fun k o' _ ho' => hn k o' ho'⟩
    by_cases hic : i ∈ cs
    · refine wpOp_mono (fun a' w'' hx => ?_) (hchg i hic o ho d y T w1 (by rw [← h3 i hic]; exact hul) (fun c' hc' ha => ?_) (fun c' hc' ha => ?_) hkn h7)
      · obtain ⟨v, rfl, hpw⟩ := hx
        have hsame : Tm ops T0 (vs (upd y i v)) l T := ⟨h6.size, (fun k o' d hl hk hd' => by
          rw [h6.come k o' d hl hk hd']
          refine (hfix i hic k (fun e => ?_) ?_ y v).symm
          · subst e
            rw [hul] at hl
            cases hl
          · cases ha : (M.getD k []).contains i
            · rfl
            · have := anc_listed hM hbw h2 (k + 1) k i o' (Nat.lt_succ_self k) hk (fun e he hb => h2 k o' hl hk e he hb) ha
              rw [hul] at this
              exact absurd this (by decide)), h6.rest⟩
        refine ⟨upd y i v, updB d i, by simp [h1], closed_set h2 ho hu hd, fun c hc => ?_, by unfold Act.put; split <;> rfl, hsame.put hB ho hu ds', hpw⟩
        rw [getD_lset l i c hu]
        unfold updB
        split
        · rfl
        · exact h3 c hc
      · rw [← h3 c' hc']
        exact anc_listed hM hbw h2 (i + 1) i c' o (Nat.lt_succ_self i) ho hd ha
      · rw [← h3 c' hc']
        cases hl : l.getD c' false
        · rfl
        · have ho' := Array.getElem?_eq_getElem (hcin c' hc')
          have := anc_listed hM hbw h2 (c' + 1) c' i _ (Nat.lt_succ_self c') ho' (fun e he hb => h2 c' _ hl ho' e he hb) ha
          rw [hul] at this
          cases this
    · refine wpOp_mono (fun a' w'' hx => ?_) (hplain i (Array.getElem?_eq_some_iff.1 ho).1 o ho hic d y T w1 (fun c' hc' ha => by rw [← h3 c' hc']; exact anc_listed hM hbw h2 (i + 1) i c' o (Nat.lt_succ_self i) ho hd ha) hkn h7)
      obtain ⟨rfl, rfl⟩ := hx
      refine ⟨y, d, by simp [h1], closed_set h2 ho hu hd, fun c hc => ?_, by unfold Act.put; split <;> rfl, h6.put hB ho hu ds', h7⟩
      rw [getD_lset l i c hu, if_neg (fun (e : c = i) => hic (by rw [← e]; exact hc)), h3 c hc]
  · obtain ⟨y, d, h1, h2, h3, h5, h6, h7⟩ := hI
    obtain ⟨T, ds'⟩ := a
    simp only at h5 h6
    subst h5
    have hall : ∀ i, i < ops.size → l.getD i false = true := fun i hi => by
      have := left_zero hl (l[i]'(by omega)) (Array.getElem_mem _)
      simpa [Array.getD, h1, hi] using this
    have hT := h6.all hB hall
    subst hT
    refine ⟨?_, hfin d y w1 (fun c hc => by rw [← h3 c hc]; exact hall c (hcin c hc)) h7⟩
    apply List.eq_nil_iff_forall_not_mem.2
    intro i hi
    rw [mem_ready] at hi
    obtain ⟨hu, o, ho, _⟩ := hi
    have := hall i (Array.getElem?_eq_some_iff.1 ho).1
    rw [getD_tf hu] at this
    cases this
  · obtain ⟨y, hy⟩ := h0
    refine ⟨y, fun _ => false, by simp, fun i o hl _ _ _ _ => (by rw [hrep] at hl; cases hl), fun c hc => hrep c, rfl, ⟨rfl, fun i o d hl _ _ => (by rw [hrep] at hl; cases hl), fun d _ => rfl⟩, hy⟩
end
end Go.Proofs.YtpggkfdijmnmiaaGreat.Pl
namespace Go.Proofs.YtpggkfdijmnmiaaGreat.Pl
open Go.RowKit Go.Sort
section
variable {P : Program} {ops : Array Oper} {Q : Exit → Act → World → Prop}
theorem wpOp_skip {i : Nat} {o : Oper} {K : Act → World → Prop} {a : Act} {w : World} (hi : ops[i]? = some o) (hg : Region.wanted o (yielded ops a.tmps) = false) (h : K (a.put o.dst undef) w) : wpOp P ops Q i K a w := by
  unfold wpOp
  simp only [hi]
  rw [if_neg (by simp [hg])]
  exact h
def readsB (ops : Array Oper) (i d k : Nat) : Bool := match ops[i]?, ops[k]? with
  | some o, some o' => o'.dst == some d && o.after.any fun e => e.on == k && Region.binds .any e
  | _, _ => false
def freeB (ops : Array Oper) (d : Nat) : Bool := ops.all fun o => o.dst != some d
theorem Known.val {T0 T : Array Value} {v : Nat → Value} {o : Oper} {i d k : Nat} (h : Known ops T0 v o T) (ho : ops[i]? = some o) (hr : readsB ops i d k = true) : T.getD d undef = v k := by
  unfold readsB at hr
  rw [ho] at hr
  cases hk : ops[k]? with
  | none => rw [hk] at hr; cases hr
  | some o' =>
    rw [hk] at hr
    simp only [Bool.and_eq_true, beq_iff_eq, Array.any_eq_true] at hr
    obtain ⟨hd, m, hm, he, hb⟩ := hr
    have := h.1 _ (Array.getElem_mem hm) hb o' d (by rw [he]; exact hk) hd
    rw [he] at this
    exact this
theorem Known.old {T0 T : Array Value} {v : Nat → Value} {o : Oper} {d : Nat} (h : Known ops T0 v o T) (hf : freeB ops d = true) : T.getD d undef = T0.getD d undef := by
  refine h.2 d fun k o' hk hd => ?_
  unfold freeB at hf
  rw [Array.all_eq_true] at hf
  obtain ⟨h1, h2⟩ := Array.getElem?_eq_some_iff.1 hk
  have := hf k h1
  rw [h2, hd] at this
  simp at this
theorem op_core {i : Nat} {o : Oper} {dst : Option Tmp} {op : Go.Op} {ty : TypeId} {gd : Option (Nat × Bool)} (h : (ops[i]?).map (fun o => (o.dst, o.op, o.type, o.guard)) = some (dst, op, ty, gd)) (ho : ops[i]? = some o) : ∃ ps af, o = ⟨dst, op, ty, ps, af, gd⟩ := by
  rw [ho] at h
  obtain ⟨a, b, c, d, e, f⟩ := o
  simp only [Option.map_some, Option.some.injEq, Prod.mk.injEq] at h
  obtain ⟨rfl, rfl, rfl, rfl⟩ := h
  exact ⟨_, _, rfl⟩
theorem Known.is {T0 T : Array Value} {v : Nat → Value} {o : Oper} {i d : Nat} {x : Value} (h : Known ops T0 v o T) (k : Nat) (ho : ops[i]? = some o) (hr : readsB ops i d k = true) (hx : v k = x) : T.getD d undef = x := (h.val ho hr).trans hx
theorem Known.of {T0 T : Array Value} {v : Nat → Value} {o : Oper} {d : Nat} {x : Value} (h : Known ops T0 v o T) (hf : freeB ops d = true) (hx : T0.getD d undef = x) : T.getD d undef = x := (h.old hf).trans hx
theorem core {i : Nat} {o : Oper} (dst : Option Tmp) (op : Go.Op) (ty : TypeId) (gd : Option (Nat × Bool)) (ho : ops[i]? = some o) (h : (ops[i]?).map (fun o => (o.dst, o.op, o.type, o.guard)) = some (dst, op, ty, gd)) : ∃ ps af, o = ⟨dst, op, ty, ps, af, gd⟩ := op_core h ho
theorem getD_some {T : Array Value} {d : Nat} {v : Value} (h : T.getD d undef = v) (hv : v ≠ undef) : T[d]? = some v := by
  simp only [Array.getD] at h
  by_cases hd : d < T.size
  · simp only [hd, dif_pos] at h
    rw [Array.getElem?_eq_getElem hd]
    exact congrArg some h
  · simp only [hd, dif_neg, not_false_eq_true] at h
    exact absurd h.symm hv
theorem wanted_of {o : Oper} {T : Array Value} {j d : Nat} {b wb : Bool} (hg : o.guard = some (j, wb)) (hd : (ops[j]?).bind (·.dst) = some d) (hT : T.getD d undef = .bool b) : Region.wanted o (yielded ops T) = (b == wb) := by
  unfold Region.wanted yielded
  rw [hg]
  simp only [hd, Option.bind_some, getD_some hT (by intro h; cases h)]
  cases b <;> cases wb <;> rfl
theorem wpOp_want {i : Nat} {o : Oper} {K : Act → World → Prop} {a : Act} {w : World} (hi : ops[i]? = some o) (hg : Region.wanted o (yielded ops a.tmps) = true) (h : o.wp P a w K Q) : wpOp P ops Q i K a w := by
  unfold wpOp
  simp only [hi]
  rw [if_pos hg]
  exact .inl h
theorem wpOp_plain {i : Nat} {o : Oper} {K : Act → World → Prop} {a : Act} {w : World} (hi : ops[i]? = some o) (hg : o.guard = none) (h : o.wp P a w K Q) : wpOp P ops Q i K a w := by
  unfold wpOp
  simp only [hi]
  rw [if_pos (by unfold Region.wanted; rw [hg])]
  exact .inl h
theorem all_step {F : Nat → Prop} {n : Nat} (h : ∀ i, i < n → F i) (hn : F n) : ∀ i, i < n + 1 → F i := fun i hi => by
  rcases Nat.lt_succ_iff_lt_or_eq.1 hi with h1 | rfl
  · exact h i h1
  · exact hn
theorem all_zero {F : Nat → Prop} : ∀ i, i < 0 → F i := fun i hi => absurd hi (Nat.not_lt_zero i)
def mkV (V : List ((Nat × (Value → Value)) ⊕ Value)) (y : Nat → Value) (i : Nat) : Value := match V[i]? with
  | some (.inl (k, g)) => g (y k)
  | some (.inr v) => v
  | none => undef
def depB (M : List (List Nat)) (V : List ((Nat × (Value → Value)) ⊕ Value)) : Bool := (List.range V.length).all fun i => match V[i]? with
  | some (.inl (k, _)) => i == k || (M.getD i []).contains k
  | _ => true
theorem mkV_fix {M : List (List Nat)} {V : List ((Nat × (Value → Value)) ⊕ Value)} (h : depB M V = true) {i c : Nat} (hi : i ≠ c) (ha : (M.getD i []).contains c = false) (y : Nat → Value) (v : Value) : mkV V (upd y c v) i = mkV V y i := by
  unfold mkV
  cases hv : V[i]? with
  | none => rfl
  | some x =>
    cases x with
    | inr z => rfl
    | inl kg =>
      obtain ⟨k, g⟩ := kg
      show g (upd y c v k) = g (y k)
      refine congrArg g ?_
      unfold upd
      rw [if_neg fun e => ?_]
      subst e
      unfold depB at h
      rw [List.all_eq_true] at h
      have := h i (List.mem_range.2 (List.getElem?_eq_some_iff.1 hv).1)
      rw [hv] at this
      simp only [Bool.or_eq_true, beq_iff_eq] at this
      rcases this with e | e
      · exact hi e
      · rw [ha] at e
        cases e
section
variable {T0 T : Array Value} {W : List ((Nat × (Value → Value)) ⊕ Value)} {y : Nat → Value} {o : Oper} {i : Nat} {ds : List Deferred} {w : World}
theorem pl1 (dst s k : Nat) (ty : TypeId) {op : Go.Op} {x v : Value} (ho : ops[i]? = some o) (hK : Known ops T0 (mkV W y) o T) (hc : (ops[i]?).map (fun o => (o.dst, o.op, o.type, o.guard)) = some (some dst, op, ty, none)) (hr : readsB ops i s k = true) (hk : mkV W y k = x) (hi : mkV W y i = v) (h : ∀ ps af, T.getD s undef = x → Oper.wp P ⟨some dst, op, ty, ps, af, none⟩ ⟨T, ds⟩ w (fun a' w'' => a' = Act.put ⟨T, ds⟩ (some dst) v ∧ w'' = w) Q) : wpOp P ops Q i (fun a' w'' => a' = Act.put ⟨T, ds⟩ o.dst (mkV W y i) ∧ w'' = w) ⟨T, ds⟩ w := by
  obtain ⟨ps, af, rfl⟩ := op_core hc ho
  subst hk hi
  exact wpOp_plain ho rfl (h ps af (hK.val ho hr))
theorem pl0 (dst s : Nat) (ty : TypeId) {op : Go.Op} {x v : Value} (ho : ops[i]? = some o) (hK : Known ops T0 (mkV W y) o T) (hc : (ops[i]?).map (fun o => (o.dst, o.op, o.type, o.guard)) = some (some dst, op, ty, none)) (hr : freeB ops s = true) (hk : T0.getD s undef = x) (hi : mkV W y i = v) (h : ∀ ps af, T.getD s undef = x → Oper.wp P ⟨some dst, op, ty, ps, af, none⟩ ⟨T, ds⟩ w (fun a' w'' => a' = Act.put ⟨T, ds⟩ (some dst) v ∧ w'' = w) Q) : wpOp P ops Q i (fun a' w'' => a' = Act.put ⟨T, ds⟩ o.dst (mkV W y i) ∧ w'' = w) ⟨T, ds⟩ w := by
  obtain ⟨ps, af, rfl⟩ := op_core hc ho
  subst hi
  exact wpOp_plain ho rfl (h ps af ((hK.old hr).trans hk))
theorem pg0 (j d : Nat) (b : Bool) (dst s : Nat) (ty : TypeId) {op : Go.Op} {x v : Value} (ho : ops[i]? = some o) (hK : Known ops T0 (mkV W y) o T) (hc : (ops[i]?).map (fun o => (o.dst, o.op, o.type, o.guard)) = some (some dst, op, ty, some (j, b))) (hd : (ops[j]?).bind (·.dst) = some d) (hrj : readsB ops i d j = true) (hj : mkV W y j = .bool b) (hr : freeB ops s = true) (hk : T0.getD s undef = x) (hi : mkV W y i = v) (h : ∀ ps af, T.getD s undef = x → Oper.wp P ⟨some dst, op, ty, ps, af, some (j, b)⟩ ⟨T, ds⟩ w (fun a' w'' => a' = Act.put ⟨T, ds⟩ (some dst) v ∧ w'' = w) Q) : wpOp P ops Q i (fun a' w'' => a' = Act.put ⟨T, ds⟩ o.dst (mkV W y i) ∧ w'' = w) ⟨T, ds⟩ w := by
  obtain ⟨ps, af, rfl⟩ := op_core hc ho
  subst hi
  exact wpOp_want ho ((wanted_of (d := d) (b := b) rfl hd ((hK.val ho hrj).trans hj)).trans (by simp)) (h ps af ((hK.old hr).trans hk))
theorem psk (j d : Nat) (b wb : Bool) (ho : ops[i]? = some o) (hK : Known ops T0 (mkV W y) o T) (hc : (ops[i]?).map (·.guard) = some (some (j, wb))) (hd : (ops[j]?).bind (·.dst) = some d) (hrj : readsB ops i d j = true) (hj : mkV W y j = .bool b) (hb : (b == wb) = false) (hi : mkV W y i = undef) : wpOp P ops Q i (fun a' w'' => a' = Act.put ⟨T, ds⟩ o.dst (mkV W y i) ∧ w'' = w) ⟨T, ds⟩ w := by
  rw [hi]
  rw [ho] at hc
  exact wpOp_skip ho ((wanted_of (d := d) (b := b) (by simpa using hc) hd ((hK.val ho hrj).trans hj)).trans hb) ⟨rfl, rfl⟩
theorem k_mv {ty : TypeId} {dst : Option Tmp} {s : Nat} {ps af g} {x : Value} (e : T.getD s undef = x) : Oper.wp P ⟨dst, .move (.tmp s), ty, ps, af, g⟩ ⟨T, ds⟩ w (fun a' w'' => a' = Act.put ⟨T, ds⟩ dst x ∧ w'' = w) Q := by
  subst e
  exact ⟨rfl, rfl⟩
theorem k_as {ty : TypeId} {dst : Option Tmp} {s : Nat} {ps af g} {x : Value} (e : T.getD s undef = x) : Oper.wp P ⟨dst, .assign (.tmp s), ty, ps, af, g⟩ ⟨T, ds⟩ w (fun a' w'' => a' = Act.put ⟨T, ds⟩ dst x ∧ w'' = w) Q := by
  subst e
  exact ⟨rfl, rfl⟩
end
end
end Go.Proofs.YtpggkfdijmnmiaaGreat.Pl
namespace Go.Proofs.YtpggkfdijmnmiaaGreat.Pl
open Go.RowKit Go.Sort Limbs
noncomputable def tBO : Array Oper := (Tryz.f42.body.bind fun c => findR c 1).getD #[]
def tB_m : List (List Nat) := [[], [], [1], [1, 2], [1, 2], [1, 2], [], [1, 2, 6], [1, 2, 6, 7]]
set_option maxHeartbeats 16000000 in
theorem tB (PW : Bool → Bool → Bool → Bool → Value → World → Prop) (gk k x y : Nat) (i : Bool) (w : World)  (cl1 : ∀ (b6 : Bool) (y6 : Value) (w : World), PW false false b6 false y6 w → Calls Tryz.prog 48 #[] w fun e w1 => e = .returned (.agg #[.int .u64 17627433388654248598, .int .u64 8575836109218198432, .int .u64 17923454489921339634, .int .u64 7716867327612699207, .int .u64 14678990851816772085, .int .u64 3156516839386865358, .int .u64 10297457778147434006, .int .u64 5756518291402817435, .bool false]) ∧ PW true false b6 false y6 w1) (cl2 : ∀ (b6 : Bool) (y6 : Value) (w : World), PW true false b6 false y6 w → Calls Tryz.prog 93 #[.agg #[.int .u64 (lb k 0 : Nat), .int .u64 (lb k 1 : Nat), .int .u64 (lb k 2 : Nat), .int .u64 (lb k 3 : Nat)], .agg #[.int .u64 17627433388654248598, .int .u64 8575836109218198432, .int .u64 17923454489921339634, .int .u64 7716867327612699207, .int .u64 14678990851816772085, .int .u64 3156516839386865358, .int .u64 10297457778147434006, .int .u64 5756518291402817435, .bool false]] w fun e w1 => e = .returned (.tuple #[.agg #[.int .u64 (lb x 0 : Nat), .int .u64 (lb x 1 : Nat), .int .u64 (lb x 2 : Nat), .int .u64 (lb x 3 : Nat), .int .u64 (lb y 0 : Nat), .int .u64 (lb y 1 : Nat), .int .u64 (lb y 2 : Nat), .int .u64 (lb y 3 : Nat), .bool i], .int .i64 0]) ∧ PW true true b6 false y6 w1) (cl6 : ∀ (b1 b2 : Bool) (y6 : Value) (w : World), PW b1 b2 false false y6 w → PW b1 b2 true false (.pointer (some ⟨w.heap.size, 0, none⟩)) (w.alloc (.cells #[.int .u64 0, .int .u64 0, .int .u64 0, .int .u64 0, .int .u64 0, .int .u64 0, .int .u64 0, .int .u64 0, .bool false] 26))) (cl7 : ∀ (y6 : Value) (w : World), PW true true true false y6 w → ∃ (g : Nat) (d0 d1 d2 d3 d4 d5 d6 d7 d8 : Value), y6 = .pointer (some ⟨g, 0, none⟩) ∧ Bk 26 w g #[d0, d1, d2, d3, d4, d5, d6, d7, d8] ∧ PW true true true true y6 (((((((((w.setCell ⟨g, 0, none⟩ (.int .u64 (lb x 0 : Nat))).setCell ⟨g, 1, none⟩ (.int .u64 (lb x 1 : Nat))).setCell ⟨g, 2, none⟩ (.int .u64 (lb x 2 : Nat))).setCell ⟨g, 3, none⟩ (.int .u64 (lb x 3 : Nat))).setCell ⟨g, 4, none⟩ (.int .u64 (lb y 0 : Nat))).setCell ⟨g, 5, none⟩ (.int .u64 (lb y 1 : Nat))).setCell ⟨g, 6, none⟩ (.int .u64 (lb y 2 : Nat))).setCell ⟨g, 7, none⟩ (.int .u64 (lb y 3 : Nat))).setCell ⟨g, 8, none⟩ (.bool i))) (lk : ∀ (b1 b2 b6 b7 : Bool) (y6 : Value) (w : World), PW b1 b2 b6 b7 y6 w → w.cell? ⟨gk, 0, none⟩ = some (.int .u64 (lb k 0 : Nat)) ∧ w.cell? ⟨gk, 1, none⟩ = some (.int .u64 (lb k 1 : Nat)) ∧ w.cell? ⟨gk, 2, none⟩ = some (.int .u64 (lb k 2 : Nat)) ∧ w.cell? ⟨gk, 3, none⟩ = some (.int .u64 (lb k 3 : Nat))) {t0 t2 t3 t4 t5 t6 t7 t8 t9 t10 t11 : Value} (w0 : PW false false false false t3 w.drew) {ds : List Deferred} {Q : Exit → Act → World → Prop}
    (h : ∀ (y6 : Value) (w1 : World), PW true true true true y6 w1 → Q .normal { tmps := #[t0, .pointer (some ⟨gk, 0, none⟩), t2, y6, .int .i64 0, .tuple #[.agg #[.int .u64 (lb x 0 : Nat), .int .u64 (lb x 1 : Nat), .int .u64 (lb x 2 : Nat), .int .u64 (lb x 3 : Nat), .int .u64 (lb y 0 : Nat), .int .u64 (lb y 1 : Nat), .int .u64 (lb y 2 : Nat), .int .u64 (lb y 3 : Nat), .bool i], .int .i64 0], .agg #[.int .u64 (lb k 0 : Nat), .int .u64 (lb k 1 : Nat), .int .u64 (lb k 2 : Nat), .int .u64 (lb k 3 : Nat)], .agg #[.int .u64 17627433388654248598, .int .u64 8575836109218198432, .int .u64 17923454489921339634, .int .u64 7716867327612699207, .int .u64 14678990851816772085, .int .u64 3156516839386865358, .int .u64 10297457778147434006, .int .u64 5756518291402817435, .bool false], .tuple #[.agg #[.int .u64 (lb x 0 : Nat), .int .u64 (lb x 1 : Nat), .int .u64 (lb x 2 : Nat), .int .u64 (lb x 3 : Nat), .int .u64 (lb y 0 : Nat), .int .u64 (lb y 1 : Nat), .int .u64 (lb y 2 : Nat), .int .u64 (lb y 3 : Nat), .bool i], .int .i64 0], .agg #[.int .u64 (lb x 0 : Nat), .int .u64 (lb x 1 : Nat), .int .u64 (lb x 2 : Nat), .int .u64 (lb x 3 : Nat), .int .u64 (lb y 0 : Nat), .int .u64 (lb y 1 : Nat), .int .u64 (lb y 2 : Nat), .int .u64 (lb y 3 : Nat), .bool i], .int .i64 0, t11], defers := ds } w1) :
    (Code.region 1 tBO true).wp Tryz.prog Q { tmps := #[t0, .pointer (some ⟨gk, 0, none⟩), t2, t3, t4, t5, t6, t7, t8, t9, t10, t11], defers := ds } w := by
  have hsz : tBO.size = 9 := by kernel_rfl
  generalize hT : List.toArray _ = T0
  have hs : T0.size = 12 := by subst hT; rfl
  have g1 : T0.getD 1 undef = .pointer (some ⟨gk, 0, none⟩) := by subst hT; rfl
  obtain ⟨W, hV⟩ : ∃ W : List ((Nat × (Value → Value)) ⊕ Value), W = [.inr (.agg #[.int .u64 (lb k 0 : Nat), .int .u64 (lb k 1 : Nat), .int .u64 (lb k 2 : Nat), .int .u64 (lb k 3 : Nat)]), .inr (.agg #[.int .u64 17627433388654248598, .int .u64 8575836109218198432, .int .u64 17923454489921339634, .int .u64 7716867327612699207, .int .u64 14678990851816772085, .int .u64 3156516839386865358, .int .u64 10297457778147434006, .int .u64 5756518291402817435, .bool false]), .inr (.tuple #[.agg #[.int .u64 (lb x 0 : Nat), .int .u64 (lb x 1 : Nat), .int .u64 (lb x 2 : Nat), .int .u64 (lb x 3 : Nat), .int .u64 (lb y 0 : Nat), .int .u64 (lb y 1 : Nat), .int .u64 (lb y 2 : Nat), .int .u64 (lb y 3 : Nat), .bool i], .int .i64 0]), .inr (.tuple #[.agg #[.int .u64 (lb x 0 : Nat), .int .u64 (lb x 1 : Nat), .int .u64 (lb x 2 : Nat), .int .u64 (lb x 3 : Nat), .int .u64 (lb y 0 : Nat), .int .u64 (lb y 1 : Nat), .int .u64 (lb y 2 : Nat), .int .u64 (lb y 3 : Nat), .bool i], .int .i64 0]), .inr (.agg #[.int .u64 (lb x 0 : Nat), .int .u64 (lb x 1 : Nat), .int .u64 (lb x 2 : Nat), .int .u64 (lb x 3 : Nat), .int .u64 (lb y 0 : Nat), .int .u64 (lb y 1 : Nat), .int .u64 (lb y 2 : Nat), .int .u64 (lb y 3 : Nat), .bool i]), .inr (.int .i64 0), .inl (6, id), .inr undef, .inr (.int .i64 0)] := ⟨_, rfl⟩
  refine wp_plan (by kernel_rfl) T0 ds [1, 2, 6, 7] tB_m (mkV W) (fun dx yx wx => PW (dx 1) (dx 2) (dx 6) (dx 7) (yx 6) wx) w (by rw [hs]; kernel_rfl) (by kernel_rfl) (by kernel_rfl) (by rw [hsz]; decide) (fun cx hc ix hne ha yx vx => mkV_fix (by rw [hV]; kernel_rfl) hne ha yx vx) (?key) (fun cx hc ox ho dx yx Tx wx hd hdb hda hK hW => ?_) ⟨fun k => if k = 6 then t3 else undef, w0⟩ (fun dx yx wx hd hW => ?_)
  case key =>
    rw [hsz]
    refine all_step (all_step (all_step (all_step (all_step (all_step (all_step (all_step (all_step all_zero ?_) ?_) ?_) ?_) ?_) ?_) ?_) ?_) ?_
    all_goals
      intro ox ho hic dx yx Tx wx hdb hK hW
      replace hdb := Lib.hid hdb
    · obtain ⟨ps, af, rfl⟩ := core (some 6) (.load 24 (.tmp 1)) 24 none ho (by kernel_rfl)
      have e1 : Tx.getD 1 undef = .pointer (some ⟨gk, 0, none⟩) := hK.of (by kernel_rfl) g1
      obtain ⟨hl0, hl1, hl2, hl3⟩ := lk _ _ _ _ _ _ hW
      exact wpOp_plain ho rfl (by subst hV; go_simp; try rfl)
    · exact absurd (by decide) hic
    · exact absurd (by decide) hic
    · exact pl1 5 8 2 28 ho hK (by kernel_rfl) (by kernel_rfl) (by subst hV; rfl) (by subst hV; rfl) fun ps af e => k_mv e
    · obtain ⟨ps, af, rfl⟩ := core (some 9) (.extract (.tmp 5) 0) 26 none ho (by kernel_rfl)
      have e5 : Tx.getD 5 undef = .tuple #[.agg #[.int .u64 (lb x 0 : Nat), .int .u64 (lb x 1 : Nat), .int .u64 (lb x 2 : Nat), .int .u64 (lb x 3 : Nat), .int .u64 (lb y 0 : Nat), .int .u64 (lb y 1 : Nat), .int .u64 (lb y 2 : Nat), .int .u64 (lb y 3 : Nat), .bool i], .int .i64 0] := hK.is 3 ho (by kernel_rfl) (by subst hV; rfl)
      exact wpOp_plain ho rfl (by subst hV; go_simp; try rfl)
    · obtain ⟨ps, af, rfl⟩ := core (some 10) (.extract (.tmp 5) 1) 27 none ho (by kernel_rfl)
      have e5 : Tx.getD 5 undef = .tuple #[.agg #[.int .u64 (lb x 0 : Nat), .int .u64 (lb x 1 : Nat), .int .u64 (lb x 2 : Nat), .int .u64 (lb x 3 : Nat), .int .u64 (lb y 0 : Nat), .int .u64 (lb y 1 : Nat), .int .u64 (lb y 2 : Nat), .int .u64 (lb y 3 : Nat), .bool i], .int .i64 0] := hK.is 3 ho (by kernel_rfl) (by subst hV; rfl)
      exact wpOp_plain ho rfl (by subst hV; go_simp; try rfl)
    · exact absurd (by decide) hic
    · exact absurd (by decide) hic
    · exact pl1 4 10 5 27 ho hK (by kernel_rfl) (by kernel_rfl) (by subst hV; rfl) (by subst hV; rfl) fun ps af e => k_as e
  · have hcase : cx = 1 ∨ cx = 2 ∨ cx = 6 ∨ cx = 7 := by simpa using hc
    rcases hcase with rfl | rfl | rfl | rfl
    · obtain ⟨ps, af, rfl⟩ := core (some 7) (.call { callee := .value (.func 48), args := #[], argTypes := #[] }) 26 none ho (by kernel_rfl)
      have hW1 : PW (dx 1) (dx 2) (dx 6) (dx 7) (yx 6) wx := hW
      have f2 := hda 2 (by decide) (by kernel_rfl)
      have f7 := hda 7 (by decide) (by kernel_rfl)
      clear hdb hda
      rw [hd, f2, f7] at hW1
      replace f2 := Lib.hid f2
      replace f7 := Lib.hid f7
      clear hd hW hc
      refine wpOp_plain ho rfl ?_
      go_simp
      go_at_call 48
      refine (cl1 _ _ _ hW1).mono ?_
      rintro ex w2 ⟨rfl, hW2⟩
      subst hV
      first | refine ⟨undef, rfl, ?_⟩ | refine ⟨⟨undef, rfl⟩, ?_⟩
      simpa [updB, upd, f2.out, f7.out] using hW2
    · obtain ⟨ps, af, rfl⟩ := core (some 8) (.call { callee := .value (.func 93), args := #[.tmp 6, .tmp 7], argTypes := #[24, 26] }) 28 none ho (by kernel_rfl)
      have e6 : Tx.getD 6 undef = .agg #[.int .u64 (lb k 0 : Nat), .int .u64 (lb k 1 : Nat), .int .u64 (lb k 2 : Nat), .int .u64 (lb k 3 : Nat)] := hK.is 0 ho (by kernel_rfl) (by subst hV; rfl)
      have e7 : Tx.getD 7 undef = .agg #[.int .u64 17627433388654248598, .int .u64 8575836109218198432, .int .u64 17923454489921339634, .int .u64 7716867327612699207, .int .u64 14678990851816772085, .int .u64 3156516839386865358, .int .u64 10297457778147434006, .int .u64 5756518291402817435, .bool false] := hK.is 1 ho (by kernel_rfl) (by subst hV; rfl)
      have hW1 : PW (dx 1) (dx 2) (dx 6) (dx 7) (yx 6) wx := hW
      have f1 := hdb 1 (by decide) (by kernel_rfl)
      have f7 := hda 7 (by decide) (by kernel_rfl)
      clear hdb hda
      rw [hd, f1, f7] at hW1
      replace f1 := Lib.hid f1
      replace f7 := Lib.hid f7
      clear hd hW hc
      refine wpOp_plain ho rfl ?_
      go_simp
      go_at_call 93
      refine (cl2 _ _ _ hW1).mono ?_
      rintro ex w2 ⟨rfl, hW2⟩
      subst hV
      first | refine ⟨undef, rfl, ?_⟩ | refine ⟨⟨undef, rfl⟩, ?_⟩
      simpa [updB, upd, f1.out, f7.out] using hW2
    · obtain ⟨ps, af, rfl⟩ := core (some 3) (.alloc 26) 0 none ho (by kernel_rfl)
      have hW1 : PW (dx 1) (dx 2) (dx 6) (dx 7) (yx 6) wx := hW
      have f7 := hda 7 (by decide) (by kernel_rfl)
      clear hdb hda
      rw [hd, f7] at hW1
      replace f7 := Lib.hid f7
      clear hd hW hc
      have hW2 := cl6 _ _ _ _ hW1
      subst hV
      refine wpOp_plain ho rfl ?_
      go_simp
      refine ⟨_, rfl, ?_⟩
      simpa [updB, upd, f7.out] using hW2
    · obtain ⟨ps, af, rfl⟩ := core none (.store 26 (.tmp 3) (.tmp 9)) 0 none ho (by kernel_rfl)
      have e3 : Tx.getD 3 undef = yx 6 := hK.is 6 ho (by kernel_rfl) (by subst hV; rfl)
      have e9 : Tx.getD 9 undef = .agg #[.int .u64 (lb x 0 : Nat), .int .u64 (lb x 1 : Nat), .int .u64 (lb x 2 : Nat), .int .u64 (lb x 3 : Nat), .int .u64 (lb y 0 : Nat), .int .u64 (lb y 1 : Nat), .int .u64 (lb y 2 : Nat), .int .u64 (lb y 3 : Nat), .bool i] := hK.is 4 ho (by kernel_rfl) (by subst hV; rfl)
      have hW1 : PW (dx 1) (dx 2) (dx 6) (dx 7) (yx 6) wx := hW
      have f1 := hdb 1 (by decide) (by kernel_rfl)
      have f2 := hdb 2 (by decide) (by kernel_rfl)
      have f6 := hdb 6 (by decide) (by kernel_rfl)
      clear hdb hda
      rw [hd, f1, f2, f6] at hW1
      replace f1 := Lib.hid f1
      replace f2 := Lib.hid f2
      replace f6 := Lib.hid f6
      clear hd hW hc
      obtain ⟨g, d0, d1, d2, d3, d4, d5, d6, d7, d8, e6, hk, hW2⟩ := cl7 _ _ hW1
      rw [e6] at e3
      obtain ⟨⟨c0, c1, c2, c3⟩, ⟨c4, c5, c6, c7⟩, c8⟩ := hk.cells9
      obtain ⟨⟨z0, z1, z2, z3⟩, ⟨z4, z5, z6, z7⟩, z8⟩ := hk.fros9
      subst hV
      refine wpOp_plain ho rfl ?_
      go_simp
      simpa [updB, upd, f1.out, f2.out, f6.out] using hW2
  · have hW1 : PW (dx 1) (dx 2) (dx 6) (dx 7) (yx 6) wx := hW
    rw [hd 1 (by decide), hd 2 (by decide), hd 6 (by decide), hd 7 (by decide)] at hW1
    have hQ := h _ _ hW1
    rw [hsz]
    subst hV hT
    refine cast (congrArg (fun Tx => Q .normal ⟨Tx, ds⟩ wx) ?_) hQ
    kernel_rfl
end Go.Proofs.YtpggkfdijmnmiaaGreat.Pl
namespace Go.Proofs.YtpggkfdijmnmiaaGreat
open Go.RowKit Limbs
def pubOf (k : Nat) : Po := Po.mul k G
def z9 : Array Value := #[.int .u64 0, .int .u64 0, .int .u64 0, .int .u64 0, .int .u64 0, .int .u64 0, .int .u64 0, .int .u64 0, .bool false]
def TW (W : World) (x y : Nat) (i : Bool) (b1 b2 b6 b7 : Bool) (y6 : Value) (w' : World) : Prop :=
  Below W.heap.size W w' ∧ (b6 = true → ∃ g : Nat, y6 = .pointer (some ⟨g, 0, none⟩) ∧ W.heap.size ≤ g ∧ Bk 26 w' g (if b7 then cs9 x y i else z9))
theorem TW.on {W : World} {x y : Nat} {i b1 b2 b6 b7 c1 c2 : Bool} {y6 : Value} {w' w2 : World} (h : TW W x y i b1 b2 b6 b7 y6 w') (hb : Below w'.heap.size w' w2) : TW W x y i c1 c2 b6 b7 y6 w2 :=
  ⟨h.1.trans (hb.mono h.1.size), fun e => by
    obtain ⟨g, e1, e2, e3⟩ := h.2 e
    exact ⟨g, e1, e2, e3.below hb⟩⟩
set_option maxHeartbeats 8000000 in
theorem timesBase_any (k : Nat) (hk : k < W256) (w : World) : Calls Tryz.prog 42 #[nv k] w fun e w' => e = .returned (pubOf k).v ∧ Below w.heap.size w w' := by
  have hm := mulP hk G_on G_ok
  have HM : Hid (∀ w, Calls Tryz.prog 93 #[nv k, G.v] w fun e w' => e = .returned (.tuple #[(pubOf k).v, .int .i64 0]) ∧ Below w.heap.size w w') := Lib.hid hm
  have HB := Lib.hid kBase
  rw [vG] at HM
  clear hm
  generalize pubOf k = q at *
  obtain ⟨x, y, i⟩ := q
  unfold Po.v pn at HM ⊢
  simp only [nv, num] at HM ⊢
  go_enter Tryz.func42, Tryz.ntmps42
  go_wp2_with fail
  have K1 : Bk 24 ((w.alloc (.cells #[.int .u64 (lb k 0 : Nat), .int .u64 (lb k 1 : Nat), .int .u64 (lb k 2 : Nat), .int .u64 (lb k 3 : Nat)] 24)).alloc (.cells z9 26)) w.heap.size #[.int .u64 (lb k 0 : Nat), .int .u64 (lb k 1 : Nat), .int .u64 (lb k 2 : Nat), .int .u64 (lb k 3 : Nat)] := Bk.alloc (Bk.new rfl)
  have K2 : Bk 26 ((w.alloc (.cells #[.int .u64 (lb k 0 : Nat), .int .u64 (lb k 1 : Nat), .int .u64 (lb k 2 : Nat), .int .u64 (lb k 3 : Nat)] 24)).alloc (.cells z9 26)) (w.heap.size + 1) z9 := Bk.new (by simp)
  have hb0 : Below w.heap.size w ((w.alloc (.cells #[.int .u64 (lb k 0 : Nat), .int .u64 (lb k 1 : Nat), .int .u64 (lb k 2 : Nat), .int .u64 (lb k 3 : Nat)] 24)).alloc (.cells z9 26)) := by go_grown
  have hs0 : ((w.alloc (.cells #[.int .u64 (lb k 0 : Nat), .int .u64 (lb k 1 : Nat), .int .u64 (lb k 2 : Nat), .int .u64 (lb k 3 : Nat)] 24)).alloc (.cells z9 26)).heap.size = w.heap.size + 2 := by simp
  unfold z9 at K1 K2 hb0 hs0
  generalize ((w.alloc (.cells #[.int .u64 (lb k 0 : Nat), .int .u64 (lb k 1 : Nat), .int .u64 (lb k 2 : Nat), .int .u64 (lb k 3 : Nat)] 24)).alloc _) = W at K1 K2 hb0 hs0 ⊢
  refine Pl.tB (TW W x y i) w.heap.size k x y i W ?c1 ?c2 ?c6 ?c7 ?lk ?w0 ?h
  case c1 =>
    intro b6 y6 w1 h
    refine (HB.out w1).mono ?_
    rintro e w2 ⟨rfl, hb⟩
    exact ⟨rfl, h.on hb⟩
  case c2 =>
    intro b6 y6 w1 h
    refine (HM.out w1).mono ?_
    rintro e w2 ⟨rfl, hb⟩
    exact ⟨rfl, h.on hb⟩
  case c6 =>
    intro b1 b2 y6 w1 h
    exact ⟨h.1.trans ((show Below w1.heap.size w1 (w1.alloc (.cells z9 26)) by go_grown).mono h.1.size), fun _ => ⟨_, rfl, h.1.size, Bk.new rfl⟩⟩
  case c7 =>
    intro y6 w1 h
    obtain ⟨g, rfl, hg, hk9⟩ := h.2 rfl
    refine ⟨g, _, _, _, _, _, _, _, _, _, rfl, hk9, ?_, fun _ => ⟨g, rfl, hg, Bk.put9 hk9⟩⟩
    have hb := h.1
    go_grown
  case lk =>
    intro b1 b2 b6 b7 y6 w1 h
    have K := K1.below h.1
    exact K.cells
  case w0 => exact ⟨⟨rfl, rfl, rfl, Nat.le_refl _, fun _ _ => rfl⟩, fun h => by cases h⟩
  case h =>
  intro y6 w1 h
  obtain ⟨g, rfl, hg, hk9⟩ := h.2 rfl
  have K3 := K2.below h.1
  obtain ⟨⟨c0, c1, c2, c3⟩, ⟨c4, c5, c6, c7⟩, c8⟩ := hk9.cells9
  obtain ⟨⟨d0, d1, d2, d3⟩, ⟨d4, d5, d6, d7⟩, d8⟩ := K3.cells9
  obtain ⟨⟨f0, f1, f2, f3⟩, ⟨f4, f5, f6, f7⟩, f8⟩ := K3.fros9
  have hb1 := hb0.trans (h.1.mono hb0.size)
  go_wp2_with fail
  refine ret_cell51 rfl (w.heap.size + 1) x y i rfl (Bk.put9 K3) rfl ⟨rfl, ?_⟩
  go_grown
end Go.Proofs.YtpggkfdijmnmiaaGreat
namespace Go.Proofs.YtpggkfdijmnmiaaGreat
open Curve Limbs
instance : NeZero mN := ⟨by decide +kernel⟩
def cn (n : Nat) : Fin mN := ⟨n % mN, Nat.mod_lt _ mN_pos⟩
theorem cn_eq {a b : Nat} : cn a = cn b ↔ a % mN = b % mN := ⟨fun h => congrArg Fin.val h, fun h => Fin.ext h⟩
theorem cn_mod (a : Nat) : cn (a % mN) = cn a := cn_eq.2 (Nat.mod_mod _ _)
theorem cn_add (a b : Nat) : cn (a + b) = cn a + cn b := Fin.ext (Nat.add_mod _ _ _)
theorem cn_mul (a b : Nat) : cn (a * b) = cn a * cn b := Fin.ext (Nat.mul_mod _ _ _)
theorem cn_one : cn 1 = 1 := by apply Fin.ext; decide +kernel
theorem neg_n {x y : Fin mN} (h : x + y = 0) : x = -y := by grobner
theorem cn_zero : cn 0 = 0 := by apply Fin.ext; decide +kernel
theorem cn_opp {a : Nat} (h : a ≤ mN) : cn (mN - a) = - cn a := by
  refine neg_n ?_
  rw [← cn_add, Nat.sub_add_cancel h, ← cn_zero, cn_eq]
  rw [Nat.mod_self, Nat.zero_mod]
def iM (t : Nat) : Nat := t ^ (mN - 2) % mN
theorem iM_lt (t : Nat) : iM t < mN := Nat.mod_lt _ mN_pos
theorem cn_inv {t : Nat} (h0 : 0 < t) (h1 : t < mN) : cn t * cn (iM t) = 1 := by
  have hd : ¬ mN ∣ t := fun hd => by have := Nat.le_of_dvd h0 hd; omega
  have hf : t ^ (mN - 1) % mN = 1 := Primes.fermat (p := mN) Primes.N256 hd
  have e : t * t ^ (mN - 2) = t ^ (mN - 1) := by
    rw [← Nat.pow_succ', show (mN - 2).succ = mN - 1 by decide +kernel]
  rw [iM, cn_mod, ← cn_mul, e, ← cn_one, cn_eq, hf, Nat.mod_eq_of_lt (show 1 < mN by decide +kernel)]
def rOf (k : Nat) : Nat := (pubOf k).x % mN
def tOf (d e k : Nat) : Nat := (e + rOf k * d % mN) % mN * iM k % mN
theorem rOf_lt (k : Nat) : rOf k < mN := Nat.mod_lt _ mN_pos
theorem tOf_lt (d e k : Nat) : tOf d e k < mN := Nat.mod_lt _ mN_pos
def fitS (q : Po) (e r t : Nat) : Bool := !((pubOf (e * iM t % mN)).add (Po.mul (r * iM t % mN) q)).i && decide (((pubOf (e * iM t % mN)).add (Po.mul (r * iM t % mN) q)).x % mN = r)
theorem pub_is (k : Nat) (hk : k < W256) : pubOf k = ofPt (mul GP k) := mul_is hk G_on
theorem mN_W : mN < W256 := by decide +kernel
theorem pub_on (k : Nat) (hk : k < W256) : (pubOf k).on = true ∧ toPt (pubOf k) = mul GP k ∧ (pubOf k).ok := by
  rw [pub_is k hk]
  exact on_ofPt (mul_on GP_on k)
theorem two_is (d u v : Nat) (hd : d < mN) (hu : u < mN) (hv : v < mN) : (pubOf u).add (Po.mul v (pubOf d)) = ofPt (mul GP ((u + v * d) % mN)) := by
  have hW := mN_W
  obtain ⟨o1, p1, _⟩ := pub_on d (by omega)
  obtain ⟨o2, p2, _⟩ := pub_on u (by omega)
  have e1 : Po.mul v (pubOf d) = ofPt (mul GP (v * d)) := by
    rw [mul_is (by omega) o1, p1, mul_mul GP_on]
  obtain ⟨o3, p3, _⟩ := on_ofPt (mul_on GP_on (v * d))
  rw [e1, add_is o2 o3, p2, p3, ← mul_add GP_on, ← GP_mod]
theorem far_x {P : Pt (Fin PP)} (h : (ofPt P).i = true) : (ofPt P).x = 0 := by
  cases P with
  | far => rfl
  | aff x y => cases h
theorem not_far {P : Pt (Fin PP)} (h : (ofPt P).x ≠ 0) : (ofPt P).i = false := by
  cases hi : (ofPt P).i with
  | false => rfl
  | true => exact absurd (far_x hi) h
theorem x_ne {k : Nat} (h : rOf k ≠ 0) : (pubOf k).x ≠ 0 := fun h0 => h (by rw [rOf, h0, Nat.zero_mod])
theorem fit_k {E R D T K I Sv : Fin mN} (hT : T = (E + R * D) * I) (hK : K * I = 1) (hS : T * Sv = 1) : E * Sv + R * Sv * D = K := by grobner
theorem fit_m {E R D T K I Sv : Fin mN} (hT : T = (E + R * D) * I) (hK : K * I = 1) (hS : -T * Sv = 1) : E * Sv + R * Sv * D = -K := by grobner
theorem cn_t (d e k : Nat) : cn (tOf d e k) = (cn e + cn (rOf k) * cn d) * cn (iM k) := by
  rw [tOf, cn_mod, cn_mul, cn_mod, cn_add, cn_mod, cn_mul]
theorem cn_u (d e r t : Nat) : cn ((e * iM t % mN + r * iM t % mN * d) % mN) = cn e * cn (iM t) + cn r * cn (iM t) * cn d := by
  rw [cn_mod, cn_add, cn_mod, cn_mul, cn_mul, cn_mod, cn_mul]
theorem fits_sign {d e k : Nat} (hd : 0 < d ∧ d < mN) (hk : 0 < k ∧ k < mN) (hr : rOf k ≠ 0) (ht : tOf d e k ≠ 0) : fitS (pubOf d) e (rOf k) (tOf d e k) = true := by
  have hp := two_is d (e * iM (tOf d e k) % mN) (rOf k * iM (tOf d e k) % mN) hd.2 (Nat.mod_lt _ mN_pos) (Nat.mod_lt _ mN_pos)
  have hu : (e * iM (tOf d e k) % mN + rOf k * iM (tOf d e k) % mN * d) % mN = k := by
    have h1 := fit_k (cn_t d e k) (cn_inv hk.1 hk.2) (cn_inv (Nat.pos_of_ne_zero ht) (tOf_lt d e k))
    rw [← cn_u, cn_eq, Nat.mod_mod, Nat.mod_eq_of_lt hk.2] at h1
    exact h1
  rw [hu, ← pub_is k (Nat.lt_trans hk.2 mN_W)] at hp
  have hi : (pubOf k).i = false := by
    have := x_ne hr
    rw [pub_is k (Nat.lt_trans hk.2 mN_W)] at this ⊢
    exact not_far this
  unfold fitS
  rw [hp, hi]
  simp [rOf]
theorem neg_mul {k : Nat} (hk : k ≤ mN) : mul GP (mN - k) = Curve.neg (mul GP k) := by
  refine canc_p (mul_on GP_on k) (mul_on GP_on _) (on_neg (mul_on GP_on k)) ?_
  rw [← mul_add GP_on, show k + (mN - k) = mN by omega, GP_N, sum_neg]
theorem Po.neg_x (P : Pt (Fin PP)) : (ofPt (Curve.neg P)).x = (ofPt P).x ∧ (ofPt (Curve.neg P)).i = (ofPt P).i := by
  cases P with
  | far => exact ⟨rfl, rfl⟩
  | aff x y => exact ⟨rfl, rfl⟩
theorem fits_twin {d e k : Nat} (hd : 0 < d ∧ d < mN) (hk : 0 < k ∧ k < mN) (hr : rOf k ≠ 0) (ht : tOf d e k ≠ 0) : fitS (pubOf d) e (rOf k) (mN - tOf d e k) = true := by
  have hlt := tOf_lt d e k
  have hp := two_is d (e * iM (mN - tOf d e k) % mN) (rOf k * iM (mN - tOf d e k) % mN) hd.2 (Nat.mod_lt _ mN_pos) (Nat.mod_lt _ mN_pos)
  have hu : (e * iM (mN - tOf d e k) % mN + rOf k * iM (mN - tOf d e k) % mN * d) % mN = mN - k := by
    have h2 := cn_inv (t := mN - tOf d e k) (by omega) (by omega)
    rw [cn_opp (by omega)] at h2
    have h1 := fit_m (cn_t d e k) (cn_inv hk.1 hk.2) h2
    rw [← cn_u, ← cn_opp (by omega), cn_eq, Nat.mod_mod, Nat.mod_eq_of_lt (show mN - k < mN by omega)] at h1
    exact h1
  rw [hu, neg_mul (by omega)] at hp
  have hx := x_ne hr
  rw [pub_is k (Nat.lt_trans hk.2 mN_W)] at hx
  have hi := not_far hx
  obtain ⟨n1, n2⟩ := Po.neg_x (mul GP k)
  unfold fitS
  rw [hp, n2, hi, n1]
  rw [rOf, pub_is k (Nat.lt_trans hk.2 mN_W)]
  simp
end Go.Proofs.YtpggkfdijmnmiaaGreat
