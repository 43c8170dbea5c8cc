/- A drawn region within a round of a loop over a function, walked as outside of it. General, of any program. No condition but that nothing is deferred in it. The test of a signature's numbers. No condition. The signature by the first nonce that is good, and Sign. Condition: the numbers are below N; texts of at most 2^47 - 4096 bytes. What sign's Sign answers of a private key. Condition: texts of at  -/
import Derived.OrdersIn
import Derived.RangeFuncNested
import Derived.RangeFuncCalls
import Derived.Test.YtpggkfdijmnmiaaGreatZuf02
import Derived.Sort.CutIn
import Derived.Test.YtpggkfdijmnmiaaGreatZuf15
import Derived.Test.YtpggkfdijmnmiaaGreatZuf11
import Derived.Test.YtpggkfdijmnmiaaGreatZuf12
import Derived.LoopN
import Derived.Laws.BitsAllLaws
import Derived.Laws.BitsLemmas
set_option linter.unusedVariables false
set_option linter.unusedSimpArgs false
set_option maxRecDepth 100000
namespace Go.Proofs.YtpggkfdijmnmiaaGreat
open Go.RowKit Go.Sort
section
variable {P : Program}
theorem any_below_tail {Q : Exit → Act → World → Prop} {a : Act} {w : World} {l : List Oper} (n : Nat) (hB : Region.lexTailB .any l.toArray n = true)
    (h : wpQuiet P l.toArray (fun w' => ∃ p : Regrown, w' = grow (redrawn w p.d) p.os) (fun a' => ∀ w', (∃ p : Regrown, w' = grow (redrawn w p.d) p.os) → wpList P l.toArray Q (l.drop n) a' w') (l.take n) a) : wpAny P .any l.toArray Q l.toArray.size (Array.replicate l.toArray.size false) a { w with drawn := w.drawn + 1 } := by
  simp only [Region.lexTailB, Bool.and_eq_true, decide_eq_true_eq] at hB
  obtain ⟨⟨⟨⟨hsel, hn⟩, hs⟩, hc⟩, hlex⟩ := hB
  have hn' : n < l.length := by simpa using hn
  have htl : (l.take n).length = n := by simp; omega
  have hdl : (l.drop n).length = l.toArray.size - n := by simp
  have inv0 : HeadInv .any l.toArray n (Array.replicate l.toArray.size false) :=
    ⟨by simp, fun j oj _ hl => (by rw [getD_replicate_false] at hl; cases hl), fun t _ ht => getD_in (by simpa using ht) (getD_replicate_false _ _)⟩
  have H := headQ_lex (md := .any) (g := l.toArray.size - n) hsel hs hc hn (l.take n) 0 _ a (fun j hj => by
    have hj' : j < n := by rw [htl] at hj; exact hj
    simp [hj']) (by simpa using htl) inv0 (by rw [htl]; exact hlex) h
  have := any_of_headQ (Q := Q) (g := l.toArray.size - n) (fun ls a' w' hw' hL => by
    have := wpAny_of_seq (md := .any) (Q' := Q) (l.drop n) n ls a' w' (fun j => by simp [List.getElem?_drop]) (by rw [hdl]; exact hL.1) (hL.2 w' hw')
    rwa [hdl] at this) _ _ _ _ (show ∃ p : Regrown, _ = grow (redrawn w p.d) p.os from ⟨⟨w.drawn + 1, #[]⟩, by rw [grow_empty]⟩) H
  rw [htl, show n + (l.toArray.size - n) = l.toArray.size by omega] at this
  exact this
def noDefer (l : List Oper) : Bool := l.all fun o => match o.op with
  | .defer _ => false
  | _ => true
theorem noDefer_spec {l : List Oper} (h : noDefer l = true) {i : Nat} {o : Oper} (hi : l.toArray[i]? = some o) (c : Call) : o.op ≠ .defer c := by
  intro hc
  have hm : o ∈ l := List.mem_iff_getElem?.2 ⟨i, by simpa using hi⟩
  have := List.all_eq_true.1 h o hm
  rw [hc] at this
  cases this
theorem op_in {l : Nat} {n : Nat} {ops : Array Oper} {Q : Exit → Act → World → Prop} {i : Nat} {K K' : Act → World → Prop} {a : Act} {w : World} (hQ : ∀ a w, ¬ Q .outgrown a w) (hd : ∀ o, ops[i]? = some o → ∀ c, o.op ≠ .defer c) (hK : ∀ a w, K a w → K' a w) (h : wpOp P ops Q i K a w) : wpOpIn (Fence.wide.inRound l) n P ops Q i K' a w := by
  unfold wpOp at h
  unfold wpOpIn
  cases hi : ops[i]? with
  | none =>
    rw [hi] at h
    exact hK _ _ h
  | some o =>
    rw [hi] at h
    simp only [] at h ⊢
    split
    · rename_i hw
      rw [if_pos hw] at h
      rcases h with h | ⟨_, a', w', hq⟩
      · refine ⟨fun _ _ => trivial, ?_⟩
        rw [Oper.semAt_eq _ _ _ (hd o hi)]
        unfold Oper.wp at h
        generalize (execOp a.eval o).run P w = r at h ⊢
        cases r with
        | halt e w' =>
          cases e <;> first | exact h | exact h.elim
        | ok x w' =>
          cases x with
          | value v => exact hK _ _ h
          | skip => exact hK _ _ h
          | defer d => exact hK _ _ h
          | enter f args =>
            refine ⟨(fun hh => by cases hh), CallsIn.inRound l (callsIn_wide.2 (Calls.mono h ?_))⟩
            intro e w2 h2
            cases e with
            | returned v => exact hK _ _ h2
            | panicked c => exact h2
            | outgrown => exact h2
          | row row args =>
            refine ⟨(fun hh => by cases hh), ?_⟩
            intro c cs _
            obtain ⟨v, w2, h2, h3⟩ := h c cs
            exact ⟨v, w2, hK _ _ h2, stepsIn_wide.2 h3⟩
          | _ => exact h.elim
      · exact absurd hq (hQ _ _)
    · rename_i hw
      rw [if_neg hw] at h
      exact ⟨fun _ _ => trivial, hK _ _ h⟩
theorem any_in {l : Nat} {n : Nat} {md : Region.Mode} {ops : Array Oper} {Q : Exit → Act → World → Prop} (hQ : ∀ a w, ¬ Q .outgrown a w) (hd : ∀ (i : Nat) (o : Oper), ops[i]? = some o → ∀ c : Call, o.op ≠ .defer c) : ∀ (fuel : Nat) (listed : Array Bool) (a : Act) (w : World), wpAny P md ops Q fuel listed a w → wpAnyIn (Fence.wide.inRound l) n P md ops Q fuel listed a w := by
  intro fuel
  induction fuel with
  | zero => exact fun listed a w h => h
  | succ fuel ih => exact fun listed a w h => ⟨h.1, fun i hi => op_in hQ (hd i) (fun a w h => ih _ a w h) (h.2 i hi)⟩
theorem wpIn_region_below_tail {r m : Nat} {id : Nat} {Q : Exit → Act → World → Prop} {a : Act} {w : World} {l : List Oper} (n : Nat) (hm : P.follows .mixedOrders = true) (hB : Region.lexTailB .any l.toArray n = true) (hd : noDefer l = true) (hQ : ∀ a w, ¬ Q .outgrown a w)
    (h : wpQuiet P l.toArray (fun w' => ∃ p : Regrown, w' = grow (redrawn w p.d) p.os) (fun a' => ∀ w', (∃ p : Regrown, w' = grow (redrawn w p.d) p.os) → wpList P l.toArray Q (l.drop n) a' w') (l.take n) a) : (Code.region id l.toArray true).wpIn (Fence.wide.inRound r) m P Q a w :=
  wpIn_region_any hm (any_in hQ (fun i o hi c => noDefer_spec hd hi c) _ _ _ _ (any_below_tail n hB h))
end
end Go.Proofs.YtpggkfdijmnmiaaGreat
namespace Go.Proofs.YtpggkfdijmnmiaaGreat
open Go.RowKit Go.Shelf Go.Sort Limbs
attribute [local go_sem] Oper.semAt_some
def fR : Code → Nat → Option (Array Oper)
  | .region id ops _, n => if id = n then some ops else none
  | .seq a b, n => (fR a n).or (fR b n)
  | .cond _ a b, n => (fR a n).or (fR b n)
  | .block _ a, n => fR a n
  | .loop a, n => fR a n
  | .scope a, n => fR a n
  | .rangeFunc _ _ a b, n => (fR a n).or (fR b n)
  | _, _ => none
theorem up_of_below {B : Nat} {A C : World} (h : Below A.heap.size A C) : Up B A C := ⟨h.size, fun q _ hl => h.block q hl⟩
theorem up_set {B b i : Nat} {A : World} {v : Value} (hb : b < B) : Up B A (A.setCell ⟨b, i, none⟩ v) := by
  refine ⟨Nat.le_of_eq ?_, fun q hq _ => Below.heap_setCell A ⟨b, i, none⟩ v q (by simp; omega)⟩
  simp
noncomputable def sg4O : Array Oper := (Tryz.f50.body.bind fun c => fR c 4).getD #[]
set_option maxHeartbeats 16000000 in
theorem sg4 (l g9 g10 : Nat) (r0 r1 r2 r3 s0 s1 s2 s3 : Value) (V : World) (z1 z2 : Bool)
    (K9 : Bk 24 V g9 #[r0, r1, r2, r3]) (K10 : Bk 24 V g10 #[s0, s1, s2, s3])
    (hq1 : ∀ w, (Op.equalIn 10000 24 (.agg #[r0, r1, r2, r3]) (.agg #[.int .u64 0, .int .u64 0, .int .u64 0, .int .u64 0])).run Tryz.prog w = .ok z1 w)
    (hq2 : ∀ w, (Op.equalIn 10000 24 (.agg #[s0, s1, s2, s3]) (.agg #[.int .u64 0, .int .u64 0, .int .u64 0, .int .u64 0])).run Tryz.prog w = .ok z2 w)
    {t0 t1 t2 t3 t4 t5 t6 t7 t8 t11 t12 t13 t14 t15 t16 t17 t18 t19 t20 t21 t22 t23 t24 t25 t26 t27 t28 t29 t30 t31 t32 : Value} {ds : List Deferred} {K : Act → World → Prop} {Q : Exit → Act → World → Prop}
    (h : ∀ x20 x21 x22 x23 x24 x25 x26, K { tmps := #[t0, t1, t2, t3, t4, t5, t6, t7, t8, .pointer (some ⟨g9, 0, none⟩), .pointer (some ⟨g10, 0, none⟩), t11, t12, t13, t14, t15, t16, t17, t18, t19, x20, x21, x22, x23, x24, x25, x26, .bool (!z1 && !z2), t28, t29, t30, t31, t32], defers := ds } V) :
    (Code.region 4 sg4O false).wpIn (Fence.wide.inRound l) 6 Tryz.prog (Exit.then K Q) { tmps := #[t0, t1, t2, t3, t4, t5, t6, t7, t8, .pointer (some ⟨g9, 0, none⟩), .pointer (some ⟨g10, 0, none⟩), t11, t12, t13, t14, t15, t16, t17, t18, t19, t20, t21, t22, t23, t24, t25, t26, t27, t28, t29, t30, t31, t32], defers := ds } V := by
  obtain ⟨x0, x1, x2, x3⟩ := K9.cells
  obtain ⟨y0, y1, y2, y3⟩ := K10.cells
  simp only [sg4O, fR, Tryz.f50, Option.bind_some, Option.or, Option.getD, Nat.reduceEqDiff, if_true, if_false, reduceIte]
  cases z1 with
  | true =>
    gi_wp2
    exact h _ _ _ _ _ _ _
  | false =>
    gi_wp2
    exact h _ _ _ _ _ _ _
noncomputable def sg5O : Array Oper := (Tryz.f50.body.bind fun c => fR c 5).getD #[]
set_option maxHeartbeats 16000000 in
theorem sg5 (l g9 g10 b6 b7 R B : Nat) (r0 r1 r2 r3 s0 s1 s2 s3 u6 u7 : Value) (RB TB SB : ByteArray) (V : World)
    (K9 : Bk 24 V g9 #[r0, r1, r2, r3]) (K10 : Bk 24 V g10 #[s0, s1, s2, s3]) (K6 : Bk 9 V b6 #[u6]) (K7 : Bk 27 V b7 #[u7])
    (HB1 : ∀ W, Calls Tryz.prog 19 #[.agg #[r0, r1, r2, r3]] W fun x w' => x = .returned (.string RB) ∧ Below W.heap.size W w')
    (HB2 : ∀ W, Calls Tryz.prog 19 #[.agg #[s0, s1, s2, s3]] W fun x w' => x = .returned (.string TB) ∧ Below W.heap.size W w')
    (z1 : RB.size ≤ 32) (z2 : TB.size ≤ 32) (ha : RB ++ TB = SB) (h67 : b6 ≠ b7) (hB6 : B ≤ b6) (hB7 : B ≤ b7) (hBV : B ≤ V.heap.size) (h6R : b6 < R) (h7R : b7 < R)
    {t0 t1 t2 t3 t4 t5 t8 t11 t12 t13 t14 t15 t16 t17 t18 t19 t20 t21 t22 t23 t24 t25 t26 t27 t28 t29 t30 t31 t32 : Value} {ds : List Deferred} {K : Act → World → Prop} {Q : Exit → Act → World → Prop} (hQo : ∀ a w, ¬ Q .outgrown a w)
    (h : ∀ (x28 x29 x30 x31 x32 : Value) (V' : World), Bk 9 V' b6 #[.string SB] → Bk 27 V' b7 #[.int .i64 0] → Up R V V' → Below B V V' → K { tmps := #[t0, t1, t2, t3, t4, t5, .pointer (some ⟨b6, 0, none⟩), .pointer (some ⟨b7, 0, none⟩), t8, .pointer (some ⟨g9, 0, none⟩), .pointer (some ⟨g10, 0, none⟩), t11, t12, t13, t14, t15, t16, t17, t18, t19, t20, t21, t22, t23, t24, t25, t26, t27, x28, x29, x30, x31, x32], defers := ds } V') :
    (Code.region 5 sg5O true).wpIn (Fence.wide.inRound l) 6 Tryz.prog (Exit.then K Q) { tmps := #[t0, t1, t2, t3, t4, t5, .pointer (some ⟨b6, 0, none⟩), .pointer (some ⟨b7, 0, none⟩), t8, .pointer (some ⟨g9, 0, none⟩), .pointer (some ⟨g10, 0, none⟩), t11, t12, t13, t14, t15, t16, t17, t18, t19, t20, t21, t22, t23, t24, t25, t26, t27, t28, t29, t30, t31, t32], defers := ds } V := by
  have HH1 := Lib.hid HB1
  have HH2 := Lib.hid HB2
  have HG := Lib.hid (And.intro h67 (And.intro hB6 (And.intro hB7 (And.intro hBV (And.intro h6R h7R)))))
  have HK := Lib.hid (And.intro K9 (And.intro K10 (And.intro K6 K7)))
  have HQ := Lib.hid h
  clear HB1 HB2 h67 hB6 hB7 hBV h6R h7R h
  obtain ⟨x0, x1, x2, x3⟩ := K9.reg
  obtain ⟨y0, y1, y2, y3⟩ := K10.reg
  clear K9 K10 K6 K7
  simp only [sg5O, fR, Tryz.f50, Option.bind_some, Option.or, Option.getD, Nat.reduceEqDiff, if_true, if_false, reduceIte]
  refine wpIn_region_below_tail 5 mixed (by kernel_rfl) (by kernel_rfl) (fun a w => hQo a w) ?_
  clear hQo
  simp only [List.take_succ_cons, List.take_zero, List.drop_succ_cons, List.drop_zero]
  go_big_quiet_step (fail)
  go_big_quiet_step (exact qg HH1.out)
  go_big_quiet_step (fail)
  go_big_quiet_step (exact qg HH2.out)
  go_big_quiet_step (fail)
  refine wpQuiet_nil ?_
  intro _ hw'
  obtain ⟨⟨dq, osq⟩, hw''⟩ := hw'
  subst hw''
  have HX : Hid (Below V.heap.size V (grow (redrawn V dq) osq)) := Lib.hid (below_regrown V dq osq)
  clear x0 x1 x2 x3 y0 y1 y2 y3
  generalize grow (redrawn V dq) osq = X at HX ⊢
  have c6 : X.cell? ⟨b6, 0, none⟩ = some u6 := (HK.out.2.2.1.below HX.out).cell 0
  have f6 := (HK.out.2.2.1.below HX.out).fro 0
  have c7 : (X.setCell ⟨b6, 0, none⟩ (.string SB)).cell? ⟨b7, 0, none⟩ = some u7 := (Bk.oth (a := ⟨b6, 0, none⟩) (Ne.symm HG.out.1) (HK.out.2.2.2.below HX.out)).cell 0
  have f7 := (Bk.oth (a := ⟨b6, 0, none⟩) (v := .string SB) (Ne.symm HG.out.1) (HK.out.2.2.2.below HX.out)).fro 0
  go_wp2_with fail
  refine HQ.out _ _ _ _ _ _ ?_ ?_ ?_ ?_
  · exact Bk.oth (a := ⟨b7, 0, none⟩) HG.out.1 (Bk.same (HK.out.2.2.1.below HX.out))
  · exact Bk.same (Bk.oth (a := ⟨b6, 0, none⟩) (Ne.symm HG.out.1) (HK.out.2.2.2.below HX.out))
  · exact ((up_of_below HX.out).trans (up_set HG.out.2.2.2.2.1)).trans (up_set HG.out.2.2.2.2.2)
  · exact ((HX.out.mono HG.out.2.2.2.1).setCell (p := ⟨b6, 0, none⟩) HG.out.2.1 _).setCell (p := ⟨b7, 0, none⟩) HG.out.2.2.1 _
end Go.Proofs.YtpggkfdijmnmiaaGreat
namespace Go.Proofs.YtpggkfdijmnmiaaGreat
open Go.RowKit Go.Shelf Limbs
attribute [local go_sem] Oper.semAt_some
def good (d e : Nat) (x : Nz) : Bool := decide (rOf x.1 ≠ 0 ∧ tOf d e x.1 ≠ 0)
def sgO : Nat → Nat → Option Nz → Value
  | d, e, some x => .tuple #[.string ⟨(sgB (rOf x.1) (tOf d e x.1)).toArray⟩, .int .i64 0]
  | _, _, none => .tuple #[.string ⟨#[]⟩, .int .i64 81]
def sgL (d e : Nat) (l : List Nz) : Value := sgO d e (l.find? (good d e))
theorem sgL_none {d e : Nat} {l : List Nz} (h : ∀ y ∈ l, good d e y = false) : sgL d e l = .tuple #[.string ⟨#[]⟩, .int .i64 81] := by
  have : l.find? (good d e) = none := List.find?_eq_none.2 fun y hy => by rw [h y hy]; exact Bool.false_ne_true
  rw [sgL, this, sgO]
theorem sgL_some {d e : Nat} {l q : List Nz} {x : Nz} (hp : q ++ [x] <+: l) (h : ∀ y ∈ q, good d e y = false) (hx : good d e x = true) : sgL d e l = .tuple #[.string ⟨(sgB (rOf x.1) (tOf d e x.1)).toArray⟩, .int .i64 0] := by
  obtain ⟨r, hr⟩ := hp
  have : l.find? (good d e) = some x := by
    rw [← hr, List.append_assoc, List.find?_append, List.find?_eq_none.2 fun y hy => by rw [h y hy]; exact Bool.false_ne_true]
    simp [hx]
  rw [sgL, this, sgO]
def nzs (d e : Nat) : List Nz := nzL d e 16
def sgV (d e : Nat) : Value := sgL d e (nzs d e)
structure Fr (R b3 b4 b6 b7 d e : Nat) (W : World) : Prop where
  k3 : Bk 24 W b3 (cs4 d)
  k4 : Bk 24 W b4 (cs4 e)
  k6 : Bk 9 W b6 #[.string ⟨#[]⟩]
  k7 : Bk 27 W b7 #[.int .i64 0]
theorem Fr.below {R b3 b4 b6 b7 d e : Nat} {A C : World} (h : Fr R b3 b4 b6 b7 d e A) (hl : b3 < R ∧ b4 < R ∧ b6 < R ∧ b7 < R) (hb : Below R A C) : Fr R b3 b4 b6 b7 d e C :=
  ⟨(hb.block _ hl.1).trans h.k3, (hb.block _ hl.2.1).trans h.k4, (hb.block _ hl.2.2.1).trans h.k6, (hb.block _ hl.2.2.2).trans h.k7⟩
set_option maxHeartbeats 16000000 in
theorem signature_any (d e b1 b2 : Nat) (hd : d < mN) (he : e < mN) (w : World) (k1 : Bk 24 w b1 (cs4 d)) (k2 : Bk 24 w b2 (cs4 e)) :
    CallsIn Fence.wide 8 Tryz.prog 50 #[nv d, nv e, .func (.func 99) #[] #[.pointer (some ⟨b1, 0, none⟩), .pointer (some ⟨b2, 0, none⟩)]] w fun x w' => x = .returned (sgV d e) ∧ Below w.heap.size w w' := by
  have HD := Lib.hid (And.intro hd he)
  have HK := Lib.hid (And.intro k1 k2)
  clear hd he k1 k2
  simp only [nv, num]
  refine callsIn_of_wp_marks Tryz.func50 rfl trivial ?_ rfl
  simp only [Tryz.ntmps50, List.size_toArray, List.length_cons, List.length_nil, Nat.reduceAdd, Nat.reduceSub, Array.replicate_succ, Array.replicate_zero, List.push_toArray, List.append_toArray, List.nil_append, List.cons_append]
  obtain ⟨W0, hW0⟩ : ∃ W0, (((w.alloc (.cells #[.int .u64 (lb d 0 : Nat), .int .u64 (lb d 1 : Nat), .int .u64 (lb d 2 : Nat), .int .u64 (lb d 3 : Nat)] 24)).alloc (.cells #[.int .u64 (lb e 0 : Nat), .int .u64 (lb e 1 : Nat), .int .u64 (lb e 2 : Nat), .int .u64 (lb e 3 : Nat)] 24)).alloc (.cells #[.string ⟨#[]⟩] 9)).alloc (.cells #[.int .i64 0] 27) = W0 := ⟨_, rfl⟩
  have HF0 : Hid (Fr W0.heap.size w.heap.size (w.heap.size + 1) (w.heap.size + 1 + 1) (w.heap.size + 1 + 1 + 1) d e W0) := Lib.hid (by
    rw [← hW0]
    exact ⟨Bk.alloc (Bk.alloc (Bk.alloc (Bk.new rfl))), Bk.alloc (Bk.alloc (Bk.new (by simp))), Bk.alloc (Bk.new (by simp)), Bk.new (by simp)⟩)
  have hz0 : W0.heap.size = w.heap.size + 1 + 1 + 1 + 1 := by rw [← hW0]; simp
  have HB0 : Hid (Below w.heap.size w W0) := Lib.hid (by rw [← hW0]; go_grown)
  have HW0 := Lib.hid hW0
  clear hW0
  gi_wp2
  rw [HW0.out]
  have HSZ := Lib.hid hz0
  have HLT : Hid (w.heap.size < W0.heap.size ∧ w.heap.size + 1 < W0.heap.size ∧ w.heap.size + 1 + 1 < W0.heap.size ∧ w.heap.size + 1 + 1 + 1 < W0.heap.size) := Lib.hid (by omega)
  clear hz0
  have HLE : Hid (w.heap.size ≤ W0.heap.size) := Lib.hid (by have := HSZ.out; omega)
  refine range_yields rfl (by decide) (gf := 99) (lb := #[.pointer (some ⟨b1, 0, none⟩), .pointer (some ⟨b2, 0, none⟩)]) rfl trivial (enters_of Tryz.func99 (by kernel_rfl) rfl)
    (nonces_yield 7 (by decide) b1 b2 d e W0 (Bk.below HK.out.1 HB0.out) (Bk.below HK.out.2 HB0.out)) (fun _ => rfl)
    (fun pre W => (∀ y ∈ pre, good d e y = false) ∧ Fr W0.heap.size w.heap.size (w.heap.size + 1) (w.heap.size + 1 + 1) (w.heap.size + 1 + 1 + 1) d e W ∧ Below w.heap.size w W)
    (fun pre W => (∃ (q : List Nz) (x : Nz), pre = q ++ [x] ∧ (∀ y ∈ q, good d e y = false) ∧ good d e x = true ∧ Bk 9 W (w.heap.size + 1 + 1) #[.string ⟨(sgB (rOf x.1) (tOf d e x.1)).toArray⟩] ∧ Bk 27 W (w.heap.size + 1 + 1 + 1) #[.int .i64 0]) ∧ Below w.heap.size w W)
    ?hI ?hIx ?h0 ?round ?done ?stop
  case hI => exact fun s A C h hb => ⟨h.1, h.2.1.below HLT.out hb, h.2.2.trans (hb.mono HLE.out)⟩
  case hIx =>
    rintro s A C ⟨⟨q, x, h1, h2, h3, h4, h5⟩, h6⟩ hb
    exact ⟨⟨q, x, h1, h2, h3, (hb.block _ HLT.out.2.2.1).trans h4, (hb.block _ HLT.out.2.2.2).trans h5⟩, h6.trans (hb.mono HLE.out)⟩
  case h0 => exact ⟨by simp, HF0.out, HB0.out⟩
  case round =>
    rintro l pre ⟨k, hk0, hk1⟩ W ⟨hp, hF, hB⟩ hpre hsz
    have HP := Lib.hid hp
    have HF := Lib.hid hF
    have HB := Lib.hid hB
    have HS := Lib.hid hsz
    have HPR := Lib.hid hpre
    have HN := Lib.hid (fun W => (CallsIn.inRound l (callsIn_wide.2 (numbers_any d e k HD.out.1 HD.out.2 hk0 hk1 W) : CallsIn Fence.wide 5 Tryz.prog 98 _ W _)))
    have hr := rOf_lt k
    have ht := tOf_lt d e k
    have HGD : Hid (good d e ⟨k, hk0, hk1⟩ = (!decide (rOf k = 0) && !decide (tOf d e k = 0))) := Lib.hid (by
      rw [good]
      by_cases h1 : rOf k = 0 <;> by_cases h2 : tOf d e k = 0 <;> simp [h1, h2])
    have HZ1 : Hid (∀ w, (Op.equalIn 10000 24 (.agg #[.int .u64 (lb (rOf k) 0 : Nat), .int .u64 (lb (rOf k) 1 : Nat), .int .u64 (lb (rOf k) 2 : Nat), .int .u64 (lb (rOf k) 3 : Nat)]) (.agg #[.int .u64 0, .int .u64 0, .int .u64 0, .int .u64 0])).run Tryz.prog w = .ok (decide (rOf k = 0)) w) := Lib.hid (fun w => eqN (rOf k) 0 (Nat.lt_trans hr mN_W) (by decide) w)
    have HZ2 : Hid (∀ w, (Op.equalIn 10000 24 (.agg #[.int .u64 (lb (tOf d e k) 0 : Nat), .int .u64 (lb (tOf d e k) 1 : Nat), .int .u64 (lb (tOf d e k) 2 : Nat), .int .u64 (lb (tOf d e k) 3 : Nat)]) (.agg #[.int .u64 0, .int .u64 0, .int .u64 0, .int .u64 0])).run Tryz.prog w = .ok (decide (tOf d e k = 0)) w) := Lib.hid (fun w => eqN (tOf d e k) 0 (Nat.lt_trans ht mN_W) (by decide) w)
    have HB1 := Lib.hid (fun W => bytes_any (rOf k) W)
    have HB2 := Lib.hid (fun W => bytes_any (tOf d e k) W)
    have HSG : Hid ((⟨(nb (rOf k)).toArray⟩ : ByteArray) ++ ⟨(nb (tOf d e k)).toArray⟩ = ⟨(sgB (rOf k) (tOf d e k)).toArray⟩) := Lib.hid (ByteArray.mk_append_mk _ _)
    have hz1 : (⟨(nb (rOf k)).toArray⟩ : ByteArray).size ≤ 32 := by rw [app_size _ [], nb_length]; exact Nat.le_refl _
    have hz2 : (⟨(nb (tOf d e k)).toArray⟩ : ByteArray).size ≤ 32 := by rw [app_size _ [], nb_length]; exact Nat.le_refl _
    clear hp hF hB hsz hpre HF0 HB0 HW0 hr ht
    generalize hsb : (⟨(sgB (rOf k) (tOf d e k)).toArray⟩ : ByteArray) = SB at HSG
    have HSB := Lib.hid hsb
    clear hsb
    generalize (⟨(nb (rOf k)).toArray⟩ : ByteArray) = RB at *
    generalize (⟨(nb (tOf d e k)).toArray⟩ : ByteArray) = TB at *
    simp only [nv, num] at HN HB1 HB2 ⊢
    generalize decide (rOf k = 0) = z1 at *
    generalize decide (tOf d e k = 0) = z2 at *
    generalize hrv : rOf k = r at *
    generalize htv : tOf d e k = t at *
    have HRV := Lib.hid (And.intro hrv htv)
    clear hrv htv
    gi_wp2
    refine ⟨by go_grown, fun W2 hn => ?_⟩
    have KK : Hid (Bk 24 W2 W.heap.size (cs4 k)) := Lib.hid ((hn.above _ HS.out).trans (Bk.new rfl))
    have hb2 : Below W0.heap.size W W2 := ((Below.refl _ W).alloc (by have := HS.out; omega) _).trans hn.below
    have HF2 := Lib.hid (HF.out.below HLT.out hb2)
    have HBW := Lib.hid (HB.out.trans (hb2.mono HLE.out))
    have HS2 : Hid (W0.heap.size ≤ W2.heap.size) := Lib.hid (by have := HS.out; have := hb2.size; omega)
    clear hb2 hn HF HB
    obtain ⟨x0, x1, x2, x3⟩ := KK.out.cells
    obtain ⟨y0, y1, y2, y3⟩ := HF2.out.k3.cells
    obtain ⟨v0, v1, v2, v3⟩ := HF2.out.k4.cells
    gi_wp2
    refine ⟨trivial, ?_⟩
    refine (HN.out W2).mono ?_
    rintro x w3 ⟨rfl, hb3⟩
    have HF3 := Lib.hid (HF2.out.below HLT.out (hb3.mono HS2.out))
    have HU3 : Hid (Up W0.heap.size W2 w3) := Lib.hid (up_of_below hb3)
    have HB3 := Lib.hid (HBW.out.trans (hb3.mono (Nat.le_trans HLE.out HS2.out)))
    have HS3 := Lib.hid (Nat.le_trans HS2.out hb3.size)
    clear hb3 HF2 HBW HS2 x0 x1 x2 x3 y0 y1 y2 y3 v0 v1 v2 v3 KK HN
    gi_upto_region 4 with fail
    have K9 : Hid (Bk 24 ((w3.alloc (.cells #[.int .u64 (lb r 0 : Nat), .int .u64 (lb r 1 : Nat), .int .u64 (lb r 2 : Nat), .int .u64 (lb r 3 : Nat)] 24)).alloc (.cells #[.int .u64 (lb t 0 : Nat), .int .u64 (lb t 1 : Nat), .int .u64 (lb t 2 : Nat), .int .u64 (lb t 3 : Nat)] 24)) w3.heap.size #[.int .u64 (lb r 0 : Nat), .int .u64 (lb r 1 : Nat), .int .u64 (lb r 2 : Nat), .int .u64 (lb r 3 : Nat)]) := Lib.hid (Bk.alloc (Bk.new rfl))
    have K10 : Hid (Bk 24 ((w3.alloc (.cells #[.int .u64 (lb r 0 : Nat), .int .u64 (lb r 1 : Nat), .int .u64 (lb r 2 : Nat), .int .u64 (lb r 3 : Nat)] 24)).alloc (.cells #[.int .u64 (lb t 0 : Nat), .int .u64 (lb t 1 : Nat), .int .u64 (lb t 2 : Nat), .int .u64 (lb t 3 : Nat)] 24)) (w3.heap.size + 1) #[.int .u64 (lb t 0 : Nat), .int .u64 (lb t 1 : Nat), .int .u64 (lb t 2 : Nat), .int .u64 (lb t 3 : Nat)]) := Lib.hid (Bk.new (by simp))
    have hb4 : Below w3.heap.size w3 ((w3.alloc (.cells #[.int .u64 (lb r 0 : Nat), .int .u64 (lb r 1 : Nat), .int .u64 (lb r 2 : Nat), .int .u64 (lb r 3 : Nat)] 24)).alloc (.cells #[.int .u64 (lb t 0 : Nat), .int .u64 (lb t 1 : Nat), .int .u64 (lb t 2 : Nat), .int .u64 (lb t 3 : Nat)] 24)) := by go_grown
    have HF4 := Lib.hid (HF3.out.below HLT.out (hb4.mono HS3.out))
    have HB4 := Lib.hid (HB3.out.trans (hb4.mono (Nat.le_trans HLE.out HS3.out)))
    have HU4 : Hid (Up W0.heap.size W2 ((w3.alloc (.cells #[.int .u64 (lb r 0 : Nat), .int .u64 (lb r 1 : Nat), .int .u64 (lb r 2 : Nat), .int .u64 (lb r 3 : Nat)] 24)).alloc (.cells #[.int .u64 (lb t 0 : Nat), .int .u64 (lb t 1 : Nat), .int .u64 (lb t 2 : Nat), .int .u64 (lb t 3 : Nat)] 24))) := Lib.hid (HU3.out.trans (up_of_below hb4))
    clear hb4 HF3 HB3 HU3
    generalize ((w3.alloc (.cells #[.int .u64 (lb r 0 : Nat), .int .u64 (lb r 1 : Nat), .int .u64 (lb r 2 : Nat), .int .u64 (lb r 3 : Nat)] 24)).alloc (.cells #[.int .u64 (lb t 0 : Nat), .int .u64 (lb t 1 : Nat), .int .u64 (lb t 2 : Nat), .int .u64 (lb t 3 : Nat)] 24)) = V at *
    generalize w3.heap.size + 1 = g10 at K10 ⊢
    generalize w3.heap.size = g9 at K9 ⊢
    generalize Value.tuple #[.agg #[.int .u64 (lb r 0 : Nat), .int .u64 (lb r 1 : Nat), .int .u64 (lb r 2 : Nat), .int .u64 (lb r 3 : Nat)], .agg #[.int .u64 (lb t 0 : Nat), .int .u64 (lb t 1 : Nat), .int .u64 (lb t 2 : Nat), .int .u64 (lb t 3 : Nat)]] = vt
    generalize Value.agg #[.int .u64 (lb d 0 : Nat), .int .u64 (lb d 1 : Nat), .int .u64 (lb d 2 : Nat), .int .u64 (lb d 3 : Nat)] = vd
    generalize Value.agg #[.int .u64 (lb e 0 : Nat), .int .u64 (lb e 1 : Nat), .int .u64 (lb e 2 : Nat), .int .u64 (lb e 3 : Nat)] = ve
    generalize Value.agg #[.int .u64 (lb k 0 : Nat), .int .u64 (lb k 1 : Nat), .int .u64 (lb k 2 : Nat), .int .u64 (lb k 3 : Nat)] = vk
    generalize W.heap.size = g8
    have HGN : Hid ((!z1 && !z2) = false → ∀ y ∈ pre ++ [(⟨k, hk0, hk1⟩ : Nz)], good d e y = false) := Lib.hid (by
      intro hz y hy
      rcases List.mem_append.1 hy with h1 | h1
      · exact HP.out y h1
      · rw [List.mem_singleton.1 h1, HGD.out]
        exact hz)
    refine sg4 l g9 g10 _ _ _ _ _ _ _ _ V z1 z2 K9.out K10.out HZ1.out HZ2.out (fun x20 x21 x22 x23 x24 x25 x26 => ?_)
    clear HZ1 HZ2
    generalize hzz : (!z1 && !z2) = zz at *
    cases zz with
    | false =>
      gi_wp2
      exact ⟨HU4.out, fun a b => HGN.out (by trivial) ⟨a, b⟩, HF4.out, HB4.out⟩
    | true =>
      clear HGN
      gi_upto_region 5 with fail
      have HVS : Hid (w.heap.size ≤ V.heap.size) := Lib.hid HB4.out.size
      refine sg5 l g9 g10 (w.heap.size + 1 + 1) (w.heap.size + 1 + 1 + 1) W0.heap.size w.heap.size _ _ _ _ _ _ _ _ _ _ RB TB SB V K9.out K10.out HF4.out.k6 HF4.out.k7 HB1.out HB2.out hz1 hz2 HSG.out (by omega) (by omega) (by omega) HVS.out HLT.out.2.2.1 HLT.out.2.2.2 (fun a w h => h) (fun x28 x29 x30 x31 x32 V' j1 j2 j3 j4 => ?_)
      have HJ1 := Lib.hid (And.intro j1 j2)
      have HJ3 := Lib.hid (HU4.out.trans j3)
      have HJ4 := Lib.hid (HB4.out.trans j4)
      clear j1 j2 j3 j4
      gi_wp2
      exact ⟨HJ3.out, ⟨pre, ⟨k, hk0, hk1⟩, rfl, HP.out, HGD.out.trans rfl, by rw [show (⟨(sgB (rOf k) (tOf d e k)).toArray⟩ : ByteArray) = SB from by rw [HRV.out.1, HRV.out.2]; exact HSB.out]; exact HJ1.out.1, HJ1.out.2⟩, HJ4.out⟩
  case done =>
    rintro D W hD ⟨hp, hF, hB⟩ hK
    have HP := Lib.hid (sgL_none hp)
    have HF := Lib.hid hF
    have HB := Lib.hid hB
    have HDD := Lib.hid (And.intro hD hK)
    clear hp hF hB hD hK HF0 HB0 HW0
    have c6 : W.cell? ⟨w.heap.size + 1 + 1, 0, none⟩ = some (.string ⟨#[]⟩) := HF.out.k6.cell 0
    have f6 := HF.out.k6.fro 0
    have K6 : Hid (Bk 9 (W.setCell ⟨w.heap.size + 1 + 1, 0, none⟩ (.string ⟨#[]⟩)) (w.heap.size + 1 + 1) #[.string ⟨#[]⟩]) := Lib.hid (Bk.same HF.out.k6)
    have K7 : Hid (Bk 27 (W.setCell ⟨w.heap.size + 1 + 1, 0, none⟩ (.string ⟨#[]⟩)) (w.heap.size + 1 + 1 + 1) #[.int .i64 0]) := Lib.hid (Bk.oth (a := ⟨w.heap.size + 1 + 1, 0, none⟩) (by simp) HF.out.k7)
    have c7 : (W.setCell ⟨w.heap.size + 1 + 1, 0, none⟩ (.string ⟨#[]⟩)).cell? ⟨w.heap.size + 1 + 1 + 1, 0, none⟩ = some (.int .i64 0) := K7.out.cell 0
    have f7 := K7.out.fro 0
    have K6' : Hid (Bk 9 ((W.setCell ⟨w.heap.size + 1 + 1, 0, none⟩ (.string ⟨#[]⟩)).setCell ⟨w.heap.size + 1 + 1 + 1, 0, none⟩ (.int .i64 81)) (w.heap.size + 1 + 1) #[.string ⟨#[]⟩]) := Lib.hid (Bk.oth (a := ⟨w.heap.size + 1 + 1 + 1, 0, none⟩) (by simp) K6.out)
    have K7' : Hid (Bk 27 ((W.setCell ⟨w.heap.size + 1 + 1, 0, none⟩ (.string ⟨#[]⟩)).setCell ⟨w.heap.size + 1 + 1 + 1, 0, none⟩ (.int .i64 81)) (w.heap.size + 1 + 1 + 1) #[.int .i64 81]) := Lib.hid (Bk.same K7.out)
    have HB' : Hid (Below w.heap.size w ((W.setCell ⟨w.heap.size + 1 + 1, 0, none⟩ (.string ⟨#[]⟩)).setCell ⟨w.heap.size + 1 + 1 + 1, 0, none⟩ (.int .i64 81))) := Lib.hid ((HB.out.setCell (p := ⟨w.heap.size + 1 + 1, 0, none⟩) (by simp; omega) _).setCell (p := ⟨w.heap.size + 1 + 1 + 1, 0, none⟩) (by simp; omega) _)
    have HD' : Hid (((W.setCell ⟨w.heap.size + 1 + 1, 0, none⟩ (.string ⟨#[]⟩)).setCell ⟨w.heap.size + 1 + 1 + 1, 0, none⟩ (.int .i64 81)).heap[D]? = some (.deferred (some []))) := Lib.hid ((Below.heap_setCell _ ⟨w.heap.size + 1 + 1 + 1, 0, none⟩ _ D (by have := HDD.out.1; have := HSZ.out; simp; omega)).trans ((Below.heap_setCell _ ⟨w.heap.size + 1 + 1, 0, none⟩ _ D (by have := HDD.out.1; have := HSZ.out; simp; omega)).trans HDD.out.2))
    have hDne : w.heap.size + 1 + 1 ≠ D ∧ w.heap.size + 1 + 1 + 1 ≠ D ∧ w.heap.size ≤ D := by
      have := HDD.out.1
      have := HSZ.out
      omega
    have HNE := Lib.hid hDne
    clear hDne
    gi_wp2
    clear c6 f6 c7 f7 K6 K7 HB HF
    generalize ((W.setCell ⟨w.heap.size + 1 + 1, 0, none⟩ (.string ⟨#[]⟩)).setCell ⟨w.heap.size + 1 + 1 + 1, 0, none⟩ (.int .i64 81)) = X at K6' K7' HB' HD' ⊢
    refine ⟨by simp, .inl ⟨_, _, rfl, run_takeDeferred HD'.out, ?_⟩⟩
    have q6 : (X.putObj D (.deferred none)).cell? ⟨w.heap.size + 1 + 1, 0, none⟩ = some (.string ⟨#[]⟩) := (show Bk 9 (X.putObj D (.deferred none)) (w.heap.size + 1 + 1) #[.string ⟨#[]⟩] from (World.putObj_heap_other HNE.out.1).trans K6'.out).cell 0
    have q7 : (X.putObj D (.deferred none)).cell? ⟨w.heap.size + 1 + 1 + 1, 0, none⟩ = some (.int .i64 81) := (show Bk 27 (X.putObj D (.deferred none)) (w.heap.size + 1 + 1 + 1) #[.int .i64 81] from (World.putObj_heap_other HNE.out.2.1).trans K7'.out).cell 0
    refine ⟨.tuple #[.string ⟨#[]⟩, .int .i64 81], ?_, by rw [sgV, nzs, HP.out], put_below HB'.out HNE.out.2.2⟩
    simp [results, Tryz.f50, go_sem, q6, q7]
  case stop =>
    rintro D pre W hD hpre ⟨⟨q, x, rfl, h2, h3, h4, h5⟩, hB⟩ hK
    have HS := Lib.hid (sgL_some hpre h2 h3)
    have K6' := Lib.hid h4
    have K7' := Lib.hid h5
    have HB' := Lib.hid hB
    have HD' := Lib.hid hK
    have HNE : Hid (w.heap.size + 1 + 1 ≠ D ∧ w.heap.size + 1 + 1 + 1 ≠ D ∧ w.heap.size ≤ D) := Lib.hid (by
      have := HSZ.out
      omega)
    clear h2 h3 h4 h5 hB hK hD hpre HF0 HB0 HW0
    generalize (⟨(sgB (rOf x.1) (tOf d e x.1)).toArray⟩ : ByteArray) = SB at *
    gi_wp2
    refine ⟨by simp, .inl ⟨_, _, rfl, run_takeDeferred HD'.out, ?_⟩⟩
    have q6 : (W.putObj D (.deferred none)).cell? ⟨w.heap.size + 1 + 1, 0, none⟩ = some (.string SB) := (show Bk 9 (W.putObj D (.deferred none)) (w.heap.size + 1 + 1) #[.string SB] from (World.putObj_heap_other HNE.out.1).trans K6'.out).cell 0
    have q7 : (W.putObj D (.deferred none)).cell? ⟨w.heap.size + 1 + 1 + 1, 0, none⟩ = some (.int .i64 0) := (show Bk 27 (W.putObj D (.deferred none)) (w.heap.size + 1 + 1 + 1) #[.int .i64 0] from (World.putObj_heap_other HNE.out.2.1).trans K7'.out).cell 0
    refine ⟨.tuple #[.string SB, .int .i64 0], ?_, by rw [sgV, nzs, HS.out], put_below HB'.out HNE.out.2.2⟩
    simp [results, Tryz.f50, go_sem, q6, q7]
end Go.Proofs.YtpggkfdijmnmiaaGreat
namespace Go.Proofs.YtpggkfdijmnmiaaGreat.Pl
open Go.RowKit Go.Sort Limbs
noncomputable def tSO : Array Oper := (Tryz.f14.body.bind fun c => findR c 4).getD #[]
def tS_m : List (List Nat) := [[], [], [], [], [], [4], [4, 5], [4, 5], [4, 5], [4, 5]]
set_option maxHeartbeats 16000000 in
theorem tS (PW : Bool → Bool → Value → World → Prop) (gd ge d e0 : Nat) (sS : ByteArray) (c : Int) (w : World)  (cl4 : ∀ (y4 : Value) (w : World), PW false false y4 w → Calls Tryz.prog 51 #[.agg #[.int .u64 (lb d 0 : Nat), .int .u64 (lb d 1 : Nat), .int .u64 (lb d 2 : Nat), .int .u64 (lb d 3 : Nat)], .agg #[.int .u64 (lb e0 0 : Nat), .int .u64 (lb e0 1 : Nat), .int .u64 (lb e0 2 : Nat), .int .u64 (lb e0 3 : Nat)]] w fun e w1 => ∃ v, e = .returned v ∧ PW true false v w1) (cl5 : ∀ (y4 : Value) (w : World), PW true false y4 w → Calls Tryz.prog 50 #[.agg #[.int .u64 (lb d 0 : Nat), .int .u64 (lb d 1 : Nat), .int .u64 (lb d 2 : Nat), .int .u64 (lb d 3 : Nat)], .agg #[.int .u64 (lb e0 0 : Nat), .int .u64 (lb e0 1 : Nat), .int .u64 (lb e0 2 : Nat), .int .u64 (lb e0 3 : Nat)], y4] w fun e w1 => e = .returned (.tuple #[.string sS, .int .i64 c]) ∧ PW true true y4 w1) (ld : ∀ (b4 b5 : Bool) (y4 : Value) (w : World), PW b4 b5 y4 w → w.cell? ⟨gd, 0, none⟩ = some (.int .u64 (lb d 0 : Nat)) ∧ w.cell? ⟨gd, 1, none⟩ = some (.int .u64 (lb d 1 : Nat)) ∧ w.cell? ⟨gd, 2, none⟩ = some (.int .u64 (lb d 2 : Nat)) ∧ w.cell? ⟨gd, 3, none⟩ = some (.int .u64 (lb d 3 : Nat))) (le : ∀ (b4 b5 : Bool) (y4 : Value) (w : World), PW b4 b5 y4 w → w.cell? ⟨ge, 0, none⟩ = some (.int .u64 (lb e0 0 : Nat)) ∧ w.cell? ⟨ge, 1, none⟩ = some (.int .u64 (lb e0 1 : Nat)) ∧ w.cell? ⟨ge, 2, none⟩ = some (.int .u64 (lb e0 2 : Nat)) ∧ w.cell? ⟨ge, 3, none⟩ = some (.int .u64 (lb e0 3 : Nat))) {t0 t1 t3 t4 t5 t7 t8 t9 t10 t11 t12 t13 t14 t15 t16 t17 t18 t19 : Value} (w0 : PW false false t16 w.drew) {ds : List Deferred} {Q : Exit → Act → World → Prop}
    (h : ∀ (y4 : Value) (w1 : World), PW true true y4 w1 → Q .normal { tmps := #[t0, t1, .pointer (some ⟨gd, 0, none⟩), t3, .string sS, .int .i64 c, .pointer (some ⟨ge, 0, none⟩), t7, t8, t9, t10, t11, .agg #[.int .u64 (lb d 0 : Nat), .int .u64 (lb d 1 : Nat), .int .u64 (lb d 2 : Nat), .int .u64 (lb d 3 : Nat)], .agg #[.int .u64 (lb e0 0 : Nat), .int .u64 (lb e0 1 : Nat), .int .u64 (lb e0 2 : Nat), .int .u64 (lb e0 3 : Nat)], .agg #[.int .u64 (lb d 0 : Nat), .int .u64 (lb d 1 : Nat), .int .u64 (lb d 2 : Nat), .int .u64 (lb d 3 : Nat)], .agg #[.int .u64 (lb e0 0 : Nat), .int .u64 (lb e0 1 : Nat), .int .u64 (lb e0 2 : Nat), .int .u64 (lb e0 3 : Nat)], y4, .tuple #[.string sS, .int .i64 c], .string sS, .int .i64 c], defers := ds } w1) :
    (Code.region 4 tSO true).wp Tryz.prog Q { tmps := #[t0, t1, .pointer (some ⟨gd, 0, none⟩), t3, t4, t5, .pointer (some ⟨ge, 0, none⟩), t7, t8, t9, t10, t11, t12, t13, t14, t15, t16, t17, t18, t19], defers := ds } w := by
  have hsz : tSO.size = 10 := by kernel_rfl
  generalize hT : List.toArray _ = T0
  have hs : T0.size = 20 := by subst hT; rfl
  have g2 : T0.getD 2 undef = .pointer (some ⟨gd, 0, none⟩) := by subst hT; rfl
  have g6 : T0.getD 6 undef = .pointer (some ⟨ge, 0, none⟩) := by subst hT; rfl
  obtain ⟨W, hV⟩ : ∃ W : List ((Nat × (Value → Value)) ⊕ Value), W = [.inr (.agg #[.int .u64 (lb d 0 : Nat), .int .u64 (lb d 1 : Nat), .int .u64 (lb d 2 : Nat), .int .u64 (lb d 3 : Nat)]), .inr (.agg #[.int .u64 (lb e0 0 : Nat), .int .u64 (lb e0 1 : Nat), .int .u64 (lb e0 2 : Nat), .int .u64 (lb e0 3 : Nat)]), .inr (.agg #[.int .u64 (lb d 0 : Nat), .int .u64 (lb d 1 : Nat), .int .u64 (lb d 2 : Nat), .int .u64 (lb d 3 : Nat)]), .inr (.agg #[.int .u64 (lb e0 0 : Nat), .int .u64 (lb e0 1 : Nat), .int .u64 (lb e0 2 : Nat), .int .u64 (lb e0 3 : Nat)]), .inl (4, id), .inr (.tuple #[.string sS, .int .i64 c]), .inr (.string sS), .inr (.int .i64 c), .inr (.string sS), .inr (.int .i64 c)] := ⟨_, rfl⟩
  refine wp_plan (by kernel_rfl) T0 ds [4, 5] tS_m (mkV W) (fun dx yx wx => PW (dx 4) (dx 5) (yx 4) wx) w (by rw [hs]; kernel_rfl) (by kernel_rfl) (by kernel_rfl) (by rw [hsz]; decide) (fun cx hc ix hne ha yx vx => mkV_fix (by rw [hV]; kernel_rfl) hne ha yx vx) (?key) (fun cx hc ox ho dx yx Tx wx hd hdb hda hK hW => ?_) ⟨fun k => if k = 4 then t16 else undef, w0⟩ (fun dx yx wx hd hW => ?_)
  case key =>
    rw [hsz]
    refine all_step (all_step (all_step (all_step (all_step (all_step (all_step (all_step (all_step (all_step all_zero ?_) ?_) ?_) ?_) ?_) ?_) ?_) ?_) ?_) ?_
    all_goals
      intro ox ho hic dx yx Tx wx hdb hK hW
      replace hdb := Lib.hid hdb
    · obtain ⟨ps, af, rfl⟩ := core (some 12) (.load 24 (.tmp 2)) 24 none ho (by kernel_rfl)
      have e2 : Tx.getD 2 undef = .pointer (some ⟨gd, 0, none⟩) := hK.of (by kernel_rfl) g2
      obtain ⟨hld0, hld1, hld2, hld3⟩ := ld _ _ _ _ hW
      exact wpOp_plain ho rfl (by subst hV; go_simp; try rfl)
    · obtain ⟨ps, af, rfl⟩ := core (some 13) (.load 24 (.tmp 6)) 24 none ho (by kernel_rfl)
      have e6 : Tx.getD 6 undef = .pointer (some ⟨ge, 0, none⟩) := hK.of (by kernel_rfl) g6
      obtain ⟨hle0, hle1, hle2, hle3⟩ := le _ _ _ _ hW
      exact wpOp_plain ho rfl (by subst hV; go_simp; try rfl)
    · obtain ⟨ps, af, rfl⟩ := core (some 14) (.load 24 (.tmp 2)) 24 none ho (by kernel_rfl)
      have e2 : Tx.getD 2 undef = .pointer (some ⟨gd, 0, none⟩) := hK.of (by kernel_rfl) g2
      obtain ⟨hld0, hld1, hld2, hld3⟩ := ld _ _ _ _ hW
      exact wpOp_plain ho rfl (by subst hV; go_simp; try rfl)
    · obtain ⟨ps, af, rfl⟩ := core (some 15) (.load 24 (.tmp 6)) 24 none ho (by kernel_rfl)
      have e6 : Tx.getD 6 undef = .pointer (some ⟨ge, 0, none⟩) := hK.of (by kernel_rfl) g6
      obtain ⟨hle0, hle1, hle2, hle3⟩ := le _ _ _ _ hW
      exact wpOp_plain ho rfl (by subst hV; go_simp; try rfl)
    · exact absurd (by decide) hic
    · exact absurd (by decide) hic
    · obtain ⟨ps, af, rfl⟩ := core (some 18) (.extract (.tmp 17) 0) 9 none ho (by kernel_rfl)
      have e17 : Tx.getD 17 undef = .tuple #[.string sS, .int .i64 c] := hK.is 5 ho (by kernel_rfl) (by subst hV; rfl)
      exact wpOp_plain ho rfl (by subst hV; go_simp; try rfl)
    · obtain ⟨ps, af, rfl⟩ := core (some 19) (.extract (.tmp 17) 1) 27 none ho (by kernel_rfl)
      have e17 : Tx.getD 17 undef = .tuple #[.string sS, .int .i64 c] := hK.is 5 ho (by kernel_rfl) (by subst hV; rfl)
      exact wpOp_plain ho rfl (by subst hV; go_simp; try rfl)
    · exact pl1 4 18 6 9 ho hK (by kernel_rfl) (by kernel_rfl) (by subst hV; rfl) (by subst hV; rfl) fun ps af e => k_as e
    · exact pl1 5 19 7 27 ho hK (by kernel_rfl) (by kernel_rfl) (by subst hV; rfl) (by subst hV; rfl) fun ps af e => k_as e
  · have hcase : cx = 4 ∨ cx = 5 := by simpa using hc
    rcases hcase with rfl | rfl
    · obtain ⟨ps, af, rfl⟩ := core (some 16) (.call { callee := .value (.func 51), args := #[.tmp 14, .tmp 15], argTypes := #[24, 24] }) 80 none ho (by kernel_rfl)
      have e14 : Tx.getD 14 undef = .agg #[.int .u64 (lb d 0 : Nat), .int .u64 (lb d 1 : Nat), .int .u64 (lb d 2 : Nat), .int .u64 (lb d 3 : Nat)] := hK.is 2 ho (by kernel_rfl) (by subst hV; rfl)
      have e15 : Tx.getD 15 undef = .agg #[.int .u64 (lb e0 0 : Nat), .int .u64 (lb e0 1 : Nat), .int .u64 (lb e0 2 : Nat), .int .u64 (lb e0 3 : Nat)] := hK.is 3 ho (by kernel_rfl) (by subst hV; rfl)
      have hW1 : PW (dx 4) (dx 5) (yx 4) wx := hW
      have f5 := hda 5 (by decide) (by kernel_rfl)
      clear hdb hda
      rw [hd, f5] at hW1
      replace f5 := Lib.hid f5
      clear hd hW hc
      refine wpOp_plain ho rfl ?_
      go_simp
      go_at_call 51
      refine (cl4 _ _ hW1).mono ?_
      rintro ex w2 ⟨vx, rfl, hW2⟩
      subst hV
      refine ⟨vx, rfl, ?_⟩
      simpa [updB, upd, f5.out] using hW2
    · obtain ⟨ps, af, rfl⟩ := core (some 17) (.call { callee := .value (.func 50), args := #[.tmp 12, .tmp 13, .tmp 16], argTypes := #[24, 24, 80] }) 32 none ho (by kernel_rfl)
      have e12 : Tx.getD 12 undef = .agg #[.int .u64 (lb d 0 : Nat), .int .u64 (lb d 1 : Nat), .int .u64 (lb d 2 : Nat), .int .u64 (lb d 3 : Nat)] := hK.is 0 ho (by kernel_rfl) (by subst hV; rfl)
      have e13 : Tx.getD 13 undef = .agg #[.int .u64 (lb e0 0 : Nat), .int .u64 (lb e0 1 : Nat), .int .u64 (lb e0 2 : Nat), .int .u64 (lb e0 3 : Nat)] := hK.is 1 ho (by kernel_rfl) (by subst hV; rfl)
      have e16 : Tx.getD 16 undef = yx 4 := hK.is 4 ho (by kernel_rfl) (by subst hV; rfl)
      have hW1 : PW (dx 4) (dx 5) (yx 4) wx := hW
      have f4 := hdb 4 (by decide) (by kernel_rfl)
      clear hdb hda
      rw [hd, f4] at hW1
      replace f4 := Lib.hid f4
      clear hd hW hc
      refine wpOp_plain ho rfl ?_
      go_simp
      go_at_call 50
      refine (cl5 _ _ hW1).mono ?_
      rintro ex w2 ⟨rfl, hW2⟩
      subst hV
      first | refine ⟨undef, rfl, ?_⟩ | refine ⟨⟨undef, rfl⟩, ?_⟩
      simpa [updB, upd, f4.out] using hW2
  · have hW1 : PW (dx 4) (dx 5) (yx 4) wx := hW
    rw [hd 4 (by decide), hd 5 (by decide)] at hW1
    have hQ := h _ _ hW1
    rw [hsz]
    subst hV hT
    refine cast (congrArg (fun Tx => Q .normal ⟨Tx, ds⟩ wx) ?_) hQ
    kernel_rfl
end Go.Proofs.YtpggkfdijmnmiaaGreat.Pl
namespace Go.Proofs.YtpggkfdijmnmiaaGreat
open Go.RowKit Go.Sort Limbs
set_option maxHeartbeats 8000000 in
theorem nonces_any (d e : Nat) (w : World) : Calls Tryz.prog 51 #[nv d, nv e] w fun x w' => ∃ b1 b2 : Nat, x = .returned (.func (.func 99) #[] #[.pointer (some ⟨b1, 0, none⟩), .pointer (some ⟨b2, 0, none⟩)]) ∧ Bk 24 w' b1 (cs4 d) ∧ Bk 24 w' b2 (cs4 e) ∧ Below w.heap.size w w' := by
  simp only [nv, num]
  go_enter Tryz.func51, Tryz.ntmps51
  go_wp2_with fail
  go_returns
  exact ⟨w.heap.size, w.heap.size + 1, rfl, Bk.alloc (Bk.new rfl), Bk.new (by simp), by go_grown⟩
def SW (W : World) (d e : Nat) (b4 : Bool) (y4 : Value) (w' : World) : Prop :=
  Below W.heap.size W w' ∧ (b4 = true → ∃ b1 b2 : Nat, y4 = .func (.func 99) #[] #[.pointer (some ⟨b1, 0, none⟩), .pointer (some ⟨b2, 0, none⟩)] ∧ Bk 24 w' b1 (cs4 d) ∧ Bk 24 w' b2 (cs4 e))
def eOf (s : List UInt8) : Nat := bv (Hs.sumL s) % mN
theorem eOf_lt (s : List UInt8) : eOf s < mN := Nat.mod_lt _ mN_pos
theorem sgV_form (d e : Nat) : ∃ sS c, sgV d e = .tuple #[.string sS, .int .i64 c] := by
  unfold sgV sgL
  cases List.find? (good d e) (nzs d e) with
  | none => exact ⟨_, _, rfl⟩
  | some x => exact ⟨_, _, rfl⟩
set_option maxHeartbeats 8000000 in
theorem sign_yes (d : Nat) (hd : 0 < d ∧ d < mN) (s : List UInt8) (hs : s.length ≤ 140737488351232) (w : World) : Calls Tryz.prog 14 #[nv d, .string ⟨s.toArray⟩] w fun x w' => x = .returned (sgV d (eOf s)) ∧ Below w.heap.size w w' := by
  have hi := inRange_any d (Nat.lt_trans hd.2 mN_W)
  rw [decide_eq_true hd] at hi
  have HI := Lib.hid hi
  have HS : Hid (∀ w, Calls Tryz.prog 49 #[.string ⟨s.toArray⟩] w fun e w' => e = .returned (nv (eOf s)) ∧ Below w.heap.size w w') := Lib.hid (sumOf_any s hs)
  have HG := Lib.hid (fun b1 b2 W k1 k2 => callsIn_wide.1 (signature_any d (eOf s) b1 b2 hd.2 (eOf_lt s) W k1 k2))
  have HN := Lib.hid (nonces_any d (eOf s))
  obtain ⟨sS, c, hsv⟩ := sgV_form d (eOf s)
  rw [hsv] at HG ⊢
  clear hi hd hs hsv
  generalize eOf s = e at *
  generalize (⟨s.toArray⟩ : ByteArray) = sb at *
  simp only [nv, num] at HI HS HG HN ⊢
  go_enter Tryz.func14, Tryz.ntmps14
  go_wp2_with fail
  refine (keep w.heap.size w (HI.out _) (by go_grown) (Nat.le_refl _)).mono ?_
  rintro x w1 ⟨rfl, hb1, hk1⟩
  have KD : Bk 24 w1 w.heap.size (cs4 d) := Bk.below (Bk.new rfl) hk1
  clear hk1
  go_wp2_with fail
  refine (keep w.heap.size w (HS.out _) hb1 (Nat.le_refl _)).mono ?_
  rintro x w2 ⟨rfl, hb2, hk2⟩
  have KD2 := KD.below hk2
  clear hk2 KD hb1
  go_upto_region 4 with fail
  have HD : Hid (Bk 24 (w2.alloc (.cells #[.int .u64 (lb e 0 : Nat), .int .u64 (lb e 1 : Nat), .int .u64 (lb e 2 : Nat), .int .u64 (lb e 3 : Nat)] 24)) w.heap.size (cs4 d)) := Lib.hid (Bk.alloc KD2)
  have HE : Hid (Bk 24 (w2.alloc (.cells #[.int .u64 (lb e 0 : Nat), .int .u64 (lb e 1 : Nat), .int .u64 (lb e 2 : Nat), .int .u64 (lb e 3 : Nat)] 24)) w2.heap.size (cs4 e)) := Lib.hid (Bk.new rfl)
  have HB : Hid (Below w.heap.size w (w2.alloc (.cells #[.int .u64 (lb e 0 : Nat), .int .u64 (lb e 1 : Nat), .int .u64 (lb e 2 : Nat), .int .u64 (lb e 3 : Nat)] 24))) := Lib.hid (hb2.alloc hb2.size _)
  clear KD2 hb2
  generalize w2.alloc (.cells #[.int .u64 (lb e 0 : Nat), .int .u64 (lb e 1 : Nat), .int .u64 (lb e 2 : Nat), .int .u64 (lb e 3 : Nat)] 24) = W at HD HE HB ⊢
  generalize w2.heap.size = ge at HE ⊢
  obtain ⟨gd, hgd⟩ : ∃ g, g = w.heap.size := ⟨_, rfl⟩
  rw [← hgd] at HD
  rw [show (Value.pointer (some ⟨w.heap.size, 0, none⟩)) = .pointer (some ⟨gd, 0, none⟩) by rw [hgd]]
  clear hgd
  refine Pl.tS (fun b4 _ y4 w' => SW W d e b4 y4 w') gd ge d e sS c W ?c4 ?c5 ?ld ?le ?w0 ?h
  case c4 =>
    intro y4 w' h
    refine (HN.out w').mono ?_
    rintro x w3 ⟨b1, b2, rfl, k1, k2, hb⟩
    exact ⟨_, rfl, h.1.trans (hb.mono h.1.size), fun _ => ⟨b1, b2, rfl, k1, k2⟩⟩
  case c5 =>
    intro y4 w' h
    obtain ⟨b1, b2, rfl, k1, k2⟩ := h.2 rfl
    refine (HG.out b1 b2 w' k1 k2).mono ?_
    rintro x w3 ⟨rfl, hb⟩
    exact ⟨rfl, h.1.trans (hb.mono h.1.size), fun _ => ⟨b1, b2, rfl, k1.below hb, k2.below hb⟩⟩
  case ld =>
    intro _ _ _ w' h
    exact (HD.out.below h.1).cells
  case le =>
    intro _ _ _ w' h
    exact (HE.out.below h.1).cells
  case w0 => exact ⟨⟨rfl, rfl, rfl, Nat.le_refl _, fun _ _ => rfl⟩, fun h => by cases h⟩
  case h =>
  intro y4 w' h
  have HB2 := Lib.hid (HB.out.trans (h.1.mono HB.out.size))
  clear h HB HD HE
  go_wp2_with fail
  go_returns
  exact ⟨rfl, HB2.out⟩
end Go.Proofs.YtpggkfdijmnmiaaGreat
namespace Go.Proofs.YtpggkfdijmnmiaaGreat.Hs
open Go.RowKit
set_option maxHeartbeats 2000000 in
set_option maxRecDepth 100000 in
theorem writeByte_any (B b : Nat) (bs : List Value) (c : Int) (w : World) (h : Lib.IsBuilderF 188 5 B b bs w) (hlen : bs.length + 1 ≤ 140737488355328) (hBw : B ≤ w.heap.size) :
    Calls Tryz.prog 164 #[.pointer (some ⟨b, 0, none⟩), .int .u8 c] w fun e w' => e = .returned .nilIface ∧ Lib.BuilderAtF 188 5 B b (.pointer (some ⟨b, 0, none⟩)) (bs ++ [.int .u8 c]) w' ∧ Below B w w' ∧ Lib.OthersKept 5 (some b) w w' := by
  obtain ⟨i0, hi, hz0, hz1, hz2⟩ := info_parts infoByte
  go_enter Tryz.func164, Tryz.ntmps164
  go_wp2_with (go_at_call 187; refine (copyCheck_any B b bs _ h).mono ?_)
  rintro e w1 ⟨rfl, h1, hb1, hk1⟩
  obtain ⟨hB, v, hbk, hown, hne⟩ := h1
  have c0 : w1.cell? ⟨b, 0, none⟩ = some (.pointer (some ⟨b, 0, none⟩)) := by rw [Lib.cell_of_heap hbk]; rfl
  have c1 : w1.cell? ⟨b, 1, none⟩ = some v := by rw [Lib.cell_of_heap hbk]; rfl
  have hsz := hb1.size
  go_wp2_with (at_builtin; refine wpList_append_ownF _ rfl _ _ 101 rfl B 5 i0 (.int .u8 0) 1 1 Tryz.underlying101 hi hz0 hz1 hz2 rfl (by decide) _ _ _ rfl (hown.alloc _) ⟨w1.heap.size, 0, none⟩ 1 1 [.int .u8 c] rfl rfl ?c1 ?c2 ?c3 ?c4 ?c5 ?_)
  case c1 =>
    intro j u hj
    match j, hj with
    | 0, hj => simp at hj; subst hj; simp [Addr.add]
  case c2 => intro u hu; simp at hu; subst hu; rfl
  case c3 => unfold maxLen; omega
  case c4 => omega
  case c5 => simp; omega
  intro v' w2 hown' hgrow _
  have hlt := blk_lt hbk
  have hb2 : w2.heap[b]? = some (.cells #[.pointer (some ⟨b, 0, none⟩), v] 188 (0, 0)) := by
    rw [hgrow.block b (by simp; omega) (fun e => hne e.symm), Lib.alloc_old w1 _ b hlt]
    exact hbk
  have d0 : w2.cell? ⟨b, 0, none⟩ = some (.pointer (some ⟨b, 0, none⟩)) := by rw [Lib.cell_of_heap hb2]; rfl
  have d1 : w2.cell? ⟨b, 1, none⟩ = some v := by rw [Lib.cell_of_heap hb2]; rfl
  have f1 : w2.frozen? ⟨b, 1, none⟩ = false := Lib.frozen_of_heap hb2 1
  obtain ⟨g, cap, rfl⟩ : ∃ g cap, v' = .slice (some ⟨g, 0, none⟩) (bs.length + 1) cap := by
    rcases hown'.2 with ⟨_, h0⟩ | ⟨g, cap, cur, fz, hv, _⟩
    · omega
    · exact ⟨g, cap, hv⟩
  go_wp2
  go_ret
  refine ⟨rfl, ?_, ?_, ((hk1.alloc _).grown hgrow (Lib.ownsRowF_kind (hown.alloc _))).setCell ⟨b, 1, none⟩ rfl _⟩
  · exact Lib.BuilderAtF.put hB hb2 (bs' := bs ++ [.int .u8 c]) (by simpa using hown') (by decide)
  · exact ((hb1.alloc (by omega) _).grown hgrow (by simp; omega) (fun k hk => (hown.lt k hk).1)).setCell (p := ⟨b, 1, none⟩) hB _
theorem byteCells_snoc (l : List UInt8) (c : UInt8) : Lib.byteCells l ++ [.int .u8 c.toNat] = Lib.byteCells (l ++ [c]) := by
  rw [Lib.byteCells_append]; rfl
theorem write_b (B : Nat) (l : List UInt8) (c : UInt8) (w : World) (h : Bd B l w) (hlen : l.length + 1 ≤ 140737488355328) :
    Calls Tryz.prog 164 #[.pointer (some ⟨B, 0, none⟩), .int .u8 c.toNat] w fun e w' => e = .returned .nilIface ∧ Bd B (l ++ [c]) w' ∧ Below B w w' ∧ Lib.OthersKept 5 (some B) w w' := by
  refine (writeByte_any B B (Lib.byteCells l) c.toNat w h (by rw [Lib.byteCells_length]; exact hlen) (Nat.le_of_lt h.lt)).mono ?_
  rintro e w' ⟨rfl, h1, h2, h3⟩
  rw [byteCells_snoc] at h1
  exact ⟨rfl, .inr h1, h2, h3⟩
end Go.Proofs.YtpggkfdijmnmiaaGreat.Hs
namespace Go.Proofs.YtpggkfdijmnmiaaGreat.Hs
open Go.RowKit
def sixD : List UInt8 := [65, 66, 67, 68, 69, 70, 71, 72, 73, 74, 75, 76, 77, 78, 79, 80, 81, 82, 83, 84, 85, 86, 87, 88, 89, 90, 97, 98, 99, 100, 101, 102, 103, 104, 105, 106, 107, 108, 109, 110, 111, 112, 113, 114, 115, 116, 117, 118, 119, 120, 121, 122, 48, 49, 50, 51, 52, 53, 54, 55, 56, 57, 45, 95]
def six (n : Nat) : UInt8 := sixD.getD n 0
def enc (rest bits : Nat) : List UInt8 → List UInt8
  | [] => if 0 < bits then [six (rest * 2 ^ (6 - bits))] else []
  | c :: r =>
    let n := rest * 256 + c.toNat
    if 4 ≤ bits then six (n / 2 ^ (bits + 2)) :: six (n % 2 ^ (bits + 2) / 2 ^ (bits - 4)) :: enc (n % 2 ^ (bits + 2) % 2 ^ (bits - 4)) (bits - 4) r
    else six (n / 2 ^ (bits + 2)) :: enc (n % 2 ^ (bits + 2)) (bits + 2) r
def b64L (l : List UInt8) : List UInt8 := enc 0 0 l
theorem six_at (n : Nat) (h : n < 64) : (({ data := #[65, 66, 67, 68, 69, 70, 71, 72, 73, 74, 75, 76, 77, 78, 79, 80, 81, 82, 83, 84, 85, 86, 87, 88, 89, 90, 97, 98, 99, 100, 101, 102, 103, 104, 105, 106, 107, 108, 109, 110, 111, 112, 113, 114, 115, 116, 117, 118, 119, 120, 121, 122, 48, 49, 50, 51, 52, 53, 54, 55, 56, 57, 45, 95] } : ByteArray)[n]'h) = six n := by
  show sixD[n]'h = _
  rw [six, List.getD_eq_getElem?_getD, List.getElem?_eq_getElem h]; rfl
theorem ofInt_i64 (a : Nat) (ha : a < 9223372036854775808) : (BitVec.ofInt 64 (a : Int)).toNat = a := by
  rw [BitVec.ofInt_natCast, BitVec.toNat_ofNat]; exact Nat.mod_eq_of_lt (by omega)
theorem or_add (i a b : Nat) (ha : a < 1048576) (hi : i ≤ 8) (hb : b < 2 ^ i) : bits BinOp.or IntKind.i64 ((a : Int) * ((2 ^ i : Nat) : Int)) (b : Int) = (a : Int) * ((2 ^ i : Nat) : Int) + (b : Int) := by
  have h2 : 2 ^ i ≤ 2 ^ 8 := Nat.pow_le_pow_right (by omega) hi
  have h3 : a * 2 ^ i ≤ 1048576 * 2 ^ 8 := Nat.mul_le_mul (by omega) h2
  have e : a * 2 ^ i ||| b = a * 2 ^ i + b := by
    rw [Nat.mul_comm]; exact (Nat.two_pow_add_eq_or_of_lt hb a).symm
  rw [← Int.natCast_mul]
  show IntKind.i64.wrap ((BitVec.ofInt 64 ((a * 2 ^ i : Nat) : Int) ||| BitVec.ofInt 64 (b : Int)).toNat : Int) = _
  rw [BitVec.toNat_or, ofInt_i64 _ (by omega), ofInt_i64 b (by omega), IntKind.wrap_i64, e]
  omega
theorem or_256 (a : Nat) (c : UInt8) (ha : a < 1048576) : bits BinOp.or IntKind.i64 ((a : Int) * 256) (c.toNat : Int) = (a : Int) * 256 + (c.toNat : Int) := or_add 8 a c.toNat ha (by omega) c.toNat_lt
theorem and_mask (i a : Nat) (hi : i ≤ 8) (ha : a < 9223372036854775808) : bits BinOp.and IntKind.i64 (a : Int) ((2 ^ i - 1 : Nat) : Int) = ((a % 2 ^ i : Nat) : Int) := by
  have h2 : 2 ^ i ≤ 2 ^ 8 := Nat.pow_le_pow_right (by omega) hi
  have h3 : a % 2 ^ i < 2 ^ i := Nat.mod_lt _ (Nat.two_pow_pos i)
  show IntKind.i64.wrap ((BitVec.ofInt 64 (a : Int) &&& BitVec.ofInt 64 ((2 ^ i - 1 : Nat) : Int)).toNat : Int) = _
  rw [BitVec.toNat_and, ofInt_i64 a ha, ofInt_i64 _ (by omega), IntKind.wrap_i64, Nat.and_two_pow_sub_one_eq_mod]
  omega
theorem and_int (i : Nat) (x m : Int) (hi : i ≤ 8) (hm : m = ((2 ^ i - 1 : Nat) : Int)) (h0 : 0 ≤ x) (h1 : x < 9223372036854775808) : bits BinOp.and IntKind.i64 x m = x % ((2 ^ i : Nat) : Int) := by
  obtain ⟨a, rfl⟩ := Int.eq_ofNat_of_zero_le h0
  subst hm
  exact and_mask i a hi (by omega)
theorem enc_len (l : List UInt8) : ∀ rest bits, bits ≤ 5 → 6 * (enc rest bits l).length ≤ 8 * l.length + bits + 5 := by
  induction l with
  | nil =>
    intro rest bits h
    rw [enc]
    split
    · simp; omega
    · simp
  | cons c l ih =>
    intro rest bits h
    rw [enc]
    split
    · have := ih ((rest * 256 + c.toNat) % 2 ^ (bits + 2) % 2 ^ (bits - 4)) (bits - 4) (by omega)
      simp only [List.length_cons]; omega
    · have := ih ((rest * 256 + c.toNat) % 2 ^ (bits + 2)) (bits + 2) (by omega)
      simp only [List.length_cons]; omega
theorem drop_one (s : ByteArray) (k : Nat) (h : k < s.size) : s.data.toList.drop k = s[k] :: s.data.toList.drop (k + 1) := by
  rw [List.drop_eq_getElem_cons (by simp; omega)]; rfl
set_option maxHeartbeats 2000000 in
set_option maxRecDepth 100000 in
theorem base64_any (s : ByteArray) (w : World) (hs : s.size ≤ 2097152) :
    Calls Tryz.prog 134 #[.string s] w fun e w' => e = .returned (.string ⟨(b64L s.data.toList).toArray⟩) ∧ Below w.heap.size w w' := by
  go_enter Tryz.func134, Tryz.ntmps134
  go_wp2
  go_loopw [4, 5, 9] (fun x y i wr => ∃ (k r b : Nat) (acc : List UInt8), k ≤ s.size ∧ (b = 0 ∧ r < 1 ∨ b = 2 ∧ r < 4 ∨ b = 4 ∧ r < 16) ∧ acc.length ≤ 2 * k ∧ x = .int .i64 r ∧ y = .int .i64 b ∧ i = .int .i64 k ∧ b64L s.data.toList = acc ++ enc r b (s.data.toList.drop k) ∧ Bd w.heap.size acc wr ∧ Below w.heap.size w wr) (fun _ _ i _ => s.size - (intOf i).toNat)
  case atStart => exact ⟨0, 0, 0, [], by omega, .inl ⟨rfl, by omega⟩, by simp, rfl, rfl, rfl, rfl, Bd.start w, (Below.refl _ _).alloc (Nat.le_refl _) _⟩
  case round =>
    obtain ⟨k, r, b, acc, hk, hrb, hal, rfl, rfl, rfl, hU, hI, hb⟩ := hrel
    have HU := Lib.hid hU
    clear hU
    by_cases hlt : k < s.size
    · have hor := or_256 r s[k] (by omega)
      have h8 := s[k].toNat_lt
      have ha3 : bits BinOp.and IntKind.i64 ((r : Int) * 256 + (s[k].toNat : Int)) 3 = ((r : Int) * 256 + (s[k].toNat : Int)) % 4 := and_int 2 _ _ (by omega) rfl (by omega) (by omega)
      have ha15 : bits BinOp.and IntKind.i64 ((r : Int) * 256 + (s[k].toNat : Int)) 15 = ((r : Int) * 256 + (s[k].toNat : Int)) % 16 := and_int 4 _ _ (by omega) rfl (by omega) (by omega)
      have ha63 : bits BinOp.and IntKind.i64 ((r : Int) * 256 + (s[k].toNat : Int)) 63 = ((r : Int) * 256 + (s[k].toNat : Int)) % 64 := and_int 6 _ _ (by omega) rfl (by omega) (by omega)
      have ha0 : bits BinOp.and IntKind.i64 (((r : Int) * 256 + (s[k].toNat : Int)) % 64) 0 = 0 := by
        have := and_int 0 (((r : Int) * 256 + (s[k].toNat : Int)) % 64) 0 (by omega) rfl (by omega) (by omega)
        rw [this]; omega
      rcases hrb with ⟨rfl, hr⟩ | ⟨rfl, hr⟩ | ⟨rfl, hr⟩
      · have HS : Hid (enc r 0 (s.data.toList.drop k) = six ((r * 256 + s[k].toNat) / 4) :: enc ((r * 256 + s[k].toNat) % 4) 2 (s.data.toList.drop (k + 1))) := by rw [drop_one s k hlt]; rfl
        go_wp2_with (fail)
        refine wp_loop_rounds 2 ?_
        rw [rounds_succ]
        go_wp2_with (fail)
        refine (write_b w.heap.size acc _ _ hI (by omega)).mono ?_
        rintro e w1 ⟨rfl, h1, b1, _⟩
        rw [six_at _ (by omega)] at h1
        have hb' := hb.trans b1
        go_wp2_with (fail)
        rw [rounds_succ]
        go_wp2_with (fail)
        go_roundw
        case rel => exact ⟨k + 1, (r * 256 + s[k].toNat) % 4, 2, _, by omega, by omega, by simp; omega, by go_num, by go_num, by go_num, by rw [HU.out, HS.out]; simp, h1, hb'⟩
        case measure => simp [intOf]; omega
      · have HS : Hid (enc r 2 (s.data.toList.drop k) = six ((r * 256 + s[k].toNat) / 16) :: enc ((r * 256 + s[k].toNat) % 16) 4 (s.data.toList.drop (k + 1))) := by rw [drop_one s k hlt]; rfl
        go_wp2_with (fail)
        refine wp_loop_rounds 2 ?_
        rw [rounds_succ]
        go_wp2_with (fail)
        refine (write_b w.heap.size acc _ _ hI (by omega)).mono ?_
        rintro e w1 ⟨rfl, h1, b1, _⟩
        rw [six_at _ (by omega)] at h1
        have hb' := hb.trans b1
        go_wp2_with (fail)
        rw [rounds_succ]
        go_wp2_with (fail)
        go_roundw
        case rel => exact ⟨k + 1, (r * 256 + s[k].toNat) % 16, 4, _, by omega, by omega, by simp; omega, by go_num, by go_num, by go_num, by rw [HU.out, HS.out]; simp, h1, hb'⟩
        case measure => simp [intOf]; omega
      · have HS : Hid (enc r 4 (s.data.toList.drop k) = six ((r * 256 + s[k].toNat) / 64) :: six ((r * 256 + s[k].toNat) % 64) :: enc 0 0 (s.data.toList.drop (k + 1))) := by
          rw [drop_one s k hlt]
          show six _ :: six (_ % 64 / 1) :: enc (_ % 64 % 1) 0 _ = _
          rw [Nat.div_one, Nat.mod_one]
        go_wp2_with (fail)
        refine wp_loop_rounds 3 ?_
        rw [rounds_succ]
        go_wp2_with (fail)
        refine (write_b w.heap.size acc _ _ hI (by omega)).mono ?_
        rintro e w1 ⟨rfl, h1, b1, _⟩
        rw [six_at _ (by omega)] at h1
        have hb' := hb.trans b1
        go_wp2_with (fail)
        rw [rounds_succ]
        go_wp2_with (fail)
        refine (write_b w.heap.size _ _ _ h1 (by simp; omega)).mono ?_
        rintro e w2 ⟨rfl, h2, b2, _⟩
        go_wp2_with (fail)
        rw [six_at _ (by omega)] at h2
        have hb'' := hb'.trans b2
        go_wp2_with (fail)
        rw [rounds_succ]
        go_wp2_with (fail)
        go_roundw
        case rel => exact ⟨k + 1, 0, 0, _, by omega, by omega, by simp; omega, by go_num, by go_num, by go_num, by rw [HU.out, HS.out]; simp, h2, hb''⟩
        case measure => simp [intOf]; omega
    · have e : s.data.toList.drop k = [] := List.drop_of_length_le (by simp; omega)
      have HE := Lib.hid e
      clear e
      rcases hrb with ⟨rfl, hr⟩ | ⟨rfl, hr⟩ | ⟨rfl, hr⟩
      · go_wp2_with (go_at_call 165; refine (string_b w.heap.size _ _ hI).mono ?_)
        rintro e w1 ⟨rfl, h1⟩
        go_wp2
        go_ret
        refine ⟨?_, hb.trans h1⟩
        rw [HU.out, HE.out]
        simp [enc]
      · have ht : (r : Int) * 16 < 64 := by omega
        go_wp2_with (fail)
        refine (write_b w.heap.size acc _ _ hI (by omega)).mono ?_
        rintro e w1 ⟨rfl, h1, b1, _⟩
        rw [six_at _ (by omega)] at h1
        go_wp2_with (go_at_call 165; refine (string_b w.heap.size _ _ h1).mono ?_)
        rintro e w2 ⟨rfl, h2⟩
        go_wp2
        go_ret
        refine ⟨?_, (hb.trans b1).trans h2⟩
        rw [HU.out, HE.out]
        simp [enc]
      · have ht : (r : Int) * 4 < 64 := by omega
        go_wp2_with (fail)
        refine (write_b w.heap.size acc _ _ hI (by omega)).mono ?_
        rintro e w1 ⟨rfl, h1, b1, _⟩
        rw [six_at _ (by omega)] at h1
        go_wp2_with (go_at_call 165; refine (string_b w.heap.size _ _ h1).mono ?_)
        rintro e w2 ⟨rfl, h2⟩
        go_wp2
        go_ret
        refine ⟨?_, (hb.trans b1).trans h2⟩
        rw [HU.out, HE.out]
        simp [enc]
end Go.Proofs.YtpggkfdijmnmiaaGreat.Hs
