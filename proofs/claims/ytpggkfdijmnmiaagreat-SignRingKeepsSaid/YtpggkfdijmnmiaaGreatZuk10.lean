/- A drawn region by a plan: reading what is known. General; no condition. What sign's left and inRange answer. Condition: the number is below 2 to the 256. Sums, macs and stretched bytes as plain functions on lists of bytes and of words. Nothing of the program; no condition. Numbers in digits of sixteen bits: products, comparisons, roots, as plain mathematics. Nothing of the program; no condition. W -/
import Derived.Test.YtpggkfdijmnmiaaGreatZuk09
import Derived.Test.YtpggkfdijmnmiaaGreatZuk04
import Derived.Test.YtpggkfdijmnmiaaGreatZuk05
import Derived.Test.YtpggkfdijmnmiaaGreatRows
import Derived.Lib.Hide
import Derived.WalkKit
import Derived.WalkSpells
import Derived.WalkLawsBesides
import Derived.BigCall
import Derived.Outline
import Derived.Lib.OthersKept
import Derived.Test.YtpggkfdijmnmiaaGreatZuk00
import Derived.Laws.BitsAllLaws
import Derived.Lib.QuietBelow
import Derived.Lib.Walk
import Derived.Laws.Shifts
import Derived.Lib.ConvBytes
import Derived.Lib.BufferRead
import Derived.Laws.IdiomStrings
import Derived.Laws.Tables
import Derived.Laws.Rows
import Derived.BigQuiet
set_option linter.unusedVariables false
set_option linter.unusedSimpArgs false
set_option maxRecDepth 100000
namespace Go.Proofs.YtpggkfdijmnmiaaGreat.Pl
open Go.RowKit Go.Sort
section
variable {P : Program} {ops : Array Oper} {Q : Exit → Act → World → Prop}
theorem wpOp_skip {i : Nat} {o : Oper} {K : Act → World → Prop} {a : Act} {w : World} (hi : ops[i]? = some o) (hg : Region.wanted o (yielded ops a.tmps) = false) (h : K (a.put o.dst undef) w) : wpOp P ops Q i K a w := by
  unfold wpOp
  simp only [hi]
  rw [if_neg (by simp [hg])]
  exact h
def readsB (ops : Array Oper) (i d k : Nat) : Bool := match ops[i]?, ops[k]? with
  | some o, some o' => o'.dst == some d && o.after.any fun e => e.on == k && Region.binds .any e
  | _, _ => false
def freeB (ops : Array Oper) (d : Nat) : Bool := ops.all fun o => o.dst != some d
theorem Known.val {T0 T : Array Value} {v : Nat → Value} {o : Oper} {i d k : Nat} (h : Known ops T0 v o T) (ho : ops[i]? = some o) (hr : readsB ops i d k = true) : T.getD d undef = v k := by
  unfold readsB at hr
  rw [ho] at hr
  cases hk : ops[k]? with
  | none => rw [hk] at hr; cases hr
  | some o' =>
    rw [hk] at hr
    simp only [Bool.and_eq_true, beq_iff_eq, Array.any_eq_true] at hr
    obtain ⟨hd, m, hm, he, hb⟩ := hr
    have := h.1 _ (Array.getElem_mem hm) hb o' d (by rw [he]; exact hk) hd
    rw [he] at this
    exact this
theorem Known.old {T0 T : Array Value} {v : Nat → Value} {o : Oper} {d : Nat} (h : Known ops T0 v o T) (hf : freeB ops d = true) : T.getD d undef = T0.getD d undef := by
  refine h.2 d fun k o' hk hd => ?_
  unfold freeB at hf
  rw [Array.all_eq_true] at hf
  obtain ⟨h1, h2⟩ := Array.getElem?_eq_some_iff.1 hk
  have := hf k h1
  rw [h2, hd] at this
  simp at this
theorem op_core {i : Nat} {o : Oper} {dst : Option Tmp} {op : Go.Op} {ty : TypeId} {gd : Option (Nat × Bool)} (h : (ops[i]?).map (fun o => (o.dst, o.op, o.type, o.guard)) = some (dst, op, ty, gd)) (ho : ops[i]? = some o) : ∃ ps af, o = ⟨dst, op, ty, ps, af, gd⟩ := by
  rw [ho] at h
  obtain ⟨a, b, c, d, e, f⟩ := o
  simp only [Option.map_some, Option.some.injEq, Prod.mk.injEq] at h
  obtain ⟨rfl, rfl, rfl, rfl⟩ := h
  exact ⟨_, _, rfl⟩
theorem Known.is {T0 T : Array Value} {v : Nat → Value} {o : Oper} {i d : Nat} {x : Value} (h : Known ops T0 v o T) (k : Nat) (ho : ops[i]? = some o) (hr : readsB ops i d k = true) (hx : v k = x) : T.getD d undef = x := (h.val ho hr).trans hx
theorem Known.of {T0 T : Array Value} {v : Nat → Value} {o : Oper} {d : Nat} {x : Value} (h : Known ops T0 v o T) (hf : freeB ops d = true) (hx : T0.getD d undef = x) : T.getD d undef = x := (h.old hf).trans hx
theorem core {i : Nat} {o : Oper} (dst : Option Tmp) (op : Go.Op) (ty : TypeId) (gd : Option (Nat × Bool)) (ho : ops[i]? = some o) (h : (ops[i]?).map (fun o => (o.dst, o.op, o.type, o.guard)) = some (dst, op, ty, gd)) : ∃ ps af, o = ⟨dst, op, ty, ps, af, gd⟩ := op_core h ho
theorem getD_some {T : Array Value} {d : Nat} {v : Value} (h : T.getD d undef = v) (hv : v ≠ undef) : T[d]? = some v := by
  simp only [Array.getD] at h
  by_cases hd : d < T.size
  · simp only [hd, dif_pos] at h
    rw [Array.getElem?_eq_getElem hd]
    exact congrArg some h
  · simp only [hd, dif_neg, not_false_eq_true] at h
    exact absurd h.symm hv
theorem wanted_of {o : Oper} {T : Array Value} {j d : Nat} {b wb : Bool} (hg : o.guard = some (j, wb)) (hd : (ops[j]?).bind (·.dst) = some d) (hT : T.getD d undef = .bool b) : Region.wanted o (yielded ops T) = (b == wb) := by
  unfold Region.wanted yielded
  rw [hg]
  simp only [hd, Option.bind_some, getD_some hT (by intro h; cases h)]
  cases b <;> cases wb <;> rfl
theorem wpOp_want {i : Nat} {o : Oper} {K : Act → World → Prop} {a : Act} {w : World} (hi : ops[i]? = some o) (hg : Region.wanted o (yielded ops a.tmps) = true) (h : o.wp P a w K Q) : wpOp P ops Q i K a w := by
  unfold wpOp
  simp only [hi]
  rw [if_pos hg]
  exact .inl h
theorem wpOp_plain {i : Nat} {o : Oper} {K : Act → World → Prop} {a : Act} {w : World} (hi : ops[i]? = some o) (hg : o.guard = none) (h : o.wp P a w K Q) : wpOp P ops Q i K a w := by
  unfold wpOp
  simp only [hi]
  rw [if_pos (by unfold Region.wanted; rw [hg])]
  exact .inl h
theorem all_step {F : Nat → Prop} {n : Nat} (h : ∀ i, i < n → F i) (hn : F n) : ∀ i, i < n + 1 → F i := fun i hi => by
  rcases Nat.lt_succ_iff_lt_or_eq.1 hi with h1 | rfl
  · exact h i h1
  · exact hn
theorem all_zero {F : Nat → Prop} : ∀ i, i < 0 → F i := fun i hi => absurd hi (Nat.not_lt_zero i)
def mkV (V : List ((Nat × (Value → Value)) ⊕ Value)) (y : Nat → Value) (i : Nat) : Value := match V[i]? with
  | some (.inl (k, g)) => g (y k)
  | some (.inr v) => v
  | none => undef
def depB (M : List (List Nat)) (V : List ((Nat × (Value → Value)) ⊕ Value)) : Bool := (List.range V.length).all fun i => match V[i]? with
  | some (.inl (k, _)) => i == k || (M.getD i []).contains k
  | _ => true
theorem mkV_fix {M : List (List Nat)} {V : List ((Nat × (Value → Value)) ⊕ Value)} (h : depB M V = true) {i c : Nat} (hi : i ≠ c) (ha : (M.getD i []).contains c = false) (y : Nat → Value) (v : Value) : mkV V (upd y c v) i = mkV V y i := by
  unfold mkV
  cases hv : V[i]? with
  | none => rfl
  | some x =>
    cases x with
    | inr z => rfl
    | inl kg =>
      obtain ⟨k, g⟩ := kg
      show g (upd y c v k) = g (y k)
      refine congrArg g ?_
      unfold upd
      rw [if_neg fun e => ?_]
      subst e
      unfold depB at h
      rw [List.all_eq_true] at h
      have := h i (List.mem_range.2 (List.getElem?_eq_some_iff.1 hv).1)
      rw [hv] at this
      simp only [Bool.or_eq_true, beq_iff_eq] at this
      rcases this with e | e
      · exact hi e
      · rw [ha] at e
        cases e
section
variable {T0 T : Array Value} {W : List ((Nat × (Value → Value)) ⊕ Value)} {y : Nat → Value} {o : Oper} {i : Nat} {ds : List Deferred} {w : World}
theorem pl1 (dst s k : Nat) (ty : TypeId) {op : Go.Op} {x v : Value} (ho : ops[i]? = some o) (hK : Known ops T0 (mkV W y) o T) (hc : (ops[i]?).map (fun o => (o.dst, o.op, o.type, o.guard)) = some (some dst, op, ty, none)) (hr : readsB ops i s k = true) (hk : mkV W y k = x) (hi : mkV W y i = v) (h : ∀ ps af, T.getD s undef = x → Oper.wp P ⟨some dst, op, ty, ps, af, none⟩ ⟨T, ds⟩ w (fun a' w'' => a' = Act.put ⟨T, ds⟩ (some dst) v ∧ w'' = w) Q) : wpOp P ops Q i (fun a' w'' => a' = Act.put ⟨T, ds⟩ o.dst (mkV W y i) ∧ w'' = w) ⟨T, ds⟩ w := by
  obtain ⟨ps, af, rfl⟩ := op_core hc ho
  subst hk hi
  exact wpOp_plain ho rfl (h ps af (hK.val ho hr))
theorem pl0 (dst s : Nat) (ty : TypeId) {op : Go.Op} {x v : Value} (ho : ops[i]? = some o) (hK : Known ops T0 (mkV W y) o T) (hc : (ops[i]?).map (fun o => (o.dst, o.op, o.type, o.guard)) = some (some dst, op, ty, none)) (hr : freeB ops s = true) (hk : T0.getD s undef = x) (hi : mkV W y i = v) (h : ∀ ps af, T.getD s undef = x → Oper.wp P ⟨some dst, op, ty, ps, af, none⟩ ⟨T, ds⟩ w (fun a' w'' => a' = Act.put ⟨T, ds⟩ (some dst) v ∧ w'' = w) Q) : wpOp P ops Q i (fun a' w'' => a' = Act.put ⟨T, ds⟩ o.dst (mkV W y i) ∧ w'' = w) ⟨T, ds⟩ w := by
  obtain ⟨ps, af, rfl⟩ := op_core hc ho
  subst hi
  exact wpOp_plain ho rfl (h ps af ((hK.old hr).trans hk))
theorem pg0 (j d : Nat) (b : Bool) (dst s : Nat) (ty : TypeId) {op : Go.Op} {x v : Value} (ho : ops[i]? = some o) (hK : Known ops T0 (mkV W y) o T) (hc : (ops[i]?).map (fun o => (o.dst, o.op, o.type, o.guard)) = some (some dst, op, ty, some (j, b))) (hd : (ops[j]?).bind (·.dst) = some d) (hrj : readsB ops i d j = true) (hj : mkV W y j = .bool b) (hr : freeB ops s = true) (hk : T0.getD s undef = x) (hi : mkV W y i = v) (h : ∀ ps af, T.getD s undef = x → Oper.wp P ⟨some dst, op, ty, ps, af, some (j, b)⟩ ⟨T, ds⟩ w (fun a' w'' => a' = Act.put ⟨T, ds⟩ (some dst) v ∧ w'' = w) Q) : wpOp P ops Q i (fun a' w'' => a' = Act.put ⟨T, ds⟩ o.dst (mkV W y i) ∧ w'' = w) ⟨T, ds⟩ w := by
  obtain ⟨ps, af, rfl⟩ := op_core hc ho
  subst hi
  exact wpOp_want ho ((wanted_of (d := d) (b := b) rfl hd ((hK.val ho hrj).trans hj)).trans (by simp)) (h ps af ((hK.old hr).trans hk))
theorem psk (j d : Nat) (b wb : Bool) (ho : ops[i]? = some o) (hK : Known ops T0 (mkV W y) o T) (hc : (ops[i]?).map (·.guard) = some (some (j, wb))) (hd : (ops[j]?).bind (·.dst) = some d) (hrj : readsB ops i d j = true) (hj : mkV W y j = .bool b) (hb : (b == wb) = false) (hi : mkV W y i = undef) : wpOp P ops Q i (fun a' w'' => a' = Act.put ⟨T, ds⟩ o.dst (mkV W y i) ∧ w'' = w) ⟨T, ds⟩ w := by
  rw [hi]
  rw [ho] at hc
  exact wpOp_skip ho ((wanted_of (d := d) (b := b) (by simpa using hc) hd ((hK.val ho hrj).trans hj)).trans hb) ⟨rfl, rfl⟩
theorem k_mv {ty : TypeId} {dst : Option Tmp} {s : Nat} {ps af g} {x : Value} (e : T.getD s undef = x) : Oper.wp P ⟨dst, .move (.tmp s), ty, ps, af, g⟩ ⟨T, ds⟩ w (fun a' w'' => a' = Act.put ⟨T, ds⟩ dst x ∧ w'' = w) Q := by
  subst e
  exact ⟨rfl, rfl⟩
theorem k_as {ty : TypeId} {dst : Option Tmp} {s : Nat} {ps af g} {x : Value} (e : T.getD s undef = x) : Oper.wp P ⟨dst, .assign (.tmp s), ty, ps, af, g⟩ ⟨T, ds⟩ w (fun a' w'' => a' = Act.put ⟨T, ds⟩ dst x ∧ w'' = w) Q := by
  subst e
  exact ⟨rfl, rfl⟩
end
end
end Go.Proofs.YtpggkfdijmnmiaaGreat.Pl
namespace Go.Proofs.YtpggkfdijmnmiaaGreat
open Go.RowKit Limbs
set_option maxHeartbeats 8000000 in
theorem sleft_any (a : Nat) (ha : a < W256) (w : World) : Calls Tryz.prog 92 #[nv a] w fun e w' => e = .returned (nv (a % mN)) ∧ Below w.heap.size w w' := by
  have h := add_any 1 a 0 ha (by decide)
  rw [show md 1 = mN by unfold md; rw [if_neg (by decide)], Nat.add_zero] at h
  have HADD := Lib.hid h
  clear h
  have hz : nv 0 = .agg #[.int .u64 0, .int .u64 0, .int .u64 0, .int .u64 0] := rfl
  rw [hz] at HADD
  simp only [nv, num] at HADD ⊢
  go_enter Tryz.func92, Tryz.ntmps92
  go_wp2_with fail
  refine (keep w.heap.size w (HADD.out _) (by go_grown) (Nat.le_refl _)).mono ?_
  rintro e w1 ⟨rfl, hb, hk⟩
  have KR : Bk 24 w1 (w.heap.size + 1) cs0 := Bk.below (Bk.new (by simp)) hk
  obtain ⟨f0, f1, f2, f3⟩ := KR.fros
  obtain ⟨j0, j1, j2, j3⟩ := KR.cells
  go_wp2_with fail
  refine ret_cell rfl (w.heap.size + 1) (a % mN) rfl (Bk.put KR) rfl ⟨rfl, ?_⟩
  go_grown
set_option maxHeartbeats 8000000 in
theorem inRange_any (a : Nat) (ha : a < W256) (w : World) : Calls Tryz.prog 41 #[nv a] w fun e w' => e = .returned (.bool (decide (0 < a ∧ a < mN))) ∧ Below w.heap.size w w' := by
  have hmN : mN < W256 := by decide
  have HL := Lib.hid (sleft_any a ha)
  have HZ : Hid (∀ w, (Op.equalIn 10000 24 (.agg #[.int .u64 (lb a 0 : Nat), .int .u64 (lb a 1 : Nat), .int .u64 (lb a 2 : Nat), .int .u64 (lb a 3 : Nat)]) (.agg #[.int .u64 0, .int .u64 0, .int .u64 0, .int .u64 0])).run Tryz.prog w = .ok (decide (a = 0)) w) := Lib.hid fun w => eqN a 0 ha (by decide) w
  have HE : Hid (∀ w, (Op.equalIn 10000 24 (.agg #[.int .u64 (lb (a % mN) 0 : Nat), .int .u64 (lb (a % mN) 1 : Nat), .int .u64 (lb (a % mN) 2 : Nat), .int .u64 (lb (a % mN) 3 : Nat)]) (.agg #[.int .u64 (lb a 0 : Nat), .int .u64 (lb a 1 : Nat), .int .u64 (lb a 2 : Nat), .int .u64 (lb a 3 : Nat)])).run Tryz.prog w = .ok (decide (a % mN = a)) w) := Lib.hid fun w => eqN (a % mN) a (Nat.lt_trans (Nat.mod_lt _ (by decide)) hmN) ha w
  have hv : decide (0 < a ∧ a < mN) = (!decide (a = 0) && decide (a % mN = a)) := by
    have h1 : a % mN = a ↔ a < mN := ⟨fun h => by rw [← h]; exact Nat.mod_lt _ (by decide), Nat.mod_eq_of_lt⟩
    by_cases h0 : a = 0
    · subst h0; simp
    · have : 0 < a := by omega
      simp [h0, this, h1]
  rw [hv]
  clear hv hmN ha
  by_cases h0 : a = 0
  · rw [decide_eq_true h0] at HZ ⊢
    clear h0
    have hz := HZ.out
    simp only [nv, num] at HL ⊢
    go_enter Tryz.func41, Tryz.ntmps41
    go_wp2_with fail
    have K : Bk 24 (w.alloc (.cells (cs4 a) 24)) w.heap.size (cs4 a) := Bk.new rfl
    have hb0 : Below w.heap.size w (w.alloc (.cells (cs4 a) 24)) := by go_grown
    unfold cs4 at K hb0
    generalize (w.alloc (.cells #[.int .u64 (lb a 0 : Nat), .int .u64 (lb a 1 : Nat), .int .u64 (lb a 2 : Nat), .int .u64 (lb a 3 : Nat)] 24)) = W at K hb0 ⊢
    obtain ⟨x0, x1, x2, x3⟩ := K.reg
    refine wp_region_quiet_below mixed (by kernel_rfl) ?_
    repeat (first | go_big_quiet_step (exact qg HL.out) | quiet_step (exact qg HL.out))
    refine wpQuiet_nil ?_
    intro _ hw'
    obtain ⟨⟨dq, osq⟩, hw''⟩ := hw'
    subst hw''
    go_wp2_with fail
    go_returns
    exact ⟨rfl, hb0.trans ((below_regrown W dq osq).mono hb0.size)⟩
  · rw [decide_eq_false h0] at HZ ⊢
    clear h0
    have hz := HZ.out
    have he := HE.out
    generalize decide (a % mN = a) = bb at he ⊢
    simp only [nv, num] at HL ⊢
    go_enter Tryz.func41, Tryz.ntmps41
    go_wp2_with fail
    have K : Bk 24 (w.alloc (.cells (cs4 a) 24)) w.heap.size (cs4 a) := Bk.new rfl
    have hb0 : Below w.heap.size w (w.alloc (.cells (cs4 a) 24)) := by go_grown
    unfold cs4 at K hb0
    generalize (w.alloc (.cells #[.int .u64 (lb a 0 : Nat), .int .u64 (lb a 1 : Nat), .int .u64 (lb a 2 : Nat), .int .u64 (lb a 3 : Nat)] 24)) = W at K hb0 ⊢
    obtain ⟨x0, x1, x2, x3⟩ := K.reg
    refine wp_region_quiet_below mixed (by kernel_rfl) ?_
    repeat (first | go_big_quiet_step (exact qg HL.out) | quiet_step (exact qg HL.out))
    refine wpQuiet_nil ?_
    intro _ hw'
    obtain ⟨⟨dq, osq⟩, hw''⟩ := hw'
    subst hw''
    go_wp2_with fail
    go_returns
    exact ⟨by simp, hb0.trans ((below_regrown W dq osq).mono hb0.size)⟩
end Go.Proofs.YtpggkfdijmnmiaaGreat
namespace Go.Proofs.YtpggkfdijmnmiaaGreat.Hs
def rorW (x : UInt32) (n : Nat) : UInt32 := UInt32.ofNat (x.toNat * 2 ^ (32 - n) % 4294967296 ||| x.toNat / 2 ^ n)
def shrW (x : UInt32) (n : Nat) : UInt32 := UInt32.ofNat (x.toNat / 2 ^ n)
def fourL (x : UInt32) : List UInt8 := [UInt8.ofNat (x.toNat / 16777216), UInt8.ofNat (x.toNat / 65536), UInt8.ofNat (x.toNat / 256), UInt8.ofNat x.toNat]
def sh8 (x : UInt32) (c : UInt8) : UInt32 := UInt32.ofNat (x.toNat * 256 + c.toNat)
def nstep (b : List UInt8) (l : List UInt32) (i : Nat) : List UInt32 := l.set (i / 4) (sh8 (l.getD (i / 4) 0) (b.getD i 0))
def numsTo (b : List UInt8) (i : Nat) : List UInt32 := (List.range i).foldl (nstep b) (List.replicate 16 0)
def numsL (b : List UInt8) : List UInt32 := numsTo b 64
def sig0 (x : UInt32) : UInt32 := rorW x 7 ^^^ rorW x 18 ^^^ shrW x 3
def sig1 (x : UInt32) : UInt32 := rorW x 17 ^^^ rorW x 19 ^^^ shrW x 10
def sstep (l : List UInt32) (i : Nat) : List UInt32 := l.set i (l.getD (i - 16) 0 + sig0 (l.getD (i - 15) 0) + l.getD (i - 7) 0 + sig1 (l.getD (i - 2) 0))
def spreadTo (l : List UInt32) (i : Nat) : List UInt32 := (List.range' 16 (i - 16)).foldl sstep (l ++ List.replicate 48 0)
def spreadL (l : List UInt32) : List UInt32 := spreadTo l 64
def S1 (e : UInt32) : UInt32 := rorW e 6 ^^^ rorW e 11 ^^^ rorW e 25
def S0 (a : UInt32) : UInt32 := rorW a 2 ^^^ rorW a 13 ^^^ rorW a 22
def Ch (e f g : UInt32) : UInt32 := e &&& f ^^^ g &&& ~~~e
def Maj (a b c : UInt32) : UInt32 := a &&& b ^^^ a &&& c ^^^ b &&& c
def turnL : List UInt32 → UInt32 → List UInt32
  | [a, b, c, d, e, f, g, h], n => [(h + S1 e + Ch e f g + n) + (S0 a + Maj a b c), a, b, c, d + (h + S1 e + Ch e f g + n), e, f, g]
  | l, _ => l
def firstL : List UInt32 := [0x6a09e667, 0xbb67ae85, 0x3c6ef372, 0xa54ff53a, 0x510e527f, 0x9b05688c, 0x1f83d9ab, 0x5be0cd19]
def kL : List UInt32 := [
  0x428a2f98, 0x71374491, 0xb5c0fbcf, 0xe9b5dba5, 0x3956c25b, 0x59f111f1, 0x923f82a4, 0xab1c5ed5,
  0xd807aa98, 0x12835b01, 0x243185be, 0x550c7dc3, 0x72be5d74, 0x80deb1fe, 0x9bdc06a7, 0xc19bf174,
  0xe49b69c1, 0xefbe4786, 0x0fc19dc6, 0x240ca1cc, 0x2de92c6f, 0x4a7484aa, 0x5cb0a9dc, 0x76f988da,
  0x983e5152, 0xa831c66d, 0xb00327c8, 0xbf597fc7, 0xc6e00bf3, 0xd5a79147, 0x06ca6351, 0x14292967,
  0x27b70a85, 0x2e1b2138, 0x4d2c6dfc, 0x53380d13, 0x650a7354, 0x766a0abb, 0x81c2c92e, 0x92722c85,
  0xa2bfe8a1, 0xa81a664b, 0xc24b8b70, 0xc76c51a3, 0xd192e819, 0xd6990624, 0xf40e3585, 0x106aa070,
  0x19a4c116, 0x1e376c08, 0x2748774c, 0x34b0bcb5, 0x391c0cb3, 0x4ed8aa4a, 0x5b9cca4f, 0x682e6ff3,
  0x748f82ee, 0x78a5636f, 0x84c87814, 0x8cc70208, 0x90befffa, 0xa4506ceb, 0xbef9a3f7, 0xc67178f2]
def turnsTo (w : List UInt32) (h : List UInt32) (i : Nat) : List UInt32 := (List.range i).foldl (fun v i => turnL v (kL.getD i 0 + w.getD i 0)) h
def nextL (h : List UInt32) (b : List UInt8) : List UInt32 := List.zipWith (· + ·) (turnsTo (spreadL (numsL b)) h 64) h
def thrL : Nat → List UInt32 → List UInt8 → List UInt32
  | 0, h, _ => h
  | n + 1, h, s => thrL n (nextL h (s.take 64)) (s.drop 64)
def textL (h : List UInt32) : List UInt8 := h.flatMap fourL
def behindL (n : Nat) : List UInt8 := 128 :: List.replicate ((119 - n % 64) % 64) 0 ++ fourL (UInt32.ofNat (n * 8 / 4294967296)) ++ fourL (UInt32.ofNat (n * 8))
def sumL (s : List UInt8) : List UInt8 := textL (thrL ((s.length + 72) / 64) firstL (s ++ behindL s.length))
def fillL (key : List UInt8) : List UInt8 :=
  (if 64 < key.length then sumL key else key) ++ List.replicate (64 - (if 64 < key.length then sumL key else key).length) 0
def turnedL (k : List UInt8) (by' : UInt8) : List UInt8 := k.map (· ^^^ by')
def macK (k s : List UInt8) : List UInt8 := sumL (turnedL k 92 ++ sumL (turnedL k 54 ++ s))
def macL (key s : List UInt8) : List UInt8 := macK (fillL key) s
def val : List Nat → Nat
  | [] => 0
  | x :: l => x + 65536 * val l
def Dig (l : List Nat) : Prop := ∀ x, x ∈ l → x < 65536
theorem val_set : ∀ (l : List Nat) (j x : Nat) (h : j < l.length), val (l.set j x) + l[j] * 65536 ^ j = val l + x * 65536 ^ j
  | y :: l, 0, x, _ => by simp [val]; omega
  | y :: l, j + 1, x, h => by
    have ih := val_set l j x (by simpa using h)
    simp only [List.set_cons_succ, val, List.getElem_cons_succ, Nat.pow_succ]
    have e1 : l[j]'(by simpa using h) * (65536 ^ j * 65536) = 65536 * (l[j]'(by simpa using h) * 65536 ^ j) := by rw [Nat.mul_comm (65536 ^ j), Nat.mul_left_comm]
    have e2 : x * (65536 ^ j * 65536) = 65536 * (x * 65536 ^ j) := by rw [Nat.mul_comm (65536 ^ j), Nat.mul_left_comm]
    rw [e1, e2]
    omega
theorem val_take_succ : ∀ (l : List Nat) (j : Nat) (h : j < l.length), val (l.take (j + 1)) = val (l.take j) + l[j] * 65536 ^ j
  | y :: l, 0, _ => by simp [val]
  | y :: l, j + 1, h => by
    have ih := val_take_succ l j (by simpa using h)
    simp only [List.take_succ_cons, val, List.getElem_cons_succ, Nat.pow_succ] at ih ⊢
    have e1 : l[j]'(by simpa using h) * (65536 ^ j * 65536) = 65536 * (l[j]'(by simpa using h) * 65536 ^ j) := by rw [Nat.mul_comm (65536 ^ j), Nat.mul_left_comm]
    rw [ih, e1]; omega
theorem val_zero (n : Nat) : val (List.replicate n 0) = 0 := by
  induction n with
  | zero => rfl
  | succ n ih => simp [List.replicate_succ, val, ih]
theorem dig_set {l : List Nat} (h : Dig l) (j x : Nat) (hx : x < 65536) : Dig (l.set j x) := by
  intro y hy
  rcases List.mem_or_eq_of_mem_set hy with h1 | h1
  · exact h y h1
  · rw [h1]; exact hx
theorem dig_get {l : List Nat} (h : Dig l) (j : Nat) (hj : j < l.length) : l[j] < 65536 := h _ (List.getElem_mem hj)
structure Inn (S ai : Nat) (b out : List Nat) (i k c : Nat) : Prop where
  dig : Dig out
  carry : c < 65536
  sum : val out + c * 65536 ^ (i + k) = S + ai * val (b.take k) * 65536 ^ i
  rest : ∀ j, (h : j < out.length) → i + b.length ≤ j → out[j] = 0
theorem inn_step {S ai : Nat} {b out : List Nat} {i k c : Nat} (x : Inn S ai b out i k c) (hai : ai < 65536) (hb : Dig b) (hk : k < b.length) (ho : i + b.length < out.length) :
    Inn S ai b (out.set (i + k) ((c + (out[i + k]'(by omega) + ai * b[k])) % 65536)) i (k + 1) ((c + (out[i + k]'(by omega) + ai * b[k])) / 65536) := by
  have hbk := dig_get hb k hk
  have hok := dig_get x.dig (i + k) (by omega)
  have hm : ai * b[k] ≤ 65535 * 65535 := Nat.mul_le_mul (by omega) (by omega)
  have hcr := x.carry
  have hvs := val_set out (i + k) ((c + (out[i + k]'(by omega) + ai * b[k])) % 65536) (by omega)
  have hsum := x.sum
  have hts := val_take_succ b k hk
  generalize hT : c + (out[i + k]'(by omega) + ai * b[k]) = T at hvs ⊢
  refine ⟨dig_set x.dig _ _ (Nat.mod_lt _ (by decide)), by omega, ?_, fun j hj hle => ?_⟩
  · have e0 : 65536 * (T / 65536) + T % 65536 = T := Nat.div_add_mod T 65536
    have e1 : T / 65536 * 65536 ^ (i + (k + 1)) + T % 65536 * 65536 ^ (i + k) = T * 65536 ^ (i + k) := by
      rw [← Nat.add_assoc, Nat.pow_succ, Nat.mul_comm (65536 ^ (i + k)) 65536, ← Nat.mul_assoc, ← Nat.add_mul, Nat.mul_comm (T / 65536), e0]
    have e2 : T * 65536 ^ (i + k) = c * 65536 ^ (i + k) + (out[i + k]'(by omega) * 65536 ^ (i + k) + ai * b[k] * 65536 ^ (i + k)) := by
      rw [← hT, Nat.add_mul, Nat.add_mul]
    have e3 : ai * val (b.take (k + 1)) * 65536 ^ i = ai * val (b.take k) * 65536 ^ i + ai * b[k] * 65536 ^ (i + k) := by
      rw [hts, Nat.mul_add, Nat.add_mul, Nat.pow_add, Nat.mul_comm (65536 ^ i) (65536 ^ k)]
      simp only [Nat.mul_assoc]
    rw [e3]
    omega
  · have : (out.set (i + k) (T % 65536))[j]'hj = out[j]'(by simpa using hj) := List.getElem_set_ne (by omega) _
    rw [this]
    exact x.rest j _ hle
structure Out (a b out : List Nat) (i : Nat) : Prop where
  dig : Dig out
  len : out.length = a.length + b.length
  sum : val out = val (a.take i) * val b
  rest : ∀ j, (h : j < out.length) → i + b.length ≤ j → out[j] = 0
theorem out_start (a b : List Nat) : Out a b (List.replicate (a.length + b.length) 0) 0 :=
  ⟨fun x hx => by have := List.eq_of_mem_replicate hx; omega, by simp, by rw [val_zero]; simp [val], fun j h _ => by simp⟩
theorem out_in {a b out : List Nat} {i : Nat} (x : Out a b out i) (hi : i < a.length) : Inn (val out) a[i] b out i 0 0 :=
  ⟨x.dig, by omega, by simp [val], fun j h hle => x.rest j h hle⟩
theorem in_out {a b out out' : List Nat} {i c : Nat} (x : Out a b out i) (hi : i < a.length) (y : Inn (val out) a[i] b out' i b.length c) (hl : out'.length = out.length) :
    Out a b (out'.set (i + b.length) c) (i + 1) := by
  have hlt : i + b.length < out'.length := by rw [hl, x.len]; omega
  have h0 := y.rest (i + b.length) hlt (Nat.le_refl _)
  have hvs := val_set out' (i + b.length) c hlt
  rw [h0, Nat.zero_mul, Nat.add_zero] at hvs
  refine ⟨dig_set y.dig _ _ y.carry, by rw [List.length_set, hl, x.len], ?_, fun j h hle => ?_⟩
  · rw [hvs, y.sum, x.sum, val_take_succ a i hi, Nat.add_mul, List.take_length]
    congr 1
    rw [Nat.mul_assoc, Nat.mul_assoc, Nat.mul_comm (val b)]
  · have : (out'.set (i + b.length) c)[j]'h = out'[j]'(by simpa using h) := List.getElem_set_ne (by omega) _
    rw [this]
    exact y.rest j _ (by omega)
theorem out_end {a b out : List Nat} (x : Out a b out a.length) : val out = val a * val b := by
  have := x.sum
  rwa [List.take_length] at this
end Go.Proofs.YtpggkfdijmnmiaaGreat.Hs
namespace Go.Proofs.YtpggkfdijmnmiaaGreat.Hs
open Go.RowKit
theorem sizeB : (Tryz.prog.info? 188).map (·.size) = some 2 := by kernel_rfl
theorem liesB : liesAt Tryz.prog Tryz.prog.depth 188 (2 / Tryz.prog.cellsOf 188) 0 188 1 = true := by kernel_rfl
theorem infoByte : (Tryz.prog.info? 5).map (fun i => (i.zero, i.size, i.bytes)) = some (some (.int .u8 0), 1, 1) := by kernel_rfl
set_option maxHeartbeats 1000000 in
set_option maxRecDepth 100000 in
theorem copyCheck_used (b : Nat) (w : World) (h0 : w.cell? ⟨b, 0, none⟩ = some (.pointer (some ⟨b, 0, none⟩))) :
    Calls Tryz.prog 187 #[.pointer (some ⟨b, 0, none⟩)] w fun e w' => e = .returned (.tuple #[]) ∧ w = w' := by
  obtain ⟨j, hj, hjs⟩ := Option.map_eq_some_iff.1 sizeB
  go_enter Tryz.func187, Tryz.ntmps187
  go_wp2
  rw [Lib.run_neq_ptr_same w _ Tryz.underlying186 hj]
  go_wp2
  go_end0
  exact ⟨rfl, rfl⟩
set_option maxHeartbeats 1000000 in
set_option maxRecDepth 100000 in
theorem copyCheck_fresh (b : Nat) (w : World) (h0 : w.cell? ⟨b, 0, none⟩ = some (.pointer none)) (hsh : w.shape? b = some (188, 2)) (hfz : w.frozen? ⟨b, 0, none⟩ = false) :
    Calls Tryz.prog 187 #[.pointer (some ⟨b, 0, none⟩)] w fun e w' => e = .returned (.tuple #[]) ∧ w.setCell ⟨b, 0, none⟩ (.pointer (some ⟨b, 0, none⟩)) = w' := by
  obtain ⟨j, hj, hjs⟩ := Option.map_eq_some_iff.1 sizeB
  go_enter Tryz.func187, Tryz.ntmps187
  go_wp2
  rw [Lib.run_to_unsafe w ⟨b, 0, none⟩ Tryz.underlying186 Tryz.underlying225 hj (by rw [hjs]; decide) hsh (Nat.zero_lt_succ 1)]
  simp only [Result.andThen]
  rw [Oper.upon_value]
  go_wp2
  rw [run_callFunc_extern Tryz.func200 (by kernel_rfl) (by kernel_rfl) (by kernel_rfl) (e := Extern.AbiNoEscape.same) (by kernel_rfl)]
  rw [Lib.run_noEscape]
  simp only [Result.andThen]
  rw [Oper.upon_value]
  go_wp2
  rw [Lib.run_from_unsafe w ⟨b, 0, none⟩ Tryz.underlying225 Tryz.underlying186 hj hsh liesB]
  simp only [Result.andThen]
  rw [Oper.upon_value]
  go_wp2
  go_end0
  exact ⟨rfl, rfl⟩
theorem copyCheck_any (B b : Nat) (bs : List Value) (w : World) (h : Lib.IsBuilderF 188 5 B b bs w) :
    Calls Tryz.prog 187 #[.pointer (some ⟨b, 0, none⟩)] w fun e w' => e = .returned (.tuple #[]) ∧ Lib.BuilderAtF 188 5 B b (.pointer (some ⟨b, 0, none⟩)) bs w' ∧ Below B w w' ∧ Lib.OthersKept 5 (some b) w w' := by
  rcases h with h | h
  · refine (copyCheck_fresh b w h.cell0 h.shape h.frozen0).mono ?_
    rintro e w' ⟨rfl, rfl⟩
    exact ⟨rfl, h.used _, (Below.refl B w).setCell (p := ⟨b, 0, none⟩) h.1 _, (Lib.OthersKept.refl _ _ w).setCell ⟨b, 0, none⟩ rfl _⟩
  · refine (copyCheck_used b w h.cell0).mono ?_
    rintro e w' ⟨rfl, rfl⟩
    exact ⟨rfl, h, Below.refl B _, Lib.OthersKept.refl _ _ _⟩
theorem blk_lt {w : World} {b : Nat} {o : Obj} (h : w.heap[b]? = some o) : b < w.heap.size := (Array.getElem?_eq_some_iff.1 h).1
set_option maxHeartbeats 2000000 in
set_option maxRecDepth 100000 in
theorem writeString_any (B b : Nat) (bs : List Value) (s : ByteArray) (w : World) (h : Lib.IsBuilderF 188 5 B b bs w) (hlen : bs.length + s.size ≤ 140737488355328) (hBw : B ≤ w.heap.size) :
    Calls Tryz.prog 173 #[.pointer (some ⟨b, 0, none⟩), .string s] w fun e w' => e = .returned (.tuple #[.int .i64 s.size, .nilIface]) ∧ Lib.BuilderAtF 188 5 B b (.pointer (some ⟨b, 0, none⟩)) (bs ++ Lib.strCells s) w' ∧ Below B w w' ∧ Lib.OthersKept 5 (some b) w w' := by
  obtain ⟨i0, hi, hz0, hz1, hz2⟩ := info_parts infoByte
  go_enter Tryz.func173, Tryz.ntmps173
  go_wp2_with (go_at_call 187; refine (copyCheck_any B b bs _ h).mono ?_)
  rintro e w1 ⟨rfl, h1, hb1, hk1⟩
  obtain ⟨hB, v, hbk, hown, hne⟩ := h1
  have c0 : w1.cell? ⟨b, 0, none⟩ = some (.pointer (some ⟨b, 0, none⟩)) := by rw [Lib.cell_of_heap hbk]; rfl
  have c1 : w1.cell? ⟨b, 1, none⟩ = some v := by rw [Lib.cell_of_heap hbk]; rfl
  have hsz := hb1.size
  go_wp2_with (at_builtin; refine Lib.wpList_append_own_stringF _ rfl _ _ 101 9 rfl B 5 i0 Tryz.underlying101 Tryz.underlying9 hi hz0 hz1 hz2 _ _ _ rfl hown s rfl ?c3 ?c4 ?c5 ?_)
  case c3 => unfold maxLen; omega
  case c4 => omega
  case c5 => omega
  intro v' w2 hown' hgrow _
  have hb2 : w2.heap[b]? = some (.cells #[.pointer (some ⟨b, 0, none⟩), v] 188 (0, 0)) := by
    rw [hgrow.block b (blk_lt hbk) (fun e => hne e.symm)]
    exact hbk
  have d0 : w2.cell? ⟨b, 0, none⟩ = some (.pointer (some ⟨b, 0, none⟩)) := by rw [Lib.cell_of_heap hb2]; rfl
  have d1 : w2.cell? ⟨b, 1, none⟩ = some v := by rw [Lib.cell_of_heap hb2]; rfl
  have f1 : w2.frozen? ⟨b, 1, none⟩ = false := Lib.frozen_of_heap hb2 1
  obtain ⟨ao, n', cap, rfl⟩ : ∃ ao n' cap, v' = .slice ao n' cap := by
    rcases hown'.2 with ⟨hv, _⟩ | ⟨g, cap, cur, fz, hv, _⟩
    · exact ⟨_, _, _, hv⟩
    · exact ⟨_, _, _, hv⟩
  go_wp2
  go_ret2
  refine ⟨rfl, ?_, ?_, (hk1.grown hgrow (Lib.ownsRowF_kind hown)).setCell ⟨b, 1, none⟩ rfl _⟩
  · exact Lib.BuilderAtF.put hB hb2 (bs' := bs ++ Lib.strCells s) (by simpa [Lib.strCells_length] using hown') (by decide)
  · exact (hb1.grown hgrow (by omega) (fun k hk => (hown.lt k hk).1)).setCell (p := ⟨b, 1, none⟩) hB _
def Bd (B : Nat) (l : List UInt8) (w : World) : Prop := Lib.IsBuilderF 188 5 B B (Lib.byteCells l) w
theorem Bd.start (w : World) : Bd w.heap.size [] (w.alloc (.cells #[.pointer none, .slice none 0 0] 188)) := Lib.IsBuilderF.of (Lib.fresh_isBuilder 188 5 w)
theorem Bd.lt {B : Nat} {l : List UInt8} {w : World} (h : Bd B l w) : B < w.heap.size := by
  rcases h with h | h
  · exact h.lt
  · exact h.lt
theorem Bd.below {B : Nat} {l : List UInt8} {w w' : World} (h : Bd B l w) (hb : Below w.heap.size w w') : Bd B l w' := by
  have key : ∀ {p : Value}, Lib.BuilderAtF 188 5 B B p (Lib.byteCells l) w → Lib.BuilderAtF 188 5 B B p (Lib.byteCells l) w' := by
    intro p h
    obtain ⟨hB, v, hbk, hown, hne⟩ := h
    refine ⟨hB, v, (hb.block _ (blk_lt hbk)).trans hbk, ⟨hown.1, ?_⟩, hne⟩
    rcases hown.2 with hn | ⟨g, cap, cur, fz, hv, hg, hh, rest⟩
    · exact .inl hn
    · exact .inr ⟨g, cap, cur, fz, hv, hg, (hb.block _ (blk_lt hh)).trans hh, rest⟩
  exact h.elim (fun x => .inl (key x)) (fun x => .inr (key x))
theorem Bd.drew {B : Nat} {l : List UInt8} {w : World} (h : Bd B l w) : Bd B l w.drew := h
theorem write_s (B : Nat) (l : List UInt8) (s : ByteArray) (w : World) (h : Bd B l w) (hlen : l.length + s.size ≤ 140737488355328) :
    Calls Tryz.prog 173 #[.pointer (some ⟨B, 0, none⟩), .string s] w fun e w' => e = .returned (.tuple #[.int .i64 s.size, .nilIface]) ∧ Bd B (l ++ s.data.toList) w' ∧ Below B w w' ∧ Lib.OthersKept 5 (some B) w w' := by
  refine (writeString_any B B (Lib.byteCells l) s w h (by rw [Lib.byteCells_length]; exact hlen) (Nat.le_of_lt h.lt)).mono ?_
  rintro e w' ⟨rfl, h1, h2, h3⟩
  refine ⟨rfl, .inr ?_, h2, h3⟩
  rw [Lib.byteCells_append]
  exact h1
theorem string_b (B : Nat) (l : List UInt8) (w : World) (h : Bd B l w) :
    Calls Tryz.prog 165 #[.pointer (some ⟨B, 0, none⟩)] w fun e w' => e = .returned (.string ⟨l.toArray⟩) ∧ Below B w w' := by
  refine (Tryz.Builder_String_any_k B B l w h (Nat.le_of_lt h.lt)).mono ?_
  rintro e w' ⟨rfl, _, h2, _⟩
  exact ⟨rfl, h2⟩
theorem ret_int {k : IntKind} {a b : Int} (h : a = b) : Ending.returned (.int k a) = .returned (.int k b) := by rw [h]
theorem w_lt (x : UInt32) : x.toNat < 4294967296 := x.toNat_lt
theorem w_ofNat (n : Nat) (h : n < 4294967296) : (UInt32.ofNat n).toNat = n := by
  rw [UInt32.toNat_ofNat']; exact Nat.mod_eq_of_lt h
theorem or_lt {a b : Nat} (ha : a < 4294967296) (hb : b < 4294967296) : a ||| b < 4294967296 := Nat.or_lt_two_pow (n := 32) ha hb
theorem or_ror (x : UInt32) (n m d : Nat) (hm : m = 2 ^ (32 - n)) (hd : d = 2 ^ n) : bits .or .u32 ((x.toNat : Int) * m % 4294967296) ((x.toNat : Int) / d) = ((rorW x n).toNat : Int) := by
  have h1 : (x.toNat : Int) * m % 4294967296 = ((x.toNat * m % 4294967296 : Nat) : Int) := by simp
  have h2 : (x.toNat : Int) / d = ((x.toNat / d : Nat) : Int) := by simp
  have l1 : x.toNat * m % 4294967296 < 4294967296 := Nat.mod_lt _ (by decide)
  have l2 : x.toNat / d < 4294967296 := Nat.lt_of_le_of_lt (Nat.div_le_self _ _) (w_lt x)
  rw [h1, h2, u32_or_nat _ _ l1 l2, rorW, ← hm, ← hd, w_ofNat _ (or_lt l1 l2)]
theorem xorW (x y : UInt32) : bits .xor .u32 (x.toNat : Int) (y.toNat : Int) = ((x ^^^ y).toNat : Int) := by
  rw [u32_xor_nat _ _ (w_lt x) (w_lt y), UInt32.toNat_xor]
theorem andW (x y : UInt32) : bits .and .u32 (x.toNat : Int) (y.toNat : Int) = ((x &&& y).toNat : Int) := by
  rw [u32_and_nat _ _ (w_lt x) (w_lt y), UInt32.toNat_and]
theorem andNotW (x y : UInt32) : bits .andNot .u32 (x.toNat : Int) (y.toNat : Int) = ((x &&& ~~~ y).toNat : Int) := by
  rw [u32_andNot_nat _ _ (w_lt x) (w_lt y), UInt32.toNat_and, UInt32.toNat_not]
  rfl
theorem addW (x y : UInt32) : IntKind.u32.wrap ((x.toNat : Int) + (y.toNat : Int)) = ((x + y).toNat : Int) := by
  rw [IntKind.wrap_u32', UInt32.toNat_add]; omega
theorem shrW_div (x : UInt32) (n d : Nat) (hd : d = 2 ^ n) : (x.toNat : Int) / d = ((shrW x n).toNat : Int) := by
  have l2 : x.toNat / d < 4294967296 := Nat.lt_of_le_of_lt (Nat.div_le_self _ _) (w_lt x)
  rw [shrW, ← hd, w_ofNat _ l2]; simp
theorem xorB (x y : UInt8) : bits .xor .u8 (x.toNat : Int) (y.toNat : Int) = ((x ^^^ y).toNat : Int) := by
  rw [u8_xor_nat _ _ x.toNat_lt y.toNat_lt, UInt8.toNat_xor]
theorem sh8_or (x : UInt32) (c : UInt8) : bits .or .u32 ((x.toNat : Int) * 256 % 4294967296) (c.toNat : Int) = ((sh8 x c).toNat : Int) := by
  have hc := c.toNat_lt
  have h1 : (x.toNat : Int) * 256 % 4294967296 = ((x.toNat * 256 % 4294967296 : Nat) : Int) := by simp
  have l1 : x.toNat * 256 % 4294967296 < 4294967296 := Nat.mod_lt _ (by decide)
  rw [h1, u32_or_nat _ _ l1 (by omega), nat_join 8 _ _ (by omega) (by omega), sh8, UInt32.toNat_ofNat']
  omega
set_option maxHeartbeats 1000000 in
theorem rotl2 (x : UInt32) (w : World) :
    Calls Tryz.prog 216 #[.int .u32 (x.toNat : Int), .int .i64 (-2)] w fun e w' => e = .returned (.int .u32 ((rorW x 2).toNat : Int)) ∧ w = w' := by
  have hx := x.toNat_lt
  have hb : bits BinOp.and IntKind.u64 (IntKind.u64.wrap (-2)) 31 = 30 := by decide
  have ho : bits BinOp.or IntKind.u32 ((x.toNat : Int) * 1073741824 % 4294967296) ((x.toNat : Int) / 4) = ((rorW x 2).toNat : Int) := or_ror x 2 1073741824 4 (by decide) (by decide)
  go_enter Tryz.func216, Tryz.ntmps216
  go_wp2
  go_ret
  exact ⟨rfl, rfl⟩
set_option maxHeartbeats 1000000 in
theorem ror2 (x : UInt32) (w : World) :
    Calls Tryz.prog 205 #[.int .u32 (x.toNat : Int), .int .i64 2] w fun e w' => e = .returned (.int .u32 ((rorW x 2).toNat : Int)) ∧ w = w' := by
  have hx := x.toNat_lt
  go_enter Tryz.func205, Tryz.ntmps205
  go_wp2_with (go_at_call 216; refine (rotl2 x _).mono ?_; rintro e w' ⟨rfl, rfl⟩)
  go_ret
  exact ⟨rfl, rfl⟩
set_option maxHeartbeats 1000000 in
theorem rotl6 (x : UInt32) (w : World) :
    Calls Tryz.prog 216 #[.int .u32 (x.toNat : Int), .int .i64 (-6)] w fun e w' => e = .returned (.int .u32 ((rorW x 6).toNat : Int)) ∧ w = w' := by
  have hx := x.toNat_lt
  have hb : bits BinOp.and IntKind.u64 (IntKind.u64.wrap (-6)) 31 = 26 := by decide
  have ho : bits BinOp.or IntKind.u32 ((x.toNat : Int) * 67108864 % 4294967296) ((x.toNat : Int) / 64) = ((rorW x 6).toNat : Int) := or_ror x 6 67108864 64 (by decide) (by decide)
  go_enter Tryz.func216, Tryz.ntmps216
  go_wp2
  go_ret
  exact ⟨rfl, rfl⟩
set_option maxHeartbeats 1000000 in
theorem ror6 (x : UInt32) (w : World) :
    Calls Tryz.prog 205 #[.int .u32 (x.toNat : Int), .int .i64 6] w fun e w' => e = .returned (.int .u32 ((rorW x 6).toNat : Int)) ∧ w = w' := by
  have hx := x.toNat_lt
  go_enter Tryz.func205, Tryz.ntmps205
  go_wp2_with (go_at_call 216; refine (rotl6 x _).mono ?_; rintro e w' ⟨rfl, rfl⟩)
  go_ret
  exact ⟨rfl, rfl⟩
set_option maxHeartbeats 1000000 in
theorem rotl7 (x : UInt32) (w : World) :
    Calls Tryz.prog 216 #[.int .u32 (x.toNat : Int), .int .i64 (-7)] w fun e w' => e = .returned (.int .u32 ((rorW x 7).toNat : Int)) ∧ w = w' := by
  have hx := x.toNat_lt
  have hb : bits BinOp.and IntKind.u64 (IntKind.u64.wrap (-7)) 31 = 25 := by decide
  have ho : bits BinOp.or IntKind.u32 ((x.toNat : Int) * 33554432 % 4294967296) ((x.toNat : Int) / 128) = ((rorW x 7).toNat : Int) := or_ror x 7 33554432 128 (by decide) (by decide)
  go_enter Tryz.func216, Tryz.ntmps216
  go_wp2
  go_ret
  exact ⟨rfl, rfl⟩
set_option maxHeartbeats 1000000 in
theorem ror7 (x : UInt32) (w : World) :
    Calls Tryz.prog 205 #[.int .u32 (x.toNat : Int), .int .i64 7] w fun e w' => e = .returned (.int .u32 ((rorW x 7).toNat : Int)) ∧ w = w' := by
  have hx := x.toNat_lt
  go_enter Tryz.func205, Tryz.ntmps205
  go_wp2_with (go_at_call 216; refine (rotl7 x _).mono ?_; rintro e w' ⟨rfl, rfl⟩)
  go_ret
  exact ⟨rfl, rfl⟩
set_option maxHeartbeats 1000000 in
theorem rotl11 (x : UInt32) (w : World) :
    Calls Tryz.prog 216 #[.int .u32 (x.toNat : Int), .int .i64 (-11)] w fun e w' => e = .returned (.int .u32 ((rorW x 11).toNat : Int)) ∧ w = w' := by
  have hx := x.toNat_lt
  have hb : bits BinOp.and IntKind.u64 (IntKind.u64.wrap (-11)) 31 = 21 := by decide
  have ho : bits BinOp.or IntKind.u32 ((x.toNat : Int) * 2097152 % 4294967296) ((x.toNat : Int) / 2048) = ((rorW x 11).toNat : Int) := or_ror x 11 2097152 2048 (by decide) (by decide)
  go_enter Tryz.func216, Tryz.ntmps216
  go_wp2
  go_ret
  exact ⟨rfl, rfl⟩
set_option maxHeartbeats 1000000 in
theorem ror11 (x : UInt32) (w : World) :
    Calls Tryz.prog 205 #[.int .u32 (x.toNat : Int), .int .i64 11] w fun e w' => e = .returned (.int .u32 ((rorW x 11).toNat : Int)) ∧ w = w' := by
  have hx := x.toNat_lt
  go_enter Tryz.func205, Tryz.ntmps205
  go_wp2_with (go_at_call 216; refine (rotl11 x _).mono ?_; rintro e w' ⟨rfl, rfl⟩)
  go_ret
  exact ⟨rfl, rfl⟩
set_option maxHeartbeats 1000000 in
theorem rotl13 (x : UInt32) (w : World) :
    Calls Tryz.prog 216 #[.int .u32 (x.toNat : Int), .int .i64 (-13)] w fun e w' => e = .returned (.int .u32 ((rorW x 13).toNat : Int)) ∧ w = w' := by
  have hx := x.toNat_lt
  have hb : bits BinOp.and IntKind.u64 (IntKind.u64.wrap (-13)) 31 = 19 := by decide
  have ho : bits BinOp.or IntKind.u32 ((x.toNat : Int) * 524288 % 4294967296) ((x.toNat : Int) / 8192) = ((rorW x 13).toNat : Int) := or_ror x 13 524288 8192 (by decide) (by decide)
  go_enter Tryz.func216, Tryz.ntmps216
  go_wp2
  go_ret
  exact ⟨rfl, rfl⟩
set_option maxHeartbeats 1000000 in
theorem ror13 (x : UInt32) (w : World) :
    Calls Tryz.prog 205 #[.int .u32 (x.toNat : Int), .int .i64 13] w fun e w' => e = .returned (.int .u32 ((rorW x 13).toNat : Int)) ∧ w = w' := by
  have hx := x.toNat_lt
  go_enter Tryz.func205, Tryz.ntmps205
  go_wp2_with (go_at_call 216; refine (rotl13 x _).mono ?_; rintro e w' ⟨rfl, rfl⟩)
  go_ret
  exact ⟨rfl, rfl⟩
set_option maxHeartbeats 1000000 in
theorem rotl17 (x : UInt32) (w : World) :
    Calls Tryz.prog 216 #[.int .u32 (x.toNat : Int), .int .i64 (-17)] w fun e w' => e = .returned (.int .u32 ((rorW x 17).toNat : Int)) ∧ w = w' := by
  have hx := x.toNat_lt
  have hb : bits BinOp.and IntKind.u64 (IntKind.u64.wrap (-17)) 31 = 15 := by decide
  have ho : bits BinOp.or IntKind.u32 ((x.toNat : Int) * 32768 % 4294967296) ((x.toNat : Int) / 131072) = ((rorW x 17).toNat : Int) := or_ror x 17 32768 131072 (by decide) (by decide)
  go_enter Tryz.func216, Tryz.ntmps216
  go_wp2
  go_ret
  exact ⟨rfl, rfl⟩
set_option maxHeartbeats 1000000 in
theorem ror17 (x : UInt32) (w : World) :
    Calls Tryz.prog 205 #[.int .u32 (x.toNat : Int), .int .i64 17] w fun e w' => e = .returned (.int .u32 ((rorW x 17).toNat : Int)) ∧ w = w' := by
  have hx := x.toNat_lt
  go_enter Tryz.func205, Tryz.ntmps205
  go_wp2_with (go_at_call 216; refine (rotl17 x _).mono ?_; rintro e w' ⟨rfl, rfl⟩)
  go_ret
  exact ⟨rfl, rfl⟩
set_option maxHeartbeats 1000000 in
theorem rotl18 (x : UInt32) (w : World) :
    Calls Tryz.prog 216 #[.int .u32 (x.toNat : Int), .int .i64 (-18)] w fun e w' => e = .returned (.int .u32 ((rorW x 18).toNat : Int)) ∧ w = w' := by
  have hx := x.toNat_lt
  have hb : bits BinOp.and IntKind.u64 (IntKind.u64.wrap (-18)) 31 = 14 := by decide
  have ho : bits BinOp.or IntKind.u32 ((x.toNat : Int) * 16384 % 4294967296) ((x.toNat : Int) / 262144) = ((rorW x 18).toNat : Int) := or_ror x 18 16384 262144 (by decide) (by decide)
  go_enter Tryz.func216, Tryz.ntmps216
  go_wp2
  go_ret
  exact ⟨rfl, rfl⟩
set_option maxHeartbeats 1000000 in
theorem ror18 (x : UInt32) (w : World) :
    Calls Tryz.prog 205 #[.int .u32 (x.toNat : Int), .int .i64 18] w fun e w' => e = .returned (.int .u32 ((rorW x 18).toNat : Int)) ∧ w = w' := by
  have hx := x.toNat_lt
  go_enter Tryz.func205, Tryz.ntmps205
  go_wp2_with (go_at_call 216; refine (rotl18 x _).mono ?_; rintro e w' ⟨rfl, rfl⟩)
  go_ret
  exact ⟨rfl, rfl⟩
set_option maxHeartbeats 1000000 in
theorem rotl19 (x : UInt32) (w : World) :
    Calls Tryz.prog 216 #[.int .u32 (x.toNat : Int), .int .i64 (-19)] w fun e w' => e = .returned (.int .u32 ((rorW x 19).toNat : Int)) ∧ w = w' := by
  have hx := x.toNat_lt
  have hb : bits BinOp.and IntKind.u64 (IntKind.u64.wrap (-19)) 31 = 13 := by decide
  have ho : bits BinOp.or IntKind.u32 ((x.toNat : Int) * 8192 % 4294967296) ((x.toNat : Int) / 524288) = ((rorW x 19).toNat : Int) := or_ror x 19 8192 524288 (by decide) (by decide)
  go_enter Tryz.func216, Tryz.ntmps216
  go_wp2
  go_ret
  exact ⟨rfl, rfl⟩
set_option maxHeartbeats 1000000 in
theorem ror19 (x : UInt32) (w : World) :
    Calls Tryz.prog 205 #[.int .u32 (x.toNat : Int), .int .i64 19] w fun e w' => e = .returned (.int .u32 ((rorW x 19).toNat : Int)) ∧ w = w' := by
  have hx := x.toNat_lt
  go_enter Tryz.func205, Tryz.ntmps205
  go_wp2_with (go_at_call 216; refine (rotl19 x _).mono ?_; rintro e w' ⟨rfl, rfl⟩)
  go_ret
  exact ⟨rfl, rfl⟩
set_option maxHeartbeats 1000000 in
theorem rotl22 (x : UInt32) (w : World) :
    Calls Tryz.prog 216 #[.int .u32 (x.toNat : Int), .int .i64 (-22)] w fun e w' => e = .returned (.int .u32 ((rorW x 22).toNat : Int)) ∧ w = w' := by
  have hx := x.toNat_lt
  have hb : bits BinOp.and IntKind.u64 (IntKind.u64.wrap (-22)) 31 = 10 := by decide
  have ho : bits BinOp.or IntKind.u32 ((x.toNat : Int) * 1024 % 4294967296) ((x.toNat : Int) / 4194304) = ((rorW x 22).toNat : Int) := or_ror x 22 1024 4194304 (by decide) (by decide)
  go_enter Tryz.func216, Tryz.ntmps216
  go_wp2
  go_ret
  exact ⟨rfl, rfl⟩
set_option maxHeartbeats 1000000 in
theorem ror22 (x : UInt32) (w : World) :
    Calls Tryz.prog 205 #[.int .u32 (x.toNat : Int), .int .i64 22] w fun e w' => e = .returned (.int .u32 ((rorW x 22).toNat : Int)) ∧ w = w' := by
  have hx := x.toNat_lt
  go_enter Tryz.func205, Tryz.ntmps205
  go_wp2_with (go_at_call 216; refine (rotl22 x _).mono ?_; rintro e w' ⟨rfl, rfl⟩)
  go_ret
  exact ⟨rfl, rfl⟩
set_option maxHeartbeats 1000000 in
theorem rotl25 (x : UInt32) (w : World) :
    Calls Tryz.prog 216 #[.int .u32 (x.toNat : Int), .int .i64 (-25)] w fun e w' => e = .returned (.int .u32 ((rorW x 25).toNat : Int)) ∧ w = w' := by
  have hx := x.toNat_lt
  have hb : bits BinOp.and IntKind.u64 (IntKind.u64.wrap (-25)) 31 = 7 := by decide
  have ho : bits BinOp.or IntKind.u32 ((x.toNat : Int) * 128 % 4294967296) ((x.toNat : Int) / 33554432) = ((rorW x 25).toNat : Int) := or_ror x 25 128 33554432 (by decide) (by decide)
  go_enter Tryz.func216, Tryz.ntmps216
  go_wp2
  go_ret
  exact ⟨rfl, rfl⟩
set_option maxHeartbeats 1000000 in
theorem ror25 (x : UInt32) (w : World) :
    Calls Tryz.prog 205 #[.int .u32 (x.toNat : Int), .int .i64 25] w fun e w' => e = .returned (.int .u32 ((rorW x 25).toNat : Int)) ∧ w = w' := by
  have hx := x.toNat_lt
  go_enter Tryz.func205, Tryz.ntmps205
  go_wp2_with (go_at_call 216; refine (rotl25 x _).mono ?_; rintro e w' ⟨rfl, rfl⟩)
  go_ret
  exact ⟨rfl, rfl⟩
theorem fourL_get (x : UInt32) : (fourL x).map (fun c => Value.int .u8 (c.toNat : Int)) = [.int .u8 ((x.toNat : Int) / 16777216), .int .u8 ((x.toNat : Int) / 65536 % 256), .int .u8 ((x.toNat : Int) / 256 % 256), .int .u8 ((x.toNat : Int) % 256)] := by
  have hx := w_lt x
  simp only [fourL, List.map_cons, List.map_nil, UInt8.toNat_ofNat']
  have e1 : ((x.toNat / 16777216 % 2 ^ 8 : Nat) : Int) = (x.toNat : Int) / 16777216 := by omega
  have e2 : ((x.toNat / 65536 % 2 ^ 8 : Nat) : Int) = (x.toNat : Int) / 65536 % 256 := by omega
  have e3 : ((x.toNat / 256 % 2 ^ 8 : Nat) : Int) = (x.toNat : Int) / 256 % 256 := by omega
  have e4 : ((x.toNat % 2 ^ 8 : Nat) : Int) = (x.toNat : Int) % 256 := by omega
  rw [e1, e2, e3, e4]
theorem conv_row {w : World} {b : Nat} {l : List UInt8} {c : Nat} {T : TypeId} {z : Nat × Nat} (h : w.heap[b]? = some (.cells (l.map (fun c => Value.int .u8 (c.toNat : Int))).toArray T z)) :
    (convert 101 9 (.slice (some ⟨b, 0, none⟩) l.length c)).run Tryz.prog w = .ok (.string ⟨l.toArray⟩) w :=
  run_convert_bytes_back w 101 9 5 _ c l Tryz.underlying101 Tryz.underlying5 Tryz.underlying9 (fun j hj => by
    rw [show (⟨b, 0, none⟩ : Addr).add j = ⟨b, j, none⟩ from by unfold Addr.add; split <;> simp_all, Lib.cell_of_heap h]
    simp [hj])
set_option maxHeartbeats 1000000 in
theorem four_any (x : UInt32) (w : World) :
    Calls Tryz.prog 172 #[.int .u32 (x.toNat : Int)] w fun e w' => e = .returned (.string ⟨(fourL x).toArray⟩) ∧ Below w.heap.size w w' := by
  have hx := x.toNat_lt
  have hc : (convert 101 9 (.slice (some ⟨w.heap.size, 0, none⟩) 4 4)).run Tryz.prog (w.alloc (Obj.cells #[.int .u8 ((x.toNat : Int) / 16777216), .int .u8 ((x.toNat : Int) / 65536 % 256), .int .u8 ((x.toNat : Int) / 256 % 256), .int .u8 ((x.toNat : Int) % 256)] 5)) = .ok (.string ⟨(fourL x).toArray⟩) _ :=
    conv_row (l := fourL x) (c := 4) (b := w.heap.size) (by rw [fourL_get]; exact Go.heap_alloc_new w _)
  go_enter Tryz.func172, Tryz.ntmps172
  go_wp2
  go_ret
  exact ⟨rfl, (Below.refl _ _).alloc (Nat.le_refl _) _⟩
theorem app_ba (a b : List UInt8) : (⟨a.toArray⟩ : ByteArray) ++ ⟨b.toArray⟩ = ⟨(a ++ b).toArray⟩ := by
  apply ByteArray.ext; simp
theorem size_ba (s : List UInt8) : (⟨s.toArray⟩ : ByteArray).size = s.length := by simp [ByteArray.size]
theorem repeat_one (c : UInt8) (n : Nat) : Lib.repeatL [c] n = List.replicate n c := by
  induction n with
  | zero => rfl
  | succ n ih => simp_all [Lib.repeatL, List.replicate_succ]
theorem fourL_length (x : UInt32) : (fourL x).length = 4 := rfl
set_option maxHeartbeats 2000000 in
theorem behind_any (n : Nat) (hn : n ≤ 281474976710656) (w : World) :
    Calls Tryz.prog 148 #[.int .i64 n] w fun e w' => e = .returned (.string ⟨(behindL n).toArray⟩) ∧ Below w.heap.size w w' := by
  have hn1 : (n : Int) ≤ 281474976710656 := by omega
  have hn0 : (0 : Int) ≤ n := by omega
  obtain ⟨z, hz⟩ : ∃ z : Nat, z = (119 - n % 64) % 64 := ⟨_, rfl⟩
  have hz1 : z ≤ 63 := by omega
  have ez : (119 - (n : Int) % 64) % 64 = (z : Int) := by omega
  have eh : ((n : Int) * 8 / 4294967296) = ((UInt32.ofNat (n * 8 / 4294967296)).toNat : Int) := by
    rw [w_ofNat _ (by omega)]; omega
  have el : IntKind.u32.wrap ((n : Int) * 8) = ((UInt32.ofNat (n * 8)).toNat : Int) := by
    rw [IntKind.wrap_u32', UInt32.toNat_ofNat']; omega
  have HE : Hid (behindL n = 128 :: List.replicate z 0 ++ fourL (UInt32.ofNat (n * 8 / 4294967296)) ++ fourL (UInt32.ofNat (n * 8))) := Lib.hid (by unfold behindL; rw [hz])
  have HZ := Lib.hid hz
  clear hz
  have H1 := Lib.hid (four_any (UInt32.ofNat (n * 8 / 4294967296)))
  have H2 := Lib.hid (four_any (UInt32.ofNat (n * 8)))
  have L1 := fourL_length (UInt32.ofNat (n * 8 / 4294967296))
  have L2 := fourL_length (UInt32.ofNat (n * 8))
  generalize fourL (UInt32.ofNat (n * 8 / 4294967296)) = X1 at H1 HE L1
  generalize fourL (UInt32.ofNat (n * 8)) = X2 at H2 HE L2
  have S1 := size_ba X1
  have S2 := size_ba X2
  have l1 : X1.length ≤ 4 := by omega
  have l2 : X2.length ≤ 4 := by omega
  clear L1 L2
  generalize hy1 : UInt32.ofNat (n * 8 / 4294967296) = y1 at eh H1
  generalize hy2 : UInt32.ofNat (n * 8) = y2 at el H2
  clear hy1 hy2
  have HR := Lib.hid (Tryz.strings_Repeat ⟨#[0]⟩ z)
  have er : Lib.repeatL (⟨#[0]⟩ : ByteArray).data.toList z = List.replicate z 0 := repeat_one 0 z
  rw [er] at HR
  have lR : (List.replicate z (0 : UInt8)).length ≤ 63 := by rw [List.length_replicate]; exact hz1
  have a1 : (⟨#[128]⟩ : ByteArray) ++ ⟨(List.replicate z (0 : UInt8)).toArray⟩ = ⟨(128 :: List.replicate z 0).toArray⟩ := app_ba [128] _
  have a2 := app_ba (128 :: List.replicate z 0) X1
  have a3 := app_ba (128 :: List.replicate z 0 ++ X1) X2
  clear er
  generalize List.replicate z (0 : UInt8) = R at HR a1 a2 a3 lR HE
  rw [HE.out]
  clear HE HZ
  go_enter Tryz.func148, Tryz.ntmps148
  go_wp2_with fail
  refine (HR.out _ (by omega) (by show 1 * z ≤ _; omega)).mono ?_
  rintro e w1 ⟨rfl, b1⟩
  go_wp2_with fail
  refine (H1.out _).mono ?_
  rintro e w2 ⟨rfl, b2⟩
  go_wp2_with fail
  refine (H2.out _).mono ?_
  rintro e w3 ⟨rfl, b3⟩
  go_wp2_with fail
  go_ret
  exact ⟨rfl, (b1.trans (b2.mono b1.size)).trans (b3.mono (by have := b1.size; have := b2.size; omega))⟩
set_option maxHeartbeats 1000000 in
theorem byteAt_any (s : List UInt8) (i : Nat) (hi : i ≤ 140737488355328) (w : World) :
    Calls Tryz.prog 137 #[.string ⟨s.toArray⟩, .int .i64 i] w fun e w' => e = .returned (.int .u8 ((s.getD i 0).toNat : Int)) ∧ w = w' := by
  have hsz : (⟨s.toArray⟩ : ByteArray).size = s.length := by simp [ByteArray.size]
  by_cases h : i < s.length
  · have hg : s.getD i 0 = s[i] := by simp [List.getD, h]
    rw [hg]
    clear hg
    go_enter Tryz.func137, Tryz.ntmps137
    go_wp2_with fail
    go_ret
    exact ⟨rfl, rfl⟩
  · have hg : s.getD i 0 = 0 := by simp [List.getD, h]
    rw [hg]
    clear hg
    go_enter Tryz.func137, Tryz.ntmps137
    go_wp2_with fail
    go_ret
    exact ⟨rfl, rfl⟩
def ws (l : List UInt32) : Array Value := (l.map fun x => Value.int .u32 (x.toNat : Int)).toArray
def bs (l : List UInt8) : Array Value := (l.map fun x => Value.int .u8 (x.toNat : Int)).toArray
theorem ws_size (l : List UInt32) : (ws l).size = l.length := by simp [ws]
theorem bs_size (l : List UInt8) : (bs l).size = l.length := by simp [bs]
theorem ws_get (l : List UInt32) (i : Nat) (h : i < l.length) : (ws l)[i]? = some (.int .u32 (l[i].toNat : Int)) := by simp [ws, h]
theorem bs_get (l : List UInt8) (i : Nat) (h : i < l.length) : (bs l)[i]? = some (.int .u8 (l[i].toNat : Int)) := by simp [bs, h]
theorem blk_cell {w : World} {b : Nat} {cs : Array Value} {T : TypeId} {z : Nat × Nat} (h : w.heap[b]? = some (.cells cs T z)) (o : Nat) : w.cell? ⟨b, o, none⟩ = cs[o]? := by
  rw [Lib.cell_of_heap h]
theorem i37 (l : List UInt32) (h : l.length = 8) : (Tryz.prog.info? 169).map (·.size) = some (ws l).size := by
  rw [ws_size, h]; kernel_rfl
theorem u37 : Tryz.prog.underlying 169 = some (.array 8 111) := by kernel_rfl
theorem run_index37 (cs : Array Value) (k : Nat) (hk : k < 8) (v : Value) (hv : cs[k]? = some v) (h1 : v.oneCell' = true) (w : World) : (Instr.index 169 (.agg cs) (.int .i64 (k : Int))).run Tryz.prog w = .ok v w := by
  have hz : (sizeOf 111).run Tryz.prog w = .ok 1 w := Tryz.sizeOf111 w
  unfold Instr.index
  simp [asIntOf, run_underlying u37 w, hk, hz, hv, part]
theorem textL_length (l : List UInt32) : (textL l).length = 4 * l.length := by
  induction l with
  | nil => rfl
  | cons x l ih => simp only [textL, List.flatMap_cons, List.length_append, List.length_cons] at ih ⊢; rw [ih, fourL_length]; omega
theorem textL_snoc (h : List UInt32) (k : Nat) (hk : k < h.length) : textL (h.take (k + 1)) = textL (h.take k) ++ fourL h[k] := by
  unfold textL
  rw [List.take_succ_eq_append_getElem hk, List.flatMap_append]
  simp
set_option maxHeartbeats 2000000 in
theorem text_any (h : List UInt32) (hl : h.length = 8) (w : World) :
    Calls Tryz.prog 149 #[.agg (ws h)] w fun e w' => e = .returned (.string ⟨(textL h).toArray⟩) ∧ Below w.heap.size w w' := by
  have HL := Lib.hid hl
  have HK := Lib.hid (show ((w.alloc (.cells (ws h) 169)).alloc (.cells #[Value.pointer none, Value.slice none 0 0] 188)).heap[w.heap.size]? = some (.cells (ws h) 169 (0, 0)) from by
    rw [Lib.alloc_old _ _ _ (by simp)]; exact Go.heap_alloc_new w (.cells (ws h) 169))
  clear hl
  go_enter Tryz.func149, Tryz.ntmps149
  go_wp2_with (with_reducible refine wpList_load_row rfl 169 (.tmp 1) rfl w.heap.size rfl 169 (ws h) (0, 0) (.array 8 111) HK.out u37 rfl (i37 h HL.out) ?_)
  go_loopw [7] (fun i wr => ∃ k : Nat, k ≤ 8 ∧ i = .int .i64 k ∧ Bd (w.heap.size + 1) (textL (h.take k)) wr ∧ Below w.heap.size w wr) (fun i _ => 8 - (intOf i).toNat)
  case atStart =>
    refine ⟨0, by omega, rfl, ?_, ((Below.refl _ _).alloc (Nat.le_refl _) _).alloc (by simp) _⟩
    have := Bd.start (w.alloc (.cells (ws h) 169))
    simpa [textL] using this
  case round =>
    obtain ⟨k, hk, rfl, hbd, hb⟩ := hrel
    have HB := Lib.hid hbd
    have HW := Lib.hid hb
    clear hbd hb HK
    by_cases hlt : k < 8
    · have hg := ws_get h k (by rw [HL.out]; exact hlt)
      have hix := run_index37 (ws h) k hlt _ hg rfl
      generalize hx : h[k]'(by rw [HL.out]; exact hlt) = x at hg hix
      have HX := Lib.hid hx
      clear hx hg
      have HF := Lib.hid (four_any x wr)
      have HS : Hid (textL (h.take (k + 1)) = textL (h.take k) ++ fourL x) := Lib.hid (by rw [textL_snoc h k (by rw [HL.out]; exact hlt), HX.out])
      have HN : Hid ((textL (h.take k)).length ≤ 32) := Lib.hid (by rw [textL_length, List.length_take]; omega)
      clear HX
      go_wp2_with fail
      refine HF.out.mono ?_
      rintro e w1 ⟨rfl, b1⟩
      have HW1 := Lib.hid (write_s (w.heap.size + 1) (textL (h.take k)) ⟨(fourL x).toArray⟩ w1 (HB.out.below b1) (by have := HN.out; rw [size_ba, fourL_length]; omega))
      have HB1 := Lib.hid (HW.out.trans (b1.mono HW.out.size))
      clear HF HB HW b1
      go_wp2_with fail
      refine HW1.out.mono ?_
      rintro e w2 ⟨rfl, hbd, hb2, _⟩
      have hB2 : Bd (w.heap.size + 1) (textL (h.take (k + 1))) w2 := by rw [HS.out]; exact hbd
      have hb2 := HB1.out.trans (hb2.mono (by omega))
      have HB2 := Lib.hid hB2
      have HW2 := Lib.hid hb2
      clear hbd hb2 HW1 HB1 HS hB2
      go_wp2_with fail
      go_roundw
      case rel => exact ⟨k + 1, by omega, by go_num, HB2.out, HW2.out⟩
      case measure => simp [intOf]; omega
    · have HS := Lib.hid (string_b (w.heap.size + 1) (textL (h.take k)) wr HB.out)
      have HE : Hid (textL (h.take k) = textL h) := Lib.hid (by rw [List.take_of_length_le (by rw [HL.out]; omega)])
      rw [HE.out] at HS
      go_wp2_with fail
      refine HS.out.mono ?_
      rintro e w1 ⟨rfl, b1⟩
      have HB1 := Lib.hid (HW.out.trans (b1.mono (by omega)))
      clear HS HB HW b1
      go_wp2_with fail
      go_ret
      exact ⟨rfl, HB1.out⟩
theorem blk_put {w : World} {b : Nat} {cs : Array Value} {T : TypeId} {z : Nat × Nat} (h : w.heap[b]? = some (.cells cs T z)) (o : Nat) (v : Value) : (w.setCell ⟨b, o, none⟩ v).heap[b]? = some (.cells (cs.setIfInBounds o v) T z) := by
  simp [World.setCell, Array.getElem?_modify, h]
theorem bs_set (l : List UInt8) (o : Nat) (x : UInt8) : (bs l).setIfInBounds o (.int .u8 (x.toNat : Int)) = bs (l.set o x) := by
  simp [bs, List.map_set]
theorem ws_set (l : List UInt32) (o : Nat) (x : UInt32) : (ws l).setIfInBounds o (.int .u32 (x.toNat : Int)) = ws (l.set o x) := by
  simp [ws, List.map_set]
def pref {α : Type} (f : α → α) (k : List α) (j : Nat) : List α := (k.take j).map f ++ k.drop j
theorem pref_length {α : Type} (f : α → α) (k : List α) (j : Nat) : (pref f k j).length = k.length := by
  simp [pref]; omega
theorem pref_get {α : Type} (f : α → α) (k : List α) (j : Nat) (h : j < k.length) : (pref f k j)[j]'(by rw [pref_length]; exact h) = k[j] := by
  simp only [pref]
  rw [List.getElem_append_right (by simp; omega)]
  simp [Nat.min_eq_left (Nat.le_of_lt h)]
theorem pref_set {α : Type} (f : α → α) (k : List α) (j : Nat) (h : j < k.length) : (pref f k j).set j (f k[j]) = pref f k (j + 1) := by
  simp only [pref]
  have e : j - ((k.take j).map f).length = 0 := by simp; omega
  rw [List.set_append_right _ _ (by simp; omega), e, List.drop_eq_getElem_cons h, List.set_cons_zero, List.take_succ_eq_append_getElem h, List.map_append, List.append_assoc]
  rfl
theorem pref_all {α : Type} (f : α → α) (k : List α) (j : Nat) (h : k.length ≤ j) : pref f k j = k.map f := by
  simp [pref, List.take_of_length_le h, List.drop_of_length_le h]
set_option maxHeartbeats 2000000 in
theorem turned_any (k : List UInt8) (hk : k.length = 64) (c : UInt8) (w : World) :
    Calls Tryz.prog 140 #[.agg (bs k), .int .u8 (c.toNat : Int)] w fun e w' => e = .returned (.string ⟨(turnedL k c).toArray⟩) ∧ Below w.heap.size w w' := by
  have HL := Lib.hid hk
  have HK := Lib.hid (Go.heap_alloc_new w (.cells (bs k) 129))
  clear hk
  go_enter Tryz.func140, Tryz.ntmps140
  go_wp2_with fail
  go_loopw [6] (fun i wr => ∃ j : Nat, j ≤ 64 ∧ i = .int .i64 j ∧ wr.heap[w.heap.size]? = some (.cells (bs (pref (· ^^^ c) k j)) 129 (0, 0)) ∧ Below w.heap.size w wr) (fun i _ => 64 - (intOf i).toNat)
  case atStart =>
    exact ⟨0, by omega, rfl, HK.out, (Below.refl _ _).alloc (Nat.le_refl _) _⟩
  case round =>
    obtain ⟨j, hj, rfl, hb, hw⟩ := hrel
    have HB := Lib.hid hb
    have HW := Lib.hid hw
    clear hb hw HK
    by_cases hlt : j < 64
    · have hjl : j < k.length := by rw [HL.out]; exact hlt
      have x0 := (blk_cell HB.out j).trans (bs_get _ j (by rw [pref_length]; exact hjl))
      have f0 := Lib.frozen_of_heap HB.out j
      rw [pref_get _ _ _ hjl] at x0
      have hx := xorB k[j] c
      have HP := Lib.hid (pref_set (· ^^^ c) k j hjl)
      generalize k[j] = x at x0 hx HP
      generalize hy : x ^^^ c = y at hx HP
      have HP2 : Hid ((pref (· ^^^ c) k j).set j y = pref (· ^^^ c) k (j + 1)) := Lib.hid (by rw [← HP.out, ← hy])
      clear HP hy hjl
      go_wp2_with fail
      have HB2 := Lib.hid (blk_put HB.out j (.int .u8 (y.toNat : Int)))
      rw [bs_set, HP2.out] at HB2
      have HW2 := Lib.hid (HW.out.setCell (p := ⟨w.heap.size, j, none⟩) (Nat.le_refl _) (.int .u8 (y.toNat : Int)))
      go_roundw
      case rel => exact ⟨j + 1, by omega, by go_num, HB2.out, HW2.out⟩
      case measure => simp [intOf]; omega
    · have HE : Hid (pref (· ^^^ c) k j = turnedL k c) := Lib.hid (pref_all _ _ _ (by rw [HL.out]; omega))
      rw [HE.out] at HB
      have hc : (convert 101 9 (.slice (some ⟨w.heap.size, 0, none⟩) 64 64)).run Tryz.prog wr = .ok (.string ⟨(turnedL k c).toArray⟩) wr := by
        have := conv_row (c := 64) HB.out
        rwa [show (turnedL k c).length = 64 from by unfold turnedL; rw [List.length_map]; exact HL.out] at this
      go_wp2_with fail
      go_ret
      exact ⟨rfl, HW.out⟩
def unl (a b : List UInt8) (k : Nat) : Bool := decide (a.length = b.length ∧ ∀ i, i < k → a.getD i 0 = b.getD i 0)
theorem same_iff (a b : List UInt8) : unl a b (max a.length b.length) = decide (a = b) := by
  unfold unl
  rw [decide_eq_decide]
  constructor
  · rintro ⟨h1, h2⟩
    apply List.ext_getElem h1
    intro i hi hi'
    have := h2 i (by omega)
    simpa [List.getD, hi, hi'] using this
  · rintro rfl; exact ⟨rfl, fun _ _ => rfl⟩
theorem xor_lt48 {a b : Nat} (ha : a < 281474976710656) (hb : b < 281474976710656) : a ^^^ b < 281474976710656 := Nat.xor_lt_two_pow (n := 48) ha hb
theorem or_lt48 {a b : Nat} (ha : a < 281474976710656) (hb : b < 281474976710656) : a ||| b < 281474976710656 := Nat.or_lt_two_pow (n := 48) ha hb
theorem i64_xor (a b : Nat) (ha : a < 281474976710656) (hb : b < 281474976710656) : bits .xor .i64 (a : Int) (b : Int) = ((a ^^^ b : Nat) : Int) := by
  have := xor_lt48 ha hb
  show IntKind.i64.wrap ((BitVec.ofInt 64 (a : Int) ^^^ BitVec.ofInt 64 (b : Int)).toNat : Int) = _
  rw [BitVec.toNat_xor, ofInt_u64 a (by omega), ofInt_u64 b (by omega)]
  exact IntWalk.i64_in _ (by omega)
theorem i64_or (a b : Nat) (ha : a < 281474976710656) (hb : b < 281474976710656) : bits .or .i64 (a : Int) (b : Int) = ((a ||| b : Nat) : Int) := by
  have := or_lt48 ha hb
  show IntKind.i64.wrap ((BitVec.ofInt 64 (a : Int) ||| BitVec.ofInt 64 (b : Int)).toNat : Int) = _
  rw [BitVec.toNat_or, ofInt_u64 a (by omega), ofInt_u64 b (by omega)]
  exact IntWalk.i64_in _ (by omega)
theorem or_zero (a b : Nat) : a ||| b = 0 ↔ a = 0 ∧ b = 0 := Nat.or_eq_zero_iff
theorem xor_zero (a b : Nat) : a ^^^ b = 0 ↔ a = b :=
  ⟨fun h => by have := congrArg (· ^^^ b) h; simpa [Nat.xor_assoc, Nat.xor_self] using this, fun h => by rw [h, Nat.xor_self]⟩
theorem xor_zero8 (x y : UInt8) : (x ^^^ y).toNat = 0 ↔ x = y := by
  rw [UInt8.toNat_xor, xor_zero, UInt8.toNat_inj]
theorem unl_next (a b : List UInt8) (k n : Nat) (h : n = 0 ↔ unl a b k = true) : (n ||| (a.getD k 0 ^^^ b.getD k 0).toNat) = 0 ↔ unl a b (k + 1) = true := by
  rw [or_zero, h, xor_zero8]
  unfold unl
  rw [decide_eq_true_iff, decide_eq_true_iff]
  constructor
  · rintro ⟨⟨h1, h2⟩, h3⟩
    refine ⟨h1, fun i hi => ?_⟩
    by_cases e : i = k
    · subst e; exact h3
    · exact h2 i (by omega)
  · rintro ⟨h1, h2⟩
    exact ⟨⟨h1, fun i hi => h2 i (by omega)⟩, h2 k (by omega)⟩
def UnlI (a b : List UInt8) (M : Nat) (u i : Value) : Prop := ∃ k n : Nat, k ≤ M ∧ n < 281474976710656 ∧ u = .int .i64 n ∧ i = .int .i64 k ∧ (n = 0 ↔ unl a b k = true)
set_option maxHeartbeats 2000000 in
theorem same_any (a b : List UInt8) (ha : a.length ≤ 140737488355328) (hb : b.length ≤ 140737488355328) (w : World) :
    Calls Tryz.prog 82 #[.string ⟨a.toArray⟩, .string ⟨b.toArray⟩] w fun e w' => e = .returned (.bool (decide (a = b))) ∧ w = w' := by
  have HE := Lib.hid (same_iff a b)
  obtain ⟨M, hM⟩ : ∃ M : Nat, M = max a.length b.length := ⟨_, rfl⟩
  have em : max (a.length : Int) (b.length : Int) = (M : Int) := by omega
  have hM1 : (M : Int) ≤ 140737488355328 := by omega
  have ex := i64_xor a.length b.length (by omega) (by omega)
  obtain ⟨X, hX⟩ : ∃ X : Nat, X = a.length ^^^ b.length := ⟨_, rfl⟩
  have HX0 : Hid (X < 281474976710656 ∧ (X = 0 ↔ unl a b 0 = true)) := Lib.hid ⟨by rw [hX]; exact xor_lt48 (by omega) (by omega), by rw [hX, xor_zero]; simp [unl]⟩
  rw [← hX] at ex
  rw [← hM] at HE
  clear hM hX ha hb
  go_enter Tryz.func82, Tryz.ntmps82
  go_wp2_with fail
  go_loop [5, 17] (UnlI a b M) (fun _ i => M - (intOf i).toNat)
  case atStart => exact ⟨0, X, by omega, HX0.out.1, rfl, rfl, HX0.out.2⟩
  case round =>
    obtain ⟨k, n, hk, hn, rfl, rfl, hi⟩ := hrel
    have HI := Lib.hid hi
    clear hi ex em HX0
    by_cases hlt : k < M
    · have HC1 := Lib.hid (byteAt_any a k (by omega) w)
      have HC2 := Lib.hid (byteAt_any b k (by omega) w)
      have HN := Lib.hid (unl_next a b k n HI.out)
      generalize a.getD k 0 = x at HC1 HN
      generalize b.getD k 0 = y at HC2 HN
      have hx := xorB x y
      generalize x ^^^ y = z at hx HN
      have hz := z.toNat_lt
      have ho := i64_or n z.toNat hn (by omega)
      have HO := Lib.hid (or_lt48 hn (show z.toNat < 281474976710656 by omega))
      generalize n ||| z.toNat = m at ho HN HO
      go_wp2_with fail
      refine HC1.out.mono ?_
      rintro e w1 ⟨rfl, rfl⟩
      go_wp2_with fail
      refine HC2.out.mono ?_
      rintro e w1 ⟨rfl, rfl⟩
      go_wp2_with fail
      go_round
      case rel => exact ⟨k + 1, m, by omega, HO.out, rfl, by go_num, HN.out⟩
      case measure => simp [intOf]; omega
    · have HK : Hid (((n : Int) == 0) = decide (a = b)) := Lib.hid (by
        rw [← HE.out, show M = k from by omega]
        have := HI.out
        rw [Bool.eq_iff_iff, ← this]
        simp)
      by_cases h0 : n = 0
      · subst h0
        have hd : decide (a = b) = true := by rw [← HK.out]; rfl
        have HD := Lib.hid hd
        clear hd
        go_wp2_with fail
        go_ret
        exact ⟨by rw [HD.out]; rfl, rfl⟩
      · have hd : decide (a = b) = false := by rw [← HK.out]; simp; omega
        have HD := Lib.hid hd
        have hne : ((n : Int) == 0) = false := by simp; omega
        clear hd
        go_wp2_with fail
        go_ret
        exact ⟨by rw [HD.out]; rfl, rfl⟩
theorem u75 : Tryz.prog.underlying 219 = some (.array 16 111) := by kernel_rfl
theorem u72 : Tryz.prog.underlying 216 = some (.array 64 111) := by kernel_rfl
theorem u46 : Tryz.prog.underlying 129 = some (.array 64 5) := by kernel_rfl
theorem i75 (l : List UInt32) (h : l.length = 16) : (Tryz.prog.info? 219).map (·.size) = some (ws l).size := by
  rw [ws_size, h]; kernel_rfl
theorem i72 (l : List UInt32) (h : l.length = 64) : (Tryz.prog.info? 216).map (·.size) = some (ws l).size := by
  rw [ws_size, h]; kernel_rfl
theorem i46 (l : List UInt8) (h : l.length = 64) : (Tryz.prog.info? 129).map (·.size) = some (bs l).size := by
  rw [bs_size, h]; kernel_rfl
theorem ws_one (l : List UInt32) : (ws l).all (·.oneCell') = true := by
  unfold ws
  rw [Array.all_eq_true_iff_forall_mem]
  intro x hx
  simp at hx
  obtain ⟨a, _, rfl⟩ := hx
  rfl
theorem bs_one (l : List UInt8) : (bs l).all (·.oneCell') = true := by
  unfold bs
  rw [Array.all_eq_true_iff_forall_mem]
  intro x hx
  simp at hx
  obtain ⟨a, _, rfl⟩ := hx
  rfl
theorem first_ws : ws firstL = #[.int .u32 1779033703, .int .u32 3144134277, .int .u32 1013904242, .int .u32 2773480762, .int .u32 1359893119, .int .u32 2600822924, .int .u32 528734635, .int .u32 1541459225] := by kernel_rfl
set_option maxHeartbeats 2000000 in
theorem first_any (w : World) :
    Calls Tryz.prog 146 #[] w fun e w' => e = .returned (.agg (ws firstL)) ∧ Below w.heap.size w w' := by
  rw [first_ws]
  go_enter Tryz.func146, Tryz.ntmps146
  go_wp2_with fail
  exact bodyPost_ret (v := .agg #[.int .u32 1779033703, .int .u32 3144134277, .int .u32 1013904242, .int .u32 2773480762, .int .u32 1359893119, .int .u32 2600822924, .int .u32 528734635, .int .u32 1541459225]) (by simp [results, Tryz.results146, go_sem]) rfl ⟨rfl, (Below.refl _ _).alloc (Nat.le_refl _) _⟩
theorem setRow_put {w : World} {b : Nat} {old cs : Array Value} {T : TypeId} {z : Nat × Nat} (h : w.heap[b]? = some (.cells old T z)) : (w.setRow b cs).heap[b]? = some (.cells cs T z) := by
  simp [World.setRow, Array.getElem?_modify, h]
theorem setRow_below {B b : Nat} {a w : World} {cs : Array Value} (h : Below B a w) (hB : B ≤ b) : Below B a (w.setRow b cs) := by
  refine h.trans ⟨rfl, rfl, rfl, by simp [World.setRow], fun k hk => ?_⟩
  simp only [World.setRow, Array.getElem?_modify]
  rw [if_neg (by omega)]
theorem kL_length : kL.length = 64 := by decide +kernel
set_option maxHeartbeats 2000000 in
set_option maxRecDepth 100000 in
theorem consts_any (w : World) :
    Calls Tryz.prog 192 #[] w fun e w' => e = .returned (.agg (ws kL)) ∧ Below w.heap.size w w' := by
  have HI := Lib.hid (i72 kL kL_length)
  go_enter Tryz.func192, Tryz.ntmps192
  go_wp2_with (first
    | (refine wpList_build rfl 216 _ rfl (by kernel_rfl) ?_; generalize hB : (Tryz.prog.built 216 _).getD #[] = cs; obtain rfl : cs = ws kL := (by rw [← hB]; kernel_rfl); clear hB)
    | (refine wpList_store_row rfl 216 (.tmp 0) (.tmp 1) rfl w.heap.size (ws kL) rfl rfl 216 _ (Go.heap_alloc_new w _) HI.out (by rw [ws_size, kL_length]; rfl) (ws_one _) ?_))
  refine bodyPost_ret (v := .agg (ws kL)) (results_cell_row (p := 0) (ty := 216) rfl _ _ w.heap.size 216 (ws kL) (0, 0) _ rfl (setRow_put (Go.heap_alloc_new w _)) u72 rfl HI.out) rfl ⟨rfl, setRow_below ((Below.refl _ _).alloc (Nat.le_refl _) _) (Nat.le_refl _)⟩
end Go.Proofs.YtpggkfdijmnmiaaGreat.Hs
