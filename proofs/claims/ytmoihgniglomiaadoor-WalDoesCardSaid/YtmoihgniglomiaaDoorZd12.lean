/- What a log's call answers that gave up: the deferred functions. Condition: the log's cells. A log in memory; the calls that look at it, and whether it is gone. Condition: the log's own. A region that draws its order and ends in operations of one forced order; a whole array read within it. General, of any program. No condition but that the region's text is of that form. What a log's Append leaves.  -/
import Derived.Recover
import Derived.Defers
import Derived.Test.YtmoihgniglomiaaDoorZd11
import Derived.StillTail
import Derived.StillTailTactics
import Derived.Lib.QuietBelow
import Derived.BigQuiet
set_option linter.unusedVariables false
set_option linter.unusedSimpArgs false
set_option maxRecDepth 100000
namespace Go.Proofs.YtmoihgniglomiaaDoor
open Go.RowKit Go.Sort
theorem wpS_region_draw {P : Program} {Q : Exit → Act → List Frame → World → Prop} {a : Act} {cs : List Frame} {w : World} {id : Nat} {ops : Array Oper}
    (h : ∀ t, wpOpsS P ops Q (Region.schedule (P.follows .mixedOrders) ops t) a cs w.drew) : (Code.region id ops true).wpS P Q a cs w :=
  fun b k hb hr => let ⟨e, a', cs', w', q, r⟩ := wp_opsS _ a cs _ (h _) b k hb hr; ⟨e, a', cs', w', q, .of_steps (.one step_region_draw) r⟩
theorem sched2 (ops : Array Oper) (h4 : ops.size = 4) (r0 : Region.ready .any ops #[false, false, false, false] = [0, 1]) (r1 : Region.ready .any ops #[true, false, false, false] = [1]) (r2 : Region.ready .any ops #[false, true, false, false] = [0]) (r3 : Region.ready .any ops #[true, true, false, false] = [2]) (r4 : Region.ready .any ops #[true, true, true, false] = [3]) (t : Nat) :
    Region.schedule (Tryd.prog.follows .mixedOrders) ops t = [0, 1, 2, 3] ∨ Region.schedule (Tryd.prog.follows .mixedOrders) ops t = [1, 0, 2, 3] := by
  have hm : Tryd.prog.follows .mixedOrders = true := mixed
  have go1 : ∀ fuel t listed acc, Region.linearise.go .any ops (fuel + 1) t listed acc = match (Region.ready .any ops listed)[t % (Region.ready .any ops listed).length]? with
      | some i => Region.linearise.go .any ops fuel (t / (Region.ready .any ops listed).length) (listed.setIfInBounds i true) (i :: acc)
      | none => acc.reverse := fun _ _ _ _ => rfl
  unfold Region.schedule
  rw [hm]
  simp only [Bool.true_or, if_true]
  unfold Region.linearise
  rw [h4]
  rw [show Array.replicate 4 false = #[false, false, false, false] from rfl, go1, r0]
  rcases Nat.mod_two_eq_zero_or_one t with h | h
  · left
    simp only [List.length_cons, List.length_nil, Nat.zero_add, Nat.reduceAdd, h, List.getElem?_cons_zero]
    rw [show (#[false, false, false, false] : Array Bool).setIfInBounds 0 true = #[true, false, false, false] from rfl, go1, r1]
    simp only [List.length_cons, List.length_nil, Nat.zero_add, Nat.mod_one, List.getElem?_cons_zero]
    rw [show (#[true, false, false, false] : Array Bool).setIfInBounds 1 true = #[true, true, false, false] from rfl, go1, r3]
    simp only [List.length_cons, List.length_nil, Nat.zero_add, Nat.mod_one, List.getElem?_cons_zero]
    rw [show (#[true, true, false, false] : Array Bool).setIfInBounds 2 true = #[true, true, true, false] from rfl, go1, r4]
    simp only [List.length_cons, List.length_nil, Nat.zero_add, Nat.mod_one, List.getElem?_cons_zero]
    rfl
  · right
    simp only [List.length_cons, List.length_nil, Nat.zero_add, Nat.reduceAdd, h, List.getElem?_cons_zero, List.getElem?_cons_succ]
    rw [show (#[false, false, false, false] : Array Bool).setIfInBounds 1 true = #[false, true, false, false] from rfl, go1, r2]
    simp only [List.length_cons, List.length_nil, Nat.zero_add, Nat.mod_one, List.getElem?_cons_zero]
    rw [show (#[false, true, false, false] : Array Bool).setIfInBounds 0 true = #[true, true, false, false] from rfl, go1, r3]
    simp only [List.length_cons, List.length_nil, Nat.zero_add, Nat.mod_one, List.getElem?_cons_zero]
    rw [show (#[true, true, false, false] : Array Bool).setIfInBounds 2 true = #[true, true, true, false] from rfl, go1, r4]
    simp only [List.length_cons, List.length_nil, Nat.zero_add, Nat.mod_one, List.getElem?_cons_zero]
    rfl
theorem assert_errno (n : Int) (w : World) : (Instr.typeAssert (.iface 28 (.int .i64 n)) 20 28 false).run Tryd.prog w = .ok (.int .i64 n) w := by kernel_rfl
set_option maxHeartbeats 4000000 in
theorem outcome_nil (v : Value) (w : World) : Calls Tryd.prog 73 #[v, .nilIface] w fun e w' => e = .returned (.int .i64 0) ∧ w = w' := by
  go_enter Tryd.func73, Tryd.ntmps73
  go_wp2_with fail
  go_ret
  exact ⟨rfl, rfl⟩
set_option maxHeartbeats 4000000 in
theorem outcome_err (b : Nat) (n : Int) (x : Value) (w : World) (h : w.cell? ⟨b, 4, none⟩ = some x) (hf : w.frozen? ⟨b, 4, none⟩ = false) : Calls Tryd.prog 73 #[.pointer (some ⟨b, 0, none⟩), .iface 28 (.int .i64 n)] w fun e w' => e = .returned (.int .i64 n) ∧ w' = w.setCell ⟨b, 4, none⟩ (.bool true) := by
  have hta := assert_errno n
  go_enter Tryd.func73, Tryd.ntmps73
  go_wp2_with fail
  go_ret
  exact ⟨rfl, rfl⟩
set_option maxHeartbeats 4000000 in
theorem catch72_panicking (p q b : Nat) (n : Int) (older : List PanicEntry) (w : World) (x y : Value) (h0 : w.cell? ⟨p, 0, none⟩ = some (.pointer (some ⟨b, 0, none⟩))) (h1 : w.cell? ⟨q, 0, none⟩ = some y) (hb : w.cell? ⟨b, 4, none⟩ = some x) (f1 : w.frozen? ⟨q, 0, none⟩ = false) (fb : w.frozen? ⟨b, 4, none⟩ = false) (hqb : q ≠ b) :
    CallsD Tryd.prog 72 #[.pointer (some ⟨p, 0, none⟩), .pointer (some ⟨q, 0, none⟩)] (.panicking ({ v := .iface 28 (.int .i64 n), recovered := false } :: older)) w fun e u' w' =>
      e = .returned (.tuple #[]) ∧ u' = .panicking ({ v := .iface 28 (.int .i64 n), recovered := true } :: older) ∧ w' = ((w.setCell ⟨b, 4, none⟩ (.bool true)).setCell ⟨q, 0, none⟩ (.int .i64 n)).drew := by
  refine callsD_of_wpS Tryd.func72 rfl fun c₀ cs hu => ?_
  refine wpS_region_draw fun t => ?_
  rcases sched2 _ (by kernel_rfl) (by kernel_rfl) (by kernel_rfl) (by kernel_rfl) (by kernel_rfl) (by kernel_rfl) t with h | h <;> rw [h]
  all_goals
    simp [wpOpsS, go_sem, recoverD, hu, Tryd.ntmps72, Exit.thenS, h0]
    refine (outcome_err b n x w.drew hb fb).mono ?_
    rintro e w1 ⟨rfl, rfl⟩
    simp [go_sem, h1, f1, hqb]
    clear h0 h1 hb f1 fb hqb h
    generalize World.drew _ = W'
    cases c₀
    simp_all [bodyPostS, results, Tryd.results72, go_sem]
set_option maxHeartbeats 4000000 in
theorem catch72_idle (p q : Nat) (v : Value) (w : World) (y : Value) (h0 : w.cell? ⟨p, 0, none⟩ = some v) (h1 : w.cell? ⟨q, 0, none⟩ = some y) (f1 : w.frozen? ⟨q, 0, none⟩ = false) :
    CallsD Tryd.prog 72 #[.pointer (some ⟨p, 0, none⟩), .pointer (some ⟨q, 0, none⟩)] .returning w fun e u' w' =>
      e = .returned (.tuple #[]) ∧ u' = .returning ∧ w' = (w.setCell ⟨q, 0, none⟩ (.int .i64 0)).drew := by
  refine callsD_of_wpS Tryd.func72 rfl fun c₀ cs hu => ?_
  refine wpS_region_draw fun t => ?_
  rcases sched2 _ (by kernel_rfl) (by kernel_rfl) (by kernel_rfl) (by kernel_rfl) (by kernel_rfl) (by kernel_rfl) t with h | h <;> rw [h]
  all_goals
    simp [wpOpsS, go_sem, recoverD, hu, Tryd.ntmps72, Exit.thenS, h0]
    refine (outcome_nil v w.drew).mono ?_
    rintro e w1 ⟨rfl, rfl⟩
    simp [go_sem, h1, f1]
    clear h0 h1 f1 h
    generalize World.drew _ = W'
    cases c₀
    simp_all [bodyPostS, results, Tryd.results72, go_sem]
set_option maxHeartbeats 4000000 in
theorem catch77_panicking (p q b : Nat) (n : Int) (older : List PanicEntry) (w : World) (x y : Value) (h0 : w.cell? ⟨p, 0, none⟩ = some (.pointer (some ⟨b, 0, none⟩))) (h1 : w.cell? ⟨q, 0, none⟩ = some y) (hb : w.cell? ⟨b, 4, none⟩ = some x) (f1 : w.frozen? ⟨q, 0, none⟩ = false) (fb : w.frozen? ⟨b, 4, none⟩ = false) (hqb : q ≠ b) :
    CallsD Tryd.prog 77 #[.pointer (some ⟨p, 0, none⟩), .pointer (some ⟨q, 0, none⟩)] (.panicking ({ v := .iface 28 (.int .i64 n), recovered := false } :: older)) w fun e u' w' =>
      e = .returned (.tuple #[]) ∧ u' = .panicking ({ v := .iface 28 (.int .i64 n), recovered := true } :: older) ∧ w' = ((w.setCell ⟨b, 4, none⟩ (.bool true)).setCell ⟨q, 0, none⟩ (.int .i64 n)).drew := by
  refine callsD_of_wpS Tryd.func77 rfl fun c₀ cs hu => ?_
  refine wpS_region_draw fun t => ?_
  rcases sched2 _ (by kernel_rfl) (by kernel_rfl) (by kernel_rfl) (by kernel_rfl) (by kernel_rfl) (by kernel_rfl) t with h | h <;> rw [h]
  all_goals
    simp [wpOpsS, go_sem, recoverD, hu, Tryd.ntmps77, Exit.thenS, h0]
    refine (outcome_err b n x w.drew hb fb).mono ?_
    rintro e w1 ⟨rfl, rfl⟩
    simp [go_sem, h1, f1, hqb]
    clear h0 h1 hb f1 fb hqb h
    generalize World.drew _ = W'
    cases c₀
    simp_all [bodyPostS, results, Tryd.results77, go_sem]
set_option maxHeartbeats 4000000 in
theorem catch77_idle (p q : Nat) (v : Value) (w : World) (y : Value) (h0 : w.cell? ⟨p, 0, none⟩ = some v) (h1 : w.cell? ⟨q, 0, none⟩ = some y) (f1 : w.frozen? ⟨q, 0, none⟩ = false) :
    CallsD Tryd.prog 77 #[.pointer (some ⟨p, 0, none⟩), .pointer (some ⟨q, 0, none⟩)] .returning w fun e u' w' =>
      e = .returned (.tuple #[]) ∧ u' = .returning ∧ w' = (w.setCell ⟨q, 0, none⟩ (.int .i64 0)).drew := by
  refine callsD_of_wpS Tryd.func77 rfl fun c₀ cs hu => ?_
  refine wpS_region_draw fun t => ?_
  rcases sched2 _ (by kernel_rfl) (by kernel_rfl) (by kernel_rfl) (by kernel_rfl) (by kernel_rfl) (by kernel_rfl) t with h | h <;> rw [h]
  all_goals
    simp [wpOpsS, go_sem, recoverD, hu, Tryd.ntmps77, Exit.thenS, h0]
    refine (outcome_nil v w.drew).mono ?_
    rintro e w1 ⟨rfl, rfl⟩
    simp [go_sem, h1, f1]
    clear h0 h1 f1 h
    generalize World.drew _ = W'
    cases c₀
    simp_all [bodyPostS, results, Tryd.results77, go_sem]
set_option maxHeartbeats 4000000 in
theorem catch79_panicking (p q b : Nat) (n : Int) (older : List PanicEntry) (w : World) (x y : Value) (h0 : w.cell? ⟨p, 0, none⟩ = some (.pointer (some ⟨b, 0, none⟩))) (h1 : w.cell? ⟨q, 0, none⟩ = some y) (hb : w.cell? ⟨b, 4, none⟩ = some x) (f1 : w.frozen? ⟨q, 0, none⟩ = false) (fb : w.frozen? ⟨b, 4, none⟩ = false) (hqb : q ≠ b) :
    CallsD Tryd.prog 79 #[.pointer (some ⟨p, 0, none⟩), .pointer (some ⟨q, 0, none⟩)] (.panicking ({ v := .iface 28 (.int .i64 n), recovered := false } :: older)) w fun e u' w' =>
      e = .returned (.tuple #[]) ∧ u' = .panicking ({ v := .iface 28 (.int .i64 n), recovered := true } :: older) ∧ w' = ((w.setCell ⟨b, 4, none⟩ (.bool true)).setCell ⟨q, 0, none⟩ (.int .i64 n)).drew := by
  refine callsD_of_wpS Tryd.func79 rfl fun c₀ cs hu => ?_
  refine wpS_region_draw fun t => ?_
  rcases sched2 _ (by kernel_rfl) (by kernel_rfl) (by kernel_rfl) (by kernel_rfl) (by kernel_rfl) (by kernel_rfl) t with h | h <;> rw [h]
  all_goals
    simp [wpOpsS, go_sem, recoverD, hu, Tryd.ntmps79, Exit.thenS, h0]
    refine (outcome_err b n x w.drew hb fb).mono ?_
    rintro e w1 ⟨rfl, rfl⟩
    simp [go_sem, h1, f1, hqb]
    clear h0 h1 hb f1 fb hqb h
    generalize World.drew _ = W'
    cases c₀
    simp_all [bodyPostS, results, Tryd.results79, go_sem]
set_option maxHeartbeats 4000000 in
theorem catch79_idle (p q : Nat) (v : Value) (w : World) (y : Value) (h0 : w.cell? ⟨p, 0, none⟩ = some v) (h1 : w.cell? ⟨q, 0, none⟩ = some y) (f1 : w.frozen? ⟨q, 0, none⟩ = false) :
    CallsD Tryd.prog 79 #[.pointer (some ⟨p, 0, none⟩), .pointer (some ⟨q, 0, none⟩)] .returning w fun e u' w' =>
      e = .returned (.tuple #[]) ∧ u' = .returning ∧ w' = (w.setCell ⟨q, 0, none⟩ (.int .i64 0)).drew := by
  refine callsD_of_wpS Tryd.func79 rfl fun c₀ cs hu => ?_
  refine wpS_region_draw fun t => ?_
  rcases sched2 _ (by kernel_rfl) (by kernel_rfl) (by kernel_rfl) (by kernel_rfl) (by kernel_rfl) (by kernel_rfl) t with h | h <;> rw [h]
  all_goals
    simp [wpOpsS, go_sem, recoverD, hu, Tryd.ntmps79, Exit.thenS, h0]
    refine (outcome_nil v w.drew).mono ?_
    rintro e w1 ⟨rfl, rfl⟩
    simp [go_sem, h1, f1]
    clear h0 h1 f1 h
    generalize World.drew _ = W'
    cases c₀
    simp_all [bodyPostS, results, Tryd.results79, go_sem]
set_option maxHeartbeats 4000000 in
theorem catch43_panicking (p q : Nat) (n : Int) (older : List PanicEntry) (w : World) (xp xq : Value) (hp : w.cell? ⟨p, 0, none⟩ = some xp) (hq : w.cell? ⟨q, 0, none⟩ = some xq) (fp : w.frozen? ⟨p, 0, none⟩ = false) (fq : w.frozen? ⟨q, 0, none⟩ = false) (npq : p ≠ q) :
    CallsD Tryd.prog 43 #[.pointer (some ⟨p, 0, none⟩), .pointer (some ⟨q, 0, none⟩)] (.panicking ({ v := .iface 28 (.int .i64 n), recovered := false } :: older)) w fun e u' w' =>
      e = .returned (.tuple #[]) ∧ u' = .panicking ({ v := .iface 28 (.int .i64 n), recovered := true } :: older) ∧ w' = ((w.setCell ⟨p, 0, none⟩ (.pointer none)).setCell ⟨q, 0, none⟩ (.int .i64 n)).drew := by
  have hta := assert_errno n
  refine callsD_of_wpS Tryd.func43 rfl fun c₀ cs hu => ?_
  apply wpS_seq
  apply wpS_region
  simp [wpOpsS, go_sem, recoverD, hu, Tryd.ntmps43, Exit.thenS]
  apply wpS_seq
  apply wpS_region
  simp [wpOpsS, go_sem, Exit.thenS]
  refine wpS_cond (t := true) (by simp [Act.eval, Array.replicate]) ?_
  simp only [if_true]
  refine wpS_of_wp ?_
  go_region
  all_goals
    clear hp hq fp fq npq hta
    generalize World.drew _ = W'
    cases c₀
    simp_all [bodyPostS, results, Tryd.results43, go_sem]
theorem catch43_idle (vp vq : Value) (w : World) :
    CallsD Tryd.prog 43 #[vp, vq] .returning w fun e u' w' => e = .returned (.tuple #[]) ∧ u' = .returning ∧ w' = w := by
  refine callsD_of_wpS Tryd.func43 rfl fun c₀ cs hu => ?_
  apply wpS_seq
  apply wpS_region
  simp [wpOpsS, go_sem, recoverD, hu, Tryd.ntmps43, Exit.thenS]
  apply wpS_seq
  apply wpS_region
  simp [wpOpsS, go_sem, Exit.thenS]
  refine wpS_cond (t := false) (by simp [Act.eval, Array.replicate]) ?_
  simp only [Bool.false_eq_true, if_false]
  refine wpS_of_wp (wp_skip ?_)
  cases c₀
  simp_all [bodyPostS, results, Tryd.results43]
set_option maxHeartbeats 4000000 in
theorem catch67_panicking (p q r t : Nat) (n : Int) (older : List PanicEntry) (w : World) (xp xq xr xt : Value) (hp : w.cell? ⟨p, 0, none⟩ = some xp) (hq : w.cell? ⟨q, 0, none⟩ = some xq) (hr : w.cell? ⟨r, 0, none⟩ = some xr) (ht : w.cell? ⟨t, 0, none⟩ = some xt) (fp : w.frozen? ⟨p, 0, none⟩ = false) (fq : w.frozen? ⟨q, 0, none⟩ = false) (fr : w.frozen? ⟨r, 0, none⟩ = false) (ft : w.frozen? ⟨t, 0, none⟩ = false) (npq : p ≠ q) (npr : p ≠ r) (npt : p ≠ t) (nqr : q ≠ r) (nqt : q ≠ t) (nrt : r ≠ t) :
    CallsD Tryd.prog 67 #[.pointer (some ⟨p, 0, none⟩), .pointer (some ⟨q, 0, none⟩), .pointer (some ⟨r, 0, none⟩), .pointer (some ⟨t, 0, none⟩)] (.panicking ({ v := .iface 28 (.int .i64 n), recovered := false } :: older)) w fun e u' w' =>
      e = .returned (.tuple #[]) ∧ u' = .panicking ({ v := .iface 28 (.int .i64 n), recovered := true } :: older) ∧ w' = ((((w.setCell ⟨p, 0, none⟩ (.pointer none)).setCell ⟨q, 0, none⟩ (.string ⟨#[]⟩)).setCell ⟨r, 0, none⟩ (.slice none 0 0)).setCell ⟨t, 0, none⟩ (.int .i64 n)).drew := by
  have hta := assert_errno n
  refine callsD_of_wpS Tryd.func67 rfl fun c₀ cs hu => ?_
  apply wpS_seq
  apply wpS_region
  simp [wpOpsS, go_sem, recoverD, hu, Tryd.ntmps67, Exit.thenS]
  apply wpS_seq
  apply wpS_region
  simp [wpOpsS, go_sem, Exit.thenS]
  refine wpS_cond (t := true) (by simp [Act.eval, Array.replicate]) ?_
  simp only [if_true]
  refine wpS_of_wp ?_
  go_region
  all_goals
    clear hp hq hr ht fp fq fr ft npq npr npt nqr nqt nrt hta
    generalize World.drew _ = W'
    cases c₀
    simp_all [bodyPostS, results, Tryd.results67, go_sem]
theorem catch67_idle (vp vq vr vt : Value) (w : World) :
    CallsD Tryd.prog 67 #[vp, vq, vr, vt] .returning w fun e u' w' => e = .returned (.tuple #[]) ∧ u' = .returning ∧ w' = w := by
  refine callsD_of_wpS Tryd.func67 rfl fun c₀ cs hu => ?_
  apply wpS_seq
  apply wpS_region
  simp [wpOpsS, go_sem, recoverD, hu, Tryd.ntmps67, Exit.thenS]
  apply wpS_seq
  apply wpS_region
  simp [wpOpsS, go_sem, Exit.thenS]
  refine wpS_cond (t := false) (by simp [Act.eval, Array.replicate]) ?_
  simp only [Bool.false_eq_true, if_false]
  refine wpS_of_wp (wp_skip ?_)
  cases c₀
  simp_all [bodyPostS, results, Tryd.results67]
structure Lk (w : World) (b : Nat) (p : Fp) (S : St) (l : Wlg) : Prop where
  blk : Bk 96 w b #[p.v, .int .i64 (l.file : Int), .int .i64 (l.gen : Int), .int .i64 (l.n : Int), .bool l.dead]
  dk : Dk w p S
  ne : b ∉ p.own
  zb : b ≠ 0
  zo : 0 ∉ p.own
  ff : l.file < 2
  gg : l.gen ≤ 4611686018427387904
theorem Lk.below {w w' : World} {b : Nat} {p : Fp} {S : St} {l : Wlg} (h : Lk w b p S l) (hb : Below w.heap.size w w') : Lk w' b p S l :=
  ⟨h.blk.below hb, h.dk.below hb, h.ne, h.zb, h.zo, h.ff, h.gg⟩
theorem size_at (S : St) (f : Nat) (hf : f < 2) : S.size (f : Int) = ((S.file f).length : Int) := by
  have ht : St.there (f : Int) = true := by unfold St.there; simp; omega
  unfold St.size
  rw [if_pos ht]
  rfl
theorem file_le {S : St} (h : S.Wf) (f : Nat) : (S.file f).length ≤ 1048576 := by
  unfold St.file; split
  · exact h.l0
  · exact h.l1
def lv (b : Nat) : Value := .pointer (some ⟨b, 0, none⟩)
set_option maxHeartbeats 8000000 in
theorem records35 (b : Nat) (v0 v1 v2 v3 v4 : Value) (w : World) (K : Hid (Bk 96 w b #[v0, v1, v2, v3, v4])) :
    Calls Tryd.prog 35 #[.pointer (some ⟨b, 0, none⟩)] w fun e w' => e = .returned v3 ∧ w = w' := by
  have c := K.out.cell 3
  simp only [List.getElem?_toArray, List.getElem?_cons_succ, List.getElem?_cons_zero] at c
  go_enter Tryd.func35, Tryd.ntmps35
  go_wp2_with fail
  go_ret
  exact ⟨rfl, rfl⟩
set_option maxHeartbeats 8000000 in
theorem dead42 (b : Nat) (v0 v1 v2 v3 v4 : Value) (w : World) (K : Hid (Bk 96 w b #[v0, v1, v2, v3, v4])) :
    Calls Tryd.prog 42 #[.pointer (some ⟨b, 0, none⟩)] w fun e w' => e = .returned v4 ∧ w = w' := by
  have c := K.out.cell 4
  simp only [List.getElem?_toArray, List.getElem?_cons_succ, List.getElem?_cons_zero] at c
  go_enter Tryd.func42, Tryd.ntmps42
  go_wp2_with fail
  go_ret
  exact ⟨rfl, rfl⟩
set_option maxHeartbeats 16000000 in
theorem room_any {w : World} {b : Nat} {p : Fp} {S : St} {l : Wlg} (h : Lk w b p S l) :
    Calls Tryd.prog 37 #[.pointer (some ⟨b, 0, none⟩)] w fun e w' => e = .returned (.int .i64 (room S l)) ∧ Below w.heap.size w w' := by
  have hsz := size_at S l.file h.ff
  have hle : ((S.file l.file).length : Int) ≤ 1048576 := by have := file_le h.dk.wf l.file; omega
  have hge : (0 : Int) ≤ ((S.file l.file).length : Int) := by omega
  have hp : ∃ pv, pv = p.v := ⟨_, rfl⟩
  obtain ⟨pv, hpv⟩ := hp
  have HS : Hid (∀ d os, Calls Tryd.prog 41 #[pv, .int .i64 (l.file : Int)] (grow (redrawn w d) os) fun e w'' => e = .returned (.int .i64 ((S.file l.file).length : Int)) ∧ ∃ p : Regrown, w'' = grow (redrawn w p.d) p.os) := Lib.hid fun d os => by
    have := size_any p S l.file _ (h.dk.below (below_regrown w d os))
    rw [hsz, ← hpv] at this
    exact Calls.grown this
  have b0 : w.cell? ⟨b, 0, none⟩ = some p.v := h.blk.cell 0
  have b1 : w.cell? ⟨b, 1, none⟩ = some (.int .i64 (l.file : Int)) := h.blk.cell 1
  rw [← hpv] at b0
  have k0 := cell_regrown b0
  have k1 := cell_regrown b1
  clear b0 b1
  obtain ⟨r, hr⟩ : ∃ r, r = room S l := ⟨_, rfl⟩
  rw [← hr]
  unfold room at hr
  generalize ((S.file l.file).length : Int) = n at *
  have HR := Lib.hid hr
  clear hsz hpv hr h
  go_enter Tryd.func37, Tryd.ntmps37
  go_wp2_with fail
  refine wp_region_quiet_below mixed (by kernel_rfl) ?_
  repeat (first | go_big_quiet_step (with_reducible exact HS.out _ _) | quiet_step (with_reducible exact HS.out _ _))
  refine wpQuiet_nil ?_
  intro _ hw'
  obtain ⟨⟨dq, osq⟩, hw''⟩ := hw'
  subst hw''
  have hbq := Lib.hid (below_regrown w dq osq)
  go_wp2_with fail
  go_ret
  exact ⟨by rw [HR.out]; rfl, hbq.out⟩
theorem Dk.set {w : World} {p : Fp} {S : St} (h : Dk w p S) {b : Nat} (hb : b ∉ p.own) (a : Addr) (ha : a.block = b) (v : Value) : Dk (w.setCell a v) p S :=
  h.only (L := [b]) ((Only.refl [b] w).setCell a (.inl (by simp [ha])) v) (fun k hk => by simp; rintro rfl; exact hb hk)
theorem Lk.die {w : World} {b : Nat} {p : Fp} {S : St} {l : Wlg} (h : Lk w b p S l) (d : Bool) : Lk (w.setCell ⟨b, 4, none⟩ (.bool d)) b p S { l with dead := d } := by
  refine ⟨?_, h.dk.set h.ne _ rfl _, h.ne, h.zb, h.zo, h.ff, h.gg⟩
  have := Bk.same (i := 4) (v := .bool d) h.blk
  simpa using this
set_option maxHeartbeats 16000000 in
theorem gone_any {w : World} {b : Nat} {p : Fp} {S : St} {l : Wlg} (h : Lk w b p S l) :
    Calls Tryd.prog 71 #[.pointer (some ⟨b, 0, none⟩)] w fun e w' => e = .returned (.bool (l.dead || S.gone)) ∧ w' = w.setCell ⟨b, 4, none⟩ (.bool (l.dead || S.gone)) := by
  have c0 : w.cell? ⟨b, 0, none⟩ = some p.v := h.blk.cell 0
  have c4 : w.cell? ⟨b, 4, none⟩ = some (.bool l.dead) := h.blk.cell 4
  have f4 := h.blk.fro 4
  have n4 : (w.setCell ⟨b, 4, none⟩ (.bool (l.dead || S.gone))).cell? ⟨b, 4, none⟩ = some (.bool (l.dead || S.gone)) := (h.die _).blk.cell 4
  have HD := Lib.hid (dead_any p S w h.dk)
  generalize p.v = pv at *
  generalize l.dead = d at *
  generalize S.gone = g at *
  clear h
  cases d
  · simp only [Bool.false_or] at n4 ⊢
    go_enter Tryd.func71, Tryd.ntmps71
    go_wp2_with fail
    refine HD.out.mono ?_
    rintro e w1 ⟨rfl, rfl⟩
    go_wp2_with fail
    go_ret
    exact ⟨rfl, rfl⟩
  · simp only [Bool.true_or] at n4 ⊢
    go_enter Tryd.func71, Tryd.ntmps71
    go_wp2_with fail
    go_ret
    exact ⟨rfl, rfl⟩
section
variable {P : Program}
end
section
variable {P : Program} {ops : Array Oper} {md : Region.Mode} {C : World → Prop}
def headQ (P : Program) (md : Region.Mode) (ops : Array Oper) (C : World → Prop) (n : Nat) (L : Array Bool → Act → Prop) : Nat → Array Bool → Act → Prop
  | 0, ls, a => L ls a
  | f + 1, ls, a => Region.ready md ops ls ≠ [] ∧ ∀ i, i ∈ Region.ready md ops ls → i < n ∧ qOp P ops C i (headQ P md ops C n L f (ls.setIfInBounds i true)) a
theorem any_of_headQ {n g : Nat} {L : Array Bool → Act → Prop} {Q : Exit → Act → World → Prop} (hL : ∀ ls a w, C w → L ls a → wpAny P md ops Q g ls a w) (f : Nat) :
    ∀ (ls : Array Bool) (a : Act) (w : World), C w → headQ P md ops C n L f ls a → wpAny P md ops Q (f + g) ls a w := by
  induction f with
  | zero => intro ls a w hw h; rw [Nat.zero_add]; exact hL _ _ _ hw h
  | succ f ih =>
    intro ls a w hw h
    rw [Nat.succ_add]
    exact ⟨fun h0 => absurd h0 h.1, fun i hi => wpOp_of_qOp hw (fun a' w' hw' h' => ih _ a' w' hw' h') (h.2 i hi).2⟩
theorem headQ_first {n i : Nat} {oi : Oper} {v : Value} {L : Array Bool → Act → Prop} (hi : ops[i]? = some oi) (hsel : ∀ (j : Nat) (o : Oper) cs b, ops[j]? = some o → o.op ≠ .select cs b)
    (hs : Region.sinkB md ops n = true) (hc : Region.chainB md ops n = true) (hn : n < ops.size) (hin : i < n) (hdone : ∀ ls a, L ls a → ∀ j ∈ Region.ready md ops ls, n ≤ j) (f : Nat) :
    ∀ (ls : Array Bool) (a : Act), HeadInv md ops n ls → (∀ j oj, ops[j]? = some oj → j ≠ i → ls.getD j true = false → (∀ e ∈ oj.after, Region.binds md e = true → e.on ≠ i) → oi.apart ops oj = true) →
      i ∈ Region.ready md ops ls → YieldsIn P ops C oi v a → headQ P md ops C n L f (ls.setIfInBounds i true) (a.put oi.dst v) → headQ P md ops C n L (f + 1) ls a := by
  induction f with
  | zero =>
    intro ls a inv _ hr hy H
    have hun := (mem_ready.1 hr).1
    refine ⟨fun h => (by rw [h] at hr; cases hr), fun j hj => ?_⟩
    have hjn : j < n := Nat.lt_of_not_le fun h => tail_waits hs hc hn inv _ i rfl hin hun j h hj
    refine ⟨hjn, ?_⟩
    by_cases hji : j = i
    · subst hji; exact hy.qOp hi H
    · have := hdone _ _ H j (ready_mono hj hji)
      omega
  | succ f ih =>
    intro ls a inv hfree hr hy H
    have hun := (mem_ready.1 hr).1
    refine ⟨fun h => (by rw [h] at hr; cases hr), fun j hj => ?_⟩
    have hjn : j < n := Nat.lt_of_not_le fun h => tail_waits hs hc hn inv _ i rfl hin hun j h hj
    refine ⟨hjn, ?_⟩
    by_cases hji : j = i
    · subst hji; exact hy.qOp hi H
    · obtain ⟨hjun, oj, hoj, hall⟩ := mem_ready.1 hj
      have hnot : ∀ e ∈ oj.after, Region.binds md e = true → e.on ≠ i := fun e he hb heq => by
        have h1 := hall e he hb
        rw [heq, getD_both hun] at h1
        cases h1
      have h2 := qOp_put hoj (hfree j oj hoj hji hjun hnot) (fun cs b => hsel i oi cs b hi) (fun cs b => hsel j oj cs b hoj) hy (H.2 j (ready_mono hj hji)).2
      refine qOp_mono (fun a' h3 => ih _ a' (inv.set hj hjn) (fun k ok hk hki hu hno => hfree k ok hk hki ?_ hno) (ready_mono hr (Ne.symm hji)) h3.1 ?_) h2
      · by_cases hjk : j = k
        · subst hjk; exact hjun
        · rw [getD_set_ne true hjk] at hu; exact hu
      · rw [Array.setIfInBounds_comm _ _ hji]; exact h3.2
theorem headQ_lex {n g : Nat} {F : Act → Prop} (hsel : Region.noSelect ops = true) (hs : Region.sinkB md ops n = true) (hc : Region.chainB md ops n = true) (hn : n < ops.size) :
    ∀ (l : List Oper) (k : Nat) (ls : Array Bool) (a : Act), (∀ j, j < l.length → l[j]? = ops[k + j]?) → k + l.length = n → HeadInv md ops n ls →
    Region.lexHead md ops g l.length k ls = true → wpQuiet P ops C F l a → headQ P md ops C n (fun ls' a' => Region.seqB md ops g n ls' = true ∧ F a') l.length ls a
  | [], k, ls, a, _, hk, _, hB, h => by
    obtain rfl : k = n := by simpa using hk
    exact ⟨by simpa [Region.lexHead] using hB, h⟩
  | o :: l, k, ls, a, hl, hk, inv, hB, h => by
    have h0 : ops[k]? = some o := by simpa using (hl 0 (by simp)).symm
    simp only [List.length_cons, Region.lexHead, Bool.and_eq_true] at hB hk
    obtain ⟨⟨hr, hf⟩, hB'⟩ := hB
    have hr' : k ∈ Region.ready md ops ls := by simpa using hr
    obtain ⟨v, hy, hK⟩ := yieldsIn_of_qOp (K := wpQuiet P ops C F l) h0 (by unfold qOp; simp only [h0]; exact h)
    exact headQ_first h0 (Region.noSelect_spec hsel) hs hc hn (by omega) (fun ls' a' hL => seqB_ready hL.1) l.length ls a inv (Region.free_spec h0 hf) hr' hy
      (headQ_lex hsel hs hc hn l (k + 1) _ _ (fun j hj => by have := hl (j + 1) (by simp; omega); simpa [Nat.add_assoc, Nat.add_comm 1 j] using this) (by omega) (inv.set hr' (by omega)) hB' hK)
theorem wp_region_below_tail {id : Nat} {Q : Exit → Act → World → Prop} {a : Act} {w : World} {l : List Oper} (n : Nat) (hm : P.follows .mixedOrders = true) (hB : Region.lexTailB .any l.toArray n = true)
    (h : wpQuiet P l.toArray (fun w' => ∃ p : Regrown, w' = grow (redrawn w p.d) p.os) (fun a' => ∀ w', (∃ p : Regrown, w' = grow (redrawn w p.d) p.os) → wpList P l.toArray Q (l.drop n) a' w') (l.take n) a) : (Code.region id l.toArray true).wp P Q a w := by
  simp only [Region.lexTailB, Bool.and_eq_true, decide_eq_true_eq] at hB
  obtain ⟨⟨⟨⟨hsel, hn⟩, hs⟩, hc⟩, hlex⟩ := hB
  have hn' : n < l.length := by simpa using hn
  have htl : (l.take n).length = n := by simp; omega
  have hdl : (l.drop n).length = l.toArray.size - n := by simp
  have inv0 : HeadInv .any l.toArray n (Array.replicate l.toArray.size false) :=
    ⟨by simp, fun j oj _ hl => (by rw [getD_replicate_false] at hl; cases hl), fun t _ ht => getD_in (by simpa using ht) (getD_replicate_false _ _)⟩
  have H := headQ_lex (md := .any) (g := l.toArray.size - n) hsel hs hc hn (l.take n) 0 _ a (fun j hj => by
    have hj' : j < n := by rw [htl] at hj; exact hj
    simp [hj']) (by simpa using htl) inv0 (by rw [htl]; exact hlex) h
  refine wp_region_any hm ?_
  have := any_of_headQ (Q := Q) (g := l.toArray.size - n) (fun ls a' w' hw' hL => by
    have := wpAny_of_seq (md := .any) (Q' := Q) (l.drop n) n ls a' w' (fun j => by simp [List.getElem?_drop]) (by rw [hdl]; exact hL.1) (hL.2 w' hw')
    rwa [hdl] at this) _ _ _ _ (show ∃ p : Regrown, _ = grow (redrawn w p.d) p.os from ⟨⟨w.drawn + 1, #[]⟩, by rw [grow_empty]⟩) H
  rw [htl, show n + (l.toArray.size - n) = l.toArray.size by omega] at this
  exact this
end
section
variable {P : Program}
end
theorem count_code (S : St) : (S.count).1 = 0 ∨ (S.count).1 = 2 := by
  unfold St.count; split
  · exact .inl rfl
  · split
    · exact .inl rfl
    · exact .inr rfl
theorem append_code (S : St) (f : Nat) (s : Bs) (hf : f < 2) (hs : (S.file f).length + s.length ≤ 1048576) : (S.append f s).1 = 0 ∨ (S.append f s).1 = 2 := by
  unfold St.append
  split
  · exact .inr rfl
  · rw [if_neg (by unfold St.there; simp; omega), if_neg (by simp; omega)]
    exact count_code _
theorem sync_code (S : St) : (S.sync).1 = 0 ∨ (S.sync).1 = 2 := by
  unfold St.sync
  split
  · exact .inr rfl
  · split
    · exact .inl rfl
    · exact count_code _
theorem cut_code (S : St) (f n : Nat) (hf : f < 2) (hn : n ≤ (S.file f).length) (hs : (S.file f).length ≤ S.safe f) : (S.cut f n).1 = 0 ∨ (S.cut f n).1 = 2 := by
  unfold St.cut
  split
  · exact .inr rfl
  · rw [if_neg (by unfold St.there; simp; omega), if_neg (by simp; omega)]
    split
    · exact .inl rfl
    · exact count_code _
def LM (w : World) (b : Nat) (p : Fp) (w' : World) (p' : Fp) (S' : St) (l' : Wlg) : Prop := Lk w' b p' S' l' ∧ p'.b = p.b ∧ Only (b :: p.own) w w' ∧ ∀ k ∈ p'.own, k ∈ p.own ∨ w.heap.size ≤ k
theorem LM.refl {w w' : World} {b : Nat} {p : Fp} {S : St} {l : Wlg} (h : Lk w b p S l) (hb : Below w.heap.size w w') : LM w b p w' p S l := ⟨h.below hb, rfl, Only.of hb, fun k hk => .inl hk⟩
theorem LM.then_below {w w1 w2 : World} {b : Nat} {p p1 : Fp} {S : St} {l : Wlg} (h : LM w b p w1 p1 S l) (hb : Below w1.heap.size w1 w2) : LM w b p w2 p1 S l :=
  ⟨h.1.below hb, h.2.1, h.2.2.1.trans (Only.of (L := []) hb) (fun x hx => by simp at hx), h.2.2.2⟩
theorem LM.own_set {w w1 : World} {b : Nat} {p p1 : Fp} {S : St} {l : Wlg} (h : LM w b p w1 p1 S l) (a : Addr) (ha : w.heap.size ≤ a.block) (hb : b ≠ a.block) (hp : a.block ∉ p1.own) (v : Value) : LM w b p (w1.setCell a v) p1 S l :=
  ⟨⟨h.1.blk.oth hb, h.1.dk.set hp a rfl v, h.1.ne, h.1.zb, h.1.zo, h.1.ff, h.1.gg⟩, h.2.1, h.2.2.1.setCell a (.inr ha) v, h.2.2.2⟩
theorem LM.drew {w w1 : World} {b : Nat} {p p1 : Fp} {S : St} {l : Wlg} (h : LM w b p w1 p1 S l) : LM w b p w1.drew p1 S l :=
  h.then_below ⟨rfl, rfl, rfl, Nat.le_refl _, fun _ _ => rfl⟩
theorem LM.die {w w1 : World} {b : Nat} {p p1 : Fp} {S : St} {l : Wlg} (h : LM w b p w1 p1 S l) (d : Bool) : LM w b p (w1.setCell ⟨b, 4, none⟩ (.bool d)) p1 S { l with dead := d } :=
  ⟨h.1.die d, h.2.1, h.2.2.1.setCell _ (.inl (by simp)) _, h.2.2.2⟩
theorem Lk.num {w : World} {b : Nat} {p : Fp} {S : St} {l : Wlg} (h : Lk w b p S l) (n : Nat) : Lk (w.setCell ⟨b, 3, none⟩ (.int .i64 (n : Int))) b p S { l with n := n } := by
  refine ⟨?_, h.dk.set h.ne _ rfl _, h.ne, h.zb, h.zo, h.ff, h.gg⟩
  have := Bk.same (i := 3) (v := .int .i64 (n : Int)) h.blk
  simpa using this
theorem LM.num {w w1 : World} {b : Nat} {p p1 : Fp} {S : St} {l : Wlg} (h : LM w b p w1 p1 S l) (n : Nat) : LM w b p (w1.setCell ⟨b, 3, none⟩ (.int .i64 (n : Int))) p1 S { l with n := n } :=
  ⟨h.1.num n, h.2.1, h.2.2.1.setCell _ (.inl (by simp)) _, h.2.2.2⟩
theorem LM.mut {w w1 w2 : World} {b : Nat} {p p1 p2 : Fp} {S S2 : St} {l : Wlg} (h : LM w b p w1 p1 S l) (hz : 0 < w.heap.size) (m : Mut w1 p1 w2 p2 S2) (hb : b < w1.heap.size) : LM w b p w2 p2 S2 l := by
  have hv : p2.v = p1.v := m.v
  have hn : b ∉ p2.own := fun hx => (m.2.2.2 b hx).elim h.1.ne (by omega)
  refine ⟨⟨?_, m.1, hn, h.1.zb, m.zero h.1.zo (Nat.lt_of_lt_of_le hz h.2.2.1.size), h.1.ff, h.1.gg⟩, m.2.1.trans h.2.1, h.2.2.1.trans m.2.2.1 (fun x hx => ?_), fun k hk => ?_⟩
  · rw [hv]; exact h.1.blk.only m.2.2.1 h.1.ne
  · rcases h.2.2.2 x hx with h1 | h1
    · exact .inl (by simp [h1])
    · exact .inr h1
  · rcases m.2.2.2 k hk with h1 | h1
    · exact h.2.2.2 k h1
    · exact .inr (Nat.le_trans h.2.2.1.size h1)
theorem LM.tb {w w1 : World} {b : Nat} {p p1 : Fp} {S : St} {l : Wlg} (h : LM w b p w1 p1 S l) (hT : Tb w) (hb : b ≠ 0) (hz : 0 ∉ p.own) : Tb w1 := hT.only h.2.2.1 (by simp [Ne.symm hb, hz])
set_option maxHeartbeats 16000000 in
theorem lap_gone {w : World} {b : Nat} {p : Fp} {S : St} {l : Wlg} (h : Lk w b p S l) (hT : Tb w) (r : Bs) (hg : (l.dead || S.gone) = true) :
    Calls Tryd.prog 38 #[.pointer (some ⟨b, 0, none⟩), .string ⟨r.toArray⟩] w fun e w' => e = .returned (.int .i64 2) ∧ ∃ p', LM w b p w' p' S l.sink := by
  have hbl := h.blk.lt
  have HZ := Lib.hid hT.1
  have HBL := Lib.hid hbl
  have M0 : Hid (LM w b p ((w.alloc (.cells #[.pointer (some ⟨b, 0, none⟩)] 35)).alloc (.cells #[.int .i64 0] 28)) p S l) := Lib.hid (LM.refl h (by go_grown))
  have K0 : Hid (Bk 35 ((w.alloc (.cells #[.pointer (some ⟨b, 0, none⟩)] 35)).alloc (.cells #[.int .i64 0] 28)) w.heap.size #[.pointer (some ⟨b, 0, none⟩)]) := Lib.hid (Bk.alloc (Bk.new rfl))
  have K1 : Hid (Bk 28 ((w.alloc (.cells #[.pointer (some ⟨b, 0, none⟩)] 35)).alloc (.cells #[.int .i64 0] 28)) (w.heap.size + 1) #[.int .i64 0]) := Lib.hid (Bk.new (by simp))
  have HSZ : Hid (((w.alloc (.cells #[.pointer (some ⟨b, 0, none⟩)] 35)).alloc (.cells #[.int .i64 0] 28)).heap.size = w.heap.size + 2) := Lib.hid (by simp)
  have NO : Hid (w.heap.size ∉ p.own ∧ w.heap.size + 1 ∉ p.own) := Lib.hid ⟨fun hx => by have := h.dk.lt _ hx; omega, fun hx => by have := h.dk.lt _ hx; omega⟩
  have HTB := Lib.hid hT
  have HLK := Lib.hid h
  have hlen : (⟨r.toArray⟩ : ByteArray).size = r.length := size_ba r
  have HG := Lib.hid (gone_any M0.out.1)
  rw [hg] at HG
  have c0 := K0.out.cell 0
  simp only [List.getElem?_toArray, List.getElem?_cons_succ, List.getElem?_cons_zero] at c0
  clear hg h hT hbl
  go_enter_defers Tryd.func38, Tryd.ntmps38
  go_wp2_with fail
  clear c0
  generalize ((w.alloc (.cells #[.pointer (some ⟨b, 0, none⟩)] 35)).alloc (.cells #[.int .i64 0] 28)) = wa at M0 K0 K1 HSZ HG ⊢
  refine HG.out.mono ?_
  rintro e w1 ⟨rfl, hw1⟩
  have M1 : Hid (LM w b p w1 p S { l with dead := true }) := Lib.hid (by rw [hw1]; exact M0.out.die true)
  have k0 : Bk 35 w1 w.heap.size #[.pointer (some ⟨b, 0, none⟩)] := by rw [hw1]; exact K0.out.oth (by have := HBL.out; simp; omega)
  have k1 : Bk 28 w1 (w.heap.size + 1) #[.int .i64 0] := by rw [hw1]; exact K1.out.oth (by have := HBL.out; simp; omega)
  have hsz : w1.heap.size = w.heap.size + 2 := by rw [hw1]; simpa using HSZ.out
  replace K0 := Lib.hid k0
  replace K1 := Lib.hid k1
  replace HSZ := Lib.hid hsz
  clear hw1 k0 k1 hsz HG M0
  have c0 := K0.out.cell 0
  have c1 := K1.out.cell 0
  have f1 := K1.out.fro 0
  simp only [List.getElem?_toArray, List.getElem?_cons_succ, List.getElem?_cons_zero] at c0 c1
  go_wp2_with fail
  refine ⟨.int .i64 2, by simp [results, Tryd.results38, go_sem, c1], rfl, p, ?_⟩
  exact M1.out.own_set ⟨w.heap.size + 1, 0, none⟩ (by simp) (by have := HBL.out; simp; omega) NO.out.2 _
set_option maxHeartbeats 16000000 in
theorem lap_long {w : World} {b : Nat} {p : Fp} {S : St} {l : Wlg} (h : Lk w b p S l) (hT : Tb w) (r : Bs) (hg : (l.dead || S.gone) = false) (hl : r.length > 65536) :
    Calls Tryd.prog 38 #[.pointer (some ⟨b, 0, none⟩), .string ⟨r.toArray⟩] w fun e w' => e = .returned (.int .i64 101) ∧ ∃ p', LM w b p w' p' S l := by
  have hbl := h.blk.lt
  have HZ := Lib.hid hT.1
  have HBL := Lib.hid hbl
  have M0 : Hid (LM w b p ((w.alloc (.cells #[.pointer (some ⟨b, 0, none⟩)] 35)).alloc (.cells #[.int .i64 0] 28)) p S l) := Lib.hid (LM.refl h (by go_grown))
  have K0 : Hid (Bk 35 ((w.alloc (.cells #[.pointer (some ⟨b, 0, none⟩)] 35)).alloc (.cells #[.int .i64 0] 28)) w.heap.size #[.pointer (some ⟨b, 0, none⟩)]) := Lib.hid (Bk.alloc (Bk.new rfl))
  have K1 : Hid (Bk 28 ((w.alloc (.cells #[.pointer (some ⟨b, 0, none⟩)] 35)).alloc (.cells #[.int .i64 0] 28)) (w.heap.size + 1) #[.int .i64 0]) := Lib.hid (Bk.new (by simp))
  have HSZ : Hid (((w.alloc (.cells #[.pointer (some ⟨b, 0, none⟩)] 35)).alloc (.cells #[.int .i64 0] 28)).heap.size = w.heap.size + 2) := Lib.hid (by simp)
  have NO : Hid (w.heap.size ∉ p.own ∧ w.heap.size + 1 ∉ p.own) := Lib.hid ⟨fun hx => by have := h.dk.lt _ hx; omega, fun hx => by have := h.dk.lt _ hx; omega⟩
  have HTB := Lib.hid hT
  have HLK := Lib.hid h
  have hlen : (⟨r.toArray⟩ : ByteArray).size = r.length := size_ba r
  have HG := Lib.hid (gone_any M0.out.1)
  rw [hg] at HG
  have c0 := K0.out.cell 0
  simp only [List.getElem?_toArray, List.getElem?_cons_succ, List.getElem?_cons_zero] at c0
  have hd1 : decide ((65536 : Int) < (r.length : Int)) = true := by simp; omega
  have hd1n : decide (65536 < r.length) = true := by simp; omega
  have hld : l = { l with dead := false } := by cases l; simp_all
  rw [hld]
  clear hg h hT hbl hl hld
  go_enter_defers Tryd.func38, Tryd.ntmps38
  go_wp2_with fail
  clear c0
  generalize ((w.alloc (.cells #[.pointer (some ⟨b, 0, none⟩)] 35)).alloc (.cells #[.int .i64 0] 28)) = wa at M0 K0 K1 HSZ HG ⊢
  refine HG.out.mono ?_
  rintro e w1 ⟨rfl, hw1⟩
  have M1 : Hid (LM w b p w1 p S { l with dead := false }) := Lib.hid (by rw [hw1]; exact M0.out.die false)
  have k0 : Bk 35 w1 w.heap.size #[.pointer (some ⟨b, 0, none⟩)] := by rw [hw1]; exact K0.out.oth (by have := HBL.out; simp; omega)
  have k1 : Bk 28 w1 (w.heap.size + 1) #[.int .i64 0] := by rw [hw1]; exact K1.out.oth (by have := HBL.out; simp; omega)
  have hsz : w1.heap.size = w.heap.size + 2 := by rw [hw1]; simpa using HSZ.out
  replace K0 := Lib.hid k0
  replace K1 := Lib.hid k1
  replace HSZ := Lib.hid hsz
  clear hw1 k0 k1 hsz HG M0
  have c0 := K0.out.cell 0
  have c1 := K1.out.cell 0
  have f1 := K1.out.fro 0
  simp only [List.getElem?_toArray, List.getElem?_cons_succ, List.getElem?_cons_zero] at c0 c1
  go_wp2_with fail
  refine ⟨.int .i64 101, by simp [results, Tryd.results38, go_sem, c1], rfl, p, ?_⟩
  exact M1.out.own_set ⟨w.heap.size + 1, 0, none⟩ (by simp) (by have := HBL.out; simp; omega) NO.out.2 _
set_option maxHeartbeats 16000000 in
theorem lap_full {w : World} {b : Nat} {p : Fp} {S : St} {l : Wlg} (h : Lk w b p S l) (hT : Tb w) (r : Bs) (hg : (l.dead || S.gone) = false) (hl : ¬ r.length > 65536) (hf : (r.length : Int) > room S l) :
    Calls Tryd.prog 38 #[.pointer (some ⟨b, 0, none⟩), .string ⟨r.toArray⟩] w fun e w' => e = .returned (.int .i64 102) ∧ ∃ p', LM w b p w' p' S l := by
  have hbl := h.blk.lt
  have HZ := Lib.hid hT.1
  have HBL := Lib.hid hbl
  have M0 : Hid (LM w b p ((w.alloc (.cells #[.pointer (some ⟨b, 0, none⟩)] 35)).alloc (.cells #[.int .i64 0] 28)) p S l) := Lib.hid (LM.refl h (by go_grown))
  have K0 : Hid (Bk 35 ((w.alloc (.cells #[.pointer (some ⟨b, 0, none⟩)] 35)).alloc (.cells #[.int .i64 0] 28)) w.heap.size #[.pointer (some ⟨b, 0, none⟩)]) := Lib.hid (Bk.alloc (Bk.new rfl))
  have K1 : Hid (Bk 28 ((w.alloc (.cells #[.pointer (some ⟨b, 0, none⟩)] 35)).alloc (.cells #[.int .i64 0] 28)) (w.heap.size + 1) #[.int .i64 0]) := Lib.hid (Bk.new (by simp))
  have HSZ : Hid (((w.alloc (.cells #[.pointer (some ⟨b, 0, none⟩)] 35)).alloc (.cells #[.int .i64 0] 28)).heap.size = w.heap.size + 2) := Lib.hid (by simp)
  have NO : Hid (w.heap.size ∉ p.own ∧ w.heap.size + 1 ∉ p.own) := Lib.hid ⟨fun hx => by have := h.dk.lt _ hx; omega, fun hx => by have := h.dk.lt _ hx; omega⟩
  have HTB := Lib.hid hT
  have HLK := Lib.hid h
  have hlen : (⟨r.toArray⟩ : ByteArray).size = r.length := size_ba r
  have HG := Lib.hid (gone_any M0.out.1)
  rw [hg] at HG
  have c0 := K0.out.cell 0
  simp only [List.getElem?_toArray, List.getElem?_cons_succ, List.getElem?_cons_zero] at c0
  have hd1 : decide ((65536 : Int) < (r.length : Int)) = false := by simp; omega
  have hd1n : decide (65536 < r.length) = false := by simp; omega
  have hld : l = { l with dead := false } := by cases l; simp_all
  have hroom : room S { l with dead := false } = room S l := rfl
  have hd2 : decide (room S l < (r.length : Int)) = true := by simp; omega
  generalize hrm : room S l = rm at *
  rw [hld]
  clear hg h hT hbl hl hld hf hrm
  go_enter_defers Tryd.func38, Tryd.ntmps38
  go_wp2_with fail
  clear c0
  generalize ((w.alloc (.cells #[.pointer (some ⟨b, 0, none⟩)] 35)).alloc (.cells #[.int .i64 0] 28)) = wa at M0 K0 K1 HSZ HG ⊢
  refine HG.out.mono ?_
  rintro e w1 ⟨rfl, hw1⟩
  have M1 : Hid (LM w b p w1 p S { l with dead := false }) := Lib.hid (by rw [hw1]; exact M0.out.die false)
  have k0 : Bk 35 w1 w.heap.size #[.pointer (some ⟨b, 0, none⟩)] := by rw [hw1]; exact K0.out.oth (by have := HBL.out; simp; omega)
  have k1 : Bk 28 w1 (w.heap.size + 1) #[.int .i64 0] := by rw [hw1]; exact K1.out.oth (by have := HBL.out; simp; omega)
  have hsz : w1.heap.size = w.heap.size + 2 := by rw [hw1]; simpa using HSZ.out
  replace K0 := Lib.hid k0
  replace K1 := Lib.hid k1
  replace HSZ := Lib.hid hsz
  clear hw1 k0 k1 hsz HG M0
  have c0 := K0.out.cell 0
  have c1 := K1.out.cell 0
  have f1 := K1.out.fro 0
  simp only [List.getElem?_toArray, List.getElem?_cons_succ, List.getElem?_cons_zero] at c0 c1
  go_wp2_with fail
  refine (room_any M1.out.1).mono ?_
  rintro e w2 ⟨rfl, hb2⟩
  replace M1 := Lib.hid (M1.out.then_below hb2)
  replace K0 := Lib.hid (K0.out.below hb2)
  replace K1 := Lib.hid (K1.out.below hb2)
  replace HSZ : Hid (w.heap.size + 2 ≤ w2.heap.size) := Lib.hid (by have := hb2.size; have := HSZ.out; omega)
  clear hb2 c0 c1 f1
  rw [hroom]
  have c0 := K0.out.cell 0
  have c1 := K1.out.cell 0
  have f1 := K1.out.fro 0
  simp only [List.getElem?_toArray, List.getElem?_cons_succ, List.getElem?_cons_zero] at c0 c1
  go_wp2_with fail
  refine ⟨.int .i64 102, by simp [results, Tryd.results38, go_sem, c1], rfl, p, ?_⟩
  exact M1.out.own_set ⟨w.heap.size + 1, 0, none⟩ (by simp) (by have := HBL.out; simp; omega) NO.out.2 _
set_option maxHeartbeats 16000000 in
theorem lap_dies {w : World} {b : Nat} {p : Fp} {S : St} {l : Wlg} (h : Lk w b p S l) (hT : Tb w) (hn : l.n ≤ 4611686018427387904) (r : Bs) (hg : (l.dead || S.gone) = false) (hl : ¬ r.length > 65536) (hf : ¬ (r.length : Int) > room S l) (hc : (S.append l.file (frame r)).1 = 2) :
    Calls Tryd.prog 38 #[.pointer (some ⟨b, 0, none⟩), .string ⟨r.toArray⟩] w fun e w' => e = .returned (.int .i64 2) ∧ ∃ p', LM w b p w' p' (S.append l.file (frame r)).2 l.sink := by
  have hbl := h.blk.lt
  have HZ := Lib.hid hT.1
  have HBL := Lib.hid hbl
  have M0 : Hid (LM w b p ((w.alloc (.cells #[.pointer (some ⟨b, 0, none⟩)] 35)).alloc (.cells #[.int .i64 0] 28)) p S l) := Lib.hid (LM.refl h (by go_grown))
  have K0 : Hid (Bk 35 ((w.alloc (.cells #[.pointer (some ⟨b, 0, none⟩)] 35)).alloc (.cells #[.int .i64 0] 28)) w.heap.size #[.pointer (some ⟨b, 0, none⟩)]) := Lib.hid (Bk.alloc (Bk.new rfl))
  have K1 : Hid (Bk 28 ((w.alloc (.cells #[.pointer (some ⟨b, 0, none⟩)] 35)).alloc (.cells #[.int .i64 0] 28)) (w.heap.size + 1) #[.int .i64 0]) := Lib.hid (Bk.new (by simp))
  have HSZ : Hid (((w.alloc (.cells #[.pointer (some ⟨b, 0, none⟩)] 35)).alloc (.cells #[.int .i64 0] 28)).heap.size = w.heap.size + 2) := Lib.hid (by simp)
  have NO : Hid (w.heap.size ∉ p.own ∧ w.heap.size + 1 ∉ p.own) := Lib.hid ⟨fun hx => by have := h.dk.lt _ hx; omega, fun hx => by have := h.dk.lt _ hx; omega⟩
  have HTB := Lib.hid hT
  have HLK := Lib.hid h
  have hlen : (⟨r.toArray⟩ : ByteArray).size = r.length := size_ba r
  have HG := Lib.hid (gone_any M0.out.1)
  rw [hg] at HG
  have c0 := K0.out.cell 0
  simp only [List.getElem?_toArray, List.getElem?_cons_succ, List.getElem?_cons_zero] at c0
  have hd1 : decide ((65536 : Int) < (r.length : Int)) = false := by simp; omega
  have hd1n : decide (65536 < r.length) = false := by simp; omega
  have hdd : l.dead = false := by simp at hg; exact hg.1
  have hroom : room S { l with dead := false } = room S l := rfl
  have hd2 : decide (room S l < (r.length : Int)) = false := by simp; omega
  have HF := Lib.hid (frame_any r (by omega))
  have hfl := frame_len r
  have HA : Hid (∀ (w1 : World), Dk w1 p S → Calls Tryd.prog 75 #[p.v, .int .i64 (l.file : Int), .string ⟨(frame r).toArray⟩] w1 fun e w' => e = .returned (.int .i64 ((S.append l.file (frame r)).1 : Int)) ∧ ∃ p', Mut w1 p w' p' (S.append l.file (frame r)).2) := Lib.hid fun w1 hd => by
    have := append_any p S l.file ⟨(frame r).toArray⟩ (by rw [size_ba]; omega) w1 hd
    simpa only [List.toList_toArray] using this
  rw [hc] at HA
  generalize hrm : room S l = rm at *
  generalize frame r = fr at *
  generalize (S.append l.file fr).2 = S2 at *
  clear hg h hT hbl hl hf hrm hfl hc hn
  go_enter_defers Tryd.func38, Tryd.ntmps38
  go_wp2_with fail
  clear c0
  generalize ((w.alloc (.cells #[.pointer (some ⟨b, 0, none⟩)] 35)).alloc (.cells #[.int .i64 0] 28)) = wa at M0 K0 K1 HSZ HG ⊢
  refine HG.out.mono ?_
  rintro e w1 ⟨rfl, hw1⟩
  have M1 : Hid (LM w b p w1 p S { l with dead := false }) := Lib.hid (by rw [hw1]; exact M0.out.die false)
  have k0 : Bk 35 w1 w.heap.size #[.pointer (some ⟨b, 0, none⟩)] := by rw [hw1]; exact K0.out.oth (by have := HBL.out; simp; omega)
  have k1 : Bk 28 w1 (w.heap.size + 1) #[.int .i64 0] := by rw [hw1]; exact K1.out.oth (by have := HBL.out; simp; omega)
  have hsz : w1.heap.size = w.heap.size + 2 := by rw [hw1]; simpa using HSZ.out
  replace K0 := Lib.hid k0
  replace K1 := Lib.hid k1
  replace HSZ := Lib.hid hsz
  clear hw1 k0 k1 hsz HG M0
  have c0 := K0.out.cell 0
  have c1 := K1.out.cell 0
  have f1 := K1.out.fro 0
  simp only [List.getElem?_toArray, List.getElem?_cons_succ, List.getElem?_cons_zero] at c0 c1
  go_wp2_with fail
  refine (room_any M1.out.1).mono ?_
  rintro e w2 ⟨rfl, hb2⟩
  replace M1 := Lib.hid (M1.out.then_below hb2)
  replace K0 := Lib.hid (K0.out.below hb2)
  replace K1 := Lib.hid (K1.out.below hb2)
  replace HSZ : Hid (w.heap.size + 2 ≤ w2.heap.size) := Lib.hid (by have := hb2.size; have := HSZ.out; omega)
  clear hb2 c0 c1 f1
  rw [hroom]
  replace M1 : Hid (LM w b p w2 p S l) := Lib.hid (by have := M1.out; rw [← hdd] at this; exact this)
  clear hroom hdd
  have c0 := K0.out.cell 0
  have c1 := K1.out.cell 0
  have f1 := K1.out.fro 0
  simp only [List.getElem?_toArray, List.getElem?_cons_succ, List.getElem?_cons_zero] at c0 c1
  have q0 := cell_regrown c0
  have e0 : w2.cell? ⟨b, 0, none⟩ = some p.v := M1.out.1.blk.cell 0
  have e1 : w2.cell? ⟨b, 1, none⟩ = some (.int .i64 (l.file : Int)) := M1.out.1.blk.cell 1
  have q1 := cell_regrown e0
  have q2 := cell_regrown e1
  have HFR : Hid (∀ d os, Calls Tryd.prog 76 #[.string ⟨r.toArray⟩] (grow (redrawn w2 d) os) fun e w'' => e = .returned (.string ⟨fr.toArray⟩) ∧ ∃ p : Regrown, w'' = grow (redrawn w2 p.d) p.os) := Lib.hid fun d os => Calls.regrown_of (HF.out _ ((M1.out.tb HTB.out HLK.out.zb HLK.out.zo).below (below_regrown w2 d os)))
  go_wp2_with fail
  refine wp_region_below_tail 10 mixed (by kernel_rfl) ?_
  simp only [List.take_succ_cons, List.take_zero, List.drop_succ_cons, List.drop_zero]
  repeat (first | go_big_quiet_step (with_reducible exact HFR.out _ _) | quiet_step (with_reducible exact HFR.out _ _))
  refine wpQuiet_nil ?_
  intro _ hw'
  obtain ⟨⟨dq, osq⟩, hw''⟩ := hw'
  subst hw''
  have hbq := below_regrown w2 dq osq
  replace M1 := Lib.hid (M1.out.then_below hbq)
  replace K0 := Lib.hid (K0.out.below hbq)
  replace K1 := Lib.hid (K1.out.below hbq)
  replace HSZ : Hid (w.heap.size + 2 ≤ (grow (redrawn w2 dq) osq).heap.size) := Lib.hid (by have := hbq.size; have := HSZ.out; omega)
  clear hbq c0 c1 f1 q0 q1 q2 e0 e1 HFR HF
  generalize grow (redrawn w2 dq) osq = w3 at *
  go_wp2_with fail
  refine (HA.out w3 M1.out.1.dk).mono ?_
  rintro e w4 ⟨rfl, p4, hm⟩
  have NP : Hid (w.heap.size ∉ p4.own ∧ w.heap.size + 1 ∉ p4.own) := Lib.hid ⟨fun hx => (hm.2.2.2 _ hx).elim NO.out.1 (by have := HSZ.out; omega), fun hx => (hm.2.2.2 _ hx).elim NO.out.2 (by have := HSZ.out; omega)⟩
  replace K0 := Lib.hid (K0.out.only hm.2.2.1 NO.out.1)
  replace K1 := Lib.hid (K1.out.only hm.2.2.1 NO.out.2)
  have M4 : Hid (LM w b p w4 p4 S2 l) := Lib.hid (M1.out.mut HZ.out hm (by have := HBL.out; have := HSZ.out; omega))
  clear hm M1 HA HSZ NO
  go_wp2_with fail
  refine (must_no 2 (by decide) _).mono ?_
  rintro e w5 ⟨rfl, rfl⟩
  unfold gaveUp
  have c0 := K0.out.cell 0
  have c1 := K1.out.cell 0
  have f1 := K1.out.fro 0
  simp only [List.getElem?_toArray, List.getElem?_cons_succ, List.getElem?_cons_zero] at c0 c1
  have d4 : w4.cell? ⟨b, 4, none⟩ = some (.bool l.dead) := M4.out.1.blk.cell 4
  have g4 := M4.out.1.blk.fro 4
  go_wp2_with fail
  refine leaves_cons (f := 72) (args := #[.pointer (some ⟨w.heap.size, 0, none⟩), .pointer (some ⟨w.heap.size + 1, 0, none⟩)]) (by simp) (by simp [go_sem]) ?_
  refine (catch72_panicking w.heap.size (w.heap.size + 1) b 2 [] w4 _ _ c0 c1 d4 f1 g4 (by have := HBL.out; omega)).mono ?_
  rintro e u' w5 ⟨rfl, rfl, rfl⟩
  have hne : w.heap.size + 1 ≠ b := by have := HBL.out; omega
  refine ⟨.int .i64 2, by simp [results, Tryd.results38, go_sem, c1, hne], rfl, p4, ?_⟩
  exact ((M4.out.die true).own_set ⟨w.heap.size + 1, 0, none⟩ (by simp) (by simp; omega) NP.out.2 _).drew
set_option maxHeartbeats 16000000 in
theorem lap_ok {w : World} {b : Nat} {p : Fp} {S : St} {l : Wlg} (h : Lk w b p S l) (hT : Tb w) (hn : l.n ≤ 4611686018427387904) (r : Bs) (hg : (l.dead || S.gone) = false) (hl : ¬ r.length > 65536) (hf : ¬ (r.length : Int) > room S l) (hc : (S.append l.file (frame r)).1 = 0) :
    Calls Tryd.prog 38 #[.pointer (some ⟨b, 0, none⟩), .string ⟨r.toArray⟩] w fun e w' => e = .returned (.int .i64 0) ∧ ∃ p', LM w b p w' p' (S.append l.file (frame r)).2 { l with n := l.n + 1 } := by
  have hbl := h.blk.lt
  have HZ := Lib.hid hT.1
  have HBL := Lib.hid hbl
  have M0 : Hid (LM w b p ((w.alloc (.cells #[.pointer (some ⟨b, 0, none⟩)] 35)).alloc (.cells #[.int .i64 0] 28)) p S l) := Lib.hid (LM.refl h (by go_grown))
  have K0 : Hid (Bk 35 ((w.alloc (.cells #[.pointer (some ⟨b, 0, none⟩)] 35)).alloc (.cells #[.int .i64 0] 28)) w.heap.size #[.pointer (some ⟨b, 0, none⟩)]) := Lib.hid (Bk.alloc (Bk.new rfl))
  have K1 : Hid (Bk 28 ((w.alloc (.cells #[.pointer (some ⟨b, 0, none⟩)] 35)).alloc (.cells #[.int .i64 0] 28)) (w.heap.size + 1) #[.int .i64 0]) := Lib.hid (Bk.new (by simp))
  have HSZ : Hid (((w.alloc (.cells #[.pointer (some ⟨b, 0, none⟩)] 35)).alloc (.cells #[.int .i64 0] 28)).heap.size = w.heap.size + 2) := Lib.hid (by simp)
  have NO : Hid (w.heap.size ∉ p.own ∧ w.heap.size + 1 ∉ p.own) := Lib.hid ⟨fun hx => by have := h.dk.lt _ hx; omega, fun hx => by have := h.dk.lt _ hx; omega⟩
  have HTB := Lib.hid hT
  have HLK := Lib.hid h
  have hlen : (⟨r.toArray⟩ : ByteArray).size = r.length := size_ba r
  have HG := Lib.hid (gone_any M0.out.1)
  rw [hg] at HG
  have c0 := K0.out.cell 0
  simp only [List.getElem?_toArray, List.getElem?_cons_succ, List.getElem?_cons_zero] at c0
  have hd1 : decide ((65536 : Int) < (r.length : Int)) = false := by simp; omega
  have hd1n : decide (65536 < r.length) = false := by simp; omega
  have hdd : l.dead = false := by simp at hg; exact hg.1
  have hroom : room S { l with dead := false } = room S l := rfl
  have hd2 : decide (room S l < (r.length : Int)) = false := by simp; omega
  have HF := Lib.hid (frame_any r (by omega))
  have hfl := frame_len r
  have HA : Hid (∀ (w1 : World), Dk w1 p S → Calls Tryd.prog 75 #[p.v, .int .i64 (l.file : Int), .string ⟨(frame r).toArray⟩] w1 fun e w' => e = .returned (.int .i64 ((S.append l.file (frame r)).1 : Int)) ∧ ∃ p', Mut w1 p w' p' (S.append l.file (frame r)).2) := Lib.hid fun w1 hd => by
    have := append_any p S l.file ⟨(frame r).toArray⟩ (by rw [size_ba]; omega) w1 hd
    simpa only [List.toList_toArray] using this
  rw [hc] at HA
  generalize hrm : room S l = rm at *
  generalize frame r = fr at *
  generalize (S.append l.file fr).2 = S2 at *
  have hn1 : (l.n : Int) ≤ 4611686018427387904 := by omega
  have hn0 : (0 : Int) ≤ (l.n : Int) := by omega
  clear hg h hT hbl hl hf hrm hfl hc hn
  go_enter_defers Tryd.func38, Tryd.ntmps38
  go_wp2_with fail
  clear c0
  generalize ((w.alloc (.cells #[.pointer (some ⟨b, 0, none⟩)] 35)).alloc (.cells #[.int .i64 0] 28)) = wa at M0 K0 K1 HSZ HG ⊢
  refine HG.out.mono ?_
  rintro e w1 ⟨rfl, hw1⟩
  have M1 : Hid (LM w b p w1 p S { l with dead := false }) := Lib.hid (by rw [hw1]; exact M0.out.die false)
  have k0 : Bk 35 w1 w.heap.size #[.pointer (some ⟨b, 0, none⟩)] := by rw [hw1]; exact K0.out.oth (by have := HBL.out; simp; omega)
  have k1 : Bk 28 w1 (w.heap.size + 1) #[.int .i64 0] := by rw [hw1]; exact K1.out.oth (by have := HBL.out; simp; omega)
  have hsz : w1.heap.size = w.heap.size + 2 := by rw [hw1]; simpa using HSZ.out
  replace K0 := Lib.hid k0
  replace K1 := Lib.hid k1
  replace HSZ := Lib.hid hsz
  clear hw1 k0 k1 hsz HG M0
  have c0 := K0.out.cell 0
  have c1 := K1.out.cell 0
  have f1 := K1.out.fro 0
  simp only [List.getElem?_toArray, List.getElem?_cons_succ, List.getElem?_cons_zero] at c0 c1
  go_wp2_with fail
  refine (room_any M1.out.1).mono ?_
  rintro e w2 ⟨rfl, hb2⟩
  replace M1 := Lib.hid (M1.out.then_below hb2)
  replace K0 := Lib.hid (K0.out.below hb2)
  replace K1 := Lib.hid (K1.out.below hb2)
  replace HSZ : Hid (w.heap.size + 2 ≤ w2.heap.size) := Lib.hid (by have := hb2.size; have := HSZ.out; omega)
  clear hb2 c0 c1 f1
  rw [hroom]
  replace M1 : Hid (LM w b p w2 p S l) := Lib.hid (by have := M1.out; rw [← hdd] at this; exact this)
  clear hroom hdd
  have c0 := K0.out.cell 0
  have c1 := K1.out.cell 0
  have f1 := K1.out.fro 0
  simp only [List.getElem?_toArray, List.getElem?_cons_succ, List.getElem?_cons_zero] at c0 c1
  have q0 := cell_regrown c0
  have e0 : w2.cell? ⟨b, 0, none⟩ = some p.v := M1.out.1.blk.cell 0
  have e1 : w2.cell? ⟨b, 1, none⟩ = some (.int .i64 (l.file : Int)) := M1.out.1.blk.cell 1
  have q1 := cell_regrown e0
  have q2 := cell_regrown e1
  have HFR : Hid (∀ d os, Calls Tryd.prog 76 #[.string ⟨r.toArray⟩] (grow (redrawn w2 d) os) fun e w'' => e = .returned (.string ⟨fr.toArray⟩) ∧ ∃ p : Regrown, w'' = grow (redrawn w2 p.d) p.os) := Lib.hid fun d os => Calls.regrown_of (HF.out _ ((M1.out.tb HTB.out HLK.out.zb HLK.out.zo).below (below_regrown w2 d os)))
  go_wp2_with fail
  refine wp_region_below_tail 10 mixed (by kernel_rfl) ?_
  simp only [List.take_succ_cons, List.take_zero, List.drop_succ_cons, List.drop_zero]
  repeat (first | go_big_quiet_step (with_reducible exact HFR.out _ _) | quiet_step (with_reducible exact HFR.out _ _))
  refine wpQuiet_nil ?_
  intro _ hw'
  obtain ⟨⟨dq, osq⟩, hw''⟩ := hw'
  subst hw''
  have hbq := below_regrown w2 dq osq
  replace M1 := Lib.hid (M1.out.then_below hbq)
  replace K0 := Lib.hid (K0.out.below hbq)
  replace K1 := Lib.hid (K1.out.below hbq)
  replace HSZ : Hid (w.heap.size + 2 ≤ (grow (redrawn w2 dq) osq).heap.size) := Lib.hid (by have := hbq.size; have := HSZ.out; omega)
  clear hbq c0 c1 f1 q0 q1 q2 e0 e1 HFR HF
  generalize grow (redrawn w2 dq) osq = w3 at *
  go_wp2_with fail
  refine (HA.out w3 M1.out.1.dk).mono ?_
  rintro e w4 ⟨rfl, p4, hm⟩
  have NP : Hid (w.heap.size ∉ p4.own ∧ w.heap.size + 1 ∉ p4.own) := Lib.hid ⟨fun hx => (hm.2.2.2 _ hx).elim NO.out.1 (by have := HSZ.out; omega), fun hx => (hm.2.2.2 _ hx).elim NO.out.2 (by have := HSZ.out; omega)⟩
  replace K0 := Lib.hid (K0.out.only hm.2.2.1 NO.out.1)
  replace K1 := Lib.hid (K1.out.only hm.2.2.1 NO.out.2)
  have M4 : Hid (LM w b p w4 p4 S2 l) := Lib.hid (M1.out.mut HZ.out hm (by have := HBL.out; have := HSZ.out; omega))
  clear hm M1 HA HSZ NO
  go_wp2_with fail
  refine (must_yes _).mono ?_
  rintro e w5 ⟨rfl, rfl⟩
  have c0 := K0.out.cell 0
  have c1 := K1.out.cell 0
  have f1 := K1.out.fro 0
  simp only [List.getElem?_toArray, List.getElem?_cons_succ, List.getElem?_cons_zero] at c0 c1
  have d3 : w4.cell? ⟨b, 3, none⟩ = some (.int .i64 (l.n : Int)) := M4.out.1.blk.cell 3
  have g3 := M4.out.1.blk.fro 3
  have hne : w.heap.size + 1 ≠ b := by have := HBL.out; omega
  have hne0 : w.heap.size ≠ b := by have := HBL.out; omega
  go_wp2_with fail
  rw [show ((l.n : Int) + 1) = ((l.n + 1 : Nat) : Int) by omega]
  have M5 := Lib.hid ((M4.out.num (l.n + 1)).own_set ⟨w.heap.size + 1, 0, none⟩ (by simp) (by simp; omega) NP.out.2 (.int .i64 0))
  have k0 := Lib.hid (Bk.oth (a := ⟨w.heap.size + 1, 0, none⟩) (v := .int .i64 0) (by simp) (Bk.oth (a := ⟨b, 3, none⟩) (v := .int .i64 ((l.n + 1 : Nat) : Int)) (by simp; omega) K0.out))
  have k1 := Lib.hid (Bk.same (i := 0) (v := .int .i64 0) (Bk.oth (a := ⟨b, 3, none⟩) (v := .int .i64 ((l.n + 1 : Nat) : Int)) (by simp; omega) K1.out))
  clear c0 c1 f1 d3 g3 M4 K0 K1
  generalize (w4.setCell ⟨b, 3, none⟩ (.int .i64 ((l.n + 1 : Nat) : Int))).setCell ⟨w.heap.size + 1, 0, none⟩ (.int .i64 0) = w5 at M5 k0 k1 ⊢
  have c0 : w5.cell? ⟨w.heap.size, 0, none⟩ = some (.pointer (some ⟨b, 0, none⟩)) := k0.out.cell 0
  have c1 : w5.cell? ⟨w.heap.size + 1, 0, none⟩ = some (.int .i64 0) := k1.out.cell 0
  have f1 := k1.out.fro 0
  refine leaves_cons (f := 72) (args := #[.pointer (some ⟨w.heap.size, 0, none⟩), .pointer (some ⟨w.heap.size + 1, 0, none⟩)]) (by simp) (by simp [go_sem]) ?_
  refine (catch72_idle w.heap.size (w.heap.size + 1) _ w5 _ c0 c1 f1).mono ?_
  rintro e u' w6 ⟨rfl, rfl, rfl⟩
  refine ⟨.int .i64 0, by simp [results, Tryd.results38, go_sem, c1], rfl, p4, ?_⟩
  exact (M5.out.own_set ⟨w.heap.size + 1, 0, none⟩ (by simp) (by simp; omega) NP.out.2 _).drew
def LRes (w : World) (b : Nat) (p : Fp) (r : Nat × St × Wlg) (e : Ending) (w' : World) : Prop := e = .returned (.int .i64 (r.1 : Int)) ∧ ∃ p', LM w b p w' p' r.2.1 r.2.2
theorem lappend_any {w : World} {b : Nat} {p : Fp} {S : St} {l : Wlg} (h : Lk w b p S l) (hT : Tb w) (hn : l.n ≤ 4611686018427387904) (r : Bs) :
    Calls Tryd.prog 38 #[.pointer (some ⟨b, 0, none⟩), .string ⟨r.toArray⟩] w fun e w' => LRes w b p (lap S l r) e w' := by
  unfold lap
  by_cases hg : (l.dead || S.gone) = true
  · rw [if_pos (by simpa using hg)]; exact lap_gone h hT r hg
  · have hg' : (l.dead || S.gone) = false := by simpa using hg
    rw [if_neg (by simpa using hg')]
    by_cases hl : r.length > 65536
    · rw [if_pos hl]; exact lap_long h hT r hg' hl
    · rw [if_neg hl]
      by_cases hf : (r.length : Int) > room S l
      · rw [if_pos hf]; exact lap_full h hT r hg' hl hf
      · rw [if_neg hf]
        rcases append_code S l.file (frame r) h.ff (by rw [frame_len]; unfold room at hf; have := file_le h.dk.wf l.file; omega) with hc | hc
        · rw [if_pos hc]; exact lap_ok h hT hn r hg' hl hf hc
        · rw [if_neg (by omega)]; exact lap_dies h hT hn r hg' hl hf hc
end Go.Proofs.YtmoihgniglomiaaDoor
