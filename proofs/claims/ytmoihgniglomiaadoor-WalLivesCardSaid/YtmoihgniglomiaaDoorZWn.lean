/- What a log's call answers that gave up: the deferred functions. Condition: the log's cells. -/
import Derived.Recover
import Derived.Defers
import Derived.Test.YtmoihgniglomiaaDoorZWk
import Derived.StillTail
import Derived.StillTailTactics
import Derived.Lib.QuietBelow
import Derived.BigQuiet
set_option linter.unusedVariables false
set_option linter.unusedSimpArgs false
set_option maxRecDepth 100000
namespace Go.Proofs.YtmoihgniglomiaaDoor
open Go.RowKit Go.Sort

theorem wpS_region_draw {P : Program} {Q : Exit → Act → List Frame → World → Prop} {a : Act} {cs : List Frame} {w : World} {id : Nat} {ops : Array Oper}
    (h : ∀ t, wpOpsS P ops Q (Region.schedule (P.follows .mixedOrders) ops t) a cs w.drew) : (Code.region id ops true).wpS P Q a cs w :=
  fun b k hb hr => let ⟨e, a', cs', w', q, r⟩ := wp_opsS _ a cs _ (h _) b k hb hr; ⟨e, a', cs', w', q, .of_steps (.one step_region_draw) r⟩
/-- the two orders of four operations of which the first two are free -/
theorem sched2 (ops : Array Oper) (h4 : ops.size = 4) (r0 : Region.ready .any ops #[false, false, false, false] = [0, 1]) (r1 : Region.ready .any ops #[true, false, false, false] = [1]) (r2 : Region.ready .any ops #[false, true, false, false] = [0]) (r3 : Region.ready .any ops #[true, true, false, false] = [2]) (r4 : Region.ready .any ops #[true, true, true, false] = [3]) (t : Nat) :
    Region.schedule (Tryd.prog.follows .mixedOrders) ops t = [0, 1, 2, 3] ∨ Region.schedule (Tryd.prog.follows .mixedOrders) ops t = [1, 0, 2, 3] := by
  have hm : Tryd.prog.follows .mixedOrders = true := mixed
  have go1 : ∀ fuel t listed acc, Region.linearise.go .any ops (fuel + 1) t listed acc = match (Region.ready .any ops listed)[t % (Region.ready .any ops listed).length]? with
      | some i => Region.linearise.go .any ops fuel (t / (Region.ready .any ops listed).length) (listed.setIfInBounds i true) (i :: acc)
      | none => acc.reverse := fun _ _ _ _ => rfl
  unfold Region.schedule
  rw [hm]
  simp only [Bool.true_or, if_true]
  unfold Region.linearise
  rw [h4]
  rw [show Array.replicate 4 false = #[false, false, false, false] from rfl, go1, r0]
  rcases Nat.mod_two_eq_zero_or_one t with h | h
  · left
    simp only [List.length_cons, List.length_nil, Nat.zero_add, Nat.reduceAdd, h, List.getElem?_cons_zero]
    rw [show (#[false, false, false, false] : Array Bool).setIfInBounds 0 true = #[true, false, false, false] from rfl, go1, r1]
    simp only [List.length_cons, List.length_nil, Nat.zero_add, Nat.mod_one, List.getElem?_cons_zero]
    rw [show (#[true, false, false, false] : Array Bool).setIfInBounds 1 true = #[true, true, false, false] from rfl, go1, r3]
    simp only [List.length_cons, List.length_nil, Nat.zero_add, Nat.mod_one, List.getElem?_cons_zero]
    rw [show (#[true, true, false, false] : Array Bool).setIfInBounds 2 true = #[true, true, true, false] from rfl, go1, r4]
    simp only [List.length_cons, List.length_nil, Nat.zero_add, Nat.mod_one, List.getElem?_cons_zero]
    rfl
  · right
    simp only [List.length_cons, List.length_nil, Nat.zero_add, Nat.reduceAdd, h, List.getElem?_cons_zero, List.getElem?_cons_succ]
    rw [show (#[false, false, false, false] : Array Bool).setIfInBounds 1 true = #[false, true, false, false] from rfl, go1, r2]
    simp only [List.length_cons, List.length_nil, Nat.zero_add, Nat.mod_one, List.getElem?_cons_zero]
    rw [show (#[false, true, false, false] : Array Bool).setIfInBounds 0 true = #[true, true, false, false] from rfl, go1, r3]
    simp only [List.length_cons, List.length_nil, Nat.zero_add, Nat.mod_one, List.getElem?_cons_zero]
    rw [show (#[true, true, false, false] : Array Bool).setIfInBounds 2 true = #[true, true, true, false] from rfl, go1, r4]
    simp only [List.length_cons, List.length_nil, Nat.zero_add, Nat.mod_one, List.getElem?_cons_zero]
    rfl
theorem assert_errno (n : Int) (w : World) : (Instr.typeAssert (.iface 28 (.int .i64 n)) 20 28 false).run Tryd.prog w = .ok (.int .i64 n) w := by kernel_rfl
set_option maxHeartbeats 4000000 in
theorem outcome_nil (v : Value) (w : World) : Calls Tryd.prog 73 #[v, .nilIface] w fun e w' => e = .returned (.int .i64 0) ∧ w = w' := by
  go_enter Tryd.func73, Tryd.ntmps73
  go_wp2_with fail
  go_ret
  exact ⟨rfl, rfl⟩
set_option maxHeartbeats 4000000 in
theorem outcome_err (b : Nat) (n : Int) (x : Value) (w : World) (h : w.cell? ⟨b, 4, none⟩ = some x) (hf : w.frozen? ⟨b, 4, none⟩ = false) : Calls Tryd.prog 73 #[.pointer (some ⟨b, 0, none⟩), .iface 28 (.int .i64 n)] w fun e w' => e = .returned (.int .i64 n) ∧ w' = w.setCell ⟨b, 4, none⟩ (.bool true) := by
  have hta := assert_errno n
  go_enter Tryd.func73, Tryd.ntmps73
  go_wp2_with fail
  go_ret
  exact ⟨rfl, rfl⟩
set_option maxHeartbeats 4000000 in
theorem catch72_panicking (p q b : Nat) (n : Int) (older : List PanicEntry) (w : World) (x y : Value) (h0 : w.cell? ⟨p, 0, none⟩ = some (.pointer (some ⟨b, 0, none⟩))) (h1 : w.cell? ⟨q, 0, none⟩ = some y) (hb : w.cell? ⟨b, 4, none⟩ = some x) (f1 : w.frozen? ⟨q, 0, none⟩ = false) (fb : w.frozen? ⟨b, 4, none⟩ = false) (hqb : q ≠ b) :
    CallsD Tryd.prog 72 #[.pointer (some ⟨p, 0, none⟩), .pointer (some ⟨q, 0, none⟩)] (.panicking ({ v := .iface 28 (.int .i64 n), recovered := false } :: older)) w fun e u' w' =>
      e = .returned (.tuple #[]) ∧ u' = .panicking ({ v := .iface 28 (.int .i64 n), recovered := true } :: older) ∧ w' = ((w.setCell ⟨b, 4, none⟩ (.bool true)).setCell ⟨q, 0, none⟩ (.int .i64 n)).drew := by
  refine callsD_of_wpS Tryd.func72 rfl fun c₀ cs hu => ?_
  refine wpS_region_draw fun t => ?_
  rcases sched2 _ (by kernel_rfl) (by kernel_rfl) (by kernel_rfl) (by kernel_rfl) (by kernel_rfl) (by kernel_rfl) t with h | h <;> rw [h]
  all_goals
    simp [wpOpsS, go_sem, recoverD, hu, Tryd.ntmps72, Exit.thenS, h0]
    refine (outcome_err b n x w.drew hb fb).mono ?_
    rintro e w1 ⟨rfl, rfl⟩
    simp [go_sem, h1, f1, hqb]
    clear h0 h1 hb f1 fb hqb h
    generalize World.drew _ = W'
    cases c₀
    simp_all [bodyPostS, results, Tryd.results72, go_sem]
set_option maxHeartbeats 4000000 in
theorem catch72_idle (p q : Nat) (v : Value) (w : World) (y : Value) (h0 : w.cell? ⟨p, 0, none⟩ = some v) (h1 : w.cell? ⟨q, 0, none⟩ = some y) (f1 : w.frozen? ⟨q, 0, none⟩ = false) :
    CallsD Tryd.prog 72 #[.pointer (some ⟨p, 0, none⟩), .pointer (some ⟨q, 0, none⟩)] .returning w fun e u' w' =>
      e = .returned (.tuple #[]) ∧ u' = .returning ∧ w' = (w.setCell ⟨q, 0, none⟩ (.int .i64 0)).drew := by
  refine callsD_of_wpS Tryd.func72 rfl fun c₀ cs hu => ?_
  refine wpS_region_draw fun t => ?_
  rcases sched2 _ (by kernel_rfl) (by kernel_rfl) (by kernel_rfl) (by kernel_rfl) (by kernel_rfl) (by kernel_rfl) t with h | h <;> rw [h]
  all_goals
    simp [wpOpsS, go_sem, recoverD, hu, Tryd.ntmps72, Exit.thenS, h0]
    refine (outcome_nil v w.drew).mono ?_
    rintro e w1 ⟨rfl, rfl⟩
    simp [go_sem, h1, f1]
    clear h0 h1 f1 h
    generalize World.drew _ = W'
    cases c₀
    simp_all [bodyPostS, results, Tryd.results72, go_sem]
set_option maxHeartbeats 4000000 in
theorem catch77_panicking (p q b : Nat) (n : Int) (older : List PanicEntry) (w : World) (x y : Value) (h0 : w.cell? ⟨p, 0, none⟩ = some (.pointer (some ⟨b, 0, none⟩))) (h1 : w.cell? ⟨q, 0, none⟩ = some y) (hb : w.cell? ⟨b, 4, none⟩ = some x) (f1 : w.frozen? ⟨q, 0, none⟩ = false) (fb : w.frozen? ⟨b, 4, none⟩ = false) (hqb : q ≠ b) :
    CallsD Tryd.prog 77 #[.pointer (some ⟨p, 0, none⟩), .pointer (some ⟨q, 0, none⟩)] (.panicking ({ v := .iface 28 (.int .i64 n), recovered := false } :: older)) w fun e u' w' =>
      e = .returned (.tuple #[]) ∧ u' = .panicking ({ v := .iface 28 (.int .i64 n), recovered := true } :: older) ∧ w' = ((w.setCell ⟨b, 4, none⟩ (.bool true)).setCell ⟨q, 0, none⟩ (.int .i64 n)).drew := by
  refine callsD_of_wpS Tryd.func77 rfl fun c₀ cs hu => ?_
  refine wpS_region_draw fun t => ?_
  rcases sched2 _ (by kernel_rfl) (by kernel_rfl) (by kernel_rfl) (by kernel_rfl) (by kernel_rfl) (by kernel_rfl) t with h | h <;> rw [h]
  all_goals
    simp [wpOpsS, go_sem, recoverD, hu, Tryd.ntmps77, Exit.thenS, h0]
    refine (outcome_err b n x w.drew hb fb).mono ?_
    rintro e w1 ⟨rfl, rfl⟩
    simp [go_sem, h1, f1, hqb]
    clear h0 h1 hb f1 fb hqb h
    generalize World.drew _ = W'
    cases c₀
    simp_all [bodyPostS, results, Tryd.results77, go_sem]
set_option maxHeartbeats 4000000 in
theorem catch77_idle (p q : Nat) (v : Value) (w : World) (y : Value) (h0 : w.cell? ⟨p, 0, none⟩ = some v) (h1 : w.cell? ⟨q, 0, none⟩ = some y) (f1 : w.frozen? ⟨q, 0, none⟩ = false) :
    CallsD Tryd.prog 77 #[.pointer (some ⟨p, 0, none⟩), .pointer (some ⟨q, 0, none⟩)] .returning w fun e u' w' =>
      e = .returned (.tuple #[]) ∧ u' = .returning ∧ w' = (w.setCell ⟨q, 0, none⟩ (.int .i64 0)).drew := by
  refine callsD_of_wpS Tryd.func77 rfl fun c₀ cs hu => ?_
  refine wpS_region_draw fun t => ?_
  rcases sched2 _ (by kernel_rfl) (by kernel_rfl) (by kernel_rfl) (by kernel_rfl) (by kernel_rfl) (by kernel_rfl) t with h | h <;> rw [h]
  all_goals
    simp [wpOpsS, go_sem, recoverD, hu, Tryd.ntmps77, Exit.thenS, h0]
    refine (outcome_nil v w.drew).mono ?_
    rintro e w1 ⟨rfl, rfl⟩
    simp [go_sem, h1, f1]
    clear h0 h1 f1 h
    generalize World.drew _ = W'
    cases c₀
    simp_all [bodyPostS, results, Tryd.results77, go_sem]
set_option maxHeartbeats 4000000 in
theorem catch79_panicking (p q b : Nat) (n : Int) (older : List PanicEntry) (w : World) (x y : Value) (h0 : w.cell? ⟨p, 0, none⟩ = some (.pointer (some ⟨b, 0, none⟩))) (h1 : w.cell? ⟨q, 0, none⟩ = some y) (hb : w.cell? ⟨b, 4, none⟩ = some x) (f1 : w.frozen? ⟨q, 0, none⟩ = false) (fb : w.frozen? ⟨b, 4, none⟩ = false) (hqb : q ≠ b) :
    CallsD Tryd.prog 79 #[.pointer (some ⟨p, 0, none⟩), .pointer (some ⟨q, 0, none⟩)] (.panicking ({ v := .iface 28 (.int .i64 n), recovered := false } :: older)) w fun e u' w' =>
      e = .returned (.tuple #[]) ∧ u' = .panicking ({ v := .iface 28 (.int .i64 n), recovered := true } :: older) ∧ w' = ((w.setCell ⟨b, 4, none⟩ (.bool true)).setCell ⟨q, 0, none⟩ (.int .i64 n)).drew := by
  refine callsD_of_wpS Tryd.func79 rfl fun c₀ cs hu => ?_
  refine wpS_region_draw fun t => ?_
  rcases sched2 _ (by kernel_rfl) (by kernel_rfl) (by kernel_rfl) (by kernel_rfl) (by kernel_rfl) (by kernel_rfl) t with h | h <;> rw [h]
  all_goals
    simp [wpOpsS, go_sem, recoverD, hu, Tryd.ntmps79, Exit.thenS, h0]
    refine (outcome_err b n x w.drew hb fb).mono ?_
    rintro e w1 ⟨rfl, rfl⟩
    simp [go_sem, h1, f1, hqb]
    clear h0 h1 hb f1 fb hqb h
    generalize World.drew _ = W'
    cases c₀
    simp_all [bodyPostS, results, Tryd.results79, go_sem]
set_option maxHeartbeats 4000000 in
theorem catch79_idle (p q : Nat) (v : Value) (w : World) (y : Value) (h0 : w.cell? ⟨p, 0, none⟩ = some v) (h1 : w.cell? ⟨q, 0, none⟩ = some y) (f1 : w.frozen? ⟨q, 0, none⟩ = false) :
    CallsD Tryd.prog 79 #[.pointer (some ⟨p, 0, none⟩), .pointer (some ⟨q, 0, none⟩)] .returning w fun e u' w' =>
      e = .returned (.tuple #[]) ∧ u' = .returning ∧ w' = (w.setCell ⟨q, 0, none⟩ (.int .i64 0)).drew := by
  refine callsD_of_wpS Tryd.func79 rfl fun c₀ cs hu => ?_
  refine wpS_region_draw fun t => ?_
  rcases sched2 _ (by kernel_rfl) (by kernel_rfl) (by kernel_rfl) (by kernel_rfl) (by kernel_rfl) (by kernel_rfl) t with h | h <;> rw [h]
  all_goals
    simp [wpOpsS, go_sem, recoverD, hu, Tryd.ntmps79, Exit.thenS, h0]
    refine (outcome_nil v w.drew).mono ?_
    rintro e w1 ⟨rfl, rfl⟩
    simp [go_sem, h1, f1]
    clear h0 h1 f1 h
    generalize World.drew _ = W'
    cases c₀
    simp_all [bodyPostS, results, Tryd.results79, go_sem]
set_option maxHeartbeats 4000000 in
theorem catch43_panicking (p q : Nat) (n : Int) (older : List PanicEntry) (w : World) (xp xq : Value) (hp : w.cell? ⟨p, 0, none⟩ = some xp) (hq : w.cell? ⟨q, 0, none⟩ = some xq) (fp : w.frozen? ⟨p, 0, none⟩ = false) (fq : w.frozen? ⟨q, 0, none⟩ = false) (npq : p ≠ q) :
    CallsD Tryd.prog 43 #[.pointer (some ⟨p, 0, none⟩), .pointer (some ⟨q, 0, none⟩)] (.panicking ({ v := .iface 28 (.int .i64 n), recovered := false } :: older)) w fun e u' w' =>
      e = .returned (.tuple #[]) ∧ u' = .panicking ({ v := .iface 28 (.int .i64 n), recovered := true } :: older) ∧ w' = ((w.setCell ⟨p, 0, none⟩ (.pointer none)).setCell ⟨q, 0, none⟩ (.int .i64 n)).drew := by
  have hta := assert_errno n
  refine callsD_of_wpS Tryd.func43 rfl fun c₀ cs hu => ?_
  apply wpS_seq
  apply wpS_region
  simp [wpOpsS, go_sem, recoverD, hu, Tryd.ntmps43, Exit.thenS]
  apply wpS_seq
  apply wpS_region
  simp [wpOpsS, go_sem, Exit.thenS]
  refine wpS_cond (t := true) (by simp [Act.eval, Array.replicate]) ?_
  simp only [if_true]
  refine wpS_of_wp ?_
  go_region
  all_goals
    clear hp hq fp fq npq hta
    generalize World.drew _ = W'
    cases c₀
    simp_all [bodyPostS, results, Tryd.results43, go_sem]
theorem catch43_idle (vp vq : Value) (w : World) :
    CallsD Tryd.prog 43 #[vp, vq] .returning w fun e u' w' => e = .returned (.tuple #[]) ∧ u' = .returning ∧ w' = w := by
  refine callsD_of_wpS Tryd.func43 rfl fun c₀ cs hu => ?_
  apply wpS_seq
  apply wpS_region
  simp [wpOpsS, go_sem, recoverD, hu, Tryd.ntmps43, Exit.thenS]
  apply wpS_seq
  apply wpS_region
  simp [wpOpsS, go_sem, Exit.thenS]
  refine wpS_cond (t := false) (by simp [Act.eval, Array.replicate]) ?_
  simp only [Bool.false_eq_true, if_false]
  refine wpS_of_wp (wp_skip ?_)
  cases c₀
  simp_all [bodyPostS, results, Tryd.results43]
set_option maxHeartbeats 4000000 in
theorem catch67_panicking (p q r t : Nat) (n : Int) (older : List PanicEntry) (w : World) (xp xq xr xt : Value) (hp : w.cell? ⟨p, 0, none⟩ = some xp) (hq : w.cell? ⟨q, 0, none⟩ = some xq) (hr : w.cell? ⟨r, 0, none⟩ = some xr) (ht : w.cell? ⟨t, 0, none⟩ = some xt) (fp : w.frozen? ⟨p, 0, none⟩ = false) (fq : w.frozen? ⟨q, 0, none⟩ = false) (fr : w.frozen? ⟨r, 0, none⟩ = false) (ft : w.frozen? ⟨t, 0, none⟩ = false) (npq : p ≠ q) (npr : p ≠ r) (npt : p ≠ t) (nqr : q ≠ r) (nqt : q ≠ t) (nrt : r ≠ t) :
    CallsD Tryd.prog 67 #[.pointer (some ⟨p, 0, none⟩), .pointer (some ⟨q, 0, none⟩), .pointer (some ⟨r, 0, none⟩), .pointer (some ⟨t, 0, none⟩)] (.panicking ({ v := .iface 28 (.int .i64 n), recovered := false } :: older)) w fun e u' w' =>
      e = .returned (.tuple #[]) ∧ u' = .panicking ({ v := .iface 28 (.int .i64 n), recovered := true } :: older) ∧ w' = ((((w.setCell ⟨p, 0, none⟩ (.pointer none)).setCell ⟨q, 0, none⟩ (.string ⟨#[]⟩)).setCell ⟨r, 0, none⟩ (.slice none 0 0)).setCell ⟨t, 0, none⟩ (.int .i64 n)).drew := by
  have hta := assert_errno n
  refine callsD_of_wpS Tryd.func67 rfl fun c₀ cs hu => ?_
  apply wpS_seq
  apply wpS_region
  simp [wpOpsS, go_sem, recoverD, hu, Tryd.ntmps67, Exit.thenS]
  apply wpS_seq
  apply wpS_region
  simp [wpOpsS, go_sem, Exit.thenS]
  refine wpS_cond (t := true) (by simp [Act.eval, Array.replicate]) ?_
  simp only [if_true]
  refine wpS_of_wp ?_
  go_region
  all_goals
    clear hp hq hr ht fp fq fr ft npq npr npt nqr nqt nrt hta
    generalize World.drew _ = W'
    cases c₀
    simp_all [bodyPostS, results, Tryd.results67, go_sem]
theorem catch67_idle (vp vq vr vt : Value) (w : World) :
    CallsD Tryd.prog 67 #[vp, vq, vr, vt] .returning w fun e u' w' => e = .returned (.tuple #[]) ∧ u' = .returning ∧ w' = w := by
  refine callsD_of_wpS Tryd.func67 rfl fun c₀ cs hu => ?_
  apply wpS_seq
  apply wpS_region
  simp [wpOpsS, go_sem, recoverD, hu, Tryd.ntmps67, Exit.thenS]
  apply wpS_seq
  apply wpS_region
  simp [wpOpsS, go_sem, Exit.thenS]
  refine wpS_cond (t := false) (by simp [Act.eval, Array.replicate]) ?_
  simp only [Bool.false_eq_true, if_false]
  refine wpS_of_wp (wp_skip ?_)
  cases c₀
  simp_all [bodyPostS, results, Tryd.results67]
end Go.Proofs.YtmoihgniglomiaaDoor
/- A log in memory; the calls that look at it, and whether it is gone. Condition: the log's own. -/
set_option linter.unusedVariables false
set_option linter.unusedSimpArgs false
set_option maxRecDepth 100000
namespace Go.Proofs.YtmoihgniglomiaaDoor
open Go.RowKit Go.Sort

/-- a log over a disk -/
structure Lk (w : World) (b : Nat) (p : Fp) (S : St) (l : Wlg) : Prop where
  blk : Bk 96 w b #[p.v, .int .i64 (l.file : Int), .int .i64 (l.gen : Int), .int .i64 (l.n : Int), .bool l.dead]
  dk : Dk w p S
  ne : b ∉ p.own
  zb : b ≠ 0
  zo : 0 ∉ p.own
  ff : l.file < 2
  gg : l.gen ≤ 4611686018427387904
theorem Lk.below {w w' : World} {b : Nat} {p : Fp} {S : St} {l : Wlg} (h : Lk w b p S l) (hb : Below w.heap.size w w') : Lk w' b p S l :=
  ⟨h.blk.below hb, h.dk.below hb, h.ne, h.zb, h.zo, h.ff, h.gg⟩
theorem size_at (S : St) (f : Nat) (hf : f < 2) : S.size (f : Int) = ((S.file f).length : Int) := by
  have ht : St.there (f : Int) = true := by unfold St.there; simp; omega
  unfold St.size
  rw [if_pos ht]
  rfl
theorem file_le {S : St} (h : S.Wf) (f : Nat) : (S.file f).length ≤ 1048576 := by
  unfold St.file; split
  · exact h.l0
  · exact h.l1
def lv (b : Nat) : Value := .pointer (some ⟨b, 0, none⟩)
set_option maxHeartbeats 8000000 in
theorem records35 (b : Nat) (v0 v1 v2 v3 v4 : Value) (w : World) (K : Hid (Bk 96 w b #[v0, v1, v2, v3, v4])) :
    Calls Tryd.prog 35 #[.pointer (some ⟨b, 0, none⟩)] w fun e w' => e = .returned v3 ∧ w = w' := by
  have c := K.out.cell 3
  simp only [List.getElem?_toArray, List.getElem?_cons_succ, List.getElem?_cons_zero] at c
  go_enter Tryd.func35, Tryd.ntmps35
  go_wp2_with fail
  go_ret
  exact ⟨rfl, rfl⟩
set_option maxHeartbeats 8000000 in
theorem dead42 (b : Nat) (v0 v1 v2 v3 v4 : Value) (w : World) (K : Hid (Bk 96 w b #[v0, v1, v2, v3, v4])) :
    Calls Tryd.prog 42 #[.pointer (some ⟨b, 0, none⟩)] w fun e w' => e = .returned v4 ∧ w = w' := by
  have c := K.out.cell 4
  simp only [List.getElem?_toArray, List.getElem?_cons_succ, List.getElem?_cons_zero] at c
  go_enter Tryd.func42, Tryd.ntmps42
  go_wp2_with fail
  go_ret
  exact ⟨rfl, rfl⟩
set_option maxHeartbeats 16000000 in
theorem room_any {w : World} {b : Nat} {p : Fp} {S : St} {l : Wlg} (h : Lk w b p S l) :
    Calls Tryd.prog 37 #[.pointer (some ⟨b, 0, none⟩)] w fun e w' => e = .returned (.int .i64 (room S l)) ∧ Below w.heap.size w w' := by
  have hsz := size_at S l.file h.ff
  have hle : ((S.file l.file).length : Int) ≤ 1048576 := by have := file_le h.dk.wf l.file; omega
  have hge : (0 : Int) ≤ ((S.file l.file).length : Int) := by omega
  have hp : ∃ pv, pv = p.v := ⟨_, rfl⟩
  obtain ⟨pv, hpv⟩ := hp
  have HS : Hid (∀ d os, Calls Tryd.prog 41 #[pv, .int .i64 (l.file : Int)] (grow (redrawn w d) os) fun e w'' => e = .returned (.int .i64 ((S.file l.file).length : Int)) ∧ ∃ p : Regrown, w'' = grow (redrawn w p.d) p.os) := Lib.hid fun d os => by
    have := size_any p S l.file _ (h.dk.below (below_regrown w d os))
    rw [hsz, ← hpv] at this
    exact Calls.grown this
  have b0 : w.cell? ⟨b, 0, none⟩ = some p.v := h.blk.cell 0
  have b1 : w.cell? ⟨b, 1, none⟩ = some (.int .i64 (l.file : Int)) := h.blk.cell 1
  rw [← hpv] at b0
  have k0 := cell_regrown b0
  have k1 := cell_regrown b1
  clear b0 b1
  obtain ⟨r, hr⟩ : ∃ r, r = room S l := ⟨_, rfl⟩
  rw [← hr]
  unfold room at hr
  generalize ((S.file l.file).length : Int) = n at *
  have HR := Lib.hid hr
  clear hsz hpv hr h
  go_enter Tryd.func37, Tryd.ntmps37
  go_wp2_with fail
  refine wp_region_quiet_below mixed (by kernel_rfl) ?_
  repeat (first | go_big_quiet_step (with_reducible exact HS.out _ _) | quiet_step (with_reducible exact HS.out _ _))
  refine wpQuiet_nil ?_
  intro _ hw'
  obtain ⟨⟨dq, osq⟩, hw''⟩ := hw'
  subst hw''
  have hbq := Lib.hid (below_regrown w dq osq)
  go_wp2_with fail
  go_ret
  exact ⟨by rw [HR.out]; rfl, hbq.out⟩

theorem Dk.set {w : World} {p : Fp} {S : St} (h : Dk w p S) {b : Nat} (hb : b ∉ p.own) (a : Addr) (ha : a.block = b) (v : Value) : Dk (w.setCell a v) p S :=
  h.only (L := [b]) ((Only.refl [b] w).setCell a (.inl (by simp [ha])) v) (fun k hk => by simp; rintro rfl; exact hb hk)
theorem Lk.die {w : World} {b : Nat} {p : Fp} {S : St} {l : Wlg} (h : Lk w b p S l) (d : Bool) : Lk (w.setCell ⟨b, 4, none⟩ (.bool d)) b p S { l with dead := d } := by
  refine ⟨?_, h.dk.set h.ne _ rfl _, h.ne, h.zb, h.zo, h.ff, h.gg⟩
  have := Bk.same (i := 4) (v := .bool d) h.blk
  simpa using this
set_option maxHeartbeats 16000000 in
theorem gone_any {w : World} {b : Nat} {p : Fp} {S : St} {l : Wlg} (h : Lk w b p S l) :
    Calls Tryd.prog 71 #[.pointer (some ⟨b, 0, none⟩)] w fun e w' => e = .returned (.bool (l.dead || S.gone)) ∧ w' = w.setCell ⟨b, 4, none⟩ (.bool (l.dead || S.gone)) := by
  have c0 : w.cell? ⟨b, 0, none⟩ = some p.v := h.blk.cell 0
  have c4 : w.cell? ⟨b, 4, none⟩ = some (.bool l.dead) := h.blk.cell 4
  have f4 := h.blk.fro 4
  have n4 : (w.setCell ⟨b, 4, none⟩ (.bool (l.dead || S.gone))).cell? ⟨b, 4, none⟩ = some (.bool (l.dead || S.gone)) := (h.die _).blk.cell 4
  have HD := Lib.hid (dead_any p S w h.dk)
  generalize p.v = pv at *
  generalize l.dead = d at *
  generalize S.gone = g at *
  clear h
  cases d
  · simp only [Bool.false_or] at n4 ⊢
    go_enter Tryd.func71, Tryd.ntmps71
    go_wp2_with fail
    refine HD.out.mono ?_
    rintro e w1 ⟨rfl, rfl⟩
    go_wp2_with fail
    go_ret
    exact ⟨rfl, rfl⟩
  · simp only [Bool.true_or] at n4 ⊢
    go_enter Tryd.func71, Tryd.ntmps71
    go_wp2_with fail
    go_ret
    exact ⟨rfl, rfl⟩
end Go.Proofs.YtmoihgniglomiaaDoor
/- A region that draws its order and ends in operations of one forced order; a whole array read within it. General, of any program. No condition but that the region's text is of that form. -/
set_option linter.unusedVariables false
namespace Go.Proofs.YtmoihgniglomiaaDoor
open Go.RowKit Go.Sort

section
variable {P : Program}
theorem exec_load_row {o : Oper} {a : Act} {w : World} (ty : TypeId) (x : Operand) (ho : o.op = .load ty x)
    (g : Nat) (hx : a.eval x = .pointer (some ⟨g, 0, none⟩)) (t : TypeId) (cs : Array Value) (fr : Nat × Nat) (d : TypeDesc) (hg : w.heap[g]? = some (.cells cs t fr))
    (hu : P.underlying ty = some d) (hd : (match d with | .struct _ | .array _ _ => true | _ => false) = true) (hi : (P.info? ty).map (·.size) = some cs.size) :
    (execOp a.eval o).run P w = .ok (.value (.agg cs)) w := by
  unfold execOp
  simp only [ho, hx, Instr.loadAt, Instr.sureAddr, Sem.run_bind, Sem.run_pure, Result.andThen_ok, run_loadVar_row w g t ty cs fr d hg hu hd hi]
theorem wpStill_load_row {ops : Array Oper} {w : World} {Q : Act → Prop} {a : Act} {o : Oper} {rest : List Oper} (hgd : o.guard = none) (ty : TypeId) (x : Operand) (ho : o.op = .load ty x)
    (g : Nat) (hx : a.eval x = .pointer (some ⟨g, 0, none⟩)) (t : TypeId) (cs : Array Value) (fr : Nat × Nat) (d : TypeDesc) (hg : w.heap[g]? = some (.cells cs t fr))
    (hu : P.underlying ty = some d) (hd : (match d with | .struct _ | .array _ _ => true | _ => false) = true) (hi : (P.info? ty).map (·.size) = some cs.size)
    (h : wpStill P ops w Q rest (a.put o.dst (.agg cs))) : wpStill P ops w Q (o :: rest) a :=
  wpStill_step fun K hK => by
    rw [if_pos (by simp [Region.wanted, hgd])]
    unfold Oper.still
    rw [exec_load_row ty x ho g hx t cs fr d hg hu hd hi, Oper.stillUpon_value]
    exact hK _ h
theorem wpQuiet_load_row {ops : Array Oper} {C : World → Prop} {Q : Act → Prop} {a : Act} {o : Oper} {rest : List Oper} (hgd : o.guard = none) (ty : TypeId) (x : Operand) (ho : o.op = .load ty x)
    (g : Nat) (hx : a.eval x = .pointer (some ⟨g, 0, none⟩)) (t : TypeId) (cs : Array Value) (fr : Nat × Nat) (d : TypeDesc) (hg : ∀ w, C w → w.heap[g]? = some (.cells cs t fr))
    (hu : P.underlying ty = some d) (hd : (match d with | .struct _ | .array _ _ => true | _ => false) = true) (hi : (P.info? ty).map (·.size) = some cs.size)
    (h : wpQuiet P ops C Q rest (a.put o.dst (.agg cs))) : wpQuiet P ops C Q (o :: rest) a :=
  wpQuiet_step fun K hK => by
    rw [if_pos (by simp [Region.wanted, hgd])]
    refine ⟨.agg cs, fun w hw => ?_, hK _ h⟩
    unfold Oper.quietAt
    rw [exec_load_row ty x ho g hx t cs fr d (hg w hw) hu hd hi]
    exact ⟨rfl, rfl⟩
theorem heap_regrown {w w' : World} {b : Nat} {o : Obj} (h : w.heap[b]? = some o) (hw : ∃ p : Regrown, w' = grow (redrawn w p.d) p.os) : w'.heap[b]? = some o := by
  obtain ⟨p, rfl⟩ := hw
  exact ((below_regrown w p.d p.os).block _ (Array.getElem?_eq_some_iff.1 h).1).trans h
end
section
variable {P : Program} {ops : Array Oper} {md : Region.Mode} {C : World → Prop}

/-- the head's f operations in whatever order, each quiet in the class; behind them L -/
def headQ (P : Program) (md : Region.Mode) (ops : Array Oper) (C : World → Prop) (n : Nat) (L : Array Bool → Act → Prop) : Nat → Array Bool → Act → Prop
  | 0, ls, a => L ls a
  | f + 1, ls, a => Region.ready md ops ls ≠ [] ∧ ∀ i, i ∈ Region.ready md ops ls → i < n ∧ qOp P ops C i (headQ P md ops C n L f (ls.setIfInBounds i true)) a

theorem any_of_headQ {n g : Nat} {L : Array Bool → Act → Prop} {Q : Exit → Act → World → Prop} (hL : ∀ ls a w, C w → L ls a → wpAny P md ops Q g ls a w) (f : Nat) :
    ∀ (ls : Array Bool) (a : Act) (w : World), C w → headQ P md ops C n L f ls a → wpAny P md ops Q (f + g) ls a w := by
  induction f with
  | zero => intro ls a w hw h; rw [Nat.zero_add]; exact hL _ _ _ hw h
  | succ f ih =>
    intro ls a w hw h
    rw [Nat.succ_add]
    exact ⟨fun h0 => absurd h0 h.1, fun i hi => wpOp_of_qOp hw (fun a' w' hw' h' => ih _ a' w' hw' h') (h.2 i hi).2⟩

theorem headQ_first {n i : Nat} {oi : Oper} {v : Value} {L : Array Bool → Act → Prop} (hi : ops[i]? = some oi) (hsel : ∀ (j : Nat) (o : Oper) cs b, ops[j]? = some o → o.op ≠ .select cs b)
    (hs : Region.sinkB md ops n = true) (hc : Region.chainB md ops n = true) (hn : n < ops.size) (hin : i < n) (hdone : ∀ ls a, L ls a → ∀ j ∈ Region.ready md ops ls, n ≤ j) (f : Nat) :
    ∀ (ls : Array Bool) (a : Act), HeadInv md ops n ls → (∀ j oj, ops[j]? = some oj → j ≠ i → ls.getD j true = false → (∀ e ∈ oj.after, Region.binds md e = true → e.on ≠ i) → oi.apart ops oj = true) →
      i ∈ Region.ready md ops ls → YieldsIn P ops C oi v a → headQ P md ops C n L f (ls.setIfInBounds i true) (a.put oi.dst v) → headQ P md ops C n L (f + 1) ls a := by
  induction f with
  | zero =>
    intro ls a inv _ hr hy H
    have hun := (mem_ready.1 hr).1
    refine ⟨fun h => (by rw [h] at hr; cases hr), fun j hj => ?_⟩
    have hjn : j < n := Nat.lt_of_not_le fun h => tail_waits hs hc hn inv _ i rfl hin hun j h hj
    refine ⟨hjn, ?_⟩
    by_cases hji : j = i
    · subst hji; exact hy.qOp hi H
    · have := hdone _ _ H j (ready_mono hj hji)
      omega
  | succ f ih =>
    intro ls a inv hfree hr hy H
    have hun := (mem_ready.1 hr).1
    refine ⟨fun h => (by rw [h] at hr; cases hr), fun j hj => ?_⟩
    have hjn : j < n := Nat.lt_of_not_le fun h => tail_waits hs hc hn inv _ i rfl hin hun j h hj
    refine ⟨hjn, ?_⟩
    by_cases hji : j = i
    · subst hji; exact hy.qOp hi H
    · obtain ⟨hjun, oj, hoj, hall⟩ := mem_ready.1 hj
      have hnot : ∀ e ∈ oj.after, Region.binds md e = true → e.on ≠ i := fun e he hb heq => by
        have h1 := hall e he hb
        rw [heq, getD_both hun] at h1
        cases h1
      have h2 := qOp_put hoj (hfree j oj hoj hji hjun hnot) (fun cs b => hsel i oi cs b hi) (fun cs b => hsel j oj cs b hoj) hy (H.2 j (ready_mono hj hji)).2
      refine qOp_mono (fun a' h3 => ih _ a' (inv.set hj hjn) (fun k ok hk hki hu hno => hfree k ok hk hki ?_ hno) (ready_mono hr (Ne.symm hji)) h3.1 ?_) h2
      · by_cases hjk : j = k
        · subst hjk; exact hjun
        · rw [getD_set_ne true hjk] at hu; exact hu
      · rw [Array.setIfInBounds_comm _ _ hji]; exact h3.2

theorem headQ_lex {n g : Nat} {F : Act → Prop} (hsel : Region.noSelect ops = true) (hs : Region.sinkB md ops n = true) (hc : Region.chainB md ops n = true) (hn : n < ops.size) :
    ∀ (l : List Oper) (k : Nat) (ls : Array Bool) (a : Act), (∀ j, j < l.length → l[j]? = ops[k + j]?) → k + l.length = n → HeadInv md ops n ls →
    Region.lexHead md ops g l.length k ls = true → wpQuiet P ops C F l a → headQ P md ops C n (fun ls' a' => Region.seqB md ops g n ls' = true ∧ F a') l.length ls a
  | [], k, ls, a, _, hk, _, hB, h => by
    obtain rfl : k = n := by simpa using hk
    exact ⟨by simpa [Region.lexHead] using hB, h⟩
  | o :: l, k, ls, a, hl, hk, inv, hB, h => by
    have h0 : ops[k]? = some o := by simpa using (hl 0 (by simp)).symm
    simp only [List.length_cons, Region.lexHead, Bool.and_eq_true] at hB hk
    obtain ⟨⟨hr, hf⟩, hB'⟩ := hB
    have hr' : k ∈ Region.ready md ops ls := by simpa using hr
    obtain ⟨v, hy, hK⟩ := yieldsIn_of_qOp (K := wpQuiet P ops C F l) h0 (by unfold qOp; simp only [h0]; exact h)
    exact headQ_first h0 (Region.noSelect_spec hsel) hs hc hn (by omega) (fun ls' a' hL => seqB_ready hL.1) l.length ls a inv (Region.free_spec h0 hf) hr' hy
      (headQ_lex hsel hs hc hn l (k + 1) _ _ (fun j hj => by have := hl (j + 1) (by simp; omega); simpa [Nat.add_assoc, Nat.add_comm 1 j] using this) (by omega) (inv.set hr' (by omega)) hB' hK)

/-- the head makes memory at most, the tail has one order -/
theorem wp_region_below_tail {id : Nat} {Q : Exit → Act → World → Prop} {a : Act} {w : World} {l : List Oper} (n : Nat) (hm : P.follows .mixedOrders = true) (hB : Region.lexTailB .any l.toArray n = true)
    (h : wpQuiet P l.toArray (fun w' => ∃ p : Regrown, w' = grow (redrawn w p.d) p.os) (fun a' => ∀ w', (∃ p : Regrown, w' = grow (redrawn w p.d) p.os) → wpList P l.toArray Q (l.drop n) a' w') (l.take n) a) : (Code.region id l.toArray true).wp P Q a w := by
  simp only [Region.lexTailB, Bool.and_eq_true, decide_eq_true_eq] at hB
  obtain ⟨⟨⟨⟨hsel, hn⟩, hs⟩, hc⟩, hlex⟩ := hB
  have hn' : n < l.length := by simpa using hn
  have htl : (l.take n).length = n := by simp; omega
  have hdl : (l.drop n).length = l.toArray.size - n := by simp
  have inv0 : HeadInv .any l.toArray n (Array.replicate l.toArray.size false) :=
    ⟨by simp, fun j oj _ hl => (by rw [getD_replicate_false] at hl; cases hl), fun t _ ht => getD_in (by simpa using ht) (getD_replicate_false _ _)⟩
  have H := headQ_lex (md := .any) (g := l.toArray.size - n) hsel hs hc hn (l.take n) 0 _ a (fun j hj => by
    have hj' : j < n := by rw [htl] at hj; exact hj
    simp [hj']) (by simpa using htl) inv0 (by rw [htl]; exact hlex) h
  refine wp_region_any hm ?_
  have := any_of_headQ (Q := Q) (g := l.toArray.size - n) (fun ls a' w' hw' hL => by
    have := wpAny_of_seq (md := .any) (Q' := Q) (l.drop n) n ls a' w' (fun j => by simp [List.getElem?_drop]) (by rw [hdl]; exact hL.1) (hL.2 w' hw')
    rwa [hdl] at this) _ _ _ _ (show ∃ p : Regrown, _ = grow (redrawn w p.d) p.os from ⟨⟨w.drawn + 1, #[]⟩, by rw [grow_empty]⟩) H
  rw [htl, show n + (l.toArray.size - n) = l.toArray.size by omega] at this
  exact this
end
section
variable {P : Program}
theorem wp_region_quiet_tail {id : Nat} {Q : Exit → Act → World → Prop} {a : Act} {w : World} {l : List Oper} (n : Nat) (hm : P.follows .mixedOrders = true) (hB : Region.lexTailB .any l.toArray n = true)
    (h : wpQuiet P l.toArray (fun w' => ∃ m : Nat, w' = w.drewN m) (fun a' => ∀ w', (∃ m : Nat, w' = w.drewN m) → wpList P l.toArray Q (l.drop n) a' w') (l.take n) a) : (Code.region id l.toArray true).wp P Q a w := by
  simp only [Region.lexTailB, Bool.and_eq_true, decide_eq_true_eq] at hB
  obtain ⟨⟨⟨⟨hsel, hn⟩, hs⟩, hc⟩, hlex⟩ := hB
  have hn' : n < l.length := by simpa using hn
  have htl : (l.take n).length = n := by simp; omega
  have hdl : (l.drop n).length = l.toArray.size - n := by simp
  have inv0 : HeadInv .any l.toArray n (Array.replicate l.toArray.size false) :=
    ⟨by simp, fun j oj _ hl => (by rw [getD_replicate_false] at hl; cases hl), fun t _ ht => getD_in (by simpa using ht) (getD_replicate_false _ _)⟩
  have H := headQ_lex (md := .any) (g := l.toArray.size - n) hsel hs hc hn (l.take n) 0 _ a (fun j hj => by
    have hj' : j < n := by rw [htl] at hj; exact hj
    simp [hj']) (by simpa using htl) inv0 (by rw [htl]; exact hlex) h
  refine wp_region_any hm ?_
  have := any_of_headQ (Q := Q) (g := l.toArray.size - n) (fun ls a' w' hw' hL => by
    have := wpAny_of_seq (md := .any) (Q' := Q) (l.drop n) n ls a' w' (fun j => by simp [List.getElem?_drop]) (by rw [hdl]; exact hL.1) (hL.2 w' hw')
    rwa [hdl] at this) _ _ _ _ (show ∃ m : Nat, w.drew = w.drewN m from ⟨1, rfl⟩) H
  rw [htl, show n + (l.toArray.size - n) = l.toArray.size by omega] at this
  exact this
end

end Go.Proofs.YtmoihgniglomiaaDoor
