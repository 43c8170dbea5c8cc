/- The sum along a line of two points under way: the walk. No condition but that each number is below 2 to the 256. A whole variable is stored: the block that holds it. No condition. Twice a point under way: the walk. No condition but that each number is below 2 to the 256. The sum of two points under way: the walk. No condition but that each number is below 2 to the 256. Points of the curve: begun,  -/
import Derived.Test.YtpggkfdijmnmiaaGreatZuk06
import Derived.Laws.CopyOwn
import Derived.Test.YtpggkfdijmnmiaaGreatZuk05
set_option linter.unusedVariables false
set_option linter.unusedSimpArgs false
set_option maxRecDepth 100000
namespace Go.Proofs.YtpggkfdijmnmiaaGreat
open Go.RowKit Go.Sort Limbs
def mj (a b : Nat) : Nat := a * b % mP
def aj (a b : Nat) : Nat := (a + b) % mP
def sj (a b : Nat) : Nat := (a + (mP - b % mP)) % mP
def tj (a : Nat) : Nat := aj (aj a a) a
theorem mj_lt (a b : Nat) : mj a b < W256 := mp_lt _
theorem aj_lt (a b : Nat) : aj a b < W256 := mp_lt _
theorem sj_lt (a b : Nat) : sj a b < W256 := mp_lt _
theorem tj_lt (a : Nat) : tj a < W256 := mp_lt _
theorem mulj {a b : Nat} (ha : a < W256) (hb : b < W256) : ∀ w, Calls Tryz.prog 108 #[nv a, nv b] w fun e w' => e = .returned (nv (mj a b)) ∧ Below w.heap.size w w' := mul_c a b ha hb
theorem addj {a b : Nat} (ha : a < W256) (hb : b < W256) : ∀ w, Calls Tryz.prog 109 #[nv a, nv b] w fun e w' => e = .returned (nv (aj a b)) ∧ Below w.heap.size w w' := add_c a b ha hb
theorem subj {a b : Nat} (ha : a < W256) (hb : b < W256) : ∀ w, Calls Tryz.prog 110 #[nv a, nv b] w fun e w' => e = .returned (nv (sj a b)) ∧ Below w.heap.size w w' := sub_c a b ha hb
theorem tripj {a : Nat} (ha : a < W256) : ∀ w, Calls Tryz.prog 111 #[nv a] w fun e w' => e = .returned (nv (tj a)) ∧ Below w.heap.size w w' := triple_c a ha
structure J where
  x : Nat
  y : Nat
  z : Nat
deriving DecidableEq
def J.ok (p : J) : Prop := p.x < W256 ∧ p.y < W256 ∧ p.z < W256
def J.v (p : J) : Value := jn p.x p.y p.z
def J.far : J := ⟨0, 0, 0⟩
def J.over (p : J) (f : Nat) : J := ⟨mj p.x (mj f f), mj p.y (mj (mj f f) f), mj p.z f⟩
def J.along (p : J) (r o : Nat) : J := ⟨sj (sj (mj r r) p.x) o, sj (mj r (sj p.x (sj (sj (mj r r) p.x) o))) p.y, p.z⟩
theorem J.over_ok (p : J) (f : Nat) : (p.over f).ok := ⟨mj_lt _ _, mj_lt _ _, mj_lt _ _⟩
theorem J.along_ok (p : J) (r o : Nat) (h : p.z < W256) : (p.along r o).ok := ⟨sj_lt _ _, sj_lt _ _, h⟩
theorem overj {p : J} {f : Nat} (hp : p.ok) (hf : f < W256) : ∀ w, Calls Tryz.prog 170 #[p.v, nv f] w fun e w' => e = .returned (p.over f).v ∧ Below w.heap.size w w' := over_c p.x p.y p.z f hp.1 hp.2.1 hp.2.2 hf
set_option maxHeartbeats 16000000 in
theorem along_c (p : J) (r o : Nat) (hp : p.ok) (hr : r < W256) (ho : o < W256) (w : World) :
    Calls Tryz.prog 184 #[p.v, nv r, nv o] w fun e w' => e = .returned (p.along r o).v ∧ Below w.heap.size w w' := by
  obtain ⟨x, y, z⟩ := p
  obtain ⟨hx, hy, hz⟩ := hp
  simp only [] at hx hy hz
  have H1 := Lib.hid (mulj hr hr)
  have H2 := Lib.hid (subj (mj_lt r r) hx)
  have H3 := Lib.hid (subj (sj_lt (mj r r) x) ho)
  have H4 := Lib.hid (subj hx (sj_lt (sj (mj r r) x) o))
  have H5 := Lib.hid (mulj hr (sj_lt x (sj (sj (mj r r) x) o)))
  have H6 := Lib.hid (subj (mj_lt r (sj x (sj (sj (mj r r) x) o))) hy)
  clear hx hy hz hr ho
  unfold J.v J.along
  simp only []
  generalize sj (mj r (sj x (sj (sj (mj r r) x) o))) y = ry at *
  generalize mj r (sj x (sj (sj (mj r r) x) o)) = m5 at *
  generalize sj x (sj (sj (mj r r) x) o) = d4 at *
  generalize sj (sj (mj r r) x) o = x3 at *
  generalize sj (mj r r) x = d1 at *
  generalize mj r r = rr at *
  simp only [jn, nv, num] at H1 H2 H3 H4 H5 H6 ⊢
  go_enter Tryz.func184, Tryz.ntmps184
  go_wp2_with fail
  have KP : Hid (Bk 162 ((((w.alloc (.cells #[.int .u64 (lb x 0 : Nat), .int .u64 (lb x 1 : Nat), .int .u64 (lb x 2 : Nat), .int .u64 (lb x 3 : Nat), .int .u64 (lb y 0 : Nat), .int .u64 (lb y 1 : Nat), .int .u64 (lb y 2 : Nat), .int .u64 (lb y 3 : Nat), .int .u64 (lb z 0 : Nat), .int .u64 (lb z 1 : Nat), .int .u64 (lb z 2 : Nat), .int .u64 (lb z 3 : Nat)] 162)).alloc (.cells #[.int .u64 (lb r 0 : Nat), .int .u64 (lb r 1 : Nat), .int .u64 (lb r 2 : Nat), .int .u64 (lb r 3 : Nat)] 24)).alloc (.cells #[.int .u64 (lb o 0 : Nat), .int .u64 (lb o 1 : Nat), .int .u64 (lb o 2 : Nat), .int .u64 (lb o 3 : Nat)] 24)).alloc (.cells #[.int .u64 0, .int .u64 0, .int .u64 0, .int .u64 0, .int .u64 0, .int .u64 0, .int .u64 0, .int .u64 0, .int .u64 0, .int .u64 0, .int .u64 0, .int .u64 0] 162)) w.heap.size #[.int .u64 (lb x 0 : Nat), .int .u64 (lb x 1 : Nat), .int .u64 (lb x 2 : Nat), .int .u64 (lb x 3 : Nat), .int .u64 (lb y 0 : Nat), .int .u64 (lb y 1 : Nat), .int .u64 (lb y 2 : Nat), .int .u64 (lb y 3 : Nat), .int .u64 (lb z 0 : Nat), .int .u64 (lb z 1 : Nat), .int .u64 (lb z 2 : Nat), .int .u64 (lb z 3 : Nat)]) := Lib.hid (Bk.alloc (Bk.alloc (Bk.alloc (Bk.new rfl))))
  have KR : Hid (Bk 24 ((((w.alloc (.cells #[.int .u64 (lb x 0 : Nat), .int .u64 (lb x 1 : Nat), .int .u64 (lb x 2 : Nat), .int .u64 (lb x 3 : Nat), .int .u64 (lb y 0 : Nat), .int .u64 (lb y 1 : Nat), .int .u64 (lb y 2 : Nat), .int .u64 (lb y 3 : Nat), .int .u64 (lb z 0 : Nat), .int .u64 (lb z 1 : Nat), .int .u64 (lb z 2 : Nat), .int .u64 (lb z 3 : Nat)] 162)).alloc (.cells #[.int .u64 (lb r 0 : Nat), .int .u64 (lb r 1 : Nat), .int .u64 (lb r 2 : Nat), .int .u64 (lb r 3 : Nat)] 24)).alloc (.cells #[.int .u64 (lb o 0 : Nat), .int .u64 (lb o 1 : Nat), .int .u64 (lb o 2 : Nat), .int .u64 (lb o 3 : Nat)] 24)).alloc (.cells #[.int .u64 0, .int .u64 0, .int .u64 0, .int .u64 0, .int .u64 0, .int .u64 0, .int .u64 0, .int .u64 0, .int .u64 0, .int .u64 0, .int .u64 0, .int .u64 0] 162)) (w.heap.size + 1) #[.int .u64 (lb r 0 : Nat), .int .u64 (lb r 1 : Nat), .int .u64 (lb r 2 : Nat), .int .u64 (lb r 3 : Nat)]) := Lib.hid (Bk.alloc (Bk.alloc (Bk.new (by simp))))
  have KO : Hid (Bk 24 ((((w.alloc (.cells #[.int .u64 (lb x 0 : Nat), .int .u64 (lb x 1 : Nat), .int .u64 (lb x 2 : Nat), .int .u64 (lb x 3 : Nat), .int .u64 (lb y 0 : Nat), .int .u64 (lb y 1 : Nat), .int .u64 (lb y 2 : Nat), .int .u64 (lb y 3 : Nat), .int .u64 (lb z 0 : Nat), .int .u64 (lb z 1 : Nat), .int .u64 (lb z 2 : Nat), .int .u64 (lb z 3 : Nat)] 162)).alloc (.cells #[.int .u64 (lb r 0 : Nat), .int .u64 (lb r 1 : Nat), .int .u64 (lb r 2 : Nat), .int .u64 (lb r 3 : Nat)] 24)).alloc (.cells #[.int .u64 (lb o 0 : Nat), .int .u64 (lb o 1 : Nat), .int .u64 (lb o 2 : Nat), .int .u64 (lb o 3 : Nat)] 24)).alloc (.cells #[.int .u64 0, .int .u64 0, .int .u64 0, .int .u64 0, .int .u64 0, .int .u64 0, .int .u64 0, .int .u64 0, .int .u64 0, .int .u64 0, .int .u64 0, .int .u64 0] 162)) (w.heap.size + 1 + 1) #[.int .u64 (lb o 0 : Nat), .int .u64 (lb o 1 : Nat), .int .u64 (lb o 2 : Nat), .int .u64 (lb o 3 : Nat)]) := Lib.hid (Bk.alloc (Bk.new (by simp)))
  have KZ : Hid (Bk 162 ((((w.alloc (.cells #[.int .u64 (lb x 0 : Nat), .int .u64 (lb x 1 : Nat), .int .u64 (lb x 2 : Nat), .int .u64 (lb x 3 : Nat), .int .u64 (lb y 0 : Nat), .int .u64 (lb y 1 : Nat), .int .u64 (lb y 2 : Nat), .int .u64 (lb y 3 : Nat), .int .u64 (lb z 0 : Nat), .int .u64 (lb z 1 : Nat), .int .u64 (lb z 2 : Nat), .int .u64 (lb z 3 : Nat)] 162)).alloc (.cells #[.int .u64 (lb r 0 : Nat), .int .u64 (lb r 1 : Nat), .int .u64 (lb r 2 : Nat), .int .u64 (lb r 3 : Nat)] 24)).alloc (.cells #[.int .u64 (lb o 0 : Nat), .int .u64 (lb o 1 : Nat), .int .u64 (lb o 2 : Nat), .int .u64 (lb o 3 : Nat)] 24)).alloc (.cells #[.int .u64 0, .int .u64 0, .int .u64 0, .int .u64 0, .int .u64 0, .int .u64 0, .int .u64 0, .int .u64 0, .int .u64 0, .int .u64 0, .int .u64 0, .int .u64 0] 162)) (w.heap.size + 1 + 1 + 1) #[.int .u64 0, .int .u64 0, .int .u64 0, .int .u64 0, .int .u64 0, .int .u64 0, .int .u64 0, .int .u64 0, .int .u64 0, .int .u64 0, .int .u64 0, .int .u64 0]) := Lib.hid (Bk.new (by simp))
  have HB : Hid (Below w.heap.size w ((((w.alloc (.cells #[.int .u64 (lb x 0 : Nat), .int .u64 (lb x 1 : Nat), .int .u64 (lb x 2 : Nat), .int .u64 (lb x 3 : Nat), .int .u64 (lb y 0 : Nat), .int .u64 (lb y 1 : Nat), .int .u64 (lb y 2 : Nat), .int .u64 (lb y 3 : Nat), .int .u64 (lb z 0 : Nat), .int .u64 (lb z 1 : Nat), .int .u64 (lb z 2 : Nat), .int .u64 (lb z 3 : Nat)] 162)).alloc (.cells #[.int .u64 (lb r 0 : Nat), .int .u64 (lb r 1 : Nat), .int .u64 (lb r 2 : Nat), .int .u64 (lb r 3 : Nat)] 24)).alloc (.cells #[.int .u64 (lb o 0 : Nat), .int .u64 (lb o 1 : Nat), .int .u64 (lb o 2 : Nat), .int .u64 (lb o 3 : Nat)] 24)).alloc (.cells #[.int .u64 0, .int .u64 0, .int .u64 0, .int .u64 0, .int .u64 0, .int .u64 0, .int .u64 0, .int .u64 0, .int .u64 0, .int .u64 0, .int .u64 0, .int .u64 0] 162))) := Lib.hid (by go_grown)
  generalize ((((w.alloc (.cells #[.int .u64 (lb x 0 : Nat), .int .u64 (lb x 1 : Nat), .int .u64 (lb x 2 : Nat), .int .u64 (lb x 3 : Nat), .int .u64 (lb y 0 : Nat), .int .u64 (lb y 1 : Nat), .int .u64 (lb y 2 : Nat), .int .u64 (lb y 3 : Nat), .int .u64 (lb z 0 : Nat), .int .u64 (lb z 1 : Nat), .int .u64 (lb z 2 : Nat), .int .u64 (lb z 3 : Nat)] 162)).alloc (.cells #[.int .u64 (lb r 0 : Nat), .int .u64 (lb r 1 : Nat), .int .u64 (lb r 2 : Nat), .int .u64 (lb r 3 : Nat)] 24)).alloc (.cells #[.int .u64 (lb o 0 : Nat), .int .u64 (lb o 1 : Nat), .int .u64 (lb o 2 : Nat), .int .u64 (lb o 3 : Nat)] 24)).alloc (.cells #[.int .u64 0, .int .u64 0, .int .u64 0, .int .u64 0, .int .u64 0, .int .u64 0, .int .u64 0, .int .u64 0, .int .u64 0, .int .u64 0, .int .u64 0, .int .u64 0] 162)) = W at KP KR KO KZ HB ⊢
  obtain ⟨gr, hgr⟩ : ∃ z, z = w.heap.size + 1 := ⟨_, rfl⟩
  obtain ⟨go, hgo⟩ : ∃ z, z = w.heap.size + 1 + 1 := ⟨_, rfl⟩
  obtain ⟨gz, hgz⟩ : ∃ z, z = w.heap.size + 1 + 1 + 1 := ⟨_, rfl⟩
  rw [← hgz] at KZ ⊢
  rw [← hgo] at KO ⊢
  rw [← hgr] at KR ⊢
  have HG := Lib.hid (show w.heap.size ≤ gz by omega)
  clear hgr hgo hgz
  obtain ⟨gp, hgp⟩ : ∃ z, z = w.heap.size := ⟨_, rfl⟩
  rw [← hgp] at KP
  have e : (Value.pointer (some ⟨w.heap.size, 0, none⟩)) = .pointer (some ⟨gp, 0, none⟩) := by rw [hgp]
  rw [e]
  clear e
  refine al1 gp gr go x y z r o rr d1 x3 W KP.out KR.out KO.out H1 H2 H3 ?_
  intro _ _ _ _ _ _ _ _ g8 W2 hb2 hg8 hk8
  have KP2 := Lib.hid (KP.out.below hb2)
  have KR2 := Lib.hid (KR.out.below hb2)
  have KZ2 := Lib.hid (KZ.out.below hb2)
  have K82 := Lib.hid hk8
  have HB2 := Lib.hid (HB.out.trans (hb2.mono HB.out.size))
  clear KP KR KO KZ HB hb2 hg8 hk8 H1 H2 H3 hgp
  go_wp2_with fail
  obtain ⟨⟨x0, x1, x2, x3⟩, ⟨y0, y1, y2, y3⟩, z0, z1, z2, z3⟩ := KP2.out.reg12
  obtain ⟨f0, f1, f2, f3⟩ := KR2.out.reg
  obtain ⟨s0, s1, s2, s3⟩ := K82.out.reg
  refine wp_region_below_tail 13 mixed (by kernel_rfl) ?_
  simp only [List.take_succ_cons, List.take_zero, List.drop_succ_cons, List.drop_zero]
  iterate 5 go_big_quiet_step (fail)
  go_big_quiet_step (exact qg H4.out)
  go_big_quiet_step (exact qg H5.out)
  iterate 2 go_big_quiet_step (fail)
  go_big_quiet_step (exact qg H6.out)
  repeat (first | go_big_quiet_step (fail) | quiet_step (fail))
  refine wpQuiet_nil ?_
  intro _ hw'
  obtain ⟨⟨dq, osq⟩, hw''⟩ := hw'
  subst hw''
  have KZ3 := Lib.hid (KZ2.out.regrown dq osq)
  have HB3 := Lib.hid (HB2.out.trans ((below_regrown W2 dq osq).mono HB2.out.size))
  clear KP2 KR2 KZ2 K82 HB2 x0 x1 x2 x3 y0 y1 y2 y3 z0 z1 z2 z3 f0 f1 f2 f3 s0 s1 s2 s3 H4 H5 H6
  generalize grow (redrawn W2 dq) osq = V at KZ3 HB3 ⊢
  obtain ⟨⟨f0, f1, f2, f3⟩, ⟨f4, f5, f6, f7⟩, f8, f9, f10, f11⟩ := KZ3.out.fros12
  obtain ⟨⟨c0, c1, c2, c3⟩, ⟨c4, c5, c6, c7⟩, c8, c9, c10, c11⟩ := KZ3.out.cells12
  go_wp2_with fail
  refine ret_cell93 rfl gz x3 ry z rfl (Bk.put12 KZ3.out) rfl ⟨rfl, ?_⟩
  have hb := HB3.out
  have hg := HG.out
  go_grown
theorem alongj {p : J} {r o : Nat} (hp : p.ok) (hr : r < W256) (ho : o < W256) : ∀ w, Calls Tryz.prog 184 #[p.v, nv r, nv o] w fun e w' => e = .returned (p.along r o).v ∧ Below w.heap.size w w' := along_c p r o hp hr ho
theorem Bk.row {t : TypeId} {w : World} {g : Nat} {old cs : Array Value} (h : Bk t w g old) : Bk t (w.setRow g cs) g cs := setRow_heap w g old cs t (0, 0) h
theorem Bk.rowo {t : TypeId} {w : World} {g h : Nat} {cs c : Array Value} (hn : g ≠ h) (k : Bk t w g cs) : Bk t (w.setRow h c) g cs := (setRow_other w h g c hn).trans k
theorem wpList_put {P : Program} {ops : Array Oper} {rest : List Oper} {o : Oper} {a : Act} {w : World} {Q : Exit → Act → World → Prop} (hgd : o.guard = none) (ty : TypeId) (x y : Operand) (ho : o.op = .store ty x y)
    (g : Nat) (old cells : Array Value) (hx : a.eval x = .pointer (some ⟨g, 0, none⟩)) (hy : a.eval y = .agg cells) (hk : Bk ty w g old) (hi : (P.info? ty).map (·.size) = some cells.size)
    (hold : old.size = cells.size) (h1 : cells.all (·.oneCell') = true)
    (h : wpList P ops Q rest (a.put o.dst undef) (w.setRow g cells)) : wpList P ops Q (o :: rest) a w :=
  wpList_plain hgd fun _ hK => wp_store_row ty x y ho g cells hx hy ty old hk hi hold h1 (hK _ _ h)
theorem one12 (x y z : Nat) : (#[.int .u64 (lb x 0 : Nat), .int .u64 (lb x 1 : Nat), .int .u64 (lb x 2 : Nat), .int .u64 (lb x 3 : Nat), .int .u64 (lb y 0 : Nat), .int .u64 (lb y 1 : Nat), .int .u64 (lb y 2 : Nat), .int .u64 (lb y 3 : Nat), .int .u64 (lb z 0 : Nat), .int .u64 (lb z 1 : Nat), .int .u64 (lb z 2 : Nat), .int .u64 (lb z 3 : Nat)] : Array Value).all (·.oneCell') = true := by simp [Value.oneCell']
def J.twice (p : J) : J := if p = J.far then p else (p.over (aj p.y p.y)).along (tj (mj (sj p.x (mj p.z p.z)) (aj p.x (mj p.z p.z)))) (p.over (aj p.y p.y)).x
theorem J.twice_far {p : J} (h : p = J.far) : p.twice = p := if_pos h
theorem J.twice_not {p : J} (h : ¬ p = J.far) : p.twice = (p.over (aj p.y p.y)).along (tj (mj (sj p.x (mj p.z p.z)) (aj p.x (mj p.z p.z)))) (p.over (aj p.y p.y)).x := if_neg h
theorem J.twice_ok {p : J} (h : p.ok) : p.twice.ok := by
  by_cases hf : p = J.far
  · rw [J.twice_far hf]; exact h
  · rw [J.twice_not hf]; exact J.along_ok _ _ _ (J.over_ok _ _).2.2
theorem eq_far {p : J} (hp : p.ok) : ∀ w, (Op.equalIn 10000 162 p.v (.agg #[.int .u64 0, .int .u64 0, .int .u64 0, .int .u64 0, .int .u64 0, .int .u64 0, .int .u64 0, .int .u64 0, .int .u64 0, .int .u64 0, .int .u64 0, .int .u64 0])).run Tryz.prog w = .ok (decide (p = J.far)) w := fun w => by
  have h := eqJ p.x p.y p.z 0 0 0 hp.1 hp.2.1 hp.2.2 (by decide) (by decide) (by decide) w
  have e : jn 0 0 0 = .agg #[.int .u64 0, .int .u64 0, .int .u64 0, .int .u64 0, .int .u64 0, .int .u64 0, .int .u64 0, .int .u64 0, .int .u64 0, .int .u64 0, .int .u64 0, .int .u64 0] := rfl
  rw [e] at h
  have e2 : decide (p = J.far) = decide (p.x = 0 ∧ p.y = 0 ∧ p.z = 0) := by
    congr 1
    obtain ⟨x, y, z⟩ := p
    simp [J.far]
  rw [e2]
  exact h
set_option maxHeartbeats 16000000 in
theorem twice_c (p : J) (hp : p.ok) (w : World) :
    Calls Tryz.prog 168 #[p.v] w fun e w' => e = .returned p.twice.v ∧ Below w.heap.size w w' := by
  have HE := Lib.hid (eq_far hp)
  have hp' := hp
  obtain ⟨x, y, z⟩ := p
  obtain ⟨hx, hy, hz⟩ := hp'
  simp only [] at hx hy hz
  have H0 := Lib.hid (mulj hz hz)
  have H1 := Lib.hid (subj hx (mj_lt z z))
  have H2 := Lib.hid (addj hx (mj_lt z z))
  have H3 := Lib.hid (mulj (sj_lt x (mj z z)) (aj_lt x (mj z z)))
  have H4 := Lib.hid (tripj (mj_lt (sj x (mj z z)) (aj x (mj z z))))
  have H5 := Lib.hid (addj hy hy)
  have H6 := Lib.hid (overj hp (aj_lt y y))
  have H7 := Lib.hid (alongj (J.over_ok ⟨x, y, z⟩ (aj y y)) (tj_lt (mj (sj x (mj z z)) (aj x (mj z z)))) (J.over_ok ⟨x, y, z⟩ (aj y y)).1)
  by_cases hf : (⟨x, y, z⟩ : J) = J.far
  · rw [J.twice_far hf]
    have hd : decide ((⟨x, y, z⟩ : J) = J.far) = true := decide_eq_true hf
    rw [hd] at HE
    have heq := HE.out
    clear HE hd hf hp hx hy hz H0 H1 H2 H3 H4 H5 H6 H7
    simp only [J.v, jn] at heq ⊢
    go_enter Tryz.func168, Tryz.ntmps168
    go_wp2_with fail
    refine ret_cell93 rfl (w.heap.size + 1) x y z rfl (Bk.new (by simp)) rfl ⟨rfl, ?_⟩
    go_grown
  · rw [J.twice_not hf]
    have hd : decide ((⟨x, y, z⟩ : J) = J.far) = false := decide_eq_false hf
    rw [hd] at HE
    simp only []
    generalize hq : (⟨x, y, z⟩ : J).over (aj y y) = q at *
    obtain ⟨qx, qy, qz⟩ := q
    simp only [] at H7
    generalize (J.along ⟨qx, qy, qz⟩ (tj (mj (sj x (mj z z)) (aj x (mj z z)))) qx) = res at *
    generalize tj (mj (sj x (mj z z)) (aj x (mj z z))) = rise at *
    generalize mj (sj x (mj z z)) (aj x (mj z z)) = mm at *
    generalize sj x (mj z z) = dd at *
    generalize aj x (mj z z) = ss at *
    generalize mj z z = sq at *
    generalize aj y y = yy at *
    obtain ⟨rx, ry, rz⟩ := res
    have heq := HE.out
    clear HE hd hf hp hx hy hz hq
    simp only [J.v, jn, nv, num] at H0 H1 H2 H3 H4 H5 H6 H7 heq ⊢
    go_enter Tryz.func168, Tryz.ntmps168
    go_wp2_with fail
    refine (keep w.heap.size w (H0.out _) (by go_grown) (Nat.le_refl _)).mono ?_
    rintro e w1 ⟨rfl, hb, hk⟩
    have KP : Hid (Bk 162 w1 w.heap.size #[.int .u64 (lb x 0 : Nat), .int .u64 (lb x 1 : Nat), .int .u64 (lb x 2 : Nat), .int .u64 (lb x 3 : Nat), .int .u64 (lb y 0 : Nat), .int .u64 (lb y 1 : Nat), .int .u64 (lb y 2 : Nat), .int .u64 (lb y 3 : Nat), .int .u64 (lb z 0 : Nat), .int .u64 (lb z 1 : Nat), .int .u64 (lb z 2 : Nat), .int .u64 (lb z 3 : Nat)]) := Lib.hid (Bk.below (Bk.alloc (Bk.new rfl)) hk)
    have KZ : Hid (Bk 162 w1 (w.heap.size + 1) #[.int .u64 0, .int .u64 0, .int .u64 0, .int .u64 0, .int .u64 0, .int .u64 0, .int .u64 0, .int .u64 0, .int .u64 0, .int .u64 0, .int .u64 0, .int .u64 0]) := Lib.hid (Bk.below (Bk.new (by simp)) hk)
    have HB := Lib.hid hb
    clear hk hb H0 heq
    go_wp2_with fail
    have KP1 : Hid (Bk 162 (w1.alloc (.cells #[.int .u64 (lb sq 0 : Nat), .int .u64 (lb sq 1 : Nat), .int .u64 (lb sq 2 : Nat), .int .u64 (lb sq 3 : Nat)] 24)) w.heap.size #[.int .u64 (lb x 0 : Nat), .int .u64 (lb x 1 : Nat), .int .u64 (lb x 2 : Nat), .int .u64 (lb x 3 : Nat), .int .u64 (lb y 0 : Nat), .int .u64 (lb y 1 : Nat), .int .u64 (lb y 2 : Nat), .int .u64 (lb y 3 : Nat), .int .u64 (lb z 0 : Nat), .int .u64 (lb z 1 : Nat), .int .u64 (lb z 2 : Nat), .int .u64 (lb z 3 : Nat)]) := Lib.hid (Bk.alloc KP.out)
    have KZ1 : Hid (Bk 162 (w1.alloc (.cells #[.int .u64 (lb sq 0 : Nat), .int .u64 (lb sq 1 : Nat), .int .u64 (lb sq 2 : Nat), .int .u64 (lb sq 3 : Nat)] 24)) (w.heap.size + 1) #[.int .u64 0, .int .u64 0, .int .u64 0, .int .u64 0, .int .u64 0, .int .u64 0, .int .u64 0, .int .u64 0, .int .u64 0, .int .u64 0, .int .u64 0, .int .u64 0]) := Lib.hid (Bk.alloc KZ.out)
    have KS1 : Hid (Bk 24 (w1.alloc (.cells #[.int .u64 (lb sq 0 : Nat), .int .u64 (lb sq 1 : Nat), .int .u64 (lb sq 2 : Nat), .int .u64 (lb sq 3 : Nat)] 24)) w1.heap.size #[.int .u64 (lb sq 0 : Nat), .int .u64 (lb sq 1 : Nat), .int .u64 (lb sq 2 : Nat), .int .u64 (lb sq 3 : Nat)]) := Lib.hid (Bk.new rfl)
    have HB1 : Hid (Below w.heap.size w (w1.alloc (.cells #[.int .u64 (lb sq 0 : Nat), .int .u64 (lb sq 1 : Nat), .int .u64 (lb sq 2 : Nat), .int .u64 (lb sq 3 : Nat)] 24))) := Lib.hid (by have hb := HB.out; have hs := hb.size; go_grown)
    generalize (w1.alloc (.cells #[.int .u64 (lb sq 0 : Nat), .int .u64 (lb sq 1 : Nat), .int .u64 (lb sq 2 : Nat), .int .u64 (lb sq 3 : Nat)] 24)) = W at KP1 KZ1 KS1 HB1 ⊢
    obtain ⟨gz, hgz⟩ : ∃ z, z = w.heap.size + 1 := ⟨_, rfl⟩
    rw [← hgz] at KZ1 ⊢
    generalize w1.heap.size = gs at KS1 ⊢
    have HG := Lib.hid (show w.heap.size ≤ gz ∧ w.heap.size ≠ gz by omega)
    clear hgz KP KZ HB
    obtain ⟨gp, hgp⟩ : ∃ z, z = w.heap.size := ⟨_, rfl⟩
    have hgp' := hgp
    have e : (Value.pointer (some ⟨w.heap.size, 0, none⟩)) = .pointer (some ⟨gp, 0, none⟩) := by rw [hgp]
    rw [e]
    rw [← hgp] at KP1
    have HGP := Lib.hid hgp
    clear e hgp hgp'
    refine tw4 gp gs x y z sq dd ss mm rise W KP1.out KS1.out H1 H2 H3 H4 ?_
    intro _ _ _ _ _ _ _ _ _ _ g10 W2 hb2 hg10 hk10
    have KP2 := Lib.hid (KP1.out.below hb2)
    have KZ2 := Lib.hid (KZ1.out.below hb2)
    have K10 := Lib.hid hk10
    have HB2 := Lib.hid (HB1.out.trans (hb2.mono HB1.out.size))
    have HN : Hid (gp ≠ g10 ∧ gz ≠ g10 ∧ gp ≠ gz ∧ w.heap.size ≤ gp) := Lib.hid ⟨Nat.ne_of_lt (Nat.lt_of_lt_of_le KP1.out.lt hg10), Nat.ne_of_lt (Nat.lt_of_lt_of_le KZ1.out.lt hg10), by rw [HGP.out]; exact HG.out.2, Nat.le_of_eq HGP.out.symm⟩
    clear KP1 KZ1 KS1 HB1 hb2 hg10 hk10 H1 H2 H3 H4 HGP
    go_wp2_with fail
    obtain ⟨⟨x0, x1, x2, x3⟩, ⟨y0, y1, y2, y3⟩, z0, z1, z2, z3⟩ := KP2.out.reg12
    refine wp_region_below_tail 7 mixed (by kernel_rfl) ?_
    simp only [List.take_succ_cons, List.take_zero, List.drop_succ_cons, List.drop_zero]
    iterate 5 go_big_quiet_step (fail)
    go_big_quiet_step (exact qg H5.out)
    go_big_quiet_step (exact qg H6.out)
    refine wpQuiet_nil ?_
    intro _ hw'
    obtain ⟨⟨dq, osq⟩, hw''⟩ := hw'
    subst hw''
    have KP3 := Lib.hid (KP2.out.regrown dq osq)
    have KZ3 := Lib.hid (KZ2.out.regrown dq osq)
    have K103 := Lib.hid (K10.out.regrown dq osq)
    have HB3 := Lib.hid (HB2.out.trans ((below_regrown W2 dq osq).mono HB2.out.size))
    clear KP2 KZ2 K10 HB2 x0 x1 x2 x3 y0 y1 y2 y3 z0 z1 z2 z3 H5 H6
    generalize grow (redrawn W2 dq) osq = V at KP3 KZ3 K103 HB3 ⊢
    refine wpList_put rfl 162 (.tmp 1) (.tmp 30) rfl gp #[.int .u64 (lb x 0 : Nat), .int .u64 (lb x 1 : Nat), .int .u64 (lb x 2 : Nat), .int .u64 (lb x 3 : Nat), .int .u64 (lb y 0 : Nat), .int .u64 (lb y 1 : Nat), .int .u64 (lb y 2 : Nat), .int .u64 (lb y 3 : Nat), .int .u64 (lb z 0 : Nat), .int .u64 (lb z 1 : Nat), .int .u64 (lb z 2 : Nat), .int .u64 (lb z 3 : Nat)] #[.int .u64 (lb qx 0 : Nat), .int .u64 (lb qx 1 : Nat), .int .u64 (lb qx 2 : Nat), .int .u64 (lb qx 3 : Nat), .int .u64 (lb qy 0 : Nat), .int .u64 (lb qy 1 : Nat), .int .u64 (lb qy 2 : Nat), .int .u64 (lb qy 3 : Nat), .int .u64 (lb qz 0 : Nat), .int .u64 (lb qz 1 : Nat), .int .u64 (lb qz 2 : Nat), .int .u64 (lb qz 3 : Nat)] rfl rfl KP3.out i93 rfl (one12 _ _ _) ?_
    have KP4 : Hid (Bk 162 (V.setRow gp #[.int .u64 (lb qx 0 : Nat), .int .u64 (lb qx 1 : Nat), .int .u64 (lb qx 2 : Nat), .int .u64 (lb qx 3 : Nat), .int .u64 (lb qy 0 : Nat), .int .u64 (lb qy 1 : Nat), .int .u64 (lb qy 2 : Nat), .int .u64 (lb qy 3 : Nat), .int .u64 (lb qz 0 : Nat), .int .u64 (lb qz 1 : Nat), .int .u64 (lb qz 2 : Nat), .int .u64 (lb qz 3 : Nat)]) gp #[.int .u64 (lb qx 0 : Nat), .int .u64 (lb qx 1 : Nat), .int .u64 (lb qx 2 : Nat), .int .u64 (lb qx 3 : Nat), .int .u64 (lb qy 0 : Nat), .int .u64 (lb qy 1 : Nat), .int .u64 (lb qy 2 : Nat), .int .u64 (lb qy 3 : Nat), .int .u64 (lb qz 0 : Nat), .int .u64 (lb qz 1 : Nat), .int .u64 (lb qz 2 : Nat), .int .u64 (lb qz 3 : Nat)]) := Lib.hid KP3.out.row
    have KZ5 : Hid (Bk 162 (V.setRow gp #[.int .u64 (lb qx 0 : Nat), .int .u64 (lb qx 1 : Nat), .int .u64 (lb qx 2 : Nat), .int .u64 (lb qx 3 : Nat), .int .u64 (lb qy 0 : Nat), .int .u64 (lb qy 1 : Nat), .int .u64 (lb qy 2 : Nat), .int .u64 (lb qy 3 : Nat), .int .u64 (lb qz 0 : Nat), .int .u64 (lb qz 1 : Nat), .int .u64 (lb qz 2 : Nat), .int .u64 (lb qz 3 : Nat)]) gz #[.int .u64 0, .int .u64 0, .int .u64 0, .int .u64 0, .int .u64 0, .int .u64 0, .int .u64 0, .int .u64 0, .int .u64 0, .int .u64 0, .int .u64 0, .int .u64 0]) := Lib.hid (Bk.rowo (Ne.symm HN.out.2.2.1) KZ3.out)
    have K104 : Hid (Bk 24 (V.setRow gp #[.int .u64 (lb qx 0 : Nat), .int .u64 (lb qx 1 : Nat), .int .u64 (lb qx 2 : Nat), .int .u64 (lb qx 3 : Nat), .int .u64 (lb qy 0 : Nat), .int .u64 (lb qy 1 : Nat), .int .u64 (lb qy 2 : Nat), .int .u64 (lb qy 3 : Nat), .int .u64 (lb qz 0 : Nat), .int .u64 (lb qz 1 : Nat), .int .u64 (lb qz 2 : Nat), .int .u64 (lb qz 3 : Nat)]) g10 #[.int .u64 (lb rise 0 : Nat), .int .u64 (lb rise 1 : Nat), .int .u64 (lb rise 2 : Nat), .int .u64 (lb rise 3 : Nat)]) := Lib.hid (Bk.rowo (Ne.symm HN.out.1) K103.out)
    have HB5 : Hid (Below w.heap.size w (V.setRow gp #[.int .u64 (lb qx 0 : Nat), .int .u64 (lb qx 1 : Nat), .int .u64 (lb qx 2 : Nat), .int .u64 (lb qx 3 : Nat), .int .u64 (lb qy 0 : Nat), .int .u64 (lb qy 1 : Nat), .int .u64 (lb qy 2 : Nat), .int .u64 (lb qy 3 : Nat), .int .u64 (lb qz 0 : Nat), .int .u64 (lb qz 1 : Nat), .int .u64 (lb qz 2 : Nat), .int .u64 (lb qz 3 : Nat)])) := Lib.hid (below_setRow HB3.out HN.out.2.2.2 _)
    generalize (V.setRow gp #[.int .u64 (lb qx 0 : Nat), .int .u64 (lb qx 1 : Nat), .int .u64 (lb qx 2 : Nat), .int .u64 (lb qx 3 : Nat), .int .u64 (lb qy 0 : Nat), .int .u64 (lb qy 1 : Nat), .int .u64 (lb qy 2 : Nat), .int .u64 (lb qy 3 : Nat), .int .u64 (lb qz 0 : Nat), .int .u64 (lb qz 1 : Nat), .int .u64 (lb qz 2 : Nat), .int .u64 (lb qz 3 : Nat)]) = V5 at KP4 KZ5 K104 HB5 ⊢
    clear KP3 KZ3 K103 HB3
    obtain ⟨⟨c0, c1, c2, c3⟩, ⟨c4, c5, c6, c7⟩, c8, c9, c10, c11⟩ := KP4.out.cells12
    obtain ⟨r0, r1, r2, r3⟩ := K104.out.cells
    go_wp2_with fail
    refine (keep w.heap.size w (H7.out _) HB5.out (Nat.le_refl _)).mono ?_
    rintro e w4 ⟨rfl, hb, hk⟩
    have KZ4 := Lib.hid (Bk.below KZ5.out hk)
    have HB4 := Lib.hid hb
    clear hk hb KP4 K104 KZ5 HB5 H7 c0 c1 c2 c3 c4 c5 c6 c7 c8 c9 c10 c11 r0 r1 r2 r3
    obtain ⟨⟨f0, f1, f2, f3⟩, ⟨f4, f5, f6, f7⟩, f8, f9, f10, f11⟩ := KZ4.out.fros12
    obtain ⟨⟨c0, c1, c2, c3⟩, ⟨c4, c5, c6, c7⟩, c8, c9, c10, c11⟩ := KZ4.out.cells12
    go_wp2_with fail
    refine ret_cell93 rfl gz rx ry rz rfl (Bk.put12 KZ4.out) rfl ⟨rfl, ?_⟩
    have hb := HB4.out
    have hg := HG.out.1
    go_grown
theorem twicej {p : J} (hp : p.ok) : ∀ w, Calls Tryz.prog 168 #[p.v] w fun e w' => e = .returned p.twice.v ∧ Below w.heap.size w w' := twice_c p hp
def J.plus (p q : J) : J :=
  if p = J.far then q else if q = J.far then p
  else if p.over q.z = q.over p.z then (p.over q.z).twice
  else if (p.over q.z).x = (q.over p.z).x then J.far
  else ((p.over q.z).over (sj (q.over p.z).x (p.over q.z).x)).along (sj (q.over p.z).y (p.over q.z).y) (mj (q.over p.z).x (mj (sj (q.over p.z).x (p.over q.z).x) (sj (q.over p.z).x (p.over q.z).x)))
section
variable {p q : J}
theorem J.plus_1 (h : p = J.far) : p.plus q = q := if_pos h
theorem J.plus_2 (h : ¬ p = J.far) (h2 : q = J.far) : p.plus q = p := (if_neg h).trans (if_pos h2)
theorem J.plus_3 (h : ¬ p = J.far) (h2 : ¬ q = J.far) (h3 : p.over q.z = q.over p.z) : p.plus q = (p.over q.z).twice := (if_neg h).trans ((if_neg h2).trans (if_pos h3))
theorem J.plus_4 (h : ¬ p = J.far) (h2 : ¬ q = J.far) (h3 : ¬ p.over q.z = q.over p.z) (h4 : (p.over q.z).x = (q.over p.z).x) : p.plus q = J.far := (if_neg h).trans ((if_neg h2).trans ((if_neg h3).trans (if_pos h4)))
theorem J.plus_5 (h : ¬ p = J.far) (h2 : ¬ q = J.far) (h3 : ¬ p.over q.z = q.over p.z) (h4 : ¬ (p.over q.z).x = (q.over p.z).x) : p.plus q =
  ((p.over q.z).over (sj (q.over p.z).x (p.over q.z).x)).along (sj (q.over p.z).y (p.over q.z).y) (mj (q.over p.z).x (mj (sj (q.over p.z).x (p.over q.z).x) (sj (q.over p.z).x (p.over q.z).x))) := (if_neg h).trans ((if_neg h2).trans ((if_neg h3).trans (if_neg h4)))
end
theorem J.far_ok : J.far.ok := ⟨by decide, by decide, by decide⟩
theorem J.plus_ok {p q : J} (hp : p.ok) (hq : q.ok) : (p.plus q).ok := by
  by_cases h1 : p = J.far
  · rw [J.plus_1 h1]; exact hq
  · by_cases h2 : q = J.far
    · rw [J.plus_2 h1 h2]; exact hp
    · by_cases h3 : p.over q.z = q.over p.z
      · rw [J.plus_3 h1 h2 h3]; exact J.twice_ok (J.over_ok _ _)
      · by_cases h4 : (p.over q.z).x = (q.over p.z).x
        · rw [J.plus_4 h1 h2 h3 h4]; exact J.far_ok
        · rw [J.plus_5 h1 h2 h3 h4]; exact J.along_ok _ _ _ (J.over_ok _ _).2.2
theorem eq_j {p q : J} (hp : p.ok) (hq : q.ok) : ∀ w, (Op.equalIn 10000 162 p.v q.v).run Tryz.prog w = .ok (decide (p = q)) w := fun w => by
  have h := eqJ p.x p.y p.z q.x q.y q.z hp.1 hp.2.1 hp.2.2 hq.1 hq.2.1 hq.2.2 w
  have e2 : decide (p = q) = decide (p.x = q.x ∧ p.y = q.y ∧ p.z = q.z) := by
    congr 1
    obtain ⟨x, y, z⟩ := p
    obtain ⟨u, v, s⟩ := q
    simp
  rw [e2]
  exact h
set_option maxHeartbeats 16000000 in
theorem plus_c (p q : J) (hp : p.ok) (hq : q.ok) (w : World) :
    Calls Tryz.prog 158 #[p.v, q.v] w fun e w' => e = .returned (p.plus q).v ∧ Below w.heap.size w w' := by
  have HEP := Lib.hid (eq_far hp)
  have HEQ := Lib.hid (eq_far hq)
  by_cases h1 : p = J.far
  · rw [J.plus_1 h1]
    rw [decide_eq_true h1] at HEP
    have heq := HEP.out
    clear HEP HEQ h1 hp hq
    obtain ⟨x, y, z⟩ := p
    obtain ⟨u, v, s⟩ := q
    simp only [J.v, jn] at heq ⊢
    go_enter Tryz.func158, Tryz.ntmps158
    go_wp2_with fail
    refine ret_cell93 rfl (w.heap.size + 1 + 1) u v s rfl (Bk.new (by simp)) rfl ⟨rfl, ?_⟩
    go_grown
  by_cases h2 : q = J.far
  · rw [J.plus_2 h1 h2]
    rw [decide_eq_false h1] at HEP
    rw [decide_eq_true h2] at HEQ
    have heq := HEP.out
    have heq2 := HEQ.out
    clear HEP HEQ h1 h2 hp hq
    obtain ⟨x, y, z⟩ := p
    obtain ⟨u, v, s⟩ := q
    simp only [J.v, jn] at heq heq2 ⊢
    go_enter Tryz.func158, Tryz.ntmps158
    go_wp2_with fail
    refine ret_cell93 rfl (w.heap.size + 1 + 1) x y z rfl (Bk.new (by simp)) rfl ⟨rfl, ?_⟩
    go_grown
  rw [decide_eq_false h1] at HEP
  rw [decide_eq_false h2] at HEQ
  have H1 := Lib.hid (overj hp hq.2.2)
  have H2 := Lib.hid (overj hq hp.2.2)
  have HE3 := Lib.hid (eq_j (J.over_ok p q.z) (J.over_ok q p.z))
  have HE4 := Lib.hid (fun w => eqN (p.over q.z).x (q.over p.z).x (J.over_ok p q.z).1 (J.over_ok q p.z).1 w)
  have HTW := Lib.hid (twicej (J.over_ok p q.z))
  have H3 := Lib.hid (subj (J.over_ok q p.z).1 (J.over_ok p q.z).1)
  have H4 := Lib.hid (subj (J.over_ok q p.z).2.1 (J.over_ok p q.z).2.1)
  have H5 := Lib.hid (overj (J.over_ok p q.z) (sj_lt (q.over p.z).x (p.over q.z).x))
  have H6 := Lib.hid (mulj (sj_lt (q.over p.z).x (p.over q.z).x) (sj_lt (q.over p.z).x (p.over q.z).x))
  have H7 := Lib.hid (mulj (J.over_ok q p.z).1 (mj_lt (sj (q.over p.z).x (p.over q.z).x) (sj (q.over p.z).x (p.over q.z).x)))
  have H8 := Lib.hid (alongj (J.over_ok (p.over q.z) (sj (q.over p.z).x (p.over q.z).x)) (sj_lt (q.over p.z).y (p.over q.z).y) (mj_lt (q.over p.z).x (mj (sj (q.over p.z).x (p.over q.z).x) (sj (q.over p.z).x (p.over q.z).x))))
  have HP : Hid ((p.over q.z = q.over p.z → p.plus q = (p.over q.z).twice) ∧ (¬ p.over q.z = q.over p.z → (p.over q.z).x = (q.over p.z).x → p.plus q = J.far) ∧ (¬ p.over q.z = q.over p.z → ¬ (p.over q.z).x = (q.over p.z).x → p.plus q = ((p.over q.z).over (sj (q.over p.z).x (p.over q.z).x)).along (sj (q.over p.z).y (p.over q.z).y) (mj (q.over p.z).x (mj (sj (q.over p.z).x (p.over q.z).x) (sj (q.over p.z).x (p.over q.z).x))))) :=
    Lib.hid ⟨J.plus_3 h1 h2, J.plus_4 h1 h2, J.plus_5 h1 h2⟩
  clear h1 h2 hp hq
  generalize p.plus q = res at HP ⊢
  generalize p.over q.z = a at *
  generalize q.over p.z = b at *
  obtain ⟨x, y, z⟩ := p
  obtain ⟨u, v, s⟩ := q
  obtain ⟨ax, ay, az⟩ := a
  obtain ⟨bx, bys, bz⟩ := b
  simp only [] at HE4 H3 H4 H5 H6 H7 H8 HP
  generalize (J.mk ax ay az).twice = tw at *
  generalize ((J.mk ax ay az).over (sj bx ax)) = aa at *
  generalize aa.along (sj bys ay) (mj bx (mj (sj bx ax) (sj bx ax))) = al at *
  generalize mj bx (mj (sj bx ax) (sj bx ax)) = m7 at *
  generalize mj (sj bx ax) (sj bx ax) = m6 at *
  generalize sj bx ax = run at *
  generalize sj bys ay = rise at *
  obtain ⟨tx, ty, tz⟩ := tw
  obtain ⟨cx, cy, cz⟩ := aa
  obtain ⟨dx, dy, dz⟩ := al
  have heq := HEP.out
  have heq2 := HEQ.out
  clear HEP HEQ
  simp only [J.v, jn, nv, num] at heq heq2 H1 H2 HE3 HTW H3 H4 H5 H6 H7 H8
  show Calls Tryz.prog 158 #[.agg #[.int .u64 (lb x 0 : Nat), .int .u64 (lb x 1 : Nat), .int .u64 (lb x 2 : Nat), .int .u64 (lb x 3 : Nat), .int .u64 (lb y 0 : Nat), .int .u64 (lb y 1 : Nat), .int .u64 (lb y 2 : Nat), .int .u64 (lb y 3 : Nat), .int .u64 (lb z 0 : Nat), .int .u64 (lb z 1 : Nat), .int .u64 (lb z 2 : Nat), .int .u64 (lb z 3 : Nat)], .agg #[.int .u64 (lb u 0 : Nat), .int .u64 (lb u 1 : Nat), .int .u64 (lb u 2 : Nat), .int .u64 (lb u 3 : Nat), .int .u64 (lb v 0 : Nat), .int .u64 (lb v 1 : Nat), .int .u64 (lb v 2 : Nat), .int .u64 (lb v 3 : Nat), .int .u64 (lb s 0 : Nat), .int .u64 (lb s 1 : Nat), .int .u64 (lb s 2 : Nat), .int .u64 (lb s 3 : Nat)]] w _
  go_enter Tryz.func158, Tryz.ntmps158
  have KP : Hid (Bk 162 (((w.alloc (.cells #[.int .u64 (lb x 0 : Nat), .int .u64 (lb x 1 : Nat), .int .u64 (lb x 2 : Nat), .int .u64 (lb x 3 : Nat), .int .u64 (lb y 0 : Nat), .int .u64 (lb y 1 : Nat), .int .u64 (lb y 2 : Nat), .int .u64 (lb y 3 : Nat), .int .u64 (lb z 0 : Nat), .int .u64 (lb z 1 : Nat), .int .u64 (lb z 2 : Nat), .int .u64 (lb z 3 : Nat)] 162)).alloc (.cells #[.int .u64 (lb u 0 : Nat), .int .u64 (lb u 1 : Nat), .int .u64 (lb u 2 : Nat), .int .u64 (lb u 3 : Nat), .int .u64 (lb v 0 : Nat), .int .u64 (lb v 1 : Nat), .int .u64 (lb v 2 : Nat), .int .u64 (lb v 3 : Nat), .int .u64 (lb s 0 : Nat), .int .u64 (lb s 1 : Nat), .int .u64 (lb s 2 : Nat), .int .u64 (lb s 3 : Nat)] 162)).alloc (.cells #[.int .u64 0, .int .u64 0, .int .u64 0, .int .u64 0, .int .u64 0, .int .u64 0, .int .u64 0, .int .u64 0, .int .u64 0, .int .u64 0, .int .u64 0, .int .u64 0] 162)) w.heap.size #[.int .u64 (lb x 0 : Nat), .int .u64 (lb x 1 : Nat), .int .u64 (lb x 2 : Nat), .int .u64 (lb x 3 : Nat), .int .u64 (lb y 0 : Nat), .int .u64 (lb y 1 : Nat), .int .u64 (lb y 2 : Nat), .int .u64 (lb y 3 : Nat), .int .u64 (lb z 0 : Nat), .int .u64 (lb z 1 : Nat), .int .u64 (lb z 2 : Nat), .int .u64 (lb z 3 : Nat)]) := Lib.hid (Bk.alloc (Bk.alloc (Bk.new rfl)))
  have KQ : Hid (Bk 162 (((w.alloc (.cells #[.int .u64 (lb x 0 : Nat), .int .u64 (lb x 1 : Nat), .int .u64 (lb x 2 : Nat), .int .u64 (lb x 3 : Nat), .int .u64 (lb y 0 : Nat), .int .u64 (lb y 1 : Nat), .int .u64 (lb y 2 : Nat), .int .u64 (lb y 3 : Nat), .int .u64 (lb z 0 : Nat), .int .u64 (lb z 1 : Nat), .int .u64 (lb z 2 : Nat), .int .u64 (lb z 3 : Nat)] 162)).alloc (.cells #[.int .u64 (lb u 0 : Nat), .int .u64 (lb u 1 : Nat), .int .u64 (lb u 2 : Nat), .int .u64 (lb u 3 : Nat), .int .u64 (lb v 0 : Nat), .int .u64 (lb v 1 : Nat), .int .u64 (lb v 2 : Nat), .int .u64 (lb v 3 : Nat), .int .u64 (lb s 0 : Nat), .int .u64 (lb s 1 : Nat), .int .u64 (lb s 2 : Nat), .int .u64 (lb s 3 : Nat)] 162)).alloc (.cells #[.int .u64 0, .int .u64 0, .int .u64 0, .int .u64 0, .int .u64 0, .int .u64 0, .int .u64 0, .int .u64 0, .int .u64 0, .int .u64 0, .int .u64 0, .int .u64 0] 162)) (w.heap.size + 1) #[.int .u64 (lb u 0 : Nat), .int .u64 (lb u 1 : Nat), .int .u64 (lb u 2 : Nat), .int .u64 (lb u 3 : Nat), .int .u64 (lb v 0 : Nat), .int .u64 (lb v 1 : Nat), .int .u64 (lb v 2 : Nat), .int .u64 (lb v 3 : Nat), .int .u64 (lb s 0 : Nat), .int .u64 (lb s 1 : Nat), .int .u64 (lb s 2 : Nat), .int .u64 (lb s 3 : Nat)]) := Lib.hid (Bk.alloc (Bk.new (by simp)))
  have KZ : Hid (Bk 162 (((w.alloc (.cells #[.int .u64 (lb x 0 : Nat), .int .u64 (lb x 1 : Nat), .int .u64 (lb x 2 : Nat), .int .u64 (lb x 3 : Nat), .int .u64 (lb y 0 : Nat), .int .u64 (lb y 1 : Nat), .int .u64 (lb y 2 : Nat), .int .u64 (lb y 3 : Nat), .int .u64 (lb z 0 : Nat), .int .u64 (lb z 1 : Nat), .int .u64 (lb z 2 : Nat), .int .u64 (lb z 3 : Nat)] 162)).alloc (.cells #[.int .u64 (lb u 0 : Nat), .int .u64 (lb u 1 : Nat), .int .u64 (lb u 2 : Nat), .int .u64 (lb u 3 : Nat), .int .u64 (lb v 0 : Nat), .int .u64 (lb v 1 : Nat), .int .u64 (lb v 2 : Nat), .int .u64 (lb v 3 : Nat), .int .u64 (lb s 0 : Nat), .int .u64 (lb s 1 : Nat), .int .u64 (lb s 2 : Nat), .int .u64 (lb s 3 : Nat)] 162)).alloc (.cells #[.int .u64 0, .int .u64 0, .int .u64 0, .int .u64 0, .int .u64 0, .int .u64 0, .int .u64 0, .int .u64 0, .int .u64 0, .int .u64 0, .int .u64 0, .int .u64 0] 162)) (w.heap.size + 1 + 1) #[.int .u64 0, .int .u64 0, .int .u64 0, .int .u64 0, .int .u64 0, .int .u64 0, .int .u64 0, .int .u64 0, .int .u64 0, .int .u64 0, .int .u64 0, .int .u64 0]) := Lib.hid (Bk.new (by simp))
  have HB : Hid (Below w.heap.size w (((w.alloc (.cells #[.int .u64 (lb x 0 : Nat), .int .u64 (lb x 1 : Nat), .int .u64 (lb x 2 : Nat), .int .u64 (lb x 3 : Nat), .int .u64 (lb y 0 : Nat), .int .u64 (lb y 1 : Nat), .int .u64 (lb y 2 : Nat), .int .u64 (lb y 3 : Nat), .int .u64 (lb z 0 : Nat), .int .u64 (lb z 1 : Nat), .int .u64 (lb z 2 : Nat), .int .u64 (lb z 3 : Nat)] 162)).alloc (.cells #[.int .u64 (lb u 0 : Nat), .int .u64 (lb u 1 : Nat), .int .u64 (lb u 2 : Nat), .int .u64 (lb u 3 : Nat), .int .u64 (lb v 0 : Nat), .int .u64 (lb v 1 : Nat), .int .u64 (lb v 2 : Nat), .int .u64 (lb v 3 : Nat), .int .u64 (lb s 0 : Nat), .int .u64 (lb s 1 : Nat), .int .u64 (lb s 2 : Nat), .int .u64 (lb s 3 : Nat)] 162)).alloc (.cells #[.int .u64 0, .int .u64 0, .int .u64 0, .int .u64 0, .int .u64 0, .int .u64 0, .int .u64 0, .int .u64 0, .int .u64 0, .int .u64 0, .int .u64 0, .int .u64 0] 162))) := Lib.hid (by go_grown)
  go_wp2_with fail
  generalize (((w.alloc (.cells #[.int .u64 (lb x 0 : Nat), .int .u64 (lb x 1 : Nat), .int .u64 (lb x 2 : Nat), .int .u64 (lb x 3 : Nat), .int .u64 (lb y 0 : Nat), .int .u64 (lb y 1 : Nat), .int .u64 (lb y 2 : Nat), .int .u64 (lb y 3 : Nat), .int .u64 (lb z 0 : Nat), .int .u64 (lb z 1 : Nat), .int .u64 (lb z 2 : Nat), .int .u64 (lb z 3 : Nat)] 162)).alloc (.cells #[.int .u64 (lb u 0 : Nat), .int .u64 (lb u 1 : Nat), .int .u64 (lb u 2 : Nat), .int .u64 (lb u 3 : Nat), .int .u64 (lb v 0 : Nat), .int .u64 (lb v 1 : Nat), .int .u64 (lb v 2 : Nat), .int .u64 (lb v 3 : Nat), .int .u64 (lb s 0 : Nat), .int .u64 (lb s 1 : Nat), .int .u64 (lb s 2 : Nat), .int .u64 (lb s 3 : Nat)] 162)).alloc (.cells #[.int .u64 0, .int .u64 0, .int .u64 0, .int .u64 0, .int .u64 0, .int .u64 0, .int .u64 0, .int .u64 0, .int .u64 0, .int .u64 0, .int .u64 0, .int .u64 0] 162)) = W at KP KQ KZ HB ⊢
  obtain ⟨gq, hgq⟩ : ∃ z, z = w.heap.size + 1 := ⟨_, rfl⟩
  obtain ⟨gz, hgz⟩ : ∃ z, z = w.heap.size + 1 + 1 := ⟨_, rfl⟩
  rw [← hgz] at KZ ⊢
  rw [← hgq] at KQ ⊢
  obtain ⟨gp, hgp⟩ : ∃ z, z = w.heap.size := ⟨_, rfl⟩
  have e : (Value.pointer (some ⟨w.heap.size, 0, none⟩)) = .pointer (some ⟨gp, 0, none⟩) := by rw [hgp]
  rw [e]
  rw [← hgp] at KP
  have HG := Lib.hid (show w.heap.size ≤ gp ∧ w.heap.size ≤ gq ∧ w.heap.size ≤ gz ∧ gp ≠ gq ∧ gp ≠ gz ∧ gq ≠ gz by omega)
  clear e hgp hgq hgz heq heq2
  obtain ⟨⟨x0, x1, x2, x3⟩, ⟨y0, y1, y2, y3⟩, z0, z1, z2, z3⟩ := KP.out.reg12
  obtain ⟨⟨u0, u1, u2, u3⟩, ⟨v0, v1, v2, v3⟩, s0, s1, s2, s3⟩ := KQ.out.reg12
  refine wp_region_below_tail 8 mixed (by kernel_rfl) ?_
  simp only [List.take_succ_cons, List.take_zero, List.drop_succ_cons, List.drop_zero]
  iterate 3 go_big_quiet_step (fail)
  go_big_quiet_step (exact qg H1.out)
  iterate 3 go_big_quiet_step (fail)
  go_big_quiet_step (exact qg H2.out)
  refine wpQuiet_nil ?_
  intro _ hw'
  obtain ⟨⟨dq, osq⟩, hw''⟩ := hw'
  subst hw''
  have KP2 := Lib.hid (KP.out.regrown dq osq)
  have KQ2 := Lib.hid (KQ.out.regrown dq osq)
  have KZ2 := Lib.hid (KZ.out.regrown dq osq)
  have HB2 := Lib.hid (HB.out.trans ((below_regrown W dq osq).mono HB.out.size))
  clear KP KQ KZ HB x0 x1 x2 x3 y0 y1 y2 y3 z0 z1 z2 z3 u0 u1 u2 u3 v0 v1 v2 v3 s0 s1 s2 s3 H1 H2
  generalize grow (redrawn W dq) osq = V at KP2 KQ2 KZ2 HB2 ⊢
  refine wpList_put rfl 162 (.tmp 2) (.tmp 18) rfl gp #[.int .u64 (lb x 0 : Nat), .int .u64 (lb x 1 : Nat), .int .u64 (lb x 2 : Nat), .int .u64 (lb x 3 : Nat), .int .u64 (lb y 0 : Nat), .int .u64 (lb y 1 : Nat), .int .u64 (lb y 2 : Nat), .int .u64 (lb y 3 : Nat), .int .u64 (lb z 0 : Nat), .int .u64 (lb z 1 : Nat), .int .u64 (lb z 2 : Nat), .int .u64 (lb z 3 : Nat)] #[.int .u64 (lb ax 0 : Nat), .int .u64 (lb ax 1 : Nat), .int .u64 (lb ax 2 : Nat), .int .u64 (lb ax 3 : Nat), .int .u64 (lb ay 0 : Nat), .int .u64 (lb ay 1 : Nat), .int .u64 (lb ay 2 : Nat), .int .u64 (lb ay 3 : Nat), .int .u64 (lb az 0 : Nat), .int .u64 (lb az 1 : Nat), .int .u64 (lb az 2 : Nat), .int .u64 (lb az 3 : Nat)] rfl rfl KP2.out i93 rfl (one12 _ _ _) ?_
  have KP3 : Hid (Bk 162 (V.setRow gp #[.int .u64 (lb ax 0 : Nat), .int .u64 (lb ax 1 : Nat), .int .u64 (lb ax 2 : Nat), .int .u64 (lb ax 3 : Nat), .int .u64 (lb ay 0 : Nat), .int .u64 (lb ay 1 : Nat), .int .u64 (lb ay 2 : Nat), .int .u64 (lb ay 3 : Nat), .int .u64 (lb az 0 : Nat), .int .u64 (lb az 1 : Nat), .int .u64 (lb az 2 : Nat), .int .u64 (lb az 3 : Nat)]) gp #[.int .u64 (lb ax 0 : Nat), .int .u64 (lb ax 1 : Nat), .int .u64 (lb ax 2 : Nat), .int .u64 (lb ax 3 : Nat), .int .u64 (lb ay 0 : Nat), .int .u64 (lb ay 1 : Nat), .int .u64 (lb ay 2 : Nat), .int .u64 (lb ay 3 : Nat), .int .u64 (lb az 0 : Nat), .int .u64 (lb az 1 : Nat), .int .u64 (lb az 2 : Nat), .int .u64 (lb az 3 : Nat)]) := Lib.hid KP2.out.row
  have KQ3 : Hid (Bk 162 (V.setRow gp #[.int .u64 (lb ax 0 : Nat), .int .u64 (lb ax 1 : Nat), .int .u64 (lb ax 2 : Nat), .int .u64 (lb ax 3 : Nat), .int .u64 (lb ay 0 : Nat), .int .u64 (lb ay 1 : Nat), .int .u64 (lb ay 2 : Nat), .int .u64 (lb ay 3 : Nat), .int .u64 (lb az 0 : Nat), .int .u64 (lb az 1 : Nat), .int .u64 (lb az 2 : Nat), .int .u64 (lb az 3 : Nat)]) gq #[.int .u64 (lb u 0 : Nat), .int .u64 (lb u 1 : Nat), .int .u64 (lb u 2 : Nat), .int .u64 (lb u 3 : Nat), .int .u64 (lb v 0 : Nat), .int .u64 (lb v 1 : Nat), .int .u64 (lb v 2 : Nat), .int .u64 (lb v 3 : Nat), .int .u64 (lb s 0 : Nat), .int .u64 (lb s 1 : Nat), .int .u64 (lb s 2 : Nat), .int .u64 (lb s 3 : Nat)]) := Lib.hid (Bk.rowo (Ne.symm HG.out.2.2.2.1) KQ2.out)
  have KZ3 : Hid (Bk 162 (V.setRow gp #[.int .u64 (lb ax 0 : Nat), .int .u64 (lb ax 1 : Nat), .int .u64 (lb ax 2 : Nat), .int .u64 (lb ax 3 : Nat), .int .u64 (lb ay 0 : Nat), .int .u64 (lb ay 1 : Nat), .int .u64 (lb ay 2 : Nat), .int .u64 (lb ay 3 : Nat), .int .u64 (lb az 0 : Nat), .int .u64 (lb az 1 : Nat), .int .u64 (lb az 2 : Nat), .int .u64 (lb az 3 : Nat)]) gz #[.int .u64 0, .int .u64 0, .int .u64 0, .int .u64 0, .int .u64 0, .int .u64 0, .int .u64 0, .int .u64 0, .int .u64 0, .int .u64 0, .int .u64 0, .int .u64 0]) := Lib.hid (Bk.rowo (Ne.symm HG.out.2.2.2.2.1) KZ2.out)
  have HB3 : Hid (Below w.heap.size w (V.setRow gp #[.int .u64 (lb ax 0 : Nat), .int .u64 (lb ax 1 : Nat), .int .u64 (lb ax 2 : Nat), .int .u64 (lb ax 3 : Nat), .int .u64 (lb ay 0 : Nat), .int .u64 (lb ay 1 : Nat), .int .u64 (lb ay 2 : Nat), .int .u64 (lb ay 3 : Nat), .int .u64 (lb az 0 : Nat), .int .u64 (lb az 1 : Nat), .int .u64 (lb az 2 : Nat), .int .u64 (lb az 3 : Nat)])) := Lib.hid (below_setRow HB2.out HG.out.1 _)
  generalize (V.setRow gp #[.int .u64 (lb ax 0 : Nat), .int .u64 (lb ax 1 : Nat), .int .u64 (lb ax 2 : Nat), .int .u64 (lb ax 3 : Nat), .int .u64 (lb ay 0 : Nat), .int .u64 (lb ay 1 : Nat), .int .u64 (lb ay 2 : Nat), .int .u64 (lb ay 3 : Nat), .int .u64 (lb az 0 : Nat), .int .u64 (lb az 1 : Nat), .int .u64 (lb az 2 : Nat), .int .u64 (lb az 3 : Nat)]) = V3 at KP3 KQ3 KZ3 HB3 ⊢
  clear KP2 KQ2 KZ2 HB2
  refine wpList_put rfl 162 (.tmp 3) (.tmp 22) rfl gq #[.int .u64 (lb u 0 : Nat), .int .u64 (lb u 1 : Nat), .int .u64 (lb u 2 : Nat), .int .u64 (lb u 3 : Nat), .int .u64 (lb v 0 : Nat), .int .u64 (lb v 1 : Nat), .int .u64 (lb v 2 : Nat), .int .u64 (lb v 3 : Nat), .int .u64 (lb s 0 : Nat), .int .u64 (lb s 1 : Nat), .int .u64 (lb s 2 : Nat), .int .u64 (lb s 3 : Nat)] #[.int .u64 (lb bx 0 : Nat), .int .u64 (lb bx 1 : Nat), .int .u64 (lb bx 2 : Nat), .int .u64 (lb bx 3 : Nat), .int .u64 (lb bys 0 : Nat), .int .u64 (lb bys 1 : Nat), .int .u64 (lb bys 2 : Nat), .int .u64 (lb bys 3 : Nat), .int .u64 (lb bz 0 : Nat), .int .u64 (lb bz 1 : Nat), .int .u64 (lb bz 2 : Nat), .int .u64 (lb bz 3 : Nat)] rfl rfl KQ3.out i93 rfl (one12 _ _ _) ?_
  have KQ4 : Hid (Bk 162 (V3.setRow gq #[.int .u64 (lb bx 0 : Nat), .int .u64 (lb bx 1 : Nat), .int .u64 (lb bx 2 : Nat), .int .u64 (lb bx 3 : Nat), .int .u64 (lb bys 0 : Nat), .int .u64 (lb bys 1 : Nat), .int .u64 (lb bys 2 : Nat), .int .u64 (lb bys 3 : Nat), .int .u64 (lb bz 0 : Nat), .int .u64 (lb bz 1 : Nat), .int .u64 (lb bz 2 : Nat), .int .u64 (lb bz 3 : Nat)]) gq #[.int .u64 (lb bx 0 : Nat), .int .u64 (lb bx 1 : Nat), .int .u64 (lb bx 2 : Nat), .int .u64 (lb bx 3 : Nat), .int .u64 (lb bys 0 : Nat), .int .u64 (lb bys 1 : Nat), .int .u64 (lb bys 2 : Nat), .int .u64 (lb bys 3 : Nat), .int .u64 (lb bz 0 : Nat), .int .u64 (lb bz 1 : Nat), .int .u64 (lb bz 2 : Nat), .int .u64 (lb bz 3 : Nat)]) := Lib.hid KQ3.out.row
  have KP4 : Hid (Bk 162 (V3.setRow gq #[.int .u64 (lb bx 0 : Nat), .int .u64 (lb bx 1 : Nat), .int .u64 (lb bx 2 : Nat), .int .u64 (lb bx 3 : Nat), .int .u64 (lb bys 0 : Nat), .int .u64 (lb bys 1 : Nat), .int .u64 (lb bys 2 : Nat), .int .u64 (lb bys 3 : Nat), .int .u64 (lb bz 0 : Nat), .int .u64 (lb bz 1 : Nat), .int .u64 (lb bz 2 : Nat), .int .u64 (lb bz 3 : Nat)]) gp #[.int .u64 (lb ax 0 : Nat), .int .u64 (lb ax 1 : Nat), .int .u64 (lb ax 2 : Nat), .int .u64 (lb ax 3 : Nat), .int .u64 (lb ay 0 : Nat), .int .u64 (lb ay 1 : Nat), .int .u64 (lb ay 2 : Nat), .int .u64 (lb ay 3 : Nat), .int .u64 (lb az 0 : Nat), .int .u64 (lb az 1 : Nat), .int .u64 (lb az 2 : Nat), .int .u64 (lb az 3 : Nat)]) := Lib.hid (Bk.rowo HG.out.2.2.2.1 KP3.out)
  have KZ4 : Hid (Bk 162 (V3.setRow gq #[.int .u64 (lb bx 0 : Nat), .int .u64 (lb bx 1 : Nat), .int .u64 (lb bx 2 : Nat), .int .u64 (lb bx 3 : Nat), .int .u64 (lb bys 0 : Nat), .int .u64 (lb bys 1 : Nat), .int .u64 (lb bys 2 : Nat), .int .u64 (lb bys 3 : Nat), .int .u64 (lb bz 0 : Nat), .int .u64 (lb bz 1 : Nat), .int .u64 (lb bz 2 : Nat), .int .u64 (lb bz 3 : Nat)]) gz #[.int .u64 0, .int .u64 0, .int .u64 0, .int .u64 0, .int .u64 0, .int .u64 0, .int .u64 0, .int .u64 0, .int .u64 0, .int .u64 0, .int .u64 0, .int .u64 0]) := Lib.hid (Bk.rowo (Ne.symm HG.out.2.2.2.2.2) KZ3.out)
  have HB4 : Hid (Below w.heap.size w (V3.setRow gq #[.int .u64 (lb bx 0 : Nat), .int .u64 (lb bx 1 : Nat), .int .u64 (lb bx 2 : Nat), .int .u64 (lb bx 3 : Nat), .int .u64 (lb bys 0 : Nat), .int .u64 (lb bys 1 : Nat), .int .u64 (lb bys 2 : Nat), .int .u64 (lb bys 3 : Nat), .int .u64 (lb bz 0 : Nat), .int .u64 (lb bz 1 : Nat), .int .u64 (lb bz 2 : Nat), .int .u64 (lb bz 3 : Nat)])) := Lib.hid (below_setRow HB3.out HG.out.2.1 _)
  generalize (V3.setRow gq #[.int .u64 (lb bx 0 : Nat), .int .u64 (lb bx 1 : Nat), .int .u64 (lb bx 2 : Nat), .int .u64 (lb bx 3 : Nat), .int .u64 (lb bys 0 : Nat), .int .u64 (lb bys 1 : Nat), .int .u64 (lb bys 2 : Nat), .int .u64 (lb bys 3 : Nat), .int .u64 (lb bz 0 : Nat), .int .u64 (lb bz 1 : Nat), .int .u64 (lb bz 2 : Nat), .int .u64 (lb bz 3 : Nat)]) = V4 at KP4 KQ4 KZ4 HB4 ⊢
  clear KP3 KQ3 KZ3 HB3
  obtain ⟨⟨x0, x1, x2, x3⟩, ⟨y0, y1, y2, y3⟩, z0, z1, z2, z3⟩ := KP4.out.cells12
  obtain ⟨⟨u0, u1, u2, u3⟩, ⟨v0, v1, v2, v3⟩, s0, s1, s2, s3⟩ := KQ4.out.cells12
  by_cases h3 : (J.mk ax ay az) = (J.mk bx bys bz)
  · rw [decide_eq_true h3] at HE3
    have hres := HP.out.1 h3
    subst hres
    have heq := HE3.out
    clear h3 HE3 HE4 HP H3 H4 H5 H6 H7 H8
    go_wp2_with fail
    refine (keep w.heap.size w (HTW.out _) HB4.out (Nat.le_refl _)).mono ?_
    rintro e w5 ⟨rfl, hb, hk⟩
    have KZ5 := Lib.hid (KZ4.out.below hk)
    have HB5 := Lib.hid hb
    clear hk hb KP4 KQ4 KZ4 HB4 HTW x0 x1 x2 x3 y0 y1 y2 y3 z0 z1 z2 z3 u0 u1 u2 u3 v0 v1 v2 v3 s0 s1 s2 s3
    obtain ⟨⟨f0, f1, f2, f3⟩, ⟨f4, f5, f6, f7⟩, f8, f9, f10, f11⟩ := KZ5.out.fros12
    obtain ⟨⟨c0, c1, c2, c3⟩, ⟨c4, c5, c6, c7⟩, c8, c9, c10, c11⟩ := KZ5.out.cells12
    go_wp2_with fail
    refine ret_cell93 rfl gz tx ty tz rfl (Bk.put12 KZ5.out) rfl ⟨rfl, ?_⟩
    have hb := HB5.out
    have hg := HG.out.2.2.1
    go_grown
  rw [decide_eq_false h3] at HE3
  have heq := HE3.out
  clear HTW HE3
  by_cases h4 : ax = bx
  · rw [decide_eq_true h4] at HE4
    have hres := HP.out.2.1 h3 h4
    subst hres
    have heq4 : ∀ w, (Op.equalIn 10000 24 (.agg #[.int .u64 (lb ax 0 : Nat), .int .u64 (lb ax 1 : Nat), .int .u64 (lb ax 2 : Nat), .int .u64 (lb ax 3 : Nat)]) (.agg #[.int .u64 (lb bx 0 : Nat), .int .u64 (lb bx 1 : Nat), .int .u64 (lb bx 2 : Nat), .int .u64 (lb bx 3 : Nat)])).run Tryz.prog w = .ok true w := HE4.out
    clear h3 h4 HE4 HP H3 H4 H5 H6 H7 H8
    obtain ⟨⟨f0, f1, f2, f3⟩, ⟨f4, f5, f6, f7⟩, f8, f9, f10, f11⟩ := KZ4.out.fros12
    obtain ⟨⟨c0, c1, c2, c3⟩, ⟨c4, c5, c6, c7⟩, c8, c9, c10, c11⟩ := KZ4.out.cells12
    go_wp2_with fail
    refine ret_cell93 rfl gz 0 0 0 rfl (Bk.put12 KZ4.out) rfl ⟨rfl, ?_⟩
    have hb := HB4.out
    have hg := HG.out.2.2.1
    go_grown
  rw [decide_eq_false h4] at HE4
  have hres := HP.out.2.2 h3 h4
  subst hres
  have heq4 : ∀ w, (Op.equalIn 10000 24 (.agg #[.int .u64 (lb ax 0 : Nat), .int .u64 (lb ax 1 : Nat), .int .u64 (lb ax 2 : Nat), .int .u64 (lb ax 3 : Nat)]) (.agg #[.int .u64 (lb bx 0 : Nat), .int .u64 (lb bx 1 : Nat), .int .u64 (lb bx 2 : Nat), .int .u64 (lb bx 3 : Nat)])).run Tryz.prog w = .ok false w := HE4.out
  clear h3 h4 HE4 HP
  go_wp2_with fail
  clear x0 x1 x2 x3 y0 y1 y2 y3 z0 z1 z2 z3 u0 u1 u2 u3 v0 v1 v2 v3 s0 s1 s2 s3 heq heq4
  refine pl10 gp gq ax ay az bx bys bz run rise V4 KP4.out KQ4.out H3 H4 ?_
  intro _ _ _ _ _ _ _ _ _ _ g10 g11 W2 hb2 hg10 hg11 hk10 hk11 hn
  have KP5 := Lib.hid (KP4.out.below hb2)
  have KQ5 := Lib.hid (KQ4.out.below hb2)
  have KZ5 := Lib.hid (KZ4.out.below hb2)
  have K10 := Lib.hid hk10
  have K11 := Lib.hid hk11
  have HB5 := Lib.hid (HB4.out.trans (hb2.mono HB4.out.size))
  clear KP4 KQ4 KZ4 HB4 hb2 hg10 hg11 hk10 hk11 hn H3 H4
  go_wp2_with fail
  obtain ⟨⟨x0, x1, x2, x3⟩, ⟨y0, y1, y2, y3⟩, z0, z1, z2, z3⟩ := KP5.out.reg12
  obtain ⟨⟨u0, u1, u2, u3⟩, -⟩ := KQ5.out.reg12
  obtain ⟨r0, r1, r2, r3⟩ := K10.out.reg
  obtain ⟨s0, s1, s2, s3⟩ := K11.out.reg
  refine wp_region_below_tail 11 mixed (by kernel_rfl) ?_
  simp only [List.take_succ_cons, List.take_zero, List.drop_succ_cons, List.drop_zero]
  iterate 2 go_big_quiet_step (fail)
  go_big_quiet_step (exact qg H5.out)
  iterate 5 go_big_quiet_step (fail)
  go_big_quiet_step (exact qg H6.out)
  go_big_quiet_step (exact qg H7.out)
  go_big_quiet_step (exact qg H8.out)
  refine wpQuiet_nil ?_
  intro _ hw'
  obtain ⟨⟨dq, osq⟩, hw''⟩ := hw'
  subst hw''
  have KZ6 := Lib.hid (KZ5.out.regrown dq osq)
  have HB6 := Lib.hid (HB5.out.trans ((below_regrown W2 dq osq).mono HB5.out.size))
  clear KP5 KQ5 KZ5 K10 K11 HB5 x0 x1 x2 x3 y0 y1 y2 y3 z0 z1 z2 z3 u0 u1 u2 u3 r0 r1 r2 r3 s0 s1 s2 s3 H5 H6 H7 H8
  generalize grow (redrawn W2 dq) osq = V6 at KZ6 HB6 ⊢
  obtain ⟨⟨f0, f1, f2, f3⟩, ⟨f4, f5, f6, f7⟩, f8, f9, f10, f11⟩ := KZ6.out.fros12
  obtain ⟨⟨c0, c1, c2, c3⟩, ⟨c4, c5, c6, c7⟩, c8, c9, c10, c11⟩ := KZ6.out.cells12
  go_wp2_with fail
  refine ret_cell93 rfl gz dx dy dz rfl (Bk.put12 KZ6.out) rfl ⟨rfl, ?_⟩
  have hb := HB6.out
  have hg := HG.out.2.2.1
  go_grown
theorem plusj {p q : J} (hp : p.ok) (hq : q.ok) : ∀ w, Calls Tryz.prog 158 #[p.v, q.v] w fun e w' => e = .returned (p.plus q).v ∧ Below w.heap.size w w' := plus_c p q hp hq
def J.begin (x y : Nat) (i : Bool) : J := if i = true then J.far else ⟨x, y, 1⟩
theorem J.begin_ok {x y : Nat} {i : Bool} (hx : x < W256) (hy : y < W256) : (J.begin x y i).ok := by
  cases i
  · exact ⟨hx, hy, show 1 < W256 by decide⟩
  · exact J.far_ok
set_option maxHeartbeats 4000000 in
theorem begin_c (x y : Nat) (i : Bool) (w : World) :
    Calls Tryz.prog 144 #[pn x y i] w fun e w' => e = .returned (J.begin x y i).v ∧ Below w.heap.size w w' := by
  cases i
  · show Calls Tryz.prog 144 #[.agg #[.int .u64 (lb x 0 : Nat), .int .u64 (lb x 1 : Nat), .int .u64 (lb x 2 : Nat), .int .u64 (lb x 3 : Nat), .int .u64 (lb y 0 : Nat), .int .u64 (lb y 1 : Nat), .int .u64 (lb y 2 : Nat), .int .u64 (lb y 3 : Nat), .bool false]] w fun e w' => e = .returned (jn x y 1) ∧ Below w.heap.size w w'
    go_enter Tryz.func144, Tryz.ntmps144
    go_wp2_with fail
    refine ret_cell93 rfl (w.heap.size + 1) x y 1 rfl (Bk.new (by simp)) rfl ⟨rfl, ?_⟩
    go_grown
  · show Calls Tryz.prog 144 #[.agg #[.int .u64 (lb x 0 : Nat), .int .u64 (lb x 1 : Nat), .int .u64 (lb x 2 : Nat), .int .u64 (lb x 3 : Nat), .int .u64 (lb y 0 : Nat), .int .u64 (lb y 1 : Nat), .int .u64 (lb y 2 : Nat), .int .u64 (lb y 3 : Nat), .bool true]] w fun e w' => e = .returned (jn 0 0 0) ∧ Below w.heap.size w w'
    go_enter Tryz.func144, Tryz.ntmps144
    go_wp2_with fail
    refine ret_cell93 rfl (w.heap.size + 1) 0 0 0 rfl (Bk.new (by simp)) rfl ⟨rfl, ?_⟩
    go_grown
structure Po where
  x : Nat
  y : Nat
  i : Bool
deriving DecidableEq
def Po.v (p : Po) : Value := pn p.x p.y p.i
def Po.ok (p : Po) : Prop := p.x < W256 ∧ p.y < W256
def iN (z : Nat) : Nat := z ^ (mP - 2) % mP
theorem iN_lt (z : Nat) : iN z < W256 := mp_lt _
def J.point (p : J) : Po := if p = J.far then ⟨0, 0, true⟩ else ⟨(p.over (iN p.z)).x, (p.over (iN p.z)).y, false⟩
theorem J.point_far {p : J} (h : p = J.far) : p.point = ⟨0, 0, true⟩ := if_pos h
theorem J.point_not {p : J} (h : ¬ p = J.far) : p.point = ⟨(p.over (iN p.z)).x, (p.over (iN p.z)).y, false⟩ := if_neg h
theorem zero_pow_mod {z : Nat} (h : z % mP = 0) : iN z = 0 := by
  unfold iN
  rw [Nat.pow_mod, h, Nat.zero_pow (by decide +kernel), Nat.zero_mod]
theorem invj (z : Nat) (hz : z < W256) : ∃ e : Int, ∀ w, Calls Tryz.prog 157 #[.int .i64 0, nv z] w fun r w' => r = .returned (.tuple #[nv (iN z), .int .i64 e]) ∧ Below w.heap.size w w' := by
  have h := inv_any 0 z hz
  rw [md0] at h
  by_cases h0 : z % mP = 0
  · rw [if_pos h0] at h
    exact ⟨61, by rw [zero_pow_mod h0]; exact h⟩
  · rw [if_neg h0] at h
    exact ⟨0, h⟩
set_option maxHeartbeats 8000000 in
theorem point_c (p : J) (hp : p.ok) (w : World) :
    Calls Tryz.prog 145 #[p.v] w fun e w' => e = .returned p.point.v ∧ Below w.heap.size w w' := by
  have HE := Lib.hid (eq_far hp)
  by_cases hf : p = J.far
  · rw [J.point_far hf]
    rw [decide_eq_true hf] at HE
    have heq := HE.out
    clear HE hf hp
    obtain ⟨x, y, z⟩ := p
    simp only [J.v, jn] at heq ⊢
    go_enter Tryz.func145, Tryz.ntmps145
    go_wp2_with fail
    refine ret_cell51 rfl (w.heap.size + 1) 0 0 true rfl (Bk.new (by simp)) rfl ⟨rfl, ?_⟩
    go_grown
  · rw [J.point_not hf]
    rw [decide_eq_false hf] at HE
    have heq := HE.out
    obtain ⟨ec, hI⟩ := invj p.z hp.2.2
    have HI := Lib.hid hI
    have HO := Lib.hid (overj hp (iN_lt p.z))
    clear HE hf hp hI
    generalize p.over (iN p.z) = q at *
    generalize iN p.z = iz at *
    obtain ⟨x, y, z⟩ := p
    obtain ⟨qx, qy, qz⟩ := q
    simp only [J.v, jn, nv, num] at heq HI HO ⊢
    go_enter Tryz.func145, Tryz.ntmps145
    go_wp2_with fail
    refine (keep w.heap.size w (HI.out _) (by go_grown) (Nat.le_refl _)).mono ?_
    rintro e w1 ⟨rfl, hb, hk⟩
    have KP : Hid (Bk 162 w1 w.heap.size #[.int .u64 (lb x 0 : Nat), .int .u64 (lb x 1 : Nat), .int .u64 (lb x 2 : Nat), .int .u64 (lb x 3 : Nat), .int .u64 (lb y 0 : Nat), .int .u64 (lb y 1 : Nat), .int .u64 (lb y 2 : Nat), .int .u64 (lb y 3 : Nat), .int .u64 (lb z 0 : Nat), .int .u64 (lb z 1 : Nat), .int .u64 (lb z 2 : Nat), .int .u64 (lb z 3 : Nat)]) := Lib.hid (Bk.below (Bk.alloc (Bk.new rfl)) hk)
    have KZ : Hid (Bk 26 w1 (w.heap.size + 1) #[.int .u64 0, .int .u64 0, .int .u64 0, .int .u64 0, .int .u64 0, .int .u64 0, .int .u64 0, .int .u64 0, .bool false]) := Lib.hid (Bk.below (Bk.new (by simp)) hk)
    have HB := Lib.hid hb
    clear hk hb heq HI
    obtain ⟨⟨x0, x1, x2, x3⟩, ⟨y0, y1, y2, y3⟩, z0, z1, z2, z3⟩ := KP.out.cellsA12
    go_wp2_with fail
    refine (keep w.heap.size w (HO.out _) (by have hb := HB.out; have hs := hb.size; go_grown) (Nat.le_refl _)).mono ?_
    rintro e w2 ⟨rfl, hb, hk⟩
    have KZ2 := Lib.hid (Bk.below (Bk.alloc KZ.out) hk)
    have HB2 := Lib.hid hb
    clear hk hb KP KZ HB HO x0 x1 x2 x3 y0 y1 y2 y3 z0 z1 z2 z3
    obtain ⟨⟨f0, f1, f2, f3⟩, ⟨f4, f5, f6, f7⟩, f8⟩ := KZ2.out.frosA9
    obtain ⟨⟨c0, c1, c2, c3⟩, ⟨c4, c5, c6, c7⟩, c8⟩ := KZ2.out.cellsA9
    go_wp2_with fail
    refine ret_cell51 rfl (w.heap.size + 1) qx qy false rfl (Bk.put9 (Bk.alloc KZ2.out)) rfl ⟨rfl, ?_⟩
    have hb := HB2.out
    have hs := hb.size
    go_grown
theorem pointj {p : J} (hp : p.ok) : ∀ w, Calls Tryz.prog 145 #[p.v] w fun e w' => e = .returned p.point.v ∧ Below w.heap.size w w' := point_c p hp
def BN : Nat := 41058363725152142129326129780047268409114441015993725554835256314039467401291
theorem nv_BN : nv BN = .agg #[.int .u64 4309448131093880907, .int .u64 7285987128567378166, .int .u64 12964664127075681980, .int .u64 6540974713487397863] := by
  have h : lb BN 0 = 4309448131093880907 ∧ lb BN 1 = 7285987128567378166 ∧ lb BN 2 = 12964664127075681980 ∧ lb BN 3 = 6540974713487397863 := by decide +kernel
  unfold nv num
  rw [h.1, h.2.1, h.2.2.1, h.2.2.2]
  rfl
def rightN (x : Nat) : Nat := aj (sj (mj (mj x x) x) (tj x)) BN
def Po.on (p : Po) : Bool := if p.i = true then decide (p.x = 0 ∧ p.y = 0) else decide (p.x < mP ∧ p.y < mP ∧ mj p.y p.y = rightN p.x)
set_option maxHeartbeats 16000000 in
theorem on_c (p : Po) (hp : p.ok) (w : World) :
    Calls Tryz.prog 61 #[p.v] w fun e w' => e = .returned (.bool p.on) ∧ Below w.heap.size w w' := by
  obtain ⟨x, y, i⟩ := p
  obtain ⟨hx, hy⟩ := hp
  simp only [] at hx hy
  unfold Po.v
  cases i
  · have e : (Po.mk x y false).on = decide (x < mP ∧ y < mP ∧ mj y y = rightN x) := rfl
    rw [e]
    clear e
    unfold rightN
    have H1 := Lib.hid (mulj hx hx)
    have H2 := Lib.hid (mulj (mj_lt x x) hx)
    have H3 := Lib.hid (mulj hy hy)
    have H4 := Lib.hid (tripj hx)
    have H5 := Lib.hid (subj (mj_lt (mj x x) x) (tj_lt x))
    have H6 := Lib.hid (addj (sj_lt (mj (mj x x) x) (tj x)) (show BN < W256 by decide +kernel))
    have HE := Lib.hid (fun w => eqN (mj y y) (aj (sj (mj (mj x x) x) (tj x)) BN) (mj_lt _ _) (aj_lt _ _) w)
    have HX := Lib.hid (below_c x hx)
    have HY := Lib.hid (below_c y hy)
    clear hx hy
    generalize aj (sj (mj (mj x x) x) (tj x)) BN = rr at *
    generalize sj (mj (mj x x) x) (tj x) = d5 at *
    generalize tj x = t4 at *
    generalize mj (mj x x) x = cube at *
    generalize mj x x = sq at *
    generalize mj y y = yy at *
    rw [nv_BN] at H6
    simp only [pn, nv, num] at H1 H2 H3 H4 H5 H6 HX HY HE ⊢
    by_cases hxp : x < mP
    · rw [decide_eq_true hxp] at HX
      by_cases hyp : y < mP
      · rw [decide_eq_true hyp] at HY
        obtain ⟨res, hres⟩ : ∃ z, z = decide (yy = rr) := ⟨_, rfl⟩
        rw [← hres] at HE
        rw [show decide (x < mP ∧ y < mP ∧ yy = rr) = res from by rw [hres]; simp [hxp, hyp]]
        clear hres hxp hyp
        go_enter Tryz.func61, Tryz.ntmps61
        go_wp2_with fail
        refine (keep w.heap.size w (HX.out _) (by go_grown) (Nat.le_refl _)).mono ?_
        rintro e w1 ⟨rfl, hb, hk⟩
        have KP : Hid (Bk 26 w1 w.heap.size #[.int .u64 (lb x 0 : Nat), .int .u64 (lb x 1 : Nat), .int .u64 (lb x 2 : Nat), .int .u64 (lb x 3 : Nat), .int .u64 (lb y 0 : Nat), .int .u64 (lb y 1 : Nat), .int .u64 (lb y 2 : Nat), .int .u64 (lb y 3 : Nat), .bool false]) := Lib.hid (Bk.below (Bk.new rfl) hk)
        have HB := Lib.hid hb
        clear hk hb HX
        obtain ⟨⟨x0, x1, x2, x3⟩, ⟨y0, y1, y2, y3⟩, i0⟩ := KP.out.cells9
        go_wp2_with fail
        refine (keep w.heap.size w (HY.out _) HB.out (Nat.le_refl _)).mono ?_
        rintro e w2 ⟨rfl, hb, hk⟩
        have KP2 : Hid (Bk 26 (w2.alloc (.cells #[.int .u64 4309448131093880907, .int .u64 7285987128567378166, .int .u64 12964664127075681980, .int .u64 6540974713487397863] 24)) w.heap.size #[.int .u64 (lb x 0 : Nat), .int .u64 (lb x 1 : Nat), .int .u64 (lb x 2 : Nat), .int .u64 (lb x 3 : Nat), .int .u64 (lb y 0 : Nat), .int .u64 (lb y 1 : Nat), .int .u64 (lb y 2 : Nat), .int .u64 (lb y 3 : Nat), .bool false]) := Lib.hid (Bk.alloc (KP.out.below hk))
        have KB2 : Hid (Bk 24 (w2.alloc (.cells #[.int .u64 4309448131093880907, .int .u64 7285987128567378166, .int .u64 12964664127075681980, .int .u64 6540974713487397863] 24)) w2.heap.size #[.int .u64 4309448131093880907, .int .u64 7285987128567378166, .int .u64 12964664127075681980, .int .u64 6540974713487397863]) := Lib.hid (Bk.new rfl)
        have HB2 : Hid (Below w.heap.size w (w2.alloc (.cells #[.int .u64 4309448131093880907, .int .u64 7285987128567378166, .int .u64 12964664127075681980, .int .u64 6540974713487397863] 24))) := Lib.hid (by have hs := hb.size; go_grown)
        clear hk hb HY KP HB x0 x1 x2 x3 y0 y1 y2 y3 i0
        go_wp2_with fail
        generalize (w2.alloc (.cells #[.int .u64 4309448131093880907, .int .u64 7285987128567378166, .int .u64 12964664127075681980, .int .u64 6540974713487397863] 24)) = W at KP2 KB2 HB2 ⊢
        generalize w2.heap.size = gb at KB2 ⊢
        obtain ⟨gp, hgp⟩ : ∃ z, z = w.heap.size := ⟨_, rfl⟩
        have e : (Value.pointer (some ⟨w.heap.size, 0, none⟩)) = .pointer (some ⟨gp, 0, none⟩) := by rw [hgp]
        rw [e]
        rw [← hgp] at KP2
        clear e hgp
        refine on6 gp x y sq cube false W KP2.out H1 H2 ?_
        intro _ _ _ _ _ _ _ _ g8 W2 hb2 hg8 hk8
        have KP3 := Lib.hid (KP2.out.below hb2)
        have KB3 := Lib.hid (KB2.out.below hb2)
        have K83 := Lib.hid hk8
        have HB3 := Lib.hid (HB2.out.trans (hb2.mono HB2.out.size))
        clear KP2 KB2 HB2 hb2 hg8 hk8 H1 H2
        go_wp2_with fail
        obtain ⟨⟨x0, x1, x2, x3⟩, ⟨y0, y1, y2, y3⟩, i0⟩ := KP3.out.reg9
        obtain ⟨b0, b1, b2, b3⟩ := KB3.out.reg
        obtain ⟨c0, c1, c2, c3⟩ := K83.out.reg
        have heq := HE.out
        refine wp_region_quiet_below mixed (by kernel_rfl) ?_
        iterate 4 go_big_quiet_step (fail)
        go_big_quiet_step (exact qg H3.out)
        iterate 3 go_big_quiet_step (fail)
        go_big_quiet_step (exact qg H4.out)
        go_big_quiet_step (exact qg H5.out)
        go_big_quiet_step (fail)
        go_big_quiet_step (exact qg H6.out)
        repeat (first | go_big_quiet_step (fail) | quiet_step (fail))
        refine wpQuiet_nil ?_
        intro _ hw'
        obtain ⟨⟨dq, osq⟩, hw''⟩ := hw'
        subst hw''
        have HB4 := Lib.hid (HB3.out.trans ((below_regrown W2 dq osq).mono HB3.out.size))
        go_wp2_with fail
        go_ret
        exact ⟨rfl, HB4.out⟩
      · rw [decide_eq_false hyp] at HY
        rw [show decide (x < mP ∧ y < mP ∧ yy = rr) = false from by simp [hyp]]
        clear hxp hyp
        go_enter Tryz.func61, Tryz.ntmps61
        go_wp2_with fail
        refine (keep w.heap.size w (HX.out _) (by go_grown) (Nat.le_refl _)).mono ?_
        rintro e w1 ⟨rfl, hb, hk⟩
        have KP : Hid (Bk 26 w1 w.heap.size #[.int .u64 (lb x 0 : Nat), .int .u64 (lb x 1 : Nat), .int .u64 (lb x 2 : Nat), .int .u64 (lb x 3 : Nat), .int .u64 (lb y 0 : Nat), .int .u64 (lb y 1 : Nat), .int .u64 (lb y 2 : Nat), .int .u64 (lb y 3 : Nat), .bool false]) := Lib.hid (Bk.below (Bk.new rfl) hk)
        have HB := Lib.hid hb
        clear hk hb HX
        obtain ⟨⟨x0, x1, x2, x3⟩, ⟨y0, y1, y2, y3⟩, i0⟩ := KP.out.cells9
        go_wp2_with fail
        refine (keep w.heap.size w (HY.out _) HB.out (Nat.le_refl _)).mono ?_
        rintro e w2 ⟨rfl, hb, hk⟩
        go_wp2_with fail
        go_ret
        exact ⟨rfl, hb⟩
    · rw [decide_eq_false hxp] at HX
      rw [show decide (x < mP ∧ y < mP ∧ yy = rr) = false from by simp [hxp]]
      clear hxp
      go_enter Tryz.func61, Tryz.ntmps61
      go_wp2_with fail
      refine (keep w.heap.size w (HX.out _) (by go_grown) (Nat.le_refl _)).mono ?_
      rintro e w1 ⟨rfl, hb, hk⟩
      go_wp2_with fail
      go_ret
      exact ⟨rfl, hb⟩
  · have e : (Po.mk x y true).on = decide (x = 0 ∧ y = 0) := rfl
    rw [e]
    clear e
    have HE := Lib.hid (fun w => eqP x y 0 0 true true hx hy (by decide) (by decide) w)
    obtain ⟨res, hres⟩ : ∃ z, z = decide (x = 0 ∧ y = 0) := ⟨_, rfl⟩
    have e2 : decide (x = 0 ∧ y = 0 ∧ true = true) = res := by rw [hres]; simp
    rw [e2] at HE
    rw [← hres]
    clear e2 hres hx hy
    have heq : ∀ w, (Op.equalIn 10000 26 (.agg #[.int .u64 (lb x 0 : Nat), .int .u64 (lb x 1 : Nat), .int .u64 (lb x 2 : Nat), .int .u64 (lb x 3 : Nat), .int .u64 (lb y 0 : Nat), .int .u64 (lb y 1 : Nat), .int .u64 (lb y 2 : Nat), .int .u64 (lb y 3 : Nat), .bool true]) (.agg #[.int .u64 0, .int .u64 0, .int .u64 0, .int .u64 0, .int .u64 0, .int .u64 0, .int .u64 0, .int .u64 0, .bool true])).run Tryz.prog w = .ok res w := HE.out
    clear HE
    simp only [pn]
    go_enter Tryz.func61, Tryz.ntmps61
    go_wp2_with fail
    go_ret
    refine ⟨rfl, ?_⟩
    go_grown
theorem onj {p : Po} (hp : p.ok) : ∀ w, Calls Tryz.prog 61 #[p.v] w fun e w' => e = .returned (.bool p.on) ∧ Below w.heap.size w w' := on_c p hp
end Go.Proofs.YtpggkfdijmnmiaaGreat
