import Derived.Test.YtglmmodkflkkkaaXCe
import Derived.Test.YtglmmodkflkkkaaXCa
import Derived.Laws.CopyOwn
set_option linter.unusedVariables false
set_option linter.unusedSimpArgs false
set_option maxRecDepth 100000
namespace Go.Proofs.Ytglmmodkflkkkaa
open Go.RowKit Go.Sort Limbs
def mj (a b : Nat) : Nat := a * b % mP
def aj (a b : Nat) : Nat := (a + b) % mP
def sj (a b : Nat) : Nat := (a + (mP - b % mP)) % mP
def tj (a : Nat) : Nat := aj (aj a a) a
theorem mj_lt (a b : Nat) : mj a b < W256 := mp_lt _
theorem aj_lt (a b : Nat) : aj a b < W256 := mp_lt _
theorem sj_lt (a b : Nat) : sj a b < W256 := mp_lt _
theorem tj_lt (a : Nat) : tj a < W256 := mp_lt _
theorem mulj {a b : Nat} (ha : a < W256) (hb : b < W256) : ∀ w, Calls Try.prog 74 #[nv a, nv b] w fun e w' => e = .returned (nv (mj a b)) ∧ Below w.heap.size w w' := mul_c a b ha hb
theorem addj {a b : Nat} (ha : a < W256) (hb : b < W256) : ∀ w, Calls Try.prog 75 #[nv a, nv b] w fun e w' => e = .returned (nv (aj a b)) ∧ Below w.heap.size w w' := add_c a b ha hb
theorem subj {a b : Nat} (ha : a < W256) (hb : b < W256) : ∀ w, Calls Try.prog 76 #[nv a, nv b] w fun e w' => e = .returned (nv (sj a b)) ∧ Below w.heap.size w w' := sub_c a b ha hb
theorem tripj {a : Nat} (ha : a < W256) : ∀ w, Calls Try.prog 77 #[nv a] w fun e w' => e = .returned (nv (tj a)) ∧ Below w.heap.size w w' := triple_c a ha
structure J where
  x : Nat
  y : Nat
  z : Nat
deriving DecidableEq
def J.ok (p : J) : Prop := p.x < W256 ∧ p.y < W256 ∧ p.z < W256
def J.v (p : J) : Value := jn p.x p.y p.z
def J.far : J := ⟨0, 0, 0⟩
def J.over (p : J) (f : Nat) : J := ⟨mj p.x (mj f f), mj p.y (mj (mj f f) f), mj p.z f⟩
def J.along (p : J) (r o : Nat) : J := ⟨sj (sj (mj r r) p.x) o, sj (mj r (sj p.x (sj (sj (mj r r) p.x) o))) p.y, p.z⟩
theorem J.over_ok (p : J) (f : Nat) : (p.over f).ok := ⟨mj_lt _ _, mj_lt _ _, mj_lt _ _⟩
theorem J.along_ok (p : J) (r o : Nat) (h : p.z < W256) : (p.along r o).ok := ⟨sj_lt _ _, sj_lt _ _, h⟩
theorem overj {p : J} {f : Nat} (hp : p.ok) (hf : f < W256) : ∀ w, Calls Try.prog 91 #[p.v, nv f] w fun e w' => e = .returned (p.over f).v ∧ Below w.heap.size w w' := over_c p.x p.y p.z f hp.1 hp.2.1 hp.2.2 hf
set_option maxHeartbeats 16000000 in
theorem along_c (p : J) (r o : Nat) (hp : p.ok) (hr : r < W256) (ho : o < W256) (w : World) :
    Calls Try.prog 93 #[p.v, nv r, nv o] w fun e w' => e = .returned (p.along r o).v ∧ Below w.heap.size w w' := by
  obtain ⟨x, y, z⟩ := p
  obtain ⟨hx, hy, hz⟩ := hp
  simp only [] at hx hy hz
  have H1 := Lib.hid (mulj hr hr)
  have H2 := Lib.hid (subj (mj_lt r r) hx)
  have H3 := Lib.hid (subj (sj_lt (mj r r) x) ho)
  have H4 := Lib.hid (subj hx (sj_lt (sj (mj r r) x) o))
  have H5 := Lib.hid (mulj hr (sj_lt x (sj (sj (mj r r) x) o)))
  have H6 := Lib.hid (subj (mj_lt r (sj x (sj (sj (mj r r) x) o))) hy)
  clear hx hy hz hr ho
  unfold J.v J.along
  simp only []
  generalize sj (mj r (sj x (sj (sj (mj r r) x) o))) y = ry at *
  generalize mj r (sj x (sj (sj (mj r r) x) o)) = m5 at *
  generalize sj x (sj (sj (mj r r) x) o) = d4 at *
  generalize sj (sj (mj r r) x) o = x3 at *
  generalize sj (mj r r) x = d1 at *
  generalize mj r r = rr at *
  simp only [jn, nv, num] at H1 H2 H3 H4 H5 H6 ⊢
  go_enter Try.func93, Try.ntmps93
  go_wp2_with fail
  have KP : Hid (Bk 93 ((((w.alloc (.cells #[.int .u64 (lb x 0 : Nat), .int .u64 (lb x 1 : Nat), .int .u64 (lb x 2 : Nat), .int .u64 (lb x 3 : Nat), .int .u64 (lb y 0 : Nat), .int .u64 (lb y 1 : Nat), .int .u64 (lb y 2 : Nat), .int .u64 (lb y 3 : Nat), .int .u64 (lb z 0 : Nat), .int .u64 (lb z 1 : Nat), .int .u64 (lb z 2 : Nat), .int .u64 (lb z 3 : Nat)] 93)).alloc (.cells #[.int .u64 (lb r 0 : Nat), .int .u64 (lb r 1 : Nat), .int .u64 (lb r 2 : Nat), .int .u64 (lb r 3 : Nat)] 24)).alloc (.cells #[.int .u64 (lb o 0 : Nat), .int .u64 (lb o 1 : Nat), .int .u64 (lb o 2 : Nat), .int .u64 (lb o 3 : Nat)] 24)).alloc (.cells #[.int .u64 0, .int .u64 0, .int .u64 0, .int .u64 0, .int .u64 0, .int .u64 0, .int .u64 0, .int .u64 0, .int .u64 0, .int .u64 0, .int .u64 0, .int .u64 0] 93)) w.heap.size #[.int .u64 (lb x 0 : Nat), .int .u64 (lb x 1 : Nat), .int .u64 (lb x 2 : Nat), .int .u64 (lb x 3 : Nat), .int .u64 (lb y 0 : Nat), .int .u64 (lb y 1 : Nat), .int .u64 (lb y 2 : Nat), .int .u64 (lb y 3 : Nat), .int .u64 (lb z 0 : Nat), .int .u64 (lb z 1 : Nat), .int .u64 (lb z 2 : Nat), .int .u64 (lb z 3 : Nat)]) := Lib.hid (Bk.alloc (Bk.alloc (Bk.alloc (Bk.new rfl))))
  have KR : Hid (Bk 24 ((((w.alloc (.cells #[.int .u64 (lb x 0 : Nat), .int .u64 (lb x 1 : Nat), .int .u64 (lb x 2 : Nat), .int .u64 (lb x 3 : Nat), .int .u64 (lb y 0 : Nat), .int .u64 (lb y 1 : Nat), .int .u64 (lb y 2 : Nat), .int .u64 (lb y 3 : Nat), .int .u64 (lb z 0 : Nat), .int .u64 (lb z 1 : Nat), .int .u64 (lb z 2 : Nat), .int .u64 (lb z 3 : Nat)] 93)).alloc (.cells #[.int .u64 (lb r 0 : Nat), .int .u64 (lb r 1 : Nat), .int .u64 (lb r 2 : Nat), .int .u64 (lb r 3 : Nat)] 24)).alloc (.cells #[.int .u64 (lb o 0 : Nat), .int .u64 (lb o 1 : Nat), .int .u64 (lb o 2 : Nat), .int .u64 (lb o 3 : Nat)] 24)).alloc (.cells #[.int .u64 0, .int .u64 0, .int .u64 0, .int .u64 0, .int .u64 0, .int .u64 0, .int .u64 0, .int .u64 0, .int .u64 0, .int .u64 0, .int .u64 0, .int .u64 0] 93)) (w.heap.size + 1) #[.int .u64 (lb r 0 : Nat), .int .u64 (lb r 1 : Nat), .int .u64 (lb r 2 : Nat), .int .u64 (lb r 3 : Nat)]) := Lib.hid (Bk.alloc (Bk.alloc (Bk.new (by simp))))
  have KO : Hid (Bk 24 ((((w.alloc (.cells #[.int .u64 (lb x 0 : Nat), .int .u64 (lb x 1 : Nat), .int .u64 (lb x 2 : Nat), .int .u64 (lb x 3 : Nat), .int .u64 (lb y 0 : Nat), .int .u64 (lb y 1 : Nat), .int .u64 (lb y 2 : Nat), .int .u64 (lb y 3 : Nat), .int .u64 (lb z 0 : Nat), .int .u64 (lb z 1 : Nat), .int .u64 (lb z 2 : Nat), .int .u64 (lb z 3 : Nat)] 93)).alloc (.cells #[.int .u64 (lb r 0 : Nat), .int .u64 (lb r 1 : Nat), .int .u64 (lb r 2 : Nat), .int .u64 (lb r 3 : Nat)] 24)).alloc (.cells #[.int .u64 (lb o 0 : Nat), .int .u64 (lb o 1 : Nat), .int .u64 (lb o 2 : Nat), .int .u64 (lb o 3 : Nat)] 24)).alloc (.cells #[.int .u64 0, .int .u64 0, .int .u64 0, .int .u64 0, .int .u64 0, .int .u64 0, .int .u64 0, .int .u64 0, .int .u64 0, .int .u64 0, .int .u64 0, .int .u64 0] 93)) (w.heap.size + 1 + 1) #[.int .u64 (lb o 0 : Nat), .int .u64 (lb o 1 : Nat), .int .u64 (lb o 2 : Nat), .int .u64 (lb o 3 : Nat)]) := Lib.hid (Bk.alloc (Bk.new (by simp)))
  have KZ : Hid (Bk 93 ((((w.alloc (.cells #[.int .u64 (lb x 0 : Nat), .int .u64 (lb x 1 : Nat), .int .u64 (lb x 2 : Nat), .int .u64 (lb x 3 : Nat), .int .u64 (lb y 0 : Nat), .int .u64 (lb y 1 : Nat), .int .u64 (lb y 2 : Nat), .int .u64 (lb y 3 : Nat), .int .u64 (lb z 0 : Nat), .int .u64 (lb z 1 : Nat), .int .u64 (lb z 2 : Nat), .int .u64 (lb z 3 : Nat)] 93)).alloc (.cells #[.int .u64 (lb r 0 : Nat), .int .u64 (lb r 1 : Nat), .int .u64 (lb r 2 : Nat), .int .u64 (lb r 3 : Nat)] 24)).alloc (.cells #[.int .u64 (lb o 0 : Nat), .int .u64 (lb o 1 : Nat), .int .u64 (lb o 2 : Nat), .int .u64 (lb o 3 : Nat)] 24)).alloc (.cells #[.int .u64 0, .int .u64 0, .int .u64 0, .int .u64 0, .int .u64 0, .int .u64 0, .int .u64 0, .int .u64 0, .int .u64 0, .int .u64 0, .int .u64 0, .int .u64 0] 93)) (w.heap.size + 1 + 1 + 1) #[.int .u64 0, .int .u64 0, .int .u64 0, .int .u64 0, .int .u64 0, .int .u64 0, .int .u64 0, .int .u64 0, .int .u64 0, .int .u64 0, .int .u64 0, .int .u64 0]) := Lib.hid (Bk.new (by simp))
  have HB : Hid (Below w.heap.size w ((((w.alloc (.cells #[.int .u64 (lb x 0 : Nat), .int .u64 (lb x 1 : Nat), .int .u64 (lb x 2 : Nat), .int .u64 (lb x 3 : Nat), .int .u64 (lb y 0 : Nat), .int .u64 (lb y 1 : Nat), .int .u64 (lb y 2 : Nat), .int .u64 (lb y 3 : Nat), .int .u64 (lb z 0 : Nat), .int .u64 (lb z 1 : Nat), .int .u64 (lb z 2 : Nat), .int .u64 (lb z 3 : Nat)] 93)).alloc (.cells #[.int .u64 (lb r 0 : Nat), .int .u64 (lb r 1 : Nat), .int .u64 (lb r 2 : Nat), .int .u64 (lb r 3 : Nat)] 24)).alloc (.cells #[.int .u64 (lb o 0 : Nat), .int .u64 (lb o 1 : Nat), .int .u64 (lb o 2 : Nat), .int .u64 (lb o 3 : Nat)] 24)).alloc (.cells #[.int .u64 0, .int .u64 0, .int .u64 0, .int .u64 0, .int .u64 0, .int .u64 0, .int .u64 0, .int .u64 0, .int .u64 0, .int .u64 0, .int .u64 0, .int .u64 0] 93))) := Lib.hid (by go_grown)
  generalize ((((w.alloc (.cells #[.int .u64 (lb x 0 : Nat), .int .u64 (lb x 1 : Nat), .int .u64 (lb x 2 : Nat), .int .u64 (lb x 3 : Nat), .int .u64 (lb y 0 : Nat), .int .u64 (lb y 1 : Nat), .int .u64 (lb y 2 : Nat), .int .u64 (lb y 3 : Nat), .int .u64 (lb z 0 : Nat), .int .u64 (lb z 1 : Nat), .int .u64 (lb z 2 : Nat), .int .u64 (lb z 3 : Nat)] 93)).alloc (.cells #[.int .u64 (lb r 0 : Nat), .int .u64 (lb r 1 : Nat), .int .u64 (lb r 2 : Nat), .int .u64 (lb r 3 : Nat)] 24)).alloc (.cells #[.int .u64 (lb o 0 : Nat), .int .u64 (lb o 1 : Nat), .int .u64 (lb o 2 : Nat), .int .u64 (lb o 3 : Nat)] 24)).alloc (.cells #[.int .u64 0, .int .u64 0, .int .u64 0, .int .u64 0, .int .u64 0, .int .u64 0, .int .u64 0, .int .u64 0, .int .u64 0, .int .u64 0, .int .u64 0, .int .u64 0] 93)) = W at KP KR KO KZ HB ⊢
  obtain ⟨gr, hgr⟩ : ∃ z, z = w.heap.size + 1 := ⟨_, rfl⟩
  obtain ⟨go, hgo⟩ : ∃ z, z = w.heap.size + 1 + 1 := ⟨_, rfl⟩
  obtain ⟨gz, hgz⟩ : ∃ z, z = w.heap.size + 1 + 1 + 1 := ⟨_, rfl⟩
  rw [← hgz] at KZ ⊢
  rw [← hgo] at KO ⊢
  rw [← hgr] at KR ⊢
  have HG := Lib.hid (show w.heap.size ≤ gz by omega)
  clear hgr hgo hgz
  obtain ⟨gp, hgp⟩ : ∃ z, z = w.heap.size := ⟨_, rfl⟩
  rw [← hgp] at KP
  have e : (Value.pointer (some ⟨w.heap.size, 0, none⟩)) = .pointer (some ⟨gp, 0, none⟩) := by rw [hgp]
  rw [e]
  clear e
  refine al1 gp gr go x y z r o rr d1 x3 W KP.out KR.out KO.out H1 H2 H3 ?_
  intro _ _ _ _ _ _ _ _ g8 W2 hb2 hg8 hk8
  have KP2 := Lib.hid (KP.out.below hb2)
  have KR2 := Lib.hid (KR.out.below hb2)
  have KZ2 := Lib.hid (KZ.out.below hb2)
  have K82 := Lib.hid hk8
  have HB2 := Lib.hid (HB.out.trans (hb2.mono HB.out.size))
  clear KP KR KO KZ HB hb2 hg8 hk8 H1 H2 H3 hgp
  go_wp2_with fail
  obtain ⟨⟨x0, x1, x2, x3⟩, ⟨y0, y1, y2, y3⟩, z0, z1, z2, z3⟩ := KP2.out.reg12
  obtain ⟨f0, f1, f2, f3⟩ := KR2.out.reg
  obtain ⟨s0, s1, s2, s3⟩ := K82.out.reg
  refine wp_region_below_tail 13 mixed (by kernel_rfl) ?_
  simp only [List.take_succ_cons, List.take_zero, List.drop_succ_cons, List.drop_zero]
  iterate 5 go_big_quiet_step (fail)
  go_big_quiet_step (exact qg H4.out)
  go_big_quiet_step (exact qg H5.out)
  iterate 2 go_big_quiet_step (fail)
  go_big_quiet_step (exact qg H6.out)
  repeat (first | go_big_quiet_step (fail) | quiet_step (fail))
  refine wpQuiet_nil ?_
  intro _ hw'
  obtain ⟨⟨dq, osq⟩, hw''⟩ := hw'
  subst hw''
  have KZ3 := Lib.hid (KZ2.out.regrown dq osq)
  have HB3 := Lib.hid (HB2.out.trans ((below_regrown W2 dq osq).mono HB2.out.size))
  clear KP2 KR2 KZ2 K82 HB2 x0 x1 x2 x3 y0 y1 y2 y3 z0 z1 z2 z3 f0 f1 f2 f3 s0 s1 s2 s3 H4 H5 H6
  generalize grow (redrawn W2 dq) osq = V at KZ3 HB3 ⊢
  obtain ⟨⟨f0, f1, f2, f3⟩, ⟨f4, f5, f6, f7⟩, f8, f9, f10, f11⟩ := KZ3.out.fros12
  obtain ⟨⟨c0, c1, c2, c3⟩, ⟨c4, c5, c6, c7⟩, c8, c9, c10, c11⟩ := KZ3.out.cells12
  go_wp2_with fail
  refine ret_cell93 rfl gz x3 ry z rfl (Bk.put12 KZ3.out) rfl ⟨rfl, ?_⟩
  have hb := HB3.out
  have hg := HG.out
  go_grown
theorem alongj {p : J} {r o : Nat} (hp : p.ok) (hr : r < W256) (ho : o < W256) : ∀ w, Calls Try.prog 93 #[p.v, nv r, nv o] w fun e w' => e = .returned (p.along r o).v ∧ Below w.heap.size w w' := along_c p r o hp hr ho
end Go.Proofs.Ytglmmodkflkkkaa
set_option linter.unusedVariables false
set_option linter.unusedSimpArgs false
set_option maxRecDepth 100000
namespace Go.Proofs.Ytglmmodkflkkkaa
open Go.RowKit Go.Sort Limbs
theorem Bk.row {t : TypeId} {w : World} {g : Nat} {old cs : Array Value} (h : Bk t w g old) : Bk t (w.setRow g cs) g cs := setRow_heap w g old cs t (0, 0) h
theorem Bk.rowo {t : TypeId} {w : World} {g h : Nat} {cs c : Array Value} (hn : g ≠ h) (k : Bk t w g cs) : Bk t (w.setRow h c) g cs := (setRow_other w h g c hn).trans k
theorem wpList_put {P : Program} {ops : Array Oper} {rest : List Oper} {o : Oper} {a : Act} {w : World} {Q : Exit → Act → World → Prop} (hgd : o.guard = none) (ty : TypeId) (x y : Operand) (ho : o.op = .store ty x y)
    (g : Nat) (old cells : Array Value) (hx : a.eval x = .pointer (some ⟨g, 0, none⟩)) (hy : a.eval y = .agg cells) (hk : Bk ty w g old) (hi : (P.info? ty).map (·.size) = some cells.size)
    (hold : old.size = cells.size) (h1 : cells.all (·.oneCell') = true)
    (h : wpList P ops Q rest (a.put o.dst undef) (w.setRow g cells)) : wpList P ops Q (o :: rest) a w :=
  wpList_plain hgd fun _ hK => wp_store_row ty x y ho g cells hx hy ty old hk hi hold h1 (hK _ _ h)
theorem one12 (x y z : Nat) : (#[.int .u64 (lb x 0 : Nat), .int .u64 (lb x 1 : Nat), .int .u64 (lb x 2 : Nat), .int .u64 (lb x 3 : Nat), .int .u64 (lb y 0 : Nat), .int .u64 (lb y 1 : Nat), .int .u64 (lb y 2 : Nat), .int .u64 (lb y 3 : Nat), .int .u64 (lb z 0 : Nat), .int .u64 (lb z 1 : Nat), .int .u64 (lb z 2 : Nat), .int .u64 (lb z 3 : Nat)] : Array Value).all (·.oneCell') = true := by simp [Value.oneCell']
end Go.Proofs.Ytglmmodkflkkkaa
