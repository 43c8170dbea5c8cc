/- Opposites and sums of points: the walks. No condition but that each number is below 2 to the 256. What adds so many times a point, for each digit: the walk. No condition but that each number is below 2 to the 256. -/
import Derived.Test.YtpggkfdijmnmiaaGreatZuk07
import Derived.Laws.EntriesVeiled
set_option linter.unusedVariables false
set_option linter.unusedSimpArgs false
set_option maxRecDepth 100000
namespace Go.Proofs.YtpggkfdijmnmiaaGreat
open Go.RowKit Go.Sort Limbs
def ngj (y : Nat) : Nat := (mP - y % mP) % mP
def Po.zero : Po := ⟨0, 0, false⟩
def Po.far : Po := ⟨0, 0, true⟩
def Po.neg (p : Po) : Po := ⟨p.x, ngj p.y, p.i⟩
def Po.add (p q : Po) : Po := ((J.begin p.x p.y p.i).plus (J.begin q.x q.y q.i)).point
set_option maxHeartbeats 8000000 in
set_option maxHeartbeats 8000000 in
theorem add_p (p q : Po) (hp : p.ok) (hq : q.ok) (w : World) :
    Calls Tryz.prog 114 #[p.v, q.v] w fun e w' => e = .returned (if p.on = true ∧ q.on = true then .tuple #[(p.add q).v, .int .i64 0] else .tuple #[Po.zero.v, .int .i64 70]) ∧ Below w.heap.size w w' := by
  have HOP := Lib.hid (onj hp)
  have HOQ := Lib.hid (onj hq)
  have H1 := Lib.hid (fun w => begin_c p.x p.y p.i w)
  have H2 := Lib.hid (fun w => begin_c q.x q.y q.i w)
  have H3 := Lib.hid (plusj (J.begin_ok (i := p.i) hp.1 hp.2) (J.begin_ok (i := q.i) hq.1 hq.2))
  have H4 := Lib.hid (pointj (J.plus_ok (J.begin_ok (i := p.i) hp.1 hp.2) (J.begin_ok (i := q.i) hq.1 hq.2)))
  unfold Po.add
  clear hp hq
  generalize ((J.begin p.x p.y p.i).plus (J.begin q.x q.y q.i)).point = res at *
  generalize (J.begin p.x p.y p.i).plus (J.begin q.x q.y q.i) = pq at *
  generalize J.begin p.x p.y p.i = jp at *
  generalize J.begin q.x q.y q.i = jq at *
  cases honp : p.on
  · rw [if_neg (by simp)]
    rw [honp] at HOP
    clear honp HOQ H1 H2 H3 H4
    obtain ⟨x, y, i⟩ := p
    obtain ⟨u, v, k⟩ := q
    simp only [Po.v, pn] at HOP ⊢
    go_enter Tryz.func114, Tryz.ntmps114
    go_wp2_with fail
    refine (keep w.heap.size w (HOP.out _) (by go_grown) (Nat.le_refl _)).mono ?_
    rintro e w1 ⟨rfl, hb, hk⟩
    have KZ : Hid (Bk 26 w1 (w.heap.size + 1 + 1) #[.int .u64 0, .int .u64 0, .int .u64 0, .int .u64 0, .int .u64 0, .int .u64 0, .int .u64 0, .int .u64 0, .bool false]) := Lib.hid (Bk.below (Bk.new (by simp)) hk)
    have HB := Lib.hid hb
    clear hk hb HOP
    obtain ⟨⟨f0, f1, f2, f3⟩, ⟨f4, f5, f6, f7⟩, f8⟩ := KZ.out.fros9
    obtain ⟨⟨c0, c1, c2, c3⟩, ⟨c4, c5, c6, c7⟩, c8⟩ := KZ.out.cells9
    go_wp2_with fail
    refine ret_cell51e rfl (w.heap.size + 1 + 1) 0 0 false (.int .i64 70) rfl rfl (Bk.put9 KZ.out) rfl ⟨rfl, ?_⟩
    have hb := HB.out
    go_grown
  cases honq : q.on
  · rw [if_neg (by simp)]
    rw [honp] at HOP
    rw [honq] at HOQ
    clear honp honq H1 H2 H3 H4
    obtain ⟨x, y, i⟩ := p
    obtain ⟨u, v, k⟩ := q
    simp only [Po.v, pn] at HOP HOQ ⊢
    go_enter Tryz.func114, Tryz.ntmps114
    go_wp2_with fail
    refine (keep w.heap.size w (HOP.out _) (by go_grown) (Nat.le_refl _)).mono ?_
    rintro e w1 ⟨rfl, hb, hk⟩
    have KQ : Hid (Bk 26 w1 (w.heap.size + 1) #[.int .u64 (lb u 0 : Nat), .int .u64 (lb u 1 : Nat), .int .u64 (lb u 2 : Nat), .int .u64 (lb u 3 : Nat), .int .u64 (lb v 0 : Nat), .int .u64 (lb v 1 : Nat), .int .u64 (lb v 2 : Nat), .int .u64 (lb v 3 : Nat), .bool k]) := Lib.hid (Bk.below (Bk.alloc (Bk.new (by simp))) hk)
    have KZ : Hid (Bk 26 w1 (w.heap.size + 1 + 1) #[.int .u64 0, .int .u64 0, .int .u64 0, .int .u64 0, .int .u64 0, .int .u64 0, .int .u64 0, .int .u64 0, .bool false]) := Lib.hid (Bk.below (Bk.new (by simp)) hk)
    have HB := Lib.hid hb
    clear hk hb HOP
    obtain ⟨⟨x0, x1, x2, x3⟩, ⟨y0, y1, y2, y3⟩, i0⟩ := KQ.out.cells9
    go_wp2_with fail
    refine (keep w.heap.size w (HOQ.out _) HB.out (Nat.le_refl _)).mono ?_
    rintro e w2 ⟨rfl, hb, hk⟩
    have KZ2 := Lib.hid (Bk.below KZ.out hk)
    have HB2 := Lib.hid hb
    clear hk hb KQ KZ HB HOQ x0 x1 x2 x3 y0 y1 y2 y3 i0
    obtain ⟨⟨f0, f1, f2, f3⟩, ⟨f4, f5, f6, f7⟩, f8⟩ := KZ2.out.fros9
    obtain ⟨⟨c0, c1, c2, c3⟩, ⟨c4, c5, c6, c7⟩, c8⟩ := KZ2.out.cells9
    go_wp2_with fail
    refine ret_cell51e rfl (w.heap.size + 1 + 1) 0 0 false (.int .i64 70) rfl rfl (Bk.put9 KZ2.out) rfl ⟨rfl, ?_⟩
    have hb := HB2.out
    go_grown
  rw [if_pos (by simp)]
  rw [honp] at HOP
  rw [honq] at HOQ
  clear honp honq
  obtain ⟨x, y, i⟩ := p
  obtain ⟨u, v, k⟩ := q
  obtain ⟨rx, ry, ri⟩ := res
  obtain ⟨px, py, pz⟩ := jp
  obtain ⟨qx, qy, qz⟩ := jq
  obtain ⟨sx, sy, sz⟩ := pq
  simp only [Po.v, pn, J.v, jn] at HOP HOQ H1 H2 H3 H4 ⊢
  go_enter Tryz.func114, Tryz.ntmps114
  go_wp2_with fail
  refine (keep w.heap.size w (HOP.out _) (by go_grown) (Nat.le_refl _)).mono ?_
  rintro e w1 ⟨rfl, hb, hk⟩
  have KP : Hid (Bk 26 w1 w.heap.size #[.int .u64 (lb x 0 : Nat), .int .u64 (lb x 1 : Nat), .int .u64 (lb x 2 : Nat), .int .u64 (lb x 3 : Nat), .int .u64 (lb y 0 : Nat), .int .u64 (lb y 1 : Nat), .int .u64 (lb y 2 : Nat), .int .u64 (lb y 3 : Nat), .bool i]) := Lib.hid (Bk.below (Bk.alloc (Bk.alloc (Bk.new rfl))) hk)
  have KQ : Hid (Bk 26 w1 (w.heap.size + 1) #[.int .u64 (lb u 0 : Nat), .int .u64 (lb u 1 : Nat), .int .u64 (lb u 2 : Nat), .int .u64 (lb u 3 : Nat), .int .u64 (lb v 0 : Nat), .int .u64 (lb v 1 : Nat), .int .u64 (lb v 2 : Nat), .int .u64 (lb v 3 : Nat), .bool k]) := Lib.hid (Bk.below (Bk.alloc (Bk.new (by simp))) hk)
  have KZ : Hid (Bk 26 w1 (w.heap.size + 1 + 1) #[.int .u64 0, .int .u64 0, .int .u64 0, .int .u64 0, .int .u64 0, .int .u64 0, .int .u64 0, .int .u64 0, .bool false]) := Lib.hid (Bk.below (Bk.new (by simp)) hk)
  have HB := Lib.hid hb
  clear hk hb HOP
  obtain ⟨⟨x0, x1, x2, x3⟩, ⟨y0, y1, y2, y3⟩, i0⟩ := KQ.out.cells9
  go_wp2_with fail
  refine (keep w.heap.size w (HOQ.out _) HB.out (Nat.le_refl _)).mono ?_
  rintro e w2 ⟨rfl, hb, hk⟩
  have KP2 := Lib.hid (Bk.below KP.out hk)
  have KQ2 := Lib.hid (Bk.below KQ.out hk)
  have KZ2 := Lib.hid (Bk.below KZ.out hk)
  have HB2 := Lib.hid hb
  clear hk hb KP KQ KZ HB HOQ x0 x1 x2 x3 y0 y1 y2 y3 i0
  go_wp2_with fail
  obtain ⟨⟨x0, x1, x2, x3⟩, ⟨y0, y1, y2, y3⟩, i0⟩ := KP2.out.reg9
  obtain ⟨⟨u0, u1, u2, u3⟩, ⟨v0, v1, v2, v3⟩, k0⟩ := KQ2.out.reg9
  refine wp_region_below_tail 6 mixed (by kernel_rfl) ?_
  simp only [List.take_succ_cons, List.take_zero, List.drop_succ_cons, List.drop_zero]
  go_big_quiet_step (fail)
  go_big_quiet_step (exact qg H1.out)
  go_big_quiet_step (fail)
  go_big_quiet_step (exact qg H2.out)
  go_big_quiet_step (exact qg H3.out)
  go_big_quiet_step (exact qg H4.out)
  refine wpQuiet_nil ?_
  intro _ hw'
  obtain ⟨⟨dq, osq⟩, hw''⟩ := hw'
  subst hw''
  have KZ3 := Lib.hid (KZ2.out.regrown dq osq)
  have HB3 := Lib.hid (HB2.out.trans ((below_regrown w2 dq osq).mono HB2.out.size))
  clear KP2 KQ2 KZ2 HB2 x0 x1 x2 x3 y0 y1 y2 y3 i0 u0 u1 u2 u3 v0 v1 v2 v3 k0 H1 H2 H3 H4
  generalize grow (redrawn w2 dq) osq = V at KZ3 HB3 ⊢
  obtain ⟨⟨f0, f1, f2, f3⟩, ⟨f4, f5, f6, f7⟩, f8⟩ := KZ3.out.fros9
  obtain ⟨⟨c0, c1, c2, c3⟩, ⟨c4, c5, c6, c7⟩, c8⟩ := KZ3.out.cells9
  go_wp2_with fail
  refine ret_cell51e rfl (w.heap.size + 1 + 1) rx ry ri (.int .i64 0) rfl rfl (Bk.put9 KZ3.out) rfl ⟨rfl, ?_⟩
  have hb := HB3.out
  go_grown
theorem addp {p q : Po} (hp : p.ok) (hq : q.ok) : ∀ w, Calls Tryz.prog 114 #[p.v, q.v] w fun e w' => e = .returned (if p.on = true ∧ q.on = true then .tuple #[(p.add q).v, .int .i64 0] else .tuple #[Po.zero.v, .int .i64 70]) ∧ Below w.heap.size w w' := add_p p q hp hq
def J.tim (p : J) : Nat → J
  | 0 => J.far
  | n + 1 => (J.tim p n).plus p
theorem J.tim_ok {p : J} (hp : p.ok) : ∀ n, (p.tim n).ok
  | 0 => J.far_ok
  | n + 1 => J.plus_ok (J.tim_ok hp n) hp
def FV (p : J) (n : Nat) : Value := .func (.func 158) #[(p.tim n).v] #[]
def fk (p : J) (k j : Nat) : Value := if j < k then FV p j else .nilFunc
def fa (p : J) (k : Nat) : Array Value := ((List.range 16).map (fk p k)).toArray
theorem fa_0 (p : J) : fa p 0 = #[.nilFunc, .nilFunc, .nilFunc, .nilFunc, .nilFunc, .nilFunc, .nilFunc, .nilFunc, .nilFunc, .nilFunc, .nilFunc, .nilFunc, .nilFunc, .nilFunc, .nilFunc, .nilFunc] := rfl
theorem fa_get (p : J) (k j : Nat) (h : j < 16) : (fa p k)[j]? = some (fk p k j) := by
  unfold fa
  simp [h]
theorem fa_size (p : J) (k : Nat) : (fa p k).size = 16 := by simp [fa]
theorem fa_none (p : J) (k j : Nat) (h : ¬ j < 16) : (fa p k)[j]? = none := by
  rw [Array.getElem?_eq_none_iff, fa_size]; omega
theorem fa_set (p : J) (k : Nat) : (fa p k).setIfInBounds k (FV p k) = fa p (k + 1) := by
  apply Array.ext_getElem?
  intro i
  rw [Array.getElem?_setIfInBounds, fa_size]
  by_cases h : i < 16
  · rw [fa_get _ _ _ h, fa_get _ _ _ h]
    by_cases hk : k = i
    · subst hk
      rw [if_pos rfl, if_pos h]
      unfold fk
      rw [if_pos (by omega)]
    · rw [if_neg hk]
      unfold fk
      by_cases hi : i < k
      · rw [if_pos hi, if_pos (by omega)]
      · rw [if_neg hi, if_neg (by omega)]
  · rw [fa_none _ _ _ h, fa_none _ _ _ h]
    by_cases hk : k = i
    · subst hk; rw [if_pos rfl, if_neg h]
    · rw [if_neg hk]
def fv (p : J) : Value := .agg #[FV p 0, FV p 1, FV p 2, FV p 3, FV p 4, FV p 5, FV p 6, FV p 7, FV p 8, FV p 9, FV p 10, FV p 11, FV p 12, FV p 13, FV p 14, FV p 15]
theorem u98 : Tryz.prog.underlying 165 = some (.array 16 164) := by kernel_rfl
theorem i98 : (Tryz.prog.info? 165).map (·.size) = some 16 := by kernel_rfl
theorem tim_0 (p : J) : cs12 (p.tim 0).x (p.tim 0).y (p.tim 0).z = #[.int .u64 0, .int .u64 0, .int .u64 0, .int .u64 0, .int .u64 0, .int .u64 0, .int .u64 0, .int .u64 0, .int .u64 0, .int .u64 0, .int .u64 0, .int .u64 0] := by simp [J.tim, J.far, cs12, lb]
theorem fk_at (p : J) (k : Nat) : fk p k k = .nilFunc := by unfold fk; rw [if_neg (by omega)]
theorem ret_cell98 {fn : Func} {R : Ending → World → Prop} {a : Act} {w : World} {q : Tmp} (h : fn.results = #[.cell q 165]) (g : Nat) (p : J) (hp : a.tmps.getD q undef = .pointer (some ⟨g, 0, none⟩)) (hk : Bk 165 w g (fa p 16)) (hd : a.defers = []) (hR : R (.returned (fv p)) w) : bodyPost Tryz.prog fn R .ret a w :=
  bodyPost_ret (v := fv p) (results_cell_row h a.tmps w g 165 (fa p 16) (0, 0) _ hp hk u98 rfl i98) hd hR
set_option maxHeartbeats 16000000 in
theorem adders_c (p : J) (hp : p.ok) (w : World) :
    Calls Tryz.prog 143 #[p.v] w fun e w' => e = .returned (fv p) ∧ Below w.heap.size w w' := by
  have HPL := Lib.hid (fun k => plusj (J.tim_ok hp k) hp)
  have hmf : ∀ (fn : Fn) (first cap : Array Value) (w : World), (Instr.makeFunc fn first cap).run Tryz.prog w = .ok (.func fn first cap) w := fun _ _ _ _ => rfl
  have HV : Hid (∀ k, FV p k = .func (.func 158) #[jn (p.tim k).x (p.tim k).y (p.tim k).z] #[]) := Lib.hid (fun k => rfl)
  have hpv : p.v = .agg (cs12 p.x p.y p.z) := rfl
  rw [hpv]
  clear hpv
  obtain ⟨x, hx⟩ : ∃ z, z = p.x := ⟨_, rfl⟩
  obtain ⟨y, hy⟩ : ∃ z, z = p.y := ⟨_, rfl⟩
  obtain ⟨z, hz⟩ : ∃ z, z = p.z := ⟨_, rfl⟩
  have HPV : Hid (p.v = .agg #[.int .u64 (lb x 0 : Nat), .int .u64 (lb x 1 : Nat), .int .u64 (lb x 2 : Nat), .int .u64 (lb x 3 : Nat), .int .u64 (lb y 0 : Nat), .int .u64 (lb y 1 : Nat), .int .u64 (lb y 2 : Nat), .int .u64 (lb y 3 : Nat), .int .u64 (lb z 0 : Nat), .int .u64 (lb z 1 : Nat), .int .u64 (lb z 2 : Nat), .int .u64 (lb z 3 : Nat)]) := Lib.hid (by rw [hx, hy, hz]; rfl)
  rw [← hx, ← hy, ← hz]
  clear hx hy hz hp
  unfold cs12
  go_enter Tryz.func143, Tryz.ntmps143
  go_wp2_with fail
  have KP : Hid (Bk 162 ((((w.alloc (.cells #[.int .u64 (lb x 0 : Nat), .int .u64 (lb x 1 : Nat), .int .u64 (lb x 2 : Nat), .int .u64 (lb x 3 : Nat), .int .u64 (lb y 0 : Nat), .int .u64 (lb y 1 : Nat), .int .u64 (lb y 2 : Nat), .int .u64 (lb y 3 : Nat), .int .u64 (lb z 0 : Nat), .int .u64 (lb z 1 : Nat), .int .u64 (lb z 2 : Nat), .int .u64 (lb z 3 : Nat)] 162)).alloc (.cells #[.nilFunc, .nilFunc, .nilFunc, .nilFunc, .nilFunc, .nilFunc, .nilFunc, .nilFunc, .nilFunc, .nilFunc, .nilFunc, .nilFunc, .nilFunc, .nilFunc, .nilFunc, .nilFunc] 165)).alloc (.cells #[.nilFunc, .nilFunc, .nilFunc, .nilFunc, .nilFunc, .nilFunc, .nilFunc, .nilFunc, .nilFunc, .nilFunc, .nilFunc, .nilFunc, .nilFunc, .nilFunc, .nilFunc, .nilFunc] 165)).alloc (.cells #[.int .u64 0, .int .u64 0, .int .u64 0, .int .u64 0, .int .u64 0, .int .u64 0, .int .u64 0, .int .u64 0, .int .u64 0, .int .u64 0, .int .u64 0, .int .u64 0] 162)) w.heap.size #[.int .u64 (lb x 0 : Nat), .int .u64 (lb x 1 : Nat), .int .u64 (lb x 2 : Nat), .int .u64 (lb x 3 : Nat), .int .u64 (lb y 0 : Nat), .int .u64 (lb y 1 : Nat), .int .u64 (lb y 2 : Nat), .int .u64 (lb y 3 : Nat), .int .u64 (lb z 0 : Nat), .int .u64 (lb z 1 : Nat), .int .u64 (lb z 2 : Nat), .int .u64 (lb z 3 : Nat)]) := Lib.hid (Bk.alloc (Bk.alloc (Bk.alloc (Bk.new rfl))))
  have KR : Hid (Bk 165 ((((w.alloc (.cells #[.int .u64 (lb x 0 : Nat), .int .u64 (lb x 1 : Nat), .int .u64 (lb x 2 : Nat), .int .u64 (lb x 3 : Nat), .int .u64 (lb y 0 : Nat), .int .u64 (lb y 1 : Nat), .int .u64 (lb y 2 : Nat), .int .u64 (lb y 3 : Nat), .int .u64 (lb z 0 : Nat), .int .u64 (lb z 1 : Nat), .int .u64 (lb z 2 : Nat), .int .u64 (lb z 3 : Nat)] 162)).alloc (.cells #[.nilFunc, .nilFunc, .nilFunc, .nilFunc, .nilFunc, .nilFunc, .nilFunc, .nilFunc, .nilFunc, .nilFunc, .nilFunc, .nilFunc, .nilFunc, .nilFunc, .nilFunc, .nilFunc] 165)).alloc (.cells #[.nilFunc, .nilFunc, .nilFunc, .nilFunc, .nilFunc, .nilFunc, .nilFunc, .nilFunc, .nilFunc, .nilFunc, .nilFunc, .nilFunc, .nilFunc, .nilFunc, .nilFunc, .nilFunc] 165)).alloc (.cells #[.int .u64 0, .int .u64 0, .int .u64 0, .int .u64 0, .int .u64 0, .int .u64 0, .int .u64 0, .int .u64 0, .int .u64 0, .int .u64 0, .int .u64 0, .int .u64 0] 162)) (w.heap.size + 1) (fa p 0)) := Lib.hid (by rw [fa_0]; exact Bk.alloc (Bk.alloc (Bk.new (by simp))))
  have KL : Hid (Bk 165 ((((w.alloc (.cells #[.int .u64 (lb x 0 : Nat), .int .u64 (lb x 1 : Nat), .int .u64 (lb x 2 : Nat), .int .u64 (lb x 3 : Nat), .int .u64 (lb y 0 : Nat), .int .u64 (lb y 1 : Nat), .int .u64 (lb y 2 : Nat), .int .u64 (lb y 3 : Nat), .int .u64 (lb z 0 : Nat), .int .u64 (lb z 1 : Nat), .int .u64 (lb z 2 : Nat), .int .u64 (lb z 3 : Nat)] 162)).alloc (.cells #[.nilFunc, .nilFunc, .nilFunc, .nilFunc, .nilFunc, .nilFunc, .nilFunc, .nilFunc, .nilFunc, .nilFunc, .nilFunc, .nilFunc, .nilFunc, .nilFunc, .nilFunc, .nilFunc] 165)).alloc (.cells #[.nilFunc, .nilFunc, .nilFunc, .nilFunc, .nilFunc, .nilFunc, .nilFunc, .nilFunc, .nilFunc, .nilFunc, .nilFunc, .nilFunc, .nilFunc, .nilFunc, .nilFunc, .nilFunc] 165)).alloc (.cells #[.int .u64 0, .int .u64 0, .int .u64 0, .int .u64 0, .int .u64 0, .int .u64 0, .int .u64 0, .int .u64 0, .int .u64 0, .int .u64 0, .int .u64 0, .int .u64 0] 162)) (w.heap.size + 1 + 1) (fa p 0)) := Lib.hid (by rw [fa_0]; exact Bk.alloc (Bk.new (by simp)))
  have KT : Hid (Bk 162 ((((w.alloc (.cells #[.int .u64 (lb x 0 : Nat), .int .u64 (lb x 1 : Nat), .int .u64 (lb x 2 : Nat), .int .u64 (lb x 3 : Nat), .int .u64 (lb y 0 : Nat), .int .u64 (lb y 1 : Nat), .int .u64 (lb y 2 : Nat), .int .u64 (lb y 3 : Nat), .int .u64 (lb z 0 : Nat), .int .u64 (lb z 1 : Nat), .int .u64 (lb z 2 : Nat), .int .u64 (lb z 3 : Nat)] 162)).alloc (.cells #[.nilFunc, .nilFunc, .nilFunc, .nilFunc, .nilFunc, .nilFunc, .nilFunc, .nilFunc, .nilFunc, .nilFunc, .nilFunc, .nilFunc, .nilFunc, .nilFunc, .nilFunc, .nilFunc] 165)).alloc (.cells #[.nilFunc, .nilFunc, .nilFunc, .nilFunc, .nilFunc, .nilFunc, .nilFunc, .nilFunc, .nilFunc, .nilFunc, .nilFunc, .nilFunc, .nilFunc, .nilFunc, .nilFunc, .nilFunc] 165)).alloc (.cells #[.int .u64 0, .int .u64 0, .int .u64 0, .int .u64 0, .int .u64 0, .int .u64 0, .int .u64 0, .int .u64 0, .int .u64 0, .int .u64 0, .int .u64 0, .int .u64 0] 162)) (w.heap.size + 1 + 1 + 1) (cs12 (p.tim 0).x (p.tim 0).y (p.tim 0).z)) := Lib.hid (by rw [tim_0]; exact Bk.new (by simp))
  have HB : Hid (Below w.heap.size w ((((w.alloc (.cells #[.int .u64 (lb x 0 : Nat), .int .u64 (lb x 1 : Nat), .int .u64 (lb x 2 : Nat), .int .u64 (lb x 3 : Nat), .int .u64 (lb y 0 : Nat), .int .u64 (lb y 1 : Nat), .int .u64 (lb y 2 : Nat), .int .u64 (lb y 3 : Nat), .int .u64 (lb z 0 : Nat), .int .u64 (lb z 1 : Nat), .int .u64 (lb z 2 : Nat), .int .u64 (lb z 3 : Nat)] 162)).alloc (.cells #[.nilFunc, .nilFunc, .nilFunc, .nilFunc, .nilFunc, .nilFunc, .nilFunc, .nilFunc, .nilFunc, .nilFunc, .nilFunc, .nilFunc, .nilFunc, .nilFunc, .nilFunc, .nilFunc] 165)).alloc (.cells #[.nilFunc, .nilFunc, .nilFunc, .nilFunc, .nilFunc, .nilFunc, .nilFunc, .nilFunc, .nilFunc, .nilFunc, .nilFunc, .nilFunc, .nilFunc, .nilFunc, .nilFunc, .nilFunc] 165)).alloc (.cells #[.int .u64 0, .int .u64 0, .int .u64 0, .int .u64 0, .int .u64 0, .int .u64 0, .int .u64 0, .int .u64 0, .int .u64 0, .int .u64 0, .int .u64 0, .int .u64 0] 162))) := Lib.hid (by go_grown)
  generalize ((((w.alloc (.cells #[.int .u64 (lb x 0 : Nat), .int .u64 (lb x 1 : Nat), .int .u64 (lb x 2 : Nat), .int .u64 (lb x 3 : Nat), .int .u64 (lb y 0 : Nat), .int .u64 (lb y 1 : Nat), .int .u64 (lb y 2 : Nat), .int .u64 (lb y 3 : Nat), .int .u64 (lb z 0 : Nat), .int .u64 (lb z 1 : Nat), .int .u64 (lb z 2 : Nat), .int .u64 (lb z 3 : Nat)] 162)).alloc (.cells #[.nilFunc, .nilFunc, .nilFunc, .nilFunc, .nilFunc, .nilFunc, .nilFunc, .nilFunc, .nilFunc, .nilFunc, .nilFunc, .nilFunc, .nilFunc, .nilFunc, .nilFunc, .nilFunc] 165)).alloc (.cells #[.nilFunc, .nilFunc, .nilFunc, .nilFunc, .nilFunc, .nilFunc, .nilFunc, .nilFunc, .nilFunc, .nilFunc, .nilFunc, .nilFunc, .nilFunc, .nilFunc, .nilFunc, .nilFunc] 165)).alloc (.cells #[.int .u64 0, .int .u64 0, .int .u64 0, .int .u64 0, .int .u64 0, .int .u64 0, .int .u64 0, .int .u64 0, .int .u64 0, .int .u64 0, .int .u64 0, .int .u64 0] 162)) = W at KP KR KL KT HB ⊢
  obtain ⟨gr, hgr⟩ : ∃ z, z = w.heap.size + 1 := ⟨_, rfl⟩
  obtain ⟨gl, hgl⟩ : ∃ z, z = w.heap.size + 1 + 1 := ⟨_, rfl⟩
  obtain ⟨gt, hgt⟩ : ∃ z, z = w.heap.size + 1 + 1 + 1 := ⟨_, rfl⟩
  rw [← hgr] at KR
  rw [← hgl] at KL
  rw [← hgt] at KT
  rw [← hgt, ← hgl, ← hgr]
  obtain ⟨gp, hgp⟩ : ∃ z, z = w.heap.size := ⟨_, rfl⟩
  have e : (Value.pointer (some ⟨w.heap.size, 0, none⟩)) = .pointer (some ⟨gp, 0, none⟩) := by rw [hgp]
  rw [e]
  rw [← hgp] at KP
  have HG : Hid ((w.heap.size ≤ gp ∧ w.heap.size ≤ gr ∧ w.heap.size ≤ gl ∧ w.heap.size ≤ gt) ∧ (gp ≠ gr ∧ gp ≠ gl ∧ gp ≠ gt) ∧ (gr ≠ gl ∧ gr ≠ gt ∧ gl ≠ gt)) := Lib.hid ⟨⟨by omega, by omega, by omega, by omega⟩, ⟨by omega, by omega, by omega⟩, by omega, by omega, by omega⟩
  clear e hgr hgl hgt hgp
  go_loopw [6] (fun b wr => ∃ k : Nat, k ≤ 16 ∧ b = .int .i64 (k : Int) ∧ Bk 162 wr gp #[.int .u64 (lb x 0 : Nat), .int .u64 (lb x 1 : Nat), .int .u64 (lb x 2 : Nat), .int .u64 (lb x 3 : Nat), .int .u64 (lb y 0 : Nat), .int .u64 (lb y 1 : Nat), .int .u64 (lb y 2 : Nat), .int .u64 (lb y 3 : Nat), .int .u64 (lb z 0 : Nat), .int .u64 (lb z 1 : Nat), .int .u64 (lb z 2 : Nat), .int .u64 (lb z 3 : Nat)] ∧ Bk 165 wr gr (fa p 0) ∧ Bk 165 wr gl (fa p k) ∧ Bk 162 wr gt (cs12 (p.tim k).x (p.tim k).y (p.tim k).z) ∧ Below w.heap.size w wr) (fun b _ => 16 - (intOf b).toNat)
  case atStart => exact ⟨0, by omega, rfl, KP.out, KR.out, KL.out, KT.out, HB.out⟩
  case round =>
    clear KP KR KL KT HB
    obtain ⟨k, hk, rfl, kp, kr, kl, kt, hb⟩ := hrel
    have KP := Lib.hid kp
    have KR := Lib.hid kr
    have KL := Lib.hid kl
    have KT := Lib.hid kt
    have HB := Lib.hid hb
    clear kp kr kl kt hb
    by_cases hlt : k < 16
    · have HP2 := Lib.hid (HPL.out k)
      rw [show (p.tim k).plus p = p.tim (k + 1) from rfl] at HP2
      have HP3 := Lib.hid HP2.out
      rw [HPV.out] at HP3
      have HV2 := HV.out k
      generalize hT : p.tim k = T at *
      generalize hT2 : p.tim (k + 1) = T2 at *
      have HT := Lib.hid hT
      have HT2 := Lib.hid hT2
      clear hT hT2 HP2
      obtain ⟨tx, ty, tz⟩ := T
      obtain ⟨ux, uy, uz⟩ := T2
      simp only [J.v, jn] at HP3 HV2 KT
      have HVK := Lib.hid HV2
      clear HV2
      have k0 : wr.cell? ⟨gl, k, none⟩ = some .nilFunc := (KL.out.cell k).trans ((fa_get p k k hlt).trans (by rw [fk_at]))
      have k1 : wr.frozen? ⟨gl, k, none⟩ = false := KL.out.fro k
      have t0 : wr.cell? ⟨gt, 0, none⟩ = some (.int .u64 (lb tx 0 : Nat)) := KT.out.cell 0
      have t1 : wr.cell? ⟨gt, 1, none⟩ = some (.int .u64 (lb tx 1 : Nat)) := KT.out.cell 1
      have t2 : wr.cell? ⟨gt, 2, none⟩ = some (.int .u64 (lb tx 2 : Nat)) := KT.out.cell 2
      have t3 : wr.cell? ⟨gt, 3, none⟩ = some (.int .u64 (lb tx 3 : Nat)) := KT.out.cell 3
      have t4 : wr.cell? ⟨gt, 4, none⟩ = some (.int .u64 (lb ty 0 : Nat)) := KT.out.cell 4
      have t5 : wr.cell? ⟨gt, 5, none⟩ = some (.int .u64 (lb ty 1 : Nat)) := KT.out.cell 5
      have t6 : wr.cell? ⟨gt, 6, none⟩ = some (.int .u64 (lb ty 2 : Nat)) := KT.out.cell 6
      have t7 : wr.cell? ⟨gt, 7, none⟩ = some (.int .u64 (lb ty 3 : Nat)) := KT.out.cell 7
      have t8 : wr.cell? ⟨gt, 8, none⟩ = some (.int .u64 (lb tz 0 : Nat)) := KT.out.cell 8
      have t9 : wr.cell? ⟨gt, 9, none⟩ = some (.int .u64 (lb tz 1 : Nat)) := KT.out.cell 9
      have t10 : wr.cell? ⟨gt, 10, none⟩ = some (.int .u64 (lb tz 2 : Nat)) := KT.out.cell 10
      have t11 : wr.cell? ⟨gt, 11, none⟩ = some (.int .u64 (lb tz 3 : Nat)) := KT.out.cell 11
      have a0 : ∀ v, (wr.setCell ⟨gl, k, none⟩ v).cell? ⟨gt, 0, none⟩ = some (.int .u64 (lb tx 0 : Nat)) := fun v => (Bk.oth (a := ⟨gl, k, none⟩) (Ne.symm HG.out.2.2.2.2) KT.out).cell 0
      have a1 : ∀ v, (wr.setCell ⟨gl, k, none⟩ v).cell? ⟨gt, 1, none⟩ = some (.int .u64 (lb tx 1 : Nat)) := fun v => (Bk.oth (a := ⟨gl, k, none⟩) (Ne.symm HG.out.2.2.2.2) KT.out).cell 1
      have a2 : ∀ v, (wr.setCell ⟨gl, k, none⟩ v).cell? ⟨gt, 2, none⟩ = some (.int .u64 (lb tx 2 : Nat)) := fun v => (Bk.oth (a := ⟨gl, k, none⟩) (Ne.symm HG.out.2.2.2.2) KT.out).cell 2
      have a3 : ∀ v, (wr.setCell ⟨gl, k, none⟩ v).cell? ⟨gt, 3, none⟩ = some (.int .u64 (lb tx 3 : Nat)) := fun v => (Bk.oth (a := ⟨gl, k, none⟩) (Ne.symm HG.out.2.2.2.2) KT.out).cell 3
      have a4 : ∀ v, (wr.setCell ⟨gl, k, none⟩ v).cell? ⟨gt, 4, none⟩ = some (.int .u64 (lb ty 0 : Nat)) := fun v => (Bk.oth (a := ⟨gl, k, none⟩) (Ne.symm HG.out.2.2.2.2) KT.out).cell 4
      have a5 : ∀ v, (wr.setCell ⟨gl, k, none⟩ v).cell? ⟨gt, 5, none⟩ = some (.int .u64 (lb ty 1 : Nat)) := fun v => (Bk.oth (a := ⟨gl, k, none⟩) (Ne.symm HG.out.2.2.2.2) KT.out).cell 5
      have a6 : ∀ v, (wr.setCell ⟨gl, k, none⟩ v).cell? ⟨gt, 6, none⟩ = some (.int .u64 (lb ty 2 : Nat)) := fun v => (Bk.oth (a := ⟨gl, k, none⟩) (Ne.symm HG.out.2.2.2.2) KT.out).cell 6
      have a7 : ∀ v, (wr.setCell ⟨gl, k, none⟩ v).cell? ⟨gt, 7, none⟩ = some (.int .u64 (lb ty 3 : Nat)) := fun v => (Bk.oth (a := ⟨gl, k, none⟩) (Ne.symm HG.out.2.2.2.2) KT.out).cell 7
      have a8 : ∀ v, (wr.setCell ⟨gl, k, none⟩ v).cell? ⟨gt, 8, none⟩ = some (.int .u64 (lb tz 0 : Nat)) := fun v => (Bk.oth (a := ⟨gl, k, none⟩) (Ne.symm HG.out.2.2.2.2) KT.out).cell 8
      have a9 : ∀ v, (wr.setCell ⟨gl, k, none⟩ v).cell? ⟨gt, 9, none⟩ = some (.int .u64 (lb tz 1 : Nat)) := fun v => (Bk.oth (a := ⟨gl, k, none⟩) (Ne.symm HG.out.2.2.2.2) KT.out).cell 9
      have a10 : ∀ v, (wr.setCell ⟨gl, k, none⟩ v).cell? ⟨gt, 10, none⟩ = some (.int .u64 (lb tz 2 : Nat)) := fun v => (Bk.oth (a := ⟨gl, k, none⟩) (Ne.symm HG.out.2.2.2.2) KT.out).cell 10
      have a11 : ∀ v, (wr.setCell ⟨gl, k, none⟩ v).cell? ⟨gt, 11, none⟩ = some (.int .u64 (lb tz 3 : Nat)) := fun v => (Bk.oth (a := ⟨gl, k, none⟩) (Ne.symm HG.out.2.2.2.2) KT.out).cell 11
      have b0 : ∀ v, (wr.setCell ⟨gl, k, none⟩ v).cell? ⟨gp, 0, none⟩ = some (.int .u64 (lb x 0 : Nat)) := fun v => (Bk.oth (a := ⟨gl, k, none⟩) HG.out.2.1.2.1 KP.out).cell 0
      have b1 : ∀ v, (wr.setCell ⟨gl, k, none⟩ v).cell? ⟨gp, 1, none⟩ = some (.int .u64 (lb x 1 : Nat)) := fun v => (Bk.oth (a := ⟨gl, k, none⟩) HG.out.2.1.2.1 KP.out).cell 1
      have b2 : ∀ v, (wr.setCell ⟨gl, k, none⟩ v).cell? ⟨gp, 2, none⟩ = some (.int .u64 (lb x 2 : Nat)) := fun v => (Bk.oth (a := ⟨gl, k, none⟩) HG.out.2.1.2.1 KP.out).cell 2
      have b3 : ∀ v, (wr.setCell ⟨gl, k, none⟩ v).cell? ⟨gp, 3, none⟩ = some (.int .u64 (lb x 3 : Nat)) := fun v => (Bk.oth (a := ⟨gl, k, none⟩) HG.out.2.1.2.1 KP.out).cell 3
      have b4 : ∀ v, (wr.setCell ⟨gl, k, none⟩ v).cell? ⟨gp, 4, none⟩ = some (.int .u64 (lb y 0 : Nat)) := fun v => (Bk.oth (a := ⟨gl, k, none⟩) HG.out.2.1.2.1 KP.out).cell 4
      have b5 : ∀ v, (wr.setCell ⟨gl, k, none⟩ v).cell? ⟨gp, 5, none⟩ = some (.int .u64 (lb y 1 : Nat)) := fun v => (Bk.oth (a := ⟨gl, k, none⟩) HG.out.2.1.2.1 KP.out).cell 5
      have b6 : ∀ v, (wr.setCell ⟨gl, k, none⟩ v).cell? ⟨gp, 6, none⟩ = some (.int .u64 (lb y 2 : Nat)) := fun v => (Bk.oth (a := ⟨gl, k, none⟩) HG.out.2.1.2.1 KP.out).cell 6
      have b7 : ∀ v, (wr.setCell ⟨gl, k, none⟩ v).cell? ⟨gp, 7, none⟩ = some (.int .u64 (lb y 3 : Nat)) := fun v => (Bk.oth (a := ⟨gl, k, none⟩) HG.out.2.1.2.1 KP.out).cell 7
      have b8 : ∀ v, (wr.setCell ⟨gl, k, none⟩ v).cell? ⟨gp, 8, none⟩ = some (.int .u64 (lb z 0 : Nat)) := fun v => (Bk.oth (a := ⟨gl, k, none⟩) HG.out.2.1.2.1 KP.out).cell 8
      have b9 : ∀ v, (wr.setCell ⟨gl, k, none⟩ v).cell? ⟨gp, 9, none⟩ = some (.int .u64 (lb z 1 : Nat)) := fun v => (Bk.oth (a := ⟨gl, k, none⟩) HG.out.2.1.2.1 KP.out).cell 9
      have b10 : ∀ v, (wr.setCell ⟨gl, k, none⟩ v).cell? ⟨gp, 10, none⟩ = some (.int .u64 (lb z 2 : Nat)) := fun v => (Bk.oth (a := ⟨gl, k, none⟩) HG.out.2.1.2.1 KP.out).cell 10
      have b11 : ∀ v, (wr.setCell ⟨gl, k, none⟩ v).cell? ⟨gp, 11, none⟩ = some (.int .u64 (lb z 3 : Nat)) := fun v => (Bk.oth (a := ⟨gl, k, none⟩) HG.out.2.1.2.1 KP.out).cell 11
      have hk0 : ((k : Nat) : Int).toNat = k := by omega
      go_wp2_with fail
      have KL2 : Hid (Bk 165 (wr.setCell ⟨gl, k, none⟩ (.func (.func 158) #[.agg #[.int .u64 (lb tx 0 : Nat), .int .u64 (lb tx 1 : Nat), .int .u64 (lb tx 2 : Nat), .int .u64 (lb tx 3 : Nat), .int .u64 (lb ty 0 : Nat), .int .u64 (lb ty 1 : Nat), .int .u64 (lb ty 2 : Nat), .int .u64 (lb ty 3 : Nat), .int .u64 (lb tz 0 : Nat), .int .u64 (lb tz 1 : Nat), .int .u64 (lb tz 2 : Nat), .int .u64 (lb tz 3 : Nat)]] #[])) gl (fa p (k + 1))) := Lib.hid (by
        rw [← fa_set, HVK.out]
        exact Bk.same KL.out)
      have KP2 : Hid (Bk 162 (wr.setCell ⟨gl, k, none⟩ (.func (.func 158) #[.agg #[.int .u64 (lb tx 0 : Nat), .int .u64 (lb tx 1 : Nat), .int .u64 (lb tx 2 : Nat), .int .u64 (lb tx 3 : Nat), .int .u64 (lb ty 0 : Nat), .int .u64 (lb ty 1 : Nat), .int .u64 (lb ty 2 : Nat), .int .u64 (lb ty 3 : Nat), .int .u64 (lb tz 0 : Nat), .int .u64 (lb tz 1 : Nat), .int .u64 (lb tz 2 : Nat), .int .u64 (lb tz 3 : Nat)]] #[])) gp #[.int .u64 (lb x 0 : Nat), .int .u64 (lb x 1 : Nat), .int .u64 (lb x 2 : Nat), .int .u64 (lb x 3 : Nat), .int .u64 (lb y 0 : Nat), .int .u64 (lb y 1 : Nat), .int .u64 (lb y 2 : Nat), .int .u64 (lb y 3 : Nat), .int .u64 (lb z 0 : Nat), .int .u64 (lb z 1 : Nat), .int .u64 (lb z 2 : Nat), .int .u64 (lb z 3 : Nat)]) := Lib.hid (Bk.oth (a := ⟨gl, k, none⟩) HG.out.2.1.2.1 KP.out)
      have KR2 : Hid (Bk 165 (wr.setCell ⟨gl, k, none⟩ (.func (.func 158) #[.agg #[.int .u64 (lb tx 0 : Nat), .int .u64 (lb tx 1 : Nat), .int .u64 (lb tx 2 : Nat), .int .u64 (lb tx 3 : Nat), .int .u64 (lb ty 0 : Nat), .int .u64 (lb ty 1 : Nat), .int .u64 (lb ty 2 : Nat), .int .u64 (lb ty 3 : Nat), .int .u64 (lb tz 0 : Nat), .int .u64 (lb tz 1 : Nat), .int .u64 (lb tz 2 : Nat), .int .u64 (lb tz 3 : Nat)]] #[])) gr (fa p 0)) := Lib.hid (Bk.oth (a := ⟨gl, k, none⟩) HG.out.2.2.1 KR.out)
      have KT2 : Hid (Bk 162 (wr.setCell ⟨gl, k, none⟩ (.func (.func 158) #[.agg #[.int .u64 (lb tx 0 : Nat), .int .u64 (lb tx 1 : Nat), .int .u64 (lb tx 2 : Nat), .int .u64 (lb tx 3 : Nat), .int .u64 (lb ty 0 : Nat), .int .u64 (lb ty 1 : Nat), .int .u64 (lb ty 2 : Nat), .int .u64 (lb ty 3 : Nat), .int .u64 (lb tz 0 : Nat), .int .u64 (lb tz 1 : Nat), .int .u64 (lb tz 2 : Nat), .int .u64 (lb tz 3 : Nat)]] #[])) gt (cs12 tx ty tz)) := Lib.hid (Bk.oth (a := ⟨gl, k, none⟩) (Ne.symm HG.out.2.2.2.2) KT.out)
      have HB2 : Hid (Below w.heap.size w (wr.setCell ⟨gl, k, none⟩ (.func (.func 158) #[.agg #[.int .u64 (lb tx 0 : Nat), .int .u64 (lb tx 1 : Nat), .int .u64 (lb tx 2 : Nat), .int .u64 (lb tx 3 : Nat), .int .u64 (lb ty 0 : Nat), .int .u64 (lb ty 1 : Nat), .int .u64 (lb ty 2 : Nat), .int .u64 (lb ty 3 : Nat), .int .u64 (lb tz 0 : Nat), .int .u64 (lb tz 1 : Nat), .int .u64 (lb tz 2 : Nat), .int .u64 (lb tz 3 : Nat)]] #[]))) := Lib.hid (by have hb := HB.out; have hg := HG.out.1.2.2.1; go_grown)
      generalize (wr.setCell ⟨gl, k, none⟩ (.func (.func 158) #[.agg #[.int .u64 (lb tx 0 : Nat), .int .u64 (lb tx 1 : Nat), .int .u64 (lb tx 2 : Nat), .int .u64 (lb tx 3 : Nat), .int .u64 (lb ty 0 : Nat), .int .u64 (lb ty 1 : Nat), .int .u64 (lb ty 2 : Nat), .int .u64 (lb ty 3 : Nat), .int .u64 (lb tz 0 : Nat), .int .u64 (lb tz 1 : Nat), .int .u64 (lb tz 2 : Nat), .int .u64 (lb tz 3 : Nat)]] #[])) = W2 at KL2 KP2 KR2 KT2 HB2 ⊢
      clear KL KP KR KT HB k0 k1 t0 a0 b0 t1 a1 b1 t2 a2 b2 t3 a3 b3 t4 a4 b4 t5 a5 b5 t6 a6 b6 t7 a7 b7 t8 a8 b8 t9 a9 b9 t10 a10 b10 t11 a11 b11
      refine (keep w.heap.size w (HP3.out _) HB2.out (Nat.le_refl _)).mono ?_
      rintro e w3 ⟨rfl, hb, hkk⟩
      have KL3 := Lib.hid (KL2.out.below hkk)
      have KP3 := Lib.hid (KP2.out.below hkk)
      have KR3 := Lib.hid (KR2.out.below hkk)
      have KT3 := Lib.hid (KT2.out.below hkk)
      have HB3 := Lib.hid hb
      clear hb hkk KL2 KP2 KR2 KT2 HB2
      obtain ⟨⟨f0, f1, f2, f3⟩, ⟨f4, f5, f6, f7⟩, f8, f9, f10, f11⟩ := KT3.out.fros12
      obtain ⟨⟨c0, c1, c2, c3⟩, ⟨c4, c5, c6, c7⟩, c8, c9, c10, c11⟩ := KT3.out.cells12
      go_wp2_with fail
      go_round
      case rel =>
        refine ⟨k + 1, by omega, by go_num, Bk.puto12 HG.out.2.1.2.2 KP3.out, Bk.puto12 HG.out.2.2.2.1 KR3.out, Bk.puto12 HG.out.2.2.2.2 KL3.out, ?_, ?_⟩
        · rw [HT2.out]; exact Bk.put12 KT3.out
        · have hb := HB3.out
          have hg := HG.out.1.2.2.2
          go_grown
      case measure => simp [intOf]; omega
    · obtain rfl : k = 16 := by omega
      have l0 : wr.cell? ⟨gl, 0, none⟩ = some (.func (.func 158) #[(p.tim 0).v] #[]) := (KL.out.cell 0).trans (fa_get p 16 0 (by decide))
      have r0 : wr.cell? ⟨gr, 0, none⟩ = some .nilFunc := (KR.out.cell 0).trans (fa_get p 0 0 (by decide))
      have f0 : wr.frozen? ⟨gr, 0, none⟩ = false := KR.out.fro 0
      have l1 : wr.cell? ⟨gl, 1, none⟩ = some (.func (.func 158) #[(p.tim 1).v] #[]) := (KL.out.cell 1).trans (fa_get p 16 1 (by decide))
      have r1 : wr.cell? ⟨gr, 1, none⟩ = some .nilFunc := (KR.out.cell 1).trans (fa_get p 0 1 (by decide))
      have f1 : wr.frozen? ⟨gr, 1, none⟩ = false := KR.out.fro 1
      have l2 : wr.cell? ⟨gl, 2, none⟩ = some (.func (.func 158) #[(p.tim 2).v] #[]) := (KL.out.cell 2).trans (fa_get p 16 2 (by decide))
      have r2 : wr.cell? ⟨gr, 2, none⟩ = some .nilFunc := (KR.out.cell 2).trans (fa_get p 0 2 (by decide))
      have f2 : wr.frozen? ⟨gr, 2, none⟩ = false := KR.out.fro 2
      have l3 : wr.cell? ⟨gl, 3, none⟩ = some (.func (.func 158) #[(p.tim 3).v] #[]) := (KL.out.cell 3).trans (fa_get p 16 3 (by decide))
      have r3 : wr.cell? ⟨gr, 3, none⟩ = some .nilFunc := (KR.out.cell 3).trans (fa_get p 0 3 (by decide))
      have f3 : wr.frozen? ⟨gr, 3, none⟩ = false := KR.out.fro 3
      have l4 : wr.cell? ⟨gl, 4, none⟩ = some (.func (.func 158) #[(p.tim 4).v] #[]) := (KL.out.cell 4).trans (fa_get p 16 4 (by decide))
      have r4 : wr.cell? ⟨gr, 4, none⟩ = some .nilFunc := (KR.out.cell 4).trans (fa_get p 0 4 (by decide))
      have f4 : wr.frozen? ⟨gr, 4, none⟩ = false := KR.out.fro 4
      have l5 : wr.cell? ⟨gl, 5, none⟩ = some (.func (.func 158) #[(p.tim 5).v] #[]) := (KL.out.cell 5).trans (fa_get p 16 5 (by decide))
      have r5 : wr.cell? ⟨gr, 5, none⟩ = some .nilFunc := (KR.out.cell 5).trans (fa_get p 0 5 (by decide))
      have f5 : wr.frozen? ⟨gr, 5, none⟩ = false := KR.out.fro 5
      have l6 : wr.cell? ⟨gl, 6, none⟩ = some (.func (.func 158) #[(p.tim 6).v] #[]) := (KL.out.cell 6).trans (fa_get p 16 6 (by decide))
      have r6 : wr.cell? ⟨gr, 6, none⟩ = some .nilFunc := (KR.out.cell 6).trans (fa_get p 0 6 (by decide))
      have f6 : wr.frozen? ⟨gr, 6, none⟩ = false := KR.out.fro 6
      have l7 : wr.cell? ⟨gl, 7, none⟩ = some (.func (.func 158) #[(p.tim 7).v] #[]) := (KL.out.cell 7).trans (fa_get p 16 7 (by decide))
      have r7 : wr.cell? ⟨gr, 7, none⟩ = some .nilFunc := (KR.out.cell 7).trans (fa_get p 0 7 (by decide))
      have f7 : wr.frozen? ⟨gr, 7, none⟩ = false := KR.out.fro 7
      have l8 : wr.cell? ⟨gl, 8, none⟩ = some (.func (.func 158) #[(p.tim 8).v] #[]) := (KL.out.cell 8).trans (fa_get p 16 8 (by decide))
      have r8 : wr.cell? ⟨gr, 8, none⟩ = some .nilFunc := (KR.out.cell 8).trans (fa_get p 0 8 (by decide))
      have f8 : wr.frozen? ⟨gr, 8, none⟩ = false := KR.out.fro 8
      have l9 : wr.cell? ⟨gl, 9, none⟩ = some (.func (.func 158) #[(p.tim 9).v] #[]) := (KL.out.cell 9).trans (fa_get p 16 9 (by decide))
      have r9 : wr.cell? ⟨gr, 9, none⟩ = some .nilFunc := (KR.out.cell 9).trans (fa_get p 0 9 (by decide))
      have f9 : wr.frozen? ⟨gr, 9, none⟩ = false := KR.out.fro 9
      have l10 : wr.cell? ⟨gl, 10, none⟩ = some (.func (.func 158) #[(p.tim 10).v] #[]) := (KL.out.cell 10).trans (fa_get p 16 10 (by decide))
      have r10 : wr.cell? ⟨gr, 10, none⟩ = some .nilFunc := (KR.out.cell 10).trans (fa_get p 0 10 (by decide))
      have f10 : wr.frozen? ⟨gr, 10, none⟩ = false := KR.out.fro 10
      have l11 : wr.cell? ⟨gl, 11, none⟩ = some (.func (.func 158) #[(p.tim 11).v] #[]) := (KL.out.cell 11).trans (fa_get p 16 11 (by decide))
      have r11 : wr.cell? ⟨gr, 11, none⟩ = some .nilFunc := (KR.out.cell 11).trans (fa_get p 0 11 (by decide))
      have f11 : wr.frozen? ⟨gr, 11, none⟩ = false := KR.out.fro 11
      have l12 : wr.cell? ⟨gl, 12, none⟩ = some (.func (.func 158) #[(p.tim 12).v] #[]) := (KL.out.cell 12).trans (fa_get p 16 12 (by decide))
      have r12 : wr.cell? ⟨gr, 12, none⟩ = some .nilFunc := (KR.out.cell 12).trans (fa_get p 0 12 (by decide))
      have f12 : wr.frozen? ⟨gr, 12, none⟩ = false := KR.out.fro 12
      have l13 : wr.cell? ⟨gl, 13, none⟩ = some (.func (.func 158) #[(p.tim 13).v] #[]) := (KL.out.cell 13).trans (fa_get p 16 13 (by decide))
      have r13 : wr.cell? ⟨gr, 13, none⟩ = some .nilFunc := (KR.out.cell 13).trans (fa_get p 0 13 (by decide))
      have f13 : wr.frozen? ⟨gr, 13, none⟩ = false := KR.out.fro 13
      have l14 : wr.cell? ⟨gl, 14, none⟩ = some (.func (.func 158) #[(p.tim 14).v] #[]) := (KL.out.cell 14).trans (fa_get p 16 14 (by decide))
      have r14 : wr.cell? ⟨gr, 14, none⟩ = some .nilFunc := (KR.out.cell 14).trans (fa_get p 0 14 (by decide))
      have f14 : wr.frozen? ⟨gr, 14, none⟩ = false := KR.out.fro 14
      have l15 : wr.cell? ⟨gl, 15, none⟩ = some (.func (.func 158) #[(p.tim 15).v] #[]) := (KL.out.cell 15).trans (fa_get p 16 15 (by decide))
      have r15 : wr.cell? ⟨gr, 15, none⟩ = some .nilFunc := (KR.out.cell 15).trans (fa_get p 0 15 (by decide))
      have f15 : wr.frozen? ⟨gr, 15, none⟩ = false := KR.out.fro 15
      go_wp2_with fail
      have h := KR.out
      replace h := Bk.same (i := 0) (v := FV p 0) h
      rw [fa_set] at h
      replace h := Bk.same (i := 1) (v := FV p 1) h
      rw [fa_set] at h
      replace h := Bk.same (i := 2) (v := FV p 2) h
      rw [fa_set] at h
      replace h := Bk.same (i := 3) (v := FV p 3) h
      rw [fa_set] at h
      replace h := Bk.same (i := 4) (v := FV p 4) h
      rw [fa_set] at h
      replace h := Bk.same (i := 5) (v := FV p 5) h
      rw [fa_set] at h
      replace h := Bk.same (i := 6) (v := FV p 6) h
      rw [fa_set] at h
      replace h := Bk.same (i := 7) (v := FV p 7) h
      rw [fa_set] at h
      replace h := Bk.same (i := 8) (v := FV p 8) h
      rw [fa_set] at h
      replace h := Bk.same (i := 9) (v := FV p 9) h
      rw [fa_set] at h
      replace h := Bk.same (i := 10) (v := FV p 10) h
      rw [fa_set] at h
      replace h := Bk.same (i := 11) (v := FV p 11) h
      rw [fa_set] at h
      replace h := Bk.same (i := 12) (v := FV p 12) h
      rw [fa_set] at h
      replace h := Bk.same (i := 13) (v := FV p 13) h
      rw [fa_set] at h
      replace h := Bk.same (i := 14) (v := FV p 14) h
      rw [fa_set] at h
      replace h := Bk.same (i := 15) (v := FV p 15) h
      rw [fa_set] at h
      refine ret_cell98 rfl gr p rfl h rfl ⟨rfl, ?_⟩
      have hb := HB.out
      have hg := HG.out.1.2.1
      go_grown
end Go.Proofs.YtpggkfdijmnmiaaGreat
