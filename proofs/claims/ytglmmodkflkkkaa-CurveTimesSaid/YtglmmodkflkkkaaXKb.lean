import Derived.Test.YtglmmodkflkkkaaXKa
import Derived.Test.YtglmmodkflkkkaaXHa
set_option linter.unusedVariables false
set_option linter.unusedSimpArgs false
set_option maxRecDepth 100000
namespace Go.Proofs.Ytglmmodkflkkkaa.Ref
open Go.RowKit Go.Proofs.Ytglmmodkflkkkaa.Digits Limbs Curve
theorem lb_at (x : Nat) {j : Nat} (hj : j < 4) : lb x j = x / 65536 ^ (4 * j) % 18446744073709551616 := by
  have : j = 0 ∨ j = 1 ∨ j = 2 ∨ j = 3 := by omega
  rcases this with rfl | rfl | rfl | rfl <;> simp [lb]
theorem pow_le (a b : Nat) (h : a ≤ b) : 65536 ^ a ≤ 65536 ^ b := Nat.pow_le_pow_right (by decide) h
theorem lb_own {V d q s : Nat} (hq : q < 4) (hs : s < 4) (hV : V < 65536 ^ (4 * q + s)) (hd : d < 65536) : lb V q < 65536 ^ s ∧ lb (V + 65536 ^ (4 * q + s) * d) q = lb V q + 65536 ^ s * d := by
  rw [lb_at _ hq, lb_at _ hq]
  have hp : 0 < 65536 ^ (4 * q) := Nat.pow_pos (by decide)
  rw [Nat.pow_add] at hV ⊢
  generalize 65536 ^ (4 * q) = P at *
  have h1 : V / P < 65536 ^ s := Nat.div_lt_of_lt_mul hV
  have h4 : (65536 : Nat) ^ s * 65536 ≤ 18446744073709551616 := by
    have := pow_le (s + 1) 4 (by omega)
    rwa [Nat.pow_succ] at this
  have h5 : 0 < (65536 : Nat) ^ s := Nat.pow_pos (by decide)
  rw [Nat.mul_assoc, Nat.add_mul_div_left _ _ hp]
  generalize (65536 : Nat) ^ s = R at *
  generalize V / P = x at *
  have h6 : R * d + R ≤ R * 65536 := by rw [← Nat.mul_succ]; exact Nat.mul_le_mul_left _ hd
  generalize R * d = y at *
  rw [Nat.mod_eq_of_lt (by omega), Nat.mod_eq_of_lt (by omega)]
  exact ⟨h1, rfl⟩
theorem lb_oth {V d q s j : Nat} (hj : j < 4) (hs : s < 4) (hV : V < 65536 ^ (4 * q + s)) (hd : d < 65536) (hn : j ≠ q) : lb (V + 65536 ^ (4 * q + s) * d) j = lb V j := by
  rw [lb_at _ hj, lb_at _ hj]
  rcases Nat.lt_or_ge j q with h | h
  · obtain ⟨e, he⟩ : ∃ e, 4 * q + s = 4 * j + (4 + e) := ⟨4 * q + s - 4 * j - 4, by omega⟩
    rw [he, Nat.pow_add, Nat.mul_assoc, Nat.add_mul_div_left _ _ (Nat.pow_pos (by decide)), Nat.pow_add, show (65536 : Nat) ^ 4 = 18446744073709551616 from rfl, Nat.mul_assoc, Nat.add_mul_mod_self_left]
  · have h1 : 65536 ^ (4 * q + s) * d + 65536 ^ (4 * q + s) ≤ 65536 ^ (4 * j) := by
      have h2 : 65536 ^ (4 * q + s) * d + 65536 ^ (4 * q + s) ≤ 65536 ^ (4 * q + s) * 65536 := by rw [← Nat.mul_succ]; exact Nat.mul_le_mul_left _ hd
      rw [← Nat.pow_succ] at h2
      exact Nat.le_trans h2 (pow_le _ _ (by omega))
    rw [Nat.div_eq_of_lt (by omega), Nat.div_eq_of_lt (by omega)]
theorem cs4_put {V d q s : Nat} (hq : q < 4) (hs : s < 4) (hV : V < 65536 ^ (4 * q + s)) (hd : d < 65536) :
    (cs4 V).setIfInBounds q (.int .u64 ((lb V q + 65536 ^ s * d : Nat) : Int)) = cs4 (V + 65536 ^ (4 * q + s) * d) := by
  have ho := (lb_own hq hs hV hd).2
  have hj := fun j hj hn => lb_oth (j := j) (q := q) hj hs hV hd hn
  generalize V + 65536 ^ (4 * q + s) * d = V' at *
  rw [← ho]
  have : q = 0 ∨ q = 1 ∨ q = 2 ∨ q = 3 := by omega
  unfold cs4
  rcases this with rfl | rfl | rfl | rfl
  · rw [hj 1 (by decide) (by decide), hj 2 (by decide) (by decide), hj 3 (by decide) (by decide)]; rfl
  · rw [hj 0 (by decide) (by decide), hj 2 (by decide) (by decide), hj 3 (by decide) (by decide)]; rfl
  · rw [hj 0 (by decide) (by decide), hj 1 (by decide) (by decide), hj 3 (by decide) (by decide)]; rfl
  · rw [hj 0 (by decide) (by decide), hj 1 (by decide) (by decide), hj 2 (by decide) (by decide)]; rfl
theorem cs4_get (V : Nat) {q : Nat} (hq : q < 4) : (cs4 V)[q]? = some (.int .u64 ((lb V q : Nat) : Int)) := by
  have : q = 0 ∨ q = 1 ∨ q = 2 ∨ q = 3 := by omega
  rcases this with rfl | rfl | rfl | rfl <;> rfl
noncomputable def out5O0 : Array Oper := (Try.f66.body.bind fun c => findR c 5).getD #[]
set_option maxHeartbeats 8000000 in
theorem out50 (g n cap gx q i d x : Nat) (hx : x < 1) (hd : d < 65536) (hi : i < n) (hn : n ≤ 100) (hc : n ≤ cap) (hq : q < 4) (hk : Int.tdiv (i : Int) 4 = (q : Int)) (hm : Int.tmod (i : Int) 4 = 0) (w : World) (ia : w.cell? ⟨g, i, none⟩ = some (.int .u32 (d : Int))) (ix : w.cell? ⟨gx, q, none⟩ = some (.int .u64 (x : Int))) (fo : w.frozen? ⟨gx, q, none⟩ = false)
    {t1 t2 t5 t6 t7 t8 t9 t10 t11 t12 t13 t14 t15 t16 t17 t18 t19 t20 t21 t22 t23 t24 t25 t26 t27 : Value} {ds : List Deferred} {Q : Exit → Act → World → Prop}
    (h : ∀ (x12 x13 x14 x15 x16 x17 x18 x19 x20 x21 x22 x23 x24 x25 x26 : Value) (w' wm : World), Sm w wm → w' = wm.setCell ⟨gx, q, none⟩ (.int .u64 ((x + 1 * d : Nat) : Int)) → Q .normal { tmps := #[.slice (some ⟨g, 0, none⟩) n cap, t1, t2, .pointer (some ⟨gx, 0, none⟩), .int .i64 (i : Int), t5, t6, t7, t8, t9, t10, t11, x12, x13, x14, x15, x16, x17, x18, x19, x20, x21, x22, x23, x24, x25, x26, t27], defers := ds } w') :
    (Code.region 5 out5O0 true).wp Try.prog Q { tmps := #[.slice (some ⟨g, 0, none⟩) n cap, t1, t2, .pointer (some ⟨gx, 0, none⟩), .int .i64 (i : Int), t5, t6, t7, t8, t9, t10, t11, t12, t13, t14, t15, t16, t17, t18, t19, t20, t21, t22, t23, t24, t25, t26, t27], defers := ds } w := by
  simp only [out5O0, findR, Try.f66, Option.bind_some, Option.or, Option.getD, Nat.reduceEqDiff, if_true, if_false, reduceIte]
  have hor : bits .or .u64 (x : Int) ((d * 1 : Nat) : Int) = ((x + 1 * d : Nat) : Int) := by
    rw [u64_or_nat x (d * 1) (by omega) (by omega), Nat.or_comm, show d * 1 = d <<< 0 from by rw [Nat.shiftLeft_eq], ← Nat.shiftLeft_add_eq_or_of_lt (by omega), Nat.shiftLeft_eq]
    congr 1
    omega
  have HO := Lib.hid hor
  have HH := Lib.hid h
  have hq4 : (q : Int) < 4 := by omega
  clear h hor
  refine wp_region_quiet_tail 15 mixed (by kernel_rfl) ?_
  simp only [List.take_succ_cons, List.take_zero, List.drop_succ_cons, List.drop_zero]
  iterate 15 go_big_quiet_step (fail)
  refine wpQuiet_nil ?_
  intro _ hw'
  obtain ⟨nq, hw''⟩ := hw'
  subst hw''
  have f2 : (w.drewN nq).frozen? ⟨gx, q, none⟩ = false := fo
  have c2 : (w.drewN nq).cell? ⟨gx, q, none⟩ = some (.int .u64 (x : Int)) := ix
  go_wp2_with fail
  refine HH.out _ _ _ _ _ _ _ _ _ _ _ _ _ _ _ _ _ (Sm.drewN w nq) (congrArg (fun z => (w.drewN nq).setCell ⟨gx, q, none⟩ (.int .u64 z)) ?_)
  refine Eq.trans ?_ HO.out
  congr 1 <;> omega
noncomputable def out5O1 : Array Oper := (Try.f66.body.bind fun c => findR c 5).getD #[]
set_option maxHeartbeats 8000000 in
theorem out51 (g n cap gx q i d x : Nat) (hx : x < 65536) (hd : d < 65536) (hi : i < n) (hn : n ≤ 100) (hc : n ≤ cap) (hq : q < 4) (hk : Int.tdiv (i : Int) 4 = (q : Int)) (hm : Int.tmod (i : Int) 4 = 1) (w : World) (ia : w.cell? ⟨g, i, none⟩ = some (.int .u32 (d : Int))) (ix : w.cell? ⟨gx, q, none⟩ = some (.int .u64 (x : Int))) (fo : w.frozen? ⟨gx, q, none⟩ = false)
    {t1 t2 t5 t6 t7 t8 t9 t10 t11 t12 t13 t14 t15 t16 t17 t18 t19 t20 t21 t22 t23 t24 t25 t26 t27 : Value} {ds : List Deferred} {Q : Exit → Act → World → Prop}
    (h : ∀ (x12 x13 x14 x15 x16 x17 x18 x19 x20 x21 x22 x23 x24 x25 x26 : Value) (w' wm : World), Sm w wm → w' = wm.setCell ⟨gx, q, none⟩ (.int .u64 ((x + 65536 * d : Nat) : Int)) → Q .normal { tmps := #[.slice (some ⟨g, 0, none⟩) n cap, t1, t2, .pointer (some ⟨gx, 0, none⟩), .int .i64 (i : Int), t5, t6, t7, t8, t9, t10, t11, x12, x13, x14, x15, x16, x17, x18, x19, x20, x21, x22, x23, x24, x25, x26, t27], defers := ds } w') :
    (Code.region 5 out5O1 true).wp Try.prog Q { tmps := #[.slice (some ⟨g, 0, none⟩) n cap, t1, t2, .pointer (some ⟨gx, 0, none⟩), .int .i64 (i : Int), t5, t6, t7, t8, t9, t10, t11, t12, t13, t14, t15, t16, t17, t18, t19, t20, t21, t22, t23, t24, t25, t26, t27], defers := ds } w := by
  simp only [out5O1, findR, Try.f66, Option.bind_some, Option.or, Option.getD, Nat.reduceEqDiff, if_true, if_false, reduceIte]
  have hor : bits .or .u64 (x : Int) ((d * 65536 : Nat) : Int) = ((x + 65536 * d : Nat) : Int) := by
    rw [u64_or_nat x (d * 65536) (by omega) (by omega), Nat.or_comm, show d * 65536 = d <<< 16 from by rw [Nat.shiftLeft_eq], ← Nat.shiftLeft_add_eq_or_of_lt (by omega), Nat.shiftLeft_eq]
    congr 1
    omega
  have HO := Lib.hid hor
  have HH := Lib.hid h
  have hq4 : (q : Int) < 4 := by omega
  clear h hor
  refine wp_region_quiet_tail 15 mixed (by kernel_rfl) ?_
  simp only [List.take_succ_cons, List.take_zero, List.drop_succ_cons, List.drop_zero]
  iterate 15 go_big_quiet_step (fail)
  refine wpQuiet_nil ?_
  intro _ hw'
  obtain ⟨nq, hw''⟩ := hw'
  subst hw''
  have f2 : (w.drewN nq).frozen? ⟨gx, q, none⟩ = false := fo
  have c2 : (w.drewN nq).cell? ⟨gx, q, none⟩ = some (.int .u64 (x : Int)) := ix
  go_wp2_with fail
  refine HH.out _ _ _ _ _ _ _ _ _ _ _ _ _ _ _ _ _ (Sm.drewN w nq) (congrArg (fun z => (w.drewN nq).setCell ⟨gx, q, none⟩ (.int .u64 z)) ?_)
  refine Eq.trans ?_ HO.out
  congr 1 <;> omega
noncomputable def out5O2 : Array Oper := (Try.f66.body.bind fun c => findR c 5).getD #[]
set_option maxHeartbeats 8000000 in
theorem out52 (g n cap gx q i d x : Nat) (hx : x < 4294967296) (hd : d < 65536) (hi : i < n) (hn : n ≤ 100) (hc : n ≤ cap) (hq : q < 4) (hk : Int.tdiv (i : Int) 4 = (q : Int)) (hm : Int.tmod (i : Int) 4 = 2) (w : World) (ia : w.cell? ⟨g, i, none⟩ = some (.int .u32 (d : Int))) (ix : w.cell? ⟨gx, q, none⟩ = some (.int .u64 (x : Int))) (fo : w.frozen? ⟨gx, q, none⟩ = false)
    {t1 t2 t5 t6 t7 t8 t9 t10 t11 t12 t13 t14 t15 t16 t17 t18 t19 t20 t21 t22 t23 t24 t25 t26 t27 : Value} {ds : List Deferred} {Q : Exit → Act → World → Prop}
    (h : ∀ (x12 x13 x14 x15 x16 x17 x18 x19 x20 x21 x22 x23 x24 x25 x26 : Value) (w' wm : World), Sm w wm → w' = wm.setCell ⟨gx, q, none⟩ (.int .u64 ((x + 4294967296 * d : Nat) : Int)) → Q .normal { tmps := #[.slice (some ⟨g, 0, none⟩) n cap, t1, t2, .pointer (some ⟨gx, 0, none⟩), .int .i64 (i : Int), t5, t6, t7, t8, t9, t10, t11, x12, x13, x14, x15, x16, x17, x18, x19, x20, x21, x22, x23, x24, x25, x26, t27], defers := ds } w') :
    (Code.region 5 out5O2 true).wp Try.prog Q { tmps := #[.slice (some ⟨g, 0, none⟩) n cap, t1, t2, .pointer (some ⟨gx, 0, none⟩), .int .i64 (i : Int), t5, t6, t7, t8, t9, t10, t11, t12, t13, t14, t15, t16, t17, t18, t19, t20, t21, t22, t23, t24, t25, t26, t27], defers := ds } w := by
  simp only [out5O2, findR, Try.f66, Option.bind_some, Option.or, Option.getD, Nat.reduceEqDiff, if_true, if_false, reduceIte]
  have hor : bits .or .u64 (x : Int) ((d * 4294967296 : Nat) : Int) = ((x + 4294967296 * d : Nat) : Int) := by
    rw [u64_or_nat x (d * 4294967296) (by omega) (by omega), Nat.or_comm, show d * 4294967296 = d <<< 32 from by rw [Nat.shiftLeft_eq], ← Nat.shiftLeft_add_eq_or_of_lt (by omega), Nat.shiftLeft_eq]
    congr 1
    omega
  have HO := Lib.hid hor
  have HH := Lib.hid h
  have hq4 : (q : Int) < 4 := by omega
  clear h hor
  refine wp_region_quiet_tail 15 mixed (by kernel_rfl) ?_
  simp only [List.take_succ_cons, List.take_zero, List.drop_succ_cons, List.drop_zero]
  iterate 15 go_big_quiet_step (fail)
  refine wpQuiet_nil ?_
  intro _ hw'
  obtain ⟨nq, hw''⟩ := hw'
  subst hw''
  have f2 : (w.drewN nq).frozen? ⟨gx, q, none⟩ = false := fo
  have c2 : (w.drewN nq).cell? ⟨gx, q, none⟩ = some (.int .u64 (x : Int)) := ix
  go_wp2_with fail
  refine HH.out _ _ _ _ _ _ _ _ _ _ _ _ _ _ _ _ _ (Sm.drewN w nq) (congrArg (fun z => (w.drewN nq).setCell ⟨gx, q, none⟩ (.int .u64 z)) ?_)
  refine Eq.trans ?_ HO.out
  congr 1 <;> omega
noncomputable def out5O3 : Array Oper := (Try.f66.body.bind fun c => findR c 5).getD #[]
set_option maxHeartbeats 8000000 in
theorem out53 (g n cap gx q i d x : Nat) (hx : x < 281474976710656) (hd : d < 65536) (hi : i < n) (hn : n ≤ 100) (hc : n ≤ cap) (hq : q < 4) (hk : Int.tdiv (i : Int) 4 = (q : Int)) (hm : Int.tmod (i : Int) 4 = 3) (w : World) (ia : w.cell? ⟨g, i, none⟩ = some (.int .u32 (d : Int))) (ix : w.cell? ⟨gx, q, none⟩ = some (.int .u64 (x : Int))) (fo : w.frozen? ⟨gx, q, none⟩ = false)
    {t1 t2 t5 t6 t7 t8 t9 t10 t11 t12 t13 t14 t15 t16 t17 t18 t19 t20 t21 t22 t23 t24 t25 t26 t27 : Value} {ds : List Deferred} {Q : Exit → Act → World → Prop}
    (h : ∀ (x12 x13 x14 x15 x16 x17 x18 x19 x20 x21 x22 x23 x24 x25 x26 : Value) (w' wm : World), Sm w wm → w' = wm.setCell ⟨gx, q, none⟩ (.int .u64 ((x + 281474976710656 * d : Nat) : Int)) → Q .normal { tmps := #[.slice (some ⟨g, 0, none⟩) n cap, t1, t2, .pointer (some ⟨gx, 0, none⟩), .int .i64 (i : Int), t5, t6, t7, t8, t9, t10, t11, x12, x13, x14, x15, x16, x17, x18, x19, x20, x21, x22, x23, x24, x25, x26, t27], defers := ds } w') :
    (Code.region 5 out5O3 true).wp Try.prog Q { tmps := #[.slice (some ⟨g, 0, none⟩) n cap, t1, t2, .pointer (some ⟨gx, 0, none⟩), .int .i64 (i : Int), t5, t6, t7, t8, t9, t10, t11, t12, t13, t14, t15, t16, t17, t18, t19, t20, t21, t22, t23, t24, t25, t26, t27], defers := ds } w := by
  simp only [out5O3, findR, Try.f66, Option.bind_some, Option.or, Option.getD, Nat.reduceEqDiff, if_true, if_false, reduceIte]
  have hor : bits .or .u64 (x : Int) ((d * 281474976710656 : Nat) : Int) = ((x + 281474976710656 * d : Nat) : Int) := by
    rw [u64_or_nat x (d * 281474976710656) (by omega) (by omega), Nat.or_comm, show d * 281474976710656 = d <<< 48 from by rw [Nat.shiftLeft_eq], ← Nat.shiftLeft_add_eq_or_of_lt (by omega), Nat.shiftLeft_eq]
    congr 1
    omega
  have HO := Lib.hid hor
  have HH := Lib.hid h
  have hq4 : (q : Int) < 4 := by omega
  clear h hor
  refine wp_region_quiet_tail 15 mixed (by kernel_rfl) ?_
  simp only [List.take_succ_cons, List.take_zero, List.drop_succ_cons, List.drop_zero]
  iterate 15 go_big_quiet_step (fail)
  refine wpQuiet_nil ?_
  intro _ hw'
  obtain ⟨nq, hw''⟩ := hw'
  subst hw''
  have f2 : (w.drewN nq).frozen? ⟨gx, q, none⟩ = false := fo
  have c2 : (w.drewN nq).cell? ⟨gx, q, none⟩ = some (.int .u64 (x : Int)) := ix
  go_wp2_with fail
  refine HH.out _ _ _ _ _ _ _ _ _ _ _ _ _ _ _ _ _ (Sm.drewN w nq) (congrArg (fun z => (w.drewN nq).setCell ⟨gx, q, none⟩ (.int .u64 z)) ?_)
  refine Eq.trans ?_ HO.out
  congr 1 <;> omega
set_option maxHeartbeats 8000000 in
theorem out_nv (v : Value) (w : World) (x : Nat) (hx : x < W256) (h : NV w v x) : Calls Try.prog 66 #[v] w fun e w' => e = .returned (nv x) ∧ Below w.heap.size w w' := by
  obtain ⟨r, ⟨g, cap, rfl, hc, hcm, hg, hcell⟩, hdig, htrim, hv⟩ := h
  have hlen : r.length ≤ 16 := len_pow htrim hv (by rw [show (65536 : Nat) ^ 16 = W256 from by decide +kernel]; exact hx)
  have HC := Lib.hid hcell
  have HD := Lib.hid hdig
  have HV := Lib.hid hv
  have HG := Lib.hid hg
  obtain ⟨L, hL⟩ : ∃ L, L = r.length := ⟨_, rfl⟩
  have HL := Lib.hid hL
  rw [← hL] at hc hlen ⊢
  clear hcell hdig htrim hv hg hx hL
  go_enter Try.func66, Try.ntmps66
  go_wp2_with fail
  have KR0 : Hid (Bk 24 ((w.alloc (.cells cs0 24)).alloc (.cells cs0 24)) w.heap.size cs0) := Lib.hid (Bk.alloc (Bk.new rfl))
  have KX0 : Hid (Bk 24 ((w.alloc (.cells cs0 24)).alloc (.cells cs0 24)) (w.heap.size + 1) (cs4 (val (r.take 0)))) := Lib.hid (by
    have e0 : cs4 (val (r.take 0)) = cs0 := by simp [cs4, cs0, val, lb]
    rw [e0]
    exact Bk.new (by simp))
  have HB0 : Hid (Below w.heap.size w ((w.alloc (.cells cs0 24)).alloc (.cells cs0 24))) := Lib.hid (by go_grown)
  have ec : cs0 = #[.int .u64 0, .int .u64 0, .int .u64 0, .int .u64 0] := rfl
  rw [ec] at KR0 KX0 HB0
  obtain ⟨gx, hgx⟩ : ∃ g, g = w.heap.size + 1 := ⟨_, rfl⟩
  rw [← hgx] at KX0 ⊢
  have HGX := Lib.hid hgx
  clear ec hgx
  generalize ((w.alloc (.cells #[.int .u64 0, .int .u64 0, .int .u64 0, .int .u64 0] 24)).alloc (.cells #[.int .u64 0, .int .u64 0, .int .u64 0, .int .u64 0] 24)) = w0 at KR0 KX0 HB0 ⊢
  go_loopw [4] (fun i wr => ∃ k : Nat, k ≤ L ∧ i = .int .i64 (k : Int) ∧ Bk 24 wr gx (cs4 (val (r.take k))) ∧ Bk 24 wr w.heap.size #[.int .u64 0, .int .u64 0, .int .u64 0, .int .u64 0] ∧ Below w.heap.size w wr) (fun i _ => L - (intOf i).toNat)
  case atStart => exact ⟨0, Nat.zero_le _, rfl, KX0.out, KR0.out, HB0.out⟩
  case round =>
    clear KX0 KR0 HB0
    obtain ⟨k, hk, rfl, hx, hr, hb⟩ := hrel
    have KX := Lib.hid hx
    have KR := Lib.hid hr
    have HB := Lib.hid hb
    clear hx hr hb
    by_cases hkL : k < L
    · have hkr : k < r.length := by have := HL.out; omega
      have ia := (HB.out.cell (p := ⟨g, k, none⟩) HG.out).trans (HC.out k hkr)
      have hd := HD.out _ (List.getElem_mem hkr)
      have HT := Lib.hid (take_val hkr)
      have hVl : val (r.take k) < 65536 ^ k := by
        have := val_lt (r.take k) (dig_take HD.out k)
        rwa [List.length_take, Nat.min_eq_left (by omega)] at this
      generalize r[k] = d at ia hd HT
      generalize hVV : val (r.take k) = V at KX HT hVl
      clear hVV
      obtain ⟨q, hq⟩ : ∃ q, q = k / 4 := ⟨_, rfl⟩
      have hq4 : q < 4 := by omega
      have t1 : Int.tdiv (k : Int) 4 = (q : Int) := by rw [Int.tdiv_eq_ediv_of_nonneg (by omega)]; omega
      have ix := (KX.out.cell q).trans (cs4_get V hq4)
      have fo := KX.out.fro q
      have IX := Lib.hid (And.intro ia (And.intro ix fo))
      clear ia ix fo
      have hs4 : k % 4 = 0 ∨ k % 4 = 1 ∨ k % 4 = 2 ∨ k % 4 = 3 := by omega
      rcases hs4 with hs | hs | hs | hs
      · have e4 : k = 4 * q + 0 := by omega
        have t2 : Int.tmod (k : Int) 4 = 0 := by rw [Int.tmod_eq_emod_of_nonneg (by omega)]; omega
        have hV2 : V < 65536 ^ (4 * q + 0) := by rw [← e4]; exact hVl
        obtain ⟨hxl, _⟩ := lb_own (s := 0) hq4 (by decide) hV2 hd
        have HP := Lib.hid (cs4_put (s := 0) hq4 (by decide) hV2 hd)
        rw [← e4, ← HT.out, show (65536 : Nat) ^ 0 = 1 from rfl] at HP
        rw [show (65536 : Nat) ^ 0 = 1 from rfl] at hxl
        clear e4 hV2 hVl HT hq hs
        go_wp2_with fail
        refine out50 g L cap gx q k d (lb V q) hxl hd hkL (by omega) hc hq4 t1 t2 wr IX.out.1 IX.out.2.1 IX.out.2.2 ?_
        intros
        rename_i wn wm hsm hwn
        subst hwn
        have KX2 : Hid (Bk 24 (wm.setCell ⟨gx, q, none⟩ (.int .u64 ((lb V q + 1 * d : Nat) : Int))) gx (cs4 (val (r.take (k + 1))))) := Lib.hid (by
          rw [← HP.out]
          exact Bk.same (KX.out.below hsm.below0))
        have KR2 : Hid (Bk 24 (wm.setCell ⟨gx, q, none⟩ (.int .u64 ((lb V q + 1 * d : Nat) : Int))) w.heap.size #[.int .u64 0, .int .u64 0, .int .u64 0, .int .u64 0]) := Lib.hid (Bk.oth (by show w.heap.size ≠ gx; have := HGX.out; omega) (KR.out.below hsm.below0))
        have HB2 : Hid (Below w.heap.size w (wm.setCell ⟨gx, q, none⟩ (.int .u64 ((lb V q + 1 * d : Nat) : Int)))) := Lib.hid ((hsm.below HB.out).setCell (p := ⟨gx, q, none⟩) (by show w.heap.size ≤ gx; have := HGX.out; omega) _)
        clear hsm KX KR HB IX
        generalize (wm.setCell ⟨gx, q, none⟩ (.int .u64 ((lb V q + 1 * d : Nat) : Int))) = wq at KX2 KR2 HB2 ⊢
        go_wp2_with fail
        go_roundw
        case rel => exact ⟨k + 1, by omega, by go_num, KX2.out, KR2.out, HB2.out⟩
        case measure => simp [intOf] <;> omega
      · have e4 : k = 4 * q + 1 := by omega
        have t2 : Int.tmod (k : Int) 4 = 1 := by rw [Int.tmod_eq_emod_of_nonneg (by omega)]; omega
        have hV2 : V < 65536 ^ (4 * q + 1) := by rw [← e4]; exact hVl
        obtain ⟨hxl, _⟩ := lb_own (s := 1) hq4 (by decide) hV2 hd
        have HP := Lib.hid (cs4_put (s := 1) hq4 (by decide) hV2 hd)
        rw [← e4, ← HT.out, show (65536 : Nat) ^ 1 = 65536 from rfl] at HP
        rw [show (65536 : Nat) ^ 1 = 65536 from rfl] at hxl
        clear e4 hV2 hVl HT hq hs
        go_wp2_with fail
        refine out51 g L cap gx q k d (lb V q) hxl hd hkL (by omega) hc hq4 t1 t2 wr IX.out.1 IX.out.2.1 IX.out.2.2 ?_
        intros
        rename_i wn wm hsm hwn
        subst hwn
        have KX2 : Hid (Bk 24 (wm.setCell ⟨gx, q, none⟩ (.int .u64 ((lb V q + 65536 * d : Nat) : Int))) gx (cs4 (val (r.take (k + 1))))) := Lib.hid (by
          rw [← HP.out]
          exact Bk.same (KX.out.below hsm.below0))
        have KR2 : Hid (Bk 24 (wm.setCell ⟨gx, q, none⟩ (.int .u64 ((lb V q + 65536 * d : Nat) : Int))) w.heap.size #[.int .u64 0, .int .u64 0, .int .u64 0, .int .u64 0]) := Lib.hid (Bk.oth (by show w.heap.size ≠ gx; have := HGX.out; omega) (KR.out.below hsm.below0))
        have HB2 : Hid (Below w.heap.size w (wm.setCell ⟨gx, q, none⟩ (.int .u64 ((lb V q + 65536 * d : Nat) : Int)))) := Lib.hid ((hsm.below HB.out).setCell (p := ⟨gx, q, none⟩) (by show w.heap.size ≤ gx; have := HGX.out; omega) _)
        clear hsm KX KR HB IX
        generalize (wm.setCell ⟨gx, q, none⟩ (.int .u64 ((lb V q + 65536 * d : Nat) : Int))) = wq at KX2 KR2 HB2 ⊢
        go_wp2_with fail
        go_roundw
        case rel => exact ⟨k + 1, by omega, by go_num, KX2.out, KR2.out, HB2.out⟩
        case measure => simp [intOf] <;> omega
      · have e4 : k = 4 * q + 2 := by omega
        have t2 : Int.tmod (k : Int) 4 = 2 := by rw [Int.tmod_eq_emod_of_nonneg (by omega)]; omega
        have hV2 : V < 65536 ^ (4 * q + 2) := by rw [← e4]; exact hVl
        obtain ⟨hxl, _⟩ := lb_own (s := 2) hq4 (by decide) hV2 hd
        have HP := Lib.hid (cs4_put (s := 2) hq4 (by decide) hV2 hd)
        rw [← e4, ← HT.out, show (65536 : Nat) ^ 2 = 4294967296 from rfl] at HP
        rw [show (65536 : Nat) ^ 2 = 4294967296 from rfl] at hxl
        clear e4 hV2 hVl HT hq hs
        go_wp2_with fail
        refine out52 g L cap gx q k d (lb V q) hxl hd hkL (by omega) hc hq4 t1 t2 wr IX.out.1 IX.out.2.1 IX.out.2.2 ?_
        intros
        rename_i wn wm hsm hwn
        subst hwn
        have KX2 : Hid (Bk 24 (wm.setCell ⟨gx, q, none⟩ (.int .u64 ((lb V q + 4294967296 * d : Nat) : Int))) gx (cs4 (val (r.take (k + 1))))) := Lib.hid (by
          rw [← HP.out]
          exact Bk.same (KX.out.below hsm.below0))
        have KR2 : Hid (Bk 24 (wm.setCell ⟨gx, q, none⟩ (.int .u64 ((lb V q + 4294967296 * d : Nat) : Int))) w.heap.size #[.int .u64 0, .int .u64 0, .int .u64 0, .int .u64 0]) := Lib.hid (Bk.oth (by show w.heap.size ≠ gx; have := HGX.out; omega) (KR.out.below hsm.below0))
        have HB2 : Hid (Below w.heap.size w (wm.setCell ⟨gx, q, none⟩ (.int .u64 ((lb V q + 4294967296 * d : Nat) : Int)))) := Lib.hid ((hsm.below HB.out).setCell (p := ⟨gx, q, none⟩) (by show w.heap.size ≤ gx; have := HGX.out; omega) _)
        clear hsm KX KR HB IX
        generalize (wm.setCell ⟨gx, q, none⟩ (.int .u64 ((lb V q + 4294967296 * d : Nat) : Int))) = wq at KX2 KR2 HB2 ⊢
        go_wp2_with fail
        go_roundw
        case rel => exact ⟨k + 1, by omega, by go_num, KX2.out, KR2.out, HB2.out⟩
        case measure => simp [intOf] <;> omega
      · have e4 : k = 4 * q + 3 := by omega
        have t2 : Int.tmod (k : Int) 4 = 3 := by rw [Int.tmod_eq_emod_of_nonneg (by omega)]; omega
        have hV2 : V < 65536 ^ (4 * q + 3) := by rw [← e4]; exact hVl
        obtain ⟨hxl, _⟩ := lb_own (s := 3) hq4 (by decide) hV2 hd
        have HP := Lib.hid (cs4_put (s := 3) hq4 (by decide) hV2 hd)
        rw [← e4, ← HT.out, show (65536 : Nat) ^ 3 = 281474976710656 from rfl] at HP
        rw [show (65536 : Nat) ^ 3 = 281474976710656 from rfl] at hxl
        clear e4 hV2 hVl HT hq hs
        go_wp2_with fail
        refine out53 g L cap gx q k d (lb V q) hxl hd hkL (by omega) hc hq4 t1 t2 wr IX.out.1 IX.out.2.1 IX.out.2.2 ?_
        intros
        rename_i wn wm hsm hwn
        subst hwn
        have KX2 : Hid (Bk 24 (wm.setCell ⟨gx, q, none⟩ (.int .u64 ((lb V q + 281474976710656 * d : Nat) : Int))) gx (cs4 (val (r.take (k + 1))))) := Lib.hid (by
          rw [← HP.out]
          exact Bk.same (KX.out.below hsm.below0))
        have KR2 : Hid (Bk 24 (wm.setCell ⟨gx, q, none⟩ (.int .u64 ((lb V q + 281474976710656 * d : Nat) : Int))) w.heap.size #[.int .u64 0, .int .u64 0, .int .u64 0, .int .u64 0]) := Lib.hid (Bk.oth (by show w.heap.size ≠ gx; have := HGX.out; omega) (KR.out.below hsm.below0))
        have HB2 : Hid (Below w.heap.size w (wm.setCell ⟨gx, q, none⟩ (.int .u64 ((lb V q + 281474976710656 * d : Nat) : Int)))) := Lib.hid ((hsm.below HB.out).setCell (p := ⟨gx, q, none⟩) (by show w.heap.size ≤ gx; have := HGX.out; omega) _)
        clear hsm KX KR HB IX
        generalize (wm.setCell ⟨gx, q, none⟩ (.int .u64 ((lb V q + 281474976710656 * d : Nat) : Int))) = wq at KX2 KR2 HB2 ⊢
        go_wp2_with fail
        go_roundw
        case rel => exact ⟨k + 1, by omega, by go_num, KX2.out, KR2.out, HB2.out⟩
        case measure => simp [intOf] <;> omega
    · obtain rfl : k = L := by omega
      have htt : r.take k = r := List.take_of_length_le (by have := HL.out; omega)
      rw [htt, HV.out] at KX
      obtain ⟨a0, a1, a2, a3⟩ := Bk.cells (show Bk 24 wr gx #[.int .u64 (lb x 0 : Nat), .int .u64 (lb x 1 : Nat), .int .u64 (lb x 2 : Nat), .int .u64 (lb x 3 : Nat)] from KX.out)
      obtain ⟨b0, b1, b2, b3⟩ := KR.out.cells
      obtain ⟨f0, f1, f2, f3⟩ := KR.out.fros
      clear htt
      go_wp2_with fail
      refine ret_cell rfl w.heap.size x rfl (Bk.put KR.out) rfl ⟨rfl, ?_⟩
      have hb := HB.out
      go_grown
end Go.Proofs.Ytglmmodkflkkkaa.Ref
set_option linter.unusedVariables false
set_option linter.unusedSimpArgs false
set_option maxRecDepth 100000
namespace Go.Proofs.Ytglmmodkflkkkaa.Ref
open Go.RowKit Go.Proofs.Ytglmmodkflkkkaa.Digits Limbs Curve
def Nw (B : Nat) (t : TypeId) (cs : Array Value) (w : World) (x : Value) : Prop := ∃ g, x = .pointer (some ⟨g, 0, none⟩) ∧ B ≤ g ∧ Bk t w g cs
theorem Nw.below {B : Nat} {t : TypeId} {cs : Array Value} {w w' : World} {x : Value} (h : Nw B t cs w x) (hb : Below w.heap.size w w') : Nw B t cs w' x := by
  obtain ⟨g, h1, h2, h3⟩ := h
  exact ⟨g, h1, h2, h3.below hb⟩
end Go.Proofs.Ytglmmodkflkkkaa.Ref
set_option linter.unusedVariables false
set_option linter.unusedSimpArgs false
set_option maxRecDepth 100000
namespace Go.Proofs.Ytglmmodkflkkkaa.Ref
open Go.RowKit Go.Proofs.Ytglmmodkflkkkaa.Digits Limbs Curve
end Go.Proofs.Ytglmmodkflkkkaa.Ref
