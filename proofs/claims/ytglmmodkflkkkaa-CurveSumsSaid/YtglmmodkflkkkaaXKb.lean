/- A number out of its digits (the reference's Out). Condition: below 2 to the 256. A point's bytes, and the point whose bytes they are (the reference's Bytes and Of of points). No condition but the numbers' size and the bytes' length. The point whose bytes they are (the reference's Of of points). No condition but the bytes' length. -/
import Derived.Test.YtglmmodkflkkkaaXKa
import Derived.Test.YtglmmodkflkkkaaXHa
set_option linter.unusedVariables false
set_option linter.unusedSimpArgs false
set_option maxRecDepth 100000
namespace Go.Proofs.Ytglmmodkflkkkaa.Ref
open Go.RowKit Go.Proofs.Ytglmmodkflkkkaa.Digits Limbs Curve

theorem lb_at (x : Nat) {j : Nat} (hj : j < 4) : lb x j = x / 65536 ^ (4 * j) % 18446744073709551616 := by
  have : j = 0 ∨ j = 1 ∨ j = 2 ∨ j = 3 := by omega
  rcases this with rfl | rfl | rfl | rfl <;> simp [lb]
theorem pow_le (a b : Nat) (h : a ≤ b) : 65536 ^ a ≤ 65536 ^ b := Nat.pow_le_pow_right (by decide) h
/-- a digit more, in its limb -/
theorem lb_own {V d q s : Nat} (hq : q < 4) (hs : s < 4) (hV : V < 65536 ^ (4 * q + s)) (hd : d < 65536) : lb V q < 65536 ^ s ∧ lb (V + 65536 ^ (4 * q + s) * d) q = lb V q + 65536 ^ s * d := by
  rw [lb_at _ hq, lb_at _ hq]
  have hp : 0 < 65536 ^ (4 * q) := Nat.pow_pos (by decide)
  rw [Nat.pow_add] at hV ⊢
  generalize 65536 ^ (4 * q) = P at *
  have h1 : V / P < 65536 ^ s := Nat.div_lt_of_lt_mul hV
  have h4 : (65536 : Nat) ^ s * 65536 ≤ 18446744073709551616 := by
    have := pow_le (s + 1) 4 (by omega)
    rwa [Nat.pow_succ] at this
  have h5 : 0 < (65536 : Nat) ^ s := Nat.pow_pos (by decide)
  rw [Nat.mul_assoc, Nat.add_mul_div_left _ _ hp]
  generalize (65536 : Nat) ^ s = R at *
  generalize V / P = x at *
  have h6 : R * d + R ≤ R * 65536 := by rw [← Nat.mul_succ]; exact Nat.mul_le_mul_left _ hd
  generalize R * d = y at *
  rw [Nat.mod_eq_of_lt (by omega), Nat.mod_eq_of_lt (by omega)]
  exact ⟨h1, rfl⟩
theorem lb_oth {V d q s j : Nat} (hj : j < 4) (hs : s < 4) (hV : V < 65536 ^ (4 * q + s)) (hd : d < 65536) (hn : j ≠ q) : lb (V + 65536 ^ (4 * q + s) * d) j = lb V j := by
  rw [lb_at _ hj, lb_at _ hj]
  rcases Nat.lt_or_ge j q with h | h
  · obtain ⟨e, he⟩ : ∃ e, 4 * q + s = 4 * j + (4 + e) := ⟨4 * q + s - 4 * j - 4, by omega⟩
    rw [he, Nat.pow_add, Nat.mul_assoc, Nat.add_mul_div_left _ _ (Nat.pow_pos (by decide)), Nat.pow_add, show (65536 : Nat) ^ 4 = 18446744073709551616 from rfl, Nat.mul_assoc, Nat.add_mul_mod_self_left]
  · have h1 : 65536 ^ (4 * q + s) * d + 65536 ^ (4 * q + s) ≤ 65536 ^ (4 * j) := by
      have h2 : 65536 ^ (4 * q + s) * d + 65536 ^ (4 * q + s) ≤ 65536 ^ (4 * q + s) * 65536 := by rw [← Nat.mul_succ]; exact Nat.mul_le_mul_left _ hd
      rw [← Nat.pow_succ] at h2
      exact Nat.le_trans h2 (pow_le _ _ (by omega))
    rw [Nat.div_eq_of_lt (by omega), Nat.div_eq_of_lt (by omega)]
theorem cs4_put {V d q s : Nat} (hq : q < 4) (hs : s < 4) (hV : V < 65536 ^ (4 * q + s)) (hd : d < 65536) :
    (cs4 V).setIfInBounds q (.int .u64 ((lb V q + 65536 ^ s * d : Nat) : Int)) = cs4 (V + 65536 ^ (4 * q + s) * d) := by
  have ho := (lb_own hq hs hV hd).2
  have hj := fun j hj hn => lb_oth (j := j) (q := q) hj hs hV hd hn
  generalize V + 65536 ^ (4 * q + s) * d = V' at *
  rw [← ho]
  have : q = 0 ∨ q = 1 ∨ q = 2 ∨ q = 3 := by omega
  unfold cs4
  rcases this with rfl | rfl | rfl | rfl
  · rw [hj 1 (by decide) (by decide), hj 2 (by decide) (by decide), hj 3 (by decide) (by decide)]; rfl
  · rw [hj 0 (by decide) (by decide), hj 2 (by decide) (by decide), hj 3 (by decide) (by decide)]; rfl
  · rw [hj 0 (by decide) (by decide), hj 1 (by decide) (by decide), hj 3 (by decide) (by decide)]; rfl
  · rw [hj 0 (by decide) (by decide), hj 1 (by decide) (by decide), hj 2 (by decide) (by decide)]; rfl
theorem cs4_get (V : Nat) {q : Nat} (hq : q < 4) : (cs4 V)[q]? = some (.int .u64 ((lb V q : Nat) : Int)) := by
  have : q = 0 ∨ q = 1 ∨ q = 2 ∨ q = 3 := by omega
  rcases this with rfl | rfl | rfl | rfl <;> rfl
noncomputable def out5O0 : Array Oper := (Try.f66.body.bind fun c => findR c 5).getD #[]
set_option maxHeartbeats 8000000 in
theorem out50 (g n cap gx q i d x : Nat) (hx : x < 1) (hd : d < 65536) (hi : i < n) (hn : n ≤ 100) (hc : n ≤ cap) (hq : q < 4) (hk : Int.tdiv (i : Int) 4 = (q : Int)) (hm : Int.tmod (i : Int) 4 = 0) (w : World) (ia : w.cell? ⟨g, i, none⟩ = some (.int .u32 (d : Int))) (ix : w.cell? ⟨gx, q, none⟩ = some (.int .u64 (x : Int))) (fo : w.frozen? ⟨gx, q, none⟩ = false)
    {t1 t2 t5 t6 t7 t8 t9 t10 t11 t12 t13 t14 t15 t16 t17 t18 t19 t20 t21 t22 t23 t24 t25 t26 t27 : Value} {ds : List Deferred} {Q : Exit → Act → World → Prop}
    (h : ∀ (x12 x13 x14 x15 x16 x17 x18 x19 x20 x21 x22 x23 x24 x25 x26 : Value) (w' wm : World), Sm w wm → w' = wm.setCell ⟨gx, q, none⟩ (.int .u64 ((x + 1 * d : Nat) : Int)) → Q .normal { tmps := #[.slice (some ⟨g, 0, none⟩) n cap, t1, t2, .pointer (some ⟨gx, 0, none⟩), .int .i64 (i : Int), t5, t6, t7, t8, t9, t10, t11, x12, x13, x14, x15, x16, x17, x18, x19, x20, x21, x22, x23, x24, x25, x26, t27], defers := ds } w') :
    (Code.region 5 out5O0 true).wp Try.prog Q { tmps := #[.slice (some ⟨g, 0, none⟩) n cap, t1, t2, .pointer (some ⟨gx, 0, none⟩), .int .i64 (i : Int), t5, t6, t7, t8, t9, t10, t11, t12, t13, t14, t15, t16, t17, t18, t19, t20, t21, t22, t23, t24, t25, t26, t27], defers := ds } w := by
  simp only [out5O0, findR, Try.f66, Option.bind_some, Option.or, Option.getD, Nat.reduceEqDiff, if_true, if_false, reduceIte]
  have hor : bits .or .u64 (x : Int) ((d * 1 : Nat) : Int) = ((x + 1 * d : Nat) : Int) := by
    rw [u64_or_nat x (d * 1) (by omega) (by omega), Nat.or_comm, show d * 1 = d <<< 0 from by rw [Nat.shiftLeft_eq], ← Nat.shiftLeft_add_eq_or_of_lt (by omega), Nat.shiftLeft_eq]
    congr 1
    omega
  have HO := Lib.hid hor
  have HH := Lib.hid h
  have hq4 : (q : Int) < 4 := by omega
  clear h hor
  refine wp_region_quiet_tail 15 mixed (by kernel_rfl) ?_
  simp only [List.take_succ_cons, List.take_zero, List.drop_succ_cons, List.drop_zero]
  iterate 15 go_big_quiet_step (fail)
  refine wpQuiet_nil ?_
  intro _ hw'
  obtain ⟨nq, hw''⟩ := hw'
  subst hw''
  have f2 : (w.drewN nq).frozen? ⟨gx, q, none⟩ = false := fo
  have c2 : (w.drewN nq).cell? ⟨gx, q, none⟩ = some (.int .u64 (x : Int)) := ix
  go_wp2_with fail
  refine HH.out _ _ _ _ _ _ _ _ _ _ _ _ _ _ _ _ _ (Sm.drewN w nq) (congrArg (fun z => (w.drewN nq).setCell ⟨gx, q, none⟩ (.int .u64 z)) ?_)
  refine Eq.trans ?_ HO.out
  congr 1 <;> omega
noncomputable def out5O1 : Array Oper := (Try.f66.body.bind fun c => findR c 5).getD #[]
set_option maxHeartbeats 8000000 in
theorem out51 (g n cap gx q i d x : Nat) (hx : x < 65536) (hd : d < 65536) (hi : i < n) (hn : n ≤ 100) (hc : n ≤ cap) (hq : q < 4) (hk : Int.tdiv (i : Int) 4 = (q : Int)) (hm : Int.tmod (i : Int) 4 = 1) (w : World) (ia : w.cell? ⟨g, i, none⟩ = some (.int .u32 (d : Int))) (ix : w.cell? ⟨gx, q, none⟩ = some (.int .u64 (x : Int))) (fo : w.frozen? ⟨gx, q, none⟩ = false)
    {t1 t2 t5 t6 t7 t8 t9 t10 t11 t12 t13 t14 t15 t16 t17 t18 t19 t20 t21 t22 t23 t24 t25 t26 t27 : Value} {ds : List Deferred} {Q : Exit → Act → World → Prop}
    (h : ∀ (x12 x13 x14 x15 x16 x17 x18 x19 x20 x21 x22 x23 x24 x25 x26 : Value) (w' wm : World), Sm w wm → w' = wm.setCell ⟨gx, q, none⟩ (.int .u64 ((x + 65536 * d : Nat) : Int)) → Q .normal { tmps := #[.slice (some ⟨g, 0, none⟩) n cap, t1, t2, .pointer (some ⟨gx, 0, none⟩), .int .i64 (i : Int), t5, t6, t7, t8, t9, t10, t11, x12, x13, x14, x15, x16, x17, x18, x19, x20, x21, x22, x23, x24, x25, x26, t27], defers := ds } w') :
    (Code.region 5 out5O1 true).wp Try.prog Q { tmps := #[.slice (some ⟨g, 0, none⟩) n cap, t1, t2, .pointer (some ⟨gx, 0, none⟩), .int .i64 (i : Int), t5, t6, t7, t8, t9, t10, t11, t12, t13, t14, t15, t16, t17, t18, t19, t20, t21, t22, t23, t24, t25, t26, t27], defers := ds } w := by
  simp only [out5O1, findR, Try.f66, Option.bind_some, Option.or, Option.getD, Nat.reduceEqDiff, if_true, if_false, reduceIte]
  have hor : bits .or .u64 (x : Int) ((d * 65536 : Nat) : Int) = ((x + 65536 * d : Nat) : Int) := by
    rw [u64_or_nat x (d * 65536) (by omega) (by omega), Nat.or_comm, show d * 65536 = d <<< 16 from by rw [Nat.shiftLeft_eq], ← Nat.shiftLeft_add_eq_or_of_lt (by omega), Nat.shiftLeft_eq]
    congr 1
    omega
  have HO := Lib.hid hor
  have HH := Lib.hid h
  have hq4 : (q : Int) < 4 := by omega
  clear h hor
  refine wp_region_quiet_tail 15 mixed (by kernel_rfl) ?_
  simp only [List.take_succ_cons, List.take_zero, List.drop_succ_cons, List.drop_zero]
  iterate 15 go_big_quiet_step (fail)
  refine wpQuiet_nil ?_
  intro _ hw'
  obtain ⟨nq, hw''⟩ := hw'
  subst hw''
  have f2 : (w.drewN nq).frozen? ⟨gx, q, none⟩ = false := fo
  have c2 : (w.drewN nq).cell? ⟨gx, q, none⟩ = some (.int .u64 (x : Int)) := ix
  go_wp2_with fail
  refine HH.out _ _ _ _ _ _ _ _ _ _ _ _ _ _ _ _ _ (Sm.drewN w nq) (congrArg (fun z => (w.drewN nq).setCell ⟨gx, q, none⟩ (.int .u64 z)) ?_)
  refine Eq.trans ?_ HO.out
  congr 1 <;> omega
noncomputable def out5O2 : Array Oper := (Try.f66.body.bind fun c => findR c 5).getD #[]
set_option maxHeartbeats 8000000 in
theorem out52 (g n cap gx q i d x : Nat) (hx : x < 4294967296) (hd : d < 65536) (hi : i < n) (hn : n ≤ 100) (hc : n ≤ cap) (hq : q < 4) (hk : Int.tdiv (i : Int) 4 = (q : Int)) (hm : Int.tmod (i : Int) 4 = 2) (w : World) (ia : w.cell? ⟨g, i, none⟩ = some (.int .u32 (d : Int))) (ix : w.cell? ⟨gx, q, none⟩ = some (.int .u64 (x : Int))) (fo : w.frozen? ⟨gx, q, none⟩ = false)
    {t1 t2 t5 t6 t7 t8 t9 t10 t11 t12 t13 t14 t15 t16 t17 t18 t19 t20 t21 t22 t23 t24 t25 t26 t27 : Value} {ds : List Deferred} {Q : Exit → Act → World → Prop}
    (h : ∀ (x12 x13 x14 x15 x16 x17 x18 x19 x20 x21 x22 x23 x24 x25 x26 : Value) (w' wm : World), Sm w wm → w' = wm.setCell ⟨gx, q, none⟩ (.int .u64 ((x + 4294967296 * d : Nat) : Int)) → Q .normal { tmps := #[.slice (some ⟨g, 0, none⟩) n cap, t1, t2, .pointer (some ⟨gx, 0, none⟩), .int .i64 (i : Int), t5, t6, t7, t8, t9, t10, t11, x12, x13, x14, x15, x16, x17, x18, x19, x20, x21, x22, x23, x24, x25, x26, t27], defers := ds } w') :
    (Code.region 5 out5O2 true).wp Try.prog Q { tmps := #[.slice (some ⟨g, 0, none⟩) n cap, t1, t2, .pointer (some ⟨gx, 0, none⟩), .int .i64 (i : Int), t5, t6, t7, t8, t9, t10, t11, t12, t13, t14, t15, t16, t17, t18, t19, t20, t21, t22, t23, t24, t25, t26, t27], defers := ds } w := by
  simp only [out5O2, findR, Try.f66, Option.bind_some, Option.or, Option.getD, Nat.reduceEqDiff, if_true, if_false, reduceIte]
  have hor : bits .or .u64 (x : Int) ((d * 4294967296 : Nat) : Int) = ((x + 4294967296 * d : Nat) : Int) := by
    rw [u64_or_nat x (d * 4294967296) (by omega) (by omega), Nat.or_comm, show d * 4294967296 = d <<< 32 from by rw [Nat.shiftLeft_eq], ← Nat.shiftLeft_add_eq_or_of_lt (by omega), Nat.shiftLeft_eq]
    congr 1
    omega
  have HO := Lib.hid hor
  have HH := Lib.hid h
  have hq4 : (q : Int) < 4 := by omega
  clear h hor
  refine wp_region_quiet_tail 15 mixed (by kernel_rfl) ?_
  simp only [List.take_succ_cons, List.take_zero, List.drop_succ_cons, List.drop_zero]
  iterate 15 go_big_quiet_step (fail)
  refine wpQuiet_nil ?_
  intro _ hw'
  obtain ⟨nq, hw''⟩ := hw'
  subst hw''
  have f2 : (w.drewN nq).frozen? ⟨gx, q, none⟩ = false := fo
  have c2 : (w.drewN nq).cell? ⟨gx, q, none⟩ = some (.int .u64 (x : Int)) := ix
  go_wp2_with fail
  refine HH.out _ _ _ _ _ _ _ _ _ _ _ _ _ _ _ _ _ (Sm.drewN w nq) (congrArg (fun z => (w.drewN nq).setCell ⟨gx, q, none⟩ (.int .u64 z)) ?_)
  refine Eq.trans ?_ HO.out
  congr 1 <;> omega
noncomputable def out5O3 : Array Oper := (Try.f66.body.bind fun c => findR c 5).getD #[]
set_option maxHeartbeats 8000000 in
theorem out53 (g n cap gx q i d x : Nat) (hx : x < 281474976710656) (hd : d < 65536) (hi : i < n) (hn : n ≤ 100) (hc : n ≤ cap) (hq : q < 4) (hk : Int.tdiv (i : Int) 4 = (q : Int)) (hm : Int.tmod (i : Int) 4 = 3) (w : World) (ia : w.cell? ⟨g, i, none⟩ = some (.int .u32 (d : Int))) (ix : w.cell? ⟨gx, q, none⟩ = some (.int .u64 (x : Int))) (fo : w.frozen? ⟨gx, q, none⟩ = false)
    {t1 t2 t5 t6 t7 t8 t9 t10 t11 t12 t13 t14 t15 t16 t17 t18 t19 t20 t21 t22 t23 t24 t25 t26 t27 : Value} {ds : List Deferred} {Q : Exit → Act → World → Prop}
    (h : ∀ (x12 x13 x14 x15 x16 x17 x18 x19 x20 x21 x22 x23 x24 x25 x26 : Value) (w' wm : World), Sm w wm → w' = wm.setCell ⟨gx, q, none⟩ (.int .u64 ((x + 281474976710656 * d : Nat) : Int)) → Q .normal { tmps := #[.slice (some ⟨g, 0, none⟩) n cap, t1, t2, .pointer (some ⟨gx, 0, none⟩), .int .i64 (i : Int), t5, t6, t7, t8, t9, t10, t11, x12, x13, x14, x15, x16, x17, x18, x19, x20, x21, x22, x23, x24, x25, x26, t27], defers := ds } w') :
    (Code.region 5 out5O3 true).wp Try.prog Q { tmps := #[.slice (some ⟨g, 0, none⟩) n cap, t1, t2, .pointer (some ⟨gx, 0, none⟩), .int .i64 (i : Int), t5, t6, t7, t8, t9, t10, t11, t12, t13, t14, t15, t16, t17, t18, t19, t20, t21, t22, t23, t24, t25, t26, t27], defers := ds } w := by
  simp only [out5O3, findR, Try.f66, Option.bind_some, Option.or, Option.getD, Nat.reduceEqDiff, if_true, if_false, reduceIte]
  have hor : bits .or .u64 (x : Int) ((d * 281474976710656 : Nat) : Int) = ((x + 281474976710656 * d : Nat) : Int) := by
    rw [u64_or_nat x (d * 281474976710656) (by omega) (by omega), Nat.or_comm, show d * 281474976710656 = d <<< 48 from by rw [Nat.shiftLeft_eq], ← Nat.shiftLeft_add_eq_or_of_lt (by omega), Nat.shiftLeft_eq]
    congr 1
    omega
  have HO := Lib.hid hor
  have HH := Lib.hid h
  have hq4 : (q : Int) < 4 := by omega
  clear h hor
  refine wp_region_quiet_tail 15 mixed (by kernel_rfl) ?_
  simp only [List.take_succ_cons, List.take_zero, List.drop_succ_cons, List.drop_zero]
  iterate 15 go_big_quiet_step (fail)
  refine wpQuiet_nil ?_
  intro _ hw'
  obtain ⟨nq, hw''⟩ := hw'
  subst hw''
  have f2 : (w.drewN nq).frozen? ⟨gx, q, none⟩ = false := fo
  have c2 : (w.drewN nq).cell? ⟨gx, q, none⟩ = some (.int .u64 (x : Int)) := ix
  go_wp2_with fail
  refine HH.out _ _ _ _ _ _ _ _ _ _ _ _ _ _ _ _ _ (Sm.drewN w nq) (congrArg (fun z => (w.drewN nq).setCell ⟨gx, q, none⟩ (.int .u64 z)) ?_)
  refine Eq.trans ?_ HO.out
  congr 1 <;> omega
set_option maxHeartbeats 8000000 in
theorem out_nv (v : Value) (w : World) (x : Nat) (hx : x < W256) (h : NV w v x) : Calls Try.prog 66 #[v] w fun e w' => e = .returned (nv x) ∧ Below w.heap.size w w' := by
  obtain ⟨r, ⟨g, cap, rfl, hc, hcm, hg, hcell⟩, hdig, htrim, hv⟩ := h
  have hlen : r.length ≤ 16 := len_pow htrim hv (by rw [show (65536 : Nat) ^ 16 = W256 from by decide +kernel]; exact hx)
  have HC := Lib.hid hcell
  have HD := Lib.hid hdig
  have HV := Lib.hid hv
  have HG := Lib.hid hg
  obtain ⟨L, hL⟩ : ∃ L, L = r.length := ⟨_, rfl⟩
  have HL := Lib.hid hL
  rw [← hL] at hc hlen ⊢
  clear hcell hdig htrim hv hg hx hL
  go_enter Try.func66, Try.ntmps66
  go_wp2_with fail
  have KR0 : Hid (Bk 24 ((w.alloc (.cells cs0 24)).alloc (.cells cs0 24)) w.heap.size cs0) := Lib.hid (Bk.alloc (Bk.new rfl))
  have KX0 : Hid (Bk 24 ((w.alloc (.cells cs0 24)).alloc (.cells cs0 24)) (w.heap.size + 1) (cs4 (val (r.take 0)))) := Lib.hid (by
    have e0 : cs4 (val (r.take 0)) = cs0 := by simp [cs4, cs0, val, lb]
    rw [e0]
    exact Bk.new (by simp))
  have HB0 : Hid (Below w.heap.size w ((w.alloc (.cells cs0 24)).alloc (.cells cs0 24))) := Lib.hid (by go_grown)
  have ec : cs0 = #[.int .u64 0, .int .u64 0, .int .u64 0, .int .u64 0] := rfl
  rw [ec] at KR0 KX0 HB0
  obtain ⟨gx, hgx⟩ : ∃ g, g = w.heap.size + 1 := ⟨_, rfl⟩
  rw [← hgx] at KX0 ⊢
  have HGX := Lib.hid hgx
  clear ec hgx
  generalize ((w.alloc (.cells #[.int .u64 0, .int .u64 0, .int .u64 0, .int .u64 0] 24)).alloc (.cells #[.int .u64 0, .int .u64 0, .int .u64 0, .int .u64 0] 24)) = w0 at KR0 KX0 HB0 ⊢
  go_loopw [4] (fun i wr => ∃ k : Nat, k ≤ L ∧ i = .int .i64 (k : Int) ∧ Bk 24 wr gx (cs4 (val (r.take k))) ∧ Bk 24 wr w.heap.size #[.int .u64 0, .int .u64 0, .int .u64 0, .int .u64 0] ∧ Below w.heap.size w wr) (fun i _ => L - (intOf i).toNat)
  case atStart => exact ⟨0, Nat.zero_le _, rfl, KX0.out, KR0.out, HB0.out⟩
  case round =>
    clear KX0 KR0 HB0
    obtain ⟨k, hk, rfl, hx, hr, hb⟩ := hrel
    have KX := Lib.hid hx
    have KR := Lib.hid hr
    have HB := Lib.hid hb
    clear hx hr hb
    by_cases hkL : k < L
    · have hkr : k < r.length := by have := HL.out; omega
      have ia := (HB.out.cell (p := ⟨g, k, none⟩) HG.out).trans (HC.out k hkr)
      have hd := HD.out _ (List.getElem_mem hkr)
      have HT := Lib.hid (take_val hkr)
      have hVl : val (r.take k) < 65536 ^ k := by
        have := val_lt (r.take k) (dig_take HD.out k)
        rwa [List.length_take, Nat.min_eq_left (by omega)] at this
      generalize r[k] = d at ia hd HT
      generalize hVV : val (r.take k) = V at KX HT hVl
      clear hVV
      obtain ⟨q, hq⟩ : ∃ q, q = k / 4 := ⟨_, rfl⟩
      have hq4 : q < 4 := by omega
      have t1 : Int.tdiv (k : Int) 4 = (q : Int) := by rw [Int.tdiv_eq_ediv_of_nonneg (by omega)]; omega
      have ix := (KX.out.cell q).trans (cs4_get V hq4)
      have fo := KX.out.fro q
      have IX := Lib.hid (And.intro ia (And.intro ix fo))
      clear ia ix fo
      have hs4 : k % 4 = 0 ∨ k % 4 = 1 ∨ k % 4 = 2 ∨ k % 4 = 3 := by omega
      rcases hs4 with hs | hs | hs | hs
      · have e4 : k = 4 * q + 0 := by omega
        have t2 : Int.tmod (k : Int) 4 = 0 := by rw [Int.tmod_eq_emod_of_nonneg (by omega)]; omega
        have hV2 : V < 65536 ^ (4 * q + 0) := by rw [← e4]; exact hVl
        obtain ⟨hxl, _⟩ := lb_own (s := 0) hq4 (by decide) hV2 hd
        have HP := Lib.hid (cs4_put (s := 0) hq4 (by decide) hV2 hd)
        rw [← e4, ← HT.out, show (65536 : Nat) ^ 0 = 1 from rfl] at HP
        rw [show (65536 : Nat) ^ 0 = 1 from rfl] at hxl
        clear e4 hV2 hVl HT hq hs
        go_wp2_with fail
        refine out50 g L cap gx q k d (lb V q) hxl hd hkL (by omega) hc hq4 t1 t2 wr IX.out.1 IX.out.2.1 IX.out.2.2 ?_
        intros
        rename_i wn wm hsm hwn
        subst hwn
        have KX2 : Hid (Bk 24 (wm.setCell ⟨gx, q, none⟩ (.int .u64 ((lb V q + 1 * d : Nat) : Int))) gx (cs4 (val (r.take (k + 1))))) := Lib.hid (by
          rw [← HP.out]
          exact Bk.same (KX.out.below hsm.below0))
        have KR2 : Hid (Bk 24 (wm.setCell ⟨gx, q, none⟩ (.int .u64 ((lb V q + 1 * d : Nat) : Int))) w.heap.size #[.int .u64 0, .int .u64 0, .int .u64 0, .int .u64 0]) := Lib.hid (Bk.oth (by show w.heap.size ≠ gx; have := HGX.out; omega) (KR.out.below hsm.below0))
        have HB2 : Hid (Below w.heap.size w (wm.setCell ⟨gx, q, none⟩ (.int .u64 ((lb V q + 1 * d : Nat) : Int)))) := Lib.hid ((hsm.below HB.out).setCell (p := ⟨gx, q, none⟩) (by show w.heap.size ≤ gx; have := HGX.out; omega) _)
        clear hsm KX KR HB IX
        generalize (wm.setCell ⟨gx, q, none⟩ (.int .u64 ((lb V q + 1 * d : Nat) : Int))) = wq at KX2 KR2 HB2 ⊢
        go_wp2_with fail
        go_roundw
        case rel => exact ⟨k + 1, by omega, by go_num, KX2.out, KR2.out, HB2.out⟩
        case measure => simp [intOf] <;> omega
      · have e4 : k = 4 * q + 1 := by omega
        have t2 : Int.tmod (k : Int) 4 = 1 := by rw [Int.tmod_eq_emod_of_nonneg (by omega)]; omega
        have hV2 : V < 65536 ^ (4 * q + 1) := by rw [← e4]; exact hVl
        obtain ⟨hxl, _⟩ := lb_own (s := 1) hq4 (by decide) hV2 hd
        have HP := Lib.hid (cs4_put (s := 1) hq4 (by decide) hV2 hd)
        rw [← e4, ← HT.out, show (65536 : Nat) ^ 1 = 65536 from rfl] at HP
        rw [show (65536 : Nat) ^ 1 = 65536 from rfl] at hxl
        clear e4 hV2 hVl HT hq hs
        go_wp2_with fail
        refine out51 g L cap gx q k d (lb V q) hxl hd hkL (by omega) hc hq4 t1 t2 wr IX.out.1 IX.out.2.1 IX.out.2.2 ?_
        intros
        rename_i wn wm hsm hwn
        subst hwn
        have KX2 : Hid (Bk 24 (wm.setCell ⟨gx, q, none⟩ (.int .u64 ((lb V q + 65536 * d : Nat) : Int))) gx (cs4 (val (r.take (k + 1))))) := Lib.hid (by
          rw [← HP.out]
          exact Bk.same (KX.out.below hsm.below0))
        have KR2 : Hid (Bk 24 (wm.setCell ⟨gx, q, none⟩ (.int .u64 ((lb V q + 65536 * d : Nat) : Int))) w.heap.size #[.int .u64 0, .int .u64 0, .int .u64 0, .int .u64 0]) := Lib.hid (Bk.oth (by show w.heap.size ≠ gx; have := HGX.out; omega) (KR.out.below hsm.below0))
        have HB2 : Hid (Below w.heap.size w (wm.setCell ⟨gx, q, none⟩ (.int .u64 ((lb V q + 65536 * d : Nat) : Int)))) := Lib.hid ((hsm.below HB.out).setCell (p := ⟨gx, q, none⟩) (by show w.heap.size ≤ gx; have := HGX.out; omega) _)
        clear hsm KX KR HB IX
        generalize (wm.setCell ⟨gx, q, none⟩ (.int .u64 ((lb V q + 65536 * d : Nat) : Int))) = wq at KX2 KR2 HB2 ⊢
        go_wp2_with fail
        go_roundw
        case rel => exact ⟨k + 1, by omega, by go_num, KX2.out, KR2.out, HB2.out⟩
        case measure => simp [intOf] <;> omega
      · have e4 : k = 4 * q + 2 := by omega
        have t2 : Int.tmod (k : Int) 4 = 2 := by rw [Int.tmod_eq_emod_of_nonneg (by omega)]; omega
        have hV2 : V < 65536 ^ (4 * q + 2) := by rw [← e4]; exact hVl
        obtain ⟨hxl, _⟩ := lb_own (s := 2) hq4 (by decide) hV2 hd
        have HP := Lib.hid (cs4_put (s := 2) hq4 (by decide) hV2 hd)
        rw [← e4, ← HT.out, show (65536 : Nat) ^ 2 = 4294967296 from rfl] at HP
        rw [show (65536 : Nat) ^ 2 = 4294967296 from rfl] at hxl
        clear e4 hV2 hVl HT hq hs
        go_wp2_with fail
        refine out52 g L cap gx q k d (lb V q) hxl hd hkL (by omega) hc hq4 t1 t2 wr IX.out.1 IX.out.2.1 IX.out.2.2 ?_
        intros
        rename_i wn wm hsm hwn
        subst hwn
        have KX2 : Hid (Bk 24 (wm.setCell ⟨gx, q, none⟩ (.int .u64 ((lb V q + 4294967296 * d : Nat) : Int))) gx (cs4 (val (r.take (k + 1))))) := Lib.hid (by
          rw [← HP.out]
          exact Bk.same (KX.out.below hsm.below0))
        have KR2 : Hid (Bk 24 (wm.setCell ⟨gx, q, none⟩ (.int .u64 ((lb V q + 4294967296 * d : Nat) : Int))) w.heap.size #[.int .u64 0, .int .u64 0, .int .u64 0, .int .u64 0]) := Lib.hid (Bk.oth (by show w.heap.size ≠ gx; have := HGX.out; omega) (KR.out.below hsm.below0))
        have HB2 : Hid (Below w.heap.size w (wm.setCell ⟨gx, q, none⟩ (.int .u64 ((lb V q + 4294967296 * d : Nat) : Int)))) := Lib.hid ((hsm.below HB.out).setCell (p := ⟨gx, q, none⟩) (by show w.heap.size ≤ gx; have := HGX.out; omega) _)
        clear hsm KX KR HB IX
        generalize (wm.setCell ⟨gx, q, none⟩ (.int .u64 ((lb V q + 4294967296 * d : Nat) : Int))) = wq at KX2 KR2 HB2 ⊢
        go_wp2_with fail
        go_roundw
        case rel => exact ⟨k + 1, by omega, by go_num, KX2.out, KR2.out, HB2.out⟩
        case measure => simp [intOf] <;> omega
      · have e4 : k = 4 * q + 3 := by omega
        have t2 : Int.tmod (k : Int) 4 = 3 := by rw [Int.tmod_eq_emod_of_nonneg (by omega)]; omega
        have hV2 : V < 65536 ^ (4 * q + 3) := by rw [← e4]; exact hVl
        obtain ⟨hxl, _⟩ := lb_own (s := 3) hq4 (by decide) hV2 hd
        have HP := Lib.hid (cs4_put (s := 3) hq4 (by decide) hV2 hd)
        rw [← e4, ← HT.out, show (65536 : Nat) ^ 3 = 281474976710656 from rfl] at HP
        rw [show (65536 : Nat) ^ 3 = 281474976710656 from rfl] at hxl
        clear e4 hV2 hVl HT hq hs
        go_wp2_with fail
        refine out53 g L cap gx q k d (lb V q) hxl hd hkL (by omega) hc hq4 t1 t2 wr IX.out.1 IX.out.2.1 IX.out.2.2 ?_
        intros
        rename_i wn wm hsm hwn
        subst hwn
        have KX2 : Hid (Bk 24 (wm.setCell ⟨gx, q, none⟩ (.int .u64 ((lb V q + 281474976710656 * d : Nat) : Int))) gx (cs4 (val (r.take (k + 1))))) := Lib.hid (by
          rw [← HP.out]
          exact Bk.same (KX.out.below hsm.below0))
        have KR2 : Hid (Bk 24 (wm.setCell ⟨gx, q, none⟩ (.int .u64 ((lb V q + 281474976710656 * d : Nat) : Int))) w.heap.size #[.int .u64 0, .int .u64 0, .int .u64 0, .int .u64 0]) := Lib.hid (Bk.oth (by show w.heap.size ≠ gx; have := HGX.out; omega) (KR.out.below hsm.below0))
        have HB2 : Hid (Below w.heap.size w (wm.setCell ⟨gx, q, none⟩ (.int .u64 ((lb V q + 281474976710656 * d : Nat) : Int)))) := Lib.hid ((hsm.below HB.out).setCell (p := ⟨gx, q, none⟩) (by show w.heap.size ≤ gx; have := HGX.out; omega) _)
        clear hsm KX KR HB IX
        generalize (wm.setCell ⟨gx, q, none⟩ (.int .u64 ((lb V q + 281474976710656 * d : Nat) : Int))) = wq at KX2 KR2 HB2 ⊢
        go_wp2_with fail
        go_roundw
        case rel => exact ⟨k + 1, by omega, by go_num, KX2.out, KR2.out, HB2.out⟩
        case measure => simp [intOf] <;> omega
    · obtain rfl : k = L := by omega
      have htt : r.take k = r := List.take_of_length_le (by have := HL.out; omega)
      rw [htt, HV.out] at KX
      obtain ⟨a0, a1, a2, a3⟩ := Bk.cells (show Bk 24 wr gx #[.int .u64 (lb x 0 : Nat), .int .u64 (lb x 1 : Nat), .int .u64 (lb x 2 : Nat), .int .u64 (lb x 3 : Nat)] from KX.out)
      obtain ⟨b0, b1, b2, b3⟩ := KR.out.cells
      obtain ⟨f0, f1, f2, f3⟩ := KR.out.fros
      clear htt
      go_wp2_with fail
      refine ret_cell rfl w.heap.size x rfl (Bk.put KR.out) rfl ⟨rfl, ?_⟩
      have hb := HB.out
      go_grown
end Go.Proofs.Ytglmmodkflkkkaa.Ref
set_option linter.unusedVariables false
set_option linter.unusedSimpArgs false
set_option maxRecDepth 100000
namespace Go.Proofs.Ytglmmodkflkkkaa.Ref
open Go.RowKit Go.Proofs.Ytglmmodkflkkkaa.Digits Limbs Curve

/-- a block that has been laid since B -/
def Nw (B : Nat) (t : TypeId) (cs : Array Value) (w : World) (x : Value) : Prop := ∃ g, x = .pointer (some ⟨g, 0, none⟩) ∧ B ≤ g ∧ Bk t w g cs
theorem Nw.below {B : Nat} {t : TypeId} {cs : Array Value} {w w' : World} {x : Value} (h : Nw B t cs w x) (hb : Below w.heap.size w w') : Nw B t cs w' x := by
  obtain ⟨g, h1, h2, h3⟩ := h
  exact ⟨g, h1, h2, h3.below hb⟩
def rb3F (w0 : World) (gP ux uy : Nat) (SX SY : ByteArray) (t0 t3 t4 : Value) (ds : List Deferred) (a : Act) (w : World) : Prop :=
  ∃ y0 y1 y2 y3 y4 y5 y6 y7 : Value, ∃ wm : World, a = { tmps := #[t0, .pointer (some ⟨gP, 0, none⟩), .string (⟨#[4]⟩ ++ SX ++ SY), t3, t4, y0, y1, y2, y3, y4, y5, y6, y7], defers := ds } ∧ Below w0.heap.size w0 wm ∧ w = wm
def rb3I (w0 : World) (gP ux uy : Nat) (SX SY : ByteArray) (t0 t3 t4 : Value) (ds : List Deferred) (l : Array Bool) (a : Act) (w : World) : Prop :=
  ∃ j0 j1 j2 j3 j4 j5 j6 j7 j8 : Bool, ∃ x0 x1 x2 x3 x4 x5 x6 x7 x8 : Value, l = #[j0, j1, j2, j3, j4, j5, j6, j7, j8] ∧ a = { tmps := #[t0, .pointer (some ⟨gP, 0, none⟩), x8, t3, t4, x0, x1, x2, x3, x4, x5, x6, x7], defers := ds } ∧ Below w0.heap.size w0 w ∧
  (j0 = true → x0 = .pointer (some ⟨gP, 0, none⟩)) ∧ (j1 = true → x1 = .agg #[.int .u64 (lb ux 0 : Nat), .int .u64 (lb ux 1 : Nat), .int .u64 (lb ux 2 : Nat), .int .u64 (lb ux 3 : Nat)]) ∧ (j2 = true → x2 = .string SX) ∧ (j3 = true → x3 = .string (⟨#[4]⟩ ++ SX)) ∧ (j4 = true → x4 = .pointer (some ⟨gP, 4, none⟩)) ∧ (j5 = true → x5 = .agg #[.int .u64 (lb uy 0 : Nat), .int .u64 (lb uy 1 : Nat), .int .u64 (lb uy 2 : Nat), .int .u64 (lb uy 3 : Nat)]) ∧ (j6 = true → x6 = .string SY) ∧ (j7 = true → x7 = .string (⟨#[4]⟩ ++ SX ++ SY)) ∧ (j8 = true → x8 = .string (⟨#[4]⟩ ++ SX ++ SY))
noncomputable def rb3O : Array Oper := (Try.f43.body.bind fun c => findR c 3).getD #[]
set_option maxHeartbeats 16000000 in
theorem rb3_steps (gP ux uy : Nat) (SX SY : ByteArray) (w : World) (KP : Bk 51 w gP #[.int .u64 (lb ux 0 : Nat), .int .u64 (lb ux 1 : Nat), .int .u64 (lb ux 2 : Nat), .int .u64 (lb ux 3 : Nat), .int .u64 (lb uy 0 : Nat), .int .u64 (lb uy 1 : Nat), .int .u64 (lb uy 2 : Nat), .int .u64 (lb uy 3 : Nat), .bool false]) (HSX : Hid (SX.size = 32)) (HSY : Hid (SY.size = 32)) (HX : Hid (∀ w, Calls Try.prog 35 #[.agg #[.int .u64 (lb ux 0 : Nat), .int .u64 (lb ux 1 : Nat), .int .u64 (lb ux 2 : Nat), .int .u64 (lb ux 3 : Nat)]] w fun e w' => e = .returned (.string SX) ∧ Below w.heap.size w w')) (HY : Hid (∀ w, Calls Try.prog 35 #[.agg #[.int .u64 (lb uy 0 : Nat), .int .u64 (lb uy 1 : Nat), .int .u64 (lb uy 2 : Nat), .int .u64 (lb uy 3 : Nat)]] w fun e w' => e = .returned (.string SY) ∧ Below w.heap.size w w'))
    {t0 t3 t4 : Value} {ds : List Deferred} {Q : Exit → Act → World → Prop} :
    ∀ l a w', rb3I w gP ux uy SX SY t0 t3 t4 ds l a w' → ∀ i ∈ Region.ready .any rb3O l, wpOp Try.prog rb3O Q i (fun a' w'' => rb3I w gP ux uy SX SY t0 t3 t4 ds (l.setIfInBounds i true) a' w'') a w' := by
  simp only [rb3O, findR, Try.f43, Option.bind_some, Option.or, Option.getD, Nat.reduceEqDiff, if_true, if_false, reduceIte]
  rintro l a w' hI i hi
  rw [mem_ready] at hi
  obtain ⟨hu, oo, ho, hd⟩ := hi
  have hin : i < 9 := by
    have := (Array.getElem?_eq_some_iff.1 ho).1
    simpa using this
  have hcase : i = 0 ∨ i = 1 ∨ i = 2 ∨ i = 3 ∨ i = 4 ∨ i = 5 ∨ i = 6 ∨ i = 7 ∨ i = 8 := by omega
  obtain ⟨j0, j1, j2, j3, j4, j5, j6, j7, j8, x0, x1, x2, x3, x4, x5, x6, x7, x8, rfl, rfl, hB, h0, h1, h2, h3, h4, h5, h6, h7, h8⟩ := hI
  replace h0 := Lib.hid h0
  replace h1 := Lib.hid h1
  replace h2 := Lib.hid h2
  replace h3 := Lib.hid h3
  replace h4 := Lib.hid h4
  replace h5 := Lib.hid h5
  replace h6 := Lib.hid h6
  replace h7 := Lib.hid h7
  replace h8 := Lib.hid h8
  rcases hcase with rfl | rfl | rfl | rfl | rfl | rfl | rfl | rfl | rfl
  · obtain rfl := Option.some.inj ho
    simp [Region.binds] at hu hd
    clear hd
    refine wpOp_of rfl rfl ?_
    go_simp
    unfold rb3I
    exact ⟨true, j1, j2, j3, j4, j5, j6, j7, j8, _, x1, x2, x3, x4, x5, x6, x7, x8, rfl, rfl, hB, fun _ => rfl, h1.out, h2.out, h3.out, h4.out, h5.out, h6.out, h7.out, h8.out⟩
  · obtain rfl := Option.some.inj ho
    simp [Region.binds] at hu hd
    have d0 : j0 = true := by simp [hd]
    have e0 := h0.out d0
    subst e0
    subst d0
    clear hd
    refine wpOp_of rfl rfl ?_
    have i0 : w'.cell? ⟨gP, 0, none⟩ = some (.int .u64 (lb ux 0 : Nat)) := (KP.below hB).cell 0
    have i1 : w'.cell? ⟨gP, 1, none⟩ = some (.int .u64 (lb ux 1 : Nat)) := (KP.below hB).cell 1
    have i2 : w'.cell? ⟨gP, 2, none⟩ = some (.int .u64 (lb ux 2 : Nat)) := (KP.below hB).cell 2
    have i3 : w'.cell? ⟨gP, 3, none⟩ = some (.int .u64 (lb ux 3 : Nat)) := (KP.below hB).cell 3
    go_simp
    unfold rb3I
    exact ⟨true, true, j2, j3, j4, j5, j6, j7, j8, _, _, x2, x3, x4, x5, x6, x7, x8, rfl, rfl, hB, h0.out, fun _ => rfl, h2.out, h3.out, h4.out, h5.out, h6.out, h7.out, h8.out⟩
  · obtain rfl := Option.some.inj ho
    simp [Region.binds] at hu hd
    have d1 : j1 = true := by simp [hd]
    have e1 := h1.out d1
    subst e1
    subst d1
    clear hd
    refine wpOp_of rfl rfl ?_
    go_simp
    go_at_call 35
    refine (keep w.heap.size w (HX.out _) hB (Nat.le_refl _)).mono ?_
    rintro e w2 ⟨rfl, hB2, hb2⟩
    unfold rb3I
    exact ⟨j0, true, true, j3, j4, j5, j6, j7, j8, x0, _, _, x3, x4, x5, x6, x7, x8, rfl, rfl, hB2, h0.out, h1.out, fun _ => rfl, h3.out, h4.out, h5.out, h6.out, h7.out, h8.out⟩
  · obtain rfl := Option.some.inj ho
    simp [Region.binds] at hu hd
    have d2 : j2 = true := by simp [hd]
    have e2 := h2.out d2
    subst e2
    subst d2
    clear hd
    refine wpOp_of rfl rfl ?_
    have hsx := HSX.out
    have hsy := HSY.out
    go_simp
    unfold rb3I
    exact ⟨j0, j1, true, true, j4, j5, j6, j7, j8, x0, x1, _, _, x4, x5, x6, x7, x8, rfl, rfl, hB, h0.out, h1.out, h2.out, fun _ => rfl, h4.out, h5.out, h6.out, h7.out, h8.out⟩
  · obtain rfl := Option.some.inj ho
    simp [Region.binds] at hu hd
    clear hd
    refine wpOp_of rfl rfl ?_
    go_simp
    unfold rb3I
    exact ⟨j0, j1, j2, j3, true, j5, j6, j7, j8, x0, x1, x2, x3, _, x5, x6, x7, x8, rfl, rfl, hB, h0.out, h1.out, h2.out, h3.out, fun _ => rfl, h5.out, h6.out, h7.out, h8.out⟩
  · obtain rfl := Option.some.inj ho
    simp [Region.binds] at hu hd
    have d4 : j4 = true := by simp [hd]
    have e4 := h4.out d4
    subst e4
    subst d4
    clear hd
    refine wpOp_of rfl rfl ?_
    have i4 : w'.cell? ⟨gP, 4, none⟩ = some (.int .u64 (lb uy 0 : Nat)) := (KP.below hB).cell 4
    have i5 : w'.cell? ⟨gP, 5, none⟩ = some (.int .u64 (lb uy 1 : Nat)) := (KP.below hB).cell 5
    have i6 : w'.cell? ⟨gP, 6, none⟩ = some (.int .u64 (lb uy 2 : Nat)) := (KP.below hB).cell 6
    have i7 : w'.cell? ⟨gP, 7, none⟩ = some (.int .u64 (lb uy 3 : Nat)) := (KP.below hB).cell 7
    go_simp
    unfold rb3I
    exact ⟨j0, j1, j2, j3, true, true, j6, j7, j8, x0, x1, x2, x3, _, _, x6, x7, x8, rfl, rfl, hB, h0.out, h1.out, h2.out, h3.out, h4.out, fun _ => rfl, h6.out, h7.out, h8.out⟩
  · obtain rfl := Option.some.inj ho
    simp [Region.binds] at hu hd
    have d2 : j2 = true := by simp [hd]
    have d5 : j5 = true := by simp [hd]
    have e2 := h2.out d2
    subst e2
    have e5 := h5.out d5
    subst e5
    subst d2
    subst d5
    clear hd
    refine wpOp_of rfl rfl ?_
    go_simp
    go_at_call 35
    refine (keep w.heap.size w (HY.out _) hB (Nat.le_refl _)).mono ?_
    rintro e w2 ⟨rfl, hB2, hb2⟩
    unfold rb3I
    exact ⟨j0, j1, true, j3, j4, true, true, j7, j8, x0, x1, _, x3, x4, _, _, x7, x8, rfl, rfl, hB2, h0.out, h1.out, h2.out, h3.out, h4.out, h5.out, fun _ => rfl, h7.out, h8.out⟩
  · obtain rfl := Option.some.inj ho
    simp [Region.binds] at hu hd
    have d3 : j3 = true := by simp [hd]
    have d6 : j6 = true := by simp [hd]
    have e3 := h3.out d3
    subst e3
    have e6 := h6.out d6
    subst e6
    subst d3
    subst d6
    clear hd
    refine wpOp_of rfl rfl ?_
    have hsx := HSX.out
    have hsy := HSY.out
    go_simp
    unfold rb3I
    exact ⟨j0, j1, j2, true, j4, j5, true, true, j8, x0, x1, x2, _, x4, x5, _, _, x8, rfl, rfl, hB, h0.out, h1.out, h2.out, h3.out, h4.out, h5.out, h6.out, fun _ => rfl, h8.out⟩
  · obtain rfl := Option.some.inj ho
    simp [Region.binds] at hu hd
    have d0 : j0 = true := by simp [hd]
    have d1 : j1 = true := by simp [hd]
    have d2 : j2 = true := by simp [hd]
    have d3 : j3 = true := by simp [hd]
    have d4 : j4 = true := by simp [hd]
    have d5 : j5 = true := by simp [hd]
    have d6 : j6 = true := by simp [hd]
    have d7 : j7 = true := by simp [hd]
    have e0 := h0.out d0
    subst e0
    have e1 := h1.out d1
    subst e1
    have e2 := h2.out d2
    subst e2
    have e3 := h3.out d3
    subst e3
    have e4 := h4.out d4
    subst e4
    have e5 := h5.out d5
    subst e5
    have e6 := h6.out d6
    subst e6
    have e7 := h7.out d7
    subst e7
    subst d0
    subst d1
    subst d2
    subst d3
    subst d4
    subst d5
    subst d6
    subst d7
    clear hd
    refine wpOp_of rfl rfl ?_
    go_simp
    unfold rb3I
    exact ⟨true, true, true, true, true, true, true, true, true, _, _, _, _, _, _, _, _, _, rfl, rfl, hB, h0.out, h1.out, h2.out, h3.out, h4.out, h5.out, h6.out, h7.out, fun _ => rfl⟩
set_option maxHeartbeats 16000000 in
theorem rb3_fin (gP ux uy : Nat) (SX SY : ByteArray) (w : World) {t0 t3 t4 : Value} {ds : List Deferred} : ∀ l a w1, rb3I w gP ux uy SX SY t0 t3 t4 ds l a w1 → Region.ready .any rb3O l = [] → rb3F w gP ux uy SX SY t0 t3 t4 ds a w1 := by
  simp only [rb3O, findR, Try.f43, Option.bind_some, Option.or, Option.getD, Nat.reduceEqDiff, if_true, if_false, reduceIte]
  rintro l a w1 hI hr
  obtain ⟨j0, j1, j2, j3, j4, j5, j6, j7, j8, x0, x1, x2, x3, x4, x5, x6, x7, x8, rfl, rfl, hB, h0, h1, h2, h3, h4, h5, h6, h7, h8⟩ := hI
  have hn := fun i => List.eq_nil_iff_forall_not_mem.1 hr i
  clear hr
  have d0 : j0 = true := by
    cases hj : j0
    · exact absurd (mem_ready.2 ⟨by simp [hj], _, rfl, by simp [Region.binds, hj]⟩) (hn 0)
    · rfl
  subst d0
  have d1 : j1 = true := by
    cases hj : j1
    · exact absurd (mem_ready.2 ⟨by simp [hj], _, rfl, by simp [Region.binds, hj]⟩) (hn 1)
    · rfl
  subst d1
  have d2 : j2 = true := by
    cases hj : j2
    · exact absurd (mem_ready.2 ⟨by simp [hj], _, rfl, by simp [Region.binds, hj]⟩) (hn 2)
    · rfl
  subst d2
  have d3 : j3 = true := by
    cases hj : j3
    · exact absurd (mem_ready.2 ⟨by simp [hj], _, rfl, by simp [Region.binds, hj]⟩) (hn 3)
    · rfl
  subst d3
  have d4 : j4 = true := by
    cases hj : j4
    · exact absurd (mem_ready.2 ⟨by simp [hj], _, rfl, by simp [Region.binds, hj]⟩) (hn 4)
    · rfl
  subst d4
  have d5 : j5 = true := by
    cases hj : j5
    · exact absurd (mem_ready.2 ⟨by simp [hj], _, rfl, by simp [Region.binds, hj]⟩) (hn 5)
    · rfl
  subst d5
  have d6 : j6 = true := by
    cases hj : j6
    · exact absurd (mem_ready.2 ⟨by simp [hj], _, rfl, by simp [Region.binds, hj]⟩) (hn 6)
    · rfl
  subst d6
  have d7 : j7 = true := by
    cases hj : j7
    · exact absurd (mem_ready.2 ⟨by simp [hj], _, rfl, by simp [Region.binds, hj]⟩) (hn 7)
    · rfl
  subst d7
  have d8 : j8 = true := by
    cases hj : j8
    · exact absurd (mem_ready.2 ⟨by simp [hj], _, rfl, by simp [Region.binds, hj]⟩) (hn 8)
    · rfl
  subst d8
  obtain rfl := h8 rfl
  exact ⟨_, _, _, _, _, _, _, _, w1, rfl, hB, rfl⟩
theorem rb3 (gP ux uy : Nat) (SX SY : ByteArray) (w : World) (KP : Bk 51 w gP #[.int .u64 (lb ux 0 : Nat), .int .u64 (lb ux 1 : Nat), .int .u64 (lb ux 2 : Nat), .int .u64 (lb ux 3 : Nat), .int .u64 (lb uy 0 : Nat), .int .u64 (lb uy 1 : Nat), .int .u64 (lb uy 2 : Nat), .int .u64 (lb uy 3 : Nat), .bool false]) (HSX : Hid (SX.size = 32)) (HSY : Hid (SY.size = 32)) (HX : Hid (∀ w, Calls Try.prog 35 #[.agg #[.int .u64 (lb ux 0 : Nat), .int .u64 (lb ux 1 : Nat), .int .u64 (lb ux 2 : Nat), .int .u64 (lb ux 3 : Nat)]] w fun e w' => e = .returned (.string SX) ∧ Below w.heap.size w w')) (HY : Hid (∀ w, Calls Try.prog 35 #[.agg #[.int .u64 (lb uy 0 : Nat), .int .u64 (lb uy 1 : Nat), .int .u64 (lb uy 2 : Nat), .int .u64 (lb uy 3 : Nat)]] w fun e w' => e = .returned (.string SY) ∧ Below w.heap.size w w')) {t0 t3 t4 t5 t6 t7 t8 t9 t10 t11 t12 : Value} {ds : List Deferred} {K : Act → World → Prop} {Q : Exit → Act → World → Prop}
    (h : ∀ (y0 y1 y2 y3 y4 y5 y6 y7 : Value) (w1 : World) (hb : Below w.heap.size w w1), K { tmps := #[t0, .pointer (some ⟨gP, 0, none⟩), .string (⟨#[4]⟩ ++ SX ++ SY), t3, t4, y0, y1, y2, y3, y4, y5, y6, y7], defers := ds } w1) :
    (Code.region 3 rb3O true).wp Try.prog (Exit.then K Q) { tmps := #[t0, .pointer (some ⟨gP, 0, none⟩), .string ⟨#[]⟩, t3, t4, t5, t6, t7, t8, t9, t10, t11, t12], defers := ds } w := by
  have hsz : rb3O.size = 9 := by kernel_rfl
  refine wp_region_any (show Try.prog.follows .mixedOrders = true from by kernel_rfl) ?_
  rw [hsz]
  refine wpAny_inv (I := rb3I w gP ux uy SX SY t0 t3 t4 ds) (rb3_steps gP ux uy SX SY w KP HSX HSY HX HY) (fun l a w' hI hr => ?_) 9 _ _ _ (by decide) ?_
  · obtain ⟨y0, y1, y2, y3, y4, y5, y6, y7, wm, rfl, hb, rfl⟩ := rb3_fin gP ux uy SX SY w l a w' hI hr
    exact h _ _ _ _ _ _ _ _ _ hb
  · exact ⟨false, false, false, false, false, false, false, false, false, t5, t6, t7, t8, t9, t10, t11, t12, .string ⟨#[]⟩, rfl, rfl, ⟨rfl, rfl, rfl, Nat.le_refl _, fun _ _ => rfl⟩, (fun h => by cases h), (fun h => by cases h), (fun h => by cases h), (fun h => by cases h), (fun h => by cases h), (fun h => by cases h), (fun h => by cases h), (fun h => by cases h), (fun h => by cases h)⟩

def of5F (w0 : World) (gR ux uy : Nat) (S XB YB : ByteArray) (t1 t5 t6 t7 t8 t9 t10 t11 t12 t13 t14 t15 t16 t26 t27 t28 t29 t30 : Value) (ds : List Deferred) (a : Act) (w : World) : Prop :=
  ∃ y0 y1 y2 y3 y4 y5 y6 y7 y8 : Value, ∃ gn : Nat, ∃ wm : World, a = { tmps := #[.string S, t1, .pointer (some ⟨gR, 0, none⟩), .bool false, .pointer (some ⟨gn, 0, none⟩), t5, t6, t7, t8, t9, t10, t11, t12, t13, t14, t15, t16, y0, y1, y2, y3, y4, y5, y6, y7, y8, t26, t27, t28, t29, t30], defers := ds } ∧ Below w0.heap.size w0 wm ∧ w = (World.setCell (World.setCell (World.setCell (World.setCell (World.setCell (World.setCell (World.setCell (World.setCell (World.setCell wm ⟨gn, 0, none⟩ (.int .u64 (lb ux 0 : Nat))) ⟨gn, 1, none⟩ (.int .u64 (lb ux 1 : Nat))) ⟨gn, 2, none⟩ (.int .u64 (lb ux 2 : Nat))) ⟨gn, 3, none⟩ (.int .u64 (lb ux 3 : Nat))) ⟨gn, 4, none⟩ (.int .u64 (lb uy 0 : Nat))) ⟨gn, 5, none⟩ (.int .u64 (lb uy 1 : Nat))) ⟨gn, 6, none⟩ (.int .u64 (lb uy 2 : Nat))) ⟨gn, 7, none⟩ (.int .u64 (lb uy 3 : Nat))) ⟨gn, 8, none⟩ (.bool false)) ∧ w0.heap.size ≤ gn ∧ Bk 51 wm gn #[.int .u64 0, .int .u64 0, .int .u64 0, .int .u64 0, .int .u64 0, .int .u64 0, .int .u64 0, .int .u64 0, .bool false]
def of5I (w0 : World) (gR ux uy : Nat) (S XB YB : ByteArray) (t1 t5 t6 t7 t8 t9 t10 t11 t12 t13 t14 t15 t16 t26 t27 t28 t29 t30 : Value) (ds : List Deferred) (l : Array Bool) (a : Act) (w : World) : Prop :=
  (l = #[true, true, true, true, true, true, true, true, true, true, true] ∧ of5F w0 gR ux uy S XB YB t1 t5 t6 t7 t8 t9 t10 t11 t12 t13 t14 t15 t16 t26 t27 t28 t29 t30 ds a w) ∨ (∃ j0 j1 j2 j3 j4 j5 j6 j7 j8 j9 : Bool, ∃ x0 x1 x2 x3 x4 x5 x6 x7 x8 x9 : Value, l = #[j0, j1, j2, j3, j4, j5, j6, j7, j8, j9, false] ∧ a = { tmps := #[.string S, t1, .pointer (some ⟨gR, 0, none⟩), .bool false, x9, t5, t6, t7, t8, t9, t10, t11, t12, t13, t14, t15, t16, x0, x1, x2, x3, x4, x5, x6, x7, x8, t26, t27, t28, t29, t30], defers := ds } ∧ Below w0.heap.size w0 w ∧
  (j0 = true → x0 = .string S) ∧ (j1 = true → x1 = .string XB) ∧ (j2 = true → NV w x2 (ux)) ∧ (j3 = true → x3 = .agg #[.int .u64 (lb ux 0 : Nat), .int .u64 (lb ux 1 : Nat), .int .u64 (lb ux 2 : Nat), .int .u64 (lb ux 3 : Nat)]) ∧ (j4 = true → x4 = .string S) ∧ (j5 = true → x5 = .string YB) ∧ (j6 = true → NV w x6 (uy)) ∧ (j7 = true → x7 = .agg #[.int .u64 (lb uy 0 : Nat), .int .u64 (lb uy 1 : Nat), .int .u64 (lb uy 2 : Nat), .int .u64 (lb uy 3 : Nat)]) ∧ (j8 = true → x8 = .agg #[.int .u64 (lb ux 0 : Nat), .int .u64 (lb ux 1 : Nat), .int .u64 (lb ux 2 : Nat), .int .u64 (lb ux 3 : Nat), .int .u64 (lb uy 0 : Nat), .int .u64 (lb uy 1 : Nat), .int .u64 (lb uy 2 : Nat), .int .u64 (lb uy 3 : Nat), .bool false]) ∧ (j9 = true → Nw w0.heap.size 51 #[.int .u64 0, .int .u64 0, .int .u64 0, .int .u64 0, .int .u64 0, .int .u64 0, .int .u64 0, .int .u64 0, .bool false] w x9))
noncomputable def of5O : Array Oper := (Try.f39.body.bind fun c => findR c 5).getD #[]
set_option maxHeartbeats 16000000 in
theorem of5_steps (gR ux uy : Nat) (S XB YB : ByteArray) (w : World) (EX : Hid (S.extract 1 33 = XB)) (EY : Hid (S.extract 33 65 = YB)) (HZ : Hid (S.size = 65)) (HUX : Hid (ux < W256)) (HUY : Hid (uy < W256)) (HRX : Hid (∀ w, Calls Try.prog 32 #[.string XB] w fun e w' => ∃ v', e = .returned v' ∧ Nr w w' v' ux)) (HRY : Hid (∀ w, Calls Try.prog 32 #[.string YB] w fun e w' => ∃ v', e = .returned v' ∧ Nr w w' v' uy))
    {t1 t5 t6 t7 t8 t9 t10 t11 t12 t13 t14 t15 t16 t26 t27 t28 t29 t30 : Value} {ds : List Deferred} {Q : Exit → Act → World → Prop} :
    ∀ l a w', of5I w gR ux uy S XB YB t1 t5 t6 t7 t8 t9 t10 t11 t12 t13 t14 t15 t16 t26 t27 t28 t29 t30 ds l a w' → ∀ i ∈ Region.ready .any of5O l, wpOp Try.prog of5O Q i (fun a' w'' => of5I w gR ux uy S XB YB t1 t5 t6 t7 t8 t9 t10 t11 t12 t13 t14 t15 t16 t26 t27 t28 t29 t30 ds (l.setIfInBounds i true) a' w'') a w' := by
  simp only [of5O, findR, Try.f39, Option.bind_some, Option.or, Option.getD, Nat.reduceEqDiff, if_true, if_false, reduceIte]
  rintro l a w' hI i hi
  rw [mem_ready] at hi
  obtain ⟨hu, oo, ho, hd⟩ := hi
  have hin : i < 11 := by
    have := (Array.getElem?_eq_some_iff.1 ho).1
    simpa using this
  have hcase : i = 0 ∨ i = 1 ∨ i = 2 ∨ i = 3 ∨ i = 4 ∨ i = 5 ∨ i = 6 ∨ i = 7 ∨ i = 8 ∨ i = 9 ∨ i = 10 := by omega
  rcases hI with ⟨rfl, hF⟩ | hI
  · exfalso
    rcases hcase with rfl | rfl | rfl | rfl | rfl | rfl | rfl | rfl | rfl | rfl | rfl <;> simp at hu
  obtain ⟨j0, j1, j2, j3, j4, j5, j6, j7, j8, j9, x0, x1, x2, x3, x4, x5, x6, x7, x8, x9, rfl, rfl, hB, h0, h1, h2, h3, h4, h5, h6, h7, h8, h9⟩ := hI
  replace h0 := Lib.hid h0
  replace h1 := Lib.hid h1
  replace h2 := Lib.hid h2
  replace h3 := Lib.hid h3
  replace h4 := Lib.hid h4
  replace h5 := Lib.hid h5
  replace h6 := Lib.hid h6
  replace h7 := Lib.hid h7
  replace h8 := Lib.hid h8
  replace h9 := Lib.hid h9
  rcases hcase with rfl | rfl | rfl | rfl | rfl | rfl | rfl | rfl | rfl | rfl | rfl
  · obtain rfl := Option.some.inj ho
    simp [Region.binds] at hu hd
    clear hd
    refine wpOp_of rfl rfl ?_
    go_simp
    unfold of5I
    exact .inr ⟨true, j1, j2, j3, j4, j5, j6, j7, j8, j9, _, x1, x2, x3, x4, x5, x6, x7, x8, x9, rfl, rfl, hB, fun _ => rfl, h1.out, h2.out, h3.out, h4.out, h5.out, h6.out, h7.out, h8.out, h9.out⟩
  · obtain rfl := Option.some.inj ho
    simp [Region.binds] at hu hd
    have d0 : j0 = true := by simp [hd]
    have e0 := h0.out d0
    subst e0
    subst d0
    clear hd
    refine wpOp_of rfl rfl ?_
    have ex := EX.out
    have ey := EY.out
    have hz := HZ.out
    go_simp
    unfold of5I
    exact .inr ⟨true, true, j2, j3, j4, j5, j6, j7, j8, j9, _, _, x2, x3, x4, x5, x6, x7, x8, x9, rfl, rfl, hB, h0.out, fun _ => rfl, h2.out, h3.out, h4.out, h5.out, h6.out, h7.out, h8.out, h9.out⟩
  · obtain rfl := Option.some.inj ho
    simp [Region.binds] at hu hd
    have d1 : j1 = true := by simp [hd]
    have e1 := h1.out d1
    subst e1
    subst d1
    clear hd
    refine wpOp_of rfl rfl ?_
    go_simp
    go_at_call 32
    refine (nk w.heap.size w (HRX.out _) hB (Nat.le_refl _)).mono ?_
    rintro e w2 ⟨v', rfl, hn', hB2, hb2⟩
    unfold of5I
    exact .inr ⟨j0, true, true, j3, j4, j5, j6, j7, j8, j9, x0, _, _, x3, x4, x5, x6, x7, x8, x9, rfl, rfl, hB2, h0.out, h1.out, fun _ => hn', h3.out, h4.out, h5.out, fun hj => (h6.out hj).below hb2, h7.out, h8.out, fun hj => (h9.out hj).below hb2⟩
  · obtain rfl := Option.some.inj ho
    simp [Region.binds] at hu hd
    have d2 : j2 = true := by simp [hd]
    subst d2
    clear hd
    refine wpOp_of rfl rfl ?_
    go_simp
    go_at_call 66
    refine (keep w.heap.size w (out_nv _ _ ux HUX.out (h2.out rfl)) hB (Nat.le_refl _)).mono ?_
    rintro e w2 ⟨rfl, hB2, hb2⟩
    unfold of5I
    exact .inr ⟨j0, j1, true, true, j4, j5, j6, j7, j8, j9, x0, x1, x2, _, x4, x5, x6, x7, x8, x9, rfl, rfl, hB2, h0.out, h1.out, fun hj => (h2.out hj).below hb2, fun _ => rfl, h4.out, h5.out, fun hj => (h6.out hj).below hb2, h7.out, h8.out, fun hj => (h9.out hj).below hb2⟩
  · obtain rfl := Option.some.inj ho
    simp [Region.binds] at hu hd
    clear hd
    refine wpOp_of rfl rfl ?_
    go_simp
    unfold of5I
    exact .inr ⟨j0, j1, j2, j3, true, j5, j6, j7, j8, j9, x0, x1, x2, x3, _, x5, x6, x7, x8, x9, rfl, rfl, hB, h0.out, h1.out, h2.out, h3.out, fun _ => rfl, h5.out, h6.out, h7.out, h8.out, h9.out⟩
  · obtain rfl := Option.some.inj ho
    simp [Region.binds] at hu hd
    have d4 : j4 = true := by simp [hd]
    have e4 := h4.out d4
    subst e4
    subst d4
    clear hd
    refine wpOp_of rfl rfl ?_
    have ex := EX.out
    have ey := EY.out
    have hz := HZ.out
    go_simp
    unfold of5I
    exact .inr ⟨j0, j1, j2, j3, true, true, j6, j7, j8, j9, x0, x1, x2, x3, _, _, x6, x7, x8, x9, rfl, rfl, hB, h0.out, h1.out, h2.out, h3.out, h4.out, fun _ => rfl, h6.out, h7.out, h8.out, h9.out⟩
  · obtain rfl := Option.some.inj ho
    simp [Region.binds] at hu hd
    have d3 : j3 = true := by simp [hd]
    have d5 : j5 = true := by simp [hd]
    have e3 := h3.out d3
    subst e3
    have e5 := h5.out d5
    subst e5
    subst d3
    subst d5
    clear hd
    refine wpOp_of rfl rfl ?_
    go_simp
    go_at_call 32
    refine (nk w.heap.size w (HRY.out _) hB (Nat.le_refl _)).mono ?_
    rintro e w2 ⟨v', rfl, hn', hB2, hb2⟩
    unfold of5I
    exact .inr ⟨j0, j1, j2, true, j4, true, true, j7, j8, j9, x0, x1, x2, _, x4, _, _, x7, x8, x9, rfl, rfl, hB2, h0.out, h1.out, fun hj => (h2.out hj).below hb2, h3.out, h4.out, h5.out, fun _ => hn', h7.out, h8.out, fun hj => (h9.out hj).below hb2⟩
  · obtain rfl := Option.some.inj ho
    simp [Region.binds] at hu hd
    have d6 : j6 = true := by simp [hd]
    subst d6
    clear hd
    refine wpOp_of rfl rfl ?_
    go_simp
    go_at_call 66
    refine (keep w.heap.size w (out_nv _ _ uy HUY.out (h6.out rfl)) hB (Nat.le_refl _)).mono ?_
    rintro e w2 ⟨rfl, hB2, hb2⟩
    unfold of5I
    exact .inr ⟨j0, j1, j2, j3, j4, j5, true, true, j8, j9, x0, x1, x2, x3, x4, x5, x6, _, x8, x9, rfl, rfl, hB2, h0.out, h1.out, fun hj => (h2.out hj).below hb2, h3.out, h4.out, h5.out, fun hj => (h6.out hj).below hb2, fun _ => rfl, h8.out, fun hj => (h9.out hj).below hb2⟩
  · obtain rfl := Option.some.inj ho
    simp [Region.binds] at hu hd
    have d3 : j3 = true := by simp [hd]
    have d7 : j7 = true := by simp [hd]
    have e3 := h3.out d3
    subst e3
    have e7 := h7.out d7
    subst e7
    subst d3
    subst d7
    clear hd
    refine wpOp_of rfl rfl ?_
    go_simp
    unfold of5I
    exact .inr ⟨j0, j1, j2, true, j4, j5, j6, true, true, j9, x0, x1, x2, _, x4, x5, x6, _, _, x9, rfl, rfl, hB, h0.out, h1.out, h2.out, h3.out, h4.out, h5.out, h6.out, h7.out, fun _ => rfl, h9.out⟩
  · obtain rfl := Option.some.inj ho
    simp [Region.binds] at hu hd
    clear hd
    refine wpOp_of rfl rfl ?_
    have hb2 := al_below w' (.cells #[.int .u64 0, .int .u64 0, .int .u64 0, .int .u64 0, .int .u64 0, .int .u64 0, .int .u64 0, .int .u64 0, .bool false] 51)
    have hB2 := hB.trans (hb2.mono hB.size)
    have hs0 := hB.size
    go_simp
    unfold of5I
    exact .inr ⟨j0, j1, j2, j3, j4, j5, j6, j7, j8, true, x0, x1, x2, x3, x4, x5, x6, x7, x8, _, rfl, rfl, hB2, h0.out, h1.out, fun hj => (h2.out hj).below hb2, h3.out, h4.out, h5.out, fun hj => (h6.out hj).below hb2, h7.out, h8.out, fun _ => ⟨_, rfl, hs0, Bk.new rfl⟩⟩
  · obtain rfl := Option.some.inj ho
    simp [Region.binds] at hu hd
    have d0 : j0 = true := by simp [hd]
    have d1 : j1 = true := by simp [hd]
    have d2 : j2 = true := by simp [hd]
    have d3 : j3 = true := by simp [hd]
    have d4 : j4 = true := by simp [hd]
    have d5 : j5 = true := by simp [hd]
    have d6 : j6 = true := by simp [hd]
    have d7 : j7 = true := by simp [hd]
    have d8 : j8 = true := by simp [hd]
    have d9 : j9 = true := by simp [hd]
    have e0 := h0.out d0
    subst e0
    have e1 := h1.out d1
    subst e1
    have e3 := h3.out d3
    subst e3
    have e4 := h4.out d4
    subst e4
    have e5 := h5.out d5
    subst e5
    have e7 := h7.out d7
    subst e7
    have e8 := h8.out d8
    subst e8
    subst d0
    subst d1
    subst d2
    subst d3
    subst d4
    subst d5
    subst d6
    subst d7
    subst d8
    subst d9
    clear hd
    refine wpOp_of rfl rfl ?_
    obtain ⟨gn, hgx, hgl, hgk⟩ := h9.out rfl
    subst hgx
    have c0 := hgk.cell 0
    have f0 := hgk.fro 0
    have c1 := hgk.cell 1
    have f1 := hgk.fro 1
    have c2 := hgk.cell 2
    have f2 := hgk.fro 2
    have c3 := hgk.cell 3
    have f3 := hgk.fro 3
    have c4 := hgk.cell 4
    have f4 := hgk.fro 4
    have c5 := hgk.cell 5
    have f5 := hgk.fro 5
    have c6 := hgk.cell 6
    have f6 := hgk.fro 6
    have c7 := hgk.cell 7
    have f7 := hgk.fro 7
    have c8 := hgk.cell 8
    have f8 := hgk.fro 8
    go_simp
    unfold of5I of5F
    exact .inl ⟨rfl, _, _, x2, _, _, _, x6, _, _, _, _, rfl, hB, rfl, hgl, hgk⟩
set_option maxHeartbeats 16000000 in
theorem of5_fin (gR ux uy : Nat) (S XB YB : ByteArray) (w : World) {t1 t5 t6 t7 t8 t9 t10 t11 t12 t13 t14 t15 t16 t26 t27 t28 t29 t30 : Value} {ds : List Deferred} : ∀ l a w1, of5I w gR ux uy S XB YB t1 t5 t6 t7 t8 t9 t10 t11 t12 t13 t14 t15 t16 t26 t27 t28 t29 t30 ds l a w1 → Region.ready .any of5O l = [] → of5F w gR ux uy S XB YB t1 t5 t6 t7 t8 t9 t10 t11 t12 t13 t14 t15 t16 t26 t27 t28 t29 t30 ds a w1 := by
  simp only [of5O, findR, Try.f39, Option.bind_some, Option.or, Option.getD, Nat.reduceEqDiff, if_true, if_false, reduceIte]
  rintro l a w1 hI hr
  rcases hI with ⟨rfl, hF⟩ | hI
  · exact hF
  obtain ⟨j0, j1, j2, j3, j4, j5, j6, j7, j8, j9, x0, x1, x2, x3, x4, x5, x6, x7, x8, x9, rfl, rfl, hB, h0, h1, h2, h3, h4, h5, h6, h7, h8, h9⟩ := hI
  have hn := fun i => List.eq_nil_iff_forall_not_mem.1 hr i
  clear hr
  have d0 : j0 = true := by
    cases hj : j0
    · exact absurd (mem_ready.2 ⟨by simp [hj], _, rfl, by simp [Region.binds, hj]⟩) (hn 0)
    · rfl
  subst d0
  have d1 : j1 = true := by
    cases hj : j1
    · exact absurd (mem_ready.2 ⟨by simp [hj], _, rfl, by simp [Region.binds, hj]⟩) (hn 1)
    · rfl
  subst d1
  have d2 : j2 = true := by
    cases hj : j2
    · exact absurd (mem_ready.2 ⟨by simp [hj], _, rfl, by simp [Region.binds, hj]⟩) (hn 2)
    · rfl
  subst d2
  have d3 : j3 = true := by
    cases hj : j3
    · exact absurd (mem_ready.2 ⟨by simp [hj], _, rfl, by simp [Region.binds, hj]⟩) (hn 3)
    · rfl
  subst d3
  have d4 : j4 = true := by
    cases hj : j4
    · exact absurd (mem_ready.2 ⟨by simp [hj], _, rfl, by simp [Region.binds, hj]⟩) (hn 4)
    · rfl
  subst d4
  have d5 : j5 = true := by
    cases hj : j5
    · exact absurd (mem_ready.2 ⟨by simp [hj], _, rfl, by simp [Region.binds, hj]⟩) (hn 5)
    · rfl
  subst d5
  have d6 : j6 = true := by
    cases hj : j6
    · exact absurd (mem_ready.2 ⟨by simp [hj], _, rfl, by simp [Region.binds, hj]⟩) (hn 6)
    · rfl
  subst d6
  have d7 : j7 = true := by
    cases hj : j7
    · exact absurd (mem_ready.2 ⟨by simp [hj], _, rfl, by simp [Region.binds, hj]⟩) (hn 7)
    · rfl
  subst d7
  have d8 : j8 = true := by
    cases hj : j8
    · exact absurd (mem_ready.2 ⟨by simp [hj], _, rfl, by simp [Region.binds, hj]⟩) (hn 8)
    · rfl
  subst d8
  have d9 : j9 = true := by
    cases hj : j9
    · exact absurd (mem_ready.2 ⟨by simp [hj], _, rfl, by simp [Region.binds, hj]⟩) (hn 9)
    · rfl
  subst d9
  exact absurd (mem_ready.2 ⟨rfl, _, rfl, by simp [Region.binds]⟩) (hn 10)
theorem of5 (gR ux uy : Nat) (S XB YB : ByteArray) (w : World) (EX : Hid (S.extract 1 33 = XB)) (EY : Hid (S.extract 33 65 = YB)) (HZ : Hid (S.size = 65)) (HUX : Hid (ux < W256)) (HUY : Hid (uy < W256)) (HRX : Hid (∀ w, Calls Try.prog 32 #[.string XB] w fun e w' => ∃ v', e = .returned v' ∧ Nr w w' v' ux)) (HRY : Hid (∀ w, Calls Try.prog 32 #[.string YB] w fun e w' => ∃ v', e = .returned v' ∧ Nr w w' v' uy)) {t1 t4 t5 t6 t7 t8 t9 t10 t11 t12 t13 t14 t15 t16 t17 t18 t19 t20 t21 t22 t23 t24 t25 t26 t27 t28 t29 t30 : Value} {ds : List Deferred} {K : Act → World → Prop} {Q : Exit → Act → World → Prop}
    (h : ∀ (y0 y1 y2 y3 y4 y5 y6 y7 y8 : Value) (gn : Nat) (w1 : World) (hb : Below w.heap.size w w1) (hgl : w.heap.size ≤ gn) (hgk : Bk 51 w1 gn #[.int .u64 0, .int .u64 0, .int .u64 0, .int .u64 0, .int .u64 0, .int .u64 0, .int .u64 0, .int .u64 0, .bool false]), K { tmps := #[.string S, t1, .pointer (some ⟨gR, 0, none⟩), .bool false, .pointer (some ⟨gn, 0, none⟩), t5, t6, t7, t8, t9, t10, t11, t12, t13, t14, t15, t16, y0, y1, y2, y3, y4, y5, y6, y7, y8, t26, t27, t28, t29, t30], defers := ds } (World.setCell (World.setCell (World.setCell (World.setCell (World.setCell (World.setCell (World.setCell (World.setCell (World.setCell w1 ⟨gn, 0, none⟩ (.int .u64 (lb ux 0 : Nat))) ⟨gn, 1, none⟩ (.int .u64 (lb ux 1 : Nat))) ⟨gn, 2, none⟩ (.int .u64 (lb ux 2 : Nat))) ⟨gn, 3, none⟩ (.int .u64 (lb ux 3 : Nat))) ⟨gn, 4, none⟩ (.int .u64 (lb uy 0 : Nat))) ⟨gn, 5, none⟩ (.int .u64 (lb uy 1 : Nat))) ⟨gn, 6, none⟩ (.int .u64 (lb uy 2 : Nat))) ⟨gn, 7, none⟩ (.int .u64 (lb uy 3 : Nat))) ⟨gn, 8, none⟩ (.bool false))) :
    (Code.region 5 of5O true).wp Try.prog (Exit.then K Q) { tmps := #[.string S, t1, .pointer (some ⟨gR, 0, none⟩), .bool false, t4, t5, t6, t7, t8, t9, t10, t11, t12, t13, t14, t15, t16, t17, t18, t19, t20, t21, t22, t23, t24, t25, t26, t27, t28, t29, t30], defers := ds } w := by
  have hsz : of5O.size = 11 := by kernel_rfl
  refine wp_region_any (show Try.prog.follows .mixedOrders = true from by kernel_rfl) ?_
  rw [hsz]
  refine wpAny_inv (I := of5I w gR ux uy S XB YB t1 t5 t6 t7 t8 t9 t10 t11 t12 t13 t14 t15 t16 t26 t27 t28 t29 t30 ds) (of5_steps gR ux uy S XB YB w EX EY HZ HUX HUY HRX HRY) (fun l a w' hI hr => ?_) 11 _ _ _ (by decide) ?_
  · obtain ⟨y0, y1, y2, y3, y4, y5, y6, y7, y8, gn, wm, rfl, hb, rfl, hgl, hgk⟩ := of5_fin gR ux uy S XB YB w l a w' hI hr
    exact h _ _ _ _ _ _ _ _ _ _ _ hb hgl hgk
  · exact .inr ⟨false, false, false, false, false, false, false, false, false, false, t17, t18, t19, t20, t21, t22, t23, t24, t25, t4, rfl, rfl, ⟨rfl, rfl, rfl, Nat.le_refl _, fun _ _ => rfl⟩, (fun h => by cases h), (fun h => by cases h), (fun h => by cases h), (fun h => by cases h), (fun h => by cases h), (fun h => by cases h), (fun h => by cases h), (fun h => by cases h), (fun h => by cases h), (fun h => by cases h)⟩

set_option maxHeartbeats 16000000 in
theorem rbytes7_any (p : Po) (w : World) :
    Calls Try.prog 43 #[p.v] w fun e w' => e = .returned (.string ⟨p.bytes.toArray⟩) ∧ Below w.heap.size w w' := by
  obtain ⟨ux, uy, i⟩ := p
  unfold Po.v
  simp only []
  cases i
  · have HX := Lib.hid (fun w => rbytes_any ux w)
    have HY := Lib.hid (fun w => rbytes_any uy w)
    have hb : (⟨#[4]⟩ ++ ⟨(nb ux).toArray⟩ ++ ⟨(nb uy).toArray⟩ : ByteArray) = ⟨(Po.mk ux uy false).bytes.toArray⟩ := by
      have e1 := app_bytes [4] (nb ux)
      have e2 := app_bytes (4 :: nb ux) (nb uy)
      show (⟨[4].toArray⟩ ++ ⟨(nb ux).toArray⟩ ++ ⟨(nb uy).toArray⟩ : ByteArray) = _
      rw [e1]
      exact e2
    rw [← hb]
    clear hb
    have HSX : Hid ((⟨(nb ux).toArray⟩ : ByteArray).size = 32) := Lib.hid (by simp [ByteArray.size, nb_length])
    have HSY : Hid ((⟨(nb uy).toArray⟩ : ByteArray).size = 32) := Lib.hid (by simp [ByteArray.size, nb_length])
    generalize (⟨(nb ux).toArray⟩ : ByteArray) = SX at *
    generalize (⟨(nb uy).toArray⟩ : ByteArray) = SY at *
    simp only [pn, nv, num] at HX HY ⊢
    go_enter Try.func43, Try.ntmps43
    go_wp2_with fail
    have KP : Hid (Bk 51 (w.alloc (.cells #[.int .u64 (lb ux 0 : Nat), .int .u64 (lb ux 1 : Nat), .int .u64 (lb ux 2 : Nat), .int .u64 (lb ux 3 : Nat), .int .u64 (lb uy 0 : Nat), .int .u64 (lb uy 1 : Nat), .int .u64 (lb uy 2 : Nat), .int .u64 (lb uy 3 : Nat), .bool false] 51)) w.heap.size #[.int .u64 (lb ux 0 : Nat), .int .u64 (lb ux 1 : Nat), .int .u64 (lb ux 2 : Nat), .int .u64 (lb ux 3 : Nat), .int .u64 (lb uy 0 : Nat), .int .u64 (lb uy 1 : Nat), .int .u64 (lb uy 2 : Nat), .int .u64 (lb uy 3 : Nat), .bool false]) := Lib.hid (Bk.new rfl)
    have HB : Hid (Below w.heap.size w (w.alloc (.cells #[.int .u64 (lb ux 0 : Nat), .int .u64 (lb ux 1 : Nat), .int .u64 (lb ux 2 : Nat), .int .u64 (lb ux 3 : Nat), .int .u64 (lb uy 0 : Nat), .int .u64 (lb uy 1 : Nat), .int .u64 (lb uy 2 : Nat), .int .u64 (lb uy 3 : Nat), .bool false] 51))) := Lib.hid (by go_grown)
    generalize (w.alloc (.cells #[.int .u64 (lb ux 0 : Nat), .int .u64 (lb ux 1 : Nat), .int .u64 (lb ux 2 : Nat), .int .u64 (lb ux 3 : Nat), .int .u64 (lb uy 0 : Nat), .int .u64 (lb uy 1 : Nat), .int .u64 (lb uy 2 : Nat), .int .u64 (lb uy 3 : Nat), .bool false] 51)) = w0 at KP HB ⊢
    obtain ⟨⟨a0, a1, a2, a3⟩, ⟨a4, a5, a6, a7⟩, a8⟩ := KP.out.cells9
    go_wp2_with fail
    clear a0 a1 a2 a3 a4 a5 a6 a7 a8
    refine rb3 w.heap.size ux uy SX SY w0 KP.out HSX HSY HX HY ?_
    intros
    rename_i w1 hb1
    replace HB := Lib.hid (HB.out.trans (hb1.mono HB.out.size))
    clear hb1
    go_wp2_with fail
    go_ret
    exact ⟨rfl, HB.out⟩
  · simp only [pn, nv, num]
    go_enter Try.func43, Try.ntmps43
    go_wp2_with fail
    have KP : Hid (Bk 51 (w.alloc (.cells #[.int .u64 (lb ux 0 : Nat), .int .u64 (lb ux 1 : Nat), .int .u64 (lb ux 2 : Nat), .int .u64 (lb ux 3 : Nat), .int .u64 (lb uy 0 : Nat), .int .u64 (lb uy 1 : Nat), .int .u64 (lb uy 2 : Nat), .int .u64 (lb uy 3 : Nat), .bool true] 51)) w.heap.size #[.int .u64 (lb ux 0 : Nat), .int .u64 (lb ux 1 : Nat), .int .u64 (lb ux 2 : Nat), .int .u64 (lb ux 3 : Nat), .int .u64 (lb uy 0 : Nat), .int .u64 (lb uy 1 : Nat), .int .u64 (lb uy 2 : Nat), .int .u64 (lb uy 3 : Nat), .bool true]) := Lib.hid (Bk.new rfl)
    have HB : Hid (Below w.heap.size w (w.alloc (.cells #[.int .u64 (lb ux 0 : Nat), .int .u64 (lb ux 1 : Nat), .int .u64 (lb ux 2 : Nat), .int .u64 (lb ux 3 : Nat), .int .u64 (lb uy 0 : Nat), .int .u64 (lb uy 1 : Nat), .int .u64 (lb uy 2 : Nat), .int .u64 (lb uy 3 : Nat), .bool true] 51))) := Lib.hid (by go_grown)
    generalize (w.alloc (.cells #[.int .u64 (lb ux 0 : Nat), .int .u64 (lb ux 1 : Nat), .int .u64 (lb ux 2 : Nat), .int .u64 (lb ux 3 : Nat), .int .u64 (lb uy 0 : Nat), .int .u64 (lb uy 1 : Nat), .int .u64 (lb uy 2 : Nat), .int .u64 (lb uy 3 : Nat), .bool true] 51)) = w0 at KP HB ⊢
    obtain ⟨⟨a0, a1, a2, a3⟩, ⟨a4, a5, a6, a7⟩, a8⟩ := KP.out.cells9
    go_wp2_with fail
    go_ret
    exact ⟨rfl, HB.out⟩
/-- what the reference's Of answers -/
def Po.retR : Option Po → Value
  | some p => .tuple #[p.v, .bool true]
  | none => .tuple #[pn 0 0 false, .bool false]
set_option maxHeartbeats 16000000 in
theorem rof_far (w : World) : Calls Try.prog 39 #[.string ⟨#[0]⟩] w fun e w' => e = .returned (.tuple #[pn 0 0 true, .bool true]) ∧ Below w.heap.size w w' := by
  have f0 : ((⟨#[0]⟩ : ByteArray).toList == [0]) = true := by decide +kernel
  go_enter Try.func39, Try.ntmps39
  go_wp2_with fail
  refine ret_cell51e rfl w.heap.size 0 0 true (.bool true) rfl rfl (Bk.new rfl) rfl ⟨rfl, ?_⟩
  go_grown
end Go.Proofs.Ytglmmodkflkkkaa.Ref
set_option linter.unusedVariables false
set_option linter.unusedSimpArgs false
set_option maxRecDepth 100000
namespace Go.Proofs.Ytglmmodkflkkkaa.Ref
open Go.RowKit Go.Proofs.Ytglmmodkflkkkaa.Digits Limbs Curve

set_option maxHeartbeats 16000000 in
theorem rof_on (SS XB YB : ByteArray) (ux uy : Nat) (on : Bool) (f0 : (SS.toList == [0]) = false) (HZ : Hid (SS.size = 65)) (h0s : 0 < SS.size) (hb0 : SS[0] = 4) (EX : Hid (SS.extract 1 33 = XB)) (EY : Hid (SS.extract 33 65 = YB)) (HUX : Hid (ux < W256)) (HUY : Hid (uy < W256))
    (HRX : Hid (∀ w, Calls Try.prog 32 #[.string XB] w fun e w' => ∃ v', e = .returned v' ∧ Nr w w' v' ux)) (HRY : Hid (∀ w, Calls Try.prog 32 #[.string YB] w fun e w' => ∃ v', e = .returned v' ∧ Nr w w' v' uy))
    (HON : Hid (∀ w, Calls Try.prog 40 #[(Po.mk ux uy false).v] w fun e w' => e = .returned (.bool on) ∧ Below w.heap.size w w')) (w : World) :
    Calls Try.prog 39 #[.string SS] w fun e w' => e = .returned (Po.retR (if on = true then some ⟨ux, uy, false⟩ else none)) ∧ Below w.heap.size w w' := by
  have hz := HZ.out
  simp only [Po.v, pn, nv, num] at HON
  have hres : Po.retR (if on = true then some ⟨ux, uy, false⟩ else none) = .tuple #[pn (if on = true then ux else 0) (if on = true then uy else 0) false, .bool on] := by cases on <;> rfl
  rw [hres]
  clear hres
  go_enter Try.func39, Try.ntmps39
  go_wp2_with fail
  have KR : Hid (Bk 51 (w.alloc (.cells #[.int .u64 0, .int .u64 0, .int .u64 0, .int .u64 0, .int .u64 0, .int .u64 0, .int .u64 0, .int .u64 0, .bool false] 51)) w.heap.size #[.int .u64 0, .int .u64 0, .int .u64 0, .int .u64 0, .int .u64 0, .int .u64 0, .int .u64 0, .int .u64 0, .bool false]) := Lib.hid (Bk.new rfl)
  have HB : Hid (Below w.heap.size w (w.alloc (.cells #[.int .u64 0, .int .u64 0, .int .u64 0, .int .u64 0, .int .u64 0, .int .u64 0, .int .u64 0, .int .u64 0, .bool false] 51))) := Lib.hid (by go_grown)
  clear hb0 hz f0
  generalize (w.alloc (.cells #[.int .u64 0, .int .u64 0, .int .u64 0, .int .u64 0, .int .u64 0, .int .u64 0, .int .u64 0, .int .u64 0, .bool false] 51)) = w0 at KR HB ⊢
  refine of5 w.heap.size ux uy SS XB YB w0 EX EY HZ HUX HUY HRX HRY ?_
  intros
  rename_i gn w1 hb1 hgl hgk
  have hne : w.heap.size ≠ gn := by have := KR.out.lt; omega
  replace KR := Lib.hid (KR.out.below hb1)
  have HB1 := HB.out.trans (hb1.mono HB.out.size)
  have HB2 := Lib.hid (HB1)
  have KR2 := Lib.hid (Bk.puto9 hne KR.out (d0 := .int .u64 (lb ux 0 : Nat)) (d1 := .int .u64 (lb ux 1 : Nat)) (d2 := .int .u64 (lb ux 2 : Nat)) (d3 := .int .u64 (lb ux 3 : Nat)) (d4 := .int .u64 (lb uy 0 : Nat)) (d5 := .int .u64 (lb uy 1 : Nat)) (d6 := .int .u64 (lb uy 2 : Nat)) (d7 := .int .u64 (lb uy 3 : Nat)) (d8 := .bool false))
  have KP2 := Lib.hid (Bk.put9 hgk (d0 := .int .u64 (lb ux 0 : Nat)) (d1 := .int .u64 (lb ux 1 : Nat)) (d2 := .int .u64 (lb ux 2 : Nat)) (d3 := .int .u64 (lb ux 3 : Nat)) (d4 := .int .u64 (lb uy 0 : Nat)) (d5 := .int .u64 (lb uy 1 : Nat)) (d6 := .int .u64 (lb uy 2 : Nat)) (d7 := .int .u64 (lb uy 3 : Nat)) (d8 := .bool false))
  have hgB : w.heap.size ≤ gn := by have := HB.out.size; omega
  have HB3 : Hid (Below w.heap.size w (World.setCell (World.setCell (World.setCell (World.setCell (World.setCell (World.setCell (World.setCell (World.setCell (World.setCell w1 ⟨gn, 0, none⟩ (.int .u64 (lb ux 0 : Nat))) ⟨gn, 1, none⟩ (.int .u64 (lb ux 1 : Nat))) ⟨gn, 2, none⟩ (.int .u64 (lb ux 2 : Nat))) ⟨gn, 3, none⟩ (.int .u64 (lb ux 3 : Nat))) ⟨gn, 4, none⟩ (.int .u64 (lb uy 0 : Nat))) ⟨gn, 5, none⟩ (.int .u64 (lb uy 1 : Nat))) ⟨gn, 6, none⟩ (.int .u64 (lb uy 2 : Nat))) ⟨gn, 7, none⟩ (.int .u64 (lb uy 3 : Nat))) ⟨gn, 8, none⟩ (.bool false))) := Lib.hid (by have hb := HB2.out; go_grown)
  clear hb1 hgl hgk hne KR HB HB1 HB2 hgB
  generalize (World.setCell (World.setCell (World.setCell (World.setCell (World.setCell (World.setCell (World.setCell (World.setCell (World.setCell w1 ⟨gn, 0, none⟩ (.int .u64 (lb ux 0 : Nat))) ⟨gn, 1, none⟩ (.int .u64 (lb ux 1 : Nat))) ⟨gn, 2, none⟩ (.int .u64 (lb ux 2 : Nat))) ⟨gn, 3, none⟩ (.int .u64 (lb ux 3 : Nat))) ⟨gn, 4, none⟩ (.int .u64 (lb uy 0 : Nat))) ⟨gn, 5, none⟩ (.int .u64 (lb uy 1 : Nat))) ⟨gn, 6, none⟩ (.int .u64 (lb uy 2 : Nat))) ⟨gn, 7, none⟩ (.int .u64 (lb uy 3 : Nat))) ⟨gn, 8, none⟩ (.bool false)) = w2 at KR2 KP2 HB3 ⊢
  obtain ⟨⟨a0, a1, a2, a3⟩, ⟨a4, a5, a6, a7⟩, a8⟩ := KP2.out.cells9
  go_wp2_with fail
  clear a0 a1 a2 a3 a4 a5 a6 a7 a8
  refine (keep w.heap.size w (HON.out _) HB3.out (Nat.le_refl _)).mono ?_
  rintro e w3 ⟨rfl, hb, hk⟩
  have KR3 := Lib.hid (KR2.out.below hk)
  have KP3 := Lib.hid (KP2.out.below hk)
  have HB4 := Lib.hid hb
  clear hb hk KR2 KP2 HB3 HON
  obtain ⟨⟨f0, f1, f2, f3⟩, ⟨f4, f5, f6, f7⟩, f8⟩ := KR3.out.fros9
  obtain ⟨⟨c0, c1, c2, c3⟩, ⟨c4, c5, c6, c7⟩, c8⟩ := KR3.out.cells9
  cases on
  · go_wp2_with fail
    refine ret_cell51e rfl w.heap.size 0 0 false (.bool false) rfl rfl (Bk.put9 KR3.out) rfl ⟨rfl, ?_⟩
    have hb := HB4.out
    go_grown
  · obtain ⟨⟨x0, x1, x2, x3⟩, ⟨y0, y1, y2, y3⟩, i0⟩ := KP3.out.cells9
    go_wp2_with fail
    refine ret_cell51e rfl w.heap.size ux uy false (.bool true) rfl rfl (Bk.put9 KR3.out) rfl ⟨rfl, ?_⟩
    have hb := HB4.out
    go_grown
set_option maxHeartbeats 16000000 in
theorem rof_head (SS : ByteArray) (b : UInt8) (f0 : (SS.toList == [0]) = false) (hsz : SS.size = 65) (h0s : 0 < SS.size) (hb0 : SS[0] = b) (hbn : ((b.toNat : Int) != 4) = true) (w : World) :
    Calls Try.prog 39 #[.string SS] w fun e w' => e = .returned (.tuple #[pn 0 0 false, .bool false]) ∧ Below w.heap.size w w' := by
  go_enter Try.func39, Try.ntmps39
  go_wp2_with fail
  refine ret_cell51e rfl w.heap.size 0 0 false (.bool false) rfl rfl (Bk.new rfl) rfl ⟨rfl, ?_⟩
  go_grown
set_option maxHeartbeats 16000000 in
theorem rof_len (SS : ByteArray) (f0 : (SS.toList == [0]) = false) (hn : (((SS.size : Nat) : Int) != 65) = true) (w : World) :
    Calls Try.prog 39 #[.string SS] w fun e w' => e = .returned (.tuple #[pn 0 0 false, .bool false]) ∧ Below w.heap.size w w' := by
  go_enter Try.func39, Try.ntmps39
  go_wp2_with fail
  refine ret_cell51e rfl w.heap.size 0 0 false (.bool false) rfl rfl (Bk.new rfl) rfl ⟨rfl, ?_⟩
  go_grown
set_option maxHeartbeats 16000000 in
theorem rof_any (s : List UInt8) (hs : s.length ≤ 140737488351232) (w : World) : Calls Try.prog 39 #[.string ⟨s.toArray⟩] w fun e w' => e = .returned (Po.retR (Po.of s)) ∧ Below w.heap.size w w' := by
  by_cases h0 : s = [0]
  · subst h0
    exact rof_far w
  have f0 : ((⟨s.toArray⟩ : ByteArray).toList == [0]) = false := by rw [toList_ba]; simpa using h0
  have hsz : (⟨s.toArray⟩ : ByteArray).size = s.length := by simp [ByteArray.size]
  have hno : ¬ (s.length = 65 ∧ s.take 1 = [4]) → Po.of s = none := fun h => by
    unfold Po.of
    rw [if_neg h0, if_neg (fun h' => h ⟨h'.1, h'.2.1⟩)]
  by_cases h1 : s.length = 65
  · obtain ⟨b, r, rfl⟩ : ∃ b r, s = b :: r := by
      cases s with
      | nil => cases h1
      | cons b r => exact ⟨b, r, rfl⟩
    by_cases h2 : b = 4
    · have hon : Po.of (b :: r) = if (Po.mk (xOf (b :: r)) (yOf (b :: r)) false).on = true then some ⟨xOf (b :: r), yOf (b :: r), false⟩ else none := by
        unfold Po.of
        rw [if_neg h0]
        by_cases h : (Po.mk (xOf (b :: r)) (yOf (b :: r)) false).on = true
        · rw [if_pos h, if_pos ⟨h1, by rw [h2]; rfl, (on_lt h).1, (on_lt h).2, h⟩]
        · rw [if_neg h, if_neg (fun h' => h h'.2.2.2.2)]
      rw [hon]
      clear hno hon
      have EX : Hid ((⟨(b :: r).toArray⟩ : ByteArray).extract 1 33 = ⟨(((b :: r).drop 1).take 32).toArray⟩) := Lib.hid (ext_ba (b :: r) 1 32)
      have EY : Hid ((⟨(b :: r).toArray⟩ : ByteArray).extract 33 65 = ⟨((b :: r).drop 33).toArray⟩) := Lib.hid (by
        have := ext_ba (b :: r) 33 32
        rwa [List.take_of_length_le (by rw [List.length_drop]; omega)] at this)
      have HZ : Hid ((⟨(b :: r).toArray⟩ : ByteArray).size = 65) := Lib.hid (by rw [hsz, h1])
      have hlx : (((b :: r).drop 1).take 32).length = 32 := by rw [List.length_take, List.length_drop]; omega
      have hly : ((b :: r).drop 33).length = 32 := by rw [List.length_drop]; omega
      have e256 : (256 : Nat) ^ 32 = W256 := by decide +kernel
      have HUX : Hid (xOf (b :: r) < W256) := Lib.hid (by have := bv_lt (((b :: r).drop 1).take 32); rw [hlx, e256] at this; exact this)
      have HUY : Hid (yOf (b :: r) < W256) := Lib.hid (by have := bv_lt ((b :: r).drop 33); rw [hly, e256] at this; exact this)
      have HRX : Hid (∀ w, Calls Try.prog 32 #[.string ⟨(((b :: r).drop 1).take 32).toArray⟩] w fun e w' => ∃ v', e = .returned v' ∧ Nr w w' v' (xOf (b :: r))) := Lib.hid (fun w => read_any _ (by rw [hlx]; decide) w)
      have HRY : Hid (∀ w, Calls Try.prog 32 #[.string ⟨((b :: r).drop 33).toArray⟩] w fun e w' => ∃ v', e = .returned v' ∧ Nr w w' v' (yOf (b :: r))) := Lib.hid (fun w => read_any _ (by rw [hly]; decide) w)
      have HON := Lib.hid (fun w => ron_any ⟨xOf (b :: r), yOf (b :: r), false⟩ ⟨HUX.out, HUY.out⟩ w)
      exact rof_on _ _ _ _ _ _ f0 HZ (by rw [hsz, h1]; decide) h2 EX EY HUX HUY HRX HRY HON w
    · rw [hno (fun h => h2 (by simpa using h.2))]
      have hbn : ((b.toNat : Int) != 4) = true := by
        have : b.toNat ≠ 4 := fun h => h2 (UInt8.toNat_inj.1 h)
        simp
        omega
      exact rof_head _ b f0 (by rw [hsz, h1]) (by rw [hsz, h1]; decide) rfl hbn w
  · rw [hno (fun h => h1 h.1)]
    have hn : (((⟨s.toArray⟩ : ByteArray).size : Int) != 65) = true := by rw [hsz]; simp; omega
    exact rof_len _ f0 hn w
end Go.Proofs.Ytglmmodkflkkkaa.Ref
