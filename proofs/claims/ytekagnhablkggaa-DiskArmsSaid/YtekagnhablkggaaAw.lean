/- DiskArms' walk: what is armed goes off in just that change. Conditions: that the numbers are int64, and the texts' lengths. -/
import Derived.Test.YtekagnhablkggaaAa
set_option linter.unusedVariables false
set_option linter.unusedSimpArgs false
set_option maxRecDepth 100000
namespace Go.Proofs.Ytekagnhablkggaa
open Go.RowKit Go.Sort

set_option maxHeartbeats 16000000 in
theorem arms_none (vf vo : Value) (l : List ByteArray) (o : Op) (w : World) (h : StrIn w vf l) (hn : newE l ≠ 0) :
    Calls Try.prog 6 #[vf, vo, .agg #[.int .i64 o.on, .int .i64 o.kind, .int .i64 o.a, .int .i64 o.b, .string o.s]] w fun e w' => e = .returned (.bool true) ∧ Below w.heap.size w w' := by
  have h' : StrIn (w.alloc (.cells #[.int .i64 o.on, .int .i64 o.kind, .int .i64 o.a, .int .i64 o.b, .string o.s] 35)) vf l := h.below (by go_grown)
  have HM := Lib.hid (made_none vf (.slice none 0 0) l _ h' hn)
  have HN := Lib.hid (rnew_no vf l _ h' hn)
  obtain ⟨m, hm⟩ : ∃ m, newE l = m + 1 := ⟨newE l - 1, by omega⟩
  rw [hm] at HN
  have ht : (((m + 1 : Nat) : Int) != 0) = true := by simp; omega
  clear hm hn h h'
  go_enter Try.func6, Try.ntmps6
  go_wp2_with fail
  refine HM.out.mono ?_
  rintro e w' ⟨rfl, rfl⟩
  go_wp2_with fail
  refine HN.out.mono ?_
  rintro e w' ⟨rfl, rfl⟩
  go_wp2_with fail
  refine (fixed_any _).mono ?_
  rintro e w2 ⟨rfl, hb⟩
  have HB : Hid (Below w.heap.size w w2) := Lib.hid ((show Below w.heap.size w (w.alloc (.cells #[.int .i64 o.on, .int .i64 o.kind, .int .i64 o.a, .int .i64 o.b, .string o.s] 35)) by go_grown).trans (hb.mono (by rw [World.size_alloc]; omega)))
  clear hb
  go_wp2_with fail
  go_ret
  exact ⟨rfl, HB.out⟩
theorem Cf.one_from {w W w1 : World} {p : Fp} {S : St} (h : Own W.heap.size W w1 p S) (hb : Below w.heap.size w W) : Cf w.heap.size w w1 [(p.b, S)] [] :=
  Cf.one ⟨h.1, hb.trans (h.2.1.mono hb.size), fun k hk => Nat.le_trans hb.size (h.2.2 k hk)⟩ (Nat.le_refl _)
set_option maxHeartbeats 32000000 in
theorem arms_some (vf : Value) (b0 o0 c0 : Nat) (l : List ByteArray) (ops : List Op) (hok : ∀ x ∈ ops, OpOk x) (hlen : ops.length ≤ 140737488355328) (o : Op) (ho1 : OpOk o) (w : World) (h : StrIn w vf l) (n0 : Nat) (hn0 : n0 = ops.length)
    (hblt : ops ≠ [] → b0 < w.heap.size) (hcs : ∀ i (hi : i < ops.length), w.cell? ⟨b0, o0 + i * 5, none⟩ = some (.int .i64 ops[i].on) ∧ w.cell? ⟨b0, o0 + i * 5 + 1, none⟩ = some (.int .i64 ops[i].kind) ∧ w.cell? ⟨b0, o0 + i * 5 + 2, none⟩ = some (.int .i64 ops[i].a) ∧ w.cell? ⟨b0, o0 + i * 5 + 3, none⟩ = some (.int .i64 ops[i].b) ∧ w.cell? ⟨b0, o0 + i * 5 + 4, none⟩ = some (.string ops[i].s))
    (ad : Option Addr) (had : ops ≠ [] → ad = some ⟨b0, o0, none⟩) (hn : newE l = 0) :
    Calls Try.prog 6 #[vf, .slice ad n0 c0, .agg #[.int .i64 o.on, .int .i64 o.kind, .int .i64 o.a, .int .i64 o.b, .string o.s]] w fun e w' => e = .returned (.bool true) ∧ Below w.heap.size w w' := by
  have h' : StrIn (w.alloc (.cells #[.int .i64 o.on, .int .i64 o.kind, .int .i64 o.a, .int .i64 o.b, .string o.s] 35)) vf l := h.below (by go_grown)
  obtain ⟨x, y, rfl, hx, hy, hM⟩ := made_any vf (.slice none 0 0) l [] (by simp) (by simp) _ h' ⟨none, 0, rfl, fun h => absurd rfl h⟩ hn
  have HM := Lib.hid hM
  have CA : Hid (Calm (St.new x.data.toList y.data.toList)) := Lib.hid (Calm.new _ _)
  have HOK := Lib.hid hok
  have HBLT := Lib.hid hblt
  have HC := Lib.hid hcs
  have HAD := Lib.hid had
  obtain ⟨_, _, _, _, ha1, ha2, hb1, hb2, _⟩ := ho1
  clear hM hok h h' hn hblt hcs had
  simp only [List.foldl_nil] at HM
  generalize St.new x.data.toList y.data.toList = S at HM CA
  go_enter Try.func6, Try.ntmps6
  go_wp2_with fail
  refine HM.out.mono ?_
  rintro e w1 ⟨p, rfl, hO⟩
  have C1 := Lib.hid (Cf.one_from hO (show Below w.heap.size w (w.alloc (.cells #[.int .i64 o.on, .int .i64 o.kind, .int .i64 o.a, .int .i64 o.b, .string o.s] 35)) by go_grown))
  have A1 : Hid (Bk 35 w1 w.heap.size #[.int .i64 o.on, .int .i64 o.kind, .int .i64 o.a, .int .i64 o.b, .string o.s]) := Lib.hid ((Bk.new rfl).below hO.2.1)
  clear hO HM
  rw [show p.v = .pointer (some ⟨p.b, 0, none⟩) from rfl]
  generalize p.b = b at C1 ⊢
  obtain ⟨q, hq, hql⟩ : ∃ q : Nat, o.a % 8 = (q : Int) ∧ q ≤ 7 := ⟨(o.a % 8).toNat, by omega, by omega⟩
  obtain ⟨k, hk, hkl⟩ : ∃ k : Nat, o.b % 10000 = (k : Int) ∧ k ≤ 9999 := ⟨(o.b % 10000).toNat, by omega, by omega⟩
  have P1 : Hid (∀ d os, Calls Try.prog 10 #[.int .i64 o.a, .int .i64 8] (grow (redrawn w1 d) os) fun e w'' => e = .returned (.int .i64 (q : Int)) ∧ ∃ p : Regrown, w'' = grow (redrawn w1 p.d) p.os) := Lib.hid fun d os => Calls.grown (hq ▸ place_any o.a 8 (by omega) (by omega) ha1 ha2 _)
  have P2 : Hid (∀ d os, Calls Try.prog 10 #[.int .i64 o.b, .int .i64 10000] (grow (redrawn w1 d) os) fun e w'' => e = .returned (.int .i64 (k : Int)) ∧ ∃ p : Regrown, w'' = grow (redrawn w1 p.d) p.os) := Lib.hid fun d os => Calls.grown (hk ▸ place_any o.b 10000 (by omega) (by omega) hb1 hb2 _)
  clear hq hk ha1 ha2 hb1 hb2
  have k2 := cell_regrown (A1.out.cell 2)
  have k3 := cell_regrown (A1.out.cell 3)
  have hw1 : IntKind.i64.wrap (1 + (q : Int)) = 1 + (q : Int) := IntWalk.i64_in _ (by omega)
  have HL := Lib.hid hlen
  have HN0 := Lib.hid hn0
  clear hlen hn0
  go_wp2_with fail
  refine wp_region_quiet_below mixed (by kernel_rfl) ?_
  repeat (first | go_big_quiet_step (first | (with_reducible exact P1.out _ _) | (with_reducible exact P2.out _ _)) | quiet_step (first | (with_reducible exact P1.out _ _) | (with_reducible exact P2.out _ _)))
  refine wpQuiet_nil ?_
  intro _ hw'
  obtain ⟨⟨dq, osq⟩, hw''⟩ := hw'
  subst hw''
  have C2 := Lib.hid (C1.out.down (below_regrown w1 dq osq))
  clear k2 k3 hw1 P1 P2 C1 A1
  generalize grow (redrawn w1 dq) osq = w2 at C2 ⊢
  go_wp2_with fail
  refine (C_clone (i := 0) C2.out rfl).mono ?_
  rintro e w3 ⟨c, rfl, hc, -⟩
  have C3 : Hid (Cf w.heap.size w w3 [(b, S), (c, S)] []) := Lib.hid hc
  clear hc C2
  go_wp2_with fail
  refine (C_arm (i := 0) C3.out rfl (1 + (q : Int)) k (by omega) (by omega)).mono ?_
  rintro e w4 ⟨rfl, hc, -⟩
  have hae : S.arm (1 + (q : Int)) (k : Int) = (0, S.power false (1 + q) k) := by
    unfold St.arm
    rw [CA.out.1]
    simp only [Bool.false_eq_true, if_false]
    rw [if_neg (by omega)]
    congr 2
  rw [hae] at hc ⊢
  have C4 : Hid (Cf w.heap.size w w4 [(b, S.power false (1 + q) k), (c, S)] []) := Lib.hid hc
  clear hc C3 hae
  go_wp2_with fail
  have eq1 : (1 + (q : Int)) = ((1 + q : Nat) : Int) := by omega
  rw [eq1]
  clear eq1
  obtain ⟨m0, hm0, hm1, hm8⟩ : ∃ m0, m0 = 1 + q ∧ 1 ≤ m0 ∧ m0 ≤ 8 := ⟨_, rfl, by omega, by omega⟩
  rw [← hm0] at C4 ⊢
  clear hm0 hql
  go_loopw [10, 13] (fun nv iv wr => ∃ i m : Nat, ∃ Sx : St, i ≤ n0 ∧ iv = .int .i64 (i : Int) ∧ nv = .int .i64 (m : Int) ∧ 1 ≤ m ∧ m ≤ 8 ∧ Hid (Calm Sx) ∧ Hid (Cf w.heap.size w wr [(b, Sx.power false m k), (c, Sx)] [])) (fun _ i _ => n0 - (intOf i).toNat)
  case atStart => exact ⟨0, m0, S, Nat.zero_le _, rfl, rfl, hm1, hm8, CA, C4⟩
  case round =>
    obtain ⟨i, m, Sx, hi, rfl, rfl, hm1', hm8', HCx, JC⟩ := hrel
    clear CA C4 hm1 hm8
    by_cases hlt : i < n0
    · have hilt : i < ops.length := by rw [← HN0.out]; exact hlt
      have hib : i ≤ 140737488355327 := by have := HL.out; omega
      obtain ⟨op, hop⟩ : ∃ op, ops[i]'hilt = op := ⟨_, rfl⟩
      have hcs := HC.out i hilt
      rw [hop] at hcs
      have hokp := HOK.out op (hop ▸ List.getElem_mem hilt)
      have hne0 : ops ≠ [] := fun e => by rw [e] at hilt; simp at hilt
      have hadd := HAD.out hne0
      subst hadd
      have e : ∀ k, wr.cell? ⟨b0, k, none⟩ = w.cell? ⟨b0, k, none⟩ := fun k => JC.out.below.cell (p := ⟨b0, k, none⟩) (HBLT.out hne0)
      simp only [← e] at hcs
      obtain ⟨c0', c1', c2', c3', c4'⟩ := hcs
      clear e hop hne0
      have hix := index23 b0 o0 c0 n0 i hlt
      obtain ⟨_, _, _, _, _, _, _, _, hsz⟩ := hokp
      have HSZ : Hid (op.s.size ≤ 140737488355328) := Lib.hid (by omega)
      clear hsz
      have C5 : Hid (Cf w.heap.size w (wr.alloc (.cells #[.int .i64 op.on, .int .i64 op.kind, .int .i64 op.a, .int .i64 op.b, .string op.s] 35)) [(b, Sx.power false m k), (c, Sx)] [wr.heap.size]) := Lib.hid (JC.out.prot (by go_grown) (Nat.le_refl _) (by rw [World.size_alloc]; omega))
      have O5 : Hid (Bk 35 (wr.alloc (.cells #[.int .i64 op.on, .int .i64 op.kind, .int .i64 op.a, .int .i64 op.b, .string op.s] 35)) wr.heap.size #[.int .i64 op.on, .int .i64 op.kind, .int .i64 op.a, .int .i64 op.b, .string op.s]) := Lib.hid (Bk.new rfl)
      by_cases k1 : op.kind = 1
      · have t1 : (op.kind == 1) = true := by simp [k1]
        clear k1
        rcases arm_append HCx.out op.a op.s.data.toList m k hm1' with ⟨e, he0, he2, hax, had⟩ | ⟨hm, Sy, hcy, hax, had⟩ | ⟨hm, Sy, hcy, hax, had⟩
        · have HAX := Lib.hid hax
          have HAD2 := Lib.hid had
          have tn0 : ((e : Int) == 0) = false := by simp; omega
          clear hax had
          have tn2 : ((e : Int) == 2) = false := by simp; omega
          have tnn : ((e : Int) != (e : Int)) = false := by simp
          clear he0 he2
          go_wp2_with fail
          refine rE b c wr.heap.size op.a op.s (fun w6 v => v = .int .i64 (e : Int) ∧ Cf w.heap.size w w6 [(b, Sx.power false m k), (c, Sx)] [wr.heap.size] ∧ Bk 35 w6 wr.heap.size #[.int .i64 op.on, .int .i64 op.kind, .int .i64 op.a, .int .i64 op.b, .string op.s]) (wr.alloc (.cells #[.int .i64 op.on, .int .i64 op.kind, .int .i64 op.a, .int .i64 op.b, .string op.s] 35))
            (O5.out.cell 2) (Lib.hid fun w6 v h => h.2.2.cell 2) (O5.out.cell 4) (Lib.hid fun w6 v h => h.2.2.cell 4)
            (Lib.hid (by
              have C5d : Cf w.heap.size w (wr.alloc (.cells #[.int .i64 op.on, .int .i64 op.kind, .int .i64 op.a, .int .i64 op.b, .string op.s] 35)).drew [(b, Sx.power false m k), (c, Sx)] [wr.heap.size] := C5.out.down ⟨rfl, rfl, rfl, Nat.le_refl _, fun _ _ => rfl⟩
              refine (C_append (i := 0) C5d rfl op.a op.s HSZ.out).mono ?_
              rintro e' w6 ⟨rfl, hc, hkp⟩
              rw [HAD2.out] at hc ⊢
              exact ⟨_, rfl, rfl, hc, (hkp _ (by simp)).trans O5.out⟩)) ?_
          rintro v w6 ⟨rfl, hc, ho⟩
          have C6 := Lib.hid hc
          have O6 := Lib.hid ho
          clear hc ho C5 O5
          simp only [rEO, findR, Try.f6, Option.bind_some, Option.or, Option.getD, Nat.reduceEqDiff, if_true, if_false, reduceIte, List.drop_succ_cons, List.drop_zero]
          go_wp2_with fail
          refine (C_append (i := 1) C6.out rfl op.a op.s HSZ.out).mono ?_
          rintro e' w7 ⟨rfl, hc, -⟩
          rw [HAX.out] at hc ⊢
          have C7 : Hid (Cf w.heap.size w w7 [(b, Sx.power false m k), (c, Sx)] [wr.heap.size]) := Lib.hid hc
          clear hc C6 O6 HAX HAD2
          go_wp2_with fail
          refine (C_files (i := 0) C7.out rfl).mono ?_
          rintro e w8 ⟨⟨v, rfl, ht⟩, hb⟩
          have C8 := Lib.hid (C7.out.down hb)
          have T8 := Lib.hid ht
          clear ht hb C7
          go_wp2_with fail
          refine (C_files (i := 1) C8.out rfl).mono ?_
          rintro e w9 ⟨⟨v', rfl, ht⟩, hb⟩
          have C9 := Lib.hid (C8.out.down hb)
          have T9 := Lib.hid (T8.out.below hb)
          have U9 := Lib.hid ht
          clear ht hb C8 T8
          go_wp2_with fail
          refine (same_two w9 _ _ _ _ _ _ T9.out U9.out).mono ?_
          rintro e w10 ⟨rfl, hb⟩
          have C10 : Hid (Cf w.heap.size w w10 [(b, Sx.power false m k), (c, Sx)] []) := Lib.hid (C9.out.down hb).unprot
          clear hb C9 T9 U9
          go_wp2_with fail
          go_roundw
          case rel => exact ⟨i + 1, m, Sx, by omega, by go_num, by go_num, by omega, by omega, HCx, C10⟩
          case measure => simp [intOf]; omega
        · have HAX := Lib.hid hax
          have HAD2 := Lib.hid had
          have HCY := Lib.hid hcy
          clear hax had hcy
          go_wp2_with fail
          refine rE b c wr.heap.size op.a op.s (fun w6 v => v = .int .i64 2 ∧ Cf w.heap.size w w6 [(b, Sy.lose k), (c, Sx)] [wr.heap.size] ∧ Bk 35 w6 wr.heap.size #[.int .i64 op.on, .int .i64 op.kind, .int .i64 op.a, .int .i64 op.b, .string op.s]) (wr.alloc (.cells #[.int .i64 op.on, .int .i64 op.kind, .int .i64 op.a, .int .i64 op.b, .string op.s] 35))
            (O5.out.cell 2) (Lib.hid fun w6 v h => h.2.2.cell 2) (O5.out.cell 4) (Lib.hid fun w6 v h => h.2.2.cell 4)
            (Lib.hid (by
              have C5d : Cf w.heap.size w (wr.alloc (.cells #[.int .i64 op.on, .int .i64 op.kind, .int .i64 op.a, .int .i64 op.b, .string op.s] 35)).drew [(b, Sx.power false m k), (c, Sx)] [wr.heap.size] := C5.out.down ⟨rfl, rfl, rfl, Nat.le_refl _, fun _ _ => rfl⟩
              refine (C_append (i := 0) C5d rfl op.a op.s HSZ.out).mono ?_
              rintro e' w6 ⟨rfl, hc, hkp⟩
              rw [HAD2.out] at hc ⊢
              exact ⟨_, rfl, rfl, hc, (hkp _ (by simp)).trans O5.out⟩)) ?_
          rintro v w6 ⟨rfl, hc, ho⟩
          have C6 := Lib.hid hc
          have O6 := Lib.hid ho
          clear hc ho C5 O5
          simp only [rEO, findR, Try.f6, Option.bind_some, Option.or, Option.getD, Nat.reduceEqDiff, if_true, if_false, reduceIte, List.drop_succ_cons, List.drop_zero]
          go_wp2_with fail
          refine (C_append (i := 1) C6.out rfl op.a op.s HSZ.out).mono ?_
          rintro e' w7 ⟨rfl, hc, -⟩
          rw [HAX.out] at hc ⊢
          have C7 : Hid (Cf w.heap.size w w7 [(b, Sy.lose k), (c, Sy)] [wr.heap.size]) := Lib.hid hc
          clear hc C6 O6 HAX HAD2
          go_wp2_with fail
          refine (C_crash (i := 1) C7.out rfl k (by omega)).mono ?_
          rintro e w7x ⟨rfl, hc, -⟩
          rw [HCY.out.crash_eq] at hc
          have C7x : Hid (Cf w.heap.size w w7x _ _) := Lib.hid hc
          clear hc C7
          go_wp2_with fail
          refine (C_dead (i := 0) C7x.out rfl).mono ?_
          rintro e w' ⟨rfl, rfl⟩
          rw [show (St.lose _ k).gone = true from rfl]
          go_wp2_with fail
          refine (C_files (i := 0) C7x.out rfl).mono ?_
          rintro e w8 ⟨⟨v, rfl, ht⟩, hb⟩
          have C8 := Lib.hid (C7x.out.down hb)
          have T8 := Lib.hid ht
          clear ht hb C7x
          go_wp2_with fail
          refine (C_files (i := 1) C8.out rfl).mono ?_
          rintro e w9 ⟨⟨v', rfl, ht⟩, hb⟩
          have C9 := Lib.hid (C8.out.down hb)
          have T9 := Lib.hid (T8.out.below hb)
          have U9 := Lib.hid ht
          clear ht hb C8 T8
          go_wp2_with fail
          refine (same_two w9 _ _ _ _ _ _ T9.out U9.out).mono ?_
          rintro e w10 ⟨rfl, hb⟩
          have C10 := Lib.hid (C9.out.down hb)
          clear hb C9 T9 U9
          go_wp2_with fail
          refine (fixed_any _).mono ?_
          rintro e w15 ⟨rfl, hb⟩
          have HB : Hid (Below w.heap.size w w15) := Lib.hid (C10.out.below.trans (hb.mono C10.out.below.size))
          clear hb
          go_wp2_with fail
          go_ret
          exact ⟨rfl, HB.out⟩
        · have HAX := Lib.hid hax
          have HAD2 := Lib.hid had
          have HCY := Lib.hid hcy
          clear hax had hcy
          go_wp2_with fail
          refine rE b c wr.heap.size op.a op.s (fun w6 v => v = .int .i64 0 ∧ Cf w.heap.size w w6 [(b, Sy.power false (m - 1) k), (c, Sx)] [wr.heap.size] ∧ Bk 35 w6 wr.heap.size #[.int .i64 op.on, .int .i64 op.kind, .int .i64 op.a, .int .i64 op.b, .string op.s]) (wr.alloc (.cells #[.int .i64 op.on, .int .i64 op.kind, .int .i64 op.a, .int .i64 op.b, .string op.s] 35))
            (O5.out.cell 2) (Lib.hid fun w6 v h => h.2.2.cell 2) (O5.out.cell 4) (Lib.hid fun w6 v h => h.2.2.cell 4)
            (Lib.hid (by
              have C5d : Cf w.heap.size w (wr.alloc (.cells #[.int .i64 op.on, .int .i64 op.kind, .int .i64 op.a, .int .i64 op.b, .string op.s] 35)).drew [(b, Sx.power false m k), (c, Sx)] [wr.heap.size] := C5.out.down ⟨rfl, rfl, rfl, Nat.le_refl _, fun _ _ => rfl⟩
              refine (C_append (i := 0) C5d rfl op.a op.s HSZ.out).mono ?_
              rintro e' w6 ⟨rfl, hc, hkp⟩
              rw [HAD2.out] at hc ⊢
              exact ⟨_, rfl, rfl, hc, (hkp _ (by simp)).trans O5.out⟩)) ?_
          rintro v w6 ⟨rfl, hc, ho⟩
          have C6 := Lib.hid hc
          have O6 := Lib.hid ho
          clear hc ho C5 O5
          simp only [rEO, findR, Try.f6, Option.bind_some, Option.or, Option.getD, Nat.reduceEqDiff, if_true, if_false, reduceIte, List.drop_succ_cons, List.drop_zero]
          go_wp2_with fail
          refine (C_append (i := 1) C6.out rfl op.a op.s HSZ.out).mono ?_
          rintro e' w7 ⟨rfl, hc, -⟩
          rw [HAX.out] at hc ⊢
          have C7 : Hid (Cf w.heap.size w w7 [(b, Sy.power false (m - 1) k), (c, Sy)] [wr.heap.size]) := Lib.hid hc
          clear hc C6 O6 HAX HAD2
          have EM : Hid ((.int .i64 ((m : Int) - 1) : Value) = .int .i64 ((m - 1 : Nat) : Int)) := Lib.hid (by congr 1; omega)
          go_wp2_with fail
          refine (C_files (i := 0) C7.out rfl).mono ?_
          rintro e w8 ⟨⟨v, rfl, ht⟩, hb⟩
          have C8 := Lib.hid (C7.out.down hb)
          have T8 := Lib.hid ht
          clear ht hb C7
          go_wp2_with fail
          refine (C_files (i := 1) C8.out rfl).mono ?_
          rintro e w9 ⟨⟨v', rfl, ht⟩, hb⟩
          have C9 := Lib.hid (C8.out.down hb)
          have T9 := Lib.hid (T8.out.below hb)
          have U9 := Lib.hid ht
          clear ht hb C8 T8
          go_wp2_with fail
          refine (same_two w9 _ _ _ _ _ _ T9.out U9.out).mono ?_
          rintro e w10 ⟨rfl, hb⟩
          have C10 : Hid (Cf w.heap.size w w10 [(b, Sy.power false (m - 1) k), (c, Sy)] []) := Lib.hid (C9.out.down hb).unprot
          clear hb C9 T9 U9
          go_wp2_with fail
          go_roundw
          case rel => exact ⟨i + 1, m - 1, Sy, by omega, by go_num, EM.out, by omega, by omega, HCY, C10⟩
          case measure => simp [intOf]; omega
      · have t1 : (op.kind == 1) = false := by simpa using k1
        clear k1
        by_cases k2 : op.kind = 2
        · have t2 : (op.kind == 2) = true := by simp [k2]
          clear k2
          rcases arm_sync HCx.out m k hm1' with ⟨hm, had⟩ | ⟨hm, Sy, hcy, hax, had⟩
          · have HAD2 := Lib.hid had
            clear had
            go_wp2_with fail
            refine (C_sync (i := 0) C5.out rfl).mono ?_
            rintro e' w6 ⟨rfl, hc, -⟩
            rw [HAD2.out] at hc ⊢
            have C6 : Hid (Cf w.heap.size w w6 [(b, Sx.lose k), (c, Sx)] [wr.heap.size]) := Lib.hid hc
            clear hc C5 O5 HAD2
            go_wp2_with fail
            refine (C_crash (i := 1) C6.out rfl k (by omega)).mono ?_
            rintro e w7 ⟨rfl, hc, -⟩
            rw [HCx.out.crash_eq] at hc
            have C7 : Hid (Cf w.heap.size w w7 _ _) := Lib.hid hc
            clear hc C6
            go_wp2_with fail
            refine (C_dead (i := 0) C7.out rfl).mono ?_
            rintro e w' ⟨rfl, rfl⟩
            rw [show (St.lose _ k).gone = true from rfl]
            go_wp2_with fail
            refine (C_files (i := 0) C7.out rfl).mono ?_
            rintro e w8 ⟨⟨v, rfl, ht⟩, hb⟩
            have C8 := Lib.hid (C7.out.down hb)
            have T8 := Lib.hid ht
            clear ht hb C7
            go_wp2_with fail
            refine (C_files (i := 1) C8.out rfl).mono ?_
            rintro e w9 ⟨⟨v', rfl, ht⟩, hb⟩
            have C9 := Lib.hid (C8.out.down hb)
            have T9 := Lib.hid (T8.out.below hb)
            have U9 := Lib.hid ht
            clear ht hb C8 T8
            go_wp2_with fail
            refine (same_two w9 _ _ _ _ _ _ T9.out U9.out).mono ?_
            rintro e w10 ⟨rfl, hb⟩
            have C10 := Lib.hid (C9.out.down hb)
            clear hb C9 T9 U9
            go_wp2_with fail
            refine (fixed_any _).mono ?_
            rintro e w15 ⟨rfl, hb⟩
            have HB : Hid (Below w.heap.size w w15) := Lib.hid (C10.out.below.trans (hb.mono C10.out.below.size))
            clear hb
            go_wp2_with fail
            go_ret
            exact ⟨rfl, HB.out⟩
          · have HAX := Lib.hid hax
            have HAD2 := Lib.hid had
            have HCY := Lib.hid hcy
            clear hax had hcy
            go_wp2_with fail
            refine (C_sync (i := 0) C5.out rfl).mono ?_
            rintro e' w6 ⟨rfl, hc, -⟩
            rw [HAD2.out] at hc ⊢
            have C6 : Hid (Cf w.heap.size w w6 [(b, Sy.power false (m - 1) k), (c, Sx)] [wr.heap.size]) := Lib.hid hc
            clear hc C5 O5 HAD2
            go_wp2_with fail
            refine (C_sync (i := 1) C6.out rfl).mono ?_
            rintro e' w7 ⟨rfl, hc, -⟩
            rw [HAX.out] at hc ⊢
            have C7 : Hid (Cf w.heap.size w w7 [(b, Sy.power false (m - 1) k), (c, Sy)] [wr.heap.size]) := Lib.hid hc
            clear hc C6 HAX
            have EM : Hid ((.int .i64 ((m : Int) - 1) : Value) = .int .i64 ((m - 1 : Nat) : Int)) := Lib.hid (by congr 1; omega)
            go_wp2_with fail
            refine (C_files (i := 0) C7.out rfl).mono ?_
            rintro e w8 ⟨⟨v, rfl, ht⟩, hb⟩
            have C8 := Lib.hid (C7.out.down hb)
            have T8 := Lib.hid ht
            clear ht hb C7
            go_wp2_with fail
            refine (C_files (i := 1) C8.out rfl).mono ?_
            rintro e w9 ⟨⟨v', rfl, ht⟩, hb⟩
            have C9 := Lib.hid (C8.out.down hb)
            have T9 := Lib.hid (T8.out.below hb)
            have U9 := Lib.hid ht
            clear ht hb C8 T8
            go_wp2_with fail
            refine (same_two w9 _ _ _ _ _ _ T9.out U9.out).mono ?_
            rintro e w10 ⟨rfl, hb⟩
            have C10 : Hid (Cf w.heap.size w w10 [(b, Sy.power false (m - 1) k), (c, Sy)] []) := Lib.hid (C9.out.down hb).unprot
            clear hb C9 T9 U9
            go_wp2_with fail
            go_roundw
            case rel => exact ⟨i + 1, m - 1, Sy, by omega, by go_num, EM.out, by omega, by omega, HCY, C10⟩
            case measure => simp [intOf]; omega
        · have t2 : (op.kind == 2) = false := by simpa using k2
          clear k2
          by_cases k3 : op.kind = 3
          · have t3 : (op.kind == 3) = true := by simp [k3]
            clear k3
            rcases arm_cut HCx.out op.a op.b m k hm1' with ⟨e, he0, he2, hax, had⟩ | ⟨hm, had⟩ | ⟨hm, Sy, hcy, hax, had⟩
            · have HAX := Lib.hid hax
              have HAD2 := Lib.hid had
              have tn0 : ((e : Int) == 0) = false := by simp; omega
              clear hax had
              have tn2 : ((e : Int) == 2) = false := by simp; omega
              have tn3 : ((e : Int) != 2) = true := by simp; omega
              have tnn : ((e : Int) != (e : Int)) = false := by simp
              clear he0 he2
              go_wp2_with fail
              refine (C_cut (i := 0) C5.out rfl op.a op.b).mono ?_
              rintro e' w6 ⟨rfl, hc, hkp⟩
              rw [HAD2.out] at hc ⊢
              have C6 : Hid (Cf w.heap.size w w6 [(b, Sx.power false m k), (c, Sx)] [wr.heap.size]) := Lib.hid hc
              have O6 : Hid (Bk 35 w6 wr.heap.size #[.int .i64 op.on, .int .i64 op.kind, .int .i64 op.a, .int .i64 op.b, .string op.s]) := Lib.hid ((hkp _ (by simp)).trans O5.out)
              clear hc hkp C5 O5 HAD2
              have z2 := O6.out.cell 2
              have z3 := O6.out.cell 3
              go_wp2_with fail
              refine (C_cut (i := 1) C6.out rfl op.a op.b).mono ?_
              rintro e' w7 ⟨rfl, hc, -⟩
              rw [HAX.out] at hc ⊢
              have C7 : Hid (Cf w.heap.size w w7 [(b, Sx.power false m k), (c, Sx)] [wr.heap.size]) := Lib.hid hc
              clear hc C6 O6 HAX z2 z3
              go_wp2_with fail
              refine (C_files (i := 0) C7.out rfl).mono ?_
              rintro e w8 ⟨⟨v, rfl, ht⟩, hb⟩
              have C8 := Lib.hid (C7.out.down hb)
              have T8 := Lib.hid ht
              clear ht hb C7
              go_wp2_with fail
              refine (C_files (i := 1) C8.out rfl).mono ?_
              rintro e w9 ⟨⟨v', rfl, ht⟩, hb⟩
              have C9 := Lib.hid (C8.out.down hb)
              have T9 := Lib.hid (T8.out.below hb)
              have U9 := Lib.hid ht
              clear ht hb C8 T8
              go_wp2_with fail
              refine (same_two w9 _ _ _ _ _ _ T9.out U9.out).mono ?_
              rintro e w10 ⟨rfl, hb⟩
              have C10 : Hid (Cf w.heap.size w w10 [(b, Sx.power false m k), (c, Sx)] []) := Lib.hid (C9.out.down hb).unprot
              clear hb C9 T9 U9
              go_wp2_with fail
              go_roundw
              case rel => exact ⟨i + 1, m, Sx, by omega, by go_num, by go_num, by omega, by omega, HCx, C10⟩
              case measure => simp [intOf]; omega
            · have HAD2 := Lib.hid had
              clear had
              go_wp2_with fail
              refine (C_cut (i := 0) C5.out rfl op.a op.b).mono ?_
              rintro e' w6 ⟨rfl, hc, hkp⟩
              rw [HAD2.out] at hc ⊢
              have C6 : Hid (Cf w.heap.size w w6 [(b, Sx.lose k), (c, Sx)] [wr.heap.size]) := Lib.hid hc
              clear hc hkp C5 O5 HAD2
              go_wp2_with fail
              refine (C_crash (i := 1) C6.out rfl k (by omega)).mono ?_
              rintro e w7 ⟨rfl, hc, -⟩
              rw [HCx.out.crash_eq] at hc
              have C7 : Hid (Cf w.heap.size w w7 _ _) := Lib.hid hc
              clear hc C6
              go_wp2_with fail
              refine (C_dead (i := 0) C7.out rfl).mono ?_
              rintro e w' ⟨rfl, rfl⟩
              rw [show (St.lose _ k).gone = true from rfl]
              go_wp2_with fail
              refine (C_files (i := 0) C7.out rfl).mono ?_
              rintro e w8 ⟨⟨v, rfl, ht⟩, hb⟩
              have C8 := Lib.hid (C7.out.down hb)
              have T8 := Lib.hid ht
              clear ht hb C7
              go_wp2_with fail
              refine (C_files (i := 1) C8.out rfl).mono ?_
              rintro e w9 ⟨⟨v', rfl, ht⟩, hb⟩
              have C9 := Lib.hid (C8.out.down hb)
              have T9 := Lib.hid (T8.out.below hb)
              have U9 := Lib.hid ht
              clear ht hb C8 T8
              go_wp2_with fail
              refine (same_two w9 _ _ _ _ _ _ T9.out U9.out).mono ?_
              rintro e w10 ⟨rfl, hb⟩
              have C10 := Lib.hid (C9.out.down hb)
              clear hb C9 T9 U9
              go_wp2_with fail
              refine (fixed_any _).mono ?_
              rintro e w15 ⟨rfl, hb⟩
              have HB : Hid (Below w.heap.size w w15) := Lib.hid (C10.out.below.trans (hb.mono C10.out.below.size))
              clear hb
              go_wp2_with fail
              go_ret
              exact ⟨rfl, HB.out⟩
            · have HAX := Lib.hid hax
              have HAD2 := Lib.hid had
              have HCY := Lib.hid hcy
              clear hax had hcy
              go_wp2_with fail
              refine (C_cut (i := 0) C5.out rfl op.a op.b).mono ?_
              rintro e' w6 ⟨rfl, hc, hkp⟩
              rw [HAD2.out] at hc ⊢
              have C6 : Hid (Cf w.heap.size w w6 [(b, Sy.power false (m - 1) k), (c, Sx)] [wr.heap.size]) := Lib.hid hc
              have O6 : Hid (Bk 35 w6 wr.heap.size #[.int .i64 op.on, .int .i64 op.kind, .int .i64 op.a, .int .i64 op.b, .string op.s]) := Lib.hid ((hkp _ (by simp)).trans O5.out)
              clear hc hkp C5 O5 HAD2
              have z2 := O6.out.cell 2
              have z3 := O6.out.cell 3
              go_wp2_with fail
              refine (C_cut (i := 1) C6.out rfl op.a op.b).mono ?_
              rintro e' w7 ⟨rfl, hc, -⟩
              rw [HAX.out] at hc ⊢
              have C7 : Hid (Cf w.heap.size w w7 [(b, Sy.power false (m - 1) k), (c, Sy)] [wr.heap.size]) := Lib.hid hc
              clear hc C6 O6 HAX z2 z3
              have EM : Hid ((.int .i64 ((m : Int) - 1) : Value) = .int .i64 ((m - 1 : Nat) : Int)) := Lib.hid (by congr 1; omega)
              go_wp2_with fail
              refine (C_files (i := 0) C7.out rfl).mono ?_
              rintro e w8 ⟨⟨v, rfl, ht⟩, hb⟩
              have C8 := Lib.hid (C7.out.down hb)
              have T8 := Lib.hid ht
              clear ht hb C7
              go_wp2_with fail
              refine (C_files (i := 1) C8.out rfl).mono ?_
              rintro e w9 ⟨⟨v', rfl, ht⟩, hb⟩
              have C9 := Lib.hid (C8.out.down hb)
              have T9 := Lib.hid (T8.out.below hb)
              have U9 := Lib.hid ht
              clear ht hb C8 T8
              go_wp2_with fail
              refine (same_two w9 _ _ _ _ _ _ T9.out U9.out).mono ?_
              rintro e w10 ⟨rfl, hb⟩
              have C10 : Hid (Cf w.heap.size w w10 [(b, Sy.power false (m - 1) k), (c, Sy)] []) := Lib.hid (C9.out.down hb).unprot
              clear hb C9 T9 U9
              go_wp2_with fail
              go_roundw
              case rel => exact ⟨i + 1, m - 1, Sy, by omega, by go_num, EM.out, by omega, by omega, HCY, C10⟩
              case measure => simp [intOf]; omega
          · have t3 : (op.kind == 3) = false := by simpa using k3
            clear k3
            have HD : Hid (Cf w.heap.size w (wr.alloc (.cells #[.int .i64 op.on, .int .i64 op.kind, .int .i64 op.a, .int .i64 op.b, .string op.s] 35)) [(b, Sx.power false m k), (c, Sx)] []) := Lib.hid C5.out.unprot
            clear C5 O5
            go_wp2_with fail
            go_roundw
            case rel => exact ⟨i + 1, m, Sx, by omega, by go_num, rfl, hm1', hm8', HCx, HD⟩
            case measure => simp [intOf]; omega
    · go_wp2_with fail
      refine (C_dead (i := 0) JC.out rfl).mono ?_
      rintro e w9 ⟨rfl, rfl⟩
      rw [show (Sx.power false m k).gone = false from rfl]
      go_wp2_with fail
      refine (fixed_any _).mono ?_
      rintro e w15 ⟨rfl, hb⟩
      have HB : Hid (Below w.heap.size w w15) := Lib.hid (JC.out.below.trans (hb.mono JC.out.below.size))
      clear hb
      go_wp2_with fail
      go_ret
      exact ⟨rfl, HB.out⟩
theorem arms_walk (vf vo : Value) (l : List ByteArray) (ops : List Op) (hok : ∀ x ∈ ops, OpOk x) (hlen : ops.length ≤ 140737488355328) (o : Op) (ho1 : OpOk o) (w : World) (h : StrIn w vf l) (ho : OpsIn w vo ops) :
    Calls Try.prog 6 #[vf, vo, .agg #[.int .i64 o.on, .int .i64 o.kind, .int .i64 o.a, .int .i64 o.b, .string o.s]] w fun e w' => e = .returned (.bool true) ∧ Below w.heap.size w w' := by
  by_cases hn : newE l = 0
  · obtain ⟨a, c, rfl, hc⟩ := ho
    by_cases hne : ops = []
    · subst hne
      exact arms_some vf 0 0 c l [] hok hlen o ho1 w h _ rfl (fun h => absurd rfl h) (fun i hi => by simp at hi) a (fun h => absurd rfl h) hn
    · obtain ⟨b, o', rfl, hlt, hcs⟩ := hc hne
      exact arms_some vf b o' c l ops hok hlen o ho1 w h _ rfl (fun _ => hlt) hcs _ (fun _ => rfl) hn
  · exact arms_none vf vo l o w h hn
end Go.Proofs.Ytekagnhablkggaa
