/- DiskDoes: a call on both disks tells the same, and leaves both in the same state; both show the same. Conditions: that the numbers are int64, and the text's length. -/
import Derived.Test.YtekagnhablkggaaBi
set_option linter.unusedVariables false
set_option linter.unusedSimpArgs false
set_option maxRecDepth 100000
namespace Go.Proofs.Ytekagnhablkggaa
open Go.RowKit Go.Sort

theorem set_same {α : Type} {l : List α} {i : Nat} {x : α} (h : l[i]? = some x) : l.set i x = l := by
  apply List.ext_getElem?
  intro j
  by_cases hj : j = i
  · subst hj
    rw [List.getElem?_set_self (List.getElem?_eq_some_iff.1 h).1, h]
  · rw [List.getElem?_set_ne (fun e => hj e.symm)]
theorem below_drew (w : World) : Below w.heap.size w w.drew := ⟨rfl, rfl, rfl, Nat.le_refl _, fun _ _ => rfl⟩
section
variable {B : Nat} {w0 w : World} {ds es : List (Nat × St)} {L : List Nat} {i b r : Nat} {S : St}
theorem Gf.files (h : Gf B w0 w ds es L) (hd : ds[i]? = some (b, S)) : ∀ w', Below w.heap.size w w' → Calls Try.prog 17 #[.pointer (some ⟨b, 0, none⟩)] w' fun e w'' => ∃ v', e = .returned v' ∧ RP w'' v' (S.f0, S.f1) ∧ Below w'.heap.size w' w'' := by
  intro w' hb
  obtain ⟨K, hC⟩ := (h.down hb).cf
  refine (C_files hC hd).mono ?_
  rintro e w'' ⟨⟨v, rfl, ht⟩, hb2⟩
  exact ⟨v, rfl, ht.mono (Nat.zero_le _), hb2⟩
theorem Gf.after (h : Gf B w0 w ds es L) (hd : ds[i]? = some (b, S)) (k : Int) (hk : k ≤ 9223372036854775807) : ∀ w', Below w.heap.size w w' → Calls Try.prog 18 #[.pointer (some ⟨b, 0, none⟩), .int .i64 k] w' fun e w'' => ∃ v', e = .returned v' ∧ RP w'' v' (S.after k) ∧ Below w'.heap.size w' w'' := by
  intro w' hb
  obtain ⟨K, hC⟩ := (h.down hb).cf
  refine (C_after hC hd k hk).mono ?_
  rintro e w'' ⟨⟨v, rfl, ht⟩, hb2⟩
  exact ⟨v, rfl, ht.mono (Nat.zero_le _), hb2⟩
theorem Gf.rfiles (h : Gf B w0 w ds es L) (he : es[i]? = some (r, S)) : ∀ w', Below w.heap.size w w' → Calls Try.prog 40 #[.pointer (some ⟨r, 0, none⟩)] w' fun e w'' => ∃ v', e = .returned v' ∧ RP w'' v' (S.f0, S.f1) ∧ Below w'.heap.size w' w'' := by
  intro w' hb
  obtain ⟨uv, kp, R⟩ := (h.down hb).rk he
  refine (files40 r S uv kp w' R).mono ?_
  rintro e w'' ⟨⟨v, rfl, ht⟩, hb2⟩
  exact ⟨v, rfl, ht.mono (Nat.zero_le _), hb2⟩
theorem Gf.rafter (h : Gf B w0 w ds es L) (he : es[i]? = some (r, S)) (k : Int) : ∀ w', Below w.heap.size w w' → Calls Try.prog 39 #[.pointer (some ⟨r, 0, none⟩), .int .i64 k] w' fun e w'' => ∃ v', e = .returned v' ∧ RP w'' v' (S.after k) ∧ Below w'.heap.size w' w'' := by
  intro w' hb
  obtain ⟨uv, kp, R⟩ := (h.down hb).rk he
  refine (after39 r S uv kp k w' R).mono ?_
  rintro e w'' ⟨⟨v, rfl, ht⟩, hb2⟩
  exact ⟨v, rfl, ht.mono (Nat.zero_le _), hb2⟩
theorem Gf.waits (h : Gf B w0 w ds es L) (hd : ds[i]? = some (b, S)) : ∀ w', Below w.heap.size w w' → Calls Try.prog 20 #[.pointer (some ⟨b, 0, none⟩)] w' fun e w'' => e = .returned (.int .i64 (S.un.length : Int)) ∧ Below w'.heap.size w' w'' := by
  intro w' hb
  obtain ⟨K, hC⟩ := (h.down hb).cf
  rw [St.un_len (hC.wf hd)]
  exact C_waiting hC hd
theorem Gf.deads (h : Gf B w0 w ds es L) (hd : ds[i]? = some (b, S)) : ∀ w', Below w.heap.size w w' → Calls Try.prog 27 #[.pointer (some ⟨b, 0, none⟩)] w' fun e w'' => e = .returned (.bool S.gone) ∧ Below w'.heap.size w' w'' := by
  intro w' hb
  obtain ⟨K, hC⟩ := (h.down hb).cf
  exact (C_dead hC hd).mono fun e w'' ⟨h1, h2⟩ => ⟨h1, h2 ▸ Below.refl _ _⟩
theorem Gf.sizes (h : Gf B w0 w ds es L) (hd : ds[i]? = some (b, S)) (f : Int) : ∀ w', Below w.heap.size w w' → Calls Try.prog 23 #[.pointer (some ⟨b, 0, none⟩), .int .i64 f] w' fun e w'' => e = .returned (.int .i64 (S.size f)) ∧ Below w'.heap.size w' w'' := by
  intro w' hb
  obtain ⟨K, hC⟩ := (h.down hb).cf
  exact (C_size hC hd f).mono fun e w'' ⟨h1, h2⟩ => ⟨h1, h2 ▸ Below.refl _ _⟩
theorem Gf.rsizes (h : Gf B w0 w ds es L) (he : es[i]? = some (r, S)) (f : Int) : ∀ w', Below w.heap.size w w' → Calls Try.prog 32 #[.pointer (some ⟨r, 0, none⟩), .int .i64 f] w' fun e w'' => e = .returned (.int .i64 (S.size f)) ∧ Below w'.heap.size w' w'' := by
  intro w' hb
  obtain ⟨uv, kp, R⟩ := (h.down hb).rk he
  exact (size32 r S uv kp f w' R).mono fun e w'' ⟨h1, h2⟩ => ⟨h1, h2 ▸ Below.refl _ _⟩
set_option maxHeartbeats 8000000 in
theorem tells_any (h : Gf B w0 w ds es L) (hd : ds[i]? = some (b, S)) (he : es[i]? = some (r, S)) :
    Calls Try.prog 14 #[.pointer (some ⟨b, 0, none⟩), .pointer (some ⟨r, 0, none⟩)] w fun e w' => e = .returned (.bool true) ∧ Below w.heap.size w w' := by
  have HX := Lib.hid (h.files hd)
  have HY := Lib.hid (h.rfiles he)
  have HW := Lib.hid (h.waits hd)
  have HD := Lib.hid (h.deads hd)
  obtain ⟨uv, kp, R⟩ := h.rk he
  obtain ⟨ua, uc, rfl⟩ := R.shape
  have KR := Lib.hid R.blk
  clear h hd he R
  generalize S.un.length = n at HW KR
  go_enter Try.func14, Try.ntmps14
  go_wp2_with fail
  refine tl1 b r n uc ua _ _ _ kp _ (S.f0, S.f1) w KR.out HX HY HW HD ?_
  intros
  rename_i hb
  have HB := Lib.hid hb
  clear hb HX HY HW HD KR
  go_wp2_with fail
  go_ret
  exact ⟨rfl, HB.out⟩
set_option maxHeartbeats 16000000 in
theorem plays1 (o : Op) (hok : OpOk o) (hk : o.kind = 1) (h : Gf B w0 w ds es L) (hd : ds[i]? = some (b, S)) (he : es[i]? = some (r, S)) :
    Calls Try.prog 13 #[.pointer (some ⟨b, 0, none⟩), .pointer (some ⟨r, 0, none⟩), .agg #[.int .i64 o.on, .int .i64 o.kind, .int .i64 o.a, .int .i64 o.b, .string o.s]] w fun e w' => e = .returned (.bool true) ∧ ∃ S', Gf B w0 w' (ds.set i (b, S')) (es.set i (r, S')) L ∧ Kept L w w' := by
  have hW1 : Below w.heap.size w (w.alloc (.cells #[.int .i64 o.on, .int .i64 o.kind, .int .i64 o.a, .int .i64 o.b, .string o.s] 35)) := by go_grown
  have G1 := Lib.hid (h.prot hW1 (Nat.le_refl _) (show w.heap.size < (w.alloc (.cells #[.int .i64 o.on, .int .i64 o.kind, .int .i64 o.a, .int .i64 o.b, .string o.s] 35)).heap.size by rw [World.size_alloc]; omega))
  have A1 : Hid (Bk 35 (w.alloc (.cells #[.int .i64 o.on, .int .i64 o.kind, .int .i64 o.a, .int .i64 o.b, .string o.s] 35)) w.heap.size #[.int .i64 o.on, .int .i64 o.kind, .int .i64 o.a, .int .i64 o.b, .string o.s]) := Lib.hid (Bk.new rfl)
  have KW := Lib.hid (show Kept L w (w.alloc (.cells #[.int .i64 o.on, .int .i64 o.kind, .int .i64 o.a, .int .i64 o.b, .string o.s] 35)) from fun k hk => Below.heap_alloc w _ k (h.lt k hk))
  have HD := Lib.hid hd
  have HE := Lib.hid he
  obtain ⟨_, _, _, _, ha1, ha2, hb1, hb2, hsz⟩ := hok
  have HS := Lib.hid hsz
  have HAB := Lib.hid (And.intro (And.intro ha1 ha2) (And.intro hb1 hb2))
  clear hW1 h hd he hsz ha1 ha2 hb1 hb2
  have t0 : (o.kind == 0) = false := by simp [hk]
  have t1 : (o.kind == 1) = true := by simp [hk]
  clear hk
  have i1 := A1.out.cell 1
  simp only [List.getElem?_toArray, List.getElem?_cons_succ, List.getElem?_cons_zero] at i1
  go_enter Try.func13, Try.ntmps13
  go_wp2_with fail
  refine p7 b r w.heap.size o.a o.b o.s (fun w1 v => v = .int .i64 ((S.append o.a o.s.data.toList).1 : Int) ∧ Gf B w0 w1 (ds.set i (b, (S.append o.a o.s.data.toList).2)) es (w.heap.size :: L) ∧ Bk 35 w1 w.heap.size #[.int .i64 o.on, .int .i64 o.kind, .int .i64 o.a, .int .i64 o.b, .string o.s] ∧ Kept L (w.alloc (.cells #[.int .i64 o.on, .int .i64 o.kind, .int .i64 o.a, .int .i64 o.b, .string o.s] 35)) w1) (w.alloc (.cells #[.int .i64 o.on, .int .i64 o.kind, .int .i64 o.a, .int .i64 o.b, .string o.s] 35)) (A1.out.cell 2) (Lib.hid fun w1 v h => h.2.2.1.cell 2) (A1.out.cell 4) (Lib.hid fun w1 v h => h.2.2.1.cell 4) (Lib.hid (by
    have G1d := G1.out.down (below_drew _)
    refine (G1d.real (fun K hC => C_append hC HD.out o.a o.s (by have := HS.out; omega))).mono ?_
    rintro e w1 ⟨rfl, hg, hkp⟩
    exact ⟨_, rfl, rfl, hg, (hkp _ (by simp)).trans A1.out, fun k hk => hkp k (by simp [hk])⟩)) ?_
  rintro v w1 ⟨rfl, hg, ho, hkp⟩
  have G2 := Lib.hid hg
  have A2 := Lib.hid ho
  have K2 := Lib.hid hkp
  clear hg ho hkp G1 A1 i1
  have i2 := A2.out.cell 2
  have i3 := A2.out.cell 3
  have i4 := A2.out.cell 4
  simp only [List.getElem?_toArray, List.getElem?_cons_succ, List.getElem?_cons_zero] at i2 i3 i4
  simp only [p7O, findR, Try.f13, Option.bind_some, Option.or, Option.getD, Nat.reduceEqDiff, if_true, if_false, reduceIte, List.drop_succ_cons, List.drop_zero]
  go_wp2_with fail
  refine (G2.out.refc HE.out (fun uv kp R => append33 r S uv kp o.a o.s (by have := HS.out; omega) w1 R)).mono ?_
  rintro e w2 ⟨rfl, hg, hkp⟩
  have G3 := Lib.hid hg
  have K3 := Lib.hid hkp
  clear hg hkp G2 A2 i2 i3 i4
  go_wp2_with fail
  go_ret
  exact ⟨rfl, _, G3.out.less (fun k hk => by simp [hk]), fun k hk => (K3.out k (by simp [hk])).trans ((K2.out k hk).trans (KW.out k hk))⟩
set_option maxHeartbeats 16000000 in
theorem plays3 (o : Op) (hok : OpOk o) (hk : o.kind = 3) (h : Gf B w0 w ds es L) (hd : ds[i]? = some (b, S)) (he : es[i]? = some (r, S)) :
    Calls Try.prog 13 #[.pointer (some ⟨b, 0, none⟩), .pointer (some ⟨r, 0, none⟩), .agg #[.int .i64 o.on, .int .i64 o.kind, .int .i64 o.a, .int .i64 o.b, .string o.s]] w fun e w' => e = .returned (.bool true) ∧ ∃ S', Gf B w0 w' (ds.set i (b, S')) (es.set i (r, S')) L ∧ Kept L w w' := by
  have hW1 : Below w.heap.size w (w.alloc (.cells #[.int .i64 o.on, .int .i64 o.kind, .int .i64 o.a, .int .i64 o.b, .string o.s] 35)) := by go_grown
  have G1 := Lib.hid (h.prot hW1 (Nat.le_refl _) (show w.heap.size < (w.alloc (.cells #[.int .i64 o.on, .int .i64 o.kind, .int .i64 o.a, .int .i64 o.b, .string o.s] 35)).heap.size by rw [World.size_alloc]; omega))
  have A1 : Hid (Bk 35 (w.alloc (.cells #[.int .i64 o.on, .int .i64 o.kind, .int .i64 o.a, .int .i64 o.b, .string o.s] 35)) w.heap.size #[.int .i64 o.on, .int .i64 o.kind, .int .i64 o.a, .int .i64 o.b, .string o.s]) := Lib.hid (Bk.new rfl)
  have KW := Lib.hid (show Kept L w (w.alloc (.cells #[.int .i64 o.on, .int .i64 o.kind, .int .i64 o.a, .int .i64 o.b, .string o.s] 35)) from fun k hk => Below.heap_alloc w _ k (h.lt k hk))
  have HD := Lib.hid hd
  have HE := Lib.hid he
  obtain ⟨_, _, _, _, ha1, ha2, hb1, hb2, hsz⟩ := hok
  have HS := Lib.hid hsz
  have HAB := Lib.hid (And.intro (And.intro ha1 ha2) (And.intro hb1 hb2))
  clear hW1 h hd he hsz ha1 ha2 hb1 hb2
  have t0 : (o.kind == 0) = false := by simp [hk]
  have t1 : (o.kind == 1) = false := by simp [hk]
  have t2 : (o.kind == 2) = false := by simp [hk]
  have t3 : (o.kind == 3) = true := by simp [hk]
  clear hk
  have i1 := A1.out.cell 1
  simp only [List.getElem?_toArray, List.getElem?_cons_succ, List.getElem?_cons_zero] at i1
  go_enter Try.func13, Try.ntmps13
  go_wp2_with fail
  refine p11 b r w.heap.size o.a o.b o.s (fun w1 v => v = .int .i64 ((S.cut o.a o.b).1 : Int) ∧ Gf B w0 w1 (ds.set i (b, (S.cut o.a o.b).2)) es (w.heap.size :: L) ∧ Bk 35 w1 w.heap.size #[.int .i64 o.on, .int .i64 o.kind, .int .i64 o.a, .int .i64 o.b, .string o.s] ∧ Kept L (w.alloc (.cells #[.int .i64 o.on, .int .i64 o.kind, .int .i64 o.a, .int .i64 o.b, .string o.s] 35)) w1) (w.alloc (.cells #[.int .i64 o.on, .int .i64 o.kind, .int .i64 o.a, .int .i64 o.b, .string o.s] 35)) (A1.out.cell 2) (Lib.hid fun w1 v h => h.2.2.1.cell 2) (A1.out.cell 3) (Lib.hid fun w1 v h => h.2.2.1.cell 3) (Lib.hid (by
    have G1d := G1.out.down (below_drew _)
    refine (G1d.real (fun K hC => C_cut hC HD.out o.a o.b)).mono ?_
    rintro e w1 ⟨rfl, hg, hkp⟩
    exact ⟨_, rfl, rfl, hg, (hkp _ (by simp)).trans A1.out, fun k hk => hkp k (by simp [hk])⟩)) ?_
  rintro v w1 ⟨rfl, hg, ho, hkp⟩
  have G2 := Lib.hid hg
  have A2 := Lib.hid ho
  have K2 := Lib.hid hkp
  clear hg ho hkp G1 A1 i1
  have i2 := A2.out.cell 2
  have i3 := A2.out.cell 3
  have i4 := A2.out.cell 4
  simp only [List.getElem?_toArray, List.getElem?_cons_succ, List.getElem?_cons_zero] at i2 i3 i4
  simp only [p11O, findR, Try.f13, Option.bind_some, Option.or, Option.getD, Nat.reduceEqDiff, if_true, if_false, reduceIte, List.drop_succ_cons, List.drop_zero]
  go_wp2_with fail
  refine (G2.out.refc HE.out (fun uv kp R => cut35 r S uv kp o.a o.b HAB.out.2.1 HAB.out.2.2 w1 R)).mono ?_
  rintro e w2 ⟨rfl, hg, hkp⟩
  have G3 := Lib.hid hg
  have K3 := Lib.hid hkp
  clear hg hkp G2 A2 i2 i3 i4
  go_wp2_with fail
  go_ret
  exact ⟨rfl, _, G3.out.less (fun k hk => by simp [hk]), fun k hk => (K3.out k (by simp [hk])).trans ((K2.out k hk).trans (KW.out k hk))⟩
set_option maxHeartbeats 16000000 in
theorem plays4 (o : Op) (hok : OpOk o) (hk : o.kind = 4) (h : Gf B w0 w ds es L) (hd : ds[i]? = some (b, S)) (he : es[i]? = some (r, S)) :
    Calls Try.prog 13 #[.pointer (some ⟨b, 0, none⟩), .pointer (some ⟨r, 0, none⟩), .agg #[.int .i64 o.on, .int .i64 o.kind, .int .i64 o.a, .int .i64 o.b, .string o.s]] w fun e w' => e = .returned (.bool true) ∧ ∃ S', Gf B w0 w' (ds.set i (b, S')) (es.set i (r, S')) L ∧ Kept L w w' := by
  have hW1 : Below w.heap.size w (w.alloc (.cells #[.int .i64 o.on, .int .i64 o.kind, .int .i64 o.a, .int .i64 o.b, .string o.s] 35)) := by go_grown
  have G1 := Lib.hid (h.prot hW1 (Nat.le_refl _) (show w.heap.size < (w.alloc (.cells #[.int .i64 o.on, .int .i64 o.kind, .int .i64 o.a, .int .i64 o.b, .string o.s] 35)).heap.size by rw [World.size_alloc]; omega))
  have A1 : Hid (Bk 35 (w.alloc (.cells #[.int .i64 o.on, .int .i64 o.kind, .int .i64 o.a, .int .i64 o.b, .string o.s] 35)) w.heap.size #[.int .i64 o.on, .int .i64 o.kind, .int .i64 o.a, .int .i64 o.b, .string o.s]) := Lib.hid (Bk.new rfl)
  have KW := Lib.hid (show Kept L w (w.alloc (.cells #[.int .i64 o.on, .int .i64 o.kind, .int .i64 o.a, .int .i64 o.b, .string o.s] 35)) from fun k hk => Below.heap_alloc w _ k (h.lt k hk))
  have HD := Lib.hid hd
  have HE := Lib.hid he
  obtain ⟨_, _, _, _, ha1, ha2, hb1, hb2, hsz⟩ := hok
  have HS := Lib.hid hsz
  have HAB := Lib.hid (And.intro (And.intro ha1 ha2) (And.intro hb1 hb2))
  clear hW1 h hd he hsz ha1 ha2 hb1 hb2
  have t0 : (o.kind == 0) = false := by simp [hk]
  have t1 : (o.kind == 1) = false := by simp [hk]
  have t2 : (o.kind == 2) = false := by simp [hk]
  have t3 : (o.kind == 3) = false := by simp [hk]
  have t4 : (o.kind == 4) = true := by simp [hk]
  clear hk
  have i1 := A1.out.cell 1
  simp only [List.getElem?_toArray, List.getElem?_cons_succ, List.getElem?_cons_zero] at i1
  go_enter Try.func13, Try.ntmps13
  go_wp2_with fail
  refine p13 b r w.heap.size o.a o.b o.s (fun w1 v => v = .int .i64 ((S.arm o.a o.b).1 : Int) ∧ Gf B w0 w1 (ds.set i (b, (S.arm o.a o.b).2)) es (w.heap.size :: L) ∧ Bk 35 w1 w.heap.size #[.int .i64 o.on, .int .i64 o.kind, .int .i64 o.a, .int .i64 o.b, .string o.s] ∧ Kept L (w.alloc (.cells #[.int .i64 o.on, .int .i64 o.kind, .int .i64 o.a, .int .i64 o.b, .string o.s] 35)) w1) (w.alloc (.cells #[.int .i64 o.on, .int .i64 o.kind, .int .i64 o.a, .int .i64 o.b, .string o.s] 35)) (A1.out.cell 2) (Lib.hid fun w1 v h => h.2.2.1.cell 2) (A1.out.cell 3) (Lib.hid fun w1 v h => h.2.2.1.cell 3) (Lib.hid (by
    have G1d := G1.out.down (below_drew _)
    refine (G1d.real (fun K hC => C_arm hC HD.out o.a o.b HAB.out.1.2 HAB.out.2.2)).mono ?_
    rintro e w1 ⟨rfl, hg, hkp⟩
    exact ⟨_, rfl, rfl, hg, (hkp _ (by simp)).trans A1.out, fun k hk => hkp k (by simp [hk])⟩)) ?_
  rintro v w1 ⟨rfl, hg, ho, hkp⟩
  have G2 := Lib.hid hg
  have A2 := Lib.hid ho
  have K2 := Lib.hid hkp
  clear hg ho hkp G1 A1 i1
  have i2 := A2.out.cell 2
  have i3 := A2.out.cell 3
  have i4 := A2.out.cell 4
  simp only [List.getElem?_toArray, List.getElem?_cons_succ, List.getElem?_cons_zero] at i2 i3 i4
  simp only [p13O, findR, Try.f13, Option.bind_some, Option.or, Option.getD, Nat.reduceEqDiff, if_true, if_false, reduceIte, List.drop_succ_cons, List.drop_zero]
  go_wp2_with fail
  refine (G2.out.refc HE.out (fun uv kp R => arm36 r S uv kp o.a o.b HAB.out.1.2 HAB.out.2.2 w1 R)).mono ?_
  rintro e w2 ⟨rfl, hg, hkp⟩
  have G3 := Lib.hid hg
  have K3 := Lib.hid hkp
  clear hg hkp G2 A2 i2 i3 i4
  go_wp2_with fail
  go_ret
  exact ⟨rfl, _, G3.out.less (fun k hk => by simp [hk]), fun k hk => (K3.out k (by simp [hk])).trans ((K2.out k hk).trans (KW.out k hk))⟩
set_option maxHeartbeats 16000000 in
theorem plays5 (o : Op) (hok : OpOk o) (hk : o.kind = 5) (h : Gf B w0 w ds es L) (hd : ds[i]? = some (b, S)) (he : es[i]? = some (r, S)) :
    Calls Try.prog 13 #[.pointer (some ⟨b, 0, none⟩), .pointer (some ⟨r, 0, none⟩), .agg #[.int .i64 o.on, .int .i64 o.kind, .int .i64 o.a, .int .i64 o.b, .string o.s]] w fun e w' => e = .returned (.bool true) ∧ ∃ S', Gf B w0 w' (ds.set i (b, S')) (es.set i (r, S')) L ∧ Kept L w w' := by
  have hW1 : Below w.heap.size w (w.alloc (.cells #[.int .i64 o.on, .int .i64 o.kind, .int .i64 o.a, .int .i64 o.b, .string o.s] 35)) := by go_grown
  have G1 := Lib.hid (h.prot hW1 (Nat.le_refl _) (show w.heap.size < (w.alloc (.cells #[.int .i64 o.on, .int .i64 o.kind, .int .i64 o.a, .int .i64 o.b, .string o.s] 35)).heap.size by rw [World.size_alloc]; omega))
  have A1 : Hid (Bk 35 (w.alloc (.cells #[.int .i64 o.on, .int .i64 o.kind, .int .i64 o.a, .int .i64 o.b, .string o.s] 35)) w.heap.size #[.int .i64 o.on, .int .i64 o.kind, .int .i64 o.a, .int .i64 o.b, .string o.s]) := Lib.hid (Bk.new rfl)
  have KW := Lib.hid (show Kept L w (w.alloc (.cells #[.int .i64 o.on, .int .i64 o.kind, .int .i64 o.a, .int .i64 o.b, .string o.s] 35)) from fun k hk => Below.heap_alloc w _ k (h.lt k hk))
  have HD := Lib.hid hd
  have HE := Lib.hid he
  obtain ⟨_, _, _, _, ha1, ha2, hb1, hb2, hsz⟩ := hok
  have HS := Lib.hid hsz
  have HAB := Lib.hid (And.intro (And.intro ha1 ha2) (And.intro hb1 hb2))
  clear hW1 h hd he hsz ha1 ha2 hb1 hb2
  have t0 : (o.kind == 0) = false := by simp [hk]
  have t1 : (o.kind == 1) = false := by simp [hk]
  have t2 : (o.kind == 2) = false := by simp [hk]
  have t3 : (o.kind == 3) = false := by simp [hk]
  have t4 : (o.kind == 4) = false := by simp [hk]
  have t5 : (o.kind == 5) = true := by simp [hk]
  clear hk
  have i1 := A1.out.cell 1
  simp only [List.getElem?_toArray, List.getElem?_cons_succ, List.getElem?_cons_zero] at i1
  go_enter Try.func13, Try.ntmps13
  go_wp2_with fail
  refine p15 b r w.heap.size o.a o.b o.s (fun w1 v => v = .int .i64 ((S.crash o.a).1 : Int) ∧ Gf B w0 w1 (ds.set i (b, (S.crash o.a).2)) es (w.heap.size :: L) ∧ Bk 35 w1 w.heap.size #[.int .i64 o.on, .int .i64 o.kind, .int .i64 o.a, .int .i64 o.b, .string o.s] ∧ Kept L (w.alloc (.cells #[.int .i64 o.on, .int .i64 o.kind, .int .i64 o.a, .int .i64 o.b, .string o.s] 35)) w1) (w.alloc (.cells #[.int .i64 o.on, .int .i64 o.kind, .int .i64 o.a, .int .i64 o.b, .string o.s] 35)) (A1.out.cell 2) (Lib.hid fun w1 v h => h.2.2.1.cell 2) (Lib.hid (by
    have G1d := G1.out.down (below_drew _)
    refine (G1d.real (fun K hC => C_crash hC HD.out o.a HAB.out.1.2)).mono ?_
    rintro e w1 ⟨rfl, hg, hkp⟩
    exact ⟨_, rfl, rfl, hg, (hkp _ (by simp)).trans A1.out, fun k hk => hkp k (by simp [hk])⟩)) ?_
  rintro v w1 ⟨rfl, hg, ho, hkp⟩
  have G2 := Lib.hid hg
  have A2 := Lib.hid ho
  have K2 := Lib.hid hkp
  clear hg ho hkp G1 A1 i1
  have i2 := A2.out.cell 2
  have i3 := A2.out.cell 3
  have i4 := A2.out.cell 4
  simp only [List.getElem?_toArray, List.getElem?_cons_succ, List.getElem?_cons_zero] at i2 i3 i4
  simp only [p15O, findR, Try.f13, Option.bind_some, Option.or, Option.getD, Nat.reduceEqDiff, if_true, if_false, reduceIte, List.drop_succ_cons, List.drop_zero]
  go_wp2_with fail
  refine (G2.out.refc HE.out (fun uv kp R => crash37 r S uv kp o.a w1 R)).mono ?_
  rintro e w2 ⟨rfl, hg, hkp⟩
  have G3 := Lib.hid hg
  have K3 := Lib.hid hkp
  clear hg hkp G2 A2 i2 i3 i4
  go_wp2_with fail
  go_ret
  exact ⟨rfl, _, G3.out.less (fun k hk => by simp [hk]), fun k hk => (K3.out k (by simp [hk])).trans ((K2.out k hk).trans (KW.out k hk))⟩
set_option maxHeartbeats 16000000 in
theorem plays2 (o : Op) (hok : OpOk o) (hk : o.kind = 2) (h : Gf B w0 w ds es L) (hd : ds[i]? = some (b, S)) (he : es[i]? = some (r, S)) :
    Calls Try.prog 13 #[.pointer (some ⟨b, 0, none⟩), .pointer (some ⟨r, 0, none⟩), .agg #[.int .i64 o.on, .int .i64 o.kind, .int .i64 o.a, .int .i64 o.b, .string o.s]] w fun e w' => e = .returned (.bool true) ∧ ∃ S', Gf B w0 w' (ds.set i (b, S')) (es.set i (r, S')) L ∧ Kept L w w' := by
  have hW1 : Below w.heap.size w (w.alloc (.cells #[.int .i64 o.on, .int .i64 o.kind, .int .i64 o.a, .int .i64 o.b, .string o.s] 35)) := by go_grown
  have G1 := Lib.hid (h.prot hW1 (Nat.le_refl _) (show w.heap.size < (w.alloc (.cells #[.int .i64 o.on, .int .i64 o.kind, .int .i64 o.a, .int .i64 o.b, .string o.s] 35)).heap.size by rw [World.size_alloc]; omega))
  have A1 : Hid (Bk 35 (w.alloc (.cells #[.int .i64 o.on, .int .i64 o.kind, .int .i64 o.a, .int .i64 o.b, .string o.s] 35)) w.heap.size #[.int .i64 o.on, .int .i64 o.kind, .int .i64 o.a, .int .i64 o.b, .string o.s]) := Lib.hid (Bk.new rfl)
  have KW := Lib.hid (show Kept L w (w.alloc (.cells #[.int .i64 o.on, .int .i64 o.kind, .int .i64 o.a, .int .i64 o.b, .string o.s] 35)) from fun k hk => Below.heap_alloc w _ k (h.lt k hk))
  have HD := Lib.hid hd
  have HE := Lib.hid he
  obtain ⟨_, _, _, _, ha1, ha2, hb1, hb2, hsz⟩ := hok
  have HS := Lib.hid hsz
  have HAB := Lib.hid (And.intro (And.intro ha1 ha2) (And.intro hb1 hb2))
  clear hW1 h hd he hsz ha1 ha2 hb1 hb2
  have t0 : (o.kind == 0) = false := by simp [hk]
  have t1 : (o.kind == 1) = false := by simp [hk]
  have t2 : (o.kind == 2) = true := by simp [hk]
  clear hk
  have i1 := A1.out.cell 1
  simp only [List.getElem?_toArray, List.getElem?_cons_succ, List.getElem?_cons_zero] at i1
  go_enter Try.func13, Try.ntmps13
  go_wp2_with fail
  refine (G1.out.real (fun K hC => C_sync hC HD.out)).mono ?_
  rintro e w1 ⟨rfl, hg, hkp⟩
  have G2 := Lib.hid hg
  have K2 := Lib.hid hkp
  clear hg hkp G1 A1 i1
  go_wp2_with fail
  refine (G2.out.refc HE.out (fun uv kp R => sync34 r S uv kp w1 R)).mono ?_
  rintro e w2 ⟨rfl, hg, hkp⟩
  have G3 := Lib.hid hg
  have K3 := Lib.hid hkp
  clear hg hkp G2
  go_wp2_with fail
  go_ret
  exact ⟨rfl, _, G3.out.less (fun k hk => by simp [hk]), fun k hk => (K3.out k (by simp [hk])).trans ((K2.out k (by simp [hk])).trans (KW.out k hk))⟩
set_option maxHeartbeats 16000000 in
theorem plays6 (o : Op) (hok : OpOk o) (hk : o.kind = 6) (h : Gf B w0 w ds es L) (hd : ds[i]? = some (b, S)) (he : es[i]? = some (r, S)) :
    Calls Try.prog 13 #[.pointer (some ⟨b, 0, none⟩), .pointer (some ⟨r, 0, none⟩), .agg #[.int .i64 o.on, .int .i64 o.kind, .int .i64 o.a, .int .i64 o.b, .string o.s]] w fun e w' => e = .returned (.bool true) ∧ ∃ S', Gf B w0 w' (ds.set i (b, S')) (es.set i (r, S')) L ∧ Kept L w w' := by
  have hW1 : Below w.heap.size w (w.alloc (.cells #[.int .i64 o.on, .int .i64 o.kind, .int .i64 o.a, .int .i64 o.b, .string o.s] 35)) := by go_grown
  have G1 := Lib.hid (h.prot hW1 (Nat.le_refl _) (show w.heap.size < (w.alloc (.cells #[.int .i64 o.on, .int .i64 o.kind, .int .i64 o.a, .int .i64 o.b, .string o.s] 35)).heap.size by rw [World.size_alloc]; omega))
  have A1 : Hid (Bk 35 (w.alloc (.cells #[.int .i64 o.on, .int .i64 o.kind, .int .i64 o.a, .int .i64 o.b, .string o.s] 35)) w.heap.size #[.int .i64 o.on, .int .i64 o.kind, .int .i64 o.a, .int .i64 o.b, .string o.s]) := Lib.hid (Bk.new rfl)
  have KW := Lib.hid (show Kept L w (w.alloc (.cells #[.int .i64 o.on, .int .i64 o.kind, .int .i64 o.a, .int .i64 o.b, .string o.s] 35)) from fun k hk => Below.heap_alloc w _ k (h.lt k hk))
  have HD := Lib.hid hd
  have HE := Lib.hid he
  obtain ⟨_, _, _, _, ha1, ha2, hb1, hb2, hsz⟩ := hok
  have HS := Lib.hid hsz
  have HAB := Lib.hid (And.intro (And.intro ha1 ha2) (And.intro hb1 hb2))
  clear hW1 h hd he hsz ha1 ha2 hb1 hb2
  have t0 : (o.kind == 0) = false := by simp [hk]
  have t1 : (o.kind == 1) = false := by simp [hk]
  have t2 : (o.kind == 2) = false := by simp [hk]
  have t3 : (o.kind == 3) = false := by simp [hk]
  have t4 : (o.kind == 4) = false := by simp [hk]
  have t5 : (o.kind == 5) = false := by simp [hk]
  have t6 : (o.kind == 6) = true := by simp [hk]
  clear hk
  have i1 := A1.out.cell 1
  simp only [List.getElem?_toArray, List.getElem?_cons_succ, List.getElem?_cons_zero] at i1
  go_enter Try.func13, Try.ntmps13
  go_wp2_with fail
  refine (G1.out.real (fun K hC => C_revive hC HD.out)).mono ?_
  rintro e w1 ⟨rfl, hg, hkp⟩
  have G2 := Lib.hid hg
  have K2 := Lib.hid hkp
  clear hg hkp G1 A1 i1
  go_wp2_with fail
  refine (G2.out.refc (S' := S.revive) HE.out (fun uv kp R => (revive38 r S uv kp w1 R).mono fun e w' ⟨h1, h2, h3⟩ => ⟨h1, Rm.of h2 h3⟩)).mono ?_
  rintro e w2 ⟨rfl, hg, hkp⟩
  have G3 := Lib.hid hg
  have K3 := Lib.hid hkp
  clear hg hkp G2
  go_wp2_with fail
  go_ret
  exact ⟨rfl, _, G3.out.less (fun k hk => by simp [hk]), fun k hk => (K3.out k (by simp [hk])).trans ((K2.out k (by simp [hk])).trans (KW.out k hk))⟩
set_option maxHeartbeats 16000000 in
theorem plays9 (o : Op) (hok : OpOk o) (hk : o.kind ≠ 0 ∧ o.kind ≠ 1 ∧ o.kind ≠ 2 ∧ o.kind ≠ 3 ∧ o.kind ≠ 4 ∧ o.kind ≠ 5 ∧ o.kind ≠ 6 ∧ o.kind ≠ 8) (h : Gf B w0 w ds es L) (hd : ds[i]? = some (b, S)) (he : es[i]? = some (r, S)) :
    Calls Try.prog 13 #[.pointer (some ⟨b, 0, none⟩), .pointer (some ⟨r, 0, none⟩), .agg #[.int .i64 o.on, .int .i64 o.kind, .int .i64 o.a, .int .i64 o.b, .string o.s]] w fun e w' => e = .returned (.bool true) ∧ ∃ S', Gf B w0 w' (ds.set i (b, S')) (es.set i (r, S')) L ∧ Kept L w w' := by
  have hW1 : Below w.heap.size w (w.alloc (.cells #[.int .i64 o.on, .int .i64 o.kind, .int .i64 o.a, .int .i64 o.b, .string o.s] 35)) := by go_grown
  have G1 := Lib.hid (h.prot hW1 (Nat.le_refl _) (show w.heap.size < (w.alloc (.cells #[.int .i64 o.on, .int .i64 o.kind, .int .i64 o.a, .int .i64 o.b, .string o.s] 35)).heap.size by rw [World.size_alloc]; omega))
  have A1 : Hid (Bk 35 (w.alloc (.cells #[.int .i64 o.on, .int .i64 o.kind, .int .i64 o.a, .int .i64 o.b, .string o.s] 35)) w.heap.size #[.int .i64 o.on, .int .i64 o.kind, .int .i64 o.a, .int .i64 o.b, .string o.s]) := Lib.hid (Bk.new rfl)
  have KW := Lib.hid (show Kept L w (w.alloc (.cells #[.int .i64 o.on, .int .i64 o.kind, .int .i64 o.a, .int .i64 o.b, .string o.s] 35)) from fun k hk => Below.heap_alloc w _ k (h.lt k hk))
  have HD := Lib.hid hd
  have HE := Lib.hid he
  obtain ⟨_, _, _, _, ha1, ha2, hb1, hb2, hsz⟩ := hok
  have HS := Lib.hid hsz
  have HAB := Lib.hid (And.intro (And.intro ha1 ha2) (And.intro hb1 hb2))
  clear hW1 h hd he hsz ha1 ha2 hb1 hb2
  have t0 : (o.kind == 0) = false := by simpa using hk.1
  have t1 : (o.kind == 1) = false := by simpa using hk.2.1
  have t2 : (o.kind == 2) = false := by simpa using hk.2.2.1
  have t3 : (o.kind == 3) = false := by simpa using hk.2.2.2.1
  have t4 : (o.kind == 4) = false := by simpa using hk.2.2.2.2.1
  have t5 : (o.kind == 5) = false := by simpa using hk.2.2.2.2.2.1
  have t6 : (o.kind == 6) = false := by simpa using hk.2.2.2.2.2.2.1
  have t8 : (o.kind == 8) = false := by simpa using hk.2.2.2.2.2.2.2
  clear hk
  have i1 := A1.out.cell 1
  simp only [List.getElem?_toArray, List.getElem?_cons_succ, List.getElem?_cons_zero] at i1
  go_enter Try.func13, Try.ntmps13
  go_wp2_with fail
  go_ret
  exact ⟨rfl, S, by rw [set_same HD.out, set_same HE.out]; exact G1.out.less (fun k hk => by simp [hk]), KW.out⟩
set_option maxHeartbeats 16000000 in
theorem plays0 (o : Op) (hok : OpOk o) (hk : o.kind = 0) (h : Gf B w0 w ds es L) (hd : ds[i]? = some (b, S)) (he : es[i]? = some (r, S)) :
    Calls Try.prog 13 #[.pointer (some ⟨b, 0, none⟩), .pointer (some ⟨r, 0, none⟩), .agg #[.int .i64 o.on, .int .i64 o.kind, .int .i64 o.a, .int .i64 o.b, .string o.s]] w fun e w' => e = .returned (.bool true) ∧ ∃ S', Gf B w0 w' (ds.set i (b, S')) (es.set i (r, S')) L ∧ Kept L w w' := by
  have hW1 : Below w.heap.size w (w.alloc (.cells #[.int .i64 o.on, .int .i64 o.kind, .int .i64 o.a, .int .i64 o.b, .string o.s] 35)) := by go_grown
  have G1 := Lib.hid (h.prot hW1 (Nat.le_refl _) (show w.heap.size < (w.alloc (.cells #[.int .i64 o.on, .int .i64 o.kind, .int .i64 o.a, .int .i64 o.b, .string o.s] 35)).heap.size by rw [World.size_alloc]; omega))
  have A1 : Hid (Bk 35 (w.alloc (.cells #[.int .i64 o.on, .int .i64 o.kind, .int .i64 o.a, .int .i64 o.b, .string o.s] 35)) w.heap.size #[.int .i64 o.on, .int .i64 o.kind, .int .i64 o.a, .int .i64 o.b, .string o.s]) := Lib.hid (Bk.new rfl)
  have KW := Lib.hid (show Kept L w (w.alloc (.cells #[.int .i64 o.on, .int .i64 o.kind, .int .i64 o.a, .int .i64 o.b, .string o.s] 35)) from fun k hk => Below.heap_alloc w _ k (h.lt k hk))
  have HD := Lib.hid hd
  have HE := Lib.hid he
  obtain ⟨_, _, _, _, ha1, ha2, hb1, hb2, hsz⟩ := hok
  have HS := Lib.hid hsz
  have HAB := Lib.hid (And.intro (And.intro ha1 ha2) (And.intro hb1 hb2))
  clear hW1 h hd he hsz ha1 ha2 hb1 hb2
  have t0 : (o.kind == 0) = true := by simp [hk]
  clear hk
  have i1 := A1.out.cell 1
  simp only [List.getElem?_toArray, List.getElem?_cons_succ, List.getElem?_cons_zero] at i1
  have i2 := A1.out.cell 2
  simp only [List.getElem?_toArray, List.getElem?_cons_succ, List.getElem?_cons_zero] at i2
  obtain ⟨K, hC⟩ := G1.out.cf
  have HC := Lib.hid hC
  clear hC
  go_enter Try.func13, Try.ntmps13
  go_wp2_with fail
  refine (C_read HC.out HD.out o.a).mono ?_
  rintro e w1 ⟨rfl, hb⟩
  have G2 := Lib.hid (G1.out.down hb)
  have A2 := Lib.hid (A1.out.below hb)
  have K2 := Lib.hid (show Kept L (w.alloc (.cells #[.int .i64 o.on, .int .i64 o.kind, .int .i64 o.a, .int .i64 o.b, .string o.s] 35)) w1 from fun k hk => hb.block k (G1.out.lt k (by simp [hk])))
  clear hb G1 A1 HC i1 i2
  have i2 := A2.out.cell 2
  simp only [List.getElem?_toArray, List.getElem?_cons_succ, List.getElem?_cons_zero] at i2
  obtain ⟨uv, kp, R⟩ := G2.out.rk HE.out
  have RR := Lib.hid R
  clear R
  go_wp2_with fail
  refine (read31 r S uv kp o.a w1 RR.out).mono ?_
  rintro e w2 ⟨rfl, hb⟩
  have G3 := Lib.hid (G2.out.down hb)
  have A3 := Lib.hid (A2.out.below hb)
  have K3 := Lib.hid (show Kept L w1 w2 from fun k hk => hb.block k (G2.out.lt k (by simp [hk])))
  clear hb G2 A2 RR i2
  go_wp2_with fail
  refine p5 b r w.heap.size o.on o.kind o.a o.b ((S.read o.a).2 : Int) (S.size o.a) o.s ⟨(S.read o.a).1.toArray⟩ w2 A3.out (Lib.hid (G3.out.sizes HD.out o.a)) (Lib.hid (G3.out.rsizes HE.out o.a)) ?_
  intros
  rename_i w3 hb
  have G4 := Lib.hid (G3.out.down hb)
  have K4 := Lib.hid (show Kept L w2 w3 from fun k hk => hb.block k (G3.out.lt k (by simp [hk])))
  clear hb G3 A3
  go_wp2_with fail
  go_ret
  exact ⟨rfl, S, by rw [set_same HD.out, set_same HE.out]; exact G4.out.less (fun k hk => by simp [hk]), fun k hk => (K4.out k hk).trans ((K3.out k hk).trans ((K2.out k hk).trans (KW.out k hk)))⟩
end
end Go.Proofs.Ytekagnhablkggaa
