/- A life of a log: the states that may be told behind it. Condition: the log's own, the program's table. -/
import Derived.Test.YtmoihgniglomiaaDoorZKi
set_option linter.unusedVariables false
set_option linter.unusedSimpArgs false
set_option maxRecDepth 100000
namespace Go.Proofs.YtmoihgniglomiaaDoor
open Go.RowKit Go.Sort

theorem rowS_ne {w : World} {v : Value} {l : List Bs} {t : TypeId} {g : Nat} {cs : Array Value} (h : RowS w v l) (hk : Bk t w g cs) (ht : t ≠ 9) : ∀ q, v.ownBlock = some q → q ≠ g := fun q e e2 => by
  subst e2
  obtain ⟨_, ⟨hv, _⟩ | ⟨q', cap, cur, hv, _, hg, _⟩⟩ := h
  · rw [hv] at e; cases e
  · rw [hv] at e
    simp only [Value.ownBlock, Option.some.injEq] at e
    subst e
    have h2 := hg.symm.trans hk
    simp at h2
    exact ht h2.2.symm
theorem RowS.set2 {w : World} {v : Value} {l : List Bs} {g : Nat} {cs : Array Value} (h : RowS w v l) (hk : Bk 67 w g cs) (x y : Value) : RowS ((w.setCell ⟨g, 0, none⟩ x).setCell ⟨g, 1, none⟩ y) v l := h.kept fun q e => by
  have := rowS_ne h hk (by decide) q e
  rw [heap_setCell_other _ _ _ _ this, heap_setCell_other _ _ _ _ this]
theorem SS.set2 {w : World} {v : Value} {ss : List Stt} {g : Nat} {cs : Array Value} (h : SS w v ss) (hk : Bk 67 w g cs) (hv : ∀ q, v.ownBlock = some q → q ≠ g) (x y : Value) : SS ((w.setCell ⟨g, 0, none⟩ x).setCell ⟨g, 1, none⟩ y) v ss := by
  obtain ⟨rvs, h1, h2, h3⟩ := h
  refine ⟨rvs, h1, owns2_of h2 fun q e _ => ?_, fun i s hi => ?_⟩
  · rw [heap_setCell_other _ _ _ _ (hv q e), heap_setCell_other _ _ _ _ (hv q e)]
  · obtain ⟨rv, e, r⟩ := h3 i s hi
    exact ⟨rv, e, r.set2 hk x y⟩
theorem LM.set2 {w w1 : World} {b : Nat} {p p1 : Fp} {S : St} {l : Wlg} (h : LM w b p w1 p1 S l) {g : Nat} {cs : Array Value} (hk : Bk 67 w1 g cs) (hg : w.heap.size ≤ g) (x y : Value) : LM w b p ((w1.setCell ⟨g, 0, none⟩ x).setCell ⟨g, 1, none⟩ y) p1 S l := by
  obtain ⟨h1, h2⟩ := h.1.far hk (.inr (.inr (.inl rfl)))
  exact (h.own_set ⟨g, 0, none⟩ hg h1.symm h2 x).own_set ⟨g, 1, none⟩ hg h1.symm h2 y
theorem Bk.oth2 {w : World} {t : TypeId} {g q : Nat} {cs : Array Value} (h : Bk t w g cs) (hne : g ≠ q) (x y : Value) : Bk t ((w.setCell ⟨q, 0, none⟩ x).setCell ⟨q, 1, none⟩ y) g cs := (h.oth (a := ⟨q, 0, none⟩) hne).oth (a := ⟨q, 1, none⟩) hne
/-- all that the loop keeps -/
structure LV (w : World) (b : Nat) (p : Fp) (g6 g7 : Nat) (c7 : Array Value) (wr : World) (p1 : Fp) (S1 : St) (l1 : Wlg) (sn : Bs) (rs : List Bs) (rv : Value) (m : Nat) (may : List Stt) (mv : Value) : Prop where
  lm : LM w b p wr p1 S1 l1
  ow : LOwn S1 l1 sn rs m
  row : RowS wr rv rs
  k6 : Bk 67 wr g6 #[.string ⟨sn.toArray⟩, rv]
  k7 : Bk 69 wr g7 c7
  ss : SS wr mv may
  mb : MayBe may sn rs m
  n6 : ∀ g, mv.ownBlock = some g → g ≠ g6 ∧ w.heap.size ≤ g
theorem LV.below {w : World} {b : Nat} {p : Fp} {g6 g7 : Nat} {c7 : Array Value} {wr w' : World} {p1 : Fp} {S1 : St} {l1 : Wlg} {sn : Bs} {rs : List Bs} {rv : Value} {m : Nat} {may : List Stt} {mv : Value} (h : LV w b p g6 g7 c7 wr p1 S1 l1 sn rs rv m may mv) (hb : Below wr.heap.size wr w') : LV w b p g6 g7 c7 w' p1 S1 l1 sn rs rv m may mv :=
  ⟨h.lm.then_below hb, h.ow, h.row.below hb, h.k6.below hb, h.k7.below hb, h.ss.below hb, h.mb, h.n6⟩
/-- a change of the log beneath -/
theorem LV.step {w : World} {b : Nat} {p : Fp} {g6 g7 : Nat} {c7 : Array Value} {wr w' : World} {p1 p2 : Fp} {S1 S2 : St} {l1 l2 : Wlg} {sn : Bs} {rs : List Bs} {rv : Value} {m : Nat} {may : List Stt} {mv : Value} (h : LV w b p g6 g7 c7 wr p1 S1 l1 sn rs rv m may mv) (hbw : b < w.heap.size) (hm : LM wr b p1 w' p2 S2 l2) (ho : LOwn S2 l2 sn rs m) : LV w b p g6 g7 c7 w' p2 S2 l2 sn rs rv m may mv :=
  have k := hm.kin h.lm.1
  ⟨h.lm.trans hm hbw, ho, k.rowS h.row, k.bk h.k6 (.inr (.inr (.inl rfl))), k.bk h.k7 (.inr (.inr (.inr rfl))), k.ss h.ss, h.mb, h.n6⟩
theorem ss_ne {w : World} {v : Value} {ss : List Stt} {t : TypeId} {g : Nat} {cs : Array Value} (h : SS w v ss) (hk : Bk t w g cs) (ht : t ≠ 67) : ∀ q, v.ownBlock = some q → q ≠ g := fun q e e2 => by
  subst e2
  obtain ⟨_, _, ⟨_, ⟨hv, _⟩ | ⟨q', cap, cur, hv, _, hg, _⟩⟩, _⟩ := h
  · rw [hv] at e; cases e
  · rw [hv] at e
    simp only [Value.ownBlock, Option.some.injEq] at e
    subst e
    have h2 := hg.symm.trans hk
    simp at h2
    exact ht h2.2.symm
theorem grown_bk {w w' : World} {t : TypeId} {g : Nat} {cs : Array Value} {o : Option Nat} (h : Bk t w g cs) (ho : ∀ q, o = some q → q ≠ g) (hgr : w.grownBy w' o) : Bk t w' g cs := (grown_far hgr h.lt (fun e => ho g e rfl)).trans h
theorem grown_row {w w' : World} {v mv : Value} {l : List Bs} {may : List Stt} (h : RowS w v l) (hs : SS w mv may) (hgr : w.grownBy w' mv.ownBlock) : RowS w' v l := h.kept fun g e => grown_far hgr (h.lt g e) (fun e2 => by
  obtain ⟨_, _, ⟨_, ⟨hv, _⟩ | ⟨q', cap, cur, hv, _, hg, _⟩⟩, _⟩ := hs
  · rw [hv] at e2; cases e2
  · rw [hv] at e2
    simp only [Value.ownBlock, Option.some.injEq] at e2
    subst e2
    exact rowS_ne h hg (by decide) _ e rfl)
theorem grown_lm {w w1 w' : World} {b : Nat} {p p1 : Fp} {S : St} {l : Wlg} {mv : Value} {may : List Stt} (h : LM w b p w1 p1 S l) (hs : SS w1 mv may) (hq : ∀ q, mv.ownBlock = some q → w.heap.size ≤ q) (hgr : w1.grownBy w' mv.ownBlock) : LM w b p w' p1 S l := by
  have ho : Only mv.ownBlock.toList w1 w' := ⟨hgr.os, hgr.tape, hgr.output, hgr.size, fun k hk hL => hgr.block k hk (fun e => hL (by rw [← e]; simp))⟩
  have hne : ∀ q, mv.ownBlock = some q → q ≠ b ∧ q ∉ p1.own := fun q e => by
    obtain ⟨_, _, ⟨_, ⟨hv, _⟩ | ⟨q', cap, cur, hv, _, hg, _⟩⟩, _⟩ := hs
    · rw [hv] at e; cases e
    · rw [hv] at e
      simp only [Value.ownBlock, Option.some.injEq] at e
      subst e
      exact h.1.far hg (.inr (.inr (.inl rfl)))
  refine ⟨h.1.only ho (fun hx => ?_) (fun k hk hx => ?_), h.2.1, h.2.2.1.trans ho (fun x hx => .inr (hq x (by simpa using hx))), h.2.2.2⟩
  · exact (hne b (by simpa using hx)).1 rfl
  · exact (hne k (by simpa using hx)).2 hk
theorem LM.of_mut {w w' : World} {b : Nat} {p p' : Fp} {S S' : St} {l : Wlg} (h : Lk w b p S l) (hz : 0 < w.heap.size) (m : Mut w p w' p' S') : LM w b p w' p' S' l := (LM.refl h (Below.refl _ _)).mut hz m h.blk.lt
set_option maxHeartbeats 64000000 in
theorem lived_any {w0 w : World} {b : Nat} {p : Fp} {S : St} {l : Wlg} {snap : Bs} {rs : List Bs} {rv sv : Value} {x : Lif}
    (H : LO w0.heap.size w0 w b p S l) (hz0 : 0 < w0.heap.size) (ho : LOwn S l snap rs rs.length) (hi : S.inn = 0) (hr : RowS w rv rs) (hx : LifOk x) (hsv : OpsIn w0 sv x.script) :
    Calls Tryd.prog 32 #[p.v, .pointer (some ⟨b, 0, none⟩), stv (snap, rs) rv, .agg #[sv, .int .i64 x.n, .int .i64 x.k, .int .i64 x.again]] w fun e w' => ∃ v p' S' l' may, e = .returned (.tuple #[v, .bool true]) ∧ LM w b p w' p' S' l' ∧ SS w' v may ∧ may.length ≤ 3000000000000 ∧ LEnd S' l' may := by
  obtain ⟨hok, hsl, hn1, hn2, hk1, hk2, ha1, ha2⟩ := hx
  obtain ⟨sa, sc, rfl, hcs⟩ := hsv
  obtain ⟨n, hn⟩ : ∃ n, n = x.script.length := ⟨_, rfl⟩
  rw [← hn] at hsl ⊢
  have HN := Lib.hid hn
  have HOK := Lib.hid hok
  have HC := Lib.hid hcs
  have HLO := Lib.hid H
  have HKB := Lib.hid (And.intro hn2 hk2)
  have HBW : Hid (b < w.heap.size) := Lib.hid H.lk.blk.lt
  have HZ : Hid (0 < w.heap.size) := Lib.hid (Nat.lt_of_lt_of_le hz0 H.bw.size)
  obtain ⟨xn, hxn⟩ : ∃ a, a = x.n := ⟨_, rfl⟩
  obtain ⟨xk, hxk⟩ : ∃ a, a = x.k := ⟨_, rfl⟩
  obtain ⟨xa, hxa⟩ : ∃ a, a = x.again := ⟨_, rfl⟩
  rw [← hxn, ← hxk] at HKB
  rw [← hxn, ← hxk, ← hxa]
  clear hn1 hn2 hk1 hk2 ha1 ha2 hxn hxk hxa hn hok hcs
  generalize x.script = ops at *
  obtain ⟨ra, rc, rfl⟩ := hr.shape
  obtain ⟨rn, hrn⟩ : ∃ rn, rn = rs.length := ⟨_, rfl⟩
  unfold stv
  rw [← hrn] at hr ⊢
  have hb1 : Below w.heap.size w (((w.alloc (.cells #[.string ⟨snap.toArray⟩, .slice ra rn rc] 67)).alloc (.cells #[.slice sa n sc, .int .i64 xn, .int .i64 xk, .int .i64 xa] 69)).alloc (.cells #[.string ⟨snap.toArray⟩, .slice ra rn rc] 67)) := by go_grown
  have V0 : Hid (LV w b p w.heap.size (w.heap.size + 1) #[.slice sa n sc, .int .i64 xn, .int .i64 xk, .int .i64 xa] (((w.alloc (.cells #[.string ⟨snap.toArray⟩, .slice ra rn rc] 67)).alloc (.cells #[.slice sa n sc, .int .i64 xn, .int .i64 xk, .int .i64 xa] 69)).alloc (.cells #[.string ⟨snap.toArray⟩, .slice ra rn rc] 67)) p S l snap rs (.slice ra rn rc) rs.length [(snap, rs)] (.slice (some ⟨w.heap.size + 1 + 1, 0, none⟩) 1 1)) := Lib.hid
    ⟨LM.refl H.lk hb1, ho, hr.below hb1, Bk.alloc (Bk.alloc (Bk.new rfl)), Bk.alloc (Bk.new (by simp)), SS.one (Bk.new (by simp)) (hr.below hb1), MayBe.one _ _, fun g e => by simp only [Value.ownBlock, Option.some.injEq] at e; omega⟩
  have HI0 := Lib.hid hi
  clear H ho hr hb1 hrn hi hz0
  have hpv : p.v = .pointer (some ⟨p.b, 0, none⟩) := rfl
  rw [hpv]
  generalize hts : (⟨snap.toArray⟩ : ByteArray) = ts at V0 ⊢
  clear hts hpv
  obtain ⟨pb, hpb⟩ : ∃ q, q = p.b := ⟨_, rfl⟩
  have HPB := Lib.hid hpb
  rw [← hpb]
  clear hpb
  go_enter Tryd.func32, Tryd.ntmps32
  go_wp2_with fail
  generalize (((w.alloc (.cells #[.string ts, .slice ra rn rc] 67)).alloc (.cells #[.slice sa n sc, .int .i64 xn, .int .i64 xk, .int .i64 xa] 69)).alloc (.cells #[.string ts, .slice ra rn rc] 67)) = w1 at V0 ⊢
  obtain ⟨g6, hg6⟩ : ∃ g, g = w.heap.size := ⟨_, rfl⟩
  obtain ⟨g7, hg7⟩ : ∃ g, g = w.heap.size + 1 := ⟨_, rfl⟩
  obtain ⟨g8, hg8⟩ : ∃ g, g = w.heap.size + 1 + 1 := ⟨_, rfl⟩
  have HG : Hid (w.heap.size ≤ g6 ∧ g6 ≠ g7) := Lib.hid ⟨by omega, by omega⟩
  rw [← hg8, ← hg7, ← hg6] at V0
  rw [← hg8, ← hg7, ← hg6]
  clear hg6 hg7 hg8
  go_loopw [10, 11] (fun mv iv wr => ∃ (i : Nat) (p1 : Fp) (S1 : St) (l1 : Wlg) (sn1 : Bs) (rs1 : List Bs) (rv1 : Value) (m : Nat) (may : List Stt), i ≤ n ∧ iv = .int .i64 (i : Int) ∧ Hid (LV w b p g6 g7 #[.slice sa n sc, .int .i64 xn, .int .i64 xk, .int .i64 xa] wr p1 S1 l1 sn1 rs1 rv1 m may mv) ∧ Hid (S1.inn = 0 ∨ i = n) ∧ Hid (may.length ≤ i + 1)) (fun _ iv _ => n - (intOf iv).toNat)
  case atStart => exact ⟨0, p, S, l, snap, rs, _, _, _, Nat.zero_le _, rfl, V0, Lib.hid (.inl HI0.out), Lib.hid (by simp)⟩
  case round =>
    obtain ⟨i, p1, S1, l1, sn1, rs1, rv1, m, may, hil, rfl, V, HI, HM⟩ := hrel
    clear V0 HI0
    obtain ⟨ma, mc, hmv⟩ := V.out.ss.shape
    obtain ⟨mn, hmn⟩ : ∃ a, a = may.length := ⟨_, rfl⟩
    rw [← hmn] at hmv
    have HMN := Lib.hid hmn
    clear hmn
    subst hmv
    have k70 := V.out.k7.cell 0
    have k71 := V.out.k7.cell 1
    have k72 := V.out.k7.cell 2
    simp only [List.getElem?_toArray, List.getElem?_cons_succ, List.getElem?_cons_zero] at k70 k71 k72
    by_cases hlt : i < n
    · have hilt : i < ops.length := by rw [← HN.out]; exact hlt
      have hne : ops ≠ [] := fun e => by rw [e] at hilt; simp at hilt
      obtain ⟨b0, o0, rfl, hb0, hcs⟩ := HC.out hne
      obtain ⟨⟨on, kind, oa, ob, so⟩, hop⟩ : ∃ op, ops[i]'hilt = op := ⟨_, rfl⟩
      have hcs := hcs i hilt
      rw [hop] at hcs
      have hbw : Below w0.heap.size w0 wr := (HLO.out.lm (Nat.le_refl _) V.out.lm).bw
      have e : ∀ k, wr.cell? ⟨b0, k, none⟩ = w0.cell? ⟨b0, k, none⟩ := fun k => hbw.cell (p := ⟨b0, k, none⟩) hb0
      simp only [← e] at hcs
      obtain ⟨d0, d1, d2, d3, d4⟩ := hcs
      obtain ⟨os, hos⟩ : ∃ os : Bs, so = ⟨os.toArray⟩ := ⟨so.data.toList, by simp⟩
      subst hos
      have hix := index23 b0 o0 sc n i hlt
      have fw : IntKind.i64.wrap ((n : Int) - 1) = (n : Int) - 1 := IntWalk.i64_in _ (by omega)
      clear e hbw hne hop
      by_cases hkind : 0 ≤ kind ∧ kind ≤ 2
      · have x0 : decide (kind < 0) = false := decide_eq_false (by omega)
        have x2 : decide ((2 : Int) < kind) = false := decide_eq_false (by omega)
        have V2 := Lib.hid (V.out.below (w' := wr.alloc (.cells #[.int .i64 on, .int .i64 kind, .int .i64 oa, .int .i64 ob, .string ⟨os.toArray⟩] 46)) (by go_grown))
        have K2 : Hid (Bk 46 (wr.alloc (.cells #[.int .i64 on, .int .i64 kind, .int .i64 oa, .int .i64 ob, .string ⟨os.toArray⟩] 46)) wr.heap.size #[.int .i64 on, .int .i64 kind, .int .i64 oa, .int .i64 ob, .string ⟨os.toArray⟩]) := Lib.hid (Bk.new rfl)
        obtain ⟨to, hto⟩ : ∃ t : ByteArray, t = ⟨os.toArray⟩ := ⟨_, rfl⟩
        have HTO := Lib.hid hto
        rw [← hto] at V2 K2 d4
        clear hto V
        have k80 := V2.out.k7.cell 0
        have k81 := V2.out.k7.cell 1
        have k82 := V2.out.k7.cell 2
        simp only [List.getElem?_toArray, List.getElem?_cons_succ, List.getElem?_cons_zero] at k80 k81 k82
        rcases (by omega : kind = 0 ∨ kind = 1 ∨ kind = 2) with rfl | rfl | rfl
        · by_cases har : i + 1 = n ∧ 0 < xn
          · have fe : ((i : Int) == (n : Int) - 1) = true := by simp; omega
            have fn : decide ((0 : Int) < xn) = true := decide_eq_true har.2
            have harm := arm_any p1 S1 xn (max 0 xk) HKB.out.1 (by have := HKB.out.2; omega) _ V2.out.lm.1.dk
            rw [arm_pos V2.out.ow.gone har.2, show p1.v = .pointer (some ⟨pb, 0, none⟩) by unfold Fp.v; rw [V2.out.lm.2.1, HPB.out]] at harm
            have HARM := Lib.hid harm
            clear harm
            go_wp2_with fail
            refine HARM.out.mono ?_
            rintro e w3 ⟨rfl, hd3, ho3⟩
            have OW3 : LOwn (S1.power false xn.toNat (max 0 xk).toNat) l1 sn1 rs1 m := by
              have := V2.out.ow.arm xn (max 0 xk) HKB.out.1 (by have := HKB.out.2; omega)
              rwa [arm_pos V2.out.ow.gone har.2] at this
            have hm3 := LM.of_mut V2.out.lm.1 (by rw [World.size_alloc]; omega) (mut_head hd3 ho3)
            have K3 : Hid (Bk 46 w3 wr.heap.size #[.int .i64 on, .int .i64 0, .int .i64 oa, .int .i64 ob, .string to]) := Lib.hid ((hm3.kin V2.out.lm.1).bk K2.out (.inr (.inl rfl)))
            have VX := Lib.hid (V2.out.step HBW.out hm3 OW3)
            have HI2 : Hid ((S1.power false xn.toNat (max 0 xk).toNat).inn = 0 ∨ i + 1 = n ∧ 0 < xn) := Lib.hid (.inr har)
            clear hd3 ho3 OW3 hm3 HARM fe fn V2 K2 har HI
            generalize S1.power false xn.toNat (max 0 xk).toNat = S2 at VX HI2
            obtain ⟨g12, hg12⟩ : ∃ g, g = wr.heap.size := ⟨_, rfl⟩
            rw [← hg12] at K3 ⊢
            clear hg12
            have TB := Lib.hid (HLO.out.lm (Nat.le_refl _) VX.out.lm).tb
            clear d0 d1 d2 d3 d4 hix fw x0 x2 k80 k81 k82

            have k21 := K3.out.cell 1
            have k24 := K3.out.cell 4
            simp only [List.getElem?_toArray, List.getElem?_cons_succ, List.getElem?_cons_zero] at k21 k24
            have hcall := lappend_any VX.out.lm.1 TB.out (by have := VX.out.ow.many; omega) os
            have hlc := VX.out.ow.lap os
            generalize lap S2 l1 os = xx at hcall hlc
            obtain ⟨cd, S4, l4⟩ := xx
            rw [← HTO.out] at hcall
            have HCALL := Lib.hid hcall
            have HLC := Lib.hid hlc
            clear hcall hlc
            go_wp2_with fail
            refine HCALL.out.mono ?_
            rintro e w4 ⟨rfl, p4, hm4⟩
            have KN : Hid (Kin w3 w4) := Lib.hid (hm4.kin VX.out.lm.1)
            have LM4 := Lib.hid hm4
            have K4 : Hid (Bk 46 w4 g12 #[.int .i64 on, .int .i64 0, .int .i64 oa, .int .i64 ob, .string to]) := Lib.hid (KN.out.bk K3.out (.inr (.inl rfl)))
            clear hm4 HCALL k21 k24 K3 k70 k71 k72
            rcases HLC.out with ⟨h0, h⟩ | ⟨h0, h, h1⟩ | ⟨h0, hg, hd, h1, h, h2⟩
            · simp only [Prod.mk.injEq] at h h0
              obtain ⟨rfl, rfl⟩ := h
              have V4 := Lib.hid (VX.out.step HBW.out LM4.out VX.out.ow)
              clear VX LM4 HLC KN K4
              have y0 : ((cd : Int) != 0) = true := by rcases h0 with rfl | rfl <;> rfl
              have y2 : ((cd : Int) != 2) = true := by rcases h0 with rfl | rfl <;> rfl
              clear h0
              go_wp2_with fail
              go_roundw
              case rel => exact ⟨i + 1, p4, S4, l4, sn1, rs1, rv1, m, may, by omega, by go_num, V4, Lib.hid (HI2.out.imp id And.left), Lib.hid (by have := HM.out; omega)⟩
              case measure => simp [intOf]; omega
            · simp only at h0 h h1
              subst h0
              have OW4 := Lib.hid h
              have HI4 : Hid (S4.inn = 0 ∨ i + 1 = n) := Lib.hid (HI2.out.imp h1 And.left)
              have K6 : Hid (Bk 67 w4 g6 #[.string ⟨sn1.toArray⟩, rv1]) := Lib.hid (KN.out.bk VX.out.k6 (.inr (.inr (.inl rfl))))
              have K7 : Hid (Bk 69 w4 g7 #[.slice (some ⟨b0, o0, none⟩) n sc, .int .i64 xn, .int .i64 xk, .int .i64 xa]) := Lib.hid (KN.out.bk VX.out.k7 (.inr (.inr (.inr rfl))))
              have SS4 : Hid (SS w4 (.slice ma mn mc) may) := Lib.hid (KN.out.ss VX.out.ss)
              have R4 : Hid (RowS w4 rv1 rs1) := Lib.hid (KN.out.rowS VX.out.row)
              have T4 : Hid (LM w b p w4 p4 S4 l4) := Lib.hid (VX.out.lm.trans LM4.out HBW.out)
              have MB := Lib.hid VX.out.mb
              have N6 := Lib.hid VX.out.n6
              have RL : Hid (rs1.length + 1 ≤ 4194304) := Lib.hid (by have h1 := VX.out.ow.many; have h2 := VX.out.ow.n; omega)
              clear VX LM4 HLC KN
              have k60 := K6.out.cell 0
              have k61 := K6.out.cell 1
              have k20 := K4.out.cell 0
              have k21 := K4.out.cell 1
              have k22 := K4.out.cell 2
              have k23 := K4.out.cell 3
              have k24 := K4.out.cell 4
              simp only [List.getElem?_toArray, List.getElem?_cons_succ, List.getElem?_cons_zero] at k60 k61 k20 k21 k22 k23 k24
              have hnx := next_app (sn1, rs1) rv1 on oa ob os w4 R4.out RL.out
              unfold stv at hnx
              rw [← HTO.out] at hnx
              have HNX := Lib.hid hnx
              clear hnx
              obtain ⟨r1a, r1c, hrv1⟩ := R4.out.shape
              obtain ⟨r1n, hr1n⟩ : ∃ a, a = rs1.length := ⟨_, rfl⟩
              rw [← hr1n] at hrv1
              subst hrv1
              clear hr1n
              generalize hts1 : (⟨sn1.toArray⟩ : ByteArray) = ts1 at k60 K6 HNX
              have HTS1 := Lib.hid hts1
              clear hts1
              go_wp2_with fail
              refine HNX.out.mono ?_
              rintro e w5 ⟨rv5, rfl, hr5, hb5, hf5⟩
              have R5 := Lib.hid hr5
              obtain ⟨r5a, r5c, hrv5⟩ := hr5.shape
              obtain ⟨r5n, hr5n⟩ : ∃ a, a = ((rs1 ++ [os]) : List Bs).length := ⟨_, rfl⟩
              rw [← hr5n] at hrv5
              clear hr5 hf5 hr5n
              subst hrv5
              have K65 := Lib.hid (K6.out.below hb5)
              have K75 := Lib.hid (K7.out.below hb5)
              have SS5 := Lib.hid (SS4.out.below hb5)
              have T5 := Lib.hid (T4.out.then_below hb5)
              have HLT5 : Hid (∀ q, (Value.slice ma mn mc).ownBlock = some q → q < w5.heap.size) := Lib.hid SS5.out.lt
              clear hb5 HNX K6 K7 SS4 R4 T4 K4 k60 k61 k20 k21 k22 k23 k24
              have SA : Hid (SS (w5.alloc (.cells #[.string ts1, (.slice r5a r5n r5c)] 67)) (.slice ma mn mc) may) := Lib.hid (SS5.out.below (by go_grown))
              have KA : Hid (Bk 67 (w5.alloc (.cells #[.string ts1, (.slice r5a r5n r5c)] 67)) w5.heap.size #[.string ts1, (.slice r5a r5n r5c)]) := Lib.hid (Bk.new rfl)
              have RA : Hid (RowS (w5.alloc (.cells #[.string ts1, (.slice r5a r5n r5c)] 67)) (.slice r5a r5n r5c) (rs1 ++ [os])) := Lib.hid (R5.out.below (by go_grown))
              have K6A : Hid (Bk 67 (w5.alloc (.cells #[.string ts1, (.slice r5a r5n r5c)] 67)) g6 #[.string ts1, .slice r1a r1n r1c]) := Lib.hid K65.out.alloc
              have K7A : Hid (Bk 69 (w5.alloc (.cells #[.string ts1, (.slice r5a r5n r5c)] 67)) g7 #[.slice (some ⟨b0, o0, none⟩) n sc, .int .i64 xn, .int .i64 xk, .int .i64 xa]) := Lib.hid K75.out.alloc
              have TA : Hid (LM w b p (w5.alloc (.cells #[.string ts1, (.slice r5a r5n r5c)] 67)) p4 S4 l4) := Lib.hid (T5.out.then_below (by go_grown))
              have HSZ : Hid (w5.heap.size ≠ g6 ∧ w5.heap.size ≠ g7) := Lib.hid ⟨by have := K65.out.lt; omega, by have := K75.out.lt; omega⟩
              clear K65 K75 SS5 T5 R5
              have ETX : Hid (ts1 = ⟨(sn1 : Bs).toArray⟩) := Lib.hid HTS1.out.symm
              have k60 := K6A.out.cell 0
              have k61 := K6A.out.cell 1
              have f60 := K6A.out.fro 0
              have f61 := K6A.out.fro 1
              simp only [List.getElem?_toArray, List.getElem?_cons_succ, List.getElem?_cons_zero] at k60 k61
              have SB := SA.out.set2 K6A.out (fun q e => (N6.out q e).1) (.string ts1) (.slice r5a r5n r5c)
              have RB := RA.out.set2 K6A.out (.string ts1) (.slice r5a r5n r5c)
              have KB := KA.out.oth2 HSZ.out.1 (.string ts1) (.slice r5a r5n r5c)
              have K7B := K7A.out.oth2 HG.out.2.symm (.string ts1) (.slice r5a r5n r5c)
              have K6B := K6A.out.put2 (x := .string ts1) (y := (.slice r5a r5n r5c))
              have TB4 := TA.out.set2 K6A.out HG.out.1 (.string ts1) (.slice r5a r5n r5c)
              have q0 := KB.cell 0
              have q1 := KB.cell 1
              simp only [List.getElem?_toArray, List.getElem?_cons_succ, List.getElem?_cons_zero] at q0 q1
              have HLQ : may.length + 1 ≤ 3500000000000 := by have := HM.out; omega
              have hbq : Below (((w5.alloc (.cells #[.string ts1, (.slice r5a r5n r5c)] 67)).setCell ⟨g6, 0, none⟩ (.string ts1)).setCell ⟨g6, 1, none⟩ (.slice r5a r5n r5c)).heap.size (((w5.alloc (.cells #[.string ts1, (.slice r5a r5n r5c)] 67)).setCell ⟨g6, 0, none⟩ (.string ts1)).setCell ⟨g6, 1, none⟩ (.slice r5a r5n r5c)) ((((w5.alloc (.cells #[.string ts1, (.slice r5a r5n r5c)] 67)).setCell ⟨g6, 0, none⟩ (.string ts1)).setCell ⟨g6, 1, none⟩ (.slice r5a r5n r5c)).alloc (.cells #[.string ts1, (.slice r5a r5n r5c)] 67)) := by go_grown
              have hqs : (((w5.alloc (.cells #[.string ts1, (.slice r5a r5n r5c)] 67)).setCell ⟨g6, 0, none⟩ (.string ts1)).setCell ⟨g6, 1, none⟩ (.slice r5a r5n r5c)).heap.size = w5.heap.size + 1 := by simp
              have SQ := SB.below hbq
              obtain ⟨v6, w6, hrun, hss6, hgr6, hv6⟩ := SQ.more (s := (sn1, (rs1 ++ [os]))) 70 (w5.heap.size + 1) 1 (by rw [← ETX.out]; exact Bk.new hqs.symm) (RB.below hbq) HLQ
              have T6 := grown_lm (TB4.then_below hbq) SQ (fun q e => (N6.out q e).2) hgr6
              have K76 := grown_bk (K7B.below hbq) (ss_ne SQ (K7B.below hbq) (by decide)) hgr6
              have K66 := grown_bk (K6B.below hbq) (fun q e => (N6.out q e).1) hgr6
              have KN6 := grown_bk (KB.below hbq) (fun q e e2 => by have h1 := N6.out q e; have h2 := HLT5.out q e; omega) hgr6
              have R6 := grown_row (RB.below hbq) SQ hgr6
              have HRUN := Lib.hid hrun
              have NV : ∀ q, v6.ownBlock = some q → q ≠ g6 ∧ w.heap.size ≤ q := fun q e => by
                rcases hv6 with h | h
                · exact N6.out q (h ▸ e)
                · have h1 := h q e
                  have h2 := (K6B.below hbq).lt
                  have h3 := TB4.2.2.1.size
                  have h4 := hbq.size
                  exact ⟨by omega, by omega⟩
              rw [ETX.out] at K66
              have V6 : Hid (LV w b p g6 g7 #[.slice (some ⟨b0, o0, none⟩) n sc, .int .i64 xn, .int .i64 xk, .int .i64 xa] w6 p4 S4 l4 sn1 (rs1 ++ [os]) (.slice r5a r5n r5c) m (may ++ [(sn1, (rs1 ++ [os]))]) v6) := Lib.hid ⟨T6, OW4.out, R6, K66, K76, hss6, MB.out.app os, NV⟩
              have HML : Hid ((may ++ [((sn1, (rs1 ++ [os])) : Stt)]).length ≤ i + 1 + 1) := Lib.hid (by rw [List.length_append, List.length_singleton]; have := HM.out; omega)
              clear hrun hss6 hgr6 hv6 SQ T6 K76 K66 KN6 R6 NV SB RB KB K7B K6B TB4 SA RA KA K6A K7A TA MB N6 RL HSZ hbq HLQ
              go_wp2_with (at_builtin; refine Lib.wpList_append_run _ rfl _ _ 70 70 rfl _ _ rfl rfl v6 w6 HRUN.out ?_)
              go_roundw
              case rel => exact ⟨i + 1, p4, S4, l4, sn1, (rs1 ++ [os]), _, m, _, by omega, by go_num, V6, HI4, HML⟩
              case measure => simp [intOf]; omega
            · simp only at h0 hg hd h1 h h2
              subst h0
              have hlast : i + 1 = n ∧ 0 < xn := (HI2.out).resolve_left h1
              have HE : Hid (LEnd S4 l4 (may ++ [(sn1, (rs1 ++ [os]))])) := Lib.hid (LEnd.down VX.out.mb hg hd h)
              have HDD := Lib.hid hd
              clear hg hd h1 h h2
              have K6 : Hid (Bk 67 w4 g6 #[.string ⟨sn1.toArray⟩, rv1]) := Lib.hid (KN.out.bk VX.out.k6 (.inr (.inr (.inl rfl))))
              have K7 : Hid (Bk 69 w4 g7 #[.slice (some ⟨b0, o0, none⟩) n sc, .int .i64 xn, .int .i64 xk, .int .i64 xa]) := Lib.hid (KN.out.bk VX.out.k7 (.inr (.inr (.inr rfl))))
              have SS4 : Hid (SS w4 (.slice ma mn mc) may) := Lib.hid (KN.out.ss VX.out.ss)
              have R4 : Hid (RowS w4 rv1 rs1) := Lib.hid (KN.out.rowS VX.out.row)
              have T4 : Hid (LM w b p w4 p4 S4 l4) := Lib.hid (VX.out.lm.trans LM4.out HBW.out)
              have MB := Lib.hid VX.out.mb
              have N6 := Lib.hid VX.out.n6
              have RL : Hid (rs1.length + 1 ≤ 4194304) := Lib.hid (by have h1 := VX.out.ow.many; have h2 := VX.out.ow.n; omega)
              clear VX LM4 HLC KN
              have k60 := K6.out.cell 0
              have k61 := K6.out.cell 1
              have k20 := K4.out.cell 0
              have k21 := K4.out.cell 1
              have k22 := K4.out.cell 2
              have k23 := K4.out.cell 3
              have k24 := K4.out.cell 4
              simp only [List.getElem?_toArray, List.getElem?_cons_succ, List.getElem?_cons_zero] at k60 k61 k20 k21 k22 k23 k24
              have hnx := next_app (sn1, rs1) rv1 on oa ob os w4 R4.out RL.out
              unfold stv at hnx
              rw [← HTO.out] at hnx
              have HNX := Lib.hid hnx
              clear hnx
              obtain ⟨r1a, r1c, hrv1⟩ := R4.out.shape
              obtain ⟨r1n, hr1n⟩ : ∃ a, a = rs1.length := ⟨_, rfl⟩
              rw [← hr1n] at hrv1
              subst hrv1
              clear hr1n
              generalize hts1 : (⟨sn1.toArray⟩ : ByteArray) = ts1 at k60 K6 HNX
              have HTS1 := Lib.hid hts1
              clear hts1
              go_wp2_with fail
              refine HNX.out.mono ?_
              rintro e w5 ⟨rv5, rfl, hr5, hb5, hf5⟩
              have R5 := Lib.hid hr5
              obtain ⟨r5a, r5c, hrv5⟩ := hr5.shape
              obtain ⟨r5n, hr5n⟩ : ∃ a, a = ((rs1 ++ [os]) : List Bs).length := ⟨_, rfl⟩
              rw [← hr5n] at hrv5
              clear hr5 hf5 hr5n
              subst hrv5
              have K65 := Lib.hid (K6.out.below hb5)
              have K75 := Lib.hid (K7.out.below hb5)
              have SS5 := Lib.hid (SS4.out.below hb5)
              have T5 := Lib.hid (T4.out.then_below hb5)
              have HLT5 : Hid (∀ q, (Value.slice ma mn mc).ownBlock = some q → q < w5.heap.size) := Lib.hid SS5.out.lt
              clear hb5 HNX K6 K7 SS4 R4 T4 K4 k60 k61 k20 k21 k22 k23 k24
              have SA : Hid (SS (w5.alloc (.cells #[.string ts1, (.slice r5a r5n r5c)] 67)) (.slice ma mn mc) may) := Lib.hid (SS5.out.below (by go_grown))
              have KA : Hid (Bk 67 (w5.alloc (.cells #[.string ts1, (.slice r5a r5n r5c)] 67)) w5.heap.size #[.string ts1, (.slice r5a r5n r5c)]) := Lib.hid (Bk.new rfl)
              have RA : Hid (RowS (w5.alloc (.cells #[.string ts1, (.slice r5a r5n r5c)] 67)) (.slice r5a r5n r5c) (rs1 ++ [os])) := Lib.hid (R5.out.below (by go_grown))
              have K6A : Hid (Bk 67 (w5.alloc (.cells #[.string ts1, (.slice r5a r5n r5c)] 67)) g6 #[.string ts1, .slice r1a r1n r1c]) := Lib.hid K65.out.alloc
              have K7A : Hid (Bk 69 (w5.alloc (.cells #[.string ts1, (.slice r5a r5n r5c)] 67)) g7 #[.slice (some ⟨b0, o0, none⟩) n sc, .int .i64 xn, .int .i64 xk, .int .i64 xa]) := Lib.hid K75.out.alloc
              have TA : Hid (LM w b p (w5.alloc (.cells #[.string ts1, (.slice r5a r5n r5c)] 67)) p4 S4 l4) := Lib.hid (T5.out.then_below (by go_grown))
              have HSZ : Hid (w5.heap.size ≠ g6 ∧ w5.heap.size ≠ g7) := Lib.hid ⟨by have := K65.out.lt; omega, by have := K75.out.lt; omega⟩
              clear K65 K75 SS5 T5 R5
              have ETX : Hid (ts1 = ⟨(sn1 : Bs).toArray⟩) := Lib.hid HTS1.out.symm
              have k71 := K7A.out.cell 1
              simp only [List.getElem?_toArray, List.getElem?_cons_succ, List.getElem?_cons_zero] at k71
              have fe : ((i : Int) == (n : Int) - 1) = true := by simp; omega
              have fn : decide ((0 : Int) < xn) = true := decide_eq_true hlast.2
              have HLQ : may.length + 1 ≤ 3500000000000 := by have := HM.out; omega
              obtain ⟨v6, w6, hrun, hss6, hgr6, hv6⟩ := (SA.out.below (w' := (w5.alloc (.cells #[.string ts1, (.slice r5a r5n r5c)] 67)).alloc (.cells #[.string ts1, (.slice r5a r5n r5c)] 67)) (by go_grown)).more (s := (sn1, (rs1 ++ [os]))) 70 (w5.heap.size + 1) 1 (by rw [← ETX.out]; exact Bk.new (by simp)) (RA.out.below (by go_grown)) HLQ
              have SQ := SA.out.below (w' := (w5.alloc (.cells #[.string ts1, (.slice r5a r5n r5c)] 67)).alloc (.cells #[.string ts1, (.slice r5a r5n r5c)] 67)) (by go_grown)
              have T6 : Hid (LM w b p w6 p4 S4 l4) := Lib.hid (grown_lm (TA.out.then_below (by go_grown)) SQ (fun q e => (N6.out q e).2) hgr6)
              have K76 := grown_bk (K7A.out.alloc (o := .cells #[.string ts1, (.slice r5a r5n r5c)] 67)) (ss_ne SQ (K7A.out.alloc (o := .cells #[.string ts1, (.slice r5a r5n r5c)] 67)) (by decide)) hgr6
              have k76 := K76.cell 1
              simp only [List.getElem?_toArray, List.getElem?_cons_succ, List.getElem?_cons_zero] at k76
              have HSS6 := Lib.hid hss6
              have HRUN := Lib.hid hrun
              have HML : Hid ((may ++ [((sn1, (rs1 ++ [os])) : Stt)]).length ≤ 3000000000000) := Lib.hid (by rw [List.length_append, List.length_singleton]; have := HM.out; omega)
              clear hlast HLQ hrun hss6 hgr6 hv6 SQ K76 SA RA K6A K7A TA MB N6 RL HSZ
              go_wp2_with (at_builtin; refine Lib.wpList_append_run _ rfl _ _ 70 70 rfl _ _ rfl rfl v6 w6 HRUN.out ?_)
              refine (dead42 b _ _ _ _ _ w6 (Lib.hid T6.out.1.blk)).mono ?_
              rintro e w7 ⟨rfl, rfl⟩
              rw [HDD.out]
              go_wp2_with fail
              go_returns
              exact ⟨v6, p4, S4, l4, _, rfl, T6.out, HSS6.out, HML.out, HE.out⟩
          · have fcase : (((i : Int) == (n : Int) - 1) = true ∧ decide ((0 : Int) < xn) = false) ∨ ((i : Int) == (n : Int) - 1) = false := by
              by_cases h1 : i + 1 = n
              · exact .inl ⟨by simp; omega, decide_eq_false (fun h2 => har ⟨h1, h2⟩)⟩
              · exact .inr (by simp; omega)
            have VX := V2
            have K3 : Hid (Bk 46 (wr.alloc (.cells #[.int .i64 on, .int .i64 0, .int .i64 oa, .int .i64 ob, .string to] 46)) wr.heap.size #[.int .i64 on, .int .i64 0, .int .i64 oa, .int .i64 ob, .string to]) := K2
            have HI2 : Hid (S1.inn = 0 ∨ i + 1 = n ∧ 0 < xn) := Lib.hid (.inl (HI.out.resolve_right (by omega)))
            obtain ⟨S2, hS2⟩ : ∃ S, S = S1 := ⟨_, rfl⟩
            rw [← hS2] at VX HI2
            clear hS2 HI V2 K2
            have TB := Lib.hid (HLO.out.lm (Nat.le_refl _) VX.out.lm).tb
            obtain ⟨w3, hw3⟩ : ∃ w, w = (wr.alloc (.cells #[.int .i64 on, .int .i64 0, .int .i64 oa, .int .i64 ob, .string to] 46)) := ⟨_, rfl⟩
            obtain ⟨g12, hg12⟩ : ∃ g, g = wr.heap.size := ⟨_, rfl⟩
            have HW3 := Lib.hid (And.intro hw3 hg12)
            rw [← hw3, ← hg12] at K3
            rw [← hw3] at VX TB
            clear hw3 hg12
            rcases fcase with ⟨fe, fn⟩ | fe
            · have k21 := K3.out.cell 1
              have k24 := K3.out.cell 4
              simp only [List.getElem?_toArray, List.getElem?_cons_succ, List.getElem?_cons_zero] at k21 k24
              have hcall := lappend_any VX.out.lm.1 TB.out (by have := VX.out.ow.many; omega) os
              have hlc := VX.out.ow.lap os
              generalize lap S2 l1 os = xx at hcall hlc
              obtain ⟨cd, S4, l4⟩ := xx
              rw [← HTO.out] at hcall
              have HCALL := Lib.hid hcall
              have HLC := Lib.hid hlc
              clear hcall hlc
              rw [HW3.out.1, HW3.out.2] at k21 k24
              rw [HW3.out.1] at HCALL
              go_wp2_with fail
              rw [← HW3.out.1]
              rw [← HW3.out.1] at HCALL
              rw [← HW3.out.2]
              clear HW3 d0 d1 d2 d3 d4 hix fw x0 x2
              refine HCALL.out.mono ?_
              rintro e w4 ⟨rfl, p4, hm4⟩
              have KN : Hid (Kin w3 w4) := Lib.hid (hm4.kin VX.out.lm.1)
              have LM4 := Lib.hid hm4
              have K4 : Hid (Bk 46 w4 g12 #[.int .i64 on, .int .i64 0, .int .i64 oa, .int .i64 ob, .string to]) := Lib.hid (KN.out.bk K3.out (.inr (.inl rfl)))
              clear hm4 HCALL k21 k24 K3 k70 k71 k72
              rcases HLC.out with ⟨h0, h⟩ | ⟨h0, h, h1⟩ | ⟨h0, hg, hd, h1, h, h2⟩
              · simp only [Prod.mk.injEq] at h h0
                obtain ⟨rfl, rfl⟩ := h
                have V4 := Lib.hid (VX.out.step HBW.out LM4.out VX.out.ow)
                clear VX LM4 HLC KN K4
                have y0 : ((cd : Int) != 0) = true := by rcases h0 with rfl | rfl <;> rfl
                have y2 : ((cd : Int) != 2) = true := by rcases h0 with rfl | rfl <;> rfl
                clear h0
                go_wp2_with fail
                go_roundw
                case rel => exact ⟨i + 1, p4, S4, l4, sn1, rs1, rv1, m, may, by omega, by go_num, V4, Lib.hid (HI2.out.imp id And.left), Lib.hid (by have := HM.out; omega)⟩
                case measure => simp [intOf]; omega
              · simp only at h0 h h1
                subst h0
                have OW4 := Lib.hid h
                have HI4 : Hid (S4.inn = 0 ∨ i + 1 = n) := Lib.hid (HI2.out.imp h1 And.left)
                have K6 : Hid (Bk 67 w4 g6 #[.string ⟨sn1.toArray⟩, rv1]) := Lib.hid (KN.out.bk VX.out.k6 (.inr (.inr (.inl rfl))))
                have K7 : Hid (Bk 69 w4 g7 #[.slice (some ⟨b0, o0, none⟩) n sc, .int .i64 xn, .int .i64 xk, .int .i64 xa]) := Lib.hid (KN.out.bk VX.out.k7 (.inr (.inr (.inr rfl))))
                have SS4 : Hid (SS w4 (.slice ma mn mc) may) := Lib.hid (KN.out.ss VX.out.ss)
                have R4 : Hid (RowS w4 rv1 rs1) := Lib.hid (KN.out.rowS VX.out.row)
                have T4 : Hid (LM w b p w4 p4 S4 l4) := Lib.hid (VX.out.lm.trans LM4.out HBW.out)
                have MB := Lib.hid VX.out.mb
                have N6 := Lib.hid VX.out.n6
                have RL : Hid (rs1.length + 1 ≤ 4194304) := Lib.hid (by have h1 := VX.out.ow.many; have h2 := VX.out.ow.n; omega)
                clear VX LM4 HLC KN
                have k60 := K6.out.cell 0
                have k61 := K6.out.cell 1
                have k20 := K4.out.cell 0
                have k21 := K4.out.cell 1
                have k22 := K4.out.cell 2
                have k23 := K4.out.cell 3
                have k24 := K4.out.cell 4
                simp only [List.getElem?_toArray, List.getElem?_cons_succ, List.getElem?_cons_zero] at k60 k61 k20 k21 k22 k23 k24
                have hnx := next_app (sn1, rs1) rv1 on oa ob os w4 R4.out RL.out
                unfold stv at hnx
                rw [← HTO.out] at hnx
                have HNX := Lib.hid hnx
                clear hnx
                obtain ⟨r1a, r1c, hrv1⟩ := R4.out.shape
                obtain ⟨r1n, hr1n⟩ : ∃ a, a = rs1.length := ⟨_, rfl⟩
                rw [← hr1n] at hrv1
                subst hrv1
                clear hr1n
                generalize hts1 : (⟨sn1.toArray⟩ : ByteArray) = ts1 at k60 K6 HNX
                have HTS1 := Lib.hid hts1
                clear hts1
                go_wp2_with fail
                refine HNX.out.mono ?_
                rintro e w5 ⟨rv5, rfl, hr5, hb5, hf5⟩
                have R5 := Lib.hid hr5
                obtain ⟨r5a, r5c, hrv5⟩ := hr5.shape
                obtain ⟨r5n, hr5n⟩ : ∃ a, a = ((rs1 ++ [os]) : List Bs).length := ⟨_, rfl⟩
                rw [← hr5n] at hrv5
                clear hr5 hf5 hr5n
                subst hrv5
                have K65 := Lib.hid (K6.out.below hb5)
                have K75 := Lib.hid (K7.out.below hb5)
                have SS5 := Lib.hid (SS4.out.below hb5)
                have T5 := Lib.hid (T4.out.then_below hb5)
                have HLT5 : Hid (∀ q, (Value.slice ma mn mc).ownBlock = some q → q < w5.heap.size) := Lib.hid SS5.out.lt
                clear hb5 HNX K6 K7 SS4 R4 T4 K4 k60 k61 k20 k21 k22 k23 k24
                have SA : Hid (SS (w5.alloc (.cells #[.string ts1, (.slice r5a r5n r5c)] 67)) (.slice ma mn mc) may) := Lib.hid (SS5.out.below (by go_grown))
                have KA : Hid (Bk 67 (w5.alloc (.cells #[.string ts1, (.slice r5a r5n r5c)] 67)) w5.heap.size #[.string ts1, (.slice r5a r5n r5c)]) := Lib.hid (Bk.new rfl)
                have RA : Hid (RowS (w5.alloc (.cells #[.string ts1, (.slice r5a r5n r5c)] 67)) (.slice r5a r5n r5c) (rs1 ++ [os])) := Lib.hid (R5.out.below (by go_grown))
                have K6A : Hid (Bk 67 (w5.alloc (.cells #[.string ts1, (.slice r5a r5n r5c)] 67)) g6 #[.string ts1, .slice r1a r1n r1c]) := Lib.hid K65.out.alloc
                have K7A : Hid (Bk 69 (w5.alloc (.cells #[.string ts1, (.slice r5a r5n r5c)] 67)) g7 #[.slice (some ⟨b0, o0, none⟩) n sc, .int .i64 xn, .int .i64 xk, .int .i64 xa]) := Lib.hid K75.out.alloc
                have TA : Hid (LM w b p (w5.alloc (.cells #[.string ts1, (.slice r5a r5n r5c)] 67)) p4 S4 l4) := Lib.hid (T5.out.then_below (by go_grown))
                have HSZ : Hid (w5.heap.size ≠ g6 ∧ w5.heap.size ≠ g7) := Lib.hid ⟨by have := K65.out.lt; omega, by have := K75.out.lt; omega⟩
                clear K65 K75 SS5 T5 R5
                have ETX : Hid (ts1 = ⟨(sn1 : Bs).toArray⟩) := Lib.hid HTS1.out.symm
                have k60 := K6A.out.cell 0
                have k61 := K6A.out.cell 1
                have f60 := K6A.out.fro 0
                have f61 := K6A.out.fro 1
                simp only [List.getElem?_toArray, List.getElem?_cons_succ, List.getElem?_cons_zero] at k60 k61
                have SB := SA.out.set2 K6A.out (fun q e => (N6.out q e).1) (.string ts1) (.slice r5a r5n r5c)
                have RB := RA.out.set2 K6A.out (.string ts1) (.slice r5a r5n r5c)
                have KB := KA.out.oth2 HSZ.out.1 (.string ts1) (.slice r5a r5n r5c)
                have K7B := K7A.out.oth2 HG.out.2.symm (.string ts1) (.slice r5a r5n r5c)
                have K6B := K6A.out.put2 (x := .string ts1) (y := (.slice r5a r5n r5c))
                have TB4 := TA.out.set2 K6A.out HG.out.1 (.string ts1) (.slice r5a r5n r5c)
                have q0 := KB.cell 0
                have q1 := KB.cell 1
                simp only [List.getElem?_toArray, List.getElem?_cons_succ, List.getElem?_cons_zero] at q0 q1
                have HLQ : may.length + 1 ≤ 3500000000000 := by have := HM.out; omega
                have hbq : Below (((w5.alloc (.cells #[.string ts1, (.slice r5a r5n r5c)] 67)).setCell ⟨g6, 0, none⟩ (.string ts1)).setCell ⟨g6, 1, none⟩ (.slice r5a r5n r5c)).heap.size (((w5.alloc (.cells #[.string ts1, (.slice r5a r5n r5c)] 67)).setCell ⟨g6, 0, none⟩ (.string ts1)).setCell ⟨g6, 1, none⟩ (.slice r5a r5n r5c)) ((((w5.alloc (.cells #[.string ts1, (.slice r5a r5n r5c)] 67)).setCell ⟨g6, 0, none⟩ (.string ts1)).setCell ⟨g6, 1, none⟩ (.slice r5a r5n r5c)).alloc (.cells #[.string ts1, (.slice r5a r5n r5c)] 67)) := by go_grown
                have hqs : (((w5.alloc (.cells #[.string ts1, (.slice r5a r5n r5c)] 67)).setCell ⟨g6, 0, none⟩ (.string ts1)).setCell ⟨g6, 1, none⟩ (.slice r5a r5n r5c)).heap.size = w5.heap.size + 1 := by simp
                have SQ := SB.below hbq
                obtain ⟨v6, w6, hrun, hss6, hgr6, hv6⟩ := SQ.more (s := (sn1, (rs1 ++ [os]))) 70 (w5.heap.size + 1) 1 (by rw [← ETX.out]; exact Bk.new hqs.symm) (RB.below hbq) HLQ
                have T6 := grown_lm (TB4.then_below hbq) SQ (fun q e => (N6.out q e).2) hgr6
                have K76 := grown_bk (K7B.below hbq) (ss_ne SQ (K7B.below hbq) (by decide)) hgr6
                have K66 := grown_bk (K6B.below hbq) (fun q e => (N6.out q e).1) hgr6
                have KN6 := grown_bk (KB.below hbq) (fun q e e2 => by have h1 := N6.out q e; have h2 := HLT5.out q e; omega) hgr6
                have R6 := grown_row (RB.below hbq) SQ hgr6
                have HRUN := Lib.hid hrun
                have NV : ∀ q, v6.ownBlock = some q → q ≠ g6 ∧ w.heap.size ≤ q := fun q e => by
                  rcases hv6 with h | h
                  · exact N6.out q (h ▸ e)
                  · have h1 := h q e
                    have h2 := (K6B.below hbq).lt
                    have h3 := TB4.2.2.1.size
                    have h4 := hbq.size
                    exact ⟨by omega, by omega⟩
                rw [ETX.out] at K66
                have V6 : Hid (LV w b p g6 g7 #[.slice (some ⟨b0, o0, none⟩) n sc, .int .i64 xn, .int .i64 xk, .int .i64 xa] w6 p4 S4 l4 sn1 (rs1 ++ [os]) (.slice r5a r5n r5c) m (may ++ [(sn1, (rs1 ++ [os]))]) v6) := Lib.hid ⟨T6, OW4.out, R6, K66, K76, hss6, MB.out.app os, NV⟩
                have HML : Hid ((may ++ [((sn1, (rs1 ++ [os])) : Stt)]).length ≤ i + 1 + 1) := Lib.hid (by rw [List.length_append, List.length_singleton]; have := HM.out; omega)
                clear hrun hss6 hgr6 hv6 SQ T6 K76 K66 KN6 R6 NV SB RB KB K7B K6B TB4 SA RA KA K6A K7A TA MB N6 RL HSZ hbq HLQ
                go_wp2_with (at_builtin; refine Lib.wpList_append_run _ rfl _ _ 70 70 rfl _ _ rfl rfl v6 w6 HRUN.out ?_)
                go_roundw
                case rel => exact ⟨i + 1, p4, S4, l4, sn1, (rs1 ++ [os]), _, m, _, by omega, by go_num, V6, HI4, HML⟩
                case measure => simp [intOf]; omega
              · exact absurd ((HI2.out).resolve_left h1) har
            · have k21 := K3.out.cell 1
              have k24 := K3.out.cell 4
              simp only [List.getElem?_toArray, List.getElem?_cons_succ, List.getElem?_cons_zero] at k21 k24
              have hcall := lappend_any VX.out.lm.1 TB.out (by have := VX.out.ow.many; omega) os
              have hlc := VX.out.ow.lap os
              generalize lap S2 l1 os = xx at hcall hlc
              obtain ⟨cd, S4, l4⟩ := xx
              rw [← HTO.out] at hcall
              have HCALL := Lib.hid hcall
              have HLC := Lib.hid hlc
              clear hcall hlc
              rw [HW3.out.1, HW3.out.2] at k21 k24
              rw [HW3.out.1] at HCALL
              go_wp2_with fail
              rw [← HW3.out.1]
              rw [← HW3.out.1] at HCALL
              rw [← HW3.out.2]
              clear HW3 d0 d1 d2 d3 d4 hix fw x0 x2
              refine HCALL.out.mono ?_
              rintro e w4 ⟨rfl, p4, hm4⟩
              have KN : Hid (Kin w3 w4) := Lib.hid (hm4.kin VX.out.lm.1)
              have LM4 := Lib.hid hm4
              have K4 : Hid (Bk 46 w4 g12 #[.int .i64 on, .int .i64 0, .int .i64 oa, .int .i64 ob, .string to]) := Lib.hid (KN.out.bk K3.out (.inr (.inl rfl)))
              clear hm4 HCALL k21 k24 K3 k70 k71 k72
              rcases HLC.out with ⟨h0, h⟩ | ⟨h0, h, h1⟩ | ⟨h0, hg, hd, h1, h, h2⟩
              · simp only [Prod.mk.injEq] at h h0
                obtain ⟨rfl, rfl⟩ := h
                have V4 := Lib.hid (VX.out.step HBW.out LM4.out VX.out.ow)
                clear VX LM4 HLC KN K4
                have y0 : ((cd : Int) != 0) = true := by rcases h0 with rfl | rfl <;> rfl
                have y2 : ((cd : Int) != 2) = true := by rcases h0 with rfl | rfl <;> rfl
                clear h0
                go_wp2_with fail
                go_roundw
                case rel => exact ⟨i + 1, p4, S4, l4, sn1, rs1, rv1, m, may, by omega, by go_num, V4, Lib.hid (HI2.out.imp id And.left), Lib.hid (by have := HM.out; omega)⟩
                case measure => simp [intOf]; omega
              · simp only at h0 h h1
                subst h0
                have OW4 := Lib.hid h
                have HI4 : Hid (S4.inn = 0 ∨ i + 1 = n) := Lib.hid (HI2.out.imp h1 And.left)
                have K6 : Hid (Bk 67 w4 g6 #[.string ⟨sn1.toArray⟩, rv1]) := Lib.hid (KN.out.bk VX.out.k6 (.inr (.inr (.inl rfl))))
                have K7 : Hid (Bk 69 w4 g7 #[.slice (some ⟨b0, o0, none⟩) n sc, .int .i64 xn, .int .i64 xk, .int .i64 xa]) := Lib.hid (KN.out.bk VX.out.k7 (.inr (.inr (.inr rfl))))
                have SS4 : Hid (SS w4 (.slice ma mn mc) may) := Lib.hid (KN.out.ss VX.out.ss)
                have R4 : Hid (RowS w4 rv1 rs1) := Lib.hid (KN.out.rowS VX.out.row)
                have T4 : Hid (LM w b p w4 p4 S4 l4) := Lib.hid (VX.out.lm.trans LM4.out HBW.out)
                have MB := Lib.hid VX.out.mb
                have N6 := Lib.hid VX.out.n6
                have RL : Hid (rs1.length + 1 ≤ 4194304) := Lib.hid (by have h1 := VX.out.ow.many; have h2 := VX.out.ow.n; omega)
                clear VX LM4 HLC KN
                have k60 := K6.out.cell 0
                have k61 := K6.out.cell 1
                have k20 := K4.out.cell 0
                have k21 := K4.out.cell 1
                have k22 := K4.out.cell 2
                have k23 := K4.out.cell 3
                have k24 := K4.out.cell 4
                simp only [List.getElem?_toArray, List.getElem?_cons_succ, List.getElem?_cons_zero] at k60 k61 k20 k21 k22 k23 k24
                have hnx := next_app (sn1, rs1) rv1 on oa ob os w4 R4.out RL.out
                unfold stv at hnx
                rw [← HTO.out] at hnx
                have HNX := Lib.hid hnx
                clear hnx
                obtain ⟨r1a, r1c, hrv1⟩ := R4.out.shape
                obtain ⟨r1n, hr1n⟩ : ∃ a, a = rs1.length := ⟨_, rfl⟩
                rw [← hr1n] at hrv1
                subst hrv1
                clear hr1n
                generalize hts1 : (⟨sn1.toArray⟩ : ByteArray) = ts1 at k60 K6 HNX
                have HTS1 := Lib.hid hts1
                clear hts1
                go_wp2_with fail
                refine HNX.out.mono ?_
                rintro e w5 ⟨rv5, rfl, hr5, hb5, hf5⟩
                have R5 := Lib.hid hr5
                obtain ⟨r5a, r5c, hrv5⟩ := hr5.shape
                obtain ⟨r5n, hr5n⟩ : ∃ a, a = ((rs1 ++ [os]) : List Bs).length := ⟨_, rfl⟩
                rw [← hr5n] at hrv5
                clear hr5 hf5 hr5n
                subst hrv5
                have K65 := Lib.hid (K6.out.below hb5)
                have K75 := Lib.hid (K7.out.below hb5)
                have SS5 := Lib.hid (SS4.out.below hb5)
                have T5 := Lib.hid (T4.out.then_below hb5)
                have HLT5 : Hid (∀ q, (Value.slice ma mn mc).ownBlock = some q → q < w5.heap.size) := Lib.hid SS5.out.lt
                clear hb5 HNX K6 K7 SS4 R4 T4 K4 k60 k61 k20 k21 k22 k23 k24
                have SA : Hid (SS (w5.alloc (.cells #[.string ts1, (.slice r5a r5n r5c)] 67)) (.slice ma mn mc) may) := Lib.hid (SS5.out.below (by go_grown))
                have KA : Hid (Bk 67 (w5.alloc (.cells #[.string ts1, (.slice r5a r5n r5c)] 67)) w5.heap.size #[.string ts1, (.slice r5a r5n r5c)]) := Lib.hid (Bk.new rfl)
                have RA : Hid (RowS (w5.alloc (.cells #[.string ts1, (.slice r5a r5n r5c)] 67)) (.slice r5a r5n r5c) (rs1 ++ [os])) := Lib.hid (R5.out.below (by go_grown))
                have K6A : Hid (Bk 67 (w5.alloc (.cells #[.string ts1, (.slice r5a r5n r5c)] 67)) g6 #[.string ts1, .slice r1a r1n r1c]) := Lib.hid K65.out.alloc
                have K7A : Hid (Bk 69 (w5.alloc (.cells #[.string ts1, (.slice r5a r5n r5c)] 67)) g7 #[.slice (some ⟨b0, o0, none⟩) n sc, .int .i64 xn, .int .i64 xk, .int .i64 xa]) := Lib.hid K75.out.alloc
                have TA : Hid (LM w b p (w5.alloc (.cells #[.string ts1, (.slice r5a r5n r5c)] 67)) p4 S4 l4) := Lib.hid (T5.out.then_below (by go_grown))
                have HSZ : Hid (w5.heap.size ≠ g6 ∧ w5.heap.size ≠ g7) := Lib.hid ⟨by have := K65.out.lt; omega, by have := K75.out.lt; omega⟩
                clear K65 K75 SS5 T5 R5
                have ETX : Hid (ts1 = ⟨(sn1 : Bs).toArray⟩) := Lib.hid HTS1.out.symm
                have k60 := K6A.out.cell 0
                have k61 := K6A.out.cell 1
                have f60 := K6A.out.fro 0
                have f61 := K6A.out.fro 1
                simp only [List.getElem?_toArray, List.getElem?_cons_succ, List.getElem?_cons_zero] at k60 k61
                have SB := SA.out.set2 K6A.out (fun q e => (N6.out q e).1) (.string ts1) (.slice r5a r5n r5c)
                have RB := RA.out.set2 K6A.out (.string ts1) (.slice r5a r5n r5c)
                have KB := KA.out.oth2 HSZ.out.1 (.string ts1) (.slice r5a r5n r5c)
                have K7B := K7A.out.oth2 HG.out.2.symm (.string ts1) (.slice r5a r5n r5c)
                have K6B := K6A.out.put2 (x := .string ts1) (y := (.slice r5a r5n r5c))
                have TB4 := TA.out.set2 K6A.out HG.out.1 (.string ts1) (.slice r5a r5n r5c)
                have q0 := KB.cell 0
                have q1 := KB.cell 1
                simp only [List.getElem?_toArray, List.getElem?_cons_succ, List.getElem?_cons_zero] at q0 q1
                have HLQ : may.length + 1 ≤ 3500000000000 := by have := HM.out; omega
                have hbq : Below (((w5.alloc (.cells #[.string ts1, (.slice r5a r5n r5c)] 67)).setCell ⟨g6, 0, none⟩ (.string ts1)).setCell ⟨g6, 1, none⟩ (.slice r5a r5n r5c)).heap.size (((w5.alloc (.cells #[.string ts1, (.slice r5a r5n r5c)] 67)).setCell ⟨g6, 0, none⟩ (.string ts1)).setCell ⟨g6, 1, none⟩ (.slice r5a r5n r5c)) ((((w5.alloc (.cells #[.string ts1, (.slice r5a r5n r5c)] 67)).setCell ⟨g6, 0, none⟩ (.string ts1)).setCell ⟨g6, 1, none⟩ (.slice r5a r5n r5c)).alloc (.cells #[.string ts1, (.slice r5a r5n r5c)] 67)) := by go_grown
                have hqs : (((w5.alloc (.cells #[.string ts1, (.slice r5a r5n r5c)] 67)).setCell ⟨g6, 0, none⟩ (.string ts1)).setCell ⟨g6, 1, none⟩ (.slice r5a r5n r5c)).heap.size = w5.heap.size + 1 := by simp
                have SQ := SB.below hbq
                obtain ⟨v6, w6, hrun, hss6, hgr6, hv6⟩ := SQ.more (s := (sn1, (rs1 ++ [os]))) 70 (w5.heap.size + 1) 1 (by rw [← ETX.out]; exact Bk.new hqs.symm) (RB.below hbq) HLQ
                have T6 := grown_lm (TB4.then_below hbq) SQ (fun q e => (N6.out q e).2) hgr6
                have K76 := grown_bk (K7B.below hbq) (ss_ne SQ (K7B.below hbq) (by decide)) hgr6
                have K66 := grown_bk (K6B.below hbq) (fun q e => (N6.out q e).1) hgr6
                have KN6 := grown_bk (KB.below hbq) (fun q e e2 => by have h1 := N6.out q e; have h2 := HLT5.out q e; omega) hgr6
                have R6 := grown_row (RB.below hbq) SQ hgr6
                have HRUN := Lib.hid hrun
                have NV : ∀ q, v6.ownBlock = some q → q ≠ g6 ∧ w.heap.size ≤ q := fun q e => by
                  rcases hv6 with h | h
                  · exact N6.out q (h ▸ e)
                  · have h1 := h q e
                    have h2 := (K6B.below hbq).lt
                    have h3 := TB4.2.2.1.size
                    have h4 := hbq.size
                    exact ⟨by omega, by omega⟩
                rw [ETX.out] at K66
                have V6 : Hid (LV w b p g6 g7 #[.slice (some ⟨b0, o0, none⟩) n sc, .int .i64 xn, .int .i64 xk, .int .i64 xa] w6 p4 S4 l4 sn1 (rs1 ++ [os]) (.slice r5a r5n r5c) m (may ++ [(sn1, (rs1 ++ [os]))]) v6) := Lib.hid ⟨T6, OW4.out, R6, K66, K76, hss6, MB.out.app os, NV⟩
                have HML : Hid ((may ++ [((sn1, (rs1 ++ [os])) : Stt)]).length ≤ i + 1 + 1) := Lib.hid (by rw [List.length_append, List.length_singleton]; have := HM.out; omega)
                clear hrun hss6 hgr6 hv6 SQ T6 K76 K66 KN6 R6 NV SB RB KB K7B K6B TB4 SA RA KA K6A K7A TA MB N6 RL HSZ hbq HLQ
                go_wp2_with (at_builtin; refine Lib.wpList_append_run _ rfl _ _ 70 70 rfl _ _ rfl rfl v6 w6 HRUN.out ?_)
                go_roundw
                case rel => exact ⟨i + 1, p4, S4, l4, sn1, (rs1 ++ [os]), _, m, _, by omega, by go_num, V6, HI4, HML⟩
                case measure => simp [intOf]; omega
              · exact absurd ((HI2.out).resolve_left h1) har
        · by_cases har : i + 1 = n ∧ 0 < xn
          · have fe : ((i : Int) == (n : Int) - 1) = true := by simp; omega
            have fn : decide ((0 : Int) < xn) = true := decide_eq_true har.2
            have harm := arm_any p1 S1 xn (max 0 xk) HKB.out.1 (by have := HKB.out.2; omega) _ V2.out.lm.1.dk
            rw [arm_pos V2.out.ow.gone har.2, show p1.v = .pointer (some ⟨pb, 0, none⟩) by unfold Fp.v; rw [V2.out.lm.2.1, HPB.out]] at harm
            have HARM := Lib.hid harm
            clear harm
            go_wp2_with fail
            refine HARM.out.mono ?_
            rintro e w3 ⟨rfl, hd3, ho3⟩
            have OW3 : LOwn (S1.power false xn.toNat (max 0 xk).toNat) l1 sn1 rs1 m := by
              have := V2.out.ow.arm xn (max 0 xk) HKB.out.1 (by have := HKB.out.2; omega)
              rwa [arm_pos V2.out.ow.gone har.2] at this
            have hm3 := LM.of_mut V2.out.lm.1 (by rw [World.size_alloc]; omega) (mut_head hd3 ho3)
            have K3 : Hid (Bk 46 w3 wr.heap.size #[.int .i64 on, .int .i64 1, .int .i64 oa, .int .i64 ob, .string to]) := Lib.hid ((hm3.kin V2.out.lm.1).bk K2.out (.inr (.inl rfl)))
            have VX := Lib.hid (V2.out.step HBW.out hm3 OW3)
            have HI2 : Hid ((S1.power false xn.toNat (max 0 xk).toNat).inn = 0 ∨ i + 1 = n ∧ 0 < xn) := Lib.hid (.inr har)
            clear hd3 ho3 OW3 hm3 HARM fe fn V2 K2 har HI
            generalize S1.power false xn.toNat (max 0 xk).toNat = S2 at VX HI2
            obtain ⟨g12, hg12⟩ : ∃ g, g = wr.heap.size := ⟨_, rfl⟩
            rw [← hg12] at K3 ⊢
            clear hg12
            have TB := Lib.hid (HLO.out.lm (Nat.le_refl _) VX.out.lm).tb
            clear d0 d1 d2 d3 d4 hix fw x0 x2 k80 k81 k82

            have k21 := K3.out.cell 1
            have k24 := K3.out.cell 4
            simp only [List.getElem?_toArray, List.getElem?_cons_succ, List.getElem?_cons_zero] at k21 k24
            have hcall := lsync_any VX.out.lm.1 TB.out
            have hlc := VX.out.ow.lsync
            generalize lsync S2 l1 = xx at hcall hlc
            obtain ⟨cd, S4, l4⟩ := xx

            have HCALL := Lib.hid hcall
            have HLC := Lib.hid hlc
            clear hcall hlc
            go_wp2_with fail
            refine HCALL.out.mono ?_
            rintro e w4 ⟨rfl, p4, hm4⟩
            have KN : Hid (Kin w3 w4) := Lib.hid (hm4.kin VX.out.lm.1)
            have LM4 := Lib.hid hm4
            have K4 : Hid (Bk 46 w4 g12 #[.int .i64 on, .int .i64 1, .int .i64 oa, .int .i64 ob, .string to]) := Lib.hid (KN.out.bk K3.out (.inr (.inl rfl)))
            clear hm4 HCALL k21 k24 K3 k70 k71 k72
            rcases HLC.out with ⟨h0, h⟩ | ⟨h0, h, h1⟩ | ⟨h0, hg, hd, h1, h, h2⟩
            · simp only [Prod.mk.injEq] at h h0
              obtain ⟨rfl, rfl⟩ := h
              have V4 := Lib.hid (VX.out.step HBW.out LM4.out VX.out.ow)
              clear VX LM4 HLC KN K4
              have y0 : ((cd : Int) != 0) = true := by rcases h0 with rfl | rfl <;> rfl
              have y2 : ((cd : Int) != 2) = true := by rcases h0 with rfl | rfl <;> rfl
              clear h0
              go_wp2_with fail
              go_roundw
              case rel => exact ⟨i + 1, p4, S4, l4, sn1, rs1, rv1, m, may, by omega, by go_num, V4, Lib.hid (HI2.out.imp id And.left), Lib.hid (by have := HM.out; omega)⟩
              case measure => simp [intOf]; omega
            · simp only at h0 h h1
              subst h0
              have OW4 := Lib.hid h
              have HI4 : Hid (S4.inn = 0 ∨ i + 1 = n) := Lib.hid (HI2.out.imp h1 And.left)
              have K6 : Hid (Bk 67 w4 g6 #[.string ⟨sn1.toArray⟩, rv1]) := Lib.hid (KN.out.bk VX.out.k6 (.inr (.inr (.inl rfl))))
              have K7 : Hid (Bk 69 w4 g7 #[.slice (some ⟨b0, o0, none⟩) n sc, .int .i64 xn, .int .i64 xk, .int .i64 xa]) := Lib.hid (KN.out.bk VX.out.k7 (.inr (.inr (.inr rfl))))
              have SS4 : Hid (SS w4 (.slice ma mn mc) may) := Lib.hid (KN.out.ss VX.out.ss)
              have R4 : Hid (RowS w4 rv1 rs1) := Lib.hid (KN.out.rowS VX.out.row)
              have T4 : Hid (LM w b p w4 p4 S4 l4) := Lib.hid (VX.out.lm.trans LM4.out HBW.out)
              have MB := Lib.hid VX.out.mb
              have N6 := Lib.hid VX.out.n6
              have RL : Hid (rs1.length + 1 ≤ 4194304) := Lib.hid (by have h1 := VX.out.ow.many; have h2 := VX.out.ow.n; omega)
              clear VX LM4 HLC KN
              have k60 := K6.out.cell 0
              have k61 := K6.out.cell 1
              have k20 := K4.out.cell 0
              have k21 := K4.out.cell 1
              have k22 := K4.out.cell 2
              have k23 := K4.out.cell 3
              have k24 := K4.out.cell 4
              simp only [List.getElem?_toArray, List.getElem?_cons_succ, List.getElem?_cons_zero] at k60 k61 k20 k21 k22 k23 k24
              have hnx := next_sync (sn1, rs1) rv1 on oa ob os w4 R4.out
              unfold stv at hnx
              rw [← HTO.out] at hnx
              have HNX := Lib.hid hnx
              clear hnx
              obtain ⟨r1a, r1c, hrv1⟩ := R4.out.shape
              obtain ⟨r1n, hr1n⟩ : ∃ a, a = rs1.length := ⟨_, rfl⟩
              rw [← hr1n] at hrv1
              subst hrv1
              clear hr1n
              generalize hts1 : (⟨sn1.toArray⟩ : ByteArray) = ts1 at k60 K6 HNX
              have HTS1 := Lib.hid hts1
              clear hts1
              go_wp2_with fail
              refine HNX.out.mono ?_
              rintro e w5 ⟨rfl, hb5⟩
              have R5 : Hid (RowS w5 (.slice r1a r1n r1c) rs1) := Lib.hid (R4.out.below hb5)
              have K65 := Lib.hid (K6.out.below hb5)
              have K75 := Lib.hid (K7.out.below hb5)
              have SS5 := Lib.hid (SS4.out.below hb5)
              have T5 := Lib.hid (T4.out.then_below hb5)
              have HLT5 : Hid (∀ q, (Value.slice ma mn mc).ownBlock = some q → q < w5.heap.size) := Lib.hid SS5.out.lt
              clear hb5 HNX K6 K7 SS4 R4 T4 K4 k60 k61 k20 k21 k22 k23 k24
              have SA : Hid (SS (w5.alloc (.cells #[.string ts1, (.slice r1a r1n r1c)] 67)) (.slice ma mn mc) may) := Lib.hid (SS5.out.below (by go_grown))
              have KA : Hid (Bk 67 (w5.alloc (.cells #[.string ts1, (.slice r1a r1n r1c)] 67)) w5.heap.size #[.string ts1, (.slice r1a r1n r1c)]) := Lib.hid (Bk.new rfl)
              have RA : Hid (RowS (w5.alloc (.cells #[.string ts1, (.slice r1a r1n r1c)] 67)) (.slice r1a r1n r1c) rs1) := Lib.hid (R5.out.below (by go_grown))
              have K6A : Hid (Bk 67 (w5.alloc (.cells #[.string ts1, (.slice r1a r1n r1c)] 67)) g6 #[.string ts1, .slice r1a r1n r1c]) := Lib.hid K65.out.alloc
              have K7A : Hid (Bk 69 (w5.alloc (.cells #[.string ts1, (.slice r1a r1n r1c)] 67)) g7 #[.slice (some ⟨b0, o0, none⟩) n sc, .int .i64 xn, .int .i64 xk, .int .i64 xa]) := Lib.hid K75.out.alloc
              have TA : Hid (LM w b p (w5.alloc (.cells #[.string ts1, (.slice r1a r1n r1c)] 67)) p4 S4 l4) := Lib.hid (T5.out.then_below (by go_grown))
              have HSZ : Hid (w5.heap.size ≠ g6 ∧ w5.heap.size ≠ g7) := Lib.hid ⟨by have := K65.out.lt; omega, by have := K75.out.lt; omega⟩
              clear K65 K75 SS5 T5 R5
              have ETX : Hid (ts1 = ⟨(sn1 : Bs).toArray⟩) := Lib.hid HTS1.out.symm
              have k60 := K6A.out.cell 0
              have k61 := K6A.out.cell 1
              have f60 := K6A.out.fro 0
              have f61 := K6A.out.fro 1
              simp only [List.getElem?_toArray, List.getElem?_cons_succ, List.getElem?_cons_zero] at k60 k61
              have SB := SA.out.set2 K6A.out (fun q e => (N6.out q e).1) (.string ts1) (.slice r1a r1n r1c)
              have RB := RA.out.set2 K6A.out (.string ts1) (.slice r1a r1n r1c)
              have KB := KA.out.oth2 HSZ.out.1 (.string ts1) (.slice r1a r1n r1c)
              have K7B := K7A.out.oth2 HG.out.2.symm (.string ts1) (.slice r1a r1n r1c)
              have K6B := K6A.out.put2 (x := .string ts1) (y := (.slice r1a r1n r1c))
              have TB4 := TA.out.set2 K6A.out HG.out.1 (.string ts1) (.slice r1a r1n r1c)
              have q0 := KB.cell 0
              have q1 := KB.cell 1
              simp only [List.getElem?_toArray, List.getElem?_cons_succ, List.getElem?_cons_zero] at q0 q1
              have HLQ : may.length + 1 ≤ 3500000000000 := by have := HM.out; omega
              have hbq : Below (((w5.alloc (.cells #[.string ts1, (.slice r1a r1n r1c)] 67)).setCell ⟨g6, 0, none⟩ (.string ts1)).setCell ⟨g6, 1, none⟩ (.slice r1a r1n r1c)).heap.size (((w5.alloc (.cells #[.string ts1, (.slice r1a r1n r1c)] 67)).setCell ⟨g6, 0, none⟩ (.string ts1)).setCell ⟨g6, 1, none⟩ (.slice r1a r1n r1c)) ((((w5.alloc (.cells #[.string ts1, (.slice r1a r1n r1c)] 67)).setCell ⟨g6, 0, none⟩ (.string ts1)).setCell ⟨g6, 1, none⟩ (.slice r1a r1n r1c)).alloc (.cells #[.string ts1, (.slice r1a r1n r1c)] 67)) := by go_grown
              have hqs : (((w5.alloc (.cells #[.string ts1, (.slice r1a r1n r1c)] 67)).setCell ⟨g6, 0, none⟩ (.string ts1)).setCell ⟨g6, 1, none⟩ (.slice r1a r1n r1c)).heap.size = w5.heap.size + 1 := by simp
              have SQ := SB.below hbq
              obtain ⟨v6, w6, hrun, hss6, hgr6, hv6⟩ := SQ.more (s := (sn1, rs1)) 70 (w5.heap.size + 1) 1 (by rw [← ETX.out]; exact Bk.new hqs.symm) (RB.below hbq) HLQ
              have T6 := grown_lm (TB4.then_below hbq) SQ (fun q e => (N6.out q e).2) hgr6
              have K76 := grown_bk (K7B.below hbq) (ss_ne SQ (K7B.below hbq) (by decide)) hgr6
              have K66 := grown_bk (K6B.below hbq) (fun q e => (N6.out q e).1) hgr6
              have KN6 := grown_bk (KB.below hbq) (fun q e e2 => by have h1 := N6.out q e; have h2 := HLT5.out q e; omega) hgr6
              have R6 := grown_row (RB.below hbq) SQ hgr6
              have HRUN := Lib.hid hrun
              have NV : ∀ q, v6.ownBlock = some q → q ≠ g6 ∧ w.heap.size ≤ q := fun q e => by
                rcases hv6 with h | h
                · exact N6.out q (h ▸ e)
                · have h1 := h q e
                  have h2 := (K6B.below hbq).lt
                  have h3 := TB4.2.2.1.size
                  have h4 := hbq.size
                  exact ⟨by omega, by omega⟩
              rw [ETX.out] at K66
              have hb7 : Below w6.heap.size w6 (w6.alloc (.cells #[.string ts1, (.slice r1a r1n r1c)] 67)) := by go_grown
              have V6 : Hid (LV w b p g6 g7 #[.slice (some ⟨b0, o0, none⟩) n sc, .int .i64 xn, .int .i64 xk, .int .i64 xa] (w6.alloc (.cells #[.string ts1, (.slice r1a r1n r1c)] 67)) p4 S4 l4 sn1 rs1 (.slice r1a r1n r1c) rs1.length [(sn1, rs1)] (.slice (some ⟨w6.heap.size, 0, none⟩) 1 1)) := Lib.hid ⟨T6.then_below hb7, OW4.out, R6.below hb7, K66.below hb7, K76.below hb7, SS.one (by rw [← ETX.out]; exact Bk.new rfl) (R6.below hb7), MayBe.one sn1 rs1, fun q e => by
                simp only [Value.ownBlock, Option.some.injEq] at e
                subst e
                have h1 := K66.lt
                have h2 := T6.2.2.1.size
                exact ⟨by omega, by omega⟩⟩
              have n0 := KN6.cell 0
              have n1 := KN6.cell 1
              simp only [List.getElem?_toArray, List.getElem?_cons_succ, List.getElem?_cons_zero] at n0 n1
              clear hrun hss6 hgr6 hv6 SQ T6 K76 K66 KN6 R6 NV SB RB KB K7B K6B TB4 SA RA KA K6A K7A TA MB N6 RL HSZ hbq HLQ hb7
              go_wp2_with (at_builtin; refine Lib.wpList_append_run _ rfl _ _ 70 70 rfl _ _ rfl rfl v6 w6 HRUN.out ?_)
              go_roundw
              case rel => exact ⟨i + 1, p4, S4, l4, sn1, rs1, _, rs1.length, _, by omega, by go_num, V6, HI4, Lib.hid (by simp)⟩
              case measure => simp [intOf]; omega
            · simp only at h0 hg hd h1 h h2
              subst h0
              have hlast : i + 1 = n ∧ 0 < xn := (HI2.out).resolve_left h1
              have HE : Hid (LEnd S4 l4 (may ++ [(sn1, rs1)])) := Lib.hid (LEnd.down VX.out.mb hg hd h)
              have HDD := Lib.hid hd
              clear hg hd h1 h h2
              have K6 : Hid (Bk 67 w4 g6 #[.string ⟨sn1.toArray⟩, rv1]) := Lib.hid (KN.out.bk VX.out.k6 (.inr (.inr (.inl rfl))))
              have K7 : Hid (Bk 69 w4 g7 #[.slice (some ⟨b0, o0, none⟩) n sc, .int .i64 xn, .int .i64 xk, .int .i64 xa]) := Lib.hid (KN.out.bk VX.out.k7 (.inr (.inr (.inr rfl))))
              have SS4 : Hid (SS w4 (.slice ma mn mc) may) := Lib.hid (KN.out.ss VX.out.ss)
              have R4 : Hid (RowS w4 rv1 rs1) := Lib.hid (KN.out.rowS VX.out.row)
              have T4 : Hid (LM w b p w4 p4 S4 l4) := Lib.hid (VX.out.lm.trans LM4.out HBW.out)
              have MB := Lib.hid VX.out.mb
              have N6 := Lib.hid VX.out.n6
              have RL : Hid (rs1.length + 1 ≤ 4194304) := Lib.hid (by have h1 := VX.out.ow.many; have h2 := VX.out.ow.n; omega)
              clear VX LM4 HLC KN
              have k60 := K6.out.cell 0
              have k61 := K6.out.cell 1
              have k20 := K4.out.cell 0
              have k21 := K4.out.cell 1
              have k22 := K4.out.cell 2
              have k23 := K4.out.cell 3
              have k24 := K4.out.cell 4
              simp only [List.getElem?_toArray, List.getElem?_cons_succ, List.getElem?_cons_zero] at k60 k61 k20 k21 k22 k23 k24
              have hnx := next_sync (sn1, rs1) rv1 on oa ob os w4 R4.out
              unfold stv at hnx
              rw [← HTO.out] at hnx
              have HNX := Lib.hid hnx
              clear hnx
              obtain ⟨r1a, r1c, hrv1⟩ := R4.out.shape
              obtain ⟨r1n, hr1n⟩ : ∃ a, a = rs1.length := ⟨_, rfl⟩
              rw [← hr1n] at hrv1
              subst hrv1
              clear hr1n
              generalize hts1 : (⟨sn1.toArray⟩ : ByteArray) = ts1 at k60 K6 HNX
              have HTS1 := Lib.hid hts1
              clear hts1
              go_wp2_with fail
              refine HNX.out.mono ?_
              rintro e w5 ⟨rfl, hb5⟩
              have R5 : Hid (RowS w5 (.slice r1a r1n r1c) rs1) := Lib.hid (R4.out.below hb5)
              have K65 := Lib.hid (K6.out.below hb5)
              have K75 := Lib.hid (K7.out.below hb5)
              have SS5 := Lib.hid (SS4.out.below hb5)
              have T5 := Lib.hid (T4.out.then_below hb5)
              have HLT5 : Hid (∀ q, (Value.slice ma mn mc).ownBlock = some q → q < w5.heap.size) := Lib.hid SS5.out.lt
              clear hb5 HNX K6 K7 SS4 R4 T4 K4 k60 k61 k20 k21 k22 k23 k24
              have SA : Hid (SS (w5.alloc (.cells #[.string ts1, (.slice r1a r1n r1c)] 67)) (.slice ma mn mc) may) := Lib.hid (SS5.out.below (by go_grown))
              have KA : Hid (Bk 67 (w5.alloc (.cells #[.string ts1, (.slice r1a r1n r1c)] 67)) w5.heap.size #[.string ts1, (.slice r1a r1n r1c)]) := Lib.hid (Bk.new rfl)
              have RA : Hid (RowS (w5.alloc (.cells #[.string ts1, (.slice r1a r1n r1c)] 67)) (.slice r1a r1n r1c) rs1) := Lib.hid (R5.out.below (by go_grown))
              have K6A : Hid (Bk 67 (w5.alloc (.cells #[.string ts1, (.slice r1a r1n r1c)] 67)) g6 #[.string ts1, .slice r1a r1n r1c]) := Lib.hid K65.out.alloc
              have K7A : Hid (Bk 69 (w5.alloc (.cells #[.string ts1, (.slice r1a r1n r1c)] 67)) g7 #[.slice (some ⟨b0, o0, none⟩) n sc, .int .i64 xn, .int .i64 xk, .int .i64 xa]) := Lib.hid K75.out.alloc
              have TA : Hid (LM w b p (w5.alloc (.cells #[.string ts1, (.slice r1a r1n r1c)] 67)) p4 S4 l4) := Lib.hid (T5.out.then_below (by go_grown))
              have HSZ : Hid (w5.heap.size ≠ g6 ∧ w5.heap.size ≠ g7) := Lib.hid ⟨by have := K65.out.lt; omega, by have := K75.out.lt; omega⟩
              clear K65 K75 SS5 T5 R5
              have ETX : Hid (ts1 = ⟨(sn1 : Bs).toArray⟩) := Lib.hid HTS1.out.symm
              have k71 := K7A.out.cell 1
              simp only [List.getElem?_toArray, List.getElem?_cons_succ, List.getElem?_cons_zero] at k71
              have fe : ((i : Int) == (n : Int) - 1) = true := by simp; omega
              have fn : decide ((0 : Int) < xn) = true := decide_eq_true hlast.2
              have HLQ : may.length + 1 ≤ 3500000000000 := by have := HM.out; omega
              obtain ⟨v6, w6, hrun, hss6, hgr6, hv6⟩ := (SA.out.below (w' := (w5.alloc (.cells #[.string ts1, (.slice r1a r1n r1c)] 67)).alloc (.cells #[.string ts1, (.slice r1a r1n r1c)] 67)) (by go_grown)).more (s := (sn1, rs1)) 70 (w5.heap.size + 1) 1 (by rw [← ETX.out]; exact Bk.new (by simp)) (RA.out.below (by go_grown)) HLQ
              have SQ := SA.out.below (w' := (w5.alloc (.cells #[.string ts1, (.slice r1a r1n r1c)] 67)).alloc (.cells #[.string ts1, (.slice r1a r1n r1c)] 67)) (by go_grown)
              have T6 : Hid (LM w b p w6 p4 S4 l4) := Lib.hid (grown_lm (TA.out.then_below (by go_grown)) SQ (fun q e => (N6.out q e).2) hgr6)
              have K76 := grown_bk (K7A.out.alloc (o := .cells #[.string ts1, (.slice r1a r1n r1c)] 67)) (ss_ne SQ (K7A.out.alloc (o := .cells #[.string ts1, (.slice r1a r1n r1c)] 67)) (by decide)) hgr6
              have k76 := K76.cell 1
              simp only [List.getElem?_toArray, List.getElem?_cons_succ, List.getElem?_cons_zero] at k76
              have HSS6 := Lib.hid hss6
              have HRUN := Lib.hid hrun
              have HML : Hid ((may ++ [((sn1, rs1) : Stt)]).length ≤ 3000000000000) := Lib.hid (by rw [List.length_append, List.length_singleton]; have := HM.out; omega)
              clear hlast HLQ hrun hss6 hgr6 hv6 SQ K76 SA RA K6A K7A TA MB N6 RL HSZ
              go_wp2_with (at_builtin; refine Lib.wpList_append_run _ rfl _ _ 70 70 rfl _ _ rfl rfl v6 w6 HRUN.out ?_)
              refine (dead42 b _ _ _ _ _ w6 (Lib.hid T6.out.1.blk)).mono ?_
              rintro e w7 ⟨rfl, rfl⟩
              rw [HDD.out]
              go_wp2_with fail
              go_returns
              exact ⟨v6, p4, S4, l4, _, rfl, T6.out, HSS6.out, HML.out, HE.out⟩
          · have fcase : (((i : Int) == (n : Int) - 1) = true ∧ decide ((0 : Int) < xn) = false) ∨ ((i : Int) == (n : Int) - 1) = false := by
              by_cases h1 : i + 1 = n
              · exact .inl ⟨by simp; omega, decide_eq_false (fun h2 => har ⟨h1, h2⟩)⟩
              · exact .inr (by simp; omega)
            have VX := V2
            have K3 : Hid (Bk 46 (wr.alloc (.cells #[.int .i64 on, .int .i64 1, .int .i64 oa, .int .i64 ob, .string to] 46)) wr.heap.size #[.int .i64 on, .int .i64 1, .int .i64 oa, .int .i64 ob, .string to]) := K2
            have HI2 : Hid (S1.inn = 0 ∨ i + 1 = n ∧ 0 < xn) := Lib.hid (.inl (HI.out.resolve_right (by omega)))
            obtain ⟨S2, hS2⟩ : ∃ S, S = S1 := ⟨_, rfl⟩
            rw [← hS2] at VX HI2
            clear hS2 HI V2 K2
            have TB := Lib.hid (HLO.out.lm (Nat.le_refl _) VX.out.lm).tb
            obtain ⟨w3, hw3⟩ : ∃ w, w = (wr.alloc (.cells #[.int .i64 on, .int .i64 1, .int .i64 oa, .int .i64 ob, .string to] 46)) := ⟨_, rfl⟩
            obtain ⟨g12, hg12⟩ : ∃ g, g = wr.heap.size := ⟨_, rfl⟩
            have HW3 := Lib.hid (And.intro hw3 hg12)
            rw [← hw3, ← hg12] at K3
            rw [← hw3] at VX TB
            clear hw3 hg12
            rcases fcase with ⟨fe, fn⟩ | fe
            · have k21 := K3.out.cell 1
              have k24 := K3.out.cell 4
              simp only [List.getElem?_toArray, List.getElem?_cons_succ, List.getElem?_cons_zero] at k21 k24
              have hcall := lsync_any VX.out.lm.1 TB.out
              have hlc := VX.out.ow.lsync
              generalize lsync S2 l1 = xx at hcall hlc
              obtain ⟨cd, S4, l4⟩ := xx

              have HCALL := Lib.hid hcall
              have HLC := Lib.hid hlc
              clear hcall hlc
              rw [HW3.out.1, HW3.out.2] at k21 k24
              rw [HW3.out.1] at HCALL
              go_wp2_with fail
              rw [← HW3.out.1]
              rw [← HW3.out.1] at HCALL
              rw [← HW3.out.2]
              clear HW3 d0 d1 d2 d3 d4 hix fw x0 x2
              refine HCALL.out.mono ?_
              rintro e w4 ⟨rfl, p4, hm4⟩
              have KN : Hid (Kin w3 w4) := Lib.hid (hm4.kin VX.out.lm.1)
              have LM4 := Lib.hid hm4
              have K4 : Hid (Bk 46 w4 g12 #[.int .i64 on, .int .i64 1, .int .i64 oa, .int .i64 ob, .string to]) := Lib.hid (KN.out.bk K3.out (.inr (.inl rfl)))
              clear hm4 HCALL k21 k24 K3 k70 k71 k72
              rcases HLC.out with ⟨h0, h⟩ | ⟨h0, h, h1⟩ | ⟨h0, hg, hd, h1, h, h2⟩
              · simp only [Prod.mk.injEq] at h h0
                obtain ⟨rfl, rfl⟩ := h
                have V4 := Lib.hid (VX.out.step HBW.out LM4.out VX.out.ow)
                clear VX LM4 HLC KN K4
                have y0 : ((cd : Int) != 0) = true := by rcases h0 with rfl | rfl <;> rfl
                have y2 : ((cd : Int) != 2) = true := by rcases h0 with rfl | rfl <;> rfl
                clear h0
                go_wp2_with fail
                go_roundw
                case rel => exact ⟨i + 1, p4, S4, l4, sn1, rs1, rv1, m, may, by omega, by go_num, V4, Lib.hid (HI2.out.imp id And.left), Lib.hid (by have := HM.out; omega)⟩
                case measure => simp [intOf]; omega
              · simp only at h0 h h1
                subst h0
                have OW4 := Lib.hid h
                have HI4 : Hid (S4.inn = 0 ∨ i + 1 = n) := Lib.hid (HI2.out.imp h1 And.left)
                have K6 : Hid (Bk 67 w4 g6 #[.string ⟨sn1.toArray⟩, rv1]) := Lib.hid (KN.out.bk VX.out.k6 (.inr (.inr (.inl rfl))))
                have K7 : Hid (Bk 69 w4 g7 #[.slice (some ⟨b0, o0, none⟩) n sc, .int .i64 xn, .int .i64 xk, .int .i64 xa]) := Lib.hid (KN.out.bk VX.out.k7 (.inr (.inr (.inr rfl))))
                have SS4 : Hid (SS w4 (.slice ma mn mc) may) := Lib.hid (KN.out.ss VX.out.ss)
                have R4 : Hid (RowS w4 rv1 rs1) := Lib.hid (KN.out.rowS VX.out.row)
                have T4 : Hid (LM w b p w4 p4 S4 l4) := Lib.hid (VX.out.lm.trans LM4.out HBW.out)
                have MB := Lib.hid VX.out.mb
                have N6 := Lib.hid VX.out.n6
                have RL : Hid (rs1.length + 1 ≤ 4194304) := Lib.hid (by have h1 := VX.out.ow.many; have h2 := VX.out.ow.n; omega)
                clear VX LM4 HLC KN
                have k60 := K6.out.cell 0
                have k61 := K6.out.cell 1
                have k20 := K4.out.cell 0
                have k21 := K4.out.cell 1
                have k22 := K4.out.cell 2
                have k23 := K4.out.cell 3
                have k24 := K4.out.cell 4
                simp only [List.getElem?_toArray, List.getElem?_cons_succ, List.getElem?_cons_zero] at k60 k61 k20 k21 k22 k23 k24
                have hnx := next_sync (sn1, rs1) rv1 on oa ob os w4 R4.out
                unfold stv at hnx
                rw [← HTO.out] at hnx
                have HNX := Lib.hid hnx
                clear hnx
                obtain ⟨r1a, r1c, hrv1⟩ := R4.out.shape
                obtain ⟨r1n, hr1n⟩ : ∃ a, a = rs1.length := ⟨_, rfl⟩
                rw [← hr1n] at hrv1
                subst hrv1
                clear hr1n
                generalize hts1 : (⟨sn1.toArray⟩ : ByteArray) = ts1 at k60 K6 HNX
                have HTS1 := Lib.hid hts1
                clear hts1
                go_wp2_with fail
                refine HNX.out.mono ?_
                rintro e w5 ⟨rfl, hb5⟩
                have R5 : Hid (RowS w5 (.slice r1a r1n r1c) rs1) := Lib.hid (R4.out.below hb5)
                have K65 := Lib.hid (K6.out.below hb5)
                have K75 := Lib.hid (K7.out.below hb5)
                have SS5 := Lib.hid (SS4.out.below hb5)
                have T5 := Lib.hid (T4.out.then_below hb5)
                have HLT5 : Hid (∀ q, (Value.slice ma mn mc).ownBlock = some q → q < w5.heap.size) := Lib.hid SS5.out.lt
                clear hb5 HNX K6 K7 SS4 R4 T4 K4 k60 k61 k20 k21 k22 k23 k24
                have SA : Hid (SS (w5.alloc (.cells #[.string ts1, (.slice r1a r1n r1c)] 67)) (.slice ma mn mc) may) := Lib.hid (SS5.out.below (by go_grown))
                have KA : Hid (Bk 67 (w5.alloc (.cells #[.string ts1, (.slice r1a r1n r1c)] 67)) w5.heap.size #[.string ts1, (.slice r1a r1n r1c)]) := Lib.hid (Bk.new rfl)
                have RA : Hid (RowS (w5.alloc (.cells #[.string ts1, (.slice r1a r1n r1c)] 67)) (.slice r1a r1n r1c) rs1) := Lib.hid (R5.out.below (by go_grown))
                have K6A : Hid (Bk 67 (w5.alloc (.cells #[.string ts1, (.slice r1a r1n r1c)] 67)) g6 #[.string ts1, .slice r1a r1n r1c]) := Lib.hid K65.out.alloc
                have K7A : Hid (Bk 69 (w5.alloc (.cells #[.string ts1, (.slice r1a r1n r1c)] 67)) g7 #[.slice (some ⟨b0, o0, none⟩) n sc, .int .i64 xn, .int .i64 xk, .int .i64 xa]) := Lib.hid K75.out.alloc
                have TA : Hid (LM w b p (w5.alloc (.cells #[.string ts1, (.slice r1a r1n r1c)] 67)) p4 S4 l4) := Lib.hid (T5.out.then_below (by go_grown))
                have HSZ : Hid (w5.heap.size ≠ g6 ∧ w5.heap.size ≠ g7) := Lib.hid ⟨by have := K65.out.lt; omega, by have := K75.out.lt; omega⟩
                clear K65 K75 SS5 T5 R5
                have ETX : Hid (ts1 = ⟨(sn1 : Bs).toArray⟩) := Lib.hid HTS1.out.symm
                have k60 := K6A.out.cell 0
                have k61 := K6A.out.cell 1
                have f60 := K6A.out.fro 0
                have f61 := K6A.out.fro 1
                simp only [List.getElem?_toArray, List.getElem?_cons_succ, List.getElem?_cons_zero] at k60 k61
                have SB := SA.out.set2 K6A.out (fun q e => (N6.out q e).1) (.string ts1) (.slice r1a r1n r1c)
                have RB := RA.out.set2 K6A.out (.string ts1) (.slice r1a r1n r1c)
                have KB := KA.out.oth2 HSZ.out.1 (.string ts1) (.slice r1a r1n r1c)
                have K7B := K7A.out.oth2 HG.out.2.symm (.string ts1) (.slice r1a r1n r1c)
                have K6B := K6A.out.put2 (x := .string ts1) (y := (.slice r1a r1n r1c))
                have TB4 := TA.out.set2 K6A.out HG.out.1 (.string ts1) (.slice r1a r1n r1c)
                have q0 := KB.cell 0
                have q1 := KB.cell 1
                simp only [List.getElem?_toArray, List.getElem?_cons_succ, List.getElem?_cons_zero] at q0 q1
                have HLQ : may.length + 1 ≤ 3500000000000 := by have := HM.out; omega
                have hbq : Below (((w5.alloc (.cells #[.string ts1, (.slice r1a r1n r1c)] 67)).setCell ⟨g6, 0, none⟩ (.string ts1)).setCell ⟨g6, 1, none⟩ (.slice r1a r1n r1c)).heap.size (((w5.alloc (.cells #[.string ts1, (.slice r1a r1n r1c)] 67)).setCell ⟨g6, 0, none⟩ (.string ts1)).setCell ⟨g6, 1, none⟩ (.slice r1a r1n r1c)) ((((w5.alloc (.cells #[.string ts1, (.slice r1a r1n r1c)] 67)).setCell ⟨g6, 0, none⟩ (.string ts1)).setCell ⟨g6, 1, none⟩ (.slice r1a r1n r1c)).alloc (.cells #[.string ts1, (.slice r1a r1n r1c)] 67)) := by go_grown
                have hqs : (((w5.alloc (.cells #[.string ts1, (.slice r1a r1n r1c)] 67)).setCell ⟨g6, 0, none⟩ (.string ts1)).setCell ⟨g6, 1, none⟩ (.slice r1a r1n r1c)).heap.size = w5.heap.size + 1 := by simp
                have SQ := SB.below hbq
                obtain ⟨v6, w6, hrun, hss6, hgr6, hv6⟩ := SQ.more (s := (sn1, rs1)) 70 (w5.heap.size + 1) 1 (by rw [← ETX.out]; exact Bk.new hqs.symm) (RB.below hbq) HLQ
                have T6 := grown_lm (TB4.then_below hbq) SQ (fun q e => (N6.out q e).2) hgr6
                have K76 := grown_bk (K7B.below hbq) (ss_ne SQ (K7B.below hbq) (by decide)) hgr6
                have K66 := grown_bk (K6B.below hbq) (fun q e => (N6.out q e).1) hgr6
                have KN6 := grown_bk (KB.below hbq) (fun q e e2 => by have h1 := N6.out q e; have h2 := HLT5.out q e; omega) hgr6
                have R6 := grown_row (RB.below hbq) SQ hgr6
                have HRUN := Lib.hid hrun
                have NV : ∀ q, v6.ownBlock = some q → q ≠ g6 ∧ w.heap.size ≤ q := fun q e => by
                  rcases hv6 with h | h
                  · exact N6.out q (h ▸ e)
                  · have h1 := h q e
                    have h2 := (K6B.below hbq).lt
                    have h3 := TB4.2.2.1.size
                    have h4 := hbq.size
                    exact ⟨by omega, by omega⟩
                rw [ETX.out] at K66
                have hb7 : Below w6.heap.size w6 (w6.alloc (.cells #[.string ts1, (.slice r1a r1n r1c)] 67)) := by go_grown
                have V6 : Hid (LV w b p g6 g7 #[.slice (some ⟨b0, o0, none⟩) n sc, .int .i64 xn, .int .i64 xk, .int .i64 xa] (w6.alloc (.cells #[.string ts1, (.slice r1a r1n r1c)] 67)) p4 S4 l4 sn1 rs1 (.slice r1a r1n r1c) rs1.length [(sn1, rs1)] (.slice (some ⟨w6.heap.size, 0, none⟩) 1 1)) := Lib.hid ⟨T6.then_below hb7, OW4.out, R6.below hb7, K66.below hb7, K76.below hb7, SS.one (by rw [← ETX.out]; exact Bk.new rfl) (R6.below hb7), MayBe.one sn1 rs1, fun q e => by
                  simp only [Value.ownBlock, Option.some.injEq] at e
                  subst e
                  have h1 := K66.lt
                  have h2 := T6.2.2.1.size
                  exact ⟨by omega, by omega⟩⟩
                have n0 := KN6.cell 0
                have n1 := KN6.cell 1
                simp only [List.getElem?_toArray, List.getElem?_cons_succ, List.getElem?_cons_zero] at n0 n1
                clear hrun hss6 hgr6 hv6 SQ T6 K76 K66 KN6 R6 NV SB RB KB K7B K6B TB4 SA RA KA K6A K7A TA MB N6 RL HSZ hbq HLQ hb7
                go_wp2_with (at_builtin; refine Lib.wpList_append_run _ rfl _ _ 70 70 rfl _ _ rfl rfl v6 w6 HRUN.out ?_)
                go_roundw
                case rel => exact ⟨i + 1, p4, S4, l4, sn1, rs1, _, rs1.length, _, by omega, by go_num, V6, HI4, Lib.hid (by simp)⟩
                case measure => simp [intOf]; omega
              · exact absurd ((HI2.out).resolve_left h1) har
            · have k21 := K3.out.cell 1
              have k24 := K3.out.cell 4
              simp only [List.getElem?_toArray, List.getElem?_cons_succ, List.getElem?_cons_zero] at k21 k24
              have hcall := lsync_any VX.out.lm.1 TB.out
              have hlc := VX.out.ow.lsync
              generalize lsync S2 l1 = xx at hcall hlc
              obtain ⟨cd, S4, l4⟩ := xx

              have HCALL := Lib.hid hcall
              have HLC := Lib.hid hlc
              clear hcall hlc
              rw [HW3.out.1, HW3.out.2] at k21 k24
              rw [HW3.out.1] at HCALL
              go_wp2_with fail
              rw [← HW3.out.1]
              rw [← HW3.out.1] at HCALL
              rw [← HW3.out.2]
              clear HW3 d0 d1 d2 d3 d4 hix fw x0 x2
              refine HCALL.out.mono ?_
              rintro e w4 ⟨rfl, p4, hm4⟩
              have KN : Hid (Kin w3 w4) := Lib.hid (hm4.kin VX.out.lm.1)
              have LM4 := Lib.hid hm4
              have K4 : Hid (Bk 46 w4 g12 #[.int .i64 on, .int .i64 1, .int .i64 oa, .int .i64 ob, .string to]) := Lib.hid (KN.out.bk K3.out (.inr (.inl rfl)))
              clear hm4 HCALL k21 k24 K3 k70 k71 k72
              rcases HLC.out with ⟨h0, h⟩ | ⟨h0, h, h1⟩ | ⟨h0, hg, hd, h1, h, h2⟩
              · simp only [Prod.mk.injEq] at h h0
                obtain ⟨rfl, rfl⟩ := h
                have V4 := Lib.hid (VX.out.step HBW.out LM4.out VX.out.ow)
                clear VX LM4 HLC KN K4
                have y0 : ((cd : Int) != 0) = true := by rcases h0 with rfl | rfl <;> rfl
                have y2 : ((cd : Int) != 2) = true := by rcases h0 with rfl | rfl <;> rfl
                clear h0
                go_wp2_with fail
                go_roundw
                case rel => exact ⟨i + 1, p4, S4, l4, sn1, rs1, rv1, m, may, by omega, by go_num, V4, Lib.hid (HI2.out.imp id And.left), Lib.hid (by have := HM.out; omega)⟩
                case measure => simp [intOf]; omega
              · simp only at h0 h h1
                subst h0
                have OW4 := Lib.hid h
                have HI4 : Hid (S4.inn = 0 ∨ i + 1 = n) := Lib.hid (HI2.out.imp h1 And.left)
                have K6 : Hid (Bk 67 w4 g6 #[.string ⟨sn1.toArray⟩, rv1]) := Lib.hid (KN.out.bk VX.out.k6 (.inr (.inr (.inl rfl))))
                have K7 : Hid (Bk 69 w4 g7 #[.slice (some ⟨b0, o0, none⟩) n sc, .int .i64 xn, .int .i64 xk, .int .i64 xa]) := Lib.hid (KN.out.bk VX.out.k7 (.inr (.inr (.inr rfl))))
                have SS4 : Hid (SS w4 (.slice ma mn mc) may) := Lib.hid (KN.out.ss VX.out.ss)
                have R4 : Hid (RowS w4 rv1 rs1) := Lib.hid (KN.out.rowS VX.out.row)
                have T4 : Hid (LM w b p w4 p4 S4 l4) := Lib.hid (VX.out.lm.trans LM4.out HBW.out)
                have MB := Lib.hid VX.out.mb
                have N6 := Lib.hid VX.out.n6
                have RL : Hid (rs1.length + 1 ≤ 4194304) := Lib.hid (by have h1 := VX.out.ow.many; have h2 := VX.out.ow.n; omega)
                clear VX LM4 HLC KN
                have k60 := K6.out.cell 0
                have k61 := K6.out.cell 1
                have k20 := K4.out.cell 0
                have k21 := K4.out.cell 1
                have k22 := K4.out.cell 2
                have k23 := K4.out.cell 3
                have k24 := K4.out.cell 4
                simp only [List.getElem?_toArray, List.getElem?_cons_succ, List.getElem?_cons_zero] at k60 k61 k20 k21 k22 k23 k24
                have hnx := next_sync (sn1, rs1) rv1 on oa ob os w4 R4.out
                unfold stv at hnx
                rw [← HTO.out] at hnx
                have HNX := Lib.hid hnx
                clear hnx
                obtain ⟨r1a, r1c, hrv1⟩ := R4.out.shape
                obtain ⟨r1n, hr1n⟩ : ∃ a, a = rs1.length := ⟨_, rfl⟩
                rw [← hr1n] at hrv1
                subst hrv1
                clear hr1n
                generalize hts1 : (⟨sn1.toArray⟩ : ByteArray) = ts1 at k60 K6 HNX
                have HTS1 := Lib.hid hts1
                clear hts1
                go_wp2_with fail
                refine HNX.out.mono ?_
                rintro e w5 ⟨rfl, hb5⟩
                have R5 : Hid (RowS w5 (.slice r1a r1n r1c) rs1) := Lib.hid (R4.out.below hb5)
                have K65 := Lib.hid (K6.out.below hb5)
                have K75 := Lib.hid (K7.out.below hb5)
                have SS5 := Lib.hid (SS4.out.below hb5)
                have T5 := Lib.hid (T4.out.then_below hb5)
                have HLT5 : Hid (∀ q, (Value.slice ma mn mc).ownBlock = some q → q < w5.heap.size) := Lib.hid SS5.out.lt
                clear hb5 HNX K6 K7 SS4 R4 T4 K4 k60 k61 k20 k21 k22 k23 k24
                have SA : Hid (SS (w5.alloc (.cells #[.string ts1, (.slice r1a r1n r1c)] 67)) (.slice ma mn mc) may) := Lib.hid (SS5.out.below (by go_grown))
                have KA : Hid (Bk 67 (w5.alloc (.cells #[.string ts1, (.slice r1a r1n r1c)] 67)) w5.heap.size #[.string ts1, (.slice r1a r1n r1c)]) := Lib.hid (Bk.new rfl)
                have RA : Hid (RowS (w5.alloc (.cells #[.string ts1, (.slice r1a r1n r1c)] 67)) (.slice r1a r1n r1c) rs1) := Lib.hid (R5.out.below (by go_grown))
                have K6A : Hid (Bk 67 (w5.alloc (.cells #[.string ts1, (.slice r1a r1n r1c)] 67)) g6 #[.string ts1, .slice r1a r1n r1c]) := Lib.hid K65.out.alloc
                have K7A : Hid (Bk 69 (w5.alloc (.cells #[.string ts1, (.slice r1a r1n r1c)] 67)) g7 #[.slice (some ⟨b0, o0, none⟩) n sc, .int .i64 xn, .int .i64 xk, .int .i64 xa]) := Lib.hid K75.out.alloc
                have TA : Hid (LM w b p (w5.alloc (.cells #[.string ts1, (.slice r1a r1n r1c)] 67)) p4 S4 l4) := Lib.hid (T5.out.then_below (by go_grown))
                have HSZ : Hid (w5.heap.size ≠ g6 ∧ w5.heap.size ≠ g7) := Lib.hid ⟨by have := K65.out.lt; omega, by have := K75.out.lt; omega⟩
                clear K65 K75 SS5 T5 R5
                have ETX : Hid (ts1 = ⟨(sn1 : Bs).toArray⟩) := Lib.hid HTS1.out.symm
                have k60 := K6A.out.cell 0
                have k61 := K6A.out.cell 1
                have f60 := K6A.out.fro 0
                have f61 := K6A.out.fro 1
                simp only [List.getElem?_toArray, List.getElem?_cons_succ, List.getElem?_cons_zero] at k60 k61
                have SB := SA.out.set2 K6A.out (fun q e => (N6.out q e).1) (.string ts1) (.slice r1a r1n r1c)
                have RB := RA.out.set2 K6A.out (.string ts1) (.slice r1a r1n r1c)
                have KB := KA.out.oth2 HSZ.out.1 (.string ts1) (.slice r1a r1n r1c)
                have K7B := K7A.out.oth2 HG.out.2.symm (.string ts1) (.slice r1a r1n r1c)
                have K6B := K6A.out.put2 (x := .string ts1) (y := (.slice r1a r1n r1c))
                have TB4 := TA.out.set2 K6A.out HG.out.1 (.string ts1) (.slice r1a r1n r1c)
                have q0 := KB.cell 0
                have q1 := KB.cell 1
                simp only [List.getElem?_toArray, List.getElem?_cons_succ, List.getElem?_cons_zero] at q0 q1
                have HLQ : may.length + 1 ≤ 3500000000000 := by have := HM.out; omega
                have hbq : Below (((w5.alloc (.cells #[.string ts1, (.slice r1a r1n r1c)] 67)).setCell ⟨g6, 0, none⟩ (.string ts1)).setCell ⟨g6, 1, none⟩ (.slice r1a r1n r1c)).heap.size (((w5.alloc (.cells #[.string ts1, (.slice r1a r1n r1c)] 67)).setCell ⟨g6, 0, none⟩ (.string ts1)).setCell ⟨g6, 1, none⟩ (.slice r1a r1n r1c)) ((((w5.alloc (.cells #[.string ts1, (.slice r1a r1n r1c)] 67)).setCell ⟨g6, 0, none⟩ (.string ts1)).setCell ⟨g6, 1, none⟩ (.slice r1a r1n r1c)).alloc (.cells #[.string ts1, (.slice r1a r1n r1c)] 67)) := by go_grown
                have hqs : (((w5.alloc (.cells #[.string ts1, (.slice r1a r1n r1c)] 67)).setCell ⟨g6, 0, none⟩ (.string ts1)).setCell ⟨g6, 1, none⟩ (.slice r1a r1n r1c)).heap.size = w5.heap.size + 1 := by simp
                have SQ := SB.below hbq
                obtain ⟨v6, w6, hrun, hss6, hgr6, hv6⟩ := SQ.more (s := (sn1, rs1)) 70 (w5.heap.size + 1) 1 (by rw [← ETX.out]; exact Bk.new hqs.symm) (RB.below hbq) HLQ
                have T6 := grown_lm (TB4.then_below hbq) SQ (fun q e => (N6.out q e).2) hgr6
                have K76 := grown_bk (K7B.below hbq) (ss_ne SQ (K7B.below hbq) (by decide)) hgr6
                have K66 := grown_bk (K6B.below hbq) (fun q e => (N6.out q e).1) hgr6
                have KN6 := grown_bk (KB.below hbq) (fun q e e2 => by have h1 := N6.out q e; have h2 := HLT5.out q e; omega) hgr6
                have R6 := grown_row (RB.below hbq) SQ hgr6
                have HRUN := Lib.hid hrun
                have NV : ∀ q, v6.ownBlock = some q → q ≠ g6 ∧ w.heap.size ≤ q := fun q e => by
                  rcases hv6 with h | h
                  · exact N6.out q (h ▸ e)
                  · have h1 := h q e
                    have h2 := (K6B.below hbq).lt
                    have h3 := TB4.2.2.1.size
                    have h4 := hbq.size
                    exact ⟨by omega, by omega⟩
                rw [ETX.out] at K66
                have hb7 : Below w6.heap.size w6 (w6.alloc (.cells #[.string ts1, (.slice r1a r1n r1c)] 67)) := by go_grown
                have V6 : Hid (LV w b p g6 g7 #[.slice (some ⟨b0, o0, none⟩) n sc, .int .i64 xn, .int .i64 xk, .int .i64 xa] (w6.alloc (.cells #[.string ts1, (.slice r1a r1n r1c)] 67)) p4 S4 l4 sn1 rs1 (.slice r1a r1n r1c) rs1.length [(sn1, rs1)] (.slice (some ⟨w6.heap.size, 0, none⟩) 1 1)) := Lib.hid ⟨T6.then_below hb7, OW4.out, R6.below hb7, K66.below hb7, K76.below hb7, SS.one (by rw [← ETX.out]; exact Bk.new rfl) (R6.below hb7), MayBe.one sn1 rs1, fun q e => by
                  simp only [Value.ownBlock, Option.some.injEq] at e
                  subst e
                  have h1 := K66.lt
                  have h2 := T6.2.2.1.size
                  exact ⟨by omega, by omega⟩⟩
                have n0 := KN6.cell 0
                have n1 := KN6.cell 1
                simp only [List.getElem?_toArray, List.getElem?_cons_succ, List.getElem?_cons_zero] at n0 n1
                clear hrun hss6 hgr6 hv6 SQ T6 K76 K66 KN6 R6 NV SB RB KB K7B K6B TB4 SA RA KA K6A K7A TA MB N6 RL HSZ hbq HLQ hb7
                go_wp2_with (at_builtin; refine Lib.wpList_append_run _ rfl _ _ 70 70 rfl _ _ rfl rfl v6 w6 HRUN.out ?_)
                go_roundw
                case rel => exact ⟨i + 1, p4, S4, l4, sn1, rs1, _, rs1.length, _, by omega, by go_num, V6, HI4, Lib.hid (by simp)⟩
                case measure => simp [intOf]; omega
              · exact absurd ((HI2.out).resolve_left h1) har
        · by_cases har : i + 1 = n ∧ 0 < xn
          · have fe : ((i : Int) == (n : Int) - 1) = true := by simp; omega
            have fn : decide ((0 : Int) < xn) = true := decide_eq_true har.2
            have harm := arm_any p1 S1 xn (max 0 xk) HKB.out.1 (by have := HKB.out.2; omega) _ V2.out.lm.1.dk
            rw [arm_pos V2.out.ow.gone har.2, show p1.v = .pointer (some ⟨pb, 0, none⟩) by unfold Fp.v; rw [V2.out.lm.2.1, HPB.out]] at harm
            have HARM := Lib.hid harm
            clear harm
            go_wp2_with fail
            refine HARM.out.mono ?_
            rintro e w3 ⟨rfl, hd3, ho3⟩
            have OW3 : LOwn (S1.power false xn.toNat (max 0 xk).toNat) l1 sn1 rs1 m := by
              have := V2.out.ow.arm xn (max 0 xk) HKB.out.1 (by have := HKB.out.2; omega)
              rwa [arm_pos V2.out.ow.gone har.2] at this
            have hm3 := LM.of_mut V2.out.lm.1 (by rw [World.size_alloc]; omega) (mut_head hd3 ho3)
            have K3 : Hid (Bk 46 w3 wr.heap.size #[.int .i64 on, .int .i64 2, .int .i64 oa, .int .i64 ob, .string to]) := Lib.hid ((hm3.kin V2.out.lm.1).bk K2.out (.inr (.inl rfl)))
            have VX := Lib.hid (V2.out.step HBW.out hm3 OW3)
            have HI2 : Hid ((S1.power false xn.toNat (max 0 xk).toNat).inn = 0 ∨ i + 1 = n ∧ 0 < xn) := Lib.hid (.inr har)
            clear hd3 ho3 OW3 hm3 HARM fe fn V2 K2 har HI
            generalize S1.power false xn.toNat (max 0 xk).toNat = S2 at VX HI2
            obtain ⟨g12, hg12⟩ : ∃ g, g = wr.heap.size := ⟨_, rfl⟩
            rw [← hg12] at K3 ⊢
            clear hg12
            have TB := Lib.hid (HLO.out.lm (Nat.le_refl _) VX.out.lm).tb
            clear d0 d1 d2 d3 d4 hix fw x0 x2 k80 k81 k82

            have k21 := K3.out.cell 1
            have k24 := K3.out.cell 4
            simp only [List.getElem?_toArray, List.getElem?_cons_succ, List.getElem?_cons_zero] at k21 k24
            have hcall := lchk_any VX.out.lm.1 TB.out VX.out.ow.oth os
            have hlc := VX.out.ow.lchk os
            generalize lchk S2 l1 os = xx at hcall hlc
            obtain ⟨cd, S4, l4⟩ := xx
            rw [← HTO.out] at hcall
            have HCALL := Lib.hid hcall
            have HLC := Lib.hid hlc
            clear hcall hlc
            go_wp2_with fail
            refine HCALL.out.mono ?_
            rintro e w4 ⟨rfl, p4, hm4⟩
            have KN : Hid (Kin w3 w4) := Lib.hid (hm4.kin VX.out.lm.1)
            have LM4 := Lib.hid hm4
            have K4 : Hid (Bk 46 w4 g12 #[.int .i64 on, .int .i64 2, .int .i64 oa, .int .i64 ob, .string to]) := Lib.hid (KN.out.bk K3.out (.inr (.inl rfl)))
            clear hm4 HCALL k21 k24 K3 k70 k71 k72
            rcases HLC.out with ⟨h0, h⟩ | ⟨h0, h, h1⟩ | ⟨h0, hg, hd, h1, h, h2⟩
            · simp only [Prod.mk.injEq] at h h0
              obtain ⟨rfl, rfl⟩ := h
              have V4 := Lib.hid (VX.out.step HBW.out LM4.out VX.out.ow)
              clear VX LM4 HLC KN K4
              have y0 : ((cd : Int) != 0) = true := by rcases h0 with rfl | rfl <;> rfl
              have y2 : ((cd : Int) != 2) = true := by rcases h0 with rfl | rfl <;> rfl
              clear h0
              go_wp2_with fail
              go_roundw
              case rel => exact ⟨i + 1, p4, S4, l4, sn1, rs1, rv1, m, may, by omega, by go_num, V4, Lib.hid (HI2.out.imp id And.left), Lib.hid (by have := HM.out; omega)⟩
              case measure => simp [intOf]; omega
            · simp only at h0 h h1
              subst h0
              have OW4 := Lib.hid h
              have HI4 : Hid (S4.inn = 0 ∨ i + 1 = n) := Lib.hid (HI2.out.imp h1 And.left)
              have K6 : Hid (Bk 67 w4 g6 #[.string ⟨sn1.toArray⟩, rv1]) := Lib.hid (KN.out.bk VX.out.k6 (.inr (.inr (.inl rfl))))
              have K7 : Hid (Bk 69 w4 g7 #[.slice (some ⟨b0, o0, none⟩) n sc, .int .i64 xn, .int .i64 xk, .int .i64 xa]) := Lib.hid (KN.out.bk VX.out.k7 (.inr (.inr (.inr rfl))))
              have SS4 : Hid (SS w4 (.slice ma mn mc) may) := Lib.hid (KN.out.ss VX.out.ss)
              have R4 : Hid (RowS w4 rv1 rs1) := Lib.hid (KN.out.rowS VX.out.row)
              have T4 : Hid (LM w b p w4 p4 S4 l4) := Lib.hid (VX.out.lm.trans LM4.out HBW.out)
              have MB := Lib.hid VX.out.mb
              have N6 := Lib.hid VX.out.n6
              have RL : Hid (rs1.length + 1 ≤ 4194304) := Lib.hid (by have h1 := VX.out.ow.many; have h2 := VX.out.ow.n; omega)
              clear VX LM4 HLC KN
              have k60 := K6.out.cell 0
              have k61 := K6.out.cell 1
              have k20 := K4.out.cell 0
              have k21 := K4.out.cell 1
              have k22 := K4.out.cell 2
              have k23 := K4.out.cell 3
              have k24 := K4.out.cell 4
              simp only [List.getElem?_toArray, List.getElem?_cons_succ, List.getElem?_cons_zero] at k60 k61 k20 k21 k22 k23 k24
              have hnx := next_chk (sn1, rs1) rv1 on 2 oa ob os w4 rfl rfl
              unfold stv at hnx
              rw [← HTO.out] at hnx
              have HNX := Lib.hid hnx
              clear hnx
              obtain ⟨r1a, r1c, hrv1⟩ := R4.out.shape
              obtain ⟨r1n, hr1n⟩ : ∃ a, a = rs1.length := ⟨_, rfl⟩
              rw [← hr1n] at hrv1
              subst hrv1
              clear hr1n
              generalize hts1 : (⟨sn1.toArray⟩ : ByteArray) = ts1 at k60 K6 HNX
              have HTS1 := Lib.hid hts1
              clear hts1
              go_wp2_with fail
              refine HNX.out.mono ?_
              rintro e w5 ⟨rv5, rfl, hr5, hb5, hf5⟩
              have R5 := Lib.hid hr5
              obtain ⟨r5a, r5c, hrv5⟩ := hr5.shape
              obtain ⟨r5n, hr5n⟩ : ∃ a, a = ([] : List Bs).length := ⟨_, rfl⟩
              rw [← hr5n] at hrv5
              clear hr5 hf5 hr5n
              subst hrv5
              have K65 := Lib.hid (K6.out.below hb5)
              have K75 := Lib.hid (K7.out.below hb5)
              have SS5 := Lib.hid (SS4.out.below hb5)
              have T5 := Lib.hid (T4.out.then_below hb5)
              have HLT5 : Hid (∀ q, (Value.slice ma mn mc).ownBlock = some q → q < w5.heap.size) := Lib.hid SS5.out.lt
              clear hb5 HNX K6 K7 SS4 R4 T4 K4 k60 k61 k20 k21 k22 k23 k24
              have SA : Hid (SS (w5.alloc (.cells #[.string to, (.slice r5a r5n r5c)] 67)) (.slice ma mn mc) may) := Lib.hid (SS5.out.below (by go_grown))
              have KA : Hid (Bk 67 (w5.alloc (.cells #[.string to, (.slice r5a r5n r5c)] 67)) w5.heap.size #[.string to, (.slice r5a r5n r5c)]) := Lib.hid (Bk.new rfl)
              have RA : Hid (RowS (w5.alloc (.cells #[.string to, (.slice r5a r5n r5c)] 67)) (.slice r5a r5n r5c) []) := Lib.hid (R5.out.below (by go_grown))
              have K6A : Hid (Bk 67 (w5.alloc (.cells #[.string to, (.slice r5a r5n r5c)] 67)) g6 #[.string ts1, .slice r1a r1n r1c]) := Lib.hid K65.out.alloc
              have K7A : Hid (Bk 69 (w5.alloc (.cells #[.string to, (.slice r5a r5n r5c)] 67)) g7 #[.slice (some ⟨b0, o0, none⟩) n sc, .int .i64 xn, .int .i64 xk, .int .i64 xa]) := Lib.hid K75.out.alloc
              have TA : Hid (LM w b p (w5.alloc (.cells #[.string to, (.slice r5a r5n r5c)] 67)) p4 S4 l4) := Lib.hid (T5.out.then_below (by go_grown))
              have HSZ : Hid (w5.heap.size ≠ g6 ∧ w5.heap.size ≠ g7) := Lib.hid ⟨by have := K65.out.lt; omega, by have := K75.out.lt; omega⟩
              clear K65 K75 SS5 T5 R5
              have ETX : Hid (to = ⟨(os : Bs).toArray⟩) := Lib.hid HTO.out
              have k60 := K6A.out.cell 0
              have k61 := K6A.out.cell 1
              have f60 := K6A.out.fro 0
              have f61 := K6A.out.fro 1
              simp only [List.getElem?_toArray, List.getElem?_cons_succ, List.getElem?_cons_zero] at k60 k61
              have SB := SA.out.set2 K6A.out (fun q e => (N6.out q e).1) (.string to) (.slice r5a r5n r5c)
              have RB := RA.out.set2 K6A.out (.string to) (.slice r5a r5n r5c)
              have KB := KA.out.oth2 HSZ.out.1 (.string to) (.slice r5a r5n r5c)
              have K7B := K7A.out.oth2 HG.out.2.symm (.string to) (.slice r5a r5n r5c)
              have K6B := K6A.out.put2 (x := .string to) (y := (.slice r5a r5n r5c))
              have TB4 := TA.out.set2 K6A.out HG.out.1 (.string to) (.slice r5a r5n r5c)
              have q0 := KB.cell 0
              have q1 := KB.cell 1
              simp only [List.getElem?_toArray, List.getElem?_cons_succ, List.getElem?_cons_zero] at q0 q1
              have HLQ : may.length + 1 ≤ 3500000000000 := by have := HM.out; omega
              have hbq : Below (((w5.alloc (.cells #[.string to, (.slice r5a r5n r5c)] 67)).setCell ⟨g6, 0, none⟩ (.string to)).setCell ⟨g6, 1, none⟩ (.slice r5a r5n r5c)).heap.size (((w5.alloc (.cells #[.string to, (.slice r5a r5n r5c)] 67)).setCell ⟨g6, 0, none⟩ (.string to)).setCell ⟨g6, 1, none⟩ (.slice r5a r5n r5c)) ((((w5.alloc (.cells #[.string to, (.slice r5a r5n r5c)] 67)).setCell ⟨g6, 0, none⟩ (.string to)).setCell ⟨g6, 1, none⟩ (.slice r5a r5n r5c)).alloc (.cells #[.string to, (.slice r5a r5n r5c)] 67)) := by go_grown
              have hqs : (((w5.alloc (.cells #[.string to, (.slice r5a r5n r5c)] 67)).setCell ⟨g6, 0, none⟩ (.string to)).setCell ⟨g6, 1, none⟩ (.slice r5a r5n r5c)).heap.size = w5.heap.size + 1 := by simp
              have SQ := SB.below hbq
              obtain ⟨v6, w6, hrun, hss6, hgr6, hv6⟩ := SQ.more (s := (os, [])) 70 (w5.heap.size + 1) 1 (by rw [← ETX.out]; exact Bk.new hqs.symm) (RB.below hbq) HLQ
              have T6 := grown_lm (TB4.then_below hbq) SQ (fun q e => (N6.out q e).2) hgr6
              have K76 := grown_bk (K7B.below hbq) (ss_ne SQ (K7B.below hbq) (by decide)) hgr6
              have K66 := grown_bk (K6B.below hbq) (fun q e => (N6.out q e).1) hgr6
              have KN6 := grown_bk (KB.below hbq) (fun q e e2 => by have h1 := N6.out q e; have h2 := HLT5.out q e; omega) hgr6
              have R6 := grown_row (RB.below hbq) SQ hgr6
              have HRUN := Lib.hid hrun
              have NV : ∀ q, v6.ownBlock = some q → q ≠ g6 ∧ w.heap.size ≤ q := fun q e => by
                rcases hv6 with h | h
                · exact N6.out q (h ▸ e)
                · have h1 := h q e
                  have h2 := (K6B.below hbq).lt
                  have h3 := TB4.2.2.1.size
                  have h4 := hbq.size
                  exact ⟨by omega, by omega⟩
              rw [ETX.out] at K66
              have hb7 : Below w6.heap.size w6 (w6.alloc (.cells #[.string to, (.slice r5a r5n r5c)] 67)) := by go_grown
              have V6 : Hid (LV w b p g6 g7 #[.slice (some ⟨b0, o0, none⟩) n sc, .int .i64 xn, .int .i64 xk, .int .i64 xa] (w6.alloc (.cells #[.string to, (.slice r5a r5n r5c)] 67)) p4 S4 l4 os [] (.slice r5a r5n r5c) 0 [(os, [])] (.slice (some ⟨w6.heap.size, 0, none⟩) 1 1)) := Lib.hid ⟨T6.then_below hb7, OW4.out, R6.below hb7, K66.below hb7, K76.below hb7, SS.one (by rw [← ETX.out]; exact Bk.new rfl) (R6.below hb7), MayBe.nil os, fun q e => by
                simp only [Value.ownBlock, Option.some.injEq] at e
                subst e
                have h1 := K66.lt
                have h2 := T6.2.2.1.size
                exact ⟨by omega, by omega⟩⟩
              have n0 := KN6.cell 0
              have n1 := KN6.cell 1
              simp only [List.getElem?_toArray, List.getElem?_cons_succ, List.getElem?_cons_zero] at n0 n1
              clear hrun hss6 hgr6 hv6 SQ T6 K76 K66 KN6 R6 NV SB RB KB K7B K6B TB4 SA RA KA K6A K7A TA MB N6 RL HSZ hbq HLQ hb7
              go_wp2_with (at_builtin; refine Lib.wpList_append_run _ rfl _ _ 70 70 rfl _ _ rfl rfl v6 w6 HRUN.out ?_)
              go_roundw
              case rel => exact ⟨i + 1, p4, S4, l4, os, [], _, 0, _, by omega, by go_num, V6, HI4, Lib.hid (by simp)⟩
              case measure => simp [intOf]; omega
            · simp only at h0 hg hd h1 h h2
              subst h0
              have hlast : i + 1 = n ∧ 0 < xn := (HI2.out).resolve_left h1
              have HE : Hid (LEnd S4 l4 (may ++ [(os, [])])) := Lib.hid (LEnd.down VX.out.mb hg hd h)
              have HDD := Lib.hid hd
              clear hg hd h1 h h2
              have K6 : Hid (Bk 67 w4 g6 #[.string ⟨sn1.toArray⟩, rv1]) := Lib.hid (KN.out.bk VX.out.k6 (.inr (.inr (.inl rfl))))
              have K7 : Hid (Bk 69 w4 g7 #[.slice (some ⟨b0, o0, none⟩) n sc, .int .i64 xn, .int .i64 xk, .int .i64 xa]) := Lib.hid (KN.out.bk VX.out.k7 (.inr (.inr (.inr rfl))))
              have SS4 : Hid (SS w4 (.slice ma mn mc) may) := Lib.hid (KN.out.ss VX.out.ss)
              have R4 : Hid (RowS w4 rv1 rs1) := Lib.hid (KN.out.rowS VX.out.row)
              have T4 : Hid (LM w b p w4 p4 S4 l4) := Lib.hid (VX.out.lm.trans LM4.out HBW.out)
              have MB := Lib.hid VX.out.mb
              have N6 := Lib.hid VX.out.n6
              have RL : Hid (rs1.length + 1 ≤ 4194304) := Lib.hid (by have h1 := VX.out.ow.many; have h2 := VX.out.ow.n; omega)
              clear VX LM4 HLC KN
              have k60 := K6.out.cell 0
              have k61 := K6.out.cell 1
              have k20 := K4.out.cell 0
              have k21 := K4.out.cell 1
              have k22 := K4.out.cell 2
              have k23 := K4.out.cell 3
              have k24 := K4.out.cell 4
              simp only [List.getElem?_toArray, List.getElem?_cons_succ, List.getElem?_cons_zero] at k60 k61 k20 k21 k22 k23 k24
              have hnx := next_chk (sn1, rs1) rv1 on 2 oa ob os w4 rfl rfl
              unfold stv at hnx
              rw [← HTO.out] at hnx
              have HNX := Lib.hid hnx
              clear hnx
              obtain ⟨r1a, r1c, hrv1⟩ := R4.out.shape
              obtain ⟨r1n, hr1n⟩ : ∃ a, a = rs1.length := ⟨_, rfl⟩
              rw [← hr1n] at hrv1
              subst hrv1
              clear hr1n
              generalize hts1 : (⟨sn1.toArray⟩ : ByteArray) = ts1 at k60 K6 HNX
              have HTS1 := Lib.hid hts1
              clear hts1
              go_wp2_with fail
              refine HNX.out.mono ?_
              rintro e w5 ⟨rv5, rfl, hr5, hb5, hf5⟩
              have R5 := Lib.hid hr5
              obtain ⟨r5a, r5c, hrv5⟩ := hr5.shape
              obtain ⟨r5n, hr5n⟩ : ∃ a, a = ([] : List Bs).length := ⟨_, rfl⟩
              rw [← hr5n] at hrv5
              clear hr5 hf5 hr5n
              subst hrv5
              have K65 := Lib.hid (K6.out.below hb5)
              have K75 := Lib.hid (K7.out.below hb5)
              have SS5 := Lib.hid (SS4.out.below hb5)
              have T5 := Lib.hid (T4.out.then_below hb5)
              have HLT5 : Hid (∀ q, (Value.slice ma mn mc).ownBlock = some q → q < w5.heap.size) := Lib.hid SS5.out.lt
              clear hb5 HNX K6 K7 SS4 R4 T4 K4 k60 k61 k20 k21 k22 k23 k24
              have SA : Hid (SS (w5.alloc (.cells #[.string to, (.slice r5a r5n r5c)] 67)) (.slice ma mn mc) may) := Lib.hid (SS5.out.below (by go_grown))
              have KA : Hid (Bk 67 (w5.alloc (.cells #[.string to, (.slice r5a r5n r5c)] 67)) w5.heap.size #[.string to, (.slice r5a r5n r5c)]) := Lib.hid (Bk.new rfl)
              have RA : Hid (RowS (w5.alloc (.cells #[.string to, (.slice r5a r5n r5c)] 67)) (.slice r5a r5n r5c) []) := Lib.hid (R5.out.below (by go_grown))
              have K6A : Hid (Bk 67 (w5.alloc (.cells #[.string to, (.slice r5a r5n r5c)] 67)) g6 #[.string ts1, .slice r1a r1n r1c]) := Lib.hid K65.out.alloc
              have K7A : Hid (Bk 69 (w5.alloc (.cells #[.string to, (.slice r5a r5n r5c)] 67)) g7 #[.slice (some ⟨b0, o0, none⟩) n sc, .int .i64 xn, .int .i64 xk, .int .i64 xa]) := Lib.hid K75.out.alloc
              have TA : Hid (LM w b p (w5.alloc (.cells #[.string to, (.slice r5a r5n r5c)] 67)) p4 S4 l4) := Lib.hid (T5.out.then_below (by go_grown))
              have HSZ : Hid (w5.heap.size ≠ g6 ∧ w5.heap.size ≠ g7) := Lib.hid ⟨by have := K65.out.lt; omega, by have := K75.out.lt; omega⟩
              clear K65 K75 SS5 T5 R5
              have ETX : Hid (to = ⟨(os : Bs).toArray⟩) := Lib.hid HTO.out
              have k71 := K7A.out.cell 1
              simp only [List.getElem?_toArray, List.getElem?_cons_succ, List.getElem?_cons_zero] at k71
              have fe : ((i : Int) == (n : Int) - 1) = true := by simp; omega
              have fn : decide ((0 : Int) < xn) = true := decide_eq_true hlast.2
              have HLQ : may.length + 1 ≤ 3500000000000 := by have := HM.out; omega
              obtain ⟨v6, w6, hrun, hss6, hgr6, hv6⟩ := (SA.out.below (w' := (w5.alloc (.cells #[.string to, (.slice r5a r5n r5c)] 67)).alloc (.cells #[.string to, (.slice r5a r5n r5c)] 67)) (by go_grown)).more (s := (os, [])) 70 (w5.heap.size + 1) 1 (by rw [← ETX.out]; exact Bk.new (by simp)) (RA.out.below (by go_grown)) HLQ
              have SQ := SA.out.below (w' := (w5.alloc (.cells #[.string to, (.slice r5a r5n r5c)] 67)).alloc (.cells #[.string to, (.slice r5a r5n r5c)] 67)) (by go_grown)
              have T6 : Hid (LM w b p w6 p4 S4 l4) := Lib.hid (grown_lm (TA.out.then_below (by go_grown)) SQ (fun q e => (N6.out q e).2) hgr6)
              have K76 := grown_bk (K7A.out.alloc (o := .cells #[.string to, (.slice r5a r5n r5c)] 67)) (ss_ne SQ (K7A.out.alloc (o := .cells #[.string to, (.slice r5a r5n r5c)] 67)) (by decide)) hgr6
              have k76 := K76.cell 1
              simp only [List.getElem?_toArray, List.getElem?_cons_succ, List.getElem?_cons_zero] at k76
              have HSS6 := Lib.hid hss6
              have HRUN := Lib.hid hrun
              have HML : Hid ((may ++ [((os, []) : Stt)]).length ≤ 3000000000000) := Lib.hid (by rw [List.length_append, List.length_singleton]; have := HM.out; omega)
              clear hlast HLQ hrun hss6 hgr6 hv6 SQ K76 SA RA K6A K7A TA MB N6 RL HSZ
              go_wp2_with (at_builtin; refine Lib.wpList_append_run _ rfl _ _ 70 70 rfl _ _ rfl rfl v6 w6 HRUN.out ?_)
              refine (dead42 b _ _ _ _ _ w6 (Lib.hid T6.out.1.blk)).mono ?_
              rintro e w7 ⟨rfl, rfl⟩
              rw [HDD.out]
              go_wp2_with fail
              go_returns
              exact ⟨v6, p4, S4, l4, _, rfl, T6.out, HSS6.out, HML.out, HE.out⟩
          · have fcase : (((i : Int) == (n : Int) - 1) = true ∧ decide ((0 : Int) < xn) = false) ∨ ((i : Int) == (n : Int) - 1) = false := by
              by_cases h1 : i + 1 = n
              · exact .inl ⟨by simp; omega, decide_eq_false (fun h2 => har ⟨h1, h2⟩)⟩
              · exact .inr (by simp; omega)
            have VX := V2
            have K3 : Hid (Bk 46 (wr.alloc (.cells #[.int .i64 on, .int .i64 2, .int .i64 oa, .int .i64 ob, .string to] 46)) wr.heap.size #[.int .i64 on, .int .i64 2, .int .i64 oa, .int .i64 ob, .string to]) := K2
            have HI2 : Hid (S1.inn = 0 ∨ i + 1 = n ∧ 0 < xn) := Lib.hid (.inl (HI.out.resolve_right (by omega)))
            obtain ⟨S2, hS2⟩ : ∃ S, S = S1 := ⟨_, rfl⟩
            rw [← hS2] at VX HI2
            clear hS2 HI V2 K2
            have TB := Lib.hid (HLO.out.lm (Nat.le_refl _) VX.out.lm).tb
            obtain ⟨w3, hw3⟩ : ∃ w, w = (wr.alloc (.cells #[.int .i64 on, .int .i64 2, .int .i64 oa, .int .i64 ob, .string to] 46)) := ⟨_, rfl⟩
            obtain ⟨g12, hg12⟩ : ∃ g, g = wr.heap.size := ⟨_, rfl⟩
            have HW3 := Lib.hid (And.intro hw3 hg12)
            rw [← hw3, ← hg12] at K3
            rw [← hw3] at VX TB
            clear hw3 hg12
            rcases fcase with ⟨fe, fn⟩ | fe
            · have k21 := K3.out.cell 1
              have k24 := K3.out.cell 4
              simp only [List.getElem?_toArray, List.getElem?_cons_succ, List.getElem?_cons_zero] at k21 k24
              have hcall := lchk_any VX.out.lm.1 TB.out VX.out.ow.oth os
              have hlc := VX.out.ow.lchk os
              generalize lchk S2 l1 os = xx at hcall hlc
              obtain ⟨cd, S4, l4⟩ := xx
              rw [← HTO.out] at hcall
              have HCALL := Lib.hid hcall
              have HLC := Lib.hid hlc
              clear hcall hlc
              rw [HW3.out.1, HW3.out.2] at k21 k24
              rw [HW3.out.1] at HCALL
              go_wp2_with fail
              rw [← HW3.out.1]
              rw [← HW3.out.1] at HCALL
              rw [← HW3.out.2]
              clear HW3 d0 d1 d2 d3 d4 hix fw x0 x2
              refine HCALL.out.mono ?_
              rintro e w4 ⟨rfl, p4, hm4⟩
              have KN : Hid (Kin w3 w4) := Lib.hid (hm4.kin VX.out.lm.1)
              have LM4 := Lib.hid hm4
              have K4 : Hid (Bk 46 w4 g12 #[.int .i64 on, .int .i64 2, .int .i64 oa, .int .i64 ob, .string to]) := Lib.hid (KN.out.bk K3.out (.inr (.inl rfl)))
              clear hm4 HCALL k21 k24 K3 k70 k71 k72
              rcases HLC.out with ⟨h0, h⟩ | ⟨h0, h, h1⟩ | ⟨h0, hg, hd, h1, h, h2⟩
              · simp only [Prod.mk.injEq] at h h0
                obtain ⟨rfl, rfl⟩ := h
                have V4 := Lib.hid (VX.out.step HBW.out LM4.out VX.out.ow)
                clear VX LM4 HLC KN K4
                have y0 : ((cd : Int) != 0) = true := by rcases h0 with rfl | rfl <;> rfl
                have y2 : ((cd : Int) != 2) = true := by rcases h0 with rfl | rfl <;> rfl
                clear h0
                go_wp2_with fail
                go_roundw
                case rel => exact ⟨i + 1, p4, S4, l4, sn1, rs1, rv1, m, may, by omega, by go_num, V4, Lib.hid (HI2.out.imp id And.left), Lib.hid (by have := HM.out; omega)⟩
                case measure => simp [intOf]; omega
              · simp only at h0 h h1
                subst h0
                have OW4 := Lib.hid h
                have HI4 : Hid (S4.inn = 0 ∨ i + 1 = n) := Lib.hid (HI2.out.imp h1 And.left)
                have K6 : Hid (Bk 67 w4 g6 #[.string ⟨sn1.toArray⟩, rv1]) := Lib.hid (KN.out.bk VX.out.k6 (.inr (.inr (.inl rfl))))
                have K7 : Hid (Bk 69 w4 g7 #[.slice (some ⟨b0, o0, none⟩) n sc, .int .i64 xn, .int .i64 xk, .int .i64 xa]) := Lib.hid (KN.out.bk VX.out.k7 (.inr (.inr (.inr rfl))))
                have SS4 : Hid (SS w4 (.slice ma mn mc) may) := Lib.hid (KN.out.ss VX.out.ss)
                have R4 : Hid (RowS w4 rv1 rs1) := Lib.hid (KN.out.rowS VX.out.row)
                have T4 : Hid (LM w b p w4 p4 S4 l4) := Lib.hid (VX.out.lm.trans LM4.out HBW.out)
                have MB := Lib.hid VX.out.mb
                have N6 := Lib.hid VX.out.n6
                have RL : Hid (rs1.length + 1 ≤ 4194304) := Lib.hid (by have h1 := VX.out.ow.many; have h2 := VX.out.ow.n; omega)
                clear VX LM4 HLC KN
                have k60 := K6.out.cell 0
                have k61 := K6.out.cell 1
                have k20 := K4.out.cell 0
                have k21 := K4.out.cell 1
                have k22 := K4.out.cell 2
                have k23 := K4.out.cell 3
                have k24 := K4.out.cell 4
                simp only [List.getElem?_toArray, List.getElem?_cons_succ, List.getElem?_cons_zero] at k60 k61 k20 k21 k22 k23 k24
                have hnx := next_chk (sn1, rs1) rv1 on 2 oa ob os w4 rfl rfl
                unfold stv at hnx
                rw [← HTO.out] at hnx
                have HNX := Lib.hid hnx
                clear hnx
                obtain ⟨r1a, r1c, hrv1⟩ := R4.out.shape
                obtain ⟨r1n, hr1n⟩ : ∃ a, a = rs1.length := ⟨_, rfl⟩
                rw [← hr1n] at hrv1
                subst hrv1
                clear hr1n
                generalize hts1 : (⟨sn1.toArray⟩ : ByteArray) = ts1 at k60 K6 HNX
                have HTS1 := Lib.hid hts1
                clear hts1
                go_wp2_with fail
                refine HNX.out.mono ?_
                rintro e w5 ⟨rv5, rfl, hr5, hb5, hf5⟩
                have R5 := Lib.hid hr5
                obtain ⟨r5a, r5c, hrv5⟩ := hr5.shape
                obtain ⟨r5n, hr5n⟩ : ∃ a, a = ([] : List Bs).length := ⟨_, rfl⟩
                rw [← hr5n] at hrv5
                clear hr5 hf5 hr5n
                subst hrv5
                have K65 := Lib.hid (K6.out.below hb5)
                have K75 := Lib.hid (K7.out.below hb5)
                have SS5 := Lib.hid (SS4.out.below hb5)
                have T5 := Lib.hid (T4.out.then_below hb5)
                have HLT5 : Hid (∀ q, (Value.slice ma mn mc).ownBlock = some q → q < w5.heap.size) := Lib.hid SS5.out.lt
                clear hb5 HNX K6 K7 SS4 R4 T4 K4 k60 k61 k20 k21 k22 k23 k24
                have SA : Hid (SS (w5.alloc (.cells #[.string to, (.slice r5a r5n r5c)] 67)) (.slice ma mn mc) may) := Lib.hid (SS5.out.below (by go_grown))
                have KA : Hid (Bk 67 (w5.alloc (.cells #[.string to, (.slice r5a r5n r5c)] 67)) w5.heap.size #[.string to, (.slice r5a r5n r5c)]) := Lib.hid (Bk.new rfl)
                have RA : Hid (RowS (w5.alloc (.cells #[.string to, (.slice r5a r5n r5c)] 67)) (.slice r5a r5n r5c) []) := Lib.hid (R5.out.below (by go_grown))
                have K6A : Hid (Bk 67 (w5.alloc (.cells #[.string to, (.slice r5a r5n r5c)] 67)) g6 #[.string ts1, .slice r1a r1n r1c]) := Lib.hid K65.out.alloc
                have K7A : Hid (Bk 69 (w5.alloc (.cells #[.string to, (.slice r5a r5n r5c)] 67)) g7 #[.slice (some ⟨b0, o0, none⟩) n sc, .int .i64 xn, .int .i64 xk, .int .i64 xa]) := Lib.hid K75.out.alloc
                have TA : Hid (LM w b p (w5.alloc (.cells #[.string to, (.slice r5a r5n r5c)] 67)) p4 S4 l4) := Lib.hid (T5.out.then_below (by go_grown))
                have HSZ : Hid (w5.heap.size ≠ g6 ∧ w5.heap.size ≠ g7) := Lib.hid ⟨by have := K65.out.lt; omega, by have := K75.out.lt; omega⟩
                clear K65 K75 SS5 T5 R5
                have ETX : Hid (to = ⟨(os : Bs).toArray⟩) := Lib.hid HTO.out
                have k60 := K6A.out.cell 0
                have k61 := K6A.out.cell 1
                have f60 := K6A.out.fro 0
                have f61 := K6A.out.fro 1
                simp only [List.getElem?_toArray, List.getElem?_cons_succ, List.getElem?_cons_zero] at k60 k61
                have SB := SA.out.set2 K6A.out (fun q e => (N6.out q e).1) (.string to) (.slice r5a r5n r5c)
                have RB := RA.out.set2 K6A.out (.string to) (.slice r5a r5n r5c)
                have KB := KA.out.oth2 HSZ.out.1 (.string to) (.slice r5a r5n r5c)
                have K7B := K7A.out.oth2 HG.out.2.symm (.string to) (.slice r5a r5n r5c)
                have K6B := K6A.out.put2 (x := .string to) (y := (.slice r5a r5n r5c))
                have TB4 := TA.out.set2 K6A.out HG.out.1 (.string to) (.slice r5a r5n r5c)
                have q0 := KB.cell 0
                have q1 := KB.cell 1
                simp only [List.getElem?_toArray, List.getElem?_cons_succ, List.getElem?_cons_zero] at q0 q1
                have HLQ : may.length + 1 ≤ 3500000000000 := by have := HM.out; omega
                have hbq : Below (((w5.alloc (.cells #[.string to, (.slice r5a r5n r5c)] 67)).setCell ⟨g6, 0, none⟩ (.string to)).setCell ⟨g6, 1, none⟩ (.slice r5a r5n r5c)).heap.size (((w5.alloc (.cells #[.string to, (.slice r5a r5n r5c)] 67)).setCell ⟨g6, 0, none⟩ (.string to)).setCell ⟨g6, 1, none⟩ (.slice r5a r5n r5c)) ((((w5.alloc (.cells #[.string to, (.slice r5a r5n r5c)] 67)).setCell ⟨g6, 0, none⟩ (.string to)).setCell ⟨g6, 1, none⟩ (.slice r5a r5n r5c)).alloc (.cells #[.string to, (.slice r5a r5n r5c)] 67)) := by go_grown
                have hqs : (((w5.alloc (.cells #[.string to, (.slice r5a r5n r5c)] 67)).setCell ⟨g6, 0, none⟩ (.string to)).setCell ⟨g6, 1, none⟩ (.slice r5a r5n r5c)).heap.size = w5.heap.size + 1 := by simp
                have SQ := SB.below hbq
                obtain ⟨v6, w6, hrun, hss6, hgr6, hv6⟩ := SQ.more (s := (os, [])) 70 (w5.heap.size + 1) 1 (by rw [← ETX.out]; exact Bk.new hqs.symm) (RB.below hbq) HLQ
                have T6 := grown_lm (TB4.then_below hbq) SQ (fun q e => (N6.out q e).2) hgr6
                have K76 := grown_bk (K7B.below hbq) (ss_ne SQ (K7B.below hbq) (by decide)) hgr6
                have K66 := grown_bk (K6B.below hbq) (fun q e => (N6.out q e).1) hgr6
                have KN6 := grown_bk (KB.below hbq) (fun q e e2 => by have h1 := N6.out q e; have h2 := HLT5.out q e; omega) hgr6
                have R6 := grown_row (RB.below hbq) SQ hgr6
                have HRUN := Lib.hid hrun
                have NV : ∀ q, v6.ownBlock = some q → q ≠ g6 ∧ w.heap.size ≤ q := fun q e => by
                  rcases hv6 with h | h
                  · exact N6.out q (h ▸ e)
                  · have h1 := h q e
                    have h2 := (K6B.below hbq).lt
                    have h3 := TB4.2.2.1.size
                    have h4 := hbq.size
                    exact ⟨by omega, by omega⟩
                rw [ETX.out] at K66
                have hb7 : Below w6.heap.size w6 (w6.alloc (.cells #[.string to, (.slice r5a r5n r5c)] 67)) := by go_grown
                have V6 : Hid (LV w b p g6 g7 #[.slice (some ⟨b0, o0, none⟩) n sc, .int .i64 xn, .int .i64 xk, .int .i64 xa] (w6.alloc (.cells #[.string to, (.slice r5a r5n r5c)] 67)) p4 S4 l4 os [] (.slice r5a r5n r5c) 0 [(os, [])] (.slice (some ⟨w6.heap.size, 0, none⟩) 1 1)) := Lib.hid ⟨T6.then_below hb7, OW4.out, R6.below hb7, K66.below hb7, K76.below hb7, SS.one (by rw [← ETX.out]; exact Bk.new rfl) (R6.below hb7), MayBe.nil os, fun q e => by
                  simp only [Value.ownBlock, Option.some.injEq] at e
                  subst e
                  have h1 := K66.lt
                  have h2 := T6.2.2.1.size
                  exact ⟨by omega, by omega⟩⟩
                have n0 := KN6.cell 0
                have n1 := KN6.cell 1
                simp only [List.getElem?_toArray, List.getElem?_cons_succ, List.getElem?_cons_zero] at n0 n1
                clear hrun hss6 hgr6 hv6 SQ T6 K76 K66 KN6 R6 NV SB RB KB K7B K6B TB4 SA RA KA K6A K7A TA MB N6 RL HSZ hbq HLQ hb7
                go_wp2_with (at_builtin; refine Lib.wpList_append_run _ rfl _ _ 70 70 rfl _ _ rfl rfl v6 w6 HRUN.out ?_)
                go_roundw
                case rel => exact ⟨i + 1, p4, S4, l4, os, [], _, 0, _, by omega, by go_num, V6, HI4, Lib.hid (by simp)⟩
                case measure => simp [intOf]; omega
              · exact absurd ((HI2.out).resolve_left h1) har
            · have k21 := K3.out.cell 1
              have k24 := K3.out.cell 4
              simp only [List.getElem?_toArray, List.getElem?_cons_succ, List.getElem?_cons_zero] at k21 k24
              have hcall := lchk_any VX.out.lm.1 TB.out VX.out.ow.oth os
              have hlc := VX.out.ow.lchk os
              generalize lchk S2 l1 os = xx at hcall hlc
              obtain ⟨cd, S4, l4⟩ := xx
              rw [← HTO.out] at hcall
              have HCALL := Lib.hid hcall
              have HLC := Lib.hid hlc
              clear hcall hlc
              rw [HW3.out.1, HW3.out.2] at k21 k24
              rw [HW3.out.1] at HCALL
              go_wp2_with fail
              rw [← HW3.out.1]
              rw [← HW3.out.1] at HCALL
              rw [← HW3.out.2]
              clear HW3 d0 d1 d2 d3 d4 hix fw x0 x2
              refine HCALL.out.mono ?_
              rintro e w4 ⟨rfl, p4, hm4⟩
              have KN : Hid (Kin w3 w4) := Lib.hid (hm4.kin VX.out.lm.1)
              have LM4 := Lib.hid hm4
              have K4 : Hid (Bk 46 w4 g12 #[.int .i64 on, .int .i64 2, .int .i64 oa, .int .i64 ob, .string to]) := Lib.hid (KN.out.bk K3.out (.inr (.inl rfl)))
              clear hm4 HCALL k21 k24 K3 k70 k71 k72
              rcases HLC.out with ⟨h0, h⟩ | ⟨h0, h, h1⟩ | ⟨h0, hg, hd, h1, h, h2⟩
              · simp only [Prod.mk.injEq] at h h0
                obtain ⟨rfl, rfl⟩ := h
                have V4 := Lib.hid (VX.out.step HBW.out LM4.out VX.out.ow)
                clear VX LM4 HLC KN K4
                have y0 : ((cd : Int) != 0) = true := by rcases h0 with rfl | rfl <;> rfl
                have y2 : ((cd : Int) != 2) = true := by rcases h0 with rfl | rfl <;> rfl
                clear h0
                go_wp2_with fail
                go_roundw
                case rel => exact ⟨i + 1, p4, S4, l4, sn1, rs1, rv1, m, may, by omega, by go_num, V4, Lib.hid (HI2.out.imp id And.left), Lib.hid (by have := HM.out; omega)⟩
                case measure => simp [intOf]; omega
              · simp only at h0 h h1
                subst h0
                have OW4 := Lib.hid h
                have HI4 : Hid (S4.inn = 0 ∨ i + 1 = n) := Lib.hid (HI2.out.imp h1 And.left)
                have K6 : Hid (Bk 67 w4 g6 #[.string ⟨sn1.toArray⟩, rv1]) := Lib.hid (KN.out.bk VX.out.k6 (.inr (.inr (.inl rfl))))
                have K7 : Hid (Bk 69 w4 g7 #[.slice (some ⟨b0, o0, none⟩) n sc, .int .i64 xn, .int .i64 xk, .int .i64 xa]) := Lib.hid (KN.out.bk VX.out.k7 (.inr (.inr (.inr rfl))))
                have SS4 : Hid (SS w4 (.slice ma mn mc) may) := Lib.hid (KN.out.ss VX.out.ss)
                have R4 : Hid (RowS w4 rv1 rs1) := Lib.hid (KN.out.rowS VX.out.row)
                have T4 : Hid (LM w b p w4 p4 S4 l4) := Lib.hid (VX.out.lm.trans LM4.out HBW.out)
                have MB := Lib.hid VX.out.mb
                have N6 := Lib.hid VX.out.n6
                have RL : Hid (rs1.length + 1 ≤ 4194304) := Lib.hid (by have h1 := VX.out.ow.many; have h2 := VX.out.ow.n; omega)
                clear VX LM4 HLC KN
                have k60 := K6.out.cell 0
                have k61 := K6.out.cell 1
                have k20 := K4.out.cell 0
                have k21 := K4.out.cell 1
                have k22 := K4.out.cell 2
                have k23 := K4.out.cell 3
                have k24 := K4.out.cell 4
                simp only [List.getElem?_toArray, List.getElem?_cons_succ, List.getElem?_cons_zero] at k60 k61 k20 k21 k22 k23 k24
                have hnx := next_chk (sn1, rs1) rv1 on 2 oa ob os w4 rfl rfl
                unfold stv at hnx
                rw [← HTO.out] at hnx
                have HNX := Lib.hid hnx
                clear hnx
                obtain ⟨r1a, r1c, hrv1⟩ := R4.out.shape
                obtain ⟨r1n, hr1n⟩ : ∃ a, a = rs1.length := ⟨_, rfl⟩
                rw [← hr1n] at hrv1
                subst hrv1
                clear hr1n
                generalize hts1 : (⟨sn1.toArray⟩ : ByteArray) = ts1 at k60 K6 HNX
                have HTS1 := Lib.hid hts1
                clear hts1
                go_wp2_with fail
                refine HNX.out.mono ?_
                rintro e w5 ⟨rv5, rfl, hr5, hb5, hf5⟩
                have R5 := Lib.hid hr5
                obtain ⟨r5a, r5c, hrv5⟩ := hr5.shape
                obtain ⟨r5n, hr5n⟩ : ∃ a, a = ([] : List Bs).length := ⟨_, rfl⟩
                rw [← hr5n] at hrv5
                clear hr5 hf5 hr5n
                subst hrv5
                have K65 := Lib.hid (K6.out.below hb5)
                have K75 := Lib.hid (K7.out.below hb5)
                have SS5 := Lib.hid (SS4.out.below hb5)
                have T5 := Lib.hid (T4.out.then_below hb5)
                have HLT5 : Hid (∀ q, (Value.slice ma mn mc).ownBlock = some q → q < w5.heap.size) := Lib.hid SS5.out.lt
                clear hb5 HNX K6 K7 SS4 R4 T4 K4 k60 k61 k20 k21 k22 k23 k24
                have SA : Hid (SS (w5.alloc (.cells #[.string to, (.slice r5a r5n r5c)] 67)) (.slice ma mn mc) may) := Lib.hid (SS5.out.below (by go_grown))
                have KA : Hid (Bk 67 (w5.alloc (.cells #[.string to, (.slice r5a r5n r5c)] 67)) w5.heap.size #[.string to, (.slice r5a r5n r5c)]) := Lib.hid (Bk.new rfl)
                have RA : Hid (RowS (w5.alloc (.cells #[.string to, (.slice r5a r5n r5c)] 67)) (.slice r5a r5n r5c) []) := Lib.hid (R5.out.below (by go_grown))
                have K6A : Hid (Bk 67 (w5.alloc (.cells #[.string to, (.slice r5a r5n r5c)] 67)) g6 #[.string ts1, .slice r1a r1n r1c]) := Lib.hid K65.out.alloc
                have K7A : Hid (Bk 69 (w5.alloc (.cells #[.string to, (.slice r5a r5n r5c)] 67)) g7 #[.slice (some ⟨b0, o0, none⟩) n sc, .int .i64 xn, .int .i64 xk, .int .i64 xa]) := Lib.hid K75.out.alloc
                have TA : Hid (LM w b p (w5.alloc (.cells #[.string to, (.slice r5a r5n r5c)] 67)) p4 S4 l4) := Lib.hid (T5.out.then_below (by go_grown))
                have HSZ : Hid (w5.heap.size ≠ g6 ∧ w5.heap.size ≠ g7) := Lib.hid ⟨by have := K65.out.lt; omega, by have := K75.out.lt; omega⟩
                clear K65 K75 SS5 T5 R5
                have ETX : Hid (to = ⟨(os : Bs).toArray⟩) := Lib.hid HTO.out
                have k60 := K6A.out.cell 0
                have k61 := K6A.out.cell 1
                have f60 := K6A.out.fro 0
                have f61 := K6A.out.fro 1
                simp only [List.getElem?_toArray, List.getElem?_cons_succ, List.getElem?_cons_zero] at k60 k61
                have SB := SA.out.set2 K6A.out (fun q e => (N6.out q e).1) (.string to) (.slice r5a r5n r5c)
                have RB := RA.out.set2 K6A.out (.string to) (.slice r5a r5n r5c)
                have KB := KA.out.oth2 HSZ.out.1 (.string to) (.slice r5a r5n r5c)
                have K7B := K7A.out.oth2 HG.out.2.symm (.string to) (.slice r5a r5n r5c)
                have K6B := K6A.out.put2 (x := .string to) (y := (.slice r5a r5n r5c))
                have TB4 := TA.out.set2 K6A.out HG.out.1 (.string to) (.slice r5a r5n r5c)
                have q0 := KB.cell 0
                have q1 := KB.cell 1
                simp only [List.getElem?_toArray, List.getElem?_cons_succ, List.getElem?_cons_zero] at q0 q1
                have HLQ : may.length + 1 ≤ 3500000000000 := by have := HM.out; omega
                have hbq : Below (((w5.alloc (.cells #[.string to, (.slice r5a r5n r5c)] 67)).setCell ⟨g6, 0, none⟩ (.string to)).setCell ⟨g6, 1, none⟩ (.slice r5a r5n r5c)).heap.size (((w5.alloc (.cells #[.string to, (.slice r5a r5n r5c)] 67)).setCell ⟨g6, 0, none⟩ (.string to)).setCell ⟨g6, 1, none⟩ (.slice r5a r5n r5c)) ((((w5.alloc (.cells #[.string to, (.slice r5a r5n r5c)] 67)).setCell ⟨g6, 0, none⟩ (.string to)).setCell ⟨g6, 1, none⟩ (.slice r5a r5n r5c)).alloc (.cells #[.string to, (.slice r5a r5n r5c)] 67)) := by go_grown
                have hqs : (((w5.alloc (.cells #[.string to, (.slice r5a r5n r5c)] 67)).setCell ⟨g6, 0, none⟩ (.string to)).setCell ⟨g6, 1, none⟩ (.slice r5a r5n r5c)).heap.size = w5.heap.size + 1 := by simp
                have SQ := SB.below hbq
                obtain ⟨v6, w6, hrun, hss6, hgr6, hv6⟩ := SQ.more (s := (os, [])) 70 (w5.heap.size + 1) 1 (by rw [← ETX.out]; exact Bk.new hqs.symm) (RB.below hbq) HLQ
                have T6 := grown_lm (TB4.then_below hbq) SQ (fun q e => (N6.out q e).2) hgr6
                have K76 := grown_bk (K7B.below hbq) (ss_ne SQ (K7B.below hbq) (by decide)) hgr6
                have K66 := grown_bk (K6B.below hbq) (fun q e => (N6.out q e).1) hgr6
                have KN6 := grown_bk (KB.below hbq) (fun q e e2 => by have h1 := N6.out q e; have h2 := HLT5.out q e; omega) hgr6
                have R6 := grown_row (RB.below hbq) SQ hgr6
                have HRUN := Lib.hid hrun
                have NV : ∀ q, v6.ownBlock = some q → q ≠ g6 ∧ w.heap.size ≤ q := fun q e => by
                  rcases hv6 with h | h
                  · exact N6.out q (h ▸ e)
                  · have h1 := h q e
                    have h2 := (K6B.below hbq).lt
                    have h3 := TB4.2.2.1.size
                    have h4 := hbq.size
                    exact ⟨by omega, by omega⟩
                rw [ETX.out] at K66
                have hb7 : Below w6.heap.size w6 (w6.alloc (.cells #[.string to, (.slice r5a r5n r5c)] 67)) := by go_grown
                have V6 : Hid (LV w b p g6 g7 #[.slice (some ⟨b0, o0, none⟩) n sc, .int .i64 xn, .int .i64 xk, .int .i64 xa] (w6.alloc (.cells #[.string to, (.slice r5a r5n r5c)] 67)) p4 S4 l4 os [] (.slice r5a r5n r5c) 0 [(os, [])] (.slice (some ⟨w6.heap.size, 0, none⟩) 1 1)) := Lib.hid ⟨T6.then_below hb7, OW4.out, R6.below hb7, K66.below hb7, K76.below hb7, SS.one (by rw [← ETX.out]; exact Bk.new rfl) (R6.below hb7), MayBe.nil os, fun q e => by
                  simp only [Value.ownBlock, Option.some.injEq] at e
                  subst e
                  have h1 := K66.lt
                  have h2 := T6.2.2.1.size
                  exact ⟨by omega, by omega⟩⟩
                have n0 := KN6.cell 0
                have n1 := KN6.cell 1
                simp only [List.getElem?_toArray, List.getElem?_cons_succ, List.getElem?_cons_zero] at n0 n1
                clear hrun hss6 hgr6 hv6 SQ T6 K76 K66 KN6 R6 NV SB RB KB K7B K6B TB4 SA RA KA K6A K7A TA MB N6 RL HSZ hbq HLQ hb7
                go_wp2_with (at_builtin; refine Lib.wpList_append_run _ rfl _ _ 70 70 rfl _ _ rfl rfl v6 w6 HRUN.out ?_)
                go_roundw
                case rel => exact ⟨i + 1, p4, S4, l4, os, [], _, 0, _, by omega, by go_num, V6, HI4, Lib.hid (by simp)⟩
                case measure => simp [intOf]; omega
              · exact absurd ((HI2.out).resolve_left h1) har
      · have V2 := Lib.hid (V.out.below (w' := wr.alloc (.cells #[.int .i64 on, .int .i64 kind, .int .i64 oa, .int .i64 ob, .string ⟨os.toArray⟩] 46)) (by go_grown))
        have HI2 : Hid (S1.inn = 0 ∨ i + 1 = n) := Lib.hid (.inl (HI.out.resolve_right (by omega)))
        clear V HI k71 k72
        by_cases hk0 : kind < 0
        · have x0 : decide (kind < 0) = true := decide_eq_true hk0
          clear hkind hk0
          go_wp2_with fail
          go_roundw
          case rel => exact ⟨i + 1, p1, S1, l1, sn1, rs1, rv1, m, may, by omega, by go_num, V2, HI2, Lib.hid (by have := HM.out; omega)⟩
          case measure => simp [intOf]; omega
        · have x0 : decide (kind < 0) = false := decide_eq_false hk0
          have x2 : decide ((2 : Int) < kind) = true := decide_eq_true (by omega)
          clear hkind hk0
          go_wp2_with fail
          go_roundw
          case rel => exact ⟨i + 1, p1, S1, l1, sn1, rs1, rv1, m, may, by omega, by go_num, V2, HI2, Lib.hid (by have := HM.out; omega)⟩
          case measure => simp [intOf]; omega
    · have hin : i = n := by omega
      subst hin
      have hdd := V.out.ow.dead
      have HML : Hid (may.length ≤ 3000000000000) := Lib.hid (by have := HM.out; omega)
      clear hlt HI k71 k72
      go_wp2_with fail
      refine (dead42 b _ _ _ _ _ wr (Lib.hid V.out.lm.1.blk)).mono ?_
      rintro e w7 ⟨rfl, rfl⟩
      rw [hdd]
      go_wp2_with fail
      go_returns
      exact ⟨_, p1, S1, l1, may, rfl, V.out.lm, V.out.ss, HML.out, .inl ⟨_, _, _, V.out.ow, V.out.mb⟩⟩
end Go.Proofs.YtmoihgniglomiaaDoor
