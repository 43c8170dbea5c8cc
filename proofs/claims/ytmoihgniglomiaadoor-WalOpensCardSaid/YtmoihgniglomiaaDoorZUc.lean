/- WalOpens: opening tells what the document's opening tells, and leaves the same. Condition: the program's table. -/
import Derived.Test.YtmoihgniglomiaaDoorZXe
import Derived.Test.YtmoihgniglomiaaDoorZXf
import Derived.Test.YtmoihgniglomiaaDoorZXc
set_option linter.unusedVariables false
set_option linter.unusedSimpArgs false
set_option maxRecDepth 100000
namespace Go.Proofs.YtmoihgniglomiaaDoor
open Go.RowKit Go.Sort
set_option maxHeartbeats 32000000 in
/-- from the arming on -/
theorem opens_walk (vt : Value) (tl : List ByteArray) (o : Op) (w : World) (h : StrIn w vt tl) (hok : OpOk o) (hT : Tb w) :
    Calls Tryd.prog 5 #[vt, .agg #[.int .i64 o.on, .int .i64 o.kind, .int .i64 o.a, .int .i64 o.b, .string o.s]] w fun e w' => e = .returned (.bool true) ∧ Below w.heap.size w w' := by
  have HT := Lib.hid hT
  have HS := Lib.hid h
  obtain ⟨_, _, _, _, ha1, ha2, hb1, hb2, hs1⟩ := hok
  have HB0 : Hid (0 < w.heap.size) := Lib.hid hT.1
  clear hT h
  generalize o.on = on at *
  generalize o.kind = kind at *
  generalize o.a = oa at *
  generalize o.b = ob at *
  generalize o.s = os at *
  have HA := Lib.hid (And.intro ha2 hb2)
  clear ha1 ha2 hb1 hb2 hs1
  go_enter Tryd.func5, Tryd.ntmps5
  go_wp2_with fail
  have hb0 : Below w.heap.size w (w.alloc (.cells #[.int .i64 on, .int .i64 kind, .int .i64 oa, .int .i64 ob, .string os] 46)) := by go_grown
  have hq0 : Bk 46 (w.alloc (.cells #[.int .i64 on, .int .i64 kind, .int .i64 oa, .int .i64 ob, .string os] 46)) w.heap.size #[.int .i64 on, .int .i64 kind, .int .i64 oa, .int .i64 ob, .string os] := Bk.new rfl
  have hz0 : (w.alloc (.cells #[.int .i64 on, .int .i64 kind, .int .i64 oa, .int .i64 ob, .string os] 46)).heap.size = w.heap.size + 1 := by rw [World.size_alloc]
  generalize w.alloc (.cells #[.int .i64 on, .int .i64 kind, .int .i64 oa, .int .i64 ob, .string os] 46) = w0 at *
  obtain ⟨q, hq⟩ : ∃ q, q = w.heap.size := ⟨_, rfl⟩
  rw [← hq] at hq0 hz0 ⊢
  clear hq
  by_cases hn : newE tl = 0
  · obtain ⟨x, y, rfl, hx, hy, hcall⟩ := new_yes vt tl w0 (HS.out.below hb0) hn
    refine hcall.mono ?_
    rintro e w1 ⟨p, rfl, hd, hb, hk⟩
    clear hcall
    unfold Fp.v
    go_wp2_with fail
    obtain ⟨a, c, rfl, hl⟩ := HS.out
    obtain ⟨b, o', rfl, hlt, hc⟩ := hl (by simp)
    have hb1 := hb0.trans (hb.mono hb0.size)
    have hc0 := hc 0 (by simp)
    have hc1 := hc 1 (by simp)
    refine (rnew_ok b o' c x y w1 (by rw [hb1.cell hlt]; simpa using hc0) (by rw [hb1.cell hlt]; simpa using hc1) hx hy).mono ?_
    rintro e w2 ⟨rfl, hrk, hb2, hrs⟩
    have hkw : ∀ k ∈ p.own, w.heap.size ≤ k := fun k hk' => Nat.le_trans hb0.size (hk k hk')
    have P2 := Lib.hid (PO.start hd hb1 hkw HT.out hrk hb2)
    have BQ := Lib.hid ((hq0.below hb).below hb2)
    have hqp : q ∉ p.own := fun hx => by have := hk q hx; omega
    have hqr : q ≠ w1.heap.size := by have := hb.size; omega
    have SEPQ := Lib.hid (And.intro hqp hqr)
    obtain ⟨S, hS⟩ : ∃ S, S = St.new x.data.toList y.data.toList := ⟨_, rfl⟩
    have HST : Hid (Still S) := Lib.hid (by rw [hS]; exact Still.new _ _)
    rw [← hS] at P2
    obtain ⟨r, hr⟩ : ∃ r, r = w1.heap.size := ⟨_, rfl⟩
    rw [← hr] at P2 SEPQ ⊢
    obtain ⟨pb, hpb⟩ : ∃ b, b = p.b := ⟨_, rfl⟩
    rw [← hpb]
    have HPB := Lib.hid hpb
    clear hd hb hk hb1 hc0 hc1 hrk hb2 hrs hkw hqp hqr hS hl hlt hc hb0 hq0 hz0 hr hpb hn hx hy HS
    go_wp2_with fail
    have hcl := clone_any p S w2 P2.out.d.dk
    rw [show p.v = Value.pointer (some ⟨pb, 0, none⟩) by unfold Fp.v; rw [HPB.out]] at hcl
    refine hcl.mono ?_
    rintro e w3 ⟨p', rfl, hd', hb', hk'⟩
    clear hcl
    have P3 := P2.out.down (Nat.le_refl _) hb'
    have HW3 := Lib.hid (wnew_any hd' P3.d.tb (fun hx => by have := hk' 0 hx; have := P2.out.d.bw.size; have := HB0.out; omega))
    have HF3 := Lib.hid (And.intro hb' hk')
    unfold Fp.v
    unfold Fp.v at HW3
    clear hd' hb' hk' P3
    go_wp2_with fail
    refine HW3.out.mono ?_
    rintro e w4 ⟨v, p2, rfl, hm, hok, hno⟩
    have P4 := Lib.hid (P2.out.far (Nat.le_refl _) HF3.out.1 hm.2.2.1 HF3.out.2)
    have B4 := Lib.hid (bk_far BQ.out HF3.out.1 hm.2.2.1 HF3.out.2)
    have hv : ((lnew S).1 = 0 ∧ ∃ b, v = .pointer (some ⟨b, 0, none⟩)) ∨ ((lnew S).1 ≠ 0 ∧ v = .pointer none) := by
      by_cases hc : (lnew S).1 = 0
      · obtain ⟨b, e, _⟩ := hok hc
        exact .inl ⟨hc, b, e⟩
      · exact .inr ⟨hc, hno hc⟩
    have HV := Lib.hid hv
    clear hm hok hno hv HW3 HF3 P2 BQ
    go_wp2_with fail
    refine (copy12 r S _ _ w4 P4.out.k).mono ?_
    rintro e w5 ⟨rfl, hrk, hb5, hrs⟩
    have HF5 := Lib.hid hb5
    have HW5 := Lib.hid (wrnew_any hrk)
    clear hrk hb5 hrs
    go_wp2_with fail
    refine HW5.out.mono ?_
    rintro e w6 ⟨v2, rfl, hm, hok, hno⟩
    have hfr : ∀ g ∈ [w4.heap.size], w4.heap.size ≤ g := fun g hg => by simp at hg; omega
    have P6 := Lib.hid (P4.out.far (Nat.le_refl _) HF5.out hm.only hfr)
    have B6 := Lib.hid (bk_far B4.out HF5.out hm.only hfr)
    have hv2 : (∃ b b', v = .pointer (some ⟨b, 0, none⟩) ∧ v2 = .pointer (some ⟨b', 0, none⟩)) ∨ (v = .pointer none ∧ v2 = .pointer none) := by
      rcases HV.out with ⟨hc, b, e⟩ | ⟨hc, e⟩
      · obtain ⟨b', e', _⟩ := hok hc
        exact .inl ⟨b, b', e, e'⟩
      · exact .inr ⟨e, hno hc⟩
    clear hm hok hno hfr HW5 HF5 P4 B4 HV
    generalize (((lnew S).1 : Nat) : Int) = cn
    have PA0 : ∀ w' : World, w' = w6.drew → PA w.heap.size w q #[.int .i64 on, .int .i64 kind, .int .i64 oa, .int .i64 ob, .string os] p r S oa ob false false w' := fun w' e => by
      subst e
      exact ⟨B6.out.below ⟨rfl, rfl, rfl, Nat.le_refl _, fun _ _ => rfl⟩, _, _, P6.out.down (Nat.le_refl _) ⟨rfl, rfl, rfl, Nat.le_refl _, fun _ _ => rfl⟩⟩
    have hf1 : ∀ w', PA w.heap.size w q #[.int .i64 on, .int .i64 kind, .int .i64 oa, .int .i64 ob, .string os] p r S oa ob false false w' → Calls Tryd.prog 22 #[.pointer (some ⟨pb, 0, none⟩), .int .i64 oa, .int .i64 ob] w' fun e w1 => e = .returned (.int .i64 ((S.arm oa ob).1 : Int)) ∧ PA w.heap.size w q #[.int .i64 on, .int .i64 kind, .int .i64 oa, .int .i64 ob, .string os] p r S oa ob true false w1 := fun w' hp => by
      have := PA.first (Nat.le_refl _) HB0.out SEPQ.out.1 HA.out.1 HA.out.2 w' hp
      rwa [show p.v = Value.pointer (some ⟨pb, 0, none⟩) by unfold Fp.v; rw [HPB.out]] at this
    have hf2 : ∀ w', PA w.heap.size w q #[.int .i64 on, .int .i64 kind, .int .i64 oa, .int .i64 ob, .string os] p r S oa ob true false w' → Calls Tryd.prog 23 #[.pointer (some ⟨r, 0, none⟩), .int .i64 oa, .int .i64 ob] w' fun e w1 => e = .returned (.int .i64 ((S.arm oa ob).1 : Int)) ∧ PA w.heap.size w q #[.int .i64 on, .int .i64 kind, .int .i64 oa, .int .i64 ob, .string os] p r S oa ob true true w1 := fun w' hp => PA.second (Nat.le_refl _) HB0.out SEPQ.out.2 HA.out.1 HA.out.2 w' hp
    have HF1 := Lib.hid hf1
    have HF2 := Lib.hid hf2
    have HPA := Lib.hid PA0
    have HL : Hid ((∀ (b0 b1 : Bool) (w' : World), PA w.heap.size w q #[.int .i64 on, .int .i64 kind, .int .i64 oa, .int .i64 ob, .string os] p r S oa ob b0 b1 w' → w'.cell? ⟨q, 2, none⟩ = some (.int .i64 oa)) ∧ ∀ (b0 b1 : Bool) (w' : World), PA w.heap.size w q #[.int .i64 on, .int .i64 kind, .int .i64 oa, .int .i64 ob, .string os] p r S oa ob b0 b1 w' → w'.cell? ⟨q, 3, none⟩ = some (.int .i64 ob)) := Lib.hid ⟨fun _ _ _ h => h.1.cell 2, fun _ _ _ h => h.1.cell 3⟩
    clear hf1 hf2 PA0 P6 B6
    rcases hv2 with ⟨b1, b2, rfl, rfl⟩ | ⟨rfl, rfl⟩
    · go_wp2_with fail
      refine rO1 (PA w.heap.size w q #[.int .i64 on, .int .i64 kind, .int .i64 oa, .int .i64 ob, .string os] p r S oa ob) pb r q b1 b2 oa ob ((S.arm oa ob).1 : Int) w6 (HPA.out _ rfl) HL.out.1 HL.out.2 HF1.out HF2.out ?_
      intro w7 hp7
      obtain ⟨-, uv7, kp7, hp7⟩ := hp7
      simp only [if_true] at hp7
      have P7 := Lib.hid hp7
      have HS7 := Lib.hid (HST.out.arm oa ob)
      clear hp7 HF1 HF2 HPA HL HST
      generalize (S.arm oa ob).2 = S7 at P7 HS7
      go_wp2_with fail
      go_loopw [13, 14, 15, 16] (fun iv lv rv ov wr => ∃ (i : Nat) (p1 : Fp) (S1 : St) (uv : Value) (kp : Int), i ≤ 3 ∧ iv = .int .i64 (i : Int) ∧ Hid (PO w.heap.size w wr p1 r S1 S1 uv kp) ∧ Hid (p1.b = pb) ∧ Hid (Still S1)) (fun iv _ _ _ _ => 3 - (intOf iv).toNat)
      case atStart => exact ⟨0, p, S7, uv7, kp7, by omega, rfl, P7, Lib.hid HPB.out.symm, HS7⟩
      case round =>
        obtain ⟨i, p1, S1, uv, kp, hi, rfl, HP, HB, HS1⟩ := hrel
        clear P7 HS7 HPB SEPQ
        by_cases hlt : i < 3
        · have hc := opened_any HP.out (Nat.le_refl _) HB0.out HS1.out.clean
          rw [show p1.v = Value.pointer (some ⟨pb, 0, none⟩) by unfold Fp.v; rw [HB.out]] at hc
          have HC := Lib.hid hc
          clear hc
          go_wp2_with fail
          refine HC.out.mono ?_
          rintro e w8 ⟨lv', rv', p2', uv2, kp2, rfl, hP, hpb2, -⟩
          have HP2 := Lib.hid hP
          have HB2 : Hid (p2'.b = pb) := Lib.hid (hpb2.trans HB.out)
          have HS2 : Hid (Still (lopen S1).2.2) := Lib.hid HS1.out.open
          clear hP hpb2 HC HP HB HS1
          generalize (lopen S1).2.2 = S2 at HP2 HS2
          have hv2 : p2'.v = Value.pointer (some ⟨pb, 0, none⟩) := by unfold Fp.v; rw [HB2.out]
          have f0 : ∀ (y4 y6 : Value), PF w.heap.size w p2' r S2 uv2 kp2 false false false false y4 y6 w8.drew := fun y4 y6 => ⟨HP2.out.down (Nat.le_refl _) ⟨rfl, rfl, rfl, Nat.le_refl _, fun _ _ => rfl⟩, (fun h => by cases h), (fun h => by cases h)⟩
          have f4 := fun (y4 y6 : Value) (w' : World) (hp : PF w.heap.size w p2' r S2 uv2 kp2 false false false false y4 y6 w') => PF.files (Nat.le_refl _) y4 y6 w' hp
          have f6 := fun (y4 y6 : Value) (w' : World) (hp : PF w.heap.size w p2' r S2 uv2 kp2 true false false false y4 y6 w') => PF.rfiles (Nat.le_refl _) y4 y6 w' hp
          have f7 := fun (y4 y6 : Value) (w' : World) (hp : PF w.heap.size w p2' r S2 uv2 kp2 true true false false y4 y6 w') => PF.same (Nat.le_refl _) y4 y6 w' hp
          have f12 := fun (y4 y6 : Value) (w' : World) (hp : PF w.heap.size w p2' r S2 uv2 kp2 true true true false y4 y6 w') => PF.dead y4 y6 w' hp
          rw [hv2] at f4 f12
          have H0 := Lib.hid f0
          have H4 := Lib.hid f4
          have H6 := Lib.hid f6
          have H7 := Lib.hid f7
          have H12 := Lib.hid f12
          clear f0 f4 f6 f7 f12 hv2
          go_wp2_with fail
          refine rF (PF w.heap.size w p2' r S2 uv2 kp2) pb r S2.gone w8 H0.out (fun _ _ _ _ _ _ _ hp => hp.1.k.b5) H4.out H6.out H7.out H12.out ?_
          intro y4 y6 w9 hp9
          have P9 := Lib.hid hp9.1
          clear hp9 H0 H4 H6 H7 H12 HP2
          generalize S2.gone = gn
          go_wp2_with fail
          have hrv := revive_any p2' S2 w9 P9.out.d.dk
          rw [show p2'.v = Value.pointer (some ⟨pb, 0, none⟩) by unfold Fp.v; rw [HB2.out]] at hrv
          refine hrv.mono ?_
          rintro e w10 ⟨rfl, hd, ho⟩
          have P10 := Lib.hid (P9.out.mut (Nat.le_refl _) HB0.out (mut_head hd ho))
          clear hd ho P9 hrv
          go_wp2_with fail
          refine (revive38 r S2 uv2 kp2 w10 P10.out.k).mono ?_
          rintro e w11 ⟨rfl, hk11, ho11⟩
          obtain ⟨uv3, kp3, hP11, -⟩ := P10.out.rm (Nat.le_refl _) HB0.out (Rm.of hk11 ho11)
          have P11 := Lib.hid hP11
          clear hk11 ho11 hP11 P10
          go_wp2_with fail
          go_roundw
          case rel => exact ⟨i + 1, p2', S2.revive, uv3, kp3, by omega, by go_num, P11, HB2, Lib.hid HS2.out.revive⟩
          case measure => simp [intOf]; omega
        · have hi3 : i = 3 := by omega
          subst hi3
          clear HB HS1
          have HBW := Lib.hid HP.out.d.bw
          have HTB := Lib.hid HP.out.d.tb
          clear HP
          go_wp2_with fail
          refine (fixed_any wr HTB.out).mono ?_
          rintro e w8 ⟨rfl, hb8⟩
          have HB8 := Lib.hid hb8
          clear hb8
          go_wp2_with fail
          go_ret
          exact ⟨rfl, HBW.out.trans (HB8.out.mono HBW.out.size)⟩
    · go_wp2_with fail
      refine rO0 (PA w.heap.size w q #[.int .i64 on, .int .i64 kind, .int .i64 oa, .int .i64 ob, .string os] p r S oa ob) pb r q oa ob ((S.arm oa ob).1 : Int) w6 (HPA.out _ rfl) HL.out.1 HL.out.2 HF1.out HF2.out ?_
      intro w7 hp7
      obtain ⟨-, uv7, kp7, hp7⟩ := hp7
      simp only [if_true] at hp7
      have P7 := Lib.hid hp7
      have HS7 := Lib.hid (HST.out.arm oa ob)
      clear hp7 HF1 HF2 HPA HL HST
      generalize (S.arm oa ob).2 = S7 at P7 HS7
      go_wp2_with fail
      go_loopw [13, 14, 15, 16] (fun iv lv rv ov wr => ∃ (i : Nat) (p1 : Fp) (S1 : St) (uv : Value) (kp : Int), i ≤ 3 ∧ iv = .int .i64 (i : Int) ∧ Hid (PO w.heap.size w wr p1 r S1 S1 uv kp) ∧ Hid (p1.b = pb) ∧ Hid (Still S1)) (fun iv _ _ _ _ => 3 - (intOf iv).toNat)
      case atStart => exact ⟨0, p, S7, uv7, kp7, by omega, rfl, P7, Lib.hid HPB.out.symm, HS7⟩
      case round =>
        obtain ⟨i, p1, S1, uv, kp, hi, rfl, HP, HB, HS1⟩ := hrel
        clear P7 HS7 HPB SEPQ
        by_cases hlt : i < 3
        · have hc := opened_any HP.out (Nat.le_refl _) HB0.out HS1.out.clean
          rw [show p1.v = Value.pointer (some ⟨pb, 0, none⟩) by unfold Fp.v; rw [HB.out]] at hc
          have HC := Lib.hid hc
          clear hc
          go_wp2_with fail
          refine HC.out.mono ?_
          rintro e w8 ⟨lv', rv', p2', uv2, kp2, rfl, hP, hpb2, -⟩
          have HP2 := Lib.hid hP
          have HB2 : Hid (p2'.b = pb) := Lib.hid (hpb2.trans HB.out)
          have HS2 : Hid (Still (lopen S1).2.2) := Lib.hid HS1.out.open
          clear hP hpb2 HC HP HB HS1
          generalize (lopen S1).2.2 = S2 at HP2 HS2
          have hv2 : p2'.v = Value.pointer (some ⟨pb, 0, none⟩) := by unfold Fp.v; rw [HB2.out]
          have f0 : ∀ (y4 y6 : Value), PF w.heap.size w p2' r S2 uv2 kp2 false false false false y4 y6 w8.drew := fun y4 y6 => ⟨HP2.out.down (Nat.le_refl _) ⟨rfl, rfl, rfl, Nat.le_refl _, fun _ _ => rfl⟩, (fun h => by cases h), (fun h => by cases h)⟩
          have f4 := fun (y4 y6 : Value) (w' : World) (hp : PF w.heap.size w p2' r S2 uv2 kp2 false false false false y4 y6 w') => PF.files (Nat.le_refl _) y4 y6 w' hp
          have f6 := fun (y4 y6 : Value) (w' : World) (hp : PF w.heap.size w p2' r S2 uv2 kp2 true false false false y4 y6 w') => PF.rfiles (Nat.le_refl _) y4 y6 w' hp
          have f7 := fun (y4 y6 : Value) (w' : World) (hp : PF w.heap.size w p2' r S2 uv2 kp2 true true false false y4 y6 w') => PF.same (Nat.le_refl _) y4 y6 w' hp
          have f12 := fun (y4 y6 : Value) (w' : World) (hp : PF w.heap.size w p2' r S2 uv2 kp2 true true true false y4 y6 w') => PF.dead y4 y6 w' hp
          rw [hv2] at f4 f12
          have H0 := Lib.hid f0
          have H4 := Lib.hid f4
          have H6 := Lib.hid f6
          have H7 := Lib.hid f7
          have H12 := Lib.hid f12
          clear f0 f4 f6 f7 f12 hv2
          go_wp2_with fail
          refine rF (PF w.heap.size w p2' r S2 uv2 kp2) pb r S2.gone w8 H0.out (fun _ _ _ _ _ _ _ hp => hp.1.k.b5) H4.out H6.out H7.out H12.out ?_
          intro y4 y6 w9 hp9
          have P9 := Lib.hid hp9.1
          clear hp9 H0 H4 H6 H7 H12 HP2
          generalize S2.gone = gn
          go_wp2_with fail
          have hrv := revive_any p2' S2 w9 P9.out.d.dk
          rw [show p2'.v = Value.pointer (some ⟨pb, 0, none⟩) by unfold Fp.v; rw [HB2.out]] at hrv
          refine hrv.mono ?_
          rintro e w10 ⟨rfl, hd, ho⟩
          have P10 := Lib.hid (P9.out.mut (Nat.le_refl _) HB0.out (mut_head hd ho))
          clear hd ho P9 hrv
          go_wp2_with fail
          refine (revive38 r S2 uv2 kp2 w10 P10.out.k).mono ?_
          rintro e w11 ⟨rfl, hk11, ho11⟩
          obtain ⟨uv3, kp3, hP11, -⟩ := P10.out.rm (Nat.le_refl _) HB0.out (Rm.of hk11 ho11)
          have P11 := Lib.hid hP11
          clear hk11 ho11 hP11 P10
          go_wp2_with fail
          go_roundw
          case rel => exact ⟨i + 1, p2', S2.revive, uv3, kp3, by omega, by go_num, P11, HB2, Lib.hid HS2.out.revive⟩
          case measure => simp [intOf]; omega
        · have hi3 : i = 3 := by omega
          subst hi3
          clear HB HS1
          have HBW := Lib.hid HP.out.d.bw
          have HTB := Lib.hid HP.out.d.tb
          clear HP
          go_wp2_with fail
          refine (fixed_any wr HTB.out).mono ?_
          rintro e w8 ⟨rfl, hb8⟩
          have HB8 := Lib.hid hb8
          clear hb8
          go_wp2_with fail
          go_ret
          exact ⟨rfl, HBW.out.trans (HB8.out.mono HBW.out.size)⟩
  · have HSI := Lib.hid (HS.out.below hb0)
    have HTB := Lib.hid (HT.out.below hb0)
    have HBW := Lib.hid hb0
    have HN := Lib.hid hn
    clear hn hb0 hq0 hz0 HS HT HA HB0
    refine (new_no vt tl w0 HSI.out HN.out).mono ?_
    rintro e w1 ⟨rfl, rfl⟩
    go_wp2_with fail
    refine (rnew_no vt tl w0 HSI.out HN.out).mono ?_
    rintro e w1 ⟨rfl, rfl⟩
    go_wp2_with fail
    refine (fixed_any w0 HTB.out).mono ?_
    rintro e w8 ⟨rfl, hb8⟩
    have HB8 := Lib.hid hb8
    clear hb8
    go_wp2_with fail
    go_ret
    exact ⟨rfl, HBW.out.trans (HB8.out.mono HBW.out.size)⟩
end Go.Proofs.YtmoihgniglomiaaDoor
