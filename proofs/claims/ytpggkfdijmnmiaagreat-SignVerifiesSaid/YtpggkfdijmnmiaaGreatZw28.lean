/- What sign's fixed answers: true. No condition. -/
import Derived.Test.YtpggkfdijmnmiaaGreatZw26
set_option linter.unusedVariables false
set_option linter.unusedSimpArgs false
set_option maxRecDepth 100000
namespace Go.Proofs.YtpggkfdijmnmiaaGreat
section
open Go.RowKit Limbs Curve
theorem kid_ab:kidOf [97]≠kidOf [98]:=by decide +kernel
theorem pub_one:pubOf 1=G:=by unfold pubOf;rw [mul_is (by decide) G_on,mul_one_p,(on_iff G_on).2.1]
theorem kid_b:kidOf [98]≠[]:=by decide +kernel
theorem kid_a:kidOf [97]≠[]:=by decide +kernel
end
section
open Go.RowKit Limbs
open Go.Lib renaming hid→Φ
theorem nv1:nv 1 = .agg #[.int .u64 1,.int .u64 0,.int .u64 0,.int .u64 0]:=rfl
theorem nv0:nv 0 = .agg #[.int .u64 0,.int .u64 0,.int .u64 0,.int .u64 0]:=rfl
theorem hp1:∀w,Calls Tryz.prog 11 #[.agg #[.int .u64 1,.int .u64 0,.int .u64 0,.int .u64 0]] w fun e w'=>e = .returned (.tuple #[G.v,.int .i64 0])∧Below w.heap.size w w':=fun w=>by
 have h:=public_yes 1 (by decide) w;rw [pub_one,nv1] at h;exact h
theorem hp0:∀w,Calls Tryz.prog 11 #[.agg #[.int .u64 0,.int .u64 0,.int .u64 0,.int .u64 0]] w fun e w'=>e = .returned (.tuple #[.agg #[.int .u64 0,.int .u64 0,.int .u64 0,.int .u64 0,.int .u64 0,.int .u64 0,.int .u64 0,.int .u64 0,.bool false],.int .i64 80])∧Below w.heap.size w w':=fun w=>by
 have h:=public_no 0 (by decide) (by decide) w;rw [nv0] at h;exact h
theorem hsn:∀w,Calls Tryz.prog 14 #[nv mN,.string ⟨#[]⟩] w fun e w'=>e = .returned (.tuple #[.string ⟨#[]⟩,.int .i64 80])∧Below w.heap.size w w':=fun w=>sign_no mN (by decide) (fun h=>Nat.lt_irrefl _ h.2) _ w
theorem hmd:∀w,Calls Tryz.prog 47 #[.int .i64 1] w fun e w'=>e = .returned (nv mN)∧Below w.heap.size w w':=fun w=>by
 have h:=mod_any 1 w;rw [show md 1=mN by unfold md;rw [if_neg (by decide)]] at h;exact h
theorem find_a (g:Nat): findK [(g,[97])] (kidOf [97])=some g:=by rw [findK,if_pos rfl]
theorem find_ab (g:Nat): findK [(g,[97])] (kidOf [98])=none:=by rw [findK,if_neg kid_ab];rfl
theorem find_b (g q:Nat): findK [(g,[97]),(q,[98])] (kidOf [98])=some q:=by rw [findK,if_neg kid_ab,findK,if_pos rfl]
theorem find_no (g q:Nat): findK [(g,[97]),(q,[98])] []=none:=by rw [findK,if_neg kid_a,findK,if_neg kid_b];rfl
def g9:Array Value:=#[.int .u64 17627433388654248598,.int .u64 8575836109218198432,.int .u64 17923454489921339634,.int .u64 7716867327612699207,.int .u64 14678990851816772085,.int .u64 3156516839386865358,.int .u64 10297457778147434006,.int .u64 5756518291402817435,.bool false]
set_option maxHeartbeats 16000000 in
theorem fixed_any (w:World): Calls Tryz.prog 13 #[] w fun e w'=>e = .returned (.bool true)∧Below w.heap.size w w':=by
 have H1:=Φ hp1;have H0:=Φ hp0;have HS:=Φ hsn;have HM:=Φ hmd;rw [vG] at H1;simp only [nv,num] at HS HM;go_enter Tryz.func13,Tryz.ntmps13;go_wp2_with fail;refine(H1.out _).mono ?_;rintro e w1 ⟨rfl,hb1⟩;go_wp2_with fail;have KG:Bk 26 (w1.alloc (.cells g9 26)) w1.heap.size g9:=Bk.new rfl;have hbA:Below w.heap.size w (w1.alloc (.cells g9 26)):=by
  have hs:=hb1.size
  go_grown
 unfold g9 at KG hbA;generalize w1.heap.size=gp at KG ⊢;generalize (w1.alloc (.cells #[.int .u64 17627433388654248598,.int .u64 8575836109218198432,.int .u64 17923454489921339634,.int .u64 7716867327612699207,.int .u64 14678990851816772085,.int .u64 3156516839386865358,.int .u64 10297457778147434006,.int .u64 5756518291402817435,.bool false] 26))=wA at KG hbA ⊢;clear hb1;refine(H0.out wA).mono ?_;rintro e w2 ⟨rfl,hb2⟩;have KG2:=Φ (KG.below hb2);have HB2:=Φ (bthen hbA hb2);clear KG hbA hb2;go_wp2_with fail;refine(HM.out _).mono ?_;rintro e w3 ⟨rfl,hb3⟩;go_wp2_with fail;refine(HS.out _).mono ?_;rintro e w4 ⟨rfl,hb4⟩;have hbz:Below w2.heap.size w2 w3:=Below.trans (show Below w2.heap.size w2 (w2.alloc _) by go_grown) (hb3.mono (by simp));have KG4:=Φ ((KG2.out.below hbz).below hb4);have HB4:=Φ (bthen (bthen HB2.out hbz) hb4);clear KG2 HB2 hbz hb3 hb4 H1 H0 HS HM;have hnr:=newRing_any [97] (by decide) w4;have HNR:=Φ hnr;clear hnr;go_wp2_with fail;refine HNR.out.mono ?_;rintro e w5 ⟨r,g,rfl,hrg,hb5,hr5⟩;have HG5:=Φ hrg;have HB5:=Φ hb5;have HR5:=Φ hr5;have htt:Calls Tryz.prog 22 #[.pointer (some ⟨r,0,none⟩),.string ⟨#[97]⟩] w5 fun e w'=>e = .returned (.int .i64 80)∧Below w5.heap.size w5 w':=turn_there hrg (by simp) [97] (by decide) g (find_a g)
 have HTT:=Φ htt;clear htt hrg hb5 hr5 HNR;unfold kpt;go_wp2_with fail;refine HTT.out.mono ?_;rintro e w6 ⟨rfl,hb6⟩;have HG6:=Φ (HG5.out.below hb6);have HB6:=Φ (bthen HB5.out hb6);have htn:Calls Tryz.prog 22 #[.pointer (some ⟨r,0,none⟩),.string ⟨#[98]⟩] w6 fun e w'=>e = .returned (.int .i64 0)∧∃q,Rg w4.heap.size w' r ([(g,[97])]++[(q,[98])])∧Below w4.heap.size w6 w':=turn_new HG6.out HB6.out.size HR5.out (by simp) [98] (by decide) (find_ab g)
 have HTN:=Φ htn;clear htn hb6 HTT HG5 HB5;go_wp2_with fail;refine HTN.out.mono ?_;rintro e w7 ⟨rfl,q,hrg,hb7⟩;have HG7:=Φ hrg;have HB7:=Φ (HB6.out.trans hb7);have hki:Calls Tryz.prog 31 #[.pointer (some ⟨r,0,none⟩)] w7 fun e w'=>∃v,e = .returned v∧w'.ownsRow w7.heap.size 9 1 v 2 [kidV (g,[97]),kidV (q,[98])]∧Below w7.heap.size w7 w':=kids_any hrg (by simp) (by simp)
 have HKI:=Φ hki;clear hki hrg hb7 HTN HG6 HB6;go_wp2_with fail;refine HKI.out.mono ?_;rintro e w8 ⟨v,rfl,ho,hb8⟩;obtain⟨a8,c8,rfl⟩:=own_slice (n:=1) ho;have HG8:=Φ (HG7.out.below hb8);have HB8:=Φ (bthen HB7.out hb8);have hmc:Calls Tryz.prog 24 #[.pointer (some ⟨r,0,none⟩),.string ⟨#[115]⟩] w8 fun e w'=>e = .returned (.tuple #[.string ⟨(kidOf [98]).toArray⟩,.string ⟨(Hs.macL (macOf [98]) [115]).toArray⟩])∧Below w8.heap.size w8 w':=rmac_any (ks:=[(g,[97])]) (k:=(q,[98])) HG8.out (by simp) (show([98]:List UInt8).length≤140737488351232 by decide) [115] (by decide)
 have HMC:=Φ hmc;clear hmc ho hb8 HKI HG7 HB7;go_wp2_with fail;refine HMC.out.mono ?_;rintro e w9 ⟨rfl,hb9⟩;have HG9:=Φ (HG8.out.below hb9);have HB9:=Φ (bthen HB8.out hb9);obtain⟨mc,hmc⟩:∃m,m=Hs.macL (macOf [98]) [115]:=⟨_,rfl⟩;have HMC2:=Φ hmc;rw [← hmc];clear hmc hb9 HMC HG8 HB8;obtain⟨kd,hkd⟩:∃m,m=kidOf [98]:=⟨_,rfl⟩;have HKD:=Φ hkd;rw [← hkd];clear hkd;go_wp2_with fail;refine Pl.tF (fun _ _ _ _ w'=>Below w9.heap.size w9 w') gp r ⟨kd.toArray⟩ ⟨mc.toArray⟩ w9 ?c1 ?c19 ?c24 ?c29 ?lk ?hq ?w0 ?h
 case c1=>
  intro w1 h;refine(kBase w1).mono ?_;rintro e w2 ⟨rfl,hb⟩;exact⟨rfl,bthen h hb⟩
 case c19=>
  intro w1 h
  have:=vouch_some (HG9.out.below h) (by simp) kd [115] mc (by decide) (by rw [HMC2.out,macL_len];decide) (q,[98]) (by simp) (by rw [HKD.out];exact find_b g q)
  refine this.mono ?_;rintro e w2 ⟨rfl,hb⟩;exact⟨by rw [HMC2.out];simp,bthen h hb⟩
 case c24=>
  intro w1 h;refine(vouch_none (HG9.out.below h) (by simp) [] ⟨#[115]⟩ ⟨mc.toArray⟩ (find_no g q)).mono ?_;rintro e w2 ⟨rfl,hb⟩;exact⟨rfl,bthen h hb⟩
 case c29=>
  intro w1 h
  have:=verify_empty G.x G.y G.i ⟨#[]⟩ w1
  rw [show pn G.x G.y G.i=G.v from rfl,vG] at this;refine this.mono ?_;rintro e w2 ⟨rfl,hb⟩;exact⟨rfl,bthen h hb⟩
 case lk=>
  intro b1 b19 b24 b29 w1 h;obtain⟨⟨d0,d1,d2,d3⟩,⟨d4,d5,d6,d7⟩,d8⟩:=(KG4.out.below (bthen HB9.out h)).cells9;exact⟨d0,d1,d2,d3,d4,d5,d6,d7,d8⟩
 case hq=>
  intro w1
  have:=eqP G.x G.y G.x G.y G.i G.i G_ok.1 G_ok.2 G_ok.1 G_ok.2 w1
  rw [show pn G.x G.y G.i=G.v from rfl,vG] at this;rw [this];simp
 case w0=>exact⟨rfl,rfl,rfl,Nat.le_refl _,fun _ _=>rfl⟩
 case h=>
 intro w1 h;go_wp2_with fail;go_returns;exact⟨rfl,bthen (bthen HB4.out HB9.out) h⟩
end
end Go.Proofs.YtpggkfdijmnmiaaGreat
