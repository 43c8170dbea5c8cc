/- What sign's Verify answers where the bytes are no signature  -/
import Derived.Test.YtpggkfdijmnmiaaGreatZw26
set_option linter.unusedVariables false
set_option linter.unusedSimpArgs false
set_option maxRecDepth 100000
namespace Go.Proofs.YtpggkfdijmnmiaaGreat
section
open Curve
theorem pigeon:∀(m n:Nat) (f:Nat→Nat),(∀i,i<n→f i<m)→(∀i j,i<n→j<n→f i=f j→i=j)→n≤m
 |0,n,f,h,_=>by
  rcases Nat.eq_zero_or_pos n with h0 | h0
  ·omega
  ·exact absurd (h 0 h0) (by omega)
 |m+1,0,f,h,inj=>by omega
 |m+1,n+1,f,h,inj=>by
  have:=pigeon m n (fun i=>if f i=m then f n else f i) (fun i hi=>by
   show(if f i=m then f n else f i)<m
   have h1:=h i (by omega);have h2:=h n (by omega)
   by_cases h3:f i=m
   ·rw [if_pos h3]
    have:f n≠m:=fun h4=>by
     have:=inj i n (by omega) (by omega) (by rw [h3,h4])
     omega
    omega
   ·rw [if_neg h3];omega) (fun i j hi hj he=>by
   have he':(if f i=m then f n else f i)=(if f j=m then f n else f j):=he
   by_cases h3:f i=m
   ·by_cases h4:f j=m
    ·exact inj i j (by omega) (by omega) (by rw [h3,h4])
    ·rw [if_pos h3,if_neg h4] at he'
     have:=inj n j (by omega) (by omega) he'
     omega
   ·by_cases h4:f j=m
    ·rw [if_neg h3,if_pos h4] at he'
     have:=inj i n (by omega) (by omega) he'
     omega
    ·rw [if_neg h3,if_neg h4] at he';exact inj i j (by omega) (by omega) he')
  omega
def code:Pt (Fin PP)→Nat
 |.far=>2*PP
 |.aff x y=>2*x.val+y.val % 2
theorem code_lt (P:Pt (Fin PP)): code P<2*PP+1:=by
 cases P with
 |far=>show 2*PP<2*PP+1;omega
 |aff x y=>
  have:=x.isLt
  show 2*x.val+y.val % 2<2*PP+1
  omega
theorem neg_val {y:Fin PP}(h:y≠0): (-y).val=PP - y.val:=by
 have h0:y.val≠0:=fun h0=>h (Fin.ext h0)
 have:=y.isLt
 show(PP - y.val) % PP=_
 exact Nat.mod_eq_of_lt (by omega)
theorem PP_odd:PP % 2=1:=by decide +kernel
theorem code_inj {P Q:Pt (Fin PP)}(hP:On aP bP P)(hQ:On aP bP Q)(h:code P=code Q): P=Q:=by
 cases P with
 |far=>
  cases Q with
  |far=>rfl
  |aff x y=>
   have:=x.isLt
   have h':2*PP=2*x.val+y.val % 2:=h;omega
 |aff x y=>
  cases Q with
  |far=>
   have:=x.isLt
   have h':2*x.val+y.val % 2=2*PP:=h;omega
  |aff u v=>
   have h':2*x.val+y.val % 2=2*u.val+v.val % 2:=h;have hx:x=u:=Fin.ext (by omega);subst hx;have hy:y.val % 2=v.val % 2:=by omega
   rcases fit.mul_zero (sq_x hP hQ) with h5 | h5
   ·rw [eq_of_sub h5]
   ·have e:=neg_of_add h5;have hv:=neg_val (fit.y hQ);rw [← e] at hv
    have:=v.isLt
    have:=PP_odd
    omega
def GP:Pt (Fin PP):=toPt G
theorem GP_on:On aP bP GP:=(on_iff G_on).1
theorem G_N:Po.mul mN G=⟨0,0,true⟩:=by
 have h:(J.begin G.x G.y G.i).mulN mN 64=J.far:=by decide +kernel
 unfold Po.mul;rw [h];exact J.point_far rfl
theorem of_far_inj {P:Pt (Fin PP)}(h:ofPt P=⟨0,0,true⟩): P = .far:=by
 cases P with
 |far=>rfl
 |aff x y=>injection h with _ _ h;cases h
theorem GP_N:mul GP mN = .far:=by
 have:=mul_is (k:=mN) (by decide +kernel) G_on
 rw [G_N] at this;exact of_far_inj this.symm
theorem far_mul (n:Nat): mul .far n = .far:=by
 induction n with
 |zero=>rfl
 |succ n ih=>rw [mul_succ_p,ih];rfl
theorem canc_p {P Q R:Pt (Fin PP)}(hP:On aP bP P)(hQ:On aP bP Q)(hR:On aP bP R)(h:sum inv aP P Q=sum inv aP P R): Q=R:=by
 have h1:=sum_back fit hP hQ;rw [h,sum_back fit hP hR] at h1;exact h1.symm
theorem mN_pos:0<mN:=by decide +kernel
theorem GP_mod (n:Nat): mul GP n=mul GP (n % mN):=by
 have e:=Nat.div_add_mod n mN
 have:=mul_add GP_on (mN*(n / mN)) (n % mN)
 rw [e] at this;rw [this,Nat.mul_comm,← mul_mul GP_on,GP_N,far_mul,far_sum]
theorem GP_ne:GP≠ .far:=by
 intro h
 have:toPt G = .far:=h
 cases this
theorem GP_order {d:Nat}(h0:0<d)(h1:d<mN): mul GP d≠ .far:=by
 intro h;have hd:¬mN ∣ d:=fun hd=>by have:=Nat.le_of_dvd h0 hd;omega
 have hpr:Primes.Prm mN:=Primes.N256;have hf:=Primes.fermat hpr hd;have e:mul GP (d ^ (mN - 1)) = .far:=by
  rw [show mN - 1=(mN - 2).succ by decide +kernel,Nat.pow_succ,← mul_mul GP_on,h,far_mul]
 rw [GP_mod] at e;rw [hf,mul_one_p] at e;exact GP_ne e
theorem GP_inj {r s:Nat}(hr:r<mN)(hs:s<mN)(h:mul GP r=mul GP s): r=s:=by
 rcases Nat.lt_trichotomy r s with hlt | he | hlt
 ·exfalso
  have e:=mul_add GP_on r (s - r);rw [show r+(s - r)=s by omega,← h] at e
  have:=canc_p (mul_on GP_on r) on_far_p (mul_on GP_on (s - r)) (by rw [sum_far];exact e)
  exact GP_order (by omega) (by omega) this.symm
 ·exact he
 ·exfalso
  have e:=mul_add GP_on s (r - s);rw [show s+(r - s)=r by omega,h] at e
  have:=canc_p (mul_on GP_on s) on_far_p (mul_on GP_on (r - s)) (by rw [sum_far];exact e)
  exact GP_order (by omega) (by omega) this.symm
def three (Q:Pt (Fin PP))(t:Nat): Pt (Fin PP):=sum inv aP (mul Q (t / mN)) (mul GP (t % mN))
theorem three_on {Q:Pt (Fin PP)}(h:On aP bP Q)(t:Nat): On aP bP (three Q t):=on_sum fit (mul_on h _) (mul_on GP_on _)
theorem three_step {Q:Pt (Fin PP)}(h:On aP bP Q){a b r s:Nat}(hab:a<b)(hr:r<mN)(hs:s<mN)(he:sum inv aP (mul Q a) (mul GP r)=sum inv aP (mul Q b) (mul GP s)): ∃k,mul Q (b - a)=mul GP k:=by
 have e:=mul_add h a (b - a);rw [show a+(b - a)=b by omega] at e;rw [e,sum_assoc fit (mul_on h a) (mul_on h (b - a)) (mul_on GP_on s)] at he;have h2:=canc_p (mul_on h a) (mul_on GP_on r) (on_sum fit (mul_on h (b - a)) (mul_on GP_on s)) he;refine⟨r+(mN - s),?_⟩;rw [mul_add GP_on,h2,sum_assoc fit (mul_on h _) (mul_on GP_on s) (mul_on GP_on _),← mul_add GP_on,show s+(mN - s)=mN by omega,GP_N,sum_far]
theorem c12 {a b:Nat}(h:a<b)(hb:b<3): b - a=1∨b - a=2:=by omega
theorem half_or {Q:Pt (Fin PP)}(h:On aP bP Q): ∃c k,(c=1∨c=2)∧mul Q c=mul GP k:=by
 refine Classical.byContradiction fun hn=>?_
 have hle:=pigeon (2*PP+1) (3*mN) (fun t=>code (three Q t)) (fun t _=>code_lt _) (fun t u ht hu he=>by
  have he':=code_inj (three_on h t) (three_on h u) he;unfold three at he';have hp:=mN_pos;have ht1:=Nat.mod_lt t hp;have hu1:=Nat.mod_lt u hp;have ht2:t / mN<3:=Nat.div_lt_of_lt_mul (by omega);have hu2:u / mN<3:=Nat.div_lt_of_lt_mul (by omega);rcases Nat.lt_trichotomy (t / mN) (u / mN) with hlt | heq | hlt
  ·obtain⟨k,hk⟩:=three_step h hlt ht1 hu1 he';exact absurd ⟨u / mN - t / mN,k,c12 hlt hu2,hk⟩ hn
  ·rw [heq] at he';have h3:=GP_inj ht1 hu1 (canc_p (mul_on h _) (mul_on GP_on _) (mul_on GP_on _) he');rw [← Nat.div_add_mod t mN,← Nat.div_add_mod u mN,heq,h3]
  ·obtain⟨k,hk⟩:=three_step h hlt hu1 ht1 he'.symm;exact absurd ⟨t / mN - u / mN,k,c12 hlt ht2,hk⟩ hn)
 have:2*PP+1<3*mN:=by decide +kernel
 omega
theorem no_half {T:Pt (Fin PP)}(h:On aP bP T)(h2:sum inv aP T T = .far): T = .far:=by
 cases T with
 |far=>rfl
 |aff x y=>
  exfalso
  have hy:=fit.yy h;simp only [sum] at h2;rw [if_neg (fun hc=>hy (opp_z hc.2))] at h2;cases h2
theorem mul_N {Q:Pt (Fin PP)}(h:On aP bP Q): mul Q mN = .far:=by
 obtain⟨c,k,hc,hk⟩:=half_or h;have h1:mul (mul Q c) mN = .far:=by
  rw [hk,mul_mul GP_on,Nat.mul_comm,← mul_mul GP_on,GP_N,far_mul]
 rw [mul_mul h] at h1;have hg:∀n,mul Q (n*c) = .far→mul Q n = .far:=fun n hn=>by
  rcases hc with rfl | rfl
  ·rwa [Nat.mul_one] at hn
  ·refine no_half (mul_on h n) ?_;rw [mul_two h,Nat.mul_comm];exact hn
 exact hg mN h1
theorem mul_mod {Q:Pt (Fin PP)}(h:On aP bP Q)(n:Nat): mul Q (n % mN)=mul Q n:=by
 have e:=Nat.div_add_mod n mN
 have:=mul_add h (mN*(n / mN)) (n % mN)
 rw [e] at this;rw [this,Nat.mul_comm,← mul_mul h,mul_N h,far_mul,far_sum]
end
section
open Curve Limbs
instance:NeZero mN:=⟨by decide +kernel⟩
def cn (n:Nat): Fin mN:=⟨n % mN,Nat.mod_lt _ mN_pos⟩
theorem cn_eq {a b:Nat}: cn a=cn b↔a % mN=b % mN:=⟨fun h=>congrArg Fin.val h,fun h=>Fin.ext h⟩
theorem cn_mod (a:Nat): cn (a % mN)=cn a:=cn_eq.2 (Nat.mod_mod _ _)
theorem cn_mul (a b:Nat): cn (a*b)=cn a*cn b:=Fin.ext (Nat.mul_mod _ _ _)
theorem cn_one:cn 1=1:=by apply Fin.ext;decide +kernel
def iM (t:Nat): Nat:=t ^ (mN - 2) % mN
theorem iM_lt (t:Nat): iM t<mN:=Nat.mod_lt _ mN_pos
theorem cn_inv {t:Nat}(h0:0<t)(h1:t<mN): cn t*cn (iM t)=1:=by
 have hd:¬mN ∣ t:=fun hd=>by have:=Nat.le_of_dvd h0 hd;omega
 have hf:t ^ (mN - 1) % mN=1:=Primes.fermat (p:=mN) Primes.N256 hd;have e:t*t ^ (mN - 2)=t ^ (mN - 1):=by
  rw [← Nat.pow_succ',show(mN - 2).succ=mN - 1 by decide +kernel]
 rw [iM,cn_mod,← cn_mul,e,← cn_one,cn_eq,hf,Nat.mod_eq_of_lt (show 1<mN by decide +kernel)]
def fitS (q:Po)(e r t:Nat): Bool:=!((pubOf (e*iM t % mN)).add (Po.mul (r*iM t % mN) q)).i&&decide (((pubOf (e*iM t % mN)).add (Po.mul (r*iM t % mN) q)).x % mN=r)
theorem pub_is (k:Nat)(hk:k<W256): pubOf k=ofPt (mul GP k):=mul_is hk G_on
theorem mN_W:mN<W256:=by decide +kernel
theorem pub_on (k:Nat)(hk:k<W256): (pubOf k).on=true∧toPt (pubOf k)=mul GP k∧(pubOf k).ok:=by
 rw [pub_is k hk];exact on_ofPt (mul_on GP_on k)
theorem Po.neg_x (P:Pt (Fin PP)): (ofPt (Curve.neg P)).x=(ofPt P).x∧(ofPt (Curve.neg P)).i=(ofPt P).i:=by
 cases P with
 |far=>exact⟨rfl,rfl⟩
 |aff x y=>exact⟨rfl,rfl⟩
end
section
open Go.RowKit Limbs
set_option maxHeartbeats 32000000
theorem md1':md 1=mN:=by unfold md;rw [if_neg (by decide)]
theorem smul_any (a b:Nat)(ha:a<W256)(hb:b<W256)(w:World): Calls Tryz.prog 113 #[nv a,nv b] w fun e w'=>e = .returned (nv (a*b % mN))∧Below w.heap.size w w':=by
 have h:=mul_any 1 a b ha hb;rw [md1'] at h;have HM:=Lib.hid h;clear h;generalize a*b % mN=z at *;simp only [nv,num] at HM ⊢;go_enter Tryz.func113,Tryz.ntmps113;go_wp2_with fail;refine(keep w.heap.size w (HM.out _) (by go_grown) (Nat.le_refl _)).mono ?_;rintro e w1 ⟨rfl,hb1,hk⟩;have KR:Bk 24 w1 (w.heap.size+1+1) cs0:=Bk.below (Bk.new (by simp)) hk;obtain⟨f0,f1,f2,f3⟩:=KR.fros;obtain⟨j0,j1,j2,j3⟩:=KR.cells;go_wp2_with fail;refine ret_cell rfl (w.heap.size+1+1) z rfl (Bk.put KR) rfl ⟨rfl,?_⟩
 go_grown
theorem sinv_any (a:Nat)(h0:0<a)(h1:a<mN)(w:World): Calls Tryz.prog 112 #[nv a] w fun e w'=>e = .returned (nv (iM a))∧Below w.heap.size w w':=by
 have h:=inv_any 1 a (Nat.lt_trans h1 mN_W);rw [md1',Nat.mod_eq_of_lt h1,if_neg (by omega)] at h;have HI:Hid (∀w,Calls Tryz.prog 157 #[.int .i64 1,nv a] w fun e w'=>e = .returned (.tuple #[nv (iM a),.int .i64 0])∧Below w.heap.size w w'):=Lib.hid h;clear h h0 h1;generalize iM a=z at *;simp only [nv,num] at HI ⊢;go_enter Tryz.func112,Tryz.ntmps112;go_wp2_with fail;refine(keep w.heap.size w (HI.out _) (by go_grown) (Nat.le_refl _)).mono ?_;rintro e w1 ⟨rfl,hb1,hk⟩;have KR:Bk 24 w1 (w.heap.size+1) cs0:=Bk.below (Bk.new (by simp)) hk;obtain⟨f0,f1,f2,f3⟩:=KR.frosA;obtain⟨j0,j1,j2,j3⟩:=KR.cellsA;have hne:w.heap.size+1≠w1.heap.size:=Nat.ne_of_lt KR.lt;go_wp2_with fail;refine ret_cell rfl (w.heap.size+1) z rfl (Bk.put (Bk.alloc KR)) rfl ⟨rfl,?_⟩;have hsz:=hb1.size
 go_grown
theorem sumOf_any (s:List UInt8)(hs:s.length≤140737488351232)(w:World): Calls Tryz.prog 49 #[.string ⟨s.toArray⟩] w fun e w'=>e = .returned (nv (bv (Hs.sumL s) % mN))∧Below w.heap.size w w':=by
 have HS:=Lib.hid (fun w=>Hs.sum_any s (by omega) w);have h:=fun w=>reduce_any 1 (Hs.sumL s) (by rw [Hs.sum_length];decide) w
 rw [md1'] at h;have HR:=Lib.hid h;clear h hs;generalize bv (Hs.sumL s) % mN=z at *;generalize Hs.sumL s=l at *;simp only [nv,num] at HR ⊢;go_enter Tryz.func49,Tryz.ntmps49;go_wp2_with fail;refine(keep w.heap.size w (HS.out _) (by go_grown) (Nat.le_refl _)).mono ?_;rintro e w1 ⟨rfl,hb1,hk⟩;have KR:Bk 24 w1 w.heap.size cs0:=Bk.below (Bk.new rfl) hk;clear hk;go_wp2_with fail;refine(keep w.heap.size w (HR.out _) hb1 (Nat.le_refl _)).mono ?_;rintro e w2 ⟨rfl,hb2,hk2⟩;have KR2:=KR.below hk2;obtain⟨f0,f1,f2,f3⟩:=KR2.fros;obtain⟨j0,j1,j2,j3⟩:=KR2.cells;clear hk2 KR;go_wp2_with fail;refine ret_cell rfl w.heap.size z rfl (Bk.put KR2) rfl ⟨rfl,?_⟩
 go_grown
end
section
open Go.RowKit Go.Sort Limbs
open Go.Lib renaming hid→Φ
theorem mul_po {k:Nat}{p:Po}(hk:k<W256)(hp:p.on=true): (Po.mul k p).on=true∧(Po.mul k p).ok:=by
 rw [mul_is hk hp];have h:=on_ofPt (mul_on (on_iff hp).1 k);exact⟨h.1,h.2.2⟩
theorem add_po {p q:Po}(hp:p.on=true)(hq:q.on=true): (p.add q).ok:=by
 rw [add_is hp hq];exact(on_ofPt (Curve.on_sum Curve.fit (on_iff hp).1 (on_iff hq).1)).2.2
set_option maxHeartbeats 16000000 in
theorem fits_any (q:Po)(hq:q.on=true)(okq:q.ok)(e r t:Nat)(he:e<mN)(hr:r<mN)(ht0:0<t)(ht:t<mN)(w:World): Calls Tryz.prog 62 #[q.v,nv e,nv r,nv t] w fun z w'=>z = .returned (.bool (fitS q e r t))∧Below w.heap.size w w':=by
 have hW:=mN_W;have hb:=iM_lt t;have hrb:r*iM t % mN<W256:=Nat.lt_trans (Nat.mod_lt _ mN_pos) hW;have heb:e*iM t % mN<W256:=Nat.lt_trans (Nat.mod_lt _ mN_pos) hW;have HI:=Φ (sinv_any t ht0 ht);have HM1:=Φ (smul_any r (iM t) (by omega) (by omega));have HM2:=Φ (smul_any e (iM t) (by omega) (by omega));have HP:=Φ (mulP hrb hq okq);have HT:=Φ (timesBase_any (e*iM t % mN) heb);obtain⟨o1,k1⟩:=mul_po hrb hq;obtain⟨o2,_,k2⟩:=pub_on (e*iM t % mN) heb;have HA:=Φ (addP o2 k2 o1 k1);have ok3:=add_po o2 o1;have hf:fitS q e r t=(!((pubOf (e*iM t % mN)).add (Po.mul (r*iM t % mN) q)).i&&decide (((pubOf (e*iM t % mN)).add (Po.mul (r*iM t % mN) q)).x % mN=r)):=rfl;rw [hf];have HL:=Φ (sleft_any ((pubOf (e*iM t % mN)).add (Po.mul (r*iM t % mN) q)).x ok3.1);have HE:=Φ (eqN (((pubOf (e*iM t % mN)).add (Po.mul (r*iM t % mN) q)).x % mN) r (Nat.lt_trans (Nat.mod_lt _ mN_pos) hW) (by omega));clear hf ok3 o1 o2 k1 k2 hb hrb heb hW he hr ht0 ht hq okq;generalize (pubOf (e*iM t % mN)).add (Po.mul (r*iM t % mN) q)=P at *;generalize pubOf (e*iM t % mN)=A at *;generalize Po.mul (r*iM t % mN) q=B at *;generalize e*iM t % mN=eb at *;generalize r*iM t % mN=rb at *;generalize iM t=b at *;obtain⟨m,n,o⟩:=P;obtain⟨x2,y2,i2⟩:=A;obtain⟨u,v,k⟩:=B;obtain⟨x,y,i⟩:=q;simp only [] at HL HE ⊢;generalize m % mN=ml at *;generalize decide (ml=r)=res at *;unfold Po.v pn at HP HT HA ⊢;simp only [nv,num] at HI HM1 HM2 HP HT HA HL ⊢;go_enter Tryz.func62,Tryz.ntmps62;go_wp2_with fail;refine(keep w.heap.size w (HI.out _) (by go_grown) (Nat.le_refl _)).mono ?_;rintro z w1 ⟨rfl,hb1,hk⟩;have KQ:Bk 26 w1 w.heap.size (cs9 x y i):=Bk.below (Bk.alloc (Bk.alloc (Bk.alloc (Bk.new rfl)))) hk;have KE:Bk 24 w1 (w.heap.size+1) (cs4 e):=Bk.below (Bk.alloc (Bk.alloc (Bk.new (by simp)))) hk;have KR:Bk 24 w1 (w.heap.size+1+1) (cs4 r):=Bk.below (Bk.alloc (Bk.new (by simp))) hk;clear hk;go_upto_region 2 with fail;have HQ:Hid (Bk 26 (w1.alloc (.cells #[υ b 0,υ b 1,υ b 2,υ b 3] 24)) w.heap.size (cs9 x y i)):=Φ (Bk.alloc KQ);have HEE:Hid (Bk 24 (w1.alloc (.cells #[υ b 0,υ b 1,υ b 2,υ b 3] 24)) (w.heap.size+1) (cs4 e)):=Φ (Bk.alloc KE);have HR:Hid (Bk 24 (w1.alloc (.cells #[υ b 0,υ b 1,υ b 2,υ b 3] 24)) (w.heap.size+1+1) (cs4 r)):=Φ (Bk.alloc KR);have HBY:Hid (Bk 24 (w1.alloc (.cells #[υ b 0,υ b 1,υ b 2,υ b 3] 24)) w1.heap.size (cs4 b)):=Φ (Bk.new rfl);have HB:Hid (Below w.heap.size w (w1.alloc (.cells #[υ b 0,υ b 1,υ b 2,υ b 3] 24))):=Φ (hb1.alloc hb1.size _);clear KQ KE KR hb1;generalize w1.alloc (.cells #[υ b 0,υ b 1,υ b 2,υ b 3] 24)=W at HQ HEE HR HBY HB ⊢;generalize w1.heap.size=gb at HBY ⊢;generalize w.heap.size+1+1=gr at HR ⊢;generalize w.heap.size+1=ge at HEE ⊢;obtain⟨gq,hgq⟩:∃g,g=w.heap.size:=⟨_,rfl⟩;rw [← hgq] at HQ;rw [show(Value.pointer (some ⟨w.heap.size,0,none⟩)) = .pointer (some ⟨gq,0,none⟩) by rw [hgq]];clear hgq;refine Pl.tG (fun b2 b4 b8 b9 y8 w'=>TW W u v k b2 b4 b8 b9 y8 w') gr gb gq r b rb x y u v i k W ?c2 ?c4 ?c8 ?c9 ?lr ?lb0 ?lq ?w0 ?h
 case c2=>
  intro b8 y8 w2 h;refine(HM1.out w2).mono ?_;rintro z w3 ⟨rfl,hb⟩;exact⟨rfl,h.on hb⟩
 case c4=>
  intro b8 y8 w2 h;refine(HP.out w2).mono ?_;rintro z w3 ⟨rfl,hb⟩;exact⟨rfl,h.on hb⟩
 case c8=>
  intro b2 b4 y8 w2 h;exact⟨h.1.trans ((show Below w2.heap.size w2 (w2.alloc (.cells z9 26)) by go_grown).mono h.1.size),fun _=>⟨_,rfl,h.1.size,Bk.new rfl⟩⟩
 case c9=>
  intro y8 w2 h;obtain⟨g,rfl,hg,hk9⟩:=h.2 rfl;refine⟨g,_,_,_,_,_,_,_,_,_,rfl,hk9,?_,fun _=>⟨g,rfl,hg,Bk.put9 hk9⟩⟩;have hb:=h.1
  go_grown
 case lr=>
  intro _ _ _ _ _ w2 h;exact(HR.out.below h.1).cells
 case lb0=>
  intro _ _ _ _ _ w2 h;exact(HBY.out.below h.1).cells
 case lq=>
  intro _ _ _ _ _ w2 h;obtain⟨⟨c0,c1,c2,c3⟩,⟨c4,c5,c6,c7⟩,c8⟩:=(HQ.out.below h.1).cells9;exact⟨c0,c1,c2,c3,c4,c5,c6,c7,c8⟩
 case w0=>exact⟨⟨rfl,rfl,rfl,Nat.le_refl _,fun _ _=>rfl⟩,fun h=>by cases h⟩
 case h=>
 intro y8 V h;obtain⟨gp,rfl,hg,hk9⟩:=h.2 rfl;have HEE2:=Φ (HEE.out.below h.1);have HR2:=Φ (HR.out.below h.1);have HBY2:=Φ (HBY.out.below h.1);have HPP:Hid (Bk 26 V gp (cs9 u v k)):=Φ hk9;have HB2:=Φ (HB.out.trans (h.1.mono HB.out.size));clear h hg hk9 HEE HR HBY HB HQ HM1 HP HI;go_upto_region 3 with fail;refine Pl.tH (fun b2 b3 b5 b9 b10 y9 w'=>TW V m n o b2 b3 b9 b10 y9 w') ge gb gp e b eb x2 y2 u v m n i2 k o V ?c2 ?c3 ?c5 ?c9 ?c10 ?le ?lb0 ?lq ?w0 ?h
 case c2=>
  intro b9 y9 w2 h;refine(HM2.out w2).mono ?_;rintro z w3 ⟨rfl,hb⟩;exact⟨rfl,h.on hb⟩
 case c3=>
  intro b9 y9 w2 h;refine(HT.out w2).mono ?_;rintro z w3 ⟨rfl,hb⟩;exact⟨rfl,h.on hb⟩
 case c5=>
  intro b9 y9 w2 h;refine(HA.out w2).mono ?_;rintro z w3 ⟨rfl,hb⟩;exact⟨rfl,h.on hb⟩
 case c9=>
  intro b2 b3 b5 y9 w2 h;exact⟨h.1.trans ((show Below w2.heap.size w2 (w2.alloc (.cells z9 26)) by go_grown).mono h.1.size),fun _=>⟨_,rfl,h.1.size,Bk.new rfl⟩⟩
 case c10=>
  intro y9 w2 h;obtain⟨g,rfl,hg,hk9⟩:=h.2 rfl;refine⟨g,_,_,_,_,_,_,_,_,_,rfl,hk9,?_,fun _=>⟨g,rfl,hg,Bk.put9 hk9⟩⟩;have hb:=h.1
  go_grown
 case le=>
  intro _ _ _ _ _ _ w2 h;exact(HEE2.out.below h.1).cells
 case lb0=>
  intro _ _ _ _ _ _ w2 h;exact(HBY2.out.below h.1).cells
 case lq=>
  intro _ _ _ _ _ _ w2 h;obtain⟨⟨c0,c1,c2,c3⟩,⟨c4,c5,c6,c7⟩,c8⟩:=(HPP.out.below h.1).cells9;exact⟨c0,c1,c2,c3,c4,c5,c6,c7,c8⟩
 case w0=>exact⟨⟨rfl,rfl,rfl,Nat.le_refl _,fun _ _=>rfl⟩,fun h=>by cases h⟩
 case h=>
 intro y9 X h;obtain⟨gs,rfl,hg,hk9⟩:=h.2 rfl;have HR3:=Φ (HR2.out.below h.1);have HSS:Hid (Bk 26 X gs (cs9 m n o)):=Φ hk9;have HB3:=Φ (HB2.out.trans (h.1.mono HB2.out.size));clear h hg hk9 HEE2 HR2 HBY2 HPP HB2 HM2 HT HA;go_upto_region 4 with fail;obtain⟨r0,r1,r2,r3⟩:=HR3.out.reg;obtain⟨⟨c0,c1,c2,c3⟩,⟨c4,c5,c6,c7⟩,c8⟩:=HSS.out.reg9;have hee:=HE.out;have HB4:=HB3;clear HB3 HR3 HSS HE;cases o
 all_goals
  refine wp_region_quiet_below mixed (by kernel_rfl) ?_
  repeat (first | go_big_quiet_step (exact qg HL.out) | quiet_step (exact qg HL.out))
  refine wpQuiet_nil ?_;intro _ hw';obtain⟨⟨dq,osq⟩,hw''⟩:=hw';subst hw'';go_wp2_with fail;go_returns;exact⟨rfl,HB4.out.trans ((below_regrown X dq osq).mono HB4.out.size)⟩
end
section
open Go.RowKit Limbs
set_option maxHeartbeats 32000000
def NW (w0:World)(ga gz z:Nat)(b7:Bool)(w:World): Prop:=
 Below w0.heap.size w0 w∧w0.heap.size≤ga∧gz≠ga∧Bk 24 w gz (cs4 z)∧∃d0 d1 d2 d3,Bk 24 w ga #[d0,d1,d2,d3]∧(b7=true→Bk 24 w ga (cs4 z))
theorem NW.start {w w1:World}{z:Nat}(KR:Bk 24 w1 w.heap.size cs0)(hb:Below w.heap.size w w1): NW w w.heap.size w1.heap.size z false (w1.alloc (.cells (cs4 z) 24)).drew:=
 ⟨(hb.alloc hb.size _).drew,Nat.le_refl _,Nat.ne_of_gt KR.lt,Bk.new rfl,_,_,_,_,Bk.alloc KR,fun h=>by cases h⟩
theorem NW.on {w0 w w':World}{ga gz z:Nat}{b:Bool}(h:NW w0 ga gz z b w)(hb:Below w.heap.size w w'): NW w0 ga gz z b w':=by
 obtain⟨h1,h2,h3,h4,d0,d1,d2,d3,h5,h6⟩:=h;exact⟨h1.trans (hb.mono h1.size),h2,h3,h4.below hb,d0,d1,d2,d3,h5.below hb,fun e=>(h6 e).below hb⟩
theorem NW.put {w0 w:World}{ga gz z:Nat}{b:Bool}(h:NW w0 ga gz z b w): ∃d0 d1 d2 d3,Bk 24 w ga #[d0,d1,d2,d3]∧NW w0 ga gz z true ((((w.setCell ⟨ga,0,none⟩ (υ z 0)).setCell ⟨ga,1,none⟩ (υ z 1)).setCell ⟨ga,2,none⟩ (υ z 2)).setCell ⟨ga,3,none⟩ (υ z 3)):=by
 obtain⟨h1,h2,h3,h4,d0,d1,d2,d3,h5,h6⟩:=h;refine⟨d0,d1,d2,d3,h5,?_,h2,h3,Bk.puto h3 h4,_,_,_,_,Bk.put h5,fun _=>Bk.put h5⟩;exact(((h1.setCell (p:=⟨ga,0,none⟩) h2 _).setCell (p:=⟨ga,1,none⟩) h2 _).setCell (p:=⟨ga,2,none⟩) h2 _).setCell (p:=⟨ga,3,none⟩) h2 _
theorem number_yes (s:List UInt8)(hl:s.length=32)(hb:bv s<mN)(w:World): Calls Tryz.prog 60 #[.string ⟨s.toArray⟩] w fun e w'=>e = .returned (.tuple #[nv (bv s),.bool (decide (0<bv s∧bv s<mN))])∧Below w.heap.size w w':=by
 have h:=of_any 1 s (by omega);rw [md1',if_pos ⟨hl,hb⟩] at h;have HO:=Lib.hid h;have HI:=Lib.hid (inRange_any (bv s) (Nat.lt_trans hb mN_W));clear h hl hb;generalize decide (0<bv s∧bv s<mN)=ok at *;generalize bv s=z at *;simp only [nv,num] at HO HI ⊢;go_enter Tryz.func60,Tryz.ntmps60;go_wp2_with fail;refine(keep w.heap.size w (HO.out _) (by go_grown) (Nat.le_refl _)).mono ?_;rintro e w1 ⟨rfl,hb1,hk⟩;have KR:Bk 24 w1 w.heap.size cs0:=Bk.below (Bk.new rfl) hk;clear hk;go_wp2_with fail;have HN:Hid (NW w w.heap.size w1.heap.size z false (w1.alloc (.cells #[υ z 0,υ z 1,υ z 2,υ z 3] 24)).drew):=Lib.hid (NW.start KR hb1);clear KR hb1;generalize w1.alloc (.cells #[υ z 0,υ z 1,υ z 2,υ z 3] 24)=W at HN ⊢;generalize w1.heap.size=ga at HN ⊢;refine Pl.tN (fun _ b7 w'=>NW w w.heap.size ga z b7 w') w.heap.size ga z ok W ?c5 ?c7 ?lz HN.out ?h
 case c5=>
  intro w' h;refine(HI.out w').mono ?_;rintro e w2 ⟨rfl,hb⟩;exact⟨rfl,h.on hb⟩
 case c7=>exact fun w' h=>h.put
 case lz=>exact fun _ _ w' h=>h.2.2.2.1.cells
 case h=>
 rintro w2 ⟨hb,_,_,_,_,_,_,_,_,hk⟩;have K:=hk rfl;clear hk;go_wp2_with fail;exact ret_cell2 rfl w.heap.size z (.bool ok) rfl rfl K rfl ⟨rfl,hb⟩
theorem number_no (s:List UInt8)(hs:s.length≤140737488351232)(hn:¬(s.length=32∧bv s<mN))(w:World): Calls Tryz.prog 60 #[.string ⟨s.toArray⟩] w fun e w'=>e = .returned (.tuple #[nv 0,.bool false])∧Below w.heap.size w w':=by
 have h:=of_any 1 s hs;rw [md1',if_neg hn] at h;obtain⟨z,hz⟩:∃z,z=0:=⟨_,rfl⟩;rw [← hz] at h ⊢;have HO:=Lib.hid h;clear h hs hn hz;simp only [nv,num] at HO ⊢;go_enter Tryz.func60,Tryz.ntmps60;go_wp2_with fail;refine(keep w.heap.size w (HO.out _) (by go_grown) (Nat.le_refl _)).mono ?_;rintro e w1 ⟨rfl,hb1,hk⟩;have KR:Bk 24 w1 w.heap.size cs0:=Bk.below (Bk.new rfl) hk;clear hk;go_wp2_with fail;have HN:Hid (NW w w.heap.size w1.heap.size z false (w1.alloc (.cells #[υ z 0,υ z 1,υ z 2,υ z 3] 24)).drew):=Lib.hid (NW.start KR hb1);clear KR hb1;generalize w1.alloc (.cells #[υ z 0,υ z 1,υ z 2,υ z 3] 24)=W at HN ⊢;generalize w1.heap.size=ga at HN ⊢;refine Pl.tM (fun b7 w'=>NW w w.heap.size ga z b7 w') w.heap.size ga z W ?c7 ?lz HN.out ?h
 case c7=>exact fun w' h=>h.put
 case lz=>exact fun _ w' h=>h.2.2.2.1.cells
 case h=>
 rintro w2 ⟨hb,_,_,_,_,_,_,_,_,hk⟩;have K:=hk rfl;clear hk;go_wp2_with fail;exact ret_cell2 rfl w.heap.size z (.bool false) rfl rfl K rfl ⟨rfl,hb⟩
end
section
open Go.RowKit Go.Sort Limbs
open Go.Lib renaming hid→Φ
set_option maxHeartbeats 32000000
theorem ba_ext {l m:List UInt8}{a b:Nat}(h:(l.drop a).take (b - a)=m)(hb:b≤l.length): (⟨l.toArray⟩:ByteArray).extract a b=⟨m.toArray⟩:=by
 apply ByteArray.ext
 rw [ByteArray.data_extract];apply Array.ext'
 rw [← h];simp [Array.toList_extract,List.extract]
def sgB (r t:Nat): List UInt8:=nb r++nb t
theorem sgB_len (r t:Nat): (sgB r t).length=64:=by rw [sgB,List.length_append,nb_length,nb_length]
theorem sgB_1 (r t:Nat): (⟨(sgB r t).toArray⟩:ByteArray).extract 0 32=⟨(nb r).toArray⟩:=ba_ext (by rw [sgB];exact List.take_left' (nb_length r)) (by rw [sgB_len];decide)
theorem sgB_2 (r t:Nat): (⟨(sgB r t).toArray⟩:ByteArray).extract 32 64=⟨(nb t).toArray⟩:=ba_ext (by
 rw [sgB,List.drop_left' (nb_length r)];exact List.take_of_length_le (by rw [nb_length];decide)) (by rw [sgB_len];decide)
set_option maxHeartbeats 16000000 in
theorem verify_sig (q:Po)(hq:q.on=true)(okq:q.ok)(hqi:q.i=false)(s:List UInt8)(hs:s.length≤140737488351232)(r t:Nat)(hr0:0<r)(hr:r<mN)(ht0:0<t)(ht:t<mN)(w:World): Calls Tryz.prog 16 #[q.v,.string ⟨s.toArray⟩,.string ⟨(sgB r t).toArray⟩] w fun z w'=>z = .returned (.bool (fitS q (bv (Hs.sumL s) % mN) r t))∧Below w.heap.size w w':=by
 have hW:=mN_W;have hn1:=number_yes (nb r) (nb_length r) (by rw [nb_val (by omega)];exact hr);have hn2:=number_yes (nb t) (nb_length t) (by rw [nb_val (by omega)];exact ht);rw [nb_val (show r<W256 by omega),decide_eq_true ⟨hr0,hr⟩] at hn1;rw [nb_val (show t<W256 by omega),decide_eq_true ⟨ht0,ht⟩] at hn2;have HN1:=Φ hn1;have HN2:=Φ hn2;have HS:=Φ (sumOf_any s hs);have HO:=Φ (onP hq okq);have HF:=Φ (fits_any q hq okq (bv (Hs.sumL s) % mN) r t (Nat.mod_lt _ mN_pos) hr ht0 ht);have HE1:=Φ (sgB_1 r t);have HE2:=Φ (sgB_2 r t);have hz:(⟨(sgB r t).toArray⟩:ByteArray).size=64:=by
  show(sgB r t).toArray.size=64
  rw [List.size_toArray,sgB_len]
 clear hn1 hn2 hs hr0 hr ht0 ht hW hq okq;generalize fitS q (bv (Hs.sumL s) % mN) r t=res at *;generalize bv (Hs.sumL s) % mN=e at *;generalize (⟨(sgB r t).toArray⟩:ByteArray)=SB at *;generalize (⟨(nb r).toArray⟩:ByteArray)=RB at *;generalize (⟨(nb t).toArray⟩:ByteArray)=TB at *;generalize (⟨s.toArray⟩:ByteArray)=sb at *;obtain⟨x,y,i⟩:=q;simp only [] at hqi;subst hqi;unfold Po.v pn at HO HF ⊢;simp only [nv,num] at HN1 HN2 HS HF ⊢;go_enter Tryz.func16,Tryz.ntmps16;go_wp2_with fail;rw [HE1.out];refine(keep w.heap.size w (HN1.out _) (by go_grown) (Nat.le_refl _)).mono ?_;rintro z w1 ⟨rfl,hb1,hk⟩;have KQ:Bk 26 w1 w.heap.size (cs9 x y false):=Bk.below (Bk.new rfl) hk;clear hk;go_wp2_with fail;rw [HE2.out];have KQ2:Bk 26 (w1.alloc (.cells #[υ r 0,υ r 1,υ r 2,υ r 3] 24)) w.heap.size (cs9 x y false):=Bk.alloc KQ;have KR:Bk 24 (w1.alloc (.cells #[υ r 0,υ r 1,υ r 2,υ r 3] 24)) w1.heap.size (cs4 r):=Bk.new rfl;have hb2:Below w.heap.size w (w1.alloc (.cells #[υ r 0,υ r 1,υ r 2,υ r 3] 24)):=hb1.alloc hb1.size _;clear KQ hb1;generalize w1.alloc (.cells #[υ r 0,υ r 1,υ r 2,υ r 3] 24)=W at KQ2 KR hb2 ⊢;generalize w1.heap.size=gr at KR ⊢;refine(keep w.heap.size w (HN2.out _) hb2 (Nat.le_refl _)).mono ?_;rintro z w2 ⟨rfl,hb3,hk⟩;have KQ3:=KQ2.below hk;have KR3:=KR.below hk;have hsz:=hb3.size;clear hk KQ2 KR hb2;go_upto_region 5 with fail;have HQ:Hid (Bk 26 (w2.alloc (.cells #[υ t 0,υ t 1,υ t 2,υ t 3] 24)) w.heap.size (cs9 x y false)):=Φ (Bk.alloc KQ3);have HR:Hid (Bk 24 (w2.alloc (.cells #[υ t 0,υ t 1,υ t 2,υ t 3] 24)) gr (cs4 r)):=Φ (Bk.alloc KR3);have HT:Hid (Bk 24 (w2.alloc (.cells #[υ t 0,υ t 1,υ t 2,υ t 3] 24)) w2.heap.size (cs4 t)):=Φ (Bk.new rfl);have HB:Hid (Below w.heap.size w (w2.alloc (.cells #[υ t 0,υ t 1,υ t 2,υ t 3] 24))):=Φ (hb3.alloc hsz _);clear KQ3 KR3 hb3 hsz;generalize w2.alloc (.cells #[υ t 0,υ t 1,υ t 2,υ t 3] 24)=V at HQ HR HT HB ⊢;generalize w2.heap.size=gt at HT ⊢;obtain⟨gq,hgq⟩:∃g,g=w.heap.size:=⟨_,rfl⟩;rw [← hgq] at HQ;rw [show(Value.pointer (some ⟨w.heap.size,0,none⟩)) = .pointer (some ⟨gq,0,none⟩) by rw [hgq]];clear hgq;obtain⟨⟨c0,c1,c2,c3⟩,⟨c4,c5,c6,c7⟩,c8⟩:=HQ.out.cells9;go_wp2_with fail;refine(keep w.heap.size w (HO.out _) HB.out (Nat.le_refl _)).mono ?_;rintro z w3 ⟨rfl,hb,hk⟩;have HQ3:=Φ (HQ.out.below hk);have HR3:=Φ (HR.out.below hk);have HT3:=Φ (HT.out.below hk);have HB3:=Φ hb;clear hk hb HQ HR HT HB c0 c1 c2 c3 c4 c5 c6 c7 c8 HO HN1 HN2 HE1 HE2;go_upto_region 7 with fail;obtain⟨⟨c0,c1,c2,c3⟩,⟨c4,c5,c6,c7⟩,c8⟩:=HQ3.out.reg9;obtain⟨r0,r1,r2,r3⟩:=HR3.out.reg;obtain⟨t0,t1,t2,t3⟩:=HT3.out.reg;clear HQ3 HR3 HT3;refine wp_region_quiet_below mixed (by kernel_rfl) ?_
 repeat (first | go_big_quiet_step (first | exact qg HS.out | exact qg HF.out) | quiet_step (first | exact qg HS.out | exact qg HF.out))
 refine wpQuiet_nil ?_;intro _ hw';obtain⟨⟨dq,osq⟩,hw''⟩:=hw';subst hw'';go_wp2_with fail;go_returns;exact⟨rfl,HB3.out.trans ((below_regrown w3 dq osq).mono HB3.out.size)⟩
theorem ver_len (q:Po)(s sig:ByteArray)(h:sig.size≠64)(w:World): Calls Tryz.prog 16 #[q.v,.string s,.string sig] w fun z w'=>z = .returned (.bool false)∧Below w.heap.size w w':=by
 have h2:((sig.size:Nat):Int)≠64:=by omega
 obtain⟨x,y,i⟩:=q;unfold Po.v pn;simp only [nv,num];go_enter Tryz.func16,Tryz.ntmps16;go_wp2_with fail
 all_goals
  go_returns;exact⟨rfl,by go_grown⟩
theorem ver_not (q:Po)(okq:q.ok)(s SB RB TB:ByteArray)(hz:SB.size=64)(e1:SB.extract 0 32=RB)(e2:SB.extract 32 64=TB)(r t:Nat)(bR bT:Bool)
  (hn1:∀w,Calls Tryz.prog 60 #[.string RB] w fun e w'=>e = .returned (.tuple #[nv r,.bool bR])∧Below w.heap.size w w')
  (hn2:∀w,Calls Tryz.prog 60 #[.string TB] w fun e w'=>e = .returned (.tuple #[nv t,.bool bT])∧Below w.heap.size w w')
  (hc:bR=false∨bT=false∨q.i=true∨q.on=false) (w:World):Calls Tryz.prog 16 #[q.v,.string s,.string SB] w fun z w'=>z = .returned (.bool false)∧Below w.heap.size w w':=by
 have HN1:=Φ hn1;have HN2:=Φ hn2;have HO:=Φ (onj okq);have HE1:=Φ e1;have HE2:=Φ e2;have HC:=Φ hc;clear hn1 hn2 okq e1 e2 hc;generalize q.on=on at *;obtain⟨x,y,i⟩:=q;dsimp only at HC;unfold Po.v pn at HO ⊢;simp only [nv,num] at HN1 HN2 HO ⊢;go_enter Tryz.func16,Tryz.ntmps16;go_wp2_with fail;rw [HE1.out];refine(keep w.heap.size w (HN1.out _) (by go_grown) (Nat.le_refl _)).mono ?_;rintro z w1 ⟨rfl,hb1,hk⟩;have KQ:Bk 26 w1 w.heap.size (cs9 x y i):=Bk.below (Bk.new rfl) hk;clear hk;go_wp2_with fail;rw [HE2.out];have KQ2:Bk 26 (w1.alloc (.cells #[υ r 0,υ r 1,υ r 2,υ r 3] 24)) w.heap.size (cs9 x y i):=Bk.alloc KQ;have hb2:Below w.heap.size w (w1.alloc (.cells #[υ r 0,υ r 1,υ r 2,υ r 3] 24)):=hb1.alloc hb1.size _;clear KQ hb1;generalize w1.alloc (.cells #[υ r 0,υ r 1,υ r 2,υ r 3] 24)=W at KQ2 hb2 ⊢;refine(keep w.heap.size w (HN2.out _) hb2 (Nat.le_refl _)).mono ?_;rintro z w2 ⟨rfl,hb3,hk⟩;have KQ3:=KQ2.below hk;have hsz:=hb3.size;clear hk KQ2 hb2;go_upto_region 5 with fail;have HQ:Hid (Bk 26 (w2.alloc (.cells #[υ t 0,υ t 1,υ t 2,υ t 3] 24)) w.heap.size (cs9 x y i)):=Φ (Bk.alloc KQ3);have HB:Hid (Below w.heap.size w (w2.alloc (.cells #[υ t 0,υ t 1,υ t 2,υ t 3] 24))):=Φ (hb3.alloc hsz _);clear KQ3 hb3 hsz;generalize w2.alloc (.cells #[υ t 0,υ t 1,υ t 2,υ t 3] 24)=V at HQ HB ⊢;obtain⟨gq,hgq⟩:∃g,g=w.heap.size:=⟨_,rfl⟩;rw [← hgq] at HQ;rw [show(Value.pointer (some ⟨w.heap.size,0,none⟩)) = .pointer (some ⟨gq,0,none⟩) by rw [hgq]];clear hgq;obtain⟨⟨c0,c1,c2,c3⟩,⟨c4,c5,c6,c7⟩,c8⟩:=HQ.out.cells9;clear HN1 HN2 HE1 HE2;cases bR
 ·go_wp2_with fail
  all_goals
   go_returns;exact⟨rfl,HB.out⟩
 cases bT
 ·go_wp2_with fail
  all_goals
   go_returns;exact⟨rfl,HB.out⟩
 cases i
 ·cases on
  ·go_wp2_with fail;refine(keep w.heap.size w (HO.out _) HB.out (Nat.le_refl _)).mono ?_;rintro z w3 ⟨rfl,hb,hk⟩;have HB3:=Φ hb;clear hk hb HQ HB c0 c1 c2 c3 c4 c5 c6 c7 c8 HO;go_wp2_with fail
   all_goals
    go_returns;exact⟨rfl,HB3.out⟩
  ·exact absurd HC.out (by simp)
 ·go_wp2_with fail
  all_goals
   go_returns;exact⟨rfl,HB.out⟩
end
end Go.Proofs.YtpggkfdijmnmiaaGreat
