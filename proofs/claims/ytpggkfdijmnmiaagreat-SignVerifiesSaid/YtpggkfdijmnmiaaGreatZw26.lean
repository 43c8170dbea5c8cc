/- What Vouch answers, and Verify of a text that has not 64 byt -/
import Derived.Test.YtpggkfdijmnmiaaGreatZw25
import Derived.Test.YtpggkfdijmnmiaaGreatZw24
import Derived.Test.YtpggkfdijmnmiaaGreatZw21
import Derived.Test.YtpggkfdijmnmiaaGreatZw23
import Derived.Test.YtpggkfdijmnmiaaGreatZw22
set_option linter.unusedVariables false
set_option linter.unusedSimpArgs false
set_option maxRecDepth 100000
namespace Go.Proofs.YtpggkfdijmnmiaaGreat
end Go.Proofs.YtpggkfdijmnmiaaGreat
namespace Go.Proofs.YtpggkfdijmnmiaaGreat
open Go.RowKit Go.Sort Limbs
open Go.Lib renaming hid→Φ
set_option maxHeartbeats 32000000
theorem dig_of (a s:Nat)(hs:s≤60): a % 18446744073709551616 / 2 ^ s % 16=a / 2 ^ s % 16:=by
 rw [← Nat.mod_mul_right_div_self,← Nat.mod_mul_right_div_self (m:=a)]
 congr 1
 refine Nat.mod_mod_of_dvd _ ?_;rw [show(18446744073709551616:Nat)=2 ^ s*2 ^ (64 - s) from by rw [← Nat.pow_add,show s+(64 - s)=64 by omega]];refine Nat.mul_dvd_mul_left _ ?_;rw [show(16:Nat)=2 ^ 4 from rfl];exact Nat.pow_dvd_pow 2 (by omega)
theorem dig_int (a m:Nat): ((a:Int) / 2 ^ m).tmod 16=((a / 2 ^ m % 16:Nat):Int):=by
 have e:(a:Int) / 2 ^ m=((a / 2 ^ m:Nat):Int):=by
  rw [Int.natCast_ediv,Int.natCast_pow];rfl
 rw [e];generalize a / 2 ^ m=q;rw [Int.tmod_eq_emod_of_nonneg (by omega)];omega
theorem dig_int2 (a m:Nat): (a:Int) / 2 ^ m % 16=((a / 2 ^ m % 16:Nat):Int):=by
 have e:(a:Int) / 2 ^ m=((a / 2 ^ m:Nat):Int):=by
  rw [Int.natCast_ediv,Int.natCast_pow];rfl
 rw [e];generalize a / 2 ^ m=q;omega
theorem digit_0 (k r:Nat)(hr:r<16)(w:World):
  Calls Tryz.prog 169 #[nv k,.int .i64 ((r:Nat):Int)] w fun e w'=>e = .returned (.int .u64 ((lb k 0 / 2 ^ (r*4) % 16:Nat):Int))∧Below w.heap.size w w':=by
 have hl:=lb_lt k 0;have hq1:Int.tdiv ((r:Nat):Int) 16=0:=by rw [Int.tdiv_eq_ediv_of_nonneg (by omega)];omega
 have hq2:Int.tmod ((r:Nat):Int) 16=(r:Int):=by rw [Int.tmod_eq_emod_of_nonneg (by omega)];omega
 simp only [nv,num];go_enter Tryz.func169,Tryz.ntmps169;go_wp2_with fail;go_ret;refine⟨by simp only [dig_int,dig_int2];rfl,?_⟩
 go_grown
theorem digit_1 (k r:Nat)(hr:r<16)(w:World):
  Calls Tryz.prog 169 #[nv k,.int .i64 ((16+r:Nat):Int)] w fun e w'=>e = .returned (.int .u64 ((lb k 1 / 2 ^ (r*4) % 16:Nat):Int))∧Below w.heap.size w w':=by
 have hl:=lb_lt k 1;have hq1:Int.tdiv ((16+r:Nat):Int) 16=1:=by rw [Int.tdiv_eq_ediv_of_nonneg (by omega)];omega
 have hq2:Int.tmod ((16+r:Nat):Int) 16=(r:Int):=by rw [Int.tmod_eq_emod_of_nonneg (by omega)];omega
 obtain⟨pl,hpl⟩:∃z:Int,z=((16+r:Nat):Int):=⟨_,rfl⟩;rw [← hpl] at hq1 hq2 ⊢;have hp0:0≤pl:=by omega
 clear hpl;simp only [nv,num];go_enter Tryz.func169,Tryz.ntmps169;go_wp2_with fail;go_ret;refine⟨by simp only [dig_int,dig_int2];rfl,?_⟩
 go_grown
theorem digit_2 (k r:Nat)(hr:r<16)(w:World):
  Calls Tryz.prog 169 #[nv k,.int .i64 ((32+r:Nat):Int)] w fun e w'=>e = .returned (.int .u64 ((lb k 2 / 2 ^ (r*4) % 16:Nat):Int))∧Below w.heap.size w w':=by
 have hl:=lb_lt k 2;have hq1:Int.tdiv ((32+r:Nat):Int) 16=2:=by rw [Int.tdiv_eq_ediv_of_nonneg (by omega)];omega
 have hq2:Int.tmod ((32+r:Nat):Int) 16=(r:Int):=by rw [Int.tmod_eq_emod_of_nonneg (by omega)];omega
 obtain⟨pl,hpl⟩:∃z:Int,z=((32+r:Nat):Int):=⟨_,rfl⟩;rw [← hpl] at hq1 hq2 ⊢;have hp0:0≤pl:=by omega
 clear hpl;simp only [nv,num];go_enter Tryz.func169,Tryz.ntmps169;go_wp2_with fail;go_ret;refine⟨by simp only [dig_int,dig_int2];rfl,?_⟩
 go_grown
theorem digit_3 (k r:Nat)(hr:r<16)(w:World):
  Calls Tryz.prog 169 #[nv k,.int .i64 ((48+r:Nat):Int)] w fun e w'=>e = .returned (.int .u64 ((lb k 3 / 2 ^ (r*4) % 16:Nat):Int))∧Below w.heap.size w w':=by
 have hl:=lb_lt k 3;have hq1:Int.tdiv ((48+r:Nat):Int) 16=3:=by rw [Int.tdiv_eq_ediv_of_nonneg (by omega)];omega
 have hq2:Int.tmod ((48+r:Nat):Int) 16=(r:Int):=by rw [Int.tmod_eq_emod_of_nonneg (by omega)];omega
 obtain⟨pl,hpl⟩:∃z:Int,z=((48+r:Nat):Int):=⟨_,rfl⟩;rw [← hpl] at hq1 hq2 ⊢;have hp0:0≤pl:=by omega
 clear hpl;simp only [nv,num];go_enter Tryz.func169,Tryz.ntmps169;go_wp2_with fail;go_ret;refine⟨by simp only [dig_int,dig_int2];rfl,?_⟩
 go_grown
theorem digit_c (k pl:Nat)(h:pl<64)(w:World):
  Calls Tryz.prog 169 #[nv k,.int .i64 (pl:Int)] w fun e w'=>e = .returned (.int .u64 ((k / 16 ^ pl % 16:Nat):Int))∧Below w.heap.size w w':=by
 have e (q r:Nat) (hr:r<16) (hp:pl=16*q+r):lb k q / 2 ^ (r*4) % 16=k / 16 ^ pl % 16:=by
  have hq:q=0∨q=1∨q=2∨q=3:=by omega
  have p (n:Nat) (hn:n+r*4=4*pl):k / 2 ^ n / 2 ^ (r*4) % 16=k / 16 ^ pl % 16:=by
   rw [Nat.div_div_eq_div_mul,← Nat.pow_add,hn,Nat.pow_mul]
  rcases hq with rfl | rfl | rfl | rfl
  ·show k % 18446744073709551616 / 2 ^ (r*4) % 16=_
   rw [dig_of _ _ (by omega)]
   have:=p 0 (by omega)
   rwa [Nat.pow_zero,Nat.div_one] at this
  ·show k / 2 ^ 64 % 18446744073709551616 / 2 ^ (r*4) % 16=_
   rw [dig_of _ _ (by omega)];exact p 64 (by omega)
  ·show k / 2 ^ 128 % 18446744073709551616 / 2 ^ (r*4) % 16=_
   rw [dig_of _ _ (by omega)];exact p 128 (by omega)
  ·show k / 2 ^ 192 % 18446744073709551616 / 2 ^ (r*4) % 16=_
   rw [dig_of _ _ (by omega)];exact p 192 (by omega)
 obtain⟨q,r,hr,hp⟩:∃q r,r<16∧pl=16*q+r:=⟨pl / 16,pl % 16,Nat.mod_lt _ (by decide),by omega⟩;have hq:q=0∨q=1∨q=2∨q=3:=by omega
 rcases hq with rfl | rfl | rfl | rfl
 ·have:=digit_0 k r hr w
  rw [e 0 r hr hp] at this;rw [show pl=r by omega] at this ⊢;exact this
 ·have:=digit_1 k r hr w
  rw [e 1 r hr hp] at this;rw [show pl=16+r by omega] at this ⊢;exact this
 ·have:=digit_2 k r hr w
  rw [e 2 r hr hp] at this;rw [show pl=32+r by omega] at this ⊢;exact this
 ·have:=digit_3 k r hr w
  rw [e 3 r hr hp] at this;rw [show pl=48+r by omega] at this ⊢;exact this
end Go.Proofs.YtpggkfdijmnmiaaGreat
namespace Go.Proofs.YtpggkfdijmnmiaaGreat
open Go.RowKit Go.Sort Limbs
open Go.Lib renaming hid→Φ
def dg (k i:Nat): Nat:=k / 16 ^ (63 - i) % 16
def J.mulN (k:Nat)(p:J): Nat→J
 |0=>J.far
 |i+1=>(p.tim (dg k i)).plus (J.mulN k p i).twice.twice.twice.twice
theorem J.mulN_ok {k:Nat}{p:J}(hp:p.ok): ∀i,(p.mulN k i).ok
 |0=>J.far_ok
 |i+1=>J.plus_ok (J.tim_ok hp _) (J.twice_ok (J.twice_ok (J.twice_ok (J.twice_ok (J.mulN_ok hp i)))))
theorem mulN_0 (k:Nat)(p:J): cs12 (p.mulN k 0).x (p.mulN k 0).y (p.mulN k 0).z=#[.int .u64 0,.int .u64 0,.int .u64 0,.int .u64 0,.int .u64 0,.int .u64 0,.int .u64 0,.int .u64 0,.int .u64 0,.int .u64 0,.int .u64 0,.int .u64 0]:=by simp [J.mulN,J.far,cs12,lb]
theorem multiple_c (k:Nat)(p:J)(hk:k<W256)(hp:p.ok)(w:World):
  Calls Tryz.prog 142 #[nv k,fv p] w fun e w'=>e = .returned (p.mulN k 64).v∧Below w.heap.size w w':=by
 have HTW:=Φ (fun(q:J) (hq:q.ok)=>twicej hq);have HOK:=Φ (fun i=>J.mulN_ok (k:=k) hp i);have HPL:=Φ (fun(d:Nat) (q:J) (hq:q.ok)=>plusj (J.tim_ok hp d) hq);have HDG:=Φ (fun pl (h:pl<64)=>digit_c k pl h);clear hk hp;obtain⟨res,hres⟩:∃z,z=p.mulN k 64:=⟨_,rfl⟩;rw [← hres];have HRES:=Φ hres;clear hres;obtain⟨tx,ty,tz⟩:=res;have e:(J.mk tx ty tz).v=jn tx ty tz:=rfl;rw [e];clear e;simp only [nv,num] at HDG ⊢;unfold fv;go_enter Tryz.func142,Tryz.ntmps142;go_wp2_with fail;have K2:Hid (Bk 24 ((((w.alloc (.cells #[υ k 0,υ k 1,υ k 2,υ k 3] 24)).alloc (.cells #[FV p 0,FV p 1,FV p 2,FV p 3,FV p 4,FV p 5,FV p 6,FV p 7,FV p 8,FV p 9,FV p 10,FV p 11,FV p 12,FV p 13,FV p 14,FV p 15] 165)).alloc (.cells #[.int .u64 0,.int .u64 0,.int .u64 0,.int .u64 0,.int .u64 0,.int .u64 0,.int .u64 0,.int .u64 0,.int .u64 0,.int .u64 0,.int .u64 0,.int .u64 0] 162)).alloc (.cells #[.int .u64 0,.int .u64 0,.int .u64 0,.int .u64 0,.int .u64 0,.int .u64 0,.int .u64 0,.int .u64 0,.int .u64 0,.int .u64 0,.int .u64 0,.int .u64 0] 162)) w.heap.size #[υ k 0,υ k 1,υ k 2,υ k 3]):=Φ (Bk.alloc (Bk.alloc (Bk.alloc (Bk.new rfl))));have K3:Hid (Bk 165 ((((w.alloc (.cells #[υ k 0,υ k 1,υ k 2,υ k 3] 24)).alloc (.cells #[FV p 0,FV p 1,FV p 2,FV p 3,FV p 4,FV p 5,FV p 6,FV p 7,FV p 8,FV p 9,FV p 10,FV p 11,FV p 12,FV p 13,FV p 14,FV p 15] 165)).alloc (.cells #[.int .u64 0,.int .u64 0,.int .u64 0,.int .u64 0,.int .u64 0,.int .u64 0,.int .u64 0,.int .u64 0,.int .u64 0,.int .u64 0,.int .u64 0,.int .u64 0] 162)).alloc (.cells #[.int .u64 0,.int .u64 0,.int .u64 0,.int .u64 0,.int .u64 0,.int .u64 0,.int .u64 0,.int .u64 0,.int .u64 0,.int .u64 0,.int .u64 0,.int .u64 0] 162)) (w.heap.size+1) (fa p 16)):=Φ (Bk.alloc (Bk.alloc (Bk.new (by simp))));have K4:Hid (Bk 162 ((((w.alloc (.cells #[υ k 0,υ k 1,υ k 2,υ k 3] 24)).alloc (.cells #[FV p 0,FV p 1,FV p 2,FV p 3,FV p 4,FV p 5,FV p 6,FV p 7,FV p 8,FV p 9,FV p 10,FV p 11,FV p 12,FV p 13,FV p 14,FV p 15] 165)).alloc (.cells #[.int .u64 0,.int .u64 0,.int .u64 0,.int .u64 0,.int .u64 0,.int .u64 0,.int .u64 0,.int .u64 0,.int .u64 0,.int .u64 0,.int .u64 0,.int .u64 0] 162)).alloc (.cells #[.int .u64 0,.int .u64 0,.int .u64 0,.int .u64 0,.int .u64 0,.int .u64 0,.int .u64 0,.int .u64 0,.int .u64 0,.int .u64 0,.int .u64 0,.int .u64 0] 162)) (w.heap.size+1+1) #[.int .u64 0,.int .u64 0,.int .u64 0,.int .u64 0,.int .u64 0,.int .u64 0,.int .u64 0,.int .u64 0,.int .u64 0,.int .u64 0,.int .u64 0,.int .u64 0]):=Φ (Bk.alloc (Bk.new (by simp)));have K5:Hid (Bk 162 ((((w.alloc (.cells #[υ k 0,υ k 1,υ k 2,υ k 3] 24)).alloc (.cells #[FV p 0,FV p 1,FV p 2,FV p 3,FV p 4,FV p 5,FV p 6,FV p 7,FV p 8,FV p 9,FV p 10,FV p 11,FV p 12,FV p 13,FV p 14,FV p 15] 165)).alloc (.cells #[.int .u64 0,.int .u64 0,.int .u64 0,.int .u64 0,.int .u64 0,.int .u64 0,.int .u64 0,.int .u64 0,.int .u64 0,.int .u64 0,.int .u64 0,.int .u64 0] 162)).alloc (.cells #[.int .u64 0,.int .u64 0,.int .u64 0,.int .u64 0,.int .u64 0,.int .u64 0,.int .u64 0,.int .u64 0,.int .u64 0,.int .u64 0,.int .u64 0,.int .u64 0] 162)) (w.heap.size+1+1+1) (cs12 (p.mulN k 0).x (p.mulN k 0).y (p.mulN k 0).z)):=Φ (by rw [mulN_0];exact Bk.new (by simp));have HB:Hid (Below w.heap.size w ((((w.alloc (.cells #[υ k 0,υ k 1,υ k 2,υ k 3] 24)).alloc (.cells #[FV p 0,FV p 1,FV p 2,FV p 3,FV p 4,FV p 5,FV p 6,FV p 7,FV p 8,FV p 9,FV p 10,FV p 11,FV p 12,FV p 13,FV p 14,FV p 15] 165)).alloc (.cells #[.int .u64 0,.int .u64 0,.int .u64 0,.int .u64 0,.int .u64 0,.int .u64 0,.int .u64 0,.int .u64 0,.int .u64 0,.int .u64 0,.int .u64 0,.int .u64 0] 162)).alloc (.cells #[.int .u64 0,.int .u64 0,.int .u64 0,.int .u64 0,.int .u64 0,.int .u64 0,.int .u64 0,.int .u64 0,.int .u64 0,.int .u64 0,.int .u64 0,.int .u64 0] 162))):=Φ (by go_grown);generalize ((((w.alloc (.cells #[υ k 0,υ k 1,υ k 2,υ k 3] 24)).alloc (.cells #[FV p 0,FV p 1,FV p 2,FV p 3,FV p 4,FV p 5,FV p 6,FV p 7,FV p 8,FV p 9,FV p 10,FV p 11,FV p 12,FV p 13,FV p 14,FV p 15] 165)).alloc (.cells #[.int .u64 0,.int .u64 0,.int .u64 0,.int .u64 0,.int .u64 0,.int .u64 0,.int .u64 0,.int .u64 0,.int .u64 0,.int .u64 0,.int .u64 0,.int .u64 0] 162)).alloc (.cells #[.int .u64 0,.int .u64 0,.int .u64 0,.int .u64 0,.int .u64 0,.int .u64 0,.int .u64 0,.int .u64 0,.int .u64 0,.int .u64 0,.int .u64 0,.int .u64 0] 162))=W at K2 K3 K4 K5 HB ⊢;obtain⟨g3,hg3⟩:∃z,z=w.heap.size+1:=⟨_,rfl⟩;obtain⟨g4,hg4⟩:∃z,z=w.heap.size+1+1:=⟨_,rfl⟩;obtain⟨g5,hg5⟩:∃z,z=w.heap.size+1+1+1:=⟨_,rfl⟩;rw [← hg3] at K3;rw [← hg4] at K4;rw [← hg5] at K5;rw [← hg5,← hg4,← hg3];obtain⟨g2,hg2⟩:∃z,z=w.heap.size:=⟨_,rfl⟩;have e:(Value.pointer (some ⟨w.heap.size,0,none⟩)) = .pointer (some ⟨g2,0,none⟩):=by rw [hg2]
 rw [e];rw [← hg2] at K2;have HG:Hid ((w.heap.size≤g4∧w.heap.size≤g5)∧(g2≠g5∧g3≠g5∧g4≠g5)):=Φ ⟨⟨by omega,by omega⟩,by omega,by omega,by omega⟩;clear e hg3 hg4 hg5 hg2
 go_loopw [7] (fun b wr=>∃i:Nat,i≤64∧b = .int .i64 (i:Int)∧Bk 24 wr g2 #[υ k 0,υ k 1,υ k 2,υ k 3]∧Bk 165 wr g3 (fa p 16)∧Bk 162 wr g4 #[.int .u64 0,.int .u64 0,.int .u64 0,.int .u64 0,.int .u64 0,.int .u64 0,.int .u64 0,.int .u64 0,.int .u64 0,.int .u64 0,.int .u64 0,.int .u64 0]∧Bk 162 wr g5 (cs12 (p.mulN k i).x (p.mulN k i).y (p.mulN k i).z)∧Below w.heap.size w wr) (fun b _=>64 - (intOf b).toNat)
 case atStart=>exact⟨0,by omega,rfl,K2.out,K3.out,K4.out,K5.out,HB.out⟩
 case round=>
  clear K2 K3 K4 K5 HB;obtain⟨i,hi,rfl,k2,k3,k4,k5,hb⟩:=hrel;have K2:=Φ k2;have K3:=Φ k3;have K4:=Φ k4;have K5:=Φ k5;have HB:=Φ hb;clear k2 k3 k4 k5 hb
  by_cases hlt:i<64
  ·go_wp2_with fail;refine wp_loop_rounds 5 ?_;have HO0:=Φ (HOK.out i);obtain⟨T0,hT0⟩:∃z,z=p.mulN k i:=⟨_,rfl⟩;rw [← hT0] at HO0 K5;obtain⟨a0x,a0y,a0z⟩:=T0;have HT0:=Φ hT0;clear hT0;simp only [] at K5;have HO1:=Φ (J.twice_ok HO0.out);have HC:=Φ (HTW.out ⟨a0x,a0y,a0z⟩ HO0.out);obtain⟨T1,hT1⟩:∃z,z=(J.mk a0x a0y a0z).twice:=⟨_,rfl⟩;rw [← hT1] at HC HO1;obtain⟨a1x,a1y,a1z⟩:=T1;have HT1:=Φ hT1;clear hT1 HO0;simp only [J.v,jn] at HC;obtain⟨⟨x0,x1,x2,x3⟩,⟨y0,y1,y2,y3⟩,z0,z1,z2,z3⟩:=K5.out.cells12;rw [rounds_succ];go_wp2_with fail;refine(keep w.heap.size w (HC.out _) HB.out (Nat.le_refl _)).mono ?_;rintro e w1 ⟨rfl,hb,hkk⟩;have K2':=Φ (K2.out.below hkk);have K3':=Φ (K3.out.below hkk);have K4':=Φ (K4.out.below hkk);have K5':=Φ (K5.out.below hkk);have HB':=Φ hb;clear hb hkk K2 K3 K4 K5 HB HC x0 x1 x2 x3 y0 y1 y2 y3 z0 z1 z2 z3;obtain⟨⟨f0,f1,f2,f3⟩,⟨f4,f5,f6,f7⟩,f8,f9,f10,f11⟩:=K5'.out.fros12;obtain⟨⟨c0,c1,c2,c3⟩,⟨c4,c5,c6,c7⟩,c8,c9,c10,c11⟩:=K5'.out.cells12;go_wp2_with fail;clear f0 f1 f2 f3 f4 f5 f6 f7 f8 f9 f10 f11 c0 c1 c2 c3 c4 c5 c6 c7 c8 c9 c10 c11;have K2:Hid (Bk 24 ((((((((((((w1.setCell ⟨g5,0,none⟩ (υ a1x 0)).setCell ⟨g5,1,none⟩ (υ a1x 1)).setCell ⟨g5,2,none⟩ (υ a1x 2)).setCell ⟨g5,3,none⟩ (υ a1x 3)).setCell ⟨g5,4,none⟩ (υ a1y 0)).setCell ⟨g5,5,none⟩ (υ a1y 1)).setCell ⟨g5,6,none⟩ (υ a1y 2)).setCell ⟨g5,7,none⟩ (υ a1y 3)).setCell ⟨g5,8,none⟩ (υ a1z 0)).setCell ⟨g5,9,none⟩ (υ a1z 1)).setCell ⟨g5,10,none⟩ (υ a1z 2)).setCell ⟨g5,11,none⟩ (υ a1z 3)) g2 #[υ k 0,υ k 1,υ k 2,υ k 3]):=Φ (Bk.puto12 HG.out.2.1 K2'.out);have K3:Hid (Bk 165 ((((((((((((w1.setCell ⟨g5,0,none⟩ (υ a1x 0)).setCell ⟨g5,1,none⟩ (υ a1x 1)).setCell ⟨g5,2,none⟩ (υ a1x 2)).setCell ⟨g5,3,none⟩ (υ a1x 3)).setCell ⟨g5,4,none⟩ (υ a1y 0)).setCell ⟨g5,5,none⟩ (υ a1y 1)).setCell ⟨g5,6,none⟩ (υ a1y 2)).setCell ⟨g5,7,none⟩ (υ a1y 3)).setCell ⟨g5,8,none⟩ (υ a1z 0)).setCell ⟨g5,9,none⟩ (υ a1z 1)).setCell ⟨g5,10,none⟩ (υ a1z 2)).setCell ⟨g5,11,none⟩ (υ a1z 3)) g3 (fa p 16)):=Φ (Bk.puto12 HG.out.2.2.1 K3'.out);have K4:Hid (Bk 162 ((((((((((((w1.setCell ⟨g5,0,none⟩ (υ a1x 0)).setCell ⟨g5,1,none⟩ (υ a1x 1)).setCell ⟨g5,2,none⟩ (υ a1x 2)).setCell ⟨g5,3,none⟩ (υ a1x 3)).setCell ⟨g5,4,none⟩ (υ a1y 0)).setCell ⟨g5,5,none⟩ (υ a1y 1)).setCell ⟨g5,6,none⟩ (υ a1y 2)).setCell ⟨g5,7,none⟩ (υ a1y 3)).setCell ⟨g5,8,none⟩ (υ a1z 0)).setCell ⟨g5,9,none⟩ (υ a1z 1)).setCell ⟨g5,10,none⟩ (υ a1z 2)).setCell ⟨g5,11,none⟩ (υ a1z 3)) g4 #[.int .u64 0,.int .u64 0,.int .u64 0,.int .u64 0,.int .u64 0,.int .u64 0,.int .u64 0,.int .u64 0,.int .u64 0,.int .u64 0,.int .u64 0,.int .u64 0]):=Φ (Bk.puto12 HG.out.2.2.2 K4'.out);have K5:Hid (Bk 162 ((((((((((((w1.setCell ⟨g5,0,none⟩ (υ a1x 0)).setCell ⟨g5,1,none⟩ (υ a1x 1)).setCell ⟨g5,2,none⟩ (υ a1x 2)).setCell ⟨g5,3,none⟩ (υ a1x 3)).setCell ⟨g5,4,none⟩ (υ a1y 0)).setCell ⟨g5,5,none⟩ (υ a1y 1)).setCell ⟨g5,6,none⟩ (υ a1y 2)).setCell ⟨g5,7,none⟩ (υ a1y 3)).setCell ⟨g5,8,none⟩ (υ a1z 0)).setCell ⟨g5,9,none⟩ (υ a1z 1)).setCell ⟨g5,10,none⟩ (υ a1z 2)).setCell ⟨g5,11,none⟩ (υ a1z 3)) g5 #[υ a1x 0,υ a1x 1,υ a1x 2,υ a1x 3,υ a1y 0,υ a1y 1,υ a1y 2,υ a1y 3,υ a1z 0,υ a1z 1,υ a1z 2,υ a1z 3]):=Φ (Bk.put12 K5'.out);have HB:Hid (Below w.heap.size w ((((((((((((w1.setCell ⟨g5,0,none⟩ (υ a1x 0)).setCell ⟨g5,1,none⟩ (υ a1x 1)).setCell ⟨g5,2,none⟩ (υ a1x 2)).setCell ⟨g5,3,none⟩ (υ a1x 3)).setCell ⟨g5,4,none⟩ (υ a1y 0)).setCell ⟨g5,5,none⟩ (υ a1y 1)).setCell ⟨g5,6,none⟩ (υ a1y 2)).setCell ⟨g5,7,none⟩ (υ a1y 3)).setCell ⟨g5,8,none⟩ (υ a1z 0)).setCell ⟨g5,9,none⟩ (υ a1z 1)).setCell ⟨g5,10,none⟩ (υ a1z 2)).setCell ⟨g5,11,none⟩ (υ a1z 3))):=Φ (by have hb:=HB'.out;have hg:=HG.out.1.2;go_grown);generalize ((((((((((((w1.setCell ⟨g5,0,none⟩ (υ a1x 0)).setCell ⟨g5,1,none⟩ (υ a1x 1)).setCell ⟨g5,2,none⟩ (υ a1x 2)).setCell ⟨g5,3,none⟩ (υ a1x 3)).setCell ⟨g5,4,none⟩ (υ a1y 0)).setCell ⟨g5,5,none⟩ (υ a1y 1)).setCell ⟨g5,6,none⟩ (υ a1y 2)).setCell ⟨g5,7,none⟩ (υ a1y 3)).setCell ⟨g5,8,none⟩ (υ a1z 0)).setCell ⟨g5,9,none⟩ (υ a1z 1)).setCell ⟨g5,10,none⟩ (υ a1z 2)).setCell ⟨g5,11,none⟩ (υ a1z 3))=V1 at K2 K3 K4 K5 HB ⊢;clear K2' K3' K4' K5' HB';have HO2:=Φ (J.twice_ok HO1.out);have HC:=Φ (HTW.out ⟨a1x,a1y,a1z⟩ HO1.out);obtain⟨T2,hT2⟩:∃z,z=(J.mk a1x a1y a1z).twice:=⟨_,rfl⟩;rw [← hT2] at HC HO2;obtain⟨a2x,a2y,a2z⟩:=T2;have HT2:=Φ hT2;clear hT2 HO1;simp only [J.v,jn] at HC;obtain⟨⟨x0,x1,x2,x3⟩,⟨y0,y1,y2,y3⟩,z0,z1,z2,z3⟩:=K5.out.cells12;rw [rounds_succ];go_wp2_with fail;refine(keep w.heap.size w (HC.out _) HB.out (Nat.le_refl _)).mono ?_;rintro e w2 ⟨rfl,hb,hkk⟩;have K2':=Φ (K2.out.below hkk);have K3':=Φ (K3.out.below hkk);have K4':=Φ (K4.out.below hkk);have K5':=Φ (K5.out.below hkk);have HB':=Φ hb;clear hb hkk K2 K3 K4 K5 HB HC x0 x1 x2 x3 y0 y1 y2 y3 z0 z1 z2 z3;obtain⟨⟨f0,f1,f2,f3⟩,⟨f4,f5,f6,f7⟩,f8,f9,f10,f11⟩:=K5'.out.fros12;obtain⟨⟨c0,c1,c2,c3⟩,⟨c4,c5,c6,c7⟩,c8,c9,c10,c11⟩:=K5'.out.cells12;go_wp2_with fail;clear f0 f1 f2 f3 f4 f5 f6 f7 f8 f9 f10 f11 c0 c1 c2 c3 c4 c5 c6 c7 c8 c9 c10 c11;have K2:Hid (Bk 24 ((((((((((((w2.setCell ⟨g5,0,none⟩ (υ a2x 0)).setCell ⟨g5,1,none⟩ (υ a2x 1)).setCell ⟨g5,2,none⟩ (υ a2x 2)).setCell ⟨g5,3,none⟩ (υ a2x 3)).setCell ⟨g5,4,none⟩ (υ a2y 0)).setCell ⟨g5,5,none⟩ (υ a2y 1)).setCell ⟨g5,6,none⟩ (υ a2y 2)).setCell ⟨g5,7,none⟩ (υ a2y 3)).setCell ⟨g5,8,none⟩ (υ a2z 0)).setCell ⟨g5,9,none⟩ (υ a2z 1)).setCell ⟨g5,10,none⟩ (υ a2z 2)).setCell ⟨g5,11,none⟩ (υ a2z 3)) g2 #[υ k 0,υ k 1,υ k 2,υ k 3]):=Φ (Bk.puto12 HG.out.2.1 K2'.out);have K3:Hid (Bk 165 ((((((((((((w2.setCell ⟨g5,0,none⟩ (υ a2x 0)).setCell ⟨g5,1,none⟩ (υ a2x 1)).setCell ⟨g5,2,none⟩ (υ a2x 2)).setCell ⟨g5,3,none⟩ (υ a2x 3)).setCell ⟨g5,4,none⟩ (υ a2y 0)).setCell ⟨g5,5,none⟩ (υ a2y 1)).setCell ⟨g5,6,none⟩ (υ a2y 2)).setCell ⟨g5,7,none⟩ (υ a2y 3)).setCell ⟨g5,8,none⟩ (υ a2z 0)).setCell ⟨g5,9,none⟩ (υ a2z 1)).setCell ⟨g5,10,none⟩ (υ a2z 2)).setCell ⟨g5,11,none⟩ (υ a2z 3)) g3 (fa p 16)):=Φ (Bk.puto12 HG.out.2.2.1 K3'.out);have K4:Hid (Bk 162 ((((((((((((w2.setCell ⟨g5,0,none⟩ (υ a2x 0)).setCell ⟨g5,1,none⟩ (υ a2x 1)).setCell ⟨g5,2,none⟩ (υ a2x 2)).setCell ⟨g5,3,none⟩ (υ a2x 3)).setCell ⟨g5,4,none⟩ (υ a2y 0)).setCell ⟨g5,5,none⟩ (υ a2y 1)).setCell ⟨g5,6,none⟩ (υ a2y 2)).setCell ⟨g5,7,none⟩ (υ a2y 3)).setCell ⟨g5,8,none⟩ (υ a2z 0)).setCell ⟨g5,9,none⟩ (υ a2z 1)).setCell ⟨g5,10,none⟩ (υ a2z 2)).setCell ⟨g5,11,none⟩ (υ a2z 3)) g4 #[.int .u64 0,.int .u64 0,.int .u64 0,.int .u64 0,.int .u64 0,.int .u64 0,.int .u64 0,.int .u64 0,.int .u64 0,.int .u64 0,.int .u64 0,.int .u64 0]):=Φ (Bk.puto12 HG.out.2.2.2 K4'.out);have K5:Hid (Bk 162 ((((((((((((w2.setCell ⟨g5,0,none⟩ (υ a2x 0)).setCell ⟨g5,1,none⟩ (υ a2x 1)).setCell ⟨g5,2,none⟩ (υ a2x 2)).setCell ⟨g5,3,none⟩ (υ a2x 3)).setCell ⟨g5,4,none⟩ (υ a2y 0)).setCell ⟨g5,5,none⟩ (υ a2y 1)).setCell ⟨g5,6,none⟩ (υ a2y 2)).setCell ⟨g5,7,none⟩ (υ a2y 3)).setCell ⟨g5,8,none⟩ (υ a2z 0)).setCell ⟨g5,9,none⟩ (υ a2z 1)).setCell ⟨g5,10,none⟩ (υ a2z 2)).setCell ⟨g5,11,none⟩ (υ a2z 3)) g5 #[υ a2x 0,υ a2x 1,υ a2x 2,υ a2x 3,υ a2y 0,υ a2y 1,υ a2y 2,υ a2y 3,υ a2z 0,υ a2z 1,υ a2z 2,υ a2z 3]):=Φ (Bk.put12 K5'.out);have HB:Hid (Below w.heap.size w ((((((((((((w2.setCell ⟨g5,0,none⟩ (υ a2x 0)).setCell ⟨g5,1,none⟩ (υ a2x 1)).setCell ⟨g5,2,none⟩ (υ a2x 2)).setCell ⟨g5,3,none⟩ (υ a2x 3)).setCell ⟨g5,4,none⟩ (υ a2y 0)).setCell ⟨g5,5,none⟩ (υ a2y 1)).setCell ⟨g5,6,none⟩ (υ a2y 2)).setCell ⟨g5,7,none⟩ (υ a2y 3)).setCell ⟨g5,8,none⟩ (υ a2z 0)).setCell ⟨g5,9,none⟩ (υ a2z 1)).setCell ⟨g5,10,none⟩ (υ a2z 2)).setCell ⟨g5,11,none⟩ (υ a2z 3))):=Φ (by have hb:=HB'.out;have hg:=HG.out.1.2;go_grown);generalize ((((((((((((w2.setCell ⟨g5,0,none⟩ (υ a2x 0)).setCell ⟨g5,1,none⟩ (υ a2x 1)).setCell ⟨g5,2,none⟩ (υ a2x 2)).setCell ⟨g5,3,none⟩ (υ a2x 3)).setCell ⟨g5,4,none⟩ (υ a2y 0)).setCell ⟨g5,5,none⟩ (υ a2y 1)).setCell ⟨g5,6,none⟩ (υ a2y 2)).setCell ⟨g5,7,none⟩ (υ a2y 3)).setCell ⟨g5,8,none⟩ (υ a2z 0)).setCell ⟨g5,9,none⟩ (υ a2z 1)).setCell ⟨g5,10,none⟩ (υ a2z 2)).setCell ⟨g5,11,none⟩ (υ a2z 3))=V2 at K2 K3 K4 K5 HB ⊢;clear K2' K3' K4' K5' HB';have HO3:=Φ (J.twice_ok HO2.out);have HC:=Φ (HTW.out ⟨a2x,a2y,a2z⟩ HO2.out);obtain⟨T3,hT3⟩:∃z,z=(J.mk a2x a2y a2z).twice:=⟨_,rfl⟩;rw [← hT3] at HC HO3;obtain⟨a3x,a3y,a3z⟩:=T3;have HT3:=Φ hT3;clear hT3 HO2;simp only [J.v,jn] at HC;obtain⟨⟨x0,x1,x2,x3⟩,⟨y0,y1,y2,y3⟩,z0,z1,z2,z3⟩:=K5.out.cells12;rw [rounds_succ];go_wp2_with fail;refine(keep w.heap.size w (HC.out _) HB.out (Nat.le_refl _)).mono ?_;rintro e w3 ⟨rfl,hb,hkk⟩;have K2':=Φ (K2.out.below hkk);have K3':=Φ (K3.out.below hkk);have K4':=Φ (K4.out.below hkk);have K5':=Φ (K5.out.below hkk);have HB':=Φ hb;clear hb hkk K2 K3 K4 K5 HB HC x0 x1 x2 x3 y0 y1 y2 y3 z0 z1 z2 z3;obtain⟨⟨f0,f1,f2,f3⟩,⟨f4,f5,f6,f7⟩,f8,f9,f10,f11⟩:=K5'.out.fros12;obtain⟨⟨c0,c1,c2,c3⟩,⟨c4,c5,c6,c7⟩,c8,c9,c10,c11⟩:=K5'.out.cells12;go_wp2_with fail;clear f0 f1 f2 f3 f4 f5 f6 f7 f8 f9 f10 f11 c0 c1 c2 c3 c4 c5 c6 c7 c8 c9 c10 c11;have K2:Hid (Bk 24 ((((((((((((w3.setCell ⟨g5,0,none⟩ (υ a3x 0)).setCell ⟨g5,1,none⟩ (υ a3x 1)).setCell ⟨g5,2,none⟩ (υ a3x 2)).setCell ⟨g5,3,none⟩ (υ a3x 3)).setCell ⟨g5,4,none⟩ (υ a3y 0)).setCell ⟨g5,5,none⟩ (υ a3y 1)).setCell ⟨g5,6,none⟩ (υ a3y 2)).setCell ⟨g5,7,none⟩ (υ a3y 3)).setCell ⟨g5,8,none⟩ (υ a3z 0)).setCell ⟨g5,9,none⟩ (υ a3z 1)).setCell ⟨g5,10,none⟩ (υ a3z 2)).setCell ⟨g5,11,none⟩ (υ a3z 3)) g2 #[υ k 0,υ k 1,υ k 2,υ k 3]):=Φ (Bk.puto12 HG.out.2.1 K2'.out);have K3:Hid (Bk 165 ((((((((((((w3.setCell ⟨g5,0,none⟩ (υ a3x 0)).setCell ⟨g5,1,none⟩ (υ a3x 1)).setCell ⟨g5,2,none⟩ (υ a3x 2)).setCell ⟨g5,3,none⟩ (υ a3x 3)).setCell ⟨g5,4,none⟩ (υ a3y 0)).setCell ⟨g5,5,none⟩ (υ a3y 1)).setCell ⟨g5,6,none⟩ (υ a3y 2)).setCell ⟨g5,7,none⟩ (υ a3y 3)).setCell ⟨g5,8,none⟩ (υ a3z 0)).setCell ⟨g5,9,none⟩ (υ a3z 1)).setCell ⟨g5,10,none⟩ (υ a3z 2)).setCell ⟨g5,11,none⟩ (υ a3z 3)) g3 (fa p 16)):=Φ (Bk.puto12 HG.out.2.2.1 K3'.out);have K4:Hid (Bk 162 ((((((((((((w3.setCell ⟨g5,0,none⟩ (υ a3x 0)).setCell ⟨g5,1,none⟩ (υ a3x 1)).setCell ⟨g5,2,none⟩ (υ a3x 2)).setCell ⟨g5,3,none⟩ (υ a3x 3)).setCell ⟨g5,4,none⟩ (υ a3y 0)).setCell ⟨g5,5,none⟩ (υ a3y 1)).setCell ⟨g5,6,none⟩ (υ a3y 2)).setCell ⟨g5,7,none⟩ (υ a3y 3)).setCell ⟨g5,8,none⟩ (υ a3z 0)).setCell ⟨g5,9,none⟩ (υ a3z 1)).setCell ⟨g5,10,none⟩ (υ a3z 2)).setCell ⟨g5,11,none⟩ (υ a3z 3)) g4 #[.int .u64 0,.int .u64 0,.int .u64 0,.int .u64 0,.int .u64 0,.int .u64 0,.int .u64 0,.int .u64 0,.int .u64 0,.int .u64 0,.int .u64 0,.int .u64 0]):=Φ (Bk.puto12 HG.out.2.2.2 K4'.out);have K5:Hid (Bk 162 ((((((((((((w3.setCell ⟨g5,0,none⟩ (υ a3x 0)).setCell ⟨g5,1,none⟩ (υ a3x 1)).setCell ⟨g5,2,none⟩ (υ a3x 2)).setCell ⟨g5,3,none⟩ (υ a3x 3)).setCell ⟨g5,4,none⟩ (υ a3y 0)).setCell ⟨g5,5,none⟩ (υ a3y 1)).setCell ⟨g5,6,none⟩ (υ a3y 2)).setCell ⟨g5,7,none⟩ (υ a3y 3)).setCell ⟨g5,8,none⟩ (υ a3z 0)).setCell ⟨g5,9,none⟩ (υ a3z 1)).setCell ⟨g5,10,none⟩ (υ a3z 2)).setCell ⟨g5,11,none⟩ (υ a3z 3)) g5 #[υ a3x 0,υ a3x 1,υ a3x 2,υ a3x 3,υ a3y 0,υ a3y 1,υ a3y 2,υ a3y 3,υ a3z 0,υ a3z 1,υ a3z 2,υ a3z 3]):=Φ (Bk.put12 K5'.out);have HB:Hid (Below w.heap.size w ((((((((((((w3.setCell ⟨g5,0,none⟩ (υ a3x 0)).setCell ⟨g5,1,none⟩ (υ a3x 1)).setCell ⟨g5,2,none⟩ (υ a3x 2)).setCell ⟨g5,3,none⟩ (υ a3x 3)).setCell ⟨g5,4,none⟩ (υ a3y 0)).setCell ⟨g5,5,none⟩ (υ a3y 1)).setCell ⟨g5,6,none⟩ (υ a3y 2)).setCell ⟨g5,7,none⟩ (υ a3y 3)).setCell ⟨g5,8,none⟩ (υ a3z 0)).setCell ⟨g5,9,none⟩ (υ a3z 1)).setCell ⟨g5,10,none⟩ (υ a3z 2)).setCell ⟨g5,11,none⟩ (υ a3z 3))):=Φ (by have hb:=HB'.out;have hg:=HG.out.1.2;go_grown);generalize ((((((((((((w3.setCell ⟨g5,0,none⟩ (υ a3x 0)).setCell ⟨g5,1,none⟩ (υ a3x 1)).setCell ⟨g5,2,none⟩ (υ a3x 2)).setCell ⟨g5,3,none⟩ (υ a3x 3)).setCell ⟨g5,4,none⟩ (υ a3y 0)).setCell ⟨g5,5,none⟩ (υ a3y 1)).setCell ⟨g5,6,none⟩ (υ a3y 2)).setCell ⟨g5,7,none⟩ (υ a3y 3)).setCell ⟨g5,8,none⟩ (υ a3z 0)).setCell ⟨g5,9,none⟩ (υ a3z 1)).setCell ⟨g5,10,none⟩ (υ a3z 2)).setCell ⟨g5,11,none⟩ (υ a3z 3))=V3 at K2 K3 K4 K5 HB ⊢;clear K2' K3' K4' K5' HB';have HO4:=Φ (J.twice_ok HO3.out);have HC:=Φ (HTW.out ⟨a3x,a3y,a3z⟩ HO3.out);obtain⟨T4,hT4⟩:∃z,z=(J.mk a3x a3y a3z).twice:=⟨_,rfl⟩;rw [← hT4] at HC HO4;obtain⟨a4x,a4y,a4z⟩:=T4;have HT4:=Φ hT4;clear hT4 HO3;simp only [J.v,jn] at HC;obtain⟨⟨x0,x1,x2,x3⟩,⟨y0,y1,y2,y3⟩,z0,z1,z2,z3⟩:=K5.out.cells12;rw [rounds_succ];go_wp2_with fail;refine(keep w.heap.size w (HC.out _) HB.out (Nat.le_refl _)).mono ?_;rintro e w4 ⟨rfl,hb,hkk⟩;have K2':=Φ (K2.out.below hkk);have K3':=Φ (K3.out.below hkk);have K4':=Φ (K4.out.below hkk);have K5':=Φ (K5.out.below hkk);have HB':=Φ hb;clear hb hkk K2 K3 K4 K5 HB HC x0 x1 x2 x3 y0 y1 y2 y3 z0 z1 z2 z3;obtain⟨⟨f0,f1,f2,f3⟩,⟨f4,f5,f6,f7⟩,f8,f9,f10,f11⟩:=K5'.out.fros12;obtain⟨⟨c0,c1,c2,c3⟩,⟨c4,c5,c6,c7⟩,c8,c9,c10,c11⟩:=K5'.out.cells12;go_wp2_with fail;clear f0 f1 f2 f3 f4 f5 f6 f7 f8 f9 f10 f11 c0 c1 c2 c3 c4 c5 c6 c7 c8 c9 c10 c11;have K2:Hid (Bk 24 ((((((((((((w4.setCell ⟨g5,0,none⟩ (υ a4x 0)).setCell ⟨g5,1,none⟩ (υ a4x 1)).setCell ⟨g5,2,none⟩ (υ a4x 2)).setCell ⟨g5,3,none⟩ (υ a4x 3)).setCell ⟨g5,4,none⟩ (υ a4y 0)).setCell ⟨g5,5,none⟩ (υ a4y 1)).setCell ⟨g5,6,none⟩ (υ a4y 2)).setCell ⟨g5,7,none⟩ (υ a4y 3)).setCell ⟨g5,8,none⟩ (υ a4z 0)).setCell ⟨g5,9,none⟩ (υ a4z 1)).setCell ⟨g5,10,none⟩ (υ a4z 2)).setCell ⟨g5,11,none⟩ (υ a4z 3)) g2 #[υ k 0,υ k 1,υ k 2,υ k 3]):=Φ (Bk.puto12 HG.out.2.1 K2'.out);have K3:Hid (Bk 165 ((((((((((((w4.setCell ⟨g5,0,none⟩ (υ a4x 0)).setCell ⟨g5,1,none⟩ (υ a4x 1)).setCell ⟨g5,2,none⟩ (υ a4x 2)).setCell ⟨g5,3,none⟩ (υ a4x 3)).setCell ⟨g5,4,none⟩ (υ a4y 0)).setCell ⟨g5,5,none⟩ (υ a4y 1)).setCell ⟨g5,6,none⟩ (υ a4y 2)).setCell ⟨g5,7,none⟩ (υ a4y 3)).setCell ⟨g5,8,none⟩ (υ a4z 0)).setCell ⟨g5,9,none⟩ (υ a4z 1)).setCell ⟨g5,10,none⟩ (υ a4z 2)).setCell ⟨g5,11,none⟩ (υ a4z 3)) g3 (fa p 16)):=Φ (Bk.puto12 HG.out.2.2.1 K3'.out);have K4:Hid (Bk 162 ((((((((((((w4.setCell ⟨g5,0,none⟩ (υ a4x 0)).setCell ⟨g5,1,none⟩ (υ a4x 1)).setCell ⟨g5,2,none⟩ (υ a4x 2)).setCell ⟨g5,3,none⟩ (υ a4x 3)).setCell ⟨g5,4,none⟩ (υ a4y 0)).setCell ⟨g5,5,none⟩ (υ a4y 1)).setCell ⟨g5,6,none⟩ (υ a4y 2)).setCell ⟨g5,7,none⟩ (υ a4y 3)).setCell ⟨g5,8,none⟩ (υ a4z 0)).setCell ⟨g5,9,none⟩ (υ a4z 1)).setCell ⟨g5,10,none⟩ (υ a4z 2)).setCell ⟨g5,11,none⟩ (υ a4z 3)) g4 #[.int .u64 0,.int .u64 0,.int .u64 0,.int .u64 0,.int .u64 0,.int .u64 0,.int .u64 0,.int .u64 0,.int .u64 0,.int .u64 0,.int .u64 0,.int .u64 0]):=Φ (Bk.puto12 HG.out.2.2.2 K4'.out);have K5:Hid (Bk 162 ((((((((((((w4.setCell ⟨g5,0,none⟩ (υ a4x 0)).setCell ⟨g5,1,none⟩ (υ a4x 1)).setCell ⟨g5,2,none⟩ (υ a4x 2)).setCell ⟨g5,3,none⟩ (υ a4x 3)).setCell ⟨g5,4,none⟩ (υ a4y 0)).setCell ⟨g5,5,none⟩ (υ a4y 1)).setCell ⟨g5,6,none⟩ (υ a4y 2)).setCell ⟨g5,7,none⟩ (υ a4y 3)).setCell ⟨g5,8,none⟩ (υ a4z 0)).setCell ⟨g5,9,none⟩ (υ a4z 1)).setCell ⟨g5,10,none⟩ (υ a4z 2)).setCell ⟨g5,11,none⟩ (υ a4z 3)) g5 #[υ a4x 0,υ a4x 1,υ a4x 2,υ a4x 3,υ a4y 0,υ a4y 1,υ a4y 2,υ a4y 3,υ a4z 0,υ a4z 1,υ a4z 2,υ a4z 3]):=Φ (Bk.put12 K5'.out);have HB:Hid (Below w.heap.size w ((((((((((((w4.setCell ⟨g5,0,none⟩ (υ a4x 0)).setCell ⟨g5,1,none⟩ (υ a4x 1)).setCell ⟨g5,2,none⟩ (υ a4x 2)).setCell ⟨g5,3,none⟩ (υ a4x 3)).setCell ⟨g5,4,none⟩ (υ a4y 0)).setCell ⟨g5,5,none⟩ (υ a4y 1)).setCell ⟨g5,6,none⟩ (υ a4y 2)).setCell ⟨g5,7,none⟩ (υ a4y 3)).setCell ⟨g5,8,none⟩ (υ a4z 0)).setCell ⟨g5,9,none⟩ (υ a4z 1)).setCell ⟨g5,10,none⟩ (υ a4z 2)).setCell ⟨g5,11,none⟩ (υ a4z 3))):=Φ (by have hb:=HB'.out;have hg:=HG.out.1.2;go_grown);generalize ((((((((((((w4.setCell ⟨g5,0,none⟩ (υ a4x 0)).setCell ⟨g5,1,none⟩ (υ a4x 1)).setCell ⟨g5,2,none⟩ (υ a4x 2)).setCell ⟨g5,3,none⟩ (υ a4x 3)).setCell ⟨g5,4,none⟩ (υ a4y 0)).setCell ⟨g5,5,none⟩ (υ a4y 1)).setCell ⟨g5,6,none⟩ (υ a4y 2)).setCell ⟨g5,7,none⟩ (υ a4y 3)).setCell ⟨g5,8,none⟩ (υ a4z 0)).setCell ⟨g5,9,none⟩ (υ a4z 1)).setCell ⟨g5,10,none⟩ (υ a4z 2)).setCell ⟨g5,11,none⟩ (υ a4z 3))=V4 at K2 K3 K4 K5 HB ⊢;clear K2' K3' K4' K5' HB';have HD:=Φ (HDG.out (63 - i) (by omega));have hdd:k / 16 ^ (63 - i) % 16<16:=Nat.mod_lt _ (by decide);have HS:=Φ (HPL.out (dg k i) ⟨a4x,a4y,a4z⟩ HO4.out);have hD:Hid (p.mulN k (i+1)=(p.tim (dg k i)).plus ⟨a4x,a4y,a4z⟩):=Φ (by rw [HT4.out,HT3.out,HT2.out,HT1.out,HT0.out];rfl);have e63:(((63 - i:Nat):Nat):Int)=63 - (i:Int):=by omega
   rw [e63] at HD;clear e63;have edg:k / 16 ^ (63 - i) % 16=dg k i:=rfl;rw [edg] at HD hdd;clear edg;generalize dg k i=d at *;obtain⟨R,hR⟩:∃z,z=(p.tim d).plus ⟨a4x,a4y,a4z⟩:=⟨_,rfl⟩;rw [← hR] at HS hD;obtain⟨rx,ry,rz⟩:=R;clear hR HT0 HT1 HT2 HT3 HT4 HO4 HTW HOK HPL HDG;simp only [J.v,jn] at HS;have q0:(d:Int)<16:=by omega
   have q1:((d:Nat):Int).toNat=d:=by omega
   have qd:∀e os,(grow (redrawn V4 e) os).cell? ⟨g3,d,none⟩=some (.func (.func 158) #[.agg #[.int .u64 (lb (p.tim d).x 0:Nat),.int .u64 (lb (p.tim d).x 1:Nat),.int .u64 (lb (p.tim d).x 2:Nat),.int .u64 (lb (p.tim d).x 3:Nat),.int .u64 (lb (p.tim d).y 0:Nat),.int .u64 (lb (p.tim d).y 1:Nat),.int .u64 (lb (p.tim d).y 2:Nat),.int .u64 (lb (p.tim d).y 3:Nat),.int .u64 (lb (p.tim d).z 0:Nat),.int .u64 (lb (p.tim d).z 1:Nat),.int .u64 (lb (p.tim d).z 2:Nat),.int .u64 (lb (p.tim d).z 3:Nat)]] #[]):=fun e os=>((K3.out.regrown e os).cell d).trans ((fa_get p 16 d hdd).trans (by unfold fk;rw [if_pos hdd];rfl))
   obtain⟨⟨x0,x1,x2,x3⟩,⟨y0,y1,y2,y3⟩,z0,z1,z2,z3⟩:=K5.out.reg12;obtain⟨k0,k1,k2,k3⟩:=K2.out.reg;rw [rounds_succ];go_wp2_with fail;refine wp_region_below_tail 8 mixed (by kernel_rfl) ?_;simp only [List.take_succ_cons,List.take_zero,List.drop_succ_cons,List.drop_zero]
   iterate 3 go_big_quiet_step (fail)
   go_big_quiet_step (exact qg HD.out)
   iterate 3 (first | go_big_quiet_step (fail) | quiet_step (fail))
   go_big_quiet_step (exact qg HS.out)
   refine wpQuiet_nil ?_;intro _ hw';obtain⟨⟨dq,osq⟩,hw''⟩:=hw';subst hw'';have K2':=Φ (K2.out.regrown dq osq);have K3':=Φ (K3.out.regrown dq osq);have K4':=Φ (K4.out.regrown dq osq);have K5':=Φ (K5.out.regrown dq osq);have HB':=Φ (HB.out.trans ((below_regrown V4 dq osq).mono HB.out.size));clear K2 K3 K4 K5 HB x0 x1 x2 x3 y0 y1 y2 y3 z0 z1 z2 z3 k0 k1 k2 k3 HD HS qd;generalize grow (redrawn V4 dq) osq=V at K2' K3' K4' K5' HB' ⊢;obtain⟨⟨f0,f1,f2,f3⟩,⟨f4,f5,f6,f7⟩,f8,f9,f10,f11⟩:=K5'.out.fros12;obtain⟨⟨c0,c1,c2,c3⟩,⟨c4,c5,c6,c7⟩,c8,c9,c10,c11⟩:=K5'.out.cells12;go_wp2_with fail
   go_round
   case rel=>
    refine⟨i+1,by omega,by go_num,Bk.puto12 HG.out.2.1 K2'.out,Bk.puto12 HG.out.2.2.1 K3'.out,Bk.puto12 HG.out.2.2.2 K4'.out,?_,?_⟩
    ·rw [hD.out];exact Bk.put12 K5'.out
    ·have hb:=HB'.out;have hg:=HG.out.1.2
     go_grown
   case measure=>simp [intOf];omega
  ·obtain rfl:i=64:=by omega
   rw [← HRES.out] at K5;simp only [] at K5;obtain⟨⟨x0,x1,x2,x3⟩,⟨y0,y1,y2,y3⟩,z0,z1,z2,z3⟩:=K5.out.cells12;obtain⟨⟨f0,f1,f2,f3⟩,⟨f4,f5,f6,f7⟩,f8,f9,f10,f11⟩:=K4.out.fros12;obtain⟨⟨c0,c1,c2,c3⟩,⟨c4,c5,c6,c7⟩,c8,c9,c10,c11⟩:=K4.out.cells12;go_wp2_with fail;refine ret_cell93 rfl g4 tx ty tz rfl (Bk.put12 K4.out) rfl ⟨rfl,?_⟩;have hb:=HB.out;have hg:=HG.out.1.1
   go_grown
end Go.Proofs.YtpggkfdijmnmiaaGreat
namespace Go.Proofs.YtpggkfdijmnmiaaGreat
end Go.Proofs.YtpggkfdijmnmiaaGreat
namespace Go.Proofs.YtpggkfdijmnmiaaGreat
open Go.RowKit Go.Sort Limbs Curve
open Go.Lib renaming hid→Φ
def Po.mul (k:Nat)(p:Po): Po:=((J.begin p.x p.y p.i).mulN k 64).point
set_option maxHeartbeats 8000000 in
theorem mul_p (k:Nat)(p:Po)(hk:k<W256)(hp:p.ok)(w:World):
  Calls Tryz.prog 93 #[nv k,p.v] w fun e w'=>e = .returned (if p.on=true then .tuple #[(Po.mul k p).v,.int .i64 0] else .tuple #[Po.zero.v,.int .i64 70])∧Below w.heap.size w w':=by
 have HOP:=Φ (onj hp);have hj:=J.begin_ok (i:=p.i) hp.1 hp.2;have H1:=Φ (fun w=>begin_c p.x p.y p.i w);have H2:=Φ (fun w=>adders_c (J.begin p.x p.y p.i) hj w);have H3:=Φ (fun w=>multiple_c k (J.begin p.x p.y p.i) hk hj w);have H4:=Φ (pointj (J.mulN_ok (k:=k) hj 64));unfold Po.mul;clear hp hk hj;generalize ((J.begin p.x p.y p.i).mulN k 64).point=res at *;generalize (J.begin p.x p.y p.i).mulN k 64=pq at *;generalize J.begin p.x p.y p.i=jp at *;cases honp:p.on
 ·rw [if_neg (by simp)];rw [honp] at HOP;clear honp H1 H2 H3 H4;obtain⟨x,y,i⟩:=p;simp only [Po.v,pn,nv,num] at HOP ⊢;go_enter Tryz.func93,Tryz.ntmps93;go_wp2_with fail;refine(keep w.heap.size w (HOP.out _) (by go_grown) (Nat.le_refl _)).mono ?_;rintro e w1 ⟨rfl,hb,hk⟩;have KZ:Hid (Bk 26 w1 (w.heap.size+1+1) #[.int .u64 0,.int .u64 0,.int .u64 0,.int .u64 0,.int .u64 0,.int .u64 0,.int .u64 0,.int .u64 0,.bool false]):=Φ (Bk.below (Bk.new (by simp)) hk);have HB:=Φ hb;clear hk hb HOP;obtain⟨⟨f0,f1,f2,f3⟩,⟨f4,f5,f6,f7⟩,f8⟩:=KZ.out.fros9;obtain⟨⟨c0,c1,c2,c3⟩,⟨c4,c5,c6,c7⟩,c8⟩:=KZ.out.cells9;go_wp2_with fail;refine ret_cell51e rfl (w.heap.size+1+1) 0 0 false (.int .i64 70) rfl rfl (Bk.put9 KZ.out) rfl ⟨rfl,?_⟩;have hb:=HB.out
  go_grown
 rw [if_pos rfl];rw [honp] at HOP;clear honp;obtain⟨x,y,i⟩:=p;obtain⟨rx,ry,ri⟩:=res;generalize hf:fv jp=F at *;have HF:Hid (∃cs,F = .agg cs):=Φ ⟨_,hf.symm⟩;clear hf;obtain⟨px,py,pz⟩:=jp;obtain⟨sx,sy,sz⟩:=pq;simp only [Po.v,pn,J.v,jn,nv,num] at HOP H1 H2 H3 H4 ⊢;go_enter Tryz.func93,Tryz.ntmps93;go_wp2_with fail;refine(keep w.heap.size w (HOP.out _) (by go_grown) (Nat.le_refl _)).mono ?_;rintro e w1 ⟨rfl,hb,hk⟩;have KK:Hid (Bk 24 w1 w.heap.size #[υ k 0,υ k 1,υ k 2,υ k 3]):=Φ (Bk.below (Bk.alloc (Bk.alloc (Bk.new rfl))) hk);have KP:Hid (Bk 26 w1 (w.heap.size+1) #[υ x 0,υ x 1,υ x 2,υ x 3,υ y 0,υ y 1,υ y 2,υ y 3,.bool i]):=Φ (Bk.below (Bk.alloc (Bk.new (by simp))) hk);have KZ:Hid (Bk 26 w1 (w.heap.size+1+1) #[.int .u64 0,.int .u64 0,.int .u64 0,.int .u64 0,.int .u64 0,.int .u64 0,.int .u64 0,.int .u64 0,.bool false]):=Φ (Bk.below (Bk.new (by simp)) hk);have HB:=Φ hb;clear hk hb HOP;go_wp2_with fail;obtain⟨⟨x0,x1,x2,x3⟩,⟨y0,y1,y2,y3⟩,i0⟩:=KP.out.reg9;obtain⟨k0,k1,k2,k3⟩:=KK.out.reg;refine wp_region_below_tail 6 mixed (by kernel_rfl) ?_;simp only [List.take_succ_cons,List.take_zero,List.drop_succ_cons,List.drop_zero]
 iterate 2 go_big_quiet_step (fail)
 go_big_quiet_step (exact qg H1.out)
 go_big_quiet_step (exact qg H2.out)
 go_big_quiet_step (exact qg H3.out)
 go_big_quiet_step (exact qg H4.out)
 refine wpQuiet_nil ?_;intro _ hw';obtain⟨⟨dq,osq⟩,hw''⟩:=hw';subst hw'';have KZ3:=Φ (KZ.out.regrown dq osq);have HB3:=Φ (HB.out.trans ((below_regrown w1 dq osq).mono HB.out.size));clear KK KP KZ HB x0 x1 x2 x3 y0 y1 y2 y3 i0 k0 k1 k2 k3 H1 H2 H3 H4;generalize grow (redrawn w1 dq) osq=V at KZ3 HB3 ⊢;obtain⟨⟨f0,f1,f2,f3⟩,⟨f4,f5,f6,f7⟩,f8⟩:=KZ3.out.fros9;obtain⟨⟨c0,c1,c2,c3⟩,⟨c4,c5,c6,c7⟩,c8⟩:=KZ3.out.cells9;go_wp2_with fail;refine ret_cell51e rfl (w.heap.size+1+1) rx ry ri (.int .i64 0) rfl rfl (Bk.put9 KZ3.out) rfl ⟨rfl,?_⟩;have hb:=HB3.out
 go_grown
theorem mulp {k:Nat}{p:Po}(hk:k<W256)(hp:p.ok): ∀w,Calls Tryz.prog 93 #[nv k,p.v] w fun e w'=>e = .returned (if p.on=true then .tuple #[(Po.mul k p).v,.int .i64 0] else .tuple #[Po.zero.v,.int .i64 70])∧Below w.heap.size w w':=mul_p k p hk hp
theorem Rep.tim {p:J}{P:Pt (Fin PP)}(h:Rep p P)(hP:On aP bP P): ∀n,Rep (p.tim n) (mul P n)
 |0=>Or.inl ⟨rfl,rfl⟩
 |n+1=>(Rep.tim h hP n).plus h (mul_on hP n) hP
theorem Rep.four {q:J}{P:Pt (Fin PP)}(hP:On aP bP P){n:Nat}(h:Rep q (mul P n)): Rep q.twice.twice.twice.twice (mul P (16*n)):=by
 have h1:=h.twice (mul_on hP n);rw [mul_two hP] at h1;have h2:=h1.twice (mul_on hP _);rw [mul_two hP] at h2;have h3:=h2.twice (mul_on hP _);rw [mul_two hP] at h3;have h4:=h3.twice (mul_on hP _);rw [mul_two hP] at h4;rw [show 16*n=2*(2*(2*(2*n))) by omega];exact h4
theorem Rep.mulN {p:J}{P:Pt (Fin PP)}(h:Rep p P)(hP:On aP bP P){k:Nat}(hk:k<W256): ∀i,i≤64→Rep (p.mulN k i) (mul P (k / 16 ^ (64 - i)))
 |0,_=>by
  have:k / 16 ^ (64 - 0)=0:=Nat.div_eq_of_lt (by unfold W256 at hk;simpa using hk)
  rw [this];exact Or.inl ⟨rfl,rfl⟩
 |i+1,hi=>by
  have ih:=Rep.four hP (Rep.mulN h hP hk i (by omega))
  have:=(Rep.tim h hP (dg k i)).plus ih (mul_on hP _) (mul_on hP _)
  rw [← mul_add hP] at this;have e:dg k i+16*(k / 16 ^ (64 - i))=k / 16 ^ (64 - (i+1)):=by
   unfold dg;rw [show 64 - i=63 - i+1 by omega,show 64 - (i+1)=63 - i by omega,Nat.pow_succ,← Nat.div_div_eq_div_mul];omega
  rw [e] at this;exact this
theorem mul_is {k:Nat}{p:Po}(hk:k<W256)(hp:p.on=true): Po.mul k p=ofPt (mul (toPt p) k):=by
 obtain⟨o1,_,r1⟩:=on_iff hp
 have:=(Rep.mulN r1 o1 hk 64 (Nat.le_refl _)).point
 rw [Nat.sub_self,Nat.pow_zero,Nat.div_one] at this;exact this
end Go.Proofs.YtpggkfdijmnmiaaGreat
namespace Go.Proofs.YtpggkfdijmnmiaaGreat
open Go.RowKit Go.Sort Limbs Curve
open Go.Lib renaming hid→Φ
theorem onP {p:Po}(hp:p.on=true)(ok:p.ok): ∀w,Calls Tryz.prog 61 #[p.v] w fun e w'=>e = .returned (.bool true)∧Below w.heap.size w w':=fun w=>by
 have h:=onj ok w;rw [hp] at h;exact h
theorem addP {p q:Po}(hp:p.on=true)(okp:p.ok)(hq:q.on=true)(okq:q.ok): ∀w,Calls Tryz.prog 114 #[p.v,q.v] w fun e w'=>e = .returned (.tuple #[(p.add q).v,.int .i64 0])∧Below w.heap.size w w':=fun w=>by
 have h:=addp okp okq w;rw [if_pos ⟨hp,hq⟩] at h;exact h
theorem mulP {k:Nat}{p:Po}(hk:k<W256)(hp:p.on=true)(okp:p.ok): ∀w,Calls Tryz.prog 93 #[nv k,p.v] w fun e w'=>e = .returned (.tuple #[(Po.mul k p).v,.int .i64 0])∧Below w.heap.size w w':=fun w=>by
 have h:=mulp hk okp w;rw [if_pos hp] at h;exact h
end Go.Proofs.YtpggkfdijmnmiaaGreat
namespace Go.Proofs.YtpggkfdijmnmiaaGreat
namespace Ref
open Go.RowKit Go.Proofs.YtpggkfdijmnmiaaGreat.Digits Limbs Curve
open Go.Lib renaming hid→Φ
set_option maxHeartbeats 16000000
variable {t0 t3 t4 t5 t6 t7 t8 t9 t10 t11 t12 t13 t14 t15 t16 t17 t18 t19 t20 t21 t22 t23 t24 t25 t26 t27 t28 t29 t30 t31 t32 t33 t34 t35 t36 t37 t38 t39 t40 t41 t42 t43 t44 t45 t46 t47 t48 t49 t50:Value}{ds:List Deferred}{Q:Exit→Act→World→Prop}
theorem wpOp_skip {P:Program}{ops:Array Oper} {i:Nat}{o:Oper}{K:Act→World→Prop}{a:Act}{w:World}(hi:ops[i]?=some o)(hw:Region.wanted o (yielded ops a.tmps)=false)(h:K (a.put o.dst undef) w): wpOp P ops Q i K a w:=by
 unfold wpOp;simp only [hi];rw [if_neg (by rw [hw];decide)];exact h
theorem mp_big {n:Nat}(h:n<mP): n<big:=Nat.lt_trans h (by decide +kernel)
theorem mj_b (a b:Nat): mj a b<big:=mp_big (mj_p a b)
theorem aj_b (a b:Nat): aj a b<big:=mp_big (aj_p a b)
theorem sj_b (a b:Nat): sj a b<big:=mp_big (sj_p a b)
theorem ngj_p (a:Nat): ngj a<mP:=Nat.mod_lt _ (by decide +kernel)
theorem times_nv (v u:Value)(w:World)(a b:Nat)(ha:a<big)(hb:b<big)(h:NV w v a)(k:NV w u b): Calls Tryz.prog 117 #[v,u] w fun e w'=>∃v',e = .returned v'∧Nr w w' v' (mj a b):=by
 have H:=Φ (prod_nv 0 v u w a b ha hb h k);rw [md0,show a*b % mP=mj a b from rfl] at H;clear h k ha hb;go_enter Tryz.func117,Tryz.ntmps117;go_wp2_with fail;refine H.out.mono ?_;rintro e w1 ⟨v1,rfl,h1⟩;have H1:=Φ h1;clear h1;go_wp2_with fail;go_ret;exact⟨_,rfl,H1.out⟩
theorem plus_nv' (v u:Value)(w:World)(a b:Nat)(ha:a<big)(hb:b<big)(h:NV w v a)(k:NV w u b): Calls Tryz.prog 115 #[v,u] w fun e w'=>∃v',e = .returned v'∧Nr w w' v' (aj a b):=by
 have H:=Φ (sum_nv 0 v u w a b ha hb h k);rw [md0,show(a+b) % mP=aj a b from rfl] at H;clear h k ha hb;go_enter Tryz.func115,Tryz.ntmps115;go_wp2_with fail;refine H.out.mono ?_;rintro e w1 ⟨v1,rfl,h1⟩;have H1:=Φ h1;clear h1;go_wp2_with fail;go_ret;exact⟨_,rfl,H1.out⟩
theorem opp_c (v:Value)(w:World)(a:Nat)(ha:a<big)(h:NV w v a): Calls Tryz.prog 159 #[.int .i64 0,v] w fun e w'=>∃v',e = .returned v'∧Nr w w' v' (ngj a):=by
 have:=opp_nv 0 v w a ha h
 rwa [md0] at this
theorem minus_nv' (v u:Value)(w:World)(a b:Nat)(ha:a<big)(hb:b<big)(h:NV w v a)(k:NV w u b): Calls Tryz.prog 116 #[v,u] w fun e w'=>∃v',e = .returned v'∧Nr w w' v' (sj a b):=by
 have H:=Φ (opp_c u w b hb k);have HV:=Φ h;have HA:=Φ ha;have hs:(a+ngj b) % mP=sj a b:=by unfold ngj sj;rw [Nat.add_mod_mod]
 have HS:=Φ (fun u' w' (hv:NV w' v a) k'=>sum_nv 0 v u' w' a (ngj b) ha (mp_big (ngj_p b)) hv k');rw [md0,hs] at HS;clear h k ha hb hs;go_enter Tryz.func116,Tryz.ntmps116;go_wp2_with fail;refine(nk w.heap.size w H.out (Below.refl _ _) (Nat.le_refl _)).mono ?_;rintro e w1 ⟨v1,rfl,h1,hb,hk⟩;have HB:=Φ hb;replace HV:=Φ (HV.out.below hk);have H1:=Φ h1;clear h1 hb hk H;go_wp2_with fail;refine(nk w.heap.size w (HS.out v1 w1 HV.out H1.out) HB.out (Nat.le_refl _)).mono ?_;rintro e w2 ⟨v2,rfl,h2,hb,hk⟩;replace HB:=Φ hb;have H2:=Φ h2;clear h2 hb hk;go_wp2_with fail;go_ret;exact⟨_,rfl,⟨H2.out,HB.out⟩⟩
theorem b_nv (w:World): Calls Tryz.prog 118 #[] w fun e w'=>∃v',e = .returned v'∧Nr w w' v' BN:=by
 have H:=Φ (in_any BN (by decide +kernel) w);rw [nv_BN] at H;go_enter Tryz.func118,Tryz.ntmps118;go_wp2_with fail;refine H.out.mono ?_;rintro e w1 ⟨v1,rfl,h1⟩;have H1:=Φ h1;clear h1;go_wp2_with fail;go_ret;exact⟨_,rfl,H1.out⟩
def on3F (w0:World)(gP ux uy:Nat)(t0 t5 t6 t7 t8 t9 t10 t11 t12 t13 t14 t15 t16 t17 t24 t25 t26 t27 t28 t29 t30 t31 t32 t33 t34 t35 t36 t37 t38 t39 t40 t41 t42 t43 t44 t45 t46 t47 t48 t49 t50:Value)(ds:List Deferred)(a:Act)(w:World): Prop:=
 ∃y0 y1 y2 y3 y4 y5 y6 y7:Value,∃wm:World,a={tmps:=#[t0,.pointer (some ⟨gP,0,none⟩),.bool false,y6,y7,t5,t6,t7,t8,t9,t10,t11,t12,t13,t14,t15,t16,t17,y0,y1,y2,y3,y4,y5,t24,t25,t26,t27,t28,t29,t30,t31,t32,t33,t34,t35,t36,t37,t38,t39,t40,t41,t42,t43,t44,t45,t46,t47,t48,t49,t50],defers:=ds}∧Below w0.heap.size w0 wm∧w=wm∧NV wm y6 (ux)∧NV wm y7 (uy)
def on3I (w0:World)(gP ux uy:Nat)(t0 t5 t6 t7 t8 t9 t10 t11 t12 t13 t14 t15 t16 t17 t24 t25 t26 t27 t28 t29 t30 t31 t32 t33 t34 t35 t36 t37 t38 t39 t40 t41 t42 t43 t44 t45 t46 t47 t48 t49 t50:Value)(ds:List Deferred)(l:Array Bool)(a:Act)(w:World): Prop:=
 ∃j0 j1 j2 j3 j4 j5 j6 j7:Bool,∃x0 x1 x2 x3 x4 x5 x6 x7:Value,l=#[j0,j1,j2,j3,j4,j5,j6,j7]∧a={tmps:=#[t0,.pointer (some ⟨gP,0,none⟩),.bool false,x6,x7,t5,t6,t7,t8,t9,t10,t11,t12,t13,t14,t15,t16,t17,x0,x1,x2,x3,x4,x5,t24,t25,t26,t27,t28,t29,t30,t31,t32,t33,t34,t35,t36,t37,t38,t39,t40,t41,t42,t43,t44,t45,t46,t47,t48,t49,t50],defers:=ds}∧Below w0.heap.size w0 w∧
 (j0=true→x0 = .pointer (some ⟨gP,0,none⟩))∧(j1=true→x1 = .agg #[υ ux 0,υ ux 1,υ ux 2,υ ux 3])∧(j2=true→NV w x2 (ux))∧(j3=true→x3 = .pointer (some ⟨gP,4,none⟩))∧(j4=true→x4 = .agg #[υ uy 0,υ uy 1,υ uy 2,υ uy 3])∧(j5=true→NV w x5 (uy))∧(j6=true→NV w x6 (ux))∧(j7=true→NV w x7 (uy))
noncomputable def on3O:Array Oper:=(Tryz.f63.body.bind fun c=>findR c 3).getD #[]
theorem on3_steps (gP ux uy:Nat)(w:World)(KP:Bk 26 w gP #[υ ux 0,υ ux 1,υ ux 2,υ ux 3,υ uy 0,υ uy 1,υ uy 2,υ uy 3,.bool false])(HX:Hid (∀w,Calls Tryz.prog 45 #[.agg #[υ ux 0,υ ux 1,υ ux 2,υ ux 3]] w fun e w'=>∃v',e = .returned v'∧Nr w w' v' ux))(HY:Hid (∀w,Calls Tryz.prog 45 #[.agg #[υ uy 0,υ uy 1,υ uy 2,υ uy 3]] w fun e w'=>∃v',e = .returned v'∧Nr w w' v' uy))
  :
  ∀l a w',on3I w gP ux uy t0 t5 t6 t7 t8 t9 t10 t11 t12 t13 t14 t15 t16 t17 t24 t25 t26 t27 t28 t29 t30 t31 t32 t33 t34 t35 t36 t37 t38 t39 t40 t41 t42 t43 t44 t45 t46 t47 t48 t49 t50 ds l a w'→∀i∈Region.ready .any on3O l,wpOp Tryz.prog on3O Q i (fun a' w''=>on3I w gP ux uy t0 t5 t6 t7 t8 t9 t10 t11 t12 t13 t14 t15 t16 t17 t24 t25 t26 t27 t28 t29 t30 t31 t32 t33 t34 t35 t36 t37 t38 t39 t40 t41 t42 t43 t44 t45 t46 t47 t48 t49 t50 ds (l.setIfInBounds i true) a' w'') a w':=by
 simp only [on3O,findR,Tryz.f63,Option.bind_some,Option.or,Option.getD,Nat.reduceEqDiff,if_true,if_false,reduceIte];rintro l a w' hI i hi;rw [mem_ready] at hi;obtain⟨hu,oo,ho,hd⟩:=hi;have hin:i<8:=by
  have:=(Array.getElem?_eq_some_iff.1 ho).1
  simpa using this
 have hcase:i=0∨i=1∨i=2∨i=3∨i=4∨i=5∨i=6∨i=7:=by omega
 obtain⟨j0,j1,j2,j3,j4,j5,j6,j7,x0,x1,x2,x3,x4,x5,x6,x7,rfl,rfl,hB,h0,h1,h2,h3,h4,h5,h6,h7⟩:=hI;replace h0:=Φ h0;replace h1:=Φ h1;replace h2:=Φ h2;replace h3:=Φ h3;replace h4:=Φ h4;replace h5:=Φ h5;replace h6:=Φ h6;replace h7:=Φ h7;rcases hcase with rfl | rfl | rfl | rfl | rfl | rfl | rfl | rfl
 all_goals obtain rfl:=Option.some.inj ho
 all_goals simp [Region.binds] at hu hd
 ·clear hd;refine wpOp_of rfl rfl ?_;go_simp;unfold on3I;exact⟨true,j1,j2,j3,j4,j5,j6,j7,_,x1,x2,x3,x4,x5,x6,x7,rfl,rfl,hB,fun _=>rfl,h1.out,h2.out,h3.out,h4.out,h5.out,h6.out,h7.out⟩
 ·have d0:j0=true:=by simp [hd]
  obtain rfl:=h0.out d0;subst d0;clear hd;refine wpOp_of rfl rfl ?_;have i0:w'.cell? ⟨gP,0,none⟩=some (υ ux 0):=(KP.below hB).cell 0;have i1:w'.cell? ⟨gP,1,none⟩=some (υ ux 1):=(KP.below hB).cell 1;have i2:w'.cell? ⟨gP,2,none⟩=some (υ ux 2):=(KP.below hB).cell 2;have i3:w'.cell? ⟨gP,3,none⟩=some (υ ux 3):=(KP.below hB).cell 3;go_simp;unfold on3I;exact⟨true,true,j2,j3,j4,j5,j6,j7,_,_,x2,x3,x4,x5,x6,x7,rfl,rfl,hB,h0.out,fun _=>rfl,h2.out,h3.out,h4.out,h5.out,h6.out,h7.out⟩
 ·have d1:j1=true:=by simp [hd]
  obtain rfl:=h1.out d1;subst d1;clear hd;refine wpOp_of rfl rfl ?_;go_simp;go_at_call 45;refine(nk w.heap.size w (HX.out _) hB (Nat.le_refl _)).mono ?_;rintro e w2 ⟨v',rfl,hn',hB2,hb2⟩;unfold on3I;exact⟨j0,true,true,j3,j4,j5,j6,j7,x0,_,_,x3,x4,x5,x6,x7,rfl,rfl,hB2,h0.out,h1.out,fun _=>hn',h3.out,h4.out,fun hj=>(h5.out hj).below hb2,fun hj=>(h6.out hj).below hb2,fun hj=>(h7.out hj).below hb2⟩
 ·clear hd;refine wpOp_of rfl rfl ?_;go_simp;unfold on3I;exact⟨j0,j1,j2,true,j4,j5,j6,j7,x0,x1,x2,_,x4,x5,x6,x7,rfl,rfl,hB,h0.out,h1.out,h2.out,fun _=>rfl,h4.out,h5.out,h6.out,h7.out⟩
 ·have d3:j3=true:=by simp [hd]
  obtain rfl:=h3.out d3;subst d3;clear hd;refine wpOp_of rfl rfl ?_;have i4:w'.cell? ⟨gP,4,none⟩=some (υ uy 0):=(KP.below hB).cell 4;have i5:w'.cell? ⟨gP,5,none⟩=some (υ uy 1):=(KP.below hB).cell 5;have i6:w'.cell? ⟨gP,6,none⟩=some (υ uy 2):=(KP.below hB).cell 6;have i7:w'.cell? ⟨gP,7,none⟩=some (υ uy 3):=(KP.below hB).cell 7;go_simp;unfold on3I;exact⟨j0,j1,j2,true,true,j5,j6,j7,x0,x1,x2,_,_,x5,x6,x7,rfl,rfl,hB,h0.out,h1.out,h2.out,h3.out,fun _=>rfl,h5.out,h6.out,h7.out⟩
 ·have d2:j2=true:=by simp [hd]
  have d4:j4=true:=by simp [hd]
  obtain rfl:=h4.out d4;subst d2 d4;clear hd;refine wpOp_of rfl rfl ?_;go_simp;go_at_call 45;refine(nk w.heap.size w (HY.out _) hB (Nat.le_refl _)).mono ?_;rintro e w2 ⟨v',rfl,hn',hB2,hb2⟩;unfold on3I;exact⟨j0,j1,true,j3,true,true,j6,j7,x0,x1,x2,x3,_,_,x6,x7,rfl,rfl,hB2,h0.out,h1.out,fun hj=>(h2.out hj).below hb2,h3.out,h4.out,fun _=>hn',fun hj=>(h6.out hj).below hb2,fun hj=>(h7.out hj).below hb2⟩
 ·have d0:j0=true:=by simp [hd]
  have d1:j1=true:=by simp [hd]
  have d2:j2=true:=by simp [hd]
  have d5:j5=true:=by simp [hd]
  obtain rfl:=h0.out d0;obtain rfl:=h1.out d1;subst d0 d1;subst d2 d5;clear hd;refine wpOp_of rfl rfl ?_;go_simp;unfold on3I;exact⟨true,true,true,j3,j4,true,true,j7,_,_,x2,x3,x4,x5,_,x7,rfl,rfl,hB,h0.out,h1.out,h2.out,h3.out,h4.out,h5.out,fun _=>h2.out rfl,h7.out⟩
 ·have d0:j0=true:=by simp [hd]
  have d1:j1=true:=by simp [hd]
  have d2:j2=true:=by simp [hd]
  have d3:j3=true:=by simp [hd]
  have d4:j4=true:=by simp [hd]
  have d5:j5=true:=by simp [hd]
  have d6:j6=true:=by simp [hd]
  obtain rfl:=h0.out d0;obtain rfl:=h1.out d1;obtain rfl:=h3.out d3;obtain rfl:=h4.out d4;subst d0 d1;subst d2 d3;subst d4 d5 d6;clear hd;refine wpOp_of rfl rfl ?_;go_simp;unfold on3I;exact⟨true,true,true,true,true,true,true,true,_,_,x2,_,_,x5,x6,_,rfl,rfl,hB,h0.out,h1.out,h2.out,h3.out,h4.out,h5.out,h6.out,fun _=>h5.out rfl⟩
theorem on3_fin (gP ux uy:Nat)(w:World) : ∀l a w1,on3I w gP ux uy t0 t5 t6 t7 t8 t9 t10 t11 t12 t13 t14 t15 t16 t17 t24 t25 t26 t27 t28 t29 t30 t31 t32 t33 t34 t35 t36 t37 t38 t39 t40 t41 t42 t43 t44 t45 t46 t47 t48 t49 t50 ds l a w1→Region.ready .any on3O l=[]→on3F w gP ux uy t0 t5 t6 t7 t8 t9 t10 t11 t12 t13 t14 t15 t16 t17 t24 t25 t26 t27 t28 t29 t30 t31 t32 t33 t34 t35 t36 t37 t38 t39 t40 t41 t42 t43 t44 t45 t46 t47 t48 t49 t50 ds a w1:=by
 simp only [on3O,findR,Tryz.f63,Option.bind_some,Option.or,Option.getD,Nat.reduceEqDiff,if_true,if_false,reduceIte];rintro l a w1 hI hr;obtain⟨j0,j1,j2,j3,j4,j5,j6,j7,x0,x1,x2,x3,x4,x5,x6,x7,rfl,rfl,hB,h0,h1,h2,h3,h4,h5,h6,h7⟩:=hI;have hn:=fun i=>List.eq_nil_iff_forall_not_mem.1 hr i
 clear hr;cases j0;exact(ab hn 0).elim
 cases j1;exact(ab hn 1).elim
 cases j2;exact(ab hn 2).elim
 cases j3;exact(ab hn 3).elim
 cases j4;exact(ab hn 4).elim
 cases j5;exact(ab hn 5).elim
 cases j6;exact(ab hn 6).elim
 cases j7;exact(ab hn 7).elim
 exact⟨_,_,_,_,_,_,_,_,w1,rfl,hB,rfl,h6 rfl,h7 rfl⟩
theorem on3 (gP ux uy:Nat)(w:World)(KP:Bk 26 w gP #[υ ux 0,υ ux 1,υ ux 2,υ ux 3,υ uy 0,υ uy 1,υ uy 2,υ uy 3,.bool false])(HX:Hid (∀w,Calls Tryz.prog 45 #[.agg #[υ ux 0,υ ux 1,υ ux 2,υ ux 3]] w fun e w'=>∃v',e = .returned v'∧Nr w w' v' ux))(HY:Hid (∀w,Calls Tryz.prog 45 #[.agg #[υ uy 0,υ uy 1,υ uy 2,υ uy 3]] w fun e w'=>∃v',e = .returned v'∧Nr w w' v' uy)) {K:Act→World→Prop} 
  (h:∀(y0 y1 y2 y3 y4 y5 y6 y7:Value) (w1:World) (hb:Below w.heap.size w w1) (hn6:NV w1 y6 (ux)) (hn7:NV w1 y7 (uy)),K {tmps:=#[t0,.pointer (some ⟨gP,0,none⟩),.bool false,y6,y7,t5,t6,t7,t8,t9,t10,t11,t12,t13,t14,t15,t16,t17,y0,y1,y2,y3,y4,y5,t24,t25,t26,t27,t28,t29,t30,t31,t32,t33,t34,t35,t36,t37,t38,t39,t40,t41,t42,t43,t44,t45,t46,t47,t48,t49,t50],defers:=ds} w1) :
  (Code.region 3 on3O true).wp Tryz.prog (Exit.then K Q) {tmps:=#[t0,.pointer (some ⟨gP,0,none⟩),.bool false,t3,t4,t5,t6,t7,t8,t9,t10,t11,t12,t13,t14,t15,t16,t17,t18,t19,t20,t21,t22,t23,t24,t25,t26,t27,t28,t29,t30,t31,t32,t33,t34,t35,t36,t37,t38,t39,t40,t41,t42,t43,t44,t45,t46,t47,t48,t49,t50],defers:=ds} w:=by
 have hsz:on3O.size=8:=by kernel_rfl
 refine wp_region_any (show Tryz.prog.follows .mixedOrders=true from by kernel_rfl) ?_;rw [hsz];refine wpAny_inv (I:=on3I w gP ux uy t0 t5 t6 t7 t8 t9 t10 t11 t12 t13 t14 t15 t16 t17 t24 t25 t26 t27 t28 t29 t30 t31 t32 t33 t34 t35 t36 t37 t38 t39 t40 t41 t42 t43 t44 t45 t46 t47 t48 t49 t50 ds) (on3_steps gP ux uy w KP HX HY) (fun l a w' hI hr=>?_) 8 _ _ _ (by decide) ?_
 ·obtain⟨y0,y1,y2,y3,y4,y5,y6,y7,wm,rfl,hb,rfl,hn6,hn7⟩:=on3_fin gP ux uy w l a w' hI hr;exact h _ _ _ _ _ _ _ _ _ hb hn6 hn7
 ·exact⟨false,false,false,false,false,false,false,false,t18,t19,t20,t21,t22,t23,t3,t4,rfl,rfl,⟨rfl,rfl,rfl,Nat.le_refl _,fun _ _=>rfl⟩,(fun h=>by cases h),(fun h=>by cases h),(fun h=>by cases h),(fun h=>by cases h),(fun h=>by cases h),(fun h=>by cases h),(fun h=>by cases h),(fun h=>by cases h)⟩
theorem right_ref (x:Nat): aj (sj (mj x (mj x x)) (mj 3 x)) BN=rightN x:=by
 have e1:mj x (mj x x)=mj (mj x x) x:=by unfold mj;rw [Nat.mul_comm]
 have e2:mj 3 x=tj x:=by
  unfold mj tj aj;rw [Nat.mod_add_mod,show x+x+x=3*x by omega]
 unfold rightN;rw [e1,e2]
theorem three_nv (w:World): NV (w.alloc (.cells #[.int .u32 3] 111)) (.slice (some ⟨w.heap.size,0,none⟩) 1 1) 3:=
 ⟨[3],us_dr (l:=[3]) (Go.heap_alloc_new w _) (by decide),by unfold Dig;decide,by unfold Trim;decide,rfl⟩
theorem cmp_ge {a b:Nat}(h:b≤a): decide (0≤cmpN a b)=true:=by unfold cmpN;rw [if_neg (by omega)];split<;>rfl
theorem cmp_eq0 (a b:Nat): (cmpN a b == 0)=decide (a=b):=by
 unfold cmpN
 by_cases hab:a<b
 ·rw [if_pos hab];simp;omega
 ·rw [if_neg hab]
  by_cases hba:b<a
  ·rw [if_pos hba];simp;omega
  ·rw [if_neg hba];simp;omega
theorem ron_any (p:Po)(hp:p.ok)(w:World):
  Calls Tryz.prog 63 #[p.v] w fun e w'=>e = .returned (.bool p.on)∧Below w.heap.size w w':=by
 obtain⟨ux,uy,i⟩:=p;obtain⟨hx,hy⟩:=hp;simp only [] at hx hy;unfold Po.v;simp only [];cases i
 ·have HX:=Φ (fun w=>in_any ux hx w);have HY:=Φ (fun w=>in_any uy hy w);have HMR:=Φ (fun w=>modref_any 0 w);rw [md0] at HMR;obtain⟨res,hres⟩:∃z,z=(Po.mk ux uy false).on:=⟨_,rfl⟩;rw [← hres];have HRES:Hid (res=decide (ux<mP∧uy<mP∧mj uy uy=rightN ux)):=Φ hres;have HBX:Hid (ux<big∧uy<big):=Φ ⟨w_big hx,w_big hy⟩;clear hres hx hy;simp only [pn,nv,num] at HX HY ⊢;go_enter Tryz.func63,Tryz.ntmps63;go_wp2_with fail;have KP:Hid (Bk 26 (w.alloc (.cells #[υ ux 0,υ ux 1,υ ux 2,υ ux 3,υ uy 0,υ uy 1,υ uy 2,υ uy 3,.bool false] 26)) w.heap.size #[υ ux 0,υ ux 1,υ ux 2,υ ux 3,υ uy 0,υ uy 1,υ uy 2,υ uy 3,.bool false]):=Φ (Bk.new rfl);have HB:Hid (Below w.heap.size w (w.alloc (.cells #[υ ux 0,υ ux 1,υ ux 2,υ ux 3,υ uy 0,υ uy 1,υ uy 2,υ uy 3,.bool false] 26))):=Φ (by go_grown);generalize (w.alloc (.cells #[υ ux 0,υ ux 1,υ ux 2,υ ux 3,υ uy 0,υ uy 1,υ uy 2,υ uy 3,.bool false] 26))=w0 at KP HB ⊢;obtain⟨⟨a0,a1,a2,a3⟩,⟨a4,a5,a6,a7⟩,a8⟩:=KP.out.cells9;go_wp2_with fail;clear a0 a1 a2 a3 a4 a5 a6 a7 a8;refine on3 w.heap.size ux uy w0 KP.out HX HY ?_;intros;rename_i v3 v4 w1 hb1 hn3 hn4;replace HB:=Φ (HB.out.trans (hb1.mono HB.out.size));have NX:=Φ hn3;have NY:=Φ hn4;clear hn3 hn4 hb1 KP HX HY;go_wp2_with fail
  by_cases hx:ux<mP
  ·by_cases hy:uy<mP
   ·have HE:Hid (res=decide (mj uy uy=rightN ux)):=Φ (by rw [HRES.out];simp [hx,hy]);have CX:=cmpN_lt hx;have CY:=cmpN_lt hy;have HCX:=Φ CX;have HCY:=Φ CY;clear hx hy CX CY HRES;refine(nk w.heap.size w (HMR.out _) HB.out (Nat.le_refl _)).mono ?_;rintro e w2 ⟨vm,rfl,hn,hb,hk⟩;replace NX:=Φ (NX.out.below hk);replace NY:=Φ (NY.out.below hk);have NM:=Φ hn;replace HB:=Φ hb;clear hn hb hk;go_wp2_with fail;have HC:=Φ (cmp_nv _ _ _ _ _ NX.out NM.out);rw [HCX.out] at HC;refine(HC.out).mono ?_;rintro e w3 ⟨rfl,hs⟩;replace NX:=Φ (NX.out.below hs.below0);replace NY:=Φ (NY.out.below hs.below0);replace NM:=Φ (NM.out.below hs.below0);replace HB:=Φ (hs.below HB.out);clear hs;go_wp2_with fail;clear NM;clear HC;refine(nk w.heap.size w (HMR.out _) HB.out (Nat.le_refl _)).mono ?_;rintro e w4 ⟨vm,rfl,hn,hb,hk⟩;replace NX:=Φ (NX.out.below hk);replace NY:=Φ (NY.out.below hk);have NM:=Φ hn;replace HB:=Φ hb;clear hn hb hk;go_wp2_with fail;have HC:=Φ (cmp_nv _ _ _ _ _ NY.out NM.out);rw [HCY.out] at HC;refine(HC.out).mono ?_;rintro e w5 ⟨rfl,hs⟩;replace NX:=Φ (NX.out.below hs.below0);replace NY:=Φ (NY.out.below hs.below0);replace NM:=Φ (NM.out.below hs.below0);replace HB:=Φ (hs.below HB.out);clear hs;go_wp2_with fail;clear NM;clear HC;refine(nk w.heap.size w (times_nv _ _ _ ux ux HBX.out.1 HBX.out.1 NX.out NX.out) HB.out (Nat.le_refl _)).mono ?_;rintro e w6 ⟨va,rfl,hn,hb,hk⟩;replace NX:=Φ (NX.out.below hk);replace NY:=Φ (NY.out.below hk);have NA:=Φ hn;replace HB:=Φ hb;clear hn hb hk;go_wp2_with fail;refine(nk w.heap.size w (times_nv _ _ _ ux (mj ux ux) HBX.out.1 (mj_b _ _) NX.out NA.out) HB.out (Nat.le_refl _)).mono ?_;rintro e w7 ⟨vb,rfl,hn,hb,hk⟩;replace NX:=Φ (NX.out.below hk);replace NY:=Φ (NY.out.below hk);replace NA:=Φ (NA.out.below hk);have NC:=Φ hn;replace HB:=Φ hb;clear hn hb hk;go_wp2_with fail;clear NA;have N3:=Φ (three_nv w7);have hal:=al_below w7 (.cells #[.int .u32 3] 111);replace NX:=Φ (NX.out.below hal);replace NY:=Φ (NY.out.below hal);replace NC:=Φ (NC.out.below hal);replace HB:=Φ (HB.out.trans (hal.mono HB.out.size));clear hal;refine(nk w.heap.size w (times_nv _ _ _ 3 ux (by decide +kernel) HBX.out.1 N3.out NX.out) HB.out (Nat.le_refl _)).mono ?_;rintro e w8 ⟨vd,rfl,hn,hb,hk⟩;replace NX:=Φ (NX.out.below hk);replace NY:=Φ (NY.out.below hk);replace NC:=Φ (NC.out.below hk);replace N3:=Φ (N3.out.below hk);have ND:=Φ hn;replace HB:=Φ hb;clear hn hb hk;go_wp2_with fail;clear N3;refine(nk w.heap.size w (minus_nv' _ _ _ (mj ux (mj ux ux)) (mj 3 ux) (mj_b _ _) (mj_b _ _) NC.out ND.out) HB.out (Nat.le_refl _)).mono ?_;rintro e w9 ⟨ve,rfl,hn,hb,hk⟩;replace NX:=Φ (NX.out.below hk);replace NY:=Φ (NY.out.below hk);replace NC:=Φ (NC.out.below hk);replace ND:=Φ (ND.out.below hk);have NE:=Φ hn;replace HB:=Φ hb;clear hn hb hk;go_wp2_with fail;clear NC ND;refine(nk w.heap.size w (b_nv _) HB.out (Nat.le_refl _)).mono ?_;rintro e w10 ⟨vf,rfl,hn,hb,hk⟩;replace NX:=Φ (NX.out.below hk);replace NY:=Φ (NY.out.below hk);replace NE:=Φ (NE.out.below hk);have NF:=Φ hn;replace HB:=Φ hb;clear hn hb hk;go_wp2_with fail;refine(nk w.heap.size w (plus_nv' _ _ _ (sj (mj ux (mj ux ux)) (mj 3 ux)) BN (sj_b _ _) (by decide +kernel) NE.out NF.out) HB.out (Nat.le_refl _)).mono ?_;rintro e w11 ⟨vg,rfl,hn,hb,hk⟩;replace NX:=Φ (NX.out.below hk);replace NY:=Φ (NY.out.below hk);replace NE:=Φ (NE.out.below hk);replace NF:=Φ (NF.out.below hk);have NG:=Φ hn;replace HB:=Φ hb;clear hn hb hk;rw [right_ref] at NG;clear NE NF;go_wp2_with fail;refine(nk w.heap.size w (times_nv _ _ _ uy uy HBX.out.2 HBX.out.2 NY.out NY.out) HB.out (Nat.le_refl _)).mono ?_;rintro e w12 ⟨vh,rfl,hn,hb,hk⟩;replace NX:=Φ (NX.out.below hk);replace NY:=Φ (NY.out.below hk);replace NG:=Φ (NG.out.below hk);have NH:=Φ hn;replace HB:=Φ hb;clear hn hb hk;go_wp2_with fail;have HC:=Φ (cmp_nv _ _ _ _ _ NH.out NG.out);have hcm:=cmp_eq0 (mj uy uy) (rightN ux);rw [← HE.out] at hcm;generalize cmpN (mj uy uy) (rightN ux)=cm at HC hcm;refine(HC.out).mono ?_;rintro e w13 ⟨rfl,hs⟩;replace NX:=Φ (NX.out.below hs.below0);replace NY:=Φ (NY.out.below hs.below0);replace NG:=Φ (NG.out.below hs.below0);replace NH:=Φ (NH.out.below hs.below0);replace HB:=Φ (hs.below HB.out);clear hs;go_wp2_with fail;go_ret;exact⟨rfl,HB.out⟩
   ·have HE:Hid (res=false):=Φ (by rw [HRES.out];simp [hy]);have HCX:=Φ (cmpN_lt hx);have HCY:=Φ (cmp_ge (Nat.le_of_not_lt hy));clear hx hy HRES;have hE:=HE.out;clear HE;subst hE;refine(nk w.heap.size w (HMR.out _) HB.out (Nat.le_refl _)).mono ?_;rintro e w2 ⟨vm,rfl,hn,hb,hk⟩;replace NX:=Φ (NX.out.below hk);replace NY:=Φ (NY.out.below hk);have NM:=Φ hn;replace HB:=Φ hb;clear hn hb hk;go_wp2_with fail;have HC:=Φ (cmp_nv _ _ _ _ _ NX.out NM.out);rw [HCX.out] at HC;refine(HC.out).mono ?_;rintro e w3 ⟨rfl,hs⟩;replace NX:=Φ (NX.out.below hs.below0);replace NY:=Φ (NY.out.below hs.below0);replace NM:=Φ (NM.out.below hs.below0);replace HB:=Φ (hs.below HB.out);clear hs;go_wp2_with fail;clear NM;clear HC;refine(nk w.heap.size w (HMR.out _) HB.out (Nat.le_refl _)).mono ?_;rintro e w4 ⟨vm,rfl,hn,hb,hk⟩;replace NX:=Φ (NX.out.below hk);replace NY:=Φ (NY.out.below hk);have NM:=Φ hn;replace HB:=Φ hb;clear hn hb hk;go_wp2_with fail;have HC:=Φ (cmp_nv _ _ _ _ _ NY.out NM.out);have hcm:=of_decide_eq_true HCY.out;generalize cmpN uy mP=cm at HC hcm;refine(HC.out).mono ?_;rintro e w5 ⟨rfl,hs⟩;replace NX:=Φ (NX.out.below hs.below0);replace NY:=Φ (NY.out.below hs.below0);replace NM:=Φ (NM.out.below hs.below0);replace HB:=Φ (hs.below HB.out);clear hs;go_wp2_with fail;go_ret;exact⟨rfl,HB.out⟩
  ·have HE:Hid (res=false):=Φ (by rw [HRES.out];simp [hx]);have HCX:=Φ (cmp_ge (Nat.le_of_not_lt hx));clear hx HRES;have hE:=HE.out;clear HE;subst hE;refine(nk w.heap.size w (HMR.out _) HB.out (Nat.le_refl _)).mono ?_;rintro e w2 ⟨vm,rfl,hn,hb,hk⟩;replace NX:=Φ (NX.out.below hk);replace NY:=Φ (NY.out.below hk);have NM:=Φ hn;replace HB:=Φ hb;clear hn hb hk;go_wp2_with fail;have HC:=Φ (cmp_nv _ _ _ _ _ NX.out NM.out);have hcm:=of_decide_eq_true HCX.out;generalize cmpN ux mP=cm at HC hcm;refine(HC.out).mono ?_;rintro e w3 ⟨rfl,hs⟩;replace NX:=Φ (NX.out.below hs.below0);replace NY:=Φ (NY.out.below hs.below0);replace NM:=Φ (NM.out.below hs.below0);replace HB:=Φ (hs.below HB.out);clear hs;go_wp2_with fail;go_ret;exact⟨rfl,HB.out⟩
 ·have hon:(Po.mk ux uy true).on=decide (ux=0∧uy=0):=rfl;rw [hon];have HEX:Hid (∀w,(Op.equalIn 10000 24 (.agg #[υ ux 0,υ ux 1,υ ux 2,υ ux 3]) (.agg #[.int .u64 0,.int .u64 0,.int .u64 0,.int .u64 0])).run Tryz.prog w = .ok (decide (ux=0)) w):=Φ (fun w=>eqN ux 0 hx (by decide +kernel) w);have HEY:Hid (∀w,(Op.equalIn 10000 24 (.agg #[υ uy 0,υ uy 1,υ uy 2,υ uy 3]) (.agg #[.int .u64 0,.int .u64 0,.int .u64 0,.int .u64 0])).run Tryz.prog w = .ok (decide (uy=0)) w):=Φ (fun w=>eqN uy 0 hy (by decide +kernel) w);clear hon hx hy
  by_cases h0:ux=0
  ·have hd:decide (ux=0∧uy=0)=decide (uy=0):=by simp [h0]
   rw [hd];rw [decide_eq_true h0] at HEX;clear hd h0;simp only [pn,nv,num];generalize decide (uy=0)=res at HEY ⊢;go_enter Tryz.func63,Tryz.ntmps63;go_wp2_with fail;have KP:Hid (Bk 26 (w.alloc (.cells #[υ ux 0,υ ux 1,υ ux 2,υ ux 3,υ uy 0,υ uy 1,υ uy 2,υ uy 3,.bool true] 26)) w.heap.size #[υ ux 0,υ ux 1,υ ux 2,υ ux 3,υ uy 0,υ uy 1,υ uy 2,υ uy 3,.bool true]):=Φ (Bk.new rfl);have HB:Hid (Below w.heap.size w (w.alloc (.cells #[υ ux 0,υ ux 1,υ ux 2,υ ux 3,υ uy 0,υ uy 1,υ uy 2,υ uy 3,.bool true] 26))):=Φ (by go_grown);generalize (w.alloc (.cells #[υ ux 0,υ ux 1,υ ux 2,υ ux 3,υ uy 0,υ uy 1,υ uy 2,υ uy 3,.bool true] 26))=w0 at KP HB ⊢;obtain⟨⟨a0,a1,a2,a3⟩,⟨a4,a5,a6,a7⟩,a8⟩:=KP.out.cells9;go_wp2_with fail;rw [HEX.out];simp only [Result.andThen];rw [Oper.upon_value];go_wp2_with fail;rw [HEY.out];simp only [Result.andThen];rw [Oper.upon_value];go_wp2_with fail;go_ret;exact⟨rfl,HB.out⟩
  ·have hd:decide (ux=0∧uy=0)=false:=by simp [h0]
   rw [hd];rw [decide_eq_false h0] at HEX;clear hd h0;simp only [pn,nv,num];clear HEY;go_enter Tryz.func63,Tryz.ntmps63;go_wp2_with fail;have KP:Hid (Bk 26 (w.alloc (.cells #[υ ux 0,υ ux 1,υ ux 2,υ ux 3,υ uy 0,υ uy 1,υ uy 2,υ uy 3,.bool true] 26)) w.heap.size #[υ ux 0,υ ux 1,υ ux 2,υ ux 3,υ uy 0,υ uy 1,υ uy 2,υ uy 3,.bool true]):=Φ (Bk.new rfl);have HB:Hid (Below w.heap.size w (w.alloc (.cells #[υ ux 0,υ ux 1,υ ux 2,υ ux 3,υ uy 0,υ uy 1,υ uy 2,υ uy 3,.bool true] 26))):=Φ (by go_grown);generalize (w.alloc (.cells #[υ ux 0,υ ux 1,υ ux 2,υ ux 3,υ uy 0,υ uy 1,υ uy 2,υ uy 3,.bool true] 26))=w0 at KP HB ⊢;obtain⟨⟨a0,a1,a2,a3⟩,⟨a4,a5,a6,a7⟩,a8⟩:=KP.out.cells9;go_wp2_with fail;rw [HEX.out];simp only [Result.andThen];rw [Oper.upon_value];go_wp2_with fail
   skip
   skip
   skip
   skip
   go_ret;exact⟨rfl,HB.out⟩
end Ref
section
open Go.RowKit Limbs
def pubOf (k:Nat): Po:=Po.mul k G
def z9:Array Value:=#[.int .u64 0,.int .u64 0,.int .u64 0,.int .u64 0,.int .u64 0,.int .u64 0,.int .u64 0,.int .u64 0,.bool false]
def TW (W:World)(x y:Nat)(i:Bool)(b1 b2 b6 b7:Bool)(y6:Value)(w':World): Prop:=
 Below W.heap.size W w'∧(b6=true→∃g:Nat,y6 = .pointer (some ⟨g,0,none⟩)∧W.heap.size≤g∧Bk 26 w' g (if b7 then cs9 x y i else z9))
theorem TW.on {W:World}{x y:Nat}{i b1 b2 b6 b7 c1 c2:Bool}{y6:Value}{w' w2:World}(h:TW W x y i b1 b2 b6 b7 y6 w')(hb:Below w'.heap.size w' w2): TW W x y i c1 c2 b6 b7 y6 w2:=
 ⟨h.1.trans (hb.mono h.1.size),fun e=>by
  obtain⟨g,e1,e2,e3⟩:=h.2 e;exact⟨g,e1,e2,e3.below hb⟩⟩
set_option maxHeartbeats 8000000 in
theorem timesBase_any (k:Nat)(hk:k<W256)(w:World): Calls Tryz.prog 42 #[nv k] w fun e w'=>e = .returned (pubOf k).v∧Below w.heap.size w w':=by
 have hm:=mulP hk G_on G_ok;have HM:Hid (∀w,Calls Tryz.prog 93 #[nv k,G.v] w fun e w'=>e = .returned (.tuple #[(pubOf k).v,.int .i64 0])∧Below w.heap.size w w'):=Lib.hid hm;have HB:=Lib.hid kBase;rw [vG] at HM;clear hm;generalize pubOf k=q at *;obtain⟨x,y,i⟩:=q;unfold Po.v pn at HM ⊢;simp only [nv,num] at HM ⊢;go_enter Tryz.func42,Tryz.ntmps42;go_wp2_with fail;have K1:Bk 24 ((w.alloc (.cells #[υ k 0,υ k 1,υ k 2,υ k 3] 24)).alloc (.cells z9 26)) w.heap.size #[υ k 0,υ k 1,υ k 2,υ k 3]:=Bk.alloc (Bk.new rfl);have K2:Bk 26 ((w.alloc (.cells #[υ k 0,υ k 1,υ k 2,υ k 3] 24)).alloc (.cells z9 26)) (w.heap.size+1) z9:=Bk.new (by simp);have hb0:Below w.heap.size w ((w.alloc (.cells #[υ k 0,υ k 1,υ k 2,υ k 3] 24)).alloc (.cells z9 26)):=by go_grown
 have hs0:((w.alloc (.cells #[υ k 0,υ k 1,υ k 2,υ k 3] 24)).alloc (.cells z9 26)).heap.size=w.heap.size+2:=by simp
 unfold z9 at K1 K2 hb0 hs0;generalize ((w.alloc (.cells #[υ k 0,υ k 1,υ k 2,υ k 3] 24)).alloc _)=W at K1 K2 hb0 hs0 ⊢;refine Pl.tB (TW W x y i) w.heap.size k x y i W ?c1 ?c2 ?c6 ?c7 ?lk ?w0 ?h
 case c1=>
  intro b6 y6 w1 h;refine(HB.out w1).mono ?_;rintro e w2 ⟨rfl,hb⟩;exact⟨rfl,h.on hb⟩
 case c2=>
  intro b6 y6 w1 h;refine(HM.out w1).mono ?_;rintro e w2 ⟨rfl,hb⟩;exact⟨rfl,h.on hb⟩
 case c6=>
  intro b1 b2 y6 w1 h;exact⟨h.1.trans ((show Below w1.heap.size w1 (w1.alloc (.cells z9 26)) by go_grown).mono h.1.size),fun _=>⟨_,rfl,h.1.size,Bk.new rfl⟩⟩
 case c7=>
  intro y6 w1 h;obtain⟨g,rfl,hg,hk9⟩:=h.2 rfl;refine⟨g,_,_,_,_,_,_,_,_,_,rfl,hk9,?_,fun _=>⟨g,rfl,hg,Bk.put9 hk9⟩⟩;have hb:=h.1
  go_grown
 case lk=>
  intro b1 b2 b6 b7 y6 w1 h;have K:=K1.below h.1;exact K.cells
 case w0=>exact⟨⟨rfl,rfl,rfl,Nat.le_refl _,fun _ _=>rfl⟩,fun h=>by cases h⟩
 case h=>
 intro y6 w1 h;obtain⟨g,rfl,hg,hk9⟩:=h.2 rfl;have K3:=K2.below h.1;obtain⟨⟨c0,c1,c2,c3⟩,⟨c4,c5,c6,c7⟩,c8⟩:=hk9.cells9;obtain⟨⟨d0,d1,d2,d3⟩,⟨d4,d5,d6,d7⟩,d8⟩:=K3.cells9;obtain⟨⟨f0,f1,f2,f3⟩,⟨f4,f5,f6,f7⟩,f8⟩:=K3.fros9;have hb1:=hb0.trans (h.1.mono hb0.size);go_wp2_with fail;refine ret_cell51 rfl (w.heap.size+1) x y i rfl (Bk.put9 K3) rfl ⟨rfl,?_⟩
 go_grown
end
section
open Go.RowKit Limbs
set_option maxHeartbeats 8000000
theorem public_yes (k:Nat)(hk:0<k∧k<mN)(w:World): Calls Tryz.prog 11 #[nv k] w fun e w'=>e = .returned (.tuple #[(pubOf k).v,.int .i64 0])∧Below w.heap.size w w':=by
 have hkW:k<W256:=Nat.lt_trans hk.2 (by decide);have hi:=inRange_any k hkW;rw [decide_eq_true hk] at hi;have HI:=Lib.hid hi;have HT:=Lib.hid (timesBase_any k hkW);clear hi hkW hk;generalize pubOf k=q at *;obtain⟨x,y,i⟩:=q;unfold Po.v pn at HT ⊢;simp only [nv,num] at HI HT ⊢;go_enter Tryz.func11,Tryz.ntmps11;go_wp2_with fail;refine(keep w.heap.size w (HI.out _) (by go_grown) (Nat.le_refl _)).mono ?_;rintro e w1 ⟨rfl,hb1,hk1⟩;have K1:Bk 24 w1 w.heap.size (cs4 k):=Bk.below (Bk.alloc (Bk.new rfl)) hk1;have K2:Bk 26 w1 (w.heap.size+1) z9:=Bk.below (Bk.new (by simp)) hk1;obtain⟨a0,a1,a2,a3⟩:=K1.cells;clear hk1;go_wp2_with fail;refine(keep w.heap.size w (HT.out _) hb1 (Nat.le_refl _)).mono ?_;rintro e w2 ⟨rfl,hb2,hk2⟩;have K3:=K2.below hk2;obtain⟨⟨d0,d1,d2,d3⟩,⟨d4,d5,d6,d7⟩,d8⟩:=K3.cells9;obtain⟨⟨f0,f1,f2,f3⟩,⟨f4,f5,f6,f7⟩,f8⟩:=K3.fros9;clear a0 a1 a2 a3 K1 K2 hk2;go_wp2_with fail;refine ret_cell51e rfl (w.heap.size+1) x y i (.int .i64 0) rfl rfl (Bk.put9 K3) rfl ⟨rfl,?_⟩
 go_grown
theorem public_no (k:Nat)(hkW:k<W256)(hk:¬(0<k∧k<mN))(w:World): Calls Tryz.prog 11 #[nv k] w fun e w'=>e = .returned (.tuple #[pn 0 0 false,.int .i64 80])∧Below w.heap.size w w':=by
 have hi:=inRange_any k hkW;rw [decide_eq_false hk] at hi;have HI:=Lib.hid hi;clear hi hkW hk;simp only [nv,num] at HI ⊢;go_enter Tryz.func11,Tryz.ntmps11;go_wp2_with fail;refine(keep w.heap.size w (HI.out _) (by go_grown) (Nat.le_refl _)).mono ?_;rintro e w1 ⟨rfl,hb1,hk1⟩;have K3:Bk 26 w1 (w.heap.size+1) z9:=Bk.below (Bk.new (by simp)) hk1;obtain⟨⟨d0,d1,d2,d3⟩,⟨d4,d5,d6,d7⟩,d8⟩:=K3.cells9;obtain⟨⟨f0,f1,f2,f3⟩,⟨f4,f5,f6,f7⟩,f8⟩:=K3.fros9;clear hk1;go_wp2_with fail;refine ret_cell51e rfl (w.heap.size+1) 0 0 false (.int .i64 80) rfl rfl (Bk.put9 K3) rfl ⟨rfl,?_⟩
 go_grown
theorem sign_no (k:Nat)(hkW:k<W256)(hk:¬(0<k∧k<mN))(s:ByteArray)(w:World): Calls Tryz.prog 14 #[nv k,.string s] w fun e w'=>e = .returned (.tuple #[.string ⟨#[]⟩,.int .i64 80])∧Below w.heap.size w w':=by
 have hi:=inRange_any k hkW;rw [decide_eq_false hk] at hi;have HI:=Lib.hid hi;clear hi hkW hk;simp only [nv,num] at HI ⊢;go_enter Tryz.func14,Tryz.ntmps14;go_wp2_with fail;refine(keep w.heap.size w (HI.out _) (by go_grown) (Nat.le_refl _)).mono ?_;rintro e w1 ⟨rfl,hb1,hk1⟩;clear hk1;go_wp2_with fail;go_returns;exact⟨rfl,hb1⟩
theorem vouch_none {B:Nat}{w:World}{r:Nat}{ks:List (Nat×List UInt8)}(h:Rg B w r ks)(hl:ks.length≤1000000)(n:List UInt8)(s m:ByteArray)(hf:findK ks n=none): Calls Tryz.prog 26 #[kpt r,.string ⟨n.toArray⟩,.string s,.string m] w fun e w'=>e = .returned (.bool false)∧Below w.heap.size w w':=by
 have hfi:=find_any h hl n;rw [hf] at hfi;unfold kpt fV at hfi;have HF:=Lib.hid hfi;clear hfi h hf;unfold kpt;go_enter Tryz.func26,Tryz.ntmps26;go_wp2_with fail;refine HF.out.mono ?_;rintro e w1 ⟨rfl,rfl⟩;go_wp2_with fail;go_returns;exact⟨rfl,Below.refl _ _⟩
theorem vouch_some {B:Nat}{w:World}{r:Nat}{ks:List (Nat×List UInt8)}(h:Rg B w r ks)(hl:ks.length≤1000000)(n s m:List UInt8)(hs:s.length≤140737488351232)(hm:m.length≤140737488351232)(k:Nat×List UInt8)(hk:k∈ks)(hf:findK ks n=some k.1): Calls Tryz.prog 26 #[kpt r,.string ⟨n.toArray⟩,.string ⟨s.toArray⟩,.string ⟨m.toArray⟩] w fun e w'=>e = .returned (.bool (decide (Hs.macL (macOf k.2) s=m)))∧Below w.heap.size w w':=by
 have hfi:=find_any h hl n;rw [hf] at hfi;unfold kpt fV kpt at hfi;have HF:=Lib.hid hfi;obtain⟨a,c,h1,h2,h3⟩:=h;have c2:=(h3 k hk).cell 2;unfold keyC at c2;simp only [List.getElem?_toArray,List.getElem?_cons_succ,List.getElem?_cons_zero] at c2;have hml:(macOf k.2).length=32:=macL_len _ _;have HM:=Lib.hid (fun w=>Hs.Mac_any (macOf k.2) s (by omega) (by omega) w);have HS:=Lib.hid (fun w=>Hs.same_any (Hs.macL (macOf k.2) s) m (by rw [macL_len];decide) (by omega) w);clear hfi hf h1 h2 h3 hml hk hs hm;unfold kpt;go_enter Tryz.func26,Tryz.ntmps26;go_wp2_with fail;refine HF.out.mono ?_;rintro e w1 ⟨rfl,rfl⟩;go_wp2_with fail;refine(HM.out _).mono ?_;rintro e w2 ⟨rfl,hb2⟩;go_wp2_with fail;refine(HS.out _).mono ?_;rintro e w3 ⟨rfl,rfl⟩;go_wp2_with fail;go_returns;exact⟨rfl,hb2⟩
theorem verify_empty (x y:Nat)(i:Bool)(s:ByteArray)(w:World): Calls Tryz.prog 16 #[pn x y i,.string s,.string ⟨#[]⟩] w fun e w'=>e = .returned (.bool false)∧Below w.heap.size w w':=by
 unfold pn;go_enter Tryz.func16,Tryz.ntmps16;go_wp2_with fail;go_returns;exact⟨rfl,by go_grown⟩
end
end Go.Proofs.YtpggkfdijmnmiaaGreat
