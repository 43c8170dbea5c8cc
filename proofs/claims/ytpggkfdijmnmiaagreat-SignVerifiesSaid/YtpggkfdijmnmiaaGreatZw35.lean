/- SignVerifies: the walk of the law's function. Condition: the -/
import Derived.Test.YtpggkfdijmnmiaaGreatZw34
import Derived.Test.YtpggkfdijmnmiaaGreatZw29
import Derived.Test.YtpggkfdijmnmiaaGreatZw28
import Derived.Test.YtpggkfdijmnmiaaGreatZw31
import Derived.Test.YtpggkfdijmnmiaaGreatZw19
set_option linter.unusedVariables false
set_option linter.unusedSimpArgs false
set_option maxRecDepth 100000
namespace Go.Proofs.YtpggkfdijmnmiaaGreat
namespace Ref
open Go.RowKit Digits Limbs Curve
open Go.Lib renaming hid→Φ
set_option maxHeartbeats 32000000
abbrev z3:Array Value:=#[.slice none 0 0,.slice none 0 0,.slice none 0 0]
def Mb (p:Po)(k j:Nat): Pt (Fin PP):=mul (toPt p) (k / 2 ^ j)
theorem Mb_on {p:Po}(hp:p.on=true)(k j:Nat): On aP bP (Mb p k j):=mul_on (on_iff hp).1 _
theorem Mb_dbl {p:Po}(hp:p.on=true)(k j:Nat)(h:k / 2 ^ j=2*(k / 2 ^ (j+1))): sum inv aP (Mb p k (j+1)) (Mb p k (j+1))=Mb p k j:=by
 unfold Mb;rw [mul_two (on_iff hp).1,← h]
theorem Mb_one {p:Po}(hp:p.on=true)(k j:Nat)(h:k / 2 ^ j=2*(k / 2 ^ (j+1))+1): sum inv aP (sum inv aP (Mb p k (j+1)) (Mb p k (j+1))) (toPt p)=Mb p k j:=by
 unfold Mb;rw [mul_two (on_iff hp).1,h];rfl
theorem Mb_far (p:Po){k j:Nat}(h:k<2 ^ j): Mb p k j = .far:=by
 unfold Mb;rw [Nat.div_eq_of_lt h];rfl
theorem LR.mk {w:World}{ax ay az:Option Addr}{nx cx ny cy nz cz:Nat}{q:J}(hx:NV w (.slice ax nx cx) q.x)(hy:NV w (.slice ay ny cy) q.y)(hz:NV w (.slice az nz cz) q.z): LR w (.agg #[.slice ax nx cx,.slice ay ny cy,.slice az nz cz]) q:=
 ⟨_,_,_,_,_,_,_,_,_,rfl,hx,hy,hz⟩
theorem LR.nv {w:World}{ax ay az:Option Addr}{nx cx ny cy nz cz:Nat}{q:J}(h:LR w (.agg #[.slice ax nx cx,.slice ay ny cy,.slice az nz cz]) q): NV w (.slice ax nx cx) q.x∧NV w (.slice ay ny cy) q.y∧NV w (.slice az nz cz) q.z:=by
 obtain⟨a1,n1,c1,a2,n2,c2,a3,n3,c3,he,h1,h2,h3⟩:=h;simp only [Value.agg.injEq,Array.mk.injEq,List.cons.injEq,Value.slice.injEq,and_true] at he;obtain⟨⟨rfl,rfl,rfl⟩,⟨rfl,rfl,rfl⟩,rfl,rfl,rfl⟩:=he;exact⟨h1,h2,h3⟩
theorem LR.shape {w:World}{v:Value}{q:J}(h:LR w v q): ∃ax nx cx ay ny cy az nz cz,v = .agg #[.slice ax nx cx,.slice ay ny cy,.slice az nz cz]:=by
 obtain⟨a1,n1,c1,a2,n2,c2,a3,n3,c3,he,_⟩:=h;exact⟨a1,n1,c1,a2,n2,c2,a3,n3,c3,he⟩
theorem LR.put {w:World}{ax ay az ex ey ez:Option Addr}{nx cx ny cy nz cz m1 d1 m2 d2 m3 d3 g:Nat}{q:J}{d e f:Value}(h:LR w (.agg #[.slice ax nx cx,.slice ay ny cy,.slice az nz cz]) q)(hk:Bk 150 w g #[.slice ex m1 d1,.slice ey m2 d2,.slice ez m3 d3]):
  LR (((World.setCell w ⟨g,0,none⟩ (d)).setCell ⟨g,1,none⟩ (e)).setCell ⟨g,2,none⟩ (f)) (.agg #[.slice ax nx cx,.slice ay ny cy,.slice az nz cz]) q:=
 LR.mk (put3s h.nv.1 hk) (put3s h.nv.2.1 hk) (put3s h.nv.2.2 hk)
inductive FK (w:World):Value→Pt (Fin PP)→Prop
 |far:FK w (.agg z3) .far
 |aff {v:Value} {q:J} {i X Y:Fin PP} (h:LR w v q) (hn:Near q i X Y):FK w v (.aff X Y)
theorem FK.below {w w':World}{v:Value}{P:Pt (Fin PP)}(h:FK w v P)(hb:Below w.heap.size w w'): FK w' v P:=by
 cases h with
 |far=>exact .far
 |aff h hn=>exact .aff (h.below hb) hn
theorem FK.put {w:World}{v:Value}{ex ey ez:Option Addr}{m1 d1 m2 d2 m3 d3 g:Nat}{P:Pt (Fin PP)}{d e f:Value}(h:FK w v P)(hk:Bk 150 w g #[.slice ex m1 d1,.slice ey m2 d2,.slice ez m3 d3]):
  FK (((World.setCell w ⟨g,0,none⟩ (d)).setCell ⟨g,1,none⟩ (e)).setCell ⟨g,2,none⟩ (f)) v P:=by
 cases h with
 |far=>exact .far
 |aff h hn=>
  obtain⟨ax,nx,cx,ay,ny,cy,az,nz,cz,rfl⟩:=h.shape;exact .aff (h.put hk) hn
theorem FK.fs {w:World}{v:Value}{P:Pt (Fin PP)}(h:FK w v P): FS w v P:=by
 cases h with
 |far=>exact .inl ⟨rfl,rfl⟩
 |aff h hn=>exact .inr ⟨_,_,_,_,h,hn,rfl⟩
structure FI (w wr:World)(gP gR gO:Nat)(bx bb ax ay az:Option Addr)(mx dx my dy nx cx ny cy nz cz:Nat)(p:Po)(P:Pt (Fin PP)): Prop where
 kp:Bk 72 wr gP #[.bool false,.slice bx mx dx,.slice bb my dy]
 kr:Bk 72 wr gR #[.bool false,.slice none 0 0,.slice none 0 0]
 ko:Bk 150 wr gO #[.slice ax nx cx,.slice ay ny cy,.slice az nz cz]
 px:NV wr (.slice bx mx dx) p.x
 py:NV wr (.slice bb my dy) p.y
 fk:FK wr (.agg #[.slice ax nx cx,.slice ay ny cy,.slice az nz cz]) P
 below:Below w.heap.size w wr
def Gs (w:World)(gP gR gO:Nat): Prop:=gP≠gO∧gR≠gO∧gP≠gR∧w.heap.size≤gP∧w.heap.size≤gR∧w.heap.size≤gO
section
variable {w wr:World} {gP gR gO:Nat} {bx bb ax ay az:Option Addr} {mx dx my dy nx cx ny cy nz cz:Nat} {p:Po} {P:Pt (Fin PP)}
theorem FI.down {w':World}(h:FI w wr gP gR gO bx bb ax ay az mx dx my dy nx cx ny cy nz cz p P)(hb:Below wr.heap.size wr w'): FI w w' gP gR gO bx bb ax ay az mx dx my dy nx cx ny cy nz cz p P:=
 ⟨h.kp.below hb,h.kr.below hb,h.ko.below hb,h.px.below hb,h.py.below hb,h.fk.below hb,h.below.trans (hb.mono h.below.size)⟩
theorem FI.store {ex ey ez:Option Addr}{m1 d1 m2 d2 m3 d3:Nat}{P':Pt (Fin PP)}(h:FI w wr gP gR gO bx bb ax ay az mx dx my dy nx cx ny cy nz cz p P)(hg:Gs w gP gR gO)(hf:FK wr (.agg #[.slice ex m1 d1,.slice ey m2 d2,.slice ez m3 d3]) P'):
  FI w (((World.setCell wr ⟨gO,0,none⟩ (.slice ex m1 d1)).setCell ⟨gO,1,none⟩ (.slice ey m2 d2)).setCell ⟨gO,2,none⟩ (.slice ez m3 d3)) gP gR gO bx bb ex ey ez mx dx my dy m1 d1 m2 d2 m3 d3 p P':=
 ⟨Bk.puto3 hg.1 h.kp,Bk.puto3 hg.2.1 h.kr,Bk.put3 h.ko,put3s h.px h.ko,put3s h.py h.ko,hf.put h.ko,by have hb:=h.below;have hl:=hg.2.2.2.2.2;go_grown⟩
theorem FI.other {ex ey ez:Option Addr}{m1 d1 m2 d2 m3 d3 gM:Nat}{d e f:Value}(h:FI w wr gP gR gO bx bb ax ay az mx dx my dy nx cx ny cy nz cz p P)(hg:gP≠gM∧gR≠gM∧gO≠gM∧w.heap.size≤gM)(hk:Bk 150 wr gM #[.slice ex m1 d1,.slice ey m2 d2,.slice ez m3 d3]):
  FI w (((World.setCell wr ⟨gM,0,none⟩ (d)).setCell ⟨gM,1,none⟩ (e)).setCell ⟨gM,2,none⟩ (f)) gP gR gO bx bb ax ay az mx dx my dy nx cx ny cy nz cz p P:=
 ⟨Bk.puto3 hg.1 h.kp,Bk.puto3 hg.2.1 h.kr,Bk.puto3 hg.2.2.1 h.ko,put3s h.px hk,put3s h.py hk,h.fk.put hk,by have hb:=h.below;have hl:=hg.2.2.2;go_grown⟩
theorem FK.put64 {w:World}{v:Value}{b:Bool}{ex ey:Option Addr}{m1 d1 m2 d2 g:Nat}{P:Pt (Fin PP)}{d e f:Value}(h:FK w v P)(hk:Bk 72 w g #[.bool b,.slice ex m1 d1,.slice ey m2 d2]):
  FK (((World.setCell w ⟨g,0,none⟩ (d)).setCell ⟨g,1,none⟩ (e)).setCell ⟨g,2,none⟩ (f)) v P:=by
 cases h with
 |far=>exact .far
 |aff h hn=>
  obtain⟨ax,nx,cx,ay,ny,cy,az,nz,cz,rfl⟩:=h.shape;exact .aff (LR.mk (put3_ex h.nv.1 hk) (put3_ex h.nv.2.1 hk) (put3_ex h.nv.2.2 hk)) hn
theorem FI.other64 {b:Bool}{ex ey:Option Addr}{m1 d1 m2 d2 gQ:Nat}{d e f:Value}(h:FI w wr gP gR gO bx bb ax ay az mx dx my dy nx cx ny cy nz cz p P)(hg:gP≠gQ∧gR≠gQ∧gO≠gQ∧w.heap.size≤gQ)(hk:Bk 72 wr gQ #[.bool b,.slice ex m1 d1,.slice ey m2 d2]):
  FI w (((World.setCell wr ⟨gQ,0,none⟩ (d)).setCell ⟨gQ,1,none⟩ (e)).setCell ⟨gQ,2,none⟩ (f)) gP gR gO bx bb ax ay az mx dx my dy nx cx ny cy nz cz p P:=
 ⟨Bk.puto3 hg.1 h.kp,Bk.puto3 hg.2.1 h.kr,Bk.puto3 hg.2.2.1 h.ko,put3_ex h.px hk,put3_ex h.py hk,h.fk.put64 hk,by have hb:=h.below;have hl:=hg.2.2.2;go_grown⟩
end
theorem near_fresh {x y:Nat}(hx:x<mP)(hy:y<mP): Near ⟨x,y,1⟩ 1 (c x) (c y):=by
 refine⟨⟨hx,hy,show 1<mP by decide +kernel⟩,?_,?_,?_⟩
 ·show c 1*1=1
  rw [mul_one_x];rfl
 ·show c x=c x*(1*1)
  rw [mul_one_x,mul_one_x]
 ·show c y=c y*(1*1*1)
  rw [mul_one_x,mul_one_x,mul_one_x]
theorem near_of {x y:Fin PP}: Near ⟨x.val,y.val,1⟩ 1 x y:=by
 have h:=near_fresh (x:=x.val) (y:=y.val) x.isLt y.isLt;have e:∀z:Fin PP,c z.val=z:=fun z=>by
  apply Fin.ext
  rw [val_c,Nat.mod_eq_of_lt z.isLt]
 rwa [e,e] at h
theorem fast7_on (v u:Value)(p:Po)(k:Nat)(hp:p.on=true)(hpi:p.i=false)(hk:k<big)(w:World)(h:RP w v p)(q:NV w u k): Calls Tryz.prog 68 #[v,u] w fun e w'=>∃v',e = .returned v'∧RP w' v' (mulB p k 0)∧Below w.heap.size w w':=by
 obtain⟨r,h1,h2,h3,h4⟩:=q;have hlen:=len_big h3 h4 hk;obtain⟨g,cap,rfl,hc,hcm,hg,hca⟩:=h1;have HCA:=Φ hca;have HD:=Φ h2;have HV:=Φ h4;have HG:=Φ hg;obtain⟨L,hL⟩:∃L,L=r.length:=⟨_,rfl⟩;rw [← hL] at hlen ⊢;have HL:=Φ hL;have HFAR:Hid (Mb p k (16*L) = .far):=Φ (Mb_far p (by
  have:=val_lt r h2
  rw [h4,← hL,show(65536:Nat)=2 ^ 16 from rfl,← Nat.pow_mul] at this;exact this))
 have HP:=Φ hp;have HTP:Hid (toPt p = .aff (c p.x) (c p.y)):=Φ (by unfold toPt;rw [if_neg (by rw [hpi];decide)]);have HPL:Hid (p.x<mP∧p.y<mP):=Φ (by
  obtain⟨x,y,i⟩:=p;cases hpi
  exact on_lt hp)
 obtain⟨bx,mx,dx,bb,my,dy,rfl,hn⟩:=h;have HN:=Φ (hn hpi);rw [hpi];clear hca h2 h3 h4 hg hL hc hcm hn hpi hk hp;go_enter Tryz.func68,Tryz.ntmps68;go_wp2_with fail;have F0:Hid (FI w (((w.alloc (.cells #[.bool false,.slice bx mx dx,.slice bb my dy] 72)).alloc (.cells #[.bool false,.slice none 0 0,.slice none 0 0] 72)).alloc (.cells z3 150)) w.heap.size (w.heap.size+1) (w.heap.size+1+1) bx bb none none none mx dx my dy 0 0 0 0 0 0 p (Mb p k (16*L))):=Φ (by
  have hb:Below w.heap.size w (((w.alloc (.cells #[.bool false,.slice bx mx dx,.slice bb my dy] 72)).alloc (.cells #[.bool false,.slice none 0 0,.slice none 0 0] 72)).alloc (.cells z3 150)):=by go_grown
  rw [HFAR.out];exact⟨Bk.alloc (Bk.alloc (Bk.new rfl)),Bk.alloc (Bk.new (by simp)),Bk.new (by simp),HN.out.1.below hb,HN.out.2.below hb,.far,hb⟩)
 have GS:Hid (Gs w w.heap.size (w.heap.size+1) (w.heap.size+1+1)):=Φ (by unfold Gs;omega);generalize (((w.alloc (.cells #[.bool false,.slice bx mx dx,.slice bb my dy] 72)).alloc (.cells #[.bool false,.slice none 0 0,.slice none 0 0] 72)).alloc (.cells z3 150))=w0 at F0 ⊢;generalize w.heap.size+1+1=gO at F0 GS ⊢;generalize w.heap.size+1=gR at F0 GS ⊢
 go_loopw [6] (fun i wr=>∃(j:Nat) (ax ay az:Option Addr) (nx cx ny cy nz cz:Nat),j≤16*L∧i = .int .i64 ((j:Int) - 1)∧Hid (FI w wr w.heap.size gR gO bx bb ax ay az mx dx my dy nx cx ny cy nz cz p (Mb p k j))) (fun i _=>(intOf i+1).toNat)
 case atStart=>exact⟨16*L,none,none,none,0,0,0,0,0,0,Nat.le_refl _,by go_num,F0⟩
 case round=>
  clear F0 HFAR HN;obtain⟨j,ax,ay,az,nx,cx,ny,cy,nz,cz,hj,rfl,F⟩:=hrel;obtain⟨o0,o1,o2⟩:=Bk.cells3 F.out.ko
  by_cases h0:j=0
  ·subst h0;go_wp2_with fail;refine(end_fs _ _ wr F.out.fk.fs).mono ?_;rintro e w1 ⟨v',rfl,hr,hb⟩;have FE:=Φ (F.out.down hb);clear F o0 o1 o2 hb;obtain⟨bx1,mx1,dx1,bb1,my1,dy1,rfl,hn1⟩:=hr;obtain⟨ti1,hti1⟩:∃b,b=(ofPt (Mb p k 0)).i:=⟨_,rfl⟩;rw [← hti1];have HR1:Hid (RP w1 (.agg #[.bool ti1,.slice bx1 mx1 dx1,.slice bb1 my1 dy1]) (mulB p k 0)):=Φ (RP.mk hti1 hn1);clear hn1 hti1;obtain⟨c0,c1,c2⟩:=Bk.cells3 FE.out.kr;obtain⟨f0,f1,f2⟩:=Bk.fros3 FE.out.kr;go_wp2_with fail;refine ret_cell64 rfl gR (.bool ti1) (.slice bx1 mx1 dx1) (.slice bb1 my1 dy1) rfl (Bk.put3 FE.out.kr) rfl ⟨_,rfl,HR1.out.put FE.out.kr,?_⟩;have hb:=FE.out.below;have hg:=GS.out.2.2.2.2.1
   go_grown
  ·obtain⟨q,rfl⟩:∃q,j=q+1:=⟨j - 1,by omega⟩;have e1:((q+1:Nat):Int) - 1=(q:Int):=by omega
   rw [e1];have hkr:q / 16<r.length:=by have:=HL.out;omega
   have HBIT:=Φ (bit_at HD.out hkr);have hca:=HCA.out (q / 16) hkr;have hxl:=HD.out _ (List.getElem_mem hkr);have HHALF:=Φ (show k / 2 ^ q=2*(k / 2 ^ (q+1))+k / 2 ^ q % 2 by
    rw [Nat.pow_succ,← Nat.div_div_eq_div_mul];omega)
   rw [HV.out] at HBIT;generalize r[q / 16]=d at hca hxl HBIT;have HCX:=Φ hca;clear hca;have t1:Int.tdiv (q:Int) 16=((q / 16:Nat):Int):=by rw [Int.tdiv_eq_ediv_of_nonneg (by omega)];omega
   have t2:Int.tmod (q:Int) 16=((q % 16:Nat):Int):=by rw [Int.tmod_eq_emod_of_nonneg (by omega)];omega
   have t3:(((q / 16:Nat):Nat):Int)<(L:Int):=by omega
   have IC:Hid (∀X,Below w.heap.size w X→X.cell? ⟨g,q / 16,none⟩=some (.int .u32 ((d:Nat):Int))):=Φ (fun X hX=>(hX.cell (p:=⟨g,q / 16,none⟩) HG.out).trans HCX.out);clear HCX;generalize q / 16=dq at t1 t3 IC hkr;have hs:q % 16<16:=Nat.mod_lt _ (by decide);obtain⟨s,hss⟩:∃s,s=q % 16:=⟨_,rfl⟩;rw [← hss] at t2 hs HBIT;clear hss;obtain⟨b,hbb⟩:∃b,b=k / 2 ^ q % 2:=⟨_,rfl⟩;have hb1:bits .and .u32 ((d:Int) / 2 ^ s) 1=(b:Int):=by
    have e5:(d:Int) / 2 ^ s=((d / 2 ^ s:Nat):Int):=by rw [Int.natCast_ediv,Int.natCast_pow];rfl
    have e6:d / 2 ^ s≤d:=Nat.div_le_self _ _
    have:=u32_and_nat (d / 2 ^ s) 1 (by omega) (by decide)
    rw [show((1:Nat):Int)=1 from rfl,Nat.and_one_is_mod,HBIT.out] at this;rw [e5,this,hbb]
   have hb01:b=0∨b=1:=by omega
   have HE:=Φ (show k / 2 ^ q=2*(k / 2 ^ (q+1))+b by rw [hbb];exact HHALF.out);clear hbb HHALF;obtain⟨P1,hP1⟩:∃P1,P1=Mb p k (q+1):=⟨_,rfl⟩;rw [← hP1] at F;have HON:Hid (On aP bP P1):=Φ (by rw [hP1];exact Mb_on HP.out _ _);have HM0:Hid (b=0→sum inv aP P1 P1=Mb p k q):=Φ (fun h=>by rw [hP1];exact Mb_dbl HP.out k q (by rw [HE.out,h,Nat.add_zero]));have HM1:Hid (b=1→sum inv aP (sum inv aP P1 P1) (toPt p)=Mb p k q):=Φ (fun h=>by rw [hP1];exact Mb_one HP.out k q (by rw [HE.out,h]));clear hP1 HE;rcases F.out.fk.fs with ⟨hv,rfl⟩ | ⟨J,ij,X,Y,hlr,hnear,rfl⟩
   ·simp only [Value.agg.injEq,Array.mk.injEq,List.cons.injEq,Value.slice.injEq,and_true] at hv;obtain⟨⟨rfl,rfl,rfl⟩,⟨rfl,rfl,rfl⟩,rfl,rfl,rfl⟩:=hv;have ic:=IC.out wr F.out.below;rcases hb01 with rfl | rfl
    ·have hb2:bits .and .u32 ((d:Int) / 2 ^ s) 1=0:=hb1;clear hb1;have hm:=HM0.out rfl;rw [show sum inv aP (.far:Pt (Fin PP)) .far = .far from rfl] at hm;rw [hm] at F;clear hm HM0 HM1 IC;go_wp2_with fail
     go_roundw
     case rel=>exact⟨q,none,none,none,0,0,0,0,0,0,by omega,by go_num,F⟩
     case measure=>simp [intOf]<;>omega
    ·have hb2:bits .and .u32 ((d:Int) / 2 ^ s) 1=1:=hb1;clear hb1;have hm:=HM1.out rfl;rw [show sum inv aP (.far:Pt (Fin PP)) .far = .far from rfl,show sum inv aP (.far:Pt (Fin PP)) (toPt p)=toPt p from rfl,HTP.out] at hm;have HMQ:=Φ hm;clear hm HM0 HM1;obtain⟨p0,p1,p2⟩:=Bk.cells3 F.out.kp;have F1:Hid (FI w (wr.alloc (.cells #[.int .u32 1] 111)) w.heap.size gR gO bx bb none none none mx dx my dy 0 0 0 0 0 0 p .far):=Φ (F.out.down (al_below _ _));have F2:=Φ (F1.out.store GS.out (.aff (LR.mk (q:=⟨p.x,p.y,1⟩) F1.out.px F1.out.py (nv_one wr)) (near_fresh HPL.out.1 HPL.out.2)));rw [HMQ.out] at F2;obtain⟨v0,v1,v2⟩:=Bk.cells3 F1.out.ko;obtain⟨f0,f1,f2⟩:=Bk.fros3 F1.out.ko;clear F F1 IC;go_wp2_with fail
     go_roundw
     case rel=>exact⟨q,bx,bb,some ⟨wr.heap.size,0,none⟩,mx,dx,my,dy,1,1,by omega,by go_num,F2⟩
     case measure=>simp [intOf]<;>omega
   ·obtain⟨nxx,nyy,nzz⟩:=hlr.nv;have hl0:=(len_nv nzz).2.2 (near_end hnear).1;obtain⟨mz,rfl⟩:∃mz,nz=mz+1:=⟨nz - 1,by omega⟩;clear hl0 nxx nyy nzz;obtain⟨i2,X2,Y2,hn2,hs2⟩:=near_dbl hnear HON.out;have HT:=Φ (twice7 _ J hnear.1 wr hlr);have ND:=Φ hn2;have HM0':Hid (b=0→ .aff X2 Y2=Mb p k q):=Φ (fun h=>by rw [← hs2];exact HM0.out h);have HM1':Hid (b=1→sum inv aP (.aff X2 Y2) (toPt p)=Mb p k q):=Φ (fun h=>by rw [← hs2];exact HM1.out h);have HO2:Hid (On aP bP (.aff X2 Y2)):=Φ (by rw [← hs2];exact on_sum fit HON.out HON.out);clear hn2 hs2 hlr hnear HM0 HM1 HON;go_wp2_with fail;refine HT.out.mono ?_;rintro e w1 ⟨v1,rfl,hlr,hb⟩;obtain⟨ex,m1,d1,ey,m2,d2,ez,m3,d3,rfl⟩:=hlr.shape;have F1:=Φ (F.out.down hb);have L1:=Φ hlr;have F2:=Φ (F1.out.store GS.out (.aff L1.out ND.out));have L2:=Φ (L1.out.put (d:= .slice ex m1 d1) (e:= .slice ey m2 d2) (f:= .slice ez m3 d3) F1.out.ko);have ic:=IC.out _ F2.out.below;clear F hb hlr HT o0 o1 o2;obtain⟨o0,o1,o2⟩:=Bk.cells3 F1.out.ko;obtain⟨f0,f1,f2⟩:=Bk.fros3 F1.out.ko;have hl1:=(len_nv L1.out.nv.2.2).2.2 (near_end ND.out).1;obtain⟨mz1,rfl⟩:∃mz1,m3=mz1+1:=⟨m3 - 1,by omega⟩;clear hl1;rcases hb01 with rfl | rfl
    ·have hb2:bits .and .u32 ((d:Int) / 2 ^ s) 1=0:=hb1;clear hb1;have hm:=HM0'.out rfl;rw [hm] at F2;clear hm HM0' HM1' IC L1 L2 F1;go_wp2_with fail
     go_roundw
     case rel=>exact⟨q,ex,ey,ez,m1,d1,m2,d2,mz1+1,d3,by omega,by go_num,F2⟩
     case measure=>simp [intOf]<;>omega
    ·have hb2:bits .and .u32 ((d:Int) / 2 ^ s) 1=1:=hb1;clear hb1;have HMQ:=Φ (HM1'.out rfl);clear HM0' HM1' L1;obtain⟨p0,p1,p2⟩:=Bk.cells3 F2.out.kp;obtain⟨q0,q1,q2⟩:=Bk.cells3 F2.out.ko;go_wp2_with fail;clear p0 p1 p2 q0 q1 q2 o0 o1 o2 f0 f1 f2 ic IC F1;generalize (((World.setCell w1 ⟨gO,0,none⟩ (.slice ex m1 d1)).setCell ⟨gO,1,none⟩ (.slice ey m2 d2)).setCell ⟨gO,2,none⟩ (.slice ez (mz1+1) d3))=w2 at F2 L2 ⊢;generalize dblR J=D at F2 L2 ND;have HBG:Hid (D.x<big∧D.y<big∧D.z<big∧p.x<big∧p.y<big):=Φ ⟨mp_big ND.out.1.1,mp_big ND.out.1.2.1,mp_big ND.out.1.2.2,mp_big HPL.out.1,mp_big HPL.out.2⟩
     by_cases hh:addH D p=0
     ·refine(more_no (addH D p) D.x D.y D.z p.x p.y _ _ _ _ _ _ _ _ _ _ _ _ _ _ _ HBG w2 L2.out.nv.1 L2.out.nv.2.1 L2.out.nv.2.2 F2.out.px F2.out.py (Φ rfl) hh).mono ?_;rintro e w3 ⟨rfl,hb⟩;have F4:=Φ ((F2.out.down hb).down (al_below w3 (.cells z3 150)));have L4:=Φ ((L2.out.below hb).below (al_below w3 (.cells z3 150)));have KM4:Hid (Bk 150 (w3.alloc (.cells z3 150)) w3.heap.size z3):=Φ (Bk.new rfl);have GM:Hid (w.heap.size≠w3.heap.size∧gR≠w3.heap.size∧gO≠w3.heap.size∧w.heap.size≤w3.heap.size):=Φ (by
       have h0:=(F2.out.down hb).below.size;have h1:=(F2.out.down hb).kp.lt;have h2:=(F2.out.down hb).kr.lt;have h3:=(F2.out.down hb).ko.lt
       omega)
      clear F2 L2 hb hh;have HEO:Hid (endR D=ofPt (.aff X2 Y2)):=Φ (near_end ND.out).2;have HLT:Hid (D.lt∧D.z≠0∧(endR D).on=true∧p.on=true):=Φ ⟨ND.out.1,(near_end ND.out).1,by rw [HEO.out];exact(on_ofPt HO2.out).1,HP.out⟩;have HSM:Hid ((endR D).add p=ofPt (Mb p k q)):=Φ (by
       rw [add_is HLT.out.2.2.1 HP.out,HEO.out,(on_ofPt HO2.out).2.1,HMQ.out])
      have HRP4:Hid (RP (w3.alloc (.cells z3 150)) (.agg #[.bool false,.slice bx mx dx,.slice bb my dy]) p):=Φ (RP.mk (by
       have:=HTP.out
       unfold toPt at this;cases hi:p.i
       ·rfl
       ·rw [hi,if_pos rfl] at this;cases this) (fun _=>⟨F4.out.px,F4.out.py⟩))
      go_wp2_with fail;generalize w3.heap.size=gM at KM4 GM ⊢;generalize (w3.alloc (.cells z3 150))=w4 at F4 L4 KM4 HRP4 ⊢;refine fa14 gO w.heap.size D p _ _ _ _ _ _ _ _ _ _ _ _ _ _ _ w4 F4.out.ko F4.out.kp HLT L4 HRP4 ?_;intro y1 y3 y4 w5 hb hr1 hr3 hnw;rw [HSM.out] at hr3;obtain⟨gQ,rfl,hgQ,KQ⟩:=hnw;obtain⟨qx,n1,k1,qy,n2,k2,rfl,hq3⟩:=hr3;have F5:=Φ (F4.out.down hb);have KM5:=Φ (KM4.out.below hb);have KQ5:=Φ KQ;have GQ:Hid (w.heap.size≠gQ∧gR≠gQ∧gO≠gQ∧w.heap.size≤gQ∧gM≠gQ∧gQ≠gM):=Φ (by
       have h0:=F4.out.below.size;have h1:=F4.out.kp.lt;have h2:=F4.out.kr.lt;have h3:=F4.out.ko.lt;have h4:=KM4.out.lt
       omega)
      have HQ3:=Φ hq3;clear hb hr1 hgQ KQ hq3 F4 L4 KM4 HRP4 HLT;simp only [fa14O,findR,Tryz.f68,Option.bind_some,Option.or,Option.getD,Nat.reduceEqDiff,if_true,if_false,reduceIte,List.drop_succ_cons,List.drop_zero];obtain⟨a0,a1,a2⟩:=Bk.cells3 KQ5.out;obtain⟨b0,b1,b2⟩:=Bk.fros3 KQ5.out;obtain⟨PQ,hPQ⟩:∃P,Mb p k q=P:=⟨_,rfl⟩;rw [hPQ] at HQ3 ⊢;have HPQ:=Φ hPQ;clear hPQ HSM HMQ;have fit2:∀qi:Bool,Hid (FI w (((World.setCell w5 ⟨gQ,0,none⟩ (.bool qi)).setCell ⟨gQ,1,none⟩ (.slice qx n1 k1)).setCell ⟨gQ,2,none⟩ (.slice qy n2 k2)) w.heap.size gR gO bx bb ex ey ez mx dx my dy m1 d1 m2 d2 (mz1+1) d3 p (.aff X2 Y2)):=fun qi=>Φ (F5.out.other64 ⟨GQ.out.1,GQ.out.2.1,GQ.out.2.2.1,GQ.out.2.2.2.1⟩ KQ5.out)
      have kmB:∀qi:Bool,Hid (Bk 150 ((((World.setCell w5 ⟨gQ,0,none⟩ (.bool qi)).setCell ⟨gQ,1,none⟩ (.slice qx n1 k1)).setCell ⟨gQ,2,none⟩ (.slice qy n2 k2)).alloc (.cells #[.int .u32 1] 111)) gM z3):=fun qi=>Φ (Bk.alloc (Bk.puto3 GQ.out.2.2.2.2.1 KM5.out))
      have kqA:∀qi:Bool,Hid (Bk 72 (((World.setCell w5 ⟨gQ,0,none⟩ (.bool qi)).setCell ⟨gQ,1,none⟩ (.slice qx n1 k1)).setCell ⟨gQ,2,none⟩ (.slice qy n2 k2)) gQ #[.bool qi,.slice qx n1 k1,.slice qy n2 k2]):=fun qi=>Φ (Bk.put3 KQ5.out)
      have sA:∀qi:Bool,(((World.setCell w5 ⟨gQ,0,none⟩ (.bool qi)).setCell ⟨gQ,1,none⟩ (.slice qx n1 k1)).setCell ⟨gQ,2,none⟩ (.slice qy n2 k2)).heap.size=w5.heap.size:=fun qi=>by simp
      cases PQ with
      |far=>
       have e:(ofPt (.far:Pt (Fin PP))).i=true:=rfl;rw [e];clear e;have FB:=Φ ((fit2 true).out.down (al_below _ (.cells #[.int .u32 1] 111)));have KMB:=kmB true;have KQA:=kqA true;have KQC:Hid (Bk 72 (((World.setCell ((((World.setCell w5 ⟨gQ,0,none⟩ (.bool true)).setCell ⟨gQ,1,none⟩ (.slice qx n1 k1)).setCell ⟨gQ,2,none⟩ (.slice qy n2 k2)).alloc (.cells #[.int .u32 1] 111)) ⟨gM,0,none⟩ (.slice qx n1 k1)).setCell ⟨gM,1,none⟩ (.slice qy n2 k2)).setCell ⟨gM,2,none⟩ (.slice (some ⟨w5.heap.size,0,none⟩) 1 1)) gQ #[.bool true,.slice qx n1 k1,.slice qy n2 k2]):=Φ (Bk.puto3 GQ.out.2.2.2.2.2 (Bk.alloc KQA.out));have FC:=Φ (FB.out.other (d:= .slice qx n1 k1) (e:= .slice qy n2 k2) (f:= .slice (some ⟨w5.heap.size,0,none⟩) 1 1) GM.out KMB.out);have KMC:Hid (Bk 150 (((World.setCell ((((World.setCell w5 ⟨gQ,0,none⟩ (.bool true)).setCell ⟨gQ,1,none⟩ (.slice qx n1 k1)).setCell ⟨gQ,2,none⟩ (.slice qy n2 k2)).alloc (.cells #[.int .u32 1] 111)) ⟨gM,0,none⟩ (.slice qx n1 k1)).setCell ⟨gM,1,none⟩ (.slice qy n2 k2)).setCell ⟨gM,2,none⟩ (.slice (some ⟨w5.heap.size,0,none⟩) 1 1)) gM #[.slice qx n1 k1,.slice qy n2 k2,.slice (some ⟨w5.heap.size,0,none⟩) 1 1]):=Φ (Bk.put3 KMB.out);have FDD:=Φ (FC.out.other (d:= .slice none 0 0) (e:= .slice none 0 0) (f:= .slice none 0 0) GM.out KMC.out);have KMD:Hid (Bk 150 (((World.setCell (((World.setCell ((((World.setCell w5 ⟨gQ,0,none⟩ (.bool true)).setCell ⟨gQ,1,none⟩ (.slice qx n1 k1)).setCell ⟨gQ,2,none⟩ (.slice qy n2 k2)).alloc (.cells #[.int .u32 1] 111)) ⟨gM,0,none⟩ (.slice qx n1 k1)).setCell ⟨gM,1,none⟩ (.slice qy n2 k2)).setCell ⟨gM,2,none⟩ (.slice (some ⟨w5.heap.size,0,none⟩) 1 1)) ⟨gM,0,none⟩ (.slice none 0 0)).setCell ⟨gM,1,none⟩ (.slice none 0 0)).setCell ⟨gM,2,none⟩ (.slice none 0 0)) gM z3):=Φ (Bk.put3 KMC.out);have FE:=Φ (FDD.out.store GS.out .far);rw [← HPQ.out] at FE;have s0:=sA true;obtain⟨c0,c1,c2⟩:=Bk.cells3 KQA.out;obtain⟨g0,g1,g2⟩:=Bk.cells3 KMB.out;obtain⟨h0,h1,h2⟩:=Bk.fros3 KMB.out;obtain⟨l0,l1,l2⟩:=Bk.cells3 KQC.out;obtain⟨r0,r1,r2⟩:=Bk.cells3 KMC.out;obtain⟨s0',s1,s2⟩:=Bk.fros3 KMC.out;obtain⟨u0,u1,u2⟩:=Bk.cells3 KMD.out;obtain⟨x0,x1,x2⟩:=Bk.cells3 FDD.out.ko;obtain⟨z0,z1,z2⟩:=Bk.fros3 FDD.out.ko;clear fit2 kmB kqA sA FB KMB KQA KQC FC KMC FDD KMD F5 KM5 KQ5 HQ3;go_wp2_with fail
       go_roundw
       case rel=>exact⟨q,none,none,none,0,0,0,0,0,0,by omega,by go_num,FE⟩
       case measure=>simp [intOf]<;>omega
      |aff xq yq=>
       have e:(ofPt (.aff xq yq:Pt (Fin PP))).i=false:=rfl;rw [e];clear e;have FB:=Φ ((fit2 false).out.down (al_below _ (.cells #[.int .u32 1] 111)));have KMB:=kmB false;have KQA:=kqA false;have hq:=HQ3.out rfl;have hn1:=nv_one (((World.setCell w5 ⟨gQ,0,none⟩ (.bool false)).setCell ⟨gQ,1,none⟩ (.slice qx n1 k1)).setCell ⟨gQ,2,none⟩ (.slice qy n2 k2));rw [sA false] at hn1;have LQ:LR (((World.setCell ((((World.setCell w5 ⟨gQ,0,none⟩ (.bool false)).setCell ⟨gQ,1,none⟩ (.slice qx n1 k1)).setCell ⟨gQ,2,none⟩ (.slice qy n2 k2)).alloc (.cells #[.int .u32 1] 111)) ⟨gM,0,none⟩ (.slice qx n1 k1)).setCell ⟨gM,1,none⟩ (.slice qy n2 k2)).setCell ⟨gM,2,none⟩ (.slice (some ⟨w5.heap.size,0,none⟩) 1 1)) (.agg #[.slice qx n1 k1,.slice qy n2 k2,.slice (some ⟨w5.heap.size,0,none⟩) 1 1]) ⟨xq.val,yq.val,1⟩:=LR.mk (put3s ((put3_ex hq.1 KQ5.out).al _) KMB.out) (put3s ((put3_ex hq.2 KQ5.out).al _) KMB.out) (put3s hn1 KMB.out);have KQC:Hid (Bk 72 (((World.setCell ((((World.setCell w5 ⟨gQ,0,none⟩ (.bool false)).setCell ⟨gQ,1,none⟩ (.slice qx n1 k1)).setCell ⟨gQ,2,none⟩ (.slice qy n2 k2)).alloc (.cells #[.int .u32 1] 111)) ⟨gM,0,none⟩ (.slice qx n1 k1)).setCell ⟨gM,1,none⟩ (.slice qy n2 k2)).setCell ⟨gM,2,none⟩ (.slice (some ⟨w5.heap.size,0,none⟩) 1 1)) gQ #[.bool false,.slice qx n1 k1,.slice qy n2 k2]):=Φ (Bk.puto3 GQ.out.2.2.2.2.2 (Bk.alloc KQA.out));have FC:=Φ (FB.out.other (d:= .slice qx n1 k1) (e:= .slice qy n2 k2) (f:= .slice (some ⟨w5.heap.size,0,none⟩) 1 1) GM.out KMB.out);have KMC:Hid (Bk 150 (((World.setCell ((((World.setCell w5 ⟨gQ,0,none⟩ (.bool false)).setCell ⟨gQ,1,none⟩ (.slice qx n1 k1)).setCell ⟨gQ,2,none⟩ (.slice qy n2 k2)).alloc (.cells #[.int .u32 1] 111)) ⟨gM,0,none⟩ (.slice qx n1 k1)).setCell ⟨gM,1,none⟩ (.slice qy n2 k2)).setCell ⟨gM,2,none⟩ (.slice (some ⟨w5.heap.size,0,none⟩) 1 1)) gM #[.slice qx n1 k1,.slice qy n2 k2,.slice (some ⟨w5.heap.size,0,none⟩) 1 1]):=Φ (Bk.put3 KMB.out);have FE:=Φ (FC.out.store GS.out (.aff LQ near_of));rw [← HPQ.out] at FE;have s0:=sA false;obtain⟨c0,c1,c2⟩:=Bk.cells3 KQA.out;obtain⟨g0,g1,g2⟩:=Bk.cells3 KMB.out;obtain⟨h0,h1,h2⟩:=Bk.fros3 KMB.out;obtain⟨l0,l1,l2⟩:=Bk.cells3 KQC.out;obtain⟨r0,r1,r2⟩:=Bk.cells3 KMC.out;obtain⟨x0,x1,x2⟩:=Bk.cells3 FC.out.ko;obtain⟨z0,z1,z2⟩:=Bk.fros3 FC.out.ko;clear fit2 kmB kqA sA FB KMB KQA KQC FC KMC F5 KM5 KQ5 HQ3 hq hn1 LQ;go_wp2_with fail
       go_roundw
       case rel=>exact⟨q,qx,qy,some ⟨w5.heap.size,0,none⟩,n1,k1,n2,k2,1,1,by omega,by go_num,FE⟩
       case measure=>simp [intOf]<;>omega
     ·obtain⟨i3,X3,Y3,hn3,hs3⟩:=near_add ND.out hh;have ND3:=Φ hn3;have HM3:Hid (.aff X3 Y3=Mb p k q):=Φ (by rw [← hs3,← HTP.out];exact HMQ.out);clear hn3 hs3;refine(more_yes (addH D p) (addRr D p) (addX D p) D.x D.y D.z p.x p.y _ _ _ _ _ _ _ _ _ _ _ _ _ _ _ HBG w2 L2.out.nv.1 L2.out.nv.2.1 L2.out.nv.2.2 F2.out.px F2.out.py (Φ rfl) (Φ rfl) (Φ rfl) hh).mono ?_;rintro e w3 ⟨v',rfl,hlr,hb⟩;have hlr':LR w3 v' (addR D p):=hlr;obtain⟨ex',m1',d1',ey',m2',d2',ez',m3',d3',rfl⟩:=hlr'.shape;have F4:=Φ ((F2.out.down hb).down (al_below w3 (.cells #[.slice ex' m1' d1',.slice ey' m2' d2',.slice ez' m3' d3'] 150)));have L4:=Φ (hlr'.below (al_below w3 (.cells #[.slice ex' m1' d1',.slice ey' m2' d2',.slice ez' m3' d3'] 150)));have F6:=Φ (F4.out.store GS.out (.aff L4.out ND3.out));rw [HM3.out] at F6;have KM4:Hid (Bk 150 (w3.alloc (.cells #[.slice ex' m1' d1',.slice ey' m2' d2',.slice ez' m3' d3'] 150)) w3.heap.size #[.slice ex' m1' d1',.slice ey' m2' d2',.slice ez' m3' d3']):=Φ (Bk.new rfl);clear F2 L2 hlr hlr' hb hh HM3 ND3 L4;obtain⟨a0,a1,a2⟩:=Bk.cells3 KM4.out;obtain⟨o0,o1,o2⟩:=Bk.cells3 F4.out.ko;obtain⟨f0,f1,f2⟩:=Bk.fros3 F4.out.ko;go_wp2_with fail
      go_roundw
      case rel=>exact⟨q,ex',ey',ez',m1',d1',m2',d2',m3',d3',by omega,by go_num,F6⟩
      case measure=>simp [intOf]<;>omega
theorem mul_far_p:∀n,mul (.far:Pt (Fin PP)) n = .far
 |0=>rfl
 |n+1=>by
  show sum inv aP (mul .far n) .far = .far
  rw [mul_far_p n];rfl
theorem fast7 (v u:Value)(p:Po)(k:Nat)(hp:p.on=true)(hk:k<big)(w:World)(h:RP w v p)(q:NV w u k): Calls Tryz.prog 68 #[v,u] w fun e w'=>∃v',e = .returned v'∧RP w' v' (mulB p k 0)∧Below w.heap.size w w':=by
 cases hi:p.i
 ·exact fast7_on v u p k hp hi hk w h q
 ·have hm:mulB p k 0=⟨0,0,true⟩:=by
   unfold mulB;rw [show toPt p = .far by unfold toPt;rw [hi];rfl,mul_far_p];rfl
  rw [hm];obtain⟨ua,un,uc,rfl⟩:=q.shape;obtain⟨bx,mx,dx,bb,my,dy,rfl,hn⟩:=h;rw [hi];clear hm hn hi hp hk q;go_enter Tryz.func68,Tryz.ntmps68;go_wp2_with fail;refine ret_cell64 rfl (w.heap.size+1) (.bool true) (.slice bx mx dx) (.slice bb my dy) rfl (Bk.new (by simp)) rfl ⟨_,rfl,RP.mk rfl (fun h=>by cases h),?_⟩
  go_grown
theorem cmp_pos (n:Nat): decide (0<cmpN n 0)=decide (0<n):=by
 unfold cmpN
 by_cases h:0<n
 ·rw [if_neg (by omega),if_pos h,decide_eq_true h];rfl
 ·rw [if_neg (by omega),if_neg h,decide_eq_false h];rfl
theorem cmp_less (n m:Nat): decide (cmpN n m<0)=decide (n<m):=by
 unfold cmpN
 by_cases h:n<m
 ·rw [if_pos h,decide_eq_true h];rfl
 ·rw [if_neg h,decide_eq_false h]
  split<;>rfl
theorem fine_nv (v:Value)(n:Nat)(w:World)(h:NV w v n): Calls Tryz.prog 58 #[v] w fun e w'=>e = .returned (.bool (decide (0<n∧n<mN)))∧Below w.heap.size w w':=by
 have HV:=Φ h;obtain⟨a,l,c,rfl⟩:=h.shape;have hres:decide (0<n∧n<mN)=(decide (0<n)&&decide (n<mN)):=by simp
 rw [hres];clear hres h;have hz:=cmp_less n mN;generalize decide (n<mN)=z at *;have hm:=modref_any 1;rw [md1] at hm;have HM:=Φ hm;have HC1:=Φ (cmp_nv _ _ _ _ _ (HV.out.below (al_below w (.cells #[] 111))) (nv_nil w));have HP:=Φ (cmp_pos n);clear hm
 by_cases hp:0<n
 ·have e1:decide (0<n)=true:=decide_eq_true hp;have e2:decide ((0:Int)<cmpN n 0)=true:=HP.out.trans e1;rw [e1];have HL:=Φ hz;clear hp HP e1 hz;go_enter Tryz.func58,Tryz.ntmps58;go_wp2_with fail;refine HC1.out.mono ?_;rintro e w1 ⟨rfl,hs⟩;have HB1:Hid (Below w.heap.size w w1):=Φ (hs.below (al_below w (.cells #[] 111)));clear hs HC1;generalize cmpN n 0=c0 at *;go_wp2_with fail;refine(HM.out w1).mono ?_;rintro e w2 ⟨u,rfl,hu⟩;obtain⟨a2,l2,c2,rfl⟩:=hu.nv.shape;have HB2:=Φ (HB1.out.trans (hu.below.mono HB1.out.size));have HC2:=Φ (cmp_nv _ _ _ _ _ (HV.out.below HB2.out) hu.nv);clear hu HM HB1;go_wp2_with fail;refine HC2.out.mono ?_;rintro e w3 ⟨rfl,hs⟩;have HB3:=Φ (hs.below HB2.out);clear hs HC2 HB2;have hl:=HL.out;generalize cmpN n mN=c1 at *;go_wp2_with fail
  all_goals
   go_returns;exact⟨by simp_all,HB3.out⟩
 ·have e1:decide (0<n)=false:=decide_eq_false hp;have e2:decide ((0:Int)<cmpN n 0)=false:=HP.out.trans e1;rw [e1];clear hp HP e1;go_enter Tryz.func58,Tryz.ntmps58;go_wp2_with fail;refine HC1.out.mono ?_;rintro e w1 ⟨rfl,hs⟩;have HB1:Hid (Below w.heap.size w w1):=Φ (hs.below (al_below w (.cells #[] 111)));clear hs HC1;generalize cmpN n 0=c0 at *;go_wp2_with fail;go_returns;exact⟨rfl,HB1.out⟩
theorem mulB_G (k:Nat)(hk:k<W256): mulB G k 0=pubOf k:=by
 rw [pub_is k hk,mulB,Nat.pow_zero,Nat.div_one];rfl
theorem pointR (v:Value)(k:Nat)(hk:k<W256)(w:World)(h:NV w v k): Calls Tryz.prog 44 #[v] w fun e w'=>∃v',e = .returned v'∧RP w' v' (pubOf k)∧Below w.heap.size w w':=by
 have HV:=Φ h;obtain⟨a,l,c,rfl⟩:=h.shape;have HB:=Φ kRBase;have hi:=in7 G G_ok;rw [vG] at hi;have HI:=Φ hi;have HK:=Φ hk;have HG:=Φ (mulB_G k hk);clear h hi hk;go_enter Tryz.func44,Tryz.ntmps44;go_wp2_with fail;refine(keep w.heap.size w (HB.out _) (by go_grown) (Nat.le_refl _)).mono ?_;rintro e w1 ⟨rfl,hb1,hk1⟩;have KR:Bk 72 w1 w.heap.size #[.bool false,.slice none 0 0,.slice none 0 0]:=Bk.below (Bk.new rfl) hk1;clear hk1;go_wp2_with fail;refine(HI.out w1).mono ?_;rintro e w2 ⟨u,rfl,hu,hb2⟩;have KR2:=Φ (KR.below hb2);have HB2:=Φ (hb1.trans (hb2.mono hb1.size));have HF:=Φ (fast7 u _ G k G_on (w_big HK.out) w2 hu (HV.out.below HB2.out));obtain⟨ax,nx,cx,ay,ny,cy,rfl,_⟩:=hu;clear hb1 hb2 KR HI HB;go_wp2_with fail;refine HF.out.mono ?_;rintro e w3 ⟨u,rfl,hu,hb3⟩;rw [HG.out] at hu;have KR3:=KR2.out.below hb3;have HB3:=Φ (HB2.out.trans (hb3.mono HB2.out.size));have HU:=Φ hu;obtain⟨ax2,nx2,cx2,ay2,ny2,cy2,rfl,_⟩:=hu;obtain⟨c0,c1,c2⟩:=Bk.cells3 KR3;obtain⟨f0,f1,f2⟩:=Bk.fros3 KR3;clear hb3 HF HB2 KR2;go_wp2_with fail;refine ret_cell64 rfl w.heap.size _ _ _ rfl (Bk.put3 KR3) rfl ⟨_,rfl,?_,?_⟩
 ·obtain⟨ax,nx,cx,ay,ny,cy,he,hn⟩:=HU.out;exact⟨ax,nx,cx,ay,ny,cy,he,fun hp=>⟨put3_ex (hn hp).1 KR3,put3_ex (hn hp).2 KR3⟩⟩
 ·have hb:=HB3.out
  go_grown
theorem sumT_any (s:List UInt8)(hs:s.length≤140737488355200)(w:World): Calls Tryz.prog 103 #[.string ⟨s.toArray⟩] w fun e w'=>e = .returned (.string ⟨(Hs.sumL s).toArray⟩)∧Below w.heap.size w w':=by
 have HM:=Φ (fun v w h=>Hs.sumK s hs v w h);clear hs;go_enter Tryz.func103,Tryz.ntmps103;go_wp2_with fail;refine(Hs.keys_k _).mono ?_;rintro e w1 ⟨⟨v,rfl,hk⟩,b1⟩;have HK:=Φ hk;have B1:=Φ b1;clear hk b1;go_wp2_with fail;refine(HM.out v _ HK.out).mono ?_;rintro e w2 ⟨rfl,b2⟩;have B2:=Φ (B1.out.trans (b2.mono B1.out.size));clear b2 B1;go_wp2_with fail;go_ret;exact⟨rfl,B2.out⟩
theorem bv_W {l:List UInt8}(h:l.length=32): bv l<W256:=by
 have:=bv_lt l
 rw [h] at this;exact Nat.lt_of_lt_of_le this (by decide +kernel)
theorem mN_big:mN<big:=w_big mN_W
theorem rsum_nv (s:List UInt8)(hs:s.length≤140737488355200)(w:World): Calls Tryz.prog 52 #[.string ⟨s.toArray⟩] w fun e w'=>∃v',e = .returned v'∧Nr w w' v' (bv (Hs.sumL s) % mN):=by
 have HS:=Φ (sumT_any s hs);have hl:(Hs.sumL s).length=32:=Hs.sum_length s;have HR:=Φ (read_any (Hs.sumL s) (by omega));have HBB:Hid (bv (Hs.sumL s)<big*big):=Φ (Nat.lt_of_lt_of_le (w_big (bv_W hl)) big_sq);have hm:=modref_any 1;rw [md1] at hm;have HM:=Φ hm;clear hs hl hm;generalize Hs.sumL s=S at *;go_enter Tryz.func52,Tryz.ntmps52;go_wp2_with fail;refine(keep w.heap.size w (HS.out _) (by go_grown) (Nat.le_refl _)).mono ?_;rintro e w1 ⟨rfl,hb1,_⟩;have HB1:=Φ hb1;clear hb1;go_wp2_with fail;refine(nk w.heap.size w (HR.out w1) HB1.out (Nat.le_refl _)).mono ?_;rintro e w2 ⟨v1,rfl,n1,hb2,_⟩;have N1:=Φ n1;have HB2:=Φ hb2;clear n1 hb2 HB1;go_wp2_with fail;refine(nk w.heap.size w (HM.out w2) HB2.out (Nat.le_refl _)).mono ?_;rintro e w3 ⟨v2,rfl,n2,hb3,hk3⟩;have N12:=Φ (N1.out.below hk3);have N2:=Φ n2;have HB3:=Φ hb3;clear n2 hb3 hk3 HB2 N1;go_wp2_with fail;refine(nk w.heap.size w (left_nv v1 v2 w3 _ mN HBB.out mN_big mN_pos N12.out N2.out) HB3.out (Nat.le_refl _)).mono ?_;rintro e w4 ⟨v3,rfl,n3,hb4,_⟩;have N3:=Φ n3;have HB4:=Φ hb4;clear n3 hb4 HB3 N12 N2;go_wp2_with fail;go_ret;exact⟨_,rfl,⟨N3.out,HB4.out⟩⟩
theorem same_inv {Z T I:Fin mN}(h:Z*T=1)(k:T*I=1): Z=I:=by grobner
theorem iM_one {t z:Nat}(h0:0<t)(h1:t<mN)(hz:z<mN)(h:z*t % mN=1): z=iM t:=by
 have e1:cn z*cn t=1:=by
  rw [← cn_mul,← cn_one,cn_eq,h,Nat.mod_eq_of_lt (show 1<mN by decide +kernel)]
 have e3:=same_inv e1 (cn_inv h0 h1);rw [cn_eq,Nat.mod_eq_of_lt hz,Nat.mod_eq_of_lt (iM_lt t)] at e3;exact e3
theorem inv_iM (v:Value)(t:Nat)(h0:0<t)(h1:t<mN)(w:World)(h:NV w v t): Calls Tryz.prog 64 #[.int .i64 1,v] w fun e w'=>∃v',e = .returned v'∧Nr w w' v' (iM t):=by
 refine(inverse_nv 1 v w t (Nat.lt_trans h1 mN_big) (by rw [md1,Nat.mod_eq_of_lt h1];omega) h).mono ?_;rintro e w' ⟨v',z,rfl,hn,hz,he⟩;rw [md1] at hz he;rw [iM_one h0 h1 hz he] at hn;exact⟨_,rfl,hn⟩
theorem mulB_is {q:Po}(hq:q.on=true)(k:Nat)(hk:k<W256): mulB q k 0=Po.mul k q:=by
 rw [mul_is hk hq,mulB,Nat.pow_zero,Nat.div_one]
theorem verR_len (q:Po)(s sig:ByteArray)(h:sig.size≠64)(w:World): Calls Tryz.prog 17 #[q.v,.string s,.string sig] w fun z w'=>z = .returned (.bool false)∧Below w.heap.size w w':=by
 have h2:((sig.size:Nat):Int)≠64:=by omega
 obtain⟨x,y,i⟩:=q;unfold Po.v pn;simp only [nv,num];go_enter Tryz.func17,Tryz.ntmps17;go_wp2_with fail
 all_goals
  go_returns;exact⟨rfl,by go_grown⟩
theorem verR_off (q:Po)(okq:q.ok)(s SB:ByteArray)(hz:SB.size=64)(hc:q.on=false∨q.i=true)(w:World): Calls Tryz.prog 17 #[q.v,.string s,.string SB] w fun z w'=>z = .returned (.bool false)∧Below w.heap.size w w':=by
 have HO:=Φ (ron_any q okq);have HC:=Φ hc;clear okq hc;generalize q.on=on at *;obtain⟨x,y,i⟩:=q;dsimp only at HC;unfold Po.v pn at HO ⊢;simp only [nv,num] at HO ⊢;go_enter Tryz.func17,Tryz.ntmps17;go_wp2_with fail;refine(keep w.heap.size w (HO.out _) (by go_grown) (Nat.le_refl _)).mono ?_;rintro z w1 ⟨rfl,hb1,hk⟩;have KQ:Bk 26 w1 w.heap.size (cs9 x y i):=Bk.below (Bk.new rfl) hk;obtain⟨⟨c0,c1,c2,c3⟩,⟨c4,c5,c6,c7⟩,c8⟩:=KQ.cells9;have HB:=Φ hb1;clear hk hb1 HO KQ;cases on
 ·go_wp2_with fail
  all_goals
   go_returns;exact⟨rfl,HB.out⟩
 ·cases i
  ·exact absurd HC.out (by simp)
  ·go_wp2_with fail
   all_goals
    go_returns;exact⟨rfl,HB.out⟩
def VR (W:World)(a b:Nat)(b2 b5:Bool)(y2 y5:Value)(w:World): Prop:=Below W.heap.size W w∧(b2=true→NV w y2 a)∧(b5=true→NV w y5 b)
theorem VR.on {W w w':World}{a b:Nat}{b2 b5:Bool}{y2 y5:Value}(h:VR W a b b2 b5 y2 y5 w)(hb:Below w.heap.size w w'): VR W a b b2 b5 y2 y5 w':=
 ⟨h.1.trans (hb.mono h.1.size),fun e=>(h.2.1 e).below hb,fun e=>(h.2.2 e).below hb⟩
structure VP (W:World)(q P:Po)(e u v:Nat)(b1 b3 b4 b6 b9 b10 b11 b12 b13:Bool)(y1 y3 y4 y6 y9 y10 y11 y12:Value)(w:World): Prop where
 below:Below W.heap.size W w
 n1:b13=false→b1=true→NV w y1 e
 n3:b13=false→b3=true→NV w y3 u
 n4:b13=false→b4=true→RP w y4 (pubOf u)
 n6:b13=false→b6=true→RP w y6 q
 n9:b13=false→b9=true→NV w y9 v
 n10:b13=false→b10=true→RP w y10 (Po.mul v q)
 n11:b13=false→b11=true→RP w y11 P
 n12:b13=false→b12=true→∃g,y12 = .pointer (some ⟨g,0,none⟩)∧W.heap.size≤g∧Bk 72 w g #[.bool false,.slice none 0 0,.slice none 0 0]
 n13:b13=true→∃g ax nx cx ay ny cy,y12 = .pointer (some ⟨g,0,none⟩)∧Bk 72 w g #[.bool P.i,.slice ax nx cx,.slice ay ny cy]∧(P.i=false→NV w (.slice ax nx cx) P.x)
theorem VP.on {W w w':World}{q P:Po}{e u v:Nat}{b1 b3 b4 b6 b9 b10 b11 b12:Bool}{y1 y3 y4 y6 y9 y10 y11 y12:Value}(h:VP W q P e u v b1 b3 b4 b6 b9 b10 b11 b12 false y1 y3 y4 y6 y9 y10 y11 y12 w)(hb:Below w.heap.size w w'): VP W q P e u v b1 b3 b4 b6 b9 b10 b11 b12 false y1 y3 y4 y6 y9 y10 y11 y12 w':=
 ⟨h.below.trans (hb.mono h.below.size),fun x y=>(h.n1 x y).below hb,fun x y=>(h.n3 x y).below hb,fun x y=>(h.n4 x y).below hb,fun x y=>(h.n6 x y).below hb,fun x y=>(h.n9 x y).below hb,fun x y=>(h.n10 x y).below hb,fun x y=>(h.n11 x y).below hb,fun x y=>by
  obtain⟨g,e1,e2,e3⟩:=h.n12 x y;exact⟨g,e1,e2,Bk.below e3 hb⟩,fun x=>by cases x⟩
def VE (W:World)(n:Nat)(b6 b7:Bool)(y6 y7:Value)(w:World): Prop:=Below W.heap.size W w∧(b6=true→NV w y6 mN)∧(b7=true→NV w y7 (n % mN))
theorem VE.on {W w w':World}{n:Nat}{b6 b7:Bool}{y6 y7:Value}(h:VE W n b6 b7 y6 y7 w)(hb:Below w.heap.size w w'): VE W n b6 b7 y6 y7 w':=
 ⟨h.1.trans (hb.mono h.1.size),fun e=>(h.2.1 e).below hb,fun e=>(h.2.2 e).below hb⟩
theorem verR_go (q:Po)(hq:q.on=true)(okq:q.ok)(hqi:q.i=false)(s:List UInt8)(hs:s.length≤140737488355200)(SB:ByteArray)(hz:SB.size=64)(l1 l2:List UInt8)(e1:SB.extract 0 32=⟨l1.toArray⟩)(e2:SB.extract 32 64=⟨l2.toArray⟩)(hl1:l1.length=32)(hl2:l2.length=32)(w:World):
  Calls Tryz.prog 17 #[q.v,.string ⟨s.toArray⟩,.string SB] w fun z w'=>z = .returned (.bool (decide (0<bv l1∧bv l1<mN)&&(decide (0<bv l2∧bv l2<mN)&&fitS q (bv (Hs.sumL s) % mN) (bv l1) (bv l2))))∧Below w.heap.size w w':=by
 have hON:=ron_any q okq;rw [hq] at hON;have HON:=Φ hON;have HR1:=Φ (read_any l1 (by omega));have HR2:=Φ (read_any l2 (by omega));have HW:Hid (bv l1<W256∧bv l2<W256):=Φ ⟨bv_W hl1,bv_W hl2⟩;have HSU:=Φ (rsum_nv s hs);have HEL:Hid (bv (Hs.sumL s) % mN<mN):=Φ (Nat.mod_lt _ mN_pos);have HIN:=Φ (in7 q okq);have HQ0:=Φ hq;have HE1:=Φ e1;have HE2:=Φ e2;clear hON hl1 hl2 hs okq hq e1 e2;generalize bv (Hs.sumL s) % mN=e at *;generalize bv l1=r at *;generalize bv l2=t at *;generalize (⟨l1.toArray⟩:ByteArray)=RB at *;generalize (⟨l2.toArray⟩:ByteArray)=TB at *;generalize (⟨s.toArray⟩:ByteArray)=sb at *;have HF1:=Φ (fun v w h=>fine_nv v r w h);have HF2:=Φ (fun v w h=>fine_nv v t w h);obtain⟨br,hbr⟩:∃b,b=decide (0<r∧r<mN):=⟨_,rfl⟩;obtain⟨bt,hbt⟩:∃b,b=decide (0<t∧t<mN):=⟨_,rfl⟩;obtain⟨u,hu⟩:∃u,u=e*iM t % mN:=⟨_,rfl⟩;obtain⟨v,hv⟩:∃v,v=r*iM t % mN:=⟨_,rfl⟩;obtain⟨P,hP⟩:∃P,P=(pubOf u).add (Po.mul v q):=⟨_,rfl⟩;obtain⟨fr,hfr⟩:∃f,f=fitS q e r t:=⟨_,rfl⟩;have HFR:Hid (fr=(!P.i&&decide (P.x % mN=r))):=Φ (by rw [hfr,hP,hu,hv];rfl);have HUW:Hid (u<mN∧v<mN∧iM t<mN):=Φ ⟨by rw [hu];exact Nat.mod_lt _ mN_pos,by rw [hv];exact Nat.mod_lt _ mN_pos,iM_lt t⟩;have HXB:Hid (P.x<big):=Φ (by rw [hP];exact w_big (add_po (pub_on u (Nat.lt_trans HUW.out.1 mN_W)).1 (mul_po (Nat.lt_trans HUW.out.2.1 mN_W) HQ0.out).1).1);rw [← hbr] at HF1 ⊢;rw [← hbt] at HF2 ⊢;rw [← hfr];have HU:=Φ hu;have HV:=Φ hv;have HP:=Φ hP;have HBT:=Φ hbt;clear hbr hbt hfr hu hv hP;obtain⟨x,y,i⟩:=q;simp only [] at hqi;subst hqi;unfold Po.v pn at HON HIN ⊢;simp only [nv,num] at HON HIN ⊢;go_enter Tryz.func17,Tryz.ntmps17;go_wp2_with fail;refine(keep w.heap.size w (HON.out _) (by go_grown) (Nat.le_refl _)).mono ?_;rintro z w1 ⟨rfl,hb1,hk⟩;have HQ:Hid (Bk 26 w1 w.heap.size (cs9 x y false)):=Φ (Bk.below (Bk.new rfl) hk);obtain⟨⟨c0,c1,c2,c3⟩,⟨c4,c5,c6,c7⟩,c8⟩:=HQ.out.cells9;have HB:=Φ hb1;clear hk hb1 HON;obtain⟨gq,hgq⟩:∃g,g=w.heap.size:=⟨_,rfl⟩;rw [← hgq] at HQ c0 c1 c2 c3 c4 c5 c6 c7 c8;rw [show(Value.pointer (some ⟨w.heap.size,0,none⟩)) = .pointer (some ⟨gq,0,none⟩) by rw [hgq]];clear hgq;go_upto_region 3 with fail;have HD:Hid (Bk 26 w1.drew gq (cs9 x y false)):=Φ HQ.out;clear c0 c1 c2 c3 c4 c5 c6 c7 c8;refine Pl.vR (VR w1 r t) SB w1 ?cl2 ?cl5 hz ?w0 ?h
 case cl2=>
  intro y2 y5 w2 h;rw [HE1.out];refine(HR1.out w2).mono ?_;rintro z w3 ⟨v',rfl,hn⟩;exact⟨v',rfl,(h.1.trans (hn.below.mono h.1.size)),fun _=>hn.nv,(fun h=>nomatch h)⟩
 case cl5=>
  intro y2 y5 w2 h;rw [HE2.out];refine(HR2.out w2).mono ?_;rintro z w3 ⟨v',rfl,hn⟩;exact⟨v',rfl,(h.1.trans (hn.below.mono h.1.size)),fun _=>(h.2.1 rfl).below hn.below,fun _=>hn.nv⟩
 case w0=>exact⟨⟨rfl,rfl,rfl,Nat.le_refl _,fun _ _=>rfl⟩,(fun h=>nomatch h),(fun h=>nomatch h)⟩
 case h=>
 intro y2 y5 w2 h;have HQ2:=Φ (HQ.out.below h.1);have HB2:=Φ (HB.out.trans (h.1.mono HB.out.size));have N1:=Φ (h.2.1 rfl);have N2:=Φ (h.2.2 rfl);clear h HD HQ HB HR1 HR2 HE1 HE2 hz;dsimp only;go_wp2_with fail;refine(keep w.heap.size w (HF1.out y2 w2 N1.out) HB2.out (Nat.le_refl _)).mono ?_;rintro z w3 ⟨rfl,hb,hk⟩;have HQ3:=Φ (HQ2.out.below hk);have HB3:=Φ hb;have N13:=Φ (N1.out.below hk);have N23:=Φ (N2.out.below hk);clear hb hk HQ2 HB2 N1 N2 HF1;cases br
 ·go_wp2_with fail
  all_goals
   go_returns;exact⟨rfl,HB3.out⟩
 go_wp2_with fail;refine(keep w.heap.size w (HF2.out y5 w3 N23.out) HB3.out (Nat.le_refl _)).mono ?_;rintro z w4 ⟨rfl,hb,hk⟩;have HQ4:=Φ (HQ3.out.below hk);have HB4:=Φ hb;have N14:=Φ (N13.out.below hk);have N24:=Φ (N23.out.below hk);clear hb hk HQ3 HB3 N13 N23 HF2;cases bt
 ·go_wp2_with fail
  all_goals
   go_returns;exact⟨rfl,HB4.out⟩
 have HT:Hid (0<t∧t<mN):=Φ (of_decide_eq_true HBT.out.symm);clear HBT;go_wp2_with fail;refine(nk w.heap.size w (inv_iM y5 t HT.out.1 HT.out.2 w4 N24.out) HB4.out (Nat.le_refl _)).mono ?_;rintro z w5 ⟨iv,rfl,n,hb,hk⟩;have HQ5:=Φ (HQ4.out.below hk);have HB5:=Φ hb;have N15:=Φ (N14.out.below hk);have NI:=Φ n;clear n hb hk HQ4 HB4 N14 N24;go_upto_region 7 with fail;refine Pl.vP (VP w5 ⟨x,y,false⟩ P e u v) gq x y false sb y2 iv w5 ?cl1 ?cl3 ?cl4 ?cl6 ?cl9 ?cl10 ?cl11 ?cl12 ?cl13 ?lq ?w0 ?h
 case cl1=>
  intro b12 y1 y3 y4 y6 y9 y10 y11 y12 w6 h;refine(HSU.out w6).mono ?_;rintro z w7 ⟨v',rfl,hn⟩;exact⟨v',rfl,{h.on hn.below with n1:=fun _ _=>hn.nv}⟩
 case cl3=>
  intro b12 y1 y3 y4 y6 y9 y10 y11 y12 w6 h;have hp:=prod_nv 1 y1 iv w6 e (iM t) (Nat.lt_trans HEL.out mN_big) (Nat.lt_trans HUW.out.2.2 mN_big) (h.n1 rfl rfl) (NI.out.below h.below);rw [md1,← HU.out] at hp;refine hp.mono ?_;rintro z w7 ⟨v',rfl,hn⟩;exact⟨v',rfl,{h.on hn.below with n3:=fun _ _=>hn.nv}⟩
 case cl4=>
  intro b12 y1 y3 y4 y6 y9 y10 y11 y12 w6 h;refine(pointR y3 u (Nat.lt_trans HUW.out.1 mN_W) w6 (h.n3 rfl rfl)).mono ?_;rintro z w7 ⟨v',rfl,hn,hb⟩;exact⟨v',rfl,{h.on hb with n4:=fun _ _=>hn}⟩
 case cl6=>
  intro b12 y1 y3 y4 y6 y9 y10 y11 y12 w6 h;refine(HIN.out w6).mono ?_;rintro z w7 ⟨v',rfl,hn,hb⟩;exact⟨v',rfl,{h.on hb with n6:=fun _ _=>hn}⟩
 case cl9=>
  intro b12 y1 y3 y4 y6 y9 y10 y11 y12 w6 h;have hp:=prod_nv 1 y2 iv w6 r (iM t) (w_big HW.out.1) (Nat.lt_trans HUW.out.2.2 mN_big) (N15.out.below h.below) (NI.out.below h.below);rw [md1,← HV.out] at hp;refine hp.mono ?_;rintro z w7 ⟨v',rfl,hn⟩;exact⟨v',rfl,{h.on hn.below with n9:=fun _ _=>hn.nv}⟩
 case cl10=>
  intro b12 y1 y3 y4 y6 y9 y10 y11 y12 w6 h;have hp:=fast7 y6 y9 ⟨x,y,false⟩ v HQ0.out (Nat.lt_trans HUW.out.2.1 mN_big) w6 (h.n6 rfl rfl) (h.n9 rfl rfl);rw [mulB_is HQ0.out v (Nat.lt_trans HUW.out.2.1 mN_W)] at hp;refine hp.mono ?_;rintro z w7 ⟨v',rfl,hn,hb⟩;exact⟨v',rfl,{h.on hb with n10:=fun _ _=>hn}⟩
 case cl11=>
  intro b12 y1 y3 y4 y6 y9 y10 y11 y12 w6 h;have hp:=sum7 y4 y10 (pubOf u) (Po.mul v ⟨x,y,false⟩) (pub_on u (Nat.lt_trans HUW.out.1 mN_W)).1 (mul_po (Nat.lt_trans HUW.out.2.1 mN_W) HQ0.out).1 w6 (h.n4 rfl rfl) (h.n10 rfl rfl);rw [← HP.out] at hp;refine hp.mono ?_;rintro z w7 ⟨v',rfl,hn,hb⟩;exact⟨v',rfl,{h.on hb with n11:=fun _ _=>hn}⟩
 case cl12=>
  intro b1 b3 b4 b6 b9 b10 b11 y1 y3 y4 y6 y9 y10 y11 y12 w6 h;exact {h.on (al_below w6 (.cells #[.bool false,.slice none 0 0,.slice none 0 0] 72)) with n12:=fun _ _=>⟨_,rfl,h.below.size,Bk.new rfl⟩,n13:=fun h=>nomatch h}
 case cl13=>
  intro y1 y3 y4 y6 y9 y10 y11 y12 w6 h;obtain⟨g,rfl,hg,hk⟩:=h.n12 rfl rfl;obtain⟨ax,nx,cx,ay,ny,cy,ey,hn⟩:=h.n11 rfl rfl;refine⟨g,_,_,_,P.i,ax,ay,nx,cx,ny,cy,rfl,ey,hk,⟨?_,(fun h=>nomatch h),(fun h=>nomatch h),(fun h=>nomatch h),(fun h=>nomatch h),(fun h=>nomatch h),(fun h=>nomatch h),(fun h=>nomatch h),(fun h=>nomatch h),fun _=>⟨g,ax,nx,cx,ay,ny,cy,rfl,Bk.put3 hk,fun hp=>put3_ex (hn hp).1 hk⟩⟩⟩;have hb:=h.below
  go_grown
 case lq=>
  intro b1 b3 b4 b6 b9 b10 b11 b12 b13 y1 y3 y4 y6 y9 y10 y11 y12 w6 h;obtain⟨⟨c0,c1,c2,c3⟩,⟨c4,c5,c6,c7⟩,c8⟩:=(HQ5.out.below h.below).cells9;exact⟨c0,c1,c2,c3,c4,c5,c6,c7,c8⟩
 case w0=>exact⟨⟨rfl,rfl,rfl,Nat.le_refl _,fun _ _=>rfl⟩,(fun _ h=>nomatch h),(fun _ h=>nomatch h),(fun _ h=>nomatch h),(fun _ h=>nomatch h),(fun _ h=>nomatch h),(fun _ h=>nomatch h),(fun _ h=>nomatch h),(fun _ h=>nomatch h),(fun h=>nomatch h)⟩
 case h=>
 intro y1 y3 y4 y6 y9 y10 y11 y12 w6 h;obtain⟨gp,ax,nx,cx,ay,ny,cy,rfl,hkp,hnx⟩:=h.n13 rfl;have HB6:=Φ (HB5.out.trans (h.below.mono HB5.out.size));have N16:=Φ (N15.out.below h.below);have HKP:=Φ hkp;have HNX:=Φ hnx;obtain⟨c0,c1,c2⟩:=Bk.cells3 hkp;have C0:=Φ c0;have C1:=Φ c1;clear h hkp hnx c0 c1 c2 HB5 N15 NI HQ5 HSU HIN HEL HP HU HV HQ0 HT HUW;have hfr:=HFR.out;clear HFR;dsimp only;cases hPi:P.i
 ·rw [hPi] at hfr C0 HNX;have HX:=Φ (HNX.out rfl);go_upto_region 8 with fail;refine Pl.vE (fun b6 b7 _ y6 y7 w'=>VE w6 P.x b6 b7 y6 y7 w') gp y2 (.slice ax nx cx) (cmpN (P.x % mN) r) (decide (P.x % mN=r)) w6 ?l0 ?l1 ?cl6 ?cl7 ?cl9 (cmp_eq0 _ _) ?w0 ?h
  case l0=>exact fun b6 b7 b9 y6 y7 w7 h=>(h.1.cell (p:=⟨gp,0,none⟩) HKP.out.lt).trans C0.out
  case l1=>exact fun b6 b7 b9 y6 y7 w7 h=>(h.1.cell (p:=⟨gp,1,none⟩) HKP.out.lt).trans C1.out
  case cl6=>
   intro y6 y7 w7 h;have hm:=modref_any 1 w7;rw [md1] at hm;refine hm.mono ?_;rintro z w8 ⟨v',rfl,hn⟩;exact⟨v',rfl,h.1.trans (hn.below.mono h.1.size),fun _=>hn.nv,(fun h=>nomatch h)⟩
  case cl7=>
   intro y6 y7 w7 h;refine(left_nv _ y6 w7 P.x mN (Nat.lt_of_lt_of_le HXB.out big_sq) mN_big mN_pos (HX.out.below h.1) (h.2.1 rfl)).mono ?_;rintro z w8 ⟨v',rfl,hn⟩;exact⟨v',rfl,h.1.trans (hn.below.mono h.1.size),fun _=>(h.2.1 rfl).below hn.below,fun _=>hn.nv⟩
  case cl9=>
   intro y6 y7 w7 h;refine(cmp_nv y7 y2 w7 _ _ (h.2.2 rfl) (N16.out.below h.1)).mono ?_;rintro z w8 ⟨rfl,hs⟩;exact⟨rfl,h.on hs.below0⟩
  case w0=>exact⟨⟨rfl,rfl,rfl,Nat.le_refl _,fun _ _=>rfl⟩,(fun h=>nomatch h),(fun h=>nomatch h)⟩
  case h=>
  intro y6 y7 w7 h;have HB7:=Φ (HB6.out.trans (h.1.mono HB6.out.size));clear h;dsimp only;go_wp2_with fail
  all_goals
   go_returns;exact⟨by first | rfl | (rw [hfr];rfl),HB7.out⟩
 ·rw [hPi] at hfr HKP;have c0:∀d os,(Go.Sort.grow (redrawn w6 d) os).cell? ⟨gp,0,none⟩=some (.bool true):=fun d os=>(Bk.regrown HKP.out d os).cell 0
  clear HNX C1 C0 HKP;go_upto_region 8 with fail;refine wp_region_quiet_below mixed (by kernel_rfl) ?_
  repeat (first | go_big_quiet_step (fail) | quiet_step (fail))
  refine wpQuiet_nil ?_;intro _ hw';obtain⟨⟨dq,osq⟩,hw''⟩:=hw';subst hw'';go_wp2_with fail
  all_goals
   go_returns;exact⟨by first | rfl | (rw [hfr];rfl),HB6.out.trans ((below_regrown w6 dq osq).mono HB6.out.size)⟩
theorem verifies_both (q:Po)(sb SB:ByteArray)(r:Bool)
  (HS:∀w,Calls Tryz.prog 16 #[q.v,.string sb,.string SB] w fun e w'=>e = .returned (.bool r)∧Below w.heap.size w w')
  (HR:∀w,Calls Tryz.prog 17 #[q.v,.string sb,.string SB] w fun e w'=>e = .returned (.bool r)∧Below w.heap.size w w')
  (w:World):Calls Tryz.prog 5 #[q.v,.string sb,.string SB] w fun e w'=>e = .returned (.bool true)∧Below w.heap.size w w':=by
 have HX:=Lib.hid fixed_any;have HS:=Lib.hid HS;have HR:=Lib.hid HR;obtain⟨x,y,i⟩:=q;unfold Po.v pn at HS HR ⊢;simp only [nv,num] at HS HR ⊢;go_enter Tryz.func5,Tryz.ntmps5;go_upto_region 1 with fail;refine Pl.vL (fun b0 b5 b9 w'=>Below w.heap.size w w'∧Bk 26 w' w.heap.size (cs9 x y i)) w.heap.size x y i r sb SB _ ?cl0 ?cl5 ?cl9 ?lq ?w0 ?h
 case cl0=>
  intro w2 h;refine(HX.out w2).mono ?_;rintro e w3 ⟨rfl,hb⟩;exact⟨rfl,h.1.trans (hb.mono h.1.size),h.2.below hb⟩
 case cl5=>
  intro w2 h;refine(HS.out w2).mono ?_;rintro e w3 ⟨rfl,hb⟩;exact⟨rfl,h.1.trans (hb.mono h.1.size),h.2.below hb⟩
 case cl9=>
  intro w2 h;refine(HR.out w2).mono ?_;rintro e w3 ⟨rfl,hb⟩;exact⟨rfl,h.1.trans (hb.mono h.1.size),h.2.below hb⟩
 case lq=>
  intro b0 b5 b9 w2 h;obtain⟨⟨c0,c1,c2,c3⟩,⟨c4,c5,c6,c7⟩,c8⟩:=h.2.cells9;exact⟨c0,c1,c2,c3,c4,c5,c6,c7,c8⟩
 case w0=>exact⟨by go_grown,Bk.new rfl⟩
 case h=>
 intro w2 h;have HB:=Lib.hid h.1;clear h;go_wp2_with fail
 all_goals
  go_returns;exact⟨rfl,HB.out⟩
theorem num_any (l:List UInt8)(hl:l.length=32): ∃(a:Nat) (b:Bool),(∀w,Calls Tryz.prog 60 #[.string ⟨l.toArray⟩] w fun e w'=>e = .returned (.tuple #[nv a,.bool b])∧Below w.heap.size w w')∧b=decide (0<bv l∧bv l<mN):=by
 by_cases h:bv l<mN
 ·exact⟨_,_,fun w=>number_yes l hl h w,rfl⟩
 ·exact⟨_,_,fun w=>number_no l (by omega) (fun k=>h k.2) w,(decide_eq_false (fun k=>h k.2)).symm⟩
theorem verifies_walk (q:Po)(okq:q.ok)(s sig:List UInt8)(hs:s.length≤140737488351232)(hg:sig.length≤140737488351232)(w:World): Calls Tryz.prog 5 #[q.v,.string ⟨s.toArray⟩,.string ⟨sig.toArray⟩] w fun e w'=>e = .returned (.bool true)∧Below w.heap.size w w':=by
 have hsz:(⟨sig.toArray⟩:ByteArray).size=sig.length:=by
  show sig.toArray.size=_
  exact List.size_toArray
 by_cases h64:sig.length=64
 ·have hz:(⟨sig.toArray⟩:ByteArray).size=64:=hsz.trans h64;have hl1:(sig.take 32).length=32:=by rw [List.length_take,h64];rfl
  have hl2:(sig.drop 32).length=32:=by rw [List.length_drop,h64]
  have e1:(⟨sig.toArray⟩:ByteArray).extract 0 32=⟨(sig.take 32).toArray⟩:=ba_ext rfl (by omega);have e2:(⟨sig.toArray⟩:ByteArray).extract 32 64=⟨(sig.drop 32).toArray⟩:=ba_ext (List.take_of_length_le (by rw [hl2];decide)) (by omega);obtain⟨a1,b1,n1,hb1⟩:=num_any _ hl1;obtain⟨a2,b2,n2,hb2⟩:=num_any _ hl2
  by_cases hon:q.on=false∨q.i=true
  ·exact verifies_both q _ _ false (fun w=>ver_not q okq _ _ _ _ hz e1 e2 a1 a2 b1 b2 n1 n2 (.inr (.inr hon.symm)) w) (fun w=>verR_off q okq _ _ hz hon w) w
  ·have hq:q.on=true:=by cases h:q.on with
    |true=>rfl
    |false=>exact absurd (.inl h) hon
   have hqi:q.i=false:=by cases h:q.i with
    |false=>rfl
    |true=>exact absurd (.inr h) hon
   have hgo:=fun w=>verR_go q hq okq hqi s (by omega) _ hz _ _ e1 e2 hl1 hl2 w
   rw [← hb1,← hb2] at hgo;cases b1 with
   |false=>
    simp only [Bool.false_and] at hgo;exact verifies_both q _ _ false (fun w=>ver_not q okq _ _ _ _ hz e1 e2 a1 a2 _ b2 n1 n2 (.inl rfl) w) hgo w
   |true=>
    cases b2 with
    |false=>
     simp only [Bool.false_and,Bool.and_false] at hgo;exact verifies_both q _ _ false (fun w=>ver_not q okq _ _ _ _ hz e1 e2 a1 a2 _ _ n1 n2 (.inr (.inl rfl)) w) hgo w
    |true=>
     simp only [Bool.true_and] at hgo;obtain⟨r0,r1⟩:=of_decide_eq_true hb1.symm;obtain⟨t0,t1⟩:=of_decide_eq_true hb2.symm;have hsig:sgB (bv (sig.take 32)) (bv (sig.drop 32))=sig:=by
      rw [sgB,(nb_same (Nat.lt_trans r1 mN_W) hl1).2 rfl,(nb_same (Nat.lt_trans t1 mN_W) hl2).2 rfl,List.take_append_drop]
     have hv:=fun w=>verify_sig q hq okq hqi s (by omega) _ _ r0 r1 t0 t1 w
     rw [hsig] at hv;exact verifies_both q _ _ _ hv hgo w
 ·exact verifies_both q _ _ false (fun w=>ver_len q _ _ (by rw [hsz];exact h64) w) (fun w=>verR_len q _ _ (by rw [hsz];exact h64) w) w
end Ref
end Go.Proofs.YtpggkfdijmnmiaaGreat
