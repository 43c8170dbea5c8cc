/- A multiple of a point, bit by bit, as the reference tells it -/
import Derived.Test.YtpggkfdijmnmiaaGreatZw27
set_option linter.unusedVariables false
set_option linter.unusedSimpArgs false
set_option maxRecDepth 100000
namespace Go.Proofs.YtpggkfdijmnmiaaGreat
namespace Ref
open Go.RowKit Go.Proofs.YtpggkfdijmnmiaaGreat.Digits Limbs Curve
open Go.Lib renaming hid→Φ
set_option maxHeartbeats 16000000
theorem sum7_far (xa ya xb yb:Nat)(nx cx ny cy mx dx my dy:Nat)(ax ay bx bb:Option Addr)(hp:(Po.mk xa ya false).on=true)(hq:(Po.mk xb yb false).on=true)(w:World)(hn1:NV w (.slice ax nx cx) xa)(hn2:NV w (.slice ay ny cy) ya)(hm1:NV w (.slice bx mx dx) xb)(hm2:NV w (.slice bb my dy) yb)(hs:Po.same (Po.mk xa ya false) (Po.mk xb yb false).neg=true): Calls Tryz.prog 66 #[.agg #[.bool false,.slice ax nx cx,.slice ay ny cy],.agg #[.bool false,.slice bx mx dx,.slice bb my dy]] w fun e w'=>∃v',e = .returned v'∧RP w' v' ⟨0,0,true⟩∧Below w.heap.size w w':=by
 have HS:=Φ hs;have NX:=Φ hn1;have NY:=Φ hn2;have MX:=Φ hm1;have MY:=Φ hm2;have HBG:Hid (xa<big∧ya<big∧xb<big∧yb<big):=Φ ⟨mp_big (on_lt hp).1,mp_big (on_lt hp).2,mp_big (on_lt hq).1,mp_big (on_lt hq).2⟩;clear hn1 hn2 hm1 hm2 hp hq;clear hs;go_enter Tryz.func66,Tryz.ntmps66;go_wp2_with fail;have KP:Hid (Bk 72 (((w.alloc (.cells #[.bool false,.slice ax nx cx,.slice ay ny cy] 72)).alloc (.cells #[.bool false,.slice bx mx dx,.slice bb my dy] 72)).alloc (.cells #[.bool false,.slice none 0 0,.slice none 0 0] 72)) w.heap.size #[.bool false,.slice ax nx cx,.slice ay ny cy]):=Φ (Bk.alloc (Bk.alloc (Bk.new rfl)));have KQ:Hid (Bk 72 (((w.alloc (.cells #[.bool false,.slice ax nx cx,.slice ay ny cy] 72)).alloc (.cells #[.bool false,.slice bx mx dx,.slice bb my dy] 72)).alloc (.cells #[.bool false,.slice none 0 0,.slice none 0 0] 72)) (w.heap.size+1) #[.bool false,.slice bx mx dx,.slice bb my dy]):=Φ (Bk.alloc (Bk.new (by simp)));have KR:Hid (Bk 72 (((w.alloc (.cells #[.bool false,.slice ax nx cx,.slice ay ny cy] 72)).alloc (.cells #[.bool false,.slice bx mx dx,.slice bb my dy] 72)).alloc (.cells #[.bool false,.slice none 0 0,.slice none 0 0] 72)) (w.heap.size+1+1) #[.bool false,.slice none 0 0,.slice none 0 0]):=Φ (Bk.new (by simp));have HB:Hid (Below w.heap.size w (((w.alloc (.cells #[.bool false,.slice ax nx cx,.slice ay ny cy] 72)).alloc (.cells #[.bool false,.slice bx mx dx,.slice bb my dy] 72)).alloc (.cells #[.bool false,.slice none 0 0,.slice none 0 0] 72))):=Φ (by go_grown);obtain⟨gQ,hgQ⟩:∃g,g=w.heap.size+1:=⟨_,rfl⟩;rw [← hgQ] at KQ KR ⊢;obtain⟨gR,hgR⟩:∃g,g=gQ+1:=⟨_,rfl⟩;rw [← hgR] at KR ⊢;have HG:=Φ (show w.heap.size≤gR by omega);clear hgR hgQ;generalize (((w.alloc (.cells #[.bool false,.slice ax nx cx,.slice ay ny cy] 72)).alloc (.cells #[.bool false,.slice bx mx dx,.slice bb my dy] 72)).alloc (.cells #[.bool false,.slice none 0 0,.slice none 0 0] 72))=w0 at KP KQ KR HB ⊢;replace NX:=Φ (NX.out.below HB.out);replace NY:=Φ (NY.out.below HB.out);replace MX:=Φ (MX.out.below HB.out);replace MY:=Φ (MY.out.below HB.out);obtain⟨a0,a1,a2⟩:=Bk.cells3 KP.out;obtain⟨b0,b1,b2⟩:=Bk.cells3 KQ.out;go_wp2_with fail;clear a0 a1 a2 b0 b1 b2;refine su5 w.heap.size gQ gR xa ya xb yb nx cx ny cy mx dx my dy ax ay bx bb w0 KP.out KQ.out HBG.out.2.2.2 ⟨_,_,_,_,_,_,rfl,fun _=>⟨NX.out,NY.out⟩⟩ ⟨_,_,_,_,_,_,rfl,fun _=>⟨MX.out,MY.out⟩⟩ ?_;intros;rename_i w1 hb1;rw [HS.out];replace KP:=Φ (KP.out.below hb1);replace KQ:=Φ (KQ.out.below hb1);replace KR:=Φ (KR.out.below hb1);replace HB:=Φ (HB.out.trans (hb1.mono HB.out.size));clear hb1;obtain⟨c0,c1,c2⟩:=Bk.cells3 KR.out;obtain⟨f0,f1,f2⟩:=Bk.fros3 KR.out;go_wp2_with fail;refine ret_cell64 rfl gR (.bool true) (.slice none 0 0) (.slice none 0 0) rfl (Bk.put3 KR.out) rfl ⟨_,rfl,⟨_,_,_,_,_,_,rfl,fun h=>by cases h⟩,?_⟩;have hb:=HB.out;have hg:=HG.out
 go_grown
theorem sum7_two (xa ya xb yb up dn s:Nat)(nx cx ny cy mx dx my dy:Nat)(ax ay bx bb:Option Addr)(hp:(Po.mk xa ya false).on=true)(hq:(Po.mk xb yb false).on=true)(w:World)(hn1:NV w (.slice ax nx cx) xa)(hn2:NV w (.slice ay ny cy) ya)(hm1:NV w (.slice bx mx dx) xb)(hm2:NV w (.slice bb my dy) yb)(hs:Po.same (Po.mk xa ya false) (Po.mk xb yb false).neg=false)(hs2:Po.same (Po.mk xa ya false) (Po.mk xb yb false)=false)(hup:up=sj yb ya)(hdn:dn=sj xb xa)(hd0:dn % mP≠0)(hsl:s=mj up (iN dn)): Calls Tryz.prog 66 #[.agg #[.bool false,.slice ax nx cx,.slice ay ny cy],.agg #[.bool false,.slice bx mx dx,.slice bb my dy]] w fun e w'=>∃v',e = .returned v'∧RP w' v' ⟨sj (sj (mj s s) xa) xb,sj (mj s (sj xa (sj (sj (mj s s) xa) xb))) ya,false⟩∧Below w.heap.size w w':=by
 have HS:=Φ hs;have HS2:=Φ hs2;have HU:=Φ hup;have HD:=Φ hdn;have HSL:=Φ hsl;have HDN:Hid (dn<big∧dn % mP≠0):=Φ ⟨by rw [hdn];exact sj_b _ _,hd0⟩;have HUP:Hid (up<big):=Φ (by rw [hup];exact sj_b _ _);have HSB:Hid (s<big):=Φ (by rw [hsl];exact mj_b _ _);clear hs2 hup hdn hd0 hsl;have NX:=Φ hn1;have NY:=Φ hn2;have MX:=Φ hm1;have MY:=Φ hm2;have HBG:Hid (xa<big∧ya<big∧xb<big∧yb<big):=Φ ⟨mp_big (on_lt hp).1,mp_big (on_lt hp).2,mp_big (on_lt hq).1,mp_big (on_lt hq).2⟩;clear hn1 hn2 hm1 hm2 hp hq;clear hs;go_enter Tryz.func66,Tryz.ntmps66;go_wp2_with fail;have KP:Hid (Bk 72 (((w.alloc (.cells #[.bool false,.slice ax nx cx,.slice ay ny cy] 72)).alloc (.cells #[.bool false,.slice bx mx dx,.slice bb my dy] 72)).alloc (.cells #[.bool false,.slice none 0 0,.slice none 0 0] 72)) w.heap.size #[.bool false,.slice ax nx cx,.slice ay ny cy]):=Φ (Bk.alloc (Bk.alloc (Bk.new rfl)));have KQ:Hid (Bk 72 (((w.alloc (.cells #[.bool false,.slice ax nx cx,.slice ay ny cy] 72)).alloc (.cells #[.bool false,.slice bx mx dx,.slice bb my dy] 72)).alloc (.cells #[.bool false,.slice none 0 0,.slice none 0 0] 72)) (w.heap.size+1) #[.bool false,.slice bx mx dx,.slice bb my dy]):=Φ (Bk.alloc (Bk.new (by simp)));have KR:Hid (Bk 72 (((w.alloc (.cells #[.bool false,.slice ax nx cx,.slice ay ny cy] 72)).alloc (.cells #[.bool false,.slice bx mx dx,.slice bb my dy] 72)).alloc (.cells #[.bool false,.slice none 0 0,.slice none 0 0] 72)) (w.heap.size+1+1) #[.bool false,.slice none 0 0,.slice none 0 0]):=Φ (Bk.new (by simp));have HB:Hid (Below w.heap.size w (((w.alloc (.cells #[.bool false,.slice ax nx cx,.slice ay ny cy] 72)).alloc (.cells #[.bool false,.slice bx mx dx,.slice bb my dy] 72)).alloc (.cells #[.bool false,.slice none 0 0,.slice none 0 0] 72))):=Φ (by go_grown);obtain⟨gQ,hgQ⟩:∃g,g=w.heap.size+1:=⟨_,rfl⟩;rw [← hgQ] at KQ KR ⊢;obtain⟨gR,hgR⟩:∃g,g=gQ+1:=⟨_,rfl⟩;rw [← hgR] at KR ⊢;have HG:=Φ (show w.heap.size≤gR by omega);clear hgR hgQ;generalize (((w.alloc (.cells #[.bool false,.slice ax nx cx,.slice ay ny cy] 72)).alloc (.cells #[.bool false,.slice bx mx dx,.slice bb my dy] 72)).alloc (.cells #[.bool false,.slice none 0 0,.slice none 0 0] 72))=w0 at KP KQ KR HB ⊢;replace NX:=Φ (NX.out.below HB.out);replace NY:=Φ (NY.out.below HB.out);replace MX:=Φ (MX.out.below HB.out);replace MY:=Φ (MY.out.below HB.out);obtain⟨a0,a1,a2⟩:=Bk.cells3 KP.out;obtain⟨b0,b1,b2⟩:=Bk.cells3 KQ.out;go_wp2_with fail;clear a0 a1 a2 b0 b1 b2;refine su5 w.heap.size gQ gR xa ya xb yb nx cx ny cy mx dx my dy ax ay bx bb w0 KP.out KQ.out HBG.out.2.2.2 ⟨_,_,_,_,_,_,rfl,fun _=>⟨NX.out,NY.out⟩⟩ ⟨_,_,_,_,_,_,rfl,fun _=>⟨MX.out,MY.out⟩⟩ ?_;intros;rename_i w1 hb1;rw [HS.out];replace KP:=Φ (KP.out.below hb1);replace KQ:=Φ (KQ.out.below hb1);replace KR:=Φ (KR.out.below hb1);replace NX:=Φ (NX.out.below hb1);replace NY:=Φ (NY.out.below hb1);replace MX:=Φ (MX.out.below hb1);replace MY:=Φ (MY.out.below hb1);replace HB:=Φ (HB.out.trans (hb1.mono HB.out.size));clear hb1;go_wp2_with fail;refine su7 w.heap.size gQ gR xa ya xb yb nx cx ny cy mx dx my dy ax ay bx bb w1 KP.out KQ.out HBG.out.1 HBG.out.2.1 HBG.out.2.2.1 HBG.out.2.2.2 NX.out NY.out MX.out MY.out ?_;intros;rename_i vu vd w2 hb1 hnu hnd;have NU:=Φ hnu;have ND:=Φ hnd;clear hnu hnd;replace KP:=Φ (KP.out.below hb1);replace KQ:=Φ (KQ.out.below hb1);replace KR:=Φ (KR.out.below hb1);replace NX:=Φ (NX.out.below hb1);replace NY:=Φ (NY.out.below hb1);replace MX:=Φ (MX.out.below hb1);replace MY:=Φ (MY.out.below hb1);replace HB:=Φ (HB.out.trans (hb1.mono HB.out.size));clear hb1;obtain⟨a0,a1,a2⟩:=Bk.cells3 KP.out;obtain⟨b0,b1,b2⟩:=Bk.cells3 KQ.out;go_wp2_with fail;clear a0 a1 a2 b0 b1 b2;refine(keep w.heap.size w (same7 _ _ (Po.mk xa ya false) (Po.mk xb yb false) _ ⟨_,_,_,_,_,_,rfl,fun _=>⟨NX.out,NY.out⟩⟩ ⟨_,_,_,_,_,_,rfl,fun _=>⟨MX.out,MY.out⟩⟩) HB.out (Nat.le_refl _)).mono ?_;rintro e w3 ⟨rfl,hb,hk⟩;replace KP:=Φ (KP.out.below hk);replace KQ:=Φ (KQ.out.below hk);replace KR:=Φ (KR.out.below hk);replace NX:=Φ (NX.out.below hk);replace NY:=Φ (NY.out.below hk);replace MX:=Φ (MX.out.below hk);replace MY:=Φ (MY.out.below hk);replace NU:=Φ (NU.out.below hk);replace ND:=Φ (ND.out.below hk);replace HB:=Φ hb;clear hb hk;rw [HS2.out];rw [← HU.out] at NU;rw [← HD.out] at ND;go_wp2_with fail;refine(nk w.heap.size w (inv_c _ _ dn HDN.out.1 HDN.out.2 ND.out) HB.out (Nat.le_refl _)).mono ?_;rintro e w4 ⟨vi,rfl,hn,hb,hk⟩;replace KP:=Φ (KP.out.below hk);replace KQ:=Φ (KQ.out.below hk);replace KR:=Φ (KR.out.below hk);replace NX:=Φ (NX.out.below hk);replace NY:=Φ (NY.out.below hk);replace MX:=Φ (MX.out.below hk);replace MY:=Φ (MY.out.below hk);replace NU:=Φ (NU.out.below hk);replace ND:=Φ (ND.out.below hk);have NI:=Φ hn;replace HB:=Φ hb;clear hn hb hk;go_wp2_with fail;refine(nk w.heap.size w (times_nv _ _ _ up (iN dn) HUP.out (mp_big (Nat.mod_lt _ (by decide +kernel))) NU.out NI.out) HB.out (Nat.le_refl _)).mono ?_;rintro e w5 ⟨vs,rfl,hn,hb,hk⟩;replace KP:=Φ (KP.out.below hk);replace KQ:=Φ (KQ.out.below hk);replace KR:=Φ (KR.out.below hk);replace NX:=Φ (NX.out.below hk);replace NY:=Φ (NY.out.below hk);replace MX:=Φ (MX.out.below hk);replace MY:=Φ (MY.out.below hk);replace NU:=Φ (NU.out.below hk);replace ND:=Φ (ND.out.below hk);replace NI:=Φ (NI.out.below hk);have NS:=Φ hn;replace HB:=Φ hb;clear hn hb hk;rw [← HSL.out] at NS;clear NU ND NI;go_wp2_with fail;refine su12 w.heap.size gQ gR xa xb s (.slice ay ny cy) (.slice bb my dy) nx cx mx dx ax bx vs w5 KP.out KQ.out HBG.out.1 HBG.out.2.2.1 HSB.out NX.out MX.out NS.out ?_;intros;rename_i v8 w12 hb1 hn8;obtain⟨a8,n8,c8,rfl⟩:=hn8.shape;have N8:=Φ hn8;clear hn8;replace KP:=Φ (KP.out.below hb1);replace KQ:=Φ (KQ.out.below hb1);replace KR:=Φ (KR.out.below hb1);replace NX:=Φ (NX.out.below hb1);replace NY:=Φ (NY.out.below hb1);replace MX:=Φ (MX.out.below hb1);replace MY:=Φ (MY.out.below hb1);replace NS:=Φ (NS.out.below hb1);replace HB:=Φ (HB.out.trans (hb1.mono HB.out.size));clear hb1;go_wp2_with fail;refine su13 w.heap.size gR xa ya s (sj (sj (mj s s) xa) xb) nx cx ny cy n8 c8 ax ay a8 vs w12 KP.out KR.out HBG.out.1 HBG.out.2.1 HSB.out (sj_b _ _) NX.out NY.out NS.out N8.out ?_;intros;rename_i v9 v10 w13 hb1 hn9;obtain⟨a9,n9,c9,rfl⟩:=hn9.shape;have N9:=Φ hn9;clear hn9;replace KP:=Φ (KP.out.below hb1);replace KQ:=Φ (KQ.out.below hb1);replace KR:=Φ (KR.out.below hb1);replace N8:=Φ (N8.out.below hb1);replace HB:=Φ (HB.out.trans (hb1.mono HB.out.size));clear hb1;have HN:=Φ (And.intro (put3_ex (d:= .bool false) (e:= .slice a8 n8 c8) (f:= .slice a9 n9 c9) N8.out KR.out) (put3_ex (d:= .bool false) (e:= .slice a8 n8 c8) (f:= .slice a9 n9 c9) N9.out KR.out));go_wp2_with fail;refine ret_cell64 rfl gR (.bool false) (.slice a8 n8 c8) (.slice a9 n9 c9) rfl (Bk.put3 KR.out) rfl ⟨_,rfl,⟨_,_,_,_,_,_,rfl,fun _=>HN.out⟩,?_⟩;have hb:=HB.out;have hg:=HG.out
 go_grown
end Ref
namespace Ref
open Go.RowKit Go.Proofs.YtpggkfdijmnmiaaGreat.Digits Limbs Curve
theorem sum7 (v u:Value)(p q:Po)(hp:p.on=true)(hq:q.on=true)(w:World)(h:RP w v p)(k:RP w u q): Calls Tryz.prog 66 #[v,u] w fun e w'=>∃v',e = .returned v'∧RP w' v' (p.add q)∧Below w.heap.size w w':=by
 obtain⟨xa,ya,pi⟩:=p;obtain⟨xb,yb,qi⟩:=q;obtain⟨ax,nx,cx,ay,ny,cy,rfl,hn⟩:=h;obtain⟨bx,mx,dx,bb,my,dy,rfl,hm⟩:=k;cases pi
 ·cases qi
  ·cases hs:Po.same (Po.mk xa ya false) (Po.mk xb yb false).neg
   ·obtain⟨hd,hX⟩:=sum_ref hp hq hs;rw [hX];cases hs2:Po.same (Po.mk xa ya false) (Po.mk xb yb false)
    ·simp only [downR,hs2,Bool.false_eq_true,if_false] at hd;simp only [xR,yR,slR,upR,downR,hs2,Bool.false_eq_true,if_false];exact sum7_two xa ya xb yb _ _ _ nx cx ny cy mx dx my dy ax ay bx bb hp hq w (hn rfl).1 (hn rfl).2 (hm rfl).1 (hm rfl).2 hs hs2 rfl rfl hd rfl
    ·simp only [downR,hs2,if_true] at hd;simp only [xR,yR,slR,upR,downR,hs2,if_true];exact sum7_dbl xa ya xb yb _ _ _ nx cx ny cy mx dx my dy ax ay bx bb hp hq w (hn rfl).1 (hn rfl).2 (hm rfl).1 (hm rfl).2 hs hs2 rfl rfl hd rfl
   ·rw [sum_opp hp hq hs];exact sum7_far xa ya xb yb nx cx ny cy mx dx my dy ax ay bx bb hp hq w (hn rfl).1 (hn rfl).2 (hm rfl).1 (hm rfl).2 hs
  ·rw [(add_far hp hq).2 rfl];exact sum7_q xa ya xb yb nx cx ny cy mx dx my dy ax ay bx bb w (hn rfl)
 ·rw [(add_far hp hq).1 rfl];exact sum7_p xa ya xb yb qi nx cx ny cy mx dx my dy ax ay bx bb w hm
theorem d_z {y z i j:Fin PP}(hz:z*i=1)(hj:(y+y)*j=1): (y+y)*z*(i*j)=1:=by grobner
theorem d_s {x y z i j:Fin PP}(hz:z*i=1)(hj:(y+y)*j=1): (y*(i*i*i)+y*(i*i*i))*(3*(x*x - z*z*(z*z))*(i*j))=3*(x*(i*i)*(x*(i*i))) + -3:=by grobner
theorem d_x {x y b i j s:Fin PP}(hj:(y+y)*j=1)(hs:s=b*(i*j)): (b*b - (4*(x*(y*y))+4*(x*(y*y))))*(i*j*(i*j))=s*s - x*(i*i) - x*(i*i):=by grobner
theorem d_y {x y b i j s xx:Fin PP}(hj:(y+y)*j=1)(hs:s=b*(i*j))(hx:xx*(i*j*(i*j))=s*s - x*(i*i) - x*(i*i)): (b*(4*(x*(y*y)) - xx) - 8*(y*y*(y*y)))*(i*j*(i*j)*(i*j))=s*(x*(i*i) - (s*s - x*(i*i) - x*(i*i))) - y*(i*i*i):=by grobner
theorem a_z {z h i k:Fin PP}(hz:z*i=1)(hk:h*k=1): z*h*(i*k)=1:=by grobner
theorem a_h {x z i X:Fin PP}(hz:z*i=1): (X*(z*z) - x)*(i*i)=X - x*(i*i):=by grobner
theorem a_r {y z i Y:Fin PP}(hz:z*i=1): (Y*(z*z*z) - y)*(i*i*i)=Y - y*(i*i*i):=by grobner
theorem a_s {h r i k dX dY:Fin PP}(hk:h*k=1)(hh:h*(i*i)=dX)(hr:r*(i*i*i)=dY): dX*(r*(i*k))=dY:=by grobner
theorem a_x {x h r i k s dX:Fin PP}(hk:h*k=1)(hs:s=r*(i*k))(hh:h*(i*i)=dX): (r*r - h*(h*h) - (x*(h*h)+x*(h*h)))*(i*k*(i*k))=s*s - dX - (x*(i*i)+x*(i*i)):=by grobner
theorem a_y {x y h r i k s xx X3:Fin PP}(hk:h*k=1)(hs:s=r*(i*k))(hx:xx*(i*k*(i*k))=X3): (r*(x*(h*h) - xx) - y*(h*(h*h)))*(i*k*(i*k)*(i*k))=s*(x*(i*i) - X3) - y*(i*i*i):=by grobner
theorem sub_self_x (x:Fin PP): x - x=0:=by grobner
theorem ch_x {a b s:Fin PP}: s*s - (b - a) - (a+a)=s*s - a - b:=by grobner
theorem c_four:c 4=4:=rfl
theorem c_eight:c 8=8:=rfl
def dblA (p:J): Nat:=mj 4 (mj p.x (mj p.y p.y))
def dblB (p:J): Nat:=mj 3 (sj (mj p.x p.x) (mj (mj p.z p.z) (mj p.z p.z)))
def dblX (p:J): Nat:=sj (mj (dblB p) (dblB p)) (aj (dblA p) (dblA p))
def dblR (p:J): J:=⟨dblX p,sj (mj (dblB p) (sj (dblA p) (dblX p))) (mj 8 (mj (mj p.y p.y) (mj p.y p.y))),mj (aj p.y p.y) p.z⟩
theorem y_ne {y i Y:Fin PP}(hY:Y=y*(i*i*i))(h:Y+Y≠0): y+y≠0:=fun h0=>h (by
 rw [hY]
 have:y*(i*i*i)+y*(i*i*i)=(y+y)*(i*i*i):=by grobner
 rw [this,h0,zero_mul_x])
theorem near_dbl {p:J}{i X Y:Fin PP}(h:Near p i X Y)(hP:On aP bP (.aff X Y)): ∃i' X' Y',Near (dblR p) i' X' Y'∧sum inv aP (.aff X Y) (.aff X Y) = .aff X' Y':=by
 obtain⟨hl,hz,hX,hY⟩:=h;have hyy:c p.y+c p.y≠0:=y_ne hY (fit.yy hP);have hj:=mul_inv (c p.y+c p.y) hyy;generalize hjj:inv (c p.y+c p.y)=j at hj;have hn:¬(X=X∧Y = -Y):=by
  rintro⟨_,h2⟩
  have:Y+Y=0:=by
   generalize Y=Y' at h2
   grobner
  exact fit.yy hP this
 rw [sum_aff,if_neg hn];have hs:slope inv aP X Y X Y=c (dblB p)*(i*j):=by
  unfold slope;rw [if_pos rfl];have h1:=d_s (x:=c p.x) hz hj;rw [← hX,← hY] at h1;have h2:=mul_inv (Y+Y) (fit.yy hP);have hb:c (dblB p)=3*(c p.x*c p.x - c p.z*c p.z*(c p.z*c p.z)):=by
   unfold dblB;rw [c_mj,c_sj,c_mj,c_mj,c_mj,c_three]
  rw [hb];have h3:(3*(X*X)+aP)=3*(X*X) + -3:=rfl;rw [h3];exact sl_x h2 h1
 have hA:c (dblA p)=4*(c p.x*(c p.y*c p.y)):=by
  unfold dblA;rw [c_mj,c_mj,c_mj,c_four]
 have ex:c (dblX p)=c (dblB p)*c (dblB p) - (4*(c p.x*(c p.y*c p.y))+4*(c p.x*(c p.y*c p.y))):=by
  unfold dblX;rw [c_sj,c_mj,c_aj,hA]
 have hx:=d_x (x:=c p.x) hj hs;rw [← ex,← hX] at hx;have hy:=d_y (x:=c p.x) (xx:=c (dblX p)) hj hs (by rw [← hX];exact hx);rw [← hX,← hY] at hy;refine⟨i*j,_,_,⟨⟨sj_p _ _,sj_p _ _,mj_p _ _⟩,?_,hx.symm,?_⟩,rfl⟩
 ·show c (mj (aj p.y p.y) p.z)*(i*j)=1
  rw [c_mj,c_aj];exact d_z hz hj
 ·show _=c (sj (mj (dblB p) (sj (dblA p) (dblX p))) (mj 8 (mj (mj p.y p.y) (mj p.y p.y))))*_
  rw [c_sj,c_mj,c_sj,hA,c_mj,c_mj,c_mj,c_eight];exact hy.symm
def addH (p:J)(q:Po): Nat:=sj (mj q.x (mj p.z p.z)) p.x
def addRr (p:J)(q:Po): Nat:=sj (mj q.y (mj (mj p.z p.z) p.z)) p.y
def addX (p:J)(q:Po): Nat:=sj (sj (mj (addRr p q) (addRr p q)) (mj (addH p q) (mj (addH p q) (addH p q)))) (aj (mj p.x (mj (addH p q) (addH p q))) (mj p.x (mj (addH p q) (addH p q))))
def addR (p:J)(q:Po): J:=⟨addX p q,sj (mj (addRr p q) (sj (mj p.x (mj (addH p q) (addH p q))) (addX p q))) (mj p.y (mj (addH p q) (mj (addH p q) (addH p q)))),mj p.z (addH p q)⟩
theorem near_add {p:J}{i X Y:Fin PP}{q:Po}(h:Near p i X Y)(hh0:addH p q≠0): ∃i' X' Y',Near (addR p q) i' X' Y'∧sum inv aP (.aff X Y) (.aff (c q.x) (c q.y)) = .aff X' Y':=by
 obtain⟨hl,hz,hX,hY⟩:=h;have eH:c (addH p q)=c q.x*(c p.z*c p.z) - c p.x:=by unfold addH;rw [c_sj,c_mj,c_mj]
 have eR:c (addRr p q)=c q.y*(c p.z*c p.z*c p.z) - c p.y:=by unfold addRr;rw [c_sj,c_mj,c_mj,c_mj]
 have hH:c (addH p q)≠0:=fun h=>hh0 (by
  have h0:c (addH p q)=c 0:=by rw [h];rfl
  exact c_inj (show addH p q<mP from sj_p _ _) (by decide +kernel) h0)
 have hdx:c (addH p q)*(i*i)=c q.x - X:=by rw [eH,a_h hz,← hX]
 have hdy:c (addRr p q)*(i*i*i)=c q.y - Y:=by rw [eR,a_r hz,← hY]
 have hi0:i*i≠0:=fun h=>by
  have h1:c p.z*c p.z*(i*i)=1:=by
   generalize c p.z=z at hz
   grobner
  rw [h,mul_zero_x] at h1;exact one_ne h1.symm
 have hne:X≠c q.x:=fun h=>by
  have h0:c (addH p q)*(i*i)=0:=by rw [hdx,h];exact sub_self_x _
  rcases fit.mul_zero h0 with h1 | h1
  ·exact hH h1
  ·exact hi0 h1
 have hk:=mul_inv (c (addH p q)) hH;generalize hkk:inv (c (addH p q))=k at hk;rw [sum_aff,if_neg (fun h=>hne h.1)];have hs:slope inv aP X Y (c q.x) (c q.y)=c (addRr p q)*(i*k):=by
  unfold slope;rw [if_neg hne];exact sl_x (mul_inv _ (sub_of_ne hne)) (a_s hk hdx hdy)
 have ex:c (addX p q)=c (addRr p q)*c (addRr p q) - c (addH p q)*(c (addH p q)*c (addH p q)) - (c p.x*(c (addH p q)*c (addH p q))+c p.x*(c (addH p q)*c (addH p q))):=by
  unfold addX;rw [c_sj,c_sj,c_mj,c_mj,c_mj,c_aj,c_mj,c_mj]
 have hx:=a_x (x:=c p.x) hk hs hdx;rw [← ex,← hX,ch_x] at hx;have hy:=a_y (x:=c p.x) (y:=c p.y) (xx:=c (addX p q)) hk hs hx;rw [← hX,← hY] at hy;refine⟨i*k,_,_,⟨⟨sj_p _ _,sj_p _ _,mj_p _ _⟩,?_,hx.symm,?_⟩,rfl⟩
 ·show c (mj p.z (addH p q))*(i*k)=1
  rw [c_mj];exact a_z hz hk
 ·show _=c (sj (mj (addRr p q) (sj (mj p.x (mj (addH p q) (addH p q))) (addX p q))) (mj p.y (mj (addH p q) (mj (addH p q) (addH p q)))))*_
  rw [c_sj,c_mj,c_sj,c_mj,c_mj,c_mj,c_mj,c_mj];exact hy.symm
def endR (p:J): Po:=⟨mj p.x (mj (iN p.z) (iN p.z)),mj p.y (mj (mj (iN p.z) (iN p.z)) (iN p.z)),false⟩
theorem near_end {p:J}{i X Y:Fin PP}(h:Near p i X Y): p.z≠0∧endR p=ofPt (.aff X Y):=by
 obtain⟨hl,hz,hX,hY⟩:=h;have hz0:c p.z≠0:=ne_of_inv hz;have hi:inv (c p.z)=i:=iv_one (mul_inv _ hz0) hz;refine⟨fun h=>hz0 (by rw [h];rfl),?_⟩;have e1:c (mj p.x (mj (iN p.z) (iN p.z)))=X:=by rw [c_mj,c_mj,c_iN,hi,hX]
 have e2:c (mj p.y (mj (mj (iN p.z) (iN p.z)) (iN p.z)))=Y:=by rw [c_mj,c_mj,c_mj,c_iN,hi,hY]
 rw [← e1,← e2];have v1:(c (mj p.x (mj (iN p.z) (iN p.z)))).val=mj p.x (mj (iN p.z) (iN p.z)):=(val_of (mj_p _ _) rfl).symm;have v2:(c (mj p.y (mj (mj (iN p.z) (iN p.z)) (iN p.z)))).val=mj p.y (mj (mj (iN p.z) (iN p.z)) (iN p.z)):=(val_of (mj_p _ _) rfl).symm
 show endR p=⟨(c (mj p.x (mj (iN p.z) (iN p.z)))).val,(c (mj p.y (mj (mj (iN p.z) (iN p.z)) (iN p.z)))).val,false⟩
 rw [v1,v2];rfl
theorem Bk.puto3 {t:TypeId}{w:World}{g h:Nat}{cs:Array Value}{d e f:Value}(hn:g≠h)(k:Bk t w g cs): Bk t (((w.setCell ⟨h,0,none⟩ d).setCell ⟨h,1,none⟩ e).setCell ⟨h,2,none⟩ f) g cs:=
 Bk.oth hn (Bk.oth hn (Bk.oth hn k))
theorem RP.nv {w:World}{i:Bool}{ax ay:Option Addr}{nx cx ny cy:Nat}{p:Po}(h:RP w (.agg #[.bool i,.slice ax nx cx,.slice ay ny cy]) p): i=p.i∧(p.i=false→NV w (.slice ax nx cx) p.x∧NV w (.slice ay ny cy) p.y):=by
 obtain⟨a1,n1,c1,a2,n2,c2,he,hn⟩:=h;simp only [Value.agg.injEq,Array.mk.injEq,List.cons.injEq,Value.bool.injEq,Value.slice.injEq,and_true] at he;obtain⟨rfl,⟨rfl,rfl,rfl⟩,rfl,rfl,rfl⟩:=he;exact⟨rfl,hn⟩
theorem RP.mk {w:World}{i:Bool}{ax ay:Option Addr}{nx cx ny cy:Nat}{p:Po}(hi:i=p.i)(h:p.i=false→NV w (.slice ax nx cx) p.x∧NV w (.slice ay ny cy) p.y): RP w (.agg #[.bool i,.slice ax nx cx,.slice ay ny cy]) p:=
 ⟨ax,nx,cx,ay,ny,cy,by rw [hi],h⟩
theorem RP.put {w:World}{i b:Bool}{ax ay ex ey:Option Addr}{nx cx ny cy g m1 d1 m2 d2:Nat}{p:Po}{d e f:Value}(h:RP w (.agg #[.bool i,.slice ax nx cx,.slice ay ny cy]) p)(hk:Bk 72 w g #[.bool b,.slice ex m1 d1,.slice ey m2 d2]):
  RP (((w.setCell ⟨g,0,none⟩ d).setCell ⟨g,1,none⟩ e).setCell ⟨g,2,none⟩ f) (.agg #[.bool i,.slice ax nx cx,.slice ay ny cy]) p:=
 RP.mk h.nv.1 (fun hi=>⟨put3_ex (h.nv.2 hi).1 hk,put3_ex (h.nv.2 hi).2 hk⟩)
def mulB (p:Po)(k j:Nat): Po:=ofPt (mul (toPt p) (k / 2 ^ j))
end Ref
end Go.Proofs.YtpggkfdijmnmiaaGreat
