/- The numbers modulo P; the points of a curve are a group; P-2 -/
import Derived.Test.YtpggkfdijmnmiaaGreatZw20
set_option linter.unusedVariables false
set_option linter.unusedSimpArgs false
set_option maxRecDepth 100000
namespace Go.Proofs.YtpggkfdijmnmiaaGreat
section
open Go.RowKit Go.Sort Limbs
set_option maxHeartbeats 8000000
def J.begin (x y:Nat)(i:Bool): J:=if i=true then J.far else ⟨x,y,1⟩
theorem J.begin_ok {x y:Nat}{i:Bool}(hx:x<W256)(hy:y<W256): (J.begin x y i).ok:=by
 cases i
 ·exact⟨hx,hy,show 1<W256 by decide⟩
 ·exact J.far_ok
theorem begin_c (x y:Nat)(i:Bool)(w:World):
  Calls Tryz.prog 144 #[pn x y i] w fun e w'=>e = .returned (J.begin x y i).v∧Below w.heap.size w w':=by
 cases i
 ·show Calls Tryz.prog 144 #[.agg #[υ x 0,υ x 1,υ x 2,υ x 3,υ y 0,υ y 1,υ y 2,υ y 3,.bool false]] w fun e w'=>e = .returned (jn x y 1)∧Below w.heap.size w w'
  go_enter Tryz.func144,Tryz.ntmps144;go_wp2_with fail;refine ret_cell93 rfl (w.heap.size+1) x y 1 rfl (Bk.new (by simp)) rfl ⟨rfl,?_⟩
  go_grown
 ·show Calls Tryz.prog 144 #[.agg #[υ x 0,υ x 1,υ x 2,υ x 3,υ y 0,υ y 1,υ y 2,υ y 3,.bool true]] w fun e w'=>e = .returned (jn 0 0 0)∧Below w.heap.size w w'
  go_enter Tryz.func144,Tryz.ntmps144;go_wp2_with fail;refine ret_cell93 rfl (w.heap.size+1) 0 0 0 rfl (Bk.new (by simp)) rfl ⟨rfl,?_⟩
  go_grown
structure Po where
 x:Nat
 y:Nat
 i:Bool
deriving DecidableEq
def Po.v (p:Po): Value:=pn p.x p.y p.i
def Po.ok (p:Po): Prop:=p.x<W256∧p.y<W256
def iN (z:Nat): Nat:=z ^ (mP - 2) % mP
theorem iN_lt (z:Nat): iN z<W256:=mp_lt _
def J.point (p:J): Po:=if p=J.far then ⟨0,0,true⟩ else ⟨(p.over (iN p.z)).x,(p.over (iN p.z)).y,false⟩
theorem J.point_far {p:J}(h:p=J.far): p.point=⟨0,0,true⟩:=if_pos h
theorem J.point_not {p:J}(h:¬p=J.far): p.point=⟨(p.over (iN p.z)).x,(p.over (iN p.z)).y,false⟩:=if_neg h
theorem zero_pow_mod {z:Nat}(h:z % mP=0): iN z=0:=by
 unfold iN;rw [Nat.pow_mod,h,Nat.zero_pow (by decide +kernel),Nat.zero_mod]
theorem invj (z:Nat)(hz:z<W256): ∃e:Int,∀w,Calls Tryz.prog 157 #[.int .i64 0,nv z] w fun r w'=>r = .returned (.tuple #[nv (iN z),.int .i64 e])∧Below w.heap.size w w':=by
 have h:=inv_any 0 z hz;rw [md0] at h
 by_cases h0:z % mP=0
 ·rw [if_pos h0] at h;exact⟨61,by rw [zero_pow_mod h0];exact h⟩
 ·rw [if_neg h0] at h;exact⟨0,h⟩
theorem point_c (p:J)(hp:p.ok)(w:World):
  Calls Tryz.prog 145 #[p.v] w fun e w'=>e = .returned p.point.v∧Below w.heap.size w w':=by
 have HE:=Lib.hid (eq_far hp)
 by_cases hf:p=J.far
 ·rw [J.point_far hf];rw [decide_eq_true hf] at HE;have heq:=HE.out;clear HE hf hp;obtain⟨x,y,z⟩:=p;simp only [J.v,jn] at heq ⊢;go_enter Tryz.func145,Tryz.ntmps145;go_wp2_with fail;refine ret_cell51 rfl (w.heap.size+1) 0 0 true rfl (Bk.new (by simp)) rfl ⟨rfl,?_⟩
  go_grown
 ·rw [J.point_not hf];rw [decide_eq_false hf] at HE;have heq:=HE.out;obtain⟨ec,hI⟩:=invj p.z hp.2.2;have HI:=Lib.hid hI;have HO:=Lib.hid (overj hp (iN_lt p.z));clear HE hf hp hI;generalize p.over (iN p.z)=q at *;generalize iN p.z=iz at *;obtain⟨x,y,z⟩:=p;obtain⟨qx,qy,qz⟩:=q;simp only [J.v,jn,nv,num] at heq HI HO ⊢;go_enter Tryz.func145,Tryz.ntmps145;go_wp2_with fail;refine(keep w.heap.size w (HI.out _) (by go_grown) (Nat.le_refl _)).mono ?_;rintro e w1 ⟨rfl,hb,hk⟩;have KP:Hid (Bk 162 w1 w.heap.size #[υ x 0,υ x 1,υ x 2,υ x 3,υ y 0,υ y 1,υ y 2,υ y 3,υ z 0,υ z 1,υ z 2,υ z 3]):=Lib.hid (Bk.below (Bk.alloc (Bk.new rfl)) hk);have KZ:Hid (Bk 26 w1 (w.heap.size+1) #[.int .u64 0,.int .u64 0,.int .u64 0,.int .u64 0,.int .u64 0,.int .u64 0,.int .u64 0,.int .u64 0,.bool false]):=Lib.hid (Bk.below (Bk.new (by simp)) hk);have HB:=Lib.hid hb;clear hk hb heq HI;obtain⟨⟨x0,x1,x2,x3⟩,⟨y0,y1,y2,y3⟩,z0,z1,z2,z3⟩:=KP.out.cellsA12;go_wp2_with fail;refine(keep w.heap.size w (HO.out _) (by have hb:=HB.out;have hs:=hb.size;go_grown) (Nat.le_refl _)).mono ?_;rintro e w2 ⟨rfl,hb,hk⟩;have KZ2:=Lib.hid (Bk.below (Bk.alloc KZ.out) hk);have HB2:=Lib.hid hb;clear hk hb KP KZ HB HO x0 x1 x2 x3 y0 y1 y2 y3 z0 z1 z2 z3;obtain⟨⟨f0,f1,f2,f3⟩,⟨f4,f5,f6,f7⟩,f8⟩:=KZ2.out.frosA9;obtain⟨⟨c0,c1,c2,c3⟩,⟨c4,c5,c6,c7⟩,c8⟩:=KZ2.out.cellsA9;go_wp2_with fail;refine ret_cell51 rfl (w.heap.size+1) qx qy false rfl (Bk.put9 (Bk.alloc KZ2.out)) rfl ⟨rfl,?_⟩;have hb:=HB2.out;have hs:=hb.size
  go_grown
theorem pointj {p:J}(hp:p.ok): ∀w,Calls Tryz.prog 145 #[p.v] w fun e w'=>e = .returned p.point.v∧Below w.heap.size w w':=point_c p hp
end
section
open Go.RowKit Go.Sort Limbs
open Go.Lib renaming hid→Φ
def BN:Nat:=41058363725152142129326129780047268409114441015993725554835256314039467401291
theorem nv_BN:nv BN = .agg #[.int .u64 4309448131093880907,.int .u64 7285987128567378166,.int .u64 12964664127075681980,.int .u64 6540974713487397863]:=by
 have h:lb BN 0=4309448131093880907∧lb BN 1=7285987128567378166∧lb BN 2=12964664127075681980∧lb BN 3=6540974713487397863:=by decide +kernel
 unfold nv num;rw [h.1,h.2.1,h.2.2.1,h.2.2.2];rfl
def rightN (x:Nat): Nat:=aj (sj (mj (mj x x) x) (tj x)) BN
def Po.on (p:Po): Bool:=if p.i=true then decide (p.x=0∧p.y=0) else decide (p.x<mP∧p.y<mP∧mj p.y p.y=rightN p.x)
set_option maxHeartbeats 16000000 in
theorem on_c (p:Po)(hp:p.ok)(w:World):
  Calls Tryz.prog 61 #[p.v] w fun e w'=>e = .returned (.bool p.on)∧Below w.heap.size w w':=by
 obtain⟨x,y,i⟩:=p;obtain⟨hx,hy⟩:=hp;simp only [] at hx hy;unfold Po.v;cases i
 ·have e:(Po.mk x y false).on=decide (x<mP∧y<mP∧mj y y=rightN x):=rfl;rw [e];clear e;unfold rightN;have H1:=Φ (mulj hx hx);have H2:=Φ (mulj (mj_lt x x) hx);have H3:=Φ (mulj hy hy);have H4:=Φ (tripj hx);have H5:=Φ (subj (mj_lt (mj x x) x) (tj_lt x));have H6:=Φ (addj (sj_lt (mj (mj x x) x) (tj x)) (show BN<W256 by decide +kernel));have HE:=Φ (fun w=>eqN (mj y y) (aj (sj (mj (mj x x) x) (tj x)) BN) (mj_lt _ _) (aj_lt _ _) w);have HX:=Φ (below_c x hx);have HY:=Φ (below_c y hy);clear hx hy;generalize aj (sj (mj (mj x x) x) (tj x)) BN=rr at *;generalize sj (mj (mj x x) x) (tj x)=d5 at *;generalize tj x=t4 at *;generalize mj (mj x x) x=cube at *;generalize mj x x=sq at *;generalize mj y y=yy at *;rw [nv_BN] at H6;simp only [pn,nv,num] at H1 H2 H3 H4 H5 H6 HX HY HE ⊢
  by_cases hxp:x<mP
  ·rw [decide_eq_true hxp] at HX
   by_cases hyp:y<mP
   ·rw [decide_eq_true hyp] at HY;obtain⟨res,hres⟩:∃z,z=decide (yy=rr):=⟨_,rfl⟩;rw [← hres] at HE;rw [show decide (x<mP∧y<mP∧yy=rr)=res from by rw [hres];simp [hxp,hyp]];clear hres hxp hyp;go_enter Tryz.func61,Tryz.ntmps61;go_wp2_with fail;refine(keep w.heap.size w (HX.out _) (by go_grown) (Nat.le_refl _)).mono ?_;rintro e w1 ⟨rfl,hb,hk⟩;have KP:Hid (Bk 26 w1 w.heap.size #[υ x 0,υ x 1,υ x 2,υ x 3,υ y 0,υ y 1,υ y 2,υ y 3,.bool false]):=Φ (Bk.below (Bk.new rfl) hk);have HB:=Φ hb;clear hk hb HX;obtain⟨⟨x0,x1,x2,x3⟩,⟨y0,y1,y2,y3⟩,i0⟩:=KP.out.cells9;go_wp2_with fail;refine(keep w.heap.size w (HY.out _) HB.out (Nat.le_refl _)).mono ?_;rintro e w2 ⟨rfl,hb,hk⟩;have KP2:Hid (Bk 26 (w2.alloc (.cells #[.int .u64 4309448131093880907,.int .u64 7285987128567378166,.int .u64 12964664127075681980,.int .u64 6540974713487397863] 24)) w.heap.size #[υ x 0,υ x 1,υ x 2,υ x 3,υ y 0,υ y 1,υ y 2,υ y 3,.bool false]):=Φ (Bk.alloc (KP.out.below hk));have KB2:Hid (Bk 24 (w2.alloc (.cells #[.int .u64 4309448131093880907,.int .u64 7285987128567378166,.int .u64 12964664127075681980,.int .u64 6540974713487397863] 24)) w2.heap.size #[.int .u64 4309448131093880907,.int .u64 7285987128567378166,.int .u64 12964664127075681980,.int .u64 6540974713487397863]):=Φ (Bk.new rfl);have HB2:Hid (Below w.heap.size w (w2.alloc (.cells #[.int .u64 4309448131093880907,.int .u64 7285987128567378166,.int .u64 12964664127075681980,.int .u64 6540974713487397863] 24))):=Φ (by have hs:=hb.size;go_grown);clear hk hb HY KP HB x0 x1 x2 x3 y0 y1 y2 y3 i0;go_wp2_with fail;generalize (w2.alloc (.cells #[.int .u64 4309448131093880907,.int .u64 7285987128567378166,.int .u64 12964664127075681980,.int .u64 6540974713487397863] 24))=W at KP2 KB2 HB2 ⊢;generalize w2.heap.size=gb at KB2 ⊢;obtain⟨gp,hgp⟩:∃z,z=w.heap.size:=⟨_,rfl⟩;have e:(Value.pointer (some ⟨w.heap.size,0,none⟩)) = .pointer (some ⟨gp,0,none⟩):=by rw [hgp]
    rw [e];rw [← hgp] at KP2;clear e hgp;refine on6 gp x y sq cube false W KP2.out H1 H2 ?_;intro _ _ _ _ _ _ _ _ g8 W2 hb2 hg8 hk8;have KP3:=Φ (KP2.out.below hb2);have KB3:=Φ (KB2.out.below hb2);have K83:=Φ hk8;have HB3:=Φ (HB2.out.trans (hb2.mono HB2.out.size));clear KP2 KB2 HB2 hb2 hg8 hk8 H1 H2;go_wp2_with fail;obtain⟨⟨x0,x1,x2,x3⟩,⟨y0,y1,y2,y3⟩,i0⟩:=KP3.out.reg9;obtain⟨b0,b1,b2,b3⟩:=KB3.out.reg;obtain⟨c0,c1,c2,c3⟩:=K83.out.reg;have heq:=HE.out;refine wp_region_quiet_below mixed (by kernel_rfl) ?_
    iterate 4 go_big_quiet_step (fail)
    go_big_quiet_step (exact qg H3.out)
    iterate 3 go_big_quiet_step (fail)
    go_big_quiet_step (exact qg H4.out)
    go_big_quiet_step (exact qg H5.out)
    go_big_quiet_step (fail)
    go_big_quiet_step (exact qg H6.out)
    repeat (first | go_big_quiet_step (fail) | quiet_step (fail))
    refine wpQuiet_nil ?_;intro _ hw';obtain⟨⟨dq,osq⟩,hw''⟩:=hw';subst hw'';have HB4:=Φ (HB3.out.trans ((below_regrown W2 dq osq).mono HB3.out.size));go_wp2_with fail;go_ret;exact⟨rfl,HB4.out⟩
   ·rw [decide_eq_false hyp] at HY;rw [show decide (x<mP∧y<mP∧yy=rr)=false from by simp [hyp]];clear hxp hyp;go_enter Tryz.func61,Tryz.ntmps61;go_wp2_with fail;refine(keep w.heap.size w (HX.out _) (by go_grown) (Nat.le_refl _)).mono ?_;rintro e w1 ⟨rfl,hb,hk⟩;have KP:Hid (Bk 26 w1 w.heap.size #[υ x 0,υ x 1,υ x 2,υ x 3,υ y 0,υ y 1,υ y 2,υ y 3,.bool false]):=Φ (Bk.below (Bk.new rfl) hk);have HB:=Φ hb;clear hk hb HX;obtain⟨⟨x0,x1,x2,x3⟩,⟨y0,y1,y2,y3⟩,i0⟩:=KP.out.cells9;go_wp2_with fail;refine(keep w.heap.size w (HY.out _) HB.out (Nat.le_refl _)).mono ?_;rintro e w2 ⟨rfl,hb,hk⟩;go_wp2_with fail;go_ret;exact⟨rfl,hb⟩
  ·rw [decide_eq_false hxp] at HX;rw [show decide (x<mP∧y<mP∧yy=rr)=false from by simp [hxp]];clear hxp;go_enter Tryz.func61,Tryz.ntmps61;go_wp2_with fail;refine(keep w.heap.size w (HX.out _) (by go_grown) (Nat.le_refl _)).mono ?_;rintro e w1 ⟨rfl,hb,hk⟩;go_wp2_with fail;go_ret;exact⟨rfl,hb⟩
 ·have e:(Po.mk x y true).on=decide (x=0∧y=0):=rfl;rw [e];clear e;have HE:=Φ (fun w=>eqP x y 0 0 true true hx hy (by decide) (by decide) w);obtain⟨res,hres⟩:∃z,z=decide (x=0∧y=0):=⟨_,rfl⟩;have e2:decide (x=0∧y=0∧true=true)=res:=by rw [hres];simp
  rw [e2] at HE;rw [← hres];clear e2 hres hx hy;have heq:∀w,(Op.equalIn 10000 26 (.agg #[υ x 0,υ x 1,υ x 2,υ x 3,υ y 0,υ y 1,υ y 2,υ y 3,.bool true]) (.agg #[.int .u64 0,.int .u64 0,.int .u64 0,.int .u64 0,.int .u64 0,.int .u64 0,.int .u64 0,.int .u64 0,.bool true])).run Tryz.prog w = .ok res w:=HE.out;clear HE;simp only [pn];go_enter Tryz.func61,Tryz.ntmps61;go_wp2_with fail;go_ret;refine⟨rfl,?_⟩
  go_grown
theorem onj {p:Po}(hp:p.ok): ∀w,Calls Tryz.prog 61 #[p.v] w fun e w'=>e = .returned (.bool p.on)∧Below w.heap.size w w':=on_c p hp
end
section
open Go.RowKit Go.Sort Limbs
open Go.Lib renaming hid→Φ
set_option maxHeartbeats 8000000
def ngj (y:Nat): Nat:=(mP - y % mP) % mP
def Po.zero:Po:=⟨0,0,false⟩
def Po.far:Po:=⟨0,0,true⟩
def Po.neg (p:Po): Po:=⟨p.x,ngj p.y,p.i⟩
def Po.add (p q:Po): Po:=((J.begin p.x p.y p.i).plus (J.begin q.x q.y q.i)).point
theorem add_p (p q:Po)(hp:p.ok)(hq:q.ok)(w:World):
  Calls Tryz.prog 114 #[p.v,q.v] w fun e w'=>e = .returned (if p.on=true∧q.on=true then .tuple #[(p.add q).v,.int .i64 0] else .tuple #[Po.zero.v,.int .i64 70])∧Below w.heap.size w w':=by
 have HOP:=Φ (onj hp);have HOQ:=Φ (onj hq);have H1:=Φ (fun w=>begin_c p.x p.y p.i w);have H2:=Φ (fun w=>begin_c q.x q.y q.i w);have H3:=Φ (plusj (J.begin_ok (i:=p.i) hp.1 hp.2) (J.begin_ok (i:=q.i) hq.1 hq.2));have H4:=Φ (pointj (J.plus_ok (J.begin_ok (i:=p.i) hp.1 hp.2) (J.begin_ok (i:=q.i) hq.1 hq.2)));unfold Po.add;clear hp hq;generalize ((J.begin p.x p.y p.i).plus (J.begin q.x q.y q.i)).point=res at *;generalize (J.begin p.x p.y p.i).plus (J.begin q.x q.y q.i)=pq at *;generalize J.begin p.x p.y p.i=jp at *;generalize J.begin q.x q.y q.i=jq at *;cases honp:p.on
 ·rw [if_neg (by simp)];rw [honp] at HOP;clear honp HOQ H1 H2 H3 H4;obtain⟨x,y,i⟩:=p;obtain⟨u,v,k⟩:=q;simp only [Po.v,pn] at HOP ⊢;go_enter Tryz.func114,Tryz.ntmps114;go_wp2_with fail;refine(keep w.heap.size w (HOP.out _) (by go_grown) (Nat.le_refl _)).mono ?_;rintro e w1 ⟨rfl,hb,hk⟩;have KZ:Hid (Bk 26 w1 (w.heap.size+1+1) #[.int .u64 0,.int .u64 0,.int .u64 0,.int .u64 0,.int .u64 0,.int .u64 0,.int .u64 0,.int .u64 0,.bool false]):=Φ (Bk.below (Bk.new (by simp)) hk);have HB:=Φ hb;clear hk hb HOP;obtain⟨⟨f0,f1,f2,f3⟩,⟨f4,f5,f6,f7⟩,f8⟩:=KZ.out.fros9;obtain⟨⟨c0,c1,c2,c3⟩,⟨c4,c5,c6,c7⟩,c8⟩:=KZ.out.cells9;go_wp2_with fail;refine ret_cell51e rfl (w.heap.size+1+1) 0 0 false (.int .i64 70) rfl rfl (Bk.put9 KZ.out) rfl ⟨rfl,?_⟩;have hb:=HB.out
  go_grown
 cases honq:q.on
 ·rw [if_neg (by simp)];rw [honp] at HOP;rw [honq] at HOQ;clear honp honq H1 H2 H3 H4;obtain⟨x,y,i⟩:=p;obtain⟨u,v,k⟩:=q;simp only [Po.v,pn] at HOP HOQ ⊢;go_enter Tryz.func114,Tryz.ntmps114;go_wp2_with fail;refine(keep w.heap.size w (HOP.out _) (by go_grown) (Nat.le_refl _)).mono ?_;rintro e w1 ⟨rfl,hb,hk⟩;have KQ:Hid (Bk 26 w1 (w.heap.size+1) #[υ u 0,υ u 1,υ u 2,υ u 3,υ v 0,υ v 1,υ v 2,υ v 3,.bool k]):=Φ (Bk.below (Bk.alloc (Bk.new (by simp))) hk);have KZ:Hid (Bk 26 w1 (w.heap.size+1+1) #[.int .u64 0,.int .u64 0,.int .u64 0,.int .u64 0,.int .u64 0,.int .u64 0,.int .u64 0,.int .u64 0,.bool false]):=Φ (Bk.below (Bk.new (by simp)) hk);have HB:=Φ hb;clear hk hb HOP;obtain⟨⟨x0,x1,x2,x3⟩,⟨y0,y1,y2,y3⟩,i0⟩:=KQ.out.cells9;go_wp2_with fail;refine(keep w.heap.size w (HOQ.out _) HB.out (Nat.le_refl _)).mono ?_;rintro e w2 ⟨rfl,hb,hk⟩;have KZ2:=Φ (Bk.below KZ.out hk);have HB2:=Φ hb;clear hk hb KQ KZ HB HOQ x0 x1 x2 x3 y0 y1 y2 y3 i0;obtain⟨⟨f0,f1,f2,f3⟩,⟨f4,f5,f6,f7⟩,f8⟩:=KZ2.out.fros9;obtain⟨⟨c0,c1,c2,c3⟩,⟨c4,c5,c6,c7⟩,c8⟩:=KZ2.out.cells9;go_wp2_with fail;refine ret_cell51e rfl (w.heap.size+1+1) 0 0 false (.int .i64 70) rfl rfl (Bk.put9 KZ2.out) rfl ⟨rfl,?_⟩;have hb:=HB2.out
  go_grown
 rw [if_pos (by simp)];rw [honp] at HOP;rw [honq] at HOQ;clear honp honq;obtain⟨x,y,i⟩:=p;obtain⟨u,v,k⟩:=q;obtain⟨rx,ry,ri⟩:=res;obtain⟨px,py,pz⟩:=jp;obtain⟨qx,qy,qz⟩:=jq;obtain⟨sx,sy,sz⟩:=pq;simp only [Po.v,pn,J.v,jn] at HOP HOQ H1 H2 H3 H4 ⊢;go_enter Tryz.func114,Tryz.ntmps114;go_wp2_with fail;refine(keep w.heap.size w (HOP.out _) (by go_grown) (Nat.le_refl _)).mono ?_;rintro e w1 ⟨rfl,hb,hk⟩;have KP:Hid (Bk 26 w1 w.heap.size #[υ x 0,υ x 1,υ x 2,υ x 3,υ y 0,υ y 1,υ y 2,υ y 3,.bool i]):=Φ (Bk.below (Bk.alloc (Bk.alloc (Bk.new rfl))) hk);have KQ:Hid (Bk 26 w1 (w.heap.size+1) #[υ u 0,υ u 1,υ u 2,υ u 3,υ v 0,υ v 1,υ v 2,υ v 3,.bool k]):=Φ (Bk.below (Bk.alloc (Bk.new (by simp))) hk);have KZ:Hid (Bk 26 w1 (w.heap.size+1+1) #[.int .u64 0,.int .u64 0,.int .u64 0,.int .u64 0,.int .u64 0,.int .u64 0,.int .u64 0,.int .u64 0,.bool false]):=Φ (Bk.below (Bk.new (by simp)) hk);have HB:=Φ hb;clear hk hb HOP;obtain⟨⟨x0,x1,x2,x3⟩,⟨y0,y1,y2,y3⟩,i0⟩:=KQ.out.cells9;go_wp2_with fail;refine(keep w.heap.size w (HOQ.out _) HB.out (Nat.le_refl _)).mono ?_;rintro e w2 ⟨rfl,hb,hk⟩;have KP2:=Φ (Bk.below KP.out hk);have KQ2:=Φ (Bk.below KQ.out hk);have KZ2:=Φ (Bk.below KZ.out hk);have HB2:=Φ hb;clear hk hb KP KQ KZ HB HOQ x0 x1 x2 x3 y0 y1 y2 y3 i0;go_wp2_with fail;obtain⟨⟨x0,x1,x2,x3⟩,⟨y0,y1,y2,y3⟩,i0⟩:=KP2.out.reg9;obtain⟨⟨u0,u1,u2,u3⟩,⟨v0,v1,v2,v3⟩,k0⟩:=KQ2.out.reg9;refine wp_region_below_tail 6 mixed (by kernel_rfl) ?_;simp only [List.take_succ_cons,List.take_zero,List.drop_succ_cons,List.drop_zero]
 go_big_quiet_step (fail)
 go_big_quiet_step (exact qg H1.out)
 go_big_quiet_step (fail)
 go_big_quiet_step (exact qg H2.out)
 go_big_quiet_step (exact qg H3.out)
 go_big_quiet_step (exact qg H4.out)
 refine wpQuiet_nil ?_;intro _ hw';obtain⟨⟨dq,osq⟩,hw''⟩:=hw';subst hw'';have KZ3:=Φ (KZ2.out.regrown dq osq);have HB3:=Φ (HB2.out.trans ((below_regrown w2 dq osq).mono HB2.out.size));clear KP2 KQ2 KZ2 HB2 x0 x1 x2 x3 y0 y1 y2 y3 i0 u0 u1 u2 u3 v0 v1 v2 v3 k0 H1 H2 H3 H4;generalize grow (redrawn w2 dq) osq=V at KZ3 HB3 ⊢;obtain⟨⟨f0,f1,f2,f3⟩,⟨f4,f5,f6,f7⟩,f8⟩:=KZ3.out.fros9;obtain⟨⟨c0,c1,c2,c3⟩,⟨c4,c5,c6,c7⟩,c8⟩:=KZ3.out.cells9;go_wp2_with fail;refine ret_cell51e rfl (w.heap.size+1+1) rx ry ri (.int .i64 0) rfl rfl (Bk.put9 KZ3.out) rfl ⟨rfl,?_⟩;have hb:=HB3.out
 go_grown
theorem addp {p q:Po}(hp:p.ok)(hq:q.ok): ∀w,Calls Tryz.prog 114 #[p.v,q.v] w fun e w'=>e = .returned (if p.on=true∧q.on=true then .tuple #[(p.add q).v,.int .i64 0] else .tuple #[Po.zero.v,.int .i64 70])∧Below w.heap.size w w':=add_p p q hp hq
end
section
open Go.RowKit Go.Sort Limbs
def Po.bytes (p:Po): List UInt8:=if p.i=true then [0] else 4::(nb p.x++nb p.y)
theorem ext_ba (l:List UInt8)(a n:Nat): (⟨l.toArray⟩:ByteArray).extract a (a+n)=⟨((l.drop a).take n).toArray⟩:=by
 apply ByteArray.ext
 simp [ByteArray.data_extract,List.extract_eq_take_drop]
def xOf (s:List UInt8): Nat:=bv ((s.drop 1).take 32)
def yOf (s:List UInt8): Nat:=bv (s.drop 33)
def Po.of (s:List UInt8): Option Po:=
 if s=[0] then some ⟨0,0,true⟩
 else if s.length=65∧s.take 1=[4]∧xOf s<mP∧yOf s<mP∧(Po.mk (xOf s) (yOf s) false).on=true then some ⟨xOf s,yOf s,false⟩ else none
def Po.ret:Option Po→Value
 |some p=> .tuple #[p.v,.int .i64 0]
 |none=> .tuple #[pn 0 0 false,.int .i64 71]
theorem on_lt {x y:Nat}(h:(Po.mk x y false).on=true): x<mP∧y<mP:=by
 have e:(Po.mk x y false).on=decide (x<mP∧y<mP∧mj y y=rightN x):=rfl;rw [e] at h
 have:=of_decide_eq_true h
 exact⟨this.1,this.2.1⟩
theorem on_far {x y:Nat}(h:(Po.mk x y true).on=true): x=0∧y=0:=by
 have e:(Po.mk x y true).on=decide (x=0∧y=0):=rfl;rw [e] at h;exact of_decide_eq_true h
end
end Go.Proofs.YtpggkfdijmnmiaaGreat
namespace Go.Proofs.YtpggkfdijmnmiaaGreat
open Go.RowKit Go.Sort Limbs
theorem lG:pn 48439561293906451759052585252797914202762949526041747995844080717082404635286 36134250956749795798585127919587881956611106672985015071877198253568414405109 false = .agg #[.int .u64 17627433388654248598,.int .u64 8575836109218198432,.int .u64 17923454489921339634,.int .u64 7716867327612699207,.int .u64 14678990851816772085,.int .u64 3156516839386865358,.int .u64 10297457778147434006,.int .u64 5756518291402817435,.bool false]:=by
 have h:lb 48439561293906451759052585252797914202762949526041747995844080717082404635286 0=17627433388654248598∧lb 48439561293906451759052585252797914202762949526041747995844080717082404635286 1=8575836109218198432∧lb 48439561293906451759052585252797914202762949526041747995844080717082404635286 2=17923454489921339634∧lb 48439561293906451759052585252797914202762949526041747995844080717082404635286 3=7716867327612699207∧lb 36134250956749795798585127919587881956611106672985015071877198253568414405109 0=14678990851816772085∧lb 36134250956749795798585127919587881956611106672985015071877198253568414405109 1=3156516839386865358∧lb 36134250956749795798585127919587881956611106672985015071877198253568414405109 2=10297457778147434006∧lb 36134250956749795798585127919587881956611106672985015071877198253568414405109 3=5756518291402817435:=by decide +kernel
 unfold pn;rw [h.1];rw [h.2.1];rw [h.2.2.1];rw [h.2.2.2.1];rw [h.2.2.2.2.1];rw [h.2.2.2.2.2.1];rw [h.2.2.2.2.2.2.1];rw [h.2.2.2.2.2.2.2];rfl
def G:Po:=⟨48439561293906451759052585252797914202762949526041747995844080717082404635286,36134250956749795798585127919587881956611106672985015071877198253568414405109,false⟩
def NG:Po:=⟨48439561293906451759052585252797914202762949526041747995844080717082404635286,79657838253606452964112319029819691573475036742305299123656433055298683448842,false⟩
theorem G_ok:G.ok:=⟨by decide +kernel,by decide +kernel⟩
theorem G_on:G.on=true:=by decide +kernel
theorem vG:G.v = .agg #[.int .u64 17627433388654248598,.int .u64 8575836109218198432,.int .u64 17923454489921339634,.int .u64 7716867327612699207,.int .u64 14678990851816772085,.int .u64 3156516839386865358,.int .u64 10297457778147434006,.int .u64 5756518291402817435,.bool false]:=lG
theorem kBase:∀w,Calls Tryz.prog 48 #[] w fun e w'=>e = .returned (.agg #[.int .u64 17627433388654248598,.int .u64 8575836109218198432,.int .u64 17923454489921339634,.int .u64 7716867327612699207,.int .u64 14678990851816772085,.int .u64 3156516839386865358,.int .u64 10297457778147434006,.int .u64 5756518291402817435,.bool false])∧Below w.heap.size w w':=fun w=>by
 go_enter Tryz.func48,Tryz.ntmps48;go_wp2_with fail;rw [← lG];refine ret_cell51 rfl w.heap.size 48439561293906451759052585252797914202762949526041747995844080717082404635286 36134250956749795798585127919587881956611106672985015071877198253568414405109 false rfl ?_ rfl ⟨rfl,?_⟩
 ·have h:=lG;unfold pn at h
  injection h with h
  unfold cs9;rw [h];exact Bk.new rfl
 ·go_grown
theorem kRBase:∀w,Calls Tryz.prog 94 #[] w fun e w'=>e = .returned (.agg #[.int .u64 17627433388654248598,.int .u64 8575836109218198432,.int .u64 17923454489921339634,.int .u64 7716867327612699207,.int .u64 14678990851816772085,.int .u64 3156516839386865358,.int .u64 10297457778147434006,.int .u64 5756518291402817435,.bool false])∧Below w.heap.size w w':=fun w=>by
 go_enter Tryz.func94,Tryz.ntmps94;go_wp2_with fail;rw [← lG];refine ret_cell51 rfl w.heap.size 48439561293906451759052585252797914202762949526041747995844080717082404635286 36134250956749795798585127919587881956611106672985015071877198253568414405109 false rfl ?_ rfl ⟨rfl,?_⟩
 ·have h:=lG;unfold pn at h
  injection h with h
  unfold cs9;rw [h];exact Bk.new rfl
 ·go_grown
end Go.Proofs.YtpggkfdijmnmiaaGreat
namespace Go.Proofs.YtpggkfdijmnmiaaGreat
open Go.RowKit Go.Sort Limbs
end Go.Proofs.YtpggkfdijmnmiaaGreat
namespace Go.Proofs.YtpggkfdijmnmiaaGreat
open Go.RowKit Go.Sort Limbs
end Go.Proofs.YtpggkfdijmnmiaaGreat
namespace Go.Proofs.YtpggkfdijmnmiaaGreat
end Go.Proofs.YtpggkfdijmnmiaaGreat
namespace Go.Proofs.YtpggkfdijmnmiaaGreat.Curve
def PP:Nat:=115792089210356248762697446949407573530086143415290314195533631308867097853951
theorem PP_prime:Primes.Prm PP:=Primes.P256
theorem PP_pos:0<PP:=by decide
instance:NeZero PP:=⟨by decide⟩
def c (n:Nat): Fin PP:=⟨n % PP,Nat.mod_lt _ PP_pos⟩
theorem val_c (n:Nat): (c n).val=n % PP:=rfl
theorem c_val (x:Fin PP): c x.val=x:=Fin.ext (by rw [val_c,Nat.mod_eq_of_lt x.isLt])
theorem val_add (x y:Fin PP): (x+y).val=(x.val+y.val) % PP:=rfl
theorem val_mul (x y:Fin PP): (x*y).val=x.val*y.val % PP:=rfl
theorem c_eq {a b:Nat}: c a=c b↔a % PP=b % PP:=⟨fun h=>congrArg Fin.val h,fun h=>Fin.ext h⟩
theorem c_mod (a:Nat): c (a % PP)=c a:=c_eq.2 (Nat.mod_mod _ _)
theorem c_add (a b:Nat): c (a+b)=c a+c b:=Fin.ext (by rw [val_add,val_c,val_c,val_c,Nat.add_mod])
theorem c_mul (a b:Nat): c (a*b)=c a*c b:=Fin.ext (by rw [val_mul,val_c,val_c,val_c,Nat.mul_mod])
theorem c_one:c 1=1:=rfl
theorem c_three:c 3=3:=rfl
theorem neg_x {x y:Fin PP}(h:x+y=0): x = -y:=by grobner
theorem c_opp (a:Nat): c (PP - a % PP) = - c a:=by
 refine neg_x ?_;rw [← c_mod a,← c_add,Nat.sub_add_cancel (Nat.le_of_lt (Nat.mod_lt _ PP_pos))];exact Fin.ext (by rw [val_c];decide +kernel)
def inv (x:Fin PP): Fin PP:=c (x.val ^ (PP - 2) % PP)
theorem mul_inv (x:Fin PP)(h:x≠0): x*inv x=1:=by
 have hv:x.val≠0:=fun h0=>h (Fin.ext h0)
 have hd:¬PP ∣ x.val:=fun hd=>by
  have:=Nat.le_of_dvd (Nat.pos_of_ne_zero hv) hd
  have:=x.isLt
  omega
 have hf:=Primes.fermat PP_prime hd;apply Fin.ext
 rw [val_mul,inv,val_c,Nat.mod_mod,Nat.mul_mod,Nat.mod_mod,← Nat.mul_mod,← Nat.pow_succ',show(PP - 2).succ=PP - 1 by decide,hf];rfl
def np (x:Fin PP): Nat→Fin PP
 |0=>1
 |n+1=>np x n*x
theorem val_np (x:Fin PP): ∀n,(np x n).val=x.val ^ n % PP:=by
 intro n
 induction n with
 |zero=>rfl
 |succ n ih=>rw [np,val_mul,ih,Nat.pow_succ,Nat.mod_mul_mod]
theorem np_PP (x:Fin PP): np x PP=x:=by
 apply Fin.ext
 rw [val_np,Primes.fermat_all PP_prime,Nat.mod_eq_of_lt x.isLt]
end Go.Proofs.YtpggkfdijmnmiaaGreat.Curve
namespace Go.Proofs.YtpggkfdijmnmiaaGreat.Curve
inductive Pt (K:Type) where
 |far:Pt K
 |aff:K→K→Pt K
section
variable {N:Nat} [NeZero N]
def On (a b:Fin N): Pt (Fin N)→Prop
 |.far=>True
 |.aff x y=>y*y=x*x*x+a*x+b
def neg:Pt (Fin N)→Pt (Fin N)
 |.far=> .far
 |.aff x y=> .aff x (-y)
def Line (a b l n x1 x2 x3:Fin N): Prop:=x1+x2+x3=l*l∧x1*x2+x1*x3+x2*x3=a - 2*l*n∧x1*x2*x3=n*n - b
theorem Line.on1 {a b l n x1 x2 x3:Fin N}(h:Line a b l n x1 x2 x3): (l*x1+n)*(l*x1+n)=x1*x1*x1+a*x1+b:=by
 obtain⟨e1,e2,e3⟩:=h
 grobner
theorem line_of {a b l n x1 x2 x3:Fin N}(h:(l*x1+n)*(l*x1+n)=x1*x1*x1+a*x1+b)(e1:x1+x2+x3=l*l)(e2:x1*x2+x1*x3+x2*x3=a - 2*l*n): Line a b l n x1 x2 x3:=by
 refine⟨e1,e2,?_⟩
 grobner
theorem Line.swap {a b l n x1 x2 x3:Fin N}(h:Line a b l n x1 x2 x3): Line a b l n x2 x1 x3:=by
 obtain⟨e1,e2,e3⟩:=h;exact⟨by clear e2 e3;grobner,by clear e1 e3;grobner,by clear e1 e2;grobner⟩
theorem Line.turn {a b l n x1 x2 x3:Fin N}(h:Line a b l n x1 x2 x3): Line a b l n x3 x1 x2:=by
 obtain⟨e1,e2,e3⟩:=h;exact⟨by clear e2 e3;grobner,by clear e1 e3;grobner,by clear e1 e2;grobner⟩
theorem Line.opp {a b l n x1 x2 x3:Fin N}(h:Line a b l n x1 x2 x3): Line a b (-l) (-n) x1 x2 x3:=by
 obtain⟨e1,e2,e3⟩:=h;exact⟨by clear e2 e3;grobner,by clear e1 e3;grobner,by clear e1 e2;grobner⟩
theorem canc {d e x y:Fin N}(h:d*e=1)(hx:d*x=d*y): x=y:=by grobner
theorem sub3 {p q u l:Fin N}(e1:p+q+u=l*l): p=l*l - q - u:=by grobner
theorem subv {r q v m:Fin N}(e1:r+q+v=m*m): v=m*m - r - q:=by grobner
theorem subn {n l q m k:Fin N}(hq:l*q+n=m*q+k): n=m*q+k-l*q:=by grobner
theorem suba {a r q v m k:Fin N}(f2:r*q+r*v+q*v=a - 2*m*k): a=r*q+r*v+q*v+2*m*k:=by grobner
theorem h1x {q u r l m k s:Fin N}(hs:(l - m)*s=l*m - q - r - u)
 (e2:(l*l - q - u)*q+(l*l - q - u)*u+q*u=r*q+r*(m*m - r - q)+q*(m*m - r - q)+2*m*k - 2*l*(m*q+k-l*q)):(l - m)*(s*u+((m*r+k) - s*r))=(l - m)*(-(l*u+(m*q+k-l*q))):=by grobner
theorem h2x {q u r l m k s:Fin N}(hs:(l - m)*s=l*m - q - r - u)
 (e2:(l*l - q - u)*q+(l*l - q - u)*u+q*u=r*q+r*(m*m - r - q)+q*(m*m - r - q)+2*m*k - 2*l*(m*q+k-l*q)):(l - m)*((l - m)*(r*u+r*(s*s - r - u)+u*(s*s - r - u)))=(l - m)*((l - m)*(r*q+r*(m*m - r - q)+q*(m*m - r - q)+2*m*k - 2*s*(m*r+k - s*r))):=by grobner
theorem h3x {q u r l m k s:Fin N}(hs:(l - m)*s=l*m - q - r - u)
 (e2:(l*l - q - u)*q+(l*l - q - u)*u+q*u=r*q+r*(m*m - r - q)+q*(m*m - r - q)+2*m*k - 2*l*(m*q+k-l*q)):(l - m)*((s+(l - m))*(m*m - r - q)+((l*(l*l - q - u)+(m*q+k-l*q)) - (s+(l - m))*(l*l - q - u)))=(l - m)*(-(m*(m*m - r - q)+k)):=by grobner
theorem h4x {q u r l m k s:Fin N}(hs:(l - m)*s=l*m - q - r - u)
 (e2:(l*l - q - u)*q+(l*l - q - u)*u+q*u=r*q+r*(m*m - r - q)+q*(m*m - r - q)+2*m*k - 2*l*(m*q+k-l*q)):(l - m)*((s+(l - m))*(s*s - r - u)+((l*(l*l - q - u)+(m*q+k-l*q)) - (s+(l - m))*(l*l - q - u)))=(l - m)*(s*(s*s - r - u)+((m*r+k) - s*r)):=by grobner
theorem h5x {q u r l m k s:Fin N}(hs:(l - m)*s=l*m - q - r - u)
 (e2:(l*l - q - u)*q+(l*l - q - u)*u+q*u=r*q+r*(m*m - r - q)+q*(m*m - r - q)+2*m*k - 2*l*(m*q+k-l*q)):(l - m)*((l - m)*((l*l - q - u)*(m*m - r - q)+(l*l - q - u)*(s*s - r - u)+(m*m - r - q)*(s*s - r - u)))=(l - m)*((l - m)*(r*q+r*(m*m - r - q)+q*(m*m - r - q)+2*m*k - 2*(s+(l - m))*((l*(l*l - q - u)+(m*q+k-l*q)) - (s+(l - m))*(l*l - q - u)))):=by grobner
theorem h6x {q u r l m s:Fin N}(hs:(l - m)*s=l*m - q - r - u): (l*l - q - u)+(m*m - r - q)+(s*s - r - u)=(s+(l - m))*(s+(l - m)):=by grobner
theorem e2x {q u r l m k n v p a:Fin N}(e2:p*q+p*u+q*u=a - 2*l*n)(f2:r*q+r*v+q*v=a - 2*m*k): p*q+p*u+q*u=r*q+r*v+q*v+2*m*k - 2*l*n:=by grobner
theorem k1x {r u s:Fin N}: r+u+(s*s - r - u)=s*s:=by grobner
theorem k2x {m r k s:Fin N}: s*r+(m*r+k - s*r)=m*r+k:=by grobner
theorem t2 {a b p q u r v l m n k s w e':Fin N}(hd0:(l - m)*e'=1)(hq:l*q+n=m*q+k)
 (e:Line a b l n p q u) (f:Line a b m k r q v)
 (hs:(l - m)*s=l*m - q - r - u) (hw:w=s*s - r - u) :
 (Line a b s ((m*r+k) - s*r) r u w∧s*u+((m*r+k) - s*r) = -(l*u+n))∧
 Line a b (s+(l - m)) ((l*p+n) - (s+(l - m))*p) p v w∧(s+(l - m))*v+((l*p+n) - (s+(l - m))*p) = -(m*v+k)∧(s+(l - m))*w+((l*p+n) - (s+(l - m))*p)=s*w+((m*r+k) - s*r):=by
 have hR:=f.on1;have hP:=e.on1;obtain⟨e1,e2,e3⟩:=e;obtain⟨f1,f2,f3⟩:=f;have e2':=e2x e2 f2;have hv:=subv f1;have hp:=sub3 e1;have hn:=subn hq;have ha:=suba f2;rw [hv,hp,hn] at e2';refine⟨⟨line_of (by rw [k2x];exact hR) (by rw [hw,k1x]) ?_,?_⟩,line_of (by rw [k2x];exact hP) (by rw [hw,hv,hp];exact h6x hs) ?_,?_,?_⟩
 ·rw [ha,hw,hv];exact canc hd0 (canc hd0 (h2x hs e2'))
 ·rw [hn];exact canc hd0 (h1x hs e2')
 ·rw [ha,hw,hv,hp,hn];exact canc hd0 (canc hd0 (h5x hs e2'))
 ·rw [hv,hp,hn];exact canc hd0 (h3x hs e2')
 ·rw [hw,hp,hn];exact canc hd0 (h4x hs e2')
def slope (iv:Fin N→Fin N)(a x1 y1 x2 y2:Fin N): Fin N:=if x1=x2 then (3*(x1*x1)+a)*iv (y1+y1) else (y2-y1)*iv (x2-x1)
def sum (iv:Fin N→Fin N)(a:Fin N): Pt (Fin N)→Pt (Fin N)→Pt (Fin N)
 |.far,q=>q
 |.aff x1 y1,.far=> .aff x1 y1
 |.aff x1 y1,.aff x2 y2=>
  if x1=x2∧y1 = -y2 then .far
  else .aff (slope iv a x1 y1 x2 y2*slope iv a x1 y1 x2 y2 - x1 - x2) (slope iv a x1 y1 x2 y2*(x1 - (slope iv a x1 y1 x2 y2*slope iv a x1 y1 x2 y2 - x1 - x2)) - y1)
variable {iv:Fin N→Fin N}
structure Fit (iv:Fin N→Fin N)(a b:Fin N): Prop where
 inv:∀x:Fin N,x≠0→x*iv x=1
 two:(2:Fin N)≠0
 odd:∀x:Fin N,x*x*x+a*x+b≠0
theorem zero_of {x y e:Fin N}(h:x*y=0)(he:x*e=1): y=0:=by grobner
theorem Fit.mul_zero {a b:Fin N}(H:Fit iv a b){x y:Fin N}(h:x*y=0): x=0∨y=0:=by
 by_cases hx:x=0
 ·exact Or.inl hx
 ·exact Or.inr (zero_of h (H.inv x hx))
theorem y0x {x a b:Fin N}(h:(0:Fin N)*0=x*x*x+a*x+b): x*x*x+a*x+b=0:=by grobner
theorem two_x {y:Fin N}(h:y+y=0): 2*y=0:=by grobner
theorem Fit.y {a b:Fin N}(H:Fit iv a b){x y:Fin N}(h:y*y=x*x*x+a*x+b): y≠0:=by
 rintro rfl;exact H.odd x (y0x h)
theorem Fit.yy {a b:Fin N}(H:Fit iv a b){x y:Fin N}(h:y*y=x*x*x+a*x+b): y+y≠0:=by
 intro h2;rcases H.mul_zero (x:=2) (y:=y) (two_x h2) with h3 | h3
 ·exact H.two h3
 ·exact H.y h h3
theorem sq_x {y1 y2 z:Fin N}(h1:y1*y1=z)(h2:y2*y2=z): (y1 - y2)*(y1+y2)=0:=by grobner
theorem eq_of_sub {x y:Fin N}(h:x - y=0): x=y:=by grobner
theorem sub_of_ne {x y:Fin N}(h:x≠y): y - x≠0:=fun h0=>h (eq_of_sub h0).symm
theorem neg_of_add {x y:Fin N}(h:x+y=0): x = -y:=by grobner
theorem same_y {a b:Fin N}(H:Fit iv a b){x y1 y2:Fin N}(h1:y1*y1=x*x*x+a*x+b)(h2:y2*y2=x*x*x+a*x+b)(hn:¬(x=x∧y1 = -y2)): y1=y2:=by
 rcases H.mul_zero (sq_x h1 h2) with h | h
 ·exact eq_of_sub h
 ·exact absurd ⟨rfl,neg_of_add h⟩ hn
theorem tan_s {x y a i:Fin N}(h0:(y+y)*i=1): (3*(x*x)+a)*i*(y+y)=3*(x*x)+a:=by grobner
theorem cho_s {x1 x2 y1 y2 i:Fin N}(h0:(x2-x1)*i=1): (y2-y1)*i*(x2-x1)=y2-y1:=by grobner
theorem tan_l {x y a b s:Fin N}(h:y*y=x*x*x+a*x+b)(hs:s*(y+y)=3*(x*x)+a): x*x+x*(s*s - x - x)+x*(s*s - x - x)=a - 2*s*(y - s*x):=by grobner
theorem cho_l {x1 x2 y1 y2 a b s e:Fin N}(h1:y1*y1=x1*x1*x1+a*x1+b)(h2:y2*y2=x2*x2*x2+a*x2+b)(hs:s*(x2-x1)=y2-y1): (x2-x1)*(x1*x2+x1*(s*s - x1 - x2)+x2*(s*s - x1 - x2))=(x2-x1)*(a - 2*s*(y1 - s*x1)):=by grobner
theorem cho_y {x1 x2 y1 y2 s:Fin N}(hs:s*(x2-x1)=y2-y1): y2=s*x2+(y1 - s*x1):=by grobner
theorem on_x {x y s:Fin N}: s*x+(y - s*x)=y:=by grobner
theorem sum_x {x1 x2 s:Fin N}: x1+x2+(s*s - x1 - x2)=s*s:=by grobner
theorem line_ex {a b:Fin N}(H:Fit iv a b){x1 y1 x2 y2:Fin N}(h1:y1*y1=x1*x1*x1+a*x1+b)(h2:y2*y2=x2*x2*x2+a*x2+b)(hn:¬(x1=x2∧y1 = -y2)):
  ∃s n x,Line a b s n x1 x2 x∧y1=s*x1+n∧y2=s*x2+n:=by
 refine⟨slope iv a x1 y1 x2 y2,y1 - slope iv a x1 y1 x2 y2*x1,slope iv a x1 y1 x2 y2*slope iv a x1 y1 x2 y2 - x1 - x2,?_⟩
 by_cases hx:x1=x2
 ·subst hx;obtain rfl:=same_y H h1 h2 hn;have hs:slope iv a x1 y1 x1 y1*(y1+y1)=3*(x1*x1)+a:=by
   unfold slope;rw [if_pos rfl];exact tan_s (H.inv _ (H.yy h1))
  generalize slope iv a x1 y1 x1 y1=s at hs ⊢;exact⟨line_of (by rw [on_x];exact h1) sum_x (tan_l h1 hs),on_x.symm,on_x.symm⟩
 ·have hi:=H.inv _ (sub_of_ne hx);have hs:slope iv a x1 y1 x2 y2*(x2 - x1)=y2 - y1:=by
   unfold slope;rw [if_neg hx];exact cho_s hi
  generalize slope iv a x1 y1 x2 y2=s at hs ⊢;exact⟨line_of (by rw [on_x];exact h1) sum_x (canc hi (cho_l (e:=0) h1 h2 hs)),on_x.symm,cho_y hs⟩
theorem opp_x {l n x:Fin N}(h:l*x+n = -(l*x+n)): (l*x+n)+(l*x+n)=0:=by grobner
theorem tan_u {a b l n x x3:Fin N}(e1:x+x+x3=l*l)(e2:x*x+x*x3+x*x3=a - 2*l*n): ((l*x+n)+(l*x+n))*l=3*(x*x)+a:=by grobner
theorem cho_u {l n x1 x2:Fin N}: (x2 - x1)*l=(l*x2+n) - (l*x1+n):=by grobner
theorem iv_l {d e l z:Fin N}(h0:d*e=1)(h:d*l=z): z*e=l:=by grobner
theorem third_x {x1 x2 x3 l:Fin N}(e1:x1+x2+x3=l*l): l*l - x1 - x2=x3:=by grobner
theorem third_y {x1 x3 l n:Fin N}: l*(x1 - x3) - (l*x1+n) = -(l*x3+n):=by grobner
theorem sum_line {a b:Fin N}(H:Fit iv a b){l n x1 x2 x3:Fin N}(h:Line a b l n x1 x2 x3):
  sum iv a (.aff x1 (l*x1+n)) (.aff x2 (l*x2+n)) = .aff x3 (-(l*x3+n)):=by
 have o1:=h.on1;have hn:¬(x1=x2∧l*x1+n = -(l*x2+n)):=by
  rintro⟨rfl,h2⟩;exact H.yy o1 (opp_x h2)
 have hs:slope iv a x1 (l*x1+n) x2 (l*x2+n)=l:=by
  unfold slope
  by_cases hx:x1=x2
  ·subst hx;rw [if_pos rfl];exact iv_l (H.inv _ (H.yy o1)) (tan_u (b:=b) h.1 h.2.1)
  ·rw [if_neg hx];exact iv_l (H.inv _ (sub_of_ne hx)) cho_u
 simp only [sum];rw [if_neg hn,hs,third_x h.1,third_y]
theorem neg2 (y:Fin N): - -y=y:=by grobner
theorem on_neg {a b:Fin N}{p:Pt (Fin N)}(h:On a b p): On a b (neg p):=by
 cases p
 ·trivial
 ·rename_i x y;have : -y * -y=y*y:=by grobner
  simp only [On,neg] at h ⊢;rw [this];exact h
theorem neg_neg (p:Pt (Fin N)): neg (neg p)=p:=by
 cases p
 ·rfl
 ·simp only [neg,neg2]
theorem sum_far (iv:Fin N→Fin N)(a:Fin N)(p:Pt (Fin N)): sum iv a p .far=p:=by cases p<;>rfl
theorem far_sum (iv:Fin N→Fin N)(a:Fin N)(p:Pt (Fin N)): sum iv a .far p=p:=by cases p<;>rfl
theorem sum_neg (iv:Fin N→Fin N)(a:Fin N)(p:Pt (Fin N)): sum iv a p (neg p) = .far:=by
 cases p
 ·rfl
 ·simp only [neg,sum];rw [if_pos (by rw [neg2];trivial)]
theorem neg_sum (iv:Fin N→Fin N)(a:Fin N)(p:Pt (Fin N)): sum iv a (neg p) p = .far:=by
 have:=sum_neg iv a (neg p)
 rwa [neg_neg] at this
theorem two_points {a b:Fin N}(H:Fit iv a b){p q:Pt (Fin N)}(hp:On a b p)(hq:On a b q):
  p = .far∨q = .far∨q=neg p∨∃l n x1 x2 x3,Line a b l n x1 x2 x3∧p = .aff x1 (l*x1+n)∧q = .aff x2 (l*x2+n)∧sum iv a p q = .aff x3 (-(l*x3+n)):=by
 cases p with
 |far=>exact Or.inl rfl
 |aff x1 y1=>
  cases q with
  |far=>exact Or.inr (Or.inl rfl)
  |aff x2 y2=>
   by_cases h:x1=x2∧y1 = -y2
   ·refine Or.inr (Or.inr (Or.inl ?_));obtain⟨rfl,rfl⟩:=h;exact(neg_neg _).symm
   ·obtain⟨s,n,x,hl,e1,e2⟩:=line_ex H hp hq h;refine Or.inr (Or.inr (Or.inr ⟨s,n,x1,x2,x,hl,?_,?_,?_⟩))
    ·rw [← e1]
    ·rw [← e2]
    ·rw [e1,e2];exact sum_line H hl
theorem sum_comm {a b:Fin N}(H:Fit iv a b){p q:Pt (Fin N)}(hp:On a b p)(hq:On a b q): sum iv a p q=sum iv a q p:=by
 rcases two_points H hp hq with rfl | rfl | rfl | ⟨l,n,x1,x2,x3,hl,rfl,rfl,hs⟩
 ·rw [sum_far,far_sum]
 ·rw [sum_far,far_sum]
 ·rw [sum_neg,neg_sum]
 ·rw [hs,sum_line H hl.swap]
theorem negsq {y z:Fin N}(h:y*y=z): -y * -y=z:=by grobner
theorem on_sum {a b:Fin N}(H:Fit iv a b){p q:Pt (Fin N)}(hp:On a b p)(hq:On a b q): On a b (sum iv a p q):=by
 rcases two_points H hp hq with rfl | rfl | rfl | ⟨l,n,x1,x2,x3,hl,rfl,rfl,hs⟩
 ·rwa [far_sum]
 ·rwa [sum_far]
 ·rw [sum_neg];trivial
 ·rw [hs];exact negsq hl.turn.on1
theorem opp1 (l n x:Fin N): -l*x + -n = -(l*x+n):=by grobner
theorem sum_back {a b:Fin N}(H:Fit iv a b){p q:Pt (Fin N)}(hp:On a b p)(hq:On a b q): sum iv a (neg p) (sum iv a p q)=q:=by
 rcases two_points H hp hq with rfl | rfl | rfl | ⟨l,n,x1,x2,x3,hl,rfl,rfl,hs⟩
 ·rw [far_sum];exact far_sum _ _ _
 ·rw [sum_far,neg_sum]
 ·rw [sum_neg,sum_far]
 ·rw [hs];have h:=sum_line H (hl.turn.swap.opp);rw [opp1,opp1,opp1,neg2] at h;exact h
theorem same_n {l q n k:Fin N}(h:l*q+n=l*q+k): n=k:=by grobner
theorem same_z {x1 x2 u x3 v l n a:Fin N}(e1:x1+x2+u=l*l)(f1:x2+x3+v=l*l)(e2:x1*x2+x1*u+x2*u=a - 2*l*n)(f2:x2*x3+x2*v+x3*v=a - 2*l*n): (x1 - x3)*(x1 - v)=0:=by grobner
theorem same_u {x1 x2 u v l:Fin N}(e1:x1+x2+u=l*l)(f1:x2+x1+v=l*l): u=v:=by grobner
theorem same_v {x1 x2 u x3 l:Fin N}(e1:x1+x2+u=l*l)(f1:x2+x3+x1=l*l): u=x3:=by grobner
theorem mul_iv {d i z:Fin N}(h:d*i=1): d*(z*i)=z:=by grobner
theorem sum_assoc {a b:Fin N}(H:Fit iv a b){p q r:Pt (Fin N)}(hp:On a b p)(hq:On a b q)(hr:On a b r):
  sum iv a (sum iv a p q) r=sum iv a p (sum iv a q r):=by
 rcases two_points H hp hq with rfl | rfl | rfl | ⟨l,n,x1,x2,u,hl,rfl,hq2,hs⟩
 ·rw [far_sum,far_sum]
 ·rw [sum_far,far_sum]
 ·rw [sum_neg,far_sum]
  have:=sum_back H (on_neg hp) hr
  rw [neg_neg] at this;exact this.symm
 ·rcases two_points H hq hr with rfl | rfl | rfl | ⟨m,k,q',x3,v,hm,hq3,rfl,ht⟩
  ·cases hq2
  ·rw [sum_far,sum_far]
  ·rw [sum_neg,sum_far,sum_comm H hp hq];have h1:=sum_back H hq hp;rw [sum_comm H (on_sum H hq hp) (on_neg hq),h1]
  ·rw [hs,ht];rw [hq2] at hq3
   injection hq3 with h1 h2
   subst h1
   by_cases hd:l - m=0
   ·obtain rfl:=eq_of_sub hd;obtain rfl:=same_n h2;have hP:=hl;obtain⟨e1,e2,e3⟩:=hl;obtain⟨f1,f2,f3⟩:=hm;rcases H.mul_zero (same_z e1 f1 e2 f2) with hz | hz
    ·obtain rfl:=eq_of_sub hz;obtain rfl:=same_u e1 f1;exact sum_comm H (p:= .aff u (-(l*u+n))) (q:= .aff x1 (l*x1+n)) (a:=a) (b:=b) (negsq hP.turn.on1) hP.on1
    ·obtain rfl:=eq_of_sub hz;obtain rfl:=same_v e1 f1;have h1:=neg_sum iv a (.aff u (l*u+n));have h2:=sum_neg iv a (.aff x1 (l*x1+n));simp only [neg] at h1 h2;rw [h1,h2]
   ·have hi:=H.inv _ hd;have hs':=mul_iv (z:=l*m - x2 - x3 - u) hi;obtain⟨⟨g1,g2⟩,g3,g4,g5⟩:=t2 hi h2 hl hm.swap hs' rfl;have j1:=sum_line H g1.swap;have j2:=sum_line H g3;rw [g2,k2x] at j1;rw [g4,g5,k2x] at j2;rw [j1,j2]
end
end Go.Proofs.YtpggkfdijmnmiaaGreat.Curve
namespace Go.Proofs.YtpggkfdijmnmiaaGreat.Curve
def BB:Nat:=41058363725152142129326129780047268409114441015993725554835256314039467401291
def aP:Fin PP:= -3
def bP:Fin PP:=c BB
theorem two_ne:(2:Fin PP)≠0:=by intro h;have:=congrArg Fin.val h;revert this;decide +kernel
structure Tri where
 o:Nat
 l:Nat
 q:Nat
deriving DecidableEq
def NB:Nat:=74733725485204106633371317169360305120971702399296588640698374994827630452660
theorem c_NB:c NB = -bP:=by
 refine neg_x ?_;unfold bP;rw [← c_add];exact Fin.ext (by rw [val_c];decide +kernel)
def mulT (u v:Tri): Tri:=
 ⟨(u.o*v.o+NB*(u.l*v.q+u.q*v.l)) % PP,(u.o*v.l+u.l*v.o+3*(u.l*v.q+u.q*v.l)+NB*(u.q*v.q)) % PP,(u.o*v.q+u.l*v.l+u.q*v.o+3*(u.q*v.q)) % PP⟩
def ev (r:Fin PP)(t:Tri): Fin PP:=c t.o+c t.l*r+c t.q*(r*r)
theorem ev_x0 {r a b u0 u1 u2 v0 v1 v2:Fin PP}(h:r*r*r+a*r+b=0)(ha:a = -3):
  (u0*v0 + -b*(u1*v2+u2*v1))+(u0*v1+u1*v0+3*(u1*v2+u2*v1) + -b*(u2*v2))*r+(u0*v2+u1*v1+u2*v0+3*(u2*v2))*(r*r)=(u0+u1*r+u2*(r*r))*(v0+v1*r+v2*(r*r)):=by grobner
theorem ev_mul {r:Fin PP}(h:r*r*r+aP*r+bP=0)(u v:Tri): ev r (mulT u v)=ev r u*ev r v:=by
 unfold ev mulT;simp only [c_mod,c_add,c_mul,c_NB,c_three];exact ev_x0 h rfl
def powT:Nat→Nat→Tri
 |0,_=>⟨1,0,0⟩
 |f+1,e=>if e % 2=1 then mulT (mulT (powT f (e / 2)) (powT f (e / 2))) ⟨0,1,0⟩ else mulT (powT f (e / 2)) (powT f (e / 2))
theorem one_y {r o z:Fin PP}(hz:z=0): o+z*r+z*(r*r)=o:=by grobner
theorem x_y {r o z:Fin PP}(hz:z=0)(ho:o=1): z+o*r+z*(r*r)=r:=by grobner
theorem ev_one (r:Fin PP): ev r ⟨1,0,0⟩=1:=one_y (o:=1) rfl
theorem ev_x (r:Fin PP): ev r ⟨0,1,0⟩=r:=x_y (z:=0) (o:=1) rfl rfl
theorem np_step (r:Fin PP)(n:Nat): np r (n+1)=np r n*r:=rfl
theorem mul_one_x (x:Fin PP): x*1=x:=by grobner
theorem mul_ass_x (x y z:Fin PP): x*(y*z)=x*y*z:=by grobner
theorem np_add (r:Fin PP)(m n:Nat): np r (m+n)=np r m*np r n:=by
 induction n with
 |zero=>exact(mul_one_x _).symm
 |succ n ih=>rw [← Nat.add_assoc,np_step,ih,np_step,mul_ass_x]
theorem ev_pow {r:Fin PP}(h:r*r*r+aP*r+bP=0): ∀f e,e<2 ^ f→ev r (powT f e)=np r e:=by
 intro f
 induction f with
 |zero=>
  intro e he;obtain rfl:e=0:=by omega
  exact ev_one r
 |succ f ih=>
  intro e he;have h2:e / 2<2 ^ f:=by rw [Nat.pow_succ] at he;omega
  have hi:=ih _ h2;unfold powT
  by_cases ho:e % 2=1
  ·rw [if_pos ho,ev_mul h,ev_mul h,hi,ev_x,← np_add,← np_step]
   congr 1;omega
  ·rw [if_neg ho,ev_mul h,hi,← np_add]
   congr 1;omega
theorem powT_PP:powT 256 PP=⟨66434390973925144466073271287821796038003695194169110494110089305650096453661,12402202686218762177567235911775779164004716598278868847786114277539554646092,24678849118215552148312087830792888746041224110560601850711771001608500700145⟩:=by decide +kernel
theorem bez:mulT ⟨76626890310466861426869089647039036757962535851890885406097439786770458211455,74462945259064871768191128030512052509059297803194871526163573358218695456204,34768139465301476436978405170953382516735956999154666452188405812258086013549⟩ ⟨66434390973925144466073271287821796038003695194169110494110089305650096453661,12402202686218762177567235911775779164004716598278868847786114277539554646091,24678849118215552148312087830792888746041224110560601850711771001608500700145⟩=⟨1,0,0⟩:=by decide +kernel
theorem h2_x {r g0 g1 g2:Fin PP}(h:g0+(g1+1)*r+g2*(r*r)=r): g0+g1*r+g2*(r*r)=0:=by grobner
theorem mul_zero_x (x:Fin PP): x*0=0:=by grobner
theorem no_root (r:Fin PP): r*r*r+aP*r+bP≠0:=by
 intro h;have h1:=ev_pow h 256 PP (by decide +kernel);rw [np_PP,powT_PP] at h1;have h2:ev r ⟨66434390973925144466073271287821796038003695194169110494110089305650096453661,12402202686218762177567235911775779164004716598278868847786114277539554646091,24678849118215552148312087830792888746041224110560601850711771001608500700145⟩=0:=by
  have h3:(12402202686218762177567235911775779164004716598278868847786114277539554646092:Nat)=12402202686218762177567235911775779164004716598278868847786114277539554646091+1:=by decide +kernel
  rw [h3] at h1;unfold ev at h1 ⊢;simp only [c_add,c_one] at h1 ⊢;exact h2_x h1
 have h4:=ev_mul h ⟨76626890310466861426869089647039036757962535851890885406097439786770458211455,74462945259064871768191128030512052509059297803194871526163573358218695456204,34768139465301476436978405170953382516735956999154666452188405812258086013549⟩ ⟨66434390973925144466073271287821796038003695194169110494110089305650096453661,12402202686218762177567235911775779164004716598278868847786114277539554646091,24678849118215552148312087830792888746041224110560601850711771001608500700145⟩;rw [bez,ev_one,h2,mul_zero_x] at h4
 have:=congrArg Fin.val h4
 revert this
 decide +kernel
theorem fit:Fit inv aP bP:=⟨mul_inv,two_ne,no_root⟩
end Go.Proofs.YtpggkfdijmnmiaaGreat.Curve
namespace Go.Proofs.YtpggkfdijmnmiaaGreat
open Curve
theorem mPP:mP=PP:=rfl
theorem c_mj (a b:Nat): c (mj a b)=c a*c b:=by unfold mj;rw [mPP,c_mod,c_mul]
theorem c_aj (a b:Nat): c (aj a b)=c a+c b:=by unfold aj;rw [mPP,c_mod,c_add]
theorem sub_x (x y:Fin PP): x + -y=x - y:=by grobner
theorem c_sj (a b:Nat): c (sj a b)=c a - c b:=by unfold sj;rw [mPP,c_mod,c_add,c_opp,sub_x]
theorem three_x (x:Fin PP): x+x+x=3*x:=by grobner
theorem c_tj (a:Nat): c (tj a)=3*c a:=by unfold tj;rw [c_aj,c_aj,three_x]
theorem c_iN (z:Nat): c (iN z)=inv (c z):=by
 unfold iN inv;rw [mPP];apply c_eq.2
 rw [val_c,Nat.mod_mod,Nat.mod_mod,← Nat.pow_mod]
theorem c_inj {a b:Nat}(ha:a<mP)(hb:b<mP)(h:c a=c b): a=b:=by
 have:=c_eq.1 h
 rwa [← mPP,Nat.mod_eq_of_lt ha,Nat.mod_eq_of_lt hb] at this
theorem mj_p (a b:Nat): mj a b<mP:=Nat.mod_lt _ (by decide +kernel)
theorem aj_p (a b:Nat): aj a b<mP:=Nat.mod_lt _ (by decide +kernel)
theorem sj_p (a b:Nat): sj a b<mP:=Nat.mod_lt _ (by decide +kernel)
def J.lt (p:J): Prop:=p.x<mP∧p.y<mP∧p.z<mP
theorem J.lt.ok {p:J}(h:p.lt): p.ok:=⟨Nat.lt_trans h.1 (by decide +kernel),Nat.lt_trans h.2.1 (by decide +kernel),Nat.lt_trans h.2.2 (by decide +kernel)⟩
theorem J.over_p (p:J)(f:Nat): (p.over f).lt:=⟨mj_p _ _,mj_p _ _,mj_p _ _⟩
theorem J.along_p (p:J)(r o:Nat)(h:p.z<mP): (p.along r o).lt:=⟨sj_p _ _,sj_p _ _,h⟩
def Near (p:J)(i X Y:Fin PP): Prop:=p.lt∧c p.z*i=1∧X=c p.x*(i*i)∧Y=c p.y*(i*i*i)
def Rep (p:J)(P:Pt (Fin PP)): Prop:=(p=J.far∧P = .far)∨∃i X Y,Near p i X Y∧P = .aff X Y
theorem one_ne:(1:Fin PP)≠0:=by intro h;have:=congrArg Fin.val h;revert this;decide +kernel
theorem zero_mul_x (x:Fin PP): 0*x=0:=by grobner
theorem Near.ne {p:J}{i X Y:Fin PP}(h:Near p i X Y): p≠J.far:=by
 rintro rfl
 have:=h.2.1
 rw [show c J.far.z=0 from rfl,zero_mul_x] at this;exact one_ne this.symm
theorem over_z {z f i j:Fin PP}(h:z*i=1)(hf:f*j=1): z*f*(i*j)=1:=by grobner
theorem over_xx {x i f j:Fin PP}(hf:f*j=1): x*(f*f)*(i*j*(i*j))=x*(i*i):=by grobner
theorem over_yy {y i f j:Fin PP}(hf:f*j=1): y*(f*f*f)*(i*j*(i*j)*(i*j))=y*(i*i*i):=by grobner
theorem Near.over {p:J}{i X Y j:Fin PP}{f:Nat}(h:Near p i X Y)(hf:c f*j=1): Near (p.over f) (i*j) X Y:=by
 obtain⟨_,hz,hx,hy⟩:=h;refine⟨J.over_p _ _,?_,?_,?_⟩
 ·show c (mj p.z f)*(i*j)=1
  rw [c_mj];exact over_z hz hf
 ·show X=c (mj p.x (mj f f))*(i*j*(i*j))
  rw [c_mj,c_mj,over_xx hf];exact hx
 ·show Y=c (mj p.y (mj (mj f f) f))*(i*j*(i*j)*(i*j))
  rw [c_mj,c_mj,c_mj,over_yy hf];exact hy
theorem al_x {r x o i s X O:Fin PP}(hs:s=r*i)(hX:X=x*(i*i))(hO:O=o*(i*i)): (r*r - x - o)*(i*i)=s*s - X - O:=by grobner
theorem al_y {r x y z i s X Y W:Fin PP}(hs:s=r*i)(hX:X=x*(i*i))(hY:Y=y*(i*i*i))(hW:W=z*(i*i)): (r*(x - z) - y)*(i*i*i)=s*(X - W) - Y:=by grobner
theorem Near.along {p:J}{i X Y s O:Fin PP}{r o:Nat}(h:Near p i X Y)(hs:s=c r*i)(hO:O=c o*(i*i)):
  Near (p.along r o) i (s*s - X - O) (s*(X - (s*s - X - O)) - Y):=by
 obtain⟨hp,hz,hx,hy⟩:=h;refine⟨J.along_p _ _ _ hp.2.2,hz,?_,?_⟩
 ·show s*s - X - O=c (sj (sj (mj r r) p.x) o)*(i*i)
  rw [c_sj,c_sj,c_mj];exact(al_x hs hx hO).symm
 ·show s*(X - (s*s - X - O)) - Y=c (sj (mj r (sj p.x (sj (sj (mj r r) p.x) o))) p.y)*(i*i*i)
  rw [c_sj,c_mj,c_sj,c_sj,c_sj,c_mj];exact(al_y hs hx hy (al_x hs hx hO).symm).symm
theorem iv_one {d a b:Fin PP}(h1:d*a=1)(h2:d*b=1): a=b:=by grobner
theorem dbl_s {x y z i j:Fin PP}(hz:z*i=1)(hj:(y+y)*j=1): (y*(i*i*i)+y*(i*i*i))*(3*((x - z*z)*(x+z*z))*(i*j))=3*(x*(i*i)*(x*(i*i))) + -3:=by grobner
theorem dbl_n {y i z:Fin PP}(hz:z*i=1)(h:y+y=0): y*(i*i*i)+y*(i*i*i)=0:=by grobner
theorem opp_z {y:Fin PP}(h:y = -y): y+y=0:=by grobner
theorem right_x {x a b:Fin PP}(ha:a = -3): x*x*x - 3*x+b=x*x*x+a*x+b:=by grobner
theorem one_one:(1:Fin PP)*1=1:=by decide +kernel
theorem one_x2 {x:Fin PP}: x=x*(1*1):=by grobner
theorem one_x3 {x:Fin PP}: x=x*(1*1*1):=by grobner
theorem sl_x {d e s t:Fin PP}(h:d*e=1)(hs:d*s=t): t*e=s:=by grobner
theorem Rep.twice {p:J}{P:Pt (Fin PP)}(h:Rep p P)(hP:On aP bP P): Rep p.twice (sum inv aP P P):=by
 rcases h with ⟨rfl,rfl⟩ | ⟨i,X,Y,h,rfl⟩
 ·rw [J.twice_far rfl];exact Or.inl ⟨rfl,rfl⟩
 ·have hyy:=fit.yy hP;rw [J.twice_not h.ne];have hz:=h.2.1;have hf:c p.y+c p.y≠0:=fun h0=>hyy (by rw [h.2.2.2];exact dbl_n hz h0)
  have hj:=mul_inv _ hf;have ho:=h.over (f:=aj p.y p.y) (j:=inv (c p.y+c p.y)) (by rw [c_aj];exact hj);have ha:=ho.along (r:=tj (mj (sj p.x (mj p.z p.z)) (aj p.x (mj p.z p.z)))) (o:=(p.over (aj p.y p.y)).x) rfl rfl;have hO:c (p.over (aj p.y p.y)).x*(i*inv (c p.y+c p.y)*(i*inv (c p.y+c p.y)))=X:=ho.2.2.1.symm;rw [hO] at ha;have hs:c (tj (mj (sj p.x (mj p.z p.z)) (aj p.x (mj p.z p.z))))*(i*inv (c p.y+c p.y))=slope inv aP X Y X Y:=by
   rw [c_tj,c_mj,c_sj,c_aj,c_mj];unfold slope;rw [if_pos rfl];refine(sl_x (mul_inv _ hyy) ?_).symm;rw [h.2.2.1,h.2.2.2];exact dbl_s hz hj
  rw [hs] at ha;refine Or.inr ⟨_,_,_,ha,?_⟩;simp only [sum];rw [if_neg (fun hc=>hyy (opp_z hc.2))]
theorem co_x {x x' k z:Fin PP}(hz:z*k=1)(h:x*(k*k)=x'*(k*k)): x=x':=by grobner
theorem co_y {y y' k z:Fin PP}(hz:z*k=1)(h:y*(k*k*k)=y'*(k*k*k)): y=y':=by grobner
theorem ch_s {x x' y y' k n:Fin PP}(hn:(x' - x)*n=1): (x'*(k*k) - x*(k*k))*((y' - y)*(k*n))=y'*(k*k*k) - y*(k*k*k):=by grobner
theorem ch_o {x' k n d:Fin PP}(hn:d*n=1): x'*(d*d)*(k*n*(k*n))=x'*(k*k):=by grobner
theorem com_x (x y:Fin PP): x*y=y*x:=by grobner
theorem Rep.plus {p q:J}{P Q:Pt (Fin PP)}(h:Rep p P)(k:Rep q Q)(hP:On aP bP P)(hQ:On aP bP Q): Rep (p.plus q) (sum inv aP P Q):=by
 rcases h with ⟨rfl,rfl⟩ | ⟨i,X,Y,h,rfl⟩
 ·rw [J.plus_1 rfl,far_sum];exact k
 rcases k with ⟨rfl,rfl⟩ | ⟨j,U,V,k,rfl⟩
 ·rw [J.plus_2 h.ne rfl,sum_far];exact Or.inr ⟨i,X,Y,h,rfl⟩
 have h':=h.over k.2.1;have k':=k.over h.2.1;rw [com_x j i] at k';have ez:(p.over q.z).z=(q.over p.z).z:=by show mj p.z q.z=mj q.z p.z;unfold mj;rw [Nat.mul_comm]
 have hz:=h'.2.1
 by_cases h3:p.over q.z=q.over p.z
 ·rw [J.plus_3 h.ne k.ne h3];have e1:U=X:=by rw [h'.2.2.1,k'.2.2.1,h3]
  have e2:V=Y:=by rw [h'.2.2.2,k'.2.2.2,h3]
  rw [e1,e2];exact Rep.twice (Or.inr ⟨_,_,_,h',rfl⟩) hP
 by_cases h4:(p.over q.z).x=(q.over p.z).x
 ·rw [J.plus_4 h.ne k.ne h3 h4];refine Or.inl ⟨rfl,?_⟩;have e1:X=U:=by rw [h'.2.2.1,k'.2.2.1,h4]
  have e2:Y≠V:=by
   intro e2;rw [h'.2.2.2,k'.2.2.2] at e2;have e3:=c_inj (J.over_p p q.z).2.1 (J.over_p q p.z).2.1 (co_y hz e2);apply h3
   generalize p.over q.z=a at *;generalize q.over p.z=b at *;obtain⟨a1,a2,a3⟩:=a;obtain⟨b1,b2,b3⟩:=b;simp only [] at h4 e3 ez;rw [h4,e3,ez]
  subst e1;simp only [sum];refine if_pos ⟨trivial,?_⟩;rcases fit.mul_zero (sq_x hP hQ) with h5 | h5
  ·exact absurd (eq_of_sub h5) e2
  ·exact neg_of_add h5
 ·rw [J.plus_5 h.ne k.ne h3 h4];have hXU:X≠U:=by
   intro e;rw [h'.2.2.1,k'.2.2.1] at e;exact h4 (c_inj (J.over_p p q.z).1 (J.over_p q p.z).1 (co_x hz e))
  have hd:c (q.over p.z).x - c (p.over q.z).x≠0:=fun h0=>h4 (c_inj (J.over_p p q.z).1 (J.over_p q p.z).1 (eq_of_sub h0).symm)
  have hn:=mul_inv _ hd;have ho:=h'.over (f:=sj (q.over p.z).x (p.over q.z).x) (j:=inv (c (q.over p.z).x - c (p.over q.z).x)) (by rw [c_sj];exact hn);have ha:=ho.along (r:=sj (q.over p.z).y (p.over q.z).y) (o:=mj (q.over p.z).x (mj (sj (q.over p.z).x (p.over q.z).x) (sj (q.over p.z).x (p.over q.z).x))) rfl rfl;have hO:c (mj (q.over p.z).x (mj (sj (q.over p.z).x (p.over q.z).x) (sj (q.over p.z).x (p.over q.z).x)))*(i*j*inv (c (q.over p.z).x - c (p.over q.z).x)*(i*j*inv (c (q.over p.z).x - c (p.over q.z).x)))=U:=by
   rw [c_mj,c_mj,c_sj,ch_o hn];exact k'.2.2.1.symm
  have hs:c (sj (q.over p.z).y (p.over q.z).y)*(i*j*inv (c (q.over p.z).x - c (p.over q.z).x))=slope inv aP X Y U V:=by
   rw [c_sj];unfold slope;rw [if_neg hXU];refine(sl_x (mul_inv _ (sub_of_ne hXU)) ?_).symm;rw [h'.2.2.1,h'.2.2.2,k'.2.2.1,k'.2.2.2];exact ch_s hn
  rw [hO,hs] at ha;refine Or.inr ⟨_,_,_,ha,?_⟩;simp only [sum];rw [if_neg (fun hc=>hXU hc.1)]
def toPt (p:Po): Pt (Fin PP):=if p.i=true then .far else .aff (c p.x) (c p.y)
def ofPt:Pt (Fin PP)→Po
 |.far=>⟨0,0,true⟩
 |.aff x y=>⟨x.val,y.val,false⟩
theorem val_of {n:Nat}{x:Fin PP}(hn:n<mP)(h:x=c n): n=x.val:=by
 rw [h,val_c,Nat.mod_eq_of_lt (show n<PP from hn)]
theorem end_x {x i j z:Fin PP}(h1:z*i=1)(h2:z*j=1): x*(j*j)=x*(i*i):=by grobner
theorem end_y {y i j z:Fin PP}(h1:z*i=1)(h2:z*j=1): y*(j*j*j)=y*(i*i*i):=by grobner
theorem ne_of_inv {z i:Fin PP}(h:z*i=1): z≠0:=by
 rintro rfl;rw [zero_mul_x] at h;exact one_ne h.symm
theorem Rep.point {p:J}{P:Pt (Fin PP)}(h:Rep p P): p.point=ofPt P:=by
 rcases h with ⟨rfl,rfl⟩ | ⟨i,X,Y,h,rfl⟩
 ·exact J.point_far rfl
 ·rw [J.point_not h.ne];have hj:=mul_inv _ (ne_of_inv h.2.1);have e1:X=c (p.over (iN p.z)).x:=by
   show X=c (mj p.x (mj (iN p.z) (iN p.z)))
   rw [c_mj,c_mj,c_iN,h.2.2.1,end_x h.2.1 hj]
  have e2:Y=c (p.over (iN p.z)).y:=by
   show Y=c (mj p.y (mj (mj (iN p.z) (iN p.z)) (iN p.z)))
   rw [c_mj,c_mj,c_mj,c_iN,h.2.2.2,end_y h.2.1 hj]
  rw [val_of (J.over_p p (iN p.z)).1 e1,val_of (J.over_p p (iN p.z)).2.1 e2];rfl
theorem c_BN:c BN=bP:=rfl
theorem c_right (x:Nat): c (rightN x)=c x*c x*c x+aP*c x+bP:=by
 unfold rightN;rw [c_aj,c_sj,c_mj,c_mj,c_tj,c_BN];exact right_x rfl
theorem on_iff {p:Po}: p.on=true→On aP bP (toPt p)∧ofPt (toPt p)=p∧Rep (J.begin p.x p.y p.i) (toPt p):=by
 intro h;obtain⟨x,y,i⟩:=p;cases i
 ·obtain⟨hx,hy⟩:=on_lt h;have e:(Po.mk x y false).on=decide (x<mP∧y<mP∧mj y y=rightN x):=rfl;rw [e] at h;have h3:=(of_decide_eq_true h).2.2;have h4:=congrArg c h3;rw [c_mj,c_right] at h4;refine⟨h4,?_,Or.inr ⟨1,c x,c y,⟨⟨hx,hy,by show 1<mP;decide +kernel⟩,one_one,one_x2,one_x3⟩,rfl⟩⟩
  show Po.mk (c x).val (c y).val false=_
  rw [val_c,val_c,← mPP,Nat.mod_eq_of_lt hx,Nat.mod_eq_of_lt hy]
 ·obtain⟨rfl,rfl⟩:=on_far h;exact⟨trivial,rfl,Or.inl ⟨rfl,rfl⟩⟩
theorem on_ofPt {P:Pt (Fin PP)}(h:On aP bP P): (ofPt P).on=true∧toPt (ofPt P)=P∧(ofPt P).ok:=by
 cases P with
 |far=>exact⟨by decide,rfl,by decide,by decide⟩
 |aff x y=>
  have hx:=x.isLt;have hy:=y.isLt;refine⟨?_,?_,Nat.lt_trans hx (by decide +kernel),Nat.lt_trans hy (by decide +kernel)⟩
  ·have e:(Po.mk x.val y.val false).on=decide (x.val<mP∧y.val<mP∧mj y.val y.val=rightN x.val):=rfl
   show(Po.mk x.val y.val false).on=true
   rw [e];refine decide_eq_true ⟨hx,hy,c_inj (mj_p _ _) (aj_p _ _) ?_⟩;rw [c_mj]
   show _=c (rightN x.val)
   rw [c_right,c_val,c_val];exact h
  ·show Pt.aff (c x.val) (c y.val)=_
   rw [c_val,c_val]
theorem add_is {p q:Po}(hp:p.on=true)(hq:q.on=true): p.add q=ofPt (sum inv aP (toPt p) (toPt q)):=by
 obtain⟨o1,_,r1⟩:=on_iff hp;obtain⟨o2,_,r2⟩:=on_iff hq;exact(r1.plus r2 o1 o2).point
def mul (P:Pt (Fin PP)): Nat→Pt (Fin PP)
 |0=> .far
 |n+1=>sum inv aP (mul P n) P
theorem mul_zero_p (P:Pt (Fin PP)): mul P 0 = .far:=rfl
theorem mul_succ_p (P:Pt (Fin PP))(n:Nat): mul P (n+1)=sum inv aP (mul P n) P:=rfl
theorem on_far_p:On aP bP .far:=trivial
theorem mul_on {P:Pt (Fin PP)}(h:On aP bP P)(n:Nat): On aP bP (mul P n):=by
 induction n with
 |zero=>exact on_far_p
 |succ n ih=>exact on_sum fit ih h
theorem mul_add {P:Pt (Fin PP)}(h:On aP bP P)(m n:Nat): mul P (m+n)=sum inv aP (mul P m) (mul P n):=by
 induction n with
 |zero=>rw [mul_zero_p,sum_far];rfl
 |succ n ih=>rw [← Nat.add_assoc,mul_succ_p,ih,mul_succ_p,sum_assoc fit (mul_on h m) (mul_on h n) h]
theorem mul_mul {P:Pt (Fin PP)}(h:On aP bP P)(m n:Nat): mul (mul P n) m=mul P (m*n):=by
 induction m with
 |zero=>rw [Nat.zero_mul];rfl
 |succ m ih=>rw [mul_succ_p,ih,Nat.succ_mul,mul_add h]
theorem mul_one_p {P:Pt (Fin PP)}: mul P 1=P:=far_sum _ _ _
theorem mul_two {P:Pt (Fin PP)}(h:On aP bP P)(n:Nat): sum inv aP (mul P n) (mul P n)=mul P (2*n):=by
 rw [← mul_add h,Nat.two_mul]
end Go.Proofs.YtpggkfdijmnmiaaGreat
namespace Go.Proofs.YtpggkfdijmnmiaaGreat
end Go.Proofs.YtpggkfdijmnmiaaGreat
