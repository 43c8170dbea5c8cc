/- A few laws of one operation, of numbers' sizes, and of the i -/
import Derived.Test.YtpggkfdijmnmiaaGreatZw09
import Derived.Test.YtpggkfdijmnmiaaGreatZw17
set_option linter.unusedVariables false
set_option linter.unusedSimpArgs false
set_option maxRecDepth 100000
namespace Go.Proofs.YtpggkfdijmnmiaaGreat
namespace Ref
open Go.RowKit Go.Proofs.YtpggkfdijmnmiaaGreat.Digits Inver
open Go.Lib renaming hid→Φ
theorem md_odd (m:Int): md m % 2=1:=by
 rcases md_or m with h | h<;>rw [h]<;>decide +kernel
theorem md_one (m:Int): 1<md m:=by
 rcases md_or m with h | h<;>rw [h]<;>decide +kernel
structure Inv4 (w wr:World)(p a:Nat)(vp u v x y:Value)(U V X Y:Nat): Prop where
 np:NV wr vp p
 nu:NV wr u U
 nv:NV wr v V
 nx:NV wr x X
 ny:NV wr y Y
 kx:Keeps p a U X
 ky:Keeps p a V Y
 cop:Nat.Coprime U V
 lu:U≤p
 lv:V≤p
 b:Below w.heap.size w wr
theorem Inv4.keep {w wr w':World}{p a:Nat}{vp u v x y:Value}{U V X Y:Nat}(h:Inv4 w wr p a vp u v x y U V X Y)(hb:Below wr.heap.size wr w'): Inv4 w w' p a vp u v x y U V X Y:=
 ⟨h.np.below hb,h.nu.below hb,h.nv.below hb,h.nx.below hb,h.ny.below hb,h.kx,h.ky,h.cop,h.lu,h.lv,h.b.trans (hb.mono h.b.size)⟩
theorem half_pos {u:Nat}(h:0<u)(he:u % 2=0): 0<u / 2:=by omega
theorem half_lt {u:Nat}(h:0<u): u / 2<u:=by omega
set_option maxHeartbeats 16000000 in
theorem inverse_nv (m:Int)(v:Value)(w:World)(a:Nat)(ha:a<big)(h0:a % md m≠0)(h:NV w v a):
  Calls Tryz.prog 64 #[.int .i64 m,v] w fun e w'=>∃v' z,e = .returned v'∧Nr w w' v' z∧z<md m∧z*a % md m=1:=by
 have HM:=Φ (modref_any m w);have HL:=Φ (fun u w' k=>left_nv v u w' a (md m) (Nat.lt_of_lt_of_le ha big_sq) (md_big m) (md_pos m) k);have HH:=Φ h;have hodd:=md_odd m;have h1p:=md_one m;have hbig:=md_big m;have hcop:Nat.Coprime (a % md m) (md m):=by
  have:=(md_prime (md_or m)).cop (a:=a) (fun hd=>h0 (Nat.mod_eq_zero_of_dvd hd))
  rw [Nat.Coprime,← Nat.gcd_rec];exact this
 have hap:=Nat.mod_lt a (md_pos m);generalize md m=p at *;have HK:Hid (p % 2=1∧1<p∧p<big):=Φ ⟨hodd,h1p,hbig⟩;have HC:=Φ hcop;have HAP:=Φ (Nat.le_of_lt hap);have K1:Hid (Keeps p a (a % p) 1):=Φ (Keeps.start h1p);have K2:Hid (Keeps p a p 0):=Φ (Keeps.none h1p);clear h h0 hodd h1p hbig hcop hap ha;go_enter Tryz.func64,Tryz.ntmps64;go_wp2_with fail;refine(nk w.heap.size w HM.out (Below.refl _ _) (Nat.le_refl _)).mono ?_;rintro e w1 ⟨vp,rfl,n1,hb1,hk1⟩;have N1:=Φ n1;have HB1:=Φ hb1;clear n1 hb1 hk1 HM;go_wp2_with fail;refine(nk w.heap.size w (HL.out vp w1 (HH.out.below HB1.out) N1.out) HB1.out (Nat.le_refl _)).mono ?_;rintro e w2 ⟨v2,rfl,n2,hb2,hk2⟩;have NP:=Φ (N1.out.below hk2);have NU:=Φ n2;have HB2:=Φ hb2;clear n2 hb2 hk2 HB1 N1;go_wp2_with fail;have I0:Hid (Inv4 w ((w2.alloc (.cells #[.int .u32 1] 111)).alloc (.cells #[] 111)) p a vp v2 vp (.slice (some ⟨w2.heap.size,0,none⟩) 1 1) (.slice (some ⟨w2.heap.size+1,0,none⟩) 0 0) (a % p) p 1 0):=Φ
  ⟨(NP.out.al _).al _,(NU.out.al _).al _,(NP.out.al _).al _,(nv_one w2).al _,by have:=nv_nil (w2.alloc (.cells #[.int .u32 1] 111));simpa using this,K1.out,K2.out,HC.out,HAP.out,Nat.le_refl _,HB2.out.trans (((al_below _ _).trans ((al_below _ _).mono (by simp))).mono HB2.out.size)⟩
 clear NP NU HB2 K1 K2 HC HAP HH;generalize ((w2.alloc (.cells #[.int .u32 1] 111)).alloc (.cells #[] 111))=wz at I0 ⊢
 go_loopw [6,7,8,9] (fun u v x y wr=>∃U V X Y,Inv4 w wr p a vp u v x y U V X Y) (fun u v _ _ wr=>sval wr u+sval wr v)
 case atStart=>exact⟨_,_,_,_,I0.out⟩
 case round=>
  clear I0;obtain⟨U,V,X,Y,hI⟩:=hrel;have HI:=Φ hI;clear hI;have C1:=Φ (cmp_nv _ _ _ U 1 (HI.out.nu.al _) (nv_one wr));have E1:(cmpN U 1 != 0)=decide (U≠1):=cmp_one
  by_cases hU:U=1
  ·subst hU;have E2:(cmpN 1 1 == 0)=true:=rfl;have E3:cmpN 1 1=0:=rfl;rw [E3] at C1;clear E1 E2 E3;go_wp2_with fail;refine C1.out.mono ?_;rintro e w3 ⟨rfl,s3⟩;have I3:=Φ (HI.out.keep ((al_below wr _).trans (s3.below0.mono (by simp))));clear s3 C1 HI;go_wp2_with fail;have C3:=Φ (cmp_nv _ _ _ 1 1 (I3.out.nu.al _) (nv_one w3));have E3:cmpN 1 1=0:=rfl;rw [E3] at C3;clear E3;refine C3.out.mono ?_;rintro e w4 ⟨rfl,s4⟩;have I4:=Φ (I3.out.keep ((al_below w3 _).trans (s4.below0.mono (by simp))));clear s4 C3 I3;go_wp2_with fail;go_ret;exact⟨_,X,rfl,⟨I4.out.nx,I4.out.b⟩,I4.out.kx.1,I4.out.kx.done HK.out.2.1⟩
  ·have E1':(cmpN U 1 != 0)=true:=by rw [E1];simpa using hU
   have E1n:(cmpN U 1 == 0)=false:=by rw [cmp_one'];simpa using hU
   have HU1:=Φ hU;obtain⟨c1,hc1⟩:∃c,c=cmpN U 1:=⟨_,rfl⟩;rw [← hc1] at C1 E1' E1n;have EC:=Φ E1n;have HC1:=Φ hc1;clear E1 hU E1n hc1;go_wp2_with fail;refine C1.out.mono ?_;rintro e w3 ⟨rfl,s3⟩;have I3:=Φ (HI.out.keep ((al_below wr _).trans (s3.below0.mono (by simp))));have HMU:Hid (sval wr u6+sval wr u7=U+V):=Φ (by rw [sval_nv HI.out.nu,sval_nv HI.out.nv]);clear s3 C1 HI;go_wp2_with fail;have C3:=Φ (cmp_nv _ _ _ V 1 (I3.out.nv.al _) (nv_one w3))
   by_cases hV:V=1
   ·subst hV;have E3:cmpN 1 1=0:=rfl;rw [E3] at C3;clear E3;refine C3.out.mono ?_;rintro e w4 ⟨rfl,s4⟩;have I4:=Φ (I3.out.keep ((al_below w3 _).trans (s4.below0.mono (by simp))));clear s4 C3 I3;go_wp2_with fail;have C5:=Φ (cmp_nv _ _ _ U 1 (I4.out.nu.al _) (nv_one w4));rw [← HC1.out] at C5;have EE:=EC.out;refine C5.out.mono ?_;rintro e w5 ⟨rfl,s5⟩;have I5:=Φ (I4.out.keep ((al_below w4 _).trans (s5.below0.mono (by simp))));clear s5 C5 I4;go_wp2_with fail;go_ret;exact⟨_,Y,rfl,⟨I5.out.ny,I5.out.b⟩,I5.out.ky.1,I5.out.ky.done HK.out.2.1⟩
   ·have E3:(cmpN V 1 != 0)=true:=by rw [cmp_one];simpa using hV
    have HV1:=Φ hV;generalize cmpN V 1=c3 at E3 C3;clear hV;refine C3.out.mono ?_;rintro e w4 ⟨rfl,s4⟩;have I4:=Φ (I3.out.keep ((al_below w3 _).trans (s4.below0.mono (by simp))));clear s4 C3 I3 E1';go_wp2_with fail;clear E3;have P0:Hid (0<U∧0<V):=Φ (by
     have hc:=I4.out.cop;refine⟨Nat.pos_of_ne_zero fun h=>?_,Nat.pos_of_ne_zero fun h=>?_⟩
     ·subst h;rw [Nat.Coprime,Nat.gcd_zero_left] at hc;exact HV1.out hc
     ·subst h;rw [Nat.Coprime,Nat.gcd_zero_right] at hc;exact HU1.out hc)
    go_loopw [6,8] (fun u x wr=>∃U' X',Inv4 w wr p a vp u u7 x u9 U' V X' Y∧0<U'∧U'≤U) (fun u _ wr=>sval wr u)
    case atStart=>exact⟨_,_,I4.out,P0.out.1,Nat.le_refl _⟩
    case round=>
     clear I4;obtain⟨U',X',hI,hp,hle⟩:=hrel;have HI:=Φ hI;have HP:=Φ (And.intro hp hle);clear hI hp hle;have C5:=Φ (odd_nv _ _ _ HI.out.nu)
     by_cases ho:U' % 2=1
     ·rw [decide_eq_true ho] at C5;have HO:=Φ ho;clear ho;go_wp2_with fail;refine C5.out.mono ?_;rintro e w5 ⟨rfl,s5⟩;have I5:=Φ (HI.out.keep s5.below0);clear s5 C5 HI;go_wp2_with fail
      go_loopw [7,9] (fun v y wr=>∃V' Y',Inv4 w wr p a vp u6 v u8 y U' V' X' Y'∧0<V'∧V'≤V) (fun v _ wr=>sval wr v)
      case atStart=>exact⟨_,_,I5.out,P0.out.2,Nat.le_refl _⟩
      case round=>
       clear I5;obtain⟨V',Y',hI,hp,hle⟩:=hrel;have HI:=Φ hI;have HPV:=Φ (And.intro hp hle);clear hI hp hle;have C7:=Φ (odd_nv _ _ _ HI.out.nv)
       by_cases ho:V' % 2=1
       ·rw [decide_eq_true ho] at C7;clear ho;go_wp2_with fail;refine C7.out.mono ?_;rintro e w6 ⟨rfl,s6⟩;have I6:=Φ (HI.out.keep s6.below0);clear s6 C7 HI;go_wp2_with fail;have C8:=Φ (cmp_nv _ _ _ _ _ I6.out.nu I6.out.nv)
        by_cases hge:V'≤U'
        ·have hcm:0≤cmpN U' V':=by unfold cmpN;rw [if_neg (by omega)];split<;>omega
         generalize cmpN U' V'=cm at hcm C8;have HGE:=Φ hge;clear hge;refine C8.out.mono ?_;rintro e w7 ⟨rfl,s7⟩;have I7:=Φ (I6.out.keep s7.below0);clear s7 C8 I6;go_wp2_with fail;refine(nk w.heap.size w (sub_nv' _ _ w7 U' V' (Nat.lt_of_le_of_lt I7.out.lu HK.out.2.2) HGE.out I7.out.nu I7.out.nv) I7.out.b (Nat.le_refl _)).mono ?_;rintro e w8 ⟨z8,rfl,n8,hb8,hk8⟩;have I8:=Φ (I7.out.keep hk8);have N8:=Φ n8;clear n8 hb8 hk8 I7;go_wp2_with fail;refine(nk w.heap.size w (less_nv _ _ _ w8 X' Y' p (Nat.lt_trans I8.out.kx.1 HK.out.2.2) (Nat.lt_trans I8.out.ky.1 HK.out.2.2) HK.out.2.2 (by have:=I8.out.ky.1;omega) I8.out.nx I8.out.ny I8.out.np) I8.out.b (Nat.le_refl _)).mono ?_;rintro e w9 ⟨z9,rfl,n9,hb9,hk9⟩;have I9:=Φ (I8.out.keep hk9);have N89:=Φ (N8.out.below hk9);have N9:=Φ n9;clear n9 hb9 hk9 I8 N8;have HF:Hid (Inv4 w w9 p a vp z8 u7 z9 u9 (U' - V') V' ((if X' < Y' then X'+p else X') - Y') Y'):=Φ
          ⟨I9.out.np,N89.out,I9.out.nv,N9.out,I9.out.ny,I9.out.kx.minus HGE.out I9.out.ky,I9.out.ky,cop_minus HGE.out I9.out.cop,Nat.le_trans (Nat.sub_le _ _) I9.out.lu,I9.out.lv,I9.out.b⟩
         clear I9 N89 N9;go_wp2_with fail
         go_roundw
         case rel=>exact⟨_,_,_,_,HF.out⟩
         case measure=>
          rw [HMU.out,sval_nv HF.out.nu,sval_nv HF.out.nv]
          have:=HP.out
          have:=HPV.out
          omega
        ·have hcm:cmpN U' V' = -1:=by unfold cmpN;rw [if_pos (by omega)]
         rw [hcm] at C8;have HGE:Hid (U'≤V'):=Φ (by omega);clear hge hcm;refine C8.out.mono ?_;rintro e w7 ⟨rfl,s7⟩;have I7:=Φ (I6.out.keep s7.below0);clear s7 C8 I6;go_wp2_with fail;refine(nk w.heap.size w (sub_nv' _ _ w7 V' U' (Nat.lt_of_le_of_lt I7.out.lv HK.out.2.2) HGE.out I7.out.nv I7.out.nu) I7.out.b (Nat.le_refl _)).mono ?_;rintro e w8 ⟨z8,rfl,n8,hb8,hk8⟩;have I8:=Φ (I7.out.keep hk8);have N8:=Φ n8;clear n8 hb8 hk8 I7;go_wp2_with fail;refine(nk w.heap.size w (less_nv _ _ _ w8 Y' X' p (Nat.lt_trans I8.out.ky.1 HK.out.2.2) (Nat.lt_trans I8.out.kx.1 HK.out.2.2) HK.out.2.2 (by have:=I8.out.kx.1;omega) I8.out.ny I8.out.nx I8.out.np) I8.out.b (Nat.le_refl _)).mono ?_;rintro e w9 ⟨z9,rfl,n9,hb9,hk9⟩;have I9:=Φ (I8.out.keep hk9);have N89:=Φ (N8.out.below hk9);have N9:=Φ n9;clear n9 hb9 hk9 I8 N8;have HF:Hid (Inv4 w w9 p a vp u6 z8 u8 z9 U' (V' - U') X' ((if Y' < X' then Y'+p else Y') - X')):=Φ
          ⟨I9.out.np,I9.out.nu,N89.out,I9.out.nx,N9.out,I9.out.kx,I9.out.ky.minus HGE.out I9.out.kx,(cop_minus HGE.out I9.out.cop.symm).symm,I9.out.lu,Nat.le_trans (Nat.sub_le _ _) I9.out.lv,I9.out.b⟩
         clear I9 N89 N9;go_wp2_with fail
         go_roundw
         case rel=>exact⟨_,_,_,_,HF.out⟩
         case measure=>
          rw [HMU.out,sval_nv HF.out.nu,sval_nv HF.out.nv]
          have:=HP.out
          have:=HPV.out
          omega
       ·rw [decide_eq_false ho] at C7;have HE:Hid (V' % 2=0):=Φ (by omega);clear ho;go_wp2_with fail;refine C7.out.mono ?_;rintro e w6 ⟨rfl,s6⟩;have I6:=Φ (HI.out.keep s6.below0);have HMV:Hid (sval wr u7=V'):=Φ (sval_nv HI.out.nv);clear s6 C7 HI;go_wp2_with fail;refine(nk w.heap.size w (half_nv _ w6 V' (Nat.lt_of_le_of_lt I6.out.lv HK.out.2.2) I6.out.nv) I6.out.b (Nat.le_refl _)).mono ?_;rintro e w8 ⟨z8,rfl,n8,hb8,hk8⟩;have I8:=Φ (I6.out.keep hk8);have N8:=Φ n8;clear n8 hb8 hk8 I6;go_wp2_with fail;refine(nk w.heap.size w (halved_nv _ _ w8 Y' p (Nat.lt_trans I8.out.ky.1 HK.out.2.2) HK.out.2.2 I8.out.ny I8.out.np) I8.out.b (Nat.le_refl _)).mono ?_;rintro e w9 ⟨z9,rfl,n9,hb9,hk9⟩;have I9:=Φ (I8.out.keep hk9);have N89:=Φ (N8.out.below hk9);have N9:=Φ n9;clear n9 hb9 hk9 I8 N8;have HF:Hid (Inv4 w w9 p a vp u6 z8 u8 z9 U' (V' / 2) X' ((if Y' % 2=1 then Y'+p else Y') / 2)):=Φ
         ⟨I9.out.np,I9.out.nu,N89.out,I9.out.nx,N9.out,I9.out.kx,I9.out.ky.halve HK.out.1 HE.out,(cop_half HE.out I9.out.cop.symm).symm,I9.out.lu,Nat.le_trans (Nat.div_le_self _ _) I9.out.lv,I9.out.b⟩
        clear I9 N89 N9;go_wp2_with fail
        go_roundw
        case rel=>exact⟨_,_,HF.out,half_pos HPV.out.1 HE.out,Nat.le_trans (Nat.div_le_self _ _) HPV.out.2⟩
        case measure=>
         rw [HMV.out,sval_nv HF.out.nv];exact half_lt HPV.out.1
     ·rw [decide_eq_false ho] at C5;have HE:Hid (U' % 2=0):=Φ (by omega);clear ho;go_wp2_with fail;refine C5.out.mono ?_;rintro e w6 ⟨rfl,s6⟩;have I6:=Φ (HI.out.keep s6.below0);have HMV:Hid (sval wr u6=U'):=Φ (sval_nv HI.out.nu);clear s6 C5 HI;go_wp2_with fail;refine(nk w.heap.size w (half_nv _ w6 U' (Nat.lt_of_le_of_lt I6.out.lu HK.out.2.2) I6.out.nu) I6.out.b (Nat.le_refl _)).mono ?_;rintro e w8 ⟨z8,rfl,n8,hb8,hk8⟩;have I8:=Φ (I6.out.keep hk8);have N8:=Φ n8;clear n8 hb8 hk8 I6;go_wp2_with fail;refine(nk w.heap.size w (halved_nv _ _ w8 X' p (Nat.lt_trans I8.out.kx.1 HK.out.2.2) HK.out.2.2 I8.out.nx I8.out.np) I8.out.b (Nat.le_refl _)).mono ?_;rintro e w9 ⟨z9,rfl,n9,hb9,hk9⟩;have I9:=Φ (I8.out.keep hk9);have N89:=Φ (N8.out.below hk9);have N9:=Φ n9;clear n9 hb9 hk9 I8 N8;have HF:Hid (Inv4 w w9 p a vp z8 u7 z9 u9 (U' / 2) V ((if X' % 2=1 then X'+p else X') / 2) Y):=Φ
       ⟨I9.out.np,N89.out,I9.out.nv,N9.out,I9.out.ny,I9.out.kx.halve HK.out.1 HE.out,I9.out.ky,cop_half HE.out I9.out.cop,Nat.le_trans (Nat.div_le_self _ _) I9.out.lu,I9.out.lv,I9.out.b⟩
      clear I9 N89 N9;go_wp2_with fail
      go_roundw
      case rel=>exact⟨_,_,HF.out,half_pos HP.out.1 HE.out,Nat.le_trans (Nat.div_le_self _ _) HP.out.2⟩
      case measure=>
       rw [HMV.out,sval_nv HF.out.nu];exact half_lt HP.out.1
end Ref
namespace Ref
open Go.RowKit Go.Proofs.YtpggkfdijmnmiaaGreat.Digits Limbs
theorem wpOp_want {P:Program}{ops:Array Oper}{Q:Exit→Act→World→Prop}{i:Nat}{o:Oper}{K:Act→World→Prop}{a:Act}{w:World}(hi:ops[i]?=some o)(hw:Region.wanted o (yielded ops a.tmps)=true)(h:o.wp P a w K Q): wpOp P ops Q i K a w:=by
 unfold wpOp;simp only [hi];rw [if_pos hw];exact .inl h
theorem w_big {n:Nat}(h:n<W256): n<big:=Nat.lt_trans h (by decide +kernel)
theorem inv_one {m:Int}{a z:Nat}(h0:a % md m≠0)(hz:z<md m)(h:z*a % md m=1): z=a ^ (md m - 2) % md m:=by
 have hp:=md_prime (md_or m);have hnd:¬md m ∣ a:=fun hd=>h0 (Nat.mod_eq_zero_of_dvd hd)
 have hc:=hp.cop hnd;have hf:=Primes.fermat hp hnd;have h2:2≤md m:=hp.1;have e:a*(a ^ (md m - 2) % md m) % md m=1:=by
  rw [Nat.mul_mod_mod,Nat.mul_comm,← Nat.pow_succ,show(md m - 2).succ=md m - 1 by omega];exact hf
 have:=Primes.cancel hc (x:=z) (y:=a ^ (md m - 2) % md m) (by rw [e,Nat.mul_comm];exact h)
 rwa [Nat.mod_eq_of_lt hz,Nat.mod_mod] at this
theorem inverse_is (m:Int)(v:Value)(w:World)(a:Nat)(ha:a<big)(h0:a % md m≠0)(h:NV w v a):
  Calls Tryz.prog 64 #[.int .i64 m,v] w fun e w'=>∃v',e = .returned v'∧Nr w w' v' (a ^ (md m - 2) % md m):=
 (inverse_nv m v w a ha h0 h).mono fun e w' ⟨v',z,h1,h2,h3,h4⟩=>⟨v',h1,by rw [← inv_one h0 h3 h4];exact h2⟩
theorem row_len {r:List Nat}(ht:Trim r): (((r.length:Nat):Int) == 0)=decide (val r=0):=by
 by_cases h:r=[]
 ·subst h;rfl
 ·have h1:=val_ge ht h;have h2:0<65536 ^ (r.length - 1):=Nat.pow_pos (by decide);have h3:0<r.length:=List.length_pos_iff.2 h;rw [decide_eq_false (by omega)];simp;exact h
end Ref
end Go.Proofs.YtpggkfdijmnmiaaGreat
