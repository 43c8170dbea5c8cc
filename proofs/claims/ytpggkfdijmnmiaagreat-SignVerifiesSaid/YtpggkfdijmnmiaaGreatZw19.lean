/- The reference's padded keys and macs. Condition: at most 2^4 -/
import Derived.Test.YtpggkfdijmnmiaaGreatZw16
set_option linter.unusedVariables false
set_option linter.unusedSimpArgs false
set_option maxRecDepth 100000
namespace Go.Proofs.YtpggkfdijmnmiaaGreat
namespace Hs
open Go.RowKit Go.Sort
open Go.Lib renaming hid→Φ
theorem app_m1 {ops:Array Oper}{rest:List Oper}{o:Oper}{a:Act}{Q:Exit→Act→World→Prop}{w W:World}{v:Value}{l:List UInt8}(n:Int)(c:UInt8)(hn:n=(c.toNat:Int))(s x:Operand)(hgd:o.guard=none)
  (ho:o.op = .call {callee:= .builtin .append,args:=#[s,x],argTypes:=#[101,101]}) (hs:a.eval s=v) (hx:a.eval x = .slice (some ⟨w.heap.size,0,none⟩) 1 1)
  (hI:Rm W.heap.size v l w) (hb:Below W.heap.size W w) (hlen:l.length≤140737488355327)
  (h:∀v' w',Rm W.heap.size v' (l++[c]) w'→Below W.heap.size W w'→wpList Tryz.prog ops Q rest (a.put o.dst v') w'):wpList Tryz.prog ops Q (o::rest) a (w.alloc (.cells #[.int .u8 n] 5)):=by
 subst hn;refine app_m [c] w.heap.size 1 s x hgd ho hs hx (Go.heap_alloc_new w _) (hI.below ((Below.refl _ _).alloc (Nat.le_refl _) _)) (Nat.le_trans hb.size (alloc_le _ _)) (by simp;omega) (fun v' w' h1 h2 _=>h v' w' h1 (((hb.alloc hb.size _)).trans h2))
def zL (s:List UInt8)(k:Nat): List UInt8:=s++128::List.replicate k 0
theorem zL_len (s:List UInt8)(k:Nat): (zL s k).length=s.length+1+k:=by simp [zL];omega
theorem zL_succ (s:List UInt8)(k:Nat): zL s (k+1)=zL s k++[0]:=by simp [zL,List.replicate_succ']
theorem zL_0 (s:List UInt8): s++[128]=zL s 0:=by simp [zL]
theorem rm_nil (w:World): Rm w.heap.size (.slice (some ⟨w.heap.size,0,none⟩) 0 0) [] (w.alloc (.cells #[] 5)):=
 ⟨w.heap.size,0,#[],(0,0),rfl,Nat.le_refl _,Go.heap_alloc_new w _,.inl rfl,Nat.le_refl _,Nat.zero_le _,rfl,rfl⟩
def hTo (i:Nat): List UInt32:=firstL.take i++List.replicate (8 - i) 0
theorem hTo_len (i:Nat)(h:i≤8): (hTo i).length=8:=by
 have:firstL.length=8:=rfl
 simp [hTo,this];omega
theorem hTo_set:∀(i:Nat) (h:i<8),(hTo i).set i (firstL[i]'h)=hTo (i+1):=by decide +kernel
theorem first_get (i:Nat)(h:i<8): rootW ((prL 20)[i]'(by rw [first8.1];exact h)) 2=firstL[i]'h:=by
 have e:firstL[i]?=((prL 20).map (fun p=>rootW p 2))[i]?:=by
  rw [show(prL 20).map (fun p=>rootW p 2)=firstL from first_ok]
 rw [List.getElem?_map,List.getElem?_eq_getElem h,List.getElem?_eq_getElem (by rw [first8.1];exact h)] at e
 simpa using e.symm
theorem beh_len (s:List UInt8): (s++behindL s.length).length=64*((s.length+72) / 64):=by
 simp [behindL,fourL];omega
theorem pr_small8:∀p∈prL 20,p<65536:=fun p h=>by have:=(pr_ge 18 p h).2;omega
set_option maxHeartbeats 4000000 in
set_option maxRecDepth 100000 in
theorem sum21 (s:List UInt8)(hs:s.length≤140737488355200)(w:World)(gk ck0:Nat)(hgk:gk<w.heap.size)(hkk:∀i,i<64→w.cell? ⟨gk,i,none⟩=some (.int .u32 ((kL.getD i 0).toNat:Int))):
  Calls Tryz.prog 151 #[.string ⟨s.toArray⟩,.slice (some ⟨gk,0,none⟩) 64 ck0] w fun e w'=>e = .returned (.string ⟨(sumL s).toArray⟩)∧Below w.heap.size w w':=by
 obtain⟨v0,w0,hc,hr,hb⟩:=conv_m s (by unfold maxLen;omega) w;have HR:=Φ hr;have HB:=Φ hb;have HS:=Φ hs;have HGK:=Φ hgk;have HKK:=Φ hkk;clear hr hb hgk hkk;go_enter Tryz.func151,Tryz.ntmps151;go_wp2_with (at_builtin;refine app_m1 128 128 rfl (.tmp 27) (.tmp 28) rfl rfl rfl rfl HR.out HB.out (by have:=HS.out;omega) ?_;intro v1 w1 hr hb;have HR1:=Φ hr;have HB1:=Φ hb;clear hr hb hc HR HB);rw [zL_0] at HR1
 go_loopw [5] (fun v wr=>∃k:Nat,k≤(119 - s.length % 64) % 64∧Rm w.heap.size v (zL s k) wr∧Below w.heap.size w wr) (fun v _=>s.length+65 - (match v with | .slice _ n _=>n | _=>0))
 case atStart=>exact⟨0,by omega,HR1.out,HB1.out⟩
 case round=>
  obtain⟨k,hk,hr,hb⟩:=hrel;have HR:=Φ hr;have HB:=Φ hb;obtain⟨g,cap,hv,_⟩:=hr.un;subst hv;clear hr hb HR1 HB1;have HSS:=HS.out;have HZ:=Φ (zL_succ s k);obtain⟨m,hm⟩:∃m,m=(zL s k).length:=⟨_,rfl⟩;have HML:=Φ hm;rw [← hm] at HR ⊢;rw [zL_len] at hm;have t1:(m:Int).tmod 64=((m % 64:Nat):Int):=by rw [Int.tmod_eq_emod_of_nonneg (by omega)];simp
  by_cases hkz:k<(119 - s.length % 64) % 64
  ·
   have t2:¬((m % 64:Nat):Int)=56:=by omega
   have HK:=Φ hkz;have HM:=Φ hm;clear hkz hk hm;generalize m % 64=r at t1 t2;go_wp2_with (at_builtin;refine app_m1 0 0 rfl (.tmp 34) (.tmp 35) rfl rfl rfl rfl HR.out HB.out (by rw [← HML.out];have:=HM.out;have:=HK.out;omega) ?_;intro v2 w2 hr hb;have HR2:=Φ hr;have HB2:=Φ hb;clear hr hb);obtain⟨g2,cap2,hv2,_⟩:=HR2.out.un;have HV2:=Φ hv2;have HKK:=HK.out;have HMM:=HM.out;refine⟨⟨k+1,by omega,by rw [HZ.out];exact HR2.out,HB2.out⟩,?_⟩;rw [HV2.out,List.length_append,← HML.out];simp;omega
  ·have t2:((m % 64:Nat):Int)=56:=by omega
   rw [t2] at t1;have HK:Hid (k=(119 - s.length % 64) % 64):=Φ (by omega);have HM:=Φ hm;clear hkz hk hm t2;have hand:bits BinOp.and IntKind.u64 (8*(s.length:Int)) 4294967295=((s.length*8 % 4294967296:Nat):Int):=by
    have:=u64_and_nat (s.length*8) 4294967295 (by omega) (by omega)
    rw [show((4294967295:Nat):Int)=4294967295 from rfl,show((s.length*8:Nat):Int)=8*(s.length:Int) from by omega] at this;rw [this,show(4294967295:Nat)=2 ^ 32 - 1 from rfl,Nat.and_two_pow_sub_one_eq_mod]
   have e1:(8*(s.length:Int) / 4294967296)=((UInt32.ofNat (s.length*8 / 4294967296)).toNat:Int):=by
    rw [w_ofNat _ (by omega)];omega
   have e2:((s.length*8 % 4294967296:Nat):Int)=((UInt32.ofNat (s.length*8)).toNat:Int):=by
    rw [UInt32.toNat_ofNat']
   rw [e2] at hand;have HX:Hid (zL s k++fourL (UInt32.ofNat (s.length*8 / 4294967296))++fourL (UInt32.ofNat (s.length*8))=s++behindL s.length):=Φ (by
    rw [HK.out];unfold zL behindL;simp)
   generalize UInt32.ofNat (s.length*8 / 4294967296)=x1 at e1 HX;generalize UInt32.ofNat (s.length*8)=x2 at hand HX e2;have h1:=x1.toNat_lt;have h2:=x2.toNat_lt;have HE1:=Φ e1;clear e1 e2;have F1:=Φ (four31 x1);have F2:=Φ (four31 x2);have HLM:Hid (m≤140737488355300):=Φ (by have:=HM.out;have:=HK.out;omega);go_wp2_with (first | (go_at_call 178;first | (rw [HE1.out];refine(F1.out _).mono ?_;rintro e w2 ⟨rfl,rfl⟩) | (refine(F2.out _).mono ?_;rintro e w4 ⟨rfl,rfl⟩)) | (at_builtin;first | (refine app_m (B:=w.heap.size) (fourL x1) _ 4 (.tmp 41) (.tmp 45) rfl rfl rfl rfl (Go.heap_alloc_new _ _) (HR.out.below ((Below.refl _ _).alloc (Nat.le_refl _) _)) (Nat.le_trans HB.out.size (alloc_le _ _)) (by rw [← HML.out];have:=HLM.out;show m+4≤_;omega) ?_;intro v2 w2 hr hb _;have HR2:=Φ hr;have HB2:=Φ ((HB.out.alloc HB.out.size _).trans hb);clear hr hb) | (refine app_m (B:=w.heap.size) (fourL x2) _ 4 (.tmp 47) (.tmp 51) rfl rfl rfl rfl (Go.heap_alloc_new _ _) (HR2.out.below ((Below.refl _ _).alloc (Nat.le_refl _) _)) (Nat.le_trans HB2.out.size (alloc_le _ _)) (by rw [List.length_append,← HML.out];have:=HLM.out;show m+4+4≤_;omega) ?_;intro v3 w3 hr hb _;rw [HX.out] at hr;have HR3:=Φ hr;have HB3:=Φ ((HB2.out.alloc HB2.out.size _).trans hb);clear hr hb)));have HGW:Hid (w.heap.size≤w3.heap.size):=Φ HB3.out.size;have HK3:Hid (∀i,i<64→w3.cell? ⟨gk,i,none⟩=some (.int .u32 ((kL.getD i 0).toNat:Int))):=Φ (fun i hi=>(HB3.out.cell (p:=⟨gk,i,none⟩) HGK.out).trans (HKK.out i hi));clear F1 F2 HE1 HX HLM HR2 HB2 HR HB HZ HML t1 hand HM HK;have HPL:Hid ((s++behindL s.length).length=64*((s.length+72) / 64)):=Φ (beh_len s);have HPM:Hid ((s++behindL s.length).length≤140737488355328):=Φ (by rw [beh_len];omega);obtain⟨NB,hNB⟩:∃NB,(s.length+72) / 64=NB:=⟨_,rfl⟩;rw [hNB] at HPL;have HNB:=Φ hNB;have HSUM:Hid (sumL s=textL (thrL NB firstL (s++behindL s.length))):=Φ (by rw [← hNB];rfl);clear hNB;generalize s++behindL s.length=p at HR3 HPL HSUM HPM;rw [show(8:Int)=((8:Nat):Int) from rfl,make_u32 w3 8 (by omega)];simp only [Result.andThen];rw [Oper.upon_value];obtain⟨w5,hw5⟩:∃w5,w3.alloc (.cells (ws (List.replicate 8 0)) 111)=w5:=⟨_,rfl⟩;have HA5:Hid (w5.heap[w3.heap.size]?=some (.cells (ws (hTo 0)) 111 (0,0))):=Φ (by rw [← hw5];exact Go.heap_alloc_new w3 _);have HL5:Hid (Below w3.heap.size w3 w5):=Φ (by rw [← hw5];exact(Below.refl _ _).alloc (Nat.le_refl _) _);have HS5:Hid (w5.heap.size=w3.heap.size+1):=Φ (by rw [← hw5];exact alloc_sz _ _);rw [hw5];clear hw5;go_wp2_with (go_at_call 153;refine(primes_any 8 20 first8 _).mono ?_;rintro e w6 ⟨⟨pv,rfl,hr⟩,hb⟩;obtain⟨gp,capp,hv,⟨cur,fz,hcur⟩,hc⟩:=hr.un' (by intro e;have:=first8.1;rw [e] at this;simp at this);have hgp:w5.heap.size≤gp:=(by rcases hr.2 with ⟨rfl,h0⟩ | ⟨g',cap',cur',e',hg',_⟩;(· cases hv);(· rw [e'] at hv;cases hv;exact hg'));have HA6:=Φ ((hb.block _ (by rw [HS5.out];omega)).trans HA5.out);have HL6:=Φ (HL5.out.trans (hb.mono (by rw [HS5.out];omega)));have HC6:=Φ hc;have HU6:=Φ hcur;have HGP:=Φ (show w3.heap.size<gp from by rw [HS5.out] at hgp;omega);rw [first8.1] at hv;subst hv;clear hr hb hc hcur hgp)
   go_loopw [9] (fun i wr=>∃k:Nat,k≤8∧i = .int .i64 k∧wr.heap[w3.heap.size]?=some (.cells (ws (hTo k)) 111 (0,0))∧wr.heap[gp]?=w6.heap[gp]?∧Below w3.heap.size w3 wr) (fun i _=>8 - (intOf i).toNat)
   case atStart=>exact⟨0,by omega,rfl,HA6.out,rfl,HL6.out⟩
   case round=>
    obtain⟨k,hk,rfl,ha,hp,hb⟩:=hrel;have HA:=Φ ha;have HP:=Φ hp;have HB:=Φ hb;clear ha hp hb HA6 HL6 HA5 HL5 HS5
    by_cases hk8:k<8
    ·
     have hlen:=hTo_len k hk;have HG:=Φ (blk_lt (HP.out.trans HU6.out));have cp:=(World.cell?_of_block (w:=w6) (w':=wr) (a:=⟨gp,k,none⟩) HP.out).trans (HC6.out k (by rw [first8.1];exact hk8));have hsm:=pr_small8 _ (List.getElem_mem (l:=prL 20) (n:=k) (by rw [first8.1];exact hk8));have ck:=(blk_cell HA.out k).trans (ws_get _ _ (by omega));have fk:=Lib.frozen_of_heap HA.out k;have hst:=hTo_set k hk8;rw [← first_get k hk8] at hst;have HST:=Φ hst;clear hst;generalize (prL 20)[k]'(by rw [first8.1];exact hk8)=q at cp hsm HST;generalize (hTo k)[k]'(by omega)=old at ck;have HRT:=Φ (root_any q 2 hsm (.inl rfl));have HSM:=Φ hsm;clear hlen;obtain⟨r,hrr⟩:∃r,rootW q 2=r:=⟨_,rfl⟩;have hrl:=r.toNat_lt;rw [hrr] at HST HRT;have HGH:=Φ (blk_lt HA.out);go_wp2_with (go_at_call 154;refine(HRT.out _).mono ?_;rintro e w7 ⟨rfl,hb⟩;have HBR:=Φ hb;clear hb;have ck:=(HBR.out.cell (p:=⟨w3.heap.size,k,none⟩) HGH.out).trans ck;have fk:=(HBR.out.frozen (p:=⟨w3.heap.size,k,none⟩) HGH.out).trans fk);exact⟨⟨k+1,by omega,by go_num,(blk_put ((HBR.out.block _ HGH.out).trans HA.out) k _).trans (by rw [ws_set,HST.out]),(Below.heap_setCell w7 ⟨w3.heap.size,k,none⟩ _ gp (by have:=HGP.out;show gp≠w3.heap.size;omega)).trans ((HBR.out.block _ HG.out).trans HP.out),(HB.out.trans (HBR.out.mono HB.out.size)).setCell (p:=⟨w3.heap.size,k,none⟩) (Nat.le_refl _) _⟩,by simp [intOf];omega⟩
    ·obtain rfl:k=8:=by omega
     rw [show hTo 8=firstL from rfl] at HA;clear HP HU6 HC6 HGP hk8 hk;obtain⟨gb,cb,hv,hgb,hgl,_,hcb⟩:=HR3.out.un;subst hv;have HGB:=Φ hgl;have HCB:=Φ hcb;clear hgb hgl hcb HR3;go_wp2_with fail;refine blocks gb cb w3.heap.size gk ck0 NB p HPL.out HPM.out _ HGB.out (fun i hi=>(HB.out.cell (p:=⟨gb,i,none⟩) HGB.out).trans (HCB.out i hi)) (by have:=HGK.out;have:=HGW.out;omega) (fun i hi=>(HB.out.cell (p:=⟨gk,i,none⟩) (by have:=HGK.out;have:=HGW.out;show gk<w3.heap.size;omega)).trans (HK3.out i hi)) HA.out ?_;intros;rename_i wE e1 e2;have HE1:=Φ e1;have HE2:=Φ (HB.out.trans e2);clear e1 e2 HB HA HCB HK3 HKK;go_wp2_with fail;refine texts wE.heap.size w3.heap.size 8 (thrL NB firstL p) (.slice (some ⟨wE.heap.size,0,none⟩) 0 0) (thr_len NB firstL p rfl) _ ((Below.heap_alloc _ _ _ (blk_lt HE1.out)).trans HE1.out) (blk_lt HE1.out) (alloc_le _ _) (rm_nil wE) ?_;intros;rename_i v wF f1 f2;have HBF:Hid (Below w.heap.size w wF):=Φ (HB3.out.trans ((HE2.out.trans (((Below.refl _ wE).alloc (Nat.le_refl _) _).trans f2 |>.mono HE2.out.size)).mono HGW.out));have hcv:=f1.conv;rw [← HSUM.out] at hcv;clear f1 f2 HE1 HE2;go_wp2_with fail;go_ret;exact⟨rfl,HBF.out⟩
end Hs
namespace Hs
open Go.RowKit Go.Sort
def Kr (v:Value)(w:World): Prop:=∃g c,v = .slice (some ⟨g,0,none⟩) 64 c∧g<w.heap.size∧∀i,i<64→w.cell? ⟨g,i,none⟩=some (.int .u32 ((kL.getD i 0).toNat:Int))
theorem Kr.below {v:Value}{w w':World}(h:Kr v w)(hb:Below w.heap.size w w'): Kr v w':=by
 obtain⟨g,c,rfl,hg,hc⟩:=h;exact⟨g,c,rfl,Nat.lt_of_lt_of_le hg hb.size,fun i hi=>(hb.cell (p:=⟨g,i,none⟩) hg).trans (hc i hi)⟩
theorem cell_in {W:World}{b:Nat}{v:Value}(h:W.cell? ⟨b,0,none⟩=some v): b<W.heap.size:=by
 rcases Nat.lt_or_ge b W.heap.size with h' | h'
 ·exact h'
 ·simp [World.cell?,Array.getElem?_eq_none h'] at h
theorem keys_k (w:World): Calls Tryz.prog 105 #[] w fun e w'=>(∃v,e = .returned v∧Kr v w')∧Below w.heap.size w w':=by
 refine(keys_any w).mono ?_;rintro e w' ⟨⟨v,rfl,hr⟩,hb⟩;obtain⟨g,c,rfl,_,hc⟩:=hr.un (by intro e;have:=kL_length;rw [e] at this;simp at this);refine⟨⟨_,rfl,g,c,by rw [kL_length],cell_in (hc 0 (by rw [kL_length];decide)),fun i hi=>?_⟩,hb⟩;rw [hc i (by rw [kL_length];exact hi)];simp [List.getD,show i<kL.length from by rw [kL_length];exact hi]
theorem sumK (s:List UInt8)(hs:s.length≤140737488355200)(v:Value)(w:World)(h:Kr v w):
  Calls Tryz.prog 151 #[.string ⟨s.toArray⟩,v] w fun e w'=>e = .returned (.string ⟨(sumL s).toArray⟩)∧Below w.heap.size w w':=by
 obtain⟨g,c,rfl,hg,hc⟩:=h;exact sum21 s hs w g c hg hc
theorem Rm.put {B:Nat}{v:Value}{l:List UInt8}{w:World}(h:Rm B v l w)(i:Nat)(hi:i<l.length)(x:UInt8): ∃g cap,v = .slice (some ⟨g,0,none⟩) l.length cap∧B≤g∧w.cell? ⟨g,i,none⟩=some (.int .u8 (l[i].toNat:Int))∧w.frozen? ⟨g,i,none⟩=false∧
  Rm B v (l.set i x) (w.setCell ⟨g,i,none⟩ (.int .u8 (x.toNat:Int))):=by
 have hu:=h.un;obtain⟨g,cap,cur,fz,rfl,hg,hh,hoff,hlc,hcm,hcs,htk⟩:=h;obtain⟨g',cap',e,_,_,_,hc⟩:=hu;simp only [Value.slice.injEq,Option.some.injEq,Addr.mk.injEq,and_true,true_and] at e;obtain⟨rfl,rfl⟩:=e;refine⟨g,cap,rfl,hg,hc i hi,?_,?_⟩
 ·obtain⟨lo,hi'⟩:=fz;simp only [World.frozen?,hh,Bool.and_eq_false_iff,decide_eq_false_iff_not];rcases hoff with h | h
  ·right;simp only at h;omega
  ·left;simp only at h;omega
 ·refine⟨g,cap,cur.setIfInBounds i (.int .u8 (x.toNat:Int)),fz,by rw [List.length_set],hg,blk_put hh i _,by simpa using hoff,by rw [List.length_set];exact hlc,hcm,by simpa using hcs,?_⟩;rw [List.length_set,Array.toList_setIfInBounds,List.take_set,htk];simp [bl,List.map_set]
end Hs
end Go.Proofs.YtpggkfdijmnmiaaGreat
