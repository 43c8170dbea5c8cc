/- The reader of a row -/
import Derived.Test.YthogppennalobaaGreatDoorZd38
set_option linter.unusedVariables false
set_option linter.unusedSimpArgs false
set_option maxRecDepth 100000
namespace Go.Proofs.YthogppennalobaaGreatDoor
open Go.RowKit Go.Sort Forest OwnR TxO Pl
theorem plant_ans {l:List Nd}{x:Int}(h:Inv l x)(p now:Int)(n:Nd)(hn:Mid n): ∃rn:Nat,(plantP l x p n now).1=(rn:Int)∧(rn:Int)<(plantP l x p n now).2.2.2∧((plantP l x p n now).2.1=0→(rn:Int)=x):=by
 have h0:=h.good.1
 unfold plantP
 split
 ·split
  ·exact⟨0,rfl,by show((0:Nat):Int)<x;omega,fun h=>by have h2:(132:Int)=0:=h;omega⟩
  ·split
   ·exact⟨0,rfl,by show((0:Nat):Int)<x;omega,fun h=>by have h2:(133:Int)=0:=h;omega⟩
   ·split
    ·exact⟨0,rfl,by show((0:Nat):Int)<x;omega,fun h=>by have h2:(130:Int)=0:=h;omega⟩
    ·exact⟨x.toNat,by show x=_;omega,by show((x.toNat:Nat):Int)<x+1;omega,fun _=>by omega⟩
 ·exact⟨0,rfl,by show((0:Nat):Int)<x;omega,fun h=>by have h2:(131:Int)=0:=h;omega⟩
def Gone (l:List Nd)(x:Int)(G:List Int): Prop:=∀k∈G,∃n:Nat,k=(n:Int)∧over l n∧(n:Int)<x
set_option maxHeartbeats 16000000 in
theorem stays_walk {w:World}{vs vm:Value}{ds es:List (OpD×Value×Value)}(hs:Sc w w vs ds)(hm:Sc w w vm es)(now:Int)(hT:Tb w)(hM:Mx w): Calls Tryz.prog 5 #[vs,vm,.int .i64 now] w fun e w'=>e = .returned (.bool true)∧Below w.heap.size w w':=by
 have HMA:=Lib.hid (made_any hs)
 have HX:=Lib.hid new_xn
 have HFX:=Lib.hid (fun W (hb:Below w.heap.size w W)=>fixed_any W (hT.below hb) (hM.below hb))
 obtain⟨am,cm,rfl,hn,hm⟩:=hm
 have HE:=Lib.hid hm
 obtain⟨N,hN⟩:∃N,N=es.length:=⟨_,rfl⟩
 have HL:=Lib.hid hN
 rw [← hN] at hn ⊢
 clear hs hm hN hT hM
 unfold kpt at HMA HX
 go_enter Tryz.func5,Tryz.ntmps5
 go_wp2_with fail
 refine HMA.out.mono ?_
 rintro e w1 ⟨f,l,x,rfl,hl,ns,e0,h1⟩
 have N1:=Lib.hid h1
 have HI:=Lib.hid hl
 have HE0:=Lib.hid e0
 clear HMA h1 hl e0
 go_wp2_with fail
 refine(HX.out w1).mono ?_
 rintro e w2 ⟨g,rfl,hb,hx⟩
 have N2:=Lib.hid (N1.out.down hb)
 have X2:Hid (Xn w w2 g [] 1):=Lib.hid (hx w N1.out.below.size)
 have HNO:Hid (Calls Tryz.prog 17 #[.pointer (some ⟨f,0,none⟩)] w2 fun e w'=>∃v rs,e = .returned v∧rs.map (·.1)=nodes ns∧Nr w' v rs∧Below w2.heap.size w2 w'∧∀k,v.ownBlock=some k→w2.heap.size≤k):=Lib.hid (nodes_call N2.out.fr (few_ns HE0.out HI.out) (by rw [HE0.out];exact HI.out.short))
 clear HX hb hx N1
 go_wp2_with fail
 refine HNO.out.mono ?_
 rintro e w3 ⟨v,rs,rfl,hr1,hr2,hr3,_⟩
 obtain⟨av,cv,rfl⟩:=OwnR.owns_shape hr2.1
 have N3:=Lib.hid (N2.out.down hr3)
 have X3:=Lib.hid (X2.out.down hr3)
 have HRL:Hid (rs.map (·.1)=l):=Lib.hid (by rw [hr1,HE0.out])
 have HRN:=Lib.hid hr2
 obtain⟨M,hM⟩:∃M,M=rs.length:=⟨_,rfl⟩
 have HM:=Lib.hid hM
 have hm2:M≤256:=by
  have:=congrArg List.length HRL.out
  rw [List.length_map] at this
  have:=HI.out.few
  omega
 have HCE:Hid (∀i (h:i<M),∃n∈l,∃q,av=some ⟨q,0,none⟩∧w3.cell? ⟨q,i*15,none⟩=some (.int .i64 (n.id:Int))):=Lib.hid (fun i hi=>by
  have hi2:i<rs.length:=by rw [← hM];exact hi
  obtain⟨q,e,hc⟩:=HRN.out.cell hi2
  refine⟨rs[i].1,by rw [← HRL.out];exact List.mem_map.2 ⟨_,List.getElem_mem hi2,rfl⟩,q,e,?_⟩
  exact hc 0 (by omega))
 have HE3:Hid (Lw 3 1 w3 (w3.alloc (.cells #[] 3)) (.slice (some ⟨w3.heap.size,0,none⟩) 0 0) 0 []):=Lib.hid (Lw.empty 3 1 (Below.refl _ _))
 rw [← hM]
 clear HNO N2 X2 hr1 hr2 hr3 hM HRN HRL
 go_wp2_with fail
 obtain⟨wo,hwo⟩:∃y,y=w3:=⟨_,rfl⟩
 go_loopw [10,11,12] (fun gv lv iv wr=>∃i:Nat,i≤M∧iv = .int .i64 (i:Int)∧∃la:Nat,lv = .int .i64 (la:Int)∧Hid ((la:Int)<x)∧Hid (∃G:List Int,G.length≤i∧Lw 3 1 w3 wr gv G.length (G.map fun k=>Value.int .i64 k)∧Gone l x G)) (fun _ _ iv _=>M - (intOf iv).toNat)
 case atStart=>exact⟨0,Nat.zero_le _,rfl,0,rfl,Lib.hid (by have:=HI.out.good.1;omega),Lib.hid ⟨[],Nat.le_refl _,HE3.out,fun k hk=>by cases hk⟩⟩
 case round=>
  obtain⟨i,hi,rfl,la,rfl,HLA,HG⟩:=hrel
  clear HE3
  by_cases hlt:i<M
  ·have hltI:(i:Int)<(M:Int):=by omega
   obtain⟨n,hnm,q,rfl,hc⟩:=HCE.out i hlt
   obtain⟨G,hgl,hgw,hgo⟩:=HG.out
   have hc2:=cell_below hgw.2.1 hc
   have HB:=Lib.hid hgw.2.1
   have HOV:=Lib.hid (over_any (l:=l) HE0.out (N3.out.down hgw.2.1) HI.out (n.id:Int))
   obtain⟨R,hR⟩:∃R,R=overP l (n.id:Int):=⟨_,rfl⟩
   rw [← hR] at HOV
   have HGL:=Lib.hid (And.intro hgl hgo)
   have HGW:=Lib.hid hgw
   obtain⟨ag,cg,rfl⟩:=hgw.shape
   have HR:=Lib.hid hR
   have HNM:=Lib.hid hnm
   have HNX:Hid ((n.id:Int)<x):=Lib.hid (HI.out.good.2 n hnm)
   obtain⟨id,hid⟩:∃z,z=n.id:=⟨_,rfl⟩
   have HID:=Lib.hid hid
   rw [← hid] at hc2 HOV HNX
   have hmx:max (la:Int) (id:Int)=((max la id:Nat):Int):=by omega
   have HMX:Hid (((max la id:Nat):Int)<x):=Lib.hid (by have:=HLA.out;have:=HNX.out;omega)
   unfold kpt at HOV
   clear hc hgw hgl hgo hR hnm HG hid
   go_wp2_with fail
   refine HOV.out.mono ?_
   rintro e w5 ⟨rfl,hb5⟩
   have HB5:=Lib.hid (HB.out.trans (hb5.mono HB.out.size))
   have HGW5:=Lib.hid (HGW.out.down hb5)
   have hc5:=cell_below hb5 hc2
   clear HOV hb5 hc2
   cases R with
   |true=>
    have HGN:Hid (Gone l x (G++[(id:Int)])):=Lib.hid (fun k hk=>by
     rcases List.mem_append.1 hk with hk | hk
     ·exact HGL.out.2 k hk
     ·rw [List.mem_singleton] at hk
      exact⟨id,hk,by have:=over_of HI.out.ok HNM.out HR.out.symm;rw [HID.out];exact this,HNX.out⟩)
    have HGB:Hid (G.length+1≤4194304):=Lib.hid (by have:=HGL.out.1;omega)
    go_wp2_with (at_builtin;refine wp_one row55 rfl _ _ rfl _ (G.map fun k=>Value.int .i64 k) w5.heap.size 1 #[.int .i64 (id:Int)] rfl rfl (HGW5.out.down (by go_grown)) (Bk.new rfl) rfl (by simp [Value.oneCell']) HGB.out (by decide) ?_;intro v' w6 hs6 hg6;have HS6:=Lib.hid hs6;clear hs6 hg6)
    go_roundw
    case rel=>exact⟨i+1,by omega,by go_num,max la id,by first | rfl | simp [hmx],HMX,Lib.hid ⟨G++[(id:Int)],by rw [List.length_append,List.length_singleton];have:=HGL.out.1;omega,by simpa using HS6.out,HGN.out⟩⟩
    case measure=>simp [intOf];omega
   |false=>
    go_wp2_with fail
    go_roundw
    case rel=>exact⟨i+1,by omega,by go_num,max la id,by first | rfl | simp [hmx],HMX,Lib.hid ⟨G,by have:=HGL.out.1;omega,HGW5.out,HGL.out.2⟩⟩
    case measure=>simp [intOf];omega
  ·have hltI:¬(i:Int)<(M:Int):=by omega
   obtain⟨G,hgl,hgw,hgo⟩:=HG.out
   obtain⟨ag,cg,rfl⟩:=hgw.shape
   have HRG:Hid (∀V,Keep3 wr V→∀i (h:i<G.length),∃z,ag=some ⟨z,0,none⟩∧V.cell? ⟨z,i,none⟩=some (.int .i64 G[i])):=Lib.hid (fun V hV i hi=>by
    obtain⟨z,e,hc⟩:=OwnR.owns_cell hgw.1 (i:=i) (v:= .int .i64 G[i]) (by rw [List.getElem?_map,List.getElem?_eq_getElem hi];rfl)
    subst e
    obtain⟨_,cur,hb⟩:=OwnR.owns_block hgw.1 (g:=z) rfl
    refine⟨z,rfl,?_⟩
    rw [(hV z cur hb).cell,← hb.cell]
    exact hc)
   have T4:Hid (Two w wr f g l [] x 1):=Lib.hid ⟨⟨ns,HE0.out,N3.out.down hgw.2.1⟩,⟨[],rfl,X3.out.down hgw.2.1⟩⟩
   have HGO:=Lib.hid hgo
   have HGB:Hid (G.length≤256):=Lib.hid (by omega)
   obtain⟨K,hK⟩:∃K,K=G.length:=⟨_,rfl⟩
   have HK:=Lib.hid hK
   rw [← hK]
   obtain⟨wo,hwo⟩:∃y,y=wr:=⟨_,rfl⟩
   subst hwo
   clear hgw hgl hgo HG HCE HM N3 X3 hK
   go_wp2_with fail
   go_loopw [11,13] (fun lv jv ws=>∃j:Nat,j≤N∧jv = .int .i64 (j:Int)∧∃la:Nat,lv = .int .i64 (la:Int)∧Hid (∃l x m y,Inv l x∧Inv m y∧Two w ws f g l m x y∧(la:Int)<x∧Gone l x G)∧Hid (Keep3 wo ws)) (fun _ jv _=>N - (intOf jv).toNat)
   case atStart=>exact⟨0,Nat.zero_le _,rfl,la,rfl,Lib.hid ⟨l,x,[],1,HI.out,inv_nil,T4.out,HLA.out,HGO.out⟩,Lib.hid (fun _ _ h=>h)⟩
   case round=>
    obtain⟨j,hj,rfl,lb,rfl,HS,HKP⟩:=hrel
    clear T4 HLA HI HGO HE0
    obtain⟨l',x',m',y',hl,hm',ht,hla,hgo⟩:=HS.out
    have HI1:=Lib.hid hl
    have HI2:=Lib.hid hm'
    have HT:=Lib.hid ht
    have HLB:=Lib.hid hla
    have HGO:=Lib.hid hgo
    have BW:Hid (Below w.heap.size w wr):=Lib.hid (by obtain⟨⟨ns,_,h3⟩,_⟩:=ht;exact h3.below)
    clear hl hm' ht hla hgo HS
    by_cases hlt2:j<N
    ·have hltJ:(j:Int)<(N:Int):=by omega
     have hje:j<es.length:=by rw [← HL.out];exact hlt2
     obtain⟨⟨d,sv,av⟩,hz⟩:∃z,es[j]'hje=z:=⟨_,rfl⟩
     obtain⟨ho,q,o,rfl,hr⟩:=HE.out j hje
     rw [hz] at ho hr
     have HO:=Lib.hid ho
     have HR:=Lib.hid hr
     have hNb:N≤1000000000000:=hn
     have ckd:wr.cell? ⟨q,o+j*20+1,none⟩=some (.int .i64 d.kind):=range_below hr BW.out 1 _ rfl
     clear ho hr hz hje
     by_cases h0:d.kind=0
     ·obtain⟨rn,hr1,hr2,hr3⟩:=plant_ans HI1.out d.p d.a d.n HO.out.mid
      have hop:=over_plant HI1.out d.p d.a d.n HO.out.mid (k:=0) (by have:=HI1.out.good.1;omega) (fun n hn=>by have:=at_mem hn;have:=HI1.out.ok.mem this.1;omega)
      obtain⟨s,hs⟩:∃s,s=(plantP l' x' d.p d.n d.a).2.1:=⟨_,rfl⟩
      obtain⟨L7,hL7⟩:∃z,z=(plantP l' x' d.p d.n d.a).2.2.1:=⟨_,rfl⟩
      obtain⟨X7,hX7⟩:∃z,z=(plantP l' x' d.p d.n d.a).2.2.2:=⟨_,rfl⟩
      have HJ1:Hid (Inv L7 X7):=Lib.hid (by rw [hL7,hX7];exact inv_plant HI1.out d.p d.a d.n HO.out.mid)
      have HXX:Hid (x'≤X7):=Lib.hid (by rw [hX7];exact hop.2)
      rw [← hX7] at hr2
      rw [← hs] at hr3
      have HL7:Hid (((max lb rn:Nat):Int)<X7):=Lib.hid (by have:=HLB.out;have:=HXX.out;omega)
      have HR3:Hid (s=0→¬(rn:Int)≤(lb:Int)):=Lib.hid (fun h=>by have:=hr3 h;have:=HLB.out;omega)
      have HG7:Hid (Gone L7 X7 G):=Lib.hid (fun k hk=>by
       obtain⟨n,hn,ho,hx⟩:=HGO.out k hk
       have:=over_plant HI1.out d.p d.a d.n HO.out.mid hx ho
       exact⟨n,hn,by rw [hL7];exact this.1,by have:=HXX.out;omega⟩)
      have HPL:Hid (∀V,Two w V f g l' m' x' y'→Calls Tryz.prog 26 #[.pointer (some ⟨f,0,none⟩),.agg (inC d.i d.p d.n sv av).toList.toArray,.int .i64 d.a] V fun e w'=>e = .returned (.tuple #[.int .i64 (rn:Int),.int .i64 s])∧Two w w' f g L7 m' X7 y'∧Keep3 V w'):=Lib.hid (fun V hV=>by
       obtain⟨⟨ns,e,h1⟩,⟨rs,e2,h2⟩⟩:=hV
       have hh:=plant_call h1.fr (few_ns e HI1.out) (by rw [e];exact HI1.out.good) d.i d.p d.n sv av HO.out.mid (HO.out.r1.below h1.below) (HO.out.r2.below h1.below) (fun he z hz hw=>by have:=HO.out.o1 he z hz;have:=h1.own z hw;omega) (fun he z hz hw=>by have:=HO.out.o2 he z hz;have:=h1.own z hw;omega) d.a
       rw [e,hr1,← hs,← hL7,← hX7] at hh
       refine hh.mono ?_
       rintro e w' ⟨rfl,ns',e3,f1,c1⟩
       exact⟨rfl,⟨⟨ns',e3,h1.go f1 c1⟩,⟨rs,e2,h2.left h1.fr c1⟩⟩,Keep3.chf h1.fr c1⟩)
      have HRA:Hid (∀V,Below w.heap.size w V→V.rangeAt q (o+j*20+5) (inC d.i d.p d.n sv av).toList∧V.cell? ⟨q,o+j*20+2,none⟩=some (.int .i64 d.a)):=Lib.hid (fun V hV=>⟨fun i v hv=>by
       have h1:=range_below HR.out hV (5+i) v (by
        have:=op_node d sv av i
        rw [Array.getElem?_toList,this,← Array.getElem?_toList]
        exact hv)
       rw [show o+j*20+5+i=o+j*20+(5+i) by omega]
       exact h1,range_below HR.out hV 2 _ rfl⟩)
      rw [h0] at ckd
      clear hr1 hr2 hr3 hop hs hL7 hX7
      go_upto_region 18 with fail
      refine Pl.stP (fun bb V=>Below w.heap.size w V∧Keep3 wr V∧(bb=false→Two w V f g l' m' x' y')∧(bb=true→Two w V f g L7 m' X7 y')) f q o N cm j d.a (rn:Int) s (inC d.i d.p d.n sv av).toList wr ?cl (fun _ V hV=>(HRA.out V hV.1).1) (fun _ V hV=>(HRA.out V hV.1).2) (by rfl) hlt2 hltJ ⟨BW.out.trans (by have:=BW.out.size;go_grown),fun b cs hb=>hb.drew,fun _=>HT.out.down (by go_grown),(fun h=>by cases h)⟩ ?_
      case cl=>
       intro V hV
       refine(HPL.out V (hV.2.2.1 rfl)).mono ?_
       rintro e w' ⟨rfl,h1,h2⟩
       exact⟨rfl,by obtain⟨⟨ns,_,h3⟩,_⟩:=h1;exact h3.below,hV.2.1.trans h2,(fun h=>by cases h),fun _=>h1⟩
      intro w7 hw7
      have HT7:=Lib.hid (hw7.2.2.2 rfl)
      have HK7:Hid (Keep3 wo w7):=Lib.hid (HKP.out.trans hw7.2.1)
      have HJ2:Hid (Inv m' y'):=HI2
      obtain⟨M7,hM7⟩:∃z,z=m':=⟨_,rfl⟩
      obtain⟨Y7,hY7⟩:∃z,z=y':=⟨_,rfl⟩
      rw [← hM7,← hY7] at HT7 HJ2
      obtain⟨lc,hlc⟩:∃lc,lc=max lb rn:=⟨_,rfl⟩
      have hmx:max (lb:Int) (rn:Int)=(lc:Int):=by omega
      rw [← hlc] at HL7
      clear hw7 HT HLB HGO HKP HXX HI1 HI2 ckd BW HPL HRA hM7 hY7 hlc
      by_cases hs0:s=0
      ·have hle:=HR3.out hs0
       have hsb:(s == 0)=true:=by simpa using hs0
       clear HR3
       have HLV:Hid (∀V,Below w7.heap.size w7 V→∀(i:Nat) (h:i<G.length) (t:Int),Calls Tryz.prog 27 #[.pointer (some ⟨f,0,none⟩),.int .i64 G[i],.int .i64 t] V fun e w'=>e = .returned (.bool false)∧Below V.heap.size V w'):=Lib.hid (fun V hV i hi t=>by
        obtain⟨n,hn,ho,_⟩:=HG7.out G[i] (List.getElem_mem hi)
        have h:=(HT7.out.down hV).live HJ1.out G[i] t
        rw [hn,live_over HJ1.out.ok ho t] at h
        rw [hn]
        exact h)
       obtain⟨wp,hwp⟩:∃y,y=w7:=⟨_,rfl⟩
       subst hwp
       go_wp2_with fail
       go_loopw [16] (fun kv ws=>∃k:Nat,k≤K∧kv = .int .i64 (k:Int)∧Hid (Below wp.heap.size wp ws)) (fun kv _=>K - (intOf kv).toNat)
       case atStart=>exact⟨0,Nat.zero_le _,rfl,Lib.hid (Below.refl _ _)⟩
       case round=>
        obtain⟨k,hk,rfl,HB7⟩:=hrel
        have hkb:=HGB.out
        rw [← HK.out] at hkb
        by_cases hk2:k<K
        ·have hkI:(k:Int)<(K:Int):=by omega
         have hkg:k<G.length:=by rw [← HK.out];exact hk2
         obtain⟨z,hz,hc⟩:=HRG.out wr (HK7.out.trans (Keep3.of HB7.out)) k hkg
         have HZ:=Lib.hid hz
         subst hz
         obtain⟨gk,hgk⟩:∃gk,gk=G[k]'hkg:=⟨_,rfl⟩
         have HC:Hid (∀V,Below wr.heap.size wr V→V.cell? ⟨z,k,none⟩=some (.int .i64 gk)):=Lib.hid (fun V hV=>by rw [hgk];exact cell_below hV hc)
         have HLW:Hid (∀V,Below wr.heap.size wr V→∀t:Int,Calls Tryz.prog 27 #[.pointer (some ⟨f,0,none⟩),.int .i64 gk,.int .i64 t] V fun e w'=>e = .returned (.bool false)∧Below V.heap.size V w'):=Lib.hid (fun V hV t=>by rw [hgk];exact HLV.out V (HB7.out.trans (hV.mono HB7.out.size)) k hkg t)
         have c0:=HC.out wr (Below.refl _ _)
         clear hc hgk hkg HLV HZ
         go_wp2_with fail
         refine(HLW.out wr (Below.refl _ _) now).mono ?_
         rintro e w8 ⟨rfl,hb⟩
         have B8:=Lib.hid hb
         have c1:=HC.out w8 hb
         clear hb c0
         go_wp2_with fail
         refine(HLW.out w8 B8.out 0).mono ?_
         rintro e w9 ⟨rfl,hb⟩
         have B9:=Lib.hid (B8.out.trans (hb.mono B8.out.size))
         have c2:=HC.out w9 B9.out
         clear hb c1 B8
         go_wp2_with fail
         refine(HLW.out w9 B9.out (-1)).mono ?_
         rintro e w10 ⟨rfl,hb⟩
         have B10:=Lib.hid (HB7.out.trans ((B9.out.trans (hb.mono B9.out.size)).mono HB7.out.size))
         clear hb c2 B9 HC HLW HB7
         go_wp2_with fail
         go_roundw
         case rel=>exact⟨k+1,by omega,by go_num,B10⟩
         case measure=>simp [intOf];omega
        ·have hkI:¬(k:Int)<(K:Int):=by omega
         have HT9:=Lib.hid (HT7.out.down HB7.out)
         have HK9:=Lib.hid (HK7.out.trans (Keep3.of HB7.out))
         clear HLV
         go_wp2_with fail
         go_roundw
         case rel=>exact⟨j+1,by omega,by go_num,lc,by first | rfl | simpa using hmx,Lib.hid ⟨L7,X7,M7,Y7,HJ1.out,HJ2.out,HT9.out,HL7.out,HG7.out⟩,HK9⟩
         case measure=>simp [intOf];omega
      ·have hsb:(s == 0)=false:=by simpa using hs0
       clear HR3
       have HLV:Hid (∀V,Below w7.heap.size w7 V→∀(i:Nat) (h:i<G.length) (t:Int),Calls Tryz.prog 27 #[.pointer (some ⟨f,0,none⟩),.int .i64 G[i],.int .i64 t] V fun e w'=>e = .returned (.bool false)∧Below V.heap.size V w'):=Lib.hid (fun V hV i hi t=>by
        obtain⟨n,hn,ho,_⟩:=HG7.out G[i] (List.getElem_mem hi)
        have h:=(HT7.out.down hV).live HJ1.out G[i] t
        rw [hn,live_over HJ1.out.ok ho t] at h
        rw [hn]
        exact h)
       obtain⟨wp,hwp⟩:∃y,y=w7:=⟨_,rfl⟩
       subst hwp
       go_wp2_with fail
       go_loopw [16] (fun kv ws=>∃k:Nat,k≤K∧kv = .int .i64 (k:Int)∧Hid (Below wp.heap.size wp ws)) (fun kv _=>K - (intOf kv).toNat)
       case atStart=>exact⟨0,Nat.zero_le _,rfl,Lib.hid (Below.refl _ _)⟩
       case round=>
        obtain⟨k,hk,rfl,HB7⟩:=hrel
        have hkb:=HGB.out
        rw [← HK.out] at hkb
        by_cases hk2:k<K
        ·have hkI:(k:Int)<(K:Int):=by omega
         have hkg:k<G.length:=by rw [← HK.out];exact hk2
         obtain⟨z,hz,hc⟩:=HRG.out wr (HK7.out.trans (Keep3.of HB7.out)) k hkg
         have HZ:=Lib.hid hz
         subst hz
         obtain⟨gk,hgk⟩:∃gk,gk=G[k]'hkg:=⟨_,rfl⟩
         have HC:Hid (∀V,Below wr.heap.size wr V→V.cell? ⟨z,k,none⟩=some (.int .i64 gk)):=Lib.hid (fun V hV=>by rw [hgk];exact cell_below hV hc)
         have HLW:Hid (∀V,Below wr.heap.size wr V→∀t:Int,Calls Tryz.prog 27 #[.pointer (some ⟨f,0,none⟩),.int .i64 gk,.int .i64 t] V fun e w'=>e = .returned (.bool false)∧Below V.heap.size V w'):=Lib.hid (fun V hV t=>by rw [hgk];exact HLV.out V (HB7.out.trans (hV.mono HB7.out.size)) k hkg t)
         have c0:=HC.out wr (Below.refl _ _)
         clear hc hgk hkg HLV HZ
         go_wp2_with fail
         refine(HLW.out wr (Below.refl _ _) now).mono ?_
         rintro e w8 ⟨rfl,hb⟩
         have B8:=Lib.hid hb
         have c1:=HC.out w8 hb
         clear hb c0
         go_wp2_with fail
         refine(HLW.out w8 B8.out 0).mono ?_
         rintro e w9 ⟨rfl,hb⟩
         have B9:=Lib.hid (B8.out.trans (hb.mono B8.out.size))
         have c2:=HC.out w9 B9.out
         clear hb c1 B8
         go_wp2_with fail
         refine(HLW.out w9 B9.out (-1)).mono ?_
         rintro e w10 ⟨rfl,hb⟩
         have B10:=Lib.hid (HB7.out.trans ((B9.out.trans (hb.mono B9.out.size)).mono HB7.out.size))
         clear hb c2 B9 HC HLW HB7
         go_wp2_with fail
         go_roundw
         case rel=>exact⟨k+1,by omega,by go_num,B10⟩
         case measure=>simp [intOf];omega
        ·have hkI:¬(k:Int)<(K:Int):=by omega
         have HT9:=Lib.hid (HT7.out.down HB7.out)
         have HK9:=Lib.hid (HK7.out.trans (Keep3.of HB7.out))
         clear HLV
         go_wp2_with fail
         go_roundw
         case rel=>exact⟨j+1,by omega,by go_num,lc,by first | rfl | simpa using hmx,Lib.hid ⟨L7,X7,M7,Y7,HJ1.out,HJ2.out,HT9.out,HL7.out,HG7.out⟩,HK9⟩
         case measure=>simp [intOf];omega
     ·have hk0:(d.kind == 0)=false:=beq_eq_false_iff_ne.2 h0
      have HD:=Lib.hid (does_any d sv av HO.out HT.out HI1.out HI2.out)
      have HRW:=Lib.hid (range_below HR.out BW.out)
      have HN0:=Lib.hid h0
      unfold kpt at HD
      clear h0
      go_wp2_with (refine wpList_load_mid rfl 33 _ rfl q (o+j*20) rfl (opC d sv av).toList _ HRW.out Tryz.underlying33 rfl i33 ?_)
      refine HD.out.mono ?_
      rintro e w7 ⟨bb,rfl,h1,_,h3⟩
      obtain⟨L7,hL7⟩:∃z,z=(stepP l' x' d).1:=⟨_,rfl⟩
      obtain⟨X7,hX7⟩:∃z,z=(stepP l' x' d).2:=⟨_,rfl⟩
      obtain⟨M7,hM7⟩:∃z,z=(stepP m' y' d).1:=⟨_,rfl⟩
      obtain⟨Y7,hY7⟩:∃z,z=(stepP m' y' d).2:=⟨_,rfl⟩
      rw [← hL7,← hX7,← hM7,← hY7] at h1
      have HT7:=Lib.hid h1
      have HJ1:Hid (Inv L7 X7):=Lib.hid (by rw [hL7,hX7];exact inv_step HI1.out d HO.out.mid)
      have HJ2:Hid (Inv M7 Y7):=Lib.hid (by rw [hM7,hY7];exact inv_step HI2.out d HO.out.mid)
      have HXX:Hid (x'≤X7):=Lib.hid (by rw [hX7];exact(over_step HI1.out d HO.out.mid (k:=0) (by have:=HI1.out.good.1;omega) (fun n hn=>by have:=at_mem hn;have:=HI1.out.ok.mem this.1;omega)).2)
      have HL7:Hid ((lb:Int)<X7):=Lib.hid (by have:=HLB.out;have:=HXX.out;omega)
      have HG7:Hid (Gone L7 X7 G):=Lib.hid (fun k hk=>by
       obtain⟨n,hn,ho,hx⟩:=HGO.out k hk
       have:=over_step HI1.out d HO.out.mid hx ho
       exact⟨n,hn,by rw [hL7];exact this.1,by have:=HXX.out;omega⟩)
      have HK7:Hid (Keep3 wo w7):=Lib.hid (HKP.out.trans h3)
      obtain⟨lc,hlc⟩:∃lc,lc=lb:=⟨_,rfl⟩
      subst hlc
      have hmx:True:=trivial
      clear h1 h3 hL7 hX7 hM7 hY7 HD HRW HT HLB HGO HKP HXX HI1 HI2 hk0 HN0 ckd BW
      have HLV:Hid (∀V,Below w7.heap.size w7 V→∀(i:Nat) (h:i<G.length) (t:Int),Calls Tryz.prog 27 #[.pointer (some ⟨f,0,none⟩),.int .i64 G[i],.int .i64 t] V fun e w'=>e = .returned (.bool false)∧Below V.heap.size V w'):=Lib.hid (fun V hV i hi t=>by
       obtain⟨n,hn,ho,_⟩:=HG7.out G[i] (List.getElem_mem hi)
       have h:=(HT7.out.down hV).live HJ1.out G[i] t
       rw [hn,live_over HJ1.out.ok ho t] at h
       rw [hn]
       exact h)
      obtain⟨wp,hwp⟩:∃y,y=w7:=⟨_,rfl⟩
      subst hwp
      go_wp2_with fail
      go_loopw [16] (fun kv ws=>∃k:Nat,k≤K∧kv = .int .i64 (k:Int)∧Hid (Below wp.heap.size wp ws)) (fun kv _=>K - (intOf kv).toNat)
      case atStart=>exact⟨0,Nat.zero_le _,rfl,Lib.hid (Below.refl _ _)⟩
      case round=>
       obtain⟨k,hk,rfl,HB7⟩:=hrel
       have hkb:=HGB.out
       rw [← HK.out] at hkb
       by_cases hk2:k<K
       ·have hkI:(k:Int)<(K:Int):=by omega
        have hkg:k<G.length:=by rw [← HK.out];exact hk2
        obtain⟨z,hz,hc⟩:=HRG.out wr (HK7.out.trans (Keep3.of HB7.out)) k hkg
        have HZ:=Lib.hid hz
        subst hz
        obtain⟨gk,hgk⟩:∃gk,gk=G[k]'hkg:=⟨_,rfl⟩
        have HC:Hid (∀V,Below wr.heap.size wr V→V.cell? ⟨z,k,none⟩=some (.int .i64 gk)):=Lib.hid (fun V hV=>by rw [hgk];exact cell_below hV hc)
        have HLW:Hid (∀V,Below wr.heap.size wr V→∀t:Int,Calls Tryz.prog 27 #[.pointer (some ⟨f,0,none⟩),.int .i64 gk,.int .i64 t] V fun e w'=>e = .returned (.bool false)∧Below V.heap.size V w'):=Lib.hid (fun V hV t=>by rw [hgk];exact HLV.out V (HB7.out.trans (hV.mono HB7.out.size)) k hkg t)
        have c0:=HC.out wr (Below.refl _ _)
        clear hc hgk hkg HLV HZ
        go_wp2_with fail
        refine(HLW.out wr (Below.refl _ _) now).mono ?_
        rintro e w8 ⟨rfl,hb⟩
        have B8:=Lib.hid hb
        have c1:=HC.out w8 hb
        clear hb c0
        go_wp2_with fail
        refine(HLW.out w8 B8.out 0).mono ?_
        rintro e w9 ⟨rfl,hb⟩
        have B9:=Lib.hid (B8.out.trans (hb.mono B8.out.size))
        have c2:=HC.out w9 B9.out
        clear hb c1 B8
        go_wp2_with fail
        refine(HLW.out w9 B9.out (-1)).mono ?_
        rintro e w10 ⟨rfl,hb⟩
        have B10:=Lib.hid (HB7.out.trans ((B9.out.trans (hb.mono B9.out.size)).mono HB7.out.size))
        clear hb c2 B9 HC HLW HB7
        go_wp2_with fail
        go_roundw
        case rel=>exact⟨k+1,by omega,by go_num,B10⟩
        case measure=>simp [intOf];omega
       ·have hkI:¬(k:Int)<(K:Int):=by omega
        have HT9:=Lib.hid (HT7.out.down HB7.out)
        have HK9:=Lib.hid (HK7.out.trans (Keep3.of HB7.out))
        clear HLV
        go_wp2_with fail
        go_roundw
        case rel=>exact⟨j+1,by omega,by go_num,lc,by first | rfl | simp [hmx],Lib.hid ⟨L7,X7,M7,Y7,HJ1.out,HJ2.out,HT9.out,HL7.out,HG7.out⟩,HK9⟩
        case measure=>simp [intOf];omega
    ·have hltJ:¬(j:Int)<(N:Int):=by omega
     go_wp2_with fail
     refine(HFX.out wr BW.out).mono ?_
     rintro e w9 ⟨rfl,hb⟩
     have B9:=Lib.hid (BW.out.trans (hb.mono BW.out.size))
     clear hb
     go_wp2_with fail
     go_ret
     exact⟨rfl,B9.out⟩
end Go.Proofs.YthogppennalobaaGreatDoor
