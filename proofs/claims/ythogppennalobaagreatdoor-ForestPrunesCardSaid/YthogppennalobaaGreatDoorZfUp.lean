/- PROVED HERE: to prune takes away none that is live, and changes nothing of what is told of those that stay, then or later; time alone makes nothing live (ForestPrunes, the first form: within the form's reach), tied to the program's text. -/
import Derived.Test.YthogppennalobaaGreatDoorZf16
import Derived.Test.YthogppennalobaaGreatDoorZf07
import Derived.Test.YthogppennalobaaGreatDoorZf35
set_option linter.unusedVariables false
set_option linter.unusedSimpArgs false
set_option maxRecDepth 100000
namespace Go.Proofs.YthogppennalobaaGreatDoor
open Go.RowKit Go.Sort Forest OwnR TxO
theorem ok_takeM:∀ {l:List Nd} (n:Nat),Ok l→Ok (l.take n)
 |[],n,_=>by rw [List.take_nil];trivial
 |a::l,0,_=>trivial
 |a::l,n+1,h=>⟨h.1,h.2.1,fun m hm=>h.2.2.1 m (List.mem_of_mem_take hm),ok_takeM n h.2.2.2⟩
set_option maxHeartbeats 4000000 in
theorem clone_call {w:World}{f:Nat}{ns:Ns}{nx:Int}(h:FR w f ns nx)(hl:ns.length≤1000000): Calls Tryz.prog 13 #[kpt f] w fun e w'=>∃g b,e = .returned (kpt g)∧nodes b=nodes ns∧FR w' g b nx∧Below w.heap.size w w'∧∀q,OwnsB w' g b q→w.heap.size≤q:=by
 have H:=Lib.hid h
 have HL:=Lib.hid hl
 obtain⟨a,c,h0,h1,hc⟩:=h.cells
 have HC:=Lib.hid hc
 have hw:Below w.heap.size w (w.alloc (.cells #[.slice none 0 0,.int .i64 nx] 71)):=by go_grown
 have HF0:Hid (FR (w.alloc (.cells #[.slice none 0 0,.int .i64 nx] 71)) w.heap.size [] nx):=Lib.hid ⟨trivial,⟨none,0,Bk.new rfl,⟨rfl,.inl ⟨rfl,rfl⟩⟩⟩,fun k hk=>by cases hk⟩
 have HO0:Hid (∀q,OwnsB (w.alloc (.cells #[.slice none 0 0,.int .i64 nx] 71)) w.heap.size [] q→w.heap.size≤q):=Lib.hid fun q hq=>by
  rcases hq with rfl | ⟨k,hk,_⟩ | ⟨n,d,x,hq⟩
  ·exact Nat.le_refl _
  ·cases hk
  ·have e:=(show Bk 71 (w.alloc (.cells #[.slice none 0 0,.int .i64 nx] 71)) w.heap.size #[.slice none 0 0,.int .i64 nx] from Bk.new rfl).symm.trans hq
   simp at e
 have HW:=Lib.hid hw
 have d0:(w.alloc (.cells #[.slice none 0 0,.int .i64 nx] 71)).cell? ⟨f,0,none⟩=some (.slice a ns.length c):=cell_below hw h0
 clear hc h hl
 unfold kpt
 go_enter Tryz.func13,Tryz.ntmps13
 go_wp2_with fail
 clear h0 h1 d0 hw
 obtain⟨g,hg⟩:∃g,g=w.heap.size:=⟨_,rfl⟩
 rw [← hg]
 rw [← hg] at HF0 HO0
 have HG:=Lib.hid hg
 clear hg
 generalize w.alloc (.cells #[.slice none 0 0,.int .i64 nx] 71)=w1 at HF0 HO0 HW ⊢
 go_loopw [17] (fun iv wr=>∃i:Nat,i≤ns.length∧iv = .int .i64 (i:Int)∧Hid (∃b:Ns,b.length=i∧nodes b=(nodes ns).take i∧FR wr g b nx∧Below w.heap.size w wr∧∀q,OwnsB wr g b q→w.heap.size≤q)) (fun iv _=>ns.length - (intOf iv).toNat)
 case atStart=>exact⟨0,Nat.zero_le _,rfl,Lib.hid ⟨[],rfl,rfl,HF0.out,HW.out,by rw [← HG.out];exact HO0.out⟩⟩
 case round=>
  obtain⟨i,hi,rfl,HI⟩:=hrel
  by_cases hlt:i<ns.length
  ·obtain⟨b,hbi,hbn,hbf,hbb,hbo⟩:=HI.out
   have hltI:(i:Int)<(ns.length:Int):=by omega
   have hln:=HL.out
   obtain⟨q,rfl,c0⟩:=HC.out i hlt
   have c1:wr.cell? ⟨q,i,none⟩=some (kpt ns[i].1):=cell_below hbb c0
   obtain⟨k,hk⟩:∃k,ns[i]'hlt=k:=⟨_,rfl⟩
   have hkm:k∈ns:=hk▸List.getElem_mem hlt
   rw [hk] at c1
   obtain⟨sv0,av0,K,hs,ha⟩:=(H.out.below hbb).node k hkm
   have HT:(nodes ns).take (i+1)=(nodes ns).take i++[k.2]:=by
    unfold nodes
    rw [List.take_add_one,List.getElem?_map,List.getElem?_eq_getElem hlt,hk];rfl
   have hok:Ok (nodes b++[k.2]):=by rw [hbn,← HT];exact ok_takeM _ H.out.ok
   have HP:=Lib.hid (put_any hbf (by omega) k.2 sv0 av0 hok hs ha)
   have HX:Hid (b.length=i∧nodes b++[k.2]=(nodes ns).take (i+1)∧Below w.heap.size w wr∧∀q,OwnsB wr g b q→w.heap.size≤q):=Lib.hid ⟨hbi,by rw [hbn,HT],hbb,hbo⟩
   have K2:=K
   unfold ndC txt at K2
   obtain⟨⟨a0,a1,a2,a3,a4⟩,⟨a5,a6,a7,a8,a9⟩,a10,a11,a12,a13,a14⟩:=K2.cells15
   obtain⟨sa,sc,rfl⟩:=owns_shape hs
   obtain⟨ca,cc,rfl⟩:=owns_shape ha
   unfold inC txt kpt at HP
   clear HI hbi hbn hbf hbb hbo c0 hk K K2 hs ha hkm hok HT
   unfold kpt at c1
   go_wp2_with fail
   refine HP.out.mono ?_
   rintro e w2 ⟨rfl,g',hg',hf',hc',_⟩
   clear c1 a0 a1 a2 a3 a4 a5 a6 a7 a8 a9 a10 a11 a12 a13 a14 HP
   have HY:Hid (∃b:Ns,b.length=i+1∧nodes b=(nodes ns).take (i+1)∧FR w2 g b nx∧Below w.heap.size w w2∧∀q,OwnsB w2 g b q→w.heap.size≤q):=Lib.hid (by
    obtain⟨L,hL,hLo⟩:=hc'.only
    have hsz:=HX.out.2.2.1.size
    refine⟨_,by simp [HX.out.1],by rw [← HX.out.2.1];simp [nodes],hf',HX.out.2.2.1.trans (hL.below hsz fun x hx=>HX.out.2.2.2 x (hLo x hx)),fun q hq=>?_⟩
    rcases hc'.own q hq with h | h
    ·exact HX.out.2.2.2 q h
    ·exact Nat.le_trans hsz h)
   clear hg' hf' hc'
   go_wp2_with fail
   go_roundw
   case rel=>exact⟨i+1,by omega,by go_num,HY⟩
   case measure=>simp [intOf];omega
  ·have hie:i=ns.length:=by omega
   have hltI:¬(i:Int)<(ns.length:Int):=by omega
   go_wp2_with fail
   go_ret
   obtain⟨b,hbi,hbn,hbf,hbb,hbo⟩:=HI.out
   exact⟨g,rfl,b,by rw [hbn,hie,List.take_of_length_le (by simp [nodes])],hbf,hbb,hbo⟩
end Go.Proofs.YthogppennalobaaGreatDoor
namespace Go.Proofs.YthogppennalobaaGreatDoor
open Go.RowKit Go.Sort Forest OwnR TxO Pl
set_option maxHeartbeats 16000000 in
theorem prunes_walk {w:World}{vs:Value}{ds:List (OpD×Value×Value)}(hs:Sc w w vs ds)(now later:Int)(hT:Tb w)(hM:Mx w): Calls Tryz.prog 8 #[vs,.int .i64 now,.int .i64 later] w fun e w'=>e = .returned (.bool true)∧Below w.heap.size w w':=by
 have HMA:=Lib.hid (made_any hs)
 have HFX:=Lib.hid (fun W (hb:Below w.heap.size w W)=>fixed_any W (hT.below hb) (hM.below hb))
 clear hs hT hM
 unfold kpt at HMA
 go_enter Tryz.func8,Tryz.ntmps8
 go_wp2_with fail
 refine HMA.out.mono ?_
 rintro e w1 ⟨f,l,x,rfl,hl,ns,e0,h1⟩
 have N1:=Lib.hid h1
 have HI:=Lib.hid hl
 have HE0:=Lib.hid e0
 have HCL:Hid (Calls Tryz.prog 13 #[.pointer (some ⟨f,0,none⟩)] w1 fun e w'=>∃g b,e = .returned (.pointer (some ⟨g,0,none⟩))∧nodes b=nodes ns∧FR w' g b x∧Below w1.heap.size w1 w'∧∀q,OwnsB w' g b q→w1.heap.size≤q):=Lib.hid (clone_call N1.out.fr (few_ns HE0.out HI.out))
 clear HMA h1 hl e0
 obtain⟨A,B,hAB,hcase⟩:∃A B:Int,A≤B∧((later<now∧later=A∧now=B)∨(¬later<now∧now=A∧later=B)):=by
  by_cases h:later<now
  ·exact⟨later,now,by omega,.inl ⟨h,rfl,rfl⟩⟩
  ·exact⟨now,later,by omega,.inr ⟨h,rfl,rfl⟩⟩
 have HAB:=Lib.hid hAB
 rcases hcase with ⟨hlt,hA,hB⟩ | ⟨hlt,hA,hB⟩
 all_goals
  go_wp2_with fail
  try rw [hA,hB]
  clear hA hB
  refine HCL.out.mono ?_
  rintro e w2 ⟨g,b,rfl,hb1,hb2,hb3,hb4⟩
  have D2:=Lib.hid (N1.out.duo hb2 hb3 hb4)
  have HEB:Hid (nodes b=l):=Lib.hid (hb1.trans HE0.out)
  have HNO:Hid (Calls Tryz.prog 17 #[.pointer (some ⟨f,0,none⟩)] w2 fun e w'=>∃v rs,e = .returned v∧rs.map (·.1)=nodes ns∧Nr w' v rs∧Below w2.heap.size w2 w'∧∀k,v.ownBlock=some k→w2.heap.size≤k):=Lib.hid (nodes_call D2.out.fa (few_ns HE0.out HI.out) (by rw [HE0.out];exact HI.out.short))
  clear HCL hb1 hb2 hb3 hb4 hlt hAB
  go_wp2_with fail
  refine HNO.out.mono ?_
  rintro e w3 ⟨v,rs,rfl,hr1,hr2,hr3,_⟩
  obtain⟨av,cv,rfl⟩:=OwnR.owns_shape hr2.1
  have D3:=Lib.hid (D2.out.down hr3)
  have HRL:Hid (rs.map (·.1)=l):=Lib.hid (by rw [hr1,HE0.out])
  have HRN:=Lib.hid hr2
  obtain⟨M,hM⟩:∃M,M=rs.length:=⟨_,rfl⟩
  have HML:Hid (M=l.length):=Lib.hid (by rw [hM,← HRL.out,List.length_map])
  have hm2:M≤256:=by have:=HML.out;have:=HI.out.few;omega
  have HCE:Hid (∀i (h:i<l.length),∃q,av=some ⟨q,0,none⟩∧∀V,KeepA w3 V→V.cell? ⟨q,i*15,none⟩=some (.int .i64 ((l[i]'h).id:Int))):=Lib.hid (fun i hi=>by
   have hi2:i<rs.length:=by rw [← hM,HML.out];exact hi
   obtain⟨q,e,hc⟩:=HRN.out.kept hi2
   refine⟨q,e,fun V hV=>?_⟩
   have h0:=hc V hV 0 (by omega)
   have e2:l[i]=rs[i].1:=by
    have:l[i]?=(rs.map (·.1))[i]?:=by rw [HRL.out]
    rw [List.getElem?_map,List.getElem?_eq_getElem hi,List.getElem?_eq_getElem hi2] at this
    simpa using this
   rw [e2]
   simpa [nodeC,inC] using h0)
  rw [← hM]
  clear HNO hr1 hr2 hr3 hM HRN HRL D2 N1
  obtain⟨p,hp⟩:∃p,p=prune l A:=⟨_,rfl⟩
  have HP:=Lib.hid hp
  have HJ:Hid (Inv p x):=Lib.hid (by rw [hp];exact inv_filter HI.out (keeps l A))
  obtain⟨P,hP⟩:∃P,P=p.length:=⟨_,rfl⟩
  have HPN:=Lib.hid hP
  have hPM:P≤M:=by rw [hP,HML.out,hp];exact List.length_filter_le _ _
  obtain⟨D,hD⟩:∃D,D=M - P:=⟨_,rfl⟩
  have hDb:((P:Int) == (M:Int) - (D:Int))=true:=by rw [beq_iff_eq];omega
  have HPR:Hid (Calls Tryz.prog 31 #[.pointer (some ⟨g,0,none⟩),.int .i64 A] w3 fun e w'=>e = .returned (.int .i64 (D:Int))∧∃b',nodes b'=p∧FR w' g b' x∧Chf w3 w' g b b'):=Lib.hid (by
   have h:=prune_call D3.out.fb (few_ns HEB.out HI.out) A
   have hbl:b.length=M:=by
    have:=congrArg List.length HEB.out
    rw [HML.out,← this]
    simp [nodes]
   rw [HEB.out,hbl,← hp,← hP] at h
   refine h.mono ?_
   rintro e w' ⟨rfl,b',k1,k2,k3⟩
   exact⟨by rw [show(M:Int) - (P:Int)=(D:Int) by omega],b',k1,k2,k3⟩)
  clear hp hP
  go_wp2_with fail
  refine HPR.out.mono ?_
  rintro e w4 ⟨rfl,b4,k1,k2,k3⟩
  have D4:=Lib.hid (D3.out.goB k2 k3)
  have HK4:Hid (KeepA w3 w4):=Lib.hid (KeepA.chf D3.out.fb k3)
  have HE4:=Lib.hid k1
  have HN4:Hid (Calls Tryz.prog 17 #[.pointer (some ⟨g,0,none⟩)] w4 fun e w'=>∃a c,e = .returned (.slice a P c)∧Below w4.heap.size w4 w'):=Lib.hid (by
   refine(nodes_call k2 (few_ns k1 HJ.out) (by rw [k1];exact HJ.out.short)).mono ?_
   rintro e w' ⟨v,rs,rfl,h1,h2,h3,_⟩
   obtain⟨a,c,rfl⟩:=OwnR.owns_shape h2.1
   have:rs.length=P:=by
    have:=congrArg List.length h1
    rw [List.length_map,k1,← HPN.out] at this
    exact this
   rw [this]
   exact⟨a,c,rfl,h3⟩)
  clear HPR k1 k2 k3 D3
  go_wp2_with fail
  refine HN4.out.mono ?_
  rintro e w5 ⟨a5,c5,rfl,hb5⟩
  have D5:=Lib.hid (D4.out.down hb5)
  have HK5:Hid (KeepA w3 w5):=Lib.hid (HK4.out.trans (KeepA.of hb5))
  have HPR:Hid (Calls Tryz.prog 31 #[.pointer (some ⟨g,0,none⟩),.int .i64 A] w5 fun e w'=>e = .returned (.int .i64 0)∧∃b',nodes b'=p∧FR w' g b' x∧Chf w5 w' g b4 b'):=Lib.hid (by
   have h:=prune_call D5.out.fb (few_ns HE4.out HJ.out) A
   have hbl:b4.length=P:=by
    have:=congrArg List.length HE4.out
    rw [HPN.out,← this]
    simp [nodes]
   have hpp:prune p A=p:=by rw [HP.out];exact prune_twice HI.out.ok A
   rw [HE4.out,hbl,hpp,← HPN.out] at h
   refine h.mono ?_
   rintro e w' ⟨rfl,b',k1,k2,k3⟩
   exact⟨by rw [Int.sub_self],b',k1,k2,k3⟩)
  clear HN4 hb5 D4 HK4
  go_wp2_with fail
  refine HPR.out.mono ?_
  rintro e w6 ⟨rfl,b6,k1,k2,k3⟩
  have D6:=Lib.hid (D5.out.goB k2 k3)
  have HE6:=Lib.hid k1
  have HK6:Hid (KeepA w3 w6):=Lib.hid (HK5.out.trans (KeepA.chf D5.out.fb k3))
  have HFL:Hid (∀(t:Int) (i:Int) V,Below w6.heap.size w6 V→Calls Tryz.prog 27 #[.pointer (some ⟨f,0,none⟩),.int .i64 i,.int .i64 t] V fun e w'=>e = .returned (.bool (liveP l i t))∧Below w6.heap.size w6 w'):=Lib.hid (fun t i V hV=>by
   have:=live_any (D6.out.down hV).fa (few_ns HE0.out HI.out) i t
   rw [HE0.out] at this
   refine this.mono ?_
   rintro e w' ⟨rfl,h⟩
   exact⟨rfl,hV.trans (h.mono hV.size)⟩)
  have HGL:Hid (∀(t:Int) (i:Int) V,Below w6.heap.size w6 V→Calls Tryz.prog 27 #[.pointer (some ⟨g,0,none⟩),.int .i64 i,.int .i64 t] V fun e w'=>e = .returned (.bool (liveP p i t))∧Below w6.heap.size w6 w'):=Lib.hid (fun t i V hV=>by
   have:=live_any (D6.out.down hV).fb (few_ns HE6.out HJ.out) i t
   rw [HE6.out] at this
   refine this.mono ?_
   rintro e w' ⟨rfl,h⟩
   exact⟨rfl,hV.trans (h.mono hV.size)⟩)
  clear HPR k1 k2 k3 D5 HK5 hDb hPM hD
  go_wp2_with fail
  obtain⟨wp,hwp⟩:∃y,y=w6:=⟨_,rfl⟩
  subst hwp
  go_loopw [11] (fun iv wr=>∃i:Nat,i≤M∧iv = .int .i64 (i:Int)∧Hid (Below wp.heap.size wp wr)) (fun iv _=>M - (intOf iv).toNat)
  case atStart=>exact⟨0,Nat.zero_le _,rfl,Lib.hid (Below.refl _ _)⟩
  case round=>
   obtain⟨i,hi,rfl,HB⟩:=hrel
   by_cases hlt:i<M
   ·have hltI:(i:Int)<(M:Int):=by omega
    have hil:i<l.length:=by rw [← HML.out];exact hlt
    obtain⟨q,rfl,hc⟩:=HCE.out i hil
    have hc:=hc wr (HK6.out.trans (KeepA.of HB.out))
    have HS1:=Lib.hid (prune_same HI.out.ok (Int.le_refl A) (List.getElem_mem hil))
    have HS2:=Lib.hid (prune_same HI.out.ok HAB.out (List.getElem_mem hil))
    have HS3:=Lib.hid (live_earlier HI.out.ok HAB.out (List.getElem_mem hil))
    rw [← HP.out] at HS1 HS2
    obtain⟨id,hid⟩:∃y,y=(l[i]'hil).id:=⟨_,rfl⟩
    have HFA:=Lib.hid (HFL.out A ((l[i]'hil).id:Int))
    have HFB:=Lib.hid (HFL.out B ((l[i]'hil).id:Int))
    have HGA:=Lib.hid (HGL.out A ((l[i]'hil).id:Int))
    have HGB:=Lib.hid (HGL.out B ((l[i]'hil).id:Int))
    rw [HS1.out] at HGA
    rw [HS2.out] at HGB
    rw [← hid] at hc HFA HFB HGA HGB HS3
    obtain⟨LA,hLA⟩:∃y,y=liveP l (id:Int) A:=⟨_,rfl⟩
    obtain⟨LB,hLB⟩:∃y,y=liveP l (id:Int) B:=⟨_,rfl⟩
    rw [← hLA] at HFA HGA HS3
    rw [← hLB] at HFB HGB HS3
    clear hid HS1 HS2 hLA hLB HFL HGL
    cases LB with
    |true=>
     obtain rfl:LA=true:=HS3.out rfl
     go_wp2_with fail
     refine(HFB.out _ HB.out).mono ?_
     rintro e wn ⟨rfl,hb⟩
     replace HB:=Lib.hid hb
     clear hb
     go_wp2_with fail
     refine(HFA.out _ HB.out).mono ?_
     rintro e wn ⟨rfl,hb⟩
     replace HB:=Lib.hid hb
     clear hb
     go_wp2_with fail
     refine(HGA.out _ HB.out).mono ?_
     rintro e wn ⟨rfl,hb⟩
     replace HB:=Lib.hid hb
     clear hb
     go_wp2_with fail
     refine(HFA.out _ HB.out).mono ?_
     rintro e wn ⟨rfl,hb⟩
     replace HB:=Lib.hid hb
     clear hb
     go_wp2_with fail
     refine(HGB.out _ HB.out).mono ?_
     rintro e wn ⟨rfl,hb⟩
     replace HB:=Lib.hid hb
     clear hb
     go_wp2_with fail
     refine(HFB.out _ HB.out).mono ?_
     rintro e wn ⟨rfl,hb⟩
     replace HB:=Lib.hid hb
     clear hb
     go_wp2_with fail
     go_roundw
     case rel=>exact⟨i+1,by omega,by go_num,by first | exact HB | exact Lib.hid HB.out⟩
     case measure=>simp [intOf];omega
    |false=>
     cases LA with
     |true=>
      go_wp2_with fail
      refine(HFB.out _ HB.out).mono ?_
      rintro e wn ⟨rfl,hb⟩
      replace HB:=Lib.hid hb
      clear hb
      go_wp2_with fail
      refine(HGA.out _ HB.out).mono ?_
      rintro e wn ⟨rfl,hb⟩
      replace HB:=Lib.hid hb
      clear hb
      go_wp2_with fail
      refine(HFA.out _ HB.out).mono ?_
      rintro e wn ⟨rfl,hb⟩
      replace HB:=Lib.hid hb
      clear hb
      go_wp2_with fail
      refine(HGB.out _ HB.out).mono ?_
      rintro e wn ⟨rfl,hb⟩
      replace HB:=Lib.hid hb
      clear hb
      go_wp2_with fail
      refine(HFB.out _ HB.out).mono ?_
      rintro e wn ⟨rfl,hb⟩
      replace HB:=Lib.hid hb
      clear hb
      go_wp2_with fail
      go_roundw
      case rel=>exact⟨i+1,by omega,by go_num,by first | exact HB | exact Lib.hid HB.out⟩
      case measure=>simp [intOf];omega
     |false=>
      go_wp2_with fail
      refine(HFB.out _ HB.out).mono ?_
      rintro e wn ⟨rfl,hb⟩
      replace HB:=Lib.hid hb
      clear hb
      go_wp2_with fail
      refine(HGA.out _ HB.out).mono ?_
      rintro e wn ⟨rfl,hb⟩
      replace HB:=Lib.hid hb
      clear hb
      go_wp2_with fail
      refine(HFA.out _ HB.out).mono ?_
      rintro e wn ⟨rfl,hb⟩
      replace HB:=Lib.hid hb
      clear hb
      go_wp2_with fail
      refine(HGB.out _ HB.out).mono ?_
      rintro e wn ⟨rfl,hb⟩
      replace HB:=Lib.hid hb
      clear hb
      go_wp2_with fail
      refine(HFB.out _ HB.out).mono ?_
      rintro e wn ⟨rfl,hb⟩
      replace HB:=Lib.hid hb
      clear hb
      go_wp2_with fail
      go_roundw
      case rel=>exact⟨i+1,by omega,by go_num,by first | exact HB | exact Lib.hid HB.out⟩
      case measure=>simp [intOf];omega
   ·have hltI:¬(i:Int)<(M:Int):=by omega
    go_wp2_with fail
    refine(HFX.out wr (D6.out.down HB.out).below).mono ?_
    rintro e w9 ⟨rfl,hb⟩
    have B9:=Lib.hid ((D6.out.down HB.out).below.trans (hb.mono (D6.out.down HB.out).below.size))
    clear hb
    go_wp2_with fail
    go_ret
    exact⟨rfl,B9.out⟩
end Go.Proofs.YthogppennalobaaGreatDoor
namespace Go.Proofs.YthogppennalobaaGreatDoor.forestPrunes
open Go.ChangeShapes Go.WideShapes Go.ChangeAt Go.ChangeMaps Go.RowKit Go.Deep
theorem contract (H:Type)(enc:TypeId×Value→H)(W:World)(base:Nat)(args:Array Value)(ds gs:List (DataW H))(before:List MemPlace)
  (hval:∀(j:Nat) t v,Tryz.f8.params[j]?=some t→args[j]?=some v→Value.okWide Tryz.prog W .any base t v)
  (hW:DataW.Whole enc Tryz.prog Tryz.f8.params.toList Rows.forestPrunesSpec.vars false W args.toList ds gs before)
  (hz:(DataW.weightsEach Tryz.prog (Tryz.f8.params.toList++Rows.forestPrunesSpec.plain.varTypes Tryz.prog) (ds++gs)).all (·≤reachBytes)=true) (hT:Tb W) (hM:Mx W) :
  Calls Tryz.prog 8 args W fun e W'=>∃v,e = .returned v∧Rows.forestPrunesSpec.post enc Tryz.prog Tryz.f8 false true false false W args v W':=by
 have hW':=hW
 obtain⟨p,q,hA0,hV,rfl,hfz,hnd⟩:=hW
 have hA:DataW.TrodAll enc Tryz.prog W 0 (fun _=>true) true Tryz.f8.params.toList args.toList ds p:=hA0
 rw [Tryz.params8] at hA hval hz
 obtain⟨v0,vs0,d0,ds0,p0,q0,hargs,rfl,rfl,h0,r0⟩:=trodAll_cons hA
 obtain⟨v1,vs1,d1,ds1,p1,q1,rfl,rfl,rfl,h1,r1⟩:=trodAll_cons r0
 obtain⟨v2,vs2,d2,ds2,p2,q2,rfl,rfl,rfl,h2,r2⟩:=trodAll_cons r1
 obtain⟨rfl,rfl,rfl⟩:=trodAll_nil r2
 obtain rfl:args=#[v0,v1,v2]:=by cases args;simp_all
 obtain⟨rfl,rfl⟩:=trodVars_none hV
 obtain⟨l0,hO0⟩:=open_sc (hval 0 22 v0 rfl rfl) h0 (fun m hm=>by
  have:=List.all_eq_true.1 hz m (DataW.weights_mem_each (j:=0) (t:=22) (d:=d0) rfl rfl m hm)
  have hr:=reach_is
  simp only [decide_eq_true_eq] at this
  omega)
 obtain⟨n1,rfl,rfl,rfl,wn1⟩:=open_int Tryz.underlying3 (hval 1 3 v1 rfl rfl) h1
 obtain⟨n2,rfl,rfl,rfl,wn2⟩:=open_int Tryz.underlying3 (hval 2 3 v2 rfl rfl) h2
 clear hA0
 simp only [List.append_nil,List.nil_append] at hW'
 have hlt:=fun x hx=>hW'.lt x hx
 refine(prunes_walk hO0 n1 n2 hT hM).mono fun e W' ⟨he,hg⟩=>?_
 subst he
 exact⟨_,rfl,post_below (pa:=p0) (pv:=[]) hW' (fun _ _ _=>trodAll_cons_mk (shut_bool Tryz.underlying4 _) trodAll_mk0)
  (fun sp hsp=>show DataW.TrodAll enc Tryz.prog W' 0 sp true [22,3,3] [v0,.int .i64 n1,.int .i64 n2] [d0,.lit (.int .i64 n1),.lit (.int .i64 n2)] (p0) from by
   simpa using (trodAll_cons_mk (trod_keep read22 row22 h0 hg (fun x hx=>hlt x (by simp [hx])) sp (fun x hx=>hsp x (by simp [hx]))) (trodAll_cons_mk (shut_int Tryz.underlying3 wn1) (trodAll_cons_mk (shut_int Tryz.underlying3 wn2) trodAll_mk0))))
  (fun _ _=>rfl) (by simp) hg (ok_one (by kernel_rfl) rfl (okWide_bool_mk Tryz.underlying4 _))⟩
theorem laid_met (os:Os)(args:Array Value): laidMetH Tryz.prog Rows.forestPrunesRow.laid ((World.laidAll Tryz.prog os Rows.forestPrunesRow.laid).forCall (fun _ _=>0) ⟨#[],args,[]⟩).memory:=by
 rw [MakeChecks.laidMetH_plain _ _ _ (by kernel_rfl)]
 exact laidMet_laidAll _ (by kernel_rfl) (by kernel_rfl)
theorem reads (os:Os){H:Type}(enc:TypeId×Value→H): ∃places,DataW.whole enc Tryz.prog ((World.laidAll Tryz.prog os Rows.forestPrunesRow.laid).forCall (fun _ _=>0) ⟨#[],#[.slice none 0 0,.int .i64 0,.int .i64 0],[]⟩).memory Tryz.f8.params.toList Rows.forestPrunesSpec.vars false (#[.slice none 0 0,.int .i64 0,.int .i64 0]:Array Value).toList 8=some ([.nil,.lit (.int .i64 0),.lit (.int .i64 0)],[],places):=
 ⟨[],by kernel_rfl⟩
theorem lifted (os:Os)(started:os.Started)(H:Type)(enc:TypeId×Value→H)(F:Stop.Interp):
  ReturnsInHanded {} Tryz.checked os 8 .any ((OpenSpec.ofChange Rows.forestPrunesSpec).preRow enc Tryz.prog Tryz.f8 Rows.forestPrunesRow.domain false Rows.forestPrunesRow.laid) (((OpenSpec.ofChange Rows.forestPrunesSpec).at F).post enc Tryz.prog Tryz.f8 false true false false):=by
 obtain⟨places,hx⟩:=reads os enc
 refine returnsInHanded_of_row (C:=Tryz.checked) (s:=OpenSpec.ofChange Rows.forestPrunesSpec) own started (by kernel_rfl) Tryz.func8
  (witness_row_atRef (enc:=enc) (C:=Tryz.checked) false (World.laidAll Tryz.prog os Rows.forestPrunesRow.laid) #[.slice none 0 0,.int .i64 0,.int .i64 0] (World.laidAll_os _ _ _) (by kernel_rfl) (by kernel_rfl) (by kernel_rfl)
   (OpenSpec.preRow_of_cond 8 hx (by kernel_rfl) (fun k hk=>by cases hk) (by kernel_rfl) (laid_met os _))) ?_
 intro W base args ds gs before hval hW _ _ hz hL hS _
 exact contract H enc W base args ds gs before hval hW hz (tb_of_laid hL) (mx_of_shaped hS)
theorem said:Rows.ForestPrunesSaid:=
 OpenClaim.holds_of_cond 8 Tryz.f8 rfl rfl rfl rfl rfl rfl rfl ⟨rfl,rfl,rfl,rfl,rfl⟩ rfl rfl rfl rfl rfl (by kernel_rfl) Tryz.func8 (by kernel_rfl)
  (of_decide_eq_true (by kernel_rfl)) (by unfold Func.isWrapper;first | (rw [if_pos (by decide +kernel)];kernel_rfl) | (rw [if_neg (by decide +kernel)];exact⟨rfl,rfl⟩))
  (fun os started H enc _ F=>by rw [OpenClaim.pre_eq_preRow];exact lifted os started H enc F)
theorem plain (f : FuncId) (fn : Func) (hf : Tryz.pinned.checked.prog.funcNamed "seneschal/seneschallaw13.ForestPrunes" = some f) (hfn : Tryz.pinned.checked.prog.funcs[f]? = some fn) :
  true=Tryz.pinned.checked.prog.looks []∧∀(j:Nat) t,fn.params[j]?=some t→Tryz.pinned.checked.prog.wantsStandIn t=false:=by
 obtain rfl : f = 8 := Option.some.inj ((show Tryz.prog.funcNamed "seneschal/seneschallaw13.ForestPrunes" = some 8 by kernel_rfl).symm.trans hf) |>.symm
 obtain rfl:fn=Tryz.f8:=(Option.some.inj (Tryz.func8.symm.trans hfn)).symm
 refine⟨by kernel_rfl,fun j t ht=>?_⟩
 rw [Tryz.params8] at ht
 have h:=Array.mem_of_getElem? ht
 simp only [List.mem_toArray,List.mem_cons,List.not_mem_nil,or_false,or_self] at h
 rcases h with rfl | rfl | rfl
 all_goals first | exact(show Tryz.prog.wantsStandIn 3=false by as_aux_lemma=>kernel_rfl) | exact(show Tryz.prog.wantsStandIn 22=false by as_aux_lemma=>kernel_rfl)
theorem card:Rows.ForestPrunesCardSaid:=
 Claim7.holds_tied_plain_at .later [] _ _ _ _ said (fun _ h=>by cases h) (by kernel_rfl) (fun _ h=>by cases h) forestPrunes_row_tie rfl ⟨rfl,rfl⟩ (by kernel_rfl) rfl plain (by kernel_rfl)
end Go.Proofs.YthogppennalobaaGreatDoor.forestPrunes
