/- Plant. Condition: at most a million nodes; the rows that come in are no blocks of the forest. -/
import Derived.Test.YthogppennalobaaGreatDoorZl15
set_option linter.unusedVariables false
set_option linter.unusedSimpArgs false
set_option maxRecDepth 100000
namespace Go.Proofs.YthogppennalobaaGreatDoor
open Go.RowKit Go.Sort Forest OwnR TxO
theorem only_row (w:World)(g:Nat)(cs:Array Value): Only [g] w (w.setRow g cs):=
 ⟨rfl,rfl,rfl,by simp [World.setRow],fun q _ hq=>setRow_other w g q cs (by simpa using hq)⟩
set_option maxHeartbeats 8000000 in
theorem plant_call {w:World}{f:Nat}{ns:Ns}{nx:Int}(h:FR w f ns nx)(hl:ns.length≤1000000)(hG:Good (nodes ns) nx)(i p:Int)(n:Nd)(sv av:Value)(hn:Mid n)(h1:Rd w sv n.scope)(h2:Rd w av n.actors)
  (o1:n.scope≠[]→∀q,sv.ownBlock=some q→¬OwnsB w f ns q) (o2:n.actors≠[]→∀q,av.ownBlock=some q→¬OwnsB w f ns q) (now:Int) :
  Calls Tryz.prog 26 #[kpt f,.agg (inC i p n sv av),.int .i64 now] w fun e w'=>Ends w f ns nx (.tuple #[.int .i64 (plantP (nodes ns) nx p n now).1,.int .i64 (plantP (nodes ns) nx p n now).2.1]) (plantP (nodes ns) nx p n now).2.2.1 (plantP (nodes ns) nx p n now).2.2.2 e w':=by
 have H:=Lib.hid h
 have HGo:=Lib.hid hG
 have HM:=Lib.hid (fun W (hb:Below w.heap.size w W)=>mayBe_any i p n sv av hn W (h1.below hb) (h2.below hb))
 have HA:=Lib.hid (fun W (hb:Below w.heap.size w W)=>at_any (h.below hb) hl p)
 have HB:=Lib.hid (fun W (hb:Below w.heap.size w W)=>by_any (h.below hb) hl n.secret)
 have HWh:=Lib.hid (fun(m:Nat) (hm:p=m) W (hb:Below w.heap.size w W)=>isWhole_any (h.below hb) m (.int .i64 now))
 have HPr:=Lib.hid (fun W (hb:Below w.heap.size w W)=>prune_call (h.below hb) hl now)
 have HCp:=Lib.hid (fun(hs:Short n) W (k1:Rd W sv n.scope) (k2:Rd W av n.actors)=>copied_new i p n sv av hs W k1 k2)
 have HN:=Lib.hid hn
 have R1:=Lib.hid h1
 have R2:=Lib.hid h2
 have HO1:=Lib.hid o1
 have HO2:=Lib.hid o2
 obtain⟨fa,fc,hf0,hf1,_⟩:=h.cells
 have HF0:=Lib.hid (And.intro hf0 hf1)
 have hfl:f<w.heap.size:=OwnsB.lt h (.inl rfl)
 have HFL:=Lib.hid hfl
 obtain⟨sa,sc,rfl,_⟩:=h1
 obtain⟨aa,ac,rfl,_⟩:=h2
 clear h hG hn o1 o2 hf0 hf1 hfl
 obtain⟨R,hR⟩:∃R,R=plantP (nodes ns) nx p n now:=⟨_,rfl⟩
 rw [← hR]
 have HR:=Lib.hid hR
 clear hR
 obtain⟨g,hg⟩:∃g,g=w.heap.size:=⟨_,rfl⟩
 obtain⟨pv,hpv⟩:∃v,v=blockI ns p:=⟨_,rfl⟩
 have HPV:=Lib.hid hpv
 obtain⟨bs,hbs⟩:∃v,v=(ns.find? fun k=>k.2.secret == n.secret).map (·.1):=⟨_,rfl⟩
 have HBS:=Lib.hid hbs
 rw [← hpv] at HA
 rw [← hbs] at HB
 obtain⟨PV,hPV⟩:∃v,v=fV pv:=⟨_,rfl⟩
 rw [← hPV] at HA
 have HPVV:=Lib.hid hPV
 clear hPV
 clear hpv hbs
 unfold kpt inC txt
 go_enter Tryz.func26,Tryz.ntmps26
 go_wp2_with fail
 rw [← hg]
 obtain⟨w1,hw1⟩:∃x,x=w.alloc (.cells #[.int .i64 i,.int .i64 n.kind,.int .i64 p,.string ⟨n.subject.toArray⟩,.string ⟨n.client.toArray⟩,.string ⟨n.audience.toArray⟩,.slice sa n.scope.length sc,.int .i64 n.born,.int .i64 n.exp,.bool n.dead,.bool n.spent,.slice aa n.actors.length ac,.int .i64 n.level,.string ⟨n.secret.toArray⟩,.string ⟨n.data.toArray⟩] 31):=⟨_,rfl⟩
 rw [← hw1]
 have K:Hid (Bk 31 w1 g #[.int .i64 i,.int .i64 n.kind,.int .i64 p,.string ⟨n.subject.toArray⟩,.string ⟨n.client.toArray⟩,.string ⟨n.audience.toArray⟩,.slice sa n.scope.length sc,.int .i64 n.born,.int .i64 n.exp,.bool n.dead,.bool n.spent,.slice aa n.actors.length ac,.int .i64 n.level,.string ⟨n.secret.toArray⟩,.string ⟨n.data.toArray⟩]):=Lib.hid (by rw [hw1];exact Bk.new hg)
 have HW:Hid (Below w.heap.size w w1):=Lib.hid (by rw [hw1];go_grown)
 have HG:Hid (g=w.heap.size):=Lib.hid hg
 clear hw1 hg
 refine(HA.out w1 HW.out).mono ?_
 rintro e w2 ⟨rfl,hw⟩
 replace hw:=hw.symm
 subst hw
 clear HA
 cases hm:mayP p n with
 |false=>
  rw [hm] at HM
  have HP:Hid (plantP (nodes ns) nx p n now=(0,131,nodes ns,nx)):=Lib.hid (by unfold plantP;rw [hm];rfl)
  clear hm
  go_wp2_with (refine wpList_load_row rfl 31 _ rfl g rfl 31 _ (0,0) _ K.out Tryz.underlying31 rfl i31 ?_)
  refine(HM.out w1 HW.out).mono ?_
  rintro e w2 ⟨rfl,hb⟩
  have HW2:=Lib.hid (HW.out.trans (hb.mono HW.out.size))
  clear hb
  go_wp2_with fail
  go_returns
  rw [HR.out,HP.out]
  exact⟨rfl,ns,rfl,H.out.below HW2.out,Chf.of_below H.out HW2.out⟩
 |true=>
  rw [hm] at HM
  have HMY:=Lib.hid hm
  have hpos:=may_pos hm
  obtain⟨m,rfl⟩:∃m:Nat,p=(m:Int):=⟨p.toNat,by omega⟩
  clear hpos hm
  go_wp2_with (refine wpList_load_row rfl 31 _ rfl g rfl 31 _ (0,0) _ K.out Tryz.underlying31 rfl i31 ?_)
  refine(HM.out w1 HW.out).mono ?_
  rintro e w2 ⟨rfl,hb⟩
  have HW2:=Lib.hid (HW.out.trans (hb.mono HW.out.size))
  replace K:=Lib.hid (K.out.below hb)
  clear hb HW HM
  have c13:w2.cell? ⟨g,13,none⟩=some (.string ⟨n.secret.toArray⟩):=K.out.cell 13
  go_wp2_with fail
  refine(HB.out w2 HW2.out).mono ?_
  rintro e w3 ⟨rfl,hb⟩
  have HW3:=Lib.hid (HW2.out.trans (hb.mono HW2.out.size))
  replace K:=Lib.hid (K.out.below hb)
  clear hb HW2 HB c13
  have c2:w3.cell? ⟨g,2,none⟩=some (.int .i64 (m:Int)):=K.out.cell 2
  cases bs with
  |some x=>
   have HP:Hid (plantP (nodes ns) nx m n now=(0,132,nodes ns,nx)):=Lib.hid (by
    rcases sec_cases ns n.secret with ⟨e1,e2⟩ | ⟨k,hk,e1,e2,_⟩
    ·rw [e1] at HBS;cases HBS.out
    ·unfold plantP;rw [HMY.out,e2];rfl)
   unfold fV kpt
   go_wp2_with fail
   go_returns
   rw [HR.out,HP.out]
   exact⟨rfl,ns,rfl,H.out.below HW3.out,Chf.of_below H.out HW3.out⟩
  |none=>
   unfold fV
   have HS0:Hid ((nodes ns).find? (fun m=>m.secret == n.secret)=none):=Lib.hid (by
    rcases sec_cases ns n.secret with ⟨e1,e2⟩ | ⟨k,hk,e1,e2,_⟩
    ·exact e2
    ·rw [e1] at HBS;cases HBS.out)
   clear HBS
   have HDEAD:Hid (∀b,(decide ((0:Int)<m)&&((findI (nodes ns) m).isNone||struck (nodes ns) m))=b→plantP (nodes ns) nx m n now=if b then (0,133,nodes ns,nx) else if decide (256≤((prune (nodes ns) now).length:Int))||decide (99999999≤nx) then (0,130,prune (nodes ns) now,nx) else (nx,0,prune (nodes ns) now++[newN n nx m],nx+1)):=Lib.hid (by
    intro b hb
    unfold plantP
    rw [HMY.out,HS0.out,Int.toNat_natCast,hb]
    rfl)
   have HFI:Hid ((pv=none∧findI (nodes ns) m=none)∨∃k∈ns,pv=some k.1∧findI (nodes ns) m=some k.2∧(k.2.id:Int)=m):=Lib.hid (by
    rw [HPV.out];exact find_cases ns m)
   have fin:∀(HOK:Hid ((decide ((0:Int)<m)&&((findI (nodes ns) m).isNone||struck (nodes ns) m))=false)) (W:World),True:=fun _ _=>trivial
   clear fin
   by_cases hm0:(0:Int)<m
   ·cases pv with
    |none=>
     have HP:=Lib.hid (HDEAD.out true (by
      rcases HFI.out with ⟨_,e2⟩ | ⟨k,_,e1,_⟩
      ·rw [e2,decide_eq_true hm0];rfl
      ·cases e1))
     have e:PV = .pointer none:=HPVV.out
     subst e
     go_wp2_with fail
     go_returns
     rw [HR.out,HP.out]
     exact⟨rfl,ns,rfl,H.out.below HW3.out,Chf.of_below H.out HW3.out⟩
    |some x=>
     have HWx:Hid (Calls Tryz.prog 65 #[kpt x,.int .i64 now] w3 fun e w'=>e = .returned (.bool (!struck (nodes ns) m))∧w'=w3):=Lib.hid (by
      have:=HWh.out m rfl w3 HW3.out
      rwa [← HPV.out] at this)
     clear HWh
     have e:PV = .pointer (some ⟨x,0,none⟩):=HPVV.out
     subst e
     cases hst:struck (nodes ns) m with
     |true=>
      rw [hst] at HWx
      have HP:=Lib.hid (HDEAD.out true (by rw [hst,decide_eq_true hm0,Bool.or_true];rfl))
      clear hst
      go_wp2_with fail
      refine HWx.out.mono ?_
      rintro e w4 ⟨rfl,hw⟩
      replace hw:=hw.symm
      subst hw
      go_wp2_with fail
      go_returns
      rw [HR.out,HP.out]
      exact⟨rfl,ns,rfl,H.out.below HW3.out,Chf.of_below H.out HW3.out⟩
     |false=>
      rw [hst] at HWx
      have HP:=Lib.hid (HDEAD.out false (by
       rcases HFI.out with ⟨e1,_⟩ | ⟨k,_,_,e2,_⟩
       ·cases e1
       ·rw [e2,hst];simp))
      have HPL:Hid ((m:Int)<nx):=Lib.hid (by
       rcases HFI.out with ⟨e1,_⟩ | ⟨k,hk,_,_,e3⟩
       ·cases e1
       ·rw [← e3];exact HGo.out.2 _ (mem_nodes hk))
      clear hst
      go_wp2_with fail
      refine HWx.out.mono ?_
      rintro e w4 ⟨rfl,hw⟩
      replace hw:=hw.symm
      subst hw
      clear HWx
      go_wp2_with fail
      refine(HPr.out w3 HW3.out).mono ?_
      rintro e w4 ⟨rfl,ns4,hn4,hF4,hC4⟩
      have hl4:ns4.length≤1000000:=by
       have e1:ns4.length=(prune (nodes ns) now).length:=by rw [← hn4];simp [nodes]
       have e2:=List.length_filter_le (keeps (nodes ns) now) (nodes ns)
       have e3:(nodes ns).length=ns.length:=by simp [nodes]
       unfold prune at e1
       omega
      have hlen:Hid (((prune (nodes ns) now).length:Int)=(ns4.length:Int)):=Lib.hid (by rw [← hn4];simp [nodes])
      have F4:=Lib.hid hF4
      have HS4:Hid (w.heap.size≤w4.heap.size):=Lib.hid (by
       obtain⟨L,hL,_⟩:=hC4.only
       exact Nat.le_trans HW3.out.size hL.size)
      have C4:Hid (Chf w w4 f ns ns4):=Lib.hid ((Chf.of_below H.out HW3.out).trans hC4)
      have N4:=Lib.hid hn4
      have Q1:Hid (Rd w4 (.slice sa n.scope.length sc) n.scope):=Lib.hid (by
       obtain⟨L,hL,hLo⟩:=hC4.only
       exact(R1.out.below HW3.out).onlyE hL fun he q hq hm=>HO1.out he q hq ((hLo q hm).same (HW3.out.block _ HFL.out)))
      have Q2:Hid (Rd w4 (.slice aa n.actors.length ac) n.actors):=Lib.hid (by
       obtain⟨L,hL,hLo⟩:=hC4.only
       exact(R2.out.below HW3.out).onlyE hL fun he q hq hm=>HO2.out he q hq ((hLo q hm).same (HW3.out.block _ HFL.out)))
      replace K:Hid (Bk 31 w4 g #[.int .i64 i,.int .i64 n.kind,.int .i64 (m:Int),.string ⟨n.subject.toArray⟩,.string ⟨n.client.toArray⟩,.string ⟨n.audience.toArray⟩,.slice sa n.scope.length sc,.int .i64 n.born,.int .i64 n.exp,.bool n.dead,.bool n.spent,.slice aa n.actors.length ac,.int .i64 n.level,.string ⟨n.secret.toArray⟩,.string ⟨n.data.toArray⟩]):=Lib.hid (by
       obtain⟨L,hL,hLo⟩:=hC4.only
       exact K.out.only hL fun hq=>OwnsB.no (H.out.below HW3.out) (by decide) (by decide) (by decide) K.out (hLo _ hq))
      obtain⟨fa4,fc4,d0,d1,_⟩:=hF4.cells
      have HL4:=Lib.hid hl4
      clear hn4 hF4 hC4 hl4 HPr c2
      by_cases h256:(256:Int)≤(ns4.length:Int)
      ·have HP2:Hid (plantP (nodes ns) nx m n now=(0,130,prune (nodes ns) now,nx)):=Lib.hid (by rw [HP.out,hlen.out,decide_eq_true h256];rfl)
       go_wp2_with fail
       go_returns
       rw [HR.out,HP2.out]
       exact⟨rfl,ns4,N4.out,F4.out,C4.out⟩
      ·by_cases hnx:(99999999:Int)≤nx
       ·have HP2:Hid (plantP (nodes ns) nx m n now=(0,130,prune (nodes ns) now,nx)):=Lib.hid (by rw [HP.out,decide_eq_true hnx,Bool.or_true];rfl)
        go_wp2_with fail
        go_returns
        rw [HR.out,HP2.out]
        exact⟨rfl,ns4,N4.out,F4.out,C4.out⟩
       ·have HP2:Hid (plantP (nodes ns) nx m n now=(nx,0,prune (nodes ns) now++[newN n nx m],nx+1)):=Lib.hid (by rw [HP.out,hlen.out,decide_eq_false h256,decide_eq_false hnx];rfl)
        have HSH:=Lib.hid (may_short HN.out HMY.out)
        have HOK:Hid (Ok (nodes ns4++[newN n nx m])):=Lib.hid (ok_new F4.out.ok (by rw [N4.out];exact good_prune HGo.out now) n HPL.out)
        go_wp2_with (refine wpList_load_row rfl 31 _ rfl g rfl 31 _ (0,0) _ K.out Tryz.underlying31 rfl i31 ?_)
        refine(HCp.out HSH.out w4 Q1.out Q2.out).mono ?_
        rintro e w5 ⟨sv,av,rfl,t1,t2,hb,hn1,hn2⟩
        obtain⟨ya,yc,rfl⟩:=owns_shape t1
        obtain⟨za,zc,rfl⟩:=owns_shape t2
        have T1:=Lib.hid t1
        have T2:=Lib.hid t2
        have F5:=Lib.hid (F4.out.below hb)
        have C5:=Lib.hid (C4.out.below F4.out hb)
        replace K:=Lib.hid (K.out.below hb)
        clear t1 t2 hb F4 C4 d0 d1 HCp Q1 Q2
        unfold inC txt
        go_wp2_with (
         first
         |refine wpList_load_row rfl 31 _ rfl g rfl 31 _ (0,0) _ H7.out.1 Tryz.underlying31 rfl i31 ?_
         |refine wpList_put rfl 31 _ _ rfl g #[.int .i64 i,.int .i64 n.kind,.int .i64 (m:Int),.string ⟨n.subject.toArray⟩,.string ⟨n.client.toArray⟩,.string ⟨n.audience.toArray⟩,.slice sa n.scope.length sc,.int .i64 n.born,.int .i64 n.exp,.bool n.dead,.bool n.spent,.slice aa n.actors.length ac,.int .i64 n.level,.string ⟨n.secret.toArray⟩,.string ⟨n.data.toArray⟩] #[.int .i64 i,.int .i64 n.kind,.int .i64 (m:Int),.string ⟨n.subject.toArray⟩,.string ⟨n.client.toArray⟩,.string ⟨n.audience.toArray⟩,.slice ya n.scope.length yc,.int .i64 n.born,.int .i64 n.exp,.bool n.dead,.bool n.spent,.slice za n.actors.length zc,.int .i64 n.level,.string ⟨n.secret.toArray⟩,.string ⟨n.data.toArray⟩] rfl rfl K.out i31 rfl (one15 i m n ya za n.scope.length yc n.actors.length zc) ?_
          obtain⟨w6,hw6⟩:∃z,z=w5.setRow g #[.int .i64 i,.int .i64 n.kind,.int .i64 (m:Int),.string ⟨n.subject.toArray⟩,.string ⟨n.client.toArray⟩,.string ⟨n.audience.toArray⟩,.slice ya n.scope.length yc,.int .i64 n.born,.int .i64 n.exp,.bool n.dead,.bool n.spent,.slice za n.actors.length zc,.int .i64 n.level,.string ⟨n.secret.toArray⟩,.string ⟨n.data.toArray⟩]:=⟨_,rfl⟩
          rw [← hw6]
          have O6:Only [g] w5 w6:=by rw [hw6];exact only_row w5 g _
          have K6:Bk 31 w6 g #[.int .i64 i,.int .i64 n.kind,.int .i64 (m:Int),.string ⟨n.subject.toArray⟩,.string ⟨n.client.toArray⟩,.string ⟨n.audience.toArray⟩,.slice ya n.scope.length yc,.int .i64 n.born,.int .i64 n.exp,.bool n.dead,.bool n.spent,.slice za n.actors.length zc,.int .i64 n.level,.string ⟨n.secret.toArray⟩,.string ⟨n.data.toArray⟩]:=by rw [hw6];exact Bk.row K.out
          have hno:¬OwnsB w5 f ns4 g:=OwnsB.no F5.out (by decide) (by decide) (by decide) K.out
          have hn9:∀cs,¬Bk 9 w5 g cs:=fun cs k=>bk_ne k K.out (by decide) rfl
          have F6:=Lib.hid (F5.out.apart O6 (fun q hq=>by rw [List.mem_singleton] at hq;subst hq;exact hno) (fun q hq=>by rw [List.mem_singleton] at hq;subst hq;exact hn9))
          have U1:Hid (Tx w6 (.slice ya n.scope.length yc) n.scope):=Lib.hid (by rw [hw6];exact T1.out.setRow K.out (by decide))
          have U2:Hid (Tx w6 (.slice za n.actors.length zc) n.actors):=Lib.hid (by rw [hw6];exact T2.out.setRow K.out (by decide))
          have hgw:w.heap.size≤g:=Nat.le_of_eq HG.out.symm
          have hfg:f≠g:=by have:=HFL.out;have:=HG.out;omega
          have C6:=Lib.hid (C5.out.aside F5.out O6 hgw hno)
          have HN1:=Lib.hid hn1
          have HN2:=Lib.hid hn2
          clear hn1 hn2
          have c0:=K6.cell 0
          have c9:=K6.cell 9
          have c10:=K6.cell 10
          have f0:=K6.fro 0
          have f9:=K6.fro 9
          have f10:=K6.fro 10
          obtain⟨fa6,fc6,d0,d1,_⟩:=F6.out.cells
          have HFG:=Lib.hid hfg
          have HGW:=Lib.hid hgw
          have HK6:=Lib.hid K6
          have HO6:=Lib.hid O6
          clear K K6 O6 hno hn9 hw6 hgw hfg F5 C5 T1 T2
          have H7:Hid (Bk 31 (((w6.setCell ⟨g,0,none⟩ (.int .i64 nx)).setCell ⟨g,9,none⟩ (.bool false)).setCell ⟨g,10,none⟩ (.bool false)) g #[.int .i64 nx,.int .i64 n.kind,.int .i64 (m:Int),.string ⟨n.subject.toArray⟩,.string ⟨n.client.toArray⟩,.string ⟨n.audience.toArray⟩,.slice ya n.scope.length yc,.int .i64 n.born,.int .i64 n.exp,.bool false,.bool false,.slice za n.actors.length zc,.int .i64 n.level,.string ⟨n.secret.toArray⟩,.string ⟨n.data.toArray⟩]∧FR (((w6.setCell ⟨g,0,none⟩ (.int .i64 nx)).setCell ⟨g,9,none⟩ (.bool false)).setCell ⟨g,10,none⟩ (.bool false)) f ns4 nx∧Tx (((w6.setCell ⟨g,0,none⟩ (.int .i64 nx)).setCell ⟨g,9,none⟩ (.bool false)).setCell ⟨g,10,none⟩ (.bool false)) (.slice ya n.scope.length yc) n.scope∧Tx (((w6.setCell ⟨g,0,none⟩ (.int .i64 nx)).setCell ⟨g,9,none⟩ (.bool false)).setCell ⟨g,10,none⟩ (.bool false)) (.slice za n.actors.length zc) n.actors∧Chf w (((w6.setCell ⟨g,0,none⟩ (.int .i64 nx)).setCell ⟨g,9,none⟩ (.bool false)).setCell ⟨g,10,none⟩ (.bool false)) f ns ns4):=Lib.hid (by
           have k0:=Bk.same (i:=0) (v:= .int .i64 nx) HK6.out
           have k1:=Bk.same (i:=9) (v:= .bool false) k0
           have k2:=Bk.same (i:=10) (v:= .bool false) k1
           have o7:Only [g] w6 (((w6.setCell ⟨g,0,none⟩ (.int .i64 nx)).setCell ⟨g,9,none⟩ (.bool false)).setCell ⟨g,10,none⟩ (.bool false)):=(((Only.refl [g] w6).setCell ⟨g,0,none⟩ (.inl (by simp)) _).setCell ⟨g,9,none⟩ (.inl (by simp)) _).setCell ⟨g,10,none⟩ (.inl (by simp)) _
           have hno6:¬OwnsB w6 f ns4 g:=OwnsB.no F6.out (by decide) (by decide) (by decide) HK6.out
           exact⟨k2,F6.out.apart o7 (fun q hq=>by rw [List.mem_singleton] at hq;subst hq;exact hno6) (fun q hq cs k=>by rw [List.mem_singleton] at hq;subst hq;exact bk_ne k HK6.out (by decide) rfl),((U1.out.setCell HK6.out (by decide)).setCell k0 (by decide)).setCell k1 (by decide),((U2.out.setCell HK6.out (by decide)).setCell k0 (by decide)).setCell k1 (by decide),C6.out.aside F6.out o7 HGW.out hno6⟩))
        generalize ((w6.setCell ⟨g,0,none⟩ (.int .i64 nx)).setCell ⟨g,9,none⟩ (.bool false)).setCell ⟨g,10,none⟩ (.bool false)=w7 at H7 ⊢
        have hid:((newN n nx m).id:Int)=nx:=Int.toNat_of_nonneg (by have:=HGo.out.1;omega)
        have hpar:((newN n nx m).parent:Int)=m:=rfl
        have HPut:Hid (Calls Tryz.prog 32 #[.pointer (some ⟨f,0,none⟩),.agg #[.int .i64 nx,.int .i64 n.kind,.int .i64 (m:Int),.string ⟨n.subject.toArray⟩,.string ⟨n.client.toArray⟩,.string ⟨n.audience.toArray⟩,.slice ya n.scope.length yc,.int .i64 n.born,.int .i64 n.exp,.bool false,.bool false,.slice za n.actors.length zc,.int .i64 n.level,.string ⟨n.secret.toArray⟩,.string ⟨n.data.toArray⟩]] w7 fun e w'=>e = .returned (.tuple #[])∧∃g2,w7.heap.size≤g2∧FR w' f (ns4++[(g2,newN n nx m)]) nx∧Cho w7 w' f ns4 (ns4++[(g2,newN n nx m)])∧∀q,OwnsT w' (ns4++[(g2,newN n nx m)]) q→OwnsT w7 ns4 q∨(Value.slice ya n.scope.length yc).ownBlock=some q∨(Value.slice za n.actors.length zc).ownBlock=some q):=Lib.hid (by
         have h:=put_any H7.out.2.1 HL4.out (newN n nx m) (.slice ya n.scope.length yc) (.slice za n.actors.length zc) HOK.out H7.out.2.2.1 H7.out.2.2.2.1
         rw [hid,hpar] at h
         exact h)
        clear hid hpar c0 c9 c10 f0 f9 f10 d0 d1
        refine HPut.out.mono ?_
        rintro e w8 ⟨rfl,g2,hg2,hF8,hC8,hT8⟩
        have hK8:Bk 31 w8 g #[.int .i64 nx,.int .i64 n.kind,.int .i64 (m:Int),.string ⟨n.subject.toArray⟩,.string ⟨n.client.toArray⟩,.string ⟨n.audience.toArray⟩,.slice ya n.scope.length yc,.int .i64 n.born,.int .i64 n.exp,.bool false,.bool false,.slice za n.actors.length zc,.int .i64 n.level,.string ⟨n.secret.toArray⟩,.string ⟨n.data.toArray⟩]:=by
         obtain⟨L,hL,hLo⟩:=hC8.only
         exact H7.out.1.only hL fun hq=>OwnsB.no H7.out.2.1 (by decide) (by decide) (by decide) H7.out.1 (hLo _ hq)
        have C8:Hid (Chf w w8 f ns (ns4++[(g2,newN n nx m)])):=Lib.hid ⟨H7.out.2.2.2.2.toCho.trans hC8,fun q hq=>by
         rcases hT8 q hq with h | h | h
         ·exact H7.out.2.2.2.2.rows q h
         ·exact .inr (Nat.le_trans HS4.out (HN1.out q h))
         ·exact .inr (Nat.le_trans HS4.out (HN2.out q h))⟩
        have F8:=Lib.hid hF8
        obtain⟨_,_,_,d1,_⟩:=hF8.cells
        obtain⟨_,_,hobj,_⟩:=hF8.obj
        have f1:=hobj.fro 1
        have hK9:Bk 31 (w8.setCell ⟨f,1,none⟩ (.int .i64 (nx+1))) g #[.int .i64 nx,.int .i64 n.kind,.int .i64 (m:Int),.string ⟨n.subject.toArray⟩,.string ⟨n.client.toArray⟩,.string ⟨n.audience.toArray⟩,.slice ya n.scope.length yc,.int .i64 n.born,.int .i64 n.exp,.bool false,.bool false,.slice za n.actors.length zc,.int .i64 n.level,.string ⟨n.secret.toArray⟩,.string ⟨n.data.toArray⟩]:=hK8.oth (Ne.symm HFG.out)
        have c0:(w8.setCell ⟨f,1,none⟩ (.int .i64 (nx+1))).cell? ⟨g,0,none⟩=some (.int .i64 nx):=hK9.cell 0
        have hp:=HGo.out.1
        clear hF8 hC8 hT8 hobj hK8 hK9 HPut H7 hg2
        go_wp2_with fail
        go_returns
        rw [HR.out,HP2.out]
        obtain⟨h1,h2⟩:=F8.out.next (nx+1)
        exact⟨rfl,_,by rw [← N4.out];simp [nodes],h1,C8.out.trans h2⟩
   ·have HP:=Lib.hid (HDEAD.out false (by rw [decide_eq_false hm0];rfl))
    have HPL:Hid ((m:Int)<nx):=Lib.hid (by have:=HGo.out.1;omega)
    go_wp2_with fail
    refine(HPr.out w3 HW3.out).mono ?_
    rintro e w4 ⟨rfl,ns4,hn4,hF4,hC4⟩
    have hl4:ns4.length≤1000000:=by
     have e1:ns4.length=(prune (nodes ns) now).length:=by rw [← hn4];simp [nodes]
     have e2:=List.length_filter_le (keeps (nodes ns) now) (nodes ns)
     have e3:(nodes ns).length=ns.length:=by simp [nodes]
     unfold prune at e1
     omega
    have hlen:Hid (((prune (nodes ns) now).length:Int)=(ns4.length:Int)):=Lib.hid (by rw [← hn4];simp [nodes])
    have F4:=Lib.hid hF4
    have HS4:Hid (w.heap.size≤w4.heap.size):=Lib.hid (by
     obtain⟨L,hL,_⟩:=hC4.only
     exact Nat.le_trans HW3.out.size hL.size)
    have C4:Hid (Chf w w4 f ns ns4):=Lib.hid ((Chf.of_below H.out HW3.out).trans hC4)
    have N4:=Lib.hid hn4
    have Q1:Hid (Rd w4 (.slice sa n.scope.length sc) n.scope):=Lib.hid (by
     obtain⟨L,hL,hLo⟩:=hC4.only
     exact(R1.out.below HW3.out).onlyE hL fun he q hq hm=>HO1.out he q hq ((hLo q hm).same (HW3.out.block _ HFL.out)))
    have Q2:Hid (Rd w4 (.slice aa n.actors.length ac) n.actors):=Lib.hid (by
     obtain⟨L,hL,hLo⟩:=hC4.only
     exact(R2.out.below HW3.out).onlyE hL fun he q hq hm=>HO2.out he q hq ((hLo q hm).same (HW3.out.block _ HFL.out)))
    replace K:Hid (Bk 31 w4 g #[.int .i64 i,.int .i64 n.kind,.int .i64 (m:Int),.string ⟨n.subject.toArray⟩,.string ⟨n.client.toArray⟩,.string ⟨n.audience.toArray⟩,.slice sa n.scope.length sc,.int .i64 n.born,.int .i64 n.exp,.bool n.dead,.bool n.spent,.slice aa n.actors.length ac,.int .i64 n.level,.string ⟨n.secret.toArray⟩,.string ⟨n.data.toArray⟩]):=Lib.hid (by
     obtain⟨L,hL,hLo⟩:=hC4.only
     exact K.out.only hL fun hq=>OwnsB.no (H.out.below HW3.out) (by decide) (by decide) (by decide) K.out (hLo _ hq))
    obtain⟨fa4,fc4,d0,d1,_⟩:=hF4.cells
    have HL4:=Lib.hid hl4
    clear hn4 hF4 hC4 hl4 HPr c2
    by_cases h256:(256:Int)≤(ns4.length:Int)
    ·have HP2:Hid (plantP (nodes ns) nx m n now=(0,130,prune (nodes ns) now,nx)):=Lib.hid (by rw [HP.out,hlen.out,decide_eq_true h256];rfl)
     go_wp2_with fail
     go_returns
     rw [HR.out,HP2.out]
     exact⟨rfl,ns4,N4.out,F4.out,C4.out⟩
    ·by_cases hnx:(99999999:Int)≤nx
     ·have HP2:Hid (plantP (nodes ns) nx m n now=(0,130,prune (nodes ns) now,nx)):=Lib.hid (by rw [HP.out,decide_eq_true hnx,Bool.or_true];rfl)
      go_wp2_with fail
      go_returns
      rw [HR.out,HP2.out]
      exact⟨rfl,ns4,N4.out,F4.out,C4.out⟩
     ·have HP2:Hid (plantP (nodes ns) nx m n now=(nx,0,prune (nodes ns) now++[newN n nx m],nx+1)):=Lib.hid (by rw [HP.out,hlen.out,decide_eq_false h256,decide_eq_false hnx];rfl)
      have HSH:=Lib.hid (may_short HN.out HMY.out)
      have HOK:Hid (Ok (nodes ns4++[newN n nx m])):=Lib.hid (ok_new F4.out.ok (by rw [N4.out];exact good_prune HGo.out now) n HPL.out)
      go_wp2_with (refine wpList_load_row rfl 31 _ rfl g rfl 31 _ (0,0) _ K.out Tryz.underlying31 rfl i31 ?_)
      refine(HCp.out HSH.out w4 Q1.out Q2.out).mono ?_
      rintro e w5 ⟨sv,av,rfl,t1,t2,hb,hn1,hn2⟩
      obtain⟨ya,yc,rfl⟩:=owns_shape t1
      obtain⟨za,zc,rfl⟩:=owns_shape t2
      have T1:=Lib.hid t1
      have T2:=Lib.hid t2
      have F5:=Lib.hid (F4.out.below hb)
      have C5:=Lib.hid (C4.out.below F4.out hb)
      replace K:=Lib.hid (K.out.below hb)
      clear t1 t2 hb F4 C4 d0 d1 HCp Q1 Q2
      unfold inC txt
      go_wp2_with (
       first
       |refine wpList_load_row rfl 31 _ rfl g rfl 31 _ (0,0) _ H7.out.1 Tryz.underlying31 rfl i31 ?_
       |refine wpList_put rfl 31 _ _ rfl g #[.int .i64 i,.int .i64 n.kind,.int .i64 (m:Int),.string ⟨n.subject.toArray⟩,.string ⟨n.client.toArray⟩,.string ⟨n.audience.toArray⟩,.slice sa n.scope.length sc,.int .i64 n.born,.int .i64 n.exp,.bool n.dead,.bool n.spent,.slice aa n.actors.length ac,.int .i64 n.level,.string ⟨n.secret.toArray⟩,.string ⟨n.data.toArray⟩] #[.int .i64 i,.int .i64 n.kind,.int .i64 (m:Int),.string ⟨n.subject.toArray⟩,.string ⟨n.client.toArray⟩,.string ⟨n.audience.toArray⟩,.slice ya n.scope.length yc,.int .i64 n.born,.int .i64 n.exp,.bool n.dead,.bool n.spent,.slice za n.actors.length zc,.int .i64 n.level,.string ⟨n.secret.toArray⟩,.string ⟨n.data.toArray⟩] rfl rfl K.out i31 rfl (one15 i m n ya za n.scope.length yc n.actors.length zc) ?_
        obtain⟨w6,hw6⟩:∃z,z=w5.setRow g #[.int .i64 i,.int .i64 n.kind,.int .i64 (m:Int),.string ⟨n.subject.toArray⟩,.string ⟨n.client.toArray⟩,.string ⟨n.audience.toArray⟩,.slice ya n.scope.length yc,.int .i64 n.born,.int .i64 n.exp,.bool n.dead,.bool n.spent,.slice za n.actors.length zc,.int .i64 n.level,.string ⟨n.secret.toArray⟩,.string ⟨n.data.toArray⟩]:=⟨_,rfl⟩
        rw [← hw6]
        have O6:Only [g] w5 w6:=by rw [hw6];exact only_row w5 g _
        have K6:Bk 31 w6 g #[.int .i64 i,.int .i64 n.kind,.int .i64 (m:Int),.string ⟨n.subject.toArray⟩,.string ⟨n.client.toArray⟩,.string ⟨n.audience.toArray⟩,.slice ya n.scope.length yc,.int .i64 n.born,.int .i64 n.exp,.bool n.dead,.bool n.spent,.slice za n.actors.length zc,.int .i64 n.level,.string ⟨n.secret.toArray⟩,.string ⟨n.data.toArray⟩]:=by rw [hw6];exact Bk.row K.out
        have hno:¬OwnsB w5 f ns4 g:=OwnsB.no F5.out (by decide) (by decide) (by decide) K.out
        have hn9:∀cs,¬Bk 9 w5 g cs:=fun cs k=>bk_ne k K.out (by decide) rfl
        have F6:=Lib.hid (F5.out.apart O6 (fun q hq=>by rw [List.mem_singleton] at hq;subst hq;exact hno) (fun q hq=>by rw [List.mem_singleton] at hq;subst hq;exact hn9))
        have U1:Hid (Tx w6 (.slice ya n.scope.length yc) n.scope):=Lib.hid (by rw [hw6];exact T1.out.setRow K.out (by decide))
        have U2:Hid (Tx w6 (.slice za n.actors.length zc) n.actors):=Lib.hid (by rw [hw6];exact T2.out.setRow K.out (by decide))
        have hgw:w.heap.size≤g:=Nat.le_of_eq HG.out.symm
        have hfg:f≠g:=by have:=HFL.out;have:=HG.out;omega
        have C6:=Lib.hid (C5.out.aside F5.out O6 hgw hno)
        have HN1:=Lib.hid hn1
        have HN2:=Lib.hid hn2
        clear hn1 hn2
        have c0:=K6.cell 0
        have c9:=K6.cell 9
        have c10:=K6.cell 10
        have f0:=K6.fro 0
        have f9:=K6.fro 9
        have f10:=K6.fro 10
        obtain⟨fa6,fc6,d0,d1,_⟩:=F6.out.cells
        have HFG:=Lib.hid hfg
        have HGW:=Lib.hid hgw
        have HK6:=Lib.hid K6
        have HO6:=Lib.hid O6
        clear K K6 O6 hno hn9 hw6 hgw hfg F5 C5 T1 T2
        have H7:Hid (Bk 31 (((w6.setCell ⟨g,0,none⟩ (.int .i64 nx)).setCell ⟨g,9,none⟩ (.bool false)).setCell ⟨g,10,none⟩ (.bool false)) g #[.int .i64 nx,.int .i64 n.kind,.int .i64 (m:Int),.string ⟨n.subject.toArray⟩,.string ⟨n.client.toArray⟩,.string ⟨n.audience.toArray⟩,.slice ya n.scope.length yc,.int .i64 n.born,.int .i64 n.exp,.bool false,.bool false,.slice za n.actors.length zc,.int .i64 n.level,.string ⟨n.secret.toArray⟩,.string ⟨n.data.toArray⟩]∧FR (((w6.setCell ⟨g,0,none⟩ (.int .i64 nx)).setCell ⟨g,9,none⟩ (.bool false)).setCell ⟨g,10,none⟩ (.bool false)) f ns4 nx∧Tx (((w6.setCell ⟨g,0,none⟩ (.int .i64 nx)).setCell ⟨g,9,none⟩ (.bool false)).setCell ⟨g,10,none⟩ (.bool false)) (.slice ya n.scope.length yc) n.scope∧Tx (((w6.setCell ⟨g,0,none⟩ (.int .i64 nx)).setCell ⟨g,9,none⟩ (.bool false)).setCell ⟨g,10,none⟩ (.bool false)) (.slice za n.actors.length zc) n.actors∧Chf w (((w6.setCell ⟨g,0,none⟩ (.int .i64 nx)).setCell ⟨g,9,none⟩ (.bool false)).setCell ⟨g,10,none⟩ (.bool false)) f ns ns4):=Lib.hid (by
         have k0:=Bk.same (i:=0) (v:= .int .i64 nx) HK6.out
         have k1:=Bk.same (i:=9) (v:= .bool false) k0
         have k2:=Bk.same (i:=10) (v:= .bool false) k1
         have o7:Only [g] w6 (((w6.setCell ⟨g,0,none⟩ (.int .i64 nx)).setCell ⟨g,9,none⟩ (.bool false)).setCell ⟨g,10,none⟩ (.bool false)):=(((Only.refl [g] w6).setCell ⟨g,0,none⟩ (.inl (by simp)) _).setCell ⟨g,9,none⟩ (.inl (by simp)) _).setCell ⟨g,10,none⟩ (.inl (by simp)) _
         have hno6:¬OwnsB w6 f ns4 g:=OwnsB.no F6.out (by decide) (by decide) (by decide) HK6.out
         exact⟨k2,F6.out.apart o7 (fun q hq=>by rw [List.mem_singleton] at hq;subst hq;exact hno6) (fun q hq cs k=>by rw [List.mem_singleton] at hq;subst hq;exact bk_ne k HK6.out (by decide) rfl),((U1.out.setCell HK6.out (by decide)).setCell k0 (by decide)).setCell k1 (by decide),((U2.out.setCell HK6.out (by decide)).setCell k0 (by decide)).setCell k1 (by decide),C6.out.aside F6.out o7 HGW.out hno6⟩))
      generalize ((w6.setCell ⟨g,0,none⟩ (.int .i64 nx)).setCell ⟨g,9,none⟩ (.bool false)).setCell ⟨g,10,none⟩ (.bool false)=w7 at H7 ⊢
      have hid:((newN n nx m).id:Int)=nx:=Int.toNat_of_nonneg (by have:=HGo.out.1;omega)
      have hpar:((newN n nx m).parent:Int)=m:=rfl
      have HPut:Hid (Calls Tryz.prog 32 #[.pointer (some ⟨f,0,none⟩),.agg #[.int .i64 nx,.int .i64 n.kind,.int .i64 (m:Int),.string ⟨n.subject.toArray⟩,.string ⟨n.client.toArray⟩,.string ⟨n.audience.toArray⟩,.slice ya n.scope.length yc,.int .i64 n.born,.int .i64 n.exp,.bool false,.bool false,.slice za n.actors.length zc,.int .i64 n.level,.string ⟨n.secret.toArray⟩,.string ⟨n.data.toArray⟩]] w7 fun e w'=>e = .returned (.tuple #[])∧∃g2,w7.heap.size≤g2∧FR w' f (ns4++[(g2,newN n nx m)]) nx∧Cho w7 w' f ns4 (ns4++[(g2,newN n nx m)])∧∀q,OwnsT w' (ns4++[(g2,newN n nx m)]) q→OwnsT w7 ns4 q∨(Value.slice ya n.scope.length yc).ownBlock=some q∨(Value.slice za n.actors.length zc).ownBlock=some q):=Lib.hid (by
       have h:=put_any H7.out.2.1 HL4.out (newN n nx m) (.slice ya n.scope.length yc) (.slice za n.actors.length zc) HOK.out H7.out.2.2.1 H7.out.2.2.2.1
       rw [hid,hpar] at h
       exact h)
      clear hid hpar c0 c9 c10 f0 f9 f10 d0 d1
      refine HPut.out.mono ?_
      rintro e w8 ⟨rfl,g2,hg2,hF8,hC8,hT8⟩
      have hK8:Bk 31 w8 g #[.int .i64 nx,.int .i64 n.kind,.int .i64 (m:Int),.string ⟨n.subject.toArray⟩,.string ⟨n.client.toArray⟩,.string ⟨n.audience.toArray⟩,.slice ya n.scope.length yc,.int .i64 n.born,.int .i64 n.exp,.bool false,.bool false,.slice za n.actors.length zc,.int .i64 n.level,.string ⟨n.secret.toArray⟩,.string ⟨n.data.toArray⟩]:=by
       obtain⟨L,hL,hLo⟩:=hC8.only
       exact H7.out.1.only hL fun hq=>OwnsB.no H7.out.2.1 (by decide) (by decide) (by decide) H7.out.1 (hLo _ hq)
      have C8:Hid (Chf w w8 f ns (ns4++[(g2,newN n nx m)])):=Lib.hid ⟨H7.out.2.2.2.2.toCho.trans hC8,fun q hq=>by
       rcases hT8 q hq with h | h | h
       ·exact H7.out.2.2.2.2.rows q h
       ·exact .inr (Nat.le_trans HS4.out (HN1.out q h))
       ·exact .inr (Nat.le_trans HS4.out (HN2.out q h))⟩
      have F8:=Lib.hid hF8
      obtain⟨_,_,_,d1,_⟩:=hF8.cells
      obtain⟨_,_,hobj,_⟩:=hF8.obj
      have f1:=hobj.fro 1
      have hK9:Bk 31 (w8.setCell ⟨f,1,none⟩ (.int .i64 (nx+1))) g #[.int .i64 nx,.int .i64 n.kind,.int .i64 (m:Int),.string ⟨n.subject.toArray⟩,.string ⟨n.client.toArray⟩,.string ⟨n.audience.toArray⟩,.slice ya n.scope.length yc,.int .i64 n.born,.int .i64 n.exp,.bool false,.bool false,.slice za n.actors.length zc,.int .i64 n.level,.string ⟨n.secret.toArray⟩,.string ⟨n.data.toArray⟩]:=hK8.oth (Ne.symm HFG.out)
      have c0:(w8.setCell ⟨f,1,none⟩ (.int .i64 (nx+1))).cell? ⟨g,0,none⟩=some (.int .i64 nx):=hK9.cell 0
      have hp:=HGo.out.1
      clear hF8 hC8 hT8 hobj hK8 hK9 HPut H7 hg2
      go_wp2_with fail
      go_returns
      rw [HR.out,HP2.out]
      obtain⟨h1,h2⟩:=F8.out.next (nx+1)
      exact⟨rfl,_,by rw [← N4.out];simp [nodes],h1,C8.out.trans h2⟩
end Go.Proofs.YthogppennalobaaGreatDoor
