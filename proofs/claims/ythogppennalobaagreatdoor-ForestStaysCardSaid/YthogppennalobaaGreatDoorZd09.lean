/- Get, Find. Condition: at most a million nodes, with texts of at most 2^48 bytes. Path. Condition: at most a million nodes. Spend, Lift, Note. Condition: at most a million nodes. KillOf. Condition: at most a million nodes. -/
import Derived.Test.YthogppennalobaaGreatDoorZd08
import Derived.Deep.LoopGhost
set_option linter.unusedVariables false
set_option linter.unusedSimpArgs false
set_option maxRecDepth 100000
namespace Go.Proofs.YthogppennalobaaGreatDoor
open Go.RowKit Go.Sort Forest OwnR TxO
theorem sec_cases (ns:Ns)(s:Bs): ((ns.find? fun k=>k.2.secret == s).map (·.1)=none∧(nodes ns).find? (fun n=>n.secret == s)=none)∨∃k∈ns,(ns.find? fun k=>k.2.secret == s).map (·.1)=some k.1∧(nodes ns).find? (fun n=>n.secret == s)=some k.2∧k.2.secret=s:=by
 unfold nodes
 rw [List.find?_map]
 cases e:ns.find? fun k=>k.2.secret == s with
 |none=>exact .inl ⟨rfl,by simpa [Function.comp_def] using e⟩
 |some k=>
  have:=List.find?_some e
  refine .inr ⟨k,List.mem_of_find?_eq_some e,rfl,?_,by simpa using this⟩
  rw [show((fun n:Nd=>n.secret == s) ∘ fun k:Nat×Nd=>k.2)=fun k:Nat×Nd=>k.2.secret == s from rfl,e]
  rfl
set_option maxHeartbeats 4000000 in
theorem get_call {w:World}{f:Nat}{ns:Ns}{nx:Int}(h:FR w f ns nx)(hl:ns.length≤1000000)(hS:∀n∈nodes ns,Short n)(id:Int): Calls Tryz.prog 34 #[kpt f,.int .i64 id] w fun e w'=>ToldP w w' (findI (nodes ns) id) e:=by
 have hw:∀o,Below w.heap.size w (w.alloc o):=fun o=>by go_grown
 have HA:Hid (∀o,Calls Tryz.prog 62 #[kpt f,.int .i64 id] (w.alloc o) fun e w'=>e = .returned (fV (blockI ns id))∧Below w.heap.size w w'∧Below (w.alloc o).heap.size (w.alloc o) w'):=Lib.hid fun o=>(at_any (h.below (hw o)) hl id).mono fun e w' ⟨h1,h2⟩=>⟨h1,by subst h2;exact⟨hw o,Below.refl _ _⟩⟩
 have H:=Lib.hid h
 have HZ:Hid (Bk 31 (w.alloc (.cells zeroN 31)) w.heap.size zeroN):=Lib.hid (Bk.new rfl)
 have HW:=Lib.hid hw
 have HO:=Lib.hid (HA.out (.cells zeroN 31))
 unfold zeroN at HO
 clear HA hw
 obtain⟨r,hr⟩:∃r,r=findI (nodes ns) id:=⟨_,rfl⟩
 rw [← hr]
 have HR:Hid ((r=none∧blockI ns id=none)∨∃k∈ns,blockI ns id=some k.1∧r=some k.2):=Lib.hid (by
  rcases find_cases ns id with ⟨h1,h2⟩ | ⟨k,hk,h1,h2,_⟩
  ·exact .inl ⟨by rw [hr,h2],h1⟩
  ·exact .inr ⟨k,hk,h1,by rw [hr,h2]⟩)
 clear hr h
 generalize blockI ns id=o at *
 unfold kpt at HO ⊢
 go_enter Tryz.func34,Tryz.ntmps34
 go_wp2_with fail
 refine HO.out.mono ?_
 rintro e w1 ⟨rfl,hb,hb2⟩
 have HB:=Lib.hid hb
 have HZ1:=Lib.hid (HZ.out.below hb2)
 have H1:=Lib.hid (H.out.below hb)
 clear hb hb2 HO HZ
 rcases HR.out with ⟨rfl,rfl⟩ | ⟨k,hk,rfl,rfl⟩
 ·have HT:=Lib.hid (told_none w1)
  unfold fV
  clear HR
  go_wp2_with fail
  refine HT.out.mono ?_
  rintro e w2 ⟨he,hb⟩
  dsimp only at he
  subst he
  have HB2:=Lib.hid (HB.out.trans (hb.mono HB.out.size))
  have HZ2:=Lib.hid (HZ1.out.below hb)
  clear hb HT HZ1
  unfold zeroN
  go_wp2_with (refine wpList_put rfl 31 _ _ rfl w.heap.size zeroN zeroN rfl rfl HZ2.out i31 rfl (one15 0 0 ⟨0,0,0,[],[],[],[],0,0,false,false,[],0,[],[]⟩ none none 0 0 0 0) ?_)
  refine ret_cellN rfl w.heap.size zeroN (.bool false) rfl rfl (Bk.row HZ2.out) rfl rfl ?_
  exact⟨rfl,below_row HB2.out (Nat.le_refl _)⟩
 ·have HT:=Lib.hid (told_some H1.out hk (hS _ (mem_nodes hk)))
  unfold fV
  clear HR
  unfold kpt at *
  go_wp2_with fail
  refine HT.out.mono ?_
  rintro e w2 ⟨⟨sv,av,rfl,t1,t2⟩,hb⟩
  have HB2:=Lib.hid (HB.out.trans (hb.mono HB.out.size))
  have HZ2:=Lib.hid (HZ1.out.below hb)
  have T1:=Lib.hid t1
  have T2:=Lib.hid t2
  obtain⟨xa,xc,rfl⟩:=owns_shape t1
  obtain⟨ya,yc,rfl⟩:=owns_shape t2
  clear hb HT HZ1 t1 t2
  generalize hcs:inC (k.2.id:Int) (k.2.parent:Int) k.2 (.slice xa k.2.scope.length xc) (.slice ya k.2.actors.length yc)=cs
  have hs:cs.size=15:=by rw [← hcs];rfl
  have h1:cs.all (·.oneCell')=true:=by rw [← hcs];exact one15 _ _ _ _ _ _ _ _ _
  have HCS:=Lib.hid hcs
  have HS1:=Lib.hid (And.intro hs h1)
  clear hcs hs h1
  go_wp2_with (refine wpList_put rfl 31 _ _ rfl w.heap.size zeroN cs rfl rfl HZ2.out (by rw [HS1.out.1];exact i31) (by rw [HS1.out.1];rfl) HS1.out.2 ?_)
  refine ret_cellN rfl w.heap.size cs (.bool true) rfl rfl (Bk.row HZ2.out) HS1.out.1 rfl ?_
  exact⟨⟨_,_,by rw [← HCS.out],T1.out.setRow HZ2.out (by decide),T2.out.setRow HZ2.out (by decide)⟩,below_row HB2.out (Nat.le_refl _)⟩
set_option maxHeartbeats 4000000 in
theorem find_call {w:World}{f:Nat}{ns:Ns}{nx:Int}(h:FR w f ns nx)(hl:ns.length≤1000000)(hS:∀n∈nodes ns,Short n)(s:Bs): Calls Tryz.prog 36 #[kpt f,.string ⟨s.toArray⟩] w fun e w'=>ToldP w w' ((nodes ns).find? fun n=>n.secret == s) e:=by
 have hw:∀o,Below w.heap.size w (w.alloc o):=fun o=>by go_grown
 have HA:Hid (∀o,Calls Tryz.prog 64 #[kpt f,.string ⟨s.toArray⟩] (w.alloc o) fun e w'=>e = .returned (fV ((ns.find? fun k=>k.2.secret == s).map (·.1)))∧Below w.heap.size w w'∧Below (w.alloc o).heap.size (w.alloc o) w'):=Lib.hid fun o=>(by_any (h.below (hw o)) hl s).mono fun e w' ⟨h1,h2⟩=>⟨h1,(hw o).trans (h2.mono (hw o).size),h2⟩
 have H:=Lib.hid h
 have HZ:Hid (Bk 31 (w.alloc (.cells zeroN 31)) w.heap.size zeroN):=Lib.hid (Bk.new rfl)
 have HW:=Lib.hid hw
 have HO:=Lib.hid (HA.out (.cells zeroN 31))
 unfold zeroN at HO
 clear HA hw
 obtain⟨r,hr⟩:∃r,r=(nodes ns).find? fun n=>n.secret == s:=⟨_,rfl⟩
 rw [← hr]
 have HR:Hid ((r=none∧(ns.find? fun k=>k.2.secret == s).map (·.1)=none)∨∃k∈ns,(ns.find? fun k=>k.2.secret == s).map (·.1)=some k.1∧r=some k.2):=Lib.hid (by
  rcases sec_cases ns s with ⟨h1,h2⟩ | ⟨k,hk,h1,h2,_⟩
  ·exact .inl ⟨by rw [hr,h2],h1⟩
  ·exact .inr ⟨k,hk,h1,by rw [hr,h2]⟩)
 clear hr h
 generalize (ns.find? fun k=>k.2.secret == s).map (·.1)=o at *
 unfold kpt at HO ⊢
 go_enter Tryz.func36,Tryz.ntmps36
 go_wp2_with fail
 refine HO.out.mono ?_
 rintro e w1 ⟨rfl,hb,hb2⟩
 have HB:=Lib.hid hb
 have HZ1:=Lib.hid (HZ.out.below hb2)
 have H1:=Lib.hid (H.out.below hb)
 clear hb hb2 HO HZ
 rcases HR.out with ⟨rfl,rfl⟩ | ⟨k,hk,rfl,rfl⟩
 ·have HT:=Lib.hid (told_none w1)
  unfold fV
  clear HR
  go_wp2_with fail
  refine HT.out.mono ?_
  rintro e w2 ⟨he,hb⟩
  dsimp only at he
  subst he
  have HB2:=Lib.hid (HB.out.trans (hb.mono HB.out.size))
  have HZ2:=Lib.hid (HZ1.out.below hb)
  clear hb HT HZ1
  unfold zeroN
  go_wp2_with (refine wpList_put rfl 31 _ _ rfl w.heap.size zeroN zeroN rfl rfl HZ2.out i31 rfl (one15 0 0 ⟨0,0,0,[],[],[],[],0,0,false,false,[],0,[],[]⟩ none none 0 0 0 0) ?_)
  refine ret_cellN rfl w.heap.size zeroN (.bool false) rfl rfl (Bk.row HZ2.out) rfl rfl ?_
  exact⟨rfl,below_row HB2.out (Nat.le_refl _)⟩
 ·have HT:=Lib.hid (told_some H1.out hk (hS _ (mem_nodes hk)))
  unfold fV
  clear HR
  unfold kpt at *
  go_wp2_with fail
  refine HT.out.mono ?_
  rintro e w2 ⟨⟨sv,av,rfl,t1,t2⟩,hb⟩
  have HB2:=Lib.hid (HB.out.trans (hb.mono HB.out.size))
  have HZ2:=Lib.hid (HZ1.out.below hb)
  have T1:=Lib.hid t1
  have T2:=Lib.hid t2
  obtain⟨xa,xc,rfl⟩:=owns_shape t1
  obtain⟨ya,yc,rfl⟩:=owns_shape t2
  clear hb HT HZ1 t1 t2
  generalize hcs:inC (k.2.id:Int) (k.2.parent:Int) k.2 (.slice xa k.2.scope.length xc) (.slice ya k.2.actors.length yc)=cs
  have hs:cs.size=15:=by rw [← hcs];rfl
  have h1:cs.all (·.oneCell')=true:=by rw [← hcs];exact one15 _ _ _ _ _ _ _ _ _
  have HCS:=Lib.hid hcs
  have HS1:=Lib.hid (And.intro hs h1)
  clear hcs hs h1
  go_wp2_with (refine wpList_put rfl 31 _ _ rfl w.heap.size zeroN cs rfl rfl HZ2.out (by rw [HS1.out.1];exact i31) (by rw [HS1.out.1];rfl) HS1.out.2 ?_)
  refine ret_cellN rfl w.heap.size cs (.bool true) rfl rfl (Bk.row HZ2.out) HS1.out.1 rfl ?_
  exact⟨⟨_,_,by rw [← HCS.out],T1.out.setRow HZ2.out (by decide),T2.out.setRow HZ2.out (by decide)⟩,below_row HB2.out (Nat.le_refl _)⟩
end Go.Proofs.YthogppennalobaaGreatDoor
namespace Go.Proofs.YthogppennalobaaGreatDoor
open Go.RowKit Go.Sort Forest
def pathI (l:List Nd)(id:Int): List Nd:=match findI l id with
 |none=>[]
 |some n=>path l n.id
def idV (n:Nd): Value:= .int .i64 (n.id:Int)
set_option maxHeartbeats 4000000 in
theorem path_call {w:World}{f:Nat}{ns:Ns}{nx:Int}(h:FR w f ns nx)(hl:ns.length≤1000000)(id:Int): Calls Tryz.prog 29 #[kpt f,.int .i64 id] w fun e w'=>∃v,e = .returned v∧Lw 3 1 w w' v (pathI (nodes ns) id).length ((pathI (nodes ns) id).map idV):=by
 have HA:=Lib.hid (at_any h hl id)
 have H:=Lib.hid h
 obtain⟨m0,hm0,hb0⟩:∃m0:Nat,pathI (nodes ns) id=path (nodes ns) m0∧blockI ns id=blockI ns (m0:Int):=by
  rcases find_cases ns id with ⟨h1,h2⟩ | ⟨k,hk,h1,h2,h3⟩
  ·refine⟨0,?_,?_⟩
   ·have:at' (nodes ns) 0=none:=List.find?_eq_none.2 fun n hn=>by have:=(h.ok.mem hn).1;simp;omega
    unfold pathI
    rw [h2,path_none this]
   ·rw [h1]
    refine(blockI_none fun i hi e=>?_).symm
    rw [idAt_lt hi] at e
    have:=(h.ok.mem (mem_nodes (List.getElem_mem hi))).1
    omega
  ·refine⟨k.2.id,?_,by rw [h3]⟩
   unfold pathI
   rw [h2]
 have hlen:(path (nodes ns) m0).length≤1000000:=Nat.le_trans (path_len h.ok m0) (by simpa [nodes] using hl)
 rw [hm0]
 rw [hb0] at HA
 have HL:=Lib.hid hlen
 obtain⟨p0,hp0⟩:∃p0,p0=fV (blockI ns (m0:Int)):=⟨_,rfl⟩
 rw [← hp0] at HA
 have HP0:=Lib.hid hp0
 clear hm0 hb0 hlen h hp0
 unfold kpt
 unfold kpt at HA
 go_enter Tryz.func29,Tryz.ntmps29
 go_wp2_with fail
 refine HA.out.mono ?_
 rintro e w1 ⟨rfl,rfl⟩
 clear HA
 go_wp2_with fail
 go_loopg [5,6] (m0+1) (fun gg rv pv wr=>∃(m:Nat) (done:List Nd),m+1≤gg∧pv=fV (blockI ns (m:Int))∧Hid (path (nodes ns) m0=done++path (nodes ns) m)∧Hid (Lw 3 1 w1 wr rv done.length (done.map idV)))
 case atStart=>exact⟨m0,[],Nat.le_refl _,HP0.out,Lib.hid rfl,Lib.hid (Lw.nil 3 1 w1)⟩
 case round=>
  obtain⟨m,done,hm,rfl,HP,HI⟩:=hrel
  cases hb:blockI ns (m:Int) with
  |none=>
   have HR:Hid (path (nodes ns) m0=done):=Lib.hid (by rw [HP.out,path_none (blockI_at hb)];simp)
   unfold fV
   clear hb HP
   go_wp2_with fail
   go_ret
   exact⟨_,rfl,by rw [HR.out];exact HI.out⟩
  |some g=>
   obtain⟨k,hk,rfl,rfl⟩:=blockI_some hb
   obtain⟨sv,av,K,_⟩:=H.out.node k hk
   have c0:wr.cell? ⟨k.1,0,none⟩=some (idV k.2):=cell_below HI.out.2.1 (K.cell 0)
   have HX:Hid (∀W,Below w1.heap.size w1 W→W.cell? ⟨k.1,15,none⟩=some (fV (blockI ns k.2.parent))):=Lib.hid fun W hb=>cell_below hb (K.cell 15)
   have hp:=(H.out.ok.mem (mem_nodes hk)).2
   have HQ:Hid (path (nodes ns) m0=(done++[k.2])++path (nodes ns) k.2.parent):=Lib.hid (by rw [HP.out,path_some H.out.ok (mem_nodes hk)];simp)
   have hdl:done.length+1≤4194304:=by
    have h1:=HL.out
    rw [HQ.out] at h1
    simp at h1
    omega
   have HD:=Lib.hid hdl
   have HPP:=Lib.hid hp
   have HKI:=Lib.hid (show idV k.2 = .int .i64 (k.2.id:Int) from rfl)
   clear hb HP K hdl hp
   unfold idV at c0
   generalize hpv:fV (blockI ns (k.2.parent:Int))=pv at *
   have HPV:=Lib.hid hpv
   unfold fV kpt
   clear hpv hk
   generalize hid:(k.2.id:Int)=x at *
   have HID:=Lib.hid hid
   clear hid
   go_wp2_with (at_builtin;refine wp_one row55 rfl _ _ rfl _ (done.map idV) wr.heap.size 1 #[.int .i64 x] rfl rfl (HI.out.down (by go_grown)) (Bk.new rfl) rfl (by simp [Value.oneCell']) HD.out (by decide) ?_;intro v' w3 hs3 hg3;have HI2:=Lib.hid hs3;have c15:=HX.out w3 hs3.2.1;clear hs3 hg3)
   go_roundg (k.2.parent+1)
   case rel=>exact⟨k.2.parent,done++[k.2],Nat.le_refl _,HPV.out.symm,HQ,Lib.hid (by simpa [idV,HID.out] using HI2.out)⟩
   case measure=>have:=HPP.out;omega
end Go.Proofs.YthogppennalobaaGreatDoor
namespace Go.Proofs.YthogppennalobaaGreatDoor
open Go.RowKit Go.Sort Forest
def spendP (l:List Nd)(id now:Int): Int×List Nd:=match findI l id with
 |none=>(131,l)
 |some n=>if n.spent then (134,setN l n.id killF) else if liveN l now n then (0,setN l n.id spendF) else (133,l)
theorem spend_call {w:World}{f:Nat}{ns:Ns}{nx:Int}(h:FR w f ns nx)(hl:ns.length≤1000000)(id now:Int): Calls Tryz.prog 42 #[kpt f,.int .i64 id,.int .i64 now] w fun e w'=>Ends w f ns nx (.int .i64 (spendP (nodes ns) id now).1) (spendP (nodes ns) id now).2 nx e w':=by
 have HA:=Lib.hid (at_any h hl id)
 have H:=Lib.hid h
 rcases find_cases ns id with ⟨h1,h2⟩ | ⟨k,hk,h1,h2,h3⟩
 ·have HR:Hid (spendP (nodes ns) id now=(131,nodes ns)):=Lib.hid (by unfold spendP;rw [h2])
  rw [HR.out]
  rw [h1] at HA
  clear h h1 h2 HR
  unfold kpt at *
  unfold fV at HA
  go_enter Tryz.func42,Tryz.ntmps42
  go_wp2_with fail
  refine HA.out.mono ?_
  rintro e w1 ⟨rfl,rfl⟩
  go_wp2_with fail
  go_ret
  exact⟨rfl,ns,rfl,H.out,Chf.of_below H.out (Below.refl _ _)⟩
 ·obtain⟨sv,av,K,_⟩:=h.node k hk
  have c10:w.cell? ⟨k.1,10,none⟩=some (.bool k.2.spent):=K.cell 10
  have HL:=Lib.hid (isLive_any h hk now)
  have HK:=Lib.hid hk
  have HRR:Hid (spendP (nodes ns) id now=if k.2.spent then (134,setN (nodes ns) k.2.id killF) else if liveN (nodes ns) now k.2 then (0,setN (nodes ns) k.2.id spendF) else (133,nodes ns)):=Lib.hid (by unfold spendP;rw [h2])
  have HKL:=Lib.hid (killB h hk)
  rw [h1] at HA
  clear h h1 h2 hk h3 K
  cases hs:k.2.spent with
  |true=>
   rw [hs] at c10
   rw [HRR.out,hs,if_pos rfl]
   clear HRR hs
   unfold fV at HA
   unfold kpt at *
   go_enter Tryz.func42,Tryz.ntmps42
   go_wp2_with fail
   refine HA.out.mono ?_
   rintro e w1 ⟨rfl,rfl⟩
   go_wp2_with fail
   refine HKL.out.mono ?_
   rintro e w2 ⟨rfl,hN⟩
   have HN:=Lib.hid hN
   clear hN
   go_wp2_with fail
   go_ret
   exact⟨rfl,HN.out⟩
  |false=>
   rw [hs] at c10
   rw [HRR.out,hs,if_neg (by simp)]
   clear HRR hs HKL
   cases hv:liveN (nodes ns) now k.2 with
   |true=>
    rw [hv] at HL
    rw [if_pos rfl]
    clear hv
    unfold fV at HA
    unfold kpt at *
    go_enter Tryz.func42,Tryz.ntmps42
    go_wp2_with fail
    refine HA.out.mono ?_
    rintro e w1 ⟨rfl,rfl⟩
    go_wp2_with fail
    refine HL.out.mono ?_
    rintro e w2 ⟨rfl,hb⟩
    have HB:=Lib.hid hb
    have H2:=Lib.hid (H.out.below hb)
    obtain⟨sv2,av2,K2,_⟩:=H2.out.node k HK.out
    have c2:w2.cell? ⟨k.1,10,none⟩=some (.bool k.2.spent):=K2.cell 10
    have f2:=K2.fro 10
    clear hb K2
    go_wp2_with fail
    go_ret
    obtain⟨g1,g2⟩:=H2.out.upd HK.out mild_spend (only_cell w2 k.1 10 (.bool true)) (fun sv av up K=>Bk.same (i:=10) (v:= .bool true) K)
    exact⟨rfl,_,updN_nodes _ _ _,g1,(Chf.of_below H.out HB.out).trans g2⟩
   |false=>
    rw [hv] at HL
    rw [if_neg (by simp)]
    clear hv
    unfold fV at HA
    unfold kpt at *
    go_enter Tryz.func42,Tryz.ntmps42
    go_wp2_with fail
    refine HA.out.mono ?_
    rintro e w1 ⟨rfl,rfl⟩
    go_wp2_with fail
    refine HL.out.mono ?_
    rintro e w2 ⟨rfl,hb⟩
    have HB:=Lib.hid hb
    clear hb
    go_wp2_with fail
    go_ret
    exact⟨rfl,ns,rfl,H.out.below HB.out,Chf.of_below H.out HB.out⟩
def liftP (l:List Nd)(id lev:Int): Int×List Nd:=match findI l id with
 |none=>(131,l)
 |some n=>if n.kind=1∧1≤lev∧lev≤3 then (0,setN l n.id (liftF lev)) else (131,l)
theorem lift_call {w:World}{f:Nat}{ns:Ns}{nx:Int}(h:FR w f ns nx)(hl:ns.length≤1000000)(id lev:Int): Calls Tryz.prog 46 #[kpt f,.int .i64 id,.int .i64 lev] w fun e w'=>Ends w f ns nx (.int .i64 (liftP (nodes ns) id lev).1) (liftP (nodes ns) id lev).2 nx e w':=by
 have HA:=Lib.hid (at_any h hl id)
 have H:=Lib.hid h
 rcases find_cases ns id with ⟨h1,h2⟩ | ⟨k,hk,h1,h2,h3⟩
 ·have HR:Hid (liftP (nodes ns) id lev=(131,nodes ns)):=Lib.hid (by unfold liftP;rw [h2])
  rw [HR.out]
  rw [h1] at HA
  clear h h1 h2 HR
  unfold kpt at *
  unfold fV at HA
  go_enter Tryz.func46,Tryz.ntmps46
  go_wp2_with fail
  refine HA.out.mono ?_
  rintro e w1 ⟨rfl,rfl⟩
  go_wp2_with fail
  go_ret
  exact⟨rfl,ns,rfl,H.out,Chf.of_below H.out (Below.refl _ _)⟩
 ·obtain⟨sv,av,K,_⟩:=h.node k hk
  have c1:w.cell? ⟨k.1,1,none⟩=some (.int .i64 k.2.kind):=K.cell 1
  have c12:w.cell? ⟨k.1,12,none⟩=some (.int .i64 k.2.level):=K.cell 12
  have f12:=K.fro 12
  have HRR:Hid (liftP (nodes ns) id lev=if k.2.kind=1∧1≤lev∧lev≤3 then (0,setN (nodes ns) k.2.id (liftF lev)) else (131,nodes ns)):=Lib.hid (by unfold liftP;rw [h2])
  have HU:=Lib.hid (fun v (e:(.int .i64 (max k.2.level lev))=v)=>h.upd hk (mild_lift lev) (only_cell w k.1 12 v) (fun sv av up K=>by rw [← e];exact Bk.same (i:=12) (v:= .int .i64 (max k.2.level lev)) K))
  rw [h1] at HA
  clear h h1 h2 hk h3 K
  by_cases hc:k.2.kind=1∧1≤lev∧lev≤3
  ·rw [HRR.out,if_pos hc]
   obtain⟨hc1,hc2,hc3⟩:=hc
   rw [hc1] at c1
   clear HRR hc1
   unfold fV at HA
   unfold kpt at *
   go_enter Tryz.func46,Tryz.ntmps46
   go_wp2_with fail
   refine HA.out.mono ?_
   rintro e w1 ⟨rfl,rfl⟩
   go_wp2_with fail
   go_ret
   obtain⟨g1,g2⟩:=HU.out _ rfl
   exact⟨rfl,_,updN_nodes _ _ _,g1,g2⟩
  ·rw [HRR.out,if_neg hc]
   clear HRR HU
   have HX:=Lib.hid hc
   clear hc
   generalize k.2.kind=kd at *
   unfold fV at HA
   unfold kpt at *
   by_cases q1:kd=1
   ·by_cases q2:1≤lev
    ·have q3:¬lev≤3:=fun q3=>HX.out ⟨q1,q2,q3⟩
     subst q1
     go_enter Tryz.func46,Tryz.ntmps46
     go_wp2_with fail
     refine HA.out.mono ?_
     rintro e w1 ⟨rfl,rfl⟩
     go_wp2_with fail
     go_ret
     exact⟨rfl,ns,rfl,H.out,Chf.of_below H.out (Below.refl _ _)⟩
    ·subst q1
     go_enter Tryz.func46,Tryz.ntmps46
     go_wp2_with fail
     refine HA.out.mono ?_
     rintro e w1 ⟨rfl,rfl⟩
     go_wp2_with fail
     go_ret
     exact⟨rfl,ns,rfl,H.out,Chf.of_below H.out (Below.refl _ _)⟩
   ·have q0:(kd != 1)=true:=by simpa using q1
    go_enter Tryz.func46,Tryz.ntmps46
    go_wp2_with fail
    refine HA.out.mono ?_
    rintro e w1 ⟨rfl,rfl⟩
    go_wp2_with fail
    go_ret
    exact⟨rfl,ns,rfl,H.out,Chf.of_below H.out (Below.refl _ _)⟩
def noteP (l:List Nd)(id:Int)(s:Bs): Int×List Nd:=match findI l id with
 |none=>(131,l)
 |some n=>if s.length≤256 then (0,setN l n.id (noteF s)) else (131,l)
theorem note_call {w:World}{f:Nat}{ns:Ns}{nx:Int}(h:FR w f ns nx)(hl:ns.length≤1000000)(id:Int)(s:Bs): Calls Tryz.prog 48 #[kpt f,.int .i64 id,.string ⟨s.toArray⟩] w fun e w'=>Ends w f ns nx (.int .i64 (noteP (nodes ns) id s).1) (noteP (nodes ns) id s).2 nx e w':=by
 have HA:=Lib.hid (at_any h hl id)
 have H:=Lib.hid h
 rcases find_cases ns id with ⟨h1,h2⟩ | ⟨k,hk,h1,h2,h3⟩
 ·have HR:Hid (noteP (nodes ns) id s=(131,nodes ns)):=Lib.hid (by unfold noteP;rw [h2])
  rw [HR.out]
  rw [h1] at HA
  clear h h1 h2 HR
  unfold kpt at *
  unfold fV at HA
  go_enter Tryz.func48,Tryz.ntmps48
  go_wp2_with fail
  refine HA.out.mono ?_
  rintro e w1 ⟨rfl,rfl⟩
  go_wp2_with fail
  go_ret
  exact⟨rfl,ns,rfl,H.out,Chf.of_below H.out (Below.refl _ _)⟩
 ·have HRR:Hid (noteP (nodes ns) id s=if s.length≤256 then (0,setN (nodes ns) k.2.id (noteF s)) else (131,nodes ns)):=Lib.hid (by unfold noteP;rw [h2])
  have HK:=Lib.hid hk
  rw [h1] at HA
  clear h h1 h2 hk h3
  unfold fV at HA
  unfold kpt at *
  by_cases hc:s.length≤256
  ·rw [HRR.out,if_pos hc]
   have hcI:(s.length:Int)≤256:=by omega
   have HC:=Lib.hid (fun w=>sclone_any s w (by omega))
   clear HRR
   go_enter Tryz.func48,Tryz.ntmps48
   go_wp2_with fail
   refine HA.out.mono ?_
   rintro e w1 ⟨rfl,rfl⟩
   go_wp2_with fail
   refine(HC.out _).mono ?_
   rintro e w2 ⟨rfl,hb⟩
   have HB:=Lib.hid hb
   have H2:=Lib.hid (H.out.below hb)
   obtain⟨sv2,av2,K2,_⟩:=H2.out.node k HK.out
   have c2:w2.cell? ⟨k.1,14,none⟩=some (txt k.2.data):=K2.cell 14
   have f2:=K2.fro 14
   clear hb K2
   unfold txt at c2
   go_wp2_with fail
   go_ret
   obtain⟨g1,g2⟩:=H2.out.upd HK.out (mild_note s) (only_cell w2 k.1 14 (txt s)) (fun sv av up K=>Bk.same (i:=14) (v:=txt s) K)
   exact⟨rfl,_,updN_nodes _ _ _,g1,(Chf.of_below H.out HB.out).trans g2⟩
  ·rw [HRR.out,if_neg hc]
   have hcI:¬(s.length:Int)≤256:=by omega
   clear HRR
   go_enter Tryz.func48,Tryz.ntmps48
   go_wp2_with fail
   refine HA.out.mono ?_
   rintro e w1 ⟨rfl,rfl⟩
   go_wp2_with fail
   go_ret
   exact⟨rfl,ns,rfl,H.out,Chf.of_below H.out (Below.refl _ _)⟩
end Go.Proofs.YthogppennalobaaGreatDoor
namespace Go.Proofs.YthogppennalobaaGreatDoor
open Go.RowKit Go.Sort Forest OwnR TxO
def killOfP (l:List Nd)(p:Bs): Int×List Nd:=(((l.filter fun n=>isOfP n p&&!n.dead).length:Nat),l.map fun n=>if isOfP n p then killF n else n)
theorem FR.row {w:World}{f:Nat}{ns:Ns}{nx:Int}(h:FR w f ns nx){a:Option Addr}{n c:Nat}{x:Value}(hb:Bk 71 w f #[.slice a n c,x]): n=ns.length∧w.ownsRow 0 72 1 (.slice a ns.length c) ns.length (ns.map fun k=>kpt k.1):=by
 obtain⟨a',c',h1,h2⟩:=h.obj
 have e:=h1.symm.trans hb
 simp only [Option.some.injEq,Obj.cells.injEq,Array.mk.injEq,List.cons.injEq,Value.slice.injEq] at e
 obtain⟨⟨⟨rfl,rfl,rfl⟩,_⟩,_⟩:=e
 exact⟨rfl,h2⟩
theorem setN_at {t u:List Nd}{n:Nd}(h:Ok (t++n::u))(F:Nd→Nd): setN (t++n::u) n.id F=t++F n::u:=by
 have h1:∀m∈t,m.id≠n.id:=fun m hm=>by have:=h.split hm;omega
 have h2:∀m∈u,m.id≠n.id:=by
  intro m hm
  have:∀(t:List Nd),Ok (t++n::u)→n.id<m.id:=by
   intro t
   induction t with
   |nil=>intro h;exact h.2.2.1 m hm
   |cons a t ih=>intro h;exact ih h.2.2.2
  have:=this t h
  omega
 unfold setN
 rw [List.map_append,List.map_cons,if_pos rfl]
 congr 1
 ·exact(List.map_congr_left fun m hm=>by rw [if_neg (h1 m hm)];rfl).trans (List.map_id _)
 ·congr 1
  exact(List.map_congr_left fun m hm=>by rw [if_neg (h2 m hm)];rfl).trans (List.map_id _)
set_option maxHeartbeats 8000000 in
theorem killOf_call {w:World}{f:Nat}{ns:Ns}{nx:Int}(h:FR w f ns nx)(hl:ns.length≤1000000)(p:Bs): Calls Tryz.prog 30 #[kpt f,.string ⟨p.toArray⟩] w fun e w'=>Ends w f ns nx (.int .i64 (killOfP (nodes ns) p).1) (killOfP (nodes ns) p).2 nx e w':=by
 have H:=Lib.hid h
 obtain⟨a,c,hb,hrow0⟩:=h.obj
 clear hrow0
 have c0:w.cell? ⟨f,0,none⟩=some (.slice a ns.length c):=hb.cell 0
 have HB:=Lib.hid hb
 obtain⟨G,hG⟩:∃G:Nd→Nd,G=fun n=>if isOfP n p then killF n else n:=⟨_,rfl⟩
 have HG:=Lib.hid hG
 clear h hb hG
 unfold kpt
 go_enter Tryz.func30,Tryz.ntmps30
 go_wp2_with fail
 go_loopw [5,13] (fun cv iv wr=>∃(i:Nat) (nsi:Ns),i≤ns.length∧iv = .int .i64 (i:Int)∧cv = .int .i64 ((((nodes ns).take i).filter fun n=>isOfP n p&&!n.dead).length:Nat)∧Hid (FR wr f nsi nx∧Chf w wr f ns nsi∧Bk 71 wr f #[.slice a ns.length c,.int .i64 nx]∧nodes nsi=((nodes ns).take i).map G++(nodes ns).drop i)) (fun _ iv _=>ns.length - (intOf iv).toNat)
 case atStart=>exact⟨0,ns,Nat.zero_le _,rfl,by simp,Lib.hid ⟨H.out,Chf.of_below H.out (Below.refl _ _),HB.out,by simp⟩⟩
 case round=>
  obtain⟨i,nsi,hi,rfl,rfl,HI⟩:=hrel
  have hlen:nsi.length=ns.length:=by
   have:=congrArg List.length HI.out.2.2.2
   simp [nodes] at this
   omega
  by_cases hlt:i<ns.length
  ·have hlti:i<nsi.length:=by omega
   obtain⟨k,hk⟩:∃k,nsi[i]=k:=⟨_,rfl⟩
   have hkm:k∈nsi:=hk▸List.getElem_mem hlti
   have hkn:k.2=(nodes ns)[i]'(by simp [nodes];omega):=by
    have h1:(nodes nsi)[i]?=some k.2:=by simp [nodes,List.getElem?_eq_getElem hlti,hk]
    rw [HI.out.2.2.2,List.getElem?_append_right (by simp;omega),List.getElem?_drop] at h1
    simp only [List.length_map,List.length_take] at h1
    rw [Nat.min_eq_left (by simp [nodes];omega)] at h1
    rw [show i+(i - i)=i by omega,List.getElem?_eq_getElem (by simp [nodes];omega)] at h1
    exact(Option.some.inj h1).symm
   have HN:Hid (nodes ns=(nodes ns).take i++k.2::(nodes ns).drop (i+1)∧(nodes ns).take (i+1)=(nodes ns).take i++[k.2]∧nodes nsi=((nodes ns).take i).map G++k.2::(nodes ns).drop (i+1)):=Lib.hid (by
    have hd:(nodes ns).drop i=k.2::(nodes ns).drop (i+1):=by rw [hkn];exact List.drop_eq_getElem_cons _
    refine⟨?_,?_,?_⟩
    ·rw [← hd,List.take_append_drop]
    ·rw [List.take_add_one,List.getElem?_eq_getElem (by simp [nodes];omega),← hkn];rfl
    ·rw [← hd];exact HI.out.2.2.2)
   have hrow:=(HI.out.1.row HI.out.2.2.1).2
   obtain⟨g,rfl,hcell⟩:=owns_cell hrow (i:=i) (v:=kpt k.1) (by rw [List.getElem?_map,List.getElem?_eq_getElem hlti,hk];rfl)
   obtain⟨sv,av,K,_⟩:=HI.out.1.node k hkm
   have HO:=Lib.hid (isOf_any K p)
   have HK:=Lib.hid (kill_any K)
   have HKM:=Lib.hid hkm
   have hltI:(i:Int)<(ns.length:Int):=by omega
   have HCNT:Hid ((((nodes ns).take (i+1)).filter fun n=>isOfP n p&&!n.dead).length=(((nodes ns).take i).filter fun n=>isOfP n p&&!n.dead).length+if (isOfP k.2 p&&!k.2.dead)=true then 1 else 0):=Lib.hid (by
    rw [HN.out.2.1,List.filter_append,List.length_append,List.filter_cons]
    split<;>simp)
   have hcb:(((nodes ns).take i).filter fun n=>isOfP n p&&!n.dead).length≤1000000:=by
    refine Nat.le_trans (List.length_filter_le _ _) ?_
    rw [List.length_take];omega
   unfold kpt at hcell HO HK
   have HGK:Hid (G k.2=if isOfP k.2 p then killF k.2 else k.2):=Lib.hid (by rw [HG.out])
   clear hkn hk hkm hrow K c0 hlen hlti hi hlt
   have hlt:=Lib.hid hltI
   generalize (((nodes ns).take i).filter fun n=>isOfP n p&&!n.dead).length=cnt at *
   cases ho:isOfP k.2 p with
   |false=>
    rw [ho] at HO HCNT HGK
    clear ho
    go_wp2_with fail
    refine HO.out.mono ?_
    rintro e w1 ⟨rfl,rfl⟩
    go_wp2_with fail
    go_roundw
    case rel=>
     refine⟨i+1,nsi,by have:=hlt.out;omega,by go_num,by rw [HCNT.out];simp,Lib.hid ⟨HI.out.1,HI.out.2.1,HI.out.2.2.1,?_⟩⟩
     rw [HN.out.2.2,HN.out.2.1,List.map_append,List.map_cons,List.map_nil,HGK.out,List.append_assoc];rfl
    case measure=>have:=hlt.out;simp [intOf];omega
   |true=>
    rw [ho] at HO HCNT HGK
    clear ho
    generalize hdd:k.2.dead=d at *
    have HDD:=Lib.hid hdd
    clear hdd
    go_wp2_with fail
    refine HO.out.mono ?_
    rintro e w1 ⟨rfl,rfl⟩
    go_wp2_with fail
    refine HK.out.mono ?_
    rintro e w2 ⟨rfl,rfl⟩
    have HU:=Lib.hid (HI.out.1.upd HKM.out mild_kill (only_cell w1 k.1 9 (.bool true)) (fun sv av up K=>Bk.same (i:=9) (v:= .bool true) K))
    have HF2:Hid (Bk 71 (w1.setCell ⟨k.1,9,none⟩ (.bool true)) f #[.slice (some ⟨g,0,none⟩) ns.length c,.int .i64 nx]):=Lib.hid (by
     obtain⟨sv,av,K,_⟩:=HI.out.1.node k HKM.out
     exact HI.out.2.2.1.oth (bk_ne HI.out.2.2.1 K (by decide)))
    have HL:Hid (nodes (updN nsi k.2.id killF)=((nodes ns).take (i+1)).map G++(nodes ns).drop (i+1)):=Lib.hid (by
     have hok:=HI.out.1.ok
     rw [HN.out.2.2] at hok
     rw [updN_nodes,HN.out.2.2,setN_at hok,HN.out.2.1,List.map_append,List.map_cons,List.map_nil,HGK.out,List.append_assoc];rfl)
    cases d with
    |true=>
     go_wp2_with fail
     go_roundw
     case rel=>exact⟨i+1,updN nsi k.2.id killF,by have:=hlt.out;omega,by go_num,by rw [HCNT.out];simp,Lib.hid ⟨HU.out.1,HI.out.2.1.trans HU.out.2,HF2.out,HL.out⟩⟩
     case measure=>have:=hlt.out;simp [intOf];omega
    |false=>
     go_wp2_with fail
     go_roundw
     case rel=>exact⟨i+1,updN nsi k.2.id killF,by have:=hlt.out;omega,by go_num,by rw [HCNT.out];go_num,Lib.hid ⟨HU.out.1,HI.out.2.1.trans HU.out.2,HF2.out,HL.out⟩⟩
     case measure=>have:=hlt.out;simp [intOf];omega
  ·have hie:i=ns.length:=by omega
   have hltI:¬(i:Int)<(ns.length:Int):=by omega
   have HE:Hid ((nodes ns).take i=nodes ns):=Lib.hid (by rw [List.take_of_length_le];simp [nodes];omega)
   have HE2:Hid ((nodes ns).drop i=[]):=Lib.hid (by rw [List.drop_of_length_le];simp [nodes];omega)
   rw [HE.out]
   clear c0
   go_wp2_with fail
   go_ret
   refine⟨rfl,nsi,?_,HI.out.1,HI.out.2.1⟩
   rw [HI.out.2.2.2,HE.out,HE2.out,List.append_nil,HG.out];rfl
end Go.Proofs.YthogppennalobaaGreatDoor
