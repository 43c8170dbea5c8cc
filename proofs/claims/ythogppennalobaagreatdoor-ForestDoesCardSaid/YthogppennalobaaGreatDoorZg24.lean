/- the document: Prune the document: Find -/
import Derived.Test.YthogppennalobaaGreatDoorZg23
import Derived.Test.YthogppennalobaaGreatDoorZg22
import Derived.Test.YthogppennalobaaGreatDoorZg07
set_option linter.unusedVariables false
set_option linter.unusedSimpArgs false
set_option maxRecDepth 100000
namespace Go.Proofs.YthogppennalobaaGreatDoor
open Go.RowKit Go.Sort Forest OwnR TxO Pl
open Go.Lib renaming hid→Φ
def kpB (L:List Nd)(now:Int)(on:Nat)(m:Nd): Bool:=liveN L now m&&hangs L m.id on
theorem findI_of {L:List Nd}(hO:Ok L){m:Nd}(hm:m∈L): findI L (m.id:Int)=some m:=by
 have h:=at_of hO hm
 unfold findI
 unfold at' at h
 rw [← h]
 congr 1
 funext n
 rw [Bool.eq_iff_iff]
 simp<;>omega
theorem live_of {L:List Nd}(hO:Ok L){m:Nd}(hm:m∈L)(now:Int): liveP L (m.id:Int) now=liveN L now m:=by
 unfold liveP
 rw [findI_of hO hm]
theorem hangs_of {L:List Nd}(hO:Ok L){m:Nd}(hm:m∈L)(on:Nat): ((pathI L (m.id:Int)).any fun n=>(n.id:Int) == (on:Int))=hangs L m.id on:=by
 unfold pathI hangs
 rw [findI_of hO hm]
 dsimp only
 congr 1
 funext n
 rw [Bool.eq_iff_iff]
 simp<;>omega
theorem nds_get {rs:List (Nd×Value×Value)}{i:Nat}(hi:i<rs.length): (nds rs)[i]'(by simpa [nds] using hi)=rs[i].1:=by simp [nds]
theorem keeps_at {L:List Nd}(hO:Ok L){i:Nat}(hi:i<L.length)(now:Int): keeps L now L[i]=(L.drop i).any (kpB L now L[i].id):=by
 rw [keeps_drop hO (t:=L.take i) (u:=L.drop (i+1)) (by rw [← List.drop_eq_getElem_cons hi,List.take_append_drop]) now,← List.drop_eq_getElem_cons hi]
 rfl
def NewRow (w w':World)(f:Nat): Prop:=∀v x,Bk 40 w' f #[v,x]→∀k,v.ownBlock=some k→w.heap.size≤k
set_option maxHeartbeats 16000000 in
theorem rprune_any {w:World}{f:Nat}{rs:List (Nd×Value×Value)}{nx:Int}(h:Xr w f rs nx)(hO:Ok (nds rs))(hl:rs.length≤1000000)(now:Int): Calls Tryz.prog 50 #[kpt f,.int .i64 now] w fun e w'=>Rends w f rs (.int .i64 ((nds rs).length - (prune (nds rs) now).length:Int)) (prune (nds rs) now) nx e w'∧NewRow w w' f:=by
 have H:=Φ h
 obtain⟨L,hL⟩:∃L,L=nds rs:=⟨_,rfl⟩
 rw [← hL] at hO ⊢
 have HO:=Φ hO
 have HLL:=Φ hL
 have HLN:Hid (L.length=rs.length):=Φ (by rw [hL];simp [nds])
 obtain⟨N,hN⟩:∃N,N=rs.length:=⟨_,rfl⟩
 rw [← hN] at hl HLN
 have HNN:=Φ hN
 have HL:=Φ hl
 have HLI:=Φ (fun W (hb:Below w.heap.size w W)=>rlive_any (h.below hb) (by rw [← hL];exact hO) (by rw [← hN];exact hl))
 have HHA:=Φ (fun W (hb:Below w.heap.size w W)=>rhangs_any (h.below hb) (by rw [← hL];exact hO) (by rw [← hN];exact hl))
 obtain⟨v,h1,h2⟩:=h
 obtain⟨a,c,rfl⟩:=h2.shape
 have HF:=Φ h1
 have HRR:=Φ h2
 rw [← hN] at HF HRR
 rw [← hL] at HLI HHA
 obtain⟨R,hR⟩:∃R,R=(L.length - (prune L now).length:Int):=⟨_,rfl⟩
 rw [← hR]
 have HR:=Φ hR
 obtain⟨P,hP⟩:∃P,P=prune L now:=⟨_,rfl⟩
 rw [← hP]
 have HP:=Φ hP
 clear hL h1 h2 hO hN hR hP
 unfold kpt at *
 go_enter Tryz.func50,Tryz.ntmps50
 go_wp2_with fail
 obtain⟨w0,hw0⟩:∃x,x=w.alloc (.cells #[] 31):=⟨_,rfl⟩
 rw [← hw0]
 have HL0:Hid (Lw 31 15 w w0 (.slice (some ⟨w.heap.size,0,none⟩) 0 0) 0 []):=Φ (by rw [hw0];exact Lw.empty 31 15 (Below.refl _ _))
 clear hw0
 go_loopw [5,6] (fun ov iv wr=>∃i:Nat,i≤N∧iv = .int .i64 (i:Int)∧Hid (∃ro:List (Nd×Value×Value),Lw 31 15 w wr ov ro.length (ro.flatMap nodeC)∧ro=(rs.take i).filter (fun r=>keeps L now r.1))) (fun _ iv _=>N - (intOf iv).toNat)
 case atStart=>exact⟨0,Nat.zero_le _,rfl,Φ ⟨[],HL0.out,rfl⟩⟩
 case round=>
  obtain⟨i,hi,rfl,HI⟩:=hrel
  have hl:=HL.out
  obtain⟨ro,hlo,hro⟩:=HI.out
  have HLO:=Φ hlo
  have HRO:=Φ hro
  have d0:wr.cell? ⟨f,0,none⟩=some (.slice a N c):=cell_below hlo.2.1 (HF.out.cell 0)
  clear hlo hro HI HL0
  by_cases hlt:i<N
  ·have hltI:(i:Int)<(N:Int):=by omega
   have hir:i<rs.length:=by rw [← HNN.out];exact hlt
   obtain⟨⟨n,sv,av⟩,hz⟩:∃z,rs[i]'hir=z:=⟨_,rfl⟩
   have HZ:=Φ hz
   have hnL:L[i]'(by rw [HLN.out];exact hlt)=n:=by
    have:=nds_get hir
    simp only [HLL.out]
    rw [this,hz]
   have HKE:Hid (keeps L now n=(L.drop i).any (kpB L now n.id)):=Φ (by
    have:=keeps_at HO.out (i:=i) (by rw [HLN.out];exact hlt) now
    rwa [hnL] at this)
   obtain⟨q,rfl,hc0⟩:=HRR.out.cell hir
   have HCI:Hid (w.cell? ⟨q,i*15,none⟩=some (.int .i64 (n.id:Int))):=Φ (by
    have:=hc0 0 (by omega)
    rwa [hz] at this)
   have hb:=HLO.out.2.1
   have ci:wr.cell? ⟨q,i*15,none⟩=some (.int .i64 (n.id:Int)):=cell_below hb HCI.out
   have HB:=Φ hb
   clear hz hnL hc0 hb
   obtain⟨wo,hwo⟩:∃x,x=wr:=⟨_,rfl⟩
   subst hwo
   go_wp2_with fail
   go_loopw [7,8] (fun kv jv ws=>∃j:Nat,i≤j∧j≤N∧jv = .int .i64 (j:Int)∧∃b:Bool,kv = .bool b∧Hid (b=((L.drop i).take (j - i)).any (kpB L now n.id))∧Hid (Below wo.heap.size wo ws)) (fun _ jv _=>N - (intOf jv).toNat)
   case atStart=>exact⟨i,Nat.le_refl _,hi,rfl,false,rfl,Φ (by simp),Φ (Below.refl _ _)⟩
   case round=>
    obtain⟨j,hij,hj,rfl,b,rfl,HBJ,HWS⟩:=hrel
    have e0:wr.cell? ⟨f,0,none⟩=some (.slice (some ⟨q,0,none⟩) N c):=cell_below HWS.out d0
    cases b with
    |true=>
     have HTT:Hid (keeps L now n=true):=Φ (by
      rw [HKE.out,List.any_eq_true]
      have h1:=HBJ.out.symm
      rw [List.any_eq_true] at h1
      obtain⟨x,hx,hp⟩:=h1
      exact⟨x,List.mem_of_mem_take hx,hp⟩)
     have HB2:Hid (Below w.heap.size w wr):=Φ (HB.out.trans (HWS.out.mono HB.out.size))
     obtain⟨t1,t2⟩:=HRR.out.2 _ (HZ.out▸List.getElem_mem hir:(n,sv,av)∈rs)
     have T1:=Φ t1
     have T2:=Φ t2
     obtain⟨sa,sc,e1⟩:=owns_shape t1
     obtain⟨aa,ac,e2⟩:=owns_shape t2
     dsimp only at e1 e2
     subst e1 e2
     obtain⟨q2,e3,hc⟩:=HRR.out.cell hir
     simp only [Option.some.injEq,Addr.mk.injEq,and_true] at e3
     obtain rfl:=e3
     have HLO2:Hid (Lw 31 15 w wr u5 ro.length (ro.flatMap nodeC)):=Φ (HLO.out.down HWS.out)
     have c0:wr.cell? ⟨q,i*15,none⟩=some (.int .i64 (n.id:Int)):=by have:=hc 0 (by omega);rw [HZ.out] at this;exact cell_below HB2.out this
     have c1:wr.cell? ⟨q,i*15+1,none⟩=some (.int .i64 n.kind):=by have:=hc 1 (by omega);rw [HZ.out] at this;exact cell_below HB2.out this
     have c2:wr.cell? ⟨q,i*15+2,none⟩=some (.int .i64 (n.parent:Int)):=by have:=hc 2 (by omega);rw [HZ.out] at this;exact cell_below HB2.out this
     have c3:wr.cell? ⟨q,i*15+3,none⟩=some (.string ⟨n.subject.toArray⟩):=by have:=hc 3 (by omega);rw [HZ.out] at this;exact cell_below HB2.out this
     have c4:wr.cell? ⟨q,i*15+4,none⟩=some (.string ⟨n.client.toArray⟩):=by have:=hc 4 (by omega);rw [HZ.out] at this;exact cell_below HB2.out this
     have c5:wr.cell? ⟨q,i*15+5,none⟩=some (.string ⟨n.audience.toArray⟩):=by have:=hc 5 (by omega);rw [HZ.out] at this;exact cell_below HB2.out this
     have c6:wr.cell? ⟨q,i*15+6,none⟩=some (.slice sa n.scope.length sc):=by have:=hc 6 (by omega);rw [HZ.out] at this;exact cell_below HB2.out this
     have c7:wr.cell? ⟨q,i*15+7,none⟩=some (.int .i64 n.born):=by have:=hc 7 (by omega);rw [HZ.out] at this;exact cell_below HB2.out this
     have c8:wr.cell? ⟨q,i*15+8,none⟩=some (.int .i64 n.exp):=by have:=hc 8 (by omega);rw [HZ.out] at this;exact cell_below HB2.out this
     have c9:wr.cell? ⟨q,i*15+9,none⟩=some (.bool n.dead):=by have:=hc 9 (by omega);rw [HZ.out] at this;exact cell_below HB2.out this
     have c10:wr.cell? ⟨q,i*15+10,none⟩=some (.bool n.spent):=by have:=hc 10 (by omega);rw [HZ.out] at this;exact cell_below HB2.out this
     have c11:wr.cell? ⟨q,i*15+11,none⟩=some (.slice aa n.actors.length ac):=by have:=hc 11 (by omega);rw [HZ.out] at this;exact cell_below HB2.out this
     have c12:wr.cell? ⟨q,i*15+12,none⟩=some (.int .i64 n.level):=by have:=hc 12 (by omega);rw [HZ.out] at this;exact cell_below HB2.out this
     have c13:wr.cell? ⟨q,i*15+13,none⟩=some (.string ⟨n.secret.toArray⟩):=by have:=hc 13 (by omega);rw [HZ.out] at this;exact cell_below HB2.out this
     have c14:wr.cell? ⟨q,i*15+14,none⟩=some (.string ⟨n.data.toArray⟩):=by have:=hc 14 (by omega);rw [HZ.out] at this;exact cell_below HB2.out this
     have HI3:Hid (∀o,Lw 31 15 w (wr.alloc o) u5 ro.length (ro.flatMap nodeC)):=Φ fun o=>HLO2.out.down (by go_grown)
     have hrl:ro.length≤i:=by
      rw [HRO.out]
      exact Nat.le_trans (List.length_filter_le _ _) (by rw [List.length_take];exact Nat.min_le_left _ _)
     have HD:Hid (ro.length+1≤4194304):=Φ (by omega)
     have HFI:Hid ((rs.take (i+1)).filter (fun r=>keeps L now r.1)=ro++if keeps L now n then [(n,.slice sa n.scope.length sc,.slice aa n.actors.length ac)] else []):=Φ (by
      rw [List.take_add_one,List.getElem?_eq_getElem hir,HZ.out,List.filter_append,← HRO.out]
      congr 1
      cases hk:keeps L now n<;>simp [hk])
     clear hc t1 t2 hrl
     by_cases hjN:(j:Int)<(N:Int)
     ·go_wp2_with (at_builtin;refine wp_one row37 rfl _ _ rfl u5 (ro.flatMap nodeC) wr.heap.size 1 _ rfl rfl (HI3.out _) (Bk.new rfl) rfl (one15 (n.id:Int) (n.parent:Int) n sa aa n.scope.length sc n.actors.length ac) HD.out (by decide) ?_;intro v' w3 hs3 hg3;have HS3:=Φ (And.intro hs3 hg3);clear hs3 hg3)
      go_roundw
      case rel=>
       refine⟨i+1,by omega,by go_num,Φ ⟨ro++[(n,.slice sa n.scope.length sc,.slice aa n.actors.length ac)],?_,?_⟩⟩
       ·have h:=HS3.out.1
        rw [List.flatMap_append,List.length_append]
        exact h
       ·rw [HFI.out,HTT.out];rfl
      case measure=>simp [intOf];omega
     ·go_wp2_with (at_builtin;refine wp_one row37 rfl _ _ rfl u5 (ro.flatMap nodeC) wr.heap.size 1 _ rfl rfl (HI3.out _) (Bk.new rfl) rfl (one15 (n.id:Int) (n.parent:Int) n sa aa n.scope.length sc n.actors.length ac) HD.out (by decide) ?_;intro v' w3 hs3 hg3;have HS3:=Φ (And.intro hs3 hg3);clear hs3 hg3)
      go_roundw
      case rel=>
       refine⟨i+1,by omega,by go_num,Φ ⟨ro++[(n,.slice sa n.scope.length sc,.slice aa n.actors.length ac)],?_,?_⟩⟩
       ·have h:=HS3.out.1
        rw [List.flatMap_append,List.length_append]
        exact h
       ·rw [HFI.out,HTT.out];rfl
      case measure=>simp [intOf];omega
    |false=>
     by_cases hjlt:j<N
     ·have hjI:(j:Int)<(N:Int):=by omega
      have hjr:j<rs.length:=by rw [← HNN.out];exact hjlt
      obtain⟨⟨m,sm,am⟩,hzj⟩:∃z,rs[j]'hjr=z:=⟨_,rfl⟩
      have hmL:L[j]'(by rw [HLN.out];exact hjlt)=m:=by
       have:=nds_get hjr
       simp only [HLL.out]
       rw [this,hzj]
      have hmem:m∈L:=hmL▸List.getElem_mem _
      obtain⟨q2,e3,hcj⟩:=HRR.out.cell hjr
      simp only [Option.some.injEq,Addr.mk.injEq,and_true] at e3
      obtain rfl:=e3
      have hbw:Below w.heap.size w wr:=HB.out.trans (HWS.out.mono HB.out.size)
      have cj:wr.cell? ⟨q,j*15,none⟩=some (.int .i64 (m.id:Int)):=by
       have:=hcj 0 (by omega)
       rw [hzj] at this
       exact cell_below hbw this
      have ci2:wr.cell? ⟨q,i*15,none⟩=some (.int .i64 (n.id:Int)):=cell_below hbw HCI.out
      have HTAKE:Hid ((L.drop i).take (j+1 - i)=(L.drop i).take (j - i)++[m]):=Φ (by
       rw [show j+1 - i=(j - i)+1 by omega,List.take_add_one,List.getElem?_drop,show i+(j - i)=j by omega,List.getElem?_eq_getElem (by rw [HLN.out];exact hjlt),hmL]
       rfl)
      have HC1:Hid (∀d os,Calls Tryz.prog 39 #[kpt f,.int .i64 (m.id:Int),.int .i64 now] (grow (redrawn wr d) os) fun e w''=>e = .returned (.bool (liveN L now m))∧∃p:Regrown,w''=grow (redrawn wr p.d) p.os):=Φ (fun d os=>Calls.regrown_of (by
       have hg:Below wr.heap.size wr (grow (redrawn wr d) os):=below_regrown wr d os
       have h:=HLI.out (grow (redrawn wr d) os) (hbw.trans (hg.mono hbw.size)) (m.id:Int) now
       rwa [live_of HO.out hmem now] at h))
      have HC2:Hid (∀d os,Calls Tryz.prog 80 #[kpt f,.int .i64 (m.id:Int),.int .i64 (n.id:Int)] (grow (redrawn wr d) os) fun e w''=>e = .returned (.bool (hangs L m.id n.id))∧∃p:Regrown,w''=grow (redrawn wr p.d) p.os):=Φ (fun d os=>Calls.regrown_of (by
       have hg:Below wr.heap.size wr (grow (redrawn wr d) os):=below_regrown wr d os
       have h:=HHA.out (grow (redrawn wr d) os) (hbw.trans (hg.mono hbw.size)) (m.id:Int) (n.id:Int)
       rwa [hangs_of HO.out hmem n.id] at h))
      have ke0:=cell_regrown e0
      have kcj:=cell_regrown cj
      have kci:=cell_regrown ci2
      have HKB:Hid (kpB L now n.id m=(liveN L now m&&hangs L m.id n.id)):=Φ rfl
      generalize liveN L now m=b1 at HC1 HKB
      generalize hangs L m.id n.id=b2 at HC2 HKB
      have hiI:(i:Int)<(N:Int):=by omega
      unfold kpt at HC1 HC2
      clear hzj hmL hmem hcj hbw cj ci2 hjr
      cases b1 with
      |false=>
       go_wp2_with fail
       refine wp_region_quiet_below mixed (by kernel_rfl) ?_
       repeat (first | go_big_quiet_step ((exact HC1.out _ _)) | quiet_step (exact HC1.out _ _))
       refine wpQuiet_nil ?_
       intro _ hw'
       obtain⟨⟨dq,osq⟩,hw''⟩:=hw'
       subst hw''
       have HW9:Hid (Below wo.heap.size wo (grow (redrawn wr dq) osq)):=Φ (HWS.out.trans ((below_regrown wr dq osq).mono HWS.out.size))
       clear HC1 HC2 ke0 kcj kci e0
       generalize grow (redrawn wr dq) osq=wq at HW9 ⊢
       go_wp2_with fail
       go_roundw
       case rel=>exact⟨j+1,by omega,by omega,by go_num,_,rfl,Φ (by rw [HTAKE.out,List.any_append,← HBJ.out];simp [HKB.out]),HW9⟩
       case measure=>simp [intOf];omega
      |true=>
       go_wp2_with fail
       refine wp_region_quiet_below mixed (by kernel_rfl) ?_
       repeat (first | go_big_quiet_step (first | exact HC1.out _ _ | exact HC2.out _ _) | quiet_step (first | exact HC1.out _ _ | exact HC2.out _ _))
       refine wpQuiet_nil ?_
       intro _ hw'
       obtain⟨⟨dq,osq⟩,hw''⟩:=hw'
       subst hw''
       have HW9:Hid (Below wo.heap.size wo (grow (redrawn wr dq) osq)):=Φ (HWS.out.trans ((below_regrown wr dq osq).mono HWS.out.size))
       clear HC1 HC2 ke0 kcj kci e0
       generalize grow (redrawn wr dq) osq=wq at HW9 ⊢
       go_wp2_with fail
       go_roundw
       case rel=>exact⟨j+1,by omega,by omega,by go_num,_,rfl,Φ (by rw [HTAKE.out,List.any_append,← HBJ.out];simp [HKB.out]),HW9⟩
       case measure=>simp [intOf];omega
     ·have hjI:¬(j:Int)<(N:Int):=by omega
      have HTT:Hid (keeps L now n=false):=Φ (by
       rw [HKE.out]
       have h1:=HBJ.out.symm
       rwa [List.take_of_length_le (by rw [List.length_drop,HLN.out];omega)] at h1)
      have HLO2:Hid (Lw 31 15 w wr u5 ro.length (ro.flatMap nodeC)):=Φ (HLO.out.down HWS.out)
      have HFI:Hid ((rs.take (i+1)).filter (fun r=>keeps L now r.1)=ro):=Φ (by
       rw [List.take_add_one,List.getElem?_eq_getElem hir,HZ.out,List.filter_append,← HRO.out]
       simp [HTT.out])
      go_wp2_with fail
      go_roundw
      case rel=>exact⟨i+1,by omega,by go_num,Φ ⟨ro,HLO2.out,HFI.out.symm⟩⟩
      case measure=>simp [intOf];omega
  ·have hltI:¬(i:Int)<(N:Int):=by omega
   have HPR:Hid (nds ro=P):=Φ (by
    rw [HRO.out,List.take_of_length_le (by rw [← HNN.out];omega),HP.out,HLL.out]
    unfold nds prune
    rw [List.filter_map]
    congr 1)
   have HPL:Hid (ro.length=P.length):=Φ (by rw [← HPR.out];simp [nds])
   obtain⟨oa,oc,hou⟩:=HLO.out.shape
   have HOU:=Φ hou
   obtain⟨OV,hOV⟩:∃x,x=u5:=⟨_,rfl⟩
   have HK0:Hid (Bk 40 wr f #[.slice a N c,.int .i64 nx]):=Φ (HF.out.below HLO.out.2.1)
   have f0:=HK0.out.fro 0
   have d1:=HK0.out.cell 1
   subst hou
   have hpl:(ro.length:Int)=(P.length:Int):=by rw [HPL.out]
   have hnl:(N:Int)=(L.length:Int):=by rw [HLN.out,HNN.out]
   have HHL:=Φ (And.intro hpl hnl)
   have hple:P.length≤L.length:=by rw [HP.out];exact List.length_filter_le _ _
   have hwr:wrap64 ((N:Int) - (ro.length:Int))=(N:Int) - (ro.length:Int):=by
    have:=HLN.out
    have:=HPL.out
    unfold wrap64;omega
   have HWR:=Φ hwr
   clear hpl hnl hple hwr
   go_wp2_with fail
   go_ret
   have hK:=HK0.out
   have hlo:=HLO.out
   have hB:=hlo.2.1
   have k1:Bk 40 (wr.setCell ⟨f,0,none⟩ (.slice oa ro.length oc)) f #[.slice oa ro.length oc,.int .i64 nx]:=Bk.same (i:=0) (v:= .slice oa ro.length oc) hK
   have hrow:(wr.setCell ⟨f,0,none⟩ (.slice oa ro.length oc)).ownsRow 0 31 15 (.slice oa ro.length oc) ro.length (ro.flatMap nodeC):=owns_of hlo.1 fun g hg _=>heap_setCell_other wr _ g _ (fun e=>owns_ne hlo.1 hK (by decide) (by rw [hg];exact congrArg some e))
   refine⟨⟨(congrArg (fun x=>Ending.returned (Value.int .i64 x)) HWR.out).trans (by rw [HR.out,HHL.out.1,HHL.out.2,← HP.out]),ro,HPR.out,⟨_,k1,hrow,fun r hr=>?_⟩,(Only.of hB).setCell ⟨f,0,none⟩ (.inl (by simp)) _,fun r hr=>?_⟩,fun v x hv k hk=>?_⟩
   ·have hm:r∈rs:=by
     rw [HRO.out] at hr
     exact List.mem_of_mem_take (List.mem_filter.1 hr).1
    obtain⟨t1,t2⟩:=HRR.out.2 r hm
    exact⟨(t1.below hB).setCell hK (by decide),(t2.below hB).setCell hK (by decide)⟩
   ·rw [HRO.out] at hr
    exact⟨r,List.mem_of_mem_take (List.mem_filter.1 hr).1,rfl⟩
   ·have e:=bk_inj k1 hv
    simp only [Array.mk.injEq,List.cons.injEq] at e
    obtain⟨rfl,_⟩:=e
    exact hlo.2.2 k hk
end Go.Proofs.YthogppennalobaaGreatDoor
namespace Go.Proofs.YthogppennalobaaGreatDoor
open Go.RowKit Go.Sort Forest OwnR TxO
open Go.Lib renaming hid→Φ
def GotS (rs:List (Nd×Value×Value))(s:Bs)(e:Ending): Prop:=(e = .returned (.tuple #[.agg zeroN,.bool false])∧(nds rs).find? (fun n=>n.secret == s)=none)∨∃r∈rs,(nds rs).find? (fun n=>n.secret == s)=some r.1∧e = .returned (.tuple #[.agg (nodeC r).toArray,.bool true])
theorem find_at {l:List Nd}{s:Bs}{i:Nat}(hi:i<l.length)(h:∀j (hj:j<l.length),j<i→l[j].secret≠s)(he:l[i].secret=s): l.find? (fun n=>n.secret == s)=some l[i]:=by
 rw [List.find?_eq_some_iff_getElem]
 exact⟨by simpa using he,i,hi,rfl,fun j hj=>by simpa using h j (by omega) hj⟩
set_option maxHeartbeats 8000000 in
theorem rfind_any {w:World}{f:Nat}{rs:List (Nd×Value×Value)}{nx:Int}(h:Xr w f rs nx)(hl:rs.length≤1000000)(s:Bs): Calls Tryz.prog 37 #[kpt f,.string ⟨s.toArray⟩] w fun e w'=>GotS rs s e∧Below w.heap.size w w':=by
 have HZ0:Bk 31 (w.alloc (.cells zeroN 31)) w.heap.size zeroN:=Bk.new rfl
 have HB0:Below w.heap.size w (w.alloc (.cells zeroN 31)):=by go_grown
 obtain⟨v,h1,h2⟩:=h.below HB0
 obtain⟨a,c,rfl⟩:=h2.shape
 have d0:(w.alloc (.cells zeroN 31)).cell? ⟨f,0,none⟩=some (.slice a rs.length c):=h1.cell 0
 have HN:=Φ h2
 have HZ:=Φ HZ0
 have HB:=Φ HB0
 obtain⟨g,hg⟩:∃g,g=w.heap.size:=⟨_,rfl⟩
 have HG:=Φ hg
 clear HZ0 HB0 h h1 h2
 unfold kpt
 unfold zeroN at d0
 go_enter Tryz.func37,Tryz.ntmps37
 go_wp2_with fail
 rw [← hg] at HZ ⊢
 clear hg
 obtain⟨w1,hw1⟩:∃z,z=w.alloc (.cells zeroN 31):=⟨_,rfl⟩
 have hw1':w1=w.alloc (.cells #[.int .i64 0,.int .i64 0,.int .i64 0,.string ⟨#[]⟩,.string ⟨#[]⟩,.string ⟨#[]⟩,.slice none 0 0,.int .i64 0,.int .i64 0,.bool false,.bool false,.slice none 0 0,.int .i64 0,.string ⟨#[]⟩,.string ⟨#[]⟩] 31):=hw1
 rw [← hw1'] at d0 ⊢
 rw [← hw1] at HN HZ HB
 clear hw1 hw1'
 go_loopw [6] (fun iv wr=>∃i:Nat,i≤rs.length∧iv = .int .i64 (i:Int)∧wr=w1∧Hid (∀j (hj:j<(nds rs).length),j<i→(nds rs)[j].secret≠s)) (fun iv _=>rs.length - (intOf iv).toNat)
 case atStart=>exact⟨0,Nat.zero_le _,rfl,rfl,Φ fun j _ h=>by omega⟩
 case round=>
  obtain⟨i,hi,rfl,rfl,HI⟩:=hrel
  by_cases hlt:i<rs.length
  ·have hltI:(i:Int)<(rs.length:Int):=by omega
   have hln:i<(nds rs).length:=by simpa [nds] using hlt
   obtain⟨⟨n,sv,av⟩,hz⟩:∃z,rs[i]'hlt=z:=⟨_,rfl⟩
   have HZZ:Hid ((n,sv,av)∈rs):=Φ (hz▸List.getElem_mem hlt)
   have HNI:Hid ((nds rs)[i]=n):=Φ (by simp [nds,hz])
   obtain⟨t1,t2⟩:=HN.out.2 _ HZZ.out
   obtain⟨sa,sc,e1⟩:=owns_shape t1
   obtain⟨aa,ac,e2⟩:=owns_shape t2
   dsimp only at e1 e2
   subst e1 e2
   obtain⟨q,rfl,hc⟩:=HN.out.cell hlt
   have c0:wr.cell? ⟨q,i*15,none⟩=some (.int .i64 (n.id:Int)):=by have:=hc 0 (by omega);rwa [hz] at this
   have c1:wr.cell? ⟨q,i*15+1,none⟩=some (.int .i64 n.kind):=by have:=hc 1 (by omega);rwa [hz] at this
   have c2:wr.cell? ⟨q,i*15+2,none⟩=some (.int .i64 (n.parent:Int)):=by have:=hc 2 (by omega);rwa [hz] at this
   have c3:wr.cell? ⟨q,i*15+3,none⟩=some (.string ⟨n.subject.toArray⟩):=by have:=hc 3 (by omega);rwa [hz] at this
   have c4:wr.cell? ⟨q,i*15+4,none⟩=some (.string ⟨n.client.toArray⟩):=by have:=hc 4 (by omega);rwa [hz] at this
   have c5:wr.cell? ⟨q,i*15+5,none⟩=some (.string ⟨n.audience.toArray⟩):=by have:=hc 5 (by omega);rwa [hz] at this
   have c6:wr.cell? ⟨q,i*15+6,none⟩=some (.slice sa n.scope.length sc):=by have:=hc 6 (by omega);rwa [hz] at this
   have c7:wr.cell? ⟨q,i*15+7,none⟩=some (.int .i64 n.born):=by have:=hc 7 (by omega);rwa [hz] at this
   have c8:wr.cell? ⟨q,i*15+8,none⟩=some (.int .i64 n.exp):=by have:=hc 8 (by omega);rwa [hz] at this
   have c9:wr.cell? ⟨q,i*15+9,none⟩=some (.bool n.dead):=by have:=hc 9 (by omega);rwa [hz] at this
   have c10:wr.cell? ⟨q,i*15+10,none⟩=some (.bool n.spent):=by have:=hc 10 (by omega);rwa [hz] at this
   have c11:wr.cell? ⟨q,i*15+11,none⟩=some (.slice aa n.actors.length ac):=by have:=hc 11 (by omega);rwa [hz] at this
   have c12:wr.cell? ⟨q,i*15+12,none⟩=some (.int .i64 n.level):=by have:=hc 12 (by omega);rwa [hz] at this
   have c13:wr.cell? ⟨q,i*15+13,none⟩=some (.string ⟨n.secret.toArray⟩):=by have:=hc 13 (by omega);rwa [hz] at this
   have c14:wr.cell? ⟨q,i*15+14,none⟩=some (.string ⟨n.data.toArray⟩):=by have:=hc 14 (by omega);rwa [hz] at this
   clear hc t1 t2 hz
   by_cases he:n.secret=s
   ·have HF:Hid ((nds rs).find? (fun n=>n.secret == s)=some n):=Φ (by
     have:=find_at hln HI.out (by rw [HNI.out];exact he)
     rwa [HNI.out] at this)
    have heb:(n.secret == s)=true:=by simpa using he
    clear he
    go_wp2_with (refine wpList_put rfl 31 _ _ rfl g zeroN _ rfl rfl HZ.out i31 rfl (one15 (n.id:Int) (n.parent:Int) n sa aa _ sc _ ac) ?_)
    refine ret_cellN rfl g _ (.bool true) rfl rfl (Bk.row HZ.out) rfl rfl ?_
    exact⟨.inr ⟨_,HZZ.out,HF.out,rfl⟩,below_row HB.out (Nat.le_of_eq HG.out.symm)⟩
   ·have HJ:Hid (∀j (hj:j<(nds rs).length),j<i+1→(nds rs)[j].secret≠s):=Φ (fun j hj h=>by
     by_cases e:j=i
     ·subst e;rw [HNI.out];exact he
     ·exact HI.out j hj (by omega))
    have heb:(n.secret == s)=false:=by simpa using he
    clear he
    go_wp2_with fail
    go_roundw
    case rel=>exact⟨i+1,by omega,by go_num,trivial,HJ⟩
    case measure=>simp [intOf];omega
  ·have hltI:¬(i:Int)<(rs.length:Int):=by omega
   have HF:Hid ((nds rs).find? (fun n=>n.secret == s)=none):=Φ (by
    rw [List.find?_eq_none]
    intro n hn
    obtain⟨j,hj,rfl⟩:=List.getElem_of_mem hn
    simpa using HI.out j hj (by
     have:(nds rs).length=rs.length:=by simp [nds]
     omega))
   go_wp2_with (refine wpList_put rfl 31 _ _ rfl g zeroN zeroN rfl rfl HZ.out i31 rfl (one15 0 0 ⟨0,0,0,[],[],[],[],0,0,false,false,[],0,[],[]⟩ none none 0 0 0 0) ?_)
   refine ret_cellN rfl g zeroN (.bool false) rfl rfl (Bk.row HZ.out) rfl rfl ?_
   exact⟨.inl ⟨rfl,HF.out⟩,below_row HB.out (Nat.le_of_eq HG.out.symm)⟩
end Go.Proofs.YthogppennalobaaGreatDoor
