/- PROVED HERE: any rows are loaded as a forest just if they are the rows of one, as the document says; what is loaded shows the same nodes and the same rows, and the rows that were handed in stay as they were (ForestLoads, the second form: where the input is of bulk at most 1048576), tied to the program's text. -/
import Derived.Laws.IdiomStrings
import Derived.Lib.AppendStr
import Derived.Test.YthogppennalobaaGreatDoorZl28
import Derived.Test.YthogppennalobaaGreatDoorZl25
import Derived.Test.YthogppennalobaaGreatDoorZl22
import Derived.Test.YthogppennalobaaGreatDoorZl29
set_option linter.unusedVariables false
set_option linter.unusedSimpArgs false
set_option maxRecDepth 100000
namespace Go.Proofs.YthogppennalobaaGreatDoor
open Go.RowKit Go.Sort Forest OwnR TxO Pl
theorem Nr.range {w:World}{a:Option Addr}{m c:Nat}{rs:List (Nd×Value×Value)}(h:Nr w (.slice a m c) rs){i:Nat}(hi:i<rs.length): ∃q,a=some ⟨q,0,none⟩∧w.rangeAt q (i*15) (nodeC rs[i]):=by
 obtain⟨q,e,hc⟩:=h.cell hi
 refine⟨q,e,fun j v hj=>?_⟩
 have hjl:j<15:=by
  have:=(List.getElem?_eq_some_iff.1 hj).1
  simpa [nodeC,inC] using this
 rw [hc j hjl]
 exact hj
set_option maxHeartbeats 8000000 in
theorem samenodes_any {l:List Nd}(hs:∀n∈l,n.scope.length≤100000∧n.actors.length≤100000)(hl:l.length≤1000000)(w:World)(v u:Value)(rs ss:List (Nd×Value×Value))(e1:rs.map (·.1)=l)(e2:ss.map (·.1)=l)(h1:Nr w v rs)(h2:Nr w u ss):
  Calls Tryz.prog 16 #[v,u] w fun e w'=>e = .returned (.bool true)∧Below w.heap.size w w':=by
 obtain⟨a,c,rfl⟩:=h1.shape
 obtain⟨b,d,rfl⟩:=h2.shape
 have H1:=Lib.hid h1
 have H2:=Lib.hid h2
 have HS:=Lib.hid hs
 have E1:=Lib.hid e1
 have E2:=Lib.hid e2
 obtain⟨m,hm⟩:∃m,m=l.length:=⟨_,rfl⟩
 have hm1:rs.length=m:=by rw [hm,← e1,List.length_map]
 have hm2:ss.length=m:=by rw [hm,← e2,List.length_map]
 have HM:=Lib.hid (And.intro hm1 hm2)
 have HML:=Lib.hid hm
 rw [← hm] at hl
 rw [hm1,hm2]
 clear h1 h2 hs e1 e2 hm hm1 hm2
 go_enter Tryz.func16,Tryz.ntmps16
 go_wp2_with fail
 go_loopw [5] (fun iv wr=>∃i:Nat,i≤m∧iv = .int .i64 (i:Int)∧Hid (Below w.heap.size w wr)) (fun iv _=>m - (intOf iv).toNat)
 case atStart=>exact⟨0,Nat.zero_le _,rfl,Lib.hid (Below.refl _ _)⟩
 case round=>
  obtain⟨i,hi,rfl,HQ⟩:=hrel
  by_cases hlt:i<m
  ·have hltI:(i:Int)<(m:Int):=by omega
   have hl1:i<rs.length:=by rw [HM.out.1];exact hlt
   have hl2:i<ss.length:=by rw [HM.out.2];exact hlt
   have hll:i<l.length:=by rw [← HML.out];exact hlt
   obtain⟨q,rfl,c0⟩:=H1.out.range hl1
   obtain⟨q2,rfl,d0⟩:=H2.out.range hl2
   have f1:rs[i].1=l[i]:=by
    have:(rs.map (·.1))[i]?=l[i]?:=by rw [E1.out]
    rw [List.getElem?_map,List.getElem?_eq_getElem hl1,List.getElem?_eq_getElem hll] at this
    simpa using this
   have f2:ss[i].1=l[i]:=by
    have:(ss.map (·.1))[i]?=l[i]?:=by rw [E2.out]
    rw [List.getElem?_map,List.getElem?_eq_getElem hl2,List.getElem?_eq_getElem hll] at this
    simpa using this
   have t1:=H1.out.2 _ (List.getElem_mem hl1)
   have t2:=H2.out.2 _ (List.getElem_mem hl2)
   have hn:=HS.out _ (List.getElem_mem hll)
   generalize rs[i]=r1 at f1 c0 t1
   generalize ss[i]=r2 at f2 d0 t2
   obtain⟨n1,sv,av⟩:=r1
   obtain⟨n2,tv,uv⟩:=r2
   dsimp only at f1 f2 t1 t2
   rw [← f1] at f2 hn
   subst f2
   have HK:Hid (∀d os,Calls Tryz.prog 38 #[.agg (nodeC (n2,sv,av)).toArray,.agg (nodeC (n2,tv,uv)).toArray] (grow (redrawn wr d) os) fun e w''=>e = .returned (.bool true)∧∃p:Regrown,w''=grow (redrawn wr p.d) p.os):=Lib.hid fun d os=>by
    have hb:=HQ.out.trans ((below_regrown wr d os).mono HQ.out.size)
    have h:=rsame_any n2.id n2.parent n2.id n2.parent n2 n2 sv av tv uv (by omega) (by omega) (grow (redrawn wr d) os) ((t1.1.below hb).rd) ((t1.2.below hb).rd) ((t2.1.below hb).rd) ((t2.2.below hb).rd)
    rw [sameP_refl] at h
    exact Calls.regrown_of h
   have C1:=Lib.hid (range_below c0 HQ.out)
   have D1:=Lib.hid (range_below d0 HQ.out)
   have hz1:(nodeC (n2,sv,av)).length=15:=rfl
   have hz2:(nodeC (n2,tv,uv)).length=15:=rfl
   generalize nodeC (n2,sv,av)=cs1 at HK C1 hz1
   generalize nodeC (n2,tv,uv)=cs2 at HK D1 hz2
   have i1:(Tryz.prog.info? 31).map (·.size)=some cs1.length:=by rw [hz1];exact i31
   have i2:(Tryz.prog.info? 31).map (·.size)=some cs2.length:=by rw [hz2];exact i31
   clear c0 d0 f1 t1 t2 hn hl1 hl2 hll hz1 hz2
   go_wp2_with fail
   refine wp_region_quiet_below mixed (by kernel_rfl) ?_
   repeat (first | go_big_quiet_step (fail) | quiet_step (fail))
   refine wpQuiet_load_mid rfl 31 _ rfl q (i*15) rfl cs1 _ (fun w' hw'=>by obtain⟨p,rfl⟩:=hw';exact range_below C1.out (below_regrown wr p.d p.os)) Tryz.underlying31 rfl i1 ?_
   repeat (first | go_big_quiet_step (fail) | quiet_step (fail))
   refine wpQuiet_load_mid rfl 31 _ rfl q2 (i*15) rfl cs2 _ (fun w' hw'=>by obtain⟨p,rfl⟩:=hw';exact range_below D1.out (below_regrown wr p.d p.os)) Tryz.underlying31 rfl i2 ?_
   repeat (first | go_big_quiet_step (exact HK.out _ _) | quiet_step (exact HK.out _ _))
   refine wpQuiet_nil ?_
   intro _ hw'
   obtain⟨⟨dq,osq⟩,hw''⟩:=hw'
   subst hw''
   have B9:Hid (Below w.heap.size w (grow (redrawn wr dq) osq)):=Lib.hid (HQ.out.trans ((below_regrown wr dq osq).mono HQ.out.size))
   generalize grow (redrawn wr dq) osq=wq at B9 ⊢
   go_wp2_with fail
   go_roundw
   case rel=>exact⟨i+1,by omega,by go_num,B9⟩
   case measure=>simp [intOf];omega
  ·have hltI:¬(i:Int)<(m:Int):=by omega
   go_wp2_with fail
   go_ret
   exact⟨rfl,HQ.out⟩
theorem Lw.appP {w0 W:World}{v:Value}{n:Nat}{xs:List Value}(ty:TypeId)(h:Lw 47 2 w0 W v n xs){x:Value}{l:List (Bs×Bs)}(hx:Rp W x l)(hl:(n+l.length)*32≤140737488355328):
  ∃v' w',(Builtin.append_ #[42,42] ty #[v,x]).run Tryz.prog W = .ok v' w'∧Lw 47 2 w0 w' v' (n+l.length) (xs++l.flatMap pairC)∧W.grownBy w' v.ownBlock:=by
 obtain⟨a,c,rfl,hcap,hc⟩:=hx
 cases a with
 |none=>
  have hl0:l=[]:=by
   cases l with
   |nil=>rfl
   |cons s l=>
    obtain⟨b,o,e,_⟩:=hc 0 (by simp)
    cases e
  subst hl0
  obtain⟨z,hi,hz⟩:=row42.i
  obtain⟨i0,hi,_,_,_⟩:=info_parts hi
  exact⟨v,W,run_append_noneC 0 42 ty 47 i0 2 row42.u hi v n c xs h.1,by simpa using h,⟨rfl,rfl,rfl,Nat.le_refl _,fun _ _ _=>rfl⟩⟩
 |some d=>
  have hfl:∀k:List (Bs×Bs),(k.flatMap pairC).length=k.length*2:=fun k=>by
   induction k with
   |nil=>rfl
   |cons p k ih=>rw [List.flatMap_cons,List.length_append,ih];simp [pairC];omega
  refine h.app row42 ty d l.length c (l.flatMap pairC) (hfl l) (fun j u hj=>?_) (fun u hu=>?_) (by unfold maxLen;omega) (by omega)
  ·have hjl:j<l.length*2:=by rw [← hfl];exact(List.getElem?_eq_some_iff.1 hj).1
   obtain⟨b,o,e,hcell⟩:=hc (j / 2) (by omega)
   cases e
   obtain⟨p0,p1⟩:=pairs_at l (j / 2) (by omega)
   rw [at_add]
   rcases Nat.mod_two_eq_zero_or_one j with hm | hm
   ·rw [show 2*(j / 2)=j by omega] at p0 hcell
    rw [p0] at hj
    cases hj
    exact hcell 0 _ rfl
   ·rw [show 2*(j / 2)+1=j by omega] at p1
    rw [p1] at hj
    cases hj
    have:=hcell 1 _ rfl
    rwa [show o+2*(j / 2)+1=o+j by omega] at this
  ·obtain⟨p,_,hu⟩:=List.mem_flatMap.1 hu
   simp only [pairC,List.mem_cons,List.not_mem_nil,or_false] at hu
   rcases hu with rfl | rfl<;>rfl
theorem wp_pairs {ops:Array Oper}{rest:List Oper}{o:Oper}{a:Act}{Q:Exit→Act→World→Prop}{w0 W:World}{n:Nat}(hgd:o.guard=none)(s x:Operand)(ho:o.op = .call {callee:= .builtin .append,args:=#[s,x],argTypes:=#[42,42]})
  (v u:Value) (xs:List Value) (l:List (Bs×Bs)) (hs:a.eval s=v) (hx:a.eval x=u) (hI:Lw 47 2 w0 W v n xs) (hu:Rp W u l) (hl:(n+l.length)*32≤140737488355328)
  (h:∀v' w',Lw 47 2 w0 w' v' (n+l.length) (xs++l.flatMap pairC)→W.grownBy w' v.ownBlock→wpList Tryz.prog ops Q rest (a.put o.dst v') w'):wpList Tryz.prog ops Q (o::rest) a W:=by
 obtain⟨v',w',hrun,h1,h2⟩:=hI.appP o.type hu hl
 exact Lib.wpList_append_run W hgd s x 42 42 ho _ _ hs hx v' w' hrun (h v' w' h1 h2)
def behindP:Bs×Bs:=([98,101,104,105,110,100],[])
theorem Rp.head {w:World}{a:Option Addr}{m c:Nat}{l k:List (Bs×Bs)}(h:Rp w (.slice a m c) (l++k)): Rp w (.slice a l.length c) l:=by
 obtain⟨a',c',e,hc,h⟩:=h
 cases e
 rw [List.length_append] at hc
 refine⟨a,c,rfl,by omega,fun i hi=>?_⟩
 obtain⟨q,o,e,h2⟩:=h i (by rw [List.length_append];omega)
 exact⟨q,o,e,by rwa [List.getElem_append_left hi] at h2⟩
set_option maxHeartbeats 16000000 in
theorem loads_walk {w:World}{v:Value}{rows:List (Bs×Bs)}(hv:Rp w v rows)(hlen:rows.length≤400000)(hF:∀p∈rows,p.1.length≤1048576∧p.2.length≤1048576)(hT:Tb w)(hM:Mx w)(hE:Er w): Calls Tryz.prog 4 #[v] w fun e w'=>e = .returned (.bool true)∧Below w.heap.size w w':=by
 have hF2:∀p∈rows,p.1.length≤2000000∧p.2.length≤2000000:=fun p hp=>by have:=hF p hp;omega
 have HTW:=Lib.hid (fun W (hb:Below w.heap.size w W)=>And.intro (hT.below hb) (And.intro (hM.below hb) (hE.below hb)))
 have HFX:=Lib.hid (fun W (hb:Below w.heap.size w W)=>fixed_any W (hT.below hb) (hM.below hb))
 have HDL:=Lib.hid (fun W (hb:Below w.heap.size w W)=>dload_any rows hF2 (by omega) W v (hv.below hb))
 have HLN:=Lib.hid (fun(h:loadN rows=none) W (hb:Below w.heap.size w W) u (hu:Rp W u rows)=>load_none rows h hF2 (by omega) W u hu (hT.below hb) (hM.below hb) (hE.below hb))
 have HLS:=Lib.hid (fun l x (h:loadN rows=some (l,x)) W (hb:Below w.heap.size w W) u (hu:Rp W u rows)=>load_any l x (loadN_some h).1 W u ((loadN_some h).2▸hu) (hT.below hb) (hM.below hb) (whole_rowOk (loadN_some h).1))
 have HSR:=Lib.hid (fun W u (h1:Rp W u rows) (h2:Rp W v rows)=>samerows_any rows (by omega) W u v h1 h2)
 have HV:=Lib.hid hv
 have HL:=Lib.hid hlen
 obtain⟨a,c,rfl,hc,hrows⟩:=hv
 obtain⟨N,hN⟩:∃N,N=rows.length:=⟨_,rfl⟩
 have HN:=Lib.hid hN
 rw [← hN] at hc hlen HV HDL HSR ⊢
 have HRP:=Lib.hid (fun W (hb:Below w.heap.size w W)=>HV.out.below hb)
 clear hrows hT hM hE hF hF2 hN
 go_enter Tryz.func4,Tryz.ntmps4
 go_wp2_with (at_builtin;first | (refine wp_pairs rfl _ _ rfl (.slice (some ⟨w.heap.size,0,none⟩) 0 0) (.slice a N c) [] rows rfl rfl (Lw.empty 47 2 (Below.refl _ _)) (HRP.out _ (by go_grown)) (by have:=HL.out;omega) ?_;intro v1 w1 hs1 hg1;simp only [Nat.zero_add,List.nil_append] at hs1;obtain⟨ya,yc,rfl⟩:=hs1.shape;have S1:=Lib.hid hs1;clear hs1 hg1) | (refine wp_one row42 rfl _ _ rfl (.slice ya rows.length yc) (rows.flatMap pairC) w1.heap.size 1 #[.string ⟨#[98,101,104,105,110,100]⟩,.string ⟨#[]⟩] rfl rfl (S1.out.down (by go_grown)) (Bk.new rfl) rfl (by simp [Value.oneCell']) (by have:=HL.out;omega) (by decide) ?_;intro v2 w2 hs2 hg2;obtain⟨yb,yd,rfl⟩:=hs2.shape;have S2:=Lib.hid hs2;have hle:(N:Int)≤(yd:Int):=(by have h1:=owns_cap hs2.1;have h2:=HN.out;omega);have hle1:(N:Int)+1≤(yd:Int):=(by have h1:=owns_cap hs2.1;have h2:=HN.out;omega);clear hs2 hg2))
 have hrb:Rp w2 (.slice yb (rows.length+1) yd) (rows++[behindP]):=Rp.of (B:=0) (rows:=rows++[behindP]) (by
  have h:=S2.out.1
  rw [List.flatMap_append]
  exact h) (by rw [List.length_append];rfl)
 have HRB:=Lib.hid hrb
 have HO2:Hid (Rp w2 (.slice yb N yd) rows):=Lib.hid (by rw [HN.out];exact hrb.head)
 have B2:Hid (Below w.heap.size w w2):=Lib.hid S2.out.2.1
 obtain⟨yb',yc',hye,hyc,hy⟩:=hrb
 rw [Value.slice.injEq] at hye
 obtain⟨e1,_,e3⟩:=hye
 subst e1 e3
 obtain⟨qb,ob,hyb,hyr⟩:=hy N (by rw [List.length_append,HN.out];exact Nat.lt_succ_self _)
 subst hyb
 have HK:Hid (∀W,Below w2.heap.size w2 W→W.cell? ⟨qb,ob+N*2,none⟩=some (.string ⟨#[98,101,104,105,110,100]⟩)):=Lib.hid (fun W hb=>by
  have h:=range_below hyr hb 0 _ rfl
  have e:(rows++[behindP])[N]'(by rw [List.length_append,HN.out];exact Nat.lt_succ_self _)=behindP:=by
   rw [List.getElem_append_right (by rw [HN.out];exact Nat.le_refl _)]
   simp [HN.out]
  rw [e] at h
  rw [show ob+N*2=ob+2*N+0 by omega]
  exact h)
 clear hyc hy hyr S2 S1
 cases hld:loadN rows with
 |none=>
  have HLN2:=Lib.hid (HLN.out hld w2 B2.out _ HO2.out)
  have HLD:=Lib.hid hld
  clear HLS HLN hld
  refine HLN2.out.mono ?_
  rintro e w3 ⟨rfl,hb3⟩
  dsimp only
  have B3:=Lib.hid (B2.out.trans (hb3.mono B2.out.size))
  have HO3:=Lib.hid (HO2.out.below hb3)
  have C3:=Lib.hid hb3
  clear hb3 HLN2 HO2 B2
  go_wp2_with fail
  refine(HDL.out w3 B3.out).mono ?_
  rintro e w4 (⟨_,rfl,hb4⟩ | ⟨l,x,f,rs,hl,_⟩)
  case inr=>rw [HLD.out] at hl;cases hl
  dsimp only
  have B4:=Lib.hid (B3.out.trans (hb4.mono B3.out.size))
  have HO4:=Lib.hid (HO3.out.below hb4)
  have C4:=Lib.hid (C3.out.trans (hb4.mono C3.out.size))
  have HS4:=Lib.hid (HSR.out w4 _ HO4.out (HRP.out w4 B4.out))
  clear hb4 HO3 B3 C3 HDL HSR
  go_wp2_with fail
  refine HS4.out.mono ?_
  rintro e w5 ⟨rfl,hb5⟩
  dsimp only
  have B5:=Lib.hid (B4.out.trans (hb5.mono B4.out.size))
  have k5:=HK.out w5 (C4.out.trans (hb5.mono C4.out.size))
  have HF5:=Lib.hid (HFX.out w5 B5.out)
  clear hb5 HO4 B4 C4 HS4
  go_wp2_with fail
  refine HF5.out.mono ?_
  rintro e w6 ⟨rfl,hb6⟩
  dsimp only
  have B6:=Lib.hid (B5.out.trans (hb6.mono B5.out.size))
  clear hb6 HF5 B5 k5
  go_wp2_with fail
  go_ret
  exact⟨rfl,B6.out⟩
 |some p=>
  obtain⟨l,x⟩:=p
  have HLS2:=Lib.hid (HLS.out l x hld w2 B2.out _ HO2.out)
  have HLD:=Lib.hid hld
  obtain⟨hwh,hrw⟩:=loadN_some hld
  have HWH:=Lib.hid hwh
  have HRW:=Lib.hid hrw
  clear HLS HLN hld hwh hrw
  unfold kpt at HLS2
  refine HLS2.out.mono ?_
  rintro e w3 ⟨f,ns,rfl,hns,hf3⟩
  dsimp only
  have hb3:=hf3.below
  have B3:=Lib.hid (B2.out.trans (hb3.mono B2.out.size))
  have HO3:=Lib.hid (HO2.out.below hb3)
  have C3:=Lib.hid hb3
  have F3:=Lib.hid hf3
  have HNS:=Lib.hid hns
  clear hb3 HLS2 HO2 B2 hf3 hns
  go_wp2_with fail
  refine(HDL.out w3 B3.out).mono ?_
  rintro e w4 (⟨hl,_⟩ | ⟨l2,x2,g,rs,hl,rfl,hrs,hx4,hb4⟩)
  case inl=>rw [HLD.out] at hl;cases hl
  rw [HLD.out] at hl
  cases hl
  dsimp only
  have B4:=Lib.hid (B3.out.trans (hb4.mono B3.out.size))
  have HO4:=Lib.hid (HO3.out.below hb4)
  have C4:=Lib.hid (C3.out.trans (hb4.mono C3.out.size))
  have F4:=Lib.hid (F3.out.down hb4)
  have X4:=Lib.hid hx4
  have HRS:=Lib.hid hrs
  have HS4:=Lib.hid (HSR.out w4 _ HO4.out (HRP.out w4 B4.out))
  clear hb4 HO3 B3 C3 HDL F3 hx4 hrs
  unfold kpt
  go_wp2_with fail
  refine HS4.out.mono ?_
  rintro e w5 ⟨rfl,hb5⟩
  dsimp only
  have B5:=Lib.hid (B4.out.trans (hb5.mono B4.out.size))
  have k5:=HK.out w5 (C4.out.trans (hb5.mono C4.out.size))
  have F5:=Lib.hid (F4.out.down hb5)
  have X5:=Lib.hid (X4.out.below hb5)
  clear hb5 HO4 B4 C4 HS4 F4 X4
  obtain⟨vr,kb,kn⟩:=X5.out
  obtain⟨ra,rc,rfl⟩:=kn.shape
  have KB:=Lib.hid kb
  have KN:=Lib.hid kn
  have HSM:Hid (∀n∈l,n.scope.length≤100000∧n.actors.length≤100000):=Lib.hid (fun n hn=>by
   have:=may_small (HWH.out.may n hn)
   exact⟨by have:=this.scope.1;omega,by have:=this.actors.1;omega⟩)
  have hl2:l.length≤1000000:=by have:=HWH.out.few;omega
  have HNL:Hid (ns.length≤1000000):=Lib.hid (by
   have h:=congrArg List.length HNS.out
   simp only [nodes,List.length_map] at h
   omega)
  have HSH:Hid (∀n∈nodes ns,Short n):=Lib.hid (by
   rw [HNS.out]
   exact fun n hn=>may_short (HWH.out.mid n hn).1 (HWH.out.may n hn))
  have HW:Hid (∀V,Below w5.heap.size w5 V→Below w.heap.size w V):=Lib.hid (fun V hV=>B5.out.trans (hV.mono B5.out.size))
  clear kb kn
  go_upto_region 8 with fail
  refine Pl.laR (fun b1 b6 b9 b11 b14 y1 y9 V=>Below w5.heap.size w5 V∧(b1=true→∃qs:List (Nd×Value×Value),qs.map (·.1)=l∧Nr V y1 qs)∧(b9=true→Rp V y9 rows)) f g N c rs.length rc a ra w5 (fun _ _ _ _ _ _ _ V h=>(KB.out.below h.1).cell 0) ?c1 ?c6 ?c9 ?c11 ?c14 ⟨by go_grown,(fun h=>by cases h),fun h=>by cases h⟩ ?_
  case c1=>
   intro y1 y9 V hV
   have hh:=nodes_call (F5.out.fr.below hV.1) HNL.out HSH.out
   unfold kpt at hh
   refine hh.mono ?_
   rintro _ w' ⟨v,qs,rfl,h1,h2,h3,_⟩
   exact⟨v,rfl,hV.1.trans (h3.mono hV.1.size),(fun _=>⟨qs,by rw [h1,HNS.out],h2⟩),fun h=>by cases h⟩
  case c6=>
   intro y1 y9 V hV
   obtain⟨qs,h1,h2⟩:=hV.2.1 rfl
   refine(samenodes_any HSM.out hl2 V y1 _ qs rs h1 HRS.out h2 (KN.out.below hV.1)).mono ?_
   rintro _ w' ⟨rfl,h3⟩
   exact⟨rfl,hV.1.trans (h3.mono hV.1.size),(fun _=>⟨qs,h1,h2.below h3⟩),fun h=>by cases h⟩
  case c9=>
   intro y1 y9 V hV
   have hh:=rows_call (F5.out.fr.below hV.1) HNL.out HWH.out.next.2 (by rw [HNS.out];exact whole_rowOk HWH.out) (HTW.out V (HW.out V hV.1)).1
   unfold kpt at hh
   refine hh.mono ?_
   rintro _ w' ⟨v,rfl,h4⟩
   obtain⟨qs,h1,h2⟩:=hV.2.1 rfl
   exact⟨v,rfl,hV.1.trans (h4.2.1.mono hV.1.size),(fun _=>⟨qs,h1,h2.below h4.2.1⟩),fun _=>by
    have h5:=h4.1
    rw [HNS.out] at h5
    rw [HRW.out]
    exact Rp.of (rows:=rowsP l x) h5 (by rw [← HNS.out];simp [rowsP,nodes])⟩
  case c11=>
   intro y1 y9 V hV
   obtain⟨qs,h1,h2⟩:=hV.2.1 rfl
   refine(samerows_any rows (by have:=HL.out;omega) V y9 _ (hV.2.2 rfl) (HRP.out V (HW.out V hV.1))).mono ?_
   rintro _ w' ⟨rfl,h3⟩
   exact⟨rfl,hV.1.trans (h3.mono hV.1.size),(fun _=>⟨qs,h1,h2.below h3⟩),fun _=>(hV.2.2 rfl).below h3⟩
  case c14=>
   intro y1 y9 V hV
   obtain⟨qs,h1,h2⟩:=hV.2.1 rfl
   refine(HFX.out V (HW.out V hV.1)).mono ?_
   rintro _ w' ⟨rfl,h3⟩
   exact⟨rfl,hV.1.trans (h3.mono hV.1.size),(fun _=>⟨qs,h1,h2.below h3⟩),fun _=>(hV.2.2 rfl).below h3⟩
  intro y1 y9 w7 hw7
  have B7:=Lib.hid (HW.out w7 hw7.1)
  clear hw7 KB KN HSM HNL HSH HW F5 X5
  dsimp only
  go_wp2_with fail
  go_ret
  exact⟨rfl,B7.out⟩
theorem iface_of_trod {P:Program}{w:World}{fuel:Nat}{t:TypeId}{ms:Array (String×TypeId)}{cs:List Value}{n:String}{d:DataW Unit}{p:List MemPlace}(hu:P.underlying t=some (.interface ms))(h:DataW.trod (fun _=>()) P w 0 (fun _=>true) false fuel t cs=some (.iface n d,p)): ∃u v,cs=[.iface u v]:=by
 cases fuel with
 |zero=>simp [DataW.trod] at h
 |succ fuel=>
  unfold DataW.trod at h
  rw [hu] at h
  cases cs with
  |nil=>simp at h
  |cons a l=>
   cases l with
   |cons b l=>cases a<;>simp at h
   |nil=>cases a<;>first | (simp at h;done) | exact⟨_,_,rfl⟩
theorem ev_of_reads {W:World}{g:Nat}{n nm:String}{d:DataW Unit}(hg:Tryz.prog.globalNamed n=some g)(ht:(Tryz.prog.globals[g]?).map (·.type)=some 142)(h:Lib.VarReads Tryz.prog W n (.iface nm d)): ∃ev,W.cell? ⟨g,0,none⟩=some ev∧(ev = .nilIface∨∃te pe,ev = .iface te pe):=by
 obtain⟨g',t',cs,fuel,p,hg',ht',hvar,hd⟩:=h
 obtain rfl:=Option.some.inj (hg.symm.trans hg')
 obtain rfl:=Option.some.inj (ht.symm.trans ht')
 obtain⟨u,v,e⟩:=iface_of_trod Tryz.underlying142 hd
 unfold World.var? at hvar
 rw [hg,Option.bind_some] at hvar
 split at hvar
 ·rename_i cs' t z hh
  cases hvar
  refine⟨.iface u v,?_,.inr ⟨u,v,rfl⟩⟩
  rw [blk_cell hh 0,← Array.getElem?_toList,e]
  rfl
 ·cases hvar
theorem er_of_laid {W:World}(hL:laidMetH Tryz.prog Rows.forestLoadsUptoRow.laid W): Er W:=by
 have hL : laidMetH Tryz.prog [("math/bits.deBruijn32tab", Rows.laid_math_bits_deBruijn32tab), ("math/bits.deBruijn64tab", Rows.laid_math_bits_deBruijn64tab), ("internal/strconv.uint64pow10", Rows.laid_internal_strconv_uint64pow10), ("strconv.ErrRange", Rows.laid_strconv_ErrRange), ("strconv.ErrSyntax", Rows.laid_strconv_ErrSyntax)] W := hL
 exact⟨ev_of_reads (by kernel_rfl) (by kernel_rfl) (Lib.laidMet.reads hL (.tail _ (.tail _ (.tail _ (.tail _ (.head _)))))),ev_of_reads (by kernel_rfl) (by kernel_rfl) (Lib.laidMet.reads hL (.tail _ (.tail _ (.tail _ (.head _)))))⟩
end Go.Proofs.YthogppennalobaaGreatDoor
namespace Go.Proofs.YthogppennalobaaGreatDoor.forestLoads
open Go.ChangeShapes Go.WideShapes Go.ChangeAt Go.ChangeMaps Go.RowKit Go.Deep
theorem contract (H:Type)(enc:TypeId×Value→H)(W:World)(base:Nat)(args:Array Value)(ds gs:List (DataW H))(before:List MemPlace)
  (hval:∀(j:Nat) t v,Tryz.f4.params[j]?=some t→args[j]?=some v→Value.okWide Tryz.prog W .any base t v)
  (hW:DataW.Whole enc Tryz.prog Tryz.f4.params.toList Rows.forestLoadsSpec.vars false W args.toList ds gs before)
  (hk:Rows.uptoSmall H (ds++gs)=true) (hT:Tb W) (hM:Mx W) (hE:Er W) :
  Calls Tryz.prog 4 args W fun e W'=>∃v,e = .returned v∧Rows.forestLoadsSpec.post enc Tryz.prog Tryz.f4 false true false false W args v W':=by
 have hW':=hW
 obtain⟨p,q,hA0,hV,rfl,hfz,hnd⟩:=hW
 have hA:DataW.TrodAll enc Tryz.prog W 0 (fun _=>true) true Tryz.f4.params.toList args.toList ds p:=hA0
 rw [Tryz.params4] at hA hval
 obtain⟨v0,vs0,d0,ds0,p0,q0,hargs,rfl,rfl,h0,r0⟩:=trodAll_cons hA
 obtain⟨rfl,rfl,rfl⟩:=trodAll_nil r0
 obtain rfl:args=#[v0]:=by cases args;simp_all
 obtain⟨rfl,rfl⟩:=trodVars_none hV
 clear hA0
 simp only [List.append_nil,List.nil_append] at hW'
 have hlt:=fun x hx=>hW'.lt x hx
 have hbd:=of_decide_eq_true hk
 simp only [Rows.uptoBulkAll,List.append_nil,List.cons_append,List.nil_append] at hbd
 obtain⟨l0,hP0,hn0,hz0⟩:=open_parts (hval 0 42 v0 rfl rfl) h0 (by omega)
 refine(loads_walk hP0 hn0 hz0 hT hM hE).mono fun e W' ⟨he,hg⟩=>?_
 subst he
 exact⟨_,rfl,post_below (pa:=p0) (pv:=[]) hW' (fun _ _ _=>trodAll_cons_mk (shut_bool Tryz.underlying4 _) trodAll_mk0)
  (fun sp hsp=>show DataW.TrodAll enc Tryz.prog W' 0 sp true [42] [v0] [d0] (p0) from by
   simpa using (trodAll_cons_mk (trod_keep read42 row42t h0 hg (fun x hx=>hlt x (by simp [hx])) sp (fun x hx=>hsp x (by simp [hx]))) trodAll_mk0))
  (fun _ _=>rfl) (by simp) hg (ok_one (by kernel_rfl) rfl (okWide_bool_mk Tryz.underlying4 _))⟩
theorem laid_met (os:Os)(args:Array Value): laidMetH Tryz.prog Rows.forestLoadsUptoRow.laid ((World.laidAll Tryz.prog os Rows.forestLoadsUptoRow.laid).forCall (fun _ _=>0) ⟨#[],args,[]⟩).memory:=by
 rw [MakeChecks.laidMetH_plain _ _ _ (by kernel_rfl)]
 exact laidMet_laidAll _ (by kernel_rfl) (by kernel_rfl)
theorem reads (os:Os){H:Type}(enc:TypeId×Value→H): ∃places,DataW.whole enc Tryz.prog ((World.laidAll Tryz.prog os Rows.forestLoadsUptoRow.laid).forCall (fun _ _=>0) ⟨#[],#[.slice none 0 0],[]⟩).memory Tryz.f4.params.toList Rows.forestLoadsSpec.vars false (#[.slice none 0 0]:Array Value).toList 8=some ([.nil],[],places):=
 ⟨[],by kernel_rfl⟩
theorem lifted (os:Os)(started:os.Started)(H:Type)(enc:TypeId×Value→H)(F:Stop.Interp):
  ReturnsInHanded {} Tryz.checked os 4 .any ((Rows.OpenSpec.upto Rows.forestLoadsSpec).preRow enc Tryz.prog Tryz.f4 Rows.forestLoadsUptoRow.domain false Rows.forestLoadsUptoRow.laid) (((Rows.OpenSpec.upto Rows.forestLoadsSpec).at F).post enc Tryz.prog Tryz.f4 false true false false):=by
 obtain⟨places,hx⟩:=reads os enc
 refine returnsInHanded_of_row (C:=Tryz.checked) (s:=Rows.OpenSpec.upto Rows.forestLoadsSpec) own started (by kernel_rfl) Tryz.func4
  (witness_row_atRef (enc:=enc) (C:=Tryz.checked) false (World.laidAll Tryz.prog os Rows.forestLoadsUptoRow.laid) #[.slice none 0 0] (World.laidAll_os _ _ _) (by kernel_rfl) (by kernel_rfl) (by kernel_rfl)
   (OpenSpec.preRow_of_cond 8 hx (by kernel_rfl) (fun k hk=>by cases hk;kernel_rfl) (by kernel_rfl) (laid_met os _))) ?_
 intro W base args ds gs before hval hW _ hcond _ hL hS _
 exact contract H enc W base args ds gs before hval hW (hcond _ rfl) (tb_of_laid hL) (mx_of_shaped hS) (er_of_laid hL)
theorem said:Rows.ForestLoadsUptoSaid:=
 OpenClaim.holds_of_cond 4 Tryz.f4 rfl rfl rfl rfl rfl rfl rfl ⟨rfl,rfl,rfl,rfl,rfl⟩ rfl rfl rfl rfl rfl (by kernel_rfl) Tryz.func4 (by kernel_rfl)
  (of_decide_eq_true (by kernel_rfl)) (by unfold Func.isWrapper;first | (rw [if_pos (by decide +kernel)];kernel_rfl) | (rw [if_neg (by decide +kernel)];exact⟨rfl,rfl⟩))
  (fun os started H enc _ F=>by rw [OpenClaim.pre_eq_preRow];exact lifted os started H enc F)
theorem plain (f : FuncId) (fn : Func) (hf : Tryz.pinned.checked.prog.funcNamed "seneschal/seneschallaw13.ForestLoads" = some f) (hfn : Tryz.pinned.checked.prog.funcs[f]? = some fn) :
  true=Tryz.pinned.checked.prog.looks []∧∀(j:Nat) t,fn.params[j]?=some t→Tryz.pinned.checked.prog.wantsStandIn t=false:=by
 obtain rfl : f = 4 := Option.some.inj ((show Tryz.prog.funcNamed "seneschal/seneschallaw13.ForestLoads" = some 4 by kernel_rfl).symm.trans hf) |>.symm
 obtain rfl:fn=Tryz.f4:=(Option.some.inj (Tryz.func4.symm.trans hfn)).symm
 refine⟨by kernel_rfl,fun j t ht=>?_⟩
 rw [Tryz.params4] at ht
 have h:=Array.mem_of_getElem? ht
 simp only [List.mem_toArray,List.mem_cons,List.not_mem_nil,or_false,or_self] at h
 subst h
 all_goals first | exact(show Tryz.prog.wantsStandIn 42=false by as_aux_lemma=>kernel_rfl)
theorem card:Rows.ForestLoadsUptoCardSaid:=
 Claim7.holds_tied_plain_at .later [] _ _ _ _ said (fun _ h=>by cases h) (by kernel_rfl) (fun _ h=>by cases h) forestLoadsUpto_row_tie rfl ⟨rfl,rfl⟩ (by kernel_rfl) rfl plain (by kernel_rfl)
end Go.Proofs.YthogppennalobaaGreatDoor.forestLoads
