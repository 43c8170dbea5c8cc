/- Nodes taken out of a row (DeleteFunc). Condition: at most a million. The drawn region of Prune that lays two numbers in a set. No condition. -/
import Derived.Lib.SliceRun
import Derived.Test.YthogppennalobaaGreatDoorZl08
set_option linter.unusedVariables false
set_option linter.unusedSimpArgs false
set_option maxRecDepth 100000
namespace Go.Proofs.YthogppennalobaaGreatDoor
open Go.RowKit Go.Sort Forest OwnR TxO
theorem only_setCells (b:Nat): ∀(vs:List Value) (o:Nat) (w:World),Only [b] w (w.setCells b o vs)
 |[],o,w=>Only.refl _ _
 |v::r,o,w=>((only_cell w b o v).trans (only_setCells b r (o+1) _) (fun x hx=> .inl hx))
theorem bk_setCells {t:TypeId}(b:Nat): ∀(vs:List Value) (o:Nat) (w:World) (cur:Array Value),Bk t w b cur→∃cur',Bk t (w.setCells b o vs) b cur'∧cur'.size=cur.size∧∀i,i<o→cur'[i]?=cur[i]?
 |[],o,w,cur,h=>⟨cur,h,rfl,fun _ _=>rfl⟩
 |v::r,o,w,cur,h=>by
  obtain⟨c2,h1,h2,h3⟩:=bk_setCells b r (o+1) _ _ (Bk.same (i:=o) (v:=v) h)
  refine⟨c2,h1,by rw [h2];simp,fun i hi=>?_⟩
  rw [h3 i (by omega),Array.getElem?_setIfInBounds,if_neg (by omega)]
def stay (K:List Int)(k:Nat×Nd): Bool:=K.contains (k.2.id:Int)
structure DelI (w wr:World)(ns:Ns)(K:List Int)(g:Nat)(cur:Array Value)(j:Nat): Prop where
 only:Only [g] w wr
 blk:∃(c2:Array Value) (y:Value) (G:List Value),Bk 72 wr g c2∧c2.toList=((ns.take j).filter (stay K)).map (fun k=>kpt k.1)++(y::G)++cur.toList.drop j∧((ns.take j).filter (stay K)).length+(G.length+1)=j
theorem DelI.here {w wr:World}{ns:Ns}{K:List Int}{g j:Nat}{cur:Array Value}(h:DelI w wr ns K g cur j)(hc:cur.toList.take ns.length=kps ns)(hj:j<ns.length): wr.cell? ⟨g,j,none⟩=some (kpt ns[j].1):=by
 obtain⟨c2,y,G,h1,h2,h3⟩:=h.blk
 rw [h1.cell j]
 have hl:(((ns.take j).filter (stay K)).map (fun k=>kpt k.1)++(y::G)).length=j:=by rw [List.length_append,List.length_map];exact h3
 have e:c2.toList[j]?=cur.toList[j]?:=by
  rw [h2,List.getElem?_append_right (by omega),hl,List.getElem?_drop]
  simp
 have e2:(cur.toList.take ns.length)[j]?=some (kpt ns[j].1):=by rw [hc];simp [kps,hj]
 rw [List.getElem?_take,if_pos hj] at e2
 rw [e2] at e
 simpa using e
set_option maxHeartbeats 16000000 in
theorem delete_any {w:World}{f:Nat}{ns:Ns}{nx:Int}(h:FR w f ns nx){a:Option Addr}{c:Nat}{x:Value}(hb:Bk 71 w f #[.slice a ns.length c,x])(hl:ns.length≤1000000)(q B:Nat)(K:List Int)(hq:Bk 100 w q #[.map (some B)])(hs:IsSet w B K):
  Calls Tryz.prog 71 #[.slice a ns.length c,.func (.func 72) #[] #[.pointer (some ⟨q,0,none⟩)]] w fun e w'=>e = .returned (.slice a (ns.filter (stay K)).length c)∧Only (Value.slice a ns.length c).ownBlock.toList w w'∧w'.ownsRow 0 72 1 (.slice a (ns.filter (stay K)).length c) (ns.filter (stay K)).length (kps (ns.filter (stay K))):=by
 have hrow:=(h.row hb).2
 have hcells:∀i (hi:i<ns.length),∃g,a=some ⟨g,0,none⟩∧w.cell? ⟨g,i,none⟩=some (kpt ns[i].1):=fun i hi=>owns_cell hrow (by rw [List.getElem?_map,List.getElem?_eq_getElem hi];rfl)
 have HX:=Lib.hid (index_del c hl hcells h.id0 q B K ⟨hq.cell 0,hs⟩)
 have H:=Lib.hid h
 have HQ:=Lib.hid (And.intro hq hs)
 have HR:=Lib.hid hrow
 clear hcells h hb hq hs
 cases hd:delP ns K with
 |none=>
  rw [hd] at HX
  have hall:ns.filter (stay K)=ns:=by
   rw [List.filter_eq_self]
   intro k hk
   have:=(List.findIdx?_eq_none_iff.1 hd) k hk
   unfold stay
   cases hc:K.contains (k.2.id:Int) with
   |true=>rfl
   |false=>rw [hc] at this;simp at this
  rw [hall]
  unfold posV at HX
  clear hd hall hrow
  go_enter Tryz.func71,Tryz.ntmps71
  go_wp2_with fail
  refine HX.out.mono ?_
  rintro e w1 ⟨rfl,hb⟩
  have HB:=Lib.hid hb
  clear hb HX
  go_wp2_with fail
  go_ret
  exact⟨rfl,(Only.of (L:=[]) HB.out).mono (fun x hx=>by simp at hx),owns_below HR.out HB.out⟩
 |some i=>
  rw [hd] at HX
  obtain⟨hi,hdi,hbe⟩:=List.findIdx?_eq_some_iff_getElem.1 hd
  unfold posV at HX
  rcases hrow.2 with ⟨hx,hn⟩ | ⟨g,cap,cur,hx,_,hcur,hnc,hcm,hsz,htk⟩
  ·omega
  cases hx
  rw [Nat.mul_one] at hsz htk
  have hfi:(ns.take i).filter (stay K)=ns.take i:=by
   rw [List.filter_eq_self]
   intro k hk
   obtain⟨p,hp,rfl⟩:=List.getElem_of_mem hk
   rw [List.length_take] at hp
   have:=hbe p (by omega)
   simp only [List.getElem_take]
   unfold stay
   simpa using this
  have hfn:stay K ns[i]=false:=by unfold stay;simpa using hdi
  have hf1:(ns.take (i+1)).filter (stay K)=ns.take i:=by
   rw [List.take_add_one,List.getElem?_eq_getElem hi,List.filter_append,hfi]
   show ns.take i++[ns[i]].filter (stay K)=_
   rw [List.filter_cons,hfn]
   simp
  have hcl:cur.toList.length=c:=by simpa using hsz
  have HI0:Hid (∀w1,Below w.heap.size w w1→DelI w w1 ns K g cur (i+1)):=Lib.hid fun w1 hb=>by
   refine⟨(Only.of (L:=[]) hb).mono (fun x hx=>by simp at hx),cur,kpt ns[i].1,[],(show Bk 72 w g cur from hcur).below hb,?_,?_⟩
   ·rw [hf1]
    have e1:(ns.take i).map (fun k=>kpt k.1)=cur.toList.take i:=by
     rw [← show(cur.toList.take ns.length).take i=cur.toList.take i by rw [List.take_take,Nat.min_eq_left (by omega)],htk]
     simp [List.map_take]
    have e2:cur.toList[i]?=some (kpt ns[i].1):=by
     have:(cur.toList.take ns.length)[i]?=some (kpt ns[i].1):=by rw [htk];simp [hi]
     rwa [List.getElem?_take,if_pos hi] at this
    rw [e1,List.append_assoc,show kpt ns[i].1::[]++cur.toList.drop (i+1)=cur.toList.drop i from ?_,List.take_append_drop]
    obtain⟨hlt,e3⟩:=List.getElem?_eq_some_iff.1 e2
    rw [List.drop_eq_getElem_cons hlt,e3];rfl
   ·rw [hf1,List.length_take,List.length_nil];omega
  have HC:=Lib.hid (show cur.toList.take ns.length=kps ns from htk)
  have HG:=Lib.hid (show Bk 72 w g cur from hcur)
  have HCN:=Lib.hid (And.intro hcl hnc)
  have HCM:=Lib.hid hcm
  have HLI:Hid (((ns.take (i+1)).filter (stay K)).length=i):=Lib.hid (by rw [hf1,List.length_take];omega)
  have hiI:((i:Int) == -1)=false:=by simp
  have hi2:=Lib.hid hi
  clear hd hdi hbe hfi hfn hf1 hcl hrow hcur htk hsz hcm hnc
  go_enter Tryz.func71,Tryz.ntmps71
  go_wp2_with fail
  refine HX.out.mono ?_
  rintro e w1 ⟨rfl,hb⟩
  have HI1:=Lib.hid (HI0.out w1 hb)
  clear hb HX HI0
  go_wp2_with fail
  go_loopw [5,6] (fun iv jv wr=>∃j:Nat,i+1≤j∧j≤ns.length∧jv = .int .i64 (j:Int)∧iv = .int .i64 ((((ns.take j).filter (stay K)).length:Nat):Int)∧Hid (DelI w wr ns K g cur j)) (fun _ jv _=>ns.length - (intOf jv).toNat)
  case atStart=>exact⟨i+1,Nat.le_refl _,by have:=hi2.out;omega,by go_num,by rw [HLI.out],HI1⟩
  case round=>
   clear HI1 HLI hi hiI
   obtain⟨j,hij,hj,rfl,rfl,HI⟩:=hrel
   by_cases hlt:j<ns.length
   ·have hltI:(j:Int)<(ns.length:Int):=by omega
    obtain⟨k,hk⟩:∃k,ns[j]=k:=⟨_,rfl⟩
    have hkm:k∈ns:=hk▸List.getElem_mem hlt
    have hcell:wr.cell? ⟨g,j,none⟩=some (.pointer (some ⟨k.1,0,none⟩)):=by rw [HI.out.here HC.out hlt,hk];rfl
    have hne:∀z cs (t:TypeId),Bk t w z cs→t≠72→z∉[g]:=fun z cs t hz ht hm=>bk_ne hz HG.out ht (List.mem_singleton.1 hm)
    have HDL:Hid (Calls Tryz.prog 72 #[.pointer (some ⟨k.1,0,none⟩),.pointer (some ⟨q,0,none⟩)] wr fun e w'=>e = .returned (.bool (!stay K k))∧Below wr.heap.size wr w'):=Lib.hid (by
     obtain⟨sv,av,KK,_⟩:=H.out.node k hkm
     refine del_any ((KK.only HI.out.only (hne _ _ _ KK (by decide))).cell 0) ((HQ.out.1.only HI.out.only (hne _ _ _ HQ.out.1 (by decide))).cell 0) (HQ.out.2.of (HI.out.only.block _ HQ.out.2.lt fun hm=>?_))
     obtain⟨es,clock,hbm,_⟩:=HQ.out.2
     rw [List.mem_singleton.1 hm,HG.out] at hbm
     cases hbm)
    have HT:Hid ((ns.take (j+1)).filter (stay K)=(ns.take j).filter (stay K)++(if stay K k then [k] else [])):=Lib.hid (by
     rw [List.take_add_one,List.getElem?_eq_getElem hlt,hk,List.filter_append]
     show _++[k].filter (stay K)=_
     rw [List.filter_cons]
     split<;>rfl)
    have HDR:Hid (cur.toList.drop j=kpt k.1::cur.toList.drop (j+1)):=Lib.hid (by
     have e2:cur.toList[j]?=some (kpt k.1):=by
      have:(cur.toList.take ns.length)[j]?=some (kpt k.1):=by rw [HC.out];simp [kps,hlt,hk]
      rwa [List.getElem?_take,if_pos hlt] at this
     obtain⟨hl2,e3⟩:=List.getElem?_eq_some_iff.1 e2
     rw [List.drop_eq_getElem_cons hl2,e3])
    have HF:Hid (((ns.take j).filter (stay K)).length<j):=Lib.hid (by
     obtain⟨c2,y,G,g1,g2,g3⟩:=HI.out.blk
     omega)
    have hfb:((ns.take j).filter (stay K)).length≤1000000:=by have:=HF.out;omega
    have hlt2:=Lib.hid hlt
    clear hk hkm hne hlt
    generalize hF:((ns.take j).filter (stay K)).length=m at *
    have HM:=Lib.hid hF
    clear hF
    cases hst:stay K k with
    |false=>
     rw [hst] at HDL HT
     clear hst
     go_wp2_with (go_at_call 72;refine HDL.out.mono ?_;rintro e w2 ⟨rfl,hb⟩;have HB2:=Lib.hid hb;clear hb)
     go_roundw
     case rel=>
      refine⟨j+1,by omega,by have:=hlt2.out;omega,by go_num,by rw [HT.out];simp [HM.out],Lib.hid ⟨HI.out.only.trans (Only.of (L:=[]) HB2.out) (fun x hx=>by simp at hx),?_⟩⟩
      obtain⟨c2,y,G,g1,g2,g3⟩:=HI.out.blk
      refine⟨c2,y,G++[kpt k.1],g1.below HB2.out,?_,?_⟩
      ·rw [HT.out,g2,HDR.out];simp
      ·rw [HT.out];simp;omega
     case measure=>have:=hlt2.out;simp [intOf];omega
    |true=>
     rw [hst] at HDL HT
     clear hst
     have HST:Hid (∀w2,Below wr.heap.size wr w2→(∃cv,w2.cell? ⟨g,m,none⟩=some cv)∧w2.frozen? ⟨g,m,none⟩=false):=Lib.hid fun w2 hb=>by
      obtain⟨c2,y,G,g1,g2,g3⟩:=HI.out.blk
      have g4:=g1.below hb
      refine⟨?_,g4.fro m⟩
      rw [g4.cell m]
      have:m<c2.toList.length:=by rw [g2];simp only [List.length_append,List.length_map,List.length_cons,HM.out];omega
      exact⟨_,Array.getElem?_eq_getElem (by simpa using this)⟩
     have hmI:(m:Int)<(ns.length:Int):=by have:=HF.out;omega
     go_wp2_with (go_at_call 72;refine HDL.out.mono ?_;rintro e w2 ⟨rfl,hb⟩;have HB2:=Lib.hid hb;obtain⟨⟨cv,hcv⟩,hfz⟩:=HST.out w2 hb;clear hb)
     go_roundw
     case rel=>
      refine⟨j+1,by omega,by have:=hlt2.out;omega,by go_num,by rw [HT.out];simp [HM.out],Lib.hid ⟨(HI.out.only.trans (Only.of (L:=[]) HB2.out) (fun x hx=>by simp at hx)).setCell _ (.inl (by simp)) _,?_⟩⟩
      obtain⟨c2,y,G,g1,g2,g3⟩:=HI.out.blk
      refine⟨c2.setIfInBounds m (kpt k.1),(G++[kpt k.1]).head (by simp),(G++[kpt k.1]).tail,Bk.same (i:=m) (v:=kpt k.1) (g1.below HB2.out),?_,?_⟩
      ·rw [HT.out,List.cons_head_tail,Array.toList_setIfInBounds,g2,HDR.out,List.append_assoc,List.set_append_right _ _ (by simp [HM.out])]
       simp [HM.out]
      ·rw [HT.out];simp;omega
     case measure=>have:=hlt2.out;simp [intOf];omega
   ·obtain rfl:j=ns.length:=by omega
    have hltI:¬(ns.length:Int)<(ns.length:Int):=by omega
    have HE:Hid (ns.take ns.length=ns):=Lib.hid (List.take_length)
    rw [HE.out]
    obtain⟨m,hm⟩:∃m,m=(ns.filter (stay K)).length:=⟨_,rfl⟩
    rw [← hm]
    have HM:=Lib.hid hm
    have HLT:Hid (m<ns.length):=Lib.hid (by
     obtain⟨c2,y,G,g1,g2,g3⟩:=HI.out.blk
     rw [HE.out] at g3
     omega)
    have hmI:(m:Int)≤(ns.length:Int):=by have:=HLT.out;omega
    have hmc:(m:Int)<(c:Int):=by have:=HLT.out;have:=HCN.out.2;omega
    have hcI:(ns.length:Int)≤(c:Int):=by have:=HCN.out.2;omega
    have hsub:((ns.length:Int) - (m:Int)).toNat=ns.length - m:=by omega
    have hsubc:((c:Int) - (m:Int)).toNat=c - m:=by omega
    have hcl:∀ty,(Builtin.clear_ #[69] ty #[.slice (some ⟨g,m,none⟩) (ns.length - m) (c - m)]).run Tryz.prog wr = .ok (.tuple #[]) (wr.setCells g m (List.replicate (ns.length - m) (.pointer none))):=fun ty=>by
     obtain⟨c2,y,G,g1,g2,g3⟩:=HI.out.blk
     have hsz:c2.size=c:=by
      have h1:c2.toList.length=c:=by
       rw [g2]
       have:=HCN.out.1
       simp [HE.out] at g3 ⊢
       rw [Array.length_toList] at this
       have:=HCN.out.2
       omega
      simpa using h1
     refine Lib.run_clear_slice wr 69 72 ty (.pointer none) row69.u (fun w=>by kernel_rfl) rfl rfl g m _ _ (by have:=HLT.out;omega) (fun t ht=>?_) (fun t ht=>g1.fro _)
     rw [g1.cell,Array.getElem?_eq_getElem (by have:=HCN.out.2;omega)];rfl
    clear hm
    go_wp2_with fail
    go_ret
    refine⟨by rw [← HM.out];rfl,(HI.out.only.trans (only_setCells g _ m wr) (fun x hx=> .inl hx)).mono (fun x hx=> .inl (by simpa [Value.ownBlock] using hx)),?_⟩
    rw [← HM.out]
    obtain⟨c2,y,G,g1,g2,g3⟩:=HI.out.blk
    obtain⟨c3,k1,k2,k3⟩:=bk_setCells g (List.replicate (ns.length - m) (.pointer none)) m wr c2 g1
    have hc2:c2.size=c:=by
     have h1:c2.toList.length=c:=by
      rw [g2]
      have h2:=HCN.out.1
      have h3:=HCN.out.2
      rw [HE.out] at g3
      simp only [HE.out,List.length_append,List.length_map,List.length_cons,List.length_drop]
      omega
     simpa using h1
    refine⟨by simp [kps,HM.out],.inr ⟨g,c,c3,rfl,Nat.zero_le _,k1,by omega,by have:=HCM.out;exact this,by rw [k2,hc2,Nat.mul_one],?_⟩⟩
    rw [Nat.mul_one]
    apply List.ext_getElem?
    intro p
    rw [List.getElem?_take]
    split
    ·rename_i hp
     rw [Array.getElem?_toList,k3 p hp,← Array.getElem?_toList,g2,HE.out,List.append_assoc,List.getElem?_append_left (by simp [← HM.out];exact hp)]
     rfl
    ·rename_i hp
     rw [List.getElem?_eq_none]
     simp [kps,← HM.out];omega
end Go.Proofs.YthogppennalobaaGreatDoor
namespace Go.Proofs.YthogppennalobaaGreatDoor.Pl
open Go.RowKit Go.Sort
theorem k_fa31_0 {Q:Exit→Act→World→Prop}{T:Array Value}{ds:List Deferred}{w:World}{ty:TypeId}{dst:Option Tmp}{s:Nat}{ps af g}{b:Nat}(e:T.getD s undef = .pointer (some ⟨b,0,none⟩)): Oper.wp Tryz.prog ⟨dst,.fieldAddr 31 (.tmp s) 0,ty,ps,af,g⟩ ⟨T,ds⟩ w (fun a' w''=>a'=Act.put ⟨T,ds⟩ dst (.pointer (some ⟨b,0,none⟩))∧w''=w) Q:=by
 go_simp
theorem k_fa75_0 {Q:Exit→Act→World→Prop}{T:Array Value}{ds:List Deferred}{w:World}{ty:TypeId}{dst:Option Tmp}{s:Nat}{ps af g}{b:Nat}(e:T.getD s undef = .pointer (some ⟨b,0,none⟩)): Oper.wp Tryz.prog ⟨dst,.fieldAddr 75 (.tmp s) 0,ty,ps,af,g⟩ ⟨T,ds⟩ w (fun a' w''=>a'=Act.put ⟨T,ds⟩ dst (.pointer (some ⟨b,0,none⟩))∧w''=w) Q:=by
 go_simp
theorem k_ld100 {Q:Exit→Act→World→Prop}{T:Array Value}{ds:List Deferred}{w:World}{ty:TypeId}{dst:Option Tmp}{s:Nat}{ps af g}{b o:Nat}{v:Value}(h:w.cell? ⟨b,o,none⟩=some v)(e:T.getD s undef = .pointer (some ⟨b,o,none⟩)): Oper.wp Tryz.prog ⟨dst,.load 100 (.tmp s),ty,ps,af,g⟩ ⟨T,ds⟩ w (fun a' w''=>a'=Act.put ⟨T,ds⟩ dst v∧w''=w) Q:=by
 go_simp
theorem k_ld3 {Q:Exit→Act→World→Prop}{T:Array Value}{ds:List Deferred}{w:World}{ty:TypeId}{dst:Option Tmp}{s:Nat}{ps af g}{b o:Nat}{v:Value}(h:w.cell? ⟨b,o,none⟩=some v)(e:T.getD s undef = .pointer (some ⟨b,o,none⟩)): Oper.wp Tryz.prog ⟨dst,.load 3 (.tmp s),ty,ps,af,g⟩ ⟨T,ds⟩ w (fun a' w''=>a'=Act.put ⟨T,ds⟩ dst v∧w''=w) Q:=by
 go_simp
noncomputable def entRO:Array Oper:=(Tryz.f31.body.bind fun c=>findR c 5).getD #[]
def entR_m:List (List Nat):=[[],[],[],[],[],[],[],[],[],[],[],[],[],[],[],[14],[14,15],[14,15,16],[14,15,16,17],[14,15,16,17,18]]
set_option maxHeartbeats 16000000 in
theorem entR (PW:Bool→Bool→Bool→Bool→Bool→Bool→Value→Value→Value→Value→World→Prop)(vb kb B:Nat)(x p:Int)(w:World)  (cv:∀(b14 b15 b16 b17 b18 b19:Bool) (y14 y15 y17 y18:Value) (w:World),PW b14 b15 b16 b17 b18 b19 y14 y15 y17 y18 w→w.cell? ⟨vb,0,none⟩=some (.map (some B)))(ci:∀(b14 b15 b16 b17 b18 b19:Bool) (y14 y15 y17 y18:Value) (w:World),PW b14 b15 b16 b17 b18 b19 y14 y15 y17 y18 w→w.cell? ⟨kb,0,none⟩=some (.int .i64 x))(cp:∀(b14 b15 b16 b17 b18 b19:Bool) (y14 y15 y17 y18:Value) (w:World),PW b14 b15 b16 b17 b18 b19 y14 y15 y17 y18 w→w.cell? ⟨kb,2,none⟩=some (.int .i64 p))(cl14:∀(y14 y15 y17 y18:Value) (w:World),PW false false false false false false y14 y15 y17 y18 w→∃v w',(Instr.mapEntry 100 (.map (some B)) (.int .i64 x)).run Tryz.prog w = .ok v w'∧PW true false false false false false v y15 y17 y18 w')(cl15:∀(y14 y15 y17 y18:Value) (w:World),PW true false false false false false y14 y15 y17 y18 w→∃x z,y14 = .tuple #[x,z]∧PW true true false false false false y14 z y17 y18 w)(cl16:∀(y14 y15 y17 y18:Value) (w:World),PW true true false false false false y14 y15 y17 y18 w→∃w',(Instr.entryStore 100 (.map (some B)) y15 (.agg #[])).run Tryz.prog w = .ok () w'∧PW true true true false false false y14 y15 y17 y18 w')(cl17:∀(y14 y15 y17 y18:Value) (w:World),PW true true true false false false y14 y15 y17 y18 w→∃v w',(Instr.mapEntry 100 (.map (some B)) (.int .i64 p)).run Tryz.prog w = .ok v w'∧PW true true true true false false y14 y15 v y18 w')(cl18:∀(y14 y15 y17 y18:Value) (w:World),PW true true true true false false y14 y15 y17 y18 w→∃x z,y17 = .tuple #[x,z]∧PW true true true true true false y14 y15 y17 z w)(cl19:∀(y14 y15 y17 y18:Value) (w:World),PW true true true true true false y14 y15 y17 y18 w→∃w',(Instr.entryStore 100 (.map (some B)) y18 (.agg #[])).run Tryz.prog w = .ok () w'∧PW true true true true true true y14 y15 y17 y18 w'){t0 t1 t2 t3 t4 t6 t8 t9 t10 t11 t12 t13 t14 t15 t16 t17 t18 t19 t20 t21 t22 t23 t24 t25 t26 t27 t28 t29 t30 t31 t32 t33 t34 t35 t36 t37 t38 t39 t40 t41 t42 t43 t44 t45 t46 t47 t48 t49 t50 t51 t52 t53 t54 t55 t56 t57 t58 t59 t60 t61 t62 t63 t64 t65 t66 t67:Value}(w0:PW false false false false false false t43 t44 t45 t46 w.drew){ds:List Deferred}{Q:Exit→Act→World→Prop}(hQO:∀a w,¬Q .outgrown a w){rr mm:Nat}
  (h:∀(y14 y15 y17 y18:Value) (w1:World),PW true true true true true true y14 y15 y17 y18 w1→Q .normal {tmps:=#[t0,t1,t2,t3,t4,.pointer (some ⟨vb,0,none⟩),t6,.pointer (some ⟨kb,0,none⟩),t8,t9,t10,t11,t12,t13,t14,t15,t16,t17,t18,t19,t20,t21,t22,t23,t24,t25,t26,t27,t28,.map (some B),.pointer (some ⟨kb,0,none⟩),.pointer (some ⟨kb,0,none⟩),.pointer (some ⟨kb,0,none⟩),.pointer (some ⟨kb,0,none⟩),.int .i64 x,.map (some B),.pointer (some ⟨kb,0,none⟩),.pointer (some ⟨kb,0,none⟩),.pointer (some ⟨kb,0,none⟩),.pointer (some ⟨kb,2,none⟩),.int .i64 p,.agg #[],.agg #[],y14,y15,y17,y18,t47,t48,t49,t50,t51,t52,t53,t54,t55,t56,t57,t58,t59,t60,t61,t62,t63,t64,t65,t66,t67],defers:=ds} w1) :
  (Code.region 5 entRO true).wpIn (Fence.wide.inRound rr) mm Tryz.prog Q {tmps:=#[t0,t1,t2,t3,t4,.pointer (some ⟨vb,0,none⟩),t6,.pointer (some ⟨kb,0,none⟩),t8,t9,t10,t11,t12,t13,t14,t15,t16,t17,t18,t19,t20,t21,t22,t23,t24,t25,t26,t27,t28,t29,t30,t31,t32,t33,t34,t35,t36,t37,t38,t39,t40,t41,t42,t43,t44,t45,t46,t47,t48,t49,t50,t51,t52,t53,t54,t55,t56,t57,t58,t59,t60,t61,t62,t63,t64,t65,t66,t67],defers:=ds} w:=by
 have hsz:entRO.size=20:=by kernel_rfl
 generalize hT:List.toArray _=T0
 have hs:T0.size=68:=by subst hT;rfl
 have g5:T0.getD 5 undef = .pointer (some ⟨vb,0,none⟩):=by subst hT;rfl
 have g7:T0.getD 7 undef = .pointer (some ⟨kb,0,none⟩):=by subst hT;rfl
 obtain⟨W,hV⟩:∃W:List ((Nat×(Value→Value)) ⊕ Value),W=[.inr (.map (some B)),.inr (.pointer (some ⟨kb,0,none⟩)),.inr (.pointer (some ⟨kb,0,none⟩)),.inr (.pointer (some ⟨kb,0,none⟩)),.inr (.pointer (some ⟨kb,0,none⟩)),.inr (.int .i64 x),.inr (.map (some B)),.inr (.pointer (some ⟨kb,0,none⟩)),.inr (.pointer (some ⟨kb,0,none⟩)),.inr (.pointer (some ⟨kb,0,none⟩)),.inr (.pointer (some ⟨kb,2,none⟩)),.inr (.int .i64 p),.inr (.agg #[]),.inr (.agg #[]),.inl (14,id),.inl (15,id),.inr undef,.inl (17,id),.inl (18,id),.inr undef]:=⟨_,rfl⟩
 refine wpIn_plan (by kernel_rfl) (by kernel_rfl) hQO T0 ds [14,15,16,17,18,19] entR_m (mkV W) (fun dx yx wx=>PW (dx 14) (dx 15) (dx 16) (dx 17) (dx 18) (dx 19) (yx 14) (yx 15) (yx 17) (yx 18) wx) w (by rw [hs];kernel_rfl) (by kernel_rfl) (by kernel_rfl) (by rw [hsz];decide) (fun cx hc ix hne ha yx vx=>mkV_fix (by rw [hV];kernel_rfl) hne ha yx vx) (?key) (fun cx hc ox ho dx yx Tx wx hd hdb hda hK hW=>?_) ⟨fun k=>if k=14 then t43 else if k=15 then t44 else if k=17 then t45 else if k=18 then t46 else undef,w0⟩ (fun dx yx wx hd hW=>?_)
 case key=>
  rw [hsz]
  refine all_step (all_step (all_step (all_step (all_step (all_step (all_step (all_step (all_step (all_step (all_step (all_step (all_step (all_step (all_step (all_step (all_step (all_step (all_step (all_step all_zero ?_) ?_) ?_) ?_) ?_) ?_) ?_) ?_) ?_) ?_) ?_) ?_) ?_) ?_) ?_) ?_) ?_) ?_) ?_) ?_
  all_goals
   intro ox ho hic dx yx Tx wx hdb hK hW
   replace hdb:=Lib.hid hdb
  ·exact pl0 29 5 100 ho hK (by kernel_rfl) (by kernel_rfl) g5 (by subst hV;rfl) fun ps af e=>k_ld100 (cv _ _ _ _ _ _ _ _ _ _ _ hW) e
  ·exact pl0 30 7 72 ho hK (by kernel_rfl) (by kernel_rfl) g7 (by subst hV;rfl) fun ps af e=>k_mv e
  ·exact pl1 31 30 1 0 ho hK (by kernel_rfl) (by kernel_rfl) (by subst hV;rfl) (by subst hV;rfl) fun ps af e=>k_nc e
  ·exact pl1 32 31 2 0 ho hK (by kernel_rfl) (by kernel_rfl) (by subst hV;rfl) (by subst hV;rfl) fun ps af e=>k_fa75_0 e
  ·exact pl1 33 32 3 0 ho hK (by kernel_rfl) (by kernel_rfl) (by subst hV;rfl) (by subst hV;rfl) fun ps af e=>k_fa31_0 e
  ·exact pl1 34 33 4 3 ho hK (by kernel_rfl) (by kernel_rfl) (by subst hV;rfl) (by subst hV;rfl) fun ps af e=>k_ld3 (ci _ _ _ _ _ _ _ _ _ _ _ hW) e
  ·exact pl0 35 5 100 ho hK (by kernel_rfl) (by kernel_rfl) g5 (by subst hV;rfl) fun ps af e=>k_ld100 (cv _ _ _ _ _ _ _ _ _ _ _ hW) e
  ·exact pl0 36 7 72 ho hK (by kernel_rfl) (by kernel_rfl) g7 (by subst hV;rfl) fun ps af e=>k_mv e
  ·exact pl1 37 36 7 0 ho hK (by kernel_rfl) (by kernel_rfl) (by subst hV;rfl) (by subst hV;rfl) fun ps af e=>k_nc e
  ·exact pl1 38 37 8 0 ho hK (by kernel_rfl) (by kernel_rfl) (by subst hV;rfl) (by subst hV;rfl) fun ps af e=>k_fa75_0 e
  ·exact pl1 39 38 9 0 ho hK (by kernel_rfl) (by kernel_rfl) (by subst hV;rfl) (by subst hV;rfl) fun ps af e=>k_fa31_2 e
  ·exact pl1 40 39 10 3 ho hK (by kernel_rfl) (by kernel_rfl) (by subst hV;rfl) (by subst hV;rfl) fun ps af e=>k_ld3 (cp _ _ _ _ _ _ _ _ _ _ _ hW) e
  ·obtain⟨ps,af,rfl⟩:=core (some 41) (.build 105 #[]) 105 none ho (by kernel_rfl)
   exact wpOp_plain ho rfl (by subst hV;go_simp;try rfl)
  ·obtain⟨ps,af,rfl⟩:=core (some 42) (.build 105 #[]) 105 none ho (by kernel_rfl)
   exact wpOp_plain ho rfl (by subst hV;go_simp;try rfl)
  ·exact absurd (by decide) hic
  ·exact absurd (by decide) hic
  ·exact absurd (by decide) hic
  ·exact absurd (by decide) hic
  ·exact absurd (by decide) hic
  ·exact absurd (by decide) hic
 ·have hcase:cx=14∨cx=15∨cx=16∨cx=17∨cx=18∨cx=19:=by simpa using hc
  rcases hcase with rfl | rfl | rfl | rfl | rfl | rfl
  ·obtain⟨ps,af,rfl⟩:=core (some 43) (.mapEntry 100 (.tmp 29) (.tmp 34)) 0 none ho (by kernel_rfl)
   have e29:Tx.getD 29 undef = .map (some B):=hK.is 0 ho (by kernel_rfl) (by subst hV;rfl)
   have e34:Tx.getD 34 undef = .int .i64 x:=hK.is 5 ho (by kernel_rfl) (by subst hV;rfl)
   have hW1:PW (dx 14) (dx 15) (dx 16) (dx 17) (dx 18) (dx 19) (yx 14) (yx 15) (yx 17) (yx 18) wx:=hW
   have f15:=hda 15 (by decide) (by kernel_rfl)
   have f16:=hda 16 (by decide) (by kernel_rfl)
   have f17:=hda 17 (by decide) (by kernel_rfl)
   have f18:=hda 18 (by decide) (by kernel_rfl)
   have f19:=hda 19 (by decide) (by kernel_rfl)
   clear hdb hda
   rw [hd,f15,f16,f17,f18,f19] at hW1
   replace f15:=Lib.hid f15
   replace f16:=Lib.hid f16
   replace f17:=Lib.hid f17
   replace f18:=Lib.hid f18
   replace f19:=Lib.hid f19
   clear hd hW hc
   obtain⟨vx,w2,hrun,hW2⟩:=cl14 _ _ _ _ _ hW1
   subst hV
   refine wpOp_plain ho rfl (op_entry 100 _ _ rfl _ _ vx w2 e29 e34 hrun ⟨vx,rfl,?_⟩)
   simpa [updB,upd,f15.out,f16.out,f17.out,f18.out,f19.out] using hW2
  ·obtain⟨ps,af,rfl⟩:=core (some 44) (.extract (.tmp 43) 1) 3 none ho (by kernel_rfl)
   have e43:Tx.getD 43 undef=yx 14:=hK.is 14 ho (by kernel_rfl) (by subst hV;rfl)
   have hW1:PW (dx 14) (dx 15) (dx 16) (dx 17) (dx 18) (dx 19) (yx 14) (yx 15) (yx 17) (yx 18) wx:=hW
   have f14:=hdb 14 (by decide) (by kernel_rfl)
   have f16:=hda 16 (by decide) (by kernel_rfl)
   have f17:=hda 17 (by decide) (by kernel_rfl)
   have f18:=hda 18 (by decide) (by kernel_rfl)
   have f19:=hda 19 (by decide) (by kernel_rfl)
   clear hdb hda
   rw [hd,f14,f16,f17,f18,f19] at hW1
   replace f14:=Lib.hid f14
   replace f16:=Lib.hid f16
   replace f17:=Lib.hid f17
   replace f18:=Lib.hid f18
   replace f19:=Lib.hid f19
   clear hd hW hc
   obtain⟨xv,zv,ey,hW2⟩:=cl15 _ _ _ _ _ hW1
   rw [ey] at e43
   subst hV
   refine wpOp_plain ho rfl ?_
   go_simp
   refine⟨zv,rfl,?_⟩
   simpa [updB,upd,f14.out,f16.out,f17.out,f18.out,f19.out] using hW2
  ·obtain⟨ps,af,rfl⟩:=core none (.entryStore 100 (.tmp 29) (.tmp 44) (.tmp 41)) 0 none ho (by kernel_rfl)
   have e29:Tx.getD 29 undef = .map (some B):=hK.is 0 ho (by kernel_rfl) (by subst hV;rfl)
   have e44:Tx.getD 44 undef=yx 15:=hK.is 15 ho (by kernel_rfl) (by subst hV;rfl)
   have e41:Tx.getD 41 undef = .agg #[]:=hK.is 12 ho (by kernel_rfl) (by subst hV;rfl)
   have hW1:PW (dx 14) (dx 15) (dx 16) (dx 17) (dx 18) (dx 19) (yx 14) (yx 15) (yx 17) (yx 18) wx:=hW
   have f14:=hdb 14 (by decide) (by kernel_rfl)
   have f15:=hdb 15 (by decide) (by kernel_rfl)
   have f17:=hda 17 (by decide) (by kernel_rfl)
   have f18:=hda 18 (by decide) (by kernel_rfl)
   have f19:=hda 19 (by decide) (by kernel_rfl)
   clear hdb hda
   rw [hd,f14,f15,f17,f18,f19] at hW1
   replace f14:=Lib.hid f14
   replace f15:=Lib.hid f15
   replace f17:=Lib.hid f17
   replace f18:=Lib.hid f18
   replace f19:=Lib.hid f19
   clear hd hW hc
   obtain⟨w2,hrun,hW2⟩:=cl16 _ _ _ _ _ hW1
   subst hV
   refine wpOp_plain ho rfl (op_estore 100 _ _ _ rfl _ _ _ w2 e29 e44 e41 hrun ?_)
   first | refine⟨undef,rfl,?_⟩ | refine⟨⟨undef,rfl⟩,?_⟩ | skip
   simpa [updB,upd,f14.out,f15.out,f17.out,f18.out,f19.out] using hW2
  ·obtain⟨ps,af,rfl⟩:=core (some 45) (.mapEntry 100 (.tmp 35) (.tmp 40)) 0 none ho (by kernel_rfl)
   have e35:Tx.getD 35 undef = .map (some B):=hK.is 6 ho (by kernel_rfl) (by subst hV;rfl)
   have e40:Tx.getD 40 undef = .int .i64 p:=hK.is 11 ho (by kernel_rfl) (by subst hV;rfl)
   have hW1:PW (dx 14) (dx 15) (dx 16) (dx 17) (dx 18) (dx 19) (yx 14) (yx 15) (yx 17) (yx 18) wx:=hW
   have f14:=hdb 14 (by decide) (by kernel_rfl)
   have f15:=hdb 15 (by decide) (by kernel_rfl)
   have f16:=hdb 16 (by decide) (by kernel_rfl)
   have f18:=hda 18 (by decide) (by kernel_rfl)
   have f19:=hda 19 (by decide) (by kernel_rfl)
   clear hdb hda
   rw [hd,f14,f15,f16,f18,f19] at hW1
   replace f14:=Lib.hid f14
   replace f15:=Lib.hid f15
   replace f16:=Lib.hid f16
   replace f18:=Lib.hid f18
   replace f19:=Lib.hid f19
   clear hd hW hc
   obtain⟨vx,w2,hrun,hW2⟩:=cl17 _ _ _ _ _ hW1
   subst hV
   refine wpOp_plain ho rfl (op_entry 100 _ _ rfl _ _ vx w2 e35 e40 hrun ⟨vx,rfl,?_⟩)
   simpa [updB,upd,f14.out,f15.out,f16.out,f18.out,f19.out] using hW2
  ·obtain⟨ps,af,rfl⟩:=core (some 46) (.extract (.tmp 45) 1) 3 none ho (by kernel_rfl)
   have e45:Tx.getD 45 undef=yx 17:=hK.is 17 ho (by kernel_rfl) (by subst hV;rfl)
   have hW1:PW (dx 14) (dx 15) (dx 16) (dx 17) (dx 18) (dx 19) (yx 14) (yx 15) (yx 17) (yx 18) wx:=hW
   have f14:=hdb 14 (by decide) (by kernel_rfl)
   have f15:=hdb 15 (by decide) (by kernel_rfl)
   have f16:=hdb 16 (by decide) (by kernel_rfl)
   have f17:=hdb 17 (by decide) (by kernel_rfl)
   have f19:=hda 19 (by decide) (by kernel_rfl)
   clear hdb hda
   rw [hd,f14,f15,f16,f17,f19] at hW1
   replace f14:=Lib.hid f14
   replace f15:=Lib.hid f15
   replace f16:=Lib.hid f16
   replace f17:=Lib.hid f17
   replace f19:=Lib.hid f19
   clear hd hW hc
   obtain⟨xv,zv,ey,hW2⟩:=cl18 _ _ _ _ _ hW1
   rw [ey] at e45
   subst hV
   refine wpOp_plain ho rfl ?_
   go_simp
   refine⟨zv,rfl,?_⟩
   simpa [updB,upd,f14.out,f15.out,f16.out,f17.out,f19.out] using hW2
  ·obtain⟨ps,af,rfl⟩:=core none (.entryStore 100 (.tmp 35) (.tmp 46) (.tmp 42)) 0 none ho (by kernel_rfl)
   have e35:Tx.getD 35 undef = .map (some B):=hK.is 6 ho (by kernel_rfl) (by subst hV;rfl)
   have e46:Tx.getD 46 undef=yx 18:=hK.is 18 ho (by kernel_rfl) (by subst hV;rfl)
   have e42:Tx.getD 42 undef = .agg #[]:=hK.is 13 ho (by kernel_rfl) (by subst hV;rfl)
   have hW1:PW (dx 14) (dx 15) (dx 16) (dx 17) (dx 18) (dx 19) (yx 14) (yx 15) (yx 17) (yx 18) wx:=hW
   have f14:=hdb 14 (by decide) (by kernel_rfl)
   have f15:=hdb 15 (by decide) (by kernel_rfl)
   have f16:=hdb 16 (by decide) (by kernel_rfl)
   have f17:=hdb 17 (by decide) (by kernel_rfl)
   have f18:=hdb 18 (by decide) (by kernel_rfl)
   clear hdb hda
   rw [hd,f14,f15,f16,f17,f18] at hW1
   replace f14:=Lib.hid f14
   replace f15:=Lib.hid f15
   replace f16:=Lib.hid f16
   replace f17:=Lib.hid f17
   replace f18:=Lib.hid f18
   clear hd hW hc
   obtain⟨w2,hrun,hW2⟩:=cl19 _ _ _ _ _ hW1
   subst hV
   refine wpOp_plain ho rfl (op_estore 100 _ _ _ rfl _ _ _ w2 e35 e46 e42 hrun ?_)
   first | refine⟨undef,rfl,?_⟩ | refine⟨⟨undef,rfl⟩,?_⟩ | skip
   simpa [updB,upd,f14.out,f15.out,f16.out,f17.out,f18.out] using hW2
 ·have hW1:PW (dx 14) (dx 15) (dx 16) (dx 17) (dx 18) (dx 19) (yx 14) (yx 15) (yx 17) (yx 18) wx:=hW
  rw [hd 14 (by decide),hd 15 (by decide),hd 16 (by decide),hd 17 (by decide),hd 18 (by decide),hd 19 (by decide)] at hW1
  have hQ:=h _ _ _ _ _ hW1
  rw [hsz]
  subst hV hT
  refine cast (congrArg (fun Tx=>Q .normal ⟨Tx,ds⟩ wx) ?_) hQ
  kernel_rfl
end Go.Proofs.YthogppennalobaaGreatDoor.Pl
