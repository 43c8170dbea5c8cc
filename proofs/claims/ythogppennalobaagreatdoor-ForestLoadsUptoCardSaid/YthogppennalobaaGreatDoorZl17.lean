/- The reader of a row The reader of a row The reader of a row Nodes -/
import Derived.Deep.MidRow
import Derived.Test.YthogppennalobaaGreatDoorZl12
import Derived.Test.YthogppennalobaaGreatDoorZl16
import Derived.Test.YthogppennalobaaGreatDoorZl07
import Derived.Test.YthogppennalobaaGreatDoorZl08
import Derived.Test.YthogppennalobaaGreatDoorZl15
set_option linter.unusedVariables false
set_option linter.unusedSimpArgs false
set_option maxRecDepth 100000
namespace Go.Proofs.YthogppennalobaaGreatDoor
open Go.RowKit Go.Sort Forest OwnR TxO Pl
theorem wpQuiet_load_rowG {P:Program}{ops:Array Oper}{C:World→Prop}{Q:Act→Prop}{a:Act}{o:Oper}{rest:List Oper}(hw:Region.wanted o (yielded ops a.tmps)=true)(ty:TypeId)(x:Operand)(ho:o.op = .load ty x)
  (g:Nat) (hx:a.eval x = .pointer (some ⟨g,0,none⟩)) (t:TypeId) (cs:Array Value) (fr:Nat×Nat) (d:TypeDesc) (hg:∀w,C w→w.heap[g]?=some (.cells cs t fr))
  (hu:P.underlying ty=some d) (hd:(match d with | .struct _ | .array _ _=>true | _=>false)=true) (hi:(P.info? ty).map (·.size)=some cs.size)
  (h:wpQuiet P ops C Q rest (a.put o.dst (.agg cs))):wpQuiet P ops C Q (o::rest) a:=
 wpQuiet_step fun K hK=>by
  rw [if_pos hw]
  refine⟨.agg cs,fun w hw=>?_,hK _ h⟩
  unfold Oper.quietAt
  rw [exec_load_row ty x ho g hx t cs fr d (hg w hw) hu hd hi]
  exact⟨rfl,rfl⟩
def Rp (w:World)(v:Value)(rows:List (Bs×Bs)): Prop:=∃a c,v = .slice a rows.length c∧rows.length≤c∧∀i (h:i<rows.length),∃q o,a=some ⟨q,o,none⟩∧w.rangeAt q (o+2*i) [txt rows[i].1,txt rows[i].2]
theorem range_below {w w':World}{q o:Nat}{cs:List Value}(h:w.rangeAt q o cs)(hb:Below w.heap.size w w'): w'.rangeAt q o cs:=fun j v hv=>cell_below hb (h j v hv)
theorem Rp.below {w w':World}{v:Value}{rows:List (Bs×Bs)}(h:Rp w v rows)(hb:Below w.heap.size w w'): Rp w' v rows:=by
 obtain⟨a,c,h1,h2,h3⟩:=h
 exact⟨a,c,h1,h2,fun i hi=>by obtain⟨q,o,h4,h5⟩:=h3 i hi;exact⟨q,o,h4,range_below h5 hb⟩⟩
theorem pairs_at:∀(rows:List (Bs×Bs)) (i:Nat) (h:i<rows.length),(rows.flatMap pairC)[2*i]?=some (txt rows[i].1)∧(rows.flatMap pairC)[2*i+1]?=some (txt rows[i].2)
 |p::rows,0,h=>⟨rfl,rfl⟩
 |p::rows,i+1,h=>by
  have:=pairs_at rows i (by simpa using h)
  rw [List.flatMap_cons,show 2*(i+1)=2*i+2 by omega]
  exact this
theorem Rp.of {w:World}{B:Nat}{v:Value}{n:Nat}{rows:List (Bs×Bs)}(h:w.ownsRow B 47 2 v n (rows.flatMap pairC))(hn:n=rows.length): Rp w v rows:=by
 subst hn
 obtain⟨a,c,rfl⟩:=OwnR.owns_shape h
 refine⟨a,c,rfl,owns_cap h,fun i hi=>?_⟩
 obtain⟨h1,h2⟩:=pairs_at rows i hi
 rcases h.2 with ⟨hx,h0⟩ | ⟨q,cap,cur,hx,_,hh,_⟩
 ·omega
 ·cases hx
  refine⟨q,0,rfl,fun j v hv=>?_⟩
  have hc:=h.cells (g:=q) rfl
  match j,hv with
  |0,hv=>have:=hc _ _ h1;rw [at0] at this;cases hv;simpa using this
  |1,hv=>have:=hc _ _ h2;rw [at0] at this;cases hv;simpa using this
  |j+2,hv=>simp at hv
structure Nf (w0 w:World)(f:Nat)(ns:Ns)(x:Int): Prop where
 fr:FR w f ns x
 below:Below w0.heap.size w0 w
 own:∀q,OwnsB w f ns q→w0.heap.size≤q
 rows:∀q,OwnsT w ns q→w0.heap.size≤q
theorem Nf.down {w0 w w':World}{f:Nat}{ns:Ns}{x:Int}(h:Nf w0 w f ns x)(hb:Below w.heap.size w w'): Nf w0 w' f ns x:=by
 have hc:=Chf.of_below h.fr hb
 refine⟨h.fr.below hb,h.below.trans (hb.mono h.below.size),fun q hq=>?_,fun q hq=>?_⟩
 ·exact(hc.own q hq).elim (h.own q) (fun h2=>Nat.le_trans h.below.size h2)
 ·exact(hc.rows q hq).elim (h.rows q) (fun h2=>Nat.le_trans h.below.size h2)
theorem Nf.next {w0 w:World}{f:Nat}{ns:Ns}{x:Int}(h:Nf w0 w f ns x)(y:Int): Nf w0 (w.setCell ⟨f,1,none⟩ (.int .i64 y)) f ns y:=by
 obtain⟨h1,h2⟩:=h.fr.next y
 obtain⟨L,ho,hL⟩:=h2.only
 refine⟨h1,h.below.trans (ho.below h.below.size (fun q hq=>h.own q (hL q hq))),fun q hq=>?_,fun q hq=>?_⟩
 ·exact(h2.own q hq).elim (h.own q) (fun h2=>Nat.le_trans h.below.size h2)
 ·exact(h2.rows q hq).elim (h.rows q) (fun h2=>Nat.le_trans h.below.size h2)
theorem ok_take:∀ {l:List Nd} (i:Nat),Ok l→Ok (l.take i)
 |_,0,_=>trivial
 |[],i+1,_=>trivial
 |n::l,i+1,h=>⟨h.1,h.2.1,fun m hm=>h.2.2.1 m (List.mem_of_mem_take hm),ok_take i h.2.2.2⟩
theorem sec_new {n m:Nd}: ∀ {l:List Nd} {i:Nat},(l.map (·.secret)).Nodup→l[i]?=some n→m∈l.take i→m.secret=n.secret→False:=by
 intro l
 induction l with
 |nil=>intro i _ h;simp at h
 |cons a l ih=>
  intro i hs hn hm he
  cases i with
  |zero=>simp at hm
  |succ i=>
   rw [List.map_cons,List.nodup_cons] at hs
   rw [List.getElem?_cons_succ] at hn
   rw [List.take_succ_cons] at hm
   rcases List.mem_cons.1 hm with h | hm
   ·subst h
    exact hs.1 (List.mem_map.2 ⟨n,List.mem_of_getElem? hn,he.symm⟩)
   ·exact ih hs.2 hn hm he
structure Whole (l:List Nd)(x:Nat): Prop where
 ok:Ok l
 next:1≤x∧x≤99999999
 ids:∀n∈l,n.id<x
 may:∀n∈l,mayP (n.parent:Int) n=true
 mid:∀n∈l,Mid n∧NumOk n∧(formL (nodeT n)).length≤1000000
 sec:(l.map (·.secret)).Nodup
 few:l.length≤256
set_option maxHeartbeats 16000000 in
theorem lay_any (l:List Nd)(x:Nat)(hl:Whole l x)(w0 w:World)(f:Nat)(hf:Nf w0 w f [] 1)(v:Value)(hv:Rp w0 v (rowsP l x))(hT:Tb w0)(hM:Mx w0): Calls Tryz.prog 57 #[kpt f,v] w fun e w'=>∃ns,e = .returned (.bool true)∧nodes ns=l∧Nf w0 w' f ns x:=by
 obtain⟨a,c,rfl,hc,hrows⟩:=hv
 have hlen:(rowsP l x).length=l.length+1:=by simp [rowsP]
 have H0:=hrows 0 (by omega)
 obtain⟨q,o,rfl,hp0⟩:=H0
 have HP0:Hid (w0.rangeAt q o [txt fwd,txt (nextP x)]):=Lib.hid hp0
 have HPS:Hid (∀i (h:i<l.length),w0.rangeAt q (o+2*(i+1)) [txt (keyP l[i].id),txt (formL (nodeT l[i]))]):=Lib.hid (fun i hi=>by
  obtain⟨q',o',e,h⟩:=hrows (i+1) (by omega)
  cases e
  simpa [rowsP] using h)
 have HR0:=Lib.hid (fun W (hb:Below w0.heap.size w0 W)=>readerOf_any fwd (numsL [(x:Int)]) (by have:=nums_len x hl.next.2;omega) W (hT.below hb) (hM.below hb))
 have HN0:=Lib.hid (fun B g=>rdnum_any B 29 (by decide) g (Lib.itoa (x:Int)) (x:Int) (Num.itoa _ (by omega) (by have:=hl.next.2;omega)) [] (by simp))
 obtain⟨NX,hnx⟩:∃y,y=nextP x:=⟨_,rfl⟩
 have hnx2:formL (numsL [(x:Int)])=NX:=hnx.symm
 rw [hnx2] at HR0
 rw [← hnx] at HP0
 obtain⟨N,hN⟩:∃N,N=l.length+1:=⟨_,rfl⟩
 have HLN:=Lib.hid hN
 have HL:=Lib.hid hl
 have HT:=Lib.hid hT
 have HM:=Lib.hid hM
 have HF:=Lib.hid hf
 have hNpos:0<N:=by omega
 have hNposI:(0:Int)<(N:Int):=by omega
 have hNposI1:(1:Int)≤(N:Int):=by omega
 have hN0:((N:Int) == 0)=false:=by simp;omega
 have hN1:¬257<(N:Int):=by have:=hl.few;omega
 have hx1:¬(x:Int)<1:=by have:=hl.next;omega
 have hx2:¬99999999<(x:Int):=by have:=hl.next;omega
 rw [hlen,← hN] at hc ⊢
 clear hrows hlen hp0 hnx hnx2 hN hT hM hl
 unfold kpt at HR0 HN0 ⊢
 unfold txt at HP0 HPS
 go_enter Tryz.func57,Tryz.ntmps57
 go_wp2_with (refine wpList_load_mid rfl 47 _ rfl q o rfl [.string ⟨fwd.toArray⟩,.string ⟨NX.toArray⟩] _ (range_below HP0.out HF.out.below) Tryz.underlying47 rfl i47 ?_)
 refine(HR0.out w HF.out.below).mono ?_
 rintro e w1 ⟨g,rfl,h1,h2,h3⟩
 have HQ1:=Lib.hid h1
 have HF1:=Lib.hid (HF.out.down h3)
 have HG:=Lib.hid h2
 have HWF:=Lib.hid (OwnsB.lt HF.out.fr (.inl rfl))
 clear h1 h2 h3 HR0
 go_wp2_with fail
 refine(HN0.out _ g w1 HQ1.out).mono ?_
 rintro e w2 ⟨rfl,h1,h2⟩
 have HF2:Hid (Nf w0 w2 f [] 1):=Lib.hid (by
  obtain⟨a',c',hk,_⟩:=HQ1.out
  refine⟨HF1.out.fr.apart h2 (fun z hz hw=>?_) (fun z hz cs hb=>?_),HF1.out.below.trans (h2.below HF1.out.below.size (fun z hz=>?_)),fun z hz=>?_,fun z hz=>?_⟩
  ·rw [List.mem_singleton] at hz;subst hz
   rcases hw with rfl | ⟨k,hk2,_⟩ | ⟨n2,c2,x2,hb2⟩
   ·have h3:=HWF.out;have h4:=HG.out;omega
   ·cases hk2
   ·obtain⟨a3,c3,h3,h4⟩:=HF1.out.fr.obj
    have e:=h3.symm.trans hb2
    simp only [Option.some.injEq,Obj.cells.injEq,Array.mk.injEq,List.cons.injEq,Value.slice.injEq] at e
    obtain⟨⟨⟨rfl,_⟩,_⟩,_⟩:=e
    exact owns_ne h4 hk (by decide) rfl
  ·rw [List.mem_singleton] at hz;subst hz
   exact bk_ne hk hb (by decide) rfl
  ·rw [List.mem_singleton] at hz;subst hz
   exact Nat.le_trans HF.out.below.size HG.out
  ·rcases hz with rfl | ⟨k,hk2,_⟩ | ⟨n2,c2,x2,hb2⟩
   ·exact HF1.out.own _ (.inl rfl)
   ·cases hk2
   ·have hne:f∉[g]:=fun hm=>by rw [List.mem_singleton] at hm;have h3:=HWF.out;have h4:=HG.out;omega
    have:=(h2.block f (OwnsB.lt HF1.out.fr (.inl rfl)) hne).symm.trans hb2
    exact HF1.out.own _ (.inr (.inr ⟨_,_,_,this⟩))
  ·obtain⟨k,hk2,_⟩:=hz;cases hk2)
 clear h1 h2 HQ1 HF1 HN0 HG HWF HF
 obtain⟨a3,c3,h3,_⟩:=HF2.out.fr.obj
 have f1:w2.frozen? ⟨f,1,none⟩=false:=h3.fro 1
 have d1:w2.cell? ⟨f,1,none⟩=some (.int .i64 1):=h3.cell 1
 have HF3:=Lib.hid (HF2.out.next (x:Int))
 obtain⟨w3,hw3⟩:∃w3,w3=w2.setCell ⟨f,1,none⟩ (.int .i64 (x:Int)):=⟨_,rfl⟩
 have d2:w3.cell? ⟨f,1,none⟩=some (.int .i64 (x:Int)):=by
  rw [hw3]
  exact(Bk.same (i:=1) (v:= .int .i64 (x:Int)) h3).cell 1
 rw [← hw3] at HF3
 have HW3:=Lib.hid hw3
 clear h3 hw3
 go_wp2_with (first | (rw [← HW3.out]) | fail)
 ·have hl0:l.length=0:=by have:=HLN.out;omega
  have hNM:N - 1=0:=by have:=HLN.out;omega
  rw [hNM]
  have HL0:Hid (l=[]):=Lib.hid (List.length_eq_zero_iff.1 hl0)
  have HF4:=HF3
  clear hNM hl0 f1 d1 d2 HF2 HW3 HP0 HF3
  go_loopw [40] (fun iv wr=>iv = .int .i64 0∧wr=w3) (fun _ _=>0)
  case atStart=>exact⟨rfl,rfl⟩
  case round=>
   obtain⟨rfl,rfl⟩:=hrel
   go_wp2_with fail
   go_ret
   exact⟨[],rfl,HL0.out.symm,HF4.out⟩
 ·have hNM:N - 1=l.length:=by have:=HLN.out;omega
  rw [hNM]
  obtain⟨M,hM⟩:∃M,M=l.length:=⟨_,rfl⟩
  rw [← hM]
  have HML:=Lib.hid hM
  clear hNM hM f1 d1 d2 HF2 HW3 HP0
  go_loopw [5,40] (fun lv iv wr=>∃i:Nat,i≤M∧iv = .int .i64 (i:Int)∧∃last:Nat,lv = .int .i64 (last:Int)∧Hid (∀j (h:j<l.length),i≤j→last<l[j].id)∧Hid (∃ns,nodes ns=l.take i∧Nf w0 wr f ns x)) (fun _ iv _=>M - (intOf iv).toNat)
  case atStart=>exact⟨0,Nat.zero_le _,rfl,0,rfl,Lib.hid (fun j h _=>(HL.out.ok.mem (List.getElem_mem h)).1),Lib.hid ⟨[],rfl,HF3.out⟩⟩
  case round=>
   obtain⟨i,hi,rfl,last,rfl,HLAST,HI⟩:=hrel
   clear HF3
   by_cases hlt:i<M
   ·have hltI:(i:Int)<(M:Int):=by omega
    have hil:i<l.length:=by rw [← HML.out];exact hlt
    obtain⟨n,hn⟩:∃n,l[i]'hil=n:=⟨_,rfl⟩
    have hnm:n∈l:=hn▸List.getElem_mem hil
    obtain⟨ns,hns⟩:=HI.out
    have HNS:=Lib.hid hns
    have HRA:Hid (w0.rangeAt q (o+2+i*2) [.string ⟨(keyP n.id).toArray⟩,.string ⟨(formL (nodeT n)).toArray⟩]):=Lib.hid (by
     have:=HPS.out i hil
     rw [hn,show o+2*(i+1)=o+2+i*2 by omega] at this
     exact this)
    have hidn:n.id≤99999999:=by have:=HL.out.ids n hnm;have:=HL.out.next.2;omega
    have HNO:=Lib.hid (fun W (hb:Below w0.heap.size w0 W)=>nodeOf_any n hidn (HL.out.mid n hnm).2.1 (HL.out.mid n hnm).2.2 W (HT.out.below hb) (HM.out.below hb))
    have hn2:l[i]?=some n:=by rw [List.getElem?_eq_getElem hil,hn]
    have HH:=Lib.hid (And.intro hn2 (And.intro hnm hidn))
    clear hn2
    have c1:¬(n.id:Int)≤(last:Int):=by have:=HLAST.out i hil (Nat.le_refl _);rw [hn] at this;omega
    have c2:¬(x:Int)≤(n.id:Int):=by have:=HL.out.ids n hnm;omega
    have c3:¬(n.id:Int)≤(n.parent:Int):=by have:=(HL.out.ok.mem hnm).2;omega
    have HC:=Lib.hid (And.intro c1 (And.intro c2 c3))
    obtain⟨K,hK⟩:∃K,K=keyP n.id:=⟨_,rfl⟩
    obtain⟨F,hF⟩:∃F,F=formL (nodeT n):=⟨_,rfl⟩
    rw [← hK,← hF] at HRA HNO
    obtain⟨w4,hw4⟩:∃w4,w4=wr.alloc (.cells #[.string ⟨#[]⟩,.string ⟨#[]⟩] 47):=⟨_,rfl⟩
    have Z4:Hid (Bk 47 w4 wr.heap.size #[.string ⟨#[]⟩,.string ⟨#[]⟩]):=Lib.hid (by rw [hw4];exact Bk.new rfl)
    obtain⟨w5,hw5⟩:∃w5,w5=w4.setRow wr.heap.size #[.string ⟨K.toArray⟩,.string ⟨F.toArray⟩]:=⟨_,rfl⟩
    have Z5:Hid (Bk 47 w5 wr.heap.size #[.string ⟨K.toArray⟩,.string ⟨F.toArray⟩]):=Lib.hid (by rw [hw5];exact Z4.out.row)
    have B5:Hid (Below wr.heap.size wr w5):=Lib.hid (by rw [hw5,hw4];exact below_row (by go_grown) (Nat.le_refl _))
    have HW4:=Lib.hid hw4
    have HW5:=Lib.hid hw5
    clear hn hnm hns hil hidn hK hF hw4 hw5 c1 c2 c3 HI
    go_wp2_with (first | refine wpList_load_mid rfl 47 _ rfl q (o+2+i*2) rfl [.string ⟨K.toArray⟩,.string ⟨F.toArray⟩] _ (range_below HRA.out HNS.out.2.below) Tryz.underlying47 rfl i47 ?_ | (rw [← HW4.out];refine wpList_put rfl 47 _ _ rfl wr.heap.size #[.string ⟨#[]⟩,.string ⟨#[]⟩] _ rfl rfl Z4.out i47 rfl (by simp [Value.oneCell']) ?_) | (rw [← HW5.out];refine wpList_load_row rfl 47 _ rfl wr.heap.size rfl 47 _ (0,0) _ Z5.out Tryz.underlying47 rfl i47 ?_))
    refine(HNO.out w5 (HNS.out.2.below.trans (B5.out.mono HNS.out.2.below.size))).mono ?_
    rintro e w6 ⟨sv,av,rfl,t1,t2,b6,v1,v2⟩
    obtain⟨sa,sc,rfl⟩:=owns_shape t1
    obtain⟨aa,ac,rfl⟩:=owns_shape t2
    have N6:=Lib.hid ((HNS.out.2.down B5.out).down b6)
    have HP:Hid (w0.heap.size≤w5.heap.size):=Lib.hid ((HNS.out.2.down B5.out).below.size)
    have HV:Hid ((∀q,(Value.slice sa n.scope.length sc).ownBlock=some q→w0.heap.size≤q)∧(∀q,(Value.slice aa n.actors.length ac).ownBlock=some q→w0.heap.size≤q)):=Lib.hid ⟨fun q hq=>Nat.le_trans HP.out (v1 q hq),fun q hq=>Nat.le_trans HP.out (v2 q hq)⟩
    have T1:=Lib.hid t1
    have T2:=Lib.hid t2
    obtain⟨w7,hw7⟩:∃w7,w7=w6.alloc (.cells zeroN 31):=⟨_,rfl⟩
    have Z7:Hid (Bk 31 w7 w6.heap.size zeroN):=Lib.hid (by rw [hw7];exact Bk.new rfl)
    have N7:Hid (Nf w0 w7 f ns x):=Lib.hid (N6.out.down (by rw [hw7];go_grown))
    obtain⟨W,hW⟩:∃W,W=w7.setRow w6.heap.size #[.int .i64 (n.id:Int),.int .i64 n.kind,.int .i64 (n.parent:Int),.string ⟨n.subject.toArray⟩,.string ⟨n.client.toArray⟩,.string ⟨n.audience.toArray⟩,.slice sa n.scope.length sc,.int .i64 n.born,.int .i64 n.exp,.bool n.dead,.bool n.spent,.slice aa n.actors.length ac,.int .i64 n.level,.string ⟨n.secret.toArray⟩,.string ⟨n.data.toArray⟩]:=⟨_,rfl⟩
    obtain⟨b,hb⟩:∃b,b=w6.heap.size:=⟨_,rfl⟩
    have K8:Bk 31 W b #[.int .i64 (n.id:Int),.int .i64 n.kind,.int .i64 (n.parent:Int),.string ⟨n.subject.toArray⟩,.string ⟨n.client.toArray⟩,.string ⟨n.audience.toArray⟩,.slice sa n.scope.length sc,.int .i64 n.born,.int .i64 n.exp,.bool n.dead,.bool n.spent,.slice aa n.actors.length ac,.int .i64 n.level,.string ⟨n.secret.toArray⟩,.string ⟨n.data.toArray⟩]:=by rw [hW,hb];exact Z7.out.row
    have W8:Hid (Below w6.heap.size w6 W):=Lib.hid (by rw [hW,hw7];exact below_row (by go_grown) (Nat.le_refl _))
    have N8:Hid (Nf w0 W f ns x):=Lib.hid (N6.out.down W8.out)
    have U1:Hid (Tx W (.slice sa n.scope.length sc) n.scope):=Lib.hid (t1.below W8.out)
    have U2:Hid (Tx W (.slice aa n.actors.length ac) n.actors):=Lib.hid (t2.below W8.out)
    have HW7:=Lib.hid hw7
    have HWW:=Lib.hid hW
    have KK8:=Lib.hid K8
    have HBB:=Lib.hid hb
    unfold inC txt
    clear t1 t2 b6 v1 v2 HNO B5 HP T1 T2 N6 N7 HRA hw7 hW hb K8 W8 Z5 HW5 HW4 Z4
    go_wp2_with (have hw7:=HW7.out;unfold zeroN at hw7;rw [← hw7];clear hw7;refine wpList_put rfl 31 _ _ rfl w6.heap.size zeroN _ rfl rfl Z7.out i31 rfl (one15 (n.id:Int) (n.parent:Int) n sa aa n.scope.length sc n.actors.length ac) ?_;rw [← HWW.out,← HBB.out])
    have K8:=KK8.out
    have k0:=cell_regrown (w:=W) (K8.cell 0)
    have k2:=cell_regrown (w:=W) (K8.cell 2)
    have k13:=cell_regrown (w:=W) (K8.cell 13)
    obtain⟨fa,fc,fo,_⟩:=N8.out.fr.obj
    have kn:=cell_regrown (w:=W) (fo.cell 1)
    obtain⟨c1,c2,c3⟩:=HC.out
    have e1:decide ((n.id:Int)≤(last:Int))=false:=decide_eq_false (by omega)
    have e2:decide ((x:Int)≤(n.id:Int))=false:=decide_eq_false (by omega)
    have e3:decide ((n.id:Int)≤(n.parent:Int))=false:=decide_eq_false (by omega)
    have e4:¬n.id≤last:=by omega
    have e5:¬x≤n.id:=by omega
    have e6:¬n.id≤n.parent:=by omega
    have c4:ns.length≤1000000:=by
     have h1:=congrArg List.length HNS.out.1
     simp only [nodes,List.length_map,List.length_take] at h1
     have h2:=HL.out.few
     omega
    have hMay:Hid (∀d os,Calls Tryz.prog 63 #[.agg #[.int .i64 (n.id:Int),.int .i64 n.kind,.int .i64 (n.parent:Int),.string ⟨n.subject.toArray⟩,.string ⟨n.client.toArray⟩,.string ⟨n.audience.toArray⟩,.slice sa n.scope.length sc,.int .i64 n.born,.int .i64 n.exp,.bool n.dead,.bool n.spent,.slice aa n.actors.length ac,.int .i64 n.level,.string ⟨n.secret.toArray⟩,.string ⟨n.data.toArray⟩]] (grow (redrawn W d) os) fun e w''=>e = .returned (.bool true)∧∃p:Regrown,w''=grow (redrawn W p.d) p.os):=Lib.hid (fun d os=>Calls.regrown_of (by
     have hg:Below W.heap.size W (grow (redrawn W d) os):=below_regrown W d os
     have h:=mayBe_any (n.id:Int) (n.parent:Int) n _ _ (HL.out.mid n HH.out.2.1).1 (grow (redrawn W d) os) ((U1.out.below hg).rd) ((U2.out.below hg).rd)
     rwa [HL.out.may n HH.out.2.1] at h))
    have hBy:Hid (∀d os,Calls Tryz.prog 64 #[.pointer (some ⟨f,0,none⟩),.string ⟨n.secret.toArray⟩] (grow (redrawn W d) os) fun e w''=>e = .returned (.pointer none)∧∃p:Regrown,w''=grow (redrawn W p.d) p.os):=Lib.hid (fun d os=>Calls.regrown_of (by
     have hg:Below W.heap.size W (grow (redrawn W d) os):=below_regrown W d os
     have h:=by_any (N8.out.fr.below hg) c4 n.secret
     have hno:(ns.find? fun k=>k.2.secret == n.secret)=none:=by
      rw [List.find?_eq_none]
      intro k hk he
      have hm:k.2∈nodes ns:=mem_nodes hk
      rw [HNS.out.1] at hm
      have e2:k.2.secret=n.secret:=by simpa using he
      exact sec_new HL.out.sec HH.out.1 hm e2
     rw [hno] at h
     exact h))
    clear K8 fo
    refine wp_region_quiet_below mixed (by kernel_rfl) ?_
    repeat (first | go_big_quiet_step (first | exact hMay.out _ _ | exact hBy.out _ _) | quiet_step (first | exact hMay.out _ _ | exact hBy.out _ _))
    refine wpQuiet_load_rowG (by first | rfl | decide) 31 _ rfl b rfl 31 _ (0,0) _ (fun w' hw'=>heap_regrown KK8.out hw') Tryz.underlying31 rfl i31 ?_
    repeat (first | go_big_quiet_step (first | exact hMay.out _ _ | exact hBy.out _ _) | quiet_step (first | exact hMay.out _ _ | exact hBy.out _ _))
    refine wpQuiet_nil ?_
    intro _ hw'
    obtain⟨⟨dq,osq⟩,hw''⟩:=hw'
    subst hw''
    have B9:Hid (Below W.heap.size W (grow (redrawn W dq) osq)):=Lib.hid (below_regrown W dq osq)
    clear hMay hBy k0 k2 k13 kn e1 e2 e3 e4 e5 e6 c1 c2 c3
    generalize grow (redrawn W dq) osq=wq at B9 ⊢
    have K9:Hid (Bk 31 wq b #[.int .i64 (n.id:Int),.int .i64 n.kind,.int .i64 (n.parent:Int),.string ⟨n.subject.toArray⟩,.string ⟨n.client.toArray⟩,.string ⟨n.audience.toArray⟩,.slice sa n.scope.length sc,.int .i64 n.born,.int .i64 n.exp,.bool n.dead,.bool n.spent,.slice aa n.actors.length ac,.int .i64 n.level,.string ⟨n.secret.toArray⟩,.string ⟨n.data.toArray⟩]):=Lib.hid (KK8.out.below B9.out)
    have N9:Hid (Nf w0 wq f ns x):=Lib.hid (N8.out.down B9.out)
    have HPut:Hid (Calls Tryz.prog 32 #[.pointer (some ⟨f,0,none⟩),.agg #[.int .i64 (n.id:Int),.int .i64 n.kind,.int .i64 (n.parent:Int),.string ⟨n.subject.toArray⟩,.string ⟨n.client.toArray⟩,.string ⟨n.audience.toArray⟩,.slice sa n.scope.length sc,.int .i64 n.born,.int .i64 n.exp,.bool n.dead,.bool n.spent,.slice aa n.actors.length ac,.int .i64 n.level,.string ⟨n.secret.toArray⟩,.string ⟨n.data.toArray⟩]] wq fun e w'=>e = .returned (.tuple #[])∧∃gn,wq.heap.size≤gn∧FR w' f (ns++[(gn,n)]) x∧Cho wq w' f ns (ns++[(gn,n)])∧∀z,OwnsT w' (ns++[(gn,n)]) z→OwnsT wq ns z∨(Value.slice sa n.scope.length sc).ownBlock=some z∨(Value.slice aa n.actors.length ac).ownBlock=some z):=Lib.hid (by
     have hok:Ok (nodes ns++[n]):=by
      have h1:=ok_take (i+1) HL.out.ok
      rw [List.take_add_one,HH.out.1] at h1
      rw [HNS.out.1]
      exact h1
     exact put_any N9.out.fr c4 n _ _ hok (U1.out.below B9.out) (U2.out.below B9.out))
    clear c4
    go_wp2_with (refine wpList_load_row rfl 31 _ rfl b rfl 31 _ (0,0) _ K9.out Tryz.underlying31 rfl i31 ?_)
    refine HPut.out.mono ?_
    rintro e w9 ⟨rfl,gn,hg1,hg2,hg3,hg4⟩
    have N10:Hid (Nf w0 w9 f (ns++[(gn,n)]) x):=Lib.hid (by
     obtain⟨L,ho,hL⟩:=hg3.only
     refine⟨hg2,N9.out.below.trans (ho.below N9.out.below.size (fun z hz=>N9.out.own z (hL z hz))),fun z hz=>?_,fun z hz=>?_⟩
     ·exact(hg3.own z hz).elim (N9.out.own z) (fun h2=>Nat.le_trans N9.out.below.size h2)
     ·rcases hg4 z hz with h | h | h
      ·exact N9.out.rows z h
      ·exact HV.out.1 z h
      ·exact HV.out.2 z h)
    have K10:Bk 31 w9 b #[.int .i64 (n.id:Int),.int .i64 n.kind,.int .i64 (n.parent:Int),.string ⟨n.subject.toArray⟩,.string ⟨n.client.toArray⟩,.string ⟨n.audience.toArray⟩,.slice sa n.scope.length sc,.int .i64 n.born,.int .i64 n.exp,.bool n.dead,.bool n.spent,.slice aa n.actors.length ac,.int .i64 n.level,.string ⟨n.secret.toArray⟩,.string ⟨n.data.toArray⟩]:=by
     obtain⟨L,ho,hL⟩:=hg3.only
     exact K9.out.only ho fun hq=>OwnsB.no N9.out.fr (by decide) (by decide) (by decide) K9.out (hL _ hq)
    have c0:w9.cell? ⟨b,0,none⟩=some (.int .i64 (n.id:Int)):=K10.cell 0
    have HNN:Hid (nodes (ns++[(gn,n)])=l.take (i+1)):=Lib.hid (by
     rw [List.take_add_one,HH.out.1,← HNS.out.1]
     simp [nodes])
    have HLA:Hid (∀j (h:j<l.length),i+1≤j→n.id<l[j].id):=Lib.hid (fun j h hij=>by
     have hil:i<l.length:=by omega
     have h1:=HH.out.1
     rw [List.getElem?_eq_getElem hil] at h1
     have h2:=ok_lt HL.out.ok i j hil h (by omega)
     rw [Option.some.inj h1] at h2
     exact h2)
    have hM256:M≤256:=by rw [HML.out];exact HL.out.few
    clear hg1 hg2 hg3 hg4 K10 HPut N9 K9 B9 N8 KK8 U1 U2 HV HLAST HNS
    go_wp2_with fail
    go_roundw
    case rel=>exact⟨i+1,by omega,by go_num,n.id,rfl,HLA,Lib.hid ⟨ns++[(gn,n)],HNN.out,N10.out⟩⟩
    case measure=>simp [intOf];omega
   ·have hie:i=M:=by omega
    subst hie
    have hltI:¬(i:Int)<(i:Int):=by omega
    obtain⟨ns,hns⟩:=HI.out
    have HNS:=Lib.hid hns
    have HNN:Hid (nodes ns=l):=Lib.hid (by rw [HNS.out.1,HML.out,List.take_length])
    clear HI hns
    go_wp2_with fail
    go_ret
    first | exact⟨ns,rfl,HNN.out,HNS.out.2⟩ | exact⟨rfl,ns,HNN.out,HNS.out.2⟩
theorem exec_load_mid {P:Program}{op:Oper}{a:Act}{w:World}(ty:TypeId)(x:Operand)(ho:op.op = .load ty x)
  (b o:Nat) (hx:a.eval x = .pointer (some ⟨b,o,none⟩)) (cs:List Value) (d:TypeDesc) (hc:w.rangeAt b o cs)
  (hu:P.underlying ty=some d) (hd:d.isRow=true) (hi:(P.info? ty).map (·.size)=some cs.length) :
  (execOp a.eval op).run P w = .ok (.value (.agg cs.toArray)) w:=by
 unfold execOp
 simp only [ho,hx,Instr.loadAt,Instr.sureAddr,Sem.run_bind,Sem.run_pure,Result.andThen_ok,run_loadVar_mid w b o ty cs d hc hu hd hi]
theorem wpQuiet_load_mid {P:Program}{ops:Array Oper}{C:World→Prop}{Q:Act→Prop}{a:Act}{op:Oper}{rest:List Oper}(hgd:op.guard=none)(ty:TypeId)(x:Operand)(ho:op.op = .load ty x)
  (b o:Nat) (hx:a.eval x = .pointer (some ⟨b,o,none⟩)) (cs:List Value) (d:TypeDesc) (hc:∀w,C w→w.rangeAt b o cs)
  (hu:P.underlying ty=some d) (hd:d.isRow=true) (hi:(P.info? ty).map (·.size)=some cs.length)
  (h:wpQuiet P ops C Q rest (a.put op.dst (.agg cs.toArray))):wpQuiet P ops C Q (op::rest) a:=
 wpQuiet_step fun K hK=>by
  rw [if_pos (by simp [Region.wanted,hgd])]
  refine⟨.agg cs.toArray,fun w hw=>?_,hK _ h⟩
  unfold Oper.quietAt
  rw [exec_load_mid ty x ho b o hx cs d (hc w hw) hu hd hi]
  exact⟨rfl,rfl⟩
set_option maxHeartbeats 4000000 in
theorem pequal_any (rows:List (Bs×Bs))(hl:rows.length≤1000000)(w:World)(v u:Value)(h1:Rp w v rows)(h2:Rp w u rows): Calls Tryz.prog 58 #[v,u] w fun e w'=>e = .returned (.bool true)∧Below w.heap.size w w':=by
 obtain⟨a,c,rfl,hc,h1⟩:=h1
 obtain⟨b,d,rfl,hd,h2⟩:=h2
 have H1:=Lib.hid h1
 have H2:=Lib.hid h2
 obtain⟨m,hm⟩:∃m,m=rows.length:=⟨_,rfl⟩
 have HM:=Lib.hid hm
 rw [← hm] at hl ⊢
 clear h1 h2 hm hc hd
 go_enter Tryz.func58,Tryz.ntmps58
 go_wp2_with fail
 go_loopw [13] (fun iv wr=>∃i:Nat,i≤m∧iv = .int .i64 (i:Int)∧Hid (Below w.heap.size w wr)) (fun iv _=>m - (intOf iv).toNat)
 case atStart=>exact⟨0,Nat.zero_le _,rfl,Lib.hid (Below.refl _ _)⟩
 case round=>
  obtain⟨i,hi,rfl,HQ⟩:=hrel
  by_cases hlt:i<m
  ·have hlt1:i<rows.length:=by rw [← HM.out];exact hlt
   obtain⟨s,hs⟩:∃s,rows[i]'hlt1=s:=⟨_,rfl⟩
   obtain⟨g,o,rfl,c0⟩:=H1.out i hlt1
   obtain⟨g2,o2,rfl,d0⟩:=H2.out i hlt1
   have hltI:(i:Int)<(m:Int):=by omega
   rw [hs,show o+2*i=o+i*2 by omega] at c0
   rw [hs,show o2+2*i=o2+i*2 by omega] at d0
   obtain⟨s1,s2⟩:=s
   unfold txt at c0 d0
   dsimp only at c0 d0
   have C1:=Lib.hid (range_below c0 HQ.out)
   have D1:=Lib.hid (range_below d0 HQ.out)
   clear c0 d0 hs hlt1
   go_wp2_with fail
   refine wp_region_quiet_below mixed (by kernel_rfl) ?_
   repeat (first | go_big_quiet_step (fail) | quiet_step (fail))
   refine wpQuiet_load_mid rfl 47 _ rfl g (o+i*2) rfl [.string ⟨s1.toArray⟩,.string ⟨s2.toArray⟩] _ (fun w' hw'=>by obtain⟨p,rfl⟩:=hw';exact range_below C1.out (below_regrown wr p.d p.os)) Tryz.underlying47 rfl i47 ?_
   repeat (first | go_big_quiet_step (fail) | quiet_step (fail))
   refine wpQuiet_load_mid rfl 47 _ rfl g2 (o2+i*2) rfl [.string ⟨s1.toArray⟩,.string ⟨s2.toArray⟩] _ (fun w' hw'=>by obtain⟨p,rfl⟩:=hw';exact range_below D1.out (below_regrown wr p.d p.os)) Tryz.underlying47 rfl i47 ?_
   repeat (first | go_big_quiet_step (fail) | quiet_step (fail))
   refine wpQuiet_nil ?_
   intro _ hw'
   obtain⟨⟨dq,osq⟩,hw''⟩:=hw'
   subst hw''
   have B9:Hid (Below w.heap.size w (grow (redrawn wr dq) osq)):=Lib.hid (HQ.out.trans ((below_regrown wr dq osq).mono HQ.out.size))
   generalize grow (redrawn wr dq) osq=wq at B9 ⊢
   go_wp2_with fail
   go_roundw
   case rel=>exact⟨i+1,by omega,by go_num,B9⟩
   case measure=>simp [intOf];omega
  ·have hltI:¬(i:Int)<(m:Int):=by omega
   go_wp2_with fail
   go_ret
   exact⟨rfl,HQ.out⟩
theorem new_nf (w:World): Calls Tryz.prog 10 #[] w fun e w'=>∃g,e = .returned (kpt g)∧Nf w w' g [] 1:=by
 go_enter Tryz.func10,Tryz.ntmps10
 go_wp2_with fail
 go_ret
 have hk:Bk 71 (w.alloc (.cells #[.slice none 0 0,.int .i64 1] 71)) w.heap.size #[.slice none 0 0,.int .i64 1]:=Bk.new rfl
 refine⟨w.heap.size,rfl,⟨trivial,⟨none,0,hk,⟨rfl,.inl ⟨rfl,rfl⟩⟩⟩,fun k hk=>by cases hk⟩,by go_grown,fun q hq=>?_,fun q hq=>by obtain⟨k,hk,_⟩:=hq;cases hk⟩
 rcases hq with rfl | ⟨k,hk,_⟩ | ⟨n,c,x,hb⟩
 ·exact Nat.le_refl _
 ·cases hk
 ·have e:=bk_inj hk hb
  simp at e
set_option maxHeartbeats 4000000 in
theorem load_any (l:List Nd)(x:Nat)(hl:Whole l x)(w:World)(v:Value)(hv:Rp w v (rowsP l x))(hT:Tb w)(hM:Mx w)(hR:∀n∈l,RowOk n): Calls Tryz.prog 22 #[v] w fun e w'=>∃f ns,e = .returned (.tuple #[kpt f,.int .i64 0])∧nodes ns=l∧Nf w w' f ns x:=by
 have HNEW:=Lib.hid (new_nf w)
 have HLAY:=Lib.hid (fun(W:World) f (hf:Nf w W f [] 1)=>lay_any l x hl w W f hf v hv hT hM)
 have HROWS:=Lib.hid (fun(W:World) f ns (hn:nodes ns=l) (hf:Nf w W f ns x)=>rows_call hf.fr (by
  have h1:=congrArg List.length hn
  simp only [nodes,List.length_map] at h1
  have:=hl.few
  omega) hl.next.2 (fun n hm=>hR n (hn▸hm)) (hT.below hf.below))
 have HEQ:=Lib.hid (fun(W:World) u (h1:Rp W u (rowsP l x)) (h2:Rp W v (rowsP l x))=>pequal_any (rowsP l x) (by have:=hl.few;simp [rowsP];omega) W u v h1 h2)
 have HV:=Lib.hid hv
 clear hv hl hT hM hR
 unfold kpt at *
 go_enter Tryz.func22,Tryz.ntmps22
 go_wp2_with fail
 refine HNEW.out.mono ?_
 rintro e w2 ⟨f,rfl,h1⟩
 have HF2:=Lib.hid h1
 have HL2:=Lib.hid (HLAY.out w2 f HF2.out)
 clear HNEW h1 HLAY
 go_wp2_with fail
 refine HL2.out.mono ?_
 rintro e w3 ⟨ns,rfl,h1,h2⟩
 have HN:=Lib.hid h1
 have HF3:=Lib.hid h2
 have HR3:=Lib.hid (HROWS.out w3 f ns h1 h2)
 clear h1 h2 HL2 HROWS HF2
 go_wp2_with fail
 refine HR3.out.mono ?_
 rintro e w4 ⟨u,rfl,h1⟩
 have hrp:Rp w4 u (rowsP l x):=Rp.of (rows:=rowsP l x) (by
  have h2:=h1.1
  rw [HN.out] at h2
  exact h2) (by rw [← HN.out];simp [rowsP,nodes])
 have HF4:=Lib.hid (HF3.out.down h1.2.1)
 have HE4:=Lib.hid (HEQ.out w4 u hrp (HV.out.below HF4.out.below))
 clear h1 HR3 hrp HF3 HEQ
 go_wp2_with fail
 refine HE4.out.mono ?_
 rintro e w5 ⟨rfl,hb⟩
 have HF5:=Lib.hid (HF4.out.down hb)
 clear HE4 HF4 hb
 go_wp2_with fail
 go_ret2
 exact⟨f,ns,rfl,HN.out,HF5.out⟩
def fx0:Nd:=⟨0,1,0,[117,58,97,110,110],[],[],[],0,9,false,false,[],0,[115],[]⟩
def fx1:Nd:={fx0 with secret:=[116],parent:=1}
def fA:Nd:=⟨1,1,0,[117,58,97,110,110],[],[],[],0,9,false,false,[],0,[115],[]⟩
def fB:Nd:=⟨2,1,1,[117,58,97,110,110],[],[],[],0,9,false,false,[],0,[116],[]⟩
def fK:Nd:={fA with dead:=true}
theorem fx_may0:mayP 0 fx0=true:=by kernel_rfl
theorem fx_may1:mayP 1 fx1=true:=by kernel_rfl
theorem fx_mayB:mayP 1 fB=true:=by kernel_rfl
theorem fx_mayK:mayP 0 fK=true:=by kernel_rfl
theorem fx_okA:Ok [fA]:=⟨by decide,by decide,fun m hm=>by simp at hm,trivial⟩
theorem fx_okB:Ok [fA,fB]:=by refine⟨by decide,by decide,?_,by decide,by decide,?_,trivial⟩<;>simp [fA,fB]
theorem fx_okK:Ok [fK,fB]:=by refine⟨by decide,by decide,?_,by decide,by decide,?_,trivial⟩<;>simp [fK,fA,fB]
theorem path_no {l:List Nd}{id:Nat}(h:at' l id=none): path l id=[]:=by
 rw [path]
 split
 ·rfl
 ·rename_i n e
  rw [h] at e
  cases e
theorem fx_pA:path [fA] 1=[fA]:=by
 have h:=path_some fx_okA (n:=fA) (by simp)
 rw [show fA.id=1 from rfl,show fA.parent=0 from rfl,path_no (l:=[fA]) (id:=0) (by kernel_rfl)] at h
 exact h
theorem fx_pB1:path [fA,fB] 1=[fA]:=by
 have h:=path_some fx_okB (n:=fA) (by simp)
 rw [show fA.id=1 from rfl,show fA.parent=0 from rfl,path_no (l:=[fA,fB]) (id:=0) (by kernel_rfl)] at h
 exact h
theorem fx_pB:path [fA,fB] 2=[fB,fA]:=by
 have h:=path_some fx_okB (n:=fB) (by simp)
 rw [show fB.id=2 from rfl,show fB.parent=1 from rfl,fx_pB1] at h
 exact h
theorem fx_pK1:path [fK,fB] 1=[fK]:=by
 have h:=path_some fx_okK (n:=fK) (by simp)
 rw [show fK.id=1 from rfl,show fK.parent=0 from rfl,path_no (l:=[fK,fB]) (id:=0) (by kernel_rfl)] at h
 exact h
theorem fx_pK:path [fK,fB] 2=[fB,fK]:=by
 have h:=path_some fx_okK (n:=fB) (by simp)
 rw [show fB.id=2 from rfl,show fB.parent=1 from rfl,fx_pK1] at h
 exact h
theorem fx_1:plantP [] 1 0 fx0 0=(1,0,[fA],2):=by
 unfold plantP
 rw [fx_may0]
 rfl
theorem fx_prA:prune [fA] 0=[fA]:=by
 have:keeps [fA] 0 fA=true:=by
  simp only [keeps,List.any_cons,List.any_nil,Bool.or_false,liveN,struck,hangs]
  rw [show fA.id=1 from rfl,fx_pA]
  rfl
 unfold prune
 simp [this]
theorem fx_2:plantP [fA] 2 0 fx0 0=(0,132,[fA],2):=by
 unfold plantP
 rw [fx_may0]
 rfl
theorem fx_3:plantP [fA] 2 1 fx1 0=(2,0,[fA,fB],3):=by
 unfold plantP
 rw [fx_may1,fx_prA]
 have h1:(List.find? (fun m:Nd=>m.secret == fx1.secret) [fA])=none:=by kernel_rfl
 have h2:findI [fA] 1=some fA:=by kernel_rfl
 have h3:struck [fA] 1=false:=by unfold struck;rw [fx_pA];rfl
 rw [h1,h2]
 simp only [Option.isSome_none,Bool.false_eq_true,if_false,Option.isNone_some,Int.toNat_one,h3]
 rfl
theorem fx_l8:liveP [fA,fB] 2 8=true:=by
 have h2:findI [fA,fB] 2=some fB:=by kernel_rfl
 unfold liveP
 rw [h2]
 simp only [liveN,struck]
 rw [show fB.id=2 from rfl,fx_pB]
 rfl
theorem fx_l9:liveP [fA,fB] 2 9=false:=by
 have h2:findI [fA,fB] 2=some fB:=by kernel_rfl
 unfold liveP
 rw [h2]
 simp only [liveN,struck]
 rw [show fB.id=2 from rfl,fx_pB]
 rfl
theorem fx_k:killP [fA,fB] 1=(0,[fK,fB]):=by kernel_rfl
theorem fx_l0:liveP [fK,fB] 2 0=false:=by
 have h2:findI [fK,fB] 2=some fB:=by kernel_rfl
 unfold liveP
 rw [h2]
 simp only [liveN,struck]
 rw [show fB.id=2 from rfl,fx_pK]
 rfl
theorem fx_pr:prune [fK,fB] 0=[]:=by
 have hl:∀m∈[fK,fB],liveN [fK,fB] 0 m=false:=by
  intro m hm
  rcases List.mem_cons.1 hm with rfl | hm
  ·simp only [liveN,struck]
   rw [show fK.id=1 from rfl,fx_pK1]
   rfl
  ·rw [List.mem_singleton] at hm
   subst hm
   simp only [liveN,struck]
   rw [show fB.id=2 from rfl,fx_pK]
   rfl
 unfold prune
 rw [List.filter_eq_nil_iff]
 intro n hn hk
 unfold keeps at hk
 rw [List.any_eq_true] at hk
 obtain⟨m,hm,h⟩:=hk
 rw [hl m hm] at h
 cases h
theorem fx_path:(pathI [fA,fB] 2).length=2:=by
 have h2:findI [fA,fB] 2=some fB:=by kernel_rfl
 unfold pathI
 rw [h2]
 dsimp only
 rw [show fB.id=2 from rfl,fx_pB]
 rfl
theorem fx_whole:Whole [fK,fB] 3 where
 ok:=fx_okK
 next:=by decide
 ids:=by simp [fK,fA,fB]
 may:=by
  intro n hn
  rcases List.mem_cons.1 hn with rfl | hn
  ·exact fx_mayK
  ·rw [List.mem_singleton] at hn;subst hn;exact fx_mayB
 mid:=by
  intro n hn
  rcases List.mem_cons.1 hn with rfl | hn
  ·exact⟨⟨by decide,by decide,by decide,by simp [fK,fA],by simp [fK,fA],by decide,by decide⟩,⟨by decide,by decide,by decide,by decide,by decide⟩,Nat.le_of_ble_eq_true (by kernel_rfl)⟩
  ·rw [List.mem_singleton] at hn;subst hn
   exact⟨⟨by decide,by decide,by decide,by simp [fB],by simp [fB],by decide,by decide⟩,⟨by decide,by decide,by decide,by decide,by decide⟩,Nat.le_of_ble_eq_true (by kernel_rfl)⟩
 sec:=by decide
 few:=by decide
end Go.Proofs.YthogppennalobaaGreatDoor
namespace Go.Proofs.YthogppennalobaaGreatDoor
open Go.RowKit Go.Sort Forest OwnR TxO
set_option maxHeartbeats 4000000 in
theorem nodes_call {w:World}{f:Nat}{ns:Ns}{nx:Int}(h:FR w f ns nx)(hl:ns.length≤1000000)(hS:∀n∈nodes ns,Short n): Calls Tryz.prog 17 #[kpt f] w fun e w'=>∃v rs,e = .returned v∧rs.map (·.1)=nodes ns∧Nr w' v rs∧Below w.heap.size w w'∧∀k,v.ownBlock=some k→w.heap.size≤k:=by
 have H:=Lib.hid h
 have HL:=Lib.hid hl
 have HS:=Lib.hid hS
 obtain⟨a,c,h0,_,hc⟩:=h.cells
 have HC:=Lib.hid hc
 clear hc h hl hS
 obtain⟨L,hL⟩:∃L,L=nodes ns:=⟨_,rfl⟩
 rw [← hL]
 have HLL:=Lib.hid hL
 clear hL
 unfold kpt
 go_enter Tryz.func17,Tryz.ntmps17
 go_wp2_with fail
 go_loopw [3,11] (fun sv iv wr=>∃i:Nat,i≤ns.length∧iv = .int .i64 (i:Int)∧Hid (∃rs:List (Nd×Value×Value),rs.length=i∧rs.map (·.1)=L.take i∧Lw 31 15 w wr sv i (rs.flatMap nodeC)∧∀r∈rs,Tx wr r.2.1 r.1.scope∧Tx wr r.2.2 r.1.actors)) (fun _ iv _=>ns.length - (intOf iv).toNat)
 case atStart=>exact⟨0,Nat.zero_le _,rfl,Lib.hid ⟨[],rfl,rfl,Lw.nil 31 15 w,fun r hr=>by cases hr⟩⟩
 case round=>
  obtain⟨i,hi,rfl,HI⟩:=hrel
  by_cases hlt:i<ns.length
  ·obtain⟨HX,hri,hrm,hlw,hrt⟩:=HI.out
   have hltI:(i:Int)<(ns.length:Int):=by omega
   have hln:=HL.out
   obtain⟨q,rfl,c0⟩:=HC.out i hlt
   have hb0:=hlw.2.1
   have c1:wr.cell? ⟨q,i,none⟩=some (kpt ns[i].1):=cell_below hb0 c0
   obtain⟨k,hk⟩:∃k,ns[i]'hlt=k:=⟨_,rfl⟩
   have hkm:k∈ns:=hk▸List.getElem_mem hlt
   rw [hk] at c1
   obtain⟨sv0,av0,K,hs,ha⟩:=(H.out.below hb0).node k hkm
   have HCp:=Lib.hid (copied_any k.2.id k.2.parent k.2 sv0 av0 (HS.out _ (mem_nodes hkm)) wr hs.rd ha.rd)
   have HT:Hid (L.take (i+1)=L.take i++[k.2]):=Lib.hid (by
    rw [HLL.out];unfold nodes
    rw [List.take_add_one,List.getElem?_map,List.getElem?_eq_getElem hlt,hk];rfl)
   have K2:=K
   unfold ndC txt at K2
   obtain⟨⟨a0,a1,a2,a3,a4⟩,⟨a5,a6,a7,a8,a9⟩,a10,a11,a12,a13,a14⟩:=K2.cells15
   obtain⟨sa,sc,rfl⟩:=owns_shape hs
   obtain⟨ca,cc,rfl⟩:=owns_shape ha
   have HI2:=Lib.hid (And.intro hri (And.intro hrm (And.intro hlw hrt)))
   unfold inC txt at HCp
   have HKM:=Lib.hid hkm
   clear HI hri hrm hlw hrt c0 hk K K2 hs ha hkm
   unfold kpt at c1
   go_wp2_with fail
   refine HCp.out.mono ?_
   rintro e w2 ⟨sv',av',rfl,t1,t2,hb⟩
   have T1:=Lib.hid t1
   have T2:=Lib.hid t2
   obtain⟨xa,xc,rfl⟩:=owns_shape t1
   obtain⟨ya,yc,rfl⟩:=owns_shape t2
   have HB:=Lib.hid hb
   clear c1 a0 a1 a2 a3 a4 a5 a6 a7 a8 a9 a10 a11 a12 a13 a14 t1 t2 hb HCp
   have HI3:Hid (∀o,Lw 31 15 w (w2.alloc o) u3 i (HX.flatMap nodeC)):=Lib.hid fun o=>(HI2.out.2.2.1.down HB.out).down (by go_grown)
   have HM:Hid (HX.map (·.1)=L.take i∧HX.length=i∧∀r∈HX,Tx w2 r.2.1 r.1.scope∧Tx w2 r.2.2 r.1.actors):=Lib.hid ⟨HI2.out.2.1,HI2.out.1,fun r hr=>⟨(HI2.out.2.2.2 r hr).1.below HB.out,(HI2.out.2.2.2 r hr).2.below HB.out⟩⟩
   have HD:Hid (i+1≤4194304):=Lib.hid (by have:=HL.out;omega)
   clear HI2
   go_wp2_with (at_builtin;refine wp_one row37 rfl _ _ rfl u3 (HX.flatMap nodeC) w2.heap.size 1 _ rfl rfl (HI3.out _) (Bk.new rfl) rfl (one15 (k.2.id:Int) (k.2.parent:Int) k.2 xa ya _ xc _ yc) HD.out (by decide) ?_;intro v' w3 hs3 hg3;have HS3:=Lib.hid (And.intro hs3 hg3);clear hs3 hg3)
   go_roundw
   case rel=>
    refine⟨i+1,by omega,by go_num,Lib.hid ⟨HX++[(k.2,.slice xa k.2.scope.length xc,.slice ya k.2.actors.length yc)],by simp [HM.out.2.1],by rw [List.map_append,HM.out.1,HT.out];rfl,?_,fun r hr=>?_⟩⟩
    ·rw [List.flatMap_append];exact HS3.out.1
    ·have h9:∀ {x:Value} {l:List Bs},Tx w2 x l→Tx w3 x l:=fun ht=>Tx.grown (HI3.out _).1 HS3.out.2 (ht.below (by go_grown)) (by decide)
     rcases List.mem_append.1 hr with hr | hr
     ·exact⟨h9 (HM.out.2.2 r hr).1,h9 (HM.out.2.2 r hr).2⟩
     ·rw [List.mem_singleton] at hr
      subst hr
      exact⟨h9 T1.out,h9 T2.out⟩
   case measure=>simp [intOf];omega
  ·have hie:i=ns.length:=by omega
   have hltI:¬(i:Int)<(ns.length:Int):=by omega
   go_wp2_with fail
   go_returns
   obtain⟨rs,hri,hrm,hlw,hrt⟩:=HI.out
   refine⟨_,rfl,rs,?_,⟨?_,hrt⟩,hlw.2.1,hlw.2.2⟩
   ·rw [hrm,HLL.out,hie,List.take_of_length_le (by simp [nodes])]
   ·rw [hri];exact hlw.1
end Go.Proofs.YthogppennalobaaGreatDoor
