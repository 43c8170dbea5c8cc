/- Load, plain: what the document loads are the rows of a forest. No condition. The program: lay of any rows. The document: Number. -/
import Derived.Test.YthogppennalobaaGreatDoorZl22
import Derived.Test.YthogppennalobaaGreatDoorZl23
set_option linter.unusedVariables false
set_option linter.unusedSimpArgs false
set_option maxRecDepth 100000
namespace Go.Proofs.YthogppennalobaaGreatDoor
open Go.RowKit Go.Sort Forest OwnR TxO Pl
def nd0:Nd:=⟨0,0,0,[],[],[],[],0,0,false,false,[],0,[],[]⟩
def readN (p:Bs×Bs): Nd×Bool:=
 match key8 p.1,textsL p.2 with
 |some id,some l=>((nodeS id l).1,!(nodeS id l).2.2&&((nodeS id l).2.1 == [])&&mayP ((nodeS id l).1.parent:Int) (nodeS id l).1)
 |_,_=>(nd0,false)
def rowN (n:Nd): Bs×Bs:=(keyP n.id,formL (nodeT n))
theorem readN_true {p:Bs×Bs}(h:(readN p).2=true): p=rowN (readN p).1∧(readN p).1.id≤99999999∧mayP ((readN p).1.parent:Int) (readN p).1=true:=by
 unfold readN at h ⊢
 cases hk:key8 p.1 with
 |none=>rw [hk] at h;simp at h
 |some id=>
  cases ht:textsL p.2 with
  |none=>rw [hk,ht] at h;simp at h
  |some l=>
   rw [hk,ht] at h
   simp only [Bool.and_eq_true,Bool.not_eq_true',beq_iff_eq] at h ⊢
   obtain⟨⟨h1,h2⟩,h3⟩:=h
   obtain⟨h4,h5⟩:=key8_some hk
   have h6:=nodeS_back (id:=id) (l:=l) (by rw [← h1,← h2])
   refine⟨?_,h5,h3⟩
   unfold rowN
   rw [← h6,nodeS_id,← h4,form_texts p.2.length p.2 l (Nat.le_refl _) ht]
theorem readN_row (n:Nd)(hid:n.id≤99999999)(hp:n.parent≤99999999)(hm:mayP (n.parent:Int) n=true): readN (rowN n)=(n,true):=by
 have hs:=may_small hm
 unfold readN rowN
 rw [key8_key n.id hid,texts_form]
 dsimp only
 rw [nodeS_node n (by have:=hs.kind;omega) (by omega) (by have:=hs.born;omega) (by have:=hs.exp;omega) (by have:=hs.level;omega) (by have:=hs.scope.1;omega) (by have:=hs.actors.1;omega)]
 simp [hm]
structure Grown (x:Nat)(l:List Nd)(last:Nat): Prop where
 ok:Ok l
 last:∀n∈l,n.id≤last
 ids:∀n∈l,n.id<x
 may:∀n∈l,mayP (n.parent:Int) n=true
 sec:(l.map (·.secret)).Nodup
theorem Grown.nil (x:Nat): Grown x [] 0:=⟨trivial,by simp,by simp,by simp,by simp⟩
theorem ok_snoc:∀ {l:List Nd} {n:Nd},Ok l→0<n.id→n.parent<n.id→(∀m∈l,m.id<n.id)→Ok (l++[n])
 |[],n,_,h1,h2,_=>⟨h1,h2,by simp,trivial⟩
 |a::l,n,h,h1,h2,h3=>⟨h.1,h.2.1,fun m hm=>by
   rcases List.mem_append.1 hm with hm | hm
   ·exact h.2.2.1 m hm
   ·rw [List.mem_singleton] at hm;subst hm;exact h3 a (by simp),ok_snoc h.2.2.2 h1 h2 fun m hm=>h3 m (List.mem_cons_of_mem _ hm)⟩
theorem Grown.snoc {x:Nat}{l:List Nd}{last:Nat}(h:Grown x l last){n:Nd}(h1:last<n.id)(h2:n.id<x)(h3:n.parent<n.id)(hm:mayP (n.parent:Int) n=true)(hs:∀m∈l,m.secret≠n.secret): Grown x (l++[n]) n.id where
 ok:=ok_snoc h.ok (by omega) h3 fun m hm=>by have:=h.last m hm;omega
 last:=fun m hm=>by
  rcases List.mem_append.1 hm with hm | hm
  ·have:=h.last m hm;omega
  ·rw [List.mem_singleton] at hm;subst hm;exact Nat.le_refl _
 ids:=fun m hm=>by
  rcases List.mem_append.1 hm with hm | hm
  ·exact h.ids m hm
  ·rw [List.mem_singleton] at hm;subst hm;exact h2
 may:=fun m hm2=>by
  rcases List.mem_append.1 hm2 with hm2 | hm2
  ·exact h.may m hm2
  ·rw [List.mem_singleton] at hm2;subst hm2;exact hm
 sec:=by
  rw [List.map_append,List.nodup_append]
  refine⟨h.sec,by simp,fun a ha b hb=>?_⟩
  obtain⟨m,hm3,rfl⟩:=List.mem_map.1 ha
  simp only [List.map_cons,List.map_nil,List.mem_singleton] at hb
  subst hb
  exact hs m hm3
theorem small_mid {n:Nd}(h:Small n): Mid n:=⟨by have:=h.subject;omega,by have:=h.client;omega,by have:=h.audience;omega,fun s hs=>by have:=h.scope.2 s hs;omega,fun s hs=>by have:=h.actors.2 s hs;omega,by have:=h.secret;omega,by have:=h.data;omega⟩
theorem Grown.whole {x:Nat}{l:List Nd}{last:Nat}(h:Grown x l last)(hx:1≤x∧x≤99999999)(hl:l.length≤256): Whole l x where
 ok:=h.ok
 next:=hx
 ids:=h.ids
 may:=h.may
 mid:=fun n hn=>by
  have hs:=may_small (h.may n hn)
  have:=h.ids n hn
  have:=(h.ok.mem hn).2
  exact⟨small_mid hs,⟨by have:=hs.kind;omega,by omega,by have:=hs.born;omega,by have:=hs.exp;omega,by have:=hs.level;omega⟩,node_small hs (by omega)⟩
 sec:=h.sec
 few:=hl
theorem whole_rowOk {l:List Nd}{x:Nat}(h:Whole l x): ∀n∈l,RowOk n:=fun n hn=>by
 have hs:=may_small (h.may n hn)
 have hx:=h.ids n hn
 have:=h.next
 have hp:=(h.ok.mem hn).2
 have:=hs.kind
 have:=hs.born
 have:=hs.exp
 have:=hs.level
 exact⟨by omega,⟨by unfold In64;omega,by unfold In64;omega,by unfold In64;omega,by unfold In64;omega,by unfold In64;omega⟩,by have:=hs.scope.1;omega,by have:=hs.actors.1;omega,by have:=node_small hs (by omega);omega⟩
def goN (x:Nat): List Nd→Nat→List (Bs×Bs)→Option (List Nd)
 |acc,_,[]=>some acc
 |acc,last,p::rs=>
  if (readN p).2=true∧(acc.any fun m=>m.secret == (readN p).1.secret)=false∧last<(readN p).1.id∧(readN p).1.id<x∧(readN p).1.parent<(readN p).1.id then goN x (acc++[(readN p).1]) (readN p).1.id rs else none
def loadN (rows:List (Bs×Bs)): Option (List Nd×Nat):=
 match rows with
 |[]=>none
 |r::rs=>
  if 256<rs.length∨r.1≠fwd then none else
  match textsL r.2 with
  |none=>none
  |some l=>if (numS 1 99999999 (l,false)).2=([],false) then (goN (numS 1 99999999 (l,false)).1 [] 0 rs).map fun k=>(k,(numS 1 99999999 (l,false)).1) else none
theorem goN_sound {x:Nat}: ∀(rs:List (Bs×Bs)) {acc:List Nd} {last:Nat} {l:List Nd},goN x acc last rs=some l→Grown x acc last→∃t y,l=acc++t∧rs=t.map rowN∧Grown x l y
 |[],acc,last,l,h,hg=>by
  cases h
  exact⟨[],last,(List.append_nil _).symm,rfl,hg⟩
 |p::rs,acc,last,l,h,hg=>by
  rw [goN] at h
  split at h
  ·rename_i e
   obtain⟨h1,h2,h3,h4,h5⟩:=e
   obtain⟨r1,_,r3⟩:=readN_true h1
   obtain⟨t,y,e1,e2,e3⟩:=goN_sound rs h (hg.snoc h3 h4 h5 r3 fun m hm=>by
    have:=List.any_eq_false.1 h2 m hm
    simpa using this)
   refine⟨(readN p).1::t,y,by rw [e1];simp,?_,e3⟩
   rw [List.map_cons,← r1,e2]
  ·cases h
theorem goN_whole {x:Nat}(hx:x≤99999999): ∀(t acc:List Nd) (last:Nat),Grown x (acc++t) (last+x)→(∀n∈t,last<n.id)→goN x acc last (t.map rowN)=some (acc++t)
 |[],acc,last,_,_=>by simp [goN]
 |n::t,acc,last,h,hl=>by
  have hn:n∈acc++n::t:=by simp
  have hi:=h.ids n hn
  have hp:=(h.ok.mem hn).2
  have hr:=readN_row n (by omega) (by omega) (h.may n hn)
  have hlt:∀m∈t,n.id<m.id:=fun m hm=>by
   have:∀(a:List Nd),Ok (a++n::t)→n.id<m.id:=fun a=>by
    induction a with
    |nil=>exact fun h=>h.2.2.1 m hm
    |cons b a ih=>exact fun h=>ih h.2.2.2
   exact this acc h.ok
  have hs:(acc.any fun m=>m.secret == n.secret)=false:=by
   refine List.any_eq_false.2 fun m hm=>?_
   have h1:=h.sec
   rw [List.map_append,List.nodup_append] at h1
   simpa using h1.2.2 m.secret (List.mem_map.2 ⟨m,hm,rfl⟩) n.secret (by simp)
  rw [List.map_cons,goN,hr,if_pos ⟨rfl,hs,hl n (by simp),hi,hp⟩]
  have e:acc++n::t=(acc++[n])++t:=by simp
  have ih:=goN_whole hx t (acc++[n]) n.id ⟨by rw [← e];exact h.ok,fun m hm=>by rw [← e] at hm;have:=h.ids m hm;omega,by rw [← e];exact h.ids,by rw [← e];exact h.may,by rw [← e];exact h.sec⟩ hlt
  rw [e]
  exact ih
theorem loadN_some {rows:List (Bs×Bs)}{l:List Nd}{x:Nat}(h:loadN rows=some (l,x)): Whole l x∧rows=rowsP l x:=by
 unfold loadN at h
 cases rows with
 |nil=>cases h
 |cons r rs=>
  dsimp only at h
  split at h
  ·cases h
  ·rename_i h0
   cases ht:textsL r.2 with
   |none=>rw [ht] at h;cases h
   |some k=>
    rw [ht] at h
    dsimp only at h
    split at h
    ·rename_i h1
     cases hg:goN (numS 1 99999999 (k,false)).1 [] 0 rs with
     |none=>rw [hg] at h;cases h
     |some l2=>
      rw [hg] at h
      simp only [Option.map_some,Option.some.injEq,Prod.mk.injEq] at h
      obtain⟨rfl,hx⟩:=h
      obtain⟨t,y,e1,e2,e3⟩:=goN_sound rs hg (Grown.nil _)
      rw [List.nil_append] at e1
      subst e1
      obtain⟨n1,n2,n3⟩:=numS_back (pair_eta h1)
      rw [hx] at n1 n2 n3 e3
      refine⟨e3.whole ⟨n2,n3⟩ (by
       have:=congrArg List.length e2
       rw [List.length_map] at this
       omega),?_⟩
      have e4:r.1=fwd:=Classical.byContradiction fun h=>h0 (.inr h)
      have e5:=form_texts r.2.length r.2 k (Nat.le_refl _) ht
      have e6:k=[Lib.decDigits x]:=congrArg Prod.fst n1
      unfold rowsP
      rw [e2]
      congr 1
      refine Prod.ext e4 ?_
      show r.2=nextP x
      unfold nextP numsL
      rw [← e5,e6]
      simp [Lib.itoa_nonneg]
    ·cases h
theorem loadN_rows {l:List Nd}{x:Nat}(h:Whole l x): loadN (rowsP l x)=some (l,x):=by
 unfold loadN rowsP
 dsimp only
 rw [if_neg (by rw [List.length_map];have:=h.few;intro e;rcases e with e | e;omega;exact e rfl)]
 have e:nextP x=formL [Lib.decDigits x]:=by unfold nextP numsL;simp [Lib.itoa_nonneg]
 rw [e,texts_form]
 dsimp only
 rw [numS_dec [] h.next.1 h.next.2 (by decide)]
 dsimp only
 rw [if_pos rfl]
 have h2:=goN_whole h.next.2 l [] 0 ⟨h.ok,fun n hn=>by have:=h.ids n hn;omega,h.ids,h.may,h.sec⟩ fun n hn=>(h.ok.mem hn).1
 rw [List.nil_append] at h2
 show Option.map _ (goN x [] 0 (l.map rowN))=_
 rw [h2]
 rfl
theorem loadN_none {rows:List (Bs×Bs)}(h:loadN rows=none){l:List Nd}{x:Nat}(hw:Whole l x): rows≠rowsP l x:=fun e=>by
 rw [e,loadN_rows hw] at h
 cases h
def LayE (w0:World)(f:Nat)(e:Ending)(w':World): Prop:=(e = .returned (.bool false)∧Below w0.heap.size w0 w')∨∃l x ns,e = .returned (.bool true)∧Whole l x∧nodes ns=l∧Nf w0 w' f ns x
theorem LayE.no {w0 w':World}{f:Nat}(h:Below w0.heap.size w0 w'): LayE w0 f (.returned (.bool false)) w':= .inl ⟨rfl,h⟩
theorem LayE.yes {w0 w':World}{f:Nat}{l:List Nd}{x:Nat}{ns:Ns}(h1:Whole l x)(h2:nodes ns=l)(h3:Nf w0 w' f ns x): LayE w0 f (.returned (.bool true)) w':= .inr ⟨l,x,ns,rfl,h1,h2,h3⟩
set_option maxHeartbeats 16000000 in
theorem lay_some (rows:List (Bs×Bs))(hF:∀p∈rows,p.1.length≤2000000∧p.2.length≤2000000)(hlen:rows.length≤2000000)(w0 w:World)(f:Nat)(hf:Nf w0 w f [] 1)(v:Value)(hv:Rp w0 v rows)(hT:Tb w0)(hM:Mx w0)(hE:Er w0): Calls Tryz.prog 57 #[kpt f,v] w fun e w'=>LayE w0 f e w':=by
 obtain⟨a,c,rfl,hc,hrows⟩:=hv
 obtain⟨N,hN⟩:∃N,N=rows.length:=⟨_,rfl⟩
 rw [← hN] at hc hlen ⊢
 have HWF:=Lib.hid (OwnsB.lt hf.fr (.inl rfl))
 by_cases hz:N=0
 ·have hN0:((N:Int) == 0)=true:=by simp;omega
  have HB:=Lib.hid hf.below
  subst hz
  clear hN hrows hf
  unfold kpt
  go_enter Tryz.func57,Tryz.ntmps57
  go_wp2_with fail
  go_ret
  exact LayE.no HB.out
 have hN0:((N:Int) == 0)=false:=by simp;omega
 by_cases hbig:257<N
 ·have hN1:257<(N:Int):=by omega
  have HB:=Lib.hid hf.below
  clear hN hrows hf hbig hz
  unfold kpt
  go_enter Tryz.func57,Tryz.ntmps57
  go_wp2_with fail
  go_ret
  exact LayE.no HB.out
 have hN1:¬257<(N:Int):=by omega
 have H0:=hrows 0 (by omega)
 obtain⟨q,o,rfl,hp0⟩:=H0
 obtain⟨⟨k0,s0⟩,hr0⟩:∃p,rows[0]'(by omega)=p:=⟨_,rfl⟩
 have hf0:=hF (k0,s0) (hr0▸List.getElem_mem _)
 rw [hr0] at hp0
 have HP0:Hid (w0.rangeAt q o [txt k0,txt s0]):=Lib.hid hp0
 have HPS:Hid (∀i (h:i+1<rows.length),w0.rangeAt q (o+2*(i+1)) [txt rows[i+1].1,txt rows[i+1].2]∧rows[i+1].1.length≤2000000∧rows[i+1].2.length≤2000000):=Lib.hid (fun i hi=>by
  obtain⟨q',o',e,h⟩:=hrows (i+1) hi
  cases e
  exact⟨h,hF _ (List.getElem_mem _)⟩)
 have HR0:=Lib.hid (fun W (hb:Below w0.heap.size w0 W)=>readerOf_some k0 s0 hf0.2 W (hT.below hb) (hM.below hb))
 have HN0:=Lib.hid (fun B g (hg:4≤g) (l:List Bs) (hl:Fine l) W (he:Er W)=>rdnum_some B 29 (by decide) g hg l hl W he)
 have HLN:=Lib.hid hN
 have HT:=Lib.hid hT
 have HM:=Lib.hid hM
 have HE:=Lib.hid hE
 have HF:=Lib.hid hf
 have hNpos:0<N:=by omega
 have hNposI:(0:Int)<(N:Int):=by omega
 have hNposI1:(1:Int)≤(N:Int):=by omega
 clear hrows hp0 hN hT hM hF hz hbig hr0 hf0 hE
 unfold kpt at HR0 HN0 ⊢
 unfold txt at HP0 HPS
 go_enter Tryz.func57,Tryz.ntmps57
 go_wp2_with (refine wpList_load_mid rfl 47 _ rfl q o rfl [.string ⟨k0.toArray⟩,.string ⟨s0.toArray⟩] _ (range_below HP0.out HF.out.below) Tryz.underlying47 rfl i47 ?_)
 refine(HR0.out w HF.out.below).mono ?_
 rintro e w1 ⟨g,l0,rfl,hl0,h1,h2,h3⟩
 have HQ1:=Lib.hid h1
 have HF1:=Lib.hid (HF.out.down h3)
 have HG:=Lib.hid h2
 have HE1:=Lib.hid (HE.out.below HF1.out.below)
 have HG4:Hid (4≤g):=Lib.hid (by have h4:=(HE.out.below HF.out.below).size;omega)
 have HL0:=Lib.hid hl0
 clear h1 h2 h3 HR0 hl0
 go_wp2_with fail
 refine(HN0.out _ g HG4.out l0 HL0.out w1 HE1.out HQ1.out).mono ?_
 rintro e w2 ⟨xi,_,rfl,_,h1,h2⟩
 have HF2:Hid (Nf w0 w2 f [] 1):=Lib.hid (by
  obtain⟨a',c',hk,_⟩:=HQ1.out
  refine⟨HF1.out.fr.apart h2 (fun z hz hw=>?_) (fun z hz cs hb=>?_),HF1.out.below.trans (h2.below HF1.out.below.size (fun z hz=>?_)),fun z hz=>?_,fun z hz=>?_⟩
  ·rw [List.mem_singleton] at hz;subst hz
   rcases hw with rfl | ⟨k,hk2,_⟩ | ⟨n2,c2,x2,hb2⟩
   ·have h3:=HWF.out;have h4:=HG.out;omega
   ·cases hk2
   ·obtain⟨a3,c3,h3,h4⟩:=HF1.out.fr.obj
    have e:=h3.symm.trans hb2
    simp only [Option.some.injEq,Obj.cells.injEq,Array.mk.injEq,List.cons.injEq,Value.slice.injEq] at e
    obtain⟨⟨⟨rfl,_⟩,_⟩,_⟩:=e
    exact owns_ne h4 hk (by decide) rfl
  ·rw [List.mem_singleton] at hz;subst hz
   exact bk_ne hk hb (by decide) rfl
  ·rw [List.mem_singleton] at hz;subst hz
   exact Nat.le_trans HF.out.below.size HG.out
  ·rcases hz with rfl | ⟨k,hk2,_⟩ | ⟨n2,c2,x2,hb2⟩
   ·exact HF1.out.own _ (.inl rfl)
   ·cases hk2
   ·have hne:f∉[g]:=fun hm=>by rw [List.mem_singleton] at hm;have h3:=HWF.out;have h4:=HG.out;omega
    have:=(h2.block f (OwnsB.lt HF1.out.fr (.inl rfl)) hne).symm.trans hb2
    exact HF1.out.own _ (.inr (.inr ⟨_,_,_,this⟩))
  ·obtain⟨k,hk2,_⟩:=hz;cases hk2)
 clear h1 h2 HQ1 HF1 HN0 HG HWF HF HL0 HE1 HG4
 obtain⟨a3,c3,h3,_⟩:=HF2.out.fr.obj
 have f1:w2.frozen? ⟨f,1,none⟩=false:=h3.fro 1
 have d1:w2.cell? ⟨f,1,none⟩=some (.int .i64 1):=h3.cell 1
 have HF3:=Lib.hid (HF2.out.next xi)
 obtain⟨w3,hw3⟩:∃w3,w3=w2.setCell ⟨f,1,none⟩ (.int .i64 xi):=⟨_,rfl⟩
 have d2:w3.cell? ⟨f,1,none⟩=some (.int .i64 xi):=by
  rw [hw3]
  exact(Bk.same (i:=1) (v:= .int .i64 xi) h3).cell 1
 rw [← hw3] at HF3
 have HW3:=Lib.hid hw3
 clear h3 hw3
 by_cases hx1:xi<1
 ·go_wp2_with (first | (rw [← HW3.out]) | fail)
  all_goals (go_ret;exact LayE.no HF3.out.below)
 by_cases hx2:99999999<xi
 ·go_wp2_with (first | (rw [← HW3.out]) | fail)
  all_goals (go_ret;exact LayE.no HF3.out.below)
 obtain⟨x,rfl⟩:=Int.eq_ofNat_of_zero_le (show 0≤xi by omega)
 have HXX:Hid (1≤x∧x≤99999999):=Lib.hid (by omega)
 go_wp2_with (first | (rw [← HW3.out]) | fail)
 ·have hNM:N - 1=0:=by omega
  rw [hNM]
  have HF4:=HF3
  clear hNM f1 d1 d2 HF2 HW3 HP0 HF3
  go_loopw [40] (fun iv wr=>iv = .int .i64 0∧wr=w3) (fun _ _=>0)
  case atStart=>exact⟨rfl,rfl⟩
  case round=>
   obtain⟨rfl,rfl⟩:=hrel
   go_wp2_with fail
   go_ret
   exact LayE.yes ((Grown.nil x).whole HXX.out (by simp)) rfl HF4.out
 ·obtain⟨M,hM⟩:∃M,M=N - 1:=⟨_,rfl⟩
  rw [← hM]
  have HML:Hid (M+1=rows.length∧M≤256):=Lib.hid (by have:=HLN.out;omega)
  clear hM f1 d1 d2 HF2 HW3 HP0
  go_loopw [5,40] (fun lv iv wr=>∃i:Nat,i≤M∧iv = .int .i64 (i:Int)∧∃last:Nat,lv = .int .i64 (last:Int)∧Hid (∃ns,Grown x (nodes ns) last∧ns.length=i∧Nf w0 wr f ns x)) (fun _ iv _=>M - (intOf iv).toNat)
  case atStart=>exact⟨0,Nat.zero_le _,rfl,0,rfl,Lib.hid ⟨[],Grown.nil x,rfl,HF3.out⟩⟩
  case round=>
   obtain⟨i,hi,rfl,last,rfl,HI⟩:=hrel
   clear HF3
   by_cases hlt:i<M
   ·have hltI:(i:Int)<(M:Int):=by omega
    have hil:i+1<rows.length:=by rw [← HML.out.1];omega
    obtain⟨⟨K,F⟩,hkf⟩:∃p,rows[i+1]'hil=p:=⟨_,rfl⟩
    obtain⟨ns,hgr,hnl,hns⟩:=HI.out
    have HGR:=Lib.hid hgr
    have HNS:=Lib.hid hns
    have HNL:=Lib.hid hnl
    obtain⟨hra,hk1,hk2⟩:=HPS.out i hil
    rw [hkf] at hra hk1 hk2
    dsimp only at hra hk1 hk2
    have HRA:Hid (w0.rangeAt q (o+2+i*2) [.string ⟨K.toArray⟩,.string ⟨F.toArray⟩]):=Lib.hid (by
     rw [show o+2*(i+1)=o+2+i*2 by omega] at hra
     exact hra)
    have HNO:=Lib.hid (fun W (hb:Below w0.heap.size w0 W)=>nodeOf_some K F hk1 hk2 W (HT.out.below hb) (HM.out.below hb) (HE.out.below hb))
    obtain⟨w4,hw4⟩:∃w4,w4=wr.alloc (.cells #[.string ⟨#[]⟩,.string ⟨#[]⟩] 47):=⟨_,rfl⟩
    have Z4:Hid (Bk 47 w4 wr.heap.size #[.string ⟨#[]⟩,.string ⟨#[]⟩]):=Lib.hid (by rw [hw4];exact Bk.new rfl)
    obtain⟨w5,hw5⟩:∃w5,w5=w4.setRow wr.heap.size #[.string ⟨K.toArray⟩,.string ⟨F.toArray⟩]:=⟨_,rfl⟩
    have Z5:Hid (Bk 47 w5 wr.heap.size #[.string ⟨K.toArray⟩,.string ⟨F.toArray⟩]):=Lib.hid (by rw [hw5];exact Z4.out.row)
    have B5:Hid (Below wr.heap.size wr w5):=Lib.hid (by rw [hw5,hw4];exact below_row (by go_grown) (Nat.le_refl _))
    have HW4:=Lib.hid hw4
    have HW5:=Lib.hid hw5
    clear hgr hnl hns hra hk1 hk2 hkf hil hw4 hw5 HI
    go_wp2_with (first | refine wpList_load_mid rfl 47 _ rfl q (o+2+i*2) rfl [.string ⟨K.toArray⟩,.string ⟨F.toArray⟩] _ (range_below HRA.out HNS.out.below) Tryz.underlying47 rfl i47 ?_ | (rw [← HW4.out];refine wpList_put rfl 47 _ _ rfl wr.heap.size #[.string ⟨#[]⟩,.string ⟨#[]⟩] _ rfl rfl Z4.out i47 rfl (by simp [Value.oneCell']) ?_) | (rw [← HW5.out];refine wpList_load_row rfl 47 _ rfl wr.heap.size rfl 47 _ (0,0) _ Z5.out Tryz.underlying47 rfl i47 ?_))
    refine(HNO.out w5 (HNS.out.below.trans (B5.out.mono HNS.out.below.size))).mono ?_
    rintro e w6 ⟨ii,pp,n,sa,sc,aa,ac,rfl,hip,hmid,_,t1,t2,b6,v1,v2⟩
    have N6:=Lib.hid ((HNS.out.down B5.out).down b6)
    have HP:Hid (w0.heap.size≤w5.heap.size):=Lib.hid ((HNS.out.down B5.out).below.size)
    have HV:Hid ((∀q,(Value.slice sa n.scope.length sc).ownBlock=some q→w0.heap.size≤q)∧(∀q,(Value.slice aa n.actors.length ac).ownBlock=some q→w0.heap.size≤q)):=Lib.hid ⟨fun q hq=>Nat.le_trans HP.out (v1 q hq),fun q hq=>Nat.le_trans HP.out (v2 q hq)⟩
    have HIP:=Lib.hid hip
    have HMID:=Lib.hid hmid
    obtain⟨w7,hw7⟩:∃w7,w7=w6.alloc (.cells zeroN 31):=⟨_,rfl⟩
    have Z7:Hid (Bk 31 w7 w6.heap.size zeroN):=Lib.hid (by rw [hw7];exact Bk.new rfl)
    obtain⟨W,hW⟩:∃W,W=w7.setRow w6.heap.size #[.int .i64 ii,.int .i64 n.kind,.int .i64 pp,.string ⟨n.subject.toArray⟩,.string ⟨n.client.toArray⟩,.string ⟨n.audience.toArray⟩,.slice sa n.scope.length sc,.int .i64 n.born,.int .i64 n.exp,.bool n.dead,.bool n.spent,.slice aa n.actors.length ac,.int .i64 n.level,.string ⟨n.secret.toArray⟩,.string ⟨n.data.toArray⟩]:=⟨_,rfl⟩
    obtain⟨b,hb⟩:∃b,b=w6.heap.size:=⟨_,rfl⟩
    have K8:Bk 31 W b #[.int .i64 ii,.int .i64 n.kind,.int .i64 pp,.string ⟨n.subject.toArray⟩,.string ⟨n.client.toArray⟩,.string ⟨n.audience.toArray⟩,.slice sa n.scope.length sc,.int .i64 n.born,.int .i64 n.exp,.bool n.dead,.bool n.spent,.slice aa n.actors.length ac,.int .i64 n.level,.string ⟨n.secret.toArray⟩,.string ⟨n.data.toArray⟩]:=by rw [hW,hb];exact Z7.out.row
    have W8:Hid (Below w6.heap.size w6 W):=Lib.hid (by rw [hW,hw7];exact below_row (by go_grown) (Nat.le_refl _))
    have N8:Hid (Nf w0 W f ns x):=Lib.hid (N6.out.down W8.out)
    have U1:Hid (Tx W (.slice sa n.scope.length sc) n.scope):=Lib.hid (t1.below W8.out)
    have U2:Hid (Tx W (.slice aa n.actors.length ac) n.actors):=Lib.hid (t2.below W8.out)
    have HW7:=Lib.hid hw7
    have HWW:=Lib.hid hW
    have KK8:=Lib.hid K8
    have HBB:=Lib.hid hb
    unfold inC txt
    clear t1 t2 b6 v1 v2 HNO B5 HP N6 HRA hw7 hW hb K8 W8 Z5 HW5 HW4 Z4 hip hmid
    go_wp2_with (have hw7:=HW7.out;unfold zeroN at hw7;rw [← hw7];clear hw7;refine wpList_put rfl 31 _ _ rfl w6.heap.size zeroN _ rfl rfl Z7.out i31 rfl (one15 ii pp n sa aa n.scope.length sc n.actors.length ac) ?_;rw [← HWW.out,← HBB.out])
    have K8:=KK8.out
    have k0:=cell_regrown (w:=W) (K8.cell 0)
    have k2:=cell_regrown (w:=W) (K8.cell 2)
    have k13:=cell_regrown (w:=W) (K8.cell 13)
    obtain⟨fa,fc,fo,_⟩:=N8.out.fr.obj
    have kn:=cell_regrown (w:=W) (fo.cell 1)
    have c4:ns.length≤1000000:=by
     have h1:=HNL.out
     have h2:=HML.out.2
     omega
    obtain⟨mb,hmb⟩:∃mb,mayP pp n=mb:=⟨_,rfl⟩
    have HMB:=Lib.hid hmb
    have hMay:Hid (∀d os,Calls Tryz.prog 63 #[.agg #[.int .i64 ii,.int .i64 n.kind,.int .i64 pp,.string ⟨n.subject.toArray⟩,.string ⟨n.client.toArray⟩,.string ⟨n.audience.toArray⟩,.slice sa n.scope.length sc,.int .i64 n.born,.int .i64 n.exp,.bool n.dead,.bool n.spent,.slice aa n.actors.length ac,.int .i64 n.level,.string ⟨n.secret.toArray⟩,.string ⟨n.data.toArray⟩]] (grow (redrawn W d) os) fun e w''=>e = .returned (.bool mb)∧∃p:Regrown,w''=grow (redrawn W p.d) p.os):=Lib.hid (fun d os=>Calls.regrown_of (by
     have hg:Below W.heap.size W (grow (redrawn W d) os):=below_regrown W d os
     have h:=mayBe_any ii pp n _ _ HMID.out (grow (redrawn W d) os) ((U1.out.below hg).rd) ((U2.out.below hg).rd)
     rwa [HMB.out] at h))
    obtain⟨fv,hfv⟩:∃fv,fV ((ns.find? fun k=>k.2.secret == n.secret).map (·.1))=fv:=⟨_,rfl⟩
    have HFV:=Lib.hid hfv
    have hBy:Hid (∀d os,Calls Tryz.prog 64 #[.pointer (some ⟨f,0,none⟩),.string ⟨n.secret.toArray⟩] (grow (redrawn W d) os) fun e w''=>e = .returned fv∧∃p:Regrown,w''=grow (redrawn W p.d) p.os):=Lib.hid (fun d os=>Calls.regrown_of (by
     have hg:Below W.heap.size W (grow (redrawn W d) os):=below_regrown W d os
     have h:=by_any (N8.out.fr.below hg) c4 n.secret
     rw [HFV.out] at h
     exact h))
    clear K8 fo hmb hfv
    by_cases q1:ii≤(last:Int)
    ·have e1:decide (ii≤(last:Int))=true:=decide_eq_true q1
     refine wp_region_quiet_below mixed (by kernel_rfl) ?_
     repeat (first | go_big_quiet_step (first | exact hMay.out _ _ | exact hBy.out _ _) | quiet_step (first | exact hMay.out _ _ | exact hBy.out _ _))
     refine wpQuiet_nil ?_
     intro _ hw'
     obtain⟨⟨dq,osq⟩,hw''⟩:=hw'
     subst hw''
     have B9:Hid (Below W.heap.size W (grow (redrawn W dq) osq)):=Lib.hid (below_regrown W dq osq)
     clear hMay hBy k0 k2 k13 kn
     generalize grow (redrawn W dq) osq=wq at B9 ⊢
     have HBN:=Lib.hid (N8.out.down B9.out).below
     go_wp2_with fail
     go_ret
     exact LayE.no HBN.out
    have e1:decide (ii≤(last:Int))=false:=decide_eq_false q1
    by_cases q2:(x:Int)≤ii
    ·have e2:decide ((x:Int)≤ii)=true:=decide_eq_true q2
     refine wp_region_quiet_below mixed (by kernel_rfl) ?_
     repeat (first | go_big_quiet_step (first | exact hMay.out _ _ | exact hBy.out _ _) | quiet_step (first | exact hMay.out _ _ | exact hBy.out _ _))
     refine wpQuiet_nil ?_
     intro _ hw'
     obtain⟨⟨dq,osq⟩,hw''⟩:=hw'
     subst hw''
     have B9:Hid (Below W.heap.size W (grow (redrawn W dq) osq)):=Lib.hid (below_regrown W dq osq)
     clear hMay hBy k0 k2 k13 kn
     generalize grow (redrawn W dq) osq=wq at B9 ⊢
     have HBN:=Lib.hid (N8.out.down B9.out).below
     go_wp2_with fail
     go_ret
     exact LayE.no HBN.out
    have e2:decide ((x:Int)≤ii)=false:=decide_eq_false q2
    by_cases q3:ii≤pp
    ·have e3:decide (ii≤pp)=true:=decide_eq_true q3
     refine wp_region_quiet_below mixed (by kernel_rfl) ?_
     repeat (first | go_big_quiet_step (first | exact hMay.out _ _ | exact hBy.out _ _) | quiet_step (first | exact hMay.out _ _ | exact hBy.out _ _))
     refine wpQuiet_nil ?_
     intro _ hw'
     obtain⟨⟨dq,osq⟩,hw''⟩:=hw'
     subst hw''
     have B9:Hid (Below W.heap.size W (grow (redrawn W dq) osq)):=Lib.hid (below_regrown W dq osq)
     clear hMay hBy k0 k2 k13 kn
     generalize grow (redrawn W dq) osq=wq at B9 ⊢
     have HBN:=Lib.hid (N8.out.down B9.out).below
     go_wp2_with fail
     go_ret
     exact LayE.no HBN.out
    have e3:decide (ii≤pp)=false:=decide_eq_false q3
    cases mb with
    |false=>
     refine wp_region_quiet_below mixed (by kernel_rfl) ?_
     repeat (first | go_big_quiet_step (first | exact hMay.out _ _ | exact hBy.out _ _) | quiet_step (first | exact hMay.out _ _ | exact hBy.out _ _))
     refine wpQuiet_load_rowG (by first | rfl | decide) 31 _ rfl b rfl 31 _ (0,0) _ (fun w' hw'=>heap_regrown KK8.out hw') Tryz.underlying31 rfl i31 ?_
     repeat (first | go_big_quiet_step (first | exact hMay.out _ _ | exact hBy.out _ _) | quiet_step (first | exact hMay.out _ _ | exact hBy.out _ _))
     refine wpQuiet_nil ?_
     intro _ hw'
     obtain⟨⟨dq,osq⟩,hw''⟩:=hw'
     subst hw''
     have B9:Hid (Below W.heap.size W (grow (redrawn W dq) osq)):=Lib.hid (below_regrown W dq osq)
     clear hMay hBy k0 k2 k13 kn
     generalize grow (redrawn W dq) osq=wq at B9 ⊢
     have HBN:=Lib.hid (N8.out.down B9.out).below
     go_wp2_with fail
     go_ret
     exact LayE.no HBN.out
    |true=>
    cases hfd:ns.find? fun k=>k.2.secret == n.secret with
    |some z=>
     rw [hfd] at HFV
     have hf2:=HFV.out
     simp only [Option.map_some,fV,kpt] at hf2
     subst hf2
     refine wp_region_quiet_below mixed (by kernel_rfl) ?_
     repeat (first | go_big_quiet_step (first | exact hMay.out _ _ | exact hBy.out _ _) | quiet_step (first | exact hMay.out _ _ | exact hBy.out _ _))
     refine wpQuiet_load_rowG (by first | rfl | decide) 31 _ rfl b rfl 31 _ (0,0) _ (fun w' hw'=>heap_regrown KK8.out hw') Tryz.underlying31 rfl i31 ?_
     repeat (first | go_big_quiet_step (first | exact hMay.out _ _ | exact hBy.out _ _) | quiet_step (first | exact hMay.out _ _ | exact hBy.out _ _))
     refine wpQuiet_nil ?_
     intro _ hw'
     obtain⟨⟨dq,osq⟩,hw''⟩:=hw'
     subst hw''
     have B9:Hid (Below W.heap.size W (grow (redrawn W dq) osq)):=Lib.hid (below_regrown W dq osq)
     clear hMay hBy k0 k2 k13 kn
     generalize grow (redrawn W dq) osq=wq at B9 ⊢
     have HBN:=Lib.hid (N8.out.down B9.out).below
     go_wp2_with fail
     go_ret
     exact LayE.no HBN.out
    |none=>
    rw [hfd] at HFV
    have hf2:=HFV.out
    simp only [Option.map_none,fV] at hf2
    subst hf2
    have HFD:=Lib.hid hfd
    clear hfd HFV
    refine wp_region_quiet_below mixed (by kernel_rfl) ?_
    repeat (first | go_big_quiet_step (first | exact hMay.out _ _ | exact hBy.out _ _) | quiet_step (first | exact hMay.out _ _ | exact hBy.out _ _))
    refine wpQuiet_load_rowG (by first | rfl | decide) 31 _ rfl b rfl 31 _ (0,0) _ (fun w' hw'=>heap_regrown KK8.out hw') Tryz.underlying31 rfl i31 ?_
    repeat (first | go_big_quiet_step (first | exact hMay.out _ _ | exact hBy.out _ _) | quiet_step (first | exact hMay.out _ _ | exact hBy.out _ _))
    refine wpQuiet_nil ?_
    intro _ hw'
    obtain⟨⟨dq,osq⟩,hw''⟩:=hw'
    subst hw''
    have B9:Hid (Below W.heap.size W (grow (redrawn W dq) osq)):=Lib.hid (below_regrown W dq osq)
    clear hMay hBy k0 k2 k13 kn
    generalize grow (redrawn W dq) osq=wq at B9 ⊢
    obtain⟨n1,n2⟩:=HIP.out
    have hp0:0≤pp:=by
     have h1:=HMB.out
     unfold mayP at h1
     simp only [Bool.and_eq_true,decide_eq_true_eq] at h1
     omega
    obtain rfl:ii=(n.id:Int):=by rw [n1];omega
    obtain rfl:pp=(n.parent:Int):=by rw [n2];omega
    have HGN:Hid (Grown x (nodes ns++[n]) n.id):=Lib.hid (HGR.out.snoc (by omega) (by omega) (by omega) HMB.out (fun m hm e=>by
     obtain⟨k,hk,rfl⟩:=List.mem_map.1 hm
     have h1:=List.find?_eq_none.1 HFD.out k hk
     exact h1 (by simpa using e)))
    have hfew:ns.length+1≤256:=by have:=HNL.out;have:=HML.out.2;omega
    have HFEW:=Lib.hid hfew
    clear n1 n2 hp0 hfew HIP
    have K9:Hid (Bk 31 wq b #[.int .i64 (n.id:Int),.int .i64 n.kind,.int .i64 (n.parent:Int),.string ⟨n.subject.toArray⟩,.string ⟨n.client.toArray⟩,.string ⟨n.audience.toArray⟩,.slice sa n.scope.length sc,.int .i64 n.born,.int .i64 n.exp,.bool n.dead,.bool n.spent,.slice aa n.actors.length ac,.int .i64 n.level,.string ⟨n.secret.toArray⟩,.string ⟨n.data.toArray⟩]):=Lib.hid (KK8.out.below B9.out)
    have N9:Hid (Nf w0 wq f ns x):=Lib.hid (N8.out.down B9.out)
    have HPut:Hid (Calls Tryz.prog 32 #[.pointer (some ⟨f,0,none⟩),.agg #[.int .i64 (n.id:Int),.int .i64 n.kind,.int .i64 (n.parent:Int),.string ⟨n.subject.toArray⟩,.string ⟨n.client.toArray⟩,.string ⟨n.audience.toArray⟩,.slice sa n.scope.length sc,.int .i64 n.born,.int .i64 n.exp,.bool n.dead,.bool n.spent,.slice aa n.actors.length ac,.int .i64 n.level,.string ⟨n.secret.toArray⟩,.string ⟨n.data.toArray⟩]] wq fun e w'=>e = .returned (.tuple #[])∧∃gn,wq.heap.size≤gn∧FR w' f (ns++[(gn,n)]) x∧Cho wq w' f ns (ns++[(gn,n)])∧∀z,OwnsT w' (ns++[(gn,n)]) z→OwnsT wq ns z∨(Value.slice sa n.scope.length sc).ownBlock=some z∨(Value.slice aa n.actors.length ac).ownBlock=some z):=Lib.hid (put_any N9.out.fr c4 n _ _ HGN.out.ok (U1.out.below B9.out) (U2.out.below B9.out))
    clear c4
    go_wp2_with (refine wpList_load_row rfl 31 _ rfl b rfl 31 _ (0,0) _ K9.out Tryz.underlying31 rfl i31 ?_)
    refine HPut.out.mono ?_
    rintro e w9 ⟨rfl,gn,hg1,hg2,hg3,hg4⟩
    have N10:Hid (Nf w0 w9 f (ns++[(gn,n)]) x):=Lib.hid (by
     obtain⟨L,ho,hL⟩:=hg3.only
     refine⟨hg2,N9.out.below.trans (ho.below N9.out.below.size (fun z hz=>N9.out.own z (hL z hz))),fun z hz=>?_,fun z hz=>?_⟩
     ·exact(hg3.own z hz).elim (N9.out.own z) (fun h2=>Nat.le_trans N9.out.below.size h2)
     ·rcases hg4 z hz with h | h | h
      ·exact N9.out.rows z h
      ·exact HV.out.1 z h
      ·exact HV.out.2 z h)
    have K10:Bk 31 w9 b #[.int .i64 (n.id:Int),.int .i64 n.kind,.int .i64 (n.parent:Int),.string ⟨n.subject.toArray⟩,.string ⟨n.client.toArray⟩,.string ⟨n.audience.toArray⟩,.slice sa n.scope.length sc,.int .i64 n.born,.int .i64 n.exp,.bool n.dead,.bool n.spent,.slice aa n.actors.length ac,.int .i64 n.level,.string ⟨n.secret.toArray⟩,.string ⟨n.data.toArray⟩]:=by
     obtain⟨L,ho,hL⟩:=hg3.only
     exact K9.out.only ho fun hq=>OwnsB.no N9.out.fr (by decide) (by decide) (by decide) K9.out (hL _ hq)
    have c0:w9.cell? ⟨b,0,none⟩=some (.int .i64 (n.id:Int)):=K10.cell 0
    have HNN:Hid (Grown x (nodes (ns++[(gn,n)])) n.id∧(ns++[(gn,n)]).length=i+1):=Lib.hid ⟨by
     have h:=HGN.out
     unfold nodes at h ⊢
     rw [List.map_append]
     exact h,by rw [List.length_append,HNL.out];rfl⟩
    have hM256:M≤256:=HML.out.2
    clear hg1 hg2 hg3 hg4 K10 HPut N9 K9 B9 N8 KK8 U1 U2 HV HNS HGR HGN
    go_wp2_with fail
    go_roundw
    case rel=>exact⟨i+1,by omega,by go_num,n.id,rfl,Lib.hid ⟨ns++[(gn,n)],HNN.out.1,HNN.out.2,N10.out⟩⟩
    case measure=>simp [intOf];omega
   ·have hie:i=M:=by omega
    subst hie
    have hltI:¬(i:Int)<(i:Int):=by omega
    obtain⟨ns,hgr,hnl,hns⟩:=HI.out
    have HNS:=Lib.hid hns
    have HWH:Hid (Whole (nodes ns) x):=Lib.hid (hgr.whole HXX.out (by
     have:=HML.out.2
     simp only [nodes,List.length_map]
     omega))
    clear HI hns hgr hnl
    go_wp2_with fail
    go_ret
    exact LayE.yes HWH.out rfl HNS.out
def Rr (w:World)(g:Nat)(st:Rst): Prop:=∃a c,Bk 93 w g #[.slice a st.1.length c,.bool st.2]∧Tx w (.slice a st.1.length c) st.1∧st.1.length≤c
theorem Rr.below {w w':World}{g:Nat}{st:Rst}(h:Rr w g st)(hb:Below w.heap.size w w'): Rr w' g st:=by
 obtain⟨a,c,h1,h2,h3⟩:=h
 exact⟨a,c,h1.below hb,h2.below hb,h3⟩
theorem val_le {d:Bs}(k:Nat)(h:d.all digitB=true)(hl:d.length≤k): valD d<10 ^ k:=by
 have h1:=val_lt d 0 h
 have h2:10 ^ d.length≤10 ^ k:=Nat.pow_le_pow_right (by decide) hl
 unfold valD
 omega
theorem all_take {s:Bs}{i:Nat}(h:i<s.length)(h1:(s.take i).all digitB=true)(h2:digitB s[i]=true): (s.take (i+1)).all digitB=true:=by
 rw [List.take_add_one,List.getElem?_eq_getElem h,List.all_append,h1]
 simp [h2]
theorem ba_beq (s t:Bs): ((⟨s.toArray⟩:ByteArray) == ⟨t.toArray⟩)=(s == t):=by
 show(s.toArray == t.toArray)=_
 simp
theorem num15_at {s:Bs}{i:Nat}(hi:i<s.length)(h:digitB s[i]=false): num15 s=none:=by
 unfold num15
 rw [if_neg fun e=>by
  have:=List.all_eq_true.1 e.2.2.2 _ (List.getElem_mem hi)
  rw [h] at this
  cases this]
set_option maxHeartbeats 4000000 in
theorem dnumber_any (s:Bs)(w:World): Calls Tryz.prog 92 #[.string ⟨s.toArray⟩] w fun e w'=>e = .returned (.tuple #[.int .i64 (((num15 s).getD 0:Nat):Int),.bool (num15 s).isSome])∧w'=w:=by
 have hz:(⟨s.toArray⟩:ByteArray).size=s.length:=size_ba s
 obtain⟨R,hR⟩:∃R,R=num15 s:=⟨_,rfl⟩
 rw [← hR]
 have HR:=Lib.hid hR
 clear hR
 by_cases h0:s=[]
 ·have hr:R=none:=by rw [HR.out,h0];rfl
  subst hr h0
  have hb:((⟨([]:Bs).toArray⟩:ByteArray) == ⟨#[]⟩)=true:=by decide
  go_enter Tryz.func92,Tryz.ntmps92
  go_wp2_with fail
  go_ret2
  exact⟨rfl,rfl⟩
 ·have e0:(s == [])=false:=by simpa using h0
  by_cases hl:15<s.length
  ·have hr:R=none:=by rw [HR.out];unfold num15;rw [if_neg fun h=>by omega]
   have hlI:(15:Int)<(s.length:Int):=by omega
   subst hr
   clear HR
   go_enter Tryz.func92,Tryz.ntmps92
   go_wp2_with fail
   go_ret2
   exact⟨rfl,rfl⟩
  ·have hlI:¬(15:Int)<(s.length:Int):=by omega
   have hp:0<s.length:=List.length_pos_iff.2 h0
   have hpI:(0:Int)<(s.length:Int):=by omega
   obtain⟨b0,hb0⟩:∃b,s[0]=b:=⟨_,rfl⟩
   obtain⟨x0,hx0⟩:∃x:Int,((((⟨s.toArray⟩:ByteArray)[0]'(by rw [hz];exact hp)).toNat:Nat):Int)=x:=⟨_,rfl⟩
   have hxb0:(b0.toNat:Int)=x0:=by rw [← hx0,← hb0];rfl
   have hhead:s.head?=some b0:=by rw [← hb0,List.head?_eq_getElem?,List.getElem?_eq_getElem hp]
   have eB:=ba_beq s [48]
   by_cases hbad:x0=48∧s≠[48]
   ·have hr:R=none:=by
     rw [HR.out];unfold num15
     rw [if_neg fun h=>hbad.2 (h.2.2.1 (by rw [hhead];congr 1;apply UInt8.toNat_inj.1;have:=hbad.1;show b0.toNat=48;omega))]
    have e1:x0=48:=hbad.1
    have e2:(s == [48])=false:=by simpa using hbad.2
    rw [e2] at eB
    subst hr
    clear HR hb0 hxb0 hhead hbad
    subst e1
    go_enter Tryz.func92,Tryz.ntmps92
    go_wp2_with fail
    go_ret2
    exact⟨rfl,rfl⟩
   ·have hgood:(x0=48∧(s == [48])=true)∨¬x0=48:=by
     by_cases h1:x0=48
     ·exact .inl ⟨h1,by simpa using fun h=>hbad ⟨h1,h⟩⟩
     ·exact .inr h1
    have HC:Hid (s≠[]∧s.length≤15∧(s.head?=some 48→s=[48])):=Lib.hid ⟨h0,by omega,fun h=>by
     rw [hhead] at h
     rcases hgood with h1 | h1
     ·simpa using h1.2
     ·exfalso
      rw [Option.some.inj h] at hxb0
      exact h1 (by rw [← hxb0];rfl)⟩
    clear hb0 hxb0 hhead hbad
    rcases hgood with ⟨g1,g2⟩ | g1
    all_goals (try rw [g2] at eB)
    all_goals (try subst g1)
    all_goals (
     go_enter Tryz.func92,Tryz.ntmps92
     go_wp2_with fail
     go_loopw [4,5] (fun av iv wr=>∃i:Nat,i≤s.length∧iv = .int .i64 (i:Int)∧(∃m:Nat,av = .int .i64 (m:Int)∧Hid (m=valF 0 (s.take i)))∧Hid ((s.take i).all digitB=true)∧wr=w) (fun _ iv _=>s.length - (intOf iv).toNat)
     case atStart=>exact⟨0,Nat.zero_le _,rfl,⟨0,rfl,Lib.hid rfl⟩,Lib.hid rfl,rfl⟩
     case round=>
      obtain⟨i,hi,rfl,⟨m,rfl,HM⟩,HD,rfl⟩:=hrel
      have hl:=HC.out.2.1
      by_cases hlt:i<s.length
      ·have hltI:(i:Int)<(s.length:Int):=by omega
       obtain⟨b,hb⟩:∃b,s[i]=b:=⟨_,rfl⟩
       obtain⟨x,hx⟩:∃x:Int,((((⟨s.toArray⟩:ByteArray)[i]'(by rw [hz];exact hlt)).toNat:Nat):Int)=x:=⟨_,rfl⟩
       have hxb:(b.toNat:Int)=x:=by rw [← hx,← hb];rfl
       have HXB:=Lib.hid hxb
       have HBB:=Lib.hid hb
       clear hxb hb
       by_cases hd:digitB b=true
       ·have hdg:=digit_le hd
        have hx1:¬x<48:=by have:=HXB.out;omega
        have hx2:¬57<x:=by have:=HXB.out;omega
        have HM2:Hid (valF 0 (s.take (i+1))=m*10+(b.toNat - 48)):=Lib.hid (by rw [valF_take hlt,← HM.out,HBB.out])
        have HD2:Hid ((s.take (i+1)).all digitB=true):=Lib.hid (all_take hlt HD.out (by rw [HBB.out];exact hd))
        have hm:m*10+(b.toNat - 48)<1000000000000000:=by
         have h1:=val_le 15 HD2.out (by rw [List.length_take];omega)
         unfold valD at h1
         rw [HM2.out] at h1
         exact h1
        obtain⟨d,hdd⟩:∃d:Nat,x=(d:Int)+48:=⟨b.toNat - 48,by have:=HXB.out;omega⟩
        have hd9:d≤9:=by omega
        have hbd:b.toNat - 48=d:=by have:=HXB.out;omega
        rw [hbd] at hm HM2
        subst hdd
        have w1:IntKind.u8.wrap ((d:Int)+48 - 48)=(d:Int):=by rw [show((d:Int)+48 - 48)=(d:Int) by omega,IntKind.wrap_u8];omega
        clear hdg hbd hd
        go_wp2_with fail
        go_roundw
        case rel=>exact⟨i+1,by omega,by go_num,⟨m*10+d,by go_num,Lib.hid HM2.out.symm⟩,HD2,trivial⟩
        case measure=>simp [intOf];omega
       ·have hr:R=none:=by
         rw [HR.out]
         exact num15_at hlt (by rw [HBB.out];simpa using hd)
        have hxx:x<48∨(¬x<48∧57<x):=by
         have:=HXB.out
         unfold digitB at hd
         simp only [Bool.and_eq_true,decide_eq_true_eq] at hd
         omega
        subst hr
        clear HR hd
        rcases hxx with h1 | ⟨h1,h2⟩
        ·go_wp2_with fail
         go_ret2
         exact⟨rfl,rfl⟩
        ·go_wp2_with fail
         go_ret2
         exact⟨rfl,rfl⟩
      ·have hie:i=s.length:=by omega
       have hltI:¬(i:Int)<(s.length:Int):=by omega
       have hr:R=some m:=by
        have h1:=HD.out
        rw [hie,List.take_length] at h1
        rw [HR.out]
        unfold num15
        rw [if_pos ⟨HC.out.1,HC.out.2.1,HC.out.2.2,h1⟩,HM.out,hie,List.take_length]
        rfl
       subst hr
       clear hie HM HR
       go_wp2_with fail
       go_ret2
       exact⟨by simp,rfl⟩)
end Go.Proofs.YthogppennalobaaGreatDoor
