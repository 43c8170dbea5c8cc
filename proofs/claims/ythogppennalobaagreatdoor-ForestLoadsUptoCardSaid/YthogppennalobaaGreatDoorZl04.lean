/- A forest behind changes: of one node, of other things. No condition. Rows of any things, laid by a call. No condition. A row of texts behind a row of the call's own. Form, numbers, flag. Condition: what is written has at most 2^47 bytes. Grow, Concat. Condition: a million texts at the most, and one at least. listed, nextRow Numbers read: Atoi, number. Condition: numbers below 2^47. -/
import Derived.Test.YthogppennalobaaGreatDoorZl03
import Derived.Laws.OwnMore
import Derived.Test.YthogppennalobaaGreatDoorZl01
import Derived.Lib.AppendZeros
import Derived.Laws.Rows
import Derived.Lib.SmallJoins
import Derived.Lib.IndexMore
import Derived.Lib.AtoiAll
set_option linter.unusedVariables false
set_option linter.unusedSimpArgs false
set_option maxRecDepth 100000
namespace Go.Proofs.YthogppennalobaaGreatDoor
open Go.RowKit Go.Sort Forest OwnR TxO
def updN (ns:Ns)(id:Nat)(F:Nd→Nd): Ns:=ns.map fun k=>(k.1,if k.2.id=id then F k.2 else k.2)
def setN (l:List Nd)(id:Nat)(F:Nd→Nd): List Nd:=l.map fun n=>if n.id=id then F n else n
theorem updN_nodes (ns:Ns)(id:Nat)(F:Nd→Nd): nodes (updN ns id F)=setN (nodes ns) id F:=by
 simp [nodes,updN,setN]
theorem updN_len (ns:Ns)(id:Nat)(F:Nd→Nd): (updN ns id F).length=ns.length:=by simp [updN]
theorem updN_fst (ns:Ns)(id:Nat)(F:Nd→Nd): (updN ns id F).map (fun k=>kpt k.1)=ns.map fun k=>kpt k.1:=by simp [updN]
structure Mild (F:Nd→Nd): Prop where
 fix:Fixes F
 scope:∀n,(F n).scope=n.scope
 actors:∀n,(F n).actors=n.actors
theorem Mild.set {F:Nd→Nd}(h:Mild F)(id:Nat): Fixes fun n=>if n.id=id then F n else n:=
 ⟨fun n=>by
  split
  ·exact h.fix.id n
  ·rfl,fun n=>by
  split
  ·exact h.fix.parent n
  ·rfl⟩
theorem updN_block {F:Nd→Nd}(hF:Mild F)(ns:Ns)(id:Nat)(p:Int): blockI (updN ns id F) p=blockI ns p:=by
 unfold blockI updN
 induction ns with
 |nil=>rfl
 |cons k ns ih=>
  have e:(if k.2.id=id then F k.2 else k.2).id=k.2.id:=(hF.set id).id k.2
  simp only [List.map_cons,List.find?_cons,e]
  cases h:((k.2.id:Int) == p) with
  |true=>rfl
  |false=>exact ih
def OwnsB (w:World)(f:Nat)(ns:Ns)(q:Nat): Prop:=q=f∨(∃k∈ns,k.1=q)∨∃n c x,Bk 71 w f #[.slice (some ⟨q,0,none⟩) n c,x]
structure Cho (w w':World)(f:Nat)(ns ns':Ns): Prop where
 only:∃L,Only L w w'∧∀q∈L,OwnsB w f ns q
 own:∀q,OwnsB w' f ns' q→OwnsB w f ns q∨w.heap.size≤q
theorem Cho.trans {w w1 w2:World}{f:Nat}{a b c:Ns}(h:Cho w w1 f a b)(k:Cho w1 w2 f b c): Cho w w2 f a c:=by
 obtain⟨L,hL,h1⟩:=h.only
 obtain⟨M,hM,k1⟩:=k.only
 refine⟨⟨(L++M).filter fun q=>decide (q<w.heap.size),?_,fun q hq=>?_⟩,fun q hq=>?_⟩
 ·refine⟨hM.os.trans hL.os,hM.tape.trans hL.tape,hM.output.trans hL.output,Nat.le_trans hL.size hM.size,fun i hi hn=>?_⟩
  have hn2:i∉L∧i∉M:=by
   rw [List.mem_filter,List.mem_append] at hn
   constructor
   ·intro h;exact hn ⟨.inl h,by simpa using hi⟩
   ·intro h;exact hn ⟨.inr h,by simpa using hi⟩
  exact(hM.block i (Nat.lt_of_lt_of_le hi hL.size) hn2.2).trans (hL.block i hi hn2.1)
 ·rw [List.mem_filter,List.mem_append] at hq
  rcases hq.1 with h2 | h2
  ·exact h1 q h2
  ·rcases h.own q (k1 q h2) with h3 | h3
   ·exact h3
   ·have:=hq.2;simp at this;omega
 ·rcases k.own q hq with h2 | h2
  ·exact h.own q h2
  ·exact .inr (Nat.le_trans hL.size h2)
theorem OwnsB.lt {w:World}{f:Nat}{ns:Ns}{nx:Int}(h:FR w f ns nx){q:Nat}(hq:OwnsB w f ns q): q<w.heap.size:=by
 obtain⟨a,c,h1,h2⟩:=h.obj
 rcases hq with rfl | ⟨k,hk,rfl⟩ | ⟨n,d,x,hq⟩
 ·exact h1.lt
 ·obtain⟨sv,av,h3,_⟩:=h.node k hk
  exact h3.lt
 ·have e:=h1.symm.trans hq
  simp only [Option.some.injEq,Obj.cells.injEq,Array.mk.injEq,List.cons.injEq,Value.slice.injEq] at e
  obtain⟨⟨⟨rfl,_⟩,_⟩,_⟩:=e
  obtain⟨_,cur,h4⟩:=owns_block h2 rfl
  exact h4.lt
theorem OwnsB.same {w w':World}{f q:Nat}{ns:Ns}(h:OwnsB w' f ns q)(e:w'.heap[f]?=w.heap[f]?): OwnsB w f ns q:=by
 rcases h with h | h | ⟨n,c,x,h⟩
 ·exact .inl h
 ·exact .inr (.inl h)
 ·exact .inr (.inr ⟨n,c,x,e.symm.trans h⟩)
theorem Cho.of_below {w w':World}{f:Nat}{ns:Ns}{nx:Int}(h:FR w f ns nx)(hb:Below w.heap.size w w'): Cho w w' f ns ns:=
 ⟨⟨[],.of hb,fun q hq=>by cases hq⟩,fun q hq=> .inl (hq.same (hb.block _ (OwnsB.lt h (.inl rfl))))⟩
def OwnsT (w:World)(ns:Ns)(q:Nat): Prop:=∃k∈ns,∃n sv av up,Bk 75 w k.1 (ndC n sv av up)∧(sv.ownBlock=some q∨av.ownBlock=some q)
theorem ndC_inj {n m:Nd}{a b c x y z:Value}(h:ndC n a b c=ndC m x y z): a=x∧b=y:=by
 unfold ndC at h
 simp only [Array.mk.injEq,List.cons.injEq] at h
 exact⟨h.2.2.2.2.2.2.1,h.2.2.2.2.2.2.2.2.2.2.2.1⟩
theorem bk_inj {t:TypeId}{w:World}{g:Nat}{cs ds:Array Value}(a:Bk t w g cs)(b:Bk t w g ds): cs=ds:=by
 have e:=a.symm.trans b
 simp only [Option.some.injEq,Obj.cells.injEq] at e
 exact e.1
structure Chf (w w':World)(f:Nat)(ns ns':Ns): Prop extends Cho w w' f ns ns' where
 rows:∀q,OwnsT w' ns' q→OwnsT w ns q∨w.heap.size≤q
theorem Chf.trans {w w1 w2:World}{f:Nat}{a b c:Ns}(h:Chf w w1 f a b)(k:Chf w1 w2 f b c): Chf w w2 f a c:=by
 refine⟨h.toCho.trans k.toCho,fun q hq=>?_⟩
 obtain⟨L,hL,_⟩:=h.only
 rcases k.rows q hq with h2 | h2
 ·exact h.rows q h2
 ·exact .inr (Nat.le_trans hL.size h2)
theorem OwnsT.same {w w':World}{ns:Ns}{q:Nat}(h:OwnsT w' ns q)(e:∀k∈ns,w'.heap[k.1]?=w.heap[k.1]?): OwnsT w ns q:=by
 obtain⟨k,hk,n,sv,av,up,h1,h2⟩:=h
 exact⟨k,hk,n,sv,av,up,(e k hk).symm.trans h1,h2⟩
theorem Chf.of_below {w w':World}{f:Nat}{ns:Ns}{nx:Int}(h:FR w f ns nx)(hb:Below w.heap.size w w'): Chf w w' f ns ns:=
 ⟨Cho.of_below h hb,fun q hq=> .inl (hq.same fun k hk=>hb.block _ (OwnsB.lt h (.inr (.inl ⟨k,hk,rfl⟩))))⟩
theorem FR.apart {w w':World}{f:Nat}{ns:Ns}{nx:Int}{L:List Nat}(h:FR w f ns nx)(ho:Only L w w')(hL:∀q∈L,¬OwnsB w f ns q)(h9:∀q∈L,∀cs,¬Bk 9 w q cs): FR w' f ns nx:=by
 obtain⟨a,c,h1,h2⟩:=h.obj
 refine⟨h.ok,⟨a,c,h1.only ho fun hq=>hL _ hq (.inl rfl),owns_only h2 ho fun g hg hq=>?_⟩,fun k hk=>?_⟩
 ·cases a with
  |none=>cases hg
  |some p=>
   obtain⟨_,cur,hb⟩:=owns_block h2 hg
   rcases h2.2 with ⟨hx,_⟩ | ⟨q,cap,cur2,hx,_⟩
   ·cases hx
   ·cases hx
    cases hg
    exact hL _ hq (.inr (.inr ⟨_,_,_,h1⟩))
 ·obtain⟨sv,av,h3,h4,h5⟩:=h.node k hk
  refine⟨sv,av,h3.only ho fun hq=>hL _ hq (.inr (.inl ⟨k,hk,rfl⟩)),h4.only ho fun g hg hq=>?_,h5.only ho fun g hg hq=>?_⟩
  ·obtain⟨_,cur,hb⟩:=owns_block h4 hg
   exact h9 g hq cur hb
  ·obtain⟨_,cur,hb⟩:=owns_block h5 hg
   exact h9 g hq cur hb
theorem OwnsB.no9 {w:World}{f:Nat}{ns:Ns}{nx:Int}(h:FR w f ns nx){q:Nat}(hq:OwnsB w f ns q)(cs:Array Value): ¬Bk 9 w q cs:=by
 intro hb
 obtain⟨a,c,h1,h2⟩:=h.obj
 rcases hq with rfl | ⟨k,hk,rfl⟩ | ⟨n,d,x,hq⟩
 ·exact bk_ne hb h1 (by decide) rfl
 ·obtain⟨sv,av,h3,_⟩:=h.node k hk
  exact bk_ne hb h3 (by decide) rfl
 ·have e:=h1.symm.trans hq
  simp only [Option.some.injEq,Obj.cells.injEq,Array.mk.injEq,List.cons.injEq,Value.slice.injEq] at e
  obtain⟨⟨⟨rfl,_⟩,_⟩,_⟩:=e
  obtain⟨_,cur,h4⟩:=owns_block h2 rfl
  exact bk_ne hb h4 (by decide) rfl
theorem same_block {w:World}{f:Nat}{ns:Ns}{nx:Int}(h:FR w f ns nx){k q:Nat×Nd}(hk:k∈ns)(hq:q∈ns)(e:k.1=q.1): k.2.id=q.2.id:=by
 have h1:=h.id0 k hk
 have h2:=h.id0 q hq
 rw [e] at h1
 have:=h1.symm.trans h2
 simp only [Option.some.injEq,Value.int.injEq] at this
 omega
theorem FR.upd {w w':World}{f:Nat}{ns:Ns}{nx:Int}(h:FR w f ns nx){k:Nat×Nd}(hk:k∈ns){F:Nd→Nd}(hF:Mild F)(ho:Only [k.1] w w')
  (hc:∀sv av up,Bk 75 w k.1 (ndC k.2 sv av up)→Bk 75 w' k.1 (ndC (F k.2) sv av up)):FR w' f (updN ns k.2.id F) nx∧Chf w w' f ns (updN ns k.2.id F):=by
 obtain⟨a,c,h1,h2⟩:=h.obj
 obtain⟨sv0,av0,h30,_⟩:=h.node k hk
 have ht:∀ {v:Value} {l:List Bs},Tx w v l→Tx w' v l:=fun hx=>hx.only ho fun g hg hq=>by
  obtain rfl:=List.mem_singleton.1 hq
  exact owns_ne hx h30 (by decide) hg
 refine⟨⟨?_,⟨a,c,?_,?_⟩,?_⟩,?_⟩
 ·rw [updN_nodes];exact h.ok.map (hF.set _)
 ·rw [updN_len]
  exact h1.only ho fun hq=>bk_ne h1 h30 (by decide) (List.mem_singleton.1 hq)
 ·rw [updN_len,updN_fst]
  exact owns_only h2 ho fun g hg hq=>by
   obtain rfl:=List.mem_singleton.1 hq
   exact owns_ne h2 h30 (by decide) hg
 ·intro q hq
  obtain⟨r,hr,rfl⟩:=List.mem_map.1 hq
  obtain⟨sv,av,h3,h4,h5⟩:=h.node r hr
  by_cases e:r.2.id=k.2.id
  ·have e1:r.1=k.1:=by
    have a1:=block_of h.ok hr
    have a2:=block_of h.ok hk
    rw [e] at a1
    exact Option.some.inj (a1.symm.trans a2)
   have e2:r.2=k.2:=h.ok.same (mem_nodes hr) (mem_nodes hk) e
   refine⟨sv,av,?_,?_,?_⟩
   ·show Bk 75 w' r.1 (ndC (if r.2.id=k.2.id then F r.2 else r.2) sv av (fV (blockI (updN ns k.2.id F) _)))
    rw [if_pos e,updN_block hF,hF.fix.parent,e1,e2]
    rw [e1,e2] at h3
    exact hc _ _ _ h3
   ·show Tx w' sv (if r.2.id=k.2.id then F r.2 else r.2).scope
    rw [if_pos e,hF.scope];exact ht h4
   ·show Tx w' av (if r.2.id=k.2.id then F r.2 else r.2).actors
    rw [if_pos e,hF.actors];exact ht h5
  ·refine⟨sv,av,?_,?_,?_⟩
   ·show Bk 75 w' r.1 (ndC (if r.2.id=k.2.id then F r.2 else r.2) sv av (fV (blockI (updN ns k.2.id F) _)))
    rw [if_neg e,updN_block hF]
    exact h3.only ho fun hq=>e (same_block h hr hk (List.mem_singleton.1 hq))
   ·show Tx w' sv (if r.2.id=k.2.id then F r.2 else r.2).scope
    rw [if_neg e];exact ht h4
   ·show Tx w' av (if r.2.id=k.2.id then F r.2 else r.2).actors
    rw [if_neg e];exact ht h5
 ·refine⟨⟨⟨[k.1],ho,fun q hq=>?_⟩,fun q hq=> .inl ?_⟩,fun q hq=> .inl ?_⟩
  rotate_left 2
  ·obtain⟨r,hr,n,sv,av,up,k1,k2⟩:=hq
   obtain⟨z,hz,rfl⟩:=List.mem_map.1 hr
   obtain⟨sv1,av1,k3,_⟩:=h.node z hz
   by_cases e:z.1=k.1
   ·have e2:z.2=k.2:=h.ok.same (mem_nodes hz) (mem_nodes hk) (same_block h hz hk e)
    rw [e,e2] at k3
    have k4:=hc _ _ _ k3
    dsimp only at k1
    rw [e] at k1
    obtain⟨rfl,rfl⟩:=ndC_inj (bk_inj k4 k1)
    exact⟨k,hk,_,_,_,_,k3,k2⟩
   ·have k4:=k3.only ho fun hq=>e (List.mem_singleton.1 hq)
    obtain⟨rfl,rfl⟩:=ndC_inj (bk_inj k4 k1)
    exact⟨z,hz,_,_,_,_,k3,k2⟩
  ·obtain rfl:=List.mem_singleton.1 hq
   exact .inr (.inl ⟨k,hk,rfl⟩)
  ·rcases hq with hq | ⟨r,hr,rfl⟩ | ⟨n,d,x,hq⟩
   ·exact .inl hq
   ·obtain⟨z,hz,rfl⟩:=List.mem_map.1 hr
    exact .inr (.inl ⟨z,hz,rfl⟩)
   ·refine .inr (.inr ⟨n,d,x,?_⟩)
    exact(ho.block f h1.lt fun hq=>bk_ne h1 h30 (by decide) (List.mem_singleton.1 hq)).symm.trans hq
def Lw (e:TypeId)(z:Nat)(w0 w:World)(v:Value)(n:Nat)(xs:List Value): Prop:=w.ownsRow 0 e z v n xs∧Below w0.heap.size w0 w∧∀k,v.ownBlock=some k→w0.heap.size≤k
theorem Lw.down {e:TypeId}{z n:Nat}{w0 w w':World}{v:Value}{xs:List Value}(h:Lw e z w0 w v n xs)(hb:Below w.heap.size w w'): Lw e z w0 w' v n xs:=
 ⟨owns_below h.1 hb,h.2.1.trans (hb.mono h.2.1.size),h.2.2⟩
theorem Lw.nil (e:TypeId)(z:Nat)(w:World): Lw e z w w (.slice none 0 0) 0 []:=⟨⟨by simp,.inl ⟨rfl,rfl⟩⟩,Below.refl _ _,fun k hk=>by cases hk⟩
theorem Lw.empty (e:TypeId)(z:Nat){w0 w:World}(hb:Below w0.heap.size w0 w): Lw e z w0 (w.alloc (.cells #[] e)) (.slice (some ⟨w.heap.size,0,none⟩) 0 0) 0 []:=
 ⟨⟨by simp,.inr ⟨w.heap.size,0,#[],rfl,Nat.zero_le _,heap_alloc_new w _,Nat.le_refl _,Nat.zero_le _,by simp,by simp⟩⟩,hb.alloc hb.size _,fun k hk=>by cases hk;exact hb.size⟩
theorem Lw.shape {e:TypeId}{z n:Nat}{w0 w:World}{v:Value}{xs:List Value}(h:Lw e z w0 w v n xs): ∃a c,v = .slice a n c:=owns_shape h.1
structure RowT (t e:TypeId)(z b:Nat): Prop where
 u:Tryz.prog.underlying t=some (.slice e)
 i:∃x:Value,(Tryz.prog.info? e).map (fun i=>(i.zero,i.size,i.bytes))=some (some x,z,b)∧x.cells.size=z
 pos:0<z
theorem Lw.app {t e:TypeId}{z b n:Nat}(hT:RowT t e z b){w0 W:World}{v:Value}{xs:List Value}(ty:TypeId)(h:Lw e z w0 W v n xs)(a:Addr)(m c:Nat)(news:List Value)(hl:news.length=m*z)
  (hn:∀j u,news[j]?=some u→W.cell? (a.add j)=some u) (h1:∀u∈news,u.oneCell'=true) (h63:n+m≤maxLen) (hb:(n+m)*b≤140737488355328) :
  ∃v' w',(Builtin.append_ #[t,t] ty #[v,.slice (some a) m c]).run Tryz.prog W = .ok v' w'∧Lw e z w0 w' v' (n+m) (xs++news)∧W.grownBy w' v.ownBlock:=by
 obtain⟨x,hi,hx⟩:=hT.i
 obtain⟨i0,hi,hz0,hz1,hz2⟩:=info_parts hi
 obtain⟨v',w',hrun,ho,hgr,hv,_⟩:=app_own W t ty e i0 x z b hT.u hi hz0 hz1 hz2 hx hT.pos v n xs h.1 a m c news hl hn h1 h63 hb
 refine⟨v',w',hrun,⟨ho,h.2.1.grown hgr h.2.1.size h.2.2,fun q hq=>?_⟩,hgr⟩
 rcases hv with e | e
 ·exact h.2.2 q (e▸hq)
 ·exact Nat.le_trans h.2.1.size (e q hq)
theorem wp_one {t e:TypeId}{z b n:Nat}(hT:RowT t e z b){ops:Array Oper}{rest:List Oper}{o:Oper}{a:Act}{Q:Exit→Act→World→Prop}{w0 W:World}(hgd:o.guard=none)(s x:Operand)(ho:o.op = .call {callee:= .builtin .append,args:=#[s,x],argTypes:=#[t,t]})
  (v:Value) (xs:List Value) (q c:Nat) (cs:Array Value) (hs:a.eval s=v) (hx:a.eval x = .slice (some ⟨q,0,none⟩) 1 c) (hI:Lw e z w0 W v n xs) (hq:Bk e W q cs) (hz:cs.size=z) (h1:cs.all (·.oneCell')=true) (h63:n+1≤4194304) (hb:b≤4096)
  (h:∀v' w',Lw e z w0 w' v' (n+1) (xs++cs.toList)→W.grownBy w' v.ownBlock→wpList Tryz.prog ops Q rest (a.put o.dst v') w'):wpList Tryz.prog ops Q (o::rest) a W:=by
 obtain⟨v',w',hrun,hu,hg⟩:=hI.app hT o.type ⟨q,0,none⟩ 1 c cs.toList (by simp [hz]) (fun j u hj=>by
  rw [at0,hq.cell j]
  simpa using hj) (fun u hu=>by
   have h2:=Array.all_eq_true_iff_forall_mem.1 h1 u (by simpa using hu)
   exact h2) (by unfold maxLen;omega) (by
    have:=Nat.mul_le_mul (show n+1≤4194304 from h63) hb
    omega)
 exact Lib.wpList_append_run W hgd s x t t ho _ _ hs hx v' w' hrun (h v' w' hu hg)
theorem row55:RowT 55 3 1 8:=⟨by kernel_rfl,⟨.int .i64 0,by kernel_rfl,rfl⟩,by decide⟩
theorem row29:RowT 29 9 1 16:=⟨by kernel_rfl,⟨.string ⟨#[]⟩,by kernel_rfl,rfl⟩,by decide⟩
theorem row69:RowT 69 72 1 8:=⟨by kernel_rfl,⟨.pointer none,by kernel_rfl,rfl⟩,by decide⟩
theorem row42:RowT 42 47 2 32:=⟨by kernel_rfl,⟨.agg #[.string ⟨#[]⟩,.string ⟨#[]⟩],by kernel_rfl,rfl⟩,by decide⟩
theorem row37:RowT 37 31 15 184:=⟨by kernel_rfl,⟨.agg zeroN,by kernel_rfl,rfl⟩,by decide⟩
end Go.Proofs.YthogppennalobaaGreatDoor
namespace Go.Proofs.YthogppennalobaaGreatDoor
open Go.RowKit Go.Sort Forest
theorem at_add (b o j:Nat): (⟨b,o,none⟩:Addr).add j=⟨b,o+j,none⟩:=by unfold Addr.add;split<;>simp_all
theorem run_append_noneC {w:World}(base:Nat)(t ty e:TypeId)(i:TypeInfo)(size:Nat)(ht:Tryz.prog.underlying t=some (.slice e))(hi:Tryz.prog.info? e=some i)
  (v:Value) (n c:Nat) (xs:List Value) (hown:w.ownsRow base e size v n xs) :
  (Builtin.append_ #[t,t] ty #[v,.slice none 0 c]).run Tryz.prog w = .ok v w:=by
 rcases hown.2 with ⟨rfl,rfl⟩ | ⟨g,cap,cur,rfl,_,_,hnc,_⟩
 ·simp [Builtin.append_,run_underlying ht,sizeOf,typeInfo,hi,Builtin.lenOf,Builtin.firstCells]
 ·simp [Builtin.append_,run_underlying ht,sizeOf,typeInfo,hi,Builtin.lenOf,Builtin.firstCells,hnc,storeCells]
theorem Lw.appR {w0 W:World}{v:Value}{n:Nat}{xs:List Value}(ty:TypeId)(h:Lw 9 1 w0 W v n xs){x:Value}{l:List Bs}(hx:Rd W x l)(hl:(n+l.length)*16≤140737488355328):
  ∃v' w',(Builtin.append_ #[29,29] ty #[v,x]).run Tryz.prog W = .ok v' w'∧Lw 9 1 w0 w' v' (n+l.length) (xs++l.map txt)∧W.grownBy w' v.ownBlock:=by
 obtain⟨a,c,rfl,hc⟩:=hx
 cases a with
 |none=>
  have hl0:l=[]:=by
   cases l with
   |nil=>rfl
   |cons s l=>
    obtain⟨b,o,e,_⟩:=hc 0 (by simp)
    cases e
  subst hl0
  obtain⟨z,hi,hz⟩:=row29.i
  obtain⟨i0,hi,_,_,_⟩:=info_parts hi
  exact⟨v,W,run_append_noneC 0 29 ty 9 i0 1 row29.u hi v n c xs h.1,by simpa using h,⟨rfl,rfl,rfl,Nat.le_refl _,fun _ _ _=>rfl⟩⟩
 |some d=>
  refine h.app row29 ty d l.length c (l.map txt) (by simp) (fun j u hj=>?_) (fun u hu=>?_) (by unfold maxLen;omega) (by omega)
  ·rw [List.getElem?_map] at hj
   cases hlj:l[j]? with
   |none=>rw [hlj] at hj;cases hj
   |some s=>
    rw [hlj] at hj
    cases hj
    have hjl:j<l.length:=(List.getElem?_eq_some_iff.1 hlj).1
    obtain⟨b,o,e,hcell⟩:=hc j hjl
    cases e
    rw [at_add,hcell]
    rw [List.getElem?_eq_getElem hjl] at hlj
    rw [Option.some.inj hlj]
  ·obtain⟨s,_,rfl⟩:=List.mem_map.1 hu
   rfl
theorem wp_rows {ops:Array Oper}{rest:List Oper}{o:Oper}{a:Act}{Q:Exit→Act→World→Prop}{w0 W:World}{n:Nat}(hgd:o.guard=none)(s x:Operand)(ho:o.op = .call {callee:= .builtin .append,args:=#[s,x],argTypes:=#[29,29]})
  (v u:Value) (xs:List Value) (l:List Bs) (hs:a.eval s=v) (hx:a.eval x=u) (hI:Lw 9 1 w0 W v n xs) (hu:Rd W u l) (hl:(n+l.length)*16≤140737488355328)
  (h:∀v' w',Lw 9 1 w0 w' v' (n+l.length) (xs++l.map txt)→W.grownBy w' v.ownBlock→wpList Tryz.prog ops Q rest (a.put o.dst v') w'):wpList Tryz.prog ops Q (o::rest) a W:=by
 obtain⟨v',w',hrun,h1,h2⟩:=hI.appR o.type hu hl
 exact Lib.wpList_append_run W hgd s x 29 29 ho _ _ hs hx v' w' hrun (h v' w' h1 h2)
theorem Lw.tx {w0 w:World}{v:Value}{l:List Bs}(h:Lw 9 1 w0 w v l.length (l.map txt)): Tx w v l:=Tx.of h.1
def Tb (w : World) : Prop := Lib.TabIs Tryz.prog w "internal/strconv.uint64pow10" .u64 Lib.pow10Tab
theorem Tb.below {w w':World}(h:Tb w)(hb:Below w.heap.size w w'): Tb w':=by
 unfold Tb Lib.TabIs World.var? at *
 cases hg : Tryz.prog.globalNamed "internal/strconv.uint64pow10" with
 |none=>simp [hg] at h
 |some g=>
  simp only [hg,Option.bind_some] at h ⊢
  have hlt:g<w.heap.size:=by
   rcases Nat.lt_or_ge g w.heap.size with h' | h'
   ·exact h'
   ·rw [Array.getElem?_eq_none h'] at h;simp at h
  rw [hb.block g hlt]
  exact h
theorem itoa_any (n:Int)(h0 : -9223372036854775808≤n)(h1:n≤9223372036854775807)(w:World)(hT:Tb w): Calls Tryz.prog 84 #[.int .i64 n] w fun e w'=>e = .returned (.string ⟨(Lib.itoa n).toArray⟩)∧Below w.heap.size w w':=by
 refine(Tryz.strconv_Itoa n h0 h1 w hT).mono ?_
 rintro e w' ⟨rfl,k,os,rfl⟩
 exact⟨rfl,below_regrown w (w.drewN k).drawn os⟩
theorem flag_any (b:Bool)(w:World): Calls Tryz.prog 88 #[.bool b] w fun e w'=>e = .returned (.string ⟨(if b then [49] else [48]:Bs).toArray⟩)∧w'=w:=by
 go_enter Tryz.func88,Tryz.ntmps88
 cases b
 ·go_wp2_with fail
  go_ret
  exact⟨rfl,rfl⟩
 ·go_wp2_with fail
  go_ret
  exact⟨rfl,rfl⟩
theorem one_len (s:Bs): (one s).length=(Lib.decDigits s.length).length+1+s.length:=by unfold one;simp;omega
theorem formL_take (l:List Bs){i:Nat}(hi:i<l.length): formL (l.take (i+1))=formL (l.take i)++one l[i]:=by
 rw [List.take_add_one,List.getElem?_eq_getElem hi,formL_app]
 simp [formL]
theorem formL_take_len (l:List Bs)(i:Nat): (formL (l.take i)).length≤(formL l).length:=by
 have h:=formL_app (l.take i) (l.drop i)
 rw [List.take_append_drop] at h
 rw [h,List.length_append]
 omega
set_option maxHeartbeats 2000000 in
theorem form_any (l:List Bs)(hf:(formL l).length≤140737488355328)(hll:l.length≤140737488355328)(w:World)(v:Value)(hv:Rd w v l)(hT:Tb w): Calls Tryz.prog 82 #[v] w fun e w'=>e = .returned (.string ⟨(formL l).toArray⟩)∧Below w.heap.size w w':=by
 obtain⟨a,c,rfl,hc⟩:=hv
 have HC:=Lib.hid hc
 have HF:=Lib.hid hf
 have HL:=Lib.hid hll
 have HT:=Lib.hid hT
 have HB0:Hid (Bd w.heap.size [] (w.alloc (.cells #[.pointer none,.slice none 0 0] 140))):=Lib.hid (Bd.start w)
 have HW0:Hid (Below w.heap.size w (w.alloc (.cells #[.pointer none,.slice none 0 0] 140))):=Lib.hid (by go_grown)
 obtain⟨B,hB⟩:∃B,B=w.heap.size:=⟨_,rfl⟩
 rw [← hB] at HB0
 have HBB:=Lib.hid hB
 obtain⟨R,hR⟩:∃R,R=formL l:=⟨_,rfl⟩
 rw [← hR]
 have HR:=Lib.hid hR
 clear hR hc hf hT hll
 go_enter Tryz.func82,Tryz.ntmps82
 go_wp2_with fail
 rw [← hB]
 clear hB
 generalize w.alloc (.cells #[.pointer none,.slice none 0 0] 140)=w0 at HB0 HW0 ⊢
 go_loopw [8] (fun iv wr=>∃i:Nat,i≤l.length∧iv = .int .i64 (i:Int)∧Hid (Bd B (formL (l.take i)) wr∧Below w.heap.size w wr)) (fun iv _=>l.length - (intOf iv).toNat)
 case atStart=>exact⟨0,Nat.zero_le _,rfl,Lib.hid ⟨HB0.out,HW0.out⟩⟩
 case round=>
  obtain⟨i,hi,rfl,HI⟩:=hrel
  have hll:=HL.out
  by_cases hlt:i<l.length
  ·obtain⟨s,hse⟩:∃s,l[i]'hlt=s:=⟨_,rfl⟩
   obtain⟨b,o,rfl,c0⟩:=HC.out i hlt
   have c1:wr.cell? ⟨b,o+i,none⟩=some (.string ⟨s.toArray⟩):=by rw [cell_below HI.out.2 c0,hse];rfl
   have hltI:(i:Int)<(l.length:Int):=by omega
   have HTK:Hid (formL (l.take (i+1))=formL (l.take i)++one s):=Lib.hid (by rw [formL_take l hlt,hse])
   have HLEN:Hid ((formL (l.take i)).length+((Lib.decDigits s.length).length+1+s.length)≤140737488355328):=Lib.hid (by
    have h1:=formL_take_len l (i+1)
    rw [HTK.out,List.length_append,one_len] at h1
    have:=HF.out
    omega)
   have hsl:s.length≤140737488355328:=by have:=HLEN.out;omega
   have hsz:(⟨s.toArray⟩:ByteArray).size=s.length:=size_ba s
   have HIT:=Lib.hid (itoa_any (s.length:Int) (by omega) (by omega) wr (HT.out.below HI.out.2))
   rw [Lib.itoa_nonneg] at HIT
   have HSS:=Lib.hid hsl
   have HSE:=Lib.hid hse
   clear c0 hse
   go_wp2_with fail
   refine HIT.out.mono ?_
   rintro e w2 ⟨rfl,hb⟩
   have HB2:Hid (Bd B (formL (l.take i)) w2∧Below w.heap.size w w2):=Lib.hid ⟨HI.out.1.below hb,HI.out.2.trans (hb.mono HI.out.2.size)⟩
   clear hb HIT c1
   have HW1:=Lib.hid (write_s B (formL (l.take i)) ⟨(Lib.decDigits s.length).toArray⟩ w2 HB2.out.1 (by rw [size_ba];have:=HLEN.out;omega))
   simp only [size_ba] at HW1
   go_wp2_with fail
   refine HW1.out.mono ?_
   rintro e w3 ⟨rfl,hb3,hl3,_⟩
   have HB3:Hid (Bd B (formL (l.take i)++Lib.decDigits s.length) w3∧Below w.heap.size w w3):=Lib.hid ⟨by simpa using hb3,HB2.out.2.trans (hl3.mono (Nat.le_of_eq HBB.out.symm))⟩
   clear hb3 hl3 HW1
   have HW2:=Lib.hid (write_b B (formL (l.take i)++Lib.decDigits s.length) 58 w3 HB3.out.1 (by rw [List.length_append];have:=HLEN.out;omega))
   go_wp2_with fail
   refine HW2.out.mono ?_
   rintro e w4 ⟨rfl,hb4,hl4,_⟩
   have HB4:Hid (Bd B (formL (l.take i)++Lib.decDigits s.length++[58]) w4∧Below w.heap.size w w4):=Lib.hid ⟨hb4,HB3.out.2.trans (hl4.mono (Nat.le_of_eq HBB.out.symm))⟩
   clear hb4 hl4 HW2
   have HW3:=Lib.hid (write_s B (formL (l.take i)++Lib.decDigits s.length++[58]) ⟨s.toArray⟩ w4 HB4.out.1 (by rw [size_ba,List.length_append,List.length_append];have:=HLEN.out;simp;omega))
   simp only [size_ba] at HW3
   go_wp2_with fail
   refine HW3.out.mono ?_
   rintro e w5 ⟨rfl,hb5,hl5,_⟩
   have HB5:Hid (Bd B (formL (l.take (i+1))) w5∧Below w.heap.size w w5):=Lib.hid ⟨by rw [HTK.out];unfold one;simpa using hb5,HB4.out.2.trans (hl5.mono (Nat.le_of_eq HBB.out.symm))⟩
   clear hb5 hl5 HW3
   go_wp2_with fail
   go_roundw
   case rel=>exact⟨i+1,by omega,by go_num,HB5⟩
   case measure=>simp [intOf];omega
  ·have hie:i=l.length:=by omega
   have hltI:¬(i:Int)<(l.length:Int):=by omega
   have HS:=Lib.hid (string_b B (formL (l.take i)) wr HI.out.1)
   have HE:Hid (formL (l.take i)=R):=Lib.hid (by rw [hie,List.take_length,HR.out])
   rw [HE.out] at HS
   clear hie
   go_wp2_with fail
   refine HS.out.mono ?_
   rintro e w2 ⟨rfl,hb⟩
   have HB2:=Lib.hid (HI.out.2.trans (hb.mono (Nat.le_of_eq HBB.out.symm)))
   clear hb
   go_wp2_with fail
   go_ret
   exact⟨rfl,HB2.out⟩
def numsL (l:List Int): List Bs:=l.map Lib.itoa
def In64 (x:Int): Prop:= -9223372036854775808≤x∧x≤9223372036854775807
set_option maxHeartbeats 2000000 in
theorem numbers_any (l:List Int)(hl:l.length≤1000000)(hi:∀x∈l,In64 x)(w:World)(a:Option Addr)(c:Nat)(hc:∀i (h:i<l.length),∃b o,a=some ⟨b,o,none⟩∧w.cell? ⟨b,o+i,none⟩=some (.int .i64 l[i]))(hT:Tb w): Calls Tryz.prog 83 #[.slice a l.length c] w fun e w'=>∃v,e = .returned v∧Lw 9 1 w w' v l.length ((numsL l).map txt):=by
 have HC:=Lib.hid hc
 have HI64:=Lib.hid hi
 have HL:=Lib.hid hl
 have HT:=Lib.hid hT
 clear hc hi hT
 go_enter Tryz.func83,Tryz.ntmps83
 go_wp2_with fail
 go_loopw [3,8] (fun sv iv wr=>∃i:Nat,i≤l.length∧iv = .int .i64 (i:Int)∧Hid (Lw 9 1 w wr sv i ((numsL (l.take i)).map txt))) (fun _ iv _=>l.length - (intOf iv).toNat)
 case atStart=>exact⟨0,Nat.zero_le _,rfl,Lib.hid (Lw.nil 9 1 w)⟩
 case round=>
  obtain⟨i,hi,rfl,HI⟩:=hrel
  have hll:=HL.out
  by_cases hlt:i<l.length
  ·obtain⟨x,hx⟩:∃x,l[i]'hlt=x:=⟨_,rfl⟩
   obtain⟨b,o,rfl,c0⟩:=HC.out i hlt
   have c1:wr.cell? ⟨b,o+i,none⟩=some (.int .i64 x):=by rw [cell_below HI.out.2.1 c0,hx]
   have hltI:(i:Int)<(l.length:Int):=by omega
   have h64:=HI64.out x (hx▸List.getElem_mem hlt)
   have HTK:Hid ((numsL (l.take (i+1))).map txt=(numsL (l.take i)).map txt++[txt (Lib.itoa x)]):=Lib.hid (by
    unfold numsL
    rw [List.take_add_one,List.getElem?_eq_getElem hlt,hx];simp)
   have HIT:=Lib.hid (itoa_any x h64.1 h64.2 wr (HT.out.below HI.out.2.1))
   have HD:Hid (i+1≤4194304):=Lib.hid (by omega)
   clear c0 hx h64
   go_wp2_with fail
   refine HIT.out.mono ?_
   rintro e w2 ⟨rfl,hb⟩
   have HI2:Hid (∀o,Lw 9 1 w (w2.alloc o) u3 i ((numsL (l.take i)).map txt)):=Lib.hid fun o=>(HI.out.down hb).down (by go_grown)
   clear hb HIT c1 HI
   go_wp2_with (at_builtin;refine wp_one row29 rfl _ _ rfl u3 ((numsL (l.take i)).map txt) w2.heap.size 1 #[.string ⟨(Lib.itoa x).toArray⟩] rfl rfl (HI2.out _) (Bk.new rfl) rfl (by simp [Value.oneCell']) HD.out (by decide) ?_;intro v' w3 hs3 hg3;have HS3:=Lib.hid hs3;clear hs3 hg3)
   go_roundw
   case rel=>exact⟨i+1,by omega,by go_num,Lib.hid (by rw [HTK.out];exact HS3.out)⟩
   case measure=>simp [intOf];omega
  ·have hie:i=l.length:=by omega
   have hltI:¬(i:Int)<(l.length:Int):=by omega
   have HE:Hid (Lw 9 1 w wr u3 l.length ((numsL l).map txt)):=Lib.hid (by have:=HI.out;rwa [hie,List.take_length] at this)
   clear hie
   go_wp2_with fail
   go_ret
   exact⟨_,rfl,HE.out⟩
theorem zc_size (z:Array Value)(hz:z.size=1)(n:Nat): (Builtin.zeroCells z n).size=n:=by
 unfold Builtin.zeroCells
 simp [hz]
set_option maxHeartbeats 2000000 in
theorem grow_any (n:Nat)(h0:0<n)(h1:n≤1000000)(w:World): Calls Tryz.prog 126 #[.slice none 0 0,.int .i64 (n:Int)] w fun e w'=>∃v,e = .returned v∧Lw 9 1 w w' v 0 []:=by
 obtain⟨i0,hi,hz0,hz1,hz2⟩:=info_parts (show(Tryz.prog.info? 9).map (fun i=>(i.zero,i.size,i.bytes))=some (some (.string ⟨#[]⟩),1,16) by kernel_rfl)
 have hnI:(0:Int)<(n:Int):=by omega
 have hnJ:¬(n:Int)<0:=by omega
 have hz:(Value.string ⟨#[]⟩).cells.size=1:=rfl
 have hrun:=Lib.run_append_nil_zeros (P:=Tryz.prog) w 29 3 29 9 i0 (.string ⟨#[]⟩) .i64 .i64 row29.u (by kernel_rfl) hi hz0 n h0 (by rw [hz1];decide) (by omega) (by rw [hz2];omega)
 have HR:=Lib.hid hrun
 have HB:Hid (Below w.heap.size w (w.drew.alloc (.cells (Builtin.zeroCells (Value.string ⟨#[]⟩).cells n++Builtin.zeroCells (Value.string ⟨#[]⟩).cells (grownCap w n 0 9 - n)) 9))):=Lib.hid (by go_grown)
 have hle:=Lib.hid (show n≤grownCap w n 0 9 from grownCap_ge w n 0 9)
 have HO:Hid (Lw 9 1 w (w.drew.alloc (.cells (Builtin.zeroCells (Value.string ⟨#[]⟩).cells n++Builtin.zeroCells (Value.string ⟨#[]⟩).cells (grownCap w n 0 9 - n)) 9)) (.slice (some ⟨w.heap.size,0,none⟩) 0 (grownCap w n 0 9)) 0 []):=Lib.hid (by
  refine⟨⟨rfl,.inr ⟨w.heap.size,_,_,rfl,Nat.zero_le _,heap_alloc_new w.drew _,Nat.zero_le _,?_,?_,rfl⟩⟩,HB.out,fun k hk=>?_⟩
  ·exact grownCap_le_maxLen w n 0 9 (by unfold maxLen;omega)
  ·rw [Array.size_append,zc_size _ hz,zc_size _ hz]
   have:=hle.out
   omega
  ·cases hk;exact Nat.le_refl _)
 clear hrun
 go_enter Tryz.func126,Tryz.ntmps126
 go_wp2_with (at_builtin;refine Lib.wpList_append_run _ rfl _ _ 29 3 rfl _ _ rfl rfl _ _ HR.out ?_)
 go_ret
 exact⟨_,rfl,HO.out⟩
def RowsIn (w:World)(a:Option Addr)(ls:List (Value×List Bs)): Prop:=∀i (h:i<ls.length),(∃b o,a=some ⟨b,o,none⟩∧w.cell? ⟨b,o+i,none⟩=some ls[i].1)∧Rd w ls[i].1 ls[i].2
def flatT (ls:List (Value×List Bs)): List Bs:=ls.flatMap (·.2)
theorem flatT_take (ls:List (Value×List Bs)){i:Nat}(hi:i<ls.length): flatT (ls.take (i+1))=flatT (ls.take i)++ls[i].2:=by
 unfold flatT
 rw [List.take_add_one,List.getElem?_eq_getElem hi,List.flatMap_append]
 simp
theorem flatT_take_len (ls:List (Value×List Bs))(i:Nat): (flatT (ls.take i)).length≤(flatT ls).length:=by
 have h:flatT ls=flatT (ls.take i)++flatT (ls.drop i):=by
  unfold flatT
  rw [← List.flatMap_append,List.take_append_drop]
 rw [h,List.length_append]
 omega
theorem rd_shape {w:World}{v:Value}{l:List Bs}(h:Rd w v l): ∃a c,v = .slice a l.length c:=by
 obtain⟨a,c,e,_⟩:=h
 exact⟨a,c,e⟩
set_option maxHeartbeats 4000000 in
theorem concat_any (ls:List (Value×List Bs))(hl:ls.length≤1000000)(h0:0<(flatT ls).length)(h1:(flatT ls).length≤1000000)(w:World)(a:Option Addr)(c:Nat)(hr:RowsIn w a ls): Calls Tryz.prog 86 #[.slice a ls.length c] w fun e w'=>∃v,e = .returned v∧Lw 9 1 w w' v (flatT ls).length ((flatT ls).map txt):=by
 have HR:=Lib.hid hr
 have HL:=Lib.hid hl
 obtain⟨N,hN⟩:∃N,N=(flatT ls).length:=⟨_,rfl⟩
 rw [← hN] at h0 h1 ⊢
 have HN:=Lib.hid hN
 have H1:=Lib.hid h1
 have HG:=Lib.hid (fun W=>grow_any N h0 h1 W)
 clear hr hN
 go_enter Tryz.func86,Tryz.ntmps86
 go_wp2_with fail
 go_loopw [3,11] (fun sv iv wr=>∃i:Nat,i≤ls.length∧iv = .int .i64 (i:Int)∧(∃m:Nat,sv = .int .i64 (m:Int)∧Hid (m=(flatT (ls.take i)).length))∧wr=w) (fun _ iv _=>ls.length - (intOf iv).toNat)
 case atStart=>exact⟨0,Nat.zero_le _,rfl,⟨0,rfl,Lib.hid rfl⟩,rfl⟩
 case round=>
  obtain⟨i,hi,rfl,⟨m,rfl,HM⟩,rfl⟩:=hrel
  have hll:=HL.out
  by_cases hlt:i<ls.length
  ·obtain⟨⟨b,o,rfl,c0⟩,hrd⟩:=HR.out i hlt
   obtain⟨ra,rc,e⟩:=rd_shape hrd
   obtain⟨k,hk⟩:∃k,k=(ls[i]'hlt).2.length:=⟨_,rfl⟩
   rw [e,← hk] at c0
   have hltI:(i:Int)<(ls.length:Int):=by omega
   have HM2:Hid (m+k=(flatT (ls.take (i+1))).length):=Lib.hid (by rw [flatT_take ls hlt,List.length_append,← HM.out,hk])
   have hmk:m+k≤1000000:=by
    have h1:=flatT_take_len ls (i+1)
    rw [← HM2.out,← HN.out] at h1
    have:=H1.out
    omega
   clear hrd e hk
   go_wp2_with fail
   go_roundw
   case rel=>exact⟨i+1,by omega,by go_num,⟨m+k,by go_num,HM2⟩,trivial⟩
   case measure=>simp [intOf];omega
  ·have hie:i=ls.length:=by omega
   have hltI:¬(i:Int)<(ls.length:Int):=by omega
   have hmN:m=N:=by rw [HM.out,hie,List.take_length,HN.out]
   subst hmN
   clear hie HM
   have HGG:=Lib.hid (HG.out wr)
   go_wp2_with fail
   refine HGG.out.mono ?_
   rintro e w2 ⟨v,rfl,hlw⟩
   have HLW:=Lib.hid hlw
   clear hlw HGG HG
   obtain⟨wo,hwo⟩:∃x,x=wr:=⟨_,rfl⟩
   subst hwo
   go_wp2_with fail
   go_loopw [6,27] (fun sv iv wr=>∃i:Nat,i≤ls.length∧iv = .int .i64 (i:Int)∧Hid (Lw 9 1 wo wr sv (flatT (ls.take i)).length ((flatT (ls.take i)).map txt))) (fun _ iv _=>ls.length - (intOf iv).toNat)
   case atStart=>exact⟨0,Nat.zero_le _,rfl,HLW⟩
   case round=>
    obtain⟨i,hi,rfl,HI⟩:=hrel
    by_cases hlt:i<ls.length
    ·obtain⟨⟨b,o,rfl,c0⟩,hrd⟩:=HR.out i hlt
     obtain⟨vv,hvv⟩:∃x,x=(ls[i]'hlt).1:=⟨_,rfl⟩
     obtain⟨tl,htl⟩:∃x,x=(ls[i]'hlt).2:=⟨_,rfl⟩
     rw [← hvv] at c0 hrd
     rw [← htl] at hrd
     have c1:wr.cell? ⟨b,o+i,none⟩=some vv:=cell_below HI.out.2.1 c0
     have HRD:Hid (Rd wr vv tl):=Lib.hid (hrd.below HI.out.2.1)
     obtain⟨ra,rc,rfl⟩:=rd_shape hrd
     have hltI:(i:Int)<(ls.length:Int):=by omega
     have HTK:Hid (flatT (ls.take (i+1))=flatT (ls.take i)++tl):=Lib.hid (by rw [flatT_take ls hlt,htl])
     have HB:Hid (((flatT (ls.take i)).length+tl.length)*16≤140737488355328):=Lib.hid (by
      have h1:=flatT_take_len ls (i+1)
      rw [HTK.out,List.length_append,← HN.out] at h1
      have:=H1.out
      omega)
     clear hrd c0 hvv htl
     go_wp2_with (at_builtin;refine wp_rows rfl _ _ rfl u6 (.slice ra tl.length rc) ((flatT (ls.take i)).map txt) tl rfl rfl HI.out HRD.out HB.out ?_;intro v' w3 hs3 hg3;have HS3:=Lib.hid hs3;clear hs3 hg3)
     go_roundw
     case rel=>exact⟨i+1,by omega,by go_num,Lib.hid (by rw [HTK.out,List.length_append,List.map_append];exact HS3.out)⟩
     case measure=>simp [intOf];omega
    ·have hie:i=ls.length:=by omega
     have hltI:¬(i:Int)<(ls.length:Int):=by omega
     have HE:Hid (Lw 9 1 wo wr u6 m ((flatT ls).map txt)):=Lib.hid (by have:=HI.out;rw [hie,List.take_length,← HN.out] at this;exact this)
     clear hie
     go_wp2_with fail
     go_ret
     exact⟨_,rfl,HE.out⟩
def listedL (l:List Bs): List Bs:=Lib.decDigits l.length::l
set_option maxHeartbeats 2000000 in
theorem listed_any (l:List Bs)(hl:l.length≤100000)(w:World)(v:Value)(hv:Rd w v l)(hT:Tb w): Calls Tryz.prog 87 #[v] w fun e w'=>∃v,e = .returned v∧Lw 9 1 w w' v (listedL l).length ((listedL l).map txt):=by
 have HV:=Lib.hid hv
 have HT:=Lib.hid hT
 obtain⟨a,c,rfl,_⟩:=hv
 have HW1:Hid (Below w.heap.size w (w.alloc (.cells #[.int .i64 (l.length:Int)] 3))):=Lib.hid (by go_grown)
 have HN:=Lib.hid (numbers_any [(l.length:Int)] (by simp) (fun x hx=>by rw [List.mem_singleton] at hx;subst hx;unfold In64;omega) (w.alloc (.cells #[.int .i64 (l.length:Int)] 3)) (some ⟨w.heap.size,0,none⟩) 1 (fun i hi=>by
  have:i=0:=by simpa using hi
  subst this
  exact⟨_,_,rfl,(Bk.new (t:=3) rfl).cell 0⟩) (HT.out.below HW1.out))
 have HL:=Lib.hid hl
 simp only [List.length_singleton] at HN
 clear hT
 go_enter Tryz.func87,Tryz.ntmps87
 go_wp2_with fail
 refine HN.out.mono ?_
 rintro e w2 ⟨v2,rfl,h2⟩
 have H2:=Lib.hid h2
 obtain⟨b2,d2,rfl⟩:=h2.shape
 have HW2:Hid (Below w.heap.size w w2):=Lib.hid (HW1.out.trans (h2.2.1.mono HW1.out.size))
 have HC:=Lib.hid (concat_any [(.slice b2 1 d2,numsL [(l.length:Int)]),(.slice a l.length c,l)] (by simp) (by simp [flatT,numsL]) (by simp [flatT,numsL];omega) (w2.alloc (.cells #[.slice b2 1 d2,.slice a l.length c] 29)) (some ⟨w2.heap.size,0,none⟩) 2 (fun i hi=>by
  have hb:Below w2.heap.size w2 (w2.alloc (.cells #[.slice b2 1 d2,.slice a l.length c] 29)):=by go_grown
  have hk:Bk 29 (w2.alloc (.cells #[.slice b2 1 d2,.slice a l.length c] 29)) w2.heap.size #[.slice b2 1 d2,.slice a l.length c]:=Bk.new rfl
  match i,hi with
  |0,_=>exact⟨⟨_,_,rfl,hk.cell 0⟩,(Tx.rd (l:=numsL [(l.length:Int)]) (Lw.tx (l:=numsL [(l.length:Int)]) H2.out)).below hb⟩
  |1,_=>exact⟨⟨_,_,rfl,hk.cell 1⟩,(HV.out.below HW2.out).below hb⟩
  |i+2,hi=>exact absurd hi (by simp)))
 have HFL:Hid (flatT [(Value.slice b2 1 d2,numsL [(l.length:Int)]),(Value.slice a l.length c,l)]=listedL l):=Lib.hid (by simp [flatT,numsL,listedL,Lib.itoa_nonneg])
 rw [HFL.out] at HC
 simp only [List.length_cons,List.length_nil] at HC
 clear h2 HN
 go_wp2_with fail
 refine HC.out.mono ?_
 rintro e w3 ⟨v3,rfl,h3⟩
 have H3:=Lib.hid h3
 obtain⟨b3,d3,rfl⟩:=h3.shape
 have HW3:Hid (Below w.heap.size w (w2.alloc (.cells #[.slice b2 1 d2,.slice a l.length c] 29))):=Lib.hid (HW2.out.trans (by have:=HW2.out.size;go_grown))
 clear h3 HC
 go_wp2_with fail
 go_ret
 refine⟨_,rfl,H3.out.1,HW3.out.trans (H3.out.2.1.mono HW3.out.size),fun k hk=>Nat.le_trans HW3.out.size (H3.out.2.2 k hk)⟩
def nextP (x:Nat): Bs:=formL (numsL [(x:Int)])
theorem dec_len:∀(k u:Nat),u<10 ^ (k+1)→(Lib.decDigits u).length≤k+1
 |0,u,h=>by rw [Lib.decDigits_one (by simpa using h)];exact Nat.le_refl _
 |k+1,u,h=>by
  by_cases h1:u<10
  ·rw [Lib.decDigits_one h1];simp
  ·rw [dec_rec h1,List.length_append,List.length_singleton]
   have:=dec_len k (u / 10) (by rw [Nat.pow_succ] at h;omega)
   omega
theorem nums_len (x:Nat)(hx:x≤99999999): (formL (numsL [(x:Int)])).length≤20:=by
 have h1:=dec_len 7 x (by omega)
 have h2:=dec_len 7 (Lib.decDigits x).length (by omega)
 simp only [numsL,List.map_cons,List.map_nil,formL,List.append_nil,one,Lib.itoa_nonneg,List.length_append,List.length_cons]
 omega
theorem i47:(Tryz.prog.info? 47).map (·.size)=some 2:=by kernel_rfl
theorem ret_cell47 {fn:Func}{R:Ending→World→Prop}{a:Act}{w:World}{p:Tmp}(h:fn.results=#[.cell p 47])(g:Nat)(x y:Value)(hp:a.tmps.getD p undef = .pointer (some ⟨g,0,none⟩))(hk:Bk 47 w g #[x,y])(hd:a.defers=[])(hR:R (.returned (.agg #[x,y])) w): bodyPost Tryz.prog fn R .ret a w:=
 bodyPost_ret (v:= .agg #[x,y]) (results_cell_row h a.tmps w g 47 #[x,y] (0,0) _ hp hk Tryz.underlying47 rfl (by exact i47)) hd hR
set_option maxHeartbeats 2000000 in
theorem nextRow_any (x:Nat)(hx:x≤99999999)(w:World)(hT:Tb w): Calls Tryz.prog 52 #[.int .i64 (x:Int)] w fun e w'=>e = .returned (.agg #[.string ⟨#[102,111,114,101,115,116]⟩,.string ⟨(nextP x).toArray⟩])∧Below w.heap.size w w':=by
 have HT:=Lib.hid hT
 have HX:=Lib.hid hx
 have HL20:=Lib.hid (nums_len x hx)
 have HW1:Hid (Below w.heap.size w ((w.alloc (.cells #[.string ⟨#[]⟩,.string ⟨#[]⟩] 47)).alloc (.cells #[.int .i64 (x:Int)] 3))):=Lib.hid (by go_grown)
 have HK1:Hid (Bk 47 ((w.alloc (.cells #[.string ⟨#[]⟩,.string ⟨#[]⟩] 47)).alloc (.cells #[.int .i64 (x:Int)] 3)) w.heap.size #[.string ⟨#[]⟩,.string ⟨#[]⟩]):=Lib.hid (Bk.alloc (Bk.new rfl))
 have HN:=Lib.hid (numbers_any [(x:Int)] (by simp) (fun y hy=>by rw [List.mem_singleton] at hy;subst hy;unfold In64;omega) ((w.alloc (.cells #[.string ⟨#[]⟩,.string ⟨#[]⟩] 47)).alloc (.cells #[.int .i64 (x:Int)] 3)) (some ⟨w.heap.size+1,0,none⟩) 1 (fun i hi=>by
  have:i=0:=by simpa using hi
  subst this
  exact⟨_,_,rfl,(Bk.new (t:=3) (by show w.heap.size+1=(w.heap.push _).size;rw [Array.size_push])).cell 0⟩) (HT.out.below HW1.out))
 simp only [List.length_singleton] at HN
 obtain⟨g,hg⟩:∃g,g=w.heap.size:=⟨_,rfl⟩
 clear hT hx
 go_enter Tryz.func52,Tryz.ntmps52
 go_wp2_with fail
 refine HN.out.mono ?_
 rintro e w2 ⟨v2,rfl,h2⟩
 have H2:=Lib.hid h2
 obtain⟨b2,d2,rfl⟩:=h2.shape
 have HW2:Hid (Below w.heap.size w w2):=Lib.hid (HW1.out.trans (h2.2.1.mono HW1.out.size))
 have HK2:Hid (Bk 47 w2 w.heap.size #[.string ⟨#[]⟩,.string ⟨#[]⟩]):=Lib.hid (HK1.out.below h2.2.1)
 have HF:=Lib.hid (form_any (numsL [(x:Int)]) (by have:=HL20.out;omega) (by simp [numsL]) w2 (.slice b2 1 d2) (Tx.rd (l:=numsL [(x:Int)]) (Lw.tx (l:=numsL [(x:Int)]) h2)) (HT.out.below HW2.out))
 clear h2 HN HW1 HK1
 go_wp2_with fail
 refine HF.out.mono ?_
 rintro e w3 ⟨rfl,hb⟩
 have HW3:Hid (Below w.heap.size w w3):=Lib.hid (HW2.out.trans (hb.mono HW2.out.size))
 have HK3:=Lib.hid (HK2.out.below hb)
 have c0:=HK3.out.cell 0
 have c1:=HK3.out.cell 1
 have f0:=HK3.out.fro 0
 have f1:=HK3.out.fro 1
 clear hb HF HK2
 go_wp2_with fail
 have k4:Bk 47 ((w3.setCell ⟨w.heap.size,0,none⟩ (.string ⟨#[102,111,114,101,115,116]⟩)).setCell ⟨w.heap.size,1,none⟩ (.string ⟨(formL (numsL [(x:Int)])).toArray⟩)) w.heap.size #[.string ⟨#[102,111,114,101,115,116]⟩,.string ⟨(formL (numsL [(x:Int)])).toArray⟩]:=Bk.same (i:=1) (v:= .string ⟨(formL (numsL [(x:Int)])).toArray⟩) (Bk.same (i:=0) (v:= .string ⟨#[102,111,114,101,115,116]⟩) HK3.out)
 refine ret_cell47 rfl w.heap.size _ _ rfl k4 rfl ⟨rfl,?_⟩
 exact(HW3.out.setCell (p:=⟨w.heap.size,0,none⟩) (Nat.le_refl _) _).setCell (p:=⟨w.heap.size,1,none⟩) (Nat.le_refl _) _
theorem valF_ge:∀(l:Bs) (a:Nat),a≤valF a l
 |[],a=>Nat.le_refl _
 |b::l,a=>Nat.le_trans (by omega) (valF_ge l (a*10+(b.toNat - 48)))
theorem digit_le {b:UInt8}(h:digitB b=true): 48≤b.toNat∧b.toNat≤57:=by
 unfold digitB at h
 simpa using h
theorem pu_val:∀(l:Bs) (a:Nat),(∀b∈l,digitB b=true)→valF a l<1000000000000000000→Lib.parseUint10 a l = .ok (valF a l)
 |[],a,_,_=>rfl
 |b::l,a,hd,hv=>by
  have h1:=digit_le (hd b (by simp))
  have h2:a*10+(b.toNat - 48)≤valF a (b::l):=valF_ge l _
  unfold Lib.parseUint10
  rw [if_pos h1,if_neg (by omega),if_neg (by omega)]
  exact pu_val l _ (fun x hx=>hd x (List.mem_cons_of_mem _ hx)) hv
theorem atoi_dec (n:Nat)(hn:n<1000000000000000000): Lib.atoiAll (Lib.decDigits n) = .ok (n:Int):=by
 have hd:=dec_digit n
 have hv:=dec_val n
 cases hl:Lib.decDigits n with
 |nil=>exact absurd hl (dec_pos n)
 |cons c r=>
  rw [hl] at hd hv
  have hc:=digit_le (hd c (by simp))
  unfold valD at hv
  have hp:=pu_val (c::r) 0 hd (by rw [hv];exact hn)
  unfold Lib.atoiAll
  dsimp only
  rw [if_neg (by omega)]
  unfold Lib.parseMag
  rw [if_neg (by simp),hp]
  dsimp only
  rw [if_neg (by omega),if_neg (by omega),if_neg (by omega),hv]
theorem index_dec (d r:Bs)(h:∀b∈d,b≠58): Lib.index (d++58::r) [58]=d.length:=by
 refine Lib.index_first (by simp) (by simp [Lib.occAt]) fun j hj=>?_
 unfold Lib.occAt
 have h1:=h _ (List.getElem_mem hj)
 rw [List.drop_append_of_le_length (by omega),List.drop_eq_getElem_cons hj,List.cons_append]
 simp [List.isPrefixOf,Ne.symm h1]
theorem cut_dec (d r:Bs)(h:∀b∈d,b≠58): Lib.cut (d++58::r) [58]=(d,r,true):=by
 unfold Lib.cut
 rw [index_dec d r h,if_pos (by omega)]
 simp
theorem valF_take {l:Bs}{i:Nat}(h:i<l.length): valF 0 (l.take (i+1))=valF 0 (l.take i)*10+(l[i].toNat - 48):=by
 rw [List.take_add_one,List.getElem?_eq_getElem h]
 exact valF_app _ _ _
theorem valF_mono (l:Bs): ∀(k i:Nat),i+k≤l.length→valF 0 (l.take i)≤valF 0 (l.take (i+k))
 |0,i,_=>Nat.le_refl _
 |k+1,i,h=>by
  have h1:=valF_mono l k i (by omega)
  have h2:=valF_take (l:=l) (i:=i+k) (by omega)
  rw [show i+(k+1)=i+k+1 by omega,h2]
  omega
set_option maxHeartbeats 2000000 in
theorem number_any (n:Nat)(hn:n≤140737488355328)(w:World)(hT:Tb w): Calls Tryz.prog 148 #[.string ⟨(Lib.decDigits n).toArray⟩] w fun e w'=>e = .returned (.tuple #[.int .i64 (n:Int),.bool true])∧Below w.heap.size w w':=by
 have HIT:=Lib.hid (itoa_any (n:Int) (by omega) (by omega) w hT)
 rw [Lib.itoa_nonneg] at HIT
 have hd:=dec_digit n
 have hv:=dec_val n
 have hl:=dec_len 17 n (by omega)
 obtain⟨s,hs⟩:∃s,s=Lib.decDigits n:=⟨_,rfl⟩
 rw [← hs] at HIT hd hv hl ⊢
 have HD:=Lib.hid hd
 have HV:=Lib.hid hv
 have HN:=Lib.hid hn
 have HL:=Lib.hid hl
 have hz:(⟨s.toArray⟩:ByteArray).size=s.length:=size_ba s
 clear hs hd hv hT
 go_enter Tryz.func148,Tryz.ntmps148
 go_wp2_with fail
 go_loopw [4,8] (fun av iv wr=>∃i:Nat,i≤s.length∧iv = .int .i64 (i:Int)∧(∃m:Nat,av = .int .i64 (m:Int)∧Hid (m=valF 0 (s.take i)))∧wr=w) (fun _ iv _=>s.length - (intOf iv).toNat)
 case atStart=>exact⟨0,Nat.zero_le _,rfl,⟨0,rfl,Lib.hid rfl⟩,rfl⟩
 case round=>
  obtain⟨i,hi,rfl,⟨m,rfl,HM⟩,rfl⟩:=hrel
  have hl:=HL.out
  by_cases hlt:i<s.length
  ·have hltI:(i:Int)<(s.length:Int):=by omega
   obtain⟨b,hb⟩:∃b,s[i]=b:=⟨_,rfl⟩
   obtain⟨x,hx⟩:∃x:Int,((((⟨s.toArray⟩:ByteArray)[i]'(by rw [hz];exact hlt)).toNat:Nat):Int)=x:=⟨_,rfl⟩
   have hxb:(b.toNat:Int)=x:=by rw [← hx,← hb];rfl
   have hdg:=digit_le (HD.out b (hb▸List.getElem_mem hlt))
   have hx1:¬x<48:=by omega
   have hx2:¬57<x:=by omega
   have HM2:Hid (valF 0 (s.take (i+1))=m*10+(b.toNat - 48)):=Lib.hid (by rw [valF_take hlt,← HM.out,hb])
   have hm:m*10+(b.toNat - 48)≤140737488355328:=by
    have h1:=valF_mono s (s.length - (i+1)) (i+1) (by omega)
    rw [HM2.out,show i+1+(s.length - (i+1))=s.length by omega,List.take_length] at h1
    have h2:valF 0 s=n:=HV.out
    have:=HN.out
    omega
   obtain⟨d,hdd⟩:∃d:Nat,x=(d:Int)+48:=⟨b.toNat - 48,by omega⟩
   have hd9:d≤9:=by omega
   have hbd:b.toNat - 48=d:=by omega
   rw [hbd] at hm HM2
   have HXB:=Lib.hid hxb
   subst hdd
   have w1:IntKind.u8.wrap ((d:Int)+48 - 48)=(d:Int):=by rw [show((d:Int)+48 - 48)=(d:Int) by omega,IntKind.wrap_u8];omega
   clear hb hxb hdg hbd
   go_wp2_with fail
   go_roundw
   case rel=>exact⟨i+1,by omega,by go_num,⟨m*10+d,by go_num,Lib.hid HM2.out.symm⟩,trivial⟩
   case measure=>simp [intOf];omega
  ·have hie:i=s.length:=by omega
   have hltI:¬(i:Int)<(s.length:Int):=by omega
   have hmn:m=n:=by
    rw [HM.out,hie,List.take_length]
    exact HV.out
   subst hmn
   clear hie HM
   go_wp2_with fail
   refine HIT.out.mono ?_
   rintro e w2 ⟨rfl,hb⟩
   have HB:=Lib.hid hb
   clear hb
   go_wp2_with fail
   go_ret2
   exact⟨by simp,HB.out⟩
end Go.Proofs.YthogppennalobaaGreatDoor
