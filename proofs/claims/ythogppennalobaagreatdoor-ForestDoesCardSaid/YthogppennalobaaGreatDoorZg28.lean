/- The reader of a row -/
import Derived.Test.YthogppennalobaaGreatDoorZg18
import Derived.Test.YthogppennalobaaGreatDoorZg19
import Derived.Test.YthogppennalobaaGreatDoorZg25
import Derived.Test.YthogppennalobaaGreatDoorZg24
import Derived.Test.YthogppennalobaaGreatDoorZg26
import Derived.Test.YthogppennalobaaGreatDoorZg23
import Derived.Test.YthogppennalobaaGreatDoorZg27
set_option linter.unusedVariables false
set_option linter.unusedSimpArgs false
set_option maxRecDepth 100000
namespace Go.Proofs.YthogppennalobaaGreatDoor
open Go.RowKit Go.Sort Forest OwnR TxO Pl
structure OpD where
 on:Int
 kind:Int
 a:Int
 b:Int
 s:Bs
 i:Int
 p:Int
 n:Nd
def opC (d:OpD)(sv av:Value): Array Value:=#[.int .i64 d.on,.int .i64 d.kind,.int .i64 d.a,.int .i64 d.b,.string ⟨d.s.toArray⟩,.int .i64 d.i,.int .i64 d.n.kind,.int .i64 d.p,.string ⟨d.n.subject.toArray⟩,.string ⟨d.n.client.toArray⟩,.string ⟨d.n.audience.toArray⟩,sv,.int .i64 d.n.born,.int .i64 d.n.exp,.bool d.n.dead,.bool d.n.spent,av,.int .i64 d.n.level,.string ⟨d.n.secret.toArray⟩,.string ⟨d.n.data.toArray⟩]
def stepP (l:List Nd)(x:Int)(d:OpD): List Nd×Int:=
 if d.kind=0 then (plantP l x d.p d.n d.a).2.2
 else if d.kind=2 then ((spendP l d.a d.b).2,x)
 else if d.kind=3 then ((killP l d.a).2,x)
 else if d.kind=4 then ((killOfP l d.s).2,x)
 else if d.kind=5 then ((liftP l d.a d.b).2,x)
 else if d.kind=6 then ((noteP l d.a d.s).2,x)
 else if d.kind=7 then (prune l d.a,x)
 else (l,x)
structure Xn (w0 w:World)(g:Nat)(rs:List (Nd×Value×Value))(y:Int): Prop where
 xr:Xr w g rs y
 base:w0.heap.size≤g
 rows:∀r∈rs,∀q,r.2.1.ownBlock=some q∨r.2.2.ownBlock=some q→q<w.heap.size
theorem Xr.left {W w':World}{f g:Nat}{ns ns':Ns}{x y:Int}{rs:List (Nd×Value×Value)}(h:FR W f ns x)(k:Xr W g rs y)(hc:Chf W w' f ns ns'): Xr w' g rs y:=by
 obtain⟨L,ho,hL⟩:=hc.only
 obtain⟨v,k1,k2⟩:=k
 have ht:∀ {v:Value} {l:List Bs},Tx W v l→Tx w' v l:=fun hx=>hx.only ho fun z hz hm=>by
  obtain⟨_,cs,hb⟩:=TxO.owns_block hx hz
  exact OwnsB.no h (by decide) (by decide) (by decide) hb (hL z hm)
 refine⟨v,hc.keep h k1 (by decide) (by decide) (by decide),OwnR.owns_only k2.1 ho fun z hz hm=>?_,fun r hr=>⟨ht (k2.2 r hr).1,ht (k2.2 r hr).2⟩⟩
 obtain⟨_,cs,hb⟩:=OwnR.owns_block k2.1 hz
 exact OwnsB.no h (by decide) (by decide) (by decide) hb (hL z hm)
theorem Nf.right {w0 W w':World}{f g:Nat}{ns:Ns}{x:Int}{cs:Array Value}(h:Nf w0 W f ns x)(hk:Bk 40 W g cs)(hb:w0.heap.size≤g)(ho:Only [g] W w'): Nf w0 w' f ns x:=by
 have hOwn:∀q,OwnsB W f ns q→q∉[g]:=fun q hq e=>by
  rw [List.mem_singleton] at e
  exact OwnsB.no h.fr (by decide) (by decide) (by decide) hk (e▸hq)
 refine⟨h.fr.apart ho (fun q hq h2=>hOwn q h2 hq) (fun q hq cs h=>by rw [List.mem_singleton] at hq;subst hq;exact bk_ne hk h (by decide) rfl),h.below.trans (ho.below h.below.size (fun q hq=>by rw [List.mem_singleton] at hq;omega)),fun q hq=>?_,fun q hq=>?_⟩
 ·exact h.own q (hq.same (ho.block f (OwnsB.lt h.fr (.inl rfl)) (hOwn f (.inl rfl))))
 ·exact h.rows q (hq.same fun k hk=>ho.block k.1 (OwnsB.lt h.fr (.inr (.inl ⟨k,hk,rfl⟩))) (hOwn k.1 (.inr (.inl ⟨k,hk,rfl⟩))))
theorem Xn.down {w0 w w':World}{g:Nat}{rs:List (Nd×Value×Value)}{y:Int}(h:Xn w0 w g rs y)(hb:Below w.heap.size w w'): Xn w0 w' g rs y:=⟨h.xr.below hb,h.base,fun r hr q hq=>Nat.lt_of_lt_of_le (h.rows r hr q hq) hb.size⟩
theorem Xn.left {w0 W w':World}{f g:Nat}{ns ns':Ns}{x y:Int}{rs:List (Nd×Value×Value)}(h:FR W f ns x)(k:Xn w0 W g rs y)(hc:Chf W w' f ns ns'): Xn w0 w' g rs y:=
 ⟨Xr.left h k.xr hc,k.base,fun r hr q hq=>Nat.lt_of_lt_of_le (k.rows r hr q hq) (by obtain⟨L,ho,_⟩:=hc.only;exact ho.size)⟩
theorem Xn.kin {w0 W w':World}{g:Nat}{y y':Int}{rs rs':List (Nd×Value×Value)}(k:Xn w0 W g rs y)(h:Xr w' g rs' y')(hk:Kin rs' rs)(ho:Only [g] W w'): Xn w0 w' g rs' y':=
 ⟨h,k.base,fun r hr q hq=>by
  obtain⟨z,hz,e⟩:=hk r hr
  rw [← e] at hq
  exact Nat.lt_of_lt_of_le (k.rows z hz q hq) ho.size⟩
structure Two (w0 w:World)(f g:Nat)(l m:List Nd)(x y:Int): Prop where
 a:∃ns,nodes ns=l∧Nf w0 w f ns x
 b:∃rs,nds rs=m∧Xn w0 w g rs y
theorem xr_bk {w:World}{g:Nat}{rs:List (Nd×Value×Value)}{y:Int}(h:Xr w g rs y): ∃cs,Bk 40 w g cs:=by
 obtain⟨v,h,_⟩:=h
 exact⟨_,h⟩
def Keep3 (w w':World): Prop:=∀b cs,Bk 3 w b cs→Bk 3 w' b cs
theorem Keep3.of {w w':World}(h:Below w.heap.size w w'): Keep3 w w':=fun b cs hb=>hb.below h
theorem Keep3.trans {a b c:World}(h:Keep3 a b)(k:Keep3 b c): Keep3 a c:=fun q cs hq=>k q cs (h q cs hq)
theorem Keep3.chf {W w':World}{f:Nat}{ns ns':Ns}{x:Int}(h:FR W f ns x)(hc:Chf W w' f ns ns'): Keep3 W w':=fun b cs hb=>hc.keep h hb (by decide) (by decide) (by decide)
theorem Keep3.one {w w':World}{g:Nat}{t:TypeId}{cg:Array Value}(hg:Bk t w g cg)(ht:(3:TypeId)≠t)(ho:Only [g] w w'): Keep3 w w':=fun b cs hb=>hb.only ho fun hm=>by rw [List.mem_singleton] at hm;exact bk_ne hb hg ht hm
theorem FR.blocks {w:World}{f:Nat}{ns b:Ns}{x y:Int}(h:FR w f ns x)(k:FR w f b y): ns.map (·.1)=b.map (·.1):=by
 obtain⟨a1,c1,h1,h2⟩:=h.obj
 obtain⟨a2,c2,k1,k2⟩:=k.obj
 have e:=bk_inj h1 k1
 simp only [Array.mk.injEq,List.cons.injEq,Value.slice.injEq,Value.int.injEq,and_true,true_and] at e
 obtain⟨⟨e1,e2,e3⟩,e4⟩:=e
 rw [← e1,← e2,← e3] at k2
 refine List.ext_getElem (by simp [e2]) fun i hi1 hi2=>?_
 have hi3:i<ns.length:=by simpa using hi1
 have hi4:i<b.length:=by simpa using hi2
 obtain⟨z,ez,hz⟩:=OwnR.owns_cell h2 (i:=i) (v:=kpt ns[i].1) (by rw [List.getElem?_map,List.getElem?_eq_getElem hi3];rfl)
 obtain⟨z2,ez2,hz2⟩:=OwnR.owns_cell k2 (i:=i) (v:=kpt b[i].1) (by rw [List.getElem?_map,List.getElem?_eq_getElem hi4];rfl)
 rw [ez] at ez2
 have e5:z=z2:=by simpa using ez2
 rw [← e5,hz] at hz2
 have e6:kpt ns[i].1=kpt b[i].1:=Option.some.inj hz2
 simp only [List.getElem_map]
 unfold kpt at e6
 simpa using e6
theorem OwnsB.blocks {w:World}{f q:Nat}{ns b:Ns}(h:OwnsB w f ns q)(e:ns.map (·.1)=b.map (·.1)): OwnsB w f b q:=by
 rcases h with h | ⟨k,hk,h⟩ | h
 ·exact .inl h
 ·have:q∈b.map (·.1):=by rw [← e];exact List.mem_map.2 ⟨k,hk,h⟩
  obtain⟨k2,hk2,h2⟩:=List.mem_map.1 this
  exact .inr (.inl ⟨k2,hk2,h2⟩)
 ·exact .inr (.inr h)
structure KeepM (f g:Nat)(w w':World): Prop where
 k3:Keep3 w w'
 fr:∀ns x,FR w f ns x→∃ns' x',FR w' f ns' x'
 only:∀ns x,FR w f ns x→∃L,Only L w w'∧∀q∈L,OwnsB w f ns q∨q=g
 own:∀ns x ns' x',FR w f ns x→FR w' f ns' x'→∀q,OwnsB w' f ns' q→OwnsB w f ns q∨w.heap.size≤q
theorem KeepM.of {f g:Nat}{w w':World}(h:Below w.heap.size w w'): KeepM f g w w':=
 ⟨Keep3.of h,fun ns x hf=>⟨ns,x,hf.below h⟩,fun ns x hf=>⟨[],Only.of h,fun q hq=>by cases hq⟩,fun ns x ns' x' hf hf' q hq=>
  .inl ((hq.blocks (hf'.blocks (hf.below h))).same (h.block _ (OwnsB.lt hf (.inl rfl))))⟩
theorem KeepM.trans {f g:Nat}{a b c:World}(h:KeepM f g a b)(k:KeepM f g b c): KeepM f g a c:=by
 refine⟨h.k3.trans k.k3,fun ns x hf=>?_,fun ns x hf=>?_,fun ns x ns' x' hf hf' q hq=>?_⟩
 ·obtain⟨n1,x1,h1⟩:=h.fr ns x hf
  exact k.fr n1 x1 h1
 ·obtain⟨n1,x1,h1⟩:=h.fr ns x hf
  obtain⟨L,hL,hq⟩:=h.only ns x hf
  obtain⟨M,hM,hq2⟩:=k.only n1 x1 h1
  refine⟨L++M.filter (fun z=>decide (z<a.heap.size)),(Only.trans (hL.mono fun z hz=> .inl (List.mem_append_left _ hz)) hM fun z hz=>?_),fun q hm=>?_⟩
  ·by_cases hz2:z<a.heap.size
   ·exact .inl (List.mem_append_right _ (List.mem_filter.2 ⟨hz,by simpa using hz2⟩))
   ·exact .inr (by omega)
  ·rcases List.mem_append.1 hm with hm | hm
   ·exact hq q hm
   ·obtain⟨hm1,hm2⟩:=List.mem_filter.1 hm
    have hm2:q<a.heap.size:=by simpa using hm2
    rcases hq2 q hm1 with h3 | h3
    ·rcases h.own ns x n1 x1 hf h1 q h3 with h4 | h4
     ·exact .inl h4
     ·omega
    ·exact .inr h3
 ·obtain⟨n1,x1,h1⟩:=h.fr ns x hf
  obtain⟨L,hL,_⟩:=h.only ns x hf
  rcases k.own n1 x1 ns' x' h1 hf' q hq with h3 | h3
  ·exact h.own ns x n1 x1 hf h1 q h3
  ·exact .inr (Nat.le_trans hL.size h3)
theorem KeepM.chf {f g:Nat}{W w':World}{ns ns':Ns}{x x':Int}(h:FR W f ns x)(h':FR w' f ns' x')(hc:Chf W w' f ns ns'): KeepM f g W w':=by
 refine⟨Keep3.chf h hc,fun _ _ _=>⟨ns',x',h'⟩,fun n1 x1 h1=>?_,fun n1 x1 n2 x2 h1 h2 q hq=>?_⟩
 ·obtain⟨L,hL,hq⟩:=hc.only
  exact⟨L,hL,fun q hm=> .inl ((hq q hm).blocks (h.blocks h1))⟩
 ·rcases hc.own q (hq.blocks (h2.blocks h')) with h3 | h3
  ·exact .inl (h3.blocks (h.blocks h1))
  ·exact .inr h3
theorem KeepM.one {f g:Nat}{w w':World}{cg:Array Value}(hg:Bk 40 w g cg)(ho:Only [g] w w'): KeepM f g w w':=by
 have hk:∀ns x,FR w f ns x→FR w' f ns x:=fun ns x hf=>hf.apart ho (fun q hq h2=>by rw [List.mem_singleton] at hq;subst hq;exact OwnsB.no hf (by decide) (by decide) (by decide) hg h2) (fun q hq cs h=>by rw [List.mem_singleton] at hq;subst hq;exact bk_ne hg h (by decide) rfl)
 refine⟨Keep3.one hg (by decide) ho,fun ns x hf=>⟨ns,x,hk ns x hf⟩,fun ns x hf=>⟨[g],ho,fun q hq=> .inr (by simpa using hq)⟩,fun ns x ns' x' hf hf' q hq=>?_⟩
 exact .inl ((hq.blocks (hf'.blocks (hk ns x hf))).same (ho.block f (OwnsB.lt hf (.inl rfl)) (fun hm=>by rw [List.mem_singleton] at hm;subst hm;exact OwnsB.no hf (by decide) (by decide) (by decide) hg (.inl rfl))))
theorem FR.blocks2 {w w':World}{f:Nat}{ns b:Ns}{x y:Int}(h:FR w f ns x)(k:FR w' f b y)(e:∀q,OwnsB w f ns q→w'.heap[q]?=w.heap[q]?): ns.map (·.1)=b.map (·.1):=by
 obtain⟨a1,c1,h1,h2⟩:=h.obj
 obtain⟨a2,c2,k1,k2⟩:=k.obj
 have e0:=bk_inj ((e f (.inl rfl)).trans h1) k1
 simp only [Array.mk.injEq,List.cons.injEq,Value.slice.injEq,Value.int.injEq,and_true,true_and] at e0
 obtain⟨⟨e1,e2,e3⟩,e4⟩:=e0
 rw [← e1,← e2,← e3] at k2
 refine List.ext_getElem (by simp [e2]) fun i hi1 hi2=>?_
 have hi3:i<ns.length:=by simpa using hi1
 have hi4:i<b.length:=by simpa using hi2
 obtain⟨z,ez,hz⟩:=OwnR.owns_cell h2 (i:=i) (v:=kpt ns[i].1) (by rw [List.getElem?_map,List.getElem?_eq_getElem hi3];rfl)
 obtain⟨z2,ez2,hz2⟩:=OwnR.owns_cell k2 (i:=i) (v:=kpt b[i].1) (by rw [List.getElem?_map,List.getElem?_eq_getElem hi4];rfl)
 subst ez
 have e5:z=z2:=by simpa using ez2
 have e7:w'.cell? ⟨z,i,none⟩=w.cell? ⟨z,i,none⟩:=World.cell?_of_block (e z (.inr (.inr ⟨_,_,_,h1⟩)))
 rw [← e5,e7,hz] at hz2
 have e6:kpt ns[i].1=kpt b[i].1:=Option.some.inj hz2
 simp only [List.getElem_map]
 unfold kpt at e6
 simpa using e6
theorem KeepM.fresh {f g z:Nat}{w wr w':World}{cs:Array Value}(h:KeepM f g w wr)(hz:Bk 9 wr z cs)(hw:w.heap.size≤z)(ho:Only [z] wr w')(hF:∃ns x,FR w' f ns x): KeepM f g w w':=by
 refine⟨h.k3.trans (Keep3.one hz (by decide) ho),fun _ _ _=>hF,fun ns x hf=>?_,fun ns x ns' x' hf hf' q hq=>?_⟩
 ·obtain⟨L,hL,hq⟩:=h.only ns x hf
  exact⟨L,Only.trans hL ho fun q hm=> .inr (by rw [List.mem_singleton] at hm;subst hm;exact hw),hq⟩
 ·obtain⟨n1,x1,h1⟩:=h.fr ns x hf
  have hn:∀q,OwnsB wr f n1 q→q∉[z]:=fun q hq hm=>by
   rw [List.mem_singleton] at hm
   subst hm
   exact OwnsB.no h1 (by decide) (by decide) (by decide) hz hq
  have hs:∀q,OwnsB wr f n1 q→w'.heap[q]?=wr.heap[q]?:=fun q hq=>ho.block q (OwnsB.lt h1 hq) (hn q hq)
  exact h.own ns x n1 x1 hf h1 q ((hq.blocks (h1.blocks2 hf' hs).symm).same (hs f (.inl rfl)))
theorem KeepM.did {f g:Nat}{w w':World}{K:Prop}(h:KeepM f g w w'): Keep3 w w'∧(K→KeepM f g w w'):=⟨h.k3,fun _=>h⟩
theorem Two.down {w0 w w':World}{f g:Nat}{l m:List Nd}{x y:Int}(h:Two w0 w f g l m x y)(hb:Below w.heap.size w w'): Two w0 w' f g l m x y:=by
 obtain⟨⟨ns,e,h1⟩,⟨rs,e2,h2⟩⟩:=h
 exact⟨⟨ns,e,h1.down hb⟩,⟨rs,e2,h2.down hb⟩⟩
theorem Two.goA {w0 w:World}{f g:Nat}{l m l':List Nd}{x y x':Int}{F:FuncId}{args:Array Value}{r:Value}(h:Two w0 w f g l m x y){t:TypeId}{b:Nat}{cs:Array Value}(hb:Bk t w b cs)(t1:t≠71)(t2:t≠72)(t5:t≠75)
  (hc:∀ns,nodes ns=l→FR w f ns x→Calls Tryz.prog F args w fun e w'=>Ends w f ns x r l' x' e w'):Calls Tryz.prog F args w fun e w'=>e = .returned r∧Two w0 w' f g l' m x' y∧Bk t w' b cs∧KeepM f g w w':=by
 obtain⟨⟨ns,e,h1⟩,⟨rs,e2,h2⟩⟩:=h
 refine(hc ns e h1.fr).mono ?_
 rintro e w' ⟨rfl,ns',e3,f1,c1⟩
 exact⟨rfl,⟨⟨ns',e3,h1.go f1 c1⟩,⟨rs,e2,h2.left h1.fr c1⟩⟩,c1.keep h1.fr hb t1 t2 t5,KeepM.chf h1.fr f1 c1⟩
theorem Two.goB {w0 w:World}{f g:Nat}{l m m':List Nd}{x y y':Int}{F:FuncId}{args:Array Value}{r:Value}(h:Two w0 w f g l m x y){t:TypeId}{b:Nat}{cs:Array Value}(hb:Bk t w b cs)(t4:t≠40)
  (hc:∀rs,nds rs=m→Xr w g rs y→Calls Tryz.prog F args w fun e w'=>Rends w g rs r m' y' e w'):Calls Tryz.prog F args w fun e w'=>e = .returned r∧Two w0 w' f g l m' x y'∧Bk t w' b cs∧KeepM f g w w':=by
 obtain⟨⟨ns,e,h1⟩,⟨rs,e2,h2⟩⟩:=h
 obtain⟨cg,hg⟩:=xr_bk h2.xr
 refine(hc rs e2 h2.xr).mono ?_
 rintro e w' ⟨rfl,rs',e3,f1,ho,hk⟩
 exact⟨rfl,⟨⟨ns,by assumption,h1.right hg h2.base ho⟩,⟨rs',e3,h2.kin f1 hk ho⟩⟩,hb.only ho fun hm=>by rw [List.mem_singleton] at hm;exact bk_ne hb hg t4 hm,KeepM.one hg ho⟩
end Go.Proofs.YthogppennalobaaGreatDoor
