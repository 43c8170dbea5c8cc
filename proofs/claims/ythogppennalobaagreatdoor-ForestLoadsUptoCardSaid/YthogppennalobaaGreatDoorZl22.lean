/- The reader of a row The reader of a row The reader of a row The drawn region of does where it asks. No condition. The reader of a row The reader of a row The reader of a row The reader of a row The reader of a row The reader of a row Arguments that are scripts of calls, read as such within the form's reach; what a call leaves that lays new memory alone. No condition. The start of the laws: the lib -/
import Derived.Test.YthogppennalobaaGreatDoorZl18
import Derived.Test.YthogppennalobaaGreatDoorZl20
import Derived.Test.YthogppennalobaaGreatDoorZl21
import Derived.Test.YthogppennalobaaGreatDoorZl07
import Derived.Test.YthogppennalobaaGreatDoorZl15
import Derived.Test.YthogppennalobaaGreatDoorZl02
import Derived.Test.YthogppennalobaaGreatDoorZl10
import Derived.Test.YthogppennalobaaGreatDoorRows
import Derived.WalkKit
import Derived.ProofKit
import Derived.OpenShut
import Derived.HandedShaped
import Derived.Shelf.Vars
import Derived.Deep.DeepHandedRow
import Derived.Deep.DeepWitnessRowRef
import Derived.PinnedBridge
import Derived.Below
import Derived.Lib.SmallJoins
import Derived.SizedLaws
import Derived.ChangeMaps5
import Derived.ShutString
import Derived.Deep.SlicePairs
import Derived.Deep.Strs
import Derived.Carry
import Derived.Test.YthogppennalobaaGreatDoorCards
import Derived.Test.YthogppennalobaaGreatDoorTie
import Derived.Lib.LaidIn
import Derived.Lib.LaidTab
import Derived.Lay
import Derived.Test.YthogppennalobaaGreatDoorZl12
set_option linter.unusedVariables false
set_option linter.unusedSimpArgs false
set_option maxRecDepth 100000
namespace Go.Proofs.YthogppennalobaaGreatDoor
open Go.RowKit Go.Sort Forest OwnR TxO Pl
structure OpD where
 on:Int
 kind:Int
 a:Int
 b:Int
 s:Bs
 i:Int
 p:Int
 n:Nd
def opC (d:OpD)(sv av:Value): Array Value:=#[.int .i64 d.on,.int .i64 d.kind,.int .i64 d.a,.int .i64 d.b,.string ⟨d.s.toArray⟩,.int .i64 d.i,.int .i64 d.n.kind,.int .i64 d.p,.string ⟨d.n.subject.toArray⟩,.string ⟨d.n.client.toArray⟩,.string ⟨d.n.audience.toArray⟩,sv,.int .i64 d.n.born,.int .i64 d.n.exp,.bool d.n.dead,.bool d.n.spent,av,.int .i64 d.n.level,.string ⟨d.n.secret.toArray⟩,.string ⟨d.n.data.toArray⟩]
structure Xn (w0 w:World)(g:Nat)(rs:List (Nd×Value×Value))(y:Int): Prop where
 xr:Xr w g rs y
 base:w0.heap.size≤g
 rows:∀r∈rs,∀q,r.2.1.ownBlock=some q∨r.2.2.ownBlock=some q→q<w.heap.size
theorem Xr.left {W w':World}{f g:Nat}{ns ns':Ns}{x y:Int}{rs:List (Nd×Value×Value)}(h:FR W f ns x)(k:Xr W g rs y)(hc:Chf W w' f ns ns'): Xr w' g rs y:=by
 obtain⟨L,ho,hL⟩:=hc.only
 obtain⟨v,k1,k2⟩:=k
 have ht:∀ {v:Value} {l:List Bs},Tx W v l→Tx w' v l:=fun hx=>hx.only ho fun z hz hm=>by
  obtain⟨_,cs,hb⟩:=TxO.owns_block hx hz
  exact OwnsB.no h (by decide) (by decide) (by decide) hb (hL z hm)
 refine⟨v,hc.keep h k1 (by decide) (by decide) (by decide),OwnR.owns_only k2.1 ho fun z hz hm=>?_,fun r hr=>⟨ht (k2.2 r hr).1,ht (k2.2 r hr).2⟩⟩
 obtain⟨_,cs,hb⟩:=OwnR.owns_block k2.1 hz
 exact OwnsB.no h (by decide) (by decide) (by decide) hb (hL z hm)
theorem Nf.right {w0 W w':World}{f g:Nat}{ns:Ns}{x:Int}{cs:Array Value}(h:Nf w0 W f ns x)(hk:Bk 40 W g cs)(hb:w0.heap.size≤g)(ho:Only [g] W w'): Nf w0 w' f ns x:=by
 have hOwn:∀q,OwnsB W f ns q→q∉[g]:=fun q hq e=>by
  rw [List.mem_singleton] at e
  exact OwnsB.no h.fr (by decide) (by decide) (by decide) hk (e▸hq)
 refine⟨h.fr.apart ho (fun q hq h2=>hOwn q h2 hq) (fun q hq cs h=>by rw [List.mem_singleton] at hq;subst hq;exact bk_ne hk h (by decide) rfl),h.below.trans (ho.below h.below.size (fun q hq=>by rw [List.mem_singleton] at hq;omega)),fun q hq=>?_,fun q hq=>?_⟩
 ·exact h.own q (hq.same (ho.block f (OwnsB.lt h.fr (.inl rfl)) (hOwn f (.inl rfl))))
 ·exact h.rows q (hq.same fun k hk=>ho.block k.1 (OwnsB.lt h.fr (.inr (.inl ⟨k,hk,rfl⟩))) (hOwn k.1 (.inr (.inl ⟨k,hk,rfl⟩))))
theorem Xn.down {w0 w w':World}{g:Nat}{rs:List (Nd×Value×Value)}{y:Int}(h:Xn w0 w g rs y)(hb:Below w.heap.size w w'): Xn w0 w' g rs y:=⟨h.xr.below hb,h.base,fun r hr q hq=>Nat.lt_of_lt_of_le (h.rows r hr q hq) hb.size⟩
theorem Xn.left {w0 W w':World}{f g:Nat}{ns ns':Ns}{x y:Int}{rs:List (Nd×Value×Value)}(h:FR W f ns x)(k:Xn w0 W g rs y)(hc:Chf W w' f ns ns'): Xn w0 w' g rs y:=
 ⟨Xr.left h k.xr hc,k.base,fun r hr q hq=>Nat.lt_of_lt_of_le (k.rows r hr q hq) (by obtain⟨L,ho,_⟩:=hc.only;exact ho.size)⟩
theorem Xn.kin {w0 W w':World}{g:Nat}{y y':Int}{rs rs':List (Nd×Value×Value)}(k:Xn w0 W g rs y)(h:Xr w' g rs' y')(hk:Kin rs' rs)(ho:Only [g] W w'): Xn w0 w' g rs' y':=
 ⟨h,k.base,fun r hr q hq=>by
  obtain⟨z,hz,e⟩:=hk r hr
  rw [← e] at hq
  exact Nat.lt_of_lt_of_le (k.rows z hz q hq) ho.size⟩
structure Two (w0 w:World)(f g:Nat)(l m:List Nd)(x y:Int): Prop where
 a:∃ns,nodes ns=l∧Nf w0 w f ns x
 b:∃rs,nds rs=m∧Xn w0 w g rs y
theorem xr_bk {w:World}{g:Nat}{rs:List (Nd×Value×Value)}{y:Int}(h:Xr w g rs y): ∃cs,Bk 40 w g cs:=by
 obtain⟨v,h,_⟩:=h
 exact⟨_,h⟩
def Keep3 (w w':World): Prop:=∀b cs,Bk 3 w b cs→Bk 3 w' b cs
theorem Keep3.of {w w':World}(h:Below w.heap.size w w'): Keep3 w w':=fun b cs hb=>hb.below h
theorem Keep3.trans {a b c:World}(h:Keep3 a b)(k:Keep3 b c): Keep3 a c:=fun q cs hq=>k q cs (h q cs hq)
theorem Keep3.chf {W w':World}{f:Nat}{ns ns':Ns}{x:Int}(h:FR W f ns x)(hc:Chf W w' f ns ns'): Keep3 W w':=fun b cs hb=>hc.keep h hb (by decide) (by decide) (by decide)
theorem Keep3.one {w w':World}{g:Nat}{t:TypeId}{cg:Array Value}(hg:Bk t w g cg)(ht:(3:TypeId)≠t)(ho:Only [g] w w'): Keep3 w w':=fun b cs hb=>hb.only ho fun hm=>by rw [List.mem_singleton] at hm;exact bk_ne hb hg ht hm
theorem FR.blocks {w:World}{f:Nat}{ns b:Ns}{x y:Int}(h:FR w f ns x)(k:FR w f b y): ns.map (·.1)=b.map (·.1):=by
 obtain⟨a1,c1,h1,h2⟩:=h.obj
 obtain⟨a2,c2,k1,k2⟩:=k.obj
 have e:=bk_inj h1 k1
 simp only [Array.mk.injEq,List.cons.injEq,Value.slice.injEq,Value.int.injEq,and_true,true_and] at e
 obtain⟨⟨e1,e2,e3⟩,e4⟩:=e
 rw [← e1,← e2,← e3] at k2
 refine List.ext_getElem (by simp [e2]) fun i hi1 hi2=>?_
 have hi3:i<ns.length:=by simpa using hi1
 have hi4:i<b.length:=by simpa using hi2
 obtain⟨z,ez,hz⟩:=OwnR.owns_cell h2 (i:=i) (v:=kpt ns[i].1) (by rw [List.getElem?_map,List.getElem?_eq_getElem hi3];rfl)
 obtain⟨z2,ez2,hz2⟩:=OwnR.owns_cell k2 (i:=i) (v:=kpt b[i].1) (by rw [List.getElem?_map,List.getElem?_eq_getElem hi4];rfl)
 rw [ez] at ez2
 have e5:z=z2:=by simpa using ez2
 rw [← e5,hz] at hz2
 have e6:kpt ns[i].1=kpt b[i].1:=Option.some.inj hz2
 simp only [List.getElem_map]
 unfold kpt at e6
 simpa using e6
theorem OwnsB.blocks {w:World}{f q:Nat}{ns b:Ns}(h:OwnsB w f ns q)(e:ns.map (·.1)=b.map (·.1)): OwnsB w f b q:=by
 rcases h with h | ⟨k,hk,h⟩ | h
 ·exact .inl h
 ·have:q∈b.map (·.1):=by rw [← e];exact List.mem_map.2 ⟨k,hk,h⟩
  obtain⟨k2,hk2,h2⟩:=List.mem_map.1 this
  exact .inr (.inl ⟨k2,hk2,h2⟩)
 ·exact .inr (.inr h)
structure KeepM (f g:Nat)(w w':World): Prop where
 k3:Keep3 w w'
 fr:∀ns x,FR w f ns x→∃ns' x',FR w' f ns' x'
 only:∀ns x,FR w f ns x→∃L,Only L w w'∧∀q∈L,OwnsB w f ns q∨q=g
 own:∀ns x ns' x',FR w f ns x→FR w' f ns' x'→∀q,OwnsB w' f ns' q→OwnsB w f ns q∨w.heap.size≤q
theorem KeepM.of {f g:Nat}{w w':World}(h:Below w.heap.size w w'): KeepM f g w w':=
 ⟨Keep3.of h,fun ns x hf=>⟨ns,x,hf.below h⟩,fun ns x hf=>⟨[],Only.of h,fun q hq=>by cases hq⟩,fun ns x ns' x' hf hf' q hq=>
  .inl ((hq.blocks (hf'.blocks (hf.below h))).same (h.block _ (OwnsB.lt hf (.inl rfl))))⟩
theorem KeepM.trans {f g:Nat}{a b c:World}(h:KeepM f g a b)(k:KeepM f g b c): KeepM f g a c:=by
 refine⟨h.k3.trans k.k3,fun ns x hf=>?_,fun ns x hf=>?_,fun ns x ns' x' hf hf' q hq=>?_⟩
 ·obtain⟨n1,x1,h1⟩:=h.fr ns x hf
  exact k.fr n1 x1 h1
 ·obtain⟨n1,x1,h1⟩:=h.fr ns x hf
  obtain⟨L,hL,hq⟩:=h.only ns x hf
  obtain⟨M,hM,hq2⟩:=k.only n1 x1 h1
  refine⟨L++M.filter (fun z=>decide (z<a.heap.size)),(Only.trans (hL.mono fun z hz=> .inl (List.mem_append_left _ hz)) hM fun z hz=>?_),fun q hm=>?_⟩
  ·by_cases hz2:z<a.heap.size
   ·exact .inl (List.mem_append_right _ (List.mem_filter.2 ⟨hz,by simpa using hz2⟩))
   ·exact .inr (by omega)
  ·rcases List.mem_append.1 hm with hm | hm
   ·exact hq q hm
   ·obtain⟨hm1,hm2⟩:=List.mem_filter.1 hm
    have hm2:q<a.heap.size:=by simpa using hm2
    rcases hq2 q hm1 with h3 | h3
    ·rcases h.own ns x n1 x1 hf h1 q h3 with h4 | h4
     ·exact .inl h4
     ·omega
    ·exact .inr h3
 ·obtain⟨n1,x1,h1⟩:=h.fr ns x hf
  obtain⟨L,hL,_⟩:=h.only ns x hf
  rcases k.own n1 x1 ns' x' h1 hf' q hq with h3 | h3
  ·exact h.own ns x n1 x1 hf h1 q h3
  ·exact .inr (Nat.le_trans hL.size h3)
theorem KeepM.chf {f g:Nat}{W w':World}{ns ns':Ns}{x x':Int}(h:FR W f ns x)(h':FR w' f ns' x')(hc:Chf W w' f ns ns'): KeepM f g W w':=by
 refine⟨Keep3.chf h hc,fun _ _ _=>⟨ns',x',h'⟩,fun n1 x1 h1=>?_,fun n1 x1 n2 x2 h1 h2 q hq=>?_⟩
 ·obtain⟨L,hL,hq⟩:=hc.only
  exact⟨L,hL,fun q hm=> .inl ((hq q hm).blocks (h.blocks h1))⟩
 ·rcases hc.own q (hq.blocks (h2.blocks h')) with h3 | h3
  ·exact .inl (h3.blocks (h.blocks h1))
  ·exact .inr h3
theorem KeepM.one {f g:Nat}{w w':World}{cg:Array Value}(hg:Bk 40 w g cg)(ho:Only [g] w w'): KeepM f g w w':=by
 have hk:∀ns x,FR w f ns x→FR w' f ns x:=fun ns x hf=>hf.apart ho (fun q hq h2=>by rw [List.mem_singleton] at hq;subst hq;exact OwnsB.no hf (by decide) (by decide) (by decide) hg h2) (fun q hq cs h=>by rw [List.mem_singleton] at hq;subst hq;exact bk_ne hg h (by decide) rfl)
 refine⟨Keep3.one hg (by decide) ho,fun ns x hf=>⟨ns,x,hk ns x hf⟩,fun ns x hf=>⟨[g],ho,fun q hq=> .inr (by simpa using hq)⟩,fun ns x ns' x' hf hf' q hq=>?_⟩
 exact .inl ((hq.blocks (hf'.blocks (hk ns x hf))).same (ho.block f (OwnsB.lt hf (.inl rfl)) (fun hm=>by rw [List.mem_singleton] at hm;subst hm;exact OwnsB.no hf (by decide) (by decide) (by decide) hg (.inl rfl))))
theorem FR.blocks2 {w w':World}{f:Nat}{ns b:Ns}{x y:Int}(h:FR w f ns x)(k:FR w' f b y)(e:∀q,OwnsB w f ns q→w'.heap[q]?=w.heap[q]?): ns.map (·.1)=b.map (·.1):=by
 obtain⟨a1,c1,h1,h2⟩:=h.obj
 obtain⟨a2,c2,k1,k2⟩:=k.obj
 have e0:=bk_inj ((e f (.inl rfl)).trans h1) k1
 simp only [Array.mk.injEq,List.cons.injEq,Value.slice.injEq,Value.int.injEq,and_true,true_and] at e0
 obtain⟨⟨e1,e2,e3⟩,e4⟩:=e0
 rw [← e1,← e2,← e3] at k2
 refine List.ext_getElem (by simp [e2]) fun i hi1 hi2=>?_
 have hi3:i<ns.length:=by simpa using hi1
 have hi4:i<b.length:=by simpa using hi2
 obtain⟨z,ez,hz⟩:=OwnR.owns_cell h2 (i:=i) (v:=kpt ns[i].1) (by rw [List.getElem?_map,List.getElem?_eq_getElem hi3];rfl)
 obtain⟨z2,ez2,hz2⟩:=OwnR.owns_cell k2 (i:=i) (v:=kpt b[i].1) (by rw [List.getElem?_map,List.getElem?_eq_getElem hi4];rfl)
 subst ez
 have e5:z=z2:=by simpa using ez2
 have e7:w'.cell? ⟨z,i,none⟩=w.cell? ⟨z,i,none⟩:=World.cell?_of_block (e z (.inr (.inr ⟨_,_,_,h1⟩)))
 rw [← e5,e7,hz] at hz2
 have e6:kpt ns[i].1=kpt b[i].1:=Option.some.inj hz2
 simp only [List.getElem_map]
 unfold kpt at e6
 simpa using e6
theorem KeepM.fresh {f g z:Nat}{w wr w':World}{cs:Array Value}(h:KeepM f g w wr)(hz:Bk 9 wr z cs)(hw:w.heap.size≤z)(ho:Only [z] wr w')(hF:∃ns x,FR w' f ns x): KeepM f g w w':=by
 refine⟨h.k3.trans (Keep3.one hz (by decide) ho),fun _ _ _=>hF,fun ns x hf=>?_,fun ns x ns' x' hf hf' q hq=>?_⟩
 ·obtain⟨L,hL,hq⟩:=h.only ns x hf
  exact⟨L,Only.trans hL ho fun q hm=> .inr (by rw [List.mem_singleton] at hm;subst hm;exact hw),hq⟩
 ·obtain⟨n1,x1,h1⟩:=h.fr ns x hf
  have hn:∀q,OwnsB wr f n1 q→q∉[z]:=fun q hq hm=>by
   rw [List.mem_singleton] at hm
   subst hm
   exact OwnsB.no h1 (by decide) (by decide) (by decide) hz hq
  have hs:∀q,OwnsB wr f n1 q→w'.heap[q]?=wr.heap[q]?:=fun q hq=>ho.block q (OwnsB.lt h1 hq) (hn q hq)
  exact h.own ns x n1 x1 hf h1 q ((hq.blocks (h1.blocks2 hf' hs).symm).same (hs f (.inl rfl)))
theorem KeepM.did {f g:Nat}{w w':World}{K:Prop}(h:KeepM f g w w'): Keep3 w w'∧(K→KeepM f g w w'):=⟨h.k3,fun _=>h⟩
theorem Two.down {w0 w w':World}{f g:Nat}{l m:List Nd}{x y:Int}(h:Two w0 w f g l m x y)(hb:Below w.heap.size w w'): Two w0 w' f g l m x y:=by
 obtain⟨⟨ns,e,h1⟩,⟨rs,e2,h2⟩⟩:=h
 exact⟨⟨ns,e,h1.down hb⟩,⟨rs,e2,h2.down hb⟩⟩
theorem Two.goA {w0 w:World}{f g:Nat}{l m l':List Nd}{x y x':Int}{F:FuncId}{args:Array Value}{r:Value}(h:Two w0 w f g l m x y){t:TypeId}{b:Nat}{cs:Array Value}(hb:Bk t w b cs)(t1:t≠71)(t2:t≠72)(t5:t≠75)
  (hc:∀ns,nodes ns=l→FR w f ns x→Calls Tryz.prog F args w fun e w'=>Ends w f ns x r l' x' e w'):Calls Tryz.prog F args w fun e w'=>e = .returned r∧Two w0 w' f g l' m x' y∧Bk t w' b cs∧KeepM f g w w':=by
 obtain⟨⟨ns,e,h1⟩,⟨rs,e2,h2⟩⟩:=h
 refine(hc ns e h1.fr).mono ?_
 rintro e w' ⟨rfl,ns',e3,f1,c1⟩
 exact⟨rfl,⟨⟨ns',e3,h1.go f1 c1⟩,⟨rs,e2,h2.left h1.fr c1⟩⟩,c1.keep h1.fr hb t1 t2 t5,KeepM.chf h1.fr f1 c1⟩
theorem Two.goB {w0 w:World}{f g:Nat}{l m m':List Nd}{x y y':Int}{F:FuncId}{args:Array Value}{r:Value}(h:Two w0 w f g l m x y){t:TypeId}{b:Nat}{cs:Array Value}(hb:Bk t w b cs)(t4:t≠40)
  (hc:∀rs,nds rs=m→Xr w g rs y→Calls Tryz.prog F args w fun e w'=>Rends w g rs r m' y' e w'):Calls Tryz.prog F args w fun e w'=>e = .returned r∧Two w0 w' f g l m' x y'∧Bk t w' b cs∧KeepM f g w w':=by
 obtain⟨⟨ns,e,h1⟩,⟨rs,e2,h2⟩⟩:=h
 obtain⟨cg,hg⟩:=xr_bk h2.xr
 refine(hc rs e2 h2.xr).mono ?_
 rintro e w' ⟨rfl,rs',e3,f1,ho,hk⟩
 exact⟨rfl,⟨⟨ns,by assumption,h1.right hg h2.base ho⟩,⟨rs',e3,h2.kin f1 hk ho⟩⟩,hb.only ho fun hm=>by rw [List.mem_singleton] at hm;exact bk_ne hb hg t4 hm,KeepM.one hg ho⟩
structure Inv (l:List Nd)(x:Int): Prop where
 ok:Ok l
 good:Good l x
 few:l.length≤256
 most:x≤99999999
 may:∀n∈l,mayP (n.parent:Int) n=true
 mid:∀n∈l,Mid n
 sec:(l.map (·.secret)).Nodup
theorem few_ns {ns:Ns}{l:List Nd}{x:Int}(e:nodes ns=l)(h:Inv l x): ns.length≤1000000:=by rw [len_nodes e];have:=h.few;omega
end Go.Proofs.YthogppennalobaaGreatDoor
namespace Go.Proofs.YthogppennalobaaGreatDoor.Pl
open Go.RowKit Go.Sort
end Go.Proofs.YthogppennalobaaGreatDoor.Pl
namespace Go.Proofs.YthogppennalobaaGreatDoor
open Go.RowKit Go.Sort Forest OwnR TxO Pl
def zNd:Nd:=⟨0,0,0,[],[],[],[],0,0,false,false,[],0,[],[]⟩
def Told (W:World)(q:Option Nd)(c:Array Value)(b:Bool): Prop:=b=q.isSome∧∃n sv av,c=inC (n.id:Int) (n.parent:Int) n sv av∧Rd W sv n.scope∧Rd W av n.actors∧n=q.getD zNd
theorem Told.below {w w':World}{q:Option Nd}{c:Array Value}{b:Bool}(h:Told w q c b)(hb:Below w.heap.size w w'): Told w' q c b:=by
 obtain⟨h1,n,sv,av,h2,h3,h4,h5⟩:=h
 exact⟨h1,n,sv,av,h2,h3.below hb,h4.below hb,h5⟩
theorem Told.size {w:World}{q:Option Nd}{c:Array Value}{b:Bool}(h:Told w q c b): c.size=15∧c.all (·.oneCell')=true:=by
 obtain⟨h1,n,sv,av,rfl,⟨sa,sc,rfl,_⟩,⟨aa,ac,rfl,_⟩,h5⟩:=h
 exact⟨rfl,one15 _ _ n _ _ _ _ _ _⟩
theorem told_zero (w:World): Told w none zeroN false:=⟨rfl,zNd,.slice none 0 0,.slice none 0 0,rfl,rd_nil w,rd_nil w,rfl⟩
theorem ToldP.told {w w':World}{q:Option Nd}{e:Ending}(h:ToldP w w' q e): ∃c b,e = .returned (.tuple #[.agg c,.bool b])∧Told w' q c b∧Below w.heap.size w w':=by
 obtain⟨h,hb⟩:=h
 cases q with
 |none=>exact⟨_,_,h,told_zero w',hb⟩
 |some n=>
  obtain⟨sv,av,rfl,h1,h2⟩:=h
  exact⟨_,_,rfl,⟨rfl,n,sv,av,rfl,h1.rd,h2.rd,rfl⟩,hb⟩
theorem GotP.told {w:World}{g:Nat}{rs:List (Nd×Value×Value)}{y x:Int}{e:Ending}(hx:Xr w g rs y)(hO:Ok (nds rs))(h:GotP rs x e): ∃c b,e = .returned (.tuple #[.agg c,.bool b])∧Told w (findI (nds rs) x) c b:=by
 obtain⟨v,_,_,hn⟩:=hx
 rcases h with ⟨rfl,h⟩ | ⟨i,hi,hid,rfl⟩
 ·have:findI (nds rs) x=none:=by
   unfold findI
   rw [List.find?_eq_none]
   intro n hm he
   exact h n hm (by simpa using he)
  rw [this]
  exact⟨_,_,rfl,told_zero w⟩
 ·have hm:rs[i].1∈nds rs:=List.mem_map.2 ⟨_,List.getElem_mem hi,rfl⟩
  have:findI (nds rs) x=some rs[i].1:=by
   have h1:=at_of hO hm
   unfold findI
   unfold at' at h1
   rw [← h1,← hid]
   congr 1
   funext n
   by_cases e:n.id=rs[i].1.id
   ·rw [e];simp
   ·rw [beq_eq_false_iff_ne.2 e,beq_eq_false_iff_ne.2 (by omega)]
  rw [this]
  obtain⟨h1,h2⟩:=hn _ (List.getElem_mem hi)
  exact⟨_,_,rfl,⟨rfl,rs[i].1,_,_,rfl,h1.rd,h2.rd,rfl⟩⟩
theorem GotS.told {w:World}{g:Nat}{rs:List (Nd×Value×Value)}{y:Int}{s:Bs}{e:Ending}(hx:Xr w g rs y)(h:GotS rs s e): ∃c b,e = .returned (.tuple #[.agg c,.bool b])∧Told w ((nds rs).find? fun n=>n.secret == s) c b:=by
 obtain⟨v,_,_,hn⟩:=hx
 rcases h with ⟨rfl,h⟩ | ⟨r,hr,h,rfl⟩
 ·rw [h]
  exact⟨_,_,rfl,told_zero w⟩
 ·rw [h]
  obtain⟨h1,h2⟩:=hn r hr
  exact⟨_,_,rfl,⟨rfl,r.1,_,_,rfl,h1.rd,h2.rd,rfl⟩⟩
theorem sameP_refl (i j:Int)(n:Nd): sameP i j i j n n=true:=by
 unfold sameP
 simp
theorem Inv.short {l:List Nd}{x:Int}(h:Inv l x): ∀n∈l,Short n:=fun n hn=>may_short (h.mid n hn) (h.may n hn)
theorem Two.find {w0 w:World}{f g:Nat}{l m:List Nd}{x y:Int}(h:Two w0 w f g l m x y)(hl:Inv l x)(s:Bs): Calls Tryz.prog 36 #[.pointer (some ⟨f,0,none⟩),.string ⟨s.toArray⟩] w fun e w'=>∃c b,e = .returned (.tuple #[.agg c,.bool b])∧Told w' (l.find? fun n=>n.secret == s) c b∧Below w.heap.size w w':=by
 obtain⟨⟨ns,e,h1⟩,_⟩:=h
 exact(find_call h1.fr (few_ns e hl) (by rw [e];exact hl.short) s).mono fun _ _ h2=>by rw [e] at h2;exact h2.told
def pathN (l:List Nd)(A:Int): List Int:=(pathI l A).map fun n=>(n.id:Int)
theorem ri_path {w0 w:World}{v:Value}{l:List Nd}(h:Lw 3 1 w0 w v l.length (l.map idV)): Ri w v (l.map fun n=>(n.id:Int)):=by
 obtain⟨a,c,rfl⟩:=h.shape
 refine⟨a,c,by rw [List.length_map],fun i hi=>?_⟩
 have hi2:i<l.length:=by simpa using hi
 obtain⟨g,rfl,hg⟩:=OwnR.owns_cell h.1 (i:=i) (v:=idV l[i]) (by rw [List.getElem?_map,List.getElem?_eq_getElem hi2];rfl)
 exact⟨g,0,rfl,by simpa [idV] using hg⟩
theorem path_len {l:List Nd}(h:Ok l): ∀id,(path l id).length≤id+1:=by
 intro id
 induction id using Nat.strongRecOn with
 |ind id ih=>
  cases e:at' l id with
  |none=>rw [path_none e];simp
  |some n=>
   have hn:=at_mem e
   have h1:=path_some h hn.1
   rw [hn.2] at h1
   rw [h1]
   have hp:=(h.mem hn.1).2
   have:=ih n.parent (by omega)
   rw [List.length_cons]
   omega
theorem Two.path {w0 w:World}{f g:Nat}{l m:List Nd}{x y:Int}(h:Two w0 w f g l m x y)(hl:Inv l x)(A:Int): Calls Tryz.prog 29 #[.pointer (some ⟨f,0,none⟩),.int .i64 A] w fun e w'=>∃v,e = .returned v∧Ri w' v (pathN l A)∧Below w.heap.size w w':=by
 obtain⟨⟨ns,e,h1⟩,_⟩:=h
 refine(path_call h1.fr (few_ns e hl) A).mono ?_
 rintro _ w' ⟨v,rfl,h2⟩
 rw [e] at h2
 exact⟨v,rfl,ri_path h2,h2.2.1⟩
structure Box (w2 V:World)(q:Nat)(c:Array Value): Prop where
 bk:Bk 31 V q c
 below:Below w2.heap.size w2 V
theorem Box.of {w2:World}{c:Array Value}: Box w2 ((w2.alloc (.cells zeroN 31)).setRow w2.heap.size c) w2.heap.size c:=
 ⟨(Bk.new (t:=31) (cs:=zeroN) rfl).row,below_row (by go_grown) (Nat.le_refl _)⟩
structure TwoQ (w0 w:World)(f g:Nat)(l m:List Nd)(x y:Int)(A B:Nat): Prop where
 a:∃ns,nodes ns=l∧Nf w0 w f ns x∧∀q,A≤q→q<B→¬OwnsT w ns q
 b:∃rs,nds rs=m∧Xn w0 w g rs y∧∀r∈rs,∀q,A≤q→q<B→¬(r.2.1.ownBlock=some q∨r.2.2.ownBlock=some q)
theorem TwoQ.two {w0 w:World}{f g:Nat}{l m:List Nd}{x y:Int}{A B:Nat}(h:TwoQ w0 w f g l m x y A B): Two w0 w f g l m x y:=by
 obtain⟨⟨ns,e,h1,_⟩,⟨rs,e2,h2,_⟩⟩:=h
 exact⟨⟨ns,e,h1⟩,⟨rs,e2,h2⟩⟩
theorem OwnsT.lt {w:World}{f:Nat}{ns:Ns}{x:Int}(h:FR w f ns x){q:Nat}(hq:OwnsT w ns q): q<w.heap.size:=by
 obtain⟨k,hk,n,sv,av,up,h1,h2⟩:=hq
 obtain⟨sv2,av2,k1,k2,k3⟩:=h.node k hk
 obtain⟨rfl,rfl⟩:=ndC_inj (bk_inj h1 k1)
 rcases h2 with h2 | h2
 ·exact(TxO.owns_block k2 h2).2.choose_spec.lt
 ·exact(TxO.owns_block k3 h2).2.choose_spec.lt
theorem Two.q {w0 W U:World}{f g:Nat}{l m:List Nd}{x y:Int}(h:Two w0 W f g l m x y)(hb:Below W.heap.size W U): TwoQ w0 U f g l m x y W.heap.size U.heap.size:=by
 obtain⟨⟨ns,e,h1⟩,⟨rs,e2,h2⟩⟩:=h
 refine⟨⟨ns,e,h1.down hb,fun q hA _ hq=>?_⟩,⟨rs,e2,h2.down hb,fun r hr q hA _ hq=>?_⟩⟩
 ·have h3:OwnsT W ns q:=hq.same fun k hk=>hb.block _ (OwnsB.lt h1.fr (.inr (.inl ⟨k,hk,rfl⟩)))
  have:=h3.lt h1.fr
  omega
 ·have:=h2.rows r hr q hq
  omega
theorem TwoQ.down {w0 w w':World}{f g:Nat}{l m:List Nd}{x y:Int}{A B:Nat}(h:TwoQ w0 w f g l m x y A B)(hb:Below w.heap.size w w'): TwoQ w0 w' f g l m x y A B:=by
 obtain⟨⟨ns,e,h1,h3⟩,⟨rs,e2,h2,h4⟩⟩:=h
 exact⟨⟨ns,e,h1.down hb,fun q hA hB hq=>h3 q hA hB (hq.same fun k hk=>hb.block _ (OwnsB.lt h1.fr (.inr (.inl ⟨k,hk,rfl⟩))))⟩,⟨rs,e2,h2.down hb,h4⟩⟩
theorem TwoQ.goA {w0 w:World}{f g:Nat}{l m l':List Nd}{x y x':Int}{A B:Nat}{F:FuncId}{args:Array Value}{r:Value}(h:TwoQ w0 w f g l m x y A B)(hB:B≤w.heap.size)
  (hc:∀ns,nodes ns=l→FR w f ns x→Calls Tryz.prog F args w fun e w'=>Ends w f ns x r l' x' e w'):Calls Tryz.prog F args w fun e w'=>e = .returned r∧TwoQ w0 w' f g l' m x' y A B∧w.heap.size≤w'.heap.size∧(∀t b cs,Bk t w b cs→t≠71→t≠72→t≠75→Bk t w' b cs)∧KeepM f g w w':=by
 obtain⟨⟨ns,e,h1,h3⟩,⟨rs,e2,h2,h4⟩⟩:=h
 refine(hc ns e h1.fr).mono ?_
 rintro e w' ⟨rfl,ns',e3,f1,c1⟩
 refine⟨rfl,⟨⟨ns',e3,h1.go f1 c1,fun q hA hq hT=>?_⟩,⟨rs,e2,h2.left h1.fr c1,h4⟩⟩,by obtain⟨L,ho,_⟩:=c1.only;exact ho.size,fun t b cs hb t1 t2 t5=>c1.keep h1.fr hb t1 t2 t5,KeepM.chf h1.fr f1 c1⟩
 rcases c1.rows q hT with h5 | h5
 ·exact h3 q hA hq h5
 ·omega
theorem TwoQ.goB {w0 w:World}{f g:Nat}{l m m':List Nd}{x y y':Int}{A B:Nat}{F:FuncId}{args:Array Value}{r:Value}(h:TwoQ w0 w f g l m x y A B)(hB:B≤w.heap.size)
  (hc:∀rs,nds rs=m→Xr w g rs y→Calls Tryz.prog F args w fun e w'=>e = .returned r∧∃rs',nds rs'=m'∧Xr w' g rs' y'∧Only [g] w w'∧Kn w rs' rs):Calls Tryz.prog F args w fun e w'=>e = .returned r∧TwoQ w0 w' f g l m' x y' A B∧w.heap.size≤w'.heap.size∧(∀t b cs,Bk t w b cs→t≠40→Bk t w' b cs)∧KeepM f g w w':=by
 obtain⟨⟨ns,e,h1,h3⟩,⟨rs,e2,h2,h4⟩⟩:=h
 obtain⟨cg,hg⟩:=xr_bk h2.xr
 refine(hc rs e2 h2.xr).mono ?_
 rintro e w' ⟨rfl,rs',e3,f1,ho,hk⟩
 have hgn:∀k∈ns,k.1∉[g]:=fun k hk hm=>by
  rw [List.mem_singleton] at hm
  exact OwnsB.no h1.fr (by decide) (by decide) (by decide) hg (hm▸ .inr (.inl ⟨k,hk,rfl⟩))
 refine⟨rfl,⟨⟨ns,by assumption,h1.right hg h2.base ho,fun q hA hq hT=>h3 q hA hq (hT.same fun k hk=>ho.block k.1 (OwnsB.lt h1.fr (.inr (.inl ⟨k,hk,rfl⟩))) (hgn k hk))⟩,⟨rs',e3,⟨f1,h2.base,fun r hr q hq=>?_⟩,fun r hr q hA hq hT=>?_⟩⟩,ho.size,fun t b cs hb t4=>hb.only ho fun hm=>by rw [List.mem_singleton] at hm;exact bk_ne hb hg t4 hm,KeepM.one hg ho⟩
 ·obtain⟨v,_,k2⟩:=f1
  rcases hq with hq | hq
  ·exact(TxO.owns_block (k2.2 r hr).1 hq).2.choose_spec.lt
  ·exact(TxO.owns_block (k2.2 r hr).2 hq).2.choose_spec.lt
 ·rcases hk r hr with ⟨z,hz,ez⟩ | hn
  ·rw [← ez] at hT
   exact h4 z hz q hA hq hT
  ·have:=hn q hT
   omega
theorem TwoQ.over {w0 w w':World}{f g:Nat}{l m:List Nd}{x y:Int}{A B q:Nat}{cs:Array Value}(h:TwoQ w0 w f g l m x y A B)(hk:Bk 9 w q cs)(hA:A≤q)(hB:q<B)(h0:w0.heap.size≤q)(ho:Only [q] w w'): TwoQ w0 w' f g l m x y A B:=by
 obtain⟨⟨ns,e,h1,h3⟩,⟨rs,e2,h2,h4⟩⟩:=h
 have hOwn:∀z,OwnsB w f ns z→z∉[q]:=fun z hz hm=>by
  rw [List.mem_singleton] at hm
  exact OwnsB.no h1.fr (by decide) (by decide) (by decide) hk (hm▸hz)
 have hT:∀k∈ns,∀sv av,Bk 75 w k.1 (ndC k.2 sv av (fV (blockI ns k.2.parent)))→sv.ownBlock≠some q∧av.ownBlock≠some q:=fun k hk sv av hb=>
  ⟨fun e=>h3 q hA hB ⟨k,hk,_,_,_,_,hb,.inl e⟩,fun e=>h3 q hA hB ⟨k,hk,_,_,_,_,hb,.inr e⟩⟩
 have hkk:∀k∈ns,w'.heap[k.1]?=w.heap[k.1]?:=fun k hk=>ho.block k.1 (OwnsB.lt h1.fr (.inr (.inl ⟨k,hk,rfl⟩))) (hOwn _ (.inr (.inl ⟨k,hk,rfl⟩)))
 have hff:w'.heap[f]?=w.heap[f]?:=ho.block f (OwnsB.lt h1.fr (.inl rfl)) (hOwn _ (.inl rfl))
 obtain⟨a,c,o1,o2⟩:=h1.fr.obj
 have hfr:FR w' f ns x:=by
  refine⟨h1.fr.ok,⟨a,c,hff.trans o1,OwnR.owns_only o2 ho fun z hz hm=>?_⟩,fun k hk=>?_⟩
  ·rw [List.mem_singleton] at hm
   subst hm
   exact OwnR.owns_ne o2 hk (by decide) hz
  ·obtain⟨sv,av,k1,k2,k3⟩:=h1.fr.node k hk
   obtain⟨n1,n2⟩:=hT k hk sv av k1
   exact⟨sv,av,(hkk k hk).trans k1,k2.only ho fun z hz hm=>n1 (by rw [List.mem_singleton] at hm;rw [← hm];exact hz),k3.only ho fun z hz hm=>n2 (by rw [List.mem_singleton] at hm;rw [← hm];exact hz)⟩
 refine⟨⟨ns,e,⟨hfr,h1.below.trans (ho.below h1.below.size (fun z hz=>by rw [List.mem_singleton] at hz;omega)),fun z hz=>h1.own z (hz.same hff),fun z hz=>h1.rows z (hz.same hkk)⟩,fun z hA hB hz=>h3 z hA hB (hz.same hkk)⟩,⟨rs,e2,⟨?_,h2.base,fun r hr z hz=>Nat.lt_of_lt_of_le (h2.rows r hr z hz) ho.size⟩,h4⟩⟩
 obtain⟨v,k1,k2⟩:=h2.xr
 refine⟨v,k1.only ho fun hm=>?_,OwnR.owns_only k2.1 ho fun z hz hm=>?_,fun r hr=>⟨(k2.2 r hr).1.only ho fun z hz hm=>?_,(k2.2 r hr).2.only ho fun z hz hm=>?_⟩⟩
 ·rw [List.mem_singleton] at hm
  exact bk_ne k1 hk (by decide) hm
 ·rw [List.mem_singleton] at hm
  subst hm
  exact OwnR.owns_ne k2.1 hk (by decide) hz
 ·rw [List.mem_singleton] at hm
  subst hm
  exact h4 r hr _ hA hB (.inl hz)
 ·rw [List.mem_singleton] at hm
  subst hm
  exact h4 r hr _ hA hB (.inr hz)
def RowH (W:World)(v:Value)(n A B:Nat): Prop:=(v = .slice none 0 0∧n=0)∨∃z c cs,v = .slice (some ⟨z,0,none⟩) n c∧Bk 9 W z cs∧n≤cs.size∧A≤z∧z<B
theorem RowH.of {w W:World}{v:Value}{n:Nat}{xs:List Value}(h:Lw 9 1 w W v n xs): RowH W v n w.heap.size W.heap.size:=by
 rcases h.1.2 with h0 | ⟨z,cap,cur,hv,_,hz,hn,_,hs,_⟩
 ·exact .inl h0
 ·subst hv
  exact .inr ⟨z,cap,cur,rfl,hz,by omega,h.2.2 z rfl,blk_lt hz⟩
theorem RowH.keep {W w':World}{v:Value}{n A B:Nat}(h:RowH W v n A B)(k:∀z cs,Bk 9 W z cs→Bk 9 w' z cs): RowH w' v n A B:=by
 rcases h with h0 | ⟨z,c,cs,hv,hz,h1⟩
 ·exact .inl h0
 ·exact .inr ⟨z,c,cs,hv,k z cs hz,h1⟩
theorem RowH.over {W:World}{v u:Value}{n A B z i:Nat}{cs:Array Value}(h:RowH W v n A B)(hk:Bk 9 W z cs): RowH (W.setCell ⟨z,i,none⟩ u) v n A B:=by
 rcases h with h0 | ⟨z2,c,ds,hv,hz,hs,h1⟩
 ·exact .inl h0
 ·by_cases e:z2=z
  ·subst e
   exact .inr ⟨z2,c,_,hv,hz.same,by simpa using hs,h1⟩
  ·exact .inr ⟨z2,c,ds,hv,hz.oth e,hs,h1⟩
structure Soft (F:Nd→Nd): Prop where
 mild:Fixes F
 sec:∀n,(F n).secret=n.secret
structure OpW (w0:World)(d:OpD)(sv av:Value): Prop where
 mid:Mid d.n
 str:d.s.length≤140737488355328
 sl:d.n.scope.length≤8796093022208
 al:d.n.actors.length≤8796093022208
 r1:Rd w0 sv d.n.scope
 r2:Rd w0 av d.n.actors
 o1:d.n.scope≠[]→∀q,sv.ownBlock=some q→q<w0.heap.size
 o2:d.n.actors≠[]→∀q,av.ownBlock=some q→q<w0.heap.size
def Sc (w0 w:World)(v:Value)(ds:List (OpD×Value×Value)): Prop:=∃a c,v = .slice a ds.length c∧ds.length≤1000000000000∧∀i (h:i<ds.length),OpW w0 ds[i].1 ds[i].2.1 ds[i].2.2∧∃q o,a=some ⟨q,o,none⟩∧w.rangeAt q (o+i*20) (opC ds[i].1 ds[i].2.1 ds[i].2.2).toList
theorem Sc.below {w0 w w':World}{v:Value}{ds:List (OpD×Value×Value)}(h:Sc w0 w v ds)(hb:Below w.heap.size w w'): Sc w0 w' v ds:=by
 obtain⟨a,c,h1,h2,h3⟩:=h
 exact⟨a,c,h1,h2,fun i hi=>by obtain⟨h4,q,o,h5,h6⟩:=h3 i hi;exact⟨h4,q,o,h5,range_below h6 hb⟩⟩
end Go.Proofs.YthogppennalobaaGreatDoor
namespace Go.Proofs.YthogppennalobaaGreatDoor
open Go.ChangeShapes Go.WideShapes Go.ChangeAt Go.ChangeMaps Go.RowKit Go.Deep Forest
theorem own:ownKnob Tryz.prog.godebug=none:=by kernel_rfl
section
variable {H:Type} {enc:TypeId×Value→H} {P:Program}
theorem post_below {f:Func}{s:ChangeSpec}{apart fresh handsOn again:Bool}{W W':World}{args:Array Value}{v:Value}{ds gs:List (DataW H)}{before pa pv:List MemPlace}
  (hW:DataW.Whole enc P f.params.toList s.vars apart W args.toList ds gs before)
  (hres:∀(b:Nat) (sp:Nat→Bool) (hd:Bool),DataW.TrodAll enc P W' b sp hd f.resultTypes.toList (v.resultList f.resultTypes.size) (s.fn H (ds++gs)).results [])
  (hargs:∀sp:Nat→Bool,(∀p∈before,sp p.block=true)→DataW.TrodAll enc P W' 0 sp true f.params.toList args.toList (s.fn H (ds++gs)).args pa)
  (hvars:∀sp:Nat→Bool,(∀p∈before,sp p.block=true)→DataW.TrodVars enc P W' sp s.vars (s.fn H (ds++gs)).vars pv)
  (hps:before=pa++pv) (hb:Below W.heap.size W W')
  (hok:∀(j:Nat) (t:TypeId) (r:Value),f.resultTypes[j]?=some t→(v.resultList f.resultTypes.size)[j]?=some r→Value.okWide P W' .any 0 t r) :
  s.post enc P f apart fresh handsOn again W args v W':=by
 have hlt:∀p∈before,p.block<W.heap.size:=fun p hp=>hW.lt p hp
 have hold:∀p∈before,(fun b=>decide (b<W.heap.size)) p.block=true:=fun p hp=>by simpa using hlt p hp
 refine⟨ds,gs,before,[],pa,pv,hW,hres _ _ _,hargs _ hold,hvars _ hold,World.keptBut_mono (fun p hp=>⟨hp,?_⟩) (hb.frame (·∈before)),fun _=>?_⟩
 ·rw [hps,List.mem_append] at hp
  exact Or.inr hp
 ·obtain⟨_,_,_,_,_,hz,hn⟩:=hW
  refine⟨hok,_,_,([]++pa)++pv,⟨[]++pa,pv,trodAll_append (hargs _ (fun _ _=>rfl)) (hres _ _ _),hvars _ (fun _ _=>rfl),rfl,?_,?_⟩,?_⟩
  ·intro b off hp
   have hin:MemPlace.cell b off∈before:=by rw [hps];simpa using hp
   rw [hb.frozen (hlt _ hin)]
   exact hz b off hin
  ·intro ha
   have:=hn ha
   rw [hps] at this
   simpa using this
  ·intro p hp _
   rw [hps]
   simpa using hp
end
section
variable {H:Type} {enc:TypeId×Value→H}
theorem laidOut:laidOutB Tryz.prog=true:=by kernel_rfl
theorem trod_keep {t:TypeId}(hr:Tryz.prog.readableRec t=true)(hrow:t<Tryz.prog.types.size){W W':World}{v:Value}{d:DataW H}{ps:List MemPlace}
  (h:DataW.Trod enc Tryz.prog W 0 (fun _=>true) true t v d ps) (hb:Below W.heap.size W W') (hlt:∀x∈ps,x.block<W.heap.size) (sp:Nat→Bool) (hsp:∀x∈ps,sp x.block=true) :
  DataW.Trod enc Tryz.prog W' 0 sp true t v d ps:=
 WideElems.Trod_stays laidOut hr hrow h (fun x hx=>hb.same (hlt x hx)) hsp
theorem mx_of_shaped {W:World}(h:W.ShapedOpen Tryz.prog): Mx W:=
 cell_of_shapedOpen_int (g:=1) (t:=3) (zero:=#[.int .i64 0]) h (of_decide_eq_true (by kernel_rfl)) (by kernel_rfl) rfl (by kernel_rfl) (by kernel_rfl) Tryz.underlying3
end
end Go.Proofs.YthogppennalobaaGreatDoor
namespace Go.Proofs.YthogppennalobaaGreatDoor
open Go.ChangeShapes Go.WideShapes Go.ChangeAt Go.ChangeMaps Go.RowKit Go.Deep
theorem pow_eq:Rows.laid_internal_strconv_uint64pow10 (H:=Unit)=Lib.tabData .u64 Lib.pow10Tab:=by kernel_rfl
theorem tb_of_laid {W:World}(hL:laidMetH Tryz.prog Rows.forestStaysRow.laid W): Tb W:=by
 have hL : laidMetH Tryz.prog [("math/bits.deBruijn32tab", Rows.laid_math_bits_deBruijn32tab), ("math/bits.deBruijn64tab", Rows.laid_math_bits_deBruijn64tab), ("internal/strconv.uint64pow10", Rows.laid_internal_strconv_uint64pow10), ("strconv.ErrRange", Rows.laid_strconv_ErrRange), ("strconv.ErrSyntax", Rows.laid_strconv_ErrSyntax)] W := hL
 rw [pow_eq] at hL
 obtain⟨g',t',cs,fuel,p,hg',ht',hvar,hd⟩:=Lib.laidMet.reads hL (.tail _ (.tail _ (.head _)))
 obtain rfl := Option.some.inj ((show Tryz.prog.globalNamed "internal/strconv.uint64pow10" = some 0 by kernel_rfl).symm.trans hg')
 obtain rfl:=Option.some.inj ((show(Tryz.prog.globals[0]?).map (·.type)=some 186 by kernel_rfl).symm.trans ht')
 unfold Tb Lib.TabIs
 rw [hvar,← Lib.cells_of_tab Tryz.underlying186 Tryz.underlying163 (by kernel_rfl) (by kernel_rfl) hd]
end Go.Proofs.YthogppennalobaaGreatDoor
namespace Go.Proofs.YthogppennalobaaGreatDoor
open Go.RowKit Go.Sort Forest OwnR TxO Pl
def num15 (s:Bs): Option Nat:=if s≠[]∧s.length≤15∧(s.head?=some 48→s=[48])∧s.all digitB=true then some (valD s) else none
theorem dec_canon:∀(k:Nat) (s:Bs),s.length≤k→s≠[]→s.all digitB=true→(s.head?=some 48→s=[48])→Lib.decDigits (valD s)=s
 |0,s,hk,h0,_,_=>absurd (List.length_eq_zero_iff.1 (Nat.le_zero.1 hk)) h0
 |k+1,s,hk,h0,hd,hh=>by
  obtain⟨d,b,rfl⟩:∃d b,s=d++[b]:=⟨s.dropLast,s.getLast h0,(List.dropLast_concat_getLast h0).symm⟩
  rw [List.all_append,Bool.and_eq_true] at hd
  have hb:=digit_le (b:=b) (by simpa using hd.2)
  have hv:valD (d++[b])=valD d*10+(b.toNat - 48):=valF_app d 0 b
  have hbb:UInt8.ofNat (48+(b.toNat - 48))=b:=by
   apply UInt8.toNat_inj.1
   rw [dig_toNat (by omega)]
   omega
  cases d with
  |nil=>
   have e:valD ([]++[b])=b.toNat - 48:=by rw [hv];show 0*10+_=_;omega
   rw [e,Lib.decDigits_one (by omega),hbb]
   rfl
  |cons a d=>
   have ha:a≠48:=fun h=>by
    have:=hh (by simp [h])
    simp at this
   have ih:=dec_canon k (a::d) (by simp at hk ⊢;omega) (by simp) hd.1 (fun h=>by simp at h;exact absurd h ha)
   have hp:valD (a::d)≠0:=fun h=>by
    rw [h,Lib.decDigits_one (by omega)] at ih
    simp only [List.cons.injEq] at ih
    exact ha ih.1.symm
   rw [hv,dec_rec (by omega),show(valD (a::d)*10+(b.toNat - 48)) / 10=valD (a::d) by omega,show(valD (a::d)*10+(b.toNat - 48)) % 10=b.toNat - 48 by omega,ih,hbb]
theorem dec_head:∀(k u:Nat),u≤k→(Lib.decDigits u).head?=some 48→u=0
 |k,u,hk,h=>by
  by_cases h1:u<10
  ·rw [Lib.decDigits_one h1] at h
   simp only [List.head?_cons,Option.some.injEq] at h
   have:=congrArg UInt8.toNat h
   rw [dig_toNat h1] at this
   simp at this
   omega
  ·match k with
   |0=>omega
   |k+1=>
    rw [dec_rec h1] at h
    cases hq:Lib.decDigits (u / 10) with
    |nil=>exact absurd hq (dec_pos _)
    |cons a d=>
     rw [hq] at h
     have:=dec_head k (u / 10) (by omega) (by rw [hq];simpa using h)
     omega
theorem num15_some {s:Bs}{n:Nat}(h:num15 s=some n): s=Lib.decDigits n:=by
 unfold num15 at h
 split at h
 ·rename_i e
  cases h
  exact(dec_canon s.length s (Nat.le_refl _) e.1 e.2.2.2 e.2.2.1).symm
 ·cases h
theorem num15_dec (n:Nat)(h:n<1000000000000000): num15 (Lib.decDigits n)=some n:=by
 unfold num15
 rw [if_pos ⟨dec_pos n,dec_len 14 n (by omega),fun e=>by
  have:=dec_head n n (Nat.le_refl _) e
  subst this
  exact Lib.decDigits_one (by decide),List.all_eq_true.2 (dec_digit n)⟩,dec_val]
abbrev Rst:=List Bs×Bool
def textS:Rst→Bs×Rst
 |([],_)=>([],([],true))
 |(s::r,b)=>(s,(r,b))
def numS (lo hi:Nat)(st:Rst): Nat×Rst:=
 match num15 (textS st).1 with
 |some n=>if lo≤n∧n≤hi then (n,(textS st).2) else (lo,((textS st).2.1,true))
 |none=>(lo,((textS st).2.1,true))
def flagS (st:Rst): Bool×Rst:=((numS 0 1 st).1 == 1,(numS 0 1 st).2)
def listS (st:Rst): List Bs×Rst:=
 if (numS 0 100000 st).2.1.length<(numS 0 100000 st).1 then ([],((numS 0 100000 st).2.1,true))
 else ((numS 0 100000 st).2.1.take (numS 0 100000 st).1,((numS 0 100000 st).2.1.drop (numS 0 100000 st).1,(numS 0 100000 st).2.2))
theorem textS_back {st:Rst}{s:Bs}{r:List Bs}(h:textS st=(s,(r,false))): st=(s::r,false):=by
 obtain⟨l,b⟩:=st
 cases l with
 |nil=>simp [textS] at h
 |cons a l=>simp only [textS,Prod.mk.injEq] at h;obtain⟨rfl,rfl,rfl⟩:=h;rfl
theorem numS_back {lo hi:Nat}{st:Rst}{n:Nat}{r:List Bs}(h:numS lo hi st=(n,(r,false))): st=(Lib.decDigits n::r,false)∧lo≤n∧n≤hi:=by
 unfold numS at h
 split at h
 ·rename_i m hm
  split at h
  ·rename_i hr
   simp only [Prod.mk.injEq] at h
   obtain⟨rfl,h2⟩:=h
   have h3:textS st=((textS st).1,(r,false)):=by rw [← h2]
   exact⟨by rw [textS_back h3,num15_some hm],hr⟩
  ·simp at h
 ·simp at h
theorem numS_dec {lo hi n:Nat}(r:List Bs)(h1:lo≤n)(h2:n≤hi)(h3:hi<1000000000000000): numS lo hi (Lib.decDigits n::r,false)=(n,(r,false)):=by
 unfold numS
 have e:num15 (textS (Lib.decDigits n::r,false)).1=some n:=num15_dec n (by omega)
 rw [e]
 dsimp only
 rw [if_pos ⟨h1,h2⟩]
 rfl
theorem dec_bool {b:Bool}{n:Nat}(h:n≤1)(e:(n == 1)=b): Lib.decDigits n=flagT b:=by
 rcases Nat.le_one_iff_eq_zero_or_eq_one.1 h with rfl | rfl
 ·subst e;exact Lib.decDigits_one (by decide)
 ·subst e;exact Lib.decDigits_one (by decide)
theorem flagS_back {st:Rst}{b:Bool}{r:List Bs}(h:flagS st=(b,(r,false))): st=(flagT b::r,false):=by
 unfold flagS at h
 simp only [Prod.mk.injEq] at h
 obtain⟨h1,h2⟩:=h
 have h3:numS 0 1 st=((numS 0 1 st).1,(r,false)):=by rw [← h2]
 obtain⟨h4,_,h5⟩:=numS_back h3
 rw [h4,← dec_bool h5 h1]
theorem flagS_flag (b:Bool)(r:List Bs): flagS (flagT b::r,false)=(b,(r,false)):=by
 have h:flagT b=Lib.decDigits (if b then 1 else 0):=by
  cases b
  ·exact(Lib.decDigits_one (show 0<10 by decide)).symm
  ·exact(Lib.decDigits_one (show 1<10 by decide)).symm
 unfold flagS
 rw [h,numS_dec r (Nat.zero_le _) (by cases b<;>decide) (by decide)]
 cases b<;>rfl
theorem listS_back {st:Rst}{x r:List Bs}(h:listS st=(x,(r,false))): st=(listedL x++r,false):=by
 unfold listS at h
 obtain⟨n,q,b,hq⟩:∃n q b,numS 0 100000 st=(n,(q,b)):=⟨_,_,_,rfl⟩
 rw [hq] at h
 dsimp only at h
 split at h
 ·simp at h
 ·rename_i hl
  simp only [Prod.mk.injEq] at h
  obtain⟨h1,h2,rfl⟩:=h
  obtain⟨h4,_,_⟩:=numS_back hq
  have hn:x.length=n:=by rw [← h1,List.length_take];omega
  rw [h4]
  unfold listedL
  rw [hn,List.cons_append,← h1,← h2,List.take_append_drop]
theorem listS_list (x r:List Bs)(h:x.length≤100000): listS (listedL x++r,false)=(x,(r,false)):=by
 unfold listS listedL
 rw [List.cons_append,numS_dec (x++r) (Nat.zero_le _) h (by decide)]
 dsimp only
 rw [if_neg (by rw [List.length_append];omega)]
 simp
def zerosP (s:Bs)(n:Nat): Bs:=Lib.repeatL [48] (n - s.length)++s
theorem pad_canon:∀(s:Bs),s≠[]→s.all digitB=true→zerosP (Lib.decDigits (valD s)) s.length=s
 |[],h,_=>absurd rfl h
 |a::r,_,hd=>by
  by_cases ha:a=48
  ·subst ha
   cases r with
   |nil=>
    show zerosP (Lib.decDigits 0) 1=_
    rw [Lib.decDigits_one (by decide)]
    rfl
   |cons b r=>
    have ih:=pad_canon (b::r) (by simp) (by simp only [List.all_cons,Bool.and_eq_true] at hd ⊢;exact hd.2)
    have hv:valD (48::b::r)=valD (b::r):=rfl
    have hl:=congrArg List.length ih
    unfold zerosP at ih hl ⊢
    rw [List.length_append,Lib.repeatL_length] at hl
    simp only [List.length_cons,List.length_nil] at hl
    rw [hv,show(48::b::r).length - (Lib.decDigits (valD (b::r))).length=((b::r).length - (Lib.decDigits (valD (b::r))).length)+1 by simp only [List.length_cons];omega,Lib.repeatL,List.append_assoc,ih]
    rfl
  ·have:=dec_canon (a::r).length (a::r) (Nat.le_refl _) (by simp) hd (fun h=>by simp at h;exact absurd h ha)
   rw [this]
   unfold zerosP
   rw [Nat.sub_self]
   rfl
theorem val_lt:∀(d:Bs) (n:Nat),d.all digitB=true→valF n d+1≤(n+1)*10 ^ d.length
 |[],n,_=>Nat.le_of_eq (by rw [List.length_nil,Nat.pow_zero,Nat.mul_one];rfl)
 |b::d,n,h=>by
  rw [List.all_cons,Bool.and_eq_true] at h
  have hb:=digit_le h.1
  have ih:=val_lt d (n*10+(b.toNat - 48)) h.2
  have h2:(n*10+(b.toNat - 48)+1)*10 ^ d.length≤((n+1)*10)*10 ^ d.length:=Nat.mul_le_mul_right _ (by omega)
  rw [List.length_cons,Nat.pow_succ]
  have h3:(n+1)*10*10 ^ d.length=(n+1)*(10 ^ d.length*10):=by rw [Nat.mul_assoc,Nat.mul_comm 10]
  exact Nat.le_trans ih (Nat.le_trans h2 (Nat.le_of_eq h3))
def nodeK:Bs:=[110,111,100,101,47]
def key8 (k:Bs): Option Nat:=if k.length=13∧k.take 5=nodeK∧(k.drop 5).all digitB=true then some (valD (k.drop 5)) else none
theorem key8_some {k:Bs}{id:Nat}(h:key8 k=some id): k=keyP id∧id≤99999999:=by
 unfold key8 at h
 split at h
 ·rename_i e
  obtain⟨h1,h2,h3⟩:=e
  cases h
  have hl:(k.drop 5).length=8:=by rw [List.length_drop];omega
  have h4:=pad_canon (k.drop 5) (fun e=>by rw [e] at hl;simp at hl) h3
  have h5:=val_lt (k.drop 5) 0 h3
  rw [hl] at h4 h5
  refine⟨?_,by unfold valD;omega⟩
  unfold zerosP at h4
  unfold keyP
  rw [List.append_assoc,h4]
  show k=nodeK++k.drop 5
  rw [← h2,List.take_append_drop]
 ·cases h
theorem key8_key (id:Nat)(h:id≤99999999): key8 (keyP id)=some id:=by
 have hl:=dec_len 7 id (by omega)
 have hp:1≤(Lib.decDigits id).length:=by
  cases hq:Lib.decDigits id with
  |nil=>exact absurd hq (dec_pos id)
  |cons a b=>simp
 have e:keyP id=nodeK++idT id:=by unfold keyP idT;rw [List.append_assoc];rfl
 have hlen:(idT id).length=8:=by unfold idT;rw [List.length_append,Lib.repeatL_length];simp;omega
 unfold key8
 rw [e,if_pos ⟨by rw [List.length_append,hlen];rfl,by rfl,by
  rw [show(nodeK++idT id).drop 5=idT id from rfl]
  refine List.all_eq_true.2 fun b hb=>?_
  rcases List.mem_append.1 hb with hb | hb
  ·exact zeros_digit _ b hb
  ·exact dec_digit id b hb⟩]
 rw [show(nodeK++idT id).drop 5=idT id from rfl]
 exact congrArg some ((zeros_valF _ _).trans (dec_val id))
def nodeS (id:Nat)(l:List Bs): Nd×Rst:=
 let a1:=numS 0 999999999999999 (l,false)
 let a2:=numS 0 999999999999999 a1.2
 let a3:=textS a2.2
 let a4:=textS a3.2
 let a5:=textS a4.2
 let a6:=listS a5.2
 let a7:=numS 0 999999999999999 a6.2
 let a8:=numS 0 999999999999999 a7.2
 let a9:=flagS a8.2
 let a10:=flagS a9.2
 let a11:=listS a10.2
 let a12:=numS 0 999999999999999 a11.2
 let a13:=textS a12.2
 let a14:=textS a13.2
 (⟨id,(a1.1:Int),a2.1,a3.1,a4.1,a5.1,a6.1,(a7.1:Int),(a8.1:Int),a9.1,a10.1,a11.1,(a12.1:Int),a13.1,a14.1⟩,a14.2)
theorem pair_eta {α β:Type}{p:α×β}{b:β}(h:p.2=b): p=(p.1,b):=by rw [← h]
theorem nodeS_back {id:Nat}{l:List Bs}(h:(nodeS id l).2=([],false)): l=nodeT (nodeS id l).1:=by
 rw [nodeT_eq]
 simp only [nodeS] at h ⊢
 obtain⟨a1,h1⟩:∃a,numS 0 999999999999999 (l,false)=a:=⟨_,rfl⟩
 rw [h1] at h ⊢
 obtain⟨a2,h2⟩:∃a,numS 0 999999999999999 a1.2=a:=⟨_,rfl⟩
 rw [h2] at h ⊢
 obtain⟨a3,h3⟩:∃a,textS a2.2=a:=⟨_,rfl⟩
 rw [h3] at h ⊢
 obtain⟨a4,h4⟩:∃a,textS a3.2=a:=⟨_,rfl⟩
 rw [h4] at h ⊢
 obtain⟨a5,h5⟩:∃a,textS a4.2=a:=⟨_,rfl⟩
 rw [h5] at h ⊢
 obtain⟨a6,h6⟩:∃a,listS a5.2=a:=⟨_,rfl⟩
 rw [h6] at h ⊢
 obtain⟨a7,h7⟩:∃a,numS 0 999999999999999 a6.2=a:=⟨_,rfl⟩
 rw [h7] at h ⊢
 obtain⟨a8,h8⟩:∃a,numS 0 999999999999999 a7.2=a:=⟨_,rfl⟩
 rw [h8] at h ⊢
 obtain⟨a9,h9⟩:∃a,flagS a8.2=a:=⟨_,rfl⟩
 rw [h9] at h ⊢
 obtain⟨a10,h10⟩:∃a,flagS a9.2=a:=⟨_,rfl⟩
 rw [h10] at h ⊢
 obtain⟨a11,h11⟩:∃a,listS a10.2=a:=⟨_,rfl⟩
 rw [h11] at h ⊢
 obtain⟨a12,h12⟩:∃a,numS 0 999999999999999 a11.2=a:=⟨_,rfl⟩
 rw [h12] at h ⊢
 obtain⟨a13,h13⟩:∃a,textS a12.2=a:=⟨_,rfl⟩
 rw [h13] at h ⊢
 obtain⟨a14,h14⟩:∃a,textS a13.2=a:=⟨_,rfl⟩
 rw [h14] at h ⊢
 have e13:=textS_back (h14.trans (pair_eta h))
 have e12:=textS_back (h13.trans (pair_eta e13))
 have e11:=(numS_back (h12.trans (pair_eta e12))).1
 have e10:=listS_back (h11.trans (pair_eta e11))
 have e9:=flagS_back (h10.trans (pair_eta e10))
 have e8:=flagS_back (h9.trans (pair_eta e9))
 have e7:=(numS_back (h8.trans (pair_eta e8))).1
 have e6:=(numS_back (h7.trans (pair_eta e7))).1
 have e5:=listS_back (h6.trans (pair_eta e6))
 have e4:=textS_back (h5.trans (pair_eta e5))
 have e3:=textS_back (h4.trans (pair_eta e4))
 have e2:=textS_back (h3.trans (pair_eta e3))
 have e1:=(numS_back (h2.trans (pair_eta e2))).1
 have e0:=(numS_back (h1.trans (pair_eta e1))).1
 have:=congrArg Prod.fst e0
 simp only [Lib.itoa_nonneg]
 exact this
theorem nodeS_id (id:Nat)(l:List Bs): (nodeS id l).1.id=id:=rfl
theorem itoa_nat {x:Int}(h:0≤x): Lib.itoa x=Lib.decDigits x.toNat:=by
 obtain⟨k,rfl⟩:=Int.eq_ofNat_of_zero_le h
 exact Lib.itoa_nonneg k
theorem nodeS_node (n:Nd)(hk:0≤n.kind∧n.kind≤999999999999999)(hp:n.parent≤999999999999999)(hb:0≤n.born∧n.born≤999999999999999)(he:0≤n.exp∧n.exp≤999999999999999)(hv:0≤n.level∧n.level≤999999999999999)(hs:n.scope.length≤100000)(ha:n.actors.length≤100000):
  nodeS n.id (nodeT n)=(n,([],false)):=by
 rw [nodeT_eq]
 simp only [nodeS,List.singleton_append]
 rw [itoa_nat hk.1,numS_dec _ (Nat.zero_le _) (by omega) (by decide)]
 dsimp only
 rw [Lib.itoa_nonneg,numS_dec _ (Nat.zero_le _) (by omega) (by decide)]
 dsimp only [textS]
 rw [listS_list _ _ hs]
 dsimp only
 rw [itoa_nat hb.1,numS_dec _ (Nat.zero_le _) (by omega) (by decide)]
 dsimp only
 rw [itoa_nat he.1,numS_dec _ (Nat.zero_le _) (by omega) (by decide)]
 dsimp only
 rw [flagS_flag]
 dsimp only
 rw [flagS_flag]
 dsimp only
 rw [listS_list _ _ ha]
 dsimp only
 rw [itoa_nat hv.1,numS_dec _ (Nat.zero_le _) (by omega) (by decide)]
 dsimp only
 rw [Int.toNat_of_nonneg hk.1,Int.toNat_of_nonneg hb.1,Int.toNat_of_nonneg he.1,Int.toNat_of_nonneg hv.1]
end Go.Proofs.YthogppennalobaaGreatDoor
