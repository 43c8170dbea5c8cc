/- mayBe Prune. Condition: at most a million nodes. New; rows of nodes a forest beside other changes; the next number Plant words -/
import Derived.Test.YthogppennalobaaGreatDoorZl14
import Derived.Sort.CutIn
import Derived.Test.YthogppennalobaaGreatDoorZl09
import Derived.Test.YthogppennalobaaGreatDoorZl03
import Derived.Test.YthogppennalobaaGreatDoorZl08
set_option linter.unusedVariables false
set_option linter.unusedSimpArgs false
set_option maxRecDepth 100000
namespace Go.Proofs.YthogppennalobaaGreatDoor
open Go.RowKit Go.Sort Forest Pl
set_option maxHeartbeats 4000000 in
theorem mayBe_any (i p:Int)(n:Nd)(sv av:Value)(hn:Mid n)(w:World)(h1:Rd w sv n.scope)(h2:Rd w av n.actors): Calls Tryz.prog 63 #[.agg (inC i p n sv av)] w fun e w'=>e = .returned (.bool (mayP p n))∧Below w.heap.size w w':=by
 have HP:=Lib.hid (fun W=>prin_any n.subject hn.subject W)
 have HC:=Lib.hid (fun W=>name_any n.client hn.client W)
 have HA:=Lib.hid (fun W=>text_any n.audience hn.audience W)
 have HS:=Lib.hid (fun(hl:(n.scope.length:Int)≤16) W (hb:Below w.heap.size w W)=>all104 n.scope hn.scope (by omega) W sv (h1.below hb))
 have HR:=Lib.hid (fun(hl:(n.scope.length:Int)≤16) W (hb:Below w.heap.size w W)=>rise_any n.scope (by omega) W sv (h1.below hb))
 have HB:=Lib.hid (fun W=>isTime_any n.born W)
 have HE:=Lib.hid (fun W=>isTime_any n.exp W)
 have HL:=Lib.hid (fun(hl:(n.actors.length:Int)≤4) W (hb:Below w.heap.size w W)=>all100 n.actors hn.actors (by omega) W av (h2.below hb))
 obtain⟨sa,sc,rfl,_⟩:=h1
 obtain⟨aa,ac,rfl,_⟩:=h2
 clear hn
 have Q6:(((((((((((((decide (1≤n.kind))&&(decide (n.kind<6))))&&(decide (0≤p))))&&(prinP n.subject)))&&(((((n.client == [])))||(nameP n.client)))))&&(((((n.audience == [])))||(textP n.audience)))))&&(decide ((n.scope.length:Int)≤16))))=true→(n.scope.length:Int)≤16:=fun h=>by
  simp only [Bool.and_eq_true,decide_eq_true_eq] at h
  omega
 have Q7:(((((((((((((((decide (1≤n.kind))&&(decide (n.kind<6))))&&(decide (0≤p))))&&(prinP n.subject)))&&(((((n.client == [])))||(nameP n.client)))))&&(((((n.audience == [])))||(textP n.audience)))))&&(decide ((n.scope.length:Int)≤16))))&&(n.scope.all scopeP)))=true→(n.scope.length:Int)≤16:=fun h=>Q6 (by rw [Bool.and_eq_true] at h;exact h.1)
 have Q11:(((((((((((((((((((((((decide (1≤n.kind))&&(decide (n.kind<6))))&&(decide (0≤p))))&&(prinP n.subject)))&&(((((n.client == [])))||(nameP n.client)))))&&(((((n.audience == [])))||(textP n.audience)))))&&(decide ((n.scope.length:Int)≤16))))&&(n.scope.all scopeP)))&&(riseP n.scope)))&&(isTimeP n.born)))&&(isTimeP n.exp)))&&(decide ((n.actors.length:Int)≤4))))=true→(n.actors.length:Int)≤4:=fun h=>by
  simp only [Bool.and_eq_true,decide_eq_true_eq] at h
  omega
 have K:Bk 31 (w.alloc (.cells #[.int .i64 i,.int .i64 n.kind,.int .i64 p,.string ⟨n.subject.toArray⟩,.string ⟨n.client.toArray⟩,.string ⟨n.audience.toArray⟩,.slice sa n.scope.length sc,.int .i64 n.born,.int .i64 n.exp,.bool n.dead,.bool n.spent,.slice aa n.actors.length ac,.int .i64 n.level,.string ⟨n.secret.toArray⟩,.string ⟨n.data.toArray⟩] 31)) w.heap.size #[.int .i64 i,.int .i64 n.kind,.int .i64 p,.string ⟨n.subject.toArray⟩,.string ⟨n.client.toArray⟩,.string ⟨n.audience.toArray⟩,.slice sa n.scope.length sc,.int .i64 n.born,.int .i64 n.exp,.bool n.dead,.bool n.spent,.slice aa n.actors.length ac,.int .i64 n.level,.string ⟨n.secret.toArray⟩,.string ⟨n.data.toArray⟩]:=Bk.new rfl
 have HW:Below w.heap.size w (w.alloc (.cells #[.int .i64 i,.int .i64 n.kind,.int .i64 p,.string ⟨n.subject.toArray⟩,.string ⟨n.client.toArray⟩,.string ⟨n.audience.toArray⟩,.slice sa n.scope.length sc,.int .i64 n.born,.int .i64 n.exp,.bool n.dead,.bool n.spent,.slice aa n.actors.length ac,.int .i64 n.level,.string ⟨n.secret.toArray⟩,.string ⟨n.data.toArray⟩] 31)):=by go_grown
 have HD:(((((((((((((((((((((((((((((((((((decide (1≤n.kind))&&(decide (n.kind<6))))&&(decide (0≤p))))&&(prinP n.subject)))&&(((((n.client == [])))||(nameP n.client)))))&&(((((n.audience == [])))||(textP n.audience)))))&&(decide ((n.scope.length:Int)≤16))))&&(n.scope.all scopeP)))&&(riseP n.scope)))&&(isTimeP n.born)))&&(isTimeP n.exp)))&&(decide ((n.actors.length:Int)≤4))))&&(n.actors.all prinP)))&&(decide (0≤n.level))))&&(decide (n.level≤3))))&&((!(n.secret == [])))))&&(decide ((n.secret.length:Int)≤64))))&&(decide ((n.data.length:Int)≤256))))=mayP p n:=by unfold mayP;rfl
 have HH:=Lib.hid (And.intro Q6 (And.intro Q7 (And.intro Q11 (And.intro K (And.intro HW HD)))))
 clear Q6 Q7 Q11 K HW HD
 unfold inC txt
 go_enter Tryz.func63,Tryz.ntmps63
 go_upto_region 1 with fail
 obtain⟨Q6,Q7,Q11,K,HW,HD⟩:=HH.out
 refine may1 (W:=fun w'=>Below w.heap.size w w'∧Below (w.alloc (.cells #[.int .i64 i,.int .i64 n.kind,.int .i64 p,.string ⟨n.subject.toArray⟩,.string ⟨n.client.toArray⟩,.string ⟨n.audience.toArray⟩,.slice sa n.scope.length sc,.int .i64 n.born,.int .i64 n.exp,.bool n.dead,.bool n.spent,.slice aa n.actors.length ac,.int .i64 n.level,.string ⟨n.secret.toArray⟩,.string ⟨n.data.toArray⟩] 31)).heap.size (w.alloc (.cells #[.int .i64 i,.int .i64 n.kind,.int .i64 p,.string ⟨n.subject.toArray⟩,.string ⟨n.client.toArray⟩,.string ⟨n.audience.toArray⟩,.slice sa n.scope.length sc,.int .i64 n.born,.int .i64 n.exp,.bool n.dead,.bool n.spent,.slice aa n.actors.length ac,.int .i64 n.level,.string ⟨n.secret.toArray⟩,.string ⟨n.data.toArray⟩] 31)) w') rfl rfl rfl rfl rfl rfl rfl rfl rfl rfl rfl rfl rfl rfl rfl rfl rfl rfl rfl rfl rfl rfl rfl rfl rfl rfl rfl rfl rfl rfl rfl (fun w2 h=>cell_below h.2 (K.cell 1)) (fun w2 h=>cell_below h.2 (K.cell 2)) (fun w2 h=>cell_below h.2 (K.cell 3)) (fun w2 h=>cell_below h.2 (K.cell 4)) (fun w2 h=>cell_below h.2 (K.cell 5)) (fun w2 h=>cell_below h.2 (K.cell 6)) (fun w2 h=>cell_below h.2 (K.cell 7)) (fun w2 h=>cell_below h.2 (K.cell 8)) (fun w2 h=>cell_below h.2 (K.cell 11)) (fun w2 h=>cell_below h.2 (K.cell 12)) (fun w2 h=>cell_below h.2 (K.cell 13)) (fun w2 h=>cell_below h.2 (K.cell 14)) (fun _ w2 h=>(HP.out _).mono fun e w3 h3=>⟨h3.1,h3.2▸h⟩) (fun _ w2 h=>(HC.out _).mono fun e w3 h3=>⟨h3.1,h3.2▸h⟩) (fun _ w2 h=>(HA.out _).mono fun e w3 h3=>⟨h3.1,h3.2▸h⟩) (fun hq w2 h=>(HS.out (Q6 hq) w2 h.1).mono fun e w3 h3=>⟨h3.1,h3.2▸h⟩) (fun hq w2 h=>(HR.out (Q7 hq) w2 h.1).mono fun e w3 h3=>⟨h3.1,by obtain⟨q,rfl⟩:=h3.2;exact⟨below_drewN h.1 q,below_drewN h.2 q⟩⟩) (fun _ w2 h=>(HB.out _).mono fun e w3 h3=>⟨h3.1,h3.2▸h⟩) (fun _ w2 h=>(HE.out _).mono fun e w3 h3=>⟨h3.1,h3.2▸h⟩) (fun hq w2 h=>(HL.out (Q11 hq) w2 h.1).mono fun e w3 h3=>⟨h3.1,h3.2▸h⟩) ⟨HW,Below.refl _ _⟩ ?_
 intro w1 hw1
 go_wp2_with fail
 go_ret
 exact⟨by rw [← HD];rfl,hw1.1⟩
end Go.Proofs.YthogppennalobaaGreatDoor
namespace Go.Proofs.YthogppennalobaaGreatDoor
open Go.RowKit Go.Sort Go.Shelf Forest OwnR TxO
attribute [local go_sem] Oper.semAt_some
theorem backward_any (a:Option Addr)(n c:Nat)(w:World): Calls Tryz.prog 69 #[.slice a n c] w fun e w'=>e = .returned (.func (.func 112) #[] #[.pointer (some ⟨w.heap.size,0,none⟩)])∧w'=w.alloc (.cells #[.slice a n c] 69):=by
 go_enter Tryz.func69,Tryz.ntmps69
 go_wp2
 go_ret
 exact⟨rfl,rfl⟩
def stepK (lv:Nd→Bool)(k:List Nat)(n:Nd): List Nat:=if k.contains n.id||lv n then n.parent::n.id::k else k
theorem kept_fold (lv:Nd→Bool): ∀(l:List Nd) (k:List Nat),kept lv l k=l.foldl (stepK lv) k
 |[],k=>rfl
 |n::l,k=>by rw [kept,kept_fold lv l,List.foldl_cons];rfl
def keptK (ns:Ns)(now:Int)(q:Nat): List Nat:=((nodes ns).reverse.take q).foldl (stepK (liveN (nodes ns) now)) []
theorem keptK_succ (ns:Ns)(now:Int){q:Nat}(hq:q<ns.length): keptK ns now (q+1)=stepK (liveN (nodes ns) now) (keptK ns now q) (ns[ns.length - 1 - q]'(by omega)).2:=by
 unfold keptK
 have hl:q<(nodes ns).reverse.length:=by simp [nodes];omega
 rw [List.take_add_one,List.getElem?_eq_getElem hl,List.foldl_append]
 have:(nodes ns).reverse[q]=(ns[ns.length - 1 - q]'(by omega)).2:=by simp [nodes]
 rw [this];rfl
def ints (k:List Nat): List Int:=k.map fun(x:Nat)=>(x:Int)
theorem ints_has (k:List Nat)(x:Nat): (ints k).contains (x:Int)=k.contains x:=by
 rw [Bool.eq_iff_iff,List.contains_iff_mem,List.contains_iff_mem]
 unfold ints
 rw [List.mem_map]
 constructor
 ·rintro⟨y,hy,e⟩;have:y=x:=by omega
  exact this▸hy
 ·intro h;exact⟨x,h,rfl⟩
structure PrI (w:World)(ns:Ns)(now:Int)(a:Option Addr)(c b:Nat)(q:Nat)(W:World): Prop where
 below:Below b w W
 box:Bk 3 W b #[.int .i64 now]
 set:IsSet W (b+1) (ints (keptK ns now q))
 var:Bk 100 W (b+1+1) #[.map (some (b+1))]
 row:Bk 69 W (b+1+1+1) #[.slice a ns.length c]
theorem PrI.keep {w A C:World}{ns:Ns}{now:Int}{a:Option Addr}{c b q B:Nat}(h:PrI w ns now a c b q A)(hB:b+1+1+1<B)(hb:Below B A C): PrI w ns now a c b q C:=
 ⟨h.below.trans (hb.mono (by omega)),(hb.block _ (by omega)).trans h.box,h.set.of (hb.block _ (by omega)),(hb.block _ (by omega)).trans h.var,(hb.block _ (by omega)).trans h.row⟩
theorem up_of_below {B:Nat}{A C:World}(h:Below A.heap.size A C): Up B A C:=⟨h.size,fun q _ hl=>h.block q hl⟩
theorem last_range {pre:List Nat}{x n:Nat}(h:pre++[x] <+: List.range n): x=pre.length∧pre.length<n:=by
 obtain⟨r,hr⟩:=h
 have h1:=congrArg List.length hr
 simp at h1
 have h2:(List.range n)[pre.length]?=some x:=by rw [← hr];simp
 rw [List.getElem?_range (by omega)] at h2
 exact⟨(Option.some.inj h2).symm,by omega⟩
theorem find_sub {α:Type}(p q:α→Bool): ∀(l:List α),(∀x∈l,q x=true→p x=true)→(l.filter p).find? q=l.find? q
 |[],_=>rfl
 |x::l,h=>by
  have ih:=find_sub p q l fun y hy=>h y (List.mem_cons_of_mem _ hy)
  rw [List.filter_cons,List.find?_cons]
  cases hq:q x with
  |true=>rw [if_pos (h x (by simp) hq),List.find?_cons,hq]
  |false=>
   split
   ·rw [List.find?_cons,hq];exact ih
   ·exact ih
theorem blockI_part {ns:Ns}{P:Nd→Bool}(hP:Part (nodes ns) P){k:Nat×Nd}(hk:k∈ns)(hp:P k.2=true): blockI (ns.filter fun k=>P k.2) k.2.parent=blockI ns k.2.parent:=by
 unfold blockI
 rw [find_sub (fun q:Nat×Nd=>P q.2) _ ns fun q hq e=>hP.up _ (mem_nodes hk) _ (mem_nodes hq) hp (by simp at e;omega)]
theorem FR.part {w w':World}{f:Nat}{ns:Ns}{nx:Int}(h:FR w f ns nx){P:Nd→Bool}(hP:Part (nodes ns) P){a:Option Addr}{n c:Nat}{L:List Nat}(hb:Bk 71 w f #[.slice a n c,.int .i64 nx])(ho:Only L w w')(hL:∀q∈L,q=f∨(Value.slice a n c).ownBlock=some q)
  (h1:Bk 71 w' f #[.slice a (ns.filter fun k=>P k.2).length c,.int .i64 nx]) (h2:w'.ownsRow 0 72 1 (.slice a (ns.filter fun k=>P k.2).length c) (ns.filter fun k=>P k.2).length (kps (ns.filter fun k=>P k.2))):FR w' f (ns.filter fun k=>P k.2) nx∧Chf w w' f ns (ns.filter fun k=>P k.2):=by
 have e:nodes (ns.filter fun k=>P k.2)=(nodes ns).filter P:=by
  unfold nodes
  rw [List.filter_map]
  rfl
 have hLo:∀q∈L,OwnsB w f ns q:=fun q hq=>by
  rcases hL q hq with rfl | h3
  ·exact .inl rfl
  ·refine .inr (.inr ⟨n,c,.int .i64 nx,?_⟩)
   obtain⟨rfl,hrow⟩:=h.row hb
   rcases hrow.2 with ⟨hx,_⟩ | ⟨z,cap,cur,hx,_⟩
   ·rw [Value.slice.injEq] at hx
    rw [hx.1] at h3
    cases h3
   ·rw [Value.slice.injEq] at hx
    rw [hx.1] at h3
    have:z=q:=by simpa [Value.ownBlock] using h3
    subst this
    rw [← hx.1]
    exact hb
 refine⟨⟨by rw [e];exact h.ok.filter P,⟨a,c,h1,h2⟩,fun k hk=>?_⟩,⟨⟨⟨L,ho,hLo⟩,fun q hq=> .inl ?_⟩,fun q hq=> .inl ?_⟩⟩
 rotate_left 2
 ·obtain⟨k,hk,m,s1,s2,up,k1,k2⟩:=hq
  obtain⟨hk1,_⟩:=List.mem_filter.1 hk
  obtain⟨t1,t2,k3,_⟩:=h.node k hk1
  have hn:∀q∈L,q≠k.1:=fun q hq e=>by
   subst e
   rcases hL k.1 hq with e | e
   ·exact bk_ne k3 hb (by decide) e
   ·obtain⟨rfl,hrow⟩:=h.row hb
    exact owns_ne hrow k3 (by decide) e
  have k4:=k3.only ho fun hq=>hn _ hq rfl
  obtain⟨rfl,rfl⟩:=ndC_inj (bk_inj k4 k1)
  exact⟨k,hk1,_,_,_,_,k3,k2⟩
 ·obtain⟨hk1,hk2⟩:=List.mem_filter.1 hk
  obtain⟨sv,av,k1,k2,k3⟩:=h.node k hk1
  have hn:∀q∈L,q≠k.1:=fun q hq e=>by
   subst e
   rcases hL k.1 hq with e | e
   ·exact bk_ne k1 hb (by decide) e
   ·obtain⟨rfl,hrow⟩:=h.row hb
    exact owns_ne hrow k1 (by decide) e
  refine⟨sv,av,?_,k2.only ho fun g hg hq=>(hLo g hq).no9 h _ (owns_block k2 hg).2.choose_spec,k3.only ho fun g hg hq=>(hLo g hq).no9 h _ (owns_block k3 hg).2.choose_spec⟩
  rw [blockI_part hP hk1 hk2]
  exact k1.only ho fun hq=>hn _ hq rfl
 ·rcases hq with rfl | ⟨k,hk,rfl⟩ | ⟨m,d,x,hq⟩
  ·exact .inl rfl
  ·exact .inr (.inl ⟨k,(List.mem_filter.1 hk).1,rfl⟩)
  ·have e:=h1.symm.trans hq
   simp only [Option.some.injEq,Obj.cells.injEq,Array.mk.injEq,List.cons.injEq,Value.slice.injEq] at e
   obtain⟨⟨⟨rfl,_⟩,_⟩,_⟩:=e
   exact .inr (.inr ⟨n,c,_,hb⟩)
theorem only_put {w:World}{D:Nat}{o:Obj}: Only [D] w (w.putObj D o):=
 ⟨rfl,rfl,rfl,Nat.le_of_eq World.putObj_size.symm,fun q hq hn=>World.putObj_heap_other (fun e=>hn (by simp [e]))⟩
structure EntP (X:World)(B:Nat)(K:List Int)(x p:Int)(b14 b15 b16 b17 b18 b19:Bool)(y14 y15 y17 y18:Value)(W:World): Prop where
 only:Only [B] X W
 set:IsSet W B (if b17 then p::x::K else if b14 then x::K else K)
 e1:b14=true→b16=false→∃s:Nat,y14 = .tuple #[.agg #[],goInt (s:Nat)]∧HasStamp W B s∧(b15=true→y15=goInt (s:Nat))
 e2:b17=true→b19=false→∃s:Nat,y17 = .tuple #[.agg #[],goInt (s:Nat)]∧HasStamp W B s∧(b18=true→y18=goInt (s:Nat))
section
variable {X W:World} {B:Nat} {K:List Int} {x p:Int} {y14 y15 y17 y18:Value}
theorem EntP.start (h:IsSet X B K): EntP X B K x p false false false false false false undef undef undef undef X.drew:=
 ⟨(Only.refl _ X).drew,h,fun h=>(by cases h),fun h=>(by cases h)⟩
theorem EntP.slots {W:World}(h:EntP X B K x p false false false false false false undef undef undef undef W)(a b c d:Value): EntP X B K x p false false false false false false a b c d W:=
 ⟨h.only,h.set,fun h=>(by cases h),fun h=>(by cases h)⟩
theorem EntP.s14 (h:EntP X B K x p false false false false false false y14 y15 y17 y18 W): ∃v w',(Instr.mapEntry 100 (.map (some B)) (.int .i64 x)).run Tryz.prog W = .ok v w'∧EntP X B K x p true false false false false false v y15 y17 y18 w':=by
 obtain⟨s,w',hr,hs,ht,ho,_⟩:=IsSet.entry (k:=K) h.set x
 exact⟨_,w',hr,h.only.trans ho (fun x hx=> .inl hx),hs,fun _ _=>⟨s,rfl,ht,fun h=>(by cases h)⟩,fun h=>(by cases h)⟩
theorem EntP.s15 (h:EntP X B K x p true false false false false false y14 y15 y17 y18 W): ∃u z,y14 = .tuple #[u,z]∧EntP X B K x p true true false false false false y14 z y17 y18 W:=by
 obtain⟨s,e,ht,_⟩:=h.e1 rfl rfl
 exact⟨_,_,e,h.only,h.set,fun _ _=>⟨s,e,ht,fun _=>rfl⟩,fun h=>(by cases h)⟩
theorem EntP.s16 (h:EntP X B K x p true true false false false false y14 y15 y17 y18 W): ∃w',(Instr.entryStore 100 (.map (some B)) y15 (.agg #[])).run Tryz.prog W = .ok () w'∧EntP X B K x p true true true false false false y14 y15 y17 y18 w':=by
 obtain⟨s,e,ht,e2⟩:=h.e1 rfl rfl
 rw [e2 rfl]
 obtain⟨w',hr,hs,ho,_⟩:=IsSet.lay (k:=x::K) h.set ht
 exact⟨w',hr,h.only.trans ho (fun x hx=> .inl hx),hs,fun _ h=>(by cases h),fun h=>(by cases h)⟩
theorem EntP.s17 (h:EntP X B K x p true true true false false false y14 y15 y17 y18 W): ∃v w',(Instr.mapEntry 100 (.map (some B)) (.int .i64 p)).run Tryz.prog W = .ok v w'∧EntP X B K x p true true true true false false y14 y15 v y18 w':=by
 obtain⟨s,w',hr,hs,ht,ho,_⟩:=IsSet.entry (k:=x::K) h.set p
 exact⟨_,w',hr,h.only.trans ho (fun x hx=> .inl hx),hs,fun _ h=>(by cases h),fun _ _=>⟨s,rfl,ht,fun h=>(by cases h)⟩⟩
theorem EntP.s18 (h:EntP X B K x p true true true true false false y14 y15 y17 y18 W): ∃u z,y17 = .tuple #[u,z]∧EntP X B K x p true true true true true false y14 y15 y17 z W:=by
 obtain⟨s,e,ht,_⟩:=h.e2 rfl rfl
 exact⟨_,_,e,h.only,h.set,fun _ h=>(by cases h),fun _ _=>⟨s,e,ht,fun _=>rfl⟩⟩
theorem EntP.s19 (h:EntP X B K x p true true true true true false y14 y15 y17 y18 W): ∃w',(Instr.entryStore 100 (.map (some B)) y18 (.agg #[])).run Tryz.prog W = .ok () w'∧EntP X B K x p true true true true true true y14 y15 y17 y18 w':=by
 obtain⟨s,e,ht,e2⟩:=h.e2 rfl rfl
 rw [e2 rfl]
 obtain⟨w',hr,hs,ho,_⟩:=IsSet.lay (k:=p::x::K) h.set ht
 exact⟨w',hr,h.only.trans ho (fun x hx=> .inl hx),hs,fun _ h=>(by cases h),fun _ h=>(by cases h)⟩
theorem EntP.fin (h:EntP X B K x p true true true true true true y14 y15 y17 y18 W): IsSet W B (p::x::K):=h.set
end
set_option maxHeartbeats 16000000 in
theorem prune_in {w:World}{f:Nat}{ns:Ns}{nx:Int}(h:FR w f ns nx)(hl:ns.length≤1000000)(now:Int): CallsIn Fence.wide 8 Tryz.prog 31 #[kpt f,.int .i64 now] w fun e w'=>Ends w f ns nx (.int .i64 ((ns.length:Int) - ((prune (nodes ns) now).length:Int))) (prune (nodes ns) now) nx e w':=by
 obtain⟨R,hR⟩:∃R,R=prune (nodes ns) now:=⟨_,rfl⟩
 rw [← hR]
 have HRR:=Lib.hid hR
 clear hR
 have H:=Lib.hid h
 obtain⟨a,c,ho,hr⟩:=h.obj
 have c0:∀o1 o2 o3,(((w.alloc o1).alloc o2).alloc o3).cell? ⟨f,0,none⟩=some (.slice a ns.length c):=fun o1 o2 o3=>ho.alloc.alloc.alloc.cell 0
 have HO:=Lib.hid ho
 have HRW:=Lib.hid hr
 clear ho hr h
 have hmm:=@run_makeMap Tryz.prog
 unfold kpt
 obtain⟨b,hb⟩:∃b,b=w.heap.size:=⟨_,rfl⟩
 have HB:=Lib.hid hb
 have hP0:PrI w ns now a c b 0 ((((w.alloc (.cells #[.int .i64 now] 3)).alloc (.map #[] 0)).alloc (.cells #[.map (some (w.heap.size+1))] 100)).alloc (.cells #[.slice a ns.length c] 69)):=by
  refine⟨by rw [hb];go_grown,(((Bk.new hb).alloc).alloc).alloc,?_,?_,Bk.new (by simp [hb])⟩
  ·have:=(IsSet.new (w.alloc (.cells #[.int .i64 now] 3)) 0).below (w':=(((w.alloc (.cells #[.int .i64 now] 3)).alloc (.map #[] 0)).alloc (.cells #[.map (some (w.heap.size+1))] 100)).alloc (.cells #[.slice a ns.length c] 69)) (by go_grown)
   have e:ints (keptK ns now 0)=[]:=by simp [keptK,ints]
   rw [e]
   simpa [hb] using this
  ·rw [hb];exact(Bk.new (by simp)).alloc
 have hsz:((((w.alloc (.cells #[.int .i64 now] 3)).alloc (.map #[] 0)).alloc (.cells #[.map (some (w.heap.size+1))] 100)).alloc (.cells #[.slice a ns.length c] 69)).heap.size=b+1+1+1+1:=by simp [hb]
 have HP0:=Lib.hid hP0
 have HSZ:=Lib.hid hsz
 clear hP0 hsz
 refine callsIn_of_wp_marks Tryz.func31 rfl trivial ?_ rfl
 simp only [Tryz.ntmps31,List.size_toArray,List.length_cons,List.length_nil,Nat.reduceAdd,Nat.reduceSub,Array.replicate_succ,Array.replicate_zero,List.push_toArray,List.append_toArray,List.nil_append,List.cons_append]
 gi_wp2
 refine⟨trivial,?_⟩
 refine(callsIn_wide.2 (backward_any a ns.length c _)).mono ?_
 rintro e w1 ⟨rfl,rfl⟩
 rw [show(((w.alloc (.cells #[.int .i64 now] 3)).alloc (.map #[] 0)).alloc (.cells #[.map (some (w.heap.size+1))] 100)).heap.size=b+1+1+1 by simp [hb]]
 generalize ((((w.alloc (.cells #[.int .i64 now] 3)).alloc (.map #[] 0)).alloc (.cells #[.map (some (w.heap.size+1))] 100)).alloc (.cells #[.slice a ns.length c] 69))=W4 at *
 rw [← hb]
 clear c0 hb hmm
 gi_wp2
 refine range_yields rfl (by decide) (gf:=112) (lb:=#[.pointer (some ⟨b+1+1+1,0,none⟩)]) rfl trivial (enters_of Tryz.func112 (by kernel_rfl) rfl)
  (back_yield 7 (by decide) ns hl a c (b+1+1+1) W4) (fun _=>rfl)
  (fun pre W=>PrI w ns now a c b pre.length W) (fun _ _=>False) ?hI ?hIx ?hIQ ?h0 ?round ?done ?stop
 case hI=>exact fun s A C h hb=>h.keep (by have:=HSZ.out;omega) hb
 case hIx=>exact fun s A C h _=>h
 case hIQ=>
  intro s A h
  refine⟨h.row.cell 0,fun i hi=>?_⟩
  obtain⟨g,e,hc⟩:=owns_cell HRW.out (i:=i) (v:=kpt ns[i].1) (by rw [List.getElem?_map,List.getElem?_eq_getElem hi];rfl)
  exact⟨g,e,cell_below (by have:=h.below;rw [HB.out] at this;exact this) hc⟩
 case h0=>exact HP0.out
 case stop=>exact fun D pre W _ _ h _=>h.elim
 case round=>
  intro l pre x W hI hpre hsz
  obtain⟨rfl,hq⟩:=last_range hpre
  have HI:=Lib.hid hI
  have hi:ns.length - 1 - pre.length<ns.length:=by omega
  obtain⟨k,hk⟩:∃k,ns[ns.length - 1 - pre.length]'hi=k:=⟨_,rfl⟩
  have hkm:k∈ns:=hk▸List.getElem_mem hi
  have hbk:backAt ns pre.length=k.1:=by
   unfold backAt
   rw [List.getD_eq_getElem?_getD,List.getElem?_map,List.getElem?_eq_getElem hi,hk];rfl
  have HKS:Hid (keptK ns now (pre.length+1)=stepK (liveN (nodes ns) now) (keptK ns now pre.length) k.2):=Lib.hid (by rw [keptK_succ ns now hq,hk])
  have HLN:Hid ((pre++[pre.length]).length=pre.length+1):=Lib.hid (by simp)
  unfold backE
  rw [hbk]
  have HKM:=Lib.hid hkm
  have HS:=Lib.hid hsz
  clear hk hkm hi hbk hpre hI HP0 hsz
  generalize pre.length=q at *
  unfold kpt
  gi_wp2
  refine⟨Below.refl _ _,fun W2 hn=>?_⟩
  have HI2:=Lib.hid (HI.out.keep (B:=W4.heap.size) (by have:=HSZ.out;omega) hn.below)
  have HS2:Hid (W4.heap.size≤W2.heap.size):=Lib.hid (by have:=HS.out;have:=hn.size;omega)
  clear hn HI HS
  gi_upto_region 4 with fail
  have hbw:Below w.heap.size w W2:=by have:=HI2.out.below;rw [HB.out] at this;exact this
  have H2:=Lib.hid (H.out.below hbw)
  have kv:=cell_regrown (HI2.out.var.cell 0)
  have kn:=cell_regrown (HI2.out.box.cell 0)
  have kid:=cell_regrown (H2.out.id0 k HKM.out)
  have HHS:Hid (∀d os,Calls Tryz.prog 70 #[.map (some (b+1)),.int .i64 (k.2.id:Int)] (grow (redrawn W2 d) os) fun e w''=>e = .returned (.bool ((keptK ns now q).contains k.2.id))∧∃p:Regrown,w''=grow (redrawn W2 p.d) p.os):=Lib.hid fun d os=>by
   rw [← ints_has]
   exact Calls.regrown_of (has_any (HI2.out.set.below (below_regrown W2 d os)) (k.2.id:Int))
  have HLV:Hid (∀d os,Calls Tryz.prog 66 #[.pointer (some ⟨k.1,0,none⟩),.int .i64 now] (grow (redrawn W2 d) os) fun e w''=>e = .returned (.bool (liveN (nodes ns) now k.2))∧∃p:Regrown,w''=grow (redrawn W2 p.d) p.os):=Lib.hid fun d os=>Calls.regrown_of (isLive_any (H2.out.below (below_regrown W2 d os)) HKM.out now)
  have HST:Hid (stepK (liveN (nodes ns) now) (keptK ns now q) k.2=if (keptK ns now q).contains k.2.id||liveN (nodes ns) now k.2 then k.2.parent::k.2.id::keptK ns now q else keptK ns now q):=Lib.hid rfl
  rw [HST.out] at HKS
  clear hbw HST
  have HREST:Hid (∀(bb:Bool) (V:World),((keptK ns now q).contains k.2.id||liveN (nodes ns) now k.2)=bb→Below W2.heap.size W2 V→True):=Lib.hid fun _ _ _ _=>trivial
  generalize hb1:(keptK ns now q).contains k.2.id=b1 at *
  generalize hb2:liveN (nodes ns) now k.2=b2 at *
  clear hb1 hb2
  refine wpIn_region_below_tail 11 mixed (by kernel_rfl) (by kernel_rfl) (fun a w h=>h) ?_
  simp only [List.take_succ_cons,List.take_zero,List.drop_succ_cons,List.drop_zero]
  cases b1 with
  |true=>
   repeat (first | go_big_quiet_step (first | (with_reducible exact HHS.out _ _) | (with_reducible exact HLV.out _ _)) | quiet_step (first | (with_reducible exact HHS.out _ _) | (with_reducible exact HLV.out _ _)))
   refine wpQuiet_nil ?_
   intro _ hw'
   obtain⟨⟨dq,osq⟩,hw''⟩:=hw'
   subst hw''
   have hbq:=below_regrown W2 dq osq
   have HI3:=Lib.hid (HI2.out.keep (B:=W4.heap.size) (by have:=HSZ.out;omega) (hbq.mono HS2.out))
   have H3:=Lib.hid (H2.out.below hbq)
   have HU3:Hid (Up W4.heap.size W2 (grow (redrawn W2 dq) osq)):=Lib.hid (up_of_below hbq)
   have HS3:Hid (W4.heap.size≤(grow (redrawn W2 dq) osq).heap.size):=Lib.hid (Nat.le_trans HS2.out hbq.size)
   clear kv kn kid HHS HLV hbq HREST HI2 H2
   generalize grow (redrawn W2 dq) osq=V at *
   go_wp2_with fail
   gi_upto_region 5 with fail
   have HSV:Hid (EntP V (b+1) (ints (keptK ns now q)) (k.2.id:Int) (k.2.parent:Int) false false false false false false undef undef undef undef V.drew):=Lib.hid (EntP.start HI3.out.set)
   have HCV:=Lib.hid (show ∀W,Only [b+1] V W→W.cell? ⟨b+1+1,0,none⟩=some (.map (some (b+1))) from fun W ho=>cell_only ho (HI3.out.var.cell 0) (by simp))
   have HCI:=Lib.hid (show ∀W,Only [b+1] V W→W.cell? ⟨k.1,0,none⟩=some (.int .i64 (k.2.id:Int))∧W.cell? ⟨k.1,2,none⟩=some (.int .i64 (k.2.parent:Int)) from fun W ho=>by
    obtain⟨sv,av,KN,_⟩:=H3.out.node k HKM.out
    have hne:k.1∉[b+1]:=fun hm=>by
     obtain⟨es,cl,hb,_⟩:=HI3.out.set
     rw [← List.mem_singleton.1 hm] at hb
     have h2:V.heap[k.1]?=some _:=KN
     rw [hb] at h2
     cases h2
    exact⟨cell_only ho (KN.cell 0) hne,cell_only ho (KN.cell 2) hne⟩)
   refine Pl.entR (fun b14 b15 b16 b17 b18 b19 y14 y15 y17 y18 W=>EntP V (b+1) (ints (keptK ns now q)) (k.2.id:Int) (k.2.parent:Int) b14 b15 b16 b17 b18 b19 y14 y15 y17 y18 W) (b+1+1) k.1 (b+1) (k.2.id:Int) (k.2.parent:Int) _ (fun _ _ _ _ _ _ _ _ _ _ W h=>HCV.out W h.only) (fun _ _ _ _ _ _ _ _ _ _ W h=>(HCI.out W h.only).1) (fun _ _ _ _ _ _ _ _ _ _ W h=>(HCI.out W h.only).2) (fun _ _ _ _ W h=>h.s14) (fun _ _ _ _ W h=>h.s15) (fun _ _ _ _ W h=>h.s16) (fun _ _ _ _ W h=>h.s17) (fun _ _ _ _ W h=>h.s18) (fun _ _ _ _ W h=>h.s19) (HSV.out.slots _ _ _ _) (fun a w h=>h) (fun y14 y15 y17 y18 X h=>?_)
   have HO4:Hid (Only [b+1] V X):=Lib.hid h.only
   have HJ4:=Lib.hid h.fin
   clear h HSV HCV HCI
   gi_wp2
   have hb1:b+1<W4.heap.size:=by have:=HSZ.out;omega
   have hlt:∀z,z<V.heap.size→z≠b+1→X.heap[z]?=V.heap[z]?:=fun z hz hn=>HO4.out.block z hz (fun hm=>hn (List.mem_singleton.1 hm))
   exact⟨HU3.out.trans ⟨HO4.out.size,fun z hz hl=>hlt z hl (by omega)⟩,by
    show PrI w ns now a c b (pre++[q]).length _
    rw [HLN.out]
    refine⟨HI3.out.below.trans (HO4.out.below (by have:=HI3.out.box.lt;omega) (fun x hx=>by rw [List.mem_singleton.1 hx];omega)),(hlt _ HI3.out.box.lt (by omega)).trans HI3.out.box,?_,(hlt _ HI3.out.var.lt (by omega)).trans HI3.out.var,(hlt _ HI3.out.row.lt (by omega)).trans HI3.out.row⟩
    rw [HKS.out]
    refine HJ4.out.congr fun x=>?_
    simp [ints]⟩
  |false=>
   repeat (first | go_big_quiet_step (first | (with_reducible exact HHS.out _ _) | (with_reducible exact HLV.out _ _)) | quiet_step (first | (with_reducible exact HHS.out _ _) | (with_reducible exact HLV.out _ _)))
   refine wpQuiet_nil ?_
   intro _ hw'
   obtain⟨⟨dq,osq⟩,hw''⟩:=hw'
   subst hw''
   have hbq:=below_regrown W2 dq osq
   have HI3:=Lib.hid (HI2.out.keep (B:=W4.heap.size) (by have:=HSZ.out;omega) (hbq.mono HS2.out))
   have H3:=Lib.hid (H2.out.below hbq)
   have HU3:Hid (Up W4.heap.size W2 (grow (redrawn W2 dq) osq)):=Lib.hid (up_of_below hbq)
   have HS3:Hid (W4.heap.size≤(grow (redrawn W2 dq) osq).heap.size):=Lib.hid (Nat.le_trans HS2.out hbq.size)
   clear kv kn kid HHS HLV hbq HREST HI2 H2
   generalize grow (redrawn W2 dq) osq=V at *
   go_wp2_with fail
   cases b2 with
   |true=>
    gi_upto_region 5 with fail
    have HSV:Hid (EntP V (b+1) (ints (keptK ns now q)) (k.2.id:Int) (k.2.parent:Int) false false false false false false undef undef undef undef V.drew):=Lib.hid (EntP.start HI3.out.set)
    have HCV:=Lib.hid (show ∀W,Only [b+1] V W→W.cell? ⟨b+1+1,0,none⟩=some (.map (some (b+1))) from fun W ho=>cell_only ho (HI3.out.var.cell 0) (by simp))
    have HCI:=Lib.hid (show ∀W,Only [b+1] V W→W.cell? ⟨k.1,0,none⟩=some (.int .i64 (k.2.id:Int))∧W.cell? ⟨k.1,2,none⟩=some (.int .i64 (k.2.parent:Int)) from fun W ho=>by
     obtain⟨sv,av,KN,_⟩:=H3.out.node k HKM.out
     have hne:k.1∉[b+1]:=fun hm=>by
      obtain⟨es,cl,hb,_⟩:=HI3.out.set
      rw [← List.mem_singleton.1 hm] at hb
      have h2:V.heap[k.1]?=some _:=KN
      rw [hb] at h2
      cases h2
     exact⟨cell_only ho (KN.cell 0) hne,cell_only ho (KN.cell 2) hne⟩)
    refine Pl.entR (fun b14 b15 b16 b17 b18 b19 y14 y15 y17 y18 W=>EntP V (b+1) (ints (keptK ns now q)) (k.2.id:Int) (k.2.parent:Int) b14 b15 b16 b17 b18 b19 y14 y15 y17 y18 W) (b+1+1) k.1 (b+1) (k.2.id:Int) (k.2.parent:Int) _ (fun _ _ _ _ _ _ _ _ _ _ W h=>HCV.out W h.only) (fun _ _ _ _ _ _ _ _ _ _ W h=>(HCI.out W h.only).1) (fun _ _ _ _ _ _ _ _ _ _ W h=>(HCI.out W h.only).2) (fun _ _ _ _ W h=>h.s14) (fun _ _ _ _ W h=>h.s15) (fun _ _ _ _ W h=>h.s16) (fun _ _ _ _ W h=>h.s17) (fun _ _ _ _ W h=>h.s18) (fun _ _ _ _ W h=>h.s19) (HSV.out.slots _ _ _ _) (fun a w h=>h) (fun y14 y15 y17 y18 X h=>?_)
    have HO4:Hid (Only [b+1] V X):=Lib.hid h.only
    have HJ4:=Lib.hid h.fin
    clear h HSV HCV HCI
    gi_wp2
    have hb1:b+1<W4.heap.size:=by have:=HSZ.out;omega
    have hlt:∀z,z<V.heap.size→z≠b+1→X.heap[z]?=V.heap[z]?:=fun z hz hn=>HO4.out.block z hz (fun hm=>hn (List.mem_singleton.1 hm))
    exact⟨HU3.out.trans ⟨HO4.out.size,fun z hz hl=>hlt z hl (by omega)⟩,by
     show PrI w ns now a c b (pre++[q]).length _
     rw [HLN.out]
     refine⟨HI3.out.below.trans (HO4.out.below (by have:=HI3.out.box.lt;omega) (fun x hx=>by rw [List.mem_singleton.1 hx];omega)),(hlt _ HI3.out.box.lt (by omega)).trans HI3.out.box,?_,(hlt _ HI3.out.var.lt (by omega)).trans HI3.out.var,(hlt _ HI3.out.row.lt (by omega)).trans HI3.out.row⟩
     rw [HKS.out]
     refine HJ4.out.congr fun x=>?_
     simp [ints]⟩
   |false=>
    gi_wp2
    exact⟨HU3.out,by show PrI w ns now a c b (pre++[q]).length _;rw [HLN.out];exact⟨HI3.out.below,HI3.out.box,by rw [HKS.out];exact HI3.out.set,HI3.out.var,HI3.out.row⟩⟩
 case done=>
  intro D W hD hI hK
  have HI:Hid (PrI w ns now a c b ns.length W):=Lib.hid (by have h2:PrI w ns now a c b (List.range ns.length).length W:=hI;rwa [List.length_range] at h2)
  have hbw:Below w.heap.size w W:=by have:=HI.out.below;rw [HB.out] at this;exact this
  have HBW:=Lib.hid hbw
  have HO2:=Lib.hid (HO.out.below hbw)
  have c1:W.cell? ⟨f,0,none⟩=some (.slice a ns.length c):=HO2.out.cell 0
  have H2:=Lib.hid (H.out.below hbw)
  have hst:∀k,stay (ints (keptK ns now ns.length)) k=keeps (nodes ns) now k.2∨k∉ns:=fun k=>by
   by_cases hk:k∈ns
   ·left
    unfold stay
    rw [ints_has]
    have h1:=pruneW_eq H.out.ok now
    unfold pruneW prune at h1
    have h2:k.2∈(nodes ns).filter (fun n=>(kept (liveN (nodes ns) now) (nodes ns).reverse []).contains n.id)↔k.2∈(nodes ns).filter (keeps (nodes ns) now):=by rw [h1]
    rw [List.mem_filter,List.mem_filter] at h2
    have h3:keptK ns now ns.length=kept (liveN (nodes ns) now) (nodes ns).reverse []:=by
     rw [kept_fold]
     unfold keptK
     rw [List.take_of_length_le (by simp [nodes])]
    rw [h3,Bool.eq_iff_iff]
    constructor
    ·intro h;exact(h2.1 ⟨mem_nodes hk,h⟩).2
    ·intro h;exact(h2.2 ⟨mem_nodes hk,h⟩).2
   ·exact .inr hk
  have HFE:Hid (ns.filter (stay (ints (keptK ns now ns.length)))=ns.filter fun k=>keeps (nodes ns) now k.2):=Lib.hid (List.filter_congr fun k hk=>by
   rcases hst k with h | h
   ·exact h
   ·exact absurd hk h)
  have HDL:=Lib.hid (delete_any H2.out HO2.out hl (b+1+1) (b+1) _ HI.out.var HI.out.set)
  rw [HFE.out] at HDL
  have HDD:=Lib.hid (And.intro hD hK)
  have HLE:Hid (nodes (ns.filter fun k=>keeps (nodes ns) now k.2)=prune (nodes ns) now):=Lib.hid (by
   unfold nodes prune
   rw [List.filter_map];rfl)
  have HLL:Hid (R.length=(ns.filter fun k=>keeps (nodes ns) now k.2).length):=Lib.hid (by rw [HRR.out,← HLE.out];simp [nodes])
  have hmn:(ns.filter fun k=>keeps (nodes ns) now k.2).length≤ns.length:=List.length_filter_le _ _
  clear hbw hst hD hK hI HP0
  generalize hfm:(ns.filter fun k=>keeps (nodes ns) now k.2).length=m at *
  have HFM:=Lib.hid hfm
  clear hfm
  gi_wp2
  refine⟨trivial,?_⟩
  refine(callsIn_wide.2 HDL.out).mono ?_
  rintro e w2 ⟨rfl,ho2,hr2⟩
  have hro:∀z cs t,Bk t W z cs→t≠72→z∉(Value.slice a ns.length c).ownBlock.toList:=fun z cs t hz ht hm=>owns_ne (H2.out.row HO2.out).2 hz ht (by simpa using hm)
  have K2:Bk 71 w2 f #[.slice a ns.length c,.int .i64 nx]:=HO2.out.only ho2 (hro _ _ _ HO2.out (by decide))
  have c2:w2.cell? ⟨f,0,none⟩=some (.slice a ns.length c):=K2.cell 0
  have f2:=K2.fro 0
  have HK2:=Lib.hid K2
  have HOW:=Lib.hid (And.intro ho2 hr2)
  have c3:(w2.setCell ⟨f,0,none⟩ (.slice a m c)).cell? ⟨f,0,none⟩=some (.slice a m c):=(Bk.same (i:=0) (v:= .slice a m c) K2).cell 0
  clear ho2 hr2 K2 hro HDL c1
  gi_wp2
  have hX:Hid (Bk 71 (w2.setCell ⟨f,0,none⟩ (.slice a m c)) f #[.slice a m c,.int .i64 nx]):=Lib.hid (Bk.same (i:=0) (v:= .slice a m c) HK2.out)
  have hDf:D≠f:=fun e=>by
   have h1:=HDD.out.2
   have h2:W.heap[f]?=some _:=HO2.out
   rw [e,h2] at h1
   cases h1
  have hDL:D∉(Value.slice a ns.length c).ownBlock.toList:=fun hm=>by
   obtain⟨_,cur,hb⟩:=owns_block (H2.out.row HO2.out).2 (g:=D) (by simpa using hm)
   have h1:=HDD.out.2
   have h2:W.heap[D]?=some _:=hb
   rw [h2] at h1
   cases h1
  have hDX:(w2.setCell ⟨f,0,none⟩ (.slice a m c)).heap[D]?=some (.deferred (some [])):=(heap_setCell_other w2 ⟨f,0,none⟩ D _ hDf).trans ((HOW.out.1.block D (blk_lt HDD.out.2) hDL).trans HDD.out.2)
  have HDX:=Lib.hid hDX
  have hDw:w.heap.size≤D:=by
   have h1:=HDD.out.1
   have h2:=HSZ.out
   have h3:=HB.out
   omega
  have hon:Hid (Only (f::(Value.slice a ns.length c).ownBlock.toList) w ((w2.setCell ⟨f,0,none⟩ (.slice a m c)).putObj D (.deferred none))):=Lib.hid (by
   have o1:Only (f::(Value.slice a ns.length c).ownBlock.toList) w w2:=(Only.of HBW.out).trans HOW.out.1 fun x hx=> .inl (List.mem_cons_of_mem _ hx)
   have o2:=o1.setCell ⟨f,0,none⟩ (.inl (by simp)) (.slice a m c)
   exact o2.trans only_put fun x hx=> .inr (by rw [List.mem_singleton.1 hx];exact hDw))
  have h1:Hid (Bk 71 ((w2.setCell ⟨f,0,none⟩ (.slice a m c)).putObj D (.deferred none)) f #[.slice a m c,.int .i64 nx]):=Lib.hid ((World.putObj_heap_other (Ne.symm hDf)).trans hX.out)
  have h2:Hid (((w2.setCell ⟨f,0,none⟩ (.slice a m c)).putObj D (.deferred none)).ownsRow 0 72 1 (.slice a m c) m (kps (ns.filter fun k=>keeps (nodes ns) now k.2))):=Lib.hid (owns_of HOW.out.2 fun g hg hl=>by
   have hgf:g≠f:=fun e=>owns_ne HOW.out.2 HK2.out (by decide) (by rw [← e];exact hg)
   have hgL:g∈(Value.slice a ns.length c).ownBlock.toList:=by
    have:(Value.slice a ns.length c).ownBlock=some g:=by cases a with
     |none=>cases hg
     |some p=>exact hg
    rw [this];simp
   have hgD:g≠D:=fun e=>hDL (e▸hgL)
   exact(World.putObj_heap_other hgD).trans (heap_setCell_other w2 _ g _ hgf))
  have hFR:=H.out.part (keeps_part H.out.ok now) HO.out hon.out (fun q hq=>by
   rcases List.mem_cons.1 hq with e | e
   ·exact .inl e
   ·exact .inr (by simpa using e)) (by rw [HFM.out];exact h1.out) (by rw [HFM.out];exact h2.out)
  have HFR:=Lib.hid hFR
  clear c2 f2 c3 hDX hDf hDL hDw hon h1 h2 hX hFR
  refine⟨by simp,.inl ⟨_,_,rfl,run_takeDeferred HDX.out,?_⟩⟩
  refine⟨.int .i64 ((ns.length:Int) - (m:Int)),?_,by rw [HLL.out],_,by rw [HRR.out];exact HLE.out,HFR.out.1,HFR.out.2⟩
  simp [results,Tryz.f31,go_sem]
theorem prune_call {w:World}{f:Nat}{ns:Ns}{nx:Int}(h:FR w f ns nx)(hl:ns.length≤1000000)(now:Int): Calls Tryz.prog 31 #[kpt f,.int .i64 now] w fun e w'=>Ends w f ns nx (.int .i64 ((ns.length:Int) - ((prune (nodes ns) now).length:Int))) (prune (nodes ns) now) nx e w':=callsIn_wide.1 (prune_in h hl now)
end Go.Proofs.YthogppennalobaaGreatDoor
namespace Go.Proofs.YthogppennalobaaGreatDoor
open Go.RowKit Go.Sort Forest OwnR TxO
def nodeC (r:Nd×Value×Value): List Value:=(inC r.1.id r.1.parent r.1 r.2.1 r.2.2).toList
def Nr (w:World)(v:Value)(rs:List (Nd×Value×Value)): Prop:=
 w.ownsRow 0 31 15 v rs.length (rs.flatMap nodeC)∧∀r∈rs,Tx w r.2.1 r.1.scope∧Tx w r.2.2 r.1.actors
theorem Nr.nil (w:World): Nr w (.slice none 0 0) []:=⟨⟨rfl,.inl ⟨rfl,rfl⟩⟩,fun r hr=>by cases hr⟩
theorem Nr.below {w w':World}{v:Value}{rs:List (Nd×Value×Value)}(h:Nr w v rs)(hb:Below w.heap.size w w'): Nr w' v rs:=
 ⟨owns_below h.1 hb,fun r hr=>⟨(h.2 r hr).1.below hb,(h.2 r hr).2.below hb⟩⟩
theorem nodeC_one {r:Nd×Value×Value}{w:World}(h1:Tx w r.2.1 r.1.scope)(h2:Tx w r.2.2 r.1.actors): ∀u∈nodeC r,u.oneCell'=true:=by
 obtain⟨n,sv,av⟩:=r
 obtain⟨a,c,e⟩:=owns_shape h1
 obtain⟨b,d,e2⟩:=owns_shape h2
 dsimp only at e e2
 subst e e2
 have:=one15 n.id n.parent n a b n.scope.length c n.actors.length d
 intro u hu
 exact(Array.all_eq_true_iff_forall_mem.1 this) u (by simpa [nodeC] using hu)
theorem Tx.grown {W w':World}{v x:Value}{n z T:Nat}{xs:List Value}{l:List Bs}(h:W.ownsRow 0 T z v n xs)(hg:W.grownBy w' v.ownBlock)(k:Tx W x l)(ht:9≠T): Tx w' x l:=
 TxO.owns_of k fun g hx hl=>hg.block g hl fun e=>by
  obtain⟨_,cur,hb⟩:=TxO.owns_block k hx
  exact OwnR.owns_ne h hb ht e.symm
theorem info31:(Tryz.prog.info? 31).map (fun i=>(i.zero,i.size,i.bytes))=some (some (.agg zeroN),15,184):=by kernel_rfl
theorem u37:Tryz.prog.underlying 37=some (.slice 31):=by kernel_rfl
theorem Nr.app {W:World}{v:Value}{rs:List (Nd×Value×Value)}(ty:TypeId)(h:Nr W v rs)(a:Addr)(c:Nat)(r:Nd×Value×Value)(hr:∀j u,(nodeC r)[j]?=some u→W.cell? (a.add j)=some u)(h1:Tx W r.2.1 r.1.scope)(h2:Tx W r.2.2 r.1.actors)(hl:rs.length+1≤4194304):
  ∃v' w',(Builtin.append_ #[37,37] ty #[v,.slice (some a) 1 c]).run Tryz.prog W = .ok v' w'∧Nr w' v' (rs++[r])∧W.grownBy w' v.ownBlock∧(v'.ownBlock=v.ownBlock∨∀k,v'.ownBlock=some k→W.heap.size≤k):=by
 obtain⟨i0,hi,hz0,hz1,hz2⟩:=info_parts info31
 obtain⟨v',w',hrun,ho,hgr,hv,_⟩:=app_own W 37 ty 31 i0 (.agg zeroN) 15 184 u37 hi hz0 hz1 hz2 rfl (by decide) v rs.length _ h.1 a 1 c (nodeC r) rfl hr (nodeC_one h1 h2) (by unfold maxLen;omega) (by omega)
 have h9:∀ {x:Value} {l:List Bs},Tx W x l→Tx w' x l:=fun ht=>Tx.grown h.1 hgr ht (by decide)
 refine⟨v',w',hrun,⟨by simpa using ho,fun q hq=>?_⟩,hgr,hv⟩
 rcases List.mem_append.1 hq with hq | hq
 ·exact⟨h9 (h.2 q hq).1,h9 (h.2 q hq).2⟩
 ·rw [List.mem_singleton] at hq
  subst hq
  exact⟨h9 h1,h9 h2⟩
theorem OwnsB.no {w:World}{f:Nat}{ns:Ns}{nx:Int}(h:FR w f ns nx){q t:Nat}(t1:t≠71)(t2:t≠72)(t5:t≠75){cs:Array Value}(hb:Bk t w q cs): ¬OwnsB w f ns q:=by
 intro hq
 obtain⟨a,c,h1,h2⟩:=h.obj
 rcases hq with rfl | ⟨k,hk,rfl⟩ | ⟨n,d,x,hq⟩
 ·exact bk_ne hb h1 t1 rfl
 ·obtain⟨sv,av,h3,_⟩:=h.node k hk
  exact bk_ne hb h3 t5 rfl
 ·have e:=h1.symm.trans hq
  simp only [Option.some.injEq,Obj.cells.injEq,Array.mk.injEq,List.cons.injEq,Value.slice.injEq] at e
  obtain⟨⟨⟨rfl,_⟩,_⟩,_⟩:=e
  obtain⟨_,cur,h4⟩:=owns_block h2 rfl
  exact bk_ne hb h4 t2 rfl
theorem Chf.aside {w W W':World}{f g:Nat}{a b:Ns}{nx:Int}(h:Chf w W f a b)(hF:FR W f b nx)(ho:Only [g] W W')(hg:w.heap.size≤g)(hno:¬OwnsB W f b g): Chf w W' f a b:=by
 obtain⟨L,h1,h2⟩:=h.only
 refine⟨⟨⟨L,h1.trans ho (fun x hx=> .inr (by rw [List.mem_singleton] at hx;omega)),h2⟩,fun q hq=>h.own q (hq.same (ho.block f (OwnsB.lt hF (.inl rfl)) fun e=>hno (.inl (List.mem_singleton.1 e).symm)))⟩,fun q hq=>h.rows q (hq.same fun k hk=>ho.block k.1 (OwnsB.lt hF (.inr (.inl ⟨k,hk,rfl⟩))) fun e=>hno (.inr (.inl ⟨k,hk,List.mem_singleton.1 e⟩)))⟩
theorem Chf.below {w W W':World}{f:Nat}{a b:Ns}{nx:Int}(h:Chf w W f a b)(hF:FR W f b nx)(hb:Below W.heap.size W W'): Chf w W' f a b:=h.trans (Chf.of_below hF hb)
theorem FR.next {w:World}{f:Nat}{ns:Ns}{nx:Int}(h:FR w f ns nx)(y:Int): FR (w.setCell ⟨f,1,none⟩ (.int .i64 y)) f ns y∧Chf w (w.setCell ⟨f,1,none⟩ (.int .i64 y)) f ns ns:=by
 obtain⟨a,c,h1,h2⟩:=h.obj
 have ho:Only [f] w (w.setCell ⟨f,1,none⟩ (.int .i64 y)):=only_cell w f 1 _
 have k1:Bk 71 (w.setCell ⟨f,1,none⟩ (.int .i64 y)) f #[.slice a ns.length c,.int .i64 y]:=Bk.same (i:=1) (v:= .int .i64 y) h1
 have hkf:∀k∈ns,k.1≠f:=fun k hk=>by
  obtain⟨sv,av,h3,_⟩:=h.node k hk
  exact bk_ne h3 h1 (by decide)
 refine⟨⟨h.ok,⟨a,c,k1,owns_of h2 fun g hg _=>heap_setCell_other w _ g _ (fun e=>owns_ne h2 h1 (by decide) (by rw [hg];exact congrArg some e))⟩,fun k hk=>?_⟩,⟨⟨⟨[f],ho,fun q hq=> .inl (by simpa using hq)⟩,fun q hq=> .inl ?_⟩,fun q hq=> .inl (hq.same fun k hk=>heap_setCell_other w _ k.1 _ (hkf k hk))⟩⟩
 ·obtain⟨sv,av,h3,h4,h5⟩:=h.node k hk
  exact⟨sv,av,h3.oth (hkf k hk),h4.setCell h1 (by decide),h5.setCell h1 (by decide)⟩
 ·rcases hq with h3 | h3 | ⟨n,d,x,h3⟩
  ·exact .inl h3
  ·exact .inr (.inl h3)
  ·have e:=k1.symm.trans h3
   simp only [Option.some.injEq,Obj.cells.injEq,Array.mk.injEq,List.cons.injEq,Value.slice.injEq] at e
   obtain⟨⟨⟨rfl,_⟩,_⟩,_⟩:=e
   exact .inr (.inr ⟨_,_,_,h1⟩)
end Go.Proofs.YthogppennalobaaGreatDoor
namespace Go.Proofs.YthogppennalobaaGreatDoor
open Go.RowKit Go.Sort Forest
def newN (n:Nd)(nx p:Int): Nd:={n with id:=nx.toNat,parent:=p.toNat,dead:=false,spent:=false}
def Good (l:List Nd)(nx:Int): Prop:=1≤nx∧∀m∈l,(m.id:Int)<nx
def plantP (l:List Nd)(nx p:Int)(n:Nd)(now:Int): Int×Int×List Nd×Int:=
 if mayP p n then
  if (l.find? fun m=>m.secret == n.secret).isSome then (0,132,l,nx)
  else if decide (0<p)&&((findI l p).isNone||struck l p.toNat) then (0,133,l,nx)
  else if decide (256≤((prune l now).length:Int))||decide (99999999≤nx) then (0,130,prune l now,nx)
  else (nx,0,prune l now++[newN n nx p],nx+1)
 else (0,131,l,nx)
theorem may_short {p:Int}{n:Nd}(hn:Mid n)(h:mayP p n=true): Short n:=by
 have h6:(n.scope.length:Int)≤16:=by
  by_cases k:(n.scope.length:Int)≤16
  ·exact k
  ·rw [may_no6 (decide_eq_false k)] at h;cases h
 have h11:(n.actors.length:Int)≤4:=by
  by_cases k:(n.actors.length:Int)≤4
  ·exact k
  ·rw [may_no11 (decide_eq_false k)] at h;cases h
 obtain⟨a,b,c,d,e,f,g⟩:=hn
 exact⟨by omega,by omega,by omega,by omega,by omega,by omega,by omega,fun s hs=>by have:=d s hs;omega,fun s hs=>by have:=e s hs;omega⟩
theorem may_pos {p:Int}{n:Nd}(h:mayP p n=true): 0≤p:=by
 by_cases k:0≤p
 ·exact k
 ·rw [may_no2 (decide_eq_false k)] at h;cases h
theorem good_prune {l:List Nd}{nx:Int}(h:Good l nx)(now:Int): Good (prune l now) nx:=⟨h.1,fun m hm=>h.2 m (List.mem_filter.1 hm).1⟩
theorem ok_new {l:List Nd}{nx p:Int}(h:Ok l)(hG:Good l nx)(n:Nd)(hp:p<nx): Ok (l++[newN n nx p]):=
 h.snoc (by show 0<nx.toNat;have:=hG.1;omega) (by show p.toNat<nx.toNat;have:=hG.1;omega) fun m hm=>by have:=hG.2 m hm;show m.id<nx.toNat;omega
end Go.Proofs.YthogppennalobaaGreatDoor
