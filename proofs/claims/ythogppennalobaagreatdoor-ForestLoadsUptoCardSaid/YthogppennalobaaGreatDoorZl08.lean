/- A drawn region within a round of a loop over a function, walked as outside of it. General, of any program. No condition but that nothing is deferred in it. A drawn region by a plan, within a round of a loop over a function; entries of a map. General. No condition. A node laid behind the others (put). Condition: at most a million nodes. A set of numbers in memory. No condition. A loop over a functi -/
import Derived.OrdersIn
import Derived.RangeFuncNested
import Derived.RangeFuncCalls
import Derived.Test.YthogppennalobaaGreatDoorZl01
import Derived.Test.YthogppennalobaaGreatDoorZl02
import Derived.Test.YthogppennalobaaGreatDoorZl07
import Derived.MapFrom
import Derived.Maps.OwnSet
import Derived.RangeFuncBound
import Derived.RangeFuncLeaves
import Derived.RangeFuncFrom
import Derived.Shelf.Abstract
import Derived.Shelf.RegionOpen
import Derived.OwnWalkIn
import Derived.TacticsInMore
import Derived.LoopNIn
import Derived.LoopIn
import Derived.Test.YthogppennalobaaGreatDoorZl00
set_option linter.unusedVariables false
set_option linter.unusedSimpArgs false
set_option maxRecDepth 100000
namespace Go.Proofs.YthogppennalobaaGreatDoor
open Go.RowKit Go.Sort
section
variable {P:Program}
theorem any_below_tail {Q:Exit→Act→World→Prop}{a:Act}{w:World}{l:List Oper}(n:Nat)(hB:Region.lexTailB .any l.toArray n=true)
  (h:wpQuiet P l.toArray (fun w'=>∃p:Regrown,w'=grow (redrawn w p.d) p.os) (fun a'=>∀w',(∃p:Regrown,w'=grow (redrawn w p.d) p.os)→wpList P l.toArray Q (l.drop n) a' w') (l.take n) a):wpAny P .any l.toArray Q l.toArray.size (Array.replicate l.toArray.size false) a {w with drawn:=w.drawn+1}:=by
 simp only [Region.lexTailB,Bool.and_eq_true,decide_eq_true_eq] at hB
 obtain⟨⟨⟨⟨hsel,hn⟩,hs⟩,hc⟩,hlex⟩:=hB
 have hn':n<l.length:=by simpa using hn
 have htl:(l.take n).length=n:=by simp;omega
 have hdl:(l.drop n).length=l.toArray.size - n:=by simp
 have inv0:HeadInv .any l.toArray n (Array.replicate l.toArray.size false):=
  ⟨by simp,fun j oj _ hl=>(by rw [getD_replicate_false] at hl;cases hl),fun t _ ht=>getD_in (by simpa using ht) (getD_replicate_false _ _)⟩
 have H:=headQ_lex (md:= .any) (g:=l.toArray.size - n) hsel hs hc hn (l.take n) 0 _ a (fun j hj=>by
  have hj':j<n:=by rw [htl] at hj;exact hj
  simp [hj']) (by simpa using htl) inv0 (by rw [htl];exact hlex) h
 have:=any_of_headQ (Q:=Q) (g:=l.toArray.size - n) (fun ls a' w' hw' hL=>by
  have:=wpAny_of_seq (md:= .any) (Q':=Q) (l.drop n) n ls a' w' (fun j=>by simp [List.getElem?_drop]) (by rw [hdl];exact hL.1) (hL.2 w' hw')
  rwa [hdl] at this) _ _ _ _ (show ∃p:Regrown,_=grow (redrawn w p.d) p.os from⟨⟨w.drawn+1,#[]⟩,by rw [grow_empty]⟩) H
 rw [htl,show n+(l.toArray.size - n)=l.toArray.size by omega] at this
 exact this
def noDefer (l:List Oper): Bool:=l.all fun o=>match o.op with
 |.defer _=>false
 |_=>true
theorem noDefer_spec {l:List Oper}(h:noDefer l=true){i:Nat}{o:Oper}(hi:l.toArray[i]?=some o)(c:Call): o.op≠ .defer c:=by
 intro hc
 have hm:o∈l:=List.mem_iff_getElem?.2 ⟨i,by simpa using hi⟩
 have:=List.all_eq_true.1 h o hm
 rw [hc] at this
 cases this
theorem op_in {l:Nat}{n:Nat}{ops:Array Oper}{Q:Exit→Act→World→Prop}{i:Nat}{K K':Act→World→Prop}{a:Act}{w:World}(hQ:∀a w,¬Q .outgrown a w)(hd:∀o,ops[i]?=some o→∀c,o.op≠ .defer c)(hK:∀a w,K a w→K' a w)(h:wpOp P ops Q i K a w): wpOpIn (Fence.wide.inRound l) n P ops Q i K' a w:=by
 unfold wpOp at h
 unfold wpOpIn
 cases hi:ops[i]? with
 |none=>
  rw [hi] at h
  exact hK _ _ h
 |some o=>
  rw [hi] at h
  simp only [] at h ⊢
  split
  ·rename_i hw
   rw [if_pos hw] at h
   rcases h with h | ⟨_,a',w',hq⟩
   ·refine⟨fun _ _=>trivial,?_⟩
    rw [Oper.semAt_eq _ _ _ (hd o hi)]
    unfold Oper.wp at h
    generalize (execOp a.eval o).run P w=r at h ⊢
    cases r with
    |halt e w'=>
     cases e<;>first | exact h | exact h.elim
    |ok x w'=>
     cases x with
     |value v=>exact hK _ _ h
     |skip=>exact hK _ _ h
     |defer d=>exact hK _ _ h
     |enter f args=>
      refine⟨(fun hh=>by cases hh),CallsIn.inRound l (callsIn_wide.2 (Calls.mono h ?_))⟩
      intro e w2 h2
      cases e with
      |returned v=>exact hK _ _ h2
      |panicked c=>exact h2
      |outgrown=>exact h2
     |row row args=>
      refine⟨(fun hh=>by cases hh),?_⟩
      intro c cs _
      obtain⟨v,w2,h2,h3⟩:=h c cs
      exact⟨v,w2,hK _ _ h2,stepsIn_wide.2 h3⟩
     |_=>exact h.elim
   ·exact absurd hq (hQ _ _)
  ·rename_i hw
   rw [if_neg hw] at h
   exact⟨fun _ _=>trivial,hK _ _ h⟩
theorem any_in {l:Nat}{n:Nat}{md:Region.Mode}{ops:Array Oper}{Q:Exit→Act→World→Prop}(hQ:∀a w,¬Q .outgrown a w)(hd:∀(i:Nat) (o:Oper),ops[i]?=some o→∀c:Call,o.op≠ .defer c): ∀(fuel:Nat) (listed:Array Bool) (a:Act) (w:World),wpAny P md ops Q fuel listed a w→wpAnyIn (Fence.wide.inRound l) n P md ops Q fuel listed a w:=by
 intro fuel
 induction fuel with
 |zero=>exact fun listed a w h=>h
 |succ fuel ih=>exact fun listed a w h=>⟨h.1,fun i hi=>op_in hQ (hd i) (fun a w h=>ih _ a w h) (h.2 i hi)⟩
theorem wpIn_region_below_tail {r m:Nat}{id:Nat}{Q:Exit→Act→World→Prop}{a:Act}{w:World}{l:List Oper}(n:Nat)(hm:P.follows .mixedOrders=true)(hB:Region.lexTailB .any l.toArray n=true)(hd:noDefer l=true)(hQ:∀a w,¬Q .outgrown a w)
  (h:wpQuiet P l.toArray (fun w'=>∃p:Regrown,w'=grow (redrawn w p.d) p.os) (fun a'=>∀w',(∃p:Regrown,w'=grow (redrawn w p.d) p.os)→wpList P l.toArray Q (l.drop n) a' w') (l.take n) a):(Code.region id l.toArray true).wpIn (Fence.wide.inRound r) m P Q a w:=
 wpIn_region_any hm (any_in hQ (fun i o hi c=>noDefer_spec hd hi c) _ _ _ _ (any_below_tail n hB h))
end
end Go.Proofs.YthogppennalobaaGreatDoor
namespace Go.Proofs.YthogppennalobaaGreatDoor.Pl
open Go.RowKit Go.Sort
section
variable {P:Program} {ops:Array Oper} {Q:Exit→Act→World→Prop}
theorem wpIn_plan {id r m:Nat}(hm:P.follows .mixedOrders=true)(hnd:noDefer ops.toList=true)(hQ:∀a w,¬Q .outgrown a w)(T0:Array Value)(ds:List Deferred)(cs:List Nat)(M:List (List Nat))(vs:(Nat→Value)→Nat→Value)(PW:(Nat→Bool)→(Nat→Value)→World→Prop)(w:World)
  (hB:dstB ops T0.size=true) (hbw:backB ops=true) (hM:maskB ops M=true) (hcin:∀c∈cs,c<ops.size)
  (hfix:∀c∈cs,∀i,i≠c→(M.getD i []).contains c=false→∀y v,vs (upd y c v) i=vs y i)
  (hplain:∀i,i<ops.size→Plain P ops Q T0 ds cs M vs PW i)
  (hchg:∀c∈cs,Chg P ops Q T0 ds cs M vs PW c)
  (h0:∃y,PW (fun _=>false) y w.drew)
  (hfin:∀d y w',(∀c∈cs,d c=true)→PW d y w'→Q .normal ⟨planT ops T0 (vs y) ops.size,ds⟩ w') :
  (Code.region id ops true).wpIn (Fence.wide.inRound r) m P Q ⟨T0,ds⟩ w:=
 wpIn_region_any hm (any_in hQ (fun i o hi c=>noDefer_spec (l:=ops.toList) hnd (by simpa using hi) c) _ _ _ _ (any_plan T0 ds cs M vs PW w hB hbw hM hcin hfix hplain hchg h0 hfin))
theorem op_entry {o:Oper}{a:Act}{w:World}{K:Act→World→Prop}(ty:TypeId)(m k:Operand)(ho:o.op = .mapEntry ty m k)(vm vk v:Value)(w':World)(hm:a.eval m=vm)(hk:a.eval k=vk)
  (hrun:(Instr.mapEntry ty vm vk).run P w = .ok v w') (h:K (a.put o.dst v) w'):o.wp P a w K Q:=by
 unfold Oper.wp execOp
 simp only [ho,hm,hk,Sem.run_bind,Sem.run_pure,hrun,Result.andThen_ok]
 exact h
theorem op_estore {o:Oper}{a:Act}{w:World}{K:Act→World→Prop}(ty:TypeId)(m k x:Operand)(ho:o.op = .entryStore ty m k x)(vm vk vx:Value)(w':World)(hm:a.eval m=vm)(hk:a.eval k=vk)(hx:a.eval x=vx)
  (hrun:(Instr.entryStore ty vm vk vx).run P w = .ok () w') (h:K (a.put o.dst undef) w'):o.wp P a w K Q:=by
 unfold Oper.wp execOp
 simp only [ho,hm,hk,hx,Sem.run_bind,Sem.run_pure,hrun,Result.andThen_ok]
 exact h
end
end Go.Proofs.YthogppennalobaaGreatDoor.Pl
namespace Go.Proofs.YthogppennalobaaGreatDoor
open Go.RowKit Go.Sort Forest OwnR TxO
theorem grown_bk {W w':World}{r:Option Nat}{t:TypeId}{g:Nat}{cs:Array Value}(hg:W.grownBy w' r)(h:Bk t W g cs)(hne:r≠some g): Bk t w' g cs:=(hg.block g h.lt (fun e=>hne e.symm)).trans h
theorem grown_only {W w':World}{r:Option Nat}(hg:W.grownBy w' r): Only r.toList W w':=
 ⟨hg.os,hg.tape,hg.output,hg.size,fun k hk hn=>hg.block k hk (fun e=>hn (by rw [← e];simp))⟩
def kps (ns:Ns): List Value:=ns.map fun k=>kpt k.1
structure PutP (w:World)(f:Nat)(ns:Ns)(nx:Int)(a:Option Addr)(c b:Nat)(cs zs:Array Value)(b11 b12 b13 b16:Bool)(y11 y12 y13:Value)(W:World): Prop where
 only:Only (f::(Value.slice a ns.length c).ownBlock.toList) w W
 box:Bk 31 W b cs
 obj:Bk 71 W f #[if b16 then y13 else .slice a ns.length c,.int .i64 nx]
 row:b13=false→W.ownsRow 0 72 1 (.slice a ns.length c) ns.length (kps ns)
 early:b11=false→Below w.heap.size w W
 nb:b11=true→∃g,y11=kpt g∧w.heap.size≤g∧Bk 75 W g zs
 sl:b12=true→∃q,y12 = .slice (some ⟨q,0,none⟩) 1 1∧w.heap.size≤q∧Bk 72 W q #[y11]
 ap:b13=true→W.ownsRow 0 72 1 y13 (ns.length+1) (kps ns++[y11])∧∀k,y13.ownBlock=some k→(Value.slice a ns.length c).ownBlock=some k∨w.heap.size≤k
theorem find_snoc {ns:Ns}{g:Nat}{n:Nd}{p:Int}(hp:p≠(n.id:Int)): blockI (ns++[(g,n)]) p=blockI ns p:=by
 unfold blockI
 rw [List.find?_append]
 cases e:ns.find? fun k=>(k.2.id:Int) == p with
 |some x=>rfl
 |none=>simp [Ne.symm hp]
set_option maxHeartbeats 8000000 in
theorem put_any {w:World}{f:Nat}{ns:Ns}{nx:Int}(h:FR w f ns nx)(hl:ns.length≤1000000)(n:Nd)(sv av:Value)(hn:Ok (nodes ns++[n]))(h1:Tx w sv n.scope)(h2:Tx w av n.actors):
  Calls Tryz.prog 32 #[kpt f,.agg (inC n.id n.parent n sv av)] w fun e w'=>e = .returned (.tuple #[])∧∃g,w.heap.size≤g∧FR w' f (ns++[(g,n)]) nx∧Cho w w' f ns (ns++[(g,n)])∧∀q,OwnsT w' (ns++[(g,n)]) q→OwnsT w ns q∨sv.ownBlock=some q∨av.ownBlock=some q:=by
 have H:=Lib.hid h
 obtain⟨a,c,ho,hr⟩:=h.obj
 obtain⟨sa,sc,rfl⟩:=owns_shape h1
 obtain⟨ca,cc,rfl⟩:=owns_shape h2
 have HO:=Lib.hid ho
 have HR:=Lib.hid hr
 have T1:=Lib.hid h1
 have T2:=Lib.hid h2
 have HN:=Lib.hid hn
 obtain⟨b,hb⟩:∃b,b=w.heap.size:=⟨_,rfl⟩
 obtain⟨pu,hpu⟩:∃pu,fV (blockI ns (n.parent:Int)) = .pointer pu:=by cases blockI ns (n.parent:Int)<;>exact⟨_,rfl⟩
 have HPU:=Lib.hid hpu
 have hrl:∀k,(Value.slice a ns.length c).ownBlock=some k→k<w.heap.size:=fun k hk=>by
  obtain⟨_,cur,hc⟩:=owns_block hr hk
  exact hc.lt
 have HRL:=Lib.hid hrl
 have P0:PutP w f ns nx a c b (inC n.id n.parent n (.slice sa n.scope.length sc) (.slice ca n.actors.length cc)) (ndC n (.slice sa n.scope.length sc) (.slice ca n.actors.length cc) (.pointer pu)) false false false false undef undef undef (w.alloc (.cells (inC n.id n.parent n (.slice sa n.scope.length sc) (.slice ca n.actors.length cc)) 31)):=by
  have hbl:Below w.heap.size w (w.alloc (.cells (inC n.id n.parent n (.slice sa n.scope.length sc) (.slice ca n.actors.length cc)) 31)):=by go_grown
  exact⟨(Only.refl _ w).alloc _,Bk.new hb,ho.alloc,fun _=>owns_below hr hbl,fun _=>hbl,fun h=>(by cases h),fun h=>(by cases h),fun h=>(by cases h)⟩
 have HP0:=Lib.hid P0
 unfold inC txt at HP0
 clear h ho hr h1 h2 hn hpu hrl P0
 unfold inC txt
 unfold kpt
 go_enter Tryz.func32,Tryz.ntmps32
 go_upto_region 1 with fail
 rw [← hb]
 clear hb
 refine Pl.putR (fun _ _ b11 b12 b13 b16 y11 y12 y13 W=>PutP w f ns nx a c b (inC n.id n.parent n (.slice sa n.scope.length sc) (.slice ca n.actors.length cc)) (ndC n (.slice sa n.scope.length sc) (.slice ca n.actors.length cc) (.pointer pu)) b11 b12 b13 b16 y11 y12 y13 W) f b n.parent pu (.slice a ns.length c) (.int .i64 (n.id:Int)) (.int .i64 n.kind) (txt n.subject) (txt n.client) (txt n.audience) (.slice sa n.scope.length sc) (.int .i64 n.born) (.int .i64 n.exp) (.bool n.dead) (.bool n.spent) (.slice ca n.actors.length cc) (.int .i64 n.level) (txt n.secret) (txt n.data) _ ?cl4 ?cl9 ?cl11 ?cl12 ?cl13 ?cl16 ?lk ?w0 ?h
 case lk=>exact fun _ _ _ _ _ _ _ _ _ W h=>h.box
 case w0=>
  have P:=HP0.out
  exact⟨P.only.drew,P.box,P.obj,P.row,fun h=>(P.early h).drew,fun h=>(by cases h),fun h=>(by cases h),fun h=>(by cases h)⟩
 case cl4=>exact fun _ _ _ _ _ _ W h=>⟨h.obj.cell 0,h⟩
 case cl9=>
  intro _ y11 y12 y13 W h
  refine(at_any (H.out.below (h.early rfl)) hl (n.parent:Int)).mono ?_
  rintro e w1 ⟨rfl,rfl⟩
  exact⟨by rw [HPU.out],h⟩
 case cl11=>
  intro _ y11 y12 y13 W h
  exact⟨h.only.alloc _,h.box.alloc,h.obj.alloc,fun _=>owns_below (h.row rfl) (by go_grown),fun h=>(by cases h),fun _=>⟨_,rfl,h.only.size,Bk.new rfl⟩,fun h=>(by cases h),fun h=>(by cases h)⟩
 case cl12=>
  intro _ y11 y12 y13 W h
  obtain⟨g,rfl,hg,hk⟩:=h.nb rfl
  exact⟨_,rfl,h.only.alloc _,h.box.alloc,h.obj.alloc,fun _=>owns_below (h.row rfl) (by go_grown),fun h=>(by cases h),fun _=>⟨g,rfl,hg,hk.alloc⟩,fun _=>⟨_,rfl,h.only.size,Bk.new rfl⟩,fun h=>(by cases h)⟩
 case cl13=>
  intro y11 y12 y13 W h
  obtain⟨g,rfl,hg,hk⟩:=h.nb rfl
  obtain⟨q,rfl,hq,hqk⟩:=h.sl rfl
  obtain⟨x,hi,hx⟩:=row69.i
  obtain⟨i0,hi,hz0,hz1,hz2⟩:=info_parts hi
  obtain⟨v',w',hrun,ho,hgr,hv,_⟩:=app_own W 69 69 72 i0 x 1 8 row69.u hi hz0 hz1 hz2 hx (by decide) _ ns.length (kps ns) (h.row rfl) ⟨q,0,none⟩ 1 1 [kpt g] rfl (by
   intro j u hu
   rw [at0,hqk.cell]
   match j with
   |0=>simpa using hu
   |j+1=>simp at hu) (by intro u hu;rw [List.mem_singleton] at hu;subst hu;rfl) (by unfold maxLen;omega) (by omega)
  have hne:∀ {t:TypeId} {z:Nat} {cs:Array Value},Bk t W z cs→t≠72→(Value.slice a ns.length c).ownBlock≠some z:=fun hb ht=>owns_ne (h.row rfl) hb ht
  refine⟨v',w',hrun,h.only.trans (grown_only hgr) (fun y hy=> .inl (List.mem_cons_of_mem _ hy)),grown_bk hgr h.box (hne h.box (by decide)),grown_bk hgr h.obj (hne h.obj (by decide)),fun h=>(by cases h),fun h=>(by cases h),fun _=>⟨g,rfl,hg,grown_bk hgr hk (hne hk (by decide))⟩,fun _=>⟨q,rfl,hq,grown_bk hgr hqk fun e=>by have:=HRL.out q e;omega⟩,fun _=>⟨ho,fun k hk=>?_⟩⟩
  rcases hv with e | e
  ·exact .inl (e▸hk)
  ·exact .inr (Nat.le_trans h.only.size (e k hk))
 case cl16=>
  intro y11 y12 y13 W h
  obtain⟨g,rfl,hg,hk⟩:=h.nb rfl
  obtain⟨ho,hv⟩:=h.ap rfl
  obtain⟨ya,yc,e⟩:=owns_shape ho
  refine⟨ya,_,yc,e,⟨_,h.obj.cell 0⟩,h.obj.fro 0,?_⟩
  rw [← e]
  refine⟨h.only.setCell _ (.inl (by simp)) _,h.box.oth (bk_ne h.box h.obj (by decide)),Bk.same (i:=0) (v:=y13) h.obj,fun h=>(by cases h),fun h=>(by cases h),fun _=>⟨g,rfl,hg,hk.oth (bk_ne hk h.obj (by decide))⟩,fun _=>?_,fun _=>⟨owns_of ho fun z hz _=>heap_setCell_other W _ z y13 (fun e=>owns_ne ho h.obj (by decide) (by rw [hz];exact congrArg some e)),hv⟩⟩
  obtain⟨q,e1,hq,hqk⟩:=h.sl rfl
  exact⟨q,e1,hq,hqk.oth (bk_ne hqk h.obj (by decide))⟩
 case h=>
  intro y11 y12 y13 W h
  have HH:=Lib.hid h
  clear h HP0
  go_wp2_with fail
  go_end0
  have h:=HH.out
  obtain⟨g,rfl,hg,hk⟩:=h.nb rfl
  obtain⟨hr,hv⟩:=h.ap rfl
  obtain⟨ya,yc,rfl⟩:=owns_shape hr
  have hL:∀q∈f::(Value.slice a ns.length c).ownBlock.toList,OwnsB w f ns q:=by
   intro q hq
   rcases List.mem_cons.1 hq with rfl | hq
   ·exact .inl rfl
   ·refine .inr (.inr ?_)
    cases a with
    |none=>cases hq
    |some p=>
     rcases HR.out.2 with ⟨hx,_⟩ | ⟨z,cap,cur,hx,_⟩
     ·cases hx
     ·cases hx
      have:q=z:=by simpa [Value.ownBlock] using hq
      subst this
      exact⟨_,_,_,HO.out⟩
  have h9:∀ {v:Value} {l:List Bs},Tx w v l→Tx W v l:=fun ht=>ht.only h.only fun z hz hm=>(hL z hm).no9 H.out _ (owns_block ht hz).2.choose_spec
  have hpar:∀k∈ns,(k.2.parent:Int)≠(n.id:Int):=fun k hk=>by
   have h1:=(H.out.ok.mem (mem_nodes hk)).2
   have h2:=HN.out.split (mem_nodes hk)
   omega
  have hnp:(n.parent:Int)≠(n.id:Int):=by
   have:=(HN.out.mem (List.mem_append_right _ (List.mem_singleton.2 rfl))).2
   omega
  refine⟨rfl,g,hg,⟨by simpa [nodes] using HN.out,⟨ya,yc,by simpa using h.obj,by simpa [kps] using hr⟩,fun k hk2=>?_⟩,⟨⟨_,h.only,hL⟩,fun q hq=>?_⟩,fun q hq=>?_⟩
  rotate_left 2
  ·obtain⟨k,hk2,m,s1,s2,up,k1,k2⟩:=hq
   rcases List.mem_append.1 hk2 with hk2 | hk2
   ·obtain⟨t1,t2,k3,_⟩:=H.out.node k hk2
    have k4:=k3.only h.only fun hm=>(by
     rcases List.mem_cons.1 hm with e | hm
     ·exact bk_ne k3 HO.out (by decide) e
     ·have:=owns_ne HR.out k3 (by decide)
      cases a with
      |none=>cases hm
      |some p=>exact this (by simpa [Value.ownBlock,eq_comm] using hm))
    obtain⟨rfl,rfl⟩:=ndC_inj (bk_inj k4 k1)
    exact .inl ⟨k,hk2,_,_,_,_,k3,k2⟩
   ·obtain rfl:=List.mem_singleton.1 hk2
    obtain⟨rfl,rfl⟩:=ndC_inj (bk_inj hk k1)
    exact .inr k2
  ·rcases List.mem_append.1 hk2 with hk2 | hk2
   ·obtain⟨s1,s2,k1,k2,k3⟩:=H.out.node k hk2
    refine⟨s1,s2,?_,h9 k2,h9 k3⟩
    rw [find_snoc (hpar k hk2)]
    refine k1.only h.only fun hm=>?_
    rcases List.mem_cons.1 hm with e | hm
    ·exact bk_ne k1 HO.out (by decide) e
    ·have:=owns_ne HR.out k1 (by decide)
     cases a with
     |none=>cases hm
     |some p=>exact this (by simpa [Value.ownBlock,eq_comm] using hm)
   ·obtain rfl:=List.mem_singleton.1 hk2
    refine⟨_,_,?_,h9 T1.out,h9 T2.out⟩
    rw [find_snoc hnp,HPU.out]
    exact hk
  ·rcases hq with rfl | ⟨k,hk2,rfl⟩ | ⟨m,d,x,hq⟩
   ·exact .inl (.inl rfl)
   ·rcases List.mem_append.1 hk2 with hk2 | hk2
    ·exact .inl (.inr (.inl ⟨k,hk2,rfl⟩))
    ·obtain rfl:=List.mem_singleton.1 hk2
     exact .inr hg
   ·have e:=(show Bk 71 W f #[.slice ya (ns.length+1) yc,.int .i64 nx] from h.obj).symm.trans hq
    simp only [Option.some.injEq,Obj.cells.injEq,Array.mk.injEq,List.cons.injEq,Value.slice.injEq] at e
    obtain⟨⟨⟨rfl,_⟩,_⟩,_⟩:=e
    rcases hv q rfl with e | e
    ·exact .inl (hL q (List.mem_cons_of_mem _ (by rw [e];simp)))
    ·exact .inr e
end Go.Proofs.YthogppennalobaaGreatDoor
namespace Go.Proofs.YthogppennalobaaGreatDoor
open Go.RowKit Go.Sort Forest
def IsSet (w:World)(B:Nat)(k:List Int): Prop:=∃es clock,w.heap[B]?=some (.map es clock)∧(∀e∈es.toList,(∃x:Int,e.key = .int .i64 x)∧e.val = .agg #[])∧∀x:Int,x∈k↔∃e∈es.toList,e.key = .int .i64 x
theorem IsSet.lt {w:World}{B:Nat}{k:List Int}(h:IsSet w B k): B<w.heap.size:=by
 obtain⟨es,clock,hb,_⟩:=h
 exact blk_lt hb
theorem IsSet.of {w w':World}{B:Nat}{k:List Int}(h:IsSet w B k)(e:w'.heap[B]?=w.heap[B]?): IsSet w' B k:=by
 obtain⟨es,clock,hb,rest⟩:=h
 exact⟨es,clock,e.trans hb,rest⟩
theorem IsSet.below {w w':World}{B:Nat}{k:List Int}(h:IsSet w B k)(hb:Below w.heap.size w w'): IsSet w' B k:=h.of (hb.block _ h.lt)
theorem IsSet.new (w:World)(c:Nat): IsSet (w.alloc (.map #[] c)) w.heap.size []:=⟨#[],c,heap_alloc_new w _,fun e he=>by simp at he,fun x=>by simp⟩
theorem IsSet.congr {w:World}{B:Nat}{k l:List Int}(h:IsSet w B k)(e:∀x,x∈k↔x∈l): IsSet w B l:=by
 obtain⟨es,clock,hb,h1,h2⟩:=h
 exact⟨es,clock,hb,h1,fun x=>(e x).symm.trans (h2 x)⟩
theorem m100:Tryz.prog.underlying 100=some (.map 3 105):=by kernel_rfl
theorem m3:Tryz.prog.underlying 3=some (.int .i64):=by kernel_rfl
theorem z105 (w:World): (zeroValue 105).run Tryz.prog w = .ok (.agg #[]) w:=by kernel_rfl
theorem key_of {es:Array MapEntry}(h:∀e∈es.toList,(∃x:Int,e.key = .int .i64 x)∧e.val = .agg #[]): ∀e∈es.toList,MapKept.IsKey (.int .i64) e.key:=fun e he=>by
 obtain⟨x,hx⟩:=(h e he).1
 rw [hx];rfl
theorem IsSet.look {w:World}{B:Nat}{k:List Int}(h:IsSet w B k)(x:Int): (Instr.lookup 100 (.map (some B)) (.int .i64 x) true).run Tryz.prog w = .ok (.tuple #[.agg #[],.bool (k.contains x)]) w:=by
 obtain⟨es,clock,hb,h1,h2⟩:=h
 have hk:MapKept.IsKey (.int .i64) (.int .i64 x):=rfl
 rcases MapKept.findNow_spec hk es.toList 0 (key_of h1) with ⟨e1,e2⟩ | ⟨j,e,e1,e2,e3⟩
 ·have hc:k.contains x=false:=by
   rw [Bool.eq_false_iff]
   intro hx
   obtain⟨e,he,hek⟩:=(h2 x).1 (List.contains_iff_mem.1 hx)
   exact e2 e he hek
  rw [hc]
  simp [Instr.lookup,run_underlying m100,MapKept.run_getObj_map hb,MapKept.run_checkKey m3 hk,MapKept.run_findKey m3 e1,z105,Result.andThen]
 ·have hm:e∈es.toList:=List.mem_of_getElem? e2
  have hc:k.contains x=true:=List.contains_iff_mem.2 ((h2 x).2 ⟨e,hm,e3⟩)
  rw [hc]
  simp [Instr.lookup,run_underlying m100,MapKept.run_getObj_map hb,MapKept.run_checkKey m3 hk,MapKept.run_findKey m3 e1,(h1 e hm).2,Result.andThen]
def HasStamp (w:World)(B:Nat)(s:Nat): Prop:=∃es clock,w.heap[B]?=some (.map es clock)∧∃e∈es.toList,e.born=s
theorem only_map {w:World}{B:Nat}{o:Obj}: Only [B] w {w with heap:=w.heap.setIfInBounds B o}:=
 ⟨rfl,rfl,rfl,by simp,fun q hq hn=>by
  have:B≠q:=fun e=>hn (by simp [e])
  simp [this]⟩
theorem IsSet.entry {w:World}{B:Nat}{k:List Int}(h:IsSet w B k)(x:Int): ∃(s:Nat) (w':World),(Instr.mapEntry 100 (.map (some B)) (.int .i64 x)).run Tryz.prog w = .ok (.tuple #[.agg #[],goInt (s:Nat)]) w'∧IsSet w' B (x::k)∧HasStamp w' B s∧Only [B] w w'∧w'.heap.size=w.heap.size:=by
 obtain⟨es,clock,hb,h1,h2⟩:=h
 have hk:MapKept.IsKey (.int .i64) (.int .i64 x):=rfl
 rcases MapKept.findNow_spec hk es.toList 0 (key_of h1) with ⟨e1,e2⟩ | ⟨j,e,e1,e2,e3⟩
 ·refine⟨clock,{w with heap:=w.heap.setIfInBounds B (.map (es.push {key:= .int .i64 x,val:= .agg #[],born:=clock}) (clock+1))},?_,?_,?_,only_map,by simp⟩
  ·simp [Instr.mapEntry,run_underlying m100,MapKept.run_getObj_map hb,MapKept.run_checkKey m3 hk,MapKept.run_findKey m3 e1,z105,MapKept.run_setObj_map _ hb,Result.andThen]
  ·refine⟨_,_,(MapKept.heap_set hb).1,fun e he=>?_,fun y=>?_⟩
   ·simp only [Array.toList_push,List.mem_append,List.mem_singleton] at he
    rcases he with he | rfl
    ·exact h1 e he
    ·exact⟨⟨x,rfl⟩,rfl⟩
   ·rw [List.mem_cons,h2]
    constructor
    ·rintro(rfl | ⟨e,he,hek⟩)
     ·exact⟨{key:= .int .i64 y,val:= .agg #[],born:=clock},by simp,rfl⟩
     ·exact⟨e,by simp at he ⊢;exact .inl he,hek⟩
    ·rintro⟨e,he,hek⟩
     simp only [Array.toList_push,List.mem_append,List.mem_singleton] at he
     rcases he with he | rfl
     ·exact .inr ⟨e,he,hek⟩
     ·cases hek;exact .inl rfl
  ·exact⟨_,_,(MapKept.heap_set hb).1,{key:= .int .i64 x,val:= .agg #[],born:=clock},by simp,rfl⟩
 ·have hj:es[j]?=some e:=by simpa using e2
  have hm:e∈es.toList:=List.mem_of_getElem? e2
  have hz:=(h1 e hm).2
  refine⟨e.born,{w with heap:=w.heap.setIfInBounds B (.map (es.modify j fun e=>{e with key:= .int .i64 x}) clock)},?_,?_,?_,only_map,by simp⟩
  ·simp [Instr.mapEntry,run_underlying m100,MapKept.run_getObj_map hb,MapKept.run_checkKey m3 hk,MapKept.run_findKey m3 e1,hj,e3,hz,MapKept.run_keyThatStays hk,MapKept.run_setObj_map _ hb,Result.andThen]
  ·have hsame:es.modify j (fun e=>{e with key:= .int .i64 x})=es:=by
    apply Array.ext_getElem?
    intro i
    rw [Array.getElem?_modify]
    by_cases hij:j=i
    ·subst hij
     rw [if_pos rfl,hj]
     show some {e with key:= .int .i64 x}=some e
     rw [← e3]
    ·rw [if_neg hij]
   rw [hsame]
   refine⟨es,clock,(MapKept.heap_set hb).1,h1,fun y=>?_⟩
   rw [List.mem_cons,h2]
   constructor
   ·rintro(rfl | h)
    ·exact⟨e,hm,e3⟩
    ·exact h
   ·exact .inr
  ·refine⟨_,_,(MapKept.heap_set hb).1,{e with key:= .int .i64 x},?_,rfl⟩
   rw [Array.mem_toList_iff,Array.mem_iff_getElem?]
   exact⟨j,by rw [Array.getElem?_modify,if_pos rfl,hj];rfl⟩
theorem IsSet.lay {w:World}{B s:Nat}{k:List Int}(h:IsSet w B k)(hs:HasStamp w B s): ∃w',(Instr.entryStore 100 (.map (some B)) (goInt (s:Nat)) (.agg #[])).run Tryz.prog w = .ok () w'∧IsSet w' B k∧Only [B] w w'∧w'.heap.size=w.heap.size:=by
 obtain⟨es,clock,hb,h1,h2⟩:=h
 obtain⟨es',clock',hb',e,he,hes⟩:=hs
 rw [hb] at hb'
 cases hb'
 cases hf:es.findIdx? (fun e=>(e.born:Int) == (s:Int)) with
 |none=>
  have:=Array.findIdx?_eq_none_iff.1 hf e (by simpa using he)
  simp [hes] at this
 |some i=>
  have hi:i<es.size:=(Array.findIdx?_eq_some_iff_getElem.1 hf).1
  refine⟨{w with heap:=w.heap.setIfInBounds B (.map (es.modify i fun e=>{e with val:= .agg #[]}) clock)},?_,?_,only_map,by simp⟩
  ·simp [Instr.entryStore,MapKept.run_getObj_map hb,asInt,asIntOf,goInt,hf,MapKept.run_setObj_map _ hb,Result.andThen]
  ·have hsame:es.modify i (fun e=>{e with val:= .agg #[]})=es:=by
    apply Array.ext_getElem?
    intro q
    rw [Array.getElem?_modify]
    by_cases hij:i=q
    ·subst hij
     rw [if_pos rfl,Array.getElem?_eq_getElem hi]
     show some {es[i] with val:= .agg #[]}=some es[i]
     rw [← (h1 es[i] (by simp)).2]
    ·rw [if_neg hij]
   rw [hsame]
   exact⟨es,clock,(MapKept.heap_set hb).1,h1,h2⟩
set_option maxHeartbeats 2000000 in
theorem has_any {w:World}{B:Nat}{k:List Int}(h:IsSet w B k)(x:Int): Calls Tryz.prog 70 #[.map (some B),.int .i64 x] w fun e w'=>e = .returned (.bool (k.contains x))∧Below w.heap.size w w':=by
 have hl:=h.look x
 generalize k.contains x=b at *
 clear h
 go_enter Tryz.func70,Tryz.ntmps70
 go_wp2
 go_ret
 exact⟨rfl,by go_grown⟩
end Go.Proofs.YthogppennalobaaGreatDoor
namespace Go.Proofs.YthogppennalobaaGreatDoor
open Go.RowKit Go.Shelf
def Up (B:Nat)(A C:World): Prop:=A.heap.size≤C.heap.size∧∀q,B≤q→q<A.heap.size→C.heap[q]?=A.heap[q]?
theorem Up.refl (B:Nat)(A:World): Up B A A:=⟨Nat.le_refl _,fun _ _ _=>rfl⟩
theorem Up.trans {B:Nat}{A C D:World}(h:Up B A C)(k:Up B C D): Up B A D:=⟨Nat.le_trans h.1 k.1,fun q hq hl=>(k.2 q hq (Nat.lt_of_lt_of_le hl h.1)).trans (h.2 q hq hl)⟩
theorem Up.mono {B B':Nat}{A C:World}(h:Up B A C)(hB:B≤B'): Up B' A C:=⟨h.1,fun q hq hl=>h.2 q (Nat.le_trans hB hq) hl⟩
theorem Up.put {B l:Nat}{A:World}{o:Obj}(hl:l<B): Up B A (A.putObj l o):=⟨Nat.le_of_eq World.putObj_size.symm,fun q hq _=>World.putObj_heap_other (by omega)⟩
theorem put_below {B l:Nat}{A C:World}{o:Obj}(h:Below B A C)(hl:B≤l): Below B A (C.putObj l o):=
 ⟨h.os,h.tape,h.output,Nat.le_trans h.size (Nat.le_of_eq World.putObj_size.symm),fun q hq=>(World.putObj_heap_other (by omega)).trans (h.block q hq)⟩
def OnBelow {β:Type}(B:Nat)(J:β→World→Prop): Prop:=∀s A C,J s A→Below B A C→J s C
def Yields {α:Type}(Q:World→Prop)(F:Fence)(n:Nat)(P:Program)(g:Nat)(lb:Array Value)(encs:α→Array Value)(xs:List α)(w:World): Prop:=
 ∀(l:Nat) (J Jx:List α→World→Prop) (W:World),Below w.heap.size w W→OnBelow W.heap.size J→OnBelow W.heap.size Jx→(∀pre A,J pre A→Q A)→
  (∀pre x W1,J pre W1→pre++[x] <+: xs→W.heap.size≤W1.heap.size→YieldAt F (n - 1) P l (encs x) W1 fun e W'=>
   (e = .returned (.bool true)∧J (pre++[x]) W'∧Up W.heap.size W1 W')∨(e = .returned (.bool false)∧Jx (pre++[x]) W'))→
  J [] W→
  CallsIn F n P g (#[.func (.yield l) #[] #[]]++lb) W fun e W'=>(∃v,e = .returned v)∧(J xs W'∨∃pre,pre <+: xs∧Jx pre W')
def upPost {α:Type}(B:Nat)(I:List α→World→Prop)(Ix:List α→World→Prop)(xs:List α)(W:World): Exit→Act→World→Prop
 |.normal,_,W'=>Up B W W'∧I xs W'
 |.ret,_,W'=>Up B W W'∧Ix xs W'
 |_,_,_=>False
structure Aside (B:Nat)(A C:World): Prop where
 below:Below B A C
 size:C.heap.size=A.heap.size
 above:∀q,B+2≤q→C.heap[q]?=A.heap[q]?
theorem range_yields {F:Fence}{n:Nat}{P:Program}{α:Type}{g:Operand}{ps:Array Tmp}{assign body:Code}{Q:Exit→Act→World→Prop}{a:Act}{w:World}
  (hro:F.round=none) (h1:1≤n) {gf:Nat} {lb:Array Value} (hg:a.eval g = .func (.func gf) #[] lb) (hFg:F.fn gf) (eg:∀args w,(callFunc gf args).run P w = .ok (.enter gf args) w)
  {encs:α→Array Value} {xs:List α} {QQ:World→Prop} (hseq:Yields QQ F (n - 1) P gf lb encs xs w) (hps:∀x,(encs x).size=ps.size)
  (I Ix:List α→World→Prop) (hI:OnBelow w.heap.size I) (hIx:OnBelow w.heap.size Ix) (hIQ:∀pre A,I pre A→QQ A) (h0:I [] w)
  (hround:∀(l:Nat) (pre:List α) (x:α) (W:World),I pre W→pre++[x] <+: xs→w.heap.size+2≤W.heap.size→
   assign.wpIn (F.inRound l) (n - 1 - 1) P (Exit.then (fun a1 W1=>Below W.heap.size W W1∧∀W2,Aside w.heap.size W1 W2→body.wpIn (F.inRound l) (n - 1 - 1) P (upPost w.heap.size I Ix (pre++[x]) W2) a1 W2) (fun _ _ _=>False)) {tmps:=(ps.zip (encs x)).foldl (fun t (p,v)=>t.setIfInBounds p v) a.tmps,defers:=[]} W)
  (hdone:∀(D:Nat) (W:World),w.heap.size≤D→I xs W→W.heap[D]?=some (.deferred (some []))→Q .normal {a with defers:={target:= .collected D,args:=#[]}::a.defers} W)
  (hstop:∀(D:Nat) (pre:List α) (W:World),w.heap.size≤D→pre <+: xs→Ix pre W→W.heap[D]?=some (.deferred (some []))→Code.ret.wpIn F n P Q {a with defers:={target:= .collected D,args:=#[]}::a.defers} W) :
  (Code.rangeFunc g ps assign body).wpIn F n P Q a w:=by
 refine wpIn_rangeFunc fun fn hfn=>?_
 rw [hro]
 let R:LoopState→Option Code→Obj:=fun st pe=> .loop {state:=st,pending:=pe,fn,tmps:=a.tmps,params:=ps,assign,body,defers:=w.heap.size}
 obtain⟨U,hU⟩:∃U,(w.alloc (.deferred (some []))).alloc (R .ready none)=U:=⟨_,rfl⟩
 have hUs:U.heap.size=w.heap.size+2:=by rw [← hU];simp
 have hUb:Below w.heap.size w U:=by
  rw [← hU]
  exact((Below.refl _ w).alloc (Nat.le_refl _) _).alloc (by simp) _
 have hUl:U.heap[w.heap.size+1]?=some (R .ready none):=by
  have:=World.alloc_heap_new (w.alloc (.deferred (some []))) (R .ready none)
  rw [World.size_alloc,hU] at this
  exact this
 have hUd:U.heap[w.heap.size]?=some (.deferred (some [])):=by
  rw [← hU]
  exact(Below.heap_alloc _ _ _ (by simp)).trans (World.alloc_heap_new w _)
 let J:List α→World→Prop:=fun pre W=>I pre W∧W.heap[w.heap.size+1]?=some (R .ready none)∧W.heap[w.heap.size]?=some (.deferred (some []))
 let Jx:List α→World→Prop:=fun pre W=>Ix pre W∧W.heap[w.heap.size+1]?=some (R .done (some .ret))∧W.heap[w.heap.size]?=some (.deferred (some []))
 have hJ:OnBelow U.heap.size J:=fun s A C h hb=>⟨hI s A C h.1 (hb.mono hUb.size),(hb.block _ (by omega)).trans h.2.1,(hb.block _ (by omega)).trans h.2.2⟩
 have hJx:OnBelow U.heap.size Jx:=fun s A C h hb=>⟨hIx s A C h.1 (hb.mono hUb.size),(hb.block _ (by omega)).trans h.2.1,(hb.block _ (by omega)).trans h.2.2⟩
 refine⟨w.heap.size+1,[{target:= .collected w.heap.size,args:=#[]}],U,{target:= .fn (.func gf) lb,args:=#[.func (.yield (w.heap.size+1)) #[] #[]]},U,gf,#[.func (.yield (w.heap.size+1)) #[] #[]]++lb,U,?_,?_,?_,?_,fun _=>h1,?_⟩
 ·rw [← hU]
  exact run_enterLoop_outer _ _ _ _ _
 ·simp only [resolve,hg]
  simp [go_sem]
 ·intro f' hf'
  simp [Target.leads] at hf'
  subst hf'
  exact hFg
 ·simp [invoke,go_sem,eg]
 refine(hseq (w.heap.size+1) J Jx U hUb hJ hJx (fun pre A h=>hIQ pre A h.1) ?_ ⟨hI _ _ _ h0 hUb,hUl,hUd⟩).mono ?_
 ·rintro pre x W ⟨hi,hl,hd⟩ hpre hsz
  have hltW:w.heap.size+1<W.heap.size:=(Array.getElem?_eq_some_iff.1 hl).1
  refine⟨fn,_,assign,body,run_yield hl (hps x),roundIn_of_wpIn hfn (wpIn_mono (hround _ pre x W hi hpre (by omega)) ?_)⟩
  intro e0 a1 V hV
  cases e0 with
  |normal=>?_
  |ret=>exact hV
  |exit id=>exact hV
  |goto t=>exact hV
  |panic ch=>exact hV
  |outgrown=>exact hV
  obtain⟨hbV,hbody⟩:=hV
  have hlV:V.heap[w.heap.size+1]?=some (R .ready none):=(hbV.block _ hltW).trans hl
  have hdV:V.heap[w.heap.size]?=some (.deferred (some [])):=(hbV.block _ (by omega)).trans hd
  have hlt:w.heap.size+1<V.heap.size:=(Array.getElem?_eq_some_iff.1 hlV).1
  have hl2:(V.putObj (w.heap.size+1) (R .busy none)).heap[w.heap.size+1]?=some (R .busy none):=World.putObj_heap_same hlt
  have hd2:(V.putObj (w.heap.size+1) (R .busy none)).heap[w.heap.size]?=some (.deferred (some [])):=(World.putObj_heap_other (by omega)).trans hdV
  have hsz2:(V.putObj (w.heap.size+1) (R .busy none)).heap.size=V.heap.size:=World.putObj_size
  have hlt2:w.heap.size+1<(V.putObj (w.heap.size+1) (R .busy none)).heap.size:=hsz2.symm▸hlt
  have hlt3:w.heap.size<(V.putObj (w.heap.size+1) (R .busy none)).heap.size:=Nat.lt_of_succ_lt hlt2
  have hupV:Up U.heap.size W (V.putObj (w.heap.size+1) (R .busy none)):=⟨hsz2.symm▸hbV.size,fun q hq hlq=>(World.putObj_heap_other (by omega)).trans (hbV.block q hlq)⟩
  refine⟨_,run_beginRound hlV rfl,?_⟩
  refine wpIn_mono (hbody _ ⟨put_below (Below.refl _ V) (by omega),hsz2,fun q hq=>World.putObj_heap_other (by omega)⟩) ?_
  intro e a3 W3 hp
  cases e with
  |normal=>
   obtain⟨hup,hi3⟩:=hp
   have hl3:=(hup.2 _ (Nat.le_succ _) hlt2).trans hl2
   refine⟨_,_,run_endRound none hl3,.inl ⟨rfl,⟨hI _ _ _ hi3 (put_below (Below.refl _ W3) (by omega)),World.putObj_heap_same (Array.getElem?_eq_some_iff.1 hl3).1,(World.putObj_heap_other (by omega)).trans ((hup.2 _ (Nat.le_refl _) hlt3).trans hd2)⟩,?_⟩⟩
   exact(hupV.trans (hup.mono hUb.size)).trans (Up.put (by omega))
  |ret=>
   obtain⟨hup,hi3⟩:=hp
   have hl3:=(hup.2 _ (Nat.le_succ _) hlt2).trans hl2
   exact⟨_,_,run_endRound (some .ret) hl3,.inr ⟨rfl,hIx _ _ _ hi3 (put_below (Below.refl _ W3) (by omega)),World.putObj_heap_same (Array.getElem?_eq_some_iff.1 hl3).1,(World.putObj_heap_other (by omega)).trans ((hup.2 _ (Nat.le_refl _) hlt3).trans hd2)⟩⟩
  |exit id=>exact hp.elim
  |goto t=>exact hp.elim
  |panic ch=>exact hp.elim
  |outgrown=>exact hp.elim
 ·rintro e W2 ⟨⟨v,rfl⟩,⟨hi,hl,hd⟩ | ⟨pre,hpre,hi,hl,hd⟩⟩
  ·exact⟨none,_,run_endLoop hl (by simp),hdone _ _ (Nat.le_refl _) (hI _ _ _ hi (put_below (Below.refl _ W2) (by omega))) ((World.putObj_heap_other (by omega)).trans hd)⟩
  ·exact⟨some .ret,_,run_endLoop hl (by simp),hstop _ pre _ (Nat.le_refl _) hpre (hIx _ _ _ hi (put_below (Below.refl _ W2) (by omega))) ((World.putObj_heap_other (by omega)).trans hd)⟩
end Go.Proofs.YthogppennalobaaGreatDoor
namespace Go.Proofs.YthogppennalobaaGreatDoor
open Go.RowKit Go.Sort Go.Shelf Forest
attribute [local go_sem] Oper.semAt_some
def backAt (ns:Ns)(q:Nat): Nat:=(ns.map (·.1)).getD (ns.length - 1 - q) 0
def backE (ns:Ns)(q:Nat): Array Value:=#[.int .i64 ((ns.length:Int) - 1 - (q:Int)),kpt (backAt ns q)]
def BackQ (ns:Ns)(a:Option Addr)(c bb:Nat)(W:World): Prop:=W.cell? ⟨bb,0,none⟩=some (.slice a ns.length c)∧∀i (hi:i<ns.length),∃g,a=some ⟨g,0,none⟩∧W.cell? ⟨g,i,none⟩=some (kpt ns[i].1)
theorem range_pre {m n:Nat}(h:m≤n): List.range m <+: List.range n:=by
 have:=List.take_prefix m (List.range n)
 rwa [List.take_range,Nat.min_eq_left h] at this
set_option maxHeartbeats 16000000 in
theorem back_yield (n:Nat)(hn:3≤n)(ns:Ns)(hl:ns.length≤1000000)(a:Option Addr)(c bb:Nat)(w:World):
  Yields (BackQ ns a c bb) Fence.wide n Tryz.prog 112 #[.pointer (some ⟨bb,0,none⟩)] (backE ns) (List.range ns.length) w:=by
 intro l J Jx W hW hJ hJx hQ hY h0
 have HY:=Lib.hid hY
 have HQ:=Lib.hid hQ
 have H0:=Lib.hid h0
 have c0:=(hQ _ _ h0).1
 clear hY h0 hW hQ hJ hJx
 refine callsIn_of_wp Tryz.func112 rfl trivial ?_ rfl
 simp only [Tryz.ntmps112,List.size_toArray,List.length_cons,List.length_nil,Nat.reduceAdd,Nat.reduceSub,Array.replicate_succ,Array.replicate_zero,List.push_toArray,List.append_toArray,List.nil_append,List.cons_append]
 gi_wp2
 gi_loopw [3] (fun p wr=>∃q:Nat,q≤ns.length∧p = .int .i64 ((ns.length:Int) - 1 - (q:Int))∧Hid (J (List.range q) wr∧W.heap.size≤wr.heap.size)) (fun p wr=>((intOf p)+1).toNat)
 case atStart=>exact⟨0,Nat.zero_le _,by simp,Lib.hid ⟨H0.out,Nat.le_refl _⟩⟩
 case round=>
  clear H0 c0
  obtain⟨q,hq,rfl,HR⟩:=hrel
  by_cases hlt:q<ns.length
  ·have hltI:(0:Int)≤(ns.length:Int) - 1 - (q:Int):=by omega
   obtain⟨c0,hc⟩:=HQ.out _ _ HR.out.1
   have hi:ns.length - 1 - q<ns.length:=by omega
   obtain⟨g,rfl,hcell⟩:=hc _ hi
   have hb:backAt ns q=(ns[ns.length - 1 - q]'hi).1:=by
    unfold backAt
    rw [List.getD_eq_getElem?_getD,List.getElem?_map,List.getElem?_eq_getElem hi];rfl
   rw [← hb] at hcell
   obtain⟨fn,tmps,assign,body,hy,hR⟩:=HY.out (List.range q) q wr HR.out.1 (by rw [← List.range_succ];exact range_pre (by omega)) HR.out.2
   have HRR:=Lib.hid hR
   unfold backE at hy
   unfold kpt at hy hcell
   have htn:((ns.length:Int) - 1 - (q:Int)).toNat=ns.length - 1 - q:=by omega
   clear hR hc hb hi
   generalize backAt ns q=kb at *
   gi_wp2
   refine⟨fun _=>by omega,?_⟩
   refine HRR.out.mono ?_
   rintro x w4 (⟨rfl,hj,hu⟩ | ⟨rfl,hjx⟩)
   ·have HJ5:Hid (J (List.range (q+1)) w4):=Lib.hid (by rw [List.range_succ];exact hj)
    have HS5:=Lib.hid (Nat.le_trans HR.out.2 hu.1)
    clear hj hu HRR
    gi_wp2
    go_roundw
    case rel=>exact⟨q+1,by omega,by go_num,Lib.hid ⟨HJ5.out,HS5.out⟩⟩
    case measure=>simp [intOf];omega
   ·gi_wp2
    refine bodyPost_ret (results_none rfl _ _ _) rfl ?_
    exact⟨⟨_,rfl⟩,.inr ⟨_,by rw [← List.range_succ];exact range_pre (by omega),hjx⟩⟩
  ·obtain rfl:q=ns.length:=by omega
   have hltI:¬(0:Int)≤(ns.length:Int) - 1 - (ns.length:Int):=by omega
   gi_wp2
   go_end0
   exact⟨⟨_,rfl⟩,.inl HR.out.1⟩
end Go.Proofs.YthogppennalobaaGreatDoor
namespace Go.Proofs.YthogppennalobaaGreatDoor
open Go.RowKit Go.Sort Forest
theorem del_any {w:World}{g q B:Nat}{K:List Int}{x:Int}(h:w.cell? ⟨g,0,none⟩=some (.int .i64 x))(h2:w.cell? ⟨q,0,none⟩=some (.map (some B)))(hs:IsSet w B K): Calls Tryz.prog 72 #[kpt g,.pointer (some ⟨q,0,none⟩)] w fun e w'=>e = .returned (.bool (!K.contains x))∧Below w.heap.size w w':=by
 have kx:=cell_regrown h
 have ky:=cell_regrown h2
 have HC:Hid (∀d os,Calls Tryz.prog 70 #[.map (some B),.int .i64 x] (grow (redrawn w d) os) fun e w''=>e = .returned (.bool (K.contains x))∧∃p:Regrown,w''=grow (redrawn w p.d) p.os):=Lib.hid fun d os=>Calls.regrown_of (has_any (hs.below (below_regrown w d os)) x)
 generalize K.contains x=b at *
 clear h h2 hs
 unfold kpt
 go_enter Tryz.func72,Tryz.ntmps72
 go_upto_region 1 with fail
 refine wp_region_quiet_below mixed (by kernel_rfl) ?_
 repeat (first | go_big_quiet_step (with_reducible exact HC.out _ _) | quiet_step (with_reducible exact HC.out _ _))
 refine wpQuiet_nil ?_
 intro _ hw'
 obtain⟨⟨dq,osq⟩,hw''⟩:=hw'
 subst hw''
 have hbq:=below_regrown w dq osq
 go_wp2_with fail
 go_ret
 exact⟨rfl,hbq⟩
def delP (ns:Ns)(K:List Int): Option Nat:=ns.findIdx? fun k=>!K.contains (k.2.id:Int)
theorem index_del {w:World}{ns:Ns}{a:Option Addr}(c:Nat)(hl:ns.length≤1000000)(hc:∀i (hi:i<ns.length),∃g,a=some ⟨g,0,none⟩∧w.cell? ⟨g,i,none⟩=some (kpt ns[i].1))
  (hn:∀k∈ns,w.cell? ⟨k.1,0,none⟩=some (.int .i64 (k.2.id:Int))) (q B:Nat) (K:List Int) (hq:w.cell? ⟨q,0,none⟩=some (.map (some B))∧IsSet w B K) :
  Calls Tryz.prog 107 #[.slice a ns.length c,.func (.func 72) #[] #[.pointer (some ⟨q,0,none⟩)]] w fun e w'=>e = .returned (.int .i64 (posV (delP ns K)))∧Below w.heap.size w w':=by
 have HC:=Lib.hid hc
 have HN:=Lib.hid hn
 have HQ:=Lib.hid hq
 clear hc hn hq
 go_enter Tryz.func107,Tryz.ntmps107
 go_wp2_with fail
 go_loopw [8] (fun iv wr=>∃i:Nat,iv = .int .i64 (i:Int)∧i≤ns.length∧Hid (Below w.heap.size w wr)∧Hid (∀j (h:j<i) (h2:j<ns.length),(!K.contains (ns[j].2.id:Int))=false)) (fun iv _=>ns.length - (intOf iv).toNat)
 case atStart=>exact⟨0,rfl,Nat.zero_le _,Lib.hid (Below.refl _ _),Lib.hid fun j h=>by omega⟩
 case round=>
  obtain⟨i,rfl,hi,HB,HI⟩:=hrel
  by_cases hlt:i<ns.length
  ·obtain⟨g,rfl,hcell⟩:=HC.out i hlt
   obtain⟨k,hk⟩:∃k,ns[i]=k:=⟨_,rfl⟩
   have hkm:k∈ns:=hk▸List.getElem_mem hlt
   have hcell2:wr.cell? ⟨g,i,none⟩=some (.pointer (some ⟨k.1,0,none⟩)):=cell_below HB.out (by rw [hcell,hk];rfl)
   have hs:Hid (Calls Tryz.prog 72 #[.pointer (some ⟨k.1,0,none⟩),.pointer (some ⟨q,0,none⟩)] wr fun e w'=>e = .returned (.bool (!K.contains (k.2.id:Int)))∧Below wr.heap.size wr w'):=Lib.hid (del_any (cell_below HB.out (HN.out k hkm)) (cell_below HB.out HQ.out.1) (HQ.out.2.below HB.out))
   have hltI:(i:Int)<(ns.length:Int):=by omega
   have HK:=Lib.hid hk
   clear hcell hk hkm
   cases hb:(!K.contains (k.2.id:Int)) with
   |true=>
    rw [hb] at hs
    have HR:Hid (delP ns K=some i):=Lib.hid (by
     unfold delP
     rw [List.findIdx?_eq_some_iff_getElem]
     exact⟨hlt,by rw [HK.out];exact hb,fun j hj=>by rw [HI.out j hj (by omega)];simp⟩)
    clear hb
    generalize k.1=kb at *
    go_wp2_with (go_at_call 72;refine hs.out.mono ?_;rintro e w' ⟨rfl,hb⟩)
    go_ret
    exact⟨by rw [HR.out];rfl,HB.out.trans (hb.mono HB.out.size)⟩
   |false=>
    rw [hb] at hs
    have HX:=Lib.hid hb
    clear hb
    generalize hkb:k.1=kb at *
    have HKB:=Lib.hid hkb
    clear hkb
    go_wp2_with (go_at_call 72;refine hs.out.mono ?_;rintro e w' ⟨rfl,hb⟩;have HB2:=Lib.hid (HB.out.trans (hb.mono HB.out.size));clear hb)
    go_roundw
    case rel=>
     refine⟨i+1,by go_num,by omega,HB2,Lib.hid fun j h h2=>?_⟩
     rcases Nat.lt_succ_iff_lt_or_eq.1 h with h3 | rfl
     ·exact HI.out j h3 h2
     ·rw [HK.out];exact HX.out
    case measure=>simp [intOf];omega
  ·have hltI:¬(i:Int)<(ns.length:Int):=by omega
   have HR:Hid (delP ns K=none):=Lib.hid (by
    unfold delP
    rw [List.findIdx?_eq_none_iff]
    intro x hx
    obtain⟨j,hj,rfl⟩:=List.getElem_of_mem hx
    exact HI.out j (by omega) hj)
   go_wp2_with fail
   go_ret
   exact⟨by rw [HR.out];rfl,HB.out⟩
end Go.Proofs.YthogppennalobaaGreatDoor
