/- A drawn region by a plan: what each operation gives, in whatever order its edges allow. General; no condition. A drawn region by a plan: reading what is known. General; no condition. Nodes in memory; a search among them. No condition but that numbers rise. The search among nodes. Condition: at most a million. A node by its number (at). Condition: at most a million nodes. Is none of a path dead (is -/
import Derived.Test.YthogppennalobaaGreatDoorZl01
import Derived.Test.YthogppennalobaaGreatDoorZl00
import Derived.Deep.LoopGhost
import Derived.LoopN
set_option linter.unusedVariables false
set_option linter.unusedSimpArgs false
set_option maxRecDepth 100000
namespace Go.Proofs.YthogppennalobaaGreatDoor.Pl
open Go.RowKit Go.Sort
section
variable {P:Program} {ops:Array Oper} {Q:Exit→Act→World→Prop}
def maskB (ops:Array Oper)(M:List (List Nat)): Bool:=(List.range ops.size).all fun i=>match ops[i]? with
 |some o=>(M.getD i []).all fun c=>o.after.any fun e=>Region.binds .any e&&(e.on == c||(M.getD e.on []).contains c)
 |none=>true
def backB (ops:Array Oper): Bool:=(List.range ops.size).all fun i=>match ops[i]? with
 |some o=>o.after.all fun e=>!Region.binds .any e||decide (e.on<i)
 |none=>true
theorem backB_spec (hb:backB ops=true){i:Nat}{o:Oper}(ho:ops[i]?=some o){e:Edge}(he:e∈o.after)(hbe:Region.binds .any e=true): e.on<i:=by
 unfold backB at hb
 rw [List.all_eq_true] at hb
 have h1:=hb i (List.mem_range.2 (Array.getElem?_eq_some_iff.1 ho).1)
 rw [ho] at h1
 simp only [Array.all_eq_true,Bool.or_eq_true,Bool.not_eq_true',decide_eq_true_eq] at h1
 obtain⟨q,hq,rfl⟩:=Array.mem_iff_getElem.1 he
 rcases h1 q hq with h2 | h2
 ·rw [hbe] at h2;cases h2
 ·exact h2
def Closed (ops:Array Oper)(l:Array Bool): Prop:=∀(i:Nat) (o:Oper),l.getD i false=true→ops[i]?=some o→∀e∈o.after,Region.binds .any e=true→l.getD e.on false=true
theorem anc_listed {M:List (List Nat)}(hM:maskB ops M=true)(hbw:backB ops=true){l:Array Bool}(h:Closed ops l): ∀(n i c:Nat) (o:Oper),i<n→ops[i]?=some o→(∀e∈o.after,Region.binds .any e=true→l.getD e.on false=true)→(M.getD i []).contains c=true→l.getD c false=true
 |0,_,_,_,hi,_,_,_=>absurd hi (Nat.not_lt_zero _)
 |n+1,i,c,o,hi,ho,hd,ha=>by
  have h1:=hM
  unfold maskB at h1
  rw [List.all_eq_true] at h1
  have h2:=h1 i (List.mem_range.2 (Array.getElem?_eq_some_iff.1 ho).1)
  rw [ho] at h2
  simp only [List.all_eq_true] at h2
  have h3:=h2 c (by simpa using ha)
  simp only [Array.any_eq_true,Bool.and_eq_true,Bool.or_eq_true,beq_iff_eq] at h3
  obtain⟨k,hk,hb,ha⟩:=h3
  have hl:=hd _ (Array.getElem_mem hk) hb
  have hlt:=backB_spec hbw ho (Array.getElem_mem hk) hb
  rcases ha with ha | ha
  ·rw [← ha];exact hl
  ·have hin:(o.after[k]).on<ops.size:=Nat.lt_trans hlt (Array.getElem?_eq_some_iff.1 ho).1
   exact anc_listed hM hbw h n _ c _ (by omega) (Array.getElem?_eq_getElem hin) (h _ _ hl (Array.getElem?_eq_getElem hin)) ha
def dstB (ops:Array Oper)(m:Nat): Bool:=(List.range ops.size).all fun i=>(List.range ops.size).all fun j=>match ops[i]?,ops[j]? with
 |some o,some o'=>match o.dst with
  |none=>true
  |some d=>decide (d<m)&&(i == j||o'.dst != some d)
 |_,_=>true
theorem dstB_spec {m:Nat}(h:dstB ops m=true){i j:Nat}{o o':Oper}{d:Tmp}(hi:ops[i]?=some o)(hj:ops[j]?=some o')(hd:o.dst=some d): d<m∧(i=j∨o'.dst≠some d):=by
 unfold dstB at h
 rw [List.all_eq_true] at h
 have h1:=h i (List.mem_range.2 (Array.getElem?_eq_some_iff.1 hi).1)
 rw [List.all_eq_true] at h1
 have h2:=h1 j (List.mem_range.2 (Array.getElem?_eq_some_iff.1 hj).1)
 rw [hi,hj] at h2
 simp only [hd,Bool.and_eq_true,decide_eq_true_eq,Bool.or_eq_true,beq_iff_eq,bne_iff_ne,ne_eq] at h2
 exact h2
structure Tm (ops:Array Oper)(T0:Array Value)(v:Nat→Value)(l:Array Bool)(T:Array Value): Prop where
 size:T.size=T0.size
 come:∀(i:Nat) (o:Oper) (d:Tmp),l.getD i false=true→ops[i]?=some o→o.dst=some d→T.getD d undef=v i
 rest:∀(d:Tmp),(∀(i:Nat) (o:Oper),l.getD i false=true→ops[i]?=some o→o.dst≠some d)→T.getD d undef=T0.getD d undef
theorem getD_set (T:Array Value)(d k:Nat)(x:Value)(hd:d<T.size): (T.setIfInBounds d x).getD k undef=if k=d then x else T.getD k undef:=by
 by_cases hk:k=d
 ·subst hk
  simp [Array.getD,hd]
 ·rw [if_neg hk]
  simp only [Array.getD]
  by_cases h:k<T.size
  ·simp [h,Array.getElem_setIfInBounds,Ne.symm hk]
  ·simp [h]
theorem getD_lset (l:Array Bool)(i k:Nat)(hi:l.getD i true=false): (l.setIfInBounds i true).getD k false=if k=i then true else l.getD k false:=by
 have hlt:i<l.size:=by
  by_cases h:i<l.size
  ·exact h
  ·simp [Array.getD,h] at hi
 by_cases hk:k=i
 ·subst hk
  simp [Array.getD,hlt]
 ·rw [if_neg hk]
  simp only [Array.getD]
  by_cases h:k<l.size
  ·simp [h,Array.getElem_setIfInBounds,Ne.symm hk]
  ·simp [h]
theorem Tm.put {T0 T:Array Value}{v:Nat→Value}{l:Array Bool}(h:Tm ops T0 v l T)(hB:dstB ops T0.size=true){i:Nat}{o:Oper}(ho:ops[i]?=some o)(hi:l.getD i true=false)(ds:List Deferred): Tm ops T0 v (l.setIfInBounds i true) (Act.put ⟨T,ds⟩ o.dst (v i)).tmps:=by
 unfold Act.put
 cases hd:o.dst with
 |none=>
  refine⟨h.size,fun k o' d hl hk hd'=>?_,fun d hn=>h.rest d fun k o' hl hk=>hn k o' (by rw [getD_lset l i k hi];split<;>simp_all) hk⟩
  rw [getD_lset l i k hi] at hl
  by_cases hki:k=i
  ·subst hki
   rw [ho] at hk
   cases hk
   rw [hd] at hd'
   cases hd'
  ·rw [if_neg hki] at hl
   exact h.come k o' d hl hk hd'
 |some d0=>
  have hlt:d0<T.size:=by rw [h.size];exact(dstB_spec hB ho ho hd).1
  refine⟨by simp [h.size],fun k o' d hl hk hd'=>?_,fun d hn=>?_⟩
  ·rw [getD_lset l i k hi] at hl
   show(T.setIfInBounds d0 (v i)).getD d undef=v k
   rw [getD_set T d0 d _ hlt]
   by_cases hki:k=i
   ·subst hki
    rw [ho] at hk
    cases hk
    rw [hd] at hd'
    cases hd'
    rw [if_pos rfl]
   ·rw [if_neg hki] at hl
    rw [if_neg (fun e=>by
     subst e
     rcases(dstB_spec hB ho hk hd).2 with e | e
     ·exact hki e.symm
     ·exact e hd')]
    exact h.come k o' d hl hk hd'
  ·show(T.setIfInBounds d0 (v i)).getD d undef=T0.getD d undef
   have hne:d≠d0:=fun e=>hn i o (by rw [getD_lset l i i hi,if_pos rfl]) ho (by rw [hd,e])
   rw [getD_set T d0 d _ hlt,if_neg hne]
   exact h.rest d fun k o' hl hk=>hn k o' (by rw [getD_lset l i k hi];split<;>simp_all) hk
def planT (ops:Array Oper)(T0:Array Value)(v:Nat→Value): Nat→Array Value
 |0=>T0
 |k+1=>(Act.put ⟨planT ops T0 v k,[]⟩ ((ops[k]?).bind (·.dst)) (v k)).tmps
theorem planT_tm {T0:Array Value}{v:Nat→Value}(hB:dstB ops T0.size=true): ∀k,k≤ops.size→∃l:Array Bool,l.size=ops.size∧(∀i,l.getD i false=true↔i<k)∧Tm ops T0 v l (planT ops T0 v k)
 |0,_=>⟨Array.replicate ops.size false,by simp,fun i=>by
   simp only [Array.getD]
   by_cases h:i<ops.size<;>simp [h],⟨rfl,fun i o d hl _ _=>by
   simp only [Array.getD] at hl
   by_cases h:i<ops.size<;>simp [h] at hl,fun d _=>rfl⟩⟩
 |k+1,hk=>by
  obtain⟨l,hs,hl,ht⟩:=planT_tm (v:=v) hB k (by omega)
  obtain⟨o,ho⟩:∃o,ops[k]?=some o:=⟨_,Array.getElem?_eq_getElem (by omega)⟩
  have hkf:l.getD k true=false:=by
   have h1:k<l.size:=by omega
   have h2:=(hl k)
   simp only [Array.getD,h1,dif_pos] at h2 ⊢
   simpa using h2
  refine⟨l.setIfInBounds k true,by simp [hs],fun i=>?_,?_⟩
  ·rw [getD_lset l k i hkf]
   split
   ·simp;omega
   ·rw [hl i];omega
  ·have:=ht.put hB ho hkf []
   unfold planT
   rw [ho]
   exact this
theorem tm_ext {T T':Array Value}(hs:T.size=T'.size)(h:∀d,T.getD d undef=T'.getD d undef): T=T':=by
 apply Array.ext hs
 intro i h1 h2
 have:=h i
 simpa [Array.getD,h1,h2] using this
theorem Tm.all {T0 T:Array Value}{v:Nat→Value}{l:Array Bool}(h:Tm ops T0 v l T)(hB:dstB ops T0.size=true)(hl:∀i,i<ops.size→l.getD i false=true): T=planT ops T0 v ops.size:=by
 obtain⟨l',hs',hl',ht'⟩:=planT_tm (ops:=ops) (v:=v) hB ops.size (Nat.le_refl _)
 refine tm_ext (by rw [h.size,ht'.size]) fun d=>?_
 by_cases hd:∃(i:Nat) (o:Oper),ops[i]?=some o∧o.dst=some d
 ·obtain⟨i,o,ho,hd⟩:=hd
  have hi:=(Array.getElem?_eq_some_iff.1 ho).1
  rw [h.come i o d (hl i hi) ho hd,ht'.come i o d ((hl' i).2 hi) ho hd]
 ·rw [h.rest d fun i o _ ho hd'=>hd ⟨i,o,ho,hd'⟩,ht'.rest d fun i o _ ho hd'=>hd ⟨i,o,ho,hd'⟩]
def upd (y:Nat→Value)(c:Nat)(v:Value): Nat→Value:=fun k=>if k=c then v else y k
def Known (ops:Array Oper)(T0:Array Value)(v:Nat→Value)(o:Oper)(T:Array Value): Prop:=
 (∀e∈o.after,Region.binds .any e=true→∀(o':Oper) (d:Tmp),ops[e.on]?=some o'→o'.dst=some d→T.getD d undef=v e.on)∧(∀d:Tmp,(∀(k:Nat) (o':Oper),ops[k]?=some o'→o'.dst≠some d)→T.getD d undef=T0.getD d undef)∧
 (∀(i:Nat) (x d:Tmp),ops[i]?=some o→o.dst=some x→(∀(k:Nat) (o':Oper),ops[k]?=some o'→o'.dst=some d→o'.after.any (fun e=>e.on == i&&Region.binds .any e)=true)→T.getD d undef=T0.getD d undef)
def updB (d:Nat→Bool)(c:Nat): Nat→Bool:=fun k=>if k=c then true else d k
def Pin (ops:Array Oper)(T0:Array Value)(ds:List Deferred)(cs:List Nat)(vs:(Nat→Value)→Nat→Value)(PW:(Nat→Bool)→(Nat→Value)→World→Prop)(l:Array Bool)(a:Act)(w:World): Prop:=
 ∃y d,l.size=ops.size∧Closed ops l∧(∀c∈cs,l.getD c false=d c)∧a.defers=ds∧Tm ops T0 (vs y) l a.tmps∧PW d y w
theorem closed_set {l:Array Bool}(h:Closed ops l){i:Nat}{o:Oper}(ho:ops[i]?=some o)(hi:l.getD i true=false)(hd:∀e∈o.after,Region.binds .any e=true→l.getD e.on false=true): Closed ops (l.setIfInBounds i true):=fun k o' hk ho' e he hb=>by
 rw [getD_lset l i _ hi]
 split
 ·rfl
 ·rw [getD_lset l i k hi] at hk
  by_cases hki:k=i
  ·subst hki
   rw [ho] at ho'
   cases ho'
   exact hd e he hb
  ·rw [if_neg hki] at hk
   exact h k o' hk ho' e he hb
theorem all_listed (hb:backB ops=true){l:Array Bool}(hs:l.size=ops.size)(hr:Region.ready .any ops l=[]): left l=0:=by
 have hall:∀k,∀i,i<k→i<ops.size→l.getD i false=true:=fun k=>by
  induction k with
  |zero=>intro i hi;omega
  |succ k ih=>
   intro i hi hin
   cases hli:l.getD i false
   ·exfalso
    have ho:=Array.getElem?_eq_getElem hin
    refine List.eq_nil_iff_forall_not_mem.1 hr i (mem_ready.2 ⟨?_,_,ho,fun e he hbe=>?_⟩)
    ·simpa [Array.getD,hs,hin] using hli
    ·unfold backB at hb
     rw [List.all_eq_true] at hb
     have h1:=hb i (List.mem_range.2 hin)
     rw [ho] at h1
     simp only [Array.all_eq_true,Bool.or_eq_true,Bool.not_eq_true',decide_eq_true_eq] at h1
     obtain⟨q,hq,rfl⟩:=Array.mem_iff_getElem.1 he
     rcases h1 q hq with h2 | h2
     ·rw [hbe] at h2;cases h2
     ·exact ih _ (by omega) (by omega)
   ·rfl
 unfold left
 rw [List.length_eq_zero_iff,List.filter_eq_nil_iff]
 intro x hx
 obtain⟨i,hi,rfl⟩:=List.mem_iff_getElem.1 hx
 have h1:i<l.size:=by simpa using hi
 have:=hall (i+1) i (by omega) (by omega)
 simp only [Array.getD,h1,dif_pos] at this
 simpa using this
theorem getD_tf {l:Array Bool}{i:Nat}(h:l.getD i true=false): l.getD i false=false:=by
 simp only [Array.getD] at h ⊢
 split at h<;>simp_all
def Plain (P:Program)(ops:Array Oper)(Q:Exit→Act→World→Prop)(T0:Array Value)(ds:List Deferred)(cs:List Nat)(M:List (List Nat))(vs:(Nat→Value)→Nat→Value)(PW:(Nat→Bool)→(Nat→Value)→World→Prop)(i:Nat): Prop:=
 ∀o,ops[i]?=some o→i∉cs→∀d y T w',(∀c'∈cs,(M.getD i []).contains c'=true→d c'=true)→Known ops T0 (vs y) o T→PW d y w'→wpOp P ops Q i (fun a' w''=>a'=Act.put ⟨T,ds⟩ o.dst (vs y i)∧w''=w') ⟨T,ds⟩ w'
def Chg (P:Program)(ops:Array Oper)(Q:Exit→Act→World→Prop)(T0:Array Value)(ds:List Deferred)(cs:List Nat)(M:List (List Nat))(vs:(Nat→Value)→Nat→Value)(PW:(Nat→Bool)→(Nat→Value)→World→Prop)(c:Nat): Prop:=
 ∀o,ops[c]?=some o→∀d y T w',d c=false→(∀c'∈cs,(M.getD c []).contains c'=true→d c'=true)→(∀c'∈cs,(M.getD c' []).contains c=true→d c'=false)→Known ops T0 (vs y) o T→PW d y w'→wpOp P ops Q c (fun a' w''=>∃v,a'=Act.put ⟨T,ds⟩ o.dst (vs (upd y c v) c)∧PW (updB d c) (upd y c v) w'') ⟨T,ds⟩ w'
theorem any_plan (T0:Array Value)(ds:List Deferred)(cs:List Nat)(M:List (List Nat))(vs:(Nat→Value)→Nat→Value)(PW:(Nat→Bool)→(Nat→Value)→World→Prop)(w:World)
  (hB:dstB ops T0.size=true) (hbw:backB ops=true) (hM:maskB ops M=true) (hcin:∀c∈cs,c<ops.size)
  (hfix:∀c∈cs,∀i,i≠c→(M.getD i []).contains c=false→∀y v,vs (upd y c v) i=vs y i)
  (hplain:∀i,i<ops.size→Plain P ops Q T0 ds cs M vs PW i)
  (hchg:∀c∈cs,Chg P ops Q T0 ds cs M vs PW c)
  (h0:∃y,PW (fun _=>false) y w.drew)
  (hfin:∀d y w',(∀c∈cs,d c=true)→PW d y w'→Q .normal ⟨planT ops T0 (vs y) ops.size,ds⟩ w') :
  wpAny P .any ops Q ops.size (Array.replicate ops.size false) ⟨T0,ds⟩ w.drew:=by
 have hrep:∀i,(Array.replicate ops.size false).getD i false=false:=fun i=>by
  simp only [Array.getD]
  by_cases h:i<ops.size<;>simp [h]
 refine wpAny_inv2 (I:=Pin ops T0 ds cs vs PW) (g:=0) (fun l a w1 hI hr=>?_) (fun l a w1 hI _ i hi=>?_) (fun l a w1 hI hl=>?_) ops.size _ _ _ (by simp [left]) (Nat.zero_le _) ?_
 ·obtain⟨y,d,h1,h2,_⟩:=hI
  exact all_listed hbw h1 hr
 ·obtain⟨y,d,h1,h2,h3,h5,h6,h7⟩:=hI
  obtain⟨T,ds'⟩:=a
  simp only at h5 h6
  subst h5
  rw [mem_ready] at hi
  obtain⟨hu,o,ho,hd⟩:=hi
  have hul:=getD_tf hu
  have hkn:Known ops T0 (vs y) o T:=⟨fun e he hb o' d ho' hd'=>h6.come e.on o' d (hd e he hb) ho' hd',fun d hn=>h6.rest d fun k o' _ ho'=>hn k o' ho',fun i' x d hi' hx hw=>h6.rest d fun k o' hl hk hd'=>by
   have h8:=hw k o' hk hd'
   rw [Array.any_eq_true] at h8
   obtain⟨n,hn,he⟩:=h8
   rw [Bool.and_eq_true,beq_iff_eq] at he
   have h9:=h2 k o' hl hk _ (Array.getElem_mem hn) he.2
   rw [he.1] at h9
   rcases(dstB_spec hB ho hi' hx).2 with e1 | e1
   ·rw [← e1,hul] at h9;cases h9
   ·exact e1 hx⟩
  by_cases hic:i∈cs
  ·refine wpOp_mono (fun a' w'' hx=>?_) (hchg i hic o ho d y T w1 (by rw [← h3 i hic];exact hul) (fun c' hc' ha=>?_) (fun c' hc' ha=>?_) hkn h7)
   ·obtain⟨v,rfl,hpw⟩:=hx
    have hsame:Tm ops T0 (vs (upd y i v)) l T:=⟨h6.size,(fun k o' d hl hk hd'=>by
     rw [h6.come k o' d hl hk hd']
     refine(hfix i hic k (fun e=>?_) ?_ y v).symm
     ·subst e
      rw [hul] at hl
      cases hl
     ·cases ha:(M.getD k []).contains i
      ·rfl
      ·have:=anc_listed hM hbw h2 (k+1) k i o' (Nat.lt_succ_self k) hk (fun e he hb=>h2 k o' hl hk e he hb) ha
       rw [hul] at this
       exact absurd this (by decide)),h6.rest⟩
    refine⟨upd y i v,updB d i,by simp [h1],closed_set h2 ho hu hd,fun c hc=>?_,by unfold Act.put;split<;>rfl,hsame.put hB ho hu ds',hpw⟩
    rw [getD_lset l i c hu]
    unfold updB
    split
    ·rfl
    ·exact h3 c hc
   ·rw [← h3 c' hc']
    exact anc_listed hM hbw h2 (i+1) i c' o (Nat.lt_succ_self i) ho hd ha
   ·rw [← h3 c' hc']
    cases hl:l.getD c' false
    ·rfl
    ·have ho':=Array.getElem?_eq_getElem (hcin c' hc')
     have:=anc_listed hM hbw h2 (c'+1) c' i _ (Nat.lt_succ_self c') ho' (fun e he hb=>h2 c' _ hl ho' e he hb) ha
     rw [hul] at this
     cases this
  ·refine wpOp_mono (fun a' w'' hx=>?_) (hplain i (Array.getElem?_eq_some_iff.1 ho).1 o ho hic d y T w1 (fun c' hc' ha=>by rw [← h3 c' hc'];exact anc_listed hM hbw h2 (i+1) i c' o (Nat.lt_succ_self i) ho hd ha) hkn h7)
   obtain⟨rfl,rfl⟩:=hx
   refine⟨y,d,by simp [h1],closed_set h2 ho hu hd,fun c hc=>?_,by unfold Act.put;split<;>rfl,h6.put hB ho hu ds',h7⟩
   rw [getD_lset l i c hu,if_neg (fun(e:c=i)=>hic (by rw [← e];exact hc)),h3 c hc]
 ·obtain⟨y,d,h1,h2,h3,h5,h6,h7⟩:=hI
  obtain⟨T,ds'⟩:=a
  simp only at h5 h6
  subst h5
  have hall:∀i,i<ops.size→l.getD i false=true:=fun i hi=>by
   have:=left_zero hl (l[i]'(by omega)) (Array.getElem_mem _)
   simpa [Array.getD,h1,hi] using this
  have hT:=h6.all hB hall
  subst hT
  refine⟨?_,hfin d y w1 (fun c hc=>by rw [← h3 c hc];exact hall c (hcin c hc)) h7⟩
  apply List.eq_nil_iff_forall_not_mem.2
  intro i hi
  rw [mem_ready] at hi
  obtain⟨hu,o,ho,_⟩:=hi
  have:=hall i (Array.getElem?_eq_some_iff.1 ho).1
  rw [getD_tf hu] at this
  cases this
 ·obtain⟨y,hy⟩:=h0
  refine⟨y,fun _=>false,by simp,fun i o hl _ _ _ _=>(by rw [hrep] at hl;cases hl),fun c hc=>hrep c,rfl,⟨rfl,fun i o d hl _ _=>(by rw [hrep] at hl;cases hl),fun d _=>rfl⟩,hy⟩
theorem wp_plan {id:Nat}(hm:P.follows .mixedOrders=true)(T0:Array Value)(ds:List Deferred)(cs:List Nat)(M:List (List Nat))(vs:(Nat→Value)→Nat→Value)(PW:(Nat→Bool)→(Nat→Value)→World→Prop)(w:World)
  (hB:dstB ops T0.size=true) (hbw:backB ops=true) (hM:maskB ops M=true) (hcin:∀c∈cs,c<ops.size)
  (hfix:∀c∈cs,∀i,i≠c→(M.getD i []).contains c=false→∀y v,vs (upd y c v) i=vs y i)
  (hplain:∀i,i<ops.size→Plain P ops Q T0 ds cs M vs PW i)
  (hchg:∀c∈cs,Chg P ops Q T0 ds cs M vs PW c)
  (h0:∃y,PW (fun _=>false) y w.drew)
  (hfin:∀d y w',(∀c∈cs,d c=true)→PW d y w'→Q .normal ⟨planT ops T0 (vs y) ops.size,ds⟩ w') :
  (Code.region id ops true).wp P Q ⟨T0,ds⟩ w:=
 wp_region_any hm (any_plan T0 ds cs M vs PW w hB hbw hM hcin hfix hplain hchg h0 hfin)
end
end Go.Proofs.YthogppennalobaaGreatDoor.Pl
namespace Go.Proofs.YthogppennalobaaGreatDoor.Pl
open Go.RowKit Go.Sort
section
variable {P:Program} {ops:Array Oper} {Q:Exit→Act→World→Prop}
theorem wpOp_skip {i:Nat}{o:Oper}{K:Act→World→Prop}{a:Act}{w:World}(hi:ops[i]?=some o)(hg:Region.wanted o (yielded ops a.tmps)=false)(h:K (a.put o.dst undef) w): wpOp P ops Q i K a w:=by
 unfold wpOp
 simp only [hi]
 rw [if_neg (by simp [hg])]
 exact h
def readsB (ops:Array Oper)(i d k:Nat): Bool:=match ops[i]?,ops[k]? with
 |some o,some o'=>o'.dst == some d&&o.after.any fun e=>e.on == k&&Region.binds .any e
 |_,_=>false
def freeB (ops:Array Oper)(d:Nat): Bool:=ops.all fun o=>o.dst != some d
theorem Known.val {T0 T:Array Value}{v:Nat→Value}{o:Oper}{i d k:Nat}(h:Known ops T0 v o T)(ho:ops[i]?=some o)(hr:readsB ops i d k=true): T.getD d undef=v k:=by
 unfold readsB at hr
 rw [ho] at hr
 cases hk:ops[k]? with
 |none=>rw [hk] at hr;cases hr
 |some o'=>
  rw [hk] at hr
  simp only [Bool.and_eq_true,beq_iff_eq,Array.any_eq_true] at hr
  obtain⟨hd,m,hm,he,hb⟩:=hr
  have:=h.1 _ (Array.getElem_mem hm) hb o' d (by rw [he];exact hk) hd
  rw [he] at this
  exact this
theorem Known.old {T0 T:Array Value}{v:Nat→Value}{o:Oper}{d:Nat}(h:Known ops T0 v o T)(hf:freeB ops d=true): T.getD d undef=T0.getD d undef:=by
 refine h.2.1 d fun k o' hk hd=>?_
 unfold freeB at hf
 rw [Array.all_eq_true] at hf
 obtain⟨h1,h2⟩:=Array.getElem?_eq_some_iff.1 hk
 have:=hf k h1
 rw [h2,hd] at this
 simp at this
theorem op_core {i:Nat}{o:Oper}{dst:Option Tmp}{op:Go.Op}{ty:TypeId}{gd:Option (Nat×Bool)}(h:(ops[i]?).map (fun o=>(o.dst,o.op,o.type,o.guard))=some (dst,op,ty,gd))(ho:ops[i]?=some o): ∃ps af,o=⟨dst,op,ty,ps,af,gd⟩:=by
 rw [ho] at h
 obtain⟨a,b,c,d,e,f⟩:=o
 simp only [Option.map_some,Option.some.injEq,Prod.mk.injEq] at h
 obtain⟨rfl,rfl,rfl,rfl⟩:=h
 exact⟨_,_,rfl⟩
theorem Known.is {T0 T:Array Value}{v:Nat→Value}{o:Oper}{i d:Nat}{x:Value}(h:Known ops T0 v o T)(k:Nat)(ho:ops[i]?=some o)(hr:readsB ops i d k=true)(hx:v k=x): T.getD d undef=x:=(h.val ho hr).trans hx
theorem Known.of {T0 T:Array Value}{v:Nat→Value}{o:Oper}{d:Nat}{x:Value}(h:Known ops T0 v o T)(hf:freeB ops d=true)(hx:T0.getD d undef=x): T.getD d undef=x:=(h.old hf).trans hx
theorem core {i:Nat}{o:Oper}(dst:Option Tmp)(op:Go.Op)(ty:TypeId)(gd:Option (Nat×Bool))(ho:ops[i]?=some o)(h:(ops[i]?).map (fun o=>(o.dst,o.op,o.type,o.guard))=some (dst,op,ty,gd)): ∃ps af,o=⟨dst,op,ty,ps,af,gd⟩:=op_core h ho
theorem getD_some {T:Array Value}{d:Nat}{v:Value}(h:T.getD d undef=v)(hv:v≠undef): T[d]?=some v:=by
 simp only [Array.getD] at h
 by_cases hd:d<T.size
 ·simp only [hd,dif_pos] at h
  rw [Array.getElem?_eq_getElem hd]
  exact congrArg some h
 ·simp only [hd,dif_neg,not_false_eq_true] at h
  exact absurd h.symm hv
theorem wanted_of {o:Oper}{T:Array Value}{j d:Nat}{b wb:Bool}(hg:o.guard=some (j,wb))(hd:(ops[j]?).bind (·.dst)=some d)(hT:T.getD d undef = .bool b): Region.wanted o (yielded ops T)=(b == wb):=by
 unfold Region.wanted yielded
 rw [hg]
 simp only [hd,Option.bind_some,getD_some hT (by intro h;cases h)]
 cases b<;>cases wb<;>rfl
theorem wpOp_want {i:Nat}{o:Oper}{K:Act→World→Prop}{a:Act}{w:World}(hi:ops[i]?=some o)(hg:Region.wanted o (yielded ops a.tmps)=true)(h:o.wp P a w K Q): wpOp P ops Q i K a w:=by
 unfold wpOp
 simp only [hi]
 rw [if_pos hg]
 exact .inl h
theorem wpOp_plain {i:Nat}{o:Oper}{K:Act→World→Prop}{a:Act}{w:World}(hi:ops[i]?=some o)(hg:o.guard=none)(h:o.wp P a w K Q): wpOp P ops Q i K a w:=by
 unfold wpOp
 simp only [hi]
 rw [if_pos (by unfold Region.wanted;rw [hg])]
 exact .inl h
theorem all_step {F:Nat→Prop}{n:Nat}(h:∀i,i<n→F i)(hn:F n): ∀i,i<n+1→F i:=fun i hi=>by
 rcases Nat.lt_succ_iff_lt_or_eq.1 hi with h1 | rfl
 ·exact h i h1
 ·exact hn
theorem all_zero {F:Nat→Prop}: ∀i,i<0→F i:=fun i hi=>absurd hi (Nat.not_lt_zero i)
def mkV (V:List ((Nat×(Value→Value)) ⊕ Value))(y:Nat→Value)(i:Nat): Value:=match V[i]? with
 |some (.inl (k,g))=>g (y k)
 |some (.inr v)=>v
 |none=>undef
def depB (M:List (List Nat))(V:List ((Nat×(Value→Value)) ⊕ Value)): Bool:=(List.range V.length).all fun i=>match V[i]? with
 |some (.inl (k,_))=>i == k||(M.getD i []).contains k
 |_=>true
theorem mkV_fix {M:List (List Nat)}{V:List ((Nat×(Value→Value)) ⊕ Value)}(h:depB M V=true){i c:Nat}(hi:i≠c)(ha:(M.getD i []).contains c=false)(y:Nat→Value)(v:Value): mkV V (upd y c v) i=mkV V y i:=by
 unfold mkV
 cases hv:V[i]? with
 |none=>rfl
 |some x=>
  cases x with
  |inr z=>rfl
  |inl kg=>
   obtain⟨k,g⟩:=kg
   show g (upd y c v k)=g (y k)
   refine congrArg g ?_
   unfold upd
   rw [if_neg fun e=>?_]
   subst e
   unfold depB at h
   rw [List.all_eq_true] at h
   have:=h i (List.mem_range.2 (List.getElem?_eq_some_iff.1 hv).1)
   rw [hv] at this
   simp only [Bool.or_eq_true,beq_iff_eq] at this
   rcases this with e | e
   ·exact hi e
   ·rw [ha] at e
    cases e
section
variable {T0 T:Array Value} {W:List ((Nat×(Value→Value)) ⊕ Value)} {y:Nat→Value} {o:Oper} {i:Nat} {ds:List Deferred} {w:World}
theorem pl1 (dst s k:Nat)(ty:TypeId){op:Go.Op}{x v:Value}(ho:ops[i]?=some o)(hK:Known ops T0 (mkV W y) o T)(hc:(ops[i]?).map (fun o=>(o.dst,o.op,o.type,o.guard))=some (some dst,op,ty,none))(hr:readsB ops i s k=true)(hk:mkV W y k=x)(hi:mkV W y i=v)(h:∀ps af,T.getD s undef=x→Oper.wp P ⟨some dst,op,ty,ps,af,none⟩ ⟨T,ds⟩ w (fun a' w''=>a'=Act.put ⟨T,ds⟩ (some dst) v∧w''=w) Q): wpOp P ops Q i (fun a' w''=>a'=Act.put ⟨T,ds⟩ o.dst (mkV W y i)∧w''=w) ⟨T,ds⟩ w:=by
 obtain⟨ps,af,rfl⟩:=op_core hc ho
 subst hk hi
 exact wpOp_plain ho rfl (h ps af (hK.val ho hr))
theorem pl0 (dst s:Nat)(ty:TypeId){op:Go.Op}{x v:Value}(ho:ops[i]?=some o)(hK:Known ops T0 (mkV W y) o T)(hc:(ops[i]?).map (fun o=>(o.dst,o.op,o.type,o.guard))=some (some dst,op,ty,none))(hr:freeB ops s=true)(hk:T0.getD s undef=x)(hi:mkV W y i=v)(h:∀ps af,T.getD s undef=x→Oper.wp P ⟨some dst,op,ty,ps,af,none⟩ ⟨T,ds⟩ w (fun a' w''=>a'=Act.put ⟨T,ds⟩ (some dst) v∧w''=w) Q): wpOp P ops Q i (fun a' w''=>a'=Act.put ⟨T,ds⟩ o.dst (mkV W y i)∧w''=w) ⟨T,ds⟩ w:=by
 obtain⟨ps,af,rfl⟩:=op_core hc ho
 subst hi
 exact wpOp_plain ho rfl (h ps af ((hK.old hr).trans hk))
theorem pg1 (j d:Nat)(b:Bool)(dst s k:Nat)(ty:TypeId){op:Go.Op}{x v:Value}(ho:ops[i]?=some o)(hK:Known ops T0 (mkV W y) o T)(hc:(ops[i]?).map (fun o=>(o.dst,o.op,o.type,o.guard))=some (some dst,op,ty,some (j,b)))(hd:(ops[j]?).bind (·.dst)=some d)(hrj:readsB ops i d j=true)(hj:mkV W y j = .bool b)(hr:readsB ops i s k=true)(hk:mkV W y k=x)(hi:mkV W y i=v)(h:∀ps af,T.getD s undef=x→Oper.wp P ⟨some dst,op,ty,ps,af,some (j,b)⟩ ⟨T,ds⟩ w (fun a' w''=>a'=Act.put ⟨T,ds⟩ (some dst) v∧w''=w) Q): wpOp P ops Q i (fun a' w''=>a'=Act.put ⟨T,ds⟩ o.dst (mkV W y i)∧w''=w) ⟨T,ds⟩ w:=by
 obtain⟨ps,af,rfl⟩:=op_core hc ho
 subst hk hi
 exact wpOp_want ho ((wanted_of (d:=d) (b:=b) rfl hd ((hK.val ho hrj).trans hj)).trans (by simp)) (h ps af (hK.val ho hr))
theorem pg0 (j d:Nat)(b:Bool)(dst s:Nat)(ty:TypeId){op:Go.Op}{x v:Value}(ho:ops[i]?=some o)(hK:Known ops T0 (mkV W y) o T)(hc:(ops[i]?).map (fun o=>(o.dst,o.op,o.type,o.guard))=some (some dst,op,ty,some (j,b)))(hd:(ops[j]?).bind (·.dst)=some d)(hrj:readsB ops i d j=true)(hj:mkV W y j = .bool b)(hr:freeB ops s=true)(hk:T0.getD s undef=x)(hi:mkV W y i=v)(h:∀ps af,T.getD s undef=x→Oper.wp P ⟨some dst,op,ty,ps,af,some (j,b)⟩ ⟨T,ds⟩ w (fun a' w''=>a'=Act.put ⟨T,ds⟩ (some dst) v∧w''=w) Q): wpOp P ops Q i (fun a' w''=>a'=Act.put ⟨T,ds⟩ o.dst (mkV W y i)∧w''=w) ⟨T,ds⟩ w:=by
 obtain⟨ps,af,rfl⟩:=op_core hc ho
 subst hi
 exact wpOp_want ho ((wanted_of (d:=d) (b:=b) rfl hd ((hK.val ho hrj).trans hj)).trans (by simp)) (h ps af ((hK.old hr).trans hk))
theorem psk (j d:Nat)(b wb:Bool)(ho:ops[i]?=some o)(hK:Known ops T0 (mkV W y) o T)(hc:(ops[i]?).map (·.guard)=some (some (j,wb)))(hd:(ops[j]?).bind (·.dst)=some d)(hrj:readsB ops i d j=true)(hj:mkV W y j = .bool b)(hb:(b == wb)=false)(hi:mkV W y i=undef): wpOp P ops Q i (fun a' w''=>a'=Act.put ⟨T,ds⟩ o.dst (mkV W y i)∧w''=w) ⟨T,ds⟩ w:=by
 rw [hi]
 rw [ho] at hc
 exact wpOp_skip ho ((wanted_of (d:=d) (b:=b) (by simpa using hc) hd ((hK.val ho hrj).trans hj)).trans hb) ⟨rfl,rfl⟩
theorem k_mv {ty:TypeId}{dst:Option Tmp}{s:Nat}{ps af g}{x:Value}(e:T.getD s undef=x): Oper.wp P ⟨dst,.move (.tmp s),ty,ps,af,g⟩ ⟨T,ds⟩ w (fun a' w''=>a'=Act.put ⟨T,ds⟩ dst x∧w''=w) Q:=by
 subst e
 exact⟨rfl,rfl⟩
theorem k_as {ty:TypeId}{dst:Option Tmp}{s:Nat}{ps af g}{x:Value}(e:T.getD s undef=x): Oper.wp P ⟨dst,.assign (.tmp s),ty,ps,af,g⟩ ⟨T,ds⟩ w (fun a' w''=>a'=Act.put ⟨T,ds⟩ dst x∧w''=w) Q:=by
 subst e
 exact⟨rfl,rfl⟩
theorem k_nc {ty:TypeId}{dst:Option Tmp}{s:Nat}{ps af g}{x:Addr}(e:T.getD s undef = .pointer (some x)): Oper.wp P ⟨dst,.nilCheck (.tmp s),ty,ps,af,g⟩ ⟨T,ds⟩ w (fun a' w''=>a'=Act.put ⟨T,ds⟩ dst (.pointer (some x))∧w''=w) Q:=by
 go_simp
end
end
end Go.Proofs.YthogppennalobaaGreatDoor.Pl
namespace Go.Proofs.YthogppennalobaaGreatDoor
open Go.RowKit Go.Sort Forest
def fV:Option Nat→Value
 |none=> .pointer none
 |some g=>kpt g
def ndC (n:Nd)(sv av up:Value): Array Value:=#[.int .i64 (n.id:Int),.int .i64 n.kind,.int .i64 (n.parent:Int),txt n.subject,txt n.client,txt n.audience,sv,.int .i64 n.born,.int .i64 n.exp,.bool n.dead,.bool n.spent,av,.int .i64 n.level,txt n.secret,txt n.data,up]
abbrev Ns:=List (Nat×Nd)
def nodes (ns:Ns): List Nd:=ns.map (·.2)
def blockI (ns:Ns)(id:Int): Option Nat:=(ns.find? fun k=>(k.2.id:Int) == id).map (·.1)
def Tx (w:World)(v:Value)(l:List Bs): Prop:=∃a c,v = .slice a l.length c∧(∀i (h:i<l.length),∃b o,a=some ⟨b,o,none⟩∧w.cell? ⟨b,o+i,none⟩=some (txt l[i]))∧∀q,v.ownBlock=some q→∃cs,Bk 9 w q cs
theorem Tx.of {w:World}{B:Nat}{v:Value}{l:List Bs}(h:w.ownsRow B 9 1 v l.length (l.map txt)): Tx w v l:=by
 obtain⟨a,c,rfl⟩:=OwnR.owns_shape h
 refine⟨a,c,rfl,fun i hi=>?_,fun q hq=>(OwnR.owns_block h hq).2⟩
 obtain⟨g,rfl,hg⟩:=OwnR.owns_cell h (i:=i) (v:=txt l[i]) (by rw [List.getElem?_map,List.getElem?_eq_getElem hi];rfl)
 exact⟨g,0,rfl,by simpa using hg⟩
namespace TxO
theorem owns_shape {w:World}{v:Value}{l:List Bs}(h:Tx w v l): ∃a c,v = .slice a l.length c:=by
 obtain⟨a,c,e,_⟩:=h
 exact⟨a,c,e⟩
theorem owns_of {w w':World}{v:Value}{l:List Bs}(h:Tx w v l)(e:∀g,v.ownBlock=some g→g<w.heap.size→w'.heap[g]?=w.heap[g]?): Tx w' v l:=by
 obtain⟨a,c,rfl,h1,h2⟩:=h
 have hb:∀q,(Value.slice a l.length c).ownBlock=some q→w'.heap[q]?=w.heap[q]?:=fun q hq=>by
  obtain⟨cs,hc⟩:=h2 q hq
  exact e q hq hc.lt
 refine⟨a,c,rfl,fun i hi=>?_,fun q hq=>?_⟩
 ·obtain⟨b,o,rfl,h3⟩:=h1 i hi
  exact⟨b,o,rfl,(World.cell?_of_block (w:=w) (hb b rfl)).trans h3⟩
 ·obtain⟨cs,hc⟩:=h2 q hq
  exact⟨cs,(hb q hq).trans hc⟩
theorem owns_below {w w':World}{v:Value}{l:List Bs}(h:Tx w v l)(hb:Below w.heap.size w w'): Tx w' v l:=owns_of h fun g _ hg=>hb.block g hg
theorem owns_only {w w':World}{L:List Nat}{v:Value}{l:List Bs}(h:Tx w v l)(ho:Only L w w')(hL:∀g,v.ownBlock=some g→g∉L): Tx w' v l:=owns_of h fun g hg hl=>ho.block g hl (hL g hg)
theorem owns_block {w:World}{v:Value}{l:List Bs}{g:Nat}(h:Tx w v l)(hg:v.ownBlock=some g): 0≤g∧∃cur,Bk 9 w g cur:=by
 obtain⟨a,c,rfl,_,h2⟩:=h
 exact⟨Nat.zero_le _,h2 g hg⟩
theorem owns_ne {w:World}{v:Value}{l:List Bs}{b:Nat}{t:TypeId}{cs:Array Value}(h:Tx w v l)(hb:Bk t w b cs)(ht:t≠9): v.ownBlock≠some b:=fun hg=>by
 obtain⟨_,cur,hc⟩:=owns_block h hg
 exact bk_ne hb hc ht rfl
end TxO
open OwnR TxO
theorem Tx.below {w w':World}{v:Value}{l:List Bs}(h:Tx w v l)(hb:Below w.heap.size w w'): Tx w' v l:=TxO.owns_below h hb
def NdB (w:World)(ns:Ns)(k:Nat×Nd): Prop:=∃sv av,Bk 75 w k.1 (ndC k.2 sv av (fV (blockI ns k.2.parent)))∧Tx w sv k.2.scope∧Tx w av k.2.actors
structure FR (w:World)(f:Nat)(ns:Ns)(nx:Int): Prop where
 ok:Ok (nodes ns)
 obj:∃a c,Bk 71 w f #[.slice a ns.length c,.int .i64 nx]∧w.ownsRow 0 72 1 (.slice a ns.length c) ns.length (ns.map fun k=>kpt k.1)
 node:∀k∈ns,NdB w ns k
theorem NdB.below {w w':World}{ns:Ns}{k:Nat×Nd}(h:NdB w ns k)(hb:Below w.heap.size w w'): NdB w' ns k:=by
 obtain⟨sv,av,h1,h2,h3⟩:=h
 exact⟨sv,av,h1.below hb,h2.below hb,h3.below hb⟩
theorem FR.below {w w':World}{f:Nat}{ns:Ns}{nx:Int}(h:FR w f ns nx)(hb:Below w.heap.size w w'): FR w' f ns nx:=by
 obtain⟨a,c,h1,h2⟩:=h.obj
 exact⟨h.ok,⟨a,c,h1.below hb,owns_below h2 hb⟩,fun k hk=>(h.node k hk).below hb⟩
theorem FR.cells {w:World}{f:Nat}{ns:Ns}{nx:Int}(h:FR w f ns nx): ∃a c,w.cell? ⟨f,0,none⟩=some (.slice a ns.length c)∧w.cell? ⟨f,1,none⟩=some (.int .i64 nx)∧
  ∀i (hi:i<ns.length),∃g,a=some ⟨g,0,none⟩∧w.cell? ⟨g,i,none⟩=some (kpt ns[i].1):=by
 obtain⟨a,c,h1,h2⟩:=h.obj
 exact⟨a,c,h1.cell 0,h1.cell 1,fun i hi=>owns_cell h2 (by rw [List.getElem?_map,List.getElem?_eq_getElem hi];rfl)⟩
theorem ok_lt:∀ {l:List Nd},Ok l→∀i j (hi:i<l.length) (hj:j<l.length),i<j→l[i].id<l[j].id
 |a::l,h,0,j+1,hi,hj,_=>h.2.2.1 _ (List.getElem_mem _)
 |a::l,h,i+1,j+1,hi,hj,hij=>ok_lt h.2.2.2 i j (by simpa using hi) (by simpa using hj) (by omega)
def idAt (ns:Ns)(i:Nat): Int:=((ns.map fun k=>(k.2.id:Int)).getD i 0)
theorem idAt_lt {ns:Ns}{i:Nat}(hi:i<ns.length): idAt ns i=(ns[i].2.id:Int):=by
 unfold idAt
 rw [List.getD_eq_getElem?_getD,List.getElem?_map,List.getElem?_eq_getElem hi];rfl
theorem ids_rise {ns:Ns}(h:Ok (nodes ns)){i j:Nat}(hj:j<ns.length)(hij:i<j): idAt ns i<idAt ns j:=by
 rw [idAt_lt (by omega),idAt_lt hj]
 have:=ok_lt h i j (by simp [nodes];omega) (by simp [nodes];omega) hij
 simp only [nodes,List.getElem_map] at this
 omega
def Sch (ns:Ns)(id:Int)(i:Nat): Prop:=i≤ns.length∧(∀j,j<i→idAt ns j<id)∧∀j,i≤j→j<ns.length→id≤idAt ns j
theorem search_cmp (n:Nat)(x y:Int)(w:World)(g:Nat)(h:w.cell? ⟨g,0,none⟩=some (.int .i64 x)): Calls Tryz.prog 98 #[kpt g,.int .i64 y] w fun e w'=>e = .returned (.int .i64 (if x<y then -1 else if y<x then 1 else 0))∧w'=w:=by
 unfold kpt
 by_cases h1:x<y
 ·rw [if_pos h1]
  go_enter Tryz.func98,Tryz.ntmps98
  go_wp2
  go_ret
  exact⟨rfl,rfl⟩
 ·rw [if_neg h1]
  by_cases h2:y<x
  ·rw [if_pos h2]
   go_enter Tryz.func98,Tryz.ntmps98
   go_wp2
   go_ret
   exact⟨rfl,rfl⟩
  ·rw [if_neg h2]
   go_enter Tryz.func98,Tryz.ntmps98
   go_wp2
   go_ret
   exact⟨rfl,rfl⟩
def intOf:Value→Int
 |.int _ n=>n
 |_=>0
def cmpI (x y:Int): Int:=if x<y then -1 else if y<x then 1 else 0
theorem cmpI_lt {x y:Int}: (cmpI x y<0)↔x<y:=by
 unfold cmpI
 split
 ·omega
 ·split<;>omega
theorem cmpI_eq {x y:Int}: (cmpI x y=0)↔x=y:=by
 unfold cmpI
 split
 ·omega
 ·split<;>omega
theorem search_at {w:World}{ns:Ns}{a:Option Addr}(c:Nat)(hok:Ok (nodes ns))(hl:ns.length≤1000000)(hc:∀i (hi:i<ns.length),∃g,a=some ⟨g,0,none⟩∧w.cell? ⟨g,i,none⟩=some (kpt ns[i].1))
  (hn:∀k∈ns,w.cell? ⟨k.1,0,none⟩=some (.int .i64 (k.2.id:Int))) (id:Int) :
  Calls Tryz.prog 97 #[.slice a ns.length c,.int .i64 id,.func (.func 98) #[] #[]] w fun e w'=>w'=w∧∃i:Nat,Sch ns id i∧e = .returned (.tuple #[.int .i64 (i:Int),.bool (decide (i<ns.length)&&decide (idAt ns i=id))]):=by
 have HC:=Lib.hid hc
 have HN:=Lib.hid hn
 have HO:=Lib.hid hok
 clear hc hn hok
 go_enter Tryz.func97,Tryz.ntmps97
 go_wp2_with fail
 go_loopw [9,10] (fun iv jv wr=>∃i j:Nat,iv = .int .i64 (i:Int)∧jv = .int .i64 (j:Int)∧wr=w∧i≤j∧j≤ns.length∧Hid ((∀q,q<i→idAt ns q<id)∧∀q,j≤q→q<ns.length→id≤idAt ns q)) (fun iv jv _=>(intOf jv - intOf iv).toNat)
 case atStart=>exact⟨0,ns.length,rfl,rfl,rfl,Nat.zero_le _,Nat.le_refl _,Lib.hid ⟨fun q hq=>by omega,fun q h1 h2=>by omega⟩⟩
 case round=>
  obtain⟨i,j,rfl,rfl,rfl,hij,hj,HI⟩:=hrel
  by_cases hlt:i<j
  ·have hmj:(i+j) / 2<j:=by omega
   have him:i≤(i+j) / 2:=by omega
   have hml:(i+j) / 2<ns.length:=by omega
   obtain⟨g,rfl,hcell⟩:=HC.out _ hml
   obtain⟨k,hk⟩:∃k,ns[(i+j) / 2]=k:=⟨_,rfl⟩
   have hkm:k∈ns:=hk▸List.getElem_mem hml
   have hid0:=HN.out k hkm
   have hat:Hid (idAt ns ((i+j) / 2)=(k.2.id:Int)):=Lib.hid (by rw [idAt_lt hml,hk])
   rw [hk] at hcell
   unfold kpt at hcell
   clear hk hkm
   generalize k.1=kb at *
   generalize (k.2.id:Int)=x at *
   have hltI:(i:Int)<(j:Int):=by omega
   have HM:=Lib.hid (And.intro hmj him)
   have hcmp:Calls Tryz.prog 98 #[.pointer (some ⟨kb,0,none⟩),.int .i64 id] wr fun e w'=>e = .returned (.int .i64 (cmpI x id))∧w'=wr:=search_cmp 0 x id wr kb hid0
   have HL:=Lib.hid (⟨cmpI_lt,HO.out⟩:(cmpI x id<0↔x<id)∧Ok (nodes ns))
   generalize cmpI x id=cv at *
   clear hmj him hid0 HO
   by_cases hcv:cv<0
   ·go_wp2_with (go_at_call 98;refine hcmp.mono ?_;rintro e w' ⟨rfl,rfl⟩)
    go_roundw
    case rel=>
     refine⟨(i+j) / 2+1,j,by go_num,rfl,trivial,by have:=HM.out;omega,hj,Lib.hid ⟨fun q hq=>?_,HI.out.2⟩⟩
     by_cases hq2:q=(i+j) / 2
     ·rw [hq2,hat.out];exact HL.out.1.1 hcv
     ·have:=ids_rise HL.out.2 hml (show q<(i+j) / 2 by omega)
      rw [hat.out] at this
      have:=HL.out.1.1 hcv
      omega
    case measure=>simp [intOf];omega
   ·go_wp2_with (go_at_call 98;refine hcmp.mono ?_;rintro e w' ⟨rfl,rfl⟩)
    go_roundw
    case rel=>
     refine⟨i,(i+j) / 2,rfl,by go_num,trivial,HM.out.2,by omega,Lib.hid ⟨HI.out.1,fun q h1 h2=>?_⟩⟩
     have hx:¬x<id:=fun h=>by have:=HL.out.1.2 h;omega
     by_cases hq2:q=(i+j) / 2
     ·rw [hq2,hat.out];omega
     ·have:=ids_rise HL.out.2 h2 (show(i+j) / 2<q by omega)
      rw [hat.out] at this
      omega
    case measure=>have:=HM.out;simp [intOf];omega
  ·obtain rfl:i=j:=by omega
   have hltI:¬(i:Int)<(i:Int):=by omega
   have HS:Hid (Sch ns id i):=Lib.hid ⟨hj,HI.out.1,HI.out.2⟩
   clear HI
   by_cases hin:i<ns.length
   ·have hinI:(i:Int)<(ns.length:Int):=by omega
    obtain⟨g,rfl,hcell⟩:=HC.out _ hin
    obtain⟨k,hk⟩:∃k,ns[i]=k:=⟨_,rfl⟩
    have hkm:k∈ns:=hk▸List.getElem_mem hin
    have hid0:=HN.out k hkm
    have hat:Hid (idAt ns i=(k.2.id:Int)):=Lib.hid (by rw [idAt_lt hin,hk])
    rw [hk] at hcell
    unfold kpt at hcell
    clear hk hkm
    generalize k.1=kb at *
    generalize (k.2.id:Int)=x at *
    have hcmp:Calls Tryz.prog 98 #[.pointer (some ⟨kb,0,none⟩),.int .i64 id] wr fun e w'=>e = .returned (.int .i64 (cmpI x id))∧w'=wr:=search_cmp 0 x id wr kb hid0
    have HL:=Lib.hid (cmpI_eq:(cmpI x id=0↔x=id))
    generalize cmpI x id=cv at *
    clear hid0
    have HR:Hid ((decide (i<ns.length)&&decide (idAt ns i=id))=decide (cv=0)):=Lib.hid (by
     rw [decide_eq_true hin,hat.out,Bool.true_and]
     simp only [HL.out])
    generalize hbv:decide (cv=0)=bv at HR
    have hbq:(cv == 0)=bv:=by rw [← hbv];by_cases h:cv=0<;>simp [h]
    have HB:=Lib.hid hbv
    clear hbv
    go_wp2_with (go_at_call 98;refine hcmp.mono ?_;rintro e w' ⟨rfl,rfl⟩)
    go_ret2
    exact⟨rfl,i,HS.out,by rw [HR.out];rfl⟩
   ·have hinI:¬(i:Int)<(ns.length:Int):=by omega
    have HR:Hid ((decide (i<ns.length)&&decide (idAt ns i=id))=false):=Lib.hid (by rw [decide_eq_false hin,Bool.false_and])
    go_wp2_with fail
    go_ret2
    exact⟨rfl,i,HS.out,by rw [HR.out];rfl⟩
theorem FR.id0 {w:World}{f:Nat}{ns:Ns}{nx:Int}(h:FR w f ns nx): ∀k∈ns,w.cell? ⟨k.1,0,none⟩=some (.int .i64 (k.2.id:Int)):=fun k hk=>by
 obtain⟨sv,av,h1,_⟩:=h.node k hk
 exact h1.cell 0
theorem blockI_of {ns:Ns}{id:Int}{i:Nat}(h:Sch ns id i)(hi:i<ns.length)(e:idAt ns i=id): blockI ns id=some ns[i].1:=by
 have h1:ns.find? (fun k=>(k.2.id:Int) == id)=some ns[i]:=by
  rw [List.find?_eq_some_iff_getElem]
  refine⟨by rw [← idAt_lt hi,e];simp,i,hi,rfl,fun j hj=>?_⟩
  have:=h.2.1 j hj
  rw [idAt_lt (by omega)] at this
  simp
  omega
 unfold blockI
 rw [h1];rfl
theorem blockI_none {ns:Ns}{id:Int}(h:∀i,i<ns.length→idAt ns i≠id): blockI ns id=none:=by
 unfold blockI
 rw [List.find?_eq_none.2];· rfl
 intro k hk
 obtain⟨i,hi,rfl⟩:=List.getElem_of_mem hk
 have:=h i hi
 rw [idAt_lt hi] at this
 simpa using this
theorem at_any {w:World}{f:Nat}{ns:Ns}{nx:Int}(h:FR w f ns nx)(hl:ns.length≤1000000)(id:Int): Calls Tryz.prog 62 #[kpt f,.int .i64 id] w fun e w'=>e = .returned (fV (blockI ns id))∧w'=w:=by
 obtain⟨a,c,h0,_,hc⟩:=h.cells
 have HS:=Lib.hid (search_at c h.ok hl hc h.id0 id)
 have HC:=Lib.hid hc
 have HO:=Lib.hid h.ok
 clear hc h
 unfold kpt
 go_enter Tryz.func62,Tryz.ntmps62
 go_wp2_with fail
 refine HS.out.mono ?_
 rintro e w1 ⟨rfl,i,hs,rfl⟩
 clear HS
 by_cases hi:i<ns.length
 ·by_cases he:idAt ns i=id
  ·obtain⟨g,rfl,hcell⟩:=HC.out i hi
   have HB:=Lib.hid (blockI_of hs hi he)
   have hiI:(i:Int)<(ns.length:Int):=by omega
   rw [decide_eq_true hi,decide_eq_true he]
   unfold kpt at hcell
   clear hs he
   go_wp2_with fail
   go_ret
   exact⟨by rw [HB.out];rfl,rfl⟩
  ·have HB:Hid (blockI ns id=none):=Lib.hid (blockI_none fun j hj e=>by
    rcases Nat.lt_trichotomy j i with h1 | rfl | h1
    ·have:=hs.2.1 j h1;omega
    ·exact he e
    ·have:=hs.2.2 i (Nat.le_refl _) hi
     have:=ids_rise HO.out hj h1
     omega)
   rw [decide_eq_false he,Bool.and_false]
   clear hs he
   go_wp2_with fail
   go_ret
   exact⟨by rw [HB.out];rfl,rfl⟩
 ·have HB:Hid (blockI ns id=none):=Lib.hid (blockI_none fun j hj e=>by
   have:=hs.2.1 j (by omega)
   omega)
  rw [decide_eq_false hi,Bool.false_and]
  clear hs
  go_wp2_with fail
  go_ret
  exact⟨by rw [HB.out];rfl,rfl⟩
theorem struck_none {l:List Nd}{id:Nat}(h:at' l id=none): struck l id=false:=by rw [struck,path_none h];rfl
theorem struck_up {l:List Nd}(h:Ok l){n:Nd}(hn:n∈l): struck l n.id=(n.dead||struck l n.parent):=by rw [struck,path_some h hn];rfl
theorem blockI_some {ns:Ns}{id:Nat}{g:Nat}(h:blockI ns (id:Int)=some g): ∃k∈ns,k.1=g∧k.2.id=id:=by
 unfold blockI at h
 cases e:ns.find? fun k=>(k.2.id:Int) == (id:Int) with
 |none=>rw [e] at h;cases h
 |some k=>
  rw [e] at h
  cases h
  have h1:=List.find?_some e
  simp at h1
  exact⟨k,List.mem_of_find?_eq_some e,rfl,by omega⟩
theorem blockI_at {ns:Ns}{id:Nat}(h:blockI ns (id:Int)=none): at' (nodes ns) id=none:=by
 unfold blockI at h
 rw [Option.map_eq_none_iff,List.find?_eq_none] at h
 refine List.find?_eq_none.2 fun n hn=>?_
 obtain⟨k,hk,rfl⟩:=List.mem_map.1 hn
 have:=h k hk
 simp at this ⊢
 omega
theorem mem_nodes {ns:Ns}{k:Nat×Nd}(h:k∈ns): k.2∈nodes ns:=List.mem_map.2 ⟨k,h,rfl⟩
theorem isWhole_any {w:World}{f:Nat}{ns:Ns}{nx:Int}(h:FR w f ns nx)(id:Nat)(x:Value): Calls Tryz.prog 65 #[fV (blockI ns (id:Int)),x] w fun e w'=>e = .returned (.bool (!struck (nodes ns) id))∧w'=w:=by
 have HF:=Lib.hid h
 clear h
 go_enter Tryz.func65,Tryz.ntmps65
 go_wp2_with fail
 go_loopg [0] (id+1) (fun gg pv wr=>∃m:Nat,m+1≤gg∧pv=fV (blockI ns (m:Int))∧wr=w∧Hid (struck (nodes ns) id=struck (nodes ns) m))
 case atStart=>exact⟨id,Nat.le_refl _,rfl,rfl,Lib.hid rfl⟩
 case round=>
  obtain⟨m,hm,rfl,rfl,HS⟩:=hrel
  cases hb:blockI ns (m:Int) with
  |none=>
   have HR:Hid (struck (nodes ns) id=false):=Lib.hid (by rw [HS.out,struck_none (blockI_at hb)])
   unfold fV
   clear hb HS
   go_wp2_with fail
   go_ret
   exact⟨by rw [HR.out];rfl,rfl⟩
  |some g=>
   obtain⟨k,hk,rfl,rfl⟩:=blockI_some hb
   obtain⟨sv,av,K⟩:=HF.out.node k hk
   have c9:=K.1.cell 9
   have c15:=K.1.cell 15
   unfold ndC at c9 c15
   simp only [List.getElem?_toArray,List.getElem?_cons_succ,List.getElem?_cons_zero] at c9 c15
   have HU:=Lib.hid (struck_up HF.out.ok (mem_nodes hk))
   have hp:=(HF.out.ok.mem (mem_nodes hk)).2
   unfold fV kpt
   clear hb K
   cases hd:k.2.dead with
   |true=>
    have HR:Hid (struck (nodes ns) id=true):=Lib.hid (by rw [HS.out,HU.out,hd];rfl)
    rw [hd] at c9
    clear hd HU HS
    go_wp2_with fail
    go_ret
    exact⟨by rw [HR.out];rfl,rfl⟩
   |false=>
    have HR:Hid (struck (nodes ns) id=struck (nodes ns) k.2.parent):=Lib.hid (by rw [HS.out,HU.out,hd];rfl)
    have HP:=Lib.hid hp
    rw [hd] at c9
    generalize hpv:fV (blockI ns (k.2.parent:Int))=pv at c15
    have HPV:=Lib.hid hpv
    clear hd HU HS hp hpv
    go_wp2_with fail
    go_roundg (k.2.parent+1)
    case rel=>exact⟨k.2.parent,Nat.le_refl _,HPV.out.symm,rfl,HR⟩
    case measure=>have:=HP.out;omega
theorem block_of {ns:Ns}(h:Ok (nodes ns)){k:Nat×Nd}(hk:k∈ns): blockI ns (k.2.id:Int)=some k.1:=by
 unfold blockI
 cases e:ns.find? fun q=>(q.2.id:Int) == (k.2.id:Int) with
 |none=>have:=List.find?_eq_none.1 e k hk;simp at this
 |some q=>
  have h1:=List.find?_some e
  have hq:=List.mem_of_find?_eq_some e
  simp at h1
  have h2:q.2.id=k.2.id:=by omega
  obtain⟨i,hi,rfl⟩:=List.getElem_of_mem hq
  obtain⟨j,hj,rfl⟩:=List.getElem_of_mem hk
  rcases Nat.lt_trichotomy i j with h3 | rfl | h3
  ·have:=ids_rise h hj h3
   rw [idAt_lt hi,idAt_lt hj] at this
   omega
  ·rfl
  ·have:=ids_rise h hi h3
   rw [idAt_lt hi,idAt_lt hj] at this
   omega
set_option maxHeartbeats 1000000 in
theorem isLive_any {w:World}{f:Nat}{ns:Ns}{nx:Int}(h:FR w f ns nx){k:Nat×Nd}(hk:k∈ns)(now:Int): Calls Tryz.prog 66 #[kpt k.1,.int .i64 now] w fun e w'=>e = .returned (.bool (liveN (nodes ns) now k.2))∧Below w.heap.size w w':=by
 have HW:=Lib.hid (fun W (hb:Below w.heap.size w W)=>isWhole_any (h.below hb) k.2.id (.int .i64 now))
 obtain⟨sv,av,K,_⟩:=h.node k hk
 have HB:=Lib.hid (block_of h.ok hk)
 have HK:=Lib.hid K
 have HL:Hid (liveN (nodes ns) now k.2=(!k.2.spent&&decide (now<k.2.exp)&&!struck (nodes ns) k.2.id)):=Lib.hid rfl
 rw [HB.out] at HW
 have c8:∀o,(w.alloc o).cell? ⟨k.1,8,none⟩=some (.int .i64 k.2.exp):=fun o=>K.alloc.cell 8
 have c10:∀o,(w.alloc o).cell? ⟨k.1,10,none⟩=some (.bool k.2.spent):=fun o=>K.alloc.cell 10
 generalize struck (nodes ns) k.2.id=s at *
 generalize liveN (nodes ns) now k.2=lv at *
 generalize k.2.spent=sp at *
 generalize k.2.exp=ex at *
 clear K HK HB h hk
 generalize k.1=g at *
 unfold kpt
 unfold fV kpt at HW
 go_enter Tryz.func66,Tryz.ntmps66
 go_wp2_with fail
 refine wp_loop_rounds 4 ?_
 rw [rounds_succ]
 cases sp with
 |true=>
  go_wp2_with go_in
  go_ret
  exact⟨by rw [HL.out];rfl,by go_grown⟩
 |false=>
  go_wp2_with go_in
  rw [rounds_succ]
  by_cases hx:now<ex
  ·go_wp2_with go_in
   rw [rounds_succ]
   go_wp2_with fail
   refine(HW.out _ (by go_grown)).mono ?_
   rintro e w' ⟨rfl,rfl⟩
   rw [decide_eq_true hx] at HL
   cases s with
   |true=>
    clear hx
    go_wp2_with fail
    go_ret
    exact⟨by rw [HL.out];rfl,by go_grown⟩
   |false=>
    clear hx
    go_wp2_with fail
    rw [rounds_succ]
    go_wp2_with fail
    go_ret
    exact⟨by rw [HL.out];rfl,by go_grown⟩
  ·rw [decide_eq_false hx] at HL
   go_wp2_with go_in
   go_ret
   exact⟨by rw [HL.out];rfl,by go_grown⟩
end Go.Proofs.YthogppennalobaaGreatDoor
