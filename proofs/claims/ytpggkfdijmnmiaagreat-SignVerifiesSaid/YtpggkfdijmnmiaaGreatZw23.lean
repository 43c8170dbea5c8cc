/- The drawn region of sign's fixed answers. No condition. -/
import Derived.Test.YtpggkfdijmnmiaaGreatZw17
import Derived.Lib.AppendZeros
set_option linter.unusedVariables false
set_option linter.unusedSimpArgs false
set_option maxRecDepth 100000
namespace Go.Proofs.YtpggkfdijmnmiaaGreat
namespace Pl
open Go.RowKit Go.Sort
section
variable {P:Program} {ops:Array Oper} {md:Region.Mode} {Q:Exit→Act→World→Prop}
def findR:Code→Nat→Option (Array Oper)
 |.region i os _,n=>if i=n then some os else none
 |.seq a b,n=>(findR a n).or (findR b n)
 |.cond _ a b,n=>(findR a n).or (findR b n)
 |.block _ a,n=>findR a n
 |.loop a,n=>findR a n
 |.scope a,n=>findR a n
 |_,_=>none
def left (l:Array Bool): Nat:=(l.toList.filter (fun x=>!x)).length
theorem left_set_list:∀(l:List Bool) (i:Nat) (h:i<l.length),l[i]=false→((l.set i true).filter (fun x=>!x)).length+1=(l.filter (fun x=>!x)).length
 |x::l,0,h,hx=>by
  have:x=false:=hx
  subst this;simp
 |x::l,i+1,h,hx=>by
  have ih:=left_set_list l i (by simpa using h) (by simpa using hx);cases x<;>simp [List.filter_cons]<;>omega
theorem left_set {l:Array Bool}{i:Nat}(h:l.getD i true=false): left (l.setIfInBounds i true)+1=left l:=by
 have hi:i<l.size:=by
  rcases Nat.lt_or_ge i l.size with h' | h'
  ·exact h'
  ·simp [Array.getElem?_eq_none h'] at h
 have hx:l[i]=false:=by simpa [hi] using h
 unfold left
 have:=left_set_list l.toList i (by simpa using hi) (by simpa using hx)
 simpa [Array.toList_setIfInBounds,hi] using this
theorem left_count (l:Array Bool)(g:Nat): left (l++Array.replicate g false)=left l+g:=by
 simp [left,List.filter_append]
theorem left_zero {l:Array Bool}(h:left l=0): ∀x∈l,x=true:=by
 intro x hx;unfold left at h;rw [List.length_eq_zero_iff,List.filter_eq_nil_iff] at h
 have:=h x (by simpa using hx)
 simpa using this
theorem wpAny_inv2 {I:Array Bool→Act→World→Prop}{g:Nat}(none:∀l a w,I l a w→Region.ready md ops l=[]→left l=g)(step:∀l a w,I l a w→left l≠g→∀i∈Region.ready md ops l,wpOp P ops Q i (fun a' w'=>I (l.setIfInBounds i true) a' w') a w)
  (fin:∀l a w,I l a w→left l=g→wpAny P md ops Q g l a w):∀(fuel:Nat) (l:Array Bool) (a:Act) (w:World),left l=fuel→g≤fuel→I l a w→wpAny P md ops Q fuel l a w
 |0,l,a,w,hf,hg,h=>by
  obtain rfl:g=0:=by omega
  exact fin l a w h hf
 |fuel+1,l,a,w,hf,hg,h=>by
  by_cases hgf:g=fuel+1
  ·subst hgf;exact fin l a w h hf
  ·refine⟨fun h0=>absurd (none l a w h h0) (by omega),fun i hi=>?_⟩;have hl:=left_set (mem_ready.1 hi).1;exact wpOp_mono (fun a' w' h'=>wpAny_inv2 none step fin fuel _ a' w' (by omega) (by omega) h') (step l a w h (by omega) i hi)
theorem wpOp_of {i:Nat}{o:Oper}{K:Act→World→Prop}{a:Act}{w:World}(hi:ops[i]?=some o)(hg:o.guard=none)(h:o.wp P a w K Q): wpOp P ops Q i K a w:=by
 unfold wpOp;simp only [hi];rw [if_pos (by simp [Region.wanted,hg])];exact .inl h
end
section
variable {P:Program} {ops:Array Oper} {Q:Exit→Act→World→Prop}
def maskB (ops:Array Oper)(M:List (List Nat)): Bool:=(List.range ops.size).all fun i=>match ops[i]? with
 |some o=>(M.getD i []).all fun c=>o.after.any fun e=>Region.binds .any e&&(e.on == c||(M.getD e.on []).contains c)
 |none=>true
def backB (ops:Array Oper): Bool:=(List.range ops.size).all fun i=>match ops[i]? with
 |some o=>o.after.all fun e=>!Region.binds .any e||decide (e.on<i)
 |none=>true
theorem backB_spec (hb:backB ops=true){i:Nat}{o:Oper}(ho:ops[i]?=some o){e:Edge}(he:e∈o.after)(hbe:Region.binds .any e=true): e.on<i:=by
 unfold backB at hb;rw [List.all_eq_true] at hb;have h1:=hb i (List.mem_range.2 (Array.getElem?_eq_some_iff.1 ho).1);rw [ho] at h1;simp only [Array.all_eq_true,Bool.or_eq_true,Bool.not_eq_true',decide_eq_true_eq] at h1;obtain⟨q,hq,rfl⟩:=Array.mem_iff_getElem.1 he;rcases h1 q hq with h2 | h2
 ·rw [hbe] at h2;cases h2
 ·exact h2
def Closed (ops:Array Oper)(l:Array Bool): Prop:=∀(i:Nat) (o:Oper),l.getD i false=true→ops[i]?=some o→∀e∈o.after,Region.binds .any e=true→l.getD e.on false=true
theorem anc_listed {M:List (List Nat)}(hM:maskB ops M=true)(hbw:backB ops=true){l:Array Bool}(h:Closed ops l): ∀(n i c:Nat) (o:Oper),i<n→ops[i]?=some o→(∀e∈o.after,Region.binds .any e=true→l.getD e.on false=true)→(M.getD i []).contains c=true→l.getD c false=true
 |0,_,_,_,hi,_,_,_=>absurd hi (Nat.not_lt_zero _)
 |n+1,i,c,o,hi,ho,hd,ha=>by
  have h1:=hM;unfold maskB at h1;rw [List.all_eq_true] at h1;have h2:=h1 i (List.mem_range.2 (Array.getElem?_eq_some_iff.1 ho).1);rw [ho] at h2;simp only [List.all_eq_true] at h2;have h3:=h2 c (by simpa using ha);simp only [Array.any_eq_true,Bool.and_eq_true,Bool.or_eq_true,beq_iff_eq] at h3;obtain⟨k,hk,hb,ha⟩:=h3;have hl:=hd _ (Array.getElem_mem hk) hb;have hlt:=backB_spec hbw ho (Array.getElem_mem hk) hb;rcases ha with ha | ha
  ·rw [← ha];exact hl
  ·have hin:(o.after[k]).on<ops.size:=Nat.lt_trans hlt (Array.getElem?_eq_some_iff.1 ho).1;exact anc_listed hM hbw h n _ c _ (by omega) (Array.getElem?_eq_getElem hin) (h _ _ hl (Array.getElem?_eq_getElem hin)) ha
def dstB (ops:Array Oper)(m:Nat): Bool:=(List.range ops.size).all fun i=>(List.range ops.size).all fun j=>match ops[i]?,ops[j]? with
 |some o,some o'=>match o.dst with
  |none=>true
  |some d=>decide (d<m)&&(i == j||o'.dst != some d)
 |_,_=>true
theorem dstB_spec {m:Nat}(h:dstB ops m=true){i j:Nat}{o o':Oper}{d:Tmp}(hi:ops[i]?=some o)(hj:ops[j]?=some o')(hd:o.dst=some d): d<m∧(i=j∨o'.dst≠some d):=by
 unfold dstB at h;rw [List.all_eq_true] at h;have h1:=h i (List.mem_range.2 (Array.getElem?_eq_some_iff.1 hi).1);rw [List.all_eq_true] at h1;have h2:=h1 j (List.mem_range.2 (Array.getElem?_eq_some_iff.1 hj).1);rw [hi,hj] at h2;simp only [hd,Bool.and_eq_true,decide_eq_true_eq,Bool.or_eq_true,beq_iff_eq,bne_iff_ne,ne_eq] at h2;exact h2
structure Tm (ops:Array Oper)(T0:Array Value)(v:Nat→Value)(l:Array Bool)(T:Array Value): Prop where
 size:T.size=T0.size
 come:∀(i:Nat) (o:Oper) (d:Tmp),l.getD i false=true→ops[i]?=some o→o.dst=some d→T.getD d undef=v i
 rest:∀(d:Tmp),(∀(i:Nat) (o:Oper),l.getD i false=true→ops[i]?=some o→o.dst≠some d)→T.getD d undef=T0.getD d undef
theorem getD_set (T:Array Value)(d k:Nat)(x:Value)(hd:d<T.size): (T.setIfInBounds d x).getD k undef=if k=d then x else T.getD k undef:=by
 by_cases hk:k=d
 ·subst hk;simp [Array.getD,hd]
 ·rw [if_neg hk];simp only [Array.getD]
  by_cases h:k<T.size
  ·simp [h,Array.getElem_setIfInBounds,Ne.symm hk]
  ·simp [h]
theorem getD_lset (l:Array Bool)(i k:Nat)(hi:l.getD i true=false): (l.setIfInBounds i true).getD k false=if k=i then true else l.getD k false:=by
 have hlt:i<l.size:=by
  by_cases h:i<l.size
  ·exact h
  ·simp [Array.getD,h] at hi
 by_cases hk:k=i
 ·subst hk;simp [Array.getD,hlt]
 ·rw [if_neg hk];simp only [Array.getD]
  by_cases h:k<l.size
  ·simp [h,Array.getElem_setIfInBounds,Ne.symm hk]
  ·simp [h]
theorem Tm.put {T0 T:Array Value}{v:Nat→Value}{l:Array Bool}(h:Tm ops T0 v l T)(hB:dstB ops T0.size=true){i:Nat}{o:Oper}(ho:ops[i]?=some o)(hi:l.getD i true=false)(ds:List Deferred): Tm ops T0 v (l.setIfInBounds i true) (Act.put ⟨T,ds⟩ o.dst (v i)).tmps:=by
 unfold Act.put;cases hd:o.dst with
 |none=>
  refine⟨h.size,fun k o' d hl hk hd'=>?_,fun d hn=>h.rest d fun k o' hl hk=>hn k o' (by rw [getD_lset l i k hi];split<;>simp_all) hk⟩;rw [getD_lset l i k hi] at hl
  by_cases hki:k=i
  ·subst hki;rw [ho] at hk;cases hk
   rw [hd] at hd';cases hd'
  ·rw [if_neg hki] at hl;exact h.come k o' d hl hk hd'
 |some d0=>
  have hlt:d0<T.size:=by rw [h.size];exact(dstB_spec hB ho ho hd).1
  refine⟨by simp [h.size],fun k o' d hl hk hd'=>?_,fun d hn=>?_⟩
  ·rw [getD_lset l i k hi] at hl
   show(T.setIfInBounds d0 (v i)).getD d undef=v k
   rw [getD_set T d0 d _ hlt]
   by_cases hki:k=i
   ·subst hki;rw [ho] at hk;cases hk
    rw [hd] at hd';cases hd'
    rw [if_pos rfl]
   ·rw [if_neg hki] at hl;rw [if_neg (fun e=>by
     subst e;rcases(dstB_spec hB ho hk hd).2 with e | e
     ·exact hki e.symm
     ·exact e hd')]
    exact h.come k o' d hl hk hd'
  ·show(T.setIfInBounds d0 (v i)).getD d undef=T0.getD d undef
   have hne:d≠d0:=fun e=>hn i o (by rw [getD_lset l i i hi,if_pos rfl]) ho (by rw [hd,e])
   rw [getD_set T d0 d _ hlt,if_neg hne];exact h.rest d fun k o' hl hk=>hn k o' (by rw [getD_lset l i k hi];split<;>simp_all) hk
def planT (ops:Array Oper)(T0:Array Value)(v:Nat→Value): Nat→Array Value
 |0=>T0
 |k+1=>(Act.put ⟨planT ops T0 v k,[]⟩ ((ops[k]?).bind (·.dst)) (v k)).tmps
theorem planT_tm {T0:Array Value}{v:Nat→Value}(hB:dstB ops T0.size=true): ∀k,k≤ops.size→∃l:Array Bool,l.size=ops.size∧(∀i,l.getD i false=true↔i<k)∧Tm ops T0 v l (planT ops T0 v k)
 |0,_=>⟨Array.replicate ops.size false,by simp,fun i=>by
   simp only [Array.getD]
   by_cases h:i<ops.size<;>simp [h],⟨rfl,fun i o d hl _ _=>by
   simp only [Array.getD] at hl
   by_cases h:i<ops.size<;>simp [h] at hl,fun d _=>rfl⟩⟩
 |k+1,hk=>by
  obtain⟨l,hs,hl,ht⟩:=planT_tm (v:=v) hB k (by omega);obtain⟨o,ho⟩:∃o,ops[k]?=some o:=⟨_,Array.getElem?_eq_getElem (by omega)⟩;have hkf:l.getD k true=false:=by
   have h1:k<l.size:=by omega
   have h2:=(hl k);simp only [Array.getD,h1,dif_pos] at h2 ⊢
   simpa using h2
  refine⟨l.setIfInBounds k true,by simp [hs],fun i=>?_,?_⟩
  ·rw [getD_lset l k i hkf]
   split
   ·simp;omega
   ·rw [hl i];omega
  ·have:=ht.put hB ho hkf []
   unfold planT;rw [ho];exact this
theorem tm_ext {T T':Array Value}(hs:T.size=T'.size)(h:∀d,T.getD d undef=T'.getD d undef): T=T':=by
 apply Array.ext hs
 intro i h1 h2
 have:=h i
 simpa [Array.getD,h1,h2] using this
theorem Tm.all {T0 T:Array Value}{v:Nat→Value}{l:Array Bool}(h:Tm ops T0 v l T)(hB:dstB ops T0.size=true)(hl:∀i,i<ops.size→l.getD i false=true): T=planT ops T0 v ops.size:=by
 obtain⟨l',hs',hl',ht'⟩:=planT_tm (ops:=ops) (v:=v) hB ops.size (Nat.le_refl _);refine tm_ext (by rw [h.size,ht'.size]) fun d=>?_
 by_cases hd:∃(i:Nat) (o:Oper),ops[i]?=some o∧o.dst=some d
 ·obtain⟨i,o,ho,hd⟩:=hd;have hi:=(Array.getElem?_eq_some_iff.1 ho).1;rw [h.come i o d (hl i hi) ho hd,ht'.come i o d ((hl' i).2 hi) ho hd]
 ·rw [h.rest d fun i o _ ho hd'=>hd ⟨i,o,ho,hd'⟩,ht'.rest d fun i o _ ho hd'=>hd ⟨i,o,ho,hd'⟩]
def upd (y:Nat→Value)(c:Nat)(v:Value): Nat→Value:=fun k=>if k=c then v else y k
def Known (ops:Array Oper)(T0:Array Value)(v:Nat→Value)(o:Oper)(T:Array Value): Prop:=
 (∀e∈o.after,Region.binds .any e=true→∀(o':Oper) (d:Tmp),ops[e.on]?=some o'→o'.dst=some d→T.getD d undef=v e.on)∧(∀d:Tmp,(∀(k:Nat) (o':Oper),ops[k]?=some o'→o'.dst≠some d)→T.getD d undef=T0.getD d undef)
def updB (d:Nat→Bool)(c:Nat): Nat→Bool:=fun k=>if k=c then true else d k
def Pin (ops:Array Oper)(T0:Array Value)(ds:List Deferred)(cs:List Nat)(vs:(Nat→Value)→Nat→Value)(PW:(Nat→Bool)→(Nat→Value)→World→Prop)(l:Array Bool)(a:Act)(w:World): Prop:=
 ∃y d,l.size=ops.size∧Closed ops l∧(∀c∈cs,l.getD c false=d c)∧a.defers=ds∧Tm ops T0 (vs y) l a.tmps∧PW d y w
theorem closed_set {l:Array Bool}(h:Closed ops l){i:Nat}{o:Oper}(ho:ops[i]?=some o)(hi:l.getD i true=false)(hd:∀e∈o.after,Region.binds .any e=true→l.getD e.on false=true): Closed ops (l.setIfInBounds i true):=fun k o' hk ho' e he hb=>by
 rw [getD_lset l i _ hi]
 split
 ·rfl
 ·rw [getD_lset l i k hi] at hk
  by_cases hki:k=i
  ·subst hki;rw [ho] at ho';cases ho'
   exact hd e he hb
  ·rw [if_neg hki] at hk;exact h k o' hk ho' e he hb
theorem all_listed (hb:backB ops=true){l:Array Bool}(hs:l.size=ops.size)(hr:Region.ready .any ops l=[]): left l=0:=by
 have hall:∀k,∀i,i<k→i<ops.size→l.getD i false=true:=fun k=>by
  induction k with
  |zero=>intro i hi;omega
  |succ k ih=>
   intro i hi hin;cases hli:l.getD i false
   ·exfalso
    have ho:=Array.getElem?_eq_getElem hin;refine List.eq_nil_iff_forall_not_mem.1 hr i (mem_ready.2 ⟨?_,_,ho,fun e he hbe=>?_⟩)
    ·simpa [Array.getD,hs,hin] using hli
    ·unfold backB at hb;rw [List.all_eq_true] at hb;have h1:=hb i (List.mem_range.2 hin);rw [ho] at h1;simp only [Array.all_eq_true,Bool.or_eq_true,Bool.not_eq_true',decide_eq_true_eq] at h1;obtain⟨q,hq,rfl⟩:=Array.mem_iff_getElem.1 he;rcases h1 q hq with h2 | h2
     ·rw [hbe] at h2;cases h2
     ·exact ih _ (by omega) (by omega)
   ·rfl
 unfold left;rw [List.length_eq_zero_iff,List.filter_eq_nil_iff];intro x hx;obtain⟨i,hi,rfl⟩:=List.mem_iff_getElem.1 hx;have h1:i<l.size:=by simpa using hi
 have:=hall (i+1) i (by omega) (by omega)
 simp only [Array.getD,h1,dif_pos] at this
 simpa using this
theorem getD_tf {l:Array Bool}{i:Nat}(h:l.getD i true=false): l.getD i false=false:=by
 simp only [Array.getD] at h ⊢
 split at h<;>simp_all
def Plain (P:Program)(ops:Array Oper)(Q:Exit→Act→World→Prop)(T0:Array Value)(ds:List Deferred)(cs:List Nat)(M:List (List Nat))(vs:(Nat→Value)→Nat→Value)(PW:(Nat→Bool)→(Nat→Value)→World→Prop)(i:Nat): Prop:=
 ∀o,ops[i]?=some o→i∉cs→∀d y T w',(∀c'∈cs,(M.getD i []).contains c'=true→d c'=true)→Known ops T0 (vs y) o T→PW d y w'→wpOp P ops Q i (fun a' w''=>a'=Act.put ⟨T,ds⟩ o.dst (vs y i)∧w''=w') ⟨T,ds⟩ w'
def Chg (P:Program)(ops:Array Oper)(Q:Exit→Act→World→Prop)(T0:Array Value)(ds:List Deferred)(cs:List Nat)(M:List (List Nat))(vs:(Nat→Value)→Nat→Value)(PW:(Nat→Bool)→(Nat→Value)→World→Prop)(c:Nat): Prop:=
 ∀o,ops[c]?=some o→∀d y T w',d c=false→(∀c'∈cs,(M.getD c []).contains c'=true→d c'=true)→(∀c'∈cs,(M.getD c' []).contains c=true→d c'=false)→Known ops T0 (vs y) o T→PW d y w'→wpOp P ops Q c (fun a' w''=>∃v,a'=Act.put ⟨T,ds⟩ o.dst (vs (upd y c v) c)∧PW (updB d c) (upd y c v) w'') ⟨T,ds⟩ w'
theorem wp_plan {id:Nat}(hm:P.follows .mixedOrders=true)(T0:Array Value)(ds:List Deferred)(cs:List Nat)(M:List (List Nat))(vs:(Nat→Value)→Nat→Value)(PW:(Nat→Bool)→(Nat→Value)→World→Prop)(w:World)
  (hB:dstB ops T0.size=true) (hbw:backB ops=true) (hM:maskB ops M=true) (hcin:∀c∈cs,c<ops.size)
  (hfix:∀c∈cs,∀i,i≠c→(M.getD i []).contains c=false→∀y v,vs (upd y c v) i=vs y i)
  (hplain:∀i,i<ops.size→Plain P ops Q T0 ds cs M vs PW i)
  (hchg:∀c∈cs,Chg P ops Q T0 ds cs M vs PW c)
  (h0:∃y,PW (fun _=>false) y w.drew)
  (hfin:∀d y w',(∀c∈cs,d c=true)→PW d y w'→Q .normal ⟨planT ops T0 (vs y) ops.size,ds⟩ w') :
  (Code.region id ops true).wp P Q ⟨T0,ds⟩ w:=by
 refine wp_region_any hm ?_;have hrep:∀i,(Array.replicate ops.size false).getD i false=false:=fun i=>by
  simp only [Array.getD]
  by_cases h:i<ops.size<;>simp [h]
 refine wpAny_inv2 (I:=Pin ops T0 ds cs vs PW) (g:=0) (fun l a w1 hI hr=>?_) (fun l a w1 hI _ i hi=>?_) (fun l a w1 hI hl=>?_) ops.size _ _ _ (by simp [left]) (Nat.zero_le _) ?_
 ·obtain⟨y,d,h1,h2,_⟩:=hI;exact all_listed hbw h1 hr
 ·obtain⟨y,d,h1,h2,h3,h5,h6,h7⟩:=hI;obtain⟨T,ds'⟩:=a;simp only at h5 h6;subst h5;rw [mem_ready] at hi;obtain⟨hu,o,ho,hd⟩:=hi;have hul:=getD_tf hu;have hkn:Known ops T0 (vs y) o T:=⟨fun e he hb o' d ho' hd'=>h6.come e.on o' d (hd e he hb) ho' hd',fun d hn=>h6.rest d fun k o' _ ho'=>hn k o' ho'⟩
  by_cases hic:i∈cs
  ·refine wpOp_mono (fun a' w'' hx=>?_) (hchg i hic o ho d y T w1 (by rw [← h3 i hic];exact hul) (fun c' hc' ha=>?_) (fun c' hc' ha=>?_) hkn h7)
   ·obtain⟨v,rfl,hpw⟩:=hx;have hsame:Tm ops T0 (vs (upd y i v)) l T:=⟨h6.size,(fun k o' d hl hk hd'=>by
     rw [h6.come k o' d hl hk hd'];refine(hfix i hic k (fun e=>?_) ?_ y v).symm
     ·subst e;rw [hul] at hl;cases hl
     ·cases ha:(M.getD k []).contains i
      ·rfl
      ·have:=anc_listed hM hbw h2 (k+1) k i o' (Nat.lt_succ_self k) hk (fun e he hb=>h2 k o' hl hk e he hb) ha
       rw [hul] at this;exact absurd this (by decide)),h6.rest⟩
    refine⟨upd y i v,updB d i,by simp [h1],closed_set h2 ho hu hd,fun c hc=>?_,by unfold Act.put;split<;>rfl,hsame.put hB ho hu ds',hpw⟩;rw [getD_lset l i c hu];unfold updB
    split
    ·rfl
    ·exact h3 c hc
   ·rw [← h3 c' hc'];exact anc_listed hM hbw h2 (i+1) i c' o (Nat.lt_succ_self i) ho hd ha
   ·rw [← h3 c' hc'];cases hl:l.getD c' false
    ·rfl
    ·have ho':=Array.getElem?_eq_getElem (hcin c' hc')
     have:=anc_listed hM hbw h2 (c'+1) c' i _ (Nat.lt_succ_self c') ho' (fun e he hb=>h2 c' _ hl ho' e he hb) ha
     rw [hul] at this;cases this
  ·refine wpOp_mono (fun a' w'' hx=>?_) (hplain i (Array.getElem?_eq_some_iff.1 ho).1 o ho hic d y T w1 (fun c' hc' ha=>by rw [← h3 c' hc'];exact anc_listed hM hbw h2 (i+1) i c' o (Nat.lt_succ_self i) ho hd ha) hkn h7);obtain⟨rfl,rfl⟩:=hx;refine⟨y,d,by simp [h1],closed_set h2 ho hu hd,fun c hc=>?_,by unfold Act.put;split<;>rfl,h6.put hB ho hu ds',h7⟩;rw [getD_lset l i c hu,if_neg (fun(e:c=i)=>hic (by rw [← e];exact hc)),h3 c hc]
 ·obtain⟨y,d,h1,h2,h3,h5,h6,h7⟩:=hI;obtain⟨T,ds'⟩:=a;simp only at h5 h6;subst h5;have hall:∀i,i<ops.size→l.getD i false=true:=fun i hi=>by
   have:=left_zero hl (l[i]'(by omega)) (Array.getElem_mem _)
   simpa [Array.getD,h1,hi] using this
  have hT:=h6.all hB hall;subst hT;refine⟨?_,hfin d y w1 (fun c hc=>by rw [← h3 c hc];exact hall c (hcin c hc)) h7⟩;apply List.eq_nil_iff_forall_not_mem.2
  intro i hi;rw [mem_ready] at hi;obtain⟨hu,o,ho,_⟩:=hi
  have:=hall i (Array.getElem?_eq_some_iff.1 ho).1
  rw [getD_tf hu] at this;cases this
 ·obtain⟨y,hy⟩:=h0;refine⟨y,fun _=>false,by simp,fun i o hl _ _ _ _=>(by rw [hrep] at hl;cases hl),fun c hc=>hrep c,rfl,⟨rfl,fun i o d hl _ _=>(by rw [hrep] at hl;cases hl),fun d _=>rfl⟩,hy⟩
end
section
variable {P:Program} {ops:Array Oper} {Q:Exit→Act→World→Prop}
theorem wpOp_skip {i:Nat}{o:Oper}{K:Act→World→Prop}{a:Act}{w:World}(hi:ops[i]?=some o)(hg:Region.wanted o (yielded ops a.tmps)=false)(h:K (a.put o.dst undef) w): wpOp P ops Q i K a w:=by
 unfold wpOp;simp only [hi];rw [if_neg (by simp [hg])];exact h
def readsB (ops:Array Oper)(i d k:Nat): Bool:=match ops[i]?,ops[k]? with
 |some o,some o'=>o'.dst == some d&&o.after.any fun e=>e.on == k&&Region.binds .any e
 |_,_=>false
def freeB (ops:Array Oper)(d:Nat): Bool:=ops.all fun o=>o.dst != some d
theorem Known.val {T0 T:Array Value}{v:Nat→Value}{o:Oper}{i d k:Nat}(h:Known ops T0 v o T)(ho:ops[i]?=some o)(hr:readsB ops i d k=true): T.getD d undef=v k:=by
 unfold readsB at hr;rw [ho] at hr;cases hk:ops[k]? with
 |none=>rw [hk] at hr;cases hr
 |some o'=>
  rw [hk] at hr;simp only [Bool.and_eq_true,beq_iff_eq,Array.any_eq_true] at hr;obtain⟨hd,m,hm,he,hb⟩:=hr
  have:=h.1 _ (Array.getElem_mem hm) hb o' d (by rw [he];exact hk) hd
  rw [he] at this;exact this
theorem Known.old {T0 T:Array Value}{v:Nat→Value}{o:Oper}{d:Nat}(h:Known ops T0 v o T)(hf:freeB ops d=true): T.getD d undef=T0.getD d undef:=by
 refine h.2 d fun k o' hk hd=>?_
 unfold freeB at hf;rw [Array.all_eq_true] at hf;obtain⟨h1,h2⟩:=Array.getElem?_eq_some_iff.1 hk
 have:=hf k h1
 rw [h2,hd] at this;simp at this
theorem op_core {i:Nat}{o:Oper}{dst:Option Tmp}{op:Go.Op}{ty:TypeId}{gd:Option (Nat×Bool)}(h:(ops[i]?).map (fun o=>(o.dst,o.op,o.type,o.guard))=some (dst,op,ty,gd))(ho:ops[i]?=some o): ∃ps af,o=⟨dst,op,ty,ps,af,gd⟩:=by
 rw [ho] at h;obtain⟨a,b,c,d,e,f⟩:=o;simp only [Option.map_some,Option.some.injEq,Prod.mk.injEq] at h;obtain⟨rfl,rfl,rfl,rfl⟩:=h;exact⟨_,_,rfl⟩
theorem Known.is {T0 T:Array Value}{v:Nat→Value}{o:Oper}{i d:Nat}{x:Value}(h:Known ops T0 v o T)(k:Nat)(ho:ops[i]?=some o)(hr:readsB ops i d k=true:=by kernel_rfl)(hx:v k=x:=by first|(subst hV;rfl)|rfl): T.getD d undef=x:=(h.val ho hr).trans hx
theorem Known.of {T0 T:Array Value}{v:Nat→Value}{o:Oper}{d:Nat}{x:Value}(h:Known ops T0 v o T)(hf:freeB ops d=true)(hx:T0.getD d undef=x): T.getD d undef=x:=(h.old hf).trans hx
theorem hq {A B C:Nat→Prop}(h:∀q,A q→B q→C q)(q:Nat)(a:A q:=by decide)(b:B q:=by kernel_rfl): Hid (C q):=Lib.hid (h q a b)
theorem core {i:Nat}{o:Oper}(dst:Option Tmp)(op:Go.Op)(ty:TypeId)(gd:Option (Nat×Bool))(ho:ops[i]?=some o)(h:(ops[i]?).map (fun o=>(o.dst,o.op,o.type,o.guard))=some (dst,op,ty,gd):=by kernel_rfl): ∃ps af,o=⟨dst,op,ty,ps,af,gd⟩:=op_core h ho
theorem getD_some {T:Array Value}{d:Nat}{v:Value}(h:T.getD d undef=v)(hv:v≠undef): T[d]?=some v:=by
 simp only [Array.getD] at h
 by_cases hd:d<T.size
 ·simp only [hd,dif_pos] at h;rw [Array.getElem?_eq_getElem hd];exact congrArg some h
 ·simp only [hd,dif_neg,not_false_eq_true] at h;exact absurd h.symm hv
theorem wanted_of {o:Oper}{T:Array Value}{j d:Nat}{b wb:Bool}(hg:o.guard=some (j,wb))(hd:(ops[j]?).bind (·.dst)=some d)(hT:T.getD d undef = .bool b): Region.wanted o (yielded ops T)=(b == wb):=by
 unfold Region.wanted yielded;rw [hg];simp only [hd,Option.bind_some,getD_some hT (by intro h;cases h)];cases b<;>cases wb<;>rfl
theorem wpOp_want {i:Nat}{o:Oper}{K:Act→World→Prop}{a:Act}{w:World}(hi:ops[i]?=some o)(hg:Region.wanted o (yielded ops a.tmps)=true)(h:o.wp P a w K Q): wpOp P ops Q i K a w:=by
 unfold wpOp;simp only [hi];rw [if_pos hg];exact .inl h
theorem wpOp_plain {i:Nat}{o:Oper}{K:Act→World→Prop}{a:Act}{w:World}(hi:ops[i]?=some o)(hg:o.guard=none)(h:o.wp P a w K Q): wpOp P ops Q i K a w:=by
 unfold wpOp;simp only [hi];rw [if_pos (by unfold Region.wanted;rw [hg])];exact .inl h
theorem all_step {F:Nat→Prop}{n:Nat}(h:∀i,i<n→F i)(hn:F n): ∀i,i<n+1→F i:=fun i hi=>by
 rcases Nat.lt_succ_iff_lt_or_eq.1 hi with h1 | rfl
 ·exact h i h1
 ·exact hn
theorem all_zero {F:Nat→Prop}: ∀i,i<0→F i:=fun i hi=>absurd hi (Nat.not_lt_zero i)
def mkV (V:List ((Nat×(Value→Value)) ⊕ Value))(y:Nat→Value)(i:Nat): Value:=match V[i]? with
 |some (.inl (k,g))=>g (y k)
 |some (.inr v)=>v
 |none=>undef
def depB (M:List (List Nat))(V:List ((Nat×(Value→Value)) ⊕ Value)): Bool:=(List.range V.length).all fun i=>match V[i]? with
 |some (.inl (k,_))=>i == k||(M.getD i []).contains k
 |_=>true
theorem mkV_fix {M:List (List Nat)}{V:List ((Nat×(Value→Value)) ⊕ Value)}(h:depB M V=true){i c:Nat}(hi:i≠c)(ha:(M.getD i []).contains c=false)(y:Nat→Value)(v:Value): mkV V (upd y c v) i=mkV V y i:=by
 unfold mkV;cases hv:V[i]? with
 |none=>rfl
 |some x=>
  cases x with
  |inr z=>rfl
  |inl kg=>
   obtain⟨k,g⟩:=kg
   show g (upd y c v k)=g (y k)
   refine congrArg g ?_;unfold upd;rw [if_neg fun e=>?_];subst e;unfold depB at h;rw [List.all_eq_true] at h
   have:=h i (List.mem_range.2 (List.getElem?_eq_some_iff.1 hv).1)
   rw [hv] at this;simp only [Bool.or_eq_true,beq_iff_eq] at this;rcases this with e | e
   ·exact hi e
   ·rw [ha] at e;cases e
section
variable {T0 T:Array Value} {W:List ((Nat×(Value→Value)) ⊕ Value)} {y:Nat→Value} {o:Oper} {i:Nat} {ds:List Deferred} {w:World}
theorem pl1 (dst s k:Nat)(ty:TypeId){op:Go.Op}{x v:Value}(ho:ops[i]?=some o)(hK:Known ops T0 (mkV W y) o T)(h:∀ps af,T.getD s undef=x→Oper.wp P ⟨some dst,op,ty,ps,af,none⟩ ⟨T,ds⟩ w (fun a' w''=>a'=Act.put ⟨T,ds⟩ (some dst) v∧w''=w) Q)(hc:(ops[i]?).map (fun o=>(o.dst,o.op,o.type,o.guard))=some (some dst,op,ty,none):=by kernel_rfl)(hr:readsB ops i s k=true:=by kernel_rfl)(hk:mkV W y k=x:=by first|(subst hV;rfl)|rfl)(hi:mkV W y i=v:=by first|(subst hV;rfl)|rfl): wpOp P ops Q i (fun a' w''=>a'=Act.put ⟨T,ds⟩ o.dst (mkV W y i)∧w''=w) ⟨T,ds⟩ w:=by
 obtain⟨ps,af,rfl⟩:=op_core hc ho;subst hk hi;exact wpOp_plain ho rfl (h ps af (hK.val ho hr))
theorem pl0 (dst s:Nat)(ty:TypeId){op:Go.Op}{x v:Value}(ho:ops[i]?=some o)(hK:Known ops T0 (mkV W y) o T)(hk:T0.getD s undef=x)(h:∀ps af,T.getD s undef=x→Oper.wp P ⟨some dst,op,ty,ps,af,none⟩ ⟨T,ds⟩ w (fun a' w''=>a'=Act.put ⟨T,ds⟩ (some dst) v∧w''=w) Q)(hc:(ops[i]?).map (fun o=>(o.dst,o.op,o.type,o.guard))=some (some dst,op,ty,none):=by kernel_rfl)(hr:freeB ops s=true:=by kernel_rfl)(hi:mkV W y i=v:=by first|(subst hV;rfl)|rfl): wpOp P ops Q i (fun a' w''=>a'=Act.put ⟨T,ds⟩ o.dst (mkV W y i)∧w''=w) ⟨T,ds⟩ w:=by
 obtain⟨ps,af,rfl⟩:=op_core hc ho;subst hi;exact wpOp_plain ho rfl (h ps af ((hK.old hr).trans hk))
theorem pg1 (j d:Nat)(b:Bool)(dst s k:Nat)(ty:TypeId){op:Go.Op}{x v:Value}(ho:ops[i]?=some o)(hK:Known ops T0 (mkV W y) o T)(h:∀ps af,T.getD s undef=x→Oper.wp P ⟨some dst,op,ty,ps,af,some (j,b)⟩ ⟨T,ds⟩ w (fun a' w''=>a'=Act.put ⟨T,ds⟩ (some dst) v∧w''=w) Q)(hc:(ops[i]?).map (fun o=>(o.dst,o.op,o.type,o.guard))=some (some dst,op,ty,some (j,b)):=by kernel_rfl)(hd:(ops[j]?).bind (·.dst)=some d:=by kernel_rfl)(hrj:readsB ops i d j=true:=by kernel_rfl)(hj:mkV W y j = .bool b:=by first|(subst hV;rfl)|rfl)(hr:readsB ops i s k=true:=by kernel_rfl)(hk:mkV W y k=x:=by first|(subst hV;rfl)|rfl)(hi:mkV W y i=v:=by first|(subst hV;rfl)|rfl): wpOp P ops Q i (fun a' w''=>a'=Act.put ⟨T,ds⟩ o.dst (mkV W y i)∧w''=w) ⟨T,ds⟩ w:=by
 obtain⟨ps,af,rfl⟩:=op_core hc ho;subst hk hi;exact wpOp_want ho ((wanted_of (d:=d) (b:=b) rfl hd ((hK.val ho hrj).trans hj)).trans (by simp)) (h ps af (hK.val ho hr))
theorem pg0 (j d:Nat)(b:Bool)(dst s:Nat)(ty:TypeId){op:Go.Op}{x v:Value}(ho:ops[i]?=some o)(hK:Known ops T0 (mkV W y) o T)(hk:T0.getD s undef=x)(h:∀ps af,T.getD s undef=x→Oper.wp P ⟨some dst,op,ty,ps,af,some (j,b)⟩ ⟨T,ds⟩ w (fun a' w''=>a'=Act.put ⟨T,ds⟩ (some dst) v∧w''=w) Q)(hc:(ops[i]?).map (fun o=>(o.dst,o.op,o.type,o.guard))=some (some dst,op,ty,some (j,b)):=by kernel_rfl)(hd:(ops[j]?).bind (·.dst)=some d:=by kernel_rfl)(hrj:readsB ops i d j=true:=by kernel_rfl)(hj:mkV W y j = .bool b:=by first|(subst hV;rfl)|rfl)(hr:freeB ops s=true:=by kernel_rfl)(hi:mkV W y i=v:=by first|(subst hV;rfl)|rfl): wpOp P ops Q i (fun a' w''=>a'=Act.put ⟨T,ds⟩ o.dst (mkV W y i)∧w''=w) ⟨T,ds⟩ w:=by
 obtain⟨ps,af,rfl⟩:=op_core hc ho;subst hi;exact wpOp_want ho ((wanted_of (d:=d) (b:=b) rfl hd ((hK.val ho hrj).trans hj)).trans (by simp)) (h ps af ((hK.old hr).trans hk))
theorem psk (j d:Nat)(b wb:Bool)(ho:ops[i]?=some o)(hK:Known ops T0 (mkV W y) o T)(hc:(ops[i]?).map (·.guard)=some (some (j,wb)):=by kernel_rfl)(hd:(ops[j]?).bind (·.dst)=some d:=by kernel_rfl)(hrj:readsB ops i d j=true:=by kernel_rfl)(hj:mkV W y j = .bool b:=by first|(subst hV;rfl)|rfl)(hb:(b == wb)=false:=by rfl)(hi:mkV W y i=undef:=by first|(subst hV;rfl)|rfl): wpOp P ops Q i (fun a' w''=>a'=Act.put ⟨T,ds⟩ o.dst (mkV W y i)∧w''=w) ⟨T,ds⟩ w:=by
 rw [hi];rw [ho] at hc;exact wpOp_skip ho ((wanted_of (d:=d) (b:=b) (by simpa using hc) hd ((hK.val ho hrj).trans hj)).trans hb) ⟨rfl,rfl⟩
theorem k_mv {ty:TypeId}{dst:Option Tmp}{s:Nat}{ps af g}{x:Value}(e:T.getD s undef=x): Oper.wp P ⟨dst,.move (.tmp s),ty,ps,af,g⟩ ⟨T,ds⟩ w (fun a' w''=>a'=Act.put ⟨T,ds⟩ dst x∧w''=w) Q:=by
 subst e;exact⟨rfl,rfl⟩
theorem k_as {ty:TypeId}{dst:Option Tmp}{s:Nat}{ps af g}{x:Value}(e:T.getD s undef=x): Oper.wp P ⟨dst,.assign (.tmp s),ty,ps,af,g⟩ ⟨T,ds⟩ w (fun a' w''=>a'=Act.put ⟨T,ds⟩ dst x∧w''=w) Q:=by
 subst e;exact⟨rfl,rfl⟩
end
end
end Pl
namespace Pl
open Go.RowKit Go.Sort Limbs
noncomputable def tBO:Array Oper:=(Tryz.f42.body.bind fun c=>findR c 1).getD #[]
def tB_m:List (List Nat):=[[],[],[1],[1,2],[1,2],[1,2],[],[1,2,6],[1,2,6,7]]
set_option maxHeartbeats 16000000 in
theorem tB (PW:Bool→Bool→Bool→Bool→Value→World→Prop)(gk k x y:Nat)(i:Bool)(w:World)  (cl1:∀(b6:Bool) (y6:Value) (w:World),PW false false b6 false y6 w→Calls Tryz.prog 48 #[] w fun e w1=>e = .returned (.agg #[.int .u64 17627433388654248598,.int .u64 8575836109218198432,.int .u64 17923454489921339634,.int .u64 7716867327612699207,.int .u64 14678990851816772085,.int .u64 3156516839386865358,.int .u64 10297457778147434006,.int .u64 5756518291402817435,.bool false])∧PW true false b6 false y6 w1)(cl2:∀(b6:Bool) (y6:Value) (w:World),PW true false b6 false y6 w→Calls Tryz.prog 93 #[.agg #[υ k 0,υ k 1,υ k 2,υ k 3],.agg #[.int .u64 17627433388654248598,.int .u64 8575836109218198432,.int .u64 17923454489921339634,.int .u64 7716867327612699207,.int .u64 14678990851816772085,.int .u64 3156516839386865358,.int .u64 10297457778147434006,.int .u64 5756518291402817435,.bool false]] w fun e w1=>e = .returned (.tuple #[.agg #[υ x 0,υ x 1,υ x 2,υ x 3,υ y 0,υ y 1,υ y 2,υ y 3,.bool i],.int .i64 0])∧PW true true b6 false y6 w1)(cl6:∀(b1 b2:Bool) (y6:Value) (w:World),PW b1 b2 false false y6 w→PW b1 b2 true false (.pointer (some ⟨w.heap.size,0,none⟩)) (w.alloc (.cells #[.int .u64 0,.int .u64 0,.int .u64 0,.int .u64 0,.int .u64 0,.int .u64 0,.int .u64 0,.int .u64 0,.bool false] 26)))(cl7:∀(y6:Value) (w:World),PW true true true false y6 w→∃(g:Nat) (d0 d1 d2 d3 d4 d5 d6 d7 d8:Value),y6 = .pointer (some ⟨g,0,none⟩)∧Bk 26 w g #[d0,d1,d2,d3,d4,d5,d6,d7,d8]∧PW true true true true y6 (((((((((w.setCell ⟨g,0,none⟩ (υ x 0)).setCell ⟨g,1,none⟩ (υ x 1)).setCell ⟨g,2,none⟩ (υ x 2)).setCell ⟨g,3,none⟩ (υ x 3)).setCell ⟨g,4,none⟩ (υ y 0)).setCell ⟨g,5,none⟩ (υ y 1)).setCell ⟨g,6,none⟩ (υ y 2)).setCell ⟨g,7,none⟩ (υ y 3)).setCell ⟨g,8,none⟩ (.bool i)))(lk:∀(b1 b2 b6 b7:Bool) (y6:Value) (w:World),PW b1 b2 b6 b7 y6 w→w.cell? ⟨gk,0,none⟩=some (υ k 0)∧w.cell? ⟨gk,1,none⟩=some (υ k 1)∧w.cell? ⟨gk,2,none⟩=some (υ k 2)∧w.cell? ⟨gk,3,none⟩=some (υ k 3)){t0 t2 t3 t4 t5 t6 t7 t8 t9 t10 t11:Value}(w0:PW false false false false t3 w.drew){ds:List Deferred}{Q:Exit→Act→World→Prop}
  (h:∀(y6:Value) (w1:World),PW true true true true y6 w1→Q .normal {tmps:=#[t0,.pointer (some ⟨gk,0,none⟩),t2,y6,.int .i64 0,.tuple #[.agg #[υ x 0,υ x 1,υ x 2,υ x 3,υ y 0,υ y 1,υ y 2,υ y 3,.bool i],.int .i64 0],.agg #[υ k 0,υ k 1,υ k 2,υ k 3],.agg #[.int .u64 17627433388654248598,.int .u64 8575836109218198432,.int .u64 17923454489921339634,.int .u64 7716867327612699207,.int .u64 14678990851816772085,.int .u64 3156516839386865358,.int .u64 10297457778147434006,.int .u64 5756518291402817435,.bool false],.tuple #[.agg #[υ x 0,υ x 1,υ x 2,υ x 3,υ y 0,υ y 1,υ y 2,υ y 3,.bool i],.int .i64 0],.agg #[υ x 0,υ x 1,υ x 2,υ x 3,υ y 0,υ y 1,υ y 2,υ y 3,.bool i],.int .i64 0,t11],defers:=ds} w1) :
  (Code.region 1 tBO true).wp Tryz.prog Q {tmps:=#[t0,.pointer (some ⟨gk,0,none⟩),t2,t3,t4,t5,t6,t7,t8,t9,t10,t11],defers:=ds} w:=by
 have hsz:tBO.size=9:=by kernel_rfl
 generalize hT:List.toArray _=T0;have hs:T0.size=12:=by subst hT;rfl
 have g1:T0.getD 1 undef = .pointer (some ⟨gk,0,none⟩):=by subst hT;rfl
 obtain⟨W,hV⟩:∃W:List ((Nat×(Value→Value)) ⊕ Value),W=[.inr (.agg #[υ k 0,υ k 1,υ k 2,υ k 3]),.inr (.agg #[.int .u64 17627433388654248598,.int .u64 8575836109218198432,.int .u64 17923454489921339634,.int .u64 7716867327612699207,.int .u64 14678990851816772085,.int .u64 3156516839386865358,.int .u64 10297457778147434006,.int .u64 5756518291402817435,.bool false]),.inr (.tuple #[.agg #[υ x 0,υ x 1,υ x 2,υ x 3,υ y 0,υ y 1,υ y 2,υ y 3,.bool i],.int .i64 0]),.inr (.tuple #[.agg #[υ x 0,υ x 1,υ x 2,υ x 3,υ y 0,υ y 1,υ y 2,υ y 3,.bool i],.int .i64 0]),.inr (.agg #[υ x 0,υ x 1,υ x 2,υ x 3,υ y 0,υ y 1,υ y 2,υ y 3,.bool i]),.inr (.int .i64 0),.inl (6,id),.inr undef,.inr (.int .i64 0)]:=⟨_,rfl⟩;refine wp_plan (by kernel_rfl) T0 ds [1,2,6,7] tB_m (mkV W) (fun dx yx wx=>PW (dx 1) (dx 2) (dx 6) (dx 7) (yx 6) wx) w (by rw [hs];kernel_rfl) (by kernel_rfl) (by kernel_rfl) (by rw [hsz];decide) (fun cx hc ix hne ha yx vx=>mkV_fix (by rw [hV];kernel_rfl) hne ha yx vx) (?key) (fun cx hc ox ho dx yx Tx wx hd hdb hda hK hW=>?_) ⟨fun k=>if k=6 then t3 else undef,w0⟩ (fun dx yx wx hd hW=>?_)
 case key=>
  rw [hsz];refine all_step (all_step (all_step (all_step (all_step (all_step (all_step (all_step (all_step all_zero ?_) ?_) ?_) ?_) ?_) ?_) ?_) ?_) ?_
  all_goals
   intro ox ho hic dx yx Tx wx hdb hK hW;replace hdb:=Lib.hid hdb
  ·obtain⟨ps,af,rfl⟩:=core (some 6) (.load 24 (.tmp 1)) 24 none ho;have e1:Tx.getD 1 undef = .pointer (some ⟨gk,0,none⟩):=hK.of (by kernel_rfl) g1;obtain⟨hl0,hl1,hl2,hl3⟩:=lk _ _ _ _ _ _ hW;exact wpOp_plain ho rfl (by subst hV;go_simp;try rfl)
  ·exact absurd (by decide) hic
  ·exact absurd (by decide) hic
  ·exact pl1 5 8 2 28 ho hK fun ps af e=>k_mv e
  ·obtain⟨ps,af,rfl⟩:=core (some 9) (.extract (.tmp 5) 0) 26 none ho;have e5:Tx.getD 5 undef = .tuple #[.agg #[υ x 0,υ x 1,υ x 2,υ x 3,υ y 0,υ y 1,υ y 2,υ y 3,.bool i],.int .i64 0]:=hK.is 3 ho;exact wpOp_plain ho rfl (by subst hV;go_simp;try rfl)
  ·obtain⟨ps,af,rfl⟩:=core (some 10) (.extract (.tmp 5) 1) 27 none ho;have e5:Tx.getD 5 undef = .tuple #[.agg #[υ x 0,υ x 1,υ x 2,υ x 3,υ y 0,υ y 1,υ y 2,υ y 3,.bool i],.int .i64 0]:=hK.is 3 ho;exact wpOp_plain ho rfl (by subst hV;go_simp;try rfl)
  ·exact absurd (by decide) hic
  ·exact absurd (by decide) hic
  ·exact pl1 4 10 5 27 ho hK fun ps af e=>k_as e
 ·have hcase:cx=1∨cx=2∨cx=6∨cx=7:=by simpa using hc
  rcases hcase with rfl | rfl | rfl | rfl
  ·obtain⟨ps,af,rfl⟩:=core (some 7) (.call {callee:= .value (.func 48),args:=#[],argTypes:=#[]}) 26 none ho;have hW1:PW (dx 1) (dx 2) (dx 6) (dx 7) (yx 6) wx:=hW;have f2:=hq hda 2;have f7:=hq hda 7;clear hdb hda;rw [hd,f2.out,f7.out] at hW1;clear hd hW hc;refine wpOp_plain ho rfl ?_;go_simp;go_at_call 48;refine(cl1 _ _ _ hW1).mono ?_;rintro ex w2 ⟨rfl,hW2⟩;subst hV
   first | refine⟨undef,rfl,?_⟩ | refine⟨⟨undef,rfl⟩,?_⟩
   simpa [updB,upd,f2.out,f7.out] using hW2
  ·obtain⟨ps,af,rfl⟩:=core (some 8) (.call {callee:= .value (.func 93),args:=#[.tmp 6,.tmp 7],argTypes:=#[24,26]}) 28 none ho;have e6:Tx.getD 6 undef = .agg #[υ k 0,υ k 1,υ k 2,υ k 3]:=hK.is 0 ho;have e7:Tx.getD 7 undef = .agg #[.int .u64 17627433388654248598,.int .u64 8575836109218198432,.int .u64 17923454489921339634,.int .u64 7716867327612699207,.int .u64 14678990851816772085,.int .u64 3156516839386865358,.int .u64 10297457778147434006,.int .u64 5756518291402817435,.bool false]:=hK.is 1 ho;have hW1:PW (dx 1) (dx 2) (dx 6) (dx 7) (yx 6) wx:=hW;have f1:=hq hdb 1;have f7:=hq hda 7;clear hdb hda;rw [hd,f1.out,f7.out] at hW1;clear hd hW hc;refine wpOp_plain ho rfl ?_;go_simp;go_at_call 93;refine(cl2 _ _ _ hW1).mono ?_;rintro ex w2 ⟨rfl,hW2⟩;subst hV
   first | refine⟨undef,rfl,?_⟩ | refine⟨⟨undef,rfl⟩,?_⟩
   simpa [updB,upd,f1.out,f7.out] using hW2
  ·obtain⟨ps,af,rfl⟩:=core (some 3) (.alloc 26) 0 none ho;have hW1:PW (dx 1) (dx 2) (dx 6) (dx 7) (yx 6) wx:=hW;have f7:=hq hda 7;clear hdb hda;rw [hd,f7.out] at hW1;clear hd hW hc;have hW2:=cl6 _ _ _ _ hW1;subst hV;refine wpOp_plain ho rfl ?_;go_simp;refine⟨_,rfl,?_⟩
   simpa [updB,upd,f7.out] using hW2
  ·obtain⟨ps,af,rfl⟩:=core none (.store 26 (.tmp 3) (.tmp 9)) 0 none ho;have e3:Tx.getD 3 undef=yx 6:=hK.is 6 ho;have e9:Tx.getD 9 undef = .agg #[υ x 0,υ x 1,υ x 2,υ x 3,υ y 0,υ y 1,υ y 2,υ y 3,.bool i]:=hK.is 4 ho;have hW1:PW (dx 1) (dx 2) (dx 6) (dx 7) (yx 6) wx:=hW;have f1:=hq hdb 1;have f2:=hq hdb 2;have f6:=hq hdb 6;clear hdb hda;rw [hd,f1.out,f2.out,f6.out] at hW1;clear hd hW hc;obtain⟨g,d0,d1,d2,d3,d4,d5,d6,d7,d8,e6,hk,hW2⟩:=cl7 _ _ hW1;rw [e6] at e3;obtain⟨⟨c0,c1,c2,c3⟩,⟨c4,c5,c6,c7⟩,c8⟩:=hk.cells9;obtain⟨⟨z0,z1,z2,z3⟩,⟨z4,z5,z6,z7⟩,z8⟩:=hk.fros9;subst hV;refine wpOp_plain ho rfl ?_;go_simp
   simpa [updB,upd,f1.out,f2.out,f6.out] using hW2
 ·have hW1:PW (dx 1) (dx 2) (dx 6) (dx 7) (yx 6) wx:=hW;rw [hd 1 (by decide),hd 2 (by decide),hd 6 (by decide),hd 7 (by decide)] at hW1;have hQ:=h _ _ hW1;rw [hsz];subst hV hT;refine cast (congrArg (fun Tx=>Q .normal ⟨Tx,ds⟩ wx) ?_) hQ
  kernel_rfl
end Pl
namespace Pl
open Go.RowKit Go.Sort Limbs
set_option maxHeartbeats 16000000
variable {t0 t1 t2 t3 t4 t5 t6 t7 t8 t9 t10 t11 t12 t13 t14 t15 t16 t17 t18 t19 t20 t21 t22 t23 t24 t25 t26 t27 t28 t29 t30 t31 t32 t33 t34 t35 t36 t37 t38 t39 t40 t41 t42:Value}{ds:List Deferred}{Q:Exit→Act→World→Prop}
noncomputable def tNO:Array Oper:=(Tryz.f60.body.bind fun c=>findR c 2).getD #[]
def tN_m:List (List Nat):=[[],[],[],[],[],[],[5],[5],[5,7]]
theorem tN (PW:Bool→Bool→World→Prop)(ja jz z:Nat)(ok:Bool)(w:World)  (cl5:∀(w:World),PW false false w→Calls Tryz.prog 41 #[.agg #[υ z 0,υ z 1,υ z 2,υ z 3]] w fun e w1=>e = .returned (.bool ok)∧PW true false  w1)(cl7:∀(w:World),PW true false w→∃(d0 d1 d2 d3:Value),Bk 24 w ja #[d0,d1,d2,d3]∧PW true true  ((((w.setCell ⟨ja,0,none⟩ (υ z 0)).setCell ⟨ja,1,none⟩ (υ z 1)).setCell ⟨ja,2,none⟩ (υ z 2)).setCell ⟨ja,3,none⟩ (υ z 3)))(lz:∀(b5 b7:Bool) (w:World),PW b5 b7  w→w.cell? ⟨jz,0,none⟩=some (υ z 0)∧w.cell? ⟨jz,1,none⟩=some (υ z 1)∧w.cell? ⟨jz,2,none⟩=some (υ z 2)∧w.cell? ⟨jz,3,none⟩=some (υ z 3)) (w0:PW false false  w.drew) 
  (h:∀(w1:World),PW true true  w1→Q .normal {tmps:=#[t0,t1,.pointer (some ⟨ja,0,none⟩),.bool ok,.pointer (some ⟨jz,0,none⟩),.int .i64 0,t6,t7,t8,t9,t10,.agg #[υ z 0,υ z 1,υ z 2,υ z 3],.int .i64 0,.bool true,.bool true,.agg #[υ z 0,υ z 1,υ z 2,υ z 3],.bool ok,.bool ok],defers:=ds} w1) :
  (Code.region 2 tNO true).wp Tryz.prog Q {tmps:=#[t0,t1,.pointer (some ⟨ja,0,none⟩),t3,.pointer (some ⟨jz,0,none⟩),.int .i64 0,t6,t7,t8,t9,t10,t11,t12,t13,t14,t15,t16,t17],defers:=ds} w:=by
 have hsz:tNO.size=9:=by kernel_rfl
 generalize hT:List.toArray _=T0;have hs:T0.size=18:=by subst hT;rfl
 have g2:T0.getD 2 undef = .pointer (some ⟨ja,0,none⟩):=by subst hT;rfl
 have g4:T0.getD 4 undef = .pointer (some ⟨jz,0,none⟩):=by subst hT;rfl
 have g5:T0.getD 5 undef = .int .i64 0:=by subst hT;rfl
 obtain⟨W,hV⟩:∃W:List ((Nat×(Value→Value)) ⊕ Value),W=[.inr (.agg #[υ z 0,υ z 1,υ z 2,υ z 3]),.inr (.int .i64 0),.inr (.bool true),.inr (.bool true),.inr (.agg #[υ z 0,υ z 1,υ z 2,υ z 3]),.inr (.bool ok),.inr (.bool ok),.inr undef,.inr (.bool ok)]:=⟨_,rfl⟩;refine wp_plan (by kernel_rfl) T0 ds [5,7] tN_m (mkV W) (fun dx yx wx=>PW (dx 5) (dx 7)  wx) w (by rw [hs];kernel_rfl) (by kernel_rfl) (by kernel_rfl) (by rw [hsz];decide) (fun cx hc ix hne ha yx vx=>mkV_fix (by rw [hV];kernel_rfl) hne ha yx vx) (?key) (fun cx hc ox ho dx yx Tx wx hd hdb hda hK hW=>?_) ⟨fun k=>undef,w0⟩ (fun dx yx wx hd hW=>?_)
 case key=>
  rw [hsz];refine all_step (all_step (all_step (all_step (all_step (all_step (all_step (all_step (all_step all_zero ?_) ?_) ?_) ?_) ?_) ?_) ?_) ?_) ?_
  all_goals
   intro ox ho hic dx yx Tx wx hdb hK hW;replace hdb:=Lib.hid hdb
  ·obtain⟨ps,af,rfl⟩:=core (some 11) (.load 24 (.tmp 4)) 24 none ho;have e4:Tx.getD 4 undef = .pointer (some ⟨jz,0,none⟩):=hK.of (by kernel_rfl) g4;obtain⟨hlz0,hlz1,hlz2,hlz3⟩:=lz _ _ _ hW;exact wpOp_plain ho rfl (by subst hV;go_simp;try rfl)
  ·exact pl0 12 5 27 ho hK g5 fun ps af e=>k_mv e
  ·obtain⟨ps,af,rfl⟩:=core (some 13) (.binOp BinOp.eql 27 (.tmp 12) (.const (Value.int IntKind.i64 0)) 27) 4 none ho;have e12:Tx.getD 12 undef = .int .i64 0:=hK.is 1 ho;exact wpOp_plain ho rfl (by subst hV;go_simp;try rfl)
  ·exact pl1 14 13 2 4 ho hK fun ps af e=>k_mv e
  ·obtain⟨ps,af,rfl⟩:=core (some 15) (.load 24 (.tmp 4)) 24 (some (3,true)) ho;have e4:Tx.getD 4 undef = .pointer (some ⟨jz,0,none⟩):=hK.of (by kernel_rfl) g4;obtain⟨hlz0,hlz1,hlz2,hlz3⟩:=lz _ _ _ hW;exact wpOp_want ho ((wanted_of (d:=14) (b:=true) rfl (by kernel_rfl) (hK.is 3 ho)).trans rfl) (by subst hV;go_simp;try rfl)
  ·exact absurd (by decide) hic
  ·obtain⟨ps,af,rfl⟩:=core (some 17) (.pick (.tmp 14) (.tmp 16) (.const (Value.bool false))) 4 none ho;have e14:Tx.getD 14 undef = .bool true:=hK.is 3 ho;have e16:Tx.getD 16 undef = .bool ok:=hK.is 5 ho;exact wpOp_plain ho rfl (by subst hV;go_simp;try rfl)
  ·exact absurd (by decide) hic
  ·exact pl1 3 17 6 4 ho hK fun ps af e=>k_as e
 ·have hcase:cx=5∨cx=7:=by simpa using hc
  rcases hcase with rfl | rfl
  ·obtain⟨ps,af,rfl⟩:=core (some 16) (.call {callee:= .value (.func 41),args:=#[.tmp 15],argTypes:=#[24]}) 4 (some (3,true)) ho;have e15:Tx.getD 15 undef = .agg #[υ z 0,υ z 1,υ z 2,υ z 3]:=hK.is 4 ho;have hW1:PW (dx 5) (dx 7)  wx:=hW;have f7:=hq hda 7;clear hdb hda;rw [hd,f7.out] at hW1;clear hd hW hc;refine wpOp_want ho ((wanted_of (d:=14) (b:=true) rfl (by kernel_rfl) (hK.is 3 ho)).trans rfl) ?_;go_simp;go_at_call 41;refine(cl5 _ hW1).mono ?_;rintro ex w2 ⟨rfl,hW2⟩;subst hV
   first | refine⟨undef,rfl,?_⟩ | refine⟨⟨undef,rfl⟩,?_⟩
   simpa [updB,upd,f7.out] using hW2
  ·obtain⟨ps,af,rfl⟩:=core none (.store 24 (.tmp 2) (.tmp 11)) 0 none ho;have e2:Tx.getD 2 undef = .pointer (some ⟨ja,0,none⟩):=hK.of (by kernel_rfl) g2;have e11:Tx.getD 11 undef = .agg #[υ z 0,υ z 1,υ z 2,υ z 3]:=hK.is 0 ho;have hW1:PW (dx 5) (dx 7)  wx:=hW;have f5:=hq hdb 5;clear hdb hda;rw [hd,f5.out] at hW1;clear hd hW hc;obtain⟨d0,d1,d2,d3,hk,hW2⟩:=cl7 _ hW1;obtain⟨c0,c1,c2,c3⟩:=hk.cells;obtain⟨z0,z1,z2,z3⟩:=hk.fros;subst hV;refine wpOp_plain ho rfl ?_;go_simp
   simpa [updB,upd,f5.out] using hW2
 ·have hW1:PW (dx 5) (dx 7)  wx:=hW;rw [hd 5 (by decide),hd 7 (by decide)] at hW1;have hQ:=h _ hW1;rw [hsz];subst hV hT;refine cast (congrArg (fun Tx=>Q .normal ⟨Tx,ds⟩ wx) ?_) hQ
  kernel_rfl
noncomputable def tMO:Array Oper:=(Tryz.f60.body.bind fun c=>findR c 2).getD #[]
def tM_m:List (List Nat):=[[],[],[],[],[],[],[],[],[7]]
theorem tM (PW:Bool→World→Prop)(ja jz z:Nat)(w:World)  (cl7:∀(w:World),PW false w→∃(d0 d1 d2 d3:Value),Bk 24 w ja #[d0,d1,d2,d3]∧PW true  ((((w.setCell ⟨ja,0,none⟩ (υ z 0)).setCell ⟨ja,1,none⟩ (υ z 1)).setCell ⟨ja,2,none⟩ (υ z 2)).setCell ⟨ja,3,none⟩ (υ z 3)))(lz:∀(b7:Bool) (w:World),PW b7  w→w.cell? ⟨jz,0,none⟩=some (υ z 0)∧w.cell? ⟨jz,1,none⟩=some (υ z 1)∧w.cell? ⟨jz,2,none⟩=some (υ z 2)∧w.cell? ⟨jz,3,none⟩=some (υ z 3)) (w0:PW false  w.drew) 
  (h:∀(w1:World),PW true  w1→Q .normal {tmps:=#[t0,t1,.pointer (some ⟨ja,0,none⟩),.bool false,.pointer (some ⟨jz,0,none⟩),.int .i64 60,t6,t7,t8,t9,t10,.agg #[υ z 0,υ z 1,υ z 2,υ z 3],.int .i64 60,.bool false,.bool false,undef,undef,.bool false],defers:=ds} w1) :
  (Code.region 2 tMO true).wp Tryz.prog Q {tmps:=#[t0,t1,.pointer (some ⟨ja,0,none⟩),t3,.pointer (some ⟨jz,0,none⟩),.int .i64 60,t6,t7,t8,t9,t10,t11,t12,t13,t14,t15,t16,t17],defers:=ds} w:=by
 have hsz:tMO.size=9:=by kernel_rfl
 generalize hT:List.toArray _=T0;have hs:T0.size=18:=by subst hT;rfl
 have g2:T0.getD 2 undef = .pointer (some ⟨ja,0,none⟩):=by subst hT;rfl
 have g4:T0.getD 4 undef = .pointer (some ⟨jz,0,none⟩):=by subst hT;rfl
 have g5:T0.getD 5 undef = .int .i64 60:=by subst hT;rfl
 obtain⟨W,hV⟩:∃W:List ((Nat×(Value→Value)) ⊕ Value),W=[.inr (.agg #[υ z 0,υ z 1,υ z 2,υ z 3]),.inr (.int .i64 60),.inr (.bool false),.inr (.bool false),.inr undef,.inr undef,.inr (.bool false),.inr undef,.inr (.bool false)]:=⟨_,rfl⟩;refine wp_plan (by kernel_rfl) T0 ds [7] tM_m (mkV W) (fun dx yx wx=>PW (dx 7)  wx) w (by rw [hs];kernel_rfl) (by kernel_rfl) (by kernel_rfl) (by rw [hsz];decide) (fun cx hc ix hne ha yx vx=>mkV_fix (by rw [hV];kernel_rfl) hne ha yx vx) (?key) (fun cx hc ox ho dx yx Tx wx hd hdb hda hK hW=>?_) ⟨fun k=>undef,w0⟩ (fun dx yx wx hd hW=>?_)
 case key=>
  rw [hsz];refine all_step (all_step (all_step (all_step (all_step (all_step (all_step (all_step (all_step all_zero ?_) ?_) ?_) ?_) ?_) ?_) ?_) ?_) ?_
  all_goals
   intro ox ho hic dx yx Tx wx hdb hK hW;replace hdb:=Lib.hid hdb
  ·obtain⟨ps,af,rfl⟩:=core (some 11) (.load 24 (.tmp 4)) 24 none ho;have e4:Tx.getD 4 undef = .pointer (some ⟨jz,0,none⟩):=hK.of (by kernel_rfl) g4;obtain⟨hlz0,hlz1,hlz2,hlz3⟩:=lz _ _ hW;exact wpOp_plain ho rfl (by subst hV;go_simp;try rfl)
  ·exact pl0 12 5 27 ho hK g5 fun ps af e=>k_mv e
  ·obtain⟨ps,af,rfl⟩:=core (some 13) (.binOp BinOp.eql 27 (.tmp 12) (.const (Value.int IntKind.i64 0)) 27) 4 none ho;have e12:Tx.getD 12 undef = .int .i64 60:=hK.is 1 ho;exact wpOp_plain ho rfl (by subst hV;go_simp;try rfl)
  ·exact pl1 14 13 2 4 ho hK fun ps af e=>k_mv e
  ·exact psk 3 14 false true ho hK
  ·exact psk 3 14 false true ho hK
  ·obtain⟨ps,af,rfl⟩:=core (some 17) (.pick (.tmp 14) (.tmp 16) (.const (Value.bool false))) 4 none ho;have e14:Tx.getD 14 undef = .bool false:=hK.is 3 ho;have e16:Tx.getD 16 undef=undef:=hK.is 5 ho;exact wpOp_plain ho rfl (by subst hV;go_simp;try rfl)
  ·exact absurd (by decide) hic
  ·exact pl1 3 17 6 4 ho hK fun ps af e=>k_as e
 ·obtain rfl:cx=7:=by simpa using hc
  ·obtain⟨ps,af,rfl⟩:=core none (.store 24 (.tmp 2) (.tmp 11)) 0 none ho;have e2:Tx.getD 2 undef = .pointer (some ⟨ja,0,none⟩):=hK.of (by kernel_rfl) g2;have e11:Tx.getD 11 undef = .agg #[υ z 0,υ z 1,υ z 2,υ z 3]:=hK.is 0 ho;have hW1:PW (dx 7)  wx:=hW;clear hdb hda;rw [hd] at hW1;clear hd hW hc;obtain⟨d0,d1,d2,d3,hk,hW2⟩:=cl7 _ hW1;obtain⟨c0,c1,c2,c3⟩:=hk.cells;obtain⟨z0,z1,z2,z3⟩:=hk.fros;subst hV;refine wpOp_plain ho rfl ?_;go_simp
   simpa [updB,upd] using hW2
 ·have hW1:PW (dx 7)  wx:=hW;rw [hd 7 (by decide)] at hW1;have hQ:=h _ hW1;rw [hsz];subst hV hT;refine cast (congrArg (fun Tx=>Q .normal ⟨Tx,ds⟩ wx) ?_) hQ
  kernel_rfl
noncomputable def tGO:Array Oper:=(Tryz.f62.body.bind fun c=>findR c 2).getD #[]
def tG_m:List (List Nat):=[[],[],[],[],[2],[2,4],[2,4],[2,4],[],[2,4,8],[2,4,8,9]]
theorem tG (PW:Bool→Bool→Bool→Bool→Value→World→Prop)(gr gb gq r b rb x y u v:Nat)(i k:Bool)(w:World)  (cl2:∀(b8:Bool) (y8:Value) (w:World),PW false false b8 false y8 w→Calls Tryz.prog 113 #[.agg #[υ r 0,υ r 1,υ r 2,υ r 3],.agg #[υ b 0,υ b 1,υ b 2,υ b 3]] w fun e w1=>e = .returned (.agg #[υ rb 0,υ rb 1,υ rb 2,υ rb 3])∧PW true false b8 false y8 w1)(cl4:∀(b8:Bool) (y8:Value) (w:World),PW true false b8 false y8 w→Calls Tryz.prog 93 #[.agg #[υ rb 0,υ rb 1,υ rb 2,υ rb 3],.agg #[υ x 0,υ x 1,υ x 2,υ x 3,υ y 0,υ y 1,υ y 2,υ y 3,.bool i]] w fun e w1=>e = .returned (.tuple #[.agg #[υ u 0,υ u 1,υ u 2,υ u 3,υ v 0,υ v 1,υ v 2,υ v 3,.bool k],.int .i64 0])∧PW true true b8 false y8 w1)(cl8:∀(b2 b4:Bool) (y8:Value) (w:World),PW b2 b4 false false y8 w→PW b2 b4 true false (.pointer (some ⟨w.heap.size,0,none⟩)) (w.alloc (.cells #[.int .u64 0,.int .u64 0,.int .u64 0,.int .u64 0,.int .u64 0,.int .u64 0,.int .u64 0,.int .u64 0,.bool false] 26)))(cl9:∀(y8:Value) (w:World),PW true true true false y8 w→∃(g:Nat) (d0 d1 d2 d3 d4 d5 d6 d7 d8:Value),y8 = .pointer (some ⟨g,0,none⟩)∧Bk 26 w g #[d0,d1,d2,d3,d4,d5,d6,d7,d8]∧PW true true true true y8 (((((((((w.setCell ⟨g,0,none⟩ (υ u 0)).setCell ⟨g,1,none⟩ (υ u 1)).setCell ⟨g,2,none⟩ (υ u 2)).setCell ⟨g,3,none⟩ (υ u 3)).setCell ⟨g,4,none⟩ (υ v 0)).setCell ⟨g,5,none⟩ (υ v 1)).setCell ⟨g,6,none⟩ (υ v 2)).setCell ⟨g,7,none⟩ (υ v 3)).setCell ⟨g,8,none⟩ (.bool k)))(lr:∀(b2 b4 b8 b9:Bool) (y8:Value) (w:World),PW b2 b4 b8 b9 y8 w→w.cell? ⟨gr,0,none⟩=some (υ r 0)∧w.cell? ⟨gr,1,none⟩=some (υ r 1)∧w.cell? ⟨gr,2,none⟩=some (υ r 2)∧w.cell? ⟨gr,3,none⟩=some (υ r 3))(lb0:∀(b2 b4 b8 b9:Bool) (y8:Value) (w:World),PW b2 b4 b8 b9 y8 w→w.cell? ⟨gb,0,none⟩=some (υ b 0)∧w.cell? ⟨gb,1,none⟩=some (υ b 1)∧w.cell? ⟨gb,2,none⟩=some (υ b 2)∧w.cell? ⟨gb,3,none⟩=some (υ b 3))(lq:∀(b2 b4 b8 b9:Bool) (y8:Value) (w:World),PW b2 b4 b8 b9 y8 w→w.cell? ⟨gq,0,none⟩=some (υ x 0)∧w.cell? ⟨gq,1,none⟩=some (υ x 1)∧w.cell? ⟨gq,2,none⟩=some (υ x 2)∧w.cell? ⟨gq,3,none⟩=some (υ x 3)∧w.cell? ⟨gq,4,none⟩=some (υ y 0)∧w.cell? ⟨gq,5,none⟩=some (υ y 1)∧w.cell? ⟨gq,6,none⟩=some (υ y 2)∧w.cell? ⟨gq,7,none⟩=some (υ y 3)∧w.cell? ⟨gq,8,none⟩=some (.bool i)) (w0:PW false false false false t10 w.drew) 
  (h:∀(y8:Value) (w1:World),PW true true true true y8 w1→Q .normal {tmps:=#[t0,t1,t2,t3,.pointer (some ⟨gq,0,none⟩),t5,.pointer (some ⟨gr,0,none⟩),t7,t8,.pointer (some ⟨gb,0,none⟩),y8,.int .i64 0,t12,t13,t14,t15,.tuple #[.agg #[υ u 0,υ u 1,υ u 2,υ u 3,υ v 0,υ v 1,υ v 2,υ v 3,.bool k],.int .i64 0],.agg #[υ r 0,υ r 1,υ r 2,υ r 3],.agg #[υ b 0,υ b 1,υ b 2,υ b 3],.agg #[υ rb 0,υ rb 1,υ rb 2,υ rb 3],.agg #[υ x 0,υ x 1,υ x 2,υ x 3,υ y 0,υ y 1,υ y 2,υ y 3,.bool i],.tuple #[.agg #[υ u 0,υ u 1,υ u 2,υ u 3,υ v 0,υ v 1,υ v 2,υ v 3,.bool k],.int .i64 0],.agg #[υ u 0,υ u 1,υ u 2,υ u 3,υ v 0,υ v 1,υ v 2,υ v 3,.bool k],.int .i64 0,t24,t25,t26,t27,t28,t29,t30,t31,t32,t33,t34,t35,t36,t37,t38,t39,t40,t41,t42],defers:=ds} w1) :
  (Code.region 2 tGO true).wp Tryz.prog Q {tmps:=#[t0,t1,t2,t3,.pointer (some ⟨gq,0,none⟩),t5,.pointer (some ⟨gr,0,none⟩),t7,t8,.pointer (some ⟨gb,0,none⟩),t10,t11,t12,t13,t14,t15,t16,t17,t18,t19,t20,t21,t22,t23,t24,t25,t26,t27,t28,t29,t30,t31,t32,t33,t34,t35,t36,t37,t38,t39,t40,t41,t42],defers:=ds} w:=by
 have hsz:tGO.size=11:=by kernel_rfl
 generalize hT:List.toArray _=T0;have hs:T0.size=43:=by subst hT;rfl
 have g4:T0.getD 4 undef = .pointer (some ⟨gq,0,none⟩):=by subst hT;rfl
 have g6:T0.getD 6 undef = .pointer (some ⟨gr,0,none⟩):=by subst hT;rfl
 have g9:T0.getD 9 undef = .pointer (some ⟨gb,0,none⟩):=by subst hT;rfl
 obtain⟨W,hV⟩:∃W:List ((Nat×(Value→Value)) ⊕ Value),W=[.inr (.agg #[υ r 0,υ r 1,υ r 2,υ r 3]),.inr (.agg #[υ b 0,υ b 1,υ b 2,υ b 3]),.inr (.agg #[υ rb 0,υ rb 1,υ rb 2,υ rb 3]),.inr (.agg #[υ x 0,υ x 1,υ x 2,υ x 3,υ y 0,υ y 1,υ y 2,υ y 3,.bool i]),.inr (.tuple #[.agg #[υ u 0,υ u 1,υ u 2,υ u 3,υ v 0,υ v 1,υ v 2,υ v 3,.bool k],.int .i64 0]),.inr (.tuple #[.agg #[υ u 0,υ u 1,υ u 2,υ u 3,υ v 0,υ v 1,υ v 2,υ v 3,.bool k],.int .i64 0]),.inr (.agg #[υ u 0,υ u 1,υ u 2,υ u 3,υ v 0,υ v 1,υ v 2,υ v 3,.bool k]),.inr (.int .i64 0),.inl (8,id),.inr undef,.inr (.int .i64 0)]:=⟨_,rfl⟩;refine wp_plan (by kernel_rfl) T0 ds [2,4,8,9] tG_m (mkV W) (fun dx yx wx=>PW (dx 2) (dx 4) (dx 8) (dx 9) (yx 8) wx) w (by rw [hs];kernel_rfl) (by kernel_rfl) (by kernel_rfl) (by rw [hsz];decide) (fun cx hc ix hne ha yx vx=>mkV_fix (by rw [hV];kernel_rfl) hne ha yx vx) (?key) (fun cx hc ox ho dx yx Tx wx hd hdb hda hK hW=>?_) ⟨fun k=>if k=8 then t10 else undef,w0⟩ (fun dx yx wx hd hW=>?_)
 case key=>
  rw [hsz];refine all_step (all_step (all_step (all_step (all_step (all_step (all_step (all_step (all_step (all_step (all_step all_zero ?_) ?_) ?_) ?_) ?_) ?_) ?_) ?_) ?_) ?_) ?_
  all_goals
   intro ox ho hic dx yx Tx wx hdb hK hW;replace hdb:=Lib.hid hdb
  ·obtain⟨ps,af,rfl⟩:=core (some 17) (.load 24 (.tmp 6)) 24 none ho;have e6:Tx.getD 6 undef = .pointer (some ⟨gr,0,none⟩):=hK.of (by kernel_rfl) g6;obtain⟨hlr0,hlr1,hlr2,hlr3⟩:=lr _ _ _ _ _ _ hW;exact wpOp_plain ho rfl (by subst hV;go_simp;try rfl)
  ·obtain⟨ps,af,rfl⟩:=core (some 18) (.load 24 (.tmp 9)) 24 none ho;have e9:Tx.getD 9 undef = .pointer (some ⟨gb,0,none⟩):=hK.of (by kernel_rfl) g9;obtain⟨hlb00,hlb01,hlb02,hlb03⟩:=lb0 _ _ _ _ _ _ hW;exact wpOp_plain ho rfl (by subst hV;go_simp;try rfl)
  ·exact absurd (by decide) hic
  ·obtain⟨ps,af,rfl⟩:=core (some 20) (.load 26 (.tmp 4)) 26 none ho;have e4:Tx.getD 4 undef = .pointer (some ⟨gq,0,none⟩):=hK.of (by kernel_rfl) g4;obtain⟨hlq0,hlq1,hlq2,hlq3,hlq4,hlq5,hlq6,hlq7,hlq8⟩:=lq _ _ _ _ _ _ hW;exact wpOp_plain ho rfl (by subst hV;go_simp;try rfl)
  ·exact absurd (by decide) hic
  ·exact pl1 16 21 4 28 ho hK fun ps af e=>k_mv e
  ·obtain⟨ps,af,rfl⟩:=core (some 22) (.extract (.tmp 16) 0) 26 none ho;have e16:Tx.getD 16 undef = .tuple #[.agg #[υ u 0,υ u 1,υ u 2,υ u 3,υ v 0,υ v 1,υ v 2,υ v 3,.bool k],.int .i64 0]:=hK.is 5 ho;exact wpOp_plain ho rfl (by subst hV;go_simp;try rfl)
  ·obtain⟨ps,af,rfl⟩:=core (some 23) (.extract (.tmp 16) 1) 27 none ho;have e16:Tx.getD 16 undef = .tuple #[.agg #[υ u 0,υ u 1,υ u 2,υ u 3,υ v 0,υ v 1,υ v 2,υ v 3,.bool k],.int .i64 0]:=hK.is 5 ho;exact wpOp_plain ho rfl (by subst hV;go_simp;try rfl)
  ·exact absurd (by decide) hic
  ·exact absurd (by decide) hic
  ·exact pl1 11 23 7 27 ho hK fun ps af e=>k_as e
 ·have hcase:cx=2∨cx=4∨cx=8∨cx=9:=by simpa using hc
  rcases hcase with rfl | rfl | rfl | rfl
  ·obtain⟨ps,af,rfl⟩:=core (some 19) (.call {callee:= .value (.func 113),args:=#[.tmp 17,.tmp 18],argTypes:=#[24,24]}) 24 none ho;have e17:Tx.getD 17 undef = .agg #[υ r 0,υ r 1,υ r 2,υ r 3]:=hK.is 0 ho;have e18:Tx.getD 18 undef = .agg #[υ b 0,υ b 1,υ b 2,υ b 3]:=hK.is 1 ho;have hW1:PW (dx 2) (dx 4) (dx 8) (dx 9) (yx 8) wx:=hW;have f4:=hq hda 4;have f9:=hq hda 9;clear hdb hda;rw [hd,f4.out,f9.out] at hW1;clear hd hW hc;refine wpOp_plain ho rfl ?_;go_simp;go_at_call 113;refine(cl2 _ _ _ hW1).mono ?_;rintro ex w2 ⟨rfl,hW2⟩;subst hV
   first | refine⟨undef,rfl,?_⟩ | refine⟨⟨undef,rfl⟩,?_⟩
   simpa [updB,upd,f4.out,f9.out] using hW2
  ·obtain⟨ps,af,rfl⟩:=core (some 21) (.call {callee:= .value (.func 93),args:=#[.tmp 19,.tmp 20],argTypes:=#[24,26]}) 28 none ho;have e19:Tx.getD 19 undef = .agg #[υ rb 0,υ rb 1,υ rb 2,υ rb 3]:=hK.is 2 ho;have e20:Tx.getD 20 undef = .agg #[υ x 0,υ x 1,υ x 2,υ x 3,υ y 0,υ y 1,υ y 2,υ y 3,.bool i]:=hK.is 3 ho;have hW1:PW (dx 2) (dx 4) (dx 8) (dx 9) (yx 8) wx:=hW;have f2:=hq hdb 2;have f9:=hq hda 9;clear hdb hda;rw [hd,f2.out,f9.out] at hW1;clear hd hW hc;refine wpOp_plain ho rfl ?_;go_simp;go_at_call 93;refine(cl4 _ _ _ hW1).mono ?_;rintro ex w2 ⟨rfl,hW2⟩;subst hV
   first | refine⟨undef,rfl,?_⟩ | refine⟨⟨undef,rfl⟩,?_⟩
   simpa [updB,upd,f2.out,f9.out] using hW2
  ·obtain⟨ps,af,rfl⟩:=core (some 10) (.alloc 26) 0 none ho;have hW1:PW (dx 2) (dx 4) (dx 8) (dx 9) (yx 8) wx:=hW;have f9:=hq hda 9;clear hdb hda;rw [hd,f9.out] at hW1;clear hd hW hc;have hW2:=cl8 _ _ _ _ hW1;subst hV;refine wpOp_plain ho rfl ?_;go_simp;refine⟨_,rfl,?_⟩
   simpa [updB,upd,f9.out] using hW2
  ·obtain⟨ps,af,rfl⟩:=core none (.store 26 (.tmp 10) (.tmp 22)) 0 none ho;have e10:Tx.getD 10 undef=yx 8:=hK.is 8 ho;have e22:Tx.getD 22 undef = .agg #[υ u 0,υ u 1,υ u 2,υ u 3,υ v 0,υ v 1,υ v 2,υ v 3,.bool k]:=hK.is 6 ho;have hW1:PW (dx 2) (dx 4) (dx 8) (dx 9) (yx 8) wx:=hW;have f2:=hq hdb 2;have f4:=hq hdb 4;have f8:=hq hdb 8;clear hdb hda;rw [hd,f2.out,f4.out,f8.out] at hW1;clear hd hW hc;obtain⟨g,d0,d1,d2,d3,d4,d5,d6,d7,d8,e6,hk,hW2⟩:=cl9 _ _ hW1;rw [e6] at e10;obtain⟨⟨c0,c1,c2,c3⟩,⟨c4,c5,c6,c7⟩,c8⟩:=hk.cells9;obtain⟨⟨z0,z1,z2,z3⟩,⟨z4,z5,z6,z7⟩,z8⟩:=hk.fros9;subst hV;refine wpOp_plain ho rfl ?_;go_simp
   simpa [updB,upd,f2.out,f4.out,f8.out] using hW2
 ·have hW1:PW (dx 2) (dx 4) (dx 8) (dx 9) (yx 8) wx:=hW;rw [hd 2 (by decide),hd 4 (by decide),hd 8 (by decide),hd 9 (by decide)] at hW1;have hQ:=h _ _ hW1;rw [hsz];subst hV hT;refine cast (congrArg (fun Tx=>Q .normal ⟨Tx,ds⟩ wx) ?_) hQ
  kernel_rfl
noncomputable def tHO:Array Oper:=(Tryz.f62.body.bind fun c=>findR c 3).getD #[]
def tH_m:List (List Nat):=[[],[],[],[2],[],[2,3],[2,3,5],[2,3,5],[2,3,5],[],[2,3,5,9],[2,3,5,9,10]]
theorem tH (PW:Bool→Bool→Bool→Bool→Bool→Value→World→Prop)(ge gb gq e0 b eb x y u v m n:Nat)(i k o:Bool)(w:World)  (cl2:∀(b9:Bool) (y9:Value) (w:World),PW false false false b9 false y9 w→Calls Tryz.prog 113 #[.agg #[υ e0 0,υ e0 1,υ e0 2,υ e0 3],.agg #[υ b 0,υ b 1,υ b 2,υ b 3]] w fun e w1=>e = .returned (.agg #[υ eb 0,υ eb 1,υ eb 2,υ eb 3])∧PW true false false b9 false y9 w1)(cl3:∀(b9:Bool) (y9:Value) (w:World),PW true false false b9 false y9 w→Calls Tryz.prog 42 #[.agg #[υ eb 0,υ eb 1,υ eb 2,υ eb 3]] w fun e w1=>e = .returned (.agg #[υ x 0,υ x 1,υ x 2,υ x 3,υ y 0,υ y 1,υ y 2,υ y 3,.bool i])∧PW true true false b9 false y9 w1)(cl5:∀(b9:Bool) (y9:Value) (w:World),PW true true false b9 false y9 w→Calls Tryz.prog 114 #[.agg #[υ x 0,υ x 1,υ x 2,υ x 3,υ y 0,υ y 1,υ y 2,υ y 3,.bool i],.agg #[υ u 0,υ u 1,υ u 2,υ u 3,υ v 0,υ v 1,υ v 2,υ v 3,.bool k]] w fun e w1=>e = .returned (.tuple #[.agg #[υ m 0,υ m 1,υ m 2,υ m 3,υ n 0,υ n 1,υ n 2,υ n 3,.bool o],.int .i64 0])∧PW true true true b9 false y9 w1)(cl9:∀(b2 b3 b5:Bool) (y9:Value) (w:World),PW b2 b3 b5 false false y9 w→PW b2 b3 b5 true false (.pointer (some ⟨w.heap.size,0,none⟩)) (w.alloc (.cells #[.int .u64 0,.int .u64 0,.int .u64 0,.int .u64 0,.int .u64 0,.int .u64 0,.int .u64 0,.int .u64 0,.bool false] 26)))(cl10:∀(y9:Value) (w:World),PW true true true true false y9 w→∃(g:Nat) (d0 d1 d2 d3 d4 d5 d6 d7 d8:Value),y9 = .pointer (some ⟨g,0,none⟩)∧Bk 26 w g #[d0,d1,d2,d3,d4,d5,d6,d7,d8]∧PW true true true true true y9 (((((((((w.setCell ⟨g,0,none⟩ (υ m 0)).setCell ⟨g,1,none⟩ (υ m 1)).setCell ⟨g,2,none⟩ (υ m 2)).setCell ⟨g,3,none⟩ (υ m 3)).setCell ⟨g,4,none⟩ (υ n 0)).setCell ⟨g,5,none⟩ (υ n 1)).setCell ⟨g,6,none⟩ (υ n 2)).setCell ⟨g,7,none⟩ (υ n 3)).setCell ⟨g,8,none⟩ (.bool o)))(le:∀(b2 b3 b5 b9 b10:Bool) (y9:Value) (w:World),PW b2 b3 b5 b9 b10 y9 w→w.cell? ⟨ge,0,none⟩=some (υ e0 0)∧w.cell? ⟨ge,1,none⟩=some (υ e0 1)∧w.cell? ⟨ge,2,none⟩=some (υ e0 2)∧w.cell? ⟨ge,3,none⟩=some (υ e0 3))(lb0:∀(b2 b3 b5 b9 b10:Bool) (y9:Value) (w:World),PW b2 b3 b5 b9 b10 y9 w→w.cell? ⟨gb,0,none⟩=some (υ b 0)∧w.cell? ⟨gb,1,none⟩=some (υ b 1)∧w.cell? ⟨gb,2,none⟩=some (υ b 2)∧w.cell? ⟨gb,3,none⟩=some (υ b 3))(lq:∀(b2 b3 b5 b9 b10:Bool) (y9:Value) (w:World),PW b2 b3 b5 b9 b10 y9 w→w.cell? ⟨gq,0,none⟩=some (υ u 0)∧w.cell? ⟨gq,1,none⟩=some (υ u 1)∧w.cell? ⟨gq,2,none⟩=some (υ u 2)∧w.cell? ⟨gq,3,none⟩=some (υ u 3)∧w.cell? ⟨gq,4,none⟩=some (υ v 0)∧w.cell? ⟨gq,5,none⟩=some (υ v 1)∧w.cell? ⟨gq,6,none⟩=some (υ v 2)∧w.cell? ⟨gq,7,none⟩=some (υ v 3)∧w.cell? ⟨gq,8,none⟩=some (.bool k)) (w0:PW false false false false false t12 w.drew) 
  (h:∀(y9:Value) (w1:World),PW true true true true true y9 w1→Q .normal {tmps:=#[t0,t1,t2,t3,t4,.pointer (some ⟨ge,0,none⟩),t6,t7,t8,.pointer (some ⟨gb,0,none⟩),.pointer (some ⟨gq,0,none⟩),t11,y9,.int .i64 0,t14,t15,t16,t17,t18,t19,t20,t21,t22,t23,.tuple #[.agg #[υ m 0,υ m 1,υ m 2,υ m 3,υ n 0,υ n 1,υ n 2,υ n 3,.bool o],.int .i64 0],.agg #[υ e0 0,υ e0 1,υ e0 2,υ e0 3],.agg #[υ b 0,υ b 1,υ b 2,υ b 3],.agg #[υ eb 0,υ eb 1,υ eb 2,υ eb 3],.agg #[υ x 0,υ x 1,υ x 2,υ x 3,υ y 0,υ y 1,υ y 2,υ y 3,.bool i],.agg #[υ u 0,υ u 1,υ u 2,υ u 3,υ v 0,υ v 1,υ v 2,υ v 3,.bool k],.tuple #[.agg #[υ m 0,υ m 1,υ m 2,υ m 3,υ n 0,υ n 1,υ n 2,υ n 3,.bool o],.int .i64 0],.agg #[υ m 0,υ m 1,υ m 2,υ m 3,υ n 0,υ n 1,υ n 2,υ n 3,.bool o],.int .i64 0,t33,t34,t35,t36,t37,t38,t39,t40,t41,t42],defers:=ds} w1) :
  (Code.region 3 tHO true).wp Tryz.prog Q {tmps:=#[t0,t1,t2,t3,t4,.pointer (some ⟨ge,0,none⟩),t6,t7,t8,.pointer (some ⟨gb,0,none⟩),.pointer (some ⟨gq,0,none⟩),t11,t12,t13,t14,t15,t16,t17,t18,t19,t20,t21,t22,t23,t24,t25,t26,t27,t28,t29,t30,t31,t32,t33,t34,t35,t36,t37,t38,t39,t40,t41,t42],defers:=ds} w:=by
 have hsz:tHO.size=12:=by kernel_rfl
 generalize hT:List.toArray _=T0;have hs:T0.size=43:=by subst hT;rfl
 have g5:T0.getD 5 undef = .pointer (some ⟨ge,0,none⟩):=by subst hT;rfl
 have g9:T0.getD 9 undef = .pointer (some ⟨gb,0,none⟩):=by subst hT;rfl
 have g10:T0.getD 10 undef = .pointer (some ⟨gq,0,none⟩):=by subst hT;rfl
 obtain⟨W,hV⟩:∃W:List ((Nat×(Value→Value)) ⊕ Value),W=[.inr (.agg #[υ e0 0,υ e0 1,υ e0 2,υ e0 3]),.inr (.agg #[υ b 0,υ b 1,υ b 2,υ b 3]),.inr (.agg #[υ eb 0,υ eb 1,υ eb 2,υ eb 3]),.inr (.agg #[υ x 0,υ x 1,υ x 2,υ x 3,υ y 0,υ y 1,υ y 2,υ y 3,.bool i]),.inr (.agg #[υ u 0,υ u 1,υ u 2,υ u 3,υ v 0,υ v 1,υ v 2,υ v 3,.bool k]),.inr (.tuple #[.agg #[υ m 0,υ m 1,υ m 2,υ m 3,υ n 0,υ n 1,υ n 2,υ n 3,.bool o],.int .i64 0]),.inr (.tuple #[.agg #[υ m 0,υ m 1,υ m 2,υ m 3,υ n 0,υ n 1,υ n 2,υ n 3,.bool o],.int .i64 0]),.inr (.agg #[υ m 0,υ m 1,υ m 2,υ m 3,υ n 0,υ n 1,υ n 2,υ n 3,.bool o]),.inr (.int .i64 0),.inl (9,id),.inr undef,.inr (.int .i64 0)]:=⟨_,rfl⟩;refine wp_plan (by kernel_rfl) T0 ds [2,3,5,9,10] tH_m (mkV W) (fun dx yx wx=>PW (dx 2) (dx 3) (dx 5) (dx 9) (dx 10) (yx 9) wx) w (by rw [hs];kernel_rfl) (by kernel_rfl) (by kernel_rfl) (by rw [hsz];decide) (fun cx hc ix hne ha yx vx=>mkV_fix (by rw [hV];kernel_rfl) hne ha yx vx) (?key) (fun cx hc ox ho dx yx Tx wx hd hdb hda hK hW=>?_) ⟨fun k=>if k=9 then t12 else undef,w0⟩ (fun dx yx wx hd hW=>?_)
 case key=>
  rw [hsz];refine all_step (all_step (all_step (all_step (all_step (all_step (all_step (all_step (all_step (all_step (all_step (all_step all_zero ?_) ?_) ?_) ?_) ?_) ?_) ?_) ?_) ?_) ?_) ?_) ?_
  all_goals
   intro ox ho hic dx yx Tx wx hdb hK hW;replace hdb:=Lib.hid hdb
  ·obtain⟨ps,af,rfl⟩:=core (some 25) (.load 24 (.tmp 5)) 24 none ho;have e5:Tx.getD 5 undef = .pointer (some ⟨ge,0,none⟩):=hK.of (by kernel_rfl) g5;obtain⟨hle0,hle1,hle2,hle3⟩:=le _ _ _ _ _ _ _ hW;exact wpOp_plain ho rfl (by subst hV;go_simp;try rfl)
  ·obtain⟨ps,af,rfl⟩:=core (some 26) (.load 24 (.tmp 9)) 24 none ho;have e9:Tx.getD 9 undef = .pointer (some ⟨gb,0,none⟩):=hK.of (by kernel_rfl) g9;obtain⟨hlb00,hlb01,hlb02,hlb03⟩:=lb0 _ _ _ _ _ _ _ hW;exact wpOp_plain ho rfl (by subst hV;go_simp;try rfl)
  ·exact absurd (by decide) hic
  ·exact absurd (by decide) hic
  ·obtain⟨ps,af,rfl⟩:=core (some 29) (.load 26 (.tmp 10)) 26 none ho;have e10:Tx.getD 10 undef = .pointer (some ⟨gq,0,none⟩):=hK.of (by kernel_rfl) g10;obtain⟨hlq0,hlq1,hlq2,hlq3,hlq4,hlq5,hlq6,hlq7,hlq8⟩:=lq _ _ _ _ _ _ _ hW;exact wpOp_plain ho rfl (by subst hV;go_simp;try rfl)
  ·exact absurd (by decide) hic
  ·exact pl1 24 30 5 28 ho hK fun ps af e=>k_mv e
  ·obtain⟨ps,af,rfl⟩:=core (some 31) (.extract (.tmp 24) 0) 26 none ho;have e24:Tx.getD 24 undef = .tuple #[.agg #[υ m 0,υ m 1,υ m 2,υ m 3,υ n 0,υ n 1,υ n 2,υ n 3,.bool o],.int .i64 0]:=hK.is 6 ho;exact wpOp_plain ho rfl (by subst hV;go_simp;try rfl)
  ·obtain⟨ps,af,rfl⟩:=core (some 32) (.extract (.tmp 24) 1) 27 none ho;have e24:Tx.getD 24 undef = .tuple #[.agg #[υ m 0,υ m 1,υ m 2,υ m 3,υ n 0,υ n 1,υ n 2,υ n 3,.bool o],.int .i64 0]:=hK.is 6 ho;exact wpOp_plain ho rfl (by subst hV;go_simp;try rfl)
  ·exact absurd (by decide) hic
  ·exact absurd (by decide) hic
  ·exact pl1 13 32 8 27 ho hK fun ps af e=>k_as e
 ·have hcase:cx=2∨cx=3∨cx=5∨cx=9∨cx=10:=by simpa using hc
  rcases hcase with rfl | rfl | rfl | rfl | rfl
  ·obtain⟨ps,af,rfl⟩:=core (some 27) (.call {callee:= .value (.func 113),args:=#[.tmp 25,.tmp 26],argTypes:=#[24,24]}) 24 none ho;have e25:Tx.getD 25 undef = .agg #[υ e0 0,υ e0 1,υ e0 2,υ e0 3]:=hK.is 0 ho;have e26:Tx.getD 26 undef = .agg #[υ b 0,υ b 1,υ b 2,υ b 3]:=hK.is 1 ho;have hW1:PW (dx 2) (dx 3) (dx 5) (dx 9) (dx 10) (yx 9) wx:=hW;have f3:=hq hda 3;have f5:=hq hda 5;have f10:=hq hda 10;clear hdb hda;rw [hd,f3.out,f5.out,f10.out] at hW1;clear hd hW hc;refine wpOp_plain ho rfl ?_;go_simp;go_at_call 113;refine(cl2 _ _ _ hW1).mono ?_;rintro ex w2 ⟨rfl,hW2⟩;subst hV
   first | refine⟨undef,rfl,?_⟩ | refine⟨⟨undef,rfl⟩,?_⟩
   simpa [updB,upd,f3.out,f5.out,f10.out] using hW2
  ·obtain⟨ps,af,rfl⟩:=core (some 28) (.call {callee:= .value (.func 42),args:=#[.tmp 27],argTypes:=#[24]}) 26 none ho;have e27:Tx.getD 27 undef = .agg #[υ eb 0,υ eb 1,υ eb 2,υ eb 3]:=hK.is 2 ho;have hW1:PW (dx 2) (dx 3) (dx 5) (dx 9) (dx 10) (yx 9) wx:=hW;have f2:=hq hdb 2;have f5:=hq hda 5;have f10:=hq hda 10;clear hdb hda;rw [hd,f2.out,f5.out,f10.out] at hW1;clear hd hW hc;refine wpOp_plain ho rfl ?_;go_simp;go_at_call 42;refine(cl3 _ _ _ hW1).mono ?_;rintro ex w2 ⟨rfl,hW2⟩;subst hV
   first | refine⟨undef,rfl,?_⟩ | refine⟨⟨undef,rfl⟩,?_⟩
   simpa [updB,upd,f2.out,f5.out,f10.out] using hW2
  ·obtain⟨ps,af,rfl⟩:=core (some 30) (.call {callee:= .value (.func 114),args:=#[.tmp 28,.tmp 29],argTypes:=#[26,26]}) 28 none ho;have e28:Tx.getD 28 undef = .agg #[υ x 0,υ x 1,υ x 2,υ x 3,υ y 0,υ y 1,υ y 2,υ y 3,.bool i]:=hK.is 3 ho;have e29:Tx.getD 29 undef = .agg #[υ u 0,υ u 1,υ u 2,υ u 3,υ v 0,υ v 1,υ v 2,υ v 3,.bool k]:=hK.is 4 ho;have hW1:PW (dx 2) (dx 3) (dx 5) (dx 9) (dx 10) (yx 9) wx:=hW;have f2:=hq hdb 2;have f3:=hq hdb 3;have f10:=hq hda 10;clear hdb hda;rw [hd,f2.out,f3.out,f10.out] at hW1;clear hd hW hc;refine wpOp_plain ho rfl ?_;go_simp;go_at_call 114;refine(cl5 _ _ _ hW1).mono ?_;rintro ex w2 ⟨rfl,hW2⟩;subst hV
   first | refine⟨undef,rfl,?_⟩ | refine⟨⟨undef,rfl⟩,?_⟩
   simpa [updB,upd,f2.out,f3.out,f10.out] using hW2
  ·obtain⟨ps,af,rfl⟩:=core (some 12) (.alloc 26) 0 none ho;have hW1:PW (dx 2) (dx 3) (dx 5) (dx 9) (dx 10) (yx 9) wx:=hW;have f10:=hq hda 10;clear hdb hda;rw [hd,f10.out] at hW1;clear hd hW hc;have hW2:=cl9 _ _ _ _ _ hW1;subst hV;refine wpOp_plain ho rfl ?_;go_simp;refine⟨_,rfl,?_⟩
   simpa [updB,upd,f10.out] using hW2
  ·obtain⟨ps,af,rfl⟩:=core none (.store 26 (.tmp 12) (.tmp 31)) 0 none ho;have e12:Tx.getD 12 undef=yx 9:=hK.is 9 ho;have e31:Tx.getD 31 undef = .agg #[υ m 0,υ m 1,υ m 2,υ m 3,υ n 0,υ n 1,υ n 2,υ n 3,.bool o]:=hK.is 7 ho;have hW1:PW (dx 2) (dx 3) (dx 5) (dx 9) (dx 10) (yx 9) wx:=hW;have f2:=hq hdb 2;have f3:=hq hdb 3;have f5:=hq hdb 5;have f9:=hq hdb 9;clear hdb hda;rw [hd,f2.out,f3.out,f5.out,f9.out] at hW1;clear hd hW hc;obtain⟨g,d0,d1,d2,d3,d4,d5,d6,d7,d8,e6,hk,hW2⟩:=cl10 _ _ hW1;rw [e6] at e12;obtain⟨⟨c0,c1,c2,c3⟩,⟨c4,c5,c6,c7⟩,c8⟩:=hk.cells9;obtain⟨⟨z0,z1,z2,z3⟩,⟨z4,z5,z6,z7⟩,z8⟩:=hk.fros9;subst hV;refine wpOp_plain ho rfl ?_;go_simp
   simpa [updB,upd,f2.out,f3.out,f5.out,f9.out] using hW2
 ·have hW1:PW (dx 2) (dx 3) (dx 5) (dx 9) (dx 10) (yx 9) wx:=hW;rw [hd 2 (by decide),hd 3 (by decide),hd 5 (by decide),hd 9 (by decide),hd 10 (by decide)] at hW1;have hQ:=h _ _ hW1;rw [hsz];subst hV hT;refine cast (congrArg (fun Tx=>Q .normal ⟨Tx,ds⟩ wx) ?_) hQ
  kernel_rfl
end Pl
namespace Pl
open Go.RowKit Go.Sort Limbs
noncomputable def tFO:Array Oper:=(Tryz.f13.body.bind fun c=>findR c 8).getD #[]
def tF_m:List (List Nat):=[[],[],[1],[1],[1],[1],[1],[1],[1],[1],[1],[1],[1],[1],[1],[1],[1],[1],[1],[1],[1,19],[1,19],[1,19],[1,19],[1,19],[1,19,24],[1,19,24],[1,19,24],[1,19,24],[1,19,24],[1,19,24,29],[1,19,24,29],[1,19,24,29],[1,19,24,29],[1,19,24,29],[1,19,24,29],[1,19,24,29],[1,19,24,29],[1,19,24,29],[1,19,24,29],[1,19,24,29]]
set_option maxHeartbeats 32000000 in
theorem tF (PW:Bool→Bool→Bool→Bool→World→Prop)(gp r:Nat)(kd mc:ByteArray)(w:World)  (cl1:∀(w:World),PW false false false false w→Calls Tryz.prog 48 #[] w fun e w1=>e = .returned (.agg #[.int .u64 17627433388654248598,.int .u64 8575836109218198432,.int .u64 17923454489921339634,.int .u64 7716867327612699207,.int .u64 14678990851816772085,.int .u64 3156516839386865358,.int .u64 10297457778147434006,.int .u64 5756518291402817435,.bool false])∧PW true false false false  w1)(cl19:∀(w:World),PW true false false false w→Calls Tryz.prog 26 #[.pointer (some ⟨r,0,none⟩),.string kd,.string ⟨#[115]⟩,.string mc] w fun e w1=>e = .returned (.bool true)∧PW true true false false  w1)(cl24:∀(w:World),PW true true false false w→Calls Tryz.prog 26 #[.pointer (some ⟨r,0,none⟩),.string ⟨#[]⟩,.string ⟨#[115]⟩,.string mc] w fun e w1=>e = .returned (.bool false)∧PW true true true false  w1)(cl29:∀(w:World),PW true true true false w→Calls Tryz.prog 16 #[.agg #[.int .u64 17627433388654248598,.int .u64 8575836109218198432,.int .u64 17923454489921339634,.int .u64 7716867327612699207,.int .u64 14678990851816772085,.int .u64 3156516839386865358,.int .u64 10297457778147434006,.int .u64 5756518291402817435,.bool false],.string ⟨#[]⟩,.string ⟨#[]⟩] w fun e w1=>e = .returned (.bool false)∧PW true true true true  w1)(lk:∀(b1 b19 b24 b29:Bool) (w:World),PW b1 b19 b24 b29 w→w.cell? ⟨gp,0,none⟩=some (.int .u64 17627433388654248598)∧w.cell? ⟨gp,1,none⟩=some (.int .u64 8575836109218198432)∧w.cell? ⟨gp,2,none⟩=some (.int .u64 17923454489921339634)∧w.cell? ⟨gp,3,none⟩=some (.int .u64 7716867327612699207)∧w.cell? ⟨gp,4,none⟩=some (.int .u64 14678990851816772085)∧w.cell? ⟨gp,5,none⟩=some (.int .u64 3156516839386865358)∧w.cell? ⟨gp,6,none⟩=some (.int .u64 10297457778147434006)∧w.cell? ⟨gp,7,none⟩=some (.int .u64 5756518291402817435)∧w.cell? ⟨gp,8,none⟩=some (.bool false))(hq:∀w,(Op.equalIn 10000 26 (.agg #[.int .u64 17627433388654248598,.int .u64 8575836109218198432,.int .u64 17923454489921339634,.int .u64 7716867327612699207,.int .u64 14678990851816772085,.int .u64 3156516839386865358,.int .u64 10297457778147434006,.int .u64 5756518291402817435,.bool false]) (.agg #[.int .u64 17627433388654248598,.int .u64 8575836109218198432,.int .u64 17923454489921339634,.int .u64 7716867327612699207,.int .u64 14678990851816772085,.int .u64 3156516839386865358,.int .u64 10297457778147434006,.int .u64 5756518291402817435,.bool false])).run Tryz.prog w = .ok true w){t0 t3 t5 t10 t11 t12 t13 t14 t15 t16 t17 t18 t19 t20 t21 t22 t23 t24 t25 t26 t27 t28 t29 t30 t31 t32 t33 t34 t35 t36 t37 t38 t39 t40 t41 t42 t43 t44 t45 t46 t47 t48 t49 t50 t51 t52 t53 t54 t55 t56 t57 t58 t59 t60 t61 t62 t63 t64 t65 t66 t67 t68 t69 t70 t71 t72 t73 t74 t75 t76 t77 t78 t79 t80 t81 t82 t83 t84 t85 t86 t87 t88:Value}(w0:PW false false false false  w.drew){ds:List Deferred}{Q:Exit→Act→World→Prop}
  (h:∀(w1:World),PW true true true true  w1→Q .normal {tmps:=#[.bool true,.pointer (some ⟨gp,0,none⟩),.int .i64 0,t3,.int .i64 80,t5,.int .i64 80,.pointer (some ⟨r,0,none⟩),.string kd,.string mc,t10,t11,t12,t13,t14,t15,t16,t17,t18,t19,t20,t21,t22,t23,t24,t25,t26,t27,t28,t29,t30,t31,t32,t33,t34,t35,t36,t37,t38,t39,t40,t41,t42,t43,t44,t45,t46,t47,t48,.agg #[.int .u64 17627433388654248598,.int .u64 8575836109218198432,.int .u64 17923454489921339634,.int .u64 7716867327612699207,.int .u64 14678990851816772085,.int .u64 3156516839386865358,.int .u64 10297457778147434006,.int .u64 5756518291402817435,.bool false],.agg #[.int .u64 17627433388654248598,.int .u64 8575836109218198432,.int .u64 17923454489921339634,.int .u64 7716867327612699207,.int .u64 14678990851816772085,.int .u64 3156516839386865358,.int .u64 10297457778147434006,.int .u64 5756518291402817435,.bool false],.bool true,.bool true,.int .i64 0,.bool true,.bool true,.bool true,.int .i64 80,.bool true,.bool true,.bool true,.int .i64 80,.bool true,.bool true,.bool true,.pointer (some ⟨r,0,none⟩),.string kd,.string mc,.bool true,.bool true,.bool true,.pointer (some ⟨r,0,none⟩),.string mc,.bool false,.bool true,.bool true,.bool true,.agg #[.int .u64 17627433388654248598,.int .u64 8575836109218198432,.int .u64 17923454489921339634,.int .u64 7716867327612699207,.int .u64 14678990851816772085,.int .u64 3156516839386865358,.int .u64 10297457778147434006,.int .u64 5756518291402817435,.bool false],.bool false,.bool true,.bool true,.bool true,.bool true,.bool true,.bool true,.bool true,.bool true,.bool true,.bool true],defers:=ds} w1) :
  (Code.region 8 tFO true).wp Tryz.prog Q {tmps:=#[t0,.pointer (some ⟨gp,0,none⟩),.int .i64 0,t3,.int .i64 80,t5,.int .i64 80,.pointer (some ⟨r,0,none⟩),.string kd,.string mc,t10,t11,t12,t13,t14,t15,t16,t17,t18,t19,t20,t21,t22,t23,t24,t25,t26,t27,t28,t29,t30,t31,t32,t33,t34,t35,t36,t37,t38,t39,t40,t41,t42,t43,t44,t45,t46,t47,t48,t49,t50,t51,t52,t53,t54,t55,t56,t57,t58,t59,t60,t61,t62,t63,t64,t65,t66,t67,t68,t69,t70,t71,t72,t73,t74,t75,t76,t77,t78,t79,t80,t81,t82,t83,t84,t85,t86,t87,t88],defers:=ds} w:=by
 have hsz:tFO.size=41:=by kernel_rfl
 generalize hT:List.toArray _=T0;have hs:T0.size=89:=by subst hT;rfl
 have g1:T0.getD 1 undef = .pointer (some ⟨gp,0,none⟩):=by subst hT;rfl
 have g2:T0.getD 2 undef = .int .i64 0:=by subst hT;rfl
 have g4:T0.getD 4 undef = .int .i64 80:=by subst hT;rfl
 have g6:T0.getD 6 undef = .int .i64 80:=by subst hT;rfl
 have g7:T0.getD 7 undef = .pointer (some ⟨r,0,none⟩):=by subst hT;rfl
 have g8:T0.getD 8 undef = .string kd:=by subst hT;rfl
 have g9:T0.getD 9 undef = .string mc:=by subst hT;rfl
 obtain⟨W,hV⟩:∃W:List ((Nat×(Value→Value)) ⊕ Value),W=[.inr (.agg #[.int .u64 17627433388654248598,.int .u64 8575836109218198432,.int .u64 17923454489921339634,.int .u64 7716867327612699207,.int .u64 14678990851816772085,.int .u64 3156516839386865358,.int .u64 10297457778147434006,.int .u64 5756518291402817435,.bool false]),.inr (.agg #[.int .u64 17627433388654248598,.int .u64 8575836109218198432,.int .u64 17923454489921339634,.int .u64 7716867327612699207,.int .u64 14678990851816772085,.int .u64 3156516839386865358,.int .u64 10297457778147434006,.int .u64 5756518291402817435,.bool false]),.inr (.bool true),.inr (.bool true),.inr (.int .i64 0),.inr (.bool true),.inr (.bool true),.inr (.bool true),.inr (.int .i64 80),.inr (.bool true),.inr (.bool true),.inr (.bool true),.inr (.int .i64 80),.inr (.bool true),.inr (.bool true),.inr (.bool true),.inr (.pointer (some ⟨r,0,none⟩)),.inr (.string kd),.inr (.string mc),.inr (.bool true),.inr (.bool true),.inr (.bool true),.inr (.pointer (some ⟨r,0,none⟩)),.inr (.string mc),.inr (.bool false),.inr (.bool true),.inr (.bool true),.inr (.bool true),.inr (.agg #[.int .u64 17627433388654248598,.int .u64 8575836109218198432,.int .u64 17923454489921339634,.int .u64 7716867327612699207,.int .u64 14678990851816772085,.int .u64 3156516839386865358,.int .u64 10297457778147434006,.int .u64 5756518291402817435,.bool false]),.inr (.bool false),.inr (.bool true),.inr (.bool true),.inr (.bool true),.inr (.bool true),.inr (.bool true),.inr (.bool true),.inr (.bool true),.inr (.bool true),.inr (.bool true),.inr (.bool true),.inr (.bool true)]:=⟨_,rfl⟩;refine wp_plan (by kernel_rfl) T0 ds [1,19,24,29] tF_m (mkV W) (fun dx yx wx=>PW (dx 1) (dx 19) (dx 24) (dx 29)  wx) w (by rw [hs];kernel_rfl) (by kernel_rfl) (by kernel_rfl) (by rw [hsz];decide) (fun cx hc ix hne ha yx vx=>mkV_fix (by rw [hV];kernel_rfl) hne ha yx vx) (?key) (fun cx hc ox ho dx yx Tx wx hd hdb hda hK hW=>?_) ⟨fun k=>undef,w0⟩ (fun dx yx wx hd hW=>?_)
 case key=>
  rw [hsz];refine all_step (all_step (all_step (all_step (all_step (all_step (all_step (all_step (all_step (all_step (all_step (all_step (all_step (all_step (all_step (all_step (all_step (all_step (all_step (all_step (all_step (all_step (all_step (all_step (all_step (all_step (all_step (all_step (all_step (all_step (all_step (all_step (all_step (all_step (all_step (all_step (all_step (all_step (all_step (all_step (all_step all_zero ?_) ?_) ?_) ?_) ?_) ?_) ?_) ?_) ?_) ?_) ?_) ?_) ?_) ?_) ?_) ?_) ?_) ?_) ?_) ?_) ?_) ?_) ?_) ?_) ?_) ?_) ?_) ?_) ?_) ?_) ?_) ?_) ?_) ?_) ?_) ?_) ?_) ?_) ?_) ?_) ?_
  all_goals
   intro ox ho hic dx yx Tx wx hdb hK hW;replace hdb:=Lib.hid hdb
  ·obtain⟨ps,af,rfl⟩:=core (some 49) (.load 26 (.tmp 1)) 26 none ho;have e1:Tx.getD 1 undef = .pointer (some ⟨gp,0,none⟩):=hK.of (by kernel_rfl) g1;obtain⟨hl0,hl1,hl2,hl3,hl4,hl5,hl6,hl7,hl8⟩:=lk _ _ _ _ _ hW;exact wpOp_plain ho rfl (by subst hV;go_simp;try rfl)
  ·exact absurd (by decide) hic
  ·obtain⟨ps,af,rfl⟩:=core (some 51) (.binOp BinOp.eql 26 (.tmp 49) (.tmp 50) 26) 4 none ho;have e49:Tx.getD 49 undef = .agg #[.int .u64 17627433388654248598,.int .u64 8575836109218198432,.int .u64 17923454489921339634,.int .u64 7716867327612699207,.int .u64 14678990851816772085,.int .u64 3156516839386865358,.int .u64 10297457778147434006,.int .u64 5756518291402817435,.bool false]:=hK.is 0 ho;have e50:Tx.getD 50 undef = .agg #[.int .u64 17627433388654248598,.int .u64 8575836109218198432,.int .u64 17923454489921339634,.int .u64 7716867327612699207,.int .u64 14678990851816772085,.int .u64 3156516839386865358,.int .u64 10297457778147434006,.int .u64 5756518291402817435,.bool false]:=hK.is 1 ho;have hq1:=hq;exact wpOp_plain ho rfl (by subst hV;go_simp;try rfl)
  ·exact pl1 52 51 2 4 ho hK fun ps af e=>k_mv e
  ·exact pg0 3 52 true 53 2 27 ho hK g2 fun ps af e=>k_mv e
  ·obtain⟨ps,af,rfl⟩:=core (some 54) (.binOp BinOp.eql 27 (.tmp 53) (.const (Value.int IntKind.i64 0)) 27) 4 (some (3,true)) ho;have e53:Tx.getD 53 undef = .int .i64 0:=hK.is 4 ho;exact wpOp_want ho ((wanted_of (d:=52) (b:=true) rfl (by kernel_rfl) (hK.is 3 ho)).trans rfl) (by subst hV;go_simp;try rfl)
  ·obtain⟨ps,af,rfl⟩:=core (some 55) (.pick (.tmp 52) (.tmp 54) (.const (Value.bool false))) 4 none ho;have e52:Tx.getD 52 undef = .bool true:=hK.is 3 ho;have e54:Tx.getD 54 undef = .bool true:=hK.is 5 ho;exact wpOp_plain ho rfl (by subst hV;go_simp;try rfl)
  ·exact pl1 56 55 6 4 ho hK fun ps af e=>k_mv e
  ·exact pg0 7 56 true 57 4 27 ho hK g4 fun ps af e=>k_mv e
  ·obtain⟨ps,af,rfl⟩:=core (some 58) (.binOp BinOp.eql 27 (.tmp 57) (.const (Value.int IntKind.i64 80)) 27) 4 (some (7,true)) ho;have e57:Tx.getD 57 undef = .int .i64 80:=hK.is 8 ho;exact wpOp_want ho ((wanted_of (d:=56) (b:=true) rfl (by kernel_rfl) (hK.is 7 ho)).trans rfl) (by subst hV;go_simp;try rfl)
  ·obtain⟨ps,af,rfl⟩:=core (some 59) (.pick (.tmp 56) (.tmp 58) (.const (Value.bool false))) 4 none ho;have e56:Tx.getD 56 undef = .bool true:=hK.is 7 ho;have e58:Tx.getD 58 undef = .bool true:=hK.is 9 ho;exact wpOp_plain ho rfl (by subst hV;go_simp;try rfl)
  ·exact pl1 60 59 10 4 ho hK fun ps af e=>k_mv e
  ·exact pg0 11 60 true 61 6 27 ho hK g6 fun ps af e=>k_mv e
  ·obtain⟨ps,af,rfl⟩:=core (some 62) (.binOp BinOp.eql 27 (.tmp 61) (.const (Value.int IntKind.i64 80)) 27) 4 (some (11,true)) ho;have e61:Tx.getD 61 undef = .int .i64 80:=hK.is 12 ho;exact wpOp_want ho ((wanted_of (d:=60) (b:=true) rfl (by kernel_rfl) (hK.is 11 ho)).trans rfl) (by subst hV;go_simp;try rfl)
  ·obtain⟨ps,af,rfl⟩:=core (some 63) (.pick (.tmp 60) (.tmp 62) (.const (Value.bool false))) 4 none ho;have e60:Tx.getD 60 undef = .bool true:=hK.is 11 ho;have e62:Tx.getD 62 undef = .bool true:=hK.is 13 ho;exact wpOp_plain ho rfl (by subst hV;go_simp;try rfl)
  ·exact pl1 64 63 14 4 ho hK fun ps af e=>k_mv e
  ·exact pg0 15 64 true 65 7 41 ho hK g7 fun ps af e=>k_mv e
  ·exact pg0 15 64 true 66 8 9 ho hK g8 fun ps af e=>k_mv e
  ·exact pg0 15 64 true 67 9 9 ho hK g9 fun ps af e=>k_mv e
  ·exact absurd (by decide) hic
  ·obtain⟨ps,af,rfl⟩:=core (some 69) (.pick (.tmp 64) (.tmp 68) (.const (Value.bool false))) 4 none ho;have e64:Tx.getD 64 undef = .bool true:=hK.is 15 ho;have e68:Tx.getD 68 undef = .bool true:=hK.is 19 ho;exact wpOp_plain ho rfl (by subst hV;go_simp;try rfl)
  ·exact pl1 70 69 20 4 ho hK fun ps af e=>k_mv e
  ·exact pg0 21 70 true 71 7 41 ho hK g7 fun ps af e=>k_mv e
  ·exact pg0 21 70 true 72 9 9 ho hK g9 fun ps af e=>k_mv e
  ·exact absurd (by decide) hic
  ·obtain⟨ps,af,rfl⟩:=core (some 74) (.unOp UnOp.not 4 (.tmp 73)) 4 (some (21,true)) ho;have e73:Tx.getD 73 undef = .bool false:=hK.is 24 ho;exact wpOp_want ho ((wanted_of (d:=70) (b:=true) rfl (by kernel_rfl) (hK.is 21 ho)).trans rfl) (by subst hV;go_simp;try rfl)
  ·obtain⟨ps,af,rfl⟩:=core (some 75) (.pick (.tmp 70) (.tmp 74) (.const (Value.bool false))) 4 none ho;have e70:Tx.getD 70 undef = .bool true:=hK.is 21 ho;have e74:Tx.getD 74 undef = .bool true:=hK.is 25 ho;exact wpOp_plain ho rfl (by subst hV;go_simp;try rfl)
  ·exact pl1 76 75 26 4 ho hK fun ps af e=>k_mv e
  ·obtain⟨ps,af,rfl⟩:=core (some 77) (.load 26 (.tmp 1)) 26 (some (27,true)) ho;have e1:Tx.getD 1 undef = .pointer (some ⟨gp,0,none⟩):=hK.of (by kernel_rfl) g1;obtain⟨hl0,hl1,hl2,hl3,hl4,hl5,hl6,hl7,hl8⟩:=lk _ _ _ _ _ hW;exact wpOp_want ho ((wanted_of (d:=76) (b:=true) rfl (by kernel_rfl) (hK.is 27 ho)).trans rfl) (by subst hV;go_simp;try rfl)
  ·exact absurd (by decide) hic
  ·obtain⟨ps,af,rfl⟩:=core (some 79) (.unOp UnOp.not 4 (.tmp 78)) 4 (some (27,true)) ho;have e78:Tx.getD 78 undef = .bool false:=hK.is 29 ho;exact wpOp_want ho ((wanted_of (d:=76) (b:=true) rfl (by kernel_rfl) (hK.is 27 ho)).trans rfl) (by subst hV;go_simp;try rfl)
  ·obtain⟨ps,af,rfl⟩:=core (some 80) (.pick (.tmp 76) (.tmp 79) (.const (Value.bool false))) 4 none ho;have e76:Tx.getD 76 undef = .bool true:=hK.is 27 ho;have e79:Tx.getD 79 undef = .bool true:=hK.is 30 ho;exact wpOp_plain ho rfl (by subst hV;go_simp;try rfl)
  ·exact pl1 81 80 31 4 ho hK fun ps af e=>k_mv e
  ·obtain⟨ps,af,rfl⟩:=core (some 82) (.pick (.tmp 81) (.const (Value.bool true)) (.const (Value.bool false))) 4 none ho;have e81:Tx.getD 81 undef = .bool true:=hK.is 32 ho;exact wpOp_plain ho rfl (by subst hV;go_simp;try rfl)
  ·exact pl1 83 82 33 4 ho hK fun ps af e=>k_mv e
  ·obtain⟨ps,af,rfl⟩:=core (some 84) (.pick (.tmp 83) (.const (Value.bool true)) (.const (Value.bool false))) 4 none ho;have e83:Tx.getD 83 undef = .bool true:=hK.is 34 ho;exact wpOp_plain ho rfl (by subst hV;go_simp;try rfl)
  ·exact pl1 85 84 35 4 ho hK fun ps af e=>k_mv e
  ·obtain⟨ps,af,rfl⟩:=core (some 86) (.pick (.tmp 85) (.const (Value.bool true)) (.const (Value.bool false))) 4 none ho;have e85:Tx.getD 85 undef = .bool true:=hK.is 36 ho;exact wpOp_plain ho rfl (by subst hV;go_simp;try rfl)
  ·exact pl1 87 86 37 4 ho hK fun ps af e=>k_mv e
  ·obtain⟨ps,af,rfl⟩:=core (some 88) (.pick (.tmp 87) (.const (Value.bool true)) (.const (Value.bool false))) 4 none ho;have e87:Tx.getD 87 undef = .bool true:=hK.is 38 ho;exact wpOp_plain ho rfl (by subst hV;go_simp;try rfl)
  ·exact pl1 0 88 39 4 ho hK fun ps af e=>k_as e
 ·have hcase:cx=1∨cx=19∨cx=24∨cx=29:=by simpa using hc
  rcases hcase with rfl | rfl | rfl | rfl
  ·obtain⟨ps,af,rfl⟩:=core (some 50) (.call {callee:= .value (.func 48),args:=#[],argTypes:=#[]}) 26 none ho;have hW1:PW (dx 1) (dx 19) (dx 24) (dx 29)  wx:=hW;have f19:=Pl.hq hda 19;have f24:=Pl.hq hda 24;have f29:=Pl.hq hda 29;clear hdb hda;rw [hd,f19.out,f24.out,f29.out] at hW1;clear hd hW hc;refine wpOp_plain ho rfl ?_;go_simp;go_at_call 48;refine(cl1 _ hW1).mono ?_;rintro ex w2 ⟨rfl,hW2⟩;subst hV
   first | refine⟨undef,rfl,?_⟩ | refine⟨⟨undef,rfl⟩,?_⟩
   simpa [updB,upd,f19.out,f24.out,f29.out] using hW2
  ·obtain⟨ps,af,rfl⟩:=core (some 68) (.call {callee:= .value (.func 26),args:=#[.tmp 65,.tmp 66,.const (Value.string {data:=#[115]}),.tmp 67],argTypes:=#[41,9,9,9]}) 4 (some (15,true)) ho;have e65:Tx.getD 65 undef = .pointer (some ⟨r,0,none⟩):=hK.is 16 ho;have e66:Tx.getD 66 undef = .string kd:=hK.is 17 ho;have e67:Tx.getD 67 undef = .string mc:=hK.is 18 ho;have hW1:PW (dx 1) (dx 19) (dx 24) (dx 29)  wx:=hW;have f1:=Pl.hq hdb 1;have f24:=Pl.hq hda 24;have f29:=Pl.hq hda 29;clear hdb hda;rw [hd,f1.out,f24.out,f29.out] at hW1;clear hd hW hc;refine wpOp_want ho ((wanted_of (d:=64) (b:=true) rfl (by kernel_rfl) (hK.is 15 ho)).trans rfl) ?_;go_simp;go_at_call 26;refine(cl19 _ hW1).mono ?_;rintro ex w2 ⟨rfl,hW2⟩;subst hV
   first | refine⟨undef,rfl,?_⟩ | refine⟨⟨undef,rfl⟩,?_⟩
   simpa [updB,upd,f1.out,f24.out,f29.out] using hW2
  ·obtain⟨ps,af,rfl⟩:=core (some 73) (.call {callee:= .value (.func 26),args:=#[.tmp 71,.const (Value.string {data:=#[]}),.const (Value.string {data:=#[115]}),.tmp 72],argTypes:=#[41,9,9,9]}) 4 (some (21,true)) ho;have e71:Tx.getD 71 undef = .pointer (some ⟨r,0,none⟩):=hK.is 22 ho;have e72:Tx.getD 72 undef = .string mc:=hK.is 23 ho;have hW1:PW (dx 1) (dx 19) (dx 24) (dx 29)  wx:=hW;have f1:=Pl.hq hdb 1;have f19:=Pl.hq hdb 19;have f29:=Pl.hq hda 29;clear hdb hda;rw [hd,f1.out,f19.out,f29.out] at hW1;clear hd hW hc;refine wpOp_want ho ((wanted_of (d:=70) (b:=true) rfl (by kernel_rfl) (hK.is 21 ho)).trans rfl) ?_;go_simp;go_at_call 26;refine(cl24 _ hW1).mono ?_;rintro ex w2 ⟨rfl,hW2⟩;subst hV
   first | refine⟨undef,rfl,?_⟩ | refine⟨⟨undef,rfl⟩,?_⟩
   simpa [updB,upd,f1.out,f19.out,f29.out] using hW2
  ·obtain⟨ps,af,rfl⟩:=core (some 78) (.call {callee:= .value (.func 16),args:=#[.tmp 77,.const (Value.string {data:=#[]}),.const (Value.string {data:=#[]})],argTypes:=#[26,9,9]}) 4 (some (27,true)) ho;have e77:Tx.getD 77 undef = .agg #[.int .u64 17627433388654248598,.int .u64 8575836109218198432,.int .u64 17923454489921339634,.int .u64 7716867327612699207,.int .u64 14678990851816772085,.int .u64 3156516839386865358,.int .u64 10297457778147434006,.int .u64 5756518291402817435,.bool false]:=hK.is 28 ho;have hW1:PW (dx 1) (dx 19) (dx 24) (dx 29)  wx:=hW;have f1:=Pl.hq hdb 1;have f19:=Pl.hq hdb 19;have f24:=Pl.hq hdb 24;clear hdb hda;rw [hd,f1.out,f19.out,f24.out] at hW1;clear hd hW hc;refine wpOp_want ho ((wanted_of (d:=76) (b:=true) rfl (by kernel_rfl) (hK.is 27 ho)).trans rfl) ?_;go_simp;go_at_call 16;refine(cl29 _ hW1).mono ?_;rintro ex w2 ⟨rfl,hW2⟩;subst hV
   first | refine⟨undef,rfl,?_⟩ | refine⟨⟨undef,rfl⟩,?_⟩
   simpa [updB,upd,f1.out,f19.out,f24.out] using hW2
 ·have hW1:PW (dx 1) (dx 19) (dx 24) (dx 29)  wx:=hW;rw [hd 1 (by decide),hd 19 (by decide),hd 24 (by decide),hd 29 (by decide)] at hW1;have hQ:=h _ hW1;rw [hsz];subst hV hT;refine cast (congrArg (fun Tx=>Q .normal ⟨Tx,ds⟩ wx) ?_) hQ
  kernel_rfl
end Pl
end Go.Proofs.YtpggkfdijmnmiaaGreat
