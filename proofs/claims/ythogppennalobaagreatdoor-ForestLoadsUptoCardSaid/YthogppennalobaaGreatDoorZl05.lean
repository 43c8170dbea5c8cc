/- byte classes; Name, Text, Scope A region that goes in its order, by a plan: guards by Bools. General; no condition. Kinds of operations of a region that goes in its order. No condition. -/
import Derived.Test.YthogppennalobaaGreatDoorZl03
import Derived.Test.YthogppennalobaaGreatDoorZl02
import Derived.Test.YthogppennalobaaGreatDoorZl00
set_option linter.unusedVariables false
set_option linter.unusedSimpArgs false
set_option maxRecDepth 100000
namespace Go.Proofs.YthogppennalobaaGreatDoor
open Go.RowKit Go.Sort Forest
def nameB (b:UInt8): Bool:=(decide (97≤(b.toNat:Int))&&decide ((b.toNat:Int)≤122))||(decide (48≤(b.toNat:Int))&&decide ((b.toNat:Int)≤57))||((b.toNat:Int) == 46)||((b.toNat:Int) == 95)||((b.toNat:Int) == 45)
def textB (b:UInt8): Bool:=decide (33≤(b.toNat:Int))&&decide ((b.toNat:Int)≤126)
def scopeB (b:UInt8): Bool:=nameB b||((b.toNat:Int) == 58)
theorem ofName_any (b:UInt8)(w:World): Calls Tryz.prog 135 #[.int .u8 (b.toNat:Int)] w fun e w'=>e = .returned (.bool (nameB b))∧w'=w:=by
 unfold nameB
 generalize (b.toNat:Int)=n
 go_enter Tryz.func135,Tryz.ntmps135
 go_wp2
 all_goals (go_ret;first | exact⟨rfl,rfl⟩ | (refine⟨congrArg (fun c:Bool=>Ending.returned (Value.bool c)) ?_,rfl⟩;rw [Bool.eq_iff_iff];simp;omega) | (refine⟨congrArg (fun c:Bool=>Ending.returned (Value.bool c)) ?_,rfl⟩;rw [Bool.eq_iff_iff];simp_all;done) | (refine⟨congrArg (fun c:Bool=>Ending.returned (Value.bool c)) ?_,rfl⟩;simp_all;done))
theorem ofText_any (b:UInt8)(w:World): Calls Tryz.prog 136 #[.int .u8 (b.toNat:Int)] w fun e w'=>e = .returned (.bool (textB b))∧w'=w:=by
 unfold textB
 generalize (b.toNat:Int)=n
 go_enter Tryz.func136,Tryz.ntmps136
 go_wp2
 all_goals (go_ret;first | exact⟨rfl,rfl⟩ | (refine⟨congrArg (fun c:Bool=>Ending.returned (Value.bool c)) ?_,rfl⟩;rw [Bool.eq_iff_iff];simp;omega) | (refine⟨congrArg (fun c:Bool=>Ending.returned (Value.bool c)) ?_,rfl⟩;rw [Bool.eq_iff_iff];simp_all;done) | (refine⟨congrArg (fun c:Bool=>Ending.returned (Value.bool c)) ?_,rfl⟩;simp_all;done))
theorem ofScope_any (b:UInt8)(w:World): Calls Tryz.prog 137 #[.int .u8 (b.toNat:Int)] w fun e w'=>e = .returned (.bool (scopeB b))∧w'=w:=by
 have HN:=Lib.hid (ofName_any b w)
 unfold scopeB
 generalize nameB b=c at *
 generalize (b.toNat:Int)=n at *
 go_enter Tryz.func137,Tryz.ntmps137
 cases c with
 |true=>
  go_wp2_with fail
  refine HN.out.mono ?_
  rintro e w1 ⟨rfl,rfl⟩
  go_wp2_with fail
  go_ret
  exact⟨rfl,rfl⟩
 |false=>
  go_wp2_with fail
  refine HN.out.mono ?_
  rintro e w1 ⟨rfl,rfl⟩
  go_wp2_with fail
  go_ret
  exact⟨by simp,rfl⟩
def madeP (most:Int)(p:UInt8→Bool)(s:Bs): Bool:=!s.isEmpty&&(decide ((s.length:Int)≤most)&&s.all p)
set_option maxHeartbeats 1000000 in
theorem made135 (most:Int)(s:Bs)(hs:s.length≤140737488355328)(w:World): Calls Tryz.prog 134 #[.string ⟨s.toArray⟩,.int .i64 most,.func (.func 135) #[] #[]] w fun e w'=>e = .returned (.bool (madeP most nameB s))∧w'=w:=by
 have HC:=Lib.hid (fun b=>ofName_any b w)
 have HSL:=Lib.hid hs
 have hz:(⟨s.toArray⟩:ByteArray).size=s.length:=size_ba s
 by_cases h0:s=[]
 ·subst h0
  go_enter Tryz.func134,Tryz.ntmps134
  go_wp2_with fail
  go_ret
  exact⟨rfl,rfl⟩
 ·have hE:s.isEmpty=false:=by cases s<;>simp at h0 ⊢
  by_cases h1:(s.length:Int)≤most
  ·have HR:Hid (madeP most nameB s=s.all nameB):=Lib.hid (by unfold madeP;rw [hE,decide_eq_true h1];rfl)
   have h0b:(s == [])=false:=by simpa using h0
   clear h0
   go_enter Tryz.func134,Tryz.ntmps134
   go_wp2_with fail
   go_loopw [18] (fun iv wr=>∃i:Nat,i≤s.length∧iv = .int .i64 (i:Int)∧wr=w∧Hid ((s.take i).all nameB=true)) (fun iv _=>s.length - (intOf iv).toNat)
   case atStart=>exact⟨0,Nat.zero_le _,rfl,rfl,Lib.hid rfl⟩
   case round=>
    obtain⟨i,hi,rfl,rfl,HI⟩:=hrel
    by_cases hlt:i<s.length
    ·have hltI:(i:Int)<(s.length:Int):=by omega
     obtain⟨b,hb⟩:∃b,s[i]=b:=⟨_,rfl⟩
     have HB:=Lib.hid (HC.out b)
     have HT:Hid ((s.take (i+1)).all nameB=((s.take i).all nameB&&nameB b)):=Lib.hid (by rw [List.take_add_one,List.getElem?_eq_getElem hlt,hb,List.all_append];simp)
     have HW:Hid (nameB b=false→s.all nameB=false):=Lib.hid (fun h=>by
      rw [← Bool.not_eq_true,List.all_eq_true]
      intro ha
      have:=ha b (hb▸List.getElem_mem hlt)
      rw [h] at this
      cases this)
     have HBI:=Lib.hid hb
     cases hp:nameB b with
     |true=>
      rw [hp] at HB HT
      clear hp HW
      rw [show(b.toNat:Int)=(s[i].toNat:Int) by rw [hb]] at HB
      clear hb
      go_wp2_with fail
      refine HB.out.mono ?_
      rintro e w1 ⟨rfl,rfl⟩
      go_wp2_with fail
      go_roundw
      case rel=>exact⟨i+1,by omega,by go_num,trivial,Lib.hid (by rw [HT.out,HI.out];rfl)⟩
      case measure=>simp [intOf];omega
     |false=>
      rw [hp] at HB HT
      have HW2:=Lib.hid (HW.out hp)
      clear hp HW
      rw [show(b.toNat:Int)=(s[i].toNat:Int) by rw [hb]] at HB
      clear hb
      go_wp2_with fail
      refine HB.out.mono ?_
      rintro e w1 ⟨rfl,rfl⟩
      go_wp2_with fail
      go_ret
      exact⟨by rw [HR.out,HW2.out];rfl,rfl⟩
    ·have hie:i=s.length:=by omega
     have hltI:¬(i:Int)<(s.length:Int):=by omega
     have HA:Hid (s.all nameB=true):=Lib.hid (by have:=HI.out;rwa [hie,List.take_length] at this)
     go_wp2_with fail
     go_ret
     exact⟨by rw [HR.out,HA.out];rfl,rfl⟩
  ·have HR:Hid (madeP most nameB s=false):=Lib.hid (by unfold madeP;rw [decide_eq_false h1];simp)
   have h0b:(s == [])=false:=by simpa using h0
   clear h0
   go_enter Tryz.func134,Tryz.ntmps134
   go_wp2_with fail
   go_ret
   exact⟨by rw [HR.out];rfl,rfl⟩
set_option maxHeartbeats 1000000 in
theorem made136 (most:Int)(s:Bs)(hs:s.length≤140737488355328)(w:World): Calls Tryz.prog 134 #[.string ⟨s.toArray⟩,.int .i64 most,.func (.func 136) #[] #[]] w fun e w'=>e = .returned (.bool (madeP most textB s))∧w'=w:=by
 have HC:=Lib.hid (fun b=>ofText_any b w)
 have HSL:=Lib.hid hs
 have hz:(⟨s.toArray⟩:ByteArray).size=s.length:=size_ba s
 by_cases h0:s=[]
 ·subst h0
  go_enter Tryz.func134,Tryz.ntmps134
  go_wp2_with fail
  go_ret
  exact⟨rfl,rfl⟩
 ·have hE:s.isEmpty=false:=by cases s<;>simp at h0 ⊢
  by_cases h1:(s.length:Int)≤most
  ·have HR:Hid (madeP most textB s=s.all textB):=Lib.hid (by unfold madeP;rw [hE,decide_eq_true h1];rfl)
   have h0b:(s == [])=false:=by simpa using h0
   clear h0
   go_enter Tryz.func134,Tryz.ntmps134
   go_wp2_with fail
   go_loopw [18] (fun iv wr=>∃i:Nat,i≤s.length∧iv = .int .i64 (i:Int)∧wr=w∧Hid ((s.take i).all textB=true)) (fun iv _=>s.length - (intOf iv).toNat)
   case atStart=>exact⟨0,Nat.zero_le _,rfl,rfl,Lib.hid rfl⟩
   case round=>
    obtain⟨i,hi,rfl,rfl,HI⟩:=hrel
    by_cases hlt:i<s.length
    ·have hltI:(i:Int)<(s.length:Int):=by omega
     obtain⟨b,hb⟩:∃b,s[i]=b:=⟨_,rfl⟩
     have HB:=Lib.hid (HC.out b)
     have HT:Hid ((s.take (i+1)).all textB=((s.take i).all textB&&textB b)):=Lib.hid (by rw [List.take_add_one,List.getElem?_eq_getElem hlt,hb,List.all_append];simp)
     have HW:Hid (textB b=false→s.all textB=false):=Lib.hid (fun h=>by
      rw [← Bool.not_eq_true,List.all_eq_true]
      intro ha
      have:=ha b (hb▸List.getElem_mem hlt)
      rw [h] at this
      cases this)
     have HBI:=Lib.hid hb
     cases hp:textB b with
     |true=>
      rw [hp] at HB HT
      clear hp HW
      rw [show(b.toNat:Int)=(s[i].toNat:Int) by rw [hb]] at HB
      clear hb
      go_wp2_with fail
      refine HB.out.mono ?_
      rintro e w1 ⟨rfl,rfl⟩
      go_wp2_with fail
      go_roundw
      case rel=>exact⟨i+1,by omega,by go_num,trivial,Lib.hid (by rw [HT.out,HI.out];rfl)⟩
      case measure=>simp [intOf];omega
     |false=>
      rw [hp] at HB HT
      have HW2:=Lib.hid (HW.out hp)
      clear hp HW
      rw [show(b.toNat:Int)=(s[i].toNat:Int) by rw [hb]] at HB
      clear hb
      go_wp2_with fail
      refine HB.out.mono ?_
      rintro e w1 ⟨rfl,rfl⟩
      go_wp2_with fail
      go_ret
      exact⟨by rw [HR.out,HW2.out];rfl,rfl⟩
    ·have hie:i=s.length:=by omega
     have hltI:¬(i:Int)<(s.length:Int):=by omega
     have HA:Hid (s.all textB=true):=Lib.hid (by have:=HI.out;rwa [hie,List.take_length] at this)
     go_wp2_with fail
     go_ret
     exact⟨by rw [HR.out,HA.out];rfl,rfl⟩
  ·have HR:Hid (madeP most textB s=false):=Lib.hid (by unfold madeP;rw [decide_eq_false h1];simp)
   have h0b:(s == [])=false:=by simpa using h0
   clear h0
   go_enter Tryz.func134,Tryz.ntmps134
   go_wp2_with fail
   go_ret
   exact⟨by rw [HR.out];rfl,rfl⟩
set_option maxHeartbeats 1000000 in
theorem made137 (most:Int)(s:Bs)(hs:s.length≤140737488355328)(w:World): Calls Tryz.prog 134 #[.string ⟨s.toArray⟩,.int .i64 most,.func (.func 137) #[] #[]] w fun e w'=>e = .returned (.bool (madeP most scopeB s))∧w'=w:=by
 have HC:=Lib.hid (fun b=>ofScope_any b w)
 have HSL:=Lib.hid hs
 have hz:(⟨s.toArray⟩:ByteArray).size=s.length:=size_ba s
 by_cases h0:s=[]
 ·subst h0
  go_enter Tryz.func134,Tryz.ntmps134
  go_wp2_with fail
  go_ret
  exact⟨rfl,rfl⟩
 ·have hE:s.isEmpty=false:=by cases s<;>simp at h0 ⊢
  by_cases h1:(s.length:Int)≤most
  ·have HR:Hid (madeP most scopeB s=s.all scopeB):=Lib.hid (by unfold madeP;rw [hE,decide_eq_true h1];rfl)
   have h0b:(s == [])=false:=by simpa using h0
   clear h0
   go_enter Tryz.func134,Tryz.ntmps134
   go_wp2_with fail
   go_loopw [18] (fun iv wr=>∃i:Nat,i≤s.length∧iv = .int .i64 (i:Int)∧wr=w∧Hid ((s.take i).all scopeB=true)) (fun iv _=>s.length - (intOf iv).toNat)
   case atStart=>exact⟨0,Nat.zero_le _,rfl,rfl,Lib.hid rfl⟩
   case round=>
    obtain⟨i,hi,rfl,rfl,HI⟩:=hrel
    by_cases hlt:i<s.length
    ·have hltI:(i:Int)<(s.length:Int):=by omega
     obtain⟨b,hb⟩:∃b,s[i]=b:=⟨_,rfl⟩
     have HB:=Lib.hid (HC.out b)
     have HT:Hid ((s.take (i+1)).all scopeB=((s.take i).all scopeB&&scopeB b)):=Lib.hid (by rw [List.take_add_one,List.getElem?_eq_getElem hlt,hb,List.all_append];simp)
     have HW:Hid (scopeB b=false→s.all scopeB=false):=Lib.hid (fun h=>by
      rw [← Bool.not_eq_true,List.all_eq_true]
      intro ha
      have:=ha b (hb▸List.getElem_mem hlt)
      rw [h] at this
      cases this)
     have HBI:=Lib.hid hb
     cases hp:scopeB b with
     |true=>
      rw [hp] at HB HT
      clear hp HW
      rw [show(b.toNat:Int)=(s[i].toNat:Int) by rw [hb]] at HB
      clear hb
      go_wp2_with fail
      refine HB.out.mono ?_
      rintro e w1 ⟨rfl,rfl⟩
      go_wp2_with fail
      go_roundw
      case rel=>exact⟨i+1,by omega,by go_num,trivial,Lib.hid (by rw [HT.out,HI.out];rfl)⟩
      case measure=>simp [intOf];omega
     |false=>
      rw [hp] at HB HT
      have HW2:=Lib.hid (HW.out hp)
      clear hp HW
      rw [show(b.toNat:Int)=(s[i].toNat:Int) by rw [hb]] at HB
      clear hb
      go_wp2_with fail
      refine HB.out.mono ?_
      rintro e w1 ⟨rfl,rfl⟩
      go_wp2_with fail
      go_ret
      exact⟨by rw [HR.out,HW2.out];rfl,rfl⟩
    ·have hie:i=s.length:=by omega
     have hltI:¬(i:Int)<(s.length:Int):=by omega
     have HA:Hid (s.all scopeB=true):=Lib.hid (by have:=HI.out;rwa [hie,List.take_length] at this)
     go_wp2_with fail
     go_ret
     exact⟨by rw [HR.out,HA.out];rfl,rfl⟩
  ·have HR:Hid (madeP most scopeB s=false):=Lib.hid (by unfold madeP;rw [decide_eq_false h1];simp)
   have h0b:(s == [])=false:=by simpa using h0
   clear h0
   go_enter Tryz.func134,Tryz.ntmps134
   go_wp2_with fail
   go_ret
   exact⟨by rw [HR.out];rfl,rfl⟩
def nameP (s:Bs): Bool:=madeP 24 nameB s
theorem name_any (s:Bs)(hs:s.length≤140737488355328)(w:World): Calls Tryz.prog 101 #[.string ⟨s.toArray⟩] w fun e w'=>e = .returned (.bool (nameP s))∧w'=w:=by
 have H:=Lib.hid (made135 24 s hs w)
 unfold nameP
 generalize madeP 24 nameB s=b at *
 go_enter Tryz.func101,Tryz.ntmps101
 go_wp2_with fail
 refine H.out.mono ?_
 rintro e w1 ⟨rfl,rfl⟩
 go_wp2_with fail
 go_ret
 exact⟨rfl,rfl⟩
def textP (s:Bs): Bool:=madeP 128 textB s
theorem text_any (s:Bs)(hs:s.length≤140737488355328)(w:World): Calls Tryz.prog 102 #[.string ⟨s.toArray⟩] w fun e w'=>e = .returned (.bool (textP s))∧w'=w:=by
 have H:=Lib.hid (made136 128 s hs w)
 unfold textP
 generalize madeP 128 textB s=b at *
 go_enter Tryz.func102,Tryz.ntmps102
 go_wp2_with fail
 refine H.out.mono ?_
 rintro e w1 ⟨rfl,rfl⟩
 go_wp2_with fail
 go_ret
 exact⟨rfl,rfl⟩
def scopeP (s:Bs): Bool:=madeP 32 scopeB s
theorem scope_any (s:Bs)(hs:s.length≤140737488355328)(w:World): Calls Tryz.prog 104 #[.string ⟨s.toArray⟩] w fun e w'=>e = .returned (.bool (scopeP s))∧w'=w:=by
 have H:=Lib.hid (made137 32 s hs w)
 unfold scopeP
 generalize madeP 32 scopeB s=b at *
 go_enter Tryz.func104,Tryz.ntmps104
 go_wp2_with fail
 refine H.out.mono ?_
 rintro e w1 ⟨rfl,rfl⟩
 go_wp2_with fail
 go_ret
 exact⟨rfl,rfl⟩
end Go.Proofs.YthogppennalobaaGreatDoor
namespace Go.Proofs.YthogppennalobaaGreatDoor.Pl
open Go.RowKit Go.Sort
section
variable {P:Program} {ops:Array Oper} {Q:Exit→Act→World→Prop}
def lv (V:List Value)(i:Nat): Value:=V.getD i undef
def gv (b:Bool)(v:Value): Value:=if b then v else undef
structure Ks (ops:Array Oper)(T0:Array Value)(v:Nat→Value)(i:Nat)(T:Array Value): Prop where
 come:∀(k:Nat) (o:Oper) (d:Tmp),k<i→ops[k]?=some o→o.dst=some d→T.getD d undef=v k
 rest:∀d:Tmp,(∀(k:Nat) (o:Oper),ops[k]?=some o→o.dst≠some d)→T.getD d undef=T0.getD d undef
theorem Ks.at {T0 T:Array Value}{v:Nat→Value}{i d:Nat}{x:Value}(h:Ks ops T0 v i T)(k:Nat)(hk:k<i)(hd:(ops[k]?).bind (·.dst)=some d)(hx:v k=x): T.getD d undef=x:=by
 cases ho:ops[k]? with
 |none=>rw [ho] at hd;cases hd
 |some o=>rw [ho] at hd;exact(h.come k o d hk ho hd).trans hx
theorem Ks.old {T0 T:Array Value}{v:Nat→Value}{i d:Nat}{x:Value}(h:Ks ops T0 v i T)(hf:freeB ops d=true)(hx:T0.getD d undef=x): T.getD d undef=x:=by
 refine(h.rest d fun k o' hk hd=>?_).trans hx
 unfold freeB at hf
 rw [Array.all_eq_true] at hf
 obtain⟨h1,h2⟩:=Array.getElem?_eq_some_iff.1 hk
 have:=hf k h1
 rw [h2,hd] at this
 simp at this
theorem planT_ks {T0:Array Value}{v:Nat→Value}(hB:dstB ops T0.size=true){k:Nat}(hk:k≤ops.size): Ks ops T0 v k (planT ops T0 v k):=by
 obtain⟨l,hs,hl,ht⟩:=planT_tm (v:=v) hB k hk
 exact⟨fun j o d hj ho hd=>ht.come j o d ((hl j).2 hj) ho hd,fun d hd=>ht.rest d fun i o _ ho=>hd i o ho⟩
theorem put_plan {o:Oper}{T0:Array Value}{v:Nat→Value}{k:Nat}{ds:List Deferred}(ho:ops[k]?=some o): Act.put ⟨planT ops T0 v k,ds⟩ o.dst (v k)=⟨planT ops T0 v (k+1),ds⟩:=by
 rw [planT,ho]
 cases h:o.dst<;>simp [Act.put,h]
theorem seq_plan {id:Nat}(T0:Array Value)(ds:List Deferred)(v:Nat→Value)(W:World→Prop)(w:World)(hB:dstB ops T0.size=true)
  (hop:∀i,i<ops.size→∀o,ops[i]?=some o→∀T w',Ks ops T0 v i T→W w'→wpOp P ops Q i (fun a' w''=>a'=Act.put ⟨T,ds⟩ o.dst (v i)∧W w'') ⟨T,ds⟩ w')
  (h0:W w) (hfin:∀w',W w'→Q .normal ⟨planT ops T0 v ops.size,ds⟩ w'):(Code.region id ops false).wp P Q ⟨T0,ds⟩ w:=by
 refine wp_region ?_
 have key:∀(n k:Nat) (w':World),k+n=ops.size→W w'→wpOps P ops Q (List.range' k n) ⟨planT ops T0 v k,ds⟩ w':=by
  intro n
  induction n with
  |zero=>
   intro k w' hk hW
   have:k=ops.size:=by omega
   subst this
   exact hfin w' hW
  |succ n ih=>
   intro k w' hk hW
   rw [List.range'_succ,wpOps_cons]
   have ho:=Array.getElem?_eq_getElem (show k<ops.size by omega)
   refine wpOp_mono (fun a' w'' h=>?_) (hop k (by omega) _ ho _ _ (planT_ks hB (by omega)) hW)
   obtain⟨rfl,hW2⟩:=h
   rw [put_plan ho]
   exact ih (k+1) w'' (by omega) hW2
 rw [List.range_eq_range']
 exact key ops.size 0 w (by omega) h0
section
variable {T0 T:Array Value} {v:Nat→Value} {o:Oper} {i:Nat} {ds:List Deferred} {w:World} {W:World→Prop}
theorem wanted_gv {o:Oper}{T:Array Value}{j d:Nat}{g e wb:Bool}(hg:o.guard=some (j,wb))(hd:(ops[j]?).bind (·.dst)=some d)(hT:T.getD d undef=gv g (.bool e)): Region.wanted o (yielded ops T)=(g&&(e == wb)):=by
 cases g with
 |true=>rw [wanted_of hg hd hT];rfl
 |false=>
  have hT2:T.getD d undef=undef:=hT
  unfold Region.wanted yielded
  rw [hg]
  simp only [hd,Option.bind_some]
  simp only [Array.getD] at hT2
  by_cases hs:d<T.size
  ·simp only [hs,dif_pos] at hT2
   rw [Array.getElem?_eq_getElem hs,show T[d]=undef from hT2]
   rfl
  ·rw [Array.getElem?_eq_none (by omega)]
   rfl
theorem sq (dst:Option Tmp)(op:Go.Op)(ty:TypeId)(ho:ops[i]?=some o)(hc:(ops[i]?).map (fun o=>(o.dst,o.op,o.type,o.guard))=some (dst,op,ty,none)){x:Value}(hv:v i=x)
  (h:∀ps af,Oper.wp P ⟨dst,op,ty,ps,af,none⟩ ⟨T,ds⟩ w (fun a' w''=>a'=Act.put ⟨T,ds⟩ dst x∧W w'') Q):wpOp P ops Q i (fun a' w''=>a'=Act.put ⟨T,ds⟩ o.dst (v i)∧W w'') ⟨T,ds⟩ w:=by
 obtain⟨ps,af,rfl⟩:=op_core hc ho
 rw [hv]
 exact wpOp_plain ho rfl (h ps af)
theorem sg (j d:Nat)(wb:Bool)(dst:Option Tmp)(op:Go.Op)(ty:TypeId){g e:Bool}{x:Value}(ho:ops[i]?=some o)(hc:(ops[i]?).map (fun o=>(o.dst,o.op,o.type,o.guard))=some (dst,op,ty,some (j,wb)))(hd:(ops[j]?).bind (·.dst)=some d)
  (hT:T.getD d undef=gv g (.bool e)) (hv:v i=gv (g&&(e == wb)) x) (hW:W w)
  (h:g=true→e=wb→∀ps af,Oper.wp P ⟨dst,op,ty,ps,af,some (j,wb)⟩ ⟨T,ds⟩ w (fun a' w''=>a'=Act.put ⟨T,ds⟩ dst x∧W w'') Q):wpOp P ops Q i (fun a' w''=>a'=Act.put ⟨T,ds⟩ o.dst (v i)∧W w'') ⟨T,ds⟩ w:=by
 obtain⟨ps,af,rfl⟩:=op_core hc ho
 rw [hv]
 have hw:=wanted_gv (o:=⟨dst,op,ty,ps,af,some (j,wb)⟩) rfl hd hT
 cases hb:(g&&(e == wb)) with
 |true=>
  rw [Bool.and_eq_true,beq_iff_eq] at hb
  rw [hb.1,hb.2] at hw
  refine wpOp_want ho (hw.trans (by cases wb<;>rfl)) ?_
  exact h hb.1 hb.2 ps af
 |false=>
  refine wpOp_skip ho (hw.trans hb) ⟨rfl,hW⟩
section
variable {K:Act→World→Prop} {ty:TypeId} {dst:Option Tmp} {s:Nat} {ps:String} {af:Array Edge} {g:Option (Nat×Bool)}
theorem j_mv {x:Value}(e:T.getD s undef=x)(h:K (Act.put ⟨T,ds⟩ dst x) w): Oper.wp P ⟨dst,.move (.tmp s),ty,ps,af,g⟩ ⟨T,ds⟩ w K Q:=by
 subst e;exact h
theorem j_as {x:Value}(e:T.getD s undef=x)(h:K (Act.put ⟨T,ds⟩ dst x) w): Oper.wp P ⟨dst,.assign (.tmp s),ty,ps,af,g⟩ ⟨T,ds⟩ w K Q:=by
 subst e;exact h
end
end
end
end Go.Proofs.YthogppennalobaaGreatDoor.Pl
namespace Go.Proofs.YthogppennalobaaGreatDoor
open Go.RowKit Go.Sort Forest Pl
theorem j_fa31_1 {Q:Exit→Act→World→Prop}{K:Act→World→Prop}{T:Array Value}{ds:List Deferred}{w:World}{ty:TypeId}{dst:Option Tmp}{s:Nat}{ps:String}{af:Array Edge}{g:Option (Nat×Bool)}{b:Nat}(e:T.getD s undef = .pointer (some ⟨b,0,none⟩))(h:K (Act.put ⟨T,ds⟩ dst (.pointer (some ⟨b,1,none⟩))) w): Oper.wp Tryz.prog ⟨dst,.fieldAddr 31 (.tmp s) 1,ty,ps,af,g⟩ ⟨T,ds⟩ w K Q:=by
 go_simp
 exact h
theorem j_ld3 {Q:Exit→Act→World→Prop}{K:Act→World→Prop}{T:Array Value}{ds:List Deferred}{w:World}{ty:TypeId}{dst:Option Tmp}{s:Nat}{ps:String}{af:Array Edge}{g:Option (Nat×Bool)}{a:Addr}{v:Value}(c:w.cell? a=some v)(e:T.getD s undef = .pointer (some a))(h:K (Act.put ⟨T,ds⟩ dst v) w): Oper.wp Tryz.prog ⟨dst,.load 3 (.tmp s),ty,ps,af,g⟩ ⟨T,ds⟩ w K Q:=by
 go_simp
 exact h
theorem j_geq {Q:Exit→Act→World→Prop}{K:Act→World→Prop}{T:Array Value}{ds:List Deferred}{w:World}{ty:TypeId}{dst:Option Tmp}{s:Nat}{ps:String}{af:Array Edge}{g:Option (Nat×Bool)}{x y:Int}{b:Bool}(e:T.getD s undef = .int .i64 x)(hb:b=(decide (y≤x)))(h:K (Act.put ⟨T,ds⟩ dst (.bool b)) w): Oper.wp Tryz.prog ⟨dst,.binOp .geq 3 (.tmp s) (.const (.int .i64 y)) 3,ty,ps,af,g⟩ ⟨T,ds⟩ w K Q:=by
 subst hb
 go_simp
 exact h
theorem j_lss {Q:Exit→Act→World→Prop}{K:Act→World→Prop}{T:Array Value}{ds:List Deferred}{w:World}{ty:TypeId}{dst:Option Tmp}{s:Nat}{ps:String}{af:Array Edge}{g:Option (Nat×Bool)}{x y:Int}{b:Bool}(e:T.getD s undef = .int .i64 x)(hb:b=(decide (x<y)))(h:K (Act.put ⟨T,ds⟩ dst (.bool b)) w): Oper.wp Tryz.prog ⟨dst,.binOp .lss 3 (.tmp s) (.const (.int .i64 y)) 3,ty,ps,af,g⟩ ⟨T,ds⟩ w K Q:=by
 subst hb
 go_simp
 exact h
theorem j_pick {Q:Exit→Act→World→Prop}{K:Act→World→Prop}{T:Array Value}{ds:List Deferred}{w:World}{ty:TypeId}{dst:Option Tmp}{s:Nat}{ps:String}{af:Array Edge}{g:Option (Nat×Bool)}{x y:Operand}{b:Bool}{v:Value}(e:T.getD s undef = .bool b)(hv:(if b then Act.eval ⟨T,ds⟩ x else Act.eval ⟨T,ds⟩ y)=v)(h:K (Act.put ⟨T,ds⟩ dst v) w): Oper.wp Tryz.prog ⟨dst,.pick (.tmp s) x y,ty,ps,af,g⟩ ⟨T,ds⟩ w K Q:=by
 subst hv
 cases b
 ·simp only [Bool.false_eq_true,if_false] at h
  go_simp
  cases dst<;>cases y<;>simpa [Act.put,Act.eval] using h
 ·simp only [if_true] at h
  go_simp
  cases dst<;>cases x<;>simpa [Act.put,Act.eval] using h
theorem j_fa31_2 {Q:Exit→Act→World→Prop}{K:Act→World→Prop}{T:Array Value}{ds:List Deferred}{w:World}{ty:TypeId}{dst:Option Tmp}{s:Nat}{ps:String}{af:Array Edge}{g:Option (Nat×Bool)}{b:Nat}(e:T.getD s undef = .pointer (some ⟨b,0,none⟩))(h:K (Act.put ⟨T,ds⟩ dst (.pointer (some ⟨b,2,none⟩))) w): Oper.wp Tryz.prog ⟨dst,.fieldAddr 31 (.tmp s) 2,ty,ps,af,g⟩ ⟨T,ds⟩ w K Q:=by
 go_simp
 exact h
theorem j_fa31_3 {Q:Exit→Act→World→Prop}{K:Act→World→Prop}{T:Array Value}{ds:List Deferred}{w:World}{ty:TypeId}{dst:Option Tmp}{s:Nat}{ps:String}{af:Array Edge}{g:Option (Nat×Bool)}{b:Nat}(e:T.getD s undef = .pointer (some ⟨b,0,none⟩))(h:K (Act.put ⟨T,ds⟩ dst (.pointer (some ⟨b,3,none⟩))) w): Oper.wp Tryz.prog ⟨dst,.fieldAddr 31 (.tmp s) 3,ty,ps,af,g⟩ ⟨T,ds⟩ w K Q:=by
 go_simp
 exact h
theorem j_ld9 {Q:Exit→Act→World→Prop}{K:Act→World→Prop}{T:Array Value}{ds:List Deferred}{w:World}{ty:TypeId}{dst:Option Tmp}{s:Nat}{ps:String}{af:Array Edge}{g:Option (Nat×Bool)}{a:Addr}{v:Value}(c:w.cell? a=some v)(e:T.getD s undef = .pointer (some a))(h:K (Act.put ⟨T,ds⟩ dst v) w): Oper.wp Tryz.prog ⟨dst,.load 9 (.tmp s),ty,ps,af,g⟩ ⟨T,ds⟩ w K Q:=by
 go_simp
 exact h
theorem j_fa31_4 {Q:Exit→Act→World→Prop}{K:Act→World→Prop}{T:Array Value}{ds:List Deferred}{w:World}{ty:TypeId}{dst:Option Tmp}{s:Nat}{ps:String}{af:Array Edge}{g:Option (Nat×Bool)}{b:Nat}(e:T.getD s undef = .pointer (some ⟨b,0,none⟩))(h:K (Act.put ⟨T,ds⟩ dst (.pointer (some ⟨b,4,none⟩))) w): Oper.wp Tryz.prog ⟨dst,.fieldAddr 31 (.tmp s) 4,ty,ps,af,g⟩ ⟨T,ds⟩ w K Q:=by
 go_simp
 exact h
theorem j_eqle {Q:Exit→Act→World→Prop}{K:Act→World→Prop}{T:Array Value}{ds:List Deferred}{w:World}{ty:TypeId}{dst:Option Tmp}{s:Nat}{ps:String}{af:Array Edge}{g:Option (Nat×Bool)}{l:List UInt8}{b:Bool}(e:T.getD s undef = .string ⟨l.toArray⟩)(hb:b=((l == [])))(h:K (Act.put ⟨T,ds⟩ dst (.bool b)) w): Oper.wp Tryz.prog ⟨dst,.binOp .eql 9 (.tmp s) (.const (.string ⟨#[]⟩)) 9,ty,ps,af,g⟩ ⟨T,ds⟩ w K Q:=by
 subst hb
 go_simp
 have hz:l.isEmpty=(l == []):=by cases l<;>rfl
 rw [hz]
 exact h
theorem j_fa31_5 {Q:Exit→Act→World→Prop}{K:Act→World→Prop}{T:Array Value}{ds:List Deferred}{w:World}{ty:TypeId}{dst:Option Tmp}{s:Nat}{ps:String}{af:Array Edge}{g:Option (Nat×Bool)}{b:Nat}(e:T.getD s undef = .pointer (some ⟨b,0,none⟩))(h:K (Act.put ⟨T,ds⟩ dst (.pointer (some ⟨b,5,none⟩))) w): Oper.wp Tryz.prog ⟨dst,.fieldAddr 31 (.tmp s) 5,ty,ps,af,g⟩ ⟨T,ds⟩ w K Q:=by
 go_simp
 exact h
theorem j_fa31_6 {Q:Exit→Act→World→Prop}{K:Act→World→Prop}{T:Array Value}{ds:List Deferred}{w:World}{ty:TypeId}{dst:Option Tmp}{s:Nat}{ps:String}{af:Array Edge}{g:Option (Nat×Bool)}{b:Nat}(e:T.getD s undef = .pointer (some ⟨b,0,none⟩))(h:K (Act.put ⟨T,ds⟩ dst (.pointer (some ⟨b,6,none⟩))) w): Oper.wp Tryz.prog ⟨dst,.fieldAddr 31 (.tmp s) 6,ty,ps,af,g⟩ ⟨T,ds⟩ w K Q:=by
 go_simp
 exact h
theorem j_ld29 {Q:Exit→Act→World→Prop}{K:Act→World→Prop}{T:Array Value}{ds:List Deferred}{w:World}{ty:TypeId}{dst:Option Tmp}{s:Nat}{ps:String}{af:Array Edge}{g:Option (Nat×Bool)}{a:Addr}{v:Value}(c:w.cell? a=some v)(e:T.getD s undef = .pointer (some a))(h:K (Act.put ⟨T,ds⟩ dst v) w): Oper.wp Tryz.prog ⟨dst,.load 29 (.tmp s),ty,ps,af,g⟩ ⟨T,ds⟩ w K Q:=by
 go_simp
 exact h
theorem j_lens29 {Q:Exit→Act→World→Prop}{K:Act→World→Prop}{T:Array Value}{ds:List Deferred}{w:World}{ty:TypeId}{dst:Option Tmp}{s:Nat}{ps:String}{af:Array Edge}{g:Option (Nat×Bool)}{a:Option Addr}{n c:Nat}(e:T.getD s undef = .slice a n c)(h:K (Act.put ⟨T,ds⟩ dst (.int .i64 (n:Int))) w): Oper.wp Tryz.prog ⟨dst,.call {callee:= .builtin Builtin.len,args:=#[.tmp s],argTypes:=#[29]},ty,ps,af,g⟩ ⟨T,ds⟩ w K Q:=by
 go_simp
 exact h
theorem j_leq {Q:Exit→Act→World→Prop}{K:Act→World→Prop}{T:Array Value}{ds:List Deferred}{w:World}{ty:TypeId}{dst:Option Tmp}{s:Nat}{ps:String}{af:Array Edge}{g:Option (Nat×Bool)}{x y:Int}{b:Bool}(e:T.getD s undef = .int .i64 x)(hb:b=(decide (x≤y)))(h:K (Act.put ⟨T,ds⟩ dst (.bool b)) w): Oper.wp Tryz.prog ⟨dst,.binOp .leq 3 (.tmp s) (.const (.int .i64 y)) 3,ty,ps,af,g⟩ ⟨T,ds⟩ w K Q:=by
 subst hb
 go_simp
 exact h
theorem j_fa31_7 {Q:Exit→Act→World→Prop}{K:Act→World→Prop}{T:Array Value}{ds:List Deferred}{w:World}{ty:TypeId}{dst:Option Tmp}{s:Nat}{ps:String}{af:Array Edge}{g:Option (Nat×Bool)}{b:Nat}(e:T.getD s undef = .pointer (some ⟨b,0,none⟩))(h:K (Act.put ⟨T,ds⟩ dst (.pointer (some ⟨b,7,none⟩))) w): Oper.wp Tryz.prog ⟨dst,.fieldAddr 31 (.tmp s) 7,ty,ps,af,g⟩ ⟨T,ds⟩ w K Q:=by
 go_simp
 exact h
theorem j_fa31_8 {Q:Exit→Act→World→Prop}{K:Act→World→Prop}{T:Array Value}{ds:List Deferred}{w:World}{ty:TypeId}{dst:Option Tmp}{s:Nat}{ps:String}{af:Array Edge}{g:Option (Nat×Bool)}{b:Nat}(e:T.getD s undef = .pointer (some ⟨b,0,none⟩))(h:K (Act.put ⟨T,ds⟩ dst (.pointer (some ⟨b,8,none⟩))) w): Oper.wp Tryz.prog ⟨dst,.fieldAddr 31 (.tmp s) 8,ty,ps,af,g⟩ ⟨T,ds⟩ w K Q:=by
 go_simp
 exact h
theorem j_fa31_11 {Q:Exit→Act→World→Prop}{K:Act→World→Prop}{T:Array Value}{ds:List Deferred}{w:World}{ty:TypeId}{dst:Option Tmp}{s:Nat}{ps:String}{af:Array Edge}{g:Option (Nat×Bool)}{b:Nat}(e:T.getD s undef = .pointer (some ⟨b,0,none⟩))(h:K (Act.put ⟨T,ds⟩ dst (.pointer (some ⟨b,11,none⟩))) w): Oper.wp Tryz.prog ⟨dst,.fieldAddr 31 (.tmp s) 11,ty,ps,af,g⟩ ⟨T,ds⟩ w K Q:=by
 go_simp
 exact h
theorem j_fa31_12 {Q:Exit→Act→World→Prop}{K:Act→World→Prop}{T:Array Value}{ds:List Deferred}{w:World}{ty:TypeId}{dst:Option Tmp}{s:Nat}{ps:String}{af:Array Edge}{g:Option (Nat×Bool)}{b:Nat}(e:T.getD s undef = .pointer (some ⟨b,0,none⟩))(h:K (Act.put ⟨T,ds⟩ dst (.pointer (some ⟨b,12,none⟩))) w): Oper.wp Tryz.prog ⟨dst,.fieldAddr 31 (.tmp s) 12,ty,ps,af,g⟩ ⟨T,ds⟩ w K Q:=by
 go_simp
 exact h
theorem j_fa31_13 {Q:Exit→Act→World→Prop}{K:Act→World→Prop}{T:Array Value}{ds:List Deferred}{w:World}{ty:TypeId}{dst:Option Tmp}{s:Nat}{ps:String}{af:Array Edge}{g:Option (Nat×Bool)}{b:Nat}(e:T.getD s undef = .pointer (some ⟨b,0,none⟩))(h:K (Act.put ⟨T,ds⟩ dst (.pointer (some ⟨b,13,none⟩))) w): Oper.wp Tryz.prog ⟨dst,.fieldAddr 31 (.tmp s) 13,ty,ps,af,g⟩ ⟨T,ds⟩ w K Q:=by
 go_simp
 exact h
theorem j_neqe {Q:Exit→Act→World→Prop}{K:Act→World→Prop}{T:Array Value}{ds:List Deferred}{w:World}{ty:TypeId}{dst:Option Tmp}{s:Nat}{ps:String}{af:Array Edge}{g:Option (Nat×Bool)}{l:List UInt8}{b:Bool}(e:T.getD s undef = .string ⟨l.toArray⟩)(hb:b=(!(l == [])))(h:K (Act.put ⟨T,ds⟩ dst (.bool b)) w): Oper.wp Tryz.prog ⟨dst,.binOp .neq 9 (.tmp s) (.const (.string ⟨#[]⟩)) 9,ty,ps,af,g⟩ ⟨T,ds⟩ w K Q:=by
 subst hb
 go_simp
 have hz:l.isEmpty=(l == []):=by cases l<;>rfl
 rw [hz]
 exact h
theorem j_lent {Q:Exit→Act→World→Prop}{K:Act→World→Prop}{T:Array Value}{ds:List Deferred}{w:World}{ty:TypeId}{dst:Option Tmp}{s:Nat}{ps:String}{af:Array Edge}{g:Option (Nat×Bool)}{l:List UInt8}(e:T.getD s undef = .string ⟨l.toArray⟩)(h:K (Act.put ⟨T,ds⟩ dst (.int .i64 (l.length:Int))) w): Oper.wp Tryz.prog ⟨dst,.call {callee:= .builtin Builtin.len,args:=#[.tmp s],argTypes:=#[9]},ty,ps,af,g⟩ ⟨T,ds⟩ w K Q:=by
 have hz:(⟨l.toArray⟩:ByteArray).size=l.length:=size_ba l
 go_simp
 cases dst<;>simpa [Act.put,hz] using h
theorem j_fa31_14 {Q:Exit→Act→World→Prop}{K:Act→World→Prop}{T:Array Value}{ds:List Deferred}{w:World}{ty:TypeId}{dst:Option Tmp}{s:Nat}{ps:String}{af:Array Edge}{g:Option (Nat×Bool)}{b:Nat}(e:T.getD s undef = .pointer (some ⟨b,0,none⟩))(h:K (Act.put ⟨T,ds⟩ dst (.pointer (some ⟨b,14,none⟩))) w): Oper.wp Tryz.prog ⟨dst,.fieldAddr 31 (.tmp s) 14,ty,ps,af,g⟩ ⟨T,ds⟩ w K Q:=by
 go_simp
 exact h
theorem j_gequ8 {Q:Exit→Act→World→Prop}{K:Act→World→Prop}{T:Array Value}{ds:List Deferred}{w:World}{ty:TypeId}{dst:Option Tmp}{s:Nat}{ps:String}{af:Array Edge}{g:Option (Nat×Bool)}{x y:Int}{b:Bool}(e:T.getD s undef = .int .u8 x)(hb:b=(decide (y≤x)))(h:K (Act.put ⟨T,ds⟩ dst (.bool b)) w): Oper.wp Tryz.prog ⟨dst,.binOp .geq 5 (.tmp s) (.const (.int .u8 y)) 5,ty,ps,af,g⟩ ⟨T,ds⟩ w K Q:=by
 subst hb
 go_simp
 exact h
theorem j_lequ8 {Q:Exit→Act→World→Prop}{K:Act→World→Prop}{T:Array Value}{ds:List Deferred}{w:World}{ty:TypeId}{dst:Option Tmp}{s:Nat}{ps:String}{af:Array Edge}{g:Option (Nat×Bool)}{x y:Int}{b:Bool}(e:T.getD s undef = .int .u8 x)(hb:b=(decide (x≤y)))(h:K (Act.put ⟨T,ds⟩ dst (.bool b)) w): Oper.wp Tryz.prog ⟨dst,.binOp .leq 5 (.tmp s) (.const (.int .u8 y)) 5,ty,ps,af,g⟩ ⟨T,ds⟩ w K Q:=by
 subst hb
 go_simp
 exact h
theorem j_eqlu8 {Q:Exit→Act→World→Prop}{K:Act→World→Prop}{T:Array Value}{ds:List Deferred}{w:World}{ty:TypeId}{dst:Option Tmp}{s:Nat}{ps:String}{af:Array Edge}{g:Option (Nat×Bool)}{x y:Int}{b:Bool}(e:T.getD s undef = .int .u8 x)(hb:b=(x == y))(h:K (Act.put ⟨T,ds⟩ dst (.bool b)) w): Oper.wp Tryz.prog ⟨dst,.binOp .eql 5 (.tmp s) (.const (.int .u8 y)) 5,ty,ps,af,g⟩ ⟨T,ds⟩ w K Q:=by
 subst hb
 go_simp
 exact h
theorem j_gtr {Q:Exit→Act→World→Prop}{K:Act→World→Prop}{T:Array Value}{ds:List Deferred}{w:World}{ty:TypeId}{dst:Option Tmp}{s:Nat}{ps:String}{af:Array Edge}{g:Option (Nat×Bool)}{x y:Int}{b:Bool}(e:T.getD s undef = .int .i64 x)(hb:b=(decide (y<x)))(h:K (Act.put ⟨T,ds⟩ dst (.bool b)) w): Oper.wp Tryz.prog ⟨dst,.binOp .gtr 3 (.tmp s) (.const (.int .i64 y)) 3,ty,ps,af,g⟩ ⟨T,ds⟩ w K Q:=by
 subst hb
 go_simp
 exact h
theorem j_not {Q:Exit→Act→World→Prop}{K:Act→World→Prop}{T:Array Value}{ds:List Deferred}{w:World}{ty:TypeId}{dst:Option Tmp}{s:Nat}{ps:String}{af:Array Edge}{g:Option (Nat×Bool)}{x b:Bool}(e:T.getD s undef = .bool x)(hb:b = !x)(h:K (Act.put ⟨T,ds⟩ dst (.bool b)) w): Oper.wp Tryz.prog ⟨dst,.unOp .not 4 (.tmp s),ty,ps,af,g⟩ ⟨T,ds⟩ w K Q:=by
 subst hb
 go_simp
 exact h
theorem j_fa31_0 {Q:Exit→Act→World→Prop}{K:Act→World→Prop}{T:Array Value}{ds:List Deferred}{w:World}{ty:TypeId}{dst:Option Tmp}{s:Nat}{ps:String}{af:Array Edge}{g:Option (Nat×Bool)}{b:Nat}(e:T.getD s undef = .pointer (some ⟨b,0,none⟩))(h:K (Act.put ⟨T,ds⟩ dst (.pointer (some ⟨b,0,none⟩))) w): Oper.wp Tryz.prog ⟨dst,.fieldAddr 31 (.tmp s) 0,ty,ps,af,g⟩ ⟨T,ds⟩ w K Q:=by
 go_simp
 exact h
theorem j_eql2i643 {Q:Exit→Act→World→Prop}{K:Act→World→Prop}{T:Array Value}{ds:List Deferred}{w:World}{ty:TypeId}{dst:Option Tmp}{s:Nat}{ps:String}{af:Array Edge}{g:Option (Nat×Bool)}{r:Nat}{x y:Int}{b:Bool}(e:T.getD s undef = .int .i64 x)(e2:T.getD r undef = .int .i64 y)(hb:b=(x == y))(h:K (Act.put ⟨T,ds⟩ dst (.bool b)) w): Oper.wp Tryz.prog ⟨dst,.binOp .eql 3 (.tmp s) (.tmp r) 3,ty,ps,af,g⟩ ⟨T,ds⟩ w K Q:=by
 subst hb
 go_simp
 exact h
theorem j_eql2s {Q:Exit→Act→World→Prop}{K:Act→World→Prop}{T:Array Value}{ds:List Deferred}{w:World}{ty:TypeId}{dst:Option Tmp}{s:Nat}{ps:String}{af:Array Edge}{g:Option (Nat×Bool)}{r:Nat}{l m:List UInt8}{b:Bool}(e:T.getD s undef = .string ⟨l.toArray⟩)(e2:T.getD r undef = .string ⟨m.toArray⟩)(hb:b=((l == m)))(h:K (Act.put ⟨T,ds⟩ dst (.bool b)) w): Oper.wp Tryz.prog ⟨dst,.binOp .eql 9 (.tmp s) (.tmp r) 9,ty,ps,af,g⟩ ⟨T,ds⟩ w K Q:=by
 subst hb
 go_simp
 exact h
theorem j_fa31_9 {Q:Exit→Act→World→Prop}{K:Act→World→Prop}{T:Array Value}{ds:List Deferred}{w:World}{ty:TypeId}{dst:Option Tmp}{s:Nat}{ps:String}{af:Array Edge}{g:Option (Nat×Bool)}{b:Nat}(e:T.getD s undef = .pointer (some ⟨b,0,none⟩))(h:K (Act.put ⟨T,ds⟩ dst (.pointer (some ⟨b,9,none⟩))) w): Oper.wp Tryz.prog ⟨dst,.fieldAddr 31 (.tmp s) 9,ty,ps,af,g⟩ ⟨T,ds⟩ w K Q:=by
 go_simp
 exact h
theorem j_ld4 {Q:Exit→Act→World→Prop}{K:Act→World→Prop}{T:Array Value}{ds:List Deferred}{w:World}{ty:TypeId}{dst:Option Tmp}{s:Nat}{ps:String}{af:Array Edge}{g:Option (Nat×Bool)}{a:Addr}{v:Value}(c:w.cell? a=some v)(e:T.getD s undef = .pointer (some a))(h:K (Act.put ⟨T,ds⟩ dst v) w): Oper.wp Tryz.prog ⟨dst,.load 4 (.tmp s),ty,ps,af,g⟩ ⟨T,ds⟩ w K Q:=by
 go_simp
 exact h
theorem j_eql2b {Q:Exit→Act→World→Prop}{K:Act→World→Prop}{T:Array Value}{ds:List Deferred}{w:World}{ty:TypeId}{dst:Option Tmp}{s:Nat}{ps:String}{af:Array Edge}{g:Option (Nat×Bool)}{r:Nat}{x y:Bool}{b:Bool}(e:T.getD s undef = .bool x)(e2:T.getD r undef = .bool y)(hb:b=(x == y))(h:K (Act.put ⟨T,ds⟩ dst (.bool b)) w): Oper.wp Tryz.prog ⟨dst,.binOp .eql 4 (.tmp s) (.tmp r) 4,ty,ps,af,g⟩ ⟨T,ds⟩ w K Q:=by
 subst hb
 go_simp
 exact h
theorem j_fa31_10 {Q:Exit→Act→World→Prop}{K:Act→World→Prop}{T:Array Value}{ds:List Deferred}{w:World}{ty:TypeId}{dst:Option Tmp}{s:Nat}{ps:String}{af:Array Edge}{g:Option (Nat×Bool)}{b:Nat}(e:T.getD s undef = .pointer (some ⟨b,0,none⟩))(h:K (Act.put ⟨T,ds⟩ dst (.pointer (some ⟨b,10,none⟩))) w): Oper.wp Tryz.prog ⟨dst,.fieldAddr 31 (.tmp s) 10,ty,ps,af,g⟩ ⟨T,ds⟩ w K Q:=by
 go_simp
 exact h
end Go.Proofs.YthogppennalobaaGreatDoor
