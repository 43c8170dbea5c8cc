/- the document: Principal people.Texts of what Form writes Live, Kill. Condition: at most a million nodes. isOf; a node by its secret (by). Condition: at most a million nodes. What is told of a node (told). Condition: its texts have at most 2^48 bytes. -/
import Derived.Test.YthogppennalobaaGreatDoorZd07
import Derived.Test.YthogppennalobaaGreatDoorZd05
import Derived.Test.YthogppennalobaaGreatDoorZd04
set_option linter.unusedVariables false
set_option linter.unusedSimpArgs false
set_option maxRecDepth 100000
namespace Go.Proofs.YthogppennalobaaGreatDoor
open Go.RowKit Go.Sort Forest Pl
theorem ext_take (l:List UInt8)(k:Nat): (⟨l.toArray⟩:ByteArray).extract 0 k=⟨(l.take k).toArray⟩:=by
 apply ByteArray.ext
 simp [ByteArray.data_extract]
theorem ext_drop (l:List UInt8)(k:Nat): (⟨l.toArray⟩:ByteArray).extract k l.length=⟨(l.drop k).toArray⟩:=by
 apply ByteArray.ext
 simp [ByteArray.data_extract]
 exact List.take_of_length_le (by simp)
section
variable {Q:Exit→Act→World→Prop} {K:Act→World→Prop} {T:Array Value} {ds:List Deferred} {w:World} {ty:TypeId} {dst:Option Tmp} {s:Nat} {ps:String} {af:Array Edge} {g:Option (Nat×Bool)}
theorem j_take2 {l:List UInt8}(hl:2≤l.length)(e:T.getD s undef = .string ⟨l.toArray⟩)(h:K (Act.put ⟨T,ds⟩ dst (.string ⟨(l.take 2).toArray⟩)) w): Oper.wp Tryz.prog ⟨dst,.slice 9 (.tmp s) none (some (.const (.int .i64 2))) none,ty,ps,af,g⟩ ⟨T,ds⟩ w K Q:=by
 have hz:(⟨l.toArray⟩:ByteArray).size=l.length:=size_ba l
 have hI:(2:Int)≤(l.length:Int):=by omega
 have hx:=Lib.hid (ext_take l 2)
 go_simp
 first | rw [hx.out] | skip
 exact h
theorem j_drop2 {l:List UInt8}(hl:2≤l.length)(e:T.getD s undef = .string ⟨l.toArray⟩)(h:K (Act.put ⟨T,ds⟩ dst (.string ⟨(l.drop 2).toArray⟩)) w): Oper.wp Tryz.prog ⟨dst,.slice 9 (.tmp s) (some (.const (.int .i64 2))) none none,ty,ps,af,g⟩ ⟨T,ds⟩ w K Q:=by
 have hz:(⟨l.toArray⟩:ByteArray).size=l.length:=size_ba l
 have hI:(2:Int)≤(l.length:Int):=by omega
 have hx:=Lib.hid (ext_drop l 2)
 go_simp
 first | rw [hx.out] | skip
 exact h
theorem j_eq2 {l:List UInt8}{x:UInt8}{b:Bool}(e:T.getD s undef = .string ⟨l.toArray⟩)(hb:b=(l == [x,58]))(h:K (Act.put ⟨T,ds⟩ dst (.bool b)) w): Oper.wp Tryz.prog ⟨dst,.binOp .eql 9 (.tmp s) (.const (.string ⟨#[x,58]⟩)) 9,ty,ps,af,g⟩ ⟨T,ds⟩ w K Q:=by
 subst hb
 go_simp
 exact h
end
theorem prin_split (s:Bs): prinP s=(decide (2<(s.length:Int))&&(s.take 2 == [117,58]||s.take 2 == [99,58])&&nameP (s.drop 2)):=by
 have h0:nameP []=false:=rfl
 match s with
 |[]=>rfl
 |[a]=>simp [prinP,Lib.hasPrefix,List.isPrefixOf]
 |a::b::r=>
  have hd:decide (2<((a::b::r).length:Int)) = !r.isEmpty:=by
   cases r with
   |nil=>rfl
   |cons c r=>rw [decide_eq_true (show(2:Int)<((a::b::c::r).length:Int) by simp;omega)];rfl
  rw [hd]
  by_cases h1:a=117∧b=58
  ·obtain⟨rfl,rfl⟩:=h1
   cases r with
   |nil=>rfl
   |cons c r=>simp [prinP,Lib.hasPrefix,Lib.trimPrefix,List.isPrefixOf]
  ·by_cases h2:a=99∧b=58
   ·obtain⟨rfl,rfl⟩:=h2
    cases r with
    |nil=>rfl
    |cons c r=>simp [prinP,Lib.hasPrefix,Lib.trimPrefix,List.isPrefixOf]
   ·have e1:([a,b] == [117,58])=false:=by simpa using h1
    have e2:([a,b] == [99,58])=false:=by simpa using h2
    have f1:Lib.hasPrefix (a::b::r) [117,58]=false:=by
     cases hf:Lib.hasPrefix (a::b::r) [117,58] with
     |false=>rfl
     |true=>exact absurd (by simp [Lib.hasPrefix,List.isPrefixOf] at hf;exact⟨hf.1.symm,hf.2.symm⟩) h1
    have f2:Lib.hasPrefix (a::b::r) [99,58]=false:=by
     cases hf:Lib.hasPrefix (a::b::r) [99,58] with
     |false=>rfl
     |true=>exact absurd (by simp [Lib.hasPrefix,List.isPrefixOf] at hf;exact⟨hf.1.symm,hf.2.symm⟩) h2
    unfold prinP
    rw [f1,f2,show(a::b::r).take 2=[a,b] from rfl,e1,e2]
    simp
noncomputable def pri1O:Array Oper:=(Tryz.f113.body.bind fun c=>findR c 1).getD #[]
def pri1V (s:Bs)(b2 b6 b10 b11 b12 b16 b17:Bool): List Value:=[.string ⟨s.toArray⟩,.int .i64 (s.length:Int),.bool b2,.bool b2,gv (true&&(b2 == true)) (.string ⟨s.toArray⟩),gv (true&&(b2 == true)) (.string ⟨(s.take 2).toArray⟩),gv (true&&(b2 == true)) (.bool b6),gv (true&&(b2 == true)) (.bool b6),gv ((true&&(b2 == true))&&(b6 == false)) (.string ⟨s.toArray⟩),gv ((true&&(b2 == true))&&(b6 == false)) (.string ⟨(s.take 2).toArray⟩),gv ((true&&(b2 == true))&&(b6 == false)) (.bool b10),gv (true&&(b2 == true)) (.bool b11),.bool b12,.bool b12,gv (true&&(b12 == true)) (.string ⟨s.toArray⟩),gv (true&&(b12 == true)) (.string ⟨(s.drop 2).toArray⟩),gv (true&&(b12 == true)) (.bool b16),.bool b17,.bool b17]
set_option maxHeartbeats 4000000 in
theorem pri1 {s:Bs}  {W:World→Prop}{b2 b6 b10 b11 b12 b16 b17:Bool}(hb2:b2=decide (2<(s.length:Int)))(hb6:b6=((s.take 2 == [117,58])))(hb10:b10=((s.take 2 == [99,58])))(hb11:b11=(b6||b10))(hb12:b12=(b2&&b11))(hb17:b17=(b12&&b16))(cl16:b12=true→∀w',W w'→Calls Tryz.prog 114 #[.string ⟨(s.drop 2).toArray⟩] w' fun e w''=>e = .returned (.bool b16)∧W w''){t1 t3 t4 t5 t6 t7 t8 t9 t10 t11 t12 t13 t14 t15 t16 t17 t18 t19 t20:Value}{ds:List Deferred}{Q:Exit→Act→World→Prop}{w:World}(h0:W w)
  (h:∀w1:World,W w1→Q .normal {tmps:=#[.string ⟨s.toArray⟩,t1,.bool b17,.string ⟨s.toArray⟩,.int .i64 (s.length:Int),.bool b2,.bool b2,gv (true&&(b2 == true)) (.string ⟨s.toArray⟩),gv (true&&(b2 == true)) (.string ⟨(s.take 2).toArray⟩),gv (true&&(b2 == true)) (.bool b6),gv (true&&(b2 == true)) (.bool b6),gv ((true&&(b2 == true))&&(b6 == false)) (.string ⟨s.toArray⟩),gv ((true&&(b2 == true))&&(b6 == false)) (.string ⟨(s.take 2).toArray⟩),gv ((true&&(b2 == true))&&(b6 == false)) (.bool b10),gv (true&&(b2 == true)) (.bool b11),.bool b12,.bool b12,gv (true&&(b12 == true)) (.string ⟨s.toArray⟩),gv (true&&(b12 == true)) (.string ⟨(s.drop 2).toArray⟩),gv (true&&(b12 == true)) (.bool b16),.bool b17],defers:=ds} w1) :
  (Code.region 1 pri1O false).wp Tryz.prog Q {tmps:=#[.string ⟨s.toArray⟩,t1,.bool false,t3,t4,t5,t6,t7,t8,t9,t10,t11,t12,t13,t14,t15,t16,t17,t18,t19,t20],defers:=ds} w:=by
 have hsz:pri1O.size=19:=by kernel_rfl
 generalize hT0:List.toArray _=T0
 have hs:T0.size=21:=by subst hT0;rfl
 have g0:T0.getD 0 undef = .string ⟨s.toArray⟩:=by subst hT0;rfl
 refine seq_plan T0 ds (lv (pri1V s b2 b6 b10 b11 b12 b16 b17)) W w (by rw [hs];kernel_rfl) ?_ h0 ?_
 ·rw [hsz]
  refine all_step (all_step (all_step (all_step (all_step (all_step (all_step (all_step (all_step (all_step (all_step (all_step (all_step (all_step (all_step (all_step (all_step (all_step (all_step all_zero ?_) ?_) ?_) ?_) ?_) ?_) ?_) ?_) ?_) ?_) ?_) ?_) ?_) ?_) ?_) ?_) ?_) ?_) ?_
  all_goals
   intro o ho T w hK hW
  ·refine sq (x:= .string ⟨s.toArray⟩) (some 3) (.move (.tmp 0)) 9 ho (by kernel_rfl) rfl ?_
   intro ps af
   have e0:T.getD 0 undef = .string ⟨s.toArray⟩:=hK.old (by kernel_rfl) g0
   exact j_mv e0 ⟨rfl,hW⟩
  ·refine sq (x:= .int .i64 (s.length:Int)) (some 4) (.call {callee:= .builtin Builtin.len,args:=#[.tmp 3],argTypes:=#[9]}) 3 ho (by kernel_rfl) rfl ?_
   intro ps af
   have e3:T.getD 3 undef = .string ⟨s.toArray⟩:=hK.at 0 (by decide) (by kernel_rfl) rfl
   exact j_lent e3 ⟨rfl,hW⟩
  ·refine sq (x:= .bool b2) (some 5) (.binOp BinOp.gtr 3 (.tmp 4) (.const (Value.int IntKind.i64 2)) 3) 4 ho (by kernel_rfl) rfl ?_
   intro ps af
   have e4:T.getD 4 undef = .int .i64 (s.length:Int):=hK.at 1 (by decide) (by kernel_rfl) rfl
   exact j_gtr e4 hb2 ⟨rfl,hW⟩
  ·refine sq (x:= .bool b2) (some 6) (.move (.tmp 5)) 4 ho (by kernel_rfl) rfl ?_
   intro ps af
   have e5:T.getD 5 undef = .bool b2:=hK.at 2 (by decide) (by kernel_rfl) rfl
   exact j_mv e5 ⟨rfl,hW⟩
  ·have hT:T.getD 6 undef=gv true (.bool b2):=hK.at 3 (by decide) (by kernel_rfl) rfl
   refine sg (x:= .string ⟨s.toArray⟩) 3 6 true (some 7) (.move (.tmp 0)) 9 ho (by kernel_rfl) (by kernel_rfl) hT rfl hW ?_
   intro hg he ps af
   subst he
   have e0:T.getD 0 undef = .string ⟨s.toArray⟩:=hK.old (by kernel_rfl) g0
   exact j_mv e0 ⟨rfl,hW⟩
  ·have hT:T.getD 6 undef=gv true (.bool b2):=hK.at 3 (by decide) (by kernel_rfl) rfl
   refine sg (x:= .string ⟨(s.take 2).toArray⟩) 3 6 true (some 8) (.slice 9 (.tmp 7) none (some (.const (Value.int IntKind.i64 2))) none) 9 ho (by kernel_rfl) (by kernel_rfl) hT rfl hW ?_
   intro hg he ps af
   subst he
   have e7:T.getD 7 undef = .string ⟨s.toArray⟩:=hK.at 4 (by decide) (by kernel_rfl) rfl
   exact j_take2 (of_decide_eq_true hb2.symm |> fun h=>by omega) e7 ⟨rfl,hW⟩
  ·have hT:T.getD 6 undef=gv true (.bool b2):=hK.at 3 (by decide) (by kernel_rfl) rfl
   refine sg (x:= .bool b6) 3 6 true (some 9) (.binOp BinOp.eql 9 (.tmp 8) (.const (Value.string {data:=#[117,58]})) 9) 4 ho (by kernel_rfl) (by kernel_rfl) hT rfl hW ?_
   intro hg he ps af
   subst he
   have e8:T.getD 8 undef = .string ⟨(s.take 2).toArray⟩:=hK.at 5 (by decide) (by kernel_rfl) rfl
   exact j_eq2 e8 hb6 ⟨rfl,hW⟩
  ·have hT:T.getD 6 undef=gv true (.bool b2):=hK.at 3 (by decide) (by kernel_rfl) rfl
   refine sg (x:= .bool b6) 3 6 true (some 10) (.move (.tmp 9)) 4 ho (by kernel_rfl) (by kernel_rfl) hT rfl hW ?_
   intro hg he ps af
   subst he
   have e9:T.getD 9 undef = .bool b6:=hK.at 6 (by decide) (by kernel_rfl) rfl
   exact j_mv e9 ⟨rfl,hW⟩
  ·have hT:T.getD 10 undef=gv (true&&(b2 == true)) (.bool b6):=hK.at 7 (by decide) (by kernel_rfl) rfl
   refine sg (x:= .string ⟨s.toArray⟩) 7 10 false (some 11) (.move (.tmp 0)) 9 ho (by kernel_rfl) (by kernel_rfl) hT rfl hW ?_
   intro hg he ps af
   obtain rfl:b2=true:=by simpa using hg
   subst he
   have e0:T.getD 0 undef = .string ⟨s.toArray⟩:=hK.old (by kernel_rfl) g0
   exact j_mv e0 ⟨rfl,hW⟩
  ·have hT:T.getD 10 undef=gv (true&&(b2 == true)) (.bool b6):=hK.at 7 (by decide) (by kernel_rfl) rfl
   refine sg (x:= .string ⟨(s.take 2).toArray⟩) 7 10 false (some 12) (.slice 9 (.tmp 11) none (some (.const (Value.int IntKind.i64 2))) none) 9 ho (by kernel_rfl) (by kernel_rfl) hT rfl hW ?_
   intro hg he ps af
   obtain rfl:b2=true:=by simpa using hg
   subst he
   have e11:T.getD 11 undef = .string ⟨s.toArray⟩:=hK.at 8 (by decide) (by kernel_rfl) rfl
   exact j_take2 (of_decide_eq_true hb2.symm |> fun h=>by omega) e11 ⟨rfl,hW⟩
  ·have hT:T.getD 10 undef=gv (true&&(b2 == true)) (.bool b6):=hK.at 7 (by decide) (by kernel_rfl) rfl
   refine sg (x:= .bool b10) 7 10 false (some 13) (.binOp BinOp.eql 9 (.tmp 12) (.const (Value.string {data:=#[99,58]})) 9) 4 ho (by kernel_rfl) (by kernel_rfl) hT rfl hW ?_
   intro hg he ps af
   obtain rfl:b2=true:=by simpa using hg
   subst he
   have e12:T.getD 12 undef = .string ⟨(s.take 2).toArray⟩:=hK.at 9 (by decide) (by kernel_rfl) rfl
   exact j_eq2 e12 hb10 ⟨rfl,hW⟩
  ·have hT:T.getD 6 undef=gv true (.bool b2):=hK.at 3 (by decide) (by kernel_rfl) rfl
   refine sg (x:= .bool b11) 3 6 true (some 14) (.pick (.tmp 10) (.const (Value.bool true)) (.tmp 13)) 4 ho (by kernel_rfl) (by kernel_rfl) hT rfl hW ?_
   intro hg he ps af
   subst he
   have e10:T.getD 10 undef = .bool b6:=hK.at 7 (by decide) (by kernel_rfl) rfl
   refine j_pick e10 ?_ ⟨rfl,hW⟩
   rcases Bool.eq_false_or_eq_true b6 with hx | hx
   ·rw [hx,if_pos rfl]
    simp only [hb11,hx,Bool.false_and,Bool.true_or]
    rfl
   ·have es:T.getD 13 undef=gv ((true&&(true == true))&&(b6 == false)) (.bool b10):=hK.at 10 (by decide) (by kernel_rfl) rfl
    rw [hx,if_neg (by decide)]
    refine es.trans ?_
    simp only [hb11,hx,gv,Bool.true_and,Bool.and_true,Bool.false_or,beq_self_eq_true,Bool.true_or,if_true]
  ·refine sq (x:= .bool b12) (some 15) (.pick (.tmp 6) (.tmp 14) (.const (Value.bool false))) 4 ho (by kernel_rfl) rfl ?_
   intro ps af
   have e6:T.getD 6 undef = .bool b2:=hK.at 3 (by decide) (by kernel_rfl) rfl
   refine j_pick e6 ?_ ⟨rfl,hW⟩
   rcases Bool.eq_false_or_eq_true b2 with hx | hx
   ·have es:T.getD 14 undef=gv (true&&(b2 == true)) (.bool b11):=hK.at 11 (by decide) (by kernel_rfl) rfl
    rw [hx,if_pos rfl]
    refine es.trans ?_
    simp only [hb12,hx,gv,Bool.true_and,Bool.and_true,Bool.false_or,beq_self_eq_true,Bool.true_or,if_true]
   ·rw [hx,if_neg (by decide)]
    simp only [hb12,hx,Bool.false_and,Bool.true_or]
    rfl
  ·refine sq (x:= .bool b12) (some 16) (.move (.tmp 15)) 4 ho (by kernel_rfl) rfl ?_
   intro ps af
   have e15:T.getD 15 undef = .bool b12:=hK.at 12 (by decide) (by kernel_rfl) rfl
   exact j_mv e15 ⟨rfl,hW⟩
  ·have hT:T.getD 16 undef=gv true (.bool b12):=hK.at 13 (by decide) (by kernel_rfl) rfl
   refine sg (x:= .string ⟨s.toArray⟩) 13 16 true (some 17) (.move (.tmp 0)) 9 ho (by kernel_rfl) (by kernel_rfl) hT rfl hW ?_
   intro hg he ps af
   subst he
   have e0:T.getD 0 undef = .string ⟨s.toArray⟩:=hK.old (by kernel_rfl) g0
   exact j_mv e0 ⟨rfl,hW⟩
  ·have hT:T.getD 16 undef=gv true (.bool b12):=hK.at 13 (by decide) (by kernel_rfl) rfl
   refine sg (x:= .string ⟨(s.drop 2).toArray⟩) 13 16 true (some 18) (.slice 9 (.tmp 17) (some (.const (Value.int IntKind.i64 2))) none none) 9 ho (by kernel_rfl) (by kernel_rfl) hT rfl hW ?_
   intro hg he ps af
   subst he
   have e17:T.getD 17 undef = .string ⟨s.toArray⟩:=hK.at 14 (by decide) (by kernel_rfl) rfl
   exact j_drop2 (by have h:=hb12.symm;rw [Bool.and_eq_true] at h;have:=of_decide_eq_true (hb2.symm.trans h.1);omega) e17 ⟨rfl,hW⟩
  ·have hT:T.getD 16 undef=gv true (.bool b12):=hK.at 13 (by decide) (by kernel_rfl) rfl
   refine sg (x:= .bool b16) 13 16 true (some 19) (.call {callee:= .value (.func 114),args:=#[.tmp 18],argTypes:=#[9]}) 4 ho (by kernel_rfl) (by kernel_rfl) hT rfl hW ?_
   intro hg he ps af
   subst he
   have e18:T.getD 18 undef = .string ⟨(s.drop 2).toArray⟩:=hK.at 15 (by decide) (by kernel_rfl) rfl
   have hcl:=cl16 rfl _ hW
   go_simp
   go_at_call 114
   refine hcl.mono ?_
   rintro ex w2 ⟨rfl,hW2⟩
   exact⟨rfl,hW2⟩
  ·refine sq (x:= .bool b17) (some 20) (.pick (.tmp 16) (.tmp 19) (.const (Value.bool false))) 4 ho (by kernel_rfl) rfl ?_
   intro ps af
   have e16:T.getD 16 undef = .bool b12:=hK.at 13 (by decide) (by kernel_rfl) rfl
   refine j_pick e16 ?_ ⟨rfl,hW⟩
   rcases Bool.eq_false_or_eq_true b12 with hx | hx
   ·have es:T.getD 19 undef=gv (true&&(b12 == true)) (.bool b16):=hK.at 16 (by decide) (by kernel_rfl) rfl
    rw [hx,if_pos rfl]
    refine es.trans ?_
    simp only [hb17,hx,gv,Bool.true_and,Bool.and_true,Bool.false_or,beq_self_eq_true,Bool.true_or,if_true]
   ·rw [hx,if_neg (by decide)]
    simp only [hb17,hx,Bool.false_and,Bool.true_or]
    rfl
  ·refine sq (x:= .bool b17) (some 2) (.assign (.tmp 20)) 4 ho (by kernel_rfl) rfl ?_
   intro ps af
   have e20:T.getD 20 undef = .bool b17:=hK.at 17 (by decide) (by kernel_rfl) rfl
   exact j_as e20 ⟨rfl,hW⟩
 ·intro w1 hW
  have hQ:=h w1 hW
  rw [hsz]
  subst hT0
  refine cast (congrArg (fun Tx=>Q .normal ⟨Tx,ds⟩ w1) ?_) hQ
  kernel_rfl
theorem rprin_any (s:Bs)(hs:s.length≤140737488355328)(w:World): Calls Tryz.prog 113 #[.string ⟨s.toArray⟩] w fun e w'=>e = .returned (.bool (prinP s))∧w'=w:=by
 have HC:=Lib.hid (rname_any (s.drop 2) (by rw [List.length_drop];omega) w)
 obtain⟨R,hR⟩:∃R,R=prinP s:=⟨_,rfl⟩
 rw [← hR]
 have HR:=Lib.hid (hR.trans (prin_split s))
 clear hR
 go_enter Tryz.func113,Tryz.ntmps113
 go_upto_region 1 with fail
 refine pri1 (W:=fun w2=>w2=w) rfl rfl rfl rfl rfl rfl  (fun _ w2 h=>by subst h;exact HC.out) rfl ?_
 rintro w1 rfl
 go_wp2_with fail
 go_ret
 exact⟨by rw [HR.out];rfl,rfl⟩
end Go.Proofs.YthogppennalobaaGreatDoor
namespace Go.Proofs.YthogppennalobaaGreatDoor
open Go.RowKit Go.Sort Forest Pl
def Mx (w:World): Prop:=∃m,w.cell? ⟨1,0,none⟩=some (.int .i64 m)
theorem Mx.below {w w':World}(h:Mx w)(hb:Below w.heap.size w w'): Mx w':=by
 obtain⟨m,h⟩:=h
 exact⟨m,cell_below hb h⟩
def strLen:Value→Nat
 |.string b=>b.size
 |_=>0
theorem cut_one (s:Bs)(r:Bs): Lib.cut (one s++r) [58]=(Lib.decDigits s.length,s++r,true):=by
 unfold one
 rw [List.append_assoc,List.cons_append]
 exact cut_dec _ _ (dec_colon _)
set_option maxHeartbeats 4000000 in
theorem texts_any (l:List Bs)(hf:(formL l).length≤1000000)(w:World)(hT:Tb w)(hM:Mx w): Calls Tryz.prog 127 #[.string ⟨(formL l).toArray⟩] w fun e w'=>∃v,e = .returned (.tuple #[v,.bool true])∧Lw 9 1 w w' v l.length (l.map txt):=by
 have HT:=Lib.hid hT
 have HM:=Lib.hid hM
 have HF:=Lib.hid hf
 have HLL:Hid (l.length≤1000000):=Lib.hid (by
  have:∀k:List Bs,k.length≤(formL k).length:=fun k=>by
   induction k with
   |nil=>exact Nat.le_refl _
   |cons s k ih=>simp only [formL,List.length_append,one_len,List.length_cons];omega
  have:=this l
  omega)
 clear hT hM hf
 go_enter Tryz.func127,Tryz.ntmps127
 go_wp2_with fail
 go_loopw [0,4] (fun sv ov wr=>∃i:Nat,i≤l.length∧sv = .string ⟨(formL (l.drop i)).toArray⟩∧Hid (Lw 9 1 w wr ov i ((l.take i).map txt))) (fun sv _ _=>strLen sv)
 case atStart=>exact⟨0,Nat.zero_le _,rfl,Lib.hid (Lw.nil 9 1 w)⟩
 case round=>
  obtain⟨i,hi,rfl,HI⟩:=hrel
  by_cases hlt:i<l.length
  ·obtain⟨s,hse⟩:∃s,l[i]'hlt=s:=⟨_,rfl⟩
   have hd:l.drop i=s::l.drop (i+1):=by rw [List.drop_eq_getElem_cons hlt,hse]
   have HTK:Hid ((l.take (i+1)).map txt=(l.take i).map txt++[txt s]):=Lib.hid (by rw [List.take_add_one,List.getElem?_eq_getElem hlt,hse];simp)
   obtain⟨R,hR⟩:∃R,R=formL (l.drop (i+1)):=⟨_,rfl⟩
   have hform:formL (l.drop i)=one s++R:=by rw [hd,hR];rfl
   have hlen:(one s++R).length≤1000000:=by
    rw [← hform]
    have h:=formL_app (l.take i) (l.drop i)
    rw [List.take_append_drop] at h
    have h2:=HF.out
    rw [h,List.length_append] at h2
    omega
   have hsl:s.length+R.length+2≤(one s++R).length:=by
    rw [List.length_append,one_len]
    have:=dec_pos s.length
    cases hq:Lib.decDigits s.length with
    |nil=>exact absurd hq this
    |cons a b=>simp;omega
   rw [hform]
   obtain⟨m,hm⟩:=HM.out.below HI.out.2.1
   obtain⟨X,hX⟩:∃X,X=one s++R:=⟨_,rfl⟩
   obtain⟨Y,hY⟩:∃Y,Y=s++R:=⟨_,rfl⟩
   rw [← hX] at hlen hsl ⊢
   have HC:=Lib.hid (Tryz.strings_Cut ⟨X.toArray⟩ ⟨#[58]⟩ m wr (by rw [size_ba];omega) hm)
   have e1:Lib.cut (⟨X.toArray⟩:ByteArray).data.toList (⟨#[58]⟩:ByteArray).data.toList=(Lib.decDigits s.length,Y,true):=by
    show Lib.cut X [58]=_
    rw [hX,cut_one,hY]
   rw [e1] at HC
   have hYl:Y.length=s.length+R.length:=by rw [hY];simp
   have HNum:=Lib.hid (fun W (hb:Below wr.heap.size wr W)=>number_any s.length (by omega) W ((HT.out.below HI.out.2.1).below hb))
   have hx1:(⟨Y.toArray⟩:ByteArray).extract 0 s.length=⟨s.toArray⟩:=by rw [ext_take,hY];simp
   have hx2:(⟨Y.toArray⟩:ByteArray).extract s.length Y.length=⟨R.toArray⟩:=by rw [ext_drop,hY];simp
   have HX1:=Lib.hid hx1
   have HX2:=Lib.hid hx2
   have HCl:=Lib.hid (fun W=>sclone_any s W (by omega))
   have h0:(X == [])=false:=by
    cases X with
    |nil=>simp at hsl
    |cons a b=>rfl
   have hle:¬(Y.length:Int)<(s.length:Int):=by omega
   have hle2:(s.length:Int)≤(Y.length:Int):=by omega
   have hzY:(⟨Y.toArray⟩:ByteArray).size=Y.length:=size_ba Y
   have HD:Hid (i+1≤4194304):=Lib.hid (by have:=HLL.out;omega)
   have HRR:=Lib.hid hR
   have HME:Hid (R.length<X.length):=Lib.hid (by omega)
   clear hse hd hR hform hm hX hY e1 hYl hx1 hx2 hlen hsl
   go_wp2_with fail
   refine HC.out.mono ?_
   rintro e w2 ⟨rfl,q,hq⟩
   have hb2:Below wr.heap.size wr w2:=by rw [hq];exact below_drewN (Below.refl _ _) q
   have HB2:=Lib.hid hb2
   clear HC hq hb2
   go_wp2_with fail
   refine(HNum.out w2 HB2.out).mono ?_
   rintro e w3 ⟨rfl,hb3⟩
   have HB3:=Lib.hid (HB2.out.trans (hb3.mono HB2.out.size))
   clear HNum hb3 HB2
   go_wp2_with fail
   first | rw [HX1.out] | skip
   refine(HCl.out w3).mono ?_
   rintro e w4 ⟨rfl,hb4⟩
   have HB4:=Lib.hid (HB3.out.trans (hb4.mono HB3.out.size))
   clear HCl hb4 HB3
   have HI2:Hid (∀o,Lw 9 1 w (w4.alloc o) u4 i ((l.take i).map txt)):=Lib.hid fun o=>(HI.out.down HB4.out).down (by go_grown)
   clear HI
   go_wp2_with (at_builtin;refine wp_one row29 rfl _ _ rfl u4 ((l.take i).map txt) w4.heap.size 1 #[.string ⟨s.toArray⟩] rfl rfl (HI2.out _) (Bk.new rfl) rfl (by simp [Value.oneCell']) HD.out (by decide) ?_;intro v' w5 hs5 hg5;have HS5:=Lib.hid hs5;clear hs5 hg5)
   go_wp2_with fail
   go_roundw
   case rel=>exact⟨i+1,by omega,by first | rw [HX2.out,HRR.out] | (simp only [HX2.out];rw [HRR.out]),by rw [HTK.out];exact HS5.out⟩
   case measure=>
    have h1:=HME.out
    rw [HX2.out]
    simp only [strLen,size_ba]
    exact h1
  ·have hie:i=l.length:=by omega
   subst hie
   have h0:formL (l.drop l.length)=[]:=by rw [List.drop_length];rfl
   rw [h0]
   have h1:((⟨([]:Bs).toArray⟩:ByteArray) == ⟨#[]⟩)=true:=by decide
   have HI2:Hid (Lw 9 1 w wr u4 l.length (l.map txt)):=Lib.hid (by have:=HI.out;rwa [List.take_length] at this)
   clear HI
   go_wp2_with fail
   go_ret2
   exact⟨_,rfl,HI2.out⟩
end Go.Proofs.YthogppennalobaaGreatDoor
namespace Go.Proofs.YthogppennalobaaGreatDoor
open Go.RowKit Go.Sort Forest
def findI (l:List Nd)(id:Int): Option Nd:=l.find? fun n=>(n.id:Int) == id
theorem find_cases (ns:Ns)(id:Int): (blockI ns id=none∧findI (nodes ns) id=none)∨∃k∈ns,blockI ns id=some k.1∧findI (nodes ns) id=some k.2∧(k.2.id:Int)=id:=by
 unfold blockI findI nodes
 rw [List.find?_map]
 cases e:ns.find? fun k=>(k.2.id:Int) == id with
 |none=>exact .inl ⟨rfl,by simpa [Function.comp_def] using e⟩
 |some k=>
  have:=List.find?_some e
  refine .inr ⟨k,List.mem_of_find?_eq_some e,rfl,?_,by simpa using this⟩
  rw [show((fun n:Nd=>(n.id:Int) == id) ∘ fun k:Nat×Nd=>k.2)=fun k:Nat×Nd=>(k.2.id:Int) == id from rfl,e]
  rfl
def liveP (l:List Nd)(id now:Int): Bool:=match findI l id with
 |none=>false
 |some n=>liveN l now n
theorem live_any {w:World}{f:Nat}{ns:Ns}{nx:Int}(h:FR w f ns nx)(hl:ns.length≤1000000)(id now:Int): Calls Tryz.prog 27 #[kpt f,.int .i64 id,.int .i64 now] w fun e w'=>e = .returned (.bool (liveP (nodes ns) id now))∧Below w.heap.size w w':=by
 have HA:=Lib.hid (at_any h hl id)
 rcases find_cases ns id with ⟨h1,h2⟩ | ⟨k,hk,h1,h2,h3⟩
 ·have HR:Hid (liveP (nodes ns) id now=false):=Lib.hid (by unfold liveP;rw [h2])
  rw [h1] at HA
  clear h h1 h2
  unfold kpt at *
  unfold fV at HA
  go_enter Tryz.func27,Tryz.ntmps27
  go_wp2_with fail
  refine HA.out.mono ?_
  rintro e w1 ⟨rfl,rfl⟩
  go_wp2_with fail
  go_ret
  exact⟨by rw [HR.out];rfl,Below.refl _ _⟩
 ·have HR:Hid (liveP (nodes ns) id now=liveN (nodes ns) now k.2):=Lib.hid (by unfold liveP;rw [h2])
  have HL:=Lib.hid (isLive_any h hk now)
  rw [h1] at HA
  generalize liveN (nodes ns) now k.2=b at *
  clear h h1 h2 hk h3
  generalize k.1=g at *
  unfold fV at HA
  unfold kpt at *
  go_enter Tryz.func27,Tryz.ntmps27
  go_wp2_with fail
  refine HA.out.mono ?_
  rintro e w1 ⟨rfl,rfl⟩
  go_wp2_with fail
  refine HL.out.mono ?_
  rintro e w2 ⟨rfl,hb⟩
  go_wp2_with fail
  go_ret
  exact⟨by rw [HR.out];rfl,hb⟩
def killF (n:Nd): Nd:={n with dead:=true}
def spendF (n:Nd): Nd:={n with spent:=true}
def liftF (lev:Int)(n:Nd): Nd:={n with level:=max n.level lev}
def noteF (s:Bs)(n:Nd): Nd:={n with data:=s}
theorem mild_kill:Mild killF:=⟨⟨fun _=>rfl,fun _=>rfl⟩,fun _=>rfl,fun _=>rfl⟩
theorem mild_spend:Mild spendF:=⟨⟨fun _=>rfl,fun _=>rfl⟩,fun _=>rfl,fun _=>rfl⟩
theorem mild_lift (x:Int): Mild (liftF x):=⟨⟨fun _=>rfl,fun _=>rfl⟩,fun _=>rfl,fun _=>rfl⟩
theorem mild_note (s:Bs): Mild (noteF s):=⟨⟨fun _=>rfl,fun _=>rfl⟩,fun _=>rfl,fun _=>rfl⟩
def Ends (w:World)(f:Nat)(ns:Ns)(nx:Int)(r:Value)(l:List Nd)(nx':Int)(e:Ending)(w':World): Prop:=
 e = .returned r∧∃ns',nodes ns'=l∧FR w' f ns' nx'∧Chf w w' f ns ns'
theorem only_cell (w:World)(g o:Nat)(v:Value): Only [g] w (w.setCell ⟨g,o,none⟩ v):=(Only.refl [g] w).setCell ⟨g,o,none⟩ (.inl (by simp)) v
theorem killB {w:World}{f:Nat}{ns:Ns}{nx:Int}(h:FR w f ns nx){k:Nat×Nd}(hk:k∈ns): Calls Tryz.prog 67 #[kpt k.1] w fun e w'=>Ends w f ns nx (.bool (!k.2.dead)) (setN (nodes ns) k.2.id killF) nx e w':=by
 obtain⟨sv,av,K,_⟩:=h.node k hk
 refine(kill_any K).mono ?_
 rintro e w' ⟨rfl,rfl⟩
 obtain⟨h1,h2⟩:=h.upd hk mild_kill (only_cell w k.1 9 (.bool true)) (fun sv av up K=>Bk.same (i:=9) (v:= .bool true) K)
 exact⟨rfl,_,updN_nodes _ _ _,h1,h2⟩
def killP (l:List Nd)(id:Int): Int×List Nd:=match findI l id with
 |none=>(131,l)
 |some n=>(0,setN l n.id killF)
theorem kill_call {w:World}{f:Nat}{ns:Ns}{nx:Int}(h:FR w f ns nx)(hl:ns.length≤1000000)(id:Int): Calls Tryz.prog 28 #[kpt f,.int .i64 id] w fun e w'=>Ends w f ns nx (.int .i64 (killP (nodes ns) id).1) (killP (nodes ns) id).2 nx e w':=by
 have HA:=Lib.hid (at_any h hl id)
 have H:=Lib.hid h
 rcases find_cases ns id with ⟨h1,h2⟩ | ⟨k,hk,h1,h2,h3⟩
 ·have HR:Hid (killP (nodes ns) id=(131,nodes ns)):=Lib.hid (by unfold killP;rw [h2])
  rw [HR.out]
  rw [h1] at HA
  clear h h1 h2 HR
  unfold kpt at *
  unfold fV at HA
  go_enter Tryz.func28,Tryz.ntmps28
  go_wp2_with fail
  refine HA.out.mono ?_
  rintro e w1 ⟨rfl,rfl⟩
  go_wp2_with fail
  go_ret
  exact⟨rfl,ns,rfl,H.out,Chf.of_below H.out (Below.refl _ _)⟩
 ·have HR:Hid (killP (nodes ns) id=(0,setN (nodes ns) k.2.id killF)):=Lib.hid (by unfold killP;rw [h2])
  rw [HR.out]
  have HK:=Lib.hid (killB h hk)
  rw [h1] at HA
  clear h h1 h2 hk h3 HR
  generalize k.1=g at *
  unfold fV at HA
  unfold kpt at *
  go_enter Tryz.func28,Tryz.ntmps28
  go_wp2_with fail
  refine HA.out.mono ?_
  rintro e w1 ⟨rfl,rfl⟩
  go_wp2_with fail
  refine HK.out.mono ?_
  rintro e w2 ⟨rfl,hN⟩
  have HN:=Lib.hid hN
  clear hN
  go_wp2_with fail
  go_ret
  exact⟨rfl,HN.out⟩
end Go.Proofs.YthogppennalobaaGreatDoor
namespace Go.Proofs.YthogppennalobaaGreatDoor
open Go.RowKit Go.Sort Forest
def cId (p:Bs): Bs:=Lib.trimPrefix p [99,58]
def cIs (p:Bs): Bool:=Lib.hasPrefix p [99,58]
def isOfP (n:Nd)(p:Bs): Bool:=n.subject == p||(cIs p&&!(cId p).isEmpty&&n.client == cId p)
set_option maxHeartbeats 4000000 in
theorem isOf_any {w:World}{g:Nat}{n:Nd}{sv av up:Value}(K:Bk 75 w g (ndC n sv av up))(p:Bs): Calls Tryz.prog 68 #[kpt g,.string ⟨p.toArray⟩] w fun e w'=>e = .returned (.bool (isOfP n p))∧w'=w:=by
 have c3:w.cell? ⟨g,3,none⟩=some (.string ⟨n.subject.toArray⟩):=K.cell 3
 have c4:w.cell? ⟨g,4,none⟩=some (.string ⟨n.client.toArray⟩):=K.cell 4
 have HP:=Lib.hid (Tryz.strings_CutPrefix ⟨p.toArray⟩ ⟨#[99,58]⟩ w)
 simp only [] at HP
 change Hid (Calls Tryz.prog 111 #[.string ⟨p.toArray⟩,.string ⟨#[99,58]⟩] w fun e w'=>e = .returned (.tuple #[.string ⟨(cId p).toArray⟩,.bool (cIs p)])∧w'=w) at HP
 have HD:Hid (isOfP n p=(n.subject == p||(cIs p&&!(cId p).isEmpty&&n.client == cId p))):=Lib.hid rfl
 clear K
 generalize cId p=q at *
 generalize cIs p=b at *
 generalize isOfP n p=r at *
 generalize n.subject=s at *
 generalize n.client=c at *
 unfold kpt
 cases h1:(s == p) with
 |true=>
  rw [h1] at HD
  go_enter Tryz.func68,Tryz.ntmps68
  go_wp2_with fail
  refine HP.out.mono ?_
  rintro e w1 ⟨rfl,rfl⟩
  go_wp2_with fail
  go_ret
  exact⟨by rw [HD.out];rfl,rfl⟩
 |false=>
  rw [h1] at HD
  cases b with
  |false=>
   go_enter Tryz.func68,Tryz.ntmps68
   go_wp2_with fail
   refine HP.out.mono ?_
   rintro e w1 ⟨rfl,rfl⟩
   go_wp2_with fail
   go_ret
   exact⟨by rw [HD.out];rfl,rfl⟩
  |true=>
   cases h2:q.isEmpty with
   |true=>
    rw [h2] at HD
    go_enter Tryz.func68,Tryz.ntmps68
    go_wp2_with fail
    refine HP.out.mono ?_
    rintro e w1 ⟨rfl,rfl⟩
    go_wp2_with fail
    go_ret
    exact⟨by rw [HD.out];rfl,rfl⟩
   |false=>
    rw [h2] at HD
    generalize hz:(c == q)=z at *
    go_enter Tryz.func68,Tryz.ntmps68
    go_wp2_with fail
    refine HP.out.mono ?_
    rintro e w1 ⟨rfl,rfl⟩
    go_wp2_with fail
    go_ret
    exact⟨by rw [HD.out];simp [hz],rfl⟩
theorem secP_find (ns:Ns)(s:Bs): (secP ns s=none∧ns.find? (fun k=>k.2.secret == s)=none)∨∃i,∃h:i<ns.length,secP ns s=some i∧ns.find? (fun k=>k.2.secret == s)=some ns[i]:=by
 unfold secP
 cases e:ns.findIdx? fun k=>k.2.secret == s with
 |none=>
  rw [List.findIdx?_eq_none_iff] at e
  exact .inl ⟨rfl,List.find?_eq_none.2 fun x hx=>by rw [e x hx];simp⟩
 |some i=>
  obtain⟨h1,h2,h3⟩:=List.findIdx?_eq_some_iff_getElem.1 e
  refine .inr ⟨i,h1,rfl,?_⟩
  rw [List.find?_eq_some_iff_getElem]
  exact⟨h2,i,h1,rfl,fun j hj=>by have:=h3 j hj;simpa using this⟩
theorem by_any {w:World}{f:Nat}{ns:Ns}{nx:Int}(h:FR w f ns nx)(hl:ns.length≤1000000)(s:Bs): Calls Tryz.prog 64 #[kpt f,.string ⟨s.toArray⟩] w fun e w'=>e = .returned (fV ((ns.find? fun k=>k.2.secret == s).map (·.1)))∧Below w.heap.size w w':=by
 have H:=Lib.hid h
 obtain⟨a,c,h0,_,hc⟩:=h.cells
 have HS:Hid (Calls Tryz.prog 107 #[.slice a ns.length c,.func (.func 108) #[] #[.pointer (some ⟨w.heap.size,0,none⟩)]] (w.alloc (.cells #[.string ⟨s.toArray⟩] 9)) fun e w'=>e = .returned (.int .i64 (posV (secP ns s)))∧Below (w.heap.size+1) (w.alloc (.cells #[.string ⟨s.toArray⟩] 9)) w'):=Lib.hid (by
  have hb:Below w.heap.size w (w.alloc (.cells #[.string ⟨s.toArray⟩] 9)):=by go_grown
  refine(index_sec c hl (fun i hi=>?_) (fun k hk=>?_) w.heap.size s (Bk.cell (t:=9) (Bk.new rfl) 0)).mono ?_
  ·obtain⟨g,h1,h2⟩:=hc i hi
   exact⟨g,h1,cell_below hb h2⟩
  ·obtain⟨sv,av,K,_⟩:=h.node k hk
   exact cell_below hb (K.cell 13)
  ·rintro e w' ⟨h1,h2⟩
   exact⟨h1,by simpa using h2⟩)
 have HC:=Lib.hid hc
 have h0A:∀o,(w.alloc o).cell? ⟨f,0,none⟩=some (.slice a ns.length c):=fun o=>cell_below (by go_grown) h0
 clear hc h
 unfold kpt
 rcases secP_find ns s with ⟨e1,e2⟩ | ⟨i,hi,e1,e2⟩
 ·rw [e1] at HS
  rw [e2]
  clear e1 e2
  unfold posV at HS
  go_enter Tryz.func64,Tryz.ntmps64
  go_wp2_with fail
  refine HS.out.mono ?_
  rintro e w2 ⟨rfl,hb⟩
  have HB:Hid (Below w.heap.size w w2):=Lib.hid (Below.trans (show Below w.heap.size w (w.alloc (.cells #[.string ⟨s.toArray⟩] 9)) by go_grown) (hb.mono (by omega)))
  clear hb HS
  go_wp2_with fail
  go_ret
  exact⟨rfl,HB.out⟩
 ·rw [e1] at HS
  rw [e2]
  obtain⟨g,rfl,hcell⟩:=HC.out i hi
  obtain⟨k,hk⟩:∃k,ns[i]=k:=⟨_,rfl⟩
  rw [hk] at hcell ⊢
  have hiI:(i:Int)<(ns.length:Int):=by omega
  unfold kpt at hcell
  have HCL:=Lib.hid hcell
  have HF:=Lib.hid h0
  clear e1 e2 hk hcell h0 HC
  unfold posV at HS
  go_enter Tryz.func64,Tryz.ntmps64
  go_wp2_with fail
  refine HS.out.mono ?_
  rintro e w2 ⟨rfl,hb⟩
  have HB:Hid (Below w.heap.size w w2):=Lib.hid (Below.trans (show Below w.heap.size w (w.alloc (.cells #[.string ⟨s.toArray⟩] 9)) by go_grown) (hb.mono (by omega)))
  have c1:w2.cell? ⟨g,i,none⟩=some (.pointer (some ⟨k.1,0,none⟩)):=cell_below HB.out HCL.out
  have c2:w2.cell? ⟨f,0,none⟩=some (.slice (some ⟨g,0,none⟩) ns.length c):=cell_below HB.out HF.out
  clear hb HS h0A
  go_wp2_with fail
  go_ret
  exact⟨rfl,HB.out⟩
end Go.Proofs.YthogppennalobaaGreatDoor
namespace Go.Proofs.YthogppennalobaaGreatDoor
open Go.RowKit Go.Sort Forest OwnR TxO
theorem Bk.cells15 {t:TypeId}{w:World}{g:Nat}{a0 a1 a2 a3 a4 a5 a6 a7 a8 a9 a10 a11 a12 a13 a14 u:Value}(K:Bk t w g #[a0,a1,a2,a3,a4,a5,a6,a7,a8,a9,a10,a11,a12,a13,a14,u]):
  (w.cell? ⟨g,0,none⟩=some a0∧w.cell? ⟨g,1,none⟩=some a1∧w.cell? ⟨g,2,none⟩=some a2∧w.cell? ⟨g,3,none⟩=some a3∧w.cell? ⟨g,4,none⟩=some a4)∧(w.cell? ⟨g,5,none⟩=some a5∧w.cell? ⟨g,6,none⟩=some a6∧w.cell? ⟨g,7,none⟩=some a7∧w.cell? ⟨g,8,none⟩=some a8∧w.cell? ⟨g,9,none⟩=some a9)∧
  w.cell? ⟨g,10,none⟩=some a10∧w.cell? ⟨g,11,none⟩=some a11∧w.cell? ⟨g,12,none⟩=some a12∧w.cell? ⟨g,13,none⟩=some a13∧w.cell? ⟨g,14,none⟩=some a14:=
 ⟨⟨K.cell 0,K.cell 1,K.cell 2,K.cell 3,K.cell 4⟩,⟨K.cell 5,K.cell 6,K.cell 7,K.cell 8,K.cell 9⟩,K.cell 10,K.cell 11,K.cell 12,K.cell 13,K.cell 14⟩
def ToldP (w w':World)(o:Option Nd)(e:Ending): Prop:=(match o with
 |none=>e = .returned (.tuple #[.agg zeroN,.bool false])
 |some n=>∃sv av,e = .returned (.tuple #[.agg (inC n.id n.parent n sv av),.bool true])∧Tx w' sv n.scope∧Tx w' av n.actors)∧Below w.heap.size w w'
theorem ret_cellN {fn:Func}{R:Ending→World→Prop}{a:Act}{w:World}{p u:Tmp}(h:fn.results=#[.cell p 31,.tmp u])(g:Nat)(cs:Array Value)(y:Value)(hp:a.tmps.getD p undef = .pointer (some ⟨g,0,none⟩))(hy:a.tmps.getD u undef=y)(hk:Bk 31 w g cs)(hs:cs.size=15)(hd:a.defers=[])(hR:R (.returned (.tuple #[.agg cs,y])) w): bodyPost Tryz.prog fn R .ret a w:=by
 subst hy
 refine bodyPost_ret (v:= .tuple #[.agg cs,a.tmps.getD u undef]) ?_ hd hR
 rw [results_cell_tmp h,hp]
 show((loadVar 31 ⟨g,0,none⟩).run Tryz.prog w).andThen _=_
 rw [run_loadVar_row w g 31 31 cs (0,0) _ hk Tryz.underlying31 rfl (by rw [hs];exact i31)]
 rfl
set_option maxHeartbeats 4000000 in
theorem told_none (w:World): Calls Tryz.prog 76 #[.pointer none] w fun e w'=>ToldP w w' none e:=by
 have hZ:Bk 31 (w.alloc (.cells zeroN 31)) w.heap.size zeroN:=Bk.new rfl
 have HZ:=Lib.hid hZ
 have HB:Hid (Below w.heap.size w (w.alloc (.cells zeroN 31))):=Lib.hid (by go_grown)
 clear hZ
 go_enter Tryz.func76,Tryz.ntmps76
 go_wp2_with (refine wpList_put rfl 31 _ _ rfl w.heap.size zeroN zeroN rfl rfl HZ.out i31 rfl (one15 0 0 ⟨0,0,0,[],[],[],[],0,0,false,false,[],0,[],[]⟩ none none 0 0 0 0) ?_)
 refine ret_cellN rfl w.heap.size zeroN (.bool false) rfl rfl (Bk.row HZ.out) rfl rfl ?_
 exact⟨rfl,below_row HB.out (Nat.le_refl _)⟩
set_option maxHeartbeats 4000000 in
theorem told_some {w:World}{f:Nat}{ns:Ns}{nx:Int}(h:FR w f ns nx){k:Nat×Nd}(hk:k∈ns)(hn:Short k.2): Calls Tryz.prog 76 #[kpt k.1] w fun e w'=>ToldP w w' (some k.2) e:=by
 obtain⟨sv,av,K,hs,ha⟩:=h.node k hk
 have HC:Hid (∀W,Below w.heap.size w W→Calls Tryz.prog 51 #[.agg (inC k.2.id k.2.parent k.2 sv av)] W fun e w'=>∃sv' av',e = .returned (.agg (inC k.2.id k.2.parent k.2 sv' av'))∧Tx w' sv' k.2.scope∧Tx w' av' k.2.actors∧Below W.heap.size W w'):=
  Lib.hid fun W hb=>copied_any _ _ k.2 sv av hn W (hs.below hb).rd (ha.below hb).rd
 have hZ:Bk 31 (w.alloc (.cells zeroN 31)) w.heap.size zeroN:=Bk.new rfl
 have HZ:=Lib.hid hZ
 have HB:Hid (Below w.heap.size w (w.alloc (.cells zeroN 31))):=Lib.hid (by go_grown)
 have K2:Bk 75 (w.alloc (.cells zeroN 31)) k.1 (ndC k.2 sv av (fV (blockI ns k.2.parent))):=K.alloc
 unfold ndC txt at K2
 obtain⟨⟨a0,a1,a2,a3,a4⟩,⟨a5,a6,a7,a8,a9⟩,a10,a11,a12,a13,a14⟩:=K2.cells15
 obtain⟨sa,sc,rfl⟩:=owns_shape hs
 obtain⟨ca,cc,rfl⟩:=owns_shape ha
 unfold inC txt at HC
 unfold zeroN at a0 a1 a2 a3 a4 a5 a6 a7 a8 a9 a10 a11 a12 a13 a14
 clear hZ K K2 h hk hn hs ha
 unfold kpt
 go_enter Tryz.func76,Tryz.ntmps76
 go_wp2_with fail
 refine(HC.out _ (by go_grown)).mono ?_
 rintro e w2 ⟨sv',av',rfl,t1,t2,hb⟩
 have HB2:=Lib.hid (HB.out.trans (hb.mono (by have:=HB.out.size;exact this)))
 have HZ2:=Lib.hid (HZ.out.below hb)
 have T1:=Lib.hid t1
 have T2:=Lib.hid t2
 obtain⟨xa,xc,rfl⟩:=owns_shape t1
 obtain⟨ya,yc,rfl⟩:=owns_shape t2
 obtain⟨g,hg⟩:∃g,g=w.heap.size:=⟨_,rfl⟩
 rw [← hg] at HZ2 ⊢
 have HG:=Lib.hid hg
 clear a0 a1 a2 a3 a4 a5 a6 a7 a8 a9 a10 a11 a12 a13 a14 hb HC HZ HB t1 t2 hg
 go_wp2_with (refine wpList_put rfl 31 _ _ rfl g zeroN _ rfl rfl HZ2.out i31 rfl (one15 (k.2.id:Int) (k.2.parent:Int) k.2 xa ya _ xc _ yc) ?_)
 refine ret_cellN rfl g _ (.bool true) rfl rfl (Bk.row HZ2.out) rfl rfl ?_
 exact⟨⟨_,_,rfl,T1.out.setRow HZ2.out (by decide),T2.out.setRow HZ2.out (by decide)⟩,below_row HB2.out (by rw [HG.out];exact Nat.le_refl _)⟩
end Go.Proofs.YthogppennalobaaGreatDoor
