/- the document: letter, Name, Scope, Text Principal, isTime the document: Principal -/
import Derived.Test.YthogppennalobaaGreatDoorZl05
set_option linter.unusedVariables false
set_option linter.unusedSimpArgs false
set_option maxRecDepth 100000
namespace Go.Proofs.YthogppennalobaaGreatDoor
open Go.RowKit Go.Sort Forest Pl
noncomputable def let1O:Array Oper:=(Tryz.f139.body.bind fun c=>findR c 1).getD #[]
def let1V (x:Int)(b1 b4 b5 b8 b11 b12 b13 b16 b17 b20 b21 b24 b25:Bool): List Value:=[.int .u8 x,.bool b1,.bool b1,gv (true&&(b1 == true)) (.int .u8 x),gv (true&&(b1 == true)) (.bool b4),.bool b5,.bool b5,gv (true&&(b5 == false)) (.int .u8 x),gv (true&&(b5 == false)) (.bool b8),gv (true&&(b5 == false)) (.bool b8),gv ((true&&(b5 == false))&&(b8 == true)) (.int .u8 x),gv ((true&&(b5 == false))&&(b8 == true)) (.bool b11),gv (true&&(b5 == false)) (.bool b12),.bool b13,.bool b13,gv (true&&(b13 == false)) (.int .u8 x),gv (true&&(b13 == false)) (.bool b16),.bool b17,.bool b17,gv (true&&(b17 == false)) (.int .u8 x),gv (true&&(b17 == false)) (.bool b20),.bool b21,.bool b21,gv (true&&(b21 == false)) (.int .u8 x),gv (true&&(b21 == false)) (.bool b24),.bool b25,.bool b25]
set_option maxHeartbeats 4000000 in
theorem let1 {x:Int}  {W:World→Prop}{b1 b4 b5 b8 b11 b12 b13 b16 b17 b20 b21 b24 b25:Bool}(hb1:b1=decide (97≤x))(hb4:b4=decide (x≤122))(hb5:b5=(b1&&b4))(hb8:b8=decide (48≤x))(hb11:b11=decide (x≤57))(hb12:b12=(b8&&b11))(hb13:b13=(b5||b12))(hb16:b16=((x) == 46))(hb17:b17=(b13||b16))(hb20:b20=((x) == 95))(hb21:b21=(b17||b20))(hb24:b24=((x) == 45))(hb25:b25=(b21||b24)){t1 t3 t4 t5 t6 t7 t8 t9 t10 t11 t12 t13 t14 t15 t16 t17 t18 t19 t20 t21 t22 t23 t24 t25 t26 t27 t28:Value}{ds:List Deferred}{Q:Exit→Act→World→Prop}{w:World}(h0:W w)
  (h:∀w1:World,W w1→Q .normal {tmps:=#[.int .u8 x,t1,.bool b25,.int .u8 x,.bool b1,.bool b1,gv (true&&(b1 == true)) (.int .u8 x),gv (true&&(b1 == true)) (.bool b4),.bool b5,.bool b5,gv (true&&(b5 == false)) (.int .u8 x),gv (true&&(b5 == false)) (.bool b8),gv (true&&(b5 == false)) (.bool b8),gv ((true&&(b5 == false))&&(b8 == true)) (.int .u8 x),gv ((true&&(b5 == false))&&(b8 == true)) (.bool b11),gv (true&&(b5 == false)) (.bool b12),.bool b13,.bool b13,gv (true&&(b13 == false)) (.int .u8 x),gv (true&&(b13 == false)) (.bool b16),.bool b17,.bool b17,gv (true&&(b17 == false)) (.int .u8 x),gv (true&&(b17 == false)) (.bool b20),.bool b21,.bool b21,gv (true&&(b21 == false)) (.int .u8 x),gv (true&&(b21 == false)) (.bool b24),.bool b25],defers:=ds} w1) :
  (Code.region 1 let1O false).wp Tryz.prog Q {tmps:=#[.int .u8 x,t1,.bool false,t3,t4,t5,t6,t7,t8,t9,t10,t11,t12,t13,t14,t15,t16,t17,t18,t19,t20,t21,t22,t23,t24,t25,t26,t27,t28],defers:=ds} w:=by
 have hsz:let1O.size=27:=by kernel_rfl
 generalize hT0:List.toArray _=T0
 have hs:T0.size=29:=by subst hT0;rfl
 have g0:T0.getD 0 undef = .int .u8 x:=by subst hT0;rfl
 refine seq_plan T0 ds (lv (let1V x b1 b4 b5 b8 b11 b12 b13 b16 b17 b20 b21 b24 b25)) W w (by rw [hs];kernel_rfl) ?_ h0 ?_
 ·rw [hsz]
  refine all_step (all_step (all_step (all_step (all_step (all_step (all_step (all_step (all_step (all_step (all_step (all_step (all_step (all_step (all_step (all_step (all_step (all_step (all_step (all_step (all_step (all_step (all_step (all_step (all_step (all_step (all_step all_zero ?_) ?_) ?_) ?_) ?_) ?_) ?_) ?_) ?_) ?_) ?_) ?_) ?_) ?_) ?_) ?_) ?_) ?_) ?_) ?_) ?_) ?_) ?_) ?_) ?_) ?_) ?_
  all_goals
   intro o ho T w hK hW
  ·refine sq (x:= .int .u8 x) (some 3) (.move (.tmp 0)) 5 ho (by kernel_rfl) rfl ?_
   intro ps af
   have e0:T.getD 0 undef = .int .u8 x:=hK.old (by kernel_rfl) g0
   exact j_mv e0 ⟨rfl,hW⟩
  ·refine sq (x:= .bool b1) (some 4) (.binOp BinOp.geq 5 (.tmp 3) (.const (Value.int IntKind.u8 97)) 5) 4 ho (by kernel_rfl) rfl ?_
   intro ps af
   have e3:T.getD 3 undef = .int .u8 x:=hK.at 0 (by decide) (by kernel_rfl) rfl
   exact j_gequ8 e3 hb1 ⟨rfl,hW⟩
  ·refine sq (x:= .bool b1) (some 5) (.move (.tmp 4)) 4 ho (by kernel_rfl) rfl ?_
   intro ps af
   have e4:T.getD 4 undef = .bool b1:=hK.at 1 (by decide) (by kernel_rfl) rfl
   exact j_mv e4 ⟨rfl,hW⟩
  ·have hT:T.getD 5 undef=gv true (.bool b1):=hK.at 2 (by decide) (by kernel_rfl) rfl
   refine sg (x:= .int .u8 x) 2 5 true (some 6) (.move (.tmp 0)) 5 ho (by kernel_rfl) (by kernel_rfl) hT rfl hW ?_
   intro hg he ps af
   subst he
   have e0:T.getD 0 undef = .int .u8 x:=hK.old (by kernel_rfl) g0
   exact j_mv e0 ⟨rfl,hW⟩
  ·have hT:T.getD 5 undef=gv true (.bool b1):=hK.at 2 (by decide) (by kernel_rfl) rfl
   refine sg (x:= .bool b4) 2 5 true (some 7) (.binOp BinOp.leq 5 (.tmp 6) (.const (Value.int IntKind.u8 122)) 5) 4 ho (by kernel_rfl) (by kernel_rfl) hT rfl hW ?_
   intro hg he ps af
   subst he
   have e6:T.getD 6 undef = .int .u8 x:=hK.at 3 (by decide) (by kernel_rfl) rfl
   exact j_lequ8 e6 hb4 ⟨rfl,hW⟩
  ·refine sq (x:= .bool b5) (some 8) (.pick (.tmp 5) (.tmp 7) (.const (Value.bool false))) 4 ho (by kernel_rfl) rfl ?_
   intro ps af
   have e5:T.getD 5 undef = .bool b1:=hK.at 2 (by decide) (by kernel_rfl) rfl
   refine j_pick e5 ?_ ⟨rfl,hW⟩
   rcases Bool.eq_false_or_eq_true b1 with hx | hx
   ·have es:T.getD 7 undef=gv (true&&(b1 == true)) (.bool b4):=hK.at 4 (by decide) (by kernel_rfl) rfl
    rw [hx,if_pos rfl]
    refine es.trans ?_
    simp only [hb5,hx,gv,Bool.true_and,Bool.and_true,Bool.false_or,beq_self_eq_true,Bool.true_or,if_true]
   ·rw [hx,if_neg (by decide)]
    simp only [hb5,hx,Bool.false_and,Bool.true_or]
    rfl
  ·refine sq (x:= .bool b5) (some 9) (.move (.tmp 8)) 4 ho (by kernel_rfl) rfl ?_
   intro ps af
   have e8:T.getD 8 undef = .bool b5:=hK.at 5 (by decide) (by kernel_rfl) rfl
   exact j_mv e8 ⟨rfl,hW⟩
  ·have hT:T.getD 9 undef=gv true (.bool b5):=hK.at 6 (by decide) (by kernel_rfl) rfl
   refine sg (x:= .int .u8 x) 6 9 false (some 10) (.move (.tmp 0)) 5 ho (by kernel_rfl) (by kernel_rfl) hT rfl hW ?_
   intro hg he ps af
   subst he
   have e0:T.getD 0 undef = .int .u8 x:=hK.old (by kernel_rfl) g0
   exact j_mv e0 ⟨rfl,hW⟩
  ·have hT:T.getD 9 undef=gv true (.bool b5):=hK.at 6 (by decide) (by kernel_rfl) rfl
   refine sg (x:= .bool b8) 6 9 false (some 11) (.binOp BinOp.geq 5 (.tmp 10) (.const (Value.int IntKind.u8 48)) 5) 4 ho (by kernel_rfl) (by kernel_rfl) hT rfl hW ?_
   intro hg he ps af
   subst he
   have e10:T.getD 10 undef = .int .u8 x:=hK.at 7 (by decide) (by kernel_rfl) rfl
   exact j_gequ8 e10 hb8 ⟨rfl,hW⟩
  ·have hT:T.getD 9 undef=gv true (.bool b5):=hK.at 6 (by decide) (by kernel_rfl) rfl
   refine sg (x:= .bool b8) 6 9 false (some 12) (.move (.tmp 11)) 4 ho (by kernel_rfl) (by kernel_rfl) hT rfl hW ?_
   intro hg he ps af
   subst he
   have e11:T.getD 11 undef = .bool b8:=hK.at 8 (by decide) (by kernel_rfl) rfl
   exact j_mv e11 ⟨rfl,hW⟩
  ·have hT:T.getD 12 undef=gv (true&&(b5 == false)) (.bool b8):=hK.at 9 (by decide) (by kernel_rfl) rfl
   refine sg (x:= .int .u8 x) 9 12 true (some 13) (.move (.tmp 0)) 5 ho (by kernel_rfl) (by kernel_rfl) hT rfl hW ?_
   intro hg he ps af
   obtain rfl:b5=false:=by simpa using hg
   subst he
   have e0:T.getD 0 undef = .int .u8 x:=hK.old (by kernel_rfl) g0
   exact j_mv e0 ⟨rfl,hW⟩
  ·have hT:T.getD 12 undef=gv (true&&(b5 == false)) (.bool b8):=hK.at 9 (by decide) (by kernel_rfl) rfl
   refine sg (x:= .bool b11) 9 12 true (some 14) (.binOp BinOp.leq 5 (.tmp 13) (.const (Value.int IntKind.u8 57)) 5) 4 ho (by kernel_rfl) (by kernel_rfl) hT rfl hW ?_
   intro hg he ps af
   obtain rfl:b5=false:=by simpa using hg
   subst he
   have e13:T.getD 13 undef = .int .u8 x:=hK.at 10 (by decide) (by kernel_rfl) rfl
   exact j_lequ8 e13 hb11 ⟨rfl,hW⟩
  ·have hT:T.getD 9 undef=gv true (.bool b5):=hK.at 6 (by decide) (by kernel_rfl) rfl
   refine sg (x:= .bool b12) 6 9 false (some 15) (.pick (.tmp 12) (.tmp 14) (.const (Value.bool false))) 4 ho (by kernel_rfl) (by kernel_rfl) hT rfl hW ?_
   intro hg he ps af
   subst he
   have e12:T.getD 12 undef = .bool b8:=hK.at 9 (by decide) (by kernel_rfl) rfl
   refine j_pick e12 ?_ ⟨rfl,hW⟩
   rcases Bool.eq_false_or_eq_true b8 with hx | hx
   ·have es:T.getD 14 undef=gv ((true&&(false == false))&&(b8 == true)) (.bool b11):=hK.at 11 (by decide) (by kernel_rfl) rfl
    rw [hx,if_pos rfl]
    refine es.trans ?_
    simp only [hb12,hx,gv,Bool.true_and,Bool.and_true,Bool.false_or,beq_self_eq_true,Bool.true_or,if_true]
   ·rw [hx,if_neg (by decide)]
    simp only [hb12,hx,Bool.false_and,Bool.true_or]
    rfl
  ·refine sq (x:= .bool b13) (some 16) (.pick (.tmp 9) (.const (Value.bool true)) (.tmp 15)) 4 ho (by kernel_rfl) rfl ?_
   intro ps af
   have e9:T.getD 9 undef = .bool b5:=hK.at 6 (by decide) (by kernel_rfl) rfl
   refine j_pick e9 ?_ ⟨rfl,hW⟩
   rcases Bool.eq_false_or_eq_true b5 with hx | hx
   ·rw [hx,if_pos rfl]
    simp only [hb13,hx,Bool.false_and,Bool.true_or]
    rfl
   ·have es:T.getD 15 undef=gv (true&&(b5 == false)) (.bool b12):=hK.at 12 (by decide) (by kernel_rfl) rfl
    rw [hx,if_neg (by decide)]
    refine es.trans ?_
    simp only [hb13,hx,gv,Bool.true_and,Bool.and_true,Bool.false_or,beq_self_eq_true,Bool.true_or,if_true]
  ·refine sq (x:= .bool b13) (some 17) (.move (.tmp 16)) 4 ho (by kernel_rfl) rfl ?_
   intro ps af
   have e16:T.getD 16 undef = .bool b13:=hK.at 13 (by decide) (by kernel_rfl) rfl
   exact j_mv e16 ⟨rfl,hW⟩
  ·have hT:T.getD 17 undef=gv true (.bool b13):=hK.at 14 (by decide) (by kernel_rfl) rfl
   refine sg (x:= .int .u8 x) 14 17 false (some 18) (.move (.tmp 0)) 5 ho (by kernel_rfl) (by kernel_rfl) hT rfl hW ?_
   intro hg he ps af
   subst he
   have e0:T.getD 0 undef = .int .u8 x:=hK.old (by kernel_rfl) g0
   exact j_mv e0 ⟨rfl,hW⟩
  ·have hT:T.getD 17 undef=gv true (.bool b13):=hK.at 14 (by decide) (by kernel_rfl) rfl
   refine sg (x:= .bool b16) 14 17 false (some 19) (.binOp BinOp.eql 5 (.tmp 18) (.const (Value.int IntKind.u8 46)) 5) 4 ho (by kernel_rfl) (by kernel_rfl) hT rfl hW ?_
   intro hg he ps af
   subst he
   have e18:T.getD 18 undef = .int .u8 x:=hK.at 15 (by decide) (by kernel_rfl) rfl
   exact j_eqlu8 e18 hb16 ⟨rfl,hW⟩
  ·refine sq (x:= .bool b17) (some 20) (.pick (.tmp 17) (.const (Value.bool true)) (.tmp 19)) 4 ho (by kernel_rfl) rfl ?_
   intro ps af
   have e17:T.getD 17 undef = .bool b13:=hK.at 14 (by decide) (by kernel_rfl) rfl
   refine j_pick e17 ?_ ⟨rfl,hW⟩
   rcases Bool.eq_false_or_eq_true b13 with hx | hx
   ·rw [hx,if_pos rfl]
    simp only [hb17,hx,Bool.false_and,Bool.true_or]
    rfl
   ·have es:T.getD 19 undef=gv (true&&(b13 == false)) (.bool b16):=hK.at 16 (by decide) (by kernel_rfl) rfl
    rw [hx,if_neg (by decide)]
    refine es.trans ?_
    simp only [hb17,hx,gv,Bool.true_and,Bool.and_true,Bool.false_or,beq_self_eq_true,Bool.true_or,if_true]
  ·refine sq (x:= .bool b17) (some 21) (.move (.tmp 20)) 4 ho (by kernel_rfl) rfl ?_
   intro ps af
   have e20:T.getD 20 undef = .bool b17:=hK.at 17 (by decide) (by kernel_rfl) rfl
   exact j_mv e20 ⟨rfl,hW⟩
  ·have hT:T.getD 21 undef=gv true (.bool b17):=hK.at 18 (by decide) (by kernel_rfl) rfl
   refine sg (x:= .int .u8 x) 18 21 false (some 22) (.move (.tmp 0)) 5 ho (by kernel_rfl) (by kernel_rfl) hT rfl hW ?_
   intro hg he ps af
   subst he
   have e0:T.getD 0 undef = .int .u8 x:=hK.old (by kernel_rfl) g0
   exact j_mv e0 ⟨rfl,hW⟩
  ·have hT:T.getD 21 undef=gv true (.bool b17):=hK.at 18 (by decide) (by kernel_rfl) rfl
   refine sg (x:= .bool b20) 18 21 false (some 23) (.binOp BinOp.eql 5 (.tmp 22) (.const (Value.int IntKind.u8 95)) 5) 4 ho (by kernel_rfl) (by kernel_rfl) hT rfl hW ?_
   intro hg he ps af
   subst he
   have e22:T.getD 22 undef = .int .u8 x:=hK.at 19 (by decide) (by kernel_rfl) rfl
   exact j_eqlu8 e22 hb20 ⟨rfl,hW⟩
  ·refine sq (x:= .bool b21) (some 24) (.pick (.tmp 21) (.const (Value.bool true)) (.tmp 23)) 4 ho (by kernel_rfl) rfl ?_
   intro ps af
   have e21:T.getD 21 undef = .bool b17:=hK.at 18 (by decide) (by kernel_rfl) rfl
   refine j_pick e21 ?_ ⟨rfl,hW⟩
   rcases Bool.eq_false_or_eq_true b17 with hx | hx
   ·rw [hx,if_pos rfl]
    simp only [hb21,hx,Bool.false_and,Bool.true_or]
    rfl
   ·have es:T.getD 23 undef=gv (true&&(b17 == false)) (.bool b20):=hK.at 20 (by decide) (by kernel_rfl) rfl
    rw [hx,if_neg (by decide)]
    refine es.trans ?_
    simp only [hb21,hx,gv,Bool.true_and,Bool.and_true,Bool.false_or,beq_self_eq_true,Bool.true_or,if_true]
  ·refine sq (x:= .bool b21) (some 25) (.move (.tmp 24)) 4 ho (by kernel_rfl) rfl ?_
   intro ps af
   have e24:T.getD 24 undef = .bool b21:=hK.at 21 (by decide) (by kernel_rfl) rfl
   exact j_mv e24 ⟨rfl,hW⟩
  ·have hT:T.getD 25 undef=gv true (.bool b21):=hK.at 22 (by decide) (by kernel_rfl) rfl
   refine sg (x:= .int .u8 x) 22 25 false (some 26) (.move (.tmp 0)) 5 ho (by kernel_rfl) (by kernel_rfl) hT rfl hW ?_
   intro hg he ps af
   subst he
   have e0:T.getD 0 undef = .int .u8 x:=hK.old (by kernel_rfl) g0
   exact j_mv e0 ⟨rfl,hW⟩
  ·have hT:T.getD 25 undef=gv true (.bool b21):=hK.at 22 (by decide) (by kernel_rfl) rfl
   refine sg (x:= .bool b24) 22 25 false (some 27) (.binOp BinOp.eql 5 (.tmp 26) (.const (Value.int IntKind.u8 45)) 5) 4 ho (by kernel_rfl) (by kernel_rfl) hT rfl hW ?_
   intro hg he ps af
   subst he
   have e26:T.getD 26 undef = .int .u8 x:=hK.at 23 (by decide) (by kernel_rfl) rfl
   exact j_eqlu8 e26 hb24 ⟨rfl,hW⟩
  ·refine sq (x:= .bool b25) (some 28) (.pick (.tmp 25) (.const (Value.bool true)) (.tmp 27)) 4 ho (by kernel_rfl) rfl ?_
   intro ps af
   have e25:T.getD 25 undef = .bool b21:=hK.at 22 (by decide) (by kernel_rfl) rfl
   refine j_pick e25 ?_ ⟨rfl,hW⟩
   rcases Bool.eq_false_or_eq_true b21 with hx | hx
   ·rw [hx,if_pos rfl]
    simp only [hb25,hx,Bool.false_and,Bool.true_or]
    rfl
   ·have es:T.getD 27 undef=gv (true&&(b21 == false)) (.bool b24):=hK.at 24 (by decide) (by kernel_rfl) rfl
    rw [hx,if_neg (by decide)]
    refine es.trans ?_
    simp only [hb25,hx,gv,Bool.true_and,Bool.and_true,Bool.false_or,beq_self_eq_true,Bool.true_or,if_true]
  ·refine sq (x:= .bool b25) (some 2) (.assign (.tmp 28)) 4 ho (by kernel_rfl) rfl ?_
   intro ps af
   have e28:T.getD 28 undef = .bool b25:=hK.at 25 (by decide) (by kernel_rfl) rfl
   exact j_as e28 ⟨rfl,hW⟩
 ·intro w1 hW
  have hQ:=h w1 hW
  rw [hsz]
  subst hT0
  refine cast (congrArg (fun Tx=>Q .normal ⟨Tx,ds⟩ w1) ?_) hQ
  kernel_rfl
theorem letter_any (b:UInt8)(w:World): Calls Tryz.prog 139 #[.int .u8 (b.toNat:Int)] w fun e w'=>e = .returned (.bool (nameB b))∧w'=w:=by
 unfold nameB
 generalize (b.toNat:Int)=x
 go_enter Tryz.func139,Tryz.ntmps139
 go_upto_region 1 with fail
 refine let1 (W:=fun w2=>w2=w) rfl rfl rfl rfl rfl rfl rfl rfl rfl rfl rfl rfl rfl   rfl ?_
 rintro w1 rfl
 go_wp2_with fail
 go_ret
 exact⟨rfl,rfl⟩
theorem made_all (most:Int)(p:UInt8→Bool)(s:Bs): madeP most p s=(s.all p&&(decide (1≤(s.length:Int))&&decide ((s.length:Int)≤most))):=by
 unfold madeP
 have h:(!s.isEmpty)=decide (1≤(s.length:Int)):=by
  cases s with
  |nil=>rfl
  |cons a l=>rw [decide_eq_true (show(1:Int)≤((a::l).length:Int) by simp;omega)];rfl
 rw [h]
 cases decide (1≤(s.length:Int))<;>cases decide ((s.length:Int)≤most)<;>cases s.all p<;>rfl
set_option maxHeartbeats 1000000 in
theorem rname_any (s:Bs)(hs:s.length≤140737488355328)(w:World): Calls Tryz.prog 114 #[.string ⟨s.toArray⟩] w fun e w'=>e = .returned (.bool (nameP s))∧w'=w:=by
 have HC:=Lib.hid (fun b=>letter_any b w)
 have HSL:=Lib.hid hs
 have hz:(⟨s.toArray⟩:ByteArray).size=s.length:=size_ba s
 obtain⟨R,hR⟩:∃R,R=nameP s:=⟨_,rfl⟩
 rw [← hR]
 have HR:Hid (R=(s.all nameB&&(decide (1≤(s.length:Int))&&decide ((s.length:Int)≤24)))):=Lib.hid (hR.trans (made_all _ _ s))
 clear hR
 go_enter Tryz.func114,Tryz.ntmps114
 go_wp2_with fail
 go_loopw [3] (fun iv wr=>∃i:Nat,i≤s.length∧iv = .int .i64 (i:Int)∧wr=w∧Hid ((s.take i).all nameB=true)) (fun iv _=>s.length - (intOf iv).toNat)
 case atStart=>exact⟨0,Nat.zero_le _,rfl,rfl,Lib.hid rfl⟩
 case round=>
  obtain⟨i,hi,rfl,rfl,HI⟩:=hrel
  by_cases hlt:i<s.length
  ·have hltI:(i:Int)<(s.length:Int):=by omega
   obtain⟨b,hb⟩:∃b,s[i]=b:=⟨_,rfl⟩
   have HB:=Lib.hid (HC.out b)
   have HT:Hid ((s.take (i+1)).all nameB=((s.take i).all nameB&&nameB b)):=Lib.hid (by rw [List.take_add_one,List.getElem?_eq_getElem hlt,hb,List.all_append];simp)
   have HW:Hid (nameB b=false→s.all nameB=false):=Lib.hid (fun h=>by
    rw [← Bool.not_eq_true,List.all_eq_true]
    intro ha
    have:=ha b (hb▸List.getElem_mem hlt)
    rw [h] at this
    cases this)
   have HBI:=Lib.hid hb
   obtain⟨x,hx⟩:∃x:Int,((((⟨s.toArray⟩:ByteArray)[i]'(by rw [hz];exact hlt)).toNat:Nat):Int)=x:=⟨_,rfl⟩
   have hxb:(b.toNat:Int)=x:=by rw [← hx,← hb];rfl
   have HX:=Lib.hid hxb
   rw [hxb] at HB
   clear hb hxb
   have HYES:Hid (nameB b=true→(s.take (i+1)).all nameB=true):=Lib.hid (fun h=>by rw [HT.out,HI.out,h];rfl)
   have HNO:Hid (nameB b=false→R=false):=Lib.hid (fun h=>by rw [HR.out,HW.out h];rfl)
   clear HT HW
   cases hp:nameB b with
   |true=>
    rw [hp] at HB
    have HN:=Lib.hid hp
    clear hp
    go_wp2_with fail
    refine HB.out.mono ?_
    rintro e w1 ⟨rfl,rfl⟩
    have HP:=HN
    go_wp2_with fail
    go_roundw
    case rel=>exact⟨i+1,by omega,by go_num,trivial,Lib.hid (HYES.out HP.out)⟩
    case measure=>simp [intOf];omega
   |false=>
    rw [hp] at HB
    have HN:=Lib.hid hp
    clear hp
    go_wp2_with fail
    refine HB.out.mono ?_
    rintro e w1 ⟨rfl,rfl⟩
    have HP:=HN
    go_wp2_with fail
    go_ret
    exact⟨by rw [HNO.out HP.out];rfl,rfl⟩
  ·have hie:i=s.length:=by omega
   have hltI:¬(i:Int)<(s.length:Int):=by omega
   have HA:Hid (s.all nameB=true):=Lib.hid (by have:=HI.out;rwa [hie,List.take_length] at this)
   clear hie
   by_cases h1:(1:Int)≤(s.length:Int)
   ·by_cases h2:(s.length:Int)≤24
    ·have HV:Hid (R=true):=Lib.hid (by rw [HR.out,HA.out,decide_eq_true h1,decide_eq_true h2];rfl)
     go_wp2_with fail
     go_ret
     exact⟨by rw [HV.out];first | rfl | (simp;omega) | simp_all,rfl⟩
    ·have HV:Hid (R=false):=Lib.hid (by rw [HR.out,HA.out,decide_eq_true h1,decide_eq_false h2];rfl)
     go_wp2_with fail
     go_ret
     exact⟨by rw [HV.out];first | rfl | (simp;omega) | simp_all,rfl⟩
   ·have HV:Hid (R=false):=Lib.hid (by rw [HR.out,HA.out,decide_eq_false h1];rfl)
    go_wp2_with fail
    go_ret
    exact⟨by rw [HV.out];first | rfl | (simp;omega) | simp_all,rfl⟩
set_option maxHeartbeats 1000000 in
theorem rscope_any (s:Bs)(hs:s.length≤140737488355328)(w:World): Calls Tryz.prog 140 #[.string ⟨s.toArray⟩] w fun e w'=>e = .returned (.bool (scopeP s))∧w'=w:=by
 have HC:=Lib.hid (fun b=>letter_any b w)
 have HSL:=Lib.hid hs
 have hz:(⟨s.toArray⟩:ByteArray).size=s.length:=size_ba s
 obtain⟨R,hR⟩:∃R,R=scopeP s:=⟨_,rfl⟩
 rw [← hR]
 have HR:Hid (R=(s.all scopeB&&(decide (1≤(s.length:Int))&&decide ((s.length:Int)≤32)))):=Lib.hid (hR.trans (made_all _ _ s))
 clear hR
 go_enter Tryz.func140,Tryz.ntmps140
 go_wp2_with fail
 go_loopw [3] (fun iv wr=>∃i:Nat,i≤s.length∧iv = .int .i64 (i:Int)∧wr=w∧Hid ((s.take i).all scopeB=true)) (fun iv _=>s.length - (intOf iv).toNat)
 case atStart=>exact⟨0,Nat.zero_le _,rfl,rfl,Lib.hid rfl⟩
 case round=>
  obtain⟨i,hi,rfl,rfl,HI⟩:=hrel
  by_cases hlt:i<s.length
  ·have hltI:(i:Int)<(s.length:Int):=by omega
   obtain⟨b,hb⟩:∃b,s[i]=b:=⟨_,rfl⟩
   have HB:=Lib.hid (HC.out b)
   have HT:Hid ((s.take (i+1)).all scopeB=((s.take i).all scopeB&&scopeB b)):=Lib.hid (by rw [List.take_add_one,List.getElem?_eq_getElem hlt,hb,List.all_append];simp)
   have HW:Hid (scopeB b=false→s.all scopeB=false):=Lib.hid (fun h=>by
    rw [← Bool.not_eq_true,List.all_eq_true]
    intro ha
    have:=ha b (hb▸List.getElem_mem hlt)
    rw [h] at this
    cases this)
   have HBI:=Lib.hid hb
   obtain⟨x,hx⟩:∃x:Int,((((⟨s.toArray⟩:ByteArray)[i]'(by rw [hz];exact hlt)).toNat:Nat):Int)=x:=⟨_,rfl⟩
   have hxb:(b.toNat:Int)=x:=by rw [← hx,← hb];rfl
   have HX:=Lib.hid hxb
   rw [hxb] at HB
   clear hb hxb
   have HYES:Hid (scopeB b=true→(s.take (i+1)).all scopeB=true):=Lib.hid (fun h=>by rw [HT.out,HI.out,h];rfl)
   have HNO:Hid (scopeB b=false→R=false):=Lib.hid (fun h=>by rw [HR.out,HW.out h];rfl)
   clear HT HW
   cases hp:nameB b with
   |true=>
    rw [hp] at HB
    have HN:=Lib.hid hp
    clear hp
    go_wp2_with fail
    refine HB.out.mono ?_
    rintro e w1 ⟨rfl,rfl⟩
    have HP:Hid (scopeB b=true):=Lib.hid (by unfold scopeB;rw [HN.out];rfl)
    go_wp2_with fail
    go_roundw
    case rel=>exact⟨i+1,by omega,by go_num,trivial,Lib.hid (HYES.out HP.out)⟩
    case measure=>simp [intOf];omega
   |false=>
    rw [hp] at HB
    have HN:=Lib.hid hp
    clear hp
    go_wp2_with fail
    refine HB.out.mono ?_
    rintro e w1 ⟨rfl,rfl⟩
    by_cases h58:x=58
    ·have HP:Hid (scopeB b=true):=Lib.hid (by unfold scopeB;rw [HN.out,HX.out,h58];rfl)
     go_wp2_with fail
     go_roundw
     case rel=>exact⟨i+1,by omega,by go_num,trivial,Lib.hid (HYES.out HP.out)⟩
     case measure=>simp [intOf];omega
    ·have HP:Hid (scopeB b=false):=Lib.hid (by unfold scopeB;rw [HN.out,HX.out];simpa using h58)
     have h58b:(x == 58)=false:=by simpa using h58
     clear h58
     go_wp2_with fail
     go_ret
     exact⟨by rw [HNO.out HP.out];rfl,rfl⟩
  ·have hie:i=s.length:=by omega
   have hltI:¬(i:Int)<(s.length:Int):=by omega
   have HA:Hid (s.all scopeB=true):=Lib.hid (by have:=HI.out;rwa [hie,List.take_length] at this)
   clear hie
   by_cases h1:(1:Int)≤(s.length:Int)
   ·by_cases h2:(s.length:Int)≤32
    ·have HV:Hid (R=true):=Lib.hid (by rw [HR.out,HA.out,decide_eq_true h1,decide_eq_true h2];rfl)
     go_wp2_with fail
     go_ret
     exact⟨by rw [HV.out];first | rfl | (simp;omega) | simp_all,rfl⟩
    ·have HV:Hid (R=false):=Lib.hid (by rw [HR.out,HA.out,decide_eq_true h1,decide_eq_false h2];rfl)
     go_wp2_with fail
     go_ret
     exact⟨by rw [HV.out];first | rfl | (simp;omega) | simp_all,rfl⟩
   ·have HV:Hid (R=false):=Lib.hid (by rw [HR.out,HA.out,decide_eq_false h1];rfl)
    go_wp2_with fail
    go_ret
    exact⟨by rw [HV.out];first | rfl | (simp;omega) | simp_all,rfl⟩
set_option maxHeartbeats 1000000 in
theorem rtext_any (s:Bs)(hs:s.length≤140737488355328)(w:World): Calls Tryz.prog 115 #[.string ⟨s.toArray⟩] w fun e w'=>e = .returned (.bool (textP s))∧w'=w:=by
 have HC:=Lib.hid (fun b=>letter_any b w)
 have HSL:=Lib.hid hs
 have hz:(⟨s.toArray⟩:ByteArray).size=s.length:=size_ba s
 obtain⟨R,hR⟩:∃R,R=textP s:=⟨_,rfl⟩
 rw [← hR]
 have HR:Hid (R=(s.all textB&&(decide (1≤(s.length:Int))&&decide ((s.length:Int)≤128)))):=Lib.hid (hR.trans (made_all _ _ s))
 clear hR
 go_enter Tryz.func115,Tryz.ntmps115
 go_wp2_with fail
 go_loopw [3] (fun iv wr=>∃i:Nat,i≤s.length∧iv = .int .i64 (i:Int)∧wr=w∧Hid ((s.take i).all textB=true)) (fun iv _=>s.length - (intOf iv).toNat)
 case atStart=>exact⟨0,Nat.zero_le _,rfl,rfl,Lib.hid rfl⟩
 case round=>
  obtain⟨i,hi,rfl,rfl,HI⟩:=hrel
  by_cases hlt:i<s.length
  ·have hltI:(i:Int)<(s.length:Int):=by omega
   obtain⟨b,hb⟩:∃b,s[i]=b:=⟨_,rfl⟩
   have HB:=Lib.hid (HC.out b)
   have HT:Hid ((s.take (i+1)).all textB=((s.take i).all textB&&textB b)):=Lib.hid (by rw [List.take_add_one,List.getElem?_eq_getElem hlt,hb,List.all_append];simp)
   have HW:Hid (textB b=false→s.all textB=false):=Lib.hid (fun h=>by
    rw [← Bool.not_eq_true,List.all_eq_true]
    intro ha
    have:=ha b (hb▸List.getElem_mem hlt)
    rw [h] at this
    cases this)
   have HBI:=Lib.hid hb
   obtain⟨x,hx⟩:∃x:Int,((((⟨s.toArray⟩:ByteArray)[i]'(by rw [hz];exact hlt)).toNat:Nat):Int)=x:=⟨_,rfl⟩
   have hxb:(b.toNat:Int)=x:=by rw [← hx,← hb];rfl
   have HX:=Lib.hid hxb
   rw [hxb] at HB
   clear hb hxb
   have HYES:Hid (textB b=true→(s.take (i+1)).all textB=true):=Lib.hid (fun h=>by rw [HT.out,HI.out,h];rfl)
   have HNO:Hid (textB b=false→R=false):=Lib.hid (fun h=>by rw [HR.out,HW.out h];rfl)
   clear HT HW
   clear HB
   by_cases h33:x<33
   ·have HP:Hid (textB b=false):=Lib.hid (by unfold textB;rw [HX.out,decide_eq_false (by omega)];rfl)
    go_wp2_with fail
    go_ret
    exact⟨by rw [HNO.out HP.out];rfl,rfl⟩
   ·by_cases h126:126<x
    ·have HP:Hid (textB b=false):=Lib.hid (by unfold textB;rw [HX.out,decide_eq_false (show ¬x≤126 by omega),Bool.and_false])
     go_wp2_with fail
     go_ret
     exact⟨by rw [HNO.out HP.out];rfl,rfl⟩
    ·have HP:Hid (textB b=true):=Lib.hid (by unfold textB;rw [HX.out,decide_eq_true (show(33:Int)≤x by omega),decide_eq_true (show x≤126 by omega)];rfl)
     go_wp2_with fail
     go_roundw
     case rel=>exact⟨i+1,by omega,by go_num,trivial,Lib.hid (HYES.out HP.out)⟩
     case measure=>simp [intOf];omega
  ·have hie:i=s.length:=by omega
   have hltI:¬(i:Int)<(s.length:Int):=by omega
   have HA:Hid (s.all textB=true):=Lib.hid (by have:=HI.out;rwa [hie,List.take_length] at this)
   clear hie
   by_cases h1:(1:Int)≤(s.length:Int)
   ·by_cases h2:(s.length:Int)≤128
    ·have HV:Hid (R=true):=Lib.hid (by rw [HR.out,HA.out,decide_eq_true h1,decide_eq_true h2];rfl)
     go_wp2_with fail
     go_ret
     exact⟨by rw [HV.out];first | rfl | (simp;omega) | simp_all,rfl⟩
    ·have HV:Hid (R=false):=Lib.hid (by rw [HR.out,HA.out,decide_eq_true h1,decide_eq_false h2];rfl)
     go_wp2_with fail
     go_ret
     exact⟨by rw [HV.out];first | rfl | (simp;omega) | simp_all,rfl⟩
   ·have HV:Hid (R=false):=Lib.hid (by rw [HR.out,HA.out,decide_eq_false h1];rfl)
    go_wp2_with fail
    go_ret
    exact⟨by rw [HV.out];first | rfl | (simp;omega) | simp_all,rfl⟩
end Go.Proofs.YthogppennalobaaGreatDoor
namespace Go.Proofs.YthogppennalobaaGreatDoor
open Go.RowKit Go.Sort Forest
def prinP (s:Bs): Bool:=(Lib.hasPrefix s [117,58]&&nameP (Lib.trimPrefix s [117,58]))||(Lib.hasPrefix s [99,58]&&nameP (Lib.trimPrefix s [99,58]))
theorem trim_len (s p:Bs): (Lib.trimPrefix s p).length≤s.length:=by
 unfold Lib.trimPrefix
 split<;>simp
theorem prin_any (s:Bs)(hs:s.length≤140737488355328)(w:World): Calls Tryz.prog 100 #[.string ⟨s.toArray⟩] w fun e w'=>e = .returned (.bool (prinP s))∧w'=w:=by
 have H1:Hid (Calls Tryz.prog 111 #[.string ⟨s.toArray⟩,.string ⟨#[117,58]⟩] w fun e w'=>e = .returned (.tuple #[.string ⟨(Lib.trimPrefix s [117,58]).toArray⟩,.bool (Lib.hasPrefix s [117,58])])∧w'=w):=Lib.hid (Tryz.strings_CutPrefix ⟨s.toArray⟩ ⟨#[117,58]⟩ w)
 have H2:Hid (Calls Tryz.prog 111 #[.string ⟨s.toArray⟩,.string ⟨#[99,58]⟩] w fun e w'=>e = .returned (.tuple #[.string ⟨(Lib.trimPrefix s [99,58]).toArray⟩,.bool (Lib.hasPrefix s [99,58])])∧w'=w):=Lib.hid (Tryz.strings_CutPrefix ⟨s.toArray⟩ ⟨#[99,58]⟩ w)
 have N1:=Lib.hid (name_any (Lib.trimPrefix s [117,58]) (Nat.le_trans (trim_len _ _) hs) w)
 have N2:=Lib.hid (name_any (Lib.trimPrefix s [99,58]) (Nat.le_trans (trim_len _ _) hs) w)
 unfold prinP
 generalize Lib.hasPrefix s [117,58]=c1 at *
 generalize Lib.hasPrefix s [99,58]=c2 at *
 generalize Lib.trimPrefix s [117,58]=l1 at *
 generalize Lib.trimPrefix s [99,58]=l2 at *
 generalize nameP l1=n1 at *
 generalize nameP l2=n2 at *
 go_enter Tryz.func100,Tryz.ntmps100
 go_wp2_with fail
 refine H1.out.mono ?_
 rintro e w1 ⟨rfl,rfl⟩
 go_wp2_with fail
 refine H2.out.mono ?_
 rintro e w1 ⟨rfl,rfl⟩
 clear H1 H2
 cases c1<;>cases c2<;>cases n1<;>cases n2<;>
 (go_wp2_with fail;(try (refine N1.out.mono ?_;rintro e w1 ⟨rfl,rfl⟩;go_wp2_with fail));(try (refine N2.out.mono ?_;rintro e w1 ⟨rfl,rfl⟩;go_wp2_with fail));go_ret;exact⟨rfl,rfl⟩)
def isTimeP (n:Int): Bool:=decide (0≤n)&&decide (n≤1099511627776)
theorem isTime_any (n:Int)(w:World): Calls Tryz.prog 106 #[.int .i64 n] w fun e w'=>e = .returned (.bool (isTimeP n))∧w'=w:=by
 unfold isTimeP
 go_enter Tryz.func106,Tryz.ntmps106
 by_cases h:0≤n
 ·go_wp2
  all_goals (go_ret;first | exact⟨rfl,rfl⟩ | (refine⟨congrArg (fun c:Bool=>Ending.returned (Value.bool c)) ?_,rfl⟩;simp_all;done) | (refine⟨congrArg (fun c:Bool=>Ending.returned (Value.bool c)) ?_,rfl⟩;simp_all<;>omega))
 ·go_wp2
  all_goals (go_ret;first | exact⟨rfl,rfl⟩ | (refine⟨congrArg (fun c:Bool=>Ending.returned (Value.bool c)) ?_,rfl⟩;simp_all;done) | (refine⟨congrArg (fun c:Bool=>Ending.returned (Value.bool c)) ?_,rfl⟩;simp_all<;>omega))
end Go.Proofs.YthogppennalobaaGreatDoor
namespace Go.Proofs.YthogppennalobaaGreatDoor
open Go.RowKit Go.Sort Forest Pl
theorem ext_take (l:List UInt8)(k:Nat): (⟨l.toArray⟩:ByteArray).extract 0 k=⟨(l.take k).toArray⟩:=by
 apply ByteArray.ext
 simp [ByteArray.data_extract]
theorem ext_drop (l:List UInt8)(k:Nat): (⟨l.toArray⟩:ByteArray).extract k l.length=⟨(l.drop k).toArray⟩:=by
 apply ByteArray.ext
 simp [ByteArray.data_extract]
 exact List.take_of_length_le (by simp)
section
variable {Q:Exit→Act→World→Prop} {K:Act→World→Prop} {T:Array Value} {ds:List Deferred} {w:World} {ty:TypeId} {dst:Option Tmp} {s:Nat} {ps:String} {af:Array Edge} {g:Option (Nat×Bool)}
theorem j_take2 {l:List UInt8}(hl:2≤l.length)(e:T.getD s undef = .string ⟨l.toArray⟩)(h:K (Act.put ⟨T,ds⟩ dst (.string ⟨(l.take 2).toArray⟩)) w): Oper.wp Tryz.prog ⟨dst,.slice 9 (.tmp s) none (some (.const (.int .i64 2))) none,ty,ps,af,g⟩ ⟨T,ds⟩ w K Q:=by
 have hz:(⟨l.toArray⟩:ByteArray).size=l.length:=size_ba l
 have hI:(2:Int)≤(l.length:Int):=by omega
 have hx:=Lib.hid (ext_take l 2)
 go_simp
 first | rw [hx.out] | skip
 exact h
theorem j_drop2 {l:List UInt8}(hl:2≤l.length)(e:T.getD s undef = .string ⟨l.toArray⟩)(h:K (Act.put ⟨T,ds⟩ dst (.string ⟨(l.drop 2).toArray⟩)) w): Oper.wp Tryz.prog ⟨dst,.slice 9 (.tmp s) (some (.const (.int .i64 2))) none none,ty,ps,af,g⟩ ⟨T,ds⟩ w K Q:=by
 have hz:(⟨l.toArray⟩:ByteArray).size=l.length:=size_ba l
 have hI:(2:Int)≤(l.length:Int):=by omega
 have hx:=Lib.hid (ext_drop l 2)
 go_simp
 first | rw [hx.out] | skip
 exact h
theorem j_eq2 {l:List UInt8}{x:UInt8}{b:Bool}(e:T.getD s undef = .string ⟨l.toArray⟩)(hb:b=(l == [x,58]))(h:K (Act.put ⟨T,ds⟩ dst (.bool b)) w): Oper.wp Tryz.prog ⟨dst,.binOp .eql 9 (.tmp s) (.const (.string ⟨#[x,58]⟩)) 9,ty,ps,af,g⟩ ⟨T,ds⟩ w K Q:=by
 subst hb
 go_simp
 exact h
end
theorem prin_split (s:Bs): prinP s=(decide (2<(s.length:Int))&&(s.take 2 == [117,58]||s.take 2 == [99,58])&&nameP (s.drop 2)):=by
 have h0:nameP []=false:=rfl
 match s with
 |[]=>rfl
 |[a]=>simp [prinP,Lib.hasPrefix,List.isPrefixOf]
 |a::b::r=>
  have hd:decide (2<((a::b::r).length:Int)) = !r.isEmpty:=by
   cases r with
   |nil=>rfl
   |cons c r=>rw [decide_eq_true (show(2:Int)<((a::b::c::r).length:Int) by simp;omega)];rfl
  rw [hd]
  by_cases h1:a=117∧b=58
  ·obtain⟨rfl,rfl⟩:=h1
   cases r with
   |nil=>rfl
   |cons c r=>simp [prinP,Lib.hasPrefix,Lib.trimPrefix,List.isPrefixOf]
  ·by_cases h2:a=99∧b=58
   ·obtain⟨rfl,rfl⟩:=h2
    cases r with
    |nil=>rfl
    |cons c r=>simp [prinP,Lib.hasPrefix,Lib.trimPrefix,List.isPrefixOf]
   ·have e1:([a,b] == [117,58])=false:=by simpa using h1
    have e2:([a,b] == [99,58])=false:=by simpa using h2
    have f1:Lib.hasPrefix (a::b::r) [117,58]=false:=by
     cases hf:Lib.hasPrefix (a::b::r) [117,58] with
     |false=>rfl
     |true=>exact absurd (by simp [Lib.hasPrefix,List.isPrefixOf] at hf;exact⟨hf.1.symm,hf.2.symm⟩) h1
    have f2:Lib.hasPrefix (a::b::r) [99,58]=false:=by
     cases hf:Lib.hasPrefix (a::b::r) [99,58] with
     |false=>rfl
     |true=>exact absurd (by simp [Lib.hasPrefix,List.isPrefixOf] at hf;exact⟨hf.1.symm,hf.2.symm⟩) h2
    unfold prinP
    rw [f1,f2,show(a::b::r).take 2=[a,b] from rfl,e1,e2]
    simp
noncomputable def pri1O:Array Oper:=(Tryz.f113.body.bind fun c=>findR c 1).getD #[]
def pri1V (s:Bs)(b2 b6 b10 b11 b12 b16 b17:Bool): List Value:=[.string ⟨s.toArray⟩,.int .i64 (s.length:Int),.bool b2,.bool b2,gv (true&&(b2 == true)) (.string ⟨s.toArray⟩),gv (true&&(b2 == true)) (.string ⟨(s.take 2).toArray⟩),gv (true&&(b2 == true)) (.bool b6),gv (true&&(b2 == true)) (.bool b6),gv ((true&&(b2 == true))&&(b6 == false)) (.string ⟨s.toArray⟩),gv ((true&&(b2 == true))&&(b6 == false)) (.string ⟨(s.take 2).toArray⟩),gv ((true&&(b2 == true))&&(b6 == false)) (.bool b10),gv (true&&(b2 == true)) (.bool b11),.bool b12,.bool b12,gv (true&&(b12 == true)) (.string ⟨s.toArray⟩),gv (true&&(b12 == true)) (.string ⟨(s.drop 2).toArray⟩),gv (true&&(b12 == true)) (.bool b16),.bool b17,.bool b17]
set_option maxHeartbeats 4000000 in
theorem pri1 {s:Bs}  {W:World→Prop}{b2 b6 b10 b11 b12 b16 b17:Bool}(hb2:b2=decide (2<(s.length:Int)))(hb6:b6=((s.take 2 == [117,58])))(hb10:b10=((s.take 2 == [99,58])))(hb11:b11=(b6||b10))(hb12:b12=(b2&&b11))(hb17:b17=(b12&&b16))(cl16:b12=true→∀w',W w'→Calls Tryz.prog 114 #[.string ⟨(s.drop 2).toArray⟩] w' fun e w''=>e = .returned (.bool b16)∧W w''){t1 t3 t4 t5 t6 t7 t8 t9 t10 t11 t12 t13 t14 t15 t16 t17 t18 t19 t20:Value}{ds:List Deferred}{Q:Exit→Act→World→Prop}{w:World}(h0:W w)
  (h:∀w1:World,W w1→Q .normal {tmps:=#[.string ⟨s.toArray⟩,t1,.bool b17,.string ⟨s.toArray⟩,.int .i64 (s.length:Int),.bool b2,.bool b2,gv (true&&(b2 == true)) (.string ⟨s.toArray⟩),gv (true&&(b2 == true)) (.string ⟨(s.take 2).toArray⟩),gv (true&&(b2 == true)) (.bool b6),gv (true&&(b2 == true)) (.bool b6),gv ((true&&(b2 == true))&&(b6 == false)) (.string ⟨s.toArray⟩),gv ((true&&(b2 == true))&&(b6 == false)) (.string ⟨(s.take 2).toArray⟩),gv ((true&&(b2 == true))&&(b6 == false)) (.bool b10),gv (true&&(b2 == true)) (.bool b11),.bool b12,.bool b12,gv (true&&(b12 == true)) (.string ⟨s.toArray⟩),gv (true&&(b12 == true)) (.string ⟨(s.drop 2).toArray⟩),gv (true&&(b12 == true)) (.bool b16),.bool b17],defers:=ds} w1) :
  (Code.region 1 pri1O false).wp Tryz.prog Q {tmps:=#[.string ⟨s.toArray⟩,t1,.bool false,t3,t4,t5,t6,t7,t8,t9,t10,t11,t12,t13,t14,t15,t16,t17,t18,t19,t20],defers:=ds} w:=by
 have hsz:pri1O.size=19:=by kernel_rfl
 generalize hT0:List.toArray _=T0
 have hs:T0.size=21:=by subst hT0;rfl
 have g0:T0.getD 0 undef = .string ⟨s.toArray⟩:=by subst hT0;rfl
 refine seq_plan T0 ds (lv (pri1V s b2 b6 b10 b11 b12 b16 b17)) W w (by rw [hs];kernel_rfl) ?_ h0 ?_
 ·rw [hsz]
  refine all_step (all_step (all_step (all_step (all_step (all_step (all_step (all_step (all_step (all_step (all_step (all_step (all_step (all_step (all_step (all_step (all_step (all_step (all_step all_zero ?_) ?_) ?_) ?_) ?_) ?_) ?_) ?_) ?_) ?_) ?_) ?_) ?_) ?_) ?_) ?_) ?_) ?_) ?_
  all_goals
   intro o ho T w hK hW
  ·refine sq (x:= .string ⟨s.toArray⟩) (some 3) (.move (.tmp 0)) 9 ho (by kernel_rfl) rfl ?_
   intro ps af
   have e0:T.getD 0 undef = .string ⟨s.toArray⟩:=hK.old (by kernel_rfl) g0
   exact j_mv e0 ⟨rfl,hW⟩
  ·refine sq (x:= .int .i64 (s.length:Int)) (some 4) (.call {callee:= .builtin Builtin.len,args:=#[.tmp 3],argTypes:=#[9]}) 3 ho (by kernel_rfl) rfl ?_
   intro ps af
   have e3:T.getD 3 undef = .string ⟨s.toArray⟩:=hK.at 0 (by decide) (by kernel_rfl) rfl
   exact j_lent e3 ⟨rfl,hW⟩
  ·refine sq (x:= .bool b2) (some 5) (.binOp BinOp.gtr 3 (.tmp 4) (.const (Value.int IntKind.i64 2)) 3) 4 ho (by kernel_rfl) rfl ?_
   intro ps af
   have e4:T.getD 4 undef = .int .i64 (s.length:Int):=hK.at 1 (by decide) (by kernel_rfl) rfl
   exact j_gtr e4 hb2 ⟨rfl,hW⟩
  ·refine sq (x:= .bool b2) (some 6) (.move (.tmp 5)) 4 ho (by kernel_rfl) rfl ?_
   intro ps af
   have e5:T.getD 5 undef = .bool b2:=hK.at 2 (by decide) (by kernel_rfl) rfl
   exact j_mv e5 ⟨rfl,hW⟩
  ·have hT:T.getD 6 undef=gv true (.bool b2):=hK.at 3 (by decide) (by kernel_rfl) rfl
   refine sg (x:= .string ⟨s.toArray⟩) 3 6 true (some 7) (.move (.tmp 0)) 9 ho (by kernel_rfl) (by kernel_rfl) hT rfl hW ?_
   intro hg he ps af
   subst he
   have e0:T.getD 0 undef = .string ⟨s.toArray⟩:=hK.old (by kernel_rfl) g0
   exact j_mv e0 ⟨rfl,hW⟩
  ·have hT:T.getD 6 undef=gv true (.bool b2):=hK.at 3 (by decide) (by kernel_rfl) rfl
   refine sg (x:= .string ⟨(s.take 2).toArray⟩) 3 6 true (some 8) (.slice 9 (.tmp 7) none (some (.const (Value.int IntKind.i64 2))) none) 9 ho (by kernel_rfl) (by kernel_rfl) hT rfl hW ?_
   intro hg he ps af
   subst he
   have e7:T.getD 7 undef = .string ⟨s.toArray⟩:=hK.at 4 (by decide) (by kernel_rfl) rfl
   exact j_take2 (of_decide_eq_true hb2.symm |> fun h=>by omega) e7 ⟨rfl,hW⟩
  ·have hT:T.getD 6 undef=gv true (.bool b2):=hK.at 3 (by decide) (by kernel_rfl) rfl
   refine sg (x:= .bool b6) 3 6 true (some 9) (.binOp BinOp.eql 9 (.tmp 8) (.const (Value.string {data:=#[117,58]})) 9) 4 ho (by kernel_rfl) (by kernel_rfl) hT rfl hW ?_
   intro hg he ps af
   subst he
   have e8:T.getD 8 undef = .string ⟨(s.take 2).toArray⟩:=hK.at 5 (by decide) (by kernel_rfl) rfl
   exact j_eq2 e8 hb6 ⟨rfl,hW⟩
  ·have hT:T.getD 6 undef=gv true (.bool b2):=hK.at 3 (by decide) (by kernel_rfl) rfl
   refine sg (x:= .bool b6) 3 6 true (some 10) (.move (.tmp 9)) 4 ho (by kernel_rfl) (by kernel_rfl) hT rfl hW ?_
   intro hg he ps af
   subst he
   have e9:T.getD 9 undef = .bool b6:=hK.at 6 (by decide) (by kernel_rfl) rfl
   exact j_mv e9 ⟨rfl,hW⟩
  ·have hT:T.getD 10 undef=gv (true&&(b2 == true)) (.bool b6):=hK.at 7 (by decide) (by kernel_rfl) rfl
   refine sg (x:= .string ⟨s.toArray⟩) 7 10 false (some 11) (.move (.tmp 0)) 9 ho (by kernel_rfl) (by kernel_rfl) hT rfl hW ?_
   intro hg he ps af
   obtain rfl:b2=true:=by simpa using hg
   subst he
   have e0:T.getD 0 undef = .string ⟨s.toArray⟩:=hK.old (by kernel_rfl) g0
   exact j_mv e0 ⟨rfl,hW⟩
  ·have hT:T.getD 10 undef=gv (true&&(b2 == true)) (.bool b6):=hK.at 7 (by decide) (by kernel_rfl) rfl
   refine sg (x:= .string ⟨(s.take 2).toArray⟩) 7 10 false (some 12) (.slice 9 (.tmp 11) none (some (.const (Value.int IntKind.i64 2))) none) 9 ho (by kernel_rfl) (by kernel_rfl) hT rfl hW ?_
   intro hg he ps af
   obtain rfl:b2=true:=by simpa using hg
   subst he
   have e11:T.getD 11 undef = .string ⟨s.toArray⟩:=hK.at 8 (by decide) (by kernel_rfl) rfl
   exact j_take2 (of_decide_eq_true hb2.symm |> fun h=>by omega) e11 ⟨rfl,hW⟩
  ·have hT:T.getD 10 undef=gv (true&&(b2 == true)) (.bool b6):=hK.at 7 (by decide) (by kernel_rfl) rfl
   refine sg (x:= .bool b10) 7 10 false (some 13) (.binOp BinOp.eql 9 (.tmp 12) (.const (Value.string {data:=#[99,58]})) 9) 4 ho (by kernel_rfl) (by kernel_rfl) hT rfl hW ?_
   intro hg he ps af
   obtain rfl:b2=true:=by simpa using hg
   subst he
   have e12:T.getD 12 undef = .string ⟨(s.take 2).toArray⟩:=hK.at 9 (by decide) (by kernel_rfl) rfl
   exact j_eq2 e12 hb10 ⟨rfl,hW⟩
  ·have hT:T.getD 6 undef=gv true (.bool b2):=hK.at 3 (by decide) (by kernel_rfl) rfl
   refine sg (x:= .bool b11) 3 6 true (some 14) (.pick (.tmp 10) (.const (Value.bool true)) (.tmp 13)) 4 ho (by kernel_rfl) (by kernel_rfl) hT rfl hW ?_
   intro hg he ps af
   subst he
   have e10:T.getD 10 undef = .bool b6:=hK.at 7 (by decide) (by kernel_rfl) rfl
   refine j_pick e10 ?_ ⟨rfl,hW⟩
   rcases Bool.eq_false_or_eq_true b6 with hx | hx
   ·rw [hx,if_pos rfl]
    simp only [hb11,hx,Bool.false_and,Bool.true_or]
    rfl
   ·have es:T.getD 13 undef=gv ((true&&(true == true))&&(b6 == false)) (.bool b10):=hK.at 10 (by decide) (by kernel_rfl) rfl
    rw [hx,if_neg (by decide)]
    refine es.trans ?_
    simp only [hb11,hx,gv,Bool.true_and,Bool.and_true,Bool.false_or,beq_self_eq_true,Bool.true_or,if_true]
  ·refine sq (x:= .bool b12) (some 15) (.pick (.tmp 6) (.tmp 14) (.const (Value.bool false))) 4 ho (by kernel_rfl) rfl ?_
   intro ps af
   have e6:T.getD 6 undef = .bool b2:=hK.at 3 (by decide) (by kernel_rfl) rfl
   refine j_pick e6 ?_ ⟨rfl,hW⟩
   rcases Bool.eq_false_or_eq_true b2 with hx | hx
   ·have es:T.getD 14 undef=gv (true&&(b2 == true)) (.bool b11):=hK.at 11 (by decide) (by kernel_rfl) rfl
    rw [hx,if_pos rfl]
    refine es.trans ?_
    simp only [hb12,hx,gv,Bool.true_and,Bool.and_true,Bool.false_or,beq_self_eq_true,Bool.true_or,if_true]
   ·rw [hx,if_neg (by decide)]
    simp only [hb12,hx,Bool.false_and,Bool.true_or]
    rfl
  ·refine sq (x:= .bool b12) (some 16) (.move (.tmp 15)) 4 ho (by kernel_rfl) rfl ?_
   intro ps af
   have e15:T.getD 15 undef = .bool b12:=hK.at 12 (by decide) (by kernel_rfl) rfl
   exact j_mv e15 ⟨rfl,hW⟩
  ·have hT:T.getD 16 undef=gv true (.bool b12):=hK.at 13 (by decide) (by kernel_rfl) rfl
   refine sg (x:= .string ⟨s.toArray⟩) 13 16 true (some 17) (.move (.tmp 0)) 9 ho (by kernel_rfl) (by kernel_rfl) hT rfl hW ?_
   intro hg he ps af
   subst he
   have e0:T.getD 0 undef = .string ⟨s.toArray⟩:=hK.old (by kernel_rfl) g0
   exact j_mv e0 ⟨rfl,hW⟩
  ·have hT:T.getD 16 undef=gv true (.bool b12):=hK.at 13 (by decide) (by kernel_rfl) rfl
   refine sg (x:= .string ⟨(s.drop 2).toArray⟩) 13 16 true (some 18) (.slice 9 (.tmp 17) (some (.const (Value.int IntKind.i64 2))) none none) 9 ho (by kernel_rfl) (by kernel_rfl) hT rfl hW ?_
   intro hg he ps af
   subst he
   have e17:T.getD 17 undef = .string ⟨s.toArray⟩:=hK.at 14 (by decide) (by kernel_rfl) rfl
   exact j_drop2 (by have h:=hb12.symm;rw [Bool.and_eq_true] at h;have:=of_decide_eq_true (hb2.symm.trans h.1);omega) e17 ⟨rfl,hW⟩
  ·have hT:T.getD 16 undef=gv true (.bool b12):=hK.at 13 (by decide) (by kernel_rfl) rfl
   refine sg (x:= .bool b16) 13 16 true (some 19) (.call {callee:= .value (.func 114),args:=#[.tmp 18],argTypes:=#[9]}) 4 ho (by kernel_rfl) (by kernel_rfl) hT rfl hW ?_
   intro hg he ps af
   subst he
   have e18:T.getD 18 undef = .string ⟨(s.drop 2).toArray⟩:=hK.at 15 (by decide) (by kernel_rfl) rfl
   have hcl:=cl16 rfl _ hW
   go_simp
   go_at_call 114
   refine hcl.mono ?_
   rintro ex w2 ⟨rfl,hW2⟩
   exact⟨rfl,hW2⟩
  ·refine sq (x:= .bool b17) (some 20) (.pick (.tmp 16) (.tmp 19) (.const (Value.bool false))) 4 ho (by kernel_rfl) rfl ?_
   intro ps af
   have e16:T.getD 16 undef = .bool b12:=hK.at 13 (by decide) (by kernel_rfl) rfl
   refine j_pick e16 ?_ ⟨rfl,hW⟩
   rcases Bool.eq_false_or_eq_true b12 with hx | hx
   ·have es:T.getD 19 undef=gv (true&&(b12 == true)) (.bool b16):=hK.at 16 (by decide) (by kernel_rfl) rfl
    rw [hx,if_pos rfl]
    refine es.trans ?_
    simp only [hb17,hx,gv,Bool.true_and,Bool.and_true,Bool.false_or,beq_self_eq_true,Bool.true_or,if_true]
   ·rw [hx,if_neg (by decide)]
    simp only [hb17,hx,Bool.false_and,Bool.true_or]
    rfl
  ·refine sq (x:= .bool b17) (some 2) (.assign (.tmp 20)) 4 ho (by kernel_rfl) rfl ?_
   intro ps af
   have e20:T.getD 20 undef = .bool b17:=hK.at 17 (by decide) (by kernel_rfl) rfl
   exact j_as e20 ⟨rfl,hW⟩
 ·intro w1 hW
  have hQ:=h w1 hW
  rw [hsz]
  subst hT0
  refine cast (congrArg (fun Tx=>Q .normal ⟨Tx,ds⟩ w1) ?_) hQ
  kernel_rfl
theorem rprin_any (s:Bs)(hs:s.length≤140737488355328)(w:World): Calls Tryz.prog 113 #[.string ⟨s.toArray⟩] w fun e w'=>e = .returned (.bool (prinP s))∧w'=w:=by
 have HC:=Lib.hid (rname_any (s.drop 2) (by rw [List.length_drop];omega) w)
 obtain⟨R,hR⟩:∃R,R=prinP s:=⟨_,rfl⟩
 rw [← hR]
 have HR:=Lib.hid (hR.trans (prin_split s))
 clear hR
 go_enter Tryz.func113,Tryz.ntmps113
 go_upto_region 1 with fail
 refine pri1 (W:=fun w2=>w2=w) rfl rfl rfl rfl rfl rfl  (fun _ w2 h=>by subst h;exact HC.out) rfl ?_
 rintro w1 rfl
 go_wp2_with fail
 go_ret
 exact⟨by rw [HR.out];rfl,rfl⟩
end Go.Proofs.YthogppennalobaaGreatDoor
