/- the document: Same -/
import Derived.Test.YthogppennalobaaGreatDoorZl19
import Derived.Test.YthogppennalobaaGreatDoorZl15
set_option linter.unusedVariables false
set_option linter.unusedSimpArgs false
set_option maxRecDepth 100000
namespace Go.Proofs.YthogppennalobaaGreatDoor
open Go.RowKit Go.Sort Forest Pl
set_option maxHeartbeats 1000000 in
theorem rsame_rows (l k:List Bs)(hl:l.length≤140737488355328)(w:World)(v u:Value)(h1:Rd w v l)(h2:Rd w u k): Calls Tryz.prog 77 #[v,u] w fun e w'=>e = .returned (.bool (l == k))∧∃q,w'=w.drewN q:=by
 obtain⟨a,c,rfl,h1⟩:=h1
 obtain⟨b,d,rfl,h2⟩:=h2
 have H1:=Lib.hid h1
 have H2:=Lib.hid h2
 have HL:=Lib.hid hl
 clear h1 h2
 by_cases hn:l.length=k.length
 ·obtain⟨R,hR⟩:∃R,R=(l == k):=⟨_,rfl⟩
  rw [← hR]
  have HR:=Lib.hid hR
  have HN:=Lib.hid hn
  have hnI:((l.length:Int) == (k.length:Int))=true:=by rw [hn];simp
  obtain⟨m,hm⟩:∃m,m=l.length:=⟨_,rfl⟩
  have HM:=Lib.hid hm
  rw [← hn,← hm]
  clear hR hn hnI hm
  go_enter Tryz.func77,Tryz.ntmps77
  go_wp2_with fail
  go_loopw [5] (fun iv wr=>∃i:Nat,i≤m∧iv = .int .i64 (i:Int)∧Hid (∃q,wr=w.drewN q)∧Hid (l.take i=k.take i)) (fun iv _=>m - (intOf iv).toNat)
  case atStart=>exact⟨0,Nat.zero_le _,rfl,Lib.hid ⟨0,rfl⟩,Lib.hid rfl⟩
  case round=>
   obtain⟨i,hi,rfl,HQ,HI⟩:=hrel
   have hm2:=HL.out
   rw [← HM.out] at hm2
   by_cases hlt:i<m
   ·have hlt1:i<l.length:=by rw [← HM.out];exact hlt
    have hlt2:i<k.length:=by rw [← HN.out];exact hlt1
    obtain⟨s,hs⟩:∃s,l[i]'hlt1=s:=⟨_,rfl⟩
    obtain⟨t,ht⟩:∃t,k[i]'hlt2=t:=⟨_,rfl⟩
    obtain⟨g,o,rfl,c0⟩:=H1.out i hlt1
    obtain⟨g2,o2,rfl,d0⟩:=H2.out i hlt2
    have hltI:(i:Int)<(m:Int):=by omega
    have c1:wr.cell? ⟨g,o+i,none⟩=some (.string ⟨s.toArray⟩):=by
     obtain⟨q,rfl⟩:=HQ.out
     show w.cell? _=_
     rw [c0,hs];rfl
    have d1:wr.cell? ⟨g2,o2+i,none⟩=some (.string ⟨t.toArray⟩):=by
     obtain⟨q,rfl⟩:=HQ.out
     show w.cell? _=_
     rw [d0,ht];rfl
    have HE:Hid (s=t→l.take (i+1)=k.take (i+1)):=Lib.hid (fun e=>by rw [List.take_add_one,List.take_add_one,HI.out,List.getElem?_eq_getElem hlt1,List.getElem?_eq_getElem hlt2,hs,ht,e])
    have HF:Hid (s≠t→R=false):=Lib.hid (fun e=>by
     rw [HR.out,beq_eq_false_iff_ne]
     rintro rfl
     exact e (hs.symm.trans ht))
    clear c0 d0 hs ht hlt1 hlt2
    obtain⟨b,hb⟩:∃b,(s == t)=b:=⟨_,rfl⟩
    have HB:=Lib.hid hb
    go_wp2_with fail
    refine wp_region_quiet_lit (by kernel_rfl) (by kernel_rfl) ?_
    iterate 9 go_big_quiet_step (fail)
    refine wpQuiet_nil ?_
    intro w2 hw'
    have HQ2:Hid (∃q,w2=w.drewN q):=Lib.hid (by
     obtain⟨n,rfl⟩:=hw'
     obtain⟨q,rfl⟩:=HQ.out
     exact⟨q+n,by simp [World.drewN];omega⟩)
    clear hw' hb
    cases b with
    |true=>
     have HT:=Lib.hid (HE.out (by simpa using HB.out))
     go_wp2_with fail
     go_roundw
     case rel=>exact⟨i+1,by omega,by go_num,HQ2,HT⟩
     case measure=>simp [intOf];omega
    |false=>
     have HT:=Lib.hid (HF.out (by simpa using HB.out))
     go_wp2_with fail
     go_ret
     exact⟨by rw [HT.out];rfl,HQ2.out⟩
   ·have hie:i=m:=by omega
    have hltI:¬(i:Int)<(m:Int):=by omega
    have HT:Hid (R=true):=Lib.hid (by
     have h:=HI.out
     rw [hie,HM.out,List.take_length,HN.out,List.take_length] at h
     rw [HR.out,h];simp)
    go_wp2_with fail
    go_ret
    exact⟨by rw [HT.out];rfl,HQ.out⟩
 ·have hR:(l == k)=false:=by
   rw [beq_eq_false_iff_ne]
   rintro rfl
   exact hn rfl
  rw [hR]
  have hnI:((l.length:Int) == (k.length:Int))=false:=by
   rw [beq_eq_false_iff_ne]
   omega
  clear hn hR
  go_enter Tryz.func77,Tryz.ntmps77
  go_wp2_with fail
  go_ret
  exact⟨rfl,0,rfl⟩
noncomputable def sam1O:Array Oper:=(Tryz.f38.body.bind fun c=>findR c 1).getD #[]
def sam1V (g q:Nat)(i0 i1 j0 j1:Int)(n m:Nd)(sa sb za zb:Option Addr)(sc sd zc zd:Nat)(b4 b5 b11 b12 b13:Bool): List Value:=[.pointer (some ⟨g,6,none⟩),.slice sa n.scope.length sc,.pointer (some ⟨q,6,none⟩),.slice za m.scope.length zc,.bool b4,.bool b5,.bool b5,gv (true&&(b5 == false)) (.pointer (some ⟨g,11,none⟩)),gv (true&&(b5 == false)) (.slice sb n.actors.length sd),gv (true&&(b5 == false)) (.pointer (some ⟨q,11,none⟩)),gv (true&&(b5 == false)) (.slice zb m.actors.length zd),gv (true&&(b5 == false)) (.bool b11),gv (true&&(b5 == false)) (.bool b12),.bool b13]
set_option maxHeartbeats 4000000 in
theorem sam1 {g q:Nat}{i0 i1 j0 j1:Int}{n m:Nd}{sa sb za zb:Option Addr}{sc sd zc zd:Nat}  {W:World→Prop}{b4 b5 b11 b12 b13:Bool}(hb5:b5 = !(b4))(hb12:b12 = !(b11))(hb13:b13=(b5||b12))(kg_6:∀w',W w'→w'.cell? ⟨g,6,none⟩=some (.slice sa n.scope.length sc))(kg_11:∀w',W w'→w'.cell? ⟨g,11,none⟩=some (.slice sb n.actors.length sd))(kq_6:∀w',W w'→w'.cell? ⟨q,6,none⟩=some (.slice za m.scope.length zc))(kq_11:∀w',W w'→w'.cell? ⟨q,11,none⟩=some (.slice zb m.actors.length zd))(cl4:∀w',W w'→Calls Tryz.prog 77 #[.slice sa n.scope.length sc,.slice za m.scope.length zc] w' fun e w''=>e = .returned (.bool b4)∧W w'')(cl11:b5=false→∀w',W w'→Calls Tryz.prog 77 #[.slice sb n.actors.length sd,.slice zb m.actors.length zd] w' fun e w''=>e = .returned (.bool b11)∧W w''){t0 t1 t5 t6 t7 t8 t9 t10 t11 t12 t13 t14 t15 t16 t17 t18 t19 t20 t21 t22 t23 t24 t25 t26 t27 t28 t29 t30 t31 t32 t33 t34 t35 t36 t37 t38 t39 t40 t41 t42 t43 t44 t45 t46 t47 t48 t49 t50 t51 t52 t53 t54 t55 t56 t57 t58 t59 t60 t61 t62 t63 t64 t65 t66 t67 t68 t69 t70 t71 t72 t73 t74 t75 t76 t77 t78 t79 t80 t81 t82 t83 t84 t85 t86 t87 t88 t89 t90 t91 t92 t93 t94 t95 t96 t97 t98 t99 t100 t101 t102 t103 t104 t105 t106 t107:Value}{ds:List Deferred}{Q:Exit→Act→World→Prop}{w:World}(h0:W w)
  (h:∀(z5 z6 z7 z8 z9 z10 z11 z12 z13 z14 z15 z16 z17:Value) (w1:World),W w1→Q .normal {tmps:=#[t0,t1,.pointer (some ⟨g,0,none⟩),.pointer (some ⟨q,0,none⟩),.bool false,z5,z6,z7,z8,z9,z10,z11,z12,z13,z14,z15,z16,z17,.bool b13,t19,t20,t21,t22,t23,t24,t25,t26,t27,t28,t29,t30,t31,t32,t33,t34,t35,t36,t37,t38,t39,t40,t41,t42,t43,t44,t45,t46,t47,t48,t49,t50,t51,t52,t53,t54,t55,t56,t57,t58,t59,t60,t61,t62,t63,t64,t65,t66,t67,t68,t69,t70,t71,t72,t73,t74,t75,t76,t77,t78,t79,t80,t81,t82,t83,t84,t85,t86,t87,t88,t89,t90,t91,t92,t93,t94,t95,t96,t97,t98,t99,t100,t101,t102,t103,t104,t105,t106,t107],defers:=ds} w1) :
  (Code.region 1 sam1O false).wp Tryz.prog Q {tmps:=#[t0,t1,.pointer (some ⟨g,0,none⟩),.pointer (some ⟨q,0,none⟩),.bool false,t5,t6,t7,t8,t9,t10,t11,t12,t13,t14,t15,t16,t17,t18,t19,t20,t21,t22,t23,t24,t25,t26,t27,t28,t29,t30,t31,t32,t33,t34,t35,t36,t37,t38,t39,t40,t41,t42,t43,t44,t45,t46,t47,t48,t49,t50,t51,t52,t53,t54,t55,t56,t57,t58,t59,t60,t61,t62,t63,t64,t65,t66,t67,t68,t69,t70,t71,t72,t73,t74,t75,t76,t77,t78,t79,t80,t81,t82,t83,t84,t85,t86,t87,t88,t89,t90,t91,t92,t93,t94,t95,t96,t97,t98,t99,t100,t101,t102,t103,t104,t105,t106,t107],defers:=ds} w:=by
 have hsz:sam1O.size=14:=by kernel_rfl
 generalize hT0:List.toArray _=T0
 have hs:T0.size=108:=by subst hT0;rfl
 have g2:T0.getD 2 undef = .pointer (some ⟨g,0,none⟩):=by subst hT0;rfl
 have g3:T0.getD 3 undef = .pointer (some ⟨q,0,none⟩):=by subst hT0;rfl
 refine seq_plan T0 ds (lv (sam1V g q i0 i1 j0 j1 n m sa sb za zb sc sd zc zd b4 b5 b11 b12 b13)) W w (by rw [hs];kernel_rfl) ?_ h0 ?_
 ·rw [hsz]
  refine all_step (all_step (all_step (all_step (all_step (all_step (all_step (all_step (all_step (all_step (all_step (all_step (all_step (all_step all_zero ?_) ?_) ?_) ?_) ?_) ?_) ?_) ?_) ?_) ?_) ?_) ?_) ?_) ?_
  all_goals
   intro o ho T w hK hW
  ·refine sq (x:= .pointer (some ⟨g,6,none⟩)) (some 5) (.fieldAddr 31 (.tmp 2) 6) 0 ho (by kernel_rfl) rfl ?_
   intro ps af
   have e2:T.getD 2 undef = .pointer (some ⟨g,0,none⟩):=hK.old (by kernel_rfl) g2
   exact j_fa31_6 e2 ⟨rfl,hW⟩
  ·refine sq (x:= .slice sa n.scope.length sc) (some 6) (.load 29 (.tmp 5)) 29 ho (by kernel_rfl) rfl ?_
   intro ps af
   have e5:T.getD 5 undef = .pointer (some ⟨g,6,none⟩):=hK.at 0 (by decide) (by kernel_rfl) rfl
   exact j_ld29 (kg_6 _ hW) e5 ⟨rfl,hW⟩
  ·refine sq (x:= .pointer (some ⟨q,6,none⟩)) (some 7) (.fieldAddr 31 (.tmp 3) 6) 0 ho (by kernel_rfl) rfl ?_
   intro ps af
   have e3:T.getD 3 undef = .pointer (some ⟨q,0,none⟩):=hK.old (by kernel_rfl) g3
   exact j_fa31_6 e3 ⟨rfl,hW⟩
  ·refine sq (x:= .slice za m.scope.length zc) (some 8) (.load 29 (.tmp 7)) 29 ho (by kernel_rfl) rfl ?_
   intro ps af
   have e7:T.getD 7 undef = .pointer (some ⟨q,6,none⟩):=hK.at 2 (by decide) (by kernel_rfl) rfl
   exact j_ld29 (kq_6 _ hW) e7 ⟨rfl,hW⟩
  ·refine sq (x:= .bool b4) (some 9) (.call {callee:= .value (.func 77),args:=#[.tmp 6,.tmp 8],argTypes:=#[29,29]}) 4 ho (by kernel_rfl) rfl ?_
   intro ps af
   have e6:T.getD 6 undef = .slice sa n.scope.length sc:=hK.at 1 (by decide) (by kernel_rfl) rfl
   have e8:T.getD 8 undef = .slice za m.scope.length zc:=hK.at 3 (by decide) (by kernel_rfl) rfl
   have hcl:=cl4 _ hW
   go_simp
   go_at_call 77
   refine hcl.mono ?_
   rintro ex w2 ⟨rfl,hW2⟩
   exact⟨rfl,hW2⟩
  ·refine sq (x:= .bool b5) (some 10) (.unOp UnOp.not 4 (.tmp 9)) 4 ho (by kernel_rfl) rfl ?_
   intro ps af
   have e9:T.getD 9 undef = .bool b4:=hK.at 4 (by decide) (by kernel_rfl) rfl
   exact j_not e9 hb5 ⟨rfl,hW⟩
  ·refine sq (x:= .bool b5) (some 11) (.move (.tmp 10)) 4 ho (by kernel_rfl) rfl ?_
   intro ps af
   have e10:T.getD 10 undef = .bool b5:=hK.at 5 (by decide) (by kernel_rfl) rfl
   exact j_mv e10 ⟨rfl,hW⟩
  ·have hT:T.getD 11 undef=gv true (.bool b5):=hK.at 6 (by decide) (by kernel_rfl) rfl
   refine sg (x:= .pointer (some ⟨g,11,none⟩)) 6 11 false (some 12) (.fieldAddr 31 (.tmp 2) 11) 0 ho (by kernel_rfl) (by kernel_rfl) hT rfl hW ?_
   intro hg he ps af
   subst he
   have e2:T.getD 2 undef = .pointer (some ⟨g,0,none⟩):=hK.old (by kernel_rfl) g2
   exact j_fa31_11 e2 ⟨rfl,hW⟩
  ·have hT:T.getD 11 undef=gv true (.bool b5):=hK.at 6 (by decide) (by kernel_rfl) rfl
   refine sg (x:= .slice sb n.actors.length sd) 6 11 false (some 13) (.load 29 (.tmp 12)) 29 ho (by kernel_rfl) (by kernel_rfl) hT rfl hW ?_
   intro hg he ps af
   subst he
   have e12:T.getD 12 undef = .pointer (some ⟨g,11,none⟩):=hK.at 7 (by decide) (by kernel_rfl) rfl
   exact j_ld29 (kg_11 _ hW) e12 ⟨rfl,hW⟩
  ·have hT:T.getD 11 undef=gv true (.bool b5):=hK.at 6 (by decide) (by kernel_rfl) rfl
   refine sg (x:= .pointer (some ⟨q,11,none⟩)) 6 11 false (some 14) (.fieldAddr 31 (.tmp 3) 11) 0 ho (by kernel_rfl) (by kernel_rfl) hT rfl hW ?_
   intro hg he ps af
   subst he
   have e3:T.getD 3 undef = .pointer (some ⟨q,0,none⟩):=hK.old (by kernel_rfl) g3
   exact j_fa31_11 e3 ⟨rfl,hW⟩
  ·have hT:T.getD 11 undef=gv true (.bool b5):=hK.at 6 (by decide) (by kernel_rfl) rfl
   refine sg (x:= .slice zb m.actors.length zd) 6 11 false (some 15) (.load 29 (.tmp 14)) 29 ho (by kernel_rfl) (by kernel_rfl) hT rfl hW ?_
   intro hg he ps af
   subst he
   have e14:T.getD 14 undef = .pointer (some ⟨q,11,none⟩):=hK.at 9 (by decide) (by kernel_rfl) rfl
   exact j_ld29 (kq_11 _ hW) e14 ⟨rfl,hW⟩
  ·have hT:T.getD 11 undef=gv true (.bool b5):=hK.at 6 (by decide) (by kernel_rfl) rfl
   refine sg (x:= .bool b11) 6 11 false (some 16) (.call {callee:= .value (.func 77),args:=#[.tmp 13,.tmp 15],argTypes:=#[29,29]}) 4 ho (by kernel_rfl) (by kernel_rfl) hT rfl hW ?_
   intro hg he ps af
   subst he
   have e13:T.getD 13 undef = .slice sb n.actors.length sd:=hK.at 8 (by decide) (by kernel_rfl) rfl
   have e15:T.getD 15 undef = .slice zb m.actors.length zd:=hK.at 10 (by decide) (by kernel_rfl) rfl
   have hcl:=cl11 rfl _ hW
   go_simp
   go_at_call 77
   refine hcl.mono ?_
   rintro ex w2 ⟨rfl,hW2⟩
   exact⟨rfl,hW2⟩
  ·have hT:T.getD 11 undef=gv true (.bool b5):=hK.at 6 (by decide) (by kernel_rfl) rfl
   refine sg (x:= .bool b12) 6 11 false (some 17) (.unOp UnOp.not 4 (.tmp 16)) 4 ho (by kernel_rfl) (by kernel_rfl) hT rfl hW ?_
   intro hg he ps af
   subst he
   have e16:T.getD 16 undef = .bool b11:=hK.at 11 (by decide) (by kernel_rfl) rfl
   exact j_not e16 hb12 ⟨rfl,hW⟩
  ·refine sq (x:= .bool b13) (some 18) (.pick (.tmp 11) (.const (Value.bool true)) (.tmp 17)) 4 ho (by kernel_rfl) rfl ?_
   intro ps af
   have e11:T.getD 11 undef = .bool b5:=hK.at 6 (by decide) (by kernel_rfl) rfl
   refine j_pick e11 ?_ ⟨rfl,hW⟩
   rcases Bool.eq_false_or_eq_true b5 with hx | hx
   ·rw [hx,if_pos rfl]
    simp only [hb13,hx,Bool.false_and,Bool.true_or]
    rfl
   ·have es:T.getD 17 undef=gv (true&&(b5 == false)) (.bool b12):=hK.at 12 (by decide) (by kernel_rfl) rfl
    rw [hx,if_neg (by decide)]
    refine es.trans ?_
    simp only [hb13,hx,gv,Bool.true_and,Bool.and_true,Bool.false_or,beq_self_eq_true,Bool.true_or,if_true]
 ·intro w1 hW
  have hQ:=h (.pointer (some ⟨g,6,none⟩)) (.slice sa n.scope.length sc) (.pointer (some ⟨q,6,none⟩)) (.slice za m.scope.length zc) (.bool b4) (.bool b5) (.bool b5) (gv (true&&(b5 == false)) (.pointer (some ⟨g,11,none⟩))) (gv (true&&(b5 == false)) (.slice sb n.actors.length sd)) (gv (true&&(b5 == false)) (.pointer (some ⟨q,11,none⟩))) (gv (true&&(b5 == false)) (.slice zb m.actors.length zd)) (gv (true&&(b5 == false)) (.bool b11)) (gv (true&&(b5 == false)) (.bool b12)) w1 hW
  rw [hsz]
  subst hT0
  refine cast (congrArg (fun Tx=>Q .normal ⟨Tx,ds⟩ w1) ?_) hQ
  kernel_rfl
noncomputable def sam3O:Array Oper:=(Tryz.f38.body.bind fun c=>findR c 3).getD #[]
def sam3V (g q:Nat)(i0 i1 j0 j1:Int)(n m:Nd)(sa sb za zb:Option Addr)(sc sd zc zd:Nat)(b4 b10 b11 b17 b18 b24 b25 b31 b32 b38 b39 b45 b46 b52 b53 b59 b60 b66 b67 b73 b74 b80 b81 b87 b88:Bool): List Value:=[.pointer (some ⟨g,0,none⟩),.int .i64 i0,.pointer (some ⟨q,0,none⟩),.int .i64 j0,.bool b4,.bool b4,gv (true&&(b4 == true)) (.pointer (some ⟨g,1,none⟩)),gv (true&&(b4 == true)) (.int .i64 n.kind),gv (true&&(b4 == true)) (.pointer (some ⟨q,1,none⟩)),gv (true&&(b4 == true)) (.int .i64 m.kind),gv (true&&(b4 == true)) (.bool b10),.bool b11,.bool b11,gv (true&&(b11 == true)) (.pointer (some ⟨g,2,none⟩)),gv (true&&(b11 == true)) (.int .i64 i1),gv (true&&(b11 == true)) (.pointer (some ⟨q,2,none⟩)),gv (true&&(b11 == true)) (.int .i64 j1),gv (true&&(b11 == true)) (.bool b17),.bool b18,.bool b18,gv (true&&(b18 == true)) (.pointer (some ⟨g,3,none⟩)),gv (true&&(b18 == true)) (.string ⟨n.subject.toArray⟩),gv (true&&(b18 == true)) (.pointer (some ⟨q,3,none⟩)),gv (true&&(b18 == true)) (.string ⟨m.subject.toArray⟩),gv (true&&(b18 == true)) (.bool b24),.bool b25,.bool b25,gv (true&&(b25 == true)) (.pointer (some ⟨g,4,none⟩)),gv (true&&(b25 == true)) (.string ⟨n.client.toArray⟩),gv (true&&(b25 == true)) (.pointer (some ⟨q,4,none⟩)),gv (true&&(b25 == true)) (.string ⟨m.client.toArray⟩),gv (true&&(b25 == true)) (.bool b31),.bool b32,.bool b32,gv (true&&(b32 == true)) (.pointer (some ⟨g,5,none⟩)),gv (true&&(b32 == true)) (.string ⟨n.audience.toArray⟩),gv (true&&(b32 == true)) (.pointer (some ⟨q,5,none⟩)),gv (true&&(b32 == true)) (.string ⟨m.audience.toArray⟩),gv (true&&(b32 == true)) (.bool b38),.bool b39,.bool b39,gv (true&&(b39 == true)) (.pointer (some ⟨g,7,none⟩)),gv (true&&(b39 == true)) (.int .i64 n.born),gv (true&&(b39 == true)) (.pointer (some ⟨q,7,none⟩)),gv (true&&(b39 == true)) (.int .i64 m.born),gv (true&&(b39 == true)) (.bool b45),.bool b46,.bool b46,gv (true&&(b46 == true)) (.pointer (some ⟨g,8,none⟩)),gv (true&&(b46 == true)) (.int .i64 n.exp),gv (true&&(b46 == true)) (.pointer (some ⟨q,8,none⟩)),gv (true&&(b46 == true)) (.int .i64 m.exp),gv (true&&(b46 == true)) (.bool b52),.bool b53,.bool b53,gv (true&&(b53 == true)) (.pointer (some ⟨g,9,none⟩)),gv (true&&(b53 == true)) (.bool n.dead),gv (true&&(b53 == true)) (.pointer (some ⟨q,9,none⟩)),gv (true&&(b53 == true)) (.bool m.dead),gv (true&&(b53 == true)) (.bool b59),.bool b60,.bool b60,gv (true&&(b60 == true)) (.pointer (some ⟨g,10,none⟩)),gv (true&&(b60 == true)) (.bool n.spent),gv (true&&(b60 == true)) (.pointer (some ⟨q,10,none⟩)),gv (true&&(b60 == true)) (.bool m.spent),gv (true&&(b60 == true)) (.bool b66),.bool b67,.bool b67,gv (true&&(b67 == true)) (.pointer (some ⟨g,12,none⟩)),gv (true&&(b67 == true)) (.int .i64 n.level),gv (true&&(b67 == true)) (.pointer (some ⟨q,12,none⟩)),gv (true&&(b67 == true)) (.int .i64 m.level),gv (true&&(b67 == true)) (.bool b73),.bool b74,.bool b74,gv (true&&(b74 == true)) (.pointer (some ⟨g,13,none⟩)),gv (true&&(b74 == true)) (.string ⟨n.secret.toArray⟩),gv (true&&(b74 == true)) (.pointer (some ⟨q,13,none⟩)),gv (true&&(b74 == true)) (.string ⟨m.secret.toArray⟩),gv (true&&(b74 == true)) (.bool b80),.bool b81,.bool b81,gv (true&&(b81 == true)) (.pointer (some ⟨g,14,none⟩)),gv (true&&(b81 == true)) (.string ⟨n.data.toArray⟩),gv (true&&(b81 == true)) (.pointer (some ⟨q,14,none⟩)),gv (true&&(b81 == true)) (.string ⟨m.data.toArray⟩),gv (true&&(b81 == true)) (.bool b87),.bool b88,.bool b88]
set_option maxHeartbeats 4000000 in
theorem sam3 {g q:Nat}{i0 i1 j0 j1:Int}{n m:Nd}{sa sb za zb:Option Addr}{sc sd zc zd:Nat}  {W:World→Prop}{b4 b10 b11 b17 b18 b24 b25 b31 b32 b38 b39 b45 b46 b52 b53 b59 b60 b66 b67 b73 b74 b80 b81 b87 b88:Bool}(hb4:b4=((i0) == (j0)))(hb10:b10=((n.kind) == (m.kind)))(hb11:b11=(b4&&b10))(hb17:b17=((i1) == (j1)))(hb18:b18=(b11&&b17))(hb24:b24=((n.subject == m.subject)))(hb25:b25=(b18&&b24))(hb31:b31=((n.client == m.client)))(hb32:b32=(b25&&b31))(hb38:b38=((n.audience == m.audience)))(hb39:b39=(b32&&b38))(hb45:b45=((n.born) == (m.born)))(hb46:b46=(b39&&b45))(hb52:b52=((n.exp) == (m.exp)))(hb53:b53=(b46&&b52))(hb59:b59=((n.dead) == (m.dead)))(hb60:b60=(b53&&b59))(hb66:b66=((n.spent) == (m.spent)))(hb67:b67=(b60&&b66))(hb73:b73=((n.level) == (m.level)))(hb74:b74=(b67&&b73))(hb80:b80=((n.secret == m.secret)))(hb81:b81=(b74&&b80))(hb87:b87=((n.data == m.data)))(hb88:b88=(b81&&b87))(kg_0:∀w',W w'→w'.cell? ⟨g,0,none⟩=some (.int .i64 i0))(kg_1:∀w',W w'→w'.cell? ⟨g,1,none⟩=some (.int .i64 n.kind))(kg_2:∀w',W w'→w'.cell? ⟨g,2,none⟩=some (.int .i64 i1))(kg_3:∀w',W w'→w'.cell? ⟨g,3,none⟩=some (.string ⟨n.subject.toArray⟩))(kg_4:∀w',W w'→w'.cell? ⟨g,4,none⟩=some (.string ⟨n.client.toArray⟩))(kg_5:∀w',W w'→w'.cell? ⟨g,5,none⟩=some (.string ⟨n.audience.toArray⟩))(kg_7:∀w',W w'→w'.cell? ⟨g,7,none⟩=some (.int .i64 n.born))(kg_8:∀w',W w'→w'.cell? ⟨g,8,none⟩=some (.int .i64 n.exp))(kg_9:∀w',W w'→w'.cell? ⟨g,9,none⟩=some (.bool n.dead))(kg_10:∀w',W w'→w'.cell? ⟨g,10,none⟩=some (.bool n.spent))(kg_12:∀w',W w'→w'.cell? ⟨g,12,none⟩=some (.int .i64 n.level))(kg_13:∀w',W w'→w'.cell? ⟨g,13,none⟩=some (.string ⟨n.secret.toArray⟩))(kg_14:∀w',W w'→w'.cell? ⟨g,14,none⟩=some (.string ⟨n.data.toArray⟩))(kq_0:∀w',W w'→w'.cell? ⟨q,0,none⟩=some (.int .i64 j0))(kq_1:∀w',W w'→w'.cell? ⟨q,1,none⟩=some (.int .i64 m.kind))(kq_2:∀w',W w'→w'.cell? ⟨q,2,none⟩=some (.int .i64 j1))(kq_3:∀w',W w'→w'.cell? ⟨q,3,none⟩=some (.string ⟨m.subject.toArray⟩))(kq_4:∀w',W w'→w'.cell? ⟨q,4,none⟩=some (.string ⟨m.client.toArray⟩))(kq_5:∀w',W w'→w'.cell? ⟨q,5,none⟩=some (.string ⟨m.audience.toArray⟩))(kq_7:∀w',W w'→w'.cell? ⟨q,7,none⟩=some (.int .i64 m.born))(kq_8:∀w',W w'→w'.cell? ⟨q,8,none⟩=some (.int .i64 m.exp))(kq_9:∀w',W w'→w'.cell? ⟨q,9,none⟩=some (.bool m.dead))(kq_10:∀w',W w'→w'.cell? ⟨q,10,none⟩=some (.bool m.spent))(kq_12:∀w',W w'→w'.cell? ⟨q,12,none⟩=some (.int .i64 m.level))(kq_13:∀w',W w'→w'.cell? ⟨q,13,none⟩=some (.string ⟨m.secret.toArray⟩))(kq_14:∀w',W w'→w'.cell? ⟨q,14,none⟩=some (.string ⟨m.data.toArray⟩)){t0 t1 t5 t6 t7 t8 t9 t10 t11 t12 t13 t14 t15 t16 t17 t18 t19 t20 t21 t22 t23 t24 t25 t26 t27 t28 t29 t30 t31 t32 t33 t34 t35 t36 t37 t38 t39 t40 t41 t42 t43 t44 t45 t46 t47 t48 t49 t50 t51 t52 t53 t54 t55 t56 t57 t58 t59 t60 t61 t62 t63 t64 t65 t66 t67 t68 t69 t70 t71 t72 t73 t74 t75 t76 t77 t78 t79 t80 t81 t82 t83 t84 t85 t86 t87 t88 t89 t90 t91 t92 t93 t94 t95 t96 t97 t98 t99 t100 t101 t102 t103 t104 t105 t106 t107:Value}{ds:List Deferred}{Q:Exit→Act→World→Prop}{w:World}(h0:W w)
  (h:∀(z19 z20 z21 z22 z23 z24 z25 z26 z27 z28 z29 z30 z31 z32 z33 z34 z35 z36 z37 z38 z39 z40 z41 z42 z43 z44 z45 z46 z47 z48 z49 z50 z51 z52 z53 z54 z55 z56 z57 z58 z59 z60 z61 z62 z63 z64 z65 z66 z67 z68 z69 z70 z71 z72 z73 z74 z75 z76 z77 z78 z79 z80 z81 z82 z83 z84 z85 z86 z87 z88 z89 z90 z91 z92 z93 z94 z95 z96 z97 z98 z99 z100 z101 z102 z103 z104 z105 z106 z107:Value) (w1:World),W w1→Q .normal {tmps:=#[t0,t1,.pointer (some ⟨g,0,none⟩),.pointer (some ⟨q,0,none⟩),.bool b88,t5,t6,t7,t8,t9,t10,t11,t12,t13,t14,t15,t16,t17,t18,z19,z20,z21,z22,z23,z24,z25,z26,z27,z28,z29,z30,z31,z32,z33,z34,z35,z36,z37,z38,z39,z40,z41,z42,z43,z44,z45,z46,z47,z48,z49,z50,z51,z52,z53,z54,z55,z56,z57,z58,z59,z60,z61,z62,z63,z64,z65,z66,z67,z68,z69,z70,z71,z72,z73,z74,z75,z76,z77,z78,z79,z80,z81,z82,z83,z84,z85,z86,z87,z88,z89,z90,z91,z92,z93,z94,z95,z96,z97,z98,z99,z100,z101,z102,z103,z104,z105,z106,z107],defers:=ds} w1) :
  (Code.region 3 sam3O false).wp Tryz.prog Q {tmps:=#[t0,t1,.pointer (some ⟨g,0,none⟩),.pointer (some ⟨q,0,none⟩),.bool false,t5,t6,t7,t8,t9,t10,t11,t12,t13,t14,t15,t16,t17,t18,t19,t20,t21,t22,t23,t24,t25,t26,t27,t28,t29,t30,t31,t32,t33,t34,t35,t36,t37,t38,t39,t40,t41,t42,t43,t44,t45,t46,t47,t48,t49,t50,t51,t52,t53,t54,t55,t56,t57,t58,t59,t60,t61,t62,t63,t64,t65,t66,t67,t68,t69,t70,t71,t72,t73,t74,t75,t76,t77,t78,t79,t80,t81,t82,t83,t84,t85,t86,t87,t88,t89,t90,t91,t92,t93,t94,t95,t96,t97,t98,t99,t100,t101,t102,t103,t104,t105,t106,t107],defers:=ds} w:=by
 have hsz:sam3O.size=90:=by kernel_rfl
 generalize hT0:List.toArray _=T0
 have hs:T0.size=108:=by subst hT0;rfl
 have g2:T0.getD 2 undef = .pointer (some ⟨g,0,none⟩):=by subst hT0;rfl
 have g3:T0.getD 3 undef = .pointer (some ⟨q,0,none⟩):=by subst hT0;rfl
 refine seq_plan T0 ds (lv (sam3V g q i0 i1 j0 j1 n m sa sb za zb sc sd zc zd b4 b10 b11 b17 b18 b24 b25 b31 b32 b38 b39 b45 b46 b52 b53 b59 b60 b66 b67 b73 b74 b80 b81 b87 b88)) W w (by rw [hs];kernel_rfl) ?_ h0 ?_
 ·rw [hsz]
  refine all_step (all_step (all_step (all_step (all_step (all_step (all_step (all_step (all_step (all_step (all_step (all_step (all_step (all_step (all_step (all_step (all_step (all_step (all_step (all_step (all_step (all_step (all_step (all_step (all_step (all_step (all_step (all_step (all_step (all_step (all_step (all_step (all_step (all_step (all_step (all_step (all_step (all_step (all_step (all_step (all_step (all_step (all_step (all_step (all_step (all_step (all_step (all_step (all_step (all_step (all_step (all_step (all_step (all_step (all_step (all_step (all_step (all_step (all_step (all_step (all_step (all_step (all_step (all_step (all_step (all_step (all_step (all_step (all_step (all_step (all_step (all_step (all_step (all_step (all_step (all_step (all_step (all_step (all_step (all_step (all_step (all_step (all_step (all_step (all_step (all_step (all_step (all_step (all_step (all_step all_zero ?_) ?_) ?_) ?_) ?_) ?_) ?_) ?_) ?_) ?_) ?_) ?_) ?_) ?_) ?_) ?_) ?_) ?_) ?_) ?_) ?_) ?_) ?_) ?_) ?_) ?_) ?_) ?_) ?_) ?_) ?_) ?_) ?_) ?_) ?_) ?_) ?_) ?_) ?_) ?_) ?_) ?_) ?_) ?_) ?_) ?_) ?_) ?_) ?_) ?_) ?_) ?_) ?_) ?_) ?_) ?_) ?_) ?_) ?_) ?_) ?_) ?_) ?_) ?_) ?_) ?_) ?_) ?_) ?_) ?_) ?_) ?_) ?_) ?_) ?_) ?_) ?_) ?_) ?_) ?_) ?_) ?_) ?_) ?_) ?_) ?_) ?_) ?_) ?_) ?_
  all_goals
   intro o ho T w hK hW
  ·refine sq (x:= .pointer (some ⟨g,0,none⟩)) (some 19) (.fieldAddr 31 (.tmp 2) 0) 0 ho (by kernel_rfl) rfl ?_
   intro ps af
   have e2:T.getD 2 undef = .pointer (some ⟨g,0,none⟩):=hK.old (by kernel_rfl) g2
   exact j_fa31_0 e2 ⟨rfl,hW⟩
  ·refine sq (x:= .int .i64 i0) (some 20) (.load 3 (.tmp 19)) 3 ho (by kernel_rfl) rfl ?_
   intro ps af
   have e19:T.getD 19 undef = .pointer (some ⟨g,0,none⟩):=hK.at 0 (by decide) (by kernel_rfl) rfl
   exact j_ld3 (kg_0 _ hW) e19 ⟨rfl,hW⟩
  ·refine sq (x:= .pointer (some ⟨q,0,none⟩)) (some 21) (.fieldAddr 31 (.tmp 3) 0) 0 ho (by kernel_rfl) rfl ?_
   intro ps af
   have e3:T.getD 3 undef = .pointer (some ⟨q,0,none⟩):=hK.old (by kernel_rfl) g3
   exact j_fa31_0 e3 ⟨rfl,hW⟩
  ·refine sq (x:= .int .i64 j0) (some 22) (.load 3 (.tmp 21)) 3 ho (by kernel_rfl) rfl ?_
   intro ps af
   have e21:T.getD 21 undef = .pointer (some ⟨q,0,none⟩):=hK.at 2 (by decide) (by kernel_rfl) rfl
   exact j_ld3 (kq_0 _ hW) e21 ⟨rfl,hW⟩
  ·refine sq (x:= .bool b4) (some 23) (.binOp BinOp.eql 3 (.tmp 20) (.tmp 22) 3) 4 ho (by kernel_rfl) rfl ?_
   intro ps af
   have e20:T.getD 20 undef = .int .i64 i0:=hK.at 1 (by decide) (by kernel_rfl) rfl
   have e22:T.getD 22 undef = .int .i64 j0:=hK.at 3 (by decide) (by kernel_rfl) rfl
   exact j_eql2i643 e20 e22 hb4 ⟨rfl,hW⟩
  ·refine sq (x:= .bool b4) (some 24) (.move (.tmp 23)) 4 ho (by kernel_rfl) rfl ?_
   intro ps af
   have e23:T.getD 23 undef = .bool b4:=hK.at 4 (by decide) (by kernel_rfl) rfl
   exact j_mv e23 ⟨rfl,hW⟩
  ·have hT:T.getD 24 undef=gv true (.bool b4):=hK.at 5 (by decide) (by kernel_rfl) rfl
   refine sg (x:= .pointer (some ⟨g,1,none⟩)) 5 24 true (some 25) (.fieldAddr 31 (.tmp 2) 1) 0 ho (by kernel_rfl) (by kernel_rfl) hT rfl hW ?_
   intro hg he ps af
   subst he
   have e2:T.getD 2 undef = .pointer (some ⟨g,0,none⟩):=hK.old (by kernel_rfl) g2
   exact j_fa31_1 e2 ⟨rfl,hW⟩
  ·have hT:T.getD 24 undef=gv true (.bool b4):=hK.at 5 (by decide) (by kernel_rfl) rfl
   refine sg (x:= .int .i64 n.kind) 5 24 true (some 26) (.load 3 (.tmp 25)) 3 ho (by kernel_rfl) (by kernel_rfl) hT rfl hW ?_
   intro hg he ps af
   subst he
   have e25:T.getD 25 undef = .pointer (some ⟨g,1,none⟩):=hK.at 6 (by decide) (by kernel_rfl) rfl
   exact j_ld3 (kg_1 _ hW) e25 ⟨rfl,hW⟩
  ·have hT:T.getD 24 undef=gv true (.bool b4):=hK.at 5 (by decide) (by kernel_rfl) rfl
   refine sg (x:= .pointer (some ⟨q,1,none⟩)) 5 24 true (some 27) (.fieldAddr 31 (.tmp 3) 1) 0 ho (by kernel_rfl) (by kernel_rfl) hT rfl hW ?_
   intro hg he ps af
   subst he
   have e3:T.getD 3 undef = .pointer (some ⟨q,0,none⟩):=hK.old (by kernel_rfl) g3
   exact j_fa31_1 e3 ⟨rfl,hW⟩
  ·have hT:T.getD 24 undef=gv true (.bool b4):=hK.at 5 (by decide) (by kernel_rfl) rfl
   refine sg (x:= .int .i64 m.kind) 5 24 true (some 28) (.load 3 (.tmp 27)) 3 ho (by kernel_rfl) (by kernel_rfl) hT rfl hW ?_
   intro hg he ps af
   subst he
   have e27:T.getD 27 undef = .pointer (some ⟨q,1,none⟩):=hK.at 8 (by decide) (by kernel_rfl) rfl
   exact j_ld3 (kq_1 _ hW) e27 ⟨rfl,hW⟩
  ·have hT:T.getD 24 undef=gv true (.bool b4):=hK.at 5 (by decide) (by kernel_rfl) rfl
   refine sg (x:= .bool b10) 5 24 true (some 29) (.binOp BinOp.eql 3 (.tmp 26) (.tmp 28) 3) 4 ho (by kernel_rfl) (by kernel_rfl) hT rfl hW ?_
   intro hg he ps af
   subst he
   have e26:T.getD 26 undef = .int .i64 n.kind:=hK.at 7 (by decide) (by kernel_rfl) rfl
   have e28:T.getD 28 undef = .int .i64 m.kind:=hK.at 9 (by decide) (by kernel_rfl) rfl
   exact j_eql2i643 e26 e28 hb10 ⟨rfl,hW⟩
  ·refine sq (x:= .bool b11) (some 30) (.pick (.tmp 24) (.tmp 29) (.const (Value.bool false))) 4 ho (by kernel_rfl) rfl ?_
   intro ps af
   have e24:T.getD 24 undef = .bool b4:=hK.at 5 (by decide) (by kernel_rfl) rfl
   refine j_pick e24 ?_ ⟨rfl,hW⟩
   rcases Bool.eq_false_or_eq_true b4 with hx | hx
   ·have es:T.getD 29 undef=gv (true&&(b4 == true)) (.bool b10):=hK.at 10 (by decide) (by kernel_rfl) rfl
    rw [hx,if_pos rfl]
    refine es.trans ?_
    simp only [hb11,hx,gv,Bool.true_and,Bool.and_true,Bool.false_or,beq_self_eq_true,Bool.true_or,if_true]
   ·rw [hx,if_neg (by decide)]
    simp only [hb11,hx,Bool.false_and,Bool.true_or]
    rfl
  ·refine sq (x:= .bool b11) (some 31) (.move (.tmp 30)) 4 ho (by kernel_rfl) rfl ?_
   intro ps af
   have e30:T.getD 30 undef = .bool b11:=hK.at 11 (by decide) (by kernel_rfl) rfl
   exact j_mv e30 ⟨rfl,hW⟩
  ·have hT:T.getD 31 undef=gv true (.bool b11):=hK.at 12 (by decide) (by kernel_rfl) rfl
   refine sg (x:= .pointer (some ⟨g,2,none⟩)) 12 31 true (some 32) (.fieldAddr 31 (.tmp 2) 2) 0 ho (by kernel_rfl) (by kernel_rfl) hT rfl hW ?_
   intro hg he ps af
   subst he
   have e2:T.getD 2 undef = .pointer (some ⟨g,0,none⟩):=hK.old (by kernel_rfl) g2
   exact j_fa31_2 e2 ⟨rfl,hW⟩
  ·have hT:T.getD 31 undef=gv true (.bool b11):=hK.at 12 (by decide) (by kernel_rfl) rfl
   refine sg (x:= .int .i64 i1) 12 31 true (some 33) (.load 3 (.tmp 32)) 3 ho (by kernel_rfl) (by kernel_rfl) hT rfl hW ?_
   intro hg he ps af
   subst he
   have e32:T.getD 32 undef = .pointer (some ⟨g,2,none⟩):=hK.at 13 (by decide) (by kernel_rfl) rfl
   exact j_ld3 (kg_2 _ hW) e32 ⟨rfl,hW⟩
  ·have hT:T.getD 31 undef=gv true (.bool b11):=hK.at 12 (by decide) (by kernel_rfl) rfl
   refine sg (x:= .pointer (some ⟨q,2,none⟩)) 12 31 true (some 34) (.fieldAddr 31 (.tmp 3) 2) 0 ho (by kernel_rfl) (by kernel_rfl) hT rfl hW ?_
   intro hg he ps af
   subst he
   have e3:T.getD 3 undef = .pointer (some ⟨q,0,none⟩):=hK.old (by kernel_rfl) g3
   exact j_fa31_2 e3 ⟨rfl,hW⟩
  ·have hT:T.getD 31 undef=gv true (.bool b11):=hK.at 12 (by decide) (by kernel_rfl) rfl
   refine sg (x:= .int .i64 j1) 12 31 true (some 35) (.load 3 (.tmp 34)) 3 ho (by kernel_rfl) (by kernel_rfl) hT rfl hW ?_
   intro hg he ps af
   subst he
   have e34:T.getD 34 undef = .pointer (some ⟨q,2,none⟩):=hK.at 15 (by decide) (by kernel_rfl) rfl
   exact j_ld3 (kq_2 _ hW) e34 ⟨rfl,hW⟩
  ·have hT:T.getD 31 undef=gv true (.bool b11):=hK.at 12 (by decide) (by kernel_rfl) rfl
   refine sg (x:= .bool b17) 12 31 true (some 36) (.binOp BinOp.eql 3 (.tmp 33) (.tmp 35) 3) 4 ho (by kernel_rfl) (by kernel_rfl) hT rfl hW ?_
   intro hg he ps af
   subst he
   have e33:T.getD 33 undef = .int .i64 i1:=hK.at 14 (by decide) (by kernel_rfl) rfl
   have e35:T.getD 35 undef = .int .i64 j1:=hK.at 16 (by decide) (by kernel_rfl) rfl
   exact j_eql2i643 e33 e35 hb17 ⟨rfl,hW⟩
  ·refine sq (x:= .bool b18) (some 37) (.pick (.tmp 31) (.tmp 36) (.const (Value.bool false))) 4 ho (by kernel_rfl) rfl ?_
   intro ps af
   have e31:T.getD 31 undef = .bool b11:=hK.at 12 (by decide) (by kernel_rfl) rfl
   refine j_pick e31 ?_ ⟨rfl,hW⟩
   rcases Bool.eq_false_or_eq_true b11 with hx | hx
   ·have es:T.getD 36 undef=gv (true&&(b11 == true)) (.bool b17):=hK.at 17 (by decide) (by kernel_rfl) rfl
    rw [hx,if_pos rfl]
    refine es.trans ?_
    simp only [hb18,hx,gv,Bool.true_and,Bool.and_true,Bool.false_or,beq_self_eq_true,Bool.true_or,if_true]
   ·rw [hx,if_neg (by decide)]
    simp only [hb18,hx,Bool.false_and,Bool.true_or]
    rfl
  ·refine sq (x:= .bool b18) (some 38) (.move (.tmp 37)) 4 ho (by kernel_rfl) rfl ?_
   intro ps af
   have e37:T.getD 37 undef = .bool b18:=hK.at 18 (by decide) (by kernel_rfl) rfl
   exact j_mv e37 ⟨rfl,hW⟩
  ·have hT:T.getD 38 undef=gv true (.bool b18):=hK.at 19 (by decide) (by kernel_rfl) rfl
   refine sg (x:= .pointer (some ⟨g,3,none⟩)) 19 38 true (some 39) (.fieldAddr 31 (.tmp 2) 3) 0 ho (by kernel_rfl) (by kernel_rfl) hT rfl hW ?_
   intro hg he ps af
   subst he
   have e2:T.getD 2 undef = .pointer (some ⟨g,0,none⟩):=hK.old (by kernel_rfl) g2
   exact j_fa31_3 e2 ⟨rfl,hW⟩
  ·have hT:T.getD 38 undef=gv true (.bool b18):=hK.at 19 (by decide) (by kernel_rfl) rfl
   refine sg (x:= .string ⟨n.subject.toArray⟩) 19 38 true (some 40) (.load 9 (.tmp 39)) 9 ho (by kernel_rfl) (by kernel_rfl) hT rfl hW ?_
   intro hg he ps af
   subst he
   have e39:T.getD 39 undef = .pointer (some ⟨g,3,none⟩):=hK.at 20 (by decide) (by kernel_rfl) rfl
   exact j_ld9 (kg_3 _ hW) e39 ⟨rfl,hW⟩
  ·have hT:T.getD 38 undef=gv true (.bool b18):=hK.at 19 (by decide) (by kernel_rfl) rfl
   refine sg (x:= .pointer (some ⟨q,3,none⟩)) 19 38 true (some 41) (.fieldAddr 31 (.tmp 3) 3) 0 ho (by kernel_rfl) (by kernel_rfl) hT rfl hW ?_
   intro hg he ps af
   subst he
   have e3:T.getD 3 undef = .pointer (some ⟨q,0,none⟩):=hK.old (by kernel_rfl) g3
   exact j_fa31_3 e3 ⟨rfl,hW⟩
  ·have hT:T.getD 38 undef=gv true (.bool b18):=hK.at 19 (by decide) (by kernel_rfl) rfl
   refine sg (x:= .string ⟨m.subject.toArray⟩) 19 38 true (some 42) (.load 9 (.tmp 41)) 9 ho (by kernel_rfl) (by kernel_rfl) hT rfl hW ?_
   intro hg he ps af
   subst he
   have e41:T.getD 41 undef = .pointer (some ⟨q,3,none⟩):=hK.at 22 (by decide) (by kernel_rfl) rfl
   exact j_ld9 (kq_3 _ hW) e41 ⟨rfl,hW⟩
  ·have hT:T.getD 38 undef=gv true (.bool b18):=hK.at 19 (by decide) (by kernel_rfl) rfl
   refine sg (x:= .bool b24) 19 38 true (some 43) (.binOp BinOp.eql 9 (.tmp 40) (.tmp 42) 9) 4 ho (by kernel_rfl) (by kernel_rfl) hT rfl hW ?_
   intro hg he ps af
   subst he
   have e40:T.getD 40 undef = .string ⟨n.subject.toArray⟩:=hK.at 21 (by decide) (by kernel_rfl) rfl
   have e42:T.getD 42 undef = .string ⟨m.subject.toArray⟩:=hK.at 23 (by decide) (by kernel_rfl) rfl
   exact j_eql2s e40 e42 hb24 ⟨rfl,hW⟩
  ·refine sq (x:= .bool b25) (some 44) (.pick (.tmp 38) (.tmp 43) (.const (Value.bool false))) 4 ho (by kernel_rfl) rfl ?_
   intro ps af
   have e38:T.getD 38 undef = .bool b18:=hK.at 19 (by decide) (by kernel_rfl) rfl
   refine j_pick e38 ?_ ⟨rfl,hW⟩
   rcases Bool.eq_false_or_eq_true b18 with hx | hx
   ·have es:T.getD 43 undef=gv (true&&(b18 == true)) (.bool b24):=hK.at 24 (by decide) (by kernel_rfl) rfl
    rw [hx,if_pos rfl]
    refine es.trans ?_
    simp only [hb25,hx,gv,Bool.true_and,Bool.and_true,Bool.false_or,beq_self_eq_true,Bool.true_or,if_true]
   ·rw [hx,if_neg (by decide)]
    simp only [hb25,hx,Bool.false_and,Bool.true_or]
    rfl
  ·refine sq (x:= .bool b25) (some 45) (.move (.tmp 44)) 4 ho (by kernel_rfl) rfl ?_
   intro ps af
   have e44:T.getD 44 undef = .bool b25:=hK.at 25 (by decide) (by kernel_rfl) rfl
   exact j_mv e44 ⟨rfl,hW⟩
  ·have hT:T.getD 45 undef=gv true (.bool b25):=hK.at 26 (by decide) (by kernel_rfl) rfl
   refine sg (x:= .pointer (some ⟨g,4,none⟩)) 26 45 true (some 46) (.fieldAddr 31 (.tmp 2) 4) 0 ho (by kernel_rfl) (by kernel_rfl) hT rfl hW ?_
   intro hg he ps af
   subst he
   have e2:T.getD 2 undef = .pointer (some ⟨g,0,none⟩):=hK.old (by kernel_rfl) g2
   exact j_fa31_4 e2 ⟨rfl,hW⟩
  ·have hT:T.getD 45 undef=gv true (.bool b25):=hK.at 26 (by decide) (by kernel_rfl) rfl
   refine sg (x:= .string ⟨n.client.toArray⟩) 26 45 true (some 47) (.load 9 (.tmp 46)) 9 ho (by kernel_rfl) (by kernel_rfl) hT rfl hW ?_
   intro hg he ps af
   subst he
   have e46:T.getD 46 undef = .pointer (some ⟨g,4,none⟩):=hK.at 27 (by decide) (by kernel_rfl) rfl
   exact j_ld9 (kg_4 _ hW) e46 ⟨rfl,hW⟩
  ·have hT:T.getD 45 undef=gv true (.bool b25):=hK.at 26 (by decide) (by kernel_rfl) rfl
   refine sg (x:= .pointer (some ⟨q,4,none⟩)) 26 45 true (some 48) (.fieldAddr 31 (.tmp 3) 4) 0 ho (by kernel_rfl) (by kernel_rfl) hT rfl hW ?_
   intro hg he ps af
   subst he
   have e3:T.getD 3 undef = .pointer (some ⟨q,0,none⟩):=hK.old (by kernel_rfl) g3
   exact j_fa31_4 e3 ⟨rfl,hW⟩
  ·have hT:T.getD 45 undef=gv true (.bool b25):=hK.at 26 (by decide) (by kernel_rfl) rfl
   refine sg (x:= .string ⟨m.client.toArray⟩) 26 45 true (some 49) (.load 9 (.tmp 48)) 9 ho (by kernel_rfl) (by kernel_rfl) hT rfl hW ?_
   intro hg he ps af
   subst he
   have e48:T.getD 48 undef = .pointer (some ⟨q,4,none⟩):=hK.at 29 (by decide) (by kernel_rfl) rfl
   exact j_ld9 (kq_4 _ hW) e48 ⟨rfl,hW⟩
  ·have hT:T.getD 45 undef=gv true (.bool b25):=hK.at 26 (by decide) (by kernel_rfl) rfl
   refine sg (x:= .bool b31) 26 45 true (some 50) (.binOp BinOp.eql 9 (.tmp 47) (.tmp 49) 9) 4 ho (by kernel_rfl) (by kernel_rfl) hT rfl hW ?_
   intro hg he ps af
   subst he
   have e47:T.getD 47 undef = .string ⟨n.client.toArray⟩:=hK.at 28 (by decide) (by kernel_rfl) rfl
   have e49:T.getD 49 undef = .string ⟨m.client.toArray⟩:=hK.at 30 (by decide) (by kernel_rfl) rfl
   exact j_eql2s e47 e49 hb31 ⟨rfl,hW⟩
  ·refine sq (x:= .bool b32) (some 51) (.pick (.tmp 45) (.tmp 50) (.const (Value.bool false))) 4 ho (by kernel_rfl) rfl ?_
   intro ps af
   have e45:T.getD 45 undef = .bool b25:=hK.at 26 (by decide) (by kernel_rfl) rfl
   refine j_pick e45 ?_ ⟨rfl,hW⟩
   rcases Bool.eq_false_or_eq_true b25 with hx | hx
   ·have es:T.getD 50 undef=gv (true&&(b25 == true)) (.bool b31):=hK.at 31 (by decide) (by kernel_rfl) rfl
    rw [hx,if_pos rfl]
    refine es.trans ?_
    simp only [hb32,hx,gv,Bool.true_and,Bool.and_true,Bool.false_or,beq_self_eq_true,Bool.true_or,if_true]
   ·rw [hx,if_neg (by decide)]
    simp only [hb32,hx,Bool.false_and,Bool.true_or]
    rfl
  ·refine sq (x:= .bool b32) (some 52) (.move (.tmp 51)) 4 ho (by kernel_rfl) rfl ?_
   intro ps af
   have e51:T.getD 51 undef = .bool b32:=hK.at 32 (by decide) (by kernel_rfl) rfl
   exact j_mv e51 ⟨rfl,hW⟩
  ·have hT:T.getD 52 undef=gv true (.bool b32):=hK.at 33 (by decide) (by kernel_rfl) rfl
   refine sg (x:= .pointer (some ⟨g,5,none⟩)) 33 52 true (some 53) (.fieldAddr 31 (.tmp 2) 5) 0 ho (by kernel_rfl) (by kernel_rfl) hT rfl hW ?_
   intro hg he ps af
   subst he
   have e2:T.getD 2 undef = .pointer (some ⟨g,0,none⟩):=hK.old (by kernel_rfl) g2
   exact j_fa31_5 e2 ⟨rfl,hW⟩
  ·have hT:T.getD 52 undef=gv true (.bool b32):=hK.at 33 (by decide) (by kernel_rfl) rfl
   refine sg (x:= .string ⟨n.audience.toArray⟩) 33 52 true (some 54) (.load 9 (.tmp 53)) 9 ho (by kernel_rfl) (by kernel_rfl) hT rfl hW ?_
   intro hg he ps af
   subst he
   have e53:T.getD 53 undef = .pointer (some ⟨g,5,none⟩):=hK.at 34 (by decide) (by kernel_rfl) rfl
   exact j_ld9 (kg_5 _ hW) e53 ⟨rfl,hW⟩
  ·have hT:T.getD 52 undef=gv true (.bool b32):=hK.at 33 (by decide) (by kernel_rfl) rfl
   refine sg (x:= .pointer (some ⟨q,5,none⟩)) 33 52 true (some 55) (.fieldAddr 31 (.tmp 3) 5) 0 ho (by kernel_rfl) (by kernel_rfl) hT rfl hW ?_
   intro hg he ps af
   subst he
   have e3:T.getD 3 undef = .pointer (some ⟨q,0,none⟩):=hK.old (by kernel_rfl) g3
   exact j_fa31_5 e3 ⟨rfl,hW⟩
  ·have hT:T.getD 52 undef=gv true (.bool b32):=hK.at 33 (by decide) (by kernel_rfl) rfl
   refine sg (x:= .string ⟨m.audience.toArray⟩) 33 52 true (some 56) (.load 9 (.tmp 55)) 9 ho (by kernel_rfl) (by kernel_rfl) hT rfl hW ?_
   intro hg he ps af
   subst he
   have e55:T.getD 55 undef = .pointer (some ⟨q,5,none⟩):=hK.at 36 (by decide) (by kernel_rfl) rfl
   exact j_ld9 (kq_5 _ hW) e55 ⟨rfl,hW⟩
  ·have hT:T.getD 52 undef=gv true (.bool b32):=hK.at 33 (by decide) (by kernel_rfl) rfl
   refine sg (x:= .bool b38) 33 52 true (some 57) (.binOp BinOp.eql 9 (.tmp 54) (.tmp 56) 9) 4 ho (by kernel_rfl) (by kernel_rfl) hT rfl hW ?_
   intro hg he ps af
   subst he
   have e54:T.getD 54 undef = .string ⟨n.audience.toArray⟩:=hK.at 35 (by decide) (by kernel_rfl) rfl
   have e56:T.getD 56 undef = .string ⟨m.audience.toArray⟩:=hK.at 37 (by decide) (by kernel_rfl) rfl
   exact j_eql2s e54 e56 hb38 ⟨rfl,hW⟩
  ·refine sq (x:= .bool b39) (some 58) (.pick (.tmp 52) (.tmp 57) (.const (Value.bool false))) 4 ho (by kernel_rfl) rfl ?_
   intro ps af
   have e52:T.getD 52 undef = .bool b32:=hK.at 33 (by decide) (by kernel_rfl) rfl
   refine j_pick e52 ?_ ⟨rfl,hW⟩
   rcases Bool.eq_false_or_eq_true b32 with hx | hx
   ·have es:T.getD 57 undef=gv (true&&(b32 == true)) (.bool b38):=hK.at 38 (by decide) (by kernel_rfl) rfl
    rw [hx,if_pos rfl]
    refine es.trans ?_
    simp only [hb39,hx,gv,Bool.true_and,Bool.and_true,Bool.false_or,beq_self_eq_true,Bool.true_or,if_true]
   ·rw [hx,if_neg (by decide)]
    simp only [hb39,hx,Bool.false_and,Bool.true_or]
    rfl
  ·refine sq (x:= .bool b39) (some 59) (.move (.tmp 58)) 4 ho (by kernel_rfl) rfl ?_
   intro ps af
   have e58:T.getD 58 undef = .bool b39:=hK.at 39 (by decide) (by kernel_rfl) rfl
   exact j_mv e58 ⟨rfl,hW⟩
  ·have hT:T.getD 59 undef=gv true (.bool b39):=hK.at 40 (by decide) (by kernel_rfl) rfl
   refine sg (x:= .pointer (some ⟨g,7,none⟩)) 40 59 true (some 60) (.fieldAddr 31 (.tmp 2) 7) 0 ho (by kernel_rfl) (by kernel_rfl) hT rfl hW ?_
   intro hg he ps af
   subst he
   have e2:T.getD 2 undef = .pointer (some ⟨g,0,none⟩):=hK.old (by kernel_rfl) g2
   exact j_fa31_7 e2 ⟨rfl,hW⟩
  ·have hT:T.getD 59 undef=gv true (.bool b39):=hK.at 40 (by decide) (by kernel_rfl) rfl
   refine sg (x:= .int .i64 n.born) 40 59 true (some 61) (.load 3 (.tmp 60)) 3 ho (by kernel_rfl) (by kernel_rfl) hT rfl hW ?_
   intro hg he ps af
   subst he
   have e60:T.getD 60 undef = .pointer (some ⟨g,7,none⟩):=hK.at 41 (by decide) (by kernel_rfl) rfl
   exact j_ld3 (kg_7 _ hW) e60 ⟨rfl,hW⟩
  ·have hT:T.getD 59 undef=gv true (.bool b39):=hK.at 40 (by decide) (by kernel_rfl) rfl
   refine sg (x:= .pointer (some ⟨q,7,none⟩)) 40 59 true (some 62) (.fieldAddr 31 (.tmp 3) 7) 0 ho (by kernel_rfl) (by kernel_rfl) hT rfl hW ?_
   intro hg he ps af
   subst he
   have e3:T.getD 3 undef = .pointer (some ⟨q,0,none⟩):=hK.old (by kernel_rfl) g3
   exact j_fa31_7 e3 ⟨rfl,hW⟩
  ·have hT:T.getD 59 undef=gv true (.bool b39):=hK.at 40 (by decide) (by kernel_rfl) rfl
   refine sg (x:= .int .i64 m.born) 40 59 true (some 63) (.load 3 (.tmp 62)) 3 ho (by kernel_rfl) (by kernel_rfl) hT rfl hW ?_
   intro hg he ps af
   subst he
   have e62:T.getD 62 undef = .pointer (some ⟨q,7,none⟩):=hK.at 43 (by decide) (by kernel_rfl) rfl
   exact j_ld3 (kq_7 _ hW) e62 ⟨rfl,hW⟩
  ·have hT:T.getD 59 undef=gv true (.bool b39):=hK.at 40 (by decide) (by kernel_rfl) rfl
   refine sg (x:= .bool b45) 40 59 true (some 64) (.binOp BinOp.eql 3 (.tmp 61) (.tmp 63) 3) 4 ho (by kernel_rfl) (by kernel_rfl) hT rfl hW ?_
   intro hg he ps af
   subst he
   have e61:T.getD 61 undef = .int .i64 n.born:=hK.at 42 (by decide) (by kernel_rfl) rfl
   have e63:T.getD 63 undef = .int .i64 m.born:=hK.at 44 (by decide) (by kernel_rfl) rfl
   exact j_eql2i643 e61 e63 hb45 ⟨rfl,hW⟩
  ·refine sq (x:= .bool b46) (some 65) (.pick (.tmp 59) (.tmp 64) (.const (Value.bool false))) 4 ho (by kernel_rfl) rfl ?_
   intro ps af
   have e59:T.getD 59 undef = .bool b39:=hK.at 40 (by decide) (by kernel_rfl) rfl
   refine j_pick e59 ?_ ⟨rfl,hW⟩
   rcases Bool.eq_false_or_eq_true b39 with hx | hx
   ·have es:T.getD 64 undef=gv (true&&(b39 == true)) (.bool b45):=hK.at 45 (by decide) (by kernel_rfl) rfl
    rw [hx,if_pos rfl]
    refine es.trans ?_
    simp only [hb46,hx,gv,Bool.true_and,Bool.and_true,Bool.false_or,beq_self_eq_true,Bool.true_or,if_true]
   ·rw [hx,if_neg (by decide)]
    simp only [hb46,hx,Bool.false_and,Bool.true_or]
    rfl
  ·refine sq (x:= .bool b46) (some 66) (.move (.tmp 65)) 4 ho (by kernel_rfl) rfl ?_
   intro ps af
   have e65:T.getD 65 undef = .bool b46:=hK.at 46 (by decide) (by kernel_rfl) rfl
   exact j_mv e65 ⟨rfl,hW⟩
  ·have hT:T.getD 66 undef=gv true (.bool b46):=hK.at 47 (by decide) (by kernel_rfl) rfl
   refine sg (x:= .pointer (some ⟨g,8,none⟩)) 47 66 true (some 67) (.fieldAddr 31 (.tmp 2) 8) 0 ho (by kernel_rfl) (by kernel_rfl) hT rfl hW ?_
   intro hg he ps af
   subst he
   have e2:T.getD 2 undef = .pointer (some ⟨g,0,none⟩):=hK.old (by kernel_rfl) g2
   exact j_fa31_8 e2 ⟨rfl,hW⟩
  ·have hT:T.getD 66 undef=gv true (.bool b46):=hK.at 47 (by decide) (by kernel_rfl) rfl
   refine sg (x:= .int .i64 n.exp) 47 66 true (some 68) (.load 3 (.tmp 67)) 3 ho (by kernel_rfl) (by kernel_rfl) hT rfl hW ?_
   intro hg he ps af
   subst he
   have e67:T.getD 67 undef = .pointer (some ⟨g,8,none⟩):=hK.at 48 (by decide) (by kernel_rfl) rfl
   exact j_ld3 (kg_8 _ hW) e67 ⟨rfl,hW⟩
  ·have hT:T.getD 66 undef=gv true (.bool b46):=hK.at 47 (by decide) (by kernel_rfl) rfl
   refine sg (x:= .pointer (some ⟨q,8,none⟩)) 47 66 true (some 69) (.fieldAddr 31 (.tmp 3) 8) 0 ho (by kernel_rfl) (by kernel_rfl) hT rfl hW ?_
   intro hg he ps af
   subst he
   have e3:T.getD 3 undef = .pointer (some ⟨q,0,none⟩):=hK.old (by kernel_rfl) g3
   exact j_fa31_8 e3 ⟨rfl,hW⟩
  ·have hT:T.getD 66 undef=gv true (.bool b46):=hK.at 47 (by decide) (by kernel_rfl) rfl
   refine sg (x:= .int .i64 m.exp) 47 66 true (some 70) (.load 3 (.tmp 69)) 3 ho (by kernel_rfl) (by kernel_rfl) hT rfl hW ?_
   intro hg he ps af
   subst he
   have e69:T.getD 69 undef = .pointer (some ⟨q,8,none⟩):=hK.at 50 (by decide) (by kernel_rfl) rfl
   exact j_ld3 (kq_8 _ hW) e69 ⟨rfl,hW⟩
  ·have hT:T.getD 66 undef=gv true (.bool b46):=hK.at 47 (by decide) (by kernel_rfl) rfl
   refine sg (x:= .bool b52) 47 66 true (some 71) (.binOp BinOp.eql 3 (.tmp 68) (.tmp 70) 3) 4 ho (by kernel_rfl) (by kernel_rfl) hT rfl hW ?_
   intro hg he ps af
   subst he
   have e68:T.getD 68 undef = .int .i64 n.exp:=hK.at 49 (by decide) (by kernel_rfl) rfl
   have e70:T.getD 70 undef = .int .i64 m.exp:=hK.at 51 (by decide) (by kernel_rfl) rfl
   exact j_eql2i643 e68 e70 hb52 ⟨rfl,hW⟩
  ·refine sq (x:= .bool b53) (some 72) (.pick (.tmp 66) (.tmp 71) (.const (Value.bool false))) 4 ho (by kernel_rfl) rfl ?_
   intro ps af
   have e66:T.getD 66 undef = .bool b46:=hK.at 47 (by decide) (by kernel_rfl) rfl
   refine j_pick e66 ?_ ⟨rfl,hW⟩
   rcases Bool.eq_false_or_eq_true b46 with hx | hx
   ·have es:T.getD 71 undef=gv (true&&(b46 == true)) (.bool b52):=hK.at 52 (by decide) (by kernel_rfl) rfl
    rw [hx,if_pos rfl]
    refine es.trans ?_
    simp only [hb53,hx,gv,Bool.true_and,Bool.and_true,Bool.false_or,beq_self_eq_true,Bool.true_or,if_true]
   ·rw [hx,if_neg (by decide)]
    simp only [hb53,hx,Bool.false_and,Bool.true_or]
    rfl
  ·refine sq (x:= .bool b53) (some 73) (.move (.tmp 72)) 4 ho (by kernel_rfl) rfl ?_
   intro ps af
   have e72:T.getD 72 undef = .bool b53:=hK.at 53 (by decide) (by kernel_rfl) rfl
   exact j_mv e72 ⟨rfl,hW⟩
  ·have hT:T.getD 73 undef=gv true (.bool b53):=hK.at 54 (by decide) (by kernel_rfl) rfl
   refine sg (x:= .pointer (some ⟨g,9,none⟩)) 54 73 true (some 74) (.fieldAddr 31 (.tmp 2) 9) 0 ho (by kernel_rfl) (by kernel_rfl) hT rfl hW ?_
   intro hg he ps af
   subst he
   have e2:T.getD 2 undef = .pointer (some ⟨g,0,none⟩):=hK.old (by kernel_rfl) g2
   exact j_fa31_9 e2 ⟨rfl,hW⟩
  ·have hT:T.getD 73 undef=gv true (.bool b53):=hK.at 54 (by decide) (by kernel_rfl) rfl
   refine sg (x:= .bool n.dead) 54 73 true (some 75) (.load 4 (.tmp 74)) 4 ho (by kernel_rfl) (by kernel_rfl) hT rfl hW ?_
   intro hg he ps af
   subst he
   have e74:T.getD 74 undef = .pointer (some ⟨g,9,none⟩):=hK.at 55 (by decide) (by kernel_rfl) rfl
   exact j_ld4 (kg_9 _ hW) e74 ⟨rfl,hW⟩
  ·have hT:T.getD 73 undef=gv true (.bool b53):=hK.at 54 (by decide) (by kernel_rfl) rfl
   refine sg (x:= .pointer (some ⟨q,9,none⟩)) 54 73 true (some 76) (.fieldAddr 31 (.tmp 3) 9) 0 ho (by kernel_rfl) (by kernel_rfl) hT rfl hW ?_
   intro hg he ps af
   subst he
   have e3:T.getD 3 undef = .pointer (some ⟨q,0,none⟩):=hK.old (by kernel_rfl) g3
   exact j_fa31_9 e3 ⟨rfl,hW⟩
  ·have hT:T.getD 73 undef=gv true (.bool b53):=hK.at 54 (by decide) (by kernel_rfl) rfl
   refine sg (x:= .bool m.dead) 54 73 true (some 77) (.load 4 (.tmp 76)) 4 ho (by kernel_rfl) (by kernel_rfl) hT rfl hW ?_
   intro hg he ps af
   subst he
   have e76:T.getD 76 undef = .pointer (some ⟨q,9,none⟩):=hK.at 57 (by decide) (by kernel_rfl) rfl
   exact j_ld4 (kq_9 _ hW) e76 ⟨rfl,hW⟩
  ·have hT:T.getD 73 undef=gv true (.bool b53):=hK.at 54 (by decide) (by kernel_rfl) rfl
   refine sg (x:= .bool b59) 54 73 true (some 78) (.binOp BinOp.eql 4 (.tmp 75) (.tmp 77) 4) 4 ho (by kernel_rfl) (by kernel_rfl) hT rfl hW ?_
   intro hg he ps af
   subst he
   have e75:T.getD 75 undef = .bool n.dead:=hK.at 56 (by decide) (by kernel_rfl) rfl
   have e77:T.getD 77 undef = .bool m.dead:=hK.at 58 (by decide) (by kernel_rfl) rfl
   exact j_eql2b e75 e77 hb59 ⟨rfl,hW⟩
  ·refine sq (x:= .bool b60) (some 79) (.pick (.tmp 73) (.tmp 78) (.const (Value.bool false))) 4 ho (by kernel_rfl) rfl ?_
   intro ps af
   have e73:T.getD 73 undef = .bool b53:=hK.at 54 (by decide) (by kernel_rfl) rfl
   refine j_pick e73 ?_ ⟨rfl,hW⟩
   rcases Bool.eq_false_or_eq_true b53 with hx | hx
   ·have es:T.getD 78 undef=gv (true&&(b53 == true)) (.bool b59):=hK.at 59 (by decide) (by kernel_rfl) rfl
    rw [hx,if_pos rfl]
    refine es.trans ?_
    simp only [hb60,hx,gv,Bool.true_and,Bool.and_true,Bool.false_or,beq_self_eq_true,Bool.true_or,if_true]
   ·rw [hx,if_neg (by decide)]
    simp only [hb60,hx,Bool.false_and,Bool.true_or]
    rfl
  ·refine sq (x:= .bool b60) (some 80) (.move (.tmp 79)) 4 ho (by kernel_rfl) rfl ?_
   intro ps af
   have e79:T.getD 79 undef = .bool b60:=hK.at 60 (by decide) (by kernel_rfl) rfl
   exact j_mv e79 ⟨rfl,hW⟩
  ·have hT:T.getD 80 undef=gv true (.bool b60):=hK.at 61 (by decide) (by kernel_rfl) rfl
   refine sg (x:= .pointer (some ⟨g,10,none⟩)) 61 80 true (some 81) (.fieldAddr 31 (.tmp 2) 10) 0 ho (by kernel_rfl) (by kernel_rfl) hT rfl hW ?_
   intro hg he ps af
   subst he
   have e2:T.getD 2 undef = .pointer (some ⟨g,0,none⟩):=hK.old (by kernel_rfl) g2
   exact j_fa31_10 e2 ⟨rfl,hW⟩
  ·have hT:T.getD 80 undef=gv true (.bool b60):=hK.at 61 (by decide) (by kernel_rfl) rfl
   refine sg (x:= .bool n.spent) 61 80 true (some 82) (.load 4 (.tmp 81)) 4 ho (by kernel_rfl) (by kernel_rfl) hT rfl hW ?_
   intro hg he ps af
   subst he
   have e81:T.getD 81 undef = .pointer (some ⟨g,10,none⟩):=hK.at 62 (by decide) (by kernel_rfl) rfl
   exact j_ld4 (kg_10 _ hW) e81 ⟨rfl,hW⟩
  ·have hT:T.getD 80 undef=gv true (.bool b60):=hK.at 61 (by decide) (by kernel_rfl) rfl
   refine sg (x:= .pointer (some ⟨q,10,none⟩)) 61 80 true (some 83) (.fieldAddr 31 (.tmp 3) 10) 0 ho (by kernel_rfl) (by kernel_rfl) hT rfl hW ?_
   intro hg he ps af
   subst he
   have e3:T.getD 3 undef = .pointer (some ⟨q,0,none⟩):=hK.old (by kernel_rfl) g3
   exact j_fa31_10 e3 ⟨rfl,hW⟩
  ·have hT:T.getD 80 undef=gv true (.bool b60):=hK.at 61 (by decide) (by kernel_rfl) rfl
   refine sg (x:= .bool m.spent) 61 80 true (some 84) (.load 4 (.tmp 83)) 4 ho (by kernel_rfl) (by kernel_rfl) hT rfl hW ?_
   intro hg he ps af
   subst he
   have e83:T.getD 83 undef = .pointer (some ⟨q,10,none⟩):=hK.at 64 (by decide) (by kernel_rfl) rfl
   exact j_ld4 (kq_10 _ hW) e83 ⟨rfl,hW⟩
  ·have hT:T.getD 80 undef=gv true (.bool b60):=hK.at 61 (by decide) (by kernel_rfl) rfl
   refine sg (x:= .bool b66) 61 80 true (some 85) (.binOp BinOp.eql 4 (.tmp 82) (.tmp 84) 4) 4 ho (by kernel_rfl) (by kernel_rfl) hT rfl hW ?_
   intro hg he ps af
   subst he
   have e82:T.getD 82 undef = .bool n.spent:=hK.at 63 (by decide) (by kernel_rfl) rfl
   have e84:T.getD 84 undef = .bool m.spent:=hK.at 65 (by decide) (by kernel_rfl) rfl
   exact j_eql2b e82 e84 hb66 ⟨rfl,hW⟩
  ·refine sq (x:= .bool b67) (some 86) (.pick (.tmp 80) (.tmp 85) (.const (Value.bool false))) 4 ho (by kernel_rfl) rfl ?_
   intro ps af
   have e80:T.getD 80 undef = .bool b60:=hK.at 61 (by decide) (by kernel_rfl) rfl
   refine j_pick e80 ?_ ⟨rfl,hW⟩
   rcases Bool.eq_false_or_eq_true b60 with hx | hx
   ·have es:T.getD 85 undef=gv (true&&(b60 == true)) (.bool b66):=hK.at 66 (by decide) (by kernel_rfl) rfl
    rw [hx,if_pos rfl]
    refine es.trans ?_
    simp only [hb67,hx,gv,Bool.true_and,Bool.and_true,Bool.false_or,beq_self_eq_true,Bool.true_or,if_true]
   ·rw [hx,if_neg (by decide)]
    simp only [hb67,hx,Bool.false_and,Bool.true_or]
    rfl
  ·refine sq (x:= .bool b67) (some 87) (.move (.tmp 86)) 4 ho (by kernel_rfl) rfl ?_
   intro ps af
   have e86:T.getD 86 undef = .bool b67:=hK.at 67 (by decide) (by kernel_rfl) rfl
   exact j_mv e86 ⟨rfl,hW⟩
  ·have hT:T.getD 87 undef=gv true (.bool b67):=hK.at 68 (by decide) (by kernel_rfl) rfl
   refine sg (x:= .pointer (some ⟨g,12,none⟩)) 68 87 true (some 88) (.fieldAddr 31 (.tmp 2) 12) 0 ho (by kernel_rfl) (by kernel_rfl) hT rfl hW ?_
   intro hg he ps af
   subst he
   have e2:T.getD 2 undef = .pointer (some ⟨g,0,none⟩):=hK.old (by kernel_rfl) g2
   exact j_fa31_12 e2 ⟨rfl,hW⟩
  ·have hT:T.getD 87 undef=gv true (.bool b67):=hK.at 68 (by decide) (by kernel_rfl) rfl
   refine sg (x:= .int .i64 n.level) 68 87 true (some 89) (.load 3 (.tmp 88)) 3 ho (by kernel_rfl) (by kernel_rfl) hT rfl hW ?_
   intro hg he ps af
   subst he
   have e88:T.getD 88 undef = .pointer (some ⟨g,12,none⟩):=hK.at 69 (by decide) (by kernel_rfl) rfl
   exact j_ld3 (kg_12 _ hW) e88 ⟨rfl,hW⟩
  ·have hT:T.getD 87 undef=gv true (.bool b67):=hK.at 68 (by decide) (by kernel_rfl) rfl
   refine sg (x:= .pointer (some ⟨q,12,none⟩)) 68 87 true (some 90) (.fieldAddr 31 (.tmp 3) 12) 0 ho (by kernel_rfl) (by kernel_rfl) hT rfl hW ?_
   intro hg he ps af
   subst he
   have e3:T.getD 3 undef = .pointer (some ⟨q,0,none⟩):=hK.old (by kernel_rfl) g3
   exact j_fa31_12 e3 ⟨rfl,hW⟩
  ·have hT:T.getD 87 undef=gv true (.bool b67):=hK.at 68 (by decide) (by kernel_rfl) rfl
   refine sg (x:= .int .i64 m.level) 68 87 true (some 91) (.load 3 (.tmp 90)) 3 ho (by kernel_rfl) (by kernel_rfl) hT rfl hW ?_
   intro hg he ps af
   subst he
   have e90:T.getD 90 undef = .pointer (some ⟨q,12,none⟩):=hK.at 71 (by decide) (by kernel_rfl) rfl
   exact j_ld3 (kq_12 _ hW) e90 ⟨rfl,hW⟩
  ·have hT:T.getD 87 undef=gv true (.bool b67):=hK.at 68 (by decide) (by kernel_rfl) rfl
   refine sg (x:= .bool b73) 68 87 true (some 92) (.binOp BinOp.eql 3 (.tmp 89) (.tmp 91) 3) 4 ho (by kernel_rfl) (by kernel_rfl) hT rfl hW ?_
   intro hg he ps af
   subst he
   have e89:T.getD 89 undef = .int .i64 n.level:=hK.at 70 (by decide) (by kernel_rfl) rfl
   have e91:T.getD 91 undef = .int .i64 m.level:=hK.at 72 (by decide) (by kernel_rfl) rfl
   exact j_eql2i643 e89 e91 hb73 ⟨rfl,hW⟩
  ·refine sq (x:= .bool b74) (some 93) (.pick (.tmp 87) (.tmp 92) (.const (Value.bool false))) 4 ho (by kernel_rfl) rfl ?_
   intro ps af
   have e87:T.getD 87 undef = .bool b67:=hK.at 68 (by decide) (by kernel_rfl) rfl
   refine j_pick e87 ?_ ⟨rfl,hW⟩
   rcases Bool.eq_false_or_eq_true b67 with hx | hx
   ·have es:T.getD 92 undef=gv (true&&(b67 == true)) (.bool b73):=hK.at 73 (by decide) (by kernel_rfl) rfl
    rw [hx,if_pos rfl]
    refine es.trans ?_
    simp only [hb74,hx,gv,Bool.true_and,Bool.and_true,Bool.false_or,beq_self_eq_true,Bool.true_or,if_true]
   ·rw [hx,if_neg (by decide)]
    simp only [hb74,hx,Bool.false_and,Bool.true_or]
    rfl
  ·refine sq (x:= .bool b74) (some 94) (.move (.tmp 93)) 4 ho (by kernel_rfl) rfl ?_
   intro ps af
   have e93:T.getD 93 undef = .bool b74:=hK.at 74 (by decide) (by kernel_rfl) rfl
   exact j_mv e93 ⟨rfl,hW⟩
  ·have hT:T.getD 94 undef=gv true (.bool b74):=hK.at 75 (by decide) (by kernel_rfl) rfl
   refine sg (x:= .pointer (some ⟨g,13,none⟩)) 75 94 true (some 95) (.fieldAddr 31 (.tmp 2) 13) 0 ho (by kernel_rfl) (by kernel_rfl) hT rfl hW ?_
   intro hg he ps af
   subst he
   have e2:T.getD 2 undef = .pointer (some ⟨g,0,none⟩):=hK.old (by kernel_rfl) g2
   exact j_fa31_13 e2 ⟨rfl,hW⟩
  ·have hT:T.getD 94 undef=gv true (.bool b74):=hK.at 75 (by decide) (by kernel_rfl) rfl
   refine sg (x:= .string ⟨n.secret.toArray⟩) 75 94 true (some 96) (.load 9 (.tmp 95)) 9 ho (by kernel_rfl) (by kernel_rfl) hT rfl hW ?_
   intro hg he ps af
   subst he
   have e95:T.getD 95 undef = .pointer (some ⟨g,13,none⟩):=hK.at 76 (by decide) (by kernel_rfl) rfl
   exact j_ld9 (kg_13 _ hW) e95 ⟨rfl,hW⟩
  ·have hT:T.getD 94 undef=gv true (.bool b74):=hK.at 75 (by decide) (by kernel_rfl) rfl
   refine sg (x:= .pointer (some ⟨q,13,none⟩)) 75 94 true (some 97) (.fieldAddr 31 (.tmp 3) 13) 0 ho (by kernel_rfl) (by kernel_rfl) hT rfl hW ?_
   intro hg he ps af
   subst he
   have e3:T.getD 3 undef = .pointer (some ⟨q,0,none⟩):=hK.old (by kernel_rfl) g3
   exact j_fa31_13 e3 ⟨rfl,hW⟩
  ·have hT:T.getD 94 undef=gv true (.bool b74):=hK.at 75 (by decide) (by kernel_rfl) rfl
   refine sg (x:= .string ⟨m.secret.toArray⟩) 75 94 true (some 98) (.load 9 (.tmp 97)) 9 ho (by kernel_rfl) (by kernel_rfl) hT rfl hW ?_
   intro hg he ps af
   subst he
   have e97:T.getD 97 undef = .pointer (some ⟨q,13,none⟩):=hK.at 78 (by decide) (by kernel_rfl) rfl
   exact j_ld9 (kq_13 _ hW) e97 ⟨rfl,hW⟩
  ·have hT:T.getD 94 undef=gv true (.bool b74):=hK.at 75 (by decide) (by kernel_rfl) rfl
   refine sg (x:= .bool b80) 75 94 true (some 99) (.binOp BinOp.eql 9 (.tmp 96) (.tmp 98) 9) 4 ho (by kernel_rfl) (by kernel_rfl) hT rfl hW ?_
   intro hg he ps af
   subst he
   have e96:T.getD 96 undef = .string ⟨n.secret.toArray⟩:=hK.at 77 (by decide) (by kernel_rfl) rfl
   have e98:T.getD 98 undef = .string ⟨m.secret.toArray⟩:=hK.at 79 (by decide) (by kernel_rfl) rfl
   exact j_eql2s e96 e98 hb80 ⟨rfl,hW⟩
  ·refine sq (x:= .bool b81) (some 100) (.pick (.tmp 94) (.tmp 99) (.const (Value.bool false))) 4 ho (by kernel_rfl) rfl ?_
   intro ps af
   have e94:T.getD 94 undef = .bool b74:=hK.at 75 (by decide) (by kernel_rfl) rfl
   refine j_pick e94 ?_ ⟨rfl,hW⟩
   rcases Bool.eq_false_or_eq_true b74 with hx | hx
   ·have es:T.getD 99 undef=gv (true&&(b74 == true)) (.bool b80):=hK.at 80 (by decide) (by kernel_rfl) rfl
    rw [hx,if_pos rfl]
    refine es.trans ?_
    simp only [hb81,hx,gv,Bool.true_and,Bool.and_true,Bool.false_or,beq_self_eq_true,Bool.true_or,if_true]
   ·rw [hx,if_neg (by decide)]
    simp only [hb81,hx,Bool.false_and,Bool.true_or]
    rfl
  ·refine sq (x:= .bool b81) (some 101) (.move (.tmp 100)) 4 ho (by kernel_rfl) rfl ?_
   intro ps af
   have e100:T.getD 100 undef = .bool b81:=hK.at 81 (by decide) (by kernel_rfl) rfl
   exact j_mv e100 ⟨rfl,hW⟩
  ·have hT:T.getD 101 undef=gv true (.bool b81):=hK.at 82 (by decide) (by kernel_rfl) rfl
   refine sg (x:= .pointer (some ⟨g,14,none⟩)) 82 101 true (some 102) (.fieldAddr 31 (.tmp 2) 14) 0 ho (by kernel_rfl) (by kernel_rfl) hT rfl hW ?_
   intro hg he ps af
   subst he
   have e2:T.getD 2 undef = .pointer (some ⟨g,0,none⟩):=hK.old (by kernel_rfl) g2
   exact j_fa31_14 e2 ⟨rfl,hW⟩
  ·have hT:T.getD 101 undef=gv true (.bool b81):=hK.at 82 (by decide) (by kernel_rfl) rfl
   refine sg (x:= .string ⟨n.data.toArray⟩) 82 101 true (some 103) (.load 9 (.tmp 102)) 9 ho (by kernel_rfl) (by kernel_rfl) hT rfl hW ?_
   intro hg he ps af
   subst he
   have e102:T.getD 102 undef = .pointer (some ⟨g,14,none⟩):=hK.at 83 (by decide) (by kernel_rfl) rfl
   exact j_ld9 (kg_14 _ hW) e102 ⟨rfl,hW⟩
  ·have hT:T.getD 101 undef=gv true (.bool b81):=hK.at 82 (by decide) (by kernel_rfl) rfl
   refine sg (x:= .pointer (some ⟨q,14,none⟩)) 82 101 true (some 104) (.fieldAddr 31 (.tmp 3) 14) 0 ho (by kernel_rfl) (by kernel_rfl) hT rfl hW ?_
   intro hg he ps af
   subst he
   have e3:T.getD 3 undef = .pointer (some ⟨q,0,none⟩):=hK.old (by kernel_rfl) g3
   exact j_fa31_14 e3 ⟨rfl,hW⟩
  ·have hT:T.getD 101 undef=gv true (.bool b81):=hK.at 82 (by decide) (by kernel_rfl) rfl
   refine sg (x:= .string ⟨m.data.toArray⟩) 82 101 true (some 105) (.load 9 (.tmp 104)) 9 ho (by kernel_rfl) (by kernel_rfl) hT rfl hW ?_
   intro hg he ps af
   subst he
   have e104:T.getD 104 undef = .pointer (some ⟨q,14,none⟩):=hK.at 85 (by decide) (by kernel_rfl) rfl
   exact j_ld9 (kq_14 _ hW) e104 ⟨rfl,hW⟩
  ·have hT:T.getD 101 undef=gv true (.bool b81):=hK.at 82 (by decide) (by kernel_rfl) rfl
   refine sg (x:= .bool b87) 82 101 true (some 106) (.binOp BinOp.eql 9 (.tmp 103) (.tmp 105) 9) 4 ho (by kernel_rfl) (by kernel_rfl) hT rfl hW ?_
   intro hg he ps af
   subst he
   have e103:T.getD 103 undef = .string ⟨n.data.toArray⟩:=hK.at 84 (by decide) (by kernel_rfl) rfl
   have e105:T.getD 105 undef = .string ⟨m.data.toArray⟩:=hK.at 86 (by decide) (by kernel_rfl) rfl
   exact j_eql2s e103 e105 hb87 ⟨rfl,hW⟩
  ·refine sq (x:= .bool b88) (some 107) (.pick (.tmp 101) (.tmp 106) (.const (Value.bool false))) 4 ho (by kernel_rfl) rfl ?_
   intro ps af
   have e101:T.getD 101 undef = .bool b81:=hK.at 82 (by decide) (by kernel_rfl) rfl
   refine j_pick e101 ?_ ⟨rfl,hW⟩
   rcases Bool.eq_false_or_eq_true b81 with hx | hx
   ·have es:T.getD 106 undef=gv (true&&(b81 == true)) (.bool b87):=hK.at 87 (by decide) (by kernel_rfl) rfl
    rw [hx,if_pos rfl]
    refine es.trans ?_
    simp only [hb88,hx,gv,Bool.true_and,Bool.and_true,Bool.false_or,beq_self_eq_true,Bool.true_or,if_true]
   ·rw [hx,if_neg (by decide)]
    simp only [hb88,hx,Bool.false_and,Bool.true_or]
    rfl
  ·refine sq (x:= .bool b88) (some 4) (.assign (.tmp 107)) 4 ho (by kernel_rfl) rfl ?_
   intro ps af
   have e107:T.getD 107 undef = .bool b88:=hK.at 88 (by decide) (by kernel_rfl) rfl
   exact j_as e107 ⟨rfl,hW⟩
 ·intro w1 hW
  have hQ:=h (.pointer (some ⟨g,0,none⟩)) (.int .i64 i0) (.pointer (some ⟨q,0,none⟩)) (.int .i64 j0) (.bool b4) (.bool b4) (gv (true&&(b4 == true)) (.pointer (some ⟨g,1,none⟩))) (gv (true&&(b4 == true)) (.int .i64 n.kind)) (gv (true&&(b4 == true)) (.pointer (some ⟨q,1,none⟩))) (gv (true&&(b4 == true)) (.int .i64 m.kind)) (gv (true&&(b4 == true)) (.bool b10)) (.bool b11) (.bool b11) (gv (true&&(b11 == true)) (.pointer (some ⟨g,2,none⟩))) (gv (true&&(b11 == true)) (.int .i64 i1)) (gv (true&&(b11 == true)) (.pointer (some ⟨q,2,none⟩))) (gv (true&&(b11 == true)) (.int .i64 j1)) (gv (true&&(b11 == true)) (.bool b17)) (.bool b18) (.bool b18) (gv (true&&(b18 == true)) (.pointer (some ⟨g,3,none⟩))) (gv (true&&(b18 == true)) (.string ⟨n.subject.toArray⟩)) (gv (true&&(b18 == true)) (.pointer (some ⟨q,3,none⟩))) (gv (true&&(b18 == true)) (.string ⟨m.subject.toArray⟩)) (gv (true&&(b18 == true)) (.bool b24)) (.bool b25) (.bool b25) (gv (true&&(b25 == true)) (.pointer (some ⟨g,4,none⟩))) (gv (true&&(b25 == true)) (.string ⟨n.client.toArray⟩)) (gv (true&&(b25 == true)) (.pointer (some ⟨q,4,none⟩))) (gv (true&&(b25 == true)) (.string ⟨m.client.toArray⟩)) (gv (true&&(b25 == true)) (.bool b31)) (.bool b32) (.bool b32) (gv (true&&(b32 == true)) (.pointer (some ⟨g,5,none⟩))) (gv (true&&(b32 == true)) (.string ⟨n.audience.toArray⟩)) (gv (true&&(b32 == true)) (.pointer (some ⟨q,5,none⟩))) (gv (true&&(b32 == true)) (.string ⟨m.audience.toArray⟩)) (gv (true&&(b32 == true)) (.bool b38)) (.bool b39) (.bool b39) (gv (true&&(b39 == true)) (.pointer (some ⟨g,7,none⟩))) (gv (true&&(b39 == true)) (.int .i64 n.born)) (gv (true&&(b39 == true)) (.pointer (some ⟨q,7,none⟩))) (gv (true&&(b39 == true)) (.int .i64 m.born)) (gv (true&&(b39 == true)) (.bool b45)) (.bool b46) (.bool b46) (gv (true&&(b46 == true)) (.pointer (some ⟨g,8,none⟩))) (gv (true&&(b46 == true)) (.int .i64 n.exp)) (gv (true&&(b46 == true)) (.pointer (some ⟨q,8,none⟩))) (gv (true&&(b46 == true)) (.int .i64 m.exp)) (gv (true&&(b46 == true)) (.bool b52)) (.bool b53) (.bool b53) (gv (true&&(b53 == true)) (.pointer (some ⟨g,9,none⟩))) (gv (true&&(b53 == true)) (.bool n.dead)) (gv (true&&(b53 == true)) (.pointer (some ⟨q,9,none⟩))) (gv (true&&(b53 == true)) (.bool m.dead)) (gv (true&&(b53 == true)) (.bool b59)) (.bool b60) (.bool b60) (gv (true&&(b60 == true)) (.pointer (some ⟨g,10,none⟩))) (gv (true&&(b60 == true)) (.bool n.spent)) (gv (true&&(b60 == true)) (.pointer (some ⟨q,10,none⟩))) (gv (true&&(b60 == true)) (.bool m.spent)) (gv (true&&(b60 == true)) (.bool b66)) (.bool b67) (.bool b67) (gv (true&&(b67 == true)) (.pointer (some ⟨g,12,none⟩))) (gv (true&&(b67 == true)) (.int .i64 n.level)) (gv (true&&(b67 == true)) (.pointer (some ⟨q,12,none⟩))) (gv (true&&(b67 == true)) (.int .i64 m.level)) (gv (true&&(b67 == true)) (.bool b73)) (.bool b74) (.bool b74) (gv (true&&(b74 == true)) (.pointer (some ⟨g,13,none⟩))) (gv (true&&(b74 == true)) (.string ⟨n.secret.toArray⟩)) (gv (true&&(b74 == true)) (.pointer (some ⟨q,13,none⟩))) (gv (true&&(b74 == true)) (.string ⟨m.secret.toArray⟩)) (gv (true&&(b74 == true)) (.bool b80)) (.bool b81) (.bool b81) (gv (true&&(b81 == true)) (.pointer (some ⟨g,14,none⟩))) (gv (true&&(b81 == true)) (.string ⟨n.data.toArray⟩)) (gv (true&&(b81 == true)) (.pointer (some ⟨q,14,none⟩))) (gv (true&&(b81 == true)) (.string ⟨m.data.toArray⟩)) (gv (true&&(b81 == true)) (.bool b87)) (.bool b88) w1 hW
  rw [hsz]
  subst hT0
  refine cast (congrArg (fun Tx=>Q .normal ⟨Tx,ds⟩ w1) ?_) hQ
  kernel_rfl
def sameP (i0 i1 j0 j1:Int)(n m:Nd): Bool:=!((((!((n.scope == m.scope)))||(!((n.actors == m.actors))))))&&(((((((((((((((((((((((((((i0) == (j0)))&&(((n.kind) == (m.kind)))))&&(((i1) == (j1)))))&&(((n.subject == m.subject)))))&&(((n.client == m.client)))))&&(((n.audience == m.audience)))))&&(((n.born) == (m.born)))))&&(((n.exp) == (m.exp)))))&&(((n.dead) == (m.dead)))))&&(((n.spent) == (m.spent)))))&&(((n.level) == (m.level)))))&&(((n.secret == m.secret)))))&&(((n.data == m.data)))))
set_option maxHeartbeats 4000000 in
theorem rsame_any (i0 i1 j0 j1:Int)(n m:Nd)(sv sw zv zw:Value)(hl1:n.scope.length≤140737488355328)(hl2:n.actors.length≤140737488355328)(w:World)(h1:Rd w sv n.scope)(h2:Rd w sw n.actors)(h3:Rd w zv m.scope)(h4:Rd w zw m.actors): Calls Tryz.prog 38 #[.agg (inC i0 i1 n sv sw),.agg (inC j0 j1 m zv zw)] w fun e w'=>e = .returned (.bool (sameP i0 i1 j0 j1 n m))∧Below w.heap.size w w':=by
 have HA:=Lib.hid (fun W (hb:Below w.heap.size w W)=>rsame_rows n.scope m.scope hl1 W sv zv (h1.below hb) (h3.below hb))
 have HB:=Lib.hid (fun W (hb:Below w.heap.size w W)=>rsame_rows n.actors m.actors hl2 W sw zw (h2.below hb) (h4.below hb))
 obtain⟨sa,sc,rfl,_⟩:=h1
 obtain⟨sb,sd,rfl,_⟩:=h2
 obtain⟨za,zc,rfl,_⟩:=h3
 obtain⟨zb,zd,rfl,_⟩:=h4
 clear hl1 hl2
 have K1:Hid (Bk 31 ((w.alloc (.cells #[.int .i64 i0,.int .i64 n.kind,.int .i64 i1,.string ⟨n.subject.toArray⟩,.string ⟨n.client.toArray⟩,.string ⟨n.audience.toArray⟩,.slice sa n.scope.length sc,.int .i64 n.born,.int .i64 n.exp,.bool n.dead,.bool n.spent,.slice sb n.actors.length sd,.int .i64 n.level,.string ⟨n.secret.toArray⟩,.string ⟨n.data.toArray⟩] 31)).alloc (.cells #[.int .i64 j0,.int .i64 m.kind,.int .i64 j1,.string ⟨m.subject.toArray⟩,.string ⟨m.client.toArray⟩,.string ⟨m.audience.toArray⟩,.slice za m.scope.length zc,.int .i64 m.born,.int .i64 m.exp,.bool m.dead,.bool m.spent,.slice zb m.actors.length zd,.int .i64 m.level,.string ⟨m.secret.toArray⟩,.string ⟨m.data.toArray⟩] 31)) w.heap.size #[.int .i64 i0,.int .i64 n.kind,.int .i64 i1,.string ⟨n.subject.toArray⟩,.string ⟨n.client.toArray⟩,.string ⟨n.audience.toArray⟩,.slice sa n.scope.length sc,.int .i64 n.born,.int .i64 n.exp,.bool n.dead,.bool n.spent,.slice sb n.actors.length sd,.int .i64 n.level,.string ⟨n.secret.toArray⟩,.string ⟨n.data.toArray⟩]):=Lib.hid (Bk.alloc (Bk.new rfl))
 have K2:Hid (Bk 31 ((w.alloc (.cells #[.int .i64 i0,.int .i64 n.kind,.int .i64 i1,.string ⟨n.subject.toArray⟩,.string ⟨n.client.toArray⟩,.string ⟨n.audience.toArray⟩,.slice sa n.scope.length sc,.int .i64 n.born,.int .i64 n.exp,.bool n.dead,.bool n.spent,.slice sb n.actors.length sd,.int .i64 n.level,.string ⟨n.secret.toArray⟩,.string ⟨n.data.toArray⟩] 31)).alloc (.cells #[.int .i64 j0,.int .i64 m.kind,.int .i64 j1,.string ⟨m.subject.toArray⟩,.string ⟨m.client.toArray⟩,.string ⟨m.audience.toArray⟩,.slice za m.scope.length zc,.int .i64 m.born,.int .i64 m.exp,.bool m.dead,.bool m.spent,.slice zb m.actors.length zd,.int .i64 m.level,.string ⟨m.secret.toArray⟩,.string ⟨m.data.toArray⟩] 31)) (w.heap.size+1) #[.int .i64 j0,.int .i64 m.kind,.int .i64 j1,.string ⟨m.subject.toArray⟩,.string ⟨m.client.toArray⟩,.string ⟨m.audience.toArray⟩,.slice za m.scope.length zc,.int .i64 m.born,.int .i64 m.exp,.bool m.dead,.bool m.spent,.slice zb m.actors.length zd,.int .i64 m.level,.string ⟨m.secret.toArray⟩,.string ⟨m.data.toArray⟩]):=Lib.hid (Bk.new (by show w.heap.size+1=(w.heap.push _).size;rw [Array.size_push]))
 have HW:Hid (Below w.heap.size w ((w.alloc (.cells #[.int .i64 i0,.int .i64 n.kind,.int .i64 i1,.string ⟨n.subject.toArray⟩,.string ⟨n.client.toArray⟩,.string ⟨n.audience.toArray⟩,.slice sa n.scope.length sc,.int .i64 n.born,.int .i64 n.exp,.bool n.dead,.bool n.spent,.slice sb n.actors.length sd,.int .i64 n.level,.string ⟨n.secret.toArray⟩,.string ⟨n.data.toArray⟩] 31)).alloc (.cells #[.int .i64 j0,.int .i64 m.kind,.int .i64 j1,.string ⟨m.subject.toArray⟩,.string ⟨m.client.toArray⟩,.string ⟨m.audience.toArray⟩,.slice za m.scope.length zc,.int .i64 m.born,.int .i64 m.exp,.bool m.dead,.bool m.spent,.slice zb m.actors.length zd,.int .i64 m.level,.string ⟨m.secret.toArray⟩,.string ⟨m.data.toArray⟩] 31))):=Lib.hid (by go_grown)
 obtain⟨R,hR⟩:∃R,R=sameP i0 i1 j0 j1 n m:=⟨_,rfl⟩
 rw [← hR]
 have HS:=Lib.hid hR
 clear hR
 obtain⟨v,hv⟩:∃v:Bool,v=(((!((n.scope == m.scope)))||(!((n.actors == m.actors))))):=⟨_,rfl⟩
 have HV:=Lib.hid hv
 clear hv
 have HRV:Hid (R=(!v&&(((((((((((((((((((((((((((i0) == (j0)))&&(((n.kind) == (m.kind)))))&&(((i1) == (j1)))))&&(((n.subject == m.subject)))))&&(((n.client == m.client)))))&&(((n.audience == m.audience)))))&&(((n.born) == (m.born)))))&&(((n.exp) == (m.exp)))))&&(((n.dead) == (m.dead)))))&&(((n.spent) == (m.spent)))))&&(((n.level) == (m.level)))))&&(((n.secret == m.secret)))))&&(((n.data == m.data))))))):=Lib.hid (by rw [HS.out,HV.out];rfl)
 unfold inC txt
 go_enter Tryz.func38,Tryz.ntmps38
 go_upto_region 1 with fail
 refine sam1 (i0:=i0) (i1:=i1) (j0:=j0) (j1:=j1) (n:=n) (m:=m) (sa:=sa) (sb:=sb) (za:=za) (zb:=zb) (sc:=sc) (sd:=sd) (zc:=zc) (zd:=zd) (W:=fun w2=>Below w.heap.size w w2∧Below ((w.alloc (.cells #[.int .i64 i0,.int .i64 n.kind,.int .i64 i1,.string ⟨n.subject.toArray⟩,.string ⟨n.client.toArray⟩,.string ⟨n.audience.toArray⟩,.slice sa n.scope.length sc,.int .i64 n.born,.int .i64 n.exp,.bool n.dead,.bool n.spent,.slice sb n.actors.length sd,.int .i64 n.level,.string ⟨n.secret.toArray⟩,.string ⟨n.data.toArray⟩] 31)).alloc (.cells #[.int .i64 j0,.int .i64 m.kind,.int .i64 j1,.string ⟨m.subject.toArray⟩,.string ⟨m.client.toArray⟩,.string ⟨m.audience.toArray⟩,.slice za m.scope.length zc,.int .i64 m.born,.int .i64 m.exp,.bool m.dead,.bool m.spent,.slice zb m.actors.length zd,.int .i64 m.level,.string ⟨m.secret.toArray⟩,.string ⟨m.data.toArray⟩] 31)).heap.size ((w.alloc (.cells #[.int .i64 i0,.int .i64 n.kind,.int .i64 i1,.string ⟨n.subject.toArray⟩,.string ⟨n.client.toArray⟩,.string ⟨n.audience.toArray⟩,.slice sa n.scope.length sc,.int .i64 n.born,.int .i64 n.exp,.bool n.dead,.bool n.spent,.slice sb n.actors.length sd,.int .i64 n.level,.string ⟨n.secret.toArray⟩,.string ⟨n.data.toArray⟩] 31)).alloc (.cells #[.int .i64 j0,.int .i64 m.kind,.int .i64 j1,.string ⟨m.subject.toArray⟩,.string ⟨m.client.toArray⟩,.string ⟨m.audience.toArray⟩,.slice za m.scope.length zc,.int .i64 m.born,.int .i64 m.exp,.bool m.dead,.bool m.spent,.slice zb m.actors.length zd,.int .i64 m.level,.string ⟨m.secret.toArray⟩,.string ⟨m.data.toArray⟩] 31)) w2) rfl rfl HV.out (fun w2 h=>cell_below h.2 (K1.out.cell 6)) (fun w2 h=>cell_below h.2 (K1.out.cell 11)) (fun w2 h=>cell_below h.2 (K2.out.cell 6)) (fun w2 h=>cell_below h.2 (K2.out.cell 11)) (fun w2 h=>(HA.out w2 h.1).mono fun e w3 h3=>⟨h3.1,by obtain⟨q,rfl⟩:=h3.2;exact⟨below_drewN h.1 q,below_drewN h.2 q⟩⟩) (fun _ w2 h=>(HB.out w2 h.1).mono fun e w3 h3=>⟨h3.1,by obtain⟨q,rfl⟩:=h3.2;exact⟨below_drewN h.1 q,below_drewN h.2 q⟩⟩) ⟨HW.out,Below.refl _ _⟩ ?_
 intros
 rename_i w1 hw1
 cases v with
 |true=>
  have HF:Hid (R=false):=Lib.hid (by rw [HRV.out];rfl)
  have HW1:=Lib.hid hw1.1
  clear hw1
  go_wp2_with fail
  go_ret
  exact⟨by rw [HF.out];rfl,HW1.out⟩
 |false=>
  have HW1:=Lib.hid hw1
  clear hw1
  go_upto_region 3 with fail
  refine sam3 (i0:=i0) (i1:=i1) (j0:=j0) (j1:=j1) (n:=n) (m:=m) (sa:=sa) (sb:=sb) (za:=za) (zb:=zb) (sc:=sc) (sd:=sd) (zc:=zc) (zd:=zd) (W:=fun w2=>Below w.heap.size w w2∧Below ((w.alloc (.cells #[.int .i64 i0,.int .i64 n.kind,.int .i64 i1,.string ⟨n.subject.toArray⟩,.string ⟨n.client.toArray⟩,.string ⟨n.audience.toArray⟩,.slice sa n.scope.length sc,.int .i64 n.born,.int .i64 n.exp,.bool n.dead,.bool n.spent,.slice sb n.actors.length sd,.int .i64 n.level,.string ⟨n.secret.toArray⟩,.string ⟨n.data.toArray⟩] 31)).alloc (.cells #[.int .i64 j0,.int .i64 m.kind,.int .i64 j1,.string ⟨m.subject.toArray⟩,.string ⟨m.client.toArray⟩,.string ⟨m.audience.toArray⟩,.slice za m.scope.length zc,.int .i64 m.born,.int .i64 m.exp,.bool m.dead,.bool m.spent,.slice zb m.actors.length zd,.int .i64 m.level,.string ⟨m.secret.toArray⟩,.string ⟨m.data.toArray⟩] 31)).heap.size ((w.alloc (.cells #[.int .i64 i0,.int .i64 n.kind,.int .i64 i1,.string ⟨n.subject.toArray⟩,.string ⟨n.client.toArray⟩,.string ⟨n.audience.toArray⟩,.slice sa n.scope.length sc,.int .i64 n.born,.int .i64 n.exp,.bool n.dead,.bool n.spent,.slice sb n.actors.length sd,.int .i64 n.level,.string ⟨n.secret.toArray⟩,.string ⟨n.data.toArray⟩] 31)).alloc (.cells #[.int .i64 j0,.int .i64 m.kind,.int .i64 j1,.string ⟨m.subject.toArray⟩,.string ⟨m.client.toArray⟩,.string ⟨m.audience.toArray⟩,.slice za m.scope.length zc,.int .i64 m.born,.int .i64 m.exp,.bool m.dead,.bool m.spent,.slice zb m.actors.length zd,.int .i64 m.level,.string ⟨m.secret.toArray⟩,.string ⟨m.data.toArray⟩] 31)) w2) rfl rfl rfl rfl rfl rfl rfl rfl rfl rfl rfl rfl rfl rfl rfl rfl rfl rfl rfl rfl rfl rfl rfl rfl rfl (fun w2 h=>cell_below h.2 (K1.out.cell 0)) (fun w2 h=>cell_below h.2 (K1.out.cell 1)) (fun w2 h=>cell_below h.2 (K1.out.cell 2)) (fun w2 h=>cell_below h.2 (K1.out.cell 3)) (fun w2 h=>cell_below h.2 (K1.out.cell 4)) (fun w2 h=>cell_below h.2 (K1.out.cell 5)) (fun w2 h=>cell_below h.2 (K1.out.cell 7)) (fun w2 h=>cell_below h.2 (K1.out.cell 8)) (fun w2 h=>cell_below h.2 (K1.out.cell 9)) (fun w2 h=>cell_below h.2 (K1.out.cell 10)) (fun w2 h=>cell_below h.2 (K1.out.cell 12)) (fun w2 h=>cell_below h.2 (K1.out.cell 13)) (fun w2 h=>cell_below h.2 (K1.out.cell 14)) (fun w2 h=>cell_below h.2 (K2.out.cell 0)) (fun w2 h=>cell_below h.2 (K2.out.cell 1)) (fun w2 h=>cell_below h.2 (K2.out.cell 2)) (fun w2 h=>cell_below h.2 (K2.out.cell 3)) (fun w2 h=>cell_below h.2 (K2.out.cell 4)) (fun w2 h=>cell_below h.2 (K2.out.cell 5)) (fun w2 h=>cell_below h.2 (K2.out.cell 7)) (fun w2 h=>cell_below h.2 (K2.out.cell 8)) (fun w2 h=>cell_below h.2 (K2.out.cell 9)) (fun w2 h=>cell_below h.2 (K2.out.cell 10)) (fun w2 h=>cell_below h.2 (K2.out.cell 12)) (fun w2 h=>cell_below h.2 (K2.out.cell 13)) (fun w2 h=>cell_below h.2 (K2.out.cell 14))  HW1.out ?_
  intros
  rename_i w2 hw2
  have HW2:=Lib.hid hw2.1
  clear hw2
  have HF:Hid (R=(((((((((((((((((((((((((((i0) == (j0)))&&(((n.kind) == (m.kind)))))&&(((i1) == (j1)))))&&(((n.subject == m.subject)))))&&(((n.client == m.client)))))&&(((n.audience == m.audience)))))&&(((n.born) == (m.born)))))&&(((n.exp) == (m.exp)))))&&(((n.dead) == (m.dead)))))&&(((n.spent) == (m.spent)))))&&(((n.level) == (m.level)))))&&(((n.secret == m.secret)))))&&(((n.data == m.data)))))):=Lib.hid (by rw [HRV.out];rfl)
  go_wp2_with fail
  go_ret
  exact⟨by rw [HF.out];rfl,HW2.out⟩
end Go.Proofs.YthogppennalobaaGreatDoor
