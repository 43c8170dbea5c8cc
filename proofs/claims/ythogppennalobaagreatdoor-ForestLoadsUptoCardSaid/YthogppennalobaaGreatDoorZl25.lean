/- The program: Load of rows that are no forest's. The drawn region of the document's read. No condition. -/
import Derived.Test.YthogppennalobaaGreatDoorZl24
import Derived.Test.YthogppennalobaaGreatDoorZl17
import Derived.Test.YthogppennalobaaGreatDoorZl02
import Derived.Test.YthogppennalobaaGreatDoorZl07
import Derived.Test.YthogppennalobaaGreatDoorZl10
import Derived.Test.YthogppennalobaaGreatDoorZl18
import Derived.Test.YthogppennalobaaGreatDoorZl22
set_option linter.unusedVariables false
set_option linter.unusedSimpArgs false
set_option maxRecDepth 100000
namespace Go.Proofs.YthogppennalobaaGreatDoor
open Go.RowKit Go.Sort Forest OwnR TxO Pl
set_option maxHeartbeats 4000000 in
theorem pequal_ne (l k:List (Bs×Bs))(hne:l≠k)(w:World)(v u:Value)(h1:Rp w v l)(h2:Rp w u k)(hl:l.length≤2000000)(hk:k.length≤2000000): Calls Tryz.prog 58 #[v,u] w fun e w'=>e = .returned (.bool false)∧Below w.heap.size w w':=by
 obtain⟨a,c,rfl,hc,h1⟩:=h1
 obtain⟨b,d,rfl,hd,h2⟩:=h2
 have H1:=Lib.hid h1
 have H2:=Lib.hid h2
 have HNE:=Lib.hid hne
 by_cases hlk:l.length=k.length
 case neg=>
  have hI:((l.length:Int) == (k.length:Int))=false:=by simp;omega
  have hI2:¬(l.length:Int)=(k.length:Int):=by omega
  clear h1 h2 hne
  go_enter Tryz.func58,Tryz.ntmps58
  go_wp2_with fail
  go_ret
  exact⟨rfl,Below.refl _ _⟩
 case pos=>
 obtain⟨m,hm⟩:∃m,m=k.length:=⟨_,rfl⟩
 have HM:Hid (m=l.length∧m=k.length):=Lib.hid ⟨by omega,hm⟩
 rw [hlk,← hm]
 rw [← hm] at hk
 clear h1 h2 hm hc hd hlk hne hl
 go_enter Tryz.func58,Tryz.ntmps58
 go_wp2_with fail
 go_loopw [13] (fun iv wr=>∃i:Nat,i≤m∧iv = .int .i64 (i:Int)∧Hid (∀j (h1:j<l.length) (h2:j<k.length),j<i→l[j]=k[j])∧Hid (Below w.heap.size w wr)) (fun iv _=>m - (intOf iv).toNat)
 case atStart=>exact⟨0,Nat.zero_le _,rfl,Lib.hid (fun j _ _ h=>by omega),Lib.hid (Below.refl _ _)⟩
 case round=>
  obtain⟨i,hi,rfl,HE,HQ⟩:=hrel
  by_cases hlt:i<m
  ·have hlt1:i<l.length:=by rw [← HM.out.1];exact hlt
   have hlt2:i<k.length:=by rw [← HM.out.2];exact hlt
   obtain⟨s,hs⟩:∃s,l[i]'hlt1=s:=⟨_,rfl⟩
   obtain⟨t,ht⟩:∃t,k[i]'hlt2=t:=⟨_,rfl⟩
   obtain⟨g,o,rfl,c0⟩:=H1.out i hlt1
   obtain⟨g2,o2,rfl,d0⟩:=H2.out i hlt2
   have hltI:(i:Int)<(m:Int):=by omega
   rw [hs,show o+2*i=o+i*2 by omega] at c0
   rw [ht,show o2+2*i=o2+i*2 by omega] at d0
   obtain⟨s1,s2⟩:=s
   obtain⟨t1,t2⟩:=t
   unfold txt at c0 d0
   dsimp only at c0 d0
   have C1:=Lib.hid (range_below c0 HQ.out)
   have D1:=Lib.hid (range_below d0 HQ.out)
   have HST:Hid (s1=t1∧s2=t2→∀j (h1:j<l.length) (h2:j<k.length),j<i+1→l[j]=k[j]):=Lib.hid (fun e j h1 h2 hj=>by
    by_cases e2:j=i
    ·subst e2;rw [hs,ht,e.1,e.2]
    ·exact HE.out j h1 h2 (by omega))
   clear c0 d0 hs ht hlt1 hlt2
   by_cases he1:s1=t1
   case neg=>
    have e1:(s1 == t1)=false:=by simpa using he1
    have e2:(t1 == s1)=false:=by simpa using Ne.symm he1
    have e3:=ba_beq s1 t1
    rw [e1] at e3
    go_wp2_with fail
    refine wp_region_quiet_below mixed (by kernel_rfl) ?_
    repeat (first | go_big_quiet_step (fail) | quiet_step (fail))
    refine wpQuiet_load_mid rfl 47 _ rfl g (o+i*2) rfl [.string ⟨s1.toArray⟩,.string ⟨s2.toArray⟩] _ (fun w' hw'=>by obtain⟨p,rfl⟩:=hw';exact range_below C1.out (below_regrown wr p.d p.os)) Tryz.underlying47 rfl i47 ?_
    repeat (first | go_big_quiet_step (fail) | quiet_step (fail))
    refine wpQuiet_load_mid rfl 47 _ rfl g2 (o2+i*2) rfl [.string ⟨t1.toArray⟩,.string ⟨t2.toArray⟩] _ (fun w' hw'=>by obtain⟨p,rfl⟩:=hw';exact range_below D1.out (below_regrown wr p.d p.os)) Tryz.underlying47 rfl i47 ?_
    repeat (first | go_big_quiet_step (fail) | quiet_step (fail))
    refine wpQuiet_nil ?_
    intro _ hw'
    obtain⟨⟨dq,osq⟩,hw''⟩:=hw'
    subst hw''
    have B9:Hid (Below w.heap.size w (grow (redrawn wr dq) osq)):=Lib.hid (HQ.out.trans ((below_regrown wr dq osq).mono HQ.out.size))
    generalize grow (redrawn wr dq) osq=wq at B9 ⊢
    go_wp2_with fail
    go_ret
    exact⟨rfl,B9.out⟩
   case pos=>
   subst he1
   by_cases he2:s2=t2
   case neg=>
    have e1:(s2 == t2)=false:=by simpa using he2
    have e3:=ba_beq s2 t2
    rw [e1] at e3
    go_wp2_with fail
    refine wp_region_quiet_below mixed (by kernel_rfl) ?_
    repeat (first | go_big_quiet_step (fail) | quiet_step (fail))
    refine wpQuiet_load_mid rfl 47 _ rfl g (o+i*2) rfl [.string ⟨s1.toArray⟩,.string ⟨s2.toArray⟩] _ (fun w' hw'=>by obtain⟨p,rfl⟩:=hw';exact range_below C1.out (below_regrown wr p.d p.os)) Tryz.underlying47 rfl i47 ?_
    repeat (first | go_big_quiet_step (fail) | quiet_step (fail))
    refine wpQuiet_load_mid rfl 47 _ rfl g2 (o2+i*2) rfl [.string ⟨s1.toArray⟩,.string ⟨t2.toArray⟩] _ (fun w' hw'=>by obtain⟨p,rfl⟩:=hw';exact range_below D1.out (below_regrown wr p.d p.os)) Tryz.underlying47 rfl i47 ?_
    repeat (first | go_big_quiet_step (fail) | quiet_step (fail))
    refine wpQuiet_nil ?_
    intro _ hw'
    obtain⟨⟨dq,osq⟩,hw''⟩:=hw'
    subst hw''
    have B9:Hid (Below w.heap.size w (grow (redrawn wr dq) osq)):=Lib.hid (HQ.out.trans ((below_regrown wr dq osq).mono HQ.out.size))
    generalize grow (redrawn wr dq) osq=wq at B9 ⊢
    go_wp2_with fail
    go_ret
    exact⟨rfl,B9.out⟩
   case pos=>
   subst he2
   have HE2:=Lib.hid (HST.out ⟨rfl,rfl⟩)
   clear HST HE
   go_wp2_with fail
   refine wp_region_quiet_below mixed (by kernel_rfl) ?_
   repeat (first | go_big_quiet_step (fail) | quiet_step (fail))
   refine wpQuiet_load_mid rfl 47 _ rfl g (o+i*2) rfl [.string ⟨s1.toArray⟩,.string ⟨s2.toArray⟩] _ (fun w' hw'=>by obtain⟨p,rfl⟩:=hw';exact range_below C1.out (below_regrown wr p.d p.os)) Tryz.underlying47 rfl i47 ?_
   repeat (first | go_big_quiet_step (fail) | quiet_step (fail))
   refine wpQuiet_load_mid rfl 47 _ rfl g2 (o2+i*2) rfl [.string ⟨s1.toArray⟩,.string ⟨s2.toArray⟩] _ (fun w' hw'=>by obtain⟨p,rfl⟩:=hw';exact range_below D1.out (below_regrown wr p.d p.os)) Tryz.underlying47 rfl i47 ?_
   repeat (first | go_big_quiet_step (fail) | quiet_step (fail))
   refine wpQuiet_nil ?_
   intro _ hw'
   obtain⟨⟨dq,osq⟩,hw''⟩:=hw'
   subst hw''
   have B9:Hid (Below w.heap.size w (grow (redrawn wr dq) osq)):=Lib.hid (HQ.out.trans ((below_regrown wr dq osq).mono HQ.out.size))
   generalize grow (redrawn wr dq) osq=wq at B9 ⊢
   go_wp2_with fail
   go_roundw
   case rel=>exact⟨i+1,by omega,by go_num,HE2,B9⟩
   case measure=>simp [intOf];omega
  ·exfalso
   have hie:i=m:=by omega
   refine HNE.out (List.ext_getElem (by have:=HM.out;omega) fun j h1 h2=>HE.out j h1 h2 ?_)
   have:=HM.out
   omega
set_option maxHeartbeats 4000000 in
theorem load_none (rows:List (Bs×Bs))(hno:loadN rows=none)(hF:∀p∈rows,p.1.length≤2000000∧p.2.length≤2000000)(hlen:rows.length≤2000000)(w:World)(v:Value)(hv:Rp w v rows)(hT:Tb w)(hM:Mx w)(hE:Er w): Calls Tryz.prog 22 #[v] w fun e w'=>e = .returned (.tuple #[.pointer none,.int .i64 135])∧Below w.heap.size w w':=by
 have HNEW:=Lib.hid (new_nf w)
 have HLAY:=Lib.hid (fun(W:World) f (hf:Nf w W f [] 1)=>lay_some rows hF hlen w W f hf v hv hT hM hE)
 have HROWS:=Lib.hid (fun(W:World) f ns l x (hl:Whole l x) (hn:nodes ns=l) (hf:Nf w W f ns x)=>rows_call hf.fr (by
  have h1:=congrArg List.length hn
  simp only [nodes,List.length_map] at h1
  have:=hl.few
  omega) hl.next.2 (fun n hm=>whole_rowOk hl n (hn▸hm)) (hT.below hf.below))
 have HEQ:=Lib.hid (fun(W:World) u l x (hl:Whole l x) (h1:Rp W u (rowsP l x)) (h2:Rp W v rows)=>pequal_ne (rowsP l x) rows (Ne.symm (loadN_none hno hl)) W u v h1 h2 (by have:=hl.few;simp [rowsP];omega) hlen)
 have HV:=Lib.hid hv
 clear hv hno hT hM hE hF hlen
 unfold kpt at *
 go_enter Tryz.func22,Tryz.ntmps22
 go_wp2_with fail
 refine HNEW.out.mono ?_
 rintro e w2 ⟨f,rfl,h1⟩
 have HF2:=Lib.hid h1
 have HL2:=Lib.hid (HLAY.out w2 f HF2.out)
 clear HNEW h1 HLAY
 go_wp2_with fail
 refine HL2.out.mono ?_
 rintro e w3 (⟨rfl,hb⟩ | ⟨l,x,ns,rfl,hl,h1,h2⟩)
 ·have HB:=Lib.hid hb
  clear HL2 HROWS HEQ hb
  go_wp2_with fail
  go_ret2
  exact⟨rfl,HB.out⟩
 have HN:=Lib.hid h1
 have HF3:=Lib.hid h2
 have HR3:=Lib.hid (HROWS.out w3 f ns l x hl h1 h2)
 have HE3:=Lib.hid (fun W u=>HEQ.out W u l x hl)
 clear h1 h2 HL2 HROWS HF2 HEQ hl
 go_wp2_with fail
 refine HR3.out.mono ?_
 rintro e w4 ⟨u,rfl,h1⟩
 have hrp:Rp w4 u (rowsP l x):=Rp.of (rows:=rowsP l x) (by
  have h2:=h1.1
  rw [HN.out] at h2
  exact h2) (by rw [← HN.out];simp [rowsP,nodes])
 have HF4:=Lib.hid (HF3.out.down h1.2.1)
 have HE4:=Lib.hid (HE3.out w4 u hrp (HV.out.below HF4.out.below))
 clear h1 HR3 hrp HF3 HE3
 go_wp2_with fail
 refine HE4.out.mono ?_
 rintro e w5 ⟨rfl,hb⟩
 have HB5:=Lib.hid (HF4.out.below.trans (hb.mono HF4.out.below.size))
 clear HE4 HF4 hb
 go_wp2_with fail
 go_ret2
 exact⟨rfl,HB5.out⟩
end Go.Proofs.YthogppennalobaaGreatDoor
namespace Go.Proofs.YthogppennalobaaGreatDoor.Pl
open Go.RowKit Go.Sort Forest
theorem k_fa93_0 {Q:Exit→Act→World→Prop}{T:Array Value}{ds:List Deferred}{w:World}{ty:TypeId}{dst:Option Tmp}{s:Nat}{ps af g}{b:Nat}(e:T.getD s undef = .pointer (some ⟨b,0,none⟩)): Oper.wp Tryz.prog ⟨dst,.fieldAddr 93 (.tmp s) 0,ty,ps,af,g⟩ ⟨T,ds⟩ w (fun a' w''=>a'=Act.put ⟨T,ds⟩ dst (.pointer (some ⟨b,0,none⟩))∧w''=w) Q:=by
 go_simp
theorem k_fa93_1 {Q:Exit→Act→World→Prop}{T:Array Value}{ds:List Deferred}{w:World}{ty:TypeId}{dst:Option Tmp}{s:Nat}{ps af g}{b:Nat}(e:T.getD s undef = .pointer (some ⟨b,0,none⟩)): Oper.wp Tryz.prog ⟨dst,.fieldAddr 93 (.tmp s) 1,ty,ps,af,g⟩ ⟨T,ds⟩ w (fun a' w''=>a'=Act.put ⟨T,ds⟩ dst (.pointer (some ⟨b,1,none⟩))∧w''=w) Q:=by
 go_simp
noncomputable def ndLO:Array Oper:=(Tryz.f61.body.bind fun c=>findR c 22).getD #[]
def ndL_m:List (List Nat):=[[],[],[],[],[],[],[],[],[],[],[],[],[],[],[],[],[],[],[],[18]]
set_option maxHeartbeats 16000000 in
theorem ndL (PW:Bool→World→Prop)(g r gz:Nat)(cs:Array Value)(a2:Option Addr)(c2:Nat)(w:World)  (hl1:∀(b18:Bool) (w:World),PW b18  w→w.cell? ⟨g,1,none⟩=some (.bool true))(cl18:∀(w:World),PW false w→Bk 31 w gz zeroN∧PW true  (w.setRow gz cs))(lk:∀(b18:Bool) (w:World),PW b18 w→Bk 31 w r cs)(hcs:cs.size=15)(hall:cs.all (·.oneCell')=true){t0 t1 t3 t4 t5 t6 t7 t10 t11 t12 t13 t14 t15 t16 t17 t18 t19 t20 t21 t22 t23 t24 t25 t26 t27 t28 t29 t30 t31 t32 t33 t34 t35 t36 t37 t38 t39 t40 t41 t42 t43 t44 t45 t46 t47 t48 t49 t50 t51 t52 t53 t54 t55 t56 t57 t58 t59 t60 t61 t62 t63 t64 t65 t66 t67 t68 t69 t70 t71 t72 t73 t74 t75 t76 t77 t78 t79 t80 t81 t82 t83 t84 t85 t86 t87 t88 t89 t90 t91 t92 t93 t94 t95 t96 t97 t98 t99 t100 t101 t102 t103 t104:Value}(w0:PW false  w.drew){ds:List Deferred}{Q:Exit→Act→World→Prop}
  (h:∀(w1:World),PW true  w1→Q .normal {tmps:=#[t0,t1,.pointer (some ⟨gz,0,none⟩),.bool false,t4,t5,t6,t7,.pointer (some ⟨g,0,none⟩),.pointer (some ⟨r,0,none⟩),t10,t11,t12,t13,t14,t15,t16,t17,t18,t19,t20,t21,t22,t23,t24,t25,t26,t27,t28,t29,t30,t31,t32,t33,t34,t35,t36,t37,t38,t39,t40,t41,t42,t43,t44,t45,t46,t47,t48,t49,t50,t51,t52,t53,t54,t55,t56,t57,t58,t59,t60,t61,t62,t63,t64,t65,t66,t67,t68,t69,t70,t71,t72,t73,t74,t75,t76,t77,t78,t79,t80,t81,t82,t83,t84,t85,t86,.agg cs,.pointer (some ⟨g,0,none⟩),.pointer (some ⟨g,0,none⟩),.pointer (some ⟨g,1,none⟩),.bool true,.bool false,.bool false,undef,undef,undef,undef,undef,undef,.bool false,.bool false,undef,undef,.bool false],defers:=ds} w1) :
  (Code.region 22 ndLO true).wp Tryz.prog Q {tmps:=#[t0,t1,.pointer (some ⟨gz,0,none⟩),t3,t4,t5,t6,t7,.pointer (some ⟨g,0,none⟩),.pointer (some ⟨r,0,none⟩),t10,t11,t12,t13,t14,t15,t16,t17,t18,t19,t20,t21,t22,t23,t24,t25,t26,t27,t28,t29,t30,t31,t32,t33,t34,t35,t36,t37,t38,t39,t40,t41,t42,t43,t44,t45,t46,t47,t48,t49,t50,t51,t52,t53,t54,t55,t56,t57,t58,t59,t60,t61,t62,t63,t64,t65,t66,t67,t68,t69,t70,t71,t72,t73,t74,t75,t76,t77,t78,t79,t80,t81,t82,t83,t84,t85,t86,t87,t88,t89,t90,t91,t92,t93,t94,t95,t96,t97,t98,t99,t100,t101,t102,t103,t104],defers:=ds} w:=by
 have hsz:ndLO.size=20:=by kernel_rfl
 generalize hT:List.toArray _=T0
 have hs:T0.size=105:=by subst hT;rfl
 have g2:T0.getD 2 undef = .pointer (some ⟨gz,0,none⟩):=by subst hT;rfl
 have g8:T0.getD 8 undef = .pointer (some ⟨g,0,none⟩):=by subst hT;rfl
 have g9:T0.getD 9 undef = .pointer (some ⟨r,0,none⟩):=by subst hT;rfl
 obtain⟨W,hV⟩:∃W:List ((Nat×(Value→Value)) ⊕ Value),W=[.inr (.agg cs),.inr (.pointer (some ⟨g,0,none⟩)),.inr (.pointer (some ⟨g,0,none⟩)),.inr (.pointer (some ⟨g,1,none⟩)),.inr (.bool true),.inr (.bool false),.inr (.bool false),.inr undef,.inr undef,.inr undef,.inr undef,.inr undef,.inr undef,.inr (.bool false),.inr (.bool false),.inr undef,.inr undef,.inr (.bool false),.inr undef,.inr (.bool false)]:=⟨_,rfl⟩
 refine wp_plan (by kernel_rfl) T0 ds [18] ndL_m (mkV W) (fun dx yx wx=>PW (dx 18)  wx) w (by rw [hs];kernel_rfl) (by kernel_rfl) (by kernel_rfl) (by rw [hsz];decide) (fun cx hc ix hne ha yx vx=>mkV_fix (by rw [hV];kernel_rfl) hne ha yx vx) (?key) (fun cx hc ox ho dx yx Tx wx hd hdb hda hK hW=>?_) ⟨fun k=>undef,w0⟩ (fun dx yx wx hd hW=>?_)
 case key=>
  rw [hsz]
  refine all_step (all_step (all_step (all_step (all_step (all_step (all_step (all_step (all_step (all_step (all_step (all_step (all_step (all_step (all_step (all_step (all_step (all_step (all_step (all_step all_zero ?_) ?_) ?_) ?_) ?_) ?_) ?_) ?_) ?_) ?_) ?_) ?_) ?_) ?_) ?_) ?_) ?_) ?_) ?_) ?_
  all_goals
   intro ox ho hic dx yx Tx wx hdb hK hW
   replace hdb:=Lib.hid hdb
  ·obtain⟨ps,af,rfl⟩:=core (some 87) (.load 31 (.tmp 9)) 31 none ho (by kernel_rfl)
   have e9:Tx.getD 9 undef = .pointer (some ⟨r,0,none⟩):=hK.of (by kernel_rfl) g9
   have hl:=lk _ _ hW
   exact wpOp_plain ho rfl (wp_load_row 31 _ rfl r (by first | exact e9 | rfl) 31 _ (0,0) _ hl Tryz.underlying31 rfl (by rw [hcs];exact i31) ⟨by subst hV;rfl,rfl⟩)
  ·exact pl0 88 8 91 ho hK (by kernel_rfl) (by kernel_rfl) g8 (by subst hV;rfl) fun ps af e=>k_mv e
  ·exact pl1 89 88 1 0 ho hK (by kernel_rfl) (by kernel_rfl) (by subst hV;rfl) (by subst hV;rfl) fun ps af e=>k_nc e
  ·exact pl1 90 89 2 0 ho hK (by kernel_rfl) (by kernel_rfl) (by subst hV;rfl) (by subst hV;rfl) fun ps af e=>k_fa93_1 e
  ·exact pl1 91 90 3 4 ho hK (by kernel_rfl) (by kernel_rfl) (by subst hV;rfl) (by subst hV;rfl) fun ps af e=>k_ld4 (hl1 _ _ hW) e
  ·obtain⟨ps,af,rfl⟩:=core (some 92) (.unOp UnOp.not 4 (.tmp 91)) 4 none ho (by kernel_rfl)
   have e91:Tx.getD 91 undef = .bool true:=hK.is 4 ho (by kernel_rfl) (by subst hV;rfl)
   exact wpOp_plain ho rfl (by subst hV;go_simp;try rfl)
  ·exact pl1 93 92 5 4 ho hK (by kernel_rfl) (by kernel_rfl) (by subst hV;rfl) (by subst hV;rfl) fun ps af e=>k_mv e
  ·exact psk 6 93 false true ho hK (by kernel_rfl) (by kernel_rfl) (by kernel_rfl) (by subst hV;rfl) rfl (by subst hV;rfl)
  ·exact psk 6 93 false true ho hK (by kernel_rfl) (by kernel_rfl) (by kernel_rfl) (by subst hV;rfl) rfl (by subst hV;rfl)
  ·exact psk 6 93 false true ho hK (by kernel_rfl) (by kernel_rfl) (by kernel_rfl) (by subst hV;rfl) rfl (by subst hV;rfl)
  ·exact psk 6 93 false true ho hK (by kernel_rfl) (by kernel_rfl) (by kernel_rfl) (by subst hV;rfl) rfl (by subst hV;rfl)
  ·exact psk 6 93 false true ho hK (by kernel_rfl) (by kernel_rfl) (by kernel_rfl) (by subst hV;rfl) rfl (by subst hV;rfl)
  ·exact psk 6 93 false true ho hK (by kernel_rfl) (by kernel_rfl) (by kernel_rfl) (by subst hV;rfl) rfl (by subst hV;rfl)
  ·obtain⟨ps,af,rfl⟩:=core (some 100) (.pick (.tmp 93) (.tmp 99) (.const (Value.bool false))) 4 none ho (by kernel_rfl)
   have e93:Tx.getD 93 undef = .bool false:=hK.is 6 ho (by kernel_rfl) (by subst hV;rfl)
   have e99:Tx.getD 99 undef=undef:=hK.is 12 ho (by kernel_rfl) (by subst hV;rfl)
   exact wpOp_plain ho rfl (by subst hV;go_simp;try rfl)
  ·exact pl1 101 100 13 4 ho hK (by kernel_rfl) (by kernel_rfl) (by subst hV;rfl) (by subst hV;rfl) fun ps af e=>k_mv e
  ·exact psk 14 101 false true ho hK (by kernel_rfl) (by kernel_rfl) (by kernel_rfl) (by subst hV;rfl) rfl (by subst hV;rfl)
  ·exact psk 14 101 false true ho hK (by kernel_rfl) (by kernel_rfl) (by kernel_rfl) (by subst hV;rfl) rfl (by subst hV;rfl)
  ·obtain⟨ps,af,rfl⟩:=core (some 104) (.pick (.tmp 101) (.tmp 103) (.const (Value.bool false))) 4 none ho (by kernel_rfl)
   have e101:Tx.getD 101 undef = .bool false:=hK.is 14 ho (by kernel_rfl) (by subst hV;rfl)
   have e103:Tx.getD 103 undef=undef:=hK.is 16 ho (by kernel_rfl) (by subst hV;rfl)
   exact wpOp_plain ho rfl (by subst hV;go_simp;try rfl)
  ·exact absurd (by decide) hic
  ·exact pl1 3 104 17 4 ho hK (by kernel_rfl) (by kernel_rfl) (by subst hV;rfl) (by subst hV;rfl) fun ps af e=>k_as e
 ·obtain rfl:cx=18:=by simpa using hc
  ·obtain⟨ps,af,rfl⟩:=core none (.store 31 (.tmp 2) (.tmp 87)) 0 none ho (by kernel_rfl)
   have e2:Tx.getD 2 undef = .pointer (some ⟨gz,0,none⟩):=hK.of (by kernel_rfl) g2
   have e87:Tx.getD 87 undef = .agg cs:=hK.is 0 ho (by kernel_rfl) (by subst hV;rfl)
   have hW1:PW (dx 18)  wx:=hW
   clear hdb hda
   rw [hd] at hW1
   clear hd hW hc
   obtain⟨hbk,hW2⟩:=cl18 _ hW1
   subst hV
   refine wpOp_plain ho rfl (wp_store_row 31 _ _ rfl gz cs (by first | exact g2 | exact e2 | rfl) (by first | exact e87 | rfl) 31 zeroN hbk (by rw [hcs];exact i31) (by rw [hcs];rfl) hall ?_)
   first | refine⟨undef,rfl,?_⟩ | refine⟨⟨undef,rfl⟩,?_⟩ | skip
   simpa [updB,upd] using hW2
 ·have hW1:PW (dx 18)  wx:=hW
  rw [hd 18 (by decide)] at hW1
  have hQ:=h _ hW1
  rw [hsz]
  subst hV hT
  refine cast (congrArg (fun Tx=>Q .normal ⟨Tx,ds⟩ wx) ?_) hQ
  kernel_rfl
noncomputable def ndNO:Array Oper:=(Tryz.f61.body.bind fun c=>findR c 22).getD #[]
def ndN_m:List (List Nat):=[[],[],[],[],[],[],[],[],[],[],[],[],[],[],[],[],[],[],[],[18]]
set_option maxHeartbeats 16000000 in
theorem ndN (PW:Bool→World→Prop)(g r gz:Nat)(cs:Array Value)(a2:Option Addr)(c2:Nat)(zn:Nat)(w:World)  (hl1:∀(b18:Bool) (w:World),PW b18  w→w.cell? ⟨g,1,none⟩=some (.bool false))(hl0:∀(b18:Bool) (w:World),PW b18  w→w.cell? ⟨g,0,none⟩=some (.slice a2 (zn+1) c2))(cl18:∀(w:World),PW false w→Bk 31 w gz zeroN∧PW true  (w.setRow gz cs))(lk:∀(b18:Bool) (w:World),PW b18 w→Bk 31 w r cs)(hcs:cs.size=15)(hall:cs.all (·.oneCell')=true)(hnz:(((zn:Int)+1 == 0)=false)){t0 t1 t3 t4 t5 t6 t7 t10 t11 t12 t13 t14 t15 t16 t17 t18 t19 t20 t21 t22 t23 t24 t25 t26 t27 t28 t29 t30 t31 t32 t33 t34 t35 t36 t37 t38 t39 t40 t41 t42 t43 t44 t45 t46 t47 t48 t49 t50 t51 t52 t53 t54 t55 t56 t57 t58 t59 t60 t61 t62 t63 t64 t65 t66 t67 t68 t69 t70 t71 t72 t73 t74 t75 t76 t77 t78 t79 t80 t81 t82 t83 t84 t85 t86 t87 t88 t89 t90 t91 t92 t93 t94 t95 t96 t97 t98 t99 t100 t101 t102 t103 t104:Value}(w0:PW false  w.drew){ds:List Deferred}{Q:Exit→Act→World→Prop}
  (h:∀(w1:World),PW true  w1→Q .normal {tmps:=#[t0,t1,.pointer (some ⟨gz,0,none⟩),.bool false,t4,t5,t6,t7,.pointer (some ⟨g,0,none⟩),.pointer (some ⟨r,0,none⟩),t10,t11,t12,t13,t14,t15,t16,t17,t18,t19,t20,t21,t22,t23,t24,t25,t26,t27,t28,t29,t30,t31,t32,t33,t34,t35,t36,t37,t38,t39,t40,t41,t42,t43,t44,t45,t46,t47,t48,t49,t50,t51,t52,t53,t54,t55,t56,t57,t58,t59,t60,t61,t62,t63,t64,t65,t66,t67,t68,t69,t70,t71,t72,t73,t74,t75,t76,t77,t78,t79,t80,t81,t82,t83,t84,t85,t86,.agg cs,.pointer (some ⟨g,0,none⟩),.pointer (some ⟨g,0,none⟩),.pointer (some ⟨g,1,none⟩),.bool false,.bool true,.bool true,.pointer (some ⟨g,0,none⟩),.pointer (some ⟨g,0,none⟩),.pointer (some ⟨g,0,none⟩),.slice a2 (zn+1) c2,.int .i64 (((zn+1:Nat):Int)),.bool false,.bool false,.bool false,undef,undef,.bool false],defers:=ds} w1) :
  (Code.region 22 ndNO true).wp Tryz.prog Q {tmps:=#[t0,t1,.pointer (some ⟨gz,0,none⟩),t3,t4,t5,t6,t7,.pointer (some ⟨g,0,none⟩),.pointer (some ⟨r,0,none⟩),t10,t11,t12,t13,t14,t15,t16,t17,t18,t19,t20,t21,t22,t23,t24,t25,t26,t27,t28,t29,t30,t31,t32,t33,t34,t35,t36,t37,t38,t39,t40,t41,t42,t43,t44,t45,t46,t47,t48,t49,t50,t51,t52,t53,t54,t55,t56,t57,t58,t59,t60,t61,t62,t63,t64,t65,t66,t67,t68,t69,t70,t71,t72,t73,t74,t75,t76,t77,t78,t79,t80,t81,t82,t83,t84,t85,t86,t87,t88,t89,t90,t91,t92,t93,t94,t95,t96,t97,t98,t99,t100,t101,t102,t103,t104],defers:=ds} w:=by
 have hsz:ndNO.size=20:=by kernel_rfl
 generalize hT:List.toArray _=T0
 have hs:T0.size=105:=by subst hT;rfl
 have g2:T0.getD 2 undef = .pointer (some ⟨gz,0,none⟩):=by subst hT;rfl
 have g8:T0.getD 8 undef = .pointer (some ⟨g,0,none⟩):=by subst hT;rfl
 have g9:T0.getD 9 undef = .pointer (some ⟨r,0,none⟩):=by subst hT;rfl
 obtain⟨W,hV⟩:∃W:List ((Nat×(Value→Value)) ⊕ Value),W=[.inr (.agg cs),.inr (.pointer (some ⟨g,0,none⟩)),.inr (.pointer (some ⟨g,0,none⟩)),.inr (.pointer (some ⟨g,1,none⟩)),.inr (.bool false),.inr (.bool true),.inr (.bool true),.inr (.pointer (some ⟨g,0,none⟩)),.inr (.pointer (some ⟨g,0,none⟩)),.inr (.pointer (some ⟨g,0,none⟩)),.inr (.slice a2 (zn+1) c2),.inr (.int .i64 (((zn+1:Nat):Int))),.inr (.bool false),.inr (.bool false),.inr (.bool false),.inr undef,.inr undef,.inr (.bool false),.inr undef,.inr (.bool false)]:=⟨_,rfl⟩
 refine wp_plan (by kernel_rfl) T0 ds [18] ndN_m (mkV W) (fun dx yx wx=>PW (dx 18)  wx) w (by rw [hs];kernel_rfl) (by kernel_rfl) (by kernel_rfl) (by rw [hsz];decide) (fun cx hc ix hne ha yx vx=>mkV_fix (by rw [hV];kernel_rfl) hne ha yx vx) (?key) (fun cx hc ox ho dx yx Tx wx hd hdb hda hK hW=>?_) ⟨fun k=>undef,w0⟩ (fun dx yx wx hd hW=>?_)
 case key=>
  rw [hsz]
  refine all_step (all_step (all_step (all_step (all_step (all_step (all_step (all_step (all_step (all_step (all_step (all_step (all_step (all_step (all_step (all_step (all_step (all_step (all_step (all_step all_zero ?_) ?_) ?_) ?_) ?_) ?_) ?_) ?_) ?_) ?_) ?_) ?_) ?_) ?_) ?_) ?_) ?_) ?_) ?_) ?_
  all_goals
   intro ox ho hic dx yx Tx wx hdb hK hW
   replace hdb:=Lib.hid hdb
  ·obtain⟨ps,af,rfl⟩:=core (some 87) (.load 31 (.tmp 9)) 31 none ho (by kernel_rfl)
   have e9:Tx.getD 9 undef = .pointer (some ⟨r,0,none⟩):=hK.of (by kernel_rfl) g9
   have hl:=lk _ _ hW
   exact wpOp_plain ho rfl (wp_load_row 31 _ rfl r (by first | exact e9 | rfl) 31 _ (0,0) _ hl Tryz.underlying31 rfl (by rw [hcs];exact i31) ⟨by subst hV;rfl,rfl⟩)
  ·exact pl0 88 8 91 ho hK (by kernel_rfl) (by kernel_rfl) g8 (by subst hV;rfl) fun ps af e=>k_mv e
  ·exact pl1 89 88 1 0 ho hK (by kernel_rfl) (by kernel_rfl) (by subst hV;rfl) (by subst hV;rfl) fun ps af e=>k_nc e
  ·exact pl1 90 89 2 0 ho hK (by kernel_rfl) (by kernel_rfl) (by subst hV;rfl) (by subst hV;rfl) fun ps af e=>k_fa93_1 e
  ·exact pl1 91 90 3 4 ho hK (by kernel_rfl) (by kernel_rfl) (by subst hV;rfl) (by subst hV;rfl) fun ps af e=>k_ld4 (hl1 _ _ hW) e
  ·obtain⟨ps,af,rfl⟩:=core (some 92) (.unOp UnOp.not 4 (.tmp 91)) 4 none ho (by kernel_rfl)
   have e91:Tx.getD 91 undef = .bool false:=hK.is 4 ho (by kernel_rfl) (by subst hV;rfl)
   exact wpOp_plain ho rfl (by subst hV;go_simp;try rfl)
  ·exact pl1 93 92 5 4 ho hK (by kernel_rfl) (by kernel_rfl) (by subst hV;rfl) (by subst hV;rfl) fun ps af e=>k_mv e
  ·exact pg0 6 93 true 94 8 91 ho hK (by kernel_rfl) (by kernel_rfl) (by kernel_rfl) (by subst hV;rfl) (by kernel_rfl) g8 (by subst hV;rfl) fun ps af e=>k_mv e
  ·exact pg1 6 93 true 95 94 7 0 ho hK (by kernel_rfl) (by kernel_rfl) (by kernel_rfl) (by subst hV;rfl) (by kernel_rfl) (by subst hV;rfl) (by subst hV;rfl) fun ps af e=>k_nc e
  ·exact pg1 6 93 true 96 95 8 0 ho hK (by kernel_rfl) (by kernel_rfl) (by kernel_rfl) (by subst hV;rfl) (by kernel_rfl) (by subst hV;rfl) (by subst hV;rfl) fun ps af e=>k_fa93_0 e
  ·exact pg1 6 93 true 97 96 9 29 ho hK (by kernel_rfl) (by kernel_rfl) (by kernel_rfl) (by subst hV;rfl) (by kernel_rfl) (by subst hV;rfl) (by subst hV;rfl) fun ps af e=>k_ld29 (hl0 _ _ hW) e
  ·obtain⟨ps,af,rfl⟩:=core (some 98) (.call {callee:= .builtin Builtin.len,args:=#[.tmp 97],argTypes:=#[29]}) 3 (some (6,true)) ho (by kernel_rfl)
   have e97:Tx.getD 97 undef = .slice a2 (zn+1) c2:=hK.is 10 ho (by kernel_rfl) (by subst hV;rfl)
   exact wpOp_want ho ((wanted_of (d:=93) (b:=true) rfl (by kernel_rfl) (hK.is 6 ho (by kernel_rfl) (by subst hV;rfl))).trans rfl) (by subst hV;go_simp;try rfl)
  ·obtain⟨ps,af,rfl⟩:=core (some 99) (.binOp BinOp.eql 3 (.tmp 98) (.const (Value.int IntKind.i64 0)) 3) 4 (some (6,true)) ho (by kernel_rfl)
   have e98:Tx.getD 98 undef = .int .i64 (((zn+1:Nat):Int)):=hK.is 11 ho (by kernel_rfl) (by subst hV;rfl)
   exact wpOp_want ho ((wanted_of (d:=93) (b:=true) rfl (by kernel_rfl) (hK.is 6 ho (by kernel_rfl) (by subst hV;rfl))).trans rfl) (by subst hV;go_simp;try rfl)
  ·obtain⟨ps,af,rfl⟩:=core (some 100) (.pick (.tmp 93) (.tmp 99) (.const (Value.bool false))) 4 none ho (by kernel_rfl)
   have e93:Tx.getD 93 undef = .bool true:=hK.is 6 ho (by kernel_rfl) (by subst hV;rfl)
   have e99:Tx.getD 99 undef = .bool false:=hK.is 12 ho (by kernel_rfl) (by subst hV;rfl)
   exact wpOp_plain ho rfl (by subst hV;go_simp;try rfl)
  ·exact pl1 101 100 13 4 ho hK (by kernel_rfl) (by kernel_rfl) (by subst hV;rfl) (by subst hV;rfl) fun ps af e=>k_mv e
  ·exact psk 14 101 false true ho hK (by kernel_rfl) (by kernel_rfl) (by kernel_rfl) (by subst hV;rfl) rfl (by subst hV;rfl)
  ·exact psk 14 101 false true ho hK (by kernel_rfl) (by kernel_rfl) (by kernel_rfl) (by subst hV;rfl) rfl (by subst hV;rfl)
  ·obtain⟨ps,af,rfl⟩:=core (some 104) (.pick (.tmp 101) (.tmp 103) (.const (Value.bool false))) 4 none ho (by kernel_rfl)
   have e101:Tx.getD 101 undef = .bool false:=hK.is 14 ho (by kernel_rfl) (by subst hV;rfl)
   have e103:Tx.getD 103 undef=undef:=hK.is 16 ho (by kernel_rfl) (by subst hV;rfl)
   exact wpOp_plain ho rfl (by subst hV;go_simp;try rfl)
  ·exact absurd (by decide) hic
  ·exact pl1 3 104 17 4 ho hK (by kernel_rfl) (by kernel_rfl) (by subst hV;rfl) (by subst hV;rfl) fun ps af e=>k_as e
 ·obtain rfl:cx=18:=by simpa using hc
  ·obtain⟨ps,af,rfl⟩:=core none (.store 31 (.tmp 2) (.tmp 87)) 0 none ho (by kernel_rfl)
   have e2:Tx.getD 2 undef = .pointer (some ⟨gz,0,none⟩):=hK.of (by kernel_rfl) g2
   have e87:Tx.getD 87 undef = .agg cs:=hK.is 0 ho (by kernel_rfl) (by subst hV;rfl)
   have hW1:PW (dx 18)  wx:=hW
   clear hdb hda
   rw [hd] at hW1
   clear hd hW hc
   obtain⟨hbk,hW2⟩:=cl18 _ hW1
   subst hV
   refine wpOp_plain ho rfl (wp_store_row 31 _ _ rfl gz cs (by first | exact g2 | exact e2 | rfl) (by first | exact e87 | rfl) 31 zeroN hbk (by rw [hcs];exact i31) (by rw [hcs];rfl) hall ?_)
   first | refine⟨undef,rfl,?_⟩ | refine⟨⟨undef,rfl⟩,?_⟩ | skip
   simpa [updB,upd] using hW2
 ·have hW1:PW (dx 18)  wx:=hW
  rw [hd 18 (by decide)] at hW1
  have hQ:=h _ hW1
  rw [hsz]
  subst hV hT
  refine cast (congrArg (fun Tx=>Q .normal ⟨Tx,ds⟩ wx) ?_) hQ
  kernel_rfl
noncomputable def ndMO:Array Oper:=(Tryz.f61.body.bind fun c=>findR c 22).getD #[]
def ndM_m:List (List Nat):=[[],[],[],[],[],[],[],[],[],[],[],[],[],[],[],[],[],[16],[16],[16,18]]
set_option maxHeartbeats 16000000 in
theorem ndM (PW:Bool→Bool→World→Prop)(g r gz:Nat)(cs:Array Value)(a2:Option Addr)(c2:Nat)(mb:Bool)(w:World)  (hl1:∀(b16 b18:Bool) (w:World),PW b16 b18  w→w.cell? ⟨g,1,none⟩=some (.bool false))(hl0:∀(b16 b18:Bool) (w:World),PW b16 b18  w→w.cell? ⟨g,0,none⟩=some (.slice a2 0 c2))(cl16:∀(w:World),PW false false w→Calls Tryz.prog 73 #[.agg cs] w fun e w1=>e = .returned (.bool mb)∧PW true false  w1)(cl18:∀(w:World),PW true false w→Bk 31 w gz zeroN∧PW true true  (w.setRow gz cs))(lk:∀(b16 b18:Bool) (w:World),PW b16 b18 w→Bk 31 w r cs)(hcs:cs.size=15)(hall:cs.all (·.oneCell')=true){t0 t1 t3 t4 t5 t6 t7 t10 t11 t12 t13 t14 t15 t16 t17 t18 t19 t20 t21 t22 t23 t24 t25 t26 t27 t28 t29 t30 t31 t32 t33 t34 t35 t36 t37 t38 t39 t40 t41 t42 t43 t44 t45 t46 t47 t48 t49 t50 t51 t52 t53 t54 t55 t56 t57 t58 t59 t60 t61 t62 t63 t64 t65 t66 t67 t68 t69 t70 t71 t72 t73 t74 t75 t76 t77 t78 t79 t80 t81 t82 t83 t84 t85 t86 t87 t88 t89 t90 t91 t92 t93 t94 t95 t96 t97 t98 t99 t100 t101 t102 t103 t104:Value}(w0:PW false false  w.drew){ds:List Deferred}{Q:Exit→Act→World→Prop}
  (h:∀(w1:World),PW true true  w1→Q .normal {tmps:=#[t0,t1,.pointer (some ⟨gz,0,none⟩),.bool mb,t4,t5,t6,t7,.pointer (some ⟨g,0,none⟩),.pointer (some ⟨r,0,none⟩),t10,t11,t12,t13,t14,t15,t16,t17,t18,t19,t20,t21,t22,t23,t24,t25,t26,t27,t28,t29,t30,t31,t32,t33,t34,t35,t36,t37,t38,t39,t40,t41,t42,t43,t44,t45,t46,t47,t48,t49,t50,t51,t52,t53,t54,t55,t56,t57,t58,t59,t60,t61,t62,t63,t64,t65,t66,t67,t68,t69,t70,t71,t72,t73,t74,t75,t76,t77,t78,t79,t80,t81,t82,t83,t84,t85,t86,.agg cs,.pointer (some ⟨g,0,none⟩),.pointer (some ⟨g,0,none⟩),.pointer (some ⟨g,1,none⟩),.bool false,.bool true,.bool true,.pointer (some ⟨g,0,none⟩),.pointer (some ⟨g,0,none⟩),.pointer (some ⟨g,0,none⟩),.slice a2 0 c2,.int .i64 0,.bool true,.bool true,.bool true,.agg cs,.bool mb,.bool mb],defers:=ds} w1) :
  (Code.region 22 ndMO true).wp Tryz.prog Q {tmps:=#[t0,t1,.pointer (some ⟨gz,0,none⟩),t3,t4,t5,t6,t7,.pointer (some ⟨g,0,none⟩),.pointer (some ⟨r,0,none⟩),t10,t11,t12,t13,t14,t15,t16,t17,t18,t19,t20,t21,t22,t23,t24,t25,t26,t27,t28,t29,t30,t31,t32,t33,t34,t35,t36,t37,t38,t39,t40,t41,t42,t43,t44,t45,t46,t47,t48,t49,t50,t51,t52,t53,t54,t55,t56,t57,t58,t59,t60,t61,t62,t63,t64,t65,t66,t67,t68,t69,t70,t71,t72,t73,t74,t75,t76,t77,t78,t79,t80,t81,t82,t83,t84,t85,t86,t87,t88,t89,t90,t91,t92,t93,t94,t95,t96,t97,t98,t99,t100,t101,t102,t103,t104],defers:=ds} w:=by
 have hsz:ndMO.size=20:=by kernel_rfl
 generalize hT:List.toArray _=T0
 have hs:T0.size=105:=by subst hT;rfl
 have g2:T0.getD 2 undef = .pointer (some ⟨gz,0,none⟩):=by subst hT;rfl
 have g8:T0.getD 8 undef = .pointer (some ⟨g,0,none⟩):=by subst hT;rfl
 have g9:T0.getD 9 undef = .pointer (some ⟨r,0,none⟩):=by subst hT;rfl
 obtain⟨W,hV⟩:∃W:List ((Nat×(Value→Value)) ⊕ Value),W=[.inr (.agg cs),.inr (.pointer (some ⟨g,0,none⟩)),.inr (.pointer (some ⟨g,0,none⟩)),.inr (.pointer (some ⟨g,1,none⟩)),.inr (.bool false),.inr (.bool true),.inr (.bool true),.inr (.pointer (some ⟨g,0,none⟩)),.inr (.pointer (some ⟨g,0,none⟩)),.inr (.pointer (some ⟨g,0,none⟩)),.inr (.slice a2 0 c2),.inr (.int .i64 0),.inr (.bool true),.inr (.bool true),.inr (.bool true),.inr (.agg cs),.inr (.bool mb),.inr (.bool mb),.inr undef,.inr (.bool mb)]:=⟨_,rfl⟩
 refine wp_plan (by kernel_rfl) T0 ds [16,18] ndM_m (mkV W) (fun dx yx wx=>PW (dx 16) (dx 18)  wx) w (by rw [hs];kernel_rfl) (by kernel_rfl) (by kernel_rfl) (by rw [hsz];decide) (fun cx hc ix hne ha yx vx=>mkV_fix (by rw [hV];kernel_rfl) hne ha yx vx) (?key) (fun cx hc ox ho dx yx Tx wx hd hdb hda hK hW=>?_) ⟨fun k=>undef,w0⟩ (fun dx yx wx hd hW=>?_)
 case key=>
  rw [hsz]
  refine all_step (all_step (all_step (all_step (all_step (all_step (all_step (all_step (all_step (all_step (all_step (all_step (all_step (all_step (all_step (all_step (all_step (all_step (all_step (all_step all_zero ?_) ?_) ?_) ?_) ?_) ?_) ?_) ?_) ?_) ?_) ?_) ?_) ?_) ?_) ?_) ?_) ?_) ?_) ?_) ?_
  all_goals
   intro ox ho hic dx yx Tx wx hdb hK hW
   replace hdb:=Lib.hid hdb
  ·obtain⟨ps,af,rfl⟩:=core (some 87) (.load 31 (.tmp 9)) 31 none ho (by kernel_rfl)
   have e9:Tx.getD 9 undef = .pointer (some ⟨r,0,none⟩):=hK.of (by kernel_rfl) g9
   have hl:=lk _ _ _ hW
   exact wpOp_plain ho rfl (wp_load_row 31 _ rfl r (by first | exact e9 | rfl) 31 _ (0,0) _ hl Tryz.underlying31 rfl (by rw [hcs];exact i31) ⟨by subst hV;rfl,rfl⟩)
  ·exact pl0 88 8 91 ho hK (by kernel_rfl) (by kernel_rfl) g8 (by subst hV;rfl) fun ps af e=>k_mv e
  ·exact pl1 89 88 1 0 ho hK (by kernel_rfl) (by kernel_rfl) (by subst hV;rfl) (by subst hV;rfl) fun ps af e=>k_nc e
  ·exact pl1 90 89 2 0 ho hK (by kernel_rfl) (by kernel_rfl) (by subst hV;rfl) (by subst hV;rfl) fun ps af e=>k_fa93_1 e
  ·exact pl1 91 90 3 4 ho hK (by kernel_rfl) (by kernel_rfl) (by subst hV;rfl) (by subst hV;rfl) fun ps af e=>k_ld4 (hl1 _ _ _ hW) e
  ·obtain⟨ps,af,rfl⟩:=core (some 92) (.unOp UnOp.not 4 (.tmp 91)) 4 none ho (by kernel_rfl)
   have e91:Tx.getD 91 undef = .bool false:=hK.is 4 ho (by kernel_rfl) (by subst hV;rfl)
   exact wpOp_plain ho rfl (by subst hV;go_simp;try rfl)
  ·exact pl1 93 92 5 4 ho hK (by kernel_rfl) (by kernel_rfl) (by subst hV;rfl) (by subst hV;rfl) fun ps af e=>k_mv e
  ·exact pg0 6 93 true 94 8 91 ho hK (by kernel_rfl) (by kernel_rfl) (by kernel_rfl) (by subst hV;rfl) (by kernel_rfl) g8 (by subst hV;rfl) fun ps af e=>k_mv e
  ·exact pg1 6 93 true 95 94 7 0 ho hK (by kernel_rfl) (by kernel_rfl) (by kernel_rfl) (by subst hV;rfl) (by kernel_rfl) (by subst hV;rfl) (by subst hV;rfl) fun ps af e=>k_nc e
  ·exact pg1 6 93 true 96 95 8 0 ho hK (by kernel_rfl) (by kernel_rfl) (by kernel_rfl) (by subst hV;rfl) (by kernel_rfl) (by subst hV;rfl) (by subst hV;rfl) fun ps af e=>k_fa93_0 e
  ·exact pg1 6 93 true 97 96 9 29 ho hK (by kernel_rfl) (by kernel_rfl) (by kernel_rfl) (by subst hV;rfl) (by kernel_rfl) (by subst hV;rfl) (by subst hV;rfl) fun ps af e=>k_ld29 (hl0 _ _ _ hW) e
  ·obtain⟨ps,af,rfl⟩:=core (some 98) (.call {callee:= .builtin Builtin.len,args:=#[.tmp 97],argTypes:=#[29]}) 3 (some (6,true)) ho (by kernel_rfl)
   have e97:Tx.getD 97 undef = .slice a2 0 c2:=hK.is 10 ho (by kernel_rfl) (by subst hV;rfl)
   exact wpOp_want ho ((wanted_of (d:=93) (b:=true) rfl (by kernel_rfl) (hK.is 6 ho (by kernel_rfl) (by subst hV;rfl))).trans rfl) (by subst hV;go_simp;try rfl)
  ·obtain⟨ps,af,rfl⟩:=core (some 99) (.binOp BinOp.eql 3 (.tmp 98) (.const (Value.int IntKind.i64 0)) 3) 4 (some (6,true)) ho (by kernel_rfl)
   have e98:Tx.getD 98 undef = .int .i64 0:=hK.is 11 ho (by kernel_rfl) (by subst hV;rfl)
   exact wpOp_want ho ((wanted_of (d:=93) (b:=true) rfl (by kernel_rfl) (hK.is 6 ho (by kernel_rfl) (by subst hV;rfl))).trans rfl) (by subst hV;go_simp;try rfl)
  ·obtain⟨ps,af,rfl⟩:=core (some 100) (.pick (.tmp 93) (.tmp 99) (.const (Value.bool false))) 4 none ho (by kernel_rfl)
   have e93:Tx.getD 93 undef = .bool true:=hK.is 6 ho (by kernel_rfl) (by subst hV;rfl)
   have e99:Tx.getD 99 undef = .bool true:=hK.is 12 ho (by kernel_rfl) (by subst hV;rfl)
   exact wpOp_plain ho rfl (by subst hV;go_simp;try rfl)
  ·exact pl1 101 100 13 4 ho hK (by kernel_rfl) (by kernel_rfl) (by subst hV;rfl) (by subst hV;rfl) fun ps af e=>k_mv e
  ·obtain⟨ps,af,rfl⟩:=core (some 102) (.load 31 (.tmp 9)) 31 (some (14,true)) ho (by kernel_rfl)
   have e9:Tx.getD 9 undef = .pointer (some ⟨r,0,none⟩):=hK.of (by kernel_rfl) g9
   have hl:=lk _ _ _ hW
   exact wpOp_want ho ((wanted_of (d:=101) (b:=true) rfl (by kernel_rfl) (hK.is 14 ho (by kernel_rfl) (by subst hV;rfl))).trans rfl) (wp_load_row 31 _ rfl r (by first | exact e9 | rfl) 31 _ (0,0) _ hl Tryz.underlying31 rfl (by rw [hcs];exact i31) ⟨by subst hV;rfl,rfl⟩)
  ·exact absurd (by decide) hic
  ·obtain⟨ps,af,rfl⟩:=core (some 104) (.pick (.tmp 101) (.tmp 103) (.const (Value.bool false))) 4 none ho (by kernel_rfl)
   have e101:Tx.getD 101 undef = .bool true:=hK.is 14 ho (by kernel_rfl) (by subst hV;rfl)
   have e103:Tx.getD 103 undef = .bool mb:=hK.is 16 ho (by kernel_rfl) (by subst hV;rfl)
   exact wpOp_plain ho rfl (by subst hV;go_simp;try rfl)
  ·exact absurd (by decide) hic
  ·exact pl1 3 104 17 4 ho hK (by kernel_rfl) (by kernel_rfl) (by subst hV;rfl) (by subst hV;rfl) fun ps af e=>k_as e
 ·have hcase:cx=16∨cx=18:=by simpa using hc
  rcases hcase with rfl | rfl
  ·obtain⟨ps,af,rfl⟩:=core (some 103) (.call {callee:= .value (.func 73),args:=#[.tmp 102],argTypes:=#[31]}) 4 (some (14,true)) ho (by kernel_rfl)
   have e102:Tx.getD 102 undef = .agg cs:=hK.is 15 ho (by kernel_rfl) (by subst hV;rfl)
   have hW1:PW (dx 16) (dx 18)  wx:=hW
   have f18:=hda 18 (by decide) (by kernel_rfl)
   clear hdb hda
   rw [hd,f18] at hW1
   replace f18:=Lib.hid f18
   clear hd hW hc
   refine wpOp_want ho ((wanted_of (d:=101) (b:=true) rfl (by kernel_rfl) (hK.is 14 ho (by kernel_rfl) (by subst hV;rfl))).trans rfl) ?_
   go_simp
   go_at_call 73
   refine(cl16 _ hW1).mono ?_
   rintro ex w2 ⟨rfl,hW2⟩
   subst hV
   first | refine⟨undef,rfl,?_⟩ | refine⟨⟨undef,rfl⟩,?_⟩
   simpa [updB,upd,f18.out] using hW2
  ·obtain⟨ps,af,rfl⟩:=core none (.store 31 (.tmp 2) (.tmp 87)) 0 none ho (by kernel_rfl)
   have e2:Tx.getD 2 undef = .pointer (some ⟨gz,0,none⟩):=hK.of (by kernel_rfl) g2
   have e87:Tx.getD 87 undef = .agg cs:=hK.is 0 ho (by kernel_rfl) (by subst hV;rfl)
   have hW1:PW (dx 16) (dx 18)  wx:=hW
   have f16:=hdb 16 (by decide) (by kernel_rfl)
   clear hdb hda
   rw [hd,f16] at hW1
   replace f16:=Lib.hid f16
   clear hd hW hc
   obtain⟨hbk,hW2⟩:=cl18 _ hW1
   subst hV
   refine wpOp_plain ho rfl (wp_store_row 31 _ _ rfl gz cs (by first | exact g2 | exact e2 | rfl) (by first | exact e87 | rfl) 31 zeroN hbk (by rw [hcs];exact i31) (by rw [hcs];rfl) hall ?_)
   first | refine⟨undef,rfl,?_⟩ | refine⟨⟨undef,rfl⟩,?_⟩ | skip
   simpa [updB,upd,f16.out] using hW2
 ·have hW1:PW (dx 16) (dx 18)  wx:=hW
  rw [hd 16 (by decide),hd 18 (by decide)] at hW1
  have hQ:=h _ hW1
  rw [hsz]
  subst hV hT
  refine cast (congrArg (fun Tx=>Q .normal ⟨Tx,ds⟩ wx) ?_) hQ
  kernel_rfl
end Go.Proofs.YthogppennalobaaGreatDoor.Pl
