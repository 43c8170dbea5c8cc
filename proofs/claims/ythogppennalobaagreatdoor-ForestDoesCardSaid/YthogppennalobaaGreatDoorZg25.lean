/- the document: Plant -/
import Derived.Test.YthogppennalobaaGreatDoorZg24
import Derived.Test.YthogppennalobaaGreatDoorZg04
import Derived.Test.YthogppennalobaaGreatDoorZg08
import Derived.Test.YthogppennalobaaGreatDoorZg15
import Derived.Test.YthogppennalobaaGreatDoorZg21
set_option linter.unusedVariables false
set_option linter.unusedSimpArgs false
set_option maxRecDepth 100000
namespace Go.Proofs.YthogppennalobaaGreatDoor
open Go.RowKit Go.Sort Forest OwnR TxO Pl
open Go.Lib renaming hid→Φ
theorem Lw.app2 {t e:TypeId}{z b n:Nat}(hT:RowT t e z b){w0 W:World}{v:Value}{xs:List Value}(ty:TypeId)(h:Lw e z w0 W v n xs)(a:Addr)(m c:Nat)(news:List Value)(hl:news.length=m*z)
  (hn:∀j u,news[j]?=some u→W.cell? (a.add j)=some u) (h1:∀u∈news,u.oneCell'=true) (h63:n+m≤maxLen) (hb:(n+m)*b≤140737488355328) :
  ∃v' w',(Builtin.append_ #[t,t] ty #[v,.slice (some a) m c]).run Tryz.prog W = .ok v' w'∧Lw e z w0 w' v' (n+m) (xs++news)∧W.grownBy w' v.ownBlock∧(v'.ownBlock=v.ownBlock∨∀k,v'.ownBlock=some k→W.heap.size≤k):=by
 obtain⟨x,hi,hx⟩:=hT.i
 obtain⟨i0,hi,hz0,hz1,hz2⟩:=info_parts hi
 obtain⟨v',w',hrun,ho,hgr,hv,_⟩:=app_own W t ty e i0 x z b hT.u hi hz0 hz1 hz2 hx hT.pos v n xs h.1 a m c news hl hn h1 h63 hb
 refine⟨v',w',hrun,⟨ho,h.2.1.grown hgr h.2.1.size h.2.2,fun q hq=>?_⟩,hgr,hv⟩
 rcases hv with e | e
 ·exact h.2.2 q (e▸hq)
 ·exact Nat.le_trans h.2.1.size (e q hq)
structure PlR (w:World)(f:Nat)(rs:List (Nd×Value×Value))(nx:Int)(sl:Value)(b:Nat)(cs:Array Value)(b1 b6 b8 b9 b12:Bool)(y1 y6 y8 y9:Value)(W:World): Prop where
 only:Only [f] w W
 box:Bk 31 W b cs
 obj:Bk 40 W f #[if b12 then y9 else sl,.int .i64 nx]
 below:b12=false→Below w.heap.size w W
 r1:b1=true→b6=false→Lw 31 15 w W y1 0 []
 r6:b6=true→b9=false→Lw 31 15 w W y6 rs.length (rs.flatMap nodeC)
 n8:b8=true→∃q,y8 = .slice (some ⟨q,0,none⟩) 1 1∧w.heap.size≤q∧(b9=false→Bk 31 W q cs)∧(b1=true→b6=false→y1.ownBlock≠some q)∧(b6=true→b9=false→y6.ownBlock≠some q)
 r9:b9=true→W.ownsRow 0 31 15 y9 (rs.length+1) (rs.flatMap nodeC++cs.toList)
theorem Lw.alloc {e:TypeId}{z n:Nat}{w0 W:World}{v:Value}{xs:List Value}(h:Lw e z w0 W v n xs)(o:Obj): Lw e z w0 (W.alloc o) v n xs:=h.down (by go_grown)
theorem Lw.lt {e:TypeId}{z n:Nat}{w0 W:World}{v:Value}{xs:List Value}(h:Lw e z w0 W v n xs){k:Nat}(hk:v.ownBlock=some k): k<W.heap.size:=by
 obtain⟨_,cur,hb⟩:=owns_block h.1 hk
 exact hb.lt
def Kn (w:World)(rs' rs:List (Nd×Value×Value)): Prop:=∀r∈rs',(∃z∈rs,z.2=r.2)∨∀q,r.2.1.ownBlock=some q∨r.2.2.ownBlock=some q→w.heap.size≤q
theorem Nr.only {w w':World}{v:Value}{rs:List (Nd×Value×Value)}{f:Nat}{t:TypeId}{cs:Array Value}(h:Nr w v rs)(ho:Only [f] w w')(hf:Bk t w f cs)(h1:t≠31)(h2:t≠9): Nr w' v rs:=
 ⟨owns_only h.1 ho fun g hg hq=>by rw [List.mem_singleton] at hq;subst hq;exact owns_ne h.1 hf h1 hg,fun r hr=>⟨(h.2 r hr).1.only ho fun g hg hq=>by rw [List.mem_singleton] at hq;subst hq;exact owns_ne (h.2 r hr).1 hf h2 hg,(h.2 r hr).2.only ho fun g hg hq=>by rw [List.mem_singleton] at hq;subst hq;exact owns_ne (h.2 r hr).2 hf h2 hg⟩⟩
section
variable {w:World} {f:Nat} {rs:List (Nd×Value×Value)} {nx:Int} {a:Option Addr} {c b:Nat} {cs:Array Value} (hob:Bk 40 w f #[.slice a rs.length c,.int .i64 nx]) (hn:Nr w (.slice a rs.length c) rs) (hl:rs.length≤1000000) (hbx:Bk 31 w b cs) (h15:cs.size=15) (hone:∀u∈cs.toList,u.oneCell'=true)
include hob hbx in
theorem pl_w0 {t1 t6 t8 t9:Value}: PlR w f rs nx (.slice a rs.length c) b cs false false false false false t1 t6 t8 t9 w.drew:=
 ⟨(Only.refl _ w).drew,hbx.drew,hob.drew,fun _=>(Below.refl _ w).drew,fun h=>(by cases h),fun h=>(by cases h),fun h=>(by cases h),fun h=>(by cases h)⟩
theorem pl_1 (b8:Bool)(y1 y6 y8 y9:Value)(W:World)(h:PlR w f rs nx (.slice a rs.length c) b cs false false b8 false false y1 y6 y8 y9 W): PlR w f rs nx (.slice a rs.length c) b cs true false b8 false false (.slice (some ⟨W.heap.size,0,none⟩) 0 0) y6 y8 y9 (W.alloc (.cells #[] 31)):=by
 have hb:=h.below rfl
 refine⟨h.only.alloc _,h.box.alloc,h.obj.alloc,fun _=>hb.trans (by have:=hb.size;go_grown),fun _ _=>Lw.empty 31 15 hb,fun h=>(by cases h),fun e=>?_,fun h=>(by cases h)⟩
 obtain⟨q,e1,e2,e3,e4,e5⟩:=h.n8 e
 refine⟨q,e1,e2,fun _=>(e3 rfl).alloc,fun _ _ hk=>?_,fun h=>(by cases h)⟩
 have:W.heap.size=q:=by simpa [Value.ownBlock] using hk
 have:=(e3 rfl).lt
 omega
theorem pl_8 (b1 b6:Bool)(y1 y6 y8 y9:Value)(W:World)(h:PlR w f rs nx (.slice a rs.length c) b cs b1 b6 false false false y1 y6 y8 y9 W): PlR w f rs nx (.slice a rs.length c) b cs b1 b6 true false false y1 y6 (.slice (some ⟨W.heap.size,0,none⟩) 1 1) y9 (W.alloc (.cells cs 31)):=by
 have hb:=h.below rfl
 refine⟨h.only.alloc _,h.box.alloc,h.obj.alloc,fun _=>hb.trans (by have:=hb.size;go_grown),fun e1 e2=>(h.r1 e1 e2).alloc _,fun e1 e2=>(h.r6 e1 e2).alloc _,fun _=>⟨_,rfl,hb.size,fun _=>Bk.new rfl,fun e1 e2 hk=>?_,fun e1 e2 hk=>?_⟩,fun h=>(by cases h)⟩
 ·have:=(h.r1 e1 e2).lt hk;omega
 ·have:=(h.r6 e1 e2).lt hk;omega
include hn hl hbx in
theorem pl_6 (b8:Bool)(y1 y6 y8 y9:Value)(W:World)(h:PlR w f rs nx (.slice a rs.length c) b cs true false b8 false false y1 y6 y8 y9 W): ∃v w',(Builtin.append_ #[37,37] 37 #[y1,.slice a rs.length c]).run Tryz.prog W = .ok v w'∧PlR w f rs nx (.slice a rs.length c) b cs true true b8 false false y1 v y8 y9 w':=by
 have hb:=h.below rfl
 have hr:=h.r1 rfl rfl
 have hN:=hn.below hb
 have hend:∀v w',(Builtin.append_ #[37,37] 37 #[y1,.slice a rs.length c]).run Tryz.prog W = .ok v w'→Lw 31 15 w w' v rs.length (rs.flatMap nodeC)→W.grownBy w' y1.ownBlock→(v.ownBlock=y1.ownBlock∨∀k,v.ownBlock=some k→W.heap.size≤k)→∃v w',(Builtin.append_ #[37,37] 37 #[y1,.slice a rs.length c]).run Tryz.prog W = .ok v w'∧PlR w f rs nx (.slice a rs.length c) b cs true true b8 false false y1 v y8 y9 w':=fun v w' hrun hv hg hk=>by
  have hbw:Below w.heap.size w w':=hb.grown hg hb.size hr.2.2
  have hob':Bk 40 w' f #[.slice a rs.length c,.int .i64 nx]:=grown_bk hg h.obj (owns_ne hr.1 h.obj (by decide))
  refine⟨v,w',hrun,h.only.trans (grown_only hg) (fun x hx=>?_),hbx.below hbw,hob',fun _=>hbw,fun _ h=>(by cases h),fun _ _=>hv,fun e=>?_,fun h=>(by cases h)⟩
  ·cases ho:y1.ownBlock with
   |none=>rw [ho] at hx;cases hx
   |some k=>
    rw [ho] at hx
    obtain rfl:=List.mem_singleton.1 hx
    exact .inr (hr.2.2 x ho)
  ·obtain⟨q,e1,e2,e3,e4,e5⟩:=h.n8 e
   have hq:=e3 rfl
   refine⟨q,e1,e2,fun _=>grown_bk hg hq (e4 rfl rfl),fun _ h=>(by cases h),fun _ _ hk2=>?_⟩
   rcases hk with hk | hk
   ·exact e4 rfl rfl (hk▸hk2)
   ·have:=hk q hk2
    have:=hq.lt
    omega
 cases a with
 |none=>
  have h0:rs=[]:=by
   cases rs with
   |nil=>rfl
   |cons r rs=>
    obtain⟨q,c',cur,e0,_⟩:=hN.at (by simp)
    cases e0
  subst h0
  obtain⟨z,hi,hz⟩:=row37.i
  obtain⟨i0,hi,_,hz1,_⟩:=info_parts hi
  refine hend y1 W (run_append_noneC 0 37 37 31 i0 15 row37.u hi y1 0 c [] hr.1) hr (World.grownBy.refl _ _) (.inl rfl)
 |some d=>
  have hcell:∀j u,(rs.flatMap nodeC)[j]?=some u→W.cell? (d.add j)=some u:=fun j u hj=>by
   have h0:0<rs.length:=by
    cases rs with
    |nil=>simp at hj
    |cons r rs=>simp
   obtain⟨q,c',cur,e0,kb,_,_,_,hc⟩:=hN.at h0
   simp only [Value.slice.injEq,Option.some.injEq] at e0
   obtain⟨rfl,_⟩:=e0
   rw [at0]
   exact hc j u hj
  obtain⟨v,w',hrun,hv,hg,hk⟩:=hr.app2 row37 37 d rs.length c (rs.flatMap nodeC) (flat_len rs) hcell (nodes_one hN) (by unfold maxLen;omega) (by omega)
  simp only [Nat.zero_add,List.nil_append] at hv
  exact hend v w' hrun hv hg hk
include hl hbx h15 hone in
theorem pl_9 (y1 y6 y8 y9:Value)(W:World)(h:PlR w f rs nx (.slice a rs.length c) b cs true true true false false y1 y6 y8 y9 W): ∃v w',(Builtin.append_ #[37,37] 37 #[y6,y8]).run Tryz.prog W = .ok v w'∧PlR w f rs nx (.slice a rs.length c) b cs true true true true false y1 y6 y8 v w':=by
 have hb:=h.below rfl
 have hr:=h.r6 rfl rfl
 obtain⟨q,rfl,e2,e3,e4,e5⟩:=h.n8 rfl
 have hq:=e3 rfl
 obtain⟨v,w',hrun,hv,hg,hk⟩:=hr.app2 row37 37 ⟨q,0,none⟩ 1 1 cs.toList (by simp [h15]) (fun j u hj=>by rw [at0,hq.cell];simpa using hj) hone (by unfold maxLen;omega) (by omega)
 have hbw:Below w.heap.size w w':=hb.grown hg hb.size hr.2.2
 have hob':Bk 40 w' f #[.slice a rs.length c,.int .i64 nx]:=grown_bk hg h.obj (owns_ne hr.1 h.obj (by decide))
 refine⟨v,w',hrun,h.only.trans (grown_only hg) (fun x hx=>?_),hbx.below hbw,hob',fun _=>hbw,fun _ h=>(by cases h),fun _ h=>(by cases h),fun _=>⟨q,rfl,e2,fun h=>(by cases h),fun _ h=>(by cases h),fun _ h=>(by cases h)⟩,fun _=>hv.1⟩
 cases ho:y6.ownBlock with
 |none=>rw [ho] at hx;cases hx
 |some k=>
  rw [ho] at hx
  obtain rfl:=List.mem_singleton.1 hx
  exact .inr (hr.2.2 x ho)
include hbx hob in
theorem pl_12 (y1 y6 y8 y9:Value)(W:World)(h:PlR w f rs nx (.slice a rs.length c) b cs true true true true false y1 y6 y8 y9 W): ∃sa sn sc,y9 = .slice sa sn sc∧(∃cv,W.cell? ⟨f,0,none⟩=some cv)∧W.frozen? ⟨f,0,none⟩=false∧PlR w f rs nx (.slice a rs.length c) b cs true true true true true y1 y6 y8 y9 (W.setCell ⟨f,0,none⟩ (.slice sa sn sc)):=by
 have hr:=h.r9 rfl
 have hk:Bk 40 W f #[.slice a rs.length c,.int .i64 nx]:=h.obj
 obtain⟨ya,yc,e⟩:=owns_shape hr
 refine⟨ya,_,yc,e,⟨_,hk.cell 0⟩,hk.fro 0,?_⟩
 rw [← e]
 have hfb:b≠f:=bk_ne hbx hob (by decide)
 obtain⟨q,e1,e2,e3,e4,e5⟩:=h.n8 rfl
 refine⟨h.only.setCell _ (.inl (by simp)) _,h.box.oth hfb,Bk.same (i:=0) (v:=y9) hk,fun h=>(by cases h),fun _ h=>(by cases h),fun _ h=>(by cases h),fun _=>⟨q,e1,e2,fun h=>(by cases h),fun _ h=>(by cases h),fun _ h=>(by cases h)⟩,fun _=>?_⟩
 exact owns_of hr fun z hz _=>heap_setCell_other W _ z y9 (fun e=>owns_ne hr hk (by decide) (by rw [hz];exact congrArg some e))
end
noncomputable def pl6rO:Array Oper:=(Tryz.f33.body.bind fun c=>findR c 6).getD #[]
def pl6rV (f g:Nat)(p r:Int)(b2 b8 b13 b14 b15:Bool): List Value:=[.pointer (some ⟨g,2,none⟩),.int .i64 p,.bool b2,.bool b2,gv (true&&(b2 == true)) (.pointer (some ⟨f,0,none⟩)),gv (true&&(b2 == true)) (.pointer (some ⟨g,2,none⟩)),gv (true&&(b2 == true)) (.int .i64 p),gv (true&&(b2 == true)) (.int .i64 r),gv (true&&(b2 == true)) (.bool b8),gv (true&&(b2 == true)) (.bool b8),gv ((true&&(b2 == true))&&(b8 == false)) (.pointer (some ⟨f,0,none⟩)),gv ((true&&(b2 == true))&&(b8 == false)) (.pointer (some ⟨g,2,none⟩)),gv ((true&&(b2 == true))&&(b8 == false)) (.int .i64 p),gv ((true&&(b2 == true))&&(b8 == false)) (.bool b13),gv (true&&(b2 == true)) (.bool b14),.bool b15]
set_option maxHeartbeats 4000000 in
theorem pl6r {f g:Nat}{p r:Int}  {W:World→Prop}{b2 b8 b13 b14 b15:Bool}(hb2:b2=decide (0<p))(hb8:b8=decide (r<0))(hb14:b14=(b8||b13))(hb15:b15=(b2&&b14))(k2:∀w',W w'→w'.cell? ⟨g,2,none⟩=some (.int .i64 p))(cl13:b8=false→∀w',W w'→Calls Tryz.prog 75 #[.pointer (some ⟨f,0,none⟩),.int .i64 p] w' fun e w''=>e = .returned (.bool b13)∧W w'')(cl7:∀w',W w'→Calls Tryz.prog 74 #[.pointer (some ⟨f,0,none⟩),.int .i64 p] w' fun e w''=>e = .returned (.int .i64 r)∧W w''){t1 t2 t3 t5 t6 t7 t8 t9 t10 t11 t12 t13 t14 t15 t16 t17 t18 t19 t20 t21 t22 t23 t24 t25 t26 t27 t28 t29 t30 t31 t32 t33 t34 t35 t36 t37 t38 t39 t40 t41 t42 t43 t44 t45 t46 t47 t48 t49 t50 t51 t52 t53 t54 t55 t56 t57 t58 t59 t60 t61 t62 t63 t64 t65 t66 t67 t68 t69 t70 t71 t72 t73 t74 t75 t76 t77 t78 t79 t80 t81 t82 t83 t84 t85 t86 t87 t88 t89 t90:Value}{ds:List Deferred}{Q:Exit→Act→World→Prop}{w:World}(h0:W w)
  (h:∀(z21 z22 z23 z24 z25 z26 z27 z28 z29 z30 z31 z32 z33 z34 z35:Value) (w1:World),W w1→Q .normal {tmps:=#[.pointer (some ⟨f,0,none⟩),t1,t2,t3,.pointer (some ⟨g,0,none⟩),t5,t6,t7,t8,t9,t10,t11,t12,t13,t14,t15,t16,t17,t18,t19,t20,z21,z22,z23,z24,z25,z26,z27,z28,z29,z30,z31,z32,z33,z34,z35,.bool b15,t37,t38,t39,t40,t41,t42,t43,t44,t45,t46,t47,t48,t49,t50,t51,t52,t53,t54,t55,t56,t57,t58,t59,t60,t61,t62,t63,t64,t65,t66,t67,t68,t69,t70,t71,t72,t73,t74,t75,t76,t77,t78,t79,t80,t81,t82,t83,t84,t85,t86,t87,t88,t89,t90],defers:=ds} w1) :
  (Code.region 6 pl6rO false).wp Tryz.prog Q {tmps:=#[.pointer (some ⟨f,0,none⟩),t1,t2,t3,.pointer (some ⟨g,0,none⟩),t5,t6,t7,t8,t9,t10,t11,t12,t13,t14,t15,t16,t17,t18,t19,t20,t21,t22,t23,t24,t25,t26,t27,t28,t29,t30,t31,t32,t33,t34,t35,t36,t37,t38,t39,t40,t41,t42,t43,t44,t45,t46,t47,t48,t49,t50,t51,t52,t53,t54,t55,t56,t57,t58,t59,t60,t61,t62,t63,t64,t65,t66,t67,t68,t69,t70,t71,t72,t73,t74,t75,t76,t77,t78,t79,t80,t81,t82,t83,t84,t85,t86,t87,t88,t89,t90],defers:=ds} w:=by
 have hsz:pl6rO.size=16:=by kernel_rfl
 generalize hT0:List.toArray _=T0
 have hs:T0.size=91:=by subst hT0;rfl
 have g0:T0.getD 0 undef = .pointer (some ⟨f,0,none⟩):=by subst hT0;rfl
 have g4:T0.getD 4 undef = .pointer (some ⟨g,0,none⟩):=by subst hT0;rfl
 refine seq_plan T0 ds (lv (pl6rV f g p r b2 b8 b13 b14 b15)) W w (by rw [hs];kernel_rfl) ?_ h0 ?_
 ·rw [hsz]
  refine all_step (all_step (all_step (all_step (all_step (all_step (all_step (all_step (all_step (all_step (all_step (all_step (all_step (all_step (all_step (all_step all_zero ?_) ?_) ?_) ?_) ?_) ?_) ?_) ?_) ?_) ?_) ?_) ?_) ?_) ?_) ?_) ?_
  all_goals
   intro o ho T w hK hW
  ·refine sq (x:= .pointer (some ⟨g,2,none⟩)) (some 21) (.fieldAddr 31 (.tmp 4) 2) 0 ho ?_
   intro ps af
   have e4:T.getD 4 undef = .pointer (some ⟨g,0,none⟩):=hK.old (by kernel_rfl) g4
   exact j_fa31_2 e4 ⟨rfl,hW⟩
  ·refine sq (x:= .int .i64 p) (some 22) (.load 3 (.tmp 21)) 3 ho ?_
   intro ps af
   have e21:T.getD 21 undef = .pointer (some ⟨g,2,none⟩):=hK.at 0
   exact j_ld3 (k2 _ hW) e21 ⟨rfl,hW⟩
  ·refine sq (x:= .bool b2) (some 23) (.binOp BinOp.gtr 3 (.tmp 22) (.const (Value.int IntKind.i64 0)) 3) 4 ho ?_
   intro ps af
   have e22:T.getD 22 undef = .int .i64 p:=hK.at 1
   exact j_gtr e22 hb2 ⟨rfl,hW⟩
  ·refine sq (x:= .bool b2) (some 24) (.move (.tmp 23)) 4 ho ?_
   intro ps af
   have e23:T.getD 23 undef = .bool b2:=hK.at 2
   exact j_mv e23 ⟨rfl,hW⟩
  ·have hT:T.getD 24 undef=gv true (.bool b2):=hK.at 3
   refine sg (x:= .pointer (some ⟨f,0,none⟩)) 3 24 true (some 25) (.move (.tmp 0)) 26 ho hT hW ?_
   intro hg he ps af
   subst he
   have e0:T.getD 0 undef = .pointer (some ⟨f,0,none⟩):=hK.old (by kernel_rfl) g0
   exact j_mv e0 ⟨rfl,hW⟩
  ·have hT:T.getD 24 undef=gv true (.bool b2):=hK.at 3
   refine sg (x:= .pointer (some ⟨g,2,none⟩)) 3 24 true (some 26) (.fieldAddr 31 (.tmp 4) 2) 0 ho hT hW ?_
   intro hg he ps af
   subst he
   have e4:T.getD 4 undef = .pointer (some ⟨g,0,none⟩):=hK.old (by kernel_rfl) g4
   exact j_fa31_2 e4 ⟨rfl,hW⟩
  ·have hT:T.getD 24 undef=gv true (.bool b2):=hK.at 3
   refine sg (x:= .int .i64 p) 3 24 true (some 27) (.load 3 (.tmp 26)) 3 ho hT hW ?_
   intro hg he ps af
   subst he
   have e26:T.getD 26 undef = .pointer (some ⟨g,2,none⟩):=hK.at 5
   exact j_ld3 (k2 _ hW) e26 ⟨rfl,hW⟩
  ·have hT:T.getD 24 undef=gv true (.bool b2):=hK.at 3
   refine sg (x:= .int .i64 r) 3 24 true (some 28) (.call {callee:= .value (.func 74),args:=#[.tmp 25,.tmp 27],argTypes:=#[26,3]}) 3 ho hT hW ?_
   intro hg he ps af
   subst he
   have e25:T.getD 25 undef = .pointer (some ⟨f,0,none⟩):=hK.at 4
   have e27:T.getD 27 undef = .int .i64 p:=hK.at 6
   have hcl:=cl7 _ hW
   go_simp
   go_at_call 74
   refine hcl.mono ?_
   rintro ex w2 ⟨rfl,hW2⟩
   exact⟨rfl,hW2⟩
  ·have hT:T.getD 24 undef=gv true (.bool b2):=hK.at 3
   refine sg (x:= .bool b8) 3 24 true (some 29) (.binOp BinOp.lss 3 (.tmp 28) (.const (Value.int IntKind.i64 0)) 3) 4 ho hT hW ?_
   intro hg he ps af
   subst he
   have e28:T.getD 28 undef = .int .i64 r:=hK.at 7
   exact j_lss e28 hb8 ⟨rfl,hW⟩
  ·have hT:T.getD 24 undef=gv true (.bool b2):=hK.at 3
   refine sg (x:= .bool b8) 3 24 true (some 30) (.move (.tmp 29)) 4 ho hT hW ?_
   intro hg he ps af
   subst he
   have e29:T.getD 29 undef = .bool b8:=hK.at 8
   exact j_mv e29 ⟨rfl,hW⟩
  ·have hT:T.getD 30 undef=gv (true&&(b2 == true)) (.bool b8):=hK.at 9
   refine sg (x:= .pointer (some ⟨f,0,none⟩)) 9 30 false (some 31) (.move (.tmp 0)) 26 ho hT hW ?_
   intro hg he ps af
   obtain rfl:b2=true:=by simpa using hg
   subst he
   have e0:T.getD 0 undef = .pointer (some ⟨f,0,none⟩):=hK.old (by kernel_rfl) g0
   exact j_mv e0 ⟨rfl,hW⟩
  ·have hT:T.getD 30 undef=gv (true&&(b2 == true)) (.bool b8):=hK.at 9
   refine sg (x:= .pointer (some ⟨g,2,none⟩)) 9 30 false (some 32) (.fieldAddr 31 (.tmp 4) 2) 0 ho hT hW ?_
   intro hg he ps af
   obtain rfl:b2=true:=by simpa using hg
   subst he
   have e4:T.getD 4 undef = .pointer (some ⟨g,0,none⟩):=hK.old (by kernel_rfl) g4
   exact j_fa31_2 e4 ⟨rfl,hW⟩
  ·have hT:T.getD 30 undef=gv (true&&(b2 == true)) (.bool b8):=hK.at 9
   refine sg (x:= .int .i64 p) 9 30 false (some 33) (.load 3 (.tmp 32)) 3 ho hT hW ?_
   intro hg he ps af
   obtain rfl:b2=true:=by simpa using hg
   subst he
   have e32:T.getD 32 undef = .pointer (some ⟨g,2,none⟩):=hK.at 11
   exact j_ld3 (k2 _ hW) e32 ⟨rfl,hW⟩
  ·have hT:T.getD 30 undef=gv (true&&(b2 == true)) (.bool b8):=hK.at 9
   refine sg (x:= .bool b13) 9 30 false (some 34) (.call {callee:= .value (.func 75),args:=#[.tmp 31,.tmp 33],argTypes:=#[26,3]}) 4 ho hT hW ?_
   intro hg he ps af
   obtain rfl:b2=true:=by simpa using hg
   subst he
   have e31:T.getD 31 undef = .pointer (some ⟨f,0,none⟩):=hK.at 10
   have e33:T.getD 33 undef = .int .i64 p:=hK.at 12
   have hcl:=cl13 rfl _ hW
   go_simp
   go_at_call 75
   refine hcl.mono ?_
   rintro ex w2 ⟨rfl,hW2⟩
   exact⟨rfl,hW2⟩
  ·have hT:T.getD 24 undef=gv true (.bool b2):=hK.at 3
   refine sg (x:= .bool b14) 3 24 true (some 35) (.pick (.tmp 30) (.const (Value.bool true)) (.tmp 34)) 4 ho hT hW ?_
   intro hg he ps af
   subst he
   have e30:T.getD 30 undef = .bool b8:=hK.at 9
   refine j_pick e30 ?_ ⟨rfl,hW⟩
   rcases Bool.eq_false_or_eq_true b8 with hx | hx
   ·rw [hx,if_pos rfl]
    simp only [hb14,hx,Bool.false_and,Bool.true_or]
    rfl
   ·have es:T.getD 34 undef=gv ((true&&(true == true))&&(b8 == false)) (.bool b13):=hK.at 13
    rw [hx,if_neg (by decide)]
    refine es.trans ?_
    simp only [hb14,hx,gv,Bool.true_and,Bool.and_true,Bool.false_or,beq_self_eq_true,Bool.true_or,if_true]
  ·refine sq (x:= .bool b15) (some 36) (.pick (.tmp 24) (.tmp 35) (.const (Value.bool false))) 4 ho ?_
   intro ps af
   have e24:T.getD 24 undef = .bool b2:=hK.at 3
   refine j_pick e24 ?_ ⟨rfl,hW⟩
   rcases Bool.eq_false_or_eq_true b2 with hx | hx
   ·have es:T.getD 35 undef=gv (true&&(b2 == true)) (.bool b14):=hK.at 14
    rw [hx,if_pos rfl]
    refine es.trans ?_
    simp only [hb15,hx,gv,Bool.true_and,Bool.and_true,Bool.false_or,beq_self_eq_true,Bool.true_or,if_true]
   ·rw [hx,if_neg (by decide)]
    simp only [hb15,hx,Bool.false_and,Bool.true_or]
    rfl
 ·intro w1 hW
  have hQ:=h (.pointer (some ⟨g,2,none⟩)) (.int .i64 p) (.bool b2) (.bool b2) (gv (true&&(b2 == true)) (.pointer (some ⟨f,0,none⟩))) (gv (true&&(b2 == true)) (.pointer (some ⟨g,2,none⟩))) (gv (true&&(b2 == true)) (.int .i64 p)) (gv (true&&(b2 == true)) (.int .i64 r)) (gv (true&&(b2 == true)) (.bool b8)) (gv (true&&(b2 == true)) (.bool b8)) (gv ((true&&(b2 == true))&&(b8 == false)) (.pointer (some ⟨f,0,none⟩))) (gv ((true&&(b2 == true))&&(b8 == false)) (.pointer (some ⟨g,2,none⟩))) (gv ((true&&(b2 == true))&&(b8 == false)) (.int .i64 p)) (gv ((true&&(b2 == true))&&(b8 == false)) (.bool b13)) (gv (true&&(b2 == true)) (.bool b14)) w1 hW
  rw [hsz]
  subst hT0
  refine cast (congrArg (fun Tx=>Q .normal ⟨Tx,ds⟩ w1) ?_) hQ
  kernel_rfl
theorem at_one {L:List Nd}(hO:Ok L)(x:Int): ∃r:Int,At L x r∧∀r',At L x r'→r'=r:=by
 have hno:∀r',At L x r'→(∀n∈L,(n.id:Int)≠x)→r' = -1:=fun r' h hn=>by
  rcases h with ⟨h,_⟩ | ⟨k,hk,_,hx⟩
  ·exact h
  ·exact absurd hx (hn _ (List.getElem_mem hk))
 by_cases h:∃(k:Nat) (hk:k<L.length),(L[k].id:Int)=x
 ·obtain⟨k,hk,hx⟩:=h
  refine⟨(k:Int),.inr ⟨k,hk,rfl,hx⟩,fun r' hr=>?_⟩
  rcases hr with ⟨_,hn⟩ | ⟨j,hj,rfl,hy⟩
  ·exact absurd hx (hn _ (List.getElem_mem hk))
  ·have:=id_inj hO hk hj (by omega)
   omega
 ·refine⟨-1,.inl ⟨rfl,fun n hn e=>?_⟩,fun r' hr=>hno r' hr fun n hn e=>?_⟩<;>
  ·obtain⟨k,hk,rfl⟩:=List.getElem_of_mem hn
   exact h ⟨k,hk,e⟩
theorem Rd.stay {w w1 w2:World}{v:Value}{l:List Bs}{g:Nat}(h1:Rd w1 v l)(h:Rd w v l)(hg:g=w.heap.size)(ho:Only [g] w1 w2): Rd w2 v l:=by
 obtain⟨a,c,rfl,hc⟩:=h
 obtain⟨a1,c1,e1,hc1⟩:=h1
 cases e1
 exact⟨a,c,rfl,fun i hi=>by
  obtain⟨b,o,rfl,h2⟩:=hc i hi
  obtain⟨b1,o1,e1,h3⟩:=hc1 i hi
  cases e1
  refine⟨b,o,rfl,cell_only ho h3 ?_⟩
  have:=block_lt_of_cell h2
  rw [List.mem_singleton]
  show b≠g
  have:b<w.heap.size:=this
  omega⟩
def REnd (w:World)(f:Nat)(rs:List (Nd×Value×Value))(P:Int×Int×List Nd×Int)(e:Ending)(w':World): Prop:=
 e = .returned (.tuple #[.int .i64 P.1,.int .i64 P.2.1])∧∃rs',nds rs'=P.2.2.1∧Xr w' f rs' P.2.2.2∧Only [f] w w'∧Kn w rs' rs
theorem Kn.of {w:World}{rs' rs:List (Nd×Value×Value)}(h:Kin rs' rs): Kn w rs' rs:=fun r hr=> .inl (h r hr)
set_option maxHeartbeats 8000000 in
theorem rplant_any {w:World}{f:Nat}{rs:List (Nd×Value×Value)}{nx:Int}(h:Xr w f rs nx)(hO:Ok (nds rs))(hl:rs.length≤1000000)(hG:Good (nds rs) nx)(i p:Int)(n:Nd)(sv av:Value)(hn:Mid n)(hl1:n.scope.length≤140737488355328)(hl2:n.actors.length≤140737488355328)(h1:Rd w sv n.scope)(h2:Rd w av n.actors)(o1:n.scope≠[]→sv.ownBlock≠some f)(o2:n.actors≠[]→av.ownBlock≠some f)(now:Int):
  Calls Tryz.prog 33 #[kpt f,.agg (inC i p n sv av),.int .i64 now] w fun e w'=>REnd w f rs (plantP (nds rs) nx p n now) e w':=by
 have H:=Φ h
 have HO:=Φ hO
 have HGo:=Φ hG
 have HL:=Φ hl
 have HM:=Φ (fun W (hb:Below w.heap.size w W)=>rmay_any i p n sv av hn hl1 hl2 W (h1.below hb) (h2.below hb))
 have HF:=Φ (fun W (hb:Below w.heap.size w W)=>rfind_any (h.below hb) hl n.secret)
 have HA:=Φ (fun W (hb:Below w.heap.size w W)=>rat_any (h.below hb) hl p)
 have HST:=Φ (fun W (hb:Below w.heap.size w W)=>rstruck_any (h.below hb) hO hl p)
 have HPr:=Φ (fun W (hb:Below w.heap.size w W)=>rprune_any (h.below hb) hO hl now)
 have HN:=Φ hn
 have R1:=Φ h1
 have R2:=Φ h2
 have HO1:=Φ o1
 have HO2:=Φ o2
 have HRW:Hid (∀r∈rs,∃sa sc aa ac,r.2=(Value.slice sa r.1.scope.length sc,Value.slice aa r.1.actors.length ac)):=Φ (by
  obtain⟨v,k1,k2⟩:=h
  intro r hr
  obtain⟨t1,t2⟩:=k2.2 r hr
  obtain⟨sa,sc,e1⟩:=owns_shape t1
  obtain⟨aa,ac,e2⟩:=owns_shape t2
  exact⟨sa,sc,aa,ac,Prod.ext e1 e2⟩)
 obtain⟨sa,sc,rfl,_⟩:=h1
 obtain⟨aa,ac,rfl,_⟩:=h2
 clear h hO hG hn o1 o2 hl1 hl2
 obtain⟨L,hL⟩:∃L,L=nds rs:=⟨_,rfl⟩
 rw [← hL] at HO HGo HST HPr ⊢
 have HLL:=Φ hL
 clear hL
 obtain⟨R,hR⟩:∃R,R=plantP L nx p n now:=⟨_,rfl⟩
 rw [← hR]
 have HR:=Φ hR
 clear hR
 obtain⟨g,hg⟩:∃g,g=w.heap.size:=⟨_,rfl⟩
 unfold kpt inC txt
 go_enter Tryz.func33,Tryz.ntmps33
 go_upto_region 1 with fail
 rw [← hg]
 obtain⟨w1,hw1⟩:∃x,x=w.alloc (.cells #[.int .i64 i,.int .i64 n.kind,.int .i64 p,.string ⟨n.subject.toArray⟩,.string ⟨n.client.toArray⟩,.string ⟨n.audience.toArray⟩,.slice sa n.scope.length sc,.int .i64 n.born,.int .i64 n.exp,.bool n.dead,.bool n.spent,.slice aa n.actors.length ac,.int .i64 n.level,.string ⟨n.secret.toArray⟩,.string ⟨n.data.toArray⟩] 31):=⟨_,rfl⟩
 rw [← hw1]
 have K:Hid (Bk 31 w1 g #[.int .i64 i,.int .i64 n.kind,.int .i64 p,.string ⟨n.subject.toArray⟩,.string ⟨n.client.toArray⟩,.string ⟨n.audience.toArray⟩,.slice sa n.scope.length sc,.int .i64 n.born,.int .i64 n.exp,.bool n.dead,.bool n.spent,.slice aa n.actors.length ac,.int .i64 n.level,.string ⟨n.secret.toArray⟩,.string ⟨n.data.toArray⟩]):=Φ (by rw [hw1];exact Bk.new hg)
 have HW:Hid (Below w.heap.size w w1):=Φ (by rw [hw1];go_grown)
 have HG:Hid (g=w.heap.size):=Φ hg
 clear hw1 hg
 unfold inC txt at HM
 cases hm:mayP p n with
 |false=>
  rw [hm] at HM
  have HP:Hid (plantP L nx p n now=(0,131,L,nx)):=Φ (by unfold plantP;rw [hm];rfl)
  clear hm
  go_wp2_with (refine wpList_load_row rfl 31 _ rfl g rfl 31 _ (0,0) _ K.out Tryz.underlying31 rfl i31 ?_)
  refine(HM.out w1 HW.out).mono ?_
  rintro e w2 ⟨rfl,hb⟩
  have HW2:=Φ (HW.out.trans (hb.mono HW.out.size))
  clear hb
  go_wp2_with fail
  go_returns
  rw [HR.out,HP.out]
  exact⟨rfl,rs,HLL.out.symm,H.out.below HW2.out,Only.of HW2.out,Kn.of (Kin.refl rs)⟩
 |true=>
  rw [hm] at HM
  have HMY:=Φ hm
  have hpos:=may_pos hm
  obtain⟨m,rfl⟩:∃m:Nat,p=(m:Int):=⟨p.toNat,by omega⟩
  clear hpos hm
  go_wp2_with (refine wpList_load_row rfl 31 _ rfl g rfl 31 _ (0,0) _ K.out Tryz.underlying31 rfl i31 ?_)
  refine(HM.out w1 HW.out).mono ?_
  rintro e w2 ⟨rfl,hb⟩
  have HW2:=Φ (HW.out.trans (hb.mono HW.out.size))
  replace K:=Φ (K.out.below hb)
  clear hb HW HM
  have c13:w2.cell? ⟨g,13,none⟩=some (.string ⟨n.secret.toArray⟩):=K.out.cell 13
  unfold kpt at HF HA HST HPr
  go_wp2_with fail
  refine(HF.out w2 HW2.out).mono ?_
  rintro e w3 ⟨hgot,hb⟩
  have HW3:=Φ (HW2.out.trans (hb.mono HW2.out.size))
  replace K:=Φ (K.out.below hb)
  clear hb HW2 HF c13
  rcases hgot with ⟨rfl,hfn⟩ | ⟨r,hr,hfn,rfl⟩
  ·unfold zeroN
   have HS0:Hid (L.find? (fun k=>k.secret == n.secret)=none):=Φ (by rw [← HLL.out] at hfn;exact hfn)
   have c2:w3.cell? ⟨g,2,none⟩=some (.int .i64 (m:Int)):=K.out.cell 2
   clear hfn
   go_upto_region 6 with fail
   obtain⟨w4,hw4⟩:∃x,x=w3.alloc (.cells #[.int .i64 0,.int .i64 0,.int .i64 0,.string ⟨#[]⟩,.string ⟨#[]⟩,.string ⟨#[]⟩,.slice none 0 0,.int .i64 0,.int .i64 0,.bool false,.bool false,.slice none 0 0,.int .i64 0,.string ⟨#[]⟩,.string ⟨#[]⟩] 31):=⟨_,rfl⟩
   rw [← hw4]
   generalize w3.heap.size=g3
   have hb34:Below w3.heap.size w3 w4:=by rw [hw4];go_grown
   have HW4:=Φ (HW3.out.trans (hb34.mono HW3.out.size))
   replace K:=Φ (K.out.below hb34)
   clear hw4 hb34 c2 HW3
   obtain⟨r,hr,hru⟩:∃r:Int,At L (m:Int) r∧∀r',At L (m:Int) r'→r'=r:=at_one HO.out m
   have HRA:=Φ hr
   have HRU:=Φ hru
   obtain⟨D,hD⟩:∃D:Bool,D=(((decide (0<(m:Int)))&&(((decide (r<0))||((pathI L (m:Int)).any (·.dead)))))):=⟨_,rfl⟩
   have HD:=Φ hD
   have HDD:Hid (D=(decide ((0:Int)<m)&&((findI L m).isNone||struck L m))):=Φ (by
    rw [hD]
    congr 1
    rcases hr with ⟨rfl,hno⟩ | ⟨k,hk,rfl,hx⟩
    ·have h1:=(At.none (.inl ⟨rfl,hno⟩:At L (m:Int) (-1))).1
     rw [h1];rfl
    ·obtain⟨hi,h1,h2,h3⟩:=At.some HO.out (.inr ⟨k,hk,rfl,hx⟩:At L (m:Int) (k:Int))
     rw [h2,decide_eq_false (show ¬(k:Int)<0 by omega)]
     rw [pathI_some h2]
     have e:L[k].id=m:=by omega
     rw [e];rfl)
   clear hr hru hD
   refine pl6r (g:=g) (p:=(m:Int)) (r:=r) (W:=fun w2=>Below w.heap.size w w2∧Below w4.heap.size w4 w2) rfl rfl rfl HD.out (fun w2 h=>cell_below h.2 (K.out.cell 2)) (fun _ w2 h=>(HST.out w2 h.1).mono fun e w3 h3=>⟨h3.1,h.1.trans (h3.2.mono h.1.size),h.2.trans (h3.2.mono h.2.size)⟩) (fun w2 h=>(HA.out w2 h.1).mono fun e w3 h3=>by obtain⟨r',h4,h5,h6⟩:=h3;rw [HLL.out] at HRU;exact⟨by rw [h4,HRU.out r' h6],h5▸h⟩) ⟨HW4.out,Below.refl _ _⟩ ?_
   intros
   rename_i w5 hw5
   have HW5:=Φ hw5.1
   replace K:=Φ (K.out.below hw5.2)
   clear hw5 HW4 HA HST HD HRU
   cases D with
   |true=>
    have HP:Hid (plantP L nx m n now=(0,133,L,nx)):=Φ (by unfold plantP;rw [HMY.out,HS0.out,Int.toNat_natCast,← HDD.out];rfl)
    go_wp2_with fail
    go_returns
    rw [HR.out,HP.out]
    exact⟨rfl,rs,HLL.out.symm,H.out.below HW5.out,Only.of HW5.out,Kn.of (Kin.refl rs)⟩
   |false=>
    have HP:Hid (plantP L nx m n now=if decide (256≤((prune L now).length:Int))||decide (99999999≤nx) then (0,130,prune L now,nx) else (nx,0,prune L now++[newN n nx m],nx+1)):=Φ (by unfold plantP;rw [HMY.out,HS0.out,Int.toNat_natCast,← HDD.out];rfl)
    have HPL:Hid ((m:Int)<nx):=Φ (by
     have hg:=HGo.out
     by_cases h0:(0:Int)<m
     ·have h1:=HDD.out
      rw [decide_eq_true h0,Bool.true_and] at h1
      cases hf:findI L m with
      |none=>rw [hf] at h1;cases h1
      |some x=>
       have hm:=List.mem_of_find?_eq_some hf
       have he:=List.find?_some hf
       have:=hg.2 x hm
       simp at he
       omega
     ·have:=hg.1;omega)
    clear HDD HS0
    go_wp2_with fail
    refine(HPr.out w5 HW5.out).mono ?_
    rintro e w8 ⟨⟨rfl,rs8,hn8,hx8,ho8,hk8⟩,hnr⟩
    have X8:=Φ hx8
    have N8:=Φ hn8
    have KI8:=Φ hk8
    have O8:Hid (Only [f] w w8):=Φ ((Only.of HW5.out).trans ho8 fun x hx=> .inl hx)
    obtain⟨v8,k1,k2⟩:=hx8
    obtain⟨a8,c8,rfl⟩:=k2.shape
    have hgf:g≠f:=by
     obtain⟨v,q1,_⟩:=H.out
     have:=q1.lt
     have:=HG.out
     omega
    have HGF:=Φ hgf
    have K5:=K
    replace K:=Φ (K.out.only ho8 (by simpa using hgf))
    have d0:w8.cell? ⟨f,0,none⟩=some (.slice a8 rs8.length c8):=k1.cell 0
    have d1:w8.cell? ⟨f,1,none⟩=some (.int .i64 nx):=k1.cell 1
    have hlen:Hid (((prune L now).length:Int)=(rs8.length:Int)):=Φ (by rw [← hn8];simp [nds])
    have HL8:Hid (rs8.length≤1000000):=Φ (by
     have e1:rs8.length=(prune L now).length:=by rw [← hn8];simp [nds]
     have e2:=List.length_filter_le (keeps L now) L
     have e3:L.length=rs.length:=by rw [HLL.out];simp [nds]
     have:=HL.out
     unfold prune at e1
     omega)
    have KX8:=Φ (And.intro k1 k2)
    have hrg:(Value.slice a8 rs8.length c8).ownBlock≠some g:=fun e=>by
     have h1:=hnr _ _ k1 g e
     have h2:=HG.out
     have h3:=HW5.out.size
     have h4:=K5.out.lt
     omega
    have HRG:=Φ hrg
    clear hnr hrg
    clear hn8 hk8 ho8 k1 k2 HPr hgf
    by_cases h256:(256:Int)≤(rs8.length:Int)
    ·have HP2:Hid (plantP L nx m n now=(0,130,prune L now,nx)):=Φ (by rw [HP.out,hlen.out,decide_eq_true h256];rfl)
     go_wp2_with fail
     go_returns
     rw [HR.out,HP2.out]
     exact⟨rfl,rs8,N8.out,X8.out,O8.out,Kn.of KI8.out⟩
    ·by_cases hnx:(99999999:Int)≤nx
     ·have HP2:Hid (plantP L nx m n now=(0,130,prune L now,nx)):=Φ (by rw [HP.out,decide_eq_true hnx,Bool.or_true];rfl)
      go_wp2_with fail
      go_returns
      rw [HR.out,HP2.out]
      exact⟨rfl,rs8,N8.out,X8.out,O8.out,Kn.of KI8.out⟩
     ·have HP2:Hid (plantP L nx m n now=(nx,0,prune L now++[newN n nx m],nx+1)):=Φ (by rw [HP.out,hlen.out,decide_eq_false h256,decide_eq_false hnx];rfl)
      have HSH:=Φ (may_short HN.out HMY.out)
      have c0:=K.out.cell 0
      have c9:=K.out.cell 9
      have c10:=K.out.cell 10
      have f0:=K.out.fro 0
      have f9:=K.out.fro 9
      have f10:=K.out.fro 10
      go_upto_region 14 with fail
      have K9:Hid (Bk 31 (((w8.setCell ⟨g,0,none⟩ (.int .i64 nx)).setCell ⟨g,9,none⟩ (.bool false)).setCell ⟨g,10,none⟩ (.bool false)) g #[.int .i64 nx,.int .i64 n.kind,.int .i64 (m:Int),.string ⟨n.subject.toArray⟩,.string ⟨n.client.toArray⟩,.string ⟨n.audience.toArray⟩,.slice sa n.scope.length sc,.int .i64 n.born,.int .i64 n.exp,.bool false,.bool false,.slice aa n.actors.length ac,.int .i64 n.level,.string ⟨n.secret.toArray⟩,.string ⟨n.data.toArray⟩]):=Φ (Bk.same (i:=10) (v:= .bool false) (Bk.same (i:=9) (v:= .bool false) (Bk.same (i:=0) (v:= .int .i64 nx) K.out)))
      have O9:Hid (Only [g] w8 (((w8.setCell ⟨g,0,none⟩ (.int .i64 nx)).setCell ⟨g,9,none⟩ (.bool false)).setCell ⟨g,10,none⟩ (.bool false))):=Φ ((((Only.refl [g] w8).setCell ⟨g,0,none⟩ (.inl (by simp)) _).setCell ⟨g,9,none⟩ (.inl (by simp)) _).setCell ⟨g,10,none⟩ (.inl (by simp)) _)
      generalize (((w8.setCell ⟨g,0,none⟩ (.int .i64 nx)).setCell ⟨g,9,none⟩ (.bool false)).setCell ⟨g,10,none⟩ (.bool false))=w9 at K9 O9 ⊢
      have HGW:Hid (w.heap.size≤g):=Φ (Nat.le_of_eq HG.out.symm)
      have R1w:Hid (Rd w9 (.slice sa n.scope.length sc) n.scope):=Φ (by
       by_cases he:n.scope=[]
       ·exact⟨sa,sc,rfl,fun i hi=>by rw [he] at hi;cases hi⟩
       ·exact((R1.out.only O8.out (fun q hq hm=>HO1.out he (by rw [List.mem_singleton] at hm;rw [← hm];exact hq))).stay R1.out (by rw [HG.out]) O9.out))
      have R2w:Hid (Rd w9 (.slice aa n.actors.length ac) n.actors):=Φ (by
       by_cases he:n.actors=[]
       ·exact⟨aa,ac,rfl,fun i hi=>by rw [he] at hi;cases hi⟩
       ·exact((R2.out.only O8.out (fun q hq hm=>HO2.out he (by rw [List.mem_singleton] at hm;rw [← hm];exact hq))).stay R2.out (by rw [HG.out]) O9.out))
      have hob9:Bk 40 w9 f #[.slice a8 rs8.length c8,.int .i64 nx]:=KX8.out.1.only O9.out (by simpa using fun e=>HGF.out e.symm)
      have hnr9:Nr w9 (.slice a8 rs8.length c8) rs8:=⟨owns_only KX8.out.2.1 O9.out fun q hq hm=>HRG.out (by rw [List.mem_singleton] at hm;rw [← hm];exact hq),fun r hr=>⟨(KX8.out.2.2 r hr).1.only O9.out fun q hq hm=>by rw [List.mem_singleton] at hm;subst hm;exact owns_ne (KX8.out.2.2 r hr).1 K.out (by decide) hq,(KX8.out.2.2 r hr).2.only O9.out fun q hq hm=>by rw [List.mem_singleton] at hm;subst hm;exact owns_ne (KX8.out.2.2 r hr).2 K.out (by decide) hq⟩⟩
      have HX9:=Φ (And.intro hob9 hnr9)
      clear hob9 hnr9 c0 c9 c10 f0 f9 f10 d0 d1 K K5
      have hs16:n.scope.length≤1000000:=HSH.out.2.2.2.2.2.1
      have ha16:n.actors.length≤1000000:=HSH.out.2.2.2.2.2.2.1
      have HE14:Hid (Lw 9 1 w9 (w9.alloc (.cells #[] 9)) (.slice (some ⟨w9.heap.size,0,none⟩) 0 0) 0 []):=Φ (Lw.empty 9 1 (Below.refl _ _))
      have R1a:Hid (Rd (w9.alloc (.cells #[] 9)) (.slice sa n.scope.length sc) n.scope):=Φ (R1w.out.below (by go_grown))
      have c6a:(w9.alloc (.cells #[] 9)).cell? ⟨g,6,none⟩=some (.slice sa n.scope.length sc):=cell_below (by go_grown) (K9.out.cell 6)
      have HS16:=Φ hs16
      have HA16:=Φ ha16
      clear hs16 ha16
      go_upto_region 15 with (at_builtin;refine wp_rows rfl _ _ rfl (.slice (some ⟨w9.heap.size,0,none⟩) 0 0) (.slice sa n.scope.length sc) [] n.scope rfl rfl HE14.out R1a.out (by have:=HS16.out;omega) ?_;intro v1 w10 hs1 hg1;simp only [Nat.zero_add,List.nil_append] at hs1;obtain⟨ya,yc,rfl⟩:=hs1.shape;have K10:=Φ (K9.out.below hs1.2.1);have c6:=K10.out.cell 6;have f6:=K10.out.fro 6;have HS1:=Φ hs1;clear hs1 hg1)
      have K11:Hid (Bk 31 (w10.setCell ⟨g,6,none⟩ (.slice ya n.scope.length yc)) g #[.int .i64 nx,.int .i64 n.kind,.int .i64 (m:Int),.string ⟨n.subject.toArray⟩,.string ⟨n.client.toArray⟩,.string ⟨n.audience.toArray⟩,.slice ya n.scope.length yc,.int .i64 n.born,.int .i64 n.exp,.bool false,.bool false,.slice aa n.actors.length ac,.int .i64 n.level,.string ⟨n.secret.toArray⟩,.string ⟨n.data.toArray⟩]):=Φ (Bk.same (i:=6) (v:= .slice ya n.scope.length yc) K10.out)
      have T11:Hid (Tx (w10.setCell ⟨g,6,none⟩ (.slice ya n.scope.length yc)) (.slice ya n.scope.length yc) n.scope):=Φ ((Lw.tx HS1.out).setCell K10.out (by decide))
      have O11:Hid (Only [g] w9 (w10.setCell ⟨g,6,none⟩ (.slice ya n.scope.length yc))):=Φ ((Only.of HS1.out.2.1).setCell ⟨g,6,none⟩ (.inl (by simp)) _)
      have HY:Hid (∀q,(Value.slice ya n.scope.length yc).ownBlock=some q→w9.heap.size≤q):=Φ HS1.out.2.2
      generalize w10.setCell ⟨g,6,none⟩ (.slice ya n.scope.length yc)=w11 at K11 T11 O11 ⊢
      have R2b:Hid (Rd w11 (.slice aa n.actors.length ac) n.actors):=Φ (R2w.out.stay R2.out HG.out O11.out)
      have HE15:Hid (Lw 9 1 w11 (w11.alloc (.cells #[] 9)) (.slice (some ⟨w11.heap.size,0,none⟩) 0 0) 0 []):=Φ (Lw.empty 9 1 (Below.refl _ _))
      have R2a:Hid (Rd (w11.alloc (.cells #[] 9)) (.slice aa n.actors.length ac) n.actors):=Φ (R2b.out.below (by go_grown))
      have c11a:(w11.alloc (.cells #[] 9)).cell? ⟨g,11,none⟩=some (.slice aa n.actors.length ac):=cell_below (by go_grown) (K11.out.cell 11)
      clear c6 f6 K10 HS1 c6a HE14 R1a R1w R2w
      go_upto_region 16 with (at_builtin;refine wp_rows rfl _ _ rfl (.slice (some ⟨w11.heap.size,0,none⟩) 0 0) (.slice aa n.actors.length ac) [] n.actors rfl rfl HE15.out R2a.out (by have:=HA16.out;omega) ?_;intro v2 w12 hs2 hg2;simp only [Nat.zero_add,List.nil_append] at hs2;obtain⟨za,zc,rfl⟩:=hs2.shape;have K12:=Φ (K11.out.below hs2.2.1);have c11:=K12.out.cell 11;have f11:=K12.out.fro 11;have HS2:=Φ hs2;clear hs2 hg2)
      have K13:Hid (Bk 31 (w12.setCell ⟨g,11,none⟩ (.slice za n.actors.length zc)) g #[.int .i64 nx,.int .i64 n.kind,.int .i64 (m:Int),.string ⟨n.subject.toArray⟩,.string ⟨n.client.toArray⟩,.string ⟨n.audience.toArray⟩,.slice ya n.scope.length yc,.int .i64 n.born,.int .i64 n.exp,.bool false,.bool false,.slice za n.actors.length zc,.int .i64 n.level,.string ⟨n.secret.toArray⟩,.string ⟨n.data.toArray⟩]):=Φ (Bk.same (i:=11) (v:= .slice za n.actors.length zc) K12.out)
      have T13:Hid (Tx (w12.setCell ⟨g,11,none⟩ (.slice za n.actors.length zc)) (.slice ya n.scope.length yc) n.scope):=Φ ((T11.out.below HS2.out.2.1).setCell K12.out (by decide))
      have T14:Hid (Tx (w12.setCell ⟨g,11,none⟩ (.slice za n.actors.length zc)) (.slice za n.actors.length zc) n.actors):=Φ ((Lw.tx HS2.out).setCell K12.out (by decide))
      have O13:Hid (Only [g] w9 (w12.setCell ⟨g,11,none⟩ (.slice za n.actors.length zc))):=Φ (O11.out.trans ((Only.of HS2.out.2.1).setCell ⟨g,11,none⟩ (.inl (by simp)) _) (fun x hx=> .inl hx))
      have HZ:Hid (∀q,(Value.slice za n.actors.length zc).ownBlock=some q→w11.heap.size≤q):=Φ HS2.out.2.2
      generalize w12.setCell ⟨g,11,none⟩ (.slice za n.actors.length zc)=w13 at K13 T13 T14 O13 ⊢
      have hob:Bk 40 w13 f #[.slice a8 rs8.length c8,.int .i64 nx]:=HX9.out.1.only O13.out (by simpa using fun e=>HGF.out e.symm)
      have hnr:Nr w13 (.slice a8 rs8.length c8) rs8:=⟨owns_only HX9.out.2.1 O13.out fun q hq hm=>HRG.out (by rw [List.mem_singleton] at hm;rw [← hm];exact hq),fun r hr=>⟨(HX9.out.2.2 r hr).1.only O13.out fun q hq hm=>by rw [List.mem_singleton] at hm;subst hm;exact owns_ne (HX9.out.2.2 r hr).1 K9.out (by decide) hq,(HX9.out.2.2 r hr).2.only O13.out fun q hq hm=>by rw [List.mem_singleton] at hm;subst hm;exact owns_ne (HX9.out.2.2 r hr).2 K9.out (by decide) hq⟩⟩
      have HOB:=Φ hob
      have HNR:=Φ hnr
      clear c11 f11 K12 HS2 c11a HE15 R2a R2b hob hnr
      have h15:(#[.int .i64 nx,.int .i64 n.kind,.int .i64 (m:Int),.string ⟨n.subject.toArray⟩,.string ⟨n.client.toArray⟩,.string ⟨n.audience.toArray⟩,.slice ya n.scope.length yc,.int .i64 n.born,.int .i64 n.exp,.bool false,.bool false,.slice za n.actors.length zc,.int .i64 n.level,.string ⟨n.secret.toArray⟩,.string ⟨n.data.toArray⟩]:Array Value).size=15:=rfl
      have hone:∀u∈(#[.int .i64 nx,.int .i64 n.kind,.int .i64 (m:Int),.string ⟨n.subject.toArray⟩,.string ⟨n.client.toArray⟩,.string ⟨n.audience.toArray⟩,.slice ya n.scope.length yc,.int .i64 n.born,.int .i64 n.exp,.bool false,.bool false,.slice za n.actors.length zc,.int .i64 n.level,.string ⟨n.secret.toArray⟩,.string ⟨n.data.toArray⟩]:Array Value).toList,u.oneCell'=true:=by
       have h:=one15 nx (m:Int) (newN n nx m) ya za n.scope.length yc n.actors.length zc
       intro u hu
       exact(Array.all_eq_true_iff_forall_mem.1 h) u (by simpa [inC,txt,newN] using hu)
      refine Pl.plR (fun b1 _ b6 b8 b9 b12 y1 y6 y8 y9 W=>PlR w13 f rs8 nx (.slice a8 rs8.length c8) g #[.int .i64 nx,.int .i64 n.kind,.int .i64 (m:Int),.string ⟨n.subject.toArray⟩,.string ⟨n.client.toArray⟩,.string ⟨n.audience.toArray⟩,.slice ya n.scope.length yc,.int .i64 n.born,.int .i64 n.exp,.bool false,.bool false,.slice za n.actors.length zc,.int .i64 n.level,.string ⟨n.secret.toArray⟩,.string ⟨n.data.toArray⟩] b1 b6 b8 b9 b12 y1 y6 y8 y9 W) f g (.slice a8 rs8.length c8) (.int .i64 nx) (.int .i64 n.kind) (.int .i64 (m:Int)) (.string ⟨n.subject.toArray⟩) (.string ⟨n.client.toArray⟩) (.string ⟨n.audience.toArray⟩) (.slice ya n.scope.length yc) (.int .i64 n.born) (.int .i64 n.exp) (.bool false) (.bool false) (.slice za n.actors.length zc) (.int .i64 n.level) (.string ⟨n.secret.toArray⟩) (.string ⟨n.data.toArray⟩) _ ?cl1 ?cl5 ?cl6 ?cl8 ?cl9 ?cl12 ?lk ?w0 ?h
      case lk=>exact fun _ _ _ _ _ _ _ _ _ _ W h=>h.box
      case w0=>exact pl_w0 HOB.out K13.out
      case cl1=>exact fun _ b8 y1 y6 y8 y9 W h=>pl_1 b8 y1 y6 y8 y9 W h
      case cl5=>exact fun _ _ _ _ _ _ W h=>⟨h.obj.cell 0,h⟩
      case cl6=>exact fun b8 y1 y6 y8 y9 W h=>pl_6 HNR.out HL8.out K13.out b8 y1 y6 y8 y9 W h
      case cl8=>exact fun b1 _ b6 y1 y6 y8 y9 W h=>pl_8 b1 b6 y1 y6 y8 y9 W h
      case cl9=>exact fun y1 y6 y8 y9 W h=>pl_9 HL8.out K13.out h15 hone y1 y6 y8 y9 W h
      case cl12=>exact fun y1 y6 y8 y9 W h=>pl_12 HOB.out K13.out y1 y6 y8 y9 W h
      case h=>
       intro y1 y6 y8 y9 W h
       have HH:=Φ h
       have d1:=h.obj.cell 1
       have f1:=h.obj.fro 1
       have HKW:=Φ h.box
       have hp:=HGo.out.1
       have e0:(W.setCell ⟨f,1,none⟩ (.int .i64 (nx+1))).cell? ⟨g,0,none⟩=some (.int .i64 nx):=(h.box.oth HGF.out:Bk 31 (W.setCell ⟨f,1,none⟩ (.int .i64 (nx+1))) g _).cell 0
       clear h h15 hone
       go_wp2_with fail
       go_returns
       rw [HR.out,HP2.out]
       have h:=HH.out
       have hob:Bk 40 W f #[y9,.int .i64 nx]:=h.obj
       have k1:Bk 40 (W.setCell ⟨f,1,none⟩ (.int .i64 (nx+1))) f #[y9,.int .i64 (nx+1)]:=Bk.same (i:=1) (v:= .int .i64 (nx+1)) hob
       have hid:((newN n nx m).id:Int)=nx:=Int.toNat_of_nonneg (by have:=HGo.out.1;omega)
       have hpar:((newN n nx m).parent:Int)=(m:Int):=rfl
       have hcell:nodeC (newN n nx m,.slice ya n.scope.length yc,.slice za n.actors.length zc)=(#[.int .i64 nx,.int .i64 n.kind,.int .i64 (m:Int),.string ⟨n.subject.toArray⟩,.string ⟨n.client.toArray⟩,.string ⟨n.audience.toArray⟩,.slice ya n.scope.length yc,.int .i64 n.born,.int .i64 n.exp,.bool false,.bool false,.slice za n.actors.length zc,.int .i64 n.level,.string ⟨n.secret.toArray⟩,.string ⟨n.data.toArray⟩]:Array Value).toList:=by
        show(inC ((newN n nx m).id:Int) ((newN n nx m).parent:Int) (newN n nx m) _ _).toList=_
        rw [hid,hpar]
        rfl
       have hr9:=h.r9 rfl
       rw [← hcell] at hr9
       have hrow:W.ownsRow 0 31 15 y9 (rs8++[(newN n nx m,Value.slice ya n.scope.length yc,Value.slice za n.actors.length zc)]).length ((rs8++[(newN n nx m,Value.slice ya n.scope.length yc,Value.slice za n.actors.length zc)]).flatMap nodeC):=by
        rw [List.flatMap_append,List.length_append]
        simpa using hr9
       have ho:Only [f] w13 W:=h.only
       have hNW:Nr W y9 (rs8++[(newN n nx m,Value.slice ya n.scope.length yc,Value.slice za n.actors.length zc)]):=by
        refine⟨hrow,fun r hr=>?_⟩
        rcases List.mem_append.1 hr with hr | hr
        ·obtain⟨t1,t2⟩:=HNR.out.2 r hr
         exact⟨t1.only ho fun q hq hm=>by rw [List.mem_singleton] at hm;subst hm;exact owns_ne t1 HOB.out (by decide) hq,t2.only ho fun q hq hm=>by rw [List.mem_singleton] at hm;subst hm;exact owns_ne t2 HOB.out (by decide) hq⟩
        ·rw [List.mem_singleton] at hr
         subst hr
         exact⟨T13.out.only ho fun q hq hm=>by rw [List.mem_singleton] at hm;subst hm;exact owns_ne T13.out HOB.out (by decide) hq,T14.out.only ho fun q hq hm=>by rw [List.mem_singleton] at hm;subst hm;exact owns_ne T14.out HOB.out (by decide) hq⟩
       refine⟨rfl,_,?_,⟨y9,k1,hNW.only (only_cell W f 1 _) hob (by decide) (by decide)⟩,?_,?_⟩
       ·rw [← N8.out];simp [nds]
       ·have hgw:=HGW.out
        have o1:Only [f] w w9:=O8.out.trans O9.out (fun x hx=> .inr (by rw [List.mem_singleton] at hx;omega))
        have o2:Only [f] w w13:=o1.trans O13.out (fun x hx=> .inr (by rw [List.mem_singleton] at hx;omega))
        exact(o2.trans ho (fun x hx=> .inl hx)).setCell ⟨f,1,none⟩ (.inl (by simp)) _
       ·intro r hr
        rcases List.mem_append.1 hr with hr | hr
        ·exact .inl (KI8.out r hr)
        ·rw [List.mem_singleton] at hr
         subst hr
         have s1:=O8.out.size
         have s2:=O9.out.size
         have s3:=O11.out.size
         refine .inr fun q hq=>?_
         rcases hq with hq | hq
         ·have:=HY.out q hq;omega
         ·have:=HZ.out q hq;omega
  ·have HP:Hid (plantP L nx m n now=(0,132,L,nx)):=Φ (by rw [← HLL.out] at hfn;unfold plantP;rw [HMY.out,hfn];rfl)
   obtain⟨n',sv',av'⟩:=r
   obtain⟨sa',sc',aa',ac',e1⟩:=HRW.out _ hr
   dsimp only at e1
   simp only [Prod.mk.injEq] at e1
   obtain⟨rfl,rfl⟩:=e1
   clear hr hfn
   unfold nodeC inC txt
   go_wp2_with fail
   go_returns
   rw [HR.out,HP.out]
   have hb4:=HW3.out
   exact⟨rfl,rs,HLL.out.symm,H.out.below (hb4.trans (by have:=hb4.size;go_grown)),Only.of (hb4.trans (by have:=hb4.size;go_grown)),Kn.of (Kin.refl rs)⟩
end Go.Proofs.YthogppennalobaaGreatDoor
