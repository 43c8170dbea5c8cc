/- The drawn region of the document's Load. No condition. The document: the last node laid. The document: its reader. The document: the texts of any row. -/
import Derived.Test.YthogppennalobaaGreatDoorZl25
import Derived.Test.YthogppennalobaaGreatDoorZl15
import Derived.Test.YthogppennalobaaGreatDoorZl08
import Derived.Test.YthogppennalobaaGreatDoorZl20
import Derived.Test.YthogppennalobaaGreatDoorZl04
import Derived.Test.YthogppennalobaaGreatDoorZl24
set_option linter.unusedVariables false
set_option linter.unusedSimpArgs false
set_option maxRecDepth 100000
namespace Go.Proofs.YthogppennalobaaGreatDoor.Pl
open Go.RowKit Go.Sort Forest
noncomputable def ldRO:Array Oper:=(Tryz.f23.body.bind fun c=>findR c 16).getD #[]
def ldR_m:List (List Nat):=[[],[],[],[],[],[],[],[4,6],[4,6,7],[4,6,7],[4,6,7]]
set_option maxHeartbeats 16000000 in
theorem ldR (PW:Bool→Bool→Bool→Bool→Value→Value→World→Prop)(f b:Nat)(sv z0 z1 z2 z3 z4 z5 z6 z7 z8 z9 z10 z11 z12 z13 z14:Value)(w:World)  (cl4:∀(b6:Bool) (y6 y7:Value) (w:World),PW false b6 false false y6 y7 w→w.cell? ⟨f,0,none⟩=some (sv)∧PW true b6 false false y6 y7 w)(cl6:∀(b4:Bool) (y6 y7:Value) (w:World),PW b4 false false false y6 y7 w→PW b4 true false false (.slice (some ⟨w.heap.size,0,none⟩) 1 1) y7 (w.alloc (.cells #[z0,z1,z2,z3,z4,z5,z6,z7,z8,z9,z10,z11,z12,z13,z14] 31)))(cl7:∀(y6 y7:Value) (w:World),PW true true false false y6 y7 w→∃v w',(Builtin.append_ #[37,37] 37 #[sv,y6]).run Tryz.prog w = .ok v w'∧PW true true true false y6 v w')(cl10:∀(y6 y7:Value) (w:World),PW true true true false y6 y7 w→∃sa sn sc,y7 = .slice sa sn sc∧(∃cv,w.cell? ⟨f,0,none⟩=some cv)∧w.frozen? ⟨f,0,none⟩=false∧PW true true true true y6 y7 (w.setCell ⟨f,0,none⟩ (.slice sa sn sc)))(lk:∀(b4 b6 b7 b10:Bool) (y6 y7:Value) (w:World),PW b4 b6 b7 b10 y6 y7 w→Bk 31 w b #[z0,z1,z2,z3,z4,z5,z6,z7,z8,z9,z10,z11,z12,z13,z14]){t0 t1 t2 t3 t4 t5 t6 t8 t9 t11 t12 t13 t14 t15 t16 t17 t18 t19 t20 t21 t22 t23 t24 t25 t26 t27 t28 t29 t30 t31 t32 t33 t34 t35 t36 t37 t38 t39 t40 t41 t42 t43 t44 t45 t46 t47 t48 t49 t50 t51 t52 t53 t54 t55 t56 t57 t58 t59 t60 t61 t62 t63 t64 t65 t66 t67 t68 t69 t70 t71 t72 t73 t74 t75 t76 t77 t78 t79 t80 t81 t82 t83 t84 t85 t86 t87 t88 t89 t90 t91 t92 t93 t94 t95 t96 t97 t98 t99 t100 t101 t102 t103 t104 t105 t106 t107 t108 t109 t110 t111 t112 t113 t114 t115 t116 t117 t118 t119 t120:Value}(w0:PW false false false false t114 t115 w.drew){ds:List Deferred}{Q:Exit→Act→World→Prop}
  (h:∀(y6 y7:Value) (w1:World),PW true true true true y6 y7 w1→Q .normal {tmps:=#[t0,t1,t2,t3,t4,t5,t6,.pointer (some ⟨f,0,none⟩),t8,t9,.pointer (some ⟨b,0,none⟩),t11,t12,t13,t14,t15,t16,t17,t18,t19,t20,t21,t22,t23,t24,t25,t26,t27,t28,t29,t30,t31,t32,t33,t34,t35,t36,t37,t38,t39,t40,t41,t42,t43,t44,t45,t46,t47,t48,t49,t50,t51,t52,t53,t54,t55,t56,t57,t58,t59,t60,t61,t62,t63,t64,t65,t66,t67,t68,t69,t70,t71,t72,t73,t74,t75,t76,t77,t78,t79,t80,t81,t82,t83,t84,t85,t86,t87,t88,t89,t90,t91,t92,t93,t94,t95,t96,t97,t98,t99,t100,t101,t102,t103,t104,t105,t106,t107,.pointer (some ⟨f,0,none⟩),.pointer (some ⟨f,0,none⟩),.pointer (some ⟨f,0,none⟩),.pointer (some ⟨f,0,none⟩),sv,.agg #[z0,z1,z2,z3,z4,z5,z6,z7,z8,z9,z10,z11,z12,z13,z14],y6,y7,.pointer (some ⟨f,0,none⟩),.pointer (some ⟨f,0,none⟩),t118,t119,t120],defers:=ds} w1) :
  (Code.region 16 ldRO true).wp Tryz.prog Q {tmps:=#[t0,t1,t2,t3,t4,t5,t6,.pointer (some ⟨f,0,none⟩),t8,t9,.pointer (some ⟨b,0,none⟩),t11,t12,t13,t14,t15,t16,t17,t18,t19,t20,t21,t22,t23,t24,t25,t26,t27,t28,t29,t30,t31,t32,t33,t34,t35,t36,t37,t38,t39,t40,t41,t42,t43,t44,t45,t46,t47,t48,t49,t50,t51,t52,t53,t54,t55,t56,t57,t58,t59,t60,t61,t62,t63,t64,t65,t66,t67,t68,t69,t70,t71,t72,t73,t74,t75,t76,t77,t78,t79,t80,t81,t82,t83,t84,t85,t86,t87,t88,t89,t90,t91,t92,t93,t94,t95,t96,t97,t98,t99,t100,t101,t102,t103,t104,t105,t106,t107,t108,t109,t110,t111,t112,t113,t114,t115,t116,t117,t118,t119,t120],defers:=ds} w:=by
 have hsz:ldRO.size=11:=by kernel_rfl
 generalize hT:List.toArray _=T0
 have hs:T0.size=121:=by subst hT;rfl
 have g7:T0.getD 7 undef = .pointer (some ⟨f,0,none⟩):=by subst hT;rfl
 have g10:T0.getD 10 undef = .pointer (some ⟨b,0,none⟩):=by subst hT;rfl
 obtain⟨W,hV⟩:∃W:List ((Nat×(Value→Value)) ⊕ Value),W=[.inr (.pointer (some ⟨f,0,none⟩)),.inr (.pointer (some ⟨f,0,none⟩)),.inr (.pointer (some ⟨f,0,none⟩)),.inr (.pointer (some ⟨f,0,none⟩)),.inr (sv),.inr (.agg #[z0,z1,z2,z3,z4,z5,z6,z7,z8,z9,z10,z11,z12,z13,z14]),.inl (6,id),.inl (7,id),.inr (.pointer (some ⟨f,0,none⟩)),.inr (.pointer (some ⟨f,0,none⟩)),.inr undef]:=⟨_,rfl⟩
 refine wp_plan (by kernel_rfl) T0 ds [4,6,7,10] ldR_m (mkV W) (fun dx yx wx=>PW (dx 4) (dx 6) (dx 7) (dx 10) (yx 6) (yx 7) wx) w (by rw [hs];kernel_rfl) (by kernel_rfl) (by kernel_rfl) (by rw [hsz];decide) (fun cx hc ix hne ha yx vx=>mkV_fix (by rw [hV];kernel_rfl) hne ha yx vx) (?key) (fun cx hc ox ho dx yx Tx wx hd hdb hda hK hW=>?_) ⟨fun k=>if k=6 then t114 else if k=7 then t115 else undef,w0⟩ (fun dx yx wx hd hW=>?_)
 case key=>
  rw [hsz]
  refine all_step (all_step (all_step (all_step (all_step (all_step (all_step (all_step (all_step (all_step (all_step all_zero ?_) ?_) ?_) ?_) ?_) ?_) ?_) ?_) ?_) ?_) ?_
  all_goals
   intro ox ho hic dx yx Tx wx hdb hK hW
   replace hdb:=Lib.hid hdb
  ·exact pl0 108 7 26 ho hK (by kernel_rfl) (by kernel_rfl) g7 (by subst hV;rfl) fun ps af e=>k_mv e
  ·exact pl0 109 7 26 ho hK (by kernel_rfl) (by kernel_rfl) g7 (by subst hV;rfl) fun ps af e=>k_mv e
  ·exact pl1 110 109 1 0 ho hK (by kernel_rfl) (by kernel_rfl) (by subst hV;rfl) (by subst hV;rfl) fun ps af e=>k_nc e
  ·exact pl1 111 110 2 0 ho hK (by kernel_rfl) (by kernel_rfl) (by subst hV;rfl) (by subst hV;rfl) fun ps af e=>k_fa40_0 e
  ·exact absurd (by decide) hic
  ·obtain⟨ps,af,rfl⟩:=core (some 113) (.load 31 (.tmp 10)) 31 none ho (by kernel_rfl)
   have e10:Tx.getD 10 undef = .pointer (some ⟨b,0,none⟩):=hK.of (by kernel_rfl) g10
   have hl:=lk _ _ _ _ _ _ _ hW
   exact wpOp_plain ho rfl (wp_load_row 31 _ rfl b (by first | exact e10 | rfl) 31 _ (0,0) _ hl Tryz.underlying31 rfl i31 ⟨by subst hV;rfl,rfl⟩)
  ·exact absurd (by decide) hic
  ·exact absurd (by decide) hic
  ·exact pl1 116 108 0 0 ho hK (by kernel_rfl) (by kernel_rfl) (by subst hV;rfl) (by subst hV;rfl) fun ps af e=>k_nc e
  ·exact pl1 117 116 8 0 ho hK (by kernel_rfl) (by kernel_rfl) (by subst hV;rfl) (by subst hV;rfl) fun ps af e=>k_fa40_0 e
  ·exact absurd (by decide) hic
 ·have hcase:cx=4∨cx=6∨cx=7∨cx=10:=by simpa using hc
  rcases hcase with rfl | rfl | rfl | rfl
  ·obtain⟨ps,af,rfl⟩:=core (some 112) (.load 37 (.tmp 111)) 37 none ho (by kernel_rfl)
   have e111:Tx.getD 111 undef = .pointer (some ⟨f,0,none⟩):=hK.is 3 ho (by kernel_rfl) (by subst hV;rfl)
   have hW1:PW (dx 4) (dx 6) (dx 7) (dx 10) (yx 6) (yx 7) wx:=hW
   have f7:=hda 7 (by decide) (by kernel_rfl)
   have f10:=hda 10 (by decide) (by kernel_rfl)
   clear hdb hda
   rw [hd,f7,f10] at hW1
   replace f7:=Lib.hid f7
   replace f10:=Lib.hid f10
   clear hd hW hc
   obtain⟨hl,hW2⟩:=cl4 _ _ _ _ hW1
   subst hV
   refine wpOp_plain ho rfl ?_
   go_simp
   first | refine⟨undef,rfl,?_⟩ | refine⟨⟨undef,rfl⟩,?_⟩ | skip
   simpa [updB,upd,f7.out,f10.out] using hW2
  ·obtain⟨ps,af,rfl⟩:=core (some 114) (.buildSlice 37 1 #[(0,.tmp 113)]) 37 none ho (by kernel_rfl)
   have e113:Tx.getD 113 undef = .agg #[z0,z1,z2,z3,z4,z5,z6,z7,z8,z9,z10,z11,z12,z13,z14]:=hK.is 5 ho (by kernel_rfl) (by subst hV;rfl)
   have hW1:PW (dx 4) (dx 6) (dx 7) (dx 10) (yx 6) (yx 7) wx:=hW
   have f7:=hda 7 (by decide) (by kernel_rfl)
   have f10:=hda 10 (by decide) (by kernel_rfl)
   clear hdb hda
   rw [hd,f7,f10] at hW1
   replace f7:=Lib.hid f7
   replace f10:=Lib.hid f10
   clear hd hW hc
   have hW2:=cl6 _ _ _ _ hW1
   simp only [Array.getD_eq_getD_getElem?] at e113
   subst hV
   refine wpOp_plain ho rfl ?_
   go_simp
   refine⟨_,rfl,?_⟩
   simpa [updB,upd,f7.out,f10.out] using hW2
  ·obtain⟨ps,af,rfl⟩:=core (some 115) (.call {callee:= .builtin Builtin.append,args:=#[.tmp 112,.tmp 114],argTypes:=#[37,37]}) 37 none ho (by kernel_rfl)
   have e112:Tx.getD 112 undef=sv:=hK.is 4 ho (by kernel_rfl) (by subst hV;rfl)
   have e114:Tx.getD 114 undef=yx 6:=hK.is 6 ho (by kernel_rfl) (by subst hV;rfl)
   have hW1:PW (dx 4) (dx 6) (dx 7) (dx 10) (yx 6) (yx 7) wx:=hW
   have f4:=hdb 4 (by decide) (by kernel_rfl)
   have f6:=hdb 6 (by decide) (by kernel_rfl)
   have f10:=hda 10 (by decide) (by kernel_rfl)
   clear hdb hda
   rw [hd,f4,f6,f10] at hW1
   replace f4:=Lib.hid f4
   replace f6:=Lib.hid f6
   replace f10:=Lib.hid f10
   clear hd hW hc
   obtain⟨vx,w2,hrun,hW2⟩:=cl7 _ _ _ hW1
   subst hV
   refine wpOp_plain ho rfl (wp_append_runE _ _ _ _ rfl _ _ (by first | exact e112 | rfl) (by first | exact e114 | rfl) vx w2 hrun ⟨vx,rfl,?_⟩)
   simpa [updB,upd,f4.out,f6.out,f10.out] using hW2
  ·obtain⟨ps,af,rfl⟩:=core none (.store 37 (.tmp 117) (.tmp 115)) 0 none ho (by kernel_rfl)
   have e117:Tx.getD 117 undef = .pointer (some ⟨f,0,none⟩):=hK.is 9 ho (by kernel_rfl) (by subst hV;rfl)
   have e115:Tx.getD 115 undef=yx 7:=hK.is 7 ho (by kernel_rfl) (by subst hV;rfl)
   have hW1:PW (dx 4) (dx 6) (dx 7) (dx 10) (yx 6) (yx 7) wx:=hW
   have f4:=hdb 4 (by decide) (by kernel_rfl)
   have f6:=hdb 6 (by decide) (by kernel_rfl)
   have f7:=hdb 7 (by decide) (by kernel_rfl)
   clear hdb hda
   rw [hd,f4,f6,f7] at hW1
   replace f4:=Lib.hid f4
   replace f6:=Lib.hid f6
   replace f7:=Lib.hid f7
   clear hd hW hc
   obtain⟨sa,sn,sc,ey,⟨cv,hcv⟩,hfz,hW2⟩:=cl10 _ _ _ hW1
   rw [ey] at e115
   subst hV
   refine wpOp_plain ho rfl ?_
   go_simp
   simpa [updB,upd,f4.out,f6.out,f7.out] using hW2
 ·have hW1:PW (dx 4) (dx 6) (dx 7) (dx 10) (yx 6) (yx 7) wx:=hW
  rw [hd 4 (by decide),hd 6 (by decide),hd 7 (by decide),hd 10 (by decide)] at hW1
  have hQ:=h _ _ _ hW1
  rw [hsz]
  subst hV hT
  refine cast (congrArg (fun Tx=>Q .normal ⟨Tx,ds⟩ wx) ?_) hQ
  kernel_rfl
end Go.Proofs.YthogppennalobaaGreatDoor.Pl
namespace Go.Proofs.YthogppennalobaaGreatDoor
open Go.RowKit Go.Sort Forest OwnR TxO Pl
structure Lds (w0 w:World)(f:Nat)(rs:List (Nd×Value×Value))(x:Nat)(v:Value): Prop where
 obj:Bk 40 w f #[v,.int .i64 (x:Int)]
 row:Lw 31 15 w0 w v rs.length (rs.flatMap nodeC)
 txs:∀r∈rs,Tx w r.2.1 r.1.scope∧Tx w r.2.2 r.1.actors
 at_:w0.heap.size≤f
theorem Lds.down {w0 w w':World}{f:Nat}{rs:List (Nd×Value×Value)}{x:Nat}{v:Value}(h:Lds w0 w f rs x v)(hb:Below w.heap.size w w'): Lds w0 w' f rs x v:=
 ⟨h.obj.below hb,h.row.down hb,fun r hr=>⟨(h.txs r hr).1.below hb,(h.txs r hr).2.below hb⟩,h.at_⟩
theorem Lds.xr {w0 w:World}{f:Nat}{rs:List (Nd×Value×Value)}{x:Nat}{v:Value}(h:Lds w0 w f rs x v): Xr w f rs (x:Int):=⟨v,h.obj,h.row.1,h.txs⟩
theorem own_lt {e:TypeId}{z n k:Nat}{w0 w:World}{v:Value}{xs:List Value}(h:Lw e z w0 w v n xs)(hk:v.ownBlock=some k): k<w.heap.size:=by
 obtain⟨_,cs,hb⟩:=OwnR.owns_block h.1 hk
 exact hb.lt
theorem Lw.setAt {e:TypeId}{z n:Nat}{w0 w:World}{v:Value}{xs:List Value}{t:TypeId}{f o:Nat}{cs:Array Value}{u:Value}(h:Lw e z w0 w v n xs)(hf:Bk t w f cs)(ht:t≠e)(hw:w0.heap.size≤f): Lw e z w0 (w.setCell ⟨f,o,none⟩ u) v n xs:=
 ⟨OwnR.owns_of h.1 fun g hg _=>heap_setCell_other w ⟨f,o,none⟩ g u fun e2=>OwnR.owns_ne h.1 hf ht (by rw [hg];exact congrArg some e2),h.2.1.setCell (p:=⟨f,o,none⟩) hw u,h.2.2⟩
structure Ldr (w0:World)(f b:Nat)(cs:Array Value)(rs:List (Nd×Value×Value))(n:Nd)(sv av:Value)(x:Nat)(v:Value)(b6 b7 b10:Bool)(y6 y7:Value)(X:World): Prop where
 box:Bk 31 X b cs
 txs:∀r∈rs,Tx X r.2.1 r.1.scope∧Tx X r.2.2 r.1.actors
 ts:Tx X sv n.scope
 ta:Tx X av n.actors
 low:Below w0.heap.size w0 X
 at_:w0.heap.size≤f
 old:∀k,v.ownBlock=some k→k≠b
 obj:b10=false→Bk 40 X f #[v,.int .i64 (x:Int)]
 row:b7=false→Lw 31 15 w0 X v rs.length (rs.flatMap nodeC)
 one:b6=true→b7=false→∃q,y6 = .slice (some ⟨q,0,none⟩) 1 1∧Bk 31 X q cs
 two:b7=true→Lw 31 15 w0 X y7 (rs.length+1) (rs.flatMap nodeC++cs.toList)
 fin:b10=true→Bk 40 X f #[y7,.int .i64 (x:Int)]
theorem Ldr.drew {w0:World}{f b:Nat}{cs:Array Value}{rs:List (Nd×Value×Value)}{n:Nd}{sv av:Value}{x:Nat}{v:Value}{y6 y7:Value}{X:World}(h:Lds w0 X f rs x v)(hb:Bk 31 X b cs)(ho:∀k,v.ownBlock=some k→k≠b)(t1:Tx X sv n.scope)(t2:Tx X av n.actors): Ldr w0 f b cs rs n sv av x v false false false y6 y7 X.drew:=by
 have hd:Below X.heap.size X X.drew:=by go_grown
 have h2:=h.down hd
 exact⟨hb.below hd,h2.txs,t1.below hd,t2.below hd,h2.row.2.1,h.at_,ho,fun _=>h2.obj,fun _=>h2.row,(fun e=>by cases e),(fun e=>by cases e),fun e=>by cases e⟩
theorem Ldr.build {w0:World}{f b:Nat}{cs:Array Value}{rs:List (Nd×Value×Value)}{n:Nd}{sv av:Value}{x:Nat}{v:Value}{y6 y7:Value}{X:World}(h:Ldr w0 f b cs rs n sv av x v false false false y6 y7 X): Ldr w0 f b cs rs n sv av x v true false false (.slice (some ⟨X.heap.size,0,none⟩) 1 1) y7 (X.alloc (.cells cs 31)):=by
 have hd:Below X.heap.size X (X.alloc (.cells cs 31)):=by go_grown
 exact⟨h.box.below hd,fun r hr=>⟨(h.txs r hr).1.below hd,(h.txs r hr).2.below hd⟩,h.ts.below hd,h.ta.below hd,h.low.trans (hd.mono h.low.size),h.at_,h.old,fun _=>(h.obj rfl).below hd,fun _=>(h.row rfl).down hd,fun _ _=>⟨_,rfl,Bk.new rfl⟩,(fun e=>by cases e),fun e=>by cases e⟩
theorem Ldr.app {w0:World}{f b:Nat}{cs:Array Value}{rs:List (Nd×Value×Value)}{n:Nd}{sv av:Value}{x:Nat}{v:Value}{y6 y7:Value}{X:World}(h:Ldr w0 f b cs rs n sv av x v true false false y6 y7 X)(hc:cs.size=15)(h1:cs.all (·.oneCell')=true)(hl:rs.length≤1000000): ∃v' w',(Builtin.append_ #[37,37] 37 #[v,y6]).run Tryz.prog X = .ok v' w'∧Ldr w0 f b cs rs n sv av x v true true false y6 v' w':=by
 obtain⟨q,rfl,hq⟩:=h.one rfl rfl
 have hrow:=h.row rfl
 have hobj:=h.obj rfl
 obtain⟨v',w',hrun,hu,hg⟩:=hrow.app row37 37 ⟨q,0,none⟩ 1 1 cs.toList (by simp [hc]) (fun j u hj=>by
  rw [at0,hq.cell j]
  simpa using hj) (fun u hu=>Array.all_eq_true_iff_forall_mem.1 h1 u (by simpa using hu)) (by unfold maxLen;omega) (by omega)
 refine⟨v',w',hrun,⟨grown_bk hg h.box fun e=>h.old b e rfl,fun r hr=>⟨(h.txs r hr).1.grown hrow.1 hg (by decide),(h.txs r hr).2.grown hrow.1 hg (by decide)⟩,h.ts.grown hrow.1 hg (by decide),h.ta.grown hrow.1 hg (by decide),hu.2.1,h.at_,h.old,fun _=>grown_bk hg hobj (OwnR.owns_ne hrow.1 hobj (by decide)),(fun e=>by cases e),(fun _ e=>by cases e),fun _=>hu,fun e=>by cases e⟩⟩
theorem Ldr.store {w0:World}{f b:Nat}{cs:Array Value}{rs:List (Nd×Value×Value)}{n:Nd}{sv av:Value}{x:Nat}{v:Value}{y6 y7:Value}{X:World}(h:Ldr w0 f b cs rs n sv av x v true true false y6 y7 X): ∃sa sn sc,y7 = .slice sa sn sc∧(∃cv,X.cell? ⟨f,0,none⟩=some cv)∧X.frozen? ⟨f,0,none⟩=false∧Ldr w0 f b cs rs n sv av x v true true true y6 y7 (X.setCell ⟨f,0,none⟩ (.slice sa sn sc)):=by
 have hu:=h.two rfl
 have hobj:=h.obj rfl
 obtain⟨a,c,rfl⟩:=hu.shape
 exact⟨a,_,c,rfl,⟨_,hobj.cell 0⟩,hobj.fro 0,h.box.oth (a:=⟨f,0,none⟩) (bk_ne h.box hobj (by decide)),fun r hr=>⟨(h.txs r hr).1.setCell hobj (by decide),(h.txs r hr).2.setCell hobj (by decide)⟩,h.ts.setCell hobj (by decide),h.ta.setCell hobj (by decide),h.low.setCell (p:=⟨f,0,none⟩) h.at_ _,h.at_,h.old,(fun e=>by cases e),(fun e=>by cases e),(fun _ e=>by cases e),fun _=>hu.setAt hobj (by decide) h.at_,fun _=>Bk.same (i:=0) hobj⟩
theorem Ldr.lds {w0:World}{f b:Nat}{rs:List (Nd×Value×Value)}{n:Nd}{sv av:Value}{x:Nat}{v:Value}{y6 y7:Value}{X:World}(h:Ldr w0 f b (inC n.id n.parent n sv av) rs n sv av x v true true true y6 y7 X): Lds w0 X f (rs++[(n,sv,av)]) x y7:=by
 refine⟨h.fin rfl,?_,fun r hr=>?_,h.at_⟩
 ·have h2:=h.two rfl
  rw [List.flatMap_append,List.length_append]
  have e:[(n,sv,av)].flatMap nodeC=(inC n.id n.parent n sv av).toList:=by simp [nodeC]
  rw [e]
  exact h2
 ·rcases List.mem_append.1 hr with hr | hr
  ·exact h.txs r hr
  ·rw [List.mem_singleton] at hr
   subst hr
   exact⟨h.ts,h.ta⟩
theorem textS_len (st:Rst): (textS st).2.1.length≤st.1.length:=by
 obtain⟨l,b⟩:=st
 cases l with
 |nil=>exact Nat.le_refl _
 |cons s r=>exact Nat.le_succ _
theorem numS_len (lo hi:Nat)(st:Rst): (numS lo hi st).2.1.length≤st.1.length:=by
 unfold numS
 split
 ·split
  ·exact textS_len st
  ·exact textS_len st
 ·exact textS_len st
theorem flagS_len (st:Rst): (flagS st).2.1.length≤st.1.length:=numS_len 0 1 st
theorem listS_len (st:Rst): (listS st).2.1.length≤st.1.length:=by
 have h:=numS_len 0 100000 st
 unfold listS
 split
 ·exact h
 ·simp only [List.length_drop];omega
theorem Tx.rd2 {w:World}{a:Option Addr}{m c:Nat}{l:List Bs}(h:Tx w (.slice a m c) l)(hm:m=l.length): Rd w (.slice a m c) l:=by
 subst hm
 obtain⟨a',c',e,h1,_⟩:=h
 cases e
 exact⟨a,c,rfl,h1⟩
set_option maxHeartbeats 4000000 in
theorem dtext_any (g:Nat)(st:Rst)(hl:st.1.length≤2000000)(w:World)(h:Rr w g st): Calls Tryz.prog 93 #[kpt g] w fun e w'=>e = .returned (.string ⟨(textS st).1.toArray⟩)∧Rr w' g (textS st).2∧Only [g] w w':=by
 obtain⟨l,lost⟩:=st
 obtain⟨a,c,hk,hx,hc⟩:=h
 have HK:=Lib.hid hk
 have HX:=Lib.hid hx
 have f0:w.frozen? ⟨g,0,none⟩=false:=hk.fro 0
 have f1:w.frozen? ⟨g,1,none⟩=false:=hk.fro 1
 unfold kpt
 cases l with
 |nil=>
  have c0:w.cell? ⟨g,0,none⟩=some (.slice a 0 c):=hk.cell 0
  have c1:w.cell? ⟨g,1,none⟩=some (.bool lost):=hk.cell 1
  clear hk hx
  go_enter Tryz.func93,Tryz.ntmps93
  go_wp2_with fail
  go_ret
  exact⟨rfl,⟨a,c,Bk.same (i:=1) (v:= .bool true) HK.out,HX.out.setCell HK.out (by decide),hc⟩,(Only.refl _ _).setCell _ (.inl (by simp)) _⟩
 |cons s r=>
  have c0:w.cell? ⟨g,0,none⟩=some (.slice a (r.length+1) c):=hk.cell 0
  obtain⟨a',c',e,h1,_⟩:=hx
  cases e
  obtain⟨b,o,rfl,h2⟩:=h1 0 (by simp)
  have h3:w.cell? ⟨b,o,none⟩=some (.string ⟨s.toArray⟩):=h2
  have hl2:r.length+1≤2000000:=hl
  have hc2:r.length+1≤c:=hc
  clear hk h1 h2 hl hc
  go_enter Tryz.func93,Tryz.ntmps93
  go_wp2_with fail
  all_goals go_ret
  ·have hr:r=[]:=List.length_eq_zero_iff.1 (by omega)
   subst hr
   exact⟨rfl,⟨_,0,Bk.same (i:=0) HK.out,(HX.out.zero).setCell HK.out (by decide),Nat.le_refl _⟩,(Only.refl _ _).setCell _ (.inl (by simp)) _⟩
  ·have h4:=Tx.drop (x:=[s]) (l:=r) (k:=1) (m:=r.length) (d:=c - 1) HX.out rfl rfl
   simp only [Option.map_some,add_at] at h4
   exact⟨rfl,⟨_,c - 1,Bk.same (i:=0) HK.out,h4.setCell HK.out (by decide),by show r.length≤c - 1;omega⟩,(Only.refl _ _).setCell _ (.inl (by simp)) _⟩
set_option maxHeartbeats 4000000 in
theorem dnum_any (g:Nat)(st:Rst)(hl:st.1.length≤2000000)(lo hi:Nat)(w:World)(h:Rr w g st): Calls Tryz.prog 60 #[kpt g,.int .i64 (lo:Int),.int .i64 (hi:Int)] w fun e w'=>e = .returned (.int .i64 ((numS lo hi st).1:Int))∧Rr w' g (numS lo hi st).2∧Only [g] w w':=by
 have HT:=Lib.hid (dtext_any g st hl w h)
 have HN:=Lib.hid (fun W=>dnumber_any (textS st).1 W)
 obtain⟨R,hR⟩:∃R,R=numS lo hi st:=⟨_,rfl⟩
 rw [← hR]
 unfold numS at hR
 obtain⟨s,st1,hs⟩:∃s st1,textS st=(s,st1):=⟨_,_,rfl⟩
 rw [hs] at HT HN hR
 dsimp only at HT HN hR
 obtain⟨N,hN⟩:∃N,num15 s=N:=⟨_,rfl⟩
 rw [hN] at HN hR
 unfold kpt at HT ⊢
 clear h hl hs hN
 have HRR:=Lib.hid hR
 clear hR
 cases N with
 |none=>
  have hr:R=(lo,(st1.1,true)):=HRR.out
  have HR2:=Lib.hid hr
  clear hr HRR
  simp only [Option.getD_none,Option.isSome_none,Int.ofNat_zero] at HN
  go_enter Tryz.func60,Tryz.ntmps60
  go_wp2_with fail
  refine HT.out.mono ?_
  rintro e w2 ⟨rfl,h2,h3⟩
  have H2:=Lib.hid h2
  have H3:=Lib.hid h3
  obtain⟨a,c,hk,hx,hc⟩:=h2
  have HK:=Lib.hid hk
  have HX:=Lib.hid hx
  have HCC:=Lib.hid hc
  have f1:w2.frozen? ⟨g,1,none⟩=false:=hk.fro 1
  have c1:w2.cell? ⟨g,1,none⟩=_:=hk.cell 1
  clear hk hx hc h3 HT
  go_wp2_with fail
  refine(HN.out _).mono ?_
  rintro e w3 ⟨rfl,rfl⟩
  clear HN
  go_wp2_with fail
  go_ret
  rw [HR2.out]
  exact⟨rfl,⟨a,c,Bk.same (i:=1) (v:= .bool true) HK.out,HX.out.setCell HK.out (by decide),HCC.out⟩,H3.out.setCell _ (.inl (by simp)) _⟩
 |some n=>
  have HRR2:Hid (R=if lo≤n∧n≤hi then (n,st1) else (lo,(st1.1,true))):=Lib.hid HRR.out
  clear HRR
  simp only [Option.getD_some,Option.isSome_some] at HN
  have hcase:((n:Int)<(lo:Int))∨(¬(n:Int)<(lo:Int)∧(hi:Int)<(n:Int))∨(¬(n:Int)<(lo:Int)∧¬(hi:Int)<(n:Int)):=by omega
  rcases hcase with d1 | ⟨d1,d2⟩ | ⟨d1,d2⟩
  case inr.inr=>
   have HR2:Hid (R=(n,st1)):=Lib.hid (by rw [HRR2.out,if_pos (by omega)])
   clear HRR2
   go_enter Tryz.func60,Tryz.ntmps60
   go_wp2_with fail
   refine HT.out.mono ?_
   rintro e w2 ⟨rfl,h2,h3⟩
   have H2:=Lib.hid h2
   have H3:=Lib.hid h3
   clear h2 h3 HT
   go_wp2_with fail
   refine(HN.out _).mono ?_
   rintro e w3 ⟨rfl,rfl⟩
   clear HN
   go_wp2_with fail
   go_ret
   rw [HR2.out]
   exact⟨rfl,H2.out,H3.out⟩
  all_goals (
   have HR2:Hid (R=(lo,(st1.1,true))):=Lib.hid (by rw [HRR2.out,if_neg (by omega)])
   clear HRR2
   go_enter Tryz.func60,Tryz.ntmps60
   go_wp2_with fail
   refine HT.out.mono ?_
   rintro e w2 ⟨rfl,h2,h3⟩
   have H3:=Lib.hid h3
   obtain⟨a,c,hk,hx,hc⟩:=h2
   have HK:=Lib.hid hk
   have HX:=Lib.hid hx
   have HCC:=Lib.hid hc
   have f1:w2.frozen? ⟨g,1,none⟩=false:=hk.fro 1
   have c1:w2.cell? ⟨g,1,none⟩=_:=hk.cell 1
   clear hk hx hc h3 HT
   go_wp2_with fail
   refine(HN.out _).mono ?_
   rintro e w3 ⟨rfl,rfl⟩
   clear HN
   go_wp2_with fail
   go_ret
   rw [HR2.out]
   exact⟨rfl,⟨a,c,Bk.same (i:=1) (v:= .bool true) HK.out,HX.out.setCell HK.out (by decide),HCC.out⟩,H3.out.setCell _ (.inl (by simp)) _⟩)
set_option maxHeartbeats 4000000 in
theorem dflag_any (g:Nat)(st:Rst)(hl:st.1.length≤2000000)(w:World)(h:Rr w g st): Calls Tryz.prog 96 #[kpt g] w fun e w'=>e = .returned (.bool (flagS st).1)∧Rr w' g (flagS st).2∧Only [g] w w':=by
 have HT:=Lib.hid (dnum_any g st hl 0 1 w h)
 obtain⟨R,hR⟩:∃R,R=flagS st:=⟨_,rfl⟩
 rw [← hR]
 unfold flagS at hR
 obtain⟨n,st1,hs⟩:∃n st1,numS 0 1 st=(n,st1):=⟨_,_,rfl⟩
 rw [hs] at HT hR
 have hb:((n:Int) == 1)=(n == 1):=by
  rw [Bool.eq_iff_iff]
  simp
  omega
 have HRR:=Lib.hid hR
 unfold kpt at HT ⊢
 clear h hl hs hR
 go_enter Tryz.func96,Tryz.ntmps96
 go_wp2_with fail
 refine HT.out.mono ?_
 rintro e w2 ⟨rfl,h2,h3⟩
 have H2:=Lib.hid h2
 have H3:=Lib.hid h3
 clear h2 h3 HT
 go_wp2_with fail
 go_ret
 rw [HRR.out]
 exact⟨by simp,H2.out,H3.out⟩
set_option maxHeartbeats 4000000 in
theorem dlist_any (g:Nat)(st:Rst)(hl:st.1.length≤2000000)(w:World)(h:Rr w g st): Calls Tryz.prog 95 #[kpt g] w fun e w'=>∃a c,e = .returned (.slice a (listS st).1.length c)∧Tx w' (.slice a (listS st).1.length c) (listS st).1∧Rr w' g (listS st).2∧Only [g] w w':=by
 have HT:=Lib.hid (dnum_any g st hl 0 100000 w h)
 have HGL:Hid (g<w.heap.size):=Lib.hid (by obtain⟨_,_,hk,_⟩:=h;exact hk.lt)
 obtain⟨R,hR⟩:∃R,R=listS st:=⟨_,rfl⟩
 rw [← hR]
 unfold listS at hR
 have hq:(numS 0 100000 st).2.1.length≤2000000:=Nat.le_trans (numS_len 0 100000 st) hl
 obtain⟨n,l,lost,hs⟩:∃n l lost,numS 0 100000 st=(n,(l,lost)):=⟨_,_,_,rfl⟩
 rw [hs] at HT hR hq
 dsimp only at HT hR hq
 have HRR:=Lib.hid hR
 have HQ:=Lib.hid hq
 have HN:Hid (n≤100000):=Lib.hid (by
  have h1:(numS 0 100000 st).1=n:=congrArg Prod.fst hs
  rw [← h1]
  unfold numS
  split
  ·split
   ·rename_i h;exact h.2
   ·exact Nat.zero_le _
  ·exact Nat.zero_le _)
 unfold kpt at HT ⊢
 clear h hl hs hR
 by_cases hlt:l.length<n
 ·have HR2:Hid (R=([],(l,true))):=Lib.hid (by rw [HRR.out,if_pos hlt])
  have hltI:(l.length:Int)<(n:Int):=by omega
  clear HRR
  go_enter Tryz.func95,Tryz.ntmps95
  go_wp2_with fail
  refine HT.out.mono ?_
  rintro e w2 ⟨rfl,h2,h3⟩
  have H3:=Lib.hid h3
  obtain⟨a,c,hk,hx,hc⟩:=h2
  have HK:=Lib.hid hk
  have HX:=Lib.hid hx
  have HCC:=Lib.hid hc
  have f1:w2.frozen? ⟨g,1,none⟩=false:=hk.fro 1
  have c1:w2.cell? ⟨g,1,none⟩=_:=hk.cell 1
  have c0:w2.cell? ⟨g,0,none⟩=some (.slice a l.length c):=hk.cell 0
  clear hk hx hc h3 HT
  go_wp2_with fail
  go_ret
  rw [HR2.out]
  exact⟨none,0,rfl,⟨none,0,rfl,fun i hi=>absurd hi (by simp),fun q hq=>by cases hq⟩,⟨a,c,Bk.same (i:=1) (v:= .bool true) HK.out,HX.out.setCell HK.out (by decide),HCC.out⟩,H3.out.setCell _ (.inl (by simp)) _⟩
 ·have HR2:Hid (R=(l.take n,(l.drop n,lost))):=Lib.hid (by rw [HRR.out,if_neg hlt])
  have hltI:¬(l.length:Int)<(n:Int):=by omega
  have hleI:(n:Int)≤(l.length:Int):=by omega
  obtain⟨x,hx0⟩:∃x,x=l.take n:=⟨_,rfl⟩
  obtain⟨y,hy0⟩:∃y,y=l.drop n:=⟨_,rfl⟩
  have HL:Hid (l=x++y∧x.length=n):=Lib.hid ⟨by rw [hx0,hy0,List.take_append_drop],by rw [hx0,List.length_take];omega⟩
  rw [← hx0,← hy0] at HR2
  clear HRR hx0 hy0
  go_enter Tryz.func95,Tryz.ntmps95
  go_wp2_with fail
  refine HT.out.mono ?_
  rintro e w2 ⟨rfl,h2,h3⟩
  have H3:=Lib.hid h3
  obtain⟨a,c,hk,hx,hc⟩:=h2
  have HK:=Lib.hid hk
  have HX:=Lib.hid hx
  have HCC:=Lib.hid hc
  have f0:w2.frozen? ⟨g,0,none⟩=false:=hk.fro 0
  have c0:w2.cell? ⟨g,0,none⟩=some (.slice a l.length c):=hk.cell 0
  have hleC:(n:Int)≤(c:Int):=by have:l.length≤c:=hc;omega
  have HRD:Hid (Rd (w2.alloc (.cells #[] 9)) (.slice a n c) x):=Lib.hid (by
   have h4:=hx.below (by go_grown:Below w2.heap.size w2 (w2.alloc (.cells #[] 9)))
   rw [HL.out.1] at h4
   have h5:=h4.take (x:=x) (l:=y) (d:=c)
   rw [HL.out.2] at h5
   exact h5.rd2 HL.out.2.symm)
  have HE:Hid (Lw 9 1 w2 (w2.alloc (.cells #[] 9)) (.slice (some ⟨w2.heap.size,0,none⟩) 0 0) 0 []):=Lib.hid (Lw.empty 9 1 (Below.refl _ _))
  have BE:Below w2.heap.size w2 (w2.alloc (.cells #[] 9)):=by go_grown
  have d0:(w2.alloc (.cells #[] 9)).cell? ⟨g,0,none⟩=some (.slice a l.length c):=cell_below BE c0
  have HSZ:Hid ((0+x.length)*16≤140737488355328):=Lib.hid (by have:=HL.out.2;have:=HN.out;omega)
  obtain⟨xn,hxn⟩:∃xn,xn=x.length:=⟨_,rfl⟩
  have HXN:Hid (xn=n∧xn=x.length):=Lib.hid ⟨by rw [hxn,HL.out.2],hxn⟩
  clear hk hx hc h3 HT BE hxn
  go_upto_region 6 with (at_builtin;refine wp_rows rfl _ _ rfl (.slice (some ⟨w2.heap.size,0,none⟩) 0 0) (.slice a n c) [] x rfl rfl HE.out HRD.out HSZ.out ?_;intro v1 w3 hs1 hg1;simp only [Nat.zero_add,List.nil_append] at hs1;obtain⟨ya,yc,rfl⟩:=hs1.shape;have K3:=Lib.hid (HK.out.below hs1.2.1);have X3:=Lib.hid (HX.out.below hs1.2.1);have S3:=Lib.hid hs1;have f3:w3.frozen? ⟨g,0,none⟩=false:=K3.out.fro 0;have c3:w3.cell? ⟨g,0,none⟩=some (.slice a l.length c):=K3.out.cell 0;clear hs1 hg1)
  go_wp2_with fail
  all_goals go_ret
  all_goals rw [HR2.out]
  all_goals have hll:l.length=n+y.length:=by have h1:=congrArg List.length HL.out.1;rw [List.length_append,HL.out.2] at h1;exact h1
  all_goals have hO:=(H3.out.trans (Only.of (L:=[]) S3.out.2.1) (fun x hx=>by cases hx))
  ·have hle:l.length≤c:=HCC.out
   have hy:y=[]:=List.length_eq_zero_iff.1 (by omega)
   have hz:l.length - n=0:=by omega
   subst hy
   rw [hz]
   exact⟨ya,yc,rfl,(Lw.tx S3.out).setCell K3.out (by decide),⟨a,0,Bk.same (i:=0) K3.out,(X3.out.zero).setCell K3.out (by decide),Nat.le_refl _⟩,hO.setCell _ (.inl (by simp)) _⟩
  ·have h4:=X3.out
   rw [HL.out.1] at h4
   have h5:=h4.drop (k:=n) (m:=y.length) (d:=c - n) HL.out.2.symm rfl
   have hz:l.length - n=y.length:=by omega
   rw [hz]
   exact⟨ya,yc,rfl,(Lw.tx S3.out).setCell K3.out (by decide),⟨_,c - n,Bk.same (i:=0) K3.out,h5.setCell K3.out (by decide),by have:l.length≤c:=HCC.out;show y.length≤c - n;omega⟩,hO.setCell _ (.inl (by simp)) _⟩
theorem ext_mid (l:Bs)(a b:Nat): (⟨l.toArray⟩:ByteArray).extract a b=⟨((l.drop a).take (b - a)).toArray⟩:=by
 apply ByteArray.ext
 simp [ByteArray.data_extract]
set_option maxHeartbeats 4000000 in
theorem dnum8_any (s:Bs)(hl8:s.length=8)(w:World): Calls Tryz.prog 94 #[.string ⟨s.toArray⟩] w fun e w'=>e = .returned (.tuple #[.int .i64 (((if s.all digitB then valD s else 0):Nat):Int),.bool (s.all digitB)])∧w'=w:=by
 have hz:(⟨s.toArray⟩:ByteArray).size=s.length:=size_ba s
 obtain⟨R,hR⟩:∃R,R=s.all digitB:=⟨_,rfl⟩
 obtain⟨V,hV⟩:∃V,V=if s.all digitB then valD s else 0:=⟨_,rfl⟩
 rw [← hV,← hR]
 have HR:=Lib.hid hR
 have HV:=Lib.hid hV
 have HL:=Lib.hid hl8
 clear hR hV
 go_enter Tryz.func94,Tryz.ntmps94
 go_wp2_with fail
 go_loopw [4,5] (fun av iv wr=>∃i:Nat,i≤s.length∧iv = .int .i64 (i:Int)∧(∃m:Nat,av = .int .i64 (m:Int)∧Hid (m=valF 0 (s.take i)))∧Hid ((s.take i).all digitB=true)∧wr=w) (fun _ iv _=>s.length - (intOf iv).toNat)
 case atStart=>exact⟨0,Nat.zero_le _,rfl,⟨0,rfl,Lib.hid rfl⟩,Lib.hid rfl,rfl⟩
 case round=>
  obtain⟨i,hi,rfl,⟨m,rfl,HM⟩,HD,rfl⟩:=hrel
  have hl:s.length≤8:=by have:=HL.out;omega
  by_cases hlt:i<s.length
  ·have hltI:(i:Int)<(s.length:Int):=by omega
   obtain⟨b,hb⟩:∃b,s[i]=b:=⟨_,rfl⟩
   obtain⟨x,hx⟩:∃x:Int,((((⟨s.toArray⟩:ByteArray)[i]'(by rw [hz];exact hlt)).toNat:Nat):Int)=x:=⟨_,rfl⟩
   have hxb:(b.toNat:Int)=x:=by rw [← hx,← hb];rfl
   have HXB:=Lib.hid hxb
   have HBB:=Lib.hid hb
   clear hxb hb
   by_cases hd:digitB b=true
   ·have hdg:=digit_le hd
    have hx1:¬x<48:=by have:=HXB.out;omega
    have hx2:¬57<x:=by have:=HXB.out;omega
    have HM2:Hid (valF 0 (s.take (i+1))=m*10+(b.toNat - 48)):=Lib.hid (by rw [valF_take hlt,← HM.out,HBB.out])
    have HD2:Hid ((s.take (i+1)).all digitB=true):=Lib.hid (all_take hlt HD.out (by rw [HBB.out];exact hd))
    have hm:m*10+(b.toNat - 48)<1000000000000000:=by
     have h1:=val_le 15 HD2.out (by rw [List.length_take];omega)
     unfold valD at h1
     rw [HM2.out] at h1
     exact h1
    obtain⟨d,hdd⟩:∃d:Nat,x=(d:Int)+48:=⟨b.toNat - 48,by have:=HXB.out;omega⟩
    have hd9:d≤9:=by omega
    have hbd:b.toNat - 48=d:=by have:=HXB.out;omega
    rw [hbd] at hm HM2
    subst hdd
    have w1:IntKind.u8.wrap ((d:Int)+48 - 48)=(d:Int):=by rw [show((d:Int)+48 - 48)=(d:Int) by omega,IntKind.wrap_u8];omega
    clear hdg hbd hd hl8
    go_wp2_with fail
    go_roundw
    case rel=>exact⟨i+1,by omega,by go_num,⟨m*10+d,by go_num,Lib.hid HM2.out.symm⟩,HD2,trivial⟩
    case measure=>simp [intOf];omega
   ·have hr:R=false:=by
     rw [HR.out]
     cases hq:s.all digitB with
     |false=>rfl
     |true=>
      have:=List.all_eq_true.1 hq _ (List.getElem_mem hlt)
      rw [HBB.out] at this
      exact absurd this hd
    have hv:V=0:=by
     rw [HV.out,← HR.out,hr]
     rfl
    have hxx:x<48∨(¬x<48∧57<x):=by
     have:=HXB.out
     unfold digitB at hd
     simp only [Bool.and_eq_true,decide_eq_true_eq] at hd
     omega
    subst hr hv
    clear HR HV hd hl8
    rcases hxx with h1 | ⟨h1,h2⟩
    ·go_wp2_with fail
     go_ret2
     exact⟨rfl,rfl⟩
    ·go_wp2_with fail
     go_ret2
     exact⟨rfl,rfl⟩
  ·have hie:i=s.length:=by omega
   have hltI:¬(i:Int)<(s.length:Int):=by omega
   have hr:R=true:=by
    have h1:=HD.out
    rw [hie,List.take_length] at h1
    rw [HR.out,h1]
   have hv:V=m:=by
    rw [HV.out,← HR.out,hr,HM.out,hie,List.take_length]
    rfl
   subst hr hv
   clear hie HM HR HV
   rw [hl8]
   go_wp2_with fail
   go_ret2
   exact⟨by simp,rfl⟩
theorem takeT_colon {d r:Bs}(h:∀b∈d,b≠58)(hr:r.length<1000000000000000): takeT (d++58::r)=(num15 d).bind fun n=>if n≤r.length then some (r.take n,r.drop n) else none:=by
 unfold takeT
 rw [cutC_of d r h]
 simp only [Option.bind_some]
 cases hq:num15 d with
 |some n=>rw [num15_some hq,numD_dec]
 |none=>
  cases hd:numD d with
  |none=>rfl
  |some n=>
   simp only [Option.bind_some,Option.bind_none]
   rw [if_neg fun hle=>by
    rw [numD_some hd,num15_dec n (by omega)] at hq
    cases hq]
theorem takeT_none {s:Bs}(h:∀b∈s,b≠58): takeT s=none:=by
 unfold takeT
 cases hq:cutC s with
 |none=>rfl
 |some p=>
  have:=(cutC_some (d:=p.1) (b:=p.2) (by rw [hq])).1
  exact absurd rfl (h 58 (by rw [this];simp))
set_option maxHeartbeats 8000000 in
theorem dtexts_any (s:Bs)(hs:s.length≤2000000)(w:World): Calls Tryz.prog 59 #[.string ⟨s.toArray⟩] w fun e w'=>∃v,e = .returned (.tuple #[v,.bool (textsL s).isSome])∧Lw 9 1 w w' v ((textsL s).getD []).length (((textsL s).getD []).map txt):=by
 have hz:(⟨s.toArray⟩:ByteArray).size=s.length:=size_ba s
 obtain⟨R,hR⟩:∃R,R=textsL s:=⟨_,rfl⟩
 rw [← hR]
 have HR:=Lib.hid hR
 have HS:=Lib.hid hs
 clear hR
 go_enter Tryz.func59,Tryz.ntmps59
 go_wp2_with fail
 go_loopw [4,5] (fun ov av wr=>∃(p:Nat) (acc:List Bs) (i:Nat),p≤s.length∧av = .int .i64 (p:Int)∧i=acc.length∧Hid (R=(textsL (s.drop p)).map (acc++·))∧Hid (i≤p)∧Hid (Lw 9 1 w wr ov i (acc.map txt))) (fun _ av _=>s.length - (intOf av).toNat)
 case atStart=>exact⟨0,[],0,Nat.zero_le _,rfl,rfl,Lib.hid (by rw [HR.out,List.drop_zero];cases textsL s<;>rfl),Lib.hid (Nat.le_refl _),Lib.hid (Lw.empty 9 1 (Below.refl _ _))⟩
 case round=>
  obtain⟨p,acc,i,hp,rfl,hi,HQ,HIP,HI⟩:=hrel
  have HIL:=Lib.hid hi
  clear hi
  have HZ:Hid (∀W,Below wr.heap.size wr W→Lw 9 1 w W (.slice none 0 0) 0 []):=Lib.hid (fun W hb=>⟨⟨by simp,.inl ⟨rfl,rfl⟩⟩,HI.out.2.1.trans (hb.mono HI.out.2.1.size),fun k hk=>by cases hk⟩)
  by_cases hlt:p<s.length
  ·have hltI:(p:Int)<(s.length:Int):=by omega
   obtain⟨wo,hwo⟩:∃wo,wo=wr:=⟨_,rfl⟩
   have HWO:=Lib.hid hwo
   rw [← hwo]
   clear hwo
   go_wp2_with fail
   go_loopw [6] (fun kv wx=>∃k:Nat,p≤k∧k≤s.length∧kv = .int .i64 (k:Int)∧Hid (∀j (h:j<s.length),p≤j→j<k→s[j]≠58)∧wx=wo) (fun kv _=>s.length - (intOf kv).toNat)
   case atStart=>exact⟨p,Nat.le_refl _,hp,rfl,Lib.hid (fun j _ h1 h2=>by omega),rfl⟩
   case round=>
    obtain⟨k,hpk,hk,rfl,HK,rfl⟩:=hrel
    by_cases hkl:k<s.length
    ·have hklI:(k:Int)<(s.length:Int):=by omega
     obtain⟨b,hb⟩:∃b,s[k]=b:=⟨_,rfl⟩
     obtain⟨x,hx⟩:∃x:Int,((((⟨s.toArray⟩:ByteArray)[k]'(by rw [hz];exact hkl)).toNat:Nat):Int)=x:=⟨_,rfl⟩
     have hxb:(b.toNat:Int)=x:=by rw [← hx,← hb];rfl
     have HXB:=Lib.hid hxb
     have HBB:=Lib.hid hb
     clear hxb hb
     by_cases h58:x=58
     ·have hb58:b=58:=by apply UInt8.toNat_inj.1;have:=HXB.out;show b.toNat=58;omega
      obtain⟨D,hD⟩:∃D,D=(s.drop p).take (k - p):=⟨_,rfl⟩
      obtain⟨r,hr⟩:∃r,r=s.drop (k+1):=⟨_,rfl⟩
      have HE1:Hid ((⟨s.toArray⟩:ByteArray).extract p k=⟨D.toArray⟩):=Lib.hid (by rw [ext_mid,hD])
      have HRL:Hid (r.length+k+1=s.length):=Lib.hid (by rw [hr,List.length_drop];omega)
      have HDR:Hid (s.drop p=D++58::r):=Lib.hid (by
       have h1:s.drop k=58::r:=by rw [List.drop_eq_getElem_cons hkl,HBB.out,hb58,hr]
       have h2:(s.drop p).drop (k - p)=58::r:=by rw [List.drop_drop,show p+(k - p)=k by omega,h1]
       rw [← h2,hD,List.take_append_drop])
      have HDN:Hid (∀z∈D,z≠58):=Lib.hid (fun z hz=>by
       rw [hD] at hz
       obtain⟨j,hj,rfl⟩:=List.getElem_of_mem hz
       rw [List.length_take,List.length_drop] at hj
       rw [List.getElem_take,List.getElem_drop]
       exact HK.out (p+j) (by omega) (by omega) (by omega))
      have HTK:Hid (takeT (s.drop p)=(num15 D).bind fun n=>if n≤r.length then some (r.take n,r.drop n) else none):=Lib.hid (by
       rw [HDR.out]
       exact takeT_colon HDN.out (by have:=HRL.out;have:=HS.out;omega))
      have HNE:Hid (s.drop p≠[]):=Lib.hid (by rw [HDR.out];simp)
      have HN:=Lib.hid (fun W=>dnumber_any D W)
      obtain⟨N,hN⟩:∃N,num15 D=N:=⟨_,rfl⟩
      rw [hN] at HTK HN
      have hpkI:(p:Int)≤(k:Int):=by omega
      have hkI:(k:Int)≤(s.length:Int):=by omega
      have hkne:((k:Int) == (s.length:Int))=false:=by simp;omega
      have HXR:Hid ((⟨s.toArray⟩:ByteArray).extract (k+1) s.length=⟨r.toArray⟩):=Lib.hid (by rw [ext_drop,hr])
      have HRD:=Lib.hid hr
      subst h58
      clear hD hr hb58 hN HDR HDN HK HXB HBB
      cases N with
      |none=>
       have hrn:R=none:=by
        rw [HQ.out,textsL_none HTK.out HNE.out]
        rfl
       simp only [Option.getD_none,Option.isSome_none,Int.ofNat_zero] at HN
       subst hrn
       go_wp2_with fail
       first | rw [HE1.out] | skip
       refine(HN.out _).mono ?_
       rintro e w3 ⟨rfl,rfl⟩
       clear HN
       go_wp2_with fail
       go_ret2
       exact⟨_,rfl,HZ.out _ (by rw [HWO.out];exact Below.refl _ _)⟩
      |some n=>
       simp only [Option.getD_some,Option.isSome_some] at HN
       have hsl:=HS.out
       by_cases hle:n≤r.length
       ·have hltI2:¬(s.length:Int) - (k:Int) - 1<(n:Int):=by have:=HRL.out;omega
        obtain⟨t,ht⟩:∃t,t=r.take n:=⟨_,rfl⟩
        have HE2:Hid ((⟨s.toArray⟩:ByteArray).extract (k+1) (k+1+n)=⟨t.toArray⟩):=Lib.hid (by rw [ext_mid,ht,HRD.out,show k+1+n - (k+1)=n by omega])
        have hb1:(k:Int)+1≤(k:Int)+1+(n:Int):=by omega
        have hb2:(k:Int)+1+(n:Int)≤(s.length:Int):=by have:=HRL.out;omega
        have HQ2:Hid (R=(textsL (s.drop (k+1+n))).map ((acc++[t])++·)):=Lib.hid (by
         have h1:takeT (s.drop p)=some (t,s.drop (k+1+n)):=by
          rw [HTK.out,Option.bind_some,if_pos hle,← ht,HRD.out,List.drop_drop]
         rw [HQ.out,textsL_cons h1,Option.map_map]
         congr 1
         funext l
         simp)
        have HPP:Hid (k+1+n≤s.length∧i+1≤k+1+n):=Lib.hid (by have:=HRL.out;have:=HIP.out;omega)
        have HDD:Hid (i+1≤4194304):=Lib.hid (by have:=HPP.out;omega)
        have HI2:Hid (∀o,Lw 9 1 w (wr.alloc o) u4 i (acc.map txt)):=Lib.hid fun o=>(by have h:=HI.out;rw [← HWO.out] at h;exact h.down (by go_grown))
        clear ht HTK hle
        go_wp2_with fail
        first | rw [HE1.out] | skip
        refine(HN.out _).mono ?_
        rintro e w3 ⟨rfl,rfl⟩
        clear HN
        go_wp2_with (at_builtin;refine wp_one row29 rfl _ _ rfl u4 (acc.map txt) w3.heap.size 1 #[.string ⟨t.toArray⟩] rfl rfl (HI2.out _) (by rw [HE2.out];exact Bk.new rfl) rfl (by simp [Value.oneCell']) HDD.out (by decide) ?_;intro v' w5 hs5 hg5;have HS5:=Lib.hid hs5;clear hs5 hg5)
        go_wp2_with fail
        go_roundw
        case rel=>exact⟨k+1+n,acc++[t],i+1,HPP.out.1,by go_num,by rw [List.length_append,HIL.out];rfl,HQ2,Lib.hid HPP.out.2,Lib.hid (by rw [List.map_append];exact HS5.out)⟩
        case measure=>simp [intOf];omega
       ·have hltI2:(s.length:Int) - (k:Int) - 1<(n:Int):=by have:=HRL.out;omega
        have hrn:R=none:=by
         rw [HQ.out,textsL_none (by rw [HTK.out,Option.bind_some,if_neg hle]) HNE.out]
         rfl
        subst hrn
        go_wp2_with fail
        first | rw [HE1.out] | skip
        refine(HN.out _).mono ?_
        rintro e w3 ⟨rfl,rfl⟩
        clear HN
        go_wp2_with fail
        go_ret2
        exact⟨_,rfl,HZ.out _ (by rw [HWO.out];exact Below.refl _ _)⟩
     ·have hne:(x == 58)=false:=by simpa using h58
      have HK2:Hid (∀j (h:j<s.length),p≤j→j<k+1→s[j]≠58):=Lib.hid (fun j hj h1 h2=>by
       by_cases e:j=k
       ·subst e
        rw [HBB.out]
        intro e2
        exact h58 (by rw [← HXB.out,e2];rfl)
       ·exact HK.out j hj h1 (by omega))
      go_wp2_with fail
      go_roundw
      case rel=>exact⟨k+1,by omega,by omega,by go_num,HK2,trivial⟩
      case measure=>simp [intOf];omega
    ·have hkl2:k=s.length:=by omega
     have hklI:¬(k:Int)<(s.length:Int):=by omega
     obtain⟨D,hD⟩:∃D,D=s.drop p:=⟨_,rfl⟩
     have HE1:Hid ((⟨s.toArray⟩:ByteArray).extract p k=⟨D.toArray⟩):=Lib.hid (by rw [hkl2,ext_drop,hD])
     have hrn:R=none:=by
      rw [HQ.out,textsL_none (takeT_none fun z hz=>by
       obtain⟨j,hj,rfl⟩:=List.getElem_of_mem hz
       rw [List.length_drop] at hj
       rw [List.getElem_drop]
       exact HK.out (p+j) (by omega) (by omega) (by omega)) (by intro e;have:=congrArg List.length e;rw [List.length_drop] at this;simp at this;omega)]
      rfl
     have HN:=Lib.hid (fun W=>dnumber_any D W)
     obtain⟨N,hN⟩:∃N,num15 D=N:=⟨_,rfl⟩
     rw [hN] at HN
     have hpkI:(p:Int)≤(k:Int):=by omega
     have hkI:(k:Int)≤(s.length:Int):=by omega
     have hkeq:((k:Int) == (s.length:Int))=true:=by simp;omega
     subst hrn
     clear hD hN HK hkl2
     cases N with
     |none=>
      simp only [Option.getD_none,Option.isSome_none,Int.ofNat_zero] at HN
      go_wp2_with fail
      first | rw [HE1.out] | skip
      refine(HN.out _).mono ?_
      rintro e w3 ⟨rfl,rfl⟩
      clear HN
      go_wp2_with fail
      go_ret2
      exact⟨_,rfl,HZ.out _ (by rw [HWO.out];exact Below.refl _ _)⟩
     |some n=>
      simp only [Option.getD_some,Option.isSome_some] at HN
      go_wp2_with fail
      first | rw [HE1.out] | skip
      refine(HN.out _).mono ?_
      rintro e w3 ⟨rfl,rfl⟩
      clear HN
      go_wp2_with fail
      go_ret2
      exact⟨_,rfl,HZ.out _ (by rw [HWO.out];exact Below.refl _ _)⟩
  ·have hpe:p=s.length:=by omega
   have hltI:¬(p:Int)<(s.length:Int):=by omega
   have hrn:R=some acc:=by
    rw [HQ.out,hpe,List.drop_length]
    show Option.map _ (some [])=_
    simp
   subst hrn
   have hi:=HIL.out
   clear hpe HQ HR
   go_wp2_with fail
   go_ret2
   exact⟨_,rfl,by rw [← hi] at *;exact HI.out⟩
end Go.Proofs.YthogppennalobaaGreatDoor
