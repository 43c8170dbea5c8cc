/- PROVED HERE: all that is a principal's is never live again when it was killed, and nothing else dies of that but what hangs on it (ForestEnds, the first form: within the form's reach), tied to the program's text. -/
import Derived.Test.YthogppennalobaaGreatDoorZf35
import Derived.Test.YthogppennalobaaGreatDoorZf24
import Derived.Deep.MidRow
import Derived.Test.YthogppennalobaaGreatDoorZf02
import Derived.Test.YthogppennalobaaGreatDoorZf08
import Derived.Test.YthogppennalobaaGreatDoorZf11
import Derived.Test.YthogppennalobaaGreatDoorZf20
set_option linter.unusedVariables false
set_option linter.unusedSimpArgs false
set_option maxRecDepth 100000
namespace Go.Proofs.YthogppennalobaaGreatDoor
open Go.RowKit Go.Sort Forest OwnR TxO Pl
theorem wp_one2 {t e:TypeId}{z b n:Nat}(hT:RowT t e z b){ops:Array Oper}{rest:List Oper}{o:Oper}{a:Act}{Q:Exit→Act→World→Prop}{w0 W:World}(hgd:o.guard=none)(s x:Operand)(ho:o.op = .call {callee:= .builtin .append,args:=#[s,x],argTypes:=#[t,t]})
  (v:Value) (xs:List Value) (q c:Nat) (cs:Array Value) (hs:a.eval s=v) (hx:a.eval x = .slice (some ⟨q,0,none⟩) 1 c) (hI:Lw e z w0 W v n xs) (hq:Bk e W q cs) (hz:cs.size=z) (h1:cs.all (·.oneCell')=true) (h63:n+1≤4194304) (hb:b≤4096)
  (h:∀v' w',Lw e z w0 w' v' (n+1) (xs++cs.toList)→W.grownBy w' v.ownBlock→(v'.ownBlock=v.ownBlock∨∀k,v'.ownBlock=some k→W.heap.size≤k)→wpList Tryz.prog ops Q rest (a.put o.dst v') w'):wpList Tryz.prog ops Q (o::rest) a W:=by
 obtain⟨v',w',hrun,hu,hg,hv⟩:=hI.app2 hT o.type ⟨q,0,none⟩ 1 c cs.toList (by simp [hz]) (fun j u hj=>by
  rw [at0,hq.cell j]
  simpa using hj) (fun u hu=>by
   have h2:=Array.all_eq_true_iff_forall_mem.1 h1 u (by simpa using hu)
   exact h2) (by unfold maxLen;omega) (by
    have:=Nat.mul_le_mul (show n+1≤4194304 from h63) hb
    omega)
 exact Lib.wpList_append_run W hgd s x t t ho _ _ hs hx v' w' hrun (h v' w' hu hg hv)
structure Bb (w0 w:World)(u v:Value)(i j:Nat)(xs ys:List Value): Prop where
 a:Lw 4 1 w0 w u i xs
 b:Lw 4 1 w0 w v j ys
 ap:∀q,u.ownBlock=some q→v.ownBlock≠some q
theorem Bb.down {w0 w w':World}{u v:Value}{i j:Nat}{xs ys:List Value}(h:Bb w0 w u v i j xs ys)(hb:Below w.heap.size w w'): Bb w0 w' u v i j xs ys:=⟨h.a.down hb,h.b.down hb,h.ap⟩
theorem Bb.swap {w0 w:World}{u v:Value}{i j:Nat}{xs ys:List Value}(h:Bb w0 w u v i j xs ys): Bb w0 w v u j i ys xs:=⟨h.b,h.a,fun q h1 h2=>h.ap q h2 h1⟩
theorem Lw.beside {w0 W w':World}{u v:Value}{m:Nat}{ys zs:List Value}{u':Value}{k:Nat}(h:Lw 4 1 w0 W v m ys)(hu:Lw 4 1 w0 w' u' k zs)(hg:W.grownBy w' u.ownBlock)(hd:∀q,u.ownBlock=some q→v.ownBlock≠some q): Lw 4 1 w0 w' v m ys:=by
 refine⟨World.ownsRow.kept h.1 hg ?_,hu.2.1,h.2.2⟩
 cases hv:v.ownBlock with
 |none=>exact .inl rfl
 |some q=>exact .inr fun e=>hd q e.symm hv
theorem Bb.one {w0 W w':World}{u u' v:Value}{i j k:Nat}{xs ys zs:List Value}(h:Bb w0 W u v i j xs ys)(hu:Lw 4 1 w0 w' u' k zs)(hg:W.grownBy w' u.ownBlock)(ho:u'.ownBlock=u.ownBlock∨∀k,u'.ownBlock=some k→W.heap.size≤k): Bb w0 w' u' v k j zs ys:=
 ⟨hu,h.b.beside hu hg h.ap,fun q h1 h2=>by
  rcases ho with h3 | h3
  ·exact h.ap q (h3▸h1) h2
  ·have h4:=h3 q h1
   have h5:=Lw.lt h.b h2
   omega⟩
theorem Bb.new {w0 w:World}(hb:Below w0.heap.size w0 w): Bb w0 ((w.alloc (.cells #[] 4)).alloc (.cells #[] 4)) (.slice (some ⟨w.heap.size,0,none⟩) 0 0) (.slice (some ⟨(w.alloc (.cells #[] 4)).heap.size,0,none⟩) 0 0) 0 0 [] []:=
 ⟨(Lw.empty 4 1 hb).down (by go_grown),Lw.empty 4 1 (hb.trans ((show Below w.heap.size w (w.alloc (.cells #[] 4)) by go_grown).mono hb.size)),fun q h e=>by
  have h1:w.heap.size=q:=Option.some.inj h
  have h2:(w.alloc (.cells #[] 4)).heap.size=q:=Option.some.inj e
  have h3:(w.alloc (.cells #[] 4)).heap.size=w.heap.size+1:=Array.size_push _
  omega⟩
theorem own_falls {l:List Nd}(h:Ok l)(p:Bs)(now:Int){n:Nd}(hn:n∈l):
  liveP (killOfP l p).2 (n.id:Int) now=(liveP l (n.id:Int) now&&!(path l n.id).any fun m=>isOfP m p):=by
 show liveP (l.map fun n=>if isOfP n p then killF n else n) _ _=_
 exact fall_live (S:=fun n=>isOfP n p) ⟨fun n=>by split<;>rfl,fun n=>by split<;>rfl⟩ (fun n=>by split<;>simp_all [killF]) (fun n=>by split<;>rfl) (fun n=>by split<;>rfl) h now hn
theorem own_path {l:List Nd}(h:Ok l)(p:Bs){n:Nd}(hn:n∈l): pathN (killOfP l p).2 (n.id:Int)=(path l n.id).map fun m=>(m.id:Int):=
 fall_path (F:=fun n=>if isOfP n p then killF n else n) ⟨fun n=>by split<;>rfl,fun n=>by split<;>rfl⟩ h hn
theorem own_again (l:List Nd)(p:Bs): (killOfP (killOfP l p).2 p).1=0:=by
 show((((l.map fun n=>if isOfP n p then killF n else n).filter fun n=>isOfP n p&&!n.dead).length:Nat):Int)=0
 have:((l.map fun n=>if isOfP n p then killF n else n).filter fun n=>isOfP n p&&!n.dead)=[]:=by
  rw [List.filter_eq_nil_iff]
  intro n hn
  obtain⟨m,hm,rfl⟩:=List.mem_map.1 hn
  by_cases hp:isOfP m p=true
  ·rw [if_pos hp];simp [killF]
  ·rw [if_neg hp];simp [hp]
 rw [this]
 rfl
theorem own_twice (l:List Nd)(p:Bs): (killOfP (killOfP l p).2 p).2=(killOfP l p).2:=by
 show(l.map fun n=>if isOfP n p then killF n else n).map (fun n=>if isOfP n p then killF n else n)=l.map fun n=>if isOfP n p then killF n else n
 rw [List.map_map]
 refine List.map_congr_left fun n _=>?_
 show(if isOfP (if isOfP n p then killF n else n) p then killF (if isOfP n p then killF n else n) else (if isOfP n p then killF n else n))=_
 by_cases hp:isOfP n p=true
 ·rw [if_pos hp,if_pos (show isOfP (killF n) p=true from hp)]
  rfl
 ·rw [if_neg hp,if_neg hp]
def ofId (l:List Nd)(p:Bs)(k:Int): Bool:=l.any fun n=>((n.id:Int) == k)&&isOfP n p
theorem ofId_of {l:List Nd}(h:Ok l)(p:Bs){m:Nd}(hm:m∈l): ofId l p (m.id:Int)=isOfP m p:=by
 unfold ofId
 cases e:isOfP m p with
 |true=>
  rw [List.any_eq_true]
  exact⟨m,hm,by rw [e];simp⟩
 |false=>
  rw [List.any_eq_false]
  intro n hn
  by_cases hi:n.id=m.id
  ·have:n=m:=h.same hn hm hi
   rw [this,e];simp
  ·have:((n.id:Int) == (m.id:Int))=false:=by rw [beq_eq_false_iff_ne];omega
   rw [this];simp
theorem own_hangs {l:List Nd}(h:Ok l)(p:Bs){n:Nd}(hn:n∈l): ((path l n.id).map fun m=>(m.id:Int)).any (ofId l p)=(path l n.id).any fun m=>isOfP m p:=by
 rw [List.any_map]
 have:∀m∈path l n.id,(ofId l p ∘ fun m:Nd=>(m.id:Int)) m=isOfP m p:=fun m hm=>ofId_of h p (path_mem h n.id m hm).1
 generalize path l n.id=P at this
 induction P with
 |nil=>rfl
 |cons a t ih=>
  rw [List.any_cons,List.any_cons,this a (by simp),ih fun m hm=>this m (by simp [hm])]
theorem any_take_or {p:Nd→Bool}{L:List Nd}{k:Nat}(h:k<L.length): (L.take (k+1)).any p=((L.take k).any p||p L[k]):=by
 rw [List.take_add_one,List.getElem?_eq_getElem h,Option.toList_some,List.any_append]
 simp
theorem count_take {p:Nd→Bool}{L:List Nd}{k:Nat}(h:k<L.length): ((L.take (k+1)).filter p).length=((L.take k).filter p).length+if p L[k] then 1 else 0:=by
 rw [List.take_add_one,List.getElem?_eq_getElem h,Option.toList_some,List.filter_append,List.length_append]
 congr 1
 by_cases hp:p L[k]=true
 ·rw [if_pos hp,List.filter_cons_of_pos hp];rfl
 ·rw [if_neg hp,List.filter_cons_of_neg hp];rfl
theorem cat_two {l:Bs}: (⟨#[99,58]⟩:ByteArray)++⟨l.toArray⟩=⟨([99,58]++l).toArray⟩:=cat_ba l
end Go.Proofs.YthogppennalobaaGreatDoor
namespace Go.Proofs.YthogppennalobaaGreatDoor.Pl
open Go.RowKit Go.Sort
noncomputable def enTO:Array Oper:=(Tryz.f7.body.bind fun c=>findR c 30).getD #[]
def enT_m:List (List Nat):=[[],[],[],[],[],[],[],[],[],[],[],[],[7],[7],[7],[7],[7]]
set_option maxHeartbeats 16000000 in
theorem enT (PW:Bool→World→Prop)(f q o N c z p cz i:Nat)(A B:Int)(hb:Bool)(w:World)  (hc:∀(b7:Bool) (w:World),PW b7  w→w.cell? ⟨q,o+i*15,none⟩=some (.int .i64 A))(hz:∀(b7:Bool) (w:World),PW b7  w→w.cell? ⟨z,p+i,none⟩=some (.bool true))(cl7:∀(w:World),PW false w→Calls Tryz.prog 27 #[.pointer (some ⟨f,0,none⟩),.int .i64 A,.int .i64 B] w fun e w1=>e = .returned (.bool (!hb))∧PW true  w1)(hiN:i<N)(hiI:(i:Int)<(N:Int)){t0 t1 t3 t4 t5 t6 t10 t11 t12 t13 t15 t17 t18 t19 t20 t21 t22 t23 t24 t25 t26 t27 t28 t29 t30 t31 t32 t33 t34 t35 t36 t37 t38 t39 t40 t41 t42 t43 t44 t45 t46 t47 t48 t49 t50 t51 t52 t53 t54 t55 t56 t57 t58 t59 t60 t61 t62 t63 t64 t65 t66 t67 t68 t69 t70 t71 t72 t73 t74 t75 t76 t77 t78 t79 t80 t81 t82 t83 t84 t85 t86 t87 t88 t89 t90 t91 t92 t93 t94 t95 t96 t97 t98 t99 t100 t101 t102 t103 t104 t105 t106 t107 t108 t109 t110 t111 t112 t113 t114 t115 t116 t117 t118 t119 t120 t121 t122 t123 t124 t125 t126 t127 t128 t129 t130 t131 t132 t133 t134 t135 t136 t137 t138 t139 t140 t141 t142 t143 t144 t145 t146 t147 t148 t149 t150 t151 t152 t153 t154 t155 t156:Value}(w0:PW false  w.drew){ds:List Deferred}{Q:Exit→Act→World→Prop}
  (h:∀(w1:World),PW true  w1→Q .normal {tmps:=#[t0,t1,.int .i64 B,t3,t4,t5,t6,.pointer (some ⟨f,0,none⟩),.slice (some ⟨q,o,none⟩) N c,.slice (some ⟨z,p,none⟩) N cz,t10,t11,t12,t13,.int .i64 (i:Int),t15,.bool hb,t17,t18,t19,t20,t21,t22,t23,t24,t25,t26,t27,t28,t29,t30,t31,t32,t33,t34,t35,t36,t37,t38,t39,t40,t41,t42,t43,t44,t45,t46,t47,t48,t49,t50,t51,t52,t53,t54,t55,t56,t57,t58,t59,t60,t61,t62,t63,t64,t65,t66,t67,t68,t69,t70,t71,t72,t73,t74,t75,t76,t77,t78,t79,t80,t81,t82,t83,t84,t85,t86,t87,t88,t89,t90,t91,t92,t93,t94,t95,t96,t97,t98,t99,t100,t101,t102,t103,t104,t105,t106,t107,t108,t109,t110,t111,t112,t113,t114,t115,t116,t117,t118,t119,t120,t121,t122,t123,t124,t125,t126,t127,t128,t129,t130,t131,t132,t133,t134,t135,t136,t137,t138,.pointer (some ⟨f,0,none⟩),.slice (some ⟨q,o,none⟩) N c,.int .i64 (i:Int),.pointer (some ⟨q,o+i*15,none⟩),.pointer (some ⟨q,o+i*15,none⟩),.int .i64 A,.int .i64 B,.bool (!hb),.slice (some ⟨z,p,none⟩) N cz,.int .i64 (i:Int),.pointer (some ⟨z,p+i,none⟩),.bool true,.bool true,.bool hb,.bool (!hb),.bool (!hb),.bool false,t156],defers:=ds} w1) :
  (Code.region 30 enTO true).wp Tryz.prog Q {tmps:=#[t0,t1,.int .i64 B,t3,t4,t5,t6,.pointer (some ⟨f,0,none⟩),.slice (some ⟨q,o,none⟩) N c,.slice (some ⟨z,p,none⟩) N cz,t10,t11,t12,t13,.int .i64 (i:Int),t15,.bool hb,t17,t18,t19,t20,t21,t22,t23,t24,t25,t26,t27,t28,t29,t30,t31,t32,t33,t34,t35,t36,t37,t38,t39,t40,t41,t42,t43,t44,t45,t46,t47,t48,t49,t50,t51,t52,t53,t54,t55,t56,t57,t58,t59,t60,t61,t62,t63,t64,t65,t66,t67,t68,t69,t70,t71,t72,t73,t74,t75,t76,t77,t78,t79,t80,t81,t82,t83,t84,t85,t86,t87,t88,t89,t90,t91,t92,t93,t94,t95,t96,t97,t98,t99,t100,t101,t102,t103,t104,t105,t106,t107,t108,t109,t110,t111,t112,t113,t114,t115,t116,t117,t118,t119,t120,t121,t122,t123,t124,t125,t126,t127,t128,t129,t130,t131,t132,t133,t134,t135,t136,t137,t138,t139,t140,t141,t142,t143,t144,t145,t146,t147,t148,t149,t150,t151,t152,t153,t154,t155,t156],defers:=ds} w:=by
 have hsz:enTO.size=17:=by kernel_rfl
 generalize hT:List.toArray _=T0
 have hs:T0.size=157:=by subst hT;rfl
 have g2:T0.getD 2 undef = .int .i64 B:=by subst hT;rfl
 have g7:T0.getD 7 undef = .pointer (some ⟨f,0,none⟩):=by subst hT;rfl
 have g8:T0.getD 8 undef = .slice (some ⟨q,o,none⟩) N c:=by subst hT;rfl
 have g9:T0.getD 9 undef = .slice (some ⟨z,p,none⟩) N cz:=by subst hT;rfl
 have g14:T0.getD 14 undef = .int .i64 (i:Int):=by subst hT;rfl
 have g16:T0.getD 16 undef = .bool hb:=by subst hT;rfl
 obtain⟨W,hV⟩:∃W:List ((Nat×(Value→Value)) ⊕ Value),W=[.inr (.pointer (some ⟨f,0,none⟩)),.inr (.slice (some ⟨q,o,none⟩) N c),.inr (.int .i64 (i:Int)),.inr (.pointer (some ⟨q,o+i*15,none⟩)),.inr (.pointer (some ⟨q,o+i*15,none⟩)),.inr (.int .i64 A),.inr (.int .i64 B),.inr (.bool (!hb)),.inr (.slice (some ⟨z,p,none⟩) N cz),.inr (.int .i64 (i:Int)),.inr (.pointer (some ⟨z,p+i,none⟩)),.inr (.bool true),.inr (.bool true),.inr (.bool hb),.inr (.bool (!hb)),.inr (.bool (!hb)),.inr (.bool false)]:=⟨_,rfl⟩
 refine wp_plan (by kernel_rfl) T0 ds [7] enT_m (mkV W) (fun dx yx wx=>PW (dx 7)  wx) w (by rw [hs];kernel_rfl) (by kernel_rfl) (by kernel_rfl) (by rw [hsz];decide) (fun cx hc ix hne ha yx vx=>mkV_fix (by rw [hV];kernel_rfl) hne ha yx vx) (?key) (fun cx hc ox ho dx yx Tx wx hd hdb hda hK hW=>?_) ⟨fun k=>undef,w0⟩ (fun dx yx wx hd hW=>?_)
 case key=>
  rw [hsz]
  refine all_step (all_step (all_step (all_step (all_step (all_step (all_step (all_step (all_step (all_step (all_step (all_step (all_step (all_step (all_step (all_step (all_step all_zero ?_) ?_) ?_) ?_) ?_) ?_) ?_) ?_) ?_) ?_) ?_) ?_) ?_) ?_) ?_) ?_) ?_
  all_goals
   intro ox ho hic dx yx Tx wx hdb hK hW
   replace hdb:=Lib.hid hdb
  ·exact pl0 139 7 23 ho hK (by kernel_rfl) (by kernel_rfl) g7 (by subst hV;rfl) fun ps af e=>k_mv e
  ·exact pl0 140 8 37 ho hK (by kernel_rfl) (by kernel_rfl) g8 (by subst hV;rfl) fun ps af e=>k_mv e
  ·exact pl0 141 14 3 ho hK (by kernel_rfl) (by kernel_rfl) g14 (by subst hV;rfl) fun ps af e=>k_mv e
  ·obtain⟨ps,af,rfl⟩:=core (some 142) (.indexAddr 37 (.tmp 140) (.tmp 141)) 0 none ho (by kernel_rfl)
   have e140:Tx.getD 140 undef = .slice (some ⟨q,o,none⟩) N c:=hK.is 1 ho (by kernel_rfl) (by subst hV;rfl)
   have e141:Tx.getD 141 undef = .int .i64 (i:Int):=hK.is 2 ho (by kernel_rfl) (by subst hV;rfl)
   exact wpOp_plain ho rfl (by subst hV;go_simp;try rfl)
  ·obtain⟨ps,af,rfl⟩:=core (some 143) (.fieldAddr 31 (.tmp 142) 0) 0 none ho (by kernel_rfl)
   have e142:Tx.getD 142 undef = .pointer (some ⟨q,o+i*15,none⟩):=hK.is 3 ho (by kernel_rfl) (by subst hV;rfl)
   exact wpOp_plain ho rfl (by subst hV;go_simp;try rfl)
  ·obtain⟨ps,af,rfl⟩:=core (some 144) (.load 3 (.tmp 143)) 3 none ho (by kernel_rfl)
   have e143:Tx.getD 143 undef = .pointer (some ⟨q,o+i*15,none⟩):=hK.is 4 ho (by kernel_rfl) (by subst hV;rfl)
   have hl:=hc _ _ hW
   exact wpOp_plain ho rfl (by subst hV;go_simp;try rfl)
  ·exact pl0 145 2 3 ho hK (by kernel_rfl) (by kernel_rfl) g2 (by subst hV;rfl) fun ps af e=>k_mv e
  ·exact absurd (by decide) hic
  ·exact pl0 147 9 61 ho hK (by kernel_rfl) (by kernel_rfl) g9 (by subst hV;rfl) fun ps af e=>k_mv e
  ·exact pl0 148 14 3 ho hK (by kernel_rfl) (by kernel_rfl) g14 (by subst hV;rfl) fun ps af e=>k_mv e
  ·obtain⟨ps,af,rfl⟩:=core (some 149) (.indexAddr 61 (.tmp 147) (.tmp 148)) 0 none ho (by kernel_rfl)
   have e147:Tx.getD 147 undef = .slice (some ⟨z,p,none⟩) N cz:=hK.is 8 ho (by kernel_rfl) (by subst hV;rfl)
   have e148:Tx.getD 148 undef = .int .i64 (i:Int):=hK.is 9 ho (by kernel_rfl) (by subst hV;rfl)
   exact wpOp_plain ho rfl (by subst hV;go_simp;try rfl)
  ·obtain⟨ps,af,rfl⟩:=core (some 150) (.load 4 (.tmp 149)) 4 none ho (by kernel_rfl)
   have e149:Tx.getD 149 undef = .pointer (some ⟨z,p+i,none⟩):=hK.is 10 ho (by kernel_rfl) (by subst hV;rfl)
   have hl:=hz _ _ hW
   exact wpOp_plain ho rfl (by subst hV;go_simp;try rfl)
  ·exact pl1 151 150 11 4 ho hK (by kernel_rfl) (by kernel_rfl) (by subst hV;rfl) (by subst hV;rfl) fun ps af e=>k_mv e
  ·exact pg0 12 151 true 152 16 4 ho hK (by kernel_rfl) (by kernel_rfl) (by kernel_rfl) (by subst hV;rfl) (by kernel_rfl) g16 (by subst hV;rfl) fun ps af e=>k_mv e
  ·obtain⟨ps,af,rfl⟩:=core (some 153) (.unOp UnOp.not 4 (.tmp 152)) 4 (some (12,true)) ho (by kernel_rfl)
   have e152:Tx.getD 152 undef = .bool hb:=hK.is 13 ho (by kernel_rfl) (by subst hV;rfl)
   exact wpOp_want ho ((wanted_of (d:=151) (b:=true) rfl (by kernel_rfl) (hK.is 12 ho (by kernel_rfl) (by subst hV;rfl))).trans rfl) (by subst hV;go_simp;try rfl)
  ·obtain⟨ps,af,rfl⟩:=core (some 154) (.pick (.tmp 151) (.tmp 153) (.const (Value.bool false))) 4 none ho (by kernel_rfl)
   have e151:Tx.getD 151 undef = .bool true:=hK.is 12 ho (by kernel_rfl) (by subst hV;rfl)
   have e153:Tx.getD 153 undef = .bool (!hb):=hK.is 14 ho (by kernel_rfl) (by subst hV;rfl)
   exact wpOp_plain ho rfl (by subst hV;go_simp;try rfl)
  ·obtain⟨ps,af,rfl⟩:=core (some 155) (.binOp BinOp.neq 4 (.tmp 146) (.tmp 154) 4) 4 none ho (by kernel_rfl)
   have e146:Tx.getD 146 undef = .bool (!hb):=hK.is 7 ho (by kernel_rfl) (by subst hV;rfl)
   have e154:Tx.getD 154 undef = .bool (!hb):=hK.is 15 ho (by kernel_rfl) (by subst hV;rfl)
   exact wpOp_plain ho rfl (by subst hV;go_simp;try rfl)
 ·obtain rfl:cx=7:=by simpa using hc
  ·obtain⟨ps,af,rfl⟩:=core (some 146) (.call {callee:= .value (.func 27),args:=#[.tmp 139,.tmp 144,.tmp 145],argTypes:=#[23,3,3]}) 4 none ho (by kernel_rfl)
   have e139:Tx.getD 139 undef = .pointer (some ⟨f,0,none⟩):=hK.is 0 ho (by kernel_rfl) (by subst hV;rfl)
   have e144:Tx.getD 144 undef = .int .i64 A:=hK.is 5 ho (by kernel_rfl) (by subst hV;rfl)
   have e145:Tx.getD 145 undef = .int .i64 B:=hK.is 6 ho (by kernel_rfl) (by subst hV;rfl)
   have hW1:PW (dx 7)  wx:=hW
   clear hdb hda
   rw [hd] at hW1
   clear hd hW hc
   refine wpOp_plain ho rfl ?_
   go_simp
   go_at_call 27
   refine(cl7 _ hW1).mono ?_
   rintro ex w2 ⟨rfl,hW2⟩
   subst hV
   first | refine⟨undef,rfl,?_⟩ | refine⟨⟨undef,rfl⟩,?_⟩
   simpa [updB,upd] using hW2
 ·have hW1:PW (dx 7)  wx:=hW
  rw [hd 7 (by decide)] at hW1
  have hQ:=h _ hW1
  rw [hsz]
  subst hV hT
  refine cast (congrArg (fun Tx=>Q .normal ⟨Tx,ds⟩ wx) ?_) hQ
  kernel_rfl
noncomputable def enFO:Array Oper:=(Tryz.f7.body.bind fun c=>findR c 30).getD #[]
def enF_m:List (List Nat):=[[],[],[],[],[],[],[],[],[],[],[],[],[7],[7],[7],[7],[7]]
set_option maxHeartbeats 16000000 in
theorem enF (PW:Bool→World→Prop)(f q o N c z p cz i:Nat)(A B:Int)(hb:Bool)(w:World)  (hc:∀(b7:Bool) (w:World),PW b7  w→w.cell? ⟨q,o+i*15,none⟩=some (.int .i64 A))(hz:∀(b7:Bool) (w:World),PW b7  w→w.cell? ⟨z,p+i,none⟩=some (.bool false))(cl7:∀(w:World),PW false w→Calls Tryz.prog 27 #[.pointer (some ⟨f,0,none⟩),.int .i64 A,.int .i64 B] w fun e w1=>e = .returned (.bool false)∧PW true  w1)(hiN:i<N)(hiI:(i:Int)<(N:Int)){t0 t1 t3 t4 t5 t6 t10 t11 t12 t13 t15 t17 t18 t19 t20 t21 t22 t23 t24 t25 t26 t27 t28 t29 t30 t31 t32 t33 t34 t35 t36 t37 t38 t39 t40 t41 t42 t43 t44 t45 t46 t47 t48 t49 t50 t51 t52 t53 t54 t55 t56 t57 t58 t59 t60 t61 t62 t63 t64 t65 t66 t67 t68 t69 t70 t71 t72 t73 t74 t75 t76 t77 t78 t79 t80 t81 t82 t83 t84 t85 t86 t87 t88 t89 t90 t91 t92 t93 t94 t95 t96 t97 t98 t99 t100 t101 t102 t103 t104 t105 t106 t107 t108 t109 t110 t111 t112 t113 t114 t115 t116 t117 t118 t119 t120 t121 t122 t123 t124 t125 t126 t127 t128 t129 t130 t131 t132 t133 t134 t135 t136 t137 t138 t139 t140 t141 t142 t143 t144 t145 t146 t147 t148 t149 t150 t151 t152 t153 t154 t155 t156:Value}(w0:PW false  w.drew){ds:List Deferred}{Q:Exit→Act→World→Prop}
  (h:∀(w1:World),PW true  w1→Q .normal {tmps:=#[t0,t1,.int .i64 B,t3,t4,t5,t6,.pointer (some ⟨f,0,none⟩),.slice (some ⟨q,o,none⟩) N c,.slice (some ⟨z,p,none⟩) N cz,t10,t11,t12,t13,.int .i64 (i:Int),t15,.bool hb,t17,t18,t19,t20,t21,t22,t23,t24,t25,t26,t27,t28,t29,t30,t31,t32,t33,t34,t35,t36,t37,t38,t39,t40,t41,t42,t43,t44,t45,t46,t47,t48,t49,t50,t51,t52,t53,t54,t55,t56,t57,t58,t59,t60,t61,t62,t63,t64,t65,t66,t67,t68,t69,t70,t71,t72,t73,t74,t75,t76,t77,t78,t79,t80,t81,t82,t83,t84,t85,t86,t87,t88,t89,t90,t91,t92,t93,t94,t95,t96,t97,t98,t99,t100,t101,t102,t103,t104,t105,t106,t107,t108,t109,t110,t111,t112,t113,t114,t115,t116,t117,t118,t119,t120,t121,t122,t123,t124,t125,t126,t127,t128,t129,t130,t131,t132,t133,t134,t135,t136,t137,t138,.pointer (some ⟨f,0,none⟩),.slice (some ⟨q,o,none⟩) N c,.int .i64 (i:Int),.pointer (some ⟨q,o+i*15,none⟩),.pointer (some ⟨q,o+i*15,none⟩),.int .i64 A,.int .i64 B,.bool false,.slice (some ⟨z,p,none⟩) N cz,.int .i64 (i:Int),.pointer (some ⟨z,p+i,none⟩),.bool false,.bool false,undef,undef,.bool false,.bool false,t156],defers:=ds} w1) :
  (Code.region 30 enFO true).wp Tryz.prog Q {tmps:=#[t0,t1,.int .i64 B,t3,t4,t5,t6,.pointer (some ⟨f,0,none⟩),.slice (some ⟨q,o,none⟩) N c,.slice (some ⟨z,p,none⟩) N cz,t10,t11,t12,t13,.int .i64 (i:Int),t15,.bool hb,t17,t18,t19,t20,t21,t22,t23,t24,t25,t26,t27,t28,t29,t30,t31,t32,t33,t34,t35,t36,t37,t38,t39,t40,t41,t42,t43,t44,t45,t46,t47,t48,t49,t50,t51,t52,t53,t54,t55,t56,t57,t58,t59,t60,t61,t62,t63,t64,t65,t66,t67,t68,t69,t70,t71,t72,t73,t74,t75,t76,t77,t78,t79,t80,t81,t82,t83,t84,t85,t86,t87,t88,t89,t90,t91,t92,t93,t94,t95,t96,t97,t98,t99,t100,t101,t102,t103,t104,t105,t106,t107,t108,t109,t110,t111,t112,t113,t114,t115,t116,t117,t118,t119,t120,t121,t122,t123,t124,t125,t126,t127,t128,t129,t130,t131,t132,t133,t134,t135,t136,t137,t138,t139,t140,t141,t142,t143,t144,t145,t146,t147,t148,t149,t150,t151,t152,t153,t154,t155,t156],defers:=ds} w:=by
 have hsz:enFO.size=17:=by kernel_rfl
 generalize hT:List.toArray _=T0
 have hs:T0.size=157:=by subst hT;rfl
 have g2:T0.getD 2 undef = .int .i64 B:=by subst hT;rfl
 have g7:T0.getD 7 undef = .pointer (some ⟨f,0,none⟩):=by subst hT;rfl
 have g8:T0.getD 8 undef = .slice (some ⟨q,o,none⟩) N c:=by subst hT;rfl
 have g9:T0.getD 9 undef = .slice (some ⟨z,p,none⟩) N cz:=by subst hT;rfl
 have g14:T0.getD 14 undef = .int .i64 (i:Int):=by subst hT;rfl
 have g16:T0.getD 16 undef = .bool hb:=by subst hT;rfl
 obtain⟨W,hV⟩:∃W:List ((Nat×(Value→Value)) ⊕ Value),W=[.inr (.pointer (some ⟨f,0,none⟩)),.inr (.slice (some ⟨q,o,none⟩) N c),.inr (.int .i64 (i:Int)),.inr (.pointer (some ⟨q,o+i*15,none⟩)),.inr (.pointer (some ⟨q,o+i*15,none⟩)),.inr (.int .i64 A),.inr (.int .i64 B),.inr (.bool false),.inr (.slice (some ⟨z,p,none⟩) N cz),.inr (.int .i64 (i:Int)),.inr (.pointer (some ⟨z,p+i,none⟩)),.inr (.bool false),.inr (.bool false),.inr undef,.inr undef,.inr (.bool false),.inr (.bool false)]:=⟨_,rfl⟩
 refine wp_plan (by kernel_rfl) T0 ds [7] enF_m (mkV W) (fun dx yx wx=>PW (dx 7)  wx) w (by rw [hs];kernel_rfl) (by kernel_rfl) (by kernel_rfl) (by rw [hsz];decide) (fun cx hc ix hne ha yx vx=>mkV_fix (by rw [hV];kernel_rfl) hne ha yx vx) (?key) (fun cx hc ox ho dx yx Tx wx hd hdb hda hK hW=>?_) ⟨fun k=>undef,w0⟩ (fun dx yx wx hd hW=>?_)
 case key=>
  rw [hsz]
  refine all_step (all_step (all_step (all_step (all_step (all_step (all_step (all_step (all_step (all_step (all_step (all_step (all_step (all_step (all_step (all_step (all_step all_zero ?_) ?_) ?_) ?_) ?_) ?_) ?_) ?_) ?_) ?_) ?_) ?_) ?_) ?_) ?_) ?_) ?_
  all_goals
   intro ox ho hic dx yx Tx wx hdb hK hW
   replace hdb:=Lib.hid hdb
  ·exact pl0 139 7 23 ho hK (by kernel_rfl) (by kernel_rfl) g7 (by subst hV;rfl) fun ps af e=>k_mv e
  ·exact pl0 140 8 37 ho hK (by kernel_rfl) (by kernel_rfl) g8 (by subst hV;rfl) fun ps af e=>k_mv e
  ·exact pl0 141 14 3 ho hK (by kernel_rfl) (by kernel_rfl) g14 (by subst hV;rfl) fun ps af e=>k_mv e
  ·obtain⟨ps,af,rfl⟩:=core (some 142) (.indexAddr 37 (.tmp 140) (.tmp 141)) 0 none ho (by kernel_rfl)
   have e140:Tx.getD 140 undef = .slice (some ⟨q,o,none⟩) N c:=hK.is 1 ho (by kernel_rfl) (by subst hV;rfl)
   have e141:Tx.getD 141 undef = .int .i64 (i:Int):=hK.is 2 ho (by kernel_rfl) (by subst hV;rfl)
   exact wpOp_plain ho rfl (by subst hV;go_simp;try rfl)
  ·obtain⟨ps,af,rfl⟩:=core (some 143) (.fieldAddr 31 (.tmp 142) 0) 0 none ho (by kernel_rfl)
   have e142:Tx.getD 142 undef = .pointer (some ⟨q,o+i*15,none⟩):=hK.is 3 ho (by kernel_rfl) (by subst hV;rfl)
   exact wpOp_plain ho rfl (by subst hV;go_simp;try rfl)
  ·obtain⟨ps,af,rfl⟩:=core (some 144) (.load 3 (.tmp 143)) 3 none ho (by kernel_rfl)
   have e143:Tx.getD 143 undef = .pointer (some ⟨q,o+i*15,none⟩):=hK.is 4 ho (by kernel_rfl) (by subst hV;rfl)
   have hl:=hc _ _ hW
   exact wpOp_plain ho rfl (by subst hV;go_simp;try rfl)
  ·exact pl0 145 2 3 ho hK (by kernel_rfl) (by kernel_rfl) g2 (by subst hV;rfl) fun ps af e=>k_mv e
  ·exact absurd (by decide) hic
  ·exact pl0 147 9 61 ho hK (by kernel_rfl) (by kernel_rfl) g9 (by subst hV;rfl) fun ps af e=>k_mv e
  ·exact pl0 148 14 3 ho hK (by kernel_rfl) (by kernel_rfl) g14 (by subst hV;rfl) fun ps af e=>k_mv e
  ·obtain⟨ps,af,rfl⟩:=core (some 149) (.indexAddr 61 (.tmp 147) (.tmp 148)) 0 none ho (by kernel_rfl)
   have e147:Tx.getD 147 undef = .slice (some ⟨z,p,none⟩) N cz:=hK.is 8 ho (by kernel_rfl) (by subst hV;rfl)
   have e148:Tx.getD 148 undef = .int .i64 (i:Int):=hK.is 9 ho (by kernel_rfl) (by subst hV;rfl)
   exact wpOp_plain ho rfl (by subst hV;go_simp;try rfl)
  ·obtain⟨ps,af,rfl⟩:=core (some 150) (.load 4 (.tmp 149)) 4 none ho (by kernel_rfl)
   have e149:Tx.getD 149 undef = .pointer (some ⟨z,p+i,none⟩):=hK.is 10 ho (by kernel_rfl) (by subst hV;rfl)
   have hl:=hz _ _ hW
   exact wpOp_plain ho rfl (by subst hV;go_simp;try rfl)
  ·exact pl1 151 150 11 4 ho hK (by kernel_rfl) (by kernel_rfl) (by subst hV;rfl) (by subst hV;rfl) fun ps af e=>k_mv e
  ·exact psk 12 151 false true ho hK (by kernel_rfl) (by kernel_rfl) (by kernel_rfl) (by subst hV;rfl) rfl (by subst hV;rfl)
  ·exact psk 12 151 false true ho hK (by kernel_rfl) (by kernel_rfl) (by kernel_rfl) (by subst hV;rfl) rfl (by subst hV;rfl)
  ·obtain⟨ps,af,rfl⟩:=core (some 154) (.pick (.tmp 151) (.tmp 153) (.const (Value.bool false))) 4 none ho (by kernel_rfl)
   have e151:Tx.getD 151 undef = .bool false:=hK.is 12 ho (by kernel_rfl) (by subst hV;rfl)
   have e153:Tx.getD 153 undef=undef:=hK.is 14 ho (by kernel_rfl) (by subst hV;rfl)
   exact wpOp_plain ho rfl (by subst hV;go_simp;try rfl)
  ·obtain⟨ps,af,rfl⟩:=core (some 155) (.binOp BinOp.neq 4 (.tmp 146) (.tmp 154) 4) 4 none ho (by kernel_rfl)
   have e146:Tx.getD 146 undef = .bool false:=hK.is 7 ho (by kernel_rfl) (by subst hV;rfl)
   have e154:Tx.getD 154 undef = .bool false:=hK.is 15 ho (by kernel_rfl) (by subst hV;rfl)
   exact wpOp_plain ho rfl (by subst hV;go_simp;try rfl)
 ·obtain rfl:cx=7:=by simpa using hc
  ·obtain⟨ps,af,rfl⟩:=core (some 146) (.call {callee:= .value (.func 27),args:=#[.tmp 139,.tmp 144,.tmp 145],argTypes:=#[23,3,3]}) 4 none ho (by kernel_rfl)
   have e139:Tx.getD 139 undef = .pointer (some ⟨f,0,none⟩):=hK.is 0 ho (by kernel_rfl) (by subst hV;rfl)
   have e144:Tx.getD 144 undef = .int .i64 A:=hK.is 5 ho (by kernel_rfl) (by subst hV;rfl)
   have e145:Tx.getD 145 undef = .int .i64 B:=hK.is 6 ho (by kernel_rfl) (by subst hV;rfl)
   have hW1:PW (dx 7)  wx:=hW
   clear hdb hda
   rw [hd] at hW1
   clear hd hW hc
   refine wpOp_plain ho rfl ?_
   go_simp
   go_at_call 27
   refine(cl7 _ hW1).mono ?_
   rintro ex w2 ⟨rfl,hW2⟩
   subst hV
   first | refine⟨undef,rfl,?_⟩ | refine⟨⟨undef,rfl⟩,?_⟩
   simpa [updB,upd] using hW2
 ·have hW1:PW (dx 7)  wx:=hW
  rw [hd 7 (by decide)] at hW1
  have hQ:=h _ hW1
  rw [hsz]
  subst hV hT
  refine cast (congrArg (fun Tx=>Q .normal ⟨Tx,ds⟩ wx) ?_) hQ
  kernel_rfl
end Go.Proofs.YthogppennalobaaGreatDoor.Pl
namespace Go.Proofs.YthogppennalobaaGreatDoor
open Go.RowKit Go.Sort Forest OwnR TxO Pl
set_option maxHeartbeats 16000000 in
theorem ends_walk {w:World}{vs:Value}{ds:List (OpD×Value×Value)}(hs:Sc w w vs ds)(p:Bs)(hp:p.length≤140737488355328)(now:Int)(hT:Tb w)(hM:Mx w): Calls Tryz.prog 7 #[vs,.string ⟨p.toArray⟩,.int .i64 now] w fun e w'=>e = .returned (.bool true)∧Below w.heap.size w w':=by
 have HMA:=Lib.hid (made_any hs)
 have HFX:=Lib.hid (fun W (hb:Below w.heap.size w W)=>fixed_any W (hT.below hb) (hM.below hb))
 have HPP:=Lib.hid hp
 clear hs hT hM hp
 unfold kpt at HMA
 go_enter Tryz.func7,Tryz.ntmps7
 go_wp2_with fail
 refine HMA.out.mono ?_
 rintro e w1 ⟨f,l,x,rfl,hl,ns,e0,h1⟩
 have N1:=Lib.hid h1
 have HI:=Lib.hid hl
 have HE0:=Lib.hid e0
 have HNO:Hid (Calls Tryz.prog 17 #[.pointer (some ⟨f,0,none⟩)] w1 fun e w'=>∃v rs,e = .returned v∧rs.map (·.1)=nodes ns∧Nr w' v rs∧Below w1.heap.size w1 w'∧∀k,v.ownBlock=some k→w1.heap.size≤k):=Lib.hid (nodes_call N1.out.fr (few_ns HE0.out HI.out) (by rw [HE0.out];exact HI.out.short))
 clear HMA h1 hl e0
 go_wp2_with fail
 refine HNO.out.mono ?_
 rintro e w3 ⟨v,rs,rfl,hr1,hr2,hr3,_⟩
 obtain⟨av,cv,rfl⟩:=OwnR.owns_shape hr2.1
 have N3:=Lib.hid (N1.out.down hr3)
 have HRL:Hid (rs.map (·.1)=l):=Lib.hid (by rw [hr1,HE0.out])
 have HRN:=Lib.hid hr2
 obtain⟨M,hM⟩:∃M,M=rs.length:=⟨_,rfl⟩
 have HML:Hid (M=l.length):=Lib.hid (by rw [hM,← HRL.out,List.length_map])
 have hm2:M≤256:=by have:=HML.out;have:=HI.out.few;omega
 have HCE:Hid (∀i (h:i<l.length),∃q,av=some ⟨q,0,none⟩∧∀V,KeepA w3 V→V.cell? ⟨q,i*15,none⟩=some (.int .i64 ((l[i]'h).id:Int))∧V.cell? ⟨q,i*15+3,none⟩=some (.string ⟨(l[i]'h).subject.toArray⟩)∧V.cell? ⟨q,i*15+4,none⟩=some (.string ⟨(l[i]'h).client.toArray⟩)∧V.cell? ⟨q,i*15+9,none⟩=some (.bool (l[i]'h).dead)):=Lib.hid (fun i hi=>by
  have hi2:i<rs.length:=by rw [← hM,HML.out];exact hi
  obtain⟨q,e,hc⟩:=HRN.out.kept hi2
  refine⟨q,e,fun V hV=>?_⟩
  have e2:l[i]=rs[i].1:=by
   have:l[i]?=(rs.map (·.1))[i]?:=by rw [HRL.out]
   rw [List.getElem?_map,List.getElem?_eq_getElem hi,List.getElem?_eq_getElem hi2] at this
   simpa using this
  rw [e2]
  exact⟨by simpa [nodeC,inC] using hc V hV 0 (by omega),by simpa [nodeC,inC,txt] using hc V hV 3 (by omega),by simpa [nodeC,inC,txt] using hc V hV 4 (by omega),by simpa [nodeC,inC] using hc V hV 9 (by omega)⟩)
 rw [← hM]
 have HE4:Hid (Bb w3 ((w3.alloc (.cells #[] 4)).alloc (.cells #[] 4)) (.slice (some ⟨w3.heap.size,0,none⟩) 0 0) (.slice (some ⟨(w3.alloc (.cells #[] 4)).heap.size,0,none⟩) 0 0) 0 0 [] []):=Lib.hid (Bb.new (Below.refl _ _))
 clear HNO hr1 hr2 hr3 hM HRN HRL N1
 go_wp2_with fail
 obtain⟨wo,hwo⟩:∃y,y=w3:=⟨_,rfl⟩
 go_loopw [9,10,11,12] (fun lv ov mv iv wr=>∃i:Nat,i≤M∧iv = .int .i64 (i:Int)∧mv = .int .i64 ((((l.take i).filter fun n=>isOfP n p&&!n.dead).length:Nat):Int)∧Hid (Bb w3 wr lv ov i i ((l.take i).map fun n=>Value.bool (liveP l (n.id:Int) now)) ((l.take i).map fun n=>Value.bool (isOfP n p)))) (fun _ _ _ iv _=>M - (intOf iv).toNat)
 case atStart=>exact⟨0,Nat.zero_le _,rfl,rfl,Lib.hid (by first | exact HE4.out | simpa using HE4.out)⟩
 case round=>
  obtain⟨i,hi,rfl,rfl,HLW⟩:=hrel
  clear HE4
  obtain⟨ag,cg,rfl⟩:=HLW.out.a.shape
  obtain⟨ao,co,rfl⟩:=HLW.out.b.shape
  have NR:=Lib.hid (N3.out.down HLW.out.a.2.1)
  by_cases hlt:i<M
  ·have hltI:(i:Int)<(M:Int):=by omega
   have hil:i<l.length:=by rw [← HML.out];exact hlt
   obtain⟨q,rfl,hc⟩:=HCE.out i hil
   have HC:=Lib.hid hc
   obtain⟨c0,c3,c4,c9x⟩:=hc wr (KeepA.of HLW.out.a.2.1)
   clear c9x
   have HTK:Hid ((l.take (i+1)).map (fun n=>Value.bool (liveP l (n.id:Int) now))=(l.take i).map (fun n=>Value.bool (liveP l (n.id:Int) now))++[Value.bool (liveP l ((l[i]'hil).id:Int) now)]):=Lib.hid (by rw [List.take_add_one,List.getElem?_eq_getElem hil,Option.toList_some,List.map_append];rfl)
   have HTO:Hid ((l.take (i+1)).map (fun n=>Value.bool (isOfP n p))=(l.take i).map (fun n=>Value.bool (isOfP n p))++[Value.bool (isOfP (l[i]'hil) p)]):=Lib.hid (by rw [List.take_add_one,List.getElem?_eq_getElem hil,Option.toList_some,List.map_append];rfl)
   have HTC:=Lib.hid (count_take (p:=fun n=>isOfP n p&&!n.dead) hil)
   have HLV:Hid (∀V,Below wr.heap.size wr V→Calls Tryz.prog 27 #[.pointer (some ⟨f,0,none⟩),.int .i64 ((l[i]'hil).id:Int),.int .i64 now] V fun e w'=>e = .returned (.bool (liveP l ((l[i]'hil).id:Int) now))∧Below V.heap.size V w'):=Lib.hid (fun V hV=>by
    have:=live_any (NR.out.down hV).fr (few_ns HE0.out HI.out) ((l[i]'hil).id:Int) now
    rw [HE0.out] at this
    exact this)
   have HOW:=Lib.hid (own_eq (l[i]'hil) p)
   have hcl:(l[i]'hil).client.length≤140737488355328:=(HI.out.mid _ (List.getElem_mem hil)).client
   obtain⟨n,hn⟩:∃n,n=l[i]'hil:=⟨_,rfl⟩
   rw [← hn] at HC c0 c3 c4 HTK HTO HTC HLV HOW hcl
   obtain⟨K,hK⟩:∃K,K=((l.take i).filter fun n=>isOfP n p&&!n.dead).length:=⟨_,rfl⟩
   have hKb:K≤256:=by
    rw [hK]
    have h1:=List.length_filter_le (fun n=>isOfP n p&&!n.dead) (l.take i)
    have h2:(l.take i).length=i:=by rw [List.length_take];omega
    omega
   rw [← hK] at HTC ⊢
   obtain⟨lb,hlb⟩:∃z,z=liveP l (n.id:Int) now:=⟨_,rfl⟩
   rw [← hlb] at HTK HLV
   obtain⟨s,hsu⟩:∃z,z=n.subject:=⟨_,rfl⟩
   obtain⟨c,hcc⟩:∃z,z=n.client:=⟨_,rfl⟩
   unfold ownR at HOW
   rw [← hsu] at c3 HOW
   rw [← hcc] at c4 HOW hcl
   obtain⟨dd,hdd⟩:∃z,z=n.dead:=⟨_,rfl⟩
   rw [← hdd] at HC HTC
   have HCW:Hid (∀V,KeepA w3 V→V.cell? ⟨q,i*15,none⟩=some (.int .i64 (n.id:Int))∧V.cell? ⟨q,i*15+9,none⟩=some (.bool dd)):=Lib.hid (fun V hV=>⟨(HC.out V hV).1,(HC.out V hV).2.2.2⟩)
   obtain⟨mine,hmine⟩:∃z,z=isOfP n p:=⟨_,rfl⟩
   rw [← hmine] at HTO HTC HOW
   have HRG:Hid (Below w3.heap.size w3 wr):=Lib.hid HLW.out.a.2.1
   have HLS:=Lib.hid HLW.out
   clear hc HC hlb hsu hcc hdd hmine hK NR HLW hn hil
   cases hs:(s == p) with
   |true=>
    go_upto_region 12 with fail
    obtain rfl:mine=true:=by rw [← HOW.out,hs];rfl
    clear HOW c3 c4 hcl hs
    go_wp2_with fail
    refine(HLV.out wr (Below.refl _ _)).mono ?_
    rintro e w5 ⟨rfl,hb5⟩
    have HL5:=Lib.hid (HLS.out.down hb5)
    clear hb5 HLV HLS c0
    go_upto_region 13 with (at_builtin;refine wp_one2 row61 rfl _ _ rfl _ ((l.take i).map fun n=>Value.bool (liveP l (n.id:Int) now)) w5.heap.size 1 #[.bool lb] rfl rfl (HL5.out.a.down (by go_grown)) (Bk.new rfl) rfl (by simp [Value.oneCell']) (by omega) (by decide) ?_;intro v' w6 hs6 hg6 ho6;have H6:=Lib.hid (Bb.one (HL5.out.down (by go_grown)) hs6 hg6 ho6);obtain⟨a6,c6,rfl⟩:=hs6.shape;clear hs6 hg6 ho6)
    clear HL5
    go_upto_region 14 with (at_builtin;refine wp_one2 row61 rfl _ _ rfl _ ((l.take i).map fun n=>Value.bool (isOfP n p)) w6.heap.size 1 #[.bool true] rfl rfl (H6.out.b.down (by go_grown)) (Bk.new rfl) rfl (by simp [Value.oneCell']) (by omega) (by decide) ?_;intro v' w7 hs7 hg7 ho7;have H7:=Lib.hid (Bb.swap (Bb.one (H6.out.down (by go_grown)).swap hs7 hg7 ho7));clear hs7 hg7 ho7)
    have HB7:Hid (Bb w3 w7 (.slice a6 (i+1) c6) v' (i+1) (i+1) ((l.take (i+1)).map fun n=>Value.bool (liveP l (n.id:Int) now)) ((l.take (i+1)).map fun n=>Value.bool (isOfP n p))):=Lib.hid (by rw [HTK.out,HTO.out];exact H7.out)
    clear H6 H7
    have c9:=(HCW.out w7 (KeepA.of HB7.out.a.2.1)).2
    cases dd with
    |true=>
     go_wp2_with fail
     go_roundw
     case rel=>exact⟨i+1,by omega,by go_num,by rw [HTC.out];simp,by first | exact HB7 | exact Lib.hid HB7.out⟩
     case measure=>simp [intOf];omega
    |false=>
     go_wp2_with fail
     go_roundw
     case rel=>exact⟨i+1,by omega,by go_num,by rw [HTC.out];simp,by first | exact HB7 | exact Lib.hid HB7.out⟩
     case measure=>simp [intOf];omega
   |false=>
    cases hc0:(c == []) with
    |true=>
     go_upto_region 12 with fail
     obtain rfl:mine=false:=by rw [← HOW.out,hs,hc0];rfl
     clear HOW c3 c4 hcl hs hc0
     go_wp2_with fail
     refine(HLV.out wr (Below.refl _ _)).mono ?_
     rintro e w5 ⟨rfl,hb5⟩
     have HL5:=Lib.hid (HLS.out.down hb5)
     clear hb5 HLV HLS c0
     go_upto_region 13 with (at_builtin;refine wp_one2 row61 rfl _ _ rfl _ ((l.take i).map fun n=>Value.bool (liveP l (n.id:Int) now)) w5.heap.size 1 #[.bool lb] rfl rfl (HL5.out.a.down (by go_grown)) (Bk.new rfl) rfl (by simp [Value.oneCell']) (by omega) (by decide) ?_;intro v' w6 hs6 hg6 ho6;have H6:=Lib.hid (Bb.one (HL5.out.down (by go_grown)) hs6 hg6 ho6);obtain⟨a6,c6,rfl⟩:=hs6.shape;clear hs6 hg6 ho6)
     clear HL5
     go_upto_region 14 with (at_builtin;refine wp_one2 row61 rfl _ _ rfl _ ((l.take i).map fun n=>Value.bool (isOfP n p)) w6.heap.size 1 #[.bool false] rfl rfl (H6.out.b.down (by go_grown)) (Bk.new rfl) rfl (by simp [Value.oneCell']) (by omega) (by decide) ?_;intro v' w7 hs7 hg7 ho7;have H7:=Lib.hid (Bb.swap (Bb.one (H6.out.down (by go_grown)).swap hs7 hg7 ho7));clear hs7 hg7 ho7)
     have HB7:Hid (Bb w3 w7 (.slice a6 (i+1) c6) v' (i+1) (i+1) ((l.take (i+1)).map fun n=>Value.bool (liveP l (n.id:Int) now)) ((l.take (i+1)).map fun n=>Value.bool (isOfP n p))):=Lib.hid (by rw [HTK.out,HTO.out];exact H7.out)
     clear H6 H7
     have c9:=(HCW.out w7 (KeepA.of HB7.out.a.2.1)).2
     clear c9
     go_wp2_with fail
     go_roundw
     case rel=>exact⟨i+1,by omega,by go_num,by rw [HTC.out];simp,by first | exact HB7 | exact Lib.hid HB7.out⟩
     case measure=>simp [intOf];omega
    |false=>
     have hz:(⟨c.toArray⟩:ByteArray).size=c.length:=size_ba c
     have hI:¬9223372036854775807<2+c.length:=by omega
     have hx:=cat_two (l:=c)
     cases hcp:([99,58]++c == p) with
     |true=>
      have hcq:(99::58::c == p)=true:=hcp
      go_upto_region 12 with fail
      obtain rfl:mine=true:=by rw [← HOW.out,hs,hc0,hcp];rfl
      clear HOW c3 c4 hs hc0 hcp hz hI hx hcq hcl
      go_wp2_with fail
      refine(HLV.out wr (Below.refl _ _)).mono ?_
      rintro e w5 ⟨rfl,hb5⟩
      have HL5:=Lib.hid (HLS.out.down hb5)
      clear hb5 HLV HLS c0
      go_upto_region 13 with (at_builtin;refine wp_one2 row61 rfl _ _ rfl _ ((l.take i).map fun n=>Value.bool (liveP l (n.id:Int) now)) w5.heap.size 1 #[.bool lb] rfl rfl (HL5.out.a.down (by go_grown)) (Bk.new rfl) rfl (by simp [Value.oneCell']) (by omega) (by decide) ?_;intro v' w6 hs6 hg6 ho6;have H6:=Lib.hid (Bb.one (HL5.out.down (by go_grown)) hs6 hg6 ho6);obtain⟨a6,c6,rfl⟩:=hs6.shape;clear hs6 hg6 ho6)
      clear HL5
      go_upto_region 14 with (at_builtin;refine wp_one2 row61 rfl _ _ rfl _ ((l.take i).map fun n=>Value.bool (isOfP n p)) w6.heap.size 1 #[.bool true] rfl rfl (H6.out.b.down (by go_grown)) (Bk.new rfl) rfl (by simp [Value.oneCell']) (by omega) (by decide) ?_;intro v' w7 hs7 hg7 ho7;have H7:=Lib.hid (Bb.swap (Bb.one (H6.out.down (by go_grown)).swap hs7 hg7 ho7));clear hs7 hg7 ho7)
      have HB7:Hid (Bb w3 w7 (.slice a6 (i+1) c6) v' (i+1) (i+1) ((l.take (i+1)).map fun n=>Value.bool (liveP l (n.id:Int) now)) ((l.take (i+1)).map fun n=>Value.bool (isOfP n p))):=Lib.hid (by rw [HTK.out,HTO.out];exact H7.out)
      clear H6 H7
      have c9:=(HCW.out w7 (KeepA.of HB7.out.a.2.1)).2
      cases dd with
      |true=>
       go_wp2_with fail
       go_roundw
       case rel=>exact⟨i+1,by omega,by go_num,by rw [HTC.out];simp,by first | exact HB7 | exact Lib.hid HB7.out⟩
       case measure=>simp [intOf];omega
      |false=>
       go_wp2_with fail
       go_roundw
       case rel=>exact⟨i+1,by omega,by go_num,by rw [HTC.out];simp,by first | exact HB7 | exact Lib.hid HB7.out⟩
       case measure=>simp [intOf];omega
     |false=>
      have hcq:(99::58::c == p)=false:=hcp
      go_upto_region 12 with fail
      obtain rfl:mine=false:=by rw [← HOW.out,hs,hc0,hcp];rfl
      clear HOW c3 c4 hs hc0 hcp hz hI hx hcq hcl
      go_wp2_with fail
      refine(HLV.out wr (Below.refl _ _)).mono ?_
      rintro e w5 ⟨rfl,hb5⟩
      have HL5:=Lib.hid (HLS.out.down hb5)
      clear hb5 HLV HLS c0
      go_upto_region 13 with (at_builtin;refine wp_one2 row61 rfl _ _ rfl _ ((l.take i).map fun n=>Value.bool (liveP l (n.id:Int) now)) w5.heap.size 1 #[.bool lb] rfl rfl (HL5.out.a.down (by go_grown)) (Bk.new rfl) rfl (by simp [Value.oneCell']) (by omega) (by decide) ?_;intro v' w6 hs6 hg6 ho6;have H6:=Lib.hid (Bb.one (HL5.out.down (by go_grown)) hs6 hg6 ho6);obtain⟨a6,c6,rfl⟩:=hs6.shape;clear hs6 hg6 ho6)
      clear HL5
      go_upto_region 14 with (at_builtin;refine wp_one2 row61 rfl _ _ rfl _ ((l.take i).map fun n=>Value.bool (isOfP n p)) w6.heap.size 1 #[.bool false] rfl rfl (H6.out.b.down (by go_grown)) (Bk.new rfl) rfl (by simp [Value.oneCell']) (by omega) (by decide) ?_;intro v' w7 hs7 hg7 ho7;have H7:=Lib.hid (Bb.swap (Bb.one (H6.out.down (by go_grown)).swap hs7 hg7 ho7));clear hs7 hg7 ho7)
      have HB7:Hid (Bb w3 w7 (.slice a6 (i+1) c6) v' (i+1) (i+1) ((l.take (i+1)).map fun n=>Value.bool (liveP l (n.id:Int) now)) ((l.take (i+1)).map fun n=>Value.bool (isOfP n p))):=Lib.hid (by rw [HTK.out,HTO.out];exact H7.out)
      clear H6 H7
      have c9:=(HCW.out w7 (KeepA.of HB7.out.a.2.1)).2
      clear c9
      go_wp2_with fail
      go_roundw
      case rel=>exact⟨i+1,by omega,by go_num,by rw [HTC.out];simp,by first | exact HB7 | exact Lib.hid HB7.out⟩
      case measure=>simp [intOf];omega
  ·have hltI:¬(i:Int)<(M:Int):=by omega
   obtain rfl:i=M:=by omega
   have HTL:Hid (l.take i=l):=Lib.hid (by rw [HML.out,List.take_length])
   rw [HTL.out] at HLW ⊢
   obtain⟨K0,hK0⟩:∃K:Nat,K=(l.filter fun n=>isOfP n p&&!n.dead).length:=⟨_,rfl⟩
   rw [← hK0]
   have HKO:Hid (Calls Tryz.prog 30 #[.pointer (some ⟨f,0,none⟩),.string ⟨p.toArray⟩] wr fun e w'=>Ends wr f ns x (.int .i64 (K0:Int)) (killOfP l p).2 x e w'):=Lib.hid (by
    have h:=killOf_call NR.out.fr (few_ns HE0.out HI.out) p
    rw [HE0.out] at h
    have h2:(killOfP l p).1=(K0:Int):=by rw [hK0];rfl
    rw [h2] at h
    exact h)
   clear HTL hK0
   go_wp2_with fail
   refine HKO.out.mono ?_
   rintro e w5 ⟨rfl,ns5,e5,f5,c5⟩
   have N5:=Lib.hid (NR.out.go f5 c5)
   have HK5:Hid (KeepA wr w5):=Lib.hid (KeepA.chf NR.out.fr c5)
   have HJ:Hid (Inv (killOfP l p).2 x):=Lib.hid (inv_killOf HI.out p)
   have HK2:Hid (Calls Tryz.prog 30 #[.pointer (some ⟨f,0,none⟩),.string ⟨p.toArray⟩] w5 fun e w'=>Ends w5 f ns5 x (.int .i64 0) (killOfP l p).2 x e w'):=Lib.hid (by
    have h:=killOf_call f5 (few_ns e5 HJ.out) p
    rw [e5,own_again,own_twice] at h
    exact h)
   clear HKO e5 f5 c5
   go_wp2_with fail
   refine HK2.out.mono ?_
   rintro e w6 ⟨rfl,ns6,e6,f6,c6⟩
   have N6:=Lib.hid (N5.out.go f6 c6)
   have HK6:Hid (KeepA wr w6):=Lib.hid (HK5.out.trans (KeepA.chf N5.out.fr c6))
   obtain⟨l5,hl5⟩:∃z,z=(killOfP l p).2:=⟨_,rfl⟩
   have HFA:Hid (∀i (h:i<l.length),liveP l5 ((l[i]'h).id:Int) now=(liveP l ((l[i]'h).id:Int) now&&!(pathN l5 ((l[i]'h).id:Int)).any (ofId l p))):=Lib.hid (fun i hi=>by
    rw [hl5,own_falls HI.out.ok p now (List.getElem_mem hi),own_path HI.out.ok p (List.getElem_mem hi),own_hangs HI.out.ok p (List.getElem_mem hi)])
   rw [← hl5] at e6 HJ
   have HE6:=Lib.hid e6
   have HZC:Hid (∀j (h:j<l.length),∃z,ag=some ⟨z,0,none⟩∧∀V,KeepA w6 V→V.cell? ⟨z,j,none⟩=some (.bool (liveP l ((l[j]'h).id:Int) now))):=Lib.hid (fun j hj=>by
    obtain⟨z,e,hc⟩:=Lw.kept (by decide) HLW.out.a (i:=j) (u:= .bool (liveP l ((l[j]'hj).id:Int) now)) (by rw [HML.out];exact hj) (by rw [List.getElem?_map,List.getElem?_eq_getElem hj];rfl)
    exact⟨z,e,fun V hV=>hc V (HK6.out.trans hV)⟩)
   have HOC:Hid (∀j (h:j<l.length),∃z,ao=some ⟨z,0,none⟩∧∀V,KeepA w6 V→V.cell? ⟨z,j,none⟩=some (.bool (isOfP (l[j]'h) p))):=Lib.hid (fun j hj=>by
    obtain⟨z,e,hc⟩:=Lw.kept (by decide) HLW.out.b (i:=j) (u:= .bool (isOfP (l[j]'hj) p)) (by rw [HML.out];exact hj) (by rw [List.getElem?_map,List.getElem?_eq_getElem hj];rfl)
    exact⟨z,e,fun V hV=>hc V (HK6.out.trans hV)⟩)
   have HQC:Hid (∀j (h:j<l.length),∃q,av=some ⟨q,0,none⟩∧∀V,KeepA w6 V→V.cell? ⟨q,j*15,none⟩=some (.int .i64 ((l[j]'h).id:Int))):=Lib.hid (fun j hj=>by
    obtain⟨q,e,hc⟩:=HCE.out j hj
    exact⟨q,e,fun V hV=>(hc V (((KeepA.of HLW.out.a.2.1).trans HK6.out).trans hV)).1⟩)
   clear HK2 e6 f6 c6 hl5 HLW NR HK5 HK6 HCE hltI N3 N5 HE0
   go_wp2_with fail
   obtain⟨wp,hwp⟩:∃y,y=w6:=⟨_,rfl⟩
   subst hwp
   go_loopw [14] (fun iv wr=>∃j:Nat,j≤l.length∧iv = .int .i64 (j:Int)∧Hid (Below wp.heap.size wp wr)) (fun iv _=>l.length - (intOf iv).toNat)
   case atStart=>exact⟨0,Nat.zero_le _,rfl,Lib.hid (Below.refl _ _)⟩
   case round=>
    obtain⟨j,hj,rfl,HB⟩:=hrel
    have N7:=Lib.hid (N6.out.down HB.out)
    by_cases hlt2:j<i
    ·have hltJ:(j:Int)<(i:Int):=by omega
     have hjl:j<l.length:=by rw [← HML.out];exact hlt2
     have HFj:=Lib.hid (HFA.out j hjl)
     obtain⟨z,rfl,hz⟩:=HZC.out j hjl
     obtain⟨z2,rfl,hz2⟩:=HOC.out j hjl
     obtain⟨q,rfl,hq⟩:=HQC.out j hjl
     have hc:=hq wr (KeepA.of HB.out)
     have HZ:=Lib.hid hz
     have HQ:=Lib.hid hq
     have HO2:Hid (∀m (h:m<l.length),∀V,KeepA wp V→V.cell? ⟨z2,m,none⟩=some (.bool (isOfP (l[m]'h) p))∧V.cell? ⟨q,m*15,none⟩=some (.int .i64 ((l[m]'h).id:Int))):=Lib.hid (fun m hm V hV=>by
      obtain⟨z3,e3,hc3⟩:=HOC.out m hm
      obtain⟨q3,e4,hc4⟩:=HQC.out m hm
      have e5:z2=z3:=by simpa using e3
      have e6:q=q3:=by simpa using e4
      rw [e5,e6]
      exact⟨hc3 V hV,hc4 V hV⟩)
     obtain⟨idj,hidj⟩:∃y,y=(l[j]'hjl).id:=⟨_,rfl⟩
     rw [← hidj] at hc HFj HZ HQ
     have HPA:Hid (Calls Tryz.prog 29 #[.pointer (some ⟨f,0,none⟩),.int .i64 (idj:Int)] wr fun e w'=>∃v,e = .returned v∧Ri w' v (pathN l5 (idj:Int))∧Below wr.heap.size wr w'):=Lib.hid (by
      refine(path_call N7.out.fr (few_ns HE6.out HJ.out) (idj:Int)).mono ?_
      rintro _ w' ⟨v,rfl,h2⟩
      rw [HE6.out] at h2
      exact⟨v,rfl,ri_path h2,h2.2.1⟩)
     obtain⟨P,hP⟩:∃y,y=pathN l5 (idj:Int):=⟨_,rfl⟩
     have HPB:Hid (P.length≤256):=Lib.hid (by rw [hP];exact pathN_short HJ.out _)
     rw [← hP] at HPA HFj
     clear hz hz2 hq hidj hP hjl
     go_wp2_with fail
     refine HPA.out.mono ?_
     rintro e w8 ⟨v8,rfl,⟨a8,c8,rfl,hc8⟩,hb8⟩
     have B8:=Lib.hid (HB.out.trans (hb8.mono HB.out.size))
     have HC8:=Lib.hid hc8
     obtain⟨K,hK⟩:∃K,K=P.length:=⟨_,rfl⟩
     have HKK:=Lib.hid hK
     rw [← hK]
     clear hb8 hc8 HPA hK hc N7 HB
     go_wp2_with fail
     obtain⟨wq,hwq⟩:∃y,y=w8:=⟨_,rfl⟩
     subst hwq
     go_loopw [16,17] (fun hv kv ws=>∃k:Nat,k≤K∧kv = .int .i64 (k:Int)∧hv = .bool ((P.take k).any (ofId l p))∧Hid (Below wq.heap.size wq ws)) (fun _ kv _=>K - (intOf kv).toNat)
     case atStart=>exact⟨0,Nat.zero_le _,rfl,by simp,Lib.hid (Below.refl _ _)⟩
     case round=>
      obtain⟨k2,hk2,rfl,rfl,HB2⟩:=hrel
      by_cases hlt3:k2<K
      ·have hltK:(k2:Int)<(K:Int):=by omega
       have hkp:k2<P.length:=by rw [← HKK.out];exact hlt3
       have HAT:Hid ((P.take (k2+1)).any (ofId l p)=((P.take k2).any (ofId l p)||ofId l p P[k2])):=Lib.hid (any_take hkp)
       obtain⟨b3,o3,e3,hc3⟩:=HC8.out k2 hkp
       subst e3
       have HC3:Hid (∀V,Below wq.heap.size wq V→V.cell? ⟨b3,o3+k2,none⟩=some (.int .i64 (P[k2]'hkp))):=Lib.hid (fun V hV=>cell_below hV hc3)
       obtain⟨pk,hpk⟩:∃y,y=P[k2]'hkp:=⟨_,rfl⟩
       rw [← hpk] at HC3 HAT
       obtain⟨hb,hhb⟩:∃y,y=(P.take k2).any (ofId l p):=⟨_,rfl⟩
       rw [← hhb] at HAT ⊢
       clear hpk hhb hc3
       have hkb:=HPB.out
       rw [← HKK.out] at hkb
       go_wp2_with fail
       go_loopw [16,18] (fun hv mv ws=>∃m:Nat,m≤i∧mv = .int .i64 (m:Int)∧hv = .bool (hb||(l.take m).any fun n=>((n.id:Int) == pk)&&isOfP n p)∧Hid (Below wq.heap.size wq ws)) (fun _ mv _=>i - (intOf mv).toNat)
       case atStart=>exact⟨0,Nat.zero_le _,rfl,by simp,Lib.hid HB2.out⟩
       case round=>
        obtain⟨m,hm,rfl,rfl,HB3⟩:=hrel
        clear HB2
        by_cases hlt4:m<i
        ·have hltM:(m:Int)<(i:Int):=by omega
         have hml:m<l.length:=by rw [← HML.out];exact hlt4
         have HAM:=Lib.hid (any_take_or (p:=fun n=>((n.id:Int) == pk)&&isOfP n p) hml)
         obtain⟨hco,hci⟩:=HO2.out m hml wr (KeepA.of (B8.out.trans (HB3.out.mono B8.out.size)))
         have hcp:=HC3.out wr HB3.out
         obtain⟨nm,hnm⟩:∃y,y=l[m]'hml:=⟨_,rfl⟩
         rw [← hnm] at HAM hco hci
         obtain⟨idm,hidm⟩:∃y,y=nm.id:=⟨_,rfl⟩
         obtain⟨bo,hbo⟩:∃y,y=isOfP nm p:=⟨_,rfl⟩
         rw [← hidm,← hbo] at HAM
         rw [← hidm] at hci
         rw [← hbo] at hco
         obtain⟨hg,hhg⟩:∃y,y=(hb||(l.take m).any fun n=>((n.id:Int) == pk)&&isOfP n p):=⟨_,rfl⟩
         have HHG:=Lib.hid hhg
         rw [← hhg]
         clear hnm hidm hbo hhg hml
         have kco:=cell_regrown hco
         have kci:=cell_regrown hci
         have kcp:=cell_regrown hcp
         cases hg with
         |true=>
          go_upto_region 29 with fail
          refine wp_region_quiet_below mixed (by kernel_rfl) ?_
          repeat (first | go_big_quiet_step (fail) | quiet_step (fail))
          refine wpQuiet_nil ?_
          intro _ hw'
          obtain⟨⟨dq,osq⟩,hw''⟩:=hw'
          subst hw''
          have B9:Hid (Below wq.heap.size wq (grow (redrawn wr dq) osq)):=Lib.hid (HB3.out.trans ((below_regrown wr dq osq).mono HB3.out.size))
          clear kco kci kcp hco hci hcp
          generalize grow (redrawn wr dq) osq=wn at B9 ⊢
          go_wp2_with fail
          go_roundw
          case rel=>exact⟨m+1,by omega,by go_num,by rw [HAM.out,← Bool.or_assoc,← HHG.out];rfl,by first | exact B9 | exact Lib.hid B9.out⟩
          case measure=>simp [intOf];omega
         |false=>
          by_cases he:(idm:Int)=pk
          ·have heb:((idm:Int) == pk)=true:=by simpa using he
           cases bo with
           |true=>
            go_upto_region 29 with fail
            refine wp_region_quiet_below mixed (by kernel_rfl) ?_
            repeat (first | go_big_quiet_step (fail) | quiet_step (fail))
            refine wpQuiet_nil ?_
            intro _ hw'
            obtain⟨⟨dq,osq⟩,hw''⟩:=hw'
            subst hw''
            have B9:Hid (Below wq.heap.size wq (grow (redrawn wr dq) osq)):=Lib.hid (HB3.out.trans ((below_regrown wr dq osq).mono HB3.out.size))
            clear kco kci kcp hco hci hcp
            generalize grow (redrawn wr dq) osq=wn at B9 ⊢
            go_wp2_with fail
            go_roundw
            case rel=>exact⟨m+1,by omega,by go_num,by rw [HAM.out,← Bool.or_assoc,← HHG.out];rw [heb];rfl,by first | exact B9 | exact Lib.hid B9.out⟩
            case measure=>simp [intOf];omega
           |false=>
            go_upto_region 29 with fail
            refine wp_region_quiet_below mixed (by kernel_rfl) ?_
            repeat (first | go_big_quiet_step (fail) | quiet_step (fail))
            refine wpQuiet_nil ?_
            intro _ hw'
            obtain⟨⟨dq,osq⟩,hw''⟩:=hw'
            subst hw''
            have B9:Hid (Below wq.heap.size wq (grow (redrawn wr dq) osq)):=Lib.hid (HB3.out.trans ((below_regrown wr dq osq).mono HB3.out.size))
            clear kco kci kcp hco hci hcp
            generalize grow (redrawn wr dq) osq=wn at B9 ⊢
            go_wp2_with fail
            go_roundw
            case rel=>exact⟨m+1,by omega,by go_num,by rw [HAM.out,← Bool.or_assoc,← HHG.out];rw [heb];rfl,by first | exact B9 | exact Lib.hid B9.out⟩
            case measure=>simp [intOf];omega
          ·have heb:((idm:Int) == pk)=false:=by simpa using he
           go_upto_region 29 with fail
           refine wp_region_quiet_below mixed (by kernel_rfl) ?_
           repeat (first | go_big_quiet_step (fail) | quiet_step (fail))
           refine wpQuiet_nil ?_
           intro _ hw'
           obtain⟨⟨dq,osq⟩,hw''⟩:=hw'
           subst hw''
           have B9:Hid (Below wq.heap.size wq (grow (redrawn wr dq) osq)):=Lib.hid (HB3.out.trans ((below_regrown wr dq osq).mono HB3.out.size))
           clear kco kci kcp hco hci hcp
           generalize grow (redrawn wr dq) osq=wn at B9 ⊢
           go_wp2_with fail
           go_roundw
           case rel=>exact⟨m+1,by omega,by go_num,by rw [HAM.out,← Bool.or_assoc,← HHG.out];rw [heb];rfl,by first | exact B9 | exact Lib.hid B9.out⟩
           case measure=>simp [intOf];omega
        ·have hltM:¬(m:Int)<(i:Int):=by omega
         have hmi:m=l.length:=by have:=HML.out;omega
         have htm:l.take m=l:=by rw [hmi,List.take_length]
         rw [htm]
         have hof:(hb||l.any fun n=>((n.id:Int) == pk)&&isOfP n p)=(P.take (k2+1)).any (ofId l p):=HAT.out.symm
         rw [hof]
         clear htm hmi hof
         go_wp2_with fail
         go_roundw
         case rel=>exact⟨k2+1,by omega,by go_num,rfl,by first | exact HB3 | exact Lib.hid HB3.out⟩
         case measure=>simp [intOf];omega
      ·have hltK:¬(k2:Int)<(K:Int):=by omega
       have hkk:k2=P.length:=by have:=HKK.out;omega
       have hta:P.take k2=P:=by rw [hkk,List.take_length]
       rw [hta]
       obtain⟨hb,hhb⟩:∃y,y=P.any (ofId l p):=⟨_,rfl⟩
       rw [← hhb] at HFj ⊢
       have HB9:Hid (Below wp.heap.size wp wr):=Lib.hid (B8.out.trans (HB2.out.mono B8.out.size))
       have HLV:Hid (∀V,Below wp.heap.size wp V→Calls Tryz.prog 27 #[.pointer (some ⟨f,0,none⟩),.int .i64 (idj:Int),.int .i64 now] V fun e w'=>e = .returned (.bool (liveP l5 (idj:Int) now))∧Below wp.heap.size wp w'):=Lib.hid (fun V hV=>by
        have:=live_any (N6.out.down hV).fr (few_ns HE6.out HJ.out) (idj:Int) now
        rw [HE6.out] at this
        refine this.mono ?_
        rintro e w' ⟨rfl,h⟩
        exact⟨rfl,hV.trans (h.mono hV.size)⟩)
       rw [HFj.out] at HLV
       have hiN:=hlt2
       have hiI:=hltJ
       obtain⟨lb,hlb⟩:∃y,y=liveP l (idj:Int) now:=⟨_,rfl⟩
       rw [← hlb] at HLV HZ
       clear hta hkk hhb hlb HFj HKK HPB HC8 B8 HB2 hltK hk2 HO2
       cases lb with
       |true=>
        go_upto_region 30 with fail
        refine Pl.enT (fun _ V=>Below wp.heap.size wp V) f q 0 i cv z 0 cg j (idj:Int) now hb wr (fun _ V hV=>by rw [Nat.zero_add];exact HQ.out V (KeepA.of hV)) (fun _ V hV=>by rw [Nat.zero_add];exact HZ.out V (KeepA.of hV)) (fun V hV=>by have:=HLV.out V hV;simpa using this) hiN hiI HB9.out.drew ?_
        intro w9 hw9
        have HB10:=Lib.hid hw9
        clear hw9
        go_wp2_with fail
        go_roundw
        case rel=>exact⟨j+1,by have:=HML.out;omega,by go_num,by first | exact HB10 | exact Lib.hid HB10.out⟩
        case measure=>have:=HML.out;simp [intOf];omega
       |false=>
        go_upto_region 30 with fail
        refine Pl.enF (fun _ V=>Below wp.heap.size wp V) f q 0 i cv z 0 cg j (idj:Int) now hb wr (fun _ V hV=>by rw [Nat.zero_add];exact HQ.out V (KeepA.of hV)) (fun _ V hV=>by rw [Nat.zero_add];exact HZ.out V (KeepA.of hV)) (fun V hV=>by have:=HLV.out V hV;simpa using this) hiN hiI HB9.out.drew ?_
        intro w9 hw9
        have HB10:=Lib.hid hw9
        clear hw9
        go_wp2_with fail
        go_roundw
        case rel=>exact⟨j+1,by have:=HML.out;omega,by go_num,by first | exact HB10 | exact Lib.hid HB10.out⟩
        case measure=>have:=HML.out;simp [intOf];omega
    ·have hltJ:¬(j:Int)<(i:Int):=by omega
     go_wp2_with fail
     refine(HFX.out wr N7.out.below).mono ?_
     rintro e w9 ⟨rfl,hb⟩
     have B9:=Lib.hid (N7.out.below.trans (hb.mono N7.out.below.size))
     clear hb
     go_wp2_with fail
     go_ret
     exact⟨rfl,B9.out⟩
end Go.Proofs.YthogppennalobaaGreatDoor
namespace Go.Proofs.YthogppennalobaaGreatDoor.forestEnds
open Go.ChangeShapes Go.WideShapes Go.ChangeAt Go.ChangeMaps Go.RowKit Go.Deep
theorem contract (H:Type)(enc:TypeId×Value→H)(W:World)(base:Nat)(args:Array Value)(ds gs:List (DataW H))(before:List MemPlace)
  (hval:∀(j:Nat) t v,Tryz.f7.params[j]?=some t→args[j]?=some v→Value.okWide Tryz.prog W .any base t v)
  (hW:DataW.Whole enc Tryz.prog Tryz.f7.params.toList Rows.forestEndsSpec.vars false W args.toList ds gs before)
  (hz:(DataW.weightsEach Tryz.prog (Tryz.f7.params.toList++Rows.forestEndsSpec.plain.varTypes Tryz.prog) (ds++gs)).all (·≤reachBytes)=true) (hT:Tb W) (hM:Mx W) :
  Calls Tryz.prog 7 args W fun e W'=>∃v,e = .returned v∧Rows.forestEndsSpec.post enc Tryz.prog Tryz.f7 false true false false W args v W':=by
 have hW':=hW
 obtain⟨p,q,hA0,hV,rfl,hfz,hnd⟩:=hW
 have hA:DataW.TrodAll enc Tryz.prog W 0 (fun _=>true) true Tryz.f7.params.toList args.toList ds p:=hA0
 rw [Tryz.params7] at hA hval hz
 obtain⟨v0,vs0,d0,ds0,p0,q0,hargs,rfl,rfl,h0,r0⟩:=trodAll_cons hA
 obtain⟨v1,vs1,d1,ds1,p1,q1,rfl,rfl,rfl,h1,r1⟩:=trodAll_cons r0
 obtain⟨v2,vs2,d2,ds2,p2,q2,rfl,rfl,rfl,h2,r2⟩:=trodAll_cons r1
 obtain⟨rfl,rfl,rfl⟩:=trodAll_nil r2
 obtain rfl:args=#[v0,v1,v2]:=by cases args;simp_all
 obtain⟨rfl,rfl⟩:=trodVars_none hV
 obtain⟨l0,hO0⟩:=open_sc (hval 0 22 v0 rfl rfl) h0 (fun m hm=>by
  have:=List.all_eq_true.1 hz m (DataW.weights_mem_each (j:=0) (t:=22) (d:=d0) rfl rfl m hm)
  have hr:=reach_is
  simp only [decide_eq_true_eq] at this
  omega)
 obtain⟨s1,rfl,rfl,rfl,ws1⟩:=open_string Tryz.underlying9 (hval 1 9 v1 rfl rfl) h1
 have hs1:s1.data.toList.length≤140737488351232:=by
  have:=List.all_eq_true.1 hz _ (DataW.weights_mem_each (j:=1) (t:=9) (d:= .lit (.string s1.data.toList)) rfl rfl s1.data.toList.length (by simp [DataW.weights]))
  have hr:=reach_is
  simp only [decide_eq_true_eq] at this
  omega
 obtain⟨n2,rfl,rfl,rfl,wn2⟩:=open_int Tryz.underlying3 (hval 2 3 v2 rfl rfl) h2
 clear hA0
 simp only [List.append_nil,List.nil_append] at hW'
 have hlt:=fun x hx=>hW'.lt x hx
 refine(ends_walk hO0 s1.data.toList (by omega) n2 hT hM).mono fun e W' ⟨he,hg⟩=>?_
 subst he
 exact⟨_,rfl,post_below (pa:=p0) (pv:=[]) hW' (fun _ _ _=>trodAll_cons_mk (shut_bool Tryz.underlying4 _) trodAll_mk0)
  (fun sp hsp=>show DataW.TrodAll enc Tryz.prog W' 0 sp true [22,9,3] [v0,.string s1,.int .i64 n2] [d0,.lit (.string s1.data.toList),.lit (.int .i64 n2)] (p0) from by
   simpa using (trodAll_cons_mk (trod_keep read22 row22 h0 hg (fun x hx=>hlt x (by simp [hx])) sp (fun x hx=>hsp x (by simp [hx]))) (trodAll_cons_mk (shut_string Tryz.underlying9 ws1) (trodAll_cons_mk (shut_int Tryz.underlying3 wn2) trodAll_mk0))))
  (fun _ _=>rfl) (by simp) hg (ok_one (by kernel_rfl) rfl (okWide_bool_mk Tryz.underlying4 _))⟩
theorem laid_met (os:Os)(args:Array Value): laidMetH Tryz.prog Rows.forestEndsRow.laid ((World.laidAll Tryz.prog os Rows.forestEndsRow.laid).forCall (fun _ _=>0) ⟨#[],args,[]⟩).memory:=by
 rw [MakeChecks.laidMetH_plain _ _ _ (by kernel_rfl)]
 exact laidMet_laidAll _ (by kernel_rfl) (by kernel_rfl)
theorem reads (os:Os){H:Type}(enc:TypeId×Value→H): ∃places,DataW.whole enc Tryz.prog ((World.laidAll Tryz.prog os Rows.forestEndsRow.laid).forCall (fun _ _=>0) ⟨#[],#[.slice none 0 0,.string ⟨#[]⟩,.int .i64 0],[]⟩).memory Tryz.f7.params.toList Rows.forestEndsSpec.vars false (#[.slice none 0 0,.string ⟨#[]⟩,.int .i64 0]:Array Value).toList 8=some ([.nil,.lit (.string []),.lit (.int .i64 0)],[],places):=
 ⟨[],by kernel_rfl⟩
theorem lifted (os:Os)(started:os.Started)(H:Type)(enc:TypeId×Value→H)(F:Stop.Interp):
  ReturnsInHanded {} Tryz.checked os 7 .any ((OpenSpec.ofChange Rows.forestEndsSpec).preRow enc Tryz.prog Tryz.f7 Rows.forestEndsRow.domain false Rows.forestEndsRow.laid) (((OpenSpec.ofChange Rows.forestEndsSpec).at F).post enc Tryz.prog Tryz.f7 false true false false):=by
 obtain⟨places,hx⟩:=reads os enc
 refine returnsInHanded_of_row (C:=Tryz.checked) (s:=OpenSpec.ofChange Rows.forestEndsSpec) own started (by kernel_rfl) Tryz.func7
  (witness_row_atRef (enc:=enc) (C:=Tryz.checked) false (World.laidAll Tryz.prog os Rows.forestEndsRow.laid) #[.slice none 0 0,.string ⟨#[]⟩,.int .i64 0] (World.laidAll_os _ _ _) (by kernel_rfl) (by kernel_rfl) (by kernel_rfl)
   (OpenSpec.preRow_of_cond 8 hx (by kernel_rfl) (fun k hk=>by cases hk) (by kernel_rfl) (laid_met os _))) ?_
 intro W base args ds gs before hval hW _ _ hz hL hS _
 exact contract H enc W base args ds gs before hval hW hz (tb_of_laid hL) (mx_of_shaped hS)
theorem said:Rows.ForestEndsSaid:=
 OpenClaim.holds_of_cond 7 Tryz.f7 rfl rfl rfl rfl rfl rfl rfl ⟨rfl,rfl,rfl,rfl,rfl⟩ rfl rfl rfl rfl rfl (by kernel_rfl) Tryz.func7 (by kernel_rfl)
  (of_decide_eq_true (by kernel_rfl)) (by unfold Func.isWrapper;first | (rw [if_pos (by decide +kernel)];kernel_rfl) | (rw [if_neg (by decide +kernel)];exact⟨rfl,rfl⟩))
  (fun os started H enc _ F=>by rw [OpenClaim.pre_eq_preRow];exact lifted os started H enc F)
theorem plain (f : FuncId) (fn : Func) (hf : Tryz.pinned.checked.prog.funcNamed "seneschal/seneschallaw13.ForestEnds" = some f) (hfn : Tryz.pinned.checked.prog.funcs[f]? = some fn) :
  true=Tryz.pinned.checked.prog.looks []∧∀(j:Nat) t,fn.params[j]?=some t→Tryz.pinned.checked.prog.wantsStandIn t=false:=by
 obtain rfl : f = 7 := Option.some.inj ((show Tryz.prog.funcNamed "seneschal/seneschallaw13.ForestEnds" = some 7 by kernel_rfl).symm.trans hf) |>.symm
 obtain rfl:fn=Tryz.f7:=(Option.some.inj (Tryz.func7.symm.trans hfn)).symm
 refine⟨by kernel_rfl,fun j t ht=>?_⟩
 rw [Tryz.params7] at ht
 have h:=Array.mem_of_getElem? ht
 simp only [List.mem_toArray,List.mem_cons,List.not_mem_nil,or_false,or_self] at h
 rcases h with rfl | rfl | rfl
 all_goals first | exact(show Tryz.prog.wantsStandIn 3=false by as_aux_lemma=>kernel_rfl) | exact(show Tryz.prog.wantsStandIn 9=false by as_aux_lemma=>kernel_rfl) | exact(show Tryz.prog.wantsStandIn 22=false by as_aux_lemma=>kernel_rfl)
theorem card:Rows.ForestEndsCardSaid:=
 Claim7.holds_tied_plain_at .later [] _ _ _ _ said (fun _ h=>by cases h) (by kernel_rfl) (fun _ h=>by cases h) forestEnds_row_tie rfl ⟨rfl,rfl⟩ (by kernel_rfl) rfl plain (by kernel_rfl)
end Go.Proofs.YthogppennalobaaGreatDoor.forestEnds
