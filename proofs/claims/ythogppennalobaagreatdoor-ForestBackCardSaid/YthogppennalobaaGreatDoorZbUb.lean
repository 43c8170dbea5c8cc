/- PROVED HERE: the rows of a forest, loaded again, show the same, and it goes on alike (ForestBack, the first form: within the form's reach), tied to the program's text. -/
import Derived.Test.YthogppennalobaaGreatDoorZb35
import Derived.Deep.MidRow
import Derived.Test.YthogppennalobaaGreatDoorZb02
import Derived.Test.YthogppennalobaaGreatDoorZb08
import Derived.Test.YthogppennalobaaGreatDoorZb11
import Derived.Test.YthogppennalobaaGreatDoorZb20
set_option linter.unusedVariables false
set_option linter.unusedSimpArgs false
set_option maxRecDepth 100000
namespace Go.Proofs.YthogppennalobaaGreatDoor
open Go.RowKit Go.Sort Forest OwnR TxO Pl
theorem made_len {N:Int}{f:UInt8→Bool}{s:Bs}(h:madeP N f s=true): (s.length:Int)≤N:=by
 unfold madeP at h
 simp only [Bool.and_eq_true,decide_eq_true_eq] at h
 omega
theorem trim_two (s:Bs)(a b:UInt8): s.length≤(Lib.trimPrefix s [a,b]).length+2:=by
 unfold Lib.trimPrefix
 split
 ·rw [List.length_drop];simp only [List.length_cons,List.length_nil];omega
 ·omega
theorem prin_len {s:Bs}(h:prinP s=true): s.length≤200:=by
 unfold prinP at h
 simp only [Bool.or_eq_true,Bool.and_eq_true] at h
 rcases h with ⟨_,h⟩ | ⟨_,h⟩
 ·have h1:=made_len h
  have h2:=trim_two s 117 58
  omega
 ·have h1:=made_len h
  have h2:=trim_two s 99 58
  omega
structure Small (n:Nd): Prop where
 kind:1≤n.kind∧n.kind<6
 subject:n.subject.length≤200
 client:n.client.length≤200
 audience:n.audience.length≤200
 scope:n.scope.length≤16∧∀s∈n.scope,s.length≤200
 born:0≤n.born∧n.born≤1099511627776
 exp:0≤n.exp∧n.exp≤1099511627776
 actors:n.actors.length≤4∧∀s∈n.actors,s.length≤200
 level:0≤n.level∧n.level≤3
 secret:n.secret.length≤64
 data:n.data.length≤256
theorem may_small {p:Int}{n:Nd}(h:mayP p n=true): Small n:=by
 unfold mayP isTimeP at h
 simp only [Bool.and_eq_true,decide_eq_true_eq] at h
 obtain⟨⟨⟨⟨⟨⟨⟨⟨⟨⟨⟨⟨⟨⟨⟨⟨⟨h1,h2⟩,h3⟩,h4⟩,h5⟩,h6⟩,h7⟩,h8⟩,h9⟩,h10⟩,h11⟩,h12⟩,h13⟩,h14⟩,h15⟩,h16⟩,h17⟩,h18⟩:=h
 refine⟨⟨h1,h2⟩,prin_len h4,?_,?_,⟨by omega,fun s hs=>?_⟩,h10,h11,⟨by omega,fun s hs=>prin_len (List.all_eq_true.1 h13 s hs)⟩,⟨h14,h15⟩,by omega,by omega⟩
 ·rcases Bool.or_eq_true _ _▸h5 with h | h
  ·have e:n.client=[]:=by simpa using h
   rw [e];simp
  ·have:=made_len h;omega
 ·rcases Bool.or_eq_true _ _▸h6 with h | h
  ·have e:n.audience=[]:=by simpa using h
   rw [e];simp
  ·have:=made_len h;omega
 ·have:=made_len (List.all_eq_true.1 h8 s hs);omega
theorem form_small:∀(k:List Bs),(∀s∈k,s.length≤999)→(formL k).length≤k.length*1010
 |[],_=>by simp [formL]
 |s::k,h=>by
  have h1:=form_small k fun z hz=>h z (List.mem_cons_of_mem _ hz)
  have h2:=h s (by simp)
  have h3:(Lib.decDigits s.length).length≤4:=dec_len 3 s.length (by omega)
  simp only [formL,List.length_append,one_len,List.length_cons]
  omega
theorem itoa_small {x:Int}(h0:0≤x)(h:x<1000000000000000000): (Lib.itoa x).length≤999:=by
 obtain⟨u,rfl⟩:=Int.eq_ofNat_of_zero_le h0
 rw [Lib.itoa_nonneg]
 have:=dec_len 17 u (by omega)
 omega
theorem node_small {n:Nd}(h:Small n)(hp:n.parent≤99999999): (formL (nodeT n)).length≤1000000:=by
 have hl:(nodeT n).length≤40:=by
  unfold nodeT numsL listedL
  have:=h.scope.1
  have:=h.actors.1
  simp only [List.length_append,List.length_map,List.length_cons,List.length_nil]
  omega
 have h1:=form_small (nodeT n) (fun s hs=>by
  rw [nodeT_eq] at hs
  unfold listedL at hs
  have d1:=dec_len 1 n.scope.length (by have:=h.scope.1;omega)
  have d2:=dec_len 1 n.actors.length (by have:=h.actors.1;omega)
  have f1:∀b,(flagT b).length≤999:=fun b=>by cases b<;>decide
  simp only [List.mem_append,List.mem_cons,List.not_mem_nil,or_false] at hs
  rcases hs with hs | hs | hs | hs | hs | (hs | hs) | hs | hs | hs | hs | (hs | hs) | hs | hs | hs
  ·rw [hs];exact itoa_small (by have:=h.kind;omega) (by have:=h.kind;omega)
  ·rw [hs];exact itoa_small (by omega) (by omega)
  ·rw [hs];have:=h.subject;omega
  ·rw [hs];have:=h.client;omega
  ·rw [hs];have:=h.audience;omega
  ·rw [hs];omega
  ·have:=h.scope.2 s hs;omega
  ·rw [hs];exact itoa_small h.born.1 (by have:=h.born.2;omega)
  ·rw [hs];exact itoa_small h.exp.1 (by have:=h.exp.2;omega)
  ·rw [hs];exact f1 _
  ·rw [hs];exact f1 _
  ·rw [hs];omega
  ·have:=h.actors.2 s hs;omega
  ·rw [hs];exact itoa_small h.level.1 (by have:=h.level.2;omega)
  ·rw [hs];have:=h.secret;omega
  ·rw [hs];have:=h.data;omega)
 have:=Nat.mul_le_mul_right 1010 hl
 omega
theorem Inv.rows {l:List Nd}{x:Int}(h:Inv l x): ∀n∈l,RowOk n:=fun n hn=>by
 have hs:=may_small (h.may n hn)
 have hx:=h.good.2 n hn
 have hm:=h.most
 have hp:=(h.ok.mem hn).2
 have:=hs.kind
 have:=hs.born
 have:=hs.exp
 have:=hs.level
 exact⟨by omega,⟨by unfold In64;omega,by unfold In64;omega,by unfold In64;omega,by unfold In64;omega,by unfold In64;omega⟩,by have:=hs.scope.1;omega,by have:=hs.actors.1;omega,by have:=node_small hs (by omega);omega⟩
theorem Inv.whole {l:List Nd}{x:Nat}(h:Inv l (x:Int)): Whole l x where
 ok:=h.ok
 next:=⟨by have:=h.good.1;omega,by have:=h.most;omega⟩
 ids:=fun n hn=>by have:=h.good.2 n hn;omega
 may:=h.may
 mid:=fun n hn=>by
  have hs:=may_small (h.may n hn)
  have hx:=h.good.2 n hn
  have hm:=h.most
  have hp:=(h.ok.mem hn).2
  exact⟨h.mid n hn,⟨by have:=hs.kind;omega,by omega,by have:=hs.born;omega,by have:=hs.exp;omega,by have:=hs.level;omega⟩,node_small hs (by omega)⟩
 sec:=h.sec
 few:=h.few
set_option maxHeartbeats 4000000 in
theorem samerows_any (rows:List (Bs×Bs))(hl:rows.length≤1000000)(w:World)(v u:Value)(h1:Rp w v rows)(h2:Rp w u rows): Calls Tryz.prog 18 #[v,u] w fun e w'=>e = .returned (.bool true)∧Below w.heap.size w w':=by
 obtain⟨a,c,rfl,hc,h1⟩:=h1
 obtain⟨b,d,rfl,hd,h2⟩:=h2
 have H1:=Lib.hid h1
 have H2:=Lib.hid h2
 obtain⟨m,hm⟩:∃m,m=rows.length:=⟨_,rfl⟩
 have HM:=Lib.hid hm
 rw [← hm] at hl ⊢
 clear h1 h2 hm hc hd
 go_enter Tryz.func18,Tryz.ntmps18
 go_wp2_with fail
 go_loopw [5] (fun iv wr=>∃i:Nat,i≤m∧iv = .int .i64 (i:Int)∧Hid (Below w.heap.size w wr)) (fun iv _=>m - (intOf iv).toNat)
 case atStart=>exact⟨0,Nat.zero_le _,rfl,Lib.hid (Below.refl _ _)⟩
 case round=>
  obtain⟨i,hi,rfl,HQ⟩:=hrel
  by_cases hlt:i<m
  ·have hlt1:i<rows.length:=by rw [← HM.out];exact hlt
   obtain⟨s,hs⟩:∃s,rows[i]'hlt1=s:=⟨_,rfl⟩
   obtain⟨g,o,rfl,c0⟩:=H1.out i hlt1
   obtain⟨g2,o2,rfl,d0⟩:=H2.out i hlt1
   have hltI:(i:Int)<(m:Int):=by omega
   rw [hs,show o+2*i=o+i*2 by omega] at c0
   rw [hs,show o2+2*i=o2+i*2 by omega] at d0
   obtain⟨s1,s2⟩:=s
   unfold txt at c0 d0
   dsimp only at c0 d0
   have C1:=Lib.hid (range_below c0 HQ.out)
   have D1:=Lib.hid (range_below d0 HQ.out)
   clear c0 d0 hs hlt1
   go_wp2_with fail
   refine wp_region_quiet_below mixed (by kernel_rfl) ?_
   repeat (first | go_big_quiet_step (fail) | quiet_step (fail))
   refine wpQuiet_load_mid rfl 47 _ rfl g (o+i*2) rfl [.string ⟨s1.toArray⟩,.string ⟨s2.toArray⟩] _ (fun w' hw'=>by obtain⟨p,rfl⟩:=hw';exact range_below C1.out (below_regrown wr p.d p.os)) Tryz.underlying47 rfl i47 ?_
   repeat (first | go_big_quiet_step (fail) | quiet_step (fail))
   refine wpQuiet_load_mid rfl 47 _ rfl g2 (o2+i*2) rfl [.string ⟨s1.toArray⟩,.string ⟨s2.toArray⟩] _ (fun w' hw'=>by obtain⟨p,rfl⟩:=hw';exact range_below D1.out (below_regrown wr p.d p.os)) Tryz.underlying47 rfl i47 ?_
   repeat (first | go_big_quiet_step (fail) | quiet_step (fail))
   refine wpQuiet_nil ?_
   intro _ hw'
   obtain⟨⟨dq,osq⟩,hw''⟩:=hw'
   subst hw''
   have B9:Hid (Below w.heap.size w (grow (redrawn wr dq) osq)):=Lib.hid (HQ.out.trans ((below_regrown wr dq osq).mono HQ.out.size))
   generalize grow (redrawn wr dq) osq=wq at B9 ⊢
   go_wp2_with fail
   go_roundw
   case rel=>exact⟨i+1,by omega,by go_num,B9⟩
   case measure=>simp [intOf];omega
  ·have hltI:¬(i:Int)<(m:Int):=by omega
   go_wp2_with fail
   go_ret
   exact⟨rfl,HQ.out⟩
theorem new_bk (w:World): Calls Tryz.prog 11 #[] w fun e w'=>e = .returned (.pointer (some ⟨w.heap.size,0,none⟩))∧w'=w.alloc (.cells #[.slice none 0 0,.int .i64 1] 40):=by
 go_enter Tryz.func11,Tryz.ntmps11
 go_wp2_with fail
 go_ret
 exact⟨rfl,rfl⟩
structure Dub (w0 w:World)(f g:Nat)(ns b:Ns)(x y:Int): Prop extends Duo w0 w f g ns b x y where
 ra:∀q,OwnsT w ns q→w0.heap.size≤q
 rb:∀q,OwnsT w b q→w0.heap.size≤q
theorem Dub.swap {w0 w:World}{f g:Nat}{ns b:Ns}{x y:Int}(h:Dub w0 w f g ns b x y): Dub w0 w g f b ns y x:=⟨h.toDuo.swap,h.rb,h.ra⟩
theorem Dub.nf {w0 w:World}{f g:Nat}{ns b:Ns}{x y:Int}(h:Dub w0 w f g ns b x y): Nf w0 w f ns x:=⟨h.fa,h.below,h.oa,h.ra⟩
theorem Dub.down {w0 w w':World}{f g:Nat}{ns b:Ns}{x y:Int}(h:Dub w0 w f g ns b x y)(hb:Below w.heap.size w w'): Dub w0 w' f g ns b x y:=
 ⟨h.toDuo.down hb,(h.nf.down hb).rows,(h.swap.nf.down hb).rows⟩
theorem Dub.move {w0 w w':World}{f g z:Nat}{ns ns' b:Ns}{x x' y:Int}{cz:Array Value}(h:Dub w0 w f g ns b x y)(hz:Bk 40 w z cz)(hz0:w0.heap.size≤z)(hf:Nf w0 w' f ns' x')(ho:∃L,Only L w w'∧∀q∈L,OwnsB w f ns q∨q=z)
  (hq:∀q,OwnsB w' f ns' q→OwnsB w f ns q∨w.heap.size≤q):Dub w0 w' f g ns' b x' y:=by
 obtain⟨L,ho,hL⟩:=ho
 have hgL:∀q∈L,¬OwnsB w g b q:=fun q hm h2=>by
  rcases hL q hm with h3 | h3
  ·exact h.ap q h3 h2
  ·subst h3;exact OwnsB.no h.fb (by decide) (by decide) (by decide) hz h2
 have hg':FR w' g b y:=h.fb.apart ho hgL (fun q hm cs=>by
  rcases hL q hm with h3 | h3
  ·exact OwnsB.no9 h.fa h3 cs
  ·subst h3;intro h4;exact bk_ne hz h4 (by decide) rfl)
 have eb:∀q,OwnsB w' g b q→OwnsB w g b q:=fun q hm=>hm.same (ho.block g (OwnsB.lt h.fb (.inl rfl)) (fun hm=>hgL g hm (.inl rfl)))
 refine⟨⟨hf.fr,hg',hf.below,hf.own,fun q hm=>h.ob q (eb q hm),fun q h1 h2=>?_⟩,hf.rows,fun q hm=>h.rb q (hm.same fun k hk=>ho.block k.1 (OwnsB.lt h.fb (.inr (.inl ⟨k,hk,rfl⟩))) (fun hm=>hgL k.1 hm (.inr (.inl ⟨k,hk,rfl⟩))))⟩
 rcases hq q h1 with h3 | h3
 ·exact h.ap q h3 (eb q h2)
 ·have:=OwnsB.lt h.fb (eb q h2)
  omega
theorem Dub.goA {w0 w w':World}{f g:Nat}{ns ns' b:Ns}{x x' y:Int}(h:Dub w0 w f g ns b x y)(hf:FR w' f ns' x')(hc:Chf w w' f ns ns'): Dub w0 w' f g ns' b x' y:=by
 have hd:=h.toDuo.goA hf hc
 obtain⟨L,ho,hL⟩:=hc.only
 exact⟨hd,(h.nf.go hf hc).rows,fun q hm=>h.rb q (hm.same fun k hk=>ho.block k.1 (OwnsB.lt h.fb (.inr (.inl ⟨k,hk,rfl⟩))) (fun hm=>h.ap k.1 (hL k.1 hm) (.inr (.inl ⟨k,hk,rfl⟩))))⟩
theorem rows_rp {w:World}{f:Nat}{ns:Ns}{l:List Nd}{x:Nat}(h:FR w f ns (x:Int))(e:nodes ns=l)(hi:Inv l (x:Int))(hT:Tb w): Calls Tryz.prog 19 #[.pointer (some ⟨f,0,none⟩)] w fun e w'=>∃v,e = .returned v∧Below w.heap.size w w'∧Rp w' v (rowsP l x):=by
 have hh:=rows_call h (few_ns e hi) (by have:=hi.most;omega) (by rw [e];exact hi.rows) hT
 refine hh.mono ?_
 rintro _ w' ⟨v,rfl,hv⟩
 refine⟨v,rfl,hv.2.1,Rp.of (rows:=rowsP l x) (n:=ns.length+1) (B:=0) ?_ (by rw [len_nodes e];simp [rowsP])⟩
 have h2:=hv.1
 rw [e] at h2
 exact h2
theorem rows_few {l:List Nd}{x:Nat}(hi:Inv l (x:Int)): (rowsP l x).length≤1000000:=by
 have:=hi.few
 simp only [rowsP,List.length_cons,List.length_map]
 omega
end Go.Proofs.YthogppennalobaaGreatDoor
namespace Go.Proofs.YthogppennalobaaGreatDoor.Pl
open Go.RowKit Go.Sort
noncomputable def baRO:Array Oper:=(Tryz.f9.body.bind fun c=>findR c 11).getD #[]
def baR_m:List (List Nat):=[[],[],[],[],[],[],[],[],[],[],[],[],[11],[11],[11],[11],[11]]
set_option maxHeartbeats 16000000 in
theorem baR (PW:Bool→World→Prop)(f q o N c i:Nat)(A r s:Int)(cs:List Value)(w:World)  (cl11:∀(w:World),PW false w→Calls Tryz.prog 26 #[.pointer (some ⟨f,0,none⟩),.agg cs.toArray,.int .i64 A] w fun e w1=>e = .returned (.tuple #[.int .i64 r,.int .i64 s])∧PW true  w1)(lk:∀(b11:Bool) (w:World),PW b11 w→w.rangeAt q (o+i*20+5) cs)(la:∀(b11:Bool) (w:World),PW b11 w→w.cell? ⟨q,o+i*20+2,none⟩=some (.int .i64 A))(hcs:cs.length=15)(hiN:i<N)(hiI:(i:Int)<(N:Int)){t0 t2 t3 t4 t6 t7 t9 t10 t11 t12 t13 t14 t15 t16 t17 t18 t19 t20 t21 t22 t23 t24 t25 t26 t27 t28 t29 t30 t31 t32 t33 t34 t35 t36 t37 t38 t39 t40 t41 t42 t43 t44 t45 t46 t47 t48 t49 t50 t51 t52 t53 t54 t55 t56 t57 t58 t59 t60 t61 t62 t63 t64 t65 t66 t67 t68 t69 t70 t71 t72 t73 t74 t75 t76 t77 t78 t79 t80 t81 t82 t83 t84 t85 t86 t87 t88 t89 t90 t91 t92 t93 t94 t95 t96 t97 t98 t99 t100 t101 t102 t103 t104 t105 t106 t107 t108 t109 t110:Value}(w0:PW false  w.drew){ds:List Deferred}{Q:Exit→Act→World→Prop}
  (h:∀(w1:World),PW true  w1→Q .normal {tmps:=#[t0,.slice (some ⟨q,o,none⟩) N c,t2,t3,t4,.pointer (some ⟨f,0,none⟩),t6,t7,.int .i64 (i:Int),.int .i64 r,.int .i64 s,t11,t12,t13,t14,t15,t16,t17,t18,t19,t20,t21,t22,t23,t24,t25,t26,t27,t28,t29,t30,t31,t32,t33,t34,t35,t36,t37,t38,t39,t40,t41,t42,.tuple #[.int .i64 r,.int .i64 s],.pointer (some ⟨f,0,none⟩),.slice (some ⟨q,o,none⟩) N c,.int .i64 (i:Int),.pointer (some ⟨q,o+i*20,none⟩),.pointer (some ⟨q,o+i*20+5,none⟩),.agg cs.toArray,.slice (some ⟨q,o,none⟩) N c,.int .i64 (i:Int),.pointer (some ⟨q,o+i*20,none⟩),.pointer (some ⟨q,o+i*20+2,none⟩),.int .i64 A,.tuple #[.int .i64 r,.int .i64 s],.int .i64 r,.int .i64 s,t58,t59,t60,t61,t62,t63,t64,t65,t66,t67,t68,t69,t70,t71,t72,t73,t74,t75,t76,t77,t78,t79,t80,t81,t82,t83,t84,t85,t86,t87,t88,t89,t90,t91,t92,t93,t94,t95,t96,t97,t98,t99,t100,t101,t102,t103,t104,t105,t106,t107,t108,t109,t110],defers:=ds} w1) :
  (Code.region 11 baRO true).wp Tryz.prog Q {tmps:=#[t0,.slice (some ⟨q,o,none⟩) N c,t2,t3,t4,.pointer (some ⟨f,0,none⟩),t6,t7,.int .i64 (i:Int),t9,t10,t11,t12,t13,t14,t15,t16,t17,t18,t19,t20,t21,t22,t23,t24,t25,t26,t27,t28,t29,t30,t31,t32,t33,t34,t35,t36,t37,t38,t39,t40,t41,t42,t43,t44,t45,t46,t47,t48,t49,t50,t51,t52,t53,t54,t55,t56,t57,t58,t59,t60,t61,t62,t63,t64,t65,t66,t67,t68,t69,t70,t71,t72,t73,t74,t75,t76,t77,t78,t79,t80,t81,t82,t83,t84,t85,t86,t87,t88,t89,t90,t91,t92,t93,t94,t95,t96,t97,t98,t99,t100,t101,t102,t103,t104,t105,t106,t107,t108,t109,t110],defers:=ds} w:=by
 have hsz:baRO.size=17:=by kernel_rfl
 generalize hT:List.toArray _=T0
 have hs:T0.size=111:=by subst hT;rfl
 have g1:T0.getD 1 undef = .slice (some ⟨q,o,none⟩) N c:=by subst hT;rfl
 have g5:T0.getD 5 undef = .pointer (some ⟨f,0,none⟩):=by subst hT;rfl
 have g8:T0.getD 8 undef = .int .i64 (i:Int):=by subst hT;rfl
 obtain⟨W,hV⟩:∃W:List ((Nat×(Value→Value)) ⊕ Value),W=[.inr (.pointer (some ⟨f,0,none⟩)),.inr (.slice (some ⟨q,o,none⟩) N c),.inr (.int .i64 (i:Int)),.inr (.pointer (some ⟨q,o+i*20,none⟩)),.inr (.pointer (some ⟨q,o+i*20+5,none⟩)),.inr (.agg cs.toArray),.inr (.slice (some ⟨q,o,none⟩) N c),.inr (.int .i64 (i:Int)),.inr (.pointer (some ⟨q,o+i*20,none⟩)),.inr (.pointer (some ⟨q,o+i*20+2,none⟩)),.inr (.int .i64 A),.inr (.tuple #[.int .i64 r,.int .i64 s]),.inr (.tuple #[.int .i64 r,.int .i64 s]),.inr (.int .i64 r),.inr (.int .i64 s),.inr (.int .i64 r),.inr (.int .i64 s)]:=⟨_,rfl⟩
 refine wp_plan (by kernel_rfl) T0 ds [11] baR_m (mkV W) (fun dx yx wx=>PW (dx 11)  wx) w (by rw [hs];kernel_rfl) (by kernel_rfl) (by kernel_rfl) (by rw [hsz];decide) (fun cx hc ix hne ha yx vx=>mkV_fix (by rw [hV];kernel_rfl) hne ha yx vx) (?key) (fun cx hc ox ho dx yx Tx wx hd hdb hda hK hW=>?_) ⟨fun k=>undef,w0⟩ (fun dx yx wx hd hW=>?_)
 case key=>
  rw [hsz]
  refine all_step (all_step (all_step (all_step (all_step (all_step (all_step (all_step (all_step (all_step (all_step (all_step (all_step (all_step (all_step (all_step (all_step all_zero ?_) ?_) ?_) ?_) ?_) ?_) ?_) ?_) ?_) ?_) ?_) ?_) ?_) ?_) ?_) ?_) ?_
  all_goals
   intro ox ho hic dx yx Tx wx hdb hK hW
   replace hdb:=Lib.hid hdb
  ·exact pl0 44 5 23 ho hK (by kernel_rfl) (by kernel_rfl) g5 (by subst hV;rfl) fun ps af e=>k_mv e
  ·exact pl0 45 1 22 ho hK (by kernel_rfl) (by kernel_rfl) g1 (by subst hV;rfl) fun ps af e=>k_mv e
  ·exact pl0 46 8 3 ho hK (by kernel_rfl) (by kernel_rfl) g8 (by subst hV;rfl) fun ps af e=>k_mv e
  ·obtain⟨ps,af,rfl⟩:=core (some 47) (.indexAddr 22 (.tmp 45) (.tmp 46)) 0 none ho (by kernel_rfl)
   have e45:Tx.getD 45 undef = .slice (some ⟨q,o,none⟩) N c:=hK.is 1 ho (by kernel_rfl) (by subst hV;rfl)
   have e46:Tx.getD 46 undef = .int .i64 (i:Int):=hK.is 2 ho (by kernel_rfl) (by subst hV;rfl)
   exact wpOp_plain ho rfl (by subst hV;go_simp;try rfl)
  ·obtain⟨ps,af,rfl⟩:=core (some 48) (.fieldAddr 33 (.tmp 47) 5) 0 none ho (by kernel_rfl)
   have e47:Tx.getD 47 undef = .pointer (some ⟨q,o+i*20,none⟩):=hK.is 3 ho (by kernel_rfl) (by subst hV;rfl)
   exact wpOp_plain ho rfl (by subst hV;go_simp;try rfl)
  ·obtain⟨ps,af,rfl⟩:=core (some 49) (.load 31 (.tmp 48)) 31 none ho (by kernel_rfl)
   have e48:Tx.getD 48 undef = .pointer (some ⟨q,o+i*20+5,none⟩):=hK.is 4 ho (by kernel_rfl) (by subst hV;rfl)
   have hl:=lk _ _ hW
   exact wpOp_plain ho rfl (by subst hV;exact wp_load_mid 31 _ rfl q (o+i*20+5) (by first | exact e48 | exact e63 | rfl) cs _ hl Tryz.underlying31 rfl (by rw [hcs];exact i31) ⟨rfl,rfl⟩)
  ·exact pl0 50 1 22 ho hK (by kernel_rfl) (by kernel_rfl) g1 (by subst hV;rfl) fun ps af e=>k_mv e
  ·exact pl0 51 8 3 ho hK (by kernel_rfl) (by kernel_rfl) g8 (by subst hV;rfl) fun ps af e=>k_mv e
  ·obtain⟨ps,af,rfl⟩:=core (some 52) (.indexAddr 22 (.tmp 50) (.tmp 51)) 0 none ho (by kernel_rfl)
   have e50:Tx.getD 50 undef = .slice (some ⟨q,o,none⟩) N c:=hK.is 6 ho (by kernel_rfl) (by subst hV;rfl)
   have e51:Tx.getD 51 undef = .int .i64 (i:Int):=hK.is 7 ho (by kernel_rfl) (by subst hV;rfl)
   exact wpOp_plain ho rfl (by subst hV;go_simp;try rfl)
  ·obtain⟨ps,af,rfl⟩:=core (some 53) (.fieldAddr 33 (.tmp 52) 2) 0 none ho (by kernel_rfl)
   have e52:Tx.getD 52 undef = .pointer (some ⟨q,o+i*20,none⟩):=hK.is 8 ho (by kernel_rfl) (by subst hV;rfl)
   exact wpOp_plain ho rfl (by subst hV;go_simp;try rfl)
  ·obtain⟨ps,af,rfl⟩:=core (some 54) (.load 3 (.tmp 53)) 3 none ho (by kernel_rfl)
   have e53:Tx.getD 53 undef = .pointer (some ⟨q,o+i*20+2,none⟩):=hK.is 9 ho (by kernel_rfl) (by subst hV;rfl)
   have hl:=la _ _ hW
   exact wpOp_plain ho rfl (by subst hV;go_simp;try rfl)
  ·exact absurd (by decide) hic
  ·exact pl1 43 55 11 57 ho hK (by kernel_rfl) (by kernel_rfl) (by subst hV;rfl) (by subst hV;rfl) fun ps af e=>k_mv e
  ·obtain⟨ps,af,rfl⟩:=core (some 56) (.extract (.tmp 43) 0) 3 none ho (by kernel_rfl)
   have e43:Tx.getD 43 undef = .tuple #[.int .i64 r,.int .i64 s]:=hK.is 12 ho (by kernel_rfl) (by subst hV;rfl)
   exact wpOp_plain ho rfl (by subst hV;go_simp;try rfl)
  ·obtain⟨ps,af,rfl⟩:=core (some 57) (.extract (.tmp 43) 1) 48 none ho (by kernel_rfl)
   have e43:Tx.getD 43 undef = .tuple #[.int .i64 r,.int .i64 s]:=hK.is 12 ho (by kernel_rfl) (by subst hV;rfl)
   exact wpOp_plain ho rfl (by subst hV;go_simp;try rfl)
  ·exact pl1 9 56 13 3 ho hK (by kernel_rfl) (by kernel_rfl) (by subst hV;rfl) (by subst hV;rfl) fun ps af e=>k_as e
  ·exact pl1 10 57 14 48 ho hK (by kernel_rfl) (by kernel_rfl) (by subst hV;rfl) (by subst hV;rfl) fun ps af e=>k_as e
 ·obtain rfl:cx=11:=by simpa using hc
  ·obtain⟨ps,af,rfl⟩:=core (some 55) (.call {callee:= .value (.func 26),args:=#[.tmp 44,.tmp 49,.tmp 54],argTypes:=#[23,31,3]}) 57 none ho (by kernel_rfl)
   have e44:Tx.getD 44 undef = .pointer (some ⟨f,0,none⟩):=hK.is 0 ho (by kernel_rfl) (by subst hV;rfl)
   have e49:Tx.getD 49 undef = .agg cs.toArray:=hK.is 5 ho (by kernel_rfl) (by subst hV;rfl)
   have e54:Tx.getD 54 undef = .int .i64 A:=hK.is 10 ho (by kernel_rfl) (by subst hV;rfl)
   have hW1:PW (dx 11)  wx:=hW
   clear hdb hda
   rw [hd] at hW1
   clear hd hW hc
   refine wpOp_plain ho rfl ?_
   go_simp
   go_at_call 26
   refine(cl11 _ hW1).mono ?_
   rintro ex w2 ⟨rfl,hW2⟩
   subst hV
   first | refine⟨undef,rfl,?_⟩ | refine⟨⟨undef,rfl⟩,?_⟩
   simpa [updB,upd] using hW2
 ·have hW1:PW (dx 11)  wx:=hW
  rw [hd 11 (by decide)] at hW1
  have hQ:=h _ hW1
  rw [hsz]
  subst hV hT
  refine cast (congrArg (fun Tx=>Q .normal ⟨Tx,ds⟩ wx) ?_) hQ
  kernel_rfl
noncomputable def bbRO:Array Oper:=(Tryz.f9.body.bind fun c=>findR c 12).getD #[]
def bbR_m:List (List Nat):=[[],[],[],[],[],[],[],[],[],[],[],[],[11],[11],[11],[11],[11]]
set_option maxHeartbeats 16000000 in
theorem bbR (PW:Bool→World→Prop)(f q o N c i:Nat)(A r s:Int)(cs:List Value)(w:World)  (cl11:∀(w:World),PW false w→Calls Tryz.prog 26 #[.pointer (some ⟨f,0,none⟩),.agg cs.toArray,.int .i64 A] w fun e w1=>e = .returned (.tuple #[.int .i64 r,.int .i64 s])∧PW true  w1)(lk:∀(b11:Bool) (w:World),PW b11 w→w.rangeAt q (o+i*20+5) cs)(la:∀(b11:Bool) (w:World),PW b11 w→w.cell? ⟨q,o+i*20+2,none⟩=some (.int .i64 A))(hcs:cs.length=15)(hiN:i<N)(hiI:(i:Int)<(N:Int)){t0 t2 t3 t4 t5 t7 t9 t10 t11 t12 t13 t14 t15 t16 t17 t18 t19 t20 t21 t22 t23 t24 t25 t26 t27 t28 t29 t30 t31 t32 t33 t34 t35 t36 t37 t38 t39 t40 t41 t42 t43 t44 t45 t46 t47 t48 t49 t50 t51 t52 t53 t54 t55 t56 t57 t58 t59 t60 t61 t62 t63 t64 t65 t66 t67 t68 t69 t70 t71 t72 t73 t74 t75 t76 t77 t78 t79 t80 t81 t82 t83 t84 t85 t86 t87 t88 t89 t90 t91 t92 t93 t94 t95 t96 t97 t98 t99 t100 t101 t102 t103 t104 t105 t106 t107 t108 t109 t110:Value}(w0:PW false  w.drew){ds:List Deferred}{Q:Exit→Act→World→Prop}
  (h:∀(w1:World),PW true  w1→Q .normal {tmps:=#[t0,.slice (some ⟨q,o,none⟩) N c,t2,t3,t4,t5,.pointer (some ⟨f,0,none⟩),t7,.int .i64 (i:Int),t9,t10,.int .i64 r,.int .i64 s,t13,t14,t15,t16,t17,t18,t19,t20,t21,t22,t23,t24,t25,t26,t27,t28,t29,t30,t31,t32,t33,t34,t35,t36,t37,t38,t39,t40,t41,t42,t43,t44,t45,t46,t47,t48,t49,t50,t51,t52,t53,t54,t55,t56,t57,.tuple #[.int .i64 r,.int .i64 s],.pointer (some ⟨f,0,none⟩),.slice (some ⟨q,o,none⟩) N c,.int .i64 (i:Int),.pointer (some ⟨q,o+i*20,none⟩),.pointer (some ⟨q,o+i*20+5,none⟩),.agg cs.toArray,.slice (some ⟨q,o,none⟩) N c,.int .i64 (i:Int),.pointer (some ⟨q,o+i*20,none⟩),.pointer (some ⟨q,o+i*20+2,none⟩),.int .i64 A,.tuple #[.int .i64 r,.int .i64 s],.int .i64 r,.int .i64 s,t73,t74,t75,t76,t77,t78,t79,t80,t81,t82,t83,t84,t85,t86,t87,t88,t89,t90,t91,t92,t93,t94,t95,t96,t97,t98,t99,t100,t101,t102,t103,t104,t105,t106,t107,t108,t109,t110],defers:=ds} w1) :
  (Code.region 12 bbRO true).wp Tryz.prog Q {tmps:=#[t0,.slice (some ⟨q,o,none⟩) N c,t2,t3,t4,t5,.pointer (some ⟨f,0,none⟩),t7,.int .i64 (i:Int),t9,t10,t11,t12,t13,t14,t15,t16,t17,t18,t19,t20,t21,t22,t23,t24,t25,t26,t27,t28,t29,t30,t31,t32,t33,t34,t35,t36,t37,t38,t39,t40,t41,t42,t43,t44,t45,t46,t47,t48,t49,t50,t51,t52,t53,t54,t55,t56,t57,t58,t59,t60,t61,t62,t63,t64,t65,t66,t67,t68,t69,t70,t71,t72,t73,t74,t75,t76,t77,t78,t79,t80,t81,t82,t83,t84,t85,t86,t87,t88,t89,t90,t91,t92,t93,t94,t95,t96,t97,t98,t99,t100,t101,t102,t103,t104,t105,t106,t107,t108,t109,t110],defers:=ds} w:=by
 have hsz:bbRO.size=17:=by kernel_rfl
 generalize hT:List.toArray _=T0
 have hs:T0.size=111:=by subst hT;rfl
 have g1:T0.getD 1 undef = .slice (some ⟨q,o,none⟩) N c:=by subst hT;rfl
 have g6:T0.getD 6 undef = .pointer (some ⟨f,0,none⟩):=by subst hT;rfl
 have g8:T0.getD 8 undef = .int .i64 (i:Int):=by subst hT;rfl
 obtain⟨W,hV⟩:∃W:List ((Nat×(Value→Value)) ⊕ Value),W=[.inr (.pointer (some ⟨f,0,none⟩)),.inr (.slice (some ⟨q,o,none⟩) N c),.inr (.int .i64 (i:Int)),.inr (.pointer (some ⟨q,o+i*20,none⟩)),.inr (.pointer (some ⟨q,o+i*20+5,none⟩)),.inr (.agg cs.toArray),.inr (.slice (some ⟨q,o,none⟩) N c),.inr (.int .i64 (i:Int)),.inr (.pointer (some ⟨q,o+i*20,none⟩)),.inr (.pointer (some ⟨q,o+i*20+2,none⟩)),.inr (.int .i64 A),.inr (.tuple #[.int .i64 r,.int .i64 s]),.inr (.tuple #[.int .i64 r,.int .i64 s]),.inr (.int .i64 r),.inr (.int .i64 s),.inr (.int .i64 r),.inr (.int .i64 s)]:=⟨_,rfl⟩
 refine wp_plan (by kernel_rfl) T0 ds [11] bbR_m (mkV W) (fun dx yx wx=>PW (dx 11)  wx) w (by rw [hs];kernel_rfl) (by kernel_rfl) (by kernel_rfl) (by rw [hsz];decide) (fun cx hc ix hne ha yx vx=>mkV_fix (by rw [hV];kernel_rfl) hne ha yx vx) (?key) (fun cx hc ox ho dx yx Tx wx hd hdb hda hK hW=>?_) ⟨fun k=>undef,w0⟩ (fun dx yx wx hd hW=>?_)
 case key=>
  rw [hsz]
  refine all_step (all_step (all_step (all_step (all_step (all_step (all_step (all_step (all_step (all_step (all_step (all_step (all_step (all_step (all_step (all_step (all_step all_zero ?_) ?_) ?_) ?_) ?_) ?_) ?_) ?_) ?_) ?_) ?_) ?_) ?_) ?_) ?_) ?_) ?_
  all_goals
   intro ox ho hic dx yx Tx wx hdb hK hW
   replace hdb:=Lib.hid hdb
  ·exact pl0 59 6 23 ho hK (by kernel_rfl) (by kernel_rfl) g6 (by subst hV;rfl) fun ps af e=>k_mv e
  ·exact pl0 60 1 22 ho hK (by kernel_rfl) (by kernel_rfl) g1 (by subst hV;rfl) fun ps af e=>k_mv e
  ·exact pl0 61 8 3 ho hK (by kernel_rfl) (by kernel_rfl) g8 (by subst hV;rfl) fun ps af e=>k_mv e
  ·obtain⟨ps,af,rfl⟩:=core (some 62) (.indexAddr 22 (.tmp 60) (.tmp 61)) 0 none ho (by kernel_rfl)
   have e60:Tx.getD 60 undef = .slice (some ⟨q,o,none⟩) N c:=hK.is 1 ho (by kernel_rfl) (by subst hV;rfl)
   have e61:Tx.getD 61 undef = .int .i64 (i:Int):=hK.is 2 ho (by kernel_rfl) (by subst hV;rfl)
   exact wpOp_plain ho rfl (by subst hV;go_simp;try rfl)
  ·obtain⟨ps,af,rfl⟩:=core (some 63) (.fieldAddr 33 (.tmp 62) 5) 0 none ho (by kernel_rfl)
   have e62:Tx.getD 62 undef = .pointer (some ⟨q,o+i*20,none⟩):=hK.is 3 ho (by kernel_rfl) (by subst hV;rfl)
   exact wpOp_plain ho rfl (by subst hV;go_simp;try rfl)
  ·obtain⟨ps,af,rfl⟩:=core (some 64) (.load 31 (.tmp 63)) 31 none ho (by kernel_rfl)
   have e63:Tx.getD 63 undef = .pointer (some ⟨q,o+i*20+5,none⟩):=hK.is 4 ho (by kernel_rfl) (by subst hV;rfl)
   have hl:=lk _ _ hW
   exact wpOp_plain ho rfl (by subst hV;exact wp_load_mid 31 _ rfl q (o+i*20+5) (by first | exact e48 | exact e63 | rfl) cs _ hl Tryz.underlying31 rfl (by rw [hcs];exact i31) ⟨rfl,rfl⟩)
  ·exact pl0 65 1 22 ho hK (by kernel_rfl) (by kernel_rfl) g1 (by subst hV;rfl) fun ps af e=>k_mv e
  ·exact pl0 66 8 3 ho hK (by kernel_rfl) (by kernel_rfl) g8 (by subst hV;rfl) fun ps af e=>k_mv e
  ·obtain⟨ps,af,rfl⟩:=core (some 67) (.indexAddr 22 (.tmp 65) (.tmp 66)) 0 none ho (by kernel_rfl)
   have e65:Tx.getD 65 undef = .slice (some ⟨q,o,none⟩) N c:=hK.is 6 ho (by kernel_rfl) (by subst hV;rfl)
   have e66:Tx.getD 66 undef = .int .i64 (i:Int):=hK.is 7 ho (by kernel_rfl) (by subst hV;rfl)
   exact wpOp_plain ho rfl (by subst hV;go_simp;try rfl)
  ·obtain⟨ps,af,rfl⟩:=core (some 68) (.fieldAddr 33 (.tmp 67) 2) 0 none ho (by kernel_rfl)
   have e67:Tx.getD 67 undef = .pointer (some ⟨q,o+i*20,none⟩):=hK.is 8 ho (by kernel_rfl) (by subst hV;rfl)
   exact wpOp_plain ho rfl (by subst hV;go_simp;try rfl)
  ·obtain⟨ps,af,rfl⟩:=core (some 69) (.load 3 (.tmp 68)) 3 none ho (by kernel_rfl)
   have e68:Tx.getD 68 undef = .pointer (some ⟨q,o+i*20+2,none⟩):=hK.is 9 ho (by kernel_rfl) (by subst hV;rfl)
   have hl:=la _ _ hW
   exact wpOp_plain ho rfl (by subst hV;go_simp;try rfl)
  ·exact absurd (by decide) hic
  ·exact pl1 58 70 11 57 ho hK (by kernel_rfl) (by kernel_rfl) (by subst hV;rfl) (by subst hV;rfl) fun ps af e=>k_mv e
  ·obtain⟨ps,af,rfl⟩:=core (some 71) (.extract (.tmp 58) 0) 3 none ho (by kernel_rfl)
   have e58:Tx.getD 58 undef = .tuple #[.int .i64 r,.int .i64 s]:=hK.is 12 ho (by kernel_rfl) (by subst hV;rfl)
   exact wpOp_plain ho rfl (by subst hV;go_simp;try rfl)
  ·obtain⟨ps,af,rfl⟩:=core (some 72) (.extract (.tmp 58) 1) 48 none ho (by kernel_rfl)
   have e58:Tx.getD 58 undef = .tuple #[.int .i64 r,.int .i64 s]:=hK.is 12 ho (by kernel_rfl) (by subst hV;rfl)
   exact wpOp_plain ho rfl (by subst hV;go_simp;try rfl)
  ·exact pl1 11 71 13 3 ho hK (by kernel_rfl) (by kernel_rfl) (by subst hV;rfl) (by subst hV;rfl) fun ps af e=>k_as e
  ·exact pl1 12 72 14 48 ho hK (by kernel_rfl) (by kernel_rfl) (by subst hV;rfl) (by subst hV;rfl) fun ps af e=>k_as e
 ·obtain rfl:cx=11:=by simpa using hc
  ·obtain⟨ps,af,rfl⟩:=core (some 70) (.call {callee:= .value (.func 26),args:=#[.tmp 59,.tmp 64,.tmp 69],argTypes:=#[23,31,3]}) 57 none ho (by kernel_rfl)
   have e59:Tx.getD 59 undef = .pointer (some ⟨f,0,none⟩):=hK.is 0 ho (by kernel_rfl) (by subst hV;rfl)
   have e64:Tx.getD 64 undef = .agg cs.toArray:=hK.is 5 ho (by kernel_rfl) (by subst hV;rfl)
   have e69:Tx.getD 69 undef = .int .i64 A:=hK.is 10 ho (by kernel_rfl) (by subst hV;rfl)
   have hW1:PW (dx 11)  wx:=hW
   clear hdb hda
   rw [hd] at hW1
   clear hd hW hc
   refine wpOp_plain ho rfl ?_
   go_simp
   go_at_call 26
   refine(cl11 _ hW1).mono ?_
   rintro ex w2 ⟨rfl,hW2⟩
   subst hV
   first | refine⟨undef,rfl,?_⟩ | refine⟨⟨undef,rfl⟩,?_⟩
   simpa [updB,upd] using hW2
 ·have hW1:PW (dx 11)  wx:=hW
  rw [hd 11 (by decide)] at hW1
  have hQ:=h _ hW1
  rw [hsz]
  subst hV hT
  refine cast (congrArg (fun Tx=>Q .normal ⟨Tx,ds⟩ wx) ?_) hQ
  kernel_rfl
end Go.Proofs.YthogppennalobaaGreatDoor.Pl
namespace Go.Proofs.YthogppennalobaaGreatDoor
open Go.RowKit Go.Sort Forest OwnR TxO Pl
set_option maxHeartbeats 16000000 in
theorem back_walk {w:World}{vs vm:Value}{ds es:List (OpD×Value×Value)}(hs:Sc w w vs ds)(hm:Sc w w vm es)(hT:Tb w)(hM:Mx w): Calls Tryz.prog 9 #[vs,vm] w fun e w'=>e = .returned (.bool true)∧Below w.heap.size w w':=by
 have HMA:=Lib.hid (made_any hs)
 have HTW:=Lib.hid (fun W (hb:Below w.heap.size w W)=>And.intro (hT.below hb) (hM.below hb))
 have HFX:=Lib.hid (fun W (hb:Below w.heap.size w W)=>fixed_any W (hT.below hb) (hM.below hb))
 obtain⟨am,cm,rfl,hn,hm⟩:=hm
 have HE:=Lib.hid hm
 obtain⟨N,hN⟩:∃N,N=es.length:=⟨_,rfl⟩
 have HL:=Lib.hid hN
 rw [← hN] at hn ⊢
 clear hs hm hN hT hM
 unfold kpt at HMA
 go_enter Tryz.func9,Tryz.ntmps9
 go_wp2_with fail
 refine HMA.out.mono ?_
 rintro e w1 ⟨f,l,x,rfl,hl,ns,e0,h1⟩
 obtain⟨X,rfl⟩:=Int.eq_ofNat_of_zero_le (show 0≤x by have:=hl.good.1;omega)
 have N1:=Lib.hid h1
 have HI:=Lib.hid hl
 have HE0:=Lib.hid e0
 have HRO:=Lib.hid (rows_rp h1.fr e0 hl (HTW.out w1 h1.below).1)
 clear HMA h1 hl e0
 go_wp2_with fail
 refine HRO.out.mono ?_
 rintro e w2 ⟨v,rfl,hb,hv⟩
 have N2:=Lib.hid (N1.out.down hb)
 have HLO:Hid (Calls Tryz.prog 22 #[v] w2 fun e w'=>∃f2 ns2,e = .returned (.tuple #[.pointer (some ⟨f2,0,none⟩),.int .i64 0])∧nodes ns2=l∧Nf w2 w' f2 ns2 X):=Lib.hid (load_any l X HI.out.whole w2 v hv (HTW.out w2 N2.out.below).1 (HTW.out w2 N2.out.below).2 HI.out.rows)
 clear hb hv HRO N1
 go_wp2_with fail
 refine HLO.out.mono ?_
 rintro e w3 ⟨g,b,rfl,e1,h2⟩
 have D3:Hid (Dub w w3 f g ns b X X):=Lib.hid ⟨N2.out.duo h2.fr h2.below h2.own,(N2.out.down h2.below).rows,fun q hq=>Nat.le_trans N2.out.below.size (h2.rows q hq)⟩
 have S3:Hid (∃(l:List Nd) (x:Nat) (ns b:Ns),Inv l (x:Int)∧nodes ns=l∧nodes b=l∧Dub w w3 f g ns b x x):=Lib.hid ⟨l,X,ns,b,HI.out,HE0.out,e1,D3.out⟩
 clear HLO h2 e1 D3 N2 HI HE0
 go_wp2_with fail
 go_loopw [8] (fun iv wr=>∃i:Nat,i≤N∧iv = .int .i64 (i:Int)∧Hid (∃(l:List Nd) (x:Nat) (ns b:Ns),Inv l (x:Int)∧nodes ns=l∧nodes b=l∧Dub w wr f g ns b x x)) (fun iv _=>N - (intOf iv).toNat)
 case atStart=>exact⟨0,Nat.zero_le _,rfl,S3⟩
 case round=>
  obtain⟨i,hi,rfl,HS⟩:=hrel
  clear S3
  obtain⟨l,x,ns,b,hl,e0,e1,hd⟩:=HS.out
  have HI:=Lib.hid hl
  have HE0:=Lib.hid e0
  have HE1:=Lib.hid e1
  have D:=Lib.hid hd
  have BW:=Lib.hid hd.below
  clear hl e0 e1 hd HS
  by_cases hlt:i<N
  ·have hltI:(i:Int)<(N:Int):=by omega
   have hje:i<es.length:=by rw [← HL.out];exact hlt
   obtain⟨⟨d,sv,av⟩,hz⟩:∃z,es[i]'hje=z:=⟨_,rfl⟩
   obtain⟨ho,q,o,rfl,hr⟩:=HE.out i hje
   rw [hz] at ho hr
   have HO:=Lib.hid ho
   have HR:=Lib.hid hr
   have hNb:N≤1000000000000:=hn
   have ckd:wr.cell? ⟨q,o+i*20+1,none⟩=some (.int .i64 d.kind):=range_below hr BW.out 1 _ rfl
   clear ho hr hz hje
   by_cases h0:d.kind=0
   ·obtain⟨rn,hr1⟩:∃z,z=(plantP l (x:Int) d.p d.n d.a).1:=⟨_,rfl⟩
    obtain⟨s,hs⟩:∃s,s=(plantP l (x:Int) d.p d.n d.a).2.1:=⟨_,rfl⟩
    obtain⟨L7,hL7⟩:∃z,z=(plantP l (x:Int) d.p d.n d.a).2.2.1:=⟨_,rfl⟩
    have HJ:Hid (Inv L7 (plantP l (x:Int) d.p d.n d.a).2.2.2):=Lib.hid (by rw [hL7];exact inv_plant HI.out d.p d.a d.n HO.out.mid)
    obtain⟨X7,hX7⟩:=Int.eq_ofNat_of_zero_le (show 0≤(plantP l (x:Int) d.p d.n d.a).2.2.2 by have:=HJ.out.good.1;omega)
    rw [hX7] at HJ
    have HPL:Hid (∀V f g ns b (y:Int),nodes ns=l→Dub w V f g ns b x y→Calls Tryz.prog 26 #[.pointer (some ⟨f,0,none⟩),.agg (inC d.i d.p d.n sv av).toList.toArray,.int .i64 d.a] V fun e w'=>e = .returned (.tuple #[.int .i64 rn,.int .i64 s])∧∃ns',nodes ns'=L7∧FR w' f ns' X7∧Chf V w' f ns ns'):=Lib.hid (fun V f g ns b y e0 hV=>by
     have hh:=plant_call hV.fa (few_ns e0 HI.out) (by rw [e0];exact HI.out.good) d.i d.p d.n sv av HO.out.mid (HO.out.r1.below hV.below) (HO.out.r2.below hV.below) (fun he z hz hw=>by have:=HO.out.o1 he z hz;have:=hV.oa z hw;omega) (fun he z hz hw=>by have:=HO.out.o2 he z hz;have:=hV.oa z hw;omega) d.a
     rw [e0,← hr1,← hs,← hL7,hX7] at hh
     exact hh)
    have HRA:Hid (∀V,Below w.heap.size w V→V.rangeAt q (o+i*20+5) (inC d.i d.p d.n sv av).toList∧V.cell? ⟨q,o+i*20+2,none⟩=some (.int .i64 d.a)):=Lib.hid (fun V hV=>⟨fun j v hv=>by
     have h1:=range_below HR.out hV (5+j) v (by
      have:=op_node d sv av j
      rw [Array.getElem?_toList,this,← Array.getElem?_toList]
      exact hv)
     rw [show o+i*20+5+j=o+i*20+(5+j) by omega]
     exact h1,range_below HR.out hV 2 _ rfl⟩)
    rw [h0] at ckd
    clear hr1 hs hL7 hX7 HI HR h0
    go_upto_region 11 with fail
    refine Pl.baR (fun bb V=>Below w.heap.size w V∧(bb=false→Dub w V f g ns b x x)∧(bb=true→∃ns',nodes ns'=L7∧Dub w V f g ns' b X7 x)) f q o N cm i d.a rn s (inC d.i d.p d.n sv av).toList wr ?cl (fun _ V hV=>(HRA.out V hV.1).1) (fun _ V hV=>(HRA.out V hV.1).2) (by rfl) hlt hltI ⟨BW.out.drew,fun _=>D.out.down (by go_grown),fun h=>by cases h⟩ ?_
    case cl=>
     intro V hV
     refine(HPL.out V f g ns b _ HE0.out (hV.2.1 rfl)).mono ?_
     rintro e w' ⟨rfl,ns',k1,k2,k3⟩
     have hd:=(hV.2.1 rfl).goA k2 k3
     exact⟨rfl,hd.below,(fun h=>by cases h),fun _=>⟨ns',k1,hd⟩⟩
    intro w7 hw7
    obtain⟨ns7,k1,hd7⟩:=hw7.2.2 rfl
    have HE7:=Lib.hid k1
    have D7:=Lib.hid hd7
    have B7:=Lib.hid hd7.below
    clear hw7 k1 hd7 D BW ckd
    go_upto_region 12 with fail
    refine Pl.bbR (fun bb V=>Below w.heap.size w V∧(bb=false→Dub w V f g ns7 b X7 x)∧(bb=true→∃b',nodes b'=L7∧Dub w V f g ns7 b' X7 X7)) g q o N cm i d.a rn s (inC d.i d.p d.n sv av).toList w7 ?cl2 (fun _ V hV=>(HRA.out V hV.1).1) (fun _ V hV=>(HRA.out V hV.1).2) (by rfl) hlt hltI ⟨B7.out.drew,fun _=>D7.out.down (by go_grown),fun h=>by cases h⟩ ?_
    case cl2=>
     intro V hV
     refine(HPL.out V g f b ns7 _ HE1.out (hV.2.1 rfl).swap).mono ?_
     rintro e w' ⟨rfl,b',k1,k2,k3⟩
     have hd:=((hV.2.1 rfl).swap.goA k2 k3).swap
     exact⟨rfl,hd.below,(fun h=>by cases h),fun _=>⟨b',k1,hd⟩⟩
    intro w8 hw8
    obtain⟨b8,k1,hd8⟩:=hw8.2.2 rfl
    have HS8:Hid (∃(l:List Nd) (x:Nat) (ns b:Ns),Inv l (x:Int)∧nodes ns=l∧nodes b=l∧Dub w w8 f g ns b x x):=Lib.hid ⟨L7,X7,ns7,b8,HJ.out,HE7.out,k1,hd8⟩
    clear hw8 k1 hd8 D7 B7 HRA HPL HE7 HJ HE0 HE1
    go_wp2_with fail
    go_roundw
    case rel=>exact⟨i+1,by omega,by go_num,HS8⟩
    case measure=>simp [intOf];omega
   ·have hk0:(d.kind == 0)=false:=beq_eq_false_iff_ne.2 h0
    have HN0:=Lib.hid h0
    clear h0
    obtain⟨y,hy⟩:∃y,y=wr.heap.size:=⟨_,rfl⟩
    have HNY:=Lib.hid (new_bk wr)
    rw [← hy] at HNY
    go_wp2_with fail
    refine HNY.out.mono ?_
    rintro e w4 ⟨rfl,hw4⟩
    have G4:Hid (Below wr.heap.size wr w4):=Lib.hid (by rw [hw4];go_grown)
    have K4:Hid (Bk 40 w4 y #[.slice none 0 0,.int .i64 1]):=Lib.hid (by rw [hw4];exact Bk.new hy)
    have HY0:Hid (w.heap.size≤y):=Lib.hid (by rw [hy];exact BW.out.size)
    have D4:=Lib.hid (D.out.down G4.out)
    clear hw4 HNY hy
    obtain⟨z,hz⟩:∃z,z=w4.heap.size:=⟨_,rfl⟩
    have HNZ:=Lib.hid (new_bk w4)
    rw [← hz] at HNZ
    clear ckd
    go_wp2_with fail
    refine HNZ.out.mono ?_
    rintro e w5 ⟨rfl,hw5⟩
    have G5:Hid (Below w4.heap.size w4 w5):=Lib.hid (by rw [hw5];go_grown)
    have KZ:Hid (Bk 40 w5 z #[.slice none 0 0,.int .i64 1]):=Lib.hid (by rw [hw5];exact Bk.new hz)
    have HZ0:Hid (w.heap.size≤z):=Lib.hid (by rw [hz];exact D4.out.below.size)
    have HYZ:Hid (z≠y):=Lib.hid (by have:=K4.out.lt;omega)
    have D5:=Lib.hid (D4.out.down G5.out)
    have K5:=Lib.hid (K4.out.below G5.out)
    clear hw5 HNZ hz G4 G5 D4 K4 D
    have T5:Hid (Two w w5 f y l [] x 1):=Lib.hid ⟨⟨ns,HE0.out,D5.out.nf⟩,⟨[],rfl,⟨⟨.slice none 0 0,K5.out,Nr.nil _⟩,HY0.out,fun r hr=>by cases hr⟩⟩⟩
    have HD:=Lib.hid (does_any d sv av HO.out T5.out HI.out inv_nil)
    have HR5:=Lib.hid (range_below HR.out D5.out.below)
    unfold kpt at HD
    go_wp2_with (refine wpList_load_mid rfl 33 _ rfl q (o+i*20) rfl (opC d sv av).toList _ HR5.out Tryz.underlying33 rfl i33 ?_)
    refine HD.out.mono ?_
    rintro e w6 ⟨bb,rfl,⟨⟨ns6,e6,n6⟩,_⟩,_,_,hkm⟩
    have km:=hkm HN0.out
    have HJ0:=inv_step HI.out d HO.out.mid
    obtain⟨X7,hX7⟩:=Int.eq_ofNat_of_zero_le (show 0≤(stepP l (x:Int) d).2 by have:=HJ0.good.1;omega)
    obtain⟨L7,hL7⟩:∃z,z=(stepP l (x:Int) d).1:=⟨_,rfl⟩
    rw [hX7,← hL7] at HJ0
    rw [← hL7] at e6
    rw [hX7] at n6
    have HJ:=Lib.hid HJ0
    have HE6:=Lib.hid e6
    have D6:=Lib.hid (D5.out.move K5.out HY0.out n6 (km.only ns _ D5.out.fa) (fun q hq=>km.own ns _ ns6 _ D5.out.fa n6.fr q hq))
    have KZ6:Hid (Bk 40 w6 z #[.slice none 0 0,.int .i64 1]):=Lib.hid (by
     obtain⟨L,hL,hq⟩:=km.only ns _ D5.out.fa
     exact KZ.out.only hL fun hm=>(hq z hm).elim (fun h=>OwnsB.no D5.out.fa (by decide) (by decide) (by decide) KZ.out h) HYZ.out)
    have HX7:=Lib.hid hX7
    have HL7:=Lib.hid hL7
    clear hkm km HJ0 hX7 hL7 e6 n6 HD HR5 T5 D5 K5 KZ HYZ HY0
    have T6:Hid (Two w w6 g z l [] x 1):=Lib.hid ⟨⟨b,HE1.out,D6.out.swap.nf⟩,⟨[],rfl,⟨⟨.slice none 0 0,KZ6.out,Nr.nil _⟩,HZ0.out,fun r hr=>by cases hr⟩⟩⟩
    have HD:=Lib.hid (does_any d sv av HO.out T6.out HI.out inv_nil)
    have HR6:=Lib.hid (range_below HR.out D6.out.below)
    unfold kpt at HD
    go_wp2_with (refine wpList_load_mid rfl 33 _ rfl q (o+i*20) rfl (opC d sv av).toList _ HR6.out Tryz.underlying33 rfl i33 ?_)
    refine HD.out.mono ?_
    rintro e w7 ⟨bb2,rfl,⟨⟨b7,e7,n7⟩,_⟩,_,_,hkm⟩
    have km:=hkm HN0.out
    rw [← HL7.out] at e7
    rw [HX7.out] at n7
    have HE7:=Lib.hid e7
    have D7:=Lib.hid (D6.out.swap.move KZ6.out HZ0.out n7 (km.only b _ D6.out.fb) (fun q hq=>km.own b _ b7 _ D6.out.fb n7.fr q hq)).swap
    clear hkm km e7 n7 HD HR6 T6 D6 KZ6 HZ0 HX7 HL7 HI HE0 HE1 HN0 HR HO hk0 BW
    have HRF:=Lib.hid (rows_rp D7.out.fa HE6.out HJ.out (HTW.out w7 D7.out.below).1)
    go_wp2_with fail
    refine HRF.out.mono ?_
    rintro e w8 ⟨v1,rfl,hb,hv1⟩
    have DA:=Lib.hid (D7.out.down hb)
    have HV1:=Lib.hid hv1
    clear hb hv1 HRF D7
    have HRG:=Lib.hid (rows_rp DA.out.fb HE7.out HJ.out (HTW.out w8 DA.out.below).1)
    go_wp2_with fail
    refine HRG.out.mono ?_
    rintro e w9 ⟨v2,rfl,hb,hv2⟩
    have DB:=Lib.hid (DA.out.down hb)
    have HSM:=Lib.hid (samerows_any (rowsP L7 X7) (rows_few HJ.out) w9 v1 v2 (HV1.out.below hb) hv2)
    clear hb hv2 HRG HV1 DA
    go_wp2_with fail
    refine HSM.out.mono ?_
    rintro e w10 ⟨rfl,hb⟩
    have DC:=Lib.hid (DB.out.down hb)
    clear hb HSM DB
    have HS8:Hid (∃(l:List Nd) (x:Nat) (ns b:Ns),Inv l (x:Int)∧nodes ns=l∧nodes b=l∧Dub w w10 f g ns b x x):=Lib.hid ⟨L7,X7,ns6,b7,HJ.out,HE6.out,HE7.out,DC.out⟩
    clear DC HE6 HE7 HJ
    go_wp2_with fail
    go_roundw
    case rel=>exact⟨i+1,by omega,by go_num,HS8⟩
    case measure=>simp [intOf];omega
  ·have hltI:¬(i:Int)<(N:Int):=by omega
   have HRF:=Lib.hid (rows_rp D.out.fa HE0.out HI.out (HTW.out wr D.out.below).1)
   go_wp2_with fail
   refine HRF.out.mono ?_
   rintro e w8 ⟨v1,rfl,hb,hv1⟩
   have DA:=Lib.hid (D.out.down hb)
   have HV1:=Lib.hid hv1
   clear hb hv1 HRF D
   have HRG:=Lib.hid (rows_rp DA.out.fb HE1.out HI.out (HTW.out w8 DA.out.below).1)
   go_wp2_with fail
   refine HRG.out.mono ?_
   rintro e w9 ⟨v2,rfl,hb,hv2⟩
   have DB:=Lib.hid (DA.out.down hb)
   have HSM:=Lib.hid (samerows_any (rowsP l x) (rows_few HI.out) w9 v1 v2 (HV1.out.below hb) hv2)
   clear hb hv2 HRG HV1 DA
   go_wp2_with fail
   refine HSM.out.mono ?_
   rintro e w10 ⟨rfl,hb⟩
   have DC:=Lib.hid (DB.out.down hb)
   clear hb HSM DB
   go_wp2_with fail
   refine(HFX.out w10 DC.out.below).mono ?_
   rintro e w11 ⟨rfl,hb⟩
   have B9:=Lib.hid (DC.out.below.trans (hb.mono DC.out.below.size))
   clear hb
   go_wp2_with fail
   go_ret
   exact⟨rfl,B9.out⟩
end Go.Proofs.YthogppennalobaaGreatDoor
namespace Go.Proofs.YthogppennalobaaGreatDoor.forestBack
open Go.ChangeShapes Go.WideShapes Go.ChangeAt Go.ChangeMaps Go.RowKit Go.Deep
theorem contract (H:Type)(enc:TypeId×Value→H)(W:World)(base:Nat)(args:Array Value)(ds gs:List (DataW H))(before:List MemPlace)
  (hval:∀(j:Nat) t v,Tryz.f9.params[j]?=some t→args[j]?=some v→Value.okWide Tryz.prog W .any base t v)
  (hW:DataW.Whole enc Tryz.prog Tryz.f9.params.toList Rows.forestBackSpec.vars false W args.toList ds gs before)
  (hz:(DataW.weightsEach Tryz.prog (Tryz.f9.params.toList++Rows.forestBackSpec.plain.varTypes Tryz.prog) (ds++gs)).all (·≤reachBytes)=true) (hT:Tb W) (hM:Mx W) :
  Calls Tryz.prog 9 args W fun e W'=>∃v,e = .returned v∧Rows.forestBackSpec.post enc Tryz.prog Tryz.f9 false true false false W args v W':=by
 have hW':=hW
 obtain⟨p,q,hA0,hV,rfl,hfz,hnd⟩:=hW
 have hA:DataW.TrodAll enc Tryz.prog W 0 (fun _=>true) true Tryz.f9.params.toList args.toList ds p:=hA0
 rw [Tryz.params9] at hA hval hz
 obtain⟨v0,vs0,d0,ds0,p0,q0,hargs,rfl,rfl,h0,r0⟩:=trodAll_cons hA
 obtain⟨v1,vs1,d1,ds1,p1,q1,rfl,rfl,rfl,h1,r1⟩:=trodAll_cons r0
 obtain⟨rfl,rfl,rfl⟩:=trodAll_nil r1
 obtain rfl:args=#[v0,v1]:=by cases args;simp_all
 obtain⟨rfl,rfl⟩:=trodVars_none hV
 obtain⟨l0,hO0⟩:=open_sc (hval 0 22 v0 rfl rfl) h0 (fun m hm=>by
  have:=List.all_eq_true.1 hz m (DataW.weights_mem_each (j:=0) (t:=22) (d:=d0) rfl rfl m hm)
  have hr:=reach_is
  simp only [decide_eq_true_eq] at this
  omega)
 obtain⟨l1,hO1⟩:=open_sc (hval 1 22 v1 rfl rfl) h1 (fun m hm=>by
  have:=List.all_eq_true.1 hz m (DataW.weights_mem_each (j:=1) (t:=22) (d:=d1) rfl rfl m hm)
  have hr:=reach_is
  simp only [decide_eq_true_eq] at this
  omega)
 clear hA0
 simp only [List.append_nil,List.nil_append] at hW'
 have hlt:=fun x hx=>hW'.lt x hx
 refine(back_walk hO0 hO1 hT hM).mono fun e W' ⟨he,hg⟩=>?_
 subst he
 exact⟨_,rfl,post_below (pa:=p0++p1) (pv:=[]) hW' (fun _ _ _=>trodAll_cons_mk (shut_bool Tryz.underlying4 _) trodAll_mk0)
  (fun sp hsp=>show DataW.TrodAll enc Tryz.prog W' 0 sp true [22,22] [v0,v1] [d0,d1] (p0++p1) from by
   simpa using (trodAll_cons_mk (trod_keep read22 row22 h0 hg (fun x hx=>hlt x (by simp [hx])) sp (fun x hx=>hsp x (by simp [hx]))) (trodAll_cons_mk (trod_keep read22 row22 h1 hg (fun x hx=>hlt x (by simp [hx])) sp (fun x hx=>hsp x (by simp [hx]))) trodAll_mk0)))
  (fun _ _=>rfl) (by simp) hg (ok_one (by kernel_rfl) rfl (okWide_bool_mk Tryz.underlying4 _))⟩
theorem laid_met (os:Os)(args:Array Value): laidMetH Tryz.prog Rows.forestBackRow.laid ((World.laidAll Tryz.prog os Rows.forestBackRow.laid).forCall (fun _ _=>0) ⟨#[],args,[]⟩).memory:=by
 rw [MakeChecks.laidMetH_plain _ _ _ (by kernel_rfl)]
 exact laidMet_laidAll _ (by kernel_rfl) (by kernel_rfl)
theorem reads (os:Os){H:Type}(enc:TypeId×Value→H): ∃places,DataW.whole enc Tryz.prog ((World.laidAll Tryz.prog os Rows.forestBackRow.laid).forCall (fun _ _=>0) ⟨#[],#[.slice none 0 0,.slice none 0 0],[]⟩).memory Tryz.f9.params.toList Rows.forestBackSpec.vars false (#[.slice none 0 0,.slice none 0 0]:Array Value).toList 8=some ([.nil,.nil],[],places):=
 ⟨[],by kernel_rfl⟩
theorem lifted (os:Os)(started:os.Started)(H:Type)(enc:TypeId×Value→H)(F:Stop.Interp):
  ReturnsInHanded {} Tryz.checked os 9 .any ((OpenSpec.ofChange Rows.forestBackSpec).preRow enc Tryz.prog Tryz.f9 Rows.forestBackRow.domain false Rows.forestBackRow.laid) (((OpenSpec.ofChange Rows.forestBackSpec).at F).post enc Tryz.prog Tryz.f9 false true false false):=by
 obtain⟨places,hx⟩:=reads os enc
 refine returnsInHanded_of_row (C:=Tryz.checked) (s:=OpenSpec.ofChange Rows.forestBackSpec) own started (by kernel_rfl) Tryz.func9
  (witness_row_atRef (enc:=enc) (C:=Tryz.checked) false (World.laidAll Tryz.prog os Rows.forestBackRow.laid) #[.slice none 0 0,.slice none 0 0] (World.laidAll_os _ _ _) (by kernel_rfl) (by kernel_rfl) (by kernel_rfl)
   (OpenSpec.preRow_of_cond 8 hx (by kernel_rfl) (fun k hk=>by cases hk) (by kernel_rfl) (laid_met os _))) ?_
 intro W base args ds gs before hval hW _ _ hz hL hS _
 exact contract H enc W base args ds gs before hval hW hz (tb_of_laid hL) (mx_of_shaped hS)
theorem said:Rows.ForestBackSaid:=
 OpenClaim.holds_of_cond 9 Tryz.f9 rfl rfl rfl rfl rfl rfl rfl ⟨rfl,rfl,rfl,rfl,rfl⟩ rfl rfl rfl rfl rfl (by kernel_rfl) Tryz.func9 (by kernel_rfl)
  (of_decide_eq_true (by kernel_rfl)) (by unfold Func.isWrapper;first | (rw [if_pos (by decide +kernel)];kernel_rfl) | (rw [if_neg (by decide +kernel)];exact⟨rfl,rfl⟩))
  (fun os started H enc _ F=>by rw [OpenClaim.pre_eq_preRow];exact lifted os started H enc F)
theorem plain (f : FuncId) (fn : Func) (hf : Tryz.pinned.checked.prog.funcNamed "seneschal/seneschallaw13.ForestBack" = some f) (hfn : Tryz.pinned.checked.prog.funcs[f]? = some fn) :
  true=Tryz.pinned.checked.prog.looks []∧∀(j:Nat) t,fn.params[j]?=some t→Tryz.pinned.checked.prog.wantsStandIn t=false:=by
 obtain rfl : f = 9 := Option.some.inj ((show Tryz.prog.funcNamed "seneschal/seneschallaw13.ForestBack" = some 9 by kernel_rfl).symm.trans hf) |>.symm
 obtain rfl:fn=Tryz.f9:=(Option.some.inj (Tryz.func9.symm.trans hfn)).symm
 refine⟨by kernel_rfl,fun j t ht=>?_⟩
 rw [Tryz.params9] at ht
 have h:=Array.mem_of_getElem? ht
 simp only [List.mem_toArray,List.mem_cons,List.not_mem_nil,or_false,or_self] at h
 subst h
 all_goals first | exact(show Tryz.prog.wantsStandIn 22=false by as_aux_lemma=>kernel_rfl)
theorem card:Rows.ForestBackCardSaid:=
 Claim7.holds_tied_plain_at .later [] _ _ _ _ said (fun _ h=>by cases h) (by kernel_rfl) (fun _ h=>by cases h) forestBack_row_tie rfl ⟨rfl,rfl⟩ (by kernel_rfl) rfl plain (by kernel_rfl)
end Go.Proofs.YthogppennalobaaGreatDoor.forestBack
