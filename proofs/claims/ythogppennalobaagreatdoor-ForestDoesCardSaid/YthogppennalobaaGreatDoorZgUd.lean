/- PROVED HERE: over any script of calls on any number of forests the program's forest answers as the document's does, and keeps the same nodes and the same rows (ForestDoes, the first form: within the form's reach), tied to the program's text. -/
import Derived.Test.YthogppennalobaaGreatDoorZg15
import Derived.Test.YthogppennalobaaGreatDoorZg07
import Derived.Test.YthogppennalobaaGreatDoorZg34
import Derived.Laws.IdiomStrings
import Derived.Lib.AppendStr
import Derived.Test.YthogppennalobaaGreatDoorZg02
import Derived.Test.YthogppennalobaaGreatDoorZg08
import Derived.Test.YthogppennalobaaGreatDoorZg11
import Derived.Test.YthogppennalobaaGreatDoorZg19
import Derived.Test.YthogppennalobaaGreatDoorZg33
set_option linter.unusedVariables false
set_option linter.unusedSimpArgs false
set_option maxRecDepth 100000
namespace Go.Proofs.YthogppennalobaaGreatDoor
open Go.RowKit Go.Sort Forest OwnR TxO
theorem ok_takeM:∀ {l:List Nd} (n:Nat),Ok l→Ok (l.take n)
 |[],n,_=>by rw [List.take_nil];trivial
 |a::l,0,_=>trivial
 |a::l,n+1,h=>⟨h.1,h.2.1,fun m hm=>h.2.2.1 m (List.mem_of_mem_take hm),ok_takeM n h.2.2.2⟩
end Go.Proofs.YthogppennalobaaGreatDoor
namespace Go.Proofs.YthogppennalobaaGreatDoor
open Go.RowKit Go.Sort Forest OwnR TxO Pl
theorem made_len {N:Int}{f:UInt8→Bool}{s:Bs}(h:madeP N f s=true): (s.length:Int)≤N:=by
 unfold madeP at h
 simp only [Bool.and_eq_true,decide_eq_true_eq] at h
 omega
theorem trim_two (s:Bs)(a b:UInt8): s.length≤(Lib.trimPrefix s [a,b]).length+2:=by
 unfold Lib.trimPrefix
 split
 ·rw [List.length_drop];simp only [List.length_cons,List.length_nil];omega
 ·omega
theorem prin_len {s:Bs}(h:prinP s=true): s.length≤200:=by
 unfold prinP at h
 simp only [Bool.or_eq_true,Bool.and_eq_true] at h
 rcases h with ⟨_,h⟩ | ⟨_,h⟩
 ·have h1:=made_len h
  have h2:=trim_two s 117 58
  omega
 ·have h1:=made_len h
  have h2:=trim_two s 99 58
  omega
structure Small (n:Nd): Prop where
 kind:1≤n.kind∧n.kind<6
 subject:n.subject.length≤200
 client:n.client.length≤200
 audience:n.audience.length≤200
 scope:n.scope.length≤16∧∀s∈n.scope,s.length≤200
 born:0≤n.born∧n.born≤1099511627776
 exp:0≤n.exp∧n.exp≤1099511627776
 actors:n.actors.length≤4∧∀s∈n.actors,s.length≤200
 level:0≤n.level∧n.level≤3
 secret:n.secret.length≤64
 data:n.data.length≤256
theorem may_small {p:Int}{n:Nd}(h:mayP p n=true): Small n:=by
 unfold mayP isTimeP at h
 simp only [Bool.and_eq_true,decide_eq_true_eq] at h
 obtain⟨⟨⟨⟨⟨⟨⟨⟨⟨⟨⟨⟨⟨⟨⟨⟨⟨h1,h2⟩,h3⟩,h4⟩,h5⟩,h6⟩,h7⟩,h8⟩,h9⟩,h10⟩,h11⟩,h12⟩,h13⟩,h14⟩,h15⟩,h16⟩,h17⟩,h18⟩:=h
 refine⟨⟨h1,h2⟩,prin_len h4,?_,?_,⟨by omega,fun s hs=>?_⟩,h10,h11,⟨by omega,fun s hs=>prin_len (List.all_eq_true.1 h13 s hs)⟩,⟨h14,h15⟩,by omega,by omega⟩
 ·rcases Bool.or_eq_true _ _▸h5 with h | h
  ·have e:n.client=[]:=by simpa using h
   rw [e];simp
  ·have:=made_len h;omega
 ·rcases Bool.or_eq_true _ _▸h6 with h | h
  ·have e:n.audience=[]:=by simpa using h
   rw [e];simp
  ·have:=made_len h;omega
 ·have:=made_len (List.all_eq_true.1 h8 s hs);omega
theorem form_small:∀(k:List Bs),(∀s∈k,s.length≤999)→(formL k).length≤k.length*1010
 |[],_=>by simp [formL]
 |s::k,h=>by
  have h1:=form_small k fun z hz=>h z (List.mem_cons_of_mem _ hz)
  have h2:=h s (by simp)
  have h3:(Lib.decDigits s.length).length≤4:=dec_len 3 s.length (by omega)
  simp only [formL,List.length_append,one_len,List.length_cons]
  omega
theorem itoa_small {x:Int}(h0:0≤x)(h:x<1000000000000000000): (Lib.itoa x).length≤999:=by
 obtain⟨u,rfl⟩:=Int.eq_ofNat_of_zero_le h0
 rw [Lib.itoa_nonneg]
 have:=dec_len 17 u (by omega)
 omega
theorem node_small {n:Nd}(h:Small n)(hp:n.parent≤99999999): (formL (nodeT n)).length≤1000000:=by
 have hl:(nodeT n).length≤40:=by
  unfold nodeT numsL listedL
  have:=h.scope.1
  have:=h.actors.1
  simp only [List.length_append,List.length_map,List.length_cons,List.length_nil]
  omega
 have h1:=form_small (nodeT n) (fun s hs=>by
  rw [nodeT_eq] at hs
  unfold listedL at hs
  have d1:=dec_len 1 n.scope.length (by have:=h.scope.1;omega)
  have d2:=dec_len 1 n.actors.length (by have:=h.actors.1;omega)
  have f1:∀b,(flagT b).length≤999:=fun b=>by cases b<;>decide
  simp only [List.mem_append,List.mem_cons,List.not_mem_nil,or_false] at hs
  rcases hs with hs | hs | hs | hs | hs | (hs | hs) | hs | hs | hs | hs | (hs | hs) | hs | hs | hs
  ·rw [hs];exact itoa_small (by have:=h.kind;omega) (by have:=h.kind;omega)
  ·rw [hs];exact itoa_small (by omega) (by omega)
  ·rw [hs];have:=h.subject;omega
  ·rw [hs];have:=h.client;omega
  ·rw [hs];have:=h.audience;omega
  ·rw [hs];omega
  ·have:=h.scope.2 s hs;omega
  ·rw [hs];exact itoa_small h.born.1 (by have:=h.born.2;omega)
  ·rw [hs];exact itoa_small h.exp.1 (by have:=h.exp.2;omega)
  ·rw [hs];exact f1 _
  ·rw [hs];exact f1 _
  ·rw [hs];omega
  ·have:=h.actors.2 s hs;omega
  ·rw [hs];exact itoa_small h.level.1 (by have:=h.level.2;omega)
  ·rw [hs];have:=h.secret;omega
  ·rw [hs];have:=h.data;omega)
 have:=Nat.mul_le_mul_right 1010 hl
 omega
theorem Inv.rows {l:List Nd}{x:Int}(h:Inv l x): ∀n∈l,RowOk n:=fun n hn=>by
 have hs:=may_small (h.may n hn)
 have hx:=h.good.2 n hn
 have hm:=h.most
 have hp:=(h.ok.mem hn).2
 have:=hs.kind
 have:=hs.born
 have:=hs.exp
 have:=hs.level
 exact⟨by omega,⟨by unfold In64;omega,by unfold In64;omega,by unfold In64;omega,by unfold In64;omega,by unfold In64;omega⟩,by have:=hs.scope.1;omega,by have:=hs.actors.1;omega,by have:=node_small hs (by omega);omega⟩
theorem Inv.whole {l:List Nd}{x:Nat}(h:Inv l (x:Int)): Whole l x where
 ok:=h.ok
 next:=⟨by have:=h.good.1;omega,by have:=h.most;omega⟩
 ids:=fun n hn=>by have:=h.good.2 n hn;omega
 may:=h.may
 mid:=fun n hn=>by
  have hs:=may_small (h.may n hn)
  have hx:=h.good.2 n hn
  have hm:=h.most
  have hp:=(h.ok.mem hn).2
  exact⟨h.mid n hn,⟨by have:=hs.kind;omega,by omega,by have:=hs.born;omega,by have:=hs.exp;omega,by have:=hs.level;omega⟩,node_small hs (by omega)⟩
 sec:=h.sec
 few:=h.few
set_option maxHeartbeats 4000000 in
theorem samerows_any (rows:List (Bs×Bs))(hl:rows.length≤1000000)(w:World)(v u:Value)(h1:Rp w v rows)(h2:Rp w u rows): Calls Tryz.prog 18 #[v,u] w fun e w'=>e = .returned (.bool true)∧Below w.heap.size w w':=by
 obtain⟨a,c,rfl,hc,h1⟩:=h1
 obtain⟨b,d,rfl,hd,h2⟩:=h2
 have H1:=Lib.hid h1
 have H2:=Lib.hid h2
 obtain⟨m,hm⟩:∃m,m=rows.length:=⟨_,rfl⟩
 have HM:=Lib.hid hm
 rw [← hm] at hl ⊢
 clear h1 h2 hm hc hd
 go_enter Tryz.func18,Tryz.ntmps18
 go_wp2_with fail
 go_loopw [5] (fun iv wr=>∃i:Nat,i≤m∧iv = .int .i64 (i:Int)∧Hid (Below w.heap.size w wr)) (fun iv _=>m - (intOf iv).toNat)
 case atStart=>exact⟨0,Nat.zero_le _,rfl,Lib.hid (Below.refl _ _)⟩
 case round=>
  obtain⟨i,hi,rfl,HQ⟩:=hrel
  by_cases hlt:i<m
  ·have hlt1:i<rows.length:=by rw [← HM.out];exact hlt
   obtain⟨s,hs⟩:∃s,rows[i]'hlt1=s:=⟨_,rfl⟩
   obtain⟨g,o,rfl,c0⟩:=H1.out i hlt1
   obtain⟨g2,o2,rfl,d0⟩:=H2.out i hlt1
   have hltI:(i:Int)<(m:Int):=by omega
   rw [hs,show o+2*i=o+i*2 by omega] at c0
   rw [hs,show o2+2*i=o2+i*2 by omega] at d0
   obtain⟨s1,s2⟩:=s
   unfold txt at c0 d0
   dsimp only at c0 d0
   have C1:=Lib.hid (range_below c0 HQ.out)
   have D1:=Lib.hid (range_below d0 HQ.out)
   clear c0 d0 hs hlt1
   go_wp2_with fail
   refine wp_region_quiet_below mixed (by kernel_rfl) ?_
   repeat (first | go_big_quiet_step (fail) | quiet_step (fail))
   refine wpQuiet_load_mid rfl 47 _ rfl g (o+i*2) rfl [.string ⟨s1.toArray⟩,.string ⟨s2.toArray⟩] _ (fun w' hw'=>by obtain⟨p,rfl⟩:=hw';exact range_below C1.out (below_regrown wr p.d p.os)) Tryz.underlying47 rfl i47 ?_
   repeat (first | go_big_quiet_step (fail) | quiet_step (fail))
   refine wpQuiet_load_mid rfl 47 _ rfl g2 (o2+i*2) rfl [.string ⟨s1.toArray⟩,.string ⟨s2.toArray⟩] _ (fun w' hw'=>by obtain⟨p,rfl⟩:=hw';exact range_below D1.out (below_regrown wr p.d p.os)) Tryz.underlying47 rfl i47 ?_
   repeat (first | go_big_quiet_step (fail) | quiet_step (fail))
   refine wpQuiet_nil ?_
   intro _ hw'
   obtain⟨⟨dq,osq⟩,hw''⟩:=hw'
   subst hw''
   have B9:Hid (Below w.heap.size w (grow (redrawn wr dq) osq)):=Lib.hid (HQ.out.trans ((below_regrown wr dq osq).mono HQ.out.size))
   generalize grow (redrawn wr dq) osq=wq at B9 ⊢
   go_wp2_with fail
   go_roundw
   case rel=>exact⟨i+1,by omega,by go_num,B9⟩
   case measure=>simp [intOf];omega
  ·have hltI:¬(i:Int)<(m:Int):=by omega
   go_wp2_with fail
   go_ret
   exact⟨rfl,HQ.out⟩
theorem new_bk (w:World): Calls Tryz.prog 11 #[] w fun e w'=>e = .returned (.pointer (some ⟨w.heap.size,0,none⟩))∧w'=w.alloc (.cells #[.slice none 0 0,.int .i64 1] 40):=by
 go_enter Tryz.func11,Tryz.ntmps11
 go_wp2_with fail
 go_ret
 exact⟨rfl,rfl⟩
structure Dub (w0 w:World)(f g:Nat)(ns b:Ns)(x y:Int): Prop extends Duo w0 w f g ns b x y where
 ra:∀q,OwnsT w ns q→w0.heap.size≤q
 rb:∀q,OwnsT w b q→w0.heap.size≤q
theorem Dub.swap {w0 w:World}{f g:Nat}{ns b:Ns}{x y:Int}(h:Dub w0 w f g ns b x y): Dub w0 w g f b ns y x:=⟨h.toDuo.swap,h.rb,h.ra⟩
theorem Dub.nf {w0 w:World}{f g:Nat}{ns b:Ns}{x y:Int}(h:Dub w0 w f g ns b x y): Nf w0 w f ns x:=⟨h.fa,h.below,h.oa,h.ra⟩
theorem Dub.down {w0 w w':World}{f g:Nat}{ns b:Ns}{x y:Int}(h:Dub w0 w f g ns b x y)(hb:Below w.heap.size w w'): Dub w0 w' f g ns b x y:=
 ⟨h.toDuo.down hb,(h.nf.down hb).rows,(h.swap.nf.down hb).rows⟩
theorem Dub.move {w0 w w':World}{f g z:Nat}{ns ns' b:Ns}{x x' y:Int}{cz:Array Value}(h:Dub w0 w f g ns b x y)(hz:Bk 40 w z cz)(hz0:w0.heap.size≤z)(hf:Nf w0 w' f ns' x')(ho:∃L,Only L w w'∧∀q∈L,OwnsB w f ns q∨q=z)
  (hq:∀q,OwnsB w' f ns' q→OwnsB w f ns q∨w.heap.size≤q):Dub w0 w' f g ns' b x' y:=by
 obtain⟨L,ho,hL⟩:=ho
 have hgL:∀q∈L,¬OwnsB w g b q:=fun q hm h2=>by
  rcases hL q hm with h3 | h3
  ·exact h.ap q h3 h2
  ·subst h3;exact OwnsB.no h.fb (by decide) (by decide) (by decide) hz h2
 have hg':FR w' g b y:=h.fb.apart ho hgL (fun q hm cs=>by
  rcases hL q hm with h3 | h3
  ·exact OwnsB.no9 h.fa h3 cs
  ·subst h3;intro h4;exact bk_ne hz h4 (by decide) rfl)
 have eb:∀q,OwnsB w' g b q→OwnsB w g b q:=fun q hm=>hm.same (ho.block g (OwnsB.lt h.fb (.inl rfl)) (fun hm=>hgL g hm (.inl rfl)))
 refine⟨⟨hf.fr,hg',hf.below,hf.own,fun q hm=>h.ob q (eb q hm),fun q h1 h2=>?_⟩,hf.rows,fun q hm=>h.rb q (hm.same fun k hk=>ho.block k.1 (OwnsB.lt h.fb (.inr (.inl ⟨k,hk,rfl⟩))) (fun hm=>hgL k.1 hm (.inr (.inl ⟨k,hk,rfl⟩))))⟩
 rcases hq q h1 with h3 | h3
 ·exact h.ap q h3 (eb q h2)
 ·have:=OwnsB.lt h.fb (eb q h2)
  omega
theorem Dub.goA {w0 w w':World}{f g:Nat}{ns ns' b:Ns}{x x' y:Int}(h:Dub w0 w f g ns b x y)(hf:FR w' f ns' x')(hc:Chf w w' f ns ns'): Dub w0 w' f g ns' b x' y:=by
 have hd:=h.toDuo.goA hf hc
 obtain⟨L,ho,hL⟩:=hc.only
 exact⟨hd,(h.nf.go hf hc).rows,fun q hm=>h.rb q (hm.same fun k hk=>ho.block k.1 (OwnsB.lt h.fb (.inr (.inl ⟨k,hk,rfl⟩))) (fun hm=>h.ap k.1 (hL k.1 hm) (.inr (.inl ⟨k,hk,rfl⟩))))⟩
theorem rows_rp {w:World}{f:Nat}{ns:Ns}{l:List Nd}{x:Nat}(h:FR w f ns (x:Int))(e:nodes ns=l)(hi:Inv l (x:Int))(hT:Tb w): Calls Tryz.prog 19 #[.pointer (some ⟨f,0,none⟩)] w fun e w'=>∃v,e = .returned v∧Below w.heap.size w w'∧Rp w' v (rowsP l x):=by
 have hh:=rows_call h (few_ns e hi) (by have:=hi.most;omega) (by rw [e];exact hi.rows) hT
 refine hh.mono ?_
 rintro _ w' ⟨v,rfl,hv⟩
 refine⟨v,rfl,hv.2.1,Rp.of (rows:=rowsP l x) (n:=ns.length+1) (B:=0) ?_ (by rw [len_nodes e];simp [rowsP])⟩
 have h2:=hv.1
 rw [e] at h2
 exact h2
theorem rows_few {l:List Nd}{x:Nat}(hi:Inv l (x:Int)): (rowsP l x).length≤1000000:=by
 have:=hi.few
 simp only [rowsP,List.length_cons,List.length_map]
 omega
open Go.Lib renaming hid→Φ
set_option maxHeartbeats 4000000 in
theorem clone_rows {w:World}{f:Nat}{ns:Ns}{nx:Int}(h:FR w f ns nx)(hl:ns.length≤1000000): Calls Tryz.prog 13 #[kpt f] w fun e w'=>∃g b,e = .returned (kpt g)∧nodes b=nodes ns∧FR w' g b nx∧Below w.heap.size w w'∧(∀q,OwnsB w' g b q→w.heap.size≤q)∧∀q,OwnsT w' b q→OwnsT w ns q:=by
 have H:=Φ h
 have HL:=Φ hl
 obtain⟨a,c,h0,h1,hc⟩:=h.cells
 have HC:=Φ hc
 have hw:Below w.heap.size w (w.alloc (.cells #[.slice none 0 0,.int .i64 nx] 71)):=by go_grown
 have HF0:Hid (FR (w.alloc (.cells #[.slice none 0 0,.int .i64 nx] 71)) w.heap.size [] nx):=Φ ⟨trivial,⟨none,0,Bk.new rfl,⟨rfl,.inl ⟨rfl,rfl⟩⟩⟩,fun k hk=>by cases hk⟩
 have HO0:Hid (∀q,OwnsB (w.alloc (.cells #[.slice none 0 0,.int .i64 nx] 71)) w.heap.size [] q→w.heap.size≤q):=Φ fun q hq=>by
  rcases hq with rfl | ⟨k,hk,_⟩ | ⟨n,d,x,hq⟩
  ·exact Nat.le_refl _
  ·cases hk
  ·have e:=(show Bk 71 (w.alloc (.cells #[.slice none 0 0,.int .i64 nx] 71)) w.heap.size #[.slice none 0 0,.int .i64 nx] from Bk.new rfl).symm.trans hq
   simp at e
 have HW:=Φ hw
 have d0:(w.alloc (.cells #[.slice none 0 0,.int .i64 nx] 71)).cell? ⟨f,0,none⟩=some (.slice a ns.length c):=cell_below hw h0
 clear hc h hl
 unfold kpt
 go_enter Tryz.func13,Tryz.ntmps13
 go_wp2_with fail
 clear h0 h1 d0 hw
 obtain⟨g,hg⟩:∃g,g=w.heap.size:=⟨_,rfl⟩
 rw [← hg]
 rw [← hg] at HF0 HO0
 have HG:=Φ hg
 clear hg
 generalize w.alloc (.cells #[.slice none 0 0,.int .i64 nx] 71)=w1 at HF0 HO0 HW ⊢
 go_loopw [17] (fun iv wr=>∃i:Nat,i≤ns.length∧iv = .int .i64 (i:Int)∧Hid (∃b:Ns,b.length=i∧nodes b=(nodes ns).take i∧FR wr g b nx∧Below w.heap.size w wr∧(∀q,OwnsB wr g b q→w.heap.size≤q)∧∀q,OwnsT wr b q→OwnsT w ns q)) (fun iv _=>ns.length - (intOf iv).toNat)
 case atStart=>exact⟨0,Nat.zero_le _,rfl,Φ ⟨[],rfl,rfl,HF0.out,HW.out,by rw [← HG.out];exact HO0.out,fun q ⟨k,hk,_⟩=>by cases hk⟩⟩
 case round=>
  obtain⟨i,hi,rfl,HI⟩:=hrel
  by_cases hlt:i<ns.length
  ·obtain⟨b,hbi,hbn,hbf,hbb,hbo,hbt⟩:=HI.out
   have hltI:(i:Int)<(ns.length:Int):=by omega
   have hln:=HL.out
   obtain⟨q,rfl,c0⟩:=HC.out i hlt
   have c1:wr.cell? ⟨q,i,none⟩=some (kpt ns[i].1):=cell_below hbb c0
   obtain⟨k,hk⟩:∃k,ns[i]'hlt=k:=⟨_,rfl⟩
   have hkm:k∈ns:=hk▸List.getElem_mem hlt
   rw [hk] at c1
   obtain⟨sv0,av0,K,hs,ha⟩:=(H.out.below hbb).node k hkm
   have HT:(nodes ns).take (i+1)=(nodes ns).take i++[k.2]:=by
    unfold nodes
    rw [List.take_add_one,List.getElem?_map,List.getElem?_eq_getElem hlt,hk];rfl
   have HST:Hid ((∀q,sv0.ownBlock=some q∨av0.ownBlock=some q→OwnsT w ns q)∧∀q,OwnsT wr b q→OwnsT w ns q):=Φ ⟨fun q hq=>⟨k,hkm,_,_,_,_,(hbb.block _ (OwnsB.lt H.out (.inr (.inl ⟨k,hkm,rfl⟩)))).symm.trans K,hq⟩,hbt⟩
   have hok:Ok (nodes b++[k.2]):=by rw [hbn,← HT];exact ok_takeM _ H.out.ok
   have HP:=Φ (put_any hbf (by omega) k.2 sv0 av0 hok hs ha)
   have HX:Hid (b.length=i∧nodes b++[k.2]=(nodes ns).take (i+1)∧Below w.heap.size w wr∧∀q,OwnsB wr g b q→w.heap.size≤q):=Φ ⟨hbi,by rw [hbn,HT],hbb,hbo⟩
   have K2:=K
   unfold ndC txt at K2
   obtain⟨⟨a0,a1,a2,a3,a4⟩,⟨a5,a6,a7,a8,a9⟩,a10,a11,a12,a13,a14⟩:=K2.cells15
   obtain⟨sa,sc,rfl⟩:=owns_shape hs
   obtain⟨ca,cc,rfl⟩:=owns_shape ha
   unfold inC txt kpt at HP
   clear HI hbi hbn hbf hbb hbo hbt c0 hk K K2 hs ha hkm hok HT
   unfold kpt at c1
   go_wp2_with fail
   refine HP.out.mono ?_
   rintro e w2 ⟨rfl,g',hg',hf',hc',ht'⟩
   clear c1 a0 a1 a2 a3 a4 a5 a6 a7 a8 a9 a10 a11 a12 a13 a14 HP
   have HY:Hid (∃b:Ns,b.length=i+1∧nodes b=(nodes ns).take (i+1)∧FR w2 g b nx∧Below w.heap.size w w2∧(∀q,OwnsB w2 g b q→w.heap.size≤q)∧∀q,OwnsT w2 b q→OwnsT w ns q):=Φ (by
    obtain⟨L,hL,hLo⟩:=hc'.only
    have hsz:=HX.out.2.2.1.size
    refine⟨_,by simp [HX.out.1],by rw [← HX.out.2.1];simp [nodes],hf',HX.out.2.2.1.trans (hL.below hsz fun x hx=>HX.out.2.2.2 x (hLo x hx)),fun q hq=>?_,fun q hq=>(ht' q hq).elim (HST.out.2 q) (HST.out.1 q)⟩
    rcases hc'.own q hq with h | h
    ·exact HX.out.2.2.2 q h
    ·exact Nat.le_trans hsz h)
   clear hg' hf' hc' ht'
   go_wp2_with fail
   go_roundw
   case rel=>exact⟨i+1,by omega,by go_num,HY⟩
   case measure=>simp [intOf];omega
  ·have hie:i=ns.length:=by omega
   have hltI:¬(i:Int)<(ns.length:Int):=by omega
   go_wp2_with fail
   go_ret
   obtain⟨b,hbi,hbn,hbf,hbb,hbo,hbt⟩:=HI.out
   exact⟨g,rfl,b,by rw [hbn,hie,List.take_of_length_le (by simp [nodes])],hbf,hbb,hbo,hbt⟩
theorem copy_any {w:World}{g:Nat}{a:Option Addr}{n c:Nat}{x:Int}(h:Bk 40 w g #[.slice a n c,.int .i64 x]): Calls Tryz.prog 14 #[kpt g] w fun e w'=>e = .returned (kpt w.heap.size)∧Below w.heap.size w w'∧Bk 40 w' w.heap.size #[.slice a n c,.int .i64 x]:=by
 have h0:=h.cell 0
 have h1:=h.cell 1
 have hr:w.rangeAt g 0 [.slice a n c,.int .i64 x]:=fun j v hj=>by
  have:=h.cell j
  rw [show(0+j)=j by omega,this]
  simpa using hj
 have HR:=Lib.hid hr
 clear hr
 unfold kpt
 go_enter Tryz.func14,Tryz.ntmps14
 go_wp2_with (refine wpList_load_mid rfl 40 _ rfl g 0 rfl [.slice a n c,.int .i64 x] _ HR.out Tryz.underlying40 rfl (by kernel_rfl) ?_)
 go_ret
 refine⟨rfl,by go_grown,Bk.new rfl⟩
theorem Nf.only {w0 w w':World}{f:Nat}{ns:Ns}{x:Int}{L:List Nat}(n:Nf w0 w f ns x)(ho:Only L w w')(hb:Below w0.heap.size w0 w')(hL:∀q∈L,¬OwnsB w f ns q)(h9:∀q∈L,∀cs,¬Bk 9 w q cs):
  Nf w0 w' f ns x∧∀q,OwnsB w' f ns q→OwnsB w f ns q:=by
 have eb:∀q,OwnsB w' f ns q→OwnsB w f ns q:=fun q hm=>hm.same (ho.block f (OwnsB.lt n.fr (.inl rfl)) (fun hm=>hL f hm (.inl rfl)))
 exact⟨⟨n.fr.apart ho hL h9,hb,fun q hm=>n.own q (eb q hm),fun q hm=>n.rows q (hm.same fun k hk=>ho.block k.1 (OwnsB.lt n.fr (.inr (.inl ⟨k,hk,rfl⟩))) (fun hm=>hL k.1 hm (.inr (.inl ⟨k,hk,rfl⟩))))⟩,eb⟩
theorem Xn.only {w0 w w':World}{g:Nat}{rs:List (Nd×Value×Value)}{y:Int}{L:List Nat}(k:Xn w0 w g rs y)(ho:Only L w w')(hg:g∉L)(h9:∀q∈L,∀cs,¬Bk 9 w q cs)(h31:∀q∈L,∀cs,¬Bk 31 w q cs): Xn w0 w' g rs y:=by
 obtain⟨v,k1,k2⟩:=k.xr
 have ht:∀ {v:Value} {l:List Bs},Tx w v l→Tx w' v l:=fun hx=>hx.only ho fun q hq hm=>by
  obtain⟨_,cs,hb⟩:=TxO.owns_block hx hq
  exact h9 q hm cs hb
 refine⟨⟨v,k1.only ho hg,OwnR.owns_only k2.1 ho (fun q hq hm=>?_),fun r hr=>⟨ht (k2.2 r hr).1,ht (k2.2 r hr).2⟩⟩,k.base,fun r hr q hq=>Nat.lt_of_lt_of_le (k.rows r hr q hq) ho.size⟩
 obtain⟨_,cs,hb⟩:=OwnR.owns_block k2.1 hq
 exact h31 q hm cs hb
def Apart (w:World)(f g:Nat): Prop:=∀ns x b y,FR w f ns x→FR w g b y→∀q,OwnsB w f ns q→¬OwnsB w g b q
theorem Apart.symm {w:World}{f g:Nat}(h:Apart w f g): Apart w g f:=fun ns x b y h1 h2 q q1 q2=>h b y ns x h2 h1 q q2 q1
def Olds (w w':World)(f:Nat): Prop:=∀ns x b y,FR w f ns x→FR w' f b y→∀q,OwnsB w' f b q→OwnsB w f ns q∨w.heap.size≤q
def Same (w w':World)(f:Nat): Prop:=∀ns x b y,FR w f ns x→FR w' f b y→∀q,OwnsB w' f b q→OwnsB w f ns q
theorem Same.olds {w w':World}{f:Nat}(h:Same w w' f): Olds w w' f:=fun ns x b y h1 h2 q hq=> .inl (h ns x b y h1 h2 q hq)
theorem Apart.go {w w':World}{f g:Nat}(h:Apart w f g)(hf:∃ns x,FR w f ns x)(hg:∃b y,FR w g b y)(h1:Olds w w' f)(h2:Same w w' g): Apart w' f g:=by
 intro ns x b y k1 k2 q q1 q2
 obtain⟨ns0,x0,f0⟩:=hf
 obtain⟨b0,y0,g0⟩:=hg
 have q3:=h2 _ _ _ _ g0 k2 q q2
 rcases h1 _ _ _ _ f0 k1 q q1 with h3 | h3
 ·exact h _ _ _ _ f0 g0 q h3 q3
 ·have:=OwnsB.lt g0 q3
  omega
theorem Nf.same {w0 w w':World}{f:Nat}{ns:Ns}{x:Int}(h:Nf w0 w f ns x)(h':Nf w0 w' f ns x)(e:∀q,OwnsB w' f ns q→OwnsB w f ns q): Same w w' f:=fun ns1 x1 b y h1 h2 q hq=>(e q (hq.blocks (h2.blocks h'.fr))).blocks (h.fr.blocks h1)
structure PairF where
 f:Nat
 g:Nat
 l:List Nd
 x:Nat
structure Fam (w0 w:World)(P:List PairF): Prop where
 below:Below w0.heap.size w0 w
 two:∀i (h:i<P.length),Two w0 w P[i].f P[i].g P[i].l P[i].l (P[i].x:Int) (P[i].x:Int)
 inv:∀i (h:i<P.length),Inv P[i].l (P[i].x:Int)
 ap:∀i j (hi:i<P.length) (hj:j<P.length),i≠j→Apart w P[i].f P[j].f
 dis:∀i j (hi:i<P.length) (hj:j<P.length),i≠j→P[i].g≠P[j].g
theorem Two.fr {w0 w:World}{f g:Nat}{l m:List Nd}{x y:Int}(h:Two w0 w f g l m x y): ∃ns x,FR w f ns x:=by
 obtain⟨⟨ns,_,n⟩,_⟩:=h
 exact⟨ns,_,n.fr⟩
theorem Two.bk {w0 w:World}{f g:Nat}{l m:List Nd}{x y:Int}(h:Two w0 w f g l m x y): ∃cs,Bk 40 w g cs:=by
 obtain⟨_,⟨rs,_,k⟩⟩:=h
 exact xr_bk k.xr
theorem Two.only {w0 w w':World}{f g:Nat}{l m:List Nd}{x y:Int}{L:List Nat}(h:Two w0 w f g l m x y)(ho:Only L w w')(hb:Below w0.heap.size w0 w')(hL:∀ns x,FR w f ns x→∀q∈L,¬OwnsB w f ns q)(hg:g∉L)
  (h9:∀q∈L,∀cs,¬Bk 9 w q cs) (h31:∀q∈L,∀cs,¬Bk 31 w q cs):Two w0 w' f g l m x y∧Same w w' f:=by
 obtain⟨⟨ns,e,n⟩,⟨rs,e2,k⟩⟩:=h
 obtain⟨n',eb⟩:=n.only ho hb (hL ns x n.fr) h9
 exact⟨⟨⟨ns,e,n'⟩,⟨rs,e2,k.only ho hg h9 h31⟩⟩,n.same n' eb⟩
theorem Two.left {w0 w w':World}{f g:Nat}{l m:List Nd}{x y:Int}(h:Two w0 w f g l m x y)(hk:KeepM f g w w'): ∃L,Only L w w'∧(∀t q cs,t≠71→t≠72→t≠75→Bk t w q cs→q≠g→q∉L)∧∀f',Apart w f f'→(∃ns x,FR w f' ns x)→∀ns x,FR w f' ns x→∀q∈L,¬OwnsB w f' ns q:=by
 obtain⟨cg,hcg⟩:=h.bk
 obtain⟨⟨ns,e,n⟩,_⟩:=h
 obtain⟨L,ho,hL⟩:=hk.only ns _ n.fr
 refine⟨L,ho,fun t q cs t1 t2 t5 hb hq hm=>(hL q hm).elim (fun h3=>OwnsB.no n.fr t1 t2 t5 hb h3) hq,fun f' ha _ ns1 x1 h1 q hm h2=>(hL q hm).elim (fun h3=>ha _ _ _ _ n.fr h1 q h3 h2) (fun h3=>?_)⟩
 subst h3
 exact OwnsB.no h1 (by decide) (by decide) (by decide) hcg h2
theorem Fam.only {w0 w w':World}{P:List PairF}{L:List Nat}(h:Fam w0 w P)(ho:Only L w w')(hb:Below w0.heap.size w0 w')(hL:∀q∈L,∃t cs,Bk t w q cs∧(t=23∨t=26)): Fam w0 w' P:=by
 have hn:∀q∈L,∀t cs,t≠23→t≠26→¬Bk t w q cs:=fun q hq t cs h1 h2 hb=>by
  obtain⟨u,ds,hd,hu⟩:=hL q hq
  exact bk_ne hb hd (by rintro rfl;exact hu.elim h1 h2) rfl
 have H:∀i (hi:i<P.length),Two w0 w' P[i].f P[i].g P[i].l P[i].l (P[i].x:Int) (P[i].x:Int)∧Same w w' P[i].f:=fun i hi=>by
  obtain⟨cg,hcg⟩:=(h.two i hi).bk
  refine(h.two i hi).only ho hb (fun ns x hf q hq h2=>?_) (fun hm=>hn _ hm 40 cg (by decide) (by decide) hcg) (fun q hq cs=>hn q hq 9 cs (by decide) (by decide)) (fun q hq cs=>hn q hq 31 cs (by decide) (by decide))
  obtain⟨u,ds,hd,hu⟩:=hL q hq
  exact OwnsB.no hf (by rintro rfl;revert hu;decide) (by rintro rfl;revert hu;decide) (by rintro rfl;revert hu;decide) hd h2
 exact⟨hb,fun i hi=>(H i hi).1,h.inv,fun i j hi hj hne=>(h.ap i j hi hj hne).go (h.two i hi).fr (h.two j hj).fr (H i hi).2.olds (H j hj).2,h.dis⟩
theorem Fam.down {w0 w w':World}{P:List PairF}(h:Fam w0 w P)(hb:Below w.heap.size w w'): Fam w0 w' P:=h.only (L:=[]) (Only.of hb) (h.below.trans (hb.mono h.below.size)) (fun q hq=>by cases hq)
theorem Fam.step {w0 w w':World}{P:List PairF}(h:Fam w0 w P)(i:Nat)(hi:i<P.length){l':List Nd}{x':Nat}(ht:Two w0 w' P[i].f P[i].g l' l' (x':Int) (x':Int))(hi':Inv l' (x':Int))(hk:KeepM P[i].f P[i].g w w'):
  Fam w0 w' (P.set i ⟨P[i].f,P[i].g,l',x'⟩):=by
 have hb:Below w0.heap.size w0 w':=by obtain⟨⟨_,_,n'⟩,_⟩:=ht;exact n'.below
 obtain⟨L,ho,hL,hO⟩:=(h.two i hi).left hk
 have H:∀j (hj:j<P.length),i≠j→Two w0 w' P[j].f P[j].g P[j].l P[j].l (P[j].x:Int) (P[j].x:Int)∧Same w w' P[j].f:=fun j hj hne=>by
  obtain⟨cg,hcg⟩:=(h.two j hj).bk
  obtain⟨ci,hci⟩:=(h.two i hi).bk
  exact(h.two j hj).only ho hb (hO _ (h.ap i j hi hj hne) (h.two j hj).fr) (hL 40 _ _ (by decide) (by decide) (by decide) hcg (h.dis i j hi hj hne).symm)
   (fun q hq cs hb=>hL 9 q cs (by decide) (by decide) (by decide) hb (bk_ne hb hci (by decide)) hq) (fun q hq cs hb=>hL 31 q cs (by decide) (by decide) (by decide) hb (bk_ne hb hci (by decide)) hq)
 have hO1:Olds w w' P[i].f:=hk.own
 refine⟨hb,fun j hj=>?_,fun j hj=>?_,fun j k hj hk' hne=>?_,fun j k hj hk' hne=>?_⟩
 ·rw [List.length_set] at hj
  by_cases e:i=j
  ·subst e
   simpa using ht
  ·simpa [List.getElem_set,e] using (H j hj e).1
 ·rw [List.length_set] at hj
  by_cases e:i=j
  ·subst e
   simpa using hi'
  ·simpa [List.getElem_set,e] using h.inv j hj
 ·rw [List.length_set] at hj hk'
  have e0:∀m (hm:m<P.length) (hm':m<(P.set i ⟨P[i].f,P[i].g,l',x'⟩).length),((P.set i ⟨P[i].f,P[i].g,l',x'⟩)[m]'hm').f=P[m].f:=fun m hm hm'=>by
   by_cases e:i=m
   ·subst e;simp
   ·simp [List.getElem_set,e]
  rw [e0 j hj,e0 k hk']
  by_cases e:i=j
  ·subst e
   exact(h.ap i k hi hk' hne).go (h.two i hi).fr (h.two k hk').fr hO1 (H k hk' hne).2
  ·by_cases e2:i=k
   ·subst e2
    exact((h.ap i j hi hj e).go (h.two i hi).fr (h.two j hj).fr hO1 (H j hj e).2).symm
   ·exact(h.ap j k hj hk' hne).go (h.two j hj).fr (h.two k hk').fr (H j hj e).2.olds (H k hk' e2).2
 ·rw [List.length_set] at hj hk'
  have e0:∀m (hm:m<P.length) (hm':m<(P.set i ⟨P[i].f,P[i].g,l',x'⟩).length),((P.set i ⟨P[i].f,P[i].g,l',x'⟩)[m]'hm').g=P[m].g:=fun m hm hm'=>by
   by_cases e:i=m
   ·subst e;simp
   ·simp [List.getElem_set,e]
  rw [e0 j hj,e0 k hk']
  exact h.dis j k hj hk' hne
structure Fam1 (w0 w:World)(P:List PairF)(f:Nat)(l:List Nd)(x:Nat): Prop where
 fam:Fam w0 w P
 inv:Inv l (x:Int)
 nf:∃ns,nodes ns=l∧Nf w0 w f ns (x:Int)
 ap:∀i (h:i<P.length),Apart w P[i].f f
theorem Fam1.only {w0 w w':World}{P:List PairF}{L:List Nat}{f:Nat}{l:List Nd}{x:Nat}(h:Fam1 w0 w P f l x)(ho:Only L w w')(hb:Below w0.heap.size w0 w')(hL:∀q∈L,∃t cs,Bk t w q cs∧(t=23∨t=26)): Fam1 w0 w' P f l x:=by
 have hF:=h.fam.only ho hb hL
 obtain⟨ns,e,n⟩:=h.nf
 have hq:∀ns x f,FR w f ns x→∀q∈L,¬OwnsB w f ns q:=fun ns x f hf q hq h2=>by
  obtain⟨u,ds,hd,hu⟩:=hL q hq
  exact OwnsB.no hf (by rintro rfl;revert hu;decide) (by rintro rfl;revert hu;decide) (by rintro rfl;revert hu;decide) hd h2
 have hn:∀q∈L,∀t cs,t≠23→t≠26→¬Bk t w q cs:=fun q hq t cs h1 h2 hb=>by
  obtain⟨u,ds,hd,hu⟩:=hL q hq
  exact bk_ne hb hd (by rintro rfl;exact hu.elim h1 h2) rfl
 obtain⟨n',eb⟩:=n.only ho hb (hq ns _ f n.fr) (fun q hq cs=>hn q hq 9 cs (by decide) (by decide))
 refine⟨hF,h.inv,⟨ns,e,n'⟩,fun i hi=>?_⟩
 refine(h.ap i hi).go (h.fam.two i hi).fr ⟨ns,_,n.fr⟩ ?_ (n.same n' eb)
 obtain⟨⟨m,e1,m1⟩,_⟩:=h.fam.two i hi
 obtain⟨m',eb'⟩:=m1.only ho hb (hq m _ _ m1.fr) (fun q hq cs=>hn q hq 9 cs (by decide) (by decide))
 exact(m1.same m' eb').olds
theorem Fam1.down {w0 w w':World}{P:List PairF}{f:Nat}{l:List Nd}{x:Nat}(h:Fam1 w0 w P f l x)(hb:Below w.heap.size w w'): Fam1 w0 w' P f l x:=h.only (L:=[]) (Only.of hb) (h.fam.below.trans (hb.mono h.fam.below.size)) (fun q hq=>by cases hq)
theorem Fam.clone {w0 w w':World}{P:List PairF}{f i:Nat}{ns b:Ns}(h:Fam w0 w P)(hi:i<P.length)(hb:Below w.heap.size w w')(e:nodes ns=P[i].l)(n:Nf w0 w P[i].f ns (P[i].x:Int))(e2:nodes b=nodes ns)(hf:FR w' f b (P[i].x:Int))(h1:∀q,OwnsB w' f b q→w.heap.size≤q)(h2:∀q,OwnsT w' b q→OwnsT w ns q): Fam1 w0 w' P f P[i].l P[i].x:=by
 have hd:=h.down hb
 refine⟨hd,h.inv i hi,⟨b,e2.trans e,hf,hd.below,fun q hq=>Nat.le_trans h.below.size (h1 q hq),fun q hq=>n.rows q (h2 q hq)⟩,fun j hj n1 x1 b1 y1 k1 k2 q q1 q2=>?_⟩
 obtain⟨⟨m,e1,m1⟩,_⟩:=h.two j hj
 have q3:OwnsB w P[j].f m q:=(q1.blocks (k1.blocks (m1.fr.below hb))).same (hb.block _ (OwnsB.lt m1.fr (.inl rfl)))
 have:=OwnsB.lt m1.fr q3
 have:=h1 q (q2.blocks (k2.blocks hf))
 omega
theorem Fam1.join {w0 w w':World}{P:List PairF}{f g:Nat}{l:List Nd}{x:Nat}(h:Fam1 w0 w P f l x)(hb:Below w.heap.size w w')(hg:w.heap.size≤g)(hc:∃rs,nds rs=l∧Xn w0 w' g rs (x:Int)): Fam w0 w' (P++[PairF.mk f g l x]):=by
 have hd:=h.down hb
 have hlt:∀i (hi:i<P.length),P[i].g<w.heap.size:=fun i hi=>by
  obtain⟨cs,hk⟩:=(h.fam.two i hi).bk
  exact hk.lt
 have e1:∀i (hi:i<P.length) (hi':i<(P++[PairF.mk f g l x]).length),(P++[PairF.mk f g l x])[i]'hi'=P[i]:=fun i hi hi'=>List.getElem_append_left hi
 have e2:∀i (hi:¬i<P.length) (hi':i<(P++[PairF.mk f g l x]).length),(P++[PairF.mk f g l x])[i]'hi'=(PairF.mk f g l x):=fun i hi hi'=>by
  rw [List.getElem_append_right (by omega)]
  simp
 refine⟨hd.fam.below,fun i hi=>?_,fun i hi=>?_,fun i j hi hj hne=>?_,fun i j hi hj hne=>?_⟩
 ·by_cases c:i<P.length
  ·rw [e1 i c hi];exact hd.fam.two i c
  ·rw [e2 i c hi];exact⟨hd.nf,hc⟩
 ·by_cases c:i<P.length
  ·rw [e1 i c hi];exact h.fam.inv i c
  ·rw [e2 i c hi];exact h.inv
 ·have hl:(P++[PairF.mk f g l x]).length=P.length+1:=by simp
  by_cases c:i<P.length
  ·by_cases d:j<P.length
   ·rw [e1 i c hi,e1 j d hj];exact hd.fam.ap i j c d hne
   ·rw [e1 i c hi,e2 j d hj];exact hd.ap i c
  ·by_cases d:j<P.length
   ·rw [e2 i c hi,e1 j d hj];exact(hd.ap j d).symm
   ·omega
 ·have hl:(P++[PairF.mk f g l x]).length=P.length+1:=by simp
  by_cases c:i<P.length
  ·by_cases d:j<P.length
   ·rw [e1 i c hi,e1 j d hj];exact h.fam.dis i j c d hne
   ·rw [e1 i c hi,e2 j d hj];have:=hlt i c;simp only;omega
  ·by_cases d:j<P.length
   ·rw [e2 i c hi,e1 j d hj];have:=hlt j d;simp only;omega
   ·omega
theorem row25:RowT 25 23 1 8:=⟨by kernel_rfl,⟨.pointer none,by kernel_rfl,rfl⟩,by decide⟩
theorem row28:RowT 28 26 1 8:=⟨by kernel_rfl,⟨.pointer none,by kernel_rfl,rfl⟩,by decide⟩
theorem wp_long {t e:TypeId}{z b n:Nat}(hT:RowT t e z b){ops:Array Oper}{rest:List Oper}{o:Oper}{a:Act}{Q:Exit→Act→World→Prop}{w0 W:World}(hgd:o.guard=none)(s x:Operand)(ho:o.op = .call {callee:= .builtin .append,args:=#[s,x],argTypes:=#[t,t]})
  (v:Value) (xs:List Value) (q c:Nat) (cs:Array Value) (hs:a.eval s=v) (hx:a.eval x = .slice (some ⟨q,0,none⟩) 1 c) (hI:Lw e z w0 W v n xs) (hq:Bk e W q cs) (hz:cs.size=z) (h1:cs.all (·.oneCell')=true) (h63:n≤2000000000000) (hb:b≤32)
  (h:∀v' w',Lw e z w0 w' v' (n+1) (xs++cs.toList)→W.grownBy w' v.ownBlock→wpList Tryz.prog ops Q rest (a.put o.dst v') w'):wpList Tryz.prog ops Q (o::rest) a W:=by
 obtain⟨v',w',hrun,hu,hg⟩:=hI.app hT o.type ⟨q,0,none⟩ 1 c cs.toList (by simp [hz]) (fun j u hj=>by
  rw [at0,hq.cell j]
  simpa using hj) (fun u hu=>by
   have h2:=Array.all_eq_true_iff_forall_mem.1 h1 u (by simpa using hu)
   exact h2) (by unfold maxLen;omega) (by
    have:=Nat.mul_le_mul (show n+1≤2000000000001 by omega) hb
    omega)
 exact Lib.wpList_append_run W hgd s x t t ho _ _ hs hx v' w' hrun (h v' w' hu hg)
theorem Lw.past {t:TypeId}{w0 w w':World}{v:Value}{n:Nat}{xs:List Value}{f g:Nat}{l m:List Nd}{x y:Int}(h:Lw t 1 w0 w v n xs)(k:Two w0 w f g l m x y)(hk:KeepM f g w w')(hb:Below w0.heap.size w0 w')(t1:t≠71∧t≠72∧t≠75∧t≠40): Lw t 1 w0 w' v n xs:=by
 obtain⟨cg,hcg⟩:=k.bk
 obtain⟨L,ho,hL,_⟩:=k.left hk
 refine⟨OwnR.owns_only h.1 ho fun q hq=>?_,hb,h.2.2⟩
 obtain⟨_,cs,hb⟩:=OwnR.owns_block h.1 hq
 exact hL t q cs t1.1 t1.2.1 t1.2.2.1 hb (bk_ne hb hcg t1.2.2.2)
theorem Lw.apart {t u:TypeId}{w0 w w':World}{v v2 v2':Value}{n m:Nat}{xs ys zs:List Value}{k:Nat}(h:Lw t 1 w0 w v n xs)(h2:Lw u 1 w0 w v2 m ys)(h2':Lw u 1 w0 w' v2' k zs)(hg:w.grownBy w' v2.ownBlock)(ht:t≠u): Lw t 1 w0 w' v n xs:=
 ⟨owns_grown h2.1 hg h.1 ht,h2'.2.1,h.2.2⟩
theorem Lw.growth {t:TypeId}{w0 w w':World}{v:Value}{n:Nat}{xs:List Value}(h:Lw t 1 w0 w v n xs)(hg:w.grownBy w' v.ownBlock)(ht:t=23∨t=26): Only v.ownBlock.toList w w'∧∀q∈v.ownBlock.toList,∃t cs,Bk t w q cs∧(t=23∨t=26):=by
 refine⟨grown_only hg,fun q hq=>?_⟩
 obtain⟨_,cs,hb⟩:=OwnR.owns_block h.1 (g:=q) (by simpa using hq)
 exact⟨t,cs,hb,ht⟩
end Go.Proofs.YthogppennalobaaGreatDoor
namespace Go.Proofs.YthogppennalobaaGreatDoor.Pl
open Go.RowKit Go.Sort
theorem k_ld37 {Q:Exit→Act→World→Prop}{T:Array Value}{ds:List Deferred}{w:World}{ty:TypeId}{dst:Option Tmp}{s:Nat}{ps af g}{b o:Nat}{v:Value}(h:w.cell? ⟨b,o,none⟩=some v)(e:T.getD s undef = .pointer (some ⟨b,o,none⟩)): Oper.wp Tryz.prog ⟨dst,.load 37 (.tmp s),ty,ps,af,g⟩ ⟨T,ds⟩ w (fun a' w''=>a'=Act.put ⟨T,ds⟩ dst v∧w''=w) Q:=by
 go_simp
noncomputable def fdAO:Array Oper:=(Tryz.f3.body.bind fun c=>findR c 16).getD #[]
def fdA_m:List (List Nat):=[[],[],[],[],[],[],[],[],[],[],[9]]
set_option maxHeartbeats 16000000 in
theorem fdA (PW:Bool→World→Prop)(f g b qx ox cx qy oy cy n k:Nat)(cs:Array Value)(w:World)  (hx:∀(b9:Bool) (w:World),PW b9  w→w.cell? ⟨qx,ox+k,none⟩=some (.pointer (some ⟨f,0,none⟩)))(hy:∀(b9:Bool) (w:World),PW b9  w→w.cell? ⟨qy,oy+k,none⟩=some (.pointer (some ⟨g,0,none⟩)))(cl9:∀(w:World),PW false w→Calls Tryz.prog 15 #[.pointer (some ⟨f,0,none⟩),.pointer (some ⟨g,0,none⟩),.agg cs] w fun e w1=>e = .returned (.bool true)∧PW true  w1)(lk:∀(b9:Bool) (w:World),PW b9 w→Bk 33 w b cs)(hcs:cs.size=20)(hkn:k<n)(hkI:(k:Int)<(n:Int)){t0 t1 t2 t3 t6 t9 t10 t11 t12 t13 t14 t15 t16 t17 t18 t19 t20 t21 t22 t23 t24 t25 t26 t27 t28 t29 t30 t31 t32 t33 t34 t35 t36 t37 t38 t39 t40 t41 t42 t43 t44 t45 t46 t47 t48 t49 t50 t51 t52 t53 t54 t55 t56 t57 t58 t59 t60 t61 t62 t63 t64 t65 t66 t67 t68 t69 t70 t71 t72 t73 t74 t75 t76 t77 t78 t79 t80 t81 t82 t83 t84 t85 t86 t87 t88 t89 t90 t91 t92 t93 t94 t95 t96 t97 t98 t99 t100 t101 t102:Value}(w0:PW false  w.drew){ds:List Deferred}{Q:Exit→Act→World→Prop}
  (h:∀(w1:World),PW true  w1→Q .normal {tmps:=#[t0,t1,t2,t3,.slice (some ⟨qx,ox,none⟩) n cx,.slice (some ⟨qy,oy,none⟩) n cy,t6,.pointer (some ⟨b,0,none⟩),.int .i64 (k:Int),t9,.bool true,t11,t12,t13,t14,t15,t16,t17,t18,t19,t20,t21,t22,t23,t24,t25,t26,t27,t28,t29,t30,t31,t32,t33,t34,t35,t36,t37,t38,t39,t40,t41,t42,t43,t44,t45,t46,t47,t48,t49,t50,t51,t52,t53,t54,t55,.slice (some ⟨qx,ox,none⟩) n cx,.int .i64 (k:Int),.pointer (some ⟨qx,ox+k,none⟩),.pointer (some ⟨f,0,none⟩),.slice (some ⟨qy,oy,none⟩) n cy,.int .i64 (k:Int),.pointer (some ⟨qy,oy+k,none⟩),.pointer (some ⟨g,0,none⟩),.agg cs,.bool true,t66,t67,t68,t69,t70,t71,t72,t73,t74,t75,t76,t77,t78,t79,t80,t81,t82,t83,t84,t85,t86,t87,t88,t89,t90,t91,t92,t93,t94,t95,t96,t97,t98,t99,t100,t101,t102],defers:=ds} w1) :
  (Code.region 16 fdAO true).wp Tryz.prog Q {tmps:=#[t0,t1,t2,t3,.slice (some ⟨qx,ox,none⟩) n cx,.slice (some ⟨qy,oy,none⟩) n cy,t6,.pointer (some ⟨b,0,none⟩),.int .i64 (k:Int),t9,t10,t11,t12,t13,t14,t15,t16,t17,t18,t19,t20,t21,t22,t23,t24,t25,t26,t27,t28,t29,t30,t31,t32,t33,t34,t35,t36,t37,t38,t39,t40,t41,t42,t43,t44,t45,t46,t47,t48,t49,t50,t51,t52,t53,t54,t55,t56,t57,t58,t59,t60,t61,t62,t63,t64,t65,t66,t67,t68,t69,t70,t71,t72,t73,t74,t75,t76,t77,t78,t79,t80,t81,t82,t83,t84,t85,t86,t87,t88,t89,t90,t91,t92,t93,t94,t95,t96,t97,t98,t99,t100,t101,t102],defers:=ds} w:=by
 have hsz:fdAO.size=11:=by kernel_rfl
 generalize hT:List.toArray _=T0
 have hs:T0.size=103:=by subst hT;rfl
 have g4:T0.getD 4 undef = .slice (some ⟨qx,ox,none⟩) n cx:=by subst hT;rfl
 have g5:T0.getD 5 undef = .slice (some ⟨qy,oy,none⟩) n cy:=by subst hT;rfl
 have g7:T0.getD 7 undef = .pointer (some ⟨b,0,none⟩):=by subst hT;rfl
 have g8:T0.getD 8 undef = .int .i64 (k:Int):=by subst hT;rfl
 obtain⟨W,hV⟩:∃W:List ((Nat×(Value→Value)) ⊕ Value),W=[.inr (.slice (some ⟨qx,ox,none⟩) n cx),.inr (.int .i64 (k:Int)),.inr (.pointer (some ⟨qx,ox+k,none⟩)),.inr (.pointer (some ⟨f,0,none⟩)),.inr (.slice (some ⟨qy,oy,none⟩) n cy),.inr (.int .i64 (k:Int)),.inr (.pointer (some ⟨qy,oy+k,none⟩)),.inr (.pointer (some ⟨g,0,none⟩)),.inr (.agg cs),.inr (.bool true),.inr (.bool true)]:=⟨_,rfl⟩
 refine wp_plan (by kernel_rfl) T0 ds [9] fdA_m (mkV W) (fun dx yx wx=>PW (dx 9)  wx) w (by rw [hs];kernel_rfl) (by kernel_rfl) (by kernel_rfl) (by rw [hsz];decide) (fun cx hc ix hne ha yx vx=>mkV_fix (by rw [hV];kernel_rfl) hne ha yx vx) (?key) (fun cx hc ox ho dx yx Tx wx hd hdb hda hK hW=>?_) ⟨fun k=>undef,w0⟩ (fun dx yx wx hd hW=>?_)
 case key=>
  rw [hsz]
  refine all_step (all_step (all_step (all_step (all_step (all_step (all_step (all_step (all_step (all_step (all_step all_zero ?_) ?_) ?_) ?_) ?_) ?_) ?_) ?_) ?_) ?_) ?_
  all_goals
   intro ox ho hic dx yx Tx wx hdb hK hW
   replace hdb:=Lib.hid hdb
  ·exact pl0 56 4 25 ho hK g4 fun ps af e=>k_mv e
  ·exact pl0 57 8 3 ho hK g8 fun ps af e=>k_mv e
  ·obtain⟨ps,af,rfl⟩:=core (some 58) (.indexAddr 25 (.tmp 56) (.tmp 57)) 0 none ho
   have e56:Tx.getD 56 undef = .slice (some ⟨qx,ox,none⟩) n cx:=hK.is 0 ho
   have e57:Tx.getD 57 undef = .int .i64 (k:Int):=hK.is 1 ho
   exact wpOp_plain ho rfl (by subst hV;go_simp;try rfl)
  ·obtain⟨ps,af,rfl⟩:=core (some 59) (.load 23 (.tmp 58)) 23 none ho
   have e58:Tx.getD 58 undef = .pointer (some ⟨qx,ox+k,none⟩):=hK.is 2 ho
   have hl:=hx _ _ hW
   exact wpOp_plain ho rfl (by subst hV;go_simp;try rfl)
  ·exact pl0 60 5 28 ho hK g5 fun ps af e=>k_mv e
  ·exact pl0 61 8 3 ho hK g8 fun ps af e=>k_mv e
  ·obtain⟨ps,af,rfl⟩:=core (some 62) (.indexAddr 28 (.tmp 60) (.tmp 61)) 0 none ho
   have e60:Tx.getD 60 undef = .slice (some ⟨qy,oy,none⟩) n cy:=hK.is 4 ho
   have e61:Tx.getD 61 undef = .int .i64 (k:Int):=hK.is 5 ho
   exact wpOp_plain ho rfl (by subst hV;go_simp;try rfl)
  ·obtain⟨ps,af,rfl⟩:=core (some 63) (.load 26 (.tmp 62)) 26 none ho
   have e62:Tx.getD 62 undef = .pointer (some ⟨qy,oy+k,none⟩):=hK.is 6 ho
   have hl:=hy _ _ hW
   exact wpOp_plain ho rfl (by subst hV;go_simp;try rfl)
  ·obtain⟨ps,af,rfl⟩:=core (some 64) (.load 33 (.tmp 7)) 33 none ho
   have e7:Tx.getD 7 undef = .pointer (some ⟨b,0,none⟩):=hK.of (by kernel_rfl) g7
   have hl:=lk _ _ hW
   exact wpOp_plain ho rfl (wp_load_row 33 _ rfl b (by first | exact e7 | rfl) 33 _ (0,0) _ hl Tryz.underlying33 rfl (by rw [hcs];exact i33) ⟨by subst hV;rfl,rfl⟩)
  ·exact absurd (by decide) hic
  ·exact pl1 10 65 9 4 ho hK fun ps af e=>k_as e
 ·obtain rfl:cx=9:=by simpa using hc
  ·obtain⟨ps,af,rfl⟩:=core (some 65) (.call {callee:= .value (.func 15),args:=#[.tmp 59,.tmp 63,.tmp 64],argTypes:=#[23,26,33]}) 4 none ho
   have e59:Tx.getD 59 undef = .pointer (some ⟨f,0,none⟩):=hK.is 3 ho
   have e63:Tx.getD 63 undef = .pointer (some ⟨g,0,none⟩):=hK.is 7 ho
   have e64:Tx.getD 64 undef = .agg cs:=hK.is 8 ho
   have hW1:PW (dx 9)  wx:=hW
   clear hdb hda
   rw [hd] at hW1
   clear hd hW hc
   refine wpOp_plain ho rfl ?_
   go_simp
   go_at_call 15
   refine(cl9 _ hW1).mono ?_
   rintro ex w2 ⟨rfl,hW2⟩
   subst hV
   first | refine⟨undef,rfl,?_⟩ | refine⟨⟨undef,rfl⟩,?_⟩
   simpa [updB,upd] using hW2
 ·have hW1:PW (dx 9)  wx:=hW
  rw [hd 9 (by decide)] at hW1
  have hQ:=h _ hW1
  rw [hsz]
  subst hV hT
  refine cast (congrArg (fun Tx=>Q .normal ⟨Tx,ds⟩ wx) ?_) hQ
  kernel_rfl
noncomputable def fdBO:Array Oper:=(Tryz.f3.body.bind fun c=>findR c 22).getD #[]
def fdB_m:List (List Nat):=[[],[],[],[],[],[],[],[],[],[],[],[],[4],[4,12],[4,12],[4,12],[4,12],[4,12],[4,12],[4,12],[4,12],[4,12],[4,12],[4,12],[4,12,19],[4,12,19,24],[4,12,19,24,25],[4,12,19,24,25]]
set_option maxHeartbeats 16000000 in
theorem fdB (PW:Bool→Bool→Bool→Bool→Bool→Value→Value→Value→World→Prop)(f g qx ox cx qy oy cy n k rn rc:Nat)(ra:Option Addr)(w:World)  (hx:∀(b4 b12 b19 b24 b25:Bool) (y4 y19 y24:Value) (w:World),PW b4 b12 b19 b24 b25 y4 y19 y24 w→w.cell? ⟨qx,ox+k,none⟩=some (.pointer (some ⟨f,0,none⟩)))(hy:∀(b4 b12 b19 b24 b25:Bool) (y4 y19 y24:Value) (w:World),PW b4 b12 b19 b24 b25 y4 y19 y24 w→w.cell? ⟨qy,oy+k,none⟩=some (.pointer (some ⟨g,0,none⟩)))(hr:∀(b4 b12 b19 b24 b25:Bool) (y4 y19 y24:Value) (w:World),PW b4 b12 b19 b24 b25 y4 y19 y24 w→w.cell? ⟨g,0,none⟩=some (.slice ra rn rc))(cl4:∀(y4 y19 y24:Value) (w:World),PW false false false false false y4 y19 y24 w→Calls Tryz.prog 17 #[.pointer (some ⟨f,0,none⟩)] w fun e w1=>∃v,e = .returned v∧PW true false false false false v y19 y24 w1)(cl12:∀(y4 y19 y24:Value) (w:World),PW true false false false false y4 y19 y24 w→Calls Tryz.prog 16 #[y4,.slice ra rn rc] w fun e w1=>e = .returned (.bool true)∧PW true true false false false y4 y19 y24 w1)(cl19:∀(y4 y19 y24:Value) (w:World),PW true true false false false y4 y19 y24 w→Calls Tryz.prog 19 #[.pointer (some ⟨f,0,none⟩)] w fun e w1=>∃v,e = .returned v∧PW true true true false false y4 v y24 w1)(cl24:∀(y4 y19 y24:Value) (w:World),PW true true true false false y4 y19 y24 w→Calls Tryz.prog 20 #[.pointer (some ⟨g,0,none⟩)] w fun e w1=>∃v,e = .returned v∧PW true true true true false y4 y19 v w1)(cl25:∀(y4 y19 y24:Value) (w:World),PW true true true true false y4 y19 y24 w→Calls Tryz.prog 18 #[y19,y24] w fun e w1=>e = .returned (.bool true)∧PW true true true true true y4 y19 y24 w1)(hkn:k<n)(hkI:(k:Int)<(n:Int)){t0 t1 t2 t3 t6 t7 t8 t9 t10 t12 t13 t14 t15 t16 t17 t18 t19 t20 t21 t22 t23 t24 t25 t26 t27 t28 t29 t30 t31 t32 t33 t34 t35 t36 t37 t38 t39 t40 t41 t42 t43 t44 t45 t46 t47 t48 t49 t50 t51 t52 t53 t54 t55 t56 t57 t58 t59 t60 t61 t62 t63 t64 t65 t66 t67 t68 t69 t70 t71 t72 t73 t74 t75 t76 t77 t78 t79 t80 t81 t82 t83 t84 t85 t86 t87 t88 t89 t90 t91 t92 t93 t94 t95 t96 t97 t98 t99 t100 t101 t102:Value}(w0:PW false false false false false t78 t93 t98 w.drew){ds:List Deferred}{Q:Exit→Act→World→Prop}
  (h:∀(y4 y19 y24:Value) (w1:World),PW true true true true true y4 y19 y24 w1→Q .normal {tmps:=#[t0,t1,t2,t3,.slice (some ⟨qx,ox,none⟩) n cx,.slice (some ⟨qy,oy,none⟩) n cy,t6,t7,t8,t9,t10,.int .i64 (k:Int),t12,t13,t14,t15,t16,t17,t18,t19,t20,t21,t22,t23,t24,t25,t26,t27,t28,t29,t30,t31,t32,t33,t34,t35,t36,t37,t38,t39,t40,t41,t42,t43,t44,t45,t46,t47,t48,t49,t50,t51,t52,t53,t54,t55,t56,t57,t58,t59,t60,t61,t62,t63,t64,t65,t66,t67,t68,t69,t70,t71,t72,t73,.slice (some ⟨qx,ox,none⟩) n cx,.int .i64 (k:Int),.pointer (some ⟨qx,ox+k,none⟩),.pointer (some ⟨f,0,none⟩),y4,.slice (some ⟨qy,oy,none⟩) n cy,.int .i64 (k:Int),.pointer (some ⟨qy,oy+k,none⟩),.pointer (some ⟨g,0,none⟩),.pointer (some ⟨g,0,none⟩),.pointer (some ⟨g,0,none⟩),.slice ra rn rc,.bool true,.bool false,.bool false,.slice (some ⟨qx,ox,none⟩) n cx,.int .i64 (k:Int),.pointer (some ⟨qx,ox+k,none⟩),.pointer (some ⟨f,0,none⟩),y19,.slice (some ⟨qy,oy,none⟩) n cy,.int .i64 (k:Int),.pointer (some ⟨qy,oy+k,none⟩),.pointer (some ⟨g,0,none⟩),y24,.bool true,.bool false,.bool false,t102],defers:=ds} w1) :
  (Code.region 22 fdBO true).wp Tryz.prog Q {tmps:=#[t0,t1,t2,t3,.slice (some ⟨qx,ox,none⟩) n cx,.slice (some ⟨qy,oy,none⟩) n cy,t6,t7,t8,t9,t10,.int .i64 (k:Int),t12,t13,t14,t15,t16,t17,t18,t19,t20,t21,t22,t23,t24,t25,t26,t27,t28,t29,t30,t31,t32,t33,t34,t35,t36,t37,t38,t39,t40,t41,t42,t43,t44,t45,t46,t47,t48,t49,t50,t51,t52,t53,t54,t55,t56,t57,t58,t59,t60,t61,t62,t63,t64,t65,t66,t67,t68,t69,t70,t71,t72,t73,t74,t75,t76,t77,t78,t79,t80,t81,t82,t83,t84,t85,t86,t87,t88,t89,t90,t91,t92,t93,t94,t95,t96,t97,t98,t99,t100,t101,t102],defers:=ds} w:=by
 have hsz:fdBO.size=28:=by kernel_rfl
 generalize hT:List.toArray _=T0
 have hs:T0.size=103:=by subst hT;rfl
 have g4:T0.getD 4 undef = .slice (some ⟨qx,ox,none⟩) n cx:=by subst hT;rfl
 have g5:T0.getD 5 undef = .slice (some ⟨qy,oy,none⟩) n cy:=by subst hT;rfl
 have g11:T0.getD 11 undef = .int .i64 (k:Int):=by subst hT;rfl
 obtain⟨W,hV⟩:∃W:List ((Nat×(Value→Value)) ⊕ Value),W=[.inr (.slice (some ⟨qx,ox,none⟩) n cx),.inr (.int .i64 (k:Int)),.inr (.pointer (some ⟨qx,ox+k,none⟩)),.inr (.pointer (some ⟨f,0,none⟩)),.inl (4,id),.inr (.slice (some ⟨qy,oy,none⟩) n cy),.inr (.int .i64 (k:Int)),.inr (.pointer (some ⟨qy,oy+k,none⟩)),.inr (.pointer (some ⟨g,0,none⟩)),.inr (.pointer (some ⟨g,0,none⟩)),.inr (.pointer (some ⟨g,0,none⟩)),.inr (.slice ra rn rc),.inr (.bool true),.inr (.bool false),.inr (.bool false),.inr (.slice (some ⟨qx,ox,none⟩) n cx),.inr (.int .i64 (k:Int)),.inr (.pointer (some ⟨qx,ox+k,none⟩)),.inr (.pointer (some ⟨f,0,none⟩)),.inl (19,id),.inr (.slice (some ⟨qy,oy,none⟩) n cy),.inr (.int .i64 (k:Int)),.inr (.pointer (some ⟨qy,oy+k,none⟩)),.inr (.pointer (some ⟨g,0,none⟩)),.inl (24,id),.inr (.bool true),.inr (.bool false),.inr (.bool false)]:=⟨_,rfl⟩
 refine wp_plan (by kernel_rfl) T0 ds [4,12,19,24,25] fdB_m (mkV W) (fun dx yx wx=>PW (dx 4) (dx 12) (dx 19) (dx 24) (dx 25) (yx 4) (yx 19) (yx 24) wx) w (by rw [hs];kernel_rfl) (by kernel_rfl) (by kernel_rfl) (by rw [hsz];decide) (fun cx hc ix hne ha yx vx=>mkV_fix (by rw [hV];kernel_rfl) hne ha yx vx) (?key) (fun cx hc ox ho dx yx Tx wx hd hdb hda hK hW=>?_) ⟨fun k=>if k=4 then t78 else if k=19 then t93 else if k=24 then t98 else undef,w0⟩ (fun dx yx wx hd hW=>?_)
 case key=>
  rw [hsz]
  refine all_step (all_step (all_step (all_step (all_step (all_step (all_step (all_step (all_step (all_step (all_step (all_step (all_step (all_step (all_step (all_step (all_step (all_step (all_step (all_step (all_step (all_step (all_step (all_step (all_step (all_step (all_step (all_step all_zero ?_) ?_) ?_) ?_) ?_) ?_) ?_) ?_) ?_) ?_) ?_) ?_) ?_) ?_) ?_) ?_) ?_) ?_) ?_) ?_) ?_) ?_) ?_) ?_) ?_) ?_) ?_) ?_
  all_goals
   intro ox ho hic dx yx Tx wx hdb hK hW
   replace hdb:=Lib.hid hdb
  ·exact pl0 74 4 25 ho hK g4 fun ps af e=>k_mv e
  ·exact pl0 75 11 3 ho hK g11 fun ps af e=>k_mv e
  ·obtain⟨ps,af,rfl⟩:=core (some 76) (.indexAddr 25 (.tmp 74) (.tmp 75)) 0 none ho
   have e74:Tx.getD 74 undef = .slice (some ⟨qx,ox,none⟩) n cx:=hK.is 0 ho
   have e75:Tx.getD 75 undef = .int .i64 (k:Int):=hK.is 1 ho
   exact wpOp_plain ho rfl (by subst hV;go_simp;try rfl)
  ·obtain⟨ps,af,rfl⟩:=core (some 77) (.load 23 (.tmp 76)) 23 none ho
   have e76:Tx.getD 76 undef = .pointer (some ⟨qx,ox+k,none⟩):=hK.is 2 ho
   have hl:=hx _ _ _ _ _ _ _ _ _ hW
   exact wpOp_plain ho rfl (by subst hV;go_simp;try rfl)
  ·exact absurd (by decide) hic
  ·exact pl0 79 5 28 ho hK g5 fun ps af e=>k_mv e
  ·exact pl0 80 11 3 ho hK g11 fun ps af e=>k_mv e
  ·obtain⟨ps,af,rfl⟩:=core (some 81) (.indexAddr 28 (.tmp 79) (.tmp 80)) 0 none ho
   have e79:Tx.getD 79 undef = .slice (some ⟨qy,oy,none⟩) n cy:=hK.is 5 ho
   have e80:Tx.getD 80 undef = .int .i64 (k:Int):=hK.is 6 ho
   exact wpOp_plain ho rfl (by subst hV;go_simp;try rfl)
  ·obtain⟨ps,af,rfl⟩:=core (some 82) (.load 26 (.tmp 81)) 26 none ho
   have e81:Tx.getD 81 undef = .pointer (some ⟨qy,oy+k,none⟩):=hK.is 7 ho
   have hl:=hy _ _ _ _ _ _ _ _ _ hW
   exact wpOp_plain ho rfl (by subst hV;go_simp;try rfl)
  ·exact pl1 83 82 8 0 ho hK fun ps af e=>k_nc e
  ·exact pl1 84 83 9 0 ho hK fun ps af e=>k_fa40_0 e
  ·exact pl1 85 84 10 37 ho hK fun ps af e=>k_ld37 (hr _ _ _ _ _ _ _ _ _ hW) e
  ·exact absurd (by decide) hic
  ·obtain⟨ps,af,rfl⟩:=core (some 87) (.unOp UnOp.not 4 (.tmp 86)) 4 none ho
   have e86:Tx.getD 86 undef = .bool true:=hK.is 12 ho
   exact wpOp_plain ho rfl (by subst hV;go_simp;try rfl)
  ·exact pl1 88 87 13 4 ho hK fun ps af e=>k_mv e
  ·exact pg0 14 88 false 89 4 25 ho hK g4 fun ps af e=>k_mv e
  ·exact pg0 14 88 false 90 11 3 ho hK g11 fun ps af e=>k_mv e
  ·obtain⟨ps,af,rfl⟩:=core (some 91) (.indexAddr 25 (.tmp 89) (.tmp 90)) 0 (some (14,false)) ho
   have e89:Tx.getD 89 undef = .slice (some ⟨qx,ox,none⟩) n cx:=hK.is 15 ho
   have e90:Tx.getD 90 undef = .int .i64 (k:Int):=hK.is 16 ho
   exact wpOp_want ho ((wanted_of (d:=88) (b:=false) rfl (by kernel_rfl) (hK.is 14 ho)).trans rfl) (by subst hV;go_simp;try rfl)
  ·obtain⟨ps,af,rfl⟩:=core (some 92) (.load 23 (.tmp 91)) 23 (some (14,false)) ho
   have e91:Tx.getD 91 undef = .pointer (some ⟨qx,ox+k,none⟩):=hK.is 17 ho
   have hl:=hx _ _ _ _ _ _ _ _ _ hW
   exact wpOp_want ho ((wanted_of (d:=88) (b:=false) rfl (by kernel_rfl) (hK.is 14 ho)).trans rfl) (by subst hV;go_simp;try rfl)
  ·exact absurd (by decide) hic
  ·exact pg0 14 88 false 94 5 28 ho hK g5 fun ps af e=>k_mv e
  ·exact pg0 14 88 false 95 11 3 ho hK g11 fun ps af e=>k_mv e
  ·obtain⟨ps,af,rfl⟩:=core (some 96) (.indexAddr 28 (.tmp 94) (.tmp 95)) 0 (some (14,false)) ho
   have e94:Tx.getD 94 undef = .slice (some ⟨qy,oy,none⟩) n cy:=hK.is 20 ho
   have e95:Tx.getD 95 undef = .int .i64 (k:Int):=hK.is 21 ho
   exact wpOp_want ho ((wanted_of (d:=88) (b:=false) rfl (by kernel_rfl) (hK.is 14 ho)).trans rfl) (by subst hV;go_simp;try rfl)
  ·obtain⟨ps,af,rfl⟩:=core (some 97) (.load 26 (.tmp 96)) 26 (some (14,false)) ho
   have e96:Tx.getD 96 undef = .pointer (some ⟨qy,oy+k,none⟩):=hK.is 22 ho
   have hl:=hy _ _ _ _ _ _ _ _ _ hW
   exact wpOp_want ho ((wanted_of (d:=88) (b:=false) rfl (by kernel_rfl) (hK.is 14 ho)).trans rfl) (by subst hV;go_simp;try rfl)
  ·exact absurd (by decide) hic
  ·exact absurd (by decide) hic
  ·obtain⟨ps,af,rfl⟩:=core (some 100) (.unOp UnOp.not 4 (.tmp 99)) 4 (some (14,false)) ho
   have e99:Tx.getD 99 undef = .bool true:=hK.is 25 ho
   exact wpOp_want ho ((wanted_of (d:=88) (b:=false) rfl (by kernel_rfl) (hK.is 14 ho)).trans rfl) (by subst hV;go_simp;try rfl)
  ·obtain⟨ps,af,rfl⟩:=core (some 101) (.pick (.tmp 88) (.const (Value.bool true)) (.tmp 100)) 4 none ho
   have e88:Tx.getD 88 undef = .bool false:=hK.is 14 ho
   have e100:Tx.getD 100 undef = .bool false:=hK.is 26 ho
   exact wpOp_plain ho rfl (by subst hV;go_simp;try rfl)
 ·have hcase:cx=4∨cx=12∨cx=19∨cx=24∨cx=25:=by simpa using hc
  rcases hcase with rfl | rfl | rfl | rfl | rfl
  ·obtain⟨ps,af,rfl⟩:=core (some 78) (.call {callee:= .value (.func 17),args:=#[.tmp 77],argTypes:=#[23]}) 37 none ho
   have e77:Tx.getD 77 undef = .pointer (some ⟨f,0,none⟩):=hK.is 3 ho
   have hW1:PW (dx 4) (dx 12) (dx 19) (dx 24) (dx 25) (yx 4) (yx 19) (yx 24) wx:=hW
   have f12:=hq hda 12
   have f19:=hq hda 19
   have f24:=hq hda 24
   have f25:=hq hda 25
   clear hdb hda
   rw [hd,f12.out,f19.out,f24.out,f25.out] at hW1
   clear hd hW hc
   refine wpOp_plain ho rfl ?_
   go_simp
   go_at_call 17
   refine(cl4 _ _ _ _ hW1).mono ?_
   rintro ex w2 ⟨vx,rfl,hW2⟩
   subst hV
   refine⟨vx,rfl,?_⟩
   simpa [updB,upd,f12.out,f19.out,f24.out,f25.out] using hW2
  ·obtain⟨ps,af,rfl⟩:=core (some 86) (.call {callee:= .value (.func 16),args:=#[.tmp 78,.tmp 85],argTypes:=#[37,37]}) 4 none ho
   have e78:Tx.getD 78 undef=yx 4:=hK.is 4 ho
   have e85:Tx.getD 85 undef = .slice ra rn rc:=hK.is 11 ho
   have hW1:PW (dx 4) (dx 12) (dx 19) (dx 24) (dx 25) (yx 4) (yx 19) (yx 24) wx:=hW
   have f4:=hq hdb 4
   have f19:=hq hda 19
   have f24:=hq hda 24
   have f25:=hq hda 25
   clear hdb hda
   rw [hd,f4.out,f19.out,f24.out,f25.out] at hW1
   clear hd hW hc
   refine wpOp_plain ho rfl ?_
   go_simp
   go_at_call 16
   refine(cl12 _ _ _ _ hW1).mono ?_
   rintro ex w2 ⟨rfl,hW2⟩
   subst hV
   first | refine⟨undef,rfl,?_⟩ | refine⟨⟨undef,rfl⟩,?_⟩
   simpa [updB,upd,f4.out,f19.out,f24.out,f25.out] using hW2
  ·obtain⟨ps,af,rfl⟩:=core (some 93) (.call {callee:= .value (.func 19),args:=#[.tmp 92],argTypes:=#[23]}) 42 (some (14,false)) ho
   have e92:Tx.getD 92 undef = .pointer (some ⟨f,0,none⟩):=hK.is 18 ho
   have hW1:PW (dx 4) (dx 12) (dx 19) (dx 24) (dx 25) (yx 4) (yx 19) (yx 24) wx:=hW
   have f4:=hq hdb 4
   have f12:=hq hdb 12
   have f24:=hq hda 24
   have f25:=hq hda 25
   clear hdb hda
   rw [hd,f4.out,f12.out,f24.out,f25.out] at hW1
   clear hd hW hc
   refine wpOp_want ho ((wanted_of (d:=88) (b:=false) rfl (by kernel_rfl) (hK.is 14 ho)).trans rfl) ?_
   go_simp
   go_at_call 19
   refine(cl19 _ _ _ _ hW1).mono ?_
   rintro ex w2 ⟨vx,rfl,hW2⟩
   subst hV
   refine⟨vx,rfl,?_⟩
   simpa [updB,upd,f4.out,f12.out,f24.out,f25.out] using hW2
  ·obtain⟨ps,af,rfl⟩:=core (some 98) (.call {callee:= .value (.func 20),args:=#[.tmp 97],argTypes:=#[26]}) 42 (some (14,false)) ho
   have e97:Tx.getD 97 undef = .pointer (some ⟨g,0,none⟩):=hK.is 23 ho
   have hW1:PW (dx 4) (dx 12) (dx 19) (dx 24) (dx 25) (yx 4) (yx 19) (yx 24) wx:=hW
   have f4:=hq hdb 4
   have f12:=hq hdb 12
   have f19:=hq hdb 19
   have f25:=hq hda 25
   clear hdb hda
   rw [hd,f4.out,f12.out,f19.out,f25.out] at hW1
   clear hd hW hc
   refine wpOp_want ho ((wanted_of (d:=88) (b:=false) rfl (by kernel_rfl) (hK.is 14 ho)).trans rfl) ?_
   go_simp
   go_at_call 20
   refine(cl24 _ _ _ _ hW1).mono ?_
   rintro ex w2 ⟨vx,rfl,hW2⟩
   subst hV
   refine⟨vx,rfl,?_⟩
   simpa [updB,upd,f4.out,f12.out,f19.out,f25.out] using hW2
  ·obtain⟨ps,af,rfl⟩:=core (some 99) (.call {callee:= .value (.func 18),args:=#[.tmp 93,.tmp 98],argTypes:=#[42,42]}) 4 (some (14,false)) ho
   have e93:Tx.getD 93 undef=yx 19:=hK.is 19 ho
   have e98:Tx.getD 98 undef=yx 24:=hK.is 24 ho
   have hW1:PW (dx 4) (dx 12) (dx 19) (dx 24) (dx 25) (yx 4) (yx 19) (yx 24) wx:=hW
   have f4:=hq hdb 4
   have f12:=hq hdb 12
   have f19:=hq hdb 19
   have f24:=hq hdb 24
   clear hdb hda
   rw [hd,f4.out,f12.out,f19.out,f24.out] at hW1
   clear hd hW hc
   refine wpOp_want ho ((wanted_of (d:=88) (b:=false) rfl (by kernel_rfl) (hK.is 14 ho)).trans rfl) ?_
   go_simp
   go_at_call 18
   refine(cl25 _ _ _ _ hW1).mono ?_
   rintro ex w2 ⟨rfl,hW2⟩
   subst hV
   first | refine⟨undef,rfl,?_⟩ | refine⟨⟨undef,rfl⟩,?_⟩
   simpa [updB,upd,f4.out,f12.out,f19.out,f24.out] using hW2
 ·have hW1:PW (dx 4) (dx 12) (dx 19) (dx 24) (dx 25) (yx 4) (yx 19) (yx 24) wx:=hW
  rw [hd 4 (by decide),hd 12 (by decide),hd 19 (by decide),hd 24 (by decide),hd 25 (by decide)] at hW1
  have hQ:=h _ _ _ _ hW1
  rw [hsz]
  subst hV hT
  refine cast (congrArg (fun Tx=>Q .normal ⟨Tx,ds⟩ wx) ?_) hQ
  kernel_rfl
end Go.Proofs.YthogppennalobaaGreatDoor.Pl
namespace Go.Proofs.YthogppennalobaaGreatDoor
open Go.RowKit Go.Sort Forest OwnR TxO Pl
def bl (l:List UInt8): List Value:=l.map fun x=>Value.int .u8 (x.toNat:Int)
theorem conv_lw {w0 W:World}{v:Value}{l:List UInt8}(h:Lw 5 1 w0 W v l.length (bl l))(hl:l≠[]): (convert 117 9 v).run Tryz.prog W = .ok (.string ⟨l.toArray⟩) W:=by
 obtain⟨a,c,rfl⟩:=h.shape
 have h0:0<l.length:=List.length_pos_iff.2 hl
 obtain⟨g,e,_⟩:=OwnR.owns_cell h.1 (i:=0) (v:= .int .u8 ((l[0]).toNat:Int)) (by simp [bl,h0])
 subst e
 refine run_convert_bytes_back W 117 9 5 _ c l Tryz.underlying117 Tryz.underlying5 Tryz.underlying9 (fun j hj=>?_)
 obtain⟨g2,e2,hc⟩:=OwnR.owns_cell h.1 (i:=j) (v:= .int .u8 ((l[j]).toNat:Int)) (by simp [bl,hj])
 have e3:g=g2:=by simpa using e2
 rw [e3]
 rw [at0]
 exact hc
theorem one_lw (w:World)(b:UInt8): Lw 5 1 w (w.alloc (.cells #[.int .u8 (b.toNat:Int)] 5)) (.slice (some ⟨w.heap.size,0,none⟩) 1 1) [b].length (bl [b]):=
 ⟨⟨by simp [bl],.inr ⟨w.heap.size,1,#[.int .u8 (b.toNat:Int)],rfl,Nat.zero_le _,Go.heap_alloc_new w _,Nat.le_refl _,by decide,rfl,rfl⟩⟩,by go_grown,fun k hk=>by
  have:w.heap.size=k:=Option.some.inj hk
  omega⟩
theorem flag56 (b:Bool)(w:World): Calls Tryz.prog 56 #[.bool b] w fun e w'=>e = .returned (.string ⟨(flagT b).toArray⟩)∧w'=w:=by
 cases b<;>(go_enter Tryz.func56,Tryz.ntmps56;go_wp2_with fail;go_ret;exact⟨rfl,rfl⟩)
set_option maxHeartbeats 4000000 in
theorem rnum_any (n:Nat)(hn:n<1000000000000000000)(w:World): Calls Tryz.prog 55 #[.int .i64 (n:Int)] w fun e w'=>e = .returned (.string ⟨(Lib.decDigits n).toArray⟩)∧Below w.heap.size w w':=by
 have HN:=Lib.hid hn
 go_enter Tryz.func55,Tryz.ntmps55
 go_wp2_with fail
 go_loopw [0,3] (fun nv sv wr=>∃(u:Nat) (s:Bs),nv = .int .i64 (u:Int)∧sv = .string ⟨s.toArray⟩∧u≤n∧Hid (Lib.decDigits n=Lib.decDigits u++s)∧Hid (Below w.heap.size w wr)) (fun nv _ _=>(intOf nv).toNat)
 case atStart=>exact⟨n,[],rfl,rfl,Nat.le_refl _,Lib.hid (by simp),Lib.hid (Below.refl _ _)⟩
 case round=>
  obtain⟨u,s,rfl,rfl,hu,HD,HB⟩:=hrel
  have hub:u<1000000000000000000:=by omega
  have hsl:s.length≤18:=by
   have h1:=dec_len 17 n (by omega)
   have h2:=congrArg List.length HD.out
   rw [List.length_append] at h2
   omega
  by_cases h9:9<u
  ·have h9I:(9:Int)<(u:Int):=by omega
   obtain⟨b,hb0⟩:∃b,b=UInt8.ofNat (48+u % 10):=⟨_,rfl⟩
   have hb:(b.toNat:Int)=48+(u:Int) % 10:=by rw [hb0,UInt8.toNat_ofNat'];omega
   have hc:=conv_lw (one_lw wr b) (by simp)
   rw [hb] at hc
   have hx:(⟨[b].toArray⟩:ByteArray)++⟨s.toArray⟩=⟨([b]++s).toArray⟩:=by apply ByteArray.ext;simp
   have hz1:(⟨[b].toArray⟩:ByteArray).size=1:=rfl
   have hz2:(⟨s.toArray⟩:ByteArray).size=s.length:=size_ba s
   have hI:¬9223372036854775807<1+s.length:=by omega
   have HD2:Hid (Lib.decDigits n=Lib.decDigits (u / 10)++([b]++s)):=Lib.hid (by rw [HD.out,dec_rec (by omega),hb0,List.append_assoc])
   have HB2:Hid (Below w.heap.size w (wr.alloc (.cells #[.int .u8 (48+(u:Int) % 10)] 5))):=Lib.hid (by have:=HB.out;have:=this.size;exact HB.out.trans ((show Below wr.heap.size wr _ by go_grown).mono HB.out.size))
   clear hb hb0
   go_wp2_with fail
   go_roundw
   case rel=>exact⟨u / 10,[b]++s,by first | rfl | go_num,by first | rfl | simp [hx],by omega,HD2,HB2⟩
   case measure=>simp [intOf];omega
  ·have h9I:¬(9:Int)<(u:Int):=by omega
   obtain⟨b,hb0⟩:∃b,b=UInt8.ofNat (48+u):=⟨_,rfl⟩
   have hb:(b.toNat:Int)=48+(u:Int):=by rw [hb0,UInt8.toNat_ofNat'];omega
   have hc:=conv_lw (one_lw wr b) (by simp)
   rw [hb] at hc
   have hx:(⟨[b].toArray⟩:ByteArray)++⟨s.toArray⟩=⟨([b]++s).toArray⟩:=by apply ByteArray.ext;simp
   have hz1:(⟨[b].toArray⟩:ByteArray).size=1:=rfl
   have hz2:(⟨s.toArray⟩:ByteArray).size=s.length:=size_ba s
   have hI:¬9223372036854775807<1+s.length:=by omega
   have HD2:Hid (Lib.decDigits n=[b]++s):=Lib.hid (by rw [HD.out,Lib.decDigits_one (by omega),hb0])
   have HB2:Hid (Below w.heap.size w (wr.alloc (.cells #[.int .u8 (48+(u:Int))] 5))):=Lib.hid (HB.out.trans ((show Below wr.heap.size wr _ by go_grown).mono HB.out.size))
   clear hb hb0
   go_wp2_with fail
   go_ret
   exact⟨by rw [HD2.out];first | rfl | simp [hx],HB2.out⟩
theorem Lw.based {e:TypeId}{z n:Nat}{w0 w:World}{v:Value}{xs:List Value}(h:Lw e z w0 w v n xs): w.ownsRow w0.heap.size e z v n xs:=by
 refine⟨h.1.1,?_⟩
 rcases h.1.2 with h0 | ⟨g,cap,cur,hv,_,rest⟩
 ·exact .inl h0
 ·exact .inr ⟨g,cap,cur,hv,h.2.2 g (by rw [hv];rfl),rest⟩
theorem bl_app (a b:Bs): bl (a++b)=bl a++bl b:=by simp [bl]
theorem app_s {w0 W:World}{v:Value}{l:Bs}(h:Lw 5 1 w0 W v l.length (bl l))(ty:TypeId)(s:Bs)(hl:l.length+s.length≤1000000000):
  ∃v' w',(Builtin.append_ #[117,9] ty #[v,.string ⟨s.toArray⟩]).run Tryz.prog W = .ok v' w'∧Lw 5 1 w0 w' v' (l++s).length (bl (l++s)):=by
 obtain⟨i0,hi,hz0,hz1,hz2⟩:=info_parts (show(Tryz.prog.info? 5).map (fun i=>(i.zero,i.size,i.bytes))=some (some (.int .u8 0),1,1) by kernel_rfl)
 have hz:(⟨s.toArray⟩:ByteArray).size=s.length:=size_ba s
 obtain⟨v',w',hrun,ho,hg,_⟩:=Lib.run_append_own_string (P:=Tryz.prog) W w0.heap.size 117 9 ty 5 i0 Tryz.underlying117 Tryz.underlying9 hi hz0 hz1 hz2 v l.length (bl l) h.based ⟨s.toArray⟩ (by rw [hz];unfold maxLen;omega) (by rw [hz];omega) h.2.1.size
 have hs:Lib.strCells ⟨s.toArray⟩=bl s:=by simp [Lib.strCells,bl]
 rw [hz,hs,← bl_app] at ho
 refine⟨v',w',hrun,⟨?_,h.2.1.grown hg h.2.1.size h.2.2,fun k hk=>?_⟩⟩
 ·rw [List.length_append]
  refine⟨ho.1,?_⟩
  rcases ho.2 with h0 | ⟨g,cap,cur,hv,_,rest⟩
  ·exact .inl h0
  ·exact .inr ⟨g,cap,cur,hv,Nat.zero_le _,rest⟩
 ·rcases ho.2 with ⟨h0,_⟩ | ⟨g,cap,cur,hv,hB,rest⟩
  ·rw [h0] at hk;cases hk
  ·rw [hv] at hk
   have:g=k:=Option.some.inj hk
   omega
open Go.Lib renaming hid→Φ
theorem Nr.range {w:World}{a:Option Addr}{m c:Nat}{rs:List (Nd×Value×Value)}(h:Nr w (.slice a m c) rs){i:Nat}(hi:i<rs.length): ∃q,a=some ⟨q,0,none⟩∧w.rangeAt q (i*15) (nodeC rs[i]):=by
 obtain⟨q,e,hc⟩:=h.cell hi
 refine⟨q,e,fun j v hj=>?_⟩
 have hjl:j<15:=by
  have:=(List.getElem?_eq_some_iff.1 hj).1
  simpa [nodeC,inC] using this
 rw [hc j hjl]
 exact hj
set_option maxHeartbeats 8000000 in
theorem samenodes_any {l:List Nd}(hs:∀n∈l,n.scope.length≤100000∧n.actors.length≤100000)(hl:l.length≤1000000)(w:World)(v u:Value)(rs ss:List (Nd×Value×Value))(e1:rs.map (·.1)=l)(e2:ss.map (·.1)=l)(h1:Nr w v rs)(h2:Nr w u ss):
  Calls Tryz.prog 16 #[v,u] w fun e w'=>e = .returned (.bool true)∧Below w.heap.size w w':=by
 obtain⟨a,c,rfl⟩:=h1.shape
 obtain⟨b,d,rfl⟩:=h2.shape
 have H1:=Φ h1
 have H2:=Φ h2
 have HS:=Φ hs
 have E1:=Φ e1
 have E2:=Φ e2
 obtain⟨m,hm⟩:∃m,m=l.length:=⟨_,rfl⟩
 have hm1:rs.length=m:=by rw [hm,← e1,List.length_map]
 have hm2:ss.length=m:=by rw [hm,← e2,List.length_map]
 have HM:=Φ (And.intro hm1 hm2)
 have HML:=Φ hm
 rw [← hm] at hl
 rw [hm1,hm2]
 clear h1 h2 hs e1 e2 hm hm1 hm2
 go_enter Tryz.func16,Tryz.ntmps16
 go_wp2_with fail
 go_loopw [5] (fun iv wr=>∃i:Nat,i≤m∧iv = .int .i64 (i:Int)∧Hid (Below w.heap.size w wr)) (fun iv _=>m - (intOf iv).toNat)
 case atStart=>exact⟨0,Nat.zero_le _,rfl,Φ (Below.refl _ _)⟩
 case round=>
  obtain⟨i,hi,rfl,HQ⟩:=hrel
  by_cases hlt:i<m
  ·have hltI:(i:Int)<(m:Int):=by omega
   have hl1:i<rs.length:=by rw [HM.out.1];exact hlt
   have hl2:i<ss.length:=by rw [HM.out.2];exact hlt
   have hll:i<l.length:=by rw [← HML.out];exact hlt
   obtain⟨q,rfl,c0⟩:=H1.out.range hl1
   obtain⟨q2,rfl,d0⟩:=H2.out.range hl2
   have f1:rs[i].1=l[i]:=by
    have:(rs.map (·.1))[i]?=l[i]?:=by rw [E1.out]
    rw [List.getElem?_map,List.getElem?_eq_getElem hl1,List.getElem?_eq_getElem hll] at this
    simpa using this
   have f2:ss[i].1=l[i]:=by
    have:(ss.map (·.1))[i]?=l[i]?:=by rw [E2.out]
    rw [List.getElem?_map,List.getElem?_eq_getElem hl2,List.getElem?_eq_getElem hll] at this
    simpa using this
   have t1:=H1.out.2 _ (List.getElem_mem hl1)
   have t2:=H2.out.2 _ (List.getElem_mem hl2)
   have hn:=HS.out _ (List.getElem_mem hll)
   generalize rs[i]=r1 at f1 c0 t1
   generalize ss[i]=r2 at f2 d0 t2
   obtain⟨n1,sv,av⟩:=r1
   obtain⟨n2,tv,uv⟩:=r2
   dsimp only at f1 f2 t1 t2
   rw [← f1] at f2 hn
   subst f2
   have HK:Hid (∀d os,Calls Tryz.prog 38 #[.agg (nodeC (n2,sv,av)).toArray,.agg (nodeC (n2,tv,uv)).toArray] (grow (redrawn wr d) os) fun e w''=>e = .returned (.bool true)∧∃p:Regrown,w''=grow (redrawn wr p.d) p.os):=Φ fun d os=>by
    have hb:=HQ.out.trans ((below_regrown wr d os).mono HQ.out.size)
    have h:=rsame_any n2.id n2.parent n2.id n2.parent n2 n2 sv av tv uv (by omega) (by omega) (grow (redrawn wr d) os) ((t1.1.below hb).rd) ((t1.2.below hb).rd) ((t2.1.below hb).rd) ((t2.2.below hb).rd)
    rw [sameP_refl] at h
    exact Calls.regrown_of h
   have C1:=Φ (range_below c0 HQ.out)
   have D1:=Φ (range_below d0 HQ.out)
   have hz1:(nodeC (n2,sv,av)).length=15:=rfl
   have hz2:(nodeC (n2,tv,uv)).length=15:=rfl
   generalize nodeC (n2,sv,av)=cs1 at HK C1 hz1
   generalize nodeC (n2,tv,uv)=cs2 at HK D1 hz2
   have i1:(Tryz.prog.info? 31).map (·.size)=some cs1.length:=by rw [hz1];exact i31
   have i2:(Tryz.prog.info? 31).map (·.size)=some cs2.length:=by rw [hz2];exact i31
   clear c0 d0 f1 t1 t2 hn hl1 hl2 hll hz1 hz2
   go_wp2_with fail
   refine wp_region_quiet_below mixed (by kernel_rfl) ?_
   repeat (first | go_big_quiet_step (fail) | quiet_step (fail))
   refine wpQuiet_load_mid rfl 31 _ rfl q (i*15) rfl cs1 _ (fun w' hw'=>by obtain⟨p,rfl⟩:=hw';exact range_below C1.out (below_regrown wr p.d p.os)) Tryz.underlying31 rfl i1 ?_
   repeat (first | go_big_quiet_step (fail) | quiet_step (fail))
   refine wpQuiet_load_mid rfl 31 _ rfl q2 (i*15) rfl cs2 _ (fun w' hw'=>by obtain⟨p,rfl⟩:=hw';exact range_below D1.out (below_regrown wr p.d p.os)) Tryz.underlying31 rfl i2 ?_
   repeat (first | go_big_quiet_step (exact HK.out _ _) | quiet_step (exact HK.out _ _))
   refine wpQuiet_nil ?_
   intro _ hw'
   obtain⟨⟨dq,osq⟩,hw''⟩:=hw'
   subst hw''
   have B9:Hid (Below w.heap.size w (grow (redrawn wr dq) osq)):=Φ (HQ.out.trans ((below_regrown wr dq osq).mono HQ.out.size))
   generalize grow (redrawn wr dq) osq=wq at B9 ⊢
   go_wp2_with fail
   go_roundw
   case rel=>exact⟨i+1,by omega,by go_num,B9⟩
   case measure=>simp [intOf];omega
  ·have hltI:¬(i:Int)<(m:Int):=by omega
   go_wp2_with fail
   go_ret
   exact⟨rfl,HQ.out⟩
open Go.Lib renaming hid→Φ
theorem cat_two2 {l m:Bs}: (⟨l.toArray⟩:ByteArray)++⟨m.toArray⟩=⟨(l++m).toArray⟩:=by apply ByteArray.ext;simp
set_option maxHeartbeats 4000000 in
theorem rform_any (l:List Bs)(hne:l≠[])(hf:(formL l).length≤1000000)(hll:l.length≤1000000)(w:World)(v:Value)(hv:Rd w v l): Calls Tryz.prog 54 #[v] w fun e w'=>e = .returned (.string ⟨(formL l).toArray⟩)∧Below w.heap.size w w':=by
 obtain⟨a,c,rfl,hc⟩:=hv
 have HNE:Hid (formL l≠[]):=Φ (by
  cases l with
  |nil=>exact absurd rfl hne
  |cons s k=>simp [formL,one])
 have HC:=Φ hc
 have HF:=Φ hf
 obtain⟨N,hN⟩:∃N,N=l.length:=⟨_,rfl⟩
 have HN:=Φ hN
 rw [← hN] at hll ⊢
 have HE:Hid (Lw 5 1 w (w.alloc (.cells #[] 5)) (.slice (some ⟨w.heap.size,0,none⟩) 0 0) 0 []):=Φ (Lw.empty 5 1 (Below.refl _ _))
 clear hc hf hN hne
 go_enter Tryz.func54,Tryz.ntmps54
 go_wp2_with fail
 go_loopw [3,4] (fun sv iv wr=>∃i:Nat,i≤N∧iv = .int .i64 (i:Int)∧Hid (Lw 5 1 w wr sv (formL (l.take i)).length (bl (formL (l.take i))))) (fun _ iv _=>N - (intOf iv).toNat)
 case atStart=>exact⟨0,Nat.zero_le _,rfl,Φ HE.out⟩
 case round=>
  obtain⟨i,hi,rfl,HW⟩:=hrel
  clear HE
  by_cases hlt:i<N
  ·have hltI:(i:Int)<(N:Int):=by omega
   have hil:i<l.length:=by rw [← HN.out];exact hlt
   obtain⟨q,o,rfl,c0⟩:=HC.out i hil
   replace c0:=cell_below HW.out.2.1 c0
   have HT:Hid (formL (l.take (i+1))=formL (l.take i)++one (l[i]'hil)):=Φ (formL_take l hil)
   have HFL:Hid ((formL (l.take i)).length≤1000000):=Φ (Nat.le_trans (formL_take_len l i) HF.out)
   have hsl:(l[i]'hil).length≤1000000:=Nat.le_trans (form_mem l _ (List.getElem_mem hil)) HF.out
   obtain⟨s,hs⟩:∃s,s=l[i]'hil:=⟨_,rfl⟩
   rw [← hs] at c0 HT hsl
   unfold txt at c0
   clear hs hil
   have k0:=cell_regrown c0
   have HK:Hid (∀d os,Calls Tryz.prog 55 #[.int .i64 (s.length:Int)] (grow (redrawn wr d) os) fun e w''=>e = .returned (.string ⟨(Lib.decDigits s.length).toArray⟩)∧∃p:Regrown,w''=grow (redrawn wr p.d) p.os):=Φ fun d os=>Calls.regrown_of (rnum_any s.length (by omega) _)
   have hdl:(Lib.decDigits s.length).length≤8:=dec_len 7 s.length (by omega)
   unfold one at HT
   obtain⟨d,hd⟩:∃d,d=Lib.decDigits s.length:=⟨_,rfl⟩
   rw [← hd] at HK HT hdl
   have hzs:(⟨s.toArray⟩:ByteArray).size=s.length:=size_ba s
   have hzd:(⟨d.toArray⟩:ByteArray).size=d.length:=size_ba d
   have hz1:(⟨#[58]⟩:ByteArray).size=1:=rfl
   have hx1:(⟨d.toArray⟩:ByteArray)++⟨#[58]⟩=⟨(d++[58]).toArray⟩:=cat_two2 (m:=[58])
   have hz2:(⟨(d++[58]).toArray⟩:ByteArray).size=d.length+1:=by rw [size_ba];simp
   have hx2:(⟨(d++[58]).toArray⟩:ByteArray)++⟨s.toArray⟩=⟨(d++58::s).toArray⟩:=by rw [cat_two2];simp
   have hI1:¬9223372036854775807<d.length+1:=by omega
   have hI2:¬9223372036854775807<d.length+1+s.length:=by omega
   clear hd
   go_wp2_with fail
   refine wp_region_below_tail 13 mixed (by kernel_rfl) ?_
   simp only [List.take_succ_cons,List.take_zero,List.drop_succ_cons,List.drop_zero]
   repeat (first | go_big_quiet_step (exact HK.out _ _) | quiet_step (exact HK.out _ _))
   refine wpQuiet_nil ?_
   intro _ hw'
   obtain⟨⟨dq,osq⟩,hw''⟩:=hw'
   subst hw''
   have HW9:=Φ (HW.out.down (below_regrown wr dq osq))
   clear HK k0 c0 HW
   generalize grow (redrawn wr dq) osq=wq at HW9 ⊢
   obtain⟨v',w',hrun,hlw⟩:=app_s HW9.out 117 (d++58::s) (by have:=HFL.out;simp only [List.length_append,List.length_cons];omega)
   have HL:=Φ hlw
   refine Lib.wpList_append_run wq rfl (.tmp 12) (.tmp 24) 117 9 rfl _ _ rfl rfl v' w' hrun ?_
   clear hrun hlw hx1 hx2 hz1 hz2 hzs hzd hI1 hI2
   go_wp2_with fail
   go_roundw
   case rel=>exact⟨i+1,by omega,by go_num,Φ (by rw [HT.out];exact HL.out)⟩
   case measure=>simp [intOf];omega
  ·have hltI:¬(i:Int)<(N:Int):=by omega
   have hiN:i=l.length:=by have:=HN.out;omega
   have htl:l.take i=l:=by rw [hiN,List.take_length]
   rw [htl] at HW
   have hcv:=conv_lw HW.out HNE.out
   clear htl hiN
   go_wp2_with fail
   go_ret
   exact⟨rfl,HW.out.2.1⟩
end Go.Proofs.YthogppennalobaaGreatDoor
namespace Go.Proofs.YthogppennalobaaGreatDoor.Pl
open Go.RowKit Go.Sort
noncomputable def roAO:Array Oper:=(Tryz.f20.body.bind fun c=>findR c 6).getD #[]
def roA_m:List (List Nat):=[[],[],[],[],[],[2],[],[],[],[],[],[],[],[],[],[2,5],[2,5,15],[2,5,15,16]]
set_option maxHeartbeats 16000000 in
theorem roA (PW:Bool→Bool→Bool→Bool→Value→World→Prop)(b:Nat)(sa:Option Addr)(m sc:Nat)(kind par:Int)(a1 a2 s3 s4 s5 a6:List UInt8)(w:World)  (k1:∀(b2 b5 b15 b16:Bool) (y16:Value) (w:World),PW b2 b5 b15 b16 y16 w→w.cell? ⟨b,1,none⟩=some (.int .i64 kind))(k2:∀(b2 b5 b15 b16:Bool) (y16:Value) (w:World),PW b2 b5 b15 b16 y16 w→w.cell? ⟨b,2,none⟩=some (.int .i64 par))(k3:∀(b2 b5 b15 b16:Bool) (y16:Value) (w:World),PW b2 b5 b15 b16 y16 w→w.cell? ⟨b,3,none⟩=some (.string ⟨s3.toArray⟩))(k4:∀(b2 b5 b15 b16:Bool) (y16:Value) (w:World),PW b2 b5 b15 b16 y16 w→w.cell? ⟨b,4,none⟩=some (.string ⟨s4.toArray⟩))(k5:∀(b2 b5 b15 b16:Bool) (y16:Value) (w:World),PW b2 b5 b15 b16 y16 w→w.cell? ⟨b,5,none⟩=some (.string ⟨s5.toArray⟩))(k6:∀(b2 b5 b15 b16:Bool) (y16:Value) (w:World),PW b2 b5 b15 b16 y16 w→w.cell? ⟨b,6,none⟩=some (.slice sa m sc))(cl2:∀(y16:Value) (w:World),PW false false false false y16 w→Calls Tryz.prog 55 #[.int .i64 kind] w fun e w1=>e = .returned (.string ⟨a1.toArray⟩)∧PW true false false false y16 w1)(cl5:∀(y16:Value) (w:World),PW true false false false y16 w→Calls Tryz.prog 55 #[.int .i64 par] w fun e w1=>e = .returned (.string ⟨a2.toArray⟩)∧PW true true false false y16 w1)(cl15:∀(y16:Value) (w:World),PW true true false false y16 w→Calls Tryz.prog 55 #[.int .i64 (m:Int)] w fun e w1=>e = .returned (.string ⟨a6.toArray⟩)∧PW true true true false y16 w1)(cl16:∀(y16:Value) (w:World),PW true true true false y16 w→PW true true true true (.slice (some ⟨w.heap.size,0,none⟩) 6 6) (w.alloc (.cells #[.string ⟨a1.toArray⟩,.string ⟨a2.toArray⟩,.string ⟨s3.toArray⟩,.string ⟨s4.toArray⟩,.string ⟨s5.toArray⟩,.string ⟨a6.toArray⟩] 9))){t0 t1 t2 t3 t4 t6 t7 t8 t9 t10 t11 t12 t13 t14 t15 t16 t17 t18 t19 t20 t21 t22 t23 t24 t25 t26 t27 t28 t29 t30 t31 t32 t33 t34 t35 t36 t37 t38 t39 t40 t41 t42 t43 t44 t45 t46 t47 t48 t49 t50 t51 t52 t53 t54 t55 t56 t57 t58 t59 t60 t61 t62 t63 t64 t65 t66 t67 t68 t69 t70 t71 t72 t73 t74 t75 t76 t77 t78 t79 t80 t81 t82 t83 t84 t85 t86 t87 t88 t89 t90 t91 t92 t93 t94 t95 t96 t97 t98 t99 t100 t101:Value}(w0:PW false false false false t49 w.drew){ds:List Deferred}{Q:Exit→Act→World→Prop}
  (h:∀(y16:Value) (w1:World),PW true true true true y16 w1→Q .normal {tmps:=#[t0,t1,t2,t3,t4,.pointer (some ⟨b,0,none⟩),y16,t7,t8,t9,t10,t11,t12,t13,t14,t15,t16,t17,t18,t19,t20,t21,t22,t23,t24,t25,t26,t27,t28,t29,t30,t31,t32,.pointer (some ⟨b,1,none⟩),.int .i64 kind,.string ⟨a1.toArray⟩,.pointer (some ⟨b,2,none⟩),.int .i64 par,.string ⟨a2.toArray⟩,.pointer (some ⟨b,3,none⟩),.string ⟨s3.toArray⟩,.pointer (some ⟨b,4,none⟩),.string ⟨s4.toArray⟩,.pointer (some ⟨b,5,none⟩),.string ⟨s5.toArray⟩,.pointer (some ⟨b,6,none⟩),.slice sa m sc,.int .i64 (m:Int),.string ⟨a6.toArray⟩,y16,t50,t51,t52,t53,t54,t55,t56,t57,t58,t59,t60,t61,t62,t63,t64,t65,t66,t67,t68,t69,t70,t71,t72,t73,t74,t75,t76,t77,t78,t79,t80,t81,t82,t83,t84,t85,t86,t87,t88,t89,t90,t91,t92,t93,t94,t95,t96,t97,t98,t99,t100,t101],defers:=ds} w1) :
  (Code.region 6 roAO true).wp Tryz.prog Q {tmps:=#[t0,t1,t2,t3,t4,.pointer (some ⟨b,0,none⟩),t6,t7,t8,t9,t10,t11,t12,t13,t14,t15,t16,t17,t18,t19,t20,t21,t22,t23,t24,t25,t26,t27,t28,t29,t30,t31,t32,t33,t34,t35,t36,t37,t38,t39,t40,t41,t42,t43,t44,t45,t46,t47,t48,t49,t50,t51,t52,t53,t54,t55,t56,t57,t58,t59,t60,t61,t62,t63,t64,t65,t66,t67,t68,t69,t70,t71,t72,t73,t74,t75,t76,t77,t78,t79,t80,t81,t82,t83,t84,t85,t86,t87,t88,t89,t90,t91,t92,t93,t94,t95,t96,t97,t98,t99,t100,t101],defers:=ds} w:=by
 have hsz:roAO.size=18:=by kernel_rfl
 generalize hT:List.toArray _=T0
 have hs:T0.size=102:=by subst hT;rfl
 have g5:T0.getD 5 undef = .pointer (some ⟨b,0,none⟩):=by subst hT;rfl
 obtain⟨W,hV⟩:∃W:List ((Nat×(Value→Value)) ⊕ Value),W=[.inr (.pointer (some ⟨b,1,none⟩)),.inr (.int .i64 kind),.inr (.string ⟨a1.toArray⟩),.inr (.pointer (some ⟨b,2,none⟩)),.inr (.int .i64 par),.inr (.string ⟨a2.toArray⟩),.inr (.pointer (some ⟨b,3,none⟩)),.inr (.string ⟨s3.toArray⟩),.inr (.pointer (some ⟨b,4,none⟩)),.inr (.string ⟨s4.toArray⟩),.inr (.pointer (some ⟨b,5,none⟩)),.inr (.string ⟨s5.toArray⟩),.inr (.pointer (some ⟨b,6,none⟩)),.inr (.slice sa m sc),.inr (.int .i64 (m:Int)),.inr (.string ⟨a6.toArray⟩),.inl (16,id),.inl (16,id)]:=⟨_,rfl⟩
 refine wp_plan (by kernel_rfl) T0 ds [2,5,15,16] roA_m (mkV W) (fun dx yx wx=>PW (dx 2) (dx 5) (dx 15) (dx 16) (yx 16) wx) w (by rw [hs];kernel_rfl) (by kernel_rfl) (by kernel_rfl) (by rw [hsz];decide) (fun cx hc ix hne ha yx vx=>mkV_fix (by rw [hV];kernel_rfl) hne ha yx vx) (?key) (fun cx hc ox ho dx yx Tx wx hd hdb hda hK hW=>?_) ⟨fun k=>if k=16 then t49 else undef,w0⟩ (fun dx yx wx hd hW=>?_)
 case key=>
  rw [hsz]
  refine all_step (all_step (all_step (all_step (all_step (all_step (all_step (all_step (all_step (all_step (all_step (all_step (all_step (all_step (all_step (all_step (all_step (all_step all_zero ?_) ?_) ?_) ?_) ?_) ?_) ?_) ?_) ?_) ?_) ?_) ?_) ?_) ?_) ?_) ?_) ?_) ?_
  all_goals
   intro ox ho hic dx yx Tx wx hdb hK hW
   replace hdb:=Lib.hid hdb
  ·exact pl0 33 5 0 ho hK g5 fun ps af e=>k_fa31_1 e
  ·exact pl1 34 33 0 3 ho hK fun ps af e=>k_ld3 (k1 _ _ _ _ _ _ hW) e
  ·exact absurd (by decide) hic
  ·exact pl0 36 5 0 ho hK g5 fun ps af e=>k_fa31_2 e
  ·exact pl1 37 36 3 3 ho hK fun ps af e=>k_ld3 (k2 _ _ _ _ _ _ hW) e
  ·exact absurd (by decide) hic
  ·exact pl0 39 5 0 ho hK g5 fun ps af e=>k_fa31_3 e
  ·exact pl1 40 39 6 9 ho hK fun ps af e=>k_ld9 (k3 _ _ _ _ _ _ hW) e
  ·exact pl0 41 5 0 ho hK g5 fun ps af e=>k_fa31_4 e
  ·exact pl1 42 41 8 9 ho hK fun ps af e=>k_ld9 (k4 _ _ _ _ _ _ hW) e
  ·exact pl0 43 5 0 ho hK g5 fun ps af e=>k_fa31_5 e
  ·exact pl1 44 43 10 9 ho hK fun ps af e=>k_ld9 (k5 _ _ _ _ _ _ hW) e
  ·exact pl0 45 5 0 ho hK g5 fun ps af e=>k_fa31_6 e
  ·exact pl1 46 45 12 29 ho hK fun ps af e=>k_ld29 (k6 _ _ _ _ _ _ hW) e
  ·obtain⟨ps,af,rfl⟩:=core (some 47) (.call {callee:= .builtin Builtin.len,args:=#[.tmp 46],argTypes:=#[29]}) 3 none ho
   have e46:Tx.getD 46 undef = .slice sa m sc:=hK.is 13 ho
   exact wpOp_plain ho rfl (by subst hV;go_simp;try rfl)
  ·exact absurd (by decide) hic
  ·exact absurd (by decide) hic
  ·exact pl1 6 49 16 29 ho hK fun ps af e=>k_as e
 ·have hcase:cx=2∨cx=5∨cx=15∨cx=16:=by simpa using hc
  rcases hcase with rfl | rfl | rfl | rfl
  ·obtain⟨ps,af,rfl⟩:=core (some 35) (.call {callee:= .value (.func 55),args:=#[.tmp 34],argTypes:=#[3]}) 9 none ho
   have e34:Tx.getD 34 undef = .int .i64 kind:=hK.is 1 ho
   have hW1:PW (dx 2) (dx 5) (dx 15) (dx 16) (yx 16) wx:=hW
   have f5:=hq hda 5
   have f15:=hq hda 15
   have f16:=hq hda 16
   clear hdb hda
   rw [hd,f5.out,f15.out,f16.out] at hW1
   clear hd hW hc
   refine wpOp_plain ho rfl ?_
   go_simp
   go_at_call 55
   refine(cl2 _ _ hW1).mono ?_
   rintro ex w2 ⟨rfl,hW2⟩
   subst hV
   first | refine⟨undef,rfl,?_⟩ | refine⟨⟨undef,rfl⟩,?_⟩
   simpa [updB,upd,f5.out,f15.out,f16.out] using hW2
  ·obtain⟨ps,af,rfl⟩:=core (some 38) (.call {callee:= .value (.func 55),args:=#[.tmp 37],argTypes:=#[3]}) 9 none ho
   have e37:Tx.getD 37 undef = .int .i64 par:=hK.is 4 ho
   have hW1:PW (dx 2) (dx 5) (dx 15) (dx 16) (yx 16) wx:=hW
   have f2:=hq hdb 2
   have f15:=hq hda 15
   have f16:=hq hda 16
   clear hdb hda
   rw [hd,f2.out,f15.out,f16.out] at hW1
   clear hd hW hc
   refine wpOp_plain ho rfl ?_
   go_simp
   go_at_call 55
   refine(cl5 _ _ hW1).mono ?_
   rintro ex w2 ⟨rfl,hW2⟩
   subst hV
   first | refine⟨undef,rfl,?_⟩ | refine⟨⟨undef,rfl⟩,?_⟩
   simpa [updB,upd,f2.out,f15.out,f16.out] using hW2
  ·obtain⟨ps,af,rfl⟩:=core (some 48) (.call {callee:= .value (.func 55),args:=#[.tmp 47],argTypes:=#[3]}) 9 none ho
   have e47:Tx.getD 47 undef = .int .i64 (m:Int):=hK.is 14 ho
   have hW1:PW (dx 2) (dx 5) (dx 15) (dx 16) (yx 16) wx:=hW
   have f2:=hq hdb 2
   have f5:=hq hdb 5
   have f16:=hq hda 16
   clear hdb hda
   rw [hd,f2.out,f5.out,f16.out] at hW1
   clear hd hW hc
   refine wpOp_plain ho rfl ?_
   go_simp
   go_at_call 55
   refine(cl15 _ _ hW1).mono ?_
   rintro ex w2 ⟨rfl,hW2⟩
   subst hV
   first | refine⟨undef,rfl,?_⟩ | refine⟨⟨undef,rfl⟩,?_⟩
   simpa [updB,upd,f2.out,f5.out,f16.out] using hW2
  ·obtain⟨ps,af,rfl⟩:=core (some 49) (.buildSlice 29 6 #[(0,.tmp 35),(1,.tmp 38),(2,.tmp 40),(3,.tmp 42),(4,.tmp 44),(5,.tmp 48)]) 29 none ho
   have e35:Tx.getD 35 undef = .string ⟨a1.toArray⟩:=hK.is 2 ho
   have e38:Tx.getD 38 undef = .string ⟨a2.toArray⟩:=hK.is 5 ho
   have e40:Tx.getD 40 undef = .string ⟨s3.toArray⟩:=hK.is 7 ho
   have e42:Tx.getD 42 undef = .string ⟨s4.toArray⟩:=hK.is 9 ho
   have e44:Tx.getD 44 undef = .string ⟨s5.toArray⟩:=hK.is 11 ho
   have e48:Tx.getD 48 undef = .string ⟨a6.toArray⟩:=hK.is 15 ho
   have hW1:PW (dx 2) (dx 5) (dx 15) (dx 16) (yx 16) wx:=hW
   have f2:=hq hdb 2
   have f5:=hq hdb 5
   have f15:=hq hdb 15
   clear hdb hda
   rw [hd,f2.out,f5.out,f15.out] at hW1
   clear hd hW hc
   have hW2:=cl16 _ _ hW1
   simp only [Array.getD_eq_getD_getElem?] at e35 e38 e40 e42 e44 e48
   subst hV
   refine wpOp_plain ho rfl ?_
   go_simp
   refine⟨_,rfl,?_⟩
   simpa [updB,upd,f2.out,f5.out,f15.out] using hW2
 ·have hW1:PW (dx 2) (dx 5) (dx 15) (dx 16) (yx 16) wx:=hW
  rw [hd 2 (by decide),hd 5 (by decide),hd 15 (by decide),hd 16 (by decide)] at hW1
  have hQ:=h _ _ hW1
  rw [hsz]
  subst hV hT
  refine cast (congrArg (fun Tx=>Q .normal ⟨Tx,ds⟩ wx) ?_) hQ
  kernel_rfl
noncomputable def roBO:Array Oper:=(Tryz.f20.body.bind fun c=>findR c 7).getD #[]
def roB_m:List (List Nat):=[[],[],[],[],[],[],[3],[],[],[3,6],[],[],[3,6,9],[],[],[3,6,9,12],[],[],[],[3,6,9,12,15],[3,6,9,12,15,19],[3,6,9,12,15,19,20],[3,6,9,12,15,19,20,21]]
set_option maxHeartbeats 16000000 in
theorem roB (PW:Bool→Bool→Bool→Bool→Bool→Bool→Bool→Bool→Value→Value→Value→World→Prop)(b:Nat)(sv:Value)(sa aa:Option Addr)(m sc k ac:Nat)(born exp:Int)(dead spent:Bool)(a7 a8 f9 f0 a1:List UInt8)(w:World)  (k6:∀(b3 b6 b9 b12 b15 b19 b20 b21:Bool) (y3 y20 y21:Value) (w:World),PW b3 b6 b9 b12 b15 b19 b20 b21 y3 y20 y21 w→w.cell? ⟨b,6,none⟩=some (.slice sa m sc))(k7:∀(b3 b6 b9 b12 b15 b19 b20 b21:Bool) (y3 y20 y21:Value) (w:World),PW b3 b6 b9 b12 b15 b19 b20 b21 y3 y20 y21 w→w.cell? ⟨b,7,none⟩=some (.int .i64 born))(k8:∀(b3 b6 b9 b12 b15 b19 b20 b21:Bool) (y3 y20 y21:Value) (w:World),PW b3 b6 b9 b12 b15 b19 b20 b21 y3 y20 y21 w→w.cell? ⟨b,8,none⟩=some (.int .i64 exp))(k9:∀(b3 b6 b9 b12 b15 b19 b20 b21:Bool) (y3 y20 y21:Value) (w:World),PW b3 b6 b9 b12 b15 b19 b20 b21 y3 y20 y21 w→w.cell? ⟨b,9,none⟩=some (.bool dead))(k0:∀(b3 b6 b9 b12 b15 b19 b20 b21:Bool) (y3 y20 y21:Value) (w:World),PW b3 b6 b9 b12 b15 b19 b20 b21 y3 y20 y21 w→w.cell? ⟨b,10,none⟩=some (.bool spent))(k11:∀(b3 b6 b9 b12 b15 b19 b20 b21:Bool) (y3 y20 y21:Value) (w:World),PW b3 b6 b9 b12 b15 b19 b20 b21 y3 y20 y21 w→w.cell? ⟨b,11,none⟩=some (.slice aa k ac))(cl3:∀(y3 y20 y21:Value) (w:World),PW false false false false false false false false y3 y20 y21 w→∃v w',(Builtin.append_ #[29,29] 29 #[sv,.slice sa m sc]).run Tryz.prog w = .ok v w'∧PW true false false false false false false false v y20 y21 w')(cl6:∀(y3 y20 y21:Value) (w:World),PW true false false false false false false false y3 y20 y21 w→Calls Tryz.prog 55 #[.int .i64 born] w fun e w1=>e = .returned (.string ⟨a7.toArray⟩)∧PW true true false false false false false false y3 y20 y21 w1)(cl9:∀(y3 y20 y21:Value) (w:World),PW true true false false false false false false y3 y20 y21 w→Calls Tryz.prog 55 #[.int .i64 exp] w fun e w1=>e = .returned (.string ⟨a8.toArray⟩)∧PW true true true false false false false false y3 y20 y21 w1)(cl12:∀(y3 y20 y21:Value) (w:World),PW true true true false false false false false y3 y20 y21 w→Calls Tryz.prog 56 #[.bool dead] w fun e w1=>e = .returned (.string ⟨f9.toArray⟩)∧PW true true true true false false false false y3 y20 y21 w1)(cl15:∀(y3 y20 y21:Value) (w:World),PW true true true true false false false false y3 y20 y21 w→Calls Tryz.prog 56 #[.bool spent] w fun e w1=>e = .returned (.string ⟨f0.toArray⟩)∧PW true true true true true false false false y3 y20 y21 w1)(cl19:∀(y3 y20 y21:Value) (w:World),PW true true true true true false false false y3 y20 y21 w→Calls Tryz.prog 55 #[.int .i64 (k:Int)] w fun e w1=>e = .returned (.string ⟨a1.toArray⟩)∧PW true true true true true true false false y3 y20 y21 w1)(cl20:∀(y3 y20 y21:Value) (w:World),PW true true true true true true false false y3 y20 y21 w→PW true true true true true true true false y3 (.slice (some ⟨w.heap.size,0,none⟩) 5 5) y21 (w.alloc (.cells #[.string ⟨a7.toArray⟩,.string ⟨a8.toArray⟩,.string ⟨f9.toArray⟩,.string ⟨f0.toArray⟩,.string ⟨a1.toArray⟩] 9)))(cl21:∀(y3 y20 y21:Value) (w:World),PW true true true true true true true false y3 y20 y21 w→∃v w',(Builtin.append_ #[29,29] 29 #[y3,y20]).run Tryz.prog w = .ok v w'∧PW true true true true true true true true y3 y20 v w'){t0 t1 t2 t3 t4 t7 t8 t9 t10 t11 t12 t13 t14 t15 t16 t17 t18 t19 t20 t21 t22 t23 t24 t25 t26 t27 t28 t29 t30 t31 t32 t33 t34 t35 t36 t37 t38 t39 t40 t41 t42 t43 t44 t45 t46 t47 t48 t49 t50 t51 t52 t53 t54 t55 t56 t57 t58 t59 t60 t61 t62 t63 t64 t65 t66 t67 t68 t69 t70 t71 t72 t73 t74 t75 t76 t77 t78 t79 t80 t81 t82 t83 t84 t85 t86 t87 t88 t89 t90 t91 t92 t93 t94 t95 t96 t97 t98 t99 t100 t101:Value}(w0:PW false false false false false false false false t53 t70 t71 w.drew){ds:List Deferred}{Q:Exit→Act→World→Prop}
  (h:∀(y3 y20 y21:Value) (w1:World),PW true true true true true true true true y3 y20 y21 w1→Q .normal {tmps:=#[t0,t1,t2,t3,t4,.pointer (some ⟨b,0,none⟩),y21,t7,t8,t9,t10,t11,t12,t13,t14,t15,t16,t17,t18,t19,t20,t21,t22,t23,t24,t25,t26,t27,t28,t29,t30,t31,t32,t33,t34,t35,t36,t37,t38,t39,t40,t41,t42,t43,t44,t45,t46,t47,t48,t49,sv,.pointer (some ⟨b,6,none⟩),.slice sa m sc,y3,.pointer (some ⟨b,7,none⟩),.int .i64 born,.string ⟨a7.toArray⟩,.pointer (some ⟨b,8,none⟩),.int .i64 exp,.string ⟨a8.toArray⟩,.pointer (some ⟨b,9,none⟩),.bool dead,.string ⟨f9.toArray⟩,.pointer (some ⟨b,10,none⟩),.bool spent,.string ⟨f0.toArray⟩,.pointer (some ⟨b,11,none⟩),.slice aa k ac,.int .i64 (k:Int),.string ⟨a1.toArray⟩,y20,y21,t72,t73,t74,t75,t76,t77,t78,t79,t80,t81,t82,t83,t84,t85,t86,t87,t88,t89,t90,t91,t92,t93,t94,t95,t96,t97,t98,t99,t100,t101],defers:=ds} w1) :
  (Code.region 7 roBO true).wp Tryz.prog Q {tmps:=#[t0,t1,t2,t3,t4,.pointer (some ⟨b,0,none⟩),sv,t7,t8,t9,t10,t11,t12,t13,t14,t15,t16,t17,t18,t19,t20,t21,t22,t23,t24,t25,t26,t27,t28,t29,t30,t31,t32,t33,t34,t35,t36,t37,t38,t39,t40,t41,t42,t43,t44,t45,t46,t47,t48,t49,t50,t51,t52,t53,t54,t55,t56,t57,t58,t59,t60,t61,t62,t63,t64,t65,t66,t67,t68,t69,t70,t71,t72,t73,t74,t75,t76,t77,t78,t79,t80,t81,t82,t83,t84,t85,t86,t87,t88,t89,t90,t91,t92,t93,t94,t95,t96,t97,t98,t99,t100,t101],defers:=ds} w:=by
 have hsz:roBO.size=23:=by kernel_rfl
 generalize hT:List.toArray _=T0
 have hs:T0.size=102:=by subst hT;rfl
 have g5:T0.getD 5 undef = .pointer (some ⟨b,0,none⟩):=by subst hT;rfl
 have g6:T0.getD 6 undef=sv:=by subst hT;rfl
 obtain⟨W,hV⟩:∃W:List ((Nat×(Value→Value)) ⊕ Value),W=[.inr (sv),.inr (.pointer (some ⟨b,6,none⟩)),.inr (.slice sa m sc),.inl (3,id),.inr (.pointer (some ⟨b,7,none⟩)),.inr (.int .i64 born),.inr (.string ⟨a7.toArray⟩),.inr (.pointer (some ⟨b,8,none⟩)),.inr (.int .i64 exp),.inr (.string ⟨a8.toArray⟩),.inr (.pointer (some ⟨b,9,none⟩)),.inr (.bool dead),.inr (.string ⟨f9.toArray⟩),.inr (.pointer (some ⟨b,10,none⟩)),.inr (.bool spent),.inr (.string ⟨f0.toArray⟩),.inr (.pointer (some ⟨b,11,none⟩)),.inr (.slice aa k ac),.inr (.int .i64 (k:Int)),.inr (.string ⟨a1.toArray⟩),.inl (20,id),.inl (21,id),.inl (21,id)]:=⟨_,rfl⟩
 refine wp_plan (by kernel_rfl) T0 ds [3,6,9,12,15,19,20,21] roB_m (mkV W) (fun dx yx wx=>PW (dx 3) (dx 6) (dx 9) (dx 12) (dx 15) (dx 19) (dx 20) (dx 21) (yx 3) (yx 20) (yx 21) wx) w (by rw [hs];kernel_rfl) (by kernel_rfl) (by kernel_rfl) (by rw [hsz];decide) (fun cx hc ix hne ha yx vx=>mkV_fix (by rw [hV];kernel_rfl) hne ha yx vx) (?key) (fun cx hc ox ho dx yx Tx wx hd hdb hda hK hW=>?_) ⟨fun k=>if k=3 then t53 else if k=20 then t70 else if k=21 then t71 else undef,w0⟩ (fun dx yx wx hd hW=>?_)
 case key=>
  rw [hsz]
  refine all_step (all_step (all_step (all_step (all_step (all_step (all_step (all_step (all_step (all_step (all_step (all_step (all_step (all_step (all_step (all_step (all_step (all_step (all_step (all_step (all_step (all_step (all_step all_zero ?_) ?_) ?_) ?_) ?_) ?_) ?_) ?_) ?_) ?_) ?_) ?_) ?_) ?_) ?_) ?_) ?_) ?_) ?_) ?_) ?_) ?_) ?_
  all_goals
   intro ox ho hic dx yx Tx wx hdb hK hW
   replace hdb:=Lib.hid hdb
  ·obtain⟨ps,af,rfl⟩:=core (some 50) (.move (.tmp 6)) 29 none ho
   have e6:Tx.getD 6 undef=sv:=hK.of2 (x:=50) ho (by kernel_rfl) (by kernel_rfl) g6
   exact wpOp_plain ho rfl (by subst hV;go_simp;try rfl)
  ·exact pl0 51 5 0 ho hK g5 fun ps af e=>k_fa31_6 e
  ·exact pl1 52 51 1 29 ho hK fun ps af e=>k_ld29 (k6 _ _ _ _ _ _ _ _ _ _ _ _ hW) e
  ·exact absurd (by decide) hic
  ·exact pl0 54 5 0 ho hK g5 fun ps af e=>k_fa31_7 e
  ·exact pl1 55 54 4 3 ho hK fun ps af e=>k_ld3 (k7 _ _ _ _ _ _ _ _ _ _ _ _ hW) e
  ·exact absurd (by decide) hic
  ·exact pl0 57 5 0 ho hK g5 fun ps af e=>k_fa31_8 e
  ·exact pl1 58 57 7 3 ho hK fun ps af e=>k_ld3 (k8 _ _ _ _ _ _ _ _ _ _ _ _ hW) e
  ·exact absurd (by decide) hic
  ·exact pl0 60 5 0 ho hK g5 fun ps af e=>k_fa31_9 e
  ·exact pl1 61 60 10 4 ho hK fun ps af e=>k_ld4 (k9 _ _ _ _ _ _ _ _ _ _ _ _ hW) e
  ·exact absurd (by decide) hic
  ·exact pl0 63 5 0 ho hK g5 fun ps af e=>k_fa31_10 e
  ·exact pl1 64 63 13 4 ho hK fun ps af e=>k_ld4 (k0 _ _ _ _ _ _ _ _ _ _ _ _ hW) e
  ·exact absurd (by decide) hic
  ·exact pl0 66 5 0 ho hK g5 fun ps af e=>k_fa31_11 e
  ·exact pl1 67 66 16 29 ho hK fun ps af e=>k_ld29 (k11 _ _ _ _ _ _ _ _ _ _ _ _ hW) e
  ·obtain⟨ps,af,rfl⟩:=core (some 68) (.call {callee:= .builtin Builtin.len,args:=#[.tmp 67],argTypes:=#[29]}) 3 none ho
   have e67:Tx.getD 67 undef = .slice aa k ac:=hK.is 17 ho
   exact wpOp_plain ho rfl (by subst hV;go_simp;try rfl)
  ·exact absurd (by decide) hic
  ·exact absurd (by decide) hic
  ·exact absurd (by decide) hic
  ·exact pl1 6 71 21 29 ho hK fun ps af e=>k_as e
 ·have hcase:cx=3∨cx=6∨cx=9∨cx=12∨cx=15∨cx=19∨cx=20∨cx=21:=by simpa using hc
  rcases hcase with rfl | rfl | rfl | rfl | rfl | rfl | rfl | rfl
  ·obtain⟨ps,af,rfl⟩:=core (some 53) (.call {callee:= .builtin Builtin.append,args:=#[.tmp 50,.tmp 52],argTypes:=#[29,29]}) 29 none ho
   have e50:Tx.getD 50 undef=sv:=hK.is 0 ho
   have e52:Tx.getD 52 undef = .slice sa m sc:=hK.is 2 ho
   have hW1:PW (dx 3) (dx 6) (dx 9) (dx 12) (dx 15) (dx 19) (dx 20) (dx 21) (yx 3) (yx 20) (yx 21) wx:=hW
   have f6:=hq hda 6
   have f9:=hq hda 9
   have f12:=hq hda 12
   have f15:=hq hda 15
   have f19:=hq hda 19
   have f20:=hq hda 20
   have f21:=hq hda 21
   clear hdb hda
   rw [hd,f6.out,f9.out,f12.out,f15.out,f19.out,f20.out,f21.out] at hW1
   clear hd hW hc
   obtain⟨vx,w2,hrun,hW2⟩:=cl3 _ _ _ _ hW1
   subst hV
   refine wpOp_plain ho rfl (wp_append_runE _ _ _ _ rfl _ _ (by first | exact e50 | rfl) (by first | exact e52 | rfl) vx w2 hrun ⟨vx,rfl,?_⟩)
   simpa [updB,upd,f6.out,f9.out,f12.out,f15.out,f19.out,f20.out,f21.out] using hW2
  ·obtain⟨ps,af,rfl⟩:=core (some 56) (.call {callee:= .value (.func 55),args:=#[.tmp 55],argTypes:=#[3]}) 9 none ho
   have e55:Tx.getD 55 undef = .int .i64 born:=hK.is 5 ho
   have hW1:PW (dx 3) (dx 6) (dx 9) (dx 12) (dx 15) (dx 19) (dx 20) (dx 21) (yx 3) (yx 20) (yx 21) wx:=hW
   have f3:=hq hdb 3
   have f9:=hq hda 9
   have f12:=hq hda 12
   have f15:=hq hda 15
   have f19:=hq hda 19
   have f20:=hq hda 20
   have f21:=hq hda 21
   clear hdb hda
   rw [hd,f3.out,f9.out,f12.out,f15.out,f19.out,f20.out,f21.out] at hW1
   clear hd hW hc
   refine wpOp_plain ho rfl ?_
   go_simp
   go_at_call 55
   refine(cl6 _ _ _ _ hW1).mono ?_
   rintro ex w2 ⟨rfl,hW2⟩
   subst hV
   first | refine⟨undef,rfl,?_⟩ | refine⟨⟨undef,rfl⟩,?_⟩
   simpa [updB,upd,f3.out,f9.out,f12.out,f15.out,f19.out,f20.out,f21.out] using hW2
  ·obtain⟨ps,af,rfl⟩:=core (some 59) (.call {callee:= .value (.func 55),args:=#[.tmp 58],argTypes:=#[3]}) 9 none ho
   have e58:Tx.getD 58 undef = .int .i64 exp:=hK.is 8 ho
   have hW1:PW (dx 3) (dx 6) (dx 9) (dx 12) (dx 15) (dx 19) (dx 20) (dx 21) (yx 3) (yx 20) (yx 21) wx:=hW
   have f3:=hq hdb 3
   have f6:=hq hdb 6
   have f12:=hq hda 12
   have f15:=hq hda 15
   have f19:=hq hda 19
   have f20:=hq hda 20
   have f21:=hq hda 21
   clear hdb hda
   rw [hd,f3.out,f6.out,f12.out,f15.out,f19.out,f20.out,f21.out] at hW1
   clear hd hW hc
   refine wpOp_plain ho rfl ?_
   go_simp
   go_at_call 55
   refine(cl9 _ _ _ _ hW1).mono ?_
   rintro ex w2 ⟨rfl,hW2⟩
   subst hV
   first | refine⟨undef,rfl,?_⟩ | refine⟨⟨undef,rfl⟩,?_⟩
   simpa [updB,upd,f3.out,f6.out,f12.out,f15.out,f19.out,f20.out,f21.out] using hW2
  ·obtain⟨ps,af,rfl⟩:=core (some 62) (.call {callee:= .value (.func 56),args:=#[.tmp 61],argTypes:=#[4]}) 9 none ho
   have e61:Tx.getD 61 undef = .bool dead:=hK.is 11 ho
   have hW1:PW (dx 3) (dx 6) (dx 9) (dx 12) (dx 15) (dx 19) (dx 20) (dx 21) (yx 3) (yx 20) (yx 21) wx:=hW
   have f3:=hq hdb 3
   have f6:=hq hdb 6
   have f9:=hq hdb 9
   have f15:=hq hda 15
   have f19:=hq hda 19
   have f20:=hq hda 20
   have f21:=hq hda 21
   clear hdb hda
   rw [hd,f3.out,f6.out,f9.out,f15.out,f19.out,f20.out,f21.out] at hW1
   clear hd hW hc
   refine wpOp_plain ho rfl ?_
   go_simp
   go_at_call 56
   refine(cl12 _ _ _ _ hW1).mono ?_
   rintro ex w2 ⟨rfl,hW2⟩
   subst hV
   first | refine⟨undef,rfl,?_⟩ | refine⟨⟨undef,rfl⟩,?_⟩
   simpa [updB,upd,f3.out,f6.out,f9.out,f15.out,f19.out,f20.out,f21.out] using hW2
  ·obtain⟨ps,af,rfl⟩:=core (some 65) (.call {callee:= .value (.func 56),args:=#[.tmp 64],argTypes:=#[4]}) 9 none ho
   have e64:Tx.getD 64 undef = .bool spent:=hK.is 14 ho
   have hW1:PW (dx 3) (dx 6) (dx 9) (dx 12) (dx 15) (dx 19) (dx 20) (dx 21) (yx 3) (yx 20) (yx 21) wx:=hW
   have f3:=hq hdb 3
   have f6:=hq hdb 6
   have f9:=hq hdb 9
   have f12:=hq hdb 12
   have f19:=hq hda 19
   have f20:=hq hda 20
   have f21:=hq hda 21
   clear hdb hda
   rw [hd,f3.out,f6.out,f9.out,f12.out,f19.out,f20.out,f21.out] at hW1
   clear hd hW hc
   refine wpOp_plain ho rfl ?_
   go_simp
   go_at_call 56
   refine(cl15 _ _ _ _ hW1).mono ?_
   rintro ex w2 ⟨rfl,hW2⟩
   subst hV
   first | refine⟨undef,rfl,?_⟩ | refine⟨⟨undef,rfl⟩,?_⟩
   simpa [updB,upd,f3.out,f6.out,f9.out,f12.out,f19.out,f20.out,f21.out] using hW2
  ·obtain⟨ps,af,rfl⟩:=core (some 69) (.call {callee:= .value (.func 55),args:=#[.tmp 68],argTypes:=#[3]}) 9 none ho
   have e68:Tx.getD 68 undef = .int .i64 (k:Int):=hK.is 18 ho
   have hW1:PW (dx 3) (dx 6) (dx 9) (dx 12) (dx 15) (dx 19) (dx 20) (dx 21) (yx 3) (yx 20) (yx 21) wx:=hW
   have f3:=hq hdb 3
   have f6:=hq hdb 6
   have f9:=hq hdb 9
   have f12:=hq hdb 12
   have f15:=hq hdb 15
   have f20:=hq hda 20
   have f21:=hq hda 21
   clear hdb hda
   rw [hd,f3.out,f6.out,f9.out,f12.out,f15.out,f20.out,f21.out] at hW1
   clear hd hW hc
   refine wpOp_plain ho rfl ?_
   go_simp
   go_at_call 55
   refine(cl19 _ _ _ _ hW1).mono ?_
   rintro ex w2 ⟨rfl,hW2⟩
   subst hV
   first | refine⟨undef,rfl,?_⟩ | refine⟨⟨undef,rfl⟩,?_⟩
   simpa [updB,upd,f3.out,f6.out,f9.out,f12.out,f15.out,f20.out,f21.out] using hW2
  ·obtain⟨ps,af,rfl⟩:=core (some 70) (.buildSlice 29 5 #[(0,.tmp 56),(1,.tmp 59),(2,.tmp 62),(3,.tmp 65),(4,.tmp 69)]) 29 none ho
   have e56:Tx.getD 56 undef = .string ⟨a7.toArray⟩:=hK.is 6 ho
   have e59:Tx.getD 59 undef = .string ⟨a8.toArray⟩:=hK.is 9 ho
   have e62:Tx.getD 62 undef = .string ⟨f9.toArray⟩:=hK.is 12 ho
   have e65:Tx.getD 65 undef = .string ⟨f0.toArray⟩:=hK.is 15 ho
   have e69:Tx.getD 69 undef = .string ⟨a1.toArray⟩:=hK.is 19 ho
   have hW1:PW (dx 3) (dx 6) (dx 9) (dx 12) (dx 15) (dx 19) (dx 20) (dx 21) (yx 3) (yx 20) (yx 21) wx:=hW
   have f3:=hq hdb 3
   have f6:=hq hdb 6
   have f9:=hq hdb 9
   have f12:=hq hdb 12
   have f15:=hq hdb 15
   have f19:=hq hdb 19
   have f21:=hq hda 21
   clear hdb hda
   rw [hd,f3.out,f6.out,f9.out,f12.out,f15.out,f19.out,f21.out] at hW1
   clear hd hW hc
   have hW2:=cl20 _ _ _ _ hW1
   simp only [Array.getD_eq_getD_getElem?] at e56 e59 e62 e65 e69
   subst hV
   refine wpOp_plain ho rfl ?_
   go_simp
   refine⟨_,rfl,?_⟩
   simpa [updB,upd,f3.out,f6.out,f9.out,f12.out,f15.out,f19.out,f21.out] using hW2
  ·obtain⟨ps,af,rfl⟩:=core (some 71) (.call {callee:= .builtin Builtin.append,args:=#[.tmp 53,.tmp 70],argTypes:=#[29,29]}) 29 none ho
   have e53:Tx.getD 53 undef=yx 3:=hK.is 3 ho
   have e70:Tx.getD 70 undef=yx 20:=hK.is 20 ho
   have hW1:PW (dx 3) (dx 6) (dx 9) (dx 12) (dx 15) (dx 19) (dx 20) (dx 21) (yx 3) (yx 20) (yx 21) wx:=hW
   have f3:=hq hdb 3
   have f6:=hq hdb 6
   have f9:=hq hdb 9
   have f12:=hq hdb 12
   have f15:=hq hdb 15
   have f19:=hq hdb 19
   have f20:=hq hdb 20
   clear hdb hda
   rw [hd,f3.out,f6.out,f9.out,f12.out,f15.out,f19.out,f20.out] at hW1
   clear hd hW hc
   obtain⟨vx,w2,hrun,hW2⟩:=cl21 _ _ _ _ hW1
   subst hV
   refine wpOp_plain ho rfl (wp_append_runE _ _ _ _ rfl _ _ (by first | exact e53 | rfl) (by first | exact e70 | rfl) vx w2 hrun ⟨vx,rfl,?_⟩)
   simpa [updB,upd,f3.out,f6.out,f9.out,f12.out,f15.out,f19.out,f20.out] using hW2
 ·have hW1:PW (dx 3) (dx 6) (dx 9) (dx 12) (dx 15) (dx 19) (dx 20) (dx 21) (yx 3) (yx 20) (yx 21) wx:=hW
  rw [hd 3 (by decide),hd 6 (by decide),hd 9 (by decide),hd 12 (by decide),hd 15 (by decide),hd 19 (by decide),hd 20 (by decide),hd 21 (by decide)] at hW1
  have hQ:=h _ _ _ _ hW1
  rw [hsz]
  subst hV hT
  refine cast (congrArg (fun Tx=>Q .normal ⟨Tx,ds⟩ wx) ?_) hQ
  kernel_rfl
noncomputable def roCO:Array Oper:=(Tryz.f20.body.bind fun c=>findR c 8).getD #[]
def roC_m:List (List Nat):=[[],[],[],[],[],[],[3],[],[],[],[],[3,6],[3,6,11],[3,6,11,12]]
set_option maxHeartbeats 16000000 in
theorem roC (PW:Bool→Bool→Bool→Bool→Value→Value→Value→World→Prop)(b:Nat)(sv:Value)(aa:Option Addr)(k ac:Nat)(level:Int)(a2 s3 s4:List UInt8)(w:World)  (k11:∀(b3 b6 b11 b12:Bool) (y3 y11 y12:Value) (w:World),PW b3 b6 b11 b12 y3 y11 y12 w→w.cell? ⟨b,11,none⟩=some (.slice aa k ac))(k12:∀(b3 b6 b11 b12:Bool) (y3 y11 y12:Value) (w:World),PW b3 b6 b11 b12 y3 y11 y12 w→w.cell? ⟨b,12,none⟩=some (.int .i64 level))(k13:∀(b3 b6 b11 b12:Bool) (y3 y11 y12:Value) (w:World),PW b3 b6 b11 b12 y3 y11 y12 w→w.cell? ⟨b,13,none⟩=some (.string ⟨s3.toArray⟩))(k14:∀(b3 b6 b11 b12:Bool) (y3 y11 y12:Value) (w:World),PW b3 b6 b11 b12 y3 y11 y12 w→w.cell? ⟨b,14,none⟩=some (.string ⟨s4.toArray⟩))(cl3:∀(y3 y11 y12:Value) (w:World),PW false false false false y3 y11 y12 w→∃v w',(Builtin.append_ #[29,29] 29 #[sv,.slice aa k ac]).run Tryz.prog w = .ok v w'∧PW true false false false v y11 y12 w')(cl6:∀(y3 y11 y12:Value) (w:World),PW true false false false y3 y11 y12 w→Calls Tryz.prog 55 #[.int .i64 level] w fun e w1=>e = .returned (.string ⟨a2.toArray⟩)∧PW true true false false y3 y11 y12 w1)(cl11:∀(y3 y11 y12:Value) (w:World),PW true true false false y3 y11 y12 w→PW true true true false y3 (.slice (some ⟨w.heap.size,0,none⟩) 3 3) y12 (w.alloc (.cells #[.string ⟨a2.toArray⟩,.string ⟨s3.toArray⟩,.string ⟨s4.toArray⟩] 9)))(cl12:∀(y3 y11 y12:Value) (w:World),PW true true true false y3 y11 y12 w→∃v w',(Builtin.append_ #[29,29] 29 #[y3,y11]).run Tryz.prog w = .ok v w'∧PW true true true true y3 y11 v w'){t0 t1 t2 t3 t4 t7 t8 t9 t10 t11 t12 t13 t14 t15 t16 t17 t18 t19 t20 t21 t22 t23 t24 t25 t26 t27 t28 t29 t30 t31 t32 t33 t34 t35 t36 t37 t38 t39 t40 t41 t42 t43 t44 t45 t46 t47 t48 t49 t50 t51 t52 t53 t54 t55 t56 t57 t58 t59 t60 t61 t62 t63 t64 t65 t66 t67 t68 t69 t70 t71 t72 t73 t74 t75 t76 t77 t78 t79 t80 t81 t82 t83 t84 t85 t86 t87 t88 t89 t90 t91 t92 t93 t94 t95 t96 t97 t98 t99 t100 t101:Value}(w0:PW false false false false t75 t83 t84 w.drew){ds:List Deferred}{Q:Exit→Act→World→Prop}
  (h:∀(y3 y11 y12:Value) (w1:World),PW true true true true y3 y11 y12 w1→Q .normal {tmps:=#[t0,t1,t2,t3,t4,.pointer (some ⟨b,0,none⟩),y12,t7,t8,t9,t10,t11,t12,t13,t14,t15,t16,t17,t18,t19,t20,t21,t22,t23,t24,t25,t26,t27,t28,t29,t30,t31,t32,t33,t34,t35,t36,t37,t38,t39,t40,t41,t42,t43,t44,t45,t46,t47,t48,t49,t50,t51,t52,t53,t54,t55,t56,t57,t58,t59,t60,t61,t62,t63,t64,t65,t66,t67,t68,t69,t70,t71,sv,.pointer (some ⟨b,11,none⟩),.slice aa k ac,y3,.pointer (some ⟨b,12,none⟩),.int .i64 level,.string ⟨a2.toArray⟩,.pointer (some ⟨b,13,none⟩),.string ⟨s3.toArray⟩,.pointer (some ⟨b,14,none⟩),.string ⟨s4.toArray⟩,y11,y12,t85,t86,t87,t88,t89,t90,t91,t92,t93,t94,t95,t96,t97,t98,t99,t100,t101],defers:=ds} w1) :
  (Code.region 8 roCO true).wp Tryz.prog Q {tmps:=#[t0,t1,t2,t3,t4,.pointer (some ⟨b,0,none⟩),sv,t7,t8,t9,t10,t11,t12,t13,t14,t15,t16,t17,t18,t19,t20,t21,t22,t23,t24,t25,t26,t27,t28,t29,t30,t31,t32,t33,t34,t35,t36,t37,t38,t39,t40,t41,t42,t43,t44,t45,t46,t47,t48,t49,t50,t51,t52,t53,t54,t55,t56,t57,t58,t59,t60,t61,t62,t63,t64,t65,t66,t67,t68,t69,t70,t71,t72,t73,t74,t75,t76,t77,t78,t79,t80,t81,t82,t83,t84,t85,t86,t87,t88,t89,t90,t91,t92,t93,t94,t95,t96,t97,t98,t99,t100,t101],defers:=ds} w:=by
 have hsz:roCO.size=14:=by kernel_rfl
 generalize hT:List.toArray _=T0
 have hs:T0.size=102:=by subst hT;rfl
 have g5:T0.getD 5 undef = .pointer (some ⟨b,0,none⟩):=by subst hT;rfl
 have g6:T0.getD 6 undef=sv:=by subst hT;rfl
 obtain⟨W,hV⟩:∃W:List ((Nat×(Value→Value)) ⊕ Value),W=[.inr (sv),.inr (.pointer (some ⟨b,11,none⟩)),.inr (.slice aa k ac),.inl (3,id),.inr (.pointer (some ⟨b,12,none⟩)),.inr (.int .i64 level),.inr (.string ⟨a2.toArray⟩),.inr (.pointer (some ⟨b,13,none⟩)),.inr (.string ⟨s3.toArray⟩),.inr (.pointer (some ⟨b,14,none⟩)),.inr (.string ⟨s4.toArray⟩),.inl (11,id),.inl (12,id),.inl (12,id)]:=⟨_,rfl⟩
 refine wp_plan (by kernel_rfl) T0 ds [3,6,11,12] roC_m (mkV W) (fun dx yx wx=>PW (dx 3) (dx 6) (dx 11) (dx 12) (yx 3) (yx 11) (yx 12) wx) w (by rw [hs];kernel_rfl) (by kernel_rfl) (by kernel_rfl) (by rw [hsz];decide) (fun cx hc ix hne ha yx vx=>mkV_fix (by rw [hV];kernel_rfl) hne ha yx vx) (?key) (fun cx hc ox ho dx yx Tx wx hd hdb hda hK hW=>?_) ⟨fun k=>if k=3 then t75 else if k=11 then t83 else if k=12 then t84 else undef,w0⟩ (fun dx yx wx hd hW=>?_)
 case key=>
  rw [hsz]
  refine all_step (all_step (all_step (all_step (all_step (all_step (all_step (all_step (all_step (all_step (all_step (all_step (all_step (all_step all_zero ?_) ?_) ?_) ?_) ?_) ?_) ?_) ?_) ?_) ?_) ?_) ?_) ?_) ?_
  all_goals
   intro ox ho hic dx yx Tx wx hdb hK hW
   replace hdb:=Lib.hid hdb
  ·obtain⟨ps,af,rfl⟩:=core (some 72) (.move (.tmp 6)) 29 none ho
   have e6:Tx.getD 6 undef=sv:=hK.of2 (x:=72) ho (by kernel_rfl) (by kernel_rfl) g6
   exact wpOp_plain ho rfl (by subst hV;go_simp;try rfl)
  ·exact pl0 73 5 0 ho hK g5 fun ps af e=>k_fa31_11 e
  ·exact pl1 74 73 1 29 ho hK fun ps af e=>k_ld29 (k11 _ _ _ _ _ _ _ _ hW) e
  ·exact absurd (by decide) hic
  ·exact pl0 76 5 0 ho hK g5 fun ps af e=>k_fa31_12 e
  ·exact pl1 77 76 4 3 ho hK fun ps af e=>k_ld3 (k12 _ _ _ _ _ _ _ _ hW) e
  ·exact absurd (by decide) hic
  ·exact pl0 79 5 0 ho hK g5 fun ps af e=>k_fa31_13 e
  ·exact pl1 80 79 7 9 ho hK fun ps af e=>k_ld9 (k13 _ _ _ _ _ _ _ _ hW) e
  ·exact pl0 81 5 0 ho hK g5 fun ps af e=>k_fa31_14 e
  ·exact pl1 82 81 9 9 ho hK fun ps af e=>k_ld9 (k14 _ _ _ _ _ _ _ _ hW) e
  ·exact absurd (by decide) hic
  ·exact absurd (by decide) hic
  ·exact pl1 6 84 12 29 ho hK fun ps af e=>k_as e
 ·have hcase:cx=3∨cx=6∨cx=11∨cx=12:=by simpa using hc
  rcases hcase with rfl | rfl | rfl | rfl
  ·obtain⟨ps,af,rfl⟩:=core (some 75) (.call {callee:= .builtin Builtin.append,args:=#[.tmp 72,.tmp 74],argTypes:=#[29,29]}) 29 none ho
   have e72:Tx.getD 72 undef=sv:=hK.is 0 ho
   have e74:Tx.getD 74 undef = .slice aa k ac:=hK.is 2 ho
   have hW1:PW (dx 3) (dx 6) (dx 11) (dx 12) (yx 3) (yx 11) (yx 12) wx:=hW
   have f6:=hq hda 6
   have f11:=hq hda 11
   have f12:=hq hda 12
   clear hdb hda
   rw [hd,f6.out,f11.out,f12.out] at hW1
   clear hd hW hc
   obtain⟨vx,w2,hrun,hW2⟩:=cl3 _ _ _ _ hW1
   subst hV
   refine wpOp_plain ho rfl (wp_append_runE _ _ _ _ rfl _ _ (by first | exact e72 | rfl) (by first | exact e74 | rfl) vx w2 hrun ⟨vx,rfl,?_⟩)
   simpa [updB,upd,f6.out,f11.out,f12.out] using hW2
  ·obtain⟨ps,af,rfl⟩:=core (some 78) (.call {callee:= .value (.func 55),args:=#[.tmp 77],argTypes:=#[3]}) 9 none ho
   have e77:Tx.getD 77 undef = .int .i64 level:=hK.is 5 ho
   have hW1:PW (dx 3) (dx 6) (dx 11) (dx 12) (yx 3) (yx 11) (yx 12) wx:=hW
   have f3:=hq hdb 3
   have f11:=hq hda 11
   have f12:=hq hda 12
   clear hdb hda
   rw [hd,f3.out,f11.out,f12.out] at hW1
   clear hd hW hc
   refine wpOp_plain ho rfl ?_
   go_simp
   go_at_call 55
   refine(cl6 _ _ _ _ hW1).mono ?_
   rintro ex w2 ⟨rfl,hW2⟩
   subst hV
   first | refine⟨undef,rfl,?_⟩ | refine⟨⟨undef,rfl⟩,?_⟩
   simpa [updB,upd,f3.out,f11.out,f12.out] using hW2
  ·obtain⟨ps,af,rfl⟩:=core (some 83) (.buildSlice 29 3 #[(0,.tmp 78),(1,.tmp 80),(2,.tmp 82)]) 29 none ho
   have e78:Tx.getD 78 undef = .string ⟨a2.toArray⟩:=hK.is 6 ho
   have e80:Tx.getD 80 undef = .string ⟨s3.toArray⟩:=hK.is 8 ho
   have e82:Tx.getD 82 undef = .string ⟨s4.toArray⟩:=hK.is 10 ho
   have hW1:PW (dx 3) (dx 6) (dx 11) (dx 12) (yx 3) (yx 11) (yx 12) wx:=hW
   have f3:=hq hdb 3
   have f6:=hq hdb 6
   have f12:=hq hda 12
   clear hdb hda
   rw [hd,f3.out,f6.out,f12.out] at hW1
   clear hd hW hc
   have hW2:=cl11 _ _ _ _ hW1
   simp only [Array.getD_eq_getD_getElem?] at e78 e80 e82
   subst hV
   refine wpOp_plain ho rfl ?_
   go_simp
   refine⟨_,rfl,?_⟩
   simpa [updB,upd,f3.out,f6.out,f12.out] using hW2
  ·obtain⟨ps,af,rfl⟩:=core (some 84) (.call {callee:= .builtin Builtin.append,args:=#[.tmp 75,.tmp 83],argTypes:=#[29,29]}) 29 none ho
   have e75:Tx.getD 75 undef=yx 3:=hK.is 3 ho
   have e83:Tx.getD 83 undef=yx 11:=hK.is 11 ho
   have hW1:PW (dx 3) (dx 6) (dx 11) (dx 12) (yx 3) (yx 11) (yx 12) wx:=hW
   have f3:=hq hdb 3
   have f6:=hq hdb 6
   have f11:=hq hdb 11
   clear hdb hda
   rw [hd,f3.out,f6.out,f11.out] at hW1
   clear hd hW hc
   obtain⟨vx,w2,hrun,hW2⟩:=cl12 _ _ _ _ hW1
   subst hV
   refine wpOp_plain ho rfl (wp_append_runE _ _ _ _ rfl _ _ (by first | exact e75 | rfl) (by first | exact e83 | rfl) vx w2 hrun ⟨vx,rfl,?_⟩)
   simpa [updB,upd,f3.out,f6.out,f11.out] using hW2
 ·have hW1:PW (dx 3) (dx 6) (dx 11) (dx 12) (yx 3) (yx 11) (yx 12) wx:=hW
  rw [hd 3 (by decide),hd 6 (by decide),hd 11 (by decide),hd 12 (by decide)] at hW1
  have hQ:=h _ _ _ _ hW1
  rw [hsz]
  subst hV hT
  refine cast (congrArg (fun Tx=>Q .normal ⟨Tx,ds⟩ wx) ?_) hQ
  kernel_rfl
end Go.Proofs.YthogppennalobaaGreatDoor.Pl
namespace Go.Proofs.YthogppennalobaaGreatDoor
open Go.RowKit Go.Sort Forest OwnR TxO Pl
open Go.Lib renaming hid→Φ
theorem appL {w0 W:World}{v:Value}{L:List Bs}(ty:TypeId)(h:Lw 9 1 w0 W v L.length (L.map txt)){x:Value}{l:List Bs}(hx:Rd W x l)(hl:L.length+l.length≤1000000):
  ∃v' w',(Builtin.append_ #[29,29] ty #[v,x]).run Tryz.prog W = .ok v' w'∧Lw 9 1 w0 w' v' (L++l).length ((L++l).map txt):=by
 obtain⟨v',w',h1,h2,_⟩:=h.appR ty hx (by omega)
 exact⟨v',w',h1,by rw [List.length_append,List.map_append];exact h2⟩
theorem new_rd (w:World)(L:List Bs): Rd (w.alloc (.cells (L.map txt).toArray 9)) (.slice (some ⟨w.heap.size,0,none⟩) L.length L.length) L:=
 ⟨_,_,rfl,fun i hi=>⟨_,_,rfl,by
  have hk:Bk 9 (w.alloc (.cells (L.map txt).toArray 9)) w.heap.size (L.map txt).toArray:=Bk.new rfl
  rw [Nat.zero_add,hk.cell i]
  simp [hi]⟩⟩
theorem new_lw {w0 w:World}(hb:Below w0.heap.size w0 w)(L:List Bs)(hL:L.length≤1000): Lw 9 1 w0 (w.alloc (.cells (L.map txt).toArray 9)) (.slice (some ⟨w.heap.size,0,none⟩) L.length L.length) L.length (L.map txt):=
 ⟨⟨by simp,.inr ⟨w.heap.size,L.length,(L.map txt).toArray,rfl,Nat.zero_le _,Go.heap_alloc_new w _,Nat.le_refl _,by unfold maxLen;omega,by simp,by simp;exact List.take_of_length_le (by simp)⟩⟩,hb.trans ((show Below w.heap.size w (w.alloc (.cells (L.map txt).toArray 9)) by go_grown).mono hb.size),fun k hk=>by
  have:w.heap.size=k:=Option.some.inj hk
  have:=hb.size
  omega⟩
theorem rnumI (x:Int)(h0:0≤x)(h:x<1000000000000000000)(w:World): Calls Tryz.prog 55 #[.int .i64 x] w fun e w'=>e = .returned (.string ⟨(Lib.itoa x).toArray⟩)∧Below w.heap.size w w':=by
 obtain⟨u,rfl⟩:=Int.eq_ofNat_of_zero_le h0
 rw [Lib.itoa_nonneg]
 exact rnum_any u (by omega) w
theorem Lw.rdL {w0 w:World}{v:Value}{L:List Bs}(h:Lw 9 1 w0 w v L.length (L.map txt)): Rd w v L:=(Tx.of h.1).rd
theorem nodeT_parts (n:Nd): nodeT n=((([Lib.itoa n.kind,Lib.itoa (n.parent:Int),n.subject,n.client,n.audience,Lib.itoa (n.scope.length:Int)]++n.scope)++[Lib.itoa n.born,Lib.itoa n.exp,flagT n.dead,flagT n.spent,Lib.itoa (n.actors.length:Int)])++n.actors)++[Lib.itoa n.level,n.secret,n.data]:=by
 rw [nodeT_eq]
 unfold listedL
 simp [Lib.itoa_nonneg]
set_option maxHeartbeats 16000000 in
theorem rrows_any {w:World}{g:Nat}{rs:List (Nd×Value×Value)}{x:Nat}(h:Xr w g rs (x:Int))(hi:Inv (nds rs) (x:Int)): Calls Tryz.prog 20 #[.pointer (some ⟨g,0,none⟩)] w fun e w'=>∃v,e = .returned v∧Below w.heap.size w w'∧Rp w' v (rowsP (nds rs) x):=by
 obtain⟨v,k1,k2⟩:=h
 obtain⟨a,c,rfl⟩:=k2.shape
 have HG:=Φ k1
 have HN:=Φ k2
 have HI:=Φ hi
 have hxb:x<1000000000000000000:=by have:=hi.most;omega
 have HNX:=Φ (fun W=>rnum_any x hxb W)
 obtain⟨N,hN⟩:∃N,N=rs.length:=⟨_,rfl⟩
 have HNN:=Φ hN
 have hN2:N≤256:=by rw [hN];have:=hi.few;simpa [nds] using this
 rw [← hN] at HG
 clear k1 k2 hi hN
 have d1:w.cell? ⟨g,1,none⟩=some (.int .i64 (x:Int)):=HG.out.cell 1
 go_enter Tryz.func20,Tryz.ntmps20
 go_wp2_with fail
 refine(HNX.out w).mono ?_
 rintro e w2 ⟨rfl,hb2⟩
 have B2:=Φ hb2
 obtain⟨W2,hW2⟩:∃z,z=w2.alloc (.cells #[.string ⟨(Lib.decDigits x).toArray⟩] 9):=⟨_,rfl⟩
 have R2:Hid (Rd W2 (.slice (some ⟨w2.heap.size,0,none⟩) 1 1) [Lib.decDigits x]):=Φ (by rw [hW2];exact new_rd w2 [Lib.decDigits x])
 have B3:Hid (Below w.heap.size w W2):=Φ (by rw [hW2];exact hb2.trans ((show Below w2.heap.size w2 _ by go_grown).mono hb2.size))
 have hdl:(Lib.decDigits x).length≤18:=dec_len 17 x (by omega)
 have HF:=Φ (rform_any [Lib.decDigits x] (by simp) (by
  have:=form_small [Lib.decDigits x] (fun s hs=>by rw [List.mem_singleton] at hs;subst hs;omega)
  simp only [List.length_singleton] at this
  omega) (by simp) W2 _ R2.out)
 have HNP:Hid (nextP x=formL [Lib.decDigits x]):=Φ (by unfold nextP numsL;rw [List.map_singleton,Lib.itoa_nonneg])
 have HW2:=Φ hW2
 clear hb2 hW2 d1 hdl
 go_wp2_with (rw [← HW2.out])
 refine HF.out.mono ?_
 rintro e w3 ⟨rfl,hb3⟩
 have B4:=Φ (B3.out.trans (hb3.mono B3.out.size))
 rw [← HNP.out]
 obtain⟨W4,hW4⟩:∃z,z=w3.alloc (.cells #[.string ⟨#[102,111,114,101,115,116]⟩,.string ⟨(nextP x).toArray⟩] 47):=⟨_,rfl⟩
 have H4:Hid (Lw 47 2 w W4 (.slice (some ⟨w3.heap.size,0,none⟩) 1 1) 1 ((rowsP ((nds rs).take 0) x).flatMap pairC)):=Φ (by
  rw [hW4]
  exact⟨⟨by simp [rowsP,pairC],.inr ⟨w3.heap.size,1,_,rfl,Nat.zero_le _,Go.heap_alloc_new w3 _,Nat.le_refl _,by decide,rfl,rfl⟩⟩,B4.out.trans ((show Below w3.heap.size w3 _ by go_grown).mono B4.out.size),fun k hk=>by
   have:w3.heap.size=k:=Option.some.inj hk
   have:=B4.out.size
   omega⟩)
 have HW4:=Φ hW4
 clear hb3 HF hW4 HNP HNX HW2 R2 B3 B2
 go_wp2_with (rw [← HW4.out])
 go_loopw [3,4] (fun ov iv wr=>∃i:Nat,i≤N∧iv = .int .i64 (i:Int)∧Hid (Lw 47 2 w wr ov (i+1) ((rowsP ((nds rs).take i) x).flatMap pairC))) (fun _ iv _=>N - (intOf iv).toNat)
 case atStart=>exact⟨0,Nat.zero_le _,rfl,H4⟩
 case round=>
  obtain⟨i,hi,rfl,HO⟩:=hrel
  obtain⟨w0r,hw0r⟩:∃y,y=wr:=⟨_,rfl⟩
  have HWR:=Φ hw0r
  clear hw0r
  clear H4 B4 HW4
  by_cases hlt:i<N
  ·have hltI:(i:Int)<(N:Int):=by omega
   have hil:i<rs.length:=by rw [← HNN.out];exact hlt
   obtain⟨⟨n,sv,av⟩,hz⟩:∃z,rs[i]'hil=z:=⟨_,rfl⟩
   have hmem:n∈nds rs:=List.mem_map.2 ⟨_,List.getElem_mem hil,by rw [hz]⟩
   have hN':=HN.out.below HO.out.2.1
   obtain⟨t1,t2⟩:=HN.out.2 _ (List.getElem_mem hil)
   rw [hz] at t1 t2
   dsimp only at t1 t2
   obtain⟨sa,sc,rfl⟩:=owns_shape t1
   obtain⟨aa,ac,rfl⟩:=owns_shape t2
   obtain⟨q,e,hc⟩:=hN'.cell hil
   have HSM:=Φ (may_small (HI.out.may n hmem))
   have hpar:n.parent≤99999999:=by have:=(HI.out.ok.mem hmem).2;have:=HI.out.good.2 n hmem;have:=HI.out.most;omega
   have hid:n.id≤99999999:=by have:=HI.out.good.2 n hmem;have:=HI.out.most;omega
   have HT:Hid ((rowsP ((nds rs).take (i+1)) x).flatMap pairC=(rowsP ((nds rs).take i) x).flatMap pairC++pairC (keyP n.id,formL (nodeT n))):=Φ (by
    have:=rowsP_take (nds rs) x (i:=i) (by simpa [nds] using hil)
    rw [this]
    have e2:(nds rs)[i]'(by simpa [nds] using hil)=n:=by simp [nds,hz]
    rw [e2])
   have d0:wr.cell? ⟨g,0,none⟩=some (.slice a N c):=(HG.out.below HO.out.2.1).cell 0
   rw [e] at d0
   have RS:Hid (∀V,Below wr.heap.size wr V→Rd V (.slice sa n.scope.length sc) n.scope):=Φ (fun V hV=>(t1.rd.below HO.out.2.1).below hV)
   have RA:Hid (∀V,Below wr.heap.size wr V→Rd V (.slice aa n.actors.length ac) n.actors):=Φ (fun V hV=>(t2.rd.below HO.out.2.1).below hV)
   have c0:wr.cell? ⟨q,i*15,none⟩=some (.int .i64 (n.id:Int)):=by have:=hc 0 (by omega);rwa [hz] at this
   have c1:wr.cell? ⟨q,i*15+1,none⟩=some (.int .i64 n.kind):=by have:=hc 1 (by omega);rwa [hz] at this
   have c2:wr.cell? ⟨q,i*15+2,none⟩=some (.int .i64 (n.parent:Int)):=by have:=hc 2 (by omega);rwa [hz] at this
   have c3:wr.cell? ⟨q,i*15+3,none⟩=some (.string ⟨n.subject.toArray⟩):=by have:=hc 3 (by omega);rwa [hz] at this
   have c4:wr.cell? ⟨q,i*15+4,none⟩=some (.string ⟨n.client.toArray⟩):=by have:=hc 4 (by omega);rwa [hz] at this
   have c5:wr.cell? ⟨q,i*15+5,none⟩=some (.string ⟨n.audience.toArray⟩):=by have:=hc 5 (by omega);rwa [hz] at this
   have c6:wr.cell? ⟨q,i*15+6,none⟩=some (.slice sa n.scope.length sc):=by have:=hc 6 (by omega);rwa [hz] at this
   have c7:wr.cell? ⟨q,i*15+7,none⟩=some (.int .i64 n.born):=by have:=hc 7 (by omega);rwa [hz] at this
   have c8:wr.cell? ⟨q,i*15+8,none⟩=some (.int .i64 n.exp):=by have:=hc 8 (by omega);rwa [hz] at this
   have c9:wr.cell? ⟨q,i*15+9,none⟩=some (.bool n.dead):=by have:=hc 9 (by omega);rwa [hz] at this
   have c10:wr.cell? ⟨q,i*15+10,none⟩=some (.bool n.spent):=by have:=hc 10 (by omega);rwa [hz] at this
   have c11:wr.cell? ⟨q,i*15+11,none⟩=some (.slice aa n.actors.length ac):=by have:=hc 11 (by omega);rwa [hz] at this
   have c12:wr.cell? ⟨q,i*15+12,none⟩=some (.int .i64 n.level):=by have:=hc 12 (by omega);rwa [hz] at this
   have c13:wr.cell? ⟨q,i*15+13,none⟩=some (.string ⟨n.secret.toArray⟩):=by have:=hc 13 (by omega);rwa [hz] at this
   have c14:wr.cell? ⟨q,i*15+14,none⟩=some (.string ⟨n.data.toArray⟩):=by have:=hc 14 (by omega);rwa [hz] at this
   clear hc hz t1 t2 hN' e hmem
   go_upto_region 6 with fail
   obtain⟨w1,hw1⟩:∃z,z=wr.alloc (.cells #[.int .i64 (n.id:Int),.int .i64 n.kind,.int .i64 (n.parent:Int),.string ⟨n.subject.toArray⟩,.string ⟨n.client.toArray⟩,.string ⟨n.audience.toArray⟩,.slice sa n.scope.length sc,.int .i64 n.born,.int .i64 n.exp,.bool n.dead,.bool n.spent,.slice aa n.actors.length ac,.int .i64 n.level,.string ⟨n.secret.toArray⟩,.string ⟨n.data.toArray⟩] 31):=⟨_,rfl⟩
   rw [← hw1]
   obtain⟨b,hb⟩:∃b,b=wr.heap.size:=⟨_,rfl⟩
   rw [← hb]
   have K:Hid (Bk 31 w1 b #[.int .i64 (n.id:Int),.int .i64 n.kind,.int .i64 (n.parent:Int),.string ⟨n.subject.toArray⟩,.string ⟨n.client.toArray⟩,.string ⟨n.audience.toArray⟩,.slice sa n.scope.length sc,.int .i64 n.born,.int .i64 n.exp,.bool n.dead,.bool n.spent,.slice aa n.actors.length ac,.int .i64 n.level,.string ⟨n.secret.toArray⟩,.string ⟨n.data.toArray⟩]):=Φ (by rw [hw1];exact Bk.new hb)
   have G1:Hid (Below wr.heap.size wr w1):=Φ (by rw [hw1];go_grown)
   have hsz:=HSM.out
   have q1:0≤n.kind∧n.kind<1000000000000000000:=by have:=hsz.kind;omega
   have q2:(0:Int)≤(n.parent:Int)∧(n.parent:Int)<1000000000000000000:=by omega
   have q3:n.scope.length≤16:=hsz.scope.1
   have q4:n.actors.length≤4:=hsz.actors.1
   have q5:0≤n.born∧n.born<1000000000000000000:=by have:=hsz.born;omega
   have q6:0≤n.exp∧n.exp<1000000000000000000:=by have:=hsz.exp;omega
   have q7:0≤n.level∧n.level<1000000000000000000:=by have:=hsz.level;omega
   have QQ:=Φ (And.intro q1 (And.intro q2 (And.intro q3 (And.intro q4 (And.intro q5 (And.intro q6 q7))))))
   clear q1 q2 q3 q4 q5 q6 q7 hsz hw1 hb d0 c0 c1 c2 c3 c4 c5 c6 c7 c8 c9 c10 c11 c12 c13 c14
   refine Pl.roA (fun b2 b5 b15 b16 y16 V=>Below w1.heap.size w1 V∧(b16=true→Lw 9 1 w1 V y16 [Lib.itoa n.kind,Lib.itoa (n.parent:Int),n.subject,n.client,n.audience,Lib.itoa (n.scope.length:Int)].length ([Lib.itoa n.kind,Lib.itoa (n.parent:Int),n.subject,n.client,n.audience,Lib.itoa (n.scope.length:Int)].map txt))) b sa n.scope.length sc n.kind (n.parent:Int) (Lib.itoa n.kind) (Lib.itoa (n.parent:Int)) n.subject n.client n.audience (Lib.itoa (n.scope.length:Int)) w1
    (fun _ _ _ _ _ V hV=>(K.out.below hV.1).cell 1) (fun _ _ _ _ _ V hV=>(K.out.below hV.1).cell 2) (fun _ _ _ _ _ V hV=>(K.out.below hV.1).cell 3) (fun _ _ _ _ _ V hV=>(K.out.below hV.1).cell 4) (fun _ _ _ _ _ V hV=>(K.out.below hV.1).cell 5) (fun _ _ _ _ _ V hV=>(K.out.below hV.1).cell 6)
    (fun _ V hV=>(rnumI n.kind QQ.out.1.1 QQ.out.1.2 V).mono fun e w' h=>⟨h.1,hV.1.trans (h.2.mono hV.1.size),(fun h=>by cases h)⟩)
    (fun _ V hV=>(rnumI (n.parent:Int) QQ.out.2.1.1 QQ.out.2.1.2 V).mono fun e w' h=>⟨h.1,hV.1.trans (h.2.mono hV.1.size),(fun h=>by cases h)⟩)
    (fun _ V hV=>(rnumI (n.scope.length:Int) (by omega) (by have:=QQ.out.2.2.1;omega) V).mono fun e w' h=>⟨h.1,hV.1.trans (h.2.mono hV.1.size),(fun h=>by cases h)⟩)
    (fun _ V hV=>⟨hV.1.trans ((show Below V.heap.size V _ by go_grown).mono hV.1.size),fun _=>new_lw hV.1 [Lib.itoa n.kind,Lib.itoa (n.parent:Int),n.subject,n.client,n.audience,Lib.itoa (n.scope.length:Int)] (by simp)⟩) ⟨(Below.refl _ _).drew,(fun h=>by cases h)⟩ ?_
   intro y16 w4 hw4
   have L4:=Φ (hw4.2 rfl)
   have BV4:=Φ hw4.1
   clear hw4
   obtain⟨T6,hT6⟩:∃z,z=[Lib.itoa n.kind,Lib.itoa (n.parent:Int),n.subject,n.client,n.audience,Lib.itoa (n.scope.length:Int)]:=⟨_,rfl⟩
   rw [← hT6] at L4
   obtain⟨T5,hT5⟩:∃z,z=[Lib.itoa n.born,Lib.itoa n.exp,flagT n.dead,flagT n.spent,Lib.itoa (n.actors.length:Int)]:=⟨_,rfl⟩
   obtain⟨T3,hT3⟩:∃z,z=[Lib.itoa n.level,n.secret,n.data]:=⟨_,rfl⟩
   have H65:=Φ (And.intro hT6 (And.intro hT5 hT3))
   have n6:T6.length=6:=by rw [hT6];rfl
   have n5:T5.length=5:=by rw [hT5];rfl
   have n3:T3.length=3:=by rw [hT3];rfl
   have HLN:=Φ (And.intro n6 (And.intro n5 n3))
   clear hT6 hT5 hT3 n6 n5 n3
   go_upto_region 7 with fail
   have KB:Hid (∀V,Below w1.heap.size w1 V→Bk 31 V b #[.int .i64 (n.id:Int),.int .i64 n.kind,.int .i64 (n.parent:Int),.string ⟨n.subject.toArray⟩,.string ⟨n.client.toArray⟩,.string ⟨n.audience.toArray⟩,.slice sa n.scope.length sc,.int .i64 n.born,.int .i64 n.exp,.bool n.dead,.bool n.spent,.slice aa n.actors.length ac,.int .i64 n.level,.string ⟨n.secret.toArray⟩,.string ⟨n.data.toArray⟩]):=Φ (fun V hV=>K.out.below hV)
   have RS2:Hid (∀V,Below w1.heap.size w1 V→Rd V (.slice sa n.scope.length sc) n.scope):=Φ (fun V hV=>RS.out V (G1.out.trans (hV.mono G1.out.size)))
   have RA2:Hid (∀V,Below w1.heap.size w1 V→Rd V (.slice aa n.actors.length ac) n.actors):=Φ (fun V hV=>RA.out V (G1.out.trans (hV.mono G1.out.size)))
   refine Pl.roB (fun b3 _ _ _ _ _ b20 b21 y3 y20 y21 V=>Below w1.heap.size w1 V∧(b3=false→Lw 9 1 w1 V y16 T6.length (T6.map txt))∧(b3=true→b21=false→Lw 9 1 w1 V y3 (T6++n.scope).length ((T6++n.scope).map txt))∧(b20=true→b21=false→Rd V y20 T5)∧(b21=true→Lw 9 1 w1 V y21 ((T6++n.scope)++T5).length (((T6++n.scope)++T5).map txt))) b y16 sa aa n.scope.length sc n.actors.length ac n.born n.exp n.dead n.spent (Lib.itoa n.born) (Lib.itoa n.exp) (flagT n.dead) (flagT n.spent) (Lib.itoa (n.actors.length:Int)) w4
    (fun _ _ _ _ _ _ _ _ _ _ _ V hV=>(KB.out V hV.1).cell 6) (fun _ _ _ _ _ _ _ _ _ _ _ V hV=>(KB.out V hV.1).cell 7) (fun _ _ _ _ _ _ _ _ _ _ _ V hV=>(KB.out V hV.1).cell 8) (fun _ _ _ _ _ _ _ _ _ _ _ V hV=>(KB.out V hV.1).cell 9) (fun _ _ _ _ _ _ _ _ _ _ _ V hV=>(KB.out V hV.1).cell 10) (fun _ _ _ _ _ _ _ _ _ _ _ V hV=>(KB.out V hV.1).cell 11)
    (fun _ _ _ V hV=>by
     obtain⟨v',w',h1,h2⟩:=appL 29 (hV.2.1 rfl) (RS2.out V hV.1) (by have:=QQ.out.2.2.1;have:=HLN.out.1;omega)
     exact⟨v',w',h1,h2.2.1,(fun h=>by cases h),(fun _ _=>h2),(fun h=>by cases h),(fun h=>by cases h)⟩)
    (fun _ _ _ V hV=>(rnumI n.born QQ.out.2.2.2.2.1.1 QQ.out.2.2.2.2.1.2 V).mono fun e w' h=>⟨h.1,hV.1.trans (h.2.mono hV.1.size),(fun h=>by cases h),(fun _ _=>(hV.2.2.1 rfl rfl).down h.2),(fun h=>by cases h),(fun h=>by cases h)⟩)
    (fun _ _ _ V hV=>(rnumI n.exp QQ.out.2.2.2.2.2.1.1 QQ.out.2.2.2.2.2.1.2 V).mono fun e w' h=>⟨h.1,hV.1.trans (h.2.mono hV.1.size),(fun h=>by cases h),(fun _ _=>(hV.2.2.1 rfl rfl).down h.2),(fun h=>by cases h),(fun h=>by cases h)⟩)
    (fun _ _ _ V hV=>(flag56 n.dead V).mono fun e w' h=>⟨h.1,by rw [h.2];exact hV.1,(fun h=>by cases h),(fun _ _=>by rw [h.2];exact hV.2.2.1 rfl rfl),(fun h=>by cases h),(fun h=>by cases h)⟩)
    (fun _ _ _ V hV=>(flag56 n.spent V).mono fun e w' h=>⟨h.1,by rw [h.2];exact hV.1,(fun h=>by cases h),(fun _ _=>by rw [h.2];exact hV.2.2.1 rfl rfl),(fun h=>by cases h),(fun h=>by cases h)⟩)
    (fun _ _ _ V hV=>(rnumI (n.actors.length:Int) (by omega) (by have:=QQ.out.2.2.2.1;omega) V).mono fun e w' h=>⟨h.1,hV.1.trans (h.2.mono hV.1.size),(fun h=>by cases h),(fun _ _=>(hV.2.2.1 rfl rfl).down h.2),(fun h=>by cases h),(fun h=>by cases h)⟩)
    (fun _ _ _ V hV=>⟨hV.1.trans ((show Below V.heap.size V _ by go_grown).mono hV.1.size),(fun h=>by cases h),(fun _ _=>(hV.2.2.1 rfl rfl).down (by go_grown)),(fun _ _=>by rw [H65.out.2.1];exact new_rd V [Lib.itoa n.born,Lib.itoa n.exp,flagT n.dead,flagT n.spent,Lib.itoa (n.actors.length:Int)]),(fun h=>by cases h)⟩)
    (fun _ _ _ V hV=>by
     obtain⟨v',w',h1,h2⟩:=appL 29 (hV.2.2.1 rfl rfl) (hV.2.2.2.1 rfl rfl) (by have:=QQ.out.2.2.1;have:=HLN.out;rw [List.length_append];omega)
     exact⟨v',w',h1,h2.2.1,(fun h=>by cases h),(fun _ h=>by cases h),(fun _ h=>by cases h),fun _=>h2⟩)
    ⟨BV4.out.drew,fun _=>L4.out.down (by go_grown),(fun h=>by cases h),(fun h=>by cases h),(fun h=>by cases h)⟩ ?_
   intro y3 y20 y21 w5 hw5
   have L5:=Φ (hw5.2.2.2.2 rfl)
   have BV5:=Φ hw5.1
   clear hw5 L4 BV4
   obtain⟨Tx7,hT7⟩:∃z,z=(T6++n.scope)++T5:=⟨_,rfl⟩
   rw [← hT7] at L5
   have H7:=Φ hT7
   have n7:Hid (Tx7.length≤30):=Φ (by rw [hT7];simp only [List.length_append];have:=QQ.out.2.2.1;have:=HLN.out;omega)
   clear hT7
   go_upto_region 8 with fail
   refine Pl.roC (fun b3 _ b11 b12 y3 y11 y12 V=>Below w1.heap.size w1 V∧(b3=false→Lw 9 1 w1 V y21 Tx7.length (Tx7.map txt))∧(b3=true→b12=false→Lw 9 1 w1 V y3 (Tx7++n.actors).length ((Tx7++n.actors).map txt))∧(b11=true→b12=false→Rd V y11 T3)∧(b12=true→Lw 9 1 w1 V y12 ((Tx7++n.actors)++T3).length (((Tx7++n.actors)++T3).map txt))) b y21 aa n.actors.length ac n.level (Lib.itoa n.level) n.secret n.data w5
    (fun _ _ _ _ _ _ _ V hV=>(KB.out V hV.1).cell 11) (fun _ _ _ _ _ _ _ V hV=>(KB.out V hV.1).cell 12) (fun _ _ _ _ _ _ _ V hV=>(KB.out V hV.1).cell 13) (fun _ _ _ _ _ _ _ V hV=>(KB.out V hV.1).cell 14)
    (fun _ _ _ V hV=>by
     obtain⟨v',w',h1,h2⟩:=appL 29 (hV.2.1 rfl) (RA2.out V hV.1) (by have:=QQ.out.2.2.2.1;have:=n7.out;omega)
     exact⟨v',w',h1,h2.2.1,(fun h=>by cases h),(fun _ _=>h2),(fun h=>by cases h),(fun h=>by cases h)⟩)
    (fun _ _ _ V hV=>(rnumI n.level QQ.out.2.2.2.2.2.2.1 QQ.out.2.2.2.2.2.2.2 V).mono fun e w' h=>⟨h.1,hV.1.trans (h.2.mono hV.1.size),(fun h=>by cases h),(fun _ _=>(hV.2.2.1 rfl rfl).down h.2),(fun h=>by cases h),(fun h=>by cases h)⟩)
    (fun _ _ _ V hV=>⟨hV.1.trans ((show Below V.heap.size V _ by go_grown).mono hV.1.size),(fun h=>by cases h),(fun _ _=>(hV.2.2.1 rfl rfl).down (by go_grown)),(fun _ _=>by rw [H65.out.2.2];exact new_rd V [Lib.itoa n.level,n.secret,n.data]),(fun h=>by cases h)⟩)
    (fun _ _ _ V hV=>by
     obtain⟨v',w',h1,h2⟩:=appL 29 (hV.2.2.1 rfl rfl) (hV.2.2.2.1 rfl rfl) (by have:=QQ.out.2.2.2.1;have:=HLN.out;have:=n7.out;rw [List.length_append];omega)
     exact⟨v',w',h1,h2.2.1,(fun h=>by cases h),(fun _ h=>by cases h),(fun _ h=>by cases h),fun _=>h2⟩)
    ⟨BV5.out.drew,fun _=>L5.out.down (by go_grown),(fun h=>by cases h),(fun h=>by cases h),(fun h=>by cases h)⟩ ?_
   intro y3b y11 y12 w6 hw6
   have L6:Hid (Lw 9 1 w1 w6 y12 (nodeT n).length ((nodeT n).map txt)):=Φ (by
    have h:=hw6.2.2.2.2 rfl
    rw [H7.out,H65.out.1,H65.out.2.1,H65.out.2.2,← nodeT_parts] at h
    exact h)
   have BV6:=Φ hw6.1
   clear hw6 L5 BV5 H7 n7 HLN H65 RS RA RS2 RA2
   have c0:w6.cell? ⟨b,0,none⟩=some (.int .i64 (n.id:Int)):=(KB.out w6 BV6.out).cell 0
   have HID:=Φ (rnum_any n.id (by omega) w6)
   go_wp2_with fail
   refine HID.out.mono ?_
   rintro e w7 ⟨rfl,hb7⟩
   have L7:=Φ (L6.out.down hb7)
   have BV7:=Φ (BV6.out.trans (hb7.mono BV6.out.size))
   clear hb7 L6 BV6 HID c0 KB K
   obtain⟨D,hD⟩:∃D,D=Lib.decDigits n.id:=⟨_,rfl⟩
   have hDl:D.length≤8:=by rw [hD];exact dec_len 7 n.id (by omega)
   have HKP:Hid (keyP n.id=[110,111,100,101,47]++(List.replicate (8 - D.length) 48++D)):=Φ (by
    unfold keyP
    rw [← hD,List.append_assoc]
    congr 2
    generalize 8 - D.length=k
    induction k with
    |zero=>rfl
    |succ k ih=>simp [Lib.repeatL,List.replicate_succ,ih])
   rw [← hD]
   clear hD
   go_wp2_with fail
   obtain⟨wq,hwq⟩:∃y,y=w7:=⟨_,rfl⟩
   subst hwq
   go_loopw [7] (fun sv ws=>∃z:Nat,sv = .string ⟨(List.replicate z 48++D).toArray⟩∧z+D.length≤8∧Hid (Below wq.heap.size wq ws)) (fun sv _=>8 - strLen sv)
   case atStart=>exact⟨0,rfl,by omega,Φ (Below.refl _ _)⟩
   case round=>
    obtain⟨z,rfl,hzl,HB⟩:=hrel
    obtain⟨s,hs⟩:∃s:Bs,s=List.replicate z 48++D:=⟨_,rfl⟩
    have hsl:s.length=z+D.length:=by rw [hs];simp
    have hz:(⟨s.toArray⟩:ByteArray).size=z+D.length:=by rw [size_ba];exact hsl
    rw [← hs]
    obtain⟨m,hm⟩:∃m,m=z+D.length:=⟨_,rfl⟩
    rw [← hm] at hz hsl
    by_cases h8:m<8
    ·have h8I:(m:Int)<8:=by omega
     have hx:(⟨#[48]⟩:ByteArray)++⟨s.toArray⟩=⟨((48:UInt8)::s).toArray⟩:=cat_two2 (l:=[48])
     have hz1:(⟨#[48]⟩:ByteArray).size=1:=rfl
     have hI1:¬9223372036854775807<1+m:=by omega
     have HSS:=Φ (And.intro hs (And.intro hm hsl))
     clear hs hm hsl
     go_wp2_with fail
     go_roundw
     case rel=>exact⟨z+1,by rw [HSS.out.1];rfl,by have:=HSS.out.2.1;omega,by first | exact HB | exact Φ HB.out⟩
     case measure=>simp [strLen,hz];have:=HSS.out.2;first | omega | (simp [size_ba];omega)
    ·have h8I:¬(m:Int)<8:=by omega
     have hkey:keyP n.id=[110,111,100,101,47]++s:=by rw [HKP.out,hs,show z=8 - D.length by omega]
     have hx:(⟨#[110,111,100,101,47]⟩:ByteArray)++⟨s.toArray⟩=⟨(keyP n.id).toArray⟩:=by rw [hkey];exact cat_two2 (l:=[110,111,100,101,47])
     have hz1:(⟨#[110,111,100,101,47]⟩:ByteArray).size=5:=rfl
     have hI1:¬9223372036854775807<5+m:=by omega
     have G7:Hid (Below w0r.heap.size w0r wr):=Φ (by rw [HWR.out];exact G1.out.trans ((BV7.out.trans (HB.out.mono BV7.out.size)).mono G1.out.size))
     have HFO:=Φ (rform_any (nodeT n) (by rw [nodeT_parts];simp) (node_small HSM.out hpar) (by
      rw [nodeT_parts]
      simp only [List.length_append,List.length_cons,List.length_nil]
      have:=QQ.out.2.2.1
      have:=QQ.out.2.2.2.1
      omega) wr _ (L7.out.down HB.out).rdL)
     have HO2:Hid (Lw 47 2 w wr u3 (i+1) ((rowsP ((nds rs).take i) x).flatMap pairC)):=Φ (by rw [HWR.out] at G7;exact HO.out.down G7.out)
     clear hs hm hsl hkey L7 BV7 HB HKP hzl
     obtain⟨kx,hkx⟩:∃k,k=keyP n.id:=⟨_,rfl⟩
     obtain⟨fx,hfx⟩:∃k,k=formL (nodeT n):=⟨_,rfl⟩
     rw [← hkx] at hx HT
     rw [← hfx] at HFO HT
     clear hkx hfx
     go_wp2_with fail
     refine HFO.out.mono ?_
     rintro e w9 ⟨rfl,hb9⟩
     have HO9:=Φ (HO2.out.down hb9)
     clear hb9 HFO HO2 G7
     go_wp2_with (at_builtin;refine wp_one row42 rfl _ _ rfl _ ((rowsP ((nds rs).take i) x).flatMap pairC) w9.heap.size 1 #[.string ⟨kx.toArray⟩,.string ⟨fx.toArray⟩] rfl rfl (HO9.out.down (by go_grown)) (Bk.new rfl) rfl (by simp [Value.oneCell']) (by omega) (by decide) ?_;intro v' w10 hs6 hg6;have HS6:=Φ hs6;clear hs6 hg6)
     go_roundw
     case rel=>exact⟨i+1,by omega,by go_num,Φ (by rw [HT.out];simpa [pairC,txt] using HS6.out)⟩
     case measure=>simp [intOf];omega
  ·have hltI:¬(i:Int)<(N:Int):=by omega
   have hiN:i=N:=by omega
   have hta:(nds rs).take i=nds rs:=by rw [hiN,HNN.out];exact List.take_of_length_le (by simp [nds])
   have d0:wr.cell? ⟨g,0,none⟩=some (.slice a N c):=(HG.out.below HO.out.2.1).cell 0
   rw [hta] at HO
   clear hiN hta
   go_wp2_with fail
   go_ret
   refine⟨_,rfl,HO.out.2.1,Rp.of (rows:=rowsP (nds rs) x) (n:=i+1) (B:=0) HO.out.1 ?_⟩
   have:i=rs.length:=by have:=HNN.out;omega
   rw [this]
   simp [rowsP,nds]
theorem place_long (n:Int)(m:Nat)(h0:0<m)(hm:m≤2000000000000)(w:World): Calls Tryz.prog 12 #[.int .i64 n,.int .i64 (m:Int)] w fun e w'=>(∃k:Nat,k<m∧e = .returned (.int .i64 (k:Int)))∧w'=w:=by
 have hmI:((m:Int) == 0)=false:=by rw [beq_eq_false_iff_ne];omega
 have hm1:¬(m:Int) = -1:=by omega
 obtain⟨r,hr⟩:∃r,r=Int.tmod n (m:Int):=⟨_,rfl⟩
 have hb : -(m:Int)<r∧r<(m:Int):=by
  rw [hr]
  have h1:=Int.tmod_lt_of_pos n (b:=(m:Int)) (by omega)
  have h2:=Int.lt_tmod_of_pos n (b:=(m:Int)) (by omega)
  exact⟨h2,h1⟩
 have hw:IntKind.i64.wrap (Int.tmod n (m:Int))=r:=by rw [← hr,IntKind.wrap_i64];omega
 by_cases hneg:r<0
 ·have hw2:IntKind.i64.wrap (r+(m:Int))=r+(m:Int):=by rw [IntKind.wrap_i64];omega
  go_enter Tryz.func12,Tryz.ntmps12
  go_wp2_with fail
  go_ret
  refine⟨⟨(n.tmod (m:Int)+(m:Int)).toNat,by omega,?_⟩,rfl⟩
  have e:(((n.tmod (m:Int)+(m:Int)).toNat:Nat):Int)=n.tmod (m:Int)+(m:Int):=by omega
  rw [e]
  rfl
 ·go_enter Tryz.func12,Tryz.ntmps12
  go_wp2_with fail
  go_ret
  refine⟨⟨(n.tmod (m:Int)).toNat,by omega,?_⟩,rfl⟩
  have e:(((n.tmod (m:Int)).toNat:Nat):Int)=n.tmod (m:Int):=by omega
  rw [e]
  rfl
structure Rws (w0 w:World)(u v:Value)(P:List PairF): Prop where
 x:Lw 23 1 w0 w u P.length (P.map fun p=>kpt p.f)
 y:Lw 26 1 w0 w v P.length (P.map fun p=>kpt p.g)
theorem Rws.down {w0 w w':World}{u v:Value}{P:List PairF}(h:Rws w0 w u v P)(hb:Below w.heap.size w w'): Rws w0 w' u v P:=⟨h.x.down hb,h.y.down hb⟩
theorem Rws.shape {w0 w:World}{ax ay:Option Addr}{n m cx cy:Nat}{P:List PairF}(h:Rws w0 w (.slice ax n cx) (.slice ay m cy) P){k:Nat}(hk:k<P.length): ∃qx qy,ax=some ⟨qx,0,none⟩∧ay=some ⟨qy,0,none⟩:=by
 obtain⟨qx,e,_⟩:=OwnR.owns_cell h.x.1 (i:=k) (v:=kpt P[k].f) (by simp [hk])
 obtain⟨qy,e2,_⟩:=OwnR.owns_cell h.y.1 (i:=k) (v:=kpt P[k].g) (by simp [hk])
 exact⟨qx,qy,e,e2⟩
theorem Rws.cell {w0 w:World}{qx qy n m cx cy:Nat}{P:List PairF}(h:Rws w0 w (.slice (some ⟨qx,0,none⟩) n cx) (.slice (some ⟨qy,0,none⟩) m cy) P){k:Nat}(hk:k<P.length):
  w.cell? ⟨qx,0+k,none⟩=some (.pointer (some ⟨P[k].f,0,none⟩))∧w.cell? ⟨qy,0+k,none⟩=some (.pointer (some ⟨P[k].g,0,none⟩)):=by
 obtain⟨q1,e,h1⟩:=OwnR.owns_cell h.x.1 (i:=k) (v:=kpt P[k].f) (by simp [hk])
 obtain⟨q2,e2,h2⟩:=OwnR.owns_cell h.y.1 (i:=k) (v:=kpt P[k].g) (by simp [hk])
 have e3:qx=q1:=by simpa using e
 have e4:qy=q2:=by simpa using e2
 rw [Nat.zero_add,e3,e4]
 exact⟨h1,h2⟩
theorem Rws.of {w0 w:World}{u v:Value}{P P':List PairF}(h:Rws w0 w u v P)(e1:P'.map (·.f)=P.map (·.f))(e2:P'.map (·.g)=P.map (·.g)): Rws w0 w u v P':=by
 have el:P'.length=P.length:=by have:=congrArg List.length e1;simpa using this
 have f1:P'.map (fun p=>kpt p.f)=P.map (fun p=>kpt p.f):=by
  have:=congrArg (List.map kpt) e1
  rw [List.map_map,List.map_map] at this
  exact this
 have f2:P'.map (fun p=>kpt p.g)=P.map (fun p=>kpt p.g):=by
  have:=congrArg (List.map kpt) e2
  rw [List.map_map,List.map_map] at this
  exact this
 refine⟨?_,?_⟩
 ·rw [el,f1];exact h.x
 ·rw [el,f2];exact h.y
theorem Fam.does {w0 w:World}{P:List PairF}{k b:Nat}{cs:Array Value}{u v:Value}{d:OpD}{sv av:Value}(h:Fam w0 w P)(hk:k<P.length)(ho:OpW w0 d sv av)(R:Rws w0 w u v P)(hb:Bk 33 w b cs):
  Calls Tryz.prog 15 #[.pointer (some ⟨P[k].f,0,none⟩),.pointer (some ⟨P[k].g,0,none⟩),.agg (opC d sv av)] w fun e w'=>e = .returned (.bool true)∧Bk 33 w' b cs∧Rws w0 w' u v P∧∃P':List PairF,P'.map (·.f)=P.map (·.f)∧P'.map (·.g)=P.map (·.g)∧Fam w0 w' P':=by
 have hh:=does_any d sv av ho (h.two k hk) (h.inv k hk) (h.inv k hk)
 unfold kpt at hh
 refine hh.mono ?_
 rintro e w' ⟨b2,rfl,ht,hbt,_,hkm⟩
 have km:=hkm trivial
 obtain rfl:=hbt rfl rfl
 have hiv:=inv_step (h.inv k hk) d ho.mid
 obtain⟨X7,hX7⟩:=Int.eq_ofNat_of_zero_le (show 0≤(stepP P[k].l (P[k].x:Int) d).2 by have:=hiv.good.1;omega)
 rw [hX7] at hiv ht
 have hF:=h.step k hk ht hiv km
 have hz:∀(A:Type) (F:PairF→A) (q:PairF),F q=F P[k]→(P.set k q).map F=P.map F:=fun A F q e=>List.ext_getElem (by simp) fun i h1 h2=>by
  by_cases c:k=i
  ·subst c;simpa using e
  ·simp [List.getElem_set,c]
 obtain⟨ck,hck⟩:=(h.two k hk).bk
 obtain⟨L,hL,hn,_⟩:=(h.two k hk).left km
 exact⟨rfl,hb.only hL (hn 33 b cs (by decide) (by decide) (by decide) hb (bk_ne hb hck (by decide))),⟨R.x.past (h.two k hk) km hF.below (by decide),R.y.past (h.two k hk) km hF.below (by decide)⟩,P.set k ⟨P[k].f,P[k].g,(stepP P[k].l (P[k].x:Int) d).1,X7⟩,hz _ (·.f) _ rfl,hz _ (·.g) _ rfl,hF⟩
theorem Fam1.rowx {w0 w w':World}{P:List PairF}{f:Nat}{l:List Nd}{x:Nat}{u v u':Value}(h:Fam1 w0 w P f l x)(R:Rws w0 w u v P)(hu:Lw 23 1 w0 w' u' (P.length+1) ((P.map fun p=>kpt p.f)++[kpt f]))(hg:w.grownBy w' u.ownBlock): Fam1 w0 w' P f l x∧Lw 26 1 w0 w' v P.length (P.map fun p=>kpt p.g):=by
 obtain⟨ho,hL⟩:=R.x.growth hg (.inl rfl)
 exact⟨h.only ho hu.2.1 hL,R.y.apart R.x hu hg (by decide)⟩
theorem Fam.rowy {w0 w w':World}{P:List PairF}{f g:Nat}{l:List Nd}{x:Nat}{u v v':Value}(h:Fam w0 w (P++[⟨f,g,l,x⟩]))(hu:Lw 23 1 w0 w u (P.length+1) ((P.map fun p=>kpt p.f)++[kpt f]))(hv:Lw 26 1 w0 w v P.length (P.map fun p=>kpt p.g))(hv':Lw 26 1 w0 w' v' (P.length+1) ((P.map fun p=>kpt p.g)++[kpt g]))(hg:w.grownBy w' v.ownBlock):
  Fam w0 w' (P++[⟨f,g,l,x⟩])∧Rws w0 w' u v' (P++[⟨f,g,l,x⟩]):=by
 obtain⟨ho,hL⟩:=hv.growth hg (.inr rfl)
 exact⟨h.only ho hv'.2.1 hL,⟨by simpa using hu.apart hv hv' hg (by decide),by simpa using hv'⟩⟩
theorem Fam.one {w0 w:World}{f g:Nat}(n:∃ns,nodes ns=[]∧Nf w0 w f ns 1)(k:Xn w0 w g [] 1): Fam w0 w [⟨f,g,[],1⟩]:=by
 obtain⟨ns,e,hn⟩:=n
 refine⟨hn.below,fun i hi=>?_,fun i hi=>?_,fun i j hi hj hne=>?_,fun i j hi hj hne=>?_⟩
 ·have:i=0:=by simpa using hi
  subst this
  exact⟨⟨ns,e,hn⟩,⟨[],rfl,k⟩⟩
 ·have:i=0:=by simpa using hi
  subst this
  exact inv_nil
 ·simp only [List.length_cons,List.length_nil] at hi hj;omega
 ·simp only [List.length_cons,List.length_nil] at hi hj;omega
theorem Lw.single {t:TypeId}{w0 w:World}{q:Nat}{x:Value}(h:Bk t w q #[x])(hb:Below w0.heap.size w0 w)(hq:w0.heap.size≤q): Lw t 1 w0 w (.slice (some ⟨q,0,none⟩) 1 1) 1 [x]:=
 ⟨⟨by simp,.inr ⟨q,1,#[x],rfl,Nat.zero_le _,h,Nat.le_refl _,by decide,rfl,rfl⟩⟩,hb,fun k hk=>by
  have:q=k:=Option.some.inj hk
  omega⟩
theorem Fam.cloned {w0 w:World}{P:List PairF}{k:Nat}(h:Fam w0 w P)(hk:k<P.length): Calls Tryz.prog 13 #[.pointer (some ⟨P[k].f,0,none⟩)] w fun e w'=>∃f,e = .returned (.pointer (some ⟨f,0,none⟩))∧Below w.heap.size w w'∧Fam1 w0 w' P f P[k].l P[k].x:=by
 obtain⟨⟨ns,e,n⟩,_⟩:=h.two k hk
 have hh:=clone_rows n.fr (few_ns e (h.inv k hk))
 unfold kpt at hh
 refine hh.mono ?_
 rintro _ w' ⟨g,b,rfl,e2,hf,hb,h1,h2⟩
 exact⟨g,rfl,hb,h.clone hk hb e n e2 hf h1 h2⟩
theorem Fam1.copied {w0 w:World}{P:List PairF}{f k:Nat}(hk:k<P.length)(h:Fam1 w0 w P f P[k].l P[k].x): Calls Tryz.prog 14 #[.pointer (some ⟨P[k].g,0,none⟩)] w fun e w'=>∃g,e = .returned (.pointer (some ⟨g,0,none⟩))∧Below w.heap.size w w'∧Fam w0 w' (P++[⟨f,g,P[k].l,P[k].x⟩]):=by
 obtain⟨_,⟨rs,e2,kx⟩⟩:=h.fam.two k hk
 obtain⟨v,k1,k2⟩:=kx.xr
 obtain⟨a,c,rfl⟩:=k2.shape
 have hh:=copy_any k1
 unfold kpt at hh
 refine hh.mono ?_
 rintro _ w' ⟨rfl,hb,hk'⟩
 exact⟨_,rfl,hb,h.join hb (Nat.le_refl _) ⟨rs,e2,⟨⟨_,hk',k2.below hb⟩,h.fam.below.size,fun r hr q hq=>Nat.lt_of_lt_of_le (kx.rows r hr q hq) hb.size⟩⟩⟩
def zeroO:Array Value:=#[.int .i64 0,.int .i64 0,.int .i64 0,.int .i64 0,.string ⟨#[]⟩,.int .i64 0,.int .i64 0,.int .i64 0,.string ⟨#[]⟩,.string ⟨#[]⟩,.string ⟨#[]⟩,.slice none 0 0,.int .i64 0,.int .i64 0,.bool false,.bool false,.slice none 0 0,.int .i64 0,.string ⟨#[]⟩,.string ⟨#[]⟩]
theorem OpW.one {w0:World}{d:OpD}{sv av:Value}(h:OpW w0 d sv av): (opC d sv av).all (·.oneCell')=true:=by
 obtain⟨a,c,rfl,_⟩:=h.r1
 obtain⟨b,e,rfl,_⟩:=h.r2
 simp [opC,Value.oneCell']
open Go.Lib renaming hid→Φ
set_option maxHeartbeats 32000000 in
theorem forest_walk {w:World}{v:Value}{ds:List (OpD×Value×Value)}(hs:Sc w w v ds)(hT:Tb w)(hM:Mx w): Calls Tryz.prog 3 #[v] w fun e w'=>e = .returned (.bool true)∧Below w.heap.size w w':=by
 have HTW:=Φ (fun W (hb:Below w.heap.size w W)=>hT.below hb)
 have HFX:=Φ (fun W (hb:Below w.heap.size w W)=>fixed_any W (hT.below hb) (hM.below hb))
 have HN:=Φ (new_nf w)
 obtain⟨a,c,rfl,hn,hs⟩:=hs
 have HE:=Φ hs
 obtain⟨N,hN⟩:∃N,N=ds.length:=⟨_,rfl⟩
 have HL:=Φ hN
 rw [← hN] at hn ⊢
 clear hs hN hT hM
 unfold kpt at HN
 go_enter Tryz.func3,Tryz.ntmps3
 go_wp2_with fail
 refine HN.out.mono ?_
 rintro e w1 ⟨f,rfl,h1⟩
 have N1:=Φ h1
 clear HN h1
 go_wp2_with fail
 obtain⟨qx,hqx⟩:∃q,q=w1.heap.size:=⟨_,rfl⟩
 obtain⟨U,hU⟩:∃U,U=w1.alloc (.cells #[.pointer (some ⟨f,0,none⟩)] 23):=⟨_,rfl⟩
 have KX:Hid (Bk 23 U qx #[.pointer (some ⟨f,0,none⟩)]):=Φ (by rw [hU];exact Bk.new hqx)
 have N2:Hid (Nf w U f [] 1):=Φ (N1.out.down (by rw [hU];go_grown))
 have HQX:Hid (w.heap.size≤qx):=Φ (by rw [hqx];exact N1.out.below.size)
 rw [← hU,← hqx]
 clear hU hqx N1
 obtain⟨g,hg⟩:∃g,g=U.heap.size:=⟨_,rfl⟩
 have HNY:=Φ (new_bk U)
 rw [← hg] at HNY
 refine HNY.out.mono ?_
 rintro e w2 ⟨rfl,hw2⟩
 have G2:Hid (Below U.heap.size U w2):=Φ (by rw [hw2];go_grown)
 have KG:Hid (Bk 40 w2 g #[.slice none 0 0,.int .i64 1]):=Φ (by rw [hw2];exact Bk.new hg)
 have HG0:Hid (w.heap.size≤g):=Φ (by rw [hg];exact N2.out.below.size)
 have N3:=Φ (N2.out.down G2.out)
 have KX2:=Φ (KX.out.below G2.out)
 clear hw2 hg HNY G2 N2 KX
 go_wp2_with fail
 obtain⟨qy,hqy⟩:∃q,q=w2.heap.size:=⟨_,rfl⟩
 obtain⟨U2,hU⟩:∃U,U=w2.alloc (.cells #[.pointer (some ⟨g,0,none⟩)] 26):=⟨_,rfl⟩
 have S0:Hid (∃P:List PairF,P.length=1∧Fam w U2 P∧Rws w U2 (.slice (some ⟨qx,0,none⟩) 1 1) (.slice (some ⟨qy,0,none⟩) 1 1) P):=Φ (by
  have hb:Below w2.heap.size w2 U2:=by rw [hU];go_grown
  have ky:Bk 26 U2 qy #[.pointer (some ⟨g,0,none⟩)]:=by rw [hU];exact Bk.new hqy
  have hq0:w.heap.size≤qy:=by rw [hqy];exact N3.out.below.size
  have n4:=N3.out.down hb
  exact⟨[⟨f,g,[],1⟩],rfl,Fam.one ⟨[],rfl,n4⟩ ⟨⟨.slice none 0 0,KG.out.below hb,Nr.nil _⟩,HG0.out,fun r hr=>by cases hr⟩,⟨Lw.single (KX2.out.below hb) n4.below HQX.out,Lw.single ky n4.below hq0⟩⟩)
 rw [← hU,← hqy]
 clear hU hqy N3 KX2 KG HG0 HQX
 go_loopw [4,5,6] (fun xv yv iv wr=>∃(i m:Nat) (ax ay:Option Addr) (cx cy:Nat),i≤N∧iv = .int .i64 (i:Int)∧xv = .slice ax m cx∧yv = .slice ay m cy∧0<m∧m≤i+1∧Hid (∃P:List PairF,P.length=m∧Fam w wr P∧Rws w wr (.slice ax m cx) (.slice ay m cy) P)) (fun _ _ iv _=>N - (intOf iv).toNat)
 case atStart=>exact⟨0,1,_,_,_,_,Nat.zero_le _,rfl,rfl,rfl,by decide,by decide,S0⟩
 case round=>
  obtain⟨i,m,ax,ay,cx,cy,hi,rfl,rfl,rfl,hm0,hm,HS⟩:=hrel
  clear S0
  obtain⟨P,hP,hF,hR⟩:=HS.out
  have F1:=Φ hF
  have R1:=Φ hR
  have HP:=Φ hP
  have BW:=Φ hF.below
  clear hP hF hR HS
  have hNb:N≤1000000000000:=hn
  by_cases hlt:i<N
  ·have hltI:(i:Int)<(N:Int):=by omega
   have hje:i<ds.length:=by rw [← HL.out];exact hlt
   obtain⟨⟨d,sv,av⟩,hz⟩:∃z,ds[i]'hje=z:=⟨_,rfl⟩
   obtain⟨ho,q,o,rfl,hr⟩:=HE.out i hje
   rw [hz] at ho hr
   have HO:=Φ ho
   obtain⟨Cl,hCl⟩:∃C,C=(opC d sv av).toList:=⟨_,rfl⟩
   rw [← hCl] at hr
   have HCL:Hid (Cl.toArray=opC d sv av):=Φ (by rw [hCl])
   have HCN:Hid (Cl.length=20):=Φ (by rw [hCl];rfl)
   have HC1:Hid (Cl.toArray.all (·.oneCell')=true):=Φ (by rw [HCL.out];exact ho.one)
   have HR:=Φ (range_below hr BW.out)
   obtain⟨b,hb⟩:∃b,b=wr.heap.size:=⟨_,rfl⟩
   obtain⟨U,hU⟩:∃U,U=wr.alloc (.cells zeroO 33):=⟨_,rfl⟩
   obtain⟨V,hV⟩:∃V,V=U.setRow wr.heap.size Cl.toArray:=⟨_,rfl⟩
   have Z:Hid (Bk 33 U wr.heap.size zeroO):=Φ (by rw [hU];exact Bk.new rfl)
   have K1:Hid (Bk 33 V b Cl.toArray):=Φ (by rw [hV,hb];exact Z.out.row)
   have GV:Hid (Below wr.heap.size wr V):=Φ (by rw [hV,hU];exact below_row (by go_grown) (Nat.le_refl _))
   have F2:=Φ (F1.out.down GV.out)
   have R2:=Φ (R1.out.down GV.out)
   have ck0:V.cell? ⟨b,0,none⟩=some (.int .i64 d.on):=by
    have:=K1.out.cell 0
    rw [HCL.out] at this
    exact this
   have ck1:V.cell? ⟨b,1,none⟩=some (.int .i64 d.kind):=by
    have:=K1.out.cell 1
    rw [HCL.out] at this
    exact this
   have HPL:=Φ (place_long d.on m hm0 (by omega) V)
   have HV:=Φ hV
   have HU:=Φ hU
   have HB:=Φ hb
   clear ho hr hz hje hCl hb hU hV F1 R1 GV
   go_wp2_with (first | (have hu:=HU.out;unfold zeroO at hu;rw [← hu];clear hu;refine wpList_put rfl 33 _ _ rfl wr.heap.size zeroO Cl.toArray rfl rfl Z.out (by rw [List.size_toArray,HCN.out];exact i33) (by have h20:=HCN.out;simp only [List.size_toArray,h20];decide) HC1.out ?_;rw [← HV.out,← HB.out]) | refine wpList_load_mid rfl 33 _ rfl q (o+i*20) rfl Cl _ HR.out Tryz.underlying33 rfl (by rw [HCN.out];exact i33) ?_)
   refine HPL.out.mono ?_
   rintro e w3 ⟨⟨k,hkm,rfl⟩,hw3⟩
   rw [hw3]
   clear hw3 HPL HV HU HB Z HR HC1 ck0
   by_cases h8:d.kind=8
   ·rw [h8] at ck1
    have hkp:k<P.length:=by rw [HP.out];exact hkm
    have hkI:(k:Int)<(m:Int):=by omega
    obtain⟨zx,zy,rfl,rfl⟩:=R2.out.shape hkp
    have cx0:=(R2.out.cell hkp).1
    rw [Nat.zero_add] at cx0
    have HCN1:=Φ (F2.out.cloned hkp)
    have HKP:=Φ hkp
    clear h8
    go_wp2_with fail
    refine HCN1.out.mono ?_
    rintro e w4 ⟨h,rfl,hb4,hf4⟩
    have F4:=Φ hf4
    have R4:=Φ (R2.out.down hb4)
    have K4:=Φ (K1.out.below hb4)
    clear hb4 hf4 HCN1 F2 R2 K1 cx0 ck1
    have G4:Hid (Below w4.heap.size w4 (w4.alloc (.cells #[.pointer (some ⟨h,0,none⟩)] 23))):=Φ (by go_grown)
    have B4:Hid (Bk 23 (w4.alloc (.cells #[.pointer (some ⟨h,0,none⟩)] 23)) w4.heap.size #[.pointer (some ⟨h,0,none⟩)]):=Φ (Bk.new rfl)
    have F5:=Φ (F4.out.down G4.out)
    have R5:=Φ (R4.out.down G4.out)
    have K5:=Φ (K4.out.below G4.out)
    have HX5:Hid (Lw 23 1 w (w4.alloc (.cells #[.pointer (some ⟨h,0,none⟩)] 23)) (.slice (some ⟨zx,0,none⟩) m cx) m (P.map fun p=>kpt p.f)):=Φ (by have:=R5.out.x;rw [HP.out] at this;exact this)
    clear F4 R4 K4 G4
    go_upto_region 15 with (at_builtin;refine wp_long row25 rfl _ _ rfl _ (P.map fun p=>kpt p.f) w4.heap.size 1 #[.pointer (some ⟨h,0,none⟩)] rfl rfl HX5.out B4.out rfl (by simp [Value.oneCell']) (by omega) (by decide) ?_;intro v5 w5 hs5 hg5;have HS5:=Φ hs5;have HG5:=Φ hg5;clear hs5 hg5)
    have K6:Hid (Bk 33 w5 b Cl.toArray):=Φ (grown_bk HG5.out K5.out (OwnR.owns_ne HX5.out.1 K5.out (by decide)))
    have HF6:=Fam1.rowx (u':=v5) F5.out R5.out (by rw [HP.out];exact HS5.out) HG5.out
    have F6:=Φ HF6.1
    have Y6:Hid (Lw 26 1 w w5 (.slice (some ⟨zy,0,none⟩) m cy) m (P.map fun p=>kpt p.g)):=Φ (by have:=HF6.2;rw [HP.out] at this;exact this)
    obtain⟨ax5,cx5,rfl⟩:=HS5.out.shape
    have X6:=HS5
    obtain⟨zq,ezq,cy0⟩:=OwnR.owns_cell Y6.out.1 (i:=k) (v:= .pointer (some ⟨P[k].g,0,none⟩)) (by simp [HKP.out,kpt])
    obtain rfl:zy=zq:=by simpa using ezq
    have HCP:=Φ (Fam1.copied HKP.out F6.out)
    clear HS5 HG5 HF6 F5 R5 K5 HX5 B4 ezq
    go_wp2_with fail
    refine HCP.out.mono ?_
    rintro e w6 ⟨h2,rfl,hb6,hf6⟩
    have F7:=Φ hf6
    have X7:=Φ (X6.out.down hb6)
    have Y7:=Φ (Y6.out.down hb6)
    have K7:=Φ (K6.out.below hb6)
    clear hb6 hf6 HCP F6 X6 Y6 K6 cy0
    have G6:Hid (Below w6.heap.size w6 (w6.alloc (.cells #[.pointer (some ⟨h2,0,none⟩)] 26))):=Φ (by go_grown)
    have B6:Hid (Bk 26 (w6.alloc (.cells #[.pointer (some ⟨h2,0,none⟩)] 26)) w6.heap.size #[.pointer (some ⟨h2,0,none⟩)]):=Φ (Bk.new rfl)
    have F8:=Φ (F7.out.down G6.out)
    have X8:=Φ (X7.out.down G6.out)
    have Y8:=Φ (Y7.out.down G6.out)
    have K8:=Φ (K7.out.below G6.out)
    clear F7 X7 Y7 K7 G6
    go_upto_region 16 with (at_builtin;refine wp_long row28 rfl _ _ rfl _ (P.map fun p=>kpt p.g) w6.heap.size 1 #[.pointer (some ⟨h2,0,none⟩)] rfl rfl Y8.out B6.out rfl (by simp [Value.oneCell']) (by omega) (by decide) ?_;intro v8 w8 hs8 hg8;have HS8:=Φ hs8;have HG8:=Φ hg8;clear hs8 hg8)
    have K9:Hid (Bk 33 w8 b Cl.toArray):=Φ (grown_bk HG8.out K8.out (OwnR.owns_ne Y8.out.1 K8.out (by decide)))
    have HF9:=Fam.rowy (v':=v8) F8.out (by rw [HP.out];exact X8.out) (by rw [HP.out];exact Y8.out) (by rw [HP.out];exact HS8.out) HG8.out
    obtain⟨ay8,cy8,rfl⟩:=HS8.out.shape
    obtain⟨P2,hp1,hp2,hp3⟩:∃P2:List PairF,P2.length=m+1∧Fam w w8 P2∧Rws w w8 (.slice ax5 (m+1) cx5) (.slice ay8 (m+1) cy8) P2:=⟨_,by rw [List.length_append];exact congrArg (·+1) HP.out,HF9.1,HF9.2⟩
    have HP2:=Φ hp1
    have F9:=Φ hp2
    have R9:=Φ hp3
    clear HS8 HG8 HF9 hp1 hp2 hp3 F8 X8 Y8 K8 B6 HP
    have hkP:k<P2.length:=by rw [HP2.out];omega
    obtain⟨zx,zy,rfl,rfl⟩:=R9.out.shape hkP
    have hkm2:k<m+1:=by omega
    have hkI2:(k:Int)<((m+1:Nat):Int):=by omega
    refine Pl.fdA (fun bb V=>Bk 33 V b Cl.toArray∧Rws w V (.slice (some ⟨zx,0,none⟩) (m+1) cx5) (.slice (some ⟨zy,0,none⟩) (m+1) cy8) P2∧(bb=false→Fam w V P2)∧(bb=true→∃P':List PairF,P'.map (·.f)=P2.map (·.f)∧P'.map (·.g)=P2.map (·.g)∧Fam w V P')) P2[k].f P2[k].g b zx 0 cx5 zy 0 cy8 (m+1) k Cl.toArray _ (fun _ V h=>(h.2.1.cell hkP).1) (fun _ V h=>(h.2.1.cell hkP).2) ?cl (fun _ V h=>h.1) (by rw [List.size_toArray];exact HCN.out) hkm2 hkI2 ⟨K9.out.drew,R9.out.down (by go_grown),fun _=>F9.out.down (by go_grown),fun h=>by cases h⟩ ?_
    case cl=>
     intro V hV
     rw [HCL.out]
     refine(Fam.does (hV.2.2.1 rfl) hkP HO.out hV.2.1 (HCL.out▸hV.1)).mono ?_
     rintro e w' ⟨rfl,h1,h2,h3⟩
     exact⟨rfl,h1,h2,(fun h=>by cases h),fun _=>h3⟩
    intro w7 hw7
    have HS7:Hid (∃P':List PairF,P'.length=m+1∧Fam w w7 P'∧Rws w w7 (.slice (some ⟨zx,0,none⟩) (m+1) cx5) (.slice (some ⟨zy,0,none⟩) (m+1) cy8) P'):=Φ (by
     obtain⟨P',e1,e2,hF⟩:=hw7.2.2.2 rfl
     exact⟨P',by have:=congrArg List.length e1;rw [List.length_map,List.length_map,HP2.out] at this;exact this,hF,hw7.2.1.of e1 e2⟩)
    clear hw7 HO HCL HCN F9 R9 K9
    go_wp2_with fail
    go_roundw
    case rel=>exact⟨i+1,m+1,_,_,_,_,by omega,by go_num,rfl,rfl,by omega,by omega,HS7⟩
    case measure=>simp [intOf];omega
   ·have hk8:(d.kind == 8)=false:=beq_eq_false_iff_ne.2 h8
    have hkI:(k:Int)<(m:Int):=by omega
    clear h8
    have hkP:k<P.length:=by rw [HP.out];omega
    obtain⟨zx,zy,rfl,rfl⟩:=R2.out.shape hkP
    have hkm2:k<m:=by omega
    have hkI2:(k:Int)<((m:Nat):Int):=by omega
    go_upto_region 16 with fail
    refine Pl.fdA (fun bb V=>Bk 33 V b Cl.toArray∧Rws w V (.slice (some ⟨zx,0,none⟩) (m) cx) (.slice (some ⟨zy,0,none⟩) (m) cy) P∧(bb=false→Fam w V P)∧(bb=true→∃P':List PairF,P'.map (·.f)=P.map (·.f)∧P'.map (·.g)=P.map (·.g)∧Fam w V P')) P[k].f P[k].g b zx 0 cx zy 0 cy (m) k Cl.toArray _ (fun _ V h=>(h.2.1.cell hkP).1) (fun _ V h=>(h.2.1.cell hkP).2) ?cl (fun _ V h=>h.1) (by rw [List.size_toArray];exact HCN.out) hkm2 hkI2 ⟨K1.out.drew,R2.out.down (by go_grown),fun _=>F2.out.down (by go_grown),fun h=>by cases h⟩ ?_
    case cl=>
     intro V hV
     rw [HCL.out]
     refine(Fam.does (hV.2.2.1 rfl) hkP HO.out hV.2.1 (HCL.out▸hV.1)).mono ?_
     rintro e w' ⟨rfl,h1,h2,h3⟩
     exact⟨rfl,h1,h2,(fun h=>by cases h),fun _=>h3⟩
    intro w7 hw7
    have HS7:Hid (∃P':List PairF,P'.length=m∧Fam w w7 P'∧Rws w w7 (.slice (some ⟨zx,0,none⟩) (m) cx) (.slice (some ⟨zy,0,none⟩) (m) cy) P'):=Φ (by
     obtain⟨P',e1,e2,hF⟩:=hw7.2.2.2 rfl
     exact⟨P',by have:=congrArg List.length e1;rw [List.length_map,List.length_map,HP.out] at this;exact this,hF,hw7.2.1.of e1 e2⟩)
    clear hw7 HO HCL HCN F2 R2 K1
    go_wp2_with fail
    go_roundw
    case rel=>exact⟨i+1,m,_,_,_,_,by omega,by go_num,rfl,rfl,by omega,by omega,HS7⟩
    case measure=>simp [intOf];omega
  ·have hltI:¬(i:Int)<(N:Int):=by omega
   obtain⟨wo,hwo⟩:∃z,z=wr:=⟨_,rfl⟩
   subst hwo
   go_wp2_with fail
   go_loopw [11] (fun jv w2=>∃j:Nat,j≤m∧jv = .int .i64 (j:Int)∧Hid (Below wo.heap.size wo w2)) (fun jv _=>m - (intOf jv).toNat)
   case atStart=>exact⟨0,Nat.zero_le _,rfl,Φ (Below.refl _ _)⟩
   case round=>
    obtain⟨j,hj,rfl,HB⟩:=hrel
    by_cases hjm:j<m
    ·have hjI:(j:Int)<(m:Int):=by omega
     have hjp:j<P.length:=by rw [HP.out];exact hjm
     obtain⟨zx,zy,rfl,rfl⟩:=R1.out.shape hjp
     obtain⟨⟨ns,e1,n1⟩,⟨rs,e2,k1⟩⟩:=F1.out.two j hjp
     have I1:=Φ (F1.out.inv j hjp)
     obtain⟨l,hl⟩:∃l,l=P[j].l:=⟨_,rfl⟩
     obtain⟨x,hx⟩:∃x,x=P[j].x:=⟨_,rfl⟩
     rw [← hl] at e1 e2 I1
     rw [← hx] at n1 k1 I1
     obtain⟨vr,kb,kn⟩:=k1.xr
     obtain⟨ra,rc,rfl⟩:=kn.shape
     have HSM:Hid (∀n∈l,n.scope.length≤100000∧n.actors.length≤100000):=Φ (fun n hn=>by
      have:=may_small (I1.out.may n hn)
      exact⟨by have:=this.scope.1;omega,by have:=this.actors.1;omega⟩)
     have HW:Hid (∀V,Below wo.heap.size wo V→Tb V):=Φ (fun V hV=>HTW.out V (BW.out.trans (hV.mono BW.out.size)))
     have hl2:l.length≤1000000:=by have:=I1.out.few;omega
     have HA:=Φ (And.intro (And.intro e1 n1.fr) (And.intro e2 (And.intro k1.xr (And.intro kb kn))))
     clear hl hx e1 e2 n1 k1 kb kn
     go_upto_region 22 with fail
     refine Pl.fdB (fun b4 b12 b19 b24 b25 y4 y19 y24 V=>Below wo.heap.size wo V∧(b4=true→∃qs:List (Nd×Value×Value),qs.map (·.1)=l∧Nr V y4 qs)∧(b19=true→Rp V y19 (rowsP l x))∧(b24=true→Rp V y24 (rowsP l x))) P[j].f P[j].g zx 0 cx zy 0 cy m j rs.length rc ra wr (fun _ _ _ _ _ _ _ _ V h=>((R1.out.down h.1).cell hjp).1) (fun _ _ _ _ _ _ _ _ V h=>((R1.out.down h.1).cell hjp).2) (fun _ _ _ _ _ _ _ _ V h=>(HA.out.2.2.2.1.below h.1).cell 0) ?c4 ?c12 ?c19 ?c24 ?c25 hjm hjI ⟨HB.out.drew,(fun h=>by cases h),(fun h=>by cases h),fun h=>by cases h⟩ ?_
     case c4=>
      intro y4 y19 y24 V hV
      have hh:=nodes_call (HA.out.1.2.below hV.1) (few_ns HA.out.1.1 I1.out) (by rw [HA.out.1.1];exact I1.out.short)
      unfold kpt at hh
      refine hh.mono ?_
      rintro _ w' ⟨v,qs,rfl,h1,h2,h3,_⟩
      exact⟨v,rfl,hV.1.trans (h3.mono hV.1.size),(fun _=>⟨qs,by rw [h1,HA.out.1.1],h2⟩),(fun h=>by cases h),fun h=>by cases h⟩
     case c12=>
      intro y4 y19 y24 V hV
      obtain⟨qs,h1,h2⟩:=hV.2.1 rfl
      refine(samenodes_any HSM.out hl2 V y4 _ qs rs h1 HA.out.2.1 h2 (HA.out.2.2.2.2.below hV.1)).mono ?_
      rintro _ w' ⟨rfl,h3⟩
      exact⟨rfl,hV.1.trans (h3.mono hV.1.size),(fun _=>⟨qs,h1,h2.below h3⟩),(fun h=>by cases h),fun h=>by cases h⟩
     case c19=>
      intro y4 y19 y24 V hV
      refine(rows_rp (HA.out.1.2.below hV.1) HA.out.1.1 I1.out (HW.out V hV.1)).mono ?_
      rintro _ w' ⟨v,rfl,h3,h4⟩
      obtain⟨qs,h1,h2⟩:=hV.2.1 rfl
      exact⟨v,rfl,hV.1.trans (h3.mono hV.1.size),(fun _=>⟨qs,h1,h2.below h3⟩),(fun _=>h4),fun h=>by cases h⟩
     case c24=>
      intro y4 y19 y24 V hV
      have hh:=rrows_any (HA.out.2.2.1.below hV.1) (by rw [HA.out.2.1];exact I1.out)
      rw [HA.out.2.1] at hh
      refine hh.mono ?_
      rintro _ w' ⟨v,rfl,h3,h4⟩
      obtain⟨qs,h1,h2⟩:=hV.2.1 rfl
      exact⟨v,rfl,hV.1.trans (h3.mono hV.1.size),(fun _=>⟨qs,h1,h2.below h3⟩),(fun _=>(hV.2.2.1 rfl).below h3),fun _=>h4⟩
     case c25=>
      intro y4 y19 y24 V hV
      refine(samerows_any (rowsP l x) (rows_few I1.out) V y19 y24 (hV.2.2.1 rfl) (hV.2.2.2 rfl)).mono ?_
      rintro _ w' ⟨rfl,h3⟩
      obtain⟨qs,h1,h2⟩:=hV.2.1 rfl
      exact⟨rfl,hV.1.trans (h3.mono hV.1.size),(fun _=>⟨qs,h1,h2.below h3⟩),(fun _=>(hV.2.2.1 rfl).below h3),fun _=>(hV.2.2.2 rfl).below h3⟩
     intro y4 y19 y24 w7 hw7
     have B7:=Φ hw7.1
     clear hw7 HA HSM HW I1 HB
     go_wp2_with fail
     go_roundw
     case rel=>exact⟨j+1,by omega,by go_num,B7⟩
     case measure=>simp [intOf];omega
    ·have hjI:¬(j:Int)<(m:Int):=by omega
     have B5:=Φ (BW.out.trans (HB.out.mono BW.out.size))
     go_wp2_with fail
     refine(HFX.out _ B5.out).mono ?_
     rintro e w11 ⟨rfl,hb⟩
     have B9:=Φ (B5.out.trans (hb.mono B5.out.size))
     clear hb
     go_wp2_with fail
     go_ret
     exact⟨rfl,B9.out⟩
end Go.Proofs.YthogppennalobaaGreatDoor
namespace Go.Proofs.YthogppennalobaaGreatDoor.forestDoes
open Go.ChangeShapes Go.WideShapes Go.ChangeAt Go.ChangeMaps Go.RowKit Go.Deep
theorem contract (H:Type)(enc:TypeId×Value→H)(W:World)(base:Nat)(args:Array Value)(ds gs:List (DataW H))(before:List MemPlace)
  (hval:∀(j:Nat) t v,Tryz.f3.params[j]?=some t→args[j]?=some v→Value.okWide Tryz.prog W .any base t v)
  (hW:DataW.Whole enc Tryz.prog Tryz.f3.params.toList Rows.forestDoesSpec.vars false W args.toList ds gs before)
  (hz:(DataW.weightsEach Tryz.prog (Tryz.f3.params.toList++Rows.forestDoesSpec.plain.varTypes Tryz.prog) (ds++gs)).all (·≤reachBytes)=true) (hT:Tb W) (hM:Mx W) :
  Calls Tryz.prog 3 args W fun e W'=>∃v,e = .returned v∧Rows.forestDoesSpec.post enc Tryz.prog Tryz.f3 false true false false W args v W':=by
 have hW':=hW
 obtain⟨p,q,hA0,hV,rfl,hfz,hnd⟩:=hW
 have hA:DataW.TrodAll enc Tryz.prog W 0 (fun _=>true) true Tryz.f3.params.toList args.toList ds p:=hA0
 rw [Tryz.params3] at hA hval hz
 obtain⟨v0,vs0,d0,ds0,p0,q0,hargs,rfl,rfl,h0,r0⟩:=trodAll_cons hA
 obtain⟨rfl,rfl,rfl⟩:=trodAll_nil r0
 obtain rfl:args=#[v0]:=by cases args;simp_all
 obtain⟨rfl,rfl⟩:=trodVars_none hV
 obtain⟨l0,hO0⟩:=open_sc (hval 0 22 v0 rfl rfl) h0 (fun m hm=>by
  have:=List.all_eq_true.1 hz m (DataW.weights_mem_each (j:=0) (t:=22) (d:=d0) rfl rfl m hm)
  have hr:=reach_is
  simp only [decide_eq_true_eq] at this
  omega)
 clear hA0
 simp only [List.append_nil,List.nil_append] at hW'
 have hlt:=fun x hx=>hW'.lt x hx
 refine(forest_walk hO0 hT hM).mono fun e W' ⟨he,hg⟩=>?_
 subst he
 exact⟨_,rfl,post_below (pa:=p0) (pv:=[]) hW' (fun _ _ _=>trodAll_cons_mk (shut_bool Tryz.underlying4 _) trodAll_mk0)
  (fun sp hsp=>show DataW.TrodAll enc Tryz.prog W' 0 sp true [22] [v0] [d0] (p0) from by
   simpa using (trodAll_cons_mk (trod_keep read22 row22 h0 hg (fun x hx=>hlt x (by simp [hx])) sp (fun x hx=>hsp x (by simp [hx]))) trodAll_mk0))
  (fun _ _=>rfl) (by simp) hg (ok_one (by kernel_rfl) rfl (okWide_bool_mk Tryz.underlying4 _))⟩
theorem laid_met (os:Os)(args:Array Value): laidMetH Tryz.prog Rows.forestDoesRow.laid ((World.laidAll Tryz.prog os Rows.forestDoesRow.laid).forCall (fun _ _=>0) ⟨#[],args,[]⟩).memory:=by
 rw [MakeChecks.laidMetH_plain _ _ _ (by kernel_rfl)]
 exact laidMet_laidAll _ (by kernel_rfl) (by kernel_rfl)
theorem reads (os:Os){H:Type}(enc:TypeId×Value→H): ∃places,DataW.whole enc Tryz.prog ((World.laidAll Tryz.prog os Rows.forestDoesRow.laid).forCall (fun _ _=>0) ⟨#[],#[.slice none 0 0],[]⟩).memory Tryz.f3.params.toList Rows.forestDoesSpec.vars false (#[.slice none 0 0]:Array Value).toList 8=some ([.nil],[],places):=
 ⟨[],by kernel_rfl⟩
theorem lifted (os:Os)(started:os.Started)(H:Type)(enc:TypeId×Value→H)(F:Stop.Interp):
  ReturnsInHanded {} Tryz.checked os 3 .any ((OpenSpec.ofChange Rows.forestDoesSpec).preRow enc Tryz.prog Tryz.f3 Rows.forestDoesRow.domain false Rows.forestDoesRow.laid) (((OpenSpec.ofChange Rows.forestDoesSpec).at F).post enc Tryz.prog Tryz.f3 false true false false):=by
 obtain⟨places,hx⟩:=reads os enc
 refine returnsInHanded_of_row (C:=Tryz.checked) (s:=OpenSpec.ofChange Rows.forestDoesSpec) own started (by kernel_rfl) Tryz.func3
  (witness_row_atRef (enc:=enc) (C:=Tryz.checked) false (World.laidAll Tryz.prog os Rows.forestDoesRow.laid) #[.slice none 0 0] (World.laidAll_os _ _ _) (by kernel_rfl) (by kernel_rfl) (by kernel_rfl)
   (OpenSpec.preRow_of_cond 8 hx (by kernel_rfl) (fun k hk=>by cases hk) (by kernel_rfl) (laid_met os _))) ?_
 intro W base args ds gs before hval hW _ _ hz hL hS _
 exact contract H enc W base args ds gs before hval hW hz (tb_of_laid hL) (mx_of_shaped hS)
theorem said:Rows.ForestDoesSaid:=
 OpenClaim.holds_of_cond 3 Tryz.f3 rfl rfl rfl rfl rfl rfl rfl ⟨rfl,rfl,rfl,rfl,rfl⟩ rfl rfl rfl rfl rfl (by kernel_rfl) Tryz.func3 (by kernel_rfl)
  (of_decide_eq_true (by kernel_rfl)) (by unfold Func.isWrapper;first | (rw [if_pos (by decide +kernel)];kernel_rfl) | (rw [if_neg (by decide +kernel)];exact⟨rfl,rfl⟩))
  (fun os started H enc _ F=>by rw [OpenClaim.pre_eq_preRow];exact lifted os started H enc F)
theorem plain (f : FuncId) (fn : Func) (hf : Tryz.pinned.checked.prog.funcNamed "seneschal/seneschallaw13.ForestDoes" = some f) (hfn : Tryz.pinned.checked.prog.funcs[f]? = some fn) :
  true=Tryz.pinned.checked.prog.looks []∧∀(j:Nat) t,fn.params[j]?=some t→Tryz.pinned.checked.prog.wantsStandIn t=false:=by
 obtain rfl : f = 3 := Option.some.inj ((show Tryz.prog.funcNamed "seneschal/seneschallaw13.ForestDoes" = some 3 by kernel_rfl).symm.trans hf) |>.symm
 obtain rfl:fn=Tryz.f3:=(Option.some.inj (Tryz.func3.symm.trans hfn)).symm
 refine⟨by kernel_rfl,fun j t ht=>?_⟩
 rw [Tryz.params3] at ht
 have h:=Array.mem_of_getElem? ht
 simp only [List.mem_toArray,List.mem_cons,List.not_mem_nil,or_false,or_self] at h
 subst h
 all_goals first | exact(show Tryz.prog.wantsStandIn 22=false by as_aux_lemma=>kernel_rfl)
theorem card:Rows.ForestDoesCardSaid:=
 Claim7.holds_tied_plain_at .later [] _ _ _ _ said (fun _ h=>by cases h) (by kernel_rfl) (fun _ h=>by cases h) forestDoes_row_tie rfl ⟨rfl,rfl⟩ (by kernel_rfl) rfl plain (by kernel_rfl)
end Go.Proofs.YthogppennalobaaGreatDoor.forestDoes
