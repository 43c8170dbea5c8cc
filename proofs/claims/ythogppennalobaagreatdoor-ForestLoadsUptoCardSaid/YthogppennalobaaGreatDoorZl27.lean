/- The document: the node of any row. -/
import Derived.Test.YthogppennalobaaGreatDoorZl26
import Derived.Test.YthogppennalobaaGreatDoorZl24
import Derived.Test.YthogppennalobaaGreatDoorZl07
import Derived.Test.YthogppennalobaaGreatDoorZl17
import Derived.Test.YthogppennalobaaGreatDoorZl10
import Derived.Test.YthogppennalobaaGreatDoorZl01
import Derived.Test.YthogppennalobaaGreatDoorZl19
import Derived.Test.YthogppennalobaaGreatDoorZl25
set_option linter.unusedVariables false
set_option linter.unusedSimpArgs false
set_option maxRecDepth 100000
namespace Go.Proofs.YthogppennalobaaGreatDoor
open Go.RowKit Go.Sort Forest OwnR TxO Pl
theorem ba_toList (l:List UInt8): (⟨l.toArray⟩:ByteArray).toList=l:=ByteArray.toList_eq _
theorem texts_cnt {s:Bs}{l:List Bs}(h:textsL s=some l): l.length≤s.length:=by
 have h1:=form_texts s.length s l (Nat.le_refl _) h
 rw [← h1]
 exact form_cnt l
theorem Tx.step {w w':World}{v x:Value}{l:List Bs}{g r i:Nat}{cs ds:Array Value}(h:Tx w v l)(ho:Only [g] w w')(hg:Bk 93 w g cs)(hr:Bk 31 w' r ds): Tx (w'.setCell ⟨r,i,none⟩ x) v l:=
 (h.only ho (fun q hq hm=>by rw [List.mem_singleton] at hm;subst hm;exact owns_ne h hg (by decide) hq)).setCell hr (by decide)
theorem Rr.set {w:World}{g r i:Nat}{st:Rst}{ds:Array Value}{x:Value}(h:Rr w g st)(hr:Bk 31 w r ds)(hne:g≠r): Rr (w.setCell ⟨r,i,none⟩ x) g st:=by
 obtain⟨a,c,h1,h2,h3⟩:=h
 exact⟨a,c,Bk.oth hne h1,h2.setCell hr (by decide),h3⟩
theorem mid_form {n:Nd}(h:(formL (nodeT n)).length≤2000000): Mid n∧n.scope.length≤2000000∧n.actors.length≤2000000:=by
 have hc:=Nat.le_trans (form_cnt (nodeT n)) h
 have hm:∀s,s∈nodeT n→s.length≤140737488355328:=fun s hs=>by have:=form_mem (nodeT n) s hs;omega
 rw [nodeT_eq] at hm hc
 refine⟨⟨hm _ (by simp),hm _ (by simp),hm _ (by simp),fun s hs=>hm _ (by simp [listedL,hs]),fun s hs=>hm _ (by simp [listedL,hs]),hm _ (by simp),hm _ (by simp)⟩,?_,?_⟩
 ·simp only [listedL,List.length_append,List.length_cons] at hc;omega
 ·simp only [listedL,List.length_append,List.length_cons] at hc;omega
def Rdn (K F:Bs)(w:World)(e:Ending)(w':World): Prop:=∃sa sc aa ac,e = .returned (.tuple #[.agg (inC (readN (K,F)).1.id (readN (K,F)).1.parent (readN (K,F)).1 (.slice sa (readN (K,F)).1.scope.length sc) (.slice aa (readN (K,F)).1.actors.length ac)),.bool (readN (K,F)).2])∧Tx w' (.slice sa (readN (K,F)).1.scope.length sc) (readN (K,F)).1.scope∧Tx w' (.slice aa (readN (K,F)).1.actors.length ac) (readN (K,F)).1.actors∧Below w.heap.size w w'
theorem Tx.no (w:World): Tx w (.slice none 0 0) []:=⟨.none,0,rfl,fun i hi=>absurd hi (Nat.not_lt_zero _),fun q hq=>by cases hq⟩
theorem Rdn.of {K F:Bs}{w w':World}{n:Nd}{b:Bool}{sa aa:Option Addr}{sc ac:Nat}(h:readN (K,F)=(n,b))(t1:Tx w' (.slice sa n.scope.length sc) n.scope)(t2:Tx w' (.slice aa n.actors.length ac) n.actors)(hb:Below w.heap.size w w'): Rdn K F w (.returned (.tuple #[.agg (inC n.id n.parent n (.slice sa n.scope.length sc) (.slice aa n.actors.length ac)),.bool b])) w':=by
 unfold Rdn
 rw [h]
 exact⟨sa,sc,aa,ac,rfl,t1,t2,hb⟩
theorem bk_rowo {t:TypeId}{w:World}{g h:Nat}{cs ds:Array Value}(hk:Bk t w g cs)(hn:h≠g): Bk t (w.setRow h ds) g cs:=Bk.rowo (Ne.symm hn) hk
structure Wr (w:World)(g r gz:Nat)(cs rd:Array Value)(sv av:Value)(x y:List Bs)(b:Bool)(V:World): Prop where
 rd:Bk 93 V g rd
 row:Bk 31 V r cs
 zero:b=false→Bk 31 V gz zeroN
 done:b=true→Bk 31 V gz cs
 ts:Tx V sv x
 ta:Tx V av y
 low:Below w.heap.size w V
 at_:w.heap.size≤gz
 ne:r≠gz
theorem Wr.down {w:World}{g r gz:Nat}{cs rd:Array Value}{sv av:Value}{x y:List Bs}{b:Bool}{V V':World}(h:Wr w g r gz cs rd sv av x y b V)(hb:Below V.heap.size V V'): Wr w g r gz cs rd sv av x y b V':=
 ⟨h.rd.below hb,h.row.below hb,fun e=>(h.zero e).below hb,fun e=>(h.done e).below hb,h.ts.below hb,h.ta.below hb,h.low.trans (hb.mono h.low.size),h.at_,h.ne⟩
theorem Wr.put {w:World}{g r gz:Nat}{cs rd:Array Value}{sv av:Value}{x y:List Bs}{V:World}(h:Wr w g r gz cs rd sv av x y false V)(h1:cs.all (·.oneCell')=true): Bk 31 V gz zeroN∧Wr w g r gz cs rd sv av x y true (V.setRow gz cs):=
 ⟨h.zero rfl,bk_rowo h.rd (bk_ne (h.zero rfl) h.rd (by decide)),bk_rowo h.row (Ne.symm h.ne),(fun e=>by cases e),fun _=>Bk.row (h.zero rfl),h.ts.setRow (h.zero rfl) (by decide),h.ta.setRow (h.zero rfl) (by decide),below_row h.low h.at_,h.at_,h.ne⟩
theorem Rdn.zero {K F:Bs}{w w':World}(h:readN (K,F)=(nd0,false))(hb:Below w.heap.size w w'): Rdn K F w (.returned (.tuple #[.agg zeroN,.bool false])) w':=by
 unfold Rdn
 rw [h]
 exact⟨none,0,none,0,rfl,Tx.no w',Tx.no w',hb⟩
set_option maxHeartbeats 32000000 in
theorem dread_any (K F:Bs)(hF:F.length≤2000000)(w:World): Calls Tryz.prog 61 #[.agg #[.string ⟨K.toArray⟩,.string ⟨F.toArray⟩]] w fun e w'=>Rdn K F w e w':=by
 obtain⟨gk,hgk⟩:∃gk,gk=w.heap.size:=⟨_,rfl⟩
 obtain⟨gz,hgz⟩:∃gz,gz=w.heap.size+1:=⟨_,rfl⟩
 obtain⟨W0,hW0⟩:∃W0,W0=((w.alloc (.cells #[.string ⟨K.toArray⟩,.string ⟨F.toArray⟩] 47)).alloc (.cells zeroN 31)):=⟨_,rfl⟩
 have B0:Hid (Below w.heap.size w W0):=Lib.hid (by rw [hW0];go_grown)
 have K0:Bk 47 W0 gk #[.string ⟨K.toArray⟩,.string ⟨F.toArray⟩]:=by rw [hW0,hgk];exact(Bk.new (by simp)).alloc
 have Z0:Hid (Bk 31 W0 gz zeroN):=Lib.hid (by rw [hW0,hgz];exact Bk.new (by simp))
 have S0:Hid (W0.heap.size=w.heap.size+1+1):=Lib.hid (by rw [hW0];simp)
 have c0:W0.cell? ⟨gk,0,none⟩=some (.string ⟨K.toArray⟩):=K0.cell 0
 have c1:W0.cell? ⟨gk,1,none⟩=some (.string ⟨F.toArray⟩):=K0.cell 1
 have HGZ:=Lib.hid hgz
 have HGK:=Lib.hid hgk
 have HW0:=Lib.hid hW0
 have HT:=Lib.hid (fun W=>dtexts_any F hF W)
 have HFl:=Lib.hid hF
 clear K0 hW0 hF
 by_cases h13:K.length=13
 case neg=>
  have hr:Hid (readN (K,F)=(nd0,false)):=Lib.hid (by unfold readN key8;dsimp only;rw [if_neg fun h=>h13 h.1])
  have hz:(⟨K.toArray⟩:ByteArray).size=K.length:=size_ba K
  have hne:¬(K.length:Int)=13:=by omega
  clear h13
  go_enter Tryz.func61,Tryz.ntmps61
  go_upto_region 1 with fail
  first | rw [← hgk,← hgz] | (rw [← hgz,← hgk]) | (trace_state;fail)
  clear hgk hgz
  have hw:=HW0.out
  unfold zeroN at hw
  rw [← hw]
  clear hw
  go_wp2_with (refine wpList_put rfl 31 _ _ rfl gz zeroN zeroN rfl rfl Z0.out i31 rfl (one15 0 0 ⟨0,0,0,[],[],[],[],0,0,false,false,[],0,[],[]⟩ none none 0 0 0 0) ?_)
  refine ret_cellN rfl gz zeroN (.bool false) rfl rfl (Bk.row Z0.out) rfl rfl ?_
  exact Rdn.zero hr.out (below_row B0.out (by have:=HGZ.out;omega))
 case pos=>
 have hz:(⟨K.toArray⟩:ByteArray).size=13:=by rw [size_ba,h13]
 obtain⟨P,hP⟩:∃P,P=K.take 5:=⟨_,rfl⟩
 obtain⟨D,hD⟩:∃D,D=K.drop 5:=⟨_,rfl⟩
 have hx5:(⟨K.toArray⟩:ByteArray).extract 0 5=⟨P.toArray⟩:=by rw [ext_take,hP]
 have hx8:(⟨K.toArray⟩:ByteArray).extract 5 13=⟨D.toArray⟩:=by rw [hD,← ext_drop,h13]
 have hDl:D.length=8:=by rw [hD,List.length_drop];omega
 have eB:=ba_beq P [110,111,100,101,47]
 have HN:=Lib.hid (fun W=>dnum8_any D hDl W)
 by_cases hp:P=nodeK
 case neg=>
  have hr:Hid (readN (K,F)=(nd0,false)):=Lib.hid (by unfold readN key8;dsimp only;rw [if_neg fun h=>hp (hP.trans h.2.1)])
  have e2:(P == [110,111,100,101,47])=false:=by simpa [nodeK] using hp
  rw [e2] at eB
  have eC:((⟨P.toArray⟩:ByteArray).toList == [110,111,100,101,47])=false:=(congrArg (· == [110,111,100,101,47]) (ba_toList P)).trans e2
  have eD:(((⟨K.toArray⟩:ByteArray).extract 0 5).toList == [110,111,100,101,47])=false:=by rw [hx5];exact eC
  clear hp hP hD hDl HN h13 hx8
  go_enter Tryz.func61,Tryz.ntmps61
  go_upto_region 1 with fail
  first | rw [← hgk,← hgz] | (rw [← hgz,← hgk]) | (trace_state;fail)
  clear hgk hgz
  have hw:=HW0.out
  unfold zeroN at hw
  rw [← hw]
  clear hw
  go_wp2_with (refine wpList_put rfl 31 _ _ rfl gz zeroN zeroN rfl rfl Z0.out i31 rfl (one15 0 0 ⟨0,0,0,[],[],[],[],0,0,false,false,[],0,[],[]⟩ none none 0 0 0 0) ?_)
  refine ret_cellN rfl gz zeroN (.bool false) rfl rfl (Bk.row Z0.out) rfl rfl ?_
  exact Rdn.zero hr.out (below_row B0.out (by have:=HGZ.out;omega))
 case pos=>
 have e2:(P == [110,111,100,101,47])=true:=by simpa [nodeK] using hp
 rw [e2] at eB
 have eC:((⟨P.toArray⟩:ByteArray).toList == [110,111,100,101,47])=true:=(congrArg (· == [110,111,100,101,47]) (ba_toList P)).trans e2
 have eD:(((⟨K.toArray⟩:ByteArray).extract 0 5).toList == [110,111,100,101,47])=true:=by rw [hx5];exact eC
 obtain⟨dg,hdg⟩:∃dg,dg=D.all digitB:=⟨_,rfl⟩
 obtain⟨V,hV⟩:∃V,V=if D.all digitB then valD D else 0:=⟨_,rfl⟩
 obtain⟨T,hT⟩:∃T,T=textsL F:=⟨_,rfl⟩
 have HKEY:Hid (key8 K=if dg=true then some V else none):=Lib.hid (by
  unfold key8
  rw [← hP,← hD]
  cases hq:D.all digitB with
  |true=>rw [if_pos ⟨h13,hp,rfl⟩,hdg,hq,if_pos rfl,hV,if_pos hq]
  |false=>rw [if_neg (fun h=>Bool.noConfusion h.2.2),hdg,hq];rfl)
 have HTX:=Lib.hid hT
 rw [← hV,← hdg] at HN
 rw [← hT] at HT
 clear hP hD hDl h13 hp hV hdg hT
 cases dg with
 |false=>
  have hr:Hid (readN (K,F)=(nd0,false)):=Lib.hid (by unfold readN;dsimp only;rw [HKEY.out];rfl)
  go_enter Tryz.func61,Tryz.ntmps61
  go_upto_region 1 with fail
  first | rw [← hgk,← hgz] | (rw [← hgz,← hgk]) | (trace_state;fail)
  clear hgk hgz
  have hw:=HW0.out
  unfold zeroN at hw
  rw [← hw]
  clear hw
  go_wp2_with fail
  refine(HN.out _).mono ?_
  rintro e w1 ⟨rfl,rfl⟩
  go_wp2_with fail
  refine(HT.out _).mono ?_
  rintro e w2 ⟨v,rfl,h⟩
  have H2:=Lib.hid h.2.1
  have Z2:=Lib.hid (Z0.out.below h.2.1)
  clear h HT HN
  go_wp2_with (refine wpList_put rfl 31 _ _ rfl gz zeroN zeroN rfl rfl Z2.out i31 rfl (one15 0 0 ⟨0,0,0,[],[],[],[],0,0,false,false,[],0,[],[]⟩ none none 0 0 0 0) ?_)
  refine ret_cellN rfl gz zeroN (.bool false) rfl rfl (Bk.row Z2.out) rfl rfl ?_
  exact Rdn.zero hr.out (below_row (B0.out.trans (H2.out.mono B0.out.size)) (by have:=HGZ.out;omega))
 |true=>
 cases T with
 |none=>
  have hr:Hid (readN (K,F)=(nd0,false)):=Lib.hid (by unfold readN;dsimp only;rw [HKEY.out,← HTX.out];rfl)
  simp only [Option.isSome_none,Option.getD_none] at HT
  go_enter Tryz.func61,Tryz.ntmps61
  go_upto_region 1 with fail
  first | rw [← hgk,← hgz] | (rw [← hgz,← hgk]) | (trace_state;fail)
  clear hgk hgz
  have hw:=HW0.out
  unfold zeroN at hw
  rw [← hw]
  clear hw
  go_wp2_with fail
  refine(HN.out _).mono ?_
  rintro e w1 ⟨rfl,rfl⟩
  go_wp2_with fail
  refine(HT.out _).mono ?_
  rintro e w2 ⟨v,rfl,h⟩
  have H2:=Lib.hid h.2.1
  have Z2:=Lib.hid (Z0.out.below h.2.1)
  clear h HT HN
  go_wp2_with (refine wpList_put rfl 31 _ _ rfl gz zeroN zeroN rfl rfl Z2.out i31 rfl (one15 0 0 ⟨0,0,0,[],[],[],[],0,0,false,false,[],0,[],[]⟩ none none 0 0 0 0) ?_)
  refine ret_cellN rfl gz zeroN (.bool false) rfl rfl (Bk.row Z2.out) rfl rfl ?_
  exact Rdn.zero hr.out (below_row (B0.out.trans (H2.out.mono B0.out.size)) (by have:=HGZ.out;omega))
 |some l=>
  simp only [Option.isSome_some,Option.getD_some] at HT
  have HLL:Hid (l.length≤2000000):=Lib.hid (Nat.le_trans (texts_cnt HTX.out.symm) HFl.out)
  obtain⟨x0,s0,e0⟩:∃x s,numS 0 999999999999999 (l,false)=(x,s):=⟨_,_,rfl⟩
  have L0:Hid (s0.1.length≤2000000):=Lib.hid (by have h:=numS_len 0 999999999999999 (l,false);rw [e0] at h;exact Nat.le_trans h HLL.out)
  have H0:Hid (∀(g:Nat) (W:World),Rr W g (l,false)→Calls Tryz.prog 60 #[.pointer (some ⟨g,0,none⟩),.int .i64 0,.int .i64 999999999999999] W fun e w'=>e = .returned (.int .i64 (x0:Int))∧Rr w' g s0∧Only [g] W w'):=Lib.hid (fun g W h=>by have:=dnum_any g (l,false) HLL.out 0 999999999999999 W h;rw [e0] at this;exact this)
  obtain⟨x1,s1,e1⟩:∃x s,numS 0 999999999999999 s0=(x,s):=⟨_,_,rfl⟩
  have L1:Hid (s1.1.length≤2000000):=Lib.hid (by have h:=numS_len 0 999999999999999 s0;rw [e1] at h;exact Nat.le_trans h L0.out)
  have H1:Hid (∀(g:Nat) (W:World),Rr W g s0→Calls Tryz.prog 60 #[.pointer (some ⟨g,0,none⟩),.int .i64 0,.int .i64 999999999999999] W fun e w'=>e = .returned (.int .i64 (x1:Int))∧Rr w' g s1∧Only [g] W w'):=Lib.hid (fun g W h=>by have:=dnum_any g s0 L0.out 0 999999999999999 W h;rw [e1] at this;exact this)
  obtain⟨x2,s2,e2⟩:∃x s,textS s1=(x,s):=⟨_,_,rfl⟩
  have L2:Hid (s2.1.length≤2000000):=Lib.hid (by have h:=textS_len s1;rw [e2] at h;exact Nat.le_trans h L1.out)
  have H2:Hid (∀(g:Nat) (W:World),Rr W g s1→Calls Tryz.prog 93 #[.pointer (some ⟨g,0,none⟩)] W fun e w'=>e = .returned (.string ⟨x2.toArray⟩)∧Rr w' g s2∧Only [g] W w'):=Lib.hid (fun g W h=>by have:=dtext_any g s1 L1.out W h;rw [e2] at this;exact this)
  obtain⟨x3,s3,e3⟩:∃x s,textS s2=(x,s):=⟨_,_,rfl⟩
  have L3:Hid (s3.1.length≤2000000):=Lib.hid (by have h:=textS_len s2;rw [e3] at h;exact Nat.le_trans h L2.out)
  have H3:Hid (∀(g:Nat) (W:World),Rr W g s2→Calls Tryz.prog 93 #[.pointer (some ⟨g,0,none⟩)] W fun e w'=>e = .returned (.string ⟨x3.toArray⟩)∧Rr w' g s3∧Only [g] W w'):=Lib.hid (fun g W h=>by have:=dtext_any g s2 L2.out W h;rw [e3] at this;exact this)
  obtain⟨x4,s4,e4⟩:∃x s,textS s3=(x,s):=⟨_,_,rfl⟩
  have L4:Hid (s4.1.length≤2000000):=Lib.hid (by have h:=textS_len s3;rw [e4] at h;exact Nat.le_trans h L3.out)
  have H4:Hid (∀(g:Nat) (W:World),Rr W g s3→Calls Tryz.prog 93 #[.pointer (some ⟨g,0,none⟩)] W fun e w'=>e = .returned (.string ⟨x4.toArray⟩)∧Rr w' g s4∧Only [g] W w'):=Lib.hid (fun g W h=>by have:=dtext_any g s3 L3.out W h;rw [e4] at this;exact this)
  obtain⟨x5,s5,e5⟩:∃x s,listS s4=(x,s):=⟨_,_,rfl⟩
  have L5:Hid (s5.1.length≤2000000):=Lib.hid (by have h:=listS_len s4;rw [e5] at h;exact Nat.le_trans h L4.out)
  have H5:Hid (∀(g:Nat) (W:World),Rr W g s4→Calls Tryz.prog 95 #[.pointer (some ⟨g,0,none⟩)] W fun e w'=>∃a c,e = .returned (.slice a x5.length c)∧Tx w' (.slice a x5.length c) x5∧Rr w' g s5∧Only [g] W w'):=Lib.hid (fun g W h=>by have:=dlist_any g s4 L4.out W h;rw [e5] at this;exact this)
  obtain⟨x6,s6,e6⟩:∃x s,numS 0 999999999999999 s5=(x,s):=⟨_,_,rfl⟩
  have L6:Hid (s6.1.length≤2000000):=Lib.hid (by have h:=numS_len 0 999999999999999 s5;rw [e6] at h;exact Nat.le_trans h L5.out)
  have H6:Hid (∀(g:Nat) (W:World),Rr W g s5→Calls Tryz.prog 60 #[.pointer (some ⟨g,0,none⟩),.int .i64 0,.int .i64 999999999999999] W fun e w'=>e = .returned (.int .i64 (x6:Int))∧Rr w' g s6∧Only [g] W w'):=Lib.hid (fun g W h=>by have:=dnum_any g s5 L5.out 0 999999999999999 W h;rw [e6] at this;exact this)
  obtain⟨x7,s7,e7⟩:∃x s,numS 0 999999999999999 s6=(x,s):=⟨_,_,rfl⟩
  have L7:Hid (s7.1.length≤2000000):=Lib.hid (by have h:=numS_len 0 999999999999999 s6;rw [e7] at h;exact Nat.le_trans h L6.out)
  have H7:Hid (∀(g:Nat) (W:World),Rr W g s6→Calls Tryz.prog 60 #[.pointer (some ⟨g,0,none⟩),.int .i64 0,.int .i64 999999999999999] W fun e w'=>e = .returned (.int .i64 (x7:Int))∧Rr w' g s7∧Only [g] W w'):=Lib.hid (fun g W h=>by have:=dnum_any g s6 L6.out 0 999999999999999 W h;rw [e7] at this;exact this)
  obtain⟨x8,s8,e8⟩:∃x s,flagS s7=(x,s):=⟨_,_,rfl⟩
  have L8:Hid (s8.1.length≤2000000):=Lib.hid (by have h:=flagS_len s7;rw [e8] at h;exact Nat.le_trans h L7.out)
  have H8:Hid (∀(g:Nat) (W:World),Rr W g s7→Calls Tryz.prog 96 #[.pointer (some ⟨g,0,none⟩)] W fun e w'=>e = .returned (.bool x8)∧Rr w' g s8∧Only [g] W w'):=Lib.hid (fun g W h=>by have:=dflag_any g s7 L7.out W h;rw [e8] at this;exact this)
  obtain⟨x9,s9,e9⟩:∃x s,flagS s8=(x,s):=⟨_,_,rfl⟩
  have L9:Hid (s9.1.length≤2000000):=Lib.hid (by have h:=flagS_len s8;rw [e9] at h;exact Nat.le_trans h L8.out)
  have H9:Hid (∀(g:Nat) (W:World),Rr W g s8→Calls Tryz.prog 96 #[.pointer (some ⟨g,0,none⟩)] W fun e w'=>e = .returned (.bool x9)∧Rr w' g s9∧Only [g] W w'):=Lib.hid (fun g W h=>by have:=dflag_any g s8 L8.out W h;rw [e9] at this;exact this)
  obtain⟨x10,s10,e10⟩:∃x s,listS s9=(x,s):=⟨_,_,rfl⟩
  have L10:Hid (s10.1.length≤2000000):=Lib.hid (by have h:=listS_len s9;rw [e10] at h;exact Nat.le_trans h L9.out)
  have H10:Hid (∀(g:Nat) (W:World),Rr W g s9→Calls Tryz.prog 95 #[.pointer (some ⟨g,0,none⟩)] W fun e w'=>∃a c,e = .returned (.slice a x10.length c)∧Tx w' (.slice a x10.length c) x10∧Rr w' g s10∧Only [g] W w'):=Lib.hid (fun g W h=>by have:=dlist_any g s9 L9.out W h;rw [e10] at this;exact this)
  obtain⟨x11,s11,e11⟩:∃x s,numS 0 999999999999999 s10=(x,s):=⟨_,_,rfl⟩
  have L11:Hid (s11.1.length≤2000000):=Lib.hid (by have h:=numS_len 0 999999999999999 s10;rw [e11] at h;exact Nat.le_trans h L10.out)
  have H11:Hid (∀(g:Nat) (W:World),Rr W g s10→Calls Tryz.prog 60 #[.pointer (some ⟨g,0,none⟩),.int .i64 0,.int .i64 999999999999999] W fun e w'=>e = .returned (.int .i64 (x11:Int))∧Rr w' g s11∧Only [g] W w'):=Lib.hid (fun g W h=>by have:=dnum_any g s10 L10.out 0 999999999999999 W h;rw [e11] at this;exact this)
  obtain⟨x12,s12,e12⟩:∃x s,textS s11=(x,s):=⟨_,_,rfl⟩
  have L12:Hid (s12.1.length≤2000000):=Lib.hid (by have h:=textS_len s11;rw [e12] at h;exact Nat.le_trans h L11.out)
  have H12:Hid (∀(g:Nat) (W:World),Rr W g s11→Calls Tryz.prog 93 #[.pointer (some ⟨g,0,none⟩)] W fun e w'=>e = .returned (.string ⟨x12.toArray⟩)∧Rr w' g s12∧Only [g] W w'):=Lib.hid (fun g W h=>by have:=dtext_any g s11 L11.out W h;rw [e12] at this;exact this)
  obtain⟨x13,s13,e13⟩:∃x s,textS s12=(x,s):=⟨_,_,rfl⟩
  have L13:Hid (s13.1.length≤2000000):=Lib.hid (by have h:=textS_len s12;rw [e13] at h;exact Nat.le_trans h L12.out)
  have H13:Hid (∀(g:Nat) (W:World),Rr W g s12→Calls Tryz.prog 93 #[.pointer (some ⟨g,0,none⟩)] W fun e w'=>e = .returned (.string ⟨x13.toArray⟩)∧Rr w' g s13∧Only [g] W w'):=Lib.hid (fun g W h=>by have:=dtext_any g s12 L12.out W h;rw [e13] at this;exact this)
  have HNS:Hid (nodeS V l=(⟨V,(x0:Int),x1,x2,x3,x4,x5,(x6:Int),(x7:Int),x8,x9,x10,(x11:Int),x12,x13⟩,s13)):=Lib.hid (by simp only [nodeS,e0,e1,e2,e3,e4,e5,e6,e7,e8,e9,e10,e11,e12,e13])
  have HRD:Hid (readN (K,F)=((nodeS V l).1,!(nodeS V l).2.2&&((nodeS V l).2.1 == [])&&mayP ((nodeS V l).1.parent:Int) (nodeS V l).1)):=Lib.hid (by unfold readN;dsimp only;rw [HKEY.out,← HTX.out];rfl)
  clear e0 L0 e1 L1 e2 L2 e3 L3 e4 L4 e5 L5 e6 L6 e7 L7 e8 L8 e9 L9 e10 L10 e11 L11 e12 L12 e13 L13 HKEY
  go_enter Tryz.func61,Tryz.ntmps61
  go_upto_region 1 with fail
  first | rw [← hgk,← hgz] | (rw [← hgz,← hgk]) | (trace_state;fail)
  clear hgk hgz
  have hw:=HW0.out
  unfold zeroN at hw
  rw [← hw]
  clear hw
  go_wp2_with fail
  refine(HN.out _).mono ?_
  rintro e w1 ⟨rfl,rfl⟩
  go_wp2_with fail
  refine(HT.out _).mono ?_
  rintro e w2 ⟨v,rfl,h⟩
  obtain⟨a,c,rfl⟩:=h.shape
  have H2:=Lib.hid h.2.1
  have Z2:=Lib.hid (Z0.out.below h.2.1)
  have HX2:=Lib.hid (Lw.tx h)
  have HC2:Hid (l.length≤c):=Lib.hid (owns_cap h.1)
  have B2:=Lib.hid (B0.out.trans (h.2.1.mono B0.out.size))
  clear h HT HN c0 c1
  go_upto_region 8 with fail
  obtain⟨g,hg⟩:∃g,g=w2.heap.size:=⟨_,rfl⟩
  obtain⟨w3,hw3⟩:∃w3,w3=w2.alloc (.cells #[.slice a l.length c,.bool false] 93):=⟨_,rfl⟩
  have BW:Below w2.heap.size w2 w3:=by rw [hw3];go_grown
  have P3:Hid (Rr w3 g (l,false)):=Lib.hid ⟨a,c,by rw [hw3,hg];exact Bk.new rfl,HX2.out.below BW,HC2.out⟩
  have Z3:=Lib.hid (Z2.out.below BW)
  have B3:=Lib.hid (B2.out.trans (BW.mono B2.out.size))
  have G3:Hid (gz<g∧w.heap.size≤g∧w.heap.size≤gz∧g<w3.heap.size):=Lib.hid (by
   have h1:=S0.out
   have h2:=H2.out.size
   have h3:=HGZ.out
   have h4:w3.heap.size=w2.heap.size+1:=by rw [hw3];simp
   omega)
  rw [← hg,← hw3]
  clear BW Z2 HX2 HC2 B2 hg hw3 H2
  go_wp2_with fail
  refine(H0.out g w3 P3.out).mono ?_
  rintro e w4 ⟨rfl,h2,h3⟩
  have P4:=Lib.hid h2
  have O4:Hid (Only [g] w3 w4):=Lib.hid h3
  clear h2 h3 H0 P3
  go_upto_region 9 with fail
  obtain⟨r,hr⟩:∃r,r=w4.heap.size:=⟨_,rfl⟩
  obtain⟨w5,hw5⟩:∃w5,w5=w4.alloc (.cells #[.int .i64 (V:Int),.int .i64 (x0:Int),.int .i64 0,.string ⟨#[]⟩,.string ⟨#[]⟩,.string ⟨#[]⟩,.slice none 0 0,.int .i64 0,.int .i64 0,.bool false,.bool false,.slice none 0 0,.int .i64 0,.string ⟨#[]⟩,.string ⟨#[]⟩] 31):=⟨_,rfl⟩
  have BW:Below w4.heap.size w4 w5:=by rw [hw5];go_grown
  have P5:=Lib.hid (P4.out.below BW)
  have O5:Hid (Only [g,r] w3 w5):=Lib.hid ((O4.out.mono (fun x hx=> .inl (by simp at hx;simp [hx]))).trans (Only.of (L:=[]) BW) (fun x hx=>by cases hx))
  have G5:Hid (g≠r∧gz≠r∧w.heap.size≤r):=Lib.hid (by
   have h1:=G3.out
   have h2:=O4.out.size
   omega)
  have R5:Hid (Bk 31 w5 r #[.int .i64 (V:Int),.int .i64 (x0:Int),.int .i64 0,.string ⟨#[]⟩,.string ⟨#[]⟩,.string ⟨#[]⟩,.slice none 0 0,.int .i64 0,.int .i64 0,.bool false,.bool false,.slice none 0 0,.int .i64 0,.string ⟨#[]⟩,.string ⟨#[]⟩]):=Lib.hid (by rw [hw5,hr];exact Bk.new rfl)
  rw [← hr,← hw5]
  clear BW P4 O4 hr hw5
  go_wp2_with fail
  refine(H1.out g w5 P5.out).mono ?_
  rintro e u5_ ⟨rfl,h2,h3⟩
  have RU:Bk 31 u5_ r #[.int .i64 (V:Int),.int .i64 (x0:Int),.int .i64 0,.string ⟨#[]⟩,.string ⟨#[]⟩,.string ⟨#[]⟩,.slice none 0 0,.int .i64 0,.int .i64 0,.bool false,.bool false,.slice none 0 0,.int .i64 0,.string ⟨#[]⟩,.string ⟨#[]⟩]:=R5.out.only h3 (by have:=G5.out.1;simp;omega)
  obtain⟨_,GK⟩:∃cs,Bk 93 w5 g cs:=by obtain⟨_,_,h,_⟩:=P5.out;exact⟨_,h⟩
  obtain⟨w6,hv⟩:∃w6,w6=u5_.setCell ⟨r,2,none⟩ (.int .i64 (x1:Int)):=⟨_,rfl⟩
  have ff:u5_.frozen? ⟨r,2,none⟩=false:=RU.fro 2
  have cc:u5_.cell? ⟨r,2,none⟩=some (.int .i64 0):=RU.cell 2
  have P6:Hid (Rr w6 g s1):=Lib.hid (by rw [hv];exact h2.set RU G5.out.1)
  have O6:Hid (Only [g,r] w3 w6):=Lib.hid (by rw [hv];exact(O5.out.trans h3 (fun x hx=> .inl (by simp at hx;simp [hx]))).setCell _ (.inl (by simp)) _)
  have R6:Hid (Bk 31 w6 r #[.int .i64 (V:Int),.int .i64 (x0:Int),.int .i64 (x1:Int),.string ⟨#[]⟩,.string ⟨#[]⟩,.string ⟨#[]⟩,.slice none 0 0,.int .i64 0,.int .i64 0,.bool false,.bool false,.slice none 0 0,.int .i64 0,.string ⟨#[]⟩,.string ⟨#[]⟩]):=Lib.hid (by rw [hv];exact Bk.same (i:=2) (v:= .int .i64 (x1:Int)) RU)
  have HV:=Lib.hid hv
  clear hv h2 h3 GK RU P5 O5 R5 H1
  go_upto_region 10 with fail
  rw [← HV.out]
  clear HV ff cc
  go_wp2_with fail
  refine(H2.out g w6 P6.out).mono ?_
  rintro e u6_ ⟨rfl,h2,h3⟩
  have RU:Bk 31 u6_ r #[.int .i64 (V:Int),.int .i64 (x0:Int),.int .i64 (x1:Int),.string ⟨#[]⟩,.string ⟨#[]⟩,.string ⟨#[]⟩,.slice none 0 0,.int .i64 0,.int .i64 0,.bool false,.bool false,.slice none 0 0,.int .i64 0,.string ⟨#[]⟩,.string ⟨#[]⟩]:=R6.out.only h3 (by have:=G5.out.1;simp;omega)
  obtain⟨_,GK⟩:∃cs,Bk 93 w6 g cs:=by obtain⟨_,_,h,_⟩:=P6.out;exact⟨_,h⟩
  obtain⟨w7,hv⟩:∃w7,w7=u6_.setCell ⟨r,3,none⟩ (.string ⟨x2.toArray⟩):=⟨_,rfl⟩
  have ff:u6_.frozen? ⟨r,3,none⟩=false:=RU.fro 3
  have cc:u6_.cell? ⟨r,3,none⟩=some (.string ⟨#[]⟩):=RU.cell 3
  have P7:Hid (Rr w7 g s2):=Lib.hid (by rw [hv];exact h2.set RU G5.out.1)
  have O7:Hid (Only [g,r] w3 w7):=Lib.hid (by rw [hv];exact(O6.out.trans h3 (fun x hx=> .inl (by simp at hx;simp [hx]))).setCell _ (.inl (by simp)) _)
  have R7:Hid (Bk 31 w7 r #[.int .i64 (V:Int),.int .i64 (x0:Int),.int .i64 (x1:Int),.string ⟨x2.toArray⟩,.string ⟨#[]⟩,.string ⟨#[]⟩,.slice none 0 0,.int .i64 0,.int .i64 0,.bool false,.bool false,.slice none 0 0,.int .i64 0,.string ⟨#[]⟩,.string ⟨#[]⟩]):=Lib.hid (by rw [hv];exact Bk.same (i:=3) (v:= .string ⟨x2.toArray⟩) RU)
  have HV:=Lib.hid hv
  clear hv h2 h3 GK RU P6 O6 R6 H2
  go_upto_region 11 with fail
  rw [← HV.out]
  clear HV ff cc
  go_wp2_with fail
  refine(H3.out g w7 P7.out).mono ?_
  rintro e u7_ ⟨rfl,h2,h3⟩
  have RU:Bk 31 u7_ r #[.int .i64 (V:Int),.int .i64 (x0:Int),.int .i64 (x1:Int),.string ⟨x2.toArray⟩,.string ⟨#[]⟩,.string ⟨#[]⟩,.slice none 0 0,.int .i64 0,.int .i64 0,.bool false,.bool false,.slice none 0 0,.int .i64 0,.string ⟨#[]⟩,.string ⟨#[]⟩]:=R7.out.only h3 (by have:=G5.out.1;simp;omega)
  obtain⟨_,GK⟩:∃cs,Bk 93 w7 g cs:=by obtain⟨_,_,h,_⟩:=P7.out;exact⟨_,h⟩
  obtain⟨w8,hv⟩:∃w8,w8=u7_.setCell ⟨r,4,none⟩ (.string ⟨x3.toArray⟩):=⟨_,rfl⟩
  have ff:u7_.frozen? ⟨r,4,none⟩=false:=RU.fro 4
  have cc:u7_.cell? ⟨r,4,none⟩=some (.string ⟨#[]⟩):=RU.cell 4
  have P8:Hid (Rr w8 g s3):=Lib.hid (by rw [hv];exact h2.set RU G5.out.1)
  have O8:Hid (Only [g,r] w3 w8):=Lib.hid (by rw [hv];exact(O7.out.trans h3 (fun x hx=> .inl (by simp at hx;simp [hx]))).setCell _ (.inl (by simp)) _)
  have R8:Hid (Bk 31 w8 r #[.int .i64 (V:Int),.int .i64 (x0:Int),.int .i64 (x1:Int),.string ⟨x2.toArray⟩,.string ⟨x3.toArray⟩,.string ⟨#[]⟩,.slice none 0 0,.int .i64 0,.int .i64 0,.bool false,.bool false,.slice none 0 0,.int .i64 0,.string ⟨#[]⟩,.string ⟨#[]⟩]):=Lib.hid (by rw [hv];exact Bk.same (i:=4) (v:= .string ⟨x3.toArray⟩) RU)
  have HV:=Lib.hid hv
  clear hv h2 h3 GK RU P7 O7 R7 H3
  go_upto_region 12 with fail
  rw [← HV.out]
  clear HV ff cc
  go_wp2_with fail
  refine(H4.out g w8 P8.out).mono ?_
  rintro e u8_ ⟨rfl,h2,h3⟩
  have RU:Bk 31 u8_ r #[.int .i64 (V:Int),.int .i64 (x0:Int),.int .i64 (x1:Int),.string ⟨x2.toArray⟩,.string ⟨x3.toArray⟩,.string ⟨#[]⟩,.slice none 0 0,.int .i64 0,.int .i64 0,.bool false,.bool false,.slice none 0 0,.int .i64 0,.string ⟨#[]⟩,.string ⟨#[]⟩]:=R8.out.only h3 (by have:=G5.out.1;simp;omega)
  obtain⟨_,GK⟩:∃cs,Bk 93 w8 g cs:=by obtain⟨_,_,h,_⟩:=P8.out;exact⟨_,h⟩
  obtain⟨w9,hv⟩:∃w9,w9=u8_.setCell ⟨r,5,none⟩ (.string ⟨x4.toArray⟩):=⟨_,rfl⟩
  have ff:u8_.frozen? ⟨r,5,none⟩=false:=RU.fro 5
  have cc:u8_.cell? ⟨r,5,none⟩=some (.string ⟨#[]⟩):=RU.cell 5
  have P9:Hid (Rr w9 g s4):=Lib.hid (by rw [hv];exact h2.set RU G5.out.1)
  have O9:Hid (Only [g,r] w3 w9):=Lib.hid (by rw [hv];exact(O8.out.trans h3 (fun x hx=> .inl (by simp at hx;simp [hx]))).setCell _ (.inl (by simp)) _)
  have R9:Hid (Bk 31 w9 r #[.int .i64 (V:Int),.int .i64 (x0:Int),.int .i64 (x1:Int),.string ⟨x2.toArray⟩,.string ⟨x3.toArray⟩,.string ⟨x4.toArray⟩,.slice none 0 0,.int .i64 0,.int .i64 0,.bool false,.bool false,.slice none 0 0,.int .i64 0,.string ⟨#[]⟩,.string ⟨#[]⟩]):=Lib.hid (by rw [hv];exact Bk.same (i:=5) (v:= .string ⟨x4.toArray⟩) RU)
  have HV:=Lib.hid hv
  clear hv h2 h3 GK RU P8 O8 R8 H4
  go_upto_region 13 with fail
  rw [← HV.out]
  clear HV ff cc
  go_wp2_with fail
  refine(H5.out g w9 P9.out).mono ?_
  rintro e u9_ ⟨sa,sc,rfl,h1,h2,h3⟩
  have RU:Bk 31 u9_ r #[.int .i64 (V:Int),.int .i64 (x0:Int),.int .i64 (x1:Int),.string ⟨x2.toArray⟩,.string ⟨x3.toArray⟩,.string ⟨x4.toArray⟩,.slice none 0 0,.int .i64 0,.int .i64 0,.bool false,.bool false,.slice none 0 0,.int .i64 0,.string ⟨#[]⟩,.string ⟨#[]⟩]:=R9.out.only h3 (by have:=G5.out.1;simp;omega)
  obtain⟨_,GK⟩:∃cs,Bk 93 w9 g cs:=by obtain⟨_,_,h,_⟩:=P9.out;exact⟨_,h⟩
  obtain⟨w10,hv⟩:∃w10,w10=u9_.setCell ⟨r,6,none⟩ (.slice sa x5.length sc):=⟨_,rfl⟩
  have ff:u9_.frozen? ⟨r,6,none⟩=false:=RU.fro 6
  have cc:u9_.cell? ⟨r,6,none⟩=some (.slice none 0 0):=RU.cell 6
  have P10:Hid (Rr w10 g s5):=Lib.hid (by rw [hv];exact h2.set RU G5.out.1)
  have O10:Hid (Only [g,r] w3 w10):=Lib.hid (by rw [hv];exact(O9.out.trans h3 (fun x hx=> .inl (by simp at hx;simp [hx]))).setCell _ (.inl (by simp)) _)
  have R10:Hid (Bk 31 w10 r #[.int .i64 (V:Int),.int .i64 (x0:Int),.int .i64 (x1:Int),.string ⟨x2.toArray⟩,.string ⟨x3.toArray⟩,.string ⟨x4.toArray⟩,.slice sa x5.length sc,.int .i64 0,.int .i64 0,.bool false,.bool false,.slice none 0 0,.int .i64 0,.string ⟨#[]⟩,.string ⟨#[]⟩]):=Lib.hid (by rw [hv];exact Bk.same (i:=6) (v:= .slice sa x5.length sc) RU)
  have Ts:Hid (Tx w10 (.slice sa x5.length sc) x5):=Lib.hid (by rw [hv];exact h1.setCell RU (by decide))
  have HV:=Lib.hid hv
  clear hv h2 h3 GK RU P9 O9 R9 H5 h1
  go_upto_region 14 with fail
  rw [← HV.out]
  clear HV ff cc
  go_wp2_with fail
  refine(H6.out g w10 P10.out).mono ?_
  rintro e u10_ ⟨rfl,h2,h3⟩
  have RU:Bk 31 u10_ r #[.int .i64 (V:Int),.int .i64 (x0:Int),.int .i64 (x1:Int),.string ⟨x2.toArray⟩,.string ⟨x3.toArray⟩,.string ⟨x4.toArray⟩,.slice sa x5.length sc,.int .i64 0,.int .i64 0,.bool false,.bool false,.slice none 0 0,.int .i64 0,.string ⟨#[]⟩,.string ⟨#[]⟩]:=R10.out.only h3 (by have:=G5.out.1;simp;omega)
  obtain⟨_,GK⟩:∃cs,Bk 93 w10 g cs:=by obtain⟨_,_,h,_⟩:=P10.out;exact⟨_,h⟩
  obtain⟨w11,hv⟩:∃w11,w11=u10_.setCell ⟨r,7,none⟩ (.int .i64 (x6:Int)):=⟨_,rfl⟩
  have ff:u10_.frozen? ⟨r,7,none⟩=false:=RU.fro 7
  have cc:u10_.cell? ⟨r,7,none⟩=some (.int .i64 0):=RU.cell 7
  have P11:Hid (Rr w11 g s6):=Lib.hid (by rw [hv];exact h2.set RU G5.out.1)
  have O11:Hid (Only [g,r] w3 w11):=Lib.hid (by rw [hv];exact(O10.out.trans h3 (fun x hx=> .inl (by simp at hx;simp [hx]))).setCell _ (.inl (by simp)) _)
  have R11:Hid (Bk 31 w11 r #[.int .i64 (V:Int),.int .i64 (x0:Int),.int .i64 (x1:Int),.string ⟨x2.toArray⟩,.string ⟨x3.toArray⟩,.string ⟨x4.toArray⟩,.slice sa x5.length sc,.int .i64 (x6:Int),.int .i64 0,.bool false,.bool false,.slice none 0 0,.int .i64 0,.string ⟨#[]⟩,.string ⟨#[]⟩]):=Lib.hid (by rw [hv];exact Bk.same (i:=7) (v:= .int .i64 (x6:Int)) RU)
  replace Ts:=Lib.hid (by rw [hv];exact Tx.step (i:=7) (x:= .int .i64 (x6:Int)) Ts.out h3 GK RU:Tx w11 (.slice sa x5.length sc) x5)
  have HV:=Lib.hid hv
  clear hv h2 h3 GK RU P10 O10 R10 H6
  go_upto_region 15 with fail
  rw [← HV.out]
  clear HV ff cc
  go_wp2_with fail
  refine(H7.out g w11 P11.out).mono ?_
  rintro e u11_ ⟨rfl,h2,h3⟩
  have RU:Bk 31 u11_ r #[.int .i64 (V:Int),.int .i64 (x0:Int),.int .i64 (x1:Int),.string ⟨x2.toArray⟩,.string ⟨x3.toArray⟩,.string ⟨x4.toArray⟩,.slice sa x5.length sc,.int .i64 (x6:Int),.int .i64 0,.bool false,.bool false,.slice none 0 0,.int .i64 0,.string ⟨#[]⟩,.string ⟨#[]⟩]:=R11.out.only h3 (by have:=G5.out.1;simp;omega)
  obtain⟨_,GK⟩:∃cs,Bk 93 w11 g cs:=by obtain⟨_,_,h,_⟩:=P11.out;exact⟨_,h⟩
  obtain⟨w12,hv⟩:∃w12,w12=u11_.setCell ⟨r,8,none⟩ (.int .i64 (x7:Int)):=⟨_,rfl⟩
  have ff:u11_.frozen? ⟨r,8,none⟩=false:=RU.fro 8
  have cc:u11_.cell? ⟨r,8,none⟩=some (.int .i64 0):=RU.cell 8
  have P12:Hid (Rr w12 g s7):=Lib.hid (by rw [hv];exact h2.set RU G5.out.1)
  have O12:Hid (Only [g,r] w3 w12):=Lib.hid (by rw [hv];exact(O11.out.trans h3 (fun x hx=> .inl (by simp at hx;simp [hx]))).setCell _ (.inl (by simp)) _)
  have R12:Hid (Bk 31 w12 r #[.int .i64 (V:Int),.int .i64 (x0:Int),.int .i64 (x1:Int),.string ⟨x2.toArray⟩,.string ⟨x3.toArray⟩,.string ⟨x4.toArray⟩,.slice sa x5.length sc,.int .i64 (x6:Int),.int .i64 (x7:Int),.bool false,.bool false,.slice none 0 0,.int .i64 0,.string ⟨#[]⟩,.string ⟨#[]⟩]):=Lib.hid (by rw [hv];exact Bk.same (i:=8) (v:= .int .i64 (x7:Int)) RU)
  replace Ts:=Lib.hid (by rw [hv];exact Tx.step (i:=8) (x:= .int .i64 (x7:Int)) Ts.out h3 GK RU:Tx w12 (.slice sa x5.length sc) x5)
  have HV:=Lib.hid hv
  clear hv h2 h3 GK RU P11 O11 R11 H7
  go_upto_region 16 with fail
  rw [← HV.out]
  clear HV ff cc
  go_wp2_with fail
  refine(H8.out g w12 P12.out).mono ?_
  rintro e u12_ ⟨rfl,h2,h3⟩
  have RU:Bk 31 u12_ r #[.int .i64 (V:Int),.int .i64 (x0:Int),.int .i64 (x1:Int),.string ⟨x2.toArray⟩,.string ⟨x3.toArray⟩,.string ⟨x4.toArray⟩,.slice sa x5.length sc,.int .i64 (x6:Int),.int .i64 (x7:Int),.bool false,.bool false,.slice none 0 0,.int .i64 0,.string ⟨#[]⟩,.string ⟨#[]⟩]:=R12.out.only h3 (by have:=G5.out.1;simp;omega)
  obtain⟨_,GK⟩:∃cs,Bk 93 w12 g cs:=by obtain⟨_,_,h,_⟩:=P12.out;exact⟨_,h⟩
  obtain⟨w13,hv⟩:∃w13,w13=u12_.setCell ⟨r,9,none⟩ (.bool x8):=⟨_,rfl⟩
  have ff:u12_.frozen? ⟨r,9,none⟩=false:=RU.fro 9
  have cc:u12_.cell? ⟨r,9,none⟩=some (.bool false):=RU.cell 9
  have P13:Hid (Rr w13 g s8):=Lib.hid (by rw [hv];exact h2.set RU G5.out.1)
  have O13:Hid (Only [g,r] w3 w13):=Lib.hid (by rw [hv];exact(O12.out.trans h3 (fun x hx=> .inl (by simp at hx;simp [hx]))).setCell _ (.inl (by simp)) _)
  have R13:Hid (Bk 31 w13 r #[.int .i64 (V:Int),.int .i64 (x0:Int),.int .i64 (x1:Int),.string ⟨x2.toArray⟩,.string ⟨x3.toArray⟩,.string ⟨x4.toArray⟩,.slice sa x5.length sc,.int .i64 (x6:Int),.int .i64 (x7:Int),.bool x8,.bool false,.slice none 0 0,.int .i64 0,.string ⟨#[]⟩,.string ⟨#[]⟩]):=Lib.hid (by rw [hv];exact Bk.same (i:=9) (v:= .bool x8) RU)
  replace Ts:=Lib.hid (by rw [hv];exact Tx.step (i:=9) (x:= .bool x8) Ts.out h3 GK RU:Tx w13 (.slice sa x5.length sc) x5)
  have HV:=Lib.hid hv
  clear hv h2 h3 GK RU P12 O12 R12 H8
  go_upto_region 17 with fail
  rw [← HV.out]
  clear HV ff cc
  go_wp2_with fail
  refine(H9.out g w13 P13.out).mono ?_
  rintro e u13_ ⟨rfl,h2,h3⟩
  have RU:Bk 31 u13_ r #[.int .i64 (V:Int),.int .i64 (x0:Int),.int .i64 (x1:Int),.string ⟨x2.toArray⟩,.string ⟨x3.toArray⟩,.string ⟨x4.toArray⟩,.slice sa x5.length sc,.int .i64 (x6:Int),.int .i64 (x7:Int),.bool x8,.bool false,.slice none 0 0,.int .i64 0,.string ⟨#[]⟩,.string ⟨#[]⟩]:=R13.out.only h3 (by have:=G5.out.1;simp;omega)
  obtain⟨_,GK⟩:∃cs,Bk 93 w13 g cs:=by obtain⟨_,_,h,_⟩:=P13.out;exact⟨_,h⟩
  obtain⟨w14,hv⟩:∃w14,w14=u13_.setCell ⟨r,10,none⟩ (.bool x9):=⟨_,rfl⟩
  have ff:u13_.frozen? ⟨r,10,none⟩=false:=RU.fro 10
  have cc:u13_.cell? ⟨r,10,none⟩=some (.bool false):=RU.cell 10
  have P14:Hid (Rr w14 g s9):=Lib.hid (by rw [hv];exact h2.set RU G5.out.1)
  have O14:Hid (Only [g,r] w3 w14):=Lib.hid (by rw [hv];exact(O13.out.trans h3 (fun x hx=> .inl (by simp at hx;simp [hx]))).setCell _ (.inl (by simp)) _)
  have R14:Hid (Bk 31 w14 r #[.int .i64 (V:Int),.int .i64 (x0:Int),.int .i64 (x1:Int),.string ⟨x2.toArray⟩,.string ⟨x3.toArray⟩,.string ⟨x4.toArray⟩,.slice sa x5.length sc,.int .i64 (x6:Int),.int .i64 (x7:Int),.bool x8,.bool x9,.slice none 0 0,.int .i64 0,.string ⟨#[]⟩,.string ⟨#[]⟩]):=Lib.hid (by rw [hv];exact Bk.same (i:=10) (v:= .bool x9) RU)
  replace Ts:=Lib.hid (by rw [hv];exact Tx.step (i:=10) (x:= .bool x9) Ts.out h3 GK RU:Tx w14 (.slice sa x5.length sc) x5)
  have HV:=Lib.hid hv
  clear hv h2 h3 GK RU P13 O13 R13 H9
  go_upto_region 18 with fail
  rw [← HV.out]
  clear HV ff cc
  go_wp2_with fail
  refine(H10.out g w14 P14.out).mono ?_
  rintro e u14_ ⟨aa,ac,rfl,h1,h2,h3⟩
  have RU:Bk 31 u14_ r #[.int .i64 (V:Int),.int .i64 (x0:Int),.int .i64 (x1:Int),.string ⟨x2.toArray⟩,.string ⟨x3.toArray⟩,.string ⟨x4.toArray⟩,.slice sa x5.length sc,.int .i64 (x6:Int),.int .i64 (x7:Int),.bool x8,.bool x9,.slice none 0 0,.int .i64 0,.string ⟨#[]⟩,.string ⟨#[]⟩]:=R14.out.only h3 (by have:=G5.out.1;simp;omega)
  obtain⟨_,GK⟩:∃cs,Bk 93 w14 g cs:=by obtain⟨_,_,h,_⟩:=P14.out;exact⟨_,h⟩
  obtain⟨w15,hv⟩:∃w15,w15=u14_.setCell ⟨r,11,none⟩ (.slice aa x10.length ac):=⟨_,rfl⟩
  have ff:u14_.frozen? ⟨r,11,none⟩=false:=RU.fro 11
  have cc:u14_.cell? ⟨r,11,none⟩=some (.slice none 0 0):=RU.cell 11
  have P15:Hid (Rr w15 g s10):=Lib.hid (by rw [hv];exact h2.set RU G5.out.1)
  have O15:Hid (Only [g,r] w3 w15):=Lib.hid (by rw [hv];exact(O14.out.trans h3 (fun x hx=> .inl (by simp at hx;simp [hx]))).setCell _ (.inl (by simp)) _)
  have R15:Hid (Bk 31 w15 r #[.int .i64 (V:Int),.int .i64 (x0:Int),.int .i64 (x1:Int),.string ⟨x2.toArray⟩,.string ⟨x3.toArray⟩,.string ⟨x4.toArray⟩,.slice sa x5.length sc,.int .i64 (x6:Int),.int .i64 (x7:Int),.bool x8,.bool x9,.slice aa x10.length ac,.int .i64 0,.string ⟨#[]⟩,.string ⟨#[]⟩]):=Lib.hid (by rw [hv];exact Bk.same (i:=11) (v:= .slice aa x10.length ac) RU)
  replace Ts:=Lib.hid (by rw [hv];exact Tx.step (i:=11) (x:= .slice aa x10.length ac) Ts.out h3 GK RU:Tx w15 (.slice sa x5.length sc) x5)
  have Ta:Hid (Tx w15 (.slice aa x10.length ac) x10):=Lib.hid (by rw [hv];exact h1.setCell RU (by decide))
  have HV:=Lib.hid hv
  clear hv h2 h3 GK RU P14 O14 R14 H10 h1
  go_upto_region 19 with fail
  rw [← HV.out]
  clear HV ff cc
  go_wp2_with fail
  refine(H11.out g w15 P15.out).mono ?_
  rintro e u15_ ⟨rfl,h2,h3⟩
  have RU:Bk 31 u15_ r #[.int .i64 (V:Int),.int .i64 (x0:Int),.int .i64 (x1:Int),.string ⟨x2.toArray⟩,.string ⟨x3.toArray⟩,.string ⟨x4.toArray⟩,.slice sa x5.length sc,.int .i64 (x6:Int),.int .i64 (x7:Int),.bool x8,.bool x9,.slice aa x10.length ac,.int .i64 0,.string ⟨#[]⟩,.string ⟨#[]⟩]:=R15.out.only h3 (by have:=G5.out.1;simp;omega)
  obtain⟨_,GK⟩:∃cs,Bk 93 w15 g cs:=by obtain⟨_,_,h,_⟩:=P15.out;exact⟨_,h⟩
  obtain⟨w16,hv⟩:∃w16,w16=u15_.setCell ⟨r,12,none⟩ (.int .i64 (x11:Int)):=⟨_,rfl⟩
  have ff:u15_.frozen? ⟨r,12,none⟩=false:=RU.fro 12
  have cc:u15_.cell? ⟨r,12,none⟩=some (.int .i64 0):=RU.cell 12
  have P16:Hid (Rr w16 g s11):=Lib.hid (by rw [hv];exact h2.set RU G5.out.1)
  have O16:Hid (Only [g,r] w3 w16):=Lib.hid (by rw [hv];exact(O15.out.trans h3 (fun x hx=> .inl (by simp at hx;simp [hx]))).setCell _ (.inl (by simp)) _)
  have R16:Hid (Bk 31 w16 r #[.int .i64 (V:Int),.int .i64 (x0:Int),.int .i64 (x1:Int),.string ⟨x2.toArray⟩,.string ⟨x3.toArray⟩,.string ⟨x4.toArray⟩,.slice sa x5.length sc,.int .i64 (x6:Int),.int .i64 (x7:Int),.bool x8,.bool x9,.slice aa x10.length ac,.int .i64 (x11:Int),.string ⟨#[]⟩,.string ⟨#[]⟩]):=Lib.hid (by rw [hv];exact Bk.same (i:=12) (v:= .int .i64 (x11:Int)) RU)
  replace Ts:=Lib.hid (by rw [hv];exact Tx.step (i:=12) (x:= .int .i64 (x11:Int)) Ts.out h3 GK RU:Tx w16 (.slice sa x5.length sc) x5)
  replace Ta:=Lib.hid (by rw [hv];exact Tx.step (i:=12) (x:= .int .i64 (x11:Int)) Ta.out h3 GK RU:Tx w16 (.slice aa x10.length ac) x10)
  have HV:=Lib.hid hv
  clear hv h2 h3 GK RU P15 O15 R15 H11
  go_upto_region 20 with fail
  rw [← HV.out]
  clear HV ff cc
  go_wp2_with fail
  refine(H12.out g w16 P16.out).mono ?_
  rintro e u16_ ⟨rfl,h2,h3⟩
  have RU:Bk 31 u16_ r #[.int .i64 (V:Int),.int .i64 (x0:Int),.int .i64 (x1:Int),.string ⟨x2.toArray⟩,.string ⟨x3.toArray⟩,.string ⟨x4.toArray⟩,.slice sa x5.length sc,.int .i64 (x6:Int),.int .i64 (x7:Int),.bool x8,.bool x9,.slice aa x10.length ac,.int .i64 (x11:Int),.string ⟨#[]⟩,.string ⟨#[]⟩]:=R16.out.only h3 (by have:=G5.out.1;simp;omega)
  obtain⟨_,GK⟩:∃cs,Bk 93 w16 g cs:=by obtain⟨_,_,h,_⟩:=P16.out;exact⟨_,h⟩
  obtain⟨w17,hv⟩:∃w17,w17=u16_.setCell ⟨r,13,none⟩ (.string ⟨x12.toArray⟩):=⟨_,rfl⟩
  have ff:u16_.frozen? ⟨r,13,none⟩=false:=RU.fro 13
  have cc:u16_.cell? ⟨r,13,none⟩=some (.string ⟨#[]⟩):=RU.cell 13
  have P17:Hid (Rr w17 g s12):=Lib.hid (by rw [hv];exact h2.set RU G5.out.1)
  have O17:Hid (Only [g,r] w3 w17):=Lib.hid (by rw [hv];exact(O16.out.trans h3 (fun x hx=> .inl (by simp at hx;simp [hx]))).setCell _ (.inl (by simp)) _)
  have R17:Hid (Bk 31 w17 r #[.int .i64 (V:Int),.int .i64 (x0:Int),.int .i64 (x1:Int),.string ⟨x2.toArray⟩,.string ⟨x3.toArray⟩,.string ⟨x4.toArray⟩,.slice sa x5.length sc,.int .i64 (x6:Int),.int .i64 (x7:Int),.bool x8,.bool x9,.slice aa x10.length ac,.int .i64 (x11:Int),.string ⟨x12.toArray⟩,.string ⟨#[]⟩]):=Lib.hid (by rw [hv];exact Bk.same (i:=13) (v:= .string ⟨x12.toArray⟩) RU)
  replace Ts:=Lib.hid (by rw [hv];exact Tx.step (i:=13) (x:= .string ⟨x12.toArray⟩) Ts.out h3 GK RU:Tx w17 (.slice sa x5.length sc) x5)
  replace Ta:=Lib.hid (by rw [hv];exact Tx.step (i:=13) (x:= .string ⟨x12.toArray⟩) Ta.out h3 GK RU:Tx w17 (.slice aa x10.length ac) x10)
  have HV:=Lib.hid hv
  clear hv h2 h3 GK RU P16 O16 R16 H12
  go_upto_region 21 with fail
  rw [← HV.out]
  clear HV ff cc
  go_wp2_with fail
  refine(H13.out g w17 P17.out).mono ?_
  rintro e u17_ ⟨rfl,h2,h3⟩
  have RU:Bk 31 u17_ r #[.int .i64 (V:Int),.int .i64 (x0:Int),.int .i64 (x1:Int),.string ⟨x2.toArray⟩,.string ⟨x3.toArray⟩,.string ⟨x4.toArray⟩,.slice sa x5.length sc,.int .i64 (x6:Int),.int .i64 (x7:Int),.bool x8,.bool x9,.slice aa x10.length ac,.int .i64 (x11:Int),.string ⟨x12.toArray⟩,.string ⟨#[]⟩]:=R17.out.only h3 (by have:=G5.out.1;simp;omega)
  obtain⟨_,GK⟩:∃cs,Bk 93 w17 g cs:=by obtain⟨_,_,h,_⟩:=P17.out;exact⟨_,h⟩
  obtain⟨w18,hv⟩:∃w18,w18=u17_.setCell ⟨r,14,none⟩ (.string ⟨x13.toArray⟩):=⟨_,rfl⟩
  have ff:u17_.frozen? ⟨r,14,none⟩=false:=RU.fro 14
  have cc:u17_.cell? ⟨r,14,none⟩=some (.string ⟨#[]⟩):=RU.cell 14
  have P18:Hid (Rr w18 g s13):=Lib.hid (by rw [hv];exact h2.set RU G5.out.1)
  have O18:Hid (Only [g,r] w3 w18):=Lib.hid (by rw [hv];exact(O17.out.trans h3 (fun x hx=> .inl (by simp at hx;simp [hx]))).setCell _ (.inl (by simp)) _)
  have R18:Hid (Bk 31 w18 r #[.int .i64 (V:Int),.int .i64 (x0:Int),.int .i64 (x1:Int),.string ⟨x2.toArray⟩,.string ⟨x3.toArray⟩,.string ⟨x4.toArray⟩,.slice sa x5.length sc,.int .i64 (x6:Int),.int .i64 (x7:Int),.bool x8,.bool x9,.slice aa x10.length ac,.int .i64 (x11:Int),.string ⟨x12.toArray⟩,.string ⟨x13.toArray⟩]):=Lib.hid (by rw [hv];exact Bk.same (i:=14) (v:= .string ⟨x13.toArray⟩) RU)
  replace Ts:=Lib.hid (by rw [hv];exact Tx.step (i:=14) (x:= .string ⟨x13.toArray⟩) Ts.out h3 GK RU:Tx w18 (.slice sa x5.length sc) x5)
  replace Ta:=Lib.hid (by rw [hv];exact Tx.step (i:=14) (x:= .string ⟨x13.toArray⟩) Ta.out h3 GK RU:Tx w18 (.slice aa x10.length ac) x10)
  have HV:=Lib.hid hv
  clear hv h2 h3 GK RU P17 O17 R17 H13
  go_upto_region 22 with fail
  rename_i k22_ a22_
  rw [← HV.out]
  clear HV ff cc
  obtain⟨rest,lost⟩:=s13
  obtain⟨a2,c2,hk2⟩:∃a2 c2,Bk 93 w18 g #[.slice a2 rest.length c2,.bool lost]:=by obtain⟨a2,c2,h,_⟩:=P18.out;exact⟨a2,c2,h⟩
  clear hz hx5 hx8 eB e2 eC eD
  have HK2:=Lib.hid hk2
  have ZE:Hid (Bk 31 w18 gz zeroN):=Lib.hid (Z3.out.only O18.out (by have h1:=G3.out;have h2:=G5.out;simp;omega))
  have BE:Hid (Below w.heap.size w w18):=Lib.hid (B3.out.trans (O18.out.below B3.out.size (fun z hz=>by have h1:=G3.out;have h2:=G5.out;simp at hz;rcases hz with rfl | rfl<;>omega)))
  have HGW:Hid (w.heap.size≤gz):=Lib.hid G3.out.2.2.1
  have HNEQ:Hid (r≠gz):=Lib.hid (by have h2:=G5.out;omega)
  clear hk2 P18 O18 Z3 B3 G3 G5
  have HWR:Hid (∀rd,#[.slice a2 rest.length c2,.bool lost]=rd→Wr w g r gz #[.int .i64 (V:Int),.int .i64 (x0:Int),.int .i64 (x1:Int),.string ⟨x2.toArray⟩,.string ⟨x3.toArray⟩,.string ⟨x4.toArray⟩,.slice sa x5.length sc,.int .i64 (x6:Int),.int .i64 (x7:Int),.bool x8,.bool x9,.slice aa x10.length ac,.int .i64 (x11:Int),.string ⟨x12.toArray⟩,.string ⟨x13.toArray⟩] rd (.slice sa x5.length sc) (.slice aa x10.length ac) x5 x10 false w18):=Lib.hid (fun rd e=>e▸⟨HK2.out,R18.out,fun _=>ZE.out,(fun h=>by cases h),Ts.out,Ta.out,BE.out,HGW.out,HNEQ.out⟩)
  cases lost with
  |true=>
   have HRES:Hid (readN (K,F)=((⟨V,(x0:Int),x1,x2,x3,x4,x5,(x6:Int),(x7:Int),x8,x9,x10,(x11:Int),x12,x13⟩:Nd),false)):=Lib.hid (by rw [HRD.out,HNS.out];rfl)
   replace HWR:=Lib.hid (HWR.out _ rfl)
   clear HRD HNS
   refine Pl.ndL (fun b18 X=>Wr w g r gz #[.int .i64 (V:Int),.int .i64 (x0:Int),.int .i64 (x1:Int),.string ⟨x2.toArray⟩,.string ⟨x3.toArray⟩,.string ⟨x4.toArray⟩,.slice sa x5.length sc,.int .i64 (x6:Int),.int .i64 (x7:Int),.bool x8,.bool x9,.slice aa x10.length ac,.int .i64 (x11:Int),.string ⟨x12.toArray⟩,.string ⟨x13.toArray⟩] #[.slice a2 rest.length c2,.bool true] (.slice sa x5.length sc) (.slice aa x10.length ac) x5 x10 b18 X) g r gz #[.int .i64 (V:Int),.int .i64 (x0:Int),.int .i64 (x1:Int),.string ⟨x2.toArray⟩,.string ⟨x3.toArray⟩,.string ⟨x4.toArray⟩,.slice sa x5.length sc,.int .i64 (x6:Int),.int .i64 (x7:Int),.bool x8,.bool x9,.slice aa x10.length ac,.int .i64 (x11:Int),.string ⟨x12.toArray⟩,.string ⟨x13.toArray⟩] a2 c2  _ (fun _ X h=>h.rd.cell 1)  (fun X h=>h.put (one15 V (x1:Int) (⟨V,(x0:Int),x1,x2,x3,x4,x5,(x6:Int),(x7:Int),x8,x9,x10,(x11:Int),x12,x13⟩:Nd) sa aa x5.length sc x10.length ac)) (fun _ X h=>h.row) rfl (one15 V (x1:Int) (⟨V,(x0:Int),x1,x2,x3,x4,x5,(x6:Int),(x7:Int),x8,x9,x10,(x11:Int),x12,x13⟩:Nd) sa aa x5.length sc x10.length ac) (HWR.out.down (by go_grown)) ?_
   intro w1 h1
   have H1:=Lib.hid h1
   clear h1
   dsimp only
   simp only [Exit.then]
   refine a22_ _ _ ?_
   refine wp_ret ?_
   refine ret_cellN rfl gz (inC V (x1:Int) ⟨V,(x0:Int),x1,x2,x3,x4,x5,(x6:Int),(x7:Int),x8,x9,x10,(x11:Int),x12,x13⟩ (.slice sa x5.length sc) (.slice aa x10.length ac)) (.bool false) rfl rfl (H1.out.done rfl) rfl rfl ?_
   exact Rdn.of (n:=(⟨V,(x0:Int),x1,x2,x3,x4,x5,(x6:Int),(x7:Int),x8,x9,x10,(x11:Int),x12,x13⟩:Nd)) HRES.out H1.out.ts H1.out.ta H1.out.low
  |false=>
  cases rest with
  |cons z zs=>
   have HRES:Hid (readN (K,F)=((⟨V,(x0:Int),x1,x2,x3,x4,x5,(x6:Int),(x7:Int),x8,x9,x10,(x11:Int),x12,x13⟩:Nd),false)):=Lib.hid (by rw [HRD.out,HNS.out];rfl)
   have hzz:(((zs.length:Nat):Int)+1 == 0)=false:=by simp;omega
   replace HWR:=Lib.hid (HWR.out _ rfl)
   clear HRD HNS
   refine Pl.ndN (fun b18 X=>Wr w g r gz #[.int .i64 (V:Int),.int .i64 (x0:Int),.int .i64 (x1:Int),.string ⟨x2.toArray⟩,.string ⟨x3.toArray⟩,.string ⟨x4.toArray⟩,.slice sa x5.length sc,.int .i64 (x6:Int),.int .i64 (x7:Int),.bool x8,.bool x9,.slice aa x10.length ac,.int .i64 (x11:Int),.string ⟨x12.toArray⟩,.string ⟨x13.toArray⟩] #[.slice a2 (zs.length+1) c2,.bool false] (.slice sa x5.length sc) (.slice aa x10.length ac) x5 x10 b18 X) g r gz #[.int .i64 (V:Int),.int .i64 (x0:Int),.int .i64 (x1:Int),.string ⟨x2.toArray⟩,.string ⟨x3.toArray⟩,.string ⟨x4.toArray⟩,.slice sa x5.length sc,.int .i64 (x6:Int),.int .i64 (x7:Int),.bool x8,.bool x9,.slice aa x10.length ac,.int .i64 (x11:Int),.string ⟨x12.toArray⟩,.string ⟨x13.toArray⟩] a2 c2 zs.length _ (fun _ X h=>h.rd.cell 1) (fun _ X h=>h.rd.cell 0) (fun X h=>h.put (one15 V (x1:Int) (⟨V,(x0:Int),x1,x2,x3,x4,x5,(x6:Int),(x7:Int),x8,x9,x10,(x11:Int),x12,x13⟩:Nd) sa aa x5.length sc x10.length ac)) (fun _ X h=>h.row) rfl (one15 V (x1:Int) (⟨V,(x0:Int),x1,x2,x3,x4,x5,(x6:Int),(x7:Int),x8,x9,x10,(x11:Int),x12,x13⟩:Nd) sa aa x5.length sc x10.length ac) hzz (HWR.out.down (by go_grown)) ?_
   intro w1 h1
   have H1:=Lib.hid h1
   clear h1
   dsimp only
   simp only [Exit.then]
   refine a22_ _ _ ?_
   refine wp_ret ?_
   refine ret_cellN rfl gz (inC V (x1:Int) ⟨V,(x0:Int),x1,x2,x3,x4,x5,(x6:Int),(x7:Int),x8,x9,x10,(x11:Int),x12,x13⟩ (.slice sa x5.length sc) (.slice aa x10.length ac)) (.bool false) rfl rfl (H1.out.done rfl) rfl rfl ?_
   exact Rdn.of (n:=(⟨V,(x0:Int),x1,x2,x3,x4,x5,(x6:Int),(x7:Int),x8,x9,x10,(x11:Int),x12,x13⟩:Nd)) HRES.out H1.out.ts H1.out.ta H1.out.low
  |nil=>
   have hl:=nodeS_back (id:=V) (l:=l) (by rw [HNS.out])
   rw [HNS.out] at hl
   have hmf:=mid_form (n:=(⟨V,(x0:Int),x1,x2,x3,x4,x5,(x6:Int),(x7:Int),x8,x9,x10,(x11:Int),x12,x13⟩:Nd)) (by
    rw [← hl,form_texts F.length F l (Nat.le_refl _) HTX.out.symm]
    exact HFl.out)
   have HMF:=Lib.hid hmf
   obtain⟨mb,hmb⟩:∃mb,mayP (x1:Int) (⟨V,(x0:Int),x1,x2,x3,x4,x5,(x6:Int),(x7:Int),x8,x9,x10,(x11:Int),x12,x13⟩:Nd)=mb:=⟨_,rfl⟩
   have HMB:=Lib.hid hmb
   have HRES:Hid (readN (K,F)=((⟨V,(x0:Int),x1,x2,x3,x4,x5,(x6:Int),(x7:Int),x8,x9,x10,(x11:Int),x12,x13⟩:Nd),mb)):=Lib.hid (by rw [HRD.out,HNS.out,← hmb];simp)
   replace HWR:=Lib.hid (HWR.out _ rfl)
   clear HRD HNS hl hmf hmb
   refine Pl.ndM (fun b16 b18 X=>Wr w g r gz #[.int .i64 (V:Int),.int .i64 (x0:Int),.int .i64 (x1:Int),.string ⟨x2.toArray⟩,.string ⟨x3.toArray⟩,.string ⟨x4.toArray⟩,.slice sa x5.length sc,.int .i64 (x6:Int),.int .i64 (x7:Int),.bool x8,.bool x9,.slice aa x10.length ac,.int .i64 (x11:Int),.string ⟨x12.toArray⟩,.string ⟨x13.toArray⟩] #[.slice a2 0 c2,.bool false] (.slice sa x5.length sc) (.slice aa x10.length ac) x5 x10 b18 X) g r gz #[.int .i64 (V:Int),.int .i64 (x0:Int),.int .i64 (x1:Int),.string ⟨x2.toArray⟩,.string ⟨x3.toArray⟩,.string ⟨x4.toArray⟩,.slice sa x5.length sc,.int .i64 (x6:Int),.int .i64 (x7:Int),.bool x8,.bool x9,.slice aa x10.length ac,.int .i64 (x11:Int),.string ⟨x12.toArray⟩,.string ⟨x13.toArray⟩] a2 c2 mb _ (fun _ _ X h=>h.rd.cell 1) (fun _ _ X h=>h.rd.cell 0) ?cl16 (fun X h=>h.put (one15 V (x1:Int) (⟨V,(x0:Int),x1,x2,x3,x4,x5,(x6:Int),(x7:Int),x8,x9,x10,(x11:Int),x12,x13⟩:Nd) sa aa x5.length sc x10.length ac)) (fun _ _ X h=>h.row) rfl (one15 V (x1:Int) (⟨V,(x0:Int),x1,x2,x3,x4,x5,(x6:Int),(x7:Int),x8,x9,x10,(x11:Int),x12,x13⟩:Nd) sa aa x5.length sc x10.length ac) (HWR.out.down (by go_grown)) ?_
   case cl16=>
    intro X h
    have hm:=rmay_any V (x1:Int) (⟨V,(x0:Int),x1,x2,x3,x4,x5,(x6:Int),(x7:Int),x8,x9,x10,(x11:Int),x12,x13⟩:Nd) (.slice sa x5.length sc) (.slice aa x10.length ac) HMF.out.1 (by have:=HMF.out.2.1;dsimp only at this ⊢;omega) (by have:=HMF.out.2.2;dsimp only at this ⊢;omega) X h.ts.rd h.ta.rd
    rw [HMB.out] at hm
    exact hm.mono fun e X' ⟨he,hb⟩=>⟨he,h.down hb⟩
   intro w1 h1
   have H1:=Lib.hid h1
   clear h1
   dsimp only
   simp only [Exit.then]
   refine a22_ _ _ ?_
   refine wp_ret ?_
   refine ret_cellN rfl gz (inC V (x1:Int) ⟨V,(x0:Int),x1,x2,x3,x4,x5,(x6:Int),(x7:Int),x8,x9,x10,(x11:Int),x12,x13⟩ (.slice sa x5.length sc) (.slice aa x10.length ac)) (.bool mb) rfl rfl (H1.out.done rfl) rfl rfl ?_
   exact Rdn.of (n:=(⟨V,(x0:Int),x1,x2,x3,x4,x5,(x6:Int),(x7:Int),x8,x9,x10,(x11:Int),x12,x13⟩:Nd)) HRES.out H1.out.ts H1.out.ta H1.out.low
end Go.Proofs.YthogppennalobaaGreatDoor
