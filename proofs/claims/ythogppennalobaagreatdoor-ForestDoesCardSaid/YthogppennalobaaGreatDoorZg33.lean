/- The reader of a row The reader of a row The reader of a row -/
import Derived.Test.YthogppennalobaaGreatDoorZg32
set_option linter.unusedVariables false
set_option linter.unusedSimpArgs false
set_option maxRecDepth 100000
namespace Go.Proofs.YthogppennalobaaGreatDoor
open Go.RowKit Go.Sort Forest OwnR TxO Pl
open Go.Lib renaming hid→Φ
theorem op_node (d:OpD)(sv av:Value)(j:Nat): (opC d sv av)[5+j]?=(inC d.i d.p d.n sv av)[j]?:=by
 unfold opC inC
 match j with
 |0=>rfl
 |1=>rfl
 |2=>rfl
 |3=>rfl
 |4=>rfl
 |5=>rfl
 |6=>rfl
 |7=>rfl
 |8=>rfl
 |9=>rfl
 |10=>rfl
 |11=>rfl
 |12=>rfl
 |13=>rfl
 |14=>rfl
 |n+15=>
  rw [Array.getElem?_eq_none (by simp;omega),Array.getElem?_eq_none (by simp)]
theorem op_range {W:World}{b:Nat}{d:OpD}{sv av:Value}(h:Bk 33 W b (opC d sv av)): W.rangeAt b 5 (inC d.i d.p d.n sv av).toList:=fun j v hv=>by
 rw [h.cell,op_node]
 simpa using hv
def RowH (W:World)(v:Value)(n A B:Nat): Prop:=(v = .slice none 0 0∧n=0)∨∃z c cs,v = .slice (some ⟨z,0,none⟩) n c∧Bk 9 W z cs∧n≤cs.size∧A≤z∧z<B
theorem RowH.of {w W:World}{v:Value}{n:Nat}{xs:List Value}(h:Lw 9 1 w W v n xs): RowH W v n w.heap.size W.heap.size:=by
 rcases h.1.2 with h0 | ⟨z,cap,cur,hv,_,hz,hn,_,hs,_⟩
 ·exact .inl h0
 ·subst hv
  exact .inr ⟨z,cap,cur,rfl,hz,by omega,h.2.2 z rfl,blk_lt hz⟩
theorem RowH.keep {W w':World}{v:Value}{n A B:Nat}(h:RowH W v n A B)(k:∀z cs,Bk 9 W z cs→Bk 9 w' z cs): RowH w' v n A B:=by
 rcases h with h0 | ⟨z,c,cs,hv,hz,h1⟩
 ·exact .inl h0
 ·exact .inr ⟨z,c,cs,hv,k z cs hz,h1⟩
theorem RowH.over {W:World}{v u:Value}{n A B z i:Nat}{cs:Array Value}(h:RowH W v n A B)(hk:Bk 9 W z cs): RowH (W.setCell ⟨z,i,none⟩ u) v n A B:=by
 rcases h with h0 | ⟨z2,c,ds,hv,hz,hs,h1⟩
 ·exact .inl h0
 ·by_cases e:z2=z
  ·subst e
   exact .inr ⟨z2,c,_,hv,hz.same,by simpa using hs,h1⟩
  ·exact .inr ⟨z2,c,ds,hv,hz.oth e,hs,h1⟩
set_option maxHeartbeats 16000000 in
theorem does_plant (d:OpD)(sv av:Value)(hk:d.kind=0){w0 w:World}{f g:Nat}{l m:List Nd}{x y:Int}(h:Two w0 w f g l m x y)(hl:Inv l x)(hm:Inv m y)(hn:Mid d.n)(hs:d.n.scope.length≤8796093022208)(ha:d.n.actors.length≤8796093022208)(h1:Rd w0 sv d.n.scope)(h2:Rd w0 av d.n.actors)(o1:d.n.scope≠[]→∀q,sv.ownBlock=some q→q<w0.heap.size)(o2:d.n.actors≠[]→∀q,av.ownBlock=some q→q<w0.heap.size): Calls Tryz.prog 15 #[kpt f,kpt g,.agg (opC d sv av)] w fun e w'=>Did w0 w f g l m x y d e w':=by
 have HL:=Φ hl
 have HM:=Φ hm
 have HN:=Φ hn
 have HSL:=Φ hs
 have HAL:=Φ ha
 have O1:=Φ o1
 have O2:=Φ o2
 have HS:Hid (∀l x,stepP l x d=((plantP l x d.p d.n d.a).2.2.1,(plantP l x d.p d.n d.a).2.2.2)):=Φ (fun l x=>by unfold stepP;rw [hk];rfl)
 have R1:=Φ h1
 have R2:=Φ h2
 obtain⟨sa,sc,rfl,_⟩:=h1
 obtain⟨aa,ac,rfl,_⟩:=h2
 have BW:Hid (Below w0.heap.size w0 w):=Φ (by obtain⟨⟨ns,_,h3⟩,_⟩:=h;exact h3.below)
 obtain⟨b,hb⟩:∃b,b=w.heap.size:=⟨_,rfl⟩
 obtain⟨W,hW⟩:∃W,W=w.alloc (.cells #[.int .i64 d.on,.int .i64 d.kind,.int .i64 d.a,.int .i64 d.b,.string ⟨d.s.toArray⟩,.int .i64 d.i,.int .i64 d.n.kind,.int .i64 d.p,.string ⟨d.n.subject.toArray⟩,.string ⟨d.n.client.toArray⟩,.string ⟨d.n.audience.toArray⟩,.slice sa d.n.scope.length sc,.int .i64 d.n.born,.int .i64 d.n.exp,.bool d.n.dead,.bool d.n.spent,.slice aa d.n.actors.length ac,.int .i64 d.n.level,.string ⟨d.n.secret.toArray⟩,.string ⟨d.n.data.toArray⟩] 33):=⟨_,rfl⟩
 have K1:Hid (Bk 33 W b #[.int .i64 d.on,.int .i64 d.kind,.int .i64 d.a,.int .i64 d.b,.string ⟨d.s.toArray⟩,.int .i64 d.i,.int .i64 d.n.kind,.int .i64 d.p,.string ⟨d.n.subject.toArray⟩,.string ⟨d.n.client.toArray⟩,.string ⟨d.n.audience.toArray⟩,.slice sa d.n.scope.length sc,.int .i64 d.n.born,.int .i64 d.n.exp,.bool d.n.dead,.bool d.n.spent,.slice aa d.n.actors.length ac,.int .i64 d.n.level,.string ⟨d.n.secret.toArray⟩,.string ⟨d.n.data.toArray⟩]):=Φ (by rw [hW];exact Bk.new hb)
 have T1:Hid (Two w0 W f g l m x y):=Φ (by rw [hW];exact h.down (by go_grown))
 have B1:Hid (Below w0.heap.size w0 W):=Φ (BW.out.trans (by rw [hW];have:=BW.out.size;go_grown))
 have RN:Hid (∀V,Below W.heap.size W V→V.rangeAt b 5 [.int .i64 d.i,.int .i64 d.n.kind,.int .i64 d.p,.string ⟨d.n.subject.toArray⟩,.string ⟨d.n.client.toArray⟩,.string ⟨d.n.audience.toArray⟩,.slice sa d.n.scope.length sc,.int .i64 d.n.born,.int .i64 d.n.exp,.bool d.n.dead,.bool d.n.spent,.slice aa d.n.actors.length ac,.int .i64 d.n.level,.string ⟨d.n.secret.toArray⟩,.string ⟨d.n.data.toArray⟩]):=Φ (fun V hV=>op_range (sv:= .slice sa d.n.scope.length sc) (av:= .slice aa d.n.actors.length ac) (K1.out.below hV))
 have HW:=Φ hW
 have HBB:=Φ hb
 have ck:W.cell? ⟨b,1,none⟩=some (.int .i64 0):=by
  have:=K1.out.cell 1
  rw [hk] at this
  exact this
 obtain⟨U,hU⟩:∃U,U=W.alloc (.cells zeroN 31):=⟨_,rfl⟩
 obtain⟨q,hq⟩:∃q,q=W.heap.size:=⟨_,rfl⟩
 have Z2:Hid (Bk 31 U W.heap.size zeroN):=Φ (by rw [hU];exact Bk.new rfl)
 obtain⟨V,hV⟩:∃V,V=U.setRow W.heap.size #[.int .i64 d.i,.int .i64 d.n.kind,.int .i64 d.p,.string ⟨d.n.subject.toArray⟩,.string ⟨d.n.client.toArray⟩,.string ⟨d.n.audience.toArray⟩,.slice sa d.n.scope.length sc,.int .i64 d.n.born,.int .i64 d.n.exp,.bool d.n.dead,.bool d.n.spent,.slice aa d.n.actors.length ac,.int .i64 d.n.level,.string ⟨d.n.secret.toArray⟩,.string ⟨d.n.data.toArray⟩]:=⟨_,rfl⟩
 have K2:Hid (Bk 31 V q #[.int .i64 d.i,.int .i64 d.n.kind,.int .i64 d.p,.string ⟨d.n.subject.toArray⟩,.string ⟨d.n.client.toArray⟩,.string ⟨d.n.audience.toArray⟩,.slice sa d.n.scope.length sc,.int .i64 d.n.born,.int .i64 d.n.exp,.bool d.n.dead,.bool d.n.spent,.slice aa d.n.actors.length ac,.int .i64 d.n.level,.string ⟨d.n.secret.toArray⟩,.string ⟨d.n.data.toArray⟩]):=Φ (by rw [hV,hq];exact Z2.out.row)
 have B2:Hid (Below W.heap.size W V):=Φ (by rw [hV,hU];exact below_row (by go_grown) (Nat.le_refl _))
 have HU:=Φ hU
 have HV:=Φ hV
 have HQ:=Φ hq
 have c11:(V.alloc (.cells #[] 9)).cell? ⟨b,11,none⟩=some (.slice sa d.n.scope.length sc):=cell_below (by go_grown) ((K1.out.below B2.out).cell 11)
 have HE1:Hid (Lw 9 1 V (V.alloc (.cells #[] 9)) (.slice (some ⟨V.heap.size,0,none⟩) 0 0) 0 []):=Φ (Lw.empty 9 1 (Below.refl _ _))
 have R1a:Hid (Rd (V.alloc (.cells #[] 9)) (.slice sa d.n.scope.length sc) d.n.scope):=Φ ((R1.out.below (B1.out.trans (B2.out.mono B1.out.size))).below (by go_grown))
 clear h hl hm hn hs ha o1 o2 hW hb hk hU hV hq
 unfold opC kpt
 go_enter Tryz.func15,Tryz.ntmps15
 go_upto_region 5 with (first | rw [← HW.out,← HBB.out] | refine wpList_load_mid rfl 31 _ rfl b 5 rfl [.int .i64 d.i,.int .i64 d.n.kind,.int .i64 d.p,.string ⟨d.n.subject.toArray⟩,.string ⟨d.n.client.toArray⟩,.string ⟨d.n.audience.toArray⟩,.slice sa d.n.scope.length sc,.int .i64 d.n.born,.int .i64 d.n.exp,.bool d.n.dead,.bool d.n.spent,.slice aa d.n.actors.length ac,.int .i64 d.n.level,.string ⟨d.n.secret.toArray⟩,.string ⟨d.n.data.toArray⟩] _ (RN.out W (Below.refl _ _)) Tryz.underlying31 rfl i31 ?_ | (have hu:=HU.out;unfold zeroN at hu;rw [← hu];clear hu;refine wpList_put rfl 31 _ _ rfl W.heap.size zeroN #[.int .i64 d.i,.int .i64 d.n.kind,.int .i64 d.p,.string ⟨d.n.subject.toArray⟩,.string ⟨d.n.client.toArray⟩,.string ⟨d.n.audience.toArray⟩,.slice sa d.n.scope.length sc,.int .i64 d.n.born,.int .i64 d.n.exp,.bool d.n.dead,.bool d.n.spent,.slice aa d.n.actors.length ac,.int .i64 d.n.level,.string ⟨d.n.secret.toArray⟩,.string ⟨d.n.data.toArray⟩] rfl rfl Z2.out i31 rfl (one15 d.i d.p d.n sa aa _ sc _ ac) ?_;rw [← HV.out,← HQ.out]) | (at_builtin;refine wp_rows rfl _ _ rfl (.slice (some ⟨V.heap.size,0,none⟩) 0 0) (.slice sa d.n.scope.length sc) [] d.n.scope rfl rfl HE1.out R1a.out (by have:=HSL.out;omega) ?_;intro v1 w3 hs1 hg1;simp only [Nat.zero_add,List.nil_append] at hs1;obtain⟨ya,yc,rfl⟩:=hs1.shape;have K3:=Φ (K2.out.below hs1.2.1);have c6:=K3.out.cell 6;have f6:=K3.out.fro 6;have HS1:=Φ hs1;clear hs1 hg1))
 obtain⟨W4,hW4⟩:∃W4,W4=w3.setCell ⟨q,6,none⟩ (.slice ya d.n.scope.length yc):=⟨_,rfl⟩
 have QW:Hid (W.heap.size≤q):=Φ (Nat.le_of_eq HQ.out.symm)
 have P4:Hid (Below W.heap.size W W4):=Φ (by rw [hW4];exact(B2.out.trans (HS1.out.2.1.mono B2.out.size)).setCell (p:=⟨q,6,none⟩) QW.out _)
 have K4:Hid (Bk 31 W4 q #[.int .i64 d.i,.int .i64 d.n.kind,.int .i64 d.p,.string ⟨d.n.subject.toArray⟩,.string ⟨d.n.client.toArray⟩,.string ⟨d.n.audience.toArray⟩,.slice ya d.n.scope.length yc,.int .i64 d.n.born,.int .i64 d.n.exp,.bool d.n.dead,.bool d.n.spent,.slice aa d.n.actors.length ac,.int .i64 d.n.level,.string ⟨d.n.secret.toArray⟩,.string ⟨d.n.data.toArray⟩]):=Φ (by rw [hW4];exact Bk.same (i:=6) (v:= .slice ya d.n.scope.length yc) K3.out)
 have X4:Hid (Lw 9 1 W W4 (.slice ya d.n.scope.length yc) d.n.scope.length (d.n.scope.map txt)):=Φ ⟨by
  rw [hW4]
  exact OwnR.owns_of HS1.out.1 fun z hz _=>heap_setCell_other w3 _ z _ (fun e=>OwnR.owns_ne HS1.out.1 K3.out (by decide) (by rw [hz];exact congrArg some e)),P4.out,fun z hz=>Nat.le_trans B2.out.size (HS1.out.2.2 z hz)⟩
 rw [← hW4]
 have c16:(W4.alloc (.cells #[] 9)).cell? ⟨b,16,none⟩=some (.slice aa d.n.actors.length ac):=cell_below (by go_grown) ((K1.out.below P4.out).cell 16)
 have HE2:Hid (Lw 9 1 W4 (W4.alloc (.cells #[] 9)) (.slice (some ⟨W4.heap.size,0,none⟩) 0 0) 0 []):=Φ (Lw.empty 9 1 (Below.refl _ _))
 have R2a:Hid (Rd (W4.alloc (.cells #[] 9)) (.slice aa d.n.actors.length ac) d.n.actors):=Φ ((R2.out.below (B1.out.trans (P4.out.mono B1.out.size))).below (by go_grown))
 clear c6 f6 c11 HE1 R1a hW4 ck K3 HS1 HU HV Z2 K2
 go_upto_region 6 with (at_builtin;refine wp_rows rfl _ _ rfl (.slice (some ⟨W4.heap.size,0,none⟩) 0 0) (.slice aa d.n.actors.length ac) [] d.n.actors rfl rfl HE2.out R2a.out (by have:=HAL.out;omega) ?_;intro v2 w5 hs2 hg2;simp only [Nat.zero_add,List.nil_append] at hs2;obtain⟨za,zc,rfl⟩:=hs2.shape;have K5:=Φ (K4.out.below hs2.2.1);have c61:=K5.out.cell 11;have f61:=K5.out.fro 11;have HS2:=Φ hs2;clear hs2 hg2)
 obtain⟨W6,hW6⟩:∃W6,W6=w5.setCell ⟨q,11,none⟩ (.slice za d.n.actors.length zc):=⟨_,rfl⟩
 have P6:Hid (Below W.heap.size W W6):=Φ (by rw [hW6];exact(P4.out.trans (HS2.out.2.1.mono P4.out.size)).setCell (p:=⟨q,11,none⟩) QW.out _)
 have K6:Hid (Bk 31 W6 q #[.int .i64 d.i,.int .i64 d.n.kind,.int .i64 d.p,.string ⟨d.n.subject.toArray⟩,.string ⟨d.n.client.toArray⟩,.string ⟨d.n.audience.toArray⟩,.slice ya d.n.scope.length yc,.int .i64 d.n.born,.int .i64 d.n.exp,.bool d.n.dead,.bool d.n.spent,.slice za d.n.actors.length zc,.int .i64 d.n.level,.string ⟨d.n.secret.toArray⟩,.string ⟨d.n.data.toArray⟩]):=Φ (by rw [hW6];exact Bk.same (i:=11) (v:= .slice za d.n.actors.length zc) K5.out)
 have X6:Hid (Lw 9 1 W W6 (.slice ya d.n.scope.length yc) d.n.scope.length (d.n.scope.map txt)):=Φ ⟨by
  rw [hW6]
  exact OwnR.owns_of (OwnR.owns_below X4.out.1 HS2.out.2.1) fun z hz _=>heap_setCell_other w5 _ z _ (fun e=>OwnR.owns_ne (OwnR.owns_below X4.out.1 HS2.out.2.1) K5.out (by decide) (by rw [hz];exact congrArg some e)),P6.out,X4.out.2.2⟩
 have Y6:Hid (Lw 9 1 W W6 (.slice za d.n.actors.length zc) d.n.actors.length (d.n.actors.map txt)):=Φ ⟨by
  rw [hW6]
  exact OwnR.owns_of HS2.out.1 fun z hz _=>heap_setCell_other w5 _ z _ (fun e=>OwnR.owns_ne HS2.out.1 K5.out (by decide) (by rw [hz];exact congrArg some e)),P6.out,fun z hz=>Nat.le_trans P4.out.size (HS2.out.2.2 z hz)⟩
 have TQ:Hid (TwoQ w0 W6 f g l m x y W.heap.size W6.heap.size):=Φ (T1.out.q P6.out)
 have b6:=(K1.out.below P6.out)
 have ca:W6.cell? ⟨b,2,none⟩=some (.int .i64 d.a):=b6.cell 2
 obtain⟨A,hA⟩:∃A,A=d.a:=⟨_,rfl⟩
 have HPA:Hid (Calls Tryz.prog 26 #[.pointer (some ⟨f,0,none⟩),.agg #[.int .i64 d.i,.int .i64 d.n.kind,.int .i64 d.p,.string ⟨d.n.subject.toArray⟩,.string ⟨d.n.client.toArray⟩,.string ⟨d.n.audience.toArray⟩,.slice ya d.n.scope.length yc,.int .i64 d.n.born,.int .i64 d.n.exp,.bool d.n.dead,.bool d.n.spent,.slice za d.n.actors.length zc,.int .i64 d.n.level,.string ⟨d.n.secret.toArray⟩,.string ⟨d.n.data.toArray⟩],.int .i64 A] W6 fun e w'=>e = .returned (.tuple #[.int .i64 (plantP l x d.p d.n A).1,.int .i64 (plantP l x d.p d.n A).2.1])∧TwoQ w0 w' f g (plantP l x d.p d.n A).2.2.1 m (plantP l x d.p d.n A).2.2.2 y W.heap.size W6.heap.size∧W6.heap.size≤w'.heap.size∧(∀t b cs,Bk t W6 b cs→t≠71→t≠72→t≠75→Bk t w' b cs)∧KeepM f g W6 w'):=Φ (TQ.out.goA (Nat.le_refl _) fun ns e hf=>by
  have hh:=plant_call hf (few_ns e HL.out) (by rw [e];exact HL.out.good) d.i d.p d.n (.slice ya d.n.scope.length yc) (.slice za d.n.actors.length zc) HN.out (Lw.tx X6.out).rd (Lw.tx Y6.out).rd (fun _ z hz hw=>by
   obtain⟨_,cs,hb⟩:=TxO.owns_block (Lw.tx X6.out) hz
   exact OwnsB.no hf (by decide) (by decide) (by decide) hb hw) (fun _ z hz hw=>by
   obtain⟨_,cs,hb⟩:=TxO.owns_block (Lw.tx Y6.out) hz
   exact OwnsB.no hf (by decide) (by decide) (by decide) hb hw) A
  rw [e] at hh
  exact hh)
 have HK6:=Φ b6
 have HAE:=Φ hA
 rw [← hA] at ca
 rw [← hW6]
 clear b6 c61 f61 c16 HE2 R2a hW6 K5 K4 X4 HS2 hA
 go_wp2_with (refine wpList_load_row rfl 31 _ rfl q rfl 31 _ (0,0) _ K6.out Tryz.underlying31 rfl i31 ?_)
 refine HPA.out.mono ?_
 rintro e w7 ⟨rfl,tq,hsz,keep,km⟩
 have KM7:=Φ km
 clear km
 have TQ7:=Φ tq
 have SZ7:=Φ hsz
 have b7:=keep 33 b _ HK6.out (by decide) (by decide) (by decide)
 have K7:=Φ (keep 31 q _ K6.out (by decide) (by decide) (by decide))
 have KP7:=Φ keep
 have HK7:=Φ b7
 have RN7:Hid (w7.rangeAt b 5 [.int .i64 d.i,.int .i64 d.n.kind,.int .i64 d.p,.string ⟨d.n.subject.toArray⟩,.string ⟨d.n.client.toArray⟩,.string ⟨d.n.audience.toArray⟩,.slice sa d.n.scope.length sc,.int .i64 d.n.born,.int .i64 d.n.exp,.bool d.n.dead,.bool d.n.spent,.slice aa d.n.actors.length ac,.int .i64 d.n.level,.string ⟨d.n.secret.toArray⟩,.string ⟨d.n.data.toArray⟩]):=Φ (op_range (sv:= .slice sa d.n.scope.length sc) (av:= .slice aa d.n.actors.length ac) b7)
 have ca7:w7.cell? ⟨b,2,none⟩=some (.int .i64 A):=by rw [HAE.out];exact b7.cell 2
 have B7:Hid (Below w0.heap.size w0 w7):=Φ (by obtain⟨⟨ns,_,h3,_⟩,_⟩:=tq;exact h3.below)
 have HPB:Hid (Calls Tryz.prog 33 #[.pointer (some ⟨g,0,none⟩),.agg #[.int .i64 d.i,.int .i64 d.n.kind,.int .i64 d.p,.string ⟨d.n.subject.toArray⟩,.string ⟨d.n.client.toArray⟩,.string ⟨d.n.audience.toArray⟩,.slice sa d.n.scope.length sc,.int .i64 d.n.born,.int .i64 d.n.exp,.bool d.n.dead,.bool d.n.spent,.slice aa d.n.actors.length ac,.int .i64 d.n.level,.string ⟨d.n.secret.toArray⟩,.string ⟨d.n.data.toArray⟩],.int .i64 A] w7 fun e w'=>e = .returned (.tuple #[.int .i64 (plantP m y d.p d.n A).1,.int .i64 (plantP m y d.p d.n A).2.1])∧TwoQ w0 w' f g (plantP l x d.p d.n A).2.2.1 (plantP m y d.p d.n A).2.2.1 (plantP l x d.p d.n A).2.2.2 (plantP m y d.p d.n A).2.2.2 W.heap.size W6.heap.size∧w7.heap.size≤w'.heap.size∧(∀t b cs,Bk t w7 b cs→t≠40→Bk t w' b cs)∧KeepM f g w7 w'):=Φ (TQ7.out.goB hsz fun rs e hf=>by
  have hg0:w0.heap.size≤g:=by obtain⟨_,⟨rs,_,h3,_⟩⟩:=tq;exact h3.base
  have hh:=rplant_any hf (ok_rs e HM.out) (few_rs e HM.out) (by rw [e];exact HM.out.good) d.i d.p d.n (.slice sa d.n.scope.length sc) (.slice aa d.n.actors.length ac) HN.out (by have:=HSL.out;omega) (by have:=HAL.out;omega) (R1.out.below B7.out) (R2.out.below B7.out) (fun he e=>by have:=O1.out he g e;omega) (fun he e=>by have:=O2.out he g e;omega) A
  rw [e] at hh
  exact hh)
 clear tq hsz keep b7 HPA TQ
 go_wp2_with (refine wpList_load_mid rfl 31 _ rfl b 5 rfl [.int .i64 d.i,.int .i64 d.n.kind,.int .i64 d.p,.string ⟨d.n.subject.toArray⟩,.string ⟨d.n.client.toArray⟩,.string ⟨d.n.audience.toArray⟩,.slice sa d.n.scope.length sc,.int .i64 d.n.born,.int .i64 d.n.exp,.bool d.n.dead,.bool d.n.spent,.slice aa d.n.actors.length ac,.int .i64 d.n.level,.string ⟨d.n.secret.toArray⟩,.string ⟨d.n.data.toArray⟩] _ RN7.out Tryz.underlying31 rfl i31 ?_)
 refine HPB.out.mono ?_
 rintro e w8 ⟨rfl,tq,hsz,keep,km⟩
 have KM8:=Φ km
 clear km
 have TQ8:=Φ tq
 have HK3:Hid (KeepM f g w w8):=Φ ((((KeepM.of (by rw [HW.out];go_grown)).trans (KeepM.of P6.out)).trans KM7.out).trans KM8.out)
 have K8:=Φ (keep 31 q _ K7.out (by decide))
 have H8a:Hid (RowH w8 (.slice ya d.n.scope.length yc) d.n.scope.length W.heap.size W6.heap.size):=Φ (((RowH.of X6.out).keep (fun z cs hz=>KP7.out 9 z cs hz (by decide) (by decide) (by decide))).keep (fun z cs hz=>keep 9 z cs hz (by decide)))
 have H8b:Hid (RowH w8 (.slice za d.n.actors.length zc) d.n.actors.length W.heap.size W6.heap.size):=Φ (((RowH.of Y6.out).keep (fun z cs hz=>KP7.out 9 z cs hz (by decide) (by decide) (by decide))).keep (fun z cs hz=>keep 9 z cs hz (by decide)))
 have HWW:Hid (w0.heap.size≤W.heap.size):=Φ B1.out.size
 have HLW:Hid (w.heap.size≤W.heap.size):=Φ (by rw [HW.out];exact(show Below w.heap.size w _ by go_grown).size)
 obtain⟨p1,hp1⟩:∃p:Int,p=(plantP l x d.p d.n A).1:=⟨_,rfl⟩
 obtain⟨p2,hp2⟩:∃p:Int,p=(plantP l x d.p d.n A).2.1:=⟨_,rfl⟩
 obtain⟨r1,hr1⟩:∃p:Int,p=(plantP m y d.p d.n A).1:=⟨_,rfl⟩
 obtain⟨r2,hr2⟩:∃p:Int,p=(plantP m y d.p d.n A).2.1:=⟨_,rfl⟩
 obtain⟨L',hL'⟩:∃p,p=(plantP l x d.p d.n A).2.2.1:=⟨_,rfl⟩
 obtain⟨M',hM'⟩:∃p,p=(plantP m y d.p d.n A).2.2.1:=⟨_,rfl⟩
 obtain⟨X',hX'⟩:∃p,p=(plantP l x d.p d.n A).2.2.2:=⟨_,rfl⟩
 obtain⟨Y',hY'⟩:∃p,p=(plantP m y d.p d.n A).2.2.2:=⟨_,rfl⟩
 have HEQ:Hid (l=m→x=y→p1=r1∧p2=r2):=Φ (by rintro rfl rfl;exact⟨hp1.trans hr1.symm,hp2.trans hr2.symm⟩)
 have HS2:Hid (stepP l x d=(L',X')∧stepP m y d=(M',Y')):=Φ (by rw [HS.out,HS.out,hL',hX',hM',hY',HAE.out];exact⟨rfl,rfl⟩)
 rw [← hL',← hM',← hX',← hY'] at TQ8
 rw [← hp1,← hp2,← hr1,← hr2]
 obtain⟨lo,hlo⟩:∃z,z=W.heap.size:=⟨_,rfl⟩
 obtain⟨up,hup⟩:∃z,z=W6.heap.size:=⟨_,rfl⟩
 rw [← hlo,← hup] at TQ8 H8a H8b
 rw [← hlo] at HWW HLW
 clear tq hsz keep HPB hp1 hp2 hr1 hr2 hL' hM' hX' hY' KP7 X6 Y6 HK6 HK7 RN RN7 ca ca7 K6 K7 TQ7 SZ7 B7 P6 P4 T1 K1 B1 BW R1 R2 O1 O2 HL HM HN HS HAE HW HBB HQ QW B2 hlo hup
 obtain⟨n1,hn1⟩:∃z,z=d.n.scope.length:=⟨_,rfl⟩
 obtain⟨n2,hn2⟩:∃z,z=d.n.actors.length:=⟨_,rfl⟩
 rw [← hn1] at HSL
 rw [← hn2] at HAL
 rw [← hn1,← hn2] at K8
 rw [← hn1] at H8a
 rw [← hn2] at H8b
 rw [← hn1,← hn2]
 clear hn1 hn2
 go_wp2_with fail
 go_loopw [12] (fun iv wr=>∃i:Nat,i≤n1∧iv = .int .i64 (i:Int)∧Hid (TwoQ w0 wr f g L' M' X' Y' lo up)∧Hid (Bk 31 wr q #[.int .i64 d.i,.int .i64 d.n.kind,.int .i64 d.p,.string ⟨d.n.subject.toArray⟩,.string ⟨d.n.client.toArray⟩,.string ⟨d.n.audience.toArray⟩,.slice ya n1 yc,.int .i64 d.n.born,.int .i64 d.n.exp,.bool d.n.dead,.bool d.n.spent,.slice za n2 zc,.int .i64 d.n.level,.string ⟨d.n.secret.toArray⟩,.string ⟨d.n.data.toArray⟩])∧Hid (RowH wr (.slice ya n1 yc) n1 lo up)∧Hid (RowH wr (.slice za n2 zc) n2 lo up)∧Hid (KeepM f g w wr)) (fun iv _=>n1 - (intOf iv).toNat)
 case atStart=>exact⟨0,Nat.zero_le _,rfl,TQ8,K8,H8a,H8b,HK3⟩
 case round=>
  obtain⟨i,hi,rfl,HT,HK,HA1,HA2,HKw⟩:=hrel
  clear HK3
  have hb1:=HSL.out
  have cs6:wr.cell? ⟨q,6,none⟩=some (.slice ya n1 yc):=HK.out.cell 6
  clear TQ8 K8 H8a H8b
  by_cases hlt:i<n1
  ·have hltI:(i:Int)<(n1:Int):=by omega
   rcases HA1.out with ⟨_,h0⟩ | ⟨z,c,cs,hv,hz,hsz,hA,hB⟩
   ·omega
   ·simp only [Value.slice.injEq] at hv
    obtain⟨rfl,_,rfl⟩:=hv
    have cz:wr.cell? ⟨z,i,none⟩=some (cs[i]'(by omega)):=by rw [hz.cell];exact Array.getElem?_eq_getElem _
    have fz:=hz.fro i
    have T2:Hid (TwoQ w0 (wr.setCell ⟨z,i,none⟩ (.string ⟨#[111,118,101,114]⟩)) f g L' M' X' Y' lo up):=Φ (HT.out.over hz hA hB (Nat.le_trans HWW.out hA) ((Only.refl [z] wr).setCell _ (.inl (by simp)) _))
    have K2:Hid (Bk 31 (wr.setCell ⟨z,i,none⟩ (.string ⟨#[111,118,101,114]⟩)) q #[.int .i64 d.i,.int .i64 d.n.kind,.int .i64 d.p,.string ⟨d.n.subject.toArray⟩,.string ⟨d.n.client.toArray⟩,.string ⟨d.n.audience.toArray⟩,.slice (some ⟨z,0,none⟩) n1 yc,.int .i64 d.n.born,.int .i64 d.n.exp,.bool d.n.dead,.bool d.n.spent,.slice za n2 zc,.int .i64 d.n.level,.string ⟨d.n.secret.toArray⟩,.string ⟨d.n.data.toArray⟩]):=Φ (HK.out.oth (fun e=>bk_ne HK.out hz (by decide) e))
    have A2:Hid (RowH (wr.setCell ⟨z,i,none⟩ (.string ⟨#[111,118,101,114]⟩)) (.slice (some ⟨z,0,none⟩) n1 yc) n1 lo up):=Φ (HA1.out.over hz)
    have B2:Hid (RowH (wr.setCell ⟨z,i,none⟩ (.string ⟨#[111,118,101,114]⟩)) (.slice za n2 zc) n2 lo up):=Φ (HA2.out.over hz)
    have HKn:Hid (KeepM f g w (wr.setCell ⟨z,i,none⟩ (.string ⟨#[111,118,101,114]⟩))):=Φ (HKw.out.fresh hz (Nat.le_trans HLW.out hA) ((Only.refl [z] wr).setCell _ (.inl (by simp)) _) (by obtain⟨⟨n9,_,h9,_⟩,_⟩:=T2.out;exact⟨n9,_,h9.fr⟩))
    generalize cs[i]=old at cz
    clear hz hsz hA hB HT HK HA1 HA2
    go_wp2_with fail
    go_roundw
    case rel=>exact⟨i+1,by omega,by go_num,T2,K2,A2,B2,HKn⟩
    case measure=>simp [intOf];omega
  ·have hltI:¬(i:Int)<(n1:Int):=by omega
   have TQ9:=HT
   have K9:=HK
   have H9:=HA2
   have c61:wr.cell? ⟨q,11,none⟩=some (.slice za n2 zc):=HK.out.cell 11
   clear HA1 HA2 HT HK
   obtain⟨wo,hwo⟩:∃z,z=wr:=⟨_,rfl⟩
   subst hwo
   have e1:i=n1:=by omega
   go_wp2_with fail
   go_loopw [13] (fun jv ws=>∃j:Nat,j≤n2∧jv = .int .i64 (j:Int)∧Hid (TwoQ w0 ws f g L' M' X' Y' lo up)∧Hid (Bk 31 ws q #[.int .i64 d.i,.int .i64 d.n.kind,.int .i64 d.p,.string ⟨d.n.subject.toArray⟩,.string ⟨d.n.client.toArray⟩,.string ⟨d.n.audience.toArray⟩,.slice ya n1 yc,.int .i64 d.n.born,.int .i64 d.n.exp,.bool d.n.dead,.bool d.n.spent,.slice za n2 zc,.int .i64 d.n.level,.string ⟨d.n.secret.toArray⟩,.string ⟨d.n.data.toArray⟩])∧Hid (RowH ws (.slice za n2 zc) n2 lo up)∧Hid (KeepM f g w ws)) (fun jv _=>n2 - (intOf jv).toNat)
   case atStart=>exact⟨0,Nat.zero_le _,rfl,TQ9,K9,H9,HKw⟩
   case round=>
    obtain⟨j,hj,rfl,HT,HK,HA2,HKx⟩:=hrel
    clear HKw
    have hb2:=HAL.out
    have cs11:wr.cell? ⟨q,11,none⟩=some (.slice za n2 zc):=HK.out.cell 11
    clear TQ9 K9 H9
    by_cases hlt2:j<n2
    ·have hltJ:(j:Int)<(n2:Int):=by omega
     rcases HA2.out with ⟨_,h0⟩ | ⟨z,c,cs,hv,hz,hsz,hA,hB⟩
     ·omega
     ·simp only [Value.slice.injEq] at hv
      obtain⟨rfl,_,rfl⟩:=hv
      have cz:wr.cell? ⟨z,j,none⟩=some (cs[j]'(by omega)):=by rw [hz.cell];exact Array.getElem?_eq_getElem _
      have fz:=hz.fro j
      have T2:Hid (TwoQ w0 (wr.setCell ⟨z,j,none⟩ (.string ⟨#[111,118,101,114]⟩)) f g L' M' X' Y' lo up):=Φ (HT.out.over hz hA hB (Nat.le_trans HWW.out hA) ((Only.refl [z] wr).setCell _ (.inl (by simp)) _))
      have K2:Hid (Bk 31 (wr.setCell ⟨z,j,none⟩ (.string ⟨#[111,118,101,114]⟩)) q #[.int .i64 d.i,.int .i64 d.n.kind,.int .i64 d.p,.string ⟨d.n.subject.toArray⟩,.string ⟨d.n.client.toArray⟩,.string ⟨d.n.audience.toArray⟩,.slice ya n1 yc,.int .i64 d.n.born,.int .i64 d.n.exp,.bool d.n.dead,.bool d.n.spent,.slice (some ⟨z,0,none⟩) n2 zc,.int .i64 d.n.level,.string ⟨d.n.secret.toArray⟩,.string ⟨d.n.data.toArray⟩]):=Φ (HK.out.oth (fun e=>bk_ne HK.out hz (by decide) e))
      have B2:Hid (RowH (wr.setCell ⟨z,j,none⟩ (.string ⟨#[111,118,101,114]⟩)) (.slice (some ⟨z,0,none⟩) n2 zc) n2 lo up):=Φ (HA2.out.over hz)
      have HKn:Hid (KeepM f g w (wr.setCell ⟨z,j,none⟩ (.string ⟨#[111,118,101,114]⟩))):=Φ (HKx.out.fresh hz (Nat.le_trans HLW.out hA) ((Only.refl [z] wr).setCell _ (.inl (by simp)) _) (by obtain⟨⟨n9,_,h9,_⟩,_⟩:=T2.out;exact⟨n9,_,h9.fr⟩))
      generalize cs[j]=old at cz
      clear hz hsz hA hB HT HK HA2
      go_wp2_with fail
      go_roundw
      case rel=>exact⟨j+1,by omega,by go_num,T2,K2,B2,HKn⟩
      case measure=>simp [intOf];omega
    ·have hltJ:¬(j:Int)<(n2:Int):=by omega
     have TT:=Φ HT.out.two
     clear HA2 HT HK
     by_cases q1:p1=r1
     ·have q1b:(p1 == r1)=true:=by simpa using q1
      by_cases q2:p2=r2
      ·have q2b:(p2 == r2)=true:=by simpa using q2
       go_wp2_with fail
       go_ret
       unfold Did
       rw [HS2.out.1,HS2.out.2]
       exact⟨true,by first | rfl | simp [q1,q2],TT.out,fun _ _=>rfl,HKx.out.did⟩
      ·have q2b:(p2 == r2)=false:=by simpa using q2
       have HF:Hid (l=m→x=y→false=true):=Φ (fun h1 h2=>absurd (HEQ.out h1 h2).2 q2)
       go_wp2_with fail
       go_ret
       unfold Did
       rw [HS2.out.1,HS2.out.2]
       exact⟨false,by first | rfl | simp [q1,q2],TT.out,HF.out,HKx.out.did⟩
     ·have q1b:(p1 == r1)=false:=by simpa using q1
      have HF:Hid (l=m→x=y→false=true):=Φ (fun h1 h2=>absurd (HEQ.out h1 h2).1 q1)
      go_wp2_with fail
      go_ret
      unfold Did
      rw [HS2.out.1,HS2.out.2]
      exact⟨false,by first | rfl | simp [q1],TT.out,HF.out,HKx.out.did⟩
theorem may_lift {p:Int}{n:Nd}{lev:Int}(h:mayP p n=true)(h1:1≤lev)(h2:lev≤3): mayP p (liftF lev n)=true:=by
 unfold mayP at *
 simp only [Bool.and_eq_true,decide_eq_true_eq] at *
 have h0:=h.1.1.1.1.2
 have h3:=h.1.1.1.2
 exact⟨⟨⟨⟨⟨h.1.1.1.1.1,by show 0≤max n.level lev;omega⟩,by show max n.level lev≤3;omega⟩,h.1.1.2⟩,h.1.2⟩,h.2⟩
theorem may_note {p:Int}{n:Nd}{s:Bs}(h:mayP p n=true)(hs:s.length≤256): mayP p (noteF s n)=true:=by
 unfold mayP at *
 simp only [Bool.and_eq_true,decide_eq_true_eq] at *
 exact⟨h.1,by show(s.length:Int)≤256;omega⟩
structure Soft (F:Nd→Nd): Prop where
 mild:Fixes F
 sec:∀n,(F n).secret=n.secret
theorem inv_map {l:List Nd}{x:Int}{F:Nd→Nd}(h:Inv l x)(hF:Soft F)(hm:∀n∈l,mayP (n.parent:Int) (F n)=true)(hd:∀n∈l,Mid (F n)): Inv (l.map F) x where
 ok:=h.ok.map hF.mild
 good:=⟨h.good.1,fun m hm=>by
  obtain⟨n,hn,rfl⟩:=List.mem_map.1 hm
  rw [hF.mild.id]
  exact h.good.2 n hn⟩
 few:=by rw [List.length_map];exact h.few
 most:=h.most
 may:=fun m hm'=>by
  obtain⟨n,hn,rfl⟩:=List.mem_map.1 hm'
  rw [hF.mild.parent]
  exact hm n hn
 mid:=fun m hm'=>by
  obtain⟨n,hn,rfl⟩:=List.mem_map.1 hm'
  exact hd n hn
 sec:=by
  have:(l.map F).map (·.secret)=l.map (·.secret):=by
   rw [List.map_map]
   exact List.map_congr_left fun n _=>hF.sec n
  rw [this]
  exact h.sec
theorem inv_set {l:List Nd}{x:Int}{F:Nd→Nd}(h:Inv l x)(id:Nat)(hF:Mild F)(hs:∀n,(F n).secret=n.secret)(hm:∀n∈l,mayP (n.parent:Int) (F n)=true)(hd:∀n∈l,Mid (F n)): Inv (setN l id F) x:=by
 refine inv_map h ⟨hF.set id,fun n=>?_⟩ (fun n hn=>?_) (fun n hn=>?_)
 ·split
  ·exact hs n
  ·rfl
 ·split
  ·exact hm n hn
  ·exact h.may n hn
 ·split
  ·exact hd n hn
  ·exact h.mid n hn
theorem mid_kill {n:Nd}(h:Mid n): Mid (killF n):=⟨h.1,h.2,h.3,h.4,h.5,h.6,h.7⟩
theorem mid_spend {n:Nd}(h:Mid n): Mid (spendF n):=⟨h.1,h.2,h.3,h.4,h.5,h.6,h.7⟩
theorem mid_lift {n:Nd}(lev:Int)(h:Mid n): Mid (liftF lev n):=⟨h.1,h.2,h.3,h.4,h.5,h.6,h.7⟩
theorem mid_note {n:Nd}{s:Bs}(hs:s.length≤256)(h:Mid n): Mid (noteF s n):=⟨h.1,h.2,h.3,h.4,h.5,h.6,by show s.length≤_;omega⟩
theorem inv_filter {l:List Nd}{x:Int}(h:Inv l x)(p:Nd→Bool): Inv (l.filter p) x where
 ok:=h.ok.filter p
 good:=⟨h.good.1,fun m hm=>h.good.2 m (List.mem_filter.1 hm).1⟩
 few:=Nat.le_trans (List.length_filter_le _ _) h.few
 most:=h.most
 may:=fun m hm=>h.may m (List.mem_filter.1 hm).1
 mid:=fun m hm=>h.mid m (List.mem_filter.1 hm).1
 sec:=h.sec.sublist (List.filter_sublist.map _)
theorem inv_kill {l:List Nd}{x:Int}(h:Inv l x)(id:Nat): Inv (setN l id killF) x:=inv_set h id mild_kill (fun _=>rfl) (fun n hn=>h.may n hn) (fun n hn=>mid_kill (h.mid n hn))
theorem inv_killOf {l:List Nd}{x:Int}(h:Inv l x)(p:Bs): Inv (l.map fun n=>if isOfP n p then killF n else n) x:=by
 refine inv_map h ⟨⟨fun n=>by split<;>rfl,fun n=>by split<;>rfl⟩,fun n=>by split<;>rfl⟩ (fun n hn=>?_) (fun n hn=>?_)
 ·split
  ·exact h.may n hn
  ·exact h.may n hn
 ·split
  ·exact mid_kill (h.mid n hn)
  ·exact h.mid n hn
theorem inv_plant {l:List Nd}{x:Int}(h:Inv l x)(p now:Int)(n:Nd)(hn:Mid n): Inv (plantP l x p n now).2.2.1 (plantP l x p n now).2.2.2:=by
 unfold plantP
 by_cases h1:mayP p n=true
 ·rw [if_pos h1]
  by_cases h2:(l.find? fun m=>m.secret == n.secret).isSome=true
  ·rw [if_pos h2];exact h
  ·rw [if_neg h2]
   by_cases h3:(decide (0<p)&&((findI l p).isNone||struck l p.toNat))=true
   ·rw [if_pos h3];exact h
   ·rw [if_neg h3]
    by_cases h4:(decide (256≤((prune l now).length:Int))||decide (99999999≤x))=true
    ·rw [if_pos h4];exact inv_filter h _
    ·rw [if_neg h4]
     have hq:=inv_filter h (keeps l now)
     simp only [Bool.or_eq_true,decide_eq_true_eq,not_or] at h4
     have h0:=h.good.1
     have hp:0≤p:=by
      by_cases k:0≤p
      ·exact k
      ·rw [may_no2 (decide_eq_false k)] at h1;cases h1
     have hpx:p<x:=by
      by_cases k:0<p
      ·rw [decide_eq_true k,Bool.true_and] at h3
       cases e:findI l p with
       |none=>rw [e] at h3;simp at h3
       |some m=>
        have hm:m∈l:=List.mem_of_find?_eq_some e
        have he:=List.find?_some e
        have:=h.good.2 m hm
        simp at he
        omega
      ·omega
     have hmay:mayP ((newN n x p).parent:Int) (newN n x p)=true:=by
      have e:((newN n x p).parent:Int)=p:=by show(p.toNat:Int)=p;omega
      rw [e]
      exact h1
     have hno:∀m∈l,m.secret≠n.secret:=fun m hm e=>h2 (by
      rw [List.find?_isSome]
      exact⟨m,hm,by simp [e]⟩)
     show Inv (prune l now++[newN n x p]) (x+1)
     refine⟨hq.ok.snoc (by show 0<x.toNat;omega) (by show p.toNat<x.toNat;omega) (fun m hm=>by have:=hq.good.2 m hm;show m.id<x.toNat;omega),⟨by omega,fun m hm=>?_⟩,?_,by omega,fun m hm=>?_,fun m hm=>?_,?_⟩
     ·rcases List.mem_append.1 hm with hm | hm
      ·have:=hq.good.2 m hm;omega
      ·rw [List.mem_singleton] at hm;subst hm;show((x.toNat:Nat):Int)<x+1;omega
     ·have:(prune l now).length<256:=by omega
      rw [List.length_append,List.length_singleton]
      omega
     ·rcases List.mem_append.1 hm with hm | hm
      ·exact hq.may m hm
      ·rw [List.mem_singleton] at hm;subst hm;exact hmay
     ·rcases List.mem_append.1 hm with hm | hm
      ·exact hq.mid m hm
      ·rw [List.mem_singleton] at hm;subst hm;exact⟨hn.1,hn.2,hn.3,hn.4,hn.5,hn.6,hn.7⟩
     ·rw [List.map_append,List.nodup_append]
      refine⟨hq.sec,by simp,fun a ha b hb=>?_⟩
      obtain⟨m,hm,rfl⟩:=List.mem_map.1 ha
      simp only [List.map_cons,List.map_nil,List.mem_singleton] at hb
      subst hb
      exact hno m (List.mem_filter.1 hm).1
 ·rw [if_neg h1];exact h
theorem inv_step {l:List Nd}{x:Int}(h:Inv l x)(d:OpD)(hn:Mid d.n): Inv (stepP l x d).1 (stepP l x d).2:=by
 unfold stepP
 split
 ·exact inv_plant h d.p d.a d.n hn
 ·split
  ·unfold spendP
   split
   ·exact h
   ·split
    ·exact inv_kill h _
    ·split
     ·exact inv_set h _ mild_spend (fun _=>rfl) (fun n hn=>h.may n hn) (fun n hn=>mid_spend (h.mid n hn))
     ·exact h
  ·split
   ·unfold killP
    split
    ·exact h
    ·exact inv_kill h _
   ·split
    ·exact inv_killOf h _
    ·split
     ·unfold liftP
      split
      ·exact h
      ·split
       ·rename_i hc
        exact inv_set h _ (mild_lift _) (fun _=>rfl) (fun n hn=>may_lift (h.may n hn) hc.2.1 hc.2.2) (fun n hn=>mid_lift _ (h.mid n hn))
       ·exact h
     ·split
      ·unfold noteP
       split
       ·exact h
       ·split
        ·rename_i hc
         exact inv_set h _ (mild_note _) (fun _=>rfl) (fun n hn=>may_note (h.may n hn) hc) (fun n hn=>mid_note hc (h.mid n hn))
        ·exact h
      ·split
       ·exact inv_filter h _
       ·exact h
structure OpW (w0:World)(d:OpD)(sv av:Value): Prop where
 mid:Mid d.n
 str:d.s.length≤140737488355328
 sl:d.n.scope.length≤8796093022208
 al:d.n.actors.length≤8796093022208
 r1:Rd w0 sv d.n.scope
 r2:Rd w0 av d.n.actors
 o1:d.n.scope≠[]→∀q,sv.ownBlock=some q→q<w0.heap.size
 o2:d.n.actors≠[]→∀q,av.ownBlock=some q→q<w0.heap.size
theorem does_any (d:OpD)(sv av:Value){w0 w:World}{f g:Nat}{l m:List Nd}{x y:Int}(ho:OpW w0 d sv av)(h:Two w0 w f g l m x y)(hl:Inv l x)(hm:Inv m y): Calls Tryz.prog 15 #[kpt f,kpt g,.agg (opC d sv av)] w fun e w'=>Did w0 w f g l m x y d e w':=by
 by_cases h0:d.kind=0
 ·exact does_plant d sv av h0 h hl hm ho.mid ho.sl ho.al ho.r1 ho.r2 ho.o1 ho.o2
 by_cases h1:d.kind=1
 ·exact does_tell d sv av h1 h hl hm
 by_cases h2:d.kind=2
 ·exact does_spend d sv av h2 h hl hm
 by_cases h3:d.kind=3
 ·exact does_kill d sv av h3 h hl hm
 by_cases h4:d.kind=4
 ·exact does_killOf d sv av h4 h hl hm
 by_cases h5:d.kind=5
 ·exact does_lift d sv av h5 h hl hm
 by_cases h6:d.kind=6
 ·exact does_note d sv av h6 h hl hm ho.str
 by_cases h7:d.kind=7
 ·exact does_prune d sv av h7 h hl hm
 exact does_other d sv av ⟨h0,h1,h2,h3,h4,h5,h6,h7⟩ h
theorem inv_nil:Inv [] 1:=⟨trivial,⟨by decide,fun m hm=>absurd hm List.not_mem_nil⟩,by decide,by decide,fun m hm=>absurd hm List.not_mem_nil,fun m hm=>absurd hm List.not_mem_nil,by simp⟩
def Sc (w0 w:World)(v:Value)(ds:List (OpD×Value×Value)): Prop:=∃a c,v = .slice a ds.length c∧ds.length≤1000000000000∧∀i (h:i<ds.length),OpW w0 ds[i].1 ds[i].2.1 ds[i].2.2∧∃q o,a=some ⟨q,o,none⟩∧w.rangeAt q (o+i*20) (opC ds[i].1 ds[i].2.1 ds[i].2.2).toList
theorem Sc.below {w0 w w':World}{v:Value}{ds:List (OpD×Value×Value)}(h:Sc w0 w v ds)(hb:Below w.heap.size w w'): Sc w0 w' v ds:=by
 obtain⟨a,c,h1,h2,h3⟩:=h
 exact⟨a,c,h1,h2,fun i hi=>by obtain⟨h4,q,o,h5,h6⟩:=h3 i hi;exact⟨h4,q,o,h5,range_below h6 hb⟩⟩
theorem i33:(Tryz.prog.info? 33).map (·.size)=some 20:=by kernel_rfl
end Go.Proofs.YthogppennalobaaGreatDoor
