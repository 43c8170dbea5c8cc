/- The reader of a row -/
import Derived.Test.YthogppennalobaaGreatDoorZg28
import Derived.Test.YthogppennalobaaGreatDoorZg07
import Derived.Test.YthogppennalobaaGreatDoorZg15
import Derived.Test.YthogppennalobaaGreatDoorZg08
import Derived.Test.YthogppennalobaaGreatDoorZg24
import Derived.Test.YthogppennalobaaGreatDoorZg23
set_option linter.unusedVariables false
set_option linter.unusedSimpArgs false
set_option maxRecDepth 100000
namespace Go.Proofs.YthogppennalobaaGreatDoor
open Go.RowKit Go.Sort Forest OwnR TxO Pl
open Go.Lib renaming hid→Φ
structure Inv (l:List Nd)(x:Int): Prop where
 ok:Ok l
 good:Good l x
 few:l.length≤256
 most:x≤99999999
 may:∀n∈l,mayP (n.parent:Int) n=true
 mid:∀n∈l,Mid n
 sec:(l.map (·.secret)).Nodup
theorem few_ns {ns:Ns}{l:List Nd}{x:Int}(e:nodes ns=l)(h:Inv l x): ns.length≤1000000:=by rw [len_nodes e];have:=h.few;omega
theorem few_rs {rs:List (Nd×Value×Value)}{m:List Nd}{y:Int}(e:nds rs=m)(h:Inv m y): rs.length≤1000000:=by
 have:=h.few
 rw [← e] at this
 simp only [nds,List.length_map] at this
 omega
theorem ok_rs {rs:List (Nd×Value×Value)}{m:List Nd}{y:Int}(e:nds rs=m)(h:Inv m y): Ok (nds rs):=e▸h.ok
def Did (w0 w:World)(f g:Nat)(l m:List Nd)(x y:Int)(d:OpD)(e:Ending)(w':World): Prop:=
 ∃b,e = .returned (.bool b)∧Two w0 w' f g (stepP l x d).1 (stepP m y d).1 (stepP l x d).2 (stepP m y d).2∧(l=m→x=y→b=true)∧Keep3 w w'∧(True→KeepM f g w w')
set_option maxHeartbeats 8000000 in
theorem does_spend (d:OpD)(sv av:Value)(hk:d.kind=2){w0 w:World}{f g:Nat}{l m:List Nd}{x y:Int}(h:Two w0 w f g l m x y)(hl:Inv l x)(hm:Inv m y): Calls Tryz.prog 15 #[kpt f,kpt g,.agg (opC d sv av)] w fun e w'=>Did w0 w f g l m x y d e w':=by
 have HA:Hid (∀W b,Two w0 W f g l m x y→Bk 33 W b #[.int .i64 d.on,.int .i64 d.kind,.int .i64 d.a,.int .i64 d.b,.string ⟨d.s.toArray⟩,.int .i64 d.i,.int .i64 d.n.kind,.int .i64 d.p,.string ⟨d.n.subject.toArray⟩,.string ⟨d.n.client.toArray⟩,.string ⟨d.n.audience.toArray⟩,sv,.int .i64 d.n.born,.int .i64 d.n.exp,.bool d.n.dead,.bool d.n.spent,av,.int .i64 d.n.level,.string ⟨d.n.secret.toArray⟩,.string ⟨d.n.data.toArray⟩]→Calls Tryz.prog 42 #[.pointer (some ⟨f,0,none⟩),.int .i64 d.a,.int .i64 d.b] W fun e w'=>e = .returned (.int .i64 (spendP l d.a d.b).1)∧Two w0 w' f g (spendP l d.a d.b).2 m x y∧Bk 33 w' b #[.int .i64 d.on,.int .i64 d.kind,.int .i64 d.a,.int .i64 d.b,.string ⟨d.s.toArray⟩,.int .i64 d.i,.int .i64 d.n.kind,.int .i64 d.p,.string ⟨d.n.subject.toArray⟩,.string ⟨d.n.client.toArray⟩,.string ⟨d.n.audience.toArray⟩,sv,.int .i64 d.n.born,.int .i64 d.n.exp,.bool d.n.dead,.bool d.n.spent,av,.int .i64 d.n.level,.string ⟨d.n.secret.toArray⟩,.string ⟨d.n.data.toArray⟩]∧KeepM f g W w'):=Φ (fun W b h hb=>h.goA hb (by decide) (by decide) (by decide) fun ns e hf=>by
  have hh:=spend_call hf (few_ns e hl) d.a d.b
  first | (rw [e] at hh;exact hh) | (rw [e,len_nodes e] at hh;exact hh))
 have HB:Hid (∀W b,Two w0 W f g (spendP l d.a d.b).2 m x y→Bk 33 W b #[.int .i64 d.on,.int .i64 d.kind,.int .i64 d.a,.int .i64 d.b,.string ⟨d.s.toArray⟩,.int .i64 d.i,.int .i64 d.n.kind,.int .i64 d.p,.string ⟨d.n.subject.toArray⟩,.string ⟨d.n.client.toArray⟩,.string ⟨d.n.audience.toArray⟩,sv,.int .i64 d.n.born,.int .i64 d.n.exp,.bool d.n.dead,.bool d.n.spent,av,.int .i64 d.n.level,.string ⟨d.n.secret.toArray⟩,.string ⟨d.n.data.toArray⟩]→Calls Tryz.prog 43 #[.pointer (some ⟨g,0,none⟩),.int .i64 d.a,.int .i64 d.b] W fun e w'=>e = .returned (.int .i64 (spendP m d.a d.b).1)∧Two w0 w' f g (spendP l d.a d.b).2 (spendP m d.a d.b).2 x y∧Bk 33 w' b #[.int .i64 d.on,.int .i64 d.kind,.int .i64 d.a,.int .i64 d.b,.string ⟨d.s.toArray⟩,.int .i64 d.i,.int .i64 d.n.kind,.int .i64 d.p,.string ⟨d.n.subject.toArray⟩,.string ⟨d.n.client.toArray⟩,.string ⟨d.n.audience.toArray⟩,sv,.int .i64 d.n.born,.int .i64 d.n.exp,.bool d.n.dead,.bool d.n.spent,av,.int .i64 d.n.level,.string ⟨d.n.secret.toArray⟩,.string ⟨d.n.data.toArray⟩]∧KeepM f g W w'):=Φ (fun W b h hb=>h.goB hb (by decide) fun rs e hf=>by
  have hh:=rspend_any hf (ok_rs e hm) (few_rs e hm) d.a d.b
  rw [e] at hh
  exact hh)
 have HS:Hid (stepP l x d=((spendP l d.a d.b).2,x)∧stepP m y d=((spendP m d.a d.b).2,y)):=Φ (by unfold stepP;rw [hk];exact⟨rfl,rfl⟩)
 obtain⟨b,hb⟩:∃b,b=w.heap.size:=⟨_,rfl⟩
 have K1:Hid (Bk 33 (w.alloc (.cells #[.int .i64 d.on,.int .i64 d.kind,.int .i64 d.a,.int .i64 d.b,.string ⟨d.s.toArray⟩,.int .i64 d.i,.int .i64 d.n.kind,.int .i64 d.p,.string ⟨d.n.subject.toArray⟩,.string ⟨d.n.client.toArray⟩,.string ⟨d.n.audience.toArray⟩,sv,.int .i64 d.n.born,.int .i64 d.n.exp,.bool d.n.dead,.bool d.n.spent,av,.int .i64 d.n.level,.string ⟨d.n.secret.toArray⟩,.string ⟨d.n.data.toArray⟩] 33)) b #[.int .i64 d.on,.int .i64 d.kind,.int .i64 d.a,.int .i64 d.b,.string ⟨d.s.toArray⟩,.int .i64 d.i,.int .i64 d.n.kind,.int .i64 d.p,.string ⟨d.n.subject.toArray⟩,.string ⟨d.n.client.toArray⟩,.string ⟨d.n.audience.toArray⟩,sv,.int .i64 d.n.born,.int .i64 d.n.exp,.bool d.n.dead,.bool d.n.spent,av,.int .i64 d.n.level,.string ⟨d.n.secret.toArray⟩,.string ⟨d.n.data.toArray⟩]):=Φ (Bk.new hb)
 have T1:Hid (Two w0 (w.alloc (.cells #[.int .i64 d.on,.int .i64 d.kind,.int .i64 d.a,.int .i64 d.b,.string ⟨d.s.toArray⟩,.int .i64 d.i,.int .i64 d.n.kind,.int .i64 d.p,.string ⟨d.n.subject.toArray⟩,.string ⟨d.n.client.toArray⟩,.string ⟨d.n.audience.toArray⟩,sv,.int .i64 d.n.born,.int .i64 d.n.exp,.bool d.n.dead,.bool d.n.spent,av,.int .i64 d.n.level,.string ⟨d.n.secret.toArray⟩,.string ⟨d.n.data.toArray⟩] 33)) f g l m x y):=Φ (h.down (by go_grown))
 obtain⟨W,hW⟩:∃W,W=w.alloc (.cells #[.int .i64 d.on,.int .i64 d.kind,.int .i64 d.a,.int .i64 d.b,.string ⟨d.s.toArray⟩,.int .i64 d.i,.int .i64 d.n.kind,.int .i64 d.p,.string ⟨d.n.subject.toArray⟩,.string ⟨d.n.client.toArray⟩,.string ⟨d.n.audience.toArray⟩,sv,.int .i64 d.n.born,.int .i64 d.n.exp,.bool d.n.dead,.bool d.n.spent,av,.int .i64 d.n.level,.string ⟨d.n.secret.toArray⟩,.string ⟨d.n.data.toArray⟩] 33):=⟨_,rfl⟩
 rw [← hW] at K1 T1
 have HKW:Hid (KeepM f g w W.drew):=Φ (KeepM.of (by rw [hW];go_grown))
 have HW:=Φ hW
 have HBB:=Φ hb
 have HKI:=Φ hk
 have ck:W.cell? ⟨b,1,none⟩=some (.int .i64 2):=by
  have:=K1.out.cell 1
  rw [hk] at this
  exact this
 obtain⟨ra,hra⟩:∃ra:Int,ra=(spendP l d.a d.b).1:=⟨_,rfl⟩
 obtain⟨rb,hrb⟩:∃rb:Int,rb=(spendP m d.a d.b).1:=⟨_,rfl⟩
 have HE:Hid (l=m→x=y→(ra == rb)=true):=Φ (by rintro rfl rfl;rw [hra,hrb];simp)
 obtain⟨la,hla⟩:∃la,la=(spendP l d.a d.b).2:=⟨_,rfl⟩
 obtain⟨lb,hlb⟩:∃lb,lb=(spendP m d.a d.b).2:=⟨_,rfl⟩
 rw [← hra,← hla] at HA
 rw [← hrb,← hlb,← hla] at HB
 rw [← hla,← hlb] at HS
 clear hra hrb hla hlb h hl hm hb hW hk
 unfold opC kpt
 go_enter Tryz.func15,Tryz.ntmps15
 go_upto_region 24 with (rw [← HW.out,← HBB.out])
 refine Pl.dsS (fun ba bb V=>Bk 33 V b #[.int .i64 d.on,.int .i64 d.kind,.int .i64 d.a,.int .i64 d.b,.string ⟨d.s.toArray⟩,.int .i64 d.i,.int .i64 d.n.kind,.int .i64 d.p,.string ⟨d.n.subject.toArray⟩,.string ⟨d.n.client.toArray⟩,.string ⟨d.n.audience.toArray⟩,sv,.int .i64 d.n.born,.int .i64 d.n.exp,.bool d.n.dead,.bool d.n.spent,av,.int .i64 d.n.level,.string ⟨d.n.secret.toArray⟩,.string ⟨d.n.data.toArray⟩]∧(ba=false→bb=false→Two w0 V f g l m x y)∧(ba=true→bb=false→Two w0 V f g la m x y)∧(bb=true→Two w0 V f g la lb x y)∧KeepM f g w V) f g b d.a d.b ra rb W (fun _ _ W h=>h.1.cell 2) (fun _ _ W h=>h.1.cell 3) ?_ ?_ ⟨K1.out.drew,fun _ _=>T1.out.down (by go_grown),(fun h=>by cases h),(fun h=>by cases h),HKW.out⟩ ?_
 ·intro V hV
  exact(HA.out V b (hV.2.1 rfl rfl) hV.1).mono fun e w' h3=>⟨h3.1,h3.2.2.1,(fun h=>by cases h),(fun _ _=>h3.2.1),(fun h=>by cases h),hV.2.2.2.2.trans h3.2.2.2⟩
 ·intro V hV
  exact(HB.out V b (hV.2.2.1 rfl rfl) hV.1).mono fun e w' h3=>⟨h3.1,h3.2.2.1,(fun h=>by cases h),(fun _ h=>by cases h),(fun _=>h3.2.1),hV.2.2.2.2.trans h3.2.2.2⟩
 ·intro V hV
  have HV:=Φ (And.intro (hV.2.2.2.1 rfl) hV.2.2.2.2)
  clear hV
  go_wp2_with fail
  go_ret
  unfold Did
  rw [HS.out.1,HS.out.2]
  exact⟨ra == rb,rfl,HV.out.1,HE.out,HV.out.2.did⟩
set_option maxHeartbeats 8000000 in
theorem does_kill (d:OpD)(sv av:Value)(hk:d.kind=3){w0 w:World}{f g:Nat}{l m:List Nd}{x y:Int}(h:Two w0 w f g l m x y)(hl:Inv l x)(hm:Inv m y): Calls Tryz.prog 15 #[kpt f,kpt g,.agg (opC d sv av)] w fun e w'=>Did w0 w f g l m x y d e w':=by
 have HA:Hid (∀W b,Two w0 W f g l m x y→Bk 33 W b #[.int .i64 d.on,.int .i64 d.kind,.int .i64 d.a,.int .i64 d.b,.string ⟨d.s.toArray⟩,.int .i64 d.i,.int .i64 d.n.kind,.int .i64 d.p,.string ⟨d.n.subject.toArray⟩,.string ⟨d.n.client.toArray⟩,.string ⟨d.n.audience.toArray⟩,sv,.int .i64 d.n.born,.int .i64 d.n.exp,.bool d.n.dead,.bool d.n.spent,av,.int .i64 d.n.level,.string ⟨d.n.secret.toArray⟩,.string ⟨d.n.data.toArray⟩]→Calls Tryz.prog 28 #[.pointer (some ⟨f,0,none⟩),.int .i64 d.a] W fun e w'=>e = .returned (.int .i64 (killP l d.a).1)∧Two w0 w' f g (killP l d.a).2 m x y∧Bk 33 w' b #[.int .i64 d.on,.int .i64 d.kind,.int .i64 d.a,.int .i64 d.b,.string ⟨d.s.toArray⟩,.int .i64 d.i,.int .i64 d.n.kind,.int .i64 d.p,.string ⟨d.n.subject.toArray⟩,.string ⟨d.n.client.toArray⟩,.string ⟨d.n.audience.toArray⟩,sv,.int .i64 d.n.born,.int .i64 d.n.exp,.bool d.n.dead,.bool d.n.spent,av,.int .i64 d.n.level,.string ⟨d.n.secret.toArray⟩,.string ⟨d.n.data.toArray⟩]∧KeepM f g W w'):=Φ (fun W b h hb=>h.goA hb (by decide) (by decide) (by decide) fun ns e hf=>by
  have hh:=kill_call hf (few_ns e hl) d.a
  first | (rw [e] at hh;exact hh) | (rw [e,len_nodes e] at hh;exact hh))
 have HB:Hid (∀W b,Two w0 W f g (killP l d.a).2 m x y→Bk 33 W b #[.int .i64 d.on,.int .i64 d.kind,.int .i64 d.a,.int .i64 d.b,.string ⟨d.s.toArray⟩,.int .i64 d.i,.int .i64 d.n.kind,.int .i64 d.p,.string ⟨d.n.subject.toArray⟩,.string ⟨d.n.client.toArray⟩,.string ⟨d.n.audience.toArray⟩,sv,.int .i64 d.n.born,.int .i64 d.n.exp,.bool d.n.dead,.bool d.n.spent,av,.int .i64 d.n.level,.string ⟨d.n.secret.toArray⟩,.string ⟨d.n.data.toArray⟩]→Calls Tryz.prog 44 #[.pointer (some ⟨g,0,none⟩),.int .i64 d.a] W fun e w'=>e = .returned (.int .i64 (killP m d.a).1)∧Two w0 w' f g (killP l d.a).2 (killP m d.a).2 x y∧Bk 33 w' b #[.int .i64 d.on,.int .i64 d.kind,.int .i64 d.a,.int .i64 d.b,.string ⟨d.s.toArray⟩,.int .i64 d.i,.int .i64 d.n.kind,.int .i64 d.p,.string ⟨d.n.subject.toArray⟩,.string ⟨d.n.client.toArray⟩,.string ⟨d.n.audience.toArray⟩,sv,.int .i64 d.n.born,.int .i64 d.n.exp,.bool d.n.dead,.bool d.n.spent,av,.int .i64 d.n.level,.string ⟨d.n.secret.toArray⟩,.string ⟨d.n.data.toArray⟩]∧KeepM f g W w'):=Φ (fun W b h hb=>h.goB hb (by decide) fun rs e hf=>by
  have hh:=rkill_any hf (ok_rs e hm) (few_rs e hm) d.a
  rw [e] at hh
  exact hh)
 have HS:Hid (stepP l x d=((killP l d.a).2,x)∧stepP m y d=((killP m d.a).2,y)):=Φ (by unfold stepP;rw [hk];exact⟨rfl,rfl⟩)
 obtain⟨b,hb⟩:∃b,b=w.heap.size:=⟨_,rfl⟩
 have K1:Hid (Bk 33 (w.alloc (.cells #[.int .i64 d.on,.int .i64 d.kind,.int .i64 d.a,.int .i64 d.b,.string ⟨d.s.toArray⟩,.int .i64 d.i,.int .i64 d.n.kind,.int .i64 d.p,.string ⟨d.n.subject.toArray⟩,.string ⟨d.n.client.toArray⟩,.string ⟨d.n.audience.toArray⟩,sv,.int .i64 d.n.born,.int .i64 d.n.exp,.bool d.n.dead,.bool d.n.spent,av,.int .i64 d.n.level,.string ⟨d.n.secret.toArray⟩,.string ⟨d.n.data.toArray⟩] 33)) b #[.int .i64 d.on,.int .i64 d.kind,.int .i64 d.a,.int .i64 d.b,.string ⟨d.s.toArray⟩,.int .i64 d.i,.int .i64 d.n.kind,.int .i64 d.p,.string ⟨d.n.subject.toArray⟩,.string ⟨d.n.client.toArray⟩,.string ⟨d.n.audience.toArray⟩,sv,.int .i64 d.n.born,.int .i64 d.n.exp,.bool d.n.dead,.bool d.n.spent,av,.int .i64 d.n.level,.string ⟨d.n.secret.toArray⟩,.string ⟨d.n.data.toArray⟩]):=Φ (Bk.new hb)
 have T1:Hid (Two w0 (w.alloc (.cells #[.int .i64 d.on,.int .i64 d.kind,.int .i64 d.a,.int .i64 d.b,.string ⟨d.s.toArray⟩,.int .i64 d.i,.int .i64 d.n.kind,.int .i64 d.p,.string ⟨d.n.subject.toArray⟩,.string ⟨d.n.client.toArray⟩,.string ⟨d.n.audience.toArray⟩,sv,.int .i64 d.n.born,.int .i64 d.n.exp,.bool d.n.dead,.bool d.n.spent,av,.int .i64 d.n.level,.string ⟨d.n.secret.toArray⟩,.string ⟨d.n.data.toArray⟩] 33)) f g l m x y):=Φ (h.down (by go_grown))
 obtain⟨W,hW⟩:∃W,W=w.alloc (.cells #[.int .i64 d.on,.int .i64 d.kind,.int .i64 d.a,.int .i64 d.b,.string ⟨d.s.toArray⟩,.int .i64 d.i,.int .i64 d.n.kind,.int .i64 d.p,.string ⟨d.n.subject.toArray⟩,.string ⟨d.n.client.toArray⟩,.string ⟨d.n.audience.toArray⟩,sv,.int .i64 d.n.born,.int .i64 d.n.exp,.bool d.n.dead,.bool d.n.spent,av,.int .i64 d.n.level,.string ⟨d.n.secret.toArray⟩,.string ⟨d.n.data.toArray⟩] 33):=⟨_,rfl⟩
 rw [← hW] at K1 T1
 have HKW:Hid (KeepM f g w W.drew):=Φ (KeepM.of (by rw [hW];go_grown))
 have HW:=Φ hW
 have HBB:=Φ hb
 have HKI:=Φ hk
 have ck:W.cell? ⟨b,1,none⟩=some (.int .i64 3):=by
  have:=K1.out.cell 1
  rw [hk] at this
  exact this
 obtain⟨ra,hra⟩:∃ra:Int,ra=(killP l d.a).1:=⟨_,rfl⟩
 obtain⟨rb,hrb⟩:∃rb:Int,rb=(killP m d.a).1:=⟨_,rfl⟩
 have HE:Hid (l=m→x=y→(ra == rb)=true):=Φ (by rintro rfl rfl;rw [hra,hrb];simp)
 obtain⟨la,hla⟩:∃la,la=(killP l d.a).2:=⟨_,rfl⟩
 obtain⟨lb,hlb⟩:∃lb,lb=(killP m d.a).2:=⟨_,rfl⟩
 rw [← hra,← hla] at HA
 rw [← hrb,← hlb,← hla] at HB
 rw [← hla,← hlb] at HS
 clear hra hrb hla hlb h hl hm hb hW hk
 unfold opC kpt
 go_enter Tryz.func15,Tryz.ntmps15
 go_upto_region 26 with (rw [← HW.out,← HBB.out])
 refine Pl.dsK (fun ba bb V=>Bk 33 V b #[.int .i64 d.on,.int .i64 d.kind,.int .i64 d.a,.int .i64 d.b,.string ⟨d.s.toArray⟩,.int .i64 d.i,.int .i64 d.n.kind,.int .i64 d.p,.string ⟨d.n.subject.toArray⟩,.string ⟨d.n.client.toArray⟩,.string ⟨d.n.audience.toArray⟩,sv,.int .i64 d.n.born,.int .i64 d.n.exp,.bool d.n.dead,.bool d.n.spent,av,.int .i64 d.n.level,.string ⟨d.n.secret.toArray⟩,.string ⟨d.n.data.toArray⟩]∧(ba=false→bb=false→Two w0 V f g l m x y)∧(ba=true→bb=false→Two w0 V f g la m x y)∧(bb=true→Two w0 V f g la lb x y)∧KeepM f g w V) f g b d.a ra rb W (fun _ _ W h=>h.1.cell 2) ?_ ?_ ⟨K1.out.drew,fun _ _=>T1.out.down (by go_grown),(fun h=>by cases h),(fun h=>by cases h),HKW.out⟩ ?_
 ·intro V hV
  exact(HA.out V b (hV.2.1 rfl rfl) hV.1).mono fun e w' h3=>⟨h3.1,h3.2.2.1,(fun h=>by cases h),(fun _ _=>h3.2.1),(fun h=>by cases h),hV.2.2.2.2.trans h3.2.2.2⟩
 ·intro V hV
  exact(HB.out V b (hV.2.2.1 rfl rfl) hV.1).mono fun e w' h3=>⟨h3.1,h3.2.2.1,(fun h=>by cases h),(fun _ h=>by cases h),(fun _=>h3.2.1),hV.2.2.2.2.trans h3.2.2.2⟩
 ·intro V hV
  have HV:=Φ (And.intro (hV.2.2.2.1 rfl) hV.2.2.2.2)
  clear hV
  go_wp2_with fail
  go_ret
  unfold Did
  rw [HS.out.1,HS.out.2]
  exact⟨ra == rb,rfl,HV.out.1,HE.out,HV.out.2.did⟩
set_option maxHeartbeats 8000000 in
theorem does_killOf (d:OpD)(sv av:Value)(hk:d.kind=4){w0 w:World}{f g:Nat}{l m:List Nd}{x y:Int}(h:Two w0 w f g l m x y)(hl:Inv l x)(hm:Inv m y): Calls Tryz.prog 15 #[kpt f,kpt g,.agg (opC d sv av)] w fun e w'=>Did w0 w f g l m x y d e w':=by
 have HA:Hid (∀W b,Two w0 W f g l m x y→Bk 33 W b #[.int .i64 d.on,.int .i64 d.kind,.int .i64 d.a,.int .i64 d.b,.string ⟨d.s.toArray⟩,.int .i64 d.i,.int .i64 d.n.kind,.int .i64 d.p,.string ⟨d.n.subject.toArray⟩,.string ⟨d.n.client.toArray⟩,.string ⟨d.n.audience.toArray⟩,sv,.int .i64 d.n.born,.int .i64 d.n.exp,.bool d.n.dead,.bool d.n.spent,av,.int .i64 d.n.level,.string ⟨d.n.secret.toArray⟩,.string ⟨d.n.data.toArray⟩]→Calls Tryz.prog 30 #[.pointer (some ⟨f,0,none⟩),.string ⟨d.s.toArray⟩] W fun e w'=>e = .returned (.int .i64 (killOfP l d.s).1)∧Two w0 w' f g (killOfP l d.s).2 m x y∧Bk 33 w' b #[.int .i64 d.on,.int .i64 d.kind,.int .i64 d.a,.int .i64 d.b,.string ⟨d.s.toArray⟩,.int .i64 d.i,.int .i64 d.n.kind,.int .i64 d.p,.string ⟨d.n.subject.toArray⟩,.string ⟨d.n.client.toArray⟩,.string ⟨d.n.audience.toArray⟩,sv,.int .i64 d.n.born,.int .i64 d.n.exp,.bool d.n.dead,.bool d.n.spent,av,.int .i64 d.n.level,.string ⟨d.n.secret.toArray⟩,.string ⟨d.n.data.toArray⟩]∧KeepM f g W w'):=Φ (fun W b h hb=>h.goA hb (by decide) (by decide) (by decide) fun ns e hf=>by
  have hh:=killOf_call hf (few_ns e hl) d.s
  first | (rw [e] at hh;exact hh) | (rw [e,len_nodes e] at hh;exact hh))
 have HB:Hid (∀W b,Two w0 W f g (killOfP l d.s).2 m x y→Bk 33 W b #[.int .i64 d.on,.int .i64 d.kind,.int .i64 d.a,.int .i64 d.b,.string ⟨d.s.toArray⟩,.int .i64 d.i,.int .i64 d.n.kind,.int .i64 d.p,.string ⟨d.n.subject.toArray⟩,.string ⟨d.n.client.toArray⟩,.string ⟨d.n.audience.toArray⟩,sv,.int .i64 d.n.born,.int .i64 d.n.exp,.bool d.n.dead,.bool d.n.spent,av,.int .i64 d.n.level,.string ⟨d.n.secret.toArray⟩,.string ⟨d.n.data.toArray⟩]→Calls Tryz.prog 45 #[.pointer (some ⟨g,0,none⟩),.string ⟨d.s.toArray⟩] W fun e w'=>e = .returned (.int .i64 (killOfP m d.s).1)∧Two w0 w' f g (killOfP l d.s).2 (killOfP m d.s).2 x y∧Bk 33 w' b #[.int .i64 d.on,.int .i64 d.kind,.int .i64 d.a,.int .i64 d.b,.string ⟨d.s.toArray⟩,.int .i64 d.i,.int .i64 d.n.kind,.int .i64 d.p,.string ⟨d.n.subject.toArray⟩,.string ⟨d.n.client.toArray⟩,.string ⟨d.n.audience.toArray⟩,sv,.int .i64 d.n.born,.int .i64 d.n.exp,.bool d.n.dead,.bool d.n.spent,av,.int .i64 d.n.level,.string ⟨d.n.secret.toArray⟩,.string ⟨d.n.data.toArray⟩]∧KeepM f g W w'):=Φ (fun W b h hb=>h.goB hb (by decide) fun rs e hf=>by
  have hh:=rkillOf_any hf (ok_rs e hm) (few_rs e hm) (by rw [e];exact fun n hn=>Nat.le_trans (hm.mid n hn).client (by decide)) d.s
  rw [e] at hh
  exact hh)
 have HS:Hid (stepP l x d=((killOfP l d.s).2,x)∧stepP m y d=((killOfP m d.s).2,y)):=Φ (by unfold stepP;rw [hk];exact⟨rfl,rfl⟩)
 obtain⟨b,hb⟩:∃b,b=w.heap.size:=⟨_,rfl⟩
 have K1:Hid (Bk 33 (w.alloc (.cells #[.int .i64 d.on,.int .i64 d.kind,.int .i64 d.a,.int .i64 d.b,.string ⟨d.s.toArray⟩,.int .i64 d.i,.int .i64 d.n.kind,.int .i64 d.p,.string ⟨d.n.subject.toArray⟩,.string ⟨d.n.client.toArray⟩,.string ⟨d.n.audience.toArray⟩,sv,.int .i64 d.n.born,.int .i64 d.n.exp,.bool d.n.dead,.bool d.n.spent,av,.int .i64 d.n.level,.string ⟨d.n.secret.toArray⟩,.string ⟨d.n.data.toArray⟩] 33)) b #[.int .i64 d.on,.int .i64 d.kind,.int .i64 d.a,.int .i64 d.b,.string ⟨d.s.toArray⟩,.int .i64 d.i,.int .i64 d.n.kind,.int .i64 d.p,.string ⟨d.n.subject.toArray⟩,.string ⟨d.n.client.toArray⟩,.string ⟨d.n.audience.toArray⟩,sv,.int .i64 d.n.born,.int .i64 d.n.exp,.bool d.n.dead,.bool d.n.spent,av,.int .i64 d.n.level,.string ⟨d.n.secret.toArray⟩,.string ⟨d.n.data.toArray⟩]):=Φ (Bk.new hb)
 have T1:Hid (Two w0 (w.alloc (.cells #[.int .i64 d.on,.int .i64 d.kind,.int .i64 d.a,.int .i64 d.b,.string ⟨d.s.toArray⟩,.int .i64 d.i,.int .i64 d.n.kind,.int .i64 d.p,.string ⟨d.n.subject.toArray⟩,.string ⟨d.n.client.toArray⟩,.string ⟨d.n.audience.toArray⟩,sv,.int .i64 d.n.born,.int .i64 d.n.exp,.bool d.n.dead,.bool d.n.spent,av,.int .i64 d.n.level,.string ⟨d.n.secret.toArray⟩,.string ⟨d.n.data.toArray⟩] 33)) f g l m x y):=Φ (h.down (by go_grown))
 obtain⟨W,hW⟩:∃W,W=w.alloc (.cells #[.int .i64 d.on,.int .i64 d.kind,.int .i64 d.a,.int .i64 d.b,.string ⟨d.s.toArray⟩,.int .i64 d.i,.int .i64 d.n.kind,.int .i64 d.p,.string ⟨d.n.subject.toArray⟩,.string ⟨d.n.client.toArray⟩,.string ⟨d.n.audience.toArray⟩,sv,.int .i64 d.n.born,.int .i64 d.n.exp,.bool d.n.dead,.bool d.n.spent,av,.int .i64 d.n.level,.string ⟨d.n.secret.toArray⟩,.string ⟨d.n.data.toArray⟩] 33):=⟨_,rfl⟩
 rw [← hW] at K1 T1
 have HKW:Hid (KeepM f g w W.drew):=Φ (KeepM.of (by rw [hW];go_grown))
 have HW:=Φ hW
 have HBB:=Φ hb
 have HKI:=Φ hk
 have ck:W.cell? ⟨b,1,none⟩=some (.int .i64 4):=by
  have:=K1.out.cell 1
  rw [hk] at this
  exact this
 obtain⟨ra,hra⟩:∃ra:Int,ra=(killOfP l d.s).1:=⟨_,rfl⟩
 obtain⟨rb,hrb⟩:∃rb:Int,rb=(killOfP m d.s).1:=⟨_,rfl⟩
 have HE:Hid (l=m→x=y→(ra == rb)=true):=Φ (by rintro rfl rfl;rw [hra,hrb];simp)
 obtain⟨la,hla⟩:∃la,la=(killOfP l d.s).2:=⟨_,rfl⟩
 obtain⟨lb,hlb⟩:∃lb,lb=(killOfP m d.s).2:=⟨_,rfl⟩
 rw [← hra,← hla] at HA
 rw [← hrb,← hlb,← hla] at HB
 rw [← hla,← hlb] at HS
 clear hra hrb hla hlb h hl hm hb hW hk
 unfold opC kpt
 go_enter Tryz.func15,Tryz.ntmps15
 go_upto_region 28 with (rw [← HW.out,← HBB.out])
 refine Pl.dsO (fun ba bb V=>Bk 33 V b #[.int .i64 d.on,.int .i64 d.kind,.int .i64 d.a,.int .i64 d.b,.string ⟨d.s.toArray⟩,.int .i64 d.i,.int .i64 d.n.kind,.int .i64 d.p,.string ⟨d.n.subject.toArray⟩,.string ⟨d.n.client.toArray⟩,.string ⟨d.n.audience.toArray⟩,sv,.int .i64 d.n.born,.int .i64 d.n.exp,.bool d.n.dead,.bool d.n.spent,av,.int .i64 d.n.level,.string ⟨d.n.secret.toArray⟩,.string ⟨d.n.data.toArray⟩]∧(ba=false→bb=false→Two w0 V f g l m x y)∧(ba=true→bb=false→Two w0 V f g la m x y)∧(bb=true→Two w0 V f g la lb x y)∧KeepM f g w V) f g b d.s ra rb W (fun _ _ W h=>h.1.cell 4) ?_ ?_ ⟨K1.out.drew,fun _ _=>T1.out.down (by go_grown),(fun h=>by cases h),(fun h=>by cases h),HKW.out⟩ ?_
 ·intro V hV
  exact(HA.out V b (hV.2.1 rfl rfl) hV.1).mono fun e w' h3=>⟨h3.1,h3.2.2.1,(fun h=>by cases h),(fun _ _=>h3.2.1),(fun h=>by cases h),hV.2.2.2.2.trans h3.2.2.2⟩
 ·intro V hV
  exact(HB.out V b (hV.2.2.1 rfl rfl) hV.1).mono fun e w' h3=>⟨h3.1,h3.2.2.1,(fun h=>by cases h),(fun _ h=>by cases h),(fun _=>h3.2.1),hV.2.2.2.2.trans h3.2.2.2⟩
 ·intro V hV
  have HV:=Φ (And.intro (hV.2.2.2.1 rfl) hV.2.2.2.2)
  clear hV
  go_wp2_with fail
  go_ret
  unfold Did
  rw [HS.out.1,HS.out.2]
  exact⟨ra == rb,rfl,HV.out.1,HE.out,HV.out.2.did⟩
set_option maxHeartbeats 8000000 in
theorem does_lift (d:OpD)(sv av:Value)(hk:d.kind=5){w0 w:World}{f g:Nat}{l m:List Nd}{x y:Int}(h:Two w0 w f g l m x y)(hl:Inv l x)(hm:Inv m y): Calls Tryz.prog 15 #[kpt f,kpt g,.agg (opC d sv av)] w fun e w'=>Did w0 w f g l m x y d e w':=by
 have HA:Hid (∀W b,Two w0 W f g l m x y→Bk 33 W b #[.int .i64 d.on,.int .i64 d.kind,.int .i64 d.a,.int .i64 d.b,.string ⟨d.s.toArray⟩,.int .i64 d.i,.int .i64 d.n.kind,.int .i64 d.p,.string ⟨d.n.subject.toArray⟩,.string ⟨d.n.client.toArray⟩,.string ⟨d.n.audience.toArray⟩,sv,.int .i64 d.n.born,.int .i64 d.n.exp,.bool d.n.dead,.bool d.n.spent,av,.int .i64 d.n.level,.string ⟨d.n.secret.toArray⟩,.string ⟨d.n.data.toArray⟩]→Calls Tryz.prog 46 #[.pointer (some ⟨f,0,none⟩),.int .i64 d.a,.int .i64 d.b] W fun e w'=>e = .returned (.int .i64 (liftP l d.a d.b).1)∧Two w0 w' f g (liftP l d.a d.b).2 m x y∧Bk 33 w' b #[.int .i64 d.on,.int .i64 d.kind,.int .i64 d.a,.int .i64 d.b,.string ⟨d.s.toArray⟩,.int .i64 d.i,.int .i64 d.n.kind,.int .i64 d.p,.string ⟨d.n.subject.toArray⟩,.string ⟨d.n.client.toArray⟩,.string ⟨d.n.audience.toArray⟩,sv,.int .i64 d.n.born,.int .i64 d.n.exp,.bool d.n.dead,.bool d.n.spent,av,.int .i64 d.n.level,.string ⟨d.n.secret.toArray⟩,.string ⟨d.n.data.toArray⟩]∧KeepM f g W w'):=Φ (fun W b h hb=>h.goA hb (by decide) (by decide) (by decide) fun ns e hf=>by
  have hh:=lift_call hf (few_ns e hl) d.a d.b
  first | (rw [e] at hh;exact hh) | (rw [e,len_nodes e] at hh;exact hh))
 have HB:Hid (∀W b,Two w0 W f g (liftP l d.a d.b).2 m x y→Bk 33 W b #[.int .i64 d.on,.int .i64 d.kind,.int .i64 d.a,.int .i64 d.b,.string ⟨d.s.toArray⟩,.int .i64 d.i,.int .i64 d.n.kind,.int .i64 d.p,.string ⟨d.n.subject.toArray⟩,.string ⟨d.n.client.toArray⟩,.string ⟨d.n.audience.toArray⟩,sv,.int .i64 d.n.born,.int .i64 d.n.exp,.bool d.n.dead,.bool d.n.spent,av,.int .i64 d.n.level,.string ⟨d.n.secret.toArray⟩,.string ⟨d.n.data.toArray⟩]→Calls Tryz.prog 47 #[.pointer (some ⟨g,0,none⟩),.int .i64 d.a,.int .i64 d.b] W fun e w'=>e = .returned (.int .i64 (liftP m d.a d.b).1)∧Two w0 w' f g (liftP l d.a d.b).2 (liftP m d.a d.b).2 x y∧Bk 33 w' b #[.int .i64 d.on,.int .i64 d.kind,.int .i64 d.a,.int .i64 d.b,.string ⟨d.s.toArray⟩,.int .i64 d.i,.int .i64 d.n.kind,.int .i64 d.p,.string ⟨d.n.subject.toArray⟩,.string ⟨d.n.client.toArray⟩,.string ⟨d.n.audience.toArray⟩,sv,.int .i64 d.n.born,.int .i64 d.n.exp,.bool d.n.dead,.bool d.n.spent,av,.int .i64 d.n.level,.string ⟨d.n.secret.toArray⟩,.string ⟨d.n.data.toArray⟩]∧KeepM f g W w'):=Φ (fun W b h hb=>h.goB hb (by decide) fun rs e hf=>by
  have hh:=rlift_any hf (ok_rs e hm) (few_rs e hm) d.a d.b
  rw [e] at hh
  exact hh)
 have HS:Hid (stepP l x d=((liftP l d.a d.b).2,x)∧stepP m y d=((liftP m d.a d.b).2,y)):=Φ (by unfold stepP;rw [hk];exact⟨rfl,rfl⟩)
 obtain⟨b,hb⟩:∃b,b=w.heap.size:=⟨_,rfl⟩
 have K1:Hid (Bk 33 (w.alloc (.cells #[.int .i64 d.on,.int .i64 d.kind,.int .i64 d.a,.int .i64 d.b,.string ⟨d.s.toArray⟩,.int .i64 d.i,.int .i64 d.n.kind,.int .i64 d.p,.string ⟨d.n.subject.toArray⟩,.string ⟨d.n.client.toArray⟩,.string ⟨d.n.audience.toArray⟩,sv,.int .i64 d.n.born,.int .i64 d.n.exp,.bool d.n.dead,.bool d.n.spent,av,.int .i64 d.n.level,.string ⟨d.n.secret.toArray⟩,.string ⟨d.n.data.toArray⟩] 33)) b #[.int .i64 d.on,.int .i64 d.kind,.int .i64 d.a,.int .i64 d.b,.string ⟨d.s.toArray⟩,.int .i64 d.i,.int .i64 d.n.kind,.int .i64 d.p,.string ⟨d.n.subject.toArray⟩,.string ⟨d.n.client.toArray⟩,.string ⟨d.n.audience.toArray⟩,sv,.int .i64 d.n.born,.int .i64 d.n.exp,.bool d.n.dead,.bool d.n.spent,av,.int .i64 d.n.level,.string ⟨d.n.secret.toArray⟩,.string ⟨d.n.data.toArray⟩]):=Φ (Bk.new hb)
 have T1:Hid (Two w0 (w.alloc (.cells #[.int .i64 d.on,.int .i64 d.kind,.int .i64 d.a,.int .i64 d.b,.string ⟨d.s.toArray⟩,.int .i64 d.i,.int .i64 d.n.kind,.int .i64 d.p,.string ⟨d.n.subject.toArray⟩,.string ⟨d.n.client.toArray⟩,.string ⟨d.n.audience.toArray⟩,sv,.int .i64 d.n.born,.int .i64 d.n.exp,.bool d.n.dead,.bool d.n.spent,av,.int .i64 d.n.level,.string ⟨d.n.secret.toArray⟩,.string ⟨d.n.data.toArray⟩] 33)) f g l m x y):=Φ (h.down (by go_grown))
 obtain⟨W,hW⟩:∃W,W=w.alloc (.cells #[.int .i64 d.on,.int .i64 d.kind,.int .i64 d.a,.int .i64 d.b,.string ⟨d.s.toArray⟩,.int .i64 d.i,.int .i64 d.n.kind,.int .i64 d.p,.string ⟨d.n.subject.toArray⟩,.string ⟨d.n.client.toArray⟩,.string ⟨d.n.audience.toArray⟩,sv,.int .i64 d.n.born,.int .i64 d.n.exp,.bool d.n.dead,.bool d.n.spent,av,.int .i64 d.n.level,.string ⟨d.n.secret.toArray⟩,.string ⟨d.n.data.toArray⟩] 33):=⟨_,rfl⟩
 rw [← hW] at K1 T1
 have HKW:Hid (KeepM f g w W.drew):=Φ (KeepM.of (by rw [hW];go_grown))
 have HW:=Φ hW
 have HBB:=Φ hb
 have HKI:=Φ hk
 have ck:W.cell? ⟨b,1,none⟩=some (.int .i64 5):=by
  have:=K1.out.cell 1
  rw [hk] at this
  exact this
 obtain⟨ra,hra⟩:∃ra:Int,ra=(liftP l d.a d.b).1:=⟨_,rfl⟩
 obtain⟨rb,hrb⟩:∃rb:Int,rb=(liftP m d.a d.b).1:=⟨_,rfl⟩
 have HE:Hid (l=m→x=y→(ra == rb)=true):=Φ (by rintro rfl rfl;rw [hra,hrb];simp)
 obtain⟨la,hla⟩:∃la,la=(liftP l d.a d.b).2:=⟨_,rfl⟩
 obtain⟨lb,hlb⟩:∃lb,lb=(liftP m d.a d.b).2:=⟨_,rfl⟩
 rw [← hra,← hla] at HA
 rw [← hrb,← hlb,← hla] at HB
 rw [← hla,← hlb] at HS
 clear hra hrb hla hlb h hl hm hb hW hk
 unfold opC kpt
 go_enter Tryz.func15,Tryz.ntmps15
 go_upto_region 30 with (rw [← HW.out,← HBB.out])
 refine Pl.dsL (fun ba bb V=>Bk 33 V b #[.int .i64 d.on,.int .i64 d.kind,.int .i64 d.a,.int .i64 d.b,.string ⟨d.s.toArray⟩,.int .i64 d.i,.int .i64 d.n.kind,.int .i64 d.p,.string ⟨d.n.subject.toArray⟩,.string ⟨d.n.client.toArray⟩,.string ⟨d.n.audience.toArray⟩,sv,.int .i64 d.n.born,.int .i64 d.n.exp,.bool d.n.dead,.bool d.n.spent,av,.int .i64 d.n.level,.string ⟨d.n.secret.toArray⟩,.string ⟨d.n.data.toArray⟩]∧(ba=false→bb=false→Two w0 V f g l m x y)∧(ba=true→bb=false→Two w0 V f g la m x y)∧(bb=true→Two w0 V f g la lb x y)∧KeepM f g w V) f g b d.a d.b ra rb W (fun _ _ W h=>h.1.cell 2) (fun _ _ W h=>h.1.cell 3) ?_ ?_ ⟨K1.out.drew,fun _ _=>T1.out.down (by go_grown),(fun h=>by cases h),(fun h=>by cases h),HKW.out⟩ ?_
 ·intro V hV
  exact(HA.out V b (hV.2.1 rfl rfl) hV.1).mono fun e w' h3=>⟨h3.1,h3.2.2.1,(fun h=>by cases h),(fun _ _=>h3.2.1),(fun h=>by cases h),hV.2.2.2.2.trans h3.2.2.2⟩
 ·intro V hV
  exact(HB.out V b (hV.2.2.1 rfl rfl) hV.1).mono fun e w' h3=>⟨h3.1,h3.2.2.1,(fun h=>by cases h),(fun _ h=>by cases h),(fun _=>h3.2.1),hV.2.2.2.2.trans h3.2.2.2⟩
 ·intro V hV
  have HV:=Φ (And.intro (hV.2.2.2.1 rfl) hV.2.2.2.2)
  clear hV
  go_wp2_with fail
  go_ret
  unfold Did
  rw [HS.out.1,HS.out.2]
  exact⟨ra == rb,rfl,HV.out.1,HE.out,HV.out.2.did⟩
set_option maxHeartbeats 8000000 in
theorem does_note (d:OpD)(sv av:Value)(hk:d.kind=6){w0 w:World}{f g:Nat}{l m:List Nd}{x y:Int}(h:Two w0 w f g l m x y)(hl:Inv l x)(hm:Inv m y)(hs:d.s.length≤140737488355328): Calls Tryz.prog 15 #[kpt f,kpt g,.agg (opC d sv av)] w fun e w'=>Did w0 w f g l m x y d e w':=by
 have HA:Hid (∀W b,Two w0 W f g l m x y→Bk 33 W b #[.int .i64 d.on,.int .i64 d.kind,.int .i64 d.a,.int .i64 d.b,.string ⟨d.s.toArray⟩,.int .i64 d.i,.int .i64 d.n.kind,.int .i64 d.p,.string ⟨d.n.subject.toArray⟩,.string ⟨d.n.client.toArray⟩,.string ⟨d.n.audience.toArray⟩,sv,.int .i64 d.n.born,.int .i64 d.n.exp,.bool d.n.dead,.bool d.n.spent,av,.int .i64 d.n.level,.string ⟨d.n.secret.toArray⟩,.string ⟨d.n.data.toArray⟩]→Calls Tryz.prog 48 #[.pointer (some ⟨f,0,none⟩),.int .i64 d.a,.string ⟨d.s.toArray⟩] W fun e w'=>e = .returned (.int .i64 (noteP l d.a d.s).1)∧Two w0 w' f g (noteP l d.a d.s).2 m x y∧Bk 33 w' b #[.int .i64 d.on,.int .i64 d.kind,.int .i64 d.a,.int .i64 d.b,.string ⟨d.s.toArray⟩,.int .i64 d.i,.int .i64 d.n.kind,.int .i64 d.p,.string ⟨d.n.subject.toArray⟩,.string ⟨d.n.client.toArray⟩,.string ⟨d.n.audience.toArray⟩,sv,.int .i64 d.n.born,.int .i64 d.n.exp,.bool d.n.dead,.bool d.n.spent,av,.int .i64 d.n.level,.string ⟨d.n.secret.toArray⟩,.string ⟨d.n.data.toArray⟩]∧KeepM f g W w'):=Φ (fun W b h hb=>h.goA hb (by decide) (by decide) (by decide) fun ns e hf=>by
  have hh:=note_call hf (few_ns e hl) d.a d.s
  first | (rw [e] at hh;exact hh) | (rw [e,len_nodes e] at hh;exact hh))
 have HB:Hid (∀W b,Two w0 W f g (noteP l d.a d.s).2 m x y→Bk 33 W b #[.int .i64 d.on,.int .i64 d.kind,.int .i64 d.a,.int .i64 d.b,.string ⟨d.s.toArray⟩,.int .i64 d.i,.int .i64 d.n.kind,.int .i64 d.p,.string ⟨d.n.subject.toArray⟩,.string ⟨d.n.client.toArray⟩,.string ⟨d.n.audience.toArray⟩,sv,.int .i64 d.n.born,.int .i64 d.n.exp,.bool d.n.dead,.bool d.n.spent,av,.int .i64 d.n.level,.string ⟨d.n.secret.toArray⟩,.string ⟨d.n.data.toArray⟩]→Calls Tryz.prog 49 #[.pointer (some ⟨g,0,none⟩),.int .i64 d.a,.string ⟨d.s.toArray⟩] W fun e w'=>e = .returned (.int .i64 (noteP m d.a d.s).1)∧Two w0 w' f g (noteP l d.a d.s).2 (noteP m d.a d.s).2 x y∧Bk 33 w' b #[.int .i64 d.on,.int .i64 d.kind,.int .i64 d.a,.int .i64 d.b,.string ⟨d.s.toArray⟩,.int .i64 d.i,.int .i64 d.n.kind,.int .i64 d.p,.string ⟨d.n.subject.toArray⟩,.string ⟨d.n.client.toArray⟩,.string ⟨d.n.audience.toArray⟩,sv,.int .i64 d.n.born,.int .i64 d.n.exp,.bool d.n.dead,.bool d.n.spent,av,.int .i64 d.n.level,.string ⟨d.n.secret.toArray⟩,.string ⟨d.n.data.toArray⟩]∧KeepM f g W w'):=Φ (fun W b h hb=>h.goB hb (by decide) fun rs e hf=>by
  have hh:=rnote_any hf (ok_rs e hm) (few_rs e hm) d.a d.s hs
  rw [e] at hh
  exact hh)
 have HS:Hid (stepP l x d=((noteP l d.a d.s).2,x)∧stepP m y d=((noteP m d.a d.s).2,y)):=Φ (by unfold stepP;rw [hk];exact⟨rfl,rfl⟩)
 obtain⟨b,hb⟩:∃b,b=w.heap.size:=⟨_,rfl⟩
 have K1:Hid (Bk 33 (w.alloc (.cells #[.int .i64 d.on,.int .i64 d.kind,.int .i64 d.a,.int .i64 d.b,.string ⟨d.s.toArray⟩,.int .i64 d.i,.int .i64 d.n.kind,.int .i64 d.p,.string ⟨d.n.subject.toArray⟩,.string ⟨d.n.client.toArray⟩,.string ⟨d.n.audience.toArray⟩,sv,.int .i64 d.n.born,.int .i64 d.n.exp,.bool d.n.dead,.bool d.n.spent,av,.int .i64 d.n.level,.string ⟨d.n.secret.toArray⟩,.string ⟨d.n.data.toArray⟩] 33)) b #[.int .i64 d.on,.int .i64 d.kind,.int .i64 d.a,.int .i64 d.b,.string ⟨d.s.toArray⟩,.int .i64 d.i,.int .i64 d.n.kind,.int .i64 d.p,.string ⟨d.n.subject.toArray⟩,.string ⟨d.n.client.toArray⟩,.string ⟨d.n.audience.toArray⟩,sv,.int .i64 d.n.born,.int .i64 d.n.exp,.bool d.n.dead,.bool d.n.spent,av,.int .i64 d.n.level,.string ⟨d.n.secret.toArray⟩,.string ⟨d.n.data.toArray⟩]):=Φ (Bk.new hb)
 have T1:Hid (Two w0 (w.alloc (.cells #[.int .i64 d.on,.int .i64 d.kind,.int .i64 d.a,.int .i64 d.b,.string ⟨d.s.toArray⟩,.int .i64 d.i,.int .i64 d.n.kind,.int .i64 d.p,.string ⟨d.n.subject.toArray⟩,.string ⟨d.n.client.toArray⟩,.string ⟨d.n.audience.toArray⟩,sv,.int .i64 d.n.born,.int .i64 d.n.exp,.bool d.n.dead,.bool d.n.spent,av,.int .i64 d.n.level,.string ⟨d.n.secret.toArray⟩,.string ⟨d.n.data.toArray⟩] 33)) f g l m x y):=Φ (h.down (by go_grown))
 obtain⟨W,hW⟩:∃W,W=w.alloc (.cells #[.int .i64 d.on,.int .i64 d.kind,.int .i64 d.a,.int .i64 d.b,.string ⟨d.s.toArray⟩,.int .i64 d.i,.int .i64 d.n.kind,.int .i64 d.p,.string ⟨d.n.subject.toArray⟩,.string ⟨d.n.client.toArray⟩,.string ⟨d.n.audience.toArray⟩,sv,.int .i64 d.n.born,.int .i64 d.n.exp,.bool d.n.dead,.bool d.n.spent,av,.int .i64 d.n.level,.string ⟨d.n.secret.toArray⟩,.string ⟨d.n.data.toArray⟩] 33):=⟨_,rfl⟩
 rw [← hW] at K1 T1
 have HKW:Hid (KeepM f g w W.drew):=Φ (KeepM.of (by rw [hW];go_grown))
 have HW:=Φ hW
 have HBB:=Φ hb
 have HKI:=Φ hk
 have ck:W.cell? ⟨b,1,none⟩=some (.int .i64 6):=by
  have:=K1.out.cell 1
  rw [hk] at this
  exact this
 obtain⟨ra,hra⟩:∃ra:Int,ra=(noteP l d.a d.s).1:=⟨_,rfl⟩
 obtain⟨rb,hrb⟩:∃rb:Int,rb=(noteP m d.a d.s).1:=⟨_,rfl⟩
 have HE:Hid (l=m→x=y→(ra == rb)=true):=Φ (by rintro rfl rfl;rw [hra,hrb];simp)
 obtain⟨la,hla⟩:∃la,la=(noteP l d.a d.s).2:=⟨_,rfl⟩
 obtain⟨lb,hlb⟩:∃lb,lb=(noteP m d.a d.s).2:=⟨_,rfl⟩
 rw [← hra,← hla] at HA
 rw [← hrb,← hlb,← hla] at HB
 rw [← hla,← hlb] at HS
 clear hra hrb hla hlb h hl hm hb hW hk
 unfold opC kpt
 go_enter Tryz.func15,Tryz.ntmps15
 go_upto_region 32 with (rw [← HW.out,← HBB.out])
 refine Pl.dsN (fun ba bb V=>Bk 33 V b #[.int .i64 d.on,.int .i64 d.kind,.int .i64 d.a,.int .i64 d.b,.string ⟨d.s.toArray⟩,.int .i64 d.i,.int .i64 d.n.kind,.int .i64 d.p,.string ⟨d.n.subject.toArray⟩,.string ⟨d.n.client.toArray⟩,.string ⟨d.n.audience.toArray⟩,sv,.int .i64 d.n.born,.int .i64 d.n.exp,.bool d.n.dead,.bool d.n.spent,av,.int .i64 d.n.level,.string ⟨d.n.secret.toArray⟩,.string ⟨d.n.data.toArray⟩]∧(ba=false→bb=false→Two w0 V f g l m x y)∧(ba=true→bb=false→Two w0 V f g la m x y)∧(bb=true→Two w0 V f g la lb x y)∧KeepM f g w V) f g b d.a d.s ra rb W (fun _ _ W h=>h.1.cell 2) (fun _ _ W h=>h.1.cell 4) ?_ ?_ ⟨K1.out.drew,fun _ _=>T1.out.down (by go_grown),(fun h=>by cases h),(fun h=>by cases h),HKW.out⟩ ?_
 ·intro V hV
  exact(HA.out V b (hV.2.1 rfl rfl) hV.1).mono fun e w' h3=>⟨h3.1,h3.2.2.1,(fun h=>by cases h),(fun _ _=>h3.2.1),(fun h=>by cases h),hV.2.2.2.2.trans h3.2.2.2⟩
 ·intro V hV
  exact(HB.out V b (hV.2.2.1 rfl rfl) hV.1).mono fun e w' h3=>⟨h3.1,h3.2.2.1,(fun h=>by cases h),(fun _ h=>by cases h),(fun _=>h3.2.1),hV.2.2.2.2.trans h3.2.2.2⟩
 ·intro V hV
  have HV:=Φ (And.intro (hV.2.2.2.1 rfl) hV.2.2.2.2)
  clear hV
  go_wp2_with fail
  go_ret
  unfold Did
  rw [HS.out.1,HS.out.2]
  exact⟨ra == rb,rfl,HV.out.1,HE.out,HV.out.2.did⟩
set_option maxHeartbeats 8000000 in
theorem does_prune (d:OpD)(sv av:Value)(hk:d.kind=7){w0 w:World}{f g:Nat}{l m:List Nd}{x y:Int}(h:Two w0 w f g l m x y)(hl:Inv l x)(hm:Inv m y): Calls Tryz.prog 15 #[kpt f,kpt g,.agg (opC d sv av)] w fun e w'=>Did w0 w f g l m x y d e w':=by
 have HA:Hid (∀W b,Two w0 W f g l m x y→Bk 33 W b #[.int .i64 d.on,.int .i64 d.kind,.int .i64 d.a,.int .i64 d.b,.string ⟨d.s.toArray⟩,.int .i64 d.i,.int .i64 d.n.kind,.int .i64 d.p,.string ⟨d.n.subject.toArray⟩,.string ⟨d.n.client.toArray⟩,.string ⟨d.n.audience.toArray⟩,sv,.int .i64 d.n.born,.int .i64 d.n.exp,.bool d.n.dead,.bool d.n.spent,av,.int .i64 d.n.level,.string ⟨d.n.secret.toArray⟩,.string ⟨d.n.data.toArray⟩]→Calls Tryz.prog 31 #[.pointer (some ⟨f,0,none⟩),.int .i64 d.a] W fun e w'=>e = .returned (.int .i64 ((l.length:Int) - ((prune l d.a).length:Int)))∧Two w0 w' f g (prune l d.a) m x y∧Bk 33 w' b #[.int .i64 d.on,.int .i64 d.kind,.int .i64 d.a,.int .i64 d.b,.string ⟨d.s.toArray⟩,.int .i64 d.i,.int .i64 d.n.kind,.int .i64 d.p,.string ⟨d.n.subject.toArray⟩,.string ⟨d.n.client.toArray⟩,.string ⟨d.n.audience.toArray⟩,sv,.int .i64 d.n.born,.int .i64 d.n.exp,.bool d.n.dead,.bool d.n.spent,av,.int .i64 d.n.level,.string ⟨d.n.secret.toArray⟩,.string ⟨d.n.data.toArray⟩]∧KeepM f g W w'):=Φ (fun W b h hb=>h.goA hb (by decide) (by decide) (by decide) fun ns e hf=>by
  have hh:=prune_call hf (few_ns e hl) d.a
  first | (rw [e] at hh;exact hh) | (rw [e,len_nodes e] at hh;exact hh))
 have HB:Hid (∀W b,Two w0 W f g (prune l d.a) m x y→Bk 33 W b #[.int .i64 d.on,.int .i64 d.kind,.int .i64 d.a,.int .i64 d.b,.string ⟨d.s.toArray⟩,.int .i64 d.i,.int .i64 d.n.kind,.int .i64 d.p,.string ⟨d.n.subject.toArray⟩,.string ⟨d.n.client.toArray⟩,.string ⟨d.n.audience.toArray⟩,sv,.int .i64 d.n.born,.int .i64 d.n.exp,.bool d.n.dead,.bool d.n.spent,av,.int .i64 d.n.level,.string ⟨d.n.secret.toArray⟩,.string ⟨d.n.data.toArray⟩]→Calls Tryz.prog 50 #[.pointer (some ⟨g,0,none⟩),.int .i64 d.a] W fun e w'=>e = .returned (.int .i64 ((m.length:Int) - ((prune m d.a).length:Int)))∧Two w0 w' f g (prune l d.a) (prune m d.a) x y∧Bk 33 w' b #[.int .i64 d.on,.int .i64 d.kind,.int .i64 d.a,.int .i64 d.b,.string ⟨d.s.toArray⟩,.int .i64 d.i,.int .i64 d.n.kind,.int .i64 d.p,.string ⟨d.n.subject.toArray⟩,.string ⟨d.n.client.toArray⟩,.string ⟨d.n.audience.toArray⟩,sv,.int .i64 d.n.born,.int .i64 d.n.exp,.bool d.n.dead,.bool d.n.spent,av,.int .i64 d.n.level,.string ⟨d.n.secret.toArray⟩,.string ⟨d.n.data.toArray⟩]∧KeepM f g W w'):=Φ (fun W b h hb=>h.goB hb (by decide) fun rs e hf=>by
  have hh:=(rprune_any hf (ok_rs e hm) (few_rs e hm) d.a).mono fun e w h=>h.1
  rw [e] at hh
  exact hh)
 have HS:Hid (stepP l x d=((prune l d.a),x)∧stepP m y d=((prune m d.a),y)):=Φ (by unfold stepP;rw [hk];exact⟨rfl,rfl⟩)
 obtain⟨b,hb⟩:∃b,b=w.heap.size:=⟨_,rfl⟩
 have K1:Hid (Bk 33 (w.alloc (.cells #[.int .i64 d.on,.int .i64 d.kind,.int .i64 d.a,.int .i64 d.b,.string ⟨d.s.toArray⟩,.int .i64 d.i,.int .i64 d.n.kind,.int .i64 d.p,.string ⟨d.n.subject.toArray⟩,.string ⟨d.n.client.toArray⟩,.string ⟨d.n.audience.toArray⟩,sv,.int .i64 d.n.born,.int .i64 d.n.exp,.bool d.n.dead,.bool d.n.spent,av,.int .i64 d.n.level,.string ⟨d.n.secret.toArray⟩,.string ⟨d.n.data.toArray⟩] 33)) b #[.int .i64 d.on,.int .i64 d.kind,.int .i64 d.a,.int .i64 d.b,.string ⟨d.s.toArray⟩,.int .i64 d.i,.int .i64 d.n.kind,.int .i64 d.p,.string ⟨d.n.subject.toArray⟩,.string ⟨d.n.client.toArray⟩,.string ⟨d.n.audience.toArray⟩,sv,.int .i64 d.n.born,.int .i64 d.n.exp,.bool d.n.dead,.bool d.n.spent,av,.int .i64 d.n.level,.string ⟨d.n.secret.toArray⟩,.string ⟨d.n.data.toArray⟩]):=Φ (Bk.new hb)
 have T1:Hid (Two w0 (w.alloc (.cells #[.int .i64 d.on,.int .i64 d.kind,.int .i64 d.a,.int .i64 d.b,.string ⟨d.s.toArray⟩,.int .i64 d.i,.int .i64 d.n.kind,.int .i64 d.p,.string ⟨d.n.subject.toArray⟩,.string ⟨d.n.client.toArray⟩,.string ⟨d.n.audience.toArray⟩,sv,.int .i64 d.n.born,.int .i64 d.n.exp,.bool d.n.dead,.bool d.n.spent,av,.int .i64 d.n.level,.string ⟨d.n.secret.toArray⟩,.string ⟨d.n.data.toArray⟩] 33)) f g l m x y):=Φ (h.down (by go_grown))
 obtain⟨W,hW⟩:∃W,W=w.alloc (.cells #[.int .i64 d.on,.int .i64 d.kind,.int .i64 d.a,.int .i64 d.b,.string ⟨d.s.toArray⟩,.int .i64 d.i,.int .i64 d.n.kind,.int .i64 d.p,.string ⟨d.n.subject.toArray⟩,.string ⟨d.n.client.toArray⟩,.string ⟨d.n.audience.toArray⟩,sv,.int .i64 d.n.born,.int .i64 d.n.exp,.bool d.n.dead,.bool d.n.spent,av,.int .i64 d.n.level,.string ⟨d.n.secret.toArray⟩,.string ⟨d.n.data.toArray⟩] 33):=⟨_,rfl⟩
 rw [← hW] at K1 T1
 have HKW:Hid (KeepM f g w W.drew):=Φ (KeepM.of (by rw [hW];go_grown))
 have HW:=Φ hW
 have HBB:=Φ hb
 have HKI:=Φ hk
 have ck:W.cell? ⟨b,1,none⟩=some (.int .i64 7):=by
  have:=K1.out.cell 1
  rw [hk] at this
  exact this
 obtain⟨ra,hra⟩:∃ra:Int,ra=((l.length:Int) - ((prune l d.a).length:Int)):=⟨_,rfl⟩
 obtain⟨rb,hrb⟩:∃rb:Int,rb=((m.length:Int) - ((prune m d.a).length:Int)):=⟨_,rfl⟩
 have HE:Hid (l=m→x=y→(ra == rb)=true):=Φ (by rintro rfl rfl;rw [hra,hrb];simp)
 obtain⟨la,hla⟩:∃la,la=(prune l d.a):=⟨_,rfl⟩
 obtain⟨lb,hlb⟩:∃lb,lb=(prune m d.a):=⟨_,rfl⟩
 rw [← hra,← hla] at HA
 rw [← hrb,← hlb,← hla] at HB
 rw [← hla,← hlb] at HS
 clear hra hrb hla hlb h hl hm hb hW hk
 unfold opC kpt
 go_enter Tryz.func15,Tryz.ntmps15
 go_upto_region 34 with (rw [← HW.out,← HBB.out])
 refine Pl.dsP (fun ba bb V=>Bk 33 V b #[.int .i64 d.on,.int .i64 d.kind,.int .i64 d.a,.int .i64 d.b,.string ⟨d.s.toArray⟩,.int .i64 d.i,.int .i64 d.n.kind,.int .i64 d.p,.string ⟨d.n.subject.toArray⟩,.string ⟨d.n.client.toArray⟩,.string ⟨d.n.audience.toArray⟩,sv,.int .i64 d.n.born,.int .i64 d.n.exp,.bool d.n.dead,.bool d.n.spent,av,.int .i64 d.n.level,.string ⟨d.n.secret.toArray⟩,.string ⟨d.n.data.toArray⟩]∧(ba=false→bb=false→Two w0 V f g l m x y)∧(ba=true→bb=false→Two w0 V f g la m x y)∧(bb=true→Two w0 V f g la lb x y)∧KeepM f g w V) f g b d.a ra rb W (fun _ _ W h=>h.1.cell 2) ?_ ?_ ⟨K1.out.drew,fun _ _=>T1.out.down (by go_grown),(fun h=>by cases h),(fun h=>by cases h),HKW.out⟩ ?_
 ·intro V hV
  exact(HA.out V b (hV.2.1 rfl rfl) hV.1).mono fun e w' h3=>⟨h3.1,h3.2.2.1,(fun h=>by cases h),(fun _ _=>h3.2.1),(fun h=>by cases h),hV.2.2.2.2.trans h3.2.2.2⟩
 ·intro V hV
  exact(HB.out V b (hV.2.2.1 rfl rfl) hV.1).mono fun e w' h3=>⟨h3.1,h3.2.2.1,(fun h=>by cases h),(fun _ h=>by cases h),(fun _=>h3.2.1),hV.2.2.2.2.trans h3.2.2.2⟩
 ·intro V hV
  have HV:=Φ (And.intro (hV.2.2.2.1 rfl) hV.2.2.2.2)
  clear hV
  go_wp2_with fail
  go_ret
  unfold Did
  rw [HS.out.1,HS.out.2]
  exact⟨ra == rb,rfl,HV.out.1,HE.out,HV.out.2.did⟩
end Go.Proofs.YthogppennalobaaGreatDoor
