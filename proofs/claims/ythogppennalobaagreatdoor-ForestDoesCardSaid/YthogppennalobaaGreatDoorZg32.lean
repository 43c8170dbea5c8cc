/- The reader of a row The reader of a row The reader of a row -/
import Derived.Test.YthogppennalobaaGreatDoorZg30
import Derived.Test.YthogppennalobaaGreatDoorZg31
import Derived.Test.YthogppennalobaaGreatDoorZg07
import Derived.Test.YthogppennalobaaGreatDoorZg22
import Derived.Test.YthogppennalobaaGreatDoorZg24
import Derived.Test.YthogppennalobaaGreatDoorZg27
import Derived.Test.YthogppennalobaaGreatDoorZg25
set_option linter.unusedVariables false
set_option linter.unusedSimpArgs false
set_option maxRecDepth 100000
namespace Go.Proofs.YthogppennalobaaGreatDoor
open Go.RowKit Go.Sort Forest OwnR TxO Pl
def zNd:Nd:=⟨0,0,0,[],[],[],[],0,0,false,false,[],0,[],[]⟩
def Told (W:World)(q:Option Nd)(c:Array Value)(b:Bool): Prop:=b=q.isSome∧∃n sv av,c=inC (n.id:Int) (n.parent:Int) n sv av∧Rd W sv n.scope∧Rd W av n.actors∧n=q.getD zNd
theorem Told.below {w w':World}{q:Option Nd}{c:Array Value}{b:Bool}(h:Told w q c b)(hb:Below w.heap.size w w'): Told w' q c b:=by
 obtain⟨h1,n,sv,av,h2,h3,h4,h5⟩:=h
 exact⟨h1,n,sv,av,h2,h3.below hb,h4.below hb,h5⟩
theorem Told.size {w:World}{q:Option Nd}{c:Array Value}{b:Bool}(h:Told w q c b): c.size=15∧c.all (·.oneCell')=true:=by
 obtain⟨h1,n,sv,av,rfl,⟨sa,sc,rfl,_⟩,⟨aa,ac,rfl,_⟩,h5⟩:=h
 exact⟨rfl,one15 _ _ n _ _ _ _ _ _⟩
theorem told_zero (w:World): Told w none zeroN false:=⟨rfl,zNd,.slice none 0 0,.slice none 0 0,rfl,rd_nil w,rd_nil w,rfl⟩
theorem ToldP.told {w w':World}{q:Option Nd}{e:Ending}(h:ToldP w w' q e): ∃c b,e = .returned (.tuple #[.agg c,.bool b])∧Told w' q c b∧Below w.heap.size w w':=by
 obtain⟨h,hb⟩:=h
 cases q with
 |none=>exact⟨_,_,h,told_zero w',hb⟩
 |some n=>
  obtain⟨sv,av,rfl,h1,h2⟩:=h
  exact⟨_,_,rfl,⟨rfl,n,sv,av,rfl,h1.rd,h2.rd,rfl⟩,hb⟩
theorem GotP.told {w:World}{g:Nat}{rs:List (Nd×Value×Value)}{y x:Int}{e:Ending}(hx:Xr w g rs y)(hO:Ok (nds rs))(h:GotP rs x e): ∃c b,e = .returned (.tuple #[.agg c,.bool b])∧Told w (findI (nds rs) x) c b:=by
 obtain⟨v,_,_,hn⟩:=hx
 rcases h with ⟨rfl,h⟩ | ⟨i,hi,hid,rfl⟩
 ·have:findI (nds rs) x=none:=by
   unfold findI
   rw [List.find?_eq_none]
   intro n hm he
   exact h n hm (by simpa using he)
  rw [this]
  exact⟨_,_,rfl,told_zero w⟩
 ·have hm:rs[i].1∈nds rs:=List.mem_map.2 ⟨_,List.getElem_mem hi,rfl⟩
  have:findI (nds rs) x=some rs[i].1:=by
   have h1:=at_of hO hm
   unfold findI
   unfold at' at h1
   rw [← h1,← hid]
   congr 1
   funext n
   by_cases e:n.id=rs[i].1.id
   ·rw [e];simp
   ·rw [beq_eq_false_iff_ne.2 e,beq_eq_false_iff_ne.2 (by omega)]
  rw [this]
  obtain⟨h1,h2⟩:=hn _ (List.getElem_mem hi)
  exact⟨_,_,rfl,⟨rfl,rs[i].1,_,_,rfl,h1.rd,h2.rd,rfl⟩⟩
theorem GotS.told {w:World}{g:Nat}{rs:List (Nd×Value×Value)}{y:Int}{s:Bs}{e:Ending}(hx:Xr w g rs y)(h:GotS rs s e): ∃c b,e = .returned (.tuple #[.agg c,.bool b])∧Told w ((nds rs).find? fun n=>n.secret == s) c b:=by
 obtain⟨v,_,_,hn⟩:=hx
 rcases h with ⟨rfl,h⟩ | ⟨r,hr,h,rfl⟩
 ·rw [h]
  exact⟨_,_,rfl,told_zero w⟩
 ·rw [h]
  obtain⟨h1,h2⟩:=hn r hr
  exact⟨_,_,rfl,⟨rfl,r.1,_,_,rfl,h1.rd,h2.rd,rfl⟩⟩
theorem sameP_refl (i j:Int)(n:Nd): sameP i j i j n n=true:=by
 unfold sameP
 simp
theorem told_same {w:World}{q r:Option Nd}{c d:Array Value}{b a:Bool}(h:Told w q c b)(k:Told w r d a)(hq:∀n,q=some n→n.scope.length≤100000∧n.actors.length≤100000):
  ∃z,(q=r→z=true)∧∀V,Below w.heap.size w V→Calls Tryz.prog 38 #[.agg c,.agg d] V fun e w'=>e = .returned (.bool z)∧Below V.heap.size V w':=by
 obtain⟨h1,n,sv,av,rfl,h2,h3,h4⟩:=h
 obtain⟨k1,m,tv,uv,rfl,k2,k3,k4⟩:=k
 have hln:n.scope.length≤100000∧n.actors.length≤100000:=by
  cases q with
  |none=>rw [h4];exact⟨by decide,by decide⟩
  |some p=>rw [h4];exact hq p rfl
 refine⟨sameP n.id n.parent m.id m.parent n m,?_,fun V hv=>rsame_any n.id n.parent m.id m.parent n m sv av tv uv (by omega) (by omega) V (h2.below hv) (h3.below hv) (k2.below hv) (k3.below hv)⟩
 rintro rfl
 rw [h4,k4]
 exact sameP_refl _ _ _
theorem Inv.short {l:List Nd}{x:Int}(h:Inv l x): ∀n∈l,Short n:=fun n hn=>may_short (h.mid n hn) (h.may n hn)
theorem Inv.lens {l:List Nd}{x:Int}(h:Inv l x){n:Nd}(hn:n∈l): n.scope.length≤100000∧n.actors.length≤100000:=by
 have hm:=h.may n hn
 constructor
 ·by_cases k:(n.scope.length:Int)≤16
  ·omega
  ·rw [may_no6 (decide_eq_false k)] at hm;cases hm
 ·by_cases k:(n.actors.length:Int)≤4
  ·omega
  ·rw [may_no11 (decide_eq_false k)] at hm;cases hm
open Go.Lib renaming hid→Φ
theorem Two.get {w0 w:World}{f g:Nat}{l m:List Nd}{x y:Int}(h:Two w0 w f g l m x y)(hl:Inv l x)(A:Int): Calls Tryz.prog 34 #[.pointer (some ⟨f,0,none⟩),.int .i64 A] w fun e w'=>∃c b,e = .returned (.tuple #[.agg c,.bool b])∧Told w' (findI l A) c b∧Below w.heap.size w w':=by
 obtain⟨⟨ns,e,h1⟩,_⟩:=h
 exact(get_call h1.fr (few_ns e hl) (by rw [e];exact hl.short) A).mono fun _ _ h2=>by rw [e] at h2;exact h2.told
theorem Two.rget {w0 w:World}{f g:Nat}{l m:List Nd}{x y:Int}(h:Two w0 w f g l m x y)(hm:Inv m y)(A:Int): Calls Tryz.prog 35 #[.pointer (some ⟨g,0,none⟩),.int .i64 A] w fun e w'=>∃c b,e = .returned (.tuple #[.agg c,.bool b])∧Told w' (findI m A) c b∧Below w.heap.size w w':=by
 obtain⟨_,⟨rs,e,h1⟩⟩:=h
 refine(rget_any h1.xr (few_rs e hm) A).mono fun _ w' h2=>?_
 obtain⟨c,b,h3,h4⟩:=GotP.told (h1.xr.below h2.2) (ok_rs e hm) h2.1
 rw [e] at h4
 exact⟨c,b,h3,h4,h2.2⟩
theorem Two.find {w0 w:World}{f g:Nat}{l m:List Nd}{x y:Int}(h:Two w0 w f g l m x y)(hl:Inv l x)(s:Bs): Calls Tryz.prog 36 #[.pointer (some ⟨f,0,none⟩),.string ⟨s.toArray⟩] w fun e w'=>∃c b,e = .returned (.tuple #[.agg c,.bool b])∧Told w' (l.find? fun n=>n.secret == s) c b∧Below w.heap.size w w':=by
 obtain⟨⟨ns,e,h1⟩,_⟩:=h
 exact(find_call h1.fr (few_ns e hl) (by rw [e];exact hl.short) s).mono fun _ _ h2=>by rw [e] at h2;exact h2.told
theorem Two.rfind {w0 w:World}{f g:Nat}{l m:List Nd}{x y:Int}(h:Two w0 w f g l m x y)(hm:Inv m y)(s:Bs): Calls Tryz.prog 37 #[.pointer (some ⟨g,0,none⟩),.string ⟨s.toArray⟩] w fun e w'=>∃c b,e = .returned (.tuple #[.agg c,.bool b])∧Told w' (m.find? fun n=>n.secret == s) c b∧Below w.heap.size w w':=by
 obtain⟨_,⟨rs,e,h1⟩⟩:=h
 refine(rfind_any h1.xr (few_rs e hm) s).mono fun _ w' h2=>?_
 obtain⟨c,b,h3,h4⟩:=GotS.told (h1.xr.below h2.2) h2.1
 rw [e] at h4
 exact⟨c,b,h3,h4,h2.2⟩
theorem Two.live {w0 w:World}{f g:Nat}{l m:List Nd}{x y:Int}(h:Two w0 w f g l m x y)(hl:Inv l x)(A B:Int): Calls Tryz.prog 27 #[.pointer (some ⟨f,0,none⟩),.int .i64 A,.int .i64 B] w fun e w'=>e = .returned (.bool (liveP l A B))∧Below w.heap.size w w':=by
 obtain⟨⟨ns,e,h1⟩,_⟩:=h
 have:=live_any h1.fr (few_ns e hl) A B
 rw [e] at this
 exact this
theorem Two.rlive {w0 w:World}{f g:Nat}{l m:List Nd}{x y:Int}(h:Two w0 w f g l m x y)(hm:Inv m y)(A B:Int): Calls Tryz.prog 39 #[.pointer (some ⟨g,0,none⟩),.int .i64 A,.int .i64 B] w fun e w'=>e = .returned (.bool (liveP m A B))∧Below w.heap.size w w':=by
 obtain⟨_,⟨rs,e,h1⟩⟩:=h
 have:=rlive_any h1.xr (ok_rs e hm) (few_rs e hm) A B
 rw [e] at this
 exact this
def pathN (l:List Nd)(A:Int): List Int:=(pathI l A).map fun n=>(n.id:Int)
theorem ri_path {w0 w:World}{v:Value}{l:List Nd}(h:Lw 3 1 w0 w v l.length (l.map idV)): Ri w v (l.map fun n=>(n.id:Int)):=by
 obtain⟨a,c,rfl⟩:=h.shape
 refine⟨a,c,by rw [List.length_map],fun i hi=>?_⟩
 have hi2:i<l.length:=by simpa using hi
 obtain⟨g,rfl,hg⟩:=OwnR.owns_cell h.1 (i:=i) (v:=idV l[i]) (by rw [List.getElem?_map,List.getElem?_eq_getElem hi2];rfl)
 exact⟨g,0,rfl,by simpa [idV] using hg⟩
theorem path_len {l:List Nd}(h:Ok l): ∀id,(path l id).length≤id+1:=by
 intro id
 induction id using Nat.strongRecOn with
 |ind id ih=>
  cases e:at' l id with
  |none=>rw [path_none e];simp
  |some n=>
   have hn:=at_mem e
   have h1:=path_some h hn.1
   rw [hn.2] at h1
   rw [h1]
   have hp:=(h.mem hn.1).2
   have:=ih n.parent (by omega)
   rw [List.length_cons]
   omega
theorem path_few {l:List Nd}{x:Int}(h:Inv l x)(A:Int): (pathN l A).length≤1000000000:=by
 unfold pathN pathI
 rw [List.length_map]
 cases e:findI l A with
 |none=>simp
 |some n=>
  have hm:n∈l:=List.mem_of_find?_eq_some e
  have h1:=path_len h.ok n.id
  have h2:=h.good.2 n hm
  have h3:=h.most
  show(path l n.id).length≤_
  omega
theorem Two.path {w0 w:World}{f g:Nat}{l m:List Nd}{x y:Int}(h:Two w0 w f g l m x y)(hl:Inv l x)(A:Int): Calls Tryz.prog 29 #[.pointer (some ⟨f,0,none⟩),.int .i64 A] w fun e w'=>∃v,e = .returned v∧Ri w' v (pathN l A)∧Below w.heap.size w w':=by
 obtain⟨⟨ns,e,h1⟩,_⟩:=h
 refine(path_call h1.fr (few_ns e hl) A).mono ?_
 rintro _ w' ⟨v,rfl,h2⟩
 rw [e] at h2
 exact⟨v,rfl,ri_path h2,h2.2.1⟩
theorem Two.rpath {w0 w:World}{f g:Nat}{l m:List Nd}{x y:Int}(h:Two w0 w f g l m x y)(hm:Inv m y)(A:Int): Calls Tryz.prog 41 #[.pointer (some ⟨g,0,none⟩),.int .i64 A] w fun e w'=>∃v,e = .returned v∧Ri w' v (pathN m A)∧Below w.heap.size w w':=by
 obtain⟨_,⟨rs,e,h1⟩⟩:=h
 refine(rpath_any h1.xr (ok_rs e hm) (few_rs e hm) A).mono ?_
 rintro _ w' ⟨v,rfl,h2⟩
 rw [e] at h2
 exact⟨v,rfl,ri_path h2,h2.2.1⟩
structure Box (w2 V:World)(q:Nat)(c:Array Value): Prop where
 bk:Bk 31 V q c
 below:Below w2.heap.size w2 V
theorem Box.of {w2:World}{c:Array Value}: Box w2 ((w2.alloc (.cells zeroN 31)).setRow w2.heap.size c) w2.heap.size c:=
 ⟨(Bk.new (t:=31) (cs:=zeroN) rfl).row,below_row (by go_grown) (Nat.le_refl _)⟩
set_option maxHeartbeats 16000000 in
theorem does_tell (d:OpD)(sv av:Value)(hk:d.kind=1){w0 w:World}{f g:Nat}{l m:List Nd}{x y:Int}(h:Two w0 w f g l m x y)(hl:Inv l x)(hm:Inv m y): Calls Tryz.prog 15 #[kpt f,kpt g,.agg (opC d sv av)] w fun e w'=>Did w0 w f g l m x y d e w':=by
 have HL:=Φ hl
 have HM:=Φ hm
 have HS:Hid (stepP l x d=(l,x)∧stepP m y d=(m,y)):=Φ (by unfold stepP;rw [hk];exact⟨rfl,rfl⟩)
 obtain⟨b,hb⟩:∃b,b=w.heap.size:=⟨_,rfl⟩
 obtain⟨W,hW⟩:∃W,W=w.alloc (.cells #[.int .i64 d.on,.int .i64 d.kind,.int .i64 d.a,.int .i64 d.b,.string ⟨d.s.toArray⟩,.int .i64 d.i,.int .i64 d.n.kind,.int .i64 d.p,.string ⟨d.n.subject.toArray⟩,.string ⟨d.n.client.toArray⟩,.string ⟨d.n.audience.toArray⟩,sv,.int .i64 d.n.born,.int .i64 d.n.exp,.bool d.n.dead,.bool d.n.spent,av,.int .i64 d.n.level,.string ⟨d.n.secret.toArray⟩,.string ⟨d.n.data.toArray⟩] 33):=⟨_,rfl⟩
 have K1:Hid (Bk 33 W b #[.int .i64 d.on,.int .i64 d.kind,.int .i64 d.a,.int .i64 d.b,.string ⟨d.s.toArray⟩,.int .i64 d.i,.int .i64 d.n.kind,.int .i64 d.p,.string ⟨d.n.subject.toArray⟩,.string ⟨d.n.client.toArray⟩,.string ⟨d.n.audience.toArray⟩,sv,.int .i64 d.n.born,.int .i64 d.n.exp,.bool d.n.dead,.bool d.n.spent,av,.int .i64 d.n.level,.string ⟨d.n.secret.toArray⟩,.string ⟨d.n.data.toArray⟩]):=Φ (by rw [hW];exact Bk.new hb)
 have T1:Hid (Two w0 W f g l m x y):=Φ (by rw [hW];exact h.down (by go_grown))
 have HKW:Hid (KeepM f g w W):=Φ (KeepM.of (by rw [hW];go_grown))
 have HW:=Φ hW
 have HBB:=Φ hb
 have ck:W.cell? ⟨b,1,none⟩=some (.int .i64 1):=by
  have:=K1.out.cell 1
  rw [hk] at this
  exact this
 obtain⟨A,hA⟩:∃A,A=d.a:=⟨_,rfl⟩
 obtain⟨B,hB⟩:∃B,B=d.b:=⟨_,rfl⟩
 obtain⟨s,hs⟩:∃s,s=d.s:=⟨_,rfl⟩
 have HC1:Hid (∀V,Below W.heap.size W V→V.cell? ⟨b,2,none⟩=some (.int .i64 A)):=Φ (fun V hv=>by rw [hA];exact(K1.out.below hv).cell 2)
 have HC2:Hid (∀V,Below W.heap.size W V→V.cell? ⟨b,3,none⟩=some (.int .i64 B)):=Φ (fun V hv=>by rw [hB];exact(K1.out.below hv).cell 3)
 have HC3:Hid (∀V,Below W.heap.size W V→V.cell? ⟨b,4,none⟩=some (.string ⟨s.toArray⟩)):=Φ (fun V hv=>by rw [hs];exact(K1.out.below hv).cell 4)
 have a0:=HC1.out W (Below.refl _ _)
 clear h hl hm hb hW hk hA hB hs
 unfold opC kpt
 go_enter Tryz.func15,Tryz.ntmps15
 go_wp2_with (rw [← HW.out,← HBB.out])
 refine((T1.out.down (Below.refl W.heap.size W)).get HL.out A).mono ?_
 rintro e w1 ⟨c1,b1,rfl,h1,h2⟩
 obtain⟨U1,hU⟩:∃U,U=w1.alloc (.cells zeroN 31):=⟨_,rfl⟩
 obtain⟨V1,hV⟩:∃V,V=U1.setRow w1.heap.size c1:=⟨_,rfl⟩
 obtain⟨q1,hq⟩:∃q,q=w1.heap.size:=⟨_,rfl⟩
 have Z1:Hid (Bk 31 U1 w1.heap.size zeroN):=Φ (by rw [hU];exact Bk.new rfl)
 have X1:Hid (Box w1 V1 q1 c1):=Φ (by rw [hV,hq,hU];exact Box.of)
 have TD1:Hid (Told V1 (findI l A) c1 b1):=Φ (h1.below X1.out.below)
 have S1:=Φ h1.size
 have G1:Hid (Below W.heap.size W V1):=Φ (by
  have hh:=(Below.refl W.heap.size W)
  have h3:=hh.trans (h2.mono hh.size)
  exact h3.trans (X1.out.below.mono h3.size))
 have P1:Hid (Below W.heap.size W V1):=Φ (h2.trans (X1.out.below.mono h2.size))
 have HV1:=Φ hV
 have HU1:=Φ hU
 have HQ1:=Φ hq
 have a1:=HC1.out V1 G1.out
 clear h1 h2 hV hq hU a0
 go_wp2_with (have hu:=HU1.out;unfold zeroN at hu;rw [← hu];clear hu;refine wpList_put rfl 31 _ _ rfl w1.heap.size zeroN c1 rfl rfl Z1.out (by rw [S1.out.1];exact i31) (by rw [S1.out.1];rfl) S1.out.2 ?_;rw [← HV1.out,← HQ1.out])
 refine((T1.out.down G1.out).rget HM.out A).mono ?_
 rintro e w2 ⟨c2,b2,rfl,h1,h2⟩
 obtain⟨U2,hU⟩:∃U,U=w2.alloc (.cells zeroN 31):=⟨_,rfl⟩
 obtain⟨V2,hV⟩:∃V,V=U2.setRow w2.heap.size c2:=⟨_,rfl⟩
 obtain⟨q2,hq⟩:∃q,q=w2.heap.size:=⟨_,rfl⟩
 have Z2:Hid (Bk 31 U2 w2.heap.size zeroN):=Φ (by rw [hU];exact Bk.new rfl)
 have X2:Hid (Box w2 V2 q2 c2):=Φ (by rw [hV,hq,hU];exact Box.of)
 have TD2:Hid (Told V2 (findI m A) c2 b2):=Φ (h1.below X2.out.below)
 have S2:=Φ h1.size
 have G2:Hid (Below W.heap.size W V2):=Φ (by
  have hh:=G1.out
  have h3:=hh.trans (h2.mono hh.size)
  exact h3.trans (X2.out.below.mono h3.size))
 have P2:Hid (Below V1.heap.size V1 V2):=Φ (h2.trans (X2.out.below.mono h2.size))
 have HV2:=Φ hV
 have HU2:=Φ hU
 have HQ2:=Φ hq
 have a2:=HC3.out V2 G2.out
 clear h1 h2 hV hq hU a1
 go_wp2_with (have hu:=HU2.out;unfold zeroN at hu;rw [← hu];clear hu;refine wpList_put rfl 31 _ _ rfl w2.heap.size zeroN c2 rfl rfl Z2.out (by rw [S2.out.1];exact i31) (by rw [S2.out.1];rfl) S2.out.2 ?_;rw [← HV2.out,← HQ2.out])
 refine((T1.out.down G2.out).find HL.out s).mono ?_
 rintro e w3 ⟨c3,b3,rfl,h1,h2⟩
 obtain⟨U3,hU⟩:∃U,U=w3.alloc (.cells zeroN 31):=⟨_,rfl⟩
 obtain⟨V3,hV⟩:∃V,V=U3.setRow w3.heap.size c3:=⟨_,rfl⟩
 obtain⟨q3,hq⟩:∃q,q=w3.heap.size:=⟨_,rfl⟩
 have Z3:Hid (Bk 31 U3 w3.heap.size zeroN):=Φ (by rw [hU];exact Bk.new rfl)
 have X3:Hid (Box w3 V3 q3 c3):=Φ (by rw [hV,hq,hU];exact Box.of)
 have TD3:Hid (Told V3 (l.find? fun n=>n.secret == s) c3 b3):=Φ (h1.below X3.out.below)
 have S3:=Φ h1.size
 have G3:Hid (Below W.heap.size W V3):=Φ (by
  have hh:=G2.out
  have h3:=hh.trans (h2.mono hh.size)
  exact h3.trans (X3.out.below.mono h3.size))
 have P3:Hid (Below V2.heap.size V2 V3):=Φ (h2.trans (X3.out.below.mono h2.size))
 have HV3:=Φ hV
 have HU3:=Φ hU
 have HQ3:=Φ hq
 have a3:=HC3.out V3 G3.out
 clear h1 h2 hV hq hU a2
 go_wp2_with (have hu:=HU3.out;unfold zeroN at hu;rw [← hu];clear hu;refine wpList_put rfl 31 _ _ rfl w3.heap.size zeroN c3 rfl rfl Z3.out (by rw [S3.out.1];exact i31) (by rw [S3.out.1];rfl) S3.out.2 ?_;rw [← HV3.out,← HQ3.out])
 refine((T1.out.down G3.out).rfind HM.out s).mono ?_
 rintro e w4 ⟨c4,b4,rfl,h1,h2⟩
 obtain⟨U4,hU⟩:∃U,U=w4.alloc (.cells zeroN 31):=⟨_,rfl⟩
 obtain⟨V4,hV⟩:∃V,V=U4.setRow w4.heap.size c4:=⟨_,rfl⟩
 obtain⟨q4,hq⟩:∃q,q=w4.heap.size:=⟨_,rfl⟩
 have Z4:Hid (Bk 31 U4 w4.heap.size zeroN):=Φ (by rw [hU];exact Bk.new rfl)
 have X4:Hid (Box w4 V4 q4 c4):=Φ (by rw [hV,hq,hU];exact Box.of)
 have TD4:Hid (Told V4 (m.find? fun n=>n.secret == s) c4 b4):=Φ (h1.below X4.out.below)
 have S4:=Φ h1.size
 have G4:Hid (Below W.heap.size W V4):=Φ (by
  have hh:=G3.out
  have h3:=hh.trans (h2.mono hh.size)
  exact h3.trans (X4.out.below.mono h3.size))
 have P4:Hid (Below V3.heap.size V3 V4):=Φ (h2.trans (X4.out.below.mono h2.size))
 have HV4:=Φ hV
 have HU4:=Φ hU
 have HQ4:=Φ hq
 have a4:=HC3.out V4 G4.out
 clear h1 h2 hV hq hU a3
 go_wp2_with (have hu:=HU4.out;unfold zeroN at hu;rw [← hu];clear hu;refine wpList_put rfl 31 _ _ rfl w4.heap.size zeroN c4 rfl rfl Z4.out (by rw [S4.out.1];exact i31) (by rw [S4.out.1];rfl) S4.out.2 ?_;rw [← HV4.out,← HQ4.out])
 have R1:Hid (∀W,Below V4.heap.size V4 W→Bk 31 W q1 c1):=Φ (fun W hW=>(((X1.out.bk.below P2.out).below P3.out).below P4.out).below hW)
 have R2:Hid (∀W,Below V4.heap.size V4 W→Bk 31 W q2 c2):=Φ (fun W hW=>((X2.out.bk.below P3.out).below P4.out).below hW)
 have R3:Hid (∀W,Below V4.heap.size V4 W→Bk 31 W q3 c3):=Φ (fun W hW=>(X3.out.bk.below P4.out).below hW)
 have R4:Hid (∀W,Below V4.heap.size V4 W→Bk 31 W q4 c4):=Φ (fun W hW=>X4.out.bk.below hW)
 have T4:Hid (Two w0 V4 f g l m x y):=Φ (T1.out.down G4.out)
 have HK4:Hid (KeepM f g w V4):=Φ (HKW.out.trans (KeepM.of G4.out))
 obtain⟨z1,hz1,hs1⟩:=told_same (((TD1.out.below P2.out).below P3.out).below P4.out) ((TD2.out.below P3.out).below P4.out) (fun n hn=>HL.out.lens (List.mem_of_find?_eq_some hn))
 obtain⟨z2,hz2,hs2⟩:=told_same (TD3.out.below P4.out) TD4.out (fun n hn=>HL.out.lens (List.mem_of_find?_eq_some hn))
 have E1:Hid (l=m→(b1 == b2)=true):=Φ (by rintro rfl;rw [TD1.out.1,TD2.out.1];simp)
 have E2:Hid (l=m→(b3 == b4)=true):=Φ (by rintro rfl;rw [TD3.out.1,TD4.out.1];simp)
 have E3:Hid (l=m→z1=true):=Φ (by rintro rfl;exact hz1 rfl)
 have E4:Hid (l=m→z2=true):=Φ (by rintro rfl;exact hz2 rfl)
 have E5:Hid (l=m→(liveP l A B == liveP m A B)=true):=Φ (by rintro rfl;simp)
 have E6:Hid (l=m→(pathN l A == pathN m A)=true):=Φ (by rintro rfl;simp)
 have HS1:=Φ hs1
 have HS2:=Φ hs2
 have HLV:=Φ (fun W (hb:Below V4.heap.size V4 W)=>(T4.out.down hb).live HL.out A B)
 have HLW:=Φ (fun W (hb:Below V4.heap.size V4 W)=>(T4.out.down hb).rlive HM.out A B)
 have HPV:=Φ (fun W (hb:Below V4.heap.size V4 W)=>(T4.out.down hb).path HL.out A)
 have HPW:=Φ (fun W (hb:Below V4.heap.size V4 W)=>(T4.out.down hb).rpath HM.out A)
 have HPL:=Φ (And.intro (path_few HL.out A) (path_few HM.out A))
 have HD1:Hid (∀W,Below V4.heap.size V4 W→W.cell? ⟨b,2,none⟩=some (.int .i64 A)):=Φ (fun W hW=>HC1.out W (G4.out.trans (hW.mono G4.out.size)))
 have HD2:Hid (∀W,Below V4.heap.size V4 W→W.cell? ⟨b,3,none⟩=some (.int .i64 B)):=Φ (fun W hW=>HC2.out W (G4.out.trans (hW.mono G4.out.size)))
 generalize liveP l A B=lx at E5 HLV
 generalize liveP m A B=ly at E5 HLW
 generalize pathN l A=pl at E6 HPV HPL
 generalize pathN m A=pm at E6 HPW HPL
 clear hz1 hz2 hs1 hs2 a4 TD1 TD2 TD3 TD4 X1 X2 X3 X4 Z1 Z2 Z3 Z4 HV1 HV2 HV3 HV4 HU1 HU2 HU3 HU4 HQ1 HQ2 HQ3 HQ4 G1 G2 G3 P1 P2 P3 P4 HC1 HC2 HC3 T1 K1 HW HBB HL HM
 have hQ1:Hid (∀d os,Calls Tryz.prog 38 #[.agg c1,.agg c2] (grow (redrawn V4 d) os) fun e w''=>e = .returned (.bool z1)∧∃p:Regrown,w''=grow (redrawn V4 p.d) p.os):=Φ (fun d os=>Calls.regrown_of (HS1.out _ (below_regrown V4 d os)))
 have hQ2:Hid (∀d os,Calls Tryz.prog 38 #[.agg c3,.agg c4] (grow (redrawn V4 d) os) fun e w''=>e = .returned (.bool z2)∧∃p:Regrown,w''=grow (redrawn V4 p.d) p.os):=Φ (fun d os=>Calls.regrown_of (HS2.out _ (below_regrown V4 d os)))
 have hQ3:Hid (∀d os,Calls Tryz.prog 27 #[.pointer (some ⟨f,0,none⟩),.int .i64 A,.int .i64 B] (grow (redrawn V4 d) os) fun e w''=>e = .returned (.bool lx)∧∃p:Regrown,w''=grow (redrawn V4 p.d) p.os):=Φ (fun d os=>Calls.regrown_of (HLV.out _ (below_regrown V4 d os)))
 have hQ4:Hid (∀d os,Calls Tryz.prog 39 #[.pointer (some ⟨g,0,none⟩),.int .i64 A,.int .i64 B] (grow (redrawn V4 d) os) fun e w''=>e = .returned (.bool ly)∧∃p:Regrown,w''=grow (redrawn V4 p.d) p.os):=Φ (fun d os=>Calls.regrown_of (HLW.out _ (below_regrown V4 d os)))
 by_cases e0:(b1 == b2)=true
 rotate_left
 ·have e0:(b1 == b2)=false:=by simpa using e0
  have Hf:=Φ e0
  have kA:True:=trivial
  have kB:True:=trivial
  refine wp_region_quiet_below mixed (by kernel_rfl) ?_
  repeat (first | go_big_quiet_step (first | exact hQ1.out _ _ | exact hQ2.out _ _ | exact hQ3.out _ _ | exact hQ4.out _ _) | (refine wpQuiet_load_rowG (by first | rfl | decide) 31 _ rfl q1 rfl 31 c1 (0,0) _ (fun w' hw'=>by obtain⟨p,rfl⟩:=hw';exact R1.out _ (below_regrown V4 p.d p.os)) Tryz.underlying31 rfl (by rw [S1.out.1];exact i31) ?_) | (refine wpQuiet_load_rowG (by first | rfl | decide) 31 _ rfl q2 rfl 31 c2 (0,0) _ (fun w' hw'=>by obtain⟨p,rfl⟩:=hw';exact R2.out _ (below_regrown V4 p.d p.os)) Tryz.underlying31 rfl (by rw [S2.out.1];exact i31) ?_) | (refine wpQuiet_load_rowG (by first | rfl | decide) 31 _ rfl q3 rfl 31 c3 (0,0) _ (fun w' hw'=>by obtain⟨p,rfl⟩:=hw';exact R3.out _ (below_regrown V4 p.d p.os)) Tryz.underlying31 rfl (by rw [S3.out.1];exact i31) ?_) | (refine wpQuiet_load_rowG (by first | rfl | decide) 31 _ rfl q4 rfl 31 c4 (0,0) _ (fun w' hw'=>by obtain⟨p,rfl⟩:=hw';exact R4.out _ (below_regrown V4 p.d p.os)) Tryz.underlying31 rfl (by rw [S4.out.1];exact i31) ?_) | quiet_step (first | exact hQ1.out _ _ | exact hQ2.out _ _ | exact hQ3.out _ _ | exact hQ4.out _ _))
  refine wpQuiet_nil ?_
  intro _ hw'
  obtain⟨⟨dq,osq⟩,hw''⟩:=hw'
  subst hw''
  have B9:Hid (Below V4.heap.size V4 (grow (redrawn V4 dq) osq)):=Φ (below_regrown V4 dq osq)
  clear kA kB hQ1 hQ2 hQ3 hQ4
  generalize grow (redrawn V4 dq) osq=wq at B9 ⊢
  go_wp2_with fail
  go_ret
  unfold Did
  rw [HS.out.1,HS.out.2]
  exact⟨false,rfl,T4.out.down B9.out,fun h _=>by have:=E1.out h;rw [Hf.out] at this;exact this,(HK4.out.trans (KeepM.of B9.out)).did⟩
 by_cases e1:(b3 == b4)=true
 rotate_left
 ·have e1:(b3 == b4)=false:=by simpa using e1
  have Hf:=Φ e1
  have kA:True:=trivial
  have kB:True:=trivial
  refine wp_region_quiet_below mixed (by kernel_rfl) ?_
  repeat (first | go_big_quiet_step (first | exact hQ1.out _ _ | exact hQ2.out _ _ | exact hQ3.out _ _ | exact hQ4.out _ _) | (refine wpQuiet_load_rowG (by first | rfl | decide) 31 _ rfl q1 rfl 31 c1 (0,0) _ (fun w' hw'=>by obtain⟨p,rfl⟩:=hw';exact R1.out _ (below_regrown V4 p.d p.os)) Tryz.underlying31 rfl (by rw [S1.out.1];exact i31) ?_) | (refine wpQuiet_load_rowG (by first | rfl | decide) 31 _ rfl q2 rfl 31 c2 (0,0) _ (fun w' hw'=>by obtain⟨p,rfl⟩:=hw';exact R2.out _ (below_regrown V4 p.d p.os)) Tryz.underlying31 rfl (by rw [S2.out.1];exact i31) ?_) | (refine wpQuiet_load_rowG (by first | rfl | decide) 31 _ rfl q3 rfl 31 c3 (0,0) _ (fun w' hw'=>by obtain⟨p,rfl⟩:=hw';exact R3.out _ (below_regrown V4 p.d p.os)) Tryz.underlying31 rfl (by rw [S3.out.1];exact i31) ?_) | (refine wpQuiet_load_rowG (by first | rfl | decide) 31 _ rfl q4 rfl 31 c4 (0,0) _ (fun w' hw'=>by obtain⟨p,rfl⟩:=hw';exact R4.out _ (below_regrown V4 p.d p.os)) Tryz.underlying31 rfl (by rw [S4.out.1];exact i31) ?_) | quiet_step (first | exact hQ1.out _ _ | exact hQ2.out _ _ | exact hQ3.out _ _ | exact hQ4.out _ _))
  refine wpQuiet_nil ?_
  intro _ hw'
  obtain⟨⟨dq,osq⟩,hw''⟩:=hw'
  subst hw''
  have B9:Hid (Below V4.heap.size V4 (grow (redrawn V4 dq) osq)):=Φ (below_regrown V4 dq osq)
  clear kA kB hQ1 hQ2 hQ3 hQ4
  generalize grow (redrawn V4 dq) osq=wq at B9 ⊢
  go_wp2_with fail
  go_ret
  unfold Did
  rw [HS.out.1,HS.out.2]
  exact⟨false,rfl,T4.out.down B9.out,fun h _=>by have:=E2.out h;rw [Hf.out] at this;exact this,(HK4.out.trans (KeepM.of B9.out)).did⟩
 by_cases e2:z1=true
 rotate_left
 ·obtain rfl:z1=false:=by simpa using e2
  refine Pl.dsU3 (fun _ V=>Below V4.heap.size V4 V) f g b q1 q2 q3 q4 A B c1 c2 c3 c4 b1 b2 b3 b4 lx ly V4 (fun V hV=>(HS1.out V hV).mono fun e w' h=>⟨h.1,hV.trans (h.2.mono hV.size)⟩) (fun _ V hV=>R1.out V hV) (fun _ V hV=>R2.out V hV) S1.out.1 S2.out.1 e0 e1 (by go_grown) ?_
  intro wq hq
  have B9:=Φ hq
  clear hq
  go_wp2_with fail
  go_ret
  unfold Did
  rw [HS.out.1,HS.out.2]
  exact⟨false,rfl,T4.out.down B9.out,fun h _=>E3.out h,(HK4.out.trans (KeepM.of B9.out)).did⟩
 subst e2
 by_cases e3:z2=true
 rotate_left
 ·obtain rfl:z2=false:=by simpa using e3
  refine Pl.dsU4 (fun _ _ V=>Below V4.heap.size V4 V) f g b q1 q2 q3 q4 A B c1 c2 c3 c4 b1 b2 b3 b4 lx ly V4 (fun V hV=>(HS1.out V hV).mono fun e w' h=>⟨h.1,hV.trans (h.2.mono hV.size)⟩) (fun V hV=>(HS2.out V hV).mono fun e w' h=>⟨h.1,hV.trans (h.2.mono hV.size)⟩) (fun _ _ V hV=>R1.out V hV) (fun _ _ V hV=>R2.out V hV) (fun _ _ V hV=>R3.out V hV) (fun _ _ V hV=>R4.out V hV) S1.out.1 S2.out.1 S3.out.1 S4.out.1 e0 e1 (by go_grown) ?_
  intro wq hq
  have B9:=Φ hq
  clear hq
  go_wp2_with fail
  go_ret
  unfold Did
  rw [HS.out.1,HS.out.2]
  exact⟨false,rfl,T4.out.down B9.out,fun h _=>E4.out h,(HK4.out.trans (KeepM.of B9.out)).did⟩
 subst e3
 by_cases e4:(lx == ly)=true
 rotate_left
 ·have e4:(lx == ly)=false:=by simpa using e4
  have Hf:=Φ e4
  refine Pl.dsU5 (fun _ _ _ _ V=>Below V4.heap.size V4 V) f g b q1 q2 q3 q4 A B c1 c2 c3 c4 b1 b2 b3 b4 lx ly V4 (fun _ _ _ _ V hV=>HD1.out V hV) (fun _ _ _ _ V hV=>HD2.out V hV) (fun V hV=>(HS1.out V hV).mono fun e w' h=>⟨h.1,hV.trans (h.2.mono hV.size)⟩) (fun V hV=>(HS2.out V hV).mono fun e w' h=>⟨h.1,hV.trans (h.2.mono hV.size)⟩) (fun V hV=>(HLV.out V hV).mono fun e w' h=>⟨h.1,hV.trans (h.2.mono hV.size)⟩) (fun V hV=>(HLW.out V hV).mono fun e w' h=>⟨h.1,hV.trans (h.2.mono hV.size)⟩) (fun _ _ _ _ V hV=>R1.out V hV) (fun _ _ _ _ V hV=>R2.out V hV) (fun _ _ _ _ V hV=>R3.out V hV) (fun _ _ _ _ V hV=>R4.out V hV) S1.out.1 S2.out.1 S3.out.1 S4.out.1 e0 e1 e4 (by go_grown) ?_
  intro wq hq
  have B9:=Φ hq
  clear hq
  go_wp2_with fail
  go_ret
  unfold Did
  rw [HS.out.1,HS.out.2]
  exact⟨false,rfl,T4.out.down B9.out,fun h _=>by have:=E5.out h;rw [Hf.out] at this;exact this,(HK4.out.trans (KeepM.of B9.out)).did⟩
 refine Pl.dsT (fun _ _ _ _ p7 p41 _ y37 y41 V=>Below V4.heap.size V4 V∧(p7=true→Ri V y37 pl)∧(p41=true→Ri V y41 pm)) f g b q1 q2 q3 q4 A B c1 c2 c3 c4 b1 b2 b3 b4 lx ly (pl == pm) V4 (fun _ _ _ _ _ _ _ _ _ V hV=>HD1.out V hV.1) (fun _ _ _ _ _ _ _ _ _ V hV=>HD2.out V hV.1) (fun y37 y41 V hV=>(HS1.out V hV.1).mono fun e w' h=>⟨h.1,hV.1.trans (h.2.mono hV.1.size),(fun h=>by cases h),(fun h=>by cases h)⟩) (fun y37 y41 V hV=>(HS2.out V hV.1).mono fun e w' h=>⟨h.1,hV.1.trans (h.2.mono hV.1.size),(fun h=>by cases h),(fun h=>by cases h)⟩) (fun y37 y41 V hV=>(HLV.out V hV.1).mono fun e w' h=>⟨h.1,hV.1.trans (h.2.mono hV.1.size),(fun h=>by cases h),(fun h=>by cases h)⟩) (fun y37 y41 V hV=>(HLW.out V hV.1).mono fun e w' h=>⟨h.1,hV.1.trans (h.2.mono hV.1.size),(fun h=>by cases h),(fun h=>by cases h)⟩) ?c37 ?c41 ?c42 (fun _ _ _ _ _ _ _ _ _ V hV=>R1.out V hV.1) (fun _ _ _ _ _ _ _ _ _ V hV=>R2.out V hV.1) (fun _ _ _ _ _ _ _ _ _ V hV=>R3.out V hV.1) (fun _ _ _ _ _ _ _ _ _ V hV=>R4.out V hV.1) S1.out.1 S2.out.1 S3.out.1 S4.out.1 e0 e1 e4 ⟨by go_grown,(fun h=>by cases h),(fun h=>by cases h)⟩ ?_
 case c37=>
  intro y37 y41 V hV
  refine(HPV.out V hV.1).mono ?_
  rintro e w' ⟨v,rfl,h1,h2⟩
  exact⟨v,rfl,hV.1.trans (h2.mono hV.1.size),fun _=>h1,(fun h=>by cases h)⟩
 case c41=>
  intro y37 y41 V hV
  refine(HPW.out V hV.1).mono ?_
  rintro e w' ⟨v,rfl,h1,h2⟩
  have hr:=hV.2.1 rfl
  refine⟨v,rfl,hV.1.trans (h2.mono hV.1.size),fun _=>?_,fun _=>h1⟩
  obtain⟨a,c,rfl,hc⟩:=hr
  exact⟨a,c,rfl,fun i hi=>by obtain⟨b,o,h3,h4⟩:=hc i hi;exact⟨b,o,h3,cell_below h2 h4⟩⟩
 case c42=>
  intro y37 y41 V hV
  refine(numsame_any pl pm HPL.out.1 HPL.out.2 V y37 y41 (hV.2.1 rfl) (hV.2.2 rfl)).mono ?_
  rintro e w' ⟨rfl,h2⟩
  refine⟨rfl,hV.1.trans (h2.mono hV.1.size),fun _=>(hV.2.1 rfl).below h2,fun _=>(hV.2.2 rfl).below h2⟩
 intro y37 y41 wq hq
 have B9:=Φ hq.1
 clear hq
 go_wp2_with fail
 go_ret
 unfold Did
 rw [HS.out.1,HS.out.2]
 exact⟨pl == pm,rfl,T4.out.down B9.out,fun h _=>E6.out h,(HK4.out.trans (KeepM.of B9.out)).did⟩
structure TwoQ (w0 w:World)(f g:Nat)(l m:List Nd)(x y:Int)(A B:Nat): Prop where
 a:∃ns,nodes ns=l∧Nf w0 w f ns x∧∀q,A≤q→q<B→¬OwnsT w ns q
 b:∃rs,nds rs=m∧Xn w0 w g rs y∧∀r∈rs,∀q,A≤q→q<B→¬(r.2.1.ownBlock=some q∨r.2.2.ownBlock=some q)
theorem TwoQ.two {w0 w:World}{f g:Nat}{l m:List Nd}{x y:Int}{A B:Nat}(h:TwoQ w0 w f g l m x y A B): Two w0 w f g l m x y:=by
 obtain⟨⟨ns,e,h1,_⟩,⟨rs,e2,h2,_⟩⟩:=h
 exact⟨⟨ns,e,h1⟩,⟨rs,e2,h2⟩⟩
theorem OwnsT.lt {w:World}{f:Nat}{ns:Ns}{x:Int}(h:FR w f ns x){q:Nat}(hq:OwnsT w ns q): q<w.heap.size:=by
 obtain⟨k,hk,n,sv,av,up,h1,h2⟩:=hq
 obtain⟨sv2,av2,k1,k2,k3⟩:=h.node k hk
 obtain⟨rfl,rfl⟩:=ndC_inj (bk_inj h1 k1)
 rcases h2 with h2 | h2
 ·exact(TxO.owns_block k2 h2).2.choose_spec.lt
 ·exact(TxO.owns_block k3 h2).2.choose_spec.lt
theorem Two.q {w0 W U:World}{f g:Nat}{l m:List Nd}{x y:Int}(h:Two w0 W f g l m x y)(hb:Below W.heap.size W U): TwoQ w0 U f g l m x y W.heap.size U.heap.size:=by
 obtain⟨⟨ns,e,h1⟩,⟨rs,e2,h2⟩⟩:=h
 refine⟨⟨ns,e,h1.down hb,fun q hA _ hq=>?_⟩,⟨rs,e2,h2.down hb,fun r hr q hA _ hq=>?_⟩⟩
 ·have h3:OwnsT W ns q:=hq.same fun k hk=>hb.block _ (OwnsB.lt h1.fr (.inr (.inl ⟨k,hk,rfl⟩)))
  have:=h3.lt h1.fr
  omega
 ·have:=h2.rows r hr q hq
  omega
theorem TwoQ.down {w0 w w':World}{f g:Nat}{l m:List Nd}{x y:Int}{A B:Nat}(h:TwoQ w0 w f g l m x y A B)(hb:Below w.heap.size w w'): TwoQ w0 w' f g l m x y A B:=by
 obtain⟨⟨ns,e,h1,h3⟩,⟨rs,e2,h2,h4⟩⟩:=h
 exact⟨⟨ns,e,h1.down hb,fun q hA hB hq=>h3 q hA hB (hq.same fun k hk=>hb.block _ (OwnsB.lt h1.fr (.inr (.inl ⟨k,hk,rfl⟩))))⟩,⟨rs,e2,h2.down hb,h4⟩⟩
theorem TwoQ.goA {w0 w:World}{f g:Nat}{l m l':List Nd}{x y x':Int}{A B:Nat}{F:FuncId}{args:Array Value}{r:Value}(h:TwoQ w0 w f g l m x y A B)(hB:B≤w.heap.size)
  (hc:∀ns,nodes ns=l→FR w f ns x→Calls Tryz.prog F args w fun e w'=>Ends w f ns x r l' x' e w'):Calls Tryz.prog F args w fun e w'=>e = .returned r∧TwoQ w0 w' f g l' m x' y A B∧w.heap.size≤w'.heap.size∧(∀t b cs,Bk t w b cs→t≠71→t≠72→t≠75→Bk t w' b cs)∧KeepM f g w w':=by
 obtain⟨⟨ns,e,h1,h3⟩,⟨rs,e2,h2,h4⟩⟩:=h
 refine(hc ns e h1.fr).mono ?_
 rintro e w' ⟨rfl,ns',e3,f1,c1⟩
 refine⟨rfl,⟨⟨ns',e3,h1.go f1 c1,fun q hA hq hT=>?_⟩,⟨rs,e2,h2.left h1.fr c1,h4⟩⟩,by obtain⟨L,ho,_⟩:=c1.only;exact ho.size,fun t b cs hb t1 t2 t5=>c1.keep h1.fr hb t1 t2 t5,KeepM.chf h1.fr f1 c1⟩
 rcases c1.rows q hT with h5 | h5
 ·exact h3 q hA hq h5
 ·omega
theorem TwoQ.goB {w0 w:World}{f g:Nat}{l m m':List Nd}{x y y':Int}{A B:Nat}{F:FuncId}{args:Array Value}{r:Value}(h:TwoQ w0 w f g l m x y A B)(hB:B≤w.heap.size)
  (hc:∀rs,nds rs=m→Xr w g rs y→Calls Tryz.prog F args w fun e w'=>e = .returned r∧∃rs',nds rs'=m'∧Xr w' g rs' y'∧Only [g] w w'∧Kn w rs' rs):Calls Tryz.prog F args w fun e w'=>e = .returned r∧TwoQ w0 w' f g l m' x y' A B∧w.heap.size≤w'.heap.size∧(∀t b cs,Bk t w b cs→t≠40→Bk t w' b cs)∧KeepM f g w w':=by
 obtain⟨⟨ns,e,h1,h3⟩,⟨rs,e2,h2,h4⟩⟩:=h
 obtain⟨cg,hg⟩:=xr_bk h2.xr
 refine(hc rs e2 h2.xr).mono ?_
 rintro e w' ⟨rfl,rs',e3,f1,ho,hk⟩
 have hgn:∀k∈ns,k.1∉[g]:=fun k hk hm=>by
  rw [List.mem_singleton] at hm
  exact OwnsB.no h1.fr (by decide) (by decide) (by decide) hg (hm▸ .inr (.inl ⟨k,hk,rfl⟩))
 refine⟨rfl,⟨⟨ns,by assumption,h1.right hg h2.base ho,fun q hA hq hT=>h3 q hA hq (hT.same fun k hk=>ho.block k.1 (OwnsB.lt h1.fr (.inr (.inl ⟨k,hk,rfl⟩))) (hgn k hk))⟩,⟨rs',e3,⟨f1,h2.base,fun r hr q hq=>?_⟩,fun r hr q hA hq hT=>?_⟩⟩,ho.size,fun t b cs hb t4=>hb.only ho fun hm=>by rw [List.mem_singleton] at hm;exact bk_ne hb hg t4 hm,KeepM.one hg ho⟩
 ·obtain⟨v,_,k2⟩:=f1
  rcases hq with hq | hq
  ·exact(TxO.owns_block (k2.2 r hr).1 hq).2.choose_spec.lt
  ·exact(TxO.owns_block (k2.2 r hr).2 hq).2.choose_spec.lt
 ·rcases hk r hr with ⟨z,hz,ez⟩ | hn
  ·rw [← ez] at hT
   exact h4 z hz q hA hq hT
  ·have:=hn q hT
   omega
theorem TwoQ.over {w0 w w':World}{f g:Nat}{l m:List Nd}{x y:Int}{A B q:Nat}{cs:Array Value}(h:TwoQ w0 w f g l m x y A B)(hk:Bk 9 w q cs)(hA:A≤q)(hB:q<B)(h0:w0.heap.size≤q)(ho:Only [q] w w'): TwoQ w0 w' f g l m x y A B:=by
 obtain⟨⟨ns,e,h1,h3⟩,⟨rs,e2,h2,h4⟩⟩:=h
 have hOwn:∀z,OwnsB w f ns z→z∉[q]:=fun z hz hm=>by
  rw [List.mem_singleton] at hm
  exact OwnsB.no h1.fr (by decide) (by decide) (by decide) hk (hm▸hz)
 have hT:∀k∈ns,∀sv av,Bk 75 w k.1 (ndC k.2 sv av (fV (blockI ns k.2.parent)))→sv.ownBlock≠some q∧av.ownBlock≠some q:=fun k hk sv av hb=>
  ⟨fun e=>h3 q hA hB ⟨k,hk,_,_,_,_,hb,.inl e⟩,fun e=>h3 q hA hB ⟨k,hk,_,_,_,_,hb,.inr e⟩⟩
 have hkk:∀k∈ns,w'.heap[k.1]?=w.heap[k.1]?:=fun k hk=>ho.block k.1 (OwnsB.lt h1.fr (.inr (.inl ⟨k,hk,rfl⟩))) (hOwn _ (.inr (.inl ⟨k,hk,rfl⟩)))
 have hff:w'.heap[f]?=w.heap[f]?:=ho.block f (OwnsB.lt h1.fr (.inl rfl)) (hOwn _ (.inl rfl))
 obtain⟨a,c,o1,o2⟩:=h1.fr.obj
 have hfr:FR w' f ns x:=by
  refine⟨h1.fr.ok,⟨a,c,hff.trans o1,OwnR.owns_only o2 ho fun z hz hm=>?_⟩,fun k hk=>?_⟩
  ·rw [List.mem_singleton] at hm
   subst hm
   exact OwnR.owns_ne o2 hk (by decide) hz
  ·obtain⟨sv,av,k1,k2,k3⟩:=h1.fr.node k hk
   obtain⟨n1,n2⟩:=hT k hk sv av k1
   exact⟨sv,av,(hkk k hk).trans k1,k2.only ho fun z hz hm=>n1 (by rw [List.mem_singleton] at hm;rw [← hm];exact hz),k3.only ho fun z hz hm=>n2 (by rw [List.mem_singleton] at hm;rw [← hm];exact hz)⟩
 refine⟨⟨ns,e,⟨hfr,h1.below.trans (ho.below h1.below.size (fun z hz=>by rw [List.mem_singleton] at hz;omega)),fun z hz=>h1.own z (hz.same hff),fun z hz=>h1.rows z (hz.same hkk)⟩,fun z hA hB hz=>h3 z hA hB (hz.same hkk)⟩,⟨rs,e2,⟨?_,h2.base,fun r hr z hz=>Nat.lt_of_lt_of_le (h2.rows r hr z hz) ho.size⟩,h4⟩⟩
 obtain⟨v,k1,k2⟩:=h2.xr
 refine⟨v,k1.only ho fun hm=>?_,OwnR.owns_only k2.1 ho fun z hz hm=>?_,fun r hr=>⟨(k2.2 r hr).1.only ho fun z hz hm=>?_,(k2.2 r hr).2.only ho fun z hz hm=>?_⟩⟩
 ·rw [List.mem_singleton] at hm
  exact bk_ne k1 hk (by decide) hm
 ·rw [List.mem_singleton] at hm
  subst hm
  exact OwnR.owns_ne k2.1 hk (by decide) hz
 ·rw [List.mem_singleton] at hm
  subst hm
  exact h4 r hr _ hA hB (.inl hz)
 ·rw [List.mem_singleton] at hm
  subst hm
  exact h4 r hr _ hA hB (.inr hz)
end Go.Proofs.YthogppennalobaaGreatDoor
