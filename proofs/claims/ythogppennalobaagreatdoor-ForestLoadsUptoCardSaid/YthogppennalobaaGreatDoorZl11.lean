/- nodeRow. Condition: a number below 10^8, at most 100,000 texts in each row. Rows. Condition: at most a million nodes, numbers below 10^8. -/
import Derived.Test.YthogppennalobaaGreatDoorZl04
import Derived.Test.YthogppennalobaaGreatDoorZl10
import Derived.Test.YthogppennalobaaGreatDoorZl07
set_option linter.unusedVariables false
set_option linter.unusedSimpArgs false
set_option maxRecDepth 100000
namespace Go.Proofs.YthogppennalobaaGreatDoor
open Go.RowKit Go.Sort Forest
def Ri (w:World)(v:Value)(l:List Int): Prop:=∃a c,v = .slice a l.length c∧∀i (h:i<l.length),∃b o,a=some ⟨b,o,none⟩∧w.cell? ⟨b,o+i,none⟩=some (.int .i64 l[i])
theorem Ri.below {w w':World}{v:Value}{l:List Int}(h:Ri w v l)(hb:Below w.heap.size w w'): Ri w' v l:=by
 obtain⟨a,c,rfl,hc⟩:=h
 exact⟨a,c,rfl,fun i hi=>by obtain⟨b,o,h1,h2⟩:=hc i hi;exact⟨b,o,h1,cell_below hb h2⟩⟩
theorem Ri.new (w:World)(l:List Int): Ri (w.alloc (.cells (l.map fun x=>Value.int .i64 x).toArray 3)) (.slice (some ⟨w.heap.size,0,none⟩) l.length l.length) l:=
 ⟨_,_,rfl,fun i hi=>⟨_,_,rfl,by
  have hk:Bk 3 (w.alloc (.cells (l.map fun x=>Value.int .i64 x).toArray 3)) w.heap.size (l.map fun x=>Value.int .i64 x).toArray:=Bk.new rfl
  rw [Nat.zero_add,hk.cell i]
  simp [hi]⟩⟩
theorem Rd.new (w:World)(l:List Bs): Rd (w.alloc (.cells (l.map txt).toArray 9)) (.slice (some ⟨w.heap.size,0,none⟩) l.length l.length) l:=
 ⟨_,_,rfl,fun i hi=>⟨_,_,rfl,by
  have hk:Bk 9 (w.alloc (.cells (l.map txt).toArray 9)) w.heap.size (l.map txt).toArray:=Bk.new rfl
  rw [Nat.zero_add,hk.cell i]
  simp [hi]⟩⟩
theorem RowsIn.below {w w':World}{a:Option Addr}{ls:List (Value×List Bs)}(h:RowsIn w a ls)(hb:Below w.heap.size w w'): RowsIn w' a ls:=fun i hi=>by
 obtain⟨⟨b,o,h1,h2⟩,h3⟩:=h i hi
 exact⟨⟨b,o,h1,cell_below hb h2⟩,h3.below hb⟩
theorem rows8 (W:World)(v0:Value)(v1:Value)(v2:Value)(v3:Value)(v4:Value)(v5:Value)(v6:Value)(v7:Value)(l0:List Bs)(l1:List Bs)(l2:List Bs)(l3:List Bs)(l4:List Bs)(l5:List Bs)(l6:List Bs)(l7:List Bs)(h0:Rd (W.alloc (.cells #[v0,v1,v2,v3,v4,v5,v6,v7] 29)) v0 l0)(h1:Rd (W.alloc (.cells #[v0,v1,v2,v3,v4,v5,v6,v7] 29)) v1 l1)(h2:Rd (W.alloc (.cells #[v0,v1,v2,v3,v4,v5,v6,v7] 29)) v2 l2)(h3:Rd (W.alloc (.cells #[v0,v1,v2,v3,v4,v5,v6,v7] 29)) v3 l3)(h4:Rd (W.alloc (.cells #[v0,v1,v2,v3,v4,v5,v6,v7] 29)) v4 l4)(h5:Rd (W.alloc (.cells #[v0,v1,v2,v3,v4,v5,v6,v7] 29)) v5 l5)(h6:Rd (W.alloc (.cells #[v0,v1,v2,v3,v4,v5,v6,v7] 29)) v6 l6)(h7:Rd (W.alloc (.cells #[v0,v1,v2,v3,v4,v5,v6,v7] 29)) v7 l7): RowsIn (W.alloc (.cells #[v0,v1,v2,v3,v4,v5,v6,v7] 29)) (some ⟨W.heap.size,0,none⟩) [(v0,l0),(v1,l1),(v2,l2),(v3,l3),(v4,l4),(v5,l5),(v6,l6),(v7,l7)]:=fun i hi=>by
 have hk:Bk 29 (W.alloc (.cells #[v0,v1,v2,v3,v4,v5,v6,v7] 29)) W.heap.size #[v0,v1,v2,v3,v4,v5,v6,v7]:=Bk.new rfl
 match i,hi with
 |0,_=>exact⟨⟨_,_,rfl,hk.cell 0⟩,h0⟩
 |1,_=>exact⟨⟨_,_,rfl,hk.cell 1⟩,h1⟩
 |2,_=>exact⟨⟨_,_,rfl,hk.cell 2⟩,h2⟩
 |3,_=>exact⟨⟨_,_,rfl,hk.cell 3⟩,h3⟩
 |4,_=>exact⟨⟨_,_,rfl,hk.cell 4⟩,h4⟩
 |5,_=>exact⟨⟨_,_,rfl,hk.cell 5⟩,h5⟩
 |6,_=>exact⟨⟨_,_,rfl,hk.cell 6⟩,h6⟩
 |7,_=>exact⟨⟨_,_,rfl,hk.cell 7⟩,h7⟩
 |i+8,hi=>exact absurd hi (by simp)
theorem numsRd {w0 w:World}{v:Value}{n:Nat}{l:List Bs}(h:Lw 9 1 w0 w v n (l.map txt))(hn:n=l.length): Rd w v l:=by
 subst hn
 exact Tx.rd (Lw.tx h)
theorem pair_set {W:World}{pb:Nat}{a b x y:Value}(h:Bk 47 W pb #[a,b]): Bk 47 ((W.setCell ⟨pb,0,none⟩ x).setCell ⟨pb,1,none⟩ y) pb #[x,y]:=Bk.same (i:=1) (v:=y) (Bk.same (i:=0) (v:=x) h)
structure NrP (w:World)(pb:Nat)(kind par born exp level:Int)(subj cli aud sec dat idt zs fv:Bs)(dead spent:Bool)(scope actors:List Bs)(b3 b11 b12 b19 b22 b27 b28 b31 b34 b35 b38 b41 b42 b47 b48 b49 b50 b52:Bool)(y11 y12 y19 y22 y27 y28 y35 y38 y41 y42 y47 y48 y49:Value)(W:World): Prop where
 only:Only [pb] w W
 pair:Bk 47 W pb (if b52 then #[.string ⟨(([110,111,100,101,47]++zs)++idt).toArray⟩,.string ⟨fv.toArray⟩] else #[.string ⟨#[]⟩,.string ⟨#[]⟩])
 bel:b52=false→Below w.heap.size w W
 f11:b52=false→b11=true→Ri W y11 [kind,par]
 f12:b52=false→b12=true→Rd W y12 (numsL [kind,par])
 f19:b52=false→b19=true→Rd W y19 ([subj,cli,aud])
 f22:b52=false→b22=true→Rd W y22 (listedL scope)
 f27:b52=false→b27=true→Ri W y27 [born,exp]
 f28:b52=false→b28=true→Rd W y28 (numsL [born,exp])
 f35:b52=false→b35=true→Rd W y35 ([Pl.flagT dead,Pl.flagT spent])
 f38:b52=false→b38=true→Rd W y38 (listedL actors)
 f41:b52=false→b41=true→Ri W y41 [level]
 f42:b52=false→b42=true→Rd W y42 (numsL [level])
 f47:b52=false→b47=true→Rd W y47 ([sec,dat])
 f48:b52=false→b48=true→∃a c,y48 = .slice a 8 c∧RowsIn W a [(y12,numsL [kind,par]),(y19,[subj,cli,aud]),(y22,listedL scope),(y28,numsL [born,exp]),(y35,[Pl.flagT dead,Pl.flagT spent]),(y38,listedL actors),(y42,numsL [level]),(y47,[sec,dat])]
 f49:b52=false→b49=true→Rd W y49 ((numsL [kind,par])++([subj,cli,aud])++(listedL scope)++(numsL [born,exp])++([Pl.flagT dead,Pl.flagT spent])++(listedL actors)++(numsL [level])++([sec,dat]))
def nodeT (n:Nd): List Bs:=(numsL [n.kind,(n.parent:Int)])++([n.subject,n.client,n.audience])++(listedL n.scope)++(numsL [n.born,n.exp])++([Pl.flagT n.dead,Pl.flagT n.spent])++(listedL n.actors)++(numsL [n.level])++([n.secret,n.data])
def keyP (id:Nat): Bs:=([110,111,100,101,47]++Lib.repeatL [48] (8 - (Lib.decDigits id).length))++Lib.decDigits id
set_option maxHeartbeats 8000000 in
theorem nodeRow_any (n:Nd)(sv av:Value)(hid:n.id≤99999999)(hi:In64 n.kind∧In64 (n.parent:Int)∧In64 n.born∧In64 n.exp∧In64 n.level)(hs:n.scope.length≤100000)(ha:n.actors.length≤100000)(hf:(formL (nodeT n)).length≤140737488355328)(w:World)(h1:Rd w sv n.scope)(h2:Rd w av n.actors)(hT:Tb w):
  Calls Tryz.prog 53 #[.agg (inC n.id n.parent n sv av)] w fun e w'=>e = .returned (.agg #[.string ⟨(keyP n.id).toArray⟩,.string ⟨(formL (nodeT n)).toArray⟩])∧Below w.heap.size w w':=by
 obtain⟨sa,sc,rfl,_⟩:=id h1
 obtain⟨aa,ac,rfl,_⟩:=id h2
 have HI64':=Lib.hid hi
 have hl8:(Lib.decDigits n.id).length≤8:=dec_len 7 n.id (by omega)
 obtain⟨zc,hzc⟩:∃zc,zc=8 - (Lib.decDigits n.id).length:=⟨_,rfl⟩
 have HZC:=Lib.hid (show(Lib.decDigits n.id).length+zc=8 by omega)
 have HZL:Hid ((Lib.repeatL [48] zc).length≤8):=Lib.hid (by rw [Lib.repeatL_length];simp;omega)
 have HKP:Hid (keyP n.id=([110,111,100,101,47]++Lib.repeatL [48] zc)++Lib.decDigits n.id):=Lib.hid (by unfold keyP;rw [hzc])
 have HL8:=Lib.hid hl8
 have HS0:=Lib.hid hs
 have HA0:=Lib.hid ha
 have HNL:Hid ((nodeT n).length≤140737488355328):=Lib.hid (by unfold nodeT;simp [numsL,listedL];omega)
 have HF0:=Lib.hid hf
 have HB1:Hid (Below w.heap.size w ((w.alloc (.cells #[.int .i64 (n.id:Int),.int .i64 n.kind,.int .i64 (n.parent:Int),.string ⟨n.subject.toArray⟩,.string ⟨n.client.toArray⟩,.string ⟨n.audience.toArray⟩,.slice sa n.scope.length sc,.int .i64 n.born,.int .i64 n.exp,.bool n.dead,.bool n.spent,.slice aa n.actors.length ac,.int .i64 n.level,.string ⟨n.secret.toArray⟩,.string ⟨n.data.toArray⟩] 31)).alloc (.cells #[.string ⟨#[]⟩,.string ⟨#[]⟩] 47))):=Lib.hid (by go_grown)
 have K1:Hid (Bk 31 ((w.alloc (.cells #[.int .i64 (n.id:Int),.int .i64 n.kind,.int .i64 (n.parent:Int),.string ⟨n.subject.toArray⟩,.string ⟨n.client.toArray⟩,.string ⟨n.audience.toArray⟩,.slice sa n.scope.length sc,.int .i64 n.born,.int .i64 n.exp,.bool n.dead,.bool n.spent,.slice aa n.actors.length ac,.int .i64 n.level,.string ⟨n.secret.toArray⟩,.string ⟨n.data.toArray⟩] 31)).alloc (.cells #[.string ⟨#[]⟩,.string ⟨#[]⟩] 47)) w.heap.size #[.int .i64 (n.id:Int),.int .i64 n.kind,.int .i64 (n.parent:Int),.string ⟨n.subject.toArray⟩,.string ⟨n.client.toArray⟩,.string ⟨n.audience.toArray⟩,.slice sa n.scope.length sc,.int .i64 n.born,.int .i64 n.exp,.bool n.dead,.bool n.spent,.slice aa n.actors.length ac,.int .i64 n.level,.string ⟨n.secret.toArray⟩,.string ⟨n.data.toArray⟩]):=Lib.hid (Bk.alloc (Bk.new rfl))
 have K2:Hid (Bk 47 ((w.alloc (.cells #[.int .i64 (n.id:Int),.int .i64 n.kind,.int .i64 (n.parent:Int),.string ⟨n.subject.toArray⟩,.string ⟨n.client.toArray⟩,.string ⟨n.audience.toArray⟩,.slice sa n.scope.length sc,.int .i64 n.born,.int .i64 n.exp,.bool n.dead,.bool n.spent,.slice aa n.actors.length ac,.int .i64 n.level,.string ⟨n.secret.toArray⟩,.string ⟨n.data.toArray⟩] 31)).alloc (.cells #[.string ⟨#[]⟩,.string ⟨#[]⟩] 47)) (w.heap.size+1) #[.string ⟨#[]⟩,.string ⟨#[]⟩]):=Lib.hid (Bk.new (by show w.heap.size+1=(w.heap.push _).size;rw [Array.size_push]))
 have R10:=Lib.hid h1
 have R20:=Lib.hid h2
 have HT0:=Lib.hid hT
 have HIT:=Lib.hid (itoa_any (n.id:Int) (by omega) (by omega) ((w.alloc (.cells #[.int .i64 (n.id:Int),.int .i64 n.kind,.int .i64 (n.parent:Int),.string ⟨n.subject.toArray⟩,.string ⟨n.client.toArray⟩,.string ⟨n.audience.toArray⟩,.slice sa n.scope.length sc,.int .i64 n.born,.int .i64 n.exp,.bool n.dead,.bool n.spent,.slice aa n.actors.length ac,.int .i64 n.level,.string ⟨n.secret.toArray⟩,.string ⟨n.data.toArray⟩] 31)).alloc (.cells #[.string ⟨#[]⟩,.string ⟨#[]⟩] 47)) (hT.below HB1.out))
 rw [Lib.itoa_nonneg] at HIT
 have c0:((w.alloc (.cells #[.int .i64 (n.id:Int),.int .i64 n.kind,.int .i64 (n.parent:Int),.string ⟨n.subject.toArray⟩,.string ⟨n.client.toArray⟩,.string ⟨n.audience.toArray⟩,.slice sa n.scope.length sc,.int .i64 n.born,.int .i64 n.exp,.bool n.dead,.bool n.spent,.slice aa n.actors.length ac,.int .i64 n.level,.string ⟨n.secret.toArray⟩,.string ⟨n.data.toArray⟩] 31)).alloc (.cells #[.string ⟨#[]⟩,.string ⟨#[]⟩] 47)).cell? ⟨w.heap.size,0,none⟩=some (.int .i64 (n.id:Int)):=K1.out.cell 0
 clear hi hs ha hf h1 h2 hT hl8 hzc hid
 obtain⟨g,hg⟩:∃g,g=w.heap.size:=⟨_,rfl⟩
 rw [← hg] at K1 K2 c0
 obtain⟨pb,hpb⟩:∃b,b=g+1:=⟨_,rfl⟩
 rw [← hpb] at K2
 have HG:=Lib.hid (And.intro hg hpb)
 unfold inC txt
 go_enter Tryz.func53,Tryz.ntmps53
 go_upto_region 1 with fail
 rw [← hg,← hpb]
 clear hg hpb
 generalize ((w.alloc (.cells #[.int .i64 (n.id:Int),.int .i64 n.kind,.int .i64 (n.parent:Int),.string ⟨n.subject.toArray⟩,.string ⟨n.client.toArray⟩,.string ⟨n.audience.toArray⟩,.slice sa n.scope.length sc,.int .i64 n.born,.int .i64 n.exp,.bool n.dead,.bool n.spent,.slice aa n.actors.length ac,.int .i64 n.level,.string ⟨n.secret.toArray⟩,.string ⟨n.data.toArray⟩] 31)).alloc (.cells #[.string ⟨#[]⟩,.string ⟨#[]⟩] 47))=w1 at HB1 K1 K2 HIT c0 ⊢
 go_upto_region 2 with (go_at_call 84;refine HIT.out.mono ?_)
 rintro e w2 ⟨rfl,hb⟩
 have HB2:Hid (Below w.heap.size w w2):=Lib.hid (HB1.out.trans (hb.mono HB1.out.size))
 replace K1:=Lib.hid (K1.out.below hb)
 replace K2:=Lib.hid (K2.out.below hb)
 clear hb HIT c0 HB1
 go_upto_region 2 with fail
 have R1:=Lib.hid (R10.out.below HB2.out)
 have R2:=Lib.hid (R20.out.below HB2.out)
 have HT:=Lib.hid (HT0.out.below HB2.out)
 have HI64:=HI64'
 have HS:=HS0
 have HA:=HA0
 have HF:=Lib.hid (And.intro HF0.out HNL.out)
 have HNE:Hid (g∉[pb]):=Lib.hid (by have:=HG.out.2;rw [List.mem_singleton];omega)
 refine Pl.nrR (fun b3 b11 b12 b19 b22 b27 b28 b31 b34 b35 b38 b41 b42 b47 b48 b49 b50 b52 y11 y12 y19 y22 y27 y28 y35 y38 y41 y42 y47 y48 y49 W=>NrP w2 pb n.kind (n.parent:Int) n.born n.exp n.level n.subject n.client n.audience n.secret n.data (Lib.decDigits n.id) (Lib.repeatL [48] zc) (formL (nodeT n)) n.dead n.spent n.scope n.actors b3 b11 b12 b19 b22 b27 b28 b31 b34 b35 b38 b41 b42 b47 b48 b49 b50 b52 y11 y12 y19 y22 y27 y28 y35 y38 y41 y42 y47 y48 y49 W) g pb zc n.kind (n.parent:Int) n.born n.exp n.level n.subject n.client n.audience n.secret n.data (Lib.decDigits n.id) (Lib.repeatL [48] zc) (formL (nodeT n)) n.dead n.spent (.slice sa n.scope.length sc) (.slice aa n.actors.length ac) _ (by intros;rename_i W h;exact(K1.out.only h.only HNE.out).cell 1) (by intros;rename_i W h;exact(K1.out.only h.only HNE.out).cell 2) (by intros;rename_i W h;exact(K1.out.only h.only HNE.out).cell 3) (by intros;rename_i W h;exact(K1.out.only h.only HNE.out).cell 4) (by intros;rename_i W h;exact(K1.out.only h.only HNE.out).cell 5) (by intros;rename_i W h;exact(K1.out.only h.only HNE.out).cell 6) (by intros;rename_i W h;exact(K1.out.only h.only HNE.out).cell 7) (by intros;rename_i W h;exact(K1.out.only h.only HNE.out).cell 8) (by intros;rename_i W h;exact(K1.out.only h.only HNE.out).cell 9) (by intros;rename_i W h;exact(K1.out.only h.only HNE.out).cell 10) (by intros;rename_i W h;exact(K1.out.only h.only HNE.out).cell 11) (by intros;rename_i W h;exact(K1.out.only h.only HNE.out).cell 12) (by intros;rename_i W h;exact(K1.out.only h.only HNE.out).cell 13) (by intros;rename_i W h;exact(K1.out.only h.only HNE.out).cell 14) ?cl3 ?cl11 ?cl12 ?cl19 ?cl22 ?cl27 ?cl28 ?cl31 ?cl34 ?cl35 ?cl38 ?cl41 ?cl42 ?cl47 ?cl48 ?cl49 ?cl50 ?cl52 HZC.out HZL.out HL8.out ?w0 ?h
 case cl3=>
  intros
  rename_i W h
  have hz:=HZC.out
  refine(Tryz.strings_Repeat ⟨#[48]⟩ zc W (by omega) (by show 1*zc≤_;omega)).mono ?_
  rintro e w1 ⟨rfl,hb⟩
  exact⟨rfl,⟨h.only.trans (Only.of hb) (fun x hx=> .inl hx),h.pair.below hb,fun _=>(h.bel rfl).trans (hb.mono (h.bel rfl).size),fun e1 e2=>(h.f11 e1 e2).below hb,fun e1 e2=>(h.f12 e1 e2).below hb,fun e1 e2=>(h.f19 e1 e2).below hb,fun e1 e2=>(h.f22 e1 e2).below hb,fun e1 e2=>(h.f27 e1 e2).below hb,fun e1 e2=>(h.f28 e1 e2).below hb,fun e1 e2=>(h.f35 e1 e2).below hb,fun e1 e2=>(h.f38 e1 e2).below hb,fun e1 e2=>(h.f41 e1 e2).below hb,fun e1 e2=>(h.f42 e1 e2).below hb,fun e1 e2=>(h.f47 e1 e2).below hb,fun e1 e2=>by obtain⟨a,c,e,hr⟩:=h.f48 e1 e2;exact⟨a,c,e,hr.below hb⟩,fun e1 e2=>(h.f49 e1 e2).below hb⟩⟩
 case cl11=>
  intros
  rename_i W h
  have hb:=fun o=>(show Below W.heap.size W (W.alloc o) by go_grown)
  exact⟨h.only.trans (Only.of (hb _)) (fun x hx=> .inl hx),h.pair.below (hb _),fun _=>(h.bel rfl).trans ((hb _).mono (h.bel rfl).size),fun _ _=>Ri.new W [n.kind,(n.parent:Int)],fun e1 e2=>(h.f12 e1 e2).below (hb _),fun e1 e2=>(h.f19 e1 e2).below (hb _),fun e1 e2=>(h.f22 e1 e2).below (hb _),fun e1 e2=>(h.f27 e1 e2).below (hb _),fun e1 e2=>(h.f28 e1 e2).below (hb _),fun e1 e2=>(h.f35 e1 e2).below (hb _),fun e1 e2=>(h.f38 e1 e2).below (hb _),fun e1 e2=>(h.f41 e1 e2).below (hb _),fun e1 e2=>(h.f42 e1 e2).below (hb _),fun e1 e2=>(h.f47 e1 e2).below (hb _),fun e1 e2=>by obtain⟨a,c,e,hr⟩:=h.f48 e1 e2;exact⟨a,c,e,hr.below (hb _)⟩,fun e1 e2=>(h.f49 e1 e2).below (hb _)⟩
 case cl27=>
  intros
  rename_i W h
  have hb:=fun o=>(show Below W.heap.size W (W.alloc o) by go_grown)
  exact⟨h.only.trans (Only.of (hb _)) (fun x hx=> .inl hx),h.pair.below (hb _),fun _=>(h.bel rfl).trans ((hb _).mono (h.bel rfl).size),fun e1 e2=>(h.f11 e1 e2).below (hb _),fun e1 e2=>(h.f12 e1 e2).below (hb _),fun e1 e2=>(h.f19 e1 e2).below (hb _),fun e1 e2=>(h.f22 e1 e2).below (hb _),fun _ _=>Ri.new W [n.born,n.exp],fun e1 e2=>(h.f28 e1 e2).below (hb _),fun e1 e2=>(h.f35 e1 e2).below (hb _),fun e1 e2=>(h.f38 e1 e2).below (hb _),fun e1 e2=>(h.f41 e1 e2).below (hb _),fun e1 e2=>(h.f42 e1 e2).below (hb _),fun e1 e2=>(h.f47 e1 e2).below (hb _),fun e1 e2=>by obtain⟨a,c,e,hr⟩:=h.f48 e1 e2;exact⟨a,c,e,hr.below (hb _)⟩,fun e1 e2=>(h.f49 e1 e2).below (hb _)⟩
 case cl41=>
  intros
  rename_i W h
  have hb:=fun o=>(show Below W.heap.size W (W.alloc o) by go_grown)
  exact⟨h.only.trans (Only.of (hb _)) (fun x hx=> .inl hx),h.pair.below (hb _),fun _=>(h.bel rfl).trans ((hb _).mono (h.bel rfl).size),fun e1 e2=>(h.f11 e1 e2).below (hb _),fun e1 e2=>(h.f12 e1 e2).below (hb _),fun e1 e2=>(h.f19 e1 e2).below (hb _),fun e1 e2=>(h.f22 e1 e2).below (hb _),fun e1 e2=>(h.f27 e1 e2).below (hb _),fun e1 e2=>(h.f28 e1 e2).below (hb _),fun e1 e2=>(h.f35 e1 e2).below (hb _),fun e1 e2=>(h.f38 e1 e2).below (hb _),fun _ _=>Ri.new W [n.level],fun e1 e2=>(h.f42 e1 e2).below (hb _),fun e1 e2=>(h.f47 e1 e2).below (hb _),fun e1 e2=>by obtain⟨a,c,e,hr⟩:=h.f48 e1 e2;exact⟨a,c,e,hr.below (hb _)⟩,fun e1 e2=>(h.f49 e1 e2).below (hb _)⟩
 case cl19=>
  intros
  rename_i W h
  have hb:=fun o=>(show Below W.heap.size W (W.alloc o) by go_grown)
  exact⟨h.only.trans (Only.of (hb _)) (fun x hx=> .inl hx),h.pair.below (hb _),fun _=>(h.bel rfl).trans ((hb _).mono (h.bel rfl).size),fun e1 e2=>(h.f11 e1 e2).below (hb _),fun e1 e2=>(h.f12 e1 e2).below (hb _),fun _ _=>Rd.new W [n.subject,n.client,n.audience],fun e1 e2=>(h.f22 e1 e2).below (hb _),fun e1 e2=>(h.f27 e1 e2).below (hb _),fun e1 e2=>(h.f28 e1 e2).below (hb _),fun e1 e2=>(h.f35 e1 e2).below (hb _),fun e1 e2=>(h.f38 e1 e2).below (hb _),fun e1 e2=>(h.f41 e1 e2).below (hb _),fun e1 e2=>(h.f42 e1 e2).below (hb _),fun e1 e2=>(h.f47 e1 e2).below (hb _),fun _ e2=>(by cases e2),fun e1 e2=>(h.f49 e1 e2).below (hb _)⟩
 case cl35=>
  intros
  rename_i W h
  have hb:=fun o=>(show Below W.heap.size W (W.alloc o) by go_grown)
  exact⟨h.only.trans (Only.of (hb _)) (fun x hx=> .inl hx),h.pair.below (hb _),fun _=>(h.bel rfl).trans ((hb _).mono (h.bel rfl).size),fun e1 e2=>(h.f11 e1 e2).below (hb _),fun e1 e2=>(h.f12 e1 e2).below (hb _),fun e1 e2=>(h.f19 e1 e2).below (hb _),fun e1 e2=>(h.f22 e1 e2).below (hb _),fun e1 e2=>(h.f27 e1 e2).below (hb _),fun e1 e2=>(h.f28 e1 e2).below (hb _),fun _ _=>Rd.new W [Pl.flagT n.dead,Pl.flagT n.spent],fun e1 e2=>(h.f38 e1 e2).below (hb _),fun e1 e2=>(h.f41 e1 e2).below (hb _),fun e1 e2=>(h.f42 e1 e2).below (hb _),fun e1 e2=>(h.f47 e1 e2).below (hb _),fun _ e2=>(by cases e2),fun e1 e2=>(h.f49 e1 e2).below (hb _)⟩
 case cl47=>
  intros
  rename_i W h
  have hb:=fun o=>(show Below W.heap.size W (W.alloc o) by go_grown)
  exact⟨h.only.trans (Only.of (hb _)) (fun x hx=> .inl hx),h.pair.below (hb _),fun _=>(h.bel rfl).trans ((hb _).mono (h.bel rfl).size),fun e1 e2=>(h.f11 e1 e2).below (hb _),fun e1 e2=>(h.f12 e1 e2).below (hb _),fun e1 e2=>(h.f19 e1 e2).below (hb _),fun e1 e2=>(h.f22 e1 e2).below (hb _),fun e1 e2=>(h.f27 e1 e2).below (hb _),fun e1 e2=>(h.f28 e1 e2).below (hb _),fun e1 e2=>(h.f35 e1 e2).below (hb _),fun e1 e2=>(h.f38 e1 e2).below (hb _),fun e1 e2=>(h.f41 e1 e2).below (hb _),fun e1 e2=>(h.f42 e1 e2).below (hb _),fun _ _=>Rd.new W [n.secret,n.data],fun _ e2=>(by cases e2),fun e1 e2=>(h.f49 e1 e2).below (hb _)⟩
 case cl12=>
  intros
  rename_i W h
  obtain⟨a,c,rfl,hc⟩:=h.f11 rfl rfl
  refine(numbers_any [n.kind,(n.parent:Int)] (by simp) (fun x hx=>by rcases List.mem_cons.1 hx with rfl | hx;exact HI64.out.1;rw [List.mem_singleton] at hx;subst hx;exact HI64.out.2.1) W a c hc (HT.out.below (h.bel rfl))).mono ?_
  rintro e w1 ⟨v,rfl,hv⟩
  have hb:=hv.2.1
  exact⟨v,rfl,⟨h.only.trans (Only.of hb) (fun x hx=> .inl hx),h.pair.below hb,fun _=>(h.bel rfl).trans (hb.mono (h.bel rfl).size),fun e1 e2=>(h.f11 e1 e2).below hb,fun _ _=>numsRd hv (by simp [numsL]),fun e1 e2=>(h.f19 e1 e2).below hb,fun e1 e2=>(h.f22 e1 e2).below hb,fun e1 e2=>(h.f27 e1 e2).below hb,fun e1 e2=>(h.f28 e1 e2).below hb,fun e1 e2=>(h.f35 e1 e2).below hb,fun e1 e2=>(h.f38 e1 e2).below hb,fun e1 e2=>(h.f41 e1 e2).below hb,fun e1 e2=>(h.f42 e1 e2).below hb,fun e1 e2=>(h.f47 e1 e2).below hb,fun _ e2=>(by cases e2),fun e1 e2=>(h.f49 e1 e2).below hb⟩⟩
 case cl28=>
  intros
  rename_i W h
  obtain⟨a,c,rfl,hc⟩:=h.f27 rfl rfl
  refine(numbers_any [n.born,n.exp] (by simp) (fun x hx=>by rcases List.mem_cons.1 hx with rfl | hx;exact HI64.out.2.2.1;rw [List.mem_singleton] at hx;subst hx;exact HI64.out.2.2.2.1) W a c hc (HT.out.below (h.bel rfl))).mono ?_
  rintro e w1 ⟨v,rfl,hv⟩
  have hb:=hv.2.1
  exact⟨v,rfl,⟨h.only.trans (Only.of hb) (fun x hx=> .inl hx),h.pair.below hb,fun _=>(h.bel rfl).trans (hb.mono (h.bel rfl).size),fun e1 e2=>(h.f11 e1 e2).below hb,fun e1 e2=>(h.f12 e1 e2).below hb,fun e1 e2=>(h.f19 e1 e2).below hb,fun e1 e2=>(h.f22 e1 e2).below hb,fun e1 e2=>(h.f27 e1 e2).below hb,fun _ _=>numsRd hv (by simp [numsL]),fun e1 e2=>(h.f35 e1 e2).below hb,fun e1 e2=>(h.f38 e1 e2).below hb,fun e1 e2=>(h.f41 e1 e2).below hb,fun e1 e2=>(h.f42 e1 e2).below hb,fun e1 e2=>(h.f47 e1 e2).below hb,fun _ e2=>(by cases e2),fun e1 e2=>(h.f49 e1 e2).below hb⟩⟩
 case cl42=>
  intros
  rename_i W h
  obtain⟨a,c,rfl,hc⟩:=h.f41 rfl rfl
  refine(numbers_any [n.level] (by simp) (fun x hx=>by rw [List.mem_singleton] at hx;subst hx;exact HI64.out.2.2.2.2) W a c hc (HT.out.below (h.bel rfl))).mono ?_
  rintro e w1 ⟨v,rfl,hv⟩
  have hb:=hv.2.1
  exact⟨v,rfl,⟨h.only.trans (Only.of hb) (fun x hx=> .inl hx),h.pair.below hb,fun _=>(h.bel rfl).trans (hb.mono (h.bel rfl).size),fun e1 e2=>(h.f11 e1 e2).below hb,fun e1 e2=>(h.f12 e1 e2).below hb,fun e1 e2=>(h.f19 e1 e2).below hb,fun e1 e2=>(h.f22 e1 e2).below hb,fun e1 e2=>(h.f27 e1 e2).below hb,fun e1 e2=>(h.f28 e1 e2).below hb,fun e1 e2=>(h.f35 e1 e2).below hb,fun e1 e2=>(h.f38 e1 e2).below hb,fun e1 e2=>(h.f41 e1 e2).below hb,fun _ _=>numsRd hv (by simp [numsL]),fun e1 e2=>(h.f47 e1 e2).below hb,fun _ e2=>(by cases e2),fun e1 e2=>(h.f49 e1 e2).below hb⟩⟩
 case cl22=>
  intros
  rename_i W h
  refine(listed_any n.scope HS.out W (.slice sa n.scope.length sc) (R1.out.below (h.bel rfl)) (HT.out.below (h.bel rfl))).mono ?_
  rintro e w1 ⟨v,rfl,hv⟩
  have hb:=hv.2.1
  exact⟨v,rfl,⟨h.only.trans (Only.of hb) (fun x hx=> .inl hx),h.pair.below hb,fun _=>(h.bel rfl).trans (hb.mono (h.bel rfl).size),fun e1 e2=>(h.f11 e1 e2).below hb,fun e1 e2=>(h.f12 e1 e2).below hb,fun e1 e2=>(h.f19 e1 e2).below hb,fun _ _=>numsRd hv rfl,fun e1 e2=>(h.f27 e1 e2).below hb,fun e1 e2=>(h.f28 e1 e2).below hb,fun e1 e2=>(h.f35 e1 e2).below hb,fun e1 e2=>(h.f38 e1 e2).below hb,fun e1 e2=>(h.f41 e1 e2).below hb,fun e1 e2=>(h.f42 e1 e2).below hb,fun e1 e2=>(h.f47 e1 e2).below hb,fun _ e2=>(by cases e2),fun e1 e2=>(h.f49 e1 e2).below hb⟩⟩
 case cl38=>
  intros
  rename_i W h
  refine(listed_any n.actors HA.out W (.slice aa n.actors.length ac) (R2.out.below (h.bel rfl)) (HT.out.below (h.bel rfl))).mono ?_
  rintro e w1 ⟨v,rfl,hv⟩
  have hb:=hv.2.1
  exact⟨v,rfl,⟨h.only.trans (Only.of hb) (fun x hx=> .inl hx),h.pair.below hb,fun _=>(h.bel rfl).trans (hb.mono (h.bel rfl).size),fun e1 e2=>(h.f11 e1 e2).below hb,fun e1 e2=>(h.f12 e1 e2).below hb,fun e1 e2=>(h.f19 e1 e2).below hb,fun e1 e2=>(h.f22 e1 e2).below hb,fun e1 e2=>(h.f27 e1 e2).below hb,fun e1 e2=>(h.f28 e1 e2).below hb,fun e1 e2=>(h.f35 e1 e2).below hb,fun _ _=>numsRd hv rfl,fun e1 e2=>(h.f41 e1 e2).below hb,fun e1 e2=>(h.f42 e1 e2).below hb,fun e1 e2=>(h.f47 e1 e2).below hb,fun _ e2=>(by cases e2),fun e1 e2=>(h.f49 e1 e2).below hb⟩⟩
 case cl31=>
  intros
  rename_i W h
  refine(flag_any n.dead W).mono ?_
  rintro e w1 ⟨rfl,hw⟩
  have hb:Below W.heap.size W w1:=by rw [hw];exact Below.refl _ _
  exact⟨rfl,⟨h.only.trans (Only.of hb) (fun x hx=> .inl hx),h.pair.below hb,fun _=>(h.bel rfl).trans (hb.mono (h.bel rfl).size),fun e1 e2=>(h.f11 e1 e2).below hb,fun e1 e2=>(h.f12 e1 e2).below hb,fun e1 e2=>(h.f19 e1 e2).below hb,fun e1 e2=>(h.f22 e1 e2).below hb,fun e1 e2=>(h.f27 e1 e2).below hb,fun e1 e2=>(h.f28 e1 e2).below hb,fun e1 e2=>(h.f35 e1 e2).below hb,fun e1 e2=>(h.f38 e1 e2).below hb,fun e1 e2=>(h.f41 e1 e2).below hb,fun e1 e2=>(h.f42 e1 e2).below hb,fun e1 e2=>(h.f47 e1 e2).below hb,fun e1 e2=>by obtain⟨a,c,e,hr⟩:=h.f48 e1 e2;exact⟨a,c,e,hr.below hb⟩,fun e1 e2=>(h.f49 e1 e2).below hb⟩⟩
 case cl34=>
  intros
  rename_i W h
  refine(flag_any n.spent W).mono ?_
  rintro e w1 ⟨rfl,hw⟩
  have hb:Below W.heap.size W w1:=by rw [hw];exact Below.refl _ _
  exact⟨rfl,⟨h.only.trans (Only.of hb) (fun x hx=> .inl hx),h.pair.below hb,fun _=>(h.bel rfl).trans (hb.mono (h.bel rfl).size),fun e1 e2=>(h.f11 e1 e2).below hb,fun e1 e2=>(h.f12 e1 e2).below hb,fun e1 e2=>(h.f19 e1 e2).below hb,fun e1 e2=>(h.f22 e1 e2).below hb,fun e1 e2=>(h.f27 e1 e2).below hb,fun e1 e2=>(h.f28 e1 e2).below hb,fun e1 e2=>(h.f35 e1 e2).below hb,fun e1 e2=>(h.f38 e1 e2).below hb,fun e1 e2=>(h.f41 e1 e2).below hb,fun e1 e2=>(h.f42 e1 e2).below hb,fun e1 e2=>(h.f47 e1 e2).below hb,fun e1 e2=>by obtain⟨a,c,e,hr⟩:=h.f48 e1 e2;exact⟨a,c,e,hr.below hb⟩,fun e1 e2=>(h.f49 e1 e2).below hb⟩⟩
 case cl48=>
  intros
  rename_i W h
  have hb:=fun o=>(show Below W.heap.size W (W.alloc o) by go_grown)
  obtain⟨a12,c12,e12⟩:=rd_shape (h.f12 rfl rfl)
  obtain⟨a19,c19,e19⟩:=rd_shape (h.f19 rfl rfl)
  obtain⟨a22,c22,e22⟩:=rd_shape (h.f22 rfl rfl)
  obtain⟨a28,c28,e28⟩:=rd_shape (h.f28 rfl rfl)
  obtain⟨a35,c35,e35⟩:=rd_shape (h.f35 rfl rfl)
  obtain⟨a38,c38,e38⟩:=rd_shape (h.f38 rfl rfl)
  obtain⟨a42,c42,e42⟩:=rd_shape (h.f42 rfl rfl)
  obtain⟨a47,c47,e47⟩:=rd_shape (h.f47 rfl rfl)
  refine⟨⟨_,_,_,e12⟩,⟨_,_,_,e19⟩,⟨_,_,_,e22⟩,⟨_,_,_,e28⟩,⟨_,_,_,e35⟩,⟨_,_,_,e38⟩,⟨_,_,_,e42⟩,⟨_,_,_,e47⟩,⟨h.only.trans (Only.of (hb _)) (fun x hx=> .inl hx),h.pair.below (hb _),fun _=>(h.bel rfl).trans ((hb _).mono (h.bel rfl).size),fun e1 e2=>(h.f11 e1 e2).below (hb _),fun e1 e2=>(h.f12 e1 e2).below (hb _),fun e1 e2=>(h.f19 e1 e2).below (hb _),fun e1 e2=>(h.f22 e1 e2).below (hb _),fun e1 e2=>(h.f27 e1 e2).below (hb _),fun e1 e2=>(h.f28 e1 e2).below (hb _),fun e1 e2=>(h.f35 e1 e2).below (hb _),fun e1 e2=>(h.f38 e1 e2).below (hb _),fun e1 e2=>(h.f41 e1 e2).below (hb _),fun e1 e2=>(h.f42 e1 e2).below (hb _),fun e1 e2=>(h.f47 e1 e2).below (hb _),fun _ _=>⟨some ⟨W.heap.size,0,none⟩,8,rfl,rows8 W _ _ _ _ _ _ _ _ _ _ _ _ _ _ _ _ ((h.f12 rfl rfl).below (hb _)) ((h.f19 rfl rfl).below (hb _)) ((h.f22 rfl rfl).below (hb _)) ((h.f28 rfl rfl).below (hb _)) ((h.f35 rfl rfl).below (hb _)) ((h.f38 rfl rfl).below (hb _)) ((h.f42 rfl rfl).below (hb _)) ((h.f47 rfl rfl).below (hb _))⟩,fun e1 e2=>(h.f49 e1 e2).below (hb _)⟩⟩
 case cl49=>
  intros
  rename_i W h
  obtain⟨a,c,rfl,hr⟩:=h.f48 rfl rfl
  have h1:=HS.out
  have h2:=HA.out
  refine(concat_any _ (by simp) (by simp [flatT,numsL]) (by simp [flatT,numsL,listedL];omega) W a c hr).mono ?_
  rintro e w1 ⟨v,rfl,hv⟩
  have hv2:Rd w1 v ((numsL [n.kind,(n.parent:Int)])++([n.subject,n.client,n.audience])++(listedL n.scope)++(numsL [n.born,n.exp])++([Pl.flagT n.dead,Pl.flagT n.spent])++(listedL n.actors)++(numsL [n.level])++([n.secret,n.data])):=by
   have:=numsRd hv rfl
   simpa [flatT] using this
  have hb:=hv.2.1
  exact⟨v,rfl,⟨h.only.trans (Only.of hb) (fun x hx=> .inl hx),h.pair.below hb,fun _=>(h.bel rfl).trans (hb.mono (h.bel rfl).size),fun e1 e2=>(h.f11 e1 e2).below hb,fun e1 e2=>(h.f12 e1 e2).below hb,fun e1 e2=>(h.f19 e1 e2).below hb,fun e1 e2=>(h.f22 e1 e2).below hb,fun e1 e2=>(h.f27 e1 e2).below hb,fun e1 e2=>(h.f28 e1 e2).below hb,fun e1 e2=>(h.f35 e1 e2).below hb,fun e1 e2=>(h.f38 e1 e2).below hb,fun e1 e2=>(h.f41 e1 e2).below hb,fun e1 e2=>(h.f42 e1 e2).below hb,fun e1 e2=>(h.f47 e1 e2).below hb,fun e1 e2=>by obtain⟨a,c,e,hr⟩:=h.f48 e1 e2;exact⟨a,c,e,hr.below hb⟩,fun _ _=>hv2⟩⟩
 case cl50=>
  intros
  rename_i W h
  refine(form_any _ HF.out.1 HF.out.2 W _ (h.f49 rfl rfl) (HT.out.below (h.bel rfl))).mono ?_
  rintro e w1 ⟨rfl,hb⟩
  exact⟨rfl,⟨h.only.trans (Only.of hb) (fun x hx=> .inl hx),h.pair.below hb,fun _=>(h.bel rfl).trans (hb.mono (h.bel rfl).size),fun e1 e2=>(h.f11 e1 e2).below hb,fun e1 e2=>(h.f12 e1 e2).below hb,fun e1 e2=>(h.f19 e1 e2).below hb,fun e1 e2=>(h.f22 e1 e2).below hb,fun e1 e2=>(h.f27 e1 e2).below hb,fun e1 e2=>(h.f28 e1 e2).below hb,fun e1 e2=>(h.f35 e1 e2).below hb,fun e1 e2=>(h.f38 e1 e2).below hb,fun e1 e2=>(h.f41 e1 e2).below hb,fun e1 e2=>(h.f42 e1 e2).below hb,fun e1 e2=>(h.f47 e1 e2).below hb,fun e1 e2=>by obtain⟨a,c,e,hr⟩:=h.f48 e1 e2;exact⟨a,c,e,hr.below hb⟩,fun e1 e2=>(h.f49 e1 e2).below hb⟩⟩
 case cl52=>
  intros
  rename_i W h
  have hk:Bk 47 W pb #[.string ⟨#[]⟩,.string ⟨#[]⟩]:=h.pair
  exact⟨⟨_,hk.cell 0⟩,⟨_,hk.cell 1⟩,hk.fro 0,hk.fro 1,(h.only.setCell ⟨pb,0,none⟩ (.inl (by simp)) _).setCell ⟨pb,1,none⟩ (.inl (by simp)) _,pair_set hk,fun h=>(by cases h),fun h=>(by cases h),fun h=>(by cases h),fun h=>(by cases h),fun h=>(by cases h),fun h=>(by cases h),fun h=>(by cases h),fun h=>(by cases h),fun h=>(by cases h),fun h=>(by cases h),fun h=>(by cases h),fun h=>(by cases h),fun h=>(by cases h),fun h=>(by cases h)⟩
 case w0=>exact⟨(Only.refl [pb] w2).drew,K2.out.drew,fun _=>(Below.refl _ w2).drew,fun _ h=>(by cases h),fun _ h=>(by cases h),fun _ h=>(by cases h),fun _ h=>(by cases h),fun _ h=>(by cases h),fun _ h=>(by cases h),fun _ h=>(by cases h),fun _ h=>(by cases h),fun _ h=>(by cases h),fun _ h=>(by cases h),fun _ h=>(by cases h),fun _ h=>(by cases h),fun _ h=>(by cases h)⟩
 case h=>
  intros
  rename_i W h
  have HH:=Lib.hid h
  clear h
  go_wp2_with fail
  refine ret_cell47 rfl pb _ _ rfl HH.out.pair rfl ⟨by rw [HKP.out],?_⟩
  have hg:=HG.out
  have hb:=HB2.out
  exact hb.trans (HH.out.only.below hb.size (fun x hx=>by rw [List.mem_singleton] at hx;omega))
end Go.Proofs.YthogppennalobaaGreatDoor
namespace Go.Proofs.YthogppennalobaaGreatDoor
open Go.RowKit Go.Sort Forest OwnR TxO
def pairC (p:Bs×Bs): List Value:=[txt p.1,txt p.2]
def fwd:Bs:=[102,111,114,101,115,116]
def rowsP (l:List Nd)(x:Nat): List (Bs×Bs):=(fwd,nextP x)::l.map fun n=>(keyP n.id,formL (nodeT n))
structure RowOk (n:Nd): Prop where
 id:n.id≤99999999
 in64:In64 n.kind∧In64 (n.parent:Int)∧In64 n.born∧In64 n.exp∧In64 n.level
 scope:n.scope.length≤100000
 actors:n.actors.length≤100000
 len:(formL (nodeT n)).length≤140737488355328
theorem rowsP_take (l:List Nd)(x:Nat){i:Nat}(hi:i<l.length): (rowsP (l.take (i+1)) x).flatMap pairC=(rowsP (l.take i) x).flatMap pairC++pairC (keyP l[i].id,formL (nodeT l[i])):=by
 unfold rowsP
 rw [List.take_add_one,List.getElem?_eq_getElem hi,List.map_append,List.flatMap_cons,List.flatMap_cons,List.flatMap_append,List.append_assoc]
 rfl
set_option maxHeartbeats 4000000 in
theorem rows_call {w:World}{f:Nat}{ns:Ns}{x:Nat}(h:FR w f ns (x:Int))(hl:ns.length≤1000000)(hx:x≤99999999)(hk:∀n∈nodes ns,RowOk n)(hT:Tb w): Calls Tryz.prog 19 #[kpt f] w fun e w'=>∃v,e = .returned v∧Lw 47 2 w w' v (ns.length+1) ((rowsP (nodes ns) x).flatMap pairC):=by
 have H:=Lib.hid h
 have HL:=Lib.hid hl
 have HK:=Lib.hid hk
 have HT:=Lib.hid hT
 obtain⟨a,c,h0,h1,hc⟩:=h.cells
 have HC:=Lib.hid hc
 have HNX:=Lib.hid (nextRow_any x hx w hT)
 clear hc h hk hT
 obtain⟨L,hL⟩:∃L,L=nodes ns:=⟨_,rfl⟩
 rw [← hL] at HK ⊢
 have HLL:=Lib.hid hL
 have HLN:Hid (L.length=ns.length):=Lib.hid (by rw [hL];simp [nodes])
 have HF0:=Lib.hid (And.intro h0 h1)
 clear hL
 unfold kpt
 go_enter Tryz.func19,Tryz.ntmps19
 go_wp2_with (go_at_call 52;refine HNX.out.mono ?_)
 rintro e w1 ⟨rfl,hb⟩
 have HB1:=Lib.hid hb
 have d0:w1.cell? ⟨f,0,none⟩=some (.slice a ns.length c):=cell_below hb h0
 have HLW:Hid (∀o,d0=d0→Lw 47 2 w (w1.alloc (.cells #[.string ⟨#[102,111,114,101,115,116]⟩,.string ⟨(nextP x).toArray⟩] 47)) (.slice (some ⟨w1.heap.size,0,none⟩) 1 1) 1 ((rowsP (L.take 0) x).flatMap pairC)∧o=o):=Lib.hid (fun(o:Nat) _=>⟨⟨by
  have:=World.ownsRow_lit (base:=0) (e:=47) (size:=2) w1 #[.string ⟨#[102,111,114,101,115,116]⟩,.string ⟨(nextP x).toArray⟩] 1 (Nat.zero_le _) (by unfold maxLen;omega) rfl
  simpa [rowsP,pairC,fwd,txt] using this,HB1.out.trans (by have:=HB1.out.size;go_grown),fun k hk=>by cases hk;exact HB1.out.size⟩,rfl⟩)
 have HLW2:=Lib.hid (HLW.out 0 rfl).1
 have d1:∀o,(w1.alloc o).cell? ⟨f,0,none⟩=some (.slice a ns.length c):=fun o=>cell_below (by go_grown) d0
 have e1:=d1 (.cells #[.string ⟨#[102,111,114,101,115,116]⟩,.string ⟨(nextP x).toArray⟩] 47)
 clear hb HNX h0 h1 HLW d1 d0
 go_wp2_with fail
 go_loopw [3,17] (fun sv iv wr=>∃i:Nat,i≤ns.length∧iv = .int .i64 (i:Int)∧Hid (Lw 47 2 w wr sv (i+1) ((rowsP (L.take i) x).flatMap pairC))) (fun _ iv _=>ns.length - (intOf iv).toNat)
 case atStart=>exact⟨0,Nat.zero_le _,rfl,HLW2⟩
 case round=>
  obtain⟨i,hi,rfl,HI⟩:=hrel
  have hll:=HL.out
  by_cases hlt:i<ns.length
  ·have hltI:(i:Int)<(ns.length:Int):=by omega
   obtain⟨q,rfl,c0⟩:=HC.out i hlt
   have hb0:=HI.out.2.1
   have c1:wr.cell? ⟨q,i,none⟩=some (kpt ns[i].1):=cell_below hb0 c0
   obtain⟨k,hk⟩:∃k,ns[i]'hlt=k:=⟨_,rfl⟩
   have hkm:k∈ns:=hk▸List.getElem_mem hlt
   rw [hk] at c1
   have hLi:L[i]'(by rw [HLN.out];exact hlt)=k.2:=by
    simp only [HLL.out,nodes,List.getElem_map,hk]
   obtain⟨sv0,av0,K,hs,ha⟩:=(H.out.below hb0).node k hkm
   have hro:=HK.out k.2 (by rw [HLL.out];exact mem_nodes hkm)
   have HR:=Lib.hid (nodeRow_any k.2 sv0 av0 hro.id hro.in64 hro.scope hro.actors hro.len wr hs.rd ha.rd (HT.out.below hb0))
   have HTK:Hid ((rowsP (L.take (i+1)) x).flatMap pairC=(rowsP (L.take i) x).flatMap pairC++pairC (keyP k.2.id,formL (nodeT k.2))):=Lib.hid (by
    have:=rowsP_take L x (i:=i) (by rw [HLN.out];exact hlt)
    rwa [hLi] at this)
   have HD:Hid (i+1+1≤4194304):=Lib.hid (by omega)
   have K2:=K
   unfold ndC txt at K2
   obtain⟨⟨a0,a1,a2,a3,a4⟩,⟨a5,a6,a7,a8,a9⟩,a10,a11,a12,a13,a14⟩:=K2.cells15
   obtain⟨sa,sc,rfl⟩:=owns_shape hs
   obtain⟨ca,cc,rfl⟩:=owns_shape ha
   unfold inC txt at HR
   generalize keyP k.2.id=ky at HR HTK
   generalize formL (nodeT k.2)=vl at HR HTK
   have HI2:=HI
   clear HI c0 hk K K2 hs ha hkm hro hLi hb0
   unfold kpt at c1
   go_wp2_with fail
   refine HR.out.mono ?_
   rintro e w2 ⟨rfl,hb⟩
   have HI3:Hid (∀o,Lw 47 2 w (w2.alloc o) u3 (i+1) ((rowsP (L.take i) x).flatMap pairC)):=Lib.hid fun o=>(HI2.out.down hb).down (by go_grown)
   clear c1 a0 a1 a2 a3 a4 a5 a6 a7 a8 a9 a10 a11 a12 a13 a14 hb HR HI2
   go_wp2_with (at_builtin;refine wp_one row42 rfl _ _ rfl u3 ((rowsP (L.take i) x).flatMap pairC) w2.heap.size 1 #[.string ⟨ky.toArray⟩,.string ⟨vl.toArray⟩] rfl rfl (HI3.out _) (Bk.new rfl) rfl (by simp [Value.oneCell']) HD.out (by decide) ?_;intro v' w3 hs3 hg3;have HS3:=Lib.hid hs3;clear hs3 hg3)
   go_roundw
   case rel=>exact⟨i+1,by omega,by go_num,Lib.hid (by rw [HTK.out];exact HS3.out)⟩
   case measure=>simp [intOf];omega
  ·have hie:i=ns.length:=by omega
   have hltI:¬(i:Int)<(ns.length:Int):=by omega
   have HE:Hid (Lw 47 2 w wr u3 (ns.length+1) ((rowsP L x).flatMap pairC)):=Lib.hid (by
    have:=HI.out
    rw [hie,List.take_of_length_le (by rw [HLN.out];exact Nat.le_refl _)] at this
    exact this)
   clear hie
   go_wp2_with fail
   go_ret
   exact⟨_,rfl,HE.out⟩
end Go.Proofs.YthogppennalobaaGreatDoor
