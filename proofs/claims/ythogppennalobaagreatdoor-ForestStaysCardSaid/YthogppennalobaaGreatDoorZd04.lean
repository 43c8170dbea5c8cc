/- A node copied (copied). Condition: its texts have at most 2^48 bytes. A forest behind changes: of one node, of other things. No condition. Rows of any things, laid by a call. No condition. A row of texts behind a row of the call's own. -/
import Derived.Laws.CopyOwn
import Derived.Laws.Tables
import Derived.Test.YthogppennalobaaGreatDoorZd03
import Derived.Laws.OwnMore
set_option linter.unusedVariables false
set_option linter.unusedSimpArgs false
set_option maxRecDepth 100000
namespace Go.Proofs.YthogppennalobaaGreatDoor
open Go.RowKit Go.Sort Forest OwnR TxO
def inC (i p:Int)(n:Nd)(sv av:Value): Array Value:=#[.int .i64 i,.int .i64 n.kind,.int .i64 p,txt n.subject,txt n.client,txt n.audience,sv,.int .i64 n.born,.int .i64 n.exp,.bool n.dead,.bool n.spent,av,.int .i64 n.level,txt n.secret,txt n.data]
def Short (n:Nd): Prop:=n.subject.length≤281474976710656∧n.client.length≤281474976710656∧n.audience.length≤281474976710656∧n.secret.length≤281474976710656∧n.data.length≤281474976710656∧
 n.scope.length≤1000000∧n.actors.length≤1000000∧(∀s∈n.scope,s.length≤281474976710656)∧∀s∈n.actors,s.length≤281474976710656
def zeroN:Array Value:=#[.int .i64 0,.int .i64 0,.int .i64 0,.string ⟨#[]⟩,.string ⟨#[]⟩,.string ⟨#[]⟩,.slice none 0 0,.int .i64 0,.int .i64 0,.bool false,.bool false,.slice none 0 0,.int .i64 0,.string ⟨#[]⟩,.string ⟨#[]⟩]
theorem Bk.row {t:TypeId}{w:World}{g:Nat}{old cs:Array Value}(h:Bk t w g old): Bk t (w.setRow g cs) g cs:=setRow_heap w g old cs t (0,0) h
theorem below_row {B:Nat}{w w':World}{g:Nat}{cs:Array Value}(h:Below B w w')(hg:B≤g): Below B w (w'.setRow g cs):=
 ⟨h.os,h.tape,h.output,by have:=h.size;simpa [World.setRow] using this,fun q hq=>(setRow_other w' g q cs (by omega)).trans (h.block q hq)⟩
theorem Tx.setRow {W:World}{v:Value}{l:List Bs}{b:Nat}{t:TypeId}{cs c:Array Value}(h:Tx W v l)(hb:Bk t W b cs)(ht:t≠9): Tx (W.setRow b c) v l:=
 owns_of h fun g hg _=>setRow_other W b g c (fun e=>owns_ne h hb ht (by rw [hg];exact congrArg some e))
theorem wpList_put {P:Program}{ops:Array Oper}{rest:List Oper}{o:Oper}{a:Act}{w:World}{Q:Exit→Act→World→Prop}(hgd:o.guard=none)(ty:TypeId)(x y:Operand)(ho:o.op = .store ty x y)
  (g:Nat) (old cells:Array Value) (hx:a.eval x = .pointer (some ⟨g,0,none⟩)) (hy:a.eval y = .agg cells) (hk:Bk ty w g old) (hi:(P.info? ty).map (·.size)=some cells.size)
  (hold:old.size=cells.size) (h1:cells.all (·.oneCell')=true)
  (h:wpList P ops Q rest (a.put o.dst undef) (w.setRow g cells)):wpList P ops Q (o::rest) a w:=
 wpList_plain hgd fun _ hK=>wp_store_row ty x y ho g cells hx hy ty old hk hi hold h1 (hK _ _ h)
theorem i31:(Tryz.prog.info? 31).map (·.size)=some 15:=by kernel_rfl
theorem one15 (i p:Int)(n:Nd)(a b:Option Addr)(c d e f:Nat): (inC i p n (.slice a c d) (.slice b e f)).all (·.oneCell')=true:=by simp [inC,txt,Value.oneCell']
structure Cpy (w wr:World)(b:Nat)(cs:Array Value): Prop where
 box:Bk 31 wr b cs
 res:Bk 31 wr (b+1) zeroN
 row:Bk 111 wr (b+1+1) #[.pointer (some ⟨b,3,none⟩),.pointer (some ⟨b,4,none⟩),.pointer (some ⟨b,5,none⟩),.pointer (some ⟨b,13,none⟩),.pointer (some ⟨b,14,none⟩)]
 below:Below b w wr
theorem Cpy.mono {w w1 w2:World}{b:Nat}{cs:Array Value}(h:Cpy w w1 b cs)(hb:Below w1.heap.size w1 w2): Cpy w w2 b cs:=
 ⟨h.box.below hb,h.res.below hb,h.row.below hb,h.below.trans (hb.mono (Nat.le_of_lt h.box.lt))⟩
theorem Cpy.store {w w1:World}{b o:Nat}{cs:Array Value}(h:Cpy w w1 b cs)(v:Value)(e:cs.setIfInBounds o v=cs): Cpy w (w1.setCell ⟨b,o,none⟩ v) b cs:=
 ⟨by have:=Bk.same (i:=o) (v:=v) h.box;rwa [e] at this,h.res.oth (by simp),h.row.oth (by show b+1+1≠b;omega),h.below.setCell (p:=⟨b,o,none⟩) (Nat.le_refl _) v⟩
structure CpP (w:World)(b:Nat)(i p:Int)(n:Nd)(sv av:Value)(b2 b5 b7 b9:Bool)(y2 y5:Value)(W:World): Prop where
 cpy:Cpy w W b #[.int .i64 i,.int .i64 n.kind,.int .i64 p,.string ⟨n.subject.toArray⟩,.string ⟨n.client.toArray⟩,.string ⟨n.audience.toArray⟩,(if b7 then y2 else sv),.int .i64 n.born,.int .i64 n.exp,.bool n.dead,.bool n.spent,(if b9 then y5 else av),.int .i64 n.level,.string ⟨n.secret.toArray⟩,.string ⟨n.data.toArray⟩]
 one:b2=true→Tx W y2 n.scope∧∀q,y2.ownBlock=some q→b≤q
 two:b5=true→Tx W y5 n.actors∧∀q,y5.ownBlock=some q→b≤q
theorem Tx.setCell {W:World}{v:Value}{l:List Bs}{b o:Nat}{t:TypeId}{cs:Array Value}{x:Value}(h:Tx W v l)(hb:Bk t W b cs)(ht:t≠9): Tx (W.setCell ⟨b,o,none⟩ x) v l:=
 owns_of h fun g hg _=>heap_setCell_other W _ g x (fun e=>owns_ne h hb ht (by rw [hg];exact congrArg some e))
set_option maxHeartbeats 16000000 in
theorem copied_new (i p:Int)(n:Nd)(sv av:Value)(hn:Short n)(w:World)(h1:Rd w sv n.scope)(h2:Rd w av n.actors): Calls Tryz.prog 51 #[.agg (inC i p n sv av)] w fun e w'=>∃sv' av',e = .returned (.agg (inC i p n sv' av'))∧Tx w' sv' n.scope∧Tx w' av' n.actors∧Below w.heap.size w w'∧(∀q,sv'.ownBlock=some q→w.heap.size≤q)∧∀q,av'.ownBlock=some q→w.heap.size≤q:=by
 obtain⟨n1,n2,n3,n4,n5,n6,n7,n8,n9⟩:=hn
 have HC1:=Lib.hid (fun w=>sclone_any n.subject w n1)
 have HC2:=Lib.hid (fun w=>sclone_any n.client w n2)
 have HC3:=Lib.hid (fun w=>sclone_any n.audience w n3)
 have HC4:=Lib.hid (fun w=>sclone_any n.secret w n4)
 have HC5:=Lib.hid (fun w=>sclone_any n.data w n5)
 have HL1:=Lib.hid (fun W (hb:Below w.heap.size w W)=>copiedList_any n.scope n6 n8 W sv (h1.below hb))
 have HL2:=Lib.hid (fun W (hb:Below w.heap.size w W)=>copiedList_any n.actors n7 n9 W av (h2.below hb))
 obtain⟨sa,sc,rfl,_⟩:=h1
 obtain⟨aa,ac,rfl,_⟩:=h2
 clear n1 n2 n3 n4 n5 n6 n7 n8 n9
 unfold inC txt
 go_enter Tryz.func51,Tryz.ntmps51
 go_wp2_with fail
 obtain⟨b,hb⟩:∃b,b=w.heap.size:=⟨_,rfl⟩
 rw [← hb]
 have hC0:Cpy w (((w.alloc (.cells #[.int .i64 i,.int .i64 n.kind,.int .i64 p,.string ⟨n.subject.toArray⟩,.string ⟨n.client.toArray⟩,.string ⟨n.audience.toArray⟩,.slice sa n.scope.length sc,.int .i64 n.born,.int .i64 n.exp,.bool n.dead,.bool n.spent,.slice aa n.actors.length ac,.int .i64 n.level,.string ⟨n.secret.toArray⟩,.string ⟨n.data.toArray⟩] 31)).alloc (.cells zeroN 31)).alloc (.cells #[.pointer (some ⟨b,3,none⟩),.pointer (some ⟨b,4,none⟩),.pointer (some ⟨b,5,none⟩),.pointer (some ⟨b,13,none⟩),.pointer (some ⟨b,14,none⟩)] 111)) b #[.int .i64 i,.int .i64 n.kind,.int .i64 p,.string ⟨n.subject.toArray⟩,.string ⟨n.client.toArray⟩,.string ⟨n.audience.toArray⟩,.slice sa n.scope.length sc,.int .i64 n.born,.int .i64 n.exp,.bool n.dead,.bool n.spent,.slice aa n.actors.length ac,.int .i64 n.level,.string ⟨n.secret.toArray⟩,.string ⟨n.data.toArray⟩]:=
  ⟨((Bk.new hb).alloc).alloc,(Bk.new (by simp [hb])).alloc,Bk.new (by simp [hb]),by rw [hb];go_grown⟩
 have HB:=Lib.hid hb
 clear hb
 unfold zeroN at hC0
 generalize (((w.alloc (.cells #[.int .i64 i,.int .i64 n.kind,.int .i64 p,.string ⟨n.subject.toArray⟩,.string ⟨n.client.toArray⟩,.string ⟨n.audience.toArray⟩,.slice sa n.scope.length sc,.int .i64 n.born,.int .i64 n.exp,.bool n.dead,.bool n.spent,.slice aa n.actors.length ac,.int .i64 n.level,.string ⟨n.secret.toArray⟩,.string ⟨n.data.toArray⟩] 31)).alloc (.cells #[.int .i64 0,.int .i64 0,.int .i64 0,.string ⟨#[]⟩,.string ⟨#[]⟩,.string ⟨#[]⟩,.slice none 0 0,.int .i64 0,.int .i64 0,.bool false,.bool false,.slice none 0 0,.int .i64 0,.string ⟨#[]⟩,.string ⟨#[]⟩] 31)).alloc (.cells #[.pointer (some ⟨b,3,none⟩),.pointer (some ⟨b,4,none⟩),.pointer (some ⟨b,5,none⟩),.pointer (some ⟨b,13,none⟩),.pointer (some ⟨b,14,none⟩)] 111))=W0 at hC0 ⊢
 have HC0:=Lib.hid hC0
 clear hC0
 go_loopw [12] (fun iv wr=>∃j:Nat,j≤5∧iv = .int .i64 (j:Int)∧Hid (Cpy w wr b #[.int .i64 i,.int .i64 n.kind,.int .i64 p,.string ⟨n.subject.toArray⟩,.string ⟨n.client.toArray⟩,.string ⟨n.audience.toArray⟩,.slice sa n.scope.length sc,.int .i64 n.born,.int .i64 n.exp,.bool n.dead,.bool n.spent,.slice aa n.actors.length ac,.int .i64 n.level,.string ⟨n.secret.toArray⟩,.string ⟨n.data.toArray⟩])) (fun iv _=>5 - (intOf iv).toNat)
 case atStart=>exact⟨0,by omega,rfl,HC0⟩
 case round=>
  obtain⟨j,hj,rfl,HI⟩:=hrel
  clear HC0
  have hcase:j=0∨j=1∨j=2∨j=3∨j=4∨j=5:=by omega
  rcases hcase with rfl | rfl | rfl | rfl | rfl | rfl
  ·have c0:wr.cell? ⟨b+1+1,0,none⟩=some (.pointer (some ⟨b,3,none⟩)):=HI.out.row.cell 0
   have c1:wr.cell? ⟨b,3,none⟩=some (.string ⟨n.subject.toArray⟩):=HI.out.box.cell 3
   go_wp2_with fail
   refine(HC1.out _).mono ?_
   rintro e w2 ⟨rfl,hb2⟩
   replace HI:=Lib.hid (HI.out.mono hb2)
   clear c0 c1 hb2
   have f1:=HI.out.box.fro 3
   have c1:w2.cell? ⟨b,3,none⟩=some (.string ⟨n.subject.toArray⟩):=HI.out.box.cell 3
   go_wp2_with fail
   go_roundw
   case rel=>exact⟨1,by omega,by go_num,Lib.hid (HI.out.store _ rfl)⟩
   case measure=>simp [intOf]
  ·have c0:wr.cell? ⟨b+1+1,1,none⟩=some (.pointer (some ⟨b,4,none⟩)):=HI.out.row.cell 1
   have c1:wr.cell? ⟨b,4,none⟩=some (.string ⟨n.client.toArray⟩):=HI.out.box.cell 4
   go_wp2_with fail
   refine(HC2.out _).mono ?_
   rintro e w2 ⟨rfl,hb2⟩
   replace HI:=Lib.hid (HI.out.mono hb2)
   clear c0 c1 hb2
   have f1:=HI.out.box.fro 4
   have c1:w2.cell? ⟨b,4,none⟩=some (.string ⟨n.client.toArray⟩):=HI.out.box.cell 4
   go_wp2_with fail
   go_roundw
   case rel=>exact⟨2,by omega,by go_num,Lib.hid (HI.out.store _ rfl)⟩
   case measure=>simp [intOf]
  ·have c0:wr.cell? ⟨b+1+1,2,none⟩=some (.pointer (some ⟨b,5,none⟩)):=HI.out.row.cell 2
   have c1:wr.cell? ⟨b,5,none⟩=some (.string ⟨n.audience.toArray⟩):=HI.out.box.cell 5
   go_wp2_with fail
   refine(HC3.out _).mono ?_
   rintro e w2 ⟨rfl,hb2⟩
   replace HI:=Lib.hid (HI.out.mono hb2)
   clear c0 c1 hb2
   have f1:=HI.out.box.fro 5
   have c1:w2.cell? ⟨b,5,none⟩=some (.string ⟨n.audience.toArray⟩):=HI.out.box.cell 5
   go_wp2_with fail
   go_roundw
   case rel=>exact⟨3,by omega,by go_num,Lib.hid (HI.out.store _ rfl)⟩
   case measure=>simp [intOf]
  ·have c0:wr.cell? ⟨b+1+1,3,none⟩=some (.pointer (some ⟨b,13,none⟩)):=HI.out.row.cell 3
   have c1:wr.cell? ⟨b,13,none⟩=some (.string ⟨n.secret.toArray⟩):=HI.out.box.cell 13
   go_wp2_with fail
   refine(HC4.out _).mono ?_
   rintro e w2 ⟨rfl,hb2⟩
   replace HI:=Lib.hid (HI.out.mono hb2)
   clear c0 c1 hb2
   have f1:=HI.out.box.fro 13
   have c1:w2.cell? ⟨b,13,none⟩=some (.string ⟨n.secret.toArray⟩):=HI.out.box.cell 13
   go_wp2_with fail
   go_roundw
   case rel=>exact⟨4,by omega,by go_num,Lib.hid (HI.out.store _ rfl)⟩
   case measure=>simp [intOf]
  ·have c0:wr.cell? ⟨b+1+1,4,none⟩=some (.pointer (some ⟨b,14,none⟩)):=HI.out.row.cell 4
   have c1:wr.cell? ⟨b,14,none⟩=some (.string ⟨n.data.toArray⟩):=HI.out.box.cell 14
   go_wp2_with fail
   refine(HC5.out _).mono ?_
   rintro e w2 ⟨rfl,hb2⟩
   replace HI:=Lib.hid (HI.out.mono hb2)
   clear c0 c1 hb2
   have f1:=HI.out.box.fro 14
   have c1:w2.cell? ⟨b,14,none⟩=some (.string ⟨n.data.toArray⟩):=HI.out.box.cell 14
   go_wp2_with fail
   go_roundw
   case rel=>exact⟨5,by omega,by go_num,Lib.hid (HI.out.store _ rfl)⟩
   case measure=>simp [intOf]
  ·go_wp2_with fail
   have HX:=Lib.hid (show w.heap.size≤b by have:=HB.out;omega)
   obtain⟨sv,hsv⟩:∃z,z=Value.slice sa n.scope.length sc:=⟨_,rfl⟩
   obtain⟨av,hav⟩:∃z,z=Value.slice aa n.actors.length ac:=⟨_,rfl⟩
   rw [← hsv] at HI HL1
   rw [← hav] at HI HL2
   clear hsv hav
   refine Pl.cpR (fun _ b2 _ b5 b7 b9 y2 y5 W=>CpP w b i p n sv av b2 b5 b7 b9 y2 y5 W) b sv av _ ?cl1 ?cl2 ?cl4 ?cl5 ?cl7 ?cl9 ?w0 ?h
   case w0=>exact⟨HI.out.mono (Below.drew (Below.refl _ _)),(fun h=>by cases h),fun h=>by cases h⟩
   case cl1=>exact fun _ _ _ W h=>⟨h.cpy.box.cell 6,h⟩
   case cl4=>exact fun _ b2 _ _ W h=>⟨h.cpy.box.cell 11,h⟩
   case cl2=>
    intro _ y2 y5 W h
    refine(HL1.out W (h.cpy.below.mono HX.out)).mono ?_
    rintro e w1 ⟨v,rfl,hs⟩
    exact⟨v,rfl,h.cpy.mono hs.2.1,fun _=>⟨(Tx.of hs.1),fun q hq=>Nat.le_trans (Nat.le_of_lt h.cpy.box.lt) (hs.2.2 q hq)⟩,fun h=>by cases h⟩
   case cl5=>
    intro y2 y5 W h
    refine(HL2.out W (h.cpy.below.mono HX.out)).mono ?_
    rintro e w1 ⟨v,rfl,hs⟩
    exact⟨v,rfl,h.cpy.mono hs.2.1,fun _=>⟨(h.one rfl).1.below hs.2.1,(h.one rfl).2⟩,fun _=>⟨(Tx.of hs.1),fun q hq=>Nat.le_trans (Nat.le_of_lt h.cpy.box.lt) (hs.2.2 q hq)⟩⟩
   case cl7=>
    intro y2 y5 W h
    obtain⟨a,c,e⟩:=owns_shape (h.one rfl).1
    refine⟨a,_,c,e,⟨_,h.cpy.box.cell 6⟩,h.cpy.box.fro 6,?_,fun _=>⟨(h.one rfl).1.setCell h.cpy.box (by decide),(h.one rfl).2⟩,fun _=>⟨(h.two rfl).1.setCell h.cpy.box (by decide),(h.two rfl).2⟩⟩
    rw [← e]
    exact⟨Bk.same (i:=6) (v:=y2) h.cpy.box,h.cpy.res.oth (by simp),h.cpy.row.oth (by show b+1+1≠b;omega),h.cpy.below.setCell (p:=⟨b,6,none⟩) (Nat.le_refl _) _⟩
   case cl9=>
    intro y2 y5 W h
    obtain⟨a,c,e⟩:=owns_shape (h.two rfl).1
    refine⟨a,_,c,e,⟨_,h.cpy.box.cell 11⟩,h.cpy.box.fro 11,?_,fun _=>⟨(h.one rfl).1.setCell h.cpy.box (by decide),(h.one rfl).2⟩,fun _=>⟨(h.two rfl).1.setCell h.cpy.box (by decide),(h.two rfl).2⟩⟩
    rw [← e]
    exact⟨Bk.same (i:=11) (v:=y5) h.cpy.box,h.cpy.res.oth (by simp),h.cpy.row.oth (by show b+1+1≠b;omega),h.cpy.below.setCell (p:=⟨b,11,none⟩) (Nat.le_refl _) _⟩
   case h=>
    intro y2 y5 W h
    obtain⟨ya,yc,rfl⟩:=owns_shape (h.one rfl).1
    obtain⟨za,zc,rfl⟩:=owns_shape (h.two rfl).1
    have H:=Lib.hid h
    have K:Hid (Bk 31 W b (inC i p n (.slice ya n.scope.length yc) (.slice za n.actors.length zc))):=Lib.hid h.cpy.box
    have Z:=Lib.hid h.cpy.res
    clear h HI HL1 HL2
    go_wp2_with (first | refine wpList_load_row rfl 31 _ rfl b rfl 31 _ (0,0) _ K.out Tryz.underlying31 rfl i31 ?_ | refine wpList_put rfl 31 _ _ rfl (b+1) zeroN _ rfl rfl Z.out i31 rfl (one15 _ _ _ _ _ _ _ _ _) ?_)
    refine bodyPost_ret (v:= .agg (inC i p n (.slice ya n.scope.length yc) (.slice za n.actors.length zc))) (results_cell_row rfl _ _ (b+1) 31 _ (0,0) _ rfl (Bk.row Z.out) Tryz.underlying31 rfl i31) rfl ?_
    exact⟨_,_,rfl,(H.out.one rfl).1.setRow Z.out (by decide),(H.out.two rfl).1.setRow Z.out (by decide),(below_row H.out.cpy.below (by omega)).mono HX.out,fun q hq=>Nat.le_trans HX.out ((H.out.one rfl).2 q hq),fun q hq=>Nat.le_trans HX.out ((H.out.two rfl).2 q hq)⟩
theorem copied_any (i p:Int)(n:Nd)(sv av:Value)(hn:Short n)(w:World)(h1:Rd w sv n.scope)(h2:Rd w av n.actors): Calls Tryz.prog 51 #[.agg (inC i p n sv av)] w fun e w'=>∃sv' av',e = .returned (.agg (inC i p n sv' av'))∧Tx w' sv' n.scope∧Tx w' av' n.actors∧Below w.heap.size w w':=
 (copied_new i p n sv av hn w h1 h2).mono fun e w' ⟨a,b,c,d,e,f,_⟩=>⟨a,b,c,d,e,f⟩
end Go.Proofs.YthogppennalobaaGreatDoor
namespace Go.Proofs.YthogppennalobaaGreatDoor
open Go.RowKit Go.Sort Forest OwnR TxO
def updN (ns:Ns)(id:Nat)(F:Nd→Nd): Ns:=ns.map fun k=>(k.1,if k.2.id=id then F k.2 else k.2)
def setN (l:List Nd)(id:Nat)(F:Nd→Nd): List Nd:=l.map fun n=>if n.id=id then F n else n
theorem updN_nodes (ns:Ns)(id:Nat)(F:Nd→Nd): nodes (updN ns id F)=setN (nodes ns) id F:=by
 simp [nodes,updN,setN]
theorem updN_len (ns:Ns)(id:Nat)(F:Nd→Nd): (updN ns id F).length=ns.length:=by simp [updN]
theorem updN_fst (ns:Ns)(id:Nat)(F:Nd→Nd): (updN ns id F).map (fun k=>kpt k.1)=ns.map fun k=>kpt k.1:=by simp [updN]
structure Mild (F:Nd→Nd): Prop where
 fix:Fixes F
 scope:∀n,(F n).scope=n.scope
 actors:∀n,(F n).actors=n.actors
theorem Mild.set {F:Nd→Nd}(h:Mild F)(id:Nat): Fixes fun n=>if n.id=id then F n else n:=
 ⟨fun n=>by
  split
  ·exact h.fix.id n
  ·rfl,fun n=>by
  split
  ·exact h.fix.parent n
  ·rfl⟩
theorem updN_block {F:Nd→Nd}(hF:Mild F)(ns:Ns)(id:Nat)(p:Int): blockI (updN ns id F) p=blockI ns p:=by
 unfold blockI updN
 induction ns with
 |nil=>rfl
 |cons k ns ih=>
  have e:(if k.2.id=id then F k.2 else k.2).id=k.2.id:=(hF.set id).id k.2
  simp only [List.map_cons,List.find?_cons,e]
  cases h:((k.2.id:Int) == p) with
  |true=>rfl
  |false=>exact ih
def OwnsB (w:World)(f:Nat)(ns:Ns)(q:Nat): Prop:=q=f∨(∃k∈ns,k.1=q)∨∃n c x,Bk 71 w f #[.slice (some ⟨q,0,none⟩) n c,x]
structure Cho (w w':World)(f:Nat)(ns ns':Ns): Prop where
 only:∃L,Only L w w'∧∀q∈L,OwnsB w f ns q
 own:∀q,OwnsB w' f ns' q→OwnsB w f ns q∨w.heap.size≤q
theorem Cho.trans {w w1 w2:World}{f:Nat}{a b c:Ns}(h:Cho w w1 f a b)(k:Cho w1 w2 f b c): Cho w w2 f a c:=by
 obtain⟨L,hL,h1⟩:=h.only
 obtain⟨M,hM,k1⟩:=k.only
 refine⟨⟨(L++M).filter fun q=>decide (q<w.heap.size),?_,fun q hq=>?_⟩,fun q hq=>?_⟩
 ·refine⟨hM.os.trans hL.os,hM.tape.trans hL.tape,hM.output.trans hL.output,Nat.le_trans hL.size hM.size,fun i hi hn=>?_⟩
  have hn2:i∉L∧i∉M:=by
   rw [List.mem_filter,List.mem_append] at hn
   constructor
   ·intro h;exact hn ⟨.inl h,by simpa using hi⟩
   ·intro h;exact hn ⟨.inr h,by simpa using hi⟩
  exact(hM.block i (Nat.lt_of_lt_of_le hi hL.size) hn2.2).trans (hL.block i hi hn2.1)
 ·rw [List.mem_filter,List.mem_append] at hq
  rcases hq.1 with h2 | h2
  ·exact h1 q h2
  ·rcases h.own q (k1 q h2) with h3 | h3
   ·exact h3
   ·have:=hq.2;simp at this;omega
 ·rcases k.own q hq with h2 | h2
  ·exact h.own q h2
  ·exact .inr (Nat.le_trans hL.size h2)
theorem OwnsB.lt {w:World}{f:Nat}{ns:Ns}{nx:Int}(h:FR w f ns nx){q:Nat}(hq:OwnsB w f ns q): q<w.heap.size:=by
 obtain⟨a,c,h1,h2⟩:=h.obj
 rcases hq with rfl | ⟨k,hk,rfl⟩ | ⟨n,d,x,hq⟩
 ·exact h1.lt
 ·obtain⟨sv,av,h3,_⟩:=h.node k hk
  exact h3.lt
 ·have e:=h1.symm.trans hq
  simp only [Option.some.injEq,Obj.cells.injEq,Array.mk.injEq,List.cons.injEq,Value.slice.injEq] at e
  obtain⟨⟨⟨rfl,_⟩,_⟩,_⟩:=e
  obtain⟨_,cur,h4⟩:=owns_block h2 rfl
  exact h4.lt
theorem OwnsB.same {w w':World}{f q:Nat}{ns:Ns}(h:OwnsB w' f ns q)(e:w'.heap[f]?=w.heap[f]?): OwnsB w f ns q:=by
 rcases h with h | h | ⟨n,c,x,h⟩
 ·exact .inl h
 ·exact .inr (.inl h)
 ·exact .inr (.inr ⟨n,c,x,e.symm.trans h⟩)
theorem Cho.of_below {w w':World}{f:Nat}{ns:Ns}{nx:Int}(h:FR w f ns nx)(hb:Below w.heap.size w w'): Cho w w' f ns ns:=
 ⟨⟨[],.of hb,fun q hq=>by cases hq⟩,fun q hq=> .inl (hq.same (hb.block _ (OwnsB.lt h (.inl rfl))))⟩
def OwnsT (w:World)(ns:Ns)(q:Nat): Prop:=∃k∈ns,∃n sv av up,Bk 75 w k.1 (ndC n sv av up)∧(sv.ownBlock=some q∨av.ownBlock=some q)
theorem ndC_inj {n m:Nd}{a b c x y z:Value}(h:ndC n a b c=ndC m x y z): a=x∧b=y:=by
 unfold ndC at h
 simp only [Array.mk.injEq,List.cons.injEq] at h
 exact⟨h.2.2.2.2.2.2.1,h.2.2.2.2.2.2.2.2.2.2.2.1⟩
theorem bk_inj {t:TypeId}{w:World}{g:Nat}{cs ds:Array Value}(a:Bk t w g cs)(b:Bk t w g ds): cs=ds:=by
 have e:=a.symm.trans b
 simp only [Option.some.injEq,Obj.cells.injEq] at e
 exact e.1
structure Chf (w w':World)(f:Nat)(ns ns':Ns): Prop extends Cho w w' f ns ns' where
 rows:∀q,OwnsT w' ns' q→OwnsT w ns q∨w.heap.size≤q
theorem Chf.trans {w w1 w2:World}{f:Nat}{a b c:Ns}(h:Chf w w1 f a b)(k:Chf w1 w2 f b c): Chf w w2 f a c:=by
 refine⟨h.toCho.trans k.toCho,fun q hq=>?_⟩
 obtain⟨L,hL,_⟩:=h.only
 rcases k.rows q hq with h2 | h2
 ·exact h.rows q h2
 ·exact .inr (Nat.le_trans hL.size h2)
theorem OwnsT.same {w w':World}{ns:Ns}{q:Nat}(h:OwnsT w' ns q)(e:∀k∈ns,w'.heap[k.1]?=w.heap[k.1]?): OwnsT w ns q:=by
 obtain⟨k,hk,n,sv,av,up,h1,h2⟩:=h
 exact⟨k,hk,n,sv,av,up,(e k hk).symm.trans h1,h2⟩
theorem Chf.of_below {w w':World}{f:Nat}{ns:Ns}{nx:Int}(h:FR w f ns nx)(hb:Below w.heap.size w w'): Chf w w' f ns ns:=
 ⟨Cho.of_below h hb,fun q hq=> .inl (hq.same fun k hk=>hb.block _ (OwnsB.lt h (.inr (.inl ⟨k,hk,rfl⟩))))⟩
theorem FR.apart {w w':World}{f:Nat}{ns:Ns}{nx:Int}{L:List Nat}(h:FR w f ns nx)(ho:Only L w w')(hL:∀q∈L,¬OwnsB w f ns q)(h9:∀q∈L,∀cs,¬Bk 9 w q cs): FR w' f ns nx:=by
 obtain⟨a,c,h1,h2⟩:=h.obj
 refine⟨h.ok,⟨a,c,h1.only ho fun hq=>hL _ hq (.inl rfl),owns_only h2 ho fun g hg hq=>?_⟩,fun k hk=>?_⟩
 ·cases a with
  |none=>cases hg
  |some p=>
   obtain⟨_,cur,hb⟩:=owns_block h2 hg
   rcases h2.2 with ⟨hx,_⟩ | ⟨q,cap,cur2,hx,_⟩
   ·cases hx
   ·cases hx
    cases hg
    exact hL _ hq (.inr (.inr ⟨_,_,_,h1⟩))
 ·obtain⟨sv,av,h3,h4,h5⟩:=h.node k hk
  refine⟨sv,av,h3.only ho fun hq=>hL _ hq (.inr (.inl ⟨k,hk,rfl⟩)),h4.only ho fun g hg hq=>?_,h5.only ho fun g hg hq=>?_⟩
  ·obtain⟨_,cur,hb⟩:=owns_block h4 hg
   exact h9 g hq cur hb
  ·obtain⟨_,cur,hb⟩:=owns_block h5 hg
   exact h9 g hq cur hb
theorem OwnsB.no9 {w:World}{f:Nat}{ns:Ns}{nx:Int}(h:FR w f ns nx){q:Nat}(hq:OwnsB w f ns q)(cs:Array Value): ¬Bk 9 w q cs:=by
 intro hb
 obtain⟨a,c,h1,h2⟩:=h.obj
 rcases hq with rfl | ⟨k,hk,rfl⟩ | ⟨n,d,x,hq⟩
 ·exact bk_ne hb h1 (by decide) rfl
 ·obtain⟨sv,av,h3,_⟩:=h.node k hk
  exact bk_ne hb h3 (by decide) rfl
 ·have e:=h1.symm.trans hq
  simp only [Option.some.injEq,Obj.cells.injEq,Array.mk.injEq,List.cons.injEq,Value.slice.injEq] at e
  obtain⟨⟨⟨rfl,_⟩,_⟩,_⟩:=e
  obtain⟨_,cur,h4⟩:=owns_block h2 rfl
  exact bk_ne hb h4 (by decide) rfl
theorem same_block {w:World}{f:Nat}{ns:Ns}{nx:Int}(h:FR w f ns nx){k q:Nat×Nd}(hk:k∈ns)(hq:q∈ns)(e:k.1=q.1): k.2.id=q.2.id:=by
 have h1:=h.id0 k hk
 have h2:=h.id0 q hq
 rw [e] at h1
 have:=h1.symm.trans h2
 simp only [Option.some.injEq,Value.int.injEq] at this
 omega
theorem FR.upd {w w':World}{f:Nat}{ns:Ns}{nx:Int}(h:FR w f ns nx){k:Nat×Nd}(hk:k∈ns){F:Nd→Nd}(hF:Mild F)(ho:Only [k.1] w w')
  (hc:∀sv av up,Bk 75 w k.1 (ndC k.2 sv av up)→Bk 75 w' k.1 (ndC (F k.2) sv av up)):FR w' f (updN ns k.2.id F) nx∧Chf w w' f ns (updN ns k.2.id F):=by
 obtain⟨a,c,h1,h2⟩:=h.obj
 obtain⟨sv0,av0,h30,_⟩:=h.node k hk
 have ht:∀ {v:Value} {l:List Bs},Tx w v l→Tx w' v l:=fun hx=>hx.only ho fun g hg hq=>by
  obtain rfl:=List.mem_singleton.1 hq
  exact owns_ne hx h30 (by decide) hg
 refine⟨⟨?_,⟨a,c,?_,?_⟩,?_⟩,?_⟩
 ·rw [updN_nodes];exact h.ok.map (hF.set _)
 ·rw [updN_len]
  exact h1.only ho fun hq=>bk_ne h1 h30 (by decide) (List.mem_singleton.1 hq)
 ·rw [updN_len,updN_fst]
  exact owns_only h2 ho fun g hg hq=>by
   obtain rfl:=List.mem_singleton.1 hq
   exact owns_ne h2 h30 (by decide) hg
 ·intro q hq
  obtain⟨r,hr,rfl⟩:=List.mem_map.1 hq
  obtain⟨sv,av,h3,h4,h5⟩:=h.node r hr
  by_cases e:r.2.id=k.2.id
  ·have e1:r.1=k.1:=by
    have a1:=block_of h.ok hr
    have a2:=block_of h.ok hk
    rw [e] at a1
    exact Option.some.inj (a1.symm.trans a2)
   have e2:r.2=k.2:=h.ok.same (mem_nodes hr) (mem_nodes hk) e
   refine⟨sv,av,?_,?_,?_⟩
   ·show Bk 75 w' r.1 (ndC (if r.2.id=k.2.id then F r.2 else r.2) sv av (fV (blockI (updN ns k.2.id F) _)))
    rw [if_pos e,updN_block hF,hF.fix.parent,e1,e2]
    rw [e1,e2] at h3
    exact hc _ _ _ h3
   ·show Tx w' sv (if r.2.id=k.2.id then F r.2 else r.2).scope
    rw [if_pos e,hF.scope];exact ht h4
   ·show Tx w' av (if r.2.id=k.2.id then F r.2 else r.2).actors
    rw [if_pos e,hF.actors];exact ht h5
  ·refine⟨sv,av,?_,?_,?_⟩
   ·show Bk 75 w' r.1 (ndC (if r.2.id=k.2.id then F r.2 else r.2) sv av (fV (blockI (updN ns k.2.id F) _)))
    rw [if_neg e,updN_block hF]
    exact h3.only ho fun hq=>e (same_block h hr hk (List.mem_singleton.1 hq))
   ·show Tx w' sv (if r.2.id=k.2.id then F r.2 else r.2).scope
    rw [if_neg e];exact ht h4
   ·show Tx w' av (if r.2.id=k.2.id then F r.2 else r.2).actors
    rw [if_neg e];exact ht h5
 ·refine⟨⟨⟨[k.1],ho,fun q hq=>?_⟩,fun q hq=> .inl ?_⟩,fun q hq=> .inl ?_⟩
  rotate_left 2
  ·obtain⟨r,hr,n,sv,av,up,k1,k2⟩:=hq
   obtain⟨z,hz,rfl⟩:=List.mem_map.1 hr
   obtain⟨sv1,av1,k3,_⟩:=h.node z hz
   by_cases e:z.1=k.1
   ·have e2:z.2=k.2:=h.ok.same (mem_nodes hz) (mem_nodes hk) (same_block h hz hk e)
    rw [e,e2] at k3
    have k4:=hc _ _ _ k3
    dsimp only at k1
    rw [e] at k1
    obtain⟨rfl,rfl⟩:=ndC_inj (bk_inj k4 k1)
    exact⟨k,hk,_,_,_,_,k3,k2⟩
   ·have k4:=k3.only ho fun hq=>e (List.mem_singleton.1 hq)
    obtain⟨rfl,rfl⟩:=ndC_inj (bk_inj k4 k1)
    exact⟨z,hz,_,_,_,_,k3,k2⟩
  ·obtain rfl:=List.mem_singleton.1 hq
   exact .inr (.inl ⟨k,hk,rfl⟩)
  ·rcases hq with hq | ⟨r,hr,rfl⟩ | ⟨n,d,x,hq⟩
   ·exact .inl hq
   ·obtain⟨z,hz,rfl⟩:=List.mem_map.1 hr
    exact .inr (.inl ⟨z,hz,rfl⟩)
   ·refine .inr (.inr ⟨n,d,x,?_⟩)
    exact(ho.block f h1.lt fun hq=>bk_ne h1 h30 (by decide) (List.mem_singleton.1 hq)).symm.trans hq
end Go.Proofs.YthogppennalobaaGreatDoor
namespace Go.Proofs.YthogppennalobaaGreatDoor
open Go.RowKit Go.Sort Forest OwnR TxO
def Lw (e:TypeId)(z:Nat)(w0 w:World)(v:Value)(n:Nat)(xs:List Value): Prop:=w.ownsRow 0 e z v n xs∧Below w0.heap.size w0 w∧∀k,v.ownBlock=some k→w0.heap.size≤k
theorem Lw.down {e:TypeId}{z n:Nat}{w0 w w':World}{v:Value}{xs:List Value}(h:Lw e z w0 w v n xs)(hb:Below w.heap.size w w'): Lw e z w0 w' v n xs:=
 ⟨owns_below h.1 hb,h.2.1.trans (hb.mono h.2.1.size),h.2.2⟩
theorem Lw.nil (e:TypeId)(z:Nat)(w:World): Lw e z w w (.slice none 0 0) 0 []:=⟨⟨by simp,.inl ⟨rfl,rfl⟩⟩,Below.refl _ _,fun k hk=>by cases hk⟩
theorem Lw.empty (e:TypeId)(z:Nat){w0 w:World}(hb:Below w0.heap.size w0 w): Lw e z w0 (w.alloc (.cells #[] e)) (.slice (some ⟨w.heap.size,0,none⟩) 0 0) 0 []:=
 ⟨⟨by simp,.inr ⟨w.heap.size,0,#[],rfl,Nat.zero_le _,heap_alloc_new w _,Nat.le_refl _,Nat.zero_le _,by simp,by simp⟩⟩,hb.alloc hb.size _,fun k hk=>by cases hk;exact hb.size⟩
theorem Lw.shape {e:TypeId}{z n:Nat}{w0 w:World}{v:Value}{xs:List Value}(h:Lw e z w0 w v n xs): ∃a c,v = .slice a n c:=owns_shape h.1
structure RowT (t e:TypeId)(z b:Nat): Prop where
 u:Tryz.prog.underlying t=some (.slice e)
 i:∃x:Value,(Tryz.prog.info? e).map (fun i=>(i.zero,i.size,i.bytes))=some (some x,z,b)∧x.cells.size=z
 pos:0<z
theorem Lw.app {t e:TypeId}{z b n:Nat}(hT:RowT t e z b){w0 W:World}{v:Value}{xs:List Value}(ty:TypeId)(h:Lw e z w0 W v n xs)(a:Addr)(m c:Nat)(news:List Value)(hl:news.length=m*z)
  (hn:∀j u,news[j]?=some u→W.cell? (a.add j)=some u) (h1:∀u∈news,u.oneCell'=true) (h63:n+m≤maxLen) (hb:(n+m)*b≤140737488355328) :
  ∃v' w',(Builtin.append_ #[t,t] ty #[v,.slice (some a) m c]).run Tryz.prog W = .ok v' w'∧Lw e z w0 w' v' (n+m) (xs++news)∧W.grownBy w' v.ownBlock:=by
 obtain⟨x,hi,hx⟩:=hT.i
 obtain⟨i0,hi,hz0,hz1,hz2⟩:=info_parts hi
 obtain⟨v',w',hrun,ho,hgr,hv,_⟩:=app_own W t ty e i0 x z b hT.u hi hz0 hz1 hz2 hx hT.pos v n xs h.1 a m c news hl hn h1 h63 hb
 refine⟨v',w',hrun,⟨ho,h.2.1.grown hgr h.2.1.size h.2.2,fun q hq=>?_⟩,hgr⟩
 rcases hv with e | e
 ·exact h.2.2 q (e▸hq)
 ·exact Nat.le_trans h.2.1.size (e q hq)
theorem wp_one {t e:TypeId}{z b n:Nat}(hT:RowT t e z b){ops:Array Oper}{rest:List Oper}{o:Oper}{a:Act}{Q:Exit→Act→World→Prop}{w0 W:World}(hgd:o.guard=none)(s x:Operand)(ho:o.op = .call {callee:= .builtin .append,args:=#[s,x],argTypes:=#[t,t]})
  (v:Value) (xs:List Value) (q c:Nat) (cs:Array Value) (hs:a.eval s=v) (hx:a.eval x = .slice (some ⟨q,0,none⟩) 1 c) (hI:Lw e z w0 W v n xs) (hq:Bk e W q cs) (hz:cs.size=z) (h1:cs.all (·.oneCell')=true) (h63:n+1≤4194304) (hb:b≤4096)
  (h:∀v' w',Lw e z w0 w' v' (n+1) (xs++cs.toList)→W.grownBy w' v.ownBlock→wpList Tryz.prog ops Q rest (a.put o.dst v') w'):wpList Tryz.prog ops Q (o::rest) a W:=by
 obtain⟨v',w',hrun,hu,hg⟩:=hI.app hT o.type ⟨q,0,none⟩ 1 c cs.toList (by simp [hz]) (fun j u hj=>by
  rw [at0,hq.cell j]
  simpa using hj) (fun u hu=>by
   have h2:=Array.all_eq_true_iff_forall_mem.1 h1 u (by simpa using hu)
   exact h2) (by unfold maxLen;omega) (by
    have:=Nat.mul_le_mul (show n+1≤4194304 from h63) hb
    omega)
 exact Lib.wpList_append_run W hgd s x t t ho _ _ hs hx v' w' hrun (h v' w' hu hg)
theorem row55:RowT 55 3 1 8:=⟨by kernel_rfl,⟨.int .i64 0,by kernel_rfl,rfl⟩,by decide⟩
theorem row29:RowT 29 9 1 16:=⟨by kernel_rfl,⟨.string ⟨#[]⟩,by kernel_rfl,rfl⟩,by decide⟩
theorem row69:RowT 69 72 1 8:=⟨by kernel_rfl,⟨.pointer none,by kernel_rfl,rfl⟩,by decide⟩
theorem row42:RowT 42 47 2 32:=⟨by kernel_rfl,⟨.agg #[.string ⟨#[]⟩,.string ⟨#[]⟩],by kernel_rfl,rfl⟩,by decide⟩
theorem row37:RowT 37 31 15 184:=⟨by kernel_rfl,⟨.agg zeroN,by kernel_rfl,rfl⟩,by decide⟩
end Go.Proofs.YthogppennalobaaGreatDoor
namespace Go.Proofs.YthogppennalobaaGreatDoor
open Go.RowKit Go.Sort Forest
theorem at_add (b o j:Nat): (⟨b,o,none⟩:Addr).add j=⟨b,o+j,none⟩:=by unfold Addr.add;split<;>simp_all
theorem run_append_noneC {w:World}(base:Nat)(t ty e:TypeId)(i:TypeInfo)(size:Nat)(ht:Tryz.prog.underlying t=some (.slice e))(hi:Tryz.prog.info? e=some i)
  (v:Value) (n c:Nat) (xs:List Value) (hown:w.ownsRow base e size v n xs) :
  (Builtin.append_ #[t,t] ty #[v,.slice none 0 c]).run Tryz.prog w = .ok v w:=by
 rcases hown.2 with ⟨rfl,rfl⟩ | ⟨g,cap,cur,rfl,_,_,hnc,_⟩
 ·simp [Builtin.append_,run_underlying ht,sizeOf,typeInfo,hi,Builtin.lenOf,Builtin.firstCells]
 ·simp [Builtin.append_,run_underlying ht,sizeOf,typeInfo,hi,Builtin.lenOf,Builtin.firstCells,hnc,storeCells]
theorem Lw.appR {w0 W:World}{v:Value}{n:Nat}{xs:List Value}(ty:TypeId)(h:Lw 9 1 w0 W v n xs){x:Value}{l:List Bs}(hx:Rd W x l)(hl:(n+l.length)*16≤140737488355328):
  ∃v' w',(Builtin.append_ #[29,29] ty #[v,x]).run Tryz.prog W = .ok v' w'∧Lw 9 1 w0 w' v' (n+l.length) (xs++l.map txt)∧W.grownBy w' v.ownBlock:=by
 obtain⟨a,c,rfl,hc⟩:=hx
 cases a with
 |none=>
  have hl0:l=[]:=by
   cases l with
   |nil=>rfl
   |cons s l=>
    obtain⟨b,o,e,_⟩:=hc 0 (by simp)
    cases e
  subst hl0
  obtain⟨z,hi,hz⟩:=row29.i
  obtain⟨i0,hi,_,_,_⟩:=info_parts hi
  exact⟨v,W,run_append_noneC 0 29 ty 9 i0 1 row29.u hi v n c xs h.1,by simpa using h,⟨rfl,rfl,rfl,Nat.le_refl _,fun _ _ _=>rfl⟩⟩
 |some d=>
  refine h.app row29 ty d l.length c (l.map txt) (by simp) (fun j u hj=>?_) (fun u hu=>?_) (by unfold maxLen;omega) (by omega)
  ·rw [List.getElem?_map] at hj
   cases hlj:l[j]? with
   |none=>rw [hlj] at hj;cases hj
   |some s=>
    rw [hlj] at hj
    cases hj
    have hjl:j<l.length:=(List.getElem?_eq_some_iff.1 hlj).1
    obtain⟨b,o,e,hcell⟩:=hc j hjl
    cases e
    rw [at_add,hcell]
    rw [List.getElem?_eq_getElem hjl] at hlj
    rw [Option.some.inj hlj]
  ·obtain⟨s,_,rfl⟩:=List.mem_map.1 hu
   rfl
theorem wp_rows {ops:Array Oper}{rest:List Oper}{o:Oper}{a:Act}{Q:Exit→Act→World→Prop}{w0 W:World}{n:Nat}(hgd:o.guard=none)(s x:Operand)(ho:o.op = .call {callee:= .builtin .append,args:=#[s,x],argTypes:=#[29,29]})
  (v u:Value) (xs:List Value) (l:List Bs) (hs:a.eval s=v) (hx:a.eval x=u) (hI:Lw 9 1 w0 W v n xs) (hu:Rd W u l) (hl:(n+l.length)*16≤140737488355328)
  (h:∀v' w',Lw 9 1 w0 w' v' (n+l.length) (xs++l.map txt)→W.grownBy w' v.ownBlock→wpList Tryz.prog ops Q rest (a.put o.dst v') w'):wpList Tryz.prog ops Q (o::rest) a W:=by
 obtain⟨v',w',hrun,h1,h2⟩:=hI.appR o.type hu hl
 exact Lib.wpList_append_run W hgd s x 29 29 ho _ _ hs hx v' w' hrun (h v' w' h1 h2)
theorem Lw.tx {w0 w:World}{v:Value}{l:List Bs}(h:Lw 9 1 w0 w v l.length (l.map txt)): Tx w v l:=Tx.of h.1
end Go.Proofs.YthogppennalobaaGreatDoor
