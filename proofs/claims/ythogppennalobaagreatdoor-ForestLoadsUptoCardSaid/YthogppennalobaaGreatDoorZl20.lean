/- the document: its forest, at the document: Get the document: Path the document: hangs, struck the document: Live the document: rows of nodes, changed the document: set the document: Kill the document: Note the document: Spend the document: KillOf the document: Prune the document: Find the document: Plant the document: Lift -/
import Derived.Test.YthogppennalobaaGreatDoorZl15
import Derived.Test.YthogppennalobaaGreatDoorZl07
import Derived.Deep.MidRow
import Derived.Test.YthogppennalobaaGreatDoorZl04
import Derived.Test.YthogppennalobaaGreatDoorZl08
import Derived.Test.YthogppennalobaaGreatDoorZl19
set_option linter.unusedVariables false
set_option linter.unusedSimpArgs false
set_option maxRecDepth 100000
namespace Go.Proofs.YthogppennalobaaGreatDoor
open Go.RowKit Go.Sort Forest OwnR TxO
def Xr (w:World)(f:Nat)(rs:List (Nd×Value×Value))(nx:Int): Prop:=∃v,Bk 40 w f #[v,.int .i64 nx]∧Nr w v rs
def nds (rs:List (Nd×Value×Value)): List Nd:=rs.map (·.1)
theorem Xr.below {w w':World}{f:Nat}{rs:List (Nd×Value×Value)}{nx:Int}(h:Xr w f rs nx)(hb:Below w.heap.size w w'): Xr w' f rs nx:=by
 obtain⟨v,h1,h2⟩:=h
 exact⟨v,h1.below hb,h2.below hb⟩
theorem flat_get {rs:List (Nd×Value×Value)}: ∀ {i:Nat} (hi:i<rs.length) (j:Nat),j<15→(rs.flatMap nodeC)[i*15+j]?=(nodeC rs[i])[j]?:=by
 induction rs with
 |nil=>intro i hi;cases hi
 |cons r rs ih=>
  intro i hi j hj
  have h15:(nodeC r).length=15:=rfl
  match i with
  |0=>
   rw [List.flatMap_cons,List.getElem?_append_left (by rw [h15];omega)]
   simp
  |i+1=>
   rw [List.flatMap_cons,List.getElem?_append_right (by rw [h15];omega),h15,show(i+1)*15+j - 15=i*15+j by omega]
   exact ih (by simpa using hi) j hj
theorem Nr.cell {w:World}{a:Option Addr}{m c:Nat}{rs:List (Nd×Value×Value)}(h:Nr w (.slice a m c) rs){i:Nat}(hi:i<rs.length): ∃q,a=some ⟨q,0,none⟩∧∀j,j<15→w.cell? ⟨q,i*15+j,none⟩=(nodeC rs[i])[j]?:=by
 rcases h.1.2 with ⟨_,h0⟩ | ⟨q,cap,cur,e,_,hb,_,_,hs,ht⟩
 ·omega
 ·rw [Value.slice.injEq] at e
  refine⟨q,e.1,fun j hj=>?_⟩
  rw [blk_cell hb,← flat_get hi j hj,← ht,List.getElem?_take,if_pos (by have:=Nat.mul_le_mul_right 15 (show i+1≤rs.length from hi);omega)]
  simp
theorem Nr.shape {w:World}{v:Value}{rs:List (Nd×Value×Value)}(h:Nr w v rs): ∃a c,v = .slice a rs.length c:=owns_shape h.1
def At (l:List Nd)(x r:Int): Prop:=(r = -1∧∀n∈l,(n.id:Int)≠x)∨∃(i:Nat) (h:i<l.length),r=(i:Int)∧(l[i].id:Int)=x
def GotP (rs:List (Nd×Value×Value))(x:Int)(e:Ending): Prop:=(e = .returned (.tuple #[.agg zeroN,.bool false])∧∀n∈nds rs,(n.id:Int)≠x)∨∃(i:Nat) (h:i<rs.length),(rs[i].1.id:Int)=x∧e = .returned (.tuple #[.agg (nodeC rs[i]).toArray,.bool true])
end Go.Proofs.YthogppennalobaaGreatDoor
namespace Go.Proofs.YthogppennalobaaGreatDoor
open Go.RowKit Go.Sort Forest
theorem At.none {l:List Nd}{x:Int}(h:At l x (-1)): findI l x=none∧∀m:Nat,(m:Int)=x→at' l m=none:=by
 have hn:∀n∈l,(n.id:Int)≠x:=by
  rcases h with ⟨_,h⟩ | ⟨i,_,e,_⟩
  ·exact h
  ·omega
 refine⟨List.find?_eq_none.2 fun n hn2=>by simpa using hn n hn2,fun m e=>List.find?_eq_none.2 fun n hn2=>?_⟩
 have:=hn n hn2
 simp
 omega
theorem At.some {l:List Nd}(hO:Ok l){x:Int}{i:Nat}(h:At l x (i:Int)): ∃hi:i<l.length,(l[i].id:Int)=x∧findI l x=some l[i]∧∀m:Nat,(m:Int)=x→path l m=l[i]::path l l[i].parent:=by
 rcases h with ⟨e,_⟩ | ⟨j,hj,e,hx⟩
 ·omega
 ·obtain rfl:i=j:=by omega
  refine⟨hj,hx,?_,fun m e=>?_⟩
  ·cases hf:findI l x with
   |none=>have:=List.find?_eq_none.1 hf _ (List.getElem_mem hj);simp at this;omega
   |some n=>
    have h1:=List.find?_some hf
    simp at h1
    have h2:n.id=l[i].id:=by omega
    rw [hO.same (List.mem_of_find?_eq_some hf) (List.getElem_mem hj) h2]
  ·obtain rfl:m=l[i].id:=by omega
   exact path_some hO (List.getElem_mem hj)
theorem At.cases {l:List Nd}{x r:Int}(h:At l x r): r = -1∨∃i:Nat,r=(i:Int):=by
 rcases h with ⟨e,_⟩ | ⟨i,_,e,_⟩
 ·exact .inl e
 ·exact .inr ⟨i,e⟩
end Go.Proofs.YthogppennalobaaGreatDoor
namespace Go.Proofs.YthogppennalobaaGreatDoor
open Go.RowKit Go.Sort Forest OwnR TxO
end Go.Proofs.YthogppennalobaaGreatDoor
namespace Go.Proofs.YthogppennalobaaGreatDoor
open Go.RowKit Go.Sort Forest
theorem Nr.at {w:World}{v:Value}{rs:List (Nd×Value×Value)}(h:Nr w v rs)(hne:0<rs.length): ∃q c cur,v = .slice (some ⟨q,0,none⟩) rs.length c∧Bk 31 w q cur∧rs.length≤c∧cur.size=c*15∧cur.toList.take (rs.length*15)=rs.flatMap nodeC∧∀j u,(rs.flatMap nodeC)[j]?=some u→w.cell? ⟨q,j,none⟩=some u:=by
 rcases h.1.2 with ⟨_,h0⟩ | ⟨q,cap,cur,rfl,_,hb,hc,_,hs,ht⟩
 ·omega
 ·refine⟨q,cap,cur,rfl,hb,hc,hs,ht,fun j u hu=>?_⟩
  rw [blk_cell hb]
  rw [← ht,List.getElem?_take] at hu
  split at hu
  ·simpa using hu
  ·cases hu
end Go.Proofs.YthogppennalobaaGreatDoor
namespace Go.Proofs.YthogppennalobaaGreatDoor
open Go.RowKit Go.Sort Forest OwnR TxO
theorem cells_other (g:Nat): ∀(vs:List Value) (o:Nat) (w:World) {i:Nat},i≠g→(w.setCells g o vs).heap[i]?=w.heap[i]?
 |[],_,_,_,_=>rfl
 |v::r,o,w,i,h=>(cells_other g r (o+1) _ h).trans (heap_setCell_other w ⟨g,o,none⟩ i v h)
theorem Tx.cells {W:World}{v:Value}{l:List Bs}{b o:Nat}{t:TypeId}{cs:Array Value}{vs:List Value}(h:Tx W v l)(hb:Bk t W b cs)(ht:t≠9): Tx (W.setCells b o vs) v l:=
 owns_of h fun g hg hl=>cells_other b vs o W (fun e=>owns_ne h hb ht (by rw [hg];exact congrArg some e))
end Go.Proofs.YthogppennalobaaGreatDoor
namespace Go.Proofs.YthogppennalobaaGreatDoor
open Go.RowKit Go.Sort Forest
def Kin (rs' rs:List (Nd×Value×Value)): Prop:=∀r∈rs',∃z∈rs,z.2=r.2
theorem Kin.refl (rs:List (Nd×Value×Value)): Kin rs rs:=fun r hr=>⟨r,hr,rfl⟩
theorem Kin.trans {a b c:List (Nd×Value×Value)}(h:Kin a b)(k:Kin b c): Kin a c:=fun r hr=>by
 obtain⟨z,hz,e⟩:=h r hr
 obtain⟨y,hy,e2⟩:=k z hz
 exact⟨y,hy,e2.trans e⟩
theorem Kin.set {rs:List (Nd×Value×Value)}{n m:Nd}{sv av:Value}(h:(n,sv,av)∈rs)(i:Nat): Kin (rs.set i (m,sv,av)) rs:=fun r hr=>by
 rcases List.mem_or_eq_of_mem_set hr with h1 | h1
 ·exact⟨r,h1,rfl⟩
 ·exact⟨_,h,by rw [h1]⟩
def Rends (w:World)(f:Nat)(rs:List (Nd×Value×Value))(r:Value)(l:List Nd)(nx:Int)(e:Ending)(w':World): Prop:=e = .returned r∧∃rs',nds rs'=l∧Xr w' f rs' nx∧Only [f] w w'∧Kin rs' rs
end Go.Proofs.YthogppennalobaaGreatDoor
namespace Go.Proofs.YthogppennalobaaGreatDoor
open Go.RowKit Go.Sort Forest OwnR TxO Pl
section
variable {Q:Exit→Act→World→Prop} {K:Act→World→Prop} {T:Array Value} {ds:List Deferred} {w:World} {ty:TypeId} {dst:Option Tmp} {s:Nat} {ps:String} {af:Array Edge} {g:Option (Nat×Bool)}
end
end Go.Proofs.YthogppennalobaaGreatDoor
namespace Go.Proofs.YthogppennalobaaGreatDoor
open Go.RowKit Go.Sort Forest OwnR TxO
def GotS (rs:List (Nd×Value×Value))(s:Bs)(e:Ending): Prop:=(e = .returned (.tuple #[.agg zeroN,.bool false])∧(nds rs).find? (fun n=>n.secret == s)=none)∨∃r∈rs,(nds rs).find? (fun n=>n.secret == s)=some r.1∧e = .returned (.tuple #[.agg (nodeC r).toArray,.bool true])
theorem find_at {l:List Nd}{s:Bs}{i:Nat}(hi:i<l.length)(h:∀j (hj:j<l.length),j<i→l[j].secret≠s)(he:l[i].secret=s): l.find? (fun n=>n.secret == s)=some l[i]:=by
 rw [List.find?_eq_some_iff_getElem]
 exact⟨by simpa using he,i,hi,rfl,fun j hj=>by simpa using h j (by omega) hj⟩
set_option maxHeartbeats 8000000 in
theorem rfind_any {w:World}{f:Nat}{rs:List (Nd×Value×Value)}{nx:Int}(h:Xr w f rs nx)(hl:rs.length≤1000000)(s:Bs): Calls Tryz.prog 37 #[kpt f,.string ⟨s.toArray⟩] w fun e w'=>GotS rs s e∧Below w.heap.size w w':=by
 have HZ0:Bk 31 (w.alloc (.cells zeroN 31)) w.heap.size zeroN:=Bk.new rfl
 have HB0:Below w.heap.size w (w.alloc (.cells zeroN 31)):=by go_grown
 obtain⟨v,h1,h2⟩:=h.below HB0
 obtain⟨a,c,rfl⟩:=h2.shape
 have d0:(w.alloc (.cells zeroN 31)).cell? ⟨f,0,none⟩=some (.slice a rs.length c):=h1.cell 0
 have HN:=Lib.hid h2
 have HZ:=Lib.hid HZ0
 have HB:=Lib.hid HB0
 obtain⟨g,hg⟩:∃g,g=w.heap.size:=⟨_,rfl⟩
 have HG:=Lib.hid hg
 clear HZ0 HB0 h h1 h2
 unfold kpt
 unfold zeroN at d0
 go_enter Tryz.func37,Tryz.ntmps37
 go_wp2_with fail
 rw [← hg] at HZ ⊢
 clear hg
 obtain⟨w1,hw1⟩:∃z,z=w.alloc (.cells zeroN 31):=⟨_,rfl⟩
 have hw1':w1=w.alloc (.cells #[.int .i64 0,.int .i64 0,.int .i64 0,.string ⟨#[]⟩,.string ⟨#[]⟩,.string ⟨#[]⟩,.slice none 0 0,.int .i64 0,.int .i64 0,.bool false,.bool false,.slice none 0 0,.int .i64 0,.string ⟨#[]⟩,.string ⟨#[]⟩] 31):=hw1
 rw [← hw1'] at d0 ⊢
 rw [← hw1] at HN HZ HB
 clear hw1 hw1'
 go_loopw [6] (fun iv wr=>∃i:Nat,i≤rs.length∧iv = .int .i64 (i:Int)∧wr=w1∧Hid (∀j (hj:j<(nds rs).length),j<i→(nds rs)[j].secret≠s)) (fun iv _=>rs.length - (intOf iv).toNat)
 case atStart=>exact⟨0,Nat.zero_le _,rfl,rfl,Lib.hid fun j _ h=>by omega⟩
 case round=>
  obtain⟨i,hi,rfl,rfl,HI⟩:=hrel
  by_cases hlt:i<rs.length
  ·have hltI:(i:Int)<(rs.length:Int):=by omega
   have hln:i<(nds rs).length:=by simpa [nds] using hlt
   obtain⟨⟨n,sv,av⟩,hz⟩:∃z,rs[i]'hlt=z:=⟨_,rfl⟩
   have HZZ:Hid ((n,sv,av)∈rs):=Lib.hid (hz▸List.getElem_mem hlt)
   have HNI:Hid ((nds rs)[i]=n):=Lib.hid (by simp [nds,hz])
   obtain⟨t1,t2⟩:=HN.out.2 _ HZZ.out
   obtain⟨sa,sc,e1⟩:=owns_shape t1
   obtain⟨aa,ac,e2⟩:=owns_shape t2
   dsimp only at e1 e2
   subst e1 e2
   obtain⟨q,rfl,hc⟩:=HN.out.cell hlt
   have c0:wr.cell? ⟨q,i*15,none⟩=some (.int .i64 (n.id:Int)):=by have:=hc 0 (by omega);rwa [hz] at this
   have c1:wr.cell? ⟨q,i*15+1,none⟩=some (.int .i64 n.kind):=by have:=hc 1 (by omega);rwa [hz] at this
   have c2:wr.cell? ⟨q,i*15+2,none⟩=some (.int .i64 (n.parent:Int)):=by have:=hc 2 (by omega);rwa [hz] at this
   have c3:wr.cell? ⟨q,i*15+3,none⟩=some (.string ⟨n.subject.toArray⟩):=by have:=hc 3 (by omega);rwa [hz] at this
   have c4:wr.cell? ⟨q,i*15+4,none⟩=some (.string ⟨n.client.toArray⟩):=by have:=hc 4 (by omega);rwa [hz] at this
   have c5:wr.cell? ⟨q,i*15+5,none⟩=some (.string ⟨n.audience.toArray⟩):=by have:=hc 5 (by omega);rwa [hz] at this
   have c6:wr.cell? ⟨q,i*15+6,none⟩=some (.slice sa n.scope.length sc):=by have:=hc 6 (by omega);rwa [hz] at this
   have c7:wr.cell? ⟨q,i*15+7,none⟩=some (.int .i64 n.born):=by have:=hc 7 (by omega);rwa [hz] at this
   have c8:wr.cell? ⟨q,i*15+8,none⟩=some (.int .i64 n.exp):=by have:=hc 8 (by omega);rwa [hz] at this
   have c9:wr.cell? ⟨q,i*15+9,none⟩=some (.bool n.dead):=by have:=hc 9 (by omega);rwa [hz] at this
   have c10:wr.cell? ⟨q,i*15+10,none⟩=some (.bool n.spent):=by have:=hc 10 (by omega);rwa [hz] at this
   have c11:wr.cell? ⟨q,i*15+11,none⟩=some (.slice aa n.actors.length ac):=by have:=hc 11 (by omega);rwa [hz] at this
   have c12:wr.cell? ⟨q,i*15+12,none⟩=some (.int .i64 n.level):=by have:=hc 12 (by omega);rwa [hz] at this
   have c13:wr.cell? ⟨q,i*15+13,none⟩=some (.string ⟨n.secret.toArray⟩):=by have:=hc 13 (by omega);rwa [hz] at this
   have c14:wr.cell? ⟨q,i*15+14,none⟩=some (.string ⟨n.data.toArray⟩):=by have:=hc 14 (by omega);rwa [hz] at this
   clear hc t1 t2 hz
   by_cases he:n.secret=s
   ·have HF:Hid ((nds rs).find? (fun n=>n.secret == s)=some n):=Lib.hid (by
     have:=find_at hln HI.out (by rw [HNI.out];exact he)
     rwa [HNI.out] at this)
    have heb:(n.secret == s)=true:=by simpa using he
    clear he
    go_wp2_with (refine wpList_put rfl 31 _ _ rfl g zeroN _ rfl rfl HZ.out i31 rfl (one15 (n.id:Int) (n.parent:Int) n sa aa _ sc _ ac) ?_)
    refine ret_cellN rfl g _ (.bool true) rfl rfl (Bk.row HZ.out) rfl rfl ?_
    exact⟨.inr ⟨_,HZZ.out,HF.out,rfl⟩,below_row HB.out (Nat.le_of_eq HG.out.symm)⟩
   ·have HJ:Hid (∀j (hj:j<(nds rs).length),j<i+1→(nds rs)[j].secret≠s):=Lib.hid (fun j hj h=>by
     by_cases e:j=i
     ·subst e;rw [HNI.out];exact he
     ·exact HI.out j hj (by omega))
    have heb:(n.secret == s)=false:=by simpa using he
    clear he
    go_wp2_with fail
    go_roundw
    case rel=>exact⟨i+1,by omega,by go_num,trivial,HJ⟩
    case measure=>simp [intOf];omega
  ·have hltI:¬(i:Int)<(rs.length:Int):=by omega
   have HF:Hid ((nds rs).find? (fun n=>n.secret == s)=none):=Lib.hid (by
    rw [List.find?_eq_none]
    intro n hn
    obtain⟨j,hj,rfl⟩:=List.getElem_of_mem hn
    simpa using HI.out j hj (by
     have:(nds rs).length=rs.length:=by simp [nds]
     omega))
   go_wp2_with (refine wpList_put rfl 31 _ _ rfl g zeroN zeroN rfl rfl HZ.out i31 rfl (one15 0 0 ⟨0,0,0,[],[],[],[],0,0,false,false,[],0,[],[]⟩ none none 0 0 0 0) ?_)
   refine ret_cellN rfl g zeroN (.bool false) rfl rfl (Bk.row HZ.out) rfl rfl ?_
   exact⟨.inl ⟨rfl,HF.out⟩,below_row HB.out (Nat.le_of_eq HG.out.symm)⟩
end Go.Proofs.YthogppennalobaaGreatDoor
namespace Go.Proofs.YthogppennalobaaGreatDoor
open Go.RowKit Go.Sort Forest OwnR TxO Pl
structure PlR (w:World)(f:Nat)(rs:List (Nd×Value×Value))(nx:Int)(sl:Value)(b:Nat)(cs:Array Value)(b1 b6 b8 b9 b12:Bool)(y1 y6 y8 y9:Value)(W:World): Prop where
 only:Only [f] w W
 box:Bk 31 W b cs
 obj:Bk 40 W f #[if b12 then y9 else sl,.int .i64 nx]
 below:b12=false→Below w.heap.size w W
 r1:b1=true→b6=false→Lw 31 15 w W y1 0 []
 r6:b6=true→b9=false→Lw 31 15 w W y6 rs.length (rs.flatMap nodeC)
 n8:b8=true→∃q,y8 = .slice (some ⟨q,0,none⟩) 1 1∧w.heap.size≤q∧(b9=false→Bk 31 W q cs)∧(b1=true→b6=false→y1.ownBlock≠some q)∧(b6=true→b9=false→y6.ownBlock≠some q)
 r9:b9=true→W.ownsRow 0 31 15 y9 (rs.length+1) (rs.flatMap nodeC++cs.toList)
theorem Lw.alloc {e:TypeId}{z n:Nat}{w0 W:World}{v:Value}{xs:List Value}(h:Lw e z w0 W v n xs)(o:Obj): Lw e z w0 (W.alloc o) v n xs:=h.down (by go_grown)
theorem Lw.lt {e:TypeId}{z n:Nat}{w0 W:World}{v:Value}{xs:List Value}(h:Lw e z w0 W v n xs){k:Nat}(hk:v.ownBlock=some k): k<W.heap.size:=by
 obtain⟨_,cur,hb⟩:=owns_block h.1 hk
 exact hb.lt
def Kn (w:World)(rs' rs:List (Nd×Value×Value)): Prop:=∀r∈rs',(∃z∈rs,z.2=r.2)∨∀q,r.2.1.ownBlock=some q∨r.2.2.ownBlock=some q→w.heap.size≤q
theorem Nr.only {w w':World}{v:Value}{rs:List (Nd×Value×Value)}{f:Nat}{t:TypeId}{cs:Array Value}(h:Nr w v rs)(ho:Only [f] w w')(hf:Bk t w f cs)(h1:t≠31)(h2:t≠9): Nr w' v rs:=
 ⟨owns_only h.1 ho fun g hg hq=>by rw [List.mem_singleton] at hq;subst hq;exact owns_ne h.1 hf h1 hg,fun r hr=>⟨(h.2 r hr).1.only ho fun g hg hq=>by rw [List.mem_singleton] at hq;subst hq;exact owns_ne (h.2 r hr).1 hf h2 hg,(h.2 r hr).2.only ho fun g hg hq=>by rw [List.mem_singleton] at hq;subst hq;exact owns_ne (h.2 r hr).2 hf h2 hg⟩⟩
section
variable {w:World} {f:Nat} {rs:List (Nd×Value×Value)} {nx:Int} {a:Option Addr} {c b:Nat} {cs:Array Value} (hob:Bk 40 w f #[.slice a rs.length c,.int .i64 nx]) (hn:Nr w (.slice a rs.length c) rs) (hl:rs.length≤1000000) (hbx:Bk 31 w b cs) (h15:cs.size=15) (hone:∀u∈cs.toList,u.oneCell'=true)
include hob hbx in
end
theorem Rd.stay {w w1 w2:World}{v:Value}{l:List Bs}{g:Nat}(h1:Rd w1 v l)(h:Rd w v l)(hg:g=w.heap.size)(ho:Only [g] w1 w2): Rd w2 v l:=by
 obtain⟨a,c,rfl,hc⟩:=h
 obtain⟨a1,c1,e1,hc1⟩:=h1
 cases e1
 exact⟨a,c,rfl,fun i hi=>by
  obtain⟨b,o,rfl,h2⟩:=hc i hi
  obtain⟨b1,o1,e1,h3⟩:=hc1 i hi
  cases e1
  refine⟨b,o,rfl,cell_only ho h3 ?_⟩
  have:=block_lt_of_cell h2
  rw [List.mem_singleton]
  show b≠g
  have:b<w.heap.size:=this
  omega⟩
theorem Kn.of {w:World}{rs' rs:List (Nd×Value×Value)}(h:Kin rs' rs): Kn w rs' rs:=fun r hr=> .inl (h r hr)
end Go.Proofs.YthogppennalobaaGreatDoor
namespace Go.Proofs.YthogppennalobaaGreatDoor
open Go.RowKit Go.Sort Forest
end Go.Proofs.YthogppennalobaaGreatDoor
