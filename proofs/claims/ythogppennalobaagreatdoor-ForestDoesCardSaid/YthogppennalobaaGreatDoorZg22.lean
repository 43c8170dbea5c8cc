/- the document: its forest, at the document: Get the document: Path the document: hangs, struck the document: Live the document: rows of nodes, changed the document: set -/
import Derived.Test.YthogppennalobaaGreatDoorZg15
import Derived.Test.YthogppennalobaaGreatDoorZg07
import Derived.Deep.MidRow
import Derived.Test.YthogppennalobaaGreatDoorZg04
import Derived.Test.YthogppennalobaaGreatDoorZg09
set_option linter.unusedVariables false
set_option linter.unusedSimpArgs false
set_option maxRecDepth 100000
namespace Go.Proofs.YthogppennalobaaGreatDoor
open Go.RowKit Go.Sort Forest OwnR TxO
def Xr (w:World)(f:Nat)(rs:List (Nd×Value×Value))(nx:Int): Prop:=∃v,Bk 40 w f #[v,.int .i64 nx]∧Nr w v rs
def nds (rs:List (Nd×Value×Value)): List Nd:=rs.map (·.1)
theorem Xr.below {w w':World}{f:Nat}{rs:List (Nd×Value×Value)}{nx:Int}(h:Xr w f rs nx)(hb:Below w.heap.size w w'): Xr w' f rs nx:=by
 obtain⟨v,h1,h2⟩:=h
 exact⟨v,h1.below hb,h2.below hb⟩
theorem flat_get {rs:List (Nd×Value×Value)}: ∀ {i:Nat} (hi:i<rs.length) (j:Nat),j<15→(rs.flatMap nodeC)[i*15+j]?=(nodeC rs[i])[j]?:=by
 induction rs with
 |nil=>intro i hi;cases hi
 |cons r rs ih=>
  intro i hi j hj
  have h15:(nodeC r).length=15:=rfl
  match i with
  |0=>
   rw [List.flatMap_cons,List.getElem?_append_left (by rw [h15];omega)]
   simp
  |i+1=>
   rw [List.flatMap_cons,List.getElem?_append_right (by rw [h15];omega),h15,show(i+1)*15+j - 15=i*15+j by omega]
   exact ih (by simpa using hi) j hj
theorem Nr.cell {w:World}{a:Option Addr}{m c:Nat}{rs:List (Nd×Value×Value)}(h:Nr w (.slice a m c) rs){i:Nat}(hi:i<rs.length): ∃q,a=some ⟨q,0,none⟩∧∀j,j<15→w.cell? ⟨q,i*15+j,none⟩=(nodeC rs[i])[j]?:=by
 rcases h.1.2 with ⟨_,h0⟩ | ⟨q,cap,cur,e,_,hb,_,_,hs,ht⟩
 ·omega
 ·rw [Value.slice.injEq] at e
  refine⟨q,e.1,fun j hj=>?_⟩
  rw [blk_cell hb,← flat_get hi j hj,← ht,List.getElem?_take,if_pos (by have:=Nat.mul_le_mul_right 15 (show i+1≤rs.length from hi);omega)]
  simp
theorem Nr.shape {w:World}{v:Value}{rs:List (Nd×Value×Value)}(h:Nr w v rs): ∃a c,v = .slice a rs.length c:=owns_shape h.1
def At (l:List Nd)(x r:Int): Prop:=(r = -1∧∀n∈l,(n.id:Int)≠x)∨∃(i:Nat) (h:i<l.length),r=(i:Int)∧(l[i].id:Int)=x
set_option maxHeartbeats 2000000 in
theorem rat_any {w:World}{f:Nat}{rs:List (Nd×Value×Value)}{nx:Int}(h:Xr w f rs nx)(hl:rs.length≤1000000)(x:Int): Calls Tryz.prog 74 #[kpt f,.int .i64 x] w fun e w'=>∃r,e = .returned (.int .i64 r)∧w'=w∧At (nds rs) x r:=by
 obtain⟨v,h1,h2⟩:=h
 obtain⟨a,c,rfl⟩:=h2.shape
 have c0:w.cell? ⟨f,0,none⟩=some (.slice a rs.length c):=h1.cell 0
 have HN:=Lib.hid h2
 clear h1 h2
 unfold kpt
 go_enter Tryz.func74,Tryz.ntmps74
 go_wp2_with fail
 go_loopw [5] (fun iv wr=>∃i:Nat,i≤rs.length∧iv = .int .i64 (i:Int)∧wr=w∧Hid (∀j (hj:j<rs.length),j<i→(rs[j].1.id:Int)≠x)) (fun iv _=>rs.length - (intOf iv).toNat)
 case atStart=>exact⟨0,Nat.zero_le _,rfl,rfl,Lib.hid fun j _ h=>by omega⟩
 case round=>
  obtain⟨i,hi,rfl,rfl,HI⟩:=hrel
  by_cases hlt:i<rs.length
  ·have hltI:(i:Int)<(rs.length:Int):=by omega
   obtain⟨q,rfl,hc⟩:=HN.out.cell hlt
   have c1:=hc 0 (by omega)
   obtain⟨z,hz⟩:∃z,(rs[i]'hlt).1.id=z:=⟨_,rfl⟩
   have c2:wr.cell? ⟨q,i*15,none⟩=some (.int .i64 (z:Int)):=by rw [← hz];exact c1
   have HZ:=Lib.hid hz
   clear hc c1 hz
   by_cases he:(z:Int)=x
   ·have HR:Hid (At (nds rs) x (i:Int)):=Lib.hid (.inr ⟨i,by simpa [nds] using hlt,rfl,by simp only [nds,List.getElem_map];rw [HZ.out];exact he⟩)
    go_wp2_with fail
    go_returns
    exact⟨_,rfl,rfl,HR.out⟩
   ·have HJ:Hid (∀j (hj:j<rs.length),j<i+1→(rs[j].1.id:Int)≠x):=Lib.hid (fun j hj h=>by
     by_cases e:j=i
     ·subst e;rw [HZ.out];exact he
     ·exact HI.out j hj (by omega))
    go_wp2_with fail
    go_roundw
    case rel=>exact⟨i+1,by omega,by go_num,trivial,HJ⟩
    case measure=>simp [intOf];omega
  ·have hltI:¬(i:Int)<(rs.length:Int):=by omega
   have HR:Hid (At (nds rs) x (-1)):=Lib.hid (.inl ⟨rfl,fun n hn=>by
    obtain⟨r,hr,rfl⟩:=List.mem_map.1 hn
    obtain⟨j,hj,rfl⟩:=List.getElem_of_mem hr
    exact HI.out j hj (by omega)⟩)
   go_wp2_with fail
   go_returns
   exact⟨_,rfl,rfl,HR.out⟩
def GotP (rs:List (Nd×Value×Value))(x:Int)(e:Ending): Prop:=(e = .returned (.tuple #[.agg zeroN,.bool false])∧∀n∈nds rs,(n.id:Int)≠x)∨∃(i:Nat) (h:i<rs.length),(rs[i].1.id:Int)=x∧e = .returned (.tuple #[.agg (nodeC rs[i]).toArray,.bool true])
set_option maxHeartbeats 4000000 in
theorem rget_any {w:World}{f:Nat}{rs:List (Nd×Value×Value)}{nx:Int}(h:Xr w f rs nx)(hl:rs.length≤1000000)(x:Int): Calls Tryz.prog 35 #[kpt f,.int .i64 x] w fun e w'=>GotP rs x e∧Below w.heap.size w w':=by
 have HZ0:Bk 31 (w.alloc (.cells zeroN 31)) w.heap.size zeroN:=Bk.new rfl
 have HB0:Below w.heap.size w (w.alloc (.cells zeroN 31)):=by go_grown
 have HX:=Lib.hid (h.below HB0)
 have HA:=Lib.hid (rat_any (h.below HB0) hl x)
 have HZ:=Lib.hid HZ0
 have HB:=Lib.hid HB0
 obtain⟨g,hg⟩:∃g,g=w.heap.size:=⟨_,rfl⟩
 have HG:=Lib.hid hg
 clear HZ0 HB0 h
 unfold kpt at *
 unfold zeroN at HA
 go_enter Tryz.func35,Tryz.ntmps35
 go_wp2_with fail
 rw [← hg] at HZ ⊢
 clear hg
 refine HA.out.mono ?_
 rintro e w2 ⟨r,rfl,hw,ha⟩
 replace hw:=hw.symm
 subst hw
 obtain⟨w1,hw1⟩:∃z,z=w.alloc (.cells zeroN 31):=⟨_,rfl⟩
 have hw1':w1=w.alloc (.cells #[.int .i64 0,.int .i64 0,.int .i64 0,.string ⟨#[]⟩,.string ⟨#[]⟩,.string ⟨#[]⟩,.slice none 0 0,.int .i64 0,.int .i64 0,.bool false,.bool false,.slice none 0 0,.int .i64 0,.string ⟨#[]⟩,.string ⟨#[]⟩] 31):=hw1
 rw [← hw1'] at ⊢
 rw [← hw1] at HX HZ HB
 clear hw1 hw1' HA
 rcases ha with ⟨rfl,hn⟩ | ⟨i,hi,rfl,hx⟩
 ·have HN:=Lib.hid hn
  clear hn
  go_wp2_with (refine wpList_put rfl 31 _ _ rfl g zeroN zeroN rfl rfl HZ.out i31 rfl (one15 0 0 ⟨0,0,0,[],[],[],[],0,0,false,false,[],0,[],[]⟩ none none 0 0 0 0) ?_)
  refine ret_cellN rfl g zeroN (.bool false) rfl rfl (Bk.row HZ.out) rfl rfl ?_
  exact⟨.inl ⟨rfl,HN.out⟩,below_row HB.out (Nat.le_of_eq HG.out.symm)⟩
 ·have hi2:i<rs.length:=by simpa [nds] using hi
  obtain⟨⟨n,sv,av⟩,hz⟩:∃z,rs[i]'hi2=z:=⟨_,rfl⟩
  have HE:Hid (((rs[i]'hi2).1.id:Int)=x):=Lib.hid (by simpa [nds] using hx)
  have HZZ:=Lib.hid hz
  obtain⟨v,h1,h2⟩:=HX.out
  obtain⟨t1,t2⟩:=h2.2 _ (List.getElem_mem hi2)
  rw [hz] at t1 t2
  obtain⟨sa,sc,e1⟩:=owns_shape t1
  obtain⟨aa,ac,e2⟩:=owns_shape t2
  dsimp only at e1 e2
  subst e1 e2
  obtain⟨a,c,rfl⟩:=h2.shape
  have d0:w1.cell? ⟨f,0,none⟩=some (.slice a rs.length c):=h1.cell 0
  obtain⟨q,rfl,hc⟩:=h2.cell hi2
  have c0:w1.cell? ⟨q,i*15,none⟩=some (.int .i64 (n.id:Int)):=by have:=hc 0 (by omega);rwa [hz] at this
  have c1:w1.cell? ⟨q,i*15+1,none⟩=some (.int .i64 n.kind):=by have:=hc 1 (by omega);rwa [hz] at this
  have c2:w1.cell? ⟨q,i*15+2,none⟩=some (.int .i64 (n.parent:Int)):=by have:=hc 2 (by omega);rwa [hz] at this
  have c3:w1.cell? ⟨q,i*15+3,none⟩=some (.string ⟨n.subject.toArray⟩):=by have:=hc 3 (by omega);rwa [hz] at this
  have c4:w1.cell? ⟨q,i*15+4,none⟩=some (.string ⟨n.client.toArray⟩):=by have:=hc 4 (by omega);rwa [hz] at this
  have c5:w1.cell? ⟨q,i*15+5,none⟩=some (.string ⟨n.audience.toArray⟩):=by have:=hc 5 (by omega);rwa [hz] at this
  have c6:w1.cell? ⟨q,i*15+6,none⟩=some (.slice sa n.scope.length sc):=by have:=hc 6 (by omega);rwa [hz] at this
  have c7:w1.cell? ⟨q,i*15+7,none⟩=some (.int .i64 n.born):=by have:=hc 7 (by omega);rwa [hz] at this
  have c8:w1.cell? ⟨q,i*15+8,none⟩=some (.int .i64 n.exp):=by have:=hc 8 (by omega);rwa [hz] at this
  have c9:w1.cell? ⟨q,i*15+9,none⟩=some (.bool n.dead):=by have:=hc 9 (by omega);rwa [hz] at this
  have c10:w1.cell? ⟨q,i*15+10,none⟩=some (.bool n.spent):=by have:=hc 10 (by omega);rwa [hz] at this
  have c11:w1.cell? ⟨q,i*15+11,none⟩=some (.slice aa n.actors.length ac):=by have:=hc 11 (by omega);rwa [hz] at this
  have c12:w1.cell? ⟨q,i*15+12,none⟩=some (.int .i64 n.level):=by have:=hc 12 (by omega);rwa [hz] at this
  have c13:w1.cell? ⟨q,i*15+13,none⟩=some (.string ⟨n.secret.toArray⟩):=by have:=hc 13 (by omega);rwa [hz] at this
  have c14:w1.cell? ⟨q,i*15+14,none⟩=some (.string ⟨n.data.toArray⟩):=by have:=hc 14 (by omega);rwa [hz] at this
  have hiI:(i:Int)<(rs.length:Int):=by omega
  have hi0:¬(i:Int)<0:=by omega
  clear hc h1 h2 t1 t2 hz hi hx HX
  go_wp2_with (refine wpList_put rfl 31 _ _ rfl g zeroN _ rfl rfl HZ.out i31 rfl (one15 (n.id:Int) (n.parent:Int) n sa aa _ sc _ ac) ?_)
  refine ret_cellN rfl g _ (.bool true) rfl rfl (Bk.row HZ.out) rfl rfl ?_
  exact⟨.inr ⟨i,hi2,HE.out,by rw [HZZ.out];rfl⟩,below_row HB.out (Nat.le_of_eq HG.out.symm)⟩
end Go.Proofs.YthogppennalobaaGreatDoor
namespace Go.Proofs.YthogppennalobaaGreatDoor
open Go.RowKit Go.Sort Forest
open Go.Lib renaming hid→Φ
theorem At.none {l:List Nd}{x:Int}(h:At l x (-1)): findI l x=none∧∀m:Nat,(m:Int)=x→at' l m=none:=by
 have hn:∀n∈l,(n.id:Int)≠x:=by
  rcases h with ⟨_,h⟩ | ⟨i,_,e,_⟩
  ·exact h
  ·omega
 refine⟨List.find?_eq_none.2 fun n hn2=>by simpa using hn n hn2,fun m e=>List.find?_eq_none.2 fun n hn2=>?_⟩
 have:=hn n hn2
 simp
 omega
theorem At.some {l:List Nd}(hO:Ok l){x:Int}{i:Nat}(h:At l x (i:Int)): ∃hi:i<l.length,(l[i].id:Int)=x∧findI l x=some l[i]∧∀m:Nat,(m:Int)=x→path l m=l[i]::path l l[i].parent:=by
 rcases h with ⟨e,_⟩ | ⟨j,hj,e,hx⟩
 ·omega
 ·obtain rfl:i=j:=by omega
  refine⟨hj,hx,?_,fun m e=>?_⟩
  ·cases hf:findI l x with
   |none=>have:=List.find?_eq_none.1 hf _ (List.getElem_mem hj);simp at this;omega
   |some n=>
    have h1:=List.find?_some hf
    simp at h1
    have h2:n.id=l[i].id:=by omega
    rw [hO.same (List.mem_of_find?_eq_some hf) (List.getElem_mem hj) h2]
  ·obtain rfl:m=l[i].id:=by omega
   exact path_some hO (List.getElem_mem hj)
theorem At.cases {l:List Nd}{x r:Int}(h:At l x r): r = -1∨∃i:Nat,r=(i:Int):=by
 rcases h with ⟨e,_⟩ | ⟨i,_,e,_⟩
 ·exact .inl e
 ·exact .inr ⟨i,e⟩
set_option maxHeartbeats 4000000 in
theorem rpath_any {w:World}{f:Nat}{rs:List (Nd×Value×Value)}{nx:Int}(h:Xr w f rs nx)(hO:Ok (nds rs))(hl:rs.length≤1000000)(x:Int): Calls Tryz.prog 41 #[kpt f,.int .i64 x] w fun e w'=>∃v,e = .returned v∧Lw 3 1 w w' v (pathI (nds rs) x).length ((pathI (nds rs) x).map idV):=by
 have HA:=Φ (fun W (hb:Below w.heap.size w W) (y:Int)=>rat_any (h.below hb) hl y)
 have HO:=Φ hO
 obtain⟨v,h1,h2⟩:=h
 obtain⟨a,c,rfl⟩:=h2.shape
 have HD:Hid (∀W,Below w.heap.size w W→W.cell? ⟨f,0,none⟩=some (.slice a rs.length c)):=Φ fun W hb=>cell_below hb (h1.cell 0)
 have HN:=Φ h2
 have HLn:Hid (∀m,(path (nds rs) m).length≤1000000):=Φ fun m=>Nat.le_trans (path_len hO m) (by simpa [nds] using hl)
 have HL:=Φ hl
 clear h1 h2 hO
 obtain⟨R,hR⟩:∃R,R=pathI (nds rs) x:=⟨_,rfl⟩
 rw [← hR]
 have HR0:=Φ hR
 clear hR
 unfold kpt
 go_enter Tryz.func41,Tryz.ntmps41
 go_wp2_with fail
 have hb0:Below w.heap.size w (w.alloc (.cells #[] 3)):=by go_grown
 have HE:=Φ (Lw.empty 3 1 (Below.refl w.heap.size w))
 refine(HA.out _ hb0 x).mono ?_
 rintro e w1 ⟨r,rfl,hw,ha⟩
 replace hw:=hw.symm
 subst hw
 obtain⟨m0,hm0,ha0⟩:∃m0:Nat,pathI (nds rs) x=path (nds rs) m0∧At (nds rs) (m0:Int) r:=by
  rcases ha.cases with rfl | ⟨i,rfl⟩
  ·have h0:At (nds rs) ((0:Nat):Int) (-1):= .inl ⟨rfl,fun n hn=>by have:=(HO.out.mem hn).1;omega⟩
   exact⟨0,by unfold pathI;rw [ha.none.1,path_none (h0.none.2 0 rfl)],h0⟩
  ·obtain⟨hi,hx,hf,_⟩:=ha.some HO.out
   exact⟨(nds rs)[i].id,by unfold pathI;rw [hf],by rw [hx];exact ha⟩
 have HA0:=Φ ha0
 have HM0:Hid (R=path (nds rs) m0):=Φ (HR0.out.trans hm0)
 clear ha ha0 hm0 hb0 HR0
 go_wp2_with fail
 go_loopg [5,6] (m0+1) (fun gg rv pv wr=>∃(m:Nat) (done:List Nd) (r:Int),m+1≤gg∧pv = .int .i64 r∧Hid (At (nds rs) (m:Int) r)∧Hid (path (nds rs) m0=done++path (nds rs) m)∧Hid (Lw 3 1 w wr rv done.length (done.map idV)))
 case atStart=>exact⟨m0,[],r,Nat.le_refl _,rfl,HA0,Φ rfl,HE⟩
 case round=>
  obtain⟨m,done,r,hm,rfl,HAt,HP,HI⟩:=hrel
  have hr:=HAt.out.cases
  by_cases h0:0≤r
  ·obtain⟨i,rfl⟩:∃i:Nat,r=(i:Int):=⟨r.toNat,by omega⟩
   obtain⟨hi,hx,hff,hpp⟩:=HAt.out.some HO.out
   have hi2:i<rs.length:=by simpa [nds] using hi
   obtain⟨n,hn⟩:∃n,(nds rs)[i]'hi=n:=⟨_,rfl⟩
   have hnm:n∈nds rs:=hn▸List.getElem_mem hi
   rw [hn] at hx hpp
   clear hff
   obtain⟨q,rfl,hc⟩:=HN.out.cell hi2
   have hrn:(rs[i]'hi2).1=n:=by rw [← hn];simp [nds]
   have hb1:=HI.out.2.1
   have c0:wr.cell? ⟨q,i*15,none⟩=some (.int .i64 (n.id:Int)):=cell_below hb1 (by have:=hc 0 (by omega);rw [Nat.add_zero] at this;rw [this,← hrn];rfl)
   have HX:Hid (∀W,Below w.heap.size w W→W.cell? ⟨f,0,none⟩=some (.slice (some ⟨q,0,none⟩) rs.length c)∧W.cell? ⟨q,i*15+2,none⟩=some (.int .i64 (n.parent:Int))):=Φ fun W hb=>⟨HD.out W hb,cell_below hb (by rw [hc 2 (by omega),← hrn];rfl)⟩
   have d0:=HD.out wr hb1
   have hpar:=(HO.out.mem hnm).2
   have HQ:Hid (path (nds rs) m0=(done++[n])++path (nds rs) n.parent∧n.parent+1<m+1):=Φ ⟨by rw [HP.out,hpp m rfl];simp,by omega⟩
   have HDL:Hid (done.length+1≤4194304):=Φ (by
    have e1:=HLn.out m0
    rw [HP.out,List.length_append] at e1
    omega)
   have hiI:(i:Int)<(rs.length:Int):=by omega
   clear hc hrn hb1 hpp hn hnm hr hx hi
   go_wp2_with (at_builtin;refine wp_one row55 rfl _ _ rfl _ (done.map idV) wr.heap.size 1 #[.int .i64 (n.id:Int)] rfl rfl (HI.out.down (by go_grown)) (Bk.new rfl) rfl (by simp [Value.oneCell']) HDL.out (by decide) ?_;intro v' w3 hs3 hg3;have HI2:=Φ hs3;have e0:=(HX.out w3 hs3.2.1).1;have e2:=(HX.out w3 hs3.2.1).2;clear hs3 hg3)
   refine(HA.out _ HI2.out.2.1 (n.parent:Int)).mono ?_
   rintro e w4 ⟨r2,rfl,hw,ha2⟩
   replace hw:=hw.symm
   subst hw
   have HA2:=Φ ha2
   clear ha2 e0 e2 c0 d0
   go_wp2_with fail
   go_roundg (n.parent+1)
   case rel=>exact⟨n.parent,done++[n],r2,Nat.le_refl _,rfl,HA2,Φ HQ.out.1,Φ (by simpa [idV] using HI2.out)⟩
   case measure=>have:=HQ.out.2;omega
  ·have hrm:r = -1:=by rcases hr with h | ⟨i,h⟩<;>omega
   subst hrm
   have HR:Hid (path (nds rs) m0=done):=Φ (by rw [HP.out,path_none (HAt.out.none.2 m rfl)];simp)
   go_wp2_with fail
   go_returns
   refine⟨_,rfl,?_⟩
   rw [HM0.out,HR.out]
   exact HI.out
end Go.Proofs.YthogppennalobaaGreatDoor
namespace Go.Proofs.YthogppennalobaaGreatDoor
open Go.RowKit Go.Sort Forest OwnR TxO
open Go.Lib renaming hid→Φ
theorem id_inj {l:List Nd}(hO:Ok l){i j:Nat}(hi:i<l.length)(hj:j<l.length)(h:l[i].id=l[j].id): i=j:=by
 rcases Nat.lt_trichotomy i j with h1 | h1 | h1
 ·have:=ok_lt hO i j hi hj h1;omega
 ·exact h1
 ·have:=ok_lt hO j i hj hi h1;omega
theorem rget_mem {w:World}{f:Nat}{rs:List (Nd×Value×Value)}{nx:Int}(h:Xr w f rs nx)(hO:Ok (nds rs))(hl:rs.length≤1000000){n:Nd}(hn:n∈nds rs): ∃sa sc aa ac,(n,Value.slice sa n.scope.length sc,Value.slice aa n.actors.length ac)∈rs∧∀W,Below w.heap.size w W→
  Calls Tryz.prog 35 #[kpt f,.int .i64 (n.id:Int)] W fun e w'=>e = .returned (.tuple #[.agg (inC n.id n.parent n (.slice sa n.scope.length sc) (.slice aa n.actors.length ac)),.bool true])∧Below W.heap.size W w':=by
 obtain⟨r,hr,rfl⟩:=List.mem_map.1 hn
 obtain⟨i,hi,hri⟩:=List.getElem_of_mem hr
 obtain⟨v,h1,h2⟩:=h
 obtain⟨t1,t2⟩:=h2.2 r hr
 obtain⟨n,sv,av⟩:=r
 obtain⟨sa,sc,e1⟩:=owns_shape t1
 obtain⟨aa,ac,e2⟩:=owns_shape t2
 dsimp only at e1 e2
 subst e1 e2
 refine⟨sa,sc,aa,ac,hr,fun W hb=>(rget_any (Xr.below ⟨v,h1,h2⟩ hb) hl (n.id:Int)).mono ?_⟩
 rintro e w' ⟨hg,hb2⟩
 refine⟨?_,hb2⟩
 rcases hg with ⟨_,hno⟩ | ⟨j,hj,hx,rfl⟩
 ·exact absurd rfl (hno n hn)
 ·have:i=j:=by
   refine id_inj hO (by simpa [nds] using hi) (by simpa [nds] using hj) ?_
   simp only [nds,List.getElem_map]
   rw [hri]
   show n.id=_
   omega
  subst this
  rw [hri]
  rfl
theorem path_in {l:List Nd}(hO:Ok l)(x:Int): ∀n∈pathI l x,n∈l:=by
 intro n hn
 unfold pathI at hn
 split at hn
 ·cases hn
 ·exact(path_mem hO _ n hn).1
theorem pathI_len {l:List Nd}(hO:Ok l)(x:Int): (pathI l x).length≤l.length:=by
 unfold pathI
 split
 ·exact Nat.zero_le _
 ·exact path_len hO _
set_option maxHeartbeats 4000000 in
theorem rhangs_any {w:World}{f:Nat}{rs:List (Nd×Value×Value)}{nx:Int}(h:Xr w f rs nx)(hO:Ok (nds rs))(hl:rs.length≤1000000)(x y:Int): Calls Tryz.prog 80 #[kpt f,.int .i64 x,.int .i64 y] w fun e w'=>e = .returned (.bool ((pathI (nds rs) x).any fun n=>(n.id:Int) == y))∧Below w.heap.size w w':=by
 have HP:=Φ (rpath_any h hO hl x)
 obtain⟨p,hp⟩:∃p,p=pathI (nds rs) x:=⟨_,rfl⟩
 have hlen:p.length≤1000000:=by
  rw [hp]
  exact Nat.le_trans (pathI_len hO x) (by simpa [nds] using hl)
 rw [← hp] at HP ⊢
 obtain⟨R,hR⟩:∃R,R=p.any fun n=>(n.id:Int) == y:=⟨_,rfl⟩
 rw [← hR]
 have HR:=Φ hR
 clear hR hp h hO
 unfold kpt at *
 go_enter Tryz.func80,Tryz.ntmps80
 go_wp2_with fail
 refine HP.out.mono ?_
 rintro e w1 ⟨v,rfl,hL⟩
 obtain⟨a,c,rfl⟩:=hL.shape
 have HL:=Φ hL
 clear hL HP
 go_wp2_with fail
 go_loopw [8] (fun iv wr=>∃i:Nat,i≤p.length∧iv = .int .i64 (i:Int)∧wr=w1∧Hid ((p.take i).any (fun n=>(n.id:Int) == y)=false)) (fun iv _=>p.length - (intOf iv).toNat)
 case atStart=>exact⟨0,Nat.zero_le _,rfl,rfl,Φ rfl⟩
 case round=>
  obtain⟨i,hi,rfl,rfl,HI⟩:=hrel
  by_cases hlt:i<p.length
  ·have hltI:(i:Int)<(p.length:Int):=by omega
   obtain⟨n,hn⟩:∃n,p[i]'hlt=n:=⟨_,rfl⟩
   obtain⟨q,rfl,c0⟩:=owns_cell HL.out.1 (i:=i) (v:=idV n) (by rw [List.getElem?_map,List.getElem?_eq_getElem hlt,hn];rfl)
   have HT:Hid ((p.take (i+1)).any (fun n=>(n.id:Int) == y)=((p.take i).any (fun n=>(n.id:Int) == y)||((n.id:Int) == y))):=Φ (by rw [List.take_add_one,List.getElem?_eq_getElem hlt,hn,List.any_append];simp)
   have HM:Hid (n∈p):=Φ (hn▸List.getElem_mem hlt)
   clear hn
   unfold idV at c0
   by_cases he:(n.id:Int)=y
   ·have HA:Hid (R=true):=Φ (by rw [HR.out,List.any_eq_true];exact⟨n,HM.out,by simpa using he⟩)
    go_wp2_with fail
    go_ret
    exact⟨by rw [HA.out];rfl,HL.out.2.1⟩
   ·have HF:Hid (((n.id:Int) == y)=false):=Φ (by simpa using he)
    go_wp2_with fail
    go_roundw
    case rel=>exact⟨i+1,by omega,by go_num,trivial,Φ (by rw [HT.out,HI.out,HF.out];rfl)⟩
    case measure=>simp [intOf];omega
  ·have hltI:¬(i:Int)<(p.length:Int):=by omega
   have HA:Hid (R=false):=Φ (by rw [HR.out];have:=HI.out;rwa [show i=p.length by omega,List.take_length] at this)
   go_wp2_with fail
   go_ret
   exact⟨by rw [HA.out];rfl,HL.out.2.1⟩
set_option maxHeartbeats 4000000 in
theorem rstruck_any {w:World}{f:Nat}{rs:List (Nd×Value×Value)}{nx:Int}(h:Xr w f rs nx)(hO:Ok (nds rs))(hl:rs.length≤1000000)(x:Int): Calls Tryz.prog 75 #[kpt f,.int .i64 x] w fun e w'=>e = .returned (.bool ((pathI (nds rs) x).any (·.dead)))∧Below w.heap.size w w':=by
 have HP:=Φ (rpath_any h hO hl x)
 have HG:=Φ (fun n hn=>rget_mem h hO hl (n:=n) (path_in hO x n hn))
 obtain⟨p,hp⟩:∃p,p=pathI (nds rs) x:=⟨_,rfl⟩
 have hlen:p.length≤1000000:=by
  rw [hp]
  exact Nat.le_trans (pathI_len hO x) (by simpa [nds] using hl)
 rw [← hp] at HP HG ⊢
 obtain⟨R,hR⟩:∃R,R=p.any (·.dead):=⟨_,rfl⟩
 rw [← hR]
 have HR:=Φ hR
 clear hR hp h hO
 unfold kpt at *
 go_enter Tryz.func75,Tryz.ntmps75
 go_wp2_with fail
 refine HP.out.mono ?_
 rintro e w1 ⟨v,rfl,hL⟩
 obtain⟨a,c,rfl⟩:=hL.shape
 have HL:=Φ hL
 clear hL HP
 go_wp2_with fail
 go_loopw [6] (fun iv wr=>∃i:Nat,i≤p.length∧iv = .int .i64 (i:Int)∧Hid (Below w1.heap.size w1 wr)∧Hid ((p.take i).any (·.dead)=false)) (fun iv _=>p.length - (intOf iv).toNat)
 case atStart=>exact⟨0,Nat.zero_le _,rfl,Φ (Below.refl _ _),Φ rfl⟩
 case round=>
  obtain⟨i,hi,rfl,HB,HI⟩:=hrel
  by_cases hlt:i<p.length
  ·have hltI:(i:Int)<(p.length:Int):=by omega
   obtain⟨n,hn⟩:∃n,p[i]'hlt=n:=⟨_,rfl⟩
   obtain⟨q,rfl,c0⟩:=owns_cell HL.out.1 (i:=i) (v:=idV n) (by rw [List.getElem?_map,List.getElem?_eq_getElem hlt,hn];rfl)
   have c1:wr.cell? ⟨q,i,none⟩=some (.int .i64 (n.id:Int)):=cell_below HB.out c0
   have HT:Hid ((p.take (i+1)).any (·.dead)=((p.take i).any (·.dead)||n.dead)):=Φ (by rw [List.take_add_one,List.getElem?_eq_getElem hlt,hn,List.any_append];simp)
   have HM:Hid (n∈p):=Φ (hn▸List.getElem_mem hlt)
   obtain⟨sa,sc,aa,ac,_,hg⟩:=HG.out n HM.out
   have HGn:=Φ (hg wr (HL.out.2.1.trans (HB.out.mono HL.out.2.1.size)))
   unfold inC txt at HGn
   clear hn hg c0
   have blk:∀d:Bool,n.dead=d→True:=fun _ _=>trivial
   clear blk
   cases hd:n.dead with
   |true=>
    have HA:Hid (R=true):=Φ (by rw [HR.out,List.any_eq_true];exact⟨n,HM.out,hd⟩)
    rw [hd] at HGn
    clear hd
    go_wp2_with fail
    refine HGn.out.mono ?_
    rintro e w2 ⟨rfl,hb⟩
    have HB2:=Φ (HB.out.trans (hb.mono HB.out.size))
    clear hb c1 HGn
    go_wp2_with (
     refine wpList_put rfl 31 _ _ rfl w2.heap.size zeroN _ rfl rfl (Bk.new rfl) i31 rfl (one15 (n.id:Int) (n.parent:Int) {n with dead:=true} sa aa _ sc _ ac) ?_
     obtain⟨w3,hw3⟩:∃z,z=(w2.alloc (.cells zeroN 31)).setRow w2.heap.size (inC (n.id:Int) (n.parent:Int) {n with dead:=true} (.slice sa n.scope.length sc) (.slice aa n.actors.length ac)):=⟨_,rfl⟩
     unfold zeroN inC txt at hw3
     rw [← hw3]
     have c9:w3.cell? ⟨w2.heap.size,9,none⟩=some (.bool true):=by rw [hw3];exact(Bk.row (Bk.new (t:=31) rfl)).cell 9
     have HB3:Hid (Below w1.heap.size w1 w3):=Φ (by rw [hw3];exact below_row (HB2.out.trans (by have:=HB2.out.size;go_grown)) HB2.out.size)
     clear hw3)
    go_ret
    exact⟨by rw [HA.out];rfl,HL.out.2.1.trans (HB3.out.mono HL.out.2.1.size)⟩
   |false=>
    rw [hd] at HGn HT
    clear hd
    go_wp2_with fail
    refine HGn.out.mono ?_
    rintro e w2 ⟨rfl,hb⟩
    have HB2:=Φ (HB.out.trans (hb.mono HB.out.size))
    clear hb c1 HGn
    go_wp2_with (
     refine wpList_put rfl 31 _ _ rfl w2.heap.size zeroN _ rfl rfl (Bk.new rfl) i31 rfl (one15 (n.id:Int) (n.parent:Int) {n with dead:=false} sa aa _ sc _ ac) ?_
     obtain⟨w3,hw3⟩:∃z,z=(w2.alloc (.cells zeroN 31)).setRow w2.heap.size (inC (n.id:Int) (n.parent:Int) {n with dead:=false} (.slice sa n.scope.length sc) (.slice aa n.actors.length ac)):=⟨_,rfl⟩
     unfold zeroN inC txt at hw3
     rw [← hw3]
     have c9:w3.cell? ⟨w2.heap.size,9,none⟩=some (.bool false):=by rw [hw3];exact(Bk.row (Bk.new (t:=31) rfl)).cell 9
     have HB3:Hid (Below w1.heap.size w1 w3):=Φ (by rw [hw3];exact below_row (HB2.out.trans (by have:=HB2.out.size;go_grown)) HB2.out.size)
     clear hw3)
    go_roundw
    case rel=>exact⟨i+1,by omega,by go_num,HB3,Φ (by rw [HT.out,HI.out];rfl)⟩
    case measure=>simp [intOf];omega
  ·have hltI:¬(i:Int)<(p.length:Int):=by omega
   have HA:Hid (R=false):=Φ (by rw [HR.out];have:=HI.out;rwa [show i=p.length by omega,List.take_length] at this)
   go_wp2_with fail
   go_ret
   exact⟨by rw [HA.out];rfl,HL.out.2.1.trans (HB.out.mono HL.out.2.1.size)⟩
end Go.Proofs.YthogppennalobaaGreatDoor
namespace Go.Proofs.YthogppennalobaaGreatDoor
open Go.RowKit Go.Sort Forest
open Go.Lib renaming hid→Φ
theorem rget_cases {w:World}{f:Nat}{rs:List (Nd×Value×Value)}{nx:Int}(h:Xr w f rs nx)(hO:Ok (nds rs))(hl:rs.length≤1000000)(x:Int):
  (findI (nds rs) x=none∧∀W,Below w.heap.size w W→Calls Tryz.prog 35 #[kpt f,.int .i64 x] W fun e w'=>e = .returned (.tuple #[.agg zeroN,.bool false])∧Below W.heap.size W w')∨
  ∃n∈nds rs,findI (nds rs) x=some n∧(n.id:Int)=x∧∃sa sc aa ac,(n,Value.slice sa n.scope.length sc,Value.slice aa n.actors.length ac)∈rs∧∀W,Below w.heap.size w W→
   Calls Tryz.prog 35 #[kpt f,.int .i64 x] W fun e w'=>e = .returned (.tuple #[.agg (inC n.id n.parent n (.slice sa n.scope.length sc) (.slice aa n.actors.length ac)),.bool true])∧Below W.heap.size W w':=by
 cases hf:findI (nds rs) x with
 |none=>
  refine .inl ⟨rfl,fun W hb=>(rget_any (h.below hb) hl x).mono ?_⟩
  rintro e w' ⟨hg,hb2⟩
  refine⟨?_,hb2⟩
  rcases hg with ⟨he,_⟩ | ⟨j,hj,hx,rfl⟩
  ·exact he
  ·have:=List.find?_eq_none.1 hf (rs[j].1) (List.mem_map.2 ⟨_,List.getElem_mem hj,rfl⟩)
   simp at this
   omega
 |some n=>
  have hn:n∈nds rs:=List.mem_of_find?_eq_some hf
  have hx:=List.find?_some hf
  simp at hx
  obtain⟨sa,sc,aa,ac,h1,h2⟩:=rget_mem h hO hl hn
  exact .inr ⟨n,hn,rfl,hx,sa,sc,aa,ac,h1,by subst hx;exact h2⟩
theorem pathI_some {l:List Nd}{x:Int}{n:Nd}(h:findI l x=some n): (pathI l x).any (·.dead)=struck l n.id:=by
 unfold pathI struck
 rw [h]
set_option maxHeartbeats 4000000 in
theorem rlive_any {w:World}{f:Nat}{rs:List (Nd×Value×Value)}{nx:Int}(h:Xr w f rs nx)(hO:Ok (nds rs))(hl:rs.length≤1000000)(x now:Int): Calls Tryz.prog 39 #[kpt f,.int .i64 x,.int .i64 now] w fun e w'=>e = .returned (.bool (liveP (nds rs) x now))∧Below w.heap.size w w':=by
 have HS:=Φ (fun W (hb:Below w.heap.size w W)=>rstruck_any (h.below hb) hO hl x)
 have hc:=rget_cases h hO hl x
 obtain⟨R,hR⟩:∃R,R=liveP (nds rs) x now:=⟨_,rfl⟩
 rw [← hR]
 have HR:=Φ hR
 clear hR h
 rcases hc with ⟨hf,hg⟩ | ⟨n,hn,hf,hx,sa,sc,aa,ac,hm,hg⟩
 ·have HA:Hid (R=false):=Φ (by rw [HR.out];unfold liveP;rw [hf])
  have HG:=Φ (hg w (Below.refl _ _))
  clear hf hg
  unfold kpt zeroN at *
  go_enter Tryz.func39,Tryz.ntmps39
  go_wp2_with fail
  refine HG.out.mono ?_
  rintro e w2 ⟨rfl,hb⟩
  have HB2:=Φ hb
  clear hb HG
  go_wp2_with (refine wpList_put rfl 31 _ _ rfl w2.heap.size zeroN zeroN rfl rfl (Bk.new rfl) i31 rfl (one15 0 0 ⟨0,0,0,[],[],[],[],0,0,false,false,[],0,[],[]⟩ none none 0 0 0 0) ?_)
  go_ret
  exact⟨by rw [HA.out];rfl,below_row (HB2.out.trans (by have:=HB2.out.size;go_grown)) HB2.out.size⟩
 ·have HA:Hid (R=(!n.spent&&decide (now<n.exp)&&!struck (nds rs) n.id)):=Φ (by rw [HR.out];unfold liveP;rw [hf];rfl)
  have HG:=Φ (hg w (Below.refl _ _))
  rw [pathI_some hf] at HS
  generalize struck (nds rs) n.id=st at *
  clear hf hg hn hx hm HR
  unfold inC txt at HG
  unfold kpt at *
  obtain⟨sp,hsp⟩:∃b,n.spent=b:=⟨_,rfl⟩
  rw [hsp] at HG HA
  by_cases he:now<n.exp
  ·rw [decide_eq_true he] at HA
   go_enter Tryz.func39,Tryz.ntmps39
   go_wp2_with fail
   refine HG.out.mono ?_
   rintro e w2 ⟨rfl,hb⟩
   have HB2:=Φ hb
   clear hb HG
   cases sp with
   |true=>
    go_wp2_with (
     refine wpList_put rfl 31 _ _ rfl w2.heap.size zeroN _ rfl rfl (Bk.new rfl) i31 rfl (one15 (n.id:Int) (n.parent:Int) {n with spent:=true} sa aa _ sc _ ac) ?_
     obtain⟨w3,hw3⟩:∃z,z=(w2.alloc (.cells zeroN 31)).setRow w2.heap.size (inC (n.id:Int) (n.parent:Int) {n with spent:=true} (.slice sa n.scope.length sc) (.slice aa n.actors.length ac)):=⟨_,rfl⟩
     unfold zeroN inC txt at hw3
     rw [← hw3]
     have c8:w3.cell? ⟨w2.heap.size,8,none⟩=some (.int .i64 n.exp):=by rw [hw3];exact(Bk.row (Bk.new (t:=31) rfl)).cell 8
     have c10:w3.cell? ⟨w2.heap.size,10,none⟩=some (.bool true):=by rw [hw3];exact(Bk.row (Bk.new (t:=31) rfl)).cell 10
     have HB3:Hid (Below w.heap.size w w3):=Φ (by rw [hw3];exact below_row (HB2.out.trans (by have:=HB2.out.size;go_grown)) HB2.out.size)
     clear hw3)
    go_ret
    exact⟨by rw [HA.out];rfl,HB3.out⟩
   |false=>
    go_wp2_with (
     refine wpList_put rfl 31 _ _ rfl w2.heap.size zeroN _ rfl rfl (Bk.new rfl) i31 rfl (one15 (n.id:Int) (n.parent:Int) {n with spent:=false} sa aa _ sc _ ac) ?_
     obtain⟨w3,hw3⟩:∃z,z=(w2.alloc (.cells zeroN 31)).setRow w2.heap.size (inC (n.id:Int) (n.parent:Int) {n with spent:=false} (.slice sa n.scope.length sc) (.slice aa n.actors.length ac)):=⟨_,rfl⟩
     unfold zeroN inC txt at hw3
     rw [← hw3]
     have c8:w3.cell? ⟨w2.heap.size,8,none⟩=some (.int .i64 n.exp):=by rw [hw3];exact(Bk.row (Bk.new (t:=31) rfl)).cell 8
     have c10:w3.cell? ⟨w2.heap.size,10,none⟩=some (.bool false):=by rw [hw3];exact(Bk.row (Bk.new (t:=31) rfl)).cell 10
     have HB3:Hid (Below w.heap.size w w3):=Φ (by rw [hw3];exact below_row (HB2.out.trans (by have:=HB2.out.size;go_grown)) HB2.out.size)
     clear hw3)
    refine(HS.out w3 HB3.out).mono ?_
    rintro e w4 ⟨rfl,hb⟩
    have HB4:=Φ (HB3.out.trans (hb.mono HB3.out.size))
    clear hb c8 c10
    go_wp2_with fail
    go_ret
    exact⟨by rw [HA.out];rfl,HB4.out⟩
  ·rw [decide_eq_false he] at HA
   go_enter Tryz.func39,Tryz.ntmps39
   go_wp2_with fail
   refine HG.out.mono ?_
   rintro e w2 ⟨rfl,hb⟩
   have HB2:=Φ hb
   clear hb HG
   cases sp with
   |true=>
    go_wp2_with (
     refine wpList_put rfl 31 _ _ rfl w2.heap.size zeroN _ rfl rfl (Bk.new rfl) i31 rfl (one15 (n.id:Int) (n.parent:Int) {n with spent:=true} sa aa _ sc _ ac) ?_
     obtain⟨w3,hw3⟩:∃z,z=(w2.alloc (.cells zeroN 31)).setRow w2.heap.size (inC (n.id:Int) (n.parent:Int) {n with spent:=true} (.slice sa n.scope.length sc) (.slice aa n.actors.length ac)):=⟨_,rfl⟩
     unfold zeroN inC txt at hw3
     rw [← hw3]
     have c8:w3.cell? ⟨w2.heap.size,8,none⟩=some (.int .i64 n.exp):=by rw [hw3];exact(Bk.row (Bk.new (t:=31) rfl)).cell 8
     have c10:w3.cell? ⟨w2.heap.size,10,none⟩=some (.bool true):=by rw [hw3];exact(Bk.row (Bk.new (t:=31) rfl)).cell 10
     have HB3:Hid (Below w.heap.size w w3):=Φ (by rw [hw3];exact below_row (HB2.out.trans (by have:=HB2.out.size;go_grown)) HB2.out.size)
     clear hw3)
    go_ret
    exact⟨by rw [HA.out];rfl,HB3.out⟩
   |false=>
    go_wp2_with (
     refine wpList_put rfl 31 _ _ rfl w2.heap.size zeroN _ rfl rfl (Bk.new rfl) i31 rfl (one15 (n.id:Int) (n.parent:Int) {n with spent:=false} sa aa _ sc _ ac) ?_
     obtain⟨w3,hw3⟩:∃z,z=(w2.alloc (.cells zeroN 31)).setRow w2.heap.size (inC (n.id:Int) (n.parent:Int) {n with spent:=false} (.slice sa n.scope.length sc) (.slice aa n.actors.length ac)):=⟨_,rfl⟩
     unfold zeroN inC txt at hw3
     rw [← hw3]
     have c8:w3.cell? ⟨w2.heap.size,8,none⟩=some (.int .i64 n.exp):=by rw [hw3];exact(Bk.row (Bk.new (t:=31) rfl)).cell 8
     have c10:w3.cell? ⟨w2.heap.size,10,none⟩=some (.bool false):=by rw [hw3];exact(Bk.row (Bk.new (t:=31) rfl)).cell 10
     have HB3:Hid (Below w.heap.size w w3):=Φ (by rw [hw3];exact below_row (HB2.out.trans (by have:=HB2.out.size;go_grown)) HB2.out.size)
     clear hw3)
    go_ret
    exact⟨by rw [HA.out];rfl,HB3.out⟩
theorem flat_len (rs:List (Nd×Value×Value)): (rs.flatMap nodeC).length=rs.length*15:=by
 induction rs with
 |nil=>rfl
 |cons r rs ih=>rw [List.flatMap_cons,List.length_append,ih,List.length_cons];show 15+_=_;omega
theorem Bk.cells_set {t:TypeId}{b:Nat}: ∀(vs:List Value) (o:Nat) {w:World} {cur:Array Value},Bk t w b cur→o+vs.length≤cur.size→∃cur',Bk t (w.setCells b o vs) b cur'∧cur'.size=cur.size∧∀j,cur'[j]?=if o≤j∧j<o+vs.length then vs[j - o]? else cur[j]?
 |[],o,w,cur,h,_=>⟨cur,h,rfl,fun j=>by rw [if_neg (by simp only [List.length_nil];omega)]⟩
 |v::r,o,w,cur,h,hs=>by
  simp only [List.length_cons] at hs
  obtain⟨cur',h1,h2,h3⟩:=Bk.cells_set r (o+1) (Bk.same (i:=o) (v:=v) h) (by simp;omega)
  refine⟨cur',h1,by simpa using h2,fun j=>?_⟩
  rw [h3]
  by_cases e:j=o
  ·subst e
   rw [if_neg (by omega),if_pos (by simp),Array.getElem?_setIfInBounds]
   simp
   omega
  ·by_cases g:o+1≤j∧j<o+1+r.length
   ·rw [if_pos g,if_pos (by simp only [List.length_cons];omega),show j - o=(j - (o+1))+1 by omega]
    rfl
   ·rw [if_neg g,if_neg (by simp only [List.length_cons];omega),Array.getElem?_setIfInBounds,if_neg (fun h=>e h.symm)]
theorem flat_set {rs:List (Nd×Value×Value)}{i:Nat}(hi:i<rs.length)(x:Nd×Value×Value){cur cur':Array Value}(ht:cur.toList.take (rs.length*15)=rs.flatMap nodeC)(hs:rs.length*15≤cur.size)(hs2:cur'.size=cur.size)(h:∀j,cur'[j]?=if i*15≤j∧j<i*15+15 then (nodeC x)[j - i*15]? else cur[j]?):
  cur'.toList.take (rs.length*15)=(rs.set i x).flatMap nodeC:=by
 refine List.ext_getElem? fun j=>?_
 by_cases hj:j<rs.length*15
 ·have hd:j / 15<rs.length:=by omega
  have hdm:j / 15*15+j % 15=j:=by omega
  have hm:j % 15<15:=Nat.mod_lt _ (by omega)
  have e2:((rs.set i x).flatMap nodeC)[j]?=(nodeC ((rs.set i x)[j / 15]'(by simpa using hd)))[j % 15]?:=by
   have:=flat_get (rs:=rs.set i x) (i:=j / 15) (by simpa using hd) (j % 15) hm
   rwa [hdm] at this
  have e1:cur[j]?=(nodeC rs[j / 15])[j % 15]?:=by
   have:=flat_get (rs:=rs) hd (j % 15) hm
   rw [hdm,← ht,List.getElem?_take,if_pos hj] at this
   rw [← this];simp
  rw [List.getElem?_take,if_pos hj,Array.getElem?_toList,h,e2,List.getElem_set]
  by_cases e:i=j / 15
  ·rw [if_pos (by omega),if_pos e,show j - i*15=j % 15 by omega]
  ·rw [if_neg (by omega),if_neg e,e1]
 ·rw [List.getElem?_take,if_neg hj,List.getElem?_eq_none]
  rw [flat_len,List.length_set];omega
theorem wp_row {t e:TypeId}{z b n:Nat}(hT:RowT t e z b){ops:Array Oper}{rest:List Oper}{o:Oper}{a:Act}{Q:Exit→Act→World→Prop}{w0 W:World}(hgd:o.guard=none)(s x:Operand)(ho:o.op = .call {callee:= .builtin .append,args:=#[s,x],argTypes:=#[t,t]})
  (v:Value) (xs:List Value) (d:Addr) (m c:Nat) (news:List Value) (hs:a.eval s=v) (hx:a.eval x = .slice (some d) m c) (hI:Lw e z w0 W v n xs) (hl:news.length=m*z) (hn:∀j u,news[j]?=some u→W.cell? (d.add j)=some u) (h1:∀u∈news,u.oneCell'=true) (h63:n+m≤4194304) (hb:b≤4096)
  (h:∀v' w',Lw e z w0 w' v' (n+m) (xs++news)→W.grownBy w' v.ownBlock→wpList Tryz.prog ops Q rest (a.put o.dst v') w'):wpList Tryz.prog ops Q (o::rest) a W:=by
 obtain⟨v',w',hrun,hu,hg⟩:=hI.app hT o.type d m c news hl hn h1 (by unfold maxLen;omega) (by
    have:=Nat.mul_le_mul h63 hb
    omega)
 exact Lib.wpList_append_run W hgd s x t t ho _ _ hs hx v' w' hrun (h v' w' hu hg)
theorem nodes_one {w:World}{v:Value}{rs:List (Nd×Value×Value)}(h:Nr w v rs): ∀u∈rs.flatMap nodeC,u.oneCell'=true:=by
 intro u hu
 obtain⟨r,hr,hu⟩:=List.mem_flatMap.1 hu
 exact nodeC_one (h.2 r hr).1 (h.2 r hr).2 u hu
theorem Nr.at {w:World}{v:Value}{rs:List (Nd×Value×Value)}(h:Nr w v rs)(hne:0<rs.length): ∃q c cur,v = .slice (some ⟨q,0,none⟩) rs.length c∧Bk 31 w q cur∧rs.length≤c∧cur.size=c*15∧cur.toList.take (rs.length*15)=rs.flatMap nodeC∧∀j u,(rs.flatMap nodeC)[j]?=some u→w.cell? ⟨q,j,none⟩=some u:=by
 rcases h.1.2 with ⟨_,h0⟩ | ⟨q,cap,cur,rfl,_,hb,hc,_,hs,ht⟩
 ·omega
 ·refine⟨q,cap,cur,rfl,hb,hc,hs,ht,fun j u hu=>?_⟩
  rw [blk_cell hb]
  rw [← ht,List.getElem?_take] at hu
  split at hu
  ·simpa using hu
  ·cases hu
end Go.Proofs.YthogppennalobaaGreatDoor
namespace Go.Proofs.YthogppennalobaaGreatDoor
open Go.RowKit Go.Sort Forest OwnR TxO
open Go.Lib renaming hid→Φ
theorem below_cells {B g:Nat}(hg:B≤g): ∀(vs:List Value) (o:Nat) {a w:World},Below B a w→Below B a (w.setCells g o vs)
 |[],_,_,_,h=>h
 |v::r,o,_,_,h=>below_cells hg r (o+1) (h.setCell (p:=⟨g,o,none⟩) hg v)
theorem cells_other (g:Nat): ∀(vs:List Value) (o:Nat) (w:World) {i:Nat},i≠g→(w.setCells g o vs).heap[i]?=w.heap[i]?
 |[],_,_,_,_=>rfl
 |v::r,o,w,i,h=>(cells_other g r (o+1) _ h).trans (heap_setCell_other w ⟨g,o,none⟩ i v h)
theorem there_bk {t:TypeId}{w:World}{g:Nat}{cur:Array Value}(h:Bk t w g cur){o n:Nat}(hs:o+n≤cur.size): w.there g o n:=fun j hj=>by
 refine⟨?_,h.fro _⟩
 rw [h.cell,Array.getElem?_eq_getElem (by omega)]
 rfl
theorem Tx.cells {W:World}{v:Value}{l:List Bs}{b o:Nat}{t:TypeId}{cs:Array Value}{vs:List Value}(h:Tx W v l)(hb:Bk t W b cs)(ht:t≠9): Tx (W.setCells b o vs) v l:=
 owns_of h fun g hg hl=>cells_other b vs o W (fun e=>owns_ne h hb ht (by rw [hg];exact congrArg some e))
set_option maxHeartbeats 8000000 in
theorem rset_any {w:World}{f:Nat}{rs:List (Nd×Value×Value)}{nx:Int}(h:Xr w f rs nx)(hO:Ok (nds rs))(hl:rs.length≤1000000){i:Nat}(hi:i<rs.length)(n:Nd)(sv av:Value)(hid:n.id=rs[i].1.id)(h1:Tx w sv n.scope)(h2:Tx w av n.actors):
  Calls Tryz.prog 78 #[kpt f,.agg (inC n.id n.parent n sv av)] w fun e w'=>e = .returned (.tuple #[])∧Xr w' f (rs.set i (n,sv,av)) nx∧Only [f] w w':=by
 have HA:=Φ (fun W (hb:Below w.heap.size w W)=>rat_any (h.below hb) hl (n.id:Int))
 have HI:Hid (∀r,At (nds rs) (n.id:Int) r→r=(i:Int)):=Φ fun r hr=>by
  rcases hr with ⟨_,hno⟩ | ⟨j,hj,rfl,hx⟩
  ·exact absurd (by rw [hid]) (hno rs[i].1 (List.mem_map.2 ⟨_,List.getElem_mem hi,rfl⟩))
  ·have:i=j:=by
    refine id_inj hO (by simpa [nds] using hi) hj ?_
    rw [hid] at hx
    simp only [nds,List.getElem_map] at hx ⊢
    omega
   rw [this]
 have T1:=Φ h1
 have T2:=Φ h2
 obtain⟨sa,sc,rfl⟩:=owns_shape h1
 obtain⟨aa,ac,rfl⟩:=owns_shape h2
 obtain⟨v,k1,k2⟩:=h
 obtain⟨q,c,cur,rfl,kb,kc,ks,kt,kl⟩:=k2.at (by omega)
 have HN:=Φ k2
 have HF:=Φ k1
 have HL:=Φ (And.intro hl hi)
 have HK:=Φ kl
 have HFL:=Φ k1.lt
 obtain⟨g,hg⟩:∃g,g=w.heap.size:=⟨_,rfl⟩
 clear h1 h2 k1 k2 kb kc ks kt kl hid hO
 unfold kpt inC txt
 go_enter Tryz.func78,Tryz.ntmps78
 go_wp2_with fail
 rw [← hg]
 obtain⟨w1,hw1⟩:∃x,x=w.alloc (.cells (inC (n.id:Int) (n.parent:Int) n (.slice sa n.scope.length sc) (.slice aa n.actors.length ac)) 31):=⟨_,rfl⟩
 have hw1':=hw1
 unfold inC txt at hw1'
 rw [← hw1']
 have K:Hid (Bk 31 w1 g (inC (n.id:Int) (n.parent:Int) n (.slice sa n.scope.length sc) (.slice aa n.actors.length ac))):=Φ (by rw [hw1];exact Bk.new hg)
 have HW:Hid (Below w.heap.size w w1):=Φ (by rw [hw1];go_grown)
 have HG:Hid (g=w.heap.size):=Φ hg
 clear hw1 hw1' hg
 refine(HA.out w1 HW.out).mono ?_
 rintro e w2 ⟨r,rfl,hw,ha⟩
 replace hw:=hw.symm
 subst hw
 have hr:=HI.out r ha
 subst hr
 clear ha HA HI
 have hbe:Below w.heap.size w (w1.alloc (.cells #[] 31)):=HW.out.trans (by have:=HW.out.size;go_grown)
 have HE:=Φ (Lw.empty 31 15 HW.out)
 have d0:(w1.alloc (.cells #[] 31)).cell? ⟨f,0,none⟩=some (.slice (some ⟨q,0,none⟩) rs.length c):=cell_below hbe (HF.out.cell 0)
 have HK2:Hid (∀j u,(rs.flatMap nodeC)[j]?=some u→(w1.alloc (.cells #[] 31)).cell? ((⟨q,0,none⟩:Addr).add j)=some u):=Φ fun j u hu=>by rw [at0];exact cell_below hbe (HK.out j u hu)
 have HN1:=Φ (nodes_one HN.out)
 have HL31:Hid (0+rs.length≤4194304):=Φ (by have:=HL.out.1;omega)
 clear hbe
 go_wp2_with (
  first
  |refine wpList_load_row rfl 31 _ rfl g rfl 31 _ (0,0) _ H3.out.1 Tryz.underlying31 rfl i31 ?_
  |refine wpList_store_mid rfl 31 _ _ rfl q3 (i*15) (inC (n.id:Int) (n.parent:Int) n (.slice sa n.scope.length sc) (.slice aa n.actors.length ac)) rfl rfl H3.out.2.1 i31 (one15 _ _ _ _ _ _ _ _ _) ?_
   obtain⟨w4,hw4⟩:∃z,z=w3.setCells q3 (i*15) (inC (n.id:Int) (n.parent:Int) n (.slice sa n.scope.length sc) (.slice aa n.actors.length ac)).toList:=⟨_,rfl⟩
   have kf4:Bk 40 w4 f #[.slice (some ⟨q,0,none⟩) rs.length c,.int .i64 nx]:=by
    rw [hw4]
    have k3:Bk 40 w3 f #[.slice (some ⟨q,0,none⟩) rs.length c,.int .i64 nx]:=HF.out.below H3.out.2.2.1
    exact(cells_other q3 _ _ w3 (by have:=HFL.out;have:=H3.out.2.2.2;omega)).trans k3
   have d4:=kf4.cell 0
   have f4:=kf4.fro 0
   have HKF:=Φ kf4
   have HW4:=Φ hw4
   rw [← hw4]
   clear kf4 hw4
  |at_builtin
   refine wp_row row37 rfl _ _ rfl _ [] ⟨q,0,none⟩ rs.length c (rs.flatMap nodeC) rfl rfl HE.out (flat_len rs) HK2.out HN1.out HL31.out (by decide) ?_
   intro v' w3 hs3 hg3
   have hN3:Nr w3 v' rs:=⟨by have:=hs3.1;rwa [Nat.zero_add,List.nil_append] at this,fun r hr=>⟨(HN.out.2 r hr).1.below hs3.2.1,(HN.out.2 r hr).2.below hs3.2.1⟩⟩
   obtain⟨q3,c3,cur3,e3,kb3,kc3,ks3,kt3,_⟩:=hN3.at (Nat.lt_of_le_of_lt (Nat.zero_le _) HL.out.2)
   subst e3
   have H3:Hid (Bk 31 w3 g (inC (n.id:Int) (n.parent:Int) n (.slice sa n.scope.length sc) (.slice aa n.actors.length ac))∧w3.there q3 (i*15) 15∧Below w.heap.size w w3∧w.heap.size≤q3):=Φ ⟨grown_bk hg3 K.out.alloc (fun e=>by have h1:=K.out.lt;have h2:w1.heap.size=g:=Option.some.inj e;omega),there_bk kb3 (by have:=HL.out.2;rw [ks3];have:=Nat.mul_le_mul_right 15 kc3;omega),hs3.2.1,hs3.2.2 q3 rfl⟩
   have HR3:=Φ (And.intro kb3 (And.intro kc3 (And.intro ks3 (And.intro kt3 hN3))))
   have hiI:(i:Int)<(rs.length:Int):=Int.ofNat_lt.2 HL.out.2
   clear hs3 hg3 hN3 kb3 kc3 ks3 kt3 d0)
 go_end0
 obtain⟨kb3,kc3,ks3,kt3,hN3⟩:=HR3.out
 obtain⟨K3,ht3,hb3,hq3⟩:=H3.out
 have hi:=HL.out.2
 have hsz:i*15+15≤cur3.size:=by rw [ks3];have:=Nat.mul_le_mul_right 15 kc3;omega
 obtain⟨cur4,e1,e2,e3⟩:=Bk.cells_set (inC (n.id:Int) (n.parent:Int) n (.slice sa n.scope.length sc) (.slice aa n.actors.length ac)).toList (i*15) kb3 hsz
 rw [← HW4.out] at e1
 have hqf:q3≠f:=by have:=HFL.out;omega
 have hX:∀ {v:Value} {l:List Bs},Tx w v l→Tx (w4.setCell ⟨f,0,none⟩ (.slice (some ⟨q3,0,none⟩) rs.length c3)) v l:=fun ht=>by
  have h4:=Tx.cells (o:=i*15) (vs:=(inC (n.id:Int) (n.parent:Int) n (.slice sa n.scope.length sc) (.slice aa n.actors.length ac)).toList) (ht.below hb3) kb3 (by decide)
  rw [← HW4.out] at h4
  exact h4.setCell HKF.out (by decide)
 refine⟨rfl,⟨_,Bk.same (i:=0) (v:= .slice (some ⟨q3,0,none⟩) rs.length c3) HKF.out,⟨?_,.inr ⟨q3,c3,cur4,by rw [List.length_set],Nat.zero_le _,e1.oth hqf,by rw [List.length_set];exact kc3,?_,by rw [e2,ks3],?_⟩⟩,fun r hr=>?_⟩,?_⟩
 ·rw [flat_len]
 ·rcases hN3.1.2 with ⟨h,_⟩ | ⟨q5,c5,cur5,h,_,_,_,hm,_⟩
  ·cases h
  ·cases h;exact hm
 ·rw [List.length_set]
  exact flat_set hi (n,.slice sa n.scope.length sc,.slice aa n.actors.length ac) kt3 (by rw [ks3];exact Nat.mul_le_mul_right 15 kc3) e2 e3
 ·rcases List.mem_or_eq_of_mem_set hr with h | h
  ·exact⟨hX (HN.out.2 r h).1,hX (HN.out.2 r h).2⟩
  ·subst h
   exact⟨hX T1.out,hX T2.out⟩
 ·refine Only.setCell (Only.of ?_) _ (.inl (by simp)) _
  rw [HW4.out]
  exact below_cells hq3 _ _ hb3
end Go.Proofs.YthogppennalobaaGreatDoor
