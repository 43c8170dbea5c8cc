/- Arguments that are scripts of calls, read as such within the form's reach; what a call leaves that lays new memory alone. No condition. The start of the laws: the library's table out of what a row lists. No condition. The reader of a row The reader of a row The drawn region of ForestStays. No condition. -/
import Derived.Test.YthogppennalobaaGreatDoorRows
import Derived.WalkKit
import Derived.ProofKit
import Derived.OpenShut
import Derived.HandedShaped
import Derived.Shelf.Vars
import Derived.Deep.DeepHandedRow
import Derived.Deep.DeepWitnessRowRef
import Derived.PinnedBridge
import Derived.Below
import Derived.Lib.SmallJoins
import Derived.SizedLaws
import Derived.ChangeMaps5
import Derived.ShutString
import Derived.Deep.SlicePairs
import Derived.Deep.Strs
import Derived.Carry
import Derived.Test.YthogppennalobaaGreatDoorZd37
import Derived.Test.YthogppennalobaaGreatDoorCards
import Derived.Test.YthogppennalobaaGreatDoorTie
import Derived.Lib.LaidIn
import Derived.Lib.LaidTab
import Derived.Lay
import Derived.Deep.MidRow
import Derived.Test.YthogppennalobaaGreatDoorZd02
import Derived.Test.YthogppennalobaaGreatDoorZd10
import Derived.Test.YthogppennalobaaGreatDoorZd13
import Derived.Test.YthogppennalobaaGreatDoorZd22
set_option linter.unusedVariables false
set_option linter.unusedSimpArgs false
set_option maxRecDepth 100000
namespace Go.Proofs.YthogppennalobaaGreatDoor
open Go.ChangeShapes Go.WideShapes Go.ChangeAt Go.ChangeMaps Go.RowKit Go.Deep Forest
theorem own:ownKnob Tryz.prog.godebug=none:=by kernel_rfl
section
variable {H:Type} {enc:TypeId×Value→H} {P:Program}
theorem post_below {f:Func}{s:ChangeSpec}{apart fresh handsOn again:Bool}{W W':World}{args:Array Value}{v:Value}{ds gs:List (DataW H)}{before pa pv:List MemPlace}
  (hW:DataW.Whole enc P f.params.toList s.vars apart W args.toList ds gs before)
  (hres:∀(b:Nat) (sp:Nat→Bool) (hd:Bool),DataW.TrodAll enc P W' b sp hd f.resultTypes.toList (v.resultList f.resultTypes.size) (s.fn H (ds++gs)).results [])
  (hargs:∀sp:Nat→Bool,(∀p∈before,sp p.block=true)→DataW.TrodAll enc P W' 0 sp true f.params.toList args.toList (s.fn H (ds++gs)).args pa)
  (hvars:∀sp:Nat→Bool,(∀p∈before,sp p.block=true)→DataW.TrodVars enc P W' sp s.vars (s.fn H (ds++gs)).vars pv)
  (hps:before=pa++pv) (hb:Below W.heap.size W W')
  (hok:∀(j:Nat) (t:TypeId) (r:Value),f.resultTypes[j]?=some t→(v.resultList f.resultTypes.size)[j]?=some r→Value.okWide P W' .any 0 t r) :
  s.post enc P f apart fresh handsOn again W args v W':=by
 have hlt:∀p∈before,p.block<W.heap.size:=fun p hp=>hW.lt p hp
 have hold:∀p∈before,(fun b=>decide (b<W.heap.size)) p.block=true:=fun p hp=>by simpa using hlt p hp
 refine⟨ds,gs,before,[],pa,pv,hW,hres _ _ _,hargs _ hold,hvars _ hold,World.keptBut_mono (fun p hp=>⟨hp,?_⟩) (hb.frame (·∈before)),fun _=>?_⟩
 ·rw [hps,List.mem_append] at hp
  exact Or.inr hp
 ·obtain⟨_,_,_,_,_,hz,hn⟩:=hW
  refine⟨hok,_,_,([]++pa)++pv,⟨[]++pa,pv,trodAll_append (hargs _ (fun _ _=>rfl)) (hres _ _ _),hvars _ (fun _ _=>rfl),rfl,?_,?_⟩,?_⟩
  ·intro b off hp
   have hin:MemPlace.cell b off∈before:=by rw [hps];simpa using hp
   rw [hb.frozen (hlt _ hin)]
   exact hz b off hin
  ·intro ha
   have:=hn ha
   rw [hps] at this
   simpa using this
  ·intro p hp _
   rw [hps]
   simpa using hp
end
section
variable {H:Type} {enc:TypeId×Value→H}
theorem reach_is:reachBytes≤140737488351232:=by decide
theorem laidOut:laidOutB Tryz.prog=true:=by kernel_rfl
theorem read22:Tryz.prog.readableRec 22=true:=by kernel_rfl
theorem row22:22<Tryz.prog.types.size:=of_decide_eq_true (by kernel_rfl)
theorem trod_keep {t:TypeId}(hr:Tryz.prog.readableRec t=true)(hrow:t<Tryz.prog.types.size){W W':World}{v:Value}{d:DataW H}{ps:List MemPlace}
  (h:DataW.Trod enc Tryz.prog W 0 (fun _=>true) true t v d ps) (hb:Below W.heap.size W W') (hlt:∀x∈ps,x.block<W.heap.size) (sp:Nat→Bool) (hsp:∀x∈ps,sp x.block=true) :
  DataW.Trod enc Tryz.prog W' 0 sp true t v d ps:=
 WideElems.Trod_stays laidOut hr hrow h (fun x hx=>hb.same (hlt x hx)) hsp
theorem cells33:Tryz.prog.cellsOf 33=20:=by kernel_rfl
theorem bytes33:141≤Tryz.prog.bytesOf 33:=of_decide_eq_true (by kernel_rfl)
theorem cells31:Tryz.prog.cellsOf 31=15:=by kernel_rfl
theorem bytes9:Tryz.prog.bytesOf 9=16:=by kernel_rfl
theorem cells3:Tryz.prog.cellsOf 3=1:=by kernel_rfl
theorem cells4:Tryz.prog.cellsOf 4=1:=by kernel_rfl
theorem cells9:Tryz.prog.cellsOf 9=1:=by kernel_rfl
theorem cells29:Tryz.prog.cellsOf 29=1:=by kernel_rfl
theorem add_off {a:Addr}{W:World}{v:Value}(h:W.cell? a=some v)(j:Nat): a.add j=⟨a.block,a.off+j,none⟩:=by
 have hspot:a=⟨a.block,a.off,none⟩:=by
  obtain⟨ab,ao,asp⟩:=a
  cases asp with
  |none=>rfl
  |some x=>
   exfalso
   unfold World.cell? at h
   split at h<;>simp at h
 rw [hspot]
 unfold Addr.add
 split
 ·rename_i h;subst h;rfl
 ·rfl
theorem weights_all {t:TypeId}{n:Nat}{d:DataW H}: ∀ {l:List (DataW H)},d∈l→n∈d.weights Tryz.prog t→n∈DataW.weightsAll Tryz.prog t l
 |x::r,hd,hn=>by
  simp only [DataW.weightsAll,List.mem_append]
  cases List.mem_cons.1 hd with
  |inl e=>subst e;exact .inl hn
  |inr e=>exact .inr (weights_all e hn)
theorem open_rd {W:World}{held:Bool}{fuel:Nat}{v:Value}{x:DataW H×List MemPlace}(h:DataW.trod enc Tryz.prog W 0 (fun _=>true) held fuel 29 [v]=some x)(hw:∀n∈x.1.weights Tryz.prog 29,n≤140737488351232):
  ∃l:List Bs,Rd W v l∧l.length≤8796093022208∧(∀s∈l,s.length≤140737488355328)∧(l≠[]→∀q,v.ownBlock=some q→q<W.heap.size):=by
 rcases open_strs Tryz.underlying29 Tryz.underlying9 cells9 h with ⟨hc,hx⟩ | ⟨a,len,cap,m,Sx,hc,_,hl,hm,hmm,hx,hi⟩
 ·have e:v = .slice none 0 0:=by simpa using hc
  subst e
  exact⟨[],⟨none,0,rfl,fun i hi=>by cases hi⟩,by simp,by simp,fun h=>absurd rfl h⟩
 ·have e:v = .slice (some a) len cap:=by simpa using hc
  subst e
  have hlm:len≤m:=by rw [hmm];simp;exact hl
  have hmc:m=cap:=by rw [hmm];simp
  have hlen:((List.range len).map fun i=>(Sx i).data.toList).length=len:=by simp
  obtain⟨hd,_⟩:=Prod.mk.inj hx
  have hlw:(len+(m - len))*16≤140737488351232:=hw _ (by rw [hx];simp [DataW.weights,Tryz.underlying29,bytes9])
  have hsz:∀i,i<len→(Sx i).data.toList.length≤140737488355328:=fun i hil=>by
   have:(Sx i).data.toList.length≤140737488351232:=hw _ (by
    rw [hx]
    simp only [DataW.weights,Tryz.underlying29,List.mem_cons,List.mem_append]
    exact .inr (.inl (weights_all (List.mem_map.2 ⟨i,List.mem_range.2 hil,rfl⟩) (by simp [DataW.weights]))))
   omega
  refine⟨(List.range len).map fun i=>(Sx i).data.toList,⟨some a,cap,by rw [hlen],fun i hi'=>?_⟩,by rw [hlen];omega,?_,?_⟩
  ·have hil:i<len:=by rwa [hlen] at hi'
   obtain⟨c0,_⟩:=hi 0 (by omega)
   have e0:a.add 0=a:=by simp [Addr.add]
   rw [e0] at c0
   have hadd:=add_off c0
   obtain⟨ci,_⟩:=hi i (by omega)
   rw [hadd] at ci
   refine⟨a.block,a.off,by have:=hadd 0;rw [e0] at this;rw [this],?_⟩
   rw [ci]
   simp [txt]
  ·intro s hs
   obtain⟨i,hir,rfl⟩:=List.mem_map.1 hs
   exact hsz i (List.mem_range.1 hir)
  ·intro hne q hq
   have h0:0<len:=by
    rcases Nat.eq_zero_or_pos len with h | h
    ·subst h;exact absurd rfl hne
    ·exact h
   obtain⟨c0,_⟩:=hi 0 (by omega)
   have e0:a.add 0=a:=by simp [Addr.add]
   rw [e0] at c0
   have hb:=World.block_lt_of_cell? W _ c0
   have e:a.block=q:=by simpa [Value.ownBlock] using hq
   rw [← e]
   exact hb
theorem open_op {W:World}{held:Bool}{fuel:Nat}{cs:List Value}{x:DataW H×List MemPlace}(h:DataW.trod enc Tryz.prog W 0 (fun _=>true) held fuel 33 cs=some x)(hw:∀n∈x.1.weights Tryz.prog 33,n≤140737488351232):
  ∃(d:OpD) (sv av:Value),cs=(opC d sv av).toList∧OpW W d sv av:=by
 obtain⟨xs,n,rfl,rfl,hlen,hxl,hf⟩:=DataW.trod_struct Tryz.underlying33 h
 rw [cells33] at hlen
 match xs,hxl,cs,hlen with
 |[y0,y1,y2,y3,y4,y5],_,[v0,v1,v2,v3,v4,v5,v6,v7,v8,v9,v10,v11,v12,v13,v14,v15,v16,v17,v18,v19],_=>
  have g0:=hf 0 _ rfl
  have g1:=hf 1 _ rfl
  have g2:=hf 2 _ rfl
  have g3:=hf 3 _ rfl
  have g4:=hf 4 _ rfl
  have g5:=hf 5 _ rfl
  simp [cells3,cells9,cells31] at g0 g1 g2 g3 g4 g5
  have hwn:∀m∈y5.1.weights Tryz.prog 31,m≤140737488351232:=fun m hm=>hw m (by simp [DataW.weights,Tryz.underlying33,DataW.weightsEach,hm])
  obtain⟨n0,e0,x0,w0⟩:=DataW.trod_int Tryz.underlying3 g0
  obtain⟨n1,e1,x1,w1⟩:=DataW.trod_int Tryz.underlying3 g1
  obtain⟨n2,e2,x2,w2⟩:=DataW.trod_int Tryz.underlying3 g2
  obtain⟨n3,e3,x3,w3⟩:=DataW.trod_int Tryz.underlying3 g3
  obtain⟨s4,e4,x4,w4⟩:=DataW.trod_string Tryz.underlying9 g4
  have hs4:s4.data.toList.length≤140737488351232:=hw _ (by simp [DataW.weights,Tryz.underlying33,DataW.weightsEach,x4])
  obtain⟨zs,n',rfl,hzx,hzlen,hzl,hz⟩:=DataW.trod_struct Tryz.underlying31 g5
  match zs,hzl with
  |[z0,z1,z2,z3,z4,z5,z6,z7,z8,z9,z10,z11,z12,z13,z14],_=>
   have k0:=hz 0 _ rfl
   have k1:=hz 1 _ rfl
   have k2:=hz 2 _ rfl
   have k3:=hz 3 _ rfl
   have k4:=hz 4 _ rfl
   have k5:=hz 5 _ rfl
   have k6:=hz 6 _ rfl
   have k7:=hz 7 _ rfl
   have k8:=hz 8 _ rfl
   have k9:=hz 9 _ rfl
   have k10:=hz 10 _ rfl
   have k11:=hz 11 _ rfl
   have k12:=hz 12 _ rfl
   have k13:=hz 13 _ rfl
   have k14:=hz 14 _ rfl
   simp [cells3,cells9,cells4,cells29] at k0 k1 k2 k3 k4 k5 k6 k7 k8 k9 k10 k11 k12 k13 k14
   obtain⟨a0,f0,u0,_⟩:=DataW.trod_int Tryz.underlying3 k0
   obtain⟨a1,f1,u1,_⟩:=DataW.trod_int Tryz.underlying3 k1
   obtain⟨a2,f2,u2,_⟩:=DataW.trod_int Tryz.underlying3 k2
   obtain⟨a3,f3,u3,_⟩:=DataW.trod_string Tryz.underlying9 k3
   obtain⟨a4,f4,u4,_⟩:=DataW.trod_string Tryz.underlying9 k4
   obtain⟨a5,f5,u5,_⟩:=DataW.trod_string Tryz.underlying9 k5
   obtain⟨a7,f7,u7,_⟩:=DataW.trod_int Tryz.underlying3 k7
   obtain⟨a8,f8,u8,_⟩:=DataW.trod_int Tryz.underlying3 k8
   obtain⟨a9,f9,u9⟩:=DataW.trod_bool Tryz.underlying4 k9
   obtain⟨a10,f10,u10⟩:=DataW.trod_bool Tryz.underlying4 k10
   obtain⟨a12,f12,u12,_⟩:=DataW.trod_int Tryz.underlying3 k12
   obtain⟨a13,f13,u13,_⟩:=DataW.trod_string Tryz.underlying9 k13
   obtain⟨a14,f14,u14,_⟩:=DataW.trod_string Tryz.underlying9 k14
   have hwz:∀m∈(DataW.agg ([z0,z1,z2,z3,z4,z5,z6,z7,z8,z9,z10,z11,z12,z13,z14].map (·.1)):DataW H).weights Tryz.prog 31,m≤140737488351232:=by
    rw [hzx] at hwn
    exact hwn
   obtain⟨l6,r6,b6,t6,o6⟩:=open_rd k6 (fun m hm=>hwz m (by simp [DataW.weights,Tryz.underlying31,DataW.weightsEach,hm]))
   obtain⟨l11,r11,b11,t11,o11⟩:=open_rd k11 (fun m hm=>hwz m (by simp [DataW.weights,Tryz.underlying31,DataW.weightsEach,hm]))
   have h3:a3.data.toList.length≤140737488351232:=hwz _ (by simp [DataW.weights,Tryz.underlying31,DataW.weightsEach,u3])
   have h4:a4.data.toList.length≤140737488351232:=hwz _ (by simp [DataW.weights,Tryz.underlying31,DataW.weightsEach,u4])
   have h5:a5.data.toList.length≤140737488351232:=hwz _ (by simp [DataW.weights,Tryz.underlying31,DataW.weightsEach,u5])
   have h13:a13.data.toList.length≤140737488351232:=hwz _ (by simp [DataW.weights,Tryz.underlying31,DataW.weightsEach,u13])
   have h14:a14.data.toList.length≤140737488351232:=hwz _ (by simp [DataW.weights,Tryz.underlying31,DataW.weightsEach,u14])
   simp only [List.cons.injEq,and_true] at e0 e1 e2 e3 e4 f0 f1 f2 f3 f4 f5 f7 f8 f9 f10 f12 f13 f14
   subst e0 e1 e2 e3 e4 f0 f1 f2 f3 f4 f5 f7 f8 f9 f10 f12 f13 f14
   refine⟨⟨n0,n1,n2,n3,s4.data.toList,a0,a2,⟨0,a1,0,a3.data.toList,a4.data.toList,a5.data.toList,l6,a7,a8,a9,a10,l11,a12,a13.data.toList,a14.data.toList⟩⟩,v11,v16,by simp [opC],?_,?_,b6,b11,r6,r11,o6,o11⟩
   ·exact⟨by show a3.data.toList.length≤_;omega,by show a4.data.toList.length≤_;omega,by show a5.data.toList.length≤_;omega,t6,t11,by show a13.data.toList.length≤_;omega,by show a14.data.toList.length≤_;omega⟩
   ·show s4.data.toList.length≤_
    omega
theorem open_sc {W:World}{b0:Nat}{v:Value}{d:DataW H}{ps:List MemPlace}(hv:Value.okWide Tryz.prog W .any b0 22 v)(h:DataW.Trod enc Tryz.prog W 0 (fun _=>true) true 22 v d ps)
  (hw:∀n∈d.weights Tryz.prog 22,n≤140737488351232):∃ds:List (OpD×Value×Value),Sc W W v ds:=by
 obtain⟨A,n,c,rfl⟩:=okWide_slice Tryz.underlying22 hv
 obtain⟨fuel,hf⟩:=h
 rcases open_slice Tryz.underlying22 hf with ⟨hc,hx⟩ | ⟨a,len,cap,m,n',D,Pl,hc,_,hl,hm,hmm,hx,hi⟩
 ·have e:Value.slice A n c = .slice none 0 0:=by simpa [Value.cells] using hc
  rw [e]
  exact⟨[],none,0,rfl,by simp,fun i hi=>by cases hi⟩
 ·have e:Value.slice A n c = .slice (some a) len cap:=by simpa [Value.cells] using hc
  rw [e]
  obtain⟨hd,_⟩:=Prod.mk.inj hx
  subst hd
  have hlm:len≤m:=by rw [hmm];simp;exact hl
  have hlw:(len+(m - len))*Tryz.prog.bytesOf 33≤140737488351232:=hw _ (by simp [DataW.weights,Tryz.underlying22])
  have hlen2:len≤1000000000000:=by
   have h1:(len+(m - len))*141≤(len+(m - len))*Tryz.prog.bytesOf 33:=Nat.mul_le_mul_left _ bytes33
   omega
  have each:∀i,∃o:OpD×Value×Value,i<len→OpW W o.1 o.2.1 o.2.2∧W.cells? 0 (a.add (i*20)) 20=some (opC o.1 o.2.1 o.2.2).toList:=by
   intro i
   by_cases hil:i<len
   ·obtain⟨cs',h2,h3⟩:=hi i (by omega)
    rw [cells33] at h2
    obtain⟨o,sv,av,rfl,hok⟩:=open_op h3 (fun n hn=>hw n (by
     simp only [DataW.weights,Tryz.underlying22,List.mem_cons,List.mem_append]
     exact .inr (.inl (weights_all (List.mem_map.2 ⟨i,List.mem_range.2 hil,rfl⟩) hn))))
    exact⟨(o,sv,av),fun _=>⟨hok,h2⟩⟩
   ·exact⟨(⟨0,0,0,0,[],0,0,⟨0,0,0,[],[],[],[],0,0,false,false,[],0,[],[]⟩⟩,undef,undef),fun h=>absurd h hil⟩
  obtain⟨F,hF⟩:=Classical.skolem.1 each
  have hlen:((List.range len).map F).length=len:=by simp
  refine⟨(List.range len).map F,some a,cap,by rw [hlen],by rw [hlen];exact hlen2,fun i hi'=>?_⟩
  have hil:i<len:=by rwa [hlen] at hi'
  have hg:((List.range len).map F)[i]=F i:=by simp
  rw [hg]
  have h0:0<len:=by omega
  obtain⟨_,_,hc0⟩:=World.cells?_some (hF 0 h0).2
  have e0:(a.add (0*20)).add 0=a:=by simp [Addr.add]
  have c0:W.cell? a=some (.int .i64 (F 0).1.on):=by
   have:=hc0 0 (by omega)
   rw [e0] at this
   simpa [opC] using this
  have hadd:=add_off c0
  obtain⟨_,_,hci⟩:=World.cells?_some (hF i hil).2
  refine⟨(hF i hil).1,a.block,a.off,by have:=hadd 0;simpa [Addr.add] using this,?_⟩
  intro j v hj
  have hjl:j<20:=by
   have:=(List.getElem?_eq_some_iff.1 hj).1
   simpa [opC] using this
  have h1:=hci j hjl
  rw [hadd,Addr.add_mid] at h1
  rw [h1]
  exact hj
theorem mx_of_shaped {W:World}(h:W.ShapedOpen Tryz.prog): Mx W:=
 cell_of_shapedOpen_int (g:=1) (t:=3) (zero:=#[.int .i64 0]) h (of_decide_eq_true (by kernel_rfl)) (by kernel_rfl) rfl (by kernel_rfl) (by kernel_rfl) Tryz.underlying3
end
end Go.Proofs.YthogppennalobaaGreatDoor
namespace Go.Proofs.YthogppennalobaaGreatDoor
open Go.ChangeShapes Go.WideShapes Go.ChangeAt Go.ChangeMaps Go.RowKit Go.Deep
theorem pow_eq:Rows.laid_internal_strconv_uint64pow10 (H:=Unit)=Lib.tabData .u64 Lib.pow10Tab:=by kernel_rfl
theorem tb_of_laid {W:World}(hL:laidMetH Tryz.prog Rows.forestStaysRow.laid W): Tb W:=by
 have hL : laidMetH Tryz.prog [("math/bits.deBruijn32tab", Rows.laid_math_bits_deBruijn32tab), ("math/bits.deBruijn64tab", Rows.laid_math_bits_deBruijn64tab), ("internal/strconv.uint64pow10", Rows.laid_internal_strconv_uint64pow10), ("strconv.ErrRange", Rows.laid_strconv_ErrRange), ("strconv.ErrSyntax", Rows.laid_strconv_ErrSyntax)] W := hL
 rw [pow_eq] at hL
 obtain⟨g',t',cs,fuel,p,hg',ht',hvar,hd⟩:=Lib.laidMet.reads hL (.tail _ (.tail _ (.head _)))
 obtain rfl := Option.some.inj ((show Tryz.prog.globalNamed "internal/strconv.uint64pow10" = some 0 by kernel_rfl).symm.trans hg')
 obtain rfl:=Option.some.inj ((show(Tryz.prog.globals[0]?).map (·.type)=some 186 by kernel_rfl).symm.trans ht')
 unfold Tb Lib.TabIs
 rw [hvar,← Lib.cells_of_tab Tryz.underlying186 Tryz.underlying163 (by kernel_rfl) (by kernel_rfl) hd]
end Go.Proofs.YthogppennalobaaGreatDoor
namespace Go.Proofs.YthogppennalobaaGreatDoor
open Go.RowKit Go.Sort Forest OwnR TxO Pl
def overP (l:List Nd)(id:Int): Bool:=match findI l id with
 |none=>true
 |some n=>n.spent||struck l n.id
theorem find_of {l:List Nd}(h:Ok l){n:Nd}(hn:n∈l): findI l (n.id:Int)=some n:=by
 have h1:=at_of h hn
 unfold findI
 unfold at' at h1
 rw [← h1]
 congr 1
 funext m
 by_cases e:m.id=n.id
 ·rw [e];simp
 ·rw [beq_eq_false_iff_ne.2 e,beq_eq_false_iff_ne.2 (by omega)]
set_option maxHeartbeats 8000000 in
theorem over_any {w0 w:World}{f:Nat}{ns:Ns}{l:List Nd}{x:Int}(e0:nodes ns=l)(h:Nf w0 w f ns x)(hl:Inv l x)(id:Int): Calls Tryz.prog 25 #[kpt f,.int .i64 id] w fun e w'=>e = .returned (.bool (overP l id))∧Below w.heap.size w w':=by
 have HG:Hid (∀W,Below w.heap.size w W→∀A:Int,Calls Tryz.prog 34 #[.pointer (some ⟨f,0,none⟩),.int .i64 A] W fun e w'=>∃c b,e = .returned (.tuple #[.agg c,.bool b])∧Told w' (findI l A) c b∧Below W.heap.size W w'):=Lib.hid (fun W hb A=>(get_call (h.fr.below hb) (few_ns e0 hl) (by rw [e0];exact hl.short) A).mono fun _ _ h2=>by rw [e0] at h2;exact h2.told)
 have HP:Hid (∀W,Below w.heap.size w W→Calls Tryz.prog 29 #[.pointer (some ⟨f,0,none⟩),.int .i64 id] W fun e w'=>∃v,e = .returned v∧Ri w' v (pathN l id)∧Below W.heap.size W w'):=Lib.hid (fun W hb=>(path_call (h.fr.below hb) (few_ns e0 hl) id).mono (by
  rintro _ w' ⟨v,rfl,h2⟩
  rw [e0] at h2
  exact⟨v,rfl,ri_path h2,h2.2.1⟩))
 have HI:=Lib.hid hl
 obtain⟨R,hR⟩:∃R,R=overP l id:=⟨_,rfl⟩
 rw [← hR]
 have HR:=Lib.hid hR
 clear h hl hR e0
 unfold kpt
 go_enter Tryz.func25,Tryz.ntmps25
 go_wp2_with fail
 refine(HG.out w (Below.refl _ _) id).mono ?_
 rintro e w1 ⟨c,b,rfl,h1,h2⟩
 obtain⟨U,hU⟩:∃U,U=w1.alloc (.cells zeroN 31):=⟨_,rfl⟩
 obtain⟨V,hV⟩:∃V,V=U.setRow w1.heap.size c:=⟨_,rfl⟩
 obtain⟨q,hq⟩:∃q,q=w1.heap.size:=⟨_,rfl⟩
 have Z:Hid (Bk 31 U w1.heap.size zeroN):=Lib.hid (by rw [hU];exact Bk.new rfl)
 have X:Hid (Box w1 V q c):=Lib.hid (by rw [hV,hq,hU];exact Box.of)
 have TD:=Lib.hid (h1.below X.out.below)
 have S:=Lib.hid h1.size
 have G:Hid (Below w.heap.size w V):=Lib.hid (h2.trans (X.out.below.mono h2.size))
 have HV:=Lib.hid hV
 have HU:=Lib.hid hU
 have HQ:=Lib.hid hq
 clear h1 h2 hV hU hq
 obtain⟨o,ho⟩:∃o,o=findI l id:=⟨_,rfl⟩
 rw [← ho] at TD
 cases o with
 |none=>
  obtain rfl:b=false:=TD.out.1
  have HT:Hid (R=true):=Lib.hid (by rw [HR.out];unfold overP;rw [← ho])
  clear ho
  go_wp2_with (have hu:=HU.out;unfold zeroN at hu;rw [← hu];clear hu;refine wpList_put rfl 31 _ _ rfl w1.heap.size zeroN c rfl rfl Z.out (by rw [S.out.1];exact i31) (by rw [S.out.1];rfl) S.out.2 ?_;rw [← HV.out,← HQ.out])
  go_ret
  exact⟨by rw [HT.out];rfl,G.out⟩
 |some n=>
  obtain rfl:b=true:=TD.out.1
  have hno:=Lib.hid ho
  have cs:V.cell? ⟨q,10,none⟩=some (.bool n.spent):=by
   obtain⟨_,n',sv,av,tc,_,_,hn'⟩:=TD.out
   have hn2:n'=n:=hn'
   subst hn2
   have:=X.out.bk.cell 10
   rw [this,tc]
   rfl
  obtain⟨sp,hsp⟩:∃sp,sp=n.spent:=⟨_,rfl⟩
  have HSP:=Lib.hid hsp
  rw [← hsp] at cs
  clear ho hsp
  cases sp with
  |true=>
   have HT:Hid (R=true):=Lib.hid (by rw [HR.out];unfold overP;rw [← hno.out];simp [← HSP.out])
   go_wp2_with (have hu:=HU.out;unfold zeroN at hu;rw [← hu];clear hu;refine wpList_put rfl 31 _ _ rfl w1.heap.size zeroN c rfl rfl Z.out (by rw [S.out.1];exact i31) (by rw [S.out.1];rfl) S.out.2 ?_;rw [← HV.out,← HQ.out])
   go_ret
   exact⟨by rw [HT.out];rfl,G.out⟩
  |false=>
   have HT:Hid (R=struck l n.id):=Lib.hid (by rw [HR.out];unfold overP;rw [← hno.out];simp [← HSP.out])
   go_wp2_with (have hu:=HU.out;unfold zeroN at hu;rw [← hu];clear hu;refine wpList_put rfl 31 _ _ rfl w1.heap.size zeroN c rfl rfl Z.out (by rw [S.out.1];exact i31) (by rw [S.out.1];rfl) S.out.2 ?_;rw [← HV.out,← HQ.out])
   refine(HP.out V G.out).mono ?_
   rintro e w2 ⟨v,rfl,h1,h2⟩
   obtain⟨a,pc,rfl,hcell⟩:=h1
   have HC:=Lib.hid hcell
   have G2:=Lib.hid (G.out.trans (h2.mono G.out.size))
   have HPN:Hid (pathN l id=(path l n.id).map fun m=>(m.id:Int)):=Lib.hid (by unfold pathN pathI;rw [← hno.out])
   clear hcell h2 HP
   obtain⟨P,hP⟩:∃P,P=path l n.id:=⟨_,rfl⟩
   have HPM:Hid (∀m∈P,m∈l):=Lib.hid (fun m hm=>(path_mem HI.out.ok n.id m (hP▸hm)).1)
   have HRP:Hid (R=P.any (·.dead)):=Lib.hid (by rw [HT.out,hP];rfl)
   obtain⟨k,hk⟩:∃k,k=(pathN l id).length:=⟨_,rfl⟩
   have HK:Hid (k=P.length):=Lib.hid (by rw [hk,HPN.out,List.length_map,hP])
   have HKB:Hid (k≤1000000000):=Lib.hid (by rw [hk];exact path_few HI.out id)
   have HC2:Hid (∀i (h:i<P.length),∃b o,a=some ⟨b,o,none⟩∧w2.cell? ⟨b,o+i,none⟩=some (.int .i64 (P[i].id:Int))):=Lib.hid (fun i hi=>by
    have e1:pathN l id=P.map fun m=>(m.id:Int):=by rw [HPN.out,hP]
    obtain⟨b,o,h3,h4⟩:=HC.out i (by rw [← hk,HK.out];exact hi)
    refine⟨b,o,h3,h4.trans ?_⟩
    simp only [e1,List.getElem_map])
   rw [← hk]
   clear HC HPN hP hk HT
   go_wp2_with fail
   go_loopw [8] (fun iv wr=>∃i:Nat,i≤k∧iv = .int .i64 (i:Int)∧Hid (Below w2.heap.size w2 wr)∧Hid ((P.take i).any (·.dead)=false)) (fun iv _=>k - (intOf iv).toNat)
   case atStart=>exact⟨0,Nat.zero_le _,rfl,Lib.hid (Below.refl _ _),Lib.hid rfl⟩
   case round=>
    obtain⟨i,hi,rfl,HB,HD⟩:=hrel
    have hkb:=HKB.out
    by_cases hlt:i<k
    ·have hltI:(i:Int)<(k:Int):=by omega
     have hip:i<P.length:=by rw [← HK.out];exact hlt
     obtain⟨p,hp⟩:∃p,P[i]'hip=p:=⟨_,rfl⟩
     obtain⟨pb,po,rfl,hc⟩:=HC2.out i hip
     rw [hp] at hc
     have hc2:=cell_below HB.out hc
     have HF:Hid (findI l (p.id:Int)=some p):=Lib.hid (find_of HI.out.ok (HPM.out p (hp▸List.getElem_mem hip)))
     have HTK:Hid ((P.take (i+1)).any (·.dead)=((P.take i).any (·.dead)||p.dead)):=Lib.hid (by rw [List.take_add_one,List.getElem?_eq_getElem hip,hp,List.any_append];simp)
     have HIN:Hid (p.dead=true→R=true):=Lib.hid (fun h=>by
      rw [HRP.out,List.any_eq_true]
      exact⟨p,hp▸List.getElem_mem hip,h⟩)
     have GW:=Lib.hid (G2.out.trans (HB.out.mono G2.out.size))
     obtain⟨pid,hpid⟩:∃z:Int,z=(p.id:Int):=⟨_,rfl⟩
     rw [← hpid] at hc2 HF
     clear hc hp hip hpid
     go_wp2_with fail
     refine(HG.out wr GW.out pid).mono ?_
     rintro e w5 ⟨c5,b5,rfl,h1,h2⟩
     obtain⟨U5,hU⟩:∃U,U=w5.alloc (.cells zeroN 31):=⟨_,rfl⟩
     obtain⟨V5,hV⟩:∃V,V=U5.setRow w5.heap.size c5:=⟨_,rfl⟩
     obtain⟨q5,hq⟩:∃q,q=w5.heap.size:=⟨_,rfl⟩
     have Z5:Hid (Bk 31 U5 w5.heap.size zeroN):=Lib.hid (by rw [hU];exact Bk.new rfl)
     have X5:Hid (Box w5 V5 q5 c5):=Lib.hid (by rw [hV,hq,hU];exact Box.of)
     have S5:=Lib.hid h1.size
     have G5:Hid (Below w2.heap.size w2 V5):=Lib.hid (by
      have h3:=HB.out.trans (h2.mono HB.out.size)
      exact h3.trans (X5.out.below.mono h3.size))
     have cd:V5.cell? ⟨q5,9,none⟩=some (.bool p.dead):=by
      rw [HF.out] at h1
      obtain⟨_,n',sv,av,tc,_,_,hn'⟩:=h1
      have hn2:n'=p:=hn'
      subst hn2
      have:=X5.out.bk.cell 9
      rw [this,tc]
      rfl
     have HV5:=Lib.hid hV
     have HU5:=Lib.hid hU
     have HQ5:=Lib.hid hq
     obtain⟨dd,hdd⟩:∃dd,dd=p.dead:=⟨_,rfl⟩
     rw [← hdd] at cd HTK HIN
     clear h1 h2 hV hU hq hc2 hdd
     cases dd with
     |true=>
      have HRT:Hid (R=true):=Lib.hid (HIN.out rfl)
      clear HIN
      go_wp2_with (have hu:=HU5.out;unfold zeroN at hu;rw [← hu];clear hu;refine wpList_put rfl 31 _ _ rfl w5.heap.size zeroN c5 rfl rfl Z5.out (by rw [S5.out.1];exact i31) (by rw [S5.out.1];rfl) S5.out.2 ?_;rw [← HV5.out,← HQ5.out])
      go_ret
      exact⟨by rw [HRT.out];rfl,G2.out.trans (G5.out.mono G2.out.size)⟩
     |false=>
      have HT2:Hid ((P.take (i+1)).any (·.dead)=false):=Lib.hid (by rw [HTK.out,HD.out];rfl)
      go_wp2_with (have hu:=HU5.out;unfold zeroN at hu;rw [← hu];clear hu;refine wpList_put rfl 31 _ _ rfl w5.heap.size zeroN c5 rfl rfl Z5.out (by rw [S5.out.1];exact i31) (by rw [S5.out.1];rfl) S5.out.2 ?_;rw [← HV5.out,← HQ5.out])
      go_roundw
      case rel=>exact⟨i+1,by omega,by go_num,G5,HT2⟩
      case measure=>simp [intOf];omega
    ·have hie:i=k:=by omega
     have hltI:¬(i:Int)<(k:Int):=by omega
     have HRF:Hid (R=false):=Lib.hid (by
      have h3:=HD.out
      rw [List.take_of_length_le (by rw [← HK.out];omega)] at h3
      rw [HRP.out,h3])
     clear hie
     go_wp2_with fail
     go_ret
     exact⟨by rw [HRF.out];rfl,G2.out.trans (HB.out.mono G2.out.size)⟩
end Go.Proofs.YthogppennalobaaGreatDoor
namespace Go.Proofs.YthogppennalobaaGreatDoor
open Go.RowKit Go.Sort Forest OwnR TxO Pl
theorem over_set {l:List Nd}(h:Ok l){F:Nd→Nd}(hF:Mild F)(id:Nat)(hd:∀n,n.dead=true→(F n).dead=true)(hs:∀n,n.spent=true→(F n).spent=true){k:Nat}(ho:over l k): over (setN l id F) k:=by
 refine over_map (hF.set id) (fun n=>(if n.id=id then F n else n).dead) (fun n=>?_) (fun n hn=>?_) h ho
 ·cases e:n.dead with
  |false=>simp
  |true=>
   split
   ·rw [hd n e];rfl
   ·rw [e];rfl
 ·split
  ·exact hs n hn
  ·exact hn
theorem over_plant {l:List Nd}{x:Int}(h:Inv l x)(p now:Int)(n:Nd)(hn:Mid n){k:Nat}(hk:(k:Int)<x)(ho:over l k): over (plantP l x p n now).2.2.1 k∧x≤(plantP l x p n now).2.2.2:=by
 have hI:=inv_plant h p now n hn
 have hpr:over (prune l now) k:=over_part h.ok (keeps_part h.ok now) ho
 revert hI
 unfold plantP
 split
 ·split
  ·exact fun _=>⟨ho,Int.le_refl _⟩
  ·split
   ·exact fun _=>⟨ho,Int.le_refl _⟩
   ·split
    ·exact fun _=>⟨hpr,Int.le_refl _⟩
    ·intro hI
     refine⟨over_snoc (h.ok.filter _) hI.ok (by show k<x.toNat;omega) hpr,by show x≤x+1;omega⟩
 ·exact fun _=>⟨ho,Int.le_refl _⟩
theorem over_step {l:List Nd}{x:Int}(h:Inv l x)(d:OpD)(hn:Mid d.n){k:Nat}(hk:(k:Int)<x)(ho:over l k): over (stepP l x d).1 k∧x≤(stepP l x d).2:=by
 have hkill:∀id,over (setN l id killF) k:=fun id=>over_set h.ok mild_kill id (fun _ _=>rfl) (fun _ hs=>hs) ho
 unfold stepP
 split
 ·exact over_plant h d.p d.a d.n hn hk ho
 ·split
  ·refine⟨?_,Int.le_refl _⟩
   unfold spendP
   split
   ·exact ho
   ·split
    ·exact hkill _
    ·split
     ·exact over_set h.ok mild_spend _ (fun _ hd=>hd) (fun _ _=>rfl) ho
     ·exact ho
  ·split
   ·refine⟨?_,Int.le_refl _⟩
    unfold killP
    split
    ·exact ho
    ·exact hkill _
   ·split
    ·refine⟨?_,Int.le_refl _⟩
     refine over_map (f:=fun n=>if isOfP n d.s then killF n else n) ⟨fun n=>by split<;>rfl,fun n=>by split<;>rfl⟩ (fun n=>isOfP n d.s) (fun n=>?_) (fun n hs=>?_) h.ok ho
     ·split
      ·rename_i e;rw [e];simp [killF]
      ·rename_i e;simp [e]
     ·split
      ·exact hs
      ·exact hs
    ·split
     ·refine⟨?_,Int.le_refl _⟩
      unfold liftP
      split
      ·exact ho
      ·split
       ·exact over_set h.ok (mild_lift _) _ (fun _ hd=>hd) (fun _ hs=>hs) ho
       ·exact ho
     ·split
      ·refine⟨?_,Int.le_refl _⟩
       unfold noteP
       split
       ·exact ho
       ·split
        ·exact over_set h.ok (mild_note _) _ (fun _ hd=>hd) (fun _ hs=>hs) ho
        ·exact ho
      ·split
       ·exact⟨over_part h.ok (keeps_part h.ok d.a) ho,Int.le_refl _⟩
       ·exact⟨ho,Int.le_refl _⟩
theorem live_over {l:List Nd}{k:Nat}(h:Ok l)(ho:over l k)(now:Int): liveP l (k:Int) now=false:=by
 unfold liveP
 cases e:findI l (k:Int) with
 |none=>rfl
 |some n=>
  have hm:n∈l:=List.mem_of_find?_eq_some e
  have he:=List.find?_some e
  have h2:(n.id:Int)=k:=by simpa using he
  have hk:n.id=k:=by omega
  subst hk
  exact over_live (at_of h hm) ho now
theorem over_of {l:List Nd}(h:Ok l){n:Nd}(hn:n∈l)(ho:overP l (n.id:Int)=true): over l n.id:=by
 unfold overP at ho
 rw [find_of h hn] at ho
 intro m hm
 rw [at_of h hn] at hm
 cases hm
 simpa [Bool.or_eq_true] using ho
end Go.Proofs.YthogppennalobaaGreatDoor
namespace Go.Proofs.YthogppennalobaaGreatDoor.Pl
open Go.RowKit Go.Sort
noncomputable def stPO:Array Oper:=(Tryz.f5.body.bind fun c=>findR c 18).getD #[]
def stP_m:List (List Nat):=[[],[],[],[],[],[],[],[],[],[],[],[],[11],[11],[11],[11],[11]]
set_option maxHeartbeats 16000000 in
theorem stP (PW:Bool→World→Prop)(f q o N c i:Nat)(A r s:Int)(cs:List Value)(w:World)  (cl11:∀(w:World),PW false w→Calls Tryz.prog 26 #[.pointer (some ⟨f,0,none⟩),.agg cs.toArray,.int .i64 A] w fun e w1=>e = .returned (.tuple #[.int .i64 r,.int .i64 s])∧PW true  w1)(lk:∀(b11:Bool) (w:World),PW b11 w→w.rangeAt q (o+i*20+5) cs)(la:∀(b11:Bool) (w:World),PW b11 w→w.cell? ⟨q,o+i*20+2,none⟩=some (.int .i64 A))(hcs:cs.length=15)(hiN:i<N)(hiI:(i:Int)<(N:Int)){t0 t2 t3 t4 t5 t6 t8 t9 t10 t11 t12 t14 t15 t16 t17 t18 t19 t20 t21 t22 t23 t24 t25 t26 t27 t28 t29 t30 t31 t32 t33 t34 t35 t36 t37 t38 t39 t40 t41 t42 t43 t44 t45 t46 t47 t48 t49 t50 t51 t52 t53 t54 t55 t56 t57 t58 t59 t60 t61 t62 t63 t64 t65 t66 t67 t68 t69 t70 t71 t72 t73 t74 t75 t76 t77 t78 t79 t80 t81 t82 t83 t84 t85 t86 t87 t88 t89 t90 t91 t92 t93 t94 t95 t96 t97 t98 t99 t100 t101 t102 t103 t104 t105 t106 t107 t108 t109 t110 t111 t112 t113 t114 t115 t116 t117 t118 t119 t120 t121 t122 t123 t124 t125 t126:Value}(w0:PW false  w.drew){ds:List Deferred}{Q:Exit→Act→World→Prop}
  (h:∀(w1:World),PW true  w1→Q .normal {tmps:=#[t0,.slice (some ⟨q,o,none⟩) N c,t2,t3,t4,t5,t6,.pointer (some ⟨f,0,none⟩),t8,t9,t10,t11,t12,.int .i64 (i:Int),.int .i64 r,.int .i64 s,t16,t17,t18,t19,t20,t21,t22,t23,t24,t25,t26,t27,t28,t29,t30,t31,t32,t33,t34,t35,t36,t37,t38,t39,t40,t41,t42,t43,t44,t45,t46,t47,t48,t49,t50,t51,t52,t53,t54,t55,t56,t57,t58,t59,t60,t61,t62,t63,t64,.tuple #[.int .i64 r,.int .i64 s],.pointer (some ⟨f,0,none⟩),.slice (some ⟨q,o,none⟩) N c,.int .i64 (i:Int),.pointer (some ⟨q,o+i*20,none⟩),.pointer (some ⟨q,o+i*20+5,none⟩),.agg cs.toArray,.slice (some ⟨q,o,none⟩) N c,.int .i64 (i:Int),.pointer (some ⟨q,o+i*20,none⟩),.pointer (some ⟨q,o+i*20+2,none⟩),.int .i64 A,.tuple #[.int .i64 r,.int .i64 s],.int .i64 r,.int .i64 s,t80,t81,t82,t83,t84,t85,t86,t87,t88,t89,t90,t91,t92,t93,t94,t95,t96,t97,t98,t99,t100,t101,t102,t103,t104,t105,t106,t107,t108,t109,t110,t111,t112,t113,t114,t115,t116,t117,t118,t119,t120,t121,t122,t123,t124,t125,t126],defers:=ds} w1) :
  (Code.region 18 stPO true).wp Tryz.prog Q {tmps:=#[t0,.slice (some ⟨q,o,none⟩) N c,t2,t3,t4,t5,t6,.pointer (some ⟨f,0,none⟩),t8,t9,t10,t11,t12,.int .i64 (i:Int),t14,t15,t16,t17,t18,t19,t20,t21,t22,t23,t24,t25,t26,t27,t28,t29,t30,t31,t32,t33,t34,t35,t36,t37,t38,t39,t40,t41,t42,t43,t44,t45,t46,t47,t48,t49,t50,t51,t52,t53,t54,t55,t56,t57,t58,t59,t60,t61,t62,t63,t64,t65,t66,t67,t68,t69,t70,t71,t72,t73,t74,t75,t76,t77,t78,t79,t80,t81,t82,t83,t84,t85,t86,t87,t88,t89,t90,t91,t92,t93,t94,t95,t96,t97,t98,t99,t100,t101,t102,t103,t104,t105,t106,t107,t108,t109,t110,t111,t112,t113,t114,t115,t116,t117,t118,t119,t120,t121,t122,t123,t124,t125,t126],defers:=ds} w:=by
 have hsz:stPO.size=17:=by kernel_rfl
 generalize hT:List.toArray _=T0
 have hs:T0.size=127:=by subst hT;rfl
 have g1:T0.getD 1 undef = .slice (some ⟨q,o,none⟩) N c:=by subst hT;rfl
 have g7:T0.getD 7 undef = .pointer (some ⟨f,0,none⟩):=by subst hT;rfl
 have g13:T0.getD 13 undef = .int .i64 (i:Int):=by subst hT;rfl
 obtain⟨W,hV⟩:∃W:List ((Nat×(Value→Value)) ⊕ Value),W=[.inr (.pointer (some ⟨f,0,none⟩)),.inr (.slice (some ⟨q,o,none⟩) N c),.inr (.int .i64 (i:Int)),.inr (.pointer (some ⟨q,o+i*20,none⟩)),.inr (.pointer (some ⟨q,o+i*20+5,none⟩)),.inr (.agg cs.toArray),.inr (.slice (some ⟨q,o,none⟩) N c),.inr (.int .i64 (i:Int)),.inr (.pointer (some ⟨q,o+i*20,none⟩)),.inr (.pointer (some ⟨q,o+i*20+2,none⟩)),.inr (.int .i64 A),.inr (.tuple #[.int .i64 r,.int .i64 s]),.inr (.tuple #[.int .i64 r,.int .i64 s]),.inr (.int .i64 r),.inr (.int .i64 s),.inr (.int .i64 r),.inr (.int .i64 s)]:=⟨_,rfl⟩
 refine wp_plan (by kernel_rfl) T0 ds [11] stP_m (mkV W) (fun dx yx wx=>PW (dx 11)  wx) w (by rw [hs];kernel_rfl) (by kernel_rfl) (by kernel_rfl) (by rw [hsz];decide) (fun cx hc ix hne ha yx vx=>mkV_fix (by rw [hV];kernel_rfl) hne ha yx vx) (?key) (fun cx hc ox ho dx yx Tx wx hd hdb hda hK hW=>?_) ⟨fun k=>undef,w0⟩ (fun dx yx wx hd hW=>?_)
 case key=>
  rw [hsz]
  refine all_step (all_step (all_step (all_step (all_step (all_step (all_step (all_step (all_step (all_step (all_step (all_step (all_step (all_step (all_step (all_step (all_step all_zero ?_) ?_) ?_) ?_) ?_) ?_) ?_) ?_) ?_) ?_) ?_) ?_) ?_) ?_) ?_) ?_) ?_
  all_goals
   intro ox ho hic dx yx Tx wx hdb hK hW
   replace hdb:=Lib.hid hdb
  ·exact pl0 66 7 23 ho hK (by kernel_rfl) (by kernel_rfl) g7 (by subst hV;rfl) fun ps af e=>k_mv e
  ·exact pl0 67 1 22 ho hK (by kernel_rfl) (by kernel_rfl) g1 (by subst hV;rfl) fun ps af e=>k_mv e
  ·exact pl0 68 13 3 ho hK (by kernel_rfl) (by kernel_rfl) g13 (by subst hV;rfl) fun ps af e=>k_mv e
  ·obtain⟨ps,af,rfl⟩:=core (some 69) (.indexAddr 22 (.tmp 67) (.tmp 68)) 0 none ho (by kernel_rfl)
   have e67:Tx.getD 67 undef = .slice (some ⟨q,o,none⟩) N c:=hK.is 1 ho (by kernel_rfl) (by subst hV;rfl)
   have e68:Tx.getD 68 undef = .int .i64 (i:Int):=hK.is 2 ho (by kernel_rfl) (by subst hV;rfl)
   exact wpOp_plain ho rfl (by subst hV;go_simp;try rfl)
  ·obtain⟨ps,af,rfl⟩:=core (some 70) (.fieldAddr 33 (.tmp 69) 5) 0 none ho (by kernel_rfl)
   have e69:Tx.getD 69 undef = .pointer (some ⟨q,o+i*20,none⟩):=hK.is 3 ho (by kernel_rfl) (by subst hV;rfl)
   exact wpOp_plain ho rfl (by subst hV;go_simp;try rfl)
  ·obtain⟨ps,af,rfl⟩:=core (some 71) (.load 31 (.tmp 70)) 31 none ho (by kernel_rfl)
   have e70:Tx.getD 70 undef = .pointer (some ⟨q,o+i*20+5,none⟩):=hK.is 4 ho (by kernel_rfl) (by subst hV;rfl)
   have hl:=lk _ _ hW
   exact wpOp_plain ho rfl (by subst hV;exact wp_load_mid 31 _ rfl q (o+i*20+5) (by first | exact e70 | rfl) cs _ hl Tryz.underlying31 rfl (by rw [hcs];exact i31) ⟨rfl,rfl⟩)
  ·exact pl0 72 1 22 ho hK (by kernel_rfl) (by kernel_rfl) g1 (by subst hV;rfl) fun ps af e=>k_mv e
  ·exact pl0 73 13 3 ho hK (by kernel_rfl) (by kernel_rfl) g13 (by subst hV;rfl) fun ps af e=>k_mv e
  ·obtain⟨ps,af,rfl⟩:=core (some 74) (.indexAddr 22 (.tmp 72) (.tmp 73)) 0 none ho (by kernel_rfl)
   have e72:Tx.getD 72 undef = .slice (some ⟨q,o,none⟩) N c:=hK.is 6 ho (by kernel_rfl) (by subst hV;rfl)
   have e73:Tx.getD 73 undef = .int .i64 (i:Int):=hK.is 7 ho (by kernel_rfl) (by subst hV;rfl)
   exact wpOp_plain ho rfl (by subst hV;go_simp;try rfl)
  ·obtain⟨ps,af,rfl⟩:=core (some 75) (.fieldAddr 33 (.tmp 74) 2) 0 none ho (by kernel_rfl)
   have e74:Tx.getD 74 undef = .pointer (some ⟨q,o+i*20,none⟩):=hK.is 8 ho (by kernel_rfl) (by subst hV;rfl)
   exact wpOp_plain ho rfl (by subst hV;go_simp;try rfl)
  ·obtain⟨ps,af,rfl⟩:=core (some 76) (.load 3 (.tmp 75)) 3 none ho (by kernel_rfl)
   have e75:Tx.getD 75 undef = .pointer (some ⟨q,o+i*20+2,none⟩):=hK.is 9 ho (by kernel_rfl) (by subst hV;rfl)
   have hl:=la _ _ hW
   exact wpOp_plain ho rfl (by subst hV;go_simp;try rfl)
  ·exact absurd (by decide) hic
  ·exact pl1 65 77 11 57 ho hK (by kernel_rfl) (by kernel_rfl) (by subst hV;rfl) (by subst hV;rfl) fun ps af e=>k_mv e
  ·obtain⟨ps,af,rfl⟩:=core (some 78) (.extract (.tmp 65) 0) 3 none ho (by kernel_rfl)
   have e65:Tx.getD 65 undef = .tuple #[.int .i64 r,.int .i64 s]:=hK.is 12 ho (by kernel_rfl) (by subst hV;rfl)
   exact wpOp_plain ho rfl (by subst hV;go_simp;try rfl)
  ·obtain⟨ps,af,rfl⟩:=core (some 79) (.extract (.tmp 65) 1) 48 none ho (by kernel_rfl)
   have e65:Tx.getD 65 undef = .tuple #[.int .i64 r,.int .i64 s]:=hK.is 12 ho (by kernel_rfl) (by subst hV;rfl)
   exact wpOp_plain ho rfl (by subst hV;go_simp;try rfl)
  ·exact pl1 14 78 13 3 ho hK (by kernel_rfl) (by kernel_rfl) (by subst hV;rfl) (by subst hV;rfl) fun ps af e=>k_as e
  ·exact pl1 15 79 14 48 ho hK (by kernel_rfl) (by kernel_rfl) (by subst hV;rfl) (by subst hV;rfl) fun ps af e=>k_as e
 ·obtain rfl:cx=11:=by simpa using hc
  ·obtain⟨ps,af,rfl⟩:=core (some 77) (.call {callee:= .value (.func 26),args:=#[.tmp 66,.tmp 71,.tmp 76],argTypes:=#[23,31,3]}) 57 none ho (by kernel_rfl)
   have e66:Tx.getD 66 undef = .pointer (some ⟨f,0,none⟩):=hK.is 0 ho (by kernel_rfl) (by subst hV;rfl)
   have e71:Tx.getD 71 undef = .agg cs.toArray:=hK.is 5 ho (by kernel_rfl) (by subst hV;rfl)
   have e76:Tx.getD 76 undef = .int .i64 A:=hK.is 10 ho (by kernel_rfl) (by subst hV;rfl)
   have hW1:PW (dx 11)  wx:=hW
   clear hdb hda
   rw [hd] at hW1
   clear hd hW hc
   refine wpOp_plain ho rfl ?_
   go_simp
   go_at_call 26
   refine(cl11 _ hW1).mono ?_
   rintro ex w2 ⟨rfl,hW2⟩
   subst hV
   first | refine⟨undef,rfl,?_⟩ | refine⟨⟨undef,rfl⟩,?_⟩
   simpa [updB,upd] using hW2
 ·have hW1:PW (dx 11)  wx:=hW
  rw [hd 11 (by decide)] at hW1
  have hQ:=h _ hW1
  rw [hsz]
  subst hV hT
  refine cast (congrArg (fun Tx=>Q .normal ⟨Tx,ds⟩ wx) ?_) hQ
  kernel_rfl
end Go.Proofs.YthogppennalobaaGreatDoor.Pl
