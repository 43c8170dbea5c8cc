/- Arguments that are scripts of calls, read as such within the form's reach; what a call leaves that lays new memory alone. No condition. The start of the laws: the library's table out of what a row lists. No condition. The reader of a row The reader of a row The reader of a row The reader of a row -/
import Derived.Test.YthogppennalobaaGreatDoorRows
import Derived.WalkKit
import Derived.ProofKit
import Derived.OpenShut
import Derived.HandedShaped
import Derived.Shelf.Vars
import Derived.Deep.DeepHandedRow
import Derived.Deep.DeepWitnessRowRef
import Derived.PinnedBridge
import Derived.Below
import Derived.Lib.SmallJoins
import Derived.SizedLaws
import Derived.ChangeMaps5
import Derived.ShutString
import Derived.Deep.SlicePairs
import Derived.Deep.Strs
import Derived.Carry
import Derived.Test.YthogppennalobaaGreatDoorZg33
import Derived.Test.YthogppennalobaaGreatDoorCards
import Derived.Test.YthogppennalobaaGreatDoorTie
import Derived.Lib.LaidIn
import Derived.Lib.LaidTab
import Derived.Lay
set_option linter.unusedVariables false
set_option linter.unusedSimpArgs false
set_option maxRecDepth 100000
namespace Go.Proofs.YthogppennalobaaGreatDoor
open Go.ChangeShapes Go.WideShapes Go.ChangeAt Go.ChangeMaps Go.RowKit Go.Deep Forest
theorem own:ownKnob Tryz.prog.godebug=none:=by kernel_rfl
section
variable {H:Type} {enc:TypeId×Value→H} {P:Program}
theorem post_below {f:Func}{s:ChangeSpec}{apart fresh handsOn again:Bool}{W W':World}{args:Array Value}{v:Value}{ds gs:List (DataW H)}{before pa pv:List MemPlace}
  (hW:DataW.Whole enc P f.params.toList s.vars apart W args.toList ds gs before)
  (hres:∀(b:Nat) (sp:Nat→Bool) (hd:Bool),DataW.TrodAll enc P W' b sp hd f.resultTypes.toList (v.resultList f.resultTypes.size) (s.fn H (ds++gs)).results [])
  (hargs:∀sp:Nat→Bool,(∀p∈before,sp p.block=true)→DataW.TrodAll enc P W' 0 sp true f.params.toList args.toList (s.fn H (ds++gs)).args pa)
  (hvars:∀sp:Nat→Bool,(∀p∈before,sp p.block=true)→DataW.TrodVars enc P W' sp s.vars (s.fn H (ds++gs)).vars pv)
  (hps:before=pa++pv) (hb:Below W.heap.size W W')
  (hok:∀(j:Nat) (t:TypeId) (r:Value),f.resultTypes[j]?=some t→(v.resultList f.resultTypes.size)[j]?=some r→Value.okWide P W' .any 0 t r) :
  s.post enc P f apart fresh handsOn again W args v W':=by
 have hlt:∀p∈before,p.block<W.heap.size:=fun p hp=>hW.lt p hp
 have hold:∀p∈before,(fun b=>decide (b<W.heap.size)) p.block=true:=fun p hp=>by simpa using hlt p hp
 refine⟨ds,gs,before,[],pa,pv,hW,hres _ _ _,hargs _ hold,hvars _ hold,World.keptBut_mono (fun p hp=>⟨hp,?_⟩) (hb.frame (·∈before)),fun _=>?_⟩
 ·rw [hps,List.mem_append] at hp
  exact Or.inr hp
 ·obtain⟨_,_,_,_,_,hz,hn⟩:=hW
  refine⟨hok,_,_,([]++pa)++pv,⟨[]++pa,pv,trodAll_append (hargs _ (fun _ _=>rfl)) (hres _ _ _),hvars _ (fun _ _=>rfl),rfl,?_,?_⟩,?_⟩
  ·intro b off hp
   have hin:MemPlace.cell b off∈before:=by rw [hps];simpa using hp
   rw [hb.frozen (hlt _ hin)]
   exact hz b off hin
  ·intro ha
   have:=hn ha
   rw [hps] at this
   simpa using this
  ·intro p hp _
   rw [hps]
   simpa using hp
end
section
variable {H:Type} {enc:TypeId×Value→H}
theorem reach_is:reachBytes≤140737488351232:=by decide
theorem laidOut:laidOutB Tryz.prog=true:=by kernel_rfl
theorem read22:Tryz.prog.readableRec 22=true:=by kernel_rfl
theorem row22:22<Tryz.prog.types.size:=of_decide_eq_true (by kernel_rfl)
theorem trod_keep {t:TypeId}(hr:Tryz.prog.readableRec t=true)(hrow:t<Tryz.prog.types.size){W W':World}{v:Value}{d:DataW H}{ps:List MemPlace}
  (h:DataW.Trod enc Tryz.prog W 0 (fun _=>true) true t v d ps) (hb:Below W.heap.size W W') (hlt:∀x∈ps,x.block<W.heap.size) (sp:Nat→Bool) (hsp:∀x∈ps,sp x.block=true) :
  DataW.Trod enc Tryz.prog W' 0 sp true t v d ps:=
 WideElems.Trod_stays laidOut hr hrow h (fun x hx=>hb.same (hlt x hx)) hsp
theorem cells33:Tryz.prog.cellsOf 33=20:=by kernel_rfl
theorem bytes33:141≤Tryz.prog.bytesOf 33:=of_decide_eq_true (by kernel_rfl)
theorem cells31:Tryz.prog.cellsOf 31=15:=by kernel_rfl
theorem bytes9:Tryz.prog.bytesOf 9=16:=by kernel_rfl
theorem cells3:Tryz.prog.cellsOf 3=1:=by kernel_rfl
theorem cells4:Tryz.prog.cellsOf 4=1:=by kernel_rfl
theorem cells9:Tryz.prog.cellsOf 9=1:=by kernel_rfl
theorem cells29:Tryz.prog.cellsOf 29=1:=by kernel_rfl
theorem add_off {a:Addr}{W:World}{v:Value}(h:W.cell? a=some v)(j:Nat): a.add j=⟨a.block,a.off+j,none⟩:=by
 have hspot:a=⟨a.block,a.off,none⟩:=by
  obtain⟨ab,ao,asp⟩:=a
  cases asp with
  |none=>rfl
  |some x=>
   exfalso
   unfold World.cell? at h
   split at h<;>simp at h
 rw [hspot]
 unfold Addr.add
 split
 ·rename_i h;subst h;rfl
 ·rfl
theorem weights_all {t:TypeId}{n:Nat}{d:DataW H}: ∀ {l:List (DataW H)},d∈l→n∈d.weights Tryz.prog t→n∈DataW.weightsAll Tryz.prog t l
 |x::r,hd,hn=>by
  simp only [DataW.weightsAll,List.mem_append]
  cases List.mem_cons.1 hd with
  |inl e=>subst e;exact .inl hn
  |inr e=>exact .inr (weights_all e hn)
theorem open_rd {W:World}{held:Bool}{fuel:Nat}{v:Value}{x:DataW H×List MemPlace}(h:DataW.trod enc Tryz.prog W 0 (fun _=>true) held fuel 29 [v]=some x)(hw:∀n∈x.1.weights Tryz.prog 29,n≤140737488351232):
  ∃l:List Bs,Rd W v l∧l.length≤8796093022208∧(∀s∈l,s.length≤140737488355328)∧(l≠[]→∀q,v.ownBlock=some q→q<W.heap.size):=by
 rcases open_strs Tryz.underlying29 Tryz.underlying9 cells9 h with ⟨hc,hx⟩ | ⟨a,len,cap,m,Sx,hc,_,hl,hm,hmm,hx,hi⟩
 ·have e:v = .slice none 0 0:=by simpa using hc
  subst e
  exact⟨[],⟨none,0,rfl,fun i hi=>by cases hi⟩,by simp,by simp,fun h=>absurd rfl h⟩
 ·have e:v = .slice (some a) len cap:=by simpa using hc
  subst e
  have hlm:len≤m:=by rw [hmm];simp;exact hl
  have hmc:m=cap:=by rw [hmm];simp
  have hlen:((List.range len).map fun i=>(Sx i).data.toList).length=len:=by simp
  obtain⟨hd,_⟩:=Prod.mk.inj hx
  have hlw:(len+(m - len))*16≤140737488351232:=hw _ (by rw [hx];simp [DataW.weights,Tryz.underlying29,bytes9])
  have hsz:∀i,i<len→(Sx i).data.toList.length≤140737488355328:=fun i hil=>by
   have:(Sx i).data.toList.length≤140737488351232:=hw _ (by
    rw [hx]
    simp only [DataW.weights,Tryz.underlying29,List.mem_cons,List.mem_append]
    exact .inr (.inl (weights_all (List.mem_map.2 ⟨i,List.mem_range.2 hil,rfl⟩) (by simp [DataW.weights]))))
   omega
  refine⟨(List.range len).map fun i=>(Sx i).data.toList,⟨some a,cap,by rw [hlen],fun i hi'=>?_⟩,by rw [hlen];omega,?_,?_⟩
  ·have hil:i<len:=by rwa [hlen] at hi'
   obtain⟨c0,_⟩:=hi 0 (by omega)
   have e0:a.add 0=a:=by simp [Addr.add]
   rw [e0] at c0
   have hadd:=add_off c0
   obtain⟨ci,_⟩:=hi i (by omega)
   rw [hadd] at ci
   refine⟨a.block,a.off,by have:=hadd 0;rw [e0] at this;rw [this],?_⟩
   rw [ci]
   simp [txt]
  ·intro s hs
   obtain⟨i,hir,rfl⟩:=List.mem_map.1 hs
   exact hsz i (List.mem_range.1 hir)
  ·intro hne q hq
   have h0:0<len:=by
    rcases Nat.eq_zero_or_pos len with h | h
    ·subst h;exact absurd rfl hne
    ·exact h
   obtain⟨c0,_⟩:=hi 0 (by omega)
   have e0:a.add 0=a:=by simp [Addr.add]
   rw [e0] at c0
   have hb:=World.block_lt_of_cell? W _ c0
   have e:a.block=q:=by simpa [Value.ownBlock] using hq
   rw [← e]
   exact hb
theorem open_op {W:World}{held:Bool}{fuel:Nat}{cs:List Value}{x:DataW H×List MemPlace}(h:DataW.trod enc Tryz.prog W 0 (fun _=>true) held fuel 33 cs=some x)(hw:∀n∈x.1.weights Tryz.prog 33,n≤140737488351232):
  ∃(d:OpD) (sv av:Value),cs=(opC d sv av).toList∧OpW W d sv av:=by
 obtain⟨xs,n,rfl,rfl,hlen,hxl,hf⟩:=DataW.trod_struct Tryz.underlying33 h
 rw [cells33] at hlen
 match xs,hxl,cs,hlen with
 |[y0,y1,y2,y3,y4,y5],_,[v0,v1,v2,v3,v4,v5,v6,v7,v8,v9,v10,v11,v12,v13,v14,v15,v16,v17,v18,v19],_=>
  have g0:=hf 0 _ rfl
  have g1:=hf 1 _ rfl
  have g2:=hf 2 _ rfl
  have g3:=hf 3 _ rfl
  have g4:=hf 4 _ rfl
  have g5:=hf 5 _ rfl
  simp [cells3,cells9,cells31] at g0 g1 g2 g3 g4 g5
  have hwn:∀m∈y5.1.weights Tryz.prog 31,m≤140737488351232:=fun m hm=>hw m (by simp [DataW.weights,Tryz.underlying33,DataW.weightsEach,hm])
  obtain⟨n0,e0,x0,w0⟩:=DataW.trod_int Tryz.underlying3 g0
  obtain⟨n1,e1,x1,w1⟩:=DataW.trod_int Tryz.underlying3 g1
  obtain⟨n2,e2,x2,w2⟩:=DataW.trod_int Tryz.underlying3 g2
  obtain⟨n3,e3,x3,w3⟩:=DataW.trod_int Tryz.underlying3 g3
  obtain⟨s4,e4,x4,w4⟩:=DataW.trod_string Tryz.underlying9 g4
  have hs4:s4.data.toList.length≤140737488351232:=hw _ (by simp [DataW.weights,Tryz.underlying33,DataW.weightsEach,x4])
  obtain⟨zs,n',rfl,hzx,hzlen,hzl,hz⟩:=DataW.trod_struct Tryz.underlying31 g5
  match zs,hzl with
  |[z0,z1,z2,z3,z4,z5,z6,z7,z8,z9,z10,z11,z12,z13,z14],_=>
   have k0:=hz 0 _ rfl
   have k1:=hz 1 _ rfl
   have k2:=hz 2 _ rfl
   have k3:=hz 3 _ rfl
   have k4:=hz 4 _ rfl
   have k5:=hz 5 _ rfl
   have k6:=hz 6 _ rfl
   have k7:=hz 7 _ rfl
   have k8:=hz 8 _ rfl
   have k9:=hz 9 _ rfl
   have k10:=hz 10 _ rfl
   have k11:=hz 11 _ rfl
   have k12:=hz 12 _ rfl
   have k13:=hz 13 _ rfl
   have k14:=hz 14 _ rfl
   simp [cells3,cells9,cells4,cells29] at k0 k1 k2 k3 k4 k5 k6 k7 k8 k9 k10 k11 k12 k13 k14
   obtain⟨a0,f0,u0,_⟩:=DataW.trod_int Tryz.underlying3 k0
   obtain⟨a1,f1,u1,_⟩:=DataW.trod_int Tryz.underlying3 k1
   obtain⟨a2,f2,u2,_⟩:=DataW.trod_int Tryz.underlying3 k2
   obtain⟨a3,f3,u3,_⟩:=DataW.trod_string Tryz.underlying9 k3
   obtain⟨a4,f4,u4,_⟩:=DataW.trod_string Tryz.underlying9 k4
   obtain⟨a5,f5,u5,_⟩:=DataW.trod_string Tryz.underlying9 k5
   obtain⟨a7,f7,u7,_⟩:=DataW.trod_int Tryz.underlying3 k7
   obtain⟨a8,f8,u8,_⟩:=DataW.trod_int Tryz.underlying3 k8
   obtain⟨a9,f9,u9⟩:=DataW.trod_bool Tryz.underlying4 k9
   obtain⟨a10,f10,u10⟩:=DataW.trod_bool Tryz.underlying4 k10
   obtain⟨a12,f12,u12,_⟩:=DataW.trod_int Tryz.underlying3 k12
   obtain⟨a13,f13,u13,_⟩:=DataW.trod_string Tryz.underlying9 k13
   obtain⟨a14,f14,u14,_⟩:=DataW.trod_string Tryz.underlying9 k14
   have hwz:∀m∈(DataW.agg ([z0,z1,z2,z3,z4,z5,z6,z7,z8,z9,z10,z11,z12,z13,z14].map (·.1)):DataW H).weights Tryz.prog 31,m≤140737488351232:=by
    rw [hzx] at hwn
    exact hwn
   obtain⟨l6,r6,b6,t6,o6⟩:=open_rd k6 (fun m hm=>hwz m (by simp [DataW.weights,Tryz.underlying31,DataW.weightsEach,hm]))
   obtain⟨l11,r11,b11,t11,o11⟩:=open_rd k11 (fun m hm=>hwz m (by simp [DataW.weights,Tryz.underlying31,DataW.weightsEach,hm]))
   have h3:a3.data.toList.length≤140737488351232:=hwz _ (by simp [DataW.weights,Tryz.underlying31,DataW.weightsEach,u3])
   have h4:a4.data.toList.length≤140737488351232:=hwz _ (by simp [DataW.weights,Tryz.underlying31,DataW.weightsEach,u4])
   have h5:a5.data.toList.length≤140737488351232:=hwz _ (by simp [DataW.weights,Tryz.underlying31,DataW.weightsEach,u5])
   have h13:a13.data.toList.length≤140737488351232:=hwz _ (by simp [DataW.weights,Tryz.underlying31,DataW.weightsEach,u13])
   have h14:a14.data.toList.length≤140737488351232:=hwz _ (by simp [DataW.weights,Tryz.underlying31,DataW.weightsEach,u14])
   simp only [List.cons.injEq,and_true] at e0 e1 e2 e3 e4 f0 f1 f2 f3 f4 f5 f7 f8 f9 f10 f12 f13 f14
   subst e0 e1 e2 e3 e4 f0 f1 f2 f3 f4 f5 f7 f8 f9 f10 f12 f13 f14
   refine⟨⟨n0,n1,n2,n3,s4.data.toList,a0,a2,⟨0,a1,0,a3.data.toList,a4.data.toList,a5.data.toList,l6,a7,a8,a9,a10,l11,a12,a13.data.toList,a14.data.toList⟩⟩,v11,v16,by simp [opC],?_,?_,b6,b11,r6,r11,o6,o11⟩
   ·exact⟨by show a3.data.toList.length≤_;omega,by show a4.data.toList.length≤_;omega,by show a5.data.toList.length≤_;omega,t6,t11,by show a13.data.toList.length≤_;omega,by show a14.data.toList.length≤_;omega⟩
   ·show s4.data.toList.length≤_
    omega
theorem open_sc {W:World}{b0:Nat}{v:Value}{d:DataW H}{ps:List MemPlace}(hv:Value.okWide Tryz.prog W .any b0 22 v)(h:DataW.Trod enc Tryz.prog W 0 (fun _=>true) true 22 v d ps)
  (hw:∀n∈d.weights Tryz.prog 22,n≤140737488351232):∃ds:List (OpD×Value×Value),Sc W W v ds:=by
 obtain⟨A,n,c,rfl⟩:=okWide_slice Tryz.underlying22 hv
 obtain⟨fuel,hf⟩:=h
 rcases open_slice Tryz.underlying22 hf with ⟨hc,hx⟩ | ⟨a,len,cap,m,n',D,Pl,hc,_,hl,hm,hmm,hx,hi⟩
 ·have e:Value.slice A n c = .slice none 0 0:=by simpa [Value.cells] using hc
  rw [e]
  exact⟨[],none,0,rfl,by simp,fun i hi=>by cases hi⟩
 ·have e:Value.slice A n c = .slice (some a) len cap:=by simpa [Value.cells] using hc
  rw [e]
  obtain⟨hd,_⟩:=Prod.mk.inj hx
  subst hd
  have hlm:len≤m:=by rw [hmm];simp;exact hl
  have hlw:(len+(m - len))*Tryz.prog.bytesOf 33≤140737488351232:=hw _ (by simp [DataW.weights,Tryz.underlying22])
  have hlen2:len≤1000000000000:=by
   have h1:(len+(m - len))*141≤(len+(m - len))*Tryz.prog.bytesOf 33:=Nat.mul_le_mul_left _ bytes33
   omega
  have each:∀i,∃o:OpD×Value×Value,i<len→OpW W o.1 o.2.1 o.2.2∧W.cells? 0 (a.add (i*20)) 20=some (opC o.1 o.2.1 o.2.2).toList:=by
   intro i
   by_cases hil:i<len
   ·obtain⟨cs',h2,h3⟩:=hi i (by omega)
    rw [cells33] at h2
    obtain⟨o,sv,av,rfl,hok⟩:=open_op h3 (fun n hn=>hw n (by
     simp only [DataW.weights,Tryz.underlying22,List.mem_cons,List.mem_append]
     exact .inr (.inl (weights_all (List.mem_map.2 ⟨i,List.mem_range.2 hil,rfl⟩) hn))))
    exact⟨(o,sv,av),fun _=>⟨hok,h2⟩⟩
   ·exact⟨(⟨0,0,0,0,[],0,0,⟨0,0,0,[],[],[],[],0,0,false,false,[],0,[],[]⟩⟩,undef,undef),fun h=>absurd h hil⟩
  obtain⟨F,hF⟩:=Classical.skolem.1 each
  have hlen:((List.range len).map F).length=len:=by simp
  refine⟨(List.range len).map F,some a,cap,by rw [hlen],by rw [hlen];exact hlen2,fun i hi'=>?_⟩
  have hil:i<len:=by rwa [hlen] at hi'
  have hg:((List.range len).map F)[i]=F i:=by simp
  rw [hg]
  have h0:0<len:=by omega
  obtain⟨_,_,hc0⟩:=World.cells?_some (hF 0 h0).2
  have e0:(a.add (0*20)).add 0=a:=by simp [Addr.add]
  have c0:W.cell? a=some (.int .i64 (F 0).1.on):=by
   have:=hc0 0 (by omega)
   rw [e0] at this
   simpa [opC] using this
  have hadd:=add_off c0
  obtain⟨_,_,hci⟩:=World.cells?_some (hF i hil).2
  refine⟨(hF i hil).1,a.block,a.off,by have:=hadd 0;simpa [Addr.add] using this,?_⟩
  intro j v hj
  have hjl:j<20:=by
   have:=(List.getElem?_eq_some_iff.1 hj).1
   simpa [opC] using this
  have h1:=hci j hjl
  rw [hadd,Addr.add_mid] at h1
  rw [h1]
  exact hj
theorem mx_of_shaped {W:World}(h:W.ShapedOpen Tryz.prog): Mx W:=
 cell_of_shapedOpen_int (g:=1) (t:=3) (zero:=#[.int .i64 0]) h (of_decide_eq_true (by kernel_rfl)) (by kernel_rfl) rfl (by kernel_rfl) (by kernel_rfl) Tryz.underlying3
end
end Go.Proofs.YthogppennalobaaGreatDoor
namespace Go.Proofs.YthogppennalobaaGreatDoor
open Go.ChangeShapes Go.WideShapes Go.ChangeAt Go.ChangeMaps Go.RowKit Go.Deep
theorem pow_eq:Rows.laid_internal_strconv_uint64pow10 (H:=Unit)=Lib.tabData .u64 Lib.pow10Tab:=by kernel_rfl
theorem tb_of_laid {W:World}(hL:laidMetH Tryz.prog Rows.forestStaysRow.laid W): Tb W:=by
 have hL : laidMetH Tryz.prog [("math/bits.deBruijn32tab", Rows.laid_math_bits_deBruijn32tab), ("math/bits.deBruijn64tab", Rows.laid_math_bits_deBruijn64tab), ("internal/strconv.uint64pow10", Rows.laid_internal_strconv_uint64pow10), ("strconv.ErrRange", Rows.laid_strconv_ErrRange), ("strconv.ErrSyntax", Rows.laid_strconv_ErrSyntax)] W := hL
 rw [pow_eq] at hL
 obtain⟨g',t',cs,fuel,p,hg',ht',hvar,hd⟩:=Lib.laidMet.reads hL (.tail _ (.tail _ (.head _)))
 obtain rfl := Option.some.inj ((show Tryz.prog.globalNamed "internal/strconv.uint64pow10" = some 0 by kernel_rfl).symm.trans hg')
 obtain rfl:=Option.some.inj ((show(Tryz.prog.globals[0]?).map (·.type)=some 186 by kernel_rfl).symm.trans ht')
 unfold Tb Lib.TabIs
 rw [hvar,← Lib.cells_of_tab Tryz.underlying186 Tryz.underlying163 (by kernel_rfl) (by kernel_rfl) hd]
end Go.Proofs.YthogppennalobaaGreatDoor
namespace Go.Proofs.YthogppennalobaaGreatDoor
open Go.RowKit Go.Sort Forest OwnR TxO Pl
def KeepA (w w':World): Prop:=∀(t:TypeId) b cs,t≠71→t≠72→t≠75→Bk t w b cs→Bk t w' b cs
theorem KeepA.of {w w':World}(h:Below w.heap.size w w'): KeepA w w':=fun t b cs _ _ _ hb=>hb.below h
theorem KeepA.trans {a b c:World}(h:KeepA a b)(k:KeepA b c): KeepA a c:=fun t q cs h1 h2 h3 hq=>k t q cs h1 h2 h3 (h t q cs h1 h2 h3 hq)
theorem KeepA.chf {W w':World}{f:Nat}{ns ns':Ns}{x:Int}(h:FR W f ns x)(hc:Chf W w' f ns ns'): KeepA W w':=fun t b cs h1 h2 h3 hb=>hc.keep h hb h1 h2 h3
theorem Nr.kept {w:World}{a:Option Addr}{c:Nat}{rs:List (Nd×Value×Value)}(h:Nr w (.slice a rs.length c) rs){i:Nat}(hi:i<rs.length):
  ∃q,a=some ⟨q,0,none⟩∧∀V,KeepA w V→∀j,j<15→V.cell? ⟨q,i*15+j,none⟩=(nodeC rs[i])[j]?:=by
 obtain⟨q,e,hc⟩:=h.cell hi
 subst e
 refine⟨q,rfl,fun V hV j hj=>?_⟩
 obtain⟨_,cur,hb⟩:=OwnR.owns_block h.1 (g:=q) rfl
 rw [(hV 31 q cur (by decide) (by decide) (by decide) hb).cell,← hb.cell]
 exact hc j hj
theorem Lw.kept {t:TypeId}{w0 w:World}{a:Option Addr}{c n:Nat}{xs:List Value}(ht:t≠71∧t≠72∧t≠75)(h:Lw t 1 w0 w (.slice a n c) n xs){i:Nat}(hi:i<n){u:Value}(hu:xs[i]?=some u):
  ∃q,a=some ⟨q,0,none⟩∧∀V,KeepA w V→V.cell? ⟨q,i,none⟩=some u:=by
 obtain⟨z,e,hc⟩:=OwnR.owns_cell h.1 (i:=i) (v:=u) hu
 subst e
 obtain⟨_,cur,hb⟩:=OwnR.owns_block h.1 (g:=z) rfl
 refine⟨z,rfl,fun V hV=>?_⟩
 rw [(hV t z cur ht.1 ht.2.1 ht.2.2 hb).cell,← hb.cell]
 exact hc
section
variable {F:Nd→Nd} {S:Nd→Bool} {l:List Nd}
end
structure Duo (w0 w:World)(f g:Nat)(ns b:Ns)(x y:Int): Prop where
 fa:FR w f ns x
 fb:FR w g b y
 below:Below w0.heap.size w0 w
 oa:∀q,OwnsB w f ns q→w0.heap.size≤q
 ob:∀q,OwnsB w g b q→w0.heap.size≤q
 ap:∀q,OwnsB w f ns q→¬OwnsB w g b q
theorem Duo.swap {w0 w:World}{f g:Nat}{ns b:Ns}{x y:Int}(h:Duo w0 w f g ns b x y): Duo w0 w g f b ns y x:=⟨h.fb,h.fa,h.below,h.ob,h.oa,fun q h1 h2=>h.ap q h2 h1⟩
theorem Duo.down {w0 w w':World}{f g:Nat}{ns b:Ns}{x y:Int}(h:Duo w0 w f g ns b x y)(hb:Below w.heap.size w w'): Duo w0 w' f g ns b x y:=by
 have ea:∀q,OwnsB w' f ns q→OwnsB w f ns q:=fun q hq=>hq.same (hb.block _ (OwnsB.lt h.fa (.inl rfl)))
 have eb:∀q,OwnsB w' g b q→OwnsB w g b q:=fun q hq=>hq.same (hb.block _ (OwnsB.lt h.fb (.inl rfl)))
 exact⟨h.fa.below hb,h.fb.below hb,h.below.trans (hb.mono h.below.size),fun q hq=>h.oa q (ea q hq),fun q hq=>h.ob q (eb q hq),fun q h1 h2=>h.ap q (ea q h1) (eb q h2)⟩
theorem Duo.goA {w0 w w':World}{f g:Nat}{ns ns' b:Ns}{x x' y:Int}(h:Duo w0 w f g ns b x y)(hf:FR w' f ns' x')(hc:Chf w w' f ns ns'): Duo w0 w' f g ns' b x' y:=by
 obtain⟨L,ho,hL⟩:=hc.only
 have hgL:∀q∈L,¬OwnsB w g b q:=fun q hq=>h.ap q (hL q hq)
 have hg':FR w' g b y:=h.fb.apart ho hgL (fun q hq cs=>OwnsB.no9 h.fa (hL q hq) cs)
 have eb:∀q,OwnsB w' g b q→OwnsB w g b q:=fun q hq=>hq.same (ho.block g (OwnsB.lt h.fb (.inl rfl)) (fun hm=>hgL g hm (.inl rfl)))
 refine⟨hf,hg',h.below.trans (ho.below h.below.size (fun q hq=>h.oa q (hL q hq))),fun q hq=>?_,fun q hq=>h.ob q (eb q hq),fun q h1 h2=>?_⟩
 ·exact(hc.own q hq).elim (h.oa q) (fun h2=>Nat.le_trans h.below.size h2)
 ·rcases hc.own q h1 with h3 | h3
  ·exact h.ap q h3 (eb q h2)
  ·have:=OwnsB.lt h.fb (eb q h2)
   omega
theorem Duo.goB {w0 w w':World}{f g:Nat}{ns b b':Ns}{x y y':Int}(h:Duo w0 w f g ns b x y)(hf:FR w' g b' y')(hc:Chf w w' g b b'): Duo w0 w' f g ns b' x y':=(h.swap.goA hf hc).swap
end Go.Proofs.YthogppennalobaaGreatDoor
