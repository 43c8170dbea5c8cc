/- Rows, as an argument of bulk at most 1048576. -/
import Derived.Deep.SlicePairs
import Derived.Test.YthogppennalobaaGreatDoorZl22
import Derived.Test.YthogppennalobaaGreatDoorZl17
set_option linter.unusedVariables false
set_option linter.unusedSimpArgs false
set_option maxRecDepth 100000
namespace Go.Proofs.YthogppennalobaaGreatDoor
open Go.RowKit Go.Sort Forest OwnR TxO Pl
open Go.ChangeShapes Go.WideShapes Go.ChangeAt Go.ChangeMaps Go.Deep
theorem read42:Tryz.prog.readableRec 42=true:=by kernel_rfl
theorem row42t:42<Tryz.prog.types.size:=of_decide_eq_true (by kernel_rfl)
section
variable {H:Type} {enc:TypeId×Value→H}
theorem bulk_one (d:DataW H): 1≤Rows.uptoBulk d:=by
 cases d with
 |lit l=>cases l<;>simp [Rows.uptoBulk]
 |nil=>simp [Rows.uptoBulk]
 |ptr d=>simp [Rows.uptoBulk]
 |slice elems spare=>simp [Rows.uptoBulk]
 |agg parts=>simp [Rows.uptoBulk]
 |iface t d=>simp [Rows.uptoBulk]
 |map entries=>simp [Rows.uptoBulk]
 |held h=>simp [Rows.uptoBulk]
theorem bulk_part {d:DataW H}{l:List (DataW H)}(h:d∈l): Rows.uptoBulk d≤Rows.uptoBulkAll l:=by
 induction l with
 |nil=>cases h
 |cons x r ih=>
  simp only [Rows.uptoBulkAll]
  cases List.mem_cons.1 h with
  |inl e=>subst e;omega
  |inr e=>have:=ih e;omega
def bytesOf:Value→List UInt8
 |.string s=>s.data.toList
 |_=>[]
theorem bulk_pairs (D0 D1:Nat→DataW H): ∀l:List Nat,3*l.length≤Rows.uptoBulkAll (l.map fun i=>DataW.agg [D0 i,D1 i])
 |[]=>Nat.zero_le _
 |i::l=>by
  have:=bulk_pairs D0 D1 l
  have h1:=bulk_one (D0 i)
  have h2:=bulk_one (D1 i)
  simp only [List.map_cons,Rows.uptoBulkAll,Rows.uptoBulk,List.length_cons]
  omega
theorem open_parts {W:World}{b0:Nat}{v:Value}{d:DataW H}{ps:List MemPlace}(hv:Value.okWide Tryz.prog W .any b0 42 v)(h:DataW.Trod enc Tryz.prog W 0 (fun _=>true) true 42 v d ps)
  (hbulk:Rows.uptoBulk d≤1048576):∃l:List (Bs×Bs),Rp W v l∧l.length≤400000∧∀p,p∈l→p.1.length≤1048576∧p.2.length≤1048576:=by
 obtain⟨A,n,c,rfl⟩:=okWide_slice Tryz.underlying42 hv
 obtain⟨fuel,hf⟩:=h
 rcases open_slice_pairs Tryz.underlying42 Tryz.underlying47 (by kernel_rfl) rfl rfl (by kernel_rfl) (by kernel_rfl) hf with ⟨hc,hx⟩ | ⟨a,len,cap,m,n',V0,V1,D0,D1,P0,P1,hc,_,hl,hm,hmm,hx,hi⟩
 ·have e:Value.slice A n c = .slice none 0 0:=by simpa [Value.cells] using hc
  rw [e]
  exact⟨[],⟨none,0,rfl,Nat.zero_le _,fun i hi=>absurd hi (Nat.not_lt_zero _)⟩,by simp,by intro p hp;cases hp⟩
 ·have e:Value.slice A n c = .slice (some a) len cap:=by simpa [Value.cells] using hc
  rw [e]
  obtain⟨hd,_⟩:=Prod.mk.inj hx
  have hlm:len≤m:=by rw [hmm];simp;exact hl
  have each:∀i,i<m→∃s0 s1:ByteArray,V0 i = .string s0∧V1 i = .string s1∧D0 i = .lit (.string s0.data.toList)∧D1 i = .lit (.string s1.data.toList):=by
   intro i him
   obtain⟨_,_,h0,h1⟩:=hi i him
   obtain⟨s0,e0,x0,_⟩:=DataW.trod_string Tryz.underlying9 h0
   obtain⟨s1,e1,x1,_⟩:=DataW.trod_string Tryz.underlying9 h1
   simp only [List.cons.injEq,and_true] at e0 e1
   simp only [Prod.mk.injEq] at x0 x1
   exact⟨s0,s1,e0,e1,x0.1,x1.1⟩
  have hlen:((List.range len).map fun i=>(bytesOf (V0 i),bytesOf (V1 i))).length=len:=by simp
  subst hd
  have hb:Rows.uptoBulkAll ((List.range len).map fun i=>DataW.agg [D0 i,D1 i])+1≤1048576:=by
   simp only [Rows.uptoBulk] at hbulk;omega
  have hb1:=bulk_pairs D0 D1 (List.range len)
  simp only [List.length_range] at hb1
  refine⟨(List.range len).map fun i=>(bytesOf (V0 i),bytesOf (V1 i)),⟨some a,cap,by rw [hlen],by rw [hlen];exact hl,fun i hi'=>?_⟩,by omega,fun p hp=>?_⟩
  ·have hil:i<len:=by rwa [hlen] at hi'
   obtain⟨c0,_⟩:=hi 0 (by omega)
   have hspot:a=⟨a.block,a.off,none⟩:=by
    have e0:a.add (0*2)=a:=by simp [Addr.add]
    rw [e0] at c0
    obtain⟨ab,ao,asp⟩:=a
    cases asp with
    |none=>rfl
    |some x=>
     exfalso
     unfold World.cell? at c0
     split at c0<;>simp at c0
   have hadd:∀j,a.add j=⟨a.block,a.off+j,none⟩:=by
    intro j
    rw [hspot]
    unfold Addr.add
    split
    ·rename_i h;subst h;rfl
    ·rfl
   obtain⟨d0,d1,_,_⟩:=hi i (by omega)
   obtain⟨s0,s1,e0,e1,_,_⟩:=each i (by omega)
   rw [hadd,e0] at d0
   rw [hadd,e1] at d1
   refine⟨a.block,a.off,congrArg some hspot,?_⟩
   simp only [List.getElem_map,List.getElem_range,e0,e1,bytesOf]
   intro j v hv
   match j,hv with
   |0,hv=>cases hv;rw [show a.off+2*i+0=a.off+i*2 by omega];exact d0
   |1,hv=>cases hv;rw [show a.off+2*i+1=a.off+(i*2+1) by omega];exact d1
   |j+2,hv=>simp at hv
  ·obtain⟨i,hir,rfl⟩:=List.mem_map.1 hp
   have hil:i<len:=by simpa using hir
   obtain⟨s0,s1,e0,e1,x0,x1⟩:=each i (by omega)
   have hmem:DataW.agg [D0 i,D1 i]∈(List.range len).map fun i=>DataW.agg [D0 i,D1 i]:=List.mem_map.2 ⟨i,hir,rfl⟩
   have hp:=bulk_part hmem
   simp only [Rows.uptoBulk,Rows.uptoBulkAll,x0,x1] at hp
   simp only [e0,e1,bytesOf]
   omega
end
end Go.Proofs.YthogppennalobaaGreatDoor
