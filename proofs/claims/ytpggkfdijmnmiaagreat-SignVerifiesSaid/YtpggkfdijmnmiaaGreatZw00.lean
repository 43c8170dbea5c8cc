/- A point as an argument. No condition. -/
import Derived.Test.YtpggkfdijmnmiaaGreatProg
import Derived.WalkKit
import Derived.WalkSpells
import Derived.WalkLawsBesides
import Derived.BigCall
import Derived.BigRegion
import Derived.Outline
import Derived.KernelRfl
import Derived.Lib.Walk
import Derived.Lib.QuietBelow
import Derived.BigQuiet
import Derived.Laws.Externs
import Derived.RegionTactic
import Derived.LoopN
import Derived.Lib.Hide
import Derived.Handy
import Derived.Shelf.Spec.BitsCarry
import Derived.Laws.Rows
import Derived.Laws.ResultCell
import Derived.ChangeKeysEq
import Derived.Deep.MidRow
import Derived.Test.YtpggkfdijmnmiaaGreatRows
import Derived.ProofKit
import Derived.OpenShut
import Derived.Deep.DeepHandedRow
import Derived.Deep.DeepWitnessRowRef
import Derived.PinnedBridge
import Derived.Below
import Derived.Lib.SmallJoins
import Derived.Laws.IdiomArrays
import Derived.Deep.Strs
set_option linter.unusedVariables false
set_option linter.unusedSimpArgs false
set_option maxRecDepth 100000
namespace Go.Proofs.YtpggkfdijmnmiaaGreat
namespace Limbs
def v4 (a b c d:Nat): Nat:=a+18446744073709551616*(b+18446744073709551616*(c+18446744073709551616*d))
def W256:Nat:=115792089237316195423570985008687907853269984665640564039457584007913129639936
theorem v4_lt {a b c d:Nat}(ha:a<18446744073709551616)(hb:b<18446744073709551616)(hc:c<18446744073709551616)(hd:d<18446744073709551616): v4 a b c d<W256:=by
 unfold v4 W256;omega
def lb (x:Nat): Nat→Nat
 |0=>x % 18446744073709551616
 |1=>x / 18446744073709551616 % 18446744073709551616
 |2=>x / 340282366920938463463374607431768211456 % 18446744073709551616
 |_=>x / 6277101735386680763835789423207666416102355444464034512896 % 18446744073709551616
theorem lb_lt (x:Nat)(i:Nat): lb x i<18446744073709551616:=by
 unfold lb;split<;>exact Nat.mod_lt _ (by decide)
theorem v4_lb {x:Nat}(h:x<W256): v4 (lb x 0) (lb x 1) (lb x 2) (lb x 3)=x:=by
 unfold W256 at h;simp only [v4,lb];omega
theorem lb_v4 {a b c d:Nat}(ha:a<18446744073709551616)(hb:b<18446744073709551616)(hc:c<18446744073709551616)(hd:d<18446744073709551616):
  lb (v4 a b c d) 0=a∧lb (v4 a b c d) 1=b∧lb (v4 a b c d) 2=c∧lb (v4 a b c d) 3=d:=by
 simp only [v4,lb];refine⟨?_,?_,?_,?_⟩<;>omega
def quo (r3 r2 m3:Nat): Nat:=if r3=m3 then 18446744073709551615 else (r3*18446744073709551616+r2) / m3
theorem quo_lt {r3 r2 m3:Nat}(h:r3≤m3)(h2:r2<18446744073709551616): quo r3 r2 m3<18446744073709551616:=by
 unfold quo
 split
 ·omega
 ·refine(Nat.div_lt_iff_lt_mul (by omega)).2 ?_
  have:(r3+1)*18446744073709551616≤m3*18446744073709551616:=Nat.mul_le_mul_right _ (by omega)
  omega
theorem up_top {r0 r1 r2 r3 l:Nat}(hr0:r0<18446744073709551616)(hr1:r1<18446744073709551616)(hl:l<18446744073709551616):
  v4 r0 r1 r2 r3*18446744073709551616+l<(r3*18446744073709551616+r2+1)*6277101735386680763835789423207666416102355444464034512896:=by
 unfold v4;omega
theorem low_top (r0 r1 r2 r3 l:Nat): (r3*18446744073709551616+r2)*6277101735386680763835789423207666416102355444464034512896≤v4 r0 r1 r2 r3*18446744073709551616+l:=by
 unfold v4;omega
theorem q_top {q:Nat}(h:q<18446744073709551616): q*6277101735386680763835789423207666416102355444464034512896≤W256:=by
 unfold W256;omega
theorem quo_bounds {r0 r1 r2 r3 m0 m1 m2 m3 l:Nat}(hr0:r0<18446744073709551616)(hr1:r1<18446744073709551616)(hr2:r2<18446744073709551616)(hr3:r3<18446744073709551616)
  (hm0:m0<18446744073709551616) (hm1:m1<18446744073709551616) (hm2:m2<18446744073709551616) (hm3:m3<18446744073709551616) (hl:l<18446744073709551616)
  (htop:9223372036854775808≤m3) (h:v4 r0 r1 r2 r3<v4 m0 m1 m2 m3) :
  (v4 r0 r1 r2 r3*18446744073709551616+l) / v4 m0 m1 m2 m3≤quo r3 r2 m3∧quo r3 r2 m3≤(v4 r0 r1 r2 r3*18446744073709551616+l) / v4 m0 m1 m2 m3+2:=by
 have hrm:r3≤m3:=by unfold v4 at h;omega
 have hq:=quo_lt (m3:=m3) hrm hr2;have hMpos:0<v4 m0 m1 m2 m3:=Nat.lt_of_le_of_lt (Nat.zero_le _) h;have hM2:W256≤2*v4 m0 m1 m2 m3:=by unfold v4 W256;omega
 have b1:quo r3 r2 m3*m3≤r3*18446744073709551616+r2:=by
  unfold quo
  split
  ·subst_vars;omega
  ·exact Nat.div_mul_le_self _ _
 have b2:r3=m3∨r3*18446744073709551616+r2<(quo r3 r2 m3+1)*m3:=by
  unfold quo
  split
  ·left;assumption
  ·right
   have:=Nat.lt_div_mul_add (a:=r3*18446744073709551616+r2) (b:=m3) (by omega)
   rw [Nat.add_mul,Nat.one_mul];exact this
 have b3:r3=m3→quo r3 r2 m3=18446744073709551615:=by
  intro e;unfold quo;rw [if_pos e]
 generalize quo r3 r2 m3=q at *;constructor
 ·refine Nat.lt_succ_iff.1 ((Nat.div_lt_iff_lt_mul hMpos).2 ?_);have hs:q.succ=q+1:=rfl;rw [hs];rcases b2 with e | e
  ·have e1:=b3 e;have e2:q+1=18446744073709551616:=by omega
   rw [e2]
   have:(v4 r0 r1 r2 r3+1)*18446744073709551616≤v4 m0 m1 m2 m3*18446744073709551616:=Nat.mul_le_mul_right _ h
   omega
  ·have e1:(q+1)*(m3*6277101735386680763835789423207666416102355444464034512896)≤(q+1)*v4 m0 m1 m2 m3:=Nat.mul_le_mul_left _ (by unfold v4;omega);have e2:(q+1)*m3*6277101735386680763835789423207666416102355444464034512896≥(r3*18446744073709551616+r2+1)*6277101735386680763835789423207666416102355444464034512896:=Nat.mul_le_mul_right _ e;rw [Nat.mul_assoc] at e2;exact Nat.lt_of_lt_of_le (up_top hr0 hr1 hl) (Nat.le_trans e2 e1)
 ·rcases Nat.lt_or_ge q 2 with hq2 | hq2
  ·exact Nat.le_trans (Nat.le_of_lt hq2) (Nat.le_add_left 2 _)
  ·have:q - 2≤(v4 r0 r1 r2 r3*18446744073709551616+l) / v4 m0 m1 m2 m3:=by
    refine(Nat.le_div_iff_mul_le hMpos).2 ?_;have e1:q*v4 m0 m1 m2 m3≤q*((m3+1)*6277101735386680763835789423207666416102355444464034512896):=Nat.mul_le_mul_left _ (by unfold v4;omega);have e2:q*m3*6277101735386680763835789423207666416102355444464034512896≤(r3*18446744073709551616+r2)*6277101735386680763835789423207666416102355444464034512896:=Nat.mul_le_mul_right _ b1;have e3:q*((m3+1)*6277101735386680763835789423207666416102355444464034512896)=q*m3*6277101735386680763835789423207666416102355444464034512896+q*6277101735386680763835789423207666416102355444464034512896:=by
     rw [Nat.add_mul,Nat.one_mul,Nat.mul_add,Nat.mul_assoc]
    have e4:(q - 2)*v4 m0 m1 m2 m3+2*v4 m0 m1 m2 m3=q*v4 m0 m1 m2 m3:=by
     rw [← Nat.add_mul,Nat.sub_add_cancel hq2]
    have f1:q*m3*6277101735386680763835789423207666416102355444464034512896≤v4 r0 r1 r2 r3*18446744073709551616+l:=Nat.le_trans e2 (low_top _ _ _ _ _);have f2:q*6277101735386680763835789423207666416102355444464034512896≤2*v4 m0 m1 m2 m3:=Nat.le_trans (q_top hq) hM2;refine Nat.le_of_add_le_add_right (b:=2*v4 m0 m1 m2 m3) ?_;rw [e4];refine Nat.le_trans e1 ?_;rw [e3];exact Nat.add_le_add f1 f2
   generalize (v4 r0 r1 r2 r3*18446744073709551616+l) / v4 m0 m1 m2 m3=Z at *;omega
end Limbs
section
open Go.RowKit Limbs
set_option maxHeartbeats 4000000
abbrev υ (x k:Nat): Value:= .int .u64 ((lb x k:Nat):Int)
theorem ab {f} {O:Array Oper} {l:Array Bool} (hn:∀i,¬i∈Region.ready f O l)(i:Nat)(h:i∈Region.ready f O l:=by exact mem_ready.2 ⟨by simp,_,rfl,by simp [Region.binds]⟩): False:=hn i h
theorem add64 (x y c:Nat)(hc:c≤1)(hx:x<18446744073709551616)(hy:y<18446744073709551616): ∃s c':Nat,s<18446744073709551616∧c'≤1∧s+18446744073709551616*c'=x+y+c∧
  ∀w,(callFunc 163 #[.int .u64 (x:Int),.int .u64 (y:Int),.int .u64 (c:Int)]).run Tryz.prog w = .ok (.value (.tuple #[.int .u64 (s:Int),.int .u64 (c':Int)])) w:=by
 refine⟨(x+y+c) % 18446744073709551616,(x+y+c) / 18446744073709551616,by omega,by omega,by omega,fun w=>?_⟩;rw [run_callFunc_extern Tryz.func163 (by kernel_rfl) (by kernel_rfl) (by kernel_rfl) (e:=add64Entry) (by kernel_rfl),run_add64 x y c (by omega) (by omega) (by omega) (by omega)];simp only [Result.andThen]
 congr 5<;>omega
theorem sub64 (x y b:Nat)(hb:b≤1)(hx:x<18446744073709551616)(hy:y<18446744073709551616): ∃d b':Nat,d<18446744073709551616∧b'≤1∧d+y+b=x+18446744073709551616*b'∧
  ∀w,(callFunc 162 #[.int .u64 (x:Int),.int .u64 (y:Int),.int .u64 (b:Int)]).run Tryz.prog w = .ok (.value (.tuple #[.int .u64 (d:Int),.int .u64 (b':Int)])) w:=by
 refine⟨(x+18446744073709551616 - y - b) % 18446744073709551616,if x<y+b then 1 else 0,by omega,by split<;>omega,by split<;>omega,fun w=>?_⟩;rw [run_callFunc_extern Tryz.func162 (by kernel_rfl) (by kernel_rfl) (by kernel_rfl) (e:=sub64Entry) (by kernel_rfl),run_sub64 x y b hb];rfl
def num (a b c d:Nat): Value:= .agg #[.int .u64 (a:Int),.int .u64 (b:Int),.int .u64 (c:Int),.int .u64 (d:Int)]
theorem plus_any {a0 a1 a2 a3 b0 b1 b2 b3:Nat}(ha0:a0<18446744073709551616)(ha1:a1<18446744073709551616)(ha2:a2<18446744073709551616)(ha3:a3<18446744073709551616)
  (hb0:b0<18446744073709551616) (hb1:b1<18446744073709551616) (hb2:b2<18446744073709551616) (hb3:b3<18446744073709551616) (w:World) :
  Calls Tryz.prog 133 #[num a0 a1 a2 a3,num b0 b1 b2 b3] w fun e w'=>(∃s0 s1 s2 s3 c:Nat,s0<18446744073709551616∧s1<18446744073709551616∧s2<18446744073709551616∧s3<18446744073709551616∧c≤1∧v4 s0 s1 s2 s3+W256*c=v4 a0 a1 a2 a3+v4 b0 b1 b2 b3∧e = .returned (.tuple #[num s0 s1 s2 s3,.int .u64 (c:Int)]))∧Below w.heap.size w w':=by
 obtain⟨s0,c0,hs0,hc0,e0,k0⟩:=add64 a0 b0 0 (by omega) ha0 hb0;obtain⟨s1,c1,hs1,hc1,e1,k1⟩:=add64 a1 b1 c0 hc0 ha1 hb1;obtain⟨s2,c2,hs2,hc2,e2,k2⟩:=add64 a2 b2 c1 hc1 ha2 hb2;obtain⟨s3,c3,hs3,hc3,e3,k3⟩:=add64 a3 b3 c2 hc2 ha3 hb3;rw [show((0:Nat):Int)=0 from rfl] at k0;have HF:Hid (v4 s0 s1 s2 s3+W256*c3=v4 a0 a1 a2 a3+v4 b0 b1 b2 b3):=Lib.hid (by unfold v4 W256;omega);have HB:=Lib.hid (And.intro hs0 (And.intro hs1 (And.intro hs2 (And.intro hs3 hc3))));clear hs0 hs1 hs2 hs3 hc0 hc1 hc2 hc3 e0 e1 e2 e3 ha0 ha1 ha2 ha3 hb0 hb1 hb2 hb3;unfold num;go_enter Tryz.func133,Tryz.ntmps133;go_wp2_with fail;refine wp_loop_rounds 5 ?_
 iterate 4 (rw [rounds_succ];go_wp2_with fail;go_region;go_wp2_with fail)
 rw [rounds_succ];go_wp2_with fail;go_returns;refine⟨⟨s0,s1,s2,s3,c3,HB.out.1,HB.out.2.1,HB.out.2.2.1,HB.out.2.2.2.1,HB.out.2.2.2.2,HF.out,rfl⟩,?_⟩
 go_grown
theorem minus_any {a0 a1 a2 a3 b0 b1 b2 b3:Nat}(ha0:a0<18446744073709551616)(ha1:a1<18446744073709551616)(ha2:a2<18446744073709551616)(ha3:a3<18446744073709551616)
  (hb0:b0<18446744073709551616) (hb1:b1<18446744073709551616) (hb2:b2<18446744073709551616) (hb3:b3<18446744073709551616) (w:World) :
  Calls Tryz.prog 131 #[num a0 a1 a2 a3,num b0 b1 b2 b3] w fun e w'=>(∃s0 s1 s2 s3 c:Nat,s0<18446744073709551616∧s1<18446744073709551616∧s2<18446744073709551616∧s3<18446744073709551616∧c≤1∧v4 s0 s1 s2 s3+v4 b0 b1 b2 b3=v4 a0 a1 a2 a3+W256*c∧e = .returned (.tuple #[num s0 s1 s2 s3,.int .u64 (c:Int)]))∧Below w.heap.size w w':=by
 obtain⟨s0,c0,hs0,hc0,e0,k0⟩:=sub64 a0 b0 0 (by omega) ha0 hb0;obtain⟨s1,c1,hs1,hc1,e1,k1⟩:=sub64 a1 b1 c0 hc0 ha1 hb1;obtain⟨s2,c2,hs2,hc2,e2,k2⟩:=sub64 a2 b2 c1 hc1 ha2 hb2;obtain⟨s3,c3,hs3,hc3,e3,k3⟩:=sub64 a3 b3 c2 hc2 ha3 hb3;rw [show((0:Nat):Int)=0 from rfl] at k0;have HF:Hid (v4 s0 s1 s2 s3+v4 b0 b1 b2 b3=v4 a0 a1 a2 a3+W256*c3):=Lib.hid (by unfold v4 W256;omega);have HB:=Lib.hid (And.intro hs0 (And.intro hs1 (And.intro hs2 (And.intro hs3 hc3))));clear hs0 hs1 hs2 hs3 hc0 hc1 hc2 hc3 e0 e1 e2 e3 ha0 ha1 ha2 ha3 hb0 hb1 hb2 hb3;unfold num;go_enter Tryz.func131,Tryz.ntmps131;go_wp2_with fail;refine wp_loop_rounds 5 ?_
 iterate 4 (rw [rounds_succ];go_wp2_with fail;go_region;go_wp2_with fail)
 rw [rounds_succ];go_wp2_with fail;go_returns;refine⟨⟨s0,s1,s2,s3,c3,HB.out.1,HB.out.2.1,HB.out.2.2.1,HB.out.2.2.2.1,HB.out.2.2.2.2,HF.out,rfl⟩,?_⟩
 go_grown
def nv (x:Nat): Value:=num (lb x 0) (lb x 1) (lb x 2) (lb x 3)
theorem nv_v4 {a b c d:Nat}(ha:a<18446744073709551616)(hb:b<18446744073709551616)(hc:c<18446744073709551616)(hd:d<18446744073709551616): num a b c d=nv (v4 a b c d):=by
 obtain⟨e0,e1,e2,e3⟩:=lb_v4 ha hb hc hd;unfold nv;rw [e0,e1,e2,e3]
theorem plus_nv (a b:Nat)(ha:a<W256)(hb:b<W256)(w:World):
  Calls Tryz.prog 133 #[nv a,nv b] w fun e w'=>e = .returned (.tuple #[nv ((a+b) % W256),.int .u64 (((a+b) / W256:Nat):Int)])∧Below w.heap.size w w':=by
 refine(plus_any (lb_lt a 0) (lb_lt a 1) (lb_lt a 2) (lb_lt a 3) (lb_lt b 0) (lb_lt b 1) (lb_lt b 2) (lb_lt b 3) w).mono ?_;rintro e w' ⟨⟨s0,s1,s2,s3,c,h0,h1,h2,h3,hc,he,rfl⟩,hb'⟩;refine⟨?_,hb'⟩;rw [v4_lb ha,v4_lb hb] at he;have hl:=v4_lt h0 h1 h2 h3;rw [nv_v4 h0 h1 h2 h3];have e1:(a+b) % W256=v4 s0 s1 s2 s3:=by rw [← he,Nat.add_mul_mod_self_left,Nat.mod_eq_of_lt hl]
 have e2:(a+b) / W256=c:=by rw [← he,Nat.add_mul_div_left _ _ (Nat.lt_of_le_of_lt (Nat.zero_le _) hl),Nat.div_eq_of_lt hl,Nat.zero_add]
 rw [e1,e2]
theorem minus_nv (a b:Nat)(ha:a<W256)(hb:b<W256)(w:World):
  Calls Tryz.prog 131 #[nv a,nv b] w fun e w'=>(∃d c:Nat,d<W256∧c≤1∧d+b=a+W256*c∧e = .returned (.tuple #[nv d,.int .u64 (c:Int)]))∧Below w.heap.size w w':=by
 refine(minus_any (lb_lt a 0) (lb_lt a 1) (lb_lt a 2) (lb_lt a 3) (lb_lt b 0) (lb_lt b 1) (lb_lt b 2) (lb_lt b 3) w).mono ?_;rintro e w' ⟨⟨s0,s1,s2,s3,c,h0,h1,h2,h3,hc,he,rfl⟩,hb'⟩;rw [v4_lb ha,v4_lb hb] at he;exact⟨⟨v4 s0 s1 s2 s3,c,v4_lt h0 h1 h2 h3,hc,he,by rw [nv_v4 h0 h1 h2 h3]⟩,hb'⟩
end
section
open Go.RowKit Limbs
def Bk (t:TypeId)(w:World)(g:Nat)(cs:Array Value): Prop:=w.heap[g]?=some (.cells cs t (0,0))
theorem Bk.lt {t:TypeId}{w:World}{g:Nat}{cs:Array Value}(h:Bk t w g cs): g<w.heap.size:=(Array.getElem?_eq_some_iff.1 h).1
theorem Bk.new {t:TypeId}{w:World}{g:Nat}{cs:Array Value}(h:g=w.heap.size): Bk t (w.alloc (.cells cs t)) g cs:=by
 subst h;exact Go.heap_alloc_new w _
theorem Bk.alloc {t:TypeId}{w:World}{g:Nat}{cs:Array Value}{o:Obj}(h:Bk t w g cs): Bk t (w.alloc o) g cs:=(show(w.alloc o).heap[g]?=w.heap[g]? from by show(w.heap.push o)[g]?=_;rw [Array.getElem?_push,if_neg (Nat.ne_of_lt h.lt)]).trans h
theorem Bk.drew {t:TypeId}{w:World}{g:Nat}{cs:Array Value}(h:Bk t w g cs): Bk t w.drew g cs:=h
theorem Bk.same {t:TypeId}{w:World}{g i:Nat}{cs:Array Value}{v:Value}(h:Bk t w g cs): Bk t (w.setCell ⟨g,i,none⟩ v) g (cs.setIfInBounds i v):=heap_setCell_same w g i cs t v h
theorem Bk.oth {t:TypeId}{w:World}{g:Nat}{a:Addr}{cs:Array Value}{v:Value}(hn:g≠a.block)(h:Bk t w g cs): Bk t (w.setCell a v) g cs:=(heap_setCell_other w a g v hn).trans h
theorem Bk.below {t:TypeId}{w w':World}{g:Nat}{cs:Array Value}(h:Bk t w g cs)(hb:Below w.heap.size w w'): Bk t w' g cs:=(hb.block _ h.lt).trans h
theorem Bk.cell {t:TypeId}{w:World}{g:Nat}{cs:Array Value}(h:Bk t w g cs)(i:Nat): w.cell? ⟨g,i,none⟩=cs[i]?:=cell_of_row w g i cs t (0,0) h
theorem Bk.fro {t:TypeId}{w:World}{g:Nat}{cs:Array Value}(h:Bk t w g cs)(i:Nat): w.frozen? ⟨g,i,none⟩=false:=frozen_of_row w g i cs t h
theorem Bk.cells {t:TypeId}{w:World}{g:Nat}{a b c d:Value}(h:Bk t w g #[a,b,c,d]): w.cell? ⟨g,0,none⟩=some a∧w.cell? ⟨g,1,none⟩=some b∧w.cell? ⟨g,2,none⟩=some c∧w.cell? ⟨g,3,none⟩=some d:=
 ⟨h.cell 0,h.cell 1,h.cell 2,h.cell 3⟩
theorem Bk.fros {t:TypeId}{w:World}{g:Nat}{cs:Array Value}(h:Bk t w g cs): w.frozen? ⟨g,0,none⟩=false∧w.frozen? ⟨g,1,none⟩=false∧w.frozen? ⟨g,2,none⟩=false∧w.frozen? ⟨g,3,none⟩=false:=
 ⟨h.fro 0,h.fro 1,h.fro 2,h.fro 3⟩
theorem Bk.cellsA {t:TypeId}{w:World}{g:Nat}{a b c d:Value}(h:Bk t w g #[a,b,c,d]): (∀o,(w.alloc o).cell? ⟨g,0,none⟩=some a)∧(∀o,(w.alloc o).cell? ⟨g,1,none⟩=some b)∧(∀o,(w.alloc o).cell? ⟨g,2,none⟩=some c)∧(∀o,(w.alloc o).cell? ⟨g,3,none⟩=some d):=
 ⟨fun _=>h.alloc.cell 0,fun _=>h.alloc.cell 1,fun _=>h.alloc.cell 2,fun _=>h.alloc.cell 3⟩
theorem Bk.frosA {t:TypeId}{w:World}{g:Nat}{cs:Array Value}(h:Bk t w g cs): (∀o,(w.alloc o).frozen? ⟨g,0,none⟩=false)∧(∀o,(w.alloc o).frozen? ⟨g,1,none⟩=false)∧(∀o,(w.alloc o).frozen? ⟨g,2,none⟩=false)∧(∀o,(w.alloc o).frozen? ⟨g,3,none⟩=false):=
 ⟨fun _=>h.alloc.fro 0,fun _=>h.alloc.fro 1,fun _=>h.alloc.fro 2,fun _=>h.alloc.fro 3⟩
def cs4 (x:Nat): Array Value:=#[.int .u64 (lb x 0:Nat),.int .u64 (lb x 1:Nat),.int .u64 (lb x 2:Nat),.int .u64 (lb x 3:Nat)]
def cs0:Array Value:=#[.int .u64 0,.int .u64 0,.int .u64 0,.int .u64 0]
theorem keep {f:FuncId}{args:Array Value}{W:World}{R:Ending→Prop}(B:Nat)(w:World)(h:Calls Tryz.prog f args W fun e w'=>R e∧Below W.heap.size W w')(hb:Below B w W)(hB:B≤w.heap.size):
  Calls Tryz.prog f args W fun e w'=>R e∧Below B w w'∧Below W.heap.size W w':=
 h.mono fun _ _ h=>⟨h.1,hb.trans (h.2.mono (Nat.le_trans hB hb.size)),h.2⟩
theorem Bk.put {t:TypeId}{w:World}{g:Nat}{a b c d a' b' c' d':Value}(h:Bk t w g #[a,b,c,d]): Bk t ((((w.setCell ⟨g,0,none⟩ a').setCell ⟨g,1,none⟩ b').setCell ⟨g,2,none⟩ c').setCell ⟨g,3,none⟩ d') g #[a',b',c',d']:=
 Bk.same (i:=3) (v:=d') (Bk.same (i:=2) (v:=c') (Bk.same (i:=1) (v:=b') (Bk.same (i:=0) (v:=a') h)))
theorem Bk.puto {t:TypeId}{w:World}{g h:Nat}{cs:Array Value}{a' b' c' d':Value}(hn:g≠h)(k:Bk t w g cs): Bk t ((((w.setCell ⟨h,0,none⟩ a').setCell ⟨h,1,none⟩ b').setCell ⟨h,2,none⟩ c').setCell ⟨h,3,none⟩ d') g cs:=
 Bk.oth hn (Bk.oth hn (Bk.oth hn (Bk.oth hn k)))
theorem u24:Tryz.prog.underlying 24=some (.array 4 22):=by kernel_rfl
theorem i24:(Tryz.prog.info? 24).map (·.size)=some 4:=by kernel_rfl
theorem ret_cell {fn:Func}{R:Ending→World→Prop}{a:Act}{w:World}{p:Tmp}(h:fn.results=#[.cell p 24])(g x:Nat)(hp:a.tmps.getD p undef = .pointer (some ⟨g,0,none⟩))(hk:Bk 24 w g (cs4 x))(hd:a.defers=[])(hR:R (.returned (nv x)) w): bodyPost Tryz.prog fn R .ret a w:=
 bodyPost_ret (v:=nv x) (results_cell_row h a.tmps w g 24 (cs4 x) (0,0) _ hp hk u24 rfl i24) hd hR
theorem ret_cell2 {fn:Func}{R:Ending→World→Prop}{a:Act}{w:World}{p u:Tmp}(h:fn.results=#[.cell p 24,.tmp u])(g x:Nat)(y:Value)(hp:a.tmps.getD p undef = .pointer (some ⟨g,0,none⟩))(hy:a.tmps.getD u undef=y)(hk:Bk 24 w g (cs4 x))(hd:a.defers=[])(hR:R (.returned (.tuple #[nv x,y])) w): bodyPost Tryz.prog fn R .ret a w:=by
 subst hy;refine bodyPost_ret (v:= .tuple #[nv x,a.tmps.getD u undef]) ?_ hd hR;rw [results_cell_tmp h,hp]
 show((loadVar 24 ⟨g,0,none⟩).run Tryz.prog w).andThen _=_
 rw [run_loadVar_row w g 24 24 (cs4 x) (0,0) _ hk u24 rfl i24];rfl
set_option maxHeartbeats 4000000 in
theorem left_any (a M:Nat)(ha:a<W256)(hM:M<W256)(h2:a<2*M)(w:World):
  Calls Tryz.prog 132 #[nv a,nv M] w fun e w'=>e = .returned (nv (a % M))∧Below w.heap.size w w':=by
 have HM:Hid (∀d c:Nat,d<W256→d+M=a+W256*c→(c=0→d=a % M)∧(c≠0→a=a % M)):=Lib.hid (by
  intro d c hd he;constructor
  ·intro h;subst h;rw [show a=d+M from by omega,Nat.add_mod_right,Nat.mod_eq_of_lt (by omega)]
  ·intro h
   have:W256*1≤W256*c:=Nat.mul_le_mul_left _ (by omega)
   rw [Nat.mod_eq_of_lt (by omega)])
 simp only [nv,num];go_enter Tryz.func132,Tryz.ntmps132;go_wp2_with fail;refine(keep w.heap.size w (minus_nv a M ha hM _) (by go_grown) (Nat.le_refl _)).mono ?_;rintro e w2 ⟨⟨d,c,hd,hc,he,rfl⟩,hb,hk⟩;have K0:Hid (Bk 24 w2 w.heap.size (cs4 a)):=Lib.hid (Bk.below (Bk.alloc (Bk.alloc (Bk.new rfl))) hk);have K1:Hid (Bk 24 w2 (w.heap.size+1+1) cs0):=Lib.hid (Bk.below (Bk.new (by simp)) hk);clear hk;simp only [nv,num];have HE:=Lib.hid (HM.out d c hd he);have HB:=Lib.hid hb;clear he hb HM;obtain⟨i0,i1,i2,i3⟩:=K0.out.cellsA;obtain⟨j0,j1,j2,j3⟩:=K1.out.cellsA;obtain⟨f0,f1,f2,f3⟩:=K1.out.frosA;clear hc
 by_cases hc0:c=0
 ·have HA:Hid (d=a % M):=Lib.hid (HE.out.1 hc0);subst hc0;clear HE;go_wp2_with fail;refine ret_cell rfl (w.heap.size+1+1) d rfl (Bk.put K1.out.alloc) rfl ⟨by rw [← HA.out];rfl,?_⟩;have hb:=HB.out;have hs:=hb.size
  go_grown
 ·have HA:Hid (a=a % M):=Lib.hid (HE.out.2 hc0);have hc1:(((c:Nat):Int) != 0)=true:=by simp;omega
  clear HE hc0;go_wp2_with fail;refine ret_cell rfl (w.heap.size+1+1) a rfl (Bk.put K1.out.alloc) rfl ⟨by rw [← HA.out];rfl,?_⟩;have hb:=HB.out;have hs:=hb.size
  go_grown
theorem info22:∃i,Tryz.prog.info? 22=some i:=Option.isSome_iff_exists.1 (by kernel_rfl)
theorem cells22:Tryz.prog.cellsOf 22=1:=by kernel_rfl
theorem one22 (v:Int)(j:Nat)(xs:Array Value)(h:xs[j]?=some (.int .u64 v))(w:World): (part 22 xs j).run Tryz.prog w = .ok (.int .u64 v) w:=by
 simp [part,go_sem,Tryz.underlying22,Tryz.isAgg22,Tryz.sizeOf22,h]
theorem eq24 (a0 a1 a2 a3 b0 b1 b2 b3:Int)(w:World): (Op.equalIn 10000 24 (.agg #[.int .u64 a0,.int .u64 a1,.int .u64 a2,.int .u64 a3]) (.agg #[.int .u64 b0,.int .u64 b1,.int .u64 b2,.int .u64 b3])).run Tryz.prog w = .ok (a0 == b0&&(a1 == b1&&(a2 == b2&&a3 == b3))) w:=by
 obtain⟨i,hi⟩:=info22;rw [show(10000:Nat)=9999+1 from rfl,run_equalIn_array w 9999 _ _ u24 hi,cells22];have hr:List.range 4=[0,1,2,3]:=rfl;rw [hr];have e (a b:Int) (w:World):(Op.equalIn 9999 22 (.int .u64 a) (.int .u64 b)).run Tryz.prog w = .ok (a == b) w:=run_equalIn_int w 9998 22 .u64 .u64 a b Tryz.underlying22;have pa0:=one22 a0 0 #[.int .u64 a0,.int .u64 a1,.int .u64 a2,.int .u64 a3] rfl;have pa1:=one22 a1 1 #[.int .u64 a0,.int .u64 a1,.int .u64 a2,.int .u64 a3] rfl;have pa2:=one22 a2 2 #[.int .u64 a0,.int .u64 a1,.int .u64 a2,.int .u64 a3] rfl;have pa3:=one22 a3 3 #[.int .u64 a0,.int .u64 a1,.int .u64 a2,.int .u64 a3] rfl;have pb0:=one22 b0 0 #[.int .u64 b0,.int .u64 b1,.int .u64 b2,.int .u64 b3] rfl;have pb1:=one22 b1 1 #[.int .u64 b0,.int .u64 b1,.int .u64 b2,.int .u64 b3] rfl;have pb2:=one22 b2 2 #[.int .u64 b0,.int .u64 b1,.int .u64 b2,.int .u64 b3] rfl;have pb3:=one22 b3 3 #[.int .u64 b0,.int .u64 b1,.int .u64 b2,.int .u64 b3] rfl;simp only [Op.eqItems,Sem.run_bind,Nat.mul_one,pa0,pa1,pa2,pa3,pb0,pb1,pb2,pb3,Result.andThen_ok,e];cases h0:(a0 == b0)<;>cases h1:(a1 == b1)<;>cases h2:(a2 == b2)<;>cases h3:(a3 == b3)<;>simp [pa1,pa2,pa3,pb1,pb2,pb3,e,h0,h1,h2,h3,Op.eqItems]
theorem eqN (x y:Nat)(hx:x<W256)(hy:y<W256)(w:World): (Op.equalIn 10000 24 (.agg #[υ x 0,υ x 1,υ x 2,υ x 3]) (.agg #[υ y 0,υ y 1,υ y 2,υ y 3])).run Tryz.prog w = .ok (decide (x=y)) w:=by
 rw [eq24]
 congr 1
 rw [Bool.eq_iff_iff];simp only [Bool.and_eq_true,beq_iff_eq,decide_eq_true_eq];constructor
 ·rintro⟨h0,h1,h2,h3⟩;rw [← v4_lb hx,← v4_lb hy,show lb x 0=lb y 0 by omega,show lb x 1=lb y 1 by omega,show lb x 2=lb y 2 by omega,show lb x 3=lb y 3 by omega]
 ·rintro rfl;simp
def jn (x y z:Nat): Value:= .agg #[υ x 0,υ x 1,υ x 2,υ x 3,υ y 0,υ y 1,υ y 2,υ y 3,υ z 0,υ z 1,υ z 2,υ z 3]
def pn (x y:Nat)(i:Bool): Value:= .agg #[.int .u64 (lb x 0:Nat),.int .u64 (lb x 1:Nat),.int .u64 (lb x 2:Nat),.int .u64 (lb x 3:Nat),.int .u64 (lb y 0:Nat),.int .u64 (lb y 1:Nat),.int .u64 (lb y 2:Nat),.int .u64 (lb y 3:Nat),.bool i]
theorem u93:Tryz.prog.underlying 162=some (.struct (Tryz.prog.fieldsOf 162)):=by kernel_rfl
theorem u51:Tryz.prog.underlying 26=some (.struct (Tryz.prog.fieldsOf 26)):=by kernel_rfl
theorem i93:(Tryz.prog.info? 162).map (·.size)=some 12:=by kernel_rfl
theorem i51:(Tryz.prog.info? 26).map (·.size)=some 9:=by kernel_rfl
theorem part24 (xs:Array Value)(o:Nat)(h:o+4≤xs.size)(w:World): (part 24 xs o).run Tryz.prog w = .ok (.agg (xs.extract o (o+4))) w:=by
 simp [part,go_sem,Tryz.underlying24,Tryz.isAgg24,Tryz.sizeOf24,h]
theorem eq24' (d:Nat)(a0 a1 a2 a3 b0 b1 b2 b3:Int)(w:World): (Op.equalIn (d+2) 24 (.agg #[.int .u64 a0,.int .u64 a1,.int .u64 a2,.int .u64 a3]) (.agg #[.int .u64 b0,.int .u64 b1,.int .u64 b2,.int .u64 b3])).run Tryz.prog w = .ok (a0 == b0&&(a1 == b1&&(a2 == b2&&a3 == b3))) w:=by
 obtain⟨i,hi⟩:=info22;rw [run_equalIn_array w (d+1) _ _ u24 hi,cells22];have hr:List.range 4=[0,1,2,3]:=rfl;rw [hr];have e (a b:Int) (w:World):(Op.equalIn (d+1) 22 (.int .u64 a) (.int .u64 b)).run Tryz.prog w = .ok (a == b) w:=run_equalIn_int w d 22 .u64 .u64 a b Tryz.underlying22;have pa0:=one22 a0 0 #[.int .u64 a0,.int .u64 a1,.int .u64 a2,.int .u64 a3] rfl;have pa1:=one22 a1 1 #[.int .u64 a0,.int .u64 a1,.int .u64 a2,.int .u64 a3] rfl;have pa2:=one22 a2 2 #[.int .u64 a0,.int .u64 a1,.int .u64 a2,.int .u64 a3] rfl;have pa3:=one22 a3 3 #[.int .u64 a0,.int .u64 a1,.int .u64 a2,.int .u64 a3] rfl;have pb0:=one22 b0 0 #[.int .u64 b0,.int .u64 b1,.int .u64 b2,.int .u64 b3] rfl;have pb1:=one22 b1 1 #[.int .u64 b0,.int .u64 b1,.int .u64 b2,.int .u64 b3] rfl;have pb2:=one22 b2 2 #[.int .u64 b0,.int .u64 b1,.int .u64 b2,.int .u64 b3] rfl;have pb3:=one22 b3 3 #[.int .u64 b0,.int .u64 b1,.int .u64 b2,.int .u64 b3] rfl;simp only [Op.eqItems,Sem.run_bind,Nat.mul_one,pa0,pa1,pa2,pa3,pb0,pb1,pb2,pb3,Result.andThen_ok,e];cases h0:(a0 == b0)<;>cases h1:(a1 == b1)<;>cases h2:(a2 == b2)<;>cases h3:(a3 == b3)<;>simp [pa1,pa2,pa3,pb1,pb2,pb3,e,h0,h1,h2,h3,Op.eqItems]
theorem eqN' (d:Nat)(x y:Nat)(hx:x<W256)(hy:y<W256)(w:World): (Op.equalIn (d+2) 24 (.agg #[υ x 0,υ x 1,υ x 2,υ x 3]) (.agg #[υ y 0,υ y 1,υ y 2,υ y 3])).run Tryz.prog w = .ok (decide (x=y)) w:=by
 rw [eq24']
 congr 1
 rw [Bool.eq_iff_iff];simp only [Bool.and_eq_true,beq_iff_eq,decide_eq_true_eq];constructor
 ·rintro⟨h0,h1,h2,h3⟩;rw [← v4_lb hx,← v4_lb hy,show lb x 0=lb y 0 by omega,show lb x 1=lb y 1 by omega,show lb x 2=lb y 2 by omega,show lb x 3=lb y 3 by omega]
 ·rintro rfl;simp
theorem eqJ (x y z x' y' z':Nat)(hx:x<W256)(hy:y<W256)(hz:z<W256)(hx':x' < W256)(hy':y' < W256)(hz':z' < W256)(w:World): (Op.equalIn 10000 162 (jn x y z) (jn x' y' z')).run Tryz.prog w = .ok (decide (x=x'∧y=y'∧z=z')) w:=by
 unfold jn;rw [show(10000:Nat)=9999+1 from rfl,run_equalIn_struct w 9999 162 _ _ u93 (by kernel_rfl)];have h1:=eqN' 9997 x x' hx hx' w;have h2:=eqN' 9997 y y' hy hy' w;have h3:=eqN' 9997 z z' hz hz' w;have a0:(part 24 #[υ x 0,υ x 1,υ x 2,υ x 3,υ y 0,υ y 1,υ y 2,υ y 3,υ z 0,υ z 1,υ z 2,υ z 3] 0).run Tryz.prog w = .ok (.agg #[υ x 0,υ x 1,υ x 2,υ x 3]) w:=part24 _ _ (by simp) w;have a1:(part 24 #[υ x 0,υ x 1,υ x 2,υ x 3,υ y 0,υ y 1,υ y 2,υ y 3,υ z 0,υ z 1,υ z 2,υ z 3] 4).run Tryz.prog w = .ok (.agg #[υ y 0,υ y 1,υ y 2,υ y 3]) w:=part24 _ _ (by simp) w;have a2:(part 24 #[υ x 0,υ x 1,υ x 2,υ x 3,υ y 0,υ y 1,υ y 2,υ y 3,υ z 0,υ z 1,υ z 2,υ z 3] 8).run Tryz.prog w = .ok (.agg #[υ z 0,υ z 1,υ z 2,υ z 3]) w:=part24 _ _ (by simp) w;have b0:(part 24 #[.int .u64 (lb x' 0:Nat),.int .u64 (lb x' 1:Nat),.int .u64 (lb x' 2:Nat),.int .u64 (lb x' 3:Nat),.int .u64 (lb y' 0:Nat),.int .u64 (lb y' 1:Nat),.int .u64 (lb y' 2:Nat),.int .u64 (lb y' 3:Nat),.int .u64 (lb z' 0:Nat),.int .u64 (lb z' 1:Nat),.int .u64 (lb z' 2:Nat),.int .u64 (lb z' 3:Nat)] 0).run Tryz.prog w = .ok (.agg #[.int .u64 (lb x' 0:Nat),.int .u64 (lb x' 1:Nat),.int .u64 (lb x' 2:Nat),.int .u64 (lb x' 3:Nat)]) w:=part24 _ _ (by simp) w;have b1:(part 24 #[.int .u64 (lb x' 0:Nat),.int .u64 (lb x' 1:Nat),.int .u64 (lb x' 2:Nat),.int .u64 (lb x' 3:Nat),.int .u64 (lb y' 0:Nat),.int .u64 (lb y' 1:Nat),.int .u64 (lb y' 2:Nat),.int .u64 (lb y' 3:Nat),.int .u64 (lb z' 0:Nat),.int .u64 (lb z' 1:Nat),.int .u64 (lb z' 2:Nat),.int .u64 (lb z' 3:Nat)] 4).run Tryz.prog w = .ok (.agg #[.int .u64 (lb y' 0:Nat),.int .u64 (lb y' 1:Nat),.int .u64 (lb y' 2:Nat),.int .u64 (lb y' 3:Nat)]) w:=part24 _ _ (by simp) w;have b2:(part 24 #[.int .u64 (lb x' 0:Nat),.int .u64 (lb x' 1:Nat),.int .u64 (lb x' 2:Nat),.int .u64 (lb x' 3:Nat),.int .u64 (lb y' 0:Nat),.int .u64 (lb y' 1:Nat),.int .u64 (lb y' 2:Nat),.int .u64 (lb y' 3:Nat),.int .u64 (lb z' 0:Nat),.int .u64 (lb z' 1:Nat),.int .u64 (lb z' 2:Nat),.int .u64 (lb z' 3:Nat)] 8).run Tryz.prog w = .ok (.agg #[.int .u64 (lb z' 0:Nat),.int .u64 (lb z' 1:Nat),.int .u64 (lb z' 2:Nat),.int .u64 (lb z' 3:Nat)]) w:=part24 _ _ (by simp) w;have f1 : ("x" ≠ "_") = True := by simp
 have f2 : ("y" ≠ "_") = True := by simp
 have f3 : ("z" ≠ "_") = True := by simp
 simp only [Program.fieldsOf,Tryz.underlying162,Op.eqFields,f1,f2,f3,if_true,Sem.run_bind,a0,b0,Result.andThen_ok,h1];rw [show decide (x=x'∧y=y'∧z=z')=(decide (x=x')&&(decide (y=y')&&decide (z=z'))) from by rw [Bool.decide_and,Bool.decide_and]];clear a0 b0 h1;generalize decide (x=x')=c1;generalize decide (y=y')=c2 at h2 ⊢;generalize decide (z=z')=c3 at h3 ⊢;cases c1<;>cases c2<;>cases c3<;>simp only [Bool.and_true,Bool.and_false,Bool.true_and,Bool.false_and,a1,a2,b1,b2,h2,h3,decide_true,decide_false,Bool.not_true,Bool.not_false,Bool.false_eq_true,if_true,if_false,Sem.run_bind,Sem.run_pure,Result.andThen_ok,and_true,and_false,true_and,false_and]
theorem eqP (x y x' y':Nat)(i i':Bool)(hx:x<W256)(hy:y<W256)(hx':x' < W256)(hy':y' < W256)(w:World): (Op.equalIn 10000 26 (pn x y i) (pn x' y' i')).run Tryz.prog w = .ok (decide (x=x'∧y=y'∧i=i')) w:=by
 unfold pn;rw [show(10000:Nat)=9999+1 from rfl,run_equalIn_struct w 9999 26 _ _ u51 (by kernel_rfl)];have h1:=eqN' 9997 x x' hx hx' w;have h2:=eqN' 9997 y y' hy hy' w;have h3:(Op.equalIn 9999 4 (.bool i) (.bool i')).run Tryz.prog w = .ok (i == i') w:=run_equalIn_bool' w 9998 4 i i' Tryz.underlying4;have a0:(part 24 #[υ x 0,υ x 1,υ x 2,υ x 3,υ y 0,υ y 1,υ y 2,υ y 3,.bool i] 0).run Tryz.prog w = .ok (.agg #[υ x 0,υ x 1,υ x 2,υ x 3]) w:=part24 _ _ (by simp) w;have a1:(part 24 #[υ x 0,υ x 1,υ x 2,υ x 3,υ y 0,υ y 1,υ y 2,υ y 3,.bool i] 4).run Tryz.prog w = .ok (.agg #[υ y 0,υ y 1,υ y 2,υ y 3]) w:=part24 _ _ (by simp) w;have a2:(part 4 #[υ x 0,υ x 1,υ x 2,υ x 3,υ y 0,υ y 1,υ y 2,υ y 3,.bool i] 8).run Tryz.prog w = .ok (.bool i) w:=by
  have:#[υ x 0,υ x 1,υ x 2,υ x 3,υ y 0,υ y 1,υ y 2,υ y 3,.bool i][8]?=some (Value.bool i):=rfl
  simp [part,go_sem,Tryz.underlying4,Tryz.isAgg4,Tryz.sizeOf4]
 have b0:(part 24 #[.int .u64 (lb x' 0:Nat),.int .u64 (lb x' 1:Nat),.int .u64 (lb x' 2:Nat),.int .u64 (lb x' 3:Nat),.int .u64 (lb y' 0:Nat),.int .u64 (lb y' 1:Nat),.int .u64 (lb y' 2:Nat),.int .u64 (lb y' 3:Nat),.bool i'] 0).run Tryz.prog w = .ok (.agg #[.int .u64 (lb x' 0:Nat),.int .u64 (lb x' 1:Nat),.int .u64 (lb x' 2:Nat),.int .u64 (lb x' 3:Nat)]) w:=part24 _ _ (by simp) w;have b1:(part 24 #[.int .u64 (lb x' 0:Nat),.int .u64 (lb x' 1:Nat),.int .u64 (lb x' 2:Nat),.int .u64 (lb x' 3:Nat),.int .u64 (lb y' 0:Nat),.int .u64 (lb y' 1:Nat),.int .u64 (lb y' 2:Nat),.int .u64 (lb y' 3:Nat),.bool i'] 4).run Tryz.prog w = .ok (.agg #[.int .u64 (lb y' 0:Nat),.int .u64 (lb y' 1:Nat),.int .u64 (lb y' 2:Nat),.int .u64 (lb y' 3:Nat)]) w:=part24 _ _ (by simp) w;have b2:(part 4 #[.int .u64 (lb x' 0:Nat),.int .u64 (lb x' 1:Nat),.int .u64 (lb x' 2:Nat),.int .u64 (lb x' 3:Nat),.int .u64 (lb y' 0:Nat),.int .u64 (lb y' 1:Nat),.int .u64 (lb y' 2:Nat),.int .u64 (lb y' 3:Nat),.bool i'] 8).run Tryz.prog w = .ok (.bool i') w:=by
  have:#[.int .u64 (lb x' 0:Nat),.int .u64 (lb x' 1:Nat),.int .u64 (lb x' 2:Nat),.int .u64 (lb x' 3:Nat),.int .u64 (lb y' 0:Nat),.int .u64 (lb y' 1:Nat),.int .u64 (lb y' 2:Nat),.int .u64 (lb y' 3:Nat),.bool i'][8]?=some (Value.bool i'):=rfl
  simp [part,go_sem,Tryz.underlying4,Tryz.isAgg4,Tryz.sizeOf4]
 have f1 : ("X" ≠ "_") = True := by simp
 have f2 : ("Y" ≠ "_") = True := by simp
 have f3 : ("Inf" ≠ "_") = True := by simp
 simp only [Program.fieldsOf,Tryz.underlying26,Op.eqFields,f1,f2,f3,if_true,Sem.run_bind,a0,b0,Result.andThen_ok,h1];rw [show decide (x=x'∧y=y'∧i=i')=(decide (x=x')&&(decide (y=y')&&(i == i'))) from by rw [Bool.decide_and,Bool.decide_and];cases i<;>cases i'<;>rfl];clear a0 b0 h1;generalize decide (x=x')=c1;generalize decide (y=y')=c2 at h2 ⊢;generalize (i == i')=c3 at h3 ⊢;cases c1<;>cases c2<;>cases c3<;>simp only [Bool.and_true,Bool.and_false,Bool.true_and,Bool.false_and,a1,a2,b1,b2,h2,h3,decide_true,decide_false,Bool.not_true,Bool.not_false,Bool.false_eq_true,if_true,if_false,Sem.run_bind,Sem.run_pure,Result.andThen_ok,and_true,and_false,true_and,false_and]
end
section
open Go.ChangeShapes Go.WideShapes Go.ChangeAt Go.RowKit Limbs
theorem own:ownKnob Tryz.prog.godebug=none:=by kernel_rfl
section
variable {H:Type} {enc:TypeId×Value→H} {P:Program}
theorem post_below {f:Func}{s:ChangeSpec}{apart fresh handsOn again:Bool}{W W':World}{args:Array Value}{v:Value}{ds gs:List (DataW H)}{before pa pv:List MemPlace}
  (hW:DataW.Whole enc P f.params.toList s.vars apart W args.toList ds gs before)
  (hres:∀(b:Nat) (sp:Nat→Bool) (hd:Bool),DataW.TrodAll enc P W' b sp hd f.resultTypes.toList (v.resultList f.resultTypes.size) (s.fn H (ds++gs)).results [])
  (hargs:∀sp:Nat→Bool,(∀p∈before,sp p.block=true)→DataW.TrodAll enc P W' 0 sp true f.params.toList args.toList (s.fn H (ds++gs)).args pa)
  (hvars:∀sp:Nat→Bool,(∀p∈before,sp p.block=true)→DataW.TrodVars enc P W' sp s.vars (s.fn H (ds++gs)).vars pv)
  (hps:before=pa++pv) (hb:Below W.heap.size W W')
  (hok:∀(j:Nat) (t:TypeId) (r:Value),f.resultTypes[j]?=some t→(v.resultList f.resultTypes.size)[j]?=some r→Value.okWide P W' .any 0 t r) :
  s.post enc P f apart fresh handsOn again W args v W':=by
 have hlt:∀p∈before,p.block<W.heap.size:=fun p hp=>hW.lt p hp
 have hold:∀p∈before,(fun b=>decide (b<W.heap.size)) p.block=true:=fun p hp=>by simpa using hlt p hp
 refine⟨ds,gs,before,[],pa,pv,hW,hres _ _ _,hargs _ hold,hvars _ hold,World.keptBut_mono (fun p hp=>⟨hp,?_⟩) (hb.frame (·∈before)),fun _=>?_⟩
 ·rw [hps,List.mem_append] at hp;exact Or.inr hp
 ·obtain⟨_,_,_,_,_,hz,hn⟩:=hW;refine⟨hok,_,_,([]++pa)++pv,⟨[]++pa,pv,trodAll_append (hargs _ (fun _ _=>rfl)) (hres _ _ _),hvars _ (fun _ _=>rfl),rfl,?_,?_⟩,?_⟩
  ·intro b off hp;have hin:MemPlace.cell b off∈before:=by rw [hps];simpa using hp
   rw [hb.frozen (hlt _ hin)];exact hz b off hin
  ·intro ha
   have:=hn ha
   rw [hps] at this
   simpa using this
  ·intro p hp _;rw [hps]
   simpa using hp
end
theorem reach_is:reachBytes≤140737488351232:=by decide
section
open Go.Joins
variable {H:Type} {enc:TypeId×Value→H}
def nd (x:Nat): DataW H:= .agg [.lit (.int .u64 (lb x 0:Nat)),.lit (.int .u64 (lb x 1:Nat)),.lit (.int .u64 (lb x 2:Nat)),.lit (.int .u64 (lb x 3:Nat))]
theorem wf_u64 {n:Int}(h:(Lit.int .u64 n).wf=true): 0≤n∧n≤18446744073709551615:=by
 simpa [Lit.wf,IntKind.min,IntKind.max,IntKind.signed,IntKind.bits] using h
theorem u64_wf {n:Nat}(h:n<18446744073709551616): (Lit.int .u64 (n:Int)).wf=true:=by
 simp [Lit.wf,IntKind.min,IntKind.max,IntKind.signed,IntKind.bits];omega
end
end
section
open Go.ChangeShapes Go.WideShapes Go.ChangeAt Go.RowKit Limbs Go.Joins
theorem array9 {cs:Array Value}(h:cs.size=9): ∃c0 c1 c2 c3 c4 c5 c6 c7 c8,cs=#[c0,c1,c2,c3,c4,c5,c6,c7,c8]:=by
 obtain⟨l⟩:=cs;simp at h
 match l,h with
 |[c0,c1,c2,c3,c4,c5,c6,c7,c8],_=>exact⟨c0,c1,c2,c3,c4,c5,c6,c7,c8,rfl⟩
section
variable {H:Type} {enc:TypeId×Value→H}
theorem open_four {W:World}{base:Nat}{spare:Nat→Bool}{held:Bool}{fuel:Nat}{c0 c1 c2 c3:Value}{x:DataW H×List MemPlace}(hf:DataW.trod enc Tryz.prog W base spare held fuel 24 [c0,c1,c2,c3]=some x):
  ∃n:Nat,n<W256∧(c0 = .int .u64 (lb n 0:Nat)∧c1 = .int .u64 (lb n 1:Nat)∧c2 = .int .u64 (lb n 2:Nat)∧c3 = .int .u64 (lb n 3:Nat))∧x=(nd n,[]):=by
 obtain⟨y0,y1,y2,y3,m,hx,hy0,hy1,hy2,hy3⟩:=trod_array4 Tryz.underlying24 (show Tryz.prog.cellsOf 22=1 by kernel_rfl) hf;obtain⟨x0,e0,rfl,w0⟩:=DataW.trod_int Tryz.underlying22 hy0;obtain⟨x1,e1,rfl,w1⟩:=DataW.trod_int Tryz.underlying22 hy1;obtain⟨x2,e2,rfl,w2⟩:=DataW.trod_int Tryz.underlying22 hy2;obtain⟨x3,e3,rfl,w3⟩:=DataW.trod_int Tryz.underlying22 hy3;simp at e0 e1 e2 e3;subst e0 e1 e2 e3;have b0:=wf_u64 w0;have b1:=wf_u64 w1;have b2:=wf_u64 w2;have b3:=wf_u64 w3;obtain⟨n0,rfl⟩:=Int.eq_ofNat_of_zero_le b0.1;obtain⟨n1,rfl⟩:=Int.eq_ofNat_of_zero_le b1.1;obtain⟨n2,rfl⟩:=Int.eq_ofNat_of_zero_le b2.1;obtain⟨n3,rfl⟩:=Int.eq_ofNat_of_zero_le b3.1;have h0:n0<18446744073709551616:=by omega
 have h1:n1<18446744073709551616:=by omega
 have h2:n2<18446744073709551616:=by omega
 have h3:n3<18446744073709551616:=by omega
 obtain⟨l0,l1,l2,l3⟩:=lb_v4 h0 h1 h2 h3;refine⟨v4 n0 n1 n2 n3,v4_lt h0 h1 h2 h3,?_,?_⟩
 ·rw [l0,l1,l2,l3];exact⟨rfl,rfl,rfl,rfl⟩
 ·rw [hx];unfold nd;rw [l0,l1,l2,l3];rfl
def pd (x y:Nat)(i:Bool): DataW H:= .agg [nd x,nd y,.lit (.bool i)]
theorem open_point {W:World}{r:Reach}{b0 base:Nat}{spare:Nat→Bool}{held:Bool}{v:Value}{d:DataW H}{p:List MemPlace}(hv:Value.okWide Tryz.prog W r b0 26 v)(h:DataW.Trod enc Tryz.prog W base spare held 26 v d p):
  ∃(x y:Nat) (i:Bool),x<W256∧y<W256∧v=pn x y i∧d=pd x y i∧p=[]:=by
 obtain⟨cs,rfl,hsz,_⟩:∃cs,v = .agg cs∧cs.size=Tryz.prog.cellsOf 26∧Row.okWide Tryz.prog W r b0 26 cs:=by
  simpa [Value.okWide,Tryz.underlying26] using hv
 rw [show Tryz.prog.cellsOf 26=9 by kernel_rfl] at hsz;obtain⟨c0,c1,c2,c3,c4,c5,c6,c7,c8,rfl⟩:=array9 hsz;obtain⟨fuel,hf⟩:=h;have c24:Tryz.prog.cellsOf 24=4:=by kernel_rfl
 have c4:Tryz.prog.cellsOf 4=1:=by kernel_rfl
 simp only [Value.cells] at hf;obtain⟨y0,y1,y2,n,hx,_,h0,h1,h2⟩:=Go.Deep.trod_struct3 Tryz.underlying26 hf;simp [c24,c4] at h0 h1 h2;obtain⟨x,hx',⟨rfl,rfl,rfl,rfl⟩,rfl⟩:=open_four h0;obtain⟨y,hy',⟨rfl,rfl,rfl,rfl⟩,rfl⟩:=open_four h1;obtain⟨i,e,rfl⟩:=DataW.trod_bool Tryz.underlying4 h2;simp at e;subst e;simp at hx;obtain⟨rfl,rfl⟩:=hx;exact⟨x,y,i,hx',hy',rfl,rfl,rfl⟩
theorem shut_point {W:World}{base:Nat}{spare:Nat→Bool}{held:Bool}(x y:Nat)(i:Bool):
  DataW.Trod enc Tryz.prog W base spare held 26 (pn x y i) (pd x y i) []:=by
 have c22:Tryz.prog.cellsOf 22=1:=by kernel_rfl
 have c24:Tryz.prog.cellsOf 24=4:=by kernel_rfl
 have c51:Tryz.prog.cellsOf 26=9:=by kernel_rfl
 have c4:Tryz.prog.cellsOf 4=1:=by kernel_rfl
 have r4:List.range 4=[0,1,2,3]:=rfl;exact⟨3,by simp [DataW.trod,pn,pd,nd,Value.cells,Tryz.underlying26,Tryz.underlying24,Tryz.underlying22,Tryz.underlying4,c22,c24,c51,c4,r4,u64_wf (lb_lt x 0),u64_wf (lb_lt x 1),u64_wf (lb_lt x 2),u64_wf (lb_lt x 3),u64_wf (lb_lt y 0),u64_wf (lb_lt y 1),u64_wf (lb_lt y 2),u64_wf (lb_lt y 3)]⟩
end
end
end Go.Proofs.YtpggkfdijmnmiaaGreat
