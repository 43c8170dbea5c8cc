/- What is left of a number, divided (the reference's Left). Co -/
import Derived.Test.YtpggkfdijmnmiaaGreatZw03
import Derived.Test.YtpggkfdijmnmiaaGreatZw00
import Derived.Deep.QuietTactic
set_option linter.unusedVariables false
set_option linter.unusedSimpArgs false
set_option maxRecDepth 100000
namespace Go.Proofs.YtpggkfdijmnmiaaGreat
namespace Ref
open Go.RowKit Go.Proofs.YtpggkfdijmnmiaaGreat.Digits Limbs
open Go.Lib renaming hid→Φ
def four (x:Nat): List Nat:=[x % 65536,x / 65536 % 65536,x / 4294967296 % 65536,x / 281474976710656 % 65536]
def all4 (a b c d:Nat): List Nat:=four a++four b++four c++four d
def wd (a b c d:Nat): Nat→Nat
 |0=>a
 |1=>b
 |2=>c
 |_=>d
def sh:Nat→Nat
 |0=>1
 |1=>65536
 |2=>4294967296
 |_=>281474976710656
theorem all_take (a b c d:Nat){j k:Nat}(hj:j<4)(hk:k<4): (all4 a b c d).take (4*j+(k+1))=(all4 a b c d).take (4*j+k)++[wd a b c d j / sh k % 65536]:=by
 have hj':j=0∨j=1∨j=2∨j=3:=by omega
 have hk':k=0∨k=1∨k=2∨k=3:=by omega
 rcases hj' with rfl | rfl | rfl | rfl<;>rcases hk' with rfl | rfl | rfl | rfl<;>simp [all4,four,wd,sh]
theorem all_dig (a b c d:Nat): Dig (all4 a b c d):=by
 intro x hx;simp only [all4,four,List.mem_append,List.mem_cons,List.not_mem_nil,or_false] at hx;omega
theorem four_val {x:Nat}(h:x<18446744073709551616)(l:List Nat): val (four x++l)=x+18446744073709551616*val l:=by
 rw [val_append];simp only [four,val,List.length_cons,List.length_nil];omega
theorem all_val {a b c d:Nat}(ha:a<18446744073709551616)(hb:b<18446744073709551616)(hc:c<18446744073709551616)(hd:d<18446744073709551616): val (all4 a b c d)=a+18446744073709551616*(b+18446744073709551616*(c+18446744073709551616*d)):=by
 have e:=four_val hd [];rw [List.append_nil] at e;rw [all4,List.append_assoc,List.append_assoc,four_val ha,four_val hb,four_val hc,e];simp [val]
theorem and64 (n:Nat)(h:n<18446744073709551616): bits .and .u64 (n:Int) 65535=((n % 65536:Nat):Int):=by
 have:=u64_and_nat n 65535 h (by decide)
 rw [show((65535:Nat):Int)=65535 from rfl,show(65535:Nat)=2 ^ 16 - 1 from rfl,Nat.and_two_pow_sub_one_eq_mod] at this;exact this
set_option maxHeartbeats 8000000 in
theorem in_any (x:Nat)(hx:x<W256)(w:World):
  Calls Tryz.prog 45 #[nv x] w fun e w'=>∃v',e = .returned v'∧Nr w w' v' x:=by
 have HBW:=Φ ((Below.refl w.heap.size w).alloc (Nat.le_refl _) (.cells #[.int .u64 (lb x 0:Nat),.int .u64 (lb x 1:Nat),.int .u64 (lb x 2:Nat),.int .u64 (lb x 3:Nat)] 24));have K0:Hid (Bk 24 (w.alloc (.cells #[.int .u64 (lb x 0:Nat),.int .u64 (lb x 1:Nat),.int .u64 (lb x 2:Nat),.int .u64 (lb x 3:Nat)] 24)) w.heap.size #[.int .u64 (lb x 0:Nat),.int .u64 (lb x 1:Nat),.int .u64 (lb x 2:Nat),.int .u64 (lb x 3:Nat)]):=Φ (Bk.new rfl);simp only [nv,num];have HL:Hid (lb x 0<18446744073709551616∧lb x 1<18446744073709551616∧lb x 2<18446744073709551616∧lb x 3<18446744073709551616):=Φ ⟨lb_lt x 0,lb_lt x 1,lb_lt x 2,lb_lt x 3⟩;obtain⟨B,hB⟩:∃z,z=all4 (lb x 0) (lb x 1) (lb x 2) (lb x 3):=⟨_,rfl⟩;have HAll:=Φ hB;clear hB;have HX:=Φ hx;clear hx;go_enter Tryz.func45,Tryz.ntmps45;go_wp2_with fail;have HR0:=Φ (Rd.nil (w.alloc (.cells #[.int .u64 (lb x 0:Nat),.int .u64 (lb x 1:Nat),.int .u64 (lb x 2:Nat),.int .u64 (lb x 3:Nat)] 24)));have HB0:Hid (Below (w.alloc (.cells #[.int .u64 (lb x 0:Nat),.int .u64 (lb x 1:Nat),.int .u64 (lb x 2:Nat),.int .u64 (lb x 3:Nat)] 24)).heap.size (w.alloc (.cells #[.int .u64 (lb x 0:Nat),.int .u64 (lb x 1:Nat),.int .u64 (lb x 2:Nat),.int .u64 (lb x 3:Nat)] 24)) ((w.alloc (.cells #[.int .u64 (lb x 0:Nat),.int .u64 (lb x 1:Nat),.int .u64 (lb x 2:Nat),.int .u64 (lb x 3:Nat)] 24)).alloc (.cells #[] 111))):=Φ ((Below.refl _ _).alloc (Nat.le_refl _) _);generalize hW:(w.alloc (.cells #[.int .u64 (lb x 0:Nat),.int .u64 (lb x 1:Nat),.int .u64 (lb x 2:Nat),.int .u64 (lb x 3:Nat)] 24))=W at *;have hWs:W.heap.size=w.heap.size+1:=by rw [← hW];simp
 rw [← hWs];have HWS:=Φ hWs;clear hWs hW;refine wp_loop_rounds 5 ?_;rw [rounds_succ];go_wp2_with fail
 go_loopw [3,5] (fun o i wr=>∃k:Nat,k≤4∧i = .int .i64 (k:Int)∧Rd W.heap.size o (B.take (4*0+k)) wr∧Below W.heap.size W wr) (fun _ i _=>4 - (intOf i).toNat)
 case atStart=>exact⟨0,by omega,rfl,HR0.out,HB0.out⟩
 case round=>
  clear HR0 HB0;obtain⟨k,hk,rfl,hr,hb⟩:=hrel;have HR:=Φ hr;have HW:=Φ hb;clear hr hb
  by_cases hlt:k<4
  ·have hk4:k=0∨k=1∨k=2∨k=3:=by omega
   have ic:wr.cell? ⟨w.heap.size,0,none⟩=some (.int .u64 (lb x 0:Nat)):=(HW.out.cell (p:=⟨w.heap.size,0,none⟩) K0.out.lt).trans (K0.out.cell 0);clear hk;rcases hk4 with rfl | rfl | rfl | rfl
   ·obtain⟨q,hq⟩:∃q,q=lb x 0 / 1:=⟨_,rfl⟩;obtain⟨D,hD⟩:∃D,D=q % 65536:=⟨_,rfl⟩;have hT:Hid (B.take (4*0+(0+1))=B.take (4*0+0)++[D]):=Φ (by rw [HAll.out,hD,hq];exact all_take (lb x 0) (lb x 1) (lb x 2) (lb x 3) (j:=0) (k:=0) (by decide) (by decide));have hql:q<18446744073709551616:=by have:=HL.out;omega
    have h1:bits .and .u64 (q:Int) 65535=(D:Int):=by rw [hD];exact and64 q hql
    have h2:(D:Int) % 4294967296=(D:Int):=by omega
    have h3:lb x 0=q:=by rw [hq,Nat.div_one]
    rw [h3] at ic;clear hq hD hql h3;go_wp2_with (at_builtin;refine app_d _ D rfl (.tmp 15) (.tmp 24) rfl rfl rfl rfl HR.out HW.out (by rw [List.length_take];omega) ?_;intro v1 w1 hr hb;have HR2:=Φ hr;have HW2:=Φ hb;clear hr hb)
    go_roundw
    case rel=>exact⟨0+1,by omega,by go_num,by rw [hT.out];exact HR2.out,HW2.out⟩
    case measure=>simp [intOf]
   ·obtain⟨q,hq⟩:∃q,q=lb x 0 / 65536:=⟨_,rfl⟩;obtain⟨D,hD⟩:∃D,D=q % 65536:=⟨_,rfl⟩;have hT:Hid (B.take (4*0+(1+1))=B.take (4*0+1)++[D]):=Φ (by rw [HAll.out,hD,hq];exact all_take (lb x 0) (lb x 1) (lb x 2) (lb x 3) (j:=0) (k:=1) (by decide) (by decide));have hql:q<18446744073709551616:=by have:=HL.out;omega
    have h1:bits .and .u64 (q:Int) 65535=(D:Int):=by rw [hD];exact and64 q hql
    have h2:(D:Int) % 4294967296=(D:Int):=by omega
    have h3:((lb x 0:Nat):Int) / 65536=(q:Int):=by rw [hq];omega
    clear hq hD hql;go_wp2_with (at_builtin;refine app_d _ D rfl (.tmp 15) (.tmp 24) rfl rfl rfl rfl HR.out HW.out (by rw [List.length_take];omega) ?_;intro v1 w1 hr hb;have HR2:=Φ hr;have HW2:=Φ hb;clear hr hb)
    go_roundw
    case rel=>exact⟨1+1,by omega,by go_num,by rw [hT.out];exact HR2.out,HW2.out⟩
    case measure=>simp [intOf]
   ·obtain⟨q,hq⟩:∃q,q=lb x 0 / 4294967296:=⟨_,rfl⟩;obtain⟨D,hD⟩:∃D,D=q % 65536:=⟨_,rfl⟩;have hT:Hid (B.take (4*0+(2+1))=B.take (4*0+2)++[D]):=Φ (by rw [HAll.out,hD,hq];exact all_take (lb x 0) (lb x 1) (lb x 2) (lb x 3) (j:=0) (k:=2) (by decide) (by decide));have hql:q<18446744073709551616:=by have:=HL.out;omega
    have h1:bits .and .u64 (q:Int) 65535=(D:Int):=by rw [hD];exact and64 q hql
    have h2:(D:Int) % 4294967296=(D:Int):=by omega
    have h3:((lb x 0:Nat):Int) / 4294967296=(q:Int):=by rw [hq];omega
    clear hq hD hql;go_wp2_with (at_builtin;refine app_d _ D rfl (.tmp 15) (.tmp 24) rfl rfl rfl rfl HR.out HW.out (by rw [List.length_take];omega) ?_;intro v1 w1 hr hb;have HR2:=Φ hr;have HW2:=Φ hb;clear hr hb)
    go_roundw
    case rel=>exact⟨2+1,by omega,by go_num,by rw [hT.out];exact HR2.out,HW2.out⟩
    case measure=>simp [intOf]
   ·obtain⟨q,hq⟩:∃q,q=lb x 0 / 281474976710656:=⟨_,rfl⟩;obtain⟨D,hD⟩:∃D,D=q % 65536:=⟨_,rfl⟩;have hT:Hid (B.take (4*0+(3+1))=B.take (4*0+3)++[D]):=Φ (by rw [HAll.out,hD,hq];exact all_take (lb x 0) (lb x 1) (lb x 2) (lb x 3) (j:=0) (k:=3) (by decide) (by decide));have hql:q<18446744073709551616:=by have:=HL.out;omega
    have h1:bits .and .u64 (q:Int) 65535=(D:Int):=by rw [hD];exact and64 q hql
    have h2:(D:Int) % 4294967296=(D:Int):=by omega
    have h3:((lb x 0:Nat):Int) / 281474976710656=(q:Int):=by rw [hq];omega
    clear hq hD hql;go_wp2_with (at_builtin;refine app_d _ D rfl (.tmp 15) (.tmp 24) rfl rfl rfl rfl HR.out HW.out (by rw [List.length_take];omega) ?_;intro v1 w1 hr hb;have HR2:=Φ hr;have HW2:=Φ hb;clear hr hb)
    go_roundw
    case rel=>exact⟨3+1,by omega,by go_num,by rw [hT.out];exact HR2.out,HW2.out⟩
    case measure=>simp [intOf]
  ·obtain rfl:k=4:=by omega
   go_wp2_with fail;have HR1:=HR;have HB1:=HW;rw [rounds_succ];go_wp2_with fail
   go_loopw [3,5] (fun o i wr=>∃k:Nat,k≤4∧i = .int .i64 (k:Int)∧Rd W.heap.size o (B.take (4*1+k)) wr∧Below W.heap.size W wr) (fun _ i _=>4 - (intOf i).toNat)
   case atStart=>exact⟨0,by omega,rfl,HR1.out,HB1.out⟩
   case round=>
    clear HR1 HB1;obtain⟨k,hk,rfl,hr,hb⟩:=hrel;have HR:=Φ hr;have HW:=Φ hb;clear hr hb
    by_cases hlt:k<4
    ·have hk4:k=0∨k=1∨k=2∨k=3:=by omega
     have ic:wr.cell? ⟨w.heap.size,1,none⟩=some (.int .u64 (lb x 1:Nat)):=(HW.out.cell (p:=⟨w.heap.size,1,none⟩) K0.out.lt).trans (K0.out.cell 1);clear hk;rcases hk4 with rfl | rfl | rfl | rfl
     ·obtain⟨q,hq⟩:∃q,q=lb x 1 / 1:=⟨_,rfl⟩;obtain⟨D,hD⟩:∃D,D=q % 65536:=⟨_,rfl⟩;have hT:Hid (B.take (4*1+(0+1))=B.take (4*1+0)++[D]):=Φ (by rw [HAll.out,hD,hq];exact all_take (lb x 0) (lb x 1) (lb x 2) (lb x 3) (j:=1) (k:=0) (by decide) (by decide));have hql:q<18446744073709551616:=by have:=HL.out;omega
      have h1:bits .and .u64 (q:Int) 65535=(D:Int):=by rw [hD];exact and64 q hql
      have h2:(D:Int) % 4294967296=(D:Int):=by omega
      have h3:lb x 1=q:=by rw [hq,Nat.div_one]
      rw [h3] at ic;clear hq hD hql h3;go_wp2_with (at_builtin;refine app_d _ D rfl (.tmp 15) (.tmp 24) rfl rfl rfl rfl HR.out HW.out (by rw [List.length_take];omega) ?_;intro v1 w1 hr hb;have HR2:=Φ hr;have HW2:=Φ hb;clear hr hb)
      go_roundw
      case rel=>exact⟨0+1,by omega,by go_num,by rw [hT.out];exact HR2.out,HW2.out⟩
      case measure=>simp [intOf]
     ·obtain⟨q,hq⟩:∃q,q=lb x 1 / 65536:=⟨_,rfl⟩;obtain⟨D,hD⟩:∃D,D=q % 65536:=⟨_,rfl⟩;have hT:Hid (B.take (4*1+(1+1))=B.take (4*1+1)++[D]):=Φ (by rw [HAll.out,hD,hq];exact all_take (lb x 0) (lb x 1) (lb x 2) (lb x 3) (j:=1) (k:=1) (by decide) (by decide));have hql:q<18446744073709551616:=by have:=HL.out;omega
      have h1:bits .and .u64 (q:Int) 65535=(D:Int):=by rw [hD];exact and64 q hql
      have h2:(D:Int) % 4294967296=(D:Int):=by omega
      have h3:((lb x 1:Nat):Int) / 65536=(q:Int):=by rw [hq];omega
      clear hq hD hql;go_wp2_with (at_builtin;refine app_d _ D rfl (.tmp 15) (.tmp 24) rfl rfl rfl rfl HR.out HW.out (by rw [List.length_take];omega) ?_;intro v1 w1 hr hb;have HR2:=Φ hr;have HW2:=Φ hb;clear hr hb)
      go_roundw
      case rel=>exact⟨1+1,by omega,by go_num,by rw [hT.out];exact HR2.out,HW2.out⟩
      case measure=>simp [intOf]
     ·obtain⟨q,hq⟩:∃q,q=lb x 1 / 4294967296:=⟨_,rfl⟩;obtain⟨D,hD⟩:∃D,D=q % 65536:=⟨_,rfl⟩;have hT:Hid (B.take (4*1+(2+1))=B.take (4*1+2)++[D]):=Φ (by rw [HAll.out,hD,hq];exact all_take (lb x 0) (lb x 1) (lb x 2) (lb x 3) (j:=1) (k:=2) (by decide) (by decide));have hql:q<18446744073709551616:=by have:=HL.out;omega
      have h1:bits .and .u64 (q:Int) 65535=(D:Int):=by rw [hD];exact and64 q hql
      have h2:(D:Int) % 4294967296=(D:Int):=by omega
      have h3:((lb x 1:Nat):Int) / 4294967296=(q:Int):=by rw [hq];omega
      clear hq hD hql;go_wp2_with (at_builtin;refine app_d _ D rfl (.tmp 15) (.tmp 24) rfl rfl rfl rfl HR.out HW.out (by rw [List.length_take];omega) ?_;intro v1 w1 hr hb;have HR2:=Φ hr;have HW2:=Φ hb;clear hr hb)
      go_roundw
      case rel=>exact⟨2+1,by omega,by go_num,by rw [hT.out];exact HR2.out,HW2.out⟩
      case measure=>simp [intOf]
     ·obtain⟨q,hq⟩:∃q,q=lb x 1 / 281474976710656:=⟨_,rfl⟩;obtain⟨D,hD⟩:∃D,D=q % 65536:=⟨_,rfl⟩;have hT:Hid (B.take (4*1+(3+1))=B.take (4*1+3)++[D]):=Φ (by rw [HAll.out,hD,hq];exact all_take (lb x 0) (lb x 1) (lb x 2) (lb x 3) (j:=1) (k:=3) (by decide) (by decide));have hql:q<18446744073709551616:=by have:=HL.out;omega
      have h1:bits .and .u64 (q:Int) 65535=(D:Int):=by rw [hD];exact and64 q hql
      have h2:(D:Int) % 4294967296=(D:Int):=by omega
      have h3:((lb x 1:Nat):Int) / 281474976710656=(q:Int):=by rw [hq];omega
      clear hq hD hql;go_wp2_with (at_builtin;refine app_d _ D rfl (.tmp 15) (.tmp 24) rfl rfl rfl rfl HR.out HW.out (by rw [List.length_take];omega) ?_;intro v1 w1 hr hb;have HR2:=Φ hr;have HW2:=Φ hb;clear hr hb)
      go_roundw
      case rel=>exact⟨3+1,by omega,by go_num,by rw [hT.out];exact HR2.out,HW2.out⟩
      case measure=>simp [intOf]
    ·obtain rfl:k=4:=by omega
     go_wp2_with fail;have HR2:=HR;have HB2:=HW;rw [rounds_succ];go_wp2_with fail
     go_loopw [3,5] (fun o i wr=>∃k:Nat,k≤4∧i = .int .i64 (k:Int)∧Rd W.heap.size o (B.take (4*2+k)) wr∧Below W.heap.size W wr) (fun _ i _=>4 - (intOf i).toNat)
     case atStart=>exact⟨0,by omega,rfl,HR2.out,HB2.out⟩
     case round=>
      clear HR2 HB2;obtain⟨k,hk,rfl,hr,hb⟩:=hrel;have HR:=Φ hr;have HW:=Φ hb;clear hr hb
      by_cases hlt:k<4
      ·have hk4:k=0∨k=1∨k=2∨k=3:=by omega
       have ic:wr.cell? ⟨w.heap.size,2,none⟩=some (.int .u64 (lb x 2:Nat)):=(HW.out.cell (p:=⟨w.heap.size,2,none⟩) K0.out.lt).trans (K0.out.cell 2);clear hk;rcases hk4 with rfl | rfl | rfl | rfl
       ·obtain⟨q,hq⟩:∃q,q=lb x 2 / 1:=⟨_,rfl⟩;obtain⟨D,hD⟩:∃D,D=q % 65536:=⟨_,rfl⟩;have hT:Hid (B.take (4*2+(0+1))=B.take (4*2+0)++[D]):=Φ (by rw [HAll.out,hD,hq];exact all_take (lb x 0) (lb x 1) (lb x 2) (lb x 3) (j:=2) (k:=0) (by decide) (by decide));have hql:q<18446744073709551616:=by have:=HL.out;omega
        have h1:bits .and .u64 (q:Int) 65535=(D:Int):=by rw [hD];exact and64 q hql
        have h2:(D:Int) % 4294967296=(D:Int):=by omega
        have h3:lb x 2=q:=by rw [hq,Nat.div_one]
        rw [h3] at ic;clear hq hD hql h3;go_wp2_with (at_builtin;refine app_d _ D rfl (.tmp 15) (.tmp 24) rfl rfl rfl rfl HR.out HW.out (by rw [List.length_take];omega) ?_;intro v1 w1 hr hb;have HR2:=Φ hr;have HW2:=Φ hb;clear hr hb)
        go_roundw
        case rel=>exact⟨0+1,by omega,by go_num,by rw [hT.out];exact HR2.out,HW2.out⟩
        case measure=>simp [intOf]
       ·obtain⟨q,hq⟩:∃q,q=lb x 2 / 65536:=⟨_,rfl⟩;obtain⟨D,hD⟩:∃D,D=q % 65536:=⟨_,rfl⟩;have hT:Hid (B.take (4*2+(1+1))=B.take (4*2+1)++[D]):=Φ (by rw [HAll.out,hD,hq];exact all_take (lb x 0) (lb x 1) (lb x 2) (lb x 3) (j:=2) (k:=1) (by decide) (by decide));have hql:q<18446744073709551616:=by have:=HL.out;omega
        have h1:bits .and .u64 (q:Int) 65535=(D:Int):=by rw [hD];exact and64 q hql
        have h2:(D:Int) % 4294967296=(D:Int):=by omega
        have h3:((lb x 2:Nat):Int) / 65536=(q:Int):=by rw [hq];omega
        clear hq hD hql;go_wp2_with (at_builtin;refine app_d _ D rfl (.tmp 15) (.tmp 24) rfl rfl rfl rfl HR.out HW.out (by rw [List.length_take];omega) ?_;intro v1 w1 hr hb;have HR2:=Φ hr;have HW2:=Φ hb;clear hr hb)
        go_roundw
        case rel=>exact⟨1+1,by omega,by go_num,by rw [hT.out];exact HR2.out,HW2.out⟩
        case measure=>simp [intOf]
       ·obtain⟨q,hq⟩:∃q,q=lb x 2 / 4294967296:=⟨_,rfl⟩;obtain⟨D,hD⟩:∃D,D=q % 65536:=⟨_,rfl⟩;have hT:Hid (B.take (4*2+(2+1))=B.take (4*2+2)++[D]):=Φ (by rw [HAll.out,hD,hq];exact all_take (lb x 0) (lb x 1) (lb x 2) (lb x 3) (j:=2) (k:=2) (by decide) (by decide));have hql:q<18446744073709551616:=by have:=HL.out;omega
        have h1:bits .and .u64 (q:Int) 65535=(D:Int):=by rw [hD];exact and64 q hql
        have h2:(D:Int) % 4294967296=(D:Int):=by omega
        have h3:((lb x 2:Nat):Int) / 4294967296=(q:Int):=by rw [hq];omega
        clear hq hD hql;go_wp2_with (at_builtin;refine app_d _ D rfl (.tmp 15) (.tmp 24) rfl rfl rfl rfl HR.out HW.out (by rw [List.length_take];omega) ?_;intro v1 w1 hr hb;have HR2:=Φ hr;have HW2:=Φ hb;clear hr hb)
        go_roundw
        case rel=>exact⟨2+1,by omega,by go_num,by rw [hT.out];exact HR2.out,HW2.out⟩
        case measure=>simp [intOf]
       ·obtain⟨q,hq⟩:∃q,q=lb x 2 / 281474976710656:=⟨_,rfl⟩;obtain⟨D,hD⟩:∃D,D=q % 65536:=⟨_,rfl⟩;have hT:Hid (B.take (4*2+(3+1))=B.take (4*2+3)++[D]):=Φ (by rw [HAll.out,hD,hq];exact all_take (lb x 0) (lb x 1) (lb x 2) (lb x 3) (j:=2) (k:=3) (by decide) (by decide));have hql:q<18446744073709551616:=by have:=HL.out;omega
        have h1:bits .and .u64 (q:Int) 65535=(D:Int):=by rw [hD];exact and64 q hql
        have h2:(D:Int) % 4294967296=(D:Int):=by omega
        have h3:((lb x 2:Nat):Int) / 281474976710656=(q:Int):=by rw [hq];omega
        clear hq hD hql;go_wp2_with (at_builtin;refine app_d _ D rfl (.tmp 15) (.tmp 24) rfl rfl rfl rfl HR.out HW.out (by rw [List.length_take];omega) ?_;intro v1 w1 hr hb;have HR2:=Φ hr;have HW2:=Φ hb;clear hr hb)
        go_roundw
        case rel=>exact⟨3+1,by omega,by go_num,by rw [hT.out];exact HR2.out,HW2.out⟩
        case measure=>simp [intOf]
      ·obtain rfl:k=4:=by omega
       go_wp2_with fail;have HR3:=HR;have HB3:=HW;rw [rounds_succ];go_wp2_with fail
       go_loopw [3,5] (fun o i wr=>∃k:Nat,k≤4∧i = .int .i64 (k:Int)∧Rd W.heap.size o (B.take (4*3+k)) wr∧Below W.heap.size W wr) (fun _ i _=>4 - (intOf i).toNat)
       case atStart=>exact⟨0,by omega,rfl,HR3.out,HB3.out⟩
       case round=>
        clear HR3 HB3;obtain⟨k,hk,rfl,hr,hb⟩:=hrel;have HR:=Φ hr;have HW:=Φ hb;clear hr hb
        by_cases hlt:k<4
        ·have hk4:k=0∨k=1∨k=2∨k=3:=by omega
         have ic:wr.cell? ⟨w.heap.size,3,none⟩=some (.int .u64 (lb x 3:Nat)):=(HW.out.cell (p:=⟨w.heap.size,3,none⟩) K0.out.lt).trans (K0.out.cell 3);clear hk;rcases hk4 with rfl | rfl | rfl | rfl
         ·obtain⟨q,hq⟩:∃q,q=lb x 3 / 1:=⟨_,rfl⟩;obtain⟨D,hD⟩:∃D,D=q % 65536:=⟨_,rfl⟩;have hT:Hid (B.take (4*3+(0+1))=B.take (4*3+0)++[D]):=Φ (by rw [HAll.out,hD,hq];exact all_take (lb x 0) (lb x 1) (lb x 2) (lb x 3) (j:=3) (k:=0) (by decide) (by decide));have hql:q<18446744073709551616:=by have:=HL.out;omega
          have h1:bits .and .u64 (q:Int) 65535=(D:Int):=by rw [hD];exact and64 q hql
          have h2:(D:Int) % 4294967296=(D:Int):=by omega
          have h3:lb x 3=q:=by rw [hq,Nat.div_one]
          rw [h3] at ic;clear hq hD hql h3;go_wp2_with (at_builtin;refine app_d _ D rfl (.tmp 15) (.tmp 24) rfl rfl rfl rfl HR.out HW.out (by rw [List.length_take];omega) ?_;intro v1 w1 hr hb;have HR2:=Φ hr;have HW2:=Φ hb;clear hr hb)
          go_roundw
          case rel=>exact⟨0+1,by omega,by go_num,by rw [hT.out];exact HR2.out,HW2.out⟩
          case measure=>simp [intOf]
         ·obtain⟨q,hq⟩:∃q,q=lb x 3 / 65536:=⟨_,rfl⟩;obtain⟨D,hD⟩:∃D,D=q % 65536:=⟨_,rfl⟩;have hT:Hid (B.take (4*3+(1+1))=B.take (4*3+1)++[D]):=Φ (by rw [HAll.out,hD,hq];exact all_take (lb x 0) (lb x 1) (lb x 2) (lb x 3) (j:=3) (k:=1) (by decide) (by decide));have hql:q<18446744073709551616:=by have:=HL.out;omega
          have h1:bits .and .u64 (q:Int) 65535=(D:Int):=by rw [hD];exact and64 q hql
          have h2:(D:Int) % 4294967296=(D:Int):=by omega
          have h3:((lb x 3:Nat):Int) / 65536=(q:Int):=by rw [hq];omega
          clear hq hD hql;go_wp2_with (at_builtin;refine app_d _ D rfl (.tmp 15) (.tmp 24) rfl rfl rfl rfl HR.out HW.out (by rw [List.length_take];omega) ?_;intro v1 w1 hr hb;have HR2:=Φ hr;have HW2:=Φ hb;clear hr hb)
          go_roundw
          case rel=>exact⟨1+1,by omega,by go_num,by rw [hT.out];exact HR2.out,HW2.out⟩
          case measure=>simp [intOf]
         ·obtain⟨q,hq⟩:∃q,q=lb x 3 / 4294967296:=⟨_,rfl⟩;obtain⟨D,hD⟩:∃D,D=q % 65536:=⟨_,rfl⟩;have hT:Hid (B.take (4*3+(2+1))=B.take (4*3+2)++[D]):=Φ (by rw [HAll.out,hD,hq];exact all_take (lb x 0) (lb x 1) (lb x 2) (lb x 3) (j:=3) (k:=2) (by decide) (by decide));have hql:q<18446744073709551616:=by have:=HL.out;omega
          have h1:bits .and .u64 (q:Int) 65535=(D:Int):=by rw [hD];exact and64 q hql
          have h2:(D:Int) % 4294967296=(D:Int):=by omega
          have h3:((lb x 3:Nat):Int) / 4294967296=(q:Int):=by rw [hq];omega
          clear hq hD hql;go_wp2_with (at_builtin;refine app_d _ D rfl (.tmp 15) (.tmp 24) rfl rfl rfl rfl HR.out HW.out (by rw [List.length_take];omega) ?_;intro v1 w1 hr hb;have HR2:=Φ hr;have HW2:=Φ hb;clear hr hb)
          go_roundw
          case rel=>exact⟨2+1,by omega,by go_num,by rw [hT.out];exact HR2.out,HW2.out⟩
          case measure=>simp [intOf]
         ·obtain⟨q,hq⟩:∃q,q=lb x 3 / 281474976710656:=⟨_,rfl⟩;obtain⟨D,hD⟩:∃D,D=q % 65536:=⟨_,rfl⟩;have hT:Hid (B.take (4*3+(3+1))=B.take (4*3+3)++[D]):=Φ (by rw [HAll.out,hD,hq];exact all_take (lb x 0) (lb x 1) (lb x 2) (lb x 3) (j:=3) (k:=3) (by decide) (by decide));have hql:q<18446744073709551616:=by have:=HL.out;omega
          have h1:bits .and .u64 (q:Int) 65535=(D:Int):=by rw [hD];exact and64 q hql
          have h2:(D:Int) % 4294967296=(D:Int):=by omega
          have h3:((lb x 3:Nat):Int) / 281474976710656=(q:Int):=by rw [hq];omega
          clear hq hD hql;go_wp2_with (at_builtin;refine app_d _ D rfl (.tmp 15) (.tmp 24) rfl rfl rfl rfl HR.out HW.out (by rw [List.length_take];omega) ?_;intro v1 w1 hr hb;have HR2:=Φ hr;have HW2:=Φ hb;clear hr hb)
          go_roundw
          case rel=>exact⟨3+1,by omega,by go_num,by rw [hT.out];exact HR2.out,HW2.out⟩
          case measure=>simp [intOf]
        ·obtain rfl:k=4:=by omega
         go_wp2_with fail;rw [rounds_succ];go_wp2_with fail;have hBl:B.take (4*3+4)=B:=List.take_of_length_le (by rw [HAll.out];simp [all4,four]);rw [hBl] at HR;have hne:B≠[]:=by rw [HAll.out];simp [all4,four]
         have hlen:B.length≤10000000000001:=by rw [HAll.out];simp [all4,four]
         refine(trim_any B _ wr (HR.out.dr hne hlen)).mono ?_;rintro e w2 ⟨⟨v2,rfl,hdr⟩,rfl⟩;have HF:Hid (Nr w wr v2 x):=Φ ⟨⟨_,hdr,trim_dig (by rw [HAll.out];exact all_dig _ _ _ _),trim_trim _,by
          rw [trim_val,HAll.out,all_val HL.out.1 HL.out.2.1 HL.out.2.2.1 HL.out.2.2.2]
          have:=v4_lb HX.out
          unfold v4 at this
          omega⟩,HBW.out.trans (HW.out.mono (by rw [HWS.out];omega))⟩
         clear hdr;go_wp2_with fail;go_ret;exact⟨_,rfl,HF.out⟩
end Ref
namespace Ref
open Go.RowKit Go.Proofs.YtpggkfdijmnmiaaGreat.Digits
open Go.Lib renaming hid→Φ
theorem set_val:∀(l:List Nat) (j d:Nat) (h:j<l.length),val (l.set j d)+65536 ^ j*l[j]=val l+65536 ^ j*d
 |x::l,0,d,h=>by simp [val];omega
 |x::l,j+1,d,h=>by
  have ih:=set_val l j d (by simpa using h);simp only [List.set_cons_succ,val,List.getElem_cons_succ,Nat.pow_succ];rw [Nat.mul_comm (65536 ^ j) 65536,Nat.mul_assoc,Nat.mul_assoc];omega
theorem step_arith {V V2 P cc z M D C R:Nat}(h1:V2+P*z=V+P*D)(hD:D+65536*C=cc+z+M)(h:V+P*cc=R): V2+P*65536*C=R+P*M:=by
 have e:P*D+P*65536*C=P*cc+P*z+P*M:=by
  rw [Nat.mul_assoc,← Nat.mul_add,hD,Nat.mul_add,Nat.mul_add]
 omega
theorem zero_set {l:List Nat}{i d m:Nat}(h:∀q (hq:q<l.length),m≤q→l[q]=0)(hi:i<m): ∀q (hq:q<(l.set i d).length),m≤q→(l.set i d)[q]=0:=fun q hq hm=>by
 rw [List.getElem_set_ne (by omega)];exact h q (by simpa using hq) hm
theorem dig_set {l:List Nat}(h:Dig l){d:Nat}(hd:d<65536)(i:Nat): Dig (l.set i d):=fun y hy=>by
 rcases List.mem_or_eq_of_mem_set hy with h' | h'
 ·exact h y h'
 ·omega
set_option maxHeartbeats 8000000 in
theorem mul_any (a b:List Nat)(ha:Dig a)(hb:Dig b)(hla:a.length≤50000)(hlb:b.length≤50000)(v u:Value)(w:World)(h:Dr w v a)(k:Dr w u b):
  Calls Tryz.prog 124 #[v,u] w fun e w'=>∃v',e = .returned v'∧Nr w w' v' (val a*val b):=by
 obtain⟨g,cap,rfl,hc,hcm,hg,hca⟩:=h;obtain⟨g2,cap2,rfl,hc2,hcm2,hg2,hcb⟩:=k;have HCA:=Φ hca;have HCB:=Φ hcb;have HA:=Φ ha;have HBD:=Φ hb;have HG:=Φ (And.intro hg hg2);obtain⟨na,hna⟩:∃n,n=a.length:=⟨_,rfl⟩;obtain⟨nb,hnb⟩:∃n,n=b.length:=⟨_,rfl⟩;rw [← hna] at hla ⊢;rw [← hnb] at hlb ⊢;have HN:=Φ (And.intro hna hnb);have hmk:=make_us w (na+nb) (by omega);have e0:(((na+nb:Nat):Nat):Int)=(na:Int)+nb:=by omega
 rw [e0] at hmk;have HB0:=Φ ((Below.refl w.heap.size w).alloc (Nat.le_refl _) (.cells (us (List.replicate (na+nb) 0)) 111));have HH0:Hid ((w.alloc (.cells (us (List.replicate (na+nb) 0)) 111)).heap[w.heap.size]?=some (.cells (us (List.replicate (na+nb) 0)) 111 (0,0))):=Φ (Go.heap_alloc_new w _);clear hca hcb ha hb hg hg2 hc hcm hc2 hcm2 hna hnb e0;go_enter Tryz.func124,Tryz.ntmps124;go_wp2_with fail;clear hmk
 go_loopw [6] (fun i wr=>∃(j:Nat) (out:List Nat),j≤na∧i = .int .i64 (j:Int)∧out.length=na+nb∧Dig out∧val out=val (a.take j)*val b∧(∀q (hq:q<out.length),j+nb≤q→out[q]=0)∧wr.heap[w.heap.size]?=some (.cells (us out) 111 (0,0))∧Below w.heap.size w wr) (fun i _=>na - (intOf i).toNat)
 case atStart=>exact⟨0,List.replicate (na+nb) 0,Nat.zero_le _,rfl,by simp,fun x hx=>by rw [List.mem_replicate] at hx;omega,by
  rw [List.take_zero,val,Nat.zero_mul];generalize na+nb=n
  induction n with
  |zero=>rfl
  |succ n ih=>rw [List.replicate_succ,val,ih],fun q hq _=>by simp,HH0.out,HB0.out⟩
 case round=>
  obtain⟨j,out,hj,rfl,hol,hd,hv,hz,hh,hb⟩:=hrel;have HH:=Φ hh;have HW:=Φ hb;have HD:=Φ hd;have HV:=Φ hv;have HZ:=Φ hz;have HOL:=Φ hol;clear hh hb hd hv hz hol HH0 HB0
  by_cases hlt:j<na
  ·have hja:j<a.length:=by have:=HN.out.1;omega
   have hca:=HCA.out j hja;have hxl:=HA.out _ (List.getElem_mem hja);have HTV:=Φ (take_val hja);generalize a[j]=x at hca hxl HTV;have HCX:=Φ hca;clear hca;go_wp2_with fail
   go_loopw [7,8] (fun c k wr=>∃(kk cc:Nat) (o2:List Nat),kk≤nb∧k = .int .i64 (kk:Int)∧c = .int .u64 (cc:Int)∧cc<65536∧o2.length=na+nb∧Dig o2∧val o2+65536 ^ (j+kk)*cc=val out+65536 ^ j*(x*val (b.take kk))∧(∀q (hq:q<o2.length),j+nb≤q→o2[q]=0)∧wr.heap[w.heap.size]?=some (.cells (us o2) 111 (0,0))∧Below w.heap.size w wr) (fun _ k _=>nb - (intOf k).toNat)
   case atStart=>exact⟨0,0,out,Nat.zero_le _,rfl,rfl,by omega,HOL.out,HD.out,by simp [val],HZ.out,HH.out,HW.out⟩
   case round=>
    clear HH HW HD HZ HOL;obtain⟨kk,cc,o2,hk,rfl,rfl,hcc,hol,hd,hv,hz,hh,hb⟩:=hrel;have HH:=Φ hh;have HW:=Φ hb;have HD:=Φ hd;have HVI:=Φ hv;have HZ:=Φ hz;have HOL:=Φ hol;clear hh hb hd hv hz hol
    by_cases hlk:kk<nb
    ·have hkb:kk<b.length:=by have:=HN.out.2;omega
     have hjo:j+kk<o2.length:=by rw [HOL.out];omega
     have ia:=(HW.out.cell (p:=⟨g,j,none⟩) HG.out.1).trans HCX.out;have ib:=(HW.out.cell (p:=⟨g2,kk,none⟩) HG.out.2).trans (HCB.out kk hkb);have io:wr.cell? ⟨w.heap.size,j+kk,none⟩=some (.int .u32 ((o2[j+kk]:Nat):Int)):=by
      rw [Lib.cell_of_heap HH.out];simp [us,hjo]
     have fo:=Lib.frozen_of_heap HH.out (j+kk);have hyl:=HBD.out _ (List.getElem_mem hkb);have hzl:=HD.out _ (List.getElem_mem hjo);have HTB:=Φ (take_val hkb);have HSV:=Φ (fun d=>set_val o2 (j+kk) d hjo);generalize b[kk]=y at ib hyl HTB;generalize o2[j+kk]=z at io hzl HSV;have ej:((j:Int)+(kk:Int)).toNat=j+kk:=by omega
     obtain⟨M,hM⟩:∃M,M=x*y:=⟨_,rfl⟩;have hMl:M≤65535*65535:=by rw [hM];exact Nat.mul_le_mul (by omega) (by omega)
     have hMi:(x:Int)*(y:Int)=(M:Int):=by rw [hM];exact(Int.natCast_mul x y).symm
     obtain⟨N,hN⟩:∃N,N=z+M:=⟨_,rfl⟩;obtain⟨S,hS⟩:∃S,S=cc+N:=⟨_,rfl⟩;obtain⟨D,hD⟩:∃D,D=S % 65536:=⟨_,rfl⟩;obtain⟨C,hC⟩:∃C,C=S / 65536:=⟨_,rfl⟩;have w1:IntKind.u64.wrap ((x:Int)*(y:Int))=(M:Int):=by rw [hMi,IntKind.wrap_u64];omega
     have w2:IntKind.u64.wrap ((z:Int)+(M:Int))=(N:Int):=by rw [IntKind.wrap_u64];omega
     have w3:IntKind.u64.wrap ((cc:Int)+(N:Int))=(S:Int):=by rw [IntKind.wrap_u64];omega
     have b1:bits .and .u64 (S:Int) 65535=(D:Int):=by rw [hD];exact and64 S (by omega)
     have b2:(D:Int) % 4294967296=(D:Int):=by omega
     have b3:(S:Int) / 65536=(C:Int):=by omega
     have hDl:D<65536:=by omega
     have hCl:C<65536:=by omega
     have hDC:D+65536*C=cc+z+M:=by omega
     have HST:Hid (val (o2.set (j+kk) D)+65536 ^ (j+(kk+1))*C=val out+65536 ^ j*(x*val (b.take (kk+1)))):=Φ (by
      have:=step_arith (HSV.out D) hDC HVI.out
      rw [show j+(kk+1)=(j+kk)+1 by omega,Nat.pow_succ (n:=65536) (m:=j+kk),this,HTB.out,hM,Nat.mul_add,Nat.mul_add,Nat.pow_add,Nat.mul_left_comm x,Nat.mul_assoc,Nat.add_assoc])
     have HU:Hid ((us o2).setIfInBounds (j+kk) (.int .u32 ((D:Nat):Int))=us (o2.set (j+kk) D)):=Φ (us_set _ _ _);have HD2:=Φ (dig_set HD.out hDl (j+kk));have HZ2:=Φ (zero_set (d:=D) HZ.out (show j+kk<j+nb by omega));clear hM hMl hMi hN hS hD hC hDC HTB HSV HVI;go_wp2_with fail
     go_quiet (fail);rename_i nq;have io':(wr.drewN nq).cell? ⟨w.heap.size,j+kk,none⟩=some (.int .u32 ((z:Nat):Int)):=io;have fo':(wr.drewN nq).frozen? ⟨w.heap.size,j+kk,none⟩=false:=fo;have HHq:Hid ((wr.drewN nq).heap[w.heap.size]?=some (.cells (us o2) 111 (0,0))):=Φ HH.out;have HWq:Hid (Below w.heap.size w (wr.drewN nq)):=Φ ((Sm.drewN wr nq).below HW.out);clear io fo ia ib HH HW;generalize wr.drewN nq=V at io' fo' HHq HWq ⊢;go_wp2_with fail
     go_roundw
     case rel=>exact⟨kk+1,C,o2.set (j+kk) D,by omega,by go_num,rfl,hCl,by rw [List.length_set];exact HOL.out,HD2.out,HST.out,HZ2.out,(blk_put HHq.out (j+kk) _).trans (by rw [HU.out]),HWq.out.setCell (p:=⟨w.heap.size,j+kk,none⟩) (Nat.le_refl _) _⟩
     case measure=>simp [intOf];omega
    ·obtain rfl:kk=nb:=by omega
     have hjo:j+kk<o2.length:=by rw [HOL.out];omega
     have io:wr.cell? ⟨w.heap.size,j+kk,none⟩=some (.int .u32 ((o2[j+kk]:Nat):Int)):=by
      rw [Lib.cell_of_heap HH.out];simp [us,hjo]
     have fo:=Lib.frozen_of_heap HH.out (j+kk);have HSV:=Φ (set_val o2 (j+kk) cc hjo);have hz0:=HZ.out (j+kk) hjo (Nat.le_refl _);have HVB:Hid (val (o2.set (j+kk) cc)=val (a.take (j+1))*val b):=Φ (by
      have h1:=HSV.out;rw [hz0,Nat.mul_zero,Nat.add_zero] at h1;have h2:=HVI.out;rw [List.take_of_length_le (by have:=HN.out.2;omega)] at h2;rw [h1,h2,HTV.out,HV.out,Nat.add_mul,Nat.mul_assoc])
     generalize o2[j+kk]=z at io;have ej:((j:Int)+(kk:Int)).toNat=j+kk:=by omega
     have b2:(cc:Int) % 4294967296=(cc:Int):=by omega
     have HU:Hid ((us o2).setIfInBounds (j+kk) (.int .u32 ((cc:Nat):Int))=us (o2.set (j+kk) cc)):=Φ (us_set _ _ _);have HD2:=Φ (dig_set HD.out hcc (j+kk));have HZ2:=Φ (zero_set (d:=cc) (m:=j+1+kk) (fun q hq hm=>HZ.out q hq (by omega)) (show j+kk<j+1+kk by omega));clear hz0 HSV HVI;go_wp2_with fail
     go_roundw
     case rel=>exact⟨j+1,o2.set (j+kk) cc,by omega,by go_num,by rw [List.length_set];exact HOL.out,HD2.out,HVB.out,HZ2.out,(blk_put HH.out (j+kk) _).trans (by rw [HU.out]),HW.out.setCell (p:=⟨w.heap.size,j+kk,none⟩) (Nat.le_refl _) _⟩
     case measure=>simp [intOf];omega
  ·obtain rfl:j=na:=by omega
   have HVV:Hid (val out=val a*val b):=Φ (by
    have:=HV.out
    rwa [List.take_of_length_le (by have:=HN.out.1;omega)] at this)
   have HDR:=Φ (us_dr HH.out (by rw [HOL.out];omega));rw [HOL.out] at HDR;go_wp2_with fail;refine(trim_any out _ _ HDR.out).mono ?_;rintro e w2 ⟨⟨v2,rfl,hdr⟩,rfl⟩;have HF:Hid (Nr w wr v2 (val a*val b)):=Φ ⟨⟨_,hdr,trim_dig HD.out,trim_trim _,by rw [trim_val,HVV.out]⟩,HW.out⟩;clear hdr;go_wp2_with fail;go_ret;exact⟨_,rfl,HF.out⟩
def mval (w:World)(g:Nat): Nat:=match w.heap[g]? with
 |some (.cells cs _ _)=>val (cs.toList.map fun v=>(intOf v).toNat)
 |_=>0
theorem us_back (l:List Nat): (us l).toList.map (fun v=>(intOf v).toNat)=l:=by
 simp only [us,List.map_map]
 induction l with
 |nil=>rfl
 |cons x l ih=>rw [List.map_cons,ih];rfl
theorem mval_us {w:World}{g:Nat}{l:List Nat}{z:Nat×Nat}(h:w.heap[g]?=some (.cells (us l) 111 z)): mval w g=val l:=by
 unfold mval;rw [h];simp only [];rw [us_back]
theorem left_arith {A B L P bb D z C y tm:Nat}(h:A+tm*B=L+P*bb)(hD:D+(bb+tm*y)=z+65536*C): A+P*D+tm*(B+P*y)=L+P*z+P*65536*C:=by
 have e:P*D+(P*bb+P*(tm*y))=P*z+P*65536*C:=by
  rw [← Nat.mul_add,← Nat.mul_add,hD,Nat.mul_add,Nat.mul_assoc]
 rw [Nat.mul_add,Nat.mul_left_comm tm P y];omega
theorem left_end {V V2 T P bb:Nat}(h:V2+T=V+P*bb)(h2:V2<P)(hT:T≤V): V2=V - T:=by
 rcases Nat.eq_zero_or_pos bb with h0 | h0
 ·subst h0;omega
 ·have:P*1≤P*bb:=Nat.mul_le_mul_left _ h0
  omega
theorem sub_mod_mul {V M tm:Nat}(h:tm*M≤V): (V - tm*M) % M=V % M:=by
 obtain⟨d,hd⟩:=Nat.le.dest h;rw [← hd,Nat.add_sub_cancel_left,Nat.add_comm,Nat.add_mul_mod_self_right]
theorem take_set_val {l:List Nat}{k d:Nat}(h:k<l.length): val ((l.set k d).take (k+1))=val (l.take k)+65536 ^ k*d:=by
 rw [take_val (by rw [List.length_set];exact h),List.getElem_set_self,List.take_set_of_le (Nat.le_refl _)]
theorem top_val' {l:List Nat}{n:Nat}(h:l.length=n+1): val l=val (l.take n)+65536 ^ n*l[n]:=by
 have:=take_val (a:=l) (i:=n) (by omega)
 rwa [List.take_of_length_le (by omega)] at this
theorem shift_is {l l2:List Nat}{n x:Nat}(hl:l.length=n+1)(hl2:l2.length=n+1)(h:∀p (hp:p<l2.length) (hp':p - 1<l.length),0<p→l2[p]=l[p - 1]): l2.set 0 x=x::l.take n:=by
 apply List.ext_getElem
 ·simp [hl,hl2]
 ·intro i h1 h2;cases i with
  |zero=>simp
  |succ i=>
   rw [List.getElem_set_ne (by omega),List.getElem_cons_succ,List.getElem_take]
   have:=h (i+1) (by simpa using h1) (by simp [hl2] at h1;omega) (by omega)
   simpa using this
set_option maxHeartbeats 16000000 in
theorem left_any (a m:List Nat)(ha:Dig a)(hm:Dig m)(hla:a.length≤1000000000000)(hlm:m.length≤50000)(hm0:0<val m)(v u:Value)(w:World)(h:Dr w v a)(k:Dr w u m):
  Calls Tryz.prog 70 #[v,u] w fun e w'=>∃v',e = .returned v'∧Nr w w' v' (val a % val m):=by
 have HDM:=Φ k;obtain⟨g,cap,rfl,hc,hcm,hg,hca⟩:=h;obtain⟨g2,cap2,rfl,hc2,hcm2,hg2,hcb⟩:=k;have HCA:=Φ hca;have HCB:=Φ hcb;have HA:=Φ ha;have HMD:=Φ hm;have HG:=Φ (And.intro hg hg2);have HM0:=Φ hm0;obtain⟨na,hna⟩:∃n,n=a.length:=⟨_,rfl⟩;obtain⟨n,hn⟩:∃n,n=m.length:=⟨_,rfl⟩;rw [← hna] at hla ⊢;rw [← hn] at hlm ⊢;rw [← hn] at HDM;have HN:=Φ (And.intro hna hn);have HMT:Hid (val m<65536 ^ n):=Φ (by rw [hn];exact val_lt m hm);have hmk:=make_us w (n+1) (by omega);have e0:(((n+1:Nat):Nat):Int)=(n:Int)+1:=by omega
 rw [e0] at hmk;have HB0:=Φ ((Below.refl w.heap.size w).alloc (Nat.le_refl _) (.cells (us (List.replicate (n+1) 0)) 111));have HH0:Hid ((w.alloc (.cells (us (List.replicate (n+1) 0)) 111)).heap[w.heap.size]?=some (.cells (us (List.replicate (n+1) 0)) 111 (0,0))):=Φ (Go.heap_alloc_new w _);clear hca hcb ha hm hg hg2 hc hcm hc2 hcm2 hna hn e0 hm0;go_enter Tryz.func70,Tryz.ntmps70;go_wp2_with fail;clear hmk
 go_loopw [7] (fun i wr=>∃(j:Nat) (l:List Nat),j≤na∧i = .int .i64 ((j:Int) - 1)∧l.length=n+1∧Dig l∧val l=val (a.drop j) % val m∧wr.heap[w.heap.size]?=some (.cells (us l) 111 (0,0))∧Below w.heap.size w wr) (fun i _=>(intOf i+1).toNat)
 case atStart=>exact⟨na,List.replicate (n+1) 0,Nat.le_refl _,rfl,by simp,fun x hx=>by rw [List.mem_replicate] at hx;omega,by
  rw [List.drop_of_length_le (by have:=HN.out.1;omega),val,Nat.zero_mod];generalize n+1=q
  induction q with
  |zero=>rfl
  |succ q ih=>rw [List.replicate_succ,val,ih],HH0.out,HB0.out⟩
 case round=>
  obtain⟨j,l,hj,rfl,hol,hd,hv,hh,hb⟩:=hrel;have HH:=Φ hh;have HW:=Φ hb;have HD:=Φ hd;have HV:=Φ hv;have HOL:=Φ hol;clear hh hb hd hv hol HH0 HB0
  by_cases h0:j=0
  ·subst h0;have HVV:Hid (val l=val a % val m):=Φ (by have:=HV.out;rwa [List.drop_zero] at this);have HDR:=Φ (us_dr HH.out (by rw [HOL.out];omega));rw [HOL.out] at HDR;go_wp2_with fail;refine(trim_any l _ _ HDR.out).mono ?_;rintro e w2 ⟨⟨v2,rfl,hdr⟩,rfl⟩;have HF:Hid (Nr w wr v2 (val a % val m)):=Φ ⟨⟨_,hdr,trim_dig HD.out,trim_trim _,by rw [trim_val,HVV.out]⟩,HW.out⟩;clear hdr;go_wp2_with fail;go_ret;exact⟨_,rfl,HF.out⟩
  ·obtain⟨k,rfl⟩:∃k,j=k+1:=⟨j - 1,by omega⟩;have hka:k<a.length:=by have:=HN.out.1;omega
   have hca:=HCA.out k hka;have hxl:=HA.out _ (List.getElem_mem hka);have HDV:=Φ (drop_val hka);generalize a[k]=x at hca hxl HDV;have HCX:=Φ hca;clear hca;have e1:((k+1:Nat):Int) - 1=(k:Int):=by omega
   rw [e1];have HLT:Hid (val (l.take n)=val l∧val l<val m):=Φ (by
    have h1:val l<val m:=by rw [HV.out];exact Nat.mod_lt _ HM0.out
    refine⟨?_,h1⟩;have h2:=top_val' HOL.out;rcases Nat.eq_zero_or_pos (l[n]'(by rw [HOL.out];omega)) with h3 | h3
    ·rw [h3] at h2;omega
    ·have h4:65536 ^ n*1≤65536 ^ n*(l[n]'(by rw [HOL.out];omega)):=Nat.mul_le_mul_left _ h3;have h5:=HMT.out
     omega)
   go_wp2_with fail
   go_loopw [8] (fun c wr=>∃(q:Nat) (l2:List Nat),q≤n∧c = .int .i64 (q:Int)∧l2.length=n+1∧(∀p (hp:p<l2.length) (hp':p<l.length),p≤q→l2[p]=l[p])∧(∀p (hp:p<l2.length) (hp':p - 1<l.length),q<p→l2[p]=l[p - 1])∧wr.heap[w.heap.size]?=some (.cells (us l2) 111 (0,0))∧Below w.heap.size w wr) (fun c _=>(intOf c).toNat)
   case atStart=>exact⟨n,l,Nat.le_refl _,rfl,HOL.out,fun _ _ _ _=>rfl,fun p hp _ h=>by rw [HOL.out] at hp;omega,HH.out,HW.out⟩
   case round=>
    clear HH HW;obtain⟨q,l2,hq,rfl,hol2,hlo,hhi,hh,hb⟩:=hrel;have HH:=Φ hh;have HW:=Φ hb;have HLO:=Φ hlo;have HHI:=Φ hhi;have HOL2:=Φ hol2;clear hh hb hlo hhi hol2
    by_cases hq0:q=0
    ·subst hq0;have HS:=Φ (shift_is (x:=x) HOL.out HOL2.out (fun p hp hp' h=>HHI.out p hp hp' h));have ia:=(HW.out.cell (p:=⟨g,k,none⟩) HG.out.1).trans HCX.out;have hl0:0<l2.length:=by rw [HOL2.out];omega
     have io:wr.cell? ⟨w.heap.size,0,none⟩=some (.int .u32 ((l2[0]:Nat):Int)):=by
      rw [Lib.cell_of_heap HH.out];simp [us,hl0]
     have fo:=Lib.frozen_of_heap HH.out 0;generalize l2[0]=old at io;have HU:Hid ((us l2).setIfInBounds 0 (.int .u32 ((x:Nat):Int))=us (x::l.take n)):=Φ (by rw [us_set,HS.out]);have HH3:Hid ((wr.setCell ⟨w.heap.size,0,none⟩ (.int .u32 ((x:Nat):Int))).heap[w.heap.size]?=some (.cells (us (x::l.take n)) 111 (0,0))):=Φ ((blk_put HH.out 0 _).trans (by rw [HU.out]));have HW3:Hid (Below w.heap.size w (wr.setCell ⟨w.heap.size,0,none⟩ (.int .u32 ((x:Nat):Int)))):=Φ (HW.out.setCell (p:=⟨w.heap.size,0,none⟩) (Nat.le_refl _) _);obtain⟨R,hR⟩:∃R,R=(x+65536*val l) % val m:=⟨_,rfl⟩;have HR0:Hid (val (x::l.take n) % val m=R):=Φ (by rw [val,HLT.out.1,hR]);have HRF:Hid (R=val (a.drop k) % val m):=Φ (by rw [hR,HDV.out,HV.out,Nat.add_mod,Nat.mul_mod,Nat.mod_mod,← Nat.mul_mod,← Nat.add_mod]);have HD3:Hid (Dig (x::l.take n)):=Φ (fun y hy=>by
      rcases List.mem_cons.1 hy with h | h
      ·omega
      ·exact HD.out y (List.mem_of_mem_take h))
     have HL3:Hid ((x::l.take n).length=n+1):=Φ (by rw [List.length_cons,List.length_take,HOL.out];omega);clear hR HS HLT HDV HD HV HLO HHI;go_wp2_with fail;clear ia io fo HH HW HU;generalize (wr.setCell ⟨w.heap.size,0,none⟩ (.int .u32 ((x:Nat):Int)))=V at HH3 HW3 ⊢;generalize x::l.take n=l3 at HH3 HR0 HD3 HL3
     go_loopw [9] (fun _ wr=>∃(l:List Nat),l.length=n+1∧Dig l∧val l % val m=R∧wr.heap[w.heap.size]?=some (.cells (us l) 111 (0,0))∧Below w.heap.size w wr) (fun _ wr=>mval wr w.heap.size)
     case atStart=>exact⟨l3,HL3.out,HD3.out,HR0.out,HH3.out,HW3.out⟩
     case round=>
      clear HH3 HW3 HL3 HD3 HR0 HOL HOL2;obtain⟨l,hol,hd,hv,hh,hb⟩:=hrel;have HH:=Φ hh;have HW:=Φ hb;have HD:=Φ hd;have HV:=Φ hv;have HOL:=Φ hol;clear hh hb hd hv hol;have hnl:n<l.length:=by rw [HOL.out];omega
      have hcn:wr.cell? ⟨w.heap.size,n,none⟩=some (.int .u32 ((l[n]:Nat):Int)):=by
       rw [Lib.cell_of_heap HH.out];simp [us,hnl]
      have htn:=HD.out _ (List.getElem_mem hnl);have HTV:=Φ (top_val' HOL.out);have HLN:Hid (val (l.take n)<65536 ^ n):=Φ (by
       have:=val_lt (l.take n) (dig_take HD.out n)
       rwa [List.length_take,Nat.min_eq_left (by omega)] at this)
      generalize htq:l[n]=tn at hcn htn HTV;clear htq;have HDL:Hid (Dr wr (.slice (some ⟨w.heap.size,0,none⟩) n (n+1)) (l.take n)):=Φ ⟨w.heap.size,n+1,by rw [List.length_take,Nat.min_eq_left (by omega)],by rw [List.length_take];omega,by omega,(Array.getElem?_eq_some_iff.1 HH.out).1,fun i hi=>by
       rw [Lib.cell_of_heap HH.out];have hi':i<l.length:=by rw [List.length_take] at hi;omega
       simp [us,hi']⟩
      have HC:=Φ (cmp_any (l.take n) m (dig_take HD.out n) HMD.out _ _ wr HDL.out (HDM.out.below (HW.out.mono (Nat.le_refl _))))
      by_cases hge:val m≤val l
      ·have HMV:Hid (mval wr w.heap.size=val l):=Φ (mval_us HH.out)
       by_cases htn0:tn=0
       ·subst htn0;have hcm:0≤cmpN (val (l.take n)) (val m):=by
         have h6:=HTV.out;rw [Nat.mul_zero,Nat.add_zero] at h6;rw [← h6];unfold cmpN;rw [if_neg (by omega)]
         split<;>omega
        generalize cmpN (val (l.take n)) (val m)=cm at hcm HC;have HTM:Hid (1*val m≤val l):=Φ (by omega);clear hge htn HTV HLN;go_wp2_with fail;refine(HC.out).mono ?_;rintro e w5 ⟨rfl,hsm⟩;have HHC:Hid (w5.heap[w.heap.size]?=some (.cells (us l) 111 (0,0))):=Φ (by rw [hsm.2.2.2];exact HH.out);have HWC:=Φ (hsm.below HW.out);have hcn5:w5.cell? ⟨w.heap.size,n,none⟩=some (.int .u32 ((0:Nat):Int)):=hsm.cell hcn;clear hsm HC HDL hcn HH HW;go_wp2_with fail;clear hcn5 hcm
        go_loopw [10,11] (fun bo k wr=>∃(kk bb:Nat) (l2:List Nat),kk≤n+1∧k = .int .i64 (kk:Int)∧bo = .int .u64 (bb:Int)∧bb<65536∧l2.length=n+1∧Dig l2∧(∀p (hp:p<l2.length) (hp':p<l.length),kk≤p→l2[p]=l[p])∧val (l2.take kk)+1*val (m.take kk)=val (l.take kk)+65536 ^ kk*bb∧wr.heap[w.heap.size]?=some (.cells (us l2) 111 (0,0))∧Below w.heap.size w wr) (fun _ k _=>n+1 - (intOf k).toNat)
        case atStart=>exact⟨0,0,l,by omega,rfl,rfl,by omega,HOL.out,HD.out,fun _ _ _ _=>rfl,by simp [val],HHC.out,HWC.out⟩
        case round=>
         clear HHC HWC;obtain⟨kk,bb,l2,hkk,rfl,rfl,hbb,hol2,hd2,hup,hvv,hh,hb⟩:=hrel;have HH:=Φ hh;have HW:=Φ hb;have HD2:=Φ hd2;have HUP:=Φ hup;have HVV:=Φ hvv;have HOL2:=Φ hol2;clear hh hb hd2 hup hvv hol2
         by_cases hkn:kk<n+1
         ·have hk2:kk<l2.length:=by rw [HOL2.out];omega
          have hkl:kk<l.length:=by rw [HOL.out];omega
          have hll:l2[kk]=l[kk]:=HUP.out kk hk2 hkl (Nat.le_refl _);have io:wr.cell? ⟨w.heap.size,kk,none⟩=some (.int .u32 ((l[kk]:Nat):Int)):=by
           rw [Lib.cell_of_heap HH.out,← hll];simp [us,hk2]
          have fo:=Lib.frozen_of_heap HH.out kk;have hzl:=HD.out _ (List.getElem_mem hkl);have HTL:=Φ (take_val hkl);clear hll;generalize l[kk]=z at io hzl HTL;have HSV:=Φ (fun d=>take_set_val (d:=d) hk2);have HUP2:Hid (∀d,∀p (hp:p<(l2.set kk d).length) (hp':p<l.length),kk+1≤p→(l2.set kk d)[p]=l[p]):=Φ (fun d p hp hp' h=>by
           rw [List.getElem_set_ne (by omega)];exact HUP.out p (by simpa using hp) hp' (by omega))
          by_cases hkm:kk<n
          ·have hkb:kk<m.length:=by have:=HN.out.2;omega
           have ib:=(HW.out.cell (p:=⟨g2,kk,none⟩) HG.out.2).trans (HCB.out kk hkb);have hyl:=HMD.out _ (List.getElem_mem hkb);have HTB:=Φ (take_val hkb);generalize m[kk]=y at ib hyl HTB;obtain⟨M,hM⟩:∃M,M=1*y:=⟨_,rfl⟩;have hMl:M≤65535*65535:=by rw [hM];exact Nat.mul_le_mul (by omega) (by omega)
           have hMi:1*(y:Int)=(M:Int):=by rw [hM];omega
           obtain⟨T,hT⟩:∃T,T=bb+M:=⟨_,rfl⟩;obtain⟨Z,hZ⟩:∃Z,Z=z+1099511627776:=⟨_,rfl⟩;obtain⟨X,hX⟩:∃X,X=Z - T:=⟨_,rfl⟩;obtain⟨D,hDD⟩:∃D,D=X % 65536:=⟨_,rfl⟩;obtain⟨Q,hQ⟩:∃Q,Q=X / 65536:=⟨_,rfl⟩;obtain⟨C,hC⟩:∃C,C=16777216 - Q:=⟨_,rfl⟩;have w1:IntKind.u64.wrap (1*(y:Int))=(M:Int):=by rw [hMi,IntKind.wrap_u64];omega
           have w1':IntKind.u64.wrap (y:Int)=(y:Int):=by rw [IntKind.wrap_u64];omega
           have w2:IntKind.u64.wrap ((bb:Int)+(y:Int))=(T:Int):=by rw [IntKind.wrap_u64];omega
           have w3:IntKind.u64.wrap ((z:Int)+1099511627776)=(Z:Int):=by rw [IntKind.wrap_u64];omega
           have w4:IntKind.u64.wrap ((Z:Int) - (T:Int))=(X:Int):=by rw [IntKind.wrap_u64];omega
           have w5:IntKind.u64.wrap (16777216 - (Q:Int))=(C:Int):=by rw [IntKind.wrap_u64];omega
           have b1:bits .and .u64 (X:Int) 65535=(D:Int):=by rw [hDD];exact and64 X (by omega)
           have b2:(D:Int) % 4294967296=(D:Int):=by omega
           have b3:(X:Int) / 65536=(Q:Int):=by omega
           have hDl:D<65536:=by omega
           have hCl:C<65536:=by omega
           have hDC:D+(bb+M)=z+65536*C:=by omega
           have HST:Hid (val ((l2.set kk D).take (kk+1))+1*val (m.take (kk+1))=val (l.take (kk+1))+65536 ^ (kk+1)*C):=Φ (by
            rw [hM] at hDC;rw [HSV.out,HTB.out,HTL.out,Nat.pow_succ];exact left_arith HVV.out hDC)
           have HU:Hid ((us l2).setIfInBounds kk (.int .u32 ((D:Nat):Int))=us (l2.set kk D)):=Φ (us_set _ _ _);have HD3:=Φ (dig_set HD2.out hDl kk);clear hM hMl hMi hT hZ hX hDD hQ hC hDC HTB HTL HSV HVV HUP;go_wp2_with fail
           go_roundw
           case rel=>exact⟨kk+1,C,l2.set kk D,by omega,by go_num,rfl,hCl,by rw [List.length_set];exact HOL2.out,HD3.out,HUP2.out D,HST.out,(blk_put HH.out kk _).trans (by rw [HU.out]),HW.out.setCell (p:=⟨w.heap.size,kk,none⟩) (Nat.le_refl _) _⟩
           case measure=>simp [intOf]<;>omega
          ·obtain rfl:kk=n:=by omega
           obtain⟨Z,hZ⟩:∃Z,Z=z+1099511627776:=⟨_,rfl⟩;obtain⟨X,hX⟩:∃X,X=Z - bb:=⟨_,rfl⟩;obtain⟨D,hDD⟩:∃D,D=X % 65536:=⟨_,rfl⟩;obtain⟨Q,hQ⟩:∃Q,Q=X / 65536:=⟨_,rfl⟩;obtain⟨C,hC⟩:∃C,C=16777216 - Q:=⟨_,rfl⟩;have w3:IntKind.u64.wrap ((z:Int)+1099511627776)=(Z:Int):=by rw [IntKind.wrap_u64];omega
           have w4:IntKind.u64.wrap ((Z:Int) - (bb:Int))=(X:Int):=by rw [IntKind.wrap_u64];omega
           have w5:IntKind.u64.wrap (16777216 - (Q:Int))=(C:Int):=by rw [IntKind.wrap_u64];omega
           have b1:bits .and .u64 (X:Int) 65535=(D:Int):=by rw [hDD];exact and64 X (by omega)
           have b2:(D:Int) % 4294967296=(D:Int):=by omega
           have b3:(X:Int) / 65536=(Q:Int):=by omega
           have hDl:D<65536:=by omega
           have hCl:C<65536:=by omega
           have hDC:D+(bb+1*0)=z+65536*C:=by omega
           have HST:Hid (val ((l2.set kk D).take (kk+1))+1*val (m.take (kk+1))=val (l.take (kk+1))+65536 ^ (kk+1)*C):=Φ (by
            rw [HSV.out,HTL.out,Nat.pow_succ,List.take_of_length_le (l:=m) (by have:=HN.out.2;omega)];have h1:=HVV.out;rw [List.take_of_length_le (l:=m) (by have:=HN.out.2;omega)] at h1
            have:=left_arith h1 hDC
            rwa [Nat.mul_zero,Nat.add_zero] at this)
           have HU:Hid ((us l2).setIfInBounds kk (.int .u32 ((D:Nat):Int))=us (l2.set kk D)):=Φ (us_set _ _ _);have HD3:=Φ (dig_set HD2.out hDl kk);clear hZ hX hDD hQ hC hDC HTL HSV HVV HUP;go_wp2_with fail
           go_roundw
           case rel=>exact⟨kk+1,C,l2.set kk D,by omega,by go_num,rfl,hCl,by rw [List.length_set];exact HOL2.out,HD3.out,HUP2.out D,HST.out,(blk_put HH.out kk _).trans (by rw [HU.out]),HW.out.setCell (p:=⟨w.heap.size,kk,none⟩) (Nat.le_refl _) _⟩
           case measure=>simp [intOf]<;>omega
         ·obtain rfl:kk=n+1:=by omega
          have HE:Hid (val l2=val l - 1*val m):=Φ (by
           have h1:=HVV.out;rw [List.take_of_length_le (l:=l2) (by rw [HOL2.out];omega),List.take_of_length_le (l:=l) (by rw [HOL.out];omega),List.take_of_length_le (l:=m) (by have:=HN.out.2;omega)] at h1;have h2:=val_lt l2 HD2.out;rw [HOL2.out] at h2;exact left_end h1 h2 HTM.out)
          have HV2:Hid (val l2 % val m=R):=Φ (by rw [HE.out,sub_mod_mul HTM.out,HV.out]);have HLS:Hid (mval wr w.heap.size<val l):=Φ (by
           rw [mval_us HH.out,HE.out];have h1:=HM0.out;have h2:=HTM.out;have h3:0<1*val m:=Nat.mul_pos (by omega) h1
           omega)
          clear HVV HUP HE;go_wp2_with fail
          go_roundw
          case rel=>exact⟨_,_,_,_,_,_,_,_,_,_,_,_,_,_,_,_,_,_,_,_,_,_,_,_,_,_,_,_,_,_,_,_,_,_,_,_,_,_,_,_,_,_,_,_,_,_,_,_,_,_,_,_,_,_,_,_,_,_,_,_,⟨l2,HOL2.out,HD2.out,HV2.out,HH.out,HW.out⟩,rfl⟩
          case measure=>rw [HMV.out];exact HLS.out
       ·have HTM:Hid (tn*val m≤val l):=Φ (by
         have h5:=HMT.out;have h6:=HTV.out;have h7:tn*val m≤tn*65536 ^ n:=Nat.mul_le_mul_left _ (by omega);rw [Nat.mul_comm tn (65536 ^ n)] at h7
         omega)
        have htp:(0:Int)<(tn:Int):=by omega
        have htz:(((tn:Nat):Int) == 0)=false:=by simp;omega
        have HHC:=HH;have HWC:=HW;clear hge HTV HLN HC HDL HH HW;go_wp2_with fail;clear hcn
        go_loopw [10,11] (fun bo k wr=>∃(kk bb:Nat) (l2:List Nat),kk≤n+1∧k = .int .i64 (kk:Int)∧bo = .int .u64 (bb:Int)∧bb<65536∧l2.length=n+1∧Dig l2∧(∀p (hp:p<l2.length) (hp':p<l.length),kk≤p→l2[p]=l[p])∧val (l2.take kk)+tn*val (m.take kk)=val (l.take kk)+65536 ^ kk*bb∧wr.heap[w.heap.size]?=some (.cells (us l2) 111 (0,0))∧Below w.heap.size w wr) (fun _ k _=>n+1 - (intOf k).toNat)
        case atStart=>exact⟨0,0,l,by omega,rfl,rfl,by omega,HOL.out,HD.out,fun _ _ _ _=>rfl,by simp [val],HHC.out,HWC.out⟩
        case round=>
         clear HHC HWC;obtain⟨kk,bb,l2,hkk,rfl,rfl,hbb,hol2,hd2,hup,hvv,hh,hb⟩:=hrel;have HH:=Φ hh;have HW:=Φ hb;have HD2:=Φ hd2;have HUP:=Φ hup;have HVV:=Φ hvv;have HOL2:=Φ hol2;clear hh hb hd2 hup hvv hol2
         by_cases hkn:kk<n+1
         ·have hk2:kk<l2.length:=by rw [HOL2.out];omega
          have hkl:kk<l.length:=by rw [HOL.out];omega
          have hll:l2[kk]=l[kk]:=HUP.out kk hk2 hkl (Nat.le_refl _);have io:wr.cell? ⟨w.heap.size,kk,none⟩=some (.int .u32 ((l[kk]:Nat):Int)):=by
           rw [Lib.cell_of_heap HH.out,← hll];simp [us,hk2]
          have fo:=Lib.frozen_of_heap HH.out kk;have hzl:=HD.out _ (List.getElem_mem hkl);have HTL:=Φ (take_val hkl);clear hll;generalize l[kk]=z at io hzl HTL;have HSV:=Φ (fun d=>take_set_val (d:=d) hk2);have HUP2:Hid (∀d,∀p (hp:p<(l2.set kk d).length) (hp':p<l.length),kk+1≤p→(l2.set kk d)[p]=l[p]):=Φ (fun d p hp hp' h=>by
           rw [List.getElem_set_ne (by omega)];exact HUP.out p (by simpa using hp) hp' (by omega))
          by_cases hkm:kk<n
          ·have hkb:kk<m.length:=by have:=HN.out.2;omega
           have ib:=(HW.out.cell (p:=⟨g2,kk,none⟩) HG.out.2).trans (HCB.out kk hkb);have hyl:=HMD.out _ (List.getElem_mem hkb);have HTB:=Φ (take_val hkb);generalize m[kk]=y at ib hyl HTB;obtain⟨M,hM⟩:∃M,M=tn*y:=⟨_,rfl⟩;have hMl:M≤65535*65535:=by rw [hM];exact Nat.mul_le_mul (by omega) (by omega)
           have hMi:(tn:Int)*(y:Int)=(M:Int):=by rw [hM];exact(Int.natCast_mul tn y).symm
           obtain⟨T,hT⟩:∃T,T=bb+M:=⟨_,rfl⟩;obtain⟨Z,hZ⟩:∃Z,Z=z+1099511627776:=⟨_,rfl⟩;obtain⟨X,hX⟩:∃X,X=Z - T:=⟨_,rfl⟩;obtain⟨D,hDD⟩:∃D,D=X % 65536:=⟨_,rfl⟩;obtain⟨Q,hQ⟩:∃Q,Q=X / 65536:=⟨_,rfl⟩;obtain⟨C,hC⟩:∃C,C=16777216 - Q:=⟨_,rfl⟩;have w1:IntKind.u64.wrap ((tn:Int)*(y:Int))=(M:Int):=by rw [hMi,IntKind.wrap_u64];omega
           have w1':IntKind.u64.wrap (y:Int)=(y:Int):=by rw [IntKind.wrap_u64];omega
           have w2:IntKind.u64.wrap ((bb:Int)+(M:Int))=(T:Int):=by rw [IntKind.wrap_u64];omega
           have w3:IntKind.u64.wrap ((z:Int)+1099511627776)=(Z:Int):=by rw [IntKind.wrap_u64];omega
           have w4:IntKind.u64.wrap ((Z:Int) - (T:Int))=(X:Int):=by rw [IntKind.wrap_u64];omega
           have w5:IntKind.u64.wrap (16777216 - (Q:Int))=(C:Int):=by rw [IntKind.wrap_u64];omega
           have b1:bits .and .u64 (X:Int) 65535=(D:Int):=by rw [hDD];exact and64 X (by omega)
           have b2:(D:Int) % 4294967296=(D:Int):=by omega
           have b3:(X:Int) / 65536=(Q:Int):=by omega
           have hDl:D<65536:=by omega
           have hCl:C<65536:=by omega
           have hDC:D+(bb+M)=z+65536*C:=by omega
           have HST:Hid (val ((l2.set kk D).take (kk+1))+tn*val (m.take (kk+1))=val (l.take (kk+1))+65536 ^ (kk+1)*C):=Φ (by
            rw [hM] at hDC;rw [HSV.out,HTB.out,HTL.out,Nat.pow_succ];exact left_arith HVV.out hDC)
           have HU:Hid ((us l2).setIfInBounds kk (.int .u32 ((D:Nat):Int))=us (l2.set kk D)):=Φ (us_set _ _ _);have HD3:=Φ (dig_set HD2.out hDl kk);clear hM hMl hMi hT hZ hX hDD hQ hC hDC HTB HTL HSV HVV HUP;go_wp2_with fail
           go_roundw
           case rel=>exact⟨kk+1,C,l2.set kk D,by omega,by go_num,rfl,hCl,by rw [List.length_set];exact HOL2.out,HD3.out,HUP2.out D,HST.out,(blk_put HH.out kk _).trans (by rw [HU.out]),HW.out.setCell (p:=⟨w.heap.size,kk,none⟩) (Nat.le_refl _) _⟩
           case measure=>simp [intOf]<;>omega
          ·obtain rfl:kk=n:=by omega
           obtain⟨Z,hZ⟩:∃Z,Z=z+1099511627776:=⟨_,rfl⟩;obtain⟨X,hX⟩:∃X,X=Z - bb:=⟨_,rfl⟩;obtain⟨D,hDD⟩:∃D,D=X % 65536:=⟨_,rfl⟩;obtain⟨Q,hQ⟩:∃Q,Q=X / 65536:=⟨_,rfl⟩;obtain⟨C,hC⟩:∃C,C=16777216 - Q:=⟨_,rfl⟩;have w3:IntKind.u64.wrap ((z:Int)+1099511627776)=(Z:Int):=by rw [IntKind.wrap_u64];omega
           have w4:IntKind.u64.wrap ((Z:Int) - (bb:Int))=(X:Int):=by rw [IntKind.wrap_u64];omega
           have w5:IntKind.u64.wrap (16777216 - (Q:Int))=(C:Int):=by rw [IntKind.wrap_u64];omega
           have b1:bits .and .u64 (X:Int) 65535=(D:Int):=by rw [hDD];exact and64 X (by omega)
           have b2:(D:Int) % 4294967296=(D:Int):=by omega
           have b3:(X:Int) / 65536=(Q:Int):=by omega
           have hDl:D<65536:=by omega
           have hCl:C<65536:=by omega
           have hDC:D+(bb+tn*0)=z+65536*C:=by omega
           have HST:Hid (val ((l2.set kk D).take (kk+1))+tn*val (m.take (kk+1))=val (l.take (kk+1))+65536 ^ (kk+1)*C):=Φ (by
            rw [HSV.out,HTL.out,Nat.pow_succ,List.take_of_length_le (l:=m) (by have:=HN.out.2;omega)];have h1:=HVV.out;rw [List.take_of_length_le (l:=m) (by have:=HN.out.2;omega)] at h1
            have:=left_arith h1 hDC
            rwa [Nat.mul_zero,Nat.add_zero] at this)
           have HU:Hid ((us l2).setIfInBounds kk (.int .u32 ((D:Nat):Int))=us (l2.set kk D)):=Φ (us_set _ _ _);have HD3:=Φ (dig_set HD2.out hDl kk);clear hZ hX hDD hQ hC hDC HTL HSV HVV HUP;go_wp2_with fail
           go_roundw
           case rel=>exact⟨kk+1,C,l2.set kk D,by omega,by go_num,rfl,hCl,by rw [List.length_set];exact HOL2.out,HD3.out,HUP2.out D,HST.out,(blk_put HH.out kk _).trans (by rw [HU.out]),HW.out.setCell (p:=⟨w.heap.size,kk,none⟩) (Nat.le_refl _) _⟩
           case measure=>simp [intOf]<;>omega
         ·obtain rfl:kk=n+1:=by omega
          have HE:Hid (val l2=val l - tn*val m):=Φ (by
           have h1:=HVV.out;rw [List.take_of_length_le (l:=l2) (by rw [HOL2.out];omega),List.take_of_length_le (l:=l) (by rw [HOL.out];omega),List.take_of_length_le (l:=m) (by have:=HN.out.2;omega)] at h1;have h2:=val_lt l2 HD2.out;rw [HOL2.out] at h2;exact left_end h1 h2 HTM.out)
          have HV2:Hid (val l2 % val m=R):=Φ (by rw [HE.out,sub_mod_mul HTM.out,HV.out]);have HLS:Hid (mval wr w.heap.size<val l):=Φ (by
           rw [mval_us HH.out,HE.out];have h1:=HM0.out;have h2:=HTM.out;have h3:0<tn*val m:=Nat.mul_pos (by omega) h1
           omega)
          clear HVV HUP HE;go_wp2_with fail
          go_roundw
          case rel=>exact⟨_,_,_,_,_,_,_,_,_,_,_,_,_,_,_,_,_,_,_,_,_,_,_,_,_,_,_,_,_,_,_,_,_,_,_,_,_,_,_,_,_,_,_,_,_,_,_,_,_,_,_,_,_,_,_,_,_,_,_,_,⟨l2,HOL2.out,HD2.out,HV2.out,HH.out,HW.out⟩,rfl⟩
          case measure=>rw [HMV.out];exact HLS.out
      ·have htn0:tn=0:=by
        rcases Nat.eq_zero_or_pos tn with h3 | h3
        ·exact h3
        ·have h4:65536 ^ n*1≤65536 ^ n*tn:=Nat.mul_le_mul_left _ h3;have h5:=HMT.out;have h6:=HTV.out;omega
       subst htn0;have hcm:cmpN (val (l.take n)) (val m) = -1:=by
        have h6:=HTV.out;rw [Nat.mul_zero,Nat.add_zero] at h6;rw [← h6];unfold cmpN;rw [if_pos (by omega)]
       rw [hcm] at HC;have HV2:Hid (val l=val (a.drop k) % val m):=Φ (by rw [← HRF.out,← HV.out,Nat.mod_eq_of_lt (by omega)]);clear hge hcm htn HTV HLN;go_wp2_with fail;refine(HC.out).mono ?_;rintro e w5 ⟨rfl,hsm⟩;have HH5:Hid (w5.heap[w.heap.size]?=some (.cells (us l) 111 (0,0))):=Φ (by rw [hsm.2.2.2];exact HH.out);have HW5:=Φ (hsm.below HW.out);clear hsm HC HDL hcn;go_wp2_with fail
       go_roundw
       case rel=>exact⟨k,l,by omega,by go_num,HOL.out,HD.out,HV2.out,HH5.out,HW5.out⟩
       case measure=>simp [intOf]
    ·obtain⟨q',rfl⟩:∃q',q=q'+1:=⟨q - 1,by omega⟩;have h1:q' < l2.length:=by rw [HOL2.out];omega
     have h2:q'+1<l2.length:=by rw [HOL2.out];omega
     have h3:q' < l.length:=by rw [HOL.out];omega
     have i1:wr.cell? ⟨w.heap.size,q',none⟩=some (.int .u32 ((l2[q']:Nat):Int)):=by
      rw [Lib.cell_of_heap HH.out];simp [us,h1]
     have i2:wr.cell? ⟨w.heap.size,q'+1,none⟩=some (.int .u32 ((l2[q'+1]:Nat):Int)):=by
      rw [Lib.cell_of_heap HH.out];simp [us,h2]
     have fo:=Lib.frozen_of_heap HH.out (q'+1);have hzz:l2[q']=l[q']:=HLO.out q' h1 h3 (by omega);have e2:((q'+1:Nat):Int) - 1=(q':Int):=by omega
     have HLO2:Hid (∀d,∀p (hp:p<(l2.set (q'+1) d).length) (hp':p<l.length),p≤q'→(l2.set (q'+1) d)[p]=l[p]):=Φ (fun d p hp hp' h=>by
      rw [List.getElem_set_ne (by omega)];exact HLO.out p (by simpa using hp) hp' (by omega))
     have HHI2:Hid (∀p (hp:p<(l2.set (q'+1) (l2[q'])).length) (hp':p - 1<l.length),q' < p→(l2.set (q'+1) (l2[q']))[p]=l[p - 1]):=Φ (fun p hp hp' h=>by
      by_cases hpq:p=q'+1
      ·subst hpq;rw [List.getElem_set_self]
       simpa using hzz
      ·rw [List.getElem_set_ne (by omega)];exact HHI.out p (by simpa using hp) hp' (by omega))
     generalize l2[q']=z at i1 hzz HHI2;generalize l2[q'+1]=z2 at i2;have HU:Hid ((us l2).setIfInBounds (q'+1) (.int .u32 ((z:Nat):Int))=us (l2.set (q'+1) z)):=Φ (us_set _ _ _);have e3:(((q':Nat):Int)+1).toNat=q'+1:=by omega
     clear hzz;go_wp2_with fail
     go_roundw
     case rel=>exact⟨q',l2.set (q'+1) z,by omega,by go_num,by rw [List.length_set];exact HOL2.out,HLO2.out z,HHI2.out,(blk_put HH.out (q'+1) _).trans (by rw [HU.out]),HW.out.setCell (p:=⟨w.heap.size,q'+1,none⟩) (Nat.le_refl _) _⟩
     case measure=>simp [intOf]
end Ref
end Go.Proofs.YtpggkfdijmnmiaaGreat
