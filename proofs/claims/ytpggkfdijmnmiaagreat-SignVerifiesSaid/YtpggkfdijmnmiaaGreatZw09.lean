/- Powers modulo (the reference's Power). Condition: numbers be -/
import Derived.Test.YtpggkfdijmnmiaaGreatZw05
import Derived.Test.YtpggkfdijmnmiaaGreatZw04
set_option linter.unusedVariables false
set_option linter.unusedSimpArgs false
set_option maxRecDepth 100000
namespace Go.Proofs.YtpggkfdijmnmiaaGreat
namespace Ref
open Go.RowKit Go.Proofs.YtpggkfdijmnmiaaGreat.Digits
open Go.Lib renaming hid→Φ
set_option maxHeartbeats 4000000
def NV (w:World)(v:Value)(n:Nat): Prop:=∃r,Dr w v r∧Dig r∧Trim r∧val r=n
theorem NV.below {w w':World}{v:Value}{n:Nat}(h:NV w v n)(hb:Below w.heap.size w w'): NV w' v n:=by
 obtain⟨r,h1,h2⟩:=h;exact⟨r,h1.below hb,h2⟩
theorem Nr.nv {w w':World}{v:Value}{n:Nat}(h:Nr w w' v n): NV w' v n:=h.row
def big:Nat:=65536 ^ 120
theorem md_big (m:Int): md m<big:=by
 rcases md_or m with h | h<;>rw [h]<;>decide +kernel
theorem md_pos (m:Int): 0<md m:=by
 rcases md_or m with h | h<;>rw [h]<;>decide +kernel
def R0:List Nat:=[65535,65535,65535,65535,65535,65535,0,0,0,0,0,0,1,0,65535,65535]
def R1:List Nat:=[9553,64611,51906,62393,40580,42775,64173,48358,65535,65535,65535,65535,0,0,65535,65535]
theorem R0_dig:Dig R0:=by unfold Dig R0;decide
theorem R1_dig:Dig R1:=by unfold Dig R1;decide
theorem R0_val:val R0=mP:=by decide +kernel
theorem R1_val:val R1=mN:=by decide +kernel
theorem modref_any (m:Int)(w:World): Calls Tryz.prog 71 #[.int .i64 m] w fun e w'=>∃v',e = .returned v'∧Nr w w' v' (md m):=by
 by_cases h0:m=0
 ·subst h0;go_enter Tryz.func71,Tryz.ntmps71;go_wp2_with fail;go_ret;exact⟨_,rfl,⟨⟨R0,us_dr (l:=R0) (Go.heap_alloc_new w _) (by decide),R0_dig,by unfold Trim R0;decide,R0_val⟩,by go_grown⟩⟩
 ·have h1:(m == 0)=false:=by simpa using h0
  have hm:md m=mN:=by unfold md;rw [if_neg h0]
  rw [hm];clear hm h0;go_enter Tryz.func71,Tryz.ntmps71;go_wp2_with fail;go_ret;exact⟨_,rfl,⟨⟨R1,us_dr (l:=R1) (Go.heap_alloc_new w _) (by decide),R1_dig,by unfold Trim R1;decide,R1_val⟩,by go_grown⟩⟩
theorem len_pow {r:List Nat}{n q:Nat}(ht:Trim r)(hv:val r=n)(hn:n<65536 ^ q): r.length≤q:=by
 rcases Nat.lt_or_ge q r.length with h | h
 ·exfalso
  have h1:=val_ge ht (by intro e;subst e;simp at h);have h2:=Nat.pow_le_pow_right (n:=65536) (by decide) (show q≤r.length - 1 by omega);rw [hv] at h1;exact absurd (Nat.lt_of_lt_of_le hn (Nat.le_trans h2 h1)) (Nat.lt_irrefl _)
 ·exact h
theorem len_big {r:List Nat}{n:Nat}(ht:Trim r)(hv:val r=n)(hn:n<big): r.length≤120:=len_pow ht hv hn
theorem len_bigs {r:List Nat}{n:Nat}(ht:Trim r)(hv:val r=n)(hn:n<big*big): r.length≤240:=len_pow ht hv (by
 have e:big*big=65536 ^ 240:=by unfold big;rw [← Nat.pow_add]
 rwa [e] at hn)
theorem add_nv (v u:Value)(w:World)(a b:Nat)(ha:a<big)(hb:b<big)(h:NV w v a)(k:NV w u b): Calls Tryz.prog 155 #[v,u] w fun e w'=>∃v',e = .returned v'∧Nr w w' v' (a+b):=by
 obtain⟨r,h1,h2,h3,h4⟩:=h;obtain⟨s,k1,k2,k3,k4⟩:=k
 have:=add_any r s h2 k2 (by have:=len_big h3 h4 ha;omega) (by have:=len_big k3 k4 hb;omega) v u w h1 k1
 rwa [h4,k4] at this
theorem mul_nv' (v u:Value)(w:World)(a b:Nat)(ha:a<big)(hb:b<big)(h:NV w v a)(k:NV w u b): Calls Tryz.prog 124 #[v,u] w fun e w'=>∃v',e = .returned v'∧Nr w w' v' (a*b):=by
 obtain⟨r,h1,h2,h3,h4⟩:=h;obtain⟨s,k1,k2,k3,k4⟩:=k
 have:=mul_any r s h2 k2 (by have:=len_big h3 h4 ha;omega) (by have:=len_big k3 k4 hb;omega) v u w h1 k1
 rwa [h4,k4] at this
theorem sub_nv' (v u:Value)(w:World)(a b:Nat)(ha:a<big)(hle:b≤a)(h:NV w v a)(k:NV w u b): Calls Tryz.prog 122 #[v,u] w fun e w'=>∃v',e = .returned v'∧Nr w w' v' (a - b):=by
 obtain⟨r,h1,h2,h3,h4⟩:=h;obtain⟨s,k1,k2,k3,k4⟩:=k
 have:=sub_any r s h2 k2 (by have:=len_big h3 h4 ha;omega) (by rw [h4,k4];exact hle) v u w h1 k1
 rwa [h4,k4] at this
theorem left_nv (v u:Value)(w:World)(a b:Nat)(ha:a<big*big)(hb:b<big)(hb0:0<b)(h:NV w v a)(k:NV w u b): Calls Tryz.prog 70 #[v,u] w fun e w'=>∃v',e = .returned v'∧Nr w w' v' (a % b):=by
 obtain⟨r,h1,h2,h3,h4⟩:=h;obtain⟨s,k1,k2,k3,k4⟩:=k
 have:=left_any r s h2 k2 (by have:=len_bigs h3 h4 ha;omega) (by have:=len_big k3 k4 hb;omega) (by rw [k4];exact hb0) v u w h1 k1
 rwa [h4,k4] at this
theorem nk {f:FuncId}{args:Array Value}{W:World}{n:Nat}(B:Nat)(w:World)(h:Calls Tryz.prog f args W fun e w'=>∃v',e = .returned v'∧Nr W w' v' n)(hb:Below B w W)(hB:B≤w.heap.size):
  Calls Tryz.prog f args W fun e w'=>∃v',e = .returned v'∧NV w' v' n∧Below B w w'∧Below W.heap.size W w':=
 h.mono fun _ _ ⟨v',h1,h2⟩=>⟨v',h1,h2.nv,hb.trans (h2.below.mono (Nat.le_trans hB hb.size)),h2.below⟩
theorem sum_nv (m:Int)(v u:Value)(w:World)(a b:Nat)(ha:a<big)(hb:b<big)(h:NV w v a)(k:NV w u b): Calls Tryz.prog 106 #[.int .i64 m,v,u] w fun e w'=>∃v',e = .returned v'∧Nr w w' v' ((a+b) % md m):=by
 have HA:=Φ (add_nv v u w a b ha hb h k);have hab:a+b<big*big:=by
  have:2≤big:=by decide +kernel
  have:big*2≤big*big:=Nat.mul_le_mul_left _ this
  omega
 have HAB:=Φ hab;clear h k ha hb hab;go_enter Tryz.func106,Tryz.ntmps106;go_wp2_with fail;refine(nk w.heap.size w (HA.out) (Below.refl _ _) (Nat.le_refl _)).mono ?_;rintro e w1 ⟨v1,rfl,n1,hb1,hk1⟩;have N1:=Φ n1;have HB1:=Φ hb1;clear n1 hb1 hk1 HA;go_wp2_with fail;refine(nk w.heap.size w (modref_any m w1) HB1.out (Nat.le_refl _)).mono ?_;rintro e w2 ⟨v2,rfl,n2,hb2,hk2⟩;have N12:=Φ (N1.out.below hk2);have N2:=Φ n2;have HB2:=Φ hb2;clear n2 hb2 hk2 HB1 N1;go_wp2_with fail;refine(nk w.heap.size w (left_nv v1 v2 w2 (a+b) (md m) HAB.out (md_big m) (md_pos m) N12.out N2.out) HB2.out (Nat.le_refl _)).mono ?_;rintro e w3 ⟨v3,rfl,n3,hb3,hk3⟩;have N3:=Φ n3;have HB3:=Φ hb3;clear n3 hb3 hk3 HB2 N12 N2;go_wp2_with fail;go_ret;exact⟨_,rfl,⟨N3.out,HB3.out⟩⟩
theorem prod_nv (m:Int)(v u:Value)(w:World)(a b:Nat)(ha:a<big)(hb:b<big)(h:NV w v a)(k:NV w u b): Calls Tryz.prog 65 #[.int .i64 m,v,u] w fun e w'=>∃v',e = .returned v'∧Nr w w' v' (a*b % md m):=by
 have HA:=Φ (mul_nv' v u w a b ha hb h k);have HAB:Hid (a*b<big*big):=Φ (Nat.mul_lt_mul'' ha hb);clear h k ha hb;go_enter Tryz.func65,Tryz.ntmps65;go_wp2_with fail;refine(nk w.heap.size w (HA.out) (Below.refl _ _) (Nat.le_refl _)).mono ?_;rintro e w1 ⟨v1,rfl,n1,hb1,hk1⟩;have N1:=Φ n1;have HB1:=Φ hb1;clear n1 hb1 hk1 HA;go_wp2_with fail;refine(nk w.heap.size w (modref_any m w1) HB1.out (Nat.le_refl _)).mono ?_;rintro e w2 ⟨v2,rfl,n2,hb2,hk2⟩;have N12:=Φ (N1.out.below hk2);have N2:=Φ n2;have HB2:=Φ hb2;clear n2 hb2 hk2 HB1 N1;go_wp2_with fail;refine(nk w.heap.size w (left_nv v1 v2 w2 (a*b) (md m) HAB.out (md_big m) (md_pos m) N12.out N2.out) HB2.out (Nat.le_refl _)).mono ?_;rintro e w3 ⟨v3,rfl,n3,hb3,hk3⟩;have N3:=Φ n3;have HB3:=Φ hb3;clear n3 hb3 hk3 HB2 N12 N2;go_wp2_with fail;go_ret;exact⟨_,rfl,⟨N3.out,HB3.out⟩⟩
theorem big_sq:big≤big*big:=by
 have:1≤big:=by decide +kernel
 have:=Nat.mul_le_mul_left big this
 omega
theorem opp_nv (m:Int)(v:Value)(w:World)(a:Nat)(ha:a<big)(h:NV w v a): Calls Tryz.prog 159 #[.int .i64 m,v] w fun e w'=>∃v',e = .returned v'∧Nr w w' v' ((md m - a % md m) % md m):=by
 have H:=Φ h;have HAA:=Φ ha;clear h ha;go_enter Tryz.func159,Tryz.ntmps159;go_wp2_with fail;refine(nk w.heap.size w (modref_any m w) (Below.refl _ _) (Nat.le_refl _)).mono ?_;rintro e w1 ⟨v1,rfl,n1,hb1,hk1⟩;have N1:=Φ n1;have HB1:=Φ hb1;clear n1 hb1 hk1;go_wp2_with fail;refine(nk w.heap.size w (modref_any m w1) HB1.out (Nat.le_refl _)).mono ?_;rintro e w2 ⟨v2,rfl,n2,hb2,hk2⟩;have N12:=Φ (N1.out.below hk2);have N2:=Φ n2;have HB2:=Φ hb2;clear n2 hb2 hk2 HB1 N1;go_wp2_with fail;refine(nk w.heap.size w (left_nv v v2 w2 a (md m) (Nat.lt_of_lt_of_le HAA.out big_sq) (md_big m) (md_pos m) (H.out.below HB2.out) N2.out) HB2.out (Nat.le_refl _)).mono ?_;rintro e w3 ⟨v3,rfl,n3,hb3,hk3⟩;have N13:=Φ (N12.out.below hk3);have N3:=Φ n3;have HB3:=Φ hb3;clear n3 hb3 hk3 HB2 N12 N2;go_wp2_with fail;refine(nk w.heap.size w (sub_nv' v1 v3 w3 (md m) (a % md m) (md_big m) (Nat.le_of_lt (Nat.mod_lt _ (md_pos m))) N13.out N3.out) HB3.out (Nat.le_refl _)).mono ?_;rintro e w4 ⟨v4,rfl,n4,hb4,hk4⟩;have N4:=Φ n4;have HB4:=Φ hb4;clear n4 hb4 hk4 HB3 N13 N3;go_wp2_with fail;refine(nk w.heap.size w (modref_any m w4) HB4.out (Nat.le_refl _)).mono ?_;rintro e w5 ⟨v5,rfl,n5,hb5,hk5⟩;have N45:=Φ (N4.out.below hk5);have N5:=Φ n5;have HB5:=Φ hb5;clear n5 hb5 hk5 HB4 N4;go_wp2_with fail;refine(nk w.heap.size w (left_nv v4 v5 w5 (md m - a % md m) (md m) (Nat.lt_of_le_of_lt (Nat.sub_le _ _) (Nat.lt_of_lt_of_le (md_big m) big_sq)) (md_big m) (md_pos m) N45.out N5.out) HB5.out (Nat.le_refl _)).mono ?_;rintro e w6 ⟨v6,rfl,n6,hb6,hk6⟩;have N6:=Φ n6;have HB6:=Φ hb6;clear n6 hb6 hk6 HB5 N45 N5;go_wp2_with fail;go_ret;exact⟨_,rfl,⟨N6.out,HB6.out⟩⟩
end Ref
namespace Ref
open Go.RowKit Go.Proofs.YtpggkfdijmnmiaaGreat.Digits
def cellN (w:World)(g i:Nat): Nat:=match w.cell? ⟨g,i,none⟩ with
 |some (.int _ x)=>x.toNat
 |_=>0
def sval (w:World): Value→Nat
 |.slice (some a) n _=>val ((List.range n).map (cellN w a.block))
 |_=>0
theorem sval_nv {w:World}{v:Value}{n:Nat}(h:NV w v n): sval w v=n:=by
 obtain⟨r,⟨g,cap,rfl,_,_,_,hc⟩,_,_,rfl⟩:=h;unfold sval;simp only []
 congr 1
 apply List.ext_getElem
 ·simp
 ·intro i h1 h2;simp only [List.getElem_map,List.getElem_range]
  have:=hc i h2
  unfold cellN;rw [this];simp
theorem cmp_nv (v u:Value)(w:World)(a b:Nat)(h:NV w v a)(k:NV w u b): Calls Tryz.prog 69 #[v,u] w fun e w'=>e = .returned (.int .i64 (cmpN a b))∧Sm w w':=by
 obtain⟨r,h1,h2,h3,rfl⟩:=h;obtain⟨s,k1,k2,k3,rfl⟩:=k;exact cmp_any r s h2 k2 v u w h1 k1
theorem odd_nv (v:Value)(w:World)(a:Nat)(h:NV w v a): Calls Tryz.prog 119 #[v] w fun e w'=>e = .returned (.bool (decide (a % 2=1)))∧Sm w w':=by
 obtain⟨r,h1,h2,h3,rfl⟩:=h;exact odd_any r h2 v w h1
theorem half_nv (v:Value)(w:World)(a:Nat)(ha:a<big)(h:NV w v a): Calls Tryz.prog 120 #[v] w fun e w'=>∃v',e = .returned v'∧Nr w w' v' (a / 2):=by
 obtain⟨r,h1,h2,h3,rfl⟩:=h;exact half_any r h2 (by have:=len_big h3 rfl ha;omega) v w h1
theorem halved_nv (v u:Value)(w:World)(a m:Nat)(ha:a<big)(hm:m<big)(h:NV w v a)(k:NV w u m): Calls Tryz.prog 121 #[v,u] w fun e w'=>∃v',e = .returned v'∧Nr w w' v' ((if a % 2=1 then a+m else a) / 2):=by
 obtain⟨r,h1,h2,h3,rfl⟩:=h;obtain⟨s,k1,k2,k3,rfl⟩:=k;exact halved_any r s h2 k2 (by have:=len_big h3 rfl ha;omega) (by have:=len_big k3 rfl hm;omega) v u w h1 k1
theorem less_nv (v u z:Value)(w:World)(a b m:Nat)(ha:a<big)(hb:b<big)(hm:m<big)(hle:b≤a+m)(h:NV w v a)(k:NV w u b)(q:NV w z m): Calls Tryz.prog 123 #[v,u,z] w fun e w'=>∃v',e = .returned v'∧Nr w w' v' ((if a<b then a+m else a) - b):=by
 obtain⟨r,h1,h2,h3,rfl⟩:=h;obtain⟨s,k1,k2,k3,rfl⟩:=k;obtain⟨t,q1,q2,q3,rfl⟩:=q;exact less_any r s t h2 k2 q2 (by have:=len_big h3 rfl ha;omega) (by have:=len_big k3 rfl hb;omega) (by have:=len_big q3 rfl hm;omega) hle v u z w h1 k1 q1
theorem nv_one (w:World): NV (w.alloc (.cells #[.int .u32 1] 111)) (.slice (some ⟨w.heap.size,0,none⟩) 1 1) 1:=
 ⟨[1],us_dr (l:=[1]) (Go.heap_alloc_new w _) (by decide),by unfold Dig;decide,by unfold Trim;decide,rfl⟩
theorem nv_nil (w:World): NV (w.alloc (.cells #[] 111)) (.slice (some ⟨w.heap.size,0,none⟩) 0 0) 0:=
 ⟨[],us_dr (l:=[]) (Go.heap_alloc_new w _) (by decide),by unfold Dig;simp,by unfold Trim;simp,rfl⟩
theorem al_below (w:World)(o:Obj): Below w.heap.size w (w.alloc o):=(Below.refl _ _).alloc (Nat.le_refl _) _
theorem NV.al {w:World}{v:Value}{n:Nat}(h:NV w v n)(o:Obj): NV (w.alloc o) v n:=h.below (al_below w o)
theorem NV.sm {w w':World}{v:Value}{n:Nat}(h:NV w v n)(s:Sm w w'): NV w' v n:=h.below s.below0
theorem cmp_one {a:Nat}: (cmpN a 1 != 0)=decide (a≠1):=by
 unfold cmpN
 by_cases h:a=1
 ·subst h;rfl
 ·have e:decide (a≠1)=true:=by simpa using h
  rw [e]
  split
  ·rfl
  ·split
   ·rfl
   ·omega
theorem cmp_one' {a:Nat}: (cmpN a 1 == 0)=decide (a=1):=by
 unfold cmpN
 by_cases h:a=1
 ·subst h;rfl
 ·have e:decide (a=1)=false:=by simpa using h
  rw [e]
  split
  ·rfl
  ·split
   ·rfl
   ·omega
theorem dig_at {r:List Nat}(h:Dig r){q:Nat}(hq:q<r.length): val r / 65536 ^ q % 65536=r[q]:=by
 have e:=val_append (r.take q) (r.drop q);rw [List.take_append_drop,List.length_take,Nat.min_eq_left (by omega),drop_val hq] at e;have hlt:=val_lt (r.take q) (dig_take h q);rw [List.length_take,Nat.min_eq_left (by omega)] at hlt;have hd:=h _ (List.getElem_mem hq);rw [e,Nat.add_mul_div_left _ _ (Nat.pow_pos (by decide)),Nat.div_eq_of_lt hlt];omega
theorem bit_at {r:List Nat}(h:Dig r){k:Nat}(hk:k / 16<r.length): r[k / 16] / 2 ^ (k % 16) % 2=val r / 2 ^ k % 2:=by
 rw [← dig_at h hk];have hs:k % 16<16:=Nat.mod_lt _ (by decide);generalize hx:val r / 65536 ^ (k / 16)=x;have e:val r / 2 ^ k=x / 2 ^ (k % 16):=by
  rw [← hx,Nat.div_div_eq_div_mul]
  congr 1
  rw [show(65536:Nat)=2 ^ 16 from rfl,← Nat.pow_mul,← Nat.pow_add]
  congr 1
  omega
 rw [e,← Nat.mod_mul_right_div_self,← Nat.mod_mul_right_div_self (m:=x)]
 congr 1
 refine Nat.mod_mod_of_dvd _ ?_;rw [show(65536:Nat)=2 ^ (k % 16)*2 ^ (16 - k % 16) from by rw [← Nat.pow_add,show k % 16+(16 - k % 16)=16 by omega]];exact Nat.mul_dvd_mul_left _ (Nat.pow_dvd_pow 2 (show 1≤16 - k % 16 by omega))
end Ref
end Go.Proofs.YtpggkfdijmnmiaaGreat
