/- Odd numbers, and differences modulo a number (the reference' -/
import Derived.Lib.Hide
import Derived.Test.YtpggkfdijmnmiaaGreatProg
import Derived.WalkKit
import Derived.WalkSpells
import Derived.WalkLawsBesides
import Derived.BigCall
import Derived.Outline
import Derived.KernelRfl
import Derived.Lib.Walk
import Derived.Lib.QuietBelow
import Derived.BigQuiet
import Derived.Laws.BitsAllLaws
import Derived.Lib.SlBuf
import Derived.Deep.AppendLies
import Derived.Laws.Shifts
import Derived.Laws.IdiomStrings
import Derived.Laws.Tables
import Derived.Laws.Rows
import Derived.Lib.BufferRead
import Derived.Laws.MakeOwn
set_option linter.unusedVariables false
set_option linter.unusedSimpArgs false
set_option maxRecDepth 100000
namespace Go.Proofs.YtpggkfdijmnmiaaGreat
namespace Digits
def val:List Nat→Nat
 |[]=>0
 |x::l=>x+65536*val l
def Dig (l:List Nat): Prop:=∀x∈l,x<65536
theorem val_append:∀l m:List Nat,val (l++m)=val l+65536 ^ l.length*val m
 |[],m=>by simp [val]
 |x::l,m=>by
  rw [List.cons_append,val,val,val_append l m,List.length_cons,Nat.pow_succ,Nat.mul_add,← Nat.mul_assoc,Nat.mul_comm 65536 (65536 ^ l.length)];omega
theorem val_snoc (l:List Nat)(x:Nat): val (l++[x])=val l+65536 ^ l.length*x:=by
 rw [val_append];simp [val]
theorem val_lt:∀l:List Nat,Dig l→val l<65536 ^ l.length
 |[],_=>by simp [val]
 |x::l,h=>by
  have h1:=h x (by simp);have h2:=val_lt l fun y hy=>h y (by simp [hy])
  rw [val,List.length_cons,Nat.pow_succ];omega
theorem dig_take {l:List Nat}(h:Dig l)(n:Nat): Dig (l.take n):=fun x hx=>h x (List.mem_of_mem_take hx)
theorem dig_snoc {l:List Nat}{x:Nat}(h:Dig l)(hx:x<65536): Dig (l++[x]):=by
 intro y hy;rcases List.mem_append.1 hy with hy | hy
 ·exact h y hy
 ·simp at hy;omega
def top (l:List Nat): Nat→Nat
 |0=>0
 |n+1=>if l.getD n 0=0 then top l n else n+1
theorem top_le (l:List Nat): ∀n,top l n≤n
 |0=>Nat.le_refl _
 |n+1=>by
  rw [top]
  split
  ·exact Nat.le_trans (top_le l n) (Nat.le_succ n)
  ·exact Nat.le_refl _
theorem top_val (l:List Nat): ∀n,n≤l.length→val (l.take (top l n))=val (l.take n)
 |0,_=>rfl
 |n+1,h=>by
  rw [top]
  split
  ·rename_i h0;rw [top_val l n (by omega),List.take_succ_eq_append_getElem (by omega),val_snoc]
   have:l[n]'(by omega)=0:=by simpa [List.getD,show n<l.length by omega] using h0
   rw [this];simp
  ·rfl
theorem top_last (l:List Nat): ∀n,0<top l n→l.getD (top l n - 1) 0≠0
 |0,h=>by simp [top] at h
 |n+1,h=>by
  rw [top] at h ⊢
  split
  ·rename_i h0;rw [if_pos h0] at h;exact top_last l n h
  ·rename_i h0
   simpa using h0
def trimL (l:List Nat): List Nat:=l.take (top l l.length)
theorem trim_val (l:List Nat): val (trimL l)=val l:=by
 unfold trimL;rw [top_val l _ (Nat.le_refl _),List.take_length]
theorem trim_dig {l:List Nat}(h:Dig l): Dig (trimL l):=dig_take h _
def Trim (l:List Nat): Prop:=l=[]∨l.getD (l.length - 1) 0≠0
theorem trim_trim (l:List Nat): Trim (trimL l):=by
 have hle:=top_le l l.length;have hlen:(trimL l).length=top l l.length:=by unfold trimL;rw [List.length_take];omega
 rcases Nat.eq_zero_or_pos (top l l.length) with h | h
 ·left
  unfold trimL;rw [h];rfl
 ·right
  have:=top_last l l.length h
  rw [hlen];unfold trimL;have hi:top l l.length - 1<l.length:=by omega
  simpa [List.getD,List.getElem?_take,show top l l.length - 1<top l l.length by omega] using this
theorem val_ge {l:List Nat}(h:Trim l)(hl:l≠[]): 65536 ^ (l.length - 1)≤val l:=by
 rcases h with h | h
 ·exact absurd h hl
 ·have hp:0<l.length:=List.length_pos_iff.2 hl;have e:l=l.take (l.length - 1)++[l[l.length - 1]'(by omega)]:=by
   rw [← List.take_succ_eq_append_getElem (by omega),show l.length - 1+1=l.length from by omega,List.take_length]
  have h1:l[l.length - 1]'(by omega)≠0:=by
   simpa [List.getD,show l.length - 1<l.length by omega] using h
  have h2:val l=val (l.take (l.length - 1))+65536 ^ (l.length - 1)*l[l.length - 1]'(by omega):=by
   have:=val_snoc (l.take (l.length - 1)) (l[l.length - 1]'(by omega))
   rw [← e,List.length_take,Nat.min_eq_left (by omega)] at this;exact this
  rw [h2];have h3:65536 ^ (l.length - 1)*1≤65536 ^ (l.length - 1)*l[l.length - 1]'(by omega):=Nat.mul_le_mul_left _ (by omega);omega
theorem lt_of_len {a b:List Nat}(ha:Dig a)(hb:Trim b)(h:a.length<b.length): val a<val b:=by
 have h1:=val_lt a ha;have h2:=val_ge hb (by intro e;rw [e] at h;simp at h);have h3:65536 ^ a.length≤65536 ^ (b.length - 1):=Nat.pow_le_pow_right (by decide) (by omega);omega
theorem lt_of_digit {a b:List Nat}(ha:Dig a)(hb:Dig b)(hl:a.length=b.length)(i:Nat)(hi:i<a.length)(hs:∀k,i<k→k<a.length→a.getD k 0=b.getD k 0)(hd:a.getD i 0<b.getD i 0): val a<val b:=by
 have ea:a=a.take i++a[i]::a.drop (i+1):=by rw [← List.drop_eq_getElem_cons hi,List.take_append_drop]
 have eb:b=b.take i++b[i]'(by omega)::b.drop (i+1):=by rw [← List.drop_eq_getElem_cons (by omega),List.take_append_drop]
 have hdr:a.drop (i+1)=b.drop (i+1):=by
  apply List.ext_getElem
  ·simp [hl]
  ·intro k h1 h2;have h3:i+1+k<a.length:=by rw [List.length_drop] at h1;omega
   have:=hs (i+1+k) (by omega) h3
   rw [List.getElem_drop,List.getElem_drop]
   simpa [List.getD,h3,show i+1+k<b.length by omega] using this
 have va:val a=val (a.take i)+65536 ^ i*(a[i]+65536*val (a.drop (i+1))):=by
  conv=>lhs;rw [ea]
  rw [val_append,val,List.length_take,Nat.min_eq_left (by omega)]
 have vb:val b=val (b.take i)+65536 ^ i*(b[i]'(by omega)+65536*val (b.drop (i+1))):=by
  conv=>lhs;rw [eb]
  rw [val_append,val,List.length_take,Nat.min_eq_left (by omega)]
 have hd':a[i]+1≤b[i]'(by omega):=by
  have:a[i]<b[i]'(by omega):=by simpa [List.getD,hi,show i<b.length by omega] using hd
  omega
 have h1:=val_lt (a.take i) (dig_take ha i);rw [List.length_take,Nat.min_eq_left (by omega)] at h1;rw [va,vb,hdr];have h2:65536 ^ i*(a[i]+1+65536*val (b.drop (i+1)))≤65536 ^ i*(b[i]'(by omega)+65536*val (b.drop (i+1))):=Nat.mul_le_mul_left _ (by omega);have h3:65536 ^ i*(a[i]+1+65536*val (b.drop (i+1)))=65536 ^ i+65536 ^ i*(a[i]+65536*val (b.drop (i+1))):=by
  rw [show a[i]+1+65536*val (b.drop (i+1))=1+(a[i]+65536*val (b.drop (i+1))) from by omega,Nat.mul_add,Nat.mul_one]
 omega
end Digits
namespace Ref
open Go.RowKit Go.Proofs.YtpggkfdijmnmiaaGreat.Digits
def Sm (w w':World): Prop:=w'.os=w.os∧w'.tape=w.tape∧w'.output=w.output∧w'.heap=w.heap
theorem Sm.refl (w:World): Sm w w:=⟨rfl,rfl,rfl,rfl⟩
theorem Sm.drew (w:World): Sm w w.drew:=⟨rfl,rfl,rfl,rfl⟩
theorem Sm.drewN (w:World)(n:Nat): Sm w (w.drewN n):=⟨rfl,rfl,rfl,rfl⟩
theorem Sm.trans {a b c:World}(h:Sm a b)(k:Sm b c): Sm a c:=⟨k.1.trans h.1,k.2.1.trans h.2.1,k.2.2.1.trans h.2.2.1,k.2.2.2.trans h.2.2.2⟩
theorem Sm.cell {w w':World}(h:Sm w w'){p:Addr}{v:Value}(hc:w.cell? p=some v): w'.cell? p=some v:=by
 rw [World.cell?_of_block (w:=w) (by rw [h.2.2.2])];exact hc
theorem Sm.below {B:Nat}{a w w':World}(h:Sm w w')(hb:Below B a w): Below B a w':=
 ⟨h.1.trans hb.os,h.2.1.trans hb.tape,h.2.2.1.trans hb.output,by rw [h.2.2.2];exact hb.size,fun k hk=>by rw [h.2.2.2];exact hb.block k hk⟩
theorem mixed:Tryz.prog.follows .mixedOrders=true:=by kernel_rfl
def Dr (w:World)(v:Value)(l:List Nat): Prop:=∃g cap,v = .slice (some ⟨g,0,none⟩) l.length cap∧l.length≤cap∧cap≤9223372036854775807∧g<w.heap.size∧∀i (hi:i<l.length),w.cell? ⟨g,i,none⟩=some (.int .u32 ((l[i]:Nat):Int))
theorem Dr.below {w w':World}{v:Value}{l:List Nat}(h:Dr w v l)(hb:Below w.heap.size w w'): Dr w' v l:=by
 obtain⟨g,cap,hv,hc,hm,hg,hl⟩:=h;exact⟨g,cap,hv,hc,hm,Nat.lt_of_lt_of_le hg hb.size,fun i hi=>(hb.cell (p:=⟨g,i,none⟩) hg).trans (hl i hi)⟩
theorem Dr.sm {w w':World}{v:Value}{l:List Nat}(h:Dr w v l)(s:Sm w w'): Dr w' v l:=by
 obtain⟨g,cap,hv,hc,hm,hg,hl⟩:=h;exact⟨g,cap,hv,hc,hm,by rw [s.2.2.2];exact hg,fun i hi=>s.cell (hl i hi)⟩
set_option maxHeartbeats 2000000 in
theorem trim_any (l:List Nat)(v:Value)(w:World)(h:Dr w v l):
  Calls Tryz.prog 95 #[v] w fun e w'=>(∃v',e = .returned v'∧Dr w v' (trimL l))∧w=w':=by
 obtain⟨g,cap,rfl,hc,hm,hg,hl⟩:=h;have HC:=Lib.hid hl;have HG:=Lib.hid hg;have HTL:Hid (∀n,n=top l l.length→Dr w (.slice (some ⟨g,0,none⟩) n cap) (trimL l)):=Lib.hid (fun n hn=>by
  have hle:=top_le l l.length;have hlen:(trimL l).length=n:=by rw [hn];unfold trimL;rw [List.length_take];omega
  refine⟨g,cap,by rw [hlen],by omega,hm,hg,fun i hi=>?_⟩;have hi':i<l.length:=by omega
  have e:(trimL l)[i]=l[i]:=List.getElem_take;rw [e];exact hl i hi')
 clear hl hg;go_enter Tryz.func95,Tryz.ntmps95;go_wp2_with fail
 go_loop [3] (fun i=>∃n:Nat,n≤l.length∧i = .int .i64 n∧top l n=top l l.length) (fun i=>(intOf i).toNat)
 case atStart=>exact⟨l.length,Nat.le_refl _,rfl,rfl⟩
 case round=>
  obtain⟨n,hn,rfl,ht⟩:=hrel;have HT:=Lib.hid ht;clear ht
  by_cases h0:n=0
  ·subst h0;have hcc:(0:Int)≤cap:=by omega
   go_wp2_with fail;go_ret;exact⟨⟨_,rfl,HTL.out 0 HT.out⟩,rfl⟩
  ·obtain⟨k,rfl⟩:∃k,n=k+1:=⟨n - 1,by omega⟩;have hk:k<l.length:=by omega
   have ic:=HC.out k hk;have t1:(((k+1:Nat):Int) - 1).toNat=k:=by omega
   have e1:((k+1:Nat):Int) - 1=(k:Int):=by omega
   have hgd:l.getD k 0=l[k]:=by simp [List.getD,hk]
   by_cases hz:l[k]=0
   ·have HT2:Hid (top l k=top l l.length):=Lib.hid (by
     have:=HT.out
     rw [top,hgd,if_pos hz] at this;exact this)
    rw [hz] at ic;go_wp2_with fail
    go_round
    case rel=>exact⟨k,by omega,by go_num,HT2.out⟩
    case measure=>simp [intOf]
   ·have hz2:(((l[k]:Nat):Int) == 0)=false:=by simp;omega
    have HT2:Hid (k+1=top l l.length):=Lib.hid (by
     have:=HT.out
     rw [top,hgd,if_neg hz] at this;exact this)
    have hcc:((k+1:Nat):Int)≤cap:=by omega
    generalize l[k]=d at ic hz2;go_wp2_with fail;go_ret;exact⟨⟨_,rfl,HTL.out (k+1) HT2.out⟩,rfl⟩
end Ref
namespace Ref
open Go.RowKit Go.Proofs.YtpggkfdijmnmiaaGreat.Digits
open Go.Lib renaming hid→Φ
def cmpN (a b:Nat): Int:=if a<b then -1 else if b<a then 1 else 0
theorem cmpN_lt {a b:Nat}(h:a<b): cmpN a b = -1:=by rw [cmpN,if_pos h]
theorem cmpN_gt {a b:Nat}(h:b<a): cmpN a b=1:=by rw [cmpN,if_neg (by omega),if_pos h]
theorem cmpN_eq {a b:Nat}(h:a=b): cmpN a b=0:=by rw [cmpN,if_neg (by omega),if_neg (by omega)]
set_option maxHeartbeats 4000000 in
theorem cmp_any (l m:List Nat)(hl:Dig l)(hm:Dig m)(v u:Value)(w:World)(h:Dr w v l)(k:Dr w u m):
  Calls Tryz.prog 69 #[v,u] w fun e w'=>e = .returned (.int .i64 (cmpN (val l) (val m)))∧Sm w w':=by
 have T1:=Φ (trim_any l v w h);have T2:=Φ (trim_any m u w k);have ha:=trim_dig hl;have hb:=trim_dig hm;have ta:=trim_trim l;have tb:=trim_trim m;rw [← trim_val l,← trim_val m];have HA:=Φ ha;have HB:=Φ hb;have HTA:=Φ ta;have HTB:=Φ tb;generalize trimL l=a at *;generalize trimL m=b at *;clear ha hb ta tb hl hm h k;go_enter Tryz.func69,Tryz.ntmps69;go_wp2_with fail;refine T1.out.mono ?_;rintro e w1 ⟨⟨v1,rfl,h1⟩,rfl⟩;obtain⟨g,cap,rfl,hc,hcm,hg,hca⟩:=h1;have HCA:=Φ hca;go_wp2_with fail;refine T2.out.mono ?_;rintro e w2 ⟨⟨v2,rfl,h2⟩,rfl⟩;obtain⟨g2,cap2,rfl,hc2,hcm2,hg2,hcb⟩:=h2;have HCB:=Φ hcb;clear hca hcb T1 T2
 by_cases hlen:a.length=b.length
 ·have HEQ:=Φ hlen;have hlen2:((a.length:Int) != (b.length:Int))=false:=by simp;omega
  obtain⟨n,hn⟩:∃n,n=a.length:=⟨_,rfl⟩;rw [← hlen,← hn] at hlen2;rw [← hlen] at hc2;rw [← hlen,← hn];rw [← hn] at hc hc2;have HN:=Φ hn;clear hlen hn;go_wp2_with fail
  go_loopw [5] (fun i wr=>∃j:Nat,j≤n∧i = .int .i64 ((j:Int) - 1)∧(∀k,j≤k→k<n→a.getD k 0=b.getD k 0)∧Sm w wr) (fun i _=>(intOf i+1).toNat)
  case atStart=>exact⟨n,Nat.le_refl _,rfl,fun k h1 h2=>by omega,Sm.refl _⟩
  case round=>
   obtain⟨j,hj,rfl,hs,hsm⟩:=hrel;have HS:=Φ hs;have HM:=Φ hsm;clear hs hsm
   by_cases h0:j=0
   ·subst h0;have HV:Hid (val a=val b):=Φ (by
     have:a=b:=List.ext_getElem HEQ.out (fun k h1 h2=>by
      have:=HS.out k (by omega) (by rw [HN.out];exact h1)
      simpa [List.getD,h1,h2] using this)
     rw [this])
    go_wp2_with fail;go_ret;exact⟨by rw [cmpN_eq HV.out];rfl,HM.out⟩
   ·obtain⟨k,rfl⟩:∃k,j=k+1:=⟨j - 1,by omega⟩;have hka:k<a.length:=by have:=HN.out;omega
    have hkb:k<b.length:=by have:=HEQ.out;omega
    have ia:=HM.out.cell (HCA.out k hka);have ib:=HM.out.cell (HCB.out k hkb);have t1:(((k+1:Nat):Int) - 1).toNat=k:=by omega
    have e1:((k+1:Nat):Int) - 1=(k:Int):=by omega
    have ga:a.getD k 0=a[k]:=by simp [List.getD,hka]
    have gb:b.getD k 0=b[k]:=by simp [List.getD,hkb]
    have HSS:Hid (∀q,k<q→q<a.length→a.getD q 0=b.getD q 0):=Φ (fun q h1 h2=>HS.out q (by omega) (by rw [HN.out];exact h2));have HLT:Hid (a[k]<b[k]→val a<val b):=Φ (fun h=>lt_of_digit HA.out HB.out HEQ.out k hka HSS.out (by rw [ga,gb];exact h));have HGT:Hid (b[k]<a[k]→val b<val a):=Φ (fun h=>lt_of_digit HB.out HA.out HEQ.out.symm k hkb (fun q h1 h2=>(HSS.out q h1 (by rw [HEQ.out];exact h2)).symm) (by rw [ga,gb];exact h));have HNX:Hid (a[k]=b[k]→∀q,k≤q→q<n→a.getD q 0=b.getD q 0):=Φ (fun h q h1 h2=>by
     by_cases e:q=k
     ·subst e;rw [ga,gb,h]
     ·exact HS.out q (by omega) h2)
    have hkn:(k:Int)<n:=by omega
    clear ga gb HSS HS;generalize a[k]=x at ia HLT HGT HNX;generalize b[k]=y at ib HLT HGT HNX;rw [e1];go_wp2_with fail;refine wp_region_quiet_lit (by kernel_rfl) (by kernel_rfl) ?_
    iterate 9 go_big_quiet_step (fail)
    refine wpQuiet_nil ?_;intro _ hw';obtain⟨nq,hw''⟩:=hw';subst hw'';have HM2:=Φ (HM.out.trans (Sm.drewN wr nq))
    by_cases hxy:x<y
    ·have hlt:((x:Int)<(y:Int)):=by omega
     go_wp2_with fail;go_ret;exact⟨by rw [cmpN_lt (HLT.out hxy)];rfl,HM2.out⟩
    ·have hnlt:¬((x:Int)<(y:Int)):=by omega
     have ia2:(wr.drewN nq).cell? ⟨g,k,none⟩=some (.int .u32 (x:Int)):=ia;have ib2:(wr.drewN nq).cell? ⟨g2,k,none⟩=some (.int .u32 (y:Int)):=ib;clear ia ib HM;generalize wr.drewN nq=ws at HM2 ia2 ib2 ⊢;go_wp2_with fail;refine wp_region_quiet_lit (by kernel_rfl) (by kernel_rfl) ?_
     iterate 9 go_big_quiet_step (fail)
     refine wpQuiet_nil ?_;intro _ hw';obtain⟨nq2,hw''⟩:=hw';subst hw'';have HM3:=Φ (HM2.out.trans (Sm.drewN ws nq2))
     by_cases hyx:y<x
     ·have hlt:((y:Int)<(x:Int)):=by omega
      go_wp2_with fail;go_ret;exact⟨by rw [cmpN_gt (HGT.out hyx)];rfl,HM3.out⟩
     ·have hnlt2:¬((y:Int)<(x:Int)):=by omega
      have hxe:x=y:=by omega
      have HX2:=Φ (HNX.out hxe);clear HNX hxe;go_wp2_with fail
      go_roundw
      case rel=>exact⟨k,by omega,by go_num,HX2.out,HM3.out⟩
      case measure=>simp [intOf]
 ·have hlen2:((a.length:Int) != (b.length:Int))=true:=by simp;omega
  by_cases hlt:a.length<b.length
  ·have h1:((a.length:Int)<(b.length:Int)):=by omega
   have HV:=Φ (lt_of_len HA.out HTB.out hlt);clear hlen hlt;go_wp2_with fail;go_ret;exact⟨by rw [cmpN_lt HV.out];rfl,Sm.refl _⟩
  ·have h1:¬((a.length:Int)<(b.length:Int)):=by omega
   have HV:=Φ (lt_of_len HB.out HTA.out (by omega));clear hlen hlt;go_wp2_with fail;go_ret;exact⟨by rw [cmpN_gt HV.out];rfl,Sm.refl _⟩
theorem at0 (g j:Nat): (⟨g,0,none⟩:Addr).add j=⟨g,j,none⟩:=by unfold Addr.add;split<;>simp_all
def cd (l:List Nat): List Value:=l.map fun x=>Value.int .u32 ((x:Nat):Int)
def Rd (B:Nat)(v:Value)(l:List Nat)(w:World): Prop:=w.ownsRow B 111 1 v l.length (cd l)
theorem Rd.snoc {B:Nat}{v:Value}{l:List Nat}{w:World}{x:Nat}(h:w.ownsRow B 111 1 v (l.length+1) (cd l++[.int .u32 ((x:Nat):Int)])): Rd B v (l++[x]) w:=by
 have e:cd (l++[x])=cd l++[.int .u32 ((x:Nat):Int)]:=by simp [cd]
 unfold Rd;rw [e]
 simpa using h
theorem Rd.below {B:Nat}{v:Value}{l:List Nat}{w w':World}(h:Rd B v l w)(hb:Below w.heap.size w w'): Rd B v l w':=by
 refine⟨h.1,?_⟩;rcases h.2 with hn | ⟨g,cap,cur,hv,hg,hh,rest⟩
 ·exact .inl hn
 ·exact .inr ⟨g,cap,cur,hv,hg,(hb.block _ (Array.getElem?_eq_some_iff.1 hh).1).trans hh,rest⟩
theorem Rd.nil (w:World): Rd w.heap.size (.slice (some ⟨w.heap.size,0,none⟩) 0 0) [] (w.alloc (.cells #[] 111)):=
 ⟨rfl,.inr ⟨w.heap.size,0,#[],rfl,Nat.le_refl _,Go.heap_alloc_new w _,Nat.le_refl _,Nat.zero_le _,rfl,rfl⟩⟩
theorem Rd.dr {B:Nat}{v:Value}{l:List Nat}{w:World}(h:Rd B v l w)(hl:l≠[])(hm:l.length≤10000000000001): Dr w v l:=by
 have H:=h;rcases h.2 with ⟨rfl,h0⟩ | ⟨g,cap,cur,rfl,hg,hh,h1,h2,h3,_⟩
 ·exact absurd (List.eq_nil_of_length_eq_zero h0) hl
 ·refine⟨g,cap,rfl,h1,by unfold maxLen at h2;omega,(Array.getElem?_eq_some_iff.1 hh).1,fun i hi=>?_⟩
  have:=World.ownsRow.cells H (g:=g) rfl i (.int .u32 ((l[i]:Nat):Int)) (by simp [cd,hi])
  rwa [at0] at this
theorem info75:(Tryz.prog.info? 111).map (fun i=>(i.zero,i.size,i.bytes))=some (some (.int .u32 0),1,4):=by kernel_rfl
theorem app_d {ops:Array Oper}{rest:List Oper}{o:Oper}{a:Act}{Q:Exit→Act→World→Prop}{w W:World}{v:Value}{l:List Nat}(z:Int)(n:Nat)(hz:z=(n:Int))(s x:Operand)(hgd:o.guard=none)
  (ho:o.op = .call {callee:= .builtin .append,args:=#[s,x],argTypes:=#[70,70]}) (hs:a.eval s=v) (hx:a.eval x = .slice (some ⟨w.heap.size,0,none⟩) 1 1)
  (hI:Rd W.heap.size v l w) (hb:Below W.heap.size W w) (hlen:l.length≤10000000000000)
  (h:∀v' w',Rd W.heap.size v' (l++[n]) w'→Below W.heap.size W w'→wpList Tryz.prog ops Q rest (a.put o.dst v') w'):wpList Tryz.prog ops Q (o::rest) a (w.alloc (.cells #[.int .u32 z] 111)):=by
 subst hz;obtain⟨i0,hi,hz0,hz1,hz2⟩:=info_parts info75;have hI':=hI.below (Below.alloc (Below.refl _ _) (Nat.le_refl _) (.cells #[.int .u32 (n:Int)] 111));have hsz:=hb.size;refine wpList_append_own _ hgd s x 70 ho W.heap.size 111 i0 (.int .u32 0) 1 4 Tryz.underlying70 hi hz0 hz1 hz2 rfl (by decide) v l.length _ hs hI' ⟨w.heap.size,0,none⟩ 1 1 [.int .u32 (n:Int)] hx rfl (World.news_of_block (Go.heap_alloc_new w _)) (by simp [Value.oneCell']) (by unfold maxLen;omega) (by omega) (by simp;omega) ?_;intro v' w' h1 h2 _;exact h v' w' (Rd.snoc h1) ((hb.alloc (by omega) _).grown h2 (by simp;omega) (fun g hk=>(World.ownsRow.lt hI' g hk).1))
theorem and16 (n:Nat)(h:n<4294967296): bits .and .u32 (n:Int) 65535=((n % 65536:Nat):Int):=by
 have:=u32_and_nat n 65535 h (by decide)
 rw [show((65535:Nat):Int)=65535 from rfl,show(65535:Nat)=2 ^ 16 - 1 from rfl,Nat.and_two_pow_sub_one_eq_mod] at this;exact this
structure Nr (w w':World)(v:Value)(n:Nat): Prop where
 row:∃r,Dr w' v r∧Dig r∧Trim r∧val r=n
 below:Below w.heap.size w w'
theorem take_val {a:List Nat}{i:Nat}(h:i<a.length): val (a.take (i+1))=val (a.take i)+65536 ^ i*a[i]:=by
 rw [List.take_succ_eq_append_getElem h,val_snoc,List.length_take,Nat.min_eq_left (by omega)]
set_option maxHeartbeats 4000000 in
theorem add_any (a b:List Nat)(ha:Dig a)(hb:Dig b)(hla:a.length≤1000000000000)(hlb:b.length≤1000000000000)(v u:Value)(w:World)(h:Dr w v a)(k:Dr w u b):
  Calls Tryz.prog 155 #[v,u] w fun e w'=>∃v',e = .returned v'∧Nr w w' v' (val a+val b):=by
 obtain⟨g,cap,rfl,hc,hcm,hg,hca⟩:=h;obtain⟨g2,cap2,rfl,hc2,hcm2,hg2,hcb⟩:=k;have HCA:=Φ hca;have HCB:=Φ hcb;have HA:=Φ ha;have HB:=Φ hb;have HG:=Φ (And.intro hg hg2);have HR0:=Φ (Rd.nil w);have HB0:=Φ ((Below.refl w.heap.size w).alloc (Nat.le_refl _) (.cells #[] 111));clear hca hcb ha hb hg hg2 hc hcm hc2 hcm2;obtain⟨na,hna⟩:∃na,na=a.length:=⟨_,rfl⟩;obtain⟨nb,hnb⟩:∃nb,nb=b.length:=⟨_,rfl⟩;rw [← hna] at hla ⊢;rw [← hnb] at hlb ⊢;have HNA:=Φ hna;have HNB:=Φ hnb;clear hna hnb;go_enter Tryz.func155,Tryz.ntmps155;go_wp2_with fail
 go_loopw [5,6,7] (fun o c i wr=>∃(j cc:Nat) (out:List Nat),j≤max na nb∧i = .int .i64 j∧c = .int .u32 cc∧cc≤1∧out.length=j∧Dig out∧val out+65536 ^ j*cc=val (a.take j)+val (b.take j)∧Rd w.heap.size o out wr∧Below w.heap.size w wr) (fun _ _ i _=>max na nb - (intOf i).toNat)
 case atStart=>exact⟨0,0,[],by omega,rfl,rfl,by omega,rfl,fun x hx=>by simp at hx,by simp [val],HR0.out,HB0.out⟩
 case round=>
  obtain⟨j,cc,out,hj,rfl,rfl,hcc,hol,hd,hv,hr,hb⟩:=hrel;have HR:=Φ hr;have HW:=Φ hb;have HD:=Φ hd;have HV:=Φ hv;have HOL:=Φ hol;clear hr hb hd hv hol HR0 HB0
  by_cases hlt:j<max na nb
  ·have hex:∃x y:Nat,x<65536∧y<65536∧(j<na→wr.cell? ⟨g,j,none⟩=some (.int .u32 (x:Int)))∧(¬j<na→x=0)∧(j<nb→wr.cell? ⟨g2,j,none⟩=some (.int .u32 (y:Int)))∧(¬j<nb→y=0)∧val (a.take (j+1))=val (a.take j)+65536 ^ j*x∧val (b.take (j+1))=val (b.take j)+65536 ^ j*y:=by
    have one:∀(l:List Nat) (g n:Nat),n=l.length→Dig l→g<w.heap.size→(∀i (hi:i<l.length),w.cell? ⟨g,i,none⟩=some (.int .u32 ((l[i]:Nat):Int)))→∃x:Nat,x<65536∧(j<n→wr.cell? ⟨g,j,none⟩=some (.int .u32 (x:Int)))∧(¬j<n→x=0)∧val (l.take (j+1))=val (l.take j)+65536 ^ j*x:=by
     intro l g n hn hd hg hc
     by_cases hjl:j<l.length
     ·exact⟨l[j],hd _ (List.getElem_mem hjl),fun _=>(HW.out.cell (p:=⟨g,j,none⟩) hg).trans (hc j hjl),fun h=>by omega,take_val hjl⟩
     ·refine⟨0,by omega,fun h=>by omega,fun _=>rfl,?_⟩;rw [List.take_of_length_le (by omega),List.take_of_length_le (by omega)];simp
    obtain⟨x,x1,x2,x3,x4⟩:=one a g na HNA.out HA.out HG.out.1 HCA.out;obtain⟨y,y1,y2,y3,y4⟩:=one b g2 nb HNB.out HB.out HG.out.2 HCB.out;exact⟨x,y,x1,y1,x2,x3,y2,y3,x4,y4⟩
   obtain⟨x,y,hx,hy,ix,zx,iy,zy,tx,ty⟩:=hex;have HTX:=Φ tx;have HTY:=Φ ty;clear tx ty;obtain⟨S,hS⟩:∃S,S=cc+x+y:=⟨_,rfl⟩;have HS:Hid (val (out++[S % 65536])+65536 ^ (j+1)*(S / 65536)=val (a.take (j+1))+val (b.take (j+1))):=Φ (by
    rw [val_snoc,HOL.out,HTX.out,HTY.out,Nat.pow_succ,Nat.mul_assoc,Nat.add_assoc,← Nat.mul_add,Nat.mod_add_div,hS]
    have:=HV.out
    rw [Nat.mul_add,Nat.mul_add]
    omega)
   have HD2:Hid (Dig (out++[S % 65536])):=Φ (dig_snoc HD.out (Nat.mod_lt _ (by decide)));have hs16:=and16 S (by omega);have hs2:S / 65536≤1:=by omega
   have hsd:(S:Int) / 65536=((S / 65536:Nat):Int):=by omega
   have hse:(S:Int) % 65536=((S % 65536:Nat):Int):=by omega
   have hsb:S<200000:=by omega
   generalize S % 65536=D at HS HD2 hs16 hse;generalize S / 65536=C at HS hs2 hsd;clear HTX HTY HV HD
   by_cases h1:j<na
   ·have ix':=ix h1;clear ix zx
    by_cases h2:j<nb
    ·have iy':=iy h2;clear iy zy;have hsx:((cc:Int)+x+y)=(S:Int):=by omega
     clear hS;go_wp2_with (at_builtin;refine app_d _ D rfl (.tmp 41) (.tmp 44) rfl rfl rfl rfl HR.out HW.out (by rw [HOL.out];omega) ?_;intro v1 w1 hr hb;have HR2:=Φ hr;have HW2:=Φ hb;clear hr hb)
     go_roundw
     case rel=>exact⟨j+1,C,out++[D],by omega,by go_num,rfl,hs2,by rw [List.length_append,HOL.out];rfl,HD2.out,HS.out,HR2.out,HW2.out⟩
     case measure=>simp [intOf];omega
    ·have y0:=zy h2;have hsx:((cc:Int)+x)=(S:Int):=by omega
     clear hS iy zy y0;go_wp2_with (at_builtin;refine app_d _ D rfl (.tmp 41) (.tmp 44) rfl rfl rfl rfl HR.out HW.out (by rw [HOL.out];omega) ?_;intro v1 w1 hr hb;have HR2:=Φ hr;have HW2:=Φ hb;clear hr hb)
     go_roundw
     case rel=>exact⟨j+1,C,out++[D],by omega,by go_num,rfl,hs2,by rw [List.length_append,HOL.out];rfl,HD2.out,HS.out,HR2.out,HW2.out⟩
     case measure=>simp [intOf];omega
   ·have x0:=zx h1;have h2:j<nb:=by omega
    have iy':=iy h2;have hsx:((cc:Int)+y)=(S:Int):=by omega
    clear hS ix zx iy zy x0;go_wp2_with (at_builtin;refine app_d _ D rfl (.tmp 41) (.tmp 44) rfl rfl rfl rfl HR.out HW.out (by rw [HOL.out];omega) ?_;intro v1 w1 hr hb;have HR2:=Φ hr;have HW2:=Φ hb;clear hr hb)
    go_roundw
    case rel=>exact⟨j+1,C,out++[D],by omega,by go_num,rfl,hs2,by rw [List.length_append,HOL.out];rfl,HD2.out,HS.out,HR2.out,HW2.out⟩
    case measure=>simp [intOf];omega
  ·obtain rfl:j=max na nb:=by omega
   have HVV:Hid (val (out++[cc])=val a+val b):=Φ (by
    have:=HV.out
    rw [List.take_of_length_le (by rw [← HNA.out];omega),List.take_of_length_le (by rw [← HNB.out];omega)] at this;rw [val_snoc,HOL.out];exact this)
   have HDD:Hid (Dig (out++[cc])):=Φ (dig_snoc HD.out (by omega));have h1:¬(max na nb<na):=by omega
   have h2:¬(max na nb<nb):=by omega
   generalize hmx:max na nb=mx at *;have h1':¬((mx:Int)<na):=by omega
   have h2':¬((mx:Int)<nb):=by omega
   go_wp2_with (at_builtin;refine app_d _ cc rfl (.tmp 48) (.tmp 50) rfl rfl rfl rfl HR.out HW.out (by rw [HOL.out];omega) ?_;intro v1 w1 hr hb;have HR2:=Φ hr;have HW2:=Φ hb;clear hr hb);refine(trim_any (out++[cc]) v1 w1 (HR2.out.dr (by simp) (by rw [List.length_append,HOL.out];simp;omega))).mono ?_;rintro e w2 ⟨⟨v2,rfl,hdr⟩,rfl⟩;have HF:Hid (Nr w w1 v2 (val a+val b)):=Φ ⟨⟨_,hdr,trim_dig HDD.out,trim_trim _,by rw [trim_val,HVV.out]⟩,HW2.out⟩;clear hdr;go_wp2_with fail;go_ret;exact⟨_,rfl,HF.out⟩
theorem val_drop (l:List Nat)(n:Nat)(h:n≤l.length): val l=val (l.take n)+65536 ^ n*val (l.drop n):=by
 have:=val_append (l.take n) (l.drop n)
 rwa [List.take_append_drop,List.length_take,Nat.min_eq_left h] at this
theorem Rd.dr0 {B:Nat}{v:Value}{l:List Nat}{w:World}(h:Rd B v l w)(hz:l=[]→v = .slice (some ⟨B,0,none⟩) 0 0)(hlt:B<w.heap.size)(hm:l.length≤10000000000001): Dr w v l:=by
 by_cases ho:l=[]
 ·have h1:=hz ho;subst ho;rw [h1];exact⟨B,0,rfl,Nat.le_refl _,by omega,hlt,fun i hi=>by simp at hi⟩
 ·exact h.dr ho hm
set_option maxHeartbeats 4000000 in
theorem sub_any (a b:List Nat)(ha:Dig a)(hb:Dig b)(hla:a.length≤1000000000000)(hle:val b≤val a)(v u:Value)(w:World)(h:Dr w v a)(k:Dr w u b):
  Calls Tryz.prog 122 #[v,u] w fun e w'=>∃v',e = .returned v'∧Nr w w' v' (val a - val b):=by
 obtain⟨g,cap,rfl,hc,hcm,hg,hca⟩:=h;obtain⟨g2,cap2,rfl,hc2,hcm2,hg2,hcb⟩:=k;have HCA:=Φ hca;have HCB:=Φ hcb;have HA:=Φ ha;have HB:=Φ hb;have HLE:=Φ hle;have HG:=Φ (And.intro hg hg2);have HR0:=Φ (Rd.nil w);have HB0:=Φ ((Below.refl w.heap.size w).alloc (Nat.le_refl _) (.cells #[] 111));have HZ0:Hid (w.heap.size<(w.alloc (.cells #[] 111)).heap.size):=Φ (by simp);clear hca hcb ha hb hg hg2 hc hcm hc2 hcm2 hle;obtain⟨na,hna⟩:∃na,na=a.length:=⟨_,rfl⟩;obtain⟨nb,hnb⟩:∃nb,nb=b.length:=⟨_,rfl⟩;rw [← hna] at hla ⊢;rw [← hnb];have HNA:=Φ hna;have HNB:=Φ hnb;clear hna hnb;go_enter Tryz.func122,Tryz.ntmps122;go_wp2_with fail
 go_loopw [5,6,7] (fun o c i wr=>∃(j cc:Nat) (out:List Nat),j≤na∧i = .int .i64 j∧c = .int .u32 cc∧cc≤1∧out.length=j∧Dig out∧val out+val (b.take j)=val (a.take j)+65536 ^ j*cc∧Rd w.heap.size o out wr∧Below w.heap.size w wr∧(out=[]→o = .slice (some ⟨w.heap.size,0,none⟩) 0 0)∧w.heap.size<wr.heap.size) (fun _ _ i _=>na - (intOf i).toNat)
 case atStart=>exact⟨0,0,[],by omega,rfl,rfl,by omega,rfl,fun x hx=>by simp at hx,by simp [val],HR0.out,HB0.out,fun _=>rfl,HZ0.out⟩
 case round=>
  obtain⟨j,cc,out,hj,rfl,rfl,hcc,hol,hd,hv,hr,hb,hz⟩:=hrel;have HR:=Φ hr;have HW:=Φ hb;have HD:=Φ hd;have HV:=Φ hv;have HOL:=Φ hol;have HZ:=Φ hz;clear hr hb hd hv hol hz HR0 HB0 HZ0
  by_cases hlt:j<na
  ·have hex:∃x y:Nat,x<65536∧y<65536∧wr.cell? ⟨g,j,none⟩=some (.int .u32 (x:Int))∧(j<nb→wr.cell? ⟨g2,j,none⟩=some (.int .u32 (y:Int)))∧(¬j<nb→y=0)∧val (a.take (j+1))=val (a.take j)+65536 ^ j*x∧val (b.take (j+1))=val (b.take j)+65536 ^ j*y:=by
    have hja:j<a.length:=by have:=HNA.out;omega
    by_cases hjb:j<b.length
    ·exact⟨a[j],b[j],HA.out _ (List.getElem_mem hja),HB.out _ (List.getElem_mem hjb),(HW.out.cell (p:=⟨g,j,none⟩) HG.out.1).trans (HCA.out j hja),fun _=>(HW.out.cell (p:=⟨g2,j,none⟩) HG.out.2).trans (HCB.out j hjb),fun h=>by have:=HNB.out;omega,take_val hja,take_val hjb⟩
    ·refine⟨a[j],0,HA.out _ (List.getElem_mem hja),by omega,(HW.out.cell (p:=⟨g,j,none⟩) HG.out.1).trans (HCA.out j hja),fun h=>by have:=HNB.out;omega,fun _=>rfl,take_val hja,?_⟩;rw [List.take_of_length_le (by omega),List.take_of_length_le (by omega)];simp
   obtain⟨x,y,hx,hy,ix,iy,zy,tx,ty⟩:=hex;have HTX:=Φ tx;have HTY:=Φ ty;clear tx ty;obtain⟨S,hS⟩:∃S,S+cc+y=65536+x:=⟨65536+x - cc - y,by omega⟩;have hS2:65536*(S / 65536)+S % 65536=S:=Nat.div_add_mod S 65536;have hs1:S / 65536≤1:=by omega
   obtain⟨C,hC⟩:∃C,C+S / 65536=1:=⟨1 - S / 65536,by omega⟩;have HS:Hid (val (out++[S % 65536])+val (b.take (j+1))=val (a.take (j+1))+65536 ^ (j+1)*C):=Φ (by
    have e:S % 65536+y+cc=x+65536*C:=by omega
    have e2:65536 ^ j*(S % 65536+y+cc)=65536 ^ j*(x+65536*C):=by rw [e]
    rw [Nat.mul_add,Nat.mul_add,Nat.mul_add,← Nat.mul_assoc] at e2;rw [val_snoc,HOL.out,HTX.out,HTY.out,Nat.pow_succ]
    have:=HV.out
    omega)
   have HD2:Hid (Dig (out++[S % 65536])):=Φ (dig_snoc HD.out (Nat.mod_lt _ (by decide)));have hs16:=and16 S (by omega);have hs2:C≤1:=by omega
   have hsd:(S:Int) / 65536=1 - (C:Int):=by omega
   have hse:(S:Int) % 65536=((S % 65536:Nat):Int):=by omega
   have hsf:(1:Int) - (1 - (C:Int))=(C:Int):=by omega
   have hsb:S<200000:=by omega
   clear hS2 hs1 hC;generalize S % 65536=D at HS HD2 hs16 hse;clear HTX HTY HV HD
   by_cases h2:j<nb
   ·have iy':=iy h2;clear iy zy;have hsx:((65536:Int)+x - cc - y)=(S:Int):=by omega
    clear hS;go_wp2_with (at_builtin;refine app_d _ D rfl (.tmp 33) (.tmp 36) rfl rfl rfl rfl HR.out HW.out (by rw [HOL.out];omega) ?_;intro v1 w1 hr hb;have HR2:=Φ hr;have HW2:=Φ hb;clear hr hb);have HZ2:Hid (w.heap.size<w1.heap.size):=Φ (by
     rcases HR2.out.2 with ⟨_,h0⟩ | ⟨g',cap',cur',_,hg',hh',_⟩
     ·simp at h0
     ·have:=(Array.getElem?_eq_some_iff.1 hh').1;omega)
    go_roundw
    case rel=>exact⟨j+1,C,out++[D],by omega,by go_num,rfl,hs2,by rw [List.length_append,HOL.out];rfl,HD2.out,HS.out,HR2.out,HW2.out,fun h=>by simp at h,HZ2.out⟩
    case measure=>simp [intOf];omega
   ·have y0:=zy h2;have hsx:((65536:Int)+x - cc)=(S:Int):=by omega
    clear hS iy zy y0;go_wp2_with (at_builtin;refine app_d _ D rfl (.tmp 33) (.tmp 36) rfl rfl rfl rfl HR.out HW.out (by rw [HOL.out];omega) ?_;intro v1 w1 hr hb;have HR2:=Φ hr;have HW2:=Φ hb;clear hr hb);have HZ2:Hid (w.heap.size<w1.heap.size):=Φ (by
     rcases HR2.out.2 with ⟨_,h0⟩ | ⟨g',cap',cur',_,hg',hh',_⟩
     ·simp at h0
     ·have:=(Array.getElem?_eq_some_iff.1 hh').1;omega)
    go_roundw
    case rel=>exact⟨j+1,C,out++[D],by omega,by go_num,rfl,hs2,by rw [List.length_append,HOL.out];rfl,HD2.out,HS.out,HR2.out,HW2.out,fun h=>by simp at h,HZ2.out⟩
    case measure=>simp [intOf];omega
  ·obtain rfl:j=na:=by omega
   have hout:=val_lt out HD.out;rw [HOL.out] at hout;have HOUT:=Φ hout;clear hout;have HVV:Hid (val out=val a - val b):=Φ (by
    have h1:=HV.out;have h2:=HNA.out;have h3:=val_lt a HA.out;have hout:=HOUT.out;rw [← h2] at h3;rw [List.take_of_length_le (show a.length≤j by omega)] at h1;have h4:=HLE.out;have h5:val (b.take j)=val b:=by
     rcases Nat.lt_or_ge j b.length with hlt | hge
     ·have h6:=val_drop b j (by omega);rcases Nat.eq_zero_or_pos (val (b.drop j)) with h7 | h7
      ·rw [h7] at h6;omega
      ·have h8:65536 ^ j*1≤65536 ^ j*val (b.drop j):=Nat.mul_le_mul_left _ h7;omega
     ·rw [List.take_of_length_le hge]
    rw [h5] at h1;rcases Nat.eq_zero_or_pos cc with h9 | h9
    ·rw [h9] at h1;omega
    ·have:cc=1:=by omega
     rw [this] at h1;omega)
   have HDR:=Φ (HR.out.dr0 HZ.out.1 HZ.out.2 (by rw [HOL.out];omega));go_wp2_with fail;refine(trim_any out _ _ HDR.out).mono ?_;rintro e w2 ⟨⟨v2,rfl,hdr⟩,rfl⟩;have HF:Hid (Nr w wr v2 (val a - val b)):=Φ ⟨⟨_,hdr,trim_dig HD.out,trim_trim _,by rw [trim_val,HVV.out]⟩,HW.out⟩;clear hdr;go_wp2_with fail;go_ret;exact⟨_,rfl,HF.out⟩
def us (l:List Nat): Array Value:=(l.map fun x=>Value.int .u32 ((x:Nat):Int)).toArray
theorem us_set (l:List Nat)(o x:Nat): (us l).setIfInBounds o (.int .u32 ((x:Nat):Int))=us (l.set o x):=by simp [us,List.map_set]
theorem blk_put {w:World}{b:Nat}{cs:Array Value}{T:TypeId}{z:Nat×Nat}(h:w.heap[b]?=some (.cells cs T z))(o:Nat)(v:Value): (w.setCell ⟨b,o,none⟩ v).heap[b]?=some (.cells (cs.setIfInBounds o v) T z):=by
 simp [World.setCell,Array.getElem?_modify,h]
theorem made_us (n:Nat): madeCells (Value.int .u32 0).cells (n*1)=us (List.replicate n 0):=by
 apply Array.ext
 ·simp [us,madeCells]
 ·intro i h1 h2;simp [us,madeCells,Value.cells,Nat.mod_one]
theorem make_us (w:World)(n:Nat)(hn:n≤100000): (Instr.makeSlice 70 (.int .i64 (n:Int)) (.int .i64 (n:Int))).run Tryz.prog w = .ok (.slice (some ⟨w.heap.size,0,none⟩) n n) (w.alloc (.cells (us (List.replicate n 0)) 111)):=by
 obtain⟨i0,hi,hz0,hz1,hz2⟩:=info_parts info75
 have:=run_make (P:=Tryz.prog) w 70 111 i0 (.int .u32 0) Tryz.underlying70 hi hz0 .i64 .i64 n n (by omega) (Int.le_refl _) (by rw [hz2];omega) (by omega)
 rw [hz1] at this;simp only [Int.toNat_natCast] at this;rw [this,made_us]
theorem us_dr {w:World}{g:Nat}{l:List Nat}(h:w.heap[g]?=some (.cells (us l) 111 (0,0)))(hl:l.length≤100000): Dr w (.slice (some ⟨g,0,none⟩) l.length l.length) l:=by
 refine⟨g,l.length,rfl,Nat.le_refl _,by omega,(Array.getElem?_eq_some_iff.1 h).1,fun i hi=>?_⟩;rw [Lib.cell_of_heap h];simp [us,hi]
theorem drop_val {l:List Nat}{i:Nat}(h:i<l.length): val (l.drop i)=l[i]+65536*val (l.drop (i+1)):=by
 rw [List.drop_eq_getElem_cons h,val]
set_option maxHeartbeats 4000000 in
theorem half_any (a:List Nat)(ha:Dig a)(hla:a.length≤100000)(v:Value)(w:World)(h:Dr w v a):
  Calls Tryz.prog 120 #[v] w fun e w'=>∃v',e = .returned v'∧Nr w w' v' (val a / 2):=by
 obtain⟨g,cap,rfl,hc,hcm,hg,hca⟩:=h;have HCA:=Φ hca;have HA:=Φ ha;have HG:=Φ hg;obtain⟨n,hn⟩:∃n,n=a.length:=⟨_,rfl⟩;rw [← hn] at hla ⊢;have HN:=Φ hn;have hmk:=make_us w n hla;have HB0:=Φ ((Below.refl w.heap.size w).alloc (Nat.le_refl _) (.cells (us (List.replicate n 0)) 111));have HH0:Hid ((w.alloc (.cells (us (List.replicate n 0)) 111)).heap[w.heap.size]?=some (.cells (us (List.replicate n 0)) 111 (0,0))):=Φ (Go.heap_alloc_new w _);clear hca ha hg hc hcm hn;go_enter Tryz.func120,Tryz.ntmps120;go_wp2_with fail;clear hmk
 go_loopw [4,5] (fun c i wr=>∃(j cc:Nat) (out:List Nat),j≤n∧i = .int .i64 ((j:Int) - 1)∧c = .int .u32 cc∧cc≤1∧out.length=n∧Dig out∧2*val (out.drop j)+cc=val (a.drop j)∧wr.heap[w.heap.size]?=some (.cells (us out) 111 (0,0))∧Below w.heap.size w wr) (fun _ i _=>(intOf i+1).toNat)
 case atStart=>exact⟨n,0,List.replicate n 0,Nat.le_refl _,rfl,rfl,by omega,by simp,fun x hx=>by rw [List.mem_replicate] at hx;omega,by rw [List.drop_of_length_le (by simp),List.drop_of_length_le (by have:=HN.out;omega)];rfl,HH0.out,HB0.out⟩
 case round=>
  obtain⟨j,cc,out,hj,rfl,rfl,hcc,hol,hd,hv,hh,hb⟩:=hrel;have HH:=Φ hh;have HW:=Φ hb;have HD:=Φ hd;have HV:=Φ hv;have HOL:=Φ hol;clear hh hb hd hv hol HH0 HB0
  by_cases h0:j=0
  ·subst h0;have HVV:Hid (val out=val a / 2):=Φ (by
    have:=HV.out
    rw [List.drop_zero,List.drop_zero] at this
    omega)
   have HDR:=Φ (us_dr HH.out (by rw [HOL.out];exact hla));rw [HOL.out] at HDR;go_wp2_with fail;refine(trim_any out _ _ HDR.out).mono ?_;rintro e w2 ⟨⟨v2,rfl,hdr⟩,rfl⟩;have HF:Hid (Nr w wr v2 (val a / 2)):=Φ ⟨⟨_,hdr,trim_dig HD.out,trim_trim _,by rw [trim_val,HVV.out]⟩,HW.out⟩;clear hdr;go_wp2_with fail;go_ret;exact⟨_,rfl,HF.out⟩
  ·obtain⟨k,rfl⟩:∃k,j=k+1:=⟨j - 1,by omega⟩;have hka:k<a.length:=by have:=HN.out;omega
   have hko:k<out.length:=by rw [HOL.out];omega
   have ia:=(HW.out.cell (p:=⟨g,k,none⟩) HG.out).trans (HCA.out k hka);have io:wr.cell? ⟨w.heap.size,k,none⟩=some (.int .u32 ((out[k]:Nat):Int)):=by
    rw [Lib.cell_of_heap HH.out];simp [us,hko]
   have fo:=Lib.frozen_of_heap HH.out k;have hx:=HA.out _ (List.getElem_mem hka);have e1:((k+1:Nat):Int) - 1=(k:Int):=by omega
   have hda:=drop_val hka;generalize a[k]=x at ia hx hda;generalize out[k]=old at io;obtain⟨S,hS⟩:∃S,S=cc*65536+x:=⟨_,rfl⟩;have hor:bits .or .u32 ((cc:Int)*65536) (x:Int)=(S:Int):=by
    rw [show((cc:Int)*65536)=((cc*65536:Nat):Int) from by omega,u32_or_nat _ _ (by omega) (by omega),nat_join 16 _ _ (by omega) (by omega),hS]
   have hand:bits .and .u32 (S:Int) 1=((S % 2:Nat):Int):=by
    have:=u32_and_nat S 1 (by omega) (by decide)
    rw [show((1:Nat):Int)=1 from rfl,Nat.and_one_is_mod] at this;exact this
   have hsd:(S:Int) / 2=((S / 2:Nat):Int):=by omega
   have hsb:S<131072:=by omega
   have hs2:S % 2≤1:=by omega
   have HS:Hid (2*val ((out.set k (S / 2)).drop k)+S % 2=val (a.drop k)):=Φ (by
    rw [hda,drop_val (by rw [List.length_set];exact hko)];have h1:(out.set k (S / 2)).drop (k+1)=out.drop (k+1):=by rw [List.drop_set_of_lt (by omega)]
    have h2:(out.set k (S / 2))[k]'(by rw [List.length_set];exact hko)=S / 2:=by simp
    rw [h1,h2]
    have:=HV.out
    omega)
   have HD2:Hid (Dig (out.set k (S / 2))):=Φ (fun y hy=>by
    rcases List.mem_or_eq_of_mem_set hy with h | h
    ·exact HD.out y h
    ·omega)
   have HU:Hid ((us out).setIfInBounds k (.int .u32 ((S / 2:Nat):Int))=us (out.set k (S / 2))):=Φ (us_set _ _ _);have HOL2:Hid ((out.set k (S / 2)).length=n):=Φ (by rw [List.length_set];exact HOL.out);clear hS hda HV HD;generalize S / 2=H at hsd HS HD2 HU HOL2;generalize S % 2=C at hand hs2 HS;rw [e1];go_wp2_with fail
   go_roundw
   case rel=>exact⟨k,C,out.set k H,by omega,by go_num,rfl,hs2,HOL2.out,HD2.out,HS.out,(blk_put HH.out k _).trans (by rw [HU.out]),HW.out.setCell (p:=⟨w.heap.size,k,none⟩) (Nat.le_refl _) _⟩
   case measure=>simp [intOf]
end Ref
namespace Ref
open Go.RowKit Go.Proofs.YtpggkfdijmnmiaaGreat.Digits
open Go.Lib renaming hid→Φ
set_option maxHeartbeats 4000000
theorem odd_any (a:List Nat)(ha:Dig a)(v:Value)(w:World)(h:Dr w v a):
  Calls Tryz.prog 119 #[v] w fun e w'=>e = .returned (.bool (decide (val a % 2=1)))∧Sm w w':=by
 obtain⟨g,cap,rfl,hc,hcm,hg,hca⟩:=h;rcases a with _ | ⟨x,a⟩
 ·clear hca;go_enter Tryz.func119,Tryz.ntmps119;go_wp2_with fail;go_ret;exact⟨by simp [val],Sm.refl _⟩
 ·have h0:=hca 0 (by simp);have hx:=ha x (by simp);have hv:val (x::a) % 2=x % 2:=by rw [val];omega
  rw [hv];simp only [List.getElem_cons_zero] at h0;rw [List.length_cons] at hc ⊢;obtain⟨n,hn⟩:∃n,n=a.length:=⟨_,rfl⟩;rw [← hn] at hc ⊢;clear hca ha hv hn;go_enter Tryz.func119,Tryz.ntmps119;go_wp2_with fail;go_ret;refine⟨?_,Sm.refl _⟩;have e:(((x:Nat):Int) % 2 == 1)=decide (x % 2=1):=by
   rw [Bool.eq_iff_iff,beq_iff_eq,decide_eq_true_eq];omega
  rw [← e];rfl
theorem Sm.below0 {w w':World}(h:Sm w w'): Below w.heap.size w w':=h.below (Below.refl w.heap.size w)
theorem Nr.from {w w1 w2:World}{v:Value}{n:Nat}(hb:Below w.heap.size w w1)(h:Nr w1 w2 v n): Nr w w2 v n:=
 ⟨h.row,hb.trans (h.below.mono hb.size)⟩
theorem len_le {r:List Nat}{n:Nat}(ht:Trim r)(h:val r<65536 ^ n): r.length≤n:=by
 by_cases he:r=[]
 ·subst he;simp
 ·have h1:=Nat.lt_of_le_of_lt (val_ge ht he) h;have h2:=(Nat.pow_lt_pow_iff_right (by omega:1<65536)).1 h1;omega
theorem sum_len {a b r:List Nat}{n:Nat}(ha:Dig a)(hb:Dig b)(hla:a.length≤n)(hlb:b.length≤n)(ht:Trim r)(h:val r=val a+val b): r.length≤n+1:=by
 refine len_le ht ?_;have h1:=Nat.lt_of_lt_of_le (val_lt a ha) (Nat.pow_le_pow_right (by omega) hla);have h2:=Nat.lt_of_lt_of_le (val_lt b hb) (Nat.pow_le_pow_right (by omega) hlb);rw [h,Nat.pow_succ];omega
theorem less_any (a b m:List Nat)(ha:Dig a)(hb:Dig b)(hm:Dig m)(hla:a.length≤100000)(hlb:b.length≤100000)(hlm:m.length≤100000)(hle:val b≤val a+val m)(v u z:Value)(w:World)(h:Dr w v a)(k:Dr w u b)(q:Dr w z m):
  Calls Tryz.prog 123 #[v,u,z] w fun e w'=>∃v',e = .returned v'∧Nr w w' v' ((if val a<val b then val a+val m else val a) - val b):=by
 have C1:=cmp_any a b ha hb v u w h k;have A1:=Φ (fun w1 h1 h2=>add_any a m ha hm (by omega) (by omega) v z w1 h1 h2);have S1:=Φ (fun r hr hl hv y w1 h1 h2=>sub_any r b hr hb hl hv y u w1 h1 h2);have HA:=Φ h;have HB:=Φ k;have HM:=Φ q;have HD:=Φ ha;clear h k q
 by_cases hlt:val a<val b
 ·rw [cmpN_lt hlt] at C1;rw [if_pos hlt];have HC1:=Φ C1;have HLE:=Φ hle;obtain⟨R,hR⟩:∃R,R=val a+val m - val b:=⟨_,rfl⟩;rw [← hR];have HR:=Φ hR;clear C1 hR hle hlt;go_enter Tryz.func123,Tryz.ntmps123;go_wp2_with fail;refine HC1.out.mono ?_;rintro e w1 ⟨rfl,s1⟩;have HS1:=Φ s1;clear s1;go_wp2_with fail;refine(A1.out w1 (HA.out.sm HS1.out) (HM.out.sm HS1.out)).mono ?_;rintro e w2 ⟨v2,rfl,hn⟩;obtain⟨⟨r,hr,hrd,hrt,hrv⟩,hb2⟩:=hn;have HSU:=Φ (S1.out r hrd (by have:=sum_len HD.out hm hla hlm hrt hrv;omega) (by rw [hrv];exact HLE.out) v2 w2 hr ((HB.out.sm HS1.out).below hb2));have HB2:=Φ (HS1.out.below0.trans (hb2.mono HS1.out.below0.size));have HRV:=Φ hrv;clear hr hrd hrt hrv hb2;go_wp2_with fail;refine HSU.out.mono ?_;rintro e w3 ⟨v3,rfl,hn⟩;have HN:=Φ hn;clear hn;go_wp2_with fail;go_ret;exact⟨_,rfl,by rw [HR.out,← HRV.out];exact Nr.from HB2.out HN.out⟩
 ·obtain⟨c,hc⟩:∃c,c=cmpN (val a) (val b):=⟨_,rfl⟩;have hc0:0≤c∧c≤1:=by rw [hc];unfold cmpN;rw [if_neg hlt];split<;>omega
  rw [← hc] at C1;rw [if_neg hlt];have HC1:=Φ C1;have HLT:=Φ hlt;obtain⟨R,hR⟩:∃R,R=val a - val b:=⟨_,rfl⟩;rw [← hR];have HR:=Φ hR;clear C1 hR hle hlt hc;go_enter Tryz.func123,Tryz.ntmps123;go_wp2_with fail;refine HC1.out.mono ?_;rintro e w1 ⟨rfl,s1⟩;have HS1:=Φ s1;clear s1;go_wp2_with fail;refine(S1.out a HD.out (by omega) (by have:=HLT.out;omega) v w1 (HA.out.sm HS1.out) (HB.out.sm HS1.out)).mono ?_;rintro e w3 ⟨v3,rfl,hn⟩;have HN:=Φ hn;clear hn;go_wp2_with fail;go_ret;exact⟨_,rfl,by rw [HR.out];exact Nr.from HS1.out.below0 HN.out⟩
theorem halved_any (a m:List Nat)(ha:Dig a)(hm:Dig m)(hla:a.length≤99999)(hlm:m.length≤99999)(v z:Value)(w:World)(h:Dr w v a)(q:Dr w z m):
  Calls Tryz.prog 121 #[v,z] w fun e w'=>∃v',e = .returned v'∧Nr w w' v' ((if val a % 2=1 then val a+val m else val a) / 2):=by
 have C1:=odd_any a ha v w h;have A1:=Φ (fun w1 h1 h2=>add_any a m ha hm (by omega) (by omega) v z w1 h1 h2);have S1:=Φ (fun r hr hl y w1 h1=>half_any r hr hl y w1 h1);have HA:=Φ h;have HM:=Φ q;have HD:=Φ ha;clear h q
 by_cases hlt:val a % 2=1
 ·rw [decide_eq_true hlt] at C1;rw [if_pos hlt];have HC1:=Φ C1;obtain⟨R,hR⟩:∃R,R=(val a+val m) / 2:=⟨_,rfl⟩;rw [← hR];have HR:=Φ hR;clear C1 hR hlt;go_enter Tryz.func121,Tryz.ntmps121;go_wp2_with fail;refine HC1.out.mono ?_;rintro e w1 ⟨rfl,s1⟩;have HS1:=Φ s1;clear s1;go_wp2_with fail;refine(A1.out w1 (HA.out.sm HS1.out) (HM.out.sm HS1.out)).mono ?_;rintro e w2 ⟨v2,rfl,hn⟩;obtain⟨⟨r,hr,hrd,hrt,hrv⟩,hb2⟩:=hn;have HSU:=Φ (S1.out r hrd (by have:=sum_len HD.out hm hla hlm hrt hrv;omega) v2 w2 hr);have HB2:=Φ (HS1.out.below0.trans (hb2.mono HS1.out.below0.size));have HRV:=Φ hrv;clear hr hrd hrt hrv hb2;go_wp2_with fail;refine HSU.out.mono ?_;rintro e w3 ⟨v3,rfl,hn⟩;have HN:=Φ hn;clear hn;go_wp2_with fail;go_ret;exact⟨_,rfl,by rw [HR.out,← HRV.out];exact Nr.from HB2.out HN.out⟩
 ·rw [decide_eq_false hlt] at C1;rw [if_neg hlt];have HC1:=Φ C1;obtain⟨R,hR⟩:∃R,R=val a / 2:=⟨_,rfl⟩;rw [← hR];have HR:=Φ hR;clear C1 hR hlt;go_enter Tryz.func121,Tryz.ntmps121;go_wp2_with fail;refine HC1.out.mono ?_;rintro e w1 ⟨rfl,s1⟩;have HS1:=Φ s1;clear s1;go_wp2_with fail;refine(S1.out a HD.out (by omega) v w1 (HA.out.sm HS1.out)).mono ?_;rintro e w3 ⟨v3,rfl,hn⟩;have HN:=Φ hn;clear hn;go_wp2_with fail;go_ret;exact⟨_,rfl,by rw [HR.out];exact Nr.from HS1.out.below0 HN.out⟩
end Ref
end Go.Proofs.YtpggkfdijmnmiaaGreat
