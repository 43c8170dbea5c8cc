/- A number read from 32 bytes. Condition: fewer than 2 to the  -/
import Derived.Test.YtpggkfdijmnmiaaGreatZw11
set_option linter.unusedVariables false
set_option linter.unusedSimpArgs false
set_option maxRecDepth 100000
namespace Go.Proofs.YtpggkfdijmnmiaaGreat
section
open Go.RowKit Limbs
def eight (x:Nat): List UInt8:=[UInt8.ofNat (x / 72057594037927936),UInt8.ofNat (x / 281474976710656),UInt8.ofNat (x / 1099511627776),UInt8.ofNat (x / 4294967296),UInt8.ofNat (x / 16777216),UInt8.ofNat (x / 65536),UInt8.ofNat (x / 256),UInt8.ofNat (x)]
def nb (a:Nat): List UInt8:=eight (lb a 3)++(eight (lb a 2)++(eight (lb a 1)++eight (lb a 0)))
theorem nb_length (a:Nat): (nb a).length=32:=rfl
def bv (l:List UInt8): Nat:=l.foldl (fun acc b=>acc*256+b.toNat) 0
theorem bv_from:∀(l:List UInt8) (k:Nat),l.foldl (fun acc b=>acc*256+b.toNat) k=k*256 ^ l.length+bv l
 |[],k=>by simp [bv]
 |b::l,k=>by
  have e:bv (b::l)=b.toNat*256 ^ l.length+bv l:=by
   have h:=bv_from l (0*256+b.toNat);rw [Nat.zero_mul,Nat.zero_add] at h;rw [← h];simp [bv]
  rw [List.foldl_cons,bv_from l,e,List.length_cons,Nat.pow_succ,Nat.add_mul,Nat.mul_assoc,Nat.mul_comm 256,Nat.add_assoc]
theorem bv_append (l m:List UInt8): bv (l++m)=bv l*256 ^ m.length+bv m:=by
 rw [bv,List.foldl_append,bv_from];rfl
theorem bv_snoc (l:List UInt8)(b:UInt8): bv (l++[b])=bv l*256+b.toNat:=by
 rw [bv_append];simp [bv]
theorem bv_lt:∀l:List UInt8,bv l<256 ^ l.length
 |[]=>by simp [bv]
 |b::l=>by
  have ih:=bv_lt l;have hb:=b.toNat_lt;have e:=bv_append [b] l;rw [show [b]++l=b::l from rfl,show bv [b]=b.toNat by simp [bv]] at e;rw [e,List.length_cons,Nat.pow_succ,Nat.mul_comm (256 ^ l.length)];have h1:(b.toNat+1)*256 ^ l.length≤256*256 ^ l.length:=Nat.mul_le_mul_right _ (by omega);rw [Nat.add_mul,Nat.one_mul] at h1;omega
theorem bv_inj:∀(l m:List UInt8),l.length=m.length→bv l=bv m→l=m
 |[],m,h,_=>(List.eq_nil_of_length_eq_zero h.symm).symm
 |b::l,c::m,h,e=>by
  have h':l.length=m.length:=by simpa using h
  have e1:=bv_append [b] l;have e2:=bv_append [c] m;rw [show [b]++l=b::l from rfl,show bv [b]=b.toNat by simp [bv]] at e1;rw [show [c]++m=c::m from rfl,show bv [c]=c.toNat by simp [bv]] at e2;have l1:=bv_lt l;have l2:=bv_lt m;rw [← h'] at l2 e2;rw [e1,e2] at e;have hp:0<256 ^ l.length:=Nat.pow_pos (by decide);have d1:(b.toNat*256 ^ l.length+bv l) / 256 ^ l.length=b.toNat:=by rw [Nat.mul_comm,Nat.mul_add_div hp,Nat.div_eq_of_lt l1,Nat.add_zero]
  have d2:(c.toNat*256 ^ l.length+bv m) / 256 ^ l.length=c.toNat:=by rw [Nat.mul_comm,Nat.mul_add_div hp,Nat.div_eq_of_lt l2,Nat.add_zero]
  have hbc:b.toNat=c.toNat:=by rw [← d1,e,d2]
  have hb:b=c:=UInt8.toNat_inj.1 hbc;subst hb;rw [bv_inj l m h' (by omega)]
theorem div_div (x:Nat): x / 65536=x / 256 / 256∧x / 16777216=x / 256 / 256 / 256∧x / 4294967296=x / 256 / 256 / 256 / 256∧x / 1099511627776=x / 256 / 256 / 256 / 256 / 256∧x / 281474976710656=x / 256 / 256 / 256 / 256 / 256 / 256∧x / 72057594037927936=x / 256 / 256 / 256 / 256 / 256 / 256 / 256∧x / 18446744073709551616=x / 256 / 256 / 256 / 256 / 256 / 256 / 256 / 256:=by
 simp only [Nat.div_div_eq_div_mul,Nat.reduceMul,and_self]
theorem eight_val {x:Nat}(h:x<18446744073709551616): bv (eight x)=x:=by
 have h0:x / 18446744073709551616=0:=Nat.div_eq_of_lt h;obtain⟨e1,e2,e3,e4,e5,e6,e7⟩:=div_div x;rw [e7] at h0;simp only [bv,eight,List.foldl_cons,List.foldl_nil,UInt8.toNat_ofNat',Nat.reducePow];rw [e1,e2,e3,e4,e5,e6];clear e1 e2 e3 e4 e5 e6 e7 h;have g1:=Nat.div_add_mod x 256;generalize x % 256=r0 at *;generalize x / 256=x1 at *;have g2:=Nat.div_add_mod x1 256;generalize x1 % 256=r1 at *;generalize x1 / 256=x2 at *;have g3:=Nat.div_add_mod x2 256;generalize x2 % 256=r2 at *;generalize x2 / 256=x3 at *;have g4:=Nat.div_add_mod x3 256;generalize x3 % 256=r3 at *;generalize x3 / 256=x4 at *;have g5:=Nat.div_add_mod x4 256;generalize x4 % 256=r4 at *;generalize x4 / 256=x5 at *;have g6:=Nat.div_add_mod x5 256;generalize x5 % 256=r5 at *;generalize x5 / 256=x6 at *;have g7:=Nat.div_add_mod x6 256;generalize x6 % 256=r6 at *;generalize x6 / 256=x7 at *;have g8:=Nat.div_add_mod x7 256;generalize x7 % 256=r7 at *;generalize x7 / 256=x8 at *;omega
theorem nb_val {a:Nat}(h:a<W256): bv (nb a)=a:=by
 have e:=v4_lb h;unfold nb;rw [bv_append,bv_append,bv_append,eight_val (lb_lt _ _),eight_val (lb_lt _ _),eight_val (lb_lt _ _),eight_val (lb_lt _ _)];have l1:(eight (lb a 0)).length=8:=rfl;have l2:(eight (lb a 1)++eight (lb a 0)).length=16:=rfl;have l3:(eight (lb a 2)++(eight (lb a 1)++eight (lb a 0))).length=24:=rfl;rw [l1,l2,l3];simp only [Nat.reducePow];unfold v4 at e;omega
theorem conv_row {w:World}{b:Nat}{l:List UInt8}{c:Nat}{T:TypeId}{z:Nat×Nat}(h:w.heap[b]?=some (.cells (l.map (fun c=>Value.int .u8 (c.toNat:Int))).toArray T z)):
  (convert 101 9 (.slice (some ⟨b,0,none⟩) l.length c)).run Tryz.prog w = .ok (.string ⟨l.toArray⟩) w:=
 run_convert_bytes_back w 101 9 5 _ c l Tryz.underlying101 Tryz.underlying5 Tryz.underlying9 (fun j hj=>by
  rw [show(⟨b,0,none⟩:Addr).add j=⟨b,j,none⟩ from by unfold Addr.add;split<;>simp_all,Lib.cell_of_heap h];simp [hj])
theorem eight_get (x:Nat): (eight x).map (fun c=>Value.int .u8 (c.toNat:Int))=[.int .u8 ((x:Int) / 72057594037927936 % 256),.int .u8 ((x:Int) / 281474976710656 % 256),.int .u8 ((x:Int) / 1099511627776 % 256),.int .u8 ((x:Int) / 4294967296 % 256),.int .u8 ((x:Int) / 16777216 % 256),.int .u8 ((x:Int) / 65536 % 256),.int .u8 ((x:Int) / 256 % 256),.int .u8 ((x:Int) % 256)]:=by
 simp only [eight,List.map_cons,List.map_nil,UInt8.toNat_ofNat'];have e0:((x / 72057594037927936 % 2 ^ 8:Nat):Int)=(x:Int) / 72057594037927936 % 256:=by omega
 have e1:((x / 281474976710656 % 2 ^ 8:Nat):Int)=(x:Int) / 281474976710656 % 256:=by omega
 have e2:((x / 1099511627776 % 2 ^ 8:Nat):Int)=(x:Int) / 1099511627776 % 256:=by omega
 have e3:((x / 4294967296 % 2 ^ 8:Nat):Int)=(x:Int) / 4294967296 % 256:=by omega
 have e4:((x / 16777216 % 2 ^ 8:Nat):Int)=(x:Int) / 16777216 % 256:=by omega
 have e5:((x / 65536 % 2 ^ 8:Nat):Int)=(x:Int) / 65536 % 256:=by omega
 have e6:((x / 256 % 2 ^ 8:Nat):Int)=(x:Int) / 256 % 256:=by omega
 have e7:((x % 2 ^ 8:Nat):Int)=(x:Int) % 256:=by omega
 rw [e0,e1,e2,e3,e4,e5,e6,e7]
set_option maxHeartbeats 16000000 in
theorem bytes_any (a:Nat)(w:World):
  Calls Tryz.prog 19 #[nv a] w fun e w'=>e = .returned (.string ⟨(nb a).toArray⟩)∧Below w.heap.size w w':=by
 have hc:(convert 101 9 (.slice (some ⟨w.heap.size+1,0,none⟩) 32 32)).run Tryz.prog ((w.alloc (Obj.cells #[.int .u64 (lb a 0:Nat),.int .u64 (lb a 1:Nat),.int .u64 (lb a 2:Nat),.int .u64 (lb a 3:Nat)] 24)).alloc (Obj.cells #[.int .u8 (((lb a 3:Nat):Int) / 72057594037927936 % 256),.int .u8 (((lb a 3:Nat):Int) / 281474976710656 % 256),.int .u8 (((lb a 3:Nat):Int) / 1099511627776 % 256),.int .u8 (((lb a 3:Nat):Int) / 4294967296 % 256),.int .u8 (((lb a 3:Nat):Int) / 16777216 % 256),.int .u8 (((lb a 3:Nat):Int) / 65536 % 256),.int .u8 (((lb a 3:Nat):Int) / 256 % 256),.int .u8 (((lb a 3:Nat):Int) % 256),.int .u8 (((lb a 2:Nat):Int) / 72057594037927936 % 256),.int .u8 (((lb a 2:Nat):Int) / 281474976710656 % 256),.int .u8 (((lb a 2:Nat):Int) / 1099511627776 % 256),.int .u8 (((lb a 2:Nat):Int) / 4294967296 % 256),.int .u8 (((lb a 2:Nat):Int) / 16777216 % 256),.int .u8 (((lb a 2:Nat):Int) / 65536 % 256),.int .u8 (((lb a 2:Nat):Int) / 256 % 256),.int .u8 (((lb a 2:Nat):Int) % 256),.int .u8 (((lb a 1:Nat):Int) / 72057594037927936 % 256),.int .u8 (((lb a 1:Nat):Int) / 281474976710656 % 256),.int .u8 (((lb a 1:Nat):Int) / 1099511627776 % 256),.int .u8 (((lb a 1:Nat):Int) / 4294967296 % 256),.int .u8 (((lb a 1:Nat):Int) / 16777216 % 256),.int .u8 (((lb a 1:Nat):Int) / 65536 % 256),.int .u8 (((lb a 1:Nat):Int) / 256 % 256),.int .u8 (((lb a 1:Nat):Int) % 256),.int .u8 (((lb a 0:Nat):Int) / 72057594037927936 % 256),.int .u8 (((lb a 0:Nat):Int) / 281474976710656 % 256),.int .u8 (((lb a 0:Nat):Int) / 1099511627776 % 256),.int .u8 (((lb a 0:Nat):Int) / 4294967296 % 256),.int .u8 (((lb a 0:Nat):Int) / 16777216 % 256),.int .u8 (((lb a 0:Nat):Int) / 65536 % 256),.int .u8 (((lb a 0:Nat):Int) / 256 % 256),.int .u8 (((lb a 0:Nat):Int) % 256)] 100)) = .ok (.string ⟨(nb a).toArray⟩) _:=
  conv_row (l:=nb a) (c:=32) (b:=w.heap.size+1) (T:=100) (z:=(0,0)) (by
   have hm:(nb a).map (fun c=>Value.int .u8 (c.toNat:Int))=[.int .u8 (((lb a 3:Nat):Int) / 72057594037927936 % 256),.int .u8 (((lb a 3:Nat):Int) / 281474976710656 % 256),.int .u8 (((lb a 3:Nat):Int) / 1099511627776 % 256),.int .u8 (((lb a 3:Nat):Int) / 4294967296 % 256),.int .u8 (((lb a 3:Nat):Int) / 16777216 % 256),.int .u8 (((lb a 3:Nat):Int) / 65536 % 256),.int .u8 (((lb a 3:Nat):Int) / 256 % 256),.int .u8 (((lb a 3:Nat):Int) % 256),.int .u8 (((lb a 2:Nat):Int) / 72057594037927936 % 256),.int .u8 (((lb a 2:Nat):Int) / 281474976710656 % 256),.int .u8 (((lb a 2:Nat):Int) / 1099511627776 % 256),.int .u8 (((lb a 2:Nat):Int) / 4294967296 % 256),.int .u8 (((lb a 2:Nat):Int) / 16777216 % 256),.int .u8 (((lb a 2:Nat):Int) / 65536 % 256),.int .u8 (((lb a 2:Nat):Int) / 256 % 256),.int .u8 (((lb a 2:Nat):Int) % 256),.int .u8 (((lb a 1:Nat):Int) / 72057594037927936 % 256),.int .u8 (((lb a 1:Nat):Int) / 281474976710656 % 256),.int .u8 (((lb a 1:Nat):Int) / 1099511627776 % 256),.int .u8 (((lb a 1:Nat):Int) / 4294967296 % 256),.int .u8 (((lb a 1:Nat):Int) / 16777216 % 256),.int .u8 (((lb a 1:Nat):Int) / 65536 % 256),.int .u8 (((lb a 1:Nat):Int) / 256 % 256),.int .u8 (((lb a 1:Nat):Int) % 256),.int .u8 (((lb a 0:Nat):Int) / 72057594037927936 % 256),.int .u8 (((lb a 0:Nat):Int) / 281474976710656 % 256),.int .u8 (((lb a 0:Nat):Int) / 1099511627776 % 256),.int .u8 (((lb a 0:Nat):Int) / 4294967296 % 256),.int .u8 (((lb a 0:Nat):Int) / 16777216 % 256),.int .u8 (((lb a 0:Nat):Int) / 65536 % 256),.int .u8 (((lb a 0:Nat):Int) / 256 % 256),.int .u8 (((lb a 0:Nat):Int) % 256)]:=by
    unfold nb;rw [List.map_append,List.map_append,List.map_append,eight_get,eight_get,eight_get,eight_get];rfl
   rw [hm];exact Bk.new (by simp))
 simp only [nv,num];generalize lb a 0=A0 at *;generalize lb a 1=A1 at *;generalize lb a 2=A2 at *;generalize lb a 3=A3 at *;generalize nb a=res at *;go_enter Tryz.func19,Tryz.ntmps19;have HC:=Lib.hid hc;clear hc;go_wp2_with fail;refine wp_loop_rounds 33 ?_
 iterate 32 (rw [rounds_succ];go_wp2_with fail)
 rw [rounds_succ];have hc:=HC.out;go_wp2_with fail;go_ret;exact⟨rfl,by go_grown⟩
end
section
open Go.RowKit Limbs
open Go.Lib renaming hid→Φ
def pend (n i:Nat): Nat:=(8 - (n - i) % 8) % 8
theorem pend_next {n i:Nat}(h:i<n): ((n - 1 - i) % 8=0→pend n i=7∧pend n (i+1)=0)∧((n - 1 - i) % 8≠0→pend n (i+1)=pend n i+1∧pend n i<7):=by
 unfold pend;omega
theorem or_byte {x b:Nat}(hx:x<18446744073709551616)(h8:x % 256=0)(hb:b<256): bits .or .u64 (x:Int) (b:Int)=((x+b:Nat):Int):=by
 rw [bits_or_u64_nat x b hx (by omega)]
 congr 1
 have h:=Nat.two_pow_add_eq_or_of_lt (i:=8) (b:=b) (by simpa using hb) (x / 256);have e:2 ^ 8*(x / 256)=x:=by omega
 rw [e] at h;exact h.symm
set_option maxHeartbeats 16000000 in
theorem reduce_any (m:Int)(s:List UInt8)(hs:s.length≤140737488351232)(w:World):
  Calls Tryz.prog 72 #[.int .i64 m,.string ⟨s.toArray⟩] w fun e w'=>e = .returned (nv (bv s % md m))∧Below w.heap.size w w':=by
 have hM:=md_or m;obtain⟨hMW,hM2,hM3,hMp⟩:=md_lt hM;have HM:=Φ (mod_any m);generalize md m=M at *;have HA:=Φ (And.intro hM (And.intro hMW hMp));obtain⟨res,hres⟩:∃z,z=bv s % M:=⟨_,rfl⟩;rw [← hres];have HRES:=Φ hres;clear hres hM hMW hM2 hM3 hMp;have hsz:(⟨s.toArray⟩:ByteArray).size=s.length:=by simp [ByteArray.size]
 have hst:∀i (h:i<s.length),(⟨s.toArray⟩:ByteArray)[i]'(by rw [hsz];exact h)=s[i]:=fun i h=>by simp [ByteArray.getElem_eq_getElem_data]
 obtain⟨S,hS⟩:∃S,S=(⟨s.toArray⟩:ByteArray):=⟨_,rfl⟩;rw [← hS];have hSn:S.size=s.length:=by rw [hS];exact hsz
 have hSi:∀i (h:i<S.size) (h2:i<s.length),S[i]=s[i]:=fun i h h2=>by subst hS;exact hst i h2
 have HS:=Φ hSi;have HN:=Φ (And.intro hSn hs);clear hsz hst hS hSi hSn hs;simp only [nv,num];go_enter Tryz.func72,Tryz.ntmps72;go_wp2_with fail;refine(keep w.heap.size w (HM.out _) (by go_grown) (Nat.le_refl _)).mono ?_;rintro e w1 ⟨rfl,hb,hk⟩;have KR:Hid (Bk 24 w1 w.heap.size cs0):=Φ (Bk.below (Bk.new rfl) hk);have HB:=Φ hb;clear hk hb HM;simp only [nv,num];go_wp2_with fail;have K2R:Hid (Bk 24 ((w1.alloc (.cells #[υ M 0,υ M 1,υ M 2,υ M 3] 24)).alloc (.cells #[.int .u64 0,.int .u64 0,.int .u64 0,.int .u64 0] 24)) w.heap.size cs0):=Φ (Bk.alloc (Bk.alloc KR.out));have K2M:Hid (Bk 24 ((w1.alloc (.cells #[υ M 0,υ M 1,υ M 2,υ M 3] 24)).alloc (.cells #[.int .u64 0,.int .u64 0,.int .u64 0,.int .u64 0] 24)) w1.heap.size (cs4 M)):=Φ (Bk.alloc (Bk.new rfl));have K26:Hid (Bk 24 ((w1.alloc (.cells #[υ M 0,υ M 1,υ M 2,υ M 3] 24)).alloc (.cells #[.int .u64 0,.int .u64 0,.int .u64 0,.int .u64 0] 24)) (w1.heap.size+1) (cs4 0)):=Φ (Bk.new (by simp));have HB2:Hid (Below w.heap.size w ((w1.alloc (.cells #[υ M 0,υ M 1,υ M 2,υ M 3] 24)).alloc (.cells #[.int .u64 0,.int .u64 0,.int .u64 0,.int .u64 0] 24))):=Φ (by have hb:=HB.out;have hs:=hb.size;go_grown);have HNE:Hid (w.heap.size≠w1.heap.size+1∧w1.heap.size≠w1.heap.size+1∧w.heap.size≤w1.heap.size+1):=Φ ⟨by have:=HB.out.size;omega,by omega,by have:=HB.out.size;omega⟩;clear KR HB;generalize ((w1.alloc (.cells #[υ M 0,υ M 1,υ M 2,υ M 3] 24)).alloc (.cells #[.int .u64 0,.int .u64 0,.int .u64 0,.int .u64 0] 24))=wr0 at K2R K2M K26 HB2 ⊢;obtain⟨gM,hgM⟩:∃z,z=w1.heap.size:=⟨_,rfl⟩;obtain⟨g6,hg6⟩:∃z,z=w1.heap.size+1:=⟨_,rfl⟩;rw [← hg6] at K26 HNE ⊢;rw [← hgM] at K2M HNE ⊢;clear hgM hg6
 go_loopw [7,13] (fun L c wr=>∃(i l R:Nat),i≤S.size∧c = .int .i64 (i:Int)∧L = .int .u64 (l:Int)∧l<256 ^ pend S.size i∧R<M∧(R*256 ^ pend S.size i+l) % M=bv (s.take i) % M∧Bk 24 wr w.heap.size cs0∧Bk 24 wr gM (cs4 M)∧Bk 24 wr g6 (cs4 R)∧Below w.heap.size w wr) (fun _ c _=>S.size - (intOf c).toNat)
 case atStart=>exact⟨0,0,0,Nat.zero_le _,rfl,rfl,Nat.pow_pos (by decide),by have:=HA.out.2.2;omega,by simp [bv],K2R.out,K2M.out,K26.out,HB2.out⟩
 case round=>
  clear K2R K2M K26 HB2;obtain⟨i,l,R,hi,rfl,rfl,hl,hR,hv,kr,km,k6,hb⟩:=hrel;have KR:=Φ kr;have KM:=Φ km;have K6:=Φ k6;have HB:=Φ hb;clear kr km k6 hb;have hN:=HN.out
  by_cases hlt:i<S.size
  ·have hix:i<s.length:=by omega
   have hby:=HS.out i hlt hix;obtain⟨b,hbb⟩:∃b,b=s[i].toNat:=⟨_,rfl⟩;have hb256:b<256:=by rw [hbb];exact s[i].toNat_lt
   have hiv:((S[i]).toNat:Int)=(b:Int):=by rw [hby,← hbb]
   have htk:bv (s.take (i+1))=bv (s.take i)*256+b:=by
    rw [List.take_succ_eq_append_getElem hix,bv_snoc,hbb]
   have hpn:=pend_next hlt;have hp7:pend S.size i≤7:=by unfold pend;omega
   have hl8:l*256<18446744073709551616:=by
    have h1:256 ^ pend S.size i≤256 ^ 7:=Nat.pow_le_pow_right (by decide) hp7;have h2:(256:Nat) ^ 7=72057594037927936:=by decide
    omega
   obtain⟨l2,hl2⟩:∃z,z=l*256+b:=⟨_,rfl⟩;have a2:=or_byte (x:=l*256) (b:=b) (by omega) (by omega) hb256;rw [← hl2,show((l*256:Nat):Int)=(l:Int)*256 from by omega] at a2;have hl2W:l2<18446744073709551616:=by omega
   have aw1:IntKind.u64.wrap ((l:Int)*256)=(l:Int)*256:=by rw [IntKind.wrap_u64];omega
   have aw2:IntKind.u64.wrap (b:Int)=(b:Int):=by rw [IntKind.wrap_u64];omega
   have hval:bv (s.take (i+1)) % M=((R*256 ^ pend S.size i+l)*256+b) % M:=by
    rw [htk,← mod_step (bv (s.take i)),← hv,mod_step]
   have HALL:=Φ (And.intro hval (And.intro hl2 (And.intro hl2W (And.intro hl (And.intro hR (And.intro hi (And.intro hlt (And.intro hpn hb256))))))));have hsm:S.size≤140737488351232:=by omega
   by_cases hq:(S.size - 1 - i) % 8=0
   ·have t1:(((S.size:Int) - 1 - (i:Int)) % 8 == 0)=true:=by simp;omega
    have HQ:=Φ (hpn.1 hq);have HC:=Φ (behind_any R l2 M HA.out.1 hR hl2W);obtain⟨R2,hR2⟩:∃z,z=(R*18446744073709551616+l2) % M:=⟨_,rfl⟩;rw [← hR2] at HC;have HR2:=Φ hR2;clear hR2 hq hpn hval hl2 hl2W hl hR hi hv hN hby hbb htk hp7 hl8 hix hb256;simp only [nv,num] at HC;obtain⟨c0,c1,c2,c3⟩:=K6.out.cells;obtain⟨j0,j1,j2,j3⟩:=KM.out.cells;go_wp2_with fail;refine(keep w.heap.size w (HC.out _) HB.out (Nat.le_refl _)).mono ?_;rintro e w2 ⟨rfl,hb,hk⟩;have LR:=Φ (KR.out.below hk);have LM:=Φ (KM.out.below hk);have L6:=Φ (K6.out.below hk);have HB3:=Φ hb;clear hk hb c0 c1 c2 c3 j0 j1 j2 j3 KR KM K6 HB HC;obtain⟨c0,c1,c2,c3⟩:=L6.out.cells;obtain⟨f0,f1,f2,f3⟩:=L6.out.fros;go_wp2_with fail;obtain⟨hval,hl2,hl2W,hl,hR,hi,hlt,hpn,hb256⟩:=HALL.out
    go_roundw
    case rel=>
     refine⟨i+1,0,R2,by omega,by go_num,rfl,Nat.pow_pos (by decide),by rw [HR2.out];exact Nat.mod_lt _ (by have:=HA.out.2.2;omega),?_,Bk.puto HNE.out.1 LR.out,Bk.puto HNE.out.2.1 LM.out,Bk.put L6.out,by have hb:=HB3.out;have h7:=HNE.out.2.2;go_grown⟩;rw [hval,HQ.out.1,HQ.out.2,Nat.pow_zero,Nat.mul_one,Nat.add_zero,HR2.out,Nat.mod_mod,hl2]
     congr 1
     have:(256:Nat) ^ 7=72057594037927936:=by decide
     rw [this];omega
    case measure=>simp [intOf];omega
   ·have t1:(((S.size:Int) - 1 - (i:Int)) % 8 == 0)=false:=by simp;omega
    have HQ:=Φ (hpn.2 hq);clear hq hpn hval hl2 hl2W hl hR hi hv hN hby hbb htk hp7 hl8 hix hb256;go_wp2_with fail;obtain⟨hval,hl2,hl2W,hl,hR,hi,hlt,hpn,hb256⟩:=HALL.out
    go_roundw
    case rel=>
     refine⟨i+1,l2,R,by omega,by go_num,rfl,?_,hR,?_,KR.out,KM.out,K6.out,HB.out⟩
     ·rw [HQ.out.1,Nat.pow_succ,hl2];have h1:(l+1)*256≤256 ^ pend S.size i*256:=Nat.mul_le_mul_right _ hl;omega
     ·rw [hval,HQ.out.1,Nat.pow_succ,hl2]
      congr 1
      rw [Nat.add_mul,Nat.mul_assoc];omega
    case measure=>simp [intOf];omega
  ·obtain rfl:i=S.size:=by omega
   have hp:pend S.size S.size=0:=by unfold pend;omega
   rw [hp,Nat.pow_zero] at hl hv;obtain rfl:l=0:=by omega
   rw [Nat.mul_one,Nat.add_zero,Nat.mod_eq_of_lt hR,List.take_of_length_le (by omega),← HRES.out] at hv;have HV:=Φ hv;clear hp hl hR hv hN hlt hi;obtain⟨c0,c1,c2,c3⟩:=K6.out.cells;obtain⟨j0,j1,j2,j3⟩:=KR.out.cells;obtain⟨f0,f1,f2,f3⟩:=KR.out.fros;go_wp2_with fail;refine ret_cell rfl w.heap.size R rfl (Bk.put KR.out) rfl ⟨by rw [HV.out];rfl,?_⟩;have hb:=HB.out
   go_grown
theorem nb_same {s:List UInt8}{x:Nat}(hx:x<W256)(hs:s.length=32): nb x=s↔bv s=x:=by
 constructor
 ·rintro rfl;exact nb_val hx
 ·intro h;exact bv_inj _ _ (by rw [nb_length,hs]) (by rw [nb_val hx,h])
set_option maxHeartbeats 16000000 in
theorem of_any (m:Int)(s:List UInt8)(hs:s.length≤140737488351232)(w:World):
  Calls Tryz.prog 18 #[.int .i64 m,.string ⟨s.toArray⟩] w fun e w'=>e = .returned (if s.length=32∧bv s<md m then .tuple #[nv (bv s),.int .i64 0] else .tuple #[nv 0,.int .i64 60])∧Below w.heap.size w w':=by
 have hM:=md_or m;obtain⟨hMW,hM2,hM3,hMp⟩:=md_lt hM;have HR:=Φ (reduce_any m s hs);generalize md m=M at *;obtain⟨RV,hRV⟩:∃z,z=if s.length=32∧bv s<M then Value.tuple #[nv (bv s),.int .i64 0] else .tuple #[nv 0,.int .i64 60]:=⟨_,rfl⟩
 rw [← hRV];have HRV:=Φ hRV;clear hRV;have hrW:bv s % M<W256:=Nat.lt_trans (Nat.mod_lt _ (by omega)) hMW;have hmod:bv s % M=bv s↔bv s<M:=⟨fun h=>by rw [← h];exact Nat.mod_lt _ (by omega),fun h=>Nat.mod_eq_of_lt h⟩;have HBY:=Φ (bytes_any (bv s % M))
 by_cases h32:s.length=32
 ·have hsame:=nb_same hrW h32;obtain⟨r,hr⟩:∃z,z=bv s % M:=⟨_,rfl⟩;rw [← hr] at HR HBY hsame hmod;simp only [nv,num] at HR HBY ⊢;have hsz:(⟨s.toArray⟩:ByteArray).size=32:=by simp [ByteArray.size,h32]
  have hSN:(⟨(nb r).toArray⟩:ByteArray)=⟨s.toArray⟩↔bv s=r:=by
   rw [← hsame];constructor
   ·intro h
    injection h with h
    have:=congrArg Array.toList h
    simpa using this
   ·intro h;rw [h]
  generalize (⟨s.toArray⟩:ByteArray)=S at *;generalize (⟨(nb r).toArray⟩:ByteArray)=NB at *;have HX:=Φ (And.intro hSN (And.intro hmod h32));have t1:((S.size:Int) != 32)=false:=by simp [hsz]
  clear hSN hmod h32 hsame hr hrW hs hM hMW hM2 hM3 hMp hsz;go_enter Tryz.func18,Tryz.ntmps18;go_wp2_with fail;refine(keep w.heap.size w (HR.out _) (by go_grown) (Nat.le_refl _)).mono ?_;rintro e w1 ⟨rfl,hb,hk⟩;have KR:Hid (Bk 24 w1 w.heap.size cs0):=Φ (Bk.below (Bk.new rfl) hk);have HB:=Φ hb;clear hk hb;go_wp2_with fail;refine(keep w.heap.size w (HBY.out _) (by have hb:=HB.out;have hs:=hb.size;go_grown) (Nat.le_refl _)).mono ?_;rintro e w2 ⟨rfl,hb,hk⟩;have K2R:=Φ (Bk.below (Bk.alloc KR.out) hk);have K2A:Hid (Bk 24 w2 w1.heap.size (cs4 r)):=Φ (Bk.below (Bk.new rfl) hk);have HB2:=Φ hb;clear hk hb KR HB;obtain⟨j0,j1,j2,j3⟩:=K2R.out.cells;obtain⟨f0,f1,f2,f3⟩:=K2R.out.fros;obtain⟨i0,i1,i2,i3⟩:=K2A.out.cells
  by_cases hNS:NB=S
  ·have HV:Hid (RV = .tuple #[nv r,.int .i64 0]):=Φ (by
    have h1:=HX.out.1.1 hNS;have h2:=HX.out.2.1.1 h1.symm;rw [HRV.out,if_pos ⟨HX.out.2.2,h2⟩,h1])
   have t2:(NB.toList == S.toList)=true:=by rw [hNS];simp
   clear hNS HRV;go_wp2_with fail;refine ret_cell2 rfl w.heap.size r (.int .i64 0) rfl rfl (Bk.put K2R.out) rfl ⟨by rw [HV.out],?_⟩;have hb:=HB2.out
   go_grown
  ·have HV:Hid (RV = .tuple #[nv 0,.int .i64 60]):=Φ (by
    rw [HRV.out,if_neg (fun h=>hNS (HX.out.1.2 (HX.out.2.1.2 h.2).symm))])
   have t2:(NB.toList == S.toList)=false:=by rw [← beq_toListBytes];show(NB.data == S.data)=false;exact beq_eq_false_iff_ne.2 (fun h=>hNS (ByteArray.ext h))
   clear hNS HRV;go_wp2_with fail;refine ret_cell2 rfl w.heap.size 0 (.int .i64 60) rfl rfl (Bk.put K2R.out) rfl ⟨by rw [HV.out],?_⟩;have hb:=HB2.out
   go_grown
 ·have HV:Hid (RV = .tuple #[nv 0,.int .i64 60]):=Φ (by rw [HRV.out,if_neg (fun h=>h32 h.1)]);have t1:(((⟨s.toArray⟩:ByteArray).size:Int) != 32)=true:=by simp [ByteArray.size];omega
  generalize (⟨s.toArray⟩:ByteArray)=S at *;clear HRV h32 hmod hrW hs hM hMW hM2 hM3 hMp HBY HR;go_enter Tryz.func18,Tryz.ntmps18;go_wp2_with fail;refine ret_cell2 rfl w.heap.size 0 (.int .i64 60) rfl rfl (Bk.new rfl) rfl ⟨by rw [HV.out],by go_grown⟩
end
end Go.Proofs.YtpggkfdijmnmiaaGreat
