/- Rows of bytes of the call's own, and an append to one. No co -/
import Derived.Test.YtpggkfdijmnmiaaGreatZw01
import Derived.LoopN
import Derived.Laws.BitsLemmas
import Derived.Deep.AppendLies
import Derived.Deep.QuietTactic
set_option linter.unusedVariables false
set_option linter.unusedSimpArgs false
set_option maxRecDepth 100000
namespace Go.Proofs.YtpggkfdijmnmiaaGreat
namespace Hs
open Go.RowKit
def sixD:List UInt8:=[65,66,67,68,69,70,71,72,73,74,75,76,77,78,79,80,81,82,83,84,85,86,87,88,89,90,97,98,99,100,101,102,103,104,105,106,107,108,109,110,111,112,113,114,115,116,117,118,119,120,121,122,48,49,50,51,52,53,54,55,56,57,45,95]
def six (n:Nat): UInt8:=sixD.getD n 0
def enc (rest bits:Nat): List UInt8→List UInt8
 |[]=>if 0<bits then [six (rest*2 ^ (6 - bits))] else []
 |c::r=>
  let n:=rest*256+c.toNat
  if 4≤bits then six (n / 2 ^ (bits+2))::six (n % 2 ^ (bits+2) / 2 ^ (bits - 4))::enc (n % 2 ^ (bits+2) % 2 ^ (bits - 4)) (bits - 4) r
  else six (n / 2 ^ (bits+2))::enc (n % 2 ^ (bits+2)) (bits+2) r
def b64L (l:List UInt8): List UInt8:=enc 0 0 l
theorem six_at (n:Nat)(h:n<64): (({data:=#[65,66,67,68,69,70,71,72,73,74,75,76,77,78,79,80,81,82,83,84,85,86,87,88,89,90,97,98,99,100,101,102,103,104,105,106,107,108,109,110,111,112,113,114,115,116,117,118,119,120,121,122,48,49,50,51,52,53,54,55,56,57,45,95]}:ByteArray)[n]'h)=six n:=by
 show sixD[n]'h=_
 rw [six,List.getD_eq_getElem?_getD,List.getElem?_eq_getElem h];rfl
theorem ofInt_i64 (a:Nat)(ha:a<9223372036854775808): (BitVec.ofInt 64 (a:Int)).toNat=a:=by
 rw [BitVec.ofInt_natCast,BitVec.toNat_ofNat];exact Nat.mod_eq_of_lt (by omega)
theorem or_add (i a b:Nat)(ha:a<1048576)(hi:i≤8)(hb:b<2 ^ i): bits BinOp.or IntKind.i64 ((a:Int)*((2 ^ i:Nat):Int)) (b:Int)=(a:Int)*((2 ^ i:Nat):Int)+(b:Int):=by
 have h2:2 ^ i≤2 ^ 8:=Nat.pow_le_pow_right (by omega) hi;have h3:a*2 ^ i≤1048576*2 ^ 8:=Nat.mul_le_mul (by omega) h2;have e:a*2 ^ i|||b=a*2 ^ i+b:=by
  rw [Nat.mul_comm];exact(Nat.two_pow_add_eq_or_of_lt hb a).symm
 rw [← Int.natCast_mul]
 show IntKind.i64.wrap ((BitVec.ofInt 64 ((a*2 ^ i:Nat):Int)|||BitVec.ofInt 64 (b:Int)).toNat:Int)=_
 rw [BitVec.toNat_or,ofInt_i64 _ (by omega),ofInt_i64 b (by omega),IntKind.wrap_i64,e];omega
theorem or_256 (a:Nat)(c:UInt8)(ha:a<1048576): bits BinOp.or IntKind.i64 ((a:Int)*256) (c.toNat:Int)=(a:Int)*256+(c.toNat:Int):=or_add 8 a c.toNat ha (by omega) c.toNat_lt
theorem and_mask (i a:Nat)(hi:i≤8)(ha:a<9223372036854775808): bits BinOp.and IntKind.i64 (a:Int) ((2 ^ i - 1:Nat):Int)=((a % 2 ^ i:Nat):Int):=by
 have h2:2 ^ i≤2 ^ 8:=Nat.pow_le_pow_right (by omega) hi;have h3:a % 2 ^ i<2 ^ i:=Nat.mod_lt _ (Nat.two_pow_pos i)
 show IntKind.i64.wrap ((BitVec.ofInt 64 (a:Int)&&&BitVec.ofInt 64 ((2 ^ i - 1:Nat):Int)).toNat:Int)=_
 rw [BitVec.toNat_and,ofInt_i64 a ha,ofInt_i64 _ (by omega),IntKind.wrap_i64,Nat.and_two_pow_sub_one_eq_mod];omega
theorem and_int (i:Nat)(x m:Int)(hi:i≤8)(hm:m=((2 ^ i - 1:Nat):Int))(h0:0≤x)(h1:x<9223372036854775808): bits BinOp.and IntKind.i64 x m=x % ((2 ^ i:Nat):Int):=by
 obtain⟨a,rfl⟩:=Int.eq_ofNat_of_zero_le h0;subst hm;exact and_mask i a hi (by omega)
theorem enc_len (l:List UInt8): ∀rest bits,bits≤5→6*(enc rest bits l).length≤8*l.length+bits+5:=by
 induction l with
 |nil=>
  intro rest bits h;rw [enc]
  split
  ·simp;omega
  ·simp
 |cons c l ih=>
  intro rest bits h;rw [enc]
  split
  ·have:=ih ((rest*256+c.toNat) % 2 ^ (bits+2) % 2 ^ (bits - 4)) (bits - 4) (by omega)
   simp only [List.length_cons];omega
  ·have:=ih ((rest*256+c.toNat) % 2 ^ (bits+2)) (bits+2) (by omega)
   simp only [List.length_cons];omega
theorem drop_one (s:ByteArray)(k:Nat)(h:k<s.size): s.data.toList.drop k=s[k]::s.data.toList.drop (k+1):=by
 rw [List.drop_eq_getElem_cons (by simp;omega)];rfl
set_option maxHeartbeats 2000000 in
set_option maxRecDepth 100000 in
theorem base64_any (s:ByteArray)(w:World)(hs:s.size≤2097152):
  Calls Tryz.prog 134 #[.string s] w fun e w'=>e = .returned (.string ⟨(b64L s.data.toList).toArray⟩)∧Below w.heap.size w w':=by
 go_enter Tryz.func134,Tryz.ntmps134
 go_wp2
 go_loopw [4,5,9] (fun x y i wr=>∃(k r b:Nat) (acc:List UInt8),k≤s.size∧(b=0∧r<1∨b=2∧r<4∨b=4∧r<16)∧acc.length≤2*k∧x = .int .i64 r∧y = .int .i64 b∧i = .int .i64 k∧b64L s.data.toList=acc++enc r b (s.data.toList.drop k)∧Bd w.heap.size acc wr∧Below w.heap.size w wr) (fun _ _ i _=>s.size - (intOf i).toNat)
 case atStart=>exact⟨0,0,0,[],by omega,.inl ⟨rfl,by omega⟩,by simp,rfl,rfl,rfl,rfl,Bd.start w,(Below.refl _ _).alloc (Nat.le_refl _) _⟩
 case round=>
  obtain⟨k,r,b,acc,hk,hrb,hal,rfl,rfl,rfl,hU,hI,hb⟩:=hrel;have HU:=Lib.hid hU;clear hU
  by_cases hlt:k<s.size
  ·have hor:=or_256 r s[k] (by omega);have h8:=s[k].toNat_lt;have ha3:bits BinOp.and IntKind.i64 ((r:Int)*256+(s[k].toNat:Int)) 3=((r:Int)*256+(s[k].toNat:Int)) % 4:=and_int 2 _ _ (by omega) rfl (by omega) (by omega);have ha15:bits BinOp.and IntKind.i64 ((r:Int)*256+(s[k].toNat:Int)) 15=((r:Int)*256+(s[k].toNat:Int)) % 16:=and_int 4 _ _ (by omega) rfl (by omega) (by omega);have ha63:bits BinOp.and IntKind.i64 ((r:Int)*256+(s[k].toNat:Int)) 63=((r:Int)*256+(s[k].toNat:Int)) % 64:=and_int 6 _ _ (by omega) rfl (by omega) (by omega);have ha0:bits BinOp.and IntKind.i64 (((r:Int)*256+(s[k].toNat:Int)) % 64) 0=0:=by
    have:=and_int 0 (((r:Int)*256+(s[k].toNat:Int)) % 64) 0 (by omega) rfl (by omega) (by omega)
    rw [this];omega
   rcases hrb with ⟨rfl,hr⟩ | ⟨rfl,hr⟩ | ⟨rfl,hr⟩
   ·have HS:Hid (enc r 0 (s.data.toList.drop k)=six ((r*256+s[k].toNat) / 4)::enc ((r*256+s[k].toNat) % 4) 2 (s.data.toList.drop (k+1))):=by rw [drop_one s k hlt];rfl
    go_wp2_with (fail);refine wp_loop_rounds 2 ?_;rw [rounds_succ];go_wp2_with (fail);refine(write_b w.heap.size acc _ _ hI (by omega)).mono ?_;rintro e w1 ⟨rfl,h1,b1,_⟩;rw [six_at _ (by omega)] at h1;have hb':=hb.trans b1;go_wp2_with (fail);rw [rounds_succ];go_wp2_with (fail)
    go_roundw
    case rel=>exact⟨k+1,(r*256+s[k].toNat) % 4,2,_,by omega,by omega,by simp;omega,by go_num,by go_num,by go_num,by rw [HU.out,HS.out];simp,h1,hb'⟩
    case measure=>simp [intOf];omega
   ·have HS:Hid (enc r 2 (s.data.toList.drop k)=six ((r*256+s[k].toNat) / 16)::enc ((r*256+s[k].toNat) % 16) 4 (s.data.toList.drop (k+1))):=by rw [drop_one s k hlt];rfl
    go_wp2_with (fail);refine wp_loop_rounds 2 ?_;rw [rounds_succ];go_wp2_with (fail);refine(write_b w.heap.size acc _ _ hI (by omega)).mono ?_;rintro e w1 ⟨rfl,h1,b1,_⟩;rw [six_at _ (by omega)] at h1;have hb':=hb.trans b1;go_wp2_with (fail);rw [rounds_succ];go_wp2_with (fail)
    go_roundw
    case rel=>exact⟨k+1,(r*256+s[k].toNat) % 16,4,_,by omega,by omega,by simp;omega,by go_num,by go_num,by go_num,by rw [HU.out,HS.out];simp,h1,hb'⟩
    case measure=>simp [intOf];omega
   ·have HS:Hid (enc r 4 (s.data.toList.drop k)=six ((r*256+s[k].toNat) / 64)::six ((r*256+s[k].toNat) % 64)::enc 0 0 (s.data.toList.drop (k+1))):=by
     rw [drop_one s k hlt]
     show six _::six (_ % 64 / 1)::enc (_ % 64 % 1) 0 _=_
     rw [Nat.div_one,Nat.mod_one]
    go_wp2_with (fail);refine wp_loop_rounds 3 ?_;rw [rounds_succ];go_wp2_with (fail);refine(write_b w.heap.size acc _ _ hI (by omega)).mono ?_;rintro e w1 ⟨rfl,h1,b1,_⟩;rw [six_at _ (by omega)] at h1;have hb':=hb.trans b1;go_wp2_with (fail);rw [rounds_succ];go_wp2_with (fail);refine(write_b w.heap.size _ _ _ h1 (by simp;omega)).mono ?_;rintro e w2 ⟨rfl,h2,b2,_⟩;go_wp2_with (fail);rw [six_at _ (by omega)] at h2;have hb'':=hb'.trans b2;go_wp2_with (fail);rw [rounds_succ];go_wp2_with (fail)
    go_roundw
    case rel=>exact⟨k+1,0,0,_,by omega,by omega,by simp;omega,by go_num,by go_num,by go_num,by rw [HU.out,HS.out];simp,h2,hb''⟩
    case measure=>simp [intOf];omega
  ·have e:s.data.toList.drop k=[]:=List.drop_of_length_le (by simp;omega);have HE:=Lib.hid e;clear e;rcases hrb with ⟨rfl,hr⟩ | ⟨rfl,hr⟩ | ⟨rfl,hr⟩
   ·go_wp2_with (go_at_call 165;refine(string_b w.heap.size _ _ hI).mono ?_);rintro e w1 ⟨rfl,h1⟩
    go_wp2
    go_ret;refine⟨?_,hb.trans h1⟩;rw [HU.out,HE.out];simp [enc]
   ·have ht:(r:Int)*16<64:=by omega
    go_wp2_with (fail);refine(write_b w.heap.size acc _ _ hI (by omega)).mono ?_;rintro e w1 ⟨rfl,h1,b1,_⟩;rw [six_at _ (by omega)] at h1;go_wp2_with (go_at_call 165;refine(string_b w.heap.size _ _ h1).mono ?_);rintro e w2 ⟨rfl,h2⟩
    go_wp2
    go_ret;refine⟨?_,(hb.trans b1).trans h2⟩;rw [HU.out,HE.out];simp [enc]
   ·have ht:(r:Int)*4<64:=by omega
    go_wp2_with (fail);refine(write_b w.heap.size acc _ _ hI (by omega)).mono ?_;rintro e w1 ⟨rfl,h1,b1,_⟩;rw [six_at _ (by omega)] at h1;go_wp2_with (go_at_call 165;refine(string_b w.heap.size _ _ h1).mono ?_);rintro e w2 ⟨rfl,h2⟩
    go_wp2
    go_ret;refine⟨?_,(hb.trans b1).trans h2⟩;rw [HU.out,HE.out];simp [enc]
theorem ret_intD {k:IntKind}{a b:Int}(h:a=b): Ending.returned (.int k a) = .returned (.int k b):=by rw [h]
def Rw (B:Nat)(v:Value)(l:List UInt8)(w:World): Prop:=w.ownsRow B 5 1 v l.length (Lib.byteCells l)
theorem Rw.snoc {B:Nat}{v:Value}{l:List UInt8}{w:World}{c:UInt8}(h:w.ownsRow B 5 1 v (l.length+1) (Lib.byteCells l++[.int .u8 c.toNat])): Rw B v (l++[c]) w:=by
 unfold Rw;rw [← byteCells_snoc]
 simpa using h
theorem Rw.conv {B:Nat}{v:Value}{l:List UInt8}{w:World}(h:Rw B v l w): (convert 101 9 v).run Tryz.prog w = .ok (.string ⟨l.toArray⟩) w:=by
 rcases h.2 with ⟨rfl,h0⟩ | ⟨g,cap,cur,rfl,hg,hh,_⟩
 ·have:l=[]:=List.eq_nil_of_length_eq_zero h0
  subst this;exact Lib.run_convert_nil_bytes w 101 9 5 _ Tryz.underlying101 Tryz.underlying5 Tryz.underlying9
 ·refine run_convert_bytes_back w 101 9 5 _ cap l Tryz.underlying101 Tryz.underlying5 Tryz.underlying9 (fun j hj=>?_);exact World.ownsRow.cells h (g:=g) rfl j _ (by simp [Lib.byteCells,hj])
theorem Rw.start (w:World): Rw w.heap.size (.slice (some ⟨w.heap.size,0,none⟩) 0 0) [] (w.alloc (.cells #[] 5)):=
 ⟨rfl,.inr ⟨w.heap.size,0,#[],rfl,Nat.le_refl _,heap_alloc_new w _,Nat.le_refl _,Nat.zero_le _,rfl,rfl⟩⟩
theorem Rw.drewN {B:Nat}{v:Value}{l:List UInt8}{w:World}(h:Rw B v l w)(n:Nat): Rw B v l (w.drewN n):=h
theorem Rw.drew {B:Nat}{v:Value}{l:List UInt8}{w:World}(h:Rw B v l w): Rw B v l w.drew:=h
theorem Rw.below {B:Nat}{v:Value}{l:List UInt8}{w w':World}(h:Rw B v l w)(hb:Below w.heap.size w w'): Rw B v l w':=by
 refine⟨h.1,?_⟩;rcases h.2 with hn | ⟨g,cap,cur,hv,hg,hh,rest⟩
 ·exact .inl hn
 ·exact .inr ⟨g,cap,cur,hv,hg,(hb.block _ (blk_lt hh)).trans hh,rest⟩
theorem Rw.alloc {B:Nat}{v:Value}{l:List UInt8}{w:World}(h:Rw B v l w)(o:Obj): Rw B v l (w.alloc o):=h.below ((Below.refl _ _).alloc (Nat.le_refl _) o)
theorem Rw.grown {B:Nat}{v:Value}{l:List UInt8}{w w' W:World}(h:Rw B v l w)(hb:Below B W w)(hg:w.grownBy w' v.ownBlock)(hB:B≤W.heap.size): Below B W w':=
 hb.grown hg (by have:=hb.size;omega) (fun g hk=>(World.ownsRow.lt h g hk).1)
end Hs
end Go.Proofs.YtpggkfdijmnmiaaGreat
