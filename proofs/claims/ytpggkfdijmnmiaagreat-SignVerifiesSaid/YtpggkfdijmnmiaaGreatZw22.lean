/- What Kids answers. Condition: the ring. -/
import Derived.Test.YtpggkfdijmnmiaaGreatZw17
import Derived.Test.YtpggkfdijmnmiaaGreatZw10
import Derived.Test.YtpggkfdijmnmiaaGreatZw07
set_option linter.unusedVariables false
set_option linter.unusedSimpArgs false
set_option maxRecDepth 100000
namespace Go.Proofs.YtpggkfdijmnmiaaGreat
section
open Go.RowKit Limbs
set_option maxHeartbeats 8000000
def kidOf (s:List UInt8): List UInt8:=Hs.b64L ((Hs.macL [107,105,100] s).take 9)
def macOf (s:List UInt8): List UInt8:=Hs.macL [109,97,99] s
def privAt (s:List UInt8): Nat:=if bv s % mN=0 then 1 else bv s % mN
def privOf (s:List UInt8): Nat:=privAt (Hs.macL [107,101,121] s)
theorem macL_len (k s:List UInt8): (Hs.macL k s).length=32:=Hs.mac_length _ _
theorem sclone_any (l:List UInt8)(w:World)(h:l.length≤281474976710656):
  Calls Tryz.prog 79 #[.string ⟨l.toArray⟩] w fun e w'=>e = .returned (.string ⟨l.toArray⟩)∧Below w.heap.size w w':=by
 go_enter Tryz.func79,Tryz.ntmps79;go_wp2_with (fail);refine(Tryz.stringslite_Clone ⟨l.toArray⟩ w (by show l.toArray.size≤_;simpa using h)).mono ?_;rintro e w1 ⟨rfl,b1⟩
 go_wp2
 go_ret;exact⟨rfl,b1⟩
theorem priv_any (s:List UInt8)(hs:s.length≤140737488351232)(w:World): Calls Tryz.prog 135 #[.string ⟨s.toArray⟩] w fun e w'=>e = .returned (nv (privAt s))∧Below w.heap.size w w':=by
 have hr:=reduce_any 1 s hs;rw [show md 1=mN by unfold md;rw [if_neg (by decide)]] at hr;have hlt:bv s % mN<W256:=Nat.lt_trans (Nat.mod_lt _ (by decide)) (show mN<W256 by decide);obtain⟨r,hre⟩:∃r,r=bv s % mN:=⟨_,rfl⟩;have hpv:privAt s=if r=0 then 1 else r:=by rw [hre];rfl
 rw [hpv];rw [← hre] at hr hlt;have HR:=Lib.hid hr;have HZ:Hid (∀w,(Op.equalIn 10000 24 (.agg #[υ r 0,υ r 1,υ r 2,υ r 3]) (.agg #[.int .u64 0,.int .u64 0,.int .u64 0,.int .u64 0])).run Tryz.prog w = .ok (decide (r=0)) w):=Lib.hid fun w=>eqN r 0 hlt (by decide) w
 clear hr hre hlt hpv hs;have h1:nv 1 = .agg #[.int .u64 1,.int .u64 0,.int .u64 0,.int .u64 0]:=rfl;have hz:=HZ.out
 by_cases h0:r=0
 ·rw [decide_eq_true h0] at hz;rw [if_pos h0,h1];clear h0;simp only [nv,num] at HR;go_enter Tryz.func135,Tryz.ntmps135;go_wp2_with fail;refine(keep w.heap.size w (HR.out _) (by go_grown) (Nat.le_refl _)).mono ?_;rintro e w1 ⟨rfl,hb,hk⟩;have KR:Bk 24 w1 w.heap.size cs0:=Bk.below (Bk.new rfl) hk;obtain⟨f0,f1,f2,f3⟩:=KR.frosA;obtain⟨j0,j1,j2,j3⟩:=KR.cellsA;go_wp2_with fail;refine ret_cell rfl w.heap.size 1 rfl (Bk.put KR.alloc) rfl ⟨by rw [h1],?_⟩;have hs:=hb.size
  go_grown
 ·rw [decide_eq_false h0] at hz;rw [if_neg h0];clear h0;simp only [nv,num] at HR ⊢;go_enter Tryz.func135,Tryz.ntmps135;go_wp2_with fail;refine(keep w.heap.size w (HR.out _) (by go_grown) (Nat.le_refl _)).mono ?_;rintro e w1 ⟨rfl,hb,hk⟩;have KR:Bk 24 w1 w.heap.size cs0:=Bk.below (Bk.new rfl) hk;obtain⟨f0,f1,f2,f3⟩:=KR.frosA;obtain⟨j0,j1,j2,j3⟩:=KR.cellsA;go_wp2_with fail;refine ret_cell rfl w.heap.size r rfl (Bk.put KR.alloc) rfl ⟨rfl,?_⟩;have hs:=hb.size
  go_grown
theorem bthen {w w1 w2:World}(h:Below w.heap.size w w1)(h2:Below w1.heap.size w1 w2): Below w.heap.size w w2:=h.trans (h2.mono h.size)
theorem ba_take (l:List UInt8)(n:Nat): (⟨l.toArray⟩:ByteArray).extract 0 n=⟨(l.take n).toArray⟩:=by
 apply ByteArray.ext
 simp [ByteArray.data_extract]
def keyC (s:List UInt8): Array Value:=#[.string ⟨s.toArray⟩,.string ⟨(kidOf s).toArray⟩,.string ⟨(macOf s).toArray⟩,.int .u64 (lb (privOf s) 0:Nat),.int .u64 (lb (privOf s) 1:Nat),.int .u64 (lb (privOf s) 2:Nat),.int .u64 (lb (privOf s) 3:Nat),.int .u32 0,.int .i32 0,.int .u32 0,.int .u64 0,.int .u64 0,.int .u64 0,.int .u64 0,.int .u64 0,.int .u64 0,.int .u64 0,.int .u64 0,.bool false]
theorem newKey_any (s:List UInt8)(hs:s.length≤140737488351232)(w:World): Calls Tryz.prog 74 #[.string ⟨s.toArray⟩] w fun e w'=>∃g,e = .returned (.pointer (some ⟨g,0,none⟩))∧w.heap.size≤g∧Bk 121 w' g (keyC s)∧Below w.heap.size w w':=by
 have HC:=Lib.hid (fun w=>sclone_any s w (by omega));have HM1:=Lib.hid (fun w=>Hs.Mac_any [107,105,100] s (by decide) (by omega) w);have HM2:=Lib.hid (fun w=>Hs.Mac_any [109,97,99] s (by decide) (by omega) w);have HM3:=Lib.hid (fun w=>Hs.Mac_any [107,101,121] s (by decide) (by omega) w);have HP:=Lib.hid (priv_any (Hs.macL [107,101,121] s) (by rw [macL_len];decide));have HB:Hid (∀w,Calls Tryz.prog 134 #[.string ⟨((Hs.macL [107,105,100] s).take 9).toArray⟩] w fun e w'=>e = .returned (.string ⟨(Hs.b64L ((Hs.macL [107,105,100] s).take 9)).toArray⟩)∧Below w.heap.size w w'):=Lib.hid fun w=>Hs.base64_any ⟨((Hs.macL [107,105,100] s).take 9).toArray⟩ w (by show((Hs.macL [107,105,100] s).take 9).toArray.size≤_;simp [macL_len])
 have hl1:=macL_len [107,105,100] s;obtain⟨m1,hm1⟩:∃m,m=Hs.macL [107,105,100] s:=⟨_,rfl⟩;have hkid:kidOf s=Hs.b64L (m1.take 9):=by rw [hm1];rfl
 have hmac:macOf s=Hs.macL [109,97,99] s:=rfl;have hprv:privOf s=privAt (Hs.macL [107,101,121] s):=rfl;unfold keyC;rw [hkid,hmac,hprv];rw [← hm1] at HM1 HB hl1;generalize Hs.macL [109,97,99] s=m2 at *;generalize Hs.macL [107,101,121] s=m3 at *;generalize privAt m3=pv at *;clear hkid hmac hprv hm1 hs;simp only [nv,num] at HP;go_enter Tryz.func74,Tryz.ntmps74;go_wp2_with fail;refine(HC.out w).mono ?_;rintro e w1 ⟨rfl,hb1⟩;go_wp2_with fail;refine(HM1.out w1).mono ?_;rintro e w2 ⟨rfl,hb2⟩;have hsz:(9:Nat)≤m1.length:=by rw [hl1];decide
 go_wp2_with fail;rw [ba_take];refine(HB.out w2).mono ?_;rintro e w3 ⟨rfl,hb3⟩;go_wp2_with fail;refine(HM2.out w3).mono ?_;rintro e w4 ⟨rfl,hb4⟩;go_wp2_with fail;refine(HM3.out w4).mono ?_;rintro e w5 ⟨rfl,hb5⟩;go_wp2_with fail;refine(HP.out w5).mono ?_;rintro e w6 ⟨rfl,hb6⟩;have hb:Below w.heap.size w w6:=bthen (bthen (bthen (bthen (bthen hb1 hb2) hb3) hb4) hb5) hb6;clear hb1 hb2 hb3 hb4 hb5 hb6;go_wp2_with fail;go_returns;refine⟨_,rfl,hb.size,Bk.new rfl,?_⟩;have hs:=hb.size
 go_grown
def kpt (g:Nat): Value:= .pointer (some ⟨g,0,none⟩)
def Rg (B:Nat)(w:World)(r:Nat)(ks:List (Nat×List UInt8)): Prop:=
 ∃a c,Bk 107 w r #[.slice (some ⟨a,0,none⟩) ks.length c]∧w.ownsRow B 103 1 (.slice (some ⟨a,0,none⟩) ks.length c) ks.length (ks.map fun k=>kpt k.1)∧∀k∈ks,Bk 121 w k.1 (keyC k.2)
theorem own_below {B:Nat}{T:TypeId}{z n:Nat}{v:Value}{l:List Value}{w w':World}(h:w.ownsRow B T z v n l)(hb:Below w.heap.size w w'): w'.ownsRow B T z v n l:=by
 refine⟨h.1,?_⟩;rcases h.2 with hn | ⟨g,cap,cur,hv,hg,hh,rest⟩
 ·exact .inl hn
 ·exact .inr ⟨g,cap,cur,hv,hg,(hb.block _ ((Array.getElem?_eq_some_iff.1 hh).1)).trans hh,rest⟩
theorem Rg.below {B:Nat}{w w':World}{r:Nat}{ks:List (Nat×List UInt8)}(h:Rg B w r ks)(hb:Below w.heap.size w w'): Rg B w' r ks:=by
 obtain⟨a,c,h1,h2,h3⟩:=h;exact⟨a,c,h1.below hb,own_below h2 hb,fun k hk=>(h3 k hk).below hb⟩
def findK:List (Nat×List UInt8)→List UInt8→Option Nat
 |[],_=>none
 |k::ks,n=>if kidOf k.2=n then some k.1 else findK ks n
def fV:Option Nat→Value
 |none=> .pointer none
 |some g=>kpt g
theorem findK_drop (n:List UInt8): ∀(ks:List (Nat×List UInt8)) (i:Nat),(∀j (h:j<i) (h2:j<ks.length),kidOf (ks[j]).2≠n)→findK ks n=findK (ks.drop i) n
 |[],i,_=>by simp
 |k::ks,0,_=>rfl
 |k::ks,i+1,h=>by
  have h0:=h 0 (by omega) (by simp);rw [findK,if_neg (show ¬kidOf k.2=n from h0),findK_drop n ks i (fun j hj h2=>h (j+1) (by omega) (by simpa using h2))];rfl
theorem find_any {B:Nat}{w:World}{r:Nat}{ks:List (Nat×List UInt8)}(h:Rg B w r ks)(hl:ks.length≤1000000)(n:List UInt8): Calls Tryz.prog 75 #[kpt r,.string ⟨n.toArray⟩] w fun e w'=>e = .returned (fV (findK ks n))∧w=w':=by
 obtain⟨a,c,h1,h2,h3⟩:=h;have hc:w.cell? ⟨r,0,none⟩=some (.slice (some ⟨a,0,none⟩) ks.length c):=h1.cell 0;have HR:=Lib.hid h2;have HK:=Lib.hid h3;clear h1 h2 h3;unfold kpt;go_enter Tryz.func75,Tryz.ntmps75;go_wp2_with fail
 go_loopw [12] (fun iv wr=>∃i:Nat,i≤ks.length∧iv = .int .i64 (i:Int)∧wr=w∧∀j (h:j<i) (h2:j<ks.length),kidOf (ks[j]).2≠n) (fun iv _=>ks.length - (intOf iv).toNat)
 case atStart=>exact⟨0,Nat.zero_le _,rfl,rfl,fun j h=>by omega⟩
 case round=>
  obtain⟨i,hi,rfl,rfl,hne⟩:=hrel
  by_cases hlt:i<ks.length
  ·obtain⟨k,hk⟩:∃k,ks[i]'hlt=k:=⟨_,rfl⟩;have hkm:k∈ks:=hk▸List.getElem_mem hlt;have K1:=HK.out k hkm;have c1:=K1.cell 1;unfold keyC at c1;simp only [List.getElem?_toArray,List.getElem?_cons_succ,List.getElem?_cons_zero] at c1;have c0:wr.cell? ⟨a,i,none⟩=some (.pointer (some ⟨k.1,0,none⟩)):=by
    have:=HR.out.cells (g:=a) rfl i (kpt k.1) (by rw [List.getElem?_map,List.getElem?_eq_getElem hlt,hk];rfl)
    by_cases h0:i=0
    ·subst h0;simpa [Addr.add,kpt] using this
    ·simpa [Addr.add,h0,kpt] using this
   have hltI:(i:Int)<(ks.length:Int):=by omega
   have HNE:=Lib.hid hne;have HKI:=Lib.hid hk;clear hne hk K1
   by_cases hq:kidOf k.2=n
   ·have hb:(kidOf k.2 == n)=true:=by simp [hq]
    have HF:Hid (findK ks n=some k.1):=Lib.hid (by rw [findK_drop n ks i HNE.out,List.drop_eq_getElem_cons hlt,HKI.out,findK,if_pos hq]);clear hq;go_wp2_with fail;go_returns;rw [HF.out];exact⟨rfl,rfl⟩
   ·have hb:(kidOf k.2 == n)=false:=by simp [hq]
    have HQ:=Lib.hid hq;clear hq;go_wp2_with fail
    go_roundw
    case rel=>exact⟨i+1,by omega,by go_num,trivial,fun j hj h2=>by
     rcases Nat.lt_succ_iff_lt_or_eq.1 hj with h1 | rfl
     ·exact HNE.out j h1 h2
     ·rw [HKI.out];exact HQ.out⟩
    case measure=>simp [intOf];omega
  ·have hie:i=ks.length:=by omega
   have hltI:decide ((i:Int)<(ks.length:Int))=false:=decide_eq_false (by omega);have HF:Hid (findK ks n=none):=Lib.hid (by rw [findK_drop n ks i hne,hie,List.drop_length];rfl);clear hne;go_wp2_with fail;go_returns;rw [HF.out];exact⟨rfl,rfl⟩
theorem Rg.last {B:Nat}{w:World}{r:Nat}{ks:List (Nat×List UInt8)}{k:Nat×List UInt8}(h:Rg B w r (ks++[k])): ∃a c,w.cell? ⟨r,0,none⟩=some (.slice (some ⟨a,0,none⟩) (ks.length+1) c)∧w.cell? ⟨a,ks.length,none⟩=some (.pointer (some ⟨k.1,0,none⟩)):=by
 obtain⟨a,c,h1,h2,h3⟩:=h;rw [List.length_append] at h1 h2;refine⟨a,c,h1.cell 0,?_⟩
 have:=h2.cells (g:=a) rfl ks.length (kpt k.1) (by simp)
 by_cases h0:ks.length=0
 ·rw [h0] at this ⊢;simpa [Addr.add,kpt] using this
 ·simpa [Addr.add,h0,kpt] using this
theorem newest_any {B:Nat}{w:World}{r:Nat}{ks:List (Nat×List UInt8)}{k:Nat×List UInt8}(h:Rg B w r (ks++[k]))(hl:ks.length≤1000000): Calls Tryz.prog 78 #[kpt r] w fun e w'=>e = .returned (kpt k.1)∧Below w.heap.size w w':=by
 obtain⟨a,c,c0,c1⟩:=h.last;clear h;generalize ks.length=m at *;have hi1:(m:Int)<((m:Int)+1):=by omega
 have hw:IntKind.i64.wrap ((m:Int)+1 - 1)=(m:Int):=by rw [show(m:Int)+1 - 1=(m:Int) by omega];exact IntWalk.i64_in _ (by omega)
 unfold kpt;go_enter Tryz.func78,Tryz.ntmps78;go_wp2_with fail
 go_quiet (fail);go_wp2_with fail;go_returns;exact⟨rfl,rfl,rfl,rfl,Nat.le_refl _,fun _ _=>rfl⟩
theorem newRing_any (s:List UInt8)(hs:s.length≤140737488351232)(w:World): Calls Tryz.prog 21 #[.string ⟨s.toArray⟩] w fun e w'=>∃r g,e = .returned (kpt r)∧Rg w.heap.size w' r [(g,s)]∧Below w.heap.size w w'∧w.heap.size≤r:=by
 have HK:=Lib.hid (newKey_any s hs w);clear hs;go_enter Tryz.func21,Tryz.ntmps21;go_wp2_with fail;refine HK.out.mono ?_;rintro e w1 ⟨g,rfl,hg,hk,hb⟩;clear HK;go_wp2_with fail;go_returns;have hbn:Below w1.heap.size w1 ((w1.alloc (.cells #[.pointer (some ⟨g,0,none⟩)] 103)).alloc (.cells #[.slice (some ⟨w1.heap.size,0,none⟩) 1 1] 107)):=by go_grown
 refine⟨_,g,rfl,⟨w1.heap.size,1,Bk.new (by simp),⟨rfl,.inr ⟨w1.heap.size,1,#[.pointer (some ⟨g,0,none⟩)],rfl,hb.size,Bk.alloc (Bk.new rfl),by simp,by unfold maxLen;omega,rfl,rfl⟩⟩,fun k hk2=>?_⟩,hb.trans (hbn.mono hb.size),by have:=hb.size;omega⟩;rw [List.mem_singleton] at hk2;subst hk2;exact hk.below hbn
theorem rmac_any {B:Nat}{w:World}{r:Nat}{ks:List (Nat×List UInt8)}{k:Nat×List UInt8}(h:Rg B w r (ks++[k]))(hl:ks.length≤1000000)(hk:k.2.length≤140737488351232)(s:List UInt8)(hs:s.length≤140737488351232): Calls Tryz.prog 24 #[kpt r,.string ⟨s.toArray⟩] w fun e w'=>e = .returned (.tuple #[.string ⟨(kidOf k.2).toArray⟩,.string ⟨(Hs.macL (macOf k.2) s).toArray⟩])∧Below w.heap.size w w':=by
 have HN:=Lib.hid (newest_any h hl);obtain⟨a,c,h1,h2,h3⟩:=h;have K1:=Lib.hid (h3 k (by simp));have hkl:(kidOf k.2).length≤281474976710656:=by
  unfold kidOf
  have:=Hs.enc_len ((Hs.macL [107,105,100] k.2).take 9) 0 0 (by decide)
  have h9:((Hs.macL [107,105,100] k.2).take 9).length≤9:=by simp;omega
  unfold Hs.b64L;omega
 have HC:=Lib.hid (fun w=>sclone_any (kidOf k.2) w hkl);have hml:(macOf k.2).length=32:=macL_len _ _;have HM:=Lib.hid (fun w=>Hs.Mac_any (macOf k.2) s (by omega) (by omega) w);clear h1 h2 h3 hkl hml hk hs;unfold kpt at HN ⊢;go_enter Tryz.func24,Tryz.ntmps24;go_wp2_with fail;refine HN.out.mono ?_;rintro e w1 ⟨rfl,hb1⟩;have K2:=K1.out.below hb1;obtain⟨g,sd⟩:=k;have c1:=fun d os=>(K2.regrown d os).cell 1
 have c2:=fun d os=>(K2.regrown d os).cell 2
 unfold keyC at c1 c2;simp only [List.getElem?_toArray,List.getElem?_cons_succ,List.getElem?_cons_zero] at c1 c2;simp only at HC HM c1 c2 ⊢;go_wp2_with fail;refine wp_region_quiet_below mixed (by kernel_rfl) ?_
 repeat (first | go_big_quiet_step (first | exact qg HC.out | exact qg HM.out) | quiet_step (first | exact qg HC.out | exact qg HM.out))
 refine wpQuiet_nil ?_;intro _ hw';obtain⟨⟨dq,osq⟩,hw''⟩:=hw';subst hw'';go_wp2_with fail;go_returns;exact⟨rfl,hb1.trans ((below_regrown w1 dq osq).mono hb1.size)⟩
end
section
open Go.RowKit Limbs
open Go.Lib renaming hid→Φ
set_option maxHeartbeats 8000000
theorem infoKey:(Tryz.prog.info? 103).map (fun i=>(i.zero,i.size,i.bytes))=some (some (.pointer none),1,8):=by kernel_rfl
theorem appk {ops:Array Oper}{rest:List Oper}{o:Oper}{a:Act}{Q:Exit→Act→World→Prop}{w:World}{B:Nat}{v:Value}{n:Nat}{l:List Value}(g:Nat)(s x:Operand)(hgd:o.guard=none)
  (ho:o.op = .call {callee:= .builtin .append,args:=#[s,x],argTypes:=#[105,105]}) (hs:a.eval s=v) (hx:a.eval x = .slice (some ⟨w.heap.size,0,none⟩) 1 1)
  (hI:w.ownsRow B 103 1 v n l) (hB:B≤w.heap.size) (hlen:n≤1000000)
  (h:∀v' w',w'.ownsRow B 103 1 v' (n+1) (l++[kpt g])→(w.alloc (.cells #[kpt g] 103)).grownBy w' v.ownBlock→wpList Tryz.prog ops Q rest (a.put o.dst v') w'):wpList Tryz.prog ops Q (o::rest) a (w.alloc (.cells #[kpt g] 103)):=by
 obtain⟨i0,hi,hz0,hz1,hz2⟩:=info_parts infoKey;refine wpList_append_own _ hgd s x 105 ho B 103 i0 (.pointer none) 1 8 Tryz.underlying105 hi hz0 hz1 hz2 rfl (by decide) v n _ hs (hI.alloc _) ⟨w.heap.size,0,none⟩ 1 1 [kpt g] hx rfl (World.news_of_block (heap_alloc_new w _)) (by simp [Value.oneCell',kpt]) (by unfold maxLen;omega) (by omega) (by simp;omega) ?_;intro v' w' h1 h2 _;exact h v' w' h1 h2
theorem bk_ne {t u:TypeId}{w:World}{g h:Nat}{cs ds:Array Value}(a:Bk t w g cs)(b:Bk u w h ds)(hn:t≠u): g≠h:=fun e=>by
 subst e;have h2:=a.symm.trans b
 injection h2 with h3
 injection h3 with h4 h5
 exact hn h5
theorem own_slice {B n:Nat}{w:World}{v:Value}{l:List Value}{T:TypeId}{z:Nat}(h:w.ownsRow B T z v (n+1) l): ∃a c,v = .slice (some ⟨a,0,none⟩) (n+1) c:=by
 rcases h.2 with ⟨_,h0⟩ | ⟨g',cap,cur',hx,_⟩
 ·omega
 ·exact⟨g',cap,hx⟩
theorem ring_keep {B:Nat}{w w2:World}{r g a n c:Nat}{l:List Value}{v:Value}(h1:Bk 107 w r #[v])(h2:w.ownsRow B 103 1 (.slice (some ⟨a,0,none⟩) n c) n l)(hG:(w.alloc (.cells #[kpt g] 103)).grownBy w2 (some a)): Bk 107 w2 r #[v]:=by
 have ha:∃cur,Bk 103 w a cur:=by
  rcases h2.2 with ⟨hx,_⟩ | ⟨g',cap,cur,hx,_,hh,_⟩
  ·cases hx
  ·cases hx
   exact⟨cur,hh⟩
 obtain⟨cur,ha⟩:=ha;have hne:=bk_ne h1 ha (by decide);have h':Bk 107 (w.alloc (.cells #[kpt g] 103)) r #[v]:=Bk.alloc h1;exact(hG.block r (by have:=(Array.getElem?_eq_some_iff.1 h1).1;simp;omega) (fun e=>hne (by injection e))).trans h'
theorem Rg.push {B:Nat}{w w2:World}{r g a c:Nat}{ks:List (Nat×List UInt8)}{s:List UInt8}{v':Value}(h1:Bk 107 w r #[.slice (some ⟨a,0,none⟩) ks.length c])(h2:w.ownsRow B 103 1 (.slice (some ⟨a,0,none⟩) ks.length c) ks.length (ks.map fun k=>kpt k.1))(h3:∀k∈ks,Bk 121 w k.1 (keyC k.2))(hg:Bk 121 w g (keyC s))
  (hv:w2.ownsRow B 103 1 v' (ks.length+1) ((ks.map fun k=>kpt k.1)++[kpt g])) (hG:(w.alloc (.cells #[kpt g] 103)).grownBy w2 (some a)) (hr:B≤r) :
  Rg B (w2.setCell ⟨r,0,none⟩ v') r (ks++[(g,s)]):=by
 have ha:∃cur,Bk 103 w a cur:=by
  rcases h2.2 with ⟨hx,_⟩ | ⟨g',cap,cur,hx,_,hh,_⟩
  ·cases hx
  ·cases hx
   exact⟨cur,hh⟩
 obtain⟨cur,ha⟩:=ha;have hlt:∀ {t:TypeId} {x:Nat} {cs:Array Value},Bk t w x cs→x<(w.alloc (.cells #[kpt g] 103)).heap.size:=fun h=>by
  have:=(Array.getElem?_eq_some_iff.1 h).1
  simp;omega
 have keep2:∀ {t:TypeId} {x:Nat} {cs:Array Value},Bk t w x cs→x≠a→Bk t w2 x cs:=fun {t x cs} h hne=>by
  have h':Bk t (w.alloc (.cells #[kpt g] 103)) x cs:=Bk.alloc h;exact(hG.block x (hlt h) (fun e=>hne (by injection e))).trans h'
 have hR:=keep2 h1 (bk_ne h1 ha (by decide));obtain⟨a',c',rfl⟩:∃a' c',v' = .slice (some ⟨a',0,none⟩) (ks.length+1) c':=by
  rcases hv.2 with ⟨_,h0⟩ | ⟨g',cap,cur',hx,_⟩
  ·omega
  ·exact⟨g',cap,hx⟩
 have ha':∃cur',Bk 103 w2 a' cur':=by
  rcases hv.2 with ⟨hx,_⟩ | ⟨g',cap,cur',hx,_,hh,_⟩
  ·cases hx
  ·cases hx
   exact⟨cur',hh⟩
 obtain⟨cur',ha'⟩:=ha';have hne:r≠a':=bk_ne hR ha' (by decide);refine⟨a',c',?_,?_,fun k hk=>?_⟩
 ·have:=Bk.same (i:=0) (v:= .slice (some ⟨a',0,none⟩) (ks.length+1) c') hR
  simpa using this
 ·rw [List.length_append,List.map_append];refine⟨hv.1,?_⟩;rcases hv.2 with ⟨hx,_⟩ | ⟨g',cap,cur2,hx,hb,hh,rest⟩
  ·cases hx
  ·cases hx
   exact .inr ⟨_,_,cur2,rfl,hb,(heap_setCell_other w2 _ a' _ (by simpa using Ne.symm hne)).trans hh,rest⟩
 ·rw [List.mem_append,List.mem_singleton] at hk;rcases hk with hk | rfl
  ·exact Bk.oth (by simpa using bk_ne (h3 k hk) h1 (by decide)) (keep2 (h3 k hk) (bk_ne (h3 k hk) ha (by decide)))
  ·exact Bk.oth (by simpa using bk_ne hg h1 (by decide)) (keep2 hg (bk_ne hg ha (by decide)))
theorem turn_there {B:Nat}{w:World}{r:Nat}{ks:List (Nat×List UInt8)}(h:Rg B w r ks)(hl:ks.length≤1000000)(s:List UInt8)(hs:s.length≤140737488351232)(x:Nat)(hf:findK ks (kidOf s)=some x): Calls Tryz.prog 22 #[kpt r,.string ⟨s.toArray⟩] w fun e w'=>e = .returned (.int .i64 80)∧Below w.heap.size w w':=by
 have HK:=Φ (newKey_any s hs w);have H:=Φ h;have HF:=Φ hf;clear h hf hs;unfold kpt;go_enter Tryz.func22,Tryz.ntmps22;go_wp2_with fail;refine HK.out.mono ?_;rintro e w1 ⟨g,rfl,hg,hk,hb⟩;have hfi:=find_any (H.out.below hb) hl (kidOf s);rw [HF.out] at hfi;unfold kpt fV at hfi;have c1:=hk.cell 1;unfold keyC at c1;simp only [List.getElem?_toArray,List.getElem?_cons_succ,List.getElem?_cons_zero] at c1;have HFI:=Φ hfi;clear hfi hk HK;go_wp2_with fail;refine HFI.out.mono ?_;rintro e w2 ⟨rfl,rfl⟩;unfold kpt;go_wp2_with fail;go_returns;exact⟨rfl,hb⟩
theorem turn_new {B:Nat}{w:World}{r:Nat}{ks:List (Nat×List UInt8)}(h:Rg B w r ks)(hB:B≤w.heap.size)(hr:B≤r)(hl:ks.length<8)(s:List UInt8)(hs:s.length≤140737488351232)(hf:findK ks (kidOf s)=none): Calls Tryz.prog 22 #[kpt r,.string ⟨s.toArray⟩] w fun e w'=>e = .returned (.int .i64 0)∧∃g,Rg B w' r (ks++[(g,s)])∧Below B w w':=by
 have HK:=Φ (newKey_any s hs w);have H:=Φ h;have HF:=Φ hf;have HBR:=Φ (And.intro hB hr);clear h hf hs hB hr;unfold kpt;go_enter Tryz.func22,Tryz.ntmps22;go_wp2_with fail;refine HK.out.mono ?_;rintro e w1 ⟨g,rfl,hg,hk,hb⟩;have H1:=H.out.below hb;have hfi:=find_any H1 (by omega) (kidOf s);rw [HF.out] at hfi;unfold kpt fV at hfi;have c1:=hk.cell 1;unfold keyC at c1;simp only [List.getElem?_toArray,List.getElem?_cons_succ,List.getElem?_cons_zero] at c1;have HFI:=Φ hfi;have HKK:=Φ hk;obtain⟨a,c,h1,h2,h3⟩:=H1;have HH:=Φ (And.intro h1 (And.intro h2 h3));have c0:w1.cell? ⟨r,0,none⟩=some (.slice (some ⟨a,0,none⟩) ks.length c):=h1.cell 0;have h8:((ks.length:Int) == 8)=false:=by simp;omega
 clear hfi hk HK H h1 h2 h3;go_wp2_with fail;refine HFI.out.mono ?_;rintro e w2 ⟨rfl,rfl⟩;go_wp2_with (at_builtin;refine appk g _ _ rfl rfl rfl rfl HH.out.2.1 (Nat.le_trans HBR.out.1 hb.size) (by omega) ?_;intro v' w3 hv hG;obtain⟨a2,c2,hv2⟩:=own_slice hv;subst hv2;have hr3:=ring_keep HH.out.1 HH.out.2.1 hG;have d0:=hr3.cell 0;have f0:=hr3.fro 0;have HV:=Φ hv;have HG:=Φ hG;clear hv hG hr3 c0 c1);go_returns;refine⟨rfl,g,Rg.push HH.out.1 HH.out.2.1 HH.out.2.2 HKK.out HV.out HG.out HBR.out.2,?_⟩;have hb3:Below B w w3:=((hb.mono HBR.out.1).alloc (Nat.le_trans HBR.out.1 hb.size) _).grown HG.out (by have:=hb.size;have:=HBR.out.1;simp;omega) (fun q hq=>(World.ownsRow.lt HH.out.2.1 q hq).1);exact hb3.setCell (p:=⟨r,0,none⟩) HBR.out.2 _
end
section
open Go.RowKit Limbs
open Go.Lib renaming hid→Φ
set_option maxHeartbeats 16000000
theorem infoStr:(Tryz.prog.info? 9).map (fun i=>(i.zero,i.size,i.bytes))=some (some (.string ⟨#[]⟩),1,16):=by kernel_rfl
theorem apps {ops:Array Oper}{rest:List Oper}{o:Oper}{a:Act}{Q:Exit→Act→World→Prop}{w:World}{B:Nat}{v:Value}{n:Nat}{l:List Value}(b:ByteArray)(s x:Operand)(hgd:o.guard=none)
  (ho:o.op = .call {callee:= .builtin .append,args:=#[s,x],argTypes:=#[44,44]}) (hs:a.eval s=v) (hx:a.eval x = .slice (some ⟨w.heap.size,0,none⟩) 1 1)
  (hI:w.ownsRow B 9 1 v n l) (hB:B≤w.heap.size) (hlen:n≤1000000)
  (h:∀v' w',w'.ownsRow B 9 1 v' (n+1) (l++[.string b])→(w.alloc (.cells #[.string b] 9)).grownBy w' v.ownBlock→wpList Tryz.prog ops Q rest (a.put o.dst v') w'):wpList Tryz.prog ops Q (o::rest) a (w.alloc (.cells #[.string b] 9)):=by
 obtain⟨i0,hi,hz0,hz1,hz2⟩:=info_parts infoStr;refine wpList_append_own _ hgd s x 44 ho B 9 i0 (.string ⟨#[]⟩) 1 16 Tryz.underlying44 hi hz0 hz1 hz2 rfl (by decide) v n _ hs (hI.alloc _) ⟨w.heap.size,0,none⟩ 1 1 [.string b] hx rfl (World.news_of_block (heap_alloc_new w _)) (by simp [Value.oneCell']) (by unfold maxLen;omega) (by omega) (by simp;omega) ?_;intro v' w' h1 h2 _;exact h v' w' h1 h2
theorem kid_any {w:World}{g:Nat}{s:List UInt8}(h:Bk 121 w g (keyC s)): Calls Tryz.prog 85 #[kpt g] w fun e w'=>e = .returned (.string ⟨(kidOf s).toArray⟩)∧w=w':=by
 have c1:=h.cell 1;unfold keyC at c1;simp only [List.getElem?_toArray,List.getElem?_cons_succ,List.getElem?_cons_zero] at c1;unfold kpt;go_enter Tryz.func85,Tryz.ntmps85;go_wp2_with fail;go_returns;exact⟨rfl,rfl⟩
def kidV (k:Nat×List UInt8): Value:= .string ⟨(kidOf k.2).toArray⟩
theorem kidOf_len (s:List UInt8): (kidOf s).length≤281474976710656:=by
 unfold kidOf
 have:=Hs.enc_len ((Hs.macL [107,105,100] s).take 9) 0 0 (by decide)
 have h9:((Hs.macL [107,105,100] s).take 9).length≤9:=by simp;omega
 unfold Hs.b64L;omega
theorem each_any {B:Nat}{w:World}{r:Nat}{ks:List (Nat×List UInt8)}(h:Rg B w r ks)(hl:ks.length≤8)(hn:ks≠[]): Calls Tryz.prog 84 #[kpt r,.func (.func 85) #[] #[]] w fun e w'=>∃v,e = .returned v∧w'.ownsRow w.heap.size 9 1 v ks.length (ks.map kidV)∧Below w.heap.size w w':=by
 obtain⟨a,c,h1,h2,h3⟩:=h;have hc:w.cell? ⟨r,0,none⟩=some (.slice (some ⟨a,0,none⟩) ks.length c):=h1.cell 0;have HH:=Φ (And.intro h1 (And.intro h2 h3));clear h1 h2 h3;have hpos:0<ks.length:=List.length_pos_iff.2 hn;obtain⟨i0,hi,hz0,hz1,hz2⟩:=info_parts infoStr;obtain⟨wm,hmk,hown,hgr⟩:=run_makeSlice_owned (P:=Tryz.prog) (w:=w) w.heap.size 44 9 i0 (.string ⟨#[]⟩) 1 Tryz.underlying44 hi hz0 hz1 .i64 .i64 ks.length (by omega) (by rw [hz2];omega) (by unfold maxLen;omega) (Nat.le_refl _);have hbm:Below w.heap.size w wm:=⟨hgr.os,hgr.tape,hgr.output,hgr.size,fun k hk=>hgr.block k hk (fun e=>by cases e)⟩;have HM:=Φ (And.intro hown hbm);have hc2:wm.cell? ⟨r,0,none⟩=some (.slice (some ⟨a,0,none⟩) ks.length c):=(HH.out.1.below hbm).cell 0;clear hi hz0 hz1 hz2 hown hgr hbm hpos;unfold kpt;go_enter Tryz.func84,Tryz.ntmps84;go_wp2_with fail;clear hmk hc
 go_loopw [5,19] (fun sv iv wr=>∃i:Nat,i≤ks.length∧iv = .int .i64 (i:Int)∧Hid (wr.ownsRow w.heap.size 9 1 sv i ((ks.take i).map kidV))∧Hid (Below w.heap.size w wr)) (fun _ iv _=>ks.length - (intOf iv).toNat)
 case atStart=>exact⟨0,Nat.zero_le _,rfl,Φ HM.out.1,Φ HM.out.2⟩
 case round=>
  obtain⟨i,hi,rfl,ho,hb⟩:=hrel;clear hc2
  by_cases hlt:i<ks.length
  ·obtain⟨k,hk⟩:∃k,ks[i]'hlt=k:=⟨_,rfl⟩;have hkm:k∈ks:=hk▸List.getElem_mem hlt;have K1:=(HH.out.2.2 k hkm).below hb.out;have c0:wr.cell? ⟨a,i,none⟩=some (.pointer (some ⟨k.1,0,none⟩)):=by
    have:=(own_below HH.out.2.1 hb.out).cells (g:=a) rfl i (kpt k.1) (by rw [List.getElem?_map,List.getElem?_eq_getElem hlt,hk];rfl)
    by_cases h0:i=0
    ·subst h0;simpa [Addr.add,kpt] using this
    ·simpa [Addr.add,h0,kpt] using this
   have hltI:(i:Int)<(ks.length:Int):=by omega
   have hkid:=kid_any K1;unfold kpt at hkid;have HKD:=Φ hkid;have HT:Hid ((ks.take (i+1)).map kidV=(ks.take i).map kidV++[.string ⟨(kidOf k.2).toArray⟩]):=Φ (by rw [List.take_add_one,List.getElem?_eq_getElem hlt,hk];simp [kidV]);clear hkid K1 hk hkm;go_wp2_with fail;refine HKD.out.mono ?_;rintro e w1 ⟨rfl,rfl⟩;go_wp2_with fail;refine(sclone_any (kidOf k.2) _ (kidOf_len _)).mono ?_;rintro e w2 ⟨rfl,hb2⟩;have hb3:=hb.out.trans (hb2.mono hb.out.size);have ho2:=own_below ho.out hb2;go_wp2_with (at_builtin;refine apps _ _ _ rfl rfl rfl rfl ho2 hb3.size (by omega) ?_;intro v' w3 hv hG;obtain⟨a2,c2,hv2⟩:=own_slice hv;subst hv2;have HV:=Φ hv;have HG:=Φ hG;clear hv hG)
   go_roundw
   case rel=>exact⟨i+1,by omega,by go_num,Φ (by rw [HT.out];exact HV.out),Φ ((hb3.alloc hb3.size _).grown HG.out (by have:=hb3.size;simp;omega) (fun q hq=>(World.ownsRow.lt ho2 q hq).1))⟩
   case measure=>simp [intOf];omega
  ·have hie:i=ks.length:=by omega
   have hltI:decide ((i:Int)<(ks.length:Int))=false:=decide_eq_false (by omega);go_wp2_with fail;go_returns;refine⟨_,rfl,?_,hb.out⟩
   have:=ho.out
   rw [hie,List.take_length] at this;exact this
theorem kids_any {B:Nat}{w:World}{r:Nat}{ks:List (Nat×List UInt8)}(h:Rg B w r ks)(hl:ks.length≤8)(hn:ks≠[]): Calls Tryz.prog 31 #[kpt r] w fun e w'=>∃v,e = .returned v∧w'.ownsRow w.heap.size 9 1 v ks.length (ks.map kidV)∧Below w.heap.size w w':=by
 obtain⟨a,c,h1,h2,h3⟩:=h;have hc:w.cell? ⟨r,0,none⟩=some (.slice (some ⟨a,0,none⟩) ks.length c):=h1.cell 0;have HH:=Φ (And.intro h1 (And.intro h2 h3));clear h1 h2 h3;have hpos:0<ks.length:=List.length_pos_iff.2 hn;have HE:=Φ (each_any ⟨a,c,HH.out.1,HH.out.2.1,HH.out.2.2⟩ hl hn);clear hpos hc HH;unfold kpt at HE ⊢;go_enter Tryz.func31,Tryz.ntmps31;go_wp2_with fail;refine HE.out.mono ?_;rintro e w1 ⟨v,rfl,ho,hb⟩;go_wp2_with fail;go_returns;exact⟨_,rfl,ho,hb⟩
end
end Go.Proofs.YtpggkfdijmnmiaaGreat
