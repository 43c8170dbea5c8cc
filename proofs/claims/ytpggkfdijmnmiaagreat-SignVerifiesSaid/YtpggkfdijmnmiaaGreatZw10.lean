/- A row of words laid behind another. No condition but the len -/
import Derived.Test.YtpggkfdijmnmiaaGreatZw06
import Derived.Deep.CutBlock
import Derived.Lib.SlBuf
import Derived.Lib.BufferWrite
import Derived.Deep.AppendLies
import Derived.Lib.AppendZeros
set_option linter.unusedVariables false
set_option linter.unusedSimpArgs false
set_option maxRecDepth 100000
namespace Go.Proofs.YtpggkfdijmnmiaaGreat
namespace Hs
open Go.RowKit
open Go.Lib renaming hid→Φ
theorem turns_succ (w h:List UInt32)(k:Nat): turnsTo w h (k+1)=turnL (turnsTo w h k) (kL.getD k 0+w.getD k 0):=by
 simp [turnsTo,List.range_succ]
theorem turn_length (h:List UInt32)(hl:h.length=8)(n:UInt32): (turnL h n).length=8:=by
 match h,hl with
 |[a,b,c,d,e,f,g,i],_=>rfl
theorem turns_length (w h:List UInt32)(hl:h.length=8)(k:Nat): (turnsTo w h k).length=8:=by
 induction k with
 |zero=>exact hl
 |succ k ih=>rw [turns_succ,turn_length _ ih]
theorem num_length (b:List UInt8): (numsL b).length=16:=nums_length b 64
theorem spr_length (b:List UInt8): (spreadL (numsL b)).length=64:=spread_length' _ (num_length b) 64 (by omega)
theorem addW' (x y:UInt32): ((x.toNat:Int)+(y.toNat:Int)) % 4294967296=((x+y).toNat:Int):=by
 rw [UInt32.toNat_add];omega
theorem alloc2a (w:World)(a b:Obj): ((w.alloc a).alloc b).heap[w.heap.size]?=some a:=by
 rw [Lib.alloc_old _ _ _ (by simp)];exact Go.heap_alloc_new w a
theorem alloc2b (w:World)(a b:Obj): ((w.alloc a).alloc b).heap[w.heap.size+1]?=some b:=by
 have:=Go.heap_alloc_new (w.alloc a) b
 simpa using this
theorem alloc2_old (w:World)(a b:Obj)(k:Nat)(h:k<w.heap.size): ((w.alloc a).alloc b).heap[k]?=w.heap[k]?:=by
 rw [Lib.alloc_old _ _ _ (by simp;omega),Lib.alloc_old _ _ _ h]
theorem setRow_oth (w:World)(g k:Nat)(cs:Array Value)(h:k≠g): (w.setRow g cs).heap[k]?=w.heap[k]?:=setRow_other w g k cs h
theorem setRow_size (w:World)(g:Nat)(cs:Array Value): (w.setRow g cs).heap.size=w.heap.size:=by simp [World.setRow]
structure Nx (w wr:World)(n3 n4:Nat)(h v ww:List UInt32): Prop where
 st:wr.heap[w.heap.size]?=some (.cells (ws v) 169 (0,0))
 res:∃old:Array Value,wr.heap[w.heap.size+1]?=some (.cells old 169 (0,0))∧old.size=8
 ks:wr.heap[n3]?=some (.cells (ws kL) 216 (0,0))
 wws:wr.heap[n3+1]?=some (.cells (ws ww) 216 (0,0))
 old:wr.heap[n4]?=some (.cells (ws h) 169 (0,0))
 below:Below w.heap.size w wr
 l3:w.heap.size+2≤n3
 l4:n3+2≤n4
theorem Nx.on {w wr w':World}{n3 n4:Nat}{h v v' ww:List UInt32}(x:Nx w wr n3 n4 h v ww)(hv:w'.heap[w.heap.size]?=some (.cells (ws v') 169 (0,0)))(ho:Oth w.heap.size wr w'): Nx w w' n3 n4 h v' ww:=by
 have h3:=x.l3;have h4:=x.l4;refine⟨hv,?_,(ho.1 _ (by omega)).trans x.ks,(ho.1 _ (by omega)).trans x.wws,(ho.1 _ (by omega)).trans x.old,x.below.trans ho.2,h3,h4⟩;obtain⟨o,h1,h2⟩:=x.res;exact⟨o,(ho.1 _ (by omega)).trans h1,h2⟩
def zipTo (v h:List UInt32)(k:Nat): List UInt32:=(List.zipWith (· + ·) v h).take k++v.drop k
theorem zipTo_length (v h:List UInt32)(hv:v.length=8)(hh:h.length=8)(k:Nat): (zipTo v h k).length=8:=by
 simp [zipTo,hv,hh];omega
theorem zipTo_get (v h:List UInt32)(hv:v.length=8)(hh:h.length=8)(k:Nat)(hk:k<8): (zipTo v h k)[k]'(by rw [zipTo_length v h hv hh];exact hk)=v[k]:=by
 simp only [zipTo];rw [List.getElem_append_right (by simp;omega)];simp [hv,hh,Nat.min_eq_left (Nat.le_of_lt hk)]
theorem zipTo_set (v h:List UInt32)(hv:v.length=8)(hh:h.length=8)(k:Nat)(hk:k<8): (zipTo v h k).set k (v[k]+h[k])=zipTo v h (k+1):=by
 have hz:(List.zipWith (· + ·) v h).length=8:=by simp [hv,hh]
 simp only [zipTo];have e:k - ((List.zipWith (· + ·) v h).take k).length=0:=by rw [List.length_take,hz];omega
 rw [List.set_append_right _ _ (by rw [List.length_take,hz];omega),e,List.drop_eq_getElem_cons (by omega),List.set_cons_zero,List.take_succ_eq_append_getElem (by omega),List.append_assoc];simp
theorem zipTo_all (v h:List UInt32)(hv:v.length=8)(hh:h.length=8): zipTo v h 8=List.zipWith (· + ·) v h:=by
 unfold zipTo;rw [List.take_of_length_le (by simp [hv,hh]),List.drop_of_length_le (by omega),List.append_nil]
set_option maxHeartbeats 4000000 in
set_option maxRecDepth 100000 in
theorem next_any (h:List UInt32)(hl:h.length=8)(b:List UInt8)(hb:b.length=64)(w:World):
  Calls Tryz.prog 171 #[.agg (ws h),.string ⟨b.toArray⟩] w fun e w'=>e = .returned (.agg (ws (nextL h b)))∧Below w.heap.size w w':=by
 have HL:=Φ hl;have HC:=Φ consts_any;have HN:=Φ (numbers_any b hb);have HS:=Φ (spread_any (numsL b) (num_length b));have HKL:=Φ (spr_length b);have HX:Hid (nextL h b=List.zipWith (· + ·) (turnsTo (spreadL (numsL b)) h 64) h):=Φ rfl;clear hl hb;generalize spreadL (numsL b)=ww at HS HKL HX;go_enter Tryz.func171,Tryz.ntmps171;go_wp2_with fail;refine(HC.out _).mono ?_;rintro e w1 ⟨rfl,b1⟩;go_wp2_with fail;refine(HN.out _).mono ?_;rintro e w2 ⟨rfl,b2⟩;go_wp2_with fail;refine(HS.out _).mono ?_;rintro e w3 ⟨rfl,b3⟩;have hb123:=b1.trans ((b2.mono b1.size).trans (b3.mono (Nat.le_trans b1.size b2.size)));have hz3:w.heap.size+2≤w3.heap.size:=by
  have:=hb123.size
  simpa using this
 have HW3:=Φ hb123;have HZ3:=Φ hz3;clear hb123 hz3 b1 b2 b3 HC HN HS;go_upto_region 2 with (first
  |(refine wpList_store_row rfl 216 (.tmp 5) (.tmp 10) rfl w3.heap.size (ws kL) rfl rfl 216 _ (alloc2a w3 _ _) (i72 kL kL_length) (by rw [ws_size,kL_length];rfl) (ws_one _) ?_)
  |(refine wpList_store_row rfl 216 (.tmp 6) (.tmp 13) rfl (w3.heap.size+1) (ws ww) rfl rfl 216 _ ((setRow_oth _ _ _ _ (by omega)).trans (alloc2b w3 _ _)) (i72 ww HKL.out) (by rw [ws_size,HKL.out];rfl) (ws_one _) ?_))
 generalize hw4:World.setRow (World.setRow (World.alloc (World.alloc w3 _) _) _ _) _ _=w4;have HS4:Hid (w4.heap.size=w3.heap.size+2):=Φ (by rw [← hw4,setRow_size,setRow_size];simp);have HX4:Hid (w4.heap[w.heap.size]?=some (.cells (ws h) 169 (0,0))∧(∃old:Array Value,w4.heap[w.heap.size+1]?=some (.cells old 169 (0,0))∧old.size=8)∧
   w4.heap[w3.heap.size]?=some (.cells (ws kL) 216 (0,0))∧w4.heap[w3.heap.size+1]?=some (.cells (ws ww) 216 (0,0))∧Below w.heap.size w w4):=Φ (by
  have hz:=HZ3.out;rw [← hw4];refine⟨?_,⟨_,((setRow_oth _ _ _ _ (by omega)).trans ((setRow_oth _ _ _ _ (by omega)).trans (alloc2_old w3 _ _ _ (by omega)))).trans ((HW3.out.block _ (by simp)).trans (alloc2b w _ _)),rfl⟩,?_,?_,?_⟩
  ·rw [setRow_oth _ _ _ _ (by omega),setRow_oth _ _ _ _ (by omega),alloc2_old w3 _ _ _ (by omega)];exact(HW3.out.block _ (by simp;omega)).trans (alloc2a w _ _)
  ·rw [setRow_oth _ _ _ _ (by omega)];exact setRow_put (alloc2a w3 _ _)
  ·exact setRow_put ((setRow_oth _ _ _ _ (by omega)).trans (alloc2b w3 _ _))
  ·exact setRow_below (setRow_below (((((((Below.refl _ _).alloc (Nat.le_refl _) _).alloc (by simp) _).trans (HW3.out.mono (by simp;omega))).alloc (by omega) _).alloc (by simp;omega) _)) (by omega)) (by omega))
 clear hw4 HW3;have HH4:=Φ HX4.out.1;go_wp2_with (first
  |(refine wpList_load_row rfl 169 (.tmp 2) rfl w.heap.size rfl 169 (ws h) (0,0) _ HH4.out u37 rfl (i37 h HL.out) ?_)
  |(refine wpList_store_row rfl 169 (.tmp 7) (.tmp 14) rfl w4.heap.size (ws h) rfl rfl 169 _ (Go.heap_alloc_new w4 _) (i37 h HL.out) (by rw [ws_size,HL.out];rfl) (ws_one _) ?_))
 go_loopw [15] (fun i wr=>∃k:Nat,k≤64∧i = .int .i64 k∧Nx w wr w3.heap.size w4.heap.size h (turnsTo ww h k) ww) (fun i _=>64 - (intOf i).toNat)
 case atStart=>
  obtain⟨g1,⟨old,g2,g2'⟩,g3,g4,g5⟩:=HX4.out;have hz3:=HZ3.out;have hs4:=HS4.out;refine⟨0,by omega,rfl,?_,⟨old,?_,g2'⟩,?_,?_,setRow_put (Go.heap_alloc_new w4 _),setRow_below (g5.alloc (by omega) _) (by omega),hz3,by omega⟩
  ·rw [setRow_oth _ _ _ _ (by omega),Lib.alloc_old _ _ _ (by omega)];exact g1
  ·rw [setRow_oth _ _ _ _ (by omega),Lib.alloc_old _ _ _ (by omega)];exact g2
  ·rw [setRow_oth _ _ _ _ (by omega),Lib.alloc_old _ _ _ (by omega)];exact g3
  ·rw [setRow_oth _ _ _ _ (by omega),Lib.alloc_old _ _ _ (by omega)];exact g4
 case round=>
  obtain⟨k,hk,rfl,hx⟩:=hrel;have HN:=Φ hx;clear hx HX4 HH4
  by_cases hlt:k<64
  ·have ck:=(blk_cell HN.out.ks k).trans (ws_get kL k (by rw [kL_length];exact hlt));have cw:=(blk_cell HN.out.wws k).trans (ws_get ww k (by rw [HKL.out];exact hlt));have HT:=Φ (turns_succ ww h k);have e1:kL.getD k 0=kL[k]'(by rw [kL_length];exact hlt):=by simp [List.getD,show k<kL.length by rw [kL_length];exact hlt]
   have e2:ww.getD k 0=ww[k]'(by rw [HKL.out];exact hlt):=by simp [List.getD,show k<ww.length by rw [HKL.out];exact hlt]
   rw [e1,e2] at HT;clear e1 e2;generalize kL[k]'(by rw [kL_length];exact hlt)=xk at ck HT;generalize ww[k]'(by rw [HKL.out];exact hlt)=xw at cw HT;have s1:=addW xk xw;have s2:=addW' xk xw;generalize xk+xw=y at s1 s2 HT;go_wp2_with fail
   go_still_tail 7,(by kernel_rfl)
   change wpList _ _ _ _ _ wr.drew
   have HN1:Hid (Nx w wr.drew w3.heap.size w4.heap.size h (turnsTo ww h k) ww):=Φ (HN.out.on HN.out.st ⟨fun _ _=>rfl,(Below.refl _ _).drew⟩);clear ck cw HN;have HC:=Φ (turn_any w.heap.size (turnsTo ww h k) (turns_length ww h HL.out k) y wr.drew HN1.out.st);generalize wr.drew=wr1 at HN1 HC ⊢;go_wp2_with fail;refine HC.out.mono ?_;rintro e w5 ⟨rfl,hv,ho⟩;have HN2:Hid (Nx w w5 w3.heap.size w4.heap.size h (turnsTo ww h (k+1)) ww):=Φ (HN1.out.on (by rw [HT.out];exact hv) ho);clear HC hv ho HN1;go_wp2_with fail
   go_roundw
   case rel=>exact⟨k+1,by omega,by go_num,HN2.out⟩
   case measure=>simp [intOf];omega
  ·obtain rfl:k=64:=by omega
   go_wp2_with fail;have HN0:Hid (Nx w wr w3.heap.size w4.heap.size h (zipTo (turnsTo ww h 64) h 0) ww):=Φ HN.out;have HVL:=Φ (turns_length ww h HL.out 64);have HZ:Hid (zipTo (turnsTo ww h 64) h 8=nextL h b):=Φ ((zipTo_all _ _ HVL.out HL.out).trans HX.out.symm);clear HX HN;generalize turnsTo ww h 64=v at HN0 HVL HZ
   go_loopw [27] (fun i wr=>∃k:Nat,k≤8∧i = .int .i64 k∧Nx w wr w3.heap.size w4.heap.size h (zipTo v h k) ww) (fun i _=>8 - (intOf i).toNat)
   case atStart=>exact⟨0,by omega,rfl,HN0.out⟩
   case round=>
    obtain⟨k,hk,rfl,hx⟩:=hrel;have HN:=Φ hx;clear hx HN0
    by_cases hlt:k<8
    ·have cv:=(blk_cell HN.out.st k).trans (ws_get _ k (by rw [zipTo_length v h HVL.out HL.out];exact hlt));rw [zipTo_get v h HVL.out HL.out k hlt] at cv;have ch:=(blk_cell HN.out.old k).trans (ws_get h k (by rw [HL.out];exact hlt));have fv:=Lib.frozen_of_heap HN.out.st k;have HT:=Φ (zipTo_set v h HVL.out HL.out k hlt);generalize v[k]'(by rw [HVL.out];exact hlt)=xv at cv HT;generalize h[k]'(by rw [HL.out];exact hlt)=xh at ch HT;have s1:=addW xv xh;have s2:=addW' xv xh;generalize xv+xh=y at s1 s2 HT;go_wp2_with fail
     go_region
     have HN2:Hid (Nx w ((wr.setCell ⟨w.heap.size,k,none⟩ (.int .u32 (y.toNat:Int))).drew) w3.heap.size w4.heap.size h (zipTo v h (k+1)) ww):=Φ (HN.out.on (by
      have:=blk_put HN.out.st k (.int .u32 (y.toNat:Int))
      rw [ws_set,HT.out] at this;exact this) ((Oth.refl _ _).setCell k _).drew)
     clear HN cv ch fv;go_wp2_with fail
     go_roundw
     case rel=>exact⟨k+1,by omega,by go_num,HN2.out⟩
     case measure=>simp [intOf];omega
    ·obtain rfl:k=8:=by omega
     have hN:=HN.out;rw [HZ.out] at hN;have HF:=Φ hN;have HFL:Hid ((nextL h b).length=8):=Φ (by rw [← HZ.out];exact zipTo_length v h HVL.out HL.out 8);obtain⟨old,ho1,ho2⟩:=hN.res;have HO1:=Φ ho1;have HO2:=Φ (show old.size=(ws (nextL h b)).size from by rw [ws_size,HFL.out];exact ho2);clear hN HN ho1 ho2;go_wp2_with (first
      |(refine wpList_load_row rfl 169 (.tmp 2) rfl w.heap.size rfl 169 (ws (nextL h b)) (0,0) _ HF.out.st Go.Proofs.YtpggkfdijmnmiaaGreat.Hs.u37 rfl (i37 _ HFL.out) ?_)
      |(refine wpList_store_row rfl 169 (.tmp 4) (.tmp 39) rfl (w.heap.size+1) (ws (nextL h b)) rfl rfl 169 old HO1.out (i37 _ HFL.out) HO2.out (ws_one _) ?_))
     refine bodyPost_ret (v:= .agg (ws (nextL h b))) (results_cell_row (p:=4) (ty:=169) rfl _ _ (w.heap.size+1) 169 (ws (nextL h b)) (0,0) _ rfl (setRow_put HO1.out) Go.Proofs.YtpggkfdijmnmiaaGreat.Hs.u37 rfl (i37 _ HFL.out)) rfl ⟨rfl,setRow_below HF.out.below (by omega)⟩
end Hs
namespace Hs
open Go.RowKit Go.Sort
open Go.Lib renaming hid→Φ
theorem next_length (h:List UInt32)(hl:h.length=8)(b:List UInt8): (nextL h b).length=8:=by
 unfold nextL;rw [List.length_zipWith,turns_length _ _ hl,hl];rfl
theorem thr_length:∀(k:Nat) (h:List UInt32) (s:List UInt8),h.length=8→(thrL k h s).length=8
 |0,h,s,hl=>hl
 |k+1,h,s,hl=>thr_length k _ _ (next_length h hl _)
structure Th (w wr:World)(v:List UInt32): Prop where
 st:wr.heap[w.heap.size]?=some (.cells (ws v) 169 (0,0))
 res:∃old:Array Value,wr.heap[w.heap.size+1]?=some (.cells old 169 (0,0))∧old.size=8
 below:Below w.heap.size w wr
theorem Th.next {w wr w':World}{v v':List UInt32}(x:Th w wr v)(hb:Below wr.heap.size wr w'): Th w (w'.setRow w.heap.size (ws v')) v':=by
 have h1:w.heap.size<wr.heap.size:=(Array.getElem?_eq_some_iff.1 x.st).1;refine⟨setRow_put ((hb.block _ h1).trans x.st),?_,setRow_below (x.below.trans (hb.mono (by omega))) (Nat.le_refl _)⟩;obtain⟨o,h2,h3⟩:=x.res;exact⟨o,(setRow_other _ _ _ _ (by omega)).trans ((hb.block _ (Array.getElem?_eq_some_iff.1 h2).1).trans h2),h3⟩
set_option maxHeartbeats 4000000 in
set_option maxRecDepth 100000 in
theorem thr_any (n:Nat)(h:List UInt32)(hl:h.length=8)(s:List UInt8)(hs:s.length=64*n)(hs2:s.length≤281474976710656)(w:World):
  Calls Tryz.prog 147 #[.agg (ws h),.string ⟨s.toArray⟩] w fun e w'=>e = .returned (.agg (ws (thrL n h s)))∧Below w.heap.size w w':=by
 have HL:=Φ hl;have HS:=Φ hs;have hsz:=size_ba s;have hsl:(s.length:Int)≤281474976710656:=by omega
 have HA:Hid (((w.alloc (.cells (ws h) 169)).alloc (.cells #[.int .u32 0,.int .u32 0,.int .u32 0,.int .u32 0,.int .u32 0,.int .u32 0,.int .u32 0,.int .u32 0] 169)).heap[w.heap.size]?=some (.cells (ws h) 169 (0,0))):=Φ (by
  rw [Lib.alloc_old _ _ _ (by simp)];exact Go.heap_alloc_new w _)
 have HA2:Hid (((w.alloc (.cells (ws h) 169)).alloc (.cells #[.int .u32 0,.int .u32 0,.int .u32 0,.int .u32 0,.int .u32 0,.int .u32 0,.int .u32 0,.int .u32 0] 169)).heap[w.heap.size+1]?=some (.cells #[.int .u32 0,.int .u32 0,.int .u32 0,.int .u32 0,.int .u32 0,.int .u32 0,.int .u32 0,.int .u32 0] 169 (0,0))):=Φ (by
  have:=Go.heap_alloc_new (w.alloc (.cells (ws h) 169)) (.cells #[.int .u32 0,.int .u32 0,.int .u32 0,.int .u32 0,.int .u32 0,.int .u32 0,.int .u32 0,.int .u32 0] 169)
  simpa using this)
 clear hl hs hs2;go_enter Tryz.func147,Tryz.ntmps147;go_wp2_with fail
 go_loopw [5] (fun i wr=>∃k a:Nat,k≤n∧i = .int .i64 a∧a=64*k∧Th w wr (thrL k h s)) (fun i _=>64*n+64 - (intOf i).toNat)
 case atStart=>exact⟨0,0,by omega,rfl,rfl,HA.out,⟨_,HA2.out,rfl⟩,((Below.refl _ _).alloc (Nat.le_refl _) _).alloc (by simp) _⟩
 case round=>
  obtain⟨k,a,hk,rfl,ha,hx⟩:=hrel;have HX:=Φ hx;have HK:=Φ ha;clear hx ha HA HA2
  by_cases hlt:k<n
  ·have ha1:(a:Int)+64≤s.length:=by have:=HS.out;have:=HK.out;omega
   have ha2:a<s.length:=by omega
   have ha3:(a:Int)<s.length:=by omega
   have ha4:((a:Int)+64).toNat=a+64:=by omega
   have hwr:IntKind.i64.wrap ((a:Int)+64)=(a:Int)+64:=IntWalk.i64_in _ (by omega);have q0:0≤(a:Int)+64:=by omega
   have q1:(a:Int)≤(a:Int)+64:=by omega
   have hex:=ext_ba s a 64;have HN:=Φ (thr_succ k h s);rw [← HK.out] at HN;have hbl:((s.drop a).take 64).length=64:=by rw [List.length_take,List.length_drop];omega
   have HC:=Φ (next_any (thrL k h s) (thr_length k h s HL.out) ((s.drop a).take 64) hbl);generalize (s.drop a).take 64=b at hex HN HC;clear hbl;go_wp2_with fail;refine wp_region_still_tail 6 mixed (by kernel_rfl) ?_;simp only [List.take_succ_cons,List.take_zero,List.drop_succ_cons,List.drop_zero];refine wpStill_load_row rfl 169 (.tmp 2) rfl w.heap.size rfl 169 (ws (thrL k h s)) (0,0) _ (show wr.heap[w.heap.size]?=_ from HX.out.st) u37 rfl (i37 _ (thr_length k h s HL.out)) ?_
   repeat still_step
   refine wpStill_nil ?_
   change wpList _ _ _ _ _ wr.drew
   have HX1:Hid (Th w wr.drew (thrL k h s)):=Φ ⟨HX.out.st,HX.out.res,HX.out.below.drew⟩;clear HX hwr q0 q1;generalize wr.drew=wr1 at HX1 ⊢;go_wp2_with fail;refine(HC.out _).mono ?_;rintro e w5 ⟨rfl,b5⟩;have HG:Hid (w5.heap[w.heap.size]?=some (.cells (ws (thrL k h s)) 169 (0,0))):=Φ ((b5.block _ (Array.getElem?_eq_some_iff.1 HX1.out.st).1).trans HX1.out.st);have HX2:Hid (Th w (w5.setRow w.heap.size (ws (nextL (thrL k h s) b))) (thrL (k+1) h s)):=Φ (by rw [HN.out];exact HX1.out.next b5);have HI:=Φ (i37 (nextL (thrL k h s) b) (next_length _ (thr_length k h s HL.out) _));have HZ:Hid ((ws (thrL k h s)).size=(ws (nextL (thrL k h s) b)).size):=Φ (by rw [ws_size,ws_size,next_length _ (thr_length k h s HL.out),thr_length k h s HL.out]);clear b5 HX1 HC HN hex;generalize nextL (thrL k h s) b=v at HX2 HI HZ ⊢;go_upto_region 3 with (refine wpList_store_row rfl 169 (.tmp 2) (.tmp 18) rfl w.heap.size (ws v) rfl rfl 169 (ws (thrL k h s)) HG.out HI.out HZ.out (ws_one _) ?_);generalize w5.setRow w.heap.size (ws v)=w6 at HX2 ⊢;go_wp2_with fail
   go_roundw
   case rel=>exact⟨k+1,a+64,by omega,by go_num,by have:=HK.out;omega,HX2.out⟩
   case measure=>have:=HS.out;have:=HK.out;simp [intOf];omega
  ·obtain rfl:k=n:=by omega
   have ha2:¬a<s.length:=by have:=HS.out;have:=HK.out;omega
   have hdc:decide (a<s.length)=false:=by simpa using ha2
   have HF:=HX.out;have HFL:=Φ (thr_length k h s HL.out);obtain⟨old,ho1,ho2⟩:=HF.res;have HO1:=Φ ho1;have HO2:=Φ (show old.size=(ws (thrL k h s)).size from by rw [ws_size,HFL.out];exact ho2);clear HF ho1 ho2;go_wp2_with (first
    |(refine wpList_load_row rfl 169 (.tmp 2) rfl w.heap.size rfl 169 (ws (thrL k h s)) (0,0) _ HX.out.st u37 rfl (i37 _ HFL.out) ?_)
    |(refine wpList_store_row rfl 169 (.tmp 4) (.tmp 19) rfl (w.heap.size+1) (ws (thrL k h s)) rfl rfl 169 old HO1.out (i37 _ HFL.out) HO2.out (ws_one _) ?_))
   refine bodyPost_ret (v:= .agg (ws (thrL k h s))) (results_cell_row (p:=4) (ty:=169) rfl _ _ (w.heap.size+1) 169 (ws (thrL k h s)) (0,0) _ rfl (setRow_put HO1.out) u37 rfl (i37 _ HFL.out)) rfl ⟨rfl,setRow_below HX.out.below (by omega)⟩
end Hs
namespace Hs
open Go.RowKit Go.Sort
theorem behind_length (n:Nat): (behindL n).length=9+(119 - n % 64) % 64:=by
 unfold behindL;simp [fourL_length];omega
theorem sum_split (s:List UInt8): ∃m,(s.drop (64*(s.length / 64))++behindL s.length).length=64*m∧m≤2∧sumL s=textL (thrL m (thrL (s.length / 64) firstL (s.take (64*(s.length / 64)))) (s.drop (64*(s.length / 64))++behindL s.length)):=by
 refine⟨(s.length+72) / 64 - s.length / 64,?_,by omega,?_⟩
 ·rw [List.length_append,List.length_drop,behind_length];omega
 ·rw [thr_append _ _ _ _ _ (by rw [List.length_take];omega),← List.append_assoc,List.take_append_drop,sumL,show s.length / 64+((s.length+72) / 64 - s.length / 64)=(s.length+72) / 64 from by omega]
theorem rg {w:World}{f:FuncId}{args:Array Value}{v:Value}(h:∀w',Calls Tryz.prog f args w' fun e w''=>e = .returned v∧Below w'.heap.size w' w'')(d:Nat)(os:Array Obj):
  Calls Tryz.prog f args (grow (redrawn w d) os) fun e w''=>e = .returned v∧∃p:Regrown,w''=grow (redrawn w p.d) p.os:=Calls.regrown_of (h _)
set_option maxHeartbeats 4000000 in
set_option maxRecDepth 100000 in
theorem sum_any (s:List UInt8)(hs:s.length≤281474976710656)(w:World):
  Calls Tryz.prog 97 #[.string ⟨s.toArray⟩] w fun e w'=>e = .returned (.string ⟨(sumL s).toArray⟩)∧Below w.heap.size w w':=by
 obtain⟨m,hm,hm2,hsum⟩:=sum_split s;obtain⟨W,hW⟩:∃W,W=64*(s.length / 64):=⟨_,rfl⟩;have eW:(s.length:Int) - (s.length:Int) % 64=(W:Int):=by omega
 have hsz:=size_ba s;have hsl:(s.length:Int)≤281474976710656:=by omega
 have hWs:(W:Int)≤(s.length:Int):=by omega
 have hWs':W≤s.length:=by omega
 have hex1:(⟨s.toArray⟩:ByteArray).extract 0 W=⟨(s.take W).toArray⟩:=by simpa using ext_ba s 0 W
 have hex2:(⟨s.toArray⟩:ByteArray).extract W s.length=⟨(s.drop W).toArray⟩:=by
  have:=ext_ba s W (s.length - W)
  rwa [show W+(s.length - W)=s.length from by omega,List.take_of_length_le (by rw [List.length_drop];omega)] at this
 have HT1:=Lib.hid (rg (w:=w) (thr_any (s.length / 64) firstL rfl (s.take W) (by rw [List.length_take];omega) (by rw [List.length_take];omega)));rw [← hW] at hm hsum;have HT2:=Lib.hid (rg (w:=w) (thr_any m (thrL (s.length / 64) firstL (s.take W)) (thr_length _ _ _ rfl) (s.drop W++behindL s.length) hm (by omega)));have HX:=Lib.hid (rg (w:=w) (text_any (thrL m (thrL (s.length / 64) firstL (s.take W)) (s.drop W++behindL s.length)) (thr_length _ _ _ (thr_length _ _ _ rfl))));have HF:=Lib.hid (rg (w:=w) first_any);have HB:=Lib.hid (rg (w:=w) (behind_any s.length hs));have HS:=Lib.hid hsum;have happ:=app_ba (s.drop W) (behindL s.length);have hl1:(s.drop W).length≤64:=by rw [List.length_drop];omega
 have hl2:(behindL s.length).length≤128:=by rw [behind_length];omega
 rw [← HS.out] at HX;generalize thrL m (thrL (s.length / 64) firstL (s.take W)) (s.drop W++behindL s.length)=v2 at HT2 HX;generalize thrL (s.length / 64) firstL (s.take W)=v1 at HT1 HT2;generalize s.drop W++behindL s.length=r at happ HT2;generalize s.drop W=p at hex2 happ hl1;generalize s.take W=q at hex1 HT1;generalize behindL s.length=bh at happ hl2 HB;clear hm hsum hs HS hW hm2;go_enter Tryz.func97,Tryz.ntmps97;go_wp2_with fail;refine wp_region_quiet_below mixed (by kernel_rfl) ?_
 iterate 4 go_big_quiet_step (exact HF.out _ _)
 go_big_quiet_step (exact HT1.out _ _)
 iterate 7 go_big_quiet_step (exact HB.out _ _)
 go_big_quiet_step (exact HT2.out _ _)
 iterate 2 go_big_quiet_step (exact HX.out _ _)
 refine wpQuiet_nil ?_;intro _ hw';obtain⟨⟨dq,osq⟩,hw''⟩:=hw';subst hw'';have HQ:=Lib.hid (below_regrown w dq osq);generalize grow (redrawn w dq) osq=wq at HQ ⊢;clear HF HT1 HB HT2 HX;go_wp2_with fail;go_ret;exact⟨rfl,HQ.out⟩
end Hs
namespace Hs
open Go.RowKit Go.Sort
open Go.Lib renaming hid→Φ
set_option maxHeartbeats 4000000
theorem sum_length (s:List UInt8): (sumL s).length=32:=by
 unfold sumL;rw [textL_length,thr_length _ _ _ rfl]
theorem fill_length (key:List UInt8): (fillL key).length=64:=by
 unfold fillL
 by_cases h:64<key.length
 ·rw [if_pos h,List.length_append,sum_length,List.length_replicate]
 ·rw [if_neg h,List.length_append,List.length_replicate];omega
theorem s5:(Tryz.prog.info? 5).map (·.size)=some 1:=by kernel_rfl
theorem copy_fill (K:List UInt8)(n:Nat): ((bs (List.replicate n 0)).toList.take 0++Lib.byteCells K++(bs (List.replicate n 0)).toList.drop (0+K.length)).toArray=bs (K++List.replicate (n - K.length) 0):=by
 simp [bs,Lib.byteCells]
set_option maxRecDepth 100000 in
theorem fill_short (key:List UInt8)(h:key.length≤64)(w:World):
  Calls Tryz.prog 90 #[.string ⟨key.toArray⟩] w fun e w'=>e = .returned (.agg (bs (key++List.replicate (64 - (key).length) 0)))∧Below w.heap.size w w':=by
 have hsz:=size_ba key;have hl:¬(64<key.length):=by omega
 have HKL:=Φ h;go_enter Tryz.func90,Tryz.ntmps90;go_upto_region 4 with (fail);generalize hw2:World.alloc _ _=w2;have HK2:Hid (w2.heap[w.heap.size+1]?=some (.cells (bs (List.replicate 64 0)) 129 (0,0))):=Φ (by rw [← hw2];exact(alloc2b w _ _).trans (by kernel_rfl));have HR2:Hid (∃old:Array Value,w2.heap[w.heap.size]?=some (.cells old 129 (0,0))∧old.size=64):=Φ ⟨_,by rw [← hw2];exact alloc2a w _ _,by rfl⟩;have HB2:Hid (Below w.heap.size w w2):=Φ (by rw [← hw2];exact((Below.refl _ _).alloc (Nat.le_refl _) _).alloc (by simp) _);have HLT:Hid (w.heap.size<w.heap.size+1):=Φ (by omega);clear hw2;have HC:=Φ (Lib.run_copy_row_string (P:=Tryz.prog) w2 101 9 3 5 (w.heap.size+1) 0 64 64 ⟨(key).toArray⟩ (bs (List.replicate 64 0)) 129 Tryz.underlying101 s5 HK2.out (by rw [size_ba];exact HKL.out) (by rw [size_ba,bs_size,List.length_replicate];have:=HKL.out;omega));rw [show(⟨(key).toArray⟩:ByteArray).data.toList=key from rfl,size_ba,copy_fill (key) 64] at HC;have HF:Hid ((key++List.replicate (64 - (key).length) (0:UInt8)).length=64):=Φ (by rw [List.length_append,List.length_replicate];have:=HKL.out;omega);generalize hf:key++List.replicate (64 - (key).length) (0:UInt8)=f at HC HF;have HFE:=Φ hf;clear hf;go_wp2_with fail;rw [HC.out];simp only [Result.andThen];rw [Oper.upon_value];have HK3:Hid ((w2.setRow (w.heap.size+1) (bs f)).heap[w.heap.size+1]?=some (.cells (bs f) 129 (0,0))):=Φ (setRow_put HK2.out);obtain⟨old,ho1,ho2⟩:=HR2.out;have HO1:Hid ((w2.setRow (w.heap.size+1) (bs f)).heap[w.heap.size]?=some (.cells old 129 (0,0))):=Φ ((setRow_other _ _ _ _ (by have:=HLT.out;omega)).trans ho1);have HO2:=Φ (show old.size=(bs f).size from by rw [bs_size,HF.out];exact ho2);have HB3:=Φ (setRow_below (cs:=bs f) HB2.out (Nat.le_of_lt HLT.out));clear HC HR2 HK2 HB2 ho1 ho2;generalize w2.setRow (w.heap.size+1) (bs f)=w3 at HK3 HO1 HB3 ⊢;go_wp2_with (first
  |(refine wpList_load_row rfl 129 (.tmp 3) rfl (w.heap.size+1) rfl 129 (bs f) (0,0) _ HK3.out u46 rfl (i46 _ HF.out) ?_)
  |(refine wpList_store_row rfl 129 (.tmp 2) (.tmp 12) rfl w.heap.size (bs f) rfl rfl 129 old HO1.out (i46 _ HF.out) HO2.out (bs_one _) ?_))
 exact bodyPost_ret (v:= .agg (bs f)) (results_cell_row (p:=2) (ty:=129) rfl _ _ w.heap.size 129 (bs f) (0,0) _ rfl (setRow_put HO1.out) u46 rfl (i46 _ HF.out)) rfl ⟨by rw [HFE.out],setRow_below HB3.out (Nat.le_refl _)⟩
set_option maxRecDepth 100000 in
theorem fill_long (key:List UInt8)(h:64<key.length)(hs:key.length≤281474976710656)(w:World):
  Calls Tryz.prog 90 #[.string ⟨key.toArray⟩] w fun e w'=>e = .returned (.agg (bs (sumL key++List.replicate (64 - (sumL key).length) 0)))∧Below w.heap.size w w':=by
 have hsz:=size_ba key;have HS:=Φ (sum_any key hs);have HKL:Hid ((sumL key).length≤64):=Φ (by rw [sum_length];omega);clear hs;go_enter Tryz.func90,Tryz.ntmps90;go_wp2_with fail;generalize hw0:World.alloc w _=w0;have HR0:Hid (∃old:Array Value,w0.heap[w.heap.size]?=some (.cells old 129 (0,0))∧old.size=64):=Φ ⟨_,by rw [← hw0];exact Go.heap_alloc_new w _,by rfl⟩;have HB0:Hid (Below w.heap.size w w0):=Φ (by rw [← hw0];exact(Below.refl _ _).alloc (Nat.le_refl _) _);have HZ0:Hid (w.heap.size<w0.heap.size):=Φ (by rw [← hw0];simp);clear hw0;refine(HS.out _).mono ?_;rintro e w1 ⟨rfl,b1⟩;have HR1:Hid (∃old:Array Value,w1.heap[w.heap.size]?=some (.cells old 129 (0,0))∧old.size=64):=Φ (by
  obtain⟨old,h1,h2⟩:=HR0.out;exact⟨old,(b1.block _ HZ0.out).trans h1,h2⟩)
 have HB1:=Φ (HB0.out.trans (b1.mono HB0.out.size));have HZ1:=Φ (Nat.lt_of_lt_of_le HZ0.out b1.size);clear b1 HS HR0 HB0 HZ0;go_upto_region 4 with (fail);generalize hw2:World.alloc _ _=w2;have HK2:Hid (w2.heap[w1.heap.size]?=some (.cells (bs (List.replicate 64 0)) 129 (0,0))):=Φ (by rw [← hw2];exact(Go.heap_alloc_new w1 _).trans (by kernel_rfl));have HR2:Hid (∃old:Array Value,w2.heap[w.heap.size]?=some (.cells old 129 (0,0))∧old.size=64):=Φ (by
  obtain⟨old,h1,h2⟩:=HR1.out;exact⟨old,by rw [← hw2,Lib.alloc_old _ _ _ HZ1.out];exact h1,h2⟩)
 have HB2:Hid (Below w.heap.size w w2):=Φ (by rw [← hw2];exact HB1.out.alloc (Nat.le_of_lt HZ1.out) _);have HLT:Hid (w.heap.size<w1.heap.size):=Φ HZ1.out;clear hw2;have HC:=Φ (Lib.run_copy_row_string (P:=Tryz.prog) w2 101 9 3 5 (w1.heap.size) 0 64 64 ⟨(sumL key).toArray⟩ (bs (List.replicate 64 0)) 129 Tryz.underlying101 s5 HK2.out (by rw [size_ba];exact HKL.out) (by rw [size_ba,bs_size,List.length_replicate];have:=HKL.out;omega));rw [show(⟨(sumL key).toArray⟩:ByteArray).data.toList=sumL key from rfl,size_ba,copy_fill (sumL key) 64] at HC;have HF:Hid ((sumL key++List.replicate (64 - (sumL key).length) (0:UInt8)).length=64):=Φ (by rw [List.length_append,List.length_replicate];have:=HKL.out;omega);generalize hf:sumL key++List.replicate (64 - (sumL key).length) (0:UInt8)=f at HC HF;have HFE:=Φ hf;clear hf;go_wp2_with fail;rw [HC.out];simp only [Result.andThen];rw [Oper.upon_value];have HK3:Hid ((w2.setRow (w1.heap.size) (bs f)).heap[w1.heap.size]?=some (.cells (bs f) 129 (0,0))):=Φ (setRow_put HK2.out);obtain⟨old,ho1,ho2⟩:=HR2.out;have HO1:Hid ((w2.setRow (w1.heap.size) (bs f)).heap[w.heap.size]?=some (.cells old 129 (0,0))):=Φ ((setRow_other _ _ _ _ (by have:=HLT.out;omega)).trans ho1);have HO2:=Φ (show old.size=(bs f).size from by rw [bs_size,HF.out];exact ho2);have HB3:=Φ (setRow_below (cs:=bs f) HB2.out (Nat.le_of_lt HLT.out));clear HC HR2 HK2 HB2 ho1 ho2;generalize w2.setRow (w1.heap.size) (bs f)=w3 at HK3 HO1 HB3 ⊢;go_wp2_with (first
  |(refine wpList_load_row rfl 129 (.tmp 3) rfl (w1.heap.size) rfl 129 (bs f) (0,0) _ HK3.out u46 rfl (i46 _ HF.out) ?_)
  |(refine wpList_store_row rfl 129 (.tmp 2) (.tmp 12) rfl w.heap.size (bs f) rfl rfl 129 old HO1.out (i46 _ HF.out) HO2.out (bs_one _) ?_))
 exact bodyPost_ret (v:= .agg (bs f)) (results_cell_row (p:=2) (ty:=129) rfl _ _ w.heap.size 129 (bs f) (0,0) _ rfl (setRow_put HO1.out) u46 rfl (i46 _ HF.out)) rfl ⟨by rw [HFE.out],setRow_below HB3.out (Nat.le_refl _)⟩
theorem fill_any (key:List UInt8)(hs:key.length≤281474976710656)(w:World):
  Calls Tryz.prog 90 #[.string ⟨key.toArray⟩] w fun e w'=>e = .returned (.agg (bs (fillL key)))∧Below w.heap.size w w':=by
 unfold fillL
 by_cases h:64<key.length
 ·rw [if_pos h];exact fill_long key h hs w
 ·rw [if_neg h];exact fill_short key (by omega) w
end Hs
namespace Hs
open Go.RowKit Go.Sort
open Go.Lib renaming hid→Φ
theorem turned_length (k:List UInt8)(c:UInt8): (turnedL k c).length=k.length:=by simp [turnedL]
theorem mac_length (k s:List UInt8): (macK k s).length=32:=sum_length _
set_option maxHeartbeats 4000000 in
set_option maxRecDepth 100000 in
theorem macK_any (k:List UInt8)(hk:k.length=64)(s:List UInt8)(hs:s.length≤140737488355392)(w:World):
  Calls Tryz.prog 89 #[.agg (bs k),.string ⟨s.toArray⟩] w fun e w'=>e = .returned (.string ⟨(macK k s).toArray⟩)∧Below w.heap.size w w':=by
 have HK:=Φ (Go.heap_alloc_new w (.cells (bs k) 129));have HI:=Φ (i46 k hk);have HA:=Φ (rg (w:=w.alloc (.cells (bs k) 129)) (turned_any k hk 92));have HB:=Φ (rg (w:=w.alloc (.cells (bs k) 129)) (turned_any k hk 54));have HC:=Φ (rg (w:=w.alloc (.cells (bs k) 129)) (sum_any (turnedL k 54++s) (by rw [List.length_append,turned_length];omega)));have HD:=Φ (rg (w:=w.alloc (.cells (bs k) 129)) (sum_any (turnedL k 92++sumL (turnedL k 54++s)) (by rw [List.length_append,turned_length,sum_length];omega)));have HM:Hid (macK k s=sumL (turnedL k 92++sumL (turnedL k 54++s))):=Φ rfl;have a1:=app_ba (turnedL k 54) s;have a2:=app_ba (turnedL k 92) (sumL (turnedL k 54++s));have l1:(turnedL k 54).length≤64:=by rw [turned_length];omega
 have l2:(turnedL k 92).length≤64:=by rw [turned_length];omega
 have l3:(sumL (turnedL k 54++s)).length≤32:=by rw [sum_length];omega
 rw [← HM.out] at HD;clear HM;have HBW:Hid (Below w.heap.size w (w.alloc (.cells (bs k) 129))):=Φ ((Below.refl _ _).alloc (Nat.le_refl _) _);generalize turnedL k 92++sumL (turnedL k 54++s)=x2 at a2 HD;generalize sumL (turnedL k 54++s)=m1 at a2 HC l3;generalize turnedL k 54++s=x1 at a1 HC;generalize turnedL k 54=t1 at a1 HB l1;generalize turnedL k 92=t2 at a2 HA l2;clear hk;go_enter Tryz.func89,Tryz.ntmps89;go_wp2_with fail;generalize w.alloc (.cells (bs k) 129)=w0 at HK HA HB HC HD HBW ⊢;refine wp_region_quiet_below mixed (by kernel_rfl) ?_;refine wpQuiet_load_row rfl 129 (.tmp 2) rfl w.heap.size rfl 129 (bs k) (0,0) _ (fun w' hw'=>heap_regrown HK.out hw') u46 rfl HI.out ?_
 quiet_step (exact HA.out _ _)
 refine wpQuiet_load_row rfl 129 (.tmp 2) rfl w.heap.size rfl 129 (bs k) (0,0) _ (fun w' hw'=>heap_regrown HK.out hw') u46 rfl HI.out ?_
 quiet_step (exact HB.out _ _)
 iterate 2 go_big_quiet_step (exact HC.out _ _)
 go_big_quiet_step (exact HC.out _ _)
 iterate 2 go_big_quiet_step (exact HD.out _ _)
 go_big_quiet_step (exact HD.out _ _)
 refine wpQuiet_nil ?_;intro _ hw';obtain⟨⟨dq,osq⟩,hw''⟩:=hw';subst hw'';have HQ:=Φ (HBW.out.trans ((below_regrown w0 dq osq).mono HBW.out.size));generalize grow (redrawn w0 dq) osq=wq at HQ ⊢;clear HA HB HC HD HK HBW;go_wp2_with fail;go_ret;exact⟨rfl,HQ.out⟩
theorem Mac_any (key s:List UInt8)(hk:key.length≤281474976710656)(hs:s.length≤140737488355392)(w:World):
  Calls Tryz.prog 39 #[.string ⟨key.toArray⟩,.string ⟨s.toArray⟩] w fun e w'=>e = .returned (.string ⟨(macL key s).toArray⟩)∧Below w.heap.size w w':=by
 have HA:=Φ (fill_any key hk);have HB:=Φ (macK_any (fillL key) (fill_length key) s hs);have HM:Hid (macL key s=macK (fillL key) s):=Φ rfl;rw [← HM.out] at HB;clear HM hk hs;generalize fillL key=k at HA HB;go_enter Tryz.func39,Tryz.ntmps39;go_wp2_with fail;refine(HA.out _).mono ?_;rintro e w1 ⟨rfl,b1⟩;go_wp2_with fail;refine(HB.out _).mono ?_;rintro e w2 ⟨rfl,b2⟩;go_wp2_with fail;go_ret;exact⟨rfl,b1.trans (b2.mono b1.size)⟩
def dig3 (y:Nat): List Nat:=[y % 65536,y / 65536 % 65536,y / 4294967296]
theorem dig3_val (y:Nat): val (dig3 y)=y:=by simp [dig3,val];omega
theorem dig3_dig (y:Nat)(h:y<281474976710656): Dig (dig3 y):=by
 intro x hx;simp [dig3] at hx;omega
def rootW (p n:Nat): UInt32:=UInt32.ofNat (rootN p n 41 0 % 4294967296)
def RoR (w:World)(p n R:Nat)(u i:Value)(wr:World): Prop:=∃(z:Int) (x:Nat),i = .int .i64 z∧u = .int .u64 x∧ -1≤z∧z≤40∧x+2 ^ (z+1).toNat≤2199023255552∧rootN p n (z+1).toNat x=R∧Below w.heap.size w wr
theorem pow_le40 (m:Nat)(h:m≤40): 2 ^ m≤1099511627776:=by
 have:=Nat.pow_le_pow_right (show 1≤2 by omega) h
 exact this
set_option maxHeartbeats 4000000 in
set_option maxRecDepth 100000 in
theorem root_any (p n:Nat)(hp:p<65536)(hn:n=2∨n=3)(w:World):
  Calls Tryz.prog 154 #[.int .u64 p,.int .i64 n] w fun e w'=>e = .returned (.int .u32 ((rootW p n).toNat:Int))∧Below w.heap.size w w':=by
 have HP:=Φ hp;have HNN:=Φ hn;have n1:(n:Int)≤3:=by omega
 obtain⟨R,hR⟩:∃R,R=rootN p n 41 0:=⟨_,rfl⟩;have HR:=Φ hR;clear hp hn hR;go_enter Tryz.func154,Tryz.ntmps154;go_wp2_with fail
 go_loopw [5,6] (fun u i wr=>RoR w p n R u i wr) (fun _ i _=>(intOf i+1).toNat)
 case atStart=>exact⟨40,0,rfl,rfl,by omega,by omega,by decide,HR.out.symm,Below.refl _ _⟩
 case round=>
  obtain⟨z,x,rfl,rfl,hz1,hz2,hx,hr,hb⟩:=hrel;have HRR:=Φ hr;have HB:=Φ hb;have HXB:=Φ hx;clear hr hb hx
  by_cases hz:0≤z
  ·obtain⟨m,rfl⟩:∃m:Nat,z=m:=⟨z.toNat,by omega⟩;have hm:m≤40:=by omega
   have HXM:Hid (x+2 ^ (m+1)≤2199023255552):=Φ (by have:=HXB.out;rwa [show((m:Int)+1).toNat=m+1 from by omega] at this);have HRM:Hid (rootN p n (m+1) x=R):=Φ (by have:=HRR.out;rwa [show((m:Int)+1).toNat=m+1 from by omega] at this);obtain⟨D,hD⟩:∃D,D=2 ^ m:=⟨_,rfl⟩;have hD40:D≤1099511627776:=by rw [hD];exact pow_le40 m hm
   have hxD:x+D+D≤2199023255552:=by have:=HXM.out;rw [Nat.pow_succ,← hD] at this;omega
   have w1:IntKind.u64.wrap ((2:Int) ^ m)=(D:Int):=by
    rw [show((2:Int) ^ m)=((2 ^ m:Nat):Int) from by simp,← hD];exact IntWalk.u64_in _ (by omega)
   have HDM:=Φ hD;clear hD;obtain⟨y,hy⟩:∃y,y=x+D:=⟨_,rfl⟩;have w2:IntKind.u64.wrap ((x:Int)+(D:Int))=(y:Int):=by rw [IntWalk.u64_in _ (by omega)];omega
   have b1:=and16 y (by omega);have s1:(y:Int) / 65536=((y / 65536:Nat):Int):=by simp
   have b2:=and16 (y / 65536) (by omega);have s2:(y:Int) / 4294967296=((y / 4294967296:Nat):Int):=by simp
   have HV:=Φ (dig3_val y);have HDG:=Φ (dig3_dig y (by omega));have hd3:us (dig3 y)=#[.int .u64 ((y % 65536:Nat):Int),.int .u64 ((y / 65536 % 65536:Nat):Int),.int .u64 ((y / 4294967296:Nat):Int)]:=rfl;have HD3:=Φ hd3;clear hd3;have HLEN:Hid ((dig3 y).length=3):=Φ rfl;generalize y % 65536=y0 at b1 HD3;generalize y / 65536 % 65536=y1 at b2 HD3;generalize y / 65536=yq at s1 b2;generalize y / 4294967296=y2 at s2 HD3;have HY:=Φ hy;clear hy;generalize hgd:dig3 y=dy at HV HDG HD3 HLEN;have HDY:=Φ hgd;clear hgd;go_wp2_with fail;rw [← HD3.out];have HGA:Hid (((wr.alloc (.cells (us dy) 22)).alloc (.cells #[.int .u64 1] 22)).heap[wr.heap.size]?=some (.cells (us dy) 22 (0,0))):=Φ (alloc2a wr _ _);have HGB:Hid (((wr.alloc (.cells (us dy) 22)).alloc (.cells #[.int .u64 1] 22)).heap[wr.heap.size+1]?=some (.cells (us [1]) 22 (0,0))):=Φ (alloc2b wr _ _);have HBA:Hid (Below w.heap.size w ((wr.alloc (.cells (us dy) 22)).alloc (.cells #[.int .u64 1] 22))):=Φ ((HB.out.alloc HB.out.size _).alloc (by have:=HB.out.size;simp;omega) _);generalize (wr.alloc (.cells (us dy) 22)).alloc (.cells #[.int .u64 1] 22)=w3 at HGA HGB HBA ⊢;generalize wr.heap.size=gd at HGA HGB ⊢
   go_loopw [9,10] (fun u i wr=>∃(j g:Nat) (out:List Nat),j≤n∧i = .int .i64 j∧u = .slice (some ⟨g,0,none⟩) out.length out.length∧wr.heap[g]?=some (.cells (us out) 22 (0,0))∧Dig out∧out.length=1+3*j∧val out=y ^ j∧
 wr.heap[gd]?=some (.cells (us dy) 22 (0,0))∧Below w.heap.size w wr) (fun _ i _=>n - (intOf i).toNat)
   case atStart=>exact⟨0,gd+1,[1],by omega,rfl,rfl,HGB.out,by intro q hq;simp at hq;omega,rfl,by simp [val],HGA.out,HBA.out⟩
   case round=>
    obtain⟨j,g,out,hj,rfl,rfl,hw,hdg,hlen,hval,hgd,hb⟩:=hrel;have HW:=Φ hw;have HDO:=Φ hdg;have HLO:=Φ hlen;have HVO:=Φ hval;have HGD:=Φ hgd;have HBB:=Φ hb;have HJ:=Φ hj;clear hw hdg hlen hval hgd hb HGA HGB HBA hj
    by_cases hjn:j<n
    ·have HT:Hid (Calls Tryz.prog 180 #[.slice (some ⟨g,0,none⟩) out.length out.length,.slice (some ⟨gd,0,none⟩) 3 3] wr fun e w'=>
       (∃g' o',e = .returned (.slice (some ⟨g',0,none⟩) o'.length o'.length)∧w'.heap[g']?=some (.cells (us o') 22 (0,0))∧Dig o'∧o'.length=out.length+3∧val o'=val out*val dy)∧Below wr.heap.size wr w'):=Φ (by
      have:=times_any g gd out dy HDO.out HDG.out (by have:=HLO.out;omega) (by rw [HLEN.out];omega) out.length 3 22 22 wr HW.out HGD.out
      rwa [HLEN.out] at this)
     go_wp2_with fail;refine HT.out.mono ?_;rintro e w6 ⟨⟨g',o',rfl,h1,h2,h3,h4⟩,b6⟩;have HA1:=Φ h1;have HA2:=Φ h2;have HA3:Hid (o'.length=1+3*(j+1)):=Φ (by rw [h3,HLO.out];omega);have HA4:Hid (val o'=y ^ (j+1)):=Φ (by rw [h4,HVO.out,HV.out,Nat.pow_succ]);have HA5:Hid (w6.heap[gd]?=some (.cells (us dy) 22 (0,0))):=Φ ((b6.block _ (blk_lt HGD.out)).trans HGD.out);have HA6:=Φ (HBB.out.trans (b6.mono HBB.out.size));clear h1 h2 h3 h4 b6 HT;go_wp2_with fail
     go_roundw
     case rel=>exact⟨j+1,g',o',by omega,by go_num,rfl,HA1.out,HA2.out,HA3.out,HA4.out,HA5.out,HA6.out⟩
     case measure=>simp [intOf];omega
    ·have hjn2:j=n:=by have:=HJ.out;omega
     have HC:=Φ (above_any g out HDO.out (by have:=HLO.out;have:=HJ.out;omega) p n HP.out (by have:=HLO.out;rw [this,hjn2];omega) out.length 22 wr HW.out);rw [HVO.out,hjn2] at HC;clear hjn2
     by_cases hab:p*65536 ^ (2*n)<y ^ n
     ·rw [decide_eq_true hab] at HC;have HN:Hid (rootN p n m x=R):=Φ (by
       have:=HRM.out
       unfold rootN at this
       rwa [← HDM.out,← HY.out,if_pos hab] at this)
      clear hab;go_wp2_with fail;refine HC.out.mono ?_;rintro e w6 ⟨rfl,rfl⟩;go_wp2_with fail
      go_roundw
      case rel=>exact⟨(m:Int) - 1,x,rfl,rfl,by omega,by omega,by rw [show((m:Int) - 1+1).toNat=m from by omega,← HDM.out];omega,by rw [show((m:Int) - 1+1).toNat=m from by omega];exact HN.out,HBB.out⟩
      case measure=>(simp [intOf];try omega)
     ·rw [decide_eq_false hab] at HC;have HN:Hid (rootN p n m y=R):=Φ (by
       have:=HRM.out
       unfold rootN at this
       rwa [← HDM.out,← HY.out,if_neg hab] at this)
      clear hab;go_wp2_with fail;refine HC.out.mono ?_;rintro e w6 ⟨rfl,rfl⟩;go_wp2_with fail
      go_roundw
      case rel=>exact⟨(m:Int) - 1,y,rfl,rfl,by omega,by omega,by rw [show((m:Int) - 1+1).toNat=m from by omega,← HDM.out,HY.out];omega,by rw [show((m:Int) - 1+1).toNat=m from by omega];exact HN.out,HBB.out⟩
      case measure=>(simp [intOf];try omega)
  ·obtain rfl:z = -1:=by omega
   have HF:Hid (x=R):=Φ HRR.out;have hx41:x<18446744073709551616:=by have:=HXB.out;simp at this;omega
   have hbb:bits .and .u64 (x:Int) 4294967295=((UInt32.ofNat (R % 4294967296)).toNat:Int):=by
    have:=u64_and_nat x 4294967295 hx41 (by omega)
    rw [show((4294967295:Nat):Int)=4294967295 from rfl] at this;rw [this,show(4294967295:Nat)=2 ^ 32 - 1 from rfl,Nat.and_two_pow_sub_one_eq_mod,HF.out,w_ofNat _ (Nat.mod_lt _ (by decide))]
   have hlt:=(UInt32.ofNat (R % 4294967296)).toNat_lt;clear HF;generalize hrr:UInt32.ofNat (R % 4294967296)=r at hbb hlt;have HR2:Hid (rootW p n=r):=Φ (by unfold rootW;rw [← HR.out];exact hrr);clear hrr;go_wp2_with fail;go_ret;exact⟨by rw [HR2.out];rfl,HB.out⟩
theorem pr_succ (p:Nat)(h:2≤p): prL (p+1)=prStep (prL p) p:=by
 unfold prL;rw [show p+1 - 2=(p - 2)+1 from by omega,List.range'_concat,List.foldl_append];simp only [List.foldl_cons,List.foldl_nil];rw [show 2+1*(p - 2)=p from by omega]
theorem pr_len (l:List Nat)(p:Nat): l.length≤(prStep l p).length:=by
 unfold prStep
 split<;>simp
theorem pr_mono (p d:Nat)(h:2≤p): (prL p).length≤(prL (p+d)).length:=by
 induction d with
 |zero=>exact Nat.le_refl _
 |succ d ih=>rw [← Nat.add_assoc,pr_succ _ (by omega)];exact Nat.le_trans ih (pr_len _ _)
theorem pr_ge:∀(d:Nat) (q:Nat),q∈prL (2+d)→2≤q∧q<2+d
 |0,q,h=>by simp [prL] at h
 |d+1,q,h=>by
  rw [← Nat.add_assoc,pr_succ _ (by omega)] at h;unfold prStep at h
  split at h
  ·rcases List.mem_append.1 h with h1 | h1
   ·have:=pr_ge d q h1;omega
   ·simp at h1;omega
  ·have:=pr_ge d q h;omega
def First (N P:Nat): Prop:=(prL P).length=N∧(prL (P - 1)).length<N∧3≤P∧P≤312
theorem first8:First 8 20:=by unfold First;decide +kernel
theorem first64:First 64 312:=by unfold First;decide +kernel
theorem first_lt {N P p:Nat}(h:First N P)(hp:2≤p)(hlt:p<P): (prL p).length<N:=by
 have:=pr_mono p (P - 1 - p) hp
 rw [show p+(P - 1 - p)=P - 1 from by omega] at this
 have:=h.2.1
 omega
def cu (l:List Nat): List Value:=l.map fun(x:Nat)=>Value.int .u64 (x:Int)
def Ru (B:Nat)(v:Value)(l:List Nat)(w:World): Prop:=w.ownsRow B 22 1 v l.length (cu l)
theorem Ru.snoc {B:Nat}{v:Value}{l:List Nat}{w:World}{x:Nat}(h:w.ownsRow B 22 1 v (l.length+1) (cu l++[.int .u64 (x:Int)])): Ru B v (l++[x]) w:=by
 have e:cu (l++[x])=cu l++[.int .u64 (x:Int)]:=by simp [cu]
 unfold Ru;rw [e]
 simpa using h
theorem Ru.below {B:Nat}{v:Value}{l:List Nat}{w w':World}(h:Ru B v l w)(hb:Below w.heap.size w w'): Ru B v l w':=by
 refine⟨h.1,?_⟩;rcases h.2 with hn | ⟨g,cap,cur,hv,hg,hh,rest⟩
 ·exact .inl hn
 ·exact .inr ⟨g,cap,cur,hv,hg,(hb.block _ (blk_lt hh)).trans hh,rest⟩
theorem Ru.un {B:Nat}{v:Value}{l:List Nat}{w:World}(h:Ru B v l w)(hl:l≠[]): ∃g cap,v = .slice (some ⟨g,0,none⟩) l.length cap∧∀i (hi:i<l.length),w.cell? ⟨g,i,none⟩=some (.int .u64 (l[i]:Int)):=by
 rcases h.2 with ⟨rfl,h0⟩ | ⟨g,cap,cur,rfl,hg,hh,_⟩
 ·exact absurd (List.eq_nil_of_length_eq_zero h0) hl
 ·refine⟨g,cap,rfl,fun i hi=>?_⟩
  have:=World.ownsRow.cells h (g:=g) rfl i (.int .u64 (l[i]:Int)) (by simp [cu,hi])
  rwa [at0] at this
theorem Ru.len {B:Nat}{v:Value}{l:List Nat}{w:World}(h:Ru B v l w): ∃a cap,v = .slice a l.length cap:=by
 rcases h.2 with ⟨rfl,h0⟩ | ⟨g,cap,cur,rfl,hg,hh,_⟩
 ·exact⟨none,0,by rw [h0]⟩
 ·exact⟨_,cap,rfl⟩
theorem app_u {ops:Array Oper}{rest:List Oper}{o:Oper}{a:Act}{Q:Exit→Act→World→Prop}{w W:World}{v:Value}{l:List Nat}(n:Nat)(s x:Operand)(hgd:o.guard=none)
  (ho:o.op = .call {callee:= .builtin .append,args:=#[s,x],argTypes:=#[178,178]}) (hs:a.eval s=v) (hx:a.eval x = .slice (some ⟨w.heap.size,0,none⟩) 1 1)
  (hI:Ru W.heap.size v l w) (hb:Below W.heap.size W w) (hlen:l.length≤1000)
  (h:∀v' w',Ru W.heap.size v' (l++[n]) w'→Below W.heap.size W w'→wpList Tryz.prog ops Q rest (a.put o.dst v') w'):wpList Tryz.prog ops Q (o::rest) a (w.alloc (.cells #[.int .u64 (n:Int)] 22)):=by
 obtain⟨i0,hi,hz0,hz1,hz2⟩:=info_parts info61;have hI':=hI.below (Below.alloc (Below.refl _ _) (Nat.le_refl _) (.cells #[.int .u64 (n:Int)] 22));have hsz:=hb.size;refine wpList_append_own _ hgd s x 178 ho W.heap.size 22 i0 (.int .u64 0) 1 8 Tryz.underlying178 hi hz0 hz1 hz2 rfl (by decide) v l.length _ hs hI' ⟨w.heap.size,0,none⟩ 1 1 [.int .u64 (n:Int)] hx rfl (World.news_of_block (Go.heap_alloc_new w _)) (by simp [Value.oneCell']) (by unfold maxLen;omega) (by omega) (by simp;omega) ?_;intro v' w' h1 h2 _;exact h v' w' (Ru.snoc h1) ((hb.alloc (by omega) _).grown h2 (by simp;omega) (fun g hk=>(World.ownsRow.lt hI' g hk).1))
def nod (l:List Nat)(p k:Nat): Bool:=(l.take k).all fun q=>decide (p % q≠0)
theorem nod_succ (l:List Nat)(p k:Nat)(h:k<l.length): nod l p (k+1)=(nod l p k&&decide (p % l[k]≠0)):=by
 unfold nod;rw [List.take_succ_eq_append_getElem h,List.all_append];simp
theorem nod_all (l:List Nat)(p:Nat): nod l p l.length=l.all fun q=>decide (p % q≠0):=by
 unfold nod;rw [List.take_length]
set_option maxHeartbeats 4000000 in
set_option maxRecDepth 100000 in
theorem primes_any (N P:Nat)(hF:First N P)(w:World):
  Calls Tryz.prog 153 #[.int .i64 N] w fun e w'=>(∃v,e = .returned v∧Ru w.heap.size v (prL P) w')∧Below w.heap.size w w':=by
 have HF:=Φ hF;clear hF;go_enter Tryz.func153,Tryz.ntmps153;go_wp2_with fail
 go_loopw [3,4] (fun v p wr=>∃q:Nat,2≤q∧q≤P∧p = .int .u64 q∧Ru w.heap.size v (prL q) wr∧Below w.heap.size w wr) (fun _ p _=>P - (intOf p).toNat)
 case atStart=>exact⟨2,by omega,by have:=HF.out.2.2.1;omega,rfl,⟨rfl,.inr ⟨w.heap.size,0,#[],rfl,Nat.le_refl _,Go.heap_alloc_new w _,Nat.le_refl _,Nat.zero_le _,rfl,rfl⟩⟩,(Below.refl _ _).alloc (Nat.le_refl _) _⟩
 case round=>
  obtain⟨q,hq,hqP,rfl,hr,hb⟩:=hrel;have HR:=Φ hr;have HB:=Φ hb;have HQ:=Φ hqP;have hq312:q≤312:=by have:=HF.out.2.2.2;omega
  obtain⟨ad,cap,hv⟩:=hr.len;subst hv;clear hr hb hqP
  by_cases hl:(prL q).length<N
  ·have HPS:=Φ (pr_succ q hq);have HQL:Hid (q<P):=Φ (by
    have:=HQ.out
    rcases Nat.lt_or_ge q P with h | h
    ·exact h
    ·have e:q=P:=by omega
     rw [e,HF.out.1] at hl;omega)
   have HGE:=Φ (fun x (hx:x∈prL q)=>pr_ge (q - 2) x (by rwa [show 2+(q - 2)=q from by omega]));have HNF:Hid ((prL q).length≤1000):=Φ (by
    have h1:=pr_mono q (312 - q) hq;rw [show q+(312 - q)=312 from by omega] at h1;have h2:=first64.1
    omega)
   generalize prL q=l at HR HPS HGE hl HNF;go_wp2_with fail
   go_loopw [5,6] (fun b i wr=>∃k:Nat,k≤l.length∧i = .int .i64 k∧b = .bool (nod l q k)∧Ru w.heap.size (.slice ad l.length cap) l wr∧Below w.heap.size w wr) (fun _ i _=>l.length - (intOf i).toNat)
   case atStart=>exact⟨0,by omega,rfl,rfl,HR.out,HB.out⟩
   case round=>
    obtain⟨k,hk,rfl,rfl,hr,hb⟩:=hrel;have HR2:=Φ hr;have HB2:=Φ hb;clear hr hb HR HB;have hlN:=HNF.out
    by_cases hkl:k<l.length
    ·obtain⟨g,cap2,hv,hc⟩:=HR2.out.un (by intro e;rw [e] at hkl;simp at hkl);simp only [Value.slice.injEq] at hv;obtain⟨rfl,-,rfl⟩:=hv;have ck:=hc k hkl;have HS:=Φ (nod_succ l q k hkl);have hge:=(HGE.out l[k] (List.getElem_mem hkl)).1;generalize l[k]=x at ck HS hge;clear hc;cases hnd:nod l q k with
     |false=>
      rw [hnd] at HS;have HND:=Φ hnd;clear hnd;go_wp2_with fail
      go_roundw
      case rel=>exact⟨k+1,by omega,by go_num,by rw [HS.out];rfl,HR2.out,HB2.out⟩
      case measure=>simp [intOf];omega
     |true=>
      rw [hnd] at HS;have HND:=Φ hnd;clear hnd;have t1:(q:Int).tmod (x:Int)=((q % x:Nat):Int):=by rw [Int.tmod_eq_emod_of_nonneg (by omega)];simp
      have t2:IntKind.u64.wrap ((q % x:Nat):Int)=((q % x:Nat):Int):=IntWalk.u64_in _ (by have:=Nat.mod_le q x;omega);have t3:¬(x:Int)=0:=by omega
      by_cases hm:q % x=0
      ·have HM:Hid (decide (q % x≠0)=false):=Φ (by simp [hm]);rw [hm] at t1;rw [HM.out] at HS;clear hm t2 HM;go_wp2_with fail;exact⟨⟨k+1,by omega,by go_num,by rw [HS.out];rfl,HR2.out,HB2.out⟩,by simp [intOf];omega⟩
      ·have HM:Hid (decide (q % x≠0)=true):=Φ (by simp [hm]);rw [HM.out] at HS;have t4:¬((q % x:Nat):Int)=0:=by omega
       clear hm HM;generalize q % x=r at t1 t2 t4;go_wp2_with fail;exact⟨⟨k+1,by omega,by go_num,by rw [HS.out,show((r:Int) != 0)=true from by simp only [bne_iff_ne,ne_eq];exact t4];rfl,HR2.out,HB2.out⟩,by simp [intOf];omega⟩
    ·have hk2:k=l.length:=by omega
     subst hk2;have HA:=Φ (nod_all l q);clear hkl hk;cases hnd:nod l q l.length with
     |false=>
      have HND:=Φ hnd;rw [hnd] at HA;have e:prL (q+1)=l:=by rw [HPS.out];unfold prStep;rw [← HA.out];rfl
      have HE:=Φ e;clear e hnd;go_wp2_with fail
      have:=HQL.out
      exact⟨⟨q+1,by omega,by omega,by go_num,by rw [HE.out];exact HR2.out,HB2.out⟩,by simp [intOf];omega⟩
     |true=>
      have HND:=Φ hnd;rw [hnd] at HA;have e:prL (q+1)=l++[q]:=by rw [HPS.out];unfold prStep;rw [← HA.out];rfl
      have HE:=Φ e;clear e hnd;go_wp2_with (at_builtin;refine app_u q (.tmp 31) (.tmp 33) rfl rfl rfl rfl HR2.out HB2.out HNF.out ?_;intro v' w' hr3 hb3;have HR3:=Φ hr3;have HB3:=Φ hb3;clear hr3 hb3)
      have:=HQL.out
      exact⟨⟨q+1,by omega,by omega,by go_num,by rw [HE.out];exact HR3.out,HB3.out⟩,by simp [intOf];omega⟩
  ·have HL:=Φ hl;have hqe:q=P:=by
    rcases Nat.lt_or_ge q P with h | h
    ·exact absurd (first_lt HF.out hq h) hl
    ·have:=HQ.out;omega
   subst hqe;go_wp2_with fail;go_ret;exact⟨⟨_,rfl,HR.out⟩,HB.out⟩
def cw (l:List UInt32): List Value:=l.map fun x=>Value.int .u32 (x.toNat:Int)
def Rk (B:Nat)(v:Value)(l:List UInt32)(w:World): Prop:=w.ownsRow B 111 1 v l.length (cw l)
theorem Rk.snoc {B:Nat}{v:Value}{l:List UInt32}{w:World}{x:UInt32}(h:w.ownsRow B 111 1 v (l.length+1) (cw l++[.int .u32 (x.toNat:Int)])): Rk B v (l++[x]) w:=by
 have e:cw (l++[x])=cw l++[.int .u32 (x.toNat:Int)]:=by simp [cw]
 unfold Rk;rw [e]
 simpa using h
theorem Rk.below {B:Nat}{v:Value}{l:List UInt32}{w w':World}(h:Rk B v l w)(hb:Below w.heap.size w w'): Rk B v l w':=by
 refine⟨h.1,?_⟩;rcases h.2 with hn | ⟨g,cap,cur,hv,hg,hh,rest⟩
 ·exact .inl hn
 ·exact .inr ⟨g,cap,cur,hv,hg,(hb.block _ (blk_lt hh)).trans hh,rest⟩
theorem Rk.un {B:Nat}{v:Value}{l:List UInt32}{w:World}(h:Rk B v l w)(hl:l≠[]): ∃g cap,v = .slice (some ⟨g,0,none⟩) l.length cap∧B≤g∧∀i (hi:i<l.length),w.cell? ⟨g,i,none⟩=some (.int .u32 (l[i].toNat:Int)):=by
 rcases h.2 with ⟨rfl,h0⟩ | ⟨g,cap,cur,rfl,hg,hh,_⟩
 ·exact absurd (List.eq_nil_of_length_eq_zero h0) hl
 ·refine⟨g,cap,rfl,hg,fun i hi=>?_⟩
  have:=World.ownsRow.cells h (g:=g) rfl i (.int .u32 (l[i].toNat:Int)) (by simp [cw,hi])
  rwa [at0] at this
theorem info35:(Tryz.prog.info? 111).map (fun i=>(i.zero,i.size,i.bytes))=some (some (.int .u32 0),1,4):=by kernel_rfl
theorem alloc_le (w:World)(o:Obj): w.heap.size≤(w.alloc o).heap.size:=by show w.heap.size≤(w.heap.push _).size;simp
theorem alloc_sz (w:World)(o:Obj): (w.alloc o).heap.size=w.heap.size+1:=by show(w.heap.push _).size=_;simp
theorem app_k {ops:Array Oper}{rest:List Oper}{o:Oper}{a:Act}{Q:Exit→Act→World→Prop}{w W:World}{v:Value}{l:List UInt32}(n:UInt32)(s x:Operand)(hgd:o.guard=none)
  (ho:o.op = .call {callee:= .builtin .append,args:=#[s,x],argTypes:=#[69,69]}) (hs:a.eval s=v) (hx:a.eval x = .slice (some ⟨w.heap.size,0,none⟩) 1 1)
  (hI:Rk W.heap.size v l w) (hb:Below W.heap.size W w) (hlen:l.length≤1000)
  (h:∀v' w',Rk W.heap.size v' (l++[n]) w'→Below W.heap.size W w'→(∀g,g<w.heap.size→v.ownBlock≠some g→w'.heap[g]?=w.heap[g]?)→wpList Tryz.prog ops Q rest (a.put o.dst v') w'):wpList Tryz.prog ops Q (o::rest) a (w.alloc (.cells #[.int .u32 (n.toNat:Int)] 111)):=by
 obtain⟨i0,hi,hz0,hz1,hz2⟩:=info_parts info35;have hI':=hI.below (Below.alloc (Below.refl _ _) (Nat.le_refl _) (.cells #[.int .u32 (n.toNat:Int)] 111));have hsz:=hb.size;refine wpList_append_own _ hgd s x 69 ho W.heap.size 111 i0 (.int .u32 0) 1 4 Tryz.underlying69 hi hz0 hz1 hz2 rfl (by decide) v l.length _ hs hI' ⟨w.heap.size,0,none⟩ 1 1 [.int .u32 (n.toNat:Int)] hx rfl (World.news_of_block (Go.heap_alloc_new w _)) (by simp [Value.oneCell']) (by unfold maxLen;omega) (by omega) (by simp;omega) ?_;intro v' w' h1 h2 _;exact h v' w' (Rk.snoc h1) ((hb.alloc (by omega) _).grown h2 (by simp;omega) (fun g hk=>(World.ownsRow.lt hI' g hk).1)) (fun g hg hn=>(h2.block g (Nat.lt_of_lt_of_le hg (alloc_le _ _)) (fun e=>hn e.symm)).trans (Below.heap_alloc _ _ _ hg))
theorem Rk.not {B:Nat}{v:Value}{l:List UInt32}{w:World}(h:Rk B v l w){g:Nat}{cur:Array Value}{f:Nat×Nat}(hh:w.heap[g]?=some (.cells cur 22 f)): v.ownBlock≠some g:=by
 rcases h.2 with ⟨rfl,h0⟩ | ⟨g',cap,cur',rfl,hg',hh',_⟩
 ·intro e;cases e
 ·intro e;cases e
  rw [hh] at hh';cases hh'
theorem Ru.un' {B:Nat}{v:Value}{l:List Nat}{w:World}(h:Ru B v l w)(hl:l≠[]): ∃g cap,v = .slice (some ⟨g,0,none⟩) l.length cap∧(∃cur f,w.heap[g]?=some (.cells cur 22 f))∧∀i (hi:i<l.length),w.cell? ⟨g,i,none⟩=some (.int .u64 (l[i]:Int)):=by
 obtain⟨g,cap,e,hc⟩:=h.un hl;rcases h.2 with ⟨rfl,h0⟩ | ⟨g',cap',cur,rfl,hg,hh,_⟩
 ·exact absurd (List.eq_nil_of_length_eq_zero h0) hl
 ·cases e
  exact⟨_,_,rfl,⟨_,_,hh⟩,hc⟩
def keyN (l:List Nat)(k:Nat): List UInt32:=(l.take k).map fun p=>rootW p 3
theorem keyN_succ (l:List Nat)(k:Nat)(h:k<l.length): keyN l (k+1)=keyN l k++[rootW l[k] 3]:=by
 unfold keyN;rw [List.take_succ_eq_append_getElem h,List.map_append];rfl
theorem keyN_len (l:List Nat)(k:Nat)(h:k≤l.length): (keyN l k).length=k:=by unfold keyN;simp;omega
theorem keyN_all:keyN (prL 312) 64=kL:=by
 have h:(prL 312).take 64=prL 312:=by rw [← first64.1];exact List.take_length
 unfold keyN;rw [h];exact keys_ok
theorem pr_small:∀p∈prL 312,p<65536:=fun p h=>by have:=(pr_ge 310 p h).2;omega
set_option maxHeartbeats 4000000 in
set_option maxRecDepth 100000 in
theorem keys_any (w:World):
  Calls Tryz.prog 105 #[] w fun e w'=>(∃v,e = .returned v∧Rk w.heap.size v kL w')∧Below w.heap.size w w':=by
 go_enter Tryz.func105,Tryz.ntmps105;go_wp2_with (go_at_call 153;refine(primes_any 64 312 first64 _).mono ?_;rintro e w2 ⟨⟨pv,rfl,hr⟩,hb⟩;have hk0:=(hb.block _ (by rw [alloc_sz];omega)).trans (Go.heap_alloc_new w (.cells #[] 111));have HK0:=Φ hk0;clear hk0;have hb2:=(Below.alloc (Below.refl _ _) (Nat.le_refl _) _).trans (hb.mono (alloc_le _ _));have HB2:=Φ hb2;clear hb hb2;obtain⟨g,cap,hv,hc⟩:=hr.un' (by intro e;have:=first64.1;rw [e] at this;simp at this);obtain⟨⟨cur,f,hcur⟩,hc⟩:=hc;have HC:=Φ hc;have HCU:=Φ hcur;rw [first64.1] at hv;subst hv;clear hc hr hcur)
 go_loopw [1,3] (fun v i wr=>∃k:Nat,k≤64∧i = .int .i64 k∧wr.heap[g]?=w2.heap[g]?∧Rk w.heap.size v (keyN (prL 312) k) wr∧Below w.heap.size w wr) (fun _ i _=>64 - (intOf i).toNat)
 case atStart=>exact⟨0,by omega,rfl,rfl,⟨rfl,.inr ⟨w.heap.size,0,#[],rfl,Nat.le_refl _,HK0.out,Nat.le_refl _,Nat.zero_le _,rfl,rfl⟩⟩,HB2.out⟩
 case round=>
  clear HK0 HB2;obtain⟨k,hk,rfl,hp,hr,hb⟩:=hrel;have HR:=Φ hr;have HB:=Φ hb;have HP:=Φ hp;have hlen:=keyN_len (prL 312) k (by rw [first64.1];exact hk);have hlp:=first64.1
  by_cases hk64:k<64
  ·have ck:=(World.cell?_of_block (w:=w2) (w':=wr) (a:=⟨g,k,none⟩) hp).trans (HC.out k (by rw [hlp];exact hk64));have hsm:=pr_small _ (List.getElem_mem (l:=prL 312) (n:=k) (by rw [hlp];exact hk64));have HS:=Φ (keyN_succ (prL 312) k (by rw [hlp];exact hk64));generalize (prL 312)[k]'(by rw [hlp];exact hk64)=p at ck HS hsm;clear hp hr hb hlp;generalize keyN (prL 312) k=l at HR HS hlen;have HRT:=Φ (root_any p 3 hsm (.inr rfl));have HG:=Φ (blk_lt (HP.out.trans HCU.out));go_wp2_with (first | (go_at_call 154;refine(HRT.out _).mono ?_;rintro e w3 ⟨rfl,hb⟩;have HBR:=Φ hb;clear hb;obtain⟨r,hrr⟩:∃r,rootW p 3=r:=⟨_,rfl⟩;rw [hrr] at HS;rw [hrr];have hrl:=r.toNat_lt) | (at_builtin;refine app_k r (.tmp 10) (.tmp 16) rfl rfl rfl rfl (HR.out.below (HBR.out.mono (by have:=HB.out.size;omega))) (HB.out.trans (HBR.out.mono HB.out.size)) (by omega) ?_;intro v' w' hr3 hb3 hk3;have HR3:=Φ hr3;have HB3:=Φ hb3;have HK3:=Φ (((hk3 g (Nat.lt_of_lt_of_le HG.out HBR.out.size) (HR.out.not (HP.out.trans HCU.out))).trans (HBR.out.block _ HG.out)).trans HP.out);clear hr3 hb3 hk3));exact⟨⟨k+1,by omega,by go_num,HK3.out,by rw [HS.out];exact HR3.out,HB3.out⟩,by simp [intOf];omega⟩
  ·obtain rfl:k=64:=by omega
   rw [keyN_all] at HR;go_wp2_with fail;go_ret;exact⟨⟨_,rfl,HR.out⟩,HB.out⟩
end Hs
namespace Hs
open Go.RowKit
set_option maxHeartbeats 1000000
theorem or_swap (a b:Int): bits .or .u32 a b=bits .or .u32 b a:=by
 simp only [bits,BitVec.or_comm]
theorem rr2 (x:UInt32)(w:World):
  Calls Tryz.prog 179 #[.int .u32 (x.toNat:Int),.int .i64 2] w fun e w'=>e = .returned (.int .u32 ((rorW x 2).toNat:Int))∧w'=w.drew:=by
 have hx:=x.toNat_lt;have ho:bits BinOp.or IntKind.u32 ((x.toNat:Int) / 4) ((x.toNat:Int)*1073741824 % 4294967296)=((rorW x 2).toNat:Int):=(or_swap _ _).trans (or_ror x 2 1073741824 4 (by decide) (by decide));go_enter Tryz.func179,Tryz.ntmps179;go_wp2_with fail
 go_region
 go_wp2_with fail;go_ret;exact⟨rfl,rfl⟩
theorem rr6 (x:UInt32)(w:World):
  Calls Tryz.prog 179 #[.int .u32 (x.toNat:Int),.int .i64 6] w fun e w'=>e = .returned (.int .u32 ((rorW x 6).toNat:Int))∧w'=w.drew:=by
 have hx:=x.toNat_lt;have ho:bits BinOp.or IntKind.u32 ((x.toNat:Int) / 64) ((x.toNat:Int)*67108864 % 4294967296)=((rorW x 6).toNat:Int):=(or_swap _ _).trans (or_ror x 6 67108864 64 (by decide) (by decide));go_enter Tryz.func179,Tryz.ntmps179;go_wp2_with fail
 go_region
 go_wp2_with fail;go_ret;exact⟨rfl,rfl⟩
theorem rr7 (x:UInt32)(w:World):
  Calls Tryz.prog 179 #[.int .u32 (x.toNat:Int),.int .i64 7] w fun e w'=>e = .returned (.int .u32 ((rorW x 7).toNat:Int))∧w'=w.drew:=by
 have hx:=x.toNat_lt;have ho:bits BinOp.or IntKind.u32 ((x.toNat:Int) / 128) ((x.toNat:Int)*33554432 % 4294967296)=((rorW x 7).toNat:Int):=(or_swap _ _).trans (or_ror x 7 33554432 128 (by decide) (by decide));go_enter Tryz.func179,Tryz.ntmps179;go_wp2_with fail
 go_region
 go_wp2_with fail;go_ret;exact⟨rfl,rfl⟩
theorem rr11 (x:UInt32)(w:World):
  Calls Tryz.prog 179 #[.int .u32 (x.toNat:Int),.int .i64 11] w fun e w'=>e = .returned (.int .u32 ((rorW x 11).toNat:Int))∧w'=w.drew:=by
 have hx:=x.toNat_lt;have ho:bits BinOp.or IntKind.u32 ((x.toNat:Int) / 2048) ((x.toNat:Int)*2097152 % 4294967296)=((rorW x 11).toNat:Int):=(or_swap _ _).trans (or_ror x 11 2097152 2048 (by decide) (by decide));go_enter Tryz.func179,Tryz.ntmps179;go_wp2_with fail
 go_region
 go_wp2_with fail;go_ret;exact⟨rfl,rfl⟩
theorem rr13 (x:UInt32)(w:World):
  Calls Tryz.prog 179 #[.int .u32 (x.toNat:Int),.int .i64 13] w fun e w'=>e = .returned (.int .u32 ((rorW x 13).toNat:Int))∧w'=w.drew:=by
 have hx:=x.toNat_lt;have ho:bits BinOp.or IntKind.u32 ((x.toNat:Int) / 8192) ((x.toNat:Int)*524288 % 4294967296)=((rorW x 13).toNat:Int):=(or_swap _ _).trans (or_ror x 13 524288 8192 (by decide) (by decide));go_enter Tryz.func179,Tryz.ntmps179;go_wp2_with fail
 go_region
 go_wp2_with fail;go_ret;exact⟨rfl,rfl⟩
theorem rr17 (x:UInt32)(w:World):
  Calls Tryz.prog 179 #[.int .u32 (x.toNat:Int),.int .i64 17] w fun e w'=>e = .returned (.int .u32 ((rorW x 17).toNat:Int))∧w'=w.drew:=by
 have hx:=x.toNat_lt;have ho:bits BinOp.or IntKind.u32 ((x.toNat:Int) / 131072) ((x.toNat:Int)*32768 % 4294967296)=((rorW x 17).toNat:Int):=(or_swap _ _).trans (or_ror x 17 32768 131072 (by decide) (by decide));go_enter Tryz.func179,Tryz.ntmps179;go_wp2_with fail
 go_region
 go_wp2_with fail;go_ret;exact⟨rfl,rfl⟩
theorem rr18 (x:UInt32)(w:World):
  Calls Tryz.prog 179 #[.int .u32 (x.toNat:Int),.int .i64 18] w fun e w'=>e = .returned (.int .u32 ((rorW x 18).toNat:Int))∧w'=w.drew:=by
 have hx:=x.toNat_lt;have ho:bits BinOp.or IntKind.u32 ((x.toNat:Int) / 262144) ((x.toNat:Int)*16384 % 4294967296)=((rorW x 18).toNat:Int):=(or_swap _ _).trans (or_ror x 18 16384 262144 (by decide) (by decide));go_enter Tryz.func179,Tryz.ntmps179;go_wp2_with fail
 go_region
 go_wp2_with fail;go_ret;exact⟨rfl,rfl⟩
theorem rr19 (x:UInt32)(w:World):
  Calls Tryz.prog 179 #[.int .u32 (x.toNat:Int),.int .i64 19] w fun e w'=>e = .returned (.int .u32 ((rorW x 19).toNat:Int))∧w'=w.drew:=by
 have hx:=x.toNat_lt;have ho:bits BinOp.or IntKind.u32 ((x.toNat:Int) / 524288) ((x.toNat:Int)*8192 % 4294967296)=((rorW x 19).toNat:Int):=(or_swap _ _).trans (or_ror x 19 8192 524288 (by decide) (by decide));go_enter Tryz.func179,Tryz.ntmps179;go_wp2_with fail
 go_region
 go_wp2_with fail;go_ret;exact⟨rfl,rfl⟩
theorem rr22 (x:UInt32)(w:World):
  Calls Tryz.prog 179 #[.int .u32 (x.toNat:Int),.int .i64 22] w fun e w'=>e = .returned (.int .u32 ((rorW x 22).toNat:Int))∧w'=w.drew:=by
 have hx:=x.toNat_lt;have ho:bits BinOp.or IntKind.u32 ((x.toNat:Int) / 4194304) ((x.toNat:Int)*1024 % 4294967296)=((rorW x 22).toNat:Int):=(or_swap _ _).trans (or_ror x 22 1024 4194304 (by decide) (by decide));go_enter Tryz.func179,Tryz.ntmps179;go_wp2_with fail
 go_region
 go_wp2_with fail;go_ret;exact⟨rfl,rfl⟩
theorem rr25 (x:UInt32)(w:World):
  Calls Tryz.prog 179 #[.int .u32 (x.toNat:Int),.int .i64 25] w fun e w'=>e = .returned (.int .u32 ((rorW x 25).toNat:Int))∧w'=w.drew:=by
 have hx:=x.toNat_lt;have ho:bits BinOp.or IntKind.u32 ((x.toNat:Int) / 33554432) ((x.toNat:Int)*128 % 4294967296)=((rorW x 25).toNat:Int):=(or_swap _ _).trans (or_ror x 25 128 33554432 (by decide) (by decide));go_enter Tryz.func179,Tryz.ntmps179;go_wp2_with fail
 go_region
 go_wp2_with fail;go_ret;exact⟨rfl,rfl⟩
theorem four31 (x:UInt32)(w:World):
  Calls Tryz.prog 178 #[.int .u32 (x.toNat:Int)] w fun e w'=>e = .returned (.slice (some ⟨w.heap.size,0,none⟩) 4 4)∧w'=w.alloc (.cells (bs (fourL x)) 5):=by
 have hx:=x.toNat_lt;have hf:bs (fourL x)=#[.int .u8 ((x.toNat:Int) / 16777216),.int .u8 ((x.toNat:Int) / 65536 % 256),.int .u8 ((x.toNat:Int) / 256 % 256),.int .u8 ((x.toNat:Int) % 256)]:=by
  unfold bs;rw [fourL_get]
 rw [hf];go_enter Tryz.func178,Tryz.ntmps178
 go_wp2
 go_ret;exact⟨rfl,rfl⟩
end Hs
namespace Hs
open Go.RowKit Go.Sort
def Rwm (B:Nat)(v:Value)(l:List UInt8)(w:World): Prop:=w.ownsRow B 5 1 v l.length (Lib.byteCells l)
theorem Rwm.snoc {B:Nat}{v:Value}{l:List UInt8}{w:World}{c:UInt8}(h:w.ownsRow B 5 1 v (l.length+1) (Lib.byteCells l++[.int .u8 c.toNat])): Rwm B v (l++[c]) w:=by
 have e:Lib.byteCells (l++[c])=Lib.byteCells l++[.int .u8 c.toNat]:=by rw [Lib.byteCells_append];rfl
 unfold Rwm;rw [e]
 simpa using h
theorem Rwm.conv {B:Nat}{v:Value}{l:List UInt8}{w:World}(h:Rwm B v l w): (convert 101 9 v).run Tryz.prog w = .ok (.string ⟨l.toArray⟩) w:=by
 rcases h.2 with ⟨rfl,h0⟩ | ⟨g,cap,cur,rfl,hg,hh,_⟩
 ·obtain rfl:l=[]:=List.eq_nil_of_length_eq_zero h0;exact Lib.run_convert_nil_bytes w 101 9 5 _ Tryz.underlying101 Tryz.underlying5 Tryz.underlying9
 ·refine run_convert_bytes_back w 101 9 5 _ cap l Tryz.underlying101 Tryz.underlying5 Tryz.underlying9 (fun j hj=>?_);exact World.ownsRow.cells h (g:=g) rfl j _ (by simp [Lib.byteCells,hj])
theorem Rwm.keep {B:Nat}{v:Value}{l:List UInt8}{w w':World}(h:Rwm B v l w)(hb:∀g,v.ownBlock=some g→g<w.heap.size→w'.heap[g]?=w.heap[g]?): Rwm B v l w':=by
 refine⟨h.1,?_⟩;rcases h.2 with hn | ⟨g,cap,cur,hv,hg,hh,rest⟩
 ·exact .inl hn
 ·exact .inr ⟨g,cap,cur,hv,hg,(hb g (by rw [hv];rfl) (blk_lt hh)).trans hh,rest⟩
theorem Rwm.below {B:Nat}{v:Value}{l:List UInt8}{w w':World}(h:Rwm B v l w)(hb:Below w.heap.size w w'): Rwm B v l w':=h.keep fun g _ hg=>hb.block g hg
def Fst (v:Value)(l:List UInt8)(w:World): Prop:=l=[]→∀g,v.ownBlock=some g→g<w.heap.size∧w.cell? ⟨g,0,none⟩=none
structure Two (W w:World)(va vb:Value)(la lb:List UInt8): Prop where
 a:Rwm W.heap.size va la w
 b:Rwm W.heap.size vb lb w
 apart:∀g,va.ownBlock=some g→vb.ownBlock≠some g
 fa:Fst va la w
 fb:Fst vb lb w
 below:Below W.heap.size W w
theorem Two.swap {W w:World}{va vb:Value}{la lb:List UInt8}(h:Two W w va vb la lb): Two W w vb va lb la:=
 ⟨h.b,h.a,fun g hg hg'=>h.apart g hg' hg,h.fb,h.fa,h.below⟩
theorem Two.on {W w w':World}{va vb:Value}{la lb:List UInt8}(h:Two W w va vb la lb)(b:Below w.heap.size w w'): Two W w' va vb la lb:=by
 refine⟨h.a.below b,h.b.below b,h.apart,fun e g hg=>?_,fun e g hg=>?_,h.below.trans (b.mono h.below.size)⟩
 ·obtain⟨h1,h2⟩:=h.fa e g hg;exact⟨Nat.lt_of_lt_of_le h1 b.size,(b.cell (p:=⟨g,0,none⟩) h1).trans h2⟩
 ·obtain⟨h1,h2⟩:=h.fb e g hg;exact⟨Nat.lt_of_lt_of_le h1 b.size,(b.cell (p:=⟨g,0,none⟩) h1).trans h2⟩
def bl (l:List UInt8): List Value:=l.map fun x=>Value.int .u8 (x.toNat:Int)
theorem bl_bs (l:List UInt8): (bl l).toArray=bs l:=rfl
theorem bl_len (l:List UInt8): (bl l).length=l.length:=by simp [bl]
theorem bl_one (l:List UInt8): ∀v∈bl l,v.oneCell'=true:=by
 intro v hv;simp [bl] at hv;obtain⟨a,_,rfl⟩:=hv;rfl
theorem bl_app (a b:List UInt8): bl (a++b)=bl a++bl b:=by simp [bl]
def Off (fz:Nat×Nat)(n:Nat): Prop:=fz.2=0∨n≤fz.1
theorem run_storeM (P:Program)(g o:Nat)(t:TypeId)(fz:Nat×Nat): ∀(vs:List Value) (i:Nat) (cur:Array Value) (w:World),w.heap[g]?=some (.cells cur t fz)→Off fz cur.size→o+i+vs.length≤cur.size→(∀v∈vs,v.oneCell'=true)→
  (storeCells ⟨g,o,none⟩ vs i).run P w = .ok () (w.setRow g (cur.toList.take (o+i)++vs++cur.toList.drop (o+i+vs.length)).toArray)
 |[],i,cur,w,hg,_,_,_=>by
  simp only [storeCells,List.append_nil,List.length_nil,Nat.add_zero,List.take_append_drop,Array.toArray_toList];rw [setRow_self w g cur t fz hg];rfl
 |v::rest,i,cur,w,hg,hfz,hl,h1=>by
  have hi:o+i<cur.size:=by simp at hl;omega
  have hadd:(⟨g,o,none⟩:Addr).add i=⟨g,o+i,none⟩:=by unfold Addr.add;split<;>simp_all
  have hcell:w.cell? ⟨g,o+i,none⟩=some cur[o+i]:=by simp [World.cell?,hg,hi]
  have hfro:w.frozen? ⟨g,o+i,none⟩=false:=by
   obtain⟨lo,hi'⟩:=fz;simp only [World.frozen?,hg,Bool.and_eq_false_iff,decide_eq_false_iff_not];rcases hfz with h | h
   ·right;simp only at h;omega
   ·left;simp only at h;omega
  have hst:(store ((⟨g,o,none⟩:Addr).add i) v).run P w = .ok () (w.setRow g (cur.setIfInBounds (o+i) v)):=by
   rw [hadd,run_store P w _ v _ (h1 v (by simp)),hcell];simp [hfro,setCell_eq_setRow w g (o+i) cur t fz v hg]
  have ih:=run_storeM P g o t fz rest (i+1) (cur.setIfInBounds (o+i) v) (w.setRow g (cur.setIfInBounds (o+i) v)) (setRow_heap w g cur _ t _ hg) (by simpa using hfz) (by simp at hl ⊢;omega) (fun x hx=>h1 x (by simp [hx]));simp only [storeCells,Sem.run_bind,hst,Result.andThen_ok,ih,setRow_setRow]
  congr 3
  have e:=list_seg_step cur.toList (o+i) v rest (by simp at hl ⊢;omega)
  simpa [Array.toList_setIfInBounds,Nat.add_assoc] using e
def Rm (B:Nat)(v:Value)(l:List UInt8)(w:World): Prop:=
 ∃g cap cur fz,v = .slice (some ⟨g,0,none⟩) l.length cap∧B≤g∧w.heap[g]?=some (.cells cur 5 fz)∧Off fz cur.size∧l.length≤cap∧cap≤maxLen∧cur.size=cap∧cur.toList.take l.length=bl l
theorem Rm.below {B:Nat}{v:Value}{l:List UInt8}{w w':World}(h:Rm B v l w)(hb:Below w.heap.size w w'): Rm B v l w':=by
 obtain⟨g,cap,cur,fz,hv,hg,hh,rest⟩:=h;exact⟨g,cap,cur,fz,hv,hg,(hb.block _ (blk_lt hh)).trans hh,rest⟩
theorem Rm.un {B:Nat}{v:Value}{l:List UInt8}{w:World}(h:Rm B v l w): ∃g cap,v = .slice (some ⟨g,0,none⟩) l.length cap∧B≤g∧g<w.heap.size∧(∃cur fz,w.heap[g]?=some (.cells cur 5 fz))∧∀i (hi:i<l.length),w.cell? ⟨g,i,none⟩=some (.int .u8 (l[i].toNat:Int)):=by
 obtain⟨g,cap,cur,fz,rfl,hg,hh,_,hlc,_,hcs,htk⟩:=h;refine⟨g,cap,rfl,hg,blk_lt hh,⟨_,_,hh⟩,fun i hi=>?_⟩;rw [blk_cell hh i];have h1:(bl l)[i]?=some (.int .u8 (l[i].toNat:Int)):=by simp [bl,hi]
 rw [← htk,List.getElem?_take,if_pos hi] at h1
 simpa using h1
theorem Rm.conv {B:Nat}{v:Value}{l:List UInt8}{w:World}(h:Rm B v l w): (convert 101 9 v).run Tryz.prog w = .ok (.string ⟨l.toArray⟩) w:=by
 obtain⟨g,cap,rfl,_,_,_,hc⟩:=h.un;exact run_convert_bytes_back w 101 9 5 _ cap l Tryz.underlying101 Tryz.underlying5 Tryz.underlying9 (fun j hj=>by rw [at0];exact hc j hj)
theorem conv_m (s:List UInt8)(hs:s.length≤maxLen)(w:World): ∃v w',(convert 9 101 (.string ⟨s.toArray⟩)).run Tryz.prog w = .ok v w'∧Rm w.heap.size v s w'∧Below w.heap.size w w':=by
 refine⟨_,_,run_bytes_of_string w 9 101 5 _ Tryz.underlying9 Tryz.underlying101 Tryz.underlying5,⟨w.heap.size,_,_,_,by rw [size_ba],Nat.le_refl _,Go.heap_alloc_new w.drew _,.inr (Nat.le_refl _),?_,?_,?_,?_⟩,(Below.refl _ _).drew.alloc (Nat.le_refl _) _⟩
 ·have:=grownCap_ge w (⟨s.toArray⟩:ByteArray).size 0 5;rwa [size_ba] at this
 ·exact grownCap_le_maxLen _ _ _ _ hs
 ·have:=grownCap_ge w (⟨s.toArray⟩:ByteArray).size 0 5
  rw [size_ba] at this;simp [bytesRow,size_ba];omega
 ·simp [bytesRow,bl]
theorem app_m {ops:Array Oper}{rest:List Oper}{o:Oper}{a:Act}{Q:Exit→Act→World→Prop}{w:World}{B:Nat}{v:Value}{l:List UInt8}(nl:List UInt8)(bx c:Nat)(s x:Operand)(hgd:o.guard=none)
  (ho:o.op = .call {callee:= .builtin .append,args:=#[s,x],argTypes:=#[101,101]}) (hs:a.eval s=v) (hx:a.eval x = .slice (some ⟨bx,0,none⟩) nl.length c) (hbx:w.heap[bx]?=some (.cells (bs nl) 5 (0,0)))
  (hI:Rm B v l w) (hB:B≤w.heap.size) (hlen:l.length+nl.length≤140737488355328)
  (h:∀v' w',Rm B v' (l++nl) w'→Below B w w'→(∀k,k<w.heap.size→v.ownBlock≠some k→w'.heap[k]?=w.heap[k]?)→wpList Tryz.prog ops Q rest (a.put o.dst v') w'):wpList Tryz.prog ops Q (o::rest) a w:=by
 obtain⟨i0,hi,hz0,hz1,hz2⟩:=info_parts infoByte;have HI:=hI;obtain⟨g,cap,cur,fz,rfl,hbg,hg,hoff,hlc,hcm,hcs,htk⟩:=hI;have hnews:∀j u,(bl nl)[j]?=some u→w.cell? ((⟨bx,0,none⟩:Addr).add j)=some u:=fun j u hu=>by
  rw [at0,blk_cell hbx,← bl_bs];simpa using hu
 have hgw:=blk_lt hg
 by_cases hroom:l.length+nl.length≤cap
 ·have hf:=run_firstCells_some (P:=Tryz.prog) w 1 nl.length ⟨bx,0,none⟩ nl.length c (bl nl) (by rw [bl_len,Nat.mul_one]) hnews;have hst:=run_storeM Tryz.prog g l.length 5 fz (bl nl) 0 cur w hg hoff (by rw [bl_len];omega) (bl_one nl);simp only [Nat.add_zero] at hst;have hr:(Builtin.append_ #[101,101] o.type #[.slice (some ⟨g,0,none⟩) l.length cap,.slice (some ⟨bx,0,none⟩) nl.length c]).run Tryz.prog w = .ok (.slice (some ⟨g,0,none⟩) (l.length+nl.length) cap) (w.setRow g (cur.toList.take l.length++bl nl++cur.toList.drop (l.length+(bl nl).length)).toArray):=by
   simp [Builtin.append_,run_underlying Tryz.underlying101,sizeOf,typeInfo,hi,hz1,Builtin.lenOf,hroom,hf,Addr.add_lit,hst]
  refine Lib.wpList_append_run w hgd s x 101 101 ho _ _ hs hx _ _ hr (h _ _ ?_ ?_ ?_)
  ·refine⟨g,cap,_,fz,by rw [List.length_append],hbg,setRow_heap w g cur _ 5 _ hg,?_,by rw [List.length_append];exact hroom,hcm,?_,?_⟩
   ·have e:(cur.toList.take l.length++bl nl++cur.toList.drop (l.length+(bl nl).length)).toArray.size=cur.size:=by simp [bl_len];omega
    rw [e];exact hoff
   ·simp [bl_len];omega
   ·rw [htk,← bl_app,← bl_len (l++nl)];simp only [];exact List.take_left
  ·exact⟨rfl,rfl,rfl,by rw [setRow_size];exact Nat.le_refl _,fun k hk=>setRow_other w g k _ (by omega)⟩
  ·exact fun k _ hk=>setRow_other w g k _ (fun e=>hk (by simp [Value.ownBlock,e]))
 ·obtain⟨_,_,_,_,_,_,hc⟩:=HI.un;have holds:∀j u,(bl l)[j]?=some u→w.cell? ((⟨g,0,none⟩:Addr).add j)=some u:=fun j u hu=>by
   rw [at0,blk_cell hg j];rw [← htk,List.getElem?_take] at hu
   split at hu
   ·simpa using hu
   ·cases hu
  have hr:=run_append_grow (P:=Tryz.prog) w 101 o.type 5 i0 (.int .u8 0) Tryz.underlying101 hi hz0 ⟨g,0,none⟩ l.length cap (bl l) (by rw [bl_len,hz1,Nat.mul_one]) holds ⟨bx,0,none⟩ nl.length c (bl nl) (by rw [bl_len,hz1,Nat.mul_one]) hnews (by omega) (by omega) (by rw [hz2];exact growslice_fits (by omega) (by omega));have hge:=grownCap_ge w (l.length+nl.length) cap 5;refine Lib.wpList_append_run w hgd s x 101 101 ho _ _ hs hx _ _ hr (h _ _ ?_ ?_ ?_)
  ·refine⟨w.heap.size,_,_,(0,0),by rw [List.length_append],hB,Go.heap_alloc_new w.drew _,.inl rfl,by rw [List.length_append];exact hge,grownCap_le_maxLen w _ cap 5 (by unfold maxLen;omega),?_,?_⟩
   ·have hz1':(Value.int IntKind.u8 0).cells.size=1:=rfl;simp only [Array.size_append,List.size_toArray,size_zeroCells,hz1',bl_len];omega
   ·simp only [Array.toList_append,List.append_assoc];rw [← List.append_assoc,← bl_app,← bl_len (l++nl)];exact List.take_left
  ·exact(Below.refl _ _).drew.alloc hB _
  ·exact fun k hk _=>Below.heap_alloc w.drew _ k hk
end Hs
namespace Hs
theorem numsTo_succ (b:List UInt8)(n:Nat): numsTo b (n+1)=nstep b (numsTo b n) n:=by
 simp [numsTo,List.range_succ]
theorem numsTo_len (b:List UInt8)(n:Nat): (numsTo b n).length=16:=by
 induction n with
 |zero=>simp [numsTo]
 |succ n ih=>rw [numsTo_succ,nstep,List.length_set,ih]
theorem nums_zero (b:List UInt8)(k:Nat): ∀n,n≤4*k→(numsTo b n).getD k 0=0
 |0,_=>by
  simp only [numsTo,List.range_zero,List.foldl_nil];rw [List.getD_eq_getElem?_getD,List.getElem?_replicate]
  split<;>rfl
 |n+1,h=>by
  rw [numsTo_succ,nstep,List.getD_eq_getElem?_getD,List.getElem?_set_ne (by omega),← List.getD_eq_getElem?_getD];exact nums_zero b k n (by omega)
def word4 (a b c d:UInt8): UInt32:=UInt32.ofNat (a.toNat*16777216+b.toNat*65536+c.toNat*256+d.toNat)
theorem sh8_4 (a b c d:UInt8): sh8 (sh8 (sh8 (sh8 0 a) b) c) d=word4 a b c d:=by
 have ha:=a.toNat_lt;have hb:=b.toNat_lt;have hc:=c.toNat_lt;have hd:=d.toNat_lt;apply UInt32.toNat_inj.1
 simp only [sh8,word4,UInt32.toNat_ofNat',UInt32.toNat_zero];omega
theorem word4_nat (a b c d:UInt8): (word4 a b c d).toNat=a.toNat*16777216+b.toNat*65536+c.toNat*256+d.toNat:=by
 have ha:=a.toNat_lt;have hb:=b.toNat_lt;have hc:=c.toNat_lt;have hd:=d.toNat_lt;rw [word4,UInt32.toNat_ofNat'];omega
theorem nums_word (b:List UInt8)(i:Nat)(hi:i<16): numsTo b (4*(i+1))=(numsTo b (4*i)).set i (word4 (b.getD (4*i) 0) (b.getD (4*i+1) 0) (b.getD (4*i+2) 0) (b.getD (4*i+3) 0)):=by
 have h0:=nums_zero b i (4*i) (Nat.le_refl _);have hl:=numsTo_len b (4*i);rw [show 4*(i+1)=4*i+3+1 from by omega,numsTo_succ,show 4*i+3=4*i+2+1 from by omega,numsTo_succ,show 4*i+2=4*i+1+1 from by omega,numsTo_succ,numsTo_succ];simp only [nstep];rw [show(4*i+1+1+1) / 4=i from by omega,show(4*i+1+1) / 4=i from by omega,show(4*i+1) / 4=i from by omega,show 4*i / 4=i from by omega];generalize numsTo b (4*i)=l at h0 hl;have hg:∀(m:List UInt32) (x:UInt32),m.length=16→(m.set i x).getD i 0=x:=fun m x hm=>by
  rw [List.getD_eq_getElem?_getD,List.getElem?_set_self (by omega)];rfl
 simp only [List.set_set];rw [hg _ _ hl,hg _ _ hl,hg _ _ hl,h0];rw [sh8_4]
def wTo (b:List UInt8)(i:Nat): List UInt32:=numsTo b (4*i)++List.replicate 48 0
theorem wTo_len (b:List UInt8)(i:Nat): (wTo b i).length=64:=by simp [wTo,numsTo_len]
theorem wTo_0 (b:List UInt8): wTo b 0=List.replicate 64 0:=by
 simp only [wTo,numsTo,Nat.mul_zero,List.range_zero,List.foldl_nil];rw [List.replicate_append_replicate]
theorem wTo_succ (b:List UInt8)(i:Nat)(hi:i<16): (wTo b i).set i (word4 (b.getD (4*i) 0) (b.getD (4*i+1) 0) (b.getD (4*i+2) 0) (b.getD (4*i+3) 0))=wTo b (i+1):=by
 unfold wTo;rw [nums_word b i hi,List.set_append_left _ _ (by rw [numsTo_len];exact hi)]
theorem wTo_16 (b:List UInt8): wTo b 16=spreadTo (numsL b) 16:=by
 simp [wTo,spreadTo,numsL]
theorem chunk_get (p:List UInt8)(o i:Nat)(hi:i<64)(h:o+i<p.length): ((p.drop o).take 64).getD i 0=p[o+i]'h:=by
 rw [List.getD_eq_getElem?_getD,List.getElem?_take,if_pos hi,List.getElem?_drop,List.getElem?_eq_getElem h];rfl
theorem ch_w (e f g:UInt32): e&&&f ^^^ (4294967295 ^^^ e)&&&g=Ch e f g:=by
 unfold Ch;have h:∀(x y z:BitVec 32),x&&&y ^^^ (4294967295#32 ^^^ x)&&&z=x&&&y ^^^ z&&&~~~x:=by
  intro x y z;apply BitVec.eq_of_getLsbD_eq
  intro i hi;have h1:(4294967295#32).getLsbD i=true:=by
   rw [show(4294967295#32)=BitVec.allOnes 32 from rfl,BitVec.getLsbD_allOnes];simpa using hi
  simp only [BitVec.getLsbD_xor,BitVec.getLsbD_and,BitVec.getLsbD_not,h1,hi,decide_true,Bool.true_and];cases x.getLsbD i<;>cases y.getLsbD i<;>cases z.getLsbD i<;>rfl
 apply UInt32.toBitVec_inj.1
 simp only [UInt32.toBitVec_xor,UInt32.toBitVec_and,UInt32.toBitVec_not];exact h _ _ _
theorem turn_ref (a b c d e f g h k n:UInt32): turnL [a,b,c,d,e,f,g,h] (k+n) =
  [(h+S1 e+(e&&&f ^^^ (4294967295 ^^^ e)&&&g)+k+n)+(S0 a+Maj a b c),a,b,c,d+(h+S1 e+(e&&&f ^^^ (4294967295 ^^^ e)&&&g)+k+n),e,f,g]:=by
 rw [ch_w];simp only [turnL,UInt32.add_assoc]
theorem eight (l:List UInt32)(h:l.length=8): ∃a b c d e f g i,l=[a,b,c,d,e,f,g,i]:=by
 match l,h with
 |[a,b,c,d,e,f,g,i],_=>exact⟨a,b,c,d,e,f,g,i,rfl⟩
theorem next_zip (h:List UInt32)(hl:h.length=8)(b:List UInt8): zipTo h (turnsTo (spreadL (numsL b)) h 64) 8=nextL h b:=by
 rw [zipTo_all _ _ hl (turns_length _ _ hl _),nextL];apply List.ext_getElem
 ·simp [Nat.min_comm]
 ·intro i h1 h2;simp [UInt32.add_comm]
theorem zip_0 (v h:List UInt32): zipTo v h 0=v:=by simp [zipTo]
theorem thr_len:∀(n:Nat) (h:List UInt32) (s:List UInt8),h.length=8→(thrL n h s).length=8
 |0,h,s,hl=>hl
 |n+1,h,s,hl=>thr_len n _ _ (by unfold nextL;simp [turns_length _ _ hl,hl])
end Hs
namespace Hs
open Go.RowKit Go.Sort
theorem app_kl {ops:Array Oper}{rest:List Oper}{o:Oper}{a:Act}{Q:Exit→Act→World→Prop}{w:World}{B:Nat}{v:Value}{l:List UInt32}(nl:List UInt32)(bx c:Nat)(s x:Operand)(hgd:o.guard=none)
  (ho:o.op = .call {callee:= .builtin .append,args:=#[s,x],argTypes:=#[69,69]}) (hs:a.eval s=v) (hx:a.eval x = .slice (some ⟨bx,0,none⟩) nl.length c) (hbx:w.heap[bx]?=some (.cells (ws nl) 111 (0,0)))
  (hI:Rk B v l w) (hB:B≤w.heap.size) (hlen:l.length+nl.length≤1000)
  (h:∀v' w',Rk B v' (l++nl) w'→Below B w w'→wpList Tryz.prog ops Q rest (a.put o.dst v') w'):wpList Tryz.prog ops Q (o::rest) a w:=by
 obtain⟨i0,hi,hz0,hz1,hz2⟩:=info_parts info35;refine wpList_append_own _ hgd s x 69 ho B 111 i0 (.int .u32 0) 1 4 Tryz.underlying69 hi hz0 hz1 hz2 rfl (by decide) v l.length _ hs hI ⟨bx,0,none⟩ nl.length c (wl nl) hx (by rw [wl_length,Nat.mul_one]) (World.news_of_block hbx) (wl_one nl) (by unfold maxLen;omega) (by omega) hB ?_;intro v' w' h1 h2 _;refine h v' w' ?_ ((Below.refl _ _).grown h2 hB (fun g hk=>(World.ownsRow.lt hI g hk).1));unfold Rk;rw [List.length_append];have e:cw (l++nl)=cw l++wl nl:=by simp [cw,wl]
 rw [e];exact h1
def C8 (w:World)(g:Nat)(l:List UInt32): Prop:=∀i,i<8→w.cell? ⟨g,i,none⟩=some (.int .u32 ((l.getD i 0).toNat:Int))
theorem Rk.c8 {B:Nat}{v:Value}{l:List UInt32}{w:World}(h:Rk B v l w)(hl:l.length=8): ∃g cap,v = .slice (some ⟨g,0,none⟩) 8 cap∧B≤g∧g<w.heap.size∧C8 w g l:=by
 obtain⟨g,cap,hv,hg,hc⟩:=h.un (by intro e;rw [e] at hl;simp at hl);refine⟨g,cap,by rw [hv,hl],hg,?_,fun i hi=>?_⟩
 ·rcases h.2 with ⟨rfl,h0⟩ | ⟨g',cap',cur,e,hg',hh,_⟩
  ·cases hv
  ·rw [hv] at e;cases e
   exact blk_lt hh
 ·rw [hc i (by omega)];simp [List.getD,show i<l.length by omega]
theorem C8.block {w:World}{g:Nat}{l:List UInt32}(h:w.heap[g]?=some (.cells (ws l) 111 (0,0)))(hl:l.length=8): C8 w g l:=fun i hi=>by
 rw [blk_cell h,ws_get _ _ (by omega)];simp [List.getD,show i<l.length by omega]
theorem C8.below {w w':World}{g:Nat}{l:List UInt32}(h:C8 w g l)(hb:Below w.heap.size w w')(hg:g<w.heap.size): C8 w' g l:=fun i hi=>by
 rw [hb.cell (p:=⟨g,i,none⟩) hg];exact h i hi
end Hs
end Go.Proofs.YtpggkfdijmnmiaaGreat
