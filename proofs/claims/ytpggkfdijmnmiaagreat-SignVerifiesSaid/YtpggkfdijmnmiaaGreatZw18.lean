/- Bytes as a number, the highest first (the reference's Read). -/
import Derived.Test.YtpggkfdijmnmiaaGreatZw15
import Derived.Test.YtpggkfdijmnmiaaGreatZw09
set_option linter.unusedVariables false
set_option linter.unusedSimpArgs false
set_option maxRecDepth 100000
namespace Go.Proofs.YtpggkfdijmnmiaaGreat
namespace Ref
open Go.RowKit Go.Proofs.YtpggkfdijmnmiaaGreat.Digits Limbs
def bl (l:List UInt8): List Value:=l.map fun x=>Value.int .u8 (x.toNat:Int)
def Rb (B:Nat)(v:Value)(l:List UInt8)(w:World): Prop:=w.ownsRow B 5 1 v l.length (bl l)
theorem Rb.snoc {B:Nat}{v:Value}{l:List UInt8}{w:World}{x:UInt8}(h:w.ownsRow B 5 1 v (l.length+1) (bl l++[.int .u8 (x.toNat:Int)])): Rb B v (l++[x]) w:=by
 have e:bl (l++[x])=bl l++[.int .u8 (x.toNat:Int)]:=by simp [bl]
 unfold Rb;rw [e]
 simpa using h
theorem Rb.below {B:Nat}{v:Value}{l:List UInt8}{w w':World}(h:Rb B v l w)(hb:Below w.heap.size w w'): Rb B v l w':=by
 refine⟨h.1,?_⟩;rcases h.2 with hn | ⟨g,cap,cur,hv,hg,hh,rest⟩
 ·exact .inl hn
 ·exact .inr ⟨g,cap,cur,hv,hg,(hb.block _ (Array.getElem?_eq_some_iff.1 hh).1).trans hh,rest⟩
theorem Rb.nil (w:World): Rb w.heap.size (.slice (some ⟨w.heap.size,0,none⟩) 0 0) [] (w.alloc (.cells #[] 5)):=
 ⟨rfl,.inr ⟨w.heap.size,0,#[],rfl,Nat.le_refl _,Go.heap_alloc_new w _,Nat.le_refl _,Nat.zero_le _,rfl,rfl⟩⟩
end Ref
namespace Ref
open Go.RowKit Go.Proofs.YtpggkfdijmnmiaaGreat.Digits Limbs
open Go.Lib renaming hid→Φ
set_option maxHeartbeats 8000000
variable {t1 t2 t6 t7 t8 t9 t10 t11 t12 t13 t14 t15 t16 t17 t18 t19 t20 t21 t22 t23 t24 t25 t26 t27 t28 t29 t30 t31 t32 t33 t34 t35 t36 t37 t38 t39 t40 t41:Value}{ds:List Deferred}{Q:Exit→Act→World→Prop}
def rd:List UInt8→List Nat
 |[]=>[]
 |[a]=>[a.toNat]
 |a::b::r=>(a.toNat+256*b.toNat)::rd r
theorem rd_len:∀t:List UInt8,(rd t).length=(t.length+1) / 2
 |[]=>rfl
 |[a]=>by simp [rd]
 |a::b::r=>by
  have:=rd_len r
  simp only [rd,List.length_cons,this];omega
theorem rd_dig:∀t:List UInt8,Dig (rd t)
 |[]=>by intro x hx;cases hx
 |[a]=>by
  intro x hx
  have:=a.toNat_lt
  simp only [rd,List.mem_singleton] at hx;omega
 |a::b::r=>by
  intro x hx;have ha:=a.toNat_lt;have hb:=b.toNat_lt;simp only [rd,List.mem_cons] at hx;rcases hx with rfl | hx
  ·omega
  ·exact rd_dig r x hx
def lastB:List UInt8→Nat
 |[]=>0
 |[a]=>a.toNat
 |_::_::r=>lastB r
theorem lastB_lt:∀t:List UInt8,lastB t<256
 |[]=>by decide
 |[a]=>a.toNat_lt
 |_::_::r=>lastB_lt r
theorem rd_even:∀(t:List UInt8) (b:UInt8),t.length % 2=0→rd (t++[b])=rd t++[b.toNat]
 |[],b,_=>rfl
 |[a],b,h=>by simp at h
 |a::c::r,b,h=>by
  have:=rd_even r b (by simp only [List.length_cons] at h;omega)
  simp only [List.cons_append,rd,this]
theorem rd_odd:∀(t:List UInt8) (b:UInt8),t.length % 2=1→(rd t)[t.length / 2]?=some (lastB t)∧rd (t++[b])=(rd t).set (t.length / 2) (lastB t+256*b.toNat)
 |[],b,h=>by simp at h
 |[a],b,_=>⟨by simp [rd,lastB],by simp [rd,lastB]⟩
 |a::c::r,b,h=>by
  have hr:r.length % 2=1:=by simp only [List.length_cons] at h;omega
  have e:(a::c::r).length / 2=r.length / 2+1:=by simp only [List.length_cons];omega
  obtain⟨h1,h2⟩:=rd_odd r b hr;rw [e];refine⟨by simp only [rd,List.getElem?_cons_succ,lastB,h1],?_⟩;simp only [List.cons_append,rd,h2,List.set_cons_succ,lastB]
theorem rd_set {t:List UInt8}{b:UInt8}(h:t.length % 2=0): (rd t++[0]).set (t.length / 2) b.toNat=rd (t++[b]):=by
 rw [rd_even t b h];have hl:=rd_len t;have e:t.length / 2=(rd t).length:=by omega
 rw [e,List.set_append_right _ _ (Nat.le_refl _)];simp
theorem bv_cons (a:UInt8)(l:List UInt8): bv (l++[a])=a.toNat+256*bv l:=by
 rw [bv_snoc];omega
theorem rd_val:∀t:List UInt8,val (rd t)=bv t.reverse
 |[]=>rfl
 |[a]=>by simp [rd,val,bv]
 |a::b::r=>by
  rw [List.reverse_cons,List.reverse_cons,bv_cons,bv_cons,rd,val,rd_val r];omega
theorem Rd.set {B:Nat}{g n cap:Nat}{l:List Nat}{w:World}(h:Rd B (.slice (some ⟨g,0,none⟩) n cap) l w)(j x:Nat)(hj:j<l.length): Rd B (.slice (some ⟨g,0,none⟩) n cap) (l.set j x) (w.setCell ⟨g,j,none⟩ (.int .u32 ((x:Nat):Int))):=by
 have H:=h;have hl:=h.1;rcases h.2 with ⟨hv,_⟩ | ⟨g',cap',cur,hv,hg,hh,h1,h2,h3,h4⟩
 ·cases hv
 ·injection hv with e1 e2 e3
  injection e1 with e1
  injection e1 with e1
  subst e1;subst e3;have e5:cd (l.set j x)=(cd l).set j (.int .u32 ((x:Nat):Int)):=by simp [cd,List.map_set]
  refine⟨by rw [List.length_set,e5,List.length_set];exact hl,.inr ⟨g,cap,cur.setIfInBounds j (.int .u32 ((x:Nat):Int)),by rw [List.length_set];rw [← e2],hg,heap_setCell_same w g j cur 111 _ hh,by rw [List.length_set];exact h1,h2,by simpa using h3,?_⟩⟩;rw [List.length_set,e5,← h4,Array.toList_setIfInBounds,List.take_set]
noncomputable def rd8O0:Array Oper:=(Tryz.f57.body.bind fun c=>findR c 8).getD #[]
theorem rd80 (s:List UInt8)(g n cap q k i x b:Nat)(hi:i<s.length)(hb:(s[i]).toNat=b)(hs:s.length≤10000000000000)(hk:Int.tdiv (k:Int) 2=(q:Int))(hr:Int.tmod (k:Int) 2=0)(hq:q<n)(hn:n≤cap)(hc:cap≤9223372036854775807)(w:World)(ic:w.cell? ⟨g,q,none⟩=some (.int .u32 0))(fo:w.frozen? ⟨g,q,none⟩=false)
  (h:∀(x25 x26 x27 x28 x29 x30 x31 x32 x33 x34 x35 x36 x37 x38 x39:Value) (w' wm:World),Sm w wm→w'=wm.setCell ⟨g,q,none⟩ (.int .u32 ((b:Nat):Int))→Q .normal {tmps:=#[.string ⟨s.toArray⟩,t1,t2,.slice (some ⟨g,0,none⟩) n cap,.int .i64 (i:Int),.int .i64 (k:Int),t6,t7,t8,t9,t10,t11,t12,t13,t14,t15,t16,t17,t18,t19,t20,t21,t22,t23,t24,x25,x26,x27,x28,x29,x30,x31,x32,x33,x34,x35,x36,x37,x38,x39,t40,t41],defers:=ds} w') :
  (Code.region 8 rd8O0 true).wp Tryz.prog Q {tmps:=#[.string ⟨s.toArray⟩,t1,t2,.slice (some ⟨g,0,none⟩) n cap,.int .i64 (i:Int),.int .i64 (k:Int),t6,t7,t8,t9,t10,t11,t12,t13,t14,t15,t16,t17,t18,t19,t20,t21,t22,t23,t24,t25,t26,t27,t28,t29,t30,t31,t32,t33,t34,t35,t36,t37,t38,t39,t40,t41],defers:=ds} w:=by
 simp only [rd8O0,findR,Tryz.f57,Option.bind_some,Option.or,Option.getD,Nat.reduceEqDiff,if_true,if_false,reduceIte];have hb8:b<256:=by rw [← hb];exact(s[i]).toNat_lt
 have hsz:(⟨s.toArray⟩:ByteArray).size=s.length:=by simp [ByteArray.size]
 have hor:bits .or .u32 0 ((b*1:Nat):Int)=((b:Nat):Int):=by
  have:=u32_or_nat 0 (b*1) (by decide) (by omega)
  simpa using this
 have HO:=Φ hor;have HH:=Φ h;clear h hor;refine wp_region_quiet_tail 15 mixed (by kernel_rfl) ?_;simp only [List.take_succ_cons,List.take_zero,List.drop_succ_cons,List.drop_zero]
 iterate 15 go_big_quiet_step (fail)
 refine wpQuiet_nil ?_;intro _ hw';obtain⟨nq,hw''⟩:=hw';subst hw'';have f2:(w.drewN nq).frozen? ⟨g,q,none⟩=false:=fo;go_wp2_with fail;refine HH.out _ _ _ _ _ _ _ _ _ _ _ _ _ _ _ _ _ (Sm.drewN w nq) (congrArg (fun z=>(w.drewN nq).setCell ⟨g,q,none⟩ (.int .u32 z)) ?_);have e2:((⟨s.toArray⟩:ByteArray)[i]'(by omega)).toNat=b:=hb;rw [e2];refine Eq.trans ?_ HO.out
 congr 1
 omega
noncomputable def rd8O1:Array Oper:=(Tryz.f57.body.bind fun c=>findR c 8).getD #[]
theorem rd81 (s:List UInt8)(g n cap q k i x b:Nat)(hx:x<256)(hi:i<s.length)(hb:(s[i]).toNat=b)(hs:s.length≤10000000000000)(hk:Int.tdiv (k:Int) 2=(q:Int))(hr:Int.tmod (k:Int) 2=1)(hq:q<n)(hn:n≤cap)(hc:cap≤9223372036854775807)(w:World)(ic:w.cell? ⟨g,q,none⟩=some (.int .u32 (x:Int)))(fo:w.frozen? ⟨g,q,none⟩=false)
  (h:∀(x25 x26 x27 x28 x29 x30 x31 x32 x33 x34 x35 x36 x37 x38 x39:Value) (w' wm:World),Sm w wm→w'=wm.setCell ⟨g,q,none⟩ (.int .u32 (((x+256*b):Nat):Int))→Q .normal {tmps:=#[.string ⟨s.toArray⟩,t1,t2,.slice (some ⟨g,0,none⟩) n cap,.int .i64 (i:Int),.int .i64 (k:Int),t6,t7,t8,t9,t10,t11,t12,t13,t14,t15,t16,t17,t18,t19,t20,t21,t22,t23,t24,x25,x26,x27,x28,x29,x30,x31,x32,x33,x34,x35,x36,x37,x38,x39,t40,t41],defers:=ds} w') :
  (Code.region 8 rd8O1 true).wp Tryz.prog Q {tmps:=#[.string ⟨s.toArray⟩,t1,t2,.slice (some ⟨g,0,none⟩) n cap,.int .i64 (i:Int),.int .i64 (k:Int),t6,t7,t8,t9,t10,t11,t12,t13,t14,t15,t16,t17,t18,t19,t20,t21,t22,t23,t24,t25,t26,t27,t28,t29,t30,t31,t32,t33,t34,t35,t36,t37,t38,t39,t40,t41],defers:=ds} w:=by
 simp only [rd8O1,findR,Tryz.f57,Option.bind_some,Option.or,Option.getD,Nat.reduceEqDiff,if_true,if_false,reduceIte];have hb8:b<256:=by rw [← hb];exact(s[i]).toNat_lt
 have hsz:(⟨s.toArray⟩:ByteArray).size=s.length:=by simp [ByteArray.size]
 have hor:bits .or .u32 (x:Int) ((b*256:Nat):Int)=(((x+256*b):Nat):Int):=by
  have:=u32_or_nat x (b*256) (by omega) (by omega)
  rw [this,Nat.or_comm,show b*256=b <<< 8 from by rw [Nat.shiftLeft_eq],← Nat.shiftLeft_add_eq_or_of_lt (by omega),Nat.shiftLeft_eq];congr 1;omega
 have HO:=Φ hor;have HH:=Φ h;clear h hor;refine wp_region_quiet_tail 15 mixed (by kernel_rfl) ?_;simp only [List.take_succ_cons,List.take_zero,List.drop_succ_cons,List.drop_zero]
 iterate 15 go_big_quiet_step (fail)
 refine wpQuiet_nil ?_;intro _ hw';obtain⟨nq,hw''⟩:=hw';subst hw'';have f2:(w.drewN nq).frozen? ⟨g,q,none⟩=false:=fo;go_wp2_with fail;refine HH.out _ _ _ _ _ _ _ _ _ _ _ _ _ _ _ _ _ (Sm.drewN w nq) (congrArg (fun z=>(w.drewN nq).setCell ⟨g,q,none⟩ (.int .u32 z)) ?_);have e2:((⟨s.toArray⟩:ByteArray)[i]'(by omega)).toNat=b:=hb;rw [e2];refine Eq.trans ?_ HO.out
 congr 1
 omega
theorem Rd.open {B:Nat}{v:Value}{l:List Nat}{w:World}(h:Rd B v l w)(hl:l≠[])(hm:l.length≤10000000000001):
  ∃g cap,v = .slice (some ⟨g,0,none⟩) l.length cap∧l.length≤cap∧cap≤9223372036854775807∧B≤g∧(∀i (hi:i<l.length),w.cell? ⟨g,i,none⟩=some (.int .u32 ((l[i]:Nat):Int)))∧(∀i,w.frozen? ⟨g,i,none⟩=false):=by
 have H:=h;rcases h.2 with ⟨rfl,h0⟩ | ⟨g,cap,cur,rfl,hg,hh,h1,h2,h3,_⟩
 ·exact absurd (List.eq_nil_of_length_eq_zero h0) hl
 ·refine⟨g,cap,rfl,h1,by unfold maxLen at h2;omega,hg,fun i hi=>?_,fun i=>Lib.frozen_of_heap hh i⟩
  have:=World.ownsRow.cells H (g:=g) rfl i (.int .u32 ((l[i]:Nat):Int)) (by simp [cd,hi])
  rwa [at0] at this
theorem take_snoc {T:List UInt8}{k:Nat}(h:k<T.length): T.take (k+1)=T.take k++[T[k]]:=(List.take_append_getElem h).symm
theorem rev_get {s:List UInt8}{k i:Nat}(hk:k<s.reverse.length)(hi:i<s.length)(h:i+k+1=s.length): s.reverse[k]=s[i]:=by
 rw [List.getElem_reverse]
 congr 1
 omega
theorem read_any (s:List UInt8)(hs:s.length≤10000000000000)(w:World):
  Calls Tryz.prog 57 #[.string ⟨s.toArray⟩] w fun e w'=>∃v',e = .returned v'∧Nr w w' v' (bv s):=by
 by_cases h0:s=[]
 ·subst h0;go_enter Tryz.func57,Tryz.ntmps57;go_wp2_with fail;refine wp_loop_rounds 1 ?_;rw [rounds_succ];go_wp2_with fail;refine(trim_any [] _ _ (us_dr (l:=[]) (Go.heap_alloc_new w _) (by decide))).mono ?_;rintro e w2 ⟨⟨v2,rfl,hdr⟩,rfl⟩;have HF:Hid (Nr w (w.alloc (.cells #[] 111)) v2 (bv [])):=Φ ⟨⟨_,hdr,trim_dig (by unfold Dig;simp),trim_trim _,by rw [trim_val];rfl⟩,al_below _ _⟩;clear hdr;go_wp2_with fail;go_ret;exact⟨_,rfl,HF.out⟩
 ·have hL:0<s.length:=List.length_pos_iff.2 h0;have hsz:(⟨s.toArray⟩:ByteArray).size=s.length:=by simp [ByteArray.size]
  have hTl:s.reverse.length=s.length:=List.length_reverse;have HTV:Hid (val (rd s.reverse)=bv s):=Φ (by rw [rd_val,List.reverse_reverse]);have HG:Hid (∀k (hk:k<s.reverse.length) i (hi:i<s.length),i+k+1=s.length→s.reverse[k]=s[i]):=Φ (fun k hk i hi h=>rev_get hk hi h);generalize s.reverse=T at hTl HTV HG;have HTL:=Φ hTl;obtain⟨L,hLL⟩:∃L,L=s.length:=⟨_,rfl⟩;rw [← hLL] at hL hs hsz;have HLL:=Φ hLL;clear hTl h0 hLL;have HR0:=Φ (Rd.nil w);have HB0:Hid (Below w.heap.size w (w.alloc (.cells #[] 111))):=Φ (al_below _ _);go_enter Tryz.func57,Tryz.ntmps57;go_wp2_with fail;generalize (Value.slice (some ⟨w.heap.size,0,none⟩) 0 0)=v0 at HR0 ⊢;generalize w.alloc (.cells #[] 111)=w0 at HR0 HB0 ⊢
  go_loopw [3,4] (fun o i wr=>∃k:Nat,k≤L∧i = .int .i64 ((L:Int) - 1 - (k:Int))∧Rd w.heap.size o (rd (T.take k)) wr∧Below w.heap.size w wr) (fun _ i _=>(intOf i+1).toNat)
  case atStart=>exact⟨0,by omega,by go_num,HR0.out,HB0.out⟩
  case round=>
   clear HR0 HB0;obtain⟨k,hkL,rfl,hr,hb⟩:=hrel;have HR:=Φ hr;have HW:=Φ hb;clear hr hb
   by_cases hk:k<L
   ·obtain⟨ix,hix⟩:∃ix,ix+k+1=L:=⟨L - 1 - k,by omega⟩;have e1:(L:Int) - 1 - (k:Int)=(ix:Int):=by omega
    rw [e1];have e5:(L:Int) - 1 - (ix:Int)=(k:Int):=by omega
    have hixs:ix<s.length:=by have:=HLL.out;omega
    have hkT:k<T.length:=by have:=HTL.out;have:=HLL.out;omega
    have HTK:=Φ (take_snoc hkT);rw [HG.out k hkT ix hixs (by have:=HLL.out;omega)] at HTK;have htl:(T.take k).length=k:=by rw [List.length_take];omega
    obtain⟨q,hq⟩:∃q,q=k / 2:=⟨_,rfl⟩;have t1:Int.tdiv (k:Int) 2=(q:Int):=by rw [Int.tdiv_eq_ediv_of_nonneg (by omega)];omega
    have HRL:=Φ (rd_len (T.take k));rw [htl] at HRL;have HQ:=Φ hq;clear e1 hq
    by_cases hev:k % 2=0
    ·have t2:Int.tmod (k:Int) 2=0:=by rw [Int.tmod_eq_emod_of_nonneg (by omega)];omega
     have HST:=Φ (rd_set (t:=T.take k) (b:=s[ix]) (by rw [htl];exact hev));rw [htl] at HST;rw [← HTK.out] at HST;generalize hl0:rd (T.take k)=l0 at HR HRL HST;have HLQ:Hid (l0.length=q):=Φ (by rw [HRL.out,HQ.out];omega);clear hl0 htl;go_wp2_with (at_builtin;refine app_d _ 0 rfl (.tmp 22) (.tmp 23) rfl rfl rfl rfl HR.out HW.out (by rw [HLQ.out,HQ.out];omega) ?_;intro v1 w1 hr hb;have HR2:=Φ hr;have HW2:=Φ hb;clear hr hb);have hln:(l0++[0]).length=q+1:=by rw [List.length_append,HLQ.out];rfl
     obtain⟨g,cap,hv,hcap,hcm,hBg,hcell,hfro⟩:=HR2.out.open (by simp) (by rw [hln,HQ.out];omega);have hc:=hcell q (by rw [hln];omega);have e0:(l0++[0])[q]'(by rw [hln];omega)=0:=by
      rw [List.getElem_append_right (by rw [HLQ.out];omega)];simp
     rw [e0] at hc;rw [hln] at hv hcap;subst hv;refine rd80 s g (q+1) cap q k ix 0 _ hixs rfl (by have:=HLL.out;omega) t1 t2 (by omega) hcap hcm w1 hc (hfro q) ?_;intros;rename_i wn wm hsm hwn;subst hwn;have HF:Hid (Rd w.heap.size (.slice (some ⟨g,0,none⟩) (q+1) cap) (rd (T.take (k+1))) (wm.setCell ⟨g,q,none⟩ (.int .u32 ((s[ix].toNat:Nat):Int)))):=Φ (by
      rw [← HST.out,← HQ.out];exact(HR2.out.below hsm.below0).set q _ (by rw [hln];omega))
     have HBF:Hid (Below w.heap.size w (wm.setCell ⟨g,q,none⟩ (.int .u32 ((s[ix].toNat:Nat):Int)))):=Φ ((hsm.below HW2.out).setCell (p:=⟨g,q,none⟩) hBg _);clear hsm hc hcell hfro HR2 HW2 e0;generalize (wm.setCell ⟨g,q,none⟩ (.int .u32 ((s[ix].toNat:Nat):Int)))=wq at HF HBF ⊢;go_wp2_with fail
     go_roundw
     case rel=>exact⟨k+1,by omega,by go_num,HF.out,HBF.out⟩
     case measure=>simp [intOf]<;>omega
    ·have t2:Int.tmod (k:Int) 2=1:=by rw [Int.tmod_eq_emod_of_nonneg (by omega)];omega
     obtain⟨hgl,hset⟩:=rd_odd (T.take k) s[ix] (by rw [htl];omega);rw [htl] at hgl hset;have HST:=Φ hset;rw [← HTK.out] at HST;have hlb:=lastB_lt (T.take k);have HGL:=Φ hgl;clear hgl hset;generalize lastB (T.take k)=x at HST HGL hlb;generalize hl0:rd (T.take k)=l0 at HR HRL HST HGL;have HLQ:Hid (l0.length=q+1):=Φ (by rw [HRL.out,HQ.out];omega);clear hl0 htl;obtain⟨g,cap,hv,hcap,hcm,hBg,hcell,hfro⟩:=HR.out.open (by intro h;have:=HLQ.out;rw [h] at this;simp at this) (by rw [HLQ.out,HQ.out];omega);have hc:=hcell q (by rw [HLQ.out];omega);have e0:l0[q]'(by rw [HLQ.out];omega)=x:=by
      have:=HGL.out
      rw [← HQ.out,List.getElem?_eq_getElem (by rw [HLQ.out];omega)] at this;exact Option.some.inj this
     rw [e0] at hc;rw [HLQ.out] at hv hcap;subst hv;clear e0 hcell;have HC:=Φ hc;have HFR:=Φ (hfro q);clear hc hfro;go_wp2_with fail;refine rd81 s g (q+1) cap q k ix x _ hlb hixs rfl (by have:=HLL.out;omega) t1 t2 (by omega) hcap hcm wr HC.out HFR.out ?_;intros;rename_i wn wm hsm hwn;subst hwn;have HF:Hid (Rd w.heap.size (.slice (some ⟨g,0,none⟩) (q+1) cap) (rd (T.take (k+1))) (wm.setCell ⟨g,q,none⟩ (.int .u32 ((x+256*s[ix].toNat:Nat):Int)))):=Φ (by
      rw [HST.out,← HQ.out];exact(HR.out.below hsm.below0).set q _ (by rw [HLQ.out];omega))
     have HBF:Hid (Below w.heap.size w (wm.setCell ⟨g,q,none⟩ (.int .u32 ((x+256*s[ix].toNat:Nat):Int)))):=Φ ((hsm.below HW.out).setCell (p:=⟨g,q,none⟩) hBg _);clear hsm HC HFR HR HW;generalize (wm.setCell ⟨g,q,none⟩ (.int .u32 ((x+256*s[ix].toNat:Nat):Int)))=wq at HF HBF ⊢;go_wp2_with fail
     go_roundw
     case rel=>exact⟨k+1,by omega,by go_num,HF.out,HBF.out⟩
     case measure=>simp [intOf]<;>omega
   ·obtain rfl:k=L:=by omega
    have htt:T.take k=T:=List.take_of_length_le (by have:=HTL.out;have:=HLL.out;omega);have HDR:=Φ HR.out;rw [htt] at HDR;have hrl:=rd_len T;have HD:=Φ (HDR.out.dr (by intro h;have:=hrl;rw [h] at this;simp at this;have:=HTL.out;have:=HLL.out;omega) (by rw [hrl];have:=HTL.out;have:=HLL.out;omega));clear htt HR HDR hrl;go_wp2_with fail;refine(trim_any _ _ _ HD.out).mono ?_;rintro e w2 ⟨⟨v2,rfl,hdr⟩,rfl⟩;have HF:Hid (Nr w wr v2 (bv s)):=Φ ⟨⟨_,hdr,trim_dig (rd_dig T),trim_trim _,by rw [trim_val,HTV.out]⟩,HW.out⟩;clear hdr;go_wp2_with fail;go_ret;exact⟨_,rfl,HF.out⟩
end Ref
end Go.Proofs.YtpggkfdijmnmiaaGreat
