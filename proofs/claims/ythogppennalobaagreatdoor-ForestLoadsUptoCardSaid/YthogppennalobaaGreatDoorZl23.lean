/- The program reading rows, whatever they hold. The program: texts of any row. The program: the node of any row. The reader of a row The reader of a row The reader of a row -/
import Derived.Test.YthogppennalobaaGreatDoorZl22
import Derived.Test.YthogppennalobaaGreatDoorZl07
import Derived.Test.YthogppennalobaaGreatDoorZl12
import Derived.Test.YthogppennalobaaGreatDoorZl13
set_option linter.unusedVariables false
set_option linter.unusedSimpArgs false
set_option maxRecDepth 100000
namespace Go.Proofs.YthogppennalobaaGreatDoor
open Go.RowKit Go.Sort Forest OwnR TxO Pl
def Er (w:World): Prop:=(∃ev,w.cell? ⟨2,0,none⟩=some ev∧(ev = .nilIface∨∃te pe,ev = .iface te pe))∧∃ev,w.cell? ⟨3,0,none⟩=some ev∧(ev = .nilIface∨∃te pe,ev = .iface te pe)
theorem Er.below {w w':World}(h:Er w)(hb:Below w.heap.size w w'): Er w':=by
 obtain⟨⟨a,h1,h2⟩,b,h3,h4⟩:=h
 exact⟨⟨a,cell_below hb h1,h2⟩,b,cell_below hb h3,h4⟩
def Fine (l:List Bs): Prop:=l.length≤2000000∧∀s∈l,s.length≤2000000
theorem Fine.right {x l:List Bs}(h:Fine (x++l)): Fine l:=⟨by have:=h.1;rw [List.length_append] at this;omega,fun s hs=>h.2 s (List.mem_append_right _ hs)⟩
theorem Fine.left {x l:List Bs}(h:Fine (x++l)): Fine x:=⟨by have:=h.1;rw [List.length_append] at this;omega,fun s hs=>h.2 s (List.mem_append_left _ hs)⟩
theorem Fine.nil:Fine []:=⟨by simp,by simp⟩
set_option maxHeartbeats 4000000 in
theorem take_gen (B:Nat)(t:TypeId)(ht:t≠9)(g:Nat)(n:Int)(x l:List Bs)(hn:max 0 (min n ((x++l).length:Int))=(x.length:Int))(hl:(x++l).length≤2000000)(w:World)(h:Rq B t w g (x++l)): Calls Tryz.prog 152 #[kpt g,.int .i64 n] w fun e w'=>∃a c,e = .returned (.slice a x.length c)∧Tx w' (.slice a x.length c) x∧x.length≤c∧Rq B t w' g l∧Only [g] w w'∧(∀q,a.map (·.block)=some q→B≤q):=by
 obtain⟨a,c,hk,hx,hc,hB⟩:=h
 have HK:=Lib.hid hk
 have HX:=Lib.hid hx
 have hC:w.cell? ⟨g,0,none⟩=some (.slice a (x++l).length c):=hk.cell 0
 have hF:w.frozen? ⟨g,0,none⟩=false:=hk.fro 0
 obtain⟨N,hN⟩:∃N,N=(x++l).length:=⟨_,rfl⟩
 obtain⟨k,hkk⟩:∃k,k=x.length:=⟨_,rfl⟩
 have HXL:Hid ((x++l).length=x.length+l.length):=Lib.hid List.length_append
 have HKN:Hid (k≤N):=Lib.hid (by have:=HXL.out;omega)
 rw [← hN] at hC hc hl HK HX hn
 rw [← hkk] at hn ⊢
 have hle:(k:Int)≤(N:Int):=by have:=HKN.out;omega
 obtain⟨M,hmin⟩:∃M,min n (N:Int)=M:=⟨_,rfl⟩
 have hmax:max 0 M=(k:Int):=by rw [← hmin];exact hn
 have HN:=Lib.hid hN
 have HKK:=Lib.hid hkk
 unfold kpt
 clear hk hx hN hkk hn
 go_enter Tryz.func152,Tryz.ntmps152
 go_wp2_with fail
 all_goals go_ret
 all_goals have hN:=HN.out
 all_goals have hx:=HXL.out
 all_goals have hk:=HKK.out
 ·have hl0:l=[]:=List.length_eq_zero_iff.1 (by omega)
  subst hl0 hk
  have hz:N - x.length=0:=by omega
  rw [hz]
  refine⟨a,_,rfl,(HX.out.take).setAt ht HK.out,Nat.le_refl _,⟨a,0,HK.out.same,(HX.out.zero).setAt ht HK.out,Nat.le_refl _,hB⟩,(Only.refl _ _).setCell _ (.inl (by simp)) _,by first | exact hB | simpa using hB⟩
 ·have hz:N - k=l.length:=by omega
  rw [hz]
  refine⟨a,c,rfl,by subst hk;exact(HX.out.take).setAt ht HK.out,by omega,⟨_,_,HK.out.same,(HX.out.drop hk rfl).setAt ht HK.out,by omega,fun q hq=>hB q (by rw [← hq];cases a with | none=>rfl | some p=>exact congrArg some (add_block p k).symm)⟩,(Only.refl _ _).setCell _ (.inl (by simp)) _,by first | exact hB | simpa using hB⟩
theorem take_split (n:Int)(l:List Bs): ∃x r,l=x++r∧max 0 (min n ((x++r).length:Int))=(x.length:Int):=by
 refine⟨l.take n.toNat,l.drop n.toNat,(List.take_append_drop _ _).symm,?_⟩
 rw [List.take_append_drop,List.length_take]
 omega
set_option maxHeartbeats 4000000 in
theorem rdtext_some (B:Nat)(t:TypeId)(ht:t≠9)(g:Nat)(l:List Bs)(hl:Fine l)(w:World)(h:Rq B t w g l): Calls Tryz.prog 129 #[kpt g] w fun e w'=>∃(s:Bs) (r:List Bs),e = .returned (.string ⟨s.toArray⟩)∧s.length≤2000000∧Fine r∧Rq B t w' g r∧Only [g] w w':=by
 obtain⟨x,r,rfl,hn⟩:=take_split 1 l
 have HT:=Lib.hid (take_gen B t ht g 1 x r hn hl.1 w h)
 have hx1:x.length≤1:=by omega
 have HFR:=Lib.hid hl.right
 have HJ:Hid (∃s:Bs,s.length≤2000000∧∀(W:World) a c,Tx W (.slice a x.length c) x→x.length≤c→Calls Tryz.prog 151 #[.slice a x.length c,.string ⟨#[]⟩] W fun e w'=>e = .returned (.string ⟨s.toArray⟩)∧Below W.heap.size W w'):=Lib.hid (by
  match x,hx1,hl.left with
  |[],_,_=>exact⟨[],by simp,fun W a c hx hc=>(Tryz.strings_Join_none a c ⟨#[]⟩ W).mono fun e w' ⟨h1,h2⟩=>⟨h1,by rw [h2];exact Below.refl _ _⟩⟩
  |[s],_,hf=>
   have hs:=hf.2 s (by simp)
   refine⟨s,hs,fun W a c hx hc=>?_⟩
   obtain⟨a',c',e,h1,h2⟩:=hx
   cases e
   obtain⟨b,o,rfl,h4⟩:=h1 0 (by simp)
   have hj:=Tryz.strings_Join b o c [⟨s.toArray⟩] ⟨#[]⟩ W (fun j x hj=>by
    match j,hj with
    |0,hj=>simp at hj;subst hj;exact h4
    |j+1,hj=>simp at hj) (by
     obtain⟨cs,hk⟩:=h2 b rfl
     exact hk.lt) (by simp) hc (by simp [Lib.join];omega)
   simpa [Lib.join] using hj
  |a::b::x,h,_=>simp at h)
 obtain⟨a0,c0,hk,_⟩:=h
 have HL:=Lib.hid hk.lt
 obtain⟨s,hs,HJ3⟩:=HJ.out
 have HJ:=Lib.hid HJ3
 have HS:=Lib.hid hs
 obtain⟨m,hm⟩:∃m,m=x.length:=⟨_,rfl⟩
 rw [← hm] at HT HJ
 clear hk hn hl hx1 HJ3 hs hm
 unfold kpt at HT ⊢
 go_enter Tryz.func129,Tryz.ntmps129
 go_wp2_with fail
 refine HT.out.mono ?_
 rintro e w2 ⟨a,c,rfl,h1,h2,h3,h4,_⟩
 have H3:=Lib.hid h3
 have H4:=Lib.hid h4
 have HJ2:=Lib.hid (HJ.out w2 a c h1 h2)
 clear HT HJ h1 h2 h3 h4
 go_wp2_with fail
 refine HJ2.out.mono ?_
 rintro e w3 ⟨rfl,hb⟩
 have HB:=Lib.hid hb
 clear HJ2 hb
 go_wp2_with fail
 go_ret
 exact⟨s,r,rfl,HS.out,HFR.out,H3.out.below HB.out,H4.out.trans (Only.of (L:=[]) HB.out) (fun x hx=>by cases hx)⟩
theorem atoi_some (s:Bs)(hs:s.length≤2000000)(w:World)(hE:Er w): Calls Tryz.prog 128 #[.string ⟨s.toArray⟩] w fun e w'=>∃n u,e = .returned (.tuple #[.int .i64 n,u])∧(u = .nilIface∨∃N,u = .iface 182 (.pointer (some ⟨N,0,none⟩)))∧Below w.heap.size w w':=by
 have hz:(⟨s.toArray⟩:ByteArray).size=s.length:=size_ba s
 obtain⟨⟨e2,c2,d2⟩,e3,c3,d3⟩:=hE
 cases hq:Lib.atoiAll (⟨s.toArray⟩:ByteArray).data.toList
 ·rename_i v
  refine(Tryz.strconv_Atoi_ok ⟨s.toArray⟩ (by rw [hz];omega) v hq w).mono ?_
  rintro e w' ⟨rfl,h⟩
  refine⟨v,.nilIface,rfl,.inl rfl,?_⟩
  rcases h with rfl | ⟨t,rfl⟩
  ·exact Below.refl _ _
  ·exact Go.Joins.below_bytesWorld _ _ _ _ (Nat.le_refl _)
 ·refine((show Calls Tryz.prog 128 #[.string ⟨s.toArray⟩] w fun e w' => ∃ N, e = .returned (.tuple #[.int .i64 (0), .iface 182 (.pointer (some ⟨N, 0, none⟩))]) ∧ w.heap.size ≤ N ∧ w'.heap[N]? = some (.cells #[.string ⟨#[65, 116, 111, 105]⟩, .string ⟨s.toArray⟩, e2] 193 (0, 0)) ∧ Below w.heap.size w w' from Any.strconv_Atoi_syntax Tryz.laysC172 ⟨s.toArray⟩ (by rw [hz];omega) hq e2 w c2 d2)).mono ?_
  rintro e w' ⟨N,rfl,_,_,hb⟩
  exact⟨_,_,rfl,.inr ⟨N,rfl⟩,hb⟩
 ·refine(Tryz.strconv_Atoi_range ⟨s.toArray⟩ (by rw [hz];omega) hq e3 w c3 d3).mono ?_
  rintro e w' ⟨N,rfl,_,_,hb⟩
  exact⟨_,_,rfl,.inr ⟨N,rfl⟩,hb⟩
theorem cell_old {w w':World}{L:List Nat}{b o:Nat}{v:Value}(h:w.cell? ⟨b,o,none⟩=some v)(ho:Only L w w')(hb:b∉L): w'.cell? ⟨b,o,none⟩=some v:=by
 unfold World.cell? at h ⊢
 dsimp only at h ⊢
 have hlt:b<w.heap.size:=by
  split at h
  ·rename_i e;exact blk_lt e
  ·cases h
 rw [ho.block b hlt hb]
 exact h
theorem cell_lt {w:World}{b o:Nat}{v:Value}(h:w.cell? ⟨b,o,none⟩=some v): b<w.heap.size:=by
 unfold World.cell? at h
 dsimp only at h
 split at h
 ·rename_i e;exact blk_lt e
 ·cases h
theorem Er.only {w w':World}{L:List Nat}(h:Er w)(ho:Only L w w')(hg:∀g∈L,4≤g): Er w':=by
 obtain⟨⟨a,h1,h2⟩,b,h3,h4⟩:=h
 exact⟨⟨a,cell_old h1 ho (fun h=>by have:=hg 2 h;omega),h2⟩,b,cell_old h3 ho (fun h=>by have:=hg 3 h;omega),h4⟩
theorem Er.size {w:World}(h:Er w): 4≤w.heap.size:=by
 obtain⟨_,b,h3,_⟩:=h
 exact cell_lt h3
set_option maxHeartbeats 4000000 in
theorem rdnum_some (B:Nat)(t:TypeId)(ht:t≠9)(g:Nat)(hg:4≤g)(l:List Bs)(hl:Fine l)(w:World)(hE:Er w)(h:Rq B t w g l): Calls Tryz.prog 90 #[kpt g] w fun e w'=>∃(n:Int) (r:List Bs),e = .returned (.int .i64 n)∧Fine r∧Rq B t w' g r∧Only [g] w w':=by
 have HT:=Lib.hid (rdtext_some B t ht g l hl w h)
 have HE:=Lib.hid hE
 have HG:=Lib.hid hg
 unfold kpt at HT ⊢
 clear h hl hE hg
 go_enter Tryz.func90,Tryz.ntmps90
 go_wp2_with fail
 refine HT.out.mono ?_
 rintro e w2 ⟨s,r,rfl,hs,h2,h3,h4⟩
 have H2:=Lib.hid h2
 have H3:=Lib.hid h3
 have H4:=Lib.hid h4
 have HA:=Lib.hid (atoi_some s hs w2 (HE.out.only h4 (by simpa using HG.out)))
 clear HT hs h2 h3 h4
 go_wp2_with fail
 refine HA.out.mono ?_
 rintro e w3 ⟨n,u,rfl,hu,hb⟩
 have HB:=Lib.hid hb
 clear HA hb
 have HX:Hid (Rq B t w3 g r∧Only [g] w w3):=Lib.hid ⟨H3.out.below HB.out,H4.out.trans (Only.of (L:=[]) HB.out) (fun x hx=>by cases hx)⟩
 rcases hu with rfl | ⟨N,rfl⟩
 ·go_wp2_with fail
  go_ret
  exact⟨n,r,rfl,H2.out,HX.out.1,HX.out.2⟩
 ·go_wp2_with fail
  go_ret
  exact⟨0,r,rfl,H2.out,HX.out.1,HX.out.2⟩
set_option maxHeartbeats 4000000 in
theorem rdflag_some (B:Nat)(t:TypeId)(ht:t≠9)(g:Nat)(l:List Bs)(hl:Fine l)(w:World)(h:Rq B t w g l): Calls Tryz.prog 132 #[kpt g] w fun e w'=>∃(b:Bool) (r:List Bs),e = .returned (.bool b)∧Fine r∧Rq B t w' g r∧Only [g] w w':=by
 have HT:=Lib.hid (rdtext_some B t ht g l hl w h)
 unfold kpt at HT ⊢
 clear h hl
 go_enter Tryz.func132,Tryz.ntmps132
 go_wp2_with fail
 refine HT.out.mono ?_
 rintro e w2 ⟨s,r,rfl,hs,h2,h3,h4⟩
 have H2:=Lib.hid h2
 have H3:=Lib.hid h3
 have H4:=Lib.hid h4
 clear HT h2 h3 h4
 go_wp2_with fail
 go_ret
 exact⟨_,r,rfl,H2.out,H3.out,H4.out⟩
set_option maxHeartbeats 4000000 in
theorem rdlist_some (B:Nat)(t:TypeId)(ht:t≠9)(g:Nat)(hg:4≤g)(l:List Bs)(hl:Fine l)(w:World)(hE:Er w)(h:Rq B t w g l): Calls Tryz.prog 131 #[kpt g] w fun e w'=>∃(a:Option Addr) (x:List Bs) (c:Nat) (r:List Bs),e = .returned (.slice a x.length c)∧Fine x∧Tx w' (.slice a x.length c) x∧Fine r∧Rq B t w' g r∧Only [g] w w'∧(∀q,a.map (·.block)=some q→B≤q):=by
 have HN:=Lib.hid (rdnum_some B t ht g hg l hl w hE h)
 unfold kpt at HN ⊢
 clear h hl hE hg
 go_enter Tryz.func131,Tryz.ntmps131
 go_wp2_with fail
 refine HN.out.mono ?_
 rintro e w2 ⟨n,r,rfl,h2,h3,h4⟩
 obtain⟨x,r2,rfl,hn⟩:=take_split n r
 have HT:=Lib.hid (take_gen B t ht g n x r2 hn h2.1 w2 h3)
 have H2:=Lib.hid h2
 have H4:=Lib.hid h4
 clear HN h2 h3 h4 hn
 unfold kpt at HT
 obtain⟨m,hm⟩:∃m,m=x.length:=⟨_,rfl⟩
 have HM:=Lib.hid hm
 rw [← hm] at HT
 clear hm
 go_wp2_with fail
 refine HT.out.mono ?_
 rintro e w3 ⟨a,c,rfl,h1,_,h2,h3,h5⟩
 have H5:=Lib.hid h5
 have H1:=Lib.hid h1
 have H6:=Lib.hid h2
 have H3:=Lib.hid h3
 clear HT h1 h2 h3 h5
 go_wp2_with fail
 go_ret
 have hm:=HM.out
 subst hm
 exact⟨a,x,c,r2,rfl,H2.out.left,H1.out,H2.out.right,H6.out,H4.out.trans H3.out (fun x hx=> .inl hx),H5.out⟩
theorem itoa_neg {n:Int}(h:n<0)(s:Bs)(hs:∀b∈s,digitB b=true): Lib.itoa n≠s:=fun e=>by
 have h1:(45:UInt8)∈Lib.itoa n:=by
  unfold Lib.itoa
  rw [if_pos h]
  simp
 have:=hs 45 (e▸h1)
 exact absurd this (by decide)
def NumE (w:World)(e:Ending)(w':World): Prop:=∃n b,e = .returned (.tuple #[.int .i64 n,.bool b])∧(b=true→0≤n)∧Below w.heap.size w w'
theorem NumE.of {w w':World}{n:Int}{b:Bool}(h:b=true→0≤n)(hb:Below w.heap.size w w'): NumE w (.returned (.tuple #[.int .i64 n,.bool b])) w':=⟨n,b,rfl,h,hb⟩
def TxtE (w:World)(e:Ending)(w':World): Prop:=∃v l b,e = .returned (.tuple #[v,.bool b])∧Lw 9 1 w w' v l.length (l.map txt)∧Fine l
theorem TxtE.of {w w':World}{v:Value}{l:List Bs}{n:Nat}{b:Bool}(hn:n=l.length)(h:Lw 9 1 w w' v n (l.map txt))(hf:Fine l): TxtE w (.returned (.tuple #[v,.bool b])) w':=⟨v,l,b,rfl,hn▸h,hf⟩
set_option maxHeartbeats 2000000 in
theorem number_some (s:Bs)(hsl:s.length≤2000000)(w:World)(hT:Tb w): Calls Tryz.prog 148 #[.string ⟨s.toArray⟩] w fun e w'=>NumE w e w':=by
 have HIT:=Lib.hid (fun(n:Int) (h:In64 n)=>itoa_any n h.1 h.2 w hT)
 have HL:=Lib.hid hsl
 have hz:(⟨s.toArray⟩:ByteArray).size=s.length:=size_ba s
 have hin0:Hid (In64 0):=Lib.hid (by unfold In64;omega)
 clear hT hsl
 go_enter Tryz.func148,Tryz.ntmps148
 go_wp2_with fail
 go_loopw [4,8] (fun av iv wr=>∃i:Nat,i≤s.length∧iv = .int .i64 (i:Int)∧(∃m:Int,av = .int .i64 m∧Hid (In64 m))∧Hid (∀j (h:j<s.length),j<i→digitB s[j]=true)∧wr=w) (fun _ iv _=>s.length - (intOf iv).toNat)
 case atStart=>exact⟨0,Nat.zero_le _,rfl,⟨0,rfl,hin0⟩,Lib.hid (fun j _ h=>absurd h (Nat.not_lt_zero _)),rfl⟩
 case round=>
  obtain⟨i,hi,rfl,⟨m,rfl,HM⟩,HD,rfl⟩:=hrel
  by_cases hlt:i<s.length
  ·have hltI:(i:Int)<(s.length:Int):=by omega
   have hl:=HL.out
   obtain⟨b,hb⟩:∃b,s[i]=b:=⟨_,rfl⟩
   obtain⟨x,hx⟩:∃x:Int,((((⟨s.toArray⟩:ByteArray)[i]'(by rw [hz];exact hlt)).toNat:Nat):Int)=x:=⟨_,rfl⟩
   have hxb:(b.toNat:Int)=x:=by rw [← hx,← hb];rfl
   have HXB:=Lib.hid hxb
   have HBB:=Lib.hid hb
   clear hxb hb
   by_cases hx1:x<48
   ·go_wp2_with fail
    go_ret2
    exact NumE.of (fun h=>by cases h) (Below.refl _ _)
   ·by_cases hx2:57<x
    ·go_wp2_with fail
     go_ret2
     exact NumE.of (fun h=>by cases h) (Below.refl _ _)
    ·have HD2:Hid (∀j (h:j<s.length),j<i+1→digitB s[j]=true):=Lib.hid (fun j hj h=>by
      by_cases e:j=i
      ·subst e
       rw [HBB.out]
       have:=HXB.out
       unfold digitB
       simp only [Bool.and_eq_true,decide_eq_true_eq]
       omega
      ·exact HD.out j hj (by omega))
     have w1:IntKind.u8.wrap (x - 48)=x - 48:=by rw [IntKind.wrap_u8];omega
     go_wp2_with fail
     go_roundw
     case rel=>exact⟨i+1,by omega,by go_num,⟨_,rfl,Lib.hid (by unfold In64 wrap64;omega)⟩,HD2,trivial⟩
     case measure=>simp [intOf];omega
  ·have hie:i=s.length:=by omega
   have hltI:¬(i:Int)<(s.length:Int):=by omega
   have HNeg:Hid (m<0→Lib.itoa m≠s):=Lib.hid (fun h=>itoa_neg h s fun b hb=>by
    obtain⟨j,hj,rfl⟩:=List.getElem_of_mem hb
    exact HD.out j hj (by omega))
   have HI2:=Lib.hid (HIT.out m HM.out)
   clear hie HIT
   go_wp2_with fail
   refine HI2.out.mono ?_
   rintro e w2 ⟨rfl,hb⟩
   have HB:=Lib.hid hb
   clear hb
   go_wp2_with fail
   go_ret2
   refine NumE.of (fun h=>?_) HB.out
   by_cases hm:m<0
   ·exact absurd (by simpa using h) (HNeg.out hm)
   ·omega
theorem cutC_none:∀ {X:Bs},cutC X=none→∀b∈X,b≠58
 |[],_,b,hb=>by cases hb
 |a::X,h,b,hb=>by
  rw [cutC] at h
  split at h
  ·cases h
  ·rename_i e
   rcases List.mem_cons.1 hb with rfl | hb
   ·exact e
   ·exact cutC_none (by simpa using h) b hb
theorem cut_none {X:Bs}(h:cutC X=none): Lib.cut X [58]=(X,[],false):=by
 have hn:=cutC_none h
 unfold Lib.cut
 rw [Lib.index_none fun j hj=>by
  cases hq:Lib.occAt X [58] j with
  |false=>rfl
  |true=>
   have h1:=Lib.occAt_head rfl hq
   obtain⟨hj2,h2⟩:=List.getElem?_eq_some_iff.1 h1
   exact absurd h2 (hn _ (List.getElem_mem hj2))]
 rfl
theorem cut_len (X:Bs): (Lib.cut X [58]).1.length≤X.length∧((Lib.cut X [58]).2.2=true→(Lib.cut X [58]).2.1.length+1≤X.length):=by
 cases h:cutC X with
 |none=>rw [cut_none h];exact⟨Nat.le_refl _,fun h=>by cases h⟩
 |some p=>
  obtain⟨h1,h2⟩:=cutC_some (d:=p.1) (b:=p.2) (by rw [h])
  have h3:=cut_dec p.1 p.2 h2
  rw [← h1] at h3
  rw [h3]
  have:=congrArg List.length h1
  simp only [List.length_append,List.length_cons] at this
  exact⟨by dsimp only;omega,fun _=>by dsimp only;omega⟩
set_option maxHeartbeats 4000000 in
theorem texts_some (s:Bs)(hs:s.length≤2000000)(w:World)(hT:Tb w)(hM:Mx w): Calls Tryz.prog 127 #[.string ⟨s.toArray⟩] w fun e w'=>TxtE w e w':=by
 have HT:=Lib.hid hT
 have HM:=Lib.hid hM
 have HS:=Lib.hid hs
 clear hT hM hs
 go_enter Tryz.func127,Tryz.ntmps127
 go_wp2_with fail
 go_loopw [0,4] (fun sv ov wr=>∃(X:Bs) (acc:List Bs) (i:Nat),sv = .string ⟨X.toArray⟩∧i=acc.length∧Hid (X.length+i≤s.length∧∀z∈acc,z.length≤s.length)∧Hid (Lw 9 1 w wr ov i (acc.map txt))) (fun sv _ _=>strLen sv)
 case atStart=>exact⟨s,[],0,rfl,rfl,Lib.hid ⟨by omega,by simp⟩,Lib.hid (Lw.nil 9 1 w)⟩
 case round=>
  obtain⟨X,acc,i,rfl,hi,HX,HI⟩:=hrel
  have HIL:=Lib.hid hi
  clear hi
  have HZ:Hid (∀W,Below wr.heap.size wr W→Lw 9 1 w W (.slice none 0 0) 0 [] ):=Lib.hid (fun W hb=>⟨⟨by simp,.inl ⟨rfl,rfl⟩⟩,HI.out.2.1.trans (hb.mono HI.out.2.1.size),fun k hk=>by cases hk⟩)
  cases hX:X with
  |nil=>
   subst hX
   have h1:((⟨([]:Bs).toArray⟩:ByteArray) == ⟨#[]⟩)=true:=by decide
   have HFN:Hid (Fine acc):=Lib.hid ⟨by have:=HX.out.1;have:=HIL.out;have:=HS.out;omega,fun z hz=>Nat.le_trans (HX.out.2 z hz) HS.out⟩
   go_wp2_with fail
   go_ret2
   exact TxtE.of HIL.out HI.out HFN.out
  |cons x0 xs=>
   have h0:(X == [])=false:=by rw [hX];rfl
   rw [← hX]
   clear hX
   obtain⟨m,hm⟩:=HM.out.below HI.out.2.1
   have hXl:X.length≤2000000:=by have:=HX.out.1;have:=HS.out;omega
   have HC:=Lib.hid (Tryz.strings_Cut ⟨X.toArray⟩ ⟨#[58]⟩ m wr (by rw [size_ba];omega) hm)
   obtain⟨D,R,ok,hcut⟩:∃D R ok,Lib.cut X [58]=(D,R,ok):=⟨_,_,_,rfl⟩
   have e1:Lib.cut (⟨X.toArray⟩:ByteArray).data.toList (⟨#[58]⟩:ByteArray).data.toList=(D,R,ok):=hcut
   rw [e1] at HC
   have hcl:=cut_len X
   rw [hcut] at hcl
   have HCL:=Lib.hid hcl
   have HNum:=Lib.hid (fun W (hb:Below wr.heap.size wr W)=>number_some D (by have:=hcl.1;dsimp only at this;omega) W ((HT.out.below HI.out.2.1).below hb))
   have HXL:=Lib.hid hXl
   have hzR:(⟨R.toArray⟩:ByteArray).size=R.length:=size_ba R
   clear hm e1 hcl hcut hXl
   go_wp2_with fail
   refine HC.out.mono ?_
   rintro e w2 ⟨rfl,q,hq⟩
   have hb2:Below wr.heap.size wr w2:=by rw [hq];exact (Below.refl _ _).trans ⟨rfl, rfl, rfl, Nat.le_refl _, fun _ _ => rfl⟩
   have HB2:=Lib.hid hb2
   clear HC hq hb2
   go_wp2_with fail
   refine(HNum.out w2 HB2.out).mono ?_
   rintro e w3 ⟨n,b,rfl,hnb,hb3⟩
   have HNB:=Lib.hid hnb
   have HB3:=Lib.hid (HB2.out.trans (hb3.mono HB2.out.size))
   clear HNum hb3 HB2 hnb
   cases ok with
   |false=>
    go_wp2_with fail
    go_ret2
    exact TxtE.of (l:=[]) rfl (HZ.out _ HB3.out) Fine.nil
   |true=>
    cases b with
    |false=>
     go_wp2_with fail
     go_ret2
     exact TxtE.of (l:=[]) rfl (HZ.out _ HB3.out) Fine.nil
    |true=>
     obtain⟨k,rfl⟩:=Int.eq_ofNat_of_zero_le (HNB.out rfl)
     by_cases hlt:(R.length:Int)<(k:Int)
     ·go_wp2_with fail
      go_ret2
      exact TxtE.of (l:=[]) rfl (HZ.out _ HB3.out) Fine.nil
     ·have hle:(k:Int)≤(R.length:Int):=by omega
      have hx1:(⟨R.toArray⟩:ByteArray).extract 0 k=⟨(R.take k).toArray⟩:=ext_take R k
      have hx2:(⟨R.toArray⟩:ByteArray).extract k R.length=⟨(R.drop k).toArray⟩:=ext_drop R k
      have HX1:=Lib.hid hx1
      have HX2:=Lib.hid hx2
      obtain⟨t,ht⟩:∃t,t=R.take k:=⟨_,rfl⟩
      obtain⟨Y,hY⟩:∃Y,Y=R.drop k:=⟨_,rfl⟩
      have hRX:R.length+1≤X.length:=HCL.out.2 rfl
      have HTL:Hid (t.length≤s.length∧Y.length<X.length∧Y.length+(i+1)≤s.length):=Lib.hid (by
       have:=HX.out.1
       rw [ht,hY,List.length_take,List.length_drop]
       omega)
      have HCl:=Lib.hid (fun W=>sclone_any t W (by have:=HTL.out.1;have:=HS.out;omega))
      rw [← ht] at HX1
      rw [← hY] at HX2
      have HD:Hid (i+1≤4194304):=Lib.hid (by have:=HTL.out.2.2;have:=HS.out;omega)
      clear hx1 hx2 ht hY hRX
      go_wp2_with fail
      first | rw [HX1.out] | skip
      refine(HCl.out w3).mono ?_
      rintro e w4 ⟨rfl,hb4⟩
      have HB4:=Lib.hid (HB3.out.trans (hb4.mono HB3.out.size))
      clear HCl hb4 HB3
      have HI2:Hid (∀o,Lw 9 1 w (w4.alloc o) u4 i (acc.map txt)):=Lib.hid fun o=>(HI.out.down HB4.out).down (by go_grown)
      clear HI
      go_wp2_with (at_builtin;refine wp_one row29 rfl _ _ rfl u4 (acc.map txt) w4.heap.size 1 #[.string ⟨t.toArray⟩] rfl rfl (HI2.out _) (Bk.new rfl) rfl (by simp [Value.oneCell']) HD.out (by decide) ?_;intro v' w5 hs5 hg5;have HS5:=Lib.hid hs5;clear hs5 hg5)
      go_wp2_with fail
      go_roundw
      case rel=>exact⟨Y,acc++[t],i+1,by first | rw [HX2.out] | simp only [HX2.out],by rw [List.length_append,HIL.out];rfl,Lib.hid ⟨HTL.out.2.2,fun z hz=>by
        rcases List.mem_append.1 hz with hz | hz
        ·exact HX.out.2 z hz
        ·rw [List.mem_singleton] at hz;subst hz;exact HTL.out.1⟩,Lib.hid (by rw [List.map_append];exact HS5.out)⟩
      case measure=>
       have h1:=HTL.out.2.1
       rw [HX2.out]
       simp only [strLen,size_ba]
       exact h1
set_option maxHeartbeats 4000000 in
theorem readerOf_some (k s:Bs)(hs:s.length≤2000000)(w:World)(hT:Tb w)(hM:Mx w): Calls Tryz.prog 89 #[.agg #[.string ⟨k.toArray⟩,.string ⟨s.toArray⟩]] w fun e w'=>∃g l,e = .returned (kpt g)∧Fine l∧Rq w.heap.size 29 w' g l∧w.heap.size≤g∧Below w.heap.size w w':=by
 have HT:=Lib.hid (fun o=>texts_some s hs (w.alloc o) (hT.below (by go_grown)) (hM.below (by go_grown)))
 clear hT hM
 go_enter Tryz.func89,Tryz.ntmps89
 go_wp2_with fail
 refine(HT.out _).mono ?_
 rintro e w2 ⟨v,l,b,rfl,h,hf⟩
 have H:=Lib.hid h
 have HFN:=Lib.hid hf
 obtain⟨a,c,rfl⟩:=h.shape
 clear HT h hf
 go_wp2_with fail
 go_ret
 have hw:Below w.heap.size w (w2.alloc (.cells #[.slice a l.length c] 29)):=by
  have h1:Below w.heap.size w (w.alloc (.cells #[.string ⟨k.toArray⟩,.string ⟨s.toArray⟩] 47)):=by go_grown
  have h2:=h1.trans (H.out.2.1.mono h1.size)
  have:=h2.size
  go_grown
 have hs:w.heap.size≤w2.heap.size:=by
  have:=H.out.2.1.size
  simp at this
  omega
 exact⟨w2.heap.size,l,rfl,HFN.out,⟨a,c,Bk.new rfl,(Lw.tx H.out).below (by go_grown),owns_cap H.out.1,fun q hq=>by
  have h1:=H.out.2.2 q (by cases a with | none=>cases hq | some p=>exact hq)
  simp at h1
  omega⟩,hs,hw⟩
theorem trim_len_le (s p:Bs): (Lib.trimPrefix s p).length≤s.length:=by
 unfold Lib.trimPrefix
 split
 ·rw [List.length_drop];omega
 ·exact Nat.le_refl _
set_option maxHeartbeats 16000000 in
theorem nodeOf_some (K F:Bs)(hk:K.length≤2000000)(hf:F.length≤2000000)(w:World)(hT:Tb w)(hM:Mx w)(hE:Er w): Calls Tryz.prog 91 #[.agg #[.string ⟨K.toArray⟩,.string ⟨F.toArray⟩]] w fun e w'=>∃(i p:Int) (n:Nd) (sa:Option Addr) (sc:Nat) (aa:Option Addr) (ac:Nat),e = .returned (.agg (inC i p n (.slice sa n.scope.length sc) (.slice aa n.actors.length ac)))∧(n.id=i.toNat∧n.parent=p.toNat)∧Mid n∧(Fine n.scope∧Fine n.actors)∧Tx w' (.slice sa n.scope.length sc) n.scope∧Tx w' (.slice aa n.actors.length ac) n.actors∧Below w.heap.size w w'∧(∀q,(Value.slice sa n.scope.length sc).ownBlock=some q→w.heap.size≤q)∧∀q,(Value.slice aa n.actors.length ac).ownBlock=some q→w.heap.size≤q:=by
 have HR:=Lib.hid (fun W (hb:Below w.heap.size w W)=>readerOf_some K F hf W (hT.below hb) (hM.below hb))
 have HE:=Lib.hid hE
 have H4:=Lib.hid hE.size
 have Hnum:Hid (∀(B g:Nat) (W:World) (l:List Bs),4≤g→Fine l→Er W→Rq B 29 W g l→Calls Tryz.prog 90 #[.pointer (some ⟨g,0,none⟩)] W fun e w'=>∃(n:Int) (r:List Bs),e = .returned (.int .i64 n)∧Fine r∧Rq B 29 w' g r∧Only [g] W w'):=Lib.hid (fun B g W l hg hl he h=>rdnum_some B 29 (by decide) g hg l hl W he h)
 have Htext:Hid (∀(B g:Nat) (W:World) (l:List Bs),4≤g→Fine l→Er W→Rq B 29 W g l→Calls Tryz.prog 129 #[.pointer (some ⟨g,0,none⟩)] W fun e w'=>∃(s:Bs) (r:List Bs),e = .returned (.string ⟨s.toArray⟩)∧s.length≤2000000∧Fine r∧Rq B 29 w' g r∧Only [g] W w'):=Lib.hid (fun B g W l hg hl he h=>rdtext_some B 29 (by decide) g l hl W h)
 have Hflag:Hid (∀(B g:Nat) (W:World) (l:List Bs),4≤g→Fine l→Er W→Rq B 29 W g l→Calls Tryz.prog 132 #[.pointer (some ⟨g,0,none⟩)] W fun e w'=>∃(b:Bool) (r:List Bs),e = .returned (.bool b)∧Fine r∧Rq B 29 w' g r∧Only [g] W w'):=Lib.hid (fun B g W l hg hl he h=>rdflag_some B 29 (by decide) g l hl W h)
 have Hlist:Hid (∀(B g:Nat) (W:World) (l:List Bs),4≤g→Fine l→Er W→Rq B 29 W g l→Calls Tryz.prog 131 #[.pointer (some ⟨g,0,none⟩)] W fun e w'=>∃(a:Option Addr) (x:List Bs) (c:Nat) (r:List Bs),e = .returned (.slice a x.length c)∧Fine x∧Tx w' (.slice a x.length c) x∧Fine r∧Rq B 29 w' g r∧Only [g] W w'∧(∀q,a.map (·.block)=some q→B≤q)):=Lib.hid (fun B g W l hg hl he h=>rdlist_some B 29 (by decide) g hg l hl W he h)
 obtain⟨I,hI⟩:∃I,I=Lib.trimPrefix K [110,111,100,101,47]:=⟨_,rfl⟩
 have HI:=Lib.hid (fun g (hg:4≤g) W (he:Er W)=>rdnum_some w.heap.size 155 (by decide) g hg [I] ⟨by simp,fun s hs=>by
  rw [List.mem_singleton] at hs;subst hs;rw [hI];have:=trim_len_le K [110,111,100,101,47];omega⟩ W he)
 have HTP:=Lib.hid (fun W=>Tryz.strings_TrimPrefix ⟨K.toArray⟩ ⟨#[110,111,100,101,47]⟩ W)
 have e1:Lib.trimPrefix (⟨K.toArray⟩:ByteArray).data.toList (⟨#[110,111,100,101,47]⟩:ByteArray).data.toList=I:=hI.symm
 rw [e1] at HTP
 clear hT hM hf hk e1 hI hE
 unfold kpt at HI HR
 obtain⟨W2,hW2⟩:∃W2,W2=((((w.alloc (.cells #[.string ⟨K.toArray⟩,.string ⟨F.toArray⟩] 47)).alloc (.cells zeroN 31)).alloc (.cells #[.string ⟨I.toArray⟩] 9)).alloc (.cells #[.slice (some ⟨w.heap.size+1+1,0,none⟩) 1 1] 155)):=⟨_,rfl⟩
 have B2:Hid (Below w.heap.size w W2):=Lib.hid (by rw [hW2];go_grown)
 have Z2:Hid (Bk 31 W2 (w.heap.size+1) zeroN):=Lib.hid (by rw [hW2];exact((Bk.new (by simp)).alloc).alloc)
 have Q2:Hid (Rq w.heap.size 155 W2 (w.heap.size+1+1+1) [I]):=Lib.hid (by
  rw [hW2]
  have hk:Bk 9 (((w.alloc (.cells #[.string ⟨K.toArray⟩,.string ⟨F.toArray⟩] 47)).alloc (.cells zeroN 31)).alloc (.cells #[.string ⟨I.toArray⟩] 9)) (w.heap.size+1+1) #[.string ⟨I.toArray⟩]:=Bk.new (by simp)
  have hk2:=hk.alloc (o:= .cells #[.slice (some ⟨w.heap.size+1+1,0,none⟩) 1 1] 155)
  refine⟨_,1,Bk.new (by simp),⟨_,1,rfl,fun i hi=>⟨_,_,rfl,?_⟩,fun q hq=>?_⟩,Nat.le_refl _,fun q hq=>?_⟩
  ·have:i=0:=by simpa using hi
   subst this
   exact hk2.cell 0
  ·cases hq;exact⟨_,hk2⟩
  ·cases hq;simp;omega)
 have S2:Hid (W2.heap.size=w.heap.size+1+1+1+1):=Lib.hid (by rw [hW2];simp)
 have K2:Hid (Bk 47 (((w.alloc (.cells #[.string ⟨K.toArray⟩,.string ⟨F.toArray⟩] 47)).alloc (.cells zeroN 31))) w.heap.size #[.string ⟨K.toArray⟩,.string ⟨F.toArray⟩]):=Lib.hid (Bk.new rfl).alloc
 have KW:Hid (Bk 47 W2 w.heap.size #[.string ⟨K.toArray⟩,.string ⟨F.toArray⟩]):=Lib.hid (by rw [hW2];exact(K2.out.alloc).alloc)
 have HW2:=Lib.hid hW2
 clear hW2
 go_enter Tryz.func91,Tryz.ntmps91
 go_wp2_with fail
 refine(HTP.out _).mono ?_
 rintro e w1 ⟨rfl,rfl⟩
 clear HTP
 go_wp2_with (have hw2:=HW2.out;unfold zeroN at hw2;rw [← hw2];clear hw2;refine wpList_load_row rfl 47 _ rfl w.heap.size rfl 47 _ (0,0) _ KW.out Tryz.underlying47 rfl i47 ?_)
 refine(HR.out _ B2.out).mono ?_
 rintro e w3 ⟨g,R0,rfl,hf0,h1,h2,h3⟩
 obtain⟨g1,hg1⟩:∃g1,g1=w.heap.size+1+1+1:=⟨_,rfl⟩
 obtain⟨gr,hgr⟩:∃gr,gr=w.heap.size+1:=⟨_,rfl⟩
 have hs:=S2.out
 have G1:Hid (g≠g1):=Lib.hid (by omega)
 have G2:Hid (gr≠g∧gr≠g1):=Lib.hid (by omega)
 have G3:Hid (w.heap.size≤gr∧w.heap.size≤g1∧w.heap.size≤g):=Lib.hid (by omega)
 have G4:Hid (4≤g∧4≤g1):=Lib.hid (by have:=H4.out;omega)
 have Q3:Hid (Rq w.heap.size 155 w3 g1 [I]):=Lib.hid (by rw [hg1];exact Q2.out.below h3)
 have P3:Hid (Rq W2.heap.size 29 w3 g R0):=Lib.hid h1
 have F4:=Lib.hid hf0
 have Z3:Hid (Bk 31 w3 gr zeroN):=Lib.hid (by rw [hgr];exact Z2.out.below h3)
 have B3:Hid (Below w.heap.size w w3):=Lib.hid (B2.out.trans (h3.mono B2.out.size))
 have E3:Hid (Er w3):=Lib.hid (HE.out.below B3.out)
 have SB:Hid (w.heap.size≤W2.heap.size):=Lib.hid B2.out.size
 obtain⟨B,hB⟩:∃B,B=W2.heap.size:=⟨_,rfl⟩
 rw [← hB] at P3 SB
 rw [← hg1,← hgr]
 clear h1 h2 h3 hs hg1 hgr hB hf0 Q2 Z2 B2 S2 K2 KW HW2 HR HE
 go_wp2_with fail
 refine(HI.out g1 G4.out.2 w3 E3.out Q3.out).mono ?_
 rintro e w4 ⟨i,_,rfl,_,_,h4⟩
 have P4:Hid (Rq B 29 w4 g R0):=Lib.hid (by
  obtain⟨_,_,hk,_⟩:=Q3.out
  exact P3.out.only h4 hk (by decide) G1.out)
 have O4:Hid (Only [g,g1] w3 w4):=Lib.hid (h4.mono (fun x hx=> .inl (by simp at hx;simp [hx])))
 have HG:Hid (∀z∈[g,g1],4≤z):=Lib.hid (by have:=G4.out;intro z hz;simp at hz;rcases hz with rfl | rfl<;>omega)
 clear h4 Q3 P3 HI
 go_wp2_with fail
 refine(Hnum.out B g w4 _ G4.out.1 F4.out (E3.out.only O4.out HG.out) P4.out).mono ?_
 rintro e w5 ⟨x0,R1,rfl,hf0,h2,h3⟩
 have P5:=Lib.hid h2
 have F5:=Lib.hid hf0
 have O5:Hid (Only [g,g1] w3 w5):=Lib.hid (O4.out.trans h3 (fun x hx=> .inl (by simp at hx;simp [hx])))
 have q0:Hid (Only [g] w4 w5):=Lib.hid h3
 obtain⟨_,_,k0,_⟩:=P4.out
 have k0:=Lib.hid k0
 clear h2 h3 hf0 F4 P4 O4 q0 k0
 go_wp2_with fail
 refine(Hnum.out B g w5 _ G4.out.1 F5.out (E3.out.only O5.out HG.out) P5.out).mono ?_
 rintro e w6 ⟨x1,R2,rfl,hf1,h2,h3⟩
 have P6:=Lib.hid h2
 have F6:=Lib.hid hf1
 have O6:Hid (Only [g,g1] w3 w6):=Lib.hid (O5.out.trans h3 (fun x hx=> .inl (by simp at hx;simp [hx])))
 have q1:Hid (Only [g] w5 w6):=Lib.hid h3
 obtain⟨_,_,k1,_⟩:=P5.out
 have k1:=Lib.hid k1
 clear h2 h3 hf1 F5 P5 O5 q1 k1
 go_wp2_with fail
 refine(Htext.out B g w6 _ G4.out.1 F6.out (E3.out.only O6.out HG.out) P6.out).mono ?_
 rintro e w7 ⟨x2,R3,rfl,hx2,hf2,h2,h3⟩
 have X2:=Lib.hid hx2
 clear hx2
 have P7:=Lib.hid h2
 have F7:=Lib.hid hf2
 have O7:Hid (Only [g,g1] w3 w7):=Lib.hid (O6.out.trans h3 (fun x hx=> .inl (by simp at hx;simp [hx])))
 have q2:Hid (Only [g] w6 w7):=Lib.hid h3
 obtain⟨_,_,k2,_⟩:=P6.out
 have k2:=Lib.hid k2
 clear h2 h3 hf2 F6 P6 O6 q2 k2
 go_wp2_with fail
 refine(Htext.out B g w7 _ G4.out.1 F7.out (E3.out.only O7.out HG.out) P7.out).mono ?_
 rintro e w8 ⟨x3,R4,rfl,hx3,hf3,h2,h3⟩
 have X3:=Lib.hid hx3
 clear hx3
 have P8:=Lib.hid h2
 have F8:=Lib.hid hf3
 have O8:Hid (Only [g,g1] w3 w8):=Lib.hid (O7.out.trans h3 (fun x hx=> .inl (by simp at hx;simp [hx])))
 have q3:Hid (Only [g] w7 w8):=Lib.hid h3
 obtain⟨_,_,k3,_⟩:=P7.out
 have k3:=Lib.hid k3
 clear h2 h3 hf3 F7 P7 O7 q3 k3
 go_wp2_with fail
 refine(Htext.out B g w8 _ G4.out.1 F8.out (E3.out.only O8.out HG.out) P8.out).mono ?_
 rintro e w9 ⟨x4,R5,rfl,hx4,hf4,h2,h3⟩
 have X4:=Lib.hid hx4
 clear hx4
 have P9:=Lib.hid h2
 have F9:=Lib.hid hf4
 have O9:Hid (Only [g,g1] w3 w9):=Lib.hid (O8.out.trans h3 (fun x hx=> .inl (by simp at hx;simp [hx])))
 have q4:Hid (Only [g] w8 w9):=Lib.hid h3
 obtain⟨_,_,k4,_⟩:=P8.out
 have k4:=Lib.hid k4
 clear h2 h3 hf4 F8 P8 O8 q4 k4
 go_wp2_with fail
 refine(Hlist.out B g w9 _ G4.out.1 F9.out (E3.out.only O9.out HG.out) P9.out).mono ?_
 rintro e w10 ⟨sa,x5,sc,R6,rfl,hx5,h1,hf5,h2,h3,h4⟩
 have X5:=Lib.hid hx5
 have Ts:=Lib.hid h1
 have Ns:=Lib.hid h4
 clear hx5 h1 h4
 have P10:=Lib.hid h2
 have F10:=Lib.hid hf5
 have O10:Hid (Only [g,g1] w3 w10):=Lib.hid (O9.out.trans h3 (fun x hx=> .inl (by simp at hx;simp [hx])))
 have q5:Hid (Only [g] w9 w10):=Lib.hid h3
 obtain⟨_,_,k5,_⟩:=P9.out
 have k5:=Lib.hid k5
 clear h2 h3 hf5 F9 P9 O9 q5 k5
 go_wp2_with fail
 refine(Hnum.out B g w10 _ G4.out.1 F10.out (E3.out.only O10.out HG.out) P10.out).mono ?_
 rintro e w11 ⟨x6,R7,rfl,hf6,h2,h3⟩
 have P11:=Lib.hid h2
 have F11:=Lib.hid hf6
 have O11:Hid (Only [g,g1] w3 w11):=Lib.hid (O10.out.trans h3 (fun x hx=> .inl (by simp at hx;simp [hx])))
 have q6:Hid (Only [g] w10 w11):=Lib.hid h3
 obtain⟨_,_,k6,_⟩:=P10.out
 have k6:=Lib.hid k6
 replace Ts:=Lib.hid (Ts.out.only q6.out (fun x hx hm=>by rw [List.mem_singleton] at hm;subst hm;exact owns_ne Ts.out k6.out (by decide) hx))
 clear h2 h3 hf6 F10 P10 O10 q6 k6
 go_wp2_with fail
 refine(Hnum.out B g w11 _ G4.out.1 F11.out (E3.out.only O11.out HG.out) P11.out).mono ?_
 rintro e w12 ⟨x7,R8,rfl,hf7,h2,h3⟩
 have P12:=Lib.hid h2
 have F12:=Lib.hid hf7
 have O12:Hid (Only [g,g1] w3 w12):=Lib.hid (O11.out.trans h3 (fun x hx=> .inl (by simp at hx;simp [hx])))
 have q7:Hid (Only [g] w11 w12):=Lib.hid h3
 obtain⟨_,_,k7,_⟩:=P11.out
 have k7:=Lib.hid k7
 replace Ts:=Lib.hid (Ts.out.only q7.out (fun x hx hm=>by rw [List.mem_singleton] at hm;subst hm;exact owns_ne Ts.out k7.out (by decide) hx))
 clear h2 h3 hf7 F11 P11 O11 q7 k7
 go_wp2_with fail
 refine(Hflag.out B g w12 _ G4.out.1 F12.out (E3.out.only O12.out HG.out) P12.out).mono ?_
 rintro e w13 ⟨x8,R9,rfl,hf8,h2,h3⟩
 have P13:=Lib.hid h2
 have F13:=Lib.hid hf8
 have O13:Hid (Only [g,g1] w3 w13):=Lib.hid (O12.out.trans h3 (fun x hx=> .inl (by simp at hx;simp [hx])))
 have q8:Hid (Only [g] w12 w13):=Lib.hid h3
 obtain⟨_,_,k8,_⟩:=P12.out
 have k8:=Lib.hid k8
 replace Ts:=Lib.hid (Ts.out.only q8.out (fun x hx hm=>by rw [List.mem_singleton] at hm;subst hm;exact owns_ne Ts.out k8.out (by decide) hx))
 clear h2 h3 hf8 F12 P12 O12 q8 k8
 go_wp2_with fail
 refine(Hflag.out B g w13 _ G4.out.1 F13.out (E3.out.only O13.out HG.out) P13.out).mono ?_
 rintro e w14 ⟨x9,R10,rfl,hf9,h2,h3⟩
 have P14:=Lib.hid h2
 have F14:=Lib.hid hf9
 have O14:Hid (Only [g,g1] w3 w14):=Lib.hid (O13.out.trans h3 (fun x hx=> .inl (by simp at hx;simp [hx])))
 have q9:Hid (Only [g] w13 w14):=Lib.hid h3
 obtain⟨_,_,k9,_⟩:=P13.out
 have k9:=Lib.hid k9
 replace Ts:=Lib.hid (Ts.out.only q9.out (fun x hx hm=>by rw [List.mem_singleton] at hm;subst hm;exact owns_ne Ts.out k9.out (by decide) hx))
 clear h2 h3 hf9 F13 P13 O13 q9 k9
 go_wp2_with fail
 refine(Hlist.out B g w14 _ G4.out.1 F14.out (E3.out.only O14.out HG.out) P14.out).mono ?_
 rintro e w15 ⟨aa,x10,ac,R11,rfl,hx10,h1,hf10,h2,h3,h4⟩
 have X10:=Lib.hid hx10
 have Ta:=Lib.hid h1
 have Na:=Lib.hid h4
 clear hx10 h1 h4
 have P15:=Lib.hid h2
 have F15:=Lib.hid hf10
 have O15:Hid (Only [g,g1] w3 w15):=Lib.hid (O14.out.trans h3 (fun x hx=> .inl (by simp at hx;simp [hx])))
 have q10:Hid (Only [g] w14 w15):=Lib.hid h3
 obtain⟨_,_,k10,_⟩:=P14.out
 have k10:=Lib.hid k10
 replace Ts:=Lib.hid (Ts.out.only q10.out (fun x hx hm=>by rw [List.mem_singleton] at hm;subst hm;exact owns_ne Ts.out k10.out (by decide) hx))
 clear h2 h3 hf10 F14 P14 O14 q10 k10
 go_wp2_with fail
 refine(Hnum.out B g w15 _ G4.out.1 F15.out (E3.out.only O15.out HG.out) P15.out).mono ?_
 rintro e w16 ⟨x11,R12,rfl,hf11,h2,h3⟩
 have P16:=Lib.hid h2
 have F16:=Lib.hid hf11
 have O16:Hid (Only [g,g1] w3 w16):=Lib.hid (O15.out.trans h3 (fun x hx=> .inl (by simp at hx;simp [hx])))
 have q11:Hid (Only [g] w15 w16):=Lib.hid h3
 obtain⟨_,_,k11,_⟩:=P15.out
 have k11:=Lib.hid k11
 replace Ts:=Lib.hid (Ts.out.only q11.out (fun x hx hm=>by rw [List.mem_singleton] at hm;subst hm;exact owns_ne Ts.out k11.out (by decide) hx))
 replace Ta:=Lib.hid (Ta.out.only q11.out (fun x hx hm=>by rw [List.mem_singleton] at hm;subst hm;exact owns_ne Ta.out k11.out (by decide) hx))
 clear h2 h3 hf11 F15 P15 O15 q11 k11
 go_wp2_with fail
 refine(Htext.out B g w16 _ G4.out.1 F16.out (E3.out.only O16.out HG.out) P16.out).mono ?_
 rintro e w17 ⟨x12,R13,rfl,hx12,hf12,h2,h3⟩
 have X12:=Lib.hid hx12
 clear hx12
 have P17:=Lib.hid h2
 have F17:=Lib.hid hf12
 have O17:Hid (Only [g,g1] w3 w17):=Lib.hid (O16.out.trans h3 (fun x hx=> .inl (by simp at hx;simp [hx])))
 have q12:Hid (Only [g] w16 w17):=Lib.hid h3
 obtain⟨_,_,k12,_⟩:=P16.out
 have k12:=Lib.hid k12
 replace Ts:=Lib.hid (Ts.out.only q12.out (fun x hx hm=>by rw [List.mem_singleton] at hm;subst hm;exact owns_ne Ts.out k12.out (by decide) hx))
 replace Ta:=Lib.hid (Ta.out.only q12.out (fun x hx hm=>by rw [List.mem_singleton] at hm;subst hm;exact owns_ne Ta.out k12.out (by decide) hx))
 clear h2 h3 hf12 F16 P16 O16 q12 k12
 go_wp2_with fail
 refine(Htext.out B g w17 _ G4.out.1 F17.out (E3.out.only O17.out HG.out) P17.out).mono ?_
 rintro e w18 ⟨x13,R14,rfl,hx13,hf13,h2,h3⟩
 have X13:=Lib.hid hx13
 clear hx13
 have P18:=Lib.hid h2
 have F18:=Lib.hid hf13
 have O18:Hid (Only [g,g1] w3 w18):=Lib.hid (O17.out.trans h3 (fun x hx=> .inl (by simp at hx;simp [hx])))
 have q13:Hid (Only [g] w17 w18):=Lib.hid h3
 obtain⟨_,_,k13,_⟩:=P17.out
 have k13:=Lib.hid k13
 replace Ts:=Lib.hid (Ts.out.only q13.out (fun x hx hm=>by rw [List.mem_singleton] at hm;subst hm;exact owns_ne Ts.out k13.out (by decide) hx))
 replace Ta:=Lib.hid (Ta.out.only q13.out (fun x hx hm=>by rw [List.mem_singleton] at hm;subst hm;exact owns_ne Ta.out k13.out (by decide) hx))
 clear h2 h3 hf13 F17 P17 O17 q13 k13
 have ZE:Hid (Bk 31 w18 gr zeroN):=Lib.hid (Z3.out.only O18.out (by have:=G2.out;simp;omega))
 obtain⟨n,hn⟩:∃n:Nd,n=⟨i.toNat,x0,x1.toNat,x2,x3,x4,x5,x6,x7,x8,x9,x10,x11,x12,x13⟩:=⟨_,rfl⟩
 have HID:Hid (n.id=i.toNat∧n.parent=x1.toNat):=Lib.hid (by rw [hn];exact⟨rfl,rfl⟩)
 have HMD:Hid (Mid n∧(Fine n.scope∧Fine n.actors)):=Lib.hid (by
  rw [hn]
  exact⟨⟨by have:=X2.out;dsimp only;omega,by have:=X3.out;dsimp only;omega,by have:=X4.out;dsimp only;omega,fun s hs=>by have:=X5.out.2 s hs;omega,fun s hs=>by have:=X10.out.2 s hs;omega,by have:=X12.out;dsimp only;omega,by have:=X13.out;dsimp only;omega⟩,X5.out,X10.out⟩)
 have n0:x0=n.kind:=by rw [hn]
 have n2:x2=n.subject:=by rw [hn]
 have n3:x3=n.client:=by rw [hn]
 have n4:x4=n.audience:=by rw [hn]
 have n5:x5=n.scope:=by rw [hn]
 have n6:x6=n.born:=by rw [hn]
 have n7:x7=n.exp:=by rw [hn]
 have n8:x8=n.dead:=by rw [hn]
 have n9:x9=n.spent:=by rw [hn]
 have n10:x10=n.actors:=by rw [hn]
 have n11:x11=n.level:=by rw [hn]
 have n12:x12=n.secret:=by rw [hn]
 have n13:x13=n.data:=by rw [hn]
 clear hn
 clear X2 X3 X4 X5 X10 X12 X13
 subst n0 n2 n3 n4 n5 n6 n7 n8 n9 n10 n11 n12 n13
 go_wp2_with (refine wpList_put rfl 31 _ _ rfl gr zeroN _ rfl rfl ZE.out i31 rfl (one15 i x1 n sa aa n.scope.length sc n.actors.length ac) ?_)
 refine bodyPost_ret (v:= .agg (inC i x1 n (.slice sa n.scope.length sc) (.slice aa n.actors.length ac))) (results_cell_row rfl _ _ gr 31 _ (0,0) _ rfl (Bk.row ZE.out) Tryz.underlying31 rfl i31) rfl ?_
 have hO:Below w.heap.size w w18:=B3.out.trans (O18.out.below B3.out.size (fun x hx=>by have:=G3.out;simp at hx;rcases hx with rfl | rfl<;>omega))
 refine⟨i,x1,n,sa,sc,aa,ac,rfl,HID.out,HMD.out.1,HMD.out.2,Ts.out.setRow ZE.out (by decide),Ta.out.setRow ZE.out (by decide),below_row hO G3.out.1,fun q hq=>?_,fun q hq=>?_⟩
 ·exact Nat.le_trans SB.out (Ns.out q (by cases sa with | none=>cases hq | some p=>exact hq))
 ·exact Nat.le_trans SB.out (Na.out q (by cases aa with | none=>cases hq | some p=>exact hq))
theorem made_len {N:Int}{f:UInt8→Bool}{s:Bs}(h:madeP N f s=true): (s.length:Int)≤N:=by
 unfold madeP at h
 simp only [Bool.and_eq_true,decide_eq_true_eq] at h
 omega
theorem trim_two (s:Bs)(a b:UInt8): s.length≤(Lib.trimPrefix s [a,b]).length+2:=by
 unfold Lib.trimPrefix
 split
 ·rw [List.length_drop];simp only [List.length_cons,List.length_nil];omega
 ·omega
theorem prin_len {s:Bs}(h:prinP s=true): s.length≤200:=by
 unfold prinP at h
 simp only [Bool.or_eq_true,Bool.and_eq_true] at h
 rcases h with ⟨_,h⟩ | ⟨_,h⟩
 ·have h1:=made_len h
  have h2:=trim_two s 117 58
  omega
 ·have h1:=made_len h
  have h2:=trim_two s 99 58
  omega
structure Small (n:Nd): Prop where
 kind:1≤n.kind∧n.kind<6
 subject:n.subject.length≤200
 client:n.client.length≤200
 audience:n.audience.length≤200
 scope:n.scope.length≤16∧∀s∈n.scope,s.length≤200
 born:0≤n.born∧n.born≤1099511627776
 exp:0≤n.exp∧n.exp≤1099511627776
 actors:n.actors.length≤4∧∀s∈n.actors,s.length≤200
 level:0≤n.level∧n.level≤3
 secret:n.secret.length≤64
 data:n.data.length≤256
theorem may_small {p:Int}{n:Nd}(h:mayP p n=true): Small n:=by
 unfold mayP isTimeP at h
 simp only [Bool.and_eq_true,decide_eq_true_eq] at h
 obtain⟨⟨⟨⟨⟨⟨⟨⟨⟨⟨⟨⟨⟨⟨⟨⟨⟨h1,h2⟩,h3⟩,h4⟩,h5⟩,h6⟩,h7⟩,h8⟩,h9⟩,h10⟩,h11⟩,h12⟩,h13⟩,h14⟩,h15⟩,h16⟩,h17⟩,h18⟩:=h
 refine⟨⟨h1,h2⟩,prin_len h4,?_,?_,⟨by omega,fun s hs=>?_⟩,h10,h11,⟨by omega,fun s hs=>prin_len (List.all_eq_true.1 h13 s hs)⟩,⟨h14,h15⟩,by omega,by omega⟩
 ·rcases Bool.or_eq_true _ _▸h5 with h | h
  ·have e:n.client=[]:=by simpa using h
   rw [e];simp
  ·have:=made_len h;omega
 ·rcases Bool.or_eq_true _ _▸h6 with h | h
  ·have e:n.audience=[]:=by simpa using h
   rw [e];simp
  ·have:=made_len h;omega
 ·have:=made_len (List.all_eq_true.1 h8 s hs);omega
theorem form_small:∀(k:List Bs),(∀s∈k,s.length≤999)→(formL k).length≤k.length*1010
 |[],_=>by simp [formL]
 |s::k,h=>by
  have h1:=form_small k fun z hz=>h z (List.mem_cons_of_mem _ hz)
  have h2:=h s (by simp)
  have h3:(Lib.decDigits s.length).length≤4:=dec_len 3 s.length (by omega)
  simp only [formL,List.length_append,one_len,List.length_cons]
  omega
theorem itoa_small {x:Int}(h0:0≤x)(h:x<1000000000000000000): (Lib.itoa x).length≤999:=by
 obtain⟨u,rfl⟩:=Int.eq_ofNat_of_zero_le h0
 rw [Lib.itoa_nonneg]
 have:=dec_len 17 u (by omega)
 omega
theorem node_small {n:Nd}(h:Small n)(hp:n.parent≤99999999): (formL (nodeT n)).length≤1000000:=by
 have hl:(nodeT n).length≤40:=by
  unfold nodeT numsL listedL
  have:=h.scope.1
  have:=h.actors.1
  simp only [List.length_append,List.length_map,List.length_cons,List.length_nil]
  omega
 have h1:=form_small (nodeT n) (fun s hs=>by
  rw [nodeT_eq] at hs
  unfold listedL at hs
  have d1:=dec_len 1 n.scope.length (by have:=h.scope.1;omega)
  have d2:=dec_len 1 n.actors.length (by have:=h.actors.1;omega)
  have f1:∀b,(flagT b).length≤999:=fun b=>by cases b<;>decide
  simp only [List.mem_append,List.mem_cons,List.not_mem_nil,or_false] at hs
  rcases hs with hs | hs | hs | hs | hs | (hs | hs) | hs | hs | hs | hs | (hs | hs) | hs | hs | hs
  ·rw [hs];exact itoa_small (by have:=h.kind;omega) (by have:=h.kind;omega)
  ·rw [hs];exact itoa_small (by omega) (by omega)
  ·rw [hs];have:=h.subject;omega
  ·rw [hs];have:=h.client;omega
  ·rw [hs];have:=h.audience;omega
  ·rw [hs];omega
  ·have:=h.scope.2 s hs;omega
  ·rw [hs];exact itoa_small h.born.1 (by have:=h.born.2;omega)
  ·rw [hs];exact itoa_small h.exp.1 (by have:=h.exp.2;omega)
  ·rw [hs];exact f1 _
  ·rw [hs];exact f1 _
  ·rw [hs];omega
  ·have:=h.actors.2 s hs;omega
  ·rw [hs];exact itoa_small h.level.1 (by have:=h.level.2;omega)
  ·rw [hs];have:=h.secret;omega
  ·rw [hs];have:=h.data;omega)
 have:=Nat.mul_le_mul_right 1010 hl
 omega
theorem Inv.rows {l:List Nd}{x:Int}(h:Inv l x): ∀n∈l,RowOk n:=fun n hn=>by
 have hs:=may_small (h.may n hn)
 have hx:=h.good.2 n hn
 have hm:=h.most
 have hp:=(h.ok.mem hn).2
 have:=hs.kind
 have:=hs.born
 have:=hs.exp
 have:=hs.level
 exact⟨by omega,⟨by unfold In64;omega,by unfold In64;omega,by unfold In64;omega,by unfold In64;omega,by unfold In64;omega⟩,by have:=hs.scope.1;omega,by have:=hs.actors.1;omega,by have:=node_small hs (by omega);omega⟩
theorem Inv.whole {l:List Nd}{x:Nat}(h:Inv l (x:Int)): Whole l x where
 ok:=h.ok
 next:=⟨by have:=h.good.1;omega,by have:=h.most;omega⟩
 ids:=fun n hn=>by have:=h.good.2 n hn;omega
 may:=h.may
 mid:=fun n hn=>by
  have hs:=may_small (h.may n hn)
  have hx:=h.good.2 n hn
  have hm:=h.most
  have hp:=(h.ok.mem hn).2
  exact⟨h.mid n hn,⟨by have:=hs.kind;omega,by omega,by have:=hs.born;omega,by have:=hs.exp;omega,by have:=hs.level;omega⟩,node_small hs (by omega)⟩
 sec:=h.sec
 few:=h.few
end Go.Proofs.YthogppennalobaaGreatDoor
