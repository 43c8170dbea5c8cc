/- The reader of a row The reader of a row all, rise -/
import Derived.Test.YthogppennalobaaGreatDoorZl07
import Derived.Test.YthogppennalobaaGreatDoorZl11
import Derived.Test.YthogppennalobaaGreatDoorZl06
import Derived.Test.YthogppennalobaaGreatDoorZl03
set_option linter.unusedVariables false
set_option linter.unusedSimpArgs false
set_option maxRecDepth 100000
namespace Go.Proofs.YthogppennalobaaGreatDoor
open Go.RowKit Go.Sort Forest OwnR TxO Pl
def Rq (B:Nat)(t:TypeId)(w:World)(g:Nat)(l:List Bs): Prop:=∃a c,Bk t w g #[.slice a l.length c]∧Tx w (.slice a l.length c) l∧l.length≤c∧∀q,a.map (·.block)=some q→B≤q
theorem Rq.below {B:Nat}{t:TypeId}{w w':World}{g:Nat}{l:List Bs}(h:Rq B t w g l)(hb:Below w.heap.size w w'): Rq B t w' g l:=by
 obtain⟨a,c,h1,h2,h3,h4⟩:=h
 exact⟨a,c,h1.below hb,h2.below hb,h3,h4⟩
theorem Rq.only {B:Nat}{t:TypeId}{w w':World}{g q:Nat}{l:List Bs}{z:TypeId}{cs:Array Value}(h:Rq B t w g l)(ho:Only [q] w w')(hq:Bk z w q cs)(hz:z≠9)(hg:g≠q): Rq B t w' g l:=by
 obtain⟨a,c,h1,h2,h3,h4⟩:=h
 exact⟨a,c,h1.only ho (by simpa using hg),h2.only ho fun x hx hm=>by
  rw [List.mem_singleton] at hm
  subst hm
  exact owns_ne h2 hq hz hx,h3,h4⟩
theorem add_block (p:Addr)(k:Nat): (p.add k).block=p.block:=by unfold Addr.add;split<;>rfl
theorem add_at (b o j:Nat): (⟨b,o,none⟩:Addr).add j=⟨b,o+j,none⟩:=by unfold Addr.add;split<;>simp_all
theorem Tx.take {w:World}{a:Option Addr}{N c d:Nat}{x l:List Bs}(h:Tx w (.slice a N c) (x++l)): Tx w (.slice a x.length d) x:=by
 obtain⟨a',c',e,h1,h2⟩:=h
 cases e
 refine⟨a,d,rfl,fun i hi=>?_,fun q hq=>h2 q (by cases a<;>exact hq)⟩
 obtain⟨b,o,h3,h4⟩:=h1 i (by rw [List.length_append];omega)
 exact⟨b,o,h3,by rw [h4,List.getElem_append_left hi]⟩
theorem Tx.drop {w:World}{a:Option Addr}{N c d k m:Nat}{x l:List Bs}(h:Tx w (.slice a N c) (x++l))(hk:k=x.length)(hm:m=l.length): Tx w (.slice (Option.map (fun y=>y.add k) a) m d) l:=by
 subst hk hm
 obtain⟨a',c',e,h1,h2⟩:=h
 cases e
 refine⟨_,d,rfl,fun i hi=>?_,fun q hq=>h2 q ?_⟩
 ·obtain⟨b,o,rfl,h4⟩:=h1 (x.length+i) (by rw [List.length_append];omega)
  refine⟨b,o+x.length,by simp [add_at],?_⟩
  rw [Nat.add_assoc,h4,List.getElem_append_right (by omega)]
  congr 2
  simp
 ·cases a with
  |none=>exact hq
  |some p=>
   have:(p.add x.length).block=p.block:=by unfold Addr.add;split<;>rfl
   simpa [Value.ownBlock,this] using hq
theorem Tx.zero {w:World}{a:Option Addr}{N c d:Nat}{x:List Bs}(h:Tx w (.slice a N c) x): Tx w (.slice a 0 d) []:=by
 obtain⟨a',c',e,h1,h2⟩:=h
 cases e
 exact⟨a,d,rfl,fun i hi=>absurd hi (by simp),fun q hq=>h2 q (by cases a<;>exact hq)⟩
theorem Tx.setAt {t:TypeId}(ht:t≠9){w:World}{v:Value}{x:List Bs}{g:Nat}{cs:Array Value}{u:Value}(h:Tx w v x)(hk:Bk t w g cs): Tx (w.setCell ⟨g,0,none⟩ u) v x:=h.setCell hk ht
set_option maxHeartbeats 4000000 in
theorem take_any (B:Nat)(t:TypeId)(ht:t≠9)(g:Nat)(x l:List Bs)(hl:(x++l).length≤1000000)(w:World)(h:Rq B t w g (x++l)): Calls Tryz.prog 152 #[kpt g,.int .i64 (x.length:Int)] w fun e w'=>∃a c,e = .returned (.slice a x.length c)∧Tx w' (.slice a x.length c) x∧x.length≤c∧Rq B t w' g l∧Only [g] w w'∧(∀q,a.map (·.block)=some q→B≤q):=by
 obtain⟨a,c,hk,hx,hc,hB⟩:=h
 have HK:=Lib.hid hk
 have HX:=Lib.hid hx
 have hC:w.cell? ⟨g,0,none⟩=some (.slice a (x++l).length c):=hk.cell 0
 have hF:w.frozen? ⟨g,0,none⟩=false:=hk.fro 0
 obtain⟨N,hN⟩:∃N,N=(x++l).length:=⟨_,rfl⟩
 obtain⟨k,hkk⟩:∃k,k=x.length:=⟨_,rfl⟩
 have HXL:Hid ((x++l).length=x.length+l.length):=Lib.hid List.length_append
 have HKN:Hid (k≤N):=Lib.hid (by have:=HXL.out;omega)
 rw [← hN] at hC hc hl HK HX
 rw [← hkk]
 have hle:(k:Int)≤(N:Int):=by have:=HKN.out;omega
 have hmin:min (k:Int) (N:Int)=(k:Int):=by omega
 have hmax:max 0 (k:Int)=(k:Int):=by omega
 have HN:=Lib.hid hN
 have HKK:=Lib.hid hkk
 unfold kpt
 clear hk hx hN hkk
 go_enter Tryz.func152,Tryz.ntmps152
 go_wp2_with fail
 all_goals go_ret
 all_goals have hN:=HN.out
 all_goals have hx:=HXL.out
 all_goals have hk:=HKK.out
 ·have hl0:l=[]:=List.length_eq_zero_iff.1 (by omega)
  subst hl0 hk
  have hz:N - x.length=0:=by omega
  rw [hz]
  refine⟨a,_,rfl,(HX.out.take).setAt ht HK.out,Nat.le_refl _,⟨a,0,HK.out.same,(HX.out.zero).setAt ht HK.out,Nat.le_refl _,hB⟩,(Only.refl _ _).setCell _ (.inl (by simp)) _,by first | exact hB | simpa using hB⟩
 ·have hz:N - k=l.length:=by omega
  rw [hz]
  refine⟨a,c,rfl,by subst hk;exact(HX.out.take).setAt ht HK.out,by omega,⟨_,_,HK.out.same,(HX.out.drop hk rfl).setAt ht HK.out,by omega,fun q hq=>hB q (by rw [← hq];cases a with | none=>rfl | some p=>exact congrArg some (add_block p k).symm)⟩,(Only.refl _ _).setCell _ (.inl (by simp)) _,by first | exact hB | simpa using hB⟩
set_option maxHeartbeats 4000000 in
theorem rdtext_any (B:Nat)(t:TypeId)(ht:t≠9)(g:Nat)(s:Bs)(l:List Bs)(hl:([s]++l).length≤1000000)(hs:s.length≤1000000)(w:World)(h:Rq B t w g ([s]++l)): Calls Tryz.prog 129 #[kpt g] w fun e w'=>e = .returned (.string ⟨s.toArray⟩)∧Rq B t w' g l∧Only [g] w w':=by
 have HT:=Lib.hid (take_any B t ht g [s] l hl w h)
 have HJ:Hid (∀(W:World) a c,Tx W (.slice a 1 c) [s]→1≤c→Calls Tryz.prog 151 #[.slice a 1 c,.string ⟨#[]⟩] W fun e w'=>e = .returned (.string ⟨s.toArray⟩)∧Below W.heap.size W w'):=Lib.hid (fun W a c hx hc=>by
  obtain⟨a',c',e,h1,h2⟩:=hx
  cases e
  obtain⟨b,o,rfl,h4⟩:=h1 0 (by simp)
  have hj:=Tryz.strings_Join b o c [⟨s.toArray⟩] ⟨#[]⟩ W (fun j x hj=>by
   match j,hj with
   |0,hj=>simp at hj;subst hj;exact h4
   |j+1,hj=>simp at hj) (by
    obtain⟨cs,hk⟩:=h2 b rfl
    exact hk.lt) (by simp) hc (by simp [Lib.join];omega)
  simpa [Lib.join] using hj)
 obtain⟨a0,c0,hk,_⟩:=h
 have HL:=Lib.hid hk.lt
 clear hk
 unfold kpt at HT ⊢
 simp only [List.length_singleton] at HT
 go_enter Tryz.func129,Tryz.ntmps129
 go_wp2_with fail
 refine HT.out.mono ?_
 rintro e w2 ⟨a,c,rfl,h1,h2,h3,h4,_⟩
 have H3:=Lib.hid h3
 have H4:=Lib.hid h4
 have HJ2:=Lib.hid (HJ.out w2 a c h1 h2)
 clear HT HJ h1 h2 h3 h4
 go_wp2_with fail
 refine HJ2.out.mono ?_
 rintro e w3 ⟨rfl,hb⟩
 have HB:=Lib.hid hb
 clear HJ2 hb
 go_wp2_with fail
 go_ret
 exact⟨rfl,H3.out.below HB.out,H4.out.trans (Only.of (L:=[]) HB.out) (fun x hx=>by cases hx)⟩
theorem atoi_digits (l:Bs)(h0:l≠[])(hd:∀b∈l,digitB b=true)(hv:valD l<1000000000000000000): Lib.atoiAll l = .ok (valD l:Int):=by
 cases hl:l with
 |nil=>exact absurd hl h0
 |cons c r=>
  rw [hl] at hd hv
  have hc:=digit_le (hd c (by simp))
  unfold valD at hv
  have hp:=pu_val (c::r) 0 hd hv
  unfold Lib.atoiAll
  dsimp only
  rw [if_neg (by omega)]
  unfold Lib.parseMag
  rw [if_neg (by simp),hp]
  dsimp only
  rw [if_neg (by omega),if_neg (by omega),if_neg (by omega)]
  rfl
structure Num (s:Bs)(n:Int): Prop where
 len:s.length≤1000000
 val:Lib.atoiAll s = .ok n
theorem Num.dec (n:Nat)(hn:n<1000000000000000000): Num (Lib.decDigits n) (n:Int):=⟨by have:=dec_len 17 n (by omega);omega,atoi_dec n hn⟩
set_option maxHeartbeats 4000000 in
theorem rdnum_any (B:Nat)(t:TypeId)(ht:t≠9)(g:Nat)(s:Bs)(n:Int)(hn:Num s n)(l:List Bs)(hl:([s]++l).length≤1000000)(w:World)(h:Rq B t w g ([s]++l)): Calls Tryz.prog 90 #[kpt g] w fun e w'=>e = .returned (.int .i64 n)∧Rq B t w' g l∧Only [g] w w':=by
 have HT:=Lib.hid (rdtext_any B t ht g s l hl hn.len w h)
 have HA:=Lib.hid (Tryz.strconv_Atoi_ok ⟨s.toArray⟩ (by rw [size_ba];have:=hn.len;omega) n (by simpa using hn.val))
 unfold kpt at HT ⊢
 clear h hn
 go_enter Tryz.func90,Tryz.ntmps90
 go_wp2_with fail
 refine HT.out.mono ?_
 rintro e w2 ⟨rfl,h3,h4⟩
 have H3:=Lib.hid h3
 have H4:=Lib.hid h4
 clear HT h3 h4
 go_wp2_with fail
 refine(HA.out w2).mono ?_
 rintro e w3 ⟨rfl,hb⟩
 have HB:Hid (Below w2.heap.size w2 w3):=Lib.hid (by
  rcases hb with rfl | ⟨t,rfl⟩
  ·exact Below.refl _ _
  ·exact Go.Joins.below_bytesWorld _ _ _ _ (Nat.le_refl _))
 clear HA hb
 go_wp2_with fail
 go_ret
 exact⟨rfl,H3.out.below HB.out,H4.out.trans (Only.of (L:=[]) HB.out) (fun x hx=>by cases hx)⟩
set_option maxHeartbeats 4000000 in
theorem rdflag_any (B:Nat)(t:TypeId)(ht:t≠9)(g:Nat)(b:Bool)(l:List Bs)(hl:([flagT b]++l).length≤1000000)(w:World)(h:Rq B t w g ([flagT b]++l)): Calls Tryz.prog 132 #[kpt g] w fun e w'=>e = .returned (.bool b)∧Rq B t w' g l∧Only [g] w w':=by
 have HT:=Lib.hid (rdtext_any B t ht g (flagT b) l hl (by cases b<;>decide) w h)
 have HE:Hid (((⟨(flagT b).toArray⟩:ByteArray) == ⟨#[49]⟩)=b):=Lib.hid (by cases b<;>decide)
 unfold kpt at HT ⊢
 clear h
 go_enter Tryz.func132,Tryz.ntmps132
 go_wp2_with fail
 refine HT.out.mono ?_
 rintro e w2 ⟨rfl,h3,h4⟩
 have H3:=Lib.hid h3
 have H4:=Lib.hid h4
 clear HT h3 h4
 go_wp2_with fail
 go_ret
 exact⟨by cases b<;>first | rfl | simp [flagT],H3.out,H4.out⟩
set_option maxHeartbeats 4000000 in
theorem rdlist_any (B:Nat)(t:TypeId)(ht:t≠9)(g:Nat)(x l:List Bs)(hl:(listedL x++l).length≤1000000)(w:World)(h:Rq B t w g (listedL x++l)): Calls Tryz.prog 131 #[kpt g] w fun e w'=>∃a c,e = .returned (.slice a x.length c)∧Tx w' (.slice a x.length c) x∧Rq B t w' g l∧Only [g] w w'∧(∀q,a.map (·.block)=some q→B≤q):=by
 have hll:(listedL x++l).length=x.length+1+l.length:=by simp [listedL];omega
 have HN:=Lib.hid (rdnum_any B t ht g (Lib.decDigits x.length) (x.length:Int) (Num.dec _ (by omega)) (x++l) (by simp;omega) w (by simpa [listedL] using h))
 have HT:=Lib.hid (take_any B t ht g x l (by rw [List.length_append];omega))
 unfold kpt at HN HT ⊢
 clear h
 go_enter Tryz.func131,Tryz.ntmps131
 go_wp2_with fail
 refine HN.out.mono ?_
 rintro e w2 ⟨rfl,h3,h4⟩
 have H4:=Lib.hid h4
 have HT2:=Lib.hid (HT.out w2 h3)
 clear HT HN h3 h4
 go_wp2_with fail
 refine HT2.out.mono ?_
 rintro e w3 ⟨a,c,rfl,h1,_,h2,h3,h5⟩
 have H5:=Lib.hid h5
 clear h5
 have H1:=Lib.hid h1
 have H2:=Lib.hid h2
 have H3:=Lib.hid h3
 clear HT2 h1 h2 h3
 go_wp2_with fail
 go_ret
 exact⟨a,c,rfl,H1.out,H2.out,H4.out.trans H3.out (fun x hx=> .inl hx),H5.out⟩
theorem owns_cap {B T z n m c:Nat}{a:Option Addr}{l:List Value}{w:World}(h:w.ownsRow B T z (.slice a m c) n l): m≤c:=by
 rcases h.2 with ⟨h,_⟩ | ⟨_,_,_,h,_,_,h2,_⟩
 ·cases h;exact Nat.le_refl _
 ·cases h;exact h2
set_option maxHeartbeats 4000000 in
theorem readerOf_any (k:Bs)(l:List Bs)(hf:(formL l).length≤1000000)(w:World)(hT:Tb w)(hM:Mx w): Calls Tryz.prog 89 #[.agg #[.string ⟨k.toArray⟩,.string ⟨(formL l).toArray⟩]] w fun e w'=>∃g,e = .returned (kpt g)∧Rq w.heap.size 29 w' g l∧w.heap.size≤g∧Below w.heap.size w w':=by
 have HT:=Lib.hid (fun o=>texts_any l hf (w.alloc o) (hT.below (by go_grown)) (hM.below (by go_grown)))
 clear hT hM
 go_enter Tryz.func89,Tryz.ntmps89
 go_wp2_with fail
 refine(HT.out _).mono ?_
 rintro e w2 ⟨v,rfl,h⟩
 have H:=Lib.hid h
 obtain⟨a,c,rfl⟩:=h.shape
 clear HT h
 go_wp2_with fail
 go_ret
 have hw:Below w.heap.size w (w2.alloc (.cells #[.slice a l.length c] 29)):=by
  have h1:Below w.heap.size w (w.alloc (.cells #[.string ⟨k.toArray⟩,.string ⟨(formL l).toArray⟩] 47)):=by go_grown
  have h2:=h1.trans (H.out.2.1.mono h1.size)
  have:=h2.size
  go_grown
 have hs:w.heap.size≤w2.heap.size:=by
  have:=H.out.2.1.size
  simp at this
  omega
 exact⟨w2.heap.size,rfl,⟨a,c,Bk.new rfl,(Lw.tx H.out).below (by go_grown),owns_cap H.out.1,fun q hq=>by
  have h1:=H.out.2.2 q (by cases a with | none=>cases hq | some p=>exact hq)
  simp at h1
  omega⟩,hs,hw⟩
theorem zeros_valF (l:Bs): ∀k,valF 0 (Lib.repeatL [48] k++l)=valF 0 l
 |0=>rfl
 |k+1=>by
  rw [Lib.repeatL,List.append_assoc]
  show valF (0*10+((48:UInt8).toNat - 48)) (Lib.repeatL [48] k++l)=_
  exact zeros_valF l k
theorem zeros_digit:∀k,∀b∈Lib.repeatL [48] k,digitB b=true
 |0,b,h=>by cases h
 |k+1,b,h=>by
  rcases List.mem_append.1 h with h | h
  ·rw [List.mem_singleton] at h;subst h;rfl
  ·exact zeros_digit k b h
def idT (id:Nat): Bs:=Lib.repeatL [48] (8 - (Lib.decDigits id).length)++Lib.decDigits id
theorem idT_num (id:Nat)(h:id≤99999999): Num (idT id) (id:Int):=by
 have hl:=dec_len 7 id (by omega)
 refine⟨?_,?_⟩
 ·unfold idT;rw [List.length_append,Lib.repeatL_length];simp;omega
 ·have hv:valD (idT id)=id:=(zeros_valF _ _).trans (dec_val id)
  have:=atoi_digits (idT id) (by
   intro h0
   have:=congrArg List.length h0
   unfold idT at this
   rw [List.length_append] at this
   cases hq:Lib.decDigits id with
   |nil=>exact dec_pos id hq
   |cons a b=>rw [hq] at this;simp at this) (fun b hb=>by
   rcases List.mem_append.1 hb with hb | hb
   ·exact zeros_digit _ b hb
   ·exact dec_digit id b hb) (by rw [hv];omega)
  rw [this,hv]
theorem key_trim (id:Nat): Lib.trimPrefix (keyP id) [110,111,100,101,47]=idT id:=by
 unfold keyP idT
 rw [List.append_assoc]
 rfl
theorem Num.itoa (x:Int)(h0:0≤x)(h:x<1000000000000000000): Num (Lib.itoa x) x:=by
 obtain⟨k,rfl⟩:=Int.eq_ofNat_of_zero_le h0
 have:=Num.dec k (by omega)
 rw [← Lib.itoa_nonneg] at this
 exact this
structure NumOk (n:Nd): Prop where
 kind:0≤n.kind∧n.kind<1000000000000000000
 par:(n.parent:Int)<1000000000000000000
 born:0≤n.born∧n.born<1000000000000000000
 exp:0≤n.exp∧n.exp<1000000000000000000
 level:0≤n.level∧n.level<1000000000000000000
theorem form_cnt:∀k:List Bs,k.length≤(formL k).length
 |[]=>Nat.le_refl _
 |s::k=>by
  have:=form_cnt k
  simp only [formL,List.length_append,one_len,List.length_cons]
  omega
theorem form_mem:∀(k:List Bs) (s:Bs),s∈k→s.length≤(formL k).length
 |a::k,s,h=>by
  simp only [formL,List.length_append,one_len]
  rcases List.mem_cons.1 h with rfl | h
  ·omega
  ·have:=form_mem k s h
   omega
theorem nodeT_eq (n:Nd): nodeT n=([Lib.itoa n.kind]++([Lib.itoa (n.parent:Int)]++([n.subject]++([n.client]++([n.audience]++(listedL n.scope++([Lib.itoa n.born]++([Lib.itoa n.exp]++([flagT n.dead]++([flagT n.spent]++(listedL n.actors++([Lib.itoa n.level]++([n.secret]++([n.data]++[])))))))))))))):=by
 unfold nodeT numsL
 simp
set_option maxHeartbeats 16000000 in
theorem nodeOf_any (n:Nd)(hid:n.id≤99999999)(hn:NumOk n)(hf:(formL (nodeT n)).length≤1000000)(w:World)(hT:Tb w)(hM:Mx w): Calls Tryz.prog 91 #[.agg #[.string ⟨(keyP n.id).toArray⟩,.string ⟨(formL (nodeT n)).toArray⟩]] w fun e w'=>∃sv av,e = .returned (.agg (inC n.id n.parent n sv av))∧Tx w' sv n.scope∧Tx w' av n.actors∧Below w.heap.size w w'∧(∀q,sv.ownBlock=some q→w.heap.size≤q)∧∀q,av.ownBlock=some q→w.heap.size≤q:=by
 have hL:(nodeT n).length≤1000000:=Nat.le_trans (form_cnt _) hf
 have hM2:∀s∈nodeT n,s.length≤1000000:=fun s hs=>Nat.le_trans (form_mem _ s hs) hf
 have HR:=Lib.hid (fun W (hb:Below w.heap.size w W)=>readerOf_any (keyP n.id) (nodeT n) hf W (hT.below hb) (hM.below hb))
 obtain⟨R14,r14⟩:∃x:List Bs,x=[]:=⟨_,rfl⟩
 obtain⟨R13,r13⟩:∃x:List Bs,x=[n.data]++R14:=⟨_,rfl⟩
 obtain⟨R12,r12⟩:∃x:List Bs,x=[n.secret]++R13:=⟨_,rfl⟩
 obtain⟨R11,r11⟩:∃x:List Bs,x=[Lib.itoa n.level]++R12:=⟨_,rfl⟩
 obtain⟨R10,r10⟩:∃x:List Bs,x=listedL n.actors++R11:=⟨_,rfl⟩
 obtain⟨R9,r9⟩:∃x:List Bs,x=[flagT n.spent]++R10:=⟨_,rfl⟩
 obtain⟨R8,r8⟩:∃x:List Bs,x=[flagT n.dead]++R9:=⟨_,rfl⟩
 obtain⟨R7,r7⟩:∃x:List Bs,x=[Lib.itoa n.exp]++R8:=⟨_,rfl⟩
 obtain⟨R6,r6⟩:∃x:List Bs,x=[Lib.itoa n.born]++R7:=⟨_,rfl⟩
 obtain⟨R5,r5⟩:∃x:List Bs,x=listedL n.scope++R6:=⟨_,rfl⟩
 obtain⟨R4,r4⟩:∃x:List Bs,x=[n.audience]++R5:=⟨_,rfl⟩
 obtain⟨R3,r3⟩:∃x:List Bs,x=[n.client]++R4:=⟨_,rfl⟩
 obtain⟨R2,r2⟩:∃x:List Bs,x=[n.subject]++R3:=⟨_,rfl⟩
 obtain⟨R1,r1⟩:∃x:List Bs,x=[Lib.itoa (n.parent:Int)]++R2:=⟨_,rfl⟩
 obtain⟨R0,r0⟩:∃x:List Bs,x=[Lib.itoa n.kind]++R1:=⟨_,rfl⟩
 have eR:nodeT n=R0:=by rw [nodeT_eq];simp only [r0,r1,r2,r3,r4,r5,r6,r7,r8,r9,r10,r11,r12,r13,r14]
 rw [eR] at hL hM2 HR hf ⊢
 clear eR
 have L0:R0.length≤1000000:=hL
 have L1:R1.length≤1000000:=by rw [r0,List.length_append] at L0;exact Nat.le_trans (Nat.le_add_left _ _) L0
 have m0:∀s,s∈R1→s∈R0:=fun s h=>by rw [r0];exact List.mem_append_right _ h
 have L2:R2.length≤1000000:=by rw [r1,List.length_append] at L1;exact Nat.le_trans (Nat.le_add_left _ _) L1
 have m1:∀s,s∈R2→s∈R1:=fun s h=>by rw [r1];exact List.mem_append_right _ h
 have L3:R3.length≤1000000:=by rw [r2,List.length_append] at L2;exact Nat.le_trans (Nat.le_add_left _ _) L2
 have m2:∀s,s∈R3→s∈R2:=fun s h=>by rw [r2];exact List.mem_append_right _ h
 have L4:R4.length≤1000000:=by rw [r3,List.length_append] at L3;exact Nat.le_trans (Nat.le_add_left _ _) L3
 have m3:∀s,s∈R4→s∈R3:=fun s h=>by rw [r3];exact List.mem_append_right _ h
 have L5:R5.length≤1000000:=by rw [r4,List.length_append] at L4;exact Nat.le_trans (Nat.le_add_left _ _) L4
 have m4:∀s,s∈R5→s∈R4:=fun s h=>by rw [r4];exact List.mem_append_right _ h
 have L6:R6.length≤1000000:=by rw [r5,List.length_append] at L5;exact Nat.le_trans (Nat.le_add_left _ _) L5
 have m5:∀s,s∈R6→s∈R5:=fun s h=>by rw [r5];exact List.mem_append_right _ h
 have L7:R7.length≤1000000:=by rw [r6,List.length_append] at L6;exact Nat.le_trans (Nat.le_add_left _ _) L6
 have m6:∀s,s∈R7→s∈R6:=fun s h=>by rw [r6];exact List.mem_append_right _ h
 have L8:R8.length≤1000000:=by rw [r7,List.length_append] at L7;exact Nat.le_trans (Nat.le_add_left _ _) L7
 have m7:∀s,s∈R8→s∈R7:=fun s h=>by rw [r7];exact List.mem_append_right _ h
 have L9:R9.length≤1000000:=by rw [r8,List.length_append] at L8;exact Nat.le_trans (Nat.le_add_left _ _) L8
 have m8:∀s,s∈R9→s∈R8:=fun s h=>by rw [r8];exact List.mem_append_right _ h
 have L10:R10.length≤1000000:=by rw [r9,List.length_append] at L9;exact Nat.le_trans (Nat.le_add_left _ _) L9
 have m9:∀s,s∈R10→s∈R9:=fun s h=>by rw [r9];exact List.mem_append_right _ h
 have L11:R11.length≤1000000:=by rw [r10,List.length_append] at L10;exact Nat.le_trans (Nat.le_add_left _ _) L10
 have m10:∀s,s∈R11→s∈R10:=fun s h=>by rw [r10];exact List.mem_append_right _ h
 have L12:R12.length≤1000000:=by rw [r11,List.length_append] at L11;exact Nat.le_trans (Nat.le_add_left _ _) L11
 have m11:∀s,s∈R12→s∈R11:=fun s h=>by rw [r11];exact List.mem_append_right _ h
 have L13:R13.length≤1000000:=by rw [r12,List.length_append] at L12;exact Nat.le_trans (Nat.le_add_left _ _) L12
 have m12:∀s,s∈R13→s∈R12:=fun s h=>by rw [r12];exact List.mem_append_right _ h
 have L14:R14.length≤1000000:=by rw [r13,List.length_append] at L13;exact Nat.le_trans (Nat.le_add_left _ _) L13
 have m13:∀s,s∈R14→s∈R13:=fun s h=>by rw [r13];exact List.mem_append_right _ h
 have H0:Hid (∀(B g:Nat) (W:World),Rq B 29 W g R0→Calls Tryz.prog 90 #[.pointer (some ⟨g,0,none⟩)] W fun e w'=>e = .returned (.int .i64 n.kind)∧Rq B 29 w' g R1∧Only [g] W w'):=Lib.hid (fun B g W h=>rdnum_any B 29 (by decide) g _ _ (Num.itoa _ hn.kind.1 hn.kind.2) R1 (r0▸L0)  W (r0▸h))
 have H1:Hid (∀(B g:Nat) (W:World),Rq B 29 W g R1→Calls Tryz.prog 90 #[.pointer (some ⟨g,0,none⟩)] W fun e w'=>e = .returned (.int .i64 (n.parent:Int))∧Rq B 29 w' g R2∧Only [g] W w'):=Lib.hid (fun B g W h=>rdnum_any B 29 (by decide) g _ _ (Num.itoa _ (Int.natCast_nonneg _) hn.par) R2 (r1▸L1)  W (r1▸h))
 have H2:Hid (∀(B g:Nat) (W:World),Rq B 29 W g R2→Calls Tryz.prog 129 #[.pointer (some ⟨g,0,none⟩)] W fun e w'=>e = .returned (.string ⟨n.subject.toArray⟩)∧Rq B 29 w' g R3∧Only [g] W w'):=Lib.hid (fun B g W h=>rdtext_any B 29 (by decide) g n.subject R3 (r2▸L2) (hM2 _ ((m0 _ (m1 _ (by rw [r2];exact List.mem_append_left _ (List.mem_singleton.2 rfl)))))) W (r2▸h))
 have H3:Hid (∀(B g:Nat) (W:World),Rq B 29 W g R3→Calls Tryz.prog 129 #[.pointer (some ⟨g,0,none⟩)] W fun e w'=>e = .returned (.string ⟨n.client.toArray⟩)∧Rq B 29 w' g R4∧Only [g] W w'):=Lib.hid (fun B g W h=>rdtext_any B 29 (by decide) g n.client R4 (r3▸L3) (hM2 _ ((m0 _ (m1 _ (m2 _ (by rw [r3];exact List.mem_append_left _ (List.mem_singleton.2 rfl))))))) W (r3▸h))
 have H4:Hid (∀(B g:Nat) (W:World),Rq B 29 W g R4→Calls Tryz.prog 129 #[.pointer (some ⟨g,0,none⟩)] W fun e w'=>e = .returned (.string ⟨n.audience.toArray⟩)∧Rq B 29 w' g R5∧Only [g] W w'):=Lib.hid (fun B g W h=>rdtext_any B 29 (by decide) g n.audience R5 (r4▸L4) (hM2 _ ((m0 _ (m1 _ (m2 _ (m3 _ (by rw [r4];exact List.mem_append_left _ (List.mem_singleton.2 rfl)))))))) W (r4▸h))
 have H5:Hid (∀(B g:Nat) (W:World),Rq B 29 W g R5→Calls Tryz.prog 131 #[.pointer (some ⟨g,0,none⟩)] W fun e w'=>∃a c,e = .returned (.slice a n.scope.length c)∧Tx w' (.slice a n.scope.length c) n.scope∧Rq B 29 w' g R6∧Only [g] W w'∧(∀q,a.map (·.block)=some q→B≤q)):=Lib.hid (fun B g W h=>rdlist_any B 29 (by decide) g n.scope R6 (r5▸L5) W (r5▸h))
 have H6:Hid (∀(B g:Nat) (W:World),Rq B 29 W g R6→Calls Tryz.prog 90 #[.pointer (some ⟨g,0,none⟩)] W fun e w'=>e = .returned (.int .i64 n.born)∧Rq B 29 w' g R7∧Only [g] W w'):=Lib.hid (fun B g W h=>rdnum_any B 29 (by decide) g _ _ (Num.itoa _ hn.born.1 hn.born.2) R7 (r6▸L6)  W (r6▸h))
 have H7:Hid (∀(B g:Nat) (W:World),Rq B 29 W g R7→Calls Tryz.prog 90 #[.pointer (some ⟨g,0,none⟩)] W fun e w'=>e = .returned (.int .i64 n.exp)∧Rq B 29 w' g R8∧Only [g] W w'):=Lib.hid (fun B g W h=>rdnum_any B 29 (by decide) g _ _ (Num.itoa _ hn.exp.1 hn.exp.2) R8 (r7▸L7)  W (r7▸h))
 have H8:Hid (∀(B g:Nat) (W:World),Rq B 29 W g R8→Calls Tryz.prog 132 #[.pointer (some ⟨g,0,none⟩)] W fun e w'=>e = .returned (.bool n.dead)∧Rq B 29 w' g R9∧Only [g] W w'):=Lib.hid (fun B g W h=>rdflag_any B 29 (by decide) g n.dead R9 (r8▸L8)  W (r8▸h))
 have H9:Hid (∀(B g:Nat) (W:World),Rq B 29 W g R9→Calls Tryz.prog 132 #[.pointer (some ⟨g,0,none⟩)] W fun e w'=>e = .returned (.bool n.spent)∧Rq B 29 w' g R10∧Only [g] W w'):=Lib.hid (fun B g W h=>rdflag_any B 29 (by decide) g n.spent R10 (r9▸L9)  W (r9▸h))
 have H10:Hid (∀(B g:Nat) (W:World),Rq B 29 W g R10→Calls Tryz.prog 131 #[.pointer (some ⟨g,0,none⟩)] W fun e w'=>∃a c,e = .returned (.slice a n.actors.length c)∧Tx w' (.slice a n.actors.length c) n.actors∧Rq B 29 w' g R11∧Only [g] W w'∧(∀q,a.map (·.block)=some q→B≤q)):=Lib.hid (fun B g W h=>rdlist_any B 29 (by decide) g n.actors R11 (r10▸L10) W (r10▸h))
 have H11:Hid (∀(B g:Nat) (W:World),Rq B 29 W g R11→Calls Tryz.prog 90 #[.pointer (some ⟨g,0,none⟩)] W fun e w'=>e = .returned (.int .i64 n.level)∧Rq B 29 w' g R12∧Only [g] W w'):=Lib.hid (fun B g W h=>rdnum_any B 29 (by decide) g _ _ (Num.itoa _ hn.level.1 hn.level.2) R12 (r11▸L11)  W (r11▸h))
 have H12:Hid (∀(B g:Nat) (W:World),Rq B 29 W g R12→Calls Tryz.prog 129 #[.pointer (some ⟨g,0,none⟩)] W fun e w'=>e = .returned (.string ⟨n.secret.toArray⟩)∧Rq B 29 w' g R13∧Only [g] W w'):=Lib.hid (fun B g W h=>rdtext_any B 29 (by decide) g n.secret R13 (r12▸L12) (hM2 _ ((m0 _ (m1 _ (m2 _ (m3 _ (m4 _ (m5 _ (m6 _ (m7 _ (m8 _ (m9 _ (m10 _ (m11 _ (by rw [r12];exact List.mem_append_left _ (List.mem_singleton.2 rfl)))))))))))))))) W (r12▸h))
 have H13:Hid (∀(B g:Nat) (W:World),Rq B 29 W g R13→Calls Tryz.prog 129 #[.pointer (some ⟨g,0,none⟩)] W fun e w'=>e = .returned (.string ⟨n.data.toArray⟩)∧Rq B 29 w' g R14∧Only [g] W w'):=Lib.hid (fun B g W h=>rdtext_any B 29 (by decide) g n.data R14 (r13▸L13) (hM2 _ ((m0 _ (m1 _ (m2 _ (m3 _ (m4 _ (m5 _ (m6 _ (m7 _ (m8 _ (m9 _ (m10 _ (m11 _ (m12 _ (by rw [r13];exact List.mem_append_left _ (List.mem_singleton.2 rfl))))))))))))))))) W (r13▸h))
 have HI:=Lib.hid (fun g=>rdnum_any w.heap.size 155 (by decide) g (idT n.id) (n.id:Int) (idT_num n.id hid) [] (by simp))
 have HTP:=Lib.hid (fun W=>Tryz.strings_TrimPrefix ⟨(keyP n.id).toArray⟩ ⟨#[110,111,100,101,47]⟩ W)
 have e1:Lib.trimPrefix (⟨(keyP n.id).toArray⟩:ByteArray).data.toList (⟨#[110,111,100,101,47]⟩:ByteArray).data.toList=idT n.id:=key_trim n.id
 rw [e1] at HTP
 obtain⟨F,hF⟩:∃F,F=formL R0:=⟨_,rfl⟩
 obtain⟨K,hK⟩:∃K,K=keyP n.id:=⟨_,rfl⟩
 obtain⟨I,hI⟩:∃I,I=idT n.id:=⟨_,rfl⟩
 rw [← hK] at HTP HR ⊢
 rw [← hI] at HTP HI
 rw [← hF] at HR ⊢
 clear hT hM hf hL hM2 hn e1 hF hK hI hid r0 L0 r1 L1 r2 L2 r3 L3 r4 L4 r5 L5 r6 L6 r7 L7 r8 L8 r9 L9 r10 L10 r11 L11 r12 L12 r13 L13 r14 L14 m0 m1 m2 m3 m4 m5 m6 m7 m8 m9 m10 m11 m12 m13
 unfold kpt at HI HR
 obtain⟨W2,hW2⟩:∃W2,W2=((((w.alloc (.cells #[.string ⟨K.toArray⟩,.string ⟨F.toArray⟩] 47)).alloc (.cells zeroN 31)).alloc (.cells #[.string ⟨I.toArray⟩] 9)).alloc (.cells #[.slice (some ⟨w.heap.size+1+1,0,none⟩) 1 1] 155)):=⟨_,rfl⟩
 have B2:Hid (Below w.heap.size w W2):=Lib.hid (by rw [hW2];go_grown)
 have Z2:Hid (Bk 31 W2 (w.heap.size+1) zeroN):=Lib.hid (by rw [hW2];exact((Bk.new (by simp)).alloc).alloc)
 have Q2:Hid (Rq w.heap.size 155 W2 (w.heap.size+1+1+1) ([I]++[])):=Lib.hid (by
  rw [hW2]
  have hk:Bk 9 (((w.alloc (.cells #[.string ⟨K.toArray⟩,.string ⟨F.toArray⟩] 47)).alloc (.cells zeroN 31)).alloc (.cells #[.string ⟨I.toArray⟩] 9)) (w.heap.size+1+1) #[.string ⟨I.toArray⟩]:=Bk.new (by simp)
  have hk2:=hk.alloc (o:= .cells #[.slice (some ⟨w.heap.size+1+1,0,none⟩) 1 1] 155)
  refine⟨_,1,Bk.new (by simp),⟨_,1,rfl,fun i hi=>⟨_,_,rfl,?_⟩,fun q hq=>?_⟩,Nat.le_refl _,fun q hq=>?_⟩
  ·have:i=0:=by simpa using hi
   subst this
   exact hk2.cell 0
  ·cases hq;exact⟨_,hk2⟩
  ·cases hq;simp;omega)
 have S2:Hid (W2.heap.size=w.heap.size+1+1+1+1):=Lib.hid (by rw [hW2];simp)
 have K2:Hid (Bk 47 (((w.alloc (.cells #[.string ⟨K.toArray⟩,.string ⟨F.toArray⟩] 47)).alloc (.cells zeroN 31))) w.heap.size #[.string ⟨K.toArray⟩,.string ⟨F.toArray⟩]):=Lib.hid (Bk.new rfl).alloc
 have KW:Hid (Bk 47 W2 w.heap.size #[.string ⟨K.toArray⟩,.string ⟨F.toArray⟩]):=Lib.hid (by rw [hW2];exact(K2.out.alloc).alloc)
 have HW2:=Lib.hid hW2
 clear hW2
 go_enter Tryz.func91,Tryz.ntmps91
 go_wp2_with fail
 refine(HTP.out _).mono ?_
 rintro e w1 ⟨rfl,rfl⟩
 clear HTP
 go_wp2_with (have hw2:=HW2.out;unfold zeroN at hw2;rw [← hw2];clear hw2;refine wpList_load_row rfl 47 _ rfl w.heap.size rfl 47 _ (0,0) _ KW.out Tryz.underlying47 rfl i47 ?_)
 refine(HR.out _ B2.out).mono ?_
 rintro e w3 ⟨g,rfl,h1,h2,h3⟩
 obtain⟨g1,hg1⟩:∃g1,g1=w.heap.size+1+1+1:=⟨_,rfl⟩
 obtain⟨gr,hgr⟩:∃gr,gr=w.heap.size+1:=⟨_,rfl⟩
 have hs:=S2.out
 have G1:Hid (g≠g1):=Lib.hid (by omega)
 have G2:Hid (gr≠g∧gr≠g1):=Lib.hid (by omega)
 have G3:Hid (w.heap.size≤gr∧w.heap.size≤g1∧w.heap.size≤g):=Lib.hid (by omega)
 have Q3:Hid (Rq w.heap.size 155 w3 g1 ([I]++[])):=Lib.hid (by rw [hg1];exact Q2.out.below h3)
 have P3:Hid (Rq W2.heap.size 29 w3 g R0):=Lib.hid h1
 have Z3:Hid (Bk 31 w3 gr zeroN):=Lib.hid (by rw [hgr];exact Z2.out.below h3)
 have B3:Hid (Below w.heap.size w w3):=Lib.hid (B2.out.trans (h3.mono B2.out.size))
 have SB:Hid (w.heap.size≤W2.heap.size):=Lib.hid B2.out.size
 obtain⟨B,hB⟩:∃B,B=W2.heap.size:=⟨_,rfl⟩
 rw [← hB] at P3 SB
 rw [← hg1,← hgr]
 clear h1 h2 h3 hs hg1 hgr hB Q2 Z2 B2 S2 K2 KW HW2 HR
 go_wp2_with fail
 refine(HI.out g1 w3 Q3.out).mono ?_
 rintro e w4 ⟨rfl,_,h4⟩
 have P4:Hid (Rq B 29 w4 g R0):=Lib.hid (by
  obtain⟨_,_,hk,_⟩:=Q3.out
  exact P3.out.only h4 hk (by decide) G1.out)
 have O4:Hid (Only [g,g1] w3 w4):=Lib.hid (h4.mono (fun x hx=> .inl (by simp at hx;simp [hx])))
 clear h4 Q3 P3 HI
 go_wp2_with fail
 refine(H0.out B g w4 P4.out).mono ?_
 rintro e w5 ⟨rfl,h2,h3⟩
 have P5:=Lib.hid h2
 have O5:Hid (Only [g,g1] w3 w5):=Lib.hid (O4.out.trans h3 (fun x hx=> .inl (by simp at hx;simp [hx])))
 have q0:Hid (Only [g] w4 w5):=Lib.hid h3
 obtain⟨_,_,k0,_⟩:=P4.out
 have k0:=Lib.hid k0
 clear h2 h3 H0 P4 O4 q0 k0
 go_wp2_with fail
 refine(H1.out B g w5 P5.out).mono ?_
 rintro e w6 ⟨rfl,h2,h3⟩
 have P6:=Lib.hid h2
 have O6:Hid (Only [g,g1] w3 w6):=Lib.hid (O5.out.trans h3 (fun x hx=> .inl (by simp at hx;simp [hx])))
 have q1:Hid (Only [g] w5 w6):=Lib.hid h3
 obtain⟨_,_,k1,_⟩:=P5.out
 have k1:=Lib.hid k1
 clear h2 h3 H1 P5 O5 q1 k1
 go_wp2_with fail
 refine(H2.out B g w6 P6.out).mono ?_
 rintro e w7 ⟨rfl,h2,h3⟩
 have P7:=Lib.hid h2
 have O7:Hid (Only [g,g1] w3 w7):=Lib.hid (O6.out.trans h3 (fun x hx=> .inl (by simp at hx;simp [hx])))
 have q2:Hid (Only [g] w6 w7):=Lib.hid h3
 obtain⟨_,_,k2,_⟩:=P6.out
 have k2:=Lib.hid k2
 clear h2 h3 H2 P6 O6 q2 k2
 go_wp2_with fail
 refine(H3.out B g w7 P7.out).mono ?_
 rintro e w8 ⟨rfl,h2,h3⟩
 have P8:=Lib.hid h2
 have O8:Hid (Only [g,g1] w3 w8):=Lib.hid (O7.out.trans h3 (fun x hx=> .inl (by simp at hx;simp [hx])))
 have q3:Hid (Only [g] w7 w8):=Lib.hid h3
 obtain⟨_,_,k3,_⟩:=P7.out
 have k3:=Lib.hid k3
 clear h2 h3 H3 P7 O7 q3 k3
 go_wp2_with fail
 refine(H4.out B g w8 P8.out).mono ?_
 rintro e w9 ⟨rfl,h2,h3⟩
 have P9:=Lib.hid h2
 have O9:Hid (Only [g,g1] w3 w9):=Lib.hid (O8.out.trans h3 (fun x hx=> .inl (by simp at hx;simp [hx])))
 have q4:Hid (Only [g] w8 w9):=Lib.hid h3
 obtain⟨_,_,k4,_⟩:=P8.out
 have k4:=Lib.hid k4
 clear h2 h3 H4 P8 O8 q4 k4
 go_wp2_with fail
 refine(H5.out B g w9 P9.out).mono ?_
 rintro e w10 ⟨sa,sc,rfl,h1,h2,h3,h4⟩
 have Ts:=Lib.hid h1
 have Ns:=Lib.hid h4
 have P10:=Lib.hid h2
 have O10:Hid (Only [g,g1] w3 w10):=Lib.hid (O9.out.trans h3 (fun x hx=> .inl (by simp at hx;simp [hx])))
 have q5:Hid (Only [g] w9 w10):=Lib.hid h3
 obtain⟨_,_,k5,_⟩:=P9.out
 have k5:=Lib.hid k5
 clear h2 h3 H5 P9 O9 q5 k5 h1 h4
 go_wp2_with fail
 refine(H6.out B g w10 P10.out).mono ?_
 rintro e w11 ⟨rfl,h2,h3⟩
 have P11:=Lib.hid h2
 have O11:Hid (Only [g,g1] w3 w11):=Lib.hid (O10.out.trans h3 (fun x hx=> .inl (by simp at hx;simp [hx])))
 have q6:Hid (Only [g] w10 w11):=Lib.hid h3
 obtain⟨_,_,k6,_⟩:=P10.out
 have k6:=Lib.hid k6
 replace Ts:=Lib.hid (Ts.out.only q6.out (fun x hx hm=>by rw [List.mem_singleton] at hm;subst hm;exact owns_ne Ts.out k6.out (by decide) hx))
 clear h2 h3 H6 P10 O10 q6 k6
 go_wp2_with fail
 refine(H7.out B g w11 P11.out).mono ?_
 rintro e w12 ⟨rfl,h2,h3⟩
 have P12:=Lib.hid h2
 have O12:Hid (Only [g,g1] w3 w12):=Lib.hid (O11.out.trans h3 (fun x hx=> .inl (by simp at hx;simp [hx])))
 have q7:Hid (Only [g] w11 w12):=Lib.hid h3
 obtain⟨_,_,k7,_⟩:=P11.out
 have k7:=Lib.hid k7
 replace Ts:=Lib.hid (Ts.out.only q7.out (fun x hx hm=>by rw [List.mem_singleton] at hm;subst hm;exact owns_ne Ts.out k7.out (by decide) hx))
 clear h2 h3 H7 P11 O11 q7 k7
 go_wp2_with fail
 refine(H8.out B g w12 P12.out).mono ?_
 rintro e w13 ⟨rfl,h2,h3⟩
 have P13:=Lib.hid h2
 have O13:Hid (Only [g,g1] w3 w13):=Lib.hid (O12.out.trans h3 (fun x hx=> .inl (by simp at hx;simp [hx])))
 have q8:Hid (Only [g] w12 w13):=Lib.hid h3
 obtain⟨_,_,k8,_⟩:=P12.out
 have k8:=Lib.hid k8
 replace Ts:=Lib.hid (Ts.out.only q8.out (fun x hx hm=>by rw [List.mem_singleton] at hm;subst hm;exact owns_ne Ts.out k8.out (by decide) hx))
 clear h2 h3 H8 P12 O12 q8 k8
 go_wp2_with fail
 refine(H9.out B g w13 P13.out).mono ?_
 rintro e w14 ⟨rfl,h2,h3⟩
 have P14:=Lib.hid h2
 have O14:Hid (Only [g,g1] w3 w14):=Lib.hid (O13.out.trans h3 (fun x hx=> .inl (by simp at hx;simp [hx])))
 have q9:Hid (Only [g] w13 w14):=Lib.hid h3
 obtain⟨_,_,k9,_⟩:=P13.out
 have k9:=Lib.hid k9
 replace Ts:=Lib.hid (Ts.out.only q9.out (fun x hx hm=>by rw [List.mem_singleton] at hm;subst hm;exact owns_ne Ts.out k9.out (by decide) hx))
 clear h2 h3 H9 P13 O13 q9 k9
 go_wp2_with fail
 refine(H10.out B g w14 P14.out).mono ?_
 rintro e w15 ⟨aa,ac,rfl,h1,h2,h3,h4⟩
 have Ta:=Lib.hid h1
 have Na:=Lib.hid h4
 have P15:=Lib.hid h2
 have O15:Hid (Only [g,g1] w3 w15):=Lib.hid (O14.out.trans h3 (fun x hx=> .inl (by simp at hx;simp [hx])))
 have q10:Hid (Only [g] w14 w15):=Lib.hid h3
 obtain⟨_,_,k10,_⟩:=P14.out
 have k10:=Lib.hid k10
 replace Ts:=Lib.hid (Ts.out.only q10.out (fun x hx hm=>by rw [List.mem_singleton] at hm;subst hm;exact owns_ne Ts.out k10.out (by decide) hx))
 clear h2 h3 H10 P14 O14 q10 k10 h1 h4
 go_wp2_with fail
 refine(H11.out B g w15 P15.out).mono ?_
 rintro e w16 ⟨rfl,h2,h3⟩
 have P16:=Lib.hid h2
 have O16:Hid (Only [g,g1] w3 w16):=Lib.hid (O15.out.trans h3 (fun x hx=> .inl (by simp at hx;simp [hx])))
 have q11:Hid (Only [g] w15 w16):=Lib.hid h3
 obtain⟨_,_,k11,_⟩:=P15.out
 have k11:=Lib.hid k11
 replace Ts:=Lib.hid (Ts.out.only q11.out (fun x hx hm=>by rw [List.mem_singleton] at hm;subst hm;exact owns_ne Ts.out k11.out (by decide) hx))
 replace Ta:=Lib.hid (Ta.out.only q11.out (fun x hx hm=>by rw [List.mem_singleton] at hm;subst hm;exact owns_ne Ta.out k11.out (by decide) hx))
 clear h2 h3 H11 P15 O15 q11 k11
 go_wp2_with fail
 refine(H12.out B g w16 P16.out).mono ?_
 rintro e w17 ⟨rfl,h2,h3⟩
 have P17:=Lib.hid h2
 have O17:Hid (Only [g,g1] w3 w17):=Lib.hid (O16.out.trans h3 (fun x hx=> .inl (by simp at hx;simp [hx])))
 have q12:Hid (Only [g] w16 w17):=Lib.hid h3
 obtain⟨_,_,k12,_⟩:=P16.out
 have k12:=Lib.hid k12
 replace Ts:=Lib.hid (Ts.out.only q12.out (fun x hx hm=>by rw [List.mem_singleton] at hm;subst hm;exact owns_ne Ts.out k12.out (by decide) hx))
 replace Ta:=Lib.hid (Ta.out.only q12.out (fun x hx hm=>by rw [List.mem_singleton] at hm;subst hm;exact owns_ne Ta.out k12.out (by decide) hx))
 clear h2 h3 H12 P16 O16 q12 k12
 go_wp2_with fail
 refine(H13.out B g w17 P17.out).mono ?_
 rintro e w18 ⟨rfl,h2,h3⟩
 have P18:=Lib.hid h2
 have O18:Hid (Only [g,g1] w3 w18):=Lib.hid (O17.out.trans h3 (fun x hx=> .inl (by simp at hx;simp [hx])))
 have q13:Hid (Only [g] w17 w18):=Lib.hid h3
 obtain⟨_,_,k13,_⟩:=P17.out
 have k13:=Lib.hid k13
 replace Ts:=Lib.hid (Ts.out.only q13.out (fun x hx hm=>by rw [List.mem_singleton] at hm;subst hm;exact owns_ne Ts.out k13.out (by decide) hx))
 replace Ta:=Lib.hid (Ta.out.only q13.out (fun x hx hm=>by rw [List.mem_singleton] at hm;subst hm;exact owns_ne Ta.out k13.out (by decide) hx))
 clear h2 h3 H13 P17 O17 q13 k13
 have ZE:Hid (Bk 31 w18 gr zeroN):=Lib.hid (Z3.out.only O18.out (by have:=G2.out;simp;omega))
 go_wp2_with (refine wpList_put rfl 31 _ _ rfl gr zeroN _ rfl rfl ZE.out i31 rfl (one15 (n.id:Int) (n.parent:Int) n sa aa n.scope.length sc n.actors.length ac) ?_)
 refine bodyPost_ret (v:= .agg (inC n.id n.parent n (.slice sa n.scope.length sc) (.slice aa n.actors.length ac))) (results_cell_row rfl _ _ gr 31 _ (0,0) _ rfl (Bk.row ZE.out) Tryz.underlying31 rfl i31) rfl ?_
 have hO:Below w.heap.size w w18:=B3.out.trans (O18.out.below B3.out.size (fun x hx=>by have:=G3.out;simp at hx;rcases hx with rfl | rfl<;>omega))
 refine⟨_,_,rfl,Ts.out.setRow ZE.out (by decide),Ta.out.setRow ZE.out (by decide),below_row hO G3.out.1,fun q hq=>?_,fun q hq=>?_⟩
 ·exact Nat.le_trans SB.out (Ns.out q (by cases sa with | none=>cases hq | some p=>exact hq))
 ·exact Nat.le_trans SB.out (Na.out q (by cases aa with | none=>cases hq | some p=>exact hq))
end Go.Proofs.YthogppennalobaaGreatDoor
namespace Go.Proofs.YthogppennalobaaGreatDoor
open Go.RowKit Go.Sort Forest
set_option maxHeartbeats 1000000 in
theorem all104 (l:List Bs)(hs:∀s∈l,s.length≤140737488355328)(hL:l.length≤1000000)(w:World)(v:Value)(hc:Rd w v l): Calls Tryz.prog 103 #[v,.func (.func 104) #[] #[]] w fun e w'=>e = .returned (.bool (l.all scopeP))∧w'=w:=by
 have HS:=Lib.hid hs
 obtain⟨a,c,rfl,hc⟩:=hc
 have HC:=Lib.hid hc
 clear hc hs
 obtain⟨R,hR⟩:∃R,R=l.all scopeP:=⟨_,rfl⟩
 rw [← hR]
 have HR:=Lib.hid hR
 clear hR
 go_enter Tryz.func103,Tryz.ntmps103
 go_wp2_with fail
 go_loopw [9] (fun iv wr=>∃i:Nat,i≤l.length∧iv = .int .i64 (i:Int)∧wr=w∧Hid ((l.take i).all scopeP=true)) (fun iv _=>l.length - (intOf iv).toNat)
 case atStart=>exact⟨0,Nat.zero_le _,rfl,rfl,Lib.hid rfl⟩
 case round=>
  obtain⟨i,hi,rfl,rfl,HI⟩:=hrel
  by_cases hlt:i<l.length
  ·obtain⟨s,hse⟩:∃s,l[i]'hlt=s:=⟨_,rfl⟩
   obtain⟨b,o,rfl,c0⟩:=HC.out i hlt
   have c1:wr.cell? ⟨b,o+i,none⟩=some (.string ⟨s.toArray⟩):=by rw [c0,hse];rfl
   have HK:=Lib.hid (scope_any s (HS.out s (hse▸List.getElem_mem hlt)) wr)
   have hltI:(i:Int)<(l.length:Int):=by omega
   have HT:Hid ((l.take (i+1)).all scopeP=((l.take i).all scopeP&&scopeP s)):=Lib.hid (by rw [List.take_add_one,List.getElem?_eq_getElem hlt,hse,List.all_append];simp)
   have HW:Hid (scopeP s=false→l.all scopeP=false):=Lib.hid (fun h=>by
    rw [← Bool.not_eq_true,List.all_eq_true]
    intro ha
    have:=ha s (hse▸List.getElem_mem hlt)
    rw [h] at this
    cases this)
   clear c0 hse
   cases hp:scopeP s with
   |true=>
    rw [hp] at HK HT
    clear hp HW
    go_wp2_with fail
    refine HK.out.mono ?_
    rintro e w2 ⟨rfl,rfl⟩
    go_wp2_with fail
    go_roundw
    case rel=>exact⟨i+1,by omega,by go_num,trivial,Lib.hid (by rw [HT.out,HI.out];rfl)⟩
    case measure=>simp [intOf];omega
   |false=>
    rw [hp] at HK
    have HW2:=Lib.hid (HW.out hp)
    clear hp HW HT
    go_wp2_with fail
    refine HK.out.mono ?_
    rintro e w2 ⟨rfl,rfl⟩
    go_wp2_with fail
    go_ret
    exact⟨by rw [HR.out,HW2.out];rfl,rfl⟩
  ·have hie:i=l.length:=by omega
   have hltI:¬(i:Int)<(l.length:Int):=by omega
   have HA:Hid (l.all scopeP=true):=Lib.hid (by have:=HI.out;rwa [hie,List.take_length] at this)
   go_wp2_with fail
   go_ret
   exact⟨by rw [HR.out,HA.out];rfl,rfl⟩
set_option maxHeartbeats 1000000 in
theorem all100 (l:List Bs)(hs:∀s∈l,s.length≤140737488355328)(hL:l.length≤1000000)(w:World)(v:Value)(hc:Rd w v l): Calls Tryz.prog 103 #[v,.func (.func 100) #[] #[]] w fun e w'=>e = .returned (.bool (l.all prinP))∧w'=w:=by
 have HS:=Lib.hid hs
 obtain⟨a,c,rfl,hc⟩:=hc
 have HC:=Lib.hid hc
 clear hc hs
 obtain⟨R,hR⟩:∃R,R=l.all prinP:=⟨_,rfl⟩
 rw [← hR]
 have HR:=Lib.hid hR
 clear hR
 go_enter Tryz.func103,Tryz.ntmps103
 go_wp2_with fail
 go_loopw [9] (fun iv wr=>∃i:Nat,i≤l.length∧iv = .int .i64 (i:Int)∧wr=w∧Hid ((l.take i).all prinP=true)) (fun iv _=>l.length - (intOf iv).toNat)
 case atStart=>exact⟨0,Nat.zero_le _,rfl,rfl,Lib.hid rfl⟩
 case round=>
  obtain⟨i,hi,rfl,rfl,HI⟩:=hrel
  by_cases hlt:i<l.length
  ·obtain⟨s,hse⟩:∃s,l[i]'hlt=s:=⟨_,rfl⟩
   obtain⟨b,o,rfl,c0⟩:=HC.out i hlt
   have c1:wr.cell? ⟨b,o+i,none⟩=some (.string ⟨s.toArray⟩):=by rw [c0,hse];rfl
   have HK:=Lib.hid (prin_any s (HS.out s (hse▸List.getElem_mem hlt)) wr)
   have hltI:(i:Int)<(l.length:Int):=by omega
   have HT:Hid ((l.take (i+1)).all prinP=((l.take i).all prinP&&prinP s)):=Lib.hid (by rw [List.take_add_one,List.getElem?_eq_getElem hlt,hse,List.all_append];simp)
   have HW:Hid (prinP s=false→l.all prinP=false):=Lib.hid (fun h=>by
    rw [← Bool.not_eq_true,List.all_eq_true]
    intro ha
    have:=ha s (hse▸List.getElem_mem hlt)
    rw [h] at this
    cases this)
   clear c0 hse
   cases hp:prinP s with
   |true=>
    rw [hp] at HK HT
    clear hp HW
    go_wp2_with fail
    refine HK.out.mono ?_
    rintro e w2 ⟨rfl,rfl⟩
    go_wp2_with fail
    go_roundw
    case rel=>exact⟨i+1,by omega,by go_num,trivial,Lib.hid (by rw [HT.out,HI.out];rfl)⟩
    case measure=>simp [intOf];omega
   |false=>
    rw [hp] at HK
    have HW2:=Lib.hid (HW.out hp)
    clear hp HW HT
    go_wp2_with fail
    refine HK.out.mono ?_
    rintro e w2 ⟨rfl,rfl⟩
    go_wp2_with fail
    go_ret
    exact⟨by rw [HR.out,HW2.out];rfl,rfl⟩
  ·have hie:i=l.length:=by omega
   have hltI:¬(i:Int)<(l.length:Int):=by omega
   have HA:Hid (l.all prinP=true):=Lib.hid (by have:=HI.out;rwa [hie,List.take_length] at this)
   go_wp2_with fail
   go_ret
   exact⟨by rw [HR.out,HA.out];rfl,rfl⟩
def leB (a b:Bs): Bool:=Op.bytesLess a b||a == b
def upAt (l:List Bs)(i:Nat): Bool:=i == 0||!leB (l.getD i []) (l.getD (i - 1) [])
def riseP (l:List Bs): Bool:=(List.range l.length).all (upAt l)
theorem riseP_no {l:List Bs}{i:Nat}(hi:i<l.length)(h:upAt l i=false): riseP l=false:=by
 rw [← Bool.not_eq_true]
 unfold riseP
 rw [List.all_eq_true]
 intro ha
 have:=ha i (List.mem_range.2 hi)
 rw [h] at this
 cases this
theorem range_all (p:Nat→Bool)(i:Nat): (List.range (i+1)).all p=((List.range i).all p&&p i):=by
 rw [List.range_succ,List.all_append]
 simp
set_option maxHeartbeats 1000000 in
theorem rise_any (l:List Bs)(hL:l.length≤1000000)(w:World)(v:Value)(hc:Rd w v l): Calls Tryz.prog 105 #[v] w fun e w'=>e = .returned (.bool (riseP l))∧∃q,w'=w.drewN q:=by
 obtain⟨a,c,rfl,hc⟩:=hc
 have HC:=Lib.hid hc
 clear hc
 obtain⟨R,hR⟩:∃R,R=riseP l:=⟨_,rfl⟩
 rw [← hR]
 have HR:=Lib.hid hR
 clear hR
 go_enter Tryz.func105,Tryz.ntmps105
 go_wp2_with fail
 go_loopw [6] (fun iv wr=>∃i:Nat,i≤l.length∧iv = .int .i64 (i:Int)∧Hid (∃q,wr=w.drewN q)∧Hid ((List.range i).all (upAt l)=true)) (fun iv _=>l.length - (intOf iv).toNat)
 case atStart=>exact⟨0,Nat.zero_le _,rfl,Lib.hid ⟨0,rfl⟩,Lib.hid rfl⟩
 case round=>
  obtain⟨i,hi,rfl,HQ,HI⟩:=hrel
  by_cases hlt:i<l.length
  ·obtain⟨s,hse⟩:∃s,l[i]'hlt=s:=⟨_,rfl⟩
   obtain⟨b,o,rfl,c0⟩:=HC.out i hlt
   have hltI:(i:Int)<(l.length:Int):=by omega
   have HT:=Lib.hid (range_all (upAt l) i)
   have HNo:=Lib.hid (riseP_no (l:=l) hlt)
   by_cases h0:(0:Int)<(i:Int)
   ·obtain⟨r,hre⟩:∃r,l[i - 1]'(by omega)=r:=⟨_,rfl⟩
    have HU:Hid (upAt l i = !leB s r):=Lib.hid (by
     unfold upAt
     rw [show(i == 0)=false by simp;omega,List.getD_eq_getElem?_getD,List.getD_eq_getElem?_getD,List.getElem?_eq_getElem hlt,List.getElem?_eq_getElem (show i - 1<l.length by omega),hse,hre]
     rfl)
    have c1:wr.cell? ⟨b,o+i,none⟩=some (.string ⟨s.toArray⟩):=by
     obtain⟨q,rfl⟩:=HQ.out
     show w.cell? _=_
     rw [c0,hse];rfl
    have c2:wr.cell? ⟨b,o+(i - 1),none⟩=some (.string ⟨r.toArray⟩):=by
     obtain⟨b',o',h1,h2⟩:=HC.out (i - 1) (by omega)
     cases h1
     obtain⟨q,rfl⟩:=HQ.out
     show w.cell? _=_
     rw [h2,hre];rfl
    obtain⟨d,hd⟩:∃d,leB s r=d:=⟨_,rfl⟩
    have hd2:(Op.bytesLess s r||s == r)=d:=hd
    rw [hd] at HU
    obtain⟨i0,rfl⟩:∃i0,i=i0+1:=⟨i - 1,by omega⟩
    have hm:((i0:Int)+1 - 1)=i0:=by omega
    have hm1:(i0:Int)<(l.length:Int):=by omega
    simp only [Nat.add_sub_cancel] at c2
    clear c0 hse hre hd
    go_wp2_with fail
    refine wp_region_quiet_lit (by kernel_rfl) (by kernel_rfl) ?_
    iterate 14 go_big_quiet_step (fail)
    refine wpQuiet_nil ?_
    intro w2 hw'
    have HQ2:Hid (∃q,w2=w.drewN q):=Lib.hid (by
     obtain⟨n,rfl⟩:=hw'
     obtain⟨q,rfl⟩:=HQ.out
     exact⟨q+n,by simp [World.drewN];omega⟩)
    clear hw'
    cases d with
    |true=>
     have HA:Hid (riseP l=false):=Lib.hid (HNo.out (by rw [HU.out];rfl))
     go_wp2_with fail
     go_ret
     exact⟨by rw [HR.out,HA.out];rfl,HQ2.out⟩
    |false=>
     go_wp2_with fail
     go_roundw
     case rel=>exact⟨i0+1+1,by omega,by go_num,HQ2,Lib.hid (by rw [HT.out,HI.out,HU.out];rfl)⟩
     case measure=>simp [intOf];omega
   ·have hi0:i=0:=by omega
    subst hi0
    clear c0 hse h0
    have hltI2:(0:Int)<(l.length:Int):=by omega
    go_wp2_with fail
    refine wp_region_quiet_lit (by kernel_rfl) (by kernel_rfl) ?_
    iterate 14 go_big_quiet_step (fail)
    refine wpQuiet_nil ?_
    intro w2 hw'
    have HQ2:Hid (∃q,w2=w.drewN q):=Lib.hid (by
     obtain⟨n,rfl⟩:=hw'
     obtain⟨q,rfl⟩:=HQ.out
     exact⟨q+n,by simp [World.drewN];omega⟩)
    clear hw'
    go_wp2_with fail
    go_roundw
    case rel=>exact⟨0+1,by omega,by go_num,HQ2,Lib.hid (by rw [HT.out,HI.out];rfl)⟩
    case measure=>simp [intOf];omega
  ·have hie:i=l.length:=by omega
   have hltI:¬(i:Int)<(l.length:Int):=by omega
   have HA:Hid (riseP l=true):=Lib.hid (by have:=HI.out;rw [hie] at this;exact this)
   go_wp2_with fail
   go_ret
   exact⟨by rw [HR.out,HA.out];rfl,HQ.out⟩
end Go.Proofs.YthogppennalobaaGreatDoor
