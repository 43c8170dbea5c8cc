/- the document: set the document: Kill the document: Note the document: Spend -/
import Derived.Test.YthogppennalobaaGreatDoorZd25
import Derived.Test.YthogppennalobaaGreatDoorZd11
import Derived.Test.YthogppennalobaaGreatDoorZd08
import Derived.Test.YthogppennalobaaGreatDoorZd09
set_option linter.unusedVariables false
set_option linter.unusedSimpArgs false
set_option maxRecDepth 100000
namespace Go.Proofs.YthogppennalobaaGreatDoor
open Go.RowKit Go.Sort Forest OwnR TxO
theorem below_cells {B g:Nat}(hg:B≤g): ∀(vs:List Value) (o:Nat) {a w:World},Below B a w→Below B a (w.setCells g o vs)
 |[],_,_,_,h=>h
 |v::r,o,_,_,h=>below_cells hg r (o+1) (h.setCell (p:=⟨g,o,none⟩) hg v)
theorem cells_other (g:Nat): ∀(vs:List Value) (o:Nat) (w:World) {i:Nat},i≠g→(w.setCells g o vs).heap[i]?=w.heap[i]?
 |[],_,_,_,_=>rfl
 |v::r,o,w,i,h=>(cells_other g r (o+1) _ h).trans (heap_setCell_other w ⟨g,o,none⟩ i v h)
theorem there_bk {t:TypeId}{w:World}{g:Nat}{cur:Array Value}(h:Bk t w g cur){o n:Nat}(hs:o+n≤cur.size): w.there g o n:=fun j hj=>by
 refine⟨?_,h.fro _⟩
 rw [h.cell,Array.getElem?_eq_getElem (by omega)]
 rfl
theorem Tx.cells {W:World}{v:Value}{l:List Bs}{b o:Nat}{t:TypeId}{cs:Array Value}{vs:List Value}(h:Tx W v l)(hb:Bk t W b cs)(ht:t≠9): Tx (W.setCells b o vs) v l:=
 owns_of h fun g hg hl=>cells_other b vs o W (fun e=>owns_ne h hb ht (by rw [hg];exact congrArg some e))
set_option maxHeartbeats 8000000 in
theorem rset_any {w:World}{f:Nat}{rs:List (Nd×Value×Value)}{nx:Int}(h:Xr w f rs nx)(hO:Ok (nds rs))(hl:rs.length≤1000000){i:Nat}(hi:i<rs.length)(n:Nd)(sv av:Value)(hid:n.id=rs[i].1.id)(h1:Tx w sv n.scope)(h2:Tx w av n.actors):
  Calls Tryz.prog 78 #[kpt f,.agg (inC n.id n.parent n sv av)] w fun e w'=>e = .returned (.tuple #[])∧Xr w' f (rs.set i (n,sv,av)) nx∧Only [f] w w':=by
 have HA:=Lib.hid (fun W (hb:Below w.heap.size w W)=>rat_any (h.below hb) hl (n.id:Int))
 have HI:Hid (∀r,At (nds rs) (n.id:Int) r→r=(i:Int)):=Lib.hid fun r hr=>by
  rcases hr with ⟨_,hno⟩ | ⟨j,hj,rfl,hx⟩
  ·exact absurd (by rw [hid]) (hno rs[i].1 (List.mem_map.2 ⟨_,List.getElem_mem hi,rfl⟩))
  ·have:i=j:=by
    refine id_inj hO (by simpa [nds] using hi) hj ?_
    rw [hid] at hx
    simp only [nds,List.getElem_map] at hx ⊢
    omega
   rw [this]
 have T1:=Lib.hid h1
 have T2:=Lib.hid h2
 obtain⟨sa,sc,rfl⟩:=owns_shape h1
 obtain⟨aa,ac,rfl⟩:=owns_shape h2
 obtain⟨v,k1,k2⟩:=h
 obtain⟨q,c,cur,rfl,kb,kc,ks,kt,kl⟩:=k2.at (by omega)
 have HN:=Lib.hid k2
 have HF:=Lib.hid k1
 have HL:=Lib.hid (And.intro hl hi)
 have HK:=Lib.hid kl
 have HFL:=Lib.hid k1.lt
 obtain⟨g,hg⟩:∃g,g=w.heap.size:=⟨_,rfl⟩
 clear h1 h2 k1 k2 kb kc ks kt kl hid hO
 unfold kpt inC txt
 go_enter Tryz.func78,Tryz.ntmps78
 go_wp2_with fail
 rw [← hg]
 obtain⟨w1,hw1⟩:∃x,x=w.alloc (.cells (inC (n.id:Int) (n.parent:Int) n (.slice sa n.scope.length sc) (.slice aa n.actors.length ac)) 31):=⟨_,rfl⟩
 have hw1':=hw1
 unfold inC txt at hw1'
 rw [← hw1']
 have K:Hid (Bk 31 w1 g (inC (n.id:Int) (n.parent:Int) n (.slice sa n.scope.length sc) (.slice aa n.actors.length ac))):=Lib.hid (by rw [hw1];exact Bk.new hg)
 have HW:Hid (Below w.heap.size w w1):=Lib.hid (by rw [hw1];go_grown)
 have HG:Hid (g=w.heap.size):=Lib.hid hg
 clear hw1 hw1' hg
 refine(HA.out w1 HW.out).mono ?_
 rintro e w2 ⟨r,rfl,hw,ha⟩
 replace hw:=hw.symm
 subst hw
 have hr:=HI.out r ha
 subst hr
 clear ha HA HI
 have hbe:Below w.heap.size w (w1.alloc (.cells #[] 31)):=HW.out.trans (by have:=HW.out.size;go_grown)
 have HE:=Lib.hid (Lw.empty 31 15 HW.out)
 have d0:(w1.alloc (.cells #[] 31)).cell? ⟨f,0,none⟩=some (.slice (some ⟨q,0,none⟩) rs.length c):=cell_below hbe (HF.out.cell 0)
 have HK2:Hid (∀j u,(rs.flatMap nodeC)[j]?=some u→(w1.alloc (.cells #[] 31)).cell? ((⟨q,0,none⟩:Addr).add j)=some u):=Lib.hid fun j u hu=>by rw [at0];exact cell_below hbe (HK.out j u hu)
 have HN1:=Lib.hid (nodes_one HN.out)
 have HL31:Hid (0+rs.length≤4194304):=Lib.hid (by have:=HL.out.1;omega)
 clear hbe
 go_wp2_with (
  first
  |refine wpList_load_row rfl 31 _ rfl g rfl 31 _ (0,0) _ H3.out.1 Tryz.underlying31 rfl i31 ?_
  |refine wpList_store_mid rfl 31 _ _ rfl q3 (i*15) (inC (n.id:Int) (n.parent:Int) n (.slice sa n.scope.length sc) (.slice aa n.actors.length ac)) rfl rfl H3.out.2.1 i31 (one15 _ _ _ _ _ _ _ _ _) ?_
   obtain⟨w4,hw4⟩:∃z,z=w3.setCells q3 (i*15) (inC (n.id:Int) (n.parent:Int) n (.slice sa n.scope.length sc) (.slice aa n.actors.length ac)).toList:=⟨_,rfl⟩
   have kf4:Bk 40 w4 f #[.slice (some ⟨q,0,none⟩) rs.length c,.int .i64 nx]:=by
    rw [hw4]
    have k3:Bk 40 w3 f #[.slice (some ⟨q,0,none⟩) rs.length c,.int .i64 nx]:=HF.out.below H3.out.2.2.1
    exact(cells_other q3 _ _ w3 (by have:=HFL.out;have:=H3.out.2.2.2;omega)).trans k3
   have d4:=kf4.cell 0
   have f4:=kf4.fro 0
   have HKF:=Lib.hid kf4
   have HW4:=Lib.hid hw4
   rw [← hw4]
   clear kf4 hw4
  |at_builtin
   refine wp_row row37 rfl _ _ rfl _ [] ⟨q,0,none⟩ rs.length c (rs.flatMap nodeC) rfl rfl HE.out (flat_len rs) HK2.out HN1.out HL31.out (by decide) ?_
   intro v' w3 hs3 hg3
   have hN3:Nr w3 v' rs:=⟨by have:=hs3.1;rwa [Nat.zero_add,List.nil_append] at this,fun r hr=>⟨(HN.out.2 r hr).1.below hs3.2.1,(HN.out.2 r hr).2.below hs3.2.1⟩⟩
   obtain⟨q3,c3,cur3,e3,kb3,kc3,ks3,kt3,_⟩:=hN3.at (Nat.lt_of_le_of_lt (Nat.zero_le _) HL.out.2)
   subst e3
   have H3:Hid (Bk 31 w3 g (inC (n.id:Int) (n.parent:Int) n (.slice sa n.scope.length sc) (.slice aa n.actors.length ac))∧w3.there q3 (i*15) 15∧Below w.heap.size w w3∧w.heap.size≤q3):=Lib.hid ⟨grown_bk hg3 K.out.alloc (fun e=>by have h1:=K.out.lt;have h2:w1.heap.size=g:=Option.some.inj e;omega),there_bk kb3 (by have:=HL.out.2;rw [ks3];have:=Nat.mul_le_mul_right 15 kc3;omega),hs3.2.1,hs3.2.2 q3 rfl⟩
   have HR3:=Lib.hid (And.intro kb3 (And.intro kc3 (And.intro ks3 (And.intro kt3 hN3))))
   have hiI:(i:Int)<(rs.length:Int):=Int.ofNat_lt.2 HL.out.2
   clear hs3 hg3 hN3 kb3 kc3 ks3 kt3 d0)
 go_end0
 obtain⟨kb3,kc3,ks3,kt3,hN3⟩:=HR3.out
 obtain⟨K3,ht3,hb3,hq3⟩:=H3.out
 have hi:=HL.out.2
 have hsz:i*15+15≤cur3.size:=by rw [ks3];have:=Nat.mul_le_mul_right 15 kc3;omega
 obtain⟨cur4,e1,e2,e3⟩:=Bk.cells_set (inC (n.id:Int) (n.parent:Int) n (.slice sa n.scope.length sc) (.slice aa n.actors.length ac)).toList (i*15) kb3 hsz
 rw [← HW4.out] at e1
 have hqf:q3≠f:=by have:=HFL.out;omega
 have hX:∀ {v:Value} {l:List Bs},Tx w v l→Tx (w4.setCell ⟨f,0,none⟩ (.slice (some ⟨q3,0,none⟩) rs.length c3)) v l:=fun ht=>by
  have h4:=Tx.cells (o:=i*15) (vs:=(inC (n.id:Int) (n.parent:Int) n (.slice sa n.scope.length sc) (.slice aa n.actors.length ac)).toList) (ht.below hb3) kb3 (by decide)
  rw [← HW4.out] at h4
  exact h4.setCell HKF.out (by decide)
 refine⟨rfl,⟨_,Bk.same (i:=0) (v:= .slice (some ⟨q3,0,none⟩) rs.length c3) HKF.out,⟨?_,.inr ⟨q3,c3,cur4,by rw [List.length_set],Nat.zero_le _,e1.oth hqf,by rw [List.length_set];exact kc3,?_,by rw [e2,ks3],?_⟩⟩,fun r hr=>?_⟩,?_⟩
 ·rw [flat_len]
 ·rcases hN3.1.2 with ⟨h,_⟩ | ⟨q5,c5,cur5,h,_,_,_,hm,_⟩
  ·cases h
  ·cases h;exact hm
 ·rw [List.length_set]
  exact flat_set hi (n,.slice sa n.scope.length sc,.slice aa n.actors.length ac) kt3 (by rw [ks3];exact Nat.mul_le_mul_right 15 kc3) e2 e3
 ·rcases List.mem_or_eq_of_mem_set hr with h | h
  ·exact⟨hX (HN.out.2 r h).1,hX (HN.out.2 r h).2⟩
  ·subst h
   exact⟨hX T1.out,hX T2.out⟩
 ·refine Only.setCell (Only.of ?_) _ (.inl (by simp)) _
  rw [HW4.out]
  exact below_cells hq3 _ _ hb3
end Go.Proofs.YthogppennalobaaGreatDoor
namespace Go.Proofs.YthogppennalobaaGreatDoor
open Go.RowKit Go.Sort Forest
def Kin (rs' rs:List (Nd×Value×Value)): Prop:=∀r∈rs',∃z∈rs,z.2=r.2
theorem Kin.refl (rs:List (Nd×Value×Value)): Kin rs rs:=fun r hr=>⟨r,hr,rfl⟩
theorem Kin.trans {a b c:List (Nd×Value×Value)}(h:Kin a b)(k:Kin b c): Kin a c:=fun r hr=>by
 obtain⟨z,hz,e⟩:=h r hr
 obtain⟨y,hy,e2⟩:=k z hz
 exact⟨y,hy,e2.trans e⟩
theorem Kin.set {rs:List (Nd×Value×Value)}{n m:Nd}{sv av:Value}(h:(n,sv,av)∈rs)(i:Nat): Kin (rs.set i (m,sv,av)) rs:=fun r hr=>by
 rcases List.mem_or_eq_of_mem_set hr with h1 | h1
 ·exact⟨r,h1,rfl⟩
 ·exact⟨_,h,by rw [h1]⟩
def Rends (w:World)(f:Nat)(rs:List (Nd×Value×Value))(r:Value)(l:List Nd)(nx:Int)(e:Ending)(w':World): Prop:=e = .returned r∧∃rs',nds rs'=l∧Xr w' f rs' nx∧Only [f] w w'∧Kin rs' rs
theorem setN_set {l:List Nd}(hO:Ok l){i:Nat}(hi:i<l.length)(F:Nd→Nd): l.set i (F l[i])=setN l l[i].id F:=by
 refine List.ext_getElem (by simp [setN]) fun j h1 h2=>?_
 rw [List.getElem_set]
 have h3:j<l.length:=by simpa using h1
 have e1:(setN l l[i].id F)[j]=if l[j].id=l[i].id then F l[j] else l[j]:=by simp [setN]
 rw [e1]
 by_cases e:i=j
 ·subst e
  rw [if_pos rfl,if_pos rfl]
 ·rw [if_neg e,if_neg fun h=>e (id_inj hO hi h3 h.symm)]
theorem rset_of {w W:World}{f:Nat}{rs:List (Nd×Value×Value)}{nx:Int}(h:Xr w f rs nx)(hO:Ok (nds rs))(hl:rs.length≤1000000){n:Nd}{sv av:Value}(hn:(n,sv,av)∈rs){F:Nd→Nd}(hF:Mild F)(hb:Below w.heap.size w W):
  Calls Tryz.prog 78 #[kpt f,.agg (inC n.id n.parent (F n) sv av)] W fun e w'=>e = .returned (.tuple #[])∧∃rs',nds rs'=setN (nds rs) n.id F∧Xr w' f rs' nx∧Only [f] w w'∧Kin rs' rs:=by
 obtain⟨i,hi,he⟩:=List.getElem_of_mem hn
 obtain⟨v,k1,k2⟩:=h
 obtain⟨t1,t2⟩:=k2.2 _ hn
 have hid:(F n).id=n.id:=hF.fix.id n
 have hpar:(F n).parent=n.parent:=hF.fix.parent n
 have h:=rset_any (Xr.below ⟨v,k1,k2⟩ hb) hO hl hi (F n) sv av (by rw [hid,he]) (by rw [hF.scope];exact t1.below hb) (by rw [hF.actors];exact t2.below hb)
 rw [hid,hpar] at h
 refine h.mono ?_
 rintro e w' ⟨rfl,hx,ho⟩
 refine⟨rfl,_,?_,hx,(Only.of hb).trans ho fun x hx=> .inl hx,Kin.set hn i⟩
 have hi2:i<(nds rs).length:=by simpa [nds] using hi
 have e2:(nds rs)[i]=n:=by simp [nds,he]
 have:=setN_set hO hi2 F
 rw [e2] at this
 rw [← this]
 simp [nds,List.map_set]
set_option maxHeartbeats 4000000 in
theorem rkill_any {w:World}{f:Nat}{rs:List (Nd×Value×Value)}{nx:Int}(h:Xr w f rs nx)(hO:Ok (nds rs))(hl:rs.length≤1000000)(x:Int): Calls Tryz.prog 44 #[kpt f,.int .i64 x] w fun e w'=>Rends w f rs (.int .i64 (killP (nds rs) x).1) (killP (nds rs) x).2 nx e w':=by
 have hc:=rget_cases h hO hl x
 have H:=Lib.hid h
 obtain⟨R,hR⟩:∃R,R=killP (nds rs) x:=⟨_,rfl⟩
 rw [← hR]
 have HR:=Lib.hid hR
 clear hR
 rcases hc with ⟨hf,hg⟩ | ⟨n,hn,hf,hx,sa,sc,aa,ac,hm,hg⟩
 ·have HA:Hid (R=(131,nds rs)):=Lib.hid (by rw [HR.out];unfold killP;rw [hf])
  have HG:=Lib.hid (hg w (Below.refl _ _))
  clear hf hg h
  unfold kpt zeroN at *
  go_enter Tryz.func44,Tryz.ntmps44
  go_wp2_with fail
  refine HG.out.mono ?_
  rintro e w2 ⟨rfl,hb⟩
  have HB2:=Lib.hid hb
  clear hb HG
  go_wp2_with (refine wpList_put rfl 31 _ _ rfl w2.heap.size zeroN zeroN rfl rfl (Bk.new rfl) i31 rfl (one15 0 0 ⟨0,0,0,[],[],[],[],0,0,false,false,[],0,[],[]⟩ none none 0 0 0 0) ?_)
  go_ret
  have hb3:=below_row (cs:=zeroN) (HB2.out.trans (by have:=HB2.out.size;go_grown):Below w.heap.size w (w2.alloc (.cells zeroN 31))) HB2.out.size
  rw [HA.out]
  exact⟨rfl,rs,rfl,H.out.below hb3,Only.of hb3,Kin.refl rs⟩
 ·have HA:Hid (R=(0,setN (nds rs) n.id killF)):=Lib.hid (by rw [HR.out];unfold killP;rw [hf])
  have HG:=Lib.hid (hg w (Below.refl _ _))
  have HM:=Lib.hid hm
  clear hf hg hn hm h HR
  subst hx
  unfold inC txt at HG
  unfold kpt at *
  have HS:=Lib.hid (fun W (hb:Below w.heap.size w W)=>rset_of H.out hO hl HM.out mild_kill hb)
  unfold kpt inC txt at HS
  go_enter Tryz.func44,Tryz.ntmps44
  go_wp2_with fail
  refine HG.out.mono ?_
  rintro e w2 ⟨rfl,hb⟩
  have HB2:=Lib.hid hb
  clear hb HG
  go_wp2_with fail
  refine(HS.out _ (HB2.out.trans (by have:=HB2.out.size;go_grown))).mono ?_
  rintro e w5 ⟨rfl,hrs⟩
  have HE:=Lib.hid hrs
  clear hrs
  go_wp2_with fail
  go_ret
  rw [HA.out]
  exact⟨rfl,HE.out⟩
end Go.Proofs.YthogppennalobaaGreatDoor
namespace Go.Proofs.YthogppennalobaaGreatDoor
open Go.RowKit Go.Sort Forest
theorem setN_id {l:List Nd}(hO:Ok l){n:Nd}(hn:n∈l){F:Nd→Nd}(h:F n=n): setN l n.id F=l:=by
 unfold setN
 refine(List.map_congr_left fun m hm=>?_).trans (List.map_id l)
 by_cases e:m.id=n.id
 ·have:=hO.same hm hn e
  subst this
  rw [if_pos rfl,h];rfl
 ·rw [if_neg e];rfl
theorem rkill_of {w:World}{f:Nat}{rs:List (Nd×Value×Value)}{nx:Int}(h:Xr w f rs nx)(hO:Ok (nds rs))(hl:rs.length≤1000000){n:Nd}(hf:findI (nds rs) (n.id:Int)=some n){W:World}(hb:Below w.heap.size w W):
  Calls Tryz.prog 44 #[kpt f,.int .i64 (n.id:Int)] W fun e w'=>e = .returned (.int .i64 0)∧∃rs',nds rs'=setN (nds rs) n.id killF∧Xr w' f rs' nx∧Only [f] w w'∧Kin rs' rs:=by
 have h2:=rkill_any (h.below hb) hO hl (n.id:Int)
 have e:killP (nds rs) (n.id:Int)=(0,setN (nds rs) n.id killF):=by unfold killP;rw [hf]
 rw [e] at h2
 refine h2.mono ?_
 rintro e w' ⟨rfl,rs',h3,h4,h5,h6⟩
 exact⟨rfl,rs',h3,h4,(Only.of hb).trans h5 fun x hx=> .inl hx,h6⟩
set_option maxHeartbeats 4000000 in
theorem rnote_any {w:World}{f:Nat}{rs:List (Nd×Value×Value)}{nx:Int}(h:Xr w f rs nx)(hO:Ok (nds rs))(hl:rs.length≤1000000)(x:Int)(s:Bs)(hsl:s.length≤140737488355328): Calls Tryz.prog 49 #[kpt f,.int .i64 x,.string ⟨s.toArray⟩] w fun e w'=>Rends w f rs (.int .i64 (noteP (nds rs) x s).1) (noteP (nds rs) x s).2 nx e w':=by
 have hc:=rget_cases h hO hl x
 have H:=Lib.hid h
 have hz:(⟨s.toArray⟩:ByteArray).size=s.length:=size_ba s
 obtain⟨R,hR⟩:∃R,R=noteP (nds rs) x s:=⟨_,rfl⟩
 rw [← hR]
 have HR:=Lib.hid hR
 clear hR
 rcases hc with ⟨hf,hg⟩ | ⟨n,hn,hf,hx,sa,sc,aa,ac,hm,hg⟩
 ·have HA:Hid (R=(131,nds rs)):=Lib.hid (by rw [HR.out];unfold noteP;rw [hf])
  have HG:=Lib.hid (hg w (Below.refl _ _))
  clear hf hg h
  unfold kpt zeroN at *
  go_enter Tryz.func49,Tryz.ntmps49
  go_wp2_with fail
  refine HG.out.mono ?_
  rintro e w2 ⟨rfl,hb⟩
  have HB2:=Lib.hid hb
  clear hb HG
  go_wp2_with (refine wpList_put rfl 31 _ _ rfl w2.heap.size zeroN zeroN rfl rfl (Bk.new rfl) i31 rfl (one15 0 0 ⟨0,0,0,[],[],[],[],0,0,false,false,[],0,[],[]⟩ none none 0 0 0 0) ?_)
  go_ret
  have hb3:=below_row (cs:=zeroN) (HB2.out.trans (by have:=HB2.out.size;go_grown):Below w.heap.size w (w2.alloc (.cells zeroN 31))) HB2.out.size
  rw [HA.out]
  exact⟨rfl,rs,rfl,H.out.below hb3,Only.of hb3,Kin.refl rs⟩
 ·have HG:=Lib.hid (hg w (Below.refl _ _))
  have HM:=Lib.hid hm
  have HNM:=Lib.hid hn
  have HFI:=Lib.hid hf
  clear hg hn hm h
  subst hx
  clear hf
  unfold inC txt at HG
  have HS:=Lib.hid (fun W (hb:Below w.heap.size w W)=>rset_of H.out hO hl HM.out (mild_note s) hb)
  unfold kpt inC txt at HS
  by_cases hs:(s.length:Int)≤256
  ·have HA:Hid (R=(0,setN (nds rs) n.id (noteF s))):=Lib.hid (by rw [HR.out];unfold noteP;rw [HFI.out];dsimp only;rw [if_pos (by omega)])
   unfold kpt at *
   go_enter Tryz.func49,Tryz.ntmps49
   go_wp2_with fail
   refine HG.out.mono ?_
   rintro e w2 ⟨rfl,hb⟩
   have HB2:=Lib.hid hb
   clear hb HG
   go_wp2_with fail
   refine(HS.out _ (HB2.out.trans (by have:=HB2.out.size;go_grown))).mono ?_
   rintro e w5 ⟨rfl,hrs⟩
   have HE:=Lib.hid hrs
   clear hrs
   go_wp2_with fail
   go_ret
   rw [HA.out]
   exact⟨rfl,HE.out⟩
  ·have HA:Hid (R=(131,nds rs)):=Lib.hid (by rw [HR.out];unfold noteP;rw [HFI.out];dsimp only;rw [if_neg (by omega)])
   unfold kpt at *
   go_enter Tryz.func49,Tryz.ntmps49
   go_wp2_with fail
   refine HG.out.mono ?_
   rintro e w2 ⟨rfl,hb⟩
   have HB2:=Lib.hid hb
   clear hb HG
   go_wp2_with fail
   go_ret
   rw [HA.out]
   refine⟨rfl,rs,rfl,H.out.below ?_,Only.of ?_,Kin.refl rs⟩<;>exact HB2.out.trans (by have:=HB2.out.size;go_grown)
end Go.Proofs.YthogppennalobaaGreatDoor
namespace Go.Proofs.YthogppennalobaaGreatDoor
open Go.RowKit Go.Sort Forest
set_option maxHeartbeats 16000000 in
theorem rspend_any {w:World}{f:Nat}{rs:List (Nd×Value×Value)}{nx:Int}(h:Xr w f rs nx)(hO:Ok (nds rs))(hl:rs.length≤1000000)(x now:Int): Calls Tryz.prog 43 #[kpt f,.int .i64 x,.int .i64 now] w fun e w'=>Rends w f rs (.int .i64 (spendP (nds rs) x now).1) (spendP (nds rs) x now).2 nx e w':=by
 have hc:=rget_cases h hO hl x
 have H:=Lib.hid h
 obtain⟨R,hR⟩:∃R,R=spendP (nds rs) x now:=⟨_,rfl⟩
 rw [← hR]
 have HR:=Lib.hid hR
 clear hR
 rcases hc with ⟨hf,hg⟩ | ⟨n,hn,hf,hx,sa,sc,aa,ac,hm,hg⟩
 ·have HA:Hid (R=(131,nds rs)):=Lib.hid (by rw [HR.out];unfold spendP;rw [hf])
  have HG:=Lib.hid (hg w (Below.refl _ _))
  clear hf hg h
  unfold kpt zeroN at *
  go_enter Tryz.func43,Tryz.ntmps43
  go_wp2_with fail
  refine HG.out.mono ?_
  rintro e w2 ⟨rfl,hb⟩
  have HB2:=Lib.hid hb
  clear hb HG
  go_wp2_with (refine wpList_put rfl 31 _ _ rfl w2.heap.size zeroN zeroN rfl rfl (Bk.new rfl) i31 rfl (one15 0 0 ⟨0,0,0,[],[],[],[],0,0,false,false,[],0,[],[]⟩ none none 0 0 0 0) ?_)
  go_ret
  have hb3:=below_row (cs:=zeroN) (HB2.out.trans (by have:=HB2.out.size;go_grown):Below w.heap.size w (w2.alloc (.cells zeroN 31))) HB2.out.size
  rw [HA.out]
  exact⟨rfl,rs,rfl,H.out.below hb3,Only.of hb3,Kin.refl rs⟩
 ·have HG:=Lib.hid (hg w (Below.refl _ _))
  have HM:=Lib.hid hm
  have HNM:=Lib.hid hn
  have HFI:=Lib.hid hf
  clear hg hn hm h
  subst hx
  clear hf
  unfold inC txt at HG
  have HS:=Lib.hid (fun W (hb:Below w.heap.size w W)=>rset_of H.out hO hl HM.out mild_spend hb)
  have HK:=Lib.hid (fun W (hb:Below w.heap.size w W)=>rkill_of H.out hO hl HFI.out hb)
  have HL:=Lib.hid (fun W (hb:Below w.heap.size w W)=>rlive_any (H.out.below hb) hO hl (n.id:Int) now)
  have e:liveP (nds rs) (n.id:Int) now=liveN (nds rs) now n:=by unfold liveP;rw [HFI.out]
  rw [e] at HL
  clear e
  unfold kpt inC txt at HS
  obtain⟨sp,hsp⟩:∃b,n.spent=b:=⟨_,rfl⟩
  rw [hsp] at HG
  cases sp with
  |true=>
   have HA:Hid (R=(134,setN (nds rs) n.id killF)):=Lib.hid (by rw [HR.out];unfold spendP;rw [HFI.out];dsimp only;rw [if_pos hsp])
   clear hsp
   unfold kpt at *
   go_enter Tryz.func43,Tryz.ntmps43
   go_wp2_with fail
   refine HG.out.mono ?_
   rintro e w2 ⟨rfl,hb⟩
   have HB2:=Lib.hid hb
   clear hb HG
   go_wp2_with fail
   refine(HK.out _ (HB2.out.trans (by have:=HB2.out.size;go_grown))).mono ?_
   rintro e w5 ⟨rfl,hrs⟩
   have HE:=Lib.hid hrs
   clear hrs
   go_wp2_with fail
   go_ret
   rw [HA.out]
   exact⟨rfl,HE.out⟩
  |false=>
   cases hlv:liveN (nds rs) now n with
   |false=>
    rw [hlv] at HL
    have HA:Hid (R=(133,nds rs)):=Lib.hid (by rw [HR.out];unfold spendP;rw [HFI.out];dsimp only;rw [hsp,hlv];rfl)
    clear hsp hlv
    unfold kpt at *
    go_enter Tryz.func43,Tryz.ntmps43
    go_wp2_with fail
    refine HG.out.mono ?_
    rintro e w2 ⟨rfl,hb⟩
    have HB2:=Lib.hid hb
    clear hb HG
    go_wp2_with fail
    refine(HL.out _ (HB2.out.trans (by have:=HB2.out.size;go_grown))).mono ?_
    rintro e w3 ⟨rfl,hb⟩
    have HB3:Hid (Below w.heap.size w w3):=Lib.hid ((HB2.out.trans (by have:=HB2.out.size;go_grown)).trans (hb.mono (by have:=HB2.out.size;simp;omega)))
    clear hb
    go_wp2_with fail
    go_ret
    rw [HA.out]
    exact⟨rfl,rs,rfl,H.out.below HB3.out,Only.of HB3.out,Kin.refl rs⟩
   |true=>
    rw [hlv] at HL
    have HA:Hid (R=(0,setN (nds rs) n.id spendF)):=Lib.hid (by rw [HR.out];unfold spendP;rw [HFI.out];dsimp only;rw [hsp,hlv];rfl)
    clear hsp hlv
    unfold kpt at *
    go_enter Tryz.func43,Tryz.ntmps43
    go_wp2_with fail
    refine HG.out.mono ?_
    rintro e w2 ⟨rfl,hb⟩
    have HB2:=Lib.hid hb
    clear hb HG
    go_wp2_with fail
    refine(HL.out _ (HB2.out.trans (by have:=HB2.out.size;go_grown))).mono ?_
    rintro e w3 ⟨rfl,hb⟩
    have K3:Bk 31 w3 w2.heap.size (inC (n.id:Int) (n.parent:Int) {n with spent:=false} (.slice sa n.scope.length sc) (.slice aa n.actors.length ac)):=(Bk.new (t:=31) rfl:Bk 31 (w2.alloc _) w2.heap.size _).below hb
    have HB3:Hid (Below w.heap.size w w3):=Lib.hid ((HB2.out.trans (by have:=HB2.out.size;go_grown)).trans (hb.mono (by have:=HB2.out.size;simp;omega)))
    have c10:=K3.cell 10
    have f10:=K3.fro 10
    have H4:Hid (Bk 31 (w3.setCell ⟨w2.heap.size,10,none⟩ (.bool true)) w2.heap.size (inC (n.id:Int) (n.parent:Int) (spendF n) (.slice sa n.scope.length sc) (.slice aa n.actors.length ac))∧Below w.heap.size w (w3.setCell ⟨w2.heap.size,10,none⟩ (.bool true))):=Lib.hid ⟨Bk.same (i:=10) (v:= .bool true) K3,HB3.out.setCell (p:=⟨w2.heap.size,10,none⟩) HB2.out.size _⟩
    clear hb K3
    go_wp2_with (refine wpList_load_row rfl 31 _ rfl w2.heap.size rfl 31 _ (0,0) _ H4.out.1 Tryz.underlying31 rfl i31 ?_)
    refine(HS.out _ H4.out.2).mono ?_
    rintro e w5 ⟨rfl,hrs⟩
    have HE:=Lib.hid hrs
    clear hrs
    go_wp2_with fail
    go_ret
    rw [HA.out]
    exact⟨rfl,HE.out⟩
end Go.Proofs.YthogppennalobaaGreatDoor
