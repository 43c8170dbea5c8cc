/- the document: Kill the document: Note the document: Spend the document: KillOf -/
import Derived.Test.YthogppennalobaaGreatDoorZg22
import Derived.Test.YthogppennalobaaGreatDoorZg07
import Derived.Test.YthogppennalobaaGreatDoorZg21
import Derived.Test.YthogppennalobaaGreatDoorZg08
set_option linter.unusedVariables false
set_option linter.unusedSimpArgs false
set_option maxRecDepth 100000
namespace Go.Proofs.YthogppennalobaaGreatDoor
open Go.RowKit Go.Sort Forest
open Go.Lib renaming hid→Φ
def Kin (rs' rs:List (Nd×Value×Value)): Prop:=∀r∈rs',∃z∈rs,z.2=r.2
theorem Kin.refl (rs:List (Nd×Value×Value)): Kin rs rs:=fun r hr=>⟨r,hr,rfl⟩
theorem Kin.trans {a b c:List (Nd×Value×Value)}(h:Kin a b)(k:Kin b c): Kin a c:=fun r hr=>by
 obtain⟨z,hz,e⟩:=h r hr
 obtain⟨y,hy,e2⟩:=k z hz
 exact⟨y,hy,e2.trans e⟩
theorem Kin.set {rs:List (Nd×Value×Value)}{n m:Nd}{sv av:Value}(h:(n,sv,av)∈rs)(i:Nat): Kin (rs.set i (m,sv,av)) rs:=fun r hr=>by
 rcases List.mem_or_eq_of_mem_set hr with h1 | h1
 ·exact⟨r,h1,rfl⟩
 ·exact⟨_,h,by rw [h1]⟩
def Rends (w:World)(f:Nat)(rs:List (Nd×Value×Value))(r:Value)(l:List Nd)(nx:Int)(e:Ending)(w':World): Prop:=e = .returned r∧∃rs',nds rs'=l∧Xr w' f rs' nx∧Only [f] w w'∧Kin rs' rs
theorem setN_set {l:List Nd}(hO:Ok l){i:Nat}(hi:i<l.length)(F:Nd→Nd): l.set i (F l[i])=setN l l[i].id F:=by
 refine List.ext_getElem (by simp [setN]) fun j h1 h2=>?_
 rw [List.getElem_set]
 have h3:j<l.length:=by simpa using h1
 have e1:(setN l l[i].id F)[j]=if l[j].id=l[i].id then F l[j] else l[j]:=by simp [setN]
 rw [e1]
 by_cases e:i=j
 ·subst e
  rw [if_pos rfl,if_pos rfl]
 ·rw [if_neg e,if_neg fun h=>e (id_inj hO hi h3 h.symm)]
theorem rset_of {w W:World}{f:Nat}{rs:List (Nd×Value×Value)}{nx:Int}(h:Xr w f rs nx)(hO:Ok (nds rs))(hl:rs.length≤1000000){n:Nd}{sv av:Value}(hn:(n,sv,av)∈rs){F:Nd→Nd}(hF:Mild F)(hb:Below w.heap.size w W):
  Calls Tryz.prog 78 #[kpt f,.agg (inC n.id n.parent (F n) sv av)] W fun e w'=>e = .returned (.tuple #[])∧∃rs',nds rs'=setN (nds rs) n.id F∧Xr w' f rs' nx∧Only [f] w w'∧Kin rs' rs:=by
 obtain⟨i,hi,he⟩:=List.getElem_of_mem hn
 obtain⟨v,k1,k2⟩:=h
 obtain⟨t1,t2⟩:=k2.2 _ hn
 have hid:(F n).id=n.id:=hF.fix.id n
 have hpar:(F n).parent=n.parent:=hF.fix.parent n
 have h:=rset_any (Xr.below ⟨v,k1,k2⟩ hb) hO hl hi (F n) sv av (by rw [hid,he]) (by rw [hF.scope];exact t1.below hb) (by rw [hF.actors];exact t2.below hb)
 rw [hid,hpar] at h
 refine h.mono ?_
 rintro e w' ⟨rfl,hx,ho⟩
 refine⟨rfl,_,?_,hx,(Only.of hb).trans ho fun x hx=> .inl hx,Kin.set hn i⟩
 have hi2:i<(nds rs).length:=by simpa [nds] using hi
 have e2:(nds rs)[i]=n:=by simp [nds,he]
 have:=setN_set hO hi2 F
 rw [e2] at this
 rw [← this]
 simp [nds,List.map_set]
set_option maxHeartbeats 4000000 in
theorem rkill_any {w:World}{f:Nat}{rs:List (Nd×Value×Value)}{nx:Int}(h:Xr w f rs nx)(hO:Ok (nds rs))(hl:rs.length≤1000000)(x:Int): Calls Tryz.prog 44 #[kpt f,.int .i64 x] w fun e w'=>Rends w f rs (.int .i64 (killP (nds rs) x).1) (killP (nds rs) x).2 nx e w':=by
 have hc:=rget_cases h hO hl x
 have H:=Φ h
 obtain⟨R,hR⟩:∃R,R=killP (nds rs) x:=⟨_,rfl⟩
 rw [← hR]
 have HR:=Φ hR
 clear hR
 rcases hc with ⟨hf,hg⟩ | ⟨n,hn,hf,hx,sa,sc,aa,ac,hm,hg⟩
 ·have HA:Hid (R=(131,nds rs)):=Φ (by rw [HR.out];unfold killP;rw [hf])
  have HG:=Φ (hg w (Below.refl _ _))
  clear hf hg h
  unfold kpt zeroN at *
  go_enter Tryz.func44,Tryz.ntmps44
  go_wp2_with fail
  refine HG.out.mono ?_
  rintro e w2 ⟨rfl,hb⟩
  have HB2:=Φ hb
  clear hb HG
  go_wp2_with (refine wpList_put rfl 31 _ _ rfl w2.heap.size zeroN zeroN rfl rfl (Bk.new rfl) i31 rfl (one15 0 0 ⟨0,0,0,[],[],[],[],0,0,false,false,[],0,[],[]⟩ none none 0 0 0 0) ?_)
  go_ret
  have hb3:=below_row (cs:=zeroN) (HB2.out.trans (by have:=HB2.out.size;go_grown):Below w.heap.size w (w2.alloc (.cells zeroN 31))) HB2.out.size
  rw [HA.out]
  exact⟨rfl,rs,rfl,H.out.below hb3,Only.of hb3,Kin.refl rs⟩
 ·have HA:Hid (R=(0,setN (nds rs) n.id killF)):=Φ (by rw [HR.out];unfold killP;rw [hf])
  have HG:=Φ (hg w (Below.refl _ _))
  have HM:=Φ hm
  clear hf hg hn hm h HR
  subst hx
  unfold inC txt at HG
  unfold kpt at *
  have HS:=Φ (fun W (hb:Below w.heap.size w W)=>rset_of H.out hO hl HM.out mild_kill hb)
  unfold kpt inC txt at HS
  go_enter Tryz.func44,Tryz.ntmps44
  go_wp2_with fail
  refine HG.out.mono ?_
  rintro e w2 ⟨rfl,hb⟩
  have HB2:=Φ hb
  clear hb HG
  go_wp2_with fail
  refine(HS.out _ (HB2.out.trans (by have:=HB2.out.size;go_grown))).mono ?_
  rintro e w5 ⟨rfl,hrs⟩
  have HE:=Φ hrs
  clear hrs
  go_wp2_with fail
  go_ret
  rw [HA.out]
  exact⟨rfl,HE.out⟩
open Go.Lib renaming hid→Φ
theorem setN_id {l:List Nd}(hO:Ok l){n:Nd}(hn:n∈l){F:Nd→Nd}(h:F n=n): setN l n.id F=l:=by
 unfold setN
 refine(List.map_congr_left fun m hm=>?_).trans (List.map_id l)
 by_cases e:m.id=n.id
 ·have:=hO.same hm hn e
  subst this
  rw [if_pos rfl,h];rfl
 ·rw [if_neg e];rfl
theorem rkill_of {w:World}{f:Nat}{rs:List (Nd×Value×Value)}{nx:Int}(h:Xr w f rs nx)(hO:Ok (nds rs))(hl:rs.length≤1000000){n:Nd}(hf:findI (nds rs) (n.id:Int)=some n){W:World}(hb:Below w.heap.size w W):
  Calls Tryz.prog 44 #[kpt f,.int .i64 (n.id:Int)] W fun e w'=>e = .returned (.int .i64 0)∧∃rs',nds rs'=setN (nds rs) n.id killF∧Xr w' f rs' nx∧Only [f] w w'∧Kin rs' rs:=by
 have h2:=rkill_any (h.below hb) hO hl (n.id:Int)
 have e:killP (nds rs) (n.id:Int)=(0,setN (nds rs) n.id killF):=by unfold killP;rw [hf]
 rw [e] at h2
 refine h2.mono ?_
 rintro e w' ⟨rfl,rs',h3,h4,h5,h6⟩
 exact⟨rfl,rs',h3,h4,(Only.of hb).trans h5 fun x hx=> .inl hx,h6⟩
set_option maxHeartbeats 4000000 in
theorem rnote_any {w:World}{f:Nat}{rs:List (Nd×Value×Value)}{nx:Int}(h:Xr w f rs nx)(hO:Ok (nds rs))(hl:rs.length≤1000000)(x:Int)(s:Bs)(hsl:s.length≤140737488355328): Calls Tryz.prog 49 #[kpt f,.int .i64 x,.string ⟨s.toArray⟩] w fun e w'=>Rends w f rs (.int .i64 (noteP (nds rs) x s).1) (noteP (nds rs) x s).2 nx e w':=by
 have hc:=rget_cases h hO hl x
 have H:=Φ h
 have hz:(⟨s.toArray⟩:ByteArray).size=s.length:=size_ba s
 obtain⟨R,hR⟩:∃R,R=noteP (nds rs) x s:=⟨_,rfl⟩
 rw [← hR]
 have HR:=Φ hR
 clear hR
 rcases hc with ⟨hf,hg⟩ | ⟨n,hn,hf,hx,sa,sc,aa,ac,hm,hg⟩
 ·have HA:Hid (R=(131,nds rs)):=Φ (by rw [HR.out];unfold noteP;rw [hf])
  have HG:=Φ (hg w (Below.refl _ _))
  clear hf hg h
  unfold kpt zeroN at *
  go_enter Tryz.func49,Tryz.ntmps49
  go_wp2_with fail
  refine HG.out.mono ?_
  rintro e w2 ⟨rfl,hb⟩
  have HB2:=Φ hb
  clear hb HG
  go_wp2_with (refine wpList_put rfl 31 _ _ rfl w2.heap.size zeroN zeroN rfl rfl (Bk.new rfl) i31 rfl (one15 0 0 ⟨0,0,0,[],[],[],[],0,0,false,false,[],0,[],[]⟩ none none 0 0 0 0) ?_)
  go_ret
  have hb3:=below_row (cs:=zeroN) (HB2.out.trans (by have:=HB2.out.size;go_grown):Below w.heap.size w (w2.alloc (.cells zeroN 31))) HB2.out.size
  rw [HA.out]
  exact⟨rfl,rs,rfl,H.out.below hb3,Only.of hb3,Kin.refl rs⟩
 ·have HG:=Φ (hg w (Below.refl _ _))
  have HM:=Φ hm
  have HNM:=Φ hn
  have HFI:=Φ hf
  clear hg hn hm h
  subst hx
  clear hf
  unfold inC txt at HG
  have HS:=Φ (fun W (hb:Below w.heap.size w W)=>rset_of H.out hO hl HM.out (mild_note s) hb)
  unfold kpt inC txt at HS
  by_cases hs:(s.length:Int)≤256
  ·have HA:Hid (R=(0,setN (nds rs) n.id (noteF s))):=Φ (by rw [HR.out];unfold noteP;rw [HFI.out];dsimp only;rw [if_pos (by omega)])
   unfold kpt at *
   go_enter Tryz.func49,Tryz.ntmps49
   go_wp2_with fail
   refine HG.out.mono ?_
   rintro e w2 ⟨rfl,hb⟩
   have HB2:=Φ hb
   clear hb HG
   go_wp2_with fail
   refine(HS.out _ (HB2.out.trans (by have:=HB2.out.size;go_grown))).mono ?_
   rintro e w5 ⟨rfl,hrs⟩
   have HE:=Φ hrs
   clear hrs
   go_wp2_with fail
   go_ret
   rw [HA.out]
   exact⟨rfl,HE.out⟩
  ·have HA:Hid (R=(131,nds rs)):=Φ (by rw [HR.out];unfold noteP;rw [HFI.out];dsimp only;rw [if_neg (by omega)])
   unfold kpt at *
   go_enter Tryz.func49,Tryz.ntmps49
   go_wp2_with fail
   refine HG.out.mono ?_
   rintro e w2 ⟨rfl,hb⟩
   have HB2:=Φ hb
   clear hb HG
   go_wp2_with fail
   go_ret
   rw [HA.out]
   refine⟨rfl,rs,rfl,H.out.below ?_,Only.of ?_,Kin.refl rs⟩<;>exact HB2.out.trans (by have:=HB2.out.size;go_grown)
open Go.Lib renaming hid→Φ
set_option maxHeartbeats 16000000 in
theorem rspend_any {w:World}{f:Nat}{rs:List (Nd×Value×Value)}{nx:Int}(h:Xr w f rs nx)(hO:Ok (nds rs))(hl:rs.length≤1000000)(x now:Int): Calls Tryz.prog 43 #[kpt f,.int .i64 x,.int .i64 now] w fun e w'=>Rends w f rs (.int .i64 (spendP (nds rs) x now).1) (spendP (nds rs) x now).2 nx e w':=by
 have hc:=rget_cases h hO hl x
 have H:=Φ h
 obtain⟨R,hR⟩:∃R,R=spendP (nds rs) x now:=⟨_,rfl⟩
 rw [← hR]
 have HR:=Φ hR
 clear hR
 rcases hc with ⟨hf,hg⟩ | ⟨n,hn,hf,hx,sa,sc,aa,ac,hm,hg⟩
 ·have HA:Hid (R=(131,nds rs)):=Φ (by rw [HR.out];unfold spendP;rw [hf])
  have HG:=Φ (hg w (Below.refl _ _))
  clear hf hg h
  unfold kpt zeroN at *
  go_enter Tryz.func43,Tryz.ntmps43
  go_wp2_with fail
  refine HG.out.mono ?_
  rintro e w2 ⟨rfl,hb⟩
  have HB2:=Φ hb
  clear hb HG
  go_wp2_with (refine wpList_put rfl 31 _ _ rfl w2.heap.size zeroN zeroN rfl rfl (Bk.new rfl) i31 rfl (one15 0 0 ⟨0,0,0,[],[],[],[],0,0,false,false,[],0,[],[]⟩ none none 0 0 0 0) ?_)
  go_ret
  have hb3:=below_row (cs:=zeroN) (HB2.out.trans (by have:=HB2.out.size;go_grown):Below w.heap.size w (w2.alloc (.cells zeroN 31))) HB2.out.size
  rw [HA.out]
  exact⟨rfl,rs,rfl,H.out.below hb3,Only.of hb3,Kin.refl rs⟩
 ·have HG:=Φ (hg w (Below.refl _ _))
  have HM:=Φ hm
  have HNM:=Φ hn
  have HFI:=Φ hf
  clear hg hn hm h
  subst hx
  clear hf
  unfold inC txt at HG
  have HS:=Φ (fun W (hb:Below w.heap.size w W)=>rset_of H.out hO hl HM.out mild_spend hb)
  have HK:=Φ (fun W (hb:Below w.heap.size w W)=>rkill_of H.out hO hl HFI.out hb)
  have HL:=Φ (fun W (hb:Below w.heap.size w W)=>rlive_any (H.out.below hb) hO hl (n.id:Int) now)
  have e:liveP (nds rs) (n.id:Int) now=liveN (nds rs) now n:=by unfold liveP;rw [HFI.out]
  rw [e] at HL
  clear e
  unfold kpt inC txt at HS
  obtain⟨sp,hsp⟩:∃b,n.spent=b:=⟨_,rfl⟩
  rw [hsp] at HG
  cases sp with
  |true=>
   have HA:Hid (R=(134,setN (nds rs) n.id killF)):=Φ (by rw [HR.out];unfold spendP;rw [HFI.out];dsimp only;rw [if_pos hsp])
   clear hsp
   unfold kpt at *
   go_enter Tryz.func43,Tryz.ntmps43
   go_wp2_with fail
   refine HG.out.mono ?_
   rintro e w2 ⟨rfl,hb⟩
   have HB2:=Φ hb
   clear hb HG
   go_wp2_with fail
   refine(HK.out _ (HB2.out.trans (by have:=HB2.out.size;go_grown))).mono ?_
   rintro e w5 ⟨rfl,hrs⟩
   have HE:=Φ hrs
   clear hrs
   go_wp2_with fail
   go_ret
   rw [HA.out]
   exact⟨rfl,HE.out⟩
  |false=>
   cases hlv:liveN (nds rs) now n with
   |false=>
    rw [hlv] at HL
    have HA:Hid (R=(133,nds rs)):=Φ (by rw [HR.out];unfold spendP;rw [HFI.out];dsimp only;rw [hsp,hlv];rfl)
    clear hsp hlv
    unfold kpt at *
    go_enter Tryz.func43,Tryz.ntmps43
    go_wp2_with fail
    refine HG.out.mono ?_
    rintro e w2 ⟨rfl,hb⟩
    have HB2:=Φ hb
    clear hb HG
    go_wp2_with fail
    refine(HL.out _ (HB2.out.trans (by have:=HB2.out.size;go_grown))).mono ?_
    rintro e w3 ⟨rfl,hb⟩
    have HB3:Hid (Below w.heap.size w w3):=Φ ((HB2.out.trans (by have:=HB2.out.size;go_grown)).trans (hb.mono (by have:=HB2.out.size;simp;omega)))
    clear hb
    go_wp2_with fail
    go_ret
    rw [HA.out]
    exact⟨rfl,rs,rfl,H.out.below HB3.out,Only.of HB3.out,Kin.refl rs⟩
   |true=>
    rw [hlv] at HL
    have HA:Hid (R=(0,setN (nds rs) n.id spendF)):=Φ (by rw [HR.out];unfold spendP;rw [HFI.out];dsimp only;rw [hsp,hlv];rfl)
    clear hsp hlv
    unfold kpt at *
    go_enter Tryz.func43,Tryz.ntmps43
    go_wp2_with fail
    refine HG.out.mono ?_
    rintro e w2 ⟨rfl,hb⟩
    have HB2:=Φ hb
    clear hb HG
    go_wp2_with fail
    refine(HL.out _ (HB2.out.trans (by have:=HB2.out.size;go_grown))).mono ?_
    rintro e w3 ⟨rfl,hb⟩
    have K3:Bk 31 w3 w2.heap.size (inC (n.id:Int) (n.parent:Int) {n with spent:=false} (.slice sa n.scope.length sc) (.slice aa n.actors.length ac)):=(Bk.new (t:=31) rfl:Bk 31 (w2.alloc _) w2.heap.size _).below hb
    have HB3:Hid (Below w.heap.size w w3):=Φ ((HB2.out.trans (by have:=HB2.out.size;go_grown)).trans (hb.mono (by have:=HB2.out.size;simp;omega)))
    have c10:=K3.cell 10
    have f10:=K3.fro 10
    have H4:Hid (Bk 31 (w3.setCell ⟨w2.heap.size,10,none⟩ (.bool true)) w2.heap.size (inC (n.id:Int) (n.parent:Int) (spendF n) (.slice sa n.scope.length sc) (.slice aa n.actors.length ac))∧Below w.heap.size w (w3.setCell ⟨w2.heap.size,10,none⟩ (.bool true))):=Φ ⟨Bk.same (i:=10) (v:= .bool true) K3,HB3.out.setCell (p:=⟨w2.heap.size,10,none⟩) HB2.out.size _⟩
    clear hb K3
    go_wp2_with (refine wpList_load_row rfl 31 _ rfl w2.heap.size rfl 31 _ (0,0) _ H4.out.1 Tryz.underlying31 rfl i31 ?_)
    refine(HS.out _ H4.out.2).mono ?_
    rintro e w5 ⟨rfl,hrs⟩
    have HE:=Φ hrs
    clear hrs
    go_wp2_with fail
    go_ret
    rw [HA.out]
    exact⟨rfl,HE.out⟩
end Go.Proofs.YthogppennalobaaGreatDoor
namespace Go.Proofs.YthogppennalobaaGreatDoor
open Go.RowKit Go.Sort Forest OwnR TxO Pl
open Go.Lib renaming hid→Φ
theorem cat_ba (l:List UInt8): (⟨#[99,58]⟩:ByteArray)++⟨l.toArray⟩=⟨([99,58]++l).toArray⟩:=by
 apply ByteArray.ext
 simp
section
variable {Q:Exit→Act→World→Prop} {K:Act→World→Prop} {T:Array Value} {ds:List Deferred} {w:World} {ty:TypeId} {dst:Option Tmp} {s:Nat} {ps:String} {af:Array Edge} {g:Option (Nat×Bool)}
theorem j_cat {l:List UInt8}(hl:l.length≤281474976710656)(e:T.getD s undef = .string ⟨l.toArray⟩)(h:K (Act.put ⟨T,ds⟩ dst (.string ⟨([99,58]++l).toArray⟩)) w): Oper.wp Tryz.prog ⟨dst,.binOp .add 9 (.const (.string ⟨#[99,58]⟩)) (.tmp s) 9,ty,ps,af,g⟩ ⟨T,ds⟩ w K Q:=by
 have hz:(⟨l.toArray⟩:ByteArray).size=l.length:=size_ba l
 have hI:¬9223372036854775807<2+l.length:=by omega
 have hx:=Φ (cat_ba l)
 go_simp
 rw [hx.out]
 exact h
end
noncomputable def ko6O:Array Oper:=(Tryz.f45.body.bind fun c=>findR c 6).getD #[]
def ko6V (g:Nat)(n:Nd)(p:Bs)(b2 b8 b9:Bool): List Value:=[.pointer (some ⟨g,4,none⟩),.string ⟨n.client.toArray⟩,.bool b2,.bool b2,gv (true&&(b2 == true)) (.pointer (some ⟨g,4,none⟩)),gv (true&&(b2 == true)) (.string ⟨n.client.toArray⟩),gv (true&&(b2 == true)) (.string ⟨([99,58]++n.client).toArray⟩),gv (true&&(b2 == true)) (.string ⟨p.toArray⟩),gv (true&&(b2 == true)) (.bool b8),.bool b9,.bool b9]
set_option maxHeartbeats 4000000 in
theorem ko6 {g:Nat}{n:Nd}{p:Bs}(hcl:n.client.length≤281474976710656){W:World→Prop}{b2 b8 b9:Bool}(hb2:b2=(!(n.client == [])))(hb8:b8=((([99,58]++n.client) == p)))(hb9:b9=(b2&&b8))(k4:∀w',W w'→w'.cell? ⟨g,4,none⟩=some (.string ⟨n.client.toArray⟩)){t0 t2 t3 t4 t5 t6 t8 t9 t10 t11 t12 t13 t14 t15 t16 t17 t18 t19 t20 t21 t22 t23 t24 t25 t26 t27 t28 t29 t30 t31 t32 t33 t34 t35 t36 t37 t38 t39 t40 t41 t42 t43 t44 t45 t46 t47 t48 t49 t50 t51 t52 t53:Value}{ds:List Deferred}{Q:Exit→Act→World→Prop}{w:World}(h0:W w)
  (h:∀(z25 z26 z27 z28 z29 z30 z31 z32 z33 z34:Value) (w1:World),W w1→Q .normal {tmps:=#[t0,.string ⟨p.toArray⟩,t2,t3,t4,t5,t6,.pointer (some ⟨g,0,none⟩),.bool b9,t9,t10,t11,t12,t13,t14,t15,t16,t17,t18,t19,t20,t21,t22,t23,t24,z25,z26,z27,z28,z29,z30,z31,z32,z33,z34,t35,t36,t37,t38,t39,t40,t41,t42,t43,t44,t45,t46,t47,t48,t49,t50,t51,t52,t53],defers:=ds} w1) :
  (Code.region 6 ko6O false).wp Tryz.prog Q {tmps:=#[t0,.string ⟨p.toArray⟩,t2,t3,t4,t5,t6,.pointer (some ⟨g,0,none⟩),t8,t9,t10,t11,t12,t13,t14,t15,t16,t17,t18,t19,t20,t21,t22,t23,t24,t25,t26,t27,t28,t29,t30,t31,t32,t33,t34,t35,t36,t37,t38,t39,t40,t41,t42,t43,t44,t45,t46,t47,t48,t49,t50,t51,t52,t53],defers:=ds} w:=by
 have hsz:ko6O.size=11:=by kernel_rfl
 generalize hT0:List.toArray _=T0
 have hs:T0.size=54:=by subst hT0;rfl
 have g1:T0.getD 1 undef = .string ⟨p.toArray⟩:=by subst hT0;rfl
 have g7:T0.getD 7 undef = .pointer (some ⟨g,0,none⟩):=by subst hT0;rfl
 refine seq_plan T0 ds (lv (ko6V g n p b2 b8 b9)) W w (by rw [hs];kernel_rfl) ?_ h0 ?_
 ·rw [hsz]
  refine all_step (all_step (all_step (all_step (all_step (all_step (all_step (all_step (all_step (all_step (all_step all_zero ?_) ?_) ?_) ?_) ?_) ?_) ?_) ?_) ?_) ?_) ?_
  all_goals
   intro o ho T w hK hW
  ·refine sq (x:= .pointer (some ⟨g,4,none⟩)) (some 25) (.fieldAddr 31 (.tmp 7) 4) 0 ho ?_
   intro ps af
   have e7:T.getD 7 undef = .pointer (some ⟨g,0,none⟩):=hK.old (by kernel_rfl) g7
   exact j_fa31_4 e7 ⟨rfl,hW⟩
  ·refine sq (x:= .string ⟨n.client.toArray⟩) (some 26) (.load 9 (.tmp 25)) 9 ho ?_
   intro ps af
   have e25:T.getD 25 undef = .pointer (some ⟨g,4,none⟩):=hK.at 0
   exact j_ld9 (k4 _ hW) e25 ⟨rfl,hW⟩
  ·refine sq (x:= .bool b2) (some 27) (.binOp BinOp.neq 9 (.tmp 26) (.const (Value.string {data:=#[]})) 9) 4 ho ?_
   intro ps af
   have e26:T.getD 26 undef = .string ⟨n.client.toArray⟩:=hK.at 1
   exact j_neqe e26 hb2 ⟨rfl,hW⟩
  ·refine sq (x:= .bool b2) (some 28) (.move (.tmp 27)) 4 ho ?_
   intro ps af
   have e27:T.getD 27 undef = .bool b2:=hK.at 2
   exact j_mv e27 ⟨rfl,hW⟩
  ·have hT:T.getD 28 undef=gv true (.bool b2):=hK.at 3
   refine sg (x:= .pointer (some ⟨g,4,none⟩)) 3 28 true (some 29) (.fieldAddr 31 (.tmp 7) 4) 0 ho hT hW ?_
   intro hg he ps af
   subst he
   have e7:T.getD 7 undef = .pointer (some ⟨g,0,none⟩):=hK.old (by kernel_rfl) g7
   exact j_fa31_4 e7 ⟨rfl,hW⟩
  ·have hT:T.getD 28 undef=gv true (.bool b2):=hK.at 3
   refine sg (x:= .string ⟨n.client.toArray⟩) 3 28 true (some 30) (.load 9 (.tmp 29)) 9 ho hT hW ?_
   intro hg he ps af
   subst he
   have e29:T.getD 29 undef = .pointer (some ⟨g,4,none⟩):=hK.at 4
   exact j_ld9 (k4 _ hW) e29 ⟨rfl,hW⟩
  ·have hT:T.getD 28 undef=gv true (.bool b2):=hK.at 3
   refine sg (x:= .string ⟨([99,58]++n.client).toArray⟩) 3 28 true (some 31) (.binOp BinOp.add 9 (.const (Value.string {data:=#[99,58]})) (.tmp 30) 9) 9 ho hT hW ?_
   intro hg he ps af
   subst he
   have e30:T.getD 30 undef = .string ⟨n.client.toArray⟩:=hK.at 5
   exact j_cat hcl e30 ⟨rfl,hW⟩
  ·have hT:T.getD 28 undef=gv true (.bool b2):=hK.at 3
   refine sg (x:= .string ⟨p.toArray⟩) 3 28 true (some 32) (.move (.tmp 1)) 9 ho hT hW ?_
   intro hg he ps af
   subst he
   have e1:T.getD 1 undef = .string ⟨p.toArray⟩:=hK.old (by kernel_rfl) g1
   exact j_mv e1 ⟨rfl,hW⟩
  ·have hT:T.getD 28 undef=gv true (.bool b2):=hK.at 3
   refine sg (x:= .bool b8) 3 28 true (some 33) (.binOp BinOp.eql 9 (.tmp 31) (.tmp 32) 9) 4 ho hT hW ?_
   intro hg he ps af
   subst he
   have e31:T.getD 31 undef = .string ⟨([99,58]++n.client).toArray⟩:=hK.at 6
   have e32:T.getD 32 undef = .string ⟨p.toArray⟩:=hK.at 7
   exact j_eql2s e31 e32 hb8 ⟨rfl,hW⟩
  ·refine sq (x:= .bool b9) (some 34) (.pick (.tmp 28) (.tmp 33) (.const (Value.bool false))) 4 ho ?_
   intro ps af
   have e28:T.getD 28 undef = .bool b2:=hK.at 3
   refine j_pick e28 ?_ ⟨rfl,hW⟩
   rcases Bool.eq_false_or_eq_true b2 with hx | hx
   ·have es:T.getD 33 undef=gv (true&&(b2 == true)) (.bool b8):=hK.at 8
    rw [hx,if_pos rfl]
    refine es.trans ?_
    simp only [hb9,hx,gv,Bool.true_and,Bool.and_true,Bool.false_or,beq_self_eq_true,Bool.true_or,if_true]
   ·rw [hx,if_neg (by decide)]
    simp only [hb9,hx,Bool.false_and,Bool.true_or]
    rfl
  ·refine sq (x:= .bool b9) (some 8) (.assign (.tmp 34)) 4 ho ?_
   intro ps af
   have e34:T.getD 34 undef = .bool b9:=hK.at 9
   exact j_as e34 ⟨rfl,hW⟩
 ·intro w1 hW
  have hQ:=h (.pointer (some ⟨g,4,none⟩)) (.string ⟨n.client.toArray⟩) (.bool b2) (.bool b2) (gv (true&&(b2 == true)) (.pointer (some ⟨g,4,none⟩))) (gv (true&&(b2 == true)) (.string ⟨n.client.toArray⟩)) (gv (true&&(b2 == true)) (.string ⟨([99,58]++n.client).toArray⟩)) (gv (true&&(b2 == true)) (.string ⟨p.toArray⟩)) (gv (true&&(b2 == true)) (.bool b8)) (.bool b9) w1 hW
  rw [hsz]
  subst hT0
  refine cast (congrArg (fun Tx=>Q .normal ⟨Tx,ds⟩ w1) ?_) hQ
  kernel_rfl
noncomputable def ko7O:Array Oper:=(Tryz.f45.body.bind fun c=>findR c 7).getD #[]
def ko7V (g:Nat)(n:Nd)(p:Bs)(own:Bool)(b2 b7 b10 b11:Bool): List Value:=[.pointer (some ⟨g,9,none⟩),.bool n.dead,.bool b2,.bool b2,gv (true&&(b2 == true)) (.pointer (some ⟨g,3,none⟩)),gv (true&&(b2 == true)) (.string ⟨n.subject.toArray⟩),gv (true&&(b2 == true)) (.string ⟨p.toArray⟩),gv (true&&(b2 == true)) (.bool b7),gv (true&&(b2 == true)) (.bool b7),gv ((true&&(b2 == true))&&(b7 == false)) (.bool own),gv (true&&(b2 == true)) (.bool b10),.bool b11]
set_option maxHeartbeats 4000000 in
theorem ko7 {g:Nat}{n:Nd}{p:Bs}{own:Bool}  {W:World→Prop}{b2 b7 b10 b11:Bool}(hb2:b2 = !(n.dead))(hb7:b7=((n.subject == p)))(hb10:b10=(b7||own))(hb11:b11=(b2&&b10))(k3:∀w',W w'→w'.cell? ⟨g,3,none⟩=some (.string ⟨n.subject.toArray⟩))(k9:∀w',W w'→w'.cell? ⟨g,9,none⟩=some (.bool n.dead)){t0 t2 t3 t4 t5 t6 t9 t10 t11 t12 t13 t14 t15 t16 t17 t18 t19 t20 t21 t22 t23 t24 t25 t26 t27 t28 t29 t30 t31 t32 t33 t34 t35 t36 t37 t38 t39 t40 t41 t42 t43 t44 t45 t46 t47 t48 t49 t50 t51 t52 t53:Value}{ds:List Deferred}{Q:Exit→Act→World→Prop}{w:World}(h0:W w)
  (h:∀(z35 z36 z37 z38 z39 z40 z41 z42 z43 z44 z45:Value) (w1:World),W w1→Q .normal {tmps:=#[t0,.string ⟨p.toArray⟩,t2,t3,t4,t5,t6,.pointer (some ⟨g,0,none⟩),.bool own,t9,t10,t11,t12,t13,t14,t15,t16,t17,t18,t19,t20,t21,t22,t23,t24,t25,t26,t27,t28,t29,t30,t31,t32,t33,t34,z35,z36,z37,z38,z39,z40,z41,z42,z43,z44,z45,.bool b11,t47,t48,t49,t50,t51,t52,t53],defers:=ds} w1) :
  (Code.region 7 ko7O false).wp Tryz.prog Q {tmps:=#[t0,.string ⟨p.toArray⟩,t2,t3,t4,t5,t6,.pointer (some ⟨g,0,none⟩),.bool own,t9,t10,t11,t12,t13,t14,t15,t16,t17,t18,t19,t20,t21,t22,t23,t24,t25,t26,t27,t28,t29,t30,t31,t32,t33,t34,t35,t36,t37,t38,t39,t40,t41,t42,t43,t44,t45,t46,t47,t48,t49,t50,t51,t52,t53],defers:=ds} w:=by
 have hsz:ko7O.size=12:=by kernel_rfl
 generalize hT0:List.toArray _=T0
 have hs:T0.size=54:=by subst hT0;rfl
 have g1:T0.getD 1 undef = .string ⟨p.toArray⟩:=by subst hT0;rfl
 have g7:T0.getD 7 undef = .pointer (some ⟨g,0,none⟩):=by subst hT0;rfl
 have g8:T0.getD 8 undef = .bool own:=by subst hT0;rfl
 refine seq_plan T0 ds (lv (ko7V g n p own b2 b7 b10 b11)) W w (by rw [hs];kernel_rfl) ?_ h0 ?_
 ·rw [hsz]
  refine all_step (all_step (all_step (all_step (all_step (all_step (all_step (all_step (all_step (all_step (all_step (all_step all_zero ?_) ?_) ?_) ?_) ?_) ?_) ?_) ?_) ?_) ?_) ?_) ?_
  all_goals
   intro o ho T w hK hW
  ·refine sq (x:= .pointer (some ⟨g,9,none⟩)) (some 35) (.fieldAddr 31 (.tmp 7) 9) 0 ho ?_
   intro ps af
   have e7:T.getD 7 undef = .pointer (some ⟨g,0,none⟩):=hK.old (by kernel_rfl) g7
   exact j_fa31_9 e7 ⟨rfl,hW⟩
  ·refine sq (x:= .bool n.dead) (some 36) (.load 4 (.tmp 35)) 4 ho ?_
   intro ps af
   have e35:T.getD 35 undef = .pointer (some ⟨g,9,none⟩):=hK.at 0
   exact j_ld4 (k9 _ hW) e35 ⟨rfl,hW⟩
  ·refine sq (x:= .bool b2) (some 37) (.unOp UnOp.not 4 (.tmp 36)) 4 ho ?_
   intro ps af
   have e36:T.getD 36 undef = .bool n.dead:=hK.at 1
   exact j_not e36 hb2 ⟨rfl,hW⟩
  ·refine sq (x:= .bool b2) (some 38) (.move (.tmp 37)) 4 ho ?_
   intro ps af
   have e37:T.getD 37 undef = .bool b2:=hK.at 2
   exact j_mv e37 ⟨rfl,hW⟩
  ·have hT:T.getD 38 undef=gv true (.bool b2):=hK.at 3
   refine sg (x:= .pointer (some ⟨g,3,none⟩)) 3 38 true (some 39) (.fieldAddr 31 (.tmp 7) 3) 0 ho hT hW ?_
   intro hg he ps af
   subst he
   have e7:T.getD 7 undef = .pointer (some ⟨g,0,none⟩):=hK.old (by kernel_rfl) g7
   exact j_fa31_3 e7 ⟨rfl,hW⟩
  ·have hT:T.getD 38 undef=gv true (.bool b2):=hK.at 3
   refine sg (x:= .string ⟨n.subject.toArray⟩) 3 38 true (some 40) (.load 9 (.tmp 39)) 9 ho hT hW ?_
   intro hg he ps af
   subst he
   have e39:T.getD 39 undef = .pointer (some ⟨g,3,none⟩):=hK.at 4
   exact j_ld9 (k3 _ hW) e39 ⟨rfl,hW⟩
  ·have hT:T.getD 38 undef=gv true (.bool b2):=hK.at 3
   refine sg (x:= .string ⟨p.toArray⟩) 3 38 true (some 41) (.move (.tmp 1)) 9 ho hT hW ?_
   intro hg he ps af
   subst he
   have e1:T.getD 1 undef = .string ⟨p.toArray⟩:=hK.old (by kernel_rfl) g1
   exact j_mv e1 ⟨rfl,hW⟩
  ·have hT:T.getD 38 undef=gv true (.bool b2):=hK.at 3
   refine sg (x:= .bool b7) 3 38 true (some 42) (.binOp BinOp.eql 9 (.tmp 40) (.tmp 41) 9) 4 ho hT hW ?_
   intro hg he ps af
   subst he
   have e40:T.getD 40 undef = .string ⟨n.subject.toArray⟩:=hK.at 5
   have e41:T.getD 41 undef = .string ⟨p.toArray⟩:=hK.at 6
   exact j_eql2s e40 e41 hb7 ⟨rfl,hW⟩
  ·have hT:T.getD 38 undef=gv true (.bool b2):=hK.at 3
   refine sg (x:= .bool b7) 3 38 true (some 43) (.move (.tmp 42)) 4 ho hT hW ?_
   intro hg he ps af
   subst he
   have e42:T.getD 42 undef = .bool b7:=hK.at 7
   exact j_mv e42 ⟨rfl,hW⟩
  ·have hT:T.getD 43 undef=gv (true&&(b2 == true)) (.bool b7):=hK.at 8
   refine sg (x:= .bool own) 8 43 false (some 44) (.move (.tmp 8)) 4 ho hT hW ?_
   intro hg he ps af
   obtain rfl:b2=true:=by simpa using hg
   subst he
   have e8:T.getD 8 undef = .bool own:=hK.old (by kernel_rfl) g8
   exact j_mv e8 ⟨rfl,hW⟩
  ·have hT:T.getD 38 undef=gv true (.bool b2):=hK.at 3
   refine sg (x:= .bool b10) 3 38 true (some 45) (.pick (.tmp 43) (.const (Value.bool true)) (.tmp 44)) 4 ho hT hW ?_
   intro hg he ps af
   subst he
   have e43:T.getD 43 undef = .bool b7:=hK.at 8
   refine j_pick e43 ?_ ⟨rfl,hW⟩
   rcases Bool.eq_false_or_eq_true b7 with hx | hx
   ·rw [hx,if_pos rfl]
    simp only [hb10,hx,Bool.false_and,Bool.true_or]
    rfl
   ·have es:T.getD 44 undef=gv ((true&&(true == true))&&(b7 == false)) (.bool own):=hK.at 9
    rw [hx,if_neg (by decide)]
    refine es.trans ?_
    simp only [hb10,hx,gv,Bool.true_and,Bool.and_true,Bool.false_or,beq_self_eq_true,Bool.true_or,if_true]
  ·refine sq (x:= .bool b11) (some 46) (.pick (.tmp 38) (.tmp 45) (.const (Value.bool false))) 4 ho ?_
   intro ps af
   have e38:T.getD 38 undef = .bool b2:=hK.at 3
   refine j_pick e38 ?_ ⟨rfl,hW⟩
   rcases Bool.eq_false_or_eq_true b2 with hx | hx
   ·have es:T.getD 45 undef=gv (true&&(b2 == true)) (.bool b10):=hK.at 10
    rw [hx,if_pos rfl]
    refine es.trans ?_
    simp only [hb11,hx,gv,Bool.true_and,Bool.and_true,Bool.false_or,beq_self_eq_true,Bool.true_or,if_true]
   ·rw [hx,if_neg (by decide)]
    simp only [hb11,hx,Bool.false_and,Bool.true_or]
    rfl
 ·intro w1 hW
  have hQ:=h (.pointer (some ⟨g,9,none⟩)) (.bool n.dead) (.bool b2) (.bool b2) (gv (true&&(b2 == true)) (.pointer (some ⟨g,3,none⟩))) (gv (true&&(b2 == true)) (.string ⟨n.subject.toArray⟩)) (gv (true&&(b2 == true)) (.string ⟨p.toArray⟩)) (gv (true&&(b2 == true)) (.bool b7)) (gv (true&&(b2 == true)) (.bool b7)) (gv ((true&&(b2 == true))&&(b7 == false)) (.bool own)) (gv (true&&(b2 == true)) (.bool b10)) w1 hW
  rw [hsz]
  subst hT0
  refine cast (congrArg (fun Tx=>Q .normal ⟨Tx,ds⟩ w1) ?_) hQ
  kernel_rfl
def ownR (n:Nd)(p:Bs): Bool:=!(n.client == [])&&(([99,58]++n.client) == p)
theorem own_eq (n:Nd)(p:Bs): (n.subject == p||ownR n p)=isOfP n p:=by
 unfold isOfP ownR cIs cId
 congr 1
 by_cases h:∃r,p=99::58::r
 ·obtain⟨r,rfl⟩:=h
  have e1:Lib.hasPrefix (99::58::r) [99,58]=true:=by simp [Lib.hasPrefix,List.isPrefixOf]
  have e2:Lib.trimPrefix (99::58::r) [99,58]=r:=by unfold Lib.trimPrefix;rw [e1];rfl
  rw [e1,e2,Bool.eq_iff_iff]
  simp only [Bool.and_eq_true,Bool.not_eq_true',beq_iff_eq,beq_eq_false_iff_ne,List.cons_append,List.nil_append,List.cons.injEq,true_and,Bool.true_and,List.isEmpty_eq_false_iff]
  constructor
  ·rintro⟨h1,h2⟩;exact⟨by rw [← h2];exact h1,h2⟩
  ·rintro⟨h1,h2⟩;exact⟨by rw [h2];exact h1,h2⟩
 ·have e1:Lib.hasPrefix p [99,58]=false:=by
   cases hp:Lib.hasPrefix p [99,58] with
   |false=>rfl
   |true=>
    exfalso
    obtain⟨r,hr⟩:=List.isPrefixOf_iff_prefix.1 hp
    exact h ⟨r,by rw [← hr];rfl⟩
  have e2:(([99,58]++n.client) == p)=false:=by
   rw [beq_eq_false_iff_ne]
   intro e
   exact h ⟨n.client,by rw [← e];rfl⟩
  rw [e1,e2];simp
theorem dead_kill {n:Nd}(h:n.dead=true): killF n=n:=by
 obtain⟨a,b,c,d,e,f,g,h1,i,j,k,l,m,o,q⟩:=n
 dsimp only at h
 subst h
 rfl
def killG (p:Bs)(n:Nd): Nd:=if isOfP n p then killF n else n
set_option maxHeartbeats 16000000 in
theorem rkillOf_any {w:World}{f:Nat}{rs:List (Nd×Value×Value)}{nx:Int}(h:Xr w f rs nx)(hO:Ok (nds rs))(hl:rs.length≤1000000)(hC:∀n∈nds rs,n.client.length≤281474976710656)(p:Bs): Calls Tryz.prog 45 #[kpt f,.string ⟨p.toArray⟩] w fun e w'=>Rends w f rs (.int .i64 (killOfP (nds rs) p).1) (killOfP (nds rs) p).2 nx e w':=by
 have H:=Φ h
 obtain⟨L,hL⟩:∃L,L=nds rs:=⟨_,rfl⟩
 rw [← hL] at hO hC ⊢
 have HO:=Φ hO
 have HC:=Φ hC
 have HLL:=Φ hL
 have HLN:Hid (L.length=rs.length):=Φ (by rw [hL];simp [nds])
 obtain⟨R,hR⟩:∃R,R=killOfP L p:=⟨_,rfl⟩
 rw [← hR]
 have HR:=Φ hR
 obtain⟨N,hN⟩:∃N,N=rs.length:=⟨_,rfl⟩
 rw [← hN] at hl HLN
 have HNN:=Φ hN
 have HL:=Φ hl
 clear hR hL h hO hN hC
 unfold kpt
 go_enter Tryz.func45,Tryz.ntmps45
 go_wp2_with fail
 go_loopw [5,6] (fun cv iv wr=>∃i:Nat,i≤N∧iv = .int .i64 (i:Int)∧cv = .int .i64 ((((L.take i).filter fun n=>isOfP n p&&!n.dead).length:Nat))∧Hid (∃rsi,rsi.length=N∧Xr wr f rsi nx∧Only [f] w wr∧Ok (nds rsi)∧nds rsi=(L.take i).map (killG p)++L.drop i∧Kin rsi rs)) (fun _ iv _=>N - (intOf iv).toNat)
 case atStart=>exact⟨0,Nat.zero_le _,rfl,rfl,Φ ⟨rs,HNN.out.symm,H.out,Only.refl _ _,by rw [← HLL.out];exact HO.out,by rw [← HLL.out];rfl,Kin.refl rs⟩⟩
 case round=>
  obtain⟨i,hi,rfl,rfl,HI⟩:=hrel
  have hl:=HL.out
  by_cases hlt:i<N
  ·obtain⟨rsi,hri,hxr,hon,hoi,hni,hki⟩:=HI.out
   have hltI:(i:Int)<(N:Int):=by omega
   have hir:i<rsi.length:=by omega
   obtain⟨⟨n,sv,av⟩,hz⟩:∃z,rsi[i]'hir=z:=⟨_,rfl⟩
   have hmem:(n,sv,av)∈rsi:=hz▸List.getElem_mem hir
   obtain⟨v,h1,h2⟩:=hxr
   obtain⟨t1,t2⟩:=h2.2 _ hmem
   obtain⟨sa,sc,e1⟩:=owns_shape t1
   obtain⟨aa,ac,e2⟩:=owns_shape t2
   dsimp only at e1 e2
   subst e1 e2
   obtain⟨a,c,rfl⟩:=h2.shape
   have d0:wr.cell? ⟨f,0,none⟩=some (.slice a rsi.length c):=h1.cell 0
   obtain⟨q,rfl,hc⟩:=h2.cell hir
   have c0:wr.cell? ⟨q,i*15,none⟩=some (.int .i64 (n.id:Int)):=by have:=hc 0 (by omega);rwa [hz] at this
   have c1:wr.cell? ⟨q,i*15+1,none⟩=some (.int .i64 n.kind):=by have:=hc 1 (by omega);rwa [hz] at this
   have c2:wr.cell? ⟨q,i*15+2,none⟩=some (.int .i64 (n.parent:Int)):=by have:=hc 2 (by omega);rwa [hz] at this
   have c3:wr.cell? ⟨q,i*15+3,none⟩=some (.string ⟨n.subject.toArray⟩):=by have:=hc 3 (by omega);rwa [hz] at this
   have c4:wr.cell? ⟨q,i*15+4,none⟩=some (.string ⟨n.client.toArray⟩):=by have:=hc 4 (by omega);rwa [hz] at this
   have c5:wr.cell? ⟨q,i*15+5,none⟩=some (.string ⟨n.audience.toArray⟩):=by have:=hc 5 (by omega);rwa [hz] at this
   have c6:wr.cell? ⟨q,i*15+6,none⟩=some (.slice sa n.scope.length sc):=by have:=hc 6 (by omega);rwa [hz] at this
   have c7:wr.cell? ⟨q,i*15+7,none⟩=some (.int .i64 n.born):=by have:=hc 7 (by omega);rwa [hz] at this
   have c8:wr.cell? ⟨q,i*15+8,none⟩=some (.int .i64 n.exp):=by have:=hc 8 (by omega);rwa [hz] at this
   have c9:wr.cell? ⟨q,i*15+9,none⟩=some (.bool n.dead):=by have:=hc 9 (by omega);rwa [hz] at this
   have c10:wr.cell? ⟨q,i*15+10,none⟩=some (.bool n.spent):=by have:=hc 10 (by omega);rwa [hz] at this
   have c11:wr.cell? ⟨q,i*15+11,none⟩=some (.slice aa n.actors.length ac):=by have:=hc 11 (by omega);rwa [hz] at this
   have c12:wr.cell? ⟨q,i*15+12,none⟩=some (.int .i64 n.level):=by have:=hc 12 (by omega);rwa [hz] at this
   have c13:wr.cell? ⟨q,i*15+13,none⟩=some (.string ⟨n.secret.toArray⟩):=by have:=hc 13 (by omega);rwa [hz] at this
   have c14:wr.cell? ⟨q,i*15+14,none⟩=some (.string ⟨n.data.toArray⟩):=by have:=hc 14 (by omega);rwa [hz] at this
   have HX:=Φ (show Xr wr f rsi nx from⟨_,h1,h2⟩)
   have HM:=Φ hmem
   have HRI:=Φ (And.intro hri (And.intro hon (And.intro hoi (And.intro hni hki))))
   rw [hri] at d0
   have HN:(nds rsi)[i]'(by simpa [nds] using hir)=n:=by simp [nds,hz]
   have hLi:i<L.length:=by have:=HLN.out;omega
   have HT:Hid (L.take (i+1)=L.take i++[n]∧L.drop i=n::L.drop (i+1)):=Φ (by
    have e:L[i]=n:=by
     have h2:(nds rsi)[i]?=L[i]?:=by
      rw [hni,List.getElem?_append_right (by simp;omega)]
      simp [Nat.min_eq_left (Nat.le_of_lt hLi)]
     rw [List.getElem?_eq_getElem (by simpa [nds] using hir),List.getElem?_eq_getElem hLi] at h2
     rw [← Option.some.inj h2,HN]
    exact⟨by rw [List.take_add_one,List.getElem?_eq_getElem hLi,e];rfl,by rw [List.drop_eq_getElem_cons hLi,e]⟩)
   have HS:=Φ (fun W (hb:Below wr.heap.size wr W)=>rset_of HX.out HRI.out.2.2.1 (by rw [HRI.out.1];exact hl) HM.out mild_kill hb)
   unfold kpt inC txt at HS
   have hcl:n.client.length≤281474976710656:=HC.out n (List.mem_of_mem_take (i:=i+1) (by rw [HT.out.1];simp))
   have HCL:=Φ hcl
   obtain⟨own,hown⟩:∃b:Bool,b=((((!(n.client == [])))&&(((([99,58]++n.client) == p))))):=⟨_,rfl⟩
   obtain⟨kb,hkb⟩:∃b:Bool,b=(((!(n.dead))&&(((((n.subject == p)))||own)))):=⟨_,rfl⟩
   have HOWN:=Φ hown
   have HKB:=Φ hkb
   have HB:Hid (kb=(isOfP n p&&!n.dead)):=Φ (by
    rw [hkb,← own_eq,hown]
    show(!n.dead&&(n.subject == p||ownR n p))=_
    rw [Bool.and_comm])
   clear hc h1 h2 t1 t2 hmem hri hon hoi hni hki HI hz HN hLi hcl hown hkb hir
   go_upto_region 6 with fail
   obtain⟨w1,hw1⟩:∃x,x=wr.alloc (.cells #[.int .i64 (n.id:Int),.int .i64 n.kind,.int .i64 (n.parent:Int),.string ⟨n.subject.toArray⟩,.string ⟨n.client.toArray⟩,.string ⟨n.audience.toArray⟩,.slice sa n.scope.length sc,.int .i64 n.born,.int .i64 n.exp,.bool n.dead,.bool n.spent,.slice aa n.actors.length ac,.int .i64 n.level,.string ⟨n.secret.toArray⟩,.string ⟨n.data.toArray⟩] 31):=⟨_,rfl⟩
   rw [← hw1]
   obtain⟨g,hg⟩:∃g,g=wr.heap.size:=⟨_,rfl⟩
   rw [← hg]
   have K:Hid (Bk 31 w1 g #[.int .i64 (n.id:Int),.int .i64 n.kind,.int .i64 (n.parent:Int),.string ⟨n.subject.toArray⟩,.string ⟨n.client.toArray⟩,.string ⟨n.audience.toArray⟩,.slice sa n.scope.length sc,.int .i64 n.born,.int .i64 n.exp,.bool n.dead,.bool n.spent,.slice aa n.actors.length ac,.int .i64 n.level,.string ⟨n.secret.toArray⟩,.string ⟨n.data.toArray⟩]):=Φ (by rw [hw1];exact Bk.new hg)
   have HW:Hid (Below wr.heap.size wr w1):=Φ (by rw [hw1];go_grown)
   have HG:=Φ hg
   clear hw1 hg d0 c0 c1 c2 c3 c4 c5 c6 c7 c8 c9 c10 c11 c12 c13 c14
   refine ko6 HCL.out (g:=g) (n:=n) (p:=p) (W:=fun w2=>w2=w1) rfl rfl HOWN.out (fun w2 h=>by subst h;exact K.out.cell 4) rfl ?_
   intros
   rename_i w2 hw2
   replace hw2:=hw2.symm
   subst hw2
   go_upto_region 7 with fail
   refine ko7  (g:=g) (n:=n) (p:=p) (W:=fun w2=>w2=w1) rfl rfl rfl HKB.out (fun w2 h=>by subst h;exact K.out.cell 3) (fun w2 h=>by subst h;exact K.out.cell 9) rfl ?_
   intros
   rename_i w2 hw2
   replace hw2:=hw2.symm
   subst hw2
   cases kb with
   |false=>
    have HG2:Hid (killG p n=n):=Φ (by
     unfold killG
     split
     ·rename_i h
      refine dead_kill ?_
      have:=HB.out
      rw [h] at this
      cases hd:n.dead
      ·rw [hd] at this;cases this
      ·rfl
     ·rfl)
    go_wp2_with fail
    go_roundw
    case rel=>
     obtain⟨hri,hon,hoi,hni,hki⟩:=HRI.out
     refine⟨i+1,by omega,by go_num,by rw [HT.out.1,List.filter_append,List.length_append];simp [← HB.out],Φ ⟨rsi,hri,HX.out.below HW.out,hon.trans (Only.of HW.out) (fun x hx=> .inl hx),hoi,?_,hki⟩⟩
     rw [hni,HT.out.2,HT.out.1,List.map_append,show [n].map (killG p)=[n] by rw [List.map_singleton,HG2.out]]
     simp
    case measure=>simp [intOf];omega
   |true=>
    have HG2:Hid (killG p n=killF n):=Φ (by
     have:=HB.out
     unfold killG
     cases ho:isOfP n p
     ·rw [ho] at this;cases this
     ·rfl)
    have c9:w1.cell? ⟨g,9,none⟩=some (.bool n.dead):=K.out.cell 9
    have f9:=K.out.fro 9
    have hlf:(List.filter (fun n=>isOfP n p&&!n.dead) (List.take i L)).length≤1000000:=Nat.le_trans (List.length_filter_le _ _) (by rw [List.length_take];omega)
    obtain⟨cn,hcn⟩:∃c,c=(List.filter (fun n=>isOfP n p&&!n.dead) (List.take i L)).length:=⟨_,rfl⟩
    rw [← hcn] at hlf ⊢
    have HCN:=Φ hcn
    clear hcn
    have K2:Hid (Bk 31 (w1.setCell ⟨g,9,none⟩ (.bool true)) g #[.int .i64 (n.id:Int),.int .i64 n.kind,.int .i64 (n.parent:Int),.string ⟨n.subject.toArray⟩,.string ⟨n.client.toArray⟩,.string ⟨n.audience.toArray⟩,.slice sa n.scope.length sc,.int .i64 n.born,.int .i64 n.exp,.bool true,.bool n.spent,.slice aa n.actors.length ac,.int .i64 n.level,.string ⟨n.secret.toArray⟩,.string ⟨n.data.toArray⟩]):=Φ (Bk.same (i:=9) (v:= .bool true) K.out)
    have HW2:Hid (Below wr.heap.size wr (w1.setCell ⟨g,9,none⟩ (.bool true))):=Φ (HW.out.setCell (p:=⟨g,9,none⟩) (Nat.le_of_eq HG.out.symm) _)
    go_upto_region 10 with fail
    clear c9 f9
    generalize w1.setCell ⟨g,9,none⟩ (.bool true)=w3 at K2 HW2 ⊢
    go_wp2_with (refine wpList_load_row rfl 31 _ rfl g rfl 31 _ (0,0) _ K2.out Tryz.underlying31 rfl i31 ?_)
    refine(HS.out _ HW2.out).mono ?_
    rintro e w5 ⟨rfl,rs5,hn5,hx5,ho5,hk5⟩
    have HE:=Φ (And.intro hn5 (And.intro hx5 (And.intro ho5 hk5)))
    clear hn5 hx5 ho5 hk5
    have HEX:Hid (∃rsi,rsi.length=N∧Xr w5 f rsi nx∧Only [f] w w5∧Ok (nds rsi)∧nds rsi=(L.take (i+1)).map (killG p)++L.drop (i+1)∧Kin rsi rs):=Φ (by
     obtain⟨hri,hon,hoi,hni,hki⟩:=HRI.out
     obtain⟨hn5,hx5,ho5,hk5⟩:=HE.out
     refine⟨rs5,?_,hx5,hon.trans ho5 (fun x hx=> .inl hx),?_,?_,hk5.trans hki⟩
     ·have e1:=congrArg List.length hn5
      simp [nds,setN] at e1
      omega
     ·rw [hn5];exact hoi.map (mild_kill.set _)
     ·rw [hn5,hni,HT.out.2,setN_at (by rw [← HT.out.2,← hni];exact hoi),HT.out.1,List.map_append,List.map_singleton,HG2.out]
      simp)
    have HCC:Hid (((List.filter (fun n=>isOfP n p&&!n.dead) (List.take (i+1) L)).length)=cn+1):=Φ (by rw [HT.out.1,List.filter_append,List.length_append,HCN.out];simp [← HB.out])
    clear HE HRI HX HT HS
    go_wp2_with fail
    go_roundw
    case rel=>exact⟨i+1,by omega,by go_num,by rw [HCC.out];go_num,HEX⟩
    case measure=>simp [intOf];omega
  ·have hltI:¬(i:Int)<(N:Int):=by omega
   obtain⟨rsi,hri,hxr,hon,hoi,hni,hki⟩:=HI.out
   have HEE:=Φ (And.intro hri (And.intro hxr (And.intro hon (And.intro hni hki))))
   obtain⟨v,h1,h2⟩:=hxr
   obtain⟨a,c,rfl⟩:=h2.shape
   have d0:wr.cell? ⟨f,0,none⟩=some (.slice a rsi.length c):=h1.cell 0
   rw [hri] at d0
   have hLl:L.length≤i:=by have:=HLN.out;omega
   have HLl:=Φ hLl
   clear h1 h2 hri hon hoi hni HI hki hLl
   go_wp2_with fail
   go_ret
   rw [HR.out]
   refine⟨by unfold killOfP;rw [List.take_of_length_le HLl.out];rfl,rsi,?_,HEE.out.2.1,HEE.out.2.2.1,HEE.out.2.2.2.2⟩
   rw [HEE.out.2.2.2.1,List.take_of_length_le HLl.out,List.drop_eq_nil_of_le HLl.out,List.append_nil]
   rfl
end Go.Proofs.YthogppennalobaaGreatDoor
