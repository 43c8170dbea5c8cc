/- the document: Lift -/
import Derived.Test.YthogppennalobaaGreatDoorZg23
set_option linter.unusedVariables false
set_option linter.unusedSimpArgs false
set_option maxRecDepth 100000
namespace Go.Proofs.YthogppennalobaaGreatDoor
open Go.RowKit Go.Sort Forest
open Go.Lib renaming hid→Φ
set_option maxHeartbeats 16000000 in
theorem rlift_any {w:World}{f:Nat}{rs:List (Nd×Value×Value)}{nx:Int}(h:Xr w f rs nx)(hO:Ok (nds rs))(hl:rs.length≤1000000)(x lev:Int): Calls Tryz.prog 47 #[kpt f,.int .i64 x,.int .i64 lev] w fun e w'=>Rends w f rs (.int .i64 (liftP (nds rs) x lev).1) (liftP (nds rs) x lev).2 nx e w':=by
 have hc:=rget_cases h hO hl x
 have H:=Φ h
 obtain⟨R,hR⟩:∃R,R=liftP (nds rs) x lev:=⟨_,rfl⟩
 rw [← hR]
 have HR:=Φ hR
 clear hR
 rcases hc with ⟨hf,hg⟩ | ⟨n,hn,hf,hx,sa,sc,aa,ac,hm,hg⟩
 ·have HA:Hid (R=(131,nds rs)):=Φ (by rw [HR.out];unfold liftP;rw [hf])
  have HG:=Φ (hg w (Below.refl _ _))
  clear hf hg h
  unfold kpt zeroN at *
  go_enter Tryz.func47,Tryz.ntmps47
  go_wp2_with fail
  refine HG.out.mono ?_
  rintro e w2 ⟨rfl,hb⟩
  have HB2:=Φ hb
  clear hb HG
  go_wp2_with (refine wpList_put rfl 31 _ _ rfl w2.heap.size zeroN zeroN rfl rfl (Bk.new rfl) i31 rfl (one15 0 0 ⟨0,0,0,[],[],[],[],0,0,false,false,[],0,[],[]⟩ none none 0 0 0 0) ?_)
  go_ret
  have hb3:=below_row (cs:=zeroN) (HB2.out.trans (by have:=HB2.out.size;go_grown):Below w.heap.size w (w2.alloc (.cells zeroN 31))) HB2.out.size
  rw [HA.out]
  exact⟨rfl,rs,rfl,H.out.below hb3,Only.of hb3,Kin.refl rs⟩
 ·have HG:=Φ (hg w (Below.refl _ _))
  have HM:=Φ hm
  have HNM:=Φ hn
  have HFI:=Φ hf
  clear hg hn hm h
  subst hx
  clear hf
  unfold inC txt at HG
  have HAN:Hid (¬(n.kind=1∧1≤lev∧lev≤3)→R=(131,nds rs)):=Φ (fun h=>by rw [HR.out];unfold liftP;rw [HFI.out];dsimp only;rw [if_neg h])
  by_cases h1:n.kind=1
  ·by_cases h2:1≤lev
   ·by_cases h3:lev≤3
    ·have HAY:Hid (R=(0,setN (nds rs) n.id (liftF lev))):=Φ (by rw [HR.out];unfold liftP;rw [HFI.out];dsimp only;rw [if_pos ⟨h1,h2,h3⟩])
     by_cases h4:n.level<lev
     ·have HS:=Φ (fun W (hb:Below w.heap.size w W)=>rset_of H.out hO hl HM.out (mild_lift lev) hb)
      have e:liftF lev n={n with level:=lev}:=by unfold liftF;rw [Int.max_eq_right (by omega)]
      rw [e] at HS
      have HA:=HAY
      clear e
      unfold kpt inC txt at HS
      dsimp only at HS
      rw [h1] at HG HS
      clear h1
      unfold kpt at *
      go_enter Tryz.func47,Tryz.ntmps47
      go_wp2_with fail
      refine HG.out.mono ?_
      rintro e w2 ⟨rfl,hb⟩
      have HB2:=Φ hb
      clear hb HG
      go_wp2_with fail
      refine(HS.out _ (HB2.out.trans (by have:=HB2.out.size;go_grown))).mono ?_
      rintro e w5 ⟨rfl,hrs⟩
      have HE:=Φ hrs
      clear hrs
      go_wp2_with fail
      go_ret
      rw [HA.out]
      exact⟨rfl,HE.out⟩
     ·have HA:Hid (R=(0,nds rs)):=Φ (by rw [HAY.out,setN_id hO HNM.out (by unfold liftF;rw [Int.max_eq_left (by omega)])])
      rw [h1] at HG
      clear h1
      unfold kpt at *
      go_enter Tryz.func47,Tryz.ntmps47
      go_wp2_with fail
      refine HG.out.mono ?_
      rintro e w2 ⟨rfl,hb⟩
      have HB2:=Φ hb
      clear hb HG
      go_wp2_with fail
      go_ret
      rw [HA.out]
      refine⟨rfl,rs,rfl,H.out.below ?_,Only.of ?_,Kin.refl rs⟩<;>exact HB2.out.trans (by have:=HB2.out.size;go_grown)
    ·have HA:=Φ (HAN.out (fun h=>h3 h.2.2))
     rw [h1] at HG
     clear h1
     unfold kpt at *
     go_enter Tryz.func47,Tryz.ntmps47
     go_wp2_with fail
     refine HG.out.mono ?_
     rintro e w2 ⟨rfl,hb⟩
     have HB2:=Φ hb
     clear hb HG
     go_wp2_with fail
     go_ret
     rw [HA.out]
     refine⟨rfl,rs,rfl,H.out.below ?_,Only.of ?_,Kin.refl rs⟩<;>exact HB2.out.trans (by have:=HB2.out.size;go_grown)
   ·have HA:=Φ (HAN.out (fun h=>h2 h.2.1))
    rw [h1] at HG
    clear h1
    unfold kpt at *
    go_enter Tryz.func47,Tryz.ntmps47
    go_wp2_with fail
    refine HG.out.mono ?_
    rintro e w2 ⟨rfl,hb⟩
    have HB2:=Φ hb
    clear hb HG
    go_wp2_with fail
    go_ret
    rw [HA.out]
    refine⟨rfl,rs,rfl,H.out.below ?_,Only.of ?_,Kin.refl rs⟩<;>exact HB2.out.trans (by have:=HB2.out.size;go_grown)
  ·have HA:=Φ (HAN.out (fun h=>h1 h.1))
   have q0:(n.kind != 1)=true:=by simpa using h1
   clear h1
   unfold kpt at *
   go_enter Tryz.func47,Tryz.ntmps47
   go_wp2_with fail
   refine HG.out.mono ?_
   rintro e w2 ⟨rfl,hb⟩
   have HB2:=Φ hb
   clear hb HG
   go_wp2_with fail
   go_ret
   rw [HA.out]
   refine⟨rfl,rs,rfl,H.out.below ?_,Only.of ?_,Kin.refl rs⟩<;>exact HB2.out.trans (by have:=HB2.out.size;go_grown)
end Go.Proofs.YthogppennalobaaGreatDoor
