/- the document: Rises -/
import Derived.Test.YthogppennalobaaGreatDoorZg06
import Derived.Test.YthogppennalobaaGreatDoorZg13
set_option linter.unusedVariables false
set_option linter.unusedSimpArgs false
set_option maxRecDepth 100000
namespace Go.Proofs.YthogppennalobaaGreatDoor
open Go.RowKit Go.Sort Forest Pl
open Go.Lib renaming hid→Φ
theorem rises_split (l:List Bs)(most:Int): ∀R,R=(l.all scopeP&&riseP l&&decide ((l.length:Int)≤most))→(∀i,i<l.length→(∀s,l[i]?=some s→scopeP s=false)→R=false)∧(∀i,i<l.length→upAt l i=false→R=false):=by
 intro R hR
 refine⟨fun i hi h=>?_,fun i hi h=>?_⟩
 ·have:l.all scopeP=false:=by
   rw [← Bool.not_eq_true,List.all_eq_true]
   intro ha
   have h1:=ha _ (List.getElem_mem hi)
   rw [h _ (List.getElem?_eq_getElem hi)] at h1
   cases h1
  rw [hR,this];rfl
 ·rw [hR,riseP_no hi h,Bool.and_false,Bool.false_and]
set_option maxHeartbeats 4000000 in
theorem rrises_any (l:List Bs)(hs:∀s∈l,s.length≤140737488355328)(hL:l.length≤140737488355328)(most:Int)(w:World)(v:Value)(hc:Rd w v l): Calls Tryz.prog 116 #[v,.int .i64 most,.int .i64 1] w fun e w'=>e = .returned (.bool (l.all scopeP&&riseP l&&decide ((l.length:Int)≤most)))∧∃q,w'=w.drewN q:=by
 have HS:=Φ hs
 obtain⟨a,c,rfl,hc⟩:=hc
 have HC:=Φ hc
 clear hc hs
 obtain⟨R,hR⟩:∃R,R=(l.all scopeP&&riseP l&&decide ((l.length:Int)≤most)):=⟨_,rfl⟩
 rw [← hR]
 have HR:=Φ hR
 have HN:=Φ (rises_split l most R hR)
 clear hR
 go_enter Tryz.func116,Tryz.ntmps116
 go_wp2_with fail
 go_loopw [7] (fun iv wr=>∃i:Nat,i≤l.length∧iv = .int .i64 (i:Int)∧Hid (∃q,wr=w.drewN q)∧Hid ((List.range i).all (upAt l)=true∧(l.take i).all scopeP=true)) (fun iv _=>l.length - (intOf iv).toNat)
 case atStart=>exact⟨0,Nat.zero_le _,rfl,Φ ⟨0,rfl⟩,Φ ⟨rfl,rfl⟩⟩
 case round=>
  obtain⟨i,hi,rfl,HQ,HI⟩:=hrel
  by_cases hlt:i<l.length
  ·obtain⟨s,hse⟩:∃s,l[i]'hlt=s:=⟨_,rfl⟩
   obtain⟨b,o,rfl,c0⟩:=HC.out i hlt
   have hltI:(i:Int)<(l.length:Int):=by omega
   have HK:=Φ (fun W=>rscope_any s (HS.out s (hse▸List.getElem_mem hlt)) W)
   have HT:Hid ((l.take (i+1)).all scopeP=((l.take i).all scopeP&&scopeP s)):=Φ (by rw [List.take_add_one,List.getElem?_eq_getElem hlt,hse,List.all_append];simp)
   have HU:=Φ (range_all (upAt l) i)
   have HN1:Hid (scopeP s=false→R=false):=Φ (fun h=>HN.out.1 i hlt fun s' h'=>by
    rw [List.getElem?_eq_getElem hlt,hse] at h'
    cases h'
    exact h)
   have HN2:Hid (upAt l i=false→R=false):=Φ (fun h=>HN.out.2 i hlt h)
   have c1:wr.cell? ⟨b,o+i,none⟩=some (.string ⟨s.toArray⟩):=by
    obtain⟨q,rfl⟩:=HQ.out
    show w.cell? _=_
    rw [c0,hse];rfl
   clear HN
   cases hp:scopeP s with
   |false=>
    rw [hp] at HK
    have HF:=Φ (HN1.out hp)
    clear hp c0 hse HT HU HN1 HN2
    go_wp2_with fail
    refine wp_region_quiet_lit (by kernel_rfl) (by kernel_rfl) ?_
    iterate 38 go_big_quiet_step ((go_at_call 140;exact Calls.quiet_of_same (HK.out _)))
    refine wpQuiet_nil ?_
    intro w2 hw'
    have HQ2:Hid (∃q,w2=w.drewN q):=Φ (by
     obtain⟨n,rfl⟩:=hw'
     obtain⟨q,rfl⟩:=HQ.out
     exact⟨q+n,by simp [World.drewN];omega⟩)
    clear hw'
    go_wp2_with fail
    go_ret
    exact⟨by rw [HF.out];rfl,HQ2.out⟩
   |true=>
    rw [hp] at HK HT
    clear hp HN1
    by_cases h0:(0:Int)<(i:Int)
    ·obtain⟨r,hre⟩:∃r,l[i - 1]'(by omega)=r:=⟨_,rfl⟩
     have HUU:Hid (upAt l i = !leB s r):=Φ (by
      unfold upAt
      rw [show(i == 0)=false by simp;omega,List.getD_eq_getElem?_getD,List.getD_eq_getElem?_getD,List.getElem?_eq_getElem hlt,List.getElem?_eq_getElem (show i - 1<l.length by omega),hse,hre]
      rfl)
     have c2:wr.cell? ⟨b,o+(i - 1),none⟩=some (.string ⟨r.toArray⟩):=by
      obtain⟨b',o',h1,h2⟩:=HC.out (i - 1) (by omega)
      cases h1
      obtain⟨q,rfl⟩:=HQ.out
      show w.cell? _=_
      rw [h2,hre];rfl
     obtain⟨d,hd⟩:∃d,leB s r=d:=⟨_,rfl⟩
     have hd2:(Op.bytesLess s r||s == r)=d:=hd
     rw [hd] at HUU
     obtain⟨i0,rfl⟩:∃i0,i=i0+1:=⟨i - 1,by omega⟩
     have hm:((i0:Int)+1 - 1)=i0:=by omega
     have hm1:(i0:Int)<(l.length:Int):=by omega
     simp only [Nat.add_sub_cancel] at c2
     clear c0 hse hre hd
     go_wp2_with fail
     refine wp_region_quiet_lit (by kernel_rfl) (by kernel_rfl) ?_
     iterate 38 go_big_quiet_step ((go_at_call 140;exact Calls.quiet_of_same (HK.out _)))
     refine wpQuiet_nil ?_
     intro w2 hw'
     have HQ2:Hid (∃q,w2=w.drewN q):=Φ (by
      obtain⟨n,rfl⟩:=hw'
      obtain⟨q,rfl⟩:=HQ.out
      exact⟨q+n,by simp [World.drewN];omega⟩)
     clear hw'
     cases d with
     |true=>
      have HF:=Φ (HN2.out (by rw [HUU.out];rfl))
      go_wp2_with fail
      go_ret
      exact⟨by rw [HF.out];rfl,HQ2.out⟩
     |false=>
      go_wp2_with fail
      go_roundw
      case rel=>exact⟨i0+1+1,by omega,by go_num,HQ2,Φ ⟨by rw [HU.out,HI.out.1,HUU.out];rfl,by rw [HT.out,HI.out.2];rfl⟩⟩
      case measure=>simp [intOf];omega
    ·have hi0:i=0:=by omega
     subst hi0
     clear c0 hse h0
     simp only [Nat.add_zero] at c1
     have hltI2:(0:Int)<(l.length:Int):=by omega
     go_wp2_with fail
     refine wp_region_quiet_lit (by kernel_rfl) (by kernel_rfl) ?_
     iterate 38 go_big_quiet_step ((go_at_call 140;exact Calls.quiet_of_same (HK.out _)))
     refine wpQuiet_nil ?_
     intro w2 hw'
     have HQ2:Hid (∃q,w2=w.drewN q):=Φ (by
      obtain⟨n,rfl⟩:=hw'
      obtain⟨q,rfl⟩:=HQ.out
      exact⟨q+n,by simp [World.drewN];omega⟩)
     clear hw'
     go_wp2_with fail
     go_roundw
     case rel=>exact⟨0+1,by omega,by go_num,HQ2,Φ ⟨by rw [HU.out,HI.out.1];rfl,by rw [HT.out,HI.out.2];rfl⟩⟩
     case measure=>simp [intOf];omega
  ·have hie:i=l.length:=by omega
   have hltI:¬(i:Int)<(l.length:Int):=by omega
   have HA:Hid (R=decide ((l.length:Int)≤most)):=Φ (by
    have h:=HI.out
    rw [hie,List.take_length] at h
    rw [HR.out,h.2,show riseP l=true from h.1];rfl)
   go_wp2_with fail
   go_ret
   exact⟨by rw [HA.out];rfl,HQ.out⟩
end Go.Proofs.YthogppennalobaaGreatDoor
