/- all, rise words of mayBe -/
import Derived.Test.YthogppennalobaaGreatDoorZd07
import Derived.Test.YthogppennalobaaGreatDoorZd03
import Derived.Test.YthogppennalobaaGreatDoorZd04
set_option linter.unusedVariables false
set_option linter.unusedSimpArgs false
set_option maxRecDepth 100000
namespace Go.Proofs.YthogppennalobaaGreatDoor
open Go.RowKit Go.Sort Forest
set_option maxHeartbeats 1000000 in
theorem all104 (l:List Bs)(hs:∀s∈l,s.length≤140737488355328)(hL:l.length≤1000000)(w:World)(v:Value)(hc:Rd w v l): Calls Tryz.prog 103 #[v,.func (.func 104) #[] #[]] w fun e w'=>e = .returned (.bool (l.all scopeP))∧w'=w:=by
 have HS:=Lib.hid hs
 obtain⟨a,c,rfl,hc⟩:=hc
 have HC:=Lib.hid hc
 clear hc hs
 obtain⟨R,hR⟩:∃R,R=l.all scopeP:=⟨_,rfl⟩
 rw [← hR]
 have HR:=Lib.hid hR
 clear hR
 go_enter Tryz.func103,Tryz.ntmps103
 go_wp2_with fail
 go_loopw [9] (fun iv wr=>∃i:Nat,i≤l.length∧iv = .int .i64 (i:Int)∧wr=w∧Hid ((l.take i).all scopeP=true)) (fun iv _=>l.length - (intOf iv).toNat)
 case atStart=>exact⟨0,Nat.zero_le _,rfl,rfl,Lib.hid rfl⟩
 case round=>
  obtain⟨i,hi,rfl,rfl,HI⟩:=hrel
  by_cases hlt:i<l.length
  ·obtain⟨s,hse⟩:∃s,l[i]'hlt=s:=⟨_,rfl⟩
   obtain⟨b,o,rfl,c0⟩:=HC.out i hlt
   have c1:wr.cell? ⟨b,o+i,none⟩=some (.string ⟨s.toArray⟩):=by rw [c0,hse];rfl
   have HK:=Lib.hid (scope_any s (HS.out s (hse▸List.getElem_mem hlt)) wr)
   have hltI:(i:Int)<(l.length:Int):=by omega
   have HT:Hid ((l.take (i+1)).all scopeP=((l.take i).all scopeP&&scopeP s)):=Lib.hid (by rw [List.take_add_one,List.getElem?_eq_getElem hlt,hse,List.all_append];simp)
   have HW:Hid (scopeP s=false→l.all scopeP=false):=Lib.hid (fun h=>by
    rw [← Bool.not_eq_true,List.all_eq_true]
    intro ha
    have:=ha s (hse▸List.getElem_mem hlt)
    rw [h] at this
    cases this)
   clear c0 hse
   cases hp:scopeP s with
   |true=>
    rw [hp] at HK HT
    clear hp HW
    go_wp2_with fail
    refine HK.out.mono ?_
    rintro e w2 ⟨rfl,rfl⟩
    go_wp2_with fail
    go_roundw
    case rel=>exact⟨i+1,by omega,by go_num,trivial,Lib.hid (by rw [HT.out,HI.out];rfl)⟩
    case measure=>simp [intOf];omega
   |false=>
    rw [hp] at HK
    have HW2:=Lib.hid (HW.out hp)
    clear hp HW HT
    go_wp2_with fail
    refine HK.out.mono ?_
    rintro e w2 ⟨rfl,rfl⟩
    go_wp2_with fail
    go_ret
    exact⟨by rw [HR.out,HW2.out];rfl,rfl⟩
  ·have hie:i=l.length:=by omega
   have hltI:¬(i:Int)<(l.length:Int):=by omega
   have HA:Hid (l.all scopeP=true):=Lib.hid (by have:=HI.out;rwa [hie,List.take_length] at this)
   go_wp2_with fail
   go_ret
   exact⟨by rw [HR.out,HA.out];rfl,rfl⟩
set_option maxHeartbeats 1000000 in
theorem all100 (l:List Bs)(hs:∀s∈l,s.length≤140737488355328)(hL:l.length≤1000000)(w:World)(v:Value)(hc:Rd w v l): Calls Tryz.prog 103 #[v,.func (.func 100) #[] #[]] w fun e w'=>e = .returned (.bool (l.all prinP))∧w'=w:=by
 have HS:=Lib.hid hs
 obtain⟨a,c,rfl,hc⟩:=hc
 have HC:=Lib.hid hc
 clear hc hs
 obtain⟨R,hR⟩:∃R,R=l.all prinP:=⟨_,rfl⟩
 rw [← hR]
 have HR:=Lib.hid hR
 clear hR
 go_enter Tryz.func103,Tryz.ntmps103
 go_wp2_with fail
 go_loopw [9] (fun iv wr=>∃i:Nat,i≤l.length∧iv = .int .i64 (i:Int)∧wr=w∧Hid ((l.take i).all prinP=true)) (fun iv _=>l.length - (intOf iv).toNat)
 case atStart=>exact⟨0,Nat.zero_le _,rfl,rfl,Lib.hid rfl⟩
 case round=>
  obtain⟨i,hi,rfl,rfl,HI⟩:=hrel
  by_cases hlt:i<l.length
  ·obtain⟨s,hse⟩:∃s,l[i]'hlt=s:=⟨_,rfl⟩
   obtain⟨b,o,rfl,c0⟩:=HC.out i hlt
   have c1:wr.cell? ⟨b,o+i,none⟩=some (.string ⟨s.toArray⟩):=by rw [c0,hse];rfl
   have HK:=Lib.hid (prin_any s (HS.out s (hse▸List.getElem_mem hlt)) wr)
   have hltI:(i:Int)<(l.length:Int):=by omega
   have HT:Hid ((l.take (i+1)).all prinP=((l.take i).all prinP&&prinP s)):=Lib.hid (by rw [List.take_add_one,List.getElem?_eq_getElem hlt,hse,List.all_append];simp)
   have HW:Hid (prinP s=false→l.all prinP=false):=Lib.hid (fun h=>by
    rw [← Bool.not_eq_true,List.all_eq_true]
    intro ha
    have:=ha s (hse▸List.getElem_mem hlt)
    rw [h] at this
    cases this)
   clear c0 hse
   cases hp:prinP s with
   |true=>
    rw [hp] at HK HT
    clear hp HW
    go_wp2_with fail
    refine HK.out.mono ?_
    rintro e w2 ⟨rfl,rfl⟩
    go_wp2_with fail
    go_roundw
    case rel=>exact⟨i+1,by omega,by go_num,trivial,Lib.hid (by rw [HT.out,HI.out];rfl)⟩
    case measure=>simp [intOf];omega
   |false=>
    rw [hp] at HK
    have HW2:=Lib.hid (HW.out hp)
    clear hp HW HT
    go_wp2_with fail
    refine HK.out.mono ?_
    rintro e w2 ⟨rfl,rfl⟩
    go_wp2_with fail
    go_ret
    exact⟨by rw [HR.out,HW2.out];rfl,rfl⟩
  ·have hie:i=l.length:=by omega
   have hltI:¬(i:Int)<(l.length:Int):=by omega
   have HA:Hid (l.all prinP=true):=Lib.hid (by have:=HI.out;rwa [hie,List.take_length] at this)
   go_wp2_with fail
   go_ret
   exact⟨by rw [HR.out,HA.out];rfl,rfl⟩
def leB (a b:Bs): Bool:=Op.bytesLess a b||a == b
def upAt (l:List Bs)(i:Nat): Bool:=i == 0||!leB (l.getD i []) (l.getD (i - 1) [])
def riseP (l:List Bs): Bool:=(List.range l.length).all (upAt l)
theorem riseP_no {l:List Bs}{i:Nat}(hi:i<l.length)(h:upAt l i=false): riseP l=false:=by
 rw [← Bool.not_eq_true]
 unfold riseP
 rw [List.all_eq_true]
 intro ha
 have:=ha i (List.mem_range.2 hi)
 rw [h] at this
 cases this
theorem range_all (p:Nat→Bool)(i:Nat): (List.range (i+1)).all p=((List.range i).all p&&p i):=by
 rw [List.range_succ,List.all_append]
 simp
set_option maxHeartbeats 1000000 in
theorem rise_any (l:List Bs)(hL:l.length≤1000000)(w:World)(v:Value)(hc:Rd w v l): Calls Tryz.prog 105 #[v] w fun e w'=>e = .returned (.bool (riseP l))∧∃q,w'=w.drewN q:=by
 obtain⟨a,c,rfl,hc⟩:=hc
 have HC:=Lib.hid hc
 clear hc
 obtain⟨R,hR⟩:∃R,R=riseP l:=⟨_,rfl⟩
 rw [← hR]
 have HR:=Lib.hid hR
 clear hR
 go_enter Tryz.func105,Tryz.ntmps105
 go_wp2_with fail
 go_loopw [6] (fun iv wr=>∃i:Nat,i≤l.length∧iv = .int .i64 (i:Int)∧Hid (∃q,wr=w.drewN q)∧Hid ((List.range i).all (upAt l)=true)) (fun iv _=>l.length - (intOf iv).toNat)
 case atStart=>exact⟨0,Nat.zero_le _,rfl,Lib.hid ⟨0,rfl⟩,Lib.hid rfl⟩
 case round=>
  obtain⟨i,hi,rfl,HQ,HI⟩:=hrel
  by_cases hlt:i<l.length
  ·obtain⟨s,hse⟩:∃s,l[i]'hlt=s:=⟨_,rfl⟩
   obtain⟨b,o,rfl,c0⟩:=HC.out i hlt
   have hltI:(i:Int)<(l.length:Int):=by omega
   have HT:=Lib.hid (range_all (upAt l) i)
   have HNo:=Lib.hid (riseP_no (l:=l) hlt)
   by_cases h0:(0:Int)<(i:Int)
   ·obtain⟨r,hre⟩:∃r,l[i - 1]'(by omega)=r:=⟨_,rfl⟩
    have HU:Hid (upAt l i = !leB s r):=Lib.hid (by
     unfold upAt
     rw [show(i == 0)=false by simp;omega,List.getD_eq_getElem?_getD,List.getD_eq_getElem?_getD,List.getElem?_eq_getElem hlt,List.getElem?_eq_getElem (show i - 1<l.length by omega),hse,hre]
     rfl)
    have c1:wr.cell? ⟨b,o+i,none⟩=some (.string ⟨s.toArray⟩):=by
     obtain⟨q,rfl⟩:=HQ.out
     show w.cell? _=_
     rw [c0,hse];rfl
    have c2:wr.cell? ⟨b,o+(i - 1),none⟩=some (.string ⟨r.toArray⟩):=by
     obtain⟨b',o',h1,h2⟩:=HC.out (i - 1) (by omega)
     cases h1
     obtain⟨q,rfl⟩:=HQ.out
     show w.cell? _=_
     rw [h2,hre];rfl
    obtain⟨d,hd⟩:∃d,leB s r=d:=⟨_,rfl⟩
    have hd2:(Op.bytesLess s r||s == r)=d:=hd
    rw [hd] at HU
    obtain⟨i0,rfl⟩:∃i0,i=i0+1:=⟨i - 1,by omega⟩
    have hm:((i0:Int)+1 - 1)=i0:=by omega
    have hm1:(i0:Int)<(l.length:Int):=by omega
    simp only [Nat.add_sub_cancel] at c2
    clear c0 hse hre hd
    go_wp2_with fail
    refine wp_region_quiet_lit (by kernel_rfl) (by kernel_rfl) ?_
    iterate 14 go_big_quiet_step (fail)
    refine wpQuiet_nil ?_
    intro w2 hw'
    have HQ2:Hid (∃q,w2=w.drewN q):=Lib.hid (by
     obtain⟨n,rfl⟩:=hw'
     obtain⟨q,rfl⟩:=HQ.out
     exact⟨q+n,by simp [World.drewN];omega⟩)
    clear hw'
    cases d with
    |true=>
     have HA:Hid (riseP l=false):=Lib.hid (HNo.out (by rw [HU.out];rfl))
     go_wp2_with fail
     go_ret
     exact⟨by rw [HR.out,HA.out];rfl,HQ2.out⟩
    |false=>
     go_wp2_with fail
     go_roundw
     case rel=>exact⟨i0+1+1,by omega,by go_num,HQ2,Lib.hid (by rw [HT.out,HI.out,HU.out];rfl)⟩
     case measure=>simp [intOf];omega
   ·have hi0:i=0:=by omega
    subst hi0
    clear c0 hse h0
    have hltI2:(0:Int)<(l.length:Int):=by omega
    go_wp2_with fail
    refine wp_region_quiet_lit (by kernel_rfl) (by kernel_rfl) ?_
    iterate 14 go_big_quiet_step (fail)
    refine wpQuiet_nil ?_
    intro w2 hw'
    have HQ2:Hid (∃q,w2=w.drewN q):=Lib.hid (by
     obtain⟨n,rfl⟩:=hw'
     obtain⟨q,rfl⟩:=HQ.out
     exact⟨q+n,by simp [World.drewN];omega⟩)
    clear hw'
    go_wp2_with fail
    go_roundw
    case rel=>exact⟨0+1,by omega,by go_num,HQ2,Lib.hid (by rw [HT.out,HI.out];rfl)⟩
    case measure=>simp [intOf];omega
  ·have hie:i=l.length:=by omega
   have hltI:¬(i:Int)<(l.length:Int):=by omega
   have HA:Hid (riseP l=true):=Lib.hid (by have:=HI.out;rw [hie] at this;exact this)
   go_wp2_with fail
   go_ret
   exact⟨by rw [HR.out,HA.out];rfl,HQ.out⟩
end Go.Proofs.YthogppennalobaaGreatDoor
namespace Go.Proofs.YthogppennalobaaGreatDoor
open Go.RowKit Go.Sort Forest
structure Mid (n:Nd): Prop where
 subject:n.subject.length≤140737488355328
 client:n.client.length≤140737488355328
 audience:n.audience.length≤140737488355328
 scope:∀s∈n.scope,s.length≤140737488355328
 actors:∀s∈n.actors,s.length≤140737488355328
 secret:n.secret.length≤140737488355328
 data:n.data.length≤140737488355328
def mayP (p:Int)(n:Nd): Bool:=decide (1≤n.kind)&&decide (n.kind<6)&&decide (0≤p)&&prinP n.subject&&(n.client == []||nameP n.client)&&(n.audience == []||textP n.audience)&&decide ((n.scope.length:Int)≤16)&&n.scope.all scopeP&&riseP n.scope&&isTimeP n.born&&isTimeP n.exp&&decide ((n.actors.length:Int)≤4)&&n.actors.all prinP&&decide (0≤n.level)&&decide (n.level≤3)&&!(n.secret == [])&&decide ((n.secret.length:Int)≤64)&&decide ((n.data.length:Int)≤256)
theorem may_no2 {p:Int}{n:Nd}(h:(decide (0≤p))=false): mayP p n=false:=by
 unfold mayP
 rw [h]
 simp only [Bool.and_false,Bool.false_and]
theorem may_no6 {p:Int}{n:Nd}(h:(decide ((n.scope.length:Int)≤16))=false): mayP p n=false:=by
 unfold mayP
 rw [h]
 simp only [Bool.and_false,Bool.false_and]
theorem may_no11 {p:Int}{n:Nd}(h:(decide ((n.actors.length:Int)≤4))=false): mayP p n=false:=by
 unfold mayP
 rw [h]
 simp only [Bool.and_false,Bool.false_and]
end Go.Proofs.YthogppennalobaaGreatDoor
