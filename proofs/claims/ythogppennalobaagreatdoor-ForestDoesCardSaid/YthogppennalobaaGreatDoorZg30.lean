/- The reader of a row -/
import Derived.Test.YthogppennalobaaGreatDoorZg29
set_option linter.unusedVariables false
set_option linter.unusedSimpArgs false
set_option maxRecDepth 100000
namespace Go.Proofs.YthogppennalobaaGreatDoor
open Go.RowKit Go.Sort Forest OwnR TxO Pl
open Go.Lib renaming hid→Φ
set_option maxHeartbeats 8000000 in
theorem does_other (d:OpD)(sv av:Value)(hk:d.kind≠0∧d.kind≠1∧d.kind≠2∧d.kind≠3∧d.kind≠4∧d.kind≠5∧d.kind≠6∧d.kind≠7){w0 w:World}{f g:Nat}{l m:List Nd}{x y:Int}(h:Two w0 w f g l m x y): Calls Tryz.prog 15 #[kpt f,kpt g,.agg (opC d sv av)] w fun e w'=>Did w0 w f g l m x y d e w':=by
 have HS:Hid (stepP l x d=(l,x)∧stepP m y d=(m,y)):=Φ (by
  obtain⟨h0,h1,h2,h3,h4,h5,h6,h7⟩:=hk
  unfold stepP
  simp [h0,h2,h3,h4,h5,h6,h7])
 have K1:Hid (Bk 33 (w.alloc (.cells #[.int .i64 d.on,.int .i64 d.kind,.int .i64 d.a,.int .i64 d.b,.string ⟨d.s.toArray⟩,.int .i64 d.i,.int .i64 d.n.kind,.int .i64 d.p,.string ⟨d.n.subject.toArray⟩,.string ⟨d.n.client.toArray⟩,.string ⟨d.n.audience.toArray⟩,sv,.int .i64 d.n.born,.int .i64 d.n.exp,.bool d.n.dead,.bool d.n.spent,av,.int .i64 d.n.level,.string ⟨d.n.secret.toArray⟩,.string ⟨d.n.data.toArray⟩] 33)) w.heap.size #[.int .i64 d.on,.int .i64 d.kind,.int .i64 d.a,.int .i64 d.b,.string ⟨d.s.toArray⟩,.int .i64 d.i,.int .i64 d.n.kind,.int .i64 d.p,.string ⟨d.n.subject.toArray⟩,.string ⟨d.n.client.toArray⟩,.string ⟨d.n.audience.toArray⟩,sv,.int .i64 d.n.born,.int .i64 d.n.exp,.bool d.n.dead,.bool d.n.spent,av,.int .i64 d.n.level,.string ⟨d.n.secret.toArray⟩,.string ⟨d.n.data.toArray⟩]):=Φ (Bk.new rfl)
 have T1:Hid (Two w0 (w.alloc (.cells #[.int .i64 d.on,.int .i64 d.kind,.int .i64 d.a,.int .i64 d.b,.string ⟨d.s.toArray⟩,.int .i64 d.i,.int .i64 d.n.kind,.int .i64 d.p,.string ⟨d.n.subject.toArray⟩,.string ⟨d.n.client.toArray⟩,.string ⟨d.n.audience.toArray⟩,sv,.int .i64 d.n.born,.int .i64 d.n.exp,.bool d.n.dead,.bool d.n.spent,av,.int .i64 d.n.level,.string ⟨d.n.secret.toArray⟩,.string ⟨d.n.data.toArray⟩] 33)) f g l m x y):=Φ (h.down (by go_grown))
 have k0:(d.kind == 0)=false:=beq_eq_false_iff_ne.2 (hk.1)
 have k1:(d.kind == 1)=false:=beq_eq_false_iff_ne.2 (hk.2.1)
 have k2:(d.kind == 2)=false:=beq_eq_false_iff_ne.2 (hk.2.2.1)
 have k3:(d.kind == 3)=false:=beq_eq_false_iff_ne.2 (hk.2.2.2.1)
 have k4:(d.kind == 4)=false:=beq_eq_false_iff_ne.2 (hk.2.2.2.2.1)
 have k5:(d.kind == 5)=false:=beq_eq_false_iff_ne.2 (hk.2.2.2.2.2.1)
 have k6:(d.kind == 6)=false:=beq_eq_false_iff_ne.2 (hk.2.2.2.2.2.2.1)
 have k7:(d.kind == 7)=false:=beq_eq_false_iff_ne.2 (hk.2.2.2.2.2.2.2)
 clear h hk
 unfold opC kpt
 go_enter Tryz.func15,Tryz.ntmps15
 go_wp2_with fail
 go_ret
 unfold Did
 rw [HS.out.1,HS.out.2]
 exact⟨true,rfl,T1.out,fun _ _=>rfl,(KeepM.of (f:=f) (g:=g) (by go_grown)).did⟩
set_option maxHeartbeats 4000000 in
theorem numsame_any (l m:List Int)(hl:l.length≤1000000000)(hm:m.length≤1000000000)(w:World)(v u:Value)(h1:Ri w v l)(h2:Ri w u m): Calls Tryz.prog 40 #[v,u] w fun e w'=>e = .returned (.bool (l == m))∧Below w.heap.size w w':=by
 obtain⟨a,c,rfl,h1⟩:=h1
 obtain⟨b,d,rfl,h2⟩:=h2
 have H1:=Φ h1
 have H2:=Φ h2
 have HL:=Φ hl
 clear h1 h2 hl hm
 by_cases hn:l.length=m.length
 ·obtain⟨R,hR⟩:∃R,R=(l == m):=⟨_,rfl⟩
  rw [← hR]
  have HR:=Φ hR
  have HN:=Φ hn
  obtain⟨N,hN⟩:∃N,N=l.length:=⟨_,rfl⟩
  have HM:=Φ hN
  rw [← hn,← hN]
  clear hR hn hN
  go_enter Tryz.func40,Tryz.ntmps40
  go_wp2_with fail
  go_loopw [5] (fun iv wr=>∃i:Nat,i≤N∧iv = .int .i64 (i:Int)∧Hid (Below w.heap.size w wr)∧Hid (l.take i=m.take i)) (fun iv _=>N - (intOf iv).toNat)
  case atStart=>exact⟨0,Nat.zero_le _,rfl,Φ (Below.refl _ _),Φ rfl⟩
  case round=>
   obtain⟨i,hi,rfl,HQ,HI⟩:=hrel
   by_cases hlt:i<N
   ·have hlt1:i<l.length:=by rw [← HM.out];exact hlt
    have hlt2:i<m.length:=by rw [← HN.out];exact hlt1
    obtain⟨s,hs⟩:∃s,l[i]'hlt1=s:=⟨_,rfl⟩
    obtain⟨t,ht⟩:∃t,m[i]'hlt2=t:=⟨_,rfl⟩
    obtain⟨g,o,rfl,c0⟩:=H1.out i hlt1
    obtain⟨g2,o2,rfl,d0⟩:=H2.out i hlt2
    have hltI:(i:Int)<(N:Int):=by omega
    rw [hs] at c0
    rw [ht] at d0
    have c1:=cell_below HQ.out c0
    have d1:=cell_below HQ.out d0
    have HE:Hid (s=t→l.take (i+1)=m.take (i+1)):=Φ (fun e=>by rw [List.take_add_one,List.take_add_one,HI.out,List.getElem?_eq_getElem hlt1,List.getElem?_eq_getElem hlt2,hs,ht,e])
    have HF:Hid (s≠t→R=false):=Φ (fun e=>by
     rw [HR.out,beq_eq_false_iff_ne]
     rintro rfl
     exact e (hs.symm.trans ht))
    have hN2:N≤1000000000:=by rw [HM.out];exact HL.out
    clear c0 d0 hs ht hlt1 hlt2
    have kc:=cell_regrown c1
    have kd:=cell_regrown d1
    by_cases hst:s=t
    ·subst hst
     have HE2:=Φ (HE.out rfl)
     clear HE HF
     go_wp2_with fail
     refine wp_region_quiet_below mixed (by kernel_rfl) ?_
     repeat (first | go_big_quiet_step (fail) | quiet_step (fail))
     refine wpQuiet_nil ?_
     intro _ hw'
     obtain⟨⟨dq,osq⟩,hw''⟩:=hw'
     subst hw''
     have B9:Hid (Below w.heap.size w (grow (redrawn wr dq) osq)):=Φ (HQ.out.trans ((below_regrown wr dq osq).mono HQ.out.size))
     clear kc kd c1 d1
     generalize grow (redrawn wr dq) osq=wq at B9 ⊢
     go_wp2_with fail
     go_roundw
     case rel=>exact⟨i+1,by omega,by go_num,B9,HE2⟩
     case measure=>simp [intOf];omega
    ·have HF2:=Φ (HF.out hst)
     have hb1:(s == t)=false:=by simpa using hst
     clear HE HF
     go_wp2_with fail
     refine wp_region_quiet_below mixed (by kernel_rfl) ?_
     repeat (first | go_big_quiet_step (fail) | quiet_step (fail))
     refine wpQuiet_nil ?_
     intro _ hw'
     obtain⟨⟨dq,osq⟩,hw''⟩:=hw'
     subst hw''
     have B9:Hid (Below w.heap.size w (grow (redrawn wr dq) osq)):=Φ (HQ.out.trans ((below_regrown wr dq osq).mono HQ.out.size))
     clear kc kd c1 d1
     generalize grow (redrawn wr dq) osq=wq at B9 ⊢
     go_wp2_with fail
     go_ret
     exact⟨by rw [HF2.out];rfl,B9.out⟩
   ·have hie:i=N:=by omega
    subst hie
    have hltI:¬(i:Int)<(i:Int):=by omega
    have HT:Hid (R=true):=Φ (by
     have h:=HI.out
     rw [List.take_of_length_le (by rw [← HM.out];omega),List.take_of_length_le (by rw [← HN.out,← HM.out];omega)] at h
     rw [HR.out,h]
     simp)
    go_wp2_with fail
    go_ret
    exact⟨by rw [HT.out];rfl,HQ.out⟩
 ·have hne:((l.length:Int) == (m.length:Int))=false:=by
   rw [beq_eq_false_iff_ne]
   omega
  have HR:Hid ((l == m)=false):=Φ (by
   rw [beq_eq_false_iff_ne]
   rintro rfl
   exact hn rfl)
  go_enter Tryz.func40,Tryz.ntmps40
  go_wp2_with fail
  go_ret
  exact⟨by rw [HR.out];rfl,Below.refl _ _⟩
end Go.Proofs.YthogppennalobaaGreatDoor
