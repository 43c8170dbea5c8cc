/- The document: Load of any rows. The drawn regions of ForestDoes. No condition. The drawn region of ForestLoads. No condition. The reader of a row The reader of a row The reader of a row The drawn regions of ForestBack. No condition. The reader of a row -/
import Derived.Test.YthogppennalobaaGreatDoorZl26
import Derived.Test.YthogppennalobaaGreatDoorZl27
import Derived.Test.YthogppennalobaaGreatDoorZl24
import Derived.Test.YthogppennalobaaGreatDoorZl20
import Derived.Test.YthogppennalobaaGreatDoorZl17
import Derived.Test.YthogppennalobaaGreatDoorZl02
import Derived.Test.YthogppennalobaaGreatDoorZl07
import Derived.Test.YthogppennalobaaGreatDoorZl10
import Derived.Test.YthogppennalobaaGreatDoorZl18
import Derived.Test.YthogppennalobaaGreatDoorZl22
import Derived.Test.YthogppennalobaaGreatDoorZl23
import Derived.Deep.MidRow
set_option linter.unusedVariables false
set_option linter.unusedSimpArgs false
set_option maxRecDepth 100000
namespace Go.Proofs.YthogppennalobaaGreatDoor
open Go.RowKit Go.Sort Forest OwnR TxO Pl
theorem nds_snoc (rs:List (Nd×Value×Value))(r:Nd×Value×Value): nds (rs++[r])=nds rs++[r.1]:=by simp [nds]
theorem GotS.one {w:World}{rs:List (Nd×Value×Value)}{s:Bs}{e:Ending}(h:GotS rs s e)(ht:∀r∈rs,Tx w r.2.1 r.1.scope∧Tx w r.2.2 r.1.actors): ∃cs tw,e = .returned (.tuple #[.agg cs,.bool tw])∧cs.size=15∧cs.all (·.oneCell')=true∧tw=(nds rs).any fun m=>m.secret == s:=by
 rcases h with ⟨rfl,h⟩ | ⟨r,hr,h,rfl⟩
 ·refine⟨zeroN,false,rfl,rfl,one15 0 0 nd0 none none 0 0 0 0,?_⟩
  rw [List.find?_eq_none] at h
  exact(List.any_eq_false.2 h).symm
 ·refine⟨(nodeC r).toArray,true,rfl,rfl,?_,?_⟩
  ·refine Array.all_eq_true_iff_forall_mem.2 fun u hu=>nodeC_one (ht r hr).1 (ht r hr).2 u (by simpa using hu)
  ·exact(List.any_eq_true.2 ⟨r.1,List.mem_of_find?_eq_some h,by have:=List.find?_some h;simpa using this⟩).symm
def DldE (rows:List (Bs×Bs))(w:World)(e:Ending)(w':World): Prop:=(loadN rows=none∧e = .returned (.tuple #[.pointer none,.int .i64 135])∧Below w.heap.size w w')∨∃l x f rs,loadN rows=some (l,x)∧e = .returned (.tuple #[kpt f,.int .i64 0])∧nds rs=l∧Xr w' f rs (x:Int)∧Below w.heap.size w w'
theorem DldE.no {rows:List (Bs×Bs)}{w w':World}(h:loadN rows=none)(hb:Below w.heap.size w w'): DldE rows w (.returned (.tuple #[.pointer none,.int .i64 135])) w':= .inl ⟨h,rfl,hb⟩
theorem DldE.yes {rows:List (Bs×Bs)}{w w':World}{x f:Nat}{rs:List (Nd×Value×Value)}(h:loadN rows=some (nds rs,x))(h2:Xr w' f rs (x:Int))(hb:Below w.heap.size w w'): DldE rows w (.returned (.tuple #[kpt f,.int .i64 0])) w':= .inr ⟨_,x,f,rs,h,rfl,rfl,h2,hb⟩
set_option maxHeartbeats 16000000 in
theorem dload_any (rows:List (Bs×Bs))(hF:∀p∈rows,p.1.length≤2000000∧p.2.length≤2000000)(hlen:rows.length≤2000000)(w:World)(v:Value)(hv:Rp w v rows): Calls Tryz.prog 23 #[v] w fun e w'=>DldE rows w e w':=by
 obtain⟨a,c,rfl,hc,hrows⟩:=hv
 obtain⟨N,hN⟩:∃N,N=rows.length:=⟨_,rfl⟩
 rw [← hN] at hc hlen ⊢
 by_cases hz:N=0
 ·have hr:loadN rows=none:=by
   have h0:rows=[]:=List.length_eq_zero_iff.1 (by omega)
   rw [h0];rfl
  have HR:=Lib.hid hr
  have hN0:(N:Int)<1:=by omega
  clear hrows hN hr
  go_enter Tryz.func23,Tryz.ntmps23
  go_wp2_with fail
  go_ret2
  exact DldE.no HR.out (Below.refl _ _)
 have hN0:¬(N:Int)<1:=by omega
 obtain⟨⟨k0,s0⟩,rest,hrw⟩:∃p rest,rows=p::rest:=by
  cases rows with
  |nil=>exact absurd (by rw [hN];rfl) hz
  |cons p rest=>exact⟨p,rest,rfl⟩
 have hNr:N=rest.length+1:=by rw [hN,hrw];rfl
 by_cases hbig:257<N
 ·have hr:loadN rows=none:=by
   rw [hrw];unfold loadN;dsimp only;rw [if_pos (.inl (by omega))]
  have HR:=Lib.hid hr
  have hN1:257<(N:Int):=by omega
  clear hrows hN hr hrw hNr hbig hz
  go_enter Tryz.func23,Tryz.ntmps23
  go_wp2_with fail
  go_ret2
  exact DldE.no HR.out (Below.refl _ _)
 have hN1:¬257<(N:Int):=by omega
 obtain⟨q,o,rfl,hp0⟩:=hrows 0 (by omega)
 have hp0':w.rangeAt q o [txt k0,txt s0]:=by
  have:=hp0
  simp only [hrw,List.getElem_cons_zero] at this
  exact this
 have c0:w.cell? ⟨q,o,none⟩=some (.string ⟨k0.toArray⟩):=hp0' 0 _ rfl
 have c1:w.cell? ⟨q,o+1,none⟩=some (.string ⟨s0.toArray⟩):=hp0' 1 _ rfl
 have hf0:=hF (k0,s0) (by rw [hrw];simp)
 have HPS:Hid (∀i (h:i<rows.length),w.rangeAt q (o+i*2) [.string ⟨rows[i].1.toArray⟩,.string ⟨rows[i].2.toArray⟩]∧rows[i].1.length≤2000000∧rows[i].2.length≤2000000):=Lib.hid (fun i hi=>by
  obtain⟨q',o',e,h⟩:=hrows i hi
  cases e
  rw [show o+i*2=o+2*i by omega]
  exact⟨h,hF _ (List.getElem_mem _)⟩)
 have hNpos:(0:Int)<(N:Int):=by omega
 have HLN:=Lib.hid hN
 have HRW:=Lib.hid hrw
 have HNR:Hid (N=rest.length+1∧N≤257):=Lib.hid ⟨hNr,by omega⟩
 by_cases hk0:k0=fwd
 case neg=>
  have hr:loadN rows=none:=by
   rw [hrw];unfold loadN;dsimp only;rw [if_pos (.inr hk0)]
  have HR:=Lib.hid hr
  have e2:(k0 == [102,111,114,101,115,116])=false:=by simpa [fwd] using hk0
  clear hrows hN hr hrw hNr hbig hz hp0 hp0' hF hk0
  go_enter Tryz.func23,Tryz.ntmps23
  go_wp2_with fail
  go_ret2
  exact DldE.no HR.out (Below.refl _ _)
 case pos=>
 have e2:(k0 == [102,111,114,101,115,116])=true:=by simpa [fwd] using hk0
 have HT:=Lib.hid (fun W=>dtexts_any s0 hf0.2 W)
 have HLOAD:Hid (loadN rows=match textsL s0 with
   |none=>none
   |some l=>if (numS 1 99999999 (l,false)).2=([],false) then (goN (numS 1 99999999 (l,false)).1 [] 0 rest).map fun k=>(k,(numS 1 99999999 (l,false)).1) else none):=Lib.hid (by
  rw [hrw];unfold loadN;dsimp only;rw [if_neg (by intro e;rcases e with e | e;omega;exact e hk0)]
  cases textsL s0<;>rfl)
 have HTL:Hid (∀l,textsL s0=some l→l.length≤2000000):=Lib.hid (fun l h=>Nat.le_trans (texts_cnt h) hf0.2)
 obtain⟨T,hT⟩:∃T,T=textsL s0:=⟨_,rfl⟩
 rw [← hT] at HT HLOAD HTL
 clear hrows hN hrw hNr hbig hz hp0 hp0' hF hk0 hT hf0 hlen
 obtain⟨l,hl⟩:∃l,l=T.getD []:=⟨_,rfl⟩
 rw [← hl] at HT
 obtain⟨x,st,hx⟩:∃x st,numS 1 99999999 (l,false)=(x,st):=⟨_,_,rfl⟩
 have HX:=Lib.hid hx
 have HLL:Hid (l.length≤2000000):=Lib.hid (by
  rw [hl]
  cases T with
  |none=>simp
  |some l=>exact HTL.out l rfl)
 have HN:=Lib.hid (fun g W (h:Rr W g (l,false))=>by have:=dnum_any g (l,false) HLL.out 1 99999999 W h;rw [hx] at this;exact this)
 have HL:=Lib.hid hl
 clear hl hx
 unfold kpt at HN
 go_enter Tryz.func23,Tryz.ntmps23
 go_wp2_with fail
 refine(HT.out _).mono ?_
 rintro e w1 ⟨v,rfl,h⟩
 obtain⟨a1,cc1,rfl⟩:=h.shape
 have H1:=Lib.hid h
 clear h HT c0 c1 e2
 go_upto_region 5 with fail
 obtain⟨g,hg⟩:∃g,g=w1.heap.size:=⟨_,rfl⟩
 obtain⟨w2,hw2⟩:∃w2,w2=w1.alloc (.cells #[.slice a1 l.length cc1,.bool false] 93):=⟨_,rfl⟩
 have BW:Below w1.heap.size w1 w2:=by rw [hw2];go_grown
 have P2:Hid (Rr w2 g (l,false)):=Lib.hid ⟨a1,cc1,by rw [hw2,hg];exact Bk.new rfl,(Lw.tx H1.out).below BW,owns_cap H1.out.1⟩
 have B2:Hid (Below w.heap.size w w2):=Lib.hid (H1.out.2.1.trans (BW.mono H1.out.2.1.size))
 have G2:Hid (w.heap.size≤g):=Lib.hid (by have:=H1.out.2.1.size;omega)
 rw [← hg,← hw2]
 clear BW hg hw2 H1
 go_wp2_with fail
 refine(HN.out g w2 P2.out).mono ?_
 rintro e w3 ⟨rfl,h2,h3⟩
 have P3:=Lib.hid h2
 have B3:Hid (Below w.heap.size w w3):=Lib.hid (B2.out.trans (h3.below B2.out.size (by have:=G2.out;simpa using this)))
 clear h2 h3 P2 B2 HN
 go_upto_region 6 with fail
 obtain⟨f,hf⟩:∃f,f=w3.heap.size:=⟨_,rfl⟩
 obtain⟨w4,hw4⟩:∃w4,w4=w3.alloc (.cells #[.slice none 0 0,.int .i64 (x:Int)] 40):=⟨_,rfl⟩
 have BW:Below w3.heap.size w3 w4:=by rw [hw4];go_grown
 have P4:=Lib.hid (P3.out.below BW)
 have B4:Hid (Below w.heap.size w w4):=Lib.hid (B3.out.trans (BW.mono B3.out.size))
 have S4:Hid (Lds w w4 f [] x (.slice none 0 0)):=Lib.hid ⟨by rw [hw4,hf];exact Bk.new rfl,⟨⟨by simp,.inl ⟨rfl,rfl⟩⟩,B4.out,fun k hk=>by cases hk⟩,(fun r hr=>by cases hr),by rw [hf];exact B3.out.size⟩
 rw [← hf,← hw4]
 clear BW hf hw4 P3 B3
 obtain⟨lr,lost⟩:=st
 obtain⟨a5,c5,k5,_,_⟩:=P4.out
 have d0:w4.cell? ⟨g,0,none⟩=_:=k5.cell 0
 have d1:w4.cell? ⟨g,1,none⟩=_:=k5.cell 1
 clear k5 P4
 cases T with
 |none=>
  have HR:Hid (loadN rows=none):=Lib.hid HLOAD.out
  go_wp2_with fail
  go_ret2
  exact DldE.no HR.out B4.out
 |some l2=>
 have hl2:l=l2:=HL.out
 subst hl2
 have HLO2:Hid (loadN rows=if (lr,lost)=([],false) then (goN x [] 0 rest).map fun k=>(k,x) else none):=Lib.hid (by
  have h:=HLOAD.out
  dsimp only at h
  rw [HX.out] at h
  exact h)
 clear HLOAD HX HL HTL
 cases lost with
 |true=>
  have HR:Hid (loadN rows=none):=Lib.hid (by rw [HLO2.out,if_neg (by simp)])
  go_wp2_with fail
  go_ret2
  exact DldE.no HR.out B4.out
 |false=>
 cases lr with
 |cons z zs=>
  have HR:Hid (loadN rows=none):=Lib.hid (by rw [HLO2.out,if_neg (by simp)])
  have hzz:(0:Int)<((zs.length:Nat):Int)+1:=by omega
  go_wp2_with fail
  go_ret2
  exact DldE.no HR.out B4.out
 |nil=>
 obtain⟨R,hR⟩:∃R,R=goN x [] 0 rest:=⟨_,rfl⟩
 have HLO3:Hid (loadN rows=R.map fun k=>(k,x)):=Lib.hid (by rw [HLO2.out,if_pos rfl,hR])
 have HR0:Hid (goN x (nds []) 0 (rows.drop 1)=R):=Lib.hid (by rw [hR,HRW.out];rfl)
 clear hR HLO2 B4
 go_wp2_with fail
 go_loopw [8,9] (fun lv iv wr=>∃i:Nat,1≤i∧i≤N∧iv = .int .i64 (i:Int)∧∃last:Nat,lv = .int .i64 (last:Int)∧∃(rs:List (Nd×Value×Value)) (v:Value),Hid (rs.length+1=i)∧Hid (goN x (nds rs) last (rows.drop i)=R)∧Hid (Lds w wr f rs x v)) (fun _ iv _=>N - (intOf iv).toNat)
 case atStart=>exact⟨1,Nat.le_refl _,by have:=HNR.out;omega,rfl,0,rfl,[],_,Lib.hid rfl,HR0,S4⟩
 case round=>
  obtain⟨i,hi1,hi,rfl,last,rfl,rs,v,HRL,HG,S⟩:=hrel
  clear HR0 S4 d0 d1
  by_cases hlt:i<N
  ·have hltI:(i:Int)<(N:Int):=by omega
   have hil:i<rows.length:=by rw [← HLN.out];exact hlt
   obtain⟨⟨K,F⟩,hkf⟩:∃p,rows[i]'hil=p:=⟨_,rfl⟩
   obtain⟨hra,hk1,hk2⟩:=HPS.out i hil
   rw [hkf] at hra hk1 hk2
   dsimp only at hra hk1 hk2
   have HRA:=Lib.hid hra
   obtain⟨n,bb,hrd⟩:∃n bb,readN (K,F)=(n,bb):=⟨_,_,rfl⟩
   have HGO:Hid (R=if bb=true∧((nds rs).any fun m=>m.secret == n.secret)=false∧last<n.id∧n.id<x∧n.parent<n.id then goN x (nds rs++[n]) n.id (rows.drop (i+1)) else none):=Lib.hid (by
    have h:=HG.out
    rw [List.drop_eq_getElem_cons hil,hkf,goN,hrd] at h
    exact h.symm)
   have HRD:=Lib.hid (fun W=>by have h:=dread_any K F hk2 W;unfold Rdn at h;rw [hrd] at h;exact h)
   clear hra hk1 hk2 hkf hil hrd HG
   go_wp2_with (refine wpList_load_mid rfl 47 _ rfl q (o+i*2) rfl [.string ⟨K.toArray⟩,.string ⟨F.toArray⟩] _ (range_below HRA.out S.out.row.2.1) Tryz.underlying47 rfl i47 ?_)
   refine(HRD.out _).mono ?_
   rintro e w6 ⟨sa,sc,aa,ac,rfl,t1,t2,b6⟩
   have S6:=Lib.hid (S.out.down b6)
   obtain⟨w7,hw7⟩:∃w7,w7=w6.alloc (.cells zeroN 31):=⟨_,rfl⟩
   have Z7:Hid (Bk 31 w7 w6.heap.size zeroN):=Lib.hid (by rw [hw7];exact Bk.new rfl)
   obtain⟨W,hW⟩:∃W,W=w7.setRow w6.heap.size #[.int .i64 (n.id:Int),.int .i64 n.kind,.int .i64 (n.parent:Int),.string ⟨n.subject.toArray⟩,.string ⟨n.client.toArray⟩,.string ⟨n.audience.toArray⟩,.slice sa n.scope.length sc,.int .i64 n.born,.int .i64 n.exp,.bool n.dead,.bool n.spent,.slice aa n.actors.length ac,.int .i64 n.level,.string ⟨n.secret.toArray⟩,.string ⟨n.data.toArray⟩]:=⟨_,rfl⟩
   obtain⟨b,hb⟩:∃b,b=w6.heap.size:=⟨_,rfl⟩
   have K8:Bk 31 W b #[.int .i64 (n.id:Int),.int .i64 n.kind,.int .i64 (n.parent:Int),.string ⟨n.subject.toArray⟩,.string ⟨n.client.toArray⟩,.string ⟨n.audience.toArray⟩,.slice sa n.scope.length sc,.int .i64 n.born,.int .i64 n.exp,.bool n.dead,.bool n.spent,.slice aa n.actors.length ac,.int .i64 n.level,.string ⟨n.secret.toArray⟩,.string ⟨n.data.toArray⟩]:=by rw [hW,hb];exact Z7.out.row
   have W8:Below w6.heap.size w6 W:=by rw [hW,hw7];exact below_row (by go_grown) (Nat.le_refl _)
   have S8:Hid (Lds w W f rs x v):=Lib.hid (S6.out.down W8)
   have HOB:Hid (∀k,v.ownBlock=some k→k≠b):=Lib.hid (fun k hk=>by have:=own_lt S6.out.row hk;omega)
   have U1:Hid (Tx W (.slice sa n.scope.length sc) n.scope):=Lib.hid (t1.below W8)
   have U2:Hid (Tx W (.slice aa n.actors.length ac) n.actors):=Lib.hid (t2.below W8)
   have HW7:=Lib.hid hw7
   have HWW:=Lib.hid hW
   have KK8:=Lib.hid K8
   have HBB:=Lib.hid hb
   have HFI:=Lib.hid (rfind_any S8.out.xr (by have:=HRL.out;have:=HNR.out;omega) n.secret)
   unfold inC txt
   unfold kpt at HFI
   have c13:W.cell? ⟨b,13,none⟩=some (.string ⟨n.secret.toArray⟩):=K8.cell 13
   clear t1 t2 b6 hw7 hW hb K8 W8 HRD HRA S6 S
   go_wp2_with (have hw7:=HW7.out;unfold zeroN at hw7;rw [← hw7];clear hw7;refine wpList_put rfl 31 _ _ rfl w6.heap.size zeroN _ rfl rfl Z7.out i31 rfl (one15 (n.id:Int) (n.parent:Int) n sa aa n.scope.length sc n.actors.length ac) ?_;rw [← HWW.out,← HBB.out])
   refine HFI.out.mono ?_
   rintro e w9 ⟨hgs,b9⟩
   obtain⟨ca,tw,rfl,hca,hco,htw⟩:=hgs.one S8.out.txs
   have S9:=S8.out.down b9
   have K9:=KK8.out.below b9
   have V1:=U1.out.below b9
   have V2:=U2.out.below b9
   obtain⟨w10,hw10⟩:∃w10,w10=w9.alloc (.cells zeroN 31):=⟨_,rfl⟩
   have Z10:Hid (Bk 31 w10 w9.heap.size zeroN):=Lib.hid (by rw [hw10];exact Bk.new rfl)
   obtain⟨wq,hwq⟩:∃wq,wq=w10.setRow w9.heap.size ca:=⟨_,rfl⟩
   have BQ:Below w9.heap.size w9 wq:=by rw [hwq,hw10];exact below_row (by go_grown) (Nat.le_refl _)
   have SQ:=Lib.hid (S9.down BQ)
   have KQ:=Lib.hid (K9.below BQ)
   have T1:=Lib.hid (V1.below BQ)
   have T2:=Lib.hid (V2.below BQ)
   have HW10:=Lib.hid hw10
   have HWQ:=Lib.hid hwq
   have HCA:=Lib.hid hca
   have HCO:=Lib.hid hco
   rw [← htw] at HGO
   clear S9 K9 V1 V2 hw10 hwq BQ hca hco htw hgs b9 HFI HW7 HWW KK8 U1 U2 S8 c13 Z7
   go_upto_region 14 with (have hw:=HW10.out;unfold zeroN at hw;rw [← hw];clear hw;refine wpList_put rfl 31 _ _ rfl w9.heap.size zeroN _ rfl rfl Z10.out (by rw [HCA.out];exact i31) (by rw [HCA.out];rfl) HCO.out ?_;rw [← HWQ.out])
   have k0:=cell_regrown (w:=wq) (KQ.out.cell 0)
   have k2:=cell_regrown (w:=wq) (KQ.out.cell 2)
   have kn:=cell_regrown (w:=wq) (SQ.out.obj.cell 1)
   cases bb with
   |false=>
    have HR:Hid (loadN rows=none):=Lib.hid (by rw [HLO3.out,HGO.out,if_neg (by simp)];rfl)
    refine wp_region_quiet_below mixed (by kernel_rfl) ?_
    repeat (first | go_big_quiet_step (fail) | quiet_step (fail))
    refine wpQuiet_nil ?_
    intro _ hw'
    obtain⟨⟨dq,osq⟩,hw''⟩:=hw'
    subst hw''
    have B9:Hid (Below wq.heap.size wq (grow (redrawn wq dq) osq)):=Lib.hid (below_regrown wq dq osq)
    clear k0 k2 kn
    generalize grow (redrawn wq dq) osq=wz at B9 ⊢
    have HB:=Lib.hid (SQ.out.down B9.out).row.2.1
    go_wp2_with fail
    go_ret2
    exact DldE.no HR.out HB.out
   |true=>
   cases tw with
   |true=>
    have HR:Hid (loadN rows=none):=Lib.hid (by rw [HLO3.out,HGO.out,if_neg (by simp)];rfl)
    refine wp_region_quiet_below mixed (by kernel_rfl) ?_
    repeat (first | go_big_quiet_step (fail) | quiet_step (fail))
    refine wpQuiet_nil ?_
    intro _ hw'
    obtain⟨⟨dq,osq⟩,hw''⟩:=hw'
    subst hw''
    have B9:Hid (Below wq.heap.size wq (grow (redrawn wq dq) osq)):=Lib.hid (below_regrown wq dq osq)
    clear k0 k2 kn
    generalize grow (redrawn wq dq) osq=wz at B9 ⊢
    have HB:=Lib.hid (SQ.out.down B9.out).row.2.1
    go_wp2_with fail
    go_ret2
    exact DldE.no HR.out HB.out
   |false=>
   by_cases q1:(n.id:Int)≤(last:Int)
   ·have e1:decide ((n.id:Int)≤(last:Int))=true:=decide_eq_true q1
    have e4:n.id≤last:=by omega
    have HR:Hid (loadN rows=none):=Lib.hid (by rw [HLO3.out,HGO.out,if_neg (by omega)];rfl)
    refine wp_region_quiet_below mixed (by kernel_rfl) ?_
    repeat (first | go_big_quiet_step (fail) | quiet_step (fail))
    refine wpQuiet_nil ?_
    intro _ hw'
    obtain⟨⟨dq,osq⟩,hw''⟩:=hw'
    subst hw''
    have B9:Hid (Below wq.heap.size wq (grow (redrawn wq dq) osq)):=Lib.hid (below_regrown wq dq osq)
    clear k0 k2 kn
    generalize grow (redrawn wq dq) osq=wz at B9 ⊢
    have HB:=Lib.hid (SQ.out.down B9.out).row.2.1
    go_wp2_with fail
    go_ret2
    exact DldE.no HR.out HB.out
   have e1:decide ((n.id:Int)≤(last:Int))=false:=decide_eq_false q1
   have e4:¬n.id≤last:=by omega
   by_cases q2:(x:Int)≤(n.id:Int)
   ·have e2:decide ((x:Int)≤(n.id:Int))=true:=decide_eq_true q2
    have e5:x≤n.id:=by omega
    have HR:Hid (loadN rows=none):=Lib.hid (by rw [HLO3.out,HGO.out,if_neg (by omega)];rfl)
    refine wp_region_quiet_below mixed (by kernel_rfl) ?_
    repeat (first | go_big_quiet_step (fail) | quiet_step (fail))
    refine wpQuiet_nil ?_
    intro _ hw'
    obtain⟨⟨dq,osq⟩,hw''⟩:=hw'
    subst hw''
    have B9:Hid (Below wq.heap.size wq (grow (redrawn wq dq) osq)):=Lib.hid (below_regrown wq dq osq)
    clear k0 k2 kn
    generalize grow (redrawn wq dq) osq=wz at B9 ⊢
    have HB:=Lib.hid (SQ.out.down B9.out).row.2.1
    go_wp2_with fail
    go_ret2
    exact DldE.no HR.out HB.out
   have e2:decide ((x:Int)≤(n.id:Int))=false:=decide_eq_false q2
   have e5:¬x≤n.id:=by omega
   by_cases q3:(n.id:Int)≤(n.parent:Int)
   ·have e3:decide ((n.id:Int)≤(n.parent:Int))=true:=decide_eq_true q3
    have e6:n.id≤n.parent:=by omega
    have HR:Hid (loadN rows=none):=Lib.hid (by rw [HLO3.out,HGO.out,if_neg (by omega)];rfl)
    refine wp_region_quiet_below mixed (by kernel_rfl) ?_
    repeat (first | go_big_quiet_step (fail) | quiet_step (fail))
    refine wpQuiet_nil ?_
    intro _ hw'
    obtain⟨⟨dq,osq⟩,hw''⟩:=hw'
    subst hw''
    have B9:Hid (Below wq.heap.size wq (grow (redrawn wq dq) osq)):=Lib.hid (below_regrown wq dq osq)
    clear k0 k2 kn
    generalize grow (redrawn wq dq) osq=wz at B9 ⊢
    have HB:=Lib.hid (SQ.out.down B9.out).row.2.1
    go_wp2_with fail
    go_ret2
    exact DldE.no HR.out HB.out
   have e3:decide ((n.id:Int)≤(n.parent:Int))=false:=decide_eq_false q3
   have e6:¬n.id≤n.parent:=by omega
   have HGO2:Hid (goN x (nds rs++[n]) n.id (rows.drop (i+1))=R):=Lib.hid (by rw [HGO.out,if_pos ⟨rfl,rfl,by omega,by omega,by omega⟩])
   refine wp_region_quiet_below mixed (by kernel_rfl) ?_
   repeat (first | go_big_quiet_step (fail) | quiet_step (fail))
   refine wpQuiet_nil ?_
   intro _ hw'
   obtain⟨⟨dq,osq⟩,hw''⟩:=hw'
   subst hw''
   have B9:Hid (Below wq.heap.size wq (grow (redrawn wq dq) osq)):=Lib.hid (below_regrown wq dq osq)
   clear k0 k2 kn
   generalize grow (redrawn wq dq) osq=wz at B9 ⊢
   have SZ:=Lib.hid (SQ.out.down B9.out)
   have KZ:=Lib.hid (KQ.out.below B9.out)
   have X1:=Lib.hid (T1.out.below B9.out)
   have X2:=Lib.hid (T2.out.below B9.out)
   have HSL:Hid (rs.length≤1000000):=Lib.hid (by have:=HRL.out;have:=HNR.out;omega)
   clear SQ KQ T1 T2 B9 HGO
   go_upto_region 16 with fail
   refine Pl.ldR (fun _ b6 b7 b10 y6 y7 X=>Ldr w f b #[.int .i64 (n.id:Int),.int .i64 n.kind,.int .i64 (n.parent:Int),.string ⟨n.subject.toArray⟩,.string ⟨n.client.toArray⟩,.string ⟨n.audience.toArray⟩,.slice sa n.scope.length sc,.int .i64 n.born,.int .i64 n.exp,.bool n.dead,.bool n.spent,.slice aa n.actors.length ac,.int .i64 n.level,.string ⟨n.secret.toArray⟩,.string ⟨n.data.toArray⟩] rs n (.slice sa n.scope.length sc) (.slice aa n.actors.length ac) x v b6 b7 b10 y6 y7 X) f b v _ _ _ _ _ _ _ _ _ _ _ _ _ _ _ _ (fun _ _ _ X h=>⟨(h.obj rfl).cell 0,h⟩) (fun _ _ _ X h=>h.build) (fun _ _ X h=>h.app rfl (one15 (n.id:Int) (n.parent:Int) n sa aa n.scope.length sc n.actors.length ac) HSL.out) (fun _ _ X h=>h.store) (fun _ _ _ _ _ _ X h=>h.box) (Ldr.drew SZ.out KZ.out HOB.out X1.out X2.out) ?_
   intro y6 y7 w1 h1
   have HZ:=Lib.hid (Ldr.lds h1)
   have c0:w1.cell? ⟨b,0,none⟩=some (.int .i64 (n.id:Int)):=h1.box.cell 0
   clear h1 SZ KZ X1 X2
   dsimp only
   go_wp2_with fail
   go_roundw
   case rel=>exact⟨i+1,by omega,by omega,by go_num,n.id,rfl,rs++[(n,.slice sa n.scope.length sc,.slice aa n.actors.length ac)],y7,Lib.hid (by rw [List.length_append,← HRL.out];rfl),Lib.hid (by rw [nds_snoc];exact HGO2.out),HZ⟩
   case measure=>simp [intOf];omega
  ·have hie:i=N:=by omega
   have hltI:¬(i:Int)<(N:Int):=by omega
   have HR:Hid (loadN rows=some (nds rs,x)):=Lib.hid (by
    have h:=HG.out
    rw [hie,HLN.out,List.drop_length,goN] at h
    rw [HLO3.out,← h]
    rfl)
   have HB:=Lib.hid S.out.row.2.1
   have HXR:=Lib.hid S.out.xr
   clear hie HG S
   go_wp2_with fail
   go_ret2
   exact DldE.yes HR.out HXR.out HB.out
end Go.Proofs.YthogppennalobaaGreatDoor
namespace Go.Proofs.YthogppennalobaaGreatDoor.Pl
open Go.RowKit Go.Sort
theorem k_ld37 {Q:Exit→Act→World→Prop}{T:Array Value}{ds:List Deferred}{w:World}{ty:TypeId}{dst:Option Tmp}{s:Nat}{ps af g}{b o:Nat}{v:Value}(h:w.cell? ⟨b,o,none⟩=some v)(e:T.getD s undef = .pointer (some ⟨b,o,none⟩)): Oper.wp Tryz.prog ⟨dst,.load 37 (.tmp s),ty,ps,af,g⟩ ⟨T,ds⟩ w (fun a' w''=>a'=Act.put ⟨T,ds⟩ dst v∧w''=w) Q:=by
 go_simp
end Go.Proofs.YthogppennalobaaGreatDoor.Pl
namespace Go.Proofs.YthogppennalobaaGreatDoor.Pl
open Go.RowKit Go.Sort Forest
noncomputable def laRO:Array Oper:=(Tryz.f4.body.bind fun c=>findR c 8).getD #[]
def laR_m:List (List Nat):=[[],[],[],[],[],[],[1],[1,6],[1,6],[1,6],[1,6],[1,6,9],[1,6,9,11],[1,6,9,11],[1,6,9,11],[1,6,9,11,14],[1,6,9,11,14]]
set_option maxHeartbeats 16000000 in
theorem laR (PW:Bool→Bool→Bool→Bool→Bool→Value→Value→World→Prop)(f g nx cx rn rc:Nat)(ax ra:Option Addr)(w:World)  (hr:∀(b1 b6 b9 b11 b14:Bool) (y1 y9:Value) (w:World),PW b1 b6 b9 b11 b14 y1 y9 w→w.cell? ⟨g,0,none⟩=some (.slice ra rn rc))(cl1:∀(y1 y9:Value) (w:World),PW false false false false false y1 y9 w→Calls Tryz.prog 17 #[.pointer (some ⟨f,0,none⟩)] w fun e w1=>∃v,e = .returned v∧PW true false false false false v y9 w1)(cl6:∀(y1 y9:Value) (w:World),PW true false false false false y1 y9 w→Calls Tryz.prog 16 #[y1,.slice ra rn rc] w fun e w1=>e = .returned (.bool true)∧PW true true false false false y1 y9 w1)(cl9:∀(y1 y9:Value) (w:World),PW true true false false false y1 y9 w→Calls Tryz.prog 19 #[.pointer (some ⟨f,0,none⟩)] w fun e w1=>∃v,e = .returned v∧PW true true true false false y1 v w1)(cl11:∀(y1 y9:Value) (w:World),PW true true true false false y1 y9 w→Calls Tryz.prog 18 #[y9,.slice ax nx cx] w fun e w1=>e = .returned (.bool true)∧PW true true true true false y1 y9 w1)(cl14:∀(y1 y9:Value) (w:World),PW true true true true false y1 y9 w→Calls Tryz.prog 21 #[] w fun e w1=>e = .returned (.bool true)∧PW true true true true true y1 y9 w1){t1 t2 t3 t5 t7 t8 t9 t10 t11 t12 t13 t14 t15 t16 t17 t18 t19 t20 t21 t22 t23 t24 t25 t26 t27 t28 t29 t30 t31 t32 t33 t34 t35 t36 t37 t38 t39 t40 t41 t42 t43 t44 t45 t46 t47 t48 t49 t50 t51 t52 t53 t54 t55 t56 t57 t58 t59 t60 t61 t62 t63 t64 t65 t66 t67 t68 t69 t70 t71 t72 t73 t74:Value}(w0:PW false false false false false t60 t68 w.drew){ds:List Deferred}{Q:Exit→Act→World→Prop}
  (h:∀(y1 y9:Value) (w1:World),PW true true true true true y1 y9 w1→Q .normal {tmps:=#[.slice ax nx cx,t1,.bool true,t3,.pointer (some ⟨f,0,none⟩),t5,.pointer (some ⟨g,0,none⟩),t7,t8,t9,t10,t11,t12,t13,t14,t15,t16,t17,t18,t19,t20,t21,t22,t23,t24,t25,t26,t27,t28,t29,t30,t31,t32,t33,t34,t35,t36,t37,t38,t39,t40,t41,t42,t43,t44,t45,t46,t47,t48,t49,t50,t51,t52,t53,t54,t55,t56,t57,t58,.pointer (some ⟨f,0,none⟩),y1,.pointer (some ⟨g,0,none⟩),.pointer (some ⟨g,0,none⟩),.pointer (some ⟨g,0,none⟩),.slice ra rn rc,.bool true,.bool true,.pointer (some ⟨f,0,none⟩),y9,.slice ax nx cx,.bool true,.bool true,.bool true,.bool true,.bool true],defers:=ds} w1) :
  (Code.region 8 laRO true).wp Tryz.prog Q {tmps:=#[.slice ax nx cx,t1,t2,t3,.pointer (some ⟨f,0,none⟩),t5,.pointer (some ⟨g,0,none⟩),t7,t8,t9,t10,t11,t12,t13,t14,t15,t16,t17,t18,t19,t20,t21,t22,t23,t24,t25,t26,t27,t28,t29,t30,t31,t32,t33,t34,t35,t36,t37,t38,t39,t40,t41,t42,t43,t44,t45,t46,t47,t48,t49,t50,t51,t52,t53,t54,t55,t56,t57,t58,t59,t60,t61,t62,t63,t64,t65,t66,t67,t68,t69,t70,t71,t72,t73,t74],defers:=ds} w:=by
 have hsz:laRO.size=17:=by kernel_rfl
 generalize hT:List.toArray _=T0
 have hs:T0.size=75:=by subst hT;rfl
 have g0:T0.getD 0 undef = .slice ax nx cx:=by subst hT;rfl
 have g4:T0.getD 4 undef = .pointer (some ⟨f,0,none⟩):=by subst hT;rfl
 have g6:T0.getD 6 undef = .pointer (some ⟨g,0,none⟩):=by subst hT;rfl
 obtain⟨W,hV⟩:∃W:List ((Nat×(Value→Value)) ⊕ Value),W=[.inr (.pointer (some ⟨f,0,none⟩)),.inl (1,id),.inr (.pointer (some ⟨g,0,none⟩)),.inr (.pointer (some ⟨g,0,none⟩)),.inr (.pointer (some ⟨g,0,none⟩)),.inr (.slice ra rn rc),.inr (.bool true),.inr (.bool true),.inr (.pointer (some ⟨f,0,none⟩)),.inl (9,id),.inr (.slice ax nx cx),.inr (.bool true),.inr (.bool true),.inr (.bool true),.inr (.bool true),.inr (.bool true),.inr (.bool true)]:=⟨_,rfl⟩
 refine wp_plan (by kernel_rfl) T0 ds [1,6,9,11,14] laR_m (mkV W) (fun dx yx wx=>PW (dx 1) (dx 6) (dx 9) (dx 11) (dx 14) (yx 1) (yx 9) wx) w (by rw [hs];kernel_rfl) (by kernel_rfl) (by kernel_rfl) (by rw [hsz];decide) (fun cx hc ix hne ha yx vx=>mkV_fix (by rw [hV];kernel_rfl) hne ha yx vx) (?key) (fun cx hc ox ho dx yx Tx wx hd hdb hda hK hW=>?_) ⟨fun k=>if k=1 then t60 else if k=9 then t68 else undef,w0⟩ (fun dx yx wx hd hW=>?_)
 case key=>
  rw [hsz]
  refine all_step (all_step (all_step (all_step (all_step (all_step (all_step (all_step (all_step (all_step (all_step (all_step (all_step (all_step (all_step (all_step (all_step all_zero ?_) ?_) ?_) ?_) ?_) ?_) ?_) ?_) ?_) ?_) ?_) ?_) ?_) ?_) ?_) ?_) ?_
  all_goals
   intro ox ho hic dx yx Tx wx hdb hK hW
   replace hdb:=Lib.hid hdb
  ·exact pl0 59 4 23 ho hK (by kernel_rfl) (by kernel_rfl) g4 (by subst hV;rfl) fun ps af e=>k_mv e
  ·exact absurd (by decide) hic
  ·exact pl0 61 6 26 ho hK (by kernel_rfl) (by kernel_rfl) g6 (by subst hV;rfl) fun ps af e=>k_mv e
  ·exact pl1 62 61 2 0 ho hK (by kernel_rfl) (by kernel_rfl) (by subst hV;rfl) (by subst hV;rfl) fun ps af e=>k_nc e
  ·exact pl1 63 62 3 0 ho hK (by kernel_rfl) (by kernel_rfl) (by subst hV;rfl) (by subst hV;rfl) fun ps af e=>k_fa40_0 e
  ·exact pl1 64 63 4 37 ho hK (by kernel_rfl) (by kernel_rfl) (by subst hV;rfl) (by subst hV;rfl) fun ps af e=>k_ld37 (hr _ _ _ _ _ _ _ _ hW) e
  ·exact absurd (by decide) hic
  ·exact pl1 66 65 6 4 ho hK (by kernel_rfl) (by kernel_rfl) (by subst hV;rfl) (by subst hV;rfl) fun ps af e=>k_mv e
  ·exact pg0 7 66 true 67 4 23 ho hK (by kernel_rfl) (by kernel_rfl) (by kernel_rfl) (by subst hV;rfl) (by kernel_rfl) g4 (by subst hV;rfl) fun ps af e=>k_mv e
  ·exact absurd (by decide) hic
  ·exact pg0 7 66 true 69 0 42 ho hK (by kernel_rfl) (by kernel_rfl) (by kernel_rfl) (by subst hV;rfl) (by kernel_rfl) g0 (by subst hV;rfl) fun ps af e=>k_mv e
  ·exact absurd (by decide) hic
  ·obtain⟨ps,af,rfl⟩:=core (some 71) (.pick (.tmp 66) (.tmp 70) (.const (Value.bool false))) 4 none ho (by kernel_rfl)
   have e66:Tx.getD 66 undef = .bool true:=hK.is 7 ho (by kernel_rfl) (by subst hV;rfl)
   have e70:Tx.getD 70 undef = .bool true:=hK.is 11 ho (by kernel_rfl) (by subst hV;rfl)
   exact wpOp_plain ho rfl (by subst hV;go_simp;try rfl)
  ·exact pl1 72 71 12 4 ho hK (by kernel_rfl) (by kernel_rfl) (by subst hV;rfl) (by subst hV;rfl) fun ps af e=>k_mv e
  ·exact absurd (by decide) hic
  ·obtain⟨ps,af,rfl⟩:=core (some 74) (.pick (.tmp 72) (.tmp 73) (.const (Value.bool false))) 4 none ho (by kernel_rfl)
   have e72:Tx.getD 72 undef = .bool true:=hK.is 13 ho (by kernel_rfl) (by subst hV;rfl)
   have e73:Tx.getD 73 undef = .bool true:=hK.is 14 ho (by kernel_rfl) (by subst hV;rfl)
   exact wpOp_plain ho rfl (by subst hV;go_simp;try rfl)
  ·exact pl1 2 74 15 4 ho hK (by kernel_rfl) (by kernel_rfl) (by subst hV;rfl) (by subst hV;rfl) fun ps af e=>k_as e
 ·have hcase:cx=1∨cx=6∨cx=9∨cx=11∨cx=14:=by simpa using hc
  rcases hcase with rfl | rfl | rfl | rfl | rfl
  ·obtain⟨ps,af,rfl⟩:=core (some 60) (.call {callee:= .value (.func 17),args:=#[.tmp 59],argTypes:=#[23]}) 37 none ho (by kernel_rfl)
   have e59:Tx.getD 59 undef = .pointer (some ⟨f,0,none⟩):=hK.is 0 ho (by kernel_rfl) (by subst hV;rfl)
   have hW1:PW (dx 1) (dx 6) (dx 9) (dx 11) (dx 14) (yx 1) (yx 9) wx:=hW
   have f6:=hda 6 (by decide) (by kernel_rfl)
   have f9:=hda 9 (by decide) (by kernel_rfl)
   have f11:=hda 11 (by decide) (by kernel_rfl)
   have f14:=hda 14 (by decide) (by kernel_rfl)
   clear hdb hda
   rw [hd,f6,f9,f11,f14] at hW1
   replace f6:=Lib.hid f6
   replace f9:=Lib.hid f9
   replace f11:=Lib.hid f11
   replace f14:=Lib.hid f14
   clear hd hW hc
   refine wpOp_plain ho rfl ?_
   go_simp
   go_at_call 17
   refine(cl1 _ _ _ hW1).mono ?_
   rintro ex w2 ⟨vx,rfl,hW2⟩
   subst hV
   refine⟨vx,rfl,?_⟩
   simpa [updB,upd,f6.out,f9.out,f11.out,f14.out] using hW2
  ·obtain⟨ps,af,rfl⟩:=core (some 65) (.call {callee:= .value (.func 16),args:=#[.tmp 60,.tmp 64],argTypes:=#[37,37]}) 4 none ho (by kernel_rfl)
   have e60:Tx.getD 60 undef=yx 1:=hK.is 1 ho (by kernel_rfl) (by subst hV;rfl)
   have e64:Tx.getD 64 undef = .slice ra rn rc:=hK.is 5 ho (by kernel_rfl) (by subst hV;rfl)
   have hW1:PW (dx 1) (dx 6) (dx 9) (dx 11) (dx 14) (yx 1) (yx 9) wx:=hW
   have f1:=hdb 1 (by decide) (by kernel_rfl)
   have f9:=hda 9 (by decide) (by kernel_rfl)
   have f11:=hda 11 (by decide) (by kernel_rfl)
   have f14:=hda 14 (by decide) (by kernel_rfl)
   clear hdb hda
   rw [hd,f1,f9,f11,f14] at hW1
   replace f1:=Lib.hid f1
   replace f9:=Lib.hid f9
   replace f11:=Lib.hid f11
   replace f14:=Lib.hid f14
   clear hd hW hc
   refine wpOp_plain ho rfl ?_
   go_simp
   go_at_call 16
   refine(cl6 _ _ _ hW1).mono ?_
   rintro ex w2 ⟨rfl,hW2⟩
   subst hV
   first | refine⟨undef,rfl,?_⟩ | refine⟨⟨undef,rfl⟩,?_⟩
   simpa [updB,upd,f1.out,f9.out,f11.out,f14.out] using hW2
  ·obtain⟨ps,af,rfl⟩:=core (some 68) (.call {callee:= .value (.func 19),args:=#[.tmp 67],argTypes:=#[23]}) 42 (some (7,true)) ho (by kernel_rfl)
   have e67:Tx.getD 67 undef = .pointer (some ⟨f,0,none⟩):=hK.is 8 ho (by kernel_rfl) (by subst hV;rfl)
   have hW1:PW (dx 1) (dx 6) (dx 9) (dx 11) (dx 14) (yx 1) (yx 9) wx:=hW
   have f1:=hdb 1 (by decide) (by kernel_rfl)
   have f6:=hdb 6 (by decide) (by kernel_rfl)
   have f11:=hda 11 (by decide) (by kernel_rfl)
   have f14:=hda 14 (by decide) (by kernel_rfl)
   clear hdb hda
   rw [hd,f1,f6,f11,f14] at hW1
   replace f1:=Lib.hid f1
   replace f6:=Lib.hid f6
   replace f11:=Lib.hid f11
   replace f14:=Lib.hid f14
   clear hd hW hc
   refine wpOp_want ho ((wanted_of (d:=66) (b:=true) rfl (by kernel_rfl) (hK.is 7 ho (by kernel_rfl) (by subst hV;rfl))).trans rfl) ?_
   go_simp
   go_at_call 19
   refine(cl9 _ _ _ hW1).mono ?_
   rintro ex w2 ⟨vx,rfl,hW2⟩
   subst hV
   refine⟨vx,rfl,?_⟩
   simpa [updB,upd,f1.out,f6.out,f11.out,f14.out] using hW2
  ·obtain⟨ps,af,rfl⟩:=core (some 70) (.call {callee:= .value (.func 18),args:=#[.tmp 68,.tmp 69],argTypes:=#[42,42]}) 4 (some (7,true)) ho (by kernel_rfl)
   have e68:Tx.getD 68 undef=yx 9:=hK.is 9 ho (by kernel_rfl) (by subst hV;rfl)
   have e69:Tx.getD 69 undef = .slice ax nx cx:=hK.is 10 ho (by kernel_rfl) (by subst hV;rfl)
   have hW1:PW (dx 1) (dx 6) (dx 9) (dx 11) (dx 14) (yx 1) (yx 9) wx:=hW
   have f1:=hdb 1 (by decide) (by kernel_rfl)
   have f6:=hdb 6 (by decide) (by kernel_rfl)
   have f9:=hdb 9 (by decide) (by kernel_rfl)
   have f14:=hda 14 (by decide) (by kernel_rfl)
   clear hdb hda
   rw [hd,f1,f6,f9,f14] at hW1
   replace f1:=Lib.hid f1
   replace f6:=Lib.hid f6
   replace f9:=Lib.hid f9
   replace f14:=Lib.hid f14
   clear hd hW hc
   refine wpOp_want ho ((wanted_of (d:=66) (b:=true) rfl (by kernel_rfl) (hK.is 7 ho (by kernel_rfl) (by subst hV;rfl))).trans rfl) ?_
   go_simp
   go_at_call 18
   refine(cl11 _ _ _ hW1).mono ?_
   rintro ex w2 ⟨rfl,hW2⟩
   subst hV
   first | refine⟨undef,rfl,?_⟩ | refine⟨⟨undef,rfl⟩,?_⟩
   simpa [updB,upd,f1.out,f6.out,f9.out,f14.out] using hW2
  ·obtain⟨ps,af,rfl⟩:=core (some 73) (.call {callee:= .value (.func 21),args:=#[],argTypes:=#[]}) 4 (some (13,true)) ho (by kernel_rfl)
   have hW1:PW (dx 1) (dx 6) (dx 9) (dx 11) (dx 14) (yx 1) (yx 9) wx:=hW
   have f1:=hdb 1 (by decide) (by kernel_rfl)
   have f6:=hdb 6 (by decide) (by kernel_rfl)
   have f9:=hdb 9 (by decide) (by kernel_rfl)
   have f11:=hdb 11 (by decide) (by kernel_rfl)
   clear hdb hda
   rw [hd,f1,f6,f9,f11] at hW1
   replace f1:=Lib.hid f1
   replace f6:=Lib.hid f6
   replace f9:=Lib.hid f9
   replace f11:=Lib.hid f11
   clear hd hW hc
   refine wpOp_want ho ((wanted_of (d:=72) (b:=true) rfl (by kernel_rfl) (hK.is 13 ho (by kernel_rfl) (by subst hV;rfl))).trans rfl) ?_
   go_simp
   go_at_call 21
   refine(cl14 _ _ _ hW1).mono ?_
   rintro ex w2 ⟨rfl,hW2⟩
   subst hV
   first | refine⟨undef,rfl,?_⟩ | refine⟨⟨undef,rfl⟩,?_⟩
   simpa [updB,upd,f1.out,f6.out,f9.out,f11.out] using hW2
 ·have hW1:PW (dx 1) (dx 6) (dx 9) (dx 11) (dx 14) (yx 1) (yx 9) wx:=hW
  rw [hd 1 (by decide),hd 6 (by decide),hd 9 (by decide),hd 11 (by decide),hd 14 (by decide)] at hW1
  have hQ:=h _ _ _ hW1
  rw [hsz]
  subst hV hT
  refine cast (congrArg (fun Tx=>Q .normal ⟨Tx,ds⟩ wx) ?_) hQ
  kernel_rfl
end Go.Proofs.YthogppennalobaaGreatDoor.Pl
namespace Go.Proofs.YthogppennalobaaGreatDoor
open Go.RowKit Go.Sort Forest OwnR TxO Pl
def KeepA (w w':World): Prop:=∀(t:TypeId) b cs,t≠71→t≠72→t≠75→Bk t w b cs→Bk t w' b cs
theorem KeepA.of {w w':World}(h:Below w.heap.size w w'): KeepA w w':=fun t b cs _ _ _ hb=>hb.below h
theorem KeepA.trans {a b c:World}(h:KeepA a b)(k:KeepA b c): KeepA a c:=fun t q cs h1 h2 h3 hq=>k t q cs h1 h2 h3 (h t q cs h1 h2 h3 hq)
theorem KeepA.chf {W w':World}{f:Nat}{ns ns':Ns}{x:Int}(h:FR W f ns x)(hc:Chf W w' f ns ns'): KeepA W w':=fun t b cs h1 h2 h3 hb=>hc.keep h hb h1 h2 h3
theorem Nr.kept {w:World}{a:Option Addr}{c:Nat}{rs:List (Nd×Value×Value)}(h:Nr w (.slice a rs.length c) rs){i:Nat}(hi:i<rs.length):
  ∃q,a=some ⟨q,0,none⟩∧∀V,KeepA w V→∀j,j<15→V.cell? ⟨q,i*15+j,none⟩=(nodeC rs[i])[j]?:=by
 obtain⟨q,e,hc⟩:=h.cell hi
 subst e
 refine⟨q,rfl,fun V hV j hj=>?_⟩
 obtain⟨_,cur,hb⟩:=OwnR.owns_block h.1 (g:=q) rfl
 rw [(hV 31 q cur (by decide) (by decide) (by decide) hb).cell,← hb.cell]
 exact hc j hj
theorem Lw.kept {t:TypeId}{w0 w:World}{a:Option Addr}{c n:Nat}{xs:List Value}(ht:t≠71∧t≠72∧t≠75)(h:Lw t 1 w0 w (.slice a n c) n xs){i:Nat}(hi:i<n){u:Value}(hu:xs[i]?=some u):
  ∃q,a=some ⟨q,0,none⟩∧∀V,KeepA w V→V.cell? ⟨q,i,none⟩=some u:=by
 obtain⟨z,e,hc⟩:=OwnR.owns_cell h.1 (i:=i) (v:=u) hu
 subst e
 obtain⟨_,cur,hb⟩:=OwnR.owns_block h.1 (g:=z) rfl
 refine⟨z,rfl,fun V hV=>?_⟩
 rw [(hV t z cur ht.1 ht.2.1 ht.2.2 hb).cell,← hb.cell]
 exact hc
section
variable {F:Nd→Nd} {S:Nd→Bool} {l:List Nd}
end
structure Duo (w0 w:World)(f g:Nat)(ns b:Ns)(x y:Int): Prop where
 fa:FR w f ns x
 fb:FR w g b y
 below:Below w0.heap.size w0 w
 oa:∀q,OwnsB w f ns q→w0.heap.size≤q
 ob:∀q,OwnsB w g b q→w0.heap.size≤q
 ap:∀q,OwnsB w f ns q→¬OwnsB w g b q
theorem Duo.swap {w0 w:World}{f g:Nat}{ns b:Ns}{x y:Int}(h:Duo w0 w f g ns b x y): Duo w0 w g f b ns y x:=⟨h.fb,h.fa,h.below,h.ob,h.oa,fun q h1 h2=>h.ap q h2 h1⟩
theorem Duo.down {w0 w w':World}{f g:Nat}{ns b:Ns}{x y:Int}(h:Duo w0 w f g ns b x y)(hb:Below w.heap.size w w'): Duo w0 w' f g ns b x y:=by
 have ea:∀q,OwnsB w' f ns q→OwnsB w f ns q:=fun q hq=>hq.same (hb.block _ (OwnsB.lt h.fa (.inl rfl)))
 have eb:∀q,OwnsB w' g b q→OwnsB w g b q:=fun q hq=>hq.same (hb.block _ (OwnsB.lt h.fb (.inl rfl)))
 exact⟨h.fa.below hb,h.fb.below hb,h.below.trans (hb.mono h.below.size),fun q hq=>h.oa q (ea q hq),fun q hq=>h.ob q (eb q hq),fun q h1 h2=>h.ap q (ea q h1) (eb q h2)⟩
theorem Duo.goA {w0 w w':World}{f g:Nat}{ns ns' b:Ns}{x x' y:Int}(h:Duo w0 w f g ns b x y)(hf:FR w' f ns' x')(hc:Chf w w' f ns ns'): Duo w0 w' f g ns' b x' y:=by
 obtain⟨L,ho,hL⟩:=hc.only
 have hgL:∀q∈L,¬OwnsB w g b q:=fun q hq=>h.ap q (hL q hq)
 have hg':FR w' g b y:=h.fb.apart ho hgL (fun q hq cs=>OwnsB.no9 h.fa (hL q hq) cs)
 have eb:∀q,OwnsB w' g b q→OwnsB w g b q:=fun q hq=>hq.same (ho.block g (OwnsB.lt h.fb (.inl rfl)) (fun hm=>hgL g hm (.inl rfl)))
 refine⟨hf,hg',h.below.trans (ho.below h.below.size (fun q hq=>h.oa q (hL q hq))),fun q hq=>?_,fun q hq=>h.ob q (eb q hq),fun q h1 h2=>?_⟩
 ·exact(hc.own q hq).elim (h.oa q) (fun h2=>Nat.le_trans h.below.size h2)
 ·rcases hc.own q h1 with h3 | h3
  ·exact h.ap q h3 (eb q h2)
  ·have:=OwnsB.lt h.fb (eb q h2)
   omega
theorem Duo.goB {w0 w w':World}{f g:Nat}{ns b b':Ns}{x y y':Int}(h:Duo w0 w f g ns b x y)(hf:FR w' g b' y')(hc:Chf w w' g b b'): Duo w0 w' f g ns b' x y':=(h.swap.goA hf hc).swap
set_option maxHeartbeats 4000000 in
theorem samerows_any (rows:List (Bs×Bs))(hl:rows.length≤1000000)(w:World)(v u:Value)(h1:Rp w v rows)(h2:Rp w u rows): Calls Tryz.prog 18 #[v,u] w fun e w'=>e = .returned (.bool true)∧Below w.heap.size w w':=by
 obtain⟨a,c,rfl,hc,h1⟩:=h1
 obtain⟨b,d,rfl,hd,h2⟩:=h2
 have H1:=Lib.hid h1
 have H2:=Lib.hid h2
 obtain⟨m,hm⟩:∃m,m=rows.length:=⟨_,rfl⟩
 have HM:=Lib.hid hm
 rw [← hm] at hl ⊢
 clear h1 h2 hm hc hd
 go_enter Tryz.func18,Tryz.ntmps18
 go_wp2_with fail
 go_loopw [5] (fun iv wr=>∃i:Nat,i≤m∧iv = .int .i64 (i:Int)∧Hid (Below w.heap.size w wr)) (fun iv _=>m - (intOf iv).toNat)
 case atStart=>exact⟨0,Nat.zero_le _,rfl,Lib.hid (Below.refl _ _)⟩
 case round=>
  obtain⟨i,hi,rfl,HQ⟩:=hrel
  by_cases hlt:i<m
  ·have hlt1:i<rows.length:=by rw [← HM.out];exact hlt
   obtain⟨s,hs⟩:∃s,rows[i]'hlt1=s:=⟨_,rfl⟩
   obtain⟨g,o,rfl,c0⟩:=H1.out i hlt1
   obtain⟨g2,o2,rfl,d0⟩:=H2.out i hlt1
   have hltI:(i:Int)<(m:Int):=by omega
   rw [hs,show o+2*i=o+i*2 by omega] at c0
   rw [hs,show o2+2*i=o2+i*2 by omega] at d0
   obtain⟨s1,s2⟩:=s
   unfold txt at c0 d0
   dsimp only at c0 d0
   have C1:=Lib.hid (range_below c0 HQ.out)
   have D1:=Lib.hid (range_below d0 HQ.out)
   clear c0 d0 hs hlt1
   go_wp2_with fail
   refine wp_region_quiet_below mixed (by kernel_rfl) ?_
   repeat (first | go_big_quiet_step (fail) | quiet_step (fail))
   refine wpQuiet_load_mid rfl 47 _ rfl g (o+i*2) rfl [.string ⟨s1.toArray⟩,.string ⟨s2.toArray⟩] _ (fun w' hw'=>by obtain⟨p,rfl⟩:=hw';exact range_below C1.out (below_regrown wr p.d p.os)) Tryz.underlying47 rfl i47 ?_
   repeat (first | go_big_quiet_step (fail) | quiet_step (fail))
   refine wpQuiet_load_mid rfl 47 _ rfl g2 (o2+i*2) rfl [.string ⟨s1.toArray⟩,.string ⟨s2.toArray⟩] _ (fun w' hw'=>by obtain⟨p,rfl⟩:=hw';exact range_below D1.out (below_regrown wr p.d p.os)) Tryz.underlying47 rfl i47 ?_
   repeat (first | go_big_quiet_step (fail) | quiet_step (fail))
   refine wpQuiet_nil ?_
   intro _ hw'
   obtain⟨⟨dq,osq⟩,hw''⟩:=hw'
   subst hw''
   have B9:Hid (Below w.heap.size w (grow (redrawn wr dq) osq)):=Lib.hid (HQ.out.trans ((below_regrown wr dq osq).mono HQ.out.size))
   generalize grow (redrawn wr dq) osq=wq at B9 ⊢
   go_wp2_with fail
   go_roundw
   case rel=>exact⟨i+1,by omega,by go_num,B9⟩
   case measure=>simp [intOf];omega
  ·have hltI:¬(i:Int)<(m:Int):=by omega
   go_wp2_with fail
   go_ret
   exact⟨rfl,HQ.out⟩
structure Dub (w0 w:World)(f g:Nat)(ns b:Ns)(x y:Int): Prop extends Duo w0 w f g ns b x y where
 ra:∀q,OwnsT w ns q→w0.heap.size≤q
 rb:∀q,OwnsT w b q→w0.heap.size≤q
theorem Dub.swap {w0 w:World}{f g:Nat}{ns b:Ns}{x y:Int}(h:Dub w0 w f g ns b x y): Dub w0 w g f b ns y x:=⟨h.toDuo.swap,h.rb,h.ra⟩
theorem Dub.nf {w0 w:World}{f g:Nat}{ns b:Ns}{x y:Int}(h:Dub w0 w f g ns b x y): Nf w0 w f ns x:=⟨h.fa,h.below,h.oa,h.ra⟩
theorem Dub.down {w0 w w':World}{f g:Nat}{ns b:Ns}{x y:Int}(h:Dub w0 w f g ns b x y)(hb:Below w.heap.size w w'): Dub w0 w' f g ns b x y:=
 ⟨h.toDuo.down hb,(h.nf.down hb).rows,(h.swap.nf.down hb).rows⟩
theorem Dub.move {w0 w w':World}{f g z:Nat}{ns ns' b:Ns}{x x' y:Int}{cz:Array Value}(h:Dub w0 w f g ns b x y)(hz:Bk 40 w z cz)(hz0:w0.heap.size≤z)(hf:Nf w0 w' f ns' x')(ho:∃L,Only L w w'∧∀q∈L,OwnsB w f ns q∨q=z)
  (hq:∀q,OwnsB w' f ns' q→OwnsB w f ns q∨w.heap.size≤q):Dub w0 w' f g ns' b x' y:=by
 obtain⟨L,ho,hL⟩:=ho
 have hgL:∀q∈L,¬OwnsB w g b q:=fun q hm h2=>by
  rcases hL q hm with h3 | h3
  ·exact h.ap q h3 h2
  ·subst h3;exact OwnsB.no h.fb (by decide) (by decide) (by decide) hz h2
 have hg':FR w' g b y:=h.fb.apart ho hgL (fun q hm cs=>by
  rcases hL q hm with h3 | h3
  ·exact OwnsB.no9 h.fa h3 cs
  ·subst h3;intro h4;exact bk_ne hz h4 (by decide) rfl)
 have eb:∀q,OwnsB w' g b q→OwnsB w g b q:=fun q hm=>hm.same (ho.block g (OwnsB.lt h.fb (.inl rfl)) (fun hm=>hgL g hm (.inl rfl)))
 refine⟨⟨hf.fr,hg',hf.below,hf.own,fun q hm=>h.ob q (eb q hm),fun q h1 h2=>?_⟩,hf.rows,fun q hm=>h.rb q (hm.same fun k hk=>ho.block k.1 (OwnsB.lt h.fb (.inr (.inl ⟨k,hk,rfl⟩))) (fun hm=>hgL k.1 hm (.inr (.inl ⟨k,hk,rfl⟩))))⟩
 rcases hq q h1 with h3 | h3
 ·exact h.ap q h3 (eb q h2)
 ·have:=OwnsB.lt h.fb (eb q h2)
  omega
theorem Dub.goA {w0 w w':World}{f g:Nat}{ns ns' b:Ns}{x x' y:Int}(h:Dub w0 w f g ns b x y)(hf:FR w' f ns' x')(hc:Chf w w' f ns ns'): Dub w0 w' f g ns' b x' y:=by
 have hd:=h.toDuo.goA hf hc
 obtain⟨L,ho,hL⟩:=hc.only
 exact⟨hd,(h.nf.go hf hc).rows,fun q hm=>h.rb q (hm.same fun k hk=>ho.block k.1 (OwnsB.lt h.fb (.inr (.inl ⟨k,hk,rfl⟩))) (fun hm=>h.ap k.1 (hL k.1 hm) (.inr (.inl ⟨k,hk,rfl⟩))))⟩
end Go.Proofs.YthogppennalobaaGreatDoor
namespace Go.Proofs.YthogppennalobaaGreatDoor.Pl
open Go.RowKit Go.Sort
end Go.Proofs.YthogppennalobaaGreatDoor.Pl
namespace Go.Proofs.YthogppennalobaaGreatDoor
open Go.RowKit Go.Sort Forest OwnR TxO Pl
end Go.Proofs.YthogppennalobaaGreatDoor
