/- KillOf. Condition: at most a million nodes. The drawn region of put. No condition. The drawn region of the document's Plant. No condition. A drawn region within a round of a loop over a function, walked as outside of it. General, of any program. No condition but that nothing is deferred in it. A drawn region by a plan, within a round of a loop over a function; entries of a map. General. No conditi -/
import Derived.Test.YthogppennalobaaGreatDoorZg07
import Derived.Test.YthogppennalobaaGreatDoorZg02
import Derived.OrdersIn
import Derived.RangeFuncNested
import Derived.RangeFuncCalls
import Derived.Test.YthogppennalobaaGreatDoorZg01
set_option linter.unusedVariables false
set_option linter.unusedSimpArgs false
set_option maxRecDepth 100000
namespace Go.Proofs.YthogppennalobaaGreatDoor
open Go.RowKit Go.Sort Forest OwnR TxO
open Go.Lib renaming hid→Φ
def killOfP (l:List Nd)(p:Bs): Int×List Nd:=(((l.filter fun n=>isOfP n p&&!n.dead).length:Nat),l.map fun n=>if isOfP n p then killF n else n)
theorem FR.row {w:World}{f:Nat}{ns:Ns}{nx:Int}(h:FR w f ns nx){a:Option Addr}{n c:Nat}{x:Value}(hb:Bk 71 w f #[.slice a n c,x]): n=ns.length∧w.ownsRow 0 72 1 (.slice a ns.length c) ns.length (ns.map fun k=>kpt k.1):=by
 obtain⟨a',c',h1,h2⟩:=h.obj
 have e:=h1.symm.trans hb
 simp only [Option.some.injEq,Obj.cells.injEq,Array.mk.injEq,List.cons.injEq,Value.slice.injEq] at e
 obtain⟨⟨⟨rfl,rfl,rfl⟩,_⟩,_⟩:=e
 exact⟨rfl,h2⟩
theorem setN_at {t u:List Nd}{n:Nd}(h:Ok (t++n::u))(F:Nd→Nd): setN (t++n::u) n.id F=t++F n::u:=by
 have h1:∀m∈t,m.id≠n.id:=fun m hm=>by have:=h.split hm;omega
 have h2:∀m∈u,m.id≠n.id:=by
  intro m hm
  have:∀(t:List Nd),Ok (t++n::u)→n.id<m.id:=by
   intro t
   induction t with
   |nil=>intro h;exact h.2.2.1 m hm
   |cons a t ih=>intro h;exact ih h.2.2.2
  have:=this t h
  omega
 unfold setN
 rw [List.map_append,List.map_cons,if_pos rfl]
 congr 1
 ·exact(List.map_congr_left fun m hm=>by rw [if_neg (h1 m hm)];rfl).trans (List.map_id _)
 ·congr 1
  exact(List.map_congr_left fun m hm=>by rw [if_neg (h2 m hm)];rfl).trans (List.map_id _)
set_option maxHeartbeats 8000000 in
theorem killOf_call {w:World}{f:Nat}{ns:Ns}{nx:Int}(h:FR w f ns nx)(hl:ns.length≤1000000)(p:Bs): Calls Tryz.prog 30 #[kpt f,.string ⟨p.toArray⟩] w fun e w'=>Ends w f ns nx (.int .i64 (killOfP (nodes ns) p).1) (killOfP (nodes ns) p).2 nx e w':=by
 have H:=Φ h
 obtain⟨a,c,hb,hrow0⟩:=h.obj
 clear hrow0
 have c0:w.cell? ⟨f,0,none⟩=some (.slice a ns.length c):=hb.cell 0
 have HB:=Φ hb
 obtain⟨G,hG⟩:∃G:Nd→Nd,G=fun n=>if isOfP n p then killF n else n:=⟨_,rfl⟩
 have HG:=Φ hG
 clear h hb hG
 unfold kpt
 go_enter Tryz.func30,Tryz.ntmps30
 go_wp2_with fail
 go_loopw [5,13] (fun cv iv wr=>∃(i:Nat) (nsi:Ns),i≤ns.length∧iv = .int .i64 (i:Int)∧cv = .int .i64 ((((nodes ns).take i).filter fun n=>isOfP n p&&!n.dead).length:Nat)∧Hid (FR wr f nsi nx∧Chf w wr f ns nsi∧Bk 71 wr f #[.slice a ns.length c,.int .i64 nx]∧nodes nsi=((nodes ns).take i).map G++(nodes ns).drop i)) (fun _ iv _=>ns.length - (intOf iv).toNat)
 case atStart=>exact⟨0,ns,Nat.zero_le _,rfl,by simp,Φ ⟨H.out,Chf.of_below H.out (Below.refl _ _),HB.out,by simp⟩⟩
 case round=>
  obtain⟨i,nsi,hi,rfl,rfl,HI⟩:=hrel
  have hlen:nsi.length=ns.length:=by
   have:=congrArg List.length HI.out.2.2.2
   simp [nodes] at this
   omega
  by_cases hlt:i<ns.length
  ·have hlti:i<nsi.length:=by omega
   obtain⟨k,hk⟩:∃k,nsi[i]=k:=⟨_,rfl⟩
   have hkm:k∈nsi:=hk▸List.getElem_mem hlti
   have hkn:k.2=(nodes ns)[i]'(by simp [nodes];omega):=by
    have h1:(nodes nsi)[i]?=some k.2:=by simp [nodes,List.getElem?_eq_getElem hlti,hk]
    rw [HI.out.2.2.2,List.getElem?_append_right (by simp;omega),List.getElem?_drop] at h1
    simp only [List.length_map,List.length_take] at h1
    rw [Nat.min_eq_left (by simp [nodes];omega)] at h1
    rw [show i+(i - i)=i by omega,List.getElem?_eq_getElem (by simp [nodes];omega)] at h1
    exact(Option.some.inj h1).symm
   have HN:Hid (nodes ns=(nodes ns).take i++k.2::(nodes ns).drop (i+1)∧(nodes ns).take (i+1)=(nodes ns).take i++[k.2]∧nodes nsi=((nodes ns).take i).map G++k.2::(nodes ns).drop (i+1)):=Φ (by
    have hd:(nodes ns).drop i=k.2::(nodes ns).drop (i+1):=by rw [hkn];exact List.drop_eq_getElem_cons _
    refine⟨?_,?_,?_⟩
    ·rw [← hd,List.take_append_drop]
    ·rw [List.take_add_one,List.getElem?_eq_getElem (by simp [nodes];omega),← hkn];rfl
    ·rw [← hd];exact HI.out.2.2.2)
   have hrow:=(HI.out.1.row HI.out.2.2.1).2
   obtain⟨g,rfl,hcell⟩:=owns_cell hrow (i:=i) (v:=kpt k.1) (by rw [List.getElem?_map,List.getElem?_eq_getElem hlti,hk];rfl)
   obtain⟨sv,av,K,_⟩:=HI.out.1.node k hkm
   have HO:=Φ (isOf_any K p)
   have HK:=Φ (kill_any K)
   have HKM:=Φ hkm
   have hltI:(i:Int)<(ns.length:Int):=by omega
   have HCNT:Hid ((((nodes ns).take (i+1)).filter fun n=>isOfP n p&&!n.dead).length=(((nodes ns).take i).filter fun n=>isOfP n p&&!n.dead).length+if (isOfP k.2 p&&!k.2.dead)=true then 1 else 0):=Φ (by
    rw [HN.out.2.1,List.filter_append,List.length_append,List.filter_cons]
    split<;>simp)
   have hcb:(((nodes ns).take i).filter fun n=>isOfP n p&&!n.dead).length≤1000000:=by
    refine Nat.le_trans (List.length_filter_le _ _) ?_
    rw [List.length_take];omega
   unfold kpt at hcell HO HK
   have HGK:Hid (G k.2=if isOfP k.2 p then killF k.2 else k.2):=Φ (by rw [HG.out])
   clear hkn hk hkm hrow K c0 hlen hlti hi hlt
   have hlt:=Φ hltI
   generalize (((nodes ns).take i).filter fun n=>isOfP n p&&!n.dead).length=cnt at *
   cases ho:isOfP k.2 p with
   |false=>
    rw [ho] at HO HCNT HGK
    clear ho
    go_wp2_with fail
    refine HO.out.mono ?_
    rintro e w1 ⟨rfl,rfl⟩
    go_wp2_with fail
    go_roundw
    case rel=>
     refine⟨i+1,nsi,by have:=hlt.out;omega,by go_num,by rw [HCNT.out];simp,Φ ⟨HI.out.1,HI.out.2.1,HI.out.2.2.1,?_⟩⟩
     rw [HN.out.2.2,HN.out.2.1,List.map_append,List.map_cons,List.map_nil,HGK.out,List.append_assoc];rfl
    case measure=>have:=hlt.out;simp [intOf];omega
   |true=>
    rw [ho] at HO HCNT HGK
    clear ho
    generalize hdd:k.2.dead=d at *
    have HDD:=Φ hdd
    clear hdd
    go_wp2_with fail
    refine HO.out.mono ?_
    rintro e w1 ⟨rfl,rfl⟩
    go_wp2_with fail
    refine HK.out.mono ?_
    rintro e w2 ⟨rfl,rfl⟩
    have HU:=Φ (HI.out.1.upd HKM.out mild_kill (only_cell w1 k.1 9 (.bool true)) (fun sv av up K=>Bk.same (i:=9) (v:= .bool true) K))
    have HF2:Hid (Bk 71 (w1.setCell ⟨k.1,9,none⟩ (.bool true)) f #[.slice (some ⟨g,0,none⟩) ns.length c,.int .i64 nx]):=Φ (by
     obtain⟨sv,av,K,_⟩:=HI.out.1.node k HKM.out
     exact HI.out.2.2.1.oth (bk_ne HI.out.2.2.1 K (by decide)))
    have HL:Hid (nodes (updN nsi k.2.id killF)=((nodes ns).take (i+1)).map G++(nodes ns).drop (i+1)):=Φ (by
     have hok:=HI.out.1.ok
     rw [HN.out.2.2] at hok
     rw [updN_nodes,HN.out.2.2,setN_at hok,HN.out.2.1,List.map_append,List.map_cons,List.map_nil,HGK.out,List.append_assoc];rfl)
    cases d with
    |true=>
     go_wp2_with fail
     go_roundw
     case rel=>exact⟨i+1,updN nsi k.2.id killF,by have:=hlt.out;omega,by go_num,by rw [HCNT.out];simp,Φ ⟨HU.out.1,HI.out.2.1.trans HU.out.2,HF2.out,HL.out⟩⟩
     case measure=>have:=hlt.out;simp [intOf];omega
    |false=>
     go_wp2_with fail
     go_roundw
     case rel=>exact⟨i+1,updN nsi k.2.id killF,by have:=hlt.out;omega,by go_num,by rw [HCNT.out];go_num,Φ ⟨HU.out.1,HI.out.2.1.trans HU.out.2,HF2.out,HL.out⟩⟩
     case measure=>have:=hlt.out;simp [intOf];omega
  ·have hie:i=ns.length:=by omega
   have hltI:¬(i:Int)<(ns.length:Int):=by omega
   have HE:Hid ((nodes ns).take i=nodes ns):=Φ (by rw [List.take_of_length_le];simp [nodes];omega)
   have HE2:Hid ((nodes ns).drop i=[]):=Φ (by rw [List.drop_of_length_le];simp [nodes];omega)
   rw [HE.out]
   clear c0
   go_wp2_with fail
   go_ret
   refine⟨rfl,nsi,?_,HI.out.1,HI.out.2.1⟩
   rw [HI.out.2.2.2,HE.out,HE2.out,List.append_nil,HG.out];rfl
end Go.Proofs.YthogppennalobaaGreatDoor
namespace Go.Proofs.YthogppennalobaaGreatDoor.Pl
open Go.RowKit Go.Sort
theorem k_fa31_2 {Q:Exit→Act→World→Prop}{T:Array Value}{ds:List Deferred}{w:World}{ty:TypeId}{dst:Option Tmp}{s:Nat}{ps af g}{b:Nat}(e:T.getD s undef = .pointer (some ⟨b,0,none⟩)): Oper.wp Tryz.prog ⟨dst,.fieldAddr 31 (.tmp s) 2,ty,ps,af,g⟩ ⟨T,ds⟩ w (fun a' w''=>a'=Act.put ⟨T,ds⟩ dst (.pointer (some ⟨b,2,none⟩))∧w''=w) Q:=by
 go_simp
theorem k_fa71_0 {Q:Exit→Act→World→Prop}{T:Array Value}{ds:List Deferred}{w:World}{ty:TypeId}{dst:Option Tmp}{s:Nat}{ps af g}{b:Nat}(e:T.getD s undef = .pointer (some ⟨b,0,none⟩)): Oper.wp Tryz.prog ⟨dst,.fieldAddr 71 (.tmp s) 0,ty,ps,af,g⟩ ⟨T,ds⟩ w (fun a' w''=>a'=Act.put ⟨T,ds⟩ dst (.pointer (some ⟨b,0,none⟩))∧w''=w) Q:=by
 go_simp
noncomputable def putRO:Array Oper:=(Tryz.f32.body.bind fun c=>findR c 1).getD #[]
def putR_m:List (List Nat):=[[],[],[],[],[],[],[],[],[],[],[9],[9],[9,11],[4,9,11,12],[4,9,11,12,13],[4,9,11,12,13],[4,9,11,12,13]]
set_option maxHeartbeats 16000000 in
theorem putR (PW:Bool→Bool→Bool→Bool→Bool→Bool→Value→Value→Value→World→Prop)(f b:Nat)(p:Int)(pu:Option Addr)(sv z0 z1 z3 z4 z5 z6 z7 z8 z9 z10 z11 z12 z13 z14:Value)(w:World)  (cl4:∀(b9 b11 b12:Bool) (y11 y12 y13:Value) (w:World),PW false b9 b11 b12 false false y11 y12 y13 w→w.cell? ⟨f,0,none⟩=some (sv)∧PW true b9 b11 b12 false false y11 y12 y13 w)(cl9:∀(b4:Bool) (y11 y12 y13:Value) (w:World),PW b4 false false false false false y11 y12 y13 w→Calls Tryz.prog 62 #[.pointer (some ⟨f,0,none⟩),.int .i64 p] w fun e w1=>e = .returned (.pointer pu)∧PW b4 true false false false false y11 y12 y13 w1)(cl11:∀(b4:Bool) (y11 y12 y13:Value) (w:World),PW b4 true false false false false y11 y12 y13 w→PW b4 true true false false false (.pointer (some ⟨w.heap.size,0,none⟩)) y12 y13 (w.alloc (.cells #[z0,z1,.int .i64 p,z3,z4,z5,z6,z7,z8,z9,z10,z11,z12,z13,z14,.pointer pu] 75)))(cl12:∀(b4:Bool) (y11 y12 y13:Value) (w:World),PW b4 true true false false false y11 y12 y13 w→∃q,y11 = .pointer q∧PW b4 true true true false false y11 (.slice (some ⟨w.heap.size,0,none⟩) 1 1) y13 (w.alloc (.cells #[.pointer q] 72)))(cl13:∀(y11 y12 y13:Value) (w:World),PW true true true true false false y11 y12 y13 w→∃v w',(Builtin.append_ #[69,69] 69 #[sv,y12]).run Tryz.prog w = .ok v w'∧PW true true true true true false y11 y12 v w')(cl16:∀(y11 y12 y13:Value) (w:World),PW true true true true true false y11 y12 y13 w→∃sa sn sc,y13 = .slice sa sn sc∧(∃cv,w.cell? ⟨f,0,none⟩=some cv)∧w.frozen? ⟨f,0,none⟩=false∧PW true true true true true true y11 y12 y13 (w.setCell ⟨f,0,none⟩ (.slice sa sn sc)))(lk:∀(b4 b9 b11 b12 b13 b16:Bool) (y11 y12 y13:Value) (w:World),PW b4 b9 b11 b12 b13 b16 y11 y12 y13 w→Bk 31 w b #[z0,z1,.int .i64 p,z3,z4,z5,z6,z7,z8,z9,z10,z11,z12,z13,z14]){t1 t2 t4 t5 t6 t7 t8 t9 t10 t11 t12 t13 t14 t15 t16 t17 t18 t19:Value}(w0:PW false false false false false false t15 t16 t17 w.drew){ds:List Deferred}{Q:Exit→Act→World→Prop}
  (h:∀(y11 y12 y13:Value) (w1:World),PW true true true true true true y11 y12 y13 w1→Q .normal {tmps:=#[.pointer (some ⟨f,0,none⟩),t1,t2,.pointer (some ⟨b,0,none⟩),.pointer (some ⟨f,0,none⟩),.pointer (some ⟨f,0,none⟩),.pointer (some ⟨f,0,none⟩),.pointer (some ⟨f,0,none⟩),sv,.agg #[z0,z1,.int .i64 p,z3,z4,z5,z6,z7,z8,z9,z10,z11,z12,z13,z14],.pointer (some ⟨f,0,none⟩),.pointer (some ⟨b,2,none⟩),.int .i64 p,.pointer pu,.agg #[z0,z1,.int .i64 p,z3,z4,z5,z6,z7,z8,z9,z10,z11,z12,z13,z14,.pointer pu],y11,y12,y13,.pointer (some ⟨f,0,none⟩),.pointer (some ⟨f,0,none⟩)],defers:=ds} w1) :
  (Code.region 1 putRO true).wp Tryz.prog Q {tmps:=#[.pointer (some ⟨f,0,none⟩),t1,t2,.pointer (some ⟨b,0,none⟩),t4,t5,t6,t7,t8,t9,t10,t11,t12,t13,t14,t15,t16,t17,t18,t19],defers:=ds} w:=by
 have hsz:putRO.size=17:=by kernel_rfl
 generalize hT:List.toArray _=T0
 have hs:T0.size=20:=by subst hT;rfl
 have g0:T0.getD 0 undef = .pointer (some ⟨f,0,none⟩):=by subst hT;rfl
 have g3:T0.getD 3 undef = .pointer (some ⟨b,0,none⟩):=by subst hT;rfl
 obtain⟨W,hV⟩:∃W:List ((Nat×(Value→Value)) ⊕ Value),W=[.inr (.pointer (some ⟨f,0,none⟩)),.inr (.pointer (some ⟨f,0,none⟩)),.inr (.pointer (some ⟨f,0,none⟩)),.inr (.pointer (some ⟨f,0,none⟩)),.inr (sv),.inr (.agg #[z0,z1,.int .i64 p,z3,z4,z5,z6,z7,z8,z9,z10,z11,z12,z13,z14]),.inr (.pointer (some ⟨f,0,none⟩)),.inr (.pointer (some ⟨b,2,none⟩)),.inr (.int .i64 p),.inr (.pointer pu),.inr (.agg #[z0,z1,.int .i64 p,z3,z4,z5,z6,z7,z8,z9,z10,z11,z12,z13,z14,.pointer pu]),.inl (11,id),.inl (12,id),.inl (13,id),.inr (.pointer (some ⟨f,0,none⟩)),.inr (.pointer (some ⟨f,0,none⟩)),.inr undef]:=⟨_,rfl⟩
 refine wp_plan (by kernel_rfl) T0 ds [4,9,11,12,13,16] putR_m (mkV W) (fun dx yx wx=>PW (dx 4) (dx 9) (dx 11) (dx 12) (dx 13) (dx 16) (yx 11) (yx 12) (yx 13) wx) w (by rw [hs];kernel_rfl) (by kernel_rfl) (by kernel_rfl) (by rw [hsz];decide) (fun cx hc ix hne ha yx vx=>mkV_fix (by rw [hV];kernel_rfl) hne ha yx vx) (?key) (fun cx hc ox ho dx yx Tx wx hd hdb hda hK hW=>?_) ⟨fun k=>if k=11 then t15 else if k=12 then t16 else if k=13 then t17 else undef,w0⟩ (fun dx yx wx hd hW=>?_)
 case key=>
  rw [hsz]
  refine all_step (all_step (all_step (all_step (all_step (all_step (all_step (all_step (all_step (all_step (all_step (all_step (all_step (all_step (all_step (all_step (all_step all_zero ?_) ?_) ?_) ?_) ?_) ?_) ?_) ?_) ?_) ?_) ?_) ?_) ?_) ?_) ?_) ?_) ?_
  all_goals
   intro ox ho hic dx yx Tx wx hdb hK hW
   replace hdb:=Lib.hid hdb
  ·exact pl0 4 0 23 ho hK g0 fun ps af e=>k_mv e
  ·exact pl0 5 0 23 ho hK g0 fun ps af e=>k_mv e
  ·exact pl1 6 5 1 0 ho hK fun ps af e=>k_nc e
  ·exact pl1 7 6 2 0 ho hK fun ps af e=>k_fa71_0 e
  ·exact absurd (by decide) hic
  ·obtain⟨ps,af,rfl⟩:=core (some 9) (.load 31 (.tmp 3)) 31 none ho
   have e3:Tx.getD 3 undef = .pointer (some ⟨b,0,none⟩):=hK.of (by kernel_rfl) g3
   have hl:=lk _ _ _ _ _ _ _ _ _ _ hW
   exact wpOp_plain ho rfl (wp_load_row 31 _ rfl b (by first | exact e3 | rfl) 31 _ (0,0) _ hl Tryz.underlying31 rfl i31 ⟨by subst hV;rfl,rfl⟩)
  ·exact pl0 10 0 23 ho hK g0 fun ps af e=>k_mv e
  ·exact pl0 11 3 0 ho hK g3 fun ps af e=>k_fa31_2 e
  ·obtain⟨ps,af,rfl⟩:=core (some 12) (.load 3 (.tmp 11)) 3 none ho
   have e11:Tx.getD 11 undef = .pointer (some ⟨b,2,none⟩):=hK.is 7 ho
   have hl:=(lk _ _ _ _ _ _ _ _ _ _ hW).cell 2
   simp only [List.getElem?_toArray,List.getElem?_cons_succ,List.getElem?_cons_zero] at hl
   exact wpOp_plain ho rfl (by subst hV;go_simp;try rfl)
  ·exact absurd (by decide) hic
  ·obtain⟨ps,af,rfl⟩:=core (some 14) (.build 75 #[(0,.tmp 9),(1,.tmp 13)]) 75 none ho
   have e9:Tx.getD 9 undef = .agg #[z0,z1,.int .i64 p,z3,z4,z5,z6,z7,z8,z9,z10,z11,z12,z13,z14]:=hK.is 5 ho
   have e13:Tx.getD 13 undef = .pointer pu:=hK.is 9 ho
   simp only [Array.getD_eq_getD_getElem?] at e9 e13
   exact wpOp_plain ho rfl (by subst hV;go_simp;try rfl)
  ·exact absurd (by decide) hic
  ·exact absurd (by decide) hic
  ·exact absurd (by decide) hic
  ·exact pl1 18 4 0 0 ho hK fun ps af e=>k_nc e
  ·exact pl1 19 18 14 0 ho hK fun ps af e=>k_fa71_0 e
  ·exact absurd (by decide) hic
 ·have hcase:cx=4∨cx=9∨cx=11∨cx=12∨cx=13∨cx=16:=by simpa using hc
  rcases hcase with rfl | rfl | rfl | rfl | rfl | rfl
  ·obtain⟨ps,af,rfl⟩:=core (some 8) (.load 69 (.tmp 7)) 69 none ho
   have e7:Tx.getD 7 undef = .pointer (some ⟨f,0,none⟩):=hK.is 3 ho
   have hW1:PW (dx 4) (dx 9) (dx 11) (dx 12) (dx 13) (dx 16) (yx 11) (yx 12) (yx 13) wx:=hW
   have f13:=hq hda 13
   have f16:=hq hda 16
   clear hdb hda
   rw [hd,f13.out,f16.out] at hW1
   clear hd hW hc
   obtain⟨hl,hW2⟩:=cl4 _ _ _ _ _ _ _ hW1
   subst hV
   refine wpOp_plain ho rfl ?_
   go_simp
   first | refine⟨undef,rfl,?_⟩ | refine⟨⟨undef,rfl⟩,?_⟩ | skip
   simpa [updB,upd,f13.out,f16.out] using hW2
  ·obtain⟨ps,af,rfl⟩:=core (some 13) (.call {callee:= .value (.func 62),args:=#[.tmp 10,.tmp 12],argTypes:=#[23,3]}) 72 none ho
   have e10:Tx.getD 10 undef = .pointer (some ⟨f,0,none⟩):=hK.is 6 ho
   have e12:Tx.getD 12 undef = .int .i64 p:=hK.is 8 ho
   have hW1:PW (dx 4) (dx 9) (dx 11) (dx 12) (dx 13) (dx 16) (yx 11) (yx 12) (yx 13) wx:=hW
   have f11:=hq hda 11
   have f12:=hq hda 12
   have f13:=hq hda 13
   have f16:=hq hda 16
   clear hdb hda
   rw [hd,f11.out,f12.out,f13.out,f16.out] at hW1
   clear hd hW hc
   refine wpOp_plain ho rfl ?_
   go_simp
   go_at_call 62
   refine(cl9 _ _ _ _ _ hW1).mono ?_
   rintro ex w2 ⟨rfl,hW2⟩
   subst hV
   first | refine⟨undef,rfl,?_⟩ | refine⟨⟨undef,rfl⟩,?_⟩
   simpa [updB,upd,f11.out,f12.out,f13.out,f16.out] using hW2
  ·obtain⟨ps,af,rfl⟩:=core (some 15) (.box 75 (.tmp 14)) 72 none ho
   have e14:Tx.getD 14 undef = .agg #[z0,z1,.int .i64 p,z3,z4,z5,z6,z7,z8,z9,z10,z11,z12,z13,z14,.pointer pu]:=hK.is 10 ho
   have hW1:PW (dx 4) (dx 9) (dx 11) (dx 12) (dx 13) (dx 16) (yx 11) (yx 12) (yx 13) wx:=hW
   have f9:=hq hdb 9
   have f12:=hq hda 12
   have f13:=hq hda 13
   have f16:=hq hda 16
   clear hdb hda
   rw [hd,f9.out,f12.out,f13.out,f16.out] at hW1
   clear hd hW hc
   have hW2:=cl11 _ _ _ _ _ hW1
   subst hV
   refine wpOp_plain ho rfl ?_
   go_simp
   refine⟨_,rfl,?_⟩
   simpa [updB,upd,f9.out,f12.out,f13.out,f16.out] using hW2
  ·obtain⟨ps,af,rfl⟩:=core (some 16) (.buildSlice 69 1 #[(0,.tmp 15)]) 69 none ho
   have e15:Tx.getD 15 undef=yx 11:=hK.is 11 ho
   have hW1:PW (dx 4) (dx 9) (dx 11) (dx 12) (dx 13) (dx 16) (yx 11) (yx 12) (yx 13) wx:=hW
   have f9:=hq hdb 9
   have f11:=hq hdb 11
   have f13:=hq hda 13
   have f16:=hq hda 16
   clear hdb hda
   rw [hd,f9.out,f11.out,f13.out,f16.out] at hW1
   clear hd hW hc
   obtain⟨q,ey,hW2⟩:=cl12 _ _ _ _ _ hW1
   rw [ey] at e15
   simp only [Array.getD_eq_getD_getElem?] at e15
   subst hV
   refine wpOp_plain ho rfl ?_
   go_simp
   refine⟨_,rfl,?_⟩
   simpa [updB,upd,f9.out,f11.out,f13.out,f16.out] using hW2
  ·obtain⟨ps,af,rfl⟩:=core (some 17) (.call {callee:= .builtin Builtin.append,args:=#[.tmp 8,.tmp 16],argTypes:=#[69,69]}) 69 none ho
   have e8:Tx.getD 8 undef=sv:=hK.is 4 ho
   have e16:Tx.getD 16 undef=yx 12:=hK.is 12 ho
   have hW1:PW (dx 4) (dx 9) (dx 11) (dx 12) (dx 13) (dx 16) (yx 11) (yx 12) (yx 13) wx:=hW
   have f4:=hq hdb 4
   have f9:=hq hdb 9
   have f11:=hq hdb 11
   have f12:=hq hdb 12
   have f16:=hq hda 16
   clear hdb hda
   rw [hd,f4.out,f9.out,f11.out,f12.out,f16.out] at hW1
   clear hd hW hc
   obtain⟨vx,w2,hrun,hW2⟩:=cl13 _ _ _ _ hW1
   subst hV
   refine wpOp_plain ho rfl (wp_append_runE _ _ _ _ rfl _ _ (by first | exact e8 | rfl) (by first | exact e16 | rfl) vx w2 hrun ⟨vx,rfl,?_⟩)
   simpa [updB,upd,f4.out,f9.out,f11.out,f12.out,f16.out] using hW2
  ·obtain⟨ps,af,rfl⟩:=core none (.store 69 (.tmp 19) (.tmp 17)) 0 none ho
   have e19:Tx.getD 19 undef = .pointer (some ⟨f,0,none⟩):=hK.is 15 ho
   have e17:Tx.getD 17 undef=yx 13:=hK.is 13 ho
   have hW1:PW (dx 4) (dx 9) (dx 11) (dx 12) (dx 13) (dx 16) (yx 11) (yx 12) (yx 13) wx:=hW
   have f4:=hq hdb 4
   have f9:=hq hdb 9
   have f11:=hq hdb 11
   have f12:=hq hdb 12
   have f13:=hq hdb 13
   clear hdb hda
   rw [hd,f4.out,f9.out,f11.out,f12.out,f13.out] at hW1
   clear hd hW hc
   obtain⟨sa,sn,sc,ey,⟨cv,hcv⟩,hfz,hW2⟩:=cl16 _ _ _ _ hW1
   rw [ey] at e17
   subst hV
   refine wpOp_plain ho rfl ?_
   go_simp
   simpa [updB,upd,f4.out,f9.out,f11.out,f12.out,f13.out] using hW2
 ·have hW1:PW (dx 4) (dx 9) (dx 11) (dx 12) (dx 13) (dx 16) (yx 11) (yx 12) (yx 13) wx:=hW
  rw [hd 4 (by decide),hd 9 (by decide),hd 11 (by decide),hd 12 (by decide),hd 13 (by decide),hd 16 (by decide)] at hW1
  have hQ:=h _ _ _ _ hW1
  rw [hsz]
  subst hV hT
  refine cast (congrArg (fun Tx=>Q .normal ⟨Tx,ds⟩ wx) ?_) hQ
  kernel_rfl
end Go.Proofs.YthogppennalobaaGreatDoor.Pl
namespace Go.Proofs.YthogppennalobaaGreatDoor.Pl
open Go.RowKit Go.Sort
theorem k_fa40_0 {Q:Exit→Act→World→Prop}{T:Array Value}{ds:List Deferred}{w:World}{ty:TypeId}{dst:Option Tmp}{s:Nat}{ps af g}{b:Nat}(e:T.getD s undef = .pointer (some ⟨b,0,none⟩)): Oper.wp Tryz.prog ⟨dst,.fieldAddr 40 (.tmp s) 0,ty,ps,af,g⟩ ⟨T,ds⟩ w (fun a' w''=>a'=Act.put ⟨T,ds⟩ dst (.pointer (some ⟨b,0,none⟩))∧w''=w) Q:=by
 go_simp
noncomputable def plRO:Array Oper:=(Tryz.f33.body.bind fun c=>findR c 16).getD #[]
def plR_m:List (List Nat):=[[],[],[],[],[],[],[1,5],[],[],[1,5,6,8],[1,5,6,8,9],[1,5,6,8,9],[1,5,6,8,9]]
set_option maxHeartbeats 16000000 in
theorem plR (PW:Bool→Bool→Bool→Bool→Bool→Bool→Value→Value→Value→Value→World→Prop)(f b:Nat)(sl z0 z1 z2 z3 z4 z5 z6 z7 z8 z9 z10 z11 z12 z13 z14:Value)(w:World)  (cl1:∀(b5 b8:Bool) (y1 y6 y8 y9:Value) (w:World),PW false b5 false b8 false false y1 y6 y8 y9 w→PW true b5 false b8 false false (.slice (some ⟨w.heap.size,0,none⟩) 0 0) y6 y8 y9 (w.alloc (.cells #[] 31)))(cl5:∀(b1 b8:Bool) (y1 y6 y8 y9:Value) (w:World),PW b1 false false b8 false false y1 y6 y8 y9 w→w.cell? ⟨f,0,none⟩=some (sl)∧PW b1 true false b8 false false y1 y6 y8 y9 w)(cl6:∀(b8:Bool) (y1 y6 y8 y9:Value) (w:World),PW true true false b8 false false y1 y6 y8 y9 w→∃v w',(Builtin.append_ #[37,37] 37 #[y1,sl]).run Tryz.prog w = .ok v w'∧PW true true true b8 false false y1 v y8 y9 w')(cl8:∀(b1 b5 b6:Bool) (y1 y6 y8 y9:Value) (w:World),PW b1 b5 b6 false false false y1 y6 y8 y9 w→PW b1 b5 b6 true false false y1 y6 (.slice (some ⟨w.heap.size,0,none⟩) 1 1) y9 (w.alloc (.cells #[z0,z1,z2,z3,z4,z5,z6,z7,z8,z9,z10,z11,z12,z13,z14] 31)))(cl9:∀(y1 y6 y8 y9:Value) (w:World),PW true true true true false false y1 y6 y8 y9 w→∃v w',(Builtin.append_ #[37,37] 37 #[y6,y8]).run Tryz.prog w = .ok v w'∧PW true true true true true false y1 y6 y8 v w')(cl12:∀(y1 y6 y8 y9:Value) (w:World),PW true true true true true false y1 y6 y8 y9 w→∃sa sn sc,y9 = .slice sa sn sc∧(∃cv,w.cell? ⟨f,0,none⟩=some cv)∧w.frozen? ⟨f,0,none⟩=false∧PW true true true true true true y1 y6 y8 y9 (w.setCell ⟨f,0,none⟩ (.slice sa sn sc)))(lk:∀(b1 b5 b6 b8 b9 b12:Bool) (y1 y6 y8 y9:Value) (w:World),PW b1 b5 b6 b8 b9 b12 y1 y6 y8 y9 w→Bk 31 w b #[z0,z1,z2,z3,z4,z5,z6,z7,z8,z9,z10,z11,z12,z13,z14]){t1 t2 t3 t5 t6 t7 t8 t9 t10 t11 t12 t13 t14 t15 t16 t17 t18 t19 t20 t21 t22 t23 t24 t25 t26 t27 t28 t29 t30 t31 t32 t33 t34 t35 t36 t37 t38 t39 t40 t41 t42 t43 t44 t45 t46 t47 t48 t49 t50 t51 t52 t53 t54 t55 t56 t57 t58 t59 t60 t61 t62 t63 t64 t65 t66 t67 t68 t69 t70 t71 t72 t73 t74 t75 t76 t77 t78 t79 t80 t81 t82 t83 t84 t85 t86 t87 t88 t89 t90:Value}(w0:PW false false false false false false t71 t76 t78 t79 w.drew){ds:List Deferred}{Q:Exit→Act→World→Prop}
  (h:∀(y1 y6 y8 y9:Value) (w1:World),PW true true true true true true y1 y6 y8 y9 w1→Q .normal {tmps:=#[.pointer (some ⟨f,0,none⟩),t1,t2,t3,.pointer (some ⟨b,0,none⟩),t5,t6,t7,t8,t9,t10,t11,t12,t13,t14,t15,t16,t17,t18,t19,t20,t21,t22,t23,t24,t25,t26,t27,t28,t29,t30,t31,t32,t33,t34,t35,t36,t37,t38,t39,t40,t41,t42,t43,t44,t45,t46,t47,t48,t49,t50,t51,t52,t53,t54,t55,t56,t57,t58,t59,t60,t61,t62,t63,t64,t65,t66,t67,t68,t69,.pointer (some ⟨f,0,none⟩),y1,.pointer (some ⟨f,0,none⟩),.pointer (some ⟨f,0,none⟩),.pointer (some ⟨f,0,none⟩),sl,y6,.agg #[z0,z1,z2,z3,z4,z5,z6,z7,z8,z9,z10,z11,z12,z13,z14],y8,y9,.pointer (some ⟨f,0,none⟩),.pointer (some ⟨f,0,none⟩),t82,t83,t84,t85,t86,t87,t88,t89,t90],defers:=ds} w1) :
  (Code.region 16 plRO true).wp Tryz.prog Q {tmps:=#[.pointer (some ⟨f,0,none⟩),t1,t2,t3,.pointer (some ⟨b,0,none⟩),t5,t6,t7,t8,t9,t10,t11,t12,t13,t14,t15,t16,t17,t18,t19,t20,t21,t22,t23,t24,t25,t26,t27,t28,t29,t30,t31,t32,t33,t34,t35,t36,t37,t38,t39,t40,t41,t42,t43,t44,t45,t46,t47,t48,t49,t50,t51,t52,t53,t54,t55,t56,t57,t58,t59,t60,t61,t62,t63,t64,t65,t66,t67,t68,t69,t70,t71,t72,t73,t74,t75,t76,t77,t78,t79,t80,t81,t82,t83,t84,t85,t86,t87,t88,t89,t90],defers:=ds} w:=by
 have hsz:plRO.size=13:=by kernel_rfl
 generalize hT:List.toArray _=T0
 have hs:T0.size=91:=by subst hT;rfl
 have g0:T0.getD 0 undef = .pointer (some ⟨f,0,none⟩):=by subst hT;rfl
 have g4:T0.getD 4 undef = .pointer (some ⟨b,0,none⟩):=by subst hT;rfl
 obtain⟨W,hV⟩:∃W:List ((Nat×(Value→Value)) ⊕ Value),W=[.inr (.pointer (some ⟨f,0,none⟩)),.inl (1,id),.inr (.pointer (some ⟨f,0,none⟩)),.inr (.pointer (some ⟨f,0,none⟩)),.inr (.pointer (some ⟨f,0,none⟩)),.inr (sl),.inl (6,id),.inr (.agg #[z0,z1,z2,z3,z4,z5,z6,z7,z8,z9,z10,z11,z12,z13,z14]),.inl (8,id),.inl (9,id),.inr (.pointer (some ⟨f,0,none⟩)),.inr (.pointer (some ⟨f,0,none⟩)),.inr undef]:=⟨_,rfl⟩
 refine wp_plan (by kernel_rfl) T0 ds [1,5,6,8,9,12] plR_m (mkV W) (fun dx yx wx=>PW (dx 1) (dx 5) (dx 6) (dx 8) (dx 9) (dx 12) (yx 1) (yx 6) (yx 8) (yx 9) wx) w (by rw [hs];kernel_rfl) (by kernel_rfl) (by kernel_rfl) (by rw [hsz];decide) (fun cx hc ix hne ha yx vx=>mkV_fix (by rw [hV];kernel_rfl) hne ha yx vx) (?key) (fun cx hc ox ho dx yx Tx wx hd hdb hda hK hW=>?_) ⟨fun k=>if k=1 then t71 else if k=6 then t76 else if k=8 then t78 else if k=9 then t79 else undef,w0⟩ (fun dx yx wx hd hW=>?_)
 case key=>
  rw [hsz]
  refine all_step (all_step (all_step (all_step (all_step (all_step (all_step (all_step (all_step (all_step (all_step (all_step (all_step all_zero ?_) ?_) ?_) ?_) ?_) ?_) ?_) ?_) ?_) ?_) ?_) ?_) ?_
  all_goals
   intro ox ho hic dx yx Tx wx hdb hK hW
   replace hdb:=Lib.hid hdb
  ·exact pl0 70 0 26 ho hK g0 fun ps af e=>k_mv e
  ·exact absurd (by decide) hic
  ·exact pl0 72 0 26 ho hK g0 fun ps af e=>k_mv e
  ·exact pl1 73 72 2 0 ho hK fun ps af e=>k_nc e
  ·exact pl1 74 73 3 0 ho hK fun ps af e=>k_fa40_0 e
  ·exact absurd (by decide) hic
  ·exact absurd (by decide) hic
  ·obtain⟨ps,af,rfl⟩:=core (some 77) (.load 31 (.tmp 4)) 31 none ho
   have e4:Tx.getD 4 undef = .pointer (some ⟨b,0,none⟩):=hK.of (by kernel_rfl) g4
   have hl:=lk _ _ _ _ _ _ _ _ _ _ _ hW
   exact wpOp_plain ho rfl (wp_load_row 31 _ rfl b (by first | exact e4 | rfl) 31 _ (0,0) _ hl Tryz.underlying31 rfl i31 ⟨by subst hV;rfl,rfl⟩)
  ·exact absurd (by decide) hic
  ·exact absurd (by decide) hic
  ·exact pl1 80 70 0 0 ho hK fun ps af e=>k_nc e
  ·exact pl1 81 80 10 0 ho hK fun ps af e=>k_fa40_0 e
  ·exact absurd (by decide) hic
 ·have hcase:cx=1∨cx=5∨cx=6∨cx=8∨cx=9∨cx=12:=by simpa using hc
  rcases hcase with rfl | rfl | rfl | rfl | rfl | rfl
  ·obtain⟨ps,af,rfl⟩:=core (some 71) (.buildSlice 37 0 #[]) 37 none ho
   have hW1:PW (dx 1) (dx 5) (dx 6) (dx 8) (dx 9) (dx 12) (yx 1) (yx 6) (yx 8) (yx 9) wx:=hW
   have f6:=hq hda 6
   have f9:=hq hda 9
   have f12:=hq hda 12
   clear hdb hda
   rw [hd,f6.out,f9.out,f12.out] at hW1
   clear hd hW hc
   have hW2:=cl1 _ _ _ _ _ _ _ hW1
   subst hV
   refine wpOp_plain ho rfl ?_
   go_simp
   refine⟨_,rfl,?_⟩
   simpa [updB,upd,f6.out,f9.out,f12.out] using hW2
  ·obtain⟨ps,af,rfl⟩:=core (some 75) (.load 37 (.tmp 74)) 37 none ho
   have e74:Tx.getD 74 undef = .pointer (some ⟨f,0,none⟩):=hK.is 4 ho
   have hW1:PW (dx 1) (dx 5) (dx 6) (dx 8) (dx 9) (dx 12) (yx 1) (yx 6) (yx 8) (yx 9) wx:=hW
   have f6:=hq hda 6
   have f9:=hq hda 9
   have f12:=hq hda 12
   clear hdb hda
   rw [hd,f6.out,f9.out,f12.out] at hW1
   clear hd hW hc
   obtain⟨hl,hW2⟩:=cl5 _ _ _ _ _ _ _ hW1
   subst hV
   refine wpOp_plain ho rfl ?_
   go_simp
   first | refine⟨undef,rfl,?_⟩ | refine⟨⟨undef,rfl⟩,?_⟩ | skip
   simpa [updB,upd,f6.out,f9.out,f12.out] using hW2
  ·obtain⟨ps,af,rfl⟩:=core (some 76) (.call {callee:= .builtin Builtin.append,args:=#[.tmp 71,.tmp 75],argTypes:=#[37,37]}) 37 none ho
   have e71:Tx.getD 71 undef=yx 1:=hK.is 1 ho
   have e75:Tx.getD 75 undef=sl:=hK.is 5 ho
   have hW1:PW (dx 1) (dx 5) (dx 6) (dx 8) (dx 9) (dx 12) (yx 1) (yx 6) (yx 8) (yx 9) wx:=hW
   have f1:=hq hdb 1
   have f5:=hq hdb 5
   have f9:=hq hda 9
   have f12:=hq hda 12
   clear hdb hda
   rw [hd,f1.out,f5.out,f9.out,f12.out] at hW1
   clear hd hW hc
   obtain⟨vx,w2,hrun,hW2⟩:=cl6 _ _ _ _ _ _ hW1
   subst hV
   refine wpOp_plain ho rfl (wp_append_runE _ _ _ _ rfl _ _ (by first | exact e71 | rfl) (by first | exact e75 | rfl) vx w2 hrun ⟨vx,rfl,?_⟩)
   simpa [updB,upd,f1.out,f5.out,f9.out,f12.out] using hW2
  ·obtain⟨ps,af,rfl⟩:=core (some 78) (.buildSlice 37 1 #[(0,.tmp 77)]) 37 none ho
   have e77:Tx.getD 77 undef = .agg #[z0,z1,z2,z3,z4,z5,z6,z7,z8,z9,z10,z11,z12,z13,z14]:=hK.is 7 ho
   have hW1:PW (dx 1) (dx 5) (dx 6) (dx 8) (dx 9) (dx 12) (yx 1) (yx 6) (yx 8) (yx 9) wx:=hW
   have f9:=hq hda 9
   have f12:=hq hda 12
   clear hdb hda
   rw [hd,f9.out,f12.out] at hW1
   clear hd hW hc
   have hW2:=cl8 _ _ _ _ _ _ _ _ hW1
   simp only [Array.getD_eq_getD_getElem?] at e77
   subst hV
   refine wpOp_plain ho rfl ?_
   go_simp
   refine⟨_,rfl,?_⟩
   simpa [updB,upd,f9.out,f12.out] using hW2
  ·obtain⟨ps,af,rfl⟩:=core (some 79) (.call {callee:= .builtin Builtin.append,args:=#[.tmp 76,.tmp 78],argTypes:=#[37,37]}) 37 none ho
   have e76:Tx.getD 76 undef=yx 6:=hK.is 6 ho
   have e78:Tx.getD 78 undef=yx 8:=hK.is 8 ho
   have hW1:PW (dx 1) (dx 5) (dx 6) (dx 8) (dx 9) (dx 12) (yx 1) (yx 6) (yx 8) (yx 9) wx:=hW
   have f1:=hq hdb 1
   have f5:=hq hdb 5
   have f6:=hq hdb 6
   have f8:=hq hdb 8
   have f12:=hq hda 12
   clear hdb hda
   rw [hd,f1.out,f5.out,f6.out,f8.out,f12.out] at hW1
   clear hd hW hc
   obtain⟨vx,w2,hrun,hW2⟩:=cl9 _ _ _ _ _ hW1
   subst hV
   refine wpOp_plain ho rfl (wp_append_runE _ _ _ _ rfl _ _ (by first | exact e76 | rfl) (by first | exact e78 | rfl) vx w2 hrun ⟨vx,rfl,?_⟩)
   simpa [updB,upd,f1.out,f5.out,f6.out,f8.out,f12.out] using hW2
  ·obtain⟨ps,af,rfl⟩:=core none (.store 37 (.tmp 81) (.tmp 79)) 0 none ho
   have e81:Tx.getD 81 undef = .pointer (some ⟨f,0,none⟩):=hK.is 11 ho
   have e79:Tx.getD 79 undef=yx 9:=hK.is 9 ho
   have hW1:PW (dx 1) (dx 5) (dx 6) (dx 8) (dx 9) (dx 12) (yx 1) (yx 6) (yx 8) (yx 9) wx:=hW
   have f1:=hq hdb 1
   have f5:=hq hdb 5
   have f6:=hq hdb 6
   have f8:=hq hdb 8
   have f9:=hq hdb 9
   clear hdb hda
   rw [hd,f1.out,f5.out,f6.out,f8.out,f9.out] at hW1
   clear hd hW hc
   obtain⟨sa,sn,sc,ey,⟨cv,hcv⟩,hfz,hW2⟩:=cl12 _ _ _ _ _ hW1
   rw [ey] at e79
   subst hV
   refine wpOp_plain ho rfl ?_
   go_simp
   simpa [updB,upd,f1.out,f5.out,f6.out,f8.out,f9.out] using hW2
 ·have hW1:PW (dx 1) (dx 5) (dx 6) (dx 8) (dx 9) (dx 12) (yx 1) (yx 6) (yx 8) (yx 9) wx:=hW
  rw [hd 1 (by decide),hd 5 (by decide),hd 6 (by decide),hd 8 (by decide),hd 9 (by decide),hd 12 (by decide)] at hW1
  have hQ:=h _ _ _ _ _ hW1
  rw [hsz]
  subst hV hT
  refine cast (congrArg (fun Tx=>Q .normal ⟨Tx,ds⟩ wx) ?_) hQ
  kernel_rfl
end Go.Proofs.YthogppennalobaaGreatDoor.Pl
namespace Go.Proofs.YthogppennalobaaGreatDoor
open Go.RowKit Go.Sort
section
variable {P:Program}
theorem any_below_tail {Q:Exit→Act→World→Prop}{a:Act}{w:World}{l:List Oper}(n:Nat)(hB:Region.lexTailB .any l.toArray n=true)
  (h:wpQuiet P l.toArray (fun w'=>∃p:Regrown,w'=grow (redrawn w p.d) p.os) (fun a'=>∀w',(∃p:Regrown,w'=grow (redrawn w p.d) p.os)→wpList P l.toArray Q (l.drop n) a' w') (l.take n) a):wpAny P .any l.toArray Q l.toArray.size (Array.replicate l.toArray.size false) a {w with drawn:=w.drawn+1}:=by
 simp only [Region.lexTailB,Bool.and_eq_true,decide_eq_true_eq] at hB
 obtain⟨⟨⟨⟨hsel,hn⟩,hs⟩,hc⟩,hlex⟩:=hB
 have hn':n<l.length:=by simpa using hn
 have htl:(l.take n).length=n:=by simp;omega
 have hdl:(l.drop n).length=l.toArray.size - n:=by simp
 have inv0:HeadInv .any l.toArray n (Array.replicate l.toArray.size false):=
  ⟨by simp,fun j oj _ hl=>(by rw [getD_replicate_false] at hl;cases hl),fun t _ ht=>getD_in (by simpa using ht) (getD_replicate_false _ _)⟩
 have H:=headQ_lex (md:= .any) (g:=l.toArray.size - n) hsel hs hc hn (l.take n) 0 _ a (fun j hj=>by
  have hj':j<n:=by rw [htl] at hj;exact hj
  simp [hj']) (by simpa using htl) inv0 (by rw [htl];exact hlex) h
 have:=any_of_headQ (Q:=Q) (g:=l.toArray.size - n) (fun ls a' w' hw' hL=>by
  have:=wpAny_of_seq (md:= .any) (Q':=Q) (l.drop n) n ls a' w' (fun j=>by simp [List.getElem?_drop]) (by rw [hdl];exact hL.1) (hL.2 w' hw')
  rwa [hdl] at this) _ _ _ _ (show ∃p:Regrown,_=grow (redrawn w p.d) p.os from⟨⟨w.drawn+1,#[]⟩,by rw [grow_empty]⟩) H
 rw [htl,show n+(l.toArray.size - n)=l.toArray.size by omega] at this
 exact this
def noDefer (l:List Oper): Bool:=l.all fun o=>match o.op with
 |.defer _=>false
 |_=>true
theorem noDefer_spec {l:List Oper}(h:noDefer l=true){i:Nat}{o:Oper}(hi:l.toArray[i]?=some o)(c:Call): o.op≠ .defer c:=by
 intro hc
 have hm:o∈l:=List.mem_iff_getElem?.2 ⟨i,by simpa using hi⟩
 have:=List.all_eq_true.1 h o hm
 rw [hc] at this
 cases this
theorem op_in {l:Nat}{n:Nat}{ops:Array Oper}{Q:Exit→Act→World→Prop}{i:Nat}{K K':Act→World→Prop}{a:Act}{w:World}(hQ:∀a w,¬Q .outgrown a w)(hd:∀o,ops[i]?=some o→∀c,o.op≠ .defer c)(hK:∀a w,K a w→K' a w)(h:wpOp P ops Q i K a w): wpOpIn (Fence.wide.inRound l) n P ops Q i K' a w:=by
 unfold wpOp at h
 unfold wpOpIn
 cases hi:ops[i]? with
 |none=>
  rw [hi] at h
  exact hK _ _ h
 |some o=>
  rw [hi] at h
  simp only [] at h ⊢
  split
  ·rename_i hw
   rw [if_pos hw] at h
   rcases h with h | ⟨_,a',w',hq⟩
   ·refine⟨fun _ _=>trivial,?_⟩
    rw [Oper.semAt_eq _ _ _ (hd o hi)]
    unfold Oper.wp at h
    generalize (execOp a.eval o).run P w=r at h ⊢
    cases r with
    |halt e w'=>
     cases e<;>first | exact h | exact h.elim
    |ok x w'=>
     cases x with
     |value v=>exact hK _ _ h
     |skip=>exact hK _ _ h
     |defer d=>exact hK _ _ h
     |enter f args=>
      refine⟨(fun hh=>by cases hh),CallsIn.inRound l (callsIn_wide.2 (Calls.mono h ?_))⟩
      intro e w2 h2
      cases e with
      |returned v=>exact hK _ _ h2
      |panicked c=>exact h2
      |outgrown=>exact h2
     |row row args=>
      refine⟨(fun hh=>by cases hh),?_⟩
      intro c cs _
      obtain⟨v,w2,h2,h3⟩:=h c cs
      exact⟨v,w2,hK _ _ h2,stepsIn_wide.2 h3⟩
     |_=>exact h.elim
   ·exact absurd hq (hQ _ _)
  ·rename_i hw
   rw [if_neg hw] at h
   exact⟨fun _ _=>trivial,hK _ _ h⟩
theorem any_in {l:Nat}{n:Nat}{md:Region.Mode}{ops:Array Oper}{Q:Exit→Act→World→Prop}(hQ:∀a w,¬Q .outgrown a w)(hd:∀(i:Nat) (o:Oper),ops[i]?=some o→∀c:Call,o.op≠ .defer c): ∀(fuel:Nat) (listed:Array Bool) (a:Act) (w:World),wpAny P md ops Q fuel listed a w→wpAnyIn (Fence.wide.inRound l) n P md ops Q fuel listed a w:=by
 intro fuel
 induction fuel with
 |zero=>exact fun listed a w h=>h
 |succ fuel ih=>exact fun listed a w h=>⟨h.1,fun i hi=>op_in hQ (hd i) (fun a w h=>ih _ a w h) (h.2 i hi)⟩
theorem wpIn_region_below_tail {r m:Nat}{id:Nat}{Q:Exit→Act→World→Prop}{a:Act}{w:World}{l:List Oper}(n:Nat)(hm:P.follows .mixedOrders=true)(hB:Region.lexTailB .any l.toArray n=true)(hd:noDefer l=true)(hQ:∀a w,¬Q .outgrown a w)
  (h:wpQuiet P l.toArray (fun w'=>∃p:Regrown,w'=grow (redrawn w p.d) p.os) (fun a'=>∀w',(∃p:Regrown,w'=grow (redrawn w p.d) p.os)→wpList P l.toArray Q (l.drop n) a' w') (l.take n) a):(Code.region id l.toArray true).wpIn (Fence.wide.inRound r) m P Q a w:=
 wpIn_region_any hm (any_in hQ (fun i o hi c=>noDefer_spec hd hi c) _ _ _ _ (any_below_tail n hB h))
end
end Go.Proofs.YthogppennalobaaGreatDoor
namespace Go.Proofs.YthogppennalobaaGreatDoor.Pl
open Go.RowKit Go.Sort
section
variable {P:Program} {ops:Array Oper} {Q:Exit→Act→World→Prop}
theorem wpIn_plan {id r m:Nat}(hm:P.follows .mixedOrders=true)(hnd:noDefer ops.toList=true)(hQ:∀a w,¬Q .outgrown a w)(T0:Array Value)(ds:List Deferred)(cs:List Nat)(M:List (List Nat))(vs:(Nat→Value)→Nat→Value)(PW:(Nat→Bool)→(Nat→Value)→World→Prop)(w:World)
  (hB:dstB ops T0.size=true) (hbw:backB ops=true) (hM:maskB ops M=true) (hcin:∀c∈cs,c<ops.size)
  (hfix:∀c∈cs,∀i,i≠c→(M.getD i []).contains c=false→∀y v,vs (upd y c v) i=vs y i)
  (hplain:∀i,i<ops.size→Plain P ops Q T0 ds cs M vs PW i)
  (hchg:∀c∈cs,Chg P ops Q T0 ds cs M vs PW c)
  (h0:∃y,PW (fun _=>false) y w.drew)
  (hfin:∀d y w',(∀c∈cs,d c=true)→PW d y w'→Q .normal ⟨planT ops T0 (vs y) ops.size,ds⟩ w') :
  (Code.region id ops true).wpIn (Fence.wide.inRound r) m P Q ⟨T0,ds⟩ w:=
 wpIn_region_any hm (any_in hQ (fun i o hi c=>noDefer_spec (l:=ops.toList) hnd (by simpa using hi) c) _ _ _ _ (any_plan T0 ds cs M vs PW w hB hbw hM hcin hfix hplain hchg h0 hfin))
theorem op_entry {o:Oper}{a:Act}{w:World}{K:Act→World→Prop}(ty:TypeId)(m k:Operand)(ho:o.op = .mapEntry ty m k)(vm vk v:Value)(w':World)(hm:a.eval m=vm)(hk:a.eval k=vk)
  (hrun:(Instr.mapEntry ty vm vk).run P w = .ok v w') (h:K (a.put o.dst v) w'):o.wp P a w K Q:=by
 unfold Oper.wp execOp
 simp only [ho,hm,hk,Sem.run_bind,Sem.run_pure,hrun,Result.andThen_ok]
 exact h
theorem op_estore {o:Oper}{a:Act}{w:World}{K:Act→World→Prop}(ty:TypeId)(m k x:Operand)(ho:o.op = .entryStore ty m k x)(vm vk vx:Value)(w':World)(hm:a.eval m=vm)(hk:a.eval k=vk)(hx:a.eval x=vx)
  (hrun:(Instr.entryStore ty vm vk vx).run P w = .ok () w') (h:K (a.put o.dst undef) w'):o.wp P a w K Q:=by
 unfold Oper.wp execOp
 simp only [ho,hm,hk,hx,Sem.run_bind,Sem.run_pure,hrun,Result.andThen_ok]
 exact h
end
end Go.Proofs.YthogppennalobaaGreatDoor.Pl
