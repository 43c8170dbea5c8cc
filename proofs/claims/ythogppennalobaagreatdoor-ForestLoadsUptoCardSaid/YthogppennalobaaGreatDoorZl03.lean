/- kill; a node by its secret. Condition: at most a million nodes. Rows of texts: laid, read, copied (copiedList). Condition: at most a million texts of 2^48 bytes. The drawn region of copied. No condition. A node copied (copied). Condition: its texts have at most 2^48 bytes. -/
import Derived.Deep.QuietTactic
import Derived.Test.YthogppennalobaaGreatDoorZl02
import Derived.Lib.AppendZeros
import Derived.Test.YthogppennalobaaGreatDoorZl01
import Derived.Laws.CopyOwn
import Derived.Laws.Tables
set_option linter.unusedVariables false
set_option linter.unusedSimpArgs false
set_option maxRecDepth 100000
namespace Go.Proofs.YthogppennalobaaGreatDoor
open Go.RowKit Go.Sort Forest
theorem kill_any {w:World}{g:Nat}{n:Nd}{sv av up:Value}(K:Bk 75 w g (ndC n sv av up)): Calls Tryz.prog 67 #[kpt g] w fun e w'=>e = .returned (.bool (!n.dead))∧w'=w.setCell ⟨g,9,none⟩ (.bool true):=by
 have c9:w.cell? ⟨g,9,none⟩=some (.bool n.dead):=K.cell 9
 have f9:=K.fro 9
 clear K
 generalize n.dead=d at *
 unfold kpt
 go_enter Tryz.func67,Tryz.ntmps67
 go_wp2
 go_ret
 exact⟨rfl,rfl⟩
theorem sec_any {w:World}{g q:Nat}{t s:Bs}(h:w.cell? ⟨g,13,none⟩=some (txt t))(h2:w.cell? ⟨q,0,none⟩=some (txt s)): Calls Tryz.prog 108 #[kpt g,.pointer (some ⟨q,0,none⟩)] w fun e w'=>e = .returned (.bool (t == s))∧Below w.heap.size w w':=by
 unfold kpt
 unfold txt at h h2
 obtain⟨b,hb⟩:∃b,b=(t == s):=⟨_,rfl⟩
 have hb2:(t == s)=b:=hb.symm
 rw [← hb]
 clear hb
 go_enter Tryz.func108,Tryz.ntmps108
 go_wp2_with fail
 go_quiet (fail)
 go_wp2_with fail
 go_returns
 exact⟨rfl,rfl,rfl,rfl,Nat.le_refl _,fun _ _=>rfl⟩
theorem cell_below {w w':World}{a:Addr}{v:Value}(hb:Below w.heap.size w w')(h:w.cell? a=some v): w'.cell? a=some v:=by
 have hlt:a.block<w.heap.size:=by
  unfold World.cell? at h
  split at h
  ·rename_i e;exact blk_lt e
  ·cases h
 rw [hb.cell hlt];exact h
def secP (ns:Ns)(s:Bs): Option Nat:=ns.findIdx? fun k=>k.2.secret == s
def posV:Option Nat→Int
 |none=> -1
 |some i=>(i:Int)
theorem index_sec {w:World}{ns:Ns}{a:Option Addr}(c:Nat)(hl:ns.length≤1000000)(hc:∀i (hi:i<ns.length),∃g,a=some ⟨g,0,none⟩∧w.cell? ⟨g,i,none⟩=some (kpt ns[i].1))
  (hn:∀k∈ns,w.cell? ⟨k.1,13,none⟩=some (txt k.2.secret)) (q:Nat) (s:Bs) (hq:w.cell? ⟨q,0,none⟩=some (txt s)) :
  Calls Tryz.prog 107 #[.slice a ns.length c,.func (.func 108) #[] #[.pointer (some ⟨q,0,none⟩)]] w fun e w'=>e = .returned (.int .i64 (posV (secP ns s)))∧Below w.heap.size w w':=by
 have HC:=Lib.hid hc
 have HN:=Lib.hid hn
 have HQ:=Lib.hid hq
 clear hc hn hq
 go_enter Tryz.func107,Tryz.ntmps107
 go_wp2_with fail
 go_loopw [8] (fun iv wr=>∃i:Nat,iv = .int .i64 (i:Int)∧i≤ns.length∧Hid (Below w.heap.size w wr)∧Hid (∀j (h:j<i) (h2:j<ns.length),(ns[j].2.secret == s)=false)) (fun iv _=>ns.length - (intOf iv).toNat)
 case atStart=>exact⟨0,rfl,Nat.zero_le _,Lib.hid (Below.refl _ _),Lib.hid fun j h=>by omega⟩
 case round=>
  obtain⟨i,rfl,hi,HB,HI⟩:=hrel
  by_cases hlt:i<ns.length
  ·obtain⟨g,rfl,hcell⟩:=HC.out i hlt
   obtain⟨k,hk⟩:∃k,ns[i]=k:=⟨_,rfl⟩
   have hkm:k∈ns:=hk▸List.getElem_mem hlt
   have hcell2:wr.cell? ⟨g,i,none⟩=some (.pointer (some ⟨k.1,0,none⟩)):=cell_below HB.out (by rw [hcell,hk];rfl)
   have hs:Hid (Calls Tryz.prog 108 #[.pointer (some ⟨k.1,0,none⟩),.pointer (some ⟨q,0,none⟩)] wr fun e w'=>e = .returned (.bool (k.2.secret == s))∧Below wr.heap.size wr w'):=Lib.hid (sec_any (cell_below HB.out (HN.out k hkm)) (cell_below HB.out HQ.out))
   have hltI:(i:Int)<(ns.length:Int):=by omega
   have HK:=Lib.hid hk
   clear hcell hk hkm
   cases hb:(k.2.secret == s) with
   |true=>
    rw [hb] at hs
    have HR:Hid (secP ns s=some i):=Lib.hid (by
     unfold secP
     rw [List.findIdx?_eq_some_iff_getElem]
     exact⟨hlt,by rw [HK.out];exact hb,fun j hj=>by rw [HI.out j hj (by omega)];simp⟩)
    clear hb
    generalize k.1=kb at *
    go_wp2_with (go_at_call 108;refine hs.out.mono ?_;rintro e w' ⟨rfl,hb⟩)
    go_ret
    exact⟨by rw [HR.out];rfl,HB.out.trans (hb.mono HB.out.size)⟩
   |false=>
    rw [hb] at hs
    have HX:=Lib.hid hb
    clear hb
    generalize hkb:k.1=kb at *
    have HKB:=Lib.hid hkb
    clear hkb
    go_wp2_with (go_at_call 108;refine hs.out.mono ?_;rintro e w' ⟨rfl,hb⟩;have HB2:=Lib.hid (HB.out.trans (hb.mono HB.out.size));clear hb)
    go_roundw
    case rel=>
     refine⟨i+1,by go_num,by omega,HB2,Lib.hid fun j h h2=>?_⟩
     rcases Nat.lt_succ_iff_lt_or_eq.1 h with h3 | rfl
     ·exact HI.out j h3 h2
     ·rw [HK.out];exact HX.out
    case measure=>simp [intOf];omega
  ·have hltI:¬(i:Int)<(ns.length:Int):=by omega
   have HR:Hid (secP ns s=none):=Lib.hid (by
    unfold secP
    rw [List.findIdx?_eq_none_iff]
    intro x hx
    obtain⟨j,hj,rfl⟩:=List.getElem_of_mem hx
    exact HI.out j (by omega) hj)
   go_wp2_with fail
   go_ret
   exact⟨by rw [HR.out];rfl,HB.out⟩
end Go.Proofs.YthogppennalobaaGreatDoor
namespace Go.Proofs.YthogppennalobaaGreatDoor
open Go.RowKit Go.Sort Forest OwnR TxO
theorem txts_one (l:List Bs): ∀u∈l.map txt,u.oneCell'=true:=by
 intro u hu
 simp only [List.mem_map] at hu
 obtain⟨s,_,rfl⟩:=hu
 rfl
theorem info_parts {P:Program}{t:TypeId}{z:Value}{n b:Nat}(h:(P.info? t).map (fun i=>(i.zero,i.size,i.bytes))=some (some z,n,b)): ∃i,P.info? t=some i∧i.zero=some z∧i.size=n∧i.bytes=b:=by
 cases hi:P.info? t with
 |none=>rw [hi] at h;cases h
 |some i=>rw [hi] at h;simp at h;exact⟨i,rfl,h.1,h.2.1,h.2.2⟩
theorem info9:(Tryz.prog.info? 9).map (fun i=>(i.zero,i.size,i.bytes))=some (some (.string ⟨#[]⟩),1,16):=by kernel_rfl
theorem u29:Tryz.prog.underlying 29=some (.slice 9):=by kernel_rfl
def Sr (w0 w:World)(v:Value)(l:List Bs): Prop:=w.ownsRow 0 9 1 v l.length (l.map txt)∧Below w0.heap.size w0 w∧∀k,v.ownBlock=some k→w0.heap.size≤k
theorem Sr.down {w0 w w':World}{v:Value}{l:List Bs}(h:Sr w0 w v l)(hb:Below w.heap.size w w'): Sr w0 w' v l:=
 ⟨owns_below h.1 hb,h.2.1.trans (hb.mono h.2.1.size),h.2.2⟩
theorem Sr.nil (w:World): Sr w w (.slice none 0 0) []:=⟨⟨rfl,.inl ⟨rfl,rfl⟩⟩,Below.refl _ _,fun k hk=>by cases hk⟩
theorem Sr.empty {w0 w:World}(hb:Below w0.heap.size w0 w): Sr w0 (w.alloc (.cells #[] 9)) (.slice (some ⟨w.heap.size,0,none⟩) 0 0) []:=
 ⟨⟨rfl,.inr ⟨w.heap.size,0,#[],rfl,Nat.zero_le _,heap_alloc_new w _,Nat.le_refl _,Nat.zero_le _,rfl,rfl⟩⟩,hb.alloc hb.size _,fun k hk=>by cases hk;exact hb.size⟩
theorem Sr.shape {w0 w:World}{v:Value}{l:List Bs}(h:Sr w0 w v l): ∃a c,v = .slice a l.length c:=owns_shape h.1
theorem Sr.cell {w0 w:World}{a:Option Addr}{m c:Nat}{l:List Bs}(h:Sr w0 w (.slice a m c) l){i:Nat}(hi:i<l.length): ∃g,a=some ⟨g,0,none⟩∧w.cell? ⟨g,i,none⟩=some (txt l[i]):=
 owns_cell h.1 (by rw [List.getElem?_map,List.getElem?_eq_getElem hi];rfl)
theorem Sr.app {w0 W:World}{v:Value}{l:List Bs}(ty:TypeId)(h:Sr w0 W v l)(a:Addr)(c:Nat)(k:List Bs)(hk:∀j (hj:j<k.length),W.cell? (a.add j)=some (txt k[j]))(hl:l.length+k.length≤4194304):
  ∃v' w',(Builtin.append_ #[29,29] ty #[v,.slice (some a) k.length c]).run Tryz.prog W = .ok v' w'∧Sr w0 w' v' (l++k):=by
 obtain⟨i0,hi,hz0,hz1,hz2⟩:=info_parts info9
 obtain⟨v',w',hrun,ho,hgr,hv,_⟩:=app_own W 29 ty 9 i0 (.string ⟨#[]⟩) 1 16 u29 hi hz0 hz1 hz2 rfl (by decide) v l.length (l.map txt) h.1 a k.length c (k.map txt) (by simp) (by
  intro j u hu
  rw [List.getElem?_map] at hu
  cases e:k[j]? with
  |none=>rw [e] at hu;cases hu
  |some x=>
   rw [e] at hu
   cases hu
   obtain⟨hj,rfl⟩:=List.getElem?_eq_some_iff.1 e
   exact hk j hj) (txts_one _) (by unfold maxLen;omega) (by omega)
 refine⟨v',w',hrun,⟨by rw [List.length_append,List.map_append];exact ho,h.2.1.grown hgr h.2.1.size h.2.2,fun q hq=>?_⟩⟩
 rcases hv with e | e
 ·exact h.2.2 q (e▸hq)
 ·exact Nat.le_trans h.2.1.size (e q hq)
theorem wp_rec {ops:Array Oper}{rest:List Oper}{o:Oper}{a:Act}{Q:Exit→Act→World→Prop}{w0 W:World}(hgd:o.guard=none)(s x:Operand)(ho:o.op = .call {callee:= .builtin .append,args:=#[s,x],argTypes:=#[29,29]})
  (v:Value) (l:List Bs) (q c:Nat) (b:Bs) (hs:a.eval s=v) (hx:a.eval x = .slice (some ⟨q,0,none⟩) 1 c) (hI:Sr w0 W v l) (hq:Bk 9 W q #[.string ⟨b.toArray⟩]) (hl:l.length+1≤4194304)
  (h:∀v' w',Sr w0 w' v' (l++[b])→wpList Tryz.prog ops Q rest (a.put o.dst v') w'):wpList Tryz.prog ops Q (o::rest) a W:=by
 obtain⟨v',w',hrun,hu⟩:=hI.app o.type ⟨q,0,none⟩ c [b] (fun j hj=>by
  have:j=0:=by simpa using hj
  subst this
  exact hq.cell 0) (by simpa using hl)
 exact Lib.wpList_append_run W hgd s x 29 29 ho _ _ hs hx v' w' hrun (h v' w' hu)
theorem sclone_any (l:Bs)(w:World)(h:l.length≤281474976710656): Calls Tryz.prog 79 #[.string ⟨l.toArray⟩] w fun e w'=>e = .returned (.string ⟨l.toArray⟩)∧Below w.heap.size w w':=by
 go_enter Tryz.func79,Tryz.ntmps79
 go_wp2_with (fail)
 refine(Tryz.stringslite_Clone ⟨l.toArray⟩ w (by show l.toArray.size≤_;simpa using h)).mono ?_
 rintro e w1 ⟨rfl,b1⟩
 go_wp2
 go_ret
 exact⟨rfl,b1⟩
def Rd (w:World)(v:Value)(l:List Bs): Prop:=∃a c,v = .slice a l.length c∧∀i (h:i<l.length),∃b o,a=some ⟨b,o,none⟩∧w.cell? ⟨b,o+i,none⟩=some (txt l[i])
theorem Rd.below {w w':World}{v:Value}{l:List Bs}(h:Rd w v l)(hb:Below w.heap.size w w'): Rd w' v l:=by
 obtain⟨a,c,rfl,hc⟩:=h
 exact⟨a,c,rfl,fun i hi=>by obtain⟨b,o,h1,h2⟩:=hc i hi;exact⟨b,o,h1,cell_below hb h2⟩⟩
theorem cell_only {w w':World}{L:List Nat}{a:Addr}{v:Value}(ho:Only L w w')(h:w.cell? a=some v)(hL:a.block∉L): w'.cell? a=some v:=by
 have hlt:a.block<w.heap.size:=by
  unfold World.cell? at h
  split at h
  ·rename_i e;exact blk_lt e
  ·cases h
 rw [World.cell?_of_block (w:=w) (ho.block _ hlt hL)]
 exact h
theorem Rd.only {w w':World}{L:List Nat}{v:Value}{l:List Bs}(h:Rd w v l)(ho:Only L w w')(hL:∀g,v.ownBlock=some g→g∉L): Rd w' v l:=by
 obtain⟨a,c,rfl,hc⟩:=h
 exact⟨a,c,rfl,fun i hi=>by
  obtain⟨b,o,rfl,h2⟩:=hc i hi
  exact⟨b,o,rfl,cell_only ho h2 (hL b rfl)⟩⟩
theorem Rd.onlyE {w w':World}{L:List Nat}{v:Value}{l:List Bs}(h:Rd w v l)(ho:Only L w w')(hL:l≠[]→∀g,v.ownBlock=some g→g∉L): Rd w' v l:=by
 by_cases e:l=[]
 ·obtain⟨a,c,rfl,_⟩:=h
  exact⟨a,c,rfl,fun i hi=>by rw [e] at hi;cases hi⟩
 ·exact h.only ho (hL e)
theorem Tx.rd {w:World}{v:Value}{l:List Bs}(h:Tx w v l): Rd w v l:=by
 obtain⟨a,c,e,h1,_⟩:=h
 exact⟨a,c,e,h1⟩
theorem Tx.only {w w':World}{L:List Nat}{v:Value}{l:List Bs}(h:Tx w v l)(ho:Only L w w')(hL:∀g,v.ownBlock=some g→g∉L): Tx w' v l:=TxO.owns_only h ho hL
set_option maxHeartbeats 4000000 in
theorem copiedList_any (l:List Bs)(hl:l.length≤1000000)(hs:∀s∈l,s.length≤281474976710656)(w:World)(v:Value)(hc:Rd w v l): Calls Tryz.prog 81 #[v] w fun e w'=>∃v,e = .returned v∧Sr w w' v l:=by
 have HS:=Lib.hid hs
 obtain⟨a,c,rfl,hc⟩:=hc
 have HC:=Lib.hid hc
 clear hc hs
 go_enter Tryz.func81,Tryz.ntmps81
 go_wp2_with fail
 go_loopw [3,8] (fun sv iv wr=>∃i:Nat,i≤l.length∧iv = .int .i64 (i:Int)∧Hid (Sr w wr sv (l.take i))) (fun _ iv _=>l.length - (intOf iv).toNat)
 case atStart=>exact⟨0,Nat.zero_le _,rfl,Lib.hid (Sr.nil w)⟩
 case round=>
  obtain⟨i,hi,rfl,HI⟩:=hrel
  by_cases hlt:i<l.length
  ·obtain⟨s,hse⟩:∃s,l[i]'hlt=s:=⟨_,rfl⟩
   obtain⟨b,o,rfl,c0⟩:=HC.out i hlt
   have c1:wr.cell? ⟨b,o+i,none⟩=some (.string ⟨s.toArray⟩):=cell_below HI.out.2.1 (by rw [c0,hse];rfl)
   have HK:=Lib.hid (fun w=>sclone_any s w (HS.out s (hse▸List.getElem_mem hlt)))
   have hltI:(i:Int)<(l.length:Int):=by omega
   have HT:Hid (l.take (i+1)=l.take i++[s]):=Lib.hid (by rw [List.take_add_one,List.getElem?_eq_getElem hlt,hse];rfl)
   clear c0 hse
   go_wp2_with fail
   refine(HK.out _).mono ?_
   rintro e w2 ⟨rfl,hb2⟩
   have HS2:=Lib.hid (HI.out.down hb2)
   clear c1 hb2
   go_wp2_with (at_builtin;refine wp_rec rfl _ _ rfl _ (l.take i) w2.heap.size 1 s rfl rfl (HS2.out.down (by go_grown)) (Bk.new rfl) (by rw [List.length_take];omega) ?_;intro v' w3 hs3;replace HS2:=Lib.hid hs3;clear hs3)
   go_roundw
   case rel=>exact⟨i+1,by omega,by go_num,Lib.hid (by rw [HT.out];exact HS2.out)⟩
   case measure=>simp [intOf];omega
  ·have hie:i=l.length:=by omega
   have hltI:¬(i:Int)<(l.length:Int):=by omega
   go_wp2_with fail
   go_returns
   refine⟨_,rfl,?_⟩
   have:=HI.out
   rw [hie,List.take_length] at this
   exact this
end Go.Proofs.YthogppennalobaaGreatDoor
namespace Go.Proofs.YthogppennalobaaGreatDoor.Pl
open Go.RowKit Go.Sort
theorem k_fa31_11 {Q:Exit→Act→World→Prop}{T:Array Value}{ds:List Deferred}{w:World}{ty:TypeId}{dst:Option Tmp}{s:Nat}{ps af g}{b:Nat}(e:T.getD s undef = .pointer (some ⟨b,0,none⟩)): Oper.wp Tryz.prog ⟨dst,.fieldAddr 31 (.tmp s) 11,ty,ps,af,g⟩ ⟨T,ds⟩ w (fun a' w''=>a'=Act.put ⟨T,ds⟩ dst (.pointer (some ⟨b,11,none⟩))∧w''=w) Q:=by
 go_simp
theorem k_fa31_6 {Q:Exit→Act→World→Prop}{T:Array Value}{ds:List Deferred}{w:World}{ty:TypeId}{dst:Option Tmp}{s:Nat}{ps af g}{b:Nat}(e:T.getD s undef = .pointer (some ⟨b,0,none⟩)): Oper.wp Tryz.prog ⟨dst,.fieldAddr 31 (.tmp s) 6,ty,ps,af,g⟩ ⟨T,ds⟩ w (fun a' w''=>a'=Act.put ⟨T,ds⟩ dst (.pointer (some ⟨b,6,none⟩))∧w''=w) Q:=by
 go_simp
noncomputable def cpRO:Array Oper:=(Tryz.f51.body.bind fun c=>findR c 6).getD #[]
def cpR_m:List (List Nat):=[[],[],[1],[],[],[1,2,4],[1,2,4,5],[1,2,4,5],[1,2,4,5,7],[1,2,4,5,7]]
set_option maxHeartbeats 16000000 in
theorem cpR (PW:Bool→Bool→Bool→Bool→Bool→Bool→Value→Value→World→Prop)(g:Nat)(sv av:Value)(w:World)  (cl1:∀(b4:Bool) (y2 y5:Value) (w:World),PW false false b4 false false false y2 y5 w→w.cell? ⟨g,6,none⟩=some sv∧PW true false b4 false false false y2 y5 w)(cl2:∀(b4:Bool) (y2 y5:Value) (w:World),PW true false b4 false false false y2 y5 w→Calls Tryz.prog 81 #[sv] w fun e w1=>∃v,e = .returned v∧PW true true b4 false false false v y5 w1)(cl4:∀(b1 b2:Bool) (y2 y5:Value) (w:World),PW b1 b2 false false false false y2 y5 w→w.cell? ⟨g,11,none⟩=some av∧PW b1 b2 true false false false y2 y5 w)(cl5:∀(y2 y5:Value) (w:World),PW true true true false false false y2 y5 w→Calls Tryz.prog 81 #[av] w fun e w1=>∃v,e = .returned v∧PW true true true true false false y2 v w1)(cl7:∀(y2 y5:Value) (w:World),PW true true true true false false y2 y5 w→∃sa sn sc,y2 = .slice sa sn sc∧(∃cv,w.cell? ⟨g,6,none⟩=some cv)∧w.frozen? ⟨g,6,none⟩=false∧PW true true true true true false y2 y5 (w.setCell ⟨g,6,none⟩ (.slice sa sn sc)))(cl9:∀(y2 y5:Value) (w:World),PW true true true true true false y2 y5 w→∃sa sn sc,y5 = .slice sa sn sc∧(∃cv,w.cell? ⟨g,11,none⟩=some cv)∧w.frozen? ⟨g,11,none⟩=false∧PW true true true true true true y2 y5 (w.setCell ⟨g,11,none⟩ (.slice sa sn sc))){t0 t2 t3 t4 t5 t6 t7 t8 t9 t10 t11 t12 t13 t14 t15 t16 t17 t18 t19 t20 t21 t22 t23 t24 t25 t26 t27 t28 t29 t30 t31:Value}(w0:PW false false false false false false t25 t28 w.drew){ds:List Deferred}{Q:Exit→Act→World→Prop}
  (h:∀(y2 y5:Value) (w1:World),PW true true true true true true y2 y5 w1→Q .normal {tmps:=#[t0,.pointer (some ⟨g,0,none⟩),t2,t3,t4,t5,t6,t7,t8,t9,t10,t11,t12,t13,t14,t15,t16,t17,t18,t19,t20,t21,t22,.pointer (some ⟨g,6,none⟩),sv,y2,.pointer (some ⟨g,11,none⟩),av,y5,.pointer (some ⟨g,6,none⟩),.pointer (some ⟨g,11,none⟩),t31],defers:=ds} w1) :
  (Code.region 6 cpRO true).wp Tryz.prog Q {tmps:=#[t0,.pointer (some ⟨g,0,none⟩),t2,t3,t4,t5,t6,t7,t8,t9,t10,t11,t12,t13,t14,t15,t16,t17,t18,t19,t20,t21,t22,t23,t24,t25,t26,t27,t28,t29,t30,t31],defers:=ds} w:=by
 have hsz:cpRO.size=10:=by kernel_rfl
 generalize hT:List.toArray _=T0
 have hs:T0.size=32:=by subst hT;rfl
 have g1:T0.getD 1 undef = .pointer (some ⟨g,0,none⟩):=by subst hT;rfl
 obtain⟨W,hV⟩:∃W:List ((Nat×(Value→Value)) ⊕ Value),W=[.inr (.pointer (some ⟨g,6,none⟩)),.inr (sv),.inl (2,id),.inr (.pointer (some ⟨g,11,none⟩)),.inr (av),.inl (5,id),.inr (.pointer (some ⟨g,6,none⟩)),.inr undef,.inr (.pointer (some ⟨g,11,none⟩)),.inr undef]:=⟨_,rfl⟩
 refine wp_plan (by kernel_rfl) T0 ds [1,2,4,5,7,9] cpR_m (mkV W) (fun dx yx wx=>PW (dx 1) (dx 2) (dx 4) (dx 5) (dx 7) (dx 9) (yx 2) (yx 5) wx) w (by rw [hs];kernel_rfl) (by kernel_rfl) (by kernel_rfl) (by rw [hsz];decide) (fun cx hc ix hne ha yx vx=>mkV_fix (by rw [hV];kernel_rfl) hne ha yx vx) (?key) (fun cx hc ox ho dx yx Tx wx hd hdb hda hK hW=>?_) ⟨fun k=>if k=2 then t25 else if k=5 then t28 else undef,w0⟩ (fun dx yx wx hd hW=>?_)
 case key=>
  rw [hsz]
  refine all_step (all_step (all_step (all_step (all_step (all_step (all_step (all_step (all_step (all_step all_zero ?_) ?_) ?_) ?_) ?_) ?_) ?_) ?_) ?_) ?_
  all_goals
   intro ox ho hic dx yx Tx wx hdb hK hW
   replace hdb:=Lib.hid hdb
  ·exact pl0 23 1 0 ho hK (by kernel_rfl) (by kernel_rfl) g1 (by subst hV;rfl) fun ps af e=>k_fa31_6 e
  ·exact absurd (by decide) hic
  ·exact absurd (by decide) hic
  ·exact pl0 26 1 0 ho hK (by kernel_rfl) (by kernel_rfl) g1 (by subst hV;rfl) fun ps af e=>k_fa31_11 e
  ·exact absurd (by decide) hic
  ·exact absurd (by decide) hic
  ·exact pl0 29 1 0 ho hK (by kernel_rfl) (by kernel_rfl) g1 (by subst hV;rfl) fun ps af e=>k_fa31_6 e
  ·exact absurd (by decide) hic
  ·exact pl0 30 1 0 ho hK (by kernel_rfl) (by kernel_rfl) g1 (by subst hV;rfl) fun ps af e=>k_fa31_11 e
  ·exact absurd (by decide) hic
 ·have hcase:cx=1∨cx=2∨cx=4∨cx=5∨cx=7∨cx=9:=by simpa using hc
  rcases hcase with rfl | rfl | rfl | rfl | rfl | rfl
  ·obtain⟨ps,af,rfl⟩:=core (some 24) (.load 29 (.tmp 23)) 29 none ho (by kernel_rfl)
   have e23:Tx.getD 23 undef = .pointer (some ⟨g,6,none⟩):=hK.is 0 ho (by kernel_rfl) (by subst hV;rfl)
   have hW1:PW (dx 1) (dx 2) (dx 4) (dx 5) (dx 7) (dx 9) (yx 2) (yx 5) wx:=hW
   have f2:=hda 2 (by decide) (by kernel_rfl)
   have f5:=hda 5 (by decide) (by kernel_rfl)
   have f7:=hda 7 (by decide) (by kernel_rfl)
   have f9:=hda 9 (by decide) (by kernel_rfl)
   clear hdb hda
   rw [hd,f2,f5,f7,f9] at hW1
   replace f2:=Lib.hid f2
   replace f5:=Lib.hid f5
   replace f7:=Lib.hid f7
   replace f9:=Lib.hid f9
   clear hd hW hc
   obtain⟨hl,hW2⟩:=cl1 _ _ _ _ hW1
   subst hV
   refine wpOp_plain ho rfl ?_
   go_simp
   first | refine⟨undef,rfl,?_⟩ | refine⟨⟨undef,rfl⟩,?_⟩ | skip
   simpa [updB,upd,f2.out,f5.out,f7.out,f9.out] using hW2
  ·obtain⟨ps,af,rfl⟩:=core (some 25) (.call {callee:= .value (.func 81),args:=#[.tmp 24],argTypes:=#[29]}) 29 none ho (by kernel_rfl)
   have e24:Tx.getD 24 undef=sv:=hK.is 1 ho (by kernel_rfl) (by subst hV;rfl)
   have hW1:PW (dx 1) (dx 2) (dx 4) (dx 5) (dx 7) (dx 9) (yx 2) (yx 5) wx:=hW
   have f1:=hdb 1 (by decide) (by kernel_rfl)
   have f5:=hda 5 (by decide) (by kernel_rfl)
   have f7:=hda 7 (by decide) (by kernel_rfl)
   have f9:=hda 9 (by decide) (by kernel_rfl)
   clear hdb hda
   rw [hd,f1,f5,f7,f9] at hW1
   replace f1:=Lib.hid f1
   replace f5:=Lib.hid f5
   replace f7:=Lib.hid f7
   replace f9:=Lib.hid f9
   clear hd hW hc
   refine wpOp_plain ho rfl ?_
   go_simp
   go_at_call 81
   refine(cl2 _ _ _ _ hW1).mono ?_
   rintro ex w2 ⟨vx,rfl,hW2⟩
   subst hV
   refine⟨vx,rfl,?_⟩
   simpa [updB,upd,f1.out,f5.out,f7.out,f9.out] using hW2
  ·obtain⟨ps,af,rfl⟩:=core (some 27) (.load 29 (.tmp 26)) 29 none ho (by kernel_rfl)
   have e26:Tx.getD 26 undef = .pointer (some ⟨g,11,none⟩):=hK.is 3 ho (by kernel_rfl) (by subst hV;rfl)
   have hW1:PW (dx 1) (dx 2) (dx 4) (dx 5) (dx 7) (dx 9) (yx 2) (yx 5) wx:=hW
   have f5:=hda 5 (by decide) (by kernel_rfl)
   have f7:=hda 7 (by decide) (by kernel_rfl)
   have f9:=hda 9 (by decide) (by kernel_rfl)
   clear hdb hda
   rw [hd,f5,f7,f9] at hW1
   replace f5:=Lib.hid f5
   replace f7:=Lib.hid f7
   replace f9:=Lib.hid f9
   clear hd hW hc
   obtain⟨hl,hW2⟩:=cl4 _ _ _ _ _ hW1
   subst hV
   refine wpOp_plain ho rfl ?_
   go_simp
   first | refine⟨undef,rfl,?_⟩ | refine⟨⟨undef,rfl⟩,?_⟩ | skip
   simpa [updB,upd,f5.out,f7.out,f9.out] using hW2
  ·obtain⟨ps,af,rfl⟩:=core (some 28) (.call {callee:= .value (.func 81),args:=#[.tmp 27],argTypes:=#[29]}) 29 none ho (by kernel_rfl)
   have e27:Tx.getD 27 undef=av:=hK.is 4 ho (by kernel_rfl) (by subst hV;rfl)
   have hW1:PW (dx 1) (dx 2) (dx 4) (dx 5) (dx 7) (dx 9) (yx 2) (yx 5) wx:=hW
   have f1:=hdb 1 (by decide) (by kernel_rfl)
   have f2:=hdb 2 (by decide) (by kernel_rfl)
   have f4:=hdb 4 (by decide) (by kernel_rfl)
   have f7:=hda 7 (by decide) (by kernel_rfl)
   have f9:=hda 9 (by decide) (by kernel_rfl)
   clear hdb hda
   rw [hd,f1,f2,f4,f7,f9] at hW1
   replace f1:=Lib.hid f1
   replace f2:=Lib.hid f2
   replace f4:=Lib.hid f4
   replace f7:=Lib.hid f7
   replace f9:=Lib.hid f9
   clear hd hW hc
   refine wpOp_plain ho rfl ?_
   go_simp
   go_at_call 81
   refine(cl5 _ _ _ hW1).mono ?_
   rintro ex w2 ⟨vx,rfl,hW2⟩
   subst hV
   refine⟨vx,rfl,?_⟩
   simpa [updB,upd,f1.out,f2.out,f4.out,f7.out,f9.out] using hW2
  ·obtain⟨ps,af,rfl⟩:=core none (.store 29 (.tmp 29) (.tmp 25)) 0 none ho (by kernel_rfl)
   have e29:Tx.getD 29 undef = .pointer (some ⟨g,6,none⟩):=hK.is 6 ho (by kernel_rfl) (by subst hV;rfl)
   have e25:Tx.getD 25 undef=yx 2:=hK.is 2 ho (by kernel_rfl) (by subst hV;rfl)
   have hW1:PW (dx 1) (dx 2) (dx 4) (dx 5) (dx 7) (dx 9) (yx 2) (yx 5) wx:=hW
   have f1:=hdb 1 (by decide) (by kernel_rfl)
   have f2:=hdb 2 (by decide) (by kernel_rfl)
   have f4:=hdb 4 (by decide) (by kernel_rfl)
   have f5:=hdb 5 (by decide) (by kernel_rfl)
   have f9:=hda 9 (by decide) (by kernel_rfl)
   clear hdb hda
   rw [hd,f1,f2,f4,f5,f9] at hW1
   replace f1:=Lib.hid f1
   replace f2:=Lib.hid f2
   replace f4:=Lib.hid f4
   replace f5:=Lib.hid f5
   replace f9:=Lib.hid f9
   clear hd hW hc
   obtain⟨sa,sn,sc,ey,⟨cv,hcv⟩,hfz,hW2⟩:=cl7 _ _ _ hW1
   rw [ey] at e25
   subst hV
   refine wpOp_plain ho rfl ?_
   go_simp
   simpa [updB,upd,f1.out,f2.out,f4.out,f5.out,f9.out] using hW2
  ·obtain⟨ps,af,rfl⟩:=core none (.store 29 (.tmp 30) (.tmp 28)) 0 none ho (by kernel_rfl)
   have e30:Tx.getD 30 undef = .pointer (some ⟨g,11,none⟩):=hK.is 8 ho (by kernel_rfl) (by subst hV;rfl)
   have e28:Tx.getD 28 undef=yx 5:=hK.is 5 ho (by kernel_rfl) (by subst hV;rfl)
   have hW1:PW (dx 1) (dx 2) (dx 4) (dx 5) (dx 7) (dx 9) (yx 2) (yx 5) wx:=hW
   have f1:=hdb 1 (by decide) (by kernel_rfl)
   have f2:=hdb 2 (by decide) (by kernel_rfl)
   have f4:=hdb 4 (by decide) (by kernel_rfl)
   have f5:=hdb 5 (by decide) (by kernel_rfl)
   have f7:=hdb 7 (by decide) (by kernel_rfl)
   clear hdb hda
   rw [hd,f1,f2,f4,f5,f7] at hW1
   replace f1:=Lib.hid f1
   replace f2:=Lib.hid f2
   replace f4:=Lib.hid f4
   replace f5:=Lib.hid f5
   replace f7:=Lib.hid f7
   clear hd hW hc
   obtain⟨sa,sn,sc,ey,⟨cv,hcv⟩,hfz,hW2⟩:=cl9 _ _ _ hW1
   rw [ey] at e28
   subst hV
   refine wpOp_plain ho rfl ?_
   go_simp
   simpa [updB,upd,f1.out,f2.out,f4.out,f5.out,f7.out] using hW2
 ·have hW1:PW (dx 1) (dx 2) (dx 4) (dx 5) (dx 7) (dx 9) (yx 2) (yx 5) wx:=hW
  rw [hd 1 (by decide),hd 2 (by decide),hd 4 (by decide),hd 5 (by decide),hd 7 (by decide),hd 9 (by decide)] at hW1
  have hQ:=h _ _ _ hW1
  rw [hsz]
  subst hV hT
  refine cast (congrArg (fun Tx=>Q .normal ⟨Tx,ds⟩ wx) ?_) hQ
  kernel_rfl
end Go.Proofs.YthogppennalobaaGreatDoor.Pl
namespace Go.Proofs.YthogppennalobaaGreatDoor
open Go.RowKit Go.Sort Forest OwnR TxO
def inC (i p:Int)(n:Nd)(sv av:Value): Array Value:=#[.int .i64 i,.int .i64 n.kind,.int .i64 p,txt n.subject,txt n.client,txt n.audience,sv,.int .i64 n.born,.int .i64 n.exp,.bool n.dead,.bool n.spent,av,.int .i64 n.level,txt n.secret,txt n.data]
def Short (n:Nd): Prop:=n.subject.length≤281474976710656∧n.client.length≤281474976710656∧n.audience.length≤281474976710656∧n.secret.length≤281474976710656∧n.data.length≤281474976710656∧
 n.scope.length≤1000000∧n.actors.length≤1000000∧(∀s∈n.scope,s.length≤281474976710656)∧∀s∈n.actors,s.length≤281474976710656
def zeroN:Array Value:=#[.int .i64 0,.int .i64 0,.int .i64 0,.string ⟨#[]⟩,.string ⟨#[]⟩,.string ⟨#[]⟩,.slice none 0 0,.int .i64 0,.int .i64 0,.bool false,.bool false,.slice none 0 0,.int .i64 0,.string ⟨#[]⟩,.string ⟨#[]⟩]
theorem Bk.row {t:TypeId}{w:World}{g:Nat}{old cs:Array Value}(h:Bk t w g old): Bk t (w.setRow g cs) g cs:=setRow_heap w g old cs t (0,0) h
theorem Bk.rowo {t:TypeId}{w:World}{g h:Nat}{cs c:Array Value}(hn:g≠h)(k:Bk t w g cs): Bk t (w.setRow h c) g cs:=(setRow_other w h g c hn).trans k
theorem below_row {B:Nat}{w w':World}{g:Nat}{cs:Array Value}(h:Below B w w')(hg:B≤g): Below B w (w'.setRow g cs):=
 ⟨h.os,h.tape,h.output,by have:=h.size;simpa [World.setRow] using this,fun q hq=>(setRow_other w' g q cs (by omega)).trans (h.block q hq)⟩
theorem Tx.setRow {W:World}{v:Value}{l:List Bs}{b:Nat}{t:TypeId}{cs c:Array Value}(h:Tx W v l)(hb:Bk t W b cs)(ht:t≠9): Tx (W.setRow b c) v l:=
 owns_of h fun g hg _=>setRow_other W b g c (fun e=>owns_ne h hb ht (by rw [hg];exact congrArg some e))
theorem wpList_put {P:Program}{ops:Array Oper}{rest:List Oper}{o:Oper}{a:Act}{w:World}{Q:Exit→Act→World→Prop}(hgd:o.guard=none)(ty:TypeId)(x y:Operand)(ho:o.op = .store ty x y)
  (g:Nat) (old cells:Array Value) (hx:a.eval x = .pointer (some ⟨g,0,none⟩)) (hy:a.eval y = .agg cells) (hk:Bk ty w g old) (hi:(P.info? ty).map (·.size)=some cells.size)
  (hold:old.size=cells.size) (h1:cells.all (·.oneCell')=true)
  (h:wpList P ops Q rest (a.put o.dst undef) (w.setRow g cells)):wpList P ops Q (o::rest) a w:=
 wpList_plain hgd fun _ hK=>wp_store_row ty x y ho g cells hx hy ty old hk hi hold h1 (hK _ _ h)
theorem i31:(Tryz.prog.info? 31).map (·.size)=some 15:=by kernel_rfl
theorem one15 (i p:Int)(n:Nd)(a b:Option Addr)(c d e f:Nat): (inC i p n (.slice a c d) (.slice b e f)).all (·.oneCell')=true:=by simp [inC,txt,Value.oneCell']
structure Cpy (w wr:World)(b:Nat)(cs:Array Value): Prop where
 box:Bk 31 wr b cs
 res:Bk 31 wr (b+1) zeroN
 row:Bk 111 wr (b+1+1) #[.pointer (some ⟨b,3,none⟩),.pointer (some ⟨b,4,none⟩),.pointer (some ⟨b,5,none⟩),.pointer (some ⟨b,13,none⟩),.pointer (some ⟨b,14,none⟩)]
 below:Below b w wr
theorem Cpy.mono {w w1 w2:World}{b:Nat}{cs:Array Value}(h:Cpy w w1 b cs)(hb:Below w1.heap.size w1 w2): Cpy w w2 b cs:=
 ⟨h.box.below hb,h.res.below hb,h.row.below hb,h.below.trans (hb.mono (Nat.le_of_lt h.box.lt))⟩
theorem Cpy.store {w w1:World}{b o:Nat}{cs:Array Value}(h:Cpy w w1 b cs)(v:Value)(e:cs.setIfInBounds o v=cs): Cpy w (w1.setCell ⟨b,o,none⟩ v) b cs:=
 ⟨by have:=Bk.same (i:=o) (v:=v) h.box;rwa [e] at this,h.res.oth (by simp),h.row.oth (by show b+1+1≠b;omega),h.below.setCell (p:=⟨b,o,none⟩) (Nat.le_refl _) v⟩
structure CpP (w:World)(b:Nat)(i p:Int)(n:Nd)(sv av:Value)(b2 b5 b7 b9:Bool)(y2 y5:Value)(W:World): Prop where
 cpy:Cpy w W b #[.int .i64 i,.int .i64 n.kind,.int .i64 p,.string ⟨n.subject.toArray⟩,.string ⟨n.client.toArray⟩,.string ⟨n.audience.toArray⟩,(if b7 then y2 else sv),.int .i64 n.born,.int .i64 n.exp,.bool n.dead,.bool n.spent,(if b9 then y5 else av),.int .i64 n.level,.string ⟨n.secret.toArray⟩,.string ⟨n.data.toArray⟩]
 one:b2=true→Tx W y2 n.scope∧∀q,y2.ownBlock=some q→b≤q
 two:b5=true→Tx W y5 n.actors∧∀q,y5.ownBlock=some q→b≤q
theorem Tx.setCell {W:World}{v:Value}{l:List Bs}{b o:Nat}{t:TypeId}{cs:Array Value}{x:Value}(h:Tx W v l)(hb:Bk t W b cs)(ht:t≠9): Tx (W.setCell ⟨b,o,none⟩ x) v l:=
 owns_of h fun g hg _=>heap_setCell_other W _ g x (fun e=>owns_ne h hb ht (by rw [hg];exact congrArg some e))
set_option maxHeartbeats 16000000 in
theorem copied_new (i p:Int)(n:Nd)(sv av:Value)(hn:Short n)(w:World)(h1:Rd w sv n.scope)(h2:Rd w av n.actors): Calls Tryz.prog 51 #[.agg (inC i p n sv av)] w fun e w'=>∃sv' av',e = .returned (.agg (inC i p n sv' av'))∧Tx w' sv' n.scope∧Tx w' av' n.actors∧Below w.heap.size w w'∧(∀q,sv'.ownBlock=some q→w.heap.size≤q)∧∀q,av'.ownBlock=some q→w.heap.size≤q:=by
 obtain⟨n1,n2,n3,n4,n5,n6,n7,n8,n9⟩:=hn
 have HC1:=Lib.hid (fun w=>sclone_any n.subject w n1)
 have HC2:=Lib.hid (fun w=>sclone_any n.client w n2)
 have HC3:=Lib.hid (fun w=>sclone_any n.audience w n3)
 have HC4:=Lib.hid (fun w=>sclone_any n.secret w n4)
 have HC5:=Lib.hid (fun w=>sclone_any n.data w n5)
 have HL1:=Lib.hid (fun W (hb:Below w.heap.size w W)=>copiedList_any n.scope n6 n8 W sv (h1.below hb))
 have HL2:=Lib.hid (fun W (hb:Below w.heap.size w W)=>copiedList_any n.actors n7 n9 W av (h2.below hb))
 obtain⟨sa,sc,rfl,_⟩:=h1
 obtain⟨aa,ac,rfl,_⟩:=h2
 clear n1 n2 n3 n4 n5 n6 n7 n8 n9
 unfold inC txt
 go_enter Tryz.func51,Tryz.ntmps51
 go_wp2_with fail
 obtain⟨b,hb⟩:∃b,b=w.heap.size:=⟨_,rfl⟩
 rw [← hb]
 have hC0:Cpy w (((w.alloc (.cells #[.int .i64 i,.int .i64 n.kind,.int .i64 p,.string ⟨n.subject.toArray⟩,.string ⟨n.client.toArray⟩,.string ⟨n.audience.toArray⟩,.slice sa n.scope.length sc,.int .i64 n.born,.int .i64 n.exp,.bool n.dead,.bool n.spent,.slice aa n.actors.length ac,.int .i64 n.level,.string ⟨n.secret.toArray⟩,.string ⟨n.data.toArray⟩] 31)).alloc (.cells zeroN 31)).alloc (.cells #[.pointer (some ⟨b,3,none⟩),.pointer (some ⟨b,4,none⟩),.pointer (some ⟨b,5,none⟩),.pointer (some ⟨b,13,none⟩),.pointer (some ⟨b,14,none⟩)] 111)) b #[.int .i64 i,.int .i64 n.kind,.int .i64 p,.string ⟨n.subject.toArray⟩,.string ⟨n.client.toArray⟩,.string ⟨n.audience.toArray⟩,.slice sa n.scope.length sc,.int .i64 n.born,.int .i64 n.exp,.bool n.dead,.bool n.spent,.slice aa n.actors.length ac,.int .i64 n.level,.string ⟨n.secret.toArray⟩,.string ⟨n.data.toArray⟩]:=
  ⟨((Bk.new hb).alloc).alloc,(Bk.new (by simp [hb])).alloc,Bk.new (by simp [hb]),by rw [hb];go_grown⟩
 have HB:=Lib.hid hb
 clear hb
 unfold zeroN at hC0
 generalize (((w.alloc (.cells #[.int .i64 i,.int .i64 n.kind,.int .i64 p,.string ⟨n.subject.toArray⟩,.string ⟨n.client.toArray⟩,.string ⟨n.audience.toArray⟩,.slice sa n.scope.length sc,.int .i64 n.born,.int .i64 n.exp,.bool n.dead,.bool n.spent,.slice aa n.actors.length ac,.int .i64 n.level,.string ⟨n.secret.toArray⟩,.string ⟨n.data.toArray⟩] 31)).alloc (.cells #[.int .i64 0,.int .i64 0,.int .i64 0,.string ⟨#[]⟩,.string ⟨#[]⟩,.string ⟨#[]⟩,.slice none 0 0,.int .i64 0,.int .i64 0,.bool false,.bool false,.slice none 0 0,.int .i64 0,.string ⟨#[]⟩,.string ⟨#[]⟩] 31)).alloc (.cells #[.pointer (some ⟨b,3,none⟩),.pointer (some ⟨b,4,none⟩),.pointer (some ⟨b,5,none⟩),.pointer (some ⟨b,13,none⟩),.pointer (some ⟨b,14,none⟩)] 111))=W0 at hC0 ⊢
 have HC0:=Lib.hid hC0
 clear hC0
 go_loopw [12] (fun iv wr=>∃j:Nat,j≤5∧iv = .int .i64 (j:Int)∧Hid (Cpy w wr b #[.int .i64 i,.int .i64 n.kind,.int .i64 p,.string ⟨n.subject.toArray⟩,.string ⟨n.client.toArray⟩,.string ⟨n.audience.toArray⟩,.slice sa n.scope.length sc,.int .i64 n.born,.int .i64 n.exp,.bool n.dead,.bool n.spent,.slice aa n.actors.length ac,.int .i64 n.level,.string ⟨n.secret.toArray⟩,.string ⟨n.data.toArray⟩])) (fun iv _=>5 - (intOf iv).toNat)
 case atStart=>exact⟨0,by omega,rfl,HC0⟩
 case round=>
  obtain⟨j,hj,rfl,HI⟩:=hrel
  clear HC0
  have hcase:j=0∨j=1∨j=2∨j=3∨j=4∨j=5:=by omega
  rcases hcase with rfl | rfl | rfl | rfl | rfl | rfl
  ·have c0:wr.cell? ⟨b+1+1,0,none⟩=some (.pointer (some ⟨b,3,none⟩)):=HI.out.row.cell 0
   have c1:wr.cell? ⟨b,3,none⟩=some (.string ⟨n.subject.toArray⟩):=HI.out.box.cell 3
   go_wp2_with fail
   refine(HC1.out _).mono ?_
   rintro e w2 ⟨rfl,hb2⟩
   replace HI:=Lib.hid (HI.out.mono hb2)
   clear c0 c1 hb2
   have f1:=HI.out.box.fro 3
   have c1:w2.cell? ⟨b,3,none⟩=some (.string ⟨n.subject.toArray⟩):=HI.out.box.cell 3
   go_wp2_with fail
   go_roundw
   case rel=>exact⟨1,by omega,by go_num,Lib.hid (HI.out.store _ rfl)⟩
   case measure=>simp [intOf]
  ·have c0:wr.cell? ⟨b+1+1,1,none⟩=some (.pointer (some ⟨b,4,none⟩)):=HI.out.row.cell 1
   have c1:wr.cell? ⟨b,4,none⟩=some (.string ⟨n.client.toArray⟩):=HI.out.box.cell 4
   go_wp2_with fail
   refine(HC2.out _).mono ?_
   rintro e w2 ⟨rfl,hb2⟩
   replace HI:=Lib.hid (HI.out.mono hb2)
   clear c0 c1 hb2
   have f1:=HI.out.box.fro 4
   have c1:w2.cell? ⟨b,4,none⟩=some (.string ⟨n.client.toArray⟩):=HI.out.box.cell 4
   go_wp2_with fail
   go_roundw
   case rel=>exact⟨2,by omega,by go_num,Lib.hid (HI.out.store _ rfl)⟩
   case measure=>simp [intOf]
  ·have c0:wr.cell? ⟨b+1+1,2,none⟩=some (.pointer (some ⟨b,5,none⟩)):=HI.out.row.cell 2
   have c1:wr.cell? ⟨b,5,none⟩=some (.string ⟨n.audience.toArray⟩):=HI.out.box.cell 5
   go_wp2_with fail
   refine(HC3.out _).mono ?_
   rintro e w2 ⟨rfl,hb2⟩
   replace HI:=Lib.hid (HI.out.mono hb2)
   clear c0 c1 hb2
   have f1:=HI.out.box.fro 5
   have c1:w2.cell? ⟨b,5,none⟩=some (.string ⟨n.audience.toArray⟩):=HI.out.box.cell 5
   go_wp2_with fail
   go_roundw
   case rel=>exact⟨3,by omega,by go_num,Lib.hid (HI.out.store _ rfl)⟩
   case measure=>simp [intOf]
  ·have c0:wr.cell? ⟨b+1+1,3,none⟩=some (.pointer (some ⟨b,13,none⟩)):=HI.out.row.cell 3
   have c1:wr.cell? ⟨b,13,none⟩=some (.string ⟨n.secret.toArray⟩):=HI.out.box.cell 13
   go_wp2_with fail
   refine(HC4.out _).mono ?_
   rintro e w2 ⟨rfl,hb2⟩
   replace HI:=Lib.hid (HI.out.mono hb2)
   clear c0 c1 hb2
   have f1:=HI.out.box.fro 13
   have c1:w2.cell? ⟨b,13,none⟩=some (.string ⟨n.secret.toArray⟩):=HI.out.box.cell 13
   go_wp2_with fail
   go_roundw
   case rel=>exact⟨4,by omega,by go_num,Lib.hid (HI.out.store _ rfl)⟩
   case measure=>simp [intOf]
  ·have c0:wr.cell? ⟨b+1+1,4,none⟩=some (.pointer (some ⟨b,14,none⟩)):=HI.out.row.cell 4
   have c1:wr.cell? ⟨b,14,none⟩=some (.string ⟨n.data.toArray⟩):=HI.out.box.cell 14
   go_wp2_with fail
   refine(HC5.out _).mono ?_
   rintro e w2 ⟨rfl,hb2⟩
   replace HI:=Lib.hid (HI.out.mono hb2)
   clear c0 c1 hb2
   have f1:=HI.out.box.fro 14
   have c1:w2.cell? ⟨b,14,none⟩=some (.string ⟨n.data.toArray⟩):=HI.out.box.cell 14
   go_wp2_with fail
   go_roundw
   case rel=>exact⟨5,by omega,by go_num,Lib.hid (HI.out.store _ rfl)⟩
   case measure=>simp [intOf]
  ·go_wp2_with fail
   have HX:=Lib.hid (show w.heap.size≤b by have:=HB.out;omega)
   obtain⟨sv,hsv⟩:∃z,z=Value.slice sa n.scope.length sc:=⟨_,rfl⟩
   obtain⟨av,hav⟩:∃z,z=Value.slice aa n.actors.length ac:=⟨_,rfl⟩
   rw [← hsv] at HI HL1
   rw [← hav] at HI HL2
   clear hsv hav
   refine Pl.cpR (fun _ b2 _ b5 b7 b9 y2 y5 W=>CpP w b i p n sv av b2 b5 b7 b9 y2 y5 W) b sv av _ ?cl1 ?cl2 ?cl4 ?cl5 ?cl7 ?cl9 ?w0 ?h
   case w0=>exact⟨HI.out.mono (Below.drew (Below.refl _ _)),(fun h=>by cases h),fun h=>by cases h⟩
   case cl1=>exact fun _ _ _ W h=>⟨h.cpy.box.cell 6,h⟩
   case cl4=>exact fun _ b2 _ _ W h=>⟨h.cpy.box.cell 11,h⟩
   case cl2=>
    intro _ y2 y5 W h
    refine(HL1.out W (h.cpy.below.mono HX.out)).mono ?_
    rintro e w1 ⟨v,rfl,hs⟩
    exact⟨v,rfl,h.cpy.mono hs.2.1,fun _=>⟨(Tx.of hs.1),fun q hq=>Nat.le_trans (Nat.le_of_lt h.cpy.box.lt) (hs.2.2 q hq)⟩,fun h=>by cases h⟩
   case cl5=>
    intro y2 y5 W h
    refine(HL2.out W (h.cpy.below.mono HX.out)).mono ?_
    rintro e w1 ⟨v,rfl,hs⟩
    exact⟨v,rfl,h.cpy.mono hs.2.1,fun _=>⟨(h.one rfl).1.below hs.2.1,(h.one rfl).2⟩,fun _=>⟨(Tx.of hs.1),fun q hq=>Nat.le_trans (Nat.le_of_lt h.cpy.box.lt) (hs.2.2 q hq)⟩⟩
   case cl7=>
    intro y2 y5 W h
    obtain⟨a,c,e⟩:=owns_shape (h.one rfl).1
    refine⟨a,_,c,e,⟨_,h.cpy.box.cell 6⟩,h.cpy.box.fro 6,?_,fun _=>⟨(h.one rfl).1.setCell h.cpy.box (by decide),(h.one rfl).2⟩,fun _=>⟨(h.two rfl).1.setCell h.cpy.box (by decide),(h.two rfl).2⟩⟩
    rw [← e]
    exact⟨Bk.same (i:=6) (v:=y2) h.cpy.box,h.cpy.res.oth (by simp),h.cpy.row.oth (by show b+1+1≠b;omega),h.cpy.below.setCell (p:=⟨b,6,none⟩) (Nat.le_refl _) _⟩
   case cl9=>
    intro y2 y5 W h
    obtain⟨a,c,e⟩:=owns_shape (h.two rfl).1
    refine⟨a,_,c,e,⟨_,h.cpy.box.cell 11⟩,h.cpy.box.fro 11,?_,fun _=>⟨(h.one rfl).1.setCell h.cpy.box (by decide),(h.one rfl).2⟩,fun _=>⟨(h.two rfl).1.setCell h.cpy.box (by decide),(h.two rfl).2⟩⟩
    rw [← e]
    exact⟨Bk.same (i:=11) (v:=y5) h.cpy.box,h.cpy.res.oth (by simp),h.cpy.row.oth (by show b+1+1≠b;omega),h.cpy.below.setCell (p:=⟨b,11,none⟩) (Nat.le_refl _) _⟩
   case h=>
    intro y2 y5 W h
    obtain⟨ya,yc,rfl⟩:=owns_shape (h.one rfl).1
    obtain⟨za,zc,rfl⟩:=owns_shape (h.two rfl).1
    have H:=Lib.hid h
    have K:Hid (Bk 31 W b (inC i p n (.slice ya n.scope.length yc) (.slice za n.actors.length zc))):=Lib.hid h.cpy.box
    have Z:=Lib.hid h.cpy.res
    clear h HI HL1 HL2
    go_wp2_with (first | refine wpList_load_row rfl 31 _ rfl b rfl 31 _ (0,0) _ K.out Tryz.underlying31 rfl i31 ?_ | refine wpList_put rfl 31 _ _ rfl (b+1) zeroN _ rfl rfl Z.out i31 rfl (one15 _ _ _ _ _ _ _ _ _) ?_)
    refine bodyPost_ret (v:= .agg (inC i p n (.slice ya n.scope.length yc) (.slice za n.actors.length zc))) (results_cell_row rfl _ _ (b+1) 31 _ (0,0) _ rfl (Bk.row Z.out) Tryz.underlying31 rfl i31) rfl ?_
    exact⟨_,_,rfl,(H.out.one rfl).1.setRow Z.out (by decide),(H.out.two rfl).1.setRow Z.out (by decide),(below_row H.out.cpy.below (by omega)).mono HX.out,fun q hq=>Nat.le_trans HX.out ((H.out.one rfl).2 q hq),fun q hq=>Nat.le_trans HX.out ((H.out.two rfl).2 q hq)⟩
theorem copied_any (i p:Int)(n:Nd)(sv av:Value)(hn:Short n)(w:World)(h1:Rd w sv n.scope)(h2:Rd w av n.actors): Calls Tryz.prog 51 #[.agg (inC i p n sv av)] w fun e w'=>∃sv' av',e = .returned (.agg (inC i p n sv' av'))∧Tx w' sv' n.scope∧Tx w' av' n.actors∧Below w.heap.size w w':=
 (copied_new i p n sv av hn w h1 h2).mono fun e w' ⟨a,b,c,d,e,f,_⟩=>⟨a,b,c,d,e,f⟩
end Go.Proofs.YthogppennalobaaGreatDoor
