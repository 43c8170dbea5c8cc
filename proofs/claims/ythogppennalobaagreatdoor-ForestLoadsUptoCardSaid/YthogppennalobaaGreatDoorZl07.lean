/- people.Texts of what Form writes Live, Kill. Condition: at most a million nodes. isOf; a node by its secret (by). Condition: at most a million nodes. What is told of a node (told). Condition: its texts have at most 2^48 bytes. Get, Find. Condition: at most a million nodes, with texts of at most 2^48 bytes. Path. Condition: at most a million nodes. Spend, Lift, Note. Condition: at most a million no -/
import Derived.Test.YthogppennalobaaGreatDoorZl04
import Derived.Test.YthogppennalobaaGreatDoorZl06
import Derived.Deep.LoopGhost
import Derived.Test.YthogppennalobaaGreatDoorZl02
set_option linter.unusedVariables false
set_option linter.unusedSimpArgs false
set_option maxRecDepth 100000
namespace Go.Proofs.YthogppennalobaaGreatDoor
open Go.RowKit Go.Sort Forest Pl
def Mx (w:World): Prop:=∃m,w.cell? ⟨1,0,none⟩=some (.int .i64 m)
theorem Mx.below {w w':World}(h:Mx w)(hb:Below w.heap.size w w'): Mx w':=by
 obtain⟨m,h⟩:=h
 exact⟨m,cell_below hb h⟩
def strLen:Value→Nat
 |.string b=>b.size
 |_=>0
theorem cut_one (s:Bs)(r:Bs): Lib.cut (one s++r) [58]=(Lib.decDigits s.length,s++r,true):=by
 unfold one
 rw [List.append_assoc,List.cons_append]
 exact cut_dec _ _ (dec_colon _)
set_option maxHeartbeats 4000000 in
theorem texts_any (l:List Bs)(hf:(formL l).length≤1000000)(w:World)(hT:Tb w)(hM:Mx w): Calls Tryz.prog 127 #[.string ⟨(formL l).toArray⟩] w fun e w'=>∃v,e = .returned (.tuple #[v,.bool true])∧Lw 9 1 w w' v l.length (l.map txt):=by
 have HT:=Lib.hid hT
 have HM:=Lib.hid hM
 have HF:=Lib.hid hf
 have HLL:Hid (l.length≤1000000):=Lib.hid (by
  have:∀k:List Bs,k.length≤(formL k).length:=fun k=>by
   induction k with
   |nil=>exact Nat.le_refl _
   |cons s k ih=>simp only [formL,List.length_append,one_len,List.length_cons];omega
  have:=this l
  omega)
 clear hT hM hf
 go_enter Tryz.func127,Tryz.ntmps127
 go_wp2_with fail
 go_loopw [0,4] (fun sv ov wr=>∃i:Nat,i≤l.length∧sv = .string ⟨(formL (l.drop i)).toArray⟩∧Hid (Lw 9 1 w wr ov i ((l.take i).map txt))) (fun sv _ _=>strLen sv)
 case atStart=>exact⟨0,Nat.zero_le _,rfl,Lib.hid (Lw.nil 9 1 w)⟩
 case round=>
  obtain⟨i,hi,rfl,HI⟩:=hrel
  by_cases hlt:i<l.length
  ·obtain⟨s,hse⟩:∃s,l[i]'hlt=s:=⟨_,rfl⟩
   have hd:l.drop i=s::l.drop (i+1):=by rw [List.drop_eq_getElem_cons hlt,hse]
   have HTK:Hid ((l.take (i+1)).map txt=(l.take i).map txt++[txt s]):=Lib.hid (by rw [List.take_add_one,List.getElem?_eq_getElem hlt,hse];simp)
   obtain⟨R,hR⟩:∃R,R=formL (l.drop (i+1)):=⟨_,rfl⟩
   have hform:formL (l.drop i)=one s++R:=by rw [hd,hR];rfl
   have hlen:(one s++R).length≤1000000:=by
    rw [← hform]
    have h:=formL_app (l.take i) (l.drop i)
    rw [List.take_append_drop] at h
    have h2:=HF.out
    rw [h,List.length_append] at h2
    omega
   have hsl:s.length+R.length+2≤(one s++R).length:=by
    rw [List.length_append,one_len]
    have:=dec_pos s.length
    cases hq:Lib.decDigits s.length with
    |nil=>exact absurd hq this
    |cons a b=>simp;omega
   rw [hform]
   obtain⟨m,hm⟩:=HM.out.below HI.out.2.1
   obtain⟨X,hX⟩:∃X,X=one s++R:=⟨_,rfl⟩
   obtain⟨Y,hY⟩:∃Y,Y=s++R:=⟨_,rfl⟩
   rw [← hX] at hlen hsl ⊢
   have HC:=Lib.hid (Tryz.strings_Cut ⟨X.toArray⟩ ⟨#[58]⟩ m wr (by rw [size_ba];omega) hm)
   have e1:Lib.cut (⟨X.toArray⟩:ByteArray).data.toList (⟨#[58]⟩:ByteArray).data.toList=(Lib.decDigits s.length,Y,true):=by
    show Lib.cut X [58]=_
    rw [hX,cut_one,hY]
   rw [e1] at HC
   have hYl:Y.length=s.length+R.length:=by rw [hY];simp
   have HNum:=Lib.hid (fun W (hb:Below wr.heap.size wr W)=>number_any s.length (by omega) W ((HT.out.below HI.out.2.1).below hb))
   have hx1:(⟨Y.toArray⟩:ByteArray).extract 0 s.length=⟨s.toArray⟩:=by rw [ext_take,hY];simp
   have hx2:(⟨Y.toArray⟩:ByteArray).extract s.length Y.length=⟨R.toArray⟩:=by rw [ext_drop,hY];simp
   have HX1:=Lib.hid hx1
   have HX2:=Lib.hid hx2
   have HCl:=Lib.hid (fun W=>sclone_any s W (by omega))
   have h0:(X == [])=false:=by
    cases X with
    |nil=>simp at hsl
    |cons a b=>rfl
   have hle:¬(Y.length:Int)<(s.length:Int):=by omega
   have hle2:(s.length:Int)≤(Y.length:Int):=by omega
   have hzY:(⟨Y.toArray⟩:ByteArray).size=Y.length:=size_ba Y
   have HD:Hid (i+1≤4194304):=Lib.hid (by have:=HLL.out;omega)
   have HRR:=Lib.hid hR
   have HME:Hid (R.length<X.length):=Lib.hid (by omega)
   clear hse hd hR hform hm hX hY e1 hYl hx1 hx2 hlen hsl
   go_wp2_with fail
   refine HC.out.mono ?_
   rintro e w2 ⟨rfl,q,hq⟩
   have hb2:Below wr.heap.size wr w2:=by rw [hq];exact below_drewN (Below.refl _ _) q
   have HB2:=Lib.hid hb2
   clear HC hq hb2
   go_wp2_with fail
   refine(HNum.out w2 HB2.out).mono ?_
   rintro e w3 ⟨rfl,hb3⟩
   have HB3:=Lib.hid (HB2.out.trans (hb3.mono HB2.out.size))
   clear HNum hb3 HB2
   go_wp2_with fail
   first | rw [HX1.out] | skip
   refine(HCl.out w3).mono ?_
   rintro e w4 ⟨rfl,hb4⟩
   have HB4:=Lib.hid (HB3.out.trans (hb4.mono HB3.out.size))
   clear HCl hb4 HB3
   have HI2:Hid (∀o,Lw 9 1 w (w4.alloc o) u4 i ((l.take i).map txt)):=Lib.hid fun o=>(HI.out.down HB4.out).down (by go_grown)
   clear HI
   go_wp2_with (at_builtin;refine wp_one row29 rfl _ _ rfl u4 ((l.take i).map txt) w4.heap.size 1 #[.string ⟨s.toArray⟩] rfl rfl (HI2.out _) (Bk.new rfl) rfl (by simp [Value.oneCell']) HD.out (by decide) ?_;intro v' w5 hs5 hg5;have HS5:=Lib.hid hs5;clear hs5 hg5)
   go_wp2_with fail
   go_roundw
   case rel=>exact⟨i+1,by omega,by first | rw [HX2.out,HRR.out] | (simp only [HX2.out];rw [HRR.out]),by rw [HTK.out];exact HS5.out⟩
   case measure=>
    have h1:=HME.out
    rw [HX2.out]
    simp only [strLen,size_ba]
    exact h1
  ·have hie:i=l.length:=by omega
   subst hie
   have h0:formL (l.drop l.length)=[]:=by rw [List.drop_length];rfl
   rw [h0]
   have h1:((⟨([]:Bs).toArray⟩:ByteArray) == ⟨#[]⟩)=true:=by decide
   have HI2:Hid (Lw 9 1 w wr u4 l.length (l.map txt)):=Lib.hid (by have:=HI.out;rwa [List.take_length] at this)
   clear HI
   go_wp2_with fail
   go_ret2
   exact⟨_,rfl,HI2.out⟩
end Go.Proofs.YthogppennalobaaGreatDoor
namespace Go.Proofs.YthogppennalobaaGreatDoor
open Go.RowKit Go.Sort Forest
def findI (l:List Nd)(id:Int): Option Nd:=l.find? fun n=>(n.id:Int) == id
theorem find_cases (ns:Ns)(id:Int): (blockI ns id=none∧findI (nodes ns) id=none)∨∃k∈ns,blockI ns id=some k.1∧findI (nodes ns) id=some k.2∧(k.2.id:Int)=id:=by
 unfold blockI findI nodes
 rw [List.find?_map]
 cases e:ns.find? fun k=>(k.2.id:Int) == id with
 |none=>exact .inl ⟨rfl,by simpa [Function.comp_def] using e⟩
 |some k=>
  have:=List.find?_some e
  refine .inr ⟨k,List.mem_of_find?_eq_some e,rfl,?_,by simpa using this⟩
  rw [show((fun n:Nd=>(n.id:Int) == id) ∘ fun k:Nat×Nd=>k.2)=fun k:Nat×Nd=>(k.2.id:Int) == id from rfl,e]
  rfl
def liveP (l:List Nd)(id now:Int): Bool:=match findI l id with
 |none=>false
 |some n=>liveN l now n
theorem live_any {w:World}{f:Nat}{ns:Ns}{nx:Int}(h:FR w f ns nx)(hl:ns.length≤1000000)(id now:Int): Calls Tryz.prog 27 #[kpt f,.int .i64 id,.int .i64 now] w fun e w'=>e = .returned (.bool (liveP (nodes ns) id now))∧Below w.heap.size w w':=by
 have HA:=Lib.hid (at_any h hl id)
 rcases find_cases ns id with ⟨h1,h2⟩ | ⟨k,hk,h1,h2,h3⟩
 ·have HR:Hid (liveP (nodes ns) id now=false):=Lib.hid (by unfold liveP;rw [h2])
  rw [h1] at HA
  clear h h1 h2
  unfold kpt at *
  unfold fV at HA
  go_enter Tryz.func27,Tryz.ntmps27
  go_wp2_with fail
  refine HA.out.mono ?_
  rintro e w1 ⟨rfl,rfl⟩
  go_wp2_with fail
  go_ret
  exact⟨by rw [HR.out];rfl,Below.refl _ _⟩
 ·have HR:Hid (liveP (nodes ns) id now=liveN (nodes ns) now k.2):=Lib.hid (by unfold liveP;rw [h2])
  have HL:=Lib.hid (isLive_any h hk now)
  rw [h1] at HA
  generalize liveN (nodes ns) now k.2=b at *
  clear h h1 h2 hk h3
  generalize k.1=g at *
  unfold fV at HA
  unfold kpt at *
  go_enter Tryz.func27,Tryz.ntmps27
  go_wp2_with fail
  refine HA.out.mono ?_
  rintro e w1 ⟨rfl,rfl⟩
  go_wp2_with fail
  refine HL.out.mono ?_
  rintro e w2 ⟨rfl,hb⟩
  go_wp2_with fail
  go_ret
  exact⟨by rw [HR.out];rfl,hb⟩
def killF (n:Nd): Nd:={n with dead:=true}
theorem mild_kill:Mild killF:=⟨⟨fun _=>rfl,fun _=>rfl⟩,fun _=>rfl,fun _=>rfl⟩
def Ends (w:World)(f:Nat)(ns:Ns)(nx:Int)(r:Value)(l:List Nd)(nx':Int)(e:Ending)(w':World): Prop:=
 e = .returned r∧∃ns',nodes ns'=l∧FR w' f ns' nx'∧Chf w w' f ns ns'
theorem only_cell (w:World)(g o:Nat)(v:Value): Only [g] w (w.setCell ⟨g,o,none⟩ v):=(Only.refl [g] w).setCell ⟨g,o,none⟩ (.inl (by simp)) v
theorem killB {w:World}{f:Nat}{ns:Ns}{nx:Int}(h:FR w f ns nx){k:Nat×Nd}(hk:k∈ns): Calls Tryz.prog 67 #[kpt k.1] w fun e w'=>Ends w f ns nx (.bool (!k.2.dead)) (setN (nodes ns) k.2.id killF) nx e w':=by
 obtain⟨sv,av,K,_⟩:=h.node k hk
 refine(kill_any K).mono ?_
 rintro e w' ⟨rfl,rfl⟩
 obtain⟨h1,h2⟩:=h.upd hk mild_kill (only_cell w k.1 9 (.bool true)) (fun sv av up K=>Bk.same (i:=9) (v:= .bool true) K)
 exact⟨rfl,_,updN_nodes _ _ _,h1,h2⟩
def killP (l:List Nd)(id:Int): Int×List Nd:=match findI l id with
 |none=>(131,l)
 |some n=>(0,setN l n.id killF)
theorem kill_call {w:World}{f:Nat}{ns:Ns}{nx:Int}(h:FR w f ns nx)(hl:ns.length≤1000000)(id:Int): Calls Tryz.prog 28 #[kpt f,.int .i64 id] w fun e w'=>Ends w f ns nx (.int .i64 (killP (nodes ns) id).1) (killP (nodes ns) id).2 nx e w':=by
 have HA:=Lib.hid (at_any h hl id)
 have H:=Lib.hid h
 rcases find_cases ns id with ⟨h1,h2⟩ | ⟨k,hk,h1,h2,h3⟩
 ·have HR:Hid (killP (nodes ns) id=(131,nodes ns)):=Lib.hid (by unfold killP;rw [h2])
  rw [HR.out]
  rw [h1] at HA
  clear h h1 h2 HR
  unfold kpt at *
  unfold fV at HA
  go_enter Tryz.func28,Tryz.ntmps28
  go_wp2_with fail
  refine HA.out.mono ?_
  rintro e w1 ⟨rfl,rfl⟩
  go_wp2_with fail
  go_ret
  exact⟨rfl,ns,rfl,H.out,Chf.of_below H.out (Below.refl _ _)⟩
 ·have HR:Hid (killP (nodes ns) id=(0,setN (nodes ns) k.2.id killF)):=Lib.hid (by unfold killP;rw [h2])
  rw [HR.out]
  have HK:=Lib.hid (killB h hk)
  rw [h1] at HA
  clear h h1 h2 hk h3 HR
  generalize k.1=g at *
  unfold fV at HA
  unfold kpt at *
  go_enter Tryz.func28,Tryz.ntmps28
  go_wp2_with fail
  refine HA.out.mono ?_
  rintro e w1 ⟨rfl,rfl⟩
  go_wp2_with fail
  refine HK.out.mono ?_
  rintro e w2 ⟨rfl,hN⟩
  have HN:=Lib.hid hN
  clear hN
  go_wp2_with fail
  go_ret
  exact⟨rfl,HN.out⟩
theorem secP_find (ns:Ns)(s:Bs): (secP ns s=none∧ns.find? (fun k=>k.2.secret == s)=none)∨∃i,∃h:i<ns.length,secP ns s=some i∧ns.find? (fun k=>k.2.secret == s)=some ns[i]:=by
 unfold secP
 cases e:ns.findIdx? fun k=>k.2.secret == s with
 |none=>
  rw [List.findIdx?_eq_none_iff] at e
  exact .inl ⟨rfl,List.find?_eq_none.2 fun x hx=>by rw [e x hx];simp⟩
 |some i=>
  obtain⟨h1,h2,h3⟩:=List.findIdx?_eq_some_iff_getElem.1 e
  refine .inr ⟨i,h1,rfl,?_⟩
  rw [List.find?_eq_some_iff_getElem]
  exact⟨h2,i,h1,rfl,fun j hj=>by have:=h3 j hj;simpa using this⟩
theorem by_any {w:World}{f:Nat}{ns:Ns}{nx:Int}(h:FR w f ns nx)(hl:ns.length≤1000000)(s:Bs): Calls Tryz.prog 64 #[kpt f,.string ⟨s.toArray⟩] w fun e w'=>e = .returned (fV ((ns.find? fun k=>k.2.secret == s).map (·.1)))∧Below w.heap.size w w':=by
 have H:=Lib.hid h
 obtain⟨a,c,h0,_,hc⟩:=h.cells
 have HS:Hid (Calls Tryz.prog 107 #[.slice a ns.length c,.func (.func 108) #[] #[.pointer (some ⟨w.heap.size,0,none⟩)]] (w.alloc (.cells #[.string ⟨s.toArray⟩] 9)) fun e w'=>e = .returned (.int .i64 (posV (secP ns s)))∧Below (w.heap.size+1) (w.alloc (.cells #[.string ⟨s.toArray⟩] 9)) w'):=Lib.hid (by
  have hb:Below w.heap.size w (w.alloc (.cells #[.string ⟨s.toArray⟩] 9)):=by go_grown
  refine(index_sec c hl (fun i hi=>?_) (fun k hk=>?_) w.heap.size s (Bk.cell (t:=9) (Bk.new rfl) 0)).mono ?_
  ·obtain⟨g,h1,h2⟩:=hc i hi
   exact⟨g,h1,cell_below hb h2⟩
  ·obtain⟨sv,av,K,_⟩:=h.node k hk
   exact cell_below hb (K.cell 13)
  ·rintro e w' ⟨h1,h2⟩
   exact⟨h1,by simpa using h2⟩)
 have HC:=Lib.hid hc
 have h0A:∀o,(w.alloc o).cell? ⟨f,0,none⟩=some (.slice a ns.length c):=fun o=>cell_below (by go_grown) h0
 clear hc h
 unfold kpt
 rcases secP_find ns s with ⟨e1,e2⟩ | ⟨i,hi,e1,e2⟩
 ·rw [e1] at HS
  rw [e2]
  clear e1 e2
  unfold posV at HS
  go_enter Tryz.func64,Tryz.ntmps64
  go_wp2_with fail
  refine HS.out.mono ?_
  rintro e w2 ⟨rfl,hb⟩
  have HB:Hid (Below w.heap.size w w2):=Lib.hid (Below.trans (show Below w.heap.size w (w.alloc (.cells #[.string ⟨s.toArray⟩] 9)) by go_grown) (hb.mono (by omega)))
  clear hb HS
  go_wp2_with fail
  go_ret
  exact⟨rfl,HB.out⟩
 ·rw [e1] at HS
  rw [e2]
  obtain⟨g,rfl,hcell⟩:=HC.out i hi
  obtain⟨k,hk⟩:∃k,ns[i]=k:=⟨_,rfl⟩
  rw [hk] at hcell ⊢
  have hiI:(i:Int)<(ns.length:Int):=by omega
  unfold kpt at hcell
  have HCL:=Lib.hid hcell
  have HF:=Lib.hid h0
  clear e1 e2 hk hcell h0 HC
  unfold posV at HS
  go_enter Tryz.func64,Tryz.ntmps64
  go_wp2_with fail
  refine HS.out.mono ?_
  rintro e w2 ⟨rfl,hb⟩
  have HB:Hid (Below w.heap.size w w2):=Lib.hid (Below.trans (show Below w.heap.size w (w.alloc (.cells #[.string ⟨s.toArray⟩] 9)) by go_grown) (hb.mono (by omega)))
  have c1:w2.cell? ⟨g,i,none⟩=some (.pointer (some ⟨k.1,0,none⟩)):=cell_below HB.out HCL.out
  have c2:w2.cell? ⟨f,0,none⟩=some (.slice (some ⟨g,0,none⟩) ns.length c):=cell_below HB.out HF.out
  clear hb HS h0A
  go_wp2_with fail
  go_ret
  exact⟨rfl,HB.out⟩
end Go.Proofs.YthogppennalobaaGreatDoor
namespace Go.Proofs.YthogppennalobaaGreatDoor
open Go.RowKit Go.Sort Forest OwnR TxO
theorem Bk.cells15 {t:TypeId}{w:World}{g:Nat}{a0 a1 a2 a3 a4 a5 a6 a7 a8 a9 a10 a11 a12 a13 a14 u:Value}(K:Bk t w g #[a0,a1,a2,a3,a4,a5,a6,a7,a8,a9,a10,a11,a12,a13,a14,u]):
  (w.cell? ⟨g,0,none⟩=some a0∧w.cell? ⟨g,1,none⟩=some a1∧w.cell? ⟨g,2,none⟩=some a2∧w.cell? ⟨g,3,none⟩=some a3∧w.cell? ⟨g,4,none⟩=some a4)∧(w.cell? ⟨g,5,none⟩=some a5∧w.cell? ⟨g,6,none⟩=some a6∧w.cell? ⟨g,7,none⟩=some a7∧w.cell? ⟨g,8,none⟩=some a8∧w.cell? ⟨g,9,none⟩=some a9)∧
  w.cell? ⟨g,10,none⟩=some a10∧w.cell? ⟨g,11,none⟩=some a11∧w.cell? ⟨g,12,none⟩=some a12∧w.cell? ⟨g,13,none⟩=some a13∧w.cell? ⟨g,14,none⟩=some a14:=
 ⟨⟨K.cell 0,K.cell 1,K.cell 2,K.cell 3,K.cell 4⟩,⟨K.cell 5,K.cell 6,K.cell 7,K.cell 8,K.cell 9⟩,K.cell 10,K.cell 11,K.cell 12,K.cell 13,K.cell 14⟩
def ToldP (w w':World)(o:Option Nd)(e:Ending): Prop:=(match o with
 |none=>e = .returned (.tuple #[.agg zeroN,.bool false])
 |some n=>∃sv av,e = .returned (.tuple #[.agg (inC n.id n.parent n sv av),.bool true])∧Tx w' sv n.scope∧Tx w' av n.actors)∧Below w.heap.size w w'
theorem ret_cellN {fn:Func}{R:Ending→World→Prop}{a:Act}{w:World}{p u:Tmp}(h:fn.results=#[.cell p 31,.tmp u])(g:Nat)(cs:Array Value)(y:Value)(hp:a.tmps.getD p undef = .pointer (some ⟨g,0,none⟩))(hy:a.tmps.getD u undef=y)(hk:Bk 31 w g cs)(hs:cs.size=15)(hd:a.defers=[])(hR:R (.returned (.tuple #[.agg cs,y])) w): bodyPost Tryz.prog fn R .ret a w:=by
 subst hy
 refine bodyPost_ret (v:= .tuple #[.agg cs,a.tmps.getD u undef]) ?_ hd hR
 rw [results_cell_tmp h,hp]
 show((loadVar 31 ⟨g,0,none⟩).run Tryz.prog w).andThen _=_
 rw [run_loadVar_row w g 31 31 cs (0,0) _ hk Tryz.underlying31 rfl (by rw [hs];exact i31)]
 rfl
set_option maxHeartbeats 4000000 in
theorem told_none (w:World): Calls Tryz.prog 76 #[.pointer none] w fun e w'=>ToldP w w' none e:=by
 have hZ:Bk 31 (w.alloc (.cells zeroN 31)) w.heap.size zeroN:=Bk.new rfl
 have HZ:=Lib.hid hZ
 have HB:Hid (Below w.heap.size w (w.alloc (.cells zeroN 31))):=Lib.hid (by go_grown)
 clear hZ
 go_enter Tryz.func76,Tryz.ntmps76
 go_wp2_with (refine wpList_put rfl 31 _ _ rfl w.heap.size zeroN zeroN rfl rfl HZ.out i31 rfl (one15 0 0 ⟨0,0,0,[],[],[],[],0,0,false,false,[],0,[],[]⟩ none none 0 0 0 0) ?_)
 refine ret_cellN rfl w.heap.size zeroN (.bool false) rfl rfl (Bk.row HZ.out) rfl rfl ?_
 exact⟨rfl,below_row HB.out (Nat.le_refl _)⟩
set_option maxHeartbeats 4000000 in
theorem told_some {w:World}{f:Nat}{ns:Ns}{nx:Int}(h:FR w f ns nx){k:Nat×Nd}(hk:k∈ns)(hn:Short k.2): Calls Tryz.prog 76 #[kpt k.1] w fun e w'=>ToldP w w' (some k.2) e:=by
 obtain⟨sv,av,K,hs,ha⟩:=h.node k hk
 have HC:Hid (∀W,Below w.heap.size w W→Calls Tryz.prog 51 #[.agg (inC k.2.id k.2.parent k.2 sv av)] W fun e w'=>∃sv' av',e = .returned (.agg (inC k.2.id k.2.parent k.2 sv' av'))∧Tx w' sv' k.2.scope∧Tx w' av' k.2.actors∧Below W.heap.size W w'):=
  Lib.hid fun W hb=>copied_any _ _ k.2 sv av hn W (hs.below hb).rd (ha.below hb).rd
 have hZ:Bk 31 (w.alloc (.cells zeroN 31)) w.heap.size zeroN:=Bk.new rfl
 have HZ:=Lib.hid hZ
 have HB:Hid (Below w.heap.size w (w.alloc (.cells zeroN 31))):=Lib.hid (by go_grown)
 have K2:Bk 75 (w.alloc (.cells zeroN 31)) k.1 (ndC k.2 sv av (fV (blockI ns k.2.parent))):=K.alloc
 unfold ndC txt at K2
 obtain⟨⟨a0,a1,a2,a3,a4⟩,⟨a5,a6,a7,a8,a9⟩,a10,a11,a12,a13,a14⟩:=K2.cells15
 obtain⟨sa,sc,rfl⟩:=owns_shape hs
 obtain⟨ca,cc,rfl⟩:=owns_shape ha
 unfold inC txt at HC
 unfold zeroN at a0 a1 a2 a3 a4 a5 a6 a7 a8 a9 a10 a11 a12 a13 a14
 clear hZ K K2 h hk hn hs ha
 unfold kpt
 go_enter Tryz.func76,Tryz.ntmps76
 go_wp2_with fail
 refine(HC.out _ (by go_grown)).mono ?_
 rintro e w2 ⟨sv',av',rfl,t1,t2,hb⟩
 have HB2:=Lib.hid (HB.out.trans (hb.mono (by have:=HB.out.size;exact this)))
 have HZ2:=Lib.hid (HZ.out.below hb)
 have T1:=Lib.hid t1
 have T2:=Lib.hid t2
 obtain⟨xa,xc,rfl⟩:=owns_shape t1
 obtain⟨ya,yc,rfl⟩:=owns_shape t2
 obtain⟨g,hg⟩:∃g,g=w.heap.size:=⟨_,rfl⟩
 rw [← hg] at HZ2 ⊢
 have HG:=Lib.hid hg
 clear a0 a1 a2 a3 a4 a5 a6 a7 a8 a9 a10 a11 a12 a13 a14 hb HC HZ HB t1 t2 hg
 go_wp2_with (refine wpList_put rfl 31 _ _ rfl g zeroN _ rfl rfl HZ2.out i31 rfl (one15 (k.2.id:Int) (k.2.parent:Int) k.2 xa ya _ xc _ yc) ?_)
 refine ret_cellN rfl g _ (.bool true) rfl rfl (Bk.row HZ2.out) rfl rfl ?_
 exact⟨⟨_,_,rfl,T1.out.setRow HZ2.out (by decide),T2.out.setRow HZ2.out (by decide)⟩,below_row HB2.out (by rw [HG.out];exact Nat.le_refl _)⟩
theorem sec_cases (ns:Ns)(s:Bs): ((ns.find? fun k=>k.2.secret == s).map (·.1)=none∧(nodes ns).find? (fun n=>n.secret == s)=none)∨∃k∈ns,(ns.find? fun k=>k.2.secret == s).map (·.1)=some k.1∧(nodes ns).find? (fun n=>n.secret == s)=some k.2∧k.2.secret=s:=by
 unfold nodes
 rw [List.find?_map]
 cases e:ns.find? fun k=>k.2.secret == s with
 |none=>exact .inl ⟨rfl,by simpa [Function.comp_def] using e⟩
 |some k=>
  have:=List.find?_some e
  refine .inr ⟨k,List.mem_of_find?_eq_some e,rfl,?_,by simpa using this⟩
  rw [show((fun n:Nd=>n.secret == s) ∘ fun k:Nat×Nd=>k.2)=fun k:Nat×Nd=>k.2.secret == s from rfl,e]
  rfl
set_option maxHeartbeats 4000000 in
theorem find_call {w:World}{f:Nat}{ns:Ns}{nx:Int}(h:FR w f ns nx)(hl:ns.length≤1000000)(hS:∀n∈nodes ns,Short n)(s:Bs): Calls Tryz.prog 36 #[kpt f,.string ⟨s.toArray⟩] w fun e w'=>ToldP w w' ((nodes ns).find? fun n=>n.secret == s) e:=by
 have hw:∀o,Below w.heap.size w (w.alloc o):=fun o=>by go_grown
 have HA:Hid (∀o,Calls Tryz.prog 64 #[kpt f,.string ⟨s.toArray⟩] (w.alloc o) fun e w'=>e = .returned (fV ((ns.find? fun k=>k.2.secret == s).map (·.1)))∧Below w.heap.size w w'∧Below (w.alloc o).heap.size (w.alloc o) w'):=Lib.hid fun o=>(by_any (h.below (hw o)) hl s).mono fun e w' ⟨h1,h2⟩=>⟨h1,(hw o).trans (h2.mono (hw o).size),h2⟩
 have H:=Lib.hid h
 have HZ:Hid (Bk 31 (w.alloc (.cells zeroN 31)) w.heap.size zeroN):=Lib.hid (Bk.new rfl)
 have HW:=Lib.hid hw
 have HO:=Lib.hid (HA.out (.cells zeroN 31))
 unfold zeroN at HO
 clear HA hw
 obtain⟨r,hr⟩:∃r,r=(nodes ns).find? fun n=>n.secret == s:=⟨_,rfl⟩
 rw [← hr]
 have HR:Hid ((r=none∧(ns.find? fun k=>k.2.secret == s).map (·.1)=none)∨∃k∈ns,(ns.find? fun k=>k.2.secret == s).map (·.1)=some k.1∧r=some k.2):=Lib.hid (by
  rcases sec_cases ns s with ⟨h1,h2⟩ | ⟨k,hk,h1,h2,_⟩
  ·exact .inl ⟨by rw [hr,h2],h1⟩
  ·exact .inr ⟨k,hk,h1,by rw [hr,h2]⟩)
 clear hr h
 generalize (ns.find? fun k=>k.2.secret == s).map (·.1)=o at *
 unfold kpt at HO ⊢
 go_enter Tryz.func36,Tryz.ntmps36
 go_wp2_with fail
 refine HO.out.mono ?_
 rintro e w1 ⟨rfl,hb,hb2⟩
 have HB:=Lib.hid hb
 have HZ1:=Lib.hid (HZ.out.below hb2)
 have H1:=Lib.hid (H.out.below hb)
 clear hb hb2 HO HZ
 rcases HR.out with ⟨rfl,rfl⟩ | ⟨k,hk,rfl,rfl⟩
 ·have HT:=Lib.hid (told_none w1)
  unfold fV
  clear HR
  go_wp2_with fail
  refine HT.out.mono ?_
  rintro e w2 ⟨he,hb⟩
  dsimp only at he
  subst he
  have HB2:=Lib.hid (HB.out.trans (hb.mono HB.out.size))
  have HZ2:=Lib.hid (HZ1.out.below hb)
  clear hb HT HZ1
  unfold zeroN
  go_wp2_with (refine wpList_put rfl 31 _ _ rfl w.heap.size zeroN zeroN rfl rfl HZ2.out i31 rfl (one15 0 0 ⟨0,0,0,[],[],[],[],0,0,false,false,[],0,[],[]⟩ none none 0 0 0 0) ?_)
  refine ret_cellN rfl w.heap.size zeroN (.bool false) rfl rfl (Bk.row HZ2.out) rfl rfl ?_
  exact⟨rfl,below_row HB2.out (Nat.le_refl _)⟩
 ·have HT:=Lib.hid (told_some H1.out hk (hS _ (mem_nodes hk)))
  unfold fV
  clear HR
  unfold kpt at *
  go_wp2_with fail
  refine HT.out.mono ?_
  rintro e w2 ⟨⟨sv,av,rfl,t1,t2⟩,hb⟩
  have HB2:=Lib.hid (HB.out.trans (hb.mono HB.out.size))
  have HZ2:=Lib.hid (HZ1.out.below hb)
  have T1:=Lib.hid t1
  have T2:=Lib.hid t2
  obtain⟨xa,xc,rfl⟩:=owns_shape t1
  obtain⟨ya,yc,rfl⟩:=owns_shape t2
  clear hb HT HZ1 t1 t2
  generalize hcs:inC (k.2.id:Int) (k.2.parent:Int) k.2 (.slice xa k.2.scope.length xc) (.slice ya k.2.actors.length yc)=cs
  have hs:cs.size=15:=by rw [← hcs];rfl
  have h1:cs.all (·.oneCell')=true:=by rw [← hcs];exact one15 _ _ _ _ _ _ _ _ _
  have HCS:=Lib.hid hcs
  have HS1:=Lib.hid (And.intro hs h1)
  clear hcs hs h1
  go_wp2_with (refine wpList_put rfl 31 _ _ rfl w.heap.size zeroN cs rfl rfl HZ2.out (by rw [HS1.out.1];exact i31) (by rw [HS1.out.1];rfl) HS1.out.2 ?_)
  refine ret_cellN rfl w.heap.size cs (.bool true) rfl rfl (Bk.row HZ2.out) HS1.out.1 rfl ?_
  exact⟨⟨_,_,by rw [← HCS.out],T1.out.setRow HZ2.out (by decide),T2.out.setRow HZ2.out (by decide)⟩,below_row HB2.out (Nat.le_refl _)⟩
end Go.Proofs.YthogppennalobaaGreatDoor
namespace Go.Proofs.YthogppennalobaaGreatDoor
open Go.RowKit Go.Sort Forest
def pathI (l:List Nd)(id:Int): List Nd:=match findI l id with
 |none=>[]
 |some n=>path l n.id
def idV (n:Nd): Value:= .int .i64 (n.id:Int)
set_option maxHeartbeats 4000000 in
theorem path_call {w:World}{f:Nat}{ns:Ns}{nx:Int}(h:FR w f ns nx)(hl:ns.length≤1000000)(id:Int): Calls Tryz.prog 29 #[kpt f,.int .i64 id] w fun e w'=>∃v,e = .returned v∧Lw 3 1 w w' v (pathI (nodes ns) id).length ((pathI (nodes ns) id).map idV):=by
 have HA:=Lib.hid (at_any h hl id)
 have H:=Lib.hid h
 obtain⟨m0,hm0,hb0⟩:∃m0:Nat,pathI (nodes ns) id=path (nodes ns) m0∧blockI ns id=blockI ns (m0:Int):=by
  rcases find_cases ns id with ⟨h1,h2⟩ | ⟨k,hk,h1,h2,h3⟩
  ·refine⟨0,?_,?_⟩
   ·have:at' (nodes ns) 0=none:=List.find?_eq_none.2 fun n hn=>by have:=(h.ok.mem hn).1;simp;omega
    unfold pathI
    rw [h2,path_none this]
   ·rw [h1]
    refine(blockI_none fun i hi e=>?_).symm
    rw [idAt_lt hi] at e
    have:=(h.ok.mem (mem_nodes (List.getElem_mem hi))).1
    omega
  ·refine⟨k.2.id,?_,by rw [h3]⟩
   unfold pathI
   rw [h2]
 have hlen:(path (nodes ns) m0).length≤1000000:=Nat.le_trans (path_len h.ok m0) (by simpa [nodes] using hl)
 rw [hm0]
 rw [hb0] at HA
 have HL:=Lib.hid hlen
 obtain⟨p0,hp0⟩:∃p0,p0=fV (blockI ns (m0:Int)):=⟨_,rfl⟩
 rw [← hp0] at HA
 have HP0:=Lib.hid hp0
 clear hm0 hb0 hlen h hp0
 unfold kpt
 unfold kpt at HA
 go_enter Tryz.func29,Tryz.ntmps29
 go_wp2_with fail
 refine HA.out.mono ?_
 rintro e w1 ⟨rfl,rfl⟩
 clear HA
 go_wp2_with fail
 go_loopg [5,6] (m0+1) (fun gg rv pv wr=>∃(m:Nat) (done:List Nd),m+1≤gg∧pv=fV (blockI ns (m:Int))∧Hid (path (nodes ns) m0=done++path (nodes ns) m)∧Hid (Lw 3 1 w1 wr rv done.length (done.map idV)))
 case atStart=>exact⟨m0,[],Nat.le_refl _,HP0.out,Lib.hid rfl,Lib.hid (Lw.nil 3 1 w1)⟩
 case round=>
  obtain⟨m,done,hm,rfl,HP,HI⟩:=hrel
  cases hb:blockI ns (m:Int) with
  |none=>
   have HR:Hid (path (nodes ns) m0=done):=Lib.hid (by rw [HP.out,path_none (blockI_at hb)];simp)
   unfold fV
   clear hb HP
   go_wp2_with fail
   go_ret
   exact⟨_,rfl,by rw [HR.out];exact HI.out⟩
  |some g=>
   obtain⟨k,hk,rfl,rfl⟩:=blockI_some hb
   obtain⟨sv,av,K,_⟩:=H.out.node k hk
   have c0:wr.cell? ⟨k.1,0,none⟩=some (idV k.2):=cell_below HI.out.2.1 (K.cell 0)
   have HX:Hid (∀W,Below w1.heap.size w1 W→W.cell? ⟨k.1,15,none⟩=some (fV (blockI ns k.2.parent))):=Lib.hid fun W hb=>cell_below hb (K.cell 15)
   have hp:=(H.out.ok.mem (mem_nodes hk)).2
   have HQ:Hid (path (nodes ns) m0=(done++[k.2])++path (nodes ns) k.2.parent):=Lib.hid (by rw [HP.out,path_some H.out.ok (mem_nodes hk)];simp)
   have hdl:done.length+1≤4194304:=by
    have h1:=HL.out
    rw [HQ.out] at h1
    simp at h1
    omega
   have HD:=Lib.hid hdl
   have HPP:=Lib.hid hp
   have HKI:=Lib.hid (show idV k.2 = .int .i64 (k.2.id:Int) from rfl)
   clear hb HP K hdl hp
   unfold idV at c0
   generalize hpv:fV (blockI ns (k.2.parent:Int))=pv at *
   have HPV:=Lib.hid hpv
   unfold fV kpt
   clear hpv hk
   generalize hid:(k.2.id:Int)=x at *
   have HID:=Lib.hid hid
   clear hid
   go_wp2_with (at_builtin;refine wp_one row55 rfl _ _ rfl _ (done.map idV) wr.heap.size 1 #[.int .i64 x] rfl rfl (HI.out.down (by go_grown)) (Bk.new rfl) rfl (by simp [Value.oneCell']) HD.out (by decide) ?_;intro v' w3 hs3 hg3;have HI2:=Lib.hid hs3;have c15:=HX.out w3 hs3.2.1;clear hs3 hg3)
   go_roundg (k.2.parent+1)
   case rel=>exact⟨k.2.parent,done++[k.2],Nat.le_refl _,HPV.out.symm,HQ,Lib.hid (by simpa [idV,HID.out] using HI2.out)⟩
   case measure=>have:=HPP.out;omega
end Go.Proofs.YthogppennalobaaGreatDoor
namespace Go.Proofs.YthogppennalobaaGreatDoor
open Go.RowKit Go.Sort Forest OwnR TxO
theorem FR.row {w:World}{f:Nat}{ns:Ns}{nx:Int}(h:FR w f ns nx){a:Option Addr}{n c:Nat}{x:Value}(hb:Bk 71 w f #[.slice a n c,x]): n=ns.length∧w.ownsRow 0 72 1 (.slice a ns.length c) ns.length (ns.map fun k=>kpt k.1):=by
 obtain⟨a',c',h1,h2⟩:=h.obj
 have e:=h1.symm.trans hb
 simp only [Option.some.injEq,Obj.cells.injEq,Array.mk.injEq,List.cons.injEq,Value.slice.injEq] at e
 obtain⟨⟨⟨rfl,rfl,rfl⟩,_⟩,_⟩:=e
 exact⟨rfl,h2⟩
end Go.Proofs.YthogppennalobaaGreatDoor
namespace Go.Proofs.YthogppennalobaaGreatDoor.Pl
open Go.RowKit Go.Sort
theorem k_fa31_2 {Q:Exit→Act→World→Prop}{T:Array Value}{ds:List Deferred}{w:World}{ty:TypeId}{dst:Option Tmp}{s:Nat}{ps af g}{b:Nat}(e:T.getD s undef = .pointer (some ⟨b,0,none⟩)): Oper.wp Tryz.prog ⟨dst,.fieldAddr 31 (.tmp s) 2,ty,ps,af,g⟩ ⟨T,ds⟩ w (fun a' w''=>a'=Act.put ⟨T,ds⟩ dst (.pointer (some ⟨b,2,none⟩))∧w''=w) Q:=by
 go_simp
theorem k_fa71_0 {Q:Exit→Act→World→Prop}{T:Array Value}{ds:List Deferred}{w:World}{ty:TypeId}{dst:Option Tmp}{s:Nat}{ps af g}{b:Nat}(e:T.getD s undef = .pointer (some ⟨b,0,none⟩)): Oper.wp Tryz.prog ⟨dst,.fieldAddr 71 (.tmp s) 0,ty,ps,af,g⟩ ⟨T,ds⟩ w (fun a' w''=>a'=Act.put ⟨T,ds⟩ dst (.pointer (some ⟨b,0,none⟩))∧w''=w) Q:=by
 go_simp
noncomputable def putRO:Array Oper:=(Tryz.f32.body.bind fun c=>findR c 1).getD #[]
def putR_m:List (List Nat):=[[],[],[],[],[],[],[],[],[],[],[9],[9],[9,11],[4,9,11,12],[4,9,11,12,13],[4,9,11,12,13],[4,9,11,12,13]]
set_option maxHeartbeats 16000000 in
theorem putR (PW:Bool→Bool→Bool→Bool→Bool→Bool→Value→Value→Value→World→Prop)(f b:Nat)(p:Int)(pu:Option Addr)(sv z0 z1 z3 z4 z5 z6 z7 z8 z9 z10 z11 z12 z13 z14:Value)(w:World)  (cl4:∀(b9 b11 b12:Bool) (y11 y12 y13:Value) (w:World),PW false b9 b11 b12 false false y11 y12 y13 w→w.cell? ⟨f,0,none⟩=some (sv)∧PW true b9 b11 b12 false false y11 y12 y13 w)(cl9:∀(b4:Bool) (y11 y12 y13:Value) (w:World),PW b4 false false false false false y11 y12 y13 w→Calls Tryz.prog 62 #[.pointer (some ⟨f,0,none⟩),.int .i64 p] w fun e w1=>e = .returned (.pointer pu)∧PW b4 true false false false false y11 y12 y13 w1)(cl11:∀(b4:Bool) (y11 y12 y13:Value) (w:World),PW b4 true false false false false y11 y12 y13 w→PW b4 true true false false false (.pointer (some ⟨w.heap.size,0,none⟩)) y12 y13 (w.alloc (.cells #[z0,z1,.int .i64 p,z3,z4,z5,z6,z7,z8,z9,z10,z11,z12,z13,z14,.pointer pu] 75)))(cl12:∀(b4:Bool) (y11 y12 y13:Value) (w:World),PW b4 true true false false false y11 y12 y13 w→∃q,y11 = .pointer q∧PW b4 true true true false false y11 (.slice (some ⟨w.heap.size,0,none⟩) 1 1) y13 (w.alloc (.cells #[.pointer q] 72)))(cl13:∀(y11 y12 y13:Value) (w:World),PW true true true true false false y11 y12 y13 w→∃v w',(Builtin.append_ #[69,69] 69 #[sv,y12]).run Tryz.prog w = .ok v w'∧PW true true true true true false y11 y12 v w')(cl16:∀(y11 y12 y13:Value) (w:World),PW true true true true true false y11 y12 y13 w→∃sa sn sc,y13 = .slice sa sn sc∧(∃cv,w.cell? ⟨f,0,none⟩=some cv)∧w.frozen? ⟨f,0,none⟩=false∧PW true true true true true true y11 y12 y13 (w.setCell ⟨f,0,none⟩ (.slice sa sn sc)))(lk:∀(b4 b9 b11 b12 b13 b16:Bool) (y11 y12 y13:Value) (w:World),PW b4 b9 b11 b12 b13 b16 y11 y12 y13 w→Bk 31 w b #[z0,z1,.int .i64 p,z3,z4,z5,z6,z7,z8,z9,z10,z11,z12,z13,z14]){t1 t2 t4 t5 t6 t7 t8 t9 t10 t11 t12 t13 t14 t15 t16 t17 t18 t19:Value}(w0:PW false false false false false false t15 t16 t17 w.drew){ds:List Deferred}{Q:Exit→Act→World→Prop}
  (h:∀(y11 y12 y13:Value) (w1:World),PW true true true true true true y11 y12 y13 w1→Q .normal {tmps:=#[.pointer (some ⟨f,0,none⟩),t1,t2,.pointer (some ⟨b,0,none⟩),.pointer (some ⟨f,0,none⟩),.pointer (some ⟨f,0,none⟩),.pointer (some ⟨f,0,none⟩),.pointer (some ⟨f,0,none⟩),sv,.agg #[z0,z1,.int .i64 p,z3,z4,z5,z6,z7,z8,z9,z10,z11,z12,z13,z14],.pointer (some ⟨f,0,none⟩),.pointer (some ⟨b,2,none⟩),.int .i64 p,.pointer pu,.agg #[z0,z1,.int .i64 p,z3,z4,z5,z6,z7,z8,z9,z10,z11,z12,z13,z14,.pointer pu],y11,y12,y13,.pointer (some ⟨f,0,none⟩),.pointer (some ⟨f,0,none⟩)],defers:=ds} w1) :
  (Code.region 1 putRO true).wp Tryz.prog Q {tmps:=#[.pointer (some ⟨f,0,none⟩),t1,t2,.pointer (some ⟨b,0,none⟩),t4,t5,t6,t7,t8,t9,t10,t11,t12,t13,t14,t15,t16,t17,t18,t19],defers:=ds} w:=by
 have hsz:putRO.size=17:=by kernel_rfl
 generalize hT:List.toArray _=T0
 have hs:T0.size=20:=by subst hT;rfl
 have g0:T0.getD 0 undef = .pointer (some ⟨f,0,none⟩):=by subst hT;rfl
 have g3:T0.getD 3 undef = .pointer (some ⟨b,0,none⟩):=by subst hT;rfl
 obtain⟨W,hV⟩:∃W:List ((Nat×(Value→Value)) ⊕ Value),W=[.inr (.pointer (some ⟨f,0,none⟩)),.inr (.pointer (some ⟨f,0,none⟩)),.inr (.pointer (some ⟨f,0,none⟩)),.inr (.pointer (some ⟨f,0,none⟩)),.inr (sv),.inr (.agg #[z0,z1,.int .i64 p,z3,z4,z5,z6,z7,z8,z9,z10,z11,z12,z13,z14]),.inr (.pointer (some ⟨f,0,none⟩)),.inr (.pointer (some ⟨b,2,none⟩)),.inr (.int .i64 p),.inr (.pointer pu),.inr (.agg #[z0,z1,.int .i64 p,z3,z4,z5,z6,z7,z8,z9,z10,z11,z12,z13,z14,.pointer pu]),.inl (11,id),.inl (12,id),.inl (13,id),.inr (.pointer (some ⟨f,0,none⟩)),.inr (.pointer (some ⟨f,0,none⟩)),.inr undef]:=⟨_,rfl⟩
 refine wp_plan (by kernel_rfl) T0 ds [4,9,11,12,13,16] putR_m (mkV W) (fun dx yx wx=>PW (dx 4) (dx 9) (dx 11) (dx 12) (dx 13) (dx 16) (yx 11) (yx 12) (yx 13) wx) w (by rw [hs];kernel_rfl) (by kernel_rfl) (by kernel_rfl) (by rw [hsz];decide) (fun cx hc ix hne ha yx vx=>mkV_fix (by rw [hV];kernel_rfl) hne ha yx vx) (?key) (fun cx hc ox ho dx yx Tx wx hd hdb hda hK hW=>?_) ⟨fun k=>if k=11 then t15 else if k=12 then t16 else if k=13 then t17 else undef,w0⟩ (fun dx yx wx hd hW=>?_)
 case key=>
  rw [hsz]
  refine all_step (all_step (all_step (all_step (all_step (all_step (all_step (all_step (all_step (all_step (all_step (all_step (all_step (all_step (all_step (all_step (all_step all_zero ?_) ?_) ?_) ?_) ?_) ?_) ?_) ?_) ?_) ?_) ?_) ?_) ?_) ?_) ?_) ?_) ?_
  all_goals
   intro ox ho hic dx yx Tx wx hdb hK hW
   replace hdb:=Lib.hid hdb
  ·exact pl0 4 0 23 ho hK (by kernel_rfl) (by kernel_rfl) g0 (by subst hV;rfl) fun ps af e=>k_mv e
  ·exact pl0 5 0 23 ho hK (by kernel_rfl) (by kernel_rfl) g0 (by subst hV;rfl) fun ps af e=>k_mv e
  ·exact pl1 6 5 1 0 ho hK (by kernel_rfl) (by kernel_rfl) (by subst hV;rfl) (by subst hV;rfl) fun ps af e=>k_nc e
  ·exact pl1 7 6 2 0 ho hK (by kernel_rfl) (by kernel_rfl) (by subst hV;rfl) (by subst hV;rfl) fun ps af e=>k_fa71_0 e
  ·exact absurd (by decide) hic
  ·obtain⟨ps,af,rfl⟩:=core (some 9) (.load 31 (.tmp 3)) 31 none ho (by kernel_rfl)
   have e3:Tx.getD 3 undef = .pointer (some ⟨b,0,none⟩):=hK.of (by kernel_rfl) g3
   have hl:=lk _ _ _ _ _ _ _ _ _ _ hW
   exact wpOp_plain ho rfl (wp_load_row 31 _ rfl b (by first | exact e3 | rfl) 31 _ (0,0) _ hl Tryz.underlying31 rfl i31 ⟨by subst hV;rfl,rfl⟩)
  ·exact pl0 10 0 23 ho hK (by kernel_rfl) (by kernel_rfl) g0 (by subst hV;rfl) fun ps af e=>k_mv e
  ·exact pl0 11 3 0 ho hK (by kernel_rfl) (by kernel_rfl) g3 (by subst hV;rfl) fun ps af e=>k_fa31_2 e
  ·obtain⟨ps,af,rfl⟩:=core (some 12) (.load 3 (.tmp 11)) 3 none ho (by kernel_rfl)
   have e11:Tx.getD 11 undef = .pointer (some ⟨b,2,none⟩):=hK.is 7 ho (by kernel_rfl) (by subst hV;rfl)
   have hl:=(lk _ _ _ _ _ _ _ _ _ _ hW).cell 2
   simp only [List.getElem?_toArray,List.getElem?_cons_succ,List.getElem?_cons_zero] at hl
   exact wpOp_plain ho rfl (by subst hV;go_simp;try rfl)
  ·exact absurd (by decide) hic
  ·obtain⟨ps,af,rfl⟩:=core (some 14) (.build 75 #[(0,.tmp 9),(1,.tmp 13)]) 75 none ho (by kernel_rfl)
   have e9:Tx.getD 9 undef = .agg #[z0,z1,.int .i64 p,z3,z4,z5,z6,z7,z8,z9,z10,z11,z12,z13,z14]:=hK.is 5 ho (by kernel_rfl) (by subst hV;rfl)
   have e13:Tx.getD 13 undef = .pointer pu:=hK.is 9 ho (by kernel_rfl) (by subst hV;rfl)
   simp only [Array.getD_eq_getD_getElem?] at e9 e13
   exact wpOp_plain ho rfl (by subst hV;go_simp;try rfl)
  ·exact absurd (by decide) hic
  ·exact absurd (by decide) hic
  ·exact absurd (by decide) hic
  ·exact pl1 18 4 0 0 ho hK (by kernel_rfl) (by kernel_rfl) (by subst hV;rfl) (by subst hV;rfl) fun ps af e=>k_nc e
  ·exact pl1 19 18 14 0 ho hK (by kernel_rfl) (by kernel_rfl) (by subst hV;rfl) (by subst hV;rfl) fun ps af e=>k_fa71_0 e
  ·exact absurd (by decide) hic
 ·have hcase:cx=4∨cx=9∨cx=11∨cx=12∨cx=13∨cx=16:=by simpa using hc
  rcases hcase with rfl | rfl | rfl | rfl | rfl | rfl
  ·obtain⟨ps,af,rfl⟩:=core (some 8) (.load 69 (.tmp 7)) 69 none ho (by kernel_rfl)
   have e7:Tx.getD 7 undef = .pointer (some ⟨f,0,none⟩):=hK.is 3 ho (by kernel_rfl) (by subst hV;rfl)
   have hW1:PW (dx 4) (dx 9) (dx 11) (dx 12) (dx 13) (dx 16) (yx 11) (yx 12) (yx 13) wx:=hW
   have f13:=hda 13 (by decide) (by kernel_rfl)
   have f16:=hda 16 (by decide) (by kernel_rfl)
   clear hdb hda
   rw [hd,f13,f16] at hW1
   replace f13:=Lib.hid f13
   replace f16:=Lib.hid f16
   clear hd hW hc
   obtain⟨hl,hW2⟩:=cl4 _ _ _ _ _ _ _ hW1
   subst hV
   refine wpOp_plain ho rfl ?_
   go_simp
   first | refine⟨undef,rfl,?_⟩ | refine⟨⟨undef,rfl⟩,?_⟩ | skip
   simpa [updB,upd,f13.out,f16.out] using hW2
  ·obtain⟨ps,af,rfl⟩:=core (some 13) (.call {callee:= .value (.func 62),args:=#[.tmp 10,.tmp 12],argTypes:=#[23,3]}) 72 none ho (by kernel_rfl)
   have e10:Tx.getD 10 undef = .pointer (some ⟨f,0,none⟩):=hK.is 6 ho (by kernel_rfl) (by subst hV;rfl)
   have e12:Tx.getD 12 undef = .int .i64 p:=hK.is 8 ho (by kernel_rfl) (by subst hV;rfl)
   have hW1:PW (dx 4) (dx 9) (dx 11) (dx 12) (dx 13) (dx 16) (yx 11) (yx 12) (yx 13) wx:=hW
   have f11:=hda 11 (by decide) (by kernel_rfl)
   have f12:=hda 12 (by decide) (by kernel_rfl)
   have f13:=hda 13 (by decide) (by kernel_rfl)
   have f16:=hda 16 (by decide) (by kernel_rfl)
   clear hdb hda
   rw [hd,f11,f12,f13,f16] at hW1
   replace f11:=Lib.hid f11
   replace f12:=Lib.hid f12
   replace f13:=Lib.hid f13
   replace f16:=Lib.hid f16
   clear hd hW hc
   refine wpOp_plain ho rfl ?_
   go_simp
   go_at_call 62
   refine(cl9 _ _ _ _ _ hW1).mono ?_
   rintro ex w2 ⟨rfl,hW2⟩
   subst hV
   first | refine⟨undef,rfl,?_⟩ | refine⟨⟨undef,rfl⟩,?_⟩
   simpa [updB,upd,f11.out,f12.out,f13.out,f16.out] using hW2
  ·obtain⟨ps,af,rfl⟩:=core (some 15) (.box 75 (.tmp 14)) 72 none ho (by kernel_rfl)
   have e14:Tx.getD 14 undef = .agg #[z0,z1,.int .i64 p,z3,z4,z5,z6,z7,z8,z9,z10,z11,z12,z13,z14,.pointer pu]:=hK.is 10 ho (by kernel_rfl) (by subst hV;rfl)
   have hW1:PW (dx 4) (dx 9) (dx 11) (dx 12) (dx 13) (dx 16) (yx 11) (yx 12) (yx 13) wx:=hW
   have f9:=hdb 9 (by decide) (by kernel_rfl)
   have f12:=hda 12 (by decide) (by kernel_rfl)
   have f13:=hda 13 (by decide) (by kernel_rfl)
   have f16:=hda 16 (by decide) (by kernel_rfl)
   clear hdb hda
   rw [hd,f9,f12,f13,f16] at hW1
   replace f9:=Lib.hid f9
   replace f12:=Lib.hid f12
   replace f13:=Lib.hid f13
   replace f16:=Lib.hid f16
   clear hd hW hc
   have hW2:=cl11 _ _ _ _ _ hW1
   subst hV
   refine wpOp_plain ho rfl ?_
   go_simp
   refine⟨_,rfl,?_⟩
   simpa [updB,upd,f9.out,f12.out,f13.out,f16.out] using hW2
  ·obtain⟨ps,af,rfl⟩:=core (some 16) (.buildSlice 69 1 #[(0,.tmp 15)]) 69 none ho (by kernel_rfl)
   have e15:Tx.getD 15 undef=yx 11:=hK.is 11 ho (by kernel_rfl) (by subst hV;rfl)
   have hW1:PW (dx 4) (dx 9) (dx 11) (dx 12) (dx 13) (dx 16) (yx 11) (yx 12) (yx 13) wx:=hW
   have f9:=hdb 9 (by decide) (by kernel_rfl)
   have f11:=hdb 11 (by decide) (by kernel_rfl)
   have f13:=hda 13 (by decide) (by kernel_rfl)
   have f16:=hda 16 (by decide) (by kernel_rfl)
   clear hdb hda
   rw [hd,f9,f11,f13,f16] at hW1
   replace f9:=Lib.hid f9
   replace f11:=Lib.hid f11
   replace f13:=Lib.hid f13
   replace f16:=Lib.hid f16
   clear hd hW hc
   obtain⟨q,ey,hW2⟩:=cl12 _ _ _ _ _ hW1
   rw [ey] at e15
   simp only [Array.getD_eq_getD_getElem?] at e15
   subst hV
   refine wpOp_plain ho rfl ?_
   go_simp
   refine⟨_,rfl,?_⟩
   simpa [updB,upd,f9.out,f11.out,f13.out,f16.out] using hW2
  ·obtain⟨ps,af,rfl⟩:=core (some 17) (.call {callee:= .builtin Builtin.append,args:=#[.tmp 8,.tmp 16],argTypes:=#[69,69]}) 69 none ho (by kernel_rfl)
   have e8:Tx.getD 8 undef=sv:=hK.is 4 ho (by kernel_rfl) (by subst hV;rfl)
   have e16:Tx.getD 16 undef=yx 12:=hK.is 12 ho (by kernel_rfl) (by subst hV;rfl)
   have hW1:PW (dx 4) (dx 9) (dx 11) (dx 12) (dx 13) (dx 16) (yx 11) (yx 12) (yx 13) wx:=hW
   have f4:=hdb 4 (by decide) (by kernel_rfl)
   have f9:=hdb 9 (by decide) (by kernel_rfl)
   have f11:=hdb 11 (by decide) (by kernel_rfl)
   have f12:=hdb 12 (by decide) (by kernel_rfl)
   have f16:=hda 16 (by decide) (by kernel_rfl)
   clear hdb hda
   rw [hd,f4,f9,f11,f12,f16] at hW1
   replace f4:=Lib.hid f4
   replace f9:=Lib.hid f9
   replace f11:=Lib.hid f11
   replace f12:=Lib.hid f12
   replace f16:=Lib.hid f16
   clear hd hW hc
   obtain⟨vx,w2,hrun,hW2⟩:=cl13 _ _ _ _ hW1
   subst hV
   refine wpOp_plain ho rfl (wp_append_runE _ _ _ _ rfl _ _ (by first | exact e8 | rfl) (by first | exact e16 | rfl) vx w2 hrun ⟨vx,rfl,?_⟩)
   simpa [updB,upd,f4.out,f9.out,f11.out,f12.out,f16.out] using hW2
  ·obtain⟨ps,af,rfl⟩:=core none (.store 69 (.tmp 19) (.tmp 17)) 0 none ho (by kernel_rfl)
   have e19:Tx.getD 19 undef = .pointer (some ⟨f,0,none⟩):=hK.is 15 ho (by kernel_rfl) (by subst hV;rfl)
   have e17:Tx.getD 17 undef=yx 13:=hK.is 13 ho (by kernel_rfl) (by subst hV;rfl)
   have hW1:PW (dx 4) (dx 9) (dx 11) (dx 12) (dx 13) (dx 16) (yx 11) (yx 12) (yx 13) wx:=hW
   have f4:=hdb 4 (by decide) (by kernel_rfl)
   have f9:=hdb 9 (by decide) (by kernel_rfl)
   have f11:=hdb 11 (by decide) (by kernel_rfl)
   have f12:=hdb 12 (by decide) (by kernel_rfl)
   have f13:=hdb 13 (by decide) (by kernel_rfl)
   clear hdb hda
   rw [hd,f4,f9,f11,f12,f13] at hW1
   replace f4:=Lib.hid f4
   replace f9:=Lib.hid f9
   replace f11:=Lib.hid f11
   replace f12:=Lib.hid f12
   replace f13:=Lib.hid f13
   clear hd hW hc
   obtain⟨sa,sn,sc,ey,⟨cv,hcv⟩,hfz,hW2⟩:=cl16 _ _ _ _ hW1
   rw [ey] at e17
   subst hV
   refine wpOp_plain ho rfl ?_
   go_simp
   simpa [updB,upd,f4.out,f9.out,f11.out,f12.out,f13.out] using hW2
 ·have hW1:PW (dx 4) (dx 9) (dx 11) (dx 12) (dx 13) (dx 16) (yx 11) (yx 12) (yx 13) wx:=hW
  rw [hd 4 (by decide),hd 9 (by decide),hd 11 (by decide),hd 12 (by decide),hd 13 (by decide),hd 16 (by decide)] at hW1
  have hQ:=h _ _ _ _ hW1
  rw [hsz]
  subst hV hT
  refine cast (congrArg (fun Tx=>Q .normal ⟨Tx,ds⟩ wx) ?_) hQ
  kernel_rfl
end Go.Proofs.YthogppennalobaaGreatDoor.Pl
namespace Go.Proofs.YthogppennalobaaGreatDoor.Pl
open Go.RowKit Go.Sort
theorem k_fa40_0 {Q:Exit→Act→World→Prop}{T:Array Value}{ds:List Deferred}{w:World}{ty:TypeId}{dst:Option Tmp}{s:Nat}{ps af g}{b:Nat}(e:T.getD s undef = .pointer (some ⟨b,0,none⟩)): Oper.wp Tryz.prog ⟨dst,.fieldAddr 40 (.tmp s) 0,ty,ps,af,g⟩ ⟨T,ds⟩ w (fun a' w''=>a'=Act.put ⟨T,ds⟩ dst (.pointer (some ⟨b,0,none⟩))∧w''=w) Q:=by
 go_simp
end Go.Proofs.YthogppennalobaaGreatDoor.Pl
