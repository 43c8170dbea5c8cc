/- people.Texts of what Form writes Live, Kill. Condition: at most a million nodes. isOf; a node by its secret (by). Condition: at most a million nodes. What is told of a node (told). Condition: its texts have at most 2^48 bytes. Get, Find. Condition: at most a million nodes, with texts of at most 2^48 bytes. Path. Condition: at most a million nodes. Spend, Lift, Note. Condition: at most a million no -/
import Derived.Test.YthogppennalobaaGreatDoorZg04
import Derived.Test.YthogppennalobaaGreatDoorZg06
import Derived.Deep.LoopGhost
set_option linter.unusedVariables false
set_option linter.unusedSimpArgs false
set_option maxRecDepth 100000
namespace Go.Proofs.YthogppennalobaaGreatDoor
open Go.RowKit Go.Sort Forest Pl
open Go.Lib renaming hid→Φ
def Mx (w:World): Prop:=∃m,w.cell? ⟨1,0,none⟩=some (.int .i64 m)
theorem Mx.below {w w':World}(h:Mx w)(hb:Below w.heap.size w w'): Mx w':=by
 obtain⟨m,h⟩:=h
 exact⟨m,cell_below hb h⟩
def strLen:Value→Nat
 |.string b=>b.size
 |_=>0
theorem cut_one (s:Bs)(r:Bs): Lib.cut (one s++r) [58]=(Lib.decDigits s.length,s++r,true):=by
 unfold one
 rw [List.append_assoc,List.cons_append]
 exact cut_dec _ _ (dec_colon _)
set_option maxHeartbeats 4000000 in
theorem texts_any (l:List Bs)(hf:(formL l).length≤1000000)(w:World)(hT:Tb w)(hM:Mx w): Calls Tryz.prog 127 #[.string ⟨(formL l).toArray⟩] w fun e w'=>∃v,e = .returned (.tuple #[v,.bool true])∧Lw 9 1 w w' v l.length (l.map txt):=by
 have HT:=Φ hT
 have HM:=Φ hM
 have HF:=Φ hf
 have HLL:Hid (l.length≤1000000):=Φ (by
  have:∀k:List Bs,k.length≤(formL k).length:=fun k=>by
   induction k with
   |nil=>exact Nat.le_refl _
   |cons s k ih=>simp only [formL,List.length_append,one_len,List.length_cons];omega
  have:=this l
  omega)
 clear hT hM hf
 go_enter Tryz.func127,Tryz.ntmps127
 go_wp2_with fail
 go_loopw [0,4] (fun sv ov wr=>∃i:Nat,i≤l.length∧sv = .string ⟨(formL (l.drop i)).toArray⟩∧Hid (Lw 9 1 w wr ov i ((l.take i).map txt))) (fun sv _ _=>strLen sv)
 case atStart=>exact⟨0,Nat.zero_le _,rfl,Φ (Lw.nil 9 1 w)⟩
 case round=>
  obtain⟨i,hi,rfl,HI⟩:=hrel
  by_cases hlt:i<l.length
  ·obtain⟨s,hse⟩:∃s,l[i]'hlt=s:=⟨_,rfl⟩
   have hd:l.drop i=s::l.drop (i+1):=by rw [List.drop_eq_getElem_cons hlt,hse]
   have HTK:Hid ((l.take (i+1)).map txt=(l.take i).map txt++[txt s]):=Φ (by rw [List.take_add_one,List.getElem?_eq_getElem hlt,hse];simp)
   obtain⟨R,hR⟩:∃R,R=formL (l.drop (i+1)):=⟨_,rfl⟩
   have hform:formL (l.drop i)=one s++R:=by rw [hd,hR];rfl
   have hlen:(one s++R).length≤1000000:=by
    rw [← hform]
    have h:=formL_app (l.take i) (l.drop i)
    rw [List.take_append_drop] at h
    have h2:=HF.out
    rw [h,List.length_append] at h2
    omega
   have hsl:s.length+R.length+2≤(one s++R).length:=by
    rw [List.length_append,one_len]
    have:=dec_pos s.length
    cases hq:Lib.decDigits s.length with
    |nil=>exact absurd hq this
    |cons a b=>simp;omega
   rw [hform]
   obtain⟨m,hm⟩:=HM.out.below HI.out.2.1
   obtain⟨X,hX⟩:∃X,X=one s++R:=⟨_,rfl⟩
   obtain⟨Y,hY⟩:∃Y,Y=s++R:=⟨_,rfl⟩
   rw [← hX] at hlen hsl ⊢
   have HC:=Φ (Tryz.strings_Cut ⟨X.toArray⟩ ⟨#[58]⟩ m wr (by rw [size_ba];omega) hm)
   have e1:Lib.cut (⟨X.toArray⟩:ByteArray).data.toList (⟨#[58]⟩:ByteArray).data.toList=(Lib.decDigits s.length,Y,true):=by
    show Lib.cut X [58]=_
    rw [hX,cut_one,hY]
   rw [e1] at HC
   have hYl:Y.length=s.length+R.length:=by rw [hY];simp
   have HNum:=Φ (fun W (hb:Below wr.heap.size wr W)=>number_any s.length (by omega) W ((HT.out.below HI.out.2.1).below hb))
   have hx1:(⟨Y.toArray⟩:ByteArray).extract 0 s.length=⟨s.toArray⟩:=by rw [ext_take,hY];simp
   have hx2:(⟨Y.toArray⟩:ByteArray).extract s.length Y.length=⟨R.toArray⟩:=by rw [ext_drop,hY];simp
   have HX1:=Φ hx1
   have HX2:=Φ hx2
   have HCl:=Φ (fun W=>sclone_any s W (by omega))
   have h0:(X == [])=false:=by
    cases X with
    |nil=>simp at hsl
    |cons a b=>rfl
   have hle:¬(Y.length:Int)<(s.length:Int):=by omega
   have hle2:(s.length:Int)≤(Y.length:Int):=by omega
   have hzY:(⟨Y.toArray⟩:ByteArray).size=Y.length:=size_ba Y
   have HD:Hid (i+1≤4194304):=Φ (by have:=HLL.out;omega)
   have HRR:=Φ hR
   have HME:Hid (R.length<X.length):=Φ (by omega)
   clear hse hd hR hform hm hX hY e1 hYl hx1 hx2 hlen hsl
   go_wp2_with fail
   refine HC.out.mono ?_
   rintro e w2 ⟨rfl,q,hq⟩
   have hb2:Below wr.heap.size wr w2:=by rw [hq];exact below_drewN (Below.refl _ _) q
   have HB2:=Φ hb2
   clear HC hq hb2
   go_wp2_with fail
   refine(HNum.out w2 HB2.out).mono ?_
   rintro e w3 ⟨rfl,hb3⟩
   have HB3:=Φ (HB2.out.trans (hb3.mono HB2.out.size))
   clear HNum hb3 HB2
   go_wp2_with fail
   first | rw [HX1.out] | skip
   refine(HCl.out w3).mono ?_
   rintro e w4 ⟨rfl,hb4⟩
   have HB4:=Φ (HB3.out.trans (hb4.mono HB3.out.size))
   clear HCl hb4 HB3
   have HI2:Hid (∀o,Lw 9 1 w (w4.alloc o) u4 i ((l.take i).map txt)):=Φ fun o=>(HI.out.down HB4.out).down (by go_grown)
   clear HI
   go_wp2_with (at_builtin;refine wp_one row29 rfl _ _ rfl u4 ((l.take i).map txt) w4.heap.size 1 #[.string ⟨s.toArray⟩] rfl rfl (HI2.out _) (Bk.new rfl) rfl (by simp [Value.oneCell']) HD.out (by decide) ?_;intro v' w5 hs5 hg5;have HS5:=Φ hs5;clear hs5 hg5)
   go_wp2_with fail
   go_roundw
   case rel=>exact⟨i+1,by omega,by first | rw [HX2.out,HRR.out] | (simp only [HX2.out];rw [HRR.out]),by rw [HTK.out];exact HS5.out⟩
   case measure=>
    have h1:=HME.out
    rw [HX2.out]
    simp only [strLen,size_ba]
    exact h1
  ·have hie:i=l.length:=by omega
   subst hie
   have h0:formL (l.drop l.length)=[]:=by rw [List.drop_length];rfl
   rw [h0]
   have h1:((⟨([]:Bs).toArray⟩:ByteArray) == ⟨#[]⟩)=true:=by decide
   have HI2:Hid (Lw 9 1 w wr u4 l.length (l.map txt)):=Φ (by have:=HI.out;rwa [List.take_length] at this)
   clear HI
   go_wp2_with fail
   go_ret2
   exact⟨_,rfl,HI2.out⟩
end Go.Proofs.YthogppennalobaaGreatDoor
namespace Go.Proofs.YthogppennalobaaGreatDoor
open Go.RowKit Go.Sort Forest
open Go.Lib renaming hid→Φ
def findI (l:List Nd)(id:Int): Option Nd:=l.find? fun n=>(n.id:Int) == id
theorem find_cases (ns:Ns)(id:Int): (blockI ns id=none∧findI (nodes ns) id=none)∨∃k∈ns,blockI ns id=some k.1∧findI (nodes ns) id=some k.2∧(k.2.id:Int)=id:=by
 unfold blockI findI nodes
 rw [List.find?_map]
 cases e:ns.find? fun k=>(k.2.id:Int) == id with
 |none=>exact .inl ⟨rfl,by simpa [Function.comp_def] using e⟩
 |some k=>
  have:=List.find?_some e
  refine .inr ⟨k,List.mem_of_find?_eq_some e,rfl,?_,by simpa using this⟩
  rw [show((fun n:Nd=>(n.id:Int) == id) ∘ fun k:Nat×Nd=>k.2)=fun k:Nat×Nd=>(k.2.id:Int) == id from rfl,e]
  rfl
def liveP (l:List Nd)(id now:Int): Bool:=match findI l id with
 |none=>false
 |some n=>liveN l now n
theorem live_any {w:World}{f:Nat}{ns:Ns}{nx:Int}(h:FR w f ns nx)(hl:ns.length≤1000000)(id now:Int): Calls Tryz.prog 27 #[kpt f,.int .i64 id,.int .i64 now] w fun e w'=>e = .returned (.bool (liveP (nodes ns) id now))∧Below w.heap.size w w':=by
 have HA:=Φ (at_any h hl id)
 rcases find_cases ns id with ⟨h1,h2⟩ | ⟨k,hk,h1,h2,h3⟩
 ·have HR:Hid (liveP (nodes ns) id now=false):=Φ (by unfold liveP;rw [h2])
  rw [h1] at HA
  clear h h1 h2
  unfold kpt at *
  unfold fV at HA
  go_enter Tryz.func27,Tryz.ntmps27
  go_wp2_with fail
  refine HA.out.mono ?_
  rintro e w1 ⟨rfl,rfl⟩
  go_wp2_with fail
  go_ret
  exact⟨by rw [HR.out];rfl,Below.refl _ _⟩
 ·have HR:Hid (liveP (nodes ns) id now=liveN (nodes ns) now k.2):=Φ (by unfold liveP;rw [h2])
  have HL:=Φ (isLive_any h hk now)
  rw [h1] at HA
  generalize liveN (nodes ns) now k.2=b at *
  clear h h1 h2 hk h3
  generalize k.1=g at *
  unfold fV at HA
  unfold kpt at *
  go_enter Tryz.func27,Tryz.ntmps27
  go_wp2_with fail
  refine HA.out.mono ?_
  rintro e w1 ⟨rfl,rfl⟩
  go_wp2_with fail
  refine HL.out.mono ?_
  rintro e w2 ⟨rfl,hb⟩
  go_wp2_with fail
  go_ret
  exact⟨by rw [HR.out];rfl,hb⟩
def killF (n:Nd): Nd:={n with dead:=true}
def spendF (n:Nd): Nd:={n with spent:=true}
def liftF (lev:Int)(n:Nd): Nd:={n with level:=max n.level lev}
def noteF (s:Bs)(n:Nd): Nd:={n with data:=s}
theorem mild_kill:Mild killF:=⟨⟨fun _=>rfl,fun _=>rfl⟩,fun _=>rfl,fun _=>rfl⟩
theorem mild_spend:Mild spendF:=⟨⟨fun _=>rfl,fun _=>rfl⟩,fun _=>rfl,fun _=>rfl⟩
theorem mild_lift (x:Int): Mild (liftF x):=⟨⟨fun _=>rfl,fun _=>rfl⟩,fun _=>rfl,fun _=>rfl⟩
theorem mild_note (s:Bs): Mild (noteF s):=⟨⟨fun _=>rfl,fun _=>rfl⟩,fun _=>rfl,fun _=>rfl⟩
def Ends (w:World)(f:Nat)(ns:Ns)(nx:Int)(r:Value)(l:List Nd)(nx':Int)(e:Ending)(w':World): Prop:=
 e = .returned r∧∃ns',nodes ns'=l∧FR w' f ns' nx'∧Chf w w' f ns ns'
theorem only_cell (w:World)(g o:Nat)(v:Value): Only [g] w (w.setCell ⟨g,o,none⟩ v):=(Only.refl [g] w).setCell ⟨g,o,none⟩ (.inl (by simp)) v
theorem killB {w:World}{f:Nat}{ns:Ns}{nx:Int}(h:FR w f ns nx){k:Nat×Nd}(hk:k∈ns): Calls Tryz.prog 67 #[kpt k.1] w fun e w'=>Ends w f ns nx (.bool (!k.2.dead)) (setN (nodes ns) k.2.id killF) nx e w':=by
 obtain⟨sv,av,K,_⟩:=h.node k hk
 refine(kill_any K).mono ?_
 rintro e w' ⟨rfl,rfl⟩
 obtain⟨h1,h2⟩:=h.upd hk mild_kill (only_cell w k.1 9 (.bool true)) (fun sv av up K=>Bk.same (i:=9) (v:= .bool true) K)
 exact⟨rfl,_,updN_nodes _ _ _,h1,h2⟩
def killP (l:List Nd)(id:Int): Int×List Nd:=match findI l id with
 |none=>(131,l)
 |some n=>(0,setN l n.id killF)
theorem kill_call {w:World}{f:Nat}{ns:Ns}{nx:Int}(h:FR w f ns nx)(hl:ns.length≤1000000)(id:Int): Calls Tryz.prog 28 #[kpt f,.int .i64 id] w fun e w'=>Ends w f ns nx (.int .i64 (killP (nodes ns) id).1) (killP (nodes ns) id).2 nx e w':=by
 have HA:=Φ (at_any h hl id)
 have H:=Φ h
 rcases find_cases ns id with ⟨h1,h2⟩ | ⟨k,hk,h1,h2,h3⟩
 ·have HR:Hid (killP (nodes ns) id=(131,nodes ns)):=Φ (by unfold killP;rw [h2])
  rw [HR.out]
  rw [h1] at HA
  clear h h1 h2 HR
  unfold kpt at *
  unfold fV at HA
  go_enter Tryz.func28,Tryz.ntmps28
  go_wp2_with fail
  refine HA.out.mono ?_
  rintro e w1 ⟨rfl,rfl⟩
  go_wp2_with fail
  go_ret
  exact⟨rfl,ns,rfl,H.out,Chf.of_below H.out (Below.refl _ _)⟩
 ·have HR:Hid (killP (nodes ns) id=(0,setN (nodes ns) k.2.id killF)):=Φ (by unfold killP;rw [h2])
  rw [HR.out]
  have HK:=Φ (killB h hk)
  rw [h1] at HA
  clear h h1 h2 hk h3 HR
  generalize k.1=g at *
  unfold fV at HA
  unfold kpt at *
  go_enter Tryz.func28,Tryz.ntmps28
  go_wp2_with fail
  refine HA.out.mono ?_
  rintro e w1 ⟨rfl,rfl⟩
  go_wp2_with fail
  refine HK.out.mono ?_
  rintro e w2 ⟨rfl,hN⟩
  have HN:=Φ hN
  clear hN
  go_wp2_with fail
  go_ret
  exact⟨rfl,HN.out⟩
open Go.Lib renaming hid→Φ
def cId (p:Bs): Bs:=Lib.trimPrefix p [99,58]
def cIs (p:Bs): Bool:=Lib.hasPrefix p [99,58]
def isOfP (n:Nd)(p:Bs): Bool:=n.subject == p||(cIs p&&!(cId p).isEmpty&&n.client == cId p)
set_option maxHeartbeats 4000000 in
theorem isOf_any {w:World}{g:Nat}{n:Nd}{sv av up:Value}(K:Bk 75 w g (ndC n sv av up))(p:Bs): Calls Tryz.prog 68 #[kpt g,.string ⟨p.toArray⟩] w fun e w'=>e = .returned (.bool (isOfP n p))∧w'=w:=by
 have c3:w.cell? ⟨g,3,none⟩=some (.string ⟨n.subject.toArray⟩):=K.cell 3
 have c4:w.cell? ⟨g,4,none⟩=some (.string ⟨n.client.toArray⟩):=K.cell 4
 have HP:=Φ (Tryz.strings_CutPrefix ⟨p.toArray⟩ ⟨#[99,58]⟩ w)
 simp only [] at HP
 change Hid (Calls Tryz.prog 111 #[.string ⟨p.toArray⟩,.string ⟨#[99,58]⟩] w fun e w'=>e = .returned (.tuple #[.string ⟨(cId p).toArray⟩,.bool (cIs p)])∧w'=w) at HP
 have HD:Hid (isOfP n p=(n.subject == p||(cIs p&&!(cId p).isEmpty&&n.client == cId p))):=Φ rfl
 clear K
 generalize cId p=q at *
 generalize cIs p=b at *
 generalize isOfP n p=r at *
 generalize n.subject=s at *
 generalize n.client=c at *
 unfold kpt
 cases h1:(s == p) with
 |true=>
  rw [h1] at HD
  go_enter Tryz.func68,Tryz.ntmps68
  go_wp2_with fail
  refine HP.out.mono ?_
  rintro e w1 ⟨rfl,rfl⟩
  go_wp2_with fail
  go_ret
  exact⟨by rw [HD.out];rfl,rfl⟩
 |false=>
  rw [h1] at HD
  cases b with
  |false=>
   go_enter Tryz.func68,Tryz.ntmps68
   go_wp2_with fail
   refine HP.out.mono ?_
   rintro e w1 ⟨rfl,rfl⟩
   go_wp2_with fail
   go_ret
   exact⟨by rw [HD.out];rfl,rfl⟩
  |true=>
   cases h2:q.isEmpty with
   |true=>
    rw [h2] at HD
    go_enter Tryz.func68,Tryz.ntmps68
    go_wp2_with fail
    refine HP.out.mono ?_
    rintro e w1 ⟨rfl,rfl⟩
    go_wp2_with fail
    go_ret
    exact⟨by rw [HD.out];rfl,rfl⟩
   |false=>
    rw [h2] at HD
    generalize hz:(c == q)=z at *
    go_enter Tryz.func68,Tryz.ntmps68
    go_wp2_with fail
    refine HP.out.mono ?_
    rintro e w1 ⟨rfl,rfl⟩
    go_wp2_with fail
    go_ret
    exact⟨by rw [HD.out];simp [hz],rfl⟩
theorem secP_find (ns:Ns)(s:Bs): (secP ns s=none∧ns.find? (fun k=>k.2.secret == s)=none)∨∃i,∃h:i<ns.length,secP ns s=some i∧ns.find? (fun k=>k.2.secret == s)=some ns[i]:=by
 unfold secP
 cases e:ns.findIdx? fun k=>k.2.secret == s with
 |none=>
  rw [List.findIdx?_eq_none_iff] at e
  exact .inl ⟨rfl,List.find?_eq_none.2 fun x hx=>by rw [e x hx];simp⟩
 |some i=>
  obtain⟨h1,h2,h3⟩:=List.findIdx?_eq_some_iff_getElem.1 e
  refine .inr ⟨i,h1,rfl,?_⟩
  rw [List.find?_eq_some_iff_getElem]
  exact⟨h2,i,h1,rfl,fun j hj=>by have:=h3 j hj;simpa using this⟩
theorem by_any {w:World}{f:Nat}{ns:Ns}{nx:Int}(h:FR w f ns nx)(hl:ns.length≤1000000)(s:Bs): Calls Tryz.prog 64 #[kpt f,.string ⟨s.toArray⟩] w fun e w'=>e = .returned (fV ((ns.find? fun k=>k.2.secret == s).map (·.1)))∧Below w.heap.size w w':=by
 have H:=Φ h
 obtain⟨a,c,h0,_,hc⟩:=h.cells
 have HS:Hid (Calls Tryz.prog 107 #[.slice a ns.length c,.func (.func 108) #[] #[.pointer (some ⟨w.heap.size,0,none⟩)]] (w.alloc (.cells #[.string ⟨s.toArray⟩] 9)) fun e w'=>e = .returned (.int .i64 (posV (secP ns s)))∧Below (w.heap.size+1) (w.alloc (.cells #[.string ⟨s.toArray⟩] 9)) w'):=Φ (by
  have hb:Below w.heap.size w (w.alloc (.cells #[.string ⟨s.toArray⟩] 9)):=by go_grown
  refine(index_sec c hl (fun i hi=>?_) (fun k hk=>?_) w.heap.size s (Bk.cell (t:=9) (Bk.new rfl) 0)).mono ?_
  ·obtain⟨g,h1,h2⟩:=hc i hi
   exact⟨g,h1,cell_below hb h2⟩
  ·obtain⟨sv,av,K,_⟩:=h.node k hk
   exact cell_below hb (K.cell 13)
  ·rintro e w' ⟨h1,h2⟩
   exact⟨h1,by simpa using h2⟩)
 have HC:=Φ hc
 have h0A:∀o,(w.alloc o).cell? ⟨f,0,none⟩=some (.slice a ns.length c):=fun o=>cell_below (by go_grown) h0
 clear hc h
 unfold kpt
 rcases secP_find ns s with ⟨e1,e2⟩ | ⟨i,hi,e1,e2⟩
 ·rw [e1] at HS
  rw [e2]
  clear e1 e2
  unfold posV at HS
  go_enter Tryz.func64,Tryz.ntmps64
  go_wp2_with fail
  refine HS.out.mono ?_
  rintro e w2 ⟨rfl,hb⟩
  have HB:Hid (Below w.heap.size w w2):=Φ (Below.trans (show Below w.heap.size w (w.alloc (.cells #[.string ⟨s.toArray⟩] 9)) by go_grown) (hb.mono (by omega)))
  clear hb HS
  go_wp2_with fail
  go_ret
  exact⟨rfl,HB.out⟩
 ·rw [e1] at HS
  rw [e2]
  obtain⟨g,rfl,hcell⟩:=HC.out i hi
  obtain⟨k,hk⟩:∃k,ns[i]=k:=⟨_,rfl⟩
  rw [hk] at hcell ⊢
  have hiI:(i:Int)<(ns.length:Int):=by omega
  unfold kpt at hcell
  have HCL:=Φ hcell
  have HF:=Φ h0
  clear e1 e2 hk hcell h0 HC
  unfold posV at HS
  go_enter Tryz.func64,Tryz.ntmps64
  go_wp2_with fail
  refine HS.out.mono ?_
  rintro e w2 ⟨rfl,hb⟩
  have HB:Hid (Below w.heap.size w w2):=Φ (Below.trans (show Below w.heap.size w (w.alloc (.cells #[.string ⟨s.toArray⟩] 9)) by go_grown) (hb.mono (by omega)))
  have c1:w2.cell? ⟨g,i,none⟩=some (.pointer (some ⟨k.1,0,none⟩)):=cell_below HB.out HCL.out
  have c2:w2.cell? ⟨f,0,none⟩=some (.slice (some ⟨g,0,none⟩) ns.length c):=cell_below HB.out HF.out
  clear hb HS h0A
  go_wp2_with fail
  go_ret
  exact⟨rfl,HB.out⟩
end Go.Proofs.YthogppennalobaaGreatDoor
namespace Go.Proofs.YthogppennalobaaGreatDoor
open Go.RowKit Go.Sort Forest OwnR TxO
open Go.Lib renaming hid→Φ
theorem Bk.cells15 {t:TypeId}{w:World}{g:Nat}{a0 a1 a2 a3 a4 a5 a6 a7 a8 a9 a10 a11 a12 a13 a14 u:Value}(K:Bk t w g #[a0,a1,a2,a3,a4,a5,a6,a7,a8,a9,a10,a11,a12,a13,a14,u]):
  (w.cell? ⟨g,0,none⟩=some a0∧w.cell? ⟨g,1,none⟩=some a1∧w.cell? ⟨g,2,none⟩=some a2∧w.cell? ⟨g,3,none⟩=some a3∧w.cell? ⟨g,4,none⟩=some a4)∧(w.cell? ⟨g,5,none⟩=some a5∧w.cell? ⟨g,6,none⟩=some a6∧w.cell? ⟨g,7,none⟩=some a7∧w.cell? ⟨g,8,none⟩=some a8∧w.cell? ⟨g,9,none⟩=some a9)∧
  w.cell? ⟨g,10,none⟩=some a10∧w.cell? ⟨g,11,none⟩=some a11∧w.cell? ⟨g,12,none⟩=some a12∧w.cell? ⟨g,13,none⟩=some a13∧w.cell? ⟨g,14,none⟩=some a14:=
 ⟨⟨K.cell 0,K.cell 1,K.cell 2,K.cell 3,K.cell 4⟩,⟨K.cell 5,K.cell 6,K.cell 7,K.cell 8,K.cell 9⟩,K.cell 10,K.cell 11,K.cell 12,K.cell 13,K.cell 14⟩
def ToldP (w w':World)(o:Option Nd)(e:Ending): Prop:=(match o with
 |none=>e = .returned (.tuple #[.agg zeroN,.bool false])
 |some n=>∃sv av,e = .returned (.tuple #[.agg (inC n.id n.parent n sv av),.bool true])∧Tx w' sv n.scope∧Tx w' av n.actors)∧Below w.heap.size w w'
theorem ret_cellN {fn:Func}{R:Ending→World→Prop}{a:Act}{w:World}{p u:Tmp}(h:fn.results=#[.cell p 31,.tmp u])(g:Nat)(cs:Array Value)(y:Value)(hp:a.tmps.getD p undef = .pointer (some ⟨g,0,none⟩))(hy:a.tmps.getD u undef=y)(hk:Bk 31 w g cs)(hs:cs.size=15)(hd:a.defers=[])(hR:R (.returned (.tuple #[.agg cs,y])) w): bodyPost Tryz.prog fn R .ret a w:=by
 subst hy
 refine bodyPost_ret (v:= .tuple #[.agg cs,a.tmps.getD u undef]) ?_ hd hR
 rw [results_cell_tmp h,hp]
 show((loadVar 31 ⟨g,0,none⟩).run Tryz.prog w).andThen _=_
 rw [run_loadVar_row w g 31 31 cs (0,0) _ hk Tryz.underlying31 rfl (by rw [hs];exact i31)]
 rfl
set_option maxHeartbeats 4000000 in
theorem told_none (w:World): Calls Tryz.prog 76 #[.pointer none] w fun e w'=>ToldP w w' none e:=by
 have hZ:Bk 31 (w.alloc (.cells zeroN 31)) w.heap.size zeroN:=Bk.new rfl
 have HZ:=Φ hZ
 have HB:Hid (Below w.heap.size w (w.alloc (.cells zeroN 31))):=Φ (by go_grown)
 clear hZ
 go_enter Tryz.func76,Tryz.ntmps76
 go_wp2_with (refine wpList_put rfl 31 _ _ rfl w.heap.size zeroN zeroN rfl rfl HZ.out i31 rfl (one15 0 0 ⟨0,0,0,[],[],[],[],0,0,false,false,[],0,[],[]⟩ none none 0 0 0 0) ?_)
 refine ret_cellN rfl w.heap.size zeroN (.bool false) rfl rfl (Bk.row HZ.out) rfl rfl ?_
 exact⟨rfl,below_row HB.out (Nat.le_refl _)⟩
set_option maxHeartbeats 4000000 in
theorem told_some {w:World}{f:Nat}{ns:Ns}{nx:Int}(h:FR w f ns nx){k:Nat×Nd}(hk:k∈ns)(hn:Short k.2): Calls Tryz.prog 76 #[kpt k.1] w fun e w'=>ToldP w w' (some k.2) e:=by
 obtain⟨sv,av,K,hs,ha⟩:=h.node k hk
 have HC:Hid (∀W,Below w.heap.size w W→Calls Tryz.prog 51 #[.agg (inC k.2.id k.2.parent k.2 sv av)] W fun e w'=>∃sv' av',e = .returned (.agg (inC k.2.id k.2.parent k.2 sv' av'))∧Tx w' sv' k.2.scope∧Tx w' av' k.2.actors∧Below W.heap.size W w'):=
  Φ fun W hb=>copied_any _ _ k.2 sv av hn W (hs.below hb).rd (ha.below hb).rd
 have hZ:Bk 31 (w.alloc (.cells zeroN 31)) w.heap.size zeroN:=Bk.new rfl
 have HZ:=Φ hZ
 have HB:Hid (Below w.heap.size w (w.alloc (.cells zeroN 31))):=Φ (by go_grown)
 have K2:Bk 75 (w.alloc (.cells zeroN 31)) k.1 (ndC k.2 sv av (fV (blockI ns k.2.parent))):=K.alloc
 unfold ndC txt at K2
 obtain⟨⟨a0,a1,a2,a3,a4⟩,⟨a5,a6,a7,a8,a9⟩,a10,a11,a12,a13,a14⟩:=K2.cells15
 obtain⟨sa,sc,rfl⟩:=owns_shape hs
 obtain⟨ca,cc,rfl⟩:=owns_shape ha
 unfold inC txt at HC
 unfold zeroN at a0 a1 a2 a3 a4 a5 a6 a7 a8 a9 a10 a11 a12 a13 a14
 clear hZ K K2 h hk hn hs ha
 unfold kpt
 go_enter Tryz.func76,Tryz.ntmps76
 go_wp2_with fail
 refine(HC.out _ (by go_grown)).mono ?_
 rintro e w2 ⟨sv',av',rfl,t1,t2,hb⟩
 have HB2:=Φ (HB.out.trans (hb.mono (by have:=HB.out.size;exact this)))
 have HZ2:=Φ (HZ.out.below hb)
 have T1:=Φ t1
 have T2:=Φ t2
 obtain⟨xa,xc,rfl⟩:=owns_shape t1
 obtain⟨ya,yc,rfl⟩:=owns_shape t2
 obtain⟨g,hg⟩:∃g,g=w.heap.size:=⟨_,rfl⟩
 rw [← hg] at HZ2 ⊢
 have HG:=Φ hg
 clear a0 a1 a2 a3 a4 a5 a6 a7 a8 a9 a10 a11 a12 a13 a14 hb HC HZ HB t1 t2 hg
 go_wp2_with (refine wpList_put rfl 31 _ _ rfl g zeroN _ rfl rfl HZ2.out i31 rfl (one15 (k.2.id:Int) (k.2.parent:Int) k.2 xa ya _ xc _ yc) ?_)
 refine ret_cellN rfl g _ (.bool true) rfl rfl (Bk.row HZ2.out) rfl rfl ?_
 exact⟨⟨_,_,rfl,T1.out.setRow HZ2.out (by decide),T2.out.setRow HZ2.out (by decide)⟩,below_row HB2.out (by rw [HG.out];exact Nat.le_refl _)⟩
open Go.Lib renaming hid→Φ
theorem sec_cases (ns:Ns)(s:Bs): ((ns.find? fun k=>k.2.secret == s).map (·.1)=none∧(nodes ns).find? (fun n=>n.secret == s)=none)∨∃k∈ns,(ns.find? fun k=>k.2.secret == s).map (·.1)=some k.1∧(nodes ns).find? (fun n=>n.secret == s)=some k.2∧k.2.secret=s:=by
 unfold nodes
 rw [List.find?_map]
 cases e:ns.find? fun k=>k.2.secret == s with
 |none=>exact .inl ⟨rfl,by simpa [Function.comp_def] using e⟩
 |some k=>
  have:=List.find?_some e
  refine .inr ⟨k,List.mem_of_find?_eq_some e,rfl,?_,by simpa using this⟩
  rw [show((fun n:Nd=>n.secret == s) ∘ fun k:Nat×Nd=>k.2)=fun k:Nat×Nd=>k.2.secret == s from rfl,e]
  rfl
set_option maxHeartbeats 4000000 in
theorem get_call {w:World}{f:Nat}{ns:Ns}{nx:Int}(h:FR w f ns nx)(hl:ns.length≤1000000)(hS:∀n∈nodes ns,Short n)(id:Int): Calls Tryz.prog 34 #[kpt f,.int .i64 id] w fun e w'=>ToldP w w' (findI (nodes ns) id) e:=by
 have hw:∀o,Below w.heap.size w (w.alloc o):=fun o=>by go_grown
 have HA:Hid (∀o,Calls Tryz.prog 62 #[kpt f,.int .i64 id] (w.alloc o) fun e w'=>e = .returned (fV (blockI ns id))∧Below w.heap.size w w'∧Below (w.alloc o).heap.size (w.alloc o) w'):=Φ fun o=>(at_any (h.below (hw o)) hl id).mono fun e w' ⟨h1,h2⟩=>⟨h1,by subst h2;exact⟨hw o,Below.refl _ _⟩⟩
 have H:=Φ h
 have HZ:Hid (Bk 31 (w.alloc (.cells zeroN 31)) w.heap.size zeroN):=Φ (Bk.new rfl)
 have HW:=Φ hw
 have HO:=Φ (HA.out (.cells zeroN 31))
 unfold zeroN at HO
 clear HA hw
 obtain⟨r,hr⟩:∃r,r=findI (nodes ns) id:=⟨_,rfl⟩
 rw [← hr]
 have HR:Hid ((r=none∧blockI ns id=none)∨∃k∈ns,blockI ns id=some k.1∧r=some k.2):=Φ (by
  rcases find_cases ns id with ⟨h1,h2⟩ | ⟨k,hk,h1,h2,_⟩
  ·exact .inl ⟨by rw [hr,h2],h1⟩
  ·exact .inr ⟨k,hk,h1,by rw [hr,h2]⟩)
 clear hr h
 generalize blockI ns id=o at *
 unfold kpt at HO ⊢
 go_enter Tryz.func34,Tryz.ntmps34
 go_wp2_with fail
 refine HO.out.mono ?_
 rintro e w1 ⟨rfl,hb,hb2⟩
 have HB:=Φ hb
 have HZ1:=Φ (HZ.out.below hb2)
 have H1:=Φ (H.out.below hb)
 clear hb hb2 HO HZ
 rcases HR.out with ⟨rfl,rfl⟩ | ⟨k,hk,rfl,rfl⟩
 ·have HT:=Φ (told_none w1)
  unfold fV
  clear HR
  go_wp2_with fail
  refine HT.out.mono ?_
  rintro e w2 ⟨he,hb⟩
  dsimp only at he
  subst he
  have HB2:=Φ (HB.out.trans (hb.mono HB.out.size))
  have HZ2:=Φ (HZ1.out.below hb)
  clear hb HT HZ1
  unfold zeroN
  go_wp2_with (refine wpList_put rfl 31 _ _ rfl w.heap.size zeroN zeroN rfl rfl HZ2.out i31 rfl (one15 0 0 ⟨0,0,0,[],[],[],[],0,0,false,false,[],0,[],[]⟩ none none 0 0 0 0) ?_)
  refine ret_cellN rfl w.heap.size zeroN (.bool false) rfl rfl (Bk.row HZ2.out) rfl rfl ?_
  exact⟨rfl,below_row HB2.out (Nat.le_refl _)⟩
 ·have HT:=Φ (told_some H1.out hk (hS _ (mem_nodes hk)))
  unfold fV
  clear HR
  unfold kpt at *
  go_wp2_with fail
  refine HT.out.mono ?_
  rintro e w2 ⟨⟨sv,av,rfl,t1,t2⟩,hb⟩
  have HB2:=Φ (HB.out.trans (hb.mono HB.out.size))
  have HZ2:=Φ (HZ1.out.below hb)
  have T1:=Φ t1
  have T2:=Φ t2
  obtain⟨xa,xc,rfl⟩:=owns_shape t1
  obtain⟨ya,yc,rfl⟩:=owns_shape t2
  clear hb HT HZ1 t1 t2
  generalize hcs:inC (k.2.id:Int) (k.2.parent:Int) k.2 (.slice xa k.2.scope.length xc) (.slice ya k.2.actors.length yc)=cs
  have hs:cs.size=15:=by rw [← hcs];rfl
  have h1:cs.all (·.oneCell')=true:=by rw [← hcs];exact one15 _ _ _ _ _ _ _ _ _
  have HCS:=Φ hcs
  have HS1:=Φ (And.intro hs h1)
  clear hcs hs h1
  go_wp2_with (refine wpList_put rfl 31 _ _ rfl w.heap.size zeroN cs rfl rfl HZ2.out (by rw [HS1.out.1];exact i31) (by rw [HS1.out.1];rfl) HS1.out.2 ?_)
  refine ret_cellN rfl w.heap.size cs (.bool true) rfl rfl (Bk.row HZ2.out) HS1.out.1 rfl ?_
  exact⟨⟨_,_,by rw [← HCS.out],T1.out.setRow HZ2.out (by decide),T2.out.setRow HZ2.out (by decide)⟩,below_row HB2.out (Nat.le_refl _)⟩
set_option maxHeartbeats 4000000 in
theorem find_call {w:World}{f:Nat}{ns:Ns}{nx:Int}(h:FR w f ns nx)(hl:ns.length≤1000000)(hS:∀n∈nodes ns,Short n)(s:Bs): Calls Tryz.prog 36 #[kpt f,.string ⟨s.toArray⟩] w fun e w'=>ToldP w w' ((nodes ns).find? fun n=>n.secret == s) e:=by
 have hw:∀o,Below w.heap.size w (w.alloc o):=fun o=>by go_grown
 have HA:Hid (∀o,Calls Tryz.prog 64 #[kpt f,.string ⟨s.toArray⟩] (w.alloc o) fun e w'=>e = .returned (fV ((ns.find? fun k=>k.2.secret == s).map (·.1)))∧Below w.heap.size w w'∧Below (w.alloc o).heap.size (w.alloc o) w'):=Φ fun o=>(by_any (h.below (hw o)) hl s).mono fun e w' ⟨h1,h2⟩=>⟨h1,(hw o).trans (h2.mono (hw o).size),h2⟩
 have H:=Φ h
 have HZ:Hid (Bk 31 (w.alloc (.cells zeroN 31)) w.heap.size zeroN):=Φ (Bk.new rfl)
 have HW:=Φ hw
 have HO:=Φ (HA.out (.cells zeroN 31))
 unfold zeroN at HO
 clear HA hw
 obtain⟨r,hr⟩:∃r,r=(nodes ns).find? fun n=>n.secret == s:=⟨_,rfl⟩
 rw [← hr]
 have HR:Hid ((r=none∧(ns.find? fun k=>k.2.secret == s).map (·.1)=none)∨∃k∈ns,(ns.find? fun k=>k.2.secret == s).map (·.1)=some k.1∧r=some k.2):=Φ (by
  rcases sec_cases ns s with ⟨h1,h2⟩ | ⟨k,hk,h1,h2,_⟩
  ·exact .inl ⟨by rw [hr,h2],h1⟩
  ·exact .inr ⟨k,hk,h1,by rw [hr,h2]⟩)
 clear hr h
 generalize (ns.find? fun k=>k.2.secret == s).map (·.1)=o at *
 unfold kpt at HO ⊢
 go_enter Tryz.func36,Tryz.ntmps36
 go_wp2_with fail
 refine HO.out.mono ?_
 rintro e w1 ⟨rfl,hb,hb2⟩
 have HB:=Φ hb
 have HZ1:=Φ (HZ.out.below hb2)
 have H1:=Φ (H.out.below hb)
 clear hb hb2 HO HZ
 rcases HR.out with ⟨rfl,rfl⟩ | ⟨k,hk,rfl,rfl⟩
 ·have HT:=Φ (told_none w1)
  unfold fV
  clear HR
  go_wp2_with fail
  refine HT.out.mono ?_
  rintro e w2 ⟨he,hb⟩
  dsimp only at he
  subst he
  have HB2:=Φ (HB.out.trans (hb.mono HB.out.size))
  have HZ2:=Φ (HZ1.out.below hb)
  clear hb HT HZ1
  unfold zeroN
  go_wp2_with (refine wpList_put rfl 31 _ _ rfl w.heap.size zeroN zeroN rfl rfl HZ2.out i31 rfl (one15 0 0 ⟨0,0,0,[],[],[],[],0,0,false,false,[],0,[],[]⟩ none none 0 0 0 0) ?_)
  refine ret_cellN rfl w.heap.size zeroN (.bool false) rfl rfl (Bk.row HZ2.out) rfl rfl ?_
  exact⟨rfl,below_row HB2.out (Nat.le_refl _)⟩
 ·have HT:=Φ (told_some H1.out hk (hS _ (mem_nodes hk)))
  unfold fV
  clear HR
  unfold kpt at *
  go_wp2_with fail
  refine HT.out.mono ?_
  rintro e w2 ⟨⟨sv,av,rfl,t1,t2⟩,hb⟩
  have HB2:=Φ (HB.out.trans (hb.mono HB.out.size))
  have HZ2:=Φ (HZ1.out.below hb)
  have T1:=Φ t1
  have T2:=Φ t2
  obtain⟨xa,xc,rfl⟩:=owns_shape t1
  obtain⟨ya,yc,rfl⟩:=owns_shape t2
  clear hb HT HZ1 t1 t2
  generalize hcs:inC (k.2.id:Int) (k.2.parent:Int) k.2 (.slice xa k.2.scope.length xc) (.slice ya k.2.actors.length yc)=cs
  have hs:cs.size=15:=by rw [← hcs];rfl
  have h1:cs.all (·.oneCell')=true:=by rw [← hcs];exact one15 _ _ _ _ _ _ _ _ _
  have HCS:=Φ hcs
  have HS1:=Φ (And.intro hs h1)
  clear hcs hs h1
  go_wp2_with (refine wpList_put rfl 31 _ _ rfl w.heap.size zeroN cs rfl rfl HZ2.out (by rw [HS1.out.1];exact i31) (by rw [HS1.out.1];rfl) HS1.out.2 ?_)
  refine ret_cellN rfl w.heap.size cs (.bool true) rfl rfl (Bk.row HZ2.out) HS1.out.1 rfl ?_
  exact⟨⟨_,_,by rw [← HCS.out],T1.out.setRow HZ2.out (by decide),T2.out.setRow HZ2.out (by decide)⟩,below_row HB2.out (Nat.le_refl _)⟩
end Go.Proofs.YthogppennalobaaGreatDoor
namespace Go.Proofs.YthogppennalobaaGreatDoor
open Go.RowKit Go.Sort Forest
open Go.Lib renaming hid→Φ
def pathI (l:List Nd)(id:Int): List Nd:=match findI l id with
 |none=>[]
 |some n=>path l n.id
def idV (n:Nd): Value:= .int .i64 (n.id:Int)
set_option maxHeartbeats 4000000 in
theorem path_call {w:World}{f:Nat}{ns:Ns}{nx:Int}(h:FR w f ns nx)(hl:ns.length≤1000000)(id:Int): Calls Tryz.prog 29 #[kpt f,.int .i64 id] w fun e w'=>∃v,e = .returned v∧Lw 3 1 w w' v (pathI (nodes ns) id).length ((pathI (nodes ns) id).map idV):=by
 have HA:=Φ (at_any h hl id)
 have H:=Φ h
 obtain⟨m0,hm0,hb0⟩:∃m0:Nat,pathI (nodes ns) id=path (nodes ns) m0∧blockI ns id=blockI ns (m0:Int):=by
  rcases find_cases ns id with ⟨h1,h2⟩ | ⟨k,hk,h1,h2,h3⟩
  ·refine⟨0,?_,?_⟩
   ·have:at' (nodes ns) 0=none:=List.find?_eq_none.2 fun n hn=>by have:=(h.ok.mem hn).1;simp;omega
    unfold pathI
    rw [h2,path_none this]
   ·rw [h1]
    refine(blockI_none fun i hi e=>?_).symm
    rw [idAt_lt hi] at e
    have:=(h.ok.mem (mem_nodes (List.getElem_mem hi))).1
    omega
  ·refine⟨k.2.id,?_,by rw [h3]⟩
   unfold pathI
   rw [h2]
 have hlen:(path (nodes ns) m0).length≤1000000:=Nat.le_trans (path_len h.ok m0) (by simpa [nodes] using hl)
 rw [hm0]
 rw [hb0] at HA
 have HL:=Φ hlen
 obtain⟨p0,hp0⟩:∃p0,p0=fV (blockI ns (m0:Int)):=⟨_,rfl⟩
 rw [← hp0] at HA
 have HP0:=Φ hp0
 clear hm0 hb0 hlen h hp0
 unfold kpt
 unfold kpt at HA
 go_enter Tryz.func29,Tryz.ntmps29
 go_wp2_with fail
 refine HA.out.mono ?_
 rintro e w1 ⟨rfl,rfl⟩
 clear HA
 go_wp2_with fail
 go_loopg [5,6] (m0+1) (fun gg rv pv wr=>∃(m:Nat) (done:List Nd),m+1≤gg∧pv=fV (blockI ns (m:Int))∧Hid (path (nodes ns) m0=done++path (nodes ns) m)∧Hid (Lw 3 1 w1 wr rv done.length (done.map idV)))
 case atStart=>exact⟨m0,[],Nat.le_refl _,HP0.out,Φ rfl,Φ (Lw.nil 3 1 w1)⟩
 case round=>
  obtain⟨m,done,hm,rfl,HP,HI⟩:=hrel
  cases hb:blockI ns (m:Int) with
  |none=>
   have HR:Hid (path (nodes ns) m0=done):=Φ (by rw [HP.out,path_none (blockI_at hb)];simp)
   unfold fV
   clear hb HP
   go_wp2_with fail
   go_ret
   exact⟨_,rfl,by rw [HR.out];exact HI.out⟩
  |some g=>
   obtain⟨k,hk,rfl,rfl⟩:=blockI_some hb
   obtain⟨sv,av,K,_⟩:=H.out.node k hk
   have c0:wr.cell? ⟨k.1,0,none⟩=some (idV k.2):=cell_below HI.out.2.1 (K.cell 0)
   have HX:Hid (∀W,Below w1.heap.size w1 W→W.cell? ⟨k.1,15,none⟩=some (fV (blockI ns k.2.parent))):=Φ fun W hb=>cell_below hb (K.cell 15)
   have hp:=(H.out.ok.mem (mem_nodes hk)).2
   have HQ:Hid (path (nodes ns) m0=(done++[k.2])++path (nodes ns) k.2.parent):=Φ (by rw [HP.out,path_some H.out.ok (mem_nodes hk)];simp)
   have hdl:done.length+1≤4194304:=by
    have h1:=HL.out
    rw [HQ.out] at h1
    simp at h1
    omega
   have HD:=Φ hdl
   have HPP:=Φ hp
   have HKI:=Φ (show idV k.2 = .int .i64 (k.2.id:Int) from rfl)
   clear hb HP K hdl hp
   unfold idV at c0
   generalize hpv:fV (blockI ns (k.2.parent:Int))=pv at *
   have HPV:=Φ hpv
   unfold fV kpt
   clear hpv hk
   generalize hid:(k.2.id:Int)=x at *
   have HID:=Φ hid
   clear hid
   go_wp2_with (at_builtin;refine wp_one row55 rfl _ _ rfl _ (done.map idV) wr.heap.size 1 #[.int .i64 x] rfl rfl (HI.out.down (by go_grown)) (Bk.new rfl) rfl (by simp [Value.oneCell']) HD.out (by decide) ?_;intro v' w3 hs3 hg3;have HI2:=Φ hs3;have c15:=HX.out w3 hs3.2.1;clear hs3 hg3)
   go_roundg (k.2.parent+1)
   case rel=>exact⟨k.2.parent,done++[k.2],Nat.le_refl _,HPV.out.symm,HQ,Φ (by simpa [idV,HID.out] using HI2.out)⟩
   case measure=>have:=HPP.out;omega
open Go.Lib renaming hid→Φ
def spendP (l:List Nd)(id now:Int): Int×List Nd:=match findI l id with
 |none=>(131,l)
 |some n=>if n.spent then (134,setN l n.id killF) else if liveN l now n then (0,setN l n.id spendF) else (133,l)
theorem spend_call {w:World}{f:Nat}{ns:Ns}{nx:Int}(h:FR w f ns nx)(hl:ns.length≤1000000)(id now:Int): Calls Tryz.prog 42 #[kpt f,.int .i64 id,.int .i64 now] w fun e w'=>Ends w f ns nx (.int .i64 (spendP (nodes ns) id now).1) (spendP (nodes ns) id now).2 nx e w':=by
 have HA:=Φ (at_any h hl id)
 have H:=Φ h
 rcases find_cases ns id with ⟨h1,h2⟩ | ⟨k,hk,h1,h2,h3⟩
 ·have HR:Hid (spendP (nodes ns) id now=(131,nodes ns)):=Φ (by unfold spendP;rw [h2])
  rw [HR.out]
  rw [h1] at HA
  clear h h1 h2 HR
  unfold kpt at *
  unfold fV at HA
  go_enter Tryz.func42,Tryz.ntmps42
  go_wp2_with fail
  refine HA.out.mono ?_
  rintro e w1 ⟨rfl,rfl⟩
  go_wp2_with fail
  go_ret
  exact⟨rfl,ns,rfl,H.out,Chf.of_below H.out (Below.refl _ _)⟩
 ·obtain⟨sv,av,K,_⟩:=h.node k hk
  have c10:w.cell? ⟨k.1,10,none⟩=some (.bool k.2.spent):=K.cell 10
  have HL:=Φ (isLive_any h hk now)
  have HK:=Φ hk
  have HRR:Hid (spendP (nodes ns) id now=if k.2.spent then (134,setN (nodes ns) k.2.id killF) else if liveN (nodes ns) now k.2 then (0,setN (nodes ns) k.2.id spendF) else (133,nodes ns)):=Φ (by unfold spendP;rw [h2])
  have HKL:=Φ (killB h hk)
  rw [h1] at HA
  clear h h1 h2 hk h3 K
  cases hs:k.2.spent with
  |true=>
   rw [hs] at c10
   rw [HRR.out,hs,if_pos rfl]
   clear HRR hs
   unfold fV at HA
   unfold kpt at *
   go_enter Tryz.func42,Tryz.ntmps42
   go_wp2_with fail
   refine HA.out.mono ?_
   rintro e w1 ⟨rfl,rfl⟩
   go_wp2_with fail
   refine HKL.out.mono ?_
   rintro e w2 ⟨rfl,hN⟩
   have HN:=Φ hN
   clear hN
   go_wp2_with fail
   go_ret
   exact⟨rfl,HN.out⟩
  |false=>
   rw [hs] at c10
   rw [HRR.out,hs,if_neg (by simp)]
   clear HRR hs HKL
   cases hv:liveN (nodes ns) now k.2 with
   |true=>
    rw [hv] at HL
    rw [if_pos rfl]
    clear hv
    unfold fV at HA
    unfold kpt at *
    go_enter Tryz.func42,Tryz.ntmps42
    go_wp2_with fail
    refine HA.out.mono ?_
    rintro e w1 ⟨rfl,rfl⟩
    go_wp2_with fail
    refine HL.out.mono ?_
    rintro e w2 ⟨rfl,hb⟩
    have HB:=Φ hb
    have H2:=Φ (H.out.below hb)
    obtain⟨sv2,av2,K2,_⟩:=H2.out.node k HK.out
    have c2:w2.cell? ⟨k.1,10,none⟩=some (.bool k.2.spent):=K2.cell 10
    have f2:=K2.fro 10
    clear hb K2
    go_wp2_with fail
    go_ret
    obtain⟨g1,g2⟩:=H2.out.upd HK.out mild_spend (only_cell w2 k.1 10 (.bool true)) (fun sv av up K=>Bk.same (i:=10) (v:= .bool true) K)
    exact⟨rfl,_,updN_nodes _ _ _,g1,(Chf.of_below H.out HB.out).trans g2⟩
   |false=>
    rw [hv] at HL
    rw [if_neg (by simp)]
    clear hv
    unfold fV at HA
    unfold kpt at *
    go_enter Tryz.func42,Tryz.ntmps42
    go_wp2_with fail
    refine HA.out.mono ?_
    rintro e w1 ⟨rfl,rfl⟩
    go_wp2_with fail
    refine HL.out.mono ?_
    rintro e w2 ⟨rfl,hb⟩
    have HB:=Φ hb
    clear hb
    go_wp2_with fail
    go_ret
    exact⟨rfl,ns,rfl,H.out.below HB.out,Chf.of_below H.out HB.out⟩
def liftP (l:List Nd)(id lev:Int): Int×List Nd:=match findI l id with
 |none=>(131,l)
 |some n=>if n.kind=1∧1≤lev∧lev≤3 then (0,setN l n.id (liftF lev)) else (131,l)
theorem lift_call {w:World}{f:Nat}{ns:Ns}{nx:Int}(h:FR w f ns nx)(hl:ns.length≤1000000)(id lev:Int): Calls Tryz.prog 46 #[kpt f,.int .i64 id,.int .i64 lev] w fun e w'=>Ends w f ns nx (.int .i64 (liftP (nodes ns) id lev).1) (liftP (nodes ns) id lev).2 nx e w':=by
 have HA:=Φ (at_any h hl id)
 have H:=Φ h
 rcases find_cases ns id with ⟨h1,h2⟩ | ⟨k,hk,h1,h2,h3⟩
 ·have HR:Hid (liftP (nodes ns) id lev=(131,nodes ns)):=Φ (by unfold liftP;rw [h2])
  rw [HR.out]
  rw [h1] at HA
  clear h h1 h2 HR
  unfold kpt at *
  unfold fV at HA
  go_enter Tryz.func46,Tryz.ntmps46
  go_wp2_with fail
  refine HA.out.mono ?_
  rintro e w1 ⟨rfl,rfl⟩
  go_wp2_with fail
  go_ret
  exact⟨rfl,ns,rfl,H.out,Chf.of_below H.out (Below.refl _ _)⟩
 ·obtain⟨sv,av,K,_⟩:=h.node k hk
  have c1:w.cell? ⟨k.1,1,none⟩=some (.int .i64 k.2.kind):=K.cell 1
  have c12:w.cell? ⟨k.1,12,none⟩=some (.int .i64 k.2.level):=K.cell 12
  have f12:=K.fro 12
  have HRR:Hid (liftP (nodes ns) id lev=if k.2.kind=1∧1≤lev∧lev≤3 then (0,setN (nodes ns) k.2.id (liftF lev)) else (131,nodes ns)):=Φ (by unfold liftP;rw [h2])
  have HU:=Φ (fun v (e:(.int .i64 (max k.2.level lev))=v)=>h.upd hk (mild_lift lev) (only_cell w k.1 12 v) (fun sv av up K=>by rw [← e];exact Bk.same (i:=12) (v:= .int .i64 (max k.2.level lev)) K))
  rw [h1] at HA
  clear h h1 h2 hk h3 K
  by_cases hc:k.2.kind=1∧1≤lev∧lev≤3
  ·rw [HRR.out,if_pos hc]
   obtain⟨hc1,hc2,hc3⟩:=hc
   rw [hc1] at c1
   clear HRR hc1
   unfold fV at HA
   unfold kpt at *
   go_enter Tryz.func46,Tryz.ntmps46
   go_wp2_with fail
   refine HA.out.mono ?_
   rintro e w1 ⟨rfl,rfl⟩
   go_wp2_with fail
   go_ret
   obtain⟨g1,g2⟩:=HU.out _ rfl
   exact⟨rfl,_,updN_nodes _ _ _,g1,g2⟩
  ·rw [HRR.out,if_neg hc]
   clear HRR HU
   have HX:=Φ hc
   clear hc
   generalize k.2.kind=kd at *
   unfold fV at HA
   unfold kpt at *
   by_cases q1:kd=1
   ·by_cases q2:1≤lev
    ·have q3:¬lev≤3:=fun q3=>HX.out ⟨q1,q2,q3⟩
     subst q1
     go_enter Tryz.func46,Tryz.ntmps46
     go_wp2_with fail
     refine HA.out.mono ?_
     rintro e w1 ⟨rfl,rfl⟩
     go_wp2_with fail
     go_ret
     exact⟨rfl,ns,rfl,H.out,Chf.of_below H.out (Below.refl _ _)⟩
    ·subst q1
     go_enter Tryz.func46,Tryz.ntmps46
     go_wp2_with fail
     refine HA.out.mono ?_
     rintro e w1 ⟨rfl,rfl⟩
     go_wp2_with fail
     go_ret
     exact⟨rfl,ns,rfl,H.out,Chf.of_below H.out (Below.refl _ _)⟩
   ·have q0:(kd != 1)=true:=by simpa using q1
    go_enter Tryz.func46,Tryz.ntmps46
    go_wp2_with fail
    refine HA.out.mono ?_
    rintro e w1 ⟨rfl,rfl⟩
    go_wp2_with fail
    go_ret
    exact⟨rfl,ns,rfl,H.out,Chf.of_below H.out (Below.refl _ _)⟩
def noteP (l:List Nd)(id:Int)(s:Bs): Int×List Nd:=match findI l id with
 |none=>(131,l)
 |some n=>if s.length≤256 then (0,setN l n.id (noteF s)) else (131,l)
theorem note_call {w:World}{f:Nat}{ns:Ns}{nx:Int}(h:FR w f ns nx)(hl:ns.length≤1000000)(id:Int)(s:Bs): Calls Tryz.prog 48 #[kpt f,.int .i64 id,.string ⟨s.toArray⟩] w fun e w'=>Ends w f ns nx (.int .i64 (noteP (nodes ns) id s).1) (noteP (nodes ns) id s).2 nx e w':=by
 have HA:=Φ (at_any h hl id)
 have H:=Φ h
 rcases find_cases ns id with ⟨h1,h2⟩ | ⟨k,hk,h1,h2,h3⟩
 ·have HR:Hid (noteP (nodes ns) id s=(131,nodes ns)):=Φ (by unfold noteP;rw [h2])
  rw [HR.out]
  rw [h1] at HA
  clear h h1 h2 HR
  unfold kpt at *
  unfold fV at HA
  go_enter Tryz.func48,Tryz.ntmps48
  go_wp2_with fail
  refine HA.out.mono ?_
  rintro e w1 ⟨rfl,rfl⟩
  go_wp2_with fail
  go_ret
  exact⟨rfl,ns,rfl,H.out,Chf.of_below H.out (Below.refl _ _)⟩
 ·have HRR:Hid (noteP (nodes ns) id s=if s.length≤256 then (0,setN (nodes ns) k.2.id (noteF s)) else (131,nodes ns)):=Φ (by unfold noteP;rw [h2])
  have HK:=Φ hk
  rw [h1] at HA
  clear h h1 h2 hk h3
  unfold fV at HA
  unfold kpt at *
  by_cases hc:s.length≤256
  ·rw [HRR.out,if_pos hc]
   have hcI:(s.length:Int)≤256:=by omega
   have HC:=Φ (fun w=>sclone_any s w (by omega))
   clear HRR
   go_enter Tryz.func48,Tryz.ntmps48
   go_wp2_with fail
   refine HA.out.mono ?_
   rintro e w1 ⟨rfl,rfl⟩
   go_wp2_with fail
   refine(HC.out _).mono ?_
   rintro e w2 ⟨rfl,hb⟩
   have HB:=Φ hb
   have H2:=Φ (H.out.below hb)
   obtain⟨sv2,av2,K2,_⟩:=H2.out.node k HK.out
   have c2:w2.cell? ⟨k.1,14,none⟩=some (txt k.2.data):=K2.cell 14
   have f2:=K2.fro 14
   clear hb K2
   unfold txt at c2
   go_wp2_with fail
   go_ret
   obtain⟨g1,g2⟩:=H2.out.upd HK.out (mild_note s) (only_cell w2 k.1 14 (txt s)) (fun sv av up K=>Bk.same (i:=14) (v:=txt s) K)
   exact⟨rfl,_,updN_nodes _ _ _,g1,(Chf.of_below H.out HB.out).trans g2⟩
  ·rw [HRR.out,if_neg hc]
   have hcI:¬(s.length:Int)≤256:=by omega
   clear HRR
   go_enter Tryz.func48,Tryz.ntmps48
   go_wp2_with fail
   refine HA.out.mono ?_
   rintro e w1 ⟨rfl,rfl⟩
   go_wp2_with fail
   go_ret
   exact⟨rfl,ns,rfl,H.out,Chf.of_below H.out (Below.refl _ _)⟩
end Go.Proofs.YthogppennalobaaGreatDoor
