/- A node by its number (at). Condition: at most a million nodes. Is none of a path dead (isWhole)? No condition. Is a node live (isLive)? No condition. kill; a node by its secret. Condition: at most a million nodes. Rows of texts: laid, read, copied (copiedList). Condition: at most a million texts of 2^48 bytes. The drawn region of copied. No condition. -/
import Derived.Test.YthogppennalobaaGreatDoorZd02
import Derived.Deep.LoopGhost
import Derived.LoopN
import Derived.Deep.QuietTactic
import Derived.Lib.AppendZeros
import Derived.Test.YthogppennalobaaGreatDoorZd01
set_option linter.unusedVariables false
set_option linter.unusedSimpArgs false
set_option maxRecDepth 100000
namespace Go.Proofs.YthogppennalobaaGreatDoor
open Go.RowKit Go.Sort Forest
theorem FR.id0 {w:World}{f:Nat}{ns:Ns}{nx:Int}(h:FR w f ns nx): ∀k∈ns,w.cell? ⟨k.1,0,none⟩=some (.int .i64 (k.2.id:Int)):=fun k hk=>by
 obtain⟨sv,av,h1,_⟩:=h.node k hk
 exact h1.cell 0
theorem blockI_of {ns:Ns}{id:Int}{i:Nat}(h:Sch ns id i)(hi:i<ns.length)(e:idAt ns i=id): blockI ns id=some ns[i].1:=by
 have h1:ns.find? (fun k=>(k.2.id:Int) == id)=some ns[i]:=by
  rw [List.find?_eq_some_iff_getElem]
  refine⟨by rw [← idAt_lt hi,e];simp,i,hi,rfl,fun j hj=>?_⟩
  have:=h.2.1 j hj
  rw [idAt_lt (by omega)] at this
  simp
  omega
 unfold blockI
 rw [h1];rfl
theorem blockI_none {ns:Ns}{id:Int}(h:∀i,i<ns.length→idAt ns i≠id): blockI ns id=none:=by
 unfold blockI
 rw [List.find?_eq_none.2];· rfl
 intro k hk
 obtain⟨i,hi,rfl⟩:=List.getElem_of_mem hk
 have:=h i hi
 rw [idAt_lt hi] at this
 simpa using this
theorem at_any {w:World}{f:Nat}{ns:Ns}{nx:Int}(h:FR w f ns nx)(hl:ns.length≤1000000)(id:Int): Calls Tryz.prog 62 #[kpt f,.int .i64 id] w fun e w'=>e = .returned (fV (blockI ns id))∧w'=w:=by
 obtain⟨a,c,h0,_,hc⟩:=h.cells
 have HS:=Lib.hid (search_at c h.ok hl hc h.id0 id)
 have HC:=Lib.hid hc
 have HO:=Lib.hid h.ok
 clear hc h
 unfold kpt
 go_enter Tryz.func62,Tryz.ntmps62
 go_wp2_with fail
 refine HS.out.mono ?_
 rintro e w1 ⟨rfl,i,hs,rfl⟩
 clear HS
 by_cases hi:i<ns.length
 ·by_cases he:idAt ns i=id
  ·obtain⟨g,rfl,hcell⟩:=HC.out i hi
   have HB:=Lib.hid (blockI_of hs hi he)
   have hiI:(i:Int)<(ns.length:Int):=by omega
   rw [decide_eq_true hi,decide_eq_true he]
   unfold kpt at hcell
   clear hs he
   go_wp2_with fail
   go_ret
   exact⟨by rw [HB.out];rfl,rfl⟩
  ·have HB:Hid (blockI ns id=none):=Lib.hid (blockI_none fun j hj e=>by
    rcases Nat.lt_trichotomy j i with h1 | rfl | h1
    ·have:=hs.2.1 j h1;omega
    ·exact he e
    ·have:=hs.2.2 i (Nat.le_refl _) hi
     have:=ids_rise HO.out hj h1
     omega)
   rw [decide_eq_false he,Bool.and_false]
   clear hs he
   go_wp2_with fail
   go_ret
   exact⟨by rw [HB.out];rfl,rfl⟩
 ·have HB:Hid (blockI ns id=none):=Lib.hid (blockI_none fun j hj e=>by
   have:=hs.2.1 j (by omega)
   omega)
  rw [decide_eq_false hi,Bool.false_and]
  clear hs
  go_wp2_with fail
  go_ret
  exact⟨by rw [HB.out];rfl,rfl⟩
end Go.Proofs.YthogppennalobaaGreatDoor
namespace Go.Proofs.YthogppennalobaaGreatDoor
open Go.RowKit Go.Sort Forest
theorem struck_none {l:List Nd}{id:Nat}(h:at' l id=none): struck l id=false:=by rw [struck,path_none h];rfl
theorem struck_up {l:List Nd}(h:Ok l){n:Nd}(hn:n∈l): struck l n.id=(n.dead||struck l n.parent):=by rw [struck,path_some h hn];rfl
theorem blockI_some {ns:Ns}{id:Nat}{g:Nat}(h:blockI ns (id:Int)=some g): ∃k∈ns,k.1=g∧k.2.id=id:=by
 unfold blockI at h
 cases e:ns.find? fun k=>(k.2.id:Int) == (id:Int) with
 |none=>rw [e] at h;cases h
 |some k=>
  rw [e] at h
  cases h
  have h1:=List.find?_some e
  simp at h1
  exact⟨k,List.mem_of_find?_eq_some e,rfl,by omega⟩
theorem blockI_at {ns:Ns}{id:Nat}(h:blockI ns (id:Int)=none): at' (nodes ns) id=none:=by
 unfold blockI at h
 rw [Option.map_eq_none_iff,List.find?_eq_none] at h
 refine List.find?_eq_none.2 fun n hn=>?_
 obtain⟨k,hk,rfl⟩:=List.mem_map.1 hn
 have:=h k hk
 simp at this ⊢
 omega
theorem mem_nodes {ns:Ns}{k:Nat×Nd}(h:k∈ns): k.2∈nodes ns:=List.mem_map.2 ⟨k,h,rfl⟩
theorem isWhole_any {w:World}{f:Nat}{ns:Ns}{nx:Int}(h:FR w f ns nx)(id:Nat)(x:Value): Calls Tryz.prog 65 #[fV (blockI ns (id:Int)),x] w fun e w'=>e = .returned (.bool (!struck (nodes ns) id))∧w'=w:=by
 have HF:=Lib.hid h
 clear h
 go_enter Tryz.func65,Tryz.ntmps65
 go_wp2_with fail
 go_loopg [0] (id+1) (fun gg pv wr=>∃m:Nat,m+1≤gg∧pv=fV (blockI ns (m:Int))∧wr=w∧Hid (struck (nodes ns) id=struck (nodes ns) m))
 case atStart=>exact⟨id,Nat.le_refl _,rfl,rfl,Lib.hid rfl⟩
 case round=>
  obtain⟨m,hm,rfl,rfl,HS⟩:=hrel
  cases hb:blockI ns (m:Int) with
  |none=>
   have HR:Hid (struck (nodes ns) id=false):=Lib.hid (by rw [HS.out,struck_none (blockI_at hb)])
   unfold fV
   clear hb HS
   go_wp2_with fail
   go_ret
   exact⟨by rw [HR.out];rfl,rfl⟩
  |some g=>
   obtain⟨k,hk,rfl,rfl⟩:=blockI_some hb
   obtain⟨sv,av,K⟩:=HF.out.node k hk
   have c9:=K.1.cell 9
   have c15:=K.1.cell 15
   unfold ndC at c9 c15
   simp only [List.getElem?_toArray,List.getElem?_cons_succ,List.getElem?_cons_zero] at c9 c15
   have HU:=Lib.hid (struck_up HF.out.ok (mem_nodes hk))
   have hp:=(HF.out.ok.mem (mem_nodes hk)).2
   unfold fV kpt
   clear hb K
   cases hd:k.2.dead with
   |true=>
    have HR:Hid (struck (nodes ns) id=true):=Lib.hid (by rw [HS.out,HU.out,hd];rfl)
    rw [hd] at c9
    clear hd HU HS
    go_wp2_with fail
    go_ret
    exact⟨by rw [HR.out];rfl,rfl⟩
   |false=>
    have HR:Hid (struck (nodes ns) id=struck (nodes ns) k.2.parent):=Lib.hid (by rw [HS.out,HU.out,hd];rfl)
    have HP:=Lib.hid hp
    rw [hd] at c9
    generalize hpv:fV (blockI ns (k.2.parent:Int))=pv at c15
    have HPV:=Lib.hid hpv
    clear hd HU HS hp hpv
    go_wp2_with fail
    go_roundg (k.2.parent+1)
    case rel=>exact⟨k.2.parent,Nat.le_refl _,HPV.out.symm,rfl,HR⟩
    case measure=>have:=HP.out;omega
end Go.Proofs.YthogppennalobaaGreatDoor
namespace Go.Proofs.YthogppennalobaaGreatDoor
open Go.RowKit Go.Sort Forest
theorem block_of {ns:Ns}(h:Ok (nodes ns)){k:Nat×Nd}(hk:k∈ns): blockI ns (k.2.id:Int)=some k.1:=by
 unfold blockI
 cases e:ns.find? fun q=>(q.2.id:Int) == (k.2.id:Int) with
 |none=>have:=List.find?_eq_none.1 e k hk;simp at this
 |some q=>
  have h1:=List.find?_some e
  have hq:=List.mem_of_find?_eq_some e
  simp at h1
  have h2:q.2.id=k.2.id:=by omega
  obtain⟨i,hi,rfl⟩:=List.getElem_of_mem hq
  obtain⟨j,hj,rfl⟩:=List.getElem_of_mem hk
  rcases Nat.lt_trichotomy i j with h3 | rfl | h3
  ·have:=ids_rise h hj h3
   rw [idAt_lt hi,idAt_lt hj] at this
   omega
  ·rfl
  ·have:=ids_rise h hi h3
   rw [idAt_lt hi,idAt_lt hj] at this
   omega
set_option maxHeartbeats 1000000 in
theorem isLive_any {w:World}{f:Nat}{ns:Ns}{nx:Int}(h:FR w f ns nx){k:Nat×Nd}(hk:k∈ns)(now:Int): Calls Tryz.prog 66 #[kpt k.1,.int .i64 now] w fun e w'=>e = .returned (.bool (liveN (nodes ns) now k.2))∧Below w.heap.size w w':=by
 have HW:=Lib.hid (fun W (hb:Below w.heap.size w W)=>isWhole_any (h.below hb) k.2.id (.int .i64 now))
 obtain⟨sv,av,K,_⟩:=h.node k hk
 have HB:=Lib.hid (block_of h.ok hk)
 have HK:=Lib.hid K
 have HL:Hid (liveN (nodes ns) now k.2=(!k.2.spent&&decide (now<k.2.exp)&&!struck (nodes ns) k.2.id)):=Lib.hid rfl
 rw [HB.out] at HW
 have c8:∀o,(w.alloc o).cell? ⟨k.1,8,none⟩=some (.int .i64 k.2.exp):=fun o=>K.alloc.cell 8
 have c10:∀o,(w.alloc o).cell? ⟨k.1,10,none⟩=some (.bool k.2.spent):=fun o=>K.alloc.cell 10
 generalize struck (nodes ns) k.2.id=s at *
 generalize liveN (nodes ns) now k.2=lv at *
 generalize k.2.spent=sp at *
 generalize k.2.exp=ex at *
 clear K HK HB h hk
 generalize k.1=g at *
 unfold kpt
 unfold fV kpt at HW
 go_enter Tryz.func66,Tryz.ntmps66
 go_wp2_with fail
 refine wp_loop_rounds 4 ?_
 rw [rounds_succ]
 cases sp with
 |true=>
  go_wp2_with go_in
  go_ret
  exact⟨by rw [HL.out];rfl,by go_grown⟩
 |false=>
  go_wp2_with go_in
  rw [rounds_succ]
  by_cases hx:now<ex
  ·go_wp2_with go_in
   rw [rounds_succ]
   go_wp2_with fail
   refine(HW.out _ (by go_grown)).mono ?_
   rintro e w' ⟨rfl,rfl⟩
   rw [decide_eq_true hx] at HL
   cases s with
   |true=>
    clear hx
    go_wp2_with fail
    go_ret
    exact⟨by rw [HL.out];rfl,by go_grown⟩
   |false=>
    clear hx
    go_wp2_with fail
    rw [rounds_succ]
    go_wp2_with fail
    go_ret
    exact⟨by rw [HL.out];rfl,by go_grown⟩
  ·rw [decide_eq_false hx] at HL
   go_wp2_with go_in
   go_ret
   exact⟨by rw [HL.out];rfl,by go_grown⟩
end Go.Proofs.YthogppennalobaaGreatDoor
namespace Go.Proofs.YthogppennalobaaGreatDoor
open Go.RowKit Go.Sort Forest
theorem kill_any {w:World}{g:Nat}{n:Nd}{sv av up:Value}(K:Bk 75 w g (ndC n sv av up)): Calls Tryz.prog 67 #[kpt g] w fun e w'=>e = .returned (.bool (!n.dead))∧w'=w.setCell ⟨g,9,none⟩ (.bool true):=by
 have c9:w.cell? ⟨g,9,none⟩=some (.bool n.dead):=K.cell 9
 have f9:=K.fro 9
 clear K
 generalize n.dead=d at *
 unfold kpt
 go_enter Tryz.func67,Tryz.ntmps67
 go_wp2
 go_ret
 exact⟨rfl,rfl⟩
theorem sec_any {w:World}{g q:Nat}{t s:Bs}(h:w.cell? ⟨g,13,none⟩=some (txt t))(h2:w.cell? ⟨q,0,none⟩=some (txt s)): Calls Tryz.prog 108 #[kpt g,.pointer (some ⟨q,0,none⟩)] w fun e w'=>e = .returned (.bool (t == s))∧Below w.heap.size w w':=by
 unfold kpt
 unfold txt at h h2
 obtain⟨b,hb⟩:∃b,b=(t == s):=⟨_,rfl⟩
 have hb2:(t == s)=b:=hb.symm
 rw [← hb]
 clear hb
 go_enter Tryz.func108,Tryz.ntmps108
 go_wp2_with fail
 go_quiet (fail)
 go_wp2_with fail
 go_returns
 exact⟨rfl,rfl,rfl,rfl,Nat.le_refl _,fun _ _=>rfl⟩
theorem cell_below {w w':World}{a:Addr}{v:Value}(hb:Below w.heap.size w w')(h:w.cell? a=some v): w'.cell? a=some v:=by
 have hlt:a.block<w.heap.size:=by
  unfold World.cell? at h
  split at h
  ·rename_i e;exact blk_lt e
  ·cases h
 rw [hb.cell hlt];exact h
def secP (ns:Ns)(s:Bs): Option Nat:=ns.findIdx? fun k=>k.2.secret == s
def posV:Option Nat→Int
 |none=> -1
 |some i=>(i:Int)
theorem index_sec {w:World}{ns:Ns}{a:Option Addr}(c:Nat)(hl:ns.length≤1000000)(hc:∀i (hi:i<ns.length),∃g,a=some ⟨g,0,none⟩∧w.cell? ⟨g,i,none⟩=some (kpt ns[i].1))
  (hn:∀k∈ns,w.cell? ⟨k.1,13,none⟩=some (txt k.2.secret)) (q:Nat) (s:Bs) (hq:w.cell? ⟨q,0,none⟩=some (txt s)) :
  Calls Tryz.prog 107 #[.slice a ns.length c,.func (.func 108) #[] #[.pointer (some ⟨q,0,none⟩)]] w fun e w'=>e = .returned (.int .i64 (posV (secP ns s)))∧Below w.heap.size w w':=by
 have HC:=Lib.hid hc
 have HN:=Lib.hid hn
 have HQ:=Lib.hid hq
 clear hc hn hq
 go_enter Tryz.func107,Tryz.ntmps107
 go_wp2_with fail
 go_loopw [8] (fun iv wr=>∃i:Nat,iv = .int .i64 (i:Int)∧i≤ns.length∧Hid (Below w.heap.size w wr)∧Hid (∀j (h:j<i) (h2:j<ns.length),(ns[j].2.secret == s)=false)) (fun iv _=>ns.length - (intOf iv).toNat)
 case atStart=>exact⟨0,rfl,Nat.zero_le _,Lib.hid (Below.refl _ _),Lib.hid fun j h=>by omega⟩
 case round=>
  obtain⟨i,rfl,hi,HB,HI⟩:=hrel
  by_cases hlt:i<ns.length
  ·obtain⟨g,rfl,hcell⟩:=HC.out i hlt
   obtain⟨k,hk⟩:∃k,ns[i]=k:=⟨_,rfl⟩
   have hkm:k∈ns:=hk▸List.getElem_mem hlt
   have hcell2:wr.cell? ⟨g,i,none⟩=some (.pointer (some ⟨k.1,0,none⟩)):=cell_below HB.out (by rw [hcell,hk];rfl)
   have hs:Hid (Calls Tryz.prog 108 #[.pointer (some ⟨k.1,0,none⟩),.pointer (some ⟨q,0,none⟩)] wr fun e w'=>e = .returned (.bool (k.2.secret == s))∧Below wr.heap.size wr w'):=Lib.hid (sec_any (cell_below HB.out (HN.out k hkm)) (cell_below HB.out HQ.out))
   have hltI:(i:Int)<(ns.length:Int):=by omega
   have HK:=Lib.hid hk
   clear hcell hk hkm
   cases hb:(k.2.secret == s) with
   |true=>
    rw [hb] at hs
    have HR:Hid (secP ns s=some i):=Lib.hid (by
     unfold secP
     rw [List.findIdx?_eq_some_iff_getElem]
     exact⟨hlt,by rw [HK.out];exact hb,fun j hj=>by rw [HI.out j hj (by omega)];simp⟩)
    clear hb
    generalize k.1=kb at *
    go_wp2_with (go_at_call 108;refine hs.out.mono ?_;rintro e w' ⟨rfl,hb⟩)
    go_ret
    exact⟨by rw [HR.out];rfl,HB.out.trans (hb.mono HB.out.size)⟩
   |false=>
    rw [hb] at hs
    have HX:=Lib.hid hb
    clear hb
    generalize hkb:k.1=kb at *
    have HKB:=Lib.hid hkb
    clear hkb
    go_wp2_with (go_at_call 108;refine hs.out.mono ?_;rintro e w' ⟨rfl,hb⟩;have HB2:=Lib.hid (HB.out.trans (hb.mono HB.out.size));clear hb)
    go_roundw
    case rel=>
     refine⟨i+1,by go_num,by omega,HB2,Lib.hid fun j h h2=>?_⟩
     rcases Nat.lt_succ_iff_lt_or_eq.1 h with h3 | rfl
     ·exact HI.out j h3 h2
     ·rw [HK.out];exact HX.out
    case measure=>simp [intOf];omega
  ·have hltI:¬(i:Int)<(ns.length:Int):=by omega
   have HR:Hid (secP ns s=none):=Lib.hid (by
    unfold secP
    rw [List.findIdx?_eq_none_iff]
    intro x hx
    obtain⟨j,hj,rfl⟩:=List.getElem_of_mem hx
    exact HI.out j (by omega) hj)
   go_wp2_with fail
   go_ret
   exact⟨by rw [HR.out];rfl,HB.out⟩
end Go.Proofs.YthogppennalobaaGreatDoor
namespace Go.Proofs.YthogppennalobaaGreatDoor
open Go.RowKit Go.Sort Forest OwnR TxO
theorem txts_one (l:List Bs): ∀u∈l.map txt,u.oneCell'=true:=by
 intro u hu
 simp only [List.mem_map] at hu
 obtain⟨s,_,rfl⟩:=hu
 rfl
theorem info_parts {P:Program}{t:TypeId}{z:Value}{n b:Nat}(h:(P.info? t).map (fun i=>(i.zero,i.size,i.bytes))=some (some z,n,b)): ∃i,P.info? t=some i∧i.zero=some z∧i.size=n∧i.bytes=b:=by
 cases hi:P.info? t with
 |none=>rw [hi] at h;cases h
 |some i=>rw [hi] at h;simp at h;exact⟨i,rfl,h.1,h.2.1,h.2.2⟩
theorem info9:(Tryz.prog.info? 9).map (fun i=>(i.zero,i.size,i.bytes))=some (some (.string ⟨#[]⟩),1,16):=by kernel_rfl
theorem u29:Tryz.prog.underlying 29=some (.slice 9):=by kernel_rfl
def Sr (w0 w:World)(v:Value)(l:List Bs): Prop:=w.ownsRow 0 9 1 v l.length (l.map txt)∧Below w0.heap.size w0 w∧∀k,v.ownBlock=some k→w0.heap.size≤k
theorem Sr.down {w0 w w':World}{v:Value}{l:List Bs}(h:Sr w0 w v l)(hb:Below w.heap.size w w'): Sr w0 w' v l:=
 ⟨owns_below h.1 hb,h.2.1.trans (hb.mono h.2.1.size),h.2.2⟩
theorem Sr.nil (w:World): Sr w w (.slice none 0 0) []:=⟨⟨rfl,.inl ⟨rfl,rfl⟩⟩,Below.refl _ _,fun k hk=>by cases hk⟩
theorem Sr.empty {w0 w:World}(hb:Below w0.heap.size w0 w): Sr w0 (w.alloc (.cells #[] 9)) (.slice (some ⟨w.heap.size,0,none⟩) 0 0) []:=
 ⟨⟨rfl,.inr ⟨w.heap.size,0,#[],rfl,Nat.zero_le _,heap_alloc_new w _,Nat.le_refl _,Nat.zero_le _,rfl,rfl⟩⟩,hb.alloc hb.size _,fun k hk=>by cases hk;exact hb.size⟩
theorem Sr.shape {w0 w:World}{v:Value}{l:List Bs}(h:Sr w0 w v l): ∃a c,v = .slice a l.length c:=owns_shape h.1
theorem Sr.cell {w0 w:World}{a:Option Addr}{m c:Nat}{l:List Bs}(h:Sr w0 w (.slice a m c) l){i:Nat}(hi:i<l.length): ∃g,a=some ⟨g,0,none⟩∧w.cell? ⟨g,i,none⟩=some (txt l[i]):=
 owns_cell h.1 (by rw [List.getElem?_map,List.getElem?_eq_getElem hi];rfl)
theorem Sr.app {w0 W:World}{v:Value}{l:List Bs}(ty:TypeId)(h:Sr w0 W v l)(a:Addr)(c:Nat)(k:List Bs)(hk:∀j (hj:j<k.length),W.cell? (a.add j)=some (txt k[j]))(hl:l.length+k.length≤4194304):
  ∃v' w',(Builtin.append_ #[29,29] ty #[v,.slice (some a) k.length c]).run Tryz.prog W = .ok v' w'∧Sr w0 w' v' (l++k):=by
 obtain⟨i0,hi,hz0,hz1,hz2⟩:=info_parts info9
 obtain⟨v',w',hrun,ho,hgr,hv,_⟩:=app_own W 29 ty 9 i0 (.string ⟨#[]⟩) 1 16 u29 hi hz0 hz1 hz2 rfl (by decide) v l.length (l.map txt) h.1 a k.length c (k.map txt) (by simp) (by
  intro j u hu
  rw [List.getElem?_map] at hu
  cases e:k[j]? with
  |none=>rw [e] at hu;cases hu
  |some x=>
   rw [e] at hu
   cases hu
   obtain⟨hj,rfl⟩:=List.getElem?_eq_some_iff.1 e
   exact hk j hj) (txts_one _) (by unfold maxLen;omega) (by omega)
 refine⟨v',w',hrun,⟨by rw [List.length_append,List.map_append];exact ho,h.2.1.grown hgr h.2.1.size h.2.2,fun q hq=>?_⟩⟩
 rcases hv with e | e
 ·exact h.2.2 q (e▸hq)
 ·exact Nat.le_trans h.2.1.size (e q hq)
theorem wp_rec {ops:Array Oper}{rest:List Oper}{o:Oper}{a:Act}{Q:Exit→Act→World→Prop}{w0 W:World}(hgd:o.guard=none)(s x:Operand)(ho:o.op = .call {callee:= .builtin .append,args:=#[s,x],argTypes:=#[29,29]})
  (v:Value) (l:List Bs) (q c:Nat) (b:Bs) (hs:a.eval s=v) (hx:a.eval x = .slice (some ⟨q,0,none⟩) 1 c) (hI:Sr w0 W v l) (hq:Bk 9 W q #[.string ⟨b.toArray⟩]) (hl:l.length+1≤4194304)
  (h:∀v' w',Sr w0 w' v' (l++[b])→wpList Tryz.prog ops Q rest (a.put o.dst v') w'):wpList Tryz.prog ops Q (o::rest) a W:=by
 obtain⟨v',w',hrun,hu⟩:=hI.app o.type ⟨q,0,none⟩ c [b] (fun j hj=>by
  have:j=0:=by simpa using hj
  subst this
  exact hq.cell 0) (by simpa using hl)
 exact Lib.wpList_append_run W hgd s x 29 29 ho _ _ hs hx v' w' hrun (h v' w' hu)
theorem sclone_any (l:Bs)(w:World)(h:l.length≤281474976710656): Calls Tryz.prog 79 #[.string ⟨l.toArray⟩] w fun e w'=>e = .returned (.string ⟨l.toArray⟩)∧Below w.heap.size w w':=by
 go_enter Tryz.func79,Tryz.ntmps79
 go_wp2_with (fail)
 refine(Tryz.stringslite_Clone ⟨l.toArray⟩ w (by show l.toArray.size≤_;simpa using h)).mono ?_
 rintro e w1 ⟨rfl,b1⟩
 go_wp2
 go_ret
 exact⟨rfl,b1⟩
def Rd (w:World)(v:Value)(l:List Bs): Prop:=∃a c,v = .slice a l.length c∧∀i (h:i<l.length),∃b o,a=some ⟨b,o,none⟩∧w.cell? ⟨b,o+i,none⟩=some (txt l[i])
theorem Rd.below {w w':World}{v:Value}{l:List Bs}(h:Rd w v l)(hb:Below w.heap.size w w'): Rd w' v l:=by
 obtain⟨a,c,rfl,hc⟩:=h
 exact⟨a,c,rfl,fun i hi=>by obtain⟨b,o,h1,h2⟩:=hc i hi;exact⟨b,o,h1,cell_below hb h2⟩⟩
theorem cell_only {w w':World}{L:List Nat}{a:Addr}{v:Value}(ho:Only L w w')(h:w.cell? a=some v)(hL:a.block∉L): w'.cell? a=some v:=by
 have hlt:a.block<w.heap.size:=by
  unfold World.cell? at h
  split at h
  ·rename_i e;exact blk_lt e
  ·cases h
 rw [World.cell?_of_block (w:=w) (ho.block _ hlt hL)]
 exact h
theorem Rd.only {w w':World}{L:List Nat}{v:Value}{l:List Bs}(h:Rd w v l)(ho:Only L w w')(hL:∀g,v.ownBlock=some g→g∉L): Rd w' v l:=by
 obtain⟨a,c,rfl,hc⟩:=h
 exact⟨a,c,rfl,fun i hi=>by
  obtain⟨b,o,rfl,h2⟩:=hc i hi
  exact⟨b,o,rfl,cell_only ho h2 (hL b rfl)⟩⟩
theorem Rd.onlyE {w w':World}{L:List Nat}{v:Value}{l:List Bs}(h:Rd w v l)(ho:Only L w w')(hL:l≠[]→∀g,v.ownBlock=some g→g∉L): Rd w' v l:=by
 by_cases e:l=[]
 ·obtain⟨a,c,rfl,_⟩:=h
  exact⟨a,c,rfl,fun i hi=>by rw [e] at hi;cases hi⟩
 ·exact h.only ho (hL e)
theorem Tx.rd {w:World}{v:Value}{l:List Bs}(h:Tx w v l): Rd w v l:=by
 obtain⟨a,c,e,h1,_⟩:=h
 exact⟨a,c,e,h1⟩
theorem Tx.only {w w':World}{L:List Nat}{v:Value}{l:List Bs}(h:Tx w v l)(ho:Only L w w')(hL:∀g,v.ownBlock=some g→g∉L): Tx w' v l:=TxO.owns_only h ho hL
set_option maxHeartbeats 4000000 in
theorem copiedList_any (l:List Bs)(hl:l.length≤1000000)(hs:∀s∈l,s.length≤281474976710656)(w:World)(v:Value)(hc:Rd w v l): Calls Tryz.prog 81 #[v] w fun e w'=>∃v,e = .returned v∧Sr w w' v l:=by
 have HS:=Lib.hid hs
 obtain⟨a,c,rfl,hc⟩:=hc
 have HC:=Lib.hid hc
 clear hc hs
 go_enter Tryz.func81,Tryz.ntmps81
 go_wp2_with fail
 go_loopw [3,8] (fun sv iv wr=>∃i:Nat,i≤l.length∧iv = .int .i64 (i:Int)∧Hid (Sr w wr sv (l.take i))) (fun _ iv _=>l.length - (intOf iv).toNat)
 case atStart=>exact⟨0,Nat.zero_le _,rfl,Lib.hid (Sr.nil w)⟩
 case round=>
  obtain⟨i,hi,rfl,HI⟩:=hrel
  by_cases hlt:i<l.length
  ·obtain⟨s,hse⟩:∃s,l[i]'hlt=s:=⟨_,rfl⟩
   obtain⟨b,o,rfl,c0⟩:=HC.out i hlt
   have c1:wr.cell? ⟨b,o+i,none⟩=some (.string ⟨s.toArray⟩):=cell_below HI.out.2.1 (by rw [c0,hse];rfl)
   have HK:=Lib.hid (fun w=>sclone_any s w (HS.out s (hse▸List.getElem_mem hlt)))
   have hltI:(i:Int)<(l.length:Int):=by omega
   have HT:Hid (l.take (i+1)=l.take i++[s]):=Lib.hid (by rw [List.take_add_one,List.getElem?_eq_getElem hlt,hse];rfl)
   clear c0 hse
   go_wp2_with fail
   refine(HK.out _).mono ?_
   rintro e w2 ⟨rfl,hb2⟩
   have HS2:=Lib.hid (HI.out.down hb2)
   clear c1 hb2
   go_wp2_with (at_builtin;refine wp_rec rfl _ _ rfl _ (l.take i) w2.heap.size 1 s rfl rfl (HS2.out.down (by go_grown)) (Bk.new rfl) (by rw [List.length_take];omega) ?_;intro v' w3 hs3;replace HS2:=Lib.hid hs3;clear hs3)
   go_roundw
   case rel=>exact⟨i+1,by omega,by go_num,Lib.hid (by rw [HT.out];exact HS2.out)⟩
   case measure=>simp [intOf];omega
  ·have hie:i=l.length:=by omega
   have hltI:¬(i:Int)<(l.length:Int):=by omega
   go_wp2_with fail
   go_returns
   refine⟨_,rfl,?_⟩
   have:=HI.out
   rw [hie,List.take_length] at this
   exact this
end Go.Proofs.YthogppennalobaaGreatDoor
namespace Go.Proofs.YthogppennalobaaGreatDoor.Pl
open Go.RowKit Go.Sort
theorem k_fa31_11 {Q:Exit→Act→World→Prop}{T:Array Value}{ds:List Deferred}{w:World}{ty:TypeId}{dst:Option Tmp}{s:Nat}{ps af g}{b:Nat}(e:T.getD s undef = .pointer (some ⟨b,0,none⟩)): Oper.wp Tryz.prog ⟨dst,.fieldAddr 31 (.tmp s) 11,ty,ps,af,g⟩ ⟨T,ds⟩ w (fun a' w''=>a'=Act.put ⟨T,ds⟩ dst (.pointer (some ⟨b,11,none⟩))∧w''=w) Q:=by
 go_simp
theorem k_fa31_6 {Q:Exit→Act→World→Prop}{T:Array Value}{ds:List Deferred}{w:World}{ty:TypeId}{dst:Option Tmp}{s:Nat}{ps af g}{b:Nat}(e:T.getD s undef = .pointer (some ⟨b,0,none⟩)): Oper.wp Tryz.prog ⟨dst,.fieldAddr 31 (.tmp s) 6,ty,ps,af,g⟩ ⟨T,ds⟩ w (fun a' w''=>a'=Act.put ⟨T,ds⟩ dst (.pointer (some ⟨b,6,none⟩))∧w''=w) Q:=by
 go_simp
noncomputable def cpRO:Array Oper:=(Tryz.f51.body.bind fun c=>findR c 6).getD #[]
def cpR_m:List (List Nat):=[[],[],[1],[],[],[1,2,4],[1,2,4,5],[1,2,4,5],[1,2,4,5,7],[1,2,4,5,7]]
set_option maxHeartbeats 16000000 in
theorem cpR (PW:Bool→Bool→Bool→Bool→Bool→Bool→Value→Value→World→Prop)(g:Nat)(sv av:Value)(w:World)  (cl1:∀(b4:Bool) (y2 y5:Value) (w:World),PW false false b4 false false false y2 y5 w→w.cell? ⟨g,6,none⟩=some sv∧PW true false b4 false false false y2 y5 w)(cl2:∀(b4:Bool) (y2 y5:Value) (w:World),PW true false b4 false false false y2 y5 w→Calls Tryz.prog 81 #[sv] w fun e w1=>∃v,e = .returned v∧PW true true b4 false false false v y5 w1)(cl4:∀(b1 b2:Bool) (y2 y5:Value) (w:World),PW b1 b2 false false false false y2 y5 w→w.cell? ⟨g,11,none⟩=some av∧PW b1 b2 true false false false y2 y5 w)(cl5:∀(y2 y5:Value) (w:World),PW true true true false false false y2 y5 w→Calls Tryz.prog 81 #[av] w fun e w1=>∃v,e = .returned v∧PW true true true true false false y2 v w1)(cl7:∀(y2 y5:Value) (w:World),PW true true true true false false y2 y5 w→∃sa sn sc,y2 = .slice sa sn sc∧(∃cv,w.cell? ⟨g,6,none⟩=some cv)∧w.frozen? ⟨g,6,none⟩=false∧PW true true true true true false y2 y5 (w.setCell ⟨g,6,none⟩ (.slice sa sn sc)))(cl9:∀(y2 y5:Value) (w:World),PW true true true true true false y2 y5 w→∃sa sn sc,y5 = .slice sa sn sc∧(∃cv,w.cell? ⟨g,11,none⟩=some cv)∧w.frozen? ⟨g,11,none⟩=false∧PW true true true true true true y2 y5 (w.setCell ⟨g,11,none⟩ (.slice sa sn sc))){t0 t2 t3 t4 t5 t6 t7 t8 t9 t10 t11 t12 t13 t14 t15 t16 t17 t18 t19 t20 t21 t22 t23 t24 t25 t26 t27 t28 t29 t30 t31:Value}(w0:PW false false false false false false t25 t28 w.drew){ds:List Deferred}{Q:Exit→Act→World→Prop}
  (h:∀(y2 y5:Value) (w1:World),PW true true true true true true y2 y5 w1→Q .normal {tmps:=#[t0,.pointer (some ⟨g,0,none⟩),t2,t3,t4,t5,t6,t7,t8,t9,t10,t11,t12,t13,t14,t15,t16,t17,t18,t19,t20,t21,t22,.pointer (some ⟨g,6,none⟩),sv,y2,.pointer (some ⟨g,11,none⟩),av,y5,.pointer (some ⟨g,6,none⟩),.pointer (some ⟨g,11,none⟩),t31],defers:=ds} w1) :
  (Code.region 6 cpRO true).wp Tryz.prog Q {tmps:=#[t0,.pointer (some ⟨g,0,none⟩),t2,t3,t4,t5,t6,t7,t8,t9,t10,t11,t12,t13,t14,t15,t16,t17,t18,t19,t20,t21,t22,t23,t24,t25,t26,t27,t28,t29,t30,t31],defers:=ds} w:=by
 have hsz:cpRO.size=10:=by kernel_rfl
 generalize hT:List.toArray _=T0
 have hs:T0.size=32:=by subst hT;rfl
 have g1:T0.getD 1 undef = .pointer (some ⟨g,0,none⟩):=by subst hT;rfl
 obtain⟨W,hV⟩:∃W:List ((Nat×(Value→Value)) ⊕ Value),W=[.inr (.pointer (some ⟨g,6,none⟩)),.inr (sv),.inl (2,id),.inr (.pointer (some ⟨g,11,none⟩)),.inr (av),.inl (5,id),.inr (.pointer (some ⟨g,6,none⟩)),.inr undef,.inr (.pointer (some ⟨g,11,none⟩)),.inr undef]:=⟨_,rfl⟩
 refine wp_plan (by kernel_rfl) T0 ds [1,2,4,5,7,9] cpR_m (mkV W) (fun dx yx wx=>PW (dx 1) (dx 2) (dx 4) (dx 5) (dx 7) (dx 9) (yx 2) (yx 5) wx) w (by rw [hs];kernel_rfl) (by kernel_rfl) (by kernel_rfl) (by rw [hsz];decide) (fun cx hc ix hne ha yx vx=>mkV_fix (by rw [hV];kernel_rfl) hne ha yx vx) (?key) (fun cx hc ox ho dx yx Tx wx hd hdb hda hK hW=>?_) ⟨fun k=>if k=2 then t25 else if k=5 then t28 else undef,w0⟩ (fun dx yx wx hd hW=>?_)
 case key=>
  rw [hsz]
  refine all_step (all_step (all_step (all_step (all_step (all_step (all_step (all_step (all_step (all_step all_zero ?_) ?_) ?_) ?_) ?_) ?_) ?_) ?_) ?_) ?_
  all_goals
   intro ox ho hic dx yx Tx wx hdb hK hW
   replace hdb:=Lib.hid hdb
  ·exact pl0 23 1 0 ho hK (by kernel_rfl) (by kernel_rfl) g1 (by subst hV;rfl) fun ps af e=>k_fa31_6 e
  ·exact absurd (by decide) hic
  ·exact absurd (by decide) hic
  ·exact pl0 26 1 0 ho hK (by kernel_rfl) (by kernel_rfl) g1 (by subst hV;rfl) fun ps af e=>k_fa31_11 e
  ·exact absurd (by decide) hic
  ·exact absurd (by decide) hic
  ·exact pl0 29 1 0 ho hK (by kernel_rfl) (by kernel_rfl) g1 (by subst hV;rfl) fun ps af e=>k_fa31_6 e
  ·exact absurd (by decide) hic
  ·exact pl0 30 1 0 ho hK (by kernel_rfl) (by kernel_rfl) g1 (by subst hV;rfl) fun ps af e=>k_fa31_11 e
  ·exact absurd (by decide) hic
 ·have hcase:cx=1∨cx=2∨cx=4∨cx=5∨cx=7∨cx=9:=by simpa using hc
  rcases hcase with rfl | rfl | rfl | rfl | rfl | rfl
  ·obtain⟨ps,af,rfl⟩:=core (some 24) (.load 29 (.tmp 23)) 29 none ho (by kernel_rfl)
   have e23:Tx.getD 23 undef = .pointer (some ⟨g,6,none⟩):=hK.is 0 ho (by kernel_rfl) (by subst hV;rfl)
   have hW1:PW (dx 1) (dx 2) (dx 4) (dx 5) (dx 7) (dx 9) (yx 2) (yx 5) wx:=hW
   have f2:=hda 2 (by decide) (by kernel_rfl)
   have f5:=hda 5 (by decide) (by kernel_rfl)
   have f7:=hda 7 (by decide) (by kernel_rfl)
   have f9:=hda 9 (by decide) (by kernel_rfl)
   clear hdb hda
   rw [hd,f2,f5,f7,f9] at hW1
   replace f2:=Lib.hid f2
   replace f5:=Lib.hid f5
   replace f7:=Lib.hid f7
   replace f9:=Lib.hid f9
   clear hd hW hc
   obtain⟨hl,hW2⟩:=cl1 _ _ _ _ hW1
   subst hV
   refine wpOp_plain ho rfl ?_
   go_simp
   first | refine⟨undef,rfl,?_⟩ | refine⟨⟨undef,rfl⟩,?_⟩ | skip
   simpa [updB,upd,f2.out,f5.out,f7.out,f9.out] using hW2
  ·obtain⟨ps,af,rfl⟩:=core (some 25) (.call {callee:= .value (.func 81),args:=#[.tmp 24],argTypes:=#[29]}) 29 none ho (by kernel_rfl)
   have e24:Tx.getD 24 undef=sv:=hK.is 1 ho (by kernel_rfl) (by subst hV;rfl)
   have hW1:PW (dx 1) (dx 2) (dx 4) (dx 5) (dx 7) (dx 9) (yx 2) (yx 5) wx:=hW
   have f1:=hdb 1 (by decide) (by kernel_rfl)
   have f5:=hda 5 (by decide) (by kernel_rfl)
   have f7:=hda 7 (by decide) (by kernel_rfl)
   have f9:=hda 9 (by decide) (by kernel_rfl)
   clear hdb hda
   rw [hd,f1,f5,f7,f9] at hW1
   replace f1:=Lib.hid f1
   replace f5:=Lib.hid f5
   replace f7:=Lib.hid f7
   replace f9:=Lib.hid f9
   clear hd hW hc
   refine wpOp_plain ho rfl ?_
   go_simp
   go_at_call 81
   refine(cl2 _ _ _ _ hW1).mono ?_
   rintro ex w2 ⟨vx,rfl,hW2⟩
   subst hV
   refine⟨vx,rfl,?_⟩
   simpa [updB,upd,f1.out,f5.out,f7.out,f9.out] using hW2
  ·obtain⟨ps,af,rfl⟩:=core (some 27) (.load 29 (.tmp 26)) 29 none ho (by kernel_rfl)
   have e26:Tx.getD 26 undef = .pointer (some ⟨g,11,none⟩):=hK.is 3 ho (by kernel_rfl) (by subst hV;rfl)
   have hW1:PW (dx 1) (dx 2) (dx 4) (dx 5) (dx 7) (dx 9) (yx 2) (yx 5) wx:=hW
   have f5:=hda 5 (by decide) (by kernel_rfl)
   have f7:=hda 7 (by decide) (by kernel_rfl)
   have f9:=hda 9 (by decide) (by kernel_rfl)
   clear hdb hda
   rw [hd,f5,f7,f9] at hW1
   replace f5:=Lib.hid f5
   replace f7:=Lib.hid f7
   replace f9:=Lib.hid f9
   clear hd hW hc
   obtain⟨hl,hW2⟩:=cl4 _ _ _ _ _ hW1
   subst hV
   refine wpOp_plain ho rfl ?_
   go_simp
   first | refine⟨undef,rfl,?_⟩ | refine⟨⟨undef,rfl⟩,?_⟩ | skip
   simpa [updB,upd,f5.out,f7.out,f9.out] using hW2
  ·obtain⟨ps,af,rfl⟩:=core (some 28) (.call {callee:= .value (.func 81),args:=#[.tmp 27],argTypes:=#[29]}) 29 none ho (by kernel_rfl)
   have e27:Tx.getD 27 undef=av:=hK.is 4 ho (by kernel_rfl) (by subst hV;rfl)
   have hW1:PW (dx 1) (dx 2) (dx 4) (dx 5) (dx 7) (dx 9) (yx 2) (yx 5) wx:=hW
   have f1:=hdb 1 (by decide) (by kernel_rfl)
   have f2:=hdb 2 (by decide) (by kernel_rfl)
   have f4:=hdb 4 (by decide) (by kernel_rfl)
   have f7:=hda 7 (by decide) (by kernel_rfl)
   have f9:=hda 9 (by decide) (by kernel_rfl)
   clear hdb hda
   rw [hd,f1,f2,f4,f7,f9] at hW1
   replace f1:=Lib.hid f1
   replace f2:=Lib.hid f2
   replace f4:=Lib.hid f4
   replace f7:=Lib.hid f7
   replace f9:=Lib.hid f9
   clear hd hW hc
   refine wpOp_plain ho rfl ?_
   go_simp
   go_at_call 81
   refine(cl5 _ _ _ hW1).mono ?_
   rintro ex w2 ⟨vx,rfl,hW2⟩
   subst hV
   refine⟨vx,rfl,?_⟩
   simpa [updB,upd,f1.out,f2.out,f4.out,f7.out,f9.out] using hW2
  ·obtain⟨ps,af,rfl⟩:=core none (.store 29 (.tmp 29) (.tmp 25)) 0 none ho (by kernel_rfl)
   have e29:Tx.getD 29 undef = .pointer (some ⟨g,6,none⟩):=hK.is 6 ho (by kernel_rfl) (by subst hV;rfl)
   have e25:Tx.getD 25 undef=yx 2:=hK.is 2 ho (by kernel_rfl) (by subst hV;rfl)
   have hW1:PW (dx 1) (dx 2) (dx 4) (dx 5) (dx 7) (dx 9) (yx 2) (yx 5) wx:=hW
   have f1:=hdb 1 (by decide) (by kernel_rfl)
   have f2:=hdb 2 (by decide) (by kernel_rfl)
   have f4:=hdb 4 (by decide) (by kernel_rfl)
   have f5:=hdb 5 (by decide) (by kernel_rfl)
   have f9:=hda 9 (by decide) (by kernel_rfl)
   clear hdb hda
   rw [hd,f1,f2,f4,f5,f9] at hW1
   replace f1:=Lib.hid f1
   replace f2:=Lib.hid f2
   replace f4:=Lib.hid f4
   replace f5:=Lib.hid f5
   replace f9:=Lib.hid f9
   clear hd hW hc
   obtain⟨sa,sn,sc,ey,⟨cv,hcv⟩,hfz,hW2⟩:=cl7 _ _ _ hW1
   rw [ey] at e25
   subst hV
   refine wpOp_plain ho rfl ?_
   go_simp
   simpa [updB,upd,f1.out,f2.out,f4.out,f5.out,f9.out] using hW2
  ·obtain⟨ps,af,rfl⟩:=core none (.store 29 (.tmp 30) (.tmp 28)) 0 none ho (by kernel_rfl)
   have e30:Tx.getD 30 undef = .pointer (some ⟨g,11,none⟩):=hK.is 8 ho (by kernel_rfl) (by subst hV;rfl)
   have e28:Tx.getD 28 undef=yx 5:=hK.is 5 ho (by kernel_rfl) (by subst hV;rfl)
   have hW1:PW (dx 1) (dx 2) (dx 4) (dx 5) (dx 7) (dx 9) (yx 2) (yx 5) wx:=hW
   have f1:=hdb 1 (by decide) (by kernel_rfl)
   have f2:=hdb 2 (by decide) (by kernel_rfl)
   have f4:=hdb 4 (by decide) (by kernel_rfl)
   have f5:=hdb 5 (by decide) (by kernel_rfl)
   have f7:=hdb 7 (by decide) (by kernel_rfl)
   clear hdb hda
   rw [hd,f1,f2,f4,f5,f7] at hW1
   replace f1:=Lib.hid f1
   replace f2:=Lib.hid f2
   replace f4:=Lib.hid f4
   replace f5:=Lib.hid f5
   replace f7:=Lib.hid f7
   clear hd hW hc
   obtain⟨sa,sn,sc,ey,⟨cv,hcv⟩,hfz,hW2⟩:=cl9 _ _ _ hW1
   rw [ey] at e28
   subst hV
   refine wpOp_plain ho rfl ?_
   go_simp
   simpa [updB,upd,f1.out,f2.out,f4.out,f5.out,f7.out] using hW2
 ·have hW1:PW (dx 1) (dx 2) (dx 4) (dx 5) (dx 7) (dx 9) (yx 2) (yx 5) wx:=hW
  rw [hd 1 (by decide),hd 2 (by decide),hd 4 (by decide),hd 5 (by decide),hd 7 (by decide),hd 9 (by decide)] at hW1
  have hQ:=h _ _ _ hW1
  rw [hsz]
  subst hV hT
  refine cast (congrArg (fun Tx=>Q .normal ⟨Tx,ds⟩ wx) ?_) hQ
  kernel_rfl
end Go.Proofs.YthogppennalobaaGreatDoor.Pl
