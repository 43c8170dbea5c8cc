/- Rows of texts, plain: what is written and what is read. No condition. The forest, plain: nodes by rising numbers, paths, who is live, what Prune keeps: by the document's words, and as a walk from the newest to the oldest with a set of numbers tells it. No condition but that numbers rise and a node's parent has a smaller one. Blocks of memory, rows, and calls that change blocks of one owner alone.  -/
import Derived.Lib.ItoaMem
import Derived.Test.YthogppennalobaaGreatDoorProg
import Derived.WalkKit
import Derived.WalkSpells
import Derived.WalkLawsBesides
import Derived.BigCall
import Derived.BigRegion
import Derived.BigQuiet
import Derived.Outline
import Derived.KernelRfl
import Derived.Handy
import Derived.Lib.Hide
import Derived.Lib.Walk
import Derived.Lib.QuietBelow
import Derived.Lib.AppendStr
import Derived.Laws.Rows
import Derived.Laws.ResultCell
import Derived.Laws.CopyRow
import Derived.Laws.AppendOwn
import Derived.Laws.IdiomStrings
import Derived.Laws.Concat
import Derived.Laws.BitsAllLaws
import Derived.Laws.Shifts
set_option linter.unusedVariables false
set_option linter.unusedSimpArgs false
set_option maxRecDepth 100000
namespace Go.Proofs.YthogppennalobaaGreatDoor.Forest
abbrev Bs:=List UInt8
def digitB (b:UInt8): Bool:=decide (48≤b.toNat)&&decide (b.toNat≤57)
def valF (n:Nat): Bs→Nat
 |[]=>n
 |b::d=>valF (n*10+(b.toNat - 48)) d
theorem valF_app (d:Bs): ∀(n:Nat) (b:UInt8),valF n (d++[b])=valF n d*10+(b.toNat - 48):=by
 induction d with
 |nil=>intro n b;rfl
 |cons a d ih=>intro n b;exact ih _ b
def valD (d:Bs): Nat:=valF 0 d
theorem dig_toNat {k:Nat}(h:k<10): (UInt8.ofNat (48+k)).toNat=48+k:=by rw [UInt8.toNat_ofNat'];omega
theorem dec_rec {u:Nat}(h:¬u<10): Lib.decDigits u=Lib.decDigits (u / 10)++[UInt8.ofNat (48+u % 10)]:=by rw [Lib.decDigits,dif_neg h]
theorem dec_digit:∀(u:Nat),∀b∈Lib.decDigits u,digitB b=true:=by
 intro u
 induction u using Nat.strongRecOn with
 |ind u ih=>
  intro b hb
  by_cases h:u<10
  ·rw [Lib.decDigits_one h,List.mem_singleton] at hb
   subst hb
   simp [digitB,dig_toNat h];omega
  ·rw [dec_rec h,List.mem_append] at hb
   rcases hb with hb | hb
   ·exact ih _ (by omega) b hb
   ·rw [List.mem_singleton] at hb
    subst hb
    have:u % 10<10:=Nat.mod_lt _ (by decide)
    simp [digitB,dig_toNat this];omega
theorem dec_val:∀(u:Nat),valD (Lib.decDigits u)=u:=by
 intro u
 induction u using Nat.strongRecOn with
 |ind u ih=>
  by_cases h:u<10
  ·rw [Lib.decDigits_one h]
   show 0*10+((UInt8.ofNat (48+u)).toNat - 48)=u
   rw [dig_toNat h];omega
  ·have h2:u % 10<10:=Nat.mod_lt _ (by decide)
   have h3:=ih (u / 10) (by omega)
   rw [dec_rec h]
   show valF 0 (_++[_])=u
   rw [valF_app]
   show valD _*10+_=u
   rw [h3,dig_toNat h2]
   omega
theorem dec_pos (u:Nat): Lib.decDigits u≠[]:=by
 intro h
 have:=congrArg List.length h
 rw [Lib.decDigits_length] at this
 have:=Lib.nDigits_pos u
 simp at *
 omega
def numD (d:Bs): Option Nat:=if d=Lib.decDigits (valD d) then some (valD d) else none
theorem numD_dec (u:Nat): numD (Lib.decDigits u)=some u:=by unfold numD;rw [dec_val,if_pos rfl]
theorem numD_some {d:Bs}{n:Nat}(h:numD d=some n): d=Lib.decDigits n:=by
 unfold numD at h
 split at h
 ·rename_i e;cases h;exact e
 ·cases h
def one (s:Bs): Bs:=Lib.decDigits s.length++58::s
def formL:List Bs→Bs
 |[]=>[]
 |s::l=>one s++formL l
theorem formL_app (a b:List Bs): formL (a++b)=formL a++formL b:=by
 induction a with
 |nil=>rfl
 |cons s a ih=>simp [formL,ih]
def cutC:Bs→Option (Bs×Bs)
 |[]=>none
 |b::s=>if b=58 then some ([],s) else (cutC s).map fun p=>(b::p.1,p.2)
theorem cutC_of (d s:Bs)(h:∀b∈d,b≠58): cutC (d++58::s)=some (d,s):=by
 induction d with
 |nil=>rfl
 |cons a d ih=>
  rw [List.cons_append,cutC,if_neg (h a (by simp)),ih fun b hb=>h b (by simp [hb])]
  rfl
theorem cutC_some {s d b:Bs}(h:cutC s=some (d,b)): s=d++58::b∧∀x∈d,x≠58:=by
 induction s generalizing d with
 |nil=>cases h
 |cons a s ih=>
  rw [cutC] at h
  split at h
  ·rename_i e;cases h;subst e;exact⟨rfl,by simp⟩
  ·rename_i e
   cases hc:cutC s with
   |none=>rw [hc] at h;cases h
   |some p=>
    rw [hc] at h
    cases h
    obtain⟨h1,h2⟩:=ih (d:=p.1) (by rw [hc])
    refine⟨by rw [h1];rfl,fun x hx=>?_⟩
    rcases List.mem_cons.1 hx with rfl | hx
    ·exact e
    ·exact h2 x hx
theorem dec_colon (u:Nat): ∀b∈Lib.decDigits u,b≠58:=by
 intro b hb e
 subst e
 exact absurd (dec_digit u _ hb) (by decide)
def takeT (s:Bs): Option (Bs×Bs):=(cutC s).bind fun p=>(numD p.1).bind fun n=>if n≤p.2.length then some (p.2.take n,p.2.drop n) else none
theorem takeT_one (s r:Bs): takeT (one s++r)=some (s,r):=by
 unfold takeT one
 rw [List.append_assoc,List.cons_append,cutC_of _ _ (dec_colon _)]
 simp [numD_dec]
theorem takeT_some {s t r:Bs}(h:takeT s=some (t,r)): s=one t++r:=by
 unfold takeT at h
 cases hc:cutC s with
 |none=>rw [hc] at h;cases h
 |some p=>
  rw [hc,Option.bind_some] at h
  cases hn:numD p.1 with
  |none=>rw [hn] at h;cases h
  |some n=>
   rw [hn,Option.bind_some] at h
   split at h
   ·rename_i hl
    cases h
    have h1:=(cutC_some (d:=p.1) (b:=p.2) (by rw [hc])).1
    have h2:=numD_some hn
    unfold one
    rw [h1,List.length_take,Nat.min_eq_left hl,← h2,List.append_assoc,List.cons_append,List.take_append_drop]
   ·cases h
theorem takeT_len {s t r:Bs}(h:takeT s=some (t,r)): r.length+2≤s.length∧t.length+r.length+2≤s.length:=by
 have:=congrArg List.length (takeT_some h)
 unfold one at this
 have h2:=Lib.nDigits_pos t.length
 rw [← Lib.decDigits_length] at h2
 simp at this
 omega
def textsF:Nat→Bs→Option (List Bs)
 |_,[]=>some []
 |0,_::_=>none
 |k+1,b::s=>(takeT (b::s)).bind fun p=>(textsF k p.2).map fun l=>p.1::l
def textsL (s:Bs): Option (List Bs):=textsF s.length s
theorem textsF_more:∀(k j:Nat) (s:Bs),s.length≤k→s.length≤j→textsF k s=textsF j s
 |k,j,[],_,_=>by cases k<;>cases j<;>rfl
 |0,j,b::s,h,_=>by simp at h
 |k+1,0,b::s,_,h=>by simp at h
 |k+1,j+1,b::s,h1,h2=>by
  rw [textsF,textsF]
  cases ht:takeT (b::s) with
  |none=>rfl
  |some p=>
   have hl:=(takeT_len (t:=p.1) (r:=p.2) (by rw [ht])).1
   simp only [Option.bind_some]
   rw [textsF_more k j p.2 (by omega) (by omega)]
theorem textsL_cons {s t r:Bs}(h:takeT s=some (t,r)): textsL s=(textsL r).map fun l=>t::l:=by
 have hl:=(takeT_len h).1
 cases s with
 |nil=>cases h
 |cons b s=>
  unfold textsL
  rw [show(b::s).length=s.length+1 from rfl,textsF,h]
  simp only [Option.bind_some]
  rw [textsF_more s.length r.length r (by simp at hl;omega) (Nat.le_refl _)]
theorem textsL_none {s:Bs}(h:takeT s=none)(h0:s≠[]): textsL s=none:=by
 cases s with
 |nil=>exact absurd rfl h0
 |cons b s=>unfold textsL;rw [show(b::s).length=s.length+1 from rfl,textsF,h];rfl
theorem texts_form:∀(l:List Bs),textsL (formL l)=some l
 |[]=>rfl
 |s::l=>by rw [formL,textsL_cons (takeT_one s _),texts_form l];rfl
theorem form_texts:∀(k:Nat) (s:Bs) (l:List Bs),s.length≤k→textsL s=some l→formL l=s
 |k,[],l,_,h=>by cases h;rfl
 |0,b::s,l,hk,h=>by simp at hk
 |k+1,b::s,l,hk,h=>by
  cases ht:takeT (b::s) with
  |none=>rw [textsL_none ht (by simp)] at h;cases h
  |some p=>
   rw [textsL_cons (t:=p.1) (r:=p.2) (by rw [ht])] at h
   have hl:=(takeT_len (t:=p.1) (r:=p.2) (by rw [ht])).1
   cases hr:textsL p.2 with
   |none=>rw [hr] at h;cases h
   |some l'=>
    rw [hr] at h
    cases h
    rw [formL,form_texts k p.2 l' (by simp at hk hl;omega) hr,← takeT_some (t:=p.1) (r:=p.2) (by rw [ht])]
end Go.Proofs.YthogppennalobaaGreatDoor.Forest
namespace Go.Proofs.YthogppennalobaaGreatDoor.Forest
structure Nd where
 id:Nat
 kind:Int
 parent:Nat
 subject:List UInt8
 client:List UInt8
 audience:List UInt8
 scope:List (List UInt8)
 born:Int
 exp:Int
 dead:Bool
 spent:Bool
 actors:List (List UInt8)
 level:Int
 secret:List UInt8
 data:List UInt8
def Ok:List Nd→Prop
 |[]=>True
 |n::l=>0<n.id∧n.parent<n.id∧(∀m∈l,n.id<m.id)∧Ok l
theorem Ok.mem:∀ {l:List Nd} {n:Nd},Ok l→n∈l→0<n.id∧n.parent<n.id
 |m::l,n,h,hn=>by
  rcases List.mem_cons.1 hn with rfl | hn
  ·exact⟨h.1,h.2.1⟩
  ·exact h.2.2.2.mem hn
theorem Ok.same {l:List Nd}{n m:Nd}(h:Ok l)(hn:n∈l)(hm:m∈l)(e:n.id=m.id): n=m:=by
 induction l with
 |nil=>cases hn
 |cons a l ih=>
  rcases List.mem_cons.1 hn with h1 | h1<;>rcases List.mem_cons.1 hm with h2 | h2
  ·rw [h1,h2]
  ·have:=h.2.2.1 m h2;rw [h1] at e;omega
  ·have:=h.2.2.1 n h1;rw [h2] at e;omega
  ·exact ih h.2.2.2 h1 h2
def at' (l:List Nd)(id:Nat): Option Nd:=l.find? fun n=>n.id == id
theorem at_mem {l:List Nd}{id:Nat}{n:Nd}(h:at' l id=some n): n∈l∧n.id=id:=
 ⟨List.mem_of_find?_eq_some h,by have:=List.find?_some h;simpa using this⟩
theorem at_of {l:List Nd}(h:Ok l){n:Nd}(hn:n∈l): at' l n.id=some n:=by
 cases e:at' l n.id with
 |none=>have:=List.find?_eq_none.1 e n hn;simp at this
 |some m=>have:=at_mem e;rw [h.same this.1 hn this.2]
def path (l:List Nd)(id:Nat): List Nd:=
 match h:at' l id with
 |none=>[]
 |some n=>if hp:n.parent<n.id then n::path l n.parent else [n]
termination_by id
decreasing_by have:=(at_mem h).2;omega
theorem path_some {l:List Nd}(h:Ok l){n:Nd}(hn:n∈l): path l n.id=n::path l n.parent:=by
 rw [path]
 have e:=at_of h hn
 have hp:=(h.mem hn).2
 split
 ·rename_i e2;rw [e] at e2;cases e2
 ·rename_i m e2
  rw [e] at e2
  cases e2
  rw [dif_pos hp]
theorem path_none {l:List Nd}{id:Nat}(h:at' l id=none): path l id=[]:=by
 rw [path]
 split
 ·rfl
 ·rename_i m e2;rw [h] at e2;cases e2
theorem path_mem {l:List Nd}(h:Ok l): ∀(id:Nat),∀m∈path l id,m∈l∧m.id≤id:=by
 intro id
 induction id using Nat.strongRecOn with
 |ind id ih=>
  intro m hm
  cases e:at' l id with
  |none=>rw [path_none e] at hm;cases hm
  |some n=>
   obtain⟨hn,rfl⟩:=at_mem e
   rw [path_some h hn] at hm
   rcases List.mem_cons.1 hm with rfl | hm
   ·exact⟨hn,Nat.le_refl _⟩
   ·have hp:=(h.mem hn).2
    have:=ih n.parent hp m hm
    exact⟨this.1,by omega⟩
def struck (l:List Nd)(id:Nat): Bool:=(path l id).any (·.dead)
def liveN (l:List Nd)(now:Int)(n:Nd): Bool:=!n.spent&&decide (now<n.exp)&&!struck l n.id
def hangs (l:List Nd)(id on:Nat): Bool:=(path l id).any (·.id == on)
theorem hangs_self {l:List Nd}(h:Ok l){n:Nd}(hn:n∈l): hangs l n.id n.id=true:=by
 rw [hangs,path_some h hn];simp
theorem hangs_up {l:List Nd}(h:Ok l){n:Nd}(hn:n∈l)(p:Nat): hangs l n.id p=true↔n.id=p∨hangs l n.parent p=true:=by
 rw [hangs,path_some h hn,List.any_cons,Bool.or_eq_true,beq_iff_eq];rfl
def keeps (l:List Nd)(now:Int)(n:Nd): Bool:=l.any fun m=>liveN l now m&&hangs l m.id n.id
def prune (l:List Nd)(now:Int): List Nd:=l.filter (keeps l now)
def kept (lv:Nd→Bool): List Nd→List Nat→List Nat
 |[],k=>k
 |n::l,k=>kept lv l (if k.contains n.id||lv n then n.parent::n.id::k else k)
def pruneW (l:List Nd)(now:Int): List Nd:=l.filter fun n=>(kept (liveN l now) l.reverse []).contains n.id
theorem kept_spec {l:List Nd}(h:Ok l)(lv:Nd→Bool): ∀(todo don:List Nd) (k:List Nat),l=todo.reverse++don→
  (∀x,x∈k↔∃m∈don,(∃c∈don,lv c=true∧hangs l c.id m.id=true)∧(x=m.id∨x=m.parent))→
  ∀x,x∈kept lv todo k↔∃m∈l,(∃c∈l,lv c=true∧hangs l c.id m.id=true)∧(x=m.id∨x=m.parent)
 |[],don,k,hl,hk,x=>by
  simp at hl
  subst hl
  exact hk x
 |n::todo,don,k,hl,hk,x=>by
  have hl2:l=todo.reverse++n::don:=by rw [hl];simp
  have hn:n∈l:=by rw [hl2];simp
  have hnd:∀m∈don,m∈l∧n.id<m.id:=by
   intro m hm
   refine⟨by rw [hl2];simp [hm],?_⟩
   have:∀(t:List Nd),Ok (t++n::don)→n.id<m.id:=by
    intro t
    induction t with
    |nil=>intro h;exact h.2.2.1 m hm
    |cons a t ih=>intro h;exact ih h.2.2.2
   exact this todo.reverse (hl2▸h)
  rw [kept]
  refine kept_spec h lv todo (n::don) _ hl2 ?_ x
  intro y
  have hin:k.contains n.id=true↔∃c∈don,lv c=true∧hangs l c.id n.id=true:=by
   rw [List.contains_iff_mem,hk]
   constructor
   ·rintro⟨m,hm,⟨c,hc,hcl,hch⟩,e⟩
    have hmn:=hnd m hm
    rcases e with e | e
    ·omega
    ·refine⟨c,hc,hcl,?_⟩
     have trans:∀(id:Nat),hangs l id m.id=true→hangs l id m.parent=true:=by
      intro id
      induction id using Nat.strongRecOn with
      |ind id ih=>
       intro hh
       cases ea:at' l id with
       |none=>rw [hangs,path_none ea] at hh;cases hh
       |some q=>
        obtain⟨hq,rfl⟩:=at_mem ea
        rcases(hangs_up h hq _).1 hh with e1 | e1
        ·have:=h.same hq hmn.1 e1
         subst this
         refine(hangs_up h hq _).2 (.inr ?_)
         rw [← e]
         exact hangs_self h hn
        ·exact(hangs_up h hq _).2 (.inr (ih _ (h.mem hq).2 e1))
     rw [e]
     exact trans _ hch
   ·rintro⟨c,hc,hcl,hch⟩
    have step:∀(id:Nat),hangs l id n.id=true→id≠n.id→∃m∈l,hangs l id m.id=true∧m.parent=n.id:=by
     intro id
     induction id using Nat.strongRecOn with
     |ind id ih=>
      intro hh hne
      cases ea:at' l id with
      |none=>rw [hangs,path_none ea] at hh;cases hh
      |some q=>
       obtain⟨hq,rfl⟩:=at_mem ea
       rcases(hangs_up h hq _).1 hh with e1 | e1
       ·exact absurd e1 hne
       ·by_cases hp:q.parent=n.id
        ·exact⟨q,hq,hangs_self h hq,hp⟩
        ·obtain⟨m,hm,h1,h2⟩:=ih _ (h.mem hq).2 e1 hp
         exact⟨m,hm,(hangs_up h hq _).2 (.inr h1),h2⟩
    have hcn:=hnd c hc
    obtain⟨m,hm,h1,h2⟩:=step c.id hch (by omega)
    refine⟨m,?_,⟨c,hc,hcl,h1⟩,.inr h2.symm⟩
    have hmp:=(h.mem hm).2
    rw [hl2] at hm
    rcases List.mem_append.1 hm with hm | hm
    ·exfalso
     have:∀(t:List Nd),Ok (t++n::don)→m∈t→m.id<n.id:=by
      intro t
      induction t with
      |nil=>intro _ hm;cases hm
      |cons a t ih=>
       intro h hm
       rcases List.mem_cons.1 hm with rfl | hm
       ·exact h.2.2.1 n (by simp)
       ·exact ih h.2.2.2 hm
     have:=this todo.reverse (hl2▸h) hm
     omega
    ·rcases List.mem_cons.1 hm with rfl | hm
     ·omega
     ·exact hm
  have hdone:∀m∈don,(∃c∈n::don,lv c=true∧hangs l c.id m.id=true)↔∃c∈don,lv c=true∧hangs l c.id m.id=true:=by
   intro m hm
   constructor
   ·rintro⟨c,hc,h1,h2⟩
    rcases List.mem_cons.1 hc with rfl | hc
    ·exfalso
     rw [hangs,List.any_eq_true] at h2
     obtain⟨z,hz,he⟩:=h2
     have:=(path_mem h _ z hz).2
     have:=(hnd m hm).2
     simp at he
     omega
    ·exact⟨c,hc,h1,h2⟩
   ·rintro⟨c,hc,h1,h2⟩
    exact⟨c,List.mem_cons_of_mem _ hc,h1,h2⟩
  have hn1:(∃c∈n::don,lv c=true∧hangs l c.id n.id=true)↔(k.contains n.id||lv n)=true:=by
   rw [Bool.or_eq_true,hin]
   constructor
   ·rintro⟨c,hc,h1,h2⟩
    rcases List.mem_cons.1 hc with rfl | hc
    ·exact .inr h1
    ·exact .inl ⟨c,hc,h1,h2⟩
   ·rintro(⟨c,hc,h1,h2⟩ | h1)
    ·exact⟨c,List.mem_cons_of_mem _ hc,h1,h2⟩
    ·exact⟨n,by simp,h1,hangs_self h hn⟩
  have hk':y∈k↔∃m∈don,(∃c∈n::don,lv c=true∧hangs l c.id m.id=true)∧(y=m.id∨y=m.parent):=by
   rw [hk]
   constructor
   ·rintro⟨m,hm,h1,h2⟩;exact⟨m,hm,(hdone m hm).2 h1,h2⟩
   ·rintro⟨m,hm,h1,h2⟩;exact⟨m,hm,(hdone m hm).1 h1,h2⟩
  split
  ·rename_i hc
   rw [List.mem_cons,List.mem_cons,hk']
   constructor
   ·rintro(rfl | rfl | ⟨m,hm,h1,h2⟩)
    ·exact⟨n,by simp,hn1.2 hc,.inr rfl⟩
    ·exact⟨n,by simp,hn1.2 hc,.inl rfl⟩
    ·exact⟨m,List.mem_cons_of_mem _ hm,h1,h2⟩
   ·rintro⟨m,hm,h1,h2⟩
    rcases List.mem_cons.1 hm with rfl | hm
    ·rcases h2 with rfl | rfl
     ·exact .inr (.inl rfl)
     ·exact .inl rfl
    ·exact .inr (.inr ⟨m,hm,h1,h2⟩)
  ·rename_i hc
   rw [hk']
   constructor
   ·rintro⟨m,hm,h1,h2⟩;exact⟨m,List.mem_cons_of_mem _ hm,h1,h2⟩
   ·rintro⟨m,hm,h1,h2⟩
    rcases List.mem_cons.1 hm with rfl | hm
    ·exact absurd (hn1.1 h1) hc
    ·exact⟨m,hm,h1,h2⟩
theorem pruneW_eq {l:List Nd}(h:Ok l)(now:Int): pruneW l now=prune l now:=by
 refine List.filter_congr fun n hn=>?_
 have hs:=kept_spec h (liveN l now) l.reverse [] [] (by simp) (by simp) n.id
 rw [Bool.eq_iff_iff,List.contains_iff_mem,hs,keeps,List.any_eq_true]
 constructor
 ·rintro⟨m,hm,⟨c,hc,h1,h2⟩,e⟩
  refine⟨c,hc,?_⟩
  rw [Bool.and_eq_true]
  refine⟨h1,?_⟩
  rcases e with e | e
  ·rw [e];exact h2
  ·have trans:∀(id:Nat),hangs l id m.id=true→hangs l id n.id=true:=by
    intro id
    induction id using Nat.strongRecOn with
    |ind id ih=>
     intro hh
     cases ea:at' l id with
     |none=>rw [hangs,path_none ea] at hh;cases hh
     |some q=>
      obtain⟨hq,rfl⟩:=at_mem ea
      rcases(hangs_up h hq _).1 hh with e1 | e1
      ·have:=h.same hq hm e1
       subst this
       exact(hangs_up h hq _).2 (.inr (e▸hangs_self h hn))
      ·exact(hangs_up h hq _).2 (.inr (ih _ (h.mem hq).2 e1))
   exact trans _ h2
 ·rintro⟨c,hc,h1⟩
  rw [Bool.and_eq_true] at h1
  exact⟨n,hn,⟨c,hc,h1⟩,.inl rfl⟩
structure Fixes (f:Nd→Nd): Prop where
 id:∀n,(f n).id=n.id
 parent:∀n,(f n).parent=n.parent
theorem Ok.map {f:Nd→Nd}(hf:Fixes f){l:List Nd}(h:Ok l): Ok (l.map f):=by
 induction l with
 |nil=>trivial
 |cons a l ih=>
  refine⟨by rw [hf.id];exact h.1,by rw [hf.id,hf.parent];exact h.2.1,fun m hm=>?_,ih h.2.2.2⟩
  obtain⟨x,hx,rfl⟩:=List.mem_map.1 hm
  rw [hf.id,hf.id]
  exact h.2.2.1 x hx
structure Part (l:List Nd)(p:Nd→Bool): Prop where
 up:∀n∈l,∀m∈l,p n=true→m.id=n.parent→p m=true
theorem Ok.filter {l:List Nd}(h:Ok l)(p:Nd→Bool): Ok (l.filter p):=by
 induction l with
 |nil=>trivial
 |cons a l ih=>
  rw [List.filter_cons]
  split
  ·exact⟨h.1,h.2.1,fun m hm=>h.2.2.1 m (List.mem_filter.1 hm).1,ih h.2.2.2⟩
  ·exact ih h.2.2.2
theorem keeps_part {l:List Nd}(h:Ok l)(now:Int): Part l (keeps l now):=by
 constructor
 intro n hn m hm hk e
 rw [keeps,List.any_eq_true] at hk ⊢
 obtain⟨c,hc,h1⟩:=hk
 rw [Bool.and_eq_true] at h1
 refine⟨c,hc,?_⟩
 rw [Bool.and_eq_true]
 refine⟨h1.1,?_⟩
 have trans:∀(id:Nat),hangs l id n.id=true→hangs l id m.id=true:=by
  intro id
  induction id using Nat.strongRecOn with
  |ind id ih=>
   intro hh
   cases ea:at' l id with
   |none=>rw [hangs,path_none ea] at hh;cases hh
   |some q=>
    obtain⟨hq,rfl⟩:=at_mem ea
    rcases(hangs_up h hq _).1 hh with e1 | e1
    ·have:=h.same hq hn e1
     subst this
     exact(hangs_up h hq _).2 (.inr (e▸hangs_self h hm))
    ·exact(hangs_up h hq _).2 (.inr (ih _ (h.mem hq).2 e1))
 exact trans _ h1.2
theorem Ok.snoc {l:List Nd}(h:Ok l){n:Nd}(h0:0<n.id)(hp:n.parent<n.id)(hl:∀m∈l,m.id<n.id): Ok (l++[n]):=by
 induction l with
 |nil=>exact⟨h0,hp,by simp,trivial⟩
 |cons a l ih=>
  refine⟨h.1,h.2.1,fun m hm=>?_,ih h.2.2.2 fun m hm=>hl m (List.mem_cons_of_mem _ hm)⟩
  rcases List.mem_append.1 hm with hm | hm
  ·exact h.2.2.1 m hm
  ·rw [List.mem_singleton.1 hm];exact hl a (by simp)
def over (l:List Nd)(id:Nat): Prop:=∀n,at' l id=some n→n.spent=true∨struck l id=true
theorem Ok.split {t u:List Nd}{n m:Nd}(h:Ok (t++n::u))(hm:m∈t): m.id<n.id:=by
 induction t with
 |nil=>cases hm
 |cons a t ih=>
  rcases List.mem_cons.1 hm with rfl | hm
  ·exact h.2.2.1 n (by simp)
  ·exact ih h.2.2.2 hm
theorem path_len {l:List Nd}(h:Ok l)(id:Nat): (path l id).length≤l.length:=by
 have hs:∀(id:Nat),(path l id).length≤(l.filter fun m=>decide (m.id≤id)).length:=by
  intro id
  induction id using Nat.strongRecOn with
  |ind id ih=>
   cases e:at' l id with
   |none=>rw [path_none e];exact Nat.zero_le _
   |some n=>
    obtain⟨hn,rfl⟩:=at_mem e
    have hp:=(h.mem hn).2
    rw [path_some h hn,List.length_cons]
    have h1:=ih n.parent hp
    have h2:(l.filter fun m=>decide (m.id≤n.parent)).length<(l.filter fun m=>decide (m.id≤n.id)).length:=by
     have hle:∀(k:List Nd),(k.filter fun m=>decide (m.id≤n.parent)).length≤(k.filter fun m=>decide (m.id≤n.id)).length:=by
      intro k
      induction k with
      |nil=>exact Nat.le_refl _
      |cons a k ihk=>
       rw [List.filter_cons,List.filter_cons]
       by_cases ha:a.id≤n.parent
       ·rw [if_pos (by simpa using ha),if_pos (by simp;omega)];simpa using ihk
       ·rw [if_neg (by simpa using ha)]
        split
        ·rw [List.length_cons];omega
        ·exact ihk
     have hlt:∀(k:List Nd),n∈k→(k.filter fun m=>decide (m.id≤n.parent)).length<(k.filter fun m=>decide (m.id≤n.id)).length:=by
      intro k
      induction k with
      |nil=>intro hk;cases hk
      |cons a k ihk=>
       intro hk
       rw [List.filter_cons,List.filter_cons]
       rcases List.mem_cons.1 hk with rfl | hk
       ·rw [if_neg (by simp;omega),if_pos (by simp),List.length_cons]
        have:=hle k
        omega
       ·by_cases ha:a.id≤n.parent
        ·rw [if_pos (by simpa using ha),if_pos (by simp;omega)];simpa using ihk hk
        ·rw [if_neg (by simpa using ha)]
         have:=ihk hk
         split
         ·rw [List.length_cons];omega
         ·exact this
     exact hlt l hn
    omega
 exact Nat.le_trans (hs id) (List.length_filter_le _ _)
end Go.Proofs.YthogppennalobaaGreatDoor.Forest
namespace Go.Proofs.YthogppennalobaaGreatDoor
open Go.RowKit Go.Sort Forest
def Bk (t:TypeId)(w:World)(g:Nat)(cs:Array Value): Prop:=w.heap[g]?=some (.cells cs t (0,0))
theorem blk_lt {w:World}{b:Nat}{o:Obj}(h:w.heap[b]?=some o): b<w.heap.size:=(Array.getElem?_eq_some_iff.1 h).1
theorem Bk.lt {t:TypeId}{w:World}{g:Nat}{cs:Array Value}(h:Bk t w g cs): g<w.heap.size:=blk_lt h
theorem Bk.new {t:TypeId}{w:World}{g:Nat}{cs:Array Value}(h:g=w.heap.size): Bk t (w.alloc (.cells cs t)) g cs:=by
 subst h;exact Go.heap_alloc_new w _
theorem Bk.alloc {t:TypeId}{w:World}{g:Nat}{cs:Array Value}{o:Obj}(h:Bk t w g cs): Bk t (w.alloc o) g cs:=(show(w.alloc o).heap[g]?=w.heap[g]? from by show(w.heap.push o)[g]?=_;rw [Array.getElem?_push,if_neg (Nat.ne_of_lt h.lt)]).trans h
theorem Bk.drew {t:TypeId}{w:World}{g:Nat}{cs:Array Value}(h:Bk t w g cs): Bk t w.drew g cs:=h
theorem Bk.same {t:TypeId}{w:World}{g i:Nat}{cs:Array Value}{v:Value}(h:Bk t w g cs): Bk t (w.setCell ⟨g,i,none⟩ v) g (cs.setIfInBounds i v):=heap_setCell_same w g i cs t v h
theorem Bk.oth {t:TypeId}{w:World}{g:Nat}{a:Addr}{cs:Array Value}{v:Value}(hn:g≠a.block)(h:Bk t w g cs): Bk t (w.setCell a v) g cs:=(heap_setCell_other w a g v hn).trans h
theorem Bk.below {t:TypeId}{w w':World}{g:Nat}{cs:Array Value}(h:Bk t w g cs)(hb:Below w.heap.size w w'): Bk t w' g cs:=(hb.block _ h.lt).trans h
theorem Bk.cell {t:TypeId}{w:World}{g:Nat}{cs:Array Value}(h:Bk t w g cs)(i:Nat): w.cell? ⟨g,i,none⟩=cs[i]?:=cell_of_row w g i cs t (0,0) h
theorem Bk.fro {t:TypeId}{w:World}{g:Nat}{cs:Array Value}(h:Bk t w g cs)(i:Nat): w.frozen? ⟨g,i,none⟩=false:=frozen_of_row w g i cs t h
theorem blk_cell {w:World}{b:Nat}{cs:Array Value}{T:TypeId}{z:Nat×Nat}(h:w.heap[b]?=some (.cells cs T z))(o:Nat): w.cell? ⟨b,o,none⟩=cs[o]?:=by
 rw [Lib.cell_of_heap h]
theorem at0 (b j:Nat): (⟨b,0,none⟩:Addr).add j=⟨b,j,none⟩:=by unfold Addr.add;split<;>simp_all
structure Only (L:List Nat)(w w':World): Prop where
 os:w'.os=w.os
 tape:w'.tape=w.tape
 output:w'.output=w.output
 size:w.heap.size≤w'.heap.size
 block:∀k,k<w.heap.size→k∉L→w'.heap[k]?=w.heap[k]?
theorem Only.refl (L:List Nat)(w:World): Only L w w:=⟨rfl,rfl,rfl,Nat.le_refl _,fun _ _ _=>rfl⟩
theorem Only.of {L:List Nat}{w w':World}(h:Below w.heap.size w w'): Only L w w':=⟨h.os,h.tape,h.output,h.size,fun k hk _=>h.block k hk⟩
theorem Only.trans {L M:List Nat}{a b c:World}(h:Only L a b)(k:Only M b c)(hM:∀x∈M,x∈L∨a.heap.size≤x): Only L a c:=
 ⟨k.os.trans h.os,k.tape.trans h.tape,k.output.trans h.output,Nat.le_trans h.size k.size,fun i hi hL=>(k.block i (Nat.lt_of_lt_of_le hi h.size) (fun hm=>(hM i hm).elim hL (fun h=>by omega))).trans (h.block i hi hL)⟩
theorem Only.below {L:List Nat}{w w':World}(h:Only L w w'){B:Nat}(hB:B≤w.heap.size)(hL:∀x∈L,B≤x): Below B w w':=
 ⟨h.os,h.tape,h.output,h.size,fun k hk=>h.block k (by omega) (fun hm=>by have:=hL k hm;omega)⟩
theorem Only.setCell {L:List Nat}{a w:World}(h:Only L a w)(p:Addr)(hp:p.block∈L∨a.heap.size≤p.block)(v:Value): Only L a (w.setCell p v):=
 ⟨h.os,h.tape,h.output,by rw [World.size_setCell];exact h.size,fun k hk hL=>(heap_setCell_other w p k v (fun e=>hp.elim (fun h=>hL (e▸h)) (fun h=>by omega))).trans (h.block k hk hL)⟩
theorem Only.alloc {L:List Nat}{a w:World}(h:Only L a w)(o:Obj): Only L a (w.alloc o):=
 ⟨h.os,h.tape,h.output,by have:=h.size;rw [World.size_alloc];omega,fun k hk hL=>(Below.heap_alloc w o k (by have:=h.size;omega)).trans (h.block k hk hL)⟩
theorem Only.drew {L:List Nat}{a w:World}(h:Only L a w): Only L a w.drew:=⟨h.os,h.tape,h.output,h.size,h.block⟩
theorem Only.mono {L M:List Nat}{w w':World}(h:Only L w w')(hL:∀x∈L,x∈M∨w.heap.size≤x): Only M w w':=
 ⟨h.os,h.tape,h.output,h.size,fun k hk hM=>h.block k hk (fun hl=>(hL k hl).elim hM (fun h=>by omega))⟩
theorem Bk.only {t:TypeId}{w w':World}{g:Nat}{cs:Array Value}{L:List Nat}(h:Bk t w g cs)(ho:Only L w w')(hg:g∉L): Bk t w' g cs:=(ho.block _ h.lt hg).trans h
theorem size_ba (s:List UInt8): (⟨s.toArray⟩:ByteArray).size=s.length:=by simp [ByteArray.size]
def kpt (g:Nat): Value:= .pointer (some ⟨g,0,none⟩)
def txt (s:List UInt8): Value:= .string ⟨s.toArray⟩
theorem bk_ne {t u:TypeId}{w:World}{g h:Nat}{cs ds:Array Value}(a:Bk t w g cs)(b:Bk u w h ds)(hn:t≠u): g≠h:=fun e=>by
 subst e
 have:=a.symm.trans b
 simp only [Option.some.injEq,Obj.cells.injEq] at this
 exact hn this.2.1
namespace OwnR
theorem owns_of {B T z n:Nat}{v:Value}{l:List Value}{w w':World}(h:w.ownsRow B T z v n l)(e:∀g,v.ownBlock=some g→g<w.heap.size→w'.heap[g]?=w.heap[g]?): w'.ownsRow B T z v n l:=by
 refine⟨h.1,?_⟩
 rcases h.2 with hn | ⟨g,cap,cur,hv,hb,hg,rest⟩
 ·exact .inl hn
 ·exact .inr ⟨g,cap,cur,hv,hb,(e g (by rw [hv];rfl) (blk_lt hg)).trans hg,rest⟩
theorem owns_below {B T z n:Nat}{v:Value}{l:List Value}{w w':World}(h:w.ownsRow B T z v n l)(hb:Below w.heap.size w w'): w'.ownsRow B T z v n l:=owns_of h fun g _ hg=>hb.block g hg
theorem owns_only {B T z n:Nat}{v:Value}{l:List Value}{w w':World}{L:List Nat}(h:w.ownsRow B T z v n l)(ho:Only L w w')(hL:∀g,v.ownBlock=some g→g∉L): w'.ownsRow B T z v n l:=owns_of h fun g hg hl=>ho.block g hl (hL g hg)
theorem owns_block {B T z n:Nat}{v:Value}{l:List Value}{w:World}{g:Nat}(h:w.ownsRow B T z v n l)(hg:v.ownBlock=some g): B≤g∧∃cur,Bk T w g cur:=by
 rcases h.2 with ⟨rfl,_⟩ | ⟨q,cap,cur,rfl,hb,hh,_⟩
 ·cases hg
 ·cases hg;exact⟨hb,cur,hh⟩
theorem owns_ne {B T z n:Nat}{v:Value}{l:List Value}{w:World}{b:Nat}{t:TypeId}{cs:Array Value}(h:w.ownsRow B T z v n l)(hb:Bk t w b cs)(ht:t≠T): v.ownBlock≠some b:=fun hg=>by
 obtain⟨_,cur,hc⟩:=owns_block h hg
 exact bk_ne hb hc ht rfl
theorem owns_shape {B T z n:Nat}{v:Value}{l:List Value}{w:World}(h:w.ownsRow B T z v n l): ∃a c,v = .slice a n c:=by
 rcases h.2 with ⟨rfl,hn⟩ | ⟨q,cap,cur,rfl,_⟩
 ·exact⟨none,0,by rw [hn]⟩
 ·exact⟨_,_,rfl⟩
theorem owns_cell {B T n:Nat}{a:Option Addr}{m c:Nat}{l:List Value}{w:World}(h:w.ownsRow B T 1 (.slice a m c) n l){i:Nat}{v:Value}(hv:l[i]?=some v): ∃g,a=some ⟨g,0,none⟩∧w.cell? ⟨g,i,none⟩=some v:=by
 have hi:=(List.getElem?_eq_some_iff.1 hv).1
 rcases h.2 with ⟨hx,hn⟩ | ⟨q,cap,cur,hx,hb,hh,rest⟩
 ·have:=h.1;omega
 ·cases hx
  refine⟨q,rfl,?_⟩
  have:=h.cells (g:=q) rfl i v hv
  rwa [at0] at this
theorem owns_mono {w:World}{B C:Nat}{e:TypeId}{z:Nat}{v:Value}{n:Nat}{xs:List Value}(h:w.ownsRow B e z v n xs)(hC:C≤B): w.ownsRow C e z v n xs:=by
 obtain⟨hl,h | ⟨g,cap,cur,hv,hb,rest⟩⟩:=h
 ·exact⟨hl,.inl h⟩
 ·exact⟨hl,.inr ⟨g,cap,cur,hv,by omega,rest⟩⟩
end OwnR
open OwnR
theorem app_own (w:World)(t ty e:TypeId)(i:TypeInfo)(z:Value)(size bytes:Nat)(ht:Tryz.prog.underlying t=some (.slice e))(hi:Tryz.prog.info? e=some i)(hz:i.zero=some z)
  (hsize:i.size=size) (hby:i.bytes=bytes) (hzs:z.cells.size=size) (hsz:0<size)
  (v:Value) (n:Nat) (xs:List Value) (hown:w.ownsRow 0 e size v n xs)
  (a:Addr) (m c:Nat) (news:List Value) (hl:news.length=m*size) (hnews:∀j u,news[j]?=some u→w.cell? (a.add j)=some u) (h1:∀u∈news,u.oneCell'=true)
  (h63:n+m≤maxLen) (hbytes:(n+m)*bytes≤140737488355328) :
  ∃v' w',(Builtin.append_ #[t,t] ty #[v,.slice (some a) m c]).run Tryz.prog w = .ok v' w'∧w'.ownsRow 0 e size v' (n+m) (xs++news)∧w.grownBy w' v.ownBlock∧(v'.ownBlock=v.ownBlock∨∀k,v'.ownBlock=some k→w.heap.size≤k)∧(v' = .slice none 0 0→v = .slice none 0 0):=by
 rcases hown.2 with ⟨rfl,hn0⟩ | ⟨g,cap,cur,rfl,hbg,hg,hnc,hcm,hcs,htake⟩
 ·subst hn0
  obtain⟨v',w',hr,ho,hgr,hnil⟩:=run_append_own (P:=Tryz.prog) w w.heap.size t ty e i z size bytes ht hi hz hsize hby hzs hsz (.slice none 0 0) 0 xs ⟨hown.1,.inl ⟨rfl,rfl⟩⟩ a m c news hl hnews h1 h63 hbytes (Nat.le_refl _)
  exact⟨v',w',hr,owns_mono ho (Nat.zero_le _),hgr,.inr fun k hk=>(ho.lt k hk).1,fun e=>(hnil.1 e).1⟩
 ·obtain⟨v',w',hr,ho,hgr,hnil⟩:=run_append_own (P:=Tryz.prog) w 0 t ty e i z size bytes ht hi hz hsize hby hzs hsz _ n xs hown a m c news hl hnews h1 h63 hbytes (Nat.zero_le _)
  refine⟨v',w',hr,ho,hgr,?_,fun e=>(hnil.1 e).1⟩
  subst hsize
  subst hby
  by_cases hroom:n+m≤cap
  ·have hr2:=run_append_room (P:=Tryz.prog) w t ty e i ht hi g n cap cur hg a m c news hl hnews h1 hroom (by rw [hl,hcs,← Nat.add_mul];exact Nat.mul_le_mul_right _ hroom)
   rw [hr] at hr2
   cases hr2
   exact .inl rfl
  ·have hr2:=run_append_grow (P:=Tryz.prog) w t ty e i z ht hi hz ⟨g,0,none⟩ n cap xs hown.1 (hown.cells (g:=g) rfl) a m c news hl hnews (by omega) (by unfold maxLen at h63;omega) (growslice_fits (by omega) hbytes)
   rw [hr] at hr2
   cases hr2
   exact .inr fun k hk=>by cases hk;exact Nat.le_refl _
end Go.Proofs.YthogppennalobaaGreatDoor
