/- What an inverse's loop keeps: x times a stays u modulo p. No -/
import Derived.Lib.Hide
set_option linter.unusedVariables false
set_option linter.unusedSimpArgs false
set_option maxRecDepth 100000
namespace Go.Proofs.YtpggkfdijmnmiaaGreat
namespace Primes
def Prm (p:Nat): Prop:=2≤p∧∀m,2≤m→m ∣ p→m=p
theorem Prm.pos {p:Nat}(h:Prm p): 0<p:=by have:=h.1;omega
theorem Prm.cop {p a:Nat}(h:Prm p)(ha:¬p ∣ a): Nat.Coprime p a:=by
 have h1:Nat.gcd p a ∣ p:=Nat.gcd_dvd_left p a;have h2:Nat.gcd p a ∣ a:=Nat.gcd_dvd_right p a;have h0:0<Nat.gcd p a:=Nat.gcd_pos_of_pos_left a h.pos;rcases Nat.lt_or_ge (Nat.gcd p a) 2 with hl | hl
 ·show Nat.gcd p a=1
  omega
 ·have:=h.2 _ hl h1
  rw [this] at h2;exact absurd h2 ha
theorem cancel {p c x y:Nat}(hc:Nat.Coprime p c)(h:c*x % p=c*y % p): x % p=y % p:=by
 have key:∀x y:Nat,x≤y→c*x % p=c*y % p→x % p=y % p:=by
  intro x y hxy h;have h1:(c*y - c*x) % p=0:=Nat.sub_mod_eq_zero_of_mod_eq h.symm;rw [← Nat.mul_sub] at h1;obtain⟨k,hk⟩:=hc.dvd_of_dvd_mul_left (Nat.dvd_of_mod_eq_zero h1)
  have:y=x+p*k:=by omega
  rw [this,Nat.add_mul_mod_self_left]
 rcases Nat.le_total x y with hxy | hxy
 ·exact key x y hxy h
 ·exact(key y x hxy h.symm).symm
def pr:List Nat→Nat
 |[]=>1
 |x::l=>x*pr l
theorem pr_perm {l m:List Nat}(h:l.Perm m): pr l=pr m:=by
 induction h with
 |nil=>rfl
 |cons x _ ih=>simp [pr,ih]
 |swap x y l=>simp only [pr];rw [← Nat.mul_assoc,← Nat.mul_assoc,Nat.mul_comm y x]
 |trans _ _ a b=>exact a.trans b
theorem perm_of:∀(l m:List Nat),l.Nodup→(∀x∈l,x∈m)→m.length≤l.length→l.Perm m
 |[],m,_,_,h=>by
  have:m=[]:=List.eq_nil_of_length_eq_zero (by simpa using h)
  rw [this]
 |x::l,m,hn,hs,h=>by
  have hx:x∈m:=hs x (by simp);rw [List.nodup_cons] at hn;have ih:=perm_of l (m.erase x) hn.2 (fun y hy=>by
   rw [List.mem_erase_of_ne]
   ·exact hs y (by simp [hy])
   ·intro e;subst e;exact hn.1 hy) (by rw [List.length_erase_of_mem hx];simp at h;omega)
  exact(ih.cons x).trans (List.perm_cons_erase hx).symm
theorem pr_mul (p a:Nat): ∀l:List Nat,pr (l.map fun x=>a*x % p) % p=a ^ l.length*pr l % p
 |[]=>by simp [pr]
 |x::l=>by
  have ih:=pr_mul p a l;simp only [List.map_cons,pr,List.length_cons];rw [Nat.mul_mod,ih,Nat.mod_mod,← Nat.mul_mod,Nat.pow_succ]
  congr 1
  rw [Nat.mul_comm (a ^ l.length) a,Nat.mul_assoc,Nat.mul_assoc,Nat.mul_left_comm x]
theorem pr_cop {p:Nat}(h:Prm p): ∀l:List Nat,(∀x∈l,¬p ∣ x)→Nat.Coprime p (pr l)
 |[],_=>Nat.coprime_one_right p
 |x::l,hl=>Nat.Coprime.mul_right (h.cop (hl x (by simp))) (pr_cop h l fun y hy=>hl y (by simp [hy]))
theorem fermat {p a:Nat}(h:Prm p)(ha:¬p ∣ a): a ^ (p - 1) % p=1:=by
 have h2:=h.1;have hL:∀x,x∈List.range' 1 (p - 1)↔1≤x∧x<p:=by
  intro x;rw [List.mem_range'_1];omega
 have hnd:∀x∈List.range' 1 (p - 1),¬p ∣ x:=by
  intro x hx hd;rw [hL] at hx
  have:=Nat.le_of_dvd (by omega) hd
  omega
 have hperm:((List.range' 1 (p - 1)).map fun x=>a*x % p).Perm (List.range' 1 (p - 1)):=by
  apply perm_of
  ·rw [List.nodup_iff_pairwise_ne,List.pairwise_map];have hp:(List.range' 1 (p - 1)).Pairwise (· < ·):=List.pairwise_lt_range' 1 (by decide);refine List.Pairwise.imp_of_mem ?_ hp;intro x y hx hy hlt e;rw [hL] at hx hy
   have:=cancel (h.cop ha) e
   rw [Nat.mod_eq_of_lt hx.2,Nat.mod_eq_of_lt hy.2] at this;omega
  ·intro y hy;rw [List.mem_map] at hy;obtain⟨x,hx,rfl⟩:=hy;rw [hL];refine⟨?_,Nat.mod_lt _ h.pos⟩;rcases Nat.eq_zero_or_pos (a*x % p) with e | e
   ·exact absurd ((h.cop ha).dvd_of_dvd_mul_left (Nat.dvd_of_mod_eq_zero e)) (hnd x hx)
   ·exact e
  ·simp
 have e:=pr_mul p a (List.range' 1 (p - 1));rw [pr_perm hperm,List.length_range'] at e;have e2:pr (List.range' 1 (p - 1))*1 % p=pr (List.range' 1 (p - 1))*a ^ (p - 1) % p:=by
  rw [Nat.mul_one,e,Nat.mul_comm]
 have:=cancel (pr_cop h _ hnd) e2
 rw [← this];exact Nat.mod_eq_of_lt (by omega)
theorem fermat_all {p:Nat}(h:Prm p)(a:Nat): a ^ p % p=a % p:=by
 have h2:=h.1;obtain⟨q,hq⟩:∃q,p=q+1:=⟨p - 1,by omega⟩
 by_cases ha:p ∣ a
 ·have h0:a % p=0:=Nat.mod_eq_zero_of_dvd ha;rw [Nat.pow_mod,h0,Nat.zero_pow (by omega),Nat.zero_mod]
 ·have hf:=fermat h ha;have e:a ^ p=a ^ (p - 1)*a:=by
   rw [← Nat.pow_succ,show(p - 1).succ=p from by omega]
  rw [e,Nat.mul_mod,hf,Nat.one_mul,Nat.mod_mod]
theorem has_prime:∀n:Nat,2≤n→∃r,Prm r∧r ∣ n:=by
 intro n
 induction n using Nat.strongRecOn with
 |_ n ih=>
  intro hn
  by_cases h:∃m,2≤m∧m ∣ n∧m≠n
  ·obtain⟨m,hm,hd,hne⟩:=h;have hlt:m<n:=Nat.lt_of_le_of_ne (Nat.le_of_dvd (by omega) hd) hne;obtain⟨r,hr,hrm⟩:=ih m hlt hm;exact⟨r,hr,Nat.dvd_trans hrm hd⟩
  ·refine⟨n,⟨hn,fun m hm hd=>?_⟩,Nat.dvd_refl n⟩
   by_cases e:m=n
   ·exact e
   ·exact absurd ⟨m,hm,hd,e⟩ h
theorem prime_of_big {N:Nat}(h2:2≤N)(h:∀r,Prm r→r ∣ N→N<r*r): Prm N:=by
 refine⟨h2,fun m hm hd=>?_⟩;obtain⟨k,hk⟩:=hd;rcases Nat.lt_or_ge k 2 with hk2 | hk2
 ·have:k=1:=by
   rcases Nat.eq_zero_or_pos k with e | e
   ·rw [e,Nat.mul_zero] at hk;omega
   ·omega
  rw [this,Nat.mul_one] at hk;exact hk.symm
 ·exfalso
  have key:∀t s:Nat,2≤t→t≤s→N=t*s→False:=by
   intro t s ht hts hN;obtain⟨r,hr,hrt⟩:=has_prime t ht;have h1:=h r hr (Nat.dvd_trans hrt ⟨s,hN⟩);have h3:r≤t:=Nat.le_of_dvd (by omega) hrt;have h4:r*r≤t*s:=Nat.mul_le_mul h3 (Nat.le_trans h3 hts);omega
  rcases Nat.le_total m k with hmk | hmk
  ·exact key m k hm hmk hk
  ·exact key k m hk2 hmk (by rw [hk,Nat.mul_comm])
def noDiv (n:Nat): Nat→Nat→Bool
 |0,_=>true
 |f+1,d=>n % d != 0&&noDiv n f (d+1)
theorem noDiv_says (n:Nat): ∀(f d:Nat),noDiv n f d=true→∀x,d≤x→x<d+f→¬x ∣ n
 |0,d,_,x,h1,h2=>by omega
 |f+1,d,h,x,h1,h2=>by
  simp only [noDiv,Bool.and_eq_true,bne_iff_ne,ne_eq] at h;rcases Nat.eq_or_lt_of_le h1 with e | e
  ·subst e;intro hd;exact h.1 (Nat.mod_eq_zero_of_dvd hd)
  ·exact noDiv_says n f (d+1) h.2 x e (by omega)
theorem prime_by_trial {N:Nat}(s:Nat)(h2:2≤N)(hs:N<s*s)(h:noDiv N (s - 2) 2=true): Prm N:=by
 refine prime_of_big h2 fun r hr hd=>?_
 have h2r:=hr.1;rcases Nat.lt_or_ge r s with hl | hl
 ·exact absurd hd (noDiv_says N (s - 2) 2 h r h2r (by omega))
 ·exact Nat.lt_of_lt_of_le hs (Nat.mul_le_mul hl hl)
def pm (m:Nat): Nat→Nat→Nat→Nat
 |0,_,_=>1 % m
 |f+1,a,e=>if e % 2=1 then a*pm m f (a*a % m) (e / 2) % m else pm m f (a*a % m) (e / 2)
theorem pm_is (m:Nat): ∀(f a e:Nat),e<2 ^ f→pm m f a e=a ^ e % m
 |0,a,e,h=>by
  have:e=0:=by simpa using h
  subst this;rfl
 |f+1,a,e,h=>by
  have ih:=pm_is m f (a*a % m) (e / 2) (by rw [Nat.pow_succ] at h;omega);have hp:(a*a % m) ^ (e / 2) % m=(a*a) ^ (e / 2) % m:=(Nat.pow_mod (a*a) (e / 2) m).symm;have h2:(a*a) ^ (e / 2)=a ^ (2*(e / 2)):=by
   rw [Nat.pow_mul,Nat.pow_two]
  rw [pm,ih,hp,h2]
  split
  ·rename_i ho;rw [Nat.mul_mod,Nat.mod_mod,← Nat.mul_mod,Nat.mul_comm,← Nat.pow_succ,show(2*(e / 2)).succ=e from by omega]
  ·rename_i ho;rw [show 2*(e / 2)=e from by omega]
theorem pow_gcd {r b:Nat}(hr:2≤r): ∀x y:Nat,b ^ x % r=1→b ^ y % r=1→b ^ Nat.gcd x y % r=1:=by
 intro x y
 induction x,y using Nat.gcd.induction with
 |H0 y=>intro _ h;rw [Nat.gcd_zero_left];exact h
 |H1 x y hx ih=>
  intro h1 h2;rw [Nat.gcd_rec];refine ih ?_ h1;have e:b ^ y=(b ^ x) ^ (y / x)*b ^ (y % x):=by
   rw [← Nat.pow_mul,← Nat.pow_add,Nat.div_add_mod]
  rw [e,Nat.mul_mod,Nat.pow_mod,h1,Nat.one_pow,Nat.mod_eq_of_lt (show 1<r by omega),Nat.one_mul,Nat.mod_mod] at h2;exact h2
theorem pock_one {N q a r:Nat}(hq:Prm q)(hqN:q ∣ N - 1)(hN:2≤N)(h1:a ^ (N - 1) % N=1)(h2:Nat.gcd (a ^ ((N - 1) / q) % N+(N - 1)) N=1)(hr:Prm r)(hd:r ∣ N): q ∣ r - 1:=by
 have hr2:=hr.1;obtain⟨k,hk⟩:=hqN;have hkd:(N - 1) / q=k:=by rw [hk];exact Nat.mul_div_cancel_left k hq.pos
 rw [hkd] at h2;have modr:∀x:Nat,x % N % r=x % r:=fun x=>Nat.mod_mod_of_dvd x hd
 have e1:(a ^ k) ^ q % r=1:=by
  rw [← Nat.pow_mul,Nat.mul_comm,← hk,← modr,h1];exact Nat.mod_eq_of_lt (by omega)
 have hra:¬r ∣ a ^ k:=by
  intro h
  have:(a ^ k) ^ q % r=0:=by
   rw [Nat.pow_mod,Nat.mod_eq_zero_of_dvd h,Nat.zero_pow hq.pos,Nat.zero_mod]
  omega
 have e2:(a ^ k) ^ (r - 1) % r=1:=fermat hr hra;have hne:(a ^ k) % r≠1:=by
  intro h;have hdv:r ∣ a ^ k % N+(N - 1):=by
   apply Nat.dvd_of_mod_eq_zero
   have h3:(N - 1+1) % r=0:=by rw [show N - 1+1=N from by omega];exact Nat.mod_eq_zero_of_dvd hd
   rw [Nat.add_mod,modr,h];rw [Nat.add_mod] at h3;rw [Nat.mod_eq_of_lt (show 1<r by omega)] at h3;rw [Nat.add_comm];exact h3
  have:r ∣ 1:=by rw [← h2];exact Nat.dvd_gcd hdv hd
  have:=Nat.le_of_dvd (by decide) this
  omega
 have hg:=pow_gcd hr2 q (r - 1) e1 e2;rcases Nat.lt_or_ge (Nat.gcd q (r - 1)) 2 with hl | hl
 ·have h0:0<Nat.gcd q (r - 1):=Nat.gcd_pos_of_pos_left _ hq.pos;rw [show Nat.gcd q (r - 1)=1 from by omega,Nat.pow_one] at hg;exact absurd hg hne
 ·have:=hq.2 _ hl (Nat.gcd_dvd_left q (r - 1))
  rw [← this];exact Nat.gcd_dvd_right q (r - 1)
theorem pock1 {N:Nat}(q a:Nat)(hq:Prm q)(hN:2≤N)(hqN:(N - 1) % q=0)(hs:N<q*q)(h1:pm N 256 a (N - 1)=1)(hb:N - 1<2 ^ 256)(h2:Nat.gcd (pm N 256 a ((N - 1) / q)+(N - 1)) N=1): Prm N:=by
 rw [pm_is _ _ _ _ hb] at h1;rw [pm_is _ _ _ _ (Nat.lt_of_le_of_lt (Nat.div_le_self _ _) hb)] at h2;refine prime_of_big hN fun r hr hd=>?_
 have h:=pock_one hq (Nat.dvd_of_mod_eq_zero hqN) hN h1 h2 hr hd;have hr2:=hr.1;have hle:=Nat.le_of_dvd (by omega) h;exact Nat.lt_of_lt_of_le hs (Nat.mul_le_mul (by omega) (by omega))
theorem pock2 {N:Nat}(q a q' a':Nat)(hq:Prm q)(hq':Prm q')(hN:2≤N)(hqq:Nat.gcd q q'=1)(hqN:(N - 1) % q=0)(hqN':(N - 1) % q'=0)(hs:N<(q*q')*(q*q'))(h1:pm N 256 a (N - 1)=1)(h1':pm N 256 a' (N - 1)=1)(hb:N - 1<2 ^ 256)
  (h2:Nat.gcd (pm N 256 a ((N - 1) / q)+(N - 1)) N=1) (h2':Nat.gcd (pm N 256 a' ((N - 1) / q')+(N - 1)) N=1):Prm N:=by
 rw [pm_is _ _ _ _ hb] at h1 h1';rw [pm_is _ _ _ _ (Nat.lt_of_le_of_lt (Nat.div_le_self _ _) hb)] at h2 h2';refine prime_of_big hN fun r hr hd=>?_
 have h:=pock_one hq (Nat.dvd_of_mod_eq_zero hqN) hN h1 h2 hr hd;have h':=pock_one hq' (Nat.dvd_of_mod_eq_zero hqN') hN h1' h2' hr hd;have hm:q*q' ∣ r - 1:=Nat.Coprime.mul_dvd_of_dvd_of_dvd hqq h h';have hr2:=hr.1;have hle:=Nat.le_of_dvd (by omega) hm;exact Nat.lt_of_lt_of_le hs (Nat.mul_le_mul (by omega) (by omega))
theorem p197:Prm 197:=prime_by_trial 15 (by decide +kernel) (by decide +kernel) (by decide +kernel)
theorem p3023:Prm 3023:=prime_by_trial 55 (by decide +kernel) (by decide +kernel) (by decide +kernel)
theorem p3677:Prm 3677:=prime_by_trial 61 (by decide +kernel) (by decide +kernel) (by decide +kernel)
theorem p78283:Prm 78283:=prime_by_trial 280 (by decide +kernel) (by decide +kernel) (by decide +kernel)
theorem p704251:Prm 704251:=prime_by_trial 840 (by decide +kernel) (by decide +kernel) (by decide +kernel)
theorem p3969899:Prm 3969899:=prime_by_trial 1993 (by decide +kernel) (by decide +kernel) (by decide +kernel)
theorem p191039911:Prm 191039911:=prime_by_trial 13822 (by decide +kernel) (by decide +kernel) (by decide +kernel)
theorem p66417393611:Prm 66417393611:=pock2 3677 2 197 2 p3677 p197 (by decide +kernel) (by decide +kernel) (by decide +kernel) (by decide +kernel) (by decide +kernel) (by decide +kernel) (by decide +kernel) (by decide +kernel) (by decide +kernel) (by decide +kernel)
theorem p1002328039319:Prm 1002328039319:=pock1 3969899 2 p3969899 (by decide +kernel) (by decide +kernel) (by decide +kernel) (by decide +kernel) (by decide +kernel) (by decide +kernel)
theorem p11290956913871:Prm 11290956913871:=pock1 66417393611 2 p66417393611 (by decide +kernel) (by decide +kernel) (by decide +kernel) (by decide +kernel) (by decide +kernel) (by decide +kernel)
theorem p46076956964474543:Prm 46076956964474543:=pock2 704251 2 78283 2 p704251 p78283 (by decide +kernel) (by decide +kernel) (by decide +kernel) (by decide +kernel) (by decide +kernel) (by decide +kernel) (by decide +kernel) (by decide +kernel) (by decide +kernel) (by decide +kernel)
theorem p208150935158385979:Prm 208150935158385979:=pock2 191039911 2 3023 2 p191039911 p3023 (by decide +kernel) (by decide +kernel) (by decide +kernel) (by decide +kernel) (by decide +kernel) (by decide +kernel) (by decide +kernel) (by decide +kernel) (by decide +kernel) (by decide +kernel)
theorem p2624747550333869278416773953:Prm 2624747550333869278416773953:=pock1 208150935158385979 2 p208150935158385979 (by decide +kernel) (by decide +kernel) (by decide +kernel) (by decide +kernel) (by decide +kernel) (by decide +kernel)
theorem p774023187263532362759620327192479577272145303:Prm 774023187263532362759620327192479577272145303:=pock2 46076956964474543 2 11290956913871 2 p46076956964474543 p11290956913871 (by decide +kernel) (by decide +kernel) (by decide +kernel) (by decide +kernel) (by decide +kernel) (by decide +kernel) (by decide +kernel) (by decide +kernel) (by decide +kernel) (by decide +kernel)
theorem p835945042244614951780389953367877943453916927241:Prm 835945042244614951780389953367877943453916927241:=pock1 774023187263532362759620327192479577272145303 2 p774023187263532362759620327192479577272145303 (by decide +kernel) (by decide +kernel) (by decide +kernel) (by decide +kernel) (by decide +kernel) (by decide +kernel)
theorem N256:Prm 115792089210356248762697446949407573529996955224135760342422259061068512044369:=pock2 2624747550333869278416773953 2 1002328039319 2 p2624747550333869278416773953 p1002328039319 (by decide +kernel) (by decide +kernel) (by decide +kernel) (by decide +kernel) (by decide +kernel) (by decide +kernel) (by decide +kernel) (by decide +kernel) (by decide +kernel) (by decide +kernel)
theorem P256:Prm 115792089210356248762697446949407573530086143415290314195533631308867097853951:=pock1 835945042244614951780389953367877943453916927241 2 p835945042244614951780389953367877943453916927241 (by decide +kernel) (by decide +kernel) (by decide +kernel) (by decide +kernel) (by decide +kernel) (by decide +kernel)
end Primes
namespace Inver
def Keeps (p a u x:Nat): Prop:=x<p∧(x*a) % p=u % p
theorem dvd_of_mod_eq {p s t:Nat}(hle:t≤s)(h:s % p=t % p): p ∣ s - t:=Nat.dvd_of_mod_eq_zero (Nat.sub_mod_eq_zero_of_mod_eq h)
theorem mod_eq_of_dvd {p s t:Nat}(hle:t≤s)(h:p ∣ s - t): s % p=t % p:=by
 obtain⟨k,hk⟩:=h
 have:s=t+p*k:=by omega
 rw [this,Nat.add_mul_mod_self_left]
theorem add_cancel {p s t v:Nat}(h:(s+v) % p=(t+v) % p): s % p=t % p:=by
 rcases Nat.le_total t s with hl | hl
 ·have:=dvd_of_mod_eq (by omega) h
  rw [Nat.add_sub_add_right] at this;exact mod_eq_of_dvd hl this
 ·have:=dvd_of_mod_eq (by omega) h.symm
  rw [Nat.add_sub_add_right] at this;exact(mod_eq_of_dvd hl this).symm
theorem odd_cop {p:Nat}(h:p % 2=1): Nat.Coprime p 2:=by
 rw [Nat.Coprime,Nat.gcd_comm,Nat.gcd_rec,h];rfl
theorem two_cancel_le {p s t:Nat}(hp:p % 2=1)(hle:t≤s)(h:(2*s) % p=(2*t) % p): s % p=t % p:=by
 refine mod_eq_of_dvd hle ?_
 have:=dvd_of_mod_eq (by omega) h
 rw [← Nat.mul_sub] at this;exact(odd_cop hp).dvd_of_dvd_mul_left this
theorem two_cancel {p s t:Nat}(hp:p % 2=1)(h:(2*s) % p=(2*t) % p): s % p=t % p:=by
 rcases Nat.le_total t s with hl | hl
 ·exact two_cancel_le hp hl h
 ·exact(two_cancel_le hp hl h.symm).symm
theorem Keeps.halve {p a u x:Nat}(hp:p % 2=1)(hu:u % 2=0)(h:Keeps p a u x):
  Keeps p a (u / 2) ((if x % 2=1 then x+p else x) / 2):=by
 obtain⟨hx,he⟩:=h
 by_cases ho:x % 2=1
 ·rw [if_pos ho];refine⟨by omega,two_cancel hp ?_⟩;rw [← Nat.mul_assoc,show 2*((x+p) / 2)=x+p from by omega,show 2*(u / 2)=u from by omega,Nat.add_mul,Nat.add_mul_mod_self_left,he]
 ·rw [if_neg ho];refine⟨by omega,two_cancel hp ?_⟩;rw [← Nat.mul_assoc,show 2*(x / 2)=x from by omega,show 2*(u / 2)=u from by omega,he]
theorem Keeps.minus {p a u v x y:Nat}(hle:v≤u)(h:Keeps p a u x)(k:Keeps p a v y):
  Keeps p a (u - v) ((if x<y then x+p else x) - y):=by
 obtain⟨hx,he⟩:=h;obtain⟨hy,hf⟩:=k;have key:∀z,y≤z→(z*a) % p=u % p→((z - y)*a) % p=(u - v) % p:=by
  intro z hz hza;have h1:((z - y)*a+y*a) % p=((u - v)+v) % p:=by
   rw [← Nat.add_mul,Nat.sub_add_cancel hz,Nat.sub_add_cancel hle,hza]
  rw [Nat.add_mod,hf,← Nat.add_mod] at h1;exact add_cancel h1
 by_cases hlt:x<y
 ·rw [if_pos hlt];exact⟨by omega,key _ (by omega) (by rw [Nat.add_mul,Nat.add_mul_mod_self_left,he])⟩
 ·rw [if_neg hlt];exact⟨by omega,key _ (by omega) he⟩
theorem cop_half {u v:Nat}(hu:u % 2=0)(h:Nat.Coprime u v): Nat.Coprime (u / 2) v:=
 Nat.Coprime.coprime_dvd_left ⟨2,by omega⟩ h
theorem cop_minus {u v:Nat}(hle:v≤u)(h:Nat.Coprime u v): Nat.Coprime (u - v) v:=by
 rw [Nat.Coprime] at *;rw [Nat.gcd_sub_self_left hle];exact h
theorem Keeps.start {p a:Nat}(hp:1<p): Keeps p a (a % p) 1:=⟨hp,by rw [Nat.one_mul,Nat.mod_mod]⟩
theorem Keeps.none {p a:Nat}(hp:1<p): Keeps p a p 0:=⟨by omega,by rw [Nat.zero_mul,Nat.zero_mod,Nat.mod_self]⟩
theorem Keeps.done {p a x:Nat}(hp:1<p)(h:Keeps p a 1 x): (x*a) % p=1:=by rw [h.2,Nat.mod_eq_of_lt hp]
end Inver
end Go.Proofs.YtpggkfdijmnmiaaGreat
