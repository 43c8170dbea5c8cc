/- Any bytes modulo. Condition: fewer than 2 to the 47. A number read from 32 bytes. Condition: fewer than 2 to the 47 bytes. Primes: Euclid's lemma, Fermat's little theorem, Pocklington's test; the two moduli of the curve P-256 are prime. No condition. The two moduli of the curve P-256 are prime. No condition. The calls whose answers the document fixes. No condition. Both moduli are prime; the cells -/
import Derived.Test.YtpggkfdijmnmiaaGreatZum04
import Derived.Lib.Hide
import Derived.Test.YtpggkfdijmnmiaaGreatZum03
import Derived.Test.YtpggkfdijmnmiaaGreatRows
import Derived.WalkKit
import Derived.WalkSpells
import Derived.WalkLawsBesides
import Derived.BigCall
import Derived.Outline
import Derived.Lib.OthersKept
import Derived.Test.YtpggkfdijmnmiaaGreatZum00
import Derived.Laws.BitsAllLaws
import Derived.Lib.QuietBelow
import Derived.Lib.Walk
import Derived.Laws.Shifts
import Derived.Lib.ConvBytes
import Derived.Lib.BufferRead
import Derived.Laws.IdiomStrings
set_option linter.unusedVariables false
set_option linter.unusedSimpArgs false
set_option maxRecDepth 100000
namespace Go.Proofs.YtpggkfdijmnmiaaGreat
open Go.RowKit Limbs
def pend (n i : Nat) : Nat := (8 - (n - i) % 8) % 8
theorem pend_next {n i : Nat} (h : i < n) : ((n - 1 - i) % 8 = 0 → pend n i = 7 ∧ pend n (i + 1) = 0) ∧ ((n - 1 - i) % 8 ≠ 0 → pend n (i + 1) = pend n i + 1 ∧ pend n i < 7) := by
  unfold pend
  omega
theorem or_byte {x b : Nat} (hx : x < 18446744073709551616) (h8 : x % 256 = 0) (hb : b < 256) : bits .or .u64 (x : Int) (b : Int) = ((x + b : Nat) : Int) := by
  rw [bits_or_u64_nat x b hx (by omega)]
  congr 1
  have h := Nat.two_pow_add_eq_or_of_lt (i := 8) (b := b) (by simpa using hb) (x / 256)
  have e : 2 ^ 8 * (x / 256) = x := by omega
  rw [e] at h
  exact h.symm
set_option maxHeartbeats 16000000 in
theorem reduce_any (m : Int) (s : List UInt8) (hs : s.length ≤ 140737488351232) (w : World) :
    Calls Tryz.prog 72 #[.int .i64 m, .string ⟨s.toArray⟩] w fun e w' => e = .returned (nv (bv s % md m)) ∧ Below w.heap.size w w' := by
  have hM := md_or m
  obtain ⟨hMW, hM2, hM3, hMp⟩ := md_lt hM
  have HM := Lib.hid (mod_any m)
  generalize md m = M at *
  have HA := Lib.hid (And.intro hM (And.intro hMW hMp))
  obtain ⟨res, hres⟩ : ∃ z, z = bv s % M := ⟨_, rfl⟩
  rw [← hres]
  have HRES := Lib.hid hres
  clear hres hM hMW hM2 hM3 hMp
  have hsz : (⟨s.toArray⟩ : ByteArray).size = s.length := by simp [ByteArray.size]
  have hst : ∀ i (h : i < s.length), (⟨s.toArray⟩ : ByteArray)[i]'(by rw [hsz]; exact h) = s[i] := fun i h => by simp [ByteArray.getElem_eq_getElem_data]
  obtain ⟨S, hS⟩ : ∃ S, S = (⟨s.toArray⟩ : ByteArray) := ⟨_, rfl⟩
  rw [← hS]
  have hSn : S.size = s.length := by rw [hS]; exact hsz
  have hSi : ∀ i (h : i < S.size) (h2 : i < s.length), S[i] = s[i] := fun i h h2 => by subst hS; exact hst i h2
  have HS := Lib.hid hSi
  have HN := Lib.hid (And.intro hSn hs)
  clear hsz hst hS hSi hSn hs
  simp only [nv, num]
  go_enter Tryz.func72, Tryz.ntmps72
  go_wp2_with fail
  refine (keep w.heap.size w (HM.out _) (by go_grown) (Nat.le_refl _)).mono ?_
  rintro e w1 ⟨rfl, hb, hk⟩
  have KR : Hid (Bk 24 w1 w.heap.size cs0) := Lib.hid (Bk.below (Bk.new rfl) hk)
  have HB := Lib.hid hb
  clear hk hb HM
  simp only [nv, num]
  go_wp2_with fail
  have K2R : Hid (Bk 24 ((w1.alloc (.cells #[.int .u64 (lb M 0 : Nat), .int .u64 (lb M 1 : Nat), .int .u64 (lb M 2 : Nat), .int .u64 (lb M 3 : Nat)] 24)).alloc (.cells #[.int .u64 0, .int .u64 0, .int .u64 0, .int .u64 0] 24)) w.heap.size cs0) := Lib.hid (Bk.alloc (Bk.alloc KR.out))
  have K2M : Hid (Bk 24 ((w1.alloc (.cells #[.int .u64 (lb M 0 : Nat), .int .u64 (lb M 1 : Nat), .int .u64 (lb M 2 : Nat), .int .u64 (lb M 3 : Nat)] 24)).alloc (.cells #[.int .u64 0, .int .u64 0, .int .u64 0, .int .u64 0] 24)) w1.heap.size (cs4 M)) := Lib.hid (Bk.alloc (Bk.new rfl))
  have K26 : Hid (Bk 24 ((w1.alloc (.cells #[.int .u64 (lb M 0 : Nat), .int .u64 (lb M 1 : Nat), .int .u64 (lb M 2 : Nat), .int .u64 (lb M 3 : Nat)] 24)).alloc (.cells #[.int .u64 0, .int .u64 0, .int .u64 0, .int .u64 0] 24)) (w1.heap.size + 1) (cs4 0)) := Lib.hid (Bk.new (by simp))
  have HB2 : Hid (Below w.heap.size w ((w1.alloc (.cells #[.int .u64 (lb M 0 : Nat), .int .u64 (lb M 1 : Nat), .int .u64 (lb M 2 : Nat), .int .u64 (lb M 3 : Nat)] 24)).alloc (.cells #[.int .u64 0, .int .u64 0, .int .u64 0, .int .u64 0] 24))) := Lib.hid (by have hb := HB.out; have hs := hb.size; go_grown)
  have HNE : Hid (w.heap.size ≠ w1.heap.size + 1 ∧ w1.heap.size ≠ w1.heap.size + 1 ∧ w.heap.size ≤ w1.heap.size + 1) := Lib.hid ⟨by have := HB.out.size; omega, by omega, by have := HB.out.size; omega⟩
  clear KR HB
  generalize ((w1.alloc (.cells #[.int .u64 (lb M 0 : Nat), .int .u64 (lb M 1 : Nat), .int .u64 (lb M 2 : Nat), .int .u64 (lb M 3 : Nat)] 24)).alloc (.cells #[.int .u64 0, .int .u64 0, .int .u64 0, .int .u64 0] 24)) = wr0 at K2R K2M K26 HB2 ⊢
  obtain ⟨gM, hgM⟩ : ∃ z, z = w1.heap.size := ⟨_, rfl⟩
  obtain ⟨g6, hg6⟩ : ∃ z, z = w1.heap.size + 1 := ⟨_, rfl⟩
  rw [← hg6] at K26 HNE ⊢
  rw [← hgM] at K2M HNE ⊢
  clear hgM hg6
  go_loopw [7, 13] (fun L c wr => ∃ (i l R : Nat), i ≤ S.size ∧ c = .int .i64 (i : Int) ∧ L = .int .u64 (l : Int) ∧ l < 256 ^ pend S.size i ∧ R < M ∧ (R * 256 ^ pend S.size i + l) % M = bv (s.take i) % M ∧ Bk 24 wr w.heap.size cs0 ∧ Bk 24 wr gM (cs4 M) ∧ Bk 24 wr g6 (cs4 R) ∧ Below w.heap.size w wr) (fun _ c _ => S.size - (intOf c).toNat)
  case atStart => exact ⟨0, 0, 0, Nat.zero_le _, rfl, rfl, Nat.pow_pos (by decide), by have := HA.out.2.2; omega, by simp [bv], K2R.out, K2M.out, K26.out, HB2.out⟩
  case round =>
    clear K2R K2M K26 HB2
    obtain ⟨i, l, R, hi, rfl, rfl, hl, hR, hv, kr, km, k6, hb⟩ := hrel
    have KR := Lib.hid kr
    have KM := Lib.hid km
    have K6 := Lib.hid k6
    have HB := Lib.hid hb
    clear kr km k6 hb
    have hN := HN.out
    by_cases hlt : i < S.size
    · have hix : i < s.length := by omega
      have hby := HS.out i hlt hix
      obtain ⟨b, hbb⟩ : ∃ b, b = s[i].toNat := ⟨_, rfl⟩
      have hb256 : b < 256 := by rw [hbb]; exact s[i].toNat_lt
      have hiv : ((S[i]).toNat : Int) = (b : Int) := by rw [hby, ← hbb]
      have htk : bv (s.take (i + 1)) = bv (s.take i) * 256 + b := by
        rw [List.take_succ_eq_append_getElem hix, bv_snoc, hbb]
      have hpn := pend_next hlt
      have hp7 : pend S.size i ≤ 7 := by unfold pend; omega
      have hl8 : l * 256 < 18446744073709551616 := by
        have h1 : 256 ^ pend S.size i ≤ 256 ^ 7 := Nat.pow_le_pow_right (by decide) hp7
        have h2 : (256 : Nat) ^ 7 = 72057594037927936 := by decide
        omega
      obtain ⟨l2, hl2⟩ : ∃ z, z = l * 256 + b := ⟨_, rfl⟩
      have a2 := or_byte (x := l * 256) (b := b) (by omega) (by omega) hb256
      rw [← hl2, show ((l * 256 : Nat) : Int) = (l : Int) * 256 from by omega] at a2
      have hl2W : l2 < 18446744073709551616 := by omega
      have aw1 : IntKind.u64.wrap ((l : Int) * 256) = (l : Int) * 256 := by rw [IntKind.wrap_u64]; omega
      have aw2 : IntKind.u64.wrap (b : Int) = (b : Int) := by rw [IntKind.wrap_u64]; omega
      have hval : bv (s.take (i + 1)) % M = ((R * 256 ^ pend S.size i + l) * 256 + b) % M := by
        rw [htk, ← mod_step (bv (s.take i)), ← hv, mod_step]
      have HALL := Lib.hid (And.intro hval (And.intro hl2 (And.intro hl2W (And.intro hl (And.intro hR (And.intro hi (And.intro hlt (And.intro hpn hb256))))))))
      have hsm : S.size ≤ 140737488351232 := by omega
      by_cases hq : (S.size - 1 - i) % 8 = 0
      · have t1 : (((S.size : Int) - 1 - (i : Int)) % 8 == 0) = true := by simp; omega
        have HQ := Lib.hid (hpn.1 hq)
        have HC := Lib.hid (behind_any R l2 M HA.out.1 hR hl2W)
        obtain ⟨R2, hR2⟩ : ∃ z, z = (R * 18446744073709551616 + l2) % M := ⟨_, rfl⟩
        rw [← hR2] at HC
        have HR2 := Lib.hid hR2
        clear hR2 hq hpn hval hl2 hl2W hl hR hi hv hN hby hbb htk hp7 hl8 hix hb256
        simp only [nv, num] at HC
        obtain ⟨c0, c1, c2, c3⟩ := K6.out.cells
        obtain ⟨j0, j1, j2, j3⟩ := KM.out.cells
        go_wp2_with fail
        refine (keep w.heap.size w (HC.out _) HB.out (Nat.le_refl _)).mono ?_
        rintro e w2 ⟨rfl, hb, hk⟩
        have LR := Lib.hid (KR.out.below hk)
        have LM := Lib.hid (KM.out.below hk)
        have L6 := Lib.hid (K6.out.below hk)
        have HB3 := Lib.hid hb
        clear hk hb c0 c1 c2 c3 j0 j1 j2 j3 KR KM K6 HB HC
        obtain ⟨c0, c1, c2, c3⟩ := L6.out.cells
        obtain ⟨f0, f1, f2, f3⟩ := L6.out.fros
        go_wp2_with fail
        obtain ⟨hval, hl2, hl2W, hl, hR, hi, hlt, hpn, hb256⟩ := HALL.out
        go_roundw
        case rel =>
          refine ⟨i + 1, 0, R2, by omega, by go_num, rfl, Nat.pow_pos (by decide), by rw [HR2.out]; exact Nat.mod_lt _ (by have := HA.out.2.2; omega), ?_, Bk.puto HNE.out.1 LR.out, Bk.puto HNE.out.2.1 LM.out, Bk.put L6.out, by have hb := HB3.out; have h7 := HNE.out.2.2; go_grown⟩
          rw [hval, HQ.out.1, HQ.out.2, Nat.pow_zero, Nat.mul_one, Nat.add_zero, HR2.out, Nat.mod_mod, hl2]
          congr 1
          have : (256 : Nat) ^ 7 = 72057594037927936 := by decide
          rw [this]
          omega
        case measure => simp [intOf]; omega
      · have t1 : (((S.size : Int) - 1 - (i : Int)) % 8 == 0) = false := by simp; omega
        have HQ := Lib.hid (hpn.2 hq)
        clear hq hpn hval hl2 hl2W hl hR hi hv hN hby hbb htk hp7 hl8 hix hb256
        go_wp2_with fail
        obtain ⟨hval, hl2, hl2W, hl, hR, hi, hlt, hpn, hb256⟩ := HALL.out
        go_roundw
        case rel =>
          refine ⟨i + 1, l2, R, by omega, by go_num, rfl, ?_, hR, ?_, KR.out, KM.out, K6.out, HB.out⟩
          · rw [HQ.out.1, Nat.pow_succ, hl2]
            have h1 : (l + 1) * 256 ≤ 256 ^ pend S.size i * 256 := Nat.mul_le_mul_right _ hl
            omega
          · rw [hval, HQ.out.1, Nat.pow_succ, hl2]
            congr 1
            rw [Nat.add_mul, Nat.mul_assoc]
            omega
        case measure => simp [intOf]; omega
    · obtain rfl : i = S.size := by omega
      have hp : pend S.size S.size = 0 := by unfold pend; omega
      rw [hp, Nat.pow_zero] at hl hv
      obtain rfl : l = 0 := by omega
      rw [Nat.mul_one, Nat.add_zero, Nat.mod_eq_of_lt hR, List.take_of_length_le (by omega), ← HRES.out] at hv
      have HV := Lib.hid hv
      clear hp hl hR hv hN hlt hi
      obtain ⟨c0, c1, c2, c3⟩ := K6.out.cells
      obtain ⟨j0, j1, j2, j3⟩ := KR.out.cells
      obtain ⟨f0, f1, f2, f3⟩ := KR.out.fros
      go_wp2_with fail
      refine ret_cell rfl w.heap.size R rfl (Bk.put KR.out) rfl ⟨by rw [HV.out]; rfl, ?_⟩
      have hb := HB.out
      go_grown
end Go.Proofs.YtpggkfdijmnmiaaGreat
namespace Go.Proofs.YtpggkfdijmnmiaaGreat
open Go.RowKit Limbs
end Go.Proofs.YtpggkfdijmnmiaaGreat
namespace Go.Proofs.YtpggkfdijmnmiaaGreat.Primes
def Prm (p : Nat) : Prop := 2 ≤ p ∧ ∀ m, 2 ≤ m → m ∣ p → m = p
theorem Prm.pos {p : Nat} (h : Prm p) : 0 < p := by have := h.1; omega
theorem Prm.cop {p a : Nat} (h : Prm p) (ha : ¬ p ∣ a) : Nat.Coprime p a := by
  have h1 : Nat.gcd p a ∣ p := Nat.gcd_dvd_left p a
  have h2 : Nat.gcd p a ∣ a := Nat.gcd_dvd_right p a
  have h0 : 0 < Nat.gcd p a := Nat.gcd_pos_of_pos_left a h.pos
  rcases Nat.lt_or_ge (Nat.gcd p a) 2 with hl | hl
  · show Nat.gcd p a = 1
    omega
  · have := h.2 _ hl h1
    rw [this] at h2
    exact absurd h2 ha
theorem cancel {p c x y : Nat} (hc : Nat.Coprime p c) (h : c * x % p = c * y % p) : x % p = y % p := by
  have key : ∀ x y : Nat, x ≤ y → c * x % p = c * y % p → x % p = y % p := by
    intro x y hxy h
    have h1 : (c * y - c * x) % p = 0 := Nat.sub_mod_eq_zero_of_mod_eq h.symm
    rw [← Nat.mul_sub] at h1
    obtain ⟨k, hk⟩ := hc.dvd_of_dvd_mul_left (Nat.dvd_of_mod_eq_zero h1)
    have : y = x + p * k := by omega
    rw [this, Nat.add_mul_mod_self_left]
  rcases Nat.le_total x y with hxy | hxy
  · exact key x y hxy h
  · exact (key y x hxy h.symm).symm
def pr : List Nat → Nat
  | [] => 1
  | x :: l => x * pr l
theorem pr_perm {l m : List Nat} (h : l.Perm m) : pr l = pr m := by
  induction h with
  | nil => rfl
  | cons x _ ih => simp [pr, ih]
  | swap x y l => simp only [pr]; rw [← Nat.mul_assoc, ← Nat.mul_assoc, Nat.mul_comm y x]
  | trans _ _ a b => exact a.trans b
theorem perm_of : ∀ (l m : List Nat), l.Nodup → (∀ x ∈ l, x ∈ m) → m.length ≤ l.length → l.Perm m
  | [], m, _, _, h => by
    have : m = [] := List.eq_nil_of_length_eq_zero (by simpa using h)
    rw [this]
  | x :: l, m, hn, hs, h => by
    have hx : x ∈ m := hs x (by simp)
    rw [List.nodup_cons] at hn
    have ih := perm_of l (m.erase x) hn.2 (fun y hy => by
      rw [List.mem_erase_of_ne]
      · exact hs y (by simp [hy])
      · intro e; subst e; exact hn.1 hy) (by rw [List.length_erase_of_mem hx]; simp at h; omega)
    exact (ih.cons x).trans (List.perm_cons_erase hx).symm
theorem pr_mul (p a : Nat) : ∀ l : List Nat, pr (l.map fun x => a * x % p) % p = a ^ l.length * pr l % p
  | [] => by simp [pr]
  | x :: l => by
    have ih := pr_mul p a l
    simp only [List.map_cons, pr, List.length_cons]
    rw [Nat.mul_mod, ih, Nat.mod_mod, ← Nat.mul_mod, Nat.pow_succ]
    congr 1
    rw [Nat.mul_comm (a ^ l.length) a, Nat.mul_assoc, Nat.mul_assoc, Nat.mul_left_comm x]
theorem pr_cop {p : Nat} (h : Prm p) : ∀ l : List Nat, (∀ x ∈ l, ¬ p ∣ x) → Nat.Coprime p (pr l)
  | [], _ => Nat.coprime_one_right p
  | x :: l, hl => Nat.Coprime.mul_right (h.cop (hl x (by simp))) (pr_cop h l fun y hy => hl y (by simp [hy]))
theorem fermat {p a : Nat} (h : Prm p) (ha : ¬ p ∣ a) : a ^ (p - 1) % p = 1 := by
  have h2 := h.1
  have hL : ∀ x, x ∈ List.range' 1 (p - 1) ↔ 1 ≤ x ∧ x < p := by
    intro x
    rw [List.mem_range'_1]
    omega
  have hnd : ∀ x ∈ List.range' 1 (p - 1), ¬ p ∣ x := by
    intro x hx hd
    rw [hL] at hx
    have := Nat.le_of_dvd (by omega) hd
    omega
  have hperm : ((List.range' 1 (p - 1)).map fun x => a * x % p).Perm (List.range' 1 (p - 1)) := by
    apply perm_of
    · rw [List.nodup_iff_pairwise_ne, List.pairwise_map]
      have hp : (List.range' 1 (p - 1)).Pairwise (· < ·) := List.pairwise_lt_range' 1 (by decide)
      refine List.Pairwise.imp_of_mem ?_ hp
      intro x y hx hy hlt e
      rw [hL] at hx hy
      have := cancel (h.cop ha) e
      rw [Nat.mod_eq_of_lt hx.2, Nat.mod_eq_of_lt hy.2] at this
      omega
    · intro y hy
      rw [List.mem_map] at hy
      obtain ⟨x, hx, rfl⟩ := hy
      rw [hL]
      refine ⟨?_, Nat.mod_lt _ h.pos⟩
      rcases Nat.eq_zero_or_pos (a * x % p) with e | e
      · exact absurd ((h.cop ha).dvd_of_dvd_mul_left (Nat.dvd_of_mod_eq_zero e)) (hnd x hx)
      · exact e
    · simp
  have e := pr_mul p a (List.range' 1 (p - 1))
  rw [pr_perm hperm, List.length_range'] at e
  have e2 : pr (List.range' 1 (p - 1)) * 1 % p = pr (List.range' 1 (p - 1)) * a ^ (p - 1) % p := by
    rw [Nat.mul_one, e, Nat.mul_comm]
  have := cancel (pr_cop h _ hnd) e2
  rw [← this]
  exact Nat.mod_eq_of_lt (by omega)
theorem fermat_all {p : Nat} (h : Prm p) (a : Nat) : a ^ p % p = a % p := by
  have h2 := h.1
  obtain ⟨q, hq⟩ : ∃ q, p = q + 1 := ⟨p - 1, by omega⟩
  by_cases ha : p ∣ a
  · have h0 : a % p = 0 := Nat.mod_eq_zero_of_dvd ha
    rw [Nat.pow_mod, h0, Nat.zero_pow (by omega), Nat.zero_mod]
  · have hf := fermat h ha
    have e : a ^ p = a ^ (p - 1) * a := by
      rw [← Nat.pow_succ, show (p - 1).succ = p from by omega]
    rw [e, Nat.mul_mod, hf, Nat.one_mul, Nat.mod_mod]
theorem has_prime : ∀ n : Nat, 2 ≤ n → ∃ r, Prm r ∧ r ∣ n := by
  intro n
  induction n using Nat.strongRecOn with
  | _ n ih =>
    intro hn
    by_cases h : ∃ m, 2 ≤ m ∧ m ∣ n ∧ m ≠ n
    · obtain ⟨m, hm, hd, hne⟩ := h
      have hlt : m < n := Nat.lt_of_le_of_ne (Nat.le_of_dvd (by omega) hd) hne
      obtain ⟨r, hr, hrm⟩ := ih m hlt hm
      exact ⟨r, hr, Nat.dvd_trans hrm hd⟩
    · refine ⟨n, ⟨hn, fun m hm hd => ?_⟩, Nat.dvd_refl n⟩
      by_cases e : m = n
      · exact e
      · exact absurd ⟨m, hm, hd, e⟩ h
theorem prime_of_big {N : Nat} (h2 : 2 ≤ N) (h : ∀ r, Prm r → r ∣ N → N < r * r) : Prm N := by
  refine ⟨h2, fun m hm hd => ?_⟩
  obtain ⟨k, hk⟩ := hd
  rcases Nat.lt_or_ge k 2 with hk2 | hk2
  · have : k = 1 := by
      rcases Nat.eq_zero_or_pos k with e | e
      · rw [e, Nat.mul_zero] at hk; omega
      · omega
    rw [this, Nat.mul_one] at hk
    exact hk.symm
  · exfalso
    have key : ∀ t s : Nat, 2 ≤ t → t ≤ s → N = t * s → False := by
      intro t s ht hts hN
      obtain ⟨r, hr, hrt⟩ := has_prime t ht
      have h1 := h r hr (Nat.dvd_trans hrt ⟨s, hN⟩)
      have h3 : r ≤ t := Nat.le_of_dvd (by omega) hrt
      have h4 : r * r ≤ t * s := Nat.mul_le_mul h3 (Nat.le_trans h3 hts)
      omega
    rcases Nat.le_total m k with hmk | hmk
    · exact key m k hm hmk hk
    · exact key k m hk2 hmk (by rw [hk, Nat.mul_comm])
def noDiv (n : Nat) : Nat → Nat → Bool
  | 0, _ => true
  | f + 1, d => n % d != 0 && noDiv n f (d + 1)
theorem noDiv_says (n : Nat) : ∀ (f d : Nat), noDiv n f d = true → ∀ x, d ≤ x → x < d + f → ¬ x ∣ n
  | 0, d, _, x, h1, h2 => by omega
  | f + 1, d, h, x, h1, h2 => by
    simp only [noDiv, Bool.and_eq_true, bne_iff_ne, ne_eq] at h
    rcases Nat.eq_or_lt_of_le h1 with e | e
    · subst e
      intro hd
      exact h.1 (Nat.mod_eq_zero_of_dvd hd)
    · exact noDiv_says n f (d + 1) h.2 x e (by omega)
theorem prime_by_trial {N : Nat} (s : Nat) (h2 : 2 ≤ N) (hs : N < s * s) (h : noDiv N (s - 2) 2 = true) : Prm N := by
  refine prime_of_big h2 fun r hr hd => ?_
  have h2r := hr.1
  rcases Nat.lt_or_ge r s with hl | hl
  · exact absurd hd (noDiv_says N (s - 2) 2 h r h2r (by omega))
  · exact Nat.lt_of_lt_of_le hs (Nat.mul_le_mul hl hl)
def pm (m : Nat) : Nat → Nat → Nat → Nat
  | 0, _, _ => 1 % m
  | f + 1, a, e => if e % 2 = 1 then a * pm m f (a * a % m) (e / 2) % m else pm m f (a * a % m) (e / 2)
theorem pm_is (m : Nat) : ∀ (f a e : Nat), e < 2 ^ f → pm m f a e = a ^ e % m
  | 0, a, e, h => by
    have : e = 0 := by simpa using h
    subst this; rfl
  | f + 1, a, e, h => by
    have ih := pm_is m f (a * a % m) (e / 2) (by rw [Nat.pow_succ] at h; omega)
    have hp : (a * a % m) ^ (e / 2) % m = (a * a) ^ (e / 2) % m := (Nat.pow_mod (a * a) (e / 2) m).symm
    have h2 : (a * a) ^ (e / 2) = a ^ (2 * (e / 2)) := by
      rw [Nat.pow_mul, Nat.pow_two]
    rw [pm, ih, hp, h2]
    split
    · rename_i ho
      rw [Nat.mul_mod, Nat.mod_mod, ← Nat.mul_mod, Nat.mul_comm, ← Nat.pow_succ, show (2 * (e / 2)).succ = e from by omega]
    · rename_i ho
      rw [show 2 * (e / 2) = e from by omega]
theorem pow_gcd {r b : Nat} (hr : 2 ≤ r) : ∀ x y : Nat, b ^ x % r = 1 → b ^ y % r = 1 → b ^ Nat.gcd x y % r = 1 := by
  intro x y
  induction x, y using Nat.gcd.induction with
  | H0 y => intro _ h; rw [Nat.gcd_zero_left]; exact h
  | H1 x y hx ih =>
    intro h1 h2
    rw [Nat.gcd_rec]
    refine ih ?_ h1
    have e : b ^ y = (b ^ x) ^ (y / x) * b ^ (y % x) := by
      rw [← Nat.pow_mul, ← Nat.pow_add, Nat.div_add_mod]
    rw [e, Nat.mul_mod, Nat.pow_mod, h1, Nat.one_pow, Nat.mod_eq_of_lt (show 1 < r by omega), Nat.one_mul, Nat.mod_mod] at h2
    exact h2
theorem pock_one {N q a r : Nat} (hq : Prm q) (hqN : q ∣ N - 1) (hN : 2 ≤ N) (h1 : a ^ (N - 1) % N = 1) (h2 : Nat.gcd (a ^ ((N - 1) / q) % N + (N - 1)) N = 1) (hr : Prm r) (hd : r ∣ N) : q ∣ r - 1 := by
  have hr2 := hr.1
  obtain ⟨k, hk⟩ := hqN
  have hkd : (N - 1) / q = k := by rw [hk]; exact Nat.mul_div_cancel_left k hq.pos
  rw [hkd] at h2
  have modr : ∀ x : Nat, x % N % r = x % r := fun x => Nat.mod_mod_of_dvd x hd
  have e1 : (a ^ k) ^ q % r = 1 := by
    rw [← Nat.pow_mul, Nat.mul_comm, ← hk, ← modr, h1]
    exact Nat.mod_eq_of_lt (by omega)
  have hra : ¬ r ∣ a ^ k := by
    intro h
    have : (a ^ k) ^ q % r = 0 := by
      rw [Nat.pow_mod, Nat.mod_eq_zero_of_dvd h, Nat.zero_pow hq.pos, Nat.zero_mod]
    omega
  have e2 : (a ^ k) ^ (r - 1) % r = 1 := fermat hr hra
  have hne : (a ^ k) % r ≠ 1 := by
    intro h
    have hdv : r ∣ a ^ k % N + (N - 1) := by
      apply Nat.dvd_of_mod_eq_zero
      have h3 : (N - 1 + 1) % r = 0 := by rw [show N - 1 + 1 = N from by omega]; exact Nat.mod_eq_zero_of_dvd hd
      rw [Nat.add_mod, modr, h]
      rw [Nat.add_mod] at h3
      rw [Nat.mod_eq_of_lt (show 1 < r by omega)] at h3
      rw [Nat.add_comm]
      exact h3
    have : r ∣ 1 := by rw [← h2]; exact Nat.dvd_gcd hdv hd
    have := Nat.le_of_dvd (by decide) this
    omega
  have hg := pow_gcd hr2 q (r - 1) e1 e2
  rcases Nat.lt_or_ge (Nat.gcd q (r - 1)) 2 with hl | hl
  · have h0 : 0 < Nat.gcd q (r - 1) := Nat.gcd_pos_of_pos_left _ hq.pos
    rw [show Nat.gcd q (r - 1) = 1 from by omega, Nat.pow_one] at hg
    exact absurd hg hne
  · have := hq.2 _ hl (Nat.gcd_dvd_left q (r - 1))
    rw [← this]
    exact Nat.gcd_dvd_right q (r - 1)
theorem pock1 {N : Nat} (q a : Nat) (hq : Prm q) (hN : 2 ≤ N) (hqN : (N - 1) % q = 0) (hs : N < q * q) (h1 : pm N 256 a (N - 1) = 1) (hb : N - 1 < 2 ^ 256) (h2 : Nat.gcd (pm N 256 a ((N - 1) / q) + (N - 1)) N = 1) : Prm N := by
  rw [pm_is _ _ _ _ hb] at h1
  rw [pm_is _ _ _ _ (Nat.lt_of_le_of_lt (Nat.div_le_self _ _) hb)] at h2
  refine prime_of_big hN fun r hr hd => ?_
  have h := pock_one hq (Nat.dvd_of_mod_eq_zero hqN) hN h1 h2 hr hd
  have hr2 := hr.1
  have hle := Nat.le_of_dvd (by omega) h
  exact Nat.lt_of_lt_of_le hs (Nat.mul_le_mul (by omega) (by omega))
theorem pock2 {N : Nat} (q a q' a' : Nat) (hq : Prm q) (hq' : Prm q') (hN : 2 ≤ N) (hqq : Nat.gcd q q' = 1) (hqN : (N - 1) % q = 0) (hqN' : (N - 1) % q' = 0) (hs : N < (q * q') * (q * q')) (h1 : pm N 256 a (N - 1) = 1) (h1' : pm N 256 a' (N - 1) = 1) (hb : N - 1 < 2 ^ 256)
    (h2 : Nat.gcd (pm N 256 a ((N - 1) / q) + (N - 1)) N = 1) (h2' : Nat.gcd (pm N 256 a' ((N - 1) / q') + (N - 1)) N = 1) : Prm N := by
  rw [pm_is _ _ _ _ hb] at h1 h1'
  rw [pm_is _ _ _ _ (Nat.lt_of_le_of_lt (Nat.div_le_self _ _) hb)] at h2 h2'
  refine prime_of_big hN fun r hr hd => ?_
  have h := pock_one hq (Nat.dvd_of_mod_eq_zero hqN) hN h1 h2 hr hd
  have h' := pock_one hq' (Nat.dvd_of_mod_eq_zero hqN') hN h1' h2' hr hd
  have hm : q * q' ∣ r - 1 := Nat.Coprime.mul_dvd_of_dvd_of_dvd hqq h h'
  have hr2 := hr.1
  have hle := Nat.le_of_dvd (by omega) hm
  exact Nat.lt_of_lt_of_le hs (Nat.mul_le_mul (by omega) (by omega))
end Go.Proofs.YtpggkfdijmnmiaaGreat.Primes
namespace Go.Proofs.YtpggkfdijmnmiaaGreat.Primes
theorem p197 : Prm 197 := prime_by_trial 15 (by decide +kernel) (by decide +kernel) (by decide +kernel)
theorem p3677 : Prm 3677 := prime_by_trial 61 (by decide +kernel) (by decide +kernel) (by decide +kernel)
theorem p78283 : Prm 78283 := prime_by_trial 280 (by decide +kernel) (by decide +kernel) (by decide +kernel)
theorem p704251 : Prm 704251 := prime_by_trial 840 (by decide +kernel) (by decide +kernel) (by decide +kernel)
theorem p66417393611 : Prm 66417393611 := pock2 3677 2 197 2 p3677 p197 (by decide +kernel) (by decide +kernel) (by decide +kernel) (by decide +kernel) (by decide +kernel) (by decide +kernel) (by decide +kernel) (by decide +kernel) (by decide +kernel) (by decide +kernel)
theorem p11290956913871 : Prm 11290956913871 := pock1 66417393611 2 p66417393611 (by decide +kernel) (by decide +kernel) (by decide +kernel) (by decide +kernel) (by decide +kernel) (by decide +kernel)
theorem p46076956964474543 : Prm 46076956964474543 := pock2 704251 2 78283 2 p704251 p78283 (by decide +kernel) (by decide +kernel) (by decide +kernel) (by decide +kernel) (by decide +kernel) (by decide +kernel) (by decide +kernel) (by decide +kernel) (by decide +kernel) (by decide +kernel)
theorem p774023187263532362759620327192479577272145303 : Prm 774023187263532362759620327192479577272145303 := pock2 46076956964474543 2 11290956913871 2 p46076956964474543 p11290956913871 (by decide +kernel) (by decide +kernel) (by decide +kernel) (by decide +kernel) (by decide +kernel) (by decide +kernel) (by decide +kernel) (by decide +kernel) (by decide +kernel) (by decide +kernel)
theorem p835945042244614951780389953367877943453916927241 : Prm 835945042244614951780389953367877943453916927241 := pock1 774023187263532362759620327192479577272145303 2 p774023187263532362759620327192479577272145303 (by decide +kernel) (by decide +kernel) (by decide +kernel) (by decide +kernel) (by decide +kernel) (by decide +kernel)
theorem P256 : Prm 115792089210356248762697446949407573530086143415290314195533631308867097853951 := pock1 835945042244614951780389953367877943453916927241 2 p835945042244614951780389953367877943453916927241 (by decide +kernel) (by decide +kernel) (by decide +kernel) (by decide +kernel) (by decide +kernel) (by decide +kernel)
end Go.Proofs.YtpggkfdijmnmiaaGreat.Primes
namespace Go.Proofs.YtpggkfdijmnmiaaGreat
open Go.RowKit Limbs
theorem md0 : md 0 = mP := rfl
end Go.Proofs.YtpggkfdijmnmiaaGreat
namespace Go.Proofs.YtpggkfdijmnmiaaGreat
open Go.RowKit Go.Sort Limbs
theorem Bk.reg {w : World} {g : Nat} {x0 x1 x2 x3 : Value} (h : Bk 24 w g #[x0, x1, x2, x3]) : (∀ d os, (grow (redrawn w d) os).cell? ⟨g, 0, none⟩ = some x0) ∧ (∀ d os, (grow (redrawn w d) os).cell? ⟨g, 1, none⟩ = some x1) ∧ (∀ d os, (grow (redrawn w d) os).cell? ⟨g, 2, none⟩ = some x2) ∧ (∀ d os, (grow (redrawn w d) os).cell? ⟨g, 3, none⟩ = some x3) :=
  ⟨fun d os => (h.regrown d os).cell 0, fun d os => (h.regrown d os).cell 1, fun d os => (h.regrown d os).cell 2, fun d os => (h.regrown d os).cell 3⟩
end Go.Proofs.YtpggkfdijmnmiaaGreat
namespace Go.Proofs.YtpggkfdijmnmiaaGreat
open Go.RowKit Limbs
set_option maxHeartbeats 8000000 in
theorem sleft_any (a : Nat) (ha : a < W256) (w : World) : Calls Tryz.prog 92 #[nv a] w fun e w' => e = .returned (nv (a % mN)) ∧ Below w.heap.size w w' := by
  have h := add_any 1 a 0 ha (by decide)
  rw [show md 1 = mN by unfold md; rw [if_neg (by decide)], Nat.add_zero] at h
  have HADD := Lib.hid h
  clear h
  have hz : nv 0 = .agg #[.int .u64 0, .int .u64 0, .int .u64 0, .int .u64 0] := rfl
  rw [hz] at HADD
  simp only [nv, num] at HADD ⊢
  go_enter Tryz.func92, Tryz.ntmps92
  go_wp2_with fail
  refine (keep w.heap.size w (HADD.out _) (by go_grown) (Nat.le_refl _)).mono ?_
  rintro e w1 ⟨rfl, hb, hk⟩
  have KR : Bk 24 w1 (w.heap.size + 1) cs0 := Bk.below (Bk.new (by simp)) hk
  obtain ⟨f0, f1, f2, f3⟩ := KR.fros
  obtain ⟨j0, j1, j2, j3⟩ := KR.cells
  go_wp2_with fail
  refine ret_cell rfl (w.heap.size + 1) (a % mN) rfl (Bk.put KR) rfl ⟨rfl, ?_⟩
  go_grown
set_option maxHeartbeats 8000000 in
theorem inRange_any (a : Nat) (ha : a < W256) (w : World) : Calls Tryz.prog 41 #[nv a] w fun e w' => e = .returned (.bool (decide (0 < a ∧ a < mN))) ∧ Below w.heap.size w w' := by
  have hmN : mN < W256 := by decide
  have HL := Lib.hid (sleft_any a ha)
  have HZ : Hid (∀ w, (Op.equalIn 10000 24 (.agg #[.int .u64 (lb a 0 : Nat), .int .u64 (lb a 1 : Nat), .int .u64 (lb a 2 : Nat), .int .u64 (lb a 3 : Nat)]) (.agg #[.int .u64 0, .int .u64 0, .int .u64 0, .int .u64 0])).run Tryz.prog w = .ok (decide (a = 0)) w) := Lib.hid fun w => eqN a 0 ha (by decide) w
  have HE : Hid (∀ w, (Op.equalIn 10000 24 (.agg #[.int .u64 (lb (a % mN) 0 : Nat), .int .u64 (lb (a % mN) 1 : Nat), .int .u64 (lb (a % mN) 2 : Nat), .int .u64 (lb (a % mN) 3 : Nat)]) (.agg #[.int .u64 (lb a 0 : Nat), .int .u64 (lb a 1 : Nat), .int .u64 (lb a 2 : Nat), .int .u64 (lb a 3 : Nat)])).run Tryz.prog w = .ok (decide (a % mN = a)) w) := Lib.hid fun w => eqN (a % mN) a (Nat.lt_trans (Nat.mod_lt _ (by decide)) hmN) ha w
  have hv : decide (0 < a ∧ a < mN) = (!decide (a = 0) && decide (a % mN = a)) := by
    have h1 : a % mN = a ↔ a < mN := ⟨fun h => by rw [← h]; exact Nat.mod_lt _ (by decide), Nat.mod_eq_of_lt⟩
    by_cases h0 : a = 0
    · subst h0; simp
    · have : 0 < a := by omega
      simp [h0, this, h1]
  rw [hv]
  clear hv hmN ha
  by_cases h0 : a = 0
  · rw [decide_eq_true h0] at HZ ⊢
    clear h0
    have hz := HZ.out
    simp only [nv, num] at HL ⊢
    go_enter Tryz.func41, Tryz.ntmps41
    go_wp2_with fail
    have K : Bk 24 (w.alloc (.cells (cs4 a) 24)) w.heap.size (cs4 a) := Bk.new rfl
    have hb0 : Below w.heap.size w (w.alloc (.cells (cs4 a) 24)) := by go_grown
    unfold cs4 at K hb0
    generalize (w.alloc (.cells #[.int .u64 (lb a 0 : Nat), .int .u64 (lb a 1 : Nat), .int .u64 (lb a 2 : Nat), .int .u64 (lb a 3 : Nat)] 24)) = W at K hb0 ⊢
    obtain ⟨x0, x1, x2, x3⟩ := K.reg
    refine wp_region_quiet_below mixed (by kernel_rfl) ?_
    repeat (first | go_big_quiet_step (exact qg HL.out) | quiet_step (exact qg HL.out))
    refine wpQuiet_nil ?_
    intro _ hw'
    obtain ⟨⟨dq, osq⟩, hw''⟩ := hw'
    subst hw''
    go_wp2_with fail
    go_returns
    exact ⟨rfl, hb0.trans ((below_regrown W dq osq).mono hb0.size)⟩
  · rw [decide_eq_false h0] at HZ ⊢
    clear h0
    have hz := HZ.out
    have he := HE.out
    generalize decide (a % mN = a) = bb at he ⊢
    simp only [nv, num] at HL ⊢
    go_enter Tryz.func41, Tryz.ntmps41
    go_wp2_with fail
    have K : Bk 24 (w.alloc (.cells (cs4 a) 24)) w.heap.size (cs4 a) := Bk.new rfl
    have hb0 : Below w.heap.size w (w.alloc (.cells (cs4 a) 24)) := by go_grown
    unfold cs4 at K hb0
    generalize (w.alloc (.cells #[.int .u64 (lb a 0 : Nat), .int .u64 (lb a 1 : Nat), .int .u64 (lb a 2 : Nat), .int .u64 (lb a 3 : Nat)] 24)) = W at K hb0 ⊢
    obtain ⟨x0, x1, x2, x3⟩ := K.reg
    refine wp_region_quiet_below mixed (by kernel_rfl) ?_
    repeat (first | go_big_quiet_step (exact qg HL.out) | quiet_step (exact qg HL.out))
    refine wpQuiet_nil ?_
    intro _ hw'
    obtain ⟨⟨dq, osq⟩, hw''⟩ := hw'
    subst hw''
    go_wp2_with fail
    go_returns
    exact ⟨by simp, hb0.trans ((below_regrown W dq osq).mono hb0.size)⟩
end Go.Proofs.YtpggkfdijmnmiaaGreat
namespace Go.Proofs.YtpggkfdijmnmiaaGreat.Hs
def rorW (x : UInt32) (n : Nat) : UInt32 := UInt32.ofNat (x.toNat * 2 ^ (32 - n) % 4294967296 ||| x.toNat / 2 ^ n)
def shrW (x : UInt32) (n : Nat) : UInt32 := UInt32.ofNat (x.toNat / 2 ^ n)
def fourL (x : UInt32) : List UInt8 := [UInt8.ofNat (x.toNat / 16777216), UInt8.ofNat (x.toNat / 65536), UInt8.ofNat (x.toNat / 256), UInt8.ofNat x.toNat]
def sh8 (x : UInt32) (c : UInt8) : UInt32 := UInt32.ofNat (x.toNat * 256 + c.toNat)
def nstep (b : List UInt8) (l : List UInt32) (i : Nat) : List UInt32 := l.set (i / 4) (sh8 (l.getD (i / 4) 0) (b.getD i 0))
def numsTo (b : List UInt8) (i : Nat) : List UInt32 := (List.range i).foldl (nstep b) (List.replicate 16 0)
def numsL (b : List UInt8) : List UInt32 := numsTo b 64
def sig0 (x : UInt32) : UInt32 := rorW x 7 ^^^ rorW x 18 ^^^ shrW x 3
def sig1 (x : UInt32) : UInt32 := rorW x 17 ^^^ rorW x 19 ^^^ shrW x 10
def sstep (l : List UInt32) (i : Nat) : List UInt32 := l.set i (l.getD (i - 16) 0 + sig0 (l.getD (i - 15) 0) + l.getD (i - 7) 0 + sig1 (l.getD (i - 2) 0))
def spreadTo (l : List UInt32) (i : Nat) : List UInt32 := (List.range' 16 (i - 16)).foldl sstep (l ++ List.replicate 48 0)
def spreadL (l : List UInt32) : List UInt32 := spreadTo l 64
def S1 (e : UInt32) : UInt32 := rorW e 6 ^^^ rorW e 11 ^^^ rorW e 25
def S0 (a : UInt32) : UInt32 := rorW a 2 ^^^ rorW a 13 ^^^ rorW a 22
def Ch (e f g : UInt32) : UInt32 := e &&& f ^^^ g &&& ~~~e
def Maj (a b c : UInt32) : UInt32 := a &&& b ^^^ a &&& c ^^^ b &&& c
def turnL : List UInt32 → UInt32 → List UInt32
  | [a, b, c, d, e, f, g, h], n => [(h + S1 e + Ch e f g + n) + (S0 a + Maj a b c), a, b, c, d + (h + S1 e + Ch e f g + n), e, f, g]
  | l, _ => l
def firstL : List UInt32 := [0x6a09e667, 0xbb67ae85, 0x3c6ef372, 0xa54ff53a, 0x510e527f, 0x9b05688c, 0x1f83d9ab, 0x5be0cd19]
def kL : List UInt32 := [
  0x428a2f98, 0x71374491, 0xb5c0fbcf, 0xe9b5dba5, 0x3956c25b, 0x59f111f1, 0x923f82a4, 0xab1c5ed5,
  0xd807aa98, 0x12835b01, 0x243185be, 0x550c7dc3, 0x72be5d74, 0x80deb1fe, 0x9bdc06a7, 0xc19bf174,
  0xe49b69c1, 0xefbe4786, 0x0fc19dc6, 0x240ca1cc, 0x2de92c6f, 0x4a7484aa, 0x5cb0a9dc, 0x76f988da,
  0x983e5152, 0xa831c66d, 0xb00327c8, 0xbf597fc7, 0xc6e00bf3, 0xd5a79147, 0x06ca6351, 0x14292967,
  0x27b70a85, 0x2e1b2138, 0x4d2c6dfc, 0x53380d13, 0x650a7354, 0x766a0abb, 0x81c2c92e, 0x92722c85,
  0xa2bfe8a1, 0xa81a664b, 0xc24b8b70, 0xc76c51a3, 0xd192e819, 0xd6990624, 0xf40e3585, 0x106aa070,
  0x19a4c116, 0x1e376c08, 0x2748774c, 0x34b0bcb5, 0x391c0cb3, 0x4ed8aa4a, 0x5b9cca4f, 0x682e6ff3,
  0x748f82ee, 0x78a5636f, 0x84c87814, 0x8cc70208, 0x90befffa, 0xa4506ceb, 0xbef9a3f7, 0xc67178f2]
def turnsTo (w : List UInt32) (h : List UInt32) (i : Nat) : List UInt32 := (List.range i).foldl (fun v i => turnL v (kL.getD i 0 + w.getD i 0)) h
def nextL (h : List UInt32) (b : List UInt8) : List UInt32 := List.zipWith (· + ·) (turnsTo (spreadL (numsL b)) h 64) h
def thrL : Nat → List UInt32 → List UInt8 → List UInt32
  | 0, h, _ => h
  | n + 1, h, s => thrL n (nextL h (s.take 64)) (s.drop 64)
def textL (h : List UInt32) : List UInt8 := h.flatMap fourL
def behindL (n : Nat) : List UInt8 := 128 :: List.replicate ((119 - n % 64) % 64) 0 ++ fourL (UInt32.ofNat (n * 8 / 4294967296)) ++ fourL (UInt32.ofNat (n * 8))
def sumL (s : List UInt8) : List UInt8 := textL (thrL ((s.length + 72) / 64) firstL (s ++ behindL s.length))
def fillL (key : List UInt8) : List UInt8 :=
  (if 64 < key.length then sumL key else key) ++ List.replicate (64 - (if 64 < key.length then sumL key else key).length) 0
def turnedL (k : List UInt8) (by' : UInt8) : List UInt8 := k.map (· ^^^ by')
def macK (k s : List UInt8) : List UInt8 := sumL (turnedL k 92 ++ sumL (turnedL k 54 ++ s))
def macL (key s : List UInt8) : List UInt8 := macK (fillL key) s
end Go.Proofs.YtpggkfdijmnmiaaGreat.Hs
namespace Go.Proofs.YtpggkfdijmnmiaaGreat.Hs
open Go.RowKit
theorem sizeB : (Tryz.prog.info? 188).map (·.size) = some 2 := by kernel_rfl
theorem liesB : liesAt Tryz.prog Tryz.prog.depth 188 (2 / Tryz.prog.cellsOf 188) 0 188 1 = true := by kernel_rfl
theorem infoByte : (Tryz.prog.info? 5).map (fun i => (i.zero, i.size, i.bytes)) = some (some (.int .u8 0), 1, 1) := by kernel_rfl
set_option maxHeartbeats 1000000 in
set_option maxRecDepth 100000 in
theorem copyCheck_used (b : Nat) (w : World) (h0 : w.cell? ⟨b, 0, none⟩ = some (.pointer (some ⟨b, 0, none⟩))) :
    Calls Tryz.prog 187 #[.pointer (some ⟨b, 0, none⟩)] w fun e w' => e = .returned (.tuple #[]) ∧ w = w' := by
  obtain ⟨j, hj, hjs⟩ := Option.map_eq_some_iff.1 sizeB
  go_enter Tryz.func187, Tryz.ntmps187
  go_wp2
  rw [Lib.run_neq_ptr_same w _ Tryz.underlying186 hj]
  go_wp2
  go_end0
  exact ⟨rfl, rfl⟩
set_option maxHeartbeats 1000000 in
set_option maxRecDepth 100000 in
theorem copyCheck_fresh (b : Nat) (w : World) (h0 : w.cell? ⟨b, 0, none⟩ = some (.pointer none)) (hsh : w.shape? b = some (188, 2)) (hfz : w.frozen? ⟨b, 0, none⟩ = false) :
    Calls Tryz.prog 187 #[.pointer (some ⟨b, 0, none⟩)] w fun e w' => e = .returned (.tuple #[]) ∧ w.setCell ⟨b, 0, none⟩ (.pointer (some ⟨b, 0, none⟩)) = w' := by
  obtain ⟨j, hj, hjs⟩ := Option.map_eq_some_iff.1 sizeB
  go_enter Tryz.func187, Tryz.ntmps187
  go_wp2
  rw [Lib.run_to_unsafe w ⟨b, 0, none⟩ Tryz.underlying186 Tryz.underlying225 hj (by rw [hjs]; decide) hsh (Nat.zero_lt_succ 1)]
  simp only [Result.andThen]
  rw [Oper.upon_value]
  go_wp2
  rw [run_callFunc_extern Tryz.func200 (by kernel_rfl) (by kernel_rfl) (by kernel_rfl) (e := Extern.AbiNoEscape.same) (by kernel_rfl)]
  rw [Lib.run_noEscape]
  simp only [Result.andThen]
  rw [Oper.upon_value]
  go_wp2
  rw [Lib.run_from_unsafe w ⟨b, 0, none⟩ Tryz.underlying225 Tryz.underlying186 hj hsh liesB]
  simp only [Result.andThen]
  rw [Oper.upon_value]
  go_wp2
  go_end0
  exact ⟨rfl, rfl⟩
theorem copyCheck_any (B b : Nat) (bs : List Value) (w : World) (h : Lib.IsBuilderF 188 5 B b bs w) :
    Calls Tryz.prog 187 #[.pointer (some ⟨b, 0, none⟩)] w fun e w' => e = .returned (.tuple #[]) ∧ Lib.BuilderAtF 188 5 B b (.pointer (some ⟨b, 0, none⟩)) bs w' ∧ Below B w w' ∧ Lib.OthersKept 5 (some b) w w' := by
  rcases h with h | h
  · refine (copyCheck_fresh b w h.cell0 h.shape h.frozen0).mono ?_
    rintro e w' ⟨rfl, rfl⟩
    exact ⟨rfl, h.used _, (Below.refl B w).setCell (p := ⟨b, 0, none⟩) h.1 _, (Lib.OthersKept.refl _ _ w).setCell ⟨b, 0, none⟩ rfl _⟩
  · refine (copyCheck_used b w h.cell0).mono ?_
    rintro e w' ⟨rfl, rfl⟩
    exact ⟨rfl, h, Below.refl B _, Lib.OthersKept.refl _ _ _⟩
theorem blk_lt {w : World} {b : Nat} {o : Obj} (h : w.heap[b]? = some o) : b < w.heap.size := (Array.getElem?_eq_some_iff.1 h).1
set_option maxHeartbeats 2000000 in
set_option maxRecDepth 100000 in
theorem writeString_any (B b : Nat) (bs : List Value) (s : ByteArray) (w : World) (h : Lib.IsBuilderF 188 5 B b bs w) (hlen : bs.length + s.size ≤ 140737488355328) (hBw : B ≤ w.heap.size) :
    Calls Tryz.prog 173 #[.pointer (some ⟨b, 0, none⟩), .string s] w fun e w' => e = .returned (.tuple #[.int .i64 s.size, .nilIface]) ∧ Lib.BuilderAtF 188 5 B b (.pointer (some ⟨b, 0, none⟩)) (bs ++ Lib.strCells s) w' ∧ Below B w w' ∧ Lib.OthersKept 5 (some b) w w' := by
  obtain ⟨i0, hi, hz0, hz1, hz2⟩ := info_parts infoByte
  go_enter Tryz.func173, Tryz.ntmps173
  go_wp2_with (go_at_call 187; refine (copyCheck_any B b bs _ h).mono ?_)
  rintro e w1 ⟨rfl, h1, hb1, hk1⟩
  obtain ⟨hB, v, hbk, hown, hne⟩ := h1
  have c0 : w1.cell? ⟨b, 0, none⟩ = some (.pointer (some ⟨b, 0, none⟩)) := by rw [Lib.cell_of_heap hbk]; rfl
  have c1 : w1.cell? ⟨b, 1, none⟩ = some v := by rw [Lib.cell_of_heap hbk]; rfl
  have hsz := hb1.size
  go_wp2_with (at_builtin; refine Lib.wpList_append_own_stringF _ rfl _ _ 101 9 rfl B 5 i0 Tryz.underlying101 Tryz.underlying9 hi hz0 hz1 hz2 _ _ _ rfl hown s rfl ?c3 ?c4 ?c5 ?_)
  case c3 => unfold maxLen; omega
  case c4 => omega
  case c5 => omega
  intro v' w2 hown' hgrow _
  have hb2 : w2.heap[b]? = some (.cells #[.pointer (some ⟨b, 0, none⟩), v] 188 (0, 0)) := by
    rw [hgrow.block b (blk_lt hbk) (fun e => hne e.symm)]
    exact hbk
  have d0 : w2.cell? ⟨b, 0, none⟩ = some (.pointer (some ⟨b, 0, none⟩)) := by rw [Lib.cell_of_heap hb2]; rfl
  have d1 : w2.cell? ⟨b, 1, none⟩ = some v := by rw [Lib.cell_of_heap hb2]; rfl
  have f1 : w2.frozen? ⟨b, 1, none⟩ = false := Lib.frozen_of_heap hb2 1
  obtain ⟨ao, n', cap, rfl⟩ : ∃ ao n' cap, v' = .slice ao n' cap := by
    rcases hown'.2 with ⟨hv, _⟩ | ⟨g, cap, cur, fz, hv, _⟩
    · exact ⟨_, _, _, hv⟩
    · exact ⟨_, _, _, hv⟩
  go_wp2
  go_ret2
  refine ⟨rfl, ?_, ?_, (hk1.grown hgrow (Lib.ownsRowF_kind hown)).setCell ⟨b, 1, none⟩ rfl _⟩
  · exact Lib.BuilderAtF.put hB hb2 (bs' := bs ++ Lib.strCells s) (by simpa [Lib.strCells_length] using hown') (by decide)
  · exact (hb1.grown hgrow (by omega) (fun k hk => (hown.lt k hk).1)).setCell (p := ⟨b, 1, none⟩) hB _
def Bd (B : Nat) (l : List UInt8) (w : World) : Prop := Lib.IsBuilderF 188 5 B B (Lib.byteCells l) w
theorem Bd.start (w : World) : Bd w.heap.size [] (w.alloc (.cells #[.pointer none, .slice none 0 0] 188)) := Lib.IsBuilderF.of (Lib.fresh_isBuilder 188 5 w)
theorem Bd.lt {B : Nat} {l : List UInt8} {w : World} (h : Bd B l w) : B < w.heap.size := by
  rcases h with h | h
  · exact h.lt
  · exact h.lt
theorem Bd.below {B : Nat} {l : List UInt8} {w w' : World} (h : Bd B l w) (hb : Below w.heap.size w w') : Bd B l w' := by
  have key : ∀ {p : Value}, Lib.BuilderAtF 188 5 B B p (Lib.byteCells l) w → Lib.BuilderAtF 188 5 B B p (Lib.byteCells l) w' := by
    intro p h
    obtain ⟨hB, v, hbk, hown, hne⟩ := h
    refine ⟨hB, v, (hb.block _ (blk_lt hbk)).trans hbk, ⟨hown.1, ?_⟩, hne⟩
    rcases hown.2 with hn | ⟨g, cap, cur, fz, hv, hg, hh, rest⟩
    · exact .inl hn
    · exact .inr ⟨g, cap, cur, fz, hv, hg, (hb.block _ (blk_lt hh)).trans hh, rest⟩
  exact h.elim (fun x => .inl (key x)) (fun x => .inr (key x))
theorem Bd.drew {B : Nat} {l : List UInt8} {w : World} (h : Bd B l w) : Bd B l w.drew := h
theorem write_s (B : Nat) (l : List UInt8) (s : ByteArray) (w : World) (h : Bd B l w) (hlen : l.length + s.size ≤ 140737488355328) :
    Calls Tryz.prog 173 #[.pointer (some ⟨B, 0, none⟩), .string s] w fun e w' => e = .returned (.tuple #[.int .i64 s.size, .nilIface]) ∧ Bd B (l ++ s.data.toList) w' ∧ Below B w w' ∧ Lib.OthersKept 5 (some B) w w' := by
  refine (writeString_any B B (Lib.byteCells l) s w h (by rw [Lib.byteCells_length]; exact hlen) (Nat.le_of_lt h.lt)).mono ?_
  rintro e w' ⟨rfl, h1, h2, h3⟩
  refine ⟨rfl, .inr ?_, h2, h3⟩
  rw [Lib.byteCells_append]
  exact h1
theorem string_b (B : Nat) (l : List UInt8) (w : World) (h : Bd B l w) :
    Calls Tryz.prog 165 #[.pointer (some ⟨B, 0, none⟩)] w fun e w' => e = .returned (.string ⟨l.toArray⟩) ∧ Below B w w' := by
  refine (Tryz.Builder_String_any_k B B l w h (Nat.le_of_lt h.lt)).mono ?_
  rintro e w' ⟨rfl, _, h2, _⟩
  exact ⟨rfl, h2⟩
end Go.Proofs.YtpggkfdijmnmiaaGreat.Hs
namespace Go.Proofs.YtpggkfdijmnmiaaGreat.Hs
open Go.RowKit
theorem ret_int {k : IntKind} {a b : Int} (h : a = b) : Ending.returned (.int k a) = .returned (.int k b) := by rw [h]
theorem w_lt (x : UInt32) : x.toNat < 4294967296 := x.toNat_lt
theorem w_ofNat (n : Nat) (h : n < 4294967296) : (UInt32.ofNat n).toNat = n := by
  rw [UInt32.toNat_ofNat']; exact Nat.mod_eq_of_lt h
theorem or_lt {a b : Nat} (ha : a < 4294967296) (hb : b < 4294967296) : a ||| b < 4294967296 := Nat.or_lt_two_pow (n := 32) ha hb
theorem or_ror (x : UInt32) (n m d : Nat) (hm : m = 2 ^ (32 - n)) (hd : d = 2 ^ n) : bits .or .u32 ((x.toNat : Int) * m % 4294967296) ((x.toNat : Int) / d) = ((rorW x n).toNat : Int) := by
  have h1 : (x.toNat : Int) * m % 4294967296 = ((x.toNat * m % 4294967296 : Nat) : Int) := by simp
  have h2 : (x.toNat : Int) / d = ((x.toNat / d : Nat) : Int) := by simp
  have l1 : x.toNat * m % 4294967296 < 4294967296 := Nat.mod_lt _ (by decide)
  have l2 : x.toNat / d < 4294967296 := Nat.lt_of_le_of_lt (Nat.div_le_self _ _) (w_lt x)
  rw [h1, h2, u32_or_nat _ _ l1 l2, rorW, ← hm, ← hd, w_ofNat _ (or_lt l1 l2)]
theorem xorW (x y : UInt32) : bits .xor .u32 (x.toNat : Int) (y.toNat : Int) = ((x ^^^ y).toNat : Int) := by
  rw [u32_xor_nat _ _ (w_lt x) (w_lt y), UInt32.toNat_xor]
theorem andW (x y : UInt32) : bits .and .u32 (x.toNat : Int) (y.toNat : Int) = ((x &&& y).toNat : Int) := by
  rw [u32_and_nat _ _ (w_lt x) (w_lt y), UInt32.toNat_and]
theorem andNotW (x y : UInt32) : bits .andNot .u32 (x.toNat : Int) (y.toNat : Int) = ((x &&& ~~~ y).toNat : Int) := by
  rw [u32_andNot_nat _ _ (w_lt x) (w_lt y), UInt32.toNat_and, UInt32.toNat_not]
  rfl
theorem addW (x y : UInt32) : IntKind.u32.wrap ((x.toNat : Int) + (y.toNat : Int)) = ((x + y).toNat : Int) := by
  rw [IntKind.wrap_u32', UInt32.toNat_add]; omega
theorem shrW_div (x : UInt32) (n d : Nat) (hd : d = 2 ^ n) : (x.toNat : Int) / d = ((shrW x n).toNat : Int) := by
  have l2 : x.toNat / d < 4294967296 := Nat.lt_of_le_of_lt (Nat.div_le_self _ _) (w_lt x)
  rw [shrW, ← hd, w_ofNat _ l2]; simp
theorem xorB (x y : UInt8) : bits .xor .u8 (x.toNat : Int) (y.toNat : Int) = ((x ^^^ y).toNat : Int) := by
  rw [u8_xor_nat _ _ x.toNat_lt y.toNat_lt, UInt8.toNat_xor]
theorem sh8_or (x : UInt32) (c : UInt8) : bits .or .u32 ((x.toNat : Int) * 256 % 4294967296) (c.toNat : Int) = ((sh8 x c).toNat : Int) := by
  have hc := c.toNat_lt
  have h1 : (x.toNat : Int) * 256 % 4294967296 = ((x.toNat * 256 % 4294967296 : Nat) : Int) := by simp
  have l1 : x.toNat * 256 % 4294967296 < 4294967296 := Nat.mod_lt _ (by decide)
  rw [h1, u32_or_nat _ _ l1 (by omega), nat_join 8 _ _ (by omega) (by omega), sh8, UInt32.toNat_ofNat']
  omega
set_option maxHeartbeats 1000000 in
theorem rotl2 (x : UInt32) (w : World) :
    Calls Tryz.prog 216 #[.int .u32 (x.toNat : Int), .int .i64 (-2)] w fun e w' => e = .returned (.int .u32 ((rorW x 2).toNat : Int)) ∧ w = w' := by
  have hx := x.toNat_lt
  have hb : bits BinOp.and IntKind.u64 (IntKind.u64.wrap (-2)) 31 = 30 := by decide
  have ho : bits BinOp.or IntKind.u32 ((x.toNat : Int) * 1073741824 % 4294967296) ((x.toNat : Int) / 4) = ((rorW x 2).toNat : Int) := or_ror x 2 1073741824 4 (by decide) (by decide)
  go_enter Tryz.func216, Tryz.ntmps216
  go_wp2
  go_ret
  exact ⟨rfl, rfl⟩
set_option maxHeartbeats 1000000 in
theorem ror2 (x : UInt32) (w : World) :
    Calls Tryz.prog 205 #[.int .u32 (x.toNat : Int), .int .i64 2] w fun e w' => e = .returned (.int .u32 ((rorW x 2).toNat : Int)) ∧ w = w' := by
  have hx := x.toNat_lt
  go_enter Tryz.func205, Tryz.ntmps205
  go_wp2_with (go_at_call 216; refine (rotl2 x _).mono ?_; rintro e w' ⟨rfl, rfl⟩)
  go_ret
  exact ⟨rfl, rfl⟩
set_option maxHeartbeats 1000000 in
theorem rotl6 (x : UInt32) (w : World) :
    Calls Tryz.prog 216 #[.int .u32 (x.toNat : Int), .int .i64 (-6)] w fun e w' => e = .returned (.int .u32 ((rorW x 6).toNat : Int)) ∧ w = w' := by
  have hx := x.toNat_lt
  have hb : bits BinOp.and IntKind.u64 (IntKind.u64.wrap (-6)) 31 = 26 := by decide
  have ho : bits BinOp.or IntKind.u32 ((x.toNat : Int) * 67108864 % 4294967296) ((x.toNat : Int) / 64) = ((rorW x 6).toNat : Int) := or_ror x 6 67108864 64 (by decide) (by decide)
  go_enter Tryz.func216, Tryz.ntmps216
  go_wp2
  go_ret
  exact ⟨rfl, rfl⟩
set_option maxHeartbeats 1000000 in
theorem ror6 (x : UInt32) (w : World) :
    Calls Tryz.prog 205 #[.int .u32 (x.toNat : Int), .int .i64 6] w fun e w' => e = .returned (.int .u32 ((rorW x 6).toNat : Int)) ∧ w = w' := by
  have hx := x.toNat_lt
  go_enter Tryz.func205, Tryz.ntmps205
  go_wp2_with (go_at_call 216; refine (rotl6 x _).mono ?_; rintro e w' ⟨rfl, rfl⟩)
  go_ret
  exact ⟨rfl, rfl⟩
set_option maxHeartbeats 1000000 in
theorem rotl7 (x : UInt32) (w : World) :
    Calls Tryz.prog 216 #[.int .u32 (x.toNat : Int), .int .i64 (-7)] w fun e w' => e = .returned (.int .u32 ((rorW x 7).toNat : Int)) ∧ w = w' := by
  have hx := x.toNat_lt
  have hb : bits BinOp.and IntKind.u64 (IntKind.u64.wrap (-7)) 31 = 25 := by decide
  have ho : bits BinOp.or IntKind.u32 ((x.toNat : Int) * 33554432 % 4294967296) ((x.toNat : Int) / 128) = ((rorW x 7).toNat : Int) := or_ror x 7 33554432 128 (by decide) (by decide)
  go_enter Tryz.func216, Tryz.ntmps216
  go_wp2
  go_ret
  exact ⟨rfl, rfl⟩
set_option maxHeartbeats 1000000 in
theorem ror7 (x : UInt32) (w : World) :
    Calls Tryz.prog 205 #[.int .u32 (x.toNat : Int), .int .i64 7] w fun e w' => e = .returned (.int .u32 ((rorW x 7).toNat : Int)) ∧ w = w' := by
  have hx := x.toNat_lt
  go_enter Tryz.func205, Tryz.ntmps205
  go_wp2_with (go_at_call 216; refine (rotl7 x _).mono ?_; rintro e w' ⟨rfl, rfl⟩)
  go_ret
  exact ⟨rfl, rfl⟩
set_option maxHeartbeats 1000000 in
theorem rotl11 (x : UInt32) (w : World) :
    Calls Tryz.prog 216 #[.int .u32 (x.toNat : Int), .int .i64 (-11)] w fun e w' => e = .returned (.int .u32 ((rorW x 11).toNat : Int)) ∧ w = w' := by
  have hx := x.toNat_lt
  have hb : bits BinOp.and IntKind.u64 (IntKind.u64.wrap (-11)) 31 = 21 := by decide
  have ho : bits BinOp.or IntKind.u32 ((x.toNat : Int) * 2097152 % 4294967296) ((x.toNat : Int) / 2048) = ((rorW x 11).toNat : Int) := or_ror x 11 2097152 2048 (by decide) (by decide)
  go_enter Tryz.func216, Tryz.ntmps216
  go_wp2
  go_ret
  exact ⟨rfl, rfl⟩
set_option maxHeartbeats 1000000 in
theorem ror11 (x : UInt32) (w : World) :
    Calls Tryz.prog 205 #[.int .u32 (x.toNat : Int), .int .i64 11] w fun e w' => e = .returned (.int .u32 ((rorW x 11).toNat : Int)) ∧ w = w' := by
  have hx := x.toNat_lt
  go_enter Tryz.func205, Tryz.ntmps205
  go_wp2_with (go_at_call 216; refine (rotl11 x _).mono ?_; rintro e w' ⟨rfl, rfl⟩)
  go_ret
  exact ⟨rfl, rfl⟩
set_option maxHeartbeats 1000000 in
theorem rotl13 (x : UInt32) (w : World) :
    Calls Tryz.prog 216 #[.int .u32 (x.toNat : Int), .int .i64 (-13)] w fun e w' => e = .returned (.int .u32 ((rorW x 13).toNat : Int)) ∧ w = w' := by
  have hx := x.toNat_lt
  have hb : bits BinOp.and IntKind.u64 (IntKind.u64.wrap (-13)) 31 = 19 := by decide
  have ho : bits BinOp.or IntKind.u32 ((x.toNat : Int) * 524288 % 4294967296) ((x.toNat : Int) / 8192) = ((rorW x 13).toNat : Int) := or_ror x 13 524288 8192 (by decide) (by decide)
  go_enter Tryz.func216, Tryz.ntmps216
  go_wp2
  go_ret
  exact ⟨rfl, rfl⟩
set_option maxHeartbeats 1000000 in
theorem ror13 (x : UInt32) (w : World) :
    Calls Tryz.prog 205 #[.int .u32 (x.toNat : Int), .int .i64 13] w fun e w' => e = .returned (.int .u32 ((rorW x 13).toNat : Int)) ∧ w = w' := by
  have hx := x.toNat_lt
  go_enter Tryz.func205, Tryz.ntmps205
  go_wp2_with (go_at_call 216; refine (rotl13 x _).mono ?_; rintro e w' ⟨rfl, rfl⟩)
  go_ret
  exact ⟨rfl, rfl⟩
set_option maxHeartbeats 1000000 in
theorem rotl17 (x : UInt32) (w : World) :
    Calls Tryz.prog 216 #[.int .u32 (x.toNat : Int), .int .i64 (-17)] w fun e w' => e = .returned (.int .u32 ((rorW x 17).toNat : Int)) ∧ w = w' := by
  have hx := x.toNat_lt
  have hb : bits BinOp.and IntKind.u64 (IntKind.u64.wrap (-17)) 31 = 15 := by decide
  have ho : bits BinOp.or IntKind.u32 ((x.toNat : Int) * 32768 % 4294967296) ((x.toNat : Int) / 131072) = ((rorW x 17).toNat : Int) := or_ror x 17 32768 131072 (by decide) (by decide)
  go_enter Tryz.func216, Tryz.ntmps216
  go_wp2
  go_ret
  exact ⟨rfl, rfl⟩
set_option maxHeartbeats 1000000 in
theorem ror17 (x : UInt32) (w : World) :
    Calls Tryz.prog 205 #[.int .u32 (x.toNat : Int), .int .i64 17] w fun e w' => e = .returned (.int .u32 ((rorW x 17).toNat : Int)) ∧ w = w' := by
  have hx := x.toNat_lt
  go_enter Tryz.func205, Tryz.ntmps205
  go_wp2_with (go_at_call 216; refine (rotl17 x _).mono ?_; rintro e w' ⟨rfl, rfl⟩)
  go_ret
  exact ⟨rfl, rfl⟩
set_option maxHeartbeats 1000000 in
theorem rotl18 (x : UInt32) (w : World) :
    Calls Tryz.prog 216 #[.int .u32 (x.toNat : Int), .int .i64 (-18)] w fun e w' => e = .returned (.int .u32 ((rorW x 18).toNat : Int)) ∧ w = w' := by
  have hx := x.toNat_lt
  have hb : bits BinOp.and IntKind.u64 (IntKind.u64.wrap (-18)) 31 = 14 := by decide
  have ho : bits BinOp.or IntKind.u32 ((x.toNat : Int) * 16384 % 4294967296) ((x.toNat : Int) / 262144) = ((rorW x 18).toNat : Int) := or_ror x 18 16384 262144 (by decide) (by decide)
  go_enter Tryz.func216, Tryz.ntmps216
  go_wp2
  go_ret
  exact ⟨rfl, rfl⟩
set_option maxHeartbeats 1000000 in
theorem ror18 (x : UInt32) (w : World) :
    Calls Tryz.prog 205 #[.int .u32 (x.toNat : Int), .int .i64 18] w fun e w' => e = .returned (.int .u32 ((rorW x 18).toNat : Int)) ∧ w = w' := by
  have hx := x.toNat_lt
  go_enter Tryz.func205, Tryz.ntmps205
  go_wp2_with (go_at_call 216; refine (rotl18 x _).mono ?_; rintro e w' ⟨rfl, rfl⟩)
  go_ret
  exact ⟨rfl, rfl⟩
set_option maxHeartbeats 1000000 in
theorem rotl19 (x : UInt32) (w : World) :
    Calls Tryz.prog 216 #[.int .u32 (x.toNat : Int), .int .i64 (-19)] w fun e w' => e = .returned (.int .u32 ((rorW x 19).toNat : Int)) ∧ w = w' := by
  have hx := x.toNat_lt
  have hb : bits BinOp.and IntKind.u64 (IntKind.u64.wrap (-19)) 31 = 13 := by decide
  have ho : bits BinOp.or IntKind.u32 ((x.toNat : Int) * 8192 % 4294967296) ((x.toNat : Int) / 524288) = ((rorW x 19).toNat : Int) := or_ror x 19 8192 524288 (by decide) (by decide)
  go_enter Tryz.func216, Tryz.ntmps216
  go_wp2
  go_ret
  exact ⟨rfl, rfl⟩
set_option maxHeartbeats 1000000 in
theorem ror19 (x : UInt32) (w : World) :
    Calls Tryz.prog 205 #[.int .u32 (x.toNat : Int), .int .i64 19] w fun e w' => e = .returned (.int .u32 ((rorW x 19).toNat : Int)) ∧ w = w' := by
  have hx := x.toNat_lt
  go_enter Tryz.func205, Tryz.ntmps205
  go_wp2_with (go_at_call 216; refine (rotl19 x _).mono ?_; rintro e w' ⟨rfl, rfl⟩)
  go_ret
  exact ⟨rfl, rfl⟩
set_option maxHeartbeats 1000000 in
theorem rotl22 (x : UInt32) (w : World) :
    Calls Tryz.prog 216 #[.int .u32 (x.toNat : Int), .int .i64 (-22)] w fun e w' => e = .returned (.int .u32 ((rorW x 22).toNat : Int)) ∧ w = w' := by
  have hx := x.toNat_lt
  have hb : bits BinOp.and IntKind.u64 (IntKind.u64.wrap (-22)) 31 = 10 := by decide
  have ho : bits BinOp.or IntKind.u32 ((x.toNat : Int) * 1024 % 4294967296) ((x.toNat : Int) / 4194304) = ((rorW x 22).toNat : Int) := or_ror x 22 1024 4194304 (by decide) (by decide)
  go_enter Tryz.func216, Tryz.ntmps216
  go_wp2
  go_ret
  exact ⟨rfl, rfl⟩
set_option maxHeartbeats 1000000 in
theorem ror22 (x : UInt32) (w : World) :
    Calls Tryz.prog 205 #[.int .u32 (x.toNat : Int), .int .i64 22] w fun e w' => e = .returned (.int .u32 ((rorW x 22).toNat : Int)) ∧ w = w' := by
  have hx := x.toNat_lt
  go_enter Tryz.func205, Tryz.ntmps205
  go_wp2_with (go_at_call 216; refine (rotl22 x _).mono ?_; rintro e w' ⟨rfl, rfl⟩)
  go_ret
  exact ⟨rfl, rfl⟩
set_option maxHeartbeats 1000000 in
theorem rotl25 (x : UInt32) (w : World) :
    Calls Tryz.prog 216 #[.int .u32 (x.toNat : Int), .int .i64 (-25)] w fun e w' => e = .returned (.int .u32 ((rorW x 25).toNat : Int)) ∧ w = w' := by
  have hx := x.toNat_lt
  have hb : bits BinOp.and IntKind.u64 (IntKind.u64.wrap (-25)) 31 = 7 := by decide
  have ho : bits BinOp.or IntKind.u32 ((x.toNat : Int) * 128 % 4294967296) ((x.toNat : Int) / 33554432) = ((rorW x 25).toNat : Int) := or_ror x 25 128 33554432 (by decide) (by decide)
  go_enter Tryz.func216, Tryz.ntmps216
  go_wp2
  go_ret
  exact ⟨rfl, rfl⟩
set_option maxHeartbeats 1000000 in
theorem ror25 (x : UInt32) (w : World) :
    Calls Tryz.prog 205 #[.int .u32 (x.toNat : Int), .int .i64 25] w fun e w' => e = .returned (.int .u32 ((rorW x 25).toNat : Int)) ∧ w = w' := by
  have hx := x.toNat_lt
  go_enter Tryz.func205, Tryz.ntmps205
  go_wp2_with (go_at_call 216; refine (rotl25 x _).mono ?_; rintro e w' ⟨rfl, rfl⟩)
  go_ret
  exact ⟨rfl, rfl⟩
theorem fourL_get (x : UInt32) : (fourL x).map (fun c => Value.int .u8 (c.toNat : Int)) = [.int .u8 ((x.toNat : Int) / 16777216), .int .u8 ((x.toNat : Int) / 65536 % 256), .int .u8 ((x.toNat : Int) / 256 % 256), .int .u8 ((x.toNat : Int) % 256)] := by
  have hx := w_lt x
  simp only [fourL, List.map_cons, List.map_nil, UInt8.toNat_ofNat']
  have e1 : ((x.toNat / 16777216 % 2 ^ 8 : Nat) : Int) = (x.toNat : Int) / 16777216 := by omega
  have e2 : ((x.toNat / 65536 % 2 ^ 8 : Nat) : Int) = (x.toNat : Int) / 65536 % 256 := by omega
  have e3 : ((x.toNat / 256 % 2 ^ 8 : Nat) : Int) = (x.toNat : Int) / 256 % 256 := by omega
  have e4 : ((x.toNat % 2 ^ 8 : Nat) : Int) = (x.toNat : Int) % 256 := by omega
  rw [e1, e2, e3, e4]
theorem conv_row {w : World} {b : Nat} {l : List UInt8} {c : Nat} {T : TypeId} {z : Nat × Nat} (h : w.heap[b]? = some (.cells (l.map (fun c => Value.int .u8 (c.toNat : Int))).toArray T z)) :
    (convert 101 9 (.slice (some ⟨b, 0, none⟩) l.length c)).run Tryz.prog w = .ok (.string ⟨l.toArray⟩) w :=
  run_convert_bytes_back w 101 9 5 _ c l Tryz.underlying101 Tryz.underlying5 Tryz.underlying9 (fun j hj => by
    rw [show (⟨b, 0, none⟩ : Addr).add j = ⟨b, j, none⟩ from by unfold Addr.add; split <;> simp_all, Lib.cell_of_heap h]
    simp [hj])
set_option maxHeartbeats 1000000 in
theorem four_any (x : UInt32) (w : World) :
    Calls Tryz.prog 172 #[.int .u32 (x.toNat : Int)] w fun e w' => e = .returned (.string ⟨(fourL x).toArray⟩) ∧ Below w.heap.size w w' := by
  have hx := x.toNat_lt
  have hc : (convert 101 9 (.slice (some ⟨w.heap.size, 0, none⟩) 4 4)).run Tryz.prog (w.alloc (Obj.cells #[.int .u8 ((x.toNat : Int) / 16777216), .int .u8 ((x.toNat : Int) / 65536 % 256), .int .u8 ((x.toNat : Int) / 256 % 256), .int .u8 ((x.toNat : Int) % 256)] 5)) = .ok (.string ⟨(fourL x).toArray⟩) _ :=
    conv_row (l := fourL x) (c := 4) (b := w.heap.size) (by rw [fourL_get]; exact Go.heap_alloc_new w _)
  go_enter Tryz.func172, Tryz.ntmps172
  go_wp2
  go_ret
  exact ⟨rfl, (Below.refl _ _).alloc (Nat.le_refl _) _⟩
end Go.Proofs.YtpggkfdijmnmiaaGreat.Hs
