/- Base sixteen, base64url and percent signs go there and back: what is written is read as what it was, and what base sixteen and base64url take is written again byte by byte. No condition. -/
import Derived.Test.YtlifnfchemiipaaDoorJ
import Derived.Test.YtlifnfchemiipaaDoorM
namespace Go.Proofs.YtlifnfchemiipaaDoor

theorem hex_one (c : UInt8) : ¬ (dg (lowD.getD (c.toNat / 16) 0) false < 0 ∨ dg (lowD.getD (c.toNat % 16) 0) false < 0) ∧ UInt8.ofNat (16 * dg (lowD.getD (c.toNat / 16) 0) false + dg (lowD.getD (c.toNat % 16) 0) false).toNat = c :=
  all_u8 (p := fun c => ¬ (dg (lowD.getD (c.toNat / 16) 0) false < 0 ∨ dg (lowD.getD (c.toNat % 16) 0) false < 0) ∧ UInt8.ofNat (16 * dg (lowD.getD (c.toNat / 16) 0) false + dg (lowD.getD (c.toNat % 16) 0) false).toNat = c) (by decide +kernel) c
theorem unhex_hex : ∀ l : List UInt8, unhexL (hexL l) = some l
  | [] => rfl
  | c :: l => by
    have e : hexL (c :: l) = lowD.getD (c.toNat / 16) 0 :: lowD.getD (c.toNat % 16) 0 :: hexL l := rfl
    rw [e, unhexL, if_neg (hex_one c).1, unhex_hex l, (hex_one c).2]; rfl
theorem low_dg (a : UInt8) : ¬ dg a false < 0 → lowD.getD (dg a false).toNat 0 = a := all_u8 (p := fun a => ¬ dg a false < 0 → lowD.getD (dg a false).toNat 0 = a) (by decide +kernel) a
theorem hex_unhex : ∀ (t l : List UInt8), unhexL t = some l → hexL l = t
  | [], l, h => by
    rw [unhexL] at h; injection h with h; subst h; rfl
  | [_], l, h => by rw [unhexL] at h; cases h
  | a :: b :: r, l, h => by
    rw [unhexL] at h
    by_cases hd : dg a false < 0 ∨ dg b false < 0
    · rw [if_pos hd] at h; cases h
    · rw [if_neg hd] at h
      cases hr : unhexL r with
      | none => rw [hr] at h; cases h
      | some l' =>
        rw [hr] at h
        injection h with h
        subst h
        have ih := hex_unhex r l' hr
        have ba := dg_bd a false
        have bb := dg_bd b false
        have la := low_dg a (by omega)
        have lb := low_dg b (by omega)
        generalize dg a false = x at *
        generalize dg b false = y at *
        have e : hexL (UInt8.ofNat (16 * x + y).toNat :: l') = lowD.getD ((UInt8.ofNat (16 * x + y).toNat).toNat / 16) 0 :: lowD.getD ((UInt8.ofNat (16 * x + y).toNat).toNat % 16) 0 :: hexL l' := rfl
        have e1 : (UInt8.ofNat (16 * x + y).toNat).toNat = 16 * x.toNat + y.toNat := by simp; omega
        have e2 : (16 * x.toNat + y.toNat) / 16 = x.toNat := by omega
        have e3 : (16 * x.toNat + y.toNat) % 16 = y.toNat := by omega
        show hexL (UInt8.ofNat (16 * x + y).toNat :: l') = _
        rw [e, e1, e2, e3, la, lb, ih]

theorem pl_six' : ∀ n, n < 64 → pl (six n) = (n : Int) := by decide +kernel
theorem six_pl' (c : UInt8) : ¬ pl c < 0 → six (pl c).toNat = c := all_u8 (p := fun c => ¬ pl c < 0 → six (pl c).toNat = c) (by decide +kernel) c

def B1 (v1 v2 : Nat) : UInt8 := UInt8.ofNat ((v1 * 64 + v2) / 16)
def B2 (v2 v3 : Nat) : UInt8 := UInt8.ofNat ((v2 % 16 * 64 + v3) / 4)
def B3 (v3 v4 : Nat) : UInt8 := UInt8.ofNat (v3 % 4 * 64 + v4)
theorem m16 (a b : Nat) : (a * 64 + b) % 16 = b % 16 := by omega
theorem m4 (a b : Nat) : (a % 16 * 64 + b) % 4 = b % 4 := by omega
theorem dec_step (rest bits : Nat) (c : UInt8) (r : List UInt8) (h : ¬ pl c < 0) (hb : 2 ≤ bits) : dec rest bits (c :: r) = (dec ((rest * 64 + (pl c).toNat) % 2 ^ (bits - 2)) (bits - 2) r).map (UInt8.ofNat ((rest * 64 + (pl c).toNat) / 2 ^ (bits - 2)) :: ·) := by
  rw [dec, if_neg h, if_pos hb]
theorem dec_first (c : UInt8) (r : List UInt8) (h : ¬ pl c < 0) : dec 0 0 (c :: r) = dec (pl c).toNat 6 r := by
  rw [dec, if_neg h, if_neg (by omega), Nat.zero_mul, Nat.zero_add]
theorem dec_bad (rest bits : Nat) (c : UInt8) (r : List UInt8) (h : pl c < 0) : dec rest bits (c :: r) = none := by rw [dec, if_pos h]
theorem dec4 (a b c d : UInt8) (r : List UInt8) (ha : ¬ pl a < 0) (hb : ¬ pl b < 0) (hc : ¬ pl c < 0) (hd : ¬ pl d < 0) :
    dec 0 0 (a :: b :: c :: d :: r) = (dec 0 0 r).map fun l => B1 (pl a).toNat (pl b).toNat :: B2 (pl b).toNat (pl c).toNat :: B3 (pl c).toNat (pl d).toNat :: l := by
  rw [dec_first a _ ha, dec_step _ _ b _ hb (by omega), dec_step _ _ c _ hc (by omega), dec_step _ _ d _ hd (by omega)]
  show Option.map _ (Option.map _ (Option.map _ (dec (_ % 1) 0 r))) = _
  rw [Nat.mod_one]
  simp only [Option.map_map]
  congr 1
  funext l
  show UInt8.ofNat (_ / 16) :: UInt8.ofNat (_ / 4) :: UInt8.ofNat (_ / 1) :: l = _
  rw [Nat.div_one]
  show UInt8.ofNat (((pl a).toNat * 64 + (pl b).toNat) / 16) :: UInt8.ofNat ((((pl a).toNat * 64 + (pl b).toNat) % 16 * 64 + (pl c).toNat) / 4) :: UInt8.ofNat ((((pl a).toNat * 64 + (pl b).toNat) % 16 * 64 + (pl c).toNat) % 4 * 64 + (pl d).toNat) :: l = _
  rw [m16, m4]
  rfl
theorem dec3 (a b c : UInt8) (ha : ¬ pl a < 0) (hb : ¬ pl b < 0) (hc : ¬ pl c < 0) : dec 0 0 [a, b, c] = if (pl c).toNat % 4 = 0 then some [B1 (pl a).toNat (pl b).toNat, B2 (pl b).toNat (pl c).toNat] else none := by
  rw [dec_first a _ ha, dec_step _ _ b _ hb (by omega), dec_step _ _ c _ hc (by omega)]
  show Option.map _ (Option.map _ (dec ((((pl a).toNat * 64 + (pl b).toNat) % 16 * 64 + (pl c).toNat) % 4) 2 [])) = _
  rw [m16, m4, dec]
  by_cases h : (pl c).toNat % 4 = 0
  · rw [if_neg (by omega), if_pos h]; rfl
  · rw [if_pos (by omega), if_neg h]; rfl
theorem dec2 (a b : UInt8) (ha : ¬ pl a < 0) (hb : ¬ pl b < 0) : dec 0 0 [a, b] = if (pl b).toNat % 16 = 0 then some [B1 (pl a).toNat (pl b).toNat] else none := by
  rw [dec_first a _ ha, dec_step _ _ b _ hb (by omega)]
  show Option.map _ (dec (((pl a).toNat * 64 + (pl b).toNat) % 16) 4 []) = _
  rw [m16, dec]
  by_cases h : (pl b).toNat % 16 = 0
  · rw [if_neg (by omega), if_pos h]; rfl
  · rw [if_pos (by omega), if_neg h]; rfl
theorem dec1 (a : UInt8) (ha : ¬ pl a < 0) : dec 0 0 [a] = none := by
  rw [dec_first a _ ha, dec, if_pos (.inl rfl)]

theorem six_ok (n : Nat) (h : n < 64) : ¬ pl (six n) < 0 ∧ (pl (six n)).toNat = n := by
  rw [pl_six' n h]; omega
theorem b1_enc (a b : UInt8) : B1 (a.toNat / 4) (a.toNat % 4 * 16 + b.toNat / 16) = a := by
  have := a.toNat_lt
  have := b.toNat_lt
  rw [B1, show (a.toNat / 4 * 64 + (a.toNat % 4 * 16 + b.toNat / 16)) / 16 = a.toNat by omega]; simp
theorem b1_enc' (a : UInt8) : B1 (a.toNat / 4) (a.toNat % 4 * 16) = a := by
  have := a.toNat_lt
  rw [B1, show (a.toNat / 4 * 64 + (a.toNat % 4 * 16)) / 16 = a.toNat by omega]; simp
theorem b2_enc (a b c : UInt8) : B2 (a.toNat % 4 * 16 + b.toNat / 16) (b.toNat % 16 * 4 + c.toNat / 64) = b := by
  have := b.toNat_lt
  have := c.toNat_lt
  rw [B2, show ((a.toNat % 4 * 16 + b.toNat / 16) % 16 * 64 + (b.toNat % 16 * 4 + c.toNat / 64)) / 4 = b.toNat by omega]; simp
theorem b2_enc' (a b : UInt8) : B2 (a.toNat % 4 * 16 + b.toNat / 16) (b.toNat % 16 * 4) = b := by
  have := b.toNat_lt
  rw [B2, show ((a.toNat % 4 * 16 + b.toNat / 16) % 16 * 64 + (b.toNat % 16 * 4)) / 4 = b.toNat by omega]; simp
theorem b3_enc (b c : UInt8) : B3 (b.toNat % 16 * 4 + c.toNat / 64) (c.toNat % 64) = c := by
  have := c.toNat_lt
  rw [B3, show (b.toNat % 16 * 4 + c.toNat / 64) % 4 * 64 + c.toNat % 64 = c.toNat by omega]; simp
theorem dec_enc : ∀ l : List UInt8, unb64L (b64L l) = some l
  | [] => rfl
  | [a] => by
    have ha := a.toNat_lt
    have k1 := six_ok (a.toNat / 4) (by omega)
    have k2 := six_ok (a.toNat % 4 * 16) (by omega)
    rw [unb64L, b64L, enc1, dec2 _ _ k1.1 k2.1, k1.2, k2.2, if_pos (by omega), b1_enc']
  | [a, b] => by
    have ha := a.toNat_lt
    have hb := b.toNat_lt
    have k1 := six_ok (a.toNat / 4) (by omega)
    have k2 := six_ok (a.toNat % 4 * 16 + b.toNat / 16) (by omega)
    have k3 := six_ok (b.toNat % 16 * 4) (by omega)
    rw [unb64L, b64L, enc2, dec3 _ _ _ k1.1 k2.1 k3.1, k1.2, k2.2, k3.2, if_pos (by omega), b1_enc, b2_enc']
  | a :: b :: c :: l => by
    have ih := dec_enc l
    rw [unb64L, b64L] at ih
    have ha := a.toNat_lt
    have hb := b.toNat_lt
    have hc := c.toNat_lt
    have k1 := six_ok (a.toNat / 4) (by omega)
    have k2 := six_ok (a.toNat % 4 * 16 + b.toNat / 16) (by omega)
    have k3 := six_ok (b.toNat % 16 * 4 + c.toNat / 64) (by omega)
    have k4 := six_ok (c.toNat % 64) (by omega)
    rw [unb64L, b64L, enc3, dec4 _ _ _ _ _ k1.1 k2.1 k3.1 k4.1, k1.2, k2.2, k3.2, k4.2, ih, b1_enc, b2_enc, b3_enc]; rfl

theorem dec_none : ∀ (t : List UInt8) (rest bits : Nat), (∃ c, c ∈ t ∧ pl c < 0) → dec rest bits t = none
  | [], _, _, ⟨c, hc, _⟩ => by cases hc
  | a :: t, rest, bits, ⟨c, hc, h⟩ => by
    by_cases ha : pl a < 0
    · exact dec_bad _ _ _ _ ha
    · have hct : c ∈ t := by
        rcases List.mem_cons.1 hc with e | e
        · subst e; exact absurd h ha
        · exact e
      rw [dec, if_neg ha]
      split
      · rw [dec_none t _ _ ⟨c, hct, h⟩]; rfl
      · exact dec_none t _ _ ⟨c, hct, h⟩
theorem ofNat_val (n : Nat) (h : n < 256) : (UInt8.ofNat n).toNat = n := by simp; omega
theorem b1_val (v1 v2 : Nat) (h1 : v1 < 64) (h2 : v2 < 64) : (B1 v1 v2).toNat = v1 * 4 + v2 / 16 := by
  rw [B1, ofNat_val _ (by omega)]; omega
theorem b2_val (v2 v3 : Nat) (h3 : v3 < 64) : (B2 v2 v3).toNat = v2 % 16 * 16 + v3 / 4 := by
  rw [B2, ofNat_val _ (by omega)]; omega
theorem b3_val (v3 v4 : Nat) (h4 : v4 < 64) : (B3 v3 v4).toNat = v3 % 4 * 64 + v4 := by
  rw [B3, ofNat_val _ (by omega)]
theorem pl64 (c : UInt8) (h : ¬ pl c < 0) : (pl c).toNat < 64 := by have := pl_bd c; omega
theorem enc_dec : ∀ (t l : List UInt8), unb64L t = some l → b64L l = t
  | [], l, h => by
    have h' : some ([] : List UInt8) = some l := h
    injection h' with h'; subst h'; rfl
  | [a], l, h => by
    rw [unb64L] at h
    by_cases ha : pl a < 0
    · rw [dec_bad _ _ _ _ ha] at h; cases h
    · rw [dec1 a ha] at h; cases h
  | [a, b], l, h => by
    rw [unb64L] at h
    by_cases hbad : ∃ c, c ∈ [a, b] ∧ pl c < 0
    · rw [dec_none _ _ _ hbad] at h; cases h
    · have ha : ¬ pl a < 0 := fun e => hbad ⟨a, by simp, e⟩
      have hb : ¬ pl b < 0 := fun e => hbad ⟨b, by simp, e⟩
      rw [dec2 a b ha hb] at h
      have la := pl64 a ha
      have lb := pl64 b hb
      by_cases h0 : (pl b).toNat % 16 = 0
      · rw [if_pos h0] at h
        injection h with h
        subst h
        rw [b64L, enc1, b1_val _ _ la lb, show ((pl a).toNat * 4 + (pl b).toNat / 16) / 4 = (pl a).toNat by omega, show ((pl a).toNat * 4 + (pl b).toNat / 16) % 4 * 16 = (pl b).toNat by omega, six_pl' a ha, six_pl' b hb]
      · rw [if_neg h0] at h; cases h
  | [a, b, c], l, h => by
    rw [unb64L] at h
    by_cases hbad : ∃ d, d ∈ [a, b, c] ∧ pl d < 0
    · rw [dec_none _ _ _ hbad] at h; cases h
    · have ha : ¬ pl a < 0 := fun e => hbad ⟨a, by simp, e⟩
      have hb : ¬ pl b < 0 := fun e => hbad ⟨b, by simp, e⟩
      have hc : ¬ pl c < 0 := fun e => hbad ⟨c, by simp, e⟩
      rw [dec3 a b c ha hb hc] at h
      have la := pl64 a ha
      have lb := pl64 b hb
      have lc := pl64 c hc
      by_cases h0 : (pl c).toNat % 4 = 0
      · rw [if_pos h0] at h
        injection h with h
        subst h
        rw [b64L, enc2, b1_val _ _ la lb, b2_val _ _ lc, show ((pl a).toNat * 4 + (pl b).toNat / 16) / 4 = (pl a).toNat by omega, show ((pl a).toNat * 4 + (pl b).toNat / 16) % 4 * 16 + ((pl b).toNat % 16 * 16 + (pl c).toNat / 4) / 16 = (pl b).toNat by omega, show ((pl b).toNat % 16 * 16 + (pl c).toNat / 4) % 16 * 4 = (pl c).toNat by omega, six_pl' a ha, six_pl' b hb, six_pl' c hc]
      · rw [if_neg h0] at h; cases h
  | a :: b :: c :: d :: t, l, h => by
    rw [unb64L] at h
    by_cases hbad : ∃ e, e ∈ a :: b :: c :: d :: t ∧ pl e < 0
    · rw [dec_none _ _ _ hbad] at h; cases h
    · have ha : ¬ pl a < 0 := fun e => hbad ⟨a, by simp, e⟩
      have hb : ¬ pl b < 0 := fun e => hbad ⟨b, by simp, e⟩
      have hc : ¬ pl c < 0 := fun e => hbad ⟨c, by simp, e⟩
      have hd : ¬ pl d < 0 := fun e => hbad ⟨d, by simp, e⟩
      rw [dec4 a b c d t ha hb hc hd] at h
      have la := pl64 a ha
      have lb := pl64 b hb
      have lc := pl64 c hc
      have ld := pl64 d hd
      cases hr : dec 0 0 t with
      | none => rw [hr] at h; cases h
      | some l' =>
        rw [hr] at h
        injection h with h
        subst h
        have ih := enc_dec t l' hr
        rw [b64L] at ih
        rw [b64L, enc3, ih, b1_val _ _ la lb, b2_val _ _ lc, b3_val _ _ ld, show ((pl a).toNat * 4 + (pl b).toNat / 16) / 4 = (pl a).toNat by omega, show ((pl a).toNat * 4 + (pl b).toNat / 16) % 4 * 16 + ((pl b).toNat % 16 * 16 + (pl c).toNat / 4) / 16 = (pl b).toNat by omega, show ((pl b).toNat % 16 * 16 + (pl c).toNat / 4) % 16 * 4 + ((pl c).toNat % 4 * 64 + (pl d).toNat) / 64 = (pl c).toNat by omega, show ((pl c).toNat % 4 * 64 + (pl d).toNat) % 64 = (pl d).toNat by omega, six_pl' a ha, six_pl' b hb, six_pl' c hc, six_pl' d hd]

/-- percent signs, and a form's words, are read as what they were -/
theorem high_dg : ∀ n, n < 16 → dg (highD.getD n 0) true = (n : Int) := by decide +kernel
theorem unpct_one (c : UInt8) (r : List UInt8) : unpctL (pctOne c ++ r) = (unpctL r).map (c :: ·) := by
  have h8 := c.toNat_lt
  by_cases hp : plainB c = true
  · rw [pctOne, if_pos hp, List.singleton_append, unpctL_self c r (plain_pct c hp).1]
  · rw [pctOne, if_neg hp]
    have h1 := high_dg (c.toNat / 16) (by omega)
    have h2 := high_dg (c.toNat % 16) (by omega)
    show unpctL (37 :: highD.getD (c.toNat / 16) 0 :: highD.getD (c.toNat % 16) 0 :: r) = _
    rw [unpctL_good _ _ _ (by rw [h1, h2]; omega), h1, h2, show (16 * ((c.toNat / 16 : Nat) : Int) + ((c.toNat % 16 : Nat) : Int)).toNat = c.toNat by omega]
    simp
theorem unpct_pct : ∀ l : List UInt8, unpctL (pctL l) = some l
  | [] => rfl
  | c :: l => by
    have e : pctL (c :: l) = pctOne c ++ pctL l := by simp [pctL]
    rw [e, unpct_one, unpct_pct l]; rfl
end Go.Proofs.YtlifnfchemiipaaDoor
