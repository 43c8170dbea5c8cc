/- The bytes of which a text is the base64url, by bits and by characters, are one, or both refuse. No condition. -/
import Derived.Test.YtlifnfchemiipaaDoorK
import Derived.Test.YtlifnfchemiipaaDoorW
set_option linter.unusedVariables false
namespace Go.Proofs.YtlifnfchemiipaaDoor

theorem bt_shift (x r : List Nat) (k : Nat) (h : x.length = 24) : bt (x ++ r) (k + 24) = bt r k := by
  rw [bt, bt, List.getD_eq_getElem?_getD, List.getD_eq_getElem?_getD, List.getElem?_append_right (by omega), h, Nat.add_sub_cancel]
theorem byteAt_shift (x r : List Nat) (q : Nat) (h : x.length = 24) : byteAt (x ++ r) (3 + q) = byteAt r q := by
  rw [byteAt, byteAt, show 8 * (3 + q) = 8 * q + 24 by omega, vb_shift (fun k => bt_shift x r k h)]
theorem by8_three (x r : List Nat) (h : x.length = 24) : by8 (x ++ r) = byteAt (x ++ r) 0 :: byteAt (x ++ r) 1 :: byteAt (x ++ r) 2 :: by8 r := by
  rw [by8, List.length_append, h, show (24 + r.length) / 8 = 3 + r.length / 8 by omega, List.range_add, List.map_append, List.map_map]
  have e2 : (byteAt (x ++ r) ∘ fun q => 3 + q) = byteAt r := by funext q; exact byteAt_shift x r q h
  rw [e2]; rfl
theorem bitsL_six (v : Nat) (h : v < 64) (r : List UInt8) : bitsL (six v :: r) = b6 v ++ bitsL r := by
  show b6 (pl (six v)).toNat ++ bitsL r = _
  rw [(six_ok v h).2]
theorem sum6 (v : Nat) (h : v < 64) : v / 32 % 2 * 32 + v / 16 % 2 * 16 + v / 8 % 2 * 8 + v / 4 % 2 * 4 + v / 2 % 2 * 2 + v % 2 = v := by omega
theorem sum2 (v : Nat) (h : v < 64) : v / 32 % 2 * 2 + v / 16 % 2 = v / 16 := by omega
theorem sum4 (v : Nat) (h : v < 64) : v / 32 % 2 * 8 + v / 16 % 2 * 4 + v / 8 % 2 * 2 + v / 4 % 2 = v / 4 := by omega
theorem low4 (v : Nat) : v / 8 % 2 * 8 + v / 4 % 2 * 4 + v / 2 % 2 * 2 + v % 2 = v % 16 := by omega
theorem low2 (v : Nat) : v / 2 % 2 * 2 + v % 2 = v % 4 := by omega
theorem byte0 (v1 v2 : Nat) (r : List Nat) (h1 : v1 < 64) (h2 : v2 < 64) : vb (bt (b6 v1 ++ (b6 v2 ++ r))) 0 8 = v1 * 4 + v2 / 16 := by
  have a := sum6 v1 h1
  have b := sum2 v2 h2
  show 2 * (2 * (2 * (2 * (2 * (2 * (2 * (2 * 0 + v1 / 32 % 2) + v1 / 16 % 2) + v1 / 8 % 2) + v1 / 4 % 2) + v1 / 2 % 2) + v1 % 2) + v2 / 32 % 2) + v2 / 16 % 2 = _
  omega
theorem byte1 (v1 v2 v3 : Nat) (r : List Nat) (h2 : v2 < 64) (h3 : v3 < 64) : vb (bt (b6 v1 ++ (b6 v2 ++ (b6 v3 ++ r)))) 8 8 = v2 % 16 * 16 + v3 / 4 := by
  have a := low4 v2
  have b := sum4 v3 h3
  show 2 * (2 * (2 * (2 * (2 * (2 * (2 * (2 * 0 + v2 / 8 % 2) + v2 / 4 % 2) + v2 / 2 % 2) + v2 % 2) + v3 / 32 % 2) + v3 / 16 % 2) + v3 / 8 % 2) + v3 / 4 % 2 = _
  omega
theorem byte2 (v1 v2 v3 v4 : Nat) (r : List Nat) (h3 : v3 < 64) (h4 : v4 < 64) : vb (bt (b6 v1 ++ (b6 v2 ++ (b6 v3 ++ (b6 v4 ++ r))))) 16 8 = v3 % 4 * 64 + v4 := by
  have a := low2 v3
  have b := sum6 v4 h4
  show 2 * (2 * (2 * (2 * (2 * (2 * (2 * (2 * 0 + v3 / 2 % 2) + v3 % 2) + v4 / 32 % 2) + v4 / 16 % 2) + v4 / 8 % 2) + v4 / 4 % 2) + v4 / 2 % 2) + v4 % 2 = _
  omega
theorem ofNat_self (a : UInt8) (n : Nat) (h : n = a.toNat) : UInt8.ofNat n = a := by subst h; simp
theorem by8_enc : ∀ l : List UInt8, by8 (bitsL (b64L l)) = l
  | [] => rfl
  | [a] => by
    have ha := a.toNat_lt
    rw [b64L, enc1, bitsL_six _ (by omega), bitsL_six _ (by omega)]
    have e : by8 (b6 (a.toNat / 4) ++ (b6 (a.toNat % 4 * 16) ++ bitsL [])) = [byteAt (b6 (a.toNat / 4) ++ (b6 (a.toNat % 4 * 16) ++ bitsL [])) 0] := by rw [by8, show (b6 (a.toNat / 4) ++ (b6 (a.toNat % 4 * 16) ++ bitsL [])).length / 8 = 1 by simp [b6, bitsL]]; rfl
    rw [e, byteAt, show 8 * 0 = 0 from rfl, byte0 _ _ _ (by omega) (by omega), ofNat_self a _ (by omega)]
  | [a, b] => by
    have ha := a.toNat_lt
    have hb := b.toNat_lt
    rw [b64L, enc2, bitsL_six _ (by omega), bitsL_six _ (by omega), bitsL_six _ (by omega)]
    have e : by8 (b6 (a.toNat / 4) ++ (b6 (a.toNat % 4 * 16 + b.toNat / 16) ++ (b6 (b.toNat % 16 * 4) ++ bitsL []))) = [byteAt (b6 (a.toNat / 4) ++ (b6 (a.toNat % 4 * 16 + b.toNat / 16) ++ (b6 (b.toNat % 16 * 4) ++ bitsL []))) 0, byteAt (b6 (a.toNat / 4) ++ (b6 (a.toNat % 4 * 16 + b.toNat / 16) ++ (b6 (b.toNat % 16 * 4) ++ bitsL []))) 1] := by rw [by8, show (b6 (a.toNat / 4) ++ (b6 (a.toNat % 4 * 16 + b.toNat / 16) ++ (b6 (b.toNat % 16 * 4) ++ bitsL []))).length / 8 = 2 by simp [b6, bitsL]]; rfl
    rw [e, byteAt, byteAt, show 8 * 0 = 0 from rfl, show 8 * 1 = 8 from rfl, byte0 _ _ _ (by omega) (by omega), byte1 _ _ _ _ (by omega) (by omega), ofNat_self a _ (by omega), ofNat_self b _ (by omega)]
  | a :: b :: c :: l => by
    have ha := a.toNat_lt
    have hb := b.toNat_lt
    have hc := c.toNat_lt
    have ih := by8_enc l
    rw [b64L] at ih
    rw [b64L, enc3, bitsL_six _ (by omega), bitsL_six _ (by omega), bitsL_six _ (by omega), bitsL_six _ (by omega)]
    have e : b6 (a.toNat / 4) ++ (b6 (a.toNat % 4 * 16 + b.toNat / 16) ++ (b6 (b.toNat % 16 * 4 + c.toNat / 64) ++ (b6 (c.toNat % 64) ++ bitsL (enc 0 0 l)))) = (b6 (a.toNat / 4) ++ (b6 (a.toNat % 4 * 16 + b.toNat / 16) ++ (b6 (b.toNat % 16 * 4 + c.toNat / 64) ++ b6 (c.toNat % 64)))) ++ bitsL (enc 0 0 l) := by simp
    rw [e, by8_three _ _ rfl, ← e, ih, byteAt, byteAt, byteAt, show 8 * 0 = 0 from rfl, show 8 * 1 = 8 from rfl, show 8 * 2 = 16 from rfl, byte0 _ _ _ (by omega) (by omega), byte1 _ _ _ _ (by omega) (by omega), byte2 _ _ _ _ _ (by omega) (by omega), ofNat_self a _ (by omega), ofNat_self b _ (by omega), ofNat_self c _ (by omega)]
theorem runB_eq (t : List UInt8) : runB t = unb64L t := by
  rw [runB]
  by_cases hbad : ∃ c, c ∈ t ∧ pl c < 0
  · rw [if_pos hbad, unb64L, dec_none _ _ _ hbad]
  · rw [if_neg hbad]
    by_cases hy : b64L (by8 (bitsL t)) = t
    · rw [if_pos hy]
      have h := dec_enc (by8 (bitsL t))
      rw [hy] at h
      exact h.symm
    · rw [if_neg hy]
      cases h : unb64L t with
      | none => rfl
      | some l =>
        exfalso
        have h1 := enc_dec t l h
        apply hy
        rw [← h1, by8_enc]
end Go.Proofs.YtlifnfchemiipaaDoor
