/- The point of bytes, and the bytes of points. No condition but the length of the bytes. -/
import Derived.Test.YtglmmodkflkkkaaCn
set_option linter.unusedVariables false
set_option linter.unusedSimpArgs false
set_option maxRecDepth 100000
namespace Go.Proofs.Ytglmmodkflkkkaa
open Go.RowKit Go.Sort Limbs

theorem toList_ba (s : List UInt8) : (⟨s.toArray⟩ : ByteArray).toList = s := by rw [ByteArray.toList_eq]
def xOf (s : List UInt8) : Nat := bv ((s.drop 1).take 32)
def yOf (s : List UInt8) : Nat := bv (s.drop 33)
/-- the point whose bytes they are -/
def Po.of (s : List UInt8) : Option Po :=
  if s = [0] then some ⟨0, 0, true⟩
  else if s.length = 65 ∧ s.take 1 = [4] ∧ xOf s < mP ∧ yOf s < mP ∧ (Po.mk (xOf s) (yOf s) false).on = true then some ⟨xOf s, yOf s, false⟩ else none
def Po.ret : Option Po → Value
  | some p => .tuple #[p.v, .int .i64 0]
  | none => .tuple #[pn 0 0 false, .int .i64 71]
theorem of_j (s : List UInt8) (h32 : s.length = 32) : ∀ w, Calls Try.prog 31 #[.int .i64 0, .string ⟨s.toArray⟩] w fun e w' => e = .returned (.tuple #[nv (if bv s < mP then bv s else 0), .int .i64 (if bv s < mP then 0 else 60)]) ∧ Below w.heap.size w w' := by
  have h := of_any 0 s (by omega)
  rw [md0] at h
  by_cases hb : bv s < mP
  · rw [if_pos ⟨h32, hb⟩] at h
    rw [if_pos hb, if_pos hb]
    exact h
  · rw [if_neg (fun h => hb h.2)] at h
    rw [if_neg hb, if_neg hb]
    exact h
theorem of_c (s : List UInt8) (hs : s.length ≤ 140737488351232) (w : World) : Calls Try.prog 38 #[.string ⟨s.toArray⟩] w fun e w' => e = .returned (Po.ret (Po.of s)) ∧ Below w.heap.size w w' := by
  by_cases h0 : s = [0]
  · subst h0
    exact of_far w
  have f0 : ((⟨s.toArray⟩ : ByteArray).toList == [0]) = false := by rw [toList_ba]; simpa using h0
  have hsz : (⟨s.toArray⟩ : ByteArray).size = s.length := by simp [ByteArray.size]
  unfold Po.of
  rw [if_neg h0]
  by_cases h1 : s.length = 65
  · have e0 : (⟨s.toArray⟩ : ByteArray).extract 0 1 = ⟨(s.take 1).toArray⟩ := by
      have := ext_ba s 0 1
      simpa using this
    by_cases h2 : s.take 1 = [4]
    · have e1 : (⟨s.toArray⟩ : ByteArray).extract 1 65 = ⟨(s.drop 1).toArray⟩ := by
        have := ext_ba s 1 64
        rw [List.take_of_length_le (by rw [List.length_drop]; omega)] at this
        exact this
      have hsT : (⟨(s.drop 1).toArray⟩ : ByteArray).size = 64 := by simp [ByteArray.size]; omega
      have e2 : (⟨(s.drop 1).toArray⟩ : ByteArray).extract 0 32 = ⟨((s.drop 1).take 32).toArray⟩ := by
        have := ext_ba (s.drop 1) 0 32
        simpa using this
      have e3 : (⟨(s.drop 1).toArray⟩ : ByteArray).extract 32 64 = ⟨(s.drop 33).toArray⟩ := by
        have := ext_ba (s.drop 1) 32 32
        rw [List.drop_drop, List.take_of_length_le (by rw [List.length_drop]; omega)] at this
        exact this
      have HX := Lib.hid (of_j ((s.drop 1).take 32) (by rw [List.length_take, List.length_drop]; omega))
      have HY := Lib.hid (of_j (s.drop 33) (by rw [List.length_drop]; omega))
      have f2 : (((⟨s.toArray⟩ : ByteArray).extract 0 1).toList == [4]) = true := by rw [e0, toList_ba, h2]; rfl
      by_cases hx : xOf s < mP
      · by_cases hy : yOf s < mP
        · unfold xOf at hx
          unfold yOf at hy
          rw [if_pos hx, if_pos hx] at HX
          rw [if_pos hy, if_pos hy] at HY
          have := of_on _ _ _ _ _ _ f0 (by rw [hsz, h1]) f2 e1 hsT e2 e3 HX HY (Nat.lt_trans hx (by decide +kernel)) (Nat.lt_trans hy (by decide +kernel)) w
          refine this.mono fun e w' h => ⟨?_, h.2⟩
          rw [h.1]
          unfold xOf yOf
          by_cases hon : (Po.mk (bv ((s.drop 1).take 32)) (bv (s.drop 33)) false).on = true
          · rw [if_pos hon, if_pos ⟨h1, h2, hx, hy, hon⟩]; rfl
          · rw [if_neg hon, if_neg (fun h => hon h.2.2.2.2)]; rfl
        · rw [if_neg (fun h => hy h.2.2.2.1)]
          unfold xOf at hx
          unfold yOf at hy
          rw [if_pos hx, if_pos hx] at HX
          rw [if_neg hy, if_neg hy] at HY
          exact of_bad _ _ _ _ _ _ _ _ f0 (by rw [hsz, h1]) f2 e1 hsT e2 e3 HX HY (Or.inr ⟨by decide, by decide⟩) w
      · rw [if_neg (fun h => hx h.2.2.1)]
        unfold xOf at hx
        rw [if_neg hx, if_neg hx] at HX
        exact of_bad _ _ _ _ _ _ _ _ f0 (by rw [hsz, h1]) f2 e1 hsT e2 e3 HX HY (Or.inl (by decide)) w
    · rw [if_neg (fun h => h2 h.2.1)]
      exact of_head _ f0 (by rw [hsz, h1]) (by rw [e0, toList_ba]; simpa using h2) w
  · rw [if_neg (fun h => h1 h.1)]
    exact of_len _ f0 (by rw [hsz]; simp; omega) w
theorem on_lt {x y : Nat} (h : (Po.mk x y false).on = true) : x < mP ∧ y < mP := by
  have e : (Po.mk x y false).on = decide (x < mP ∧ y < mP ∧ mj y y = rightN x) := rfl
  rw [e] at h
  have := of_decide_eq_true h
  exact ⟨this.1, this.2.1⟩
theorem on_far {x y : Nat} (h : (Po.mk x y true).on = true) : x = 0 ∧ y = 0 := by
  have e : (Po.mk x y true).on = decide (x = 0 ∧ y = 0) := rfl
  rw [e] at h
  exact of_decide_eq_true h
/-- a point is read from its bytes as what it was -/
theorem of_bytes {p : Po} (h : p.on = true) : Po.of p.bytes = some p := by
  obtain ⟨x, y, i⟩ := p
  cases i
  · obtain ⟨hx, hy⟩ := on_lt h
    have hxW : x < W256 := Nat.lt_trans hx (by decide +kernel)
    have hyW : y < W256 := Nat.lt_trans hy (by decide +kernel)
    have e : (Po.mk x y false).bytes = 4 :: (nb x ++ nb y) := rfl
    rw [e]
    have ex : xOf (4 :: (nb x ++ nb y)) = x := by
      unfold xOf
      rw [List.drop_succ_cons, List.drop_zero, List.take_append_of_le_length (by rw [nb_length]; omega), List.take_of_length_le (by rw [nb_length]; omega)]
      exact nb_val hxW
    have ey : yOf (4 :: (nb x ++ nb y)) = y := by
      unfold yOf
      rw [List.drop_succ_cons, show 32 = (nb x).length by rw [nb_length], List.drop_left]
      exact nb_val hyW
    unfold Po.of
    rw [if_neg (by simp), ex, ey, if_pos ⟨by simp [nb_length], by simp, hx, hy, h⟩]
  · obtain ⟨rfl, rfl⟩ := on_far h
    rfl
/-- what is read is told by the same bytes -/
theorem bytes_of {s : List UInt8} {p : Po} (h : Po.of s = some p) : p.on = true ∧ p.bytes = s ∧ p.ok := by
  unfold Po.of at h
  by_cases h0 : s = [0]
  · rw [if_pos h0] at h
    injection h with h
    subst h
    subst h0
    exact ⟨by decide, rfl, by decide, by decide⟩
  · rw [if_neg h0] at h
    by_cases hc : s.length = 65 ∧ s.take 1 = [4] ∧ xOf s < mP ∧ yOf s < mP ∧ (Po.mk (xOf s) (yOf s) false).on = true
    · rw [if_pos hc] at h
      injection h with h
      subst h
      obtain ⟨h1, h2, hx, hy, hon⟩ := hc
      refine ⟨hon, ?_, Nat.lt_trans hx (by decide +kernel), Nat.lt_trans hy (by decide +kernel)⟩
      have e : (Po.mk (xOf s) (yOf s) false).bytes = 4 :: (nb (xOf s) ++ nb (yOf s)) := rfl
      rw [e]
      have hl1 : ((s.drop 1).take 32).length = 32 := by rw [List.length_take, List.length_drop]; omega
      have hl2 : (s.drop 33).length = 32 := by rw [List.length_drop]; omega
      have b1 : nb (xOf s) = (s.drop 1).take 32 := bv_inj _ _ (by rw [nb_length, hl1]) (by rw [nb_val (Nat.lt_trans hx (by decide +kernel))]; rfl)
      have b2 : nb (yOf s) = s.drop 33 := bv_inj _ _ (by rw [nb_length, hl2]) (by rw [nb_val (Nat.lt_trans hy (by decide +kernel))]; rfl)
      rw [b1, b2]
      have h3 : s.drop 33 = (s.drop 1).drop 32 := by rw [List.drop_drop]
      rw [h3, List.take_append_drop]
      have h4 := List.take_append_drop 1 s
      rw [h2] at h4
      exact h4
    · rw [if_neg hc] at h
      cases h
end Go.Proofs.Ytglmmodkflkkkaa
