/- Rows of digits and the number that they hold: laws of a few words (the reference's side). No condition. -/
import Derived.Test.YtglmmodkflkkkaaFo
set_option linter.unusedVariables false
set_option linter.unusedSimpArgs false
set_option maxRecDepth 100000
namespace Go.Proofs.Ytglmmodkflkkkaa.Ref
open Go.RowKit Go.Proofs.Ytglmmodkflkkkaa.Digits

/-- the number that a row of digits holds -/
def cellN (w : World) (g i : Nat) : Nat := match w.cell? ⟨g, i, none⟩ with
  | some (.int _ x) => x.toNat
  | _ => 0
def sval (w : World) : Value → Nat
  | .slice (some a) n _ => val ((List.range n).map (cellN w a.block))
  | _ => 0
theorem sval_nv {w : World} {v : Value} {n : Nat} (h : NV w v n) : sval w v = n := by
  obtain ⟨r, ⟨g, cap, rfl, _, _, _, hc⟩, _, _, rfl⟩ := h
  unfold sval
  simp only []
  congr 1
  apply List.ext_getElem
  · simp
  · intro i h1 h2
    simp only [List.getElem_map, List.getElem_range]
    have := hc i h2
    unfold cellN
    rw [this]
    simp
theorem cmp_nv (v u : Value) (w : World) (a b : Nat) (h : NV w v a) (k : NV w u b) : Calls Try.prog 33 #[v, u] w fun e w' => e = .returned (.int .i64 (cmpN a b)) ∧ Sm w w' := by
  obtain ⟨r, h1, h2, h3, rfl⟩ := h
  obtain ⟨s, k1, k2, k3, rfl⟩ := k
  exact cmp_any r s h2 k2 v u w h1 k1
theorem odd_nv (v : Value) (w : World) (a : Nat) (h : NV w v a) : Calls Try.prog 62 #[v] w fun e w' => e = .returned (.bool (decide (a % 2 = 1))) ∧ Sm w w' := by
  obtain ⟨r, h1, h2, h3, rfl⟩ := h
  exact odd_any r h2 v w h1
theorem half_nv (v : Value) (w : World) (a : Nat) (ha : a < big) (h : NV w v a) : Calls Try.prog 63 #[v] w fun e w' => ∃ v', e = .returned v' ∧ Nr w w' v' (a / 2) := by
  obtain ⟨r, h1, h2, h3, rfl⟩ := h
  exact half_any r h2 (by have := len_big h3 rfl ha; omega) v w h1
theorem halved_nv (v u : Value) (w : World) (a m : Nat) (ha : a < big) (hm : m < big) (h : NV w v a) (k : NV w u m) : Calls Try.prog 64 #[v, u] w fun e w' => ∃ v', e = .returned v' ∧ Nr w w' v' ((if a % 2 = 1 then a + m else a) / 2) := by
  obtain ⟨r, h1, h2, h3, rfl⟩ := h
  obtain ⟨s, k1, k2, k3, rfl⟩ := k
  exact halved_any r s h2 k2 (by have := len_big h3 rfl ha; omega) (by have := len_big k3 rfl hm; omega) v u w h1 k1
theorem less_nv (v u z : Value) (w : World) (a b m : Nat) (ha : a < big) (hb : b < big) (hm : m < big) (hle : b ≤ a + m) (h : NV w v a) (k : NV w u b) (q : NV w z m) : Calls Try.prog 65 #[v, u, z] w fun e w' => ∃ v', e = .returned v' ∧ Nr w w' v' ((if a < b then a + m else a) - b) := by
  obtain ⟨r, h1, h2, h3, rfl⟩ := h
  obtain ⟨s, k1, k2, k3, rfl⟩ := k
  obtain ⟨t, q1, q2, q3, rfl⟩ := q
  exact less_any r s t h2 k2 q2 (by have := len_big h3 rfl ha; omega) (by have := len_big k3 rfl hb; omega) (by have := len_big q3 rfl hm; omega) hle v u z w h1 k1 q1
theorem nv_one (w : World) : NV (w.alloc (.cells #[.int .u32 1] 75)) (.slice (some ⟨w.heap.size, 0, none⟩) 1 1) 1 :=
  ⟨[1], us_dr (l := [1]) (Go.heap_alloc_new w _) (by decide), by unfold Dig; decide, by unfold Trim; decide, rfl⟩
theorem nv_nil (w : World) : NV (w.alloc (.cells #[] 75)) (.slice (some ⟨w.heap.size, 0, none⟩) 0 0) 0 :=
  ⟨[], us_dr (l := []) (Go.heap_alloc_new w _) (by decide), by unfold Dig; simp, by unfold Trim; simp, rfl⟩
theorem al_below (w : World) (o : Obj) : Below w.heap.size w (w.alloc o) := (Below.refl _ _).alloc (Nat.le_refl _) _
theorem NV.al {w : World} {v : Value} {n : Nat} (h : NV w v n) (o : Obj) : NV (w.alloc o) v n := h.below (al_below w o)
theorem NV.sm {w w' : World} {v : Value} {n : Nat} (h : NV w v n) (s : Sm w w') : NV w' v n := h.below s.below0
theorem cmp_one {a : Nat} : (cmpN a 1 != 0) = decide (a ≠ 1) := by
  unfold cmpN
  by_cases h : a = 1
  · subst h; rfl
  · have e : decide (a ≠ 1) = true := by simpa using h
    rw [e]
    split
    · rfl
    · split
      · rfl
      · omega
theorem cmp_one' {a : Nat} : (cmpN a 1 == 0) = decide (a = 1) := by
  unfold cmpN
  by_cases h : a = 1
  · subst h; rfl
  · have e : decide (a = 1) = false := by simpa using h
    rw [e]
    split
    · rfl
    · split
      · rfl
      · omega
end Go.Proofs.Ytglmmodkflkkkaa.Ref
