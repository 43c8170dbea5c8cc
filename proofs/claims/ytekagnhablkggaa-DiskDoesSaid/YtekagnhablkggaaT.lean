/- New disks in all ways; remainders; rows of two texts compared. Conditions: that the numbers are int64. -/
import Derived.Test.YtekagnhablkggaaS
set_option linter.unusedVariables false
set_option linter.unusedSimpArgs false
set_option maxRecDepth 100000
namespace Go.Proofs.Ytekagnhablkggaa
open Go.RowKit Go.Sort

theorem new_no (v : Value) (l : List ByteArray) (w : World) (h : StrIn w v l) (hn : newE l ≠ 0) :
    Calls Try.prog 7 #[v] w fun e w' => e = .returned (.tuple #[.pointer none, .int .i64 (newE l : Int)]) ∧ w = w' := by
  obtain ⟨a, c, rfl, hl⟩ := h
  by_cases h2 : l.length = 2
  · obtain ⟨x, y, rfl⟩ : ∃ x y, l = [x, y] := by
      match l, h2 with
      | [x, y], _ => exact ⟨x, y, rfl⟩
    obtain ⟨b, o, rfl, hlt, hc⟩ := hl (by simp)
    have h0 := hc 0 (by simp)
    have h1 := hc 1 (by simp)
    have e91 : newE [x, y] = 91 := by
      unfold newE at hn ⊢
      rw [if_neg (by simp)] at hn ⊢
      split at hn
      · exact absurd rfl hn
      · rename_i h; rw [if_neg h]
    rw [e91]
    by_cases hx : 1048576 < x.size
    · exact new_long0 b o c x y w (by simpa using h0) hx
    · by_cases hy : 1048576 < y.size
      · exact new_long1 b o c x y w (by simpa using h0) (by simpa using h1) hx hy
      · exfalso
        unfold newE at e91
        rw [if_neg (by simp), if_pos (by simp [fits]; omega)] at e91
        cases e91
  · have e90 : newE l = 90 := by simp [newE, h2]
    rw [e90]
    exact new_bad a l.length c h2 w
theorem new_yes (v : Value) (l : List ByteArray) (w : World) (h : StrIn w v l) (hn : newE l = 0) :
    ∃ x y, l = [x, y] ∧ x.size ≤ 1048576 ∧ y.size ≤ 1048576 ∧ Calls Try.prog 7 #[v] w fun e w' => ∃ p : Fp, e = .returned (.tuple #[p.v, .int .i64 0]) ∧ Dk w' p (St.new x.data.toList y.data.toList) ∧ Below w.heap.size w w' ∧ ∀ k ∈ p.own, w.heap.size ≤ k := by
  obtain ⟨a, c, rfl, hl⟩ := h
  have h2 : l.length = 2 := by
    unfold newE at hn
    split at hn
    · cases hn
    · rename_i h; simpa using h
  obtain ⟨x, y, rfl⟩ : ∃ x y, l = [x, y] := by
    match l, h2 with
    | [x, y], _ => exact ⟨x, y, rfl⟩
  have hf : fits [x, y] = true := by
    unfold newE at hn
    rw [if_neg (by simp)] at hn
    split at hn
    · assumption
    · cases hn
  simp [fits] at hf
  obtain ⟨b, o, rfl, hlt, hc⟩ := hl (by simp)
  have h0 := hc 0 (by simp)
  have h1 := hc 1 (by simp)
  exact ⟨x, y, rfl, hf.1, hf.2, new_ok b o c x y w hlt (by simpa using h0) (by simpa using h1) (by omega) (by omega)⟩
/-- the document's New -/
theorem rnew_bad (a : Option Addr) (n c : Nat) (hn : n ≠ 2) (w : World) :
    Calls Try.prog 8 #[.slice a n c] w fun e w' => e = .returned (.tuple #[.pointer none, .int .i64 90]) ∧ w = w' := by
  have ht : (((n : Nat) : Int) != 2) = true := by simp; omega
  clear hn
  go_enter Try.func8, Try.ntmps8
  go_wp2_with fail
  go_returns
  exact ⟨rfl, rfl⟩
set_option maxHeartbeats 8000000 in
theorem rnew_long0 (b o c : Nat) (x y : ByteArray) (w : World) (h0 : w.cell? ⟨b, o, none⟩ = some (.string x)) (hx : 1048576 < x.size) :
    Calls Try.prog 8 #[.slice (some ⟨b, o, none⟩) 2 c] w fun e w' => e = .returned (.tuple #[.pointer none, .int .i64 91]) ∧ w = w' := by
  have ht : decide ((1048576 : Int) < (x.size : Int)) = true := by simp; omega
  go_enter Try.func8, Try.ntmps8
  go_wp2_with fail
  go_returns
  exact ⟨rfl, rfl⟩
set_option maxHeartbeats 8000000 in
theorem rnew_long1 (b o c : Nat) (x y : ByteArray) (w : World) (h0 : w.cell? ⟨b, o, none⟩ = some (.string x)) (h1 : w.cell? ⟨b, o + 1, none⟩ = some (.string y)) (hx : ¬ 1048576 < x.size) (hy : 1048576 < y.size) :
    Calls Try.prog 8 #[.slice (some ⟨b, o, none⟩) 2 c] w fun e w' => e = .returned (.tuple #[.pointer none, .int .i64 91]) ∧ w = w' := by
  have ht : decide ((1048576 : Int) < (x.size : Int)) = false := by simp; omega
  have ht2 : decide ((1048576 : Int) < (y.size : Int)) = true := by simp; omega
  go_enter Try.func8, Try.ntmps8
  go_wp2_with fail
  go_returns
  exact ⟨rfl, rfl⟩
theorem rnew_no (v : Value) (l : List ByteArray) (w : World) (h : StrIn w v l) (hn : newE l ≠ 0) :
    Calls Try.prog 8 #[v] w fun e w' => e = .returned (.tuple #[.pointer none, .int .i64 (newE l : Int)]) ∧ w = w' := by
  obtain ⟨a, c, rfl, hl⟩ := h
  by_cases h2 : l.length = 2
  · obtain ⟨x, y, rfl⟩ : ∃ x y, l = [x, y] := by
      match l, h2 with
      | [x, y], _ => exact ⟨x, y, rfl⟩
    obtain ⟨b, o, rfl, hlt, hc⟩ := hl (by simp)
    have h0 := hc 0 (by simp)
    have h1 := hc 1 (by simp)
    have e91 : newE [x, y] = 91 := by
      unfold newE at hn ⊢
      rw [if_neg (by simp)] at hn ⊢
      split at hn
      · exact absurd rfl hn
      · rename_i h; rw [if_neg h]
    rw [e91]
    by_cases hx : 1048576 < x.size
    · exact rnew_long0 b o c x y w (by simpa using h0) hx
    · by_cases hy : 1048576 < y.size
      · exact rnew_long1 b o c x y w (by simpa using h0) (by simpa using h1) hx hy
      · exfalso
        unfold newE at e91
        rw [if_neg (by simp), if_pos (by simp [fits]; omega)] at e91
        cases e91
  · have e90 : newE l = 90 := by simp [newE, h2]
    rw [e90]
    exact rnew_bad a l.length c h2 w
theorem tmod_emod (n m : Int) (hm : 0 < m) : n % m = if n.tmod m < 0 then n.tmod m + m else n.tmod m := by
  have h1 := Int.emod_nonneg n (show m ≠ 0 by omega)
  have h2 := Int.emod_lt_of_pos n hm
  rw [Int.tmod_eq_emod]
  by_cases h : 0 ≤ n ∨ m ∣ n
  · rw [if_pos h, if_neg (by omega)]; omega
  · rw [if_neg h, if_pos (by omega)]; omega
set_option maxHeartbeats 4000000 in
theorem place_any (n m : Int) (hm : 0 < m) (hm2 : m ≤ 4611686018427387904) (h1 : -9223372036854775808 ≤ n) (h2 : n ≤ 9223372036854775807) (w : World) :
    Calls Try.prog 10 #[.int .i64 n, .int .i64 m] w fun e w' => e = .returned (.int .i64 (n % m)) ∧ w = w' := by
  rw [tmod_emod n m hm]
  have hz : (m == 0) = false := by simp; omega
  have hb : -m < n.tmod m ∧ n.tmod m < m := by
    have := Int.tmod_lt_of_pos n hm
    have := Int.lt_tmod_of_pos n hm
    omega
  have hw : IntKind.i64.wrap (n.tmod m) = n.tmod m := by rw [IntWalk.i64_in _ (by omega)]
  have HW := Lib.hid hw
  generalize hq : n.tmod m = q at hb ⊢
  have HQ := Lib.hid hq
  by_cases hneg : q < 0
  · rw [if_pos hneg]
    have hd : decide (q < 0) = true := by simpa using hneg
    go_enter Try.func10, Try.ntmps10
    go_wp2_with fail
    go_ret
    exact ⟨rfl, rfl⟩
  · rw [if_neg hneg]
    have hd : decide (q < 0) = false := by simpa using hneg
    go_enter Try.func10, Try.ntmps10
    go_wp2_with fail
    go_ret
    exact ⟨rfl, rfl⟩
theorem ne9 (s : ByteArray) (w : World) : (binOp .neq 9 (.string s) (.string s)).run Try.prog w = .ok (.bool false) w := by
  go_simp
set_option maxHeartbeats 8000000 in
theorem same_any (b b' o o' c c' : Nat) (x y : ByteArray) (w : World) (h0 : w.cell? ⟨b, o, none⟩ = some (.string x)) (h1 : w.cell? ⟨b, o + 1, none⟩ = some (.string y)) (g0 : w.cell? ⟨b', o', none⟩ = some (.string x)) (g1 : w.cell? ⟨b', o' + 1, none⟩ = some (.string y)) :
    Calls Try.prog 19 #[.slice (some ⟨b, o, none⟩) 2 c, .slice (some ⟨b', o', none⟩) 2 c'] w fun e w' => e = .returned (.bool true) ∧ Below w.heap.size w w' := by
  have hn := ne9
  go_enter Try.func19, Try.ntmps19
  go_wp2_with fail
  refine wp_loop_rounds 3 ?_
  rw [rounds_succ]
  go_wp2_with fail
  go_quiet (fail)
  go_wp2_with fail
  rw [rounds_succ]
  go_wp2_with fail
  go_quiet (fail)
  go_wp2_with fail
  rw [rounds_succ]
  go_wp2_with fail
  go_ret
  exact ⟨rfl, below_drewN (Below.refl _ _) _⟩
theorem same_two (w : World) (v v' : Value) (a b : List UInt8) (B B' : Nat) (h : Two B w v a b) (h' : Two B' w v' a b) :
    Calls Try.prog 19 #[v, v'] w fun e w' => e = .returned (.bool true) ∧ Below w.heap.size w w' := by
  obtain ⟨g, rfl, _, k⟩ := h
  obtain ⟨g', rfl, _, k'⟩ := h'
  exact same_any g g' 0 0 2 2 _ _ w (k.cell 0) (k.cell 1) (k'.cell 0) (k'.cell 1)
end Go.Proofs.Ytekagnhablkggaa
