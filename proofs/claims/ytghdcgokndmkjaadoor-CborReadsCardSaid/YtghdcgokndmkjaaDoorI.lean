/- What headOf, rises answer: an item's head; whether one key's bytes stand ahead of another's. Conditions: the sizes of the reading. -/
import Derived.Test.YtghdcgokndmkjaaDoorG
import Derived.Test.YtghdcgokndmkjaaDoorH
import Derived.Test.YtghdcgokndmkjaaDoorShelf
set_option linter.unusedVariables false
set_option linter.unusedSimpArgs false
namespace Go.Proofs.YtghdcgokndmkjaaDoor
open Go.RowKit Go.Sort

theorem head_i (k n : Int) (w : World) (hk0 : 0 ≤ k) (hk : k ≤ 7) (hn0 : 0 ≤ n) (hn : n ≤ 9223372036854775807) :
    Calls Tryd.prog 39 #[.int .i64 k, .int .i64 n] w fun e w' => e = .returned (.string ⟨(headL k.toNat n.toNat).toArray⟩) ∧ Below w.heap.size w w' := by
  have h := head_any k.toNat n.toNat w (by omega) (by omega)
  rw [show ((k.toNat : Nat) : Int) = k from by omega, show ((n.toNat : Nat) : Int) = n from by omega] at h
  exact h

set_option maxHeartbeats 2000000 in
set_option maxRecDepth 100000 in
theorem headOf_any (t : It) (A : Option Addr) (c : Nat) (w : World) (hz : Sz t) (hl : t.list.length ≤ 140737488355328) :
    Calls Tryd.prog 35 #[itV t A c] w fun e w' => e = .returned (.string ⟨(headOf t).toArray⟩) ∧ Below w.heap.size w w' := by
  obtain ⟨z1, z2, z3⟩ := hz
  have ha : ∀ o, Below w.heap.size w (w.alloc o) := fun o => (Below.refl _ _).alloc (Nat.le_refl _) _
  have HA := Lib.hid ha
  clear ha
  unfold itV
  by_cases h0 : t.kind = 0
  · have b0 : (t.kind == 0) = true := by simp [h0]
    by_cases hn : t.num < 0
    · have HH : Hid (headOf t = headL (1 : Int).toNat (-1 - t.num).toNat) := Lib.hid (by rw [headOf, if_pos h0, if_pos hn]; rfl)
      clear h0
      go_enter Tryd.func35, Tryd.ntmps35
      go_wp2_with fail
      refine (head_i _ _ _ (by omega) (by omega) (by omega) (by omega)).mono ?_
      rintro e w' ⟨rfl, hb⟩
      have hb' := (HA.out _).trans (hb.mono (by simp))
      go_wp2_with fail
      go_ret
      exact ⟨ret_str (by rw [HH.out]; rfl), hb'⟩
    · have HH : Hid (headOf t = headL (0 : Int).toNat t.num.toNat) := Lib.hid (by rw [headOf, if_pos h0, if_neg hn]; rfl)
      clear h0
      go_enter Tryd.func35, Tryd.ntmps35
      go_wp2_with fail
      refine (head_i _ _ _ (by omega) (by omega) (by omega) (by omega)).mono ?_
      rintro e w' ⟨rfl, hb⟩
      have hb' := (HA.out _).trans (hb.mono (by simp))
      go_wp2_with fail
      go_ret
      exact ⟨ret_str (by rw [HH.out]; rfl), hb'⟩
  have b0 : (t.kind == 0) = false := by simp [h0]
  by_cases h1 : t.kind = 1
  · have b1 : (t.kind == 1) = true := by simp [h1]
    have HH : Hid (headOf t = headL (2 : Int).toNat (t.text.length : Int).toNat) := Lib.hid (by rw [headOf, if_neg h0, if_pos h1]; rfl)
    clear h0 h1
    go_enter Tryd.func35, Tryd.ntmps35
    go_wp2_with fail
    refine (head_i _ _ _ (by omega) (by omega) (by omega) (by omega)).mono ?_
    rintro e w' ⟨rfl, hb⟩
    have hb' := (HA.out _).trans (hb.mono (by simp))
    go_wp2_with fail
    go_ret
    exact ⟨ret_str (by rw [HH.out]; rfl), hb'⟩
  have b1 : (t.kind == 1) = false := by simp [h1]
  by_cases h2 : t.kind = 2
  · have b2 : (t.kind == 2) = true := by simp [h2]
    have HH : Hid (headOf t = headL (3 : Int).toNat (t.text.length : Int).toNat) := Lib.hid (by rw [headOf, if_neg h0, if_neg h1, if_pos h2]; rfl)
    clear h0 h1 h2
    go_enter Tryd.func35, Tryd.ntmps35
    go_wp2_with fail
    refine (head_i _ _ _ (by omega) (by omega) (by omega) (by omega)).mono ?_
    rintro e w' ⟨rfl, hb⟩
    have hb' := (HA.out _).trans (hb.mono (by simp))
    go_wp2_with fail
    go_ret
    exact ⟨ret_str (by rw [HH.out]; rfl), hb'⟩
  have b2 : (t.kind == 2) = false := by simp [h2]
  by_cases h3 : t.kind = 3
  · have b3 : (t.kind == 3) = true := by simp [h3]
    have HH : Hid (headOf t = headL (4 : Int).toNat (t.list.length : Int).toNat) := Lib.hid (by rw [headOf, if_neg h0, if_neg h1, if_neg h2, if_pos h3]; rfl)
    clear h0 h1 h2 h3
    go_enter Tryd.func35, Tryd.ntmps35
    go_wp2_with fail
    refine (head_i _ _ _ (by omega) (by omega) (by omega) (by omega)).mono ?_
    rintro e w' ⟨rfl, hb⟩
    have hb' := (HA.out _).trans (hb.mono (by simp))
    go_wp2_with fail
    go_ret
    exact ⟨ret_str (by rw [HH.out]; rfl), hb'⟩
  · have b3 : (t.kind == 3) = false := by simp [h3]
    have HH : Hid (headOf t = headL (5 : Int).toNat ((t.list.length : Int) / 2).toNat) := Lib.hid (by rw [headOf, if_neg h0, if_neg h1, if_neg h2, if_neg h3]; congr 1)
    clear h0 h1 h2 h3
    go_enter Tryd.func35, Tryd.ntmps35
    go_wp2_with fail
    refine (head_i _ _ _ (by omega) (by omega) (by omega) (by omega)).mono ?_
    rintro e w' ⟨rfl, hb⟩
    have hb' := (HA.out _).trans (hb.mono (by simp))
    go_wp2_with fail
    go_ret
    exact ⟨ret_str (by rw [HH.out]; rfl), hb'⟩

theorem cmp_self : ∀ l : List UInt8, Lib.compareBytes l l = 0
  | [] => rfl
  | a :: l => by unfold Lib.compareBytes; rw [if_neg (by simp), if_neg (by simp)]; exact cmp_self l
theorem cmp_lt : ∀ a b : List UInt8, decide (Lib.compareBytes a b < 0) = decide (a < b)
  | [], [] => by decide
  | [], _ :: _ => by simp [Lib.compareBytes]
  | _ :: _, [] => by simp [Lib.compareBytes]
  | x :: a, y :: b => by
    unfold Lib.compareBytes
    by_cases h : x < y
    · rw [if_pos h]; simp [List.cons_lt_cons_iff, h]
    · by_cases h2 : y < x
      · rw [if_neg h, if_pos h2]
        have : x ≠ y := fun e => by subst e; exact h h2
        simp [List.cons_lt_cons_iff, h, this]
      · have e : x = y := UInt8.le_antisymm (by simpa using h2) (by simpa using h)
        subst e
        rw [if_neg h, if_neg h, cmp_lt a b]
        simp [List.cons_lt_cons_iff]
theorem cmp_ne : ∀ a b : List UInt8, a ≠ b → Lib.compareBytes a b ≠ 0
  | [], [], h => absurd rfl h
  | [], _ :: _, _ => by simp [Lib.compareBytes]
  | _ :: _, [], _ => by simp [Lib.compareBytes]
  | x :: a, y :: b, hne => by
    unfold Lib.compareBytes
    by_cases h : x < y
    · rw [if_pos h]; decide
    · by_cases h2 : y < x
      · rw [if_neg h, if_pos h2]; decide
      · have e : x = y := UInt8.le_antisymm (by simpa using h2) (by simpa using h)
        subst e
        rw [if_neg h, if_neg h]
        exact cmp_ne a b (fun e => hne (by rw [e]))
theorem compare_any (a b : List UInt8) (w : World) : Calls Tryd.prog 58 #[.string ⟨a.toArray⟩, .string ⟨b.toArray⟩] w fun e w' => e = .returned (.int .i64 (Lib.compareBytes a b)) ∧ Below w.heap.size w w' :=
  (Tryd.strings_Compare ⟨a.toArray⟩ ⟨b.toArray⟩ w).mono fun _ _ ⟨he, hw⟩ => ⟨he, hw ▸ Below.refl _ _⟩
end Go.Proofs.YtghdcgokndmkjaaDoor
