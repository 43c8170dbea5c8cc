/- What Check answers: whether an item may be, or what is wrong first. Conditions: the sizes of the reading; the library's tables. -/
import Derived.Test.YtghdcgokndmkjaaDoorL
set_option linter.unusedVariables false
set_option linter.unusedSimpArgs false
namespace Go.Proofs.YtghdcgokndmkjaaDoor
open Go.RowKit Go.Sort

theorem firstErr_at (f : It → Int) (l : List It) (k : Nat) (h : k < l.length) : firstErr f (l.drop k) = if f l[k] = 0 then firstErr f (l.drop (k + 1)) else f l[k] := by
  rw [List.drop_eq_getElem_cons h, firstErr]
theorem formed_list (V : List UInt8 → Bool) (t : It) (h : formed V t = true) (h3 : ¬ (t.kind = 3 ∨ t.kind = 4)) : t.list = [] := by
  unfold formed at h
  split at h
  · simp at h; exact h.2
  split at h
  · simp at h; exact h.2
  split at h
  · simp at h; exact h.1.2
  rw [if_neg (by omega), if_neg (by omega)] at h
  cases h

set_option maxHeartbeats 1000000 in
set_option maxRecDepth 100000 in
theorem check_deep (o : Int) (t : It) (A : Option Addr) (c : Nat) (w : World) (ho : o = 16) (h : t.kind = 3 ∨ t.kind = 4) :
    Calls Tryd.prog 29 #[itV t A c, .int .i64 o] w fun e w' => e = .returned (.int .i64 31) ∧ Below w.heap.size w w' := by
  subst ho
  unfold itV
  rcases h with h | h
  · have b3 : (t.kind == 3) = true := by simp [h]
    clear h
    go_enter Tryd.func29, Tryd.ntmps29
    go_wp2_with fail
    go_ret
    exact ⟨rfl, (Below.refl _ _).alloc (Nat.le_refl _) _⟩
  · have b3 : (t.kind == 3) = false := by simp [h]
    have b4 : (t.kind == 4) = true := by simp [h]
    clear h
    go_enter Tryd.func29, Tryd.ntmps29
    go_wp2_with fail
    go_ret
    exact ⟨rfl, (Below.refl _ _).alloc (Nat.le_refl _) _⟩

/-- the first test answers no -/
def Shallow (o : Int) (t : It) : Prop := o < 16 ∨ (o = 16 ∧ ¬ (t.kind = 3 ∨ t.kind = 4))

set_option maxHeartbeats 1000000 in
set_option maxRecDepth 100000 in
theorem check_form (D : Nat) (B : Nat → Prop) (o : Int) (t : It) (A : Option Addr) (c : Nat) (w : World) (ho0 : 0 ≤ o) (ho : Shallow o t) (hz : Sz t) (hr : RdL (D + 1) B w A t.list) (hT : Tb w) (hf : formed Lib.validD t = false) :
    Calls Tryd.prog 29 #[itV t A c, .int .i64 o] w fun e w' => e = .returned (.int .i64 33) ∧ Below w.heap.size w w' := by
  have ha : ∀ ob, Below w.heap.size w (w.alloc ob) := fun ob => (Below.refl _ _).alloc (Nat.le_refl _) _
  have HC := Lib.hid (fun ob => formed_any D B t A c (w.alloc ob) hz (hr.below (ha ob)) (hT.below (ha ob)))
  rw [hf] at HC
  have HA := Lib.hid ha
  clear ha hz hr hT hf
  unfold itV at HC ⊢
  rcases ho with ho | ⟨rfl, ho⟩
  · have hd : decide ((16 : Int) ≤ o) = false := by simp; omega
    go_enter Tryd.func29, Tryd.ntmps29
    go_wp2_with fail
    refine (HC.out _).mono ?_
    rintro e w' ⟨rfl, hb⟩
    have hb' := (HA.out _).trans (hb.mono (by simp))
    go_wp2_with fail
    go_ret
    exact ⟨rfl, hb'⟩
  · have b3 : (t.kind == 3) = false := by simp; omega
    have b4 : (t.kind == 4) = false := by simp; omega
    clear ho
    go_enter Tryd.func29, Tryd.ntmps29
    go_wp2_with fail
    refine (HC.out _).mono ?_
    rintro e w' ⟨rfl, hb⟩
    have hb' := (HA.out _).trans (hb.mono (by simp))
    go_wp2_with fail
    go_ret
    exact ⟨rfl, hb'⟩

set_option maxHeartbeats 1000000 in
set_option maxRecDepth 100000 in
theorem check_flat (D : Nat) (B : Nat → Prop) (o : Int) (t : It) (A : Option Addr) (c : Nat) (w : World) (ho0 : 0 ≤ o) (ho : Shallow o t) (hz : Sz t) (hr : RdL (D + 1) B w A t.list) (hT : Tb w) (hf : formed Lib.validD t = true) (hl : t.list = []) :
    Calls Tryd.prog 29 #[itV t A c, .int .i64 o] w fun e w' => e = .returned (.int .i64 0) ∧ Below w.heap.size w w' := by
  have ha : ∀ ob, Below w.heap.size w (w.alloc ob) := fun ob => (Below.refl _ _).alloc (Nat.le_refl _) _
  have HC := Lib.hid (fun ob => formed_any D B t A c (w.alloc ob) hz (hr.below (ha ob)) (hT.below (ha ob)))
  rw [hf] at HC
  have HA := Lib.hid ha
  clear ha hz hr hT hf
  unfold itV at HC ⊢
  rw [hl] at HC ⊢
  clear hl
  rcases ho with ho | ⟨rfl, ho⟩
  · have hd : decide ((16 : Int) ≤ o) = false := by simp; omega
    go_enter Tryd.func29, Tryd.ntmps29
    go_wp2_with fail
    refine (HC.out _).mono ?_
    rintro e w' ⟨rfl, hb⟩
    obtain ⟨q0, _, _⟩ := box1 (hb.mono (by simp))
    have a0 := cellOf q0 3
    simp at a0
    clear q0
    have HB := Lib.hid ((HA.out _).trans (hb.mono (by simp)))
    clear hb
    go_wp2_with fail
    go_loopw [26] (fun i wr => i = .int .i64 0 ∧ wr = w') (fun _ _ => 0)
    case atStart => exact ⟨rfl, rfl⟩
    case round =>
      obtain ⟨rfl, rfl⟩ := hrel
      go_wp2_with fail
      go_ret
      exact ⟨rfl, HB.out⟩
  · have b3 : (t.kind == 3) = false := by simp; omega
    have b4 : (t.kind == 4) = false := by simp; omega
    clear ho
    go_enter Tryd.func29, Tryd.ntmps29
    go_wp2_with fail
    refine (HC.out _).mono ?_
    rintro e w' ⟨rfl, hb⟩
    obtain ⟨q0, _, _⟩ := box1 (hb.mono (by simp))
    have a0 := cellOf q0 3
    simp at a0
    clear q0
    have HB := Lib.hid ((HA.out _).trans (hb.mono (by simp)))
    clear hb
    go_wp2_with fail
    go_loopw [26] (fun i wr => i = .int .i64 0 ∧ wr = w') (fun _ _ => 0)
    case atStart => exact ⟨rfl, rfl⟩
    case round =>
      obtain ⟨rfl, rfl⟩ := hrel
      go_wp2_with fail
      go_ret
      exact ⟨rfl, HB.out⟩

set_option maxHeartbeats 2000000 in
set_option maxRecDepth 100000 in
theorem check_loop (D : Nat) (B : Nat → Prop) (o : Int) (f : It → Int) (t : It) (A : Option Addr) (c : Nat) (w : World) (ho0 : 0 ≤ o) (ho : o < 16) (hz : Sz t) (hr : RdL (D + 1) B w A t.list) (hT : Tb w) (hf : formed Lib.validD t = true) (hl : t.list ≠ [])
    (ih : ∀ (x : It) (A : Option Addr) (c : Nat) (w : World), Sz x → RdL (D + 1) B w A x.list → Tb w → Calls Tryd.prog 29 #[itV x A c, .int .i64 (o + 1)] w fun e w' => e = .returned (.int .i64 (f x)) ∧ Below w.heap.size w w') :
    Calls Tryd.prog 29 #[itV t A c, .int .i64 o] w fun e w' => e = .returned (.int .i64 (firstErr f t.list)) ∧ Below w.heap.size w w' := by
  have ha : ∀ ob, Below w.heap.size w (w.alloc ob) := fun ob => (Below.refl _ _).alloc (Nat.le_refl _) _
  have HC := Lib.hid (fun ob => formed_any D B t A c (w.alloc ob) hz (hr.below (ha ob)) (hT.below (ha ob)))
  rw [hf] at HC
  have hsz := hr.length
  obtain ⟨b, off, rfl, hB, hltb, hcell⟩ := hr.2 hl
  have HA := Lib.hid ha
  have HX := Lib.hid hcell
  have HT := Lib.hid hT
  have IH := Lib.hid ih
  clear ha hz hr hT hf hcell ih hl
  unfold itV at HC ⊢
  have hd : decide ((16 : Int) ≤ o) = false := by simp; omega
  go_enter Tryd.func29, Tryd.ntmps29
  go_wp2_with fail
  refine (HC.out _).mono ?_
  rintro e w' ⟨rfl, hb⟩
  obtain ⟨q0, _, _⟩ := box1 (hb.mono (by simp))
  have a0 := cellOf q0 3
  simp at a0
  clear q0
  have HB := Lib.hid ((HA.out _).trans (hb.mono (by simp)))
  clear hb
  go_wp2_with fail
  clear a0
  go_loopw [26] (fun i wr => ∃ k : Nat, k ≤ t.list.length ∧ i = .int .i64 k ∧ Below w.heap.size w wr ∧ Hid (firstErr f (t.list.drop k) = firstErr f t.list)) (fun i _ => t.list.length - (intOf i).toNat)
  case atStart => exact ⟨0, by omega, rfl, HB.out, Lib.hid (by rw [List.drop_zero])⟩
  case round =>
    obtain ⟨k, hk, rfl, hbw, HF⟩ := hrel
    by_cases hlk : k < t.list.length
    · have HS := Lib.hid (firstErr_at f t.list k hlk)
      obtain ⟨hz, A1, c1, hc1, e0, e1, e2, e3, hr⟩ := HX.out k hlk
      rw [← hbw.cell (p := ⟨b, _, none⟩) hltb] at e0 e1 e2 e3
      have HI := Lib.hid (fun ob => IH.out t.list[k] A1 c1 (wr.alloc ob) hz ((hr.below hbw).below ((Below.refl _ _).alloc (Nat.le_refl _) ob)).deeper ((HT.out.below hbw).below ((Below.refl _ _).alloc (Nat.le_refl _) ob)))
      unfold itV at HI
      have HBW := Lib.hid hbw
      clear hz hr hbw
      go_wp2_with fail
      refine (HI.out _).mono ?_
      rintro e w2 ⟨rfl, hb2⟩
      have hb3 := (HBW.out.alloc HBW.out.size _).trans (hb2.mono (by have := HBW.out.size; simp; omega))
      have HB3 := Lib.hid hb3
      clear hb2 hb3 e0 e1 e2 e3 HI
      generalize hV : f t.list[k] = V at HS
      have HV := Lib.hid hV
      clear hV
      by_cases h0 : V = 0
      · subst h0
        go_wp2_with fail
        go_roundw
        case rel => exact ⟨k + 1, by omega, by go_num, HB3.out, Lib.hid (by rw [← HF.out, HS.out]; simp)⟩
        case measure => simp [intOf]; omega
      · have hv : (V != 0) = true := by simp [h0]
        have H0 := Lib.hid h0
        clear h0
        go_wp2_with fail
        go_ret
        refine ⟨?_, HB3.out⟩
        rw [← HF.out, HS.out, if_neg H0.out]
        rfl
    · have HS : Hid (firstErr f (t.list.drop k) = 0) := Lib.hid (by rw [List.drop_of_length_le (by omega)]; rfl)
      go_wp2_with fail
      go_ret
      refine ⟨?_, hbw⟩
      rw [← HF.out, HS.out]
      rfl

theorem check_any : ∀ (d D : Nat) (B : Nat → Prop) (o : Int) (t : It) (A : Option Addr) (c : Nat) (w : World), 0 ≤ o → o + d = 16 → Sz t → RdL (D + 1) B w A t.list → Tb w →
    Calls Tryd.prog 29 #[itV t A c, .int .i64 o] w fun e w' => e = .returned (.int .i64 (chk Lib.validD d t)) ∧ Below w.heap.size w w' := by
  intro d
  induction d with
  | zero =>
    intro D B o t A c w h0 ho hz hr hT
    unfold chk
    by_cases h : t.kind = 3 ∨ t.kind = 4
    · rw [if_pos h]
      exact check_deep o t A c w (by omega) h
    rw [if_neg h]
    by_cases hf : formed Lib.validD t = true
    · rw [if_pos hf]
      exact check_flat D B o t A c w h0 (.inr ⟨by omega, h⟩) hz hr hT hf (formed_list _ _ hf h)
    · rw [if_neg hf]
      exact check_form D B o t A c w h0 (.inr ⟨by omega, h⟩) hz hr hT (by simpa using hf)
  | succ d ih =>
    intro D B o t A c w h0 ho hz hr hT
    unfold chk
    by_cases hf : formed Lib.validD t = true
    · rw [if_pos hf]
      by_cases hl : t.list = []
      · rw [hl]
        exact check_flat D B o t A c w h0 (.inl (by omega)) hz hr hT hf hl
      · exact check_loop D B o (chk Lib.validD d) t A c w h0 (by omega) hz hr hT hf hl (fun x A c w hz hr hT => ih D B (o + 1) x A c w (by omega) (by omega) hz hr hT)
    · rw [if_neg hf]
      exact check_form D B o t A c w h0 (.inl (by omega)) hz hr hT (by simpa using hf)

set_option maxHeartbeats 1000000 in
set_option maxRecDepth 100000 in
theorem Check_any (D : Nat) (B : Nat → Prop) (t : It) (A : Option Addr) (c : Nat) (w : World) (hz : Sz t) (hr : RdL (D + 1) B w A t.list) (hT : Tb w) :
    Calls Tryd.prog 16 #[itV t A c] w fun e w' => e = .returned (.int .i64 (chk Lib.validD 16 t)) ∧ Below w.heap.size w w' := by
  have ha : ∀ ob, Below w.heap.size w (w.alloc ob) := fun ob => (Below.refl _ _).alloc (Nat.le_refl _) _
  have HC := Lib.hid (fun ob => check_any 16 D B 0 t A c (w.alloc ob) (by omega) (by omega) hz (hr.below (ha ob)) (hT.below (ha ob)))
  have HA := Lib.hid ha
  clear ha hz hr hT
  unfold itV at HC ⊢
  generalize hV : chk Lib.validD 16 t = V at HC
  have HV := Lib.hid hV
  clear hV
  go_enter Tryd.func16, Tryd.ntmps16
  go_wp2_with fail
  refine (HC.out _).mono ?_
  rintro e w' ⟨rfl, hb⟩
  have hb' := (HA.out _).trans (hb.mono (by simp))
  go_wp2_with fail
  go_ret
  exact ⟨by rw [← HV.out]; rfl, hb'⟩
end Go.Proofs.YtghdcgokndmkjaaDoor
