/- What the writer's item does: the bytes of an item that may be, or it gives up where they are too many. Conditions: the sizes of the reading. -/
import Derived.Test.YtghdcgokndmkjaaDoorN
set_option linter.unusedVariables false
set_option linter.unusedSimpArgs false
namespace Go.Proofs.YtghdcgokndmkjaaDoor
open Go.RowKit Go.Sort

theorem long_of {l x bs : List UInt8} (y : List UInt8) (h : ¬ (l ++ x).length ≤ 4096) (e : bs = x ++ y) : ¬ (l ++ bs).length ≤ 4096 := by
  subst e; simp at h ⊢; omega
theorem flat_take (g : It → List UInt8) (l : List It) (k : Nat) (h : k < l.length) : (l.take (k + 1)).flatMap g = (l.take k).flatMap g ++ g l[k] := by
  rw [List.take_succ_eq_append_getElem h, List.flatMap_append]; simp
theorem flat_all (g : It → List UInt8) (l : List It) (k : Nat) (h : k < l.length) : l.flatMap g = (l.take k).flatMap g ++ g l[k] ++ (l.drop (k + 1)).flatMap g := by
  rw [← flat_take g l k h, ← List.flatMap_append, List.take_append_drop]
theorem be_length (m n : Nat) : (be m n).length = m := by simp [be]
theorem headL_length (k n : Nat) : (headL k n).length ≤ 9 ∧ 1 ≤ (headL k n).length := by
  unfold headL
  repeat' split
  all_goals simp [be_length]
theorem headOf_length (t : It) : (headOf t).length ≤ 9 ∧ 1 ≤ (headOf t).length := by
  unfold headOf
  repeat' split
  all_goals exact headL_length _ _
theorem Wr.kw {wb : Nat} {l : List UInt8} {w w' : World} (h : Wr wb l w) (hb : Below w.heap.size w w') : Wr wb l w' := h.below hb

set_option maxHeartbeats 2000000 in
set_option maxRecDepth 100000 in
theorem item_core (D : Nat) (B : Nat → Prop) (wb : Nat) (l : List UInt8) (g : It → List UInt8) (t : It) (A : Option Addr) (c : Nat) (w0 w : World) (h0 : Below w0.heap.size w0 w) (hwb : w0.heap.size ≤ wb) (hz : Sz t) (hr : RdL (D + 1) B w0 A t.list)
    (hW : Wr wb l w) (hl : l.length ≤ 4096)
    (ih : ∀ (i : Nat) (hi : i < t.list.length) (l : List UInt8) (A : Option Addr) (c : Nat) (w : World), Below w0.heap.size w0 w → Sz t.list[i] → RdL (D + 1) B w0 A t.list[i].list → Wr wb l w → l.length ≤ 4096 →
      Calls Tryd.prog 27 #[.pointer (some ⟨wb, 0, none⟩), itV t.list[i] A c] w fun e w' => ItR wb l (g t.list[i]) w w' e) :
    Calls Tryd.prog 27 #[.pointer (some ⟨wb, 0, none⟩), itV t A c] w fun e w' => ItR wb l (headOf t ++ t.text ++ t.list.flatMap g) w w' e := by
  have hsz := hr.length
  obtain ⟨z1, z2, z3⟩ := hz
  have hwl := hW.lt
  have HH := Lib.hid (fun w' => headOf_any t A c w' ⟨z1, z2, z3⟩ hsz)
  have HR := Lib.hid hr
  have HW := Lib.hid hW
  have IH := Lib.hid ih
  have H0 := Lib.hid h0
  have hq := Go.heap_alloc_new w (.cells #[.int .i64 t.kind, .int .i64 t.num, .string ⟨t.text.toArray⟩, .slice A t.list.length c] 24)
  have ha : Below w.heap.size w (w.alloc (.cells #[.int .i64 t.kind, .int .i64 t.num, .string ⟨t.text.toArray⟩, .slice A t.list.length c] 24)) := (Below.refl _ _).alloc (Nat.le_refl _) _
  have HQ := Lib.hid hq
  have HA := Lib.hid ha
  unfold itV at HH ⊢
  clear hr hW ih h0 hq ha
  go_enter Tryd.func27, Tryd.ntmps27
  go_wp2_with fail
  refine (HH.out _).mono ?_
  rintro e w1 ⟨rfl, b1⟩
  have k1 : Kw wb w w1 := (Kw.of HA.out (by omega)).trans (Kw.of b1 (by simp; omega))
  have q1 := (b1.block _ (blk_lt HQ.out)).trans HQ.out
  have r1 := HW.out.below (HA.out.trans (b1.mono (by simp)))
  have K1 := Lib.hid k1
  have Q1 := Lib.hid q1
  have R1 := Lib.hid r1
  clear b1 k1 q1 r1
  go_wp2_with fail
  refine (put_any wb l (headOf t) w1 R1.out hl ?_).mono ?_
  · have := headOf_length t; omega
  intro e w2 hI
  rcases hI.cases with ⟨hfit, rfl, r2, k2⟩ | ⟨hno, rfl, k2⟩
  rotate_left
  · have HN := Lib.hid hno
    clear hno hI
    go_wp2_with fail
    exact ⟨rfl, ItR.no (long_of (t.text ++ t.list.flatMap g) HN.out (by simp)) (K1.out.trans k2)⟩
  have q2 := k2.box Q1.out (by omega)
  have k2' := K1.out.trans k2
  have a2 := cellOf q2 2
  simp at a2
  have Q2 := Lib.hid q2
  have K2 := Lib.hid k2'
  have R2 := Lib.hid r2
  clear hI k2 k2' q2 r2
  go_wp2_with fail
  refine (put_any wb _ t.text w2 R2.out hfit z3).mono ?_
  intro e w3 hI
  rcases hI.cases with ⟨hfit3, rfl, r3, k3⟩ | ⟨hno, rfl, k3⟩
  rotate_left
  · have HN := Lib.hid hno
    clear hno hI
    go_wp2_with fail
    refine ⟨rfl, ItR.no ?_ (K2.out.trans k3)⟩
    have := HN.out
    simp at this ⊢; omega
  have q3 := k3.box Q2.out (by omega)
  have k3' := K2.out.trans k3
  have a3 := cellOf q3 3
  simp at a3
  have K3 := Lib.hid k3'
  have R3 := Lib.hid r3
  have F3 := Lib.hid hfit3
  clear hI k3 k3' q3 r3 hfit hfit3 a2 Q2 R2 K2 K1 Q1 R1
  go_wp2_with fail
  clear a3
  go_loopw [17] (fun i wr => ∃ k : Nat, k ≤ t.list.length ∧ i = .int .i64 k ∧ Wr wb (l ++ (headOf t ++ t.text ++ (t.list.take k).flatMap g)) wr ∧ Kw wb w wr ∧ Hid ((l ++ (headOf t ++ t.text ++ (t.list.take k).flatMap g)).length ≤ 4096)) (fun i _ => t.list.length - (intOf i).toNat)
  case atStart => exact ⟨0, by omega, rfl, by simpa using R3.out, K3.out, Lib.hid (by have := F3.out; simp at this ⊢; omega)⟩
  case round =>
    obtain ⟨k, hk, rfl, hWr, hKr, HF⟩ := hrel
    by_cases hlk : k < t.list.length
    · obtain ⟨b, off, rfl, hB, hltb, hcell⟩ := HR.out.2 (by intro e; rw [e] at hlk; simp at hlk)
      obtain ⟨hz, A1, c1, hc1, e0, e1, e2, e3, hr⟩ := hcell k hlk
      have hb0 := H0.out.trans (hKr.1.mono hwb)
      rw [← hb0.cell (p := ⟨b, _, none⟩) hltb] at e0 e1 e2 e3
      have HT := Lib.hid (flat_take g t.list k hlk)
      have hal : ∀ ob, Below wr.heap.size wr (wr.alloc ob) := fun ob => (Below.refl _ _).alloc (Nat.le_refl _) ob
      have HI := Lib.hid (fun ob => IH.out k hlk _ A1 c1 (wr.alloc ob) (hb0.trans ((hal ob).mono hb0.size)) hz hr.deeper (hWr.below (hal ob)) HF.out)
      have hwl2 := hWr.lt
      have HK := Lib.hid (fun ob => hKr.trans (Kw.of (hal ob) (by omega)))
      unfold itV at HI
      clear hz hr hcell hb0 hal hWr hKr
      go_wp2_with fail
      refine (HI.out _).mono ?_
      intro e w4 hI
      rcases hI.cases with ⟨hfit4, rfl, r4, k4⟩ | ⟨hno, rfl, k4⟩
      rotate_left
      · have HN := Lib.hid hno
        clear hno hI
        go_wp2_with fail
        refine ⟨rfl, ItR.no ?_ ((HK.out _).trans k4)⟩
        have h1 := HN.out
        rw [flat_all g t.list k hlk]
        simp at h1 ⊢; omega
      have K4 := Lib.hid ((HK.out _).trans k4)
      have R4 := Lib.hid r4
      have F4 := Lib.hid hfit4
      clear hI k4 r4 hfit4
      go_wp2_with fail
      go_roundw
      case rel => exact ⟨k + 1, by omega, by go_num, by rw [HT.out]; simpa only [List.append_assoc] using R4.out, K4.out, Lib.hid (by rw [HT.out]; have := F4.out; simp only [List.length_append] at this ⊢; omega)⟩
      case measure => simp [intOf]; omega
    · go_wp2_with fail
      go_end0
      have e : t.list.take k = t.list := List.take_of_length_le (by omega)
      rw [e] at hWr HF
      exact ItR.yes HF.out hWr hKr

theorem firstErr_mem {f : It → Int} : ∀ {l : List It}, firstErr f l = 0 → ∀ i, (h : i < l.length) → f l[i] = 0
  | x :: l, h, i, hi => by
    by_cases hx : f x = 0
    · rw [firstErr, if_pos hx] at h
      cases i with
      | zero => exact hx
      | succ i => exact firstErr_mem h i (by simpa using hi)
    · rw [firstErr, if_neg hx] at h; exact absurd h hx

theorem item_any (V : List UInt8 → Bool) : ∀ (d D : Nat) (B : Nat → Prop) (wb : Nat) (l : List UInt8) (t : It) (A : Option Addr) (c : Nat) (w0 w : World), Below w0.heap.size w0 w → w0.heap.size ≤ wb → Sz t → RdL (D + 1) B w0 A t.list → Wr wb l w → l.length ≤ 4096 → chk V d t = 0 →
    Calls Tryd.prog 27 #[.pointer (some ⟨wb, 0, none⟩), itV t A c] w fun e w' => ItR wb l (enc d t) w w' e := by
  intro d
  induction d with
  | zero =>
    intro D B wb l t A c w0 w h0 hwb hz hr hW hl hc
    unfold chk at hc
    split at hc
    · cases hc
    split at hc
    · rename_i h3 hf
      have e := formed_list _ _ hf h3
      have h := item_core D B wb l (fun _ => []) t A c w0 w h0 hwb hz hr hW hl (fun i hi => absurd hi (by rw [e]; simp))
      rw [e] at h
      simpa [enc] using h
    · cases hc
  | succ d ih =>
    intro D B wb l t A c w0 w h0 hwb hz hr hW hl hc
    unfold chk at hc
    split at hc
    · exact item_core D B wb l (enc d) t A c w0 w h0 hwb hz hr hW hl (fun i hi l A c w h0 hz hr hW hl => ih D B wb l t.list[i] A c w0 w h0 hwb hz hr hW hl (firstErr_mem hc i hi))
    · cases hc
end Go.Proofs.YtghdcgokndmkjaaDoor
