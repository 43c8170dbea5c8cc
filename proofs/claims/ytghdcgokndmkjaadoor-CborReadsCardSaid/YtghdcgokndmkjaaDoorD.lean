/- What cbor.ByInt, cbor.ByText and the document's own answer: the first value of a key, or none. Conditions: the sizes of the reading. -/
import Derived.Test.YtghdcgokndmkjaaDoorC
set_option linter.unusedVariables false
set_option linter.unusedSimpArgs false
namespace Go.Proofs.YtghdcgokndmkjaaDoor
open Go.RowKit Go.Sort

/-- the value behind the first key of which P holds -/
def firstV (P : It → Bool) : List It → Option It
  | k :: x :: l => if P k then some x else firstV P l
  | _ => none
theorem firstV_at (P : It → Bool) (l : List It) (i : Nat) (h : i + 1 < l.length) : firstV P (l.drop i) = if P l[i] then some l[i + 1] else firstV P (l.drop (i + 2)) := by
  rw [List.drop_eq_getElem_cons (by omega), List.drop_eq_getElem_cons h, firstV]
theorem firstV_end (P : It → Bool) (l : List It) (i : Nat) (h : ¬ i + 1 < l.length) : firstV P (l.drop i) = none := by
  have hl : (l.drop i).length ≤ 1 := by rw [List.length_drop]; omega
  match hm : l.drop i, hl with
  | [], _ => rfl
  | [_], _ => rfl
def found (P : It → Bool) (t : It) : Option It := if t.kind = 4 then firstV P t.list else none
theorem zeroV : itV It.none none 0 = .agg #[.int .i64 0, .int .i64 0, .string ⟨#[]⟩, .slice none 0 0] := rfl
def FindR (d : Nat) (B : Nat → Prop) (o : Option It) (w' : World) (e : Ending) : Prop :=
  match o with
  | some x => ∃ A c, c ≤ 9223372036854775807 ∧ Sz x ∧ e = .returned (.tuple #[itV x A c, .bool true]) ∧ RdL d B w' A x.list
  | none => e = .returned (.tuple #[itV It.none none 0, .bool false])

set_option maxHeartbeats 1000000 in
set_option maxRecDepth 100000 in
theorem byInt1_any (t : It) (A : Option Addr) (c pb : Nat) (n : Int) (w : World) (hp : w.cell? ⟨pb, 0, none⟩ = some (.int .i64 n)) :
    Calls Tryd.prog 23 #[itV t A c, .pointer (some ⟨pb, 0, none⟩)] w fun e w' => e = .returned (.bool (decide (t.kind = 0) && decide (t.num = n))) ∧ Below w.heap.size w w' := by
  have hlt := World.block_lt_of_cell? w _ hp
  simp only at hlt
  unfold itV
  by_cases h0 : t.kind = 0
  · have b0 : (t.kind == 0) = true := by simp [h0]
    have H0 := Lib.hid h0
    clear h0
    by_cases h1 : t.num = n
    · have b1 : (t.num == n) = true := by simp [h1]
      have H1 := Lib.hid h1
      clear h1
      go_enter Tryd.func23, Tryd.ntmps23
      go_wp2_with fail
      go_ret
      exact ⟨by simp [H0.out, H1.out], (Below.refl _ _).alloc (Nat.le_refl _) _⟩
    · have b1 : (t.num == n) = false := by simp [h1]
      have H1 := Lib.hid h1
      clear h1
      go_enter Tryd.func23, Tryd.ntmps23
      go_wp2_with fail
      go_ret
      exact ⟨by simp [H1.out], (Below.refl _ _).alloc (Nat.le_refl _) _⟩
  · have b0 : (t.kind == 0) = false := by simp [h0]
    have H0 := Lib.hid h0
    clear h0
    go_enter Tryd.func23, Tryd.ntmps23
    go_wp2_with fail
    go_ret
    exact ⟨by simp [H0.out], (Below.refl _ _).alloc (Nat.le_refl _) _⟩

set_option maxHeartbeats 1000000 in
set_option maxRecDepth 100000 in
theorem byText1_any (t : It) (A : Option Addr) (c pb : Nat) (n : List UInt8) (w : World) (hp : w.cell? ⟨pb, 0, none⟩ = some (.string ⟨n.toArray⟩)) :
    Calls Tryd.prog 25 #[itV t A c, .pointer (some ⟨pb, 0, none⟩)] w fun e w' => e = .returned (.bool (decide (t.kind = 2) && decide (t.text = n))) ∧ Below w.heap.size w w' := by
  have hlt := World.block_lt_of_cell? w _ hp
  simp only at hlt
  unfold itV
  by_cases h0 : t.kind = 2
  · have b0 : (t.kind == 2) = true := by simp [h0]
    have H0 := Lib.hid h0
    clear h0
    by_cases h1 : t.text = n
    · have b1 : (t.text == n) = true := by simp [h1]
      have H1 := Lib.hid h1
      clear h1
      go_enter Tryd.func25, Tryd.ntmps25
      go_wp2_with fail
      go_ret
      exact ⟨by simp [H0.out, H1.out], (Below.refl _ _).alloc (Nat.le_refl _) _⟩
    · have b1 : (t.text == n) = false := by simp [h1]
      have H1 := Lib.hid h1
      clear h1
      go_enter Tryd.func25, Tryd.ntmps25
      go_wp2_with fail
      go_ret
      exact ⟨by simp [H1.out], (Below.refl _ _).alloc (Nat.le_refl _) _⟩
  · have b0 : (t.kind == 2) = false := by simp [h0]
    have H0 := Lib.hid h0
    clear h0
    go_enter Tryd.func25, Tryd.ntmps25
    go_wp2_with fail
    go_ret
    exact ⟨by simp [H0.out], (Below.refl _ _).alloc (Nat.le_refl _) _⟩

set_option maxHeartbeats 2000000 in
set_option maxRecDepth 100000 in
theorem findInt_any (d : Nat) (B : Nat → Prop) (t : It) (A : Option Addr) (c pb : Nat) (n : Int) (w0 w : World) (h0 : Below w0.heap.size w0 w) (hp : w.cell? ⟨pb, 0, none⟩ = some (.int .i64 n)) (hr0 : RdL (d + 1) B w0 A t.list) :
    Calls Tryd.prog 22 #[itV t A c, .func (Fn.func 23) #[] #[.pointer (some ⟨pb, 0, none⟩)]] w fun e w' => FindR d B (found (fun k => decide (k.kind = 0) && decide (k.num = n)) t) w0 e ∧ Below w.heap.size w w' := by
  have hr := hr0.below h0
  have HR0 := Lib.hid hr0
  have HH0 := Lib.hid h0
  clear hr0 h0
  have hlt := World.block_lt_of_cell? w _ hp
  simp only at hlt
  by_cases h4 : t.kind = 4
  rotate_left
  · have b4 : (t.kind != 4) = true := by simp [h4]
    rw [found, if_neg h4]
    clear h4
    unfold itV
    go_enter Tryd.func22, Tryd.ntmps22
    go_wp2_with fail
    exact bodyPost_ret (v := .tuple #[itV It.none none 0, .bool false]) (by simp [zeroV, results, Tryd.results22, go_sem]) rfl ⟨rfl, alloc2 _ _ _⟩
  · have b4 : (t.kind != 4) = false := by simp [h4]
    rw [found, if_pos h4]
    clear h4
    have hsz := hr.length
    have HR := Lib.hid hr
    clear hr
    generalize hP : (fun k : It => decide (k.kind = 0) && decide (k.num = n)) = P
    have HP := Lib.hid hP
    clear hP
    unfold itV
    go_enter Tryd.func22, Tryd.ntmps22
    go_wp2_with fail
    go_loopw [6] (fun i wr => ∃ k : Nat, k ≤ t.list.length + 1 ∧ i = .int .i64 k ∧ Below (w.heap.size + 2) ((w.alloc (.cells #[.int .i64 t.kind, .int .i64 t.num, .string ⟨t.text.toArray⟩, .slice A t.list.length c] 24)).alloc (.cells #[.int .i64 0, .int .i64 0, .string ⟨#[]⟩, .slice none 0 0] 24)) wr ∧ Hid (firstV P (t.list.drop k) = firstV P t.list)) (fun i _ => t.list.length + 1 - (intOf i).toNat)
    case atStart => exact ⟨0, by omega, rfl, Below.refl _ _, Lib.hid (by rw [List.drop_zero])⟩
    case round =>
      obtain ⟨k, hk, rfl, hb, HF⟩ := hrel
      obtain ⟨hb0, hb1, hbw, hbs⟩ := box2 hb
      have a0 := cellOf hb0 3
      simp at a0
      have HB0 := Lib.hid hb0
      have HB1 := Lib.hid hb1
      clear hb0 hb1
      by_cases hlk : k + 1 < t.list.length
      · obtain ⟨b, off, rfl, hB, hltb, hcell⟩ := HR.out.2 (by intro e; rw [e] at hlk; simp at hlk)
        obtain ⟨hz, A1, c1, hc1, e0, e1, e2, e3, hr⟩ := hcell k (by omega)
        obtain ⟨hz2, A2, c2, hc2, f0, f1, f2, f3, _⟩ := hcell (k + 1) hlk
        clear hcell
        obtain ⟨b', off', hbb, _, hltb', hcell'⟩ := HR0.out.2 (by intro e; rw [e] at hlk; simp at hlk)
        obtain ⟨rfl, rfl⟩ : b = b' ∧ off = off' := by simpa using hbb
        clear hbb
        obtain ⟨_, A3, c3, _, _, _, _, g3, hr2⟩ := hcell' (k + 1) hlk
        rw [← HH0.out.cell (p := ⟨b, _, none⟩) hltb', f3] at g3
        obtain ⟨rfl, rfl⟩ : A2 = A3 ∧ c2 = c3 := by simpa using g3
        clear g3 hcell' hltb'
        have HE2 := Lib.hid (show _ ∧ _ ∧ _ ∧ _ from ⟨f0, f1, f2, f3⟩)
        rw [← hbw.cell (p := ⟨b, _, none⟩) hltb] at e0 e1 e2 e3
        have HS := Lib.hid (firstV_at P t.list k hlk)
        have HH := Lib.hid hr2
        have HB := Lib.hid hb
        have hbp := hbw.cell (p := ⟨pb, 0, none⟩) hlt
        rw [hp] at hbp
        have HC := Lib.hid (byInt1_any t.list[k] A1 c1 pb n wr hbp)
        unfold itV at HC
        clear f0 f1 f2 f3 hr hr2 hb hp hbp
        go_wp2_with fail
        refine HC.out.mono ?_
        rintro e w1 ⟨rfl, bb⟩
        have hbw1 := hbw.trans (bb.mono (by omega))
        have hb' := HB.out.trans (bb.mono hbs)
        obtain ⟨q0, q1, _, hbs1⟩ := box2 hb'
        have a1 := cellOf q0 3
        simp at a1
        have z0 := cellOf q1 0
        have z1 := cellOf q1 1
        have z2 := cellOf q1 2
        have z3 := cellOf q1 3
        simp at z0 z1 z2 z3
        have y0 := Lib.frozen_of_heap q1 0
        have y1 := Lib.frozen_of_heap q1 1
        have y2 := Lib.frozen_of_heap q1 2
        have y3 := Lib.frozen_of_heap q1 3
        obtain ⟨f0, f1, f2, f3⟩ := HE2.out
        rw [← hbw1.cell (p := ⟨b, _, none⟩) hltb] at f0 f1 f2 f3
        clear q0 q1 e0 e1 e2 e3 a0 HC
        have HB' := Lib.hid hb'
        clear hb' bb
        rw [show (decide (t.list[k].kind = 0) && decide (t.list[k].num = n)) = P t.list[k] from by rw [← HP.out]]
        by_cases hp1 : P t.list[k] = true
        · have HP1 := Lib.hid hp1
          go_wp2_with fail
          refine bodyPost_ret (v := .tuple #[itV t.list[k + 1] A2 c2, .bool true]) (by simp [itV, results, Tryd.results22, go_sem, z0, z1, z2, z3]) rfl ⟨?_, ?_⟩
          · rw [← HF.out, HS.out, if_pos HP1.out]
            exact ⟨A2, c2, hc2, hz2, rfl, HH.out⟩
          · exact (((hbw1.setCell (by simp) _).setCell (by simp) _).setCell (by simp) _).setCell (by simp) _
        · have hp2 : P t.list[k] = false := by simpa using hp1
          have HP1 := Lib.hid hp2
          clear hp1
          go_wp2_with fail
          go_roundw
          case rel => exact ⟨k + 2, by omega, by go_num, HB'.out, Lib.hid (by rw [← HF.out, HS.out, HP1.out]; rfl)⟩
          case measure => simp [intOf]; omega
      · have HS := Lib.hid (firstV_end P t.list k hlk)
        have z0 := cellOf HB1.out 0
        have z1 := cellOf HB1.out 1
        have z2 := cellOf HB1.out 2
        have z3 := cellOf HB1.out 3
        simp at z0 z1 z2 z3
        have y0 := Lib.frozen_of_heap HB1.out 0
        have y1 := Lib.frozen_of_heap HB1.out 1
        have y2 := Lib.frozen_of_heap HB1.out 2
        have y3 := Lib.frozen_of_heap HB1.out 3
        go_wp2_with fail
        refine bodyPost_ret (v := .tuple #[itV It.none none 0, .bool false]) (by simp [zeroV, results, Tryd.results22, go_sem, z0, z1, z2, z3]) rfl ⟨?_, ?_⟩
        · rw [← HF.out, HS.out]
          exact rfl
        · exact (((hbw.setCell (by simp) _).setCell (by simp) _).setCell (by simp) _).setCell (by simp) _

set_option maxHeartbeats 2000000 in
set_option maxRecDepth 100000 in
theorem findText_any (d : Nat) (B : Nat → Prop) (t : It) (A : Option Addr) (c pb : Nat) (n : List UInt8) (w0 w : World) (h0 : Below w0.heap.size w0 w) (hp : w.cell? ⟨pb, 0, none⟩ = some (.string ⟨n.toArray⟩)) (hr0 : RdL (d + 1) B w0 A t.list) :
    Calls Tryd.prog 22 #[itV t A c, .func (Fn.func 25) #[] #[.pointer (some ⟨pb, 0, none⟩)]] w fun e w' => FindR d B (found (fun k => decide (k.kind = 2) && decide (k.text = n)) t) w0 e ∧ Below w.heap.size w w' := by
  have hr := hr0.below h0
  have HR0 := Lib.hid hr0
  have HH0 := Lib.hid h0
  clear hr0 h0
  have hlt := World.block_lt_of_cell? w _ hp
  simp only at hlt
  by_cases h4 : t.kind = 4
  rotate_left
  · have b4 : (t.kind != 4) = true := by simp [h4]
    rw [found, if_neg h4]
    clear h4
    unfold itV
    go_enter Tryd.func22, Tryd.ntmps22
    go_wp2_with fail
    exact bodyPost_ret (v := .tuple #[itV It.none none 0, .bool false]) (by simp [zeroV, results, Tryd.results22, go_sem]) rfl ⟨rfl, alloc2 _ _ _⟩
  · have b4 : (t.kind != 4) = false := by simp [h4]
    rw [found, if_pos h4]
    clear h4
    have hsz := hr.length
    have HR := Lib.hid hr
    clear hr
    generalize hP : (fun k : It => decide (k.kind = 2) && decide (k.text = n)) = P
    have HP := Lib.hid hP
    clear hP
    unfold itV
    go_enter Tryd.func22, Tryd.ntmps22
    go_wp2_with fail
    go_loopw [6] (fun i wr => ∃ k : Nat, k ≤ t.list.length + 1 ∧ i = .int .i64 k ∧ Below (w.heap.size + 2) ((w.alloc (.cells #[.int .i64 t.kind, .int .i64 t.num, .string ⟨t.text.toArray⟩, .slice A t.list.length c] 24)).alloc (.cells #[.int .i64 0, .int .i64 0, .string ⟨#[]⟩, .slice none 0 0] 24)) wr ∧ Hid (firstV P (t.list.drop k) = firstV P t.list)) (fun i _ => t.list.length + 1 - (intOf i).toNat)
    case atStart => exact ⟨0, by omega, rfl, Below.refl _ _, Lib.hid (by rw [List.drop_zero])⟩
    case round =>
      obtain ⟨k, hk, rfl, hb, HF⟩ := hrel
      obtain ⟨hb0, hb1, hbw, hbs⟩ := box2 hb
      have a0 := cellOf hb0 3
      simp at a0
      have HB0 := Lib.hid hb0
      have HB1 := Lib.hid hb1
      clear hb0 hb1
      by_cases hlk : k + 1 < t.list.length
      · obtain ⟨b, off, rfl, hB, hltb, hcell⟩ := HR.out.2 (by intro e; rw [e] at hlk; simp at hlk)
        obtain ⟨hz, A1, c1, hc1, e0, e1, e2, e3, hr⟩ := hcell k (by omega)
        obtain ⟨hz2, A2, c2, hc2, f0, f1, f2, f3, _⟩ := hcell (k + 1) hlk
        clear hcell
        obtain ⟨b', off', hbb, _, hltb', hcell'⟩ := HR0.out.2 (by intro e; rw [e] at hlk; simp at hlk)
        obtain ⟨rfl, rfl⟩ : b = b' ∧ off = off' := by simpa using hbb
        clear hbb
        obtain ⟨_, A3, c3, _, _, _, _, g3, hr2⟩ := hcell' (k + 1) hlk
        rw [← HH0.out.cell (p := ⟨b, _, none⟩) hltb', f3] at g3
        obtain ⟨rfl, rfl⟩ : A2 = A3 ∧ c2 = c3 := by simpa using g3
        clear g3 hcell' hltb'
        have HE2 := Lib.hid (show _ ∧ _ ∧ _ ∧ _ from ⟨f0, f1, f2, f3⟩)
        rw [← hbw.cell (p := ⟨b, _, none⟩) hltb] at e0 e1 e2 e3
        have HS := Lib.hid (firstV_at P t.list k hlk)
        have HH := Lib.hid hr2
        have HB := Lib.hid hb
        have hbp := hbw.cell (p := ⟨pb, 0, none⟩) hlt
        rw [hp] at hbp
        have HC := Lib.hid (byText1_any t.list[k] A1 c1 pb n wr hbp)
        unfold itV at HC
        clear f0 f1 f2 f3 hr hr2 hb hp hbp
        go_wp2_with fail
        refine HC.out.mono ?_
        rintro e w1 ⟨rfl, bb⟩
        have hbw1 := hbw.trans (bb.mono (by omega))
        have hb' := HB.out.trans (bb.mono hbs)
        obtain ⟨q0, q1, _, hbs1⟩ := box2 hb'
        have a1 := cellOf q0 3
        simp at a1
        have z0 := cellOf q1 0
        have z1 := cellOf q1 1
        have z2 := cellOf q1 2
        have z3 := cellOf q1 3
        simp at z0 z1 z2 z3
        have y0 := Lib.frozen_of_heap q1 0
        have y1 := Lib.frozen_of_heap q1 1
        have y2 := Lib.frozen_of_heap q1 2
        have y3 := Lib.frozen_of_heap q1 3
        obtain ⟨f0, f1, f2, f3⟩ := HE2.out
        rw [← hbw1.cell (p := ⟨b, _, none⟩) hltb] at f0 f1 f2 f3
        clear q0 q1 e0 e1 e2 e3 a0 HC
        have HB' := Lib.hid hb'
        clear hb' bb
        rw [show (decide (t.list[k].kind = 2) && decide (t.list[k].text = n)) = P t.list[k] from by rw [← HP.out]]
        by_cases hp1 : P t.list[k] = true
        · have HP1 := Lib.hid hp1
          go_wp2_with fail
          refine bodyPost_ret (v := .tuple #[itV t.list[k + 1] A2 c2, .bool true]) (by simp [itV, results, Tryd.results22, go_sem, z0, z1, z2, z3]) rfl ⟨?_, ?_⟩
          · rw [← HF.out, HS.out, if_pos HP1.out]
            exact ⟨A2, c2, hc2, hz2, rfl, HH.out⟩
          · exact (((hbw1.setCell (by simp) _).setCell (by simp) _).setCell (by simp) _).setCell (by simp) _
        · have hp2 : P t.list[k] = false := by simpa using hp1
          have HP1 := Lib.hid hp2
          clear hp1
          go_wp2_with fail
          go_roundw
          case rel => exact ⟨k + 2, by omega, by go_num, HB'.out, Lib.hid (by rw [← HF.out, HS.out, HP1.out]; rfl)⟩
          case measure => simp [intOf]; omega
      · have HS := Lib.hid (firstV_end P t.list k hlk)
        have z0 := cellOf HB1.out 0
        have z1 := cellOf HB1.out 1
        have z2 := cellOf HB1.out 2
        have z3 := cellOf HB1.out 3
        simp at z0 z1 z2 z3
        have y0 := Lib.frozen_of_heap HB1.out 0
        have y1 := Lib.frozen_of_heap HB1.out 1
        have y2 := Lib.frozen_of_heap HB1.out 2
        have y3 := Lib.frozen_of_heap HB1.out 3
        go_wp2_with fail
        refine bodyPost_ret (v := .tuple #[itV It.none none 0, .bool false]) (by simp [zeroV, results, Tryd.results22, go_sem, z0, z1, z2, z3]) rfl ⟨?_, ?_⟩
        · rw [← HF.out, HS.out]
          exact rfl
        · exact (((hbw.setCell (by simp) _).setCell (by simp) _).setCell (by simp) _).setCell (by simp) _

set_option maxHeartbeats 1000000 in
set_option maxRecDepth 100000 in
theorem byInt_any (d : Nat) (B : Nat → Prop) (t : It) (A : Option Addr) (c : Nat) (n : Int) (w : World) (hc : c ≤ 9223372036854775807) (hr : RdL (d + 1) B w A t.list) :
    Calls Tryd.prog 11 #[itV t A c, .int .i64 n] w fun e w' => FindR d B (found (fun k => decide (k.kind = 0) && decide (k.num = n)) t) w e ∧ Below w.heap.size w w' := by
  have hmf : ∀ (fn : Fn) (first cap : Array Value) (w : World), (Instr.makeFunc fn first cap).run Tryd.prog w = .ok (.func fn first cap) w := fun _ _ _ _ => rfl
  have hw3 : Below w.heap.size w (((w.alloc (.cells #[.int .i64 t.kind, .int .i64 t.num, .string ⟨t.text.toArray⟩, .slice A t.list.length c] 24)).alloc (.cells #[.int .i64 n] 3)).alloc (.cells #[.int .i64 0, .int .i64 0, .string ⟨#[]⟩, .slice none 0 0] 24)) := (alloc2 w _ _).alloc (by simp; omega) _
  have hc3 : (((w.alloc (.cells #[.int .i64 t.kind, .int .i64 t.num, .string ⟨t.text.toArray⟩, .slice A t.list.length c] 24)).alloc (.cells #[.int .i64 n] 3)).alloc (.cells #[.int .i64 0, .int .i64 0, .string ⟨#[]⟩, .slice none 0 0] 24)).cell? ⟨w.heap.size + 1, 0, none⟩ = some (.int .i64 n) := by simp [go_sem]
  have H := Lib.hid (findInt_any d B t A c (w.heap.size + 1) n w (((w.alloc (.cells #[.int .i64 t.kind, .int .i64 t.num, .string ⟨t.text.toArray⟩, .slice A t.list.length c] 24)).alloc (.cells #[.int .i64 n] 3)).alloc (.cells #[.int .i64 0, .int .i64 0, .string ⟨#[]⟩, .slice none 0 0] 24)) hw3 hc3 hr)
  have HW3 := Lib.hid hw3
  unfold itV at H ⊢
  clear hr hw3 hc3
  go_enter Tryd.func11, Tryd.ntmps11
  go_wp2_with fail
  refine H.out.mono ?_
  rintro e w' ⟨hR, hb⟩
  have hq : w'.heap[w.heap.size + 1 + 1]? = some (.cells #[.int .i64 0, .int .i64 0, .string ⟨#[]⟩, .slice none 0 0] 24 (0, 0)) := by
    rw [hb.block _ (by simp)]
    have := Go.heap_alloc_new ((w.alloc (.cells #[.int .i64 t.kind, .int .i64 t.num, .string ⟨t.text.toArray⟩, .slice A t.list.length c] 24)).alloc (.cells #[.int .i64 n] 3)) (.cells #[.int .i64 0, .int .i64 0, .string ⟨#[]⟩, .slice none 0 0] 24)
    simpa using this
  have z0 := cellOf hq 0
  have z1 := cellOf hq 1
  have z2 := cellOf hq 2
  have z3 := cellOf hq 3
  simp at z0 z1 z2 z3
  have y0 := Lib.frozen_of_heap hq 0
  have y1 := Lib.frozen_of_heap hq 1
  have y2 := Lib.frozen_of_heap hq 2
  have y3 := Lib.frozen_of_heap hq 3
  have hbw := HW3.out.trans (hb.mono (by simp; omega))
  have hf := fun u0 u1 u2 u3 => (((hbw.setCell (p := ⟨w.heap.size + 1 + 1, 0, none⟩) (by simp; omega) u0).setCell (p := ⟨w.heap.size + 1 + 1, 1, none⟩) (by simp; omega) u1).setCell (p := ⟨w.heap.size + 1 + 1, 2, none⟩) (by simp; omega) u2).setCell (p := ⟨w.heap.size + 1 + 1, 3, none⟩) (by simp; omega) u3
  have HF := Lib.hid hf
  have HQ := Lib.hid hq
  clear hf hq hb hbw
  generalize hgo : (found (fun k => decide (k.kind = 0) && decide (k.num = n)) t) = o at hR
  have HO := Lib.hid hgo
  clear hgo
  cases o with
  | none =>
    obtain rfl : e = .returned (.tuple #[itV It.none none 0, .bool false]) := hR
    rw [zeroV]
    go_wp2_with fail
    exact bodyPost_ret (v := .tuple #[itV It.none none 0, .bool false]) (by first | (simp [zeroV, results, Tryd.results11, go_sem, z0, z1, z2, z3]; done) | simp [itV, results, Tryd.results11, go_sem, z0, z1, z2, z3]) rfl ⟨by rw [HO.out]; exact rfl, HF.out _ _ _ _⟩
  | some x =>
    obtain ⟨A', c', hc', hz, rfl, hr⟩ : ∃ A c, c ≤ 9223372036854775807 ∧ Sz x ∧ e = .returned (.tuple #[itV x A c, .bool true]) ∧ RdL d B w A x.list := hR
    have HR := Lib.hid hr
    clear hr
    unfold itV
    go_wp2_with fail
    exact bodyPost_ret (v := .tuple #[itV x A' c', .bool true]) (by first | (simp [zeroV, results, Tryd.results11, go_sem, z0, z1, z2, z3]; done) | simp [itV, results, Tryd.results11, go_sem, z0, z1, z2, z3]) rfl ⟨by rw [HO.out]; exact ⟨A', c', hc', hz, rfl, HR.out⟩, HF.out _ _ _ _⟩

set_option maxHeartbeats 1000000 in
set_option maxRecDepth 100000 in
theorem byText_any (d : Nat) (B : Nat → Prop) (t : It) (A : Option Addr) (c : Nat) (n : List UInt8) (w : World) (hc : c ≤ 9223372036854775807) (hr : RdL (d + 1) B w A t.list) :
    Calls Tryd.prog 13 #[itV t A c, .string ⟨n.toArray⟩] w fun e w' => FindR d B (found (fun k => decide (k.kind = 2) && decide (k.text = n)) t) w e ∧ Below w.heap.size w w' := by
  have hmf : ∀ (fn : Fn) (first cap : Array Value) (w : World), (Instr.makeFunc fn first cap).run Tryd.prog w = .ok (.func fn first cap) w := fun _ _ _ _ => rfl
  have hw3 : Below w.heap.size w (((w.alloc (.cells #[.int .i64 t.kind, .int .i64 t.num, .string ⟨t.text.toArray⟩, .slice A t.list.length c] 24)).alloc (.cells #[.string ⟨n.toArray⟩] 9)).alloc (.cells #[.int .i64 0, .int .i64 0, .string ⟨#[]⟩, .slice none 0 0] 24)) := (alloc2 w _ _).alloc (by simp; omega) _
  have hc3 : (((w.alloc (.cells #[.int .i64 t.kind, .int .i64 t.num, .string ⟨t.text.toArray⟩, .slice A t.list.length c] 24)).alloc (.cells #[.string ⟨n.toArray⟩] 9)).alloc (.cells #[.int .i64 0, .int .i64 0, .string ⟨#[]⟩, .slice none 0 0] 24)).cell? ⟨w.heap.size + 1, 0, none⟩ = some (.string ⟨n.toArray⟩) := by simp [go_sem]
  have H := Lib.hid (findText_any d B t A c (w.heap.size + 1) n w (((w.alloc (.cells #[.int .i64 t.kind, .int .i64 t.num, .string ⟨t.text.toArray⟩, .slice A t.list.length c] 24)).alloc (.cells #[.string ⟨n.toArray⟩] 9)).alloc (.cells #[.int .i64 0, .int .i64 0, .string ⟨#[]⟩, .slice none 0 0] 24)) hw3 hc3 hr)
  have HW3 := Lib.hid hw3
  unfold itV at H ⊢
  clear hr hw3 hc3
  go_enter Tryd.func13, Tryd.ntmps13
  go_wp2_with fail
  refine H.out.mono ?_
  rintro e w' ⟨hR, hb⟩
  have hq : w'.heap[w.heap.size + 1 + 1]? = some (.cells #[.int .i64 0, .int .i64 0, .string ⟨#[]⟩, .slice none 0 0] 24 (0, 0)) := by
    rw [hb.block _ (by simp)]
    have := Go.heap_alloc_new ((w.alloc (.cells #[.int .i64 t.kind, .int .i64 t.num, .string ⟨t.text.toArray⟩, .slice A t.list.length c] 24)).alloc (.cells #[.string ⟨n.toArray⟩] 9)) (.cells #[.int .i64 0, .int .i64 0, .string ⟨#[]⟩, .slice none 0 0] 24)
    simpa using this
  have z0 := cellOf hq 0
  have z1 := cellOf hq 1
  have z2 := cellOf hq 2
  have z3 := cellOf hq 3
  simp at z0 z1 z2 z3
  have y0 := Lib.frozen_of_heap hq 0
  have y1 := Lib.frozen_of_heap hq 1
  have y2 := Lib.frozen_of_heap hq 2
  have y3 := Lib.frozen_of_heap hq 3
  have hbw := HW3.out.trans (hb.mono (by simp; omega))
  have hf := fun u0 u1 u2 u3 => (((hbw.setCell (p := ⟨w.heap.size + 1 + 1, 0, none⟩) (by simp; omega) u0).setCell (p := ⟨w.heap.size + 1 + 1, 1, none⟩) (by simp; omega) u1).setCell (p := ⟨w.heap.size + 1 + 1, 2, none⟩) (by simp; omega) u2).setCell (p := ⟨w.heap.size + 1 + 1, 3, none⟩) (by simp; omega) u3
  have HF := Lib.hid hf
  have HQ := Lib.hid hq
  clear hf hq hb hbw
  generalize hgo : (found (fun k => decide (k.kind = 2) && decide (k.text = n)) t) = o at hR
  have HO := Lib.hid hgo
  clear hgo
  cases o with
  | none =>
    obtain rfl : e = .returned (.tuple #[itV It.none none 0, .bool false]) := hR
    rw [zeroV]
    go_wp2_with fail
    exact bodyPost_ret (v := .tuple #[itV It.none none 0, .bool false]) (by first | (simp [zeroV, results, Tryd.results13, go_sem, z0, z1, z2, z3]; done) | simp [itV, results, Tryd.results13, go_sem, z0, z1, z2, z3]) rfl ⟨by rw [HO.out]; exact rfl, HF.out _ _ _ _⟩
  | some x =>
    obtain ⟨A', c', hc', hz, rfl, hr⟩ : ∃ A c, c ≤ 9223372036854775807 ∧ Sz x ∧ e = .returned (.tuple #[itV x A c, .bool true]) ∧ RdL d B w A x.list := hR
    have HR := Lib.hid hr
    clear hr
    unfold itV
    go_wp2_with fail
    exact bodyPost_ret (v := .tuple #[itV x A' c', .bool true]) (by first | (simp [zeroV, results, Tryd.results13, go_sem, z0, z1, z2, z3]; done) | simp [itV, results, Tryd.results13, go_sem, z0, z1, z2, z3]) rfl ⟨by rw [HO.out]; exact ⟨A', c', hc', hz, rfl, HR.out⟩, HF.out _ _ _ _⟩

end Go.Proofs.YtghdcgokndmkjaaDoor
