/- What the document's own ByInt and ByText answer: the first value of a key, or none. Conditions: the sizes of the reading. -/
import Derived.Test.YtghdcgokndmkjaaDoorD
set_option linter.unusedVariables false
set_option linter.unusedSimpArgs false
namespace Go.Proofs.YtghdcgokndmkjaaDoor
open Go.RowKit Go.Sort

theorem box3 {w wr : World} {a0 a1 a2 : Array Value} {T T' T'' : TypeId} (hb : Below (w.heap.size + 3) (((w.alloc (.cells a0 T)).alloc (.cells a1 T')).alloc (.cells a2 T'')) wr) :
    wr.heap[w.heap.size]? = some (.cells a0 T (0, 0)) ∧ wr.heap[w.heap.size + 1]? = some (.cells a1 T' (0, 0)) ∧ wr.heap[w.heap.size + 1 + 1]? = some (.cells a2 T'' (0, 0)) ∧ Below w.heap.size w wr ∧ w.heap.size + 3 ≤ wr.heap.size := by
  have hw : Below (w.heap.size + 2) ((w.alloc (.cells a0 T)).alloc (.cells a1 T')) wr := ((Below.refl _ _).alloc (by simp) _).trans (hb.mono (by omega))
  obtain ⟨h0, h1, h2, _⟩ := box2 hw
  refine ⟨h0, h1, ?_, h2, by have := hb.size; simpa using this⟩
  rw [hb.block _ (by omega)]
  have := Go.heap_alloc_new ((w.alloc (.cells a0 T)).alloc (.cells a1 T')) (.cells a2 T'')
  simpa using this

set_option maxHeartbeats 3000000 in
set_option maxRecDepth 100000 in
theorem rInt_any (d : Nat) (B : Nat → Prop) (t : It) (A : Option Addr) (c : Nat) (n : Int) (w0 w : World) (h0 : Below w0.heap.size w0 w) (hr0 : RdL (d + 1) B w0 A t.list) :
    Calls Tryd.prog 24 #[itV t A c, .agg #[.int .i64 0, .int .i64 n, .string ⟨#[]⟩, .slice none 0 0]] w fun e w' => FindR d B (found (fun k => decide (k.kind = 0) && decide (k.num = n)) t) w0 e ∧ Below w.heap.size w w' := by
  have hr := hr0.below h0
  have HR0 := Lib.hid hr0
  have HH0 := Lib.hid h0
  clear hr0 h0
  by_cases h4 : t.kind = 4
  rotate_left
  · have b4 : (t.kind == 4) = false := by simp [h4]
    rw [found, if_neg h4]
    clear h4
    unfold itV
    go_enter Tryd.func24, Tryd.ntmps24
    go_wp2_with fail
    exact bodyPost_ret (v := .tuple #[itV It.none none 0, .bool false]) (by simp [zeroV, results, Tryd.results24, go_sem]) rfl ⟨rfl, (alloc2 _ _ _).alloc (by simp; omega) _⟩
  · have b4 : (t.kind == 4) = true := by simp [h4]
    rw [found, if_pos h4]
    clear h4
    have hsz := hr.length
    have HR := Lib.hid hr
    clear hr
    generalize hP : (fun k : It => decide (k.kind = 0) && decide (k.num = n)) = P
    have HP := Lib.hid hP
    clear hP
    unfold itV
    go_enter Tryd.func24, Tryd.ntmps24
    go_wp2_with fail
    go_loopw [6] (fun i wr => ∃ k : Nat, k ≤ t.list.length + 1 ∧ i = .int .i64 k ∧ Below (w.heap.size + 3) (((w.alloc (.cells #[.int .i64 t.kind, .int .i64 t.num, .string ⟨t.text.toArray⟩, .slice A t.list.length c] 24)).alloc (.cells #[.int .i64 0, .int .i64 n, .string ⟨#[]⟩, .slice none 0 0] 24)).alloc (.cells #[.int .i64 0, .int .i64 0, .string ⟨#[]⟩, .slice none 0 0] 24)) wr ∧ Hid (firstV P (t.list.drop k) = firstV P t.list)) (fun i _ => t.list.length + 1 - (intOf i).toNat)
    case atStart => exact ⟨0, by omega, rfl, Below.refl _ _, Lib.hid (by rw [List.drop_zero])⟩
    case round =>
      obtain ⟨k, hk, rfl, hb, HF⟩ := hrel
      obtain ⟨hb0, hb1, hb2, hbw, hbs⟩ := box3 hb
      have a0 := cellOf hb0 3
      have k0 := cellOf hb1 0
      have k1 := cellOf hb1 1
      have k2 := cellOf hb1 2
      simp at a0 k0 k1 k2
      have z0 := cellOf hb2 0
      have z1 := cellOf hb2 1
      have z2 := cellOf hb2 2
      have z3 := cellOf hb2 3
      simp at z0 z1 z2 z3
      have y0 := Lib.frozen_of_heap hb2 0
      have y1 := Lib.frozen_of_heap hb2 1
      have y2 := Lib.frozen_of_heap hb2 2
      have y3 := Lib.frozen_of_heap hb2 3
      clear hb0 hb1 hb2
      have HB' := Lib.hid hb
      clear hb
      by_cases hlk : k + 1 < t.list.length
      · obtain ⟨b, off, rfl, hB, hltb, hcell⟩ := HR.out.2 (by intro e; rw [e] at hlk; simp at hlk)
        obtain ⟨hz, A1, c1, hc1, e0, e1, e2, e3, hr⟩ := hcell k (by omega)
        obtain ⟨hz2, A2, c2, hc2, f0, f1, f2, f3, _⟩ := hcell (k + 1) hlk
        clear hcell hr
        obtain ⟨b', off', hbb, _, hltb', hcell'⟩ := HR0.out.2 (by intro e; rw [e] at hlk; simp at hlk)
        obtain ⟨rfl, rfl⟩ : b = b' ∧ off = off' := by simpa using hbb
        clear hbb
        obtain ⟨_, A3, c3, _, _, _, _, g3, hr2⟩ := hcell' (k + 1) hlk
        rw [← HH0.out.cell (p := ⟨b, _, none⟩) hltb', f3] at g3
        obtain ⟨rfl, rfl⟩ : A2 = A3 ∧ c2 = c3 := by simpa using g3
        clear g3 hcell' hltb'
        rw [← hbw.cell (p := ⟨b, _, none⟩) hltb] at e0 e1 e2 e3 f0 f1 f2 f3
        have HS := Lib.hid (firstV_at P t.list k hlk)
        have HH := Lib.hid hr2
        clear hr2
        have old := fun (o : Obj) (b j : Nat) (h : b < wr.heap.size) => ((Below.refl wr.heap.size wr).alloc (Nat.le_refl _) o).cell (p := ⟨b, j, none⟩) h
        have oz := fun (o : Obj) (b j : Nat) (h : b < wr.heap.size) => ((Below.refl wr.heap.size wr).alloc (Nat.le_refl _) o).frozen (p := ⟨b, j, none⟩) h
        have hltr : b < wr.heap.size := by have := hbw.size; omega
        have a0' := fun o => (old o w.heap.size 3 (by omega)).trans a0
        have k0' := fun o => (old o (w.heap.size + 1) 0 (by omega)).trans k0
        have k1' := fun o => (old o (w.heap.size + 1) 1 (by omega)).trans k1
        have k2' := fun o => (old o (w.heap.size + 1) 2 (by omega)).trans k2
        have z0' := fun o => (old o (w.heap.size + 1 + 1) 0 (by omega)).trans z0
        have z1' := fun o => (old o (w.heap.size + 1 + 1) 1 (by omega)).trans z1
        have z2' := fun o => (old o (w.heap.size + 1 + 1) 2 (by omega)).trans z2
        have z3' := fun o => (old o (w.heap.size + 1 + 1) 3 (by omega)).trans z3
        have y0' := fun o => (oz o (w.heap.size + 1 + 1) 0 (by omega)).trans y0
        have y1' := fun o => (oz o (w.heap.size + 1 + 1) 1 (by omega)).trans y1
        have y2' := fun o => (oz o (w.heap.size + 1 + 1) 2 (by omega)).trans y2
        have y3' := fun o => (oz o (w.heap.size + 1 + 1) 3 (by omega)).trans y3
        have f0' := fun o => (old o b _ hltr).trans f0
        have f1' := fun o => (old o b _ hltr).trans f1
        have f2' := fun o => (old o b _ hltr).trans f2
        have f3' := fun o => (old o b _ hltr).trans f3
        clear old oz
        by_cases h5 : t.list[k].kind = 0
        · by_cases h6 : t.list[k].num = n
          · have HP1 : Hid (P t.list[k] = true) := Lib.hid (by rw [← HP.out]; simp [h5, h6])
            have q1 : (t.list[k].kind == 0) = true := by simp [h5]
            have q2 : (t.list[k].kind == 2) = false := by simp [h5]
            have q3 : (t.list[k].num == n) = true := by simp [h6]
            clear h5 h6
            go_wp2_with fail
            refine bodyPost_ret (v := .tuple #[itV t.list[k + 1] A2 c2, .bool true]) (by simp [itV, results, Tryd.results24, go_sem, z0', z1', z2', z3']) rfl ⟨?_, ?_⟩
            · rw [← HF.out, HS.out, if_pos HP1.out]
              exact ⟨A2, c2, hc2, hz2, rfl, HH.out⟩
            · exact ((((hbw.alloc (by omega) _).setCell (by simp; omega) _).setCell (by simp; omega) _).setCell (by simp; omega) _).setCell (by simp; omega) _
          · have HP1 : Hid (P t.list[k] = false) := Lib.hid (by rw [← HP.out]; simp [h5, h6])
            have q1 : (t.list[k].kind == 0) = true := by simp [h5]
            have q2 : (t.list[k].kind == 2) = false := by simp [h5]
            have q3 : (t.list[k].num == n) = false := by simp [h6]
            clear h5 h6
            go_wp2_with fail
            go_roundw
            case rel => exact ⟨k + 2, by omega, by go_num, HB'.out.alloc (by omega) _, Lib.hid (by rw [← HF.out, HS.out, HP1.out]; rfl)⟩
            case measure => simp [intOf]; omega
        · have HP1 : Hid (P t.list[k] = false) := Lib.hid (by rw [← HP.out]; simp [h5])
          have q1 : (t.list[k].kind == 0) = false := by simp [h5]
          clear h5
          go_wp2_with fail
          go_roundw
          case rel => exact ⟨k + 2, by omega, by go_num, HB'.out.alloc (by omega) _, Lib.hid (by rw [← HF.out, HS.out, HP1.out]; rfl)⟩
          case measure => simp [intOf]; omega
      · have HS := Lib.hid (firstV_end P t.list k hlk)
        go_wp2_with fail
        refine bodyPost_ret (v := .tuple #[itV It.none none 0, .bool false]) (by simp [zeroV, results, Tryd.results24, go_sem, z0, z1, z2, z3]) rfl ⟨?_, ?_⟩
        · rw [← HF.out, HS.out]
          exact rfl
        · exact (((hbw.setCell (by simp; omega) _).setCell (by simp; omega) _).setCell (by simp; omega) _).setCell (by simp; omega) _

set_option maxHeartbeats 3000000 in
set_option maxRecDepth 100000 in
theorem rText_any (d : Nat) (B : Nat → Prop) (t : It) (A : Option Addr) (c : Nat) (n : List UInt8) (w0 w : World) (h0 : Below w0.heap.size w0 w) (hr0 : RdL (d + 1) B w0 A t.list) :
    Calls Tryd.prog 24 #[itV t A c, .agg #[.int .i64 2, .int .i64 0, .string ⟨n.toArray⟩, .slice none 0 0]] w fun e w' => FindR d B (found (fun k => decide (k.kind = 2) && decide (k.text = n)) t) w0 e ∧ Below w.heap.size w w' := by
  have hr := hr0.below h0
  have HR0 := Lib.hid hr0
  have HH0 := Lib.hid h0
  clear hr0 h0
  by_cases h4 : t.kind = 4
  rotate_left
  · have b4 : (t.kind == 4) = false := by simp [h4]
    rw [found, if_neg h4]
    clear h4
    unfold itV
    go_enter Tryd.func24, Tryd.ntmps24
    go_wp2_with fail
    exact bodyPost_ret (v := .tuple #[itV It.none none 0, .bool false]) (by simp [zeroV, results, Tryd.results24, go_sem]) rfl ⟨rfl, (alloc2 _ _ _).alloc (by simp; omega) _⟩
  · have b4 : (t.kind == 4) = true := by simp [h4]
    rw [found, if_pos h4]
    clear h4
    have hsz := hr.length
    have HR := Lib.hid hr
    clear hr
    generalize hP : (fun k : It => decide (k.kind = 2) && decide (k.text = n)) = P
    have HP := Lib.hid hP
    clear hP
    unfold itV
    go_enter Tryd.func24, Tryd.ntmps24
    go_wp2_with fail
    go_loopw [6] (fun i wr => ∃ k : Nat, k ≤ t.list.length + 1 ∧ i = .int .i64 k ∧ Below (w.heap.size + 3) (((w.alloc (.cells #[.int .i64 t.kind, .int .i64 t.num, .string ⟨t.text.toArray⟩, .slice A t.list.length c] 24)).alloc (.cells #[.int .i64 2, .int .i64 0, .string ⟨n.toArray⟩, .slice none 0 0] 24)).alloc (.cells #[.int .i64 0, .int .i64 0, .string ⟨#[]⟩, .slice none 0 0] 24)) wr ∧ Hid (firstV P (t.list.drop k) = firstV P t.list)) (fun i _ => t.list.length + 1 - (intOf i).toNat)
    case atStart => exact ⟨0, by omega, rfl, Below.refl _ _, Lib.hid (by rw [List.drop_zero])⟩
    case round =>
      obtain ⟨k, hk, rfl, hb, HF⟩ := hrel
      obtain ⟨hb0, hb1, hb2, hbw, hbs⟩ := box3 hb
      have a0 := cellOf hb0 3
      have k0 := cellOf hb1 0
      have k1 := cellOf hb1 1
      have k2 := cellOf hb1 2
      simp at a0 k0 k1 k2
      have z0 := cellOf hb2 0
      have z1 := cellOf hb2 1
      have z2 := cellOf hb2 2
      have z3 := cellOf hb2 3
      simp at z0 z1 z2 z3
      have y0 := Lib.frozen_of_heap hb2 0
      have y1 := Lib.frozen_of_heap hb2 1
      have y2 := Lib.frozen_of_heap hb2 2
      have y3 := Lib.frozen_of_heap hb2 3
      clear hb0 hb1 hb2
      have HB' := Lib.hid hb
      clear hb
      by_cases hlk : k + 1 < t.list.length
      · obtain ⟨b, off, rfl, hB, hltb, hcell⟩ := HR.out.2 (by intro e; rw [e] at hlk; simp at hlk)
        obtain ⟨hz, A1, c1, hc1, e0, e1, e2, e3, hr⟩ := hcell k (by omega)
        obtain ⟨hz2, A2, c2, hc2, f0, f1, f2, f3, _⟩ := hcell (k + 1) hlk
        clear hcell hr
        obtain ⟨b', off', hbb, _, hltb', hcell'⟩ := HR0.out.2 (by intro e; rw [e] at hlk; simp at hlk)
        obtain ⟨rfl, rfl⟩ : b = b' ∧ off = off' := by simpa using hbb
        clear hbb
        obtain ⟨_, A3, c3, _, _, _, _, g3, hr2⟩ := hcell' (k + 1) hlk
        rw [← HH0.out.cell (p := ⟨b, _, none⟩) hltb', f3] at g3
        obtain ⟨rfl, rfl⟩ : A2 = A3 ∧ c2 = c3 := by simpa using g3
        clear g3 hcell' hltb'
        rw [← hbw.cell (p := ⟨b, _, none⟩) hltb] at e0 e1 e2 e3 f0 f1 f2 f3
        have HS := Lib.hid (firstV_at P t.list k hlk)
        have HH := Lib.hid hr2
        clear hr2
        have old := fun (o : Obj) (b j : Nat) (h : b < wr.heap.size) => ((Below.refl wr.heap.size wr).alloc (Nat.le_refl _) o).cell (p := ⟨b, j, none⟩) h
        have oz := fun (o : Obj) (b j : Nat) (h : b < wr.heap.size) => ((Below.refl wr.heap.size wr).alloc (Nat.le_refl _) o).frozen (p := ⟨b, j, none⟩) h
        have hltr : b < wr.heap.size := by have := hbw.size; omega
        have a0' := fun o => (old o w.heap.size 3 (by omega)).trans a0
        have k0' := fun o => (old o (w.heap.size + 1) 0 (by omega)).trans k0
        have k1' := fun o => (old o (w.heap.size + 1) 1 (by omega)).trans k1
        have k2' := fun o => (old o (w.heap.size + 1) 2 (by omega)).trans k2
        have z0' := fun o => (old o (w.heap.size + 1 + 1) 0 (by omega)).trans z0
        have z1' := fun o => (old o (w.heap.size + 1 + 1) 1 (by omega)).trans z1
        have z2' := fun o => (old o (w.heap.size + 1 + 1) 2 (by omega)).trans z2
        have z3' := fun o => (old o (w.heap.size + 1 + 1) 3 (by omega)).trans z3
        have y0' := fun o => (oz o (w.heap.size + 1 + 1) 0 (by omega)).trans y0
        have y1' := fun o => (oz o (w.heap.size + 1 + 1) 1 (by omega)).trans y1
        have y2' := fun o => (oz o (w.heap.size + 1 + 1) 2 (by omega)).trans y2
        have y3' := fun o => (oz o (w.heap.size + 1 + 1) 3 (by omega)).trans y3
        have f0' := fun o => (old o b _ hltr).trans f0
        have f1' := fun o => (old o b _ hltr).trans f1
        have f2' := fun o => (old o b _ hltr).trans f2
        have f3' := fun o => (old o b _ hltr).trans f3
        clear old oz
        by_cases h5 : t.list[k].kind = 2
        · by_cases h6 : t.list[k].text = n
          · have HP1 : Hid (P t.list[k] = true) := Lib.hid (by rw [← HP.out]; simp [h5, h6])
            have q1 : (t.list[k].kind == 2) = true := by simp [h5]
            have q2 : (t.list[k].kind == 0) = false := by simp [h5]
            have q3 : (t.list[k].text == n) = true := by simp [h6]
            clear h5 h6
            go_wp2_with fail
            refine bodyPost_ret (v := .tuple #[itV t.list[k + 1] A2 c2, .bool true]) (by simp [itV, results, Tryd.results24, go_sem, z0', z1', z2', z3']) rfl ⟨?_, ?_⟩
            · rw [← HF.out, HS.out, if_pos HP1.out]
              exact ⟨A2, c2, hc2, hz2, rfl, HH.out⟩
            · exact ((((hbw.alloc (by omega) _).setCell (by simp; omega) _).setCell (by simp; omega) _).setCell (by simp; omega) _).setCell (by simp; omega) _
          · have HP1 : Hid (P t.list[k] = false) := Lib.hid (by rw [← HP.out]; simp [h5, h6])
            have q1 : (t.list[k].kind == 2) = true := by simp [h5]
            have q2 : (t.list[k].kind == 0) = false := by simp [h5]
            have q3 : (t.list[k].text == n) = false := by simp [h6]
            clear h5 h6
            go_wp2_with fail
            go_roundw
            case rel => exact ⟨k + 2, by omega, by go_num, HB'.out.alloc (by omega) _, Lib.hid (by rw [← HF.out, HS.out, HP1.out]; rfl)⟩
            case measure => simp [intOf]; omega
        · have HP1 : Hid (P t.list[k] = false) := Lib.hid (by rw [← HP.out]; simp [h5])
          have q1 : (t.list[k].kind == 2) = false := by simp [h5]
          clear h5
          go_wp2_with fail
          go_roundw
          case rel => exact ⟨k + 2, by omega, by go_num, HB'.out.alloc (by omega) _, Lib.hid (by rw [← HF.out, HS.out, HP1.out]; rfl)⟩
          case measure => simp [intOf]; omega
      · have HS := Lib.hid (firstV_end P t.list k hlk)
        go_wp2_with fail
        refine bodyPost_ret (v := .tuple #[itV It.none none 0, .bool false]) (by simp [zeroV, results, Tryd.results24, go_sem, z0, z1, z2, z3]) rfl ⟨?_, ?_⟩
        · rw [← HF.out, HS.out]
          exact rfl
        · exact (((hbw.setCell (by simp; omega) _).setCell (by simp; omega) _).setCell (by simp; omega) _).setCell (by simp; omega) _

set_option maxHeartbeats 1000000 in
set_option maxRecDepth 100000 in
theorem rByInt_any (d : Nat) (B : Nat → Prop) (t : It) (A : Option Addr) (c : Nat) (n : Int) (w : World) (hr : RdL (d + 1) B w A t.list) :
    Calls Tryd.prog 12 #[itV t A c, .int .i64 n] w fun e w' => FindR d B (found (fun k => decide (k.kind = 0) && decide (k.num = n)) t) w e ∧ Below w.heap.size w w' := by
  have H := Lib.hid (rInt_any d B t A c n w ((w.alloc (.cells #[.int .i64 t.kind, .int .i64 t.num, .string ⟨t.text.toArray⟩, .slice A t.list.length c] 24)).alloc (.cells #[.int .i64 0, .int .i64 0, .string ⟨#[]⟩, .slice none 0 0] 24)) (alloc2 w _ _) hr)
  unfold itV at H ⊢
  clear hr
  go_enter Tryd.func12, Tryd.ntmps12
  go_wp2_with fail
  refine H.out.mono ?_
  rintro e w' ⟨hR, hb⟩
  obtain ⟨_, hq, hbw, hbs⟩ := box2 (hb.mono (show w.heap.size + 2 ≤ _ by simp))
  have z0 := cellOf hq 0
  have z1 := cellOf hq 1
  have z2 := cellOf hq 2
  have z3 := cellOf hq 3
  simp at z0 z1 z2 z3
  have y0 := Lib.frozen_of_heap hq 0
  have y1 := Lib.frozen_of_heap hq 1
  have y2 := Lib.frozen_of_heap hq 2
  have y3 := Lib.frozen_of_heap hq 3
  clear hq hb
  generalize hgo : found (fun k => decide (k.kind = 0) && decide (k.num = n)) t = o at hR
  have HO := Lib.hid hgo
  clear hgo
  cases o with
  | none =>
    obtain rfl : e = .returned (.tuple #[itV It.none none 0, .bool false]) := hR
    rw [zeroV]
    go_wp2_with fail
    exact bodyPost_ret (v := .tuple #[itV It.none none 0, .bool false]) (by first | (simp [zeroV, results, Tryd.results12, go_sem, z0, z1, z2, z3]; done) | simp [itV, results, Tryd.results12, go_sem, z0, z1, z2, z3]) rfl ⟨by rw [HO.out]; exact rfl, (((hbw.setCell (by simp) _).setCell (by simp) _).setCell (by simp) _).setCell (by simp) _⟩
  | some x =>
    obtain ⟨A', c', hc', hz, rfl, hr⟩ : ∃ A c, c ≤ 9223372036854775807 ∧ Sz x ∧ e = .returned (.tuple #[itV x A c, .bool true]) ∧ RdL d B w A x.list := hR
    have HR := Lib.hid hr
    clear hr
    unfold itV
    go_wp2_with fail
    exact bodyPost_ret (v := .tuple #[itV x A' c', .bool true]) (by first | (simp [zeroV, results, Tryd.results12, go_sem, z0, z1, z2, z3]; done) | simp [itV, results, Tryd.results12, go_sem, z0, z1, z2, z3]) rfl ⟨by rw [HO.out]; exact ⟨A', c', hc', hz, rfl, HR.out⟩, (((hbw.setCell (by simp) _).setCell (by simp) _).setCell (by simp) _).setCell (by simp) _⟩

set_option maxHeartbeats 1000000 in
set_option maxRecDepth 100000 in
theorem rByText_any (d : Nat) (B : Nat → Prop) (t : It) (A : Option Addr) (c : Nat) (n : List UInt8) (w : World) (hr : RdL (d + 1) B w A t.list) :
    Calls Tryd.prog 14 #[itV t A c, .string ⟨n.toArray⟩] w fun e w' => FindR d B (found (fun k => decide (k.kind = 2) && decide (k.text = n)) t) w e ∧ Below w.heap.size w w' := by
  have H := Lib.hid (rText_any d B t A c n w ((w.alloc (.cells #[.int .i64 t.kind, .int .i64 t.num, .string ⟨t.text.toArray⟩, .slice A t.list.length c] 24)).alloc (.cells #[.int .i64 0, .int .i64 0, .string ⟨#[]⟩, .slice none 0 0] 24)) (alloc2 w _ _) hr)
  unfold itV at H ⊢
  clear hr
  go_enter Tryd.func14, Tryd.ntmps14
  go_wp2_with fail
  refine H.out.mono ?_
  rintro e w' ⟨hR, hb⟩
  obtain ⟨_, hq, hbw, hbs⟩ := box2 (hb.mono (show w.heap.size + 2 ≤ _ by simp))
  have z0 := cellOf hq 0
  have z1 := cellOf hq 1
  have z2 := cellOf hq 2
  have z3 := cellOf hq 3
  simp at z0 z1 z2 z3
  have y0 := Lib.frozen_of_heap hq 0
  have y1 := Lib.frozen_of_heap hq 1
  have y2 := Lib.frozen_of_heap hq 2
  have y3 := Lib.frozen_of_heap hq 3
  clear hq hb
  generalize hgo : found (fun k => decide (k.kind = 2) && decide (k.text = n)) t = o at hR
  have HO := Lib.hid hgo
  clear hgo
  cases o with
  | none =>
    obtain rfl : e = .returned (.tuple #[itV It.none none 0, .bool false]) := hR
    rw [zeroV]
    go_wp2_with fail
    exact bodyPost_ret (v := .tuple #[itV It.none none 0, .bool false]) (by first | (simp [zeroV, results, Tryd.results14, go_sem, z0, z1, z2, z3]; done) | simp [itV, results, Tryd.results14, go_sem, z0, z1, z2, z3]) rfl ⟨by rw [HO.out]; exact rfl, (((hbw.setCell (by simp) _).setCell (by simp) _).setCell (by simp) _).setCell (by simp) _⟩
  | some x =>
    obtain ⟨A', c', hc', hz, rfl, hr⟩ : ∃ A c, c ≤ 9223372036854775807 ∧ Sz x ∧ e = .returned (.tuple #[itV x A c, .bool true]) ∧ RdL d B w A x.list := hR
    have HR := Lib.hid hr
    clear hr
    unfold itV
    go_wp2_with fail
    exact bodyPost_ret (v := .tuple #[itV x A' c', .bool true]) (by first | (simp [zeroV, results, Tryd.results14, go_sem, z0, z1, z2, z3]; done) | simp [itV, results, Tryd.results14, go_sem, z0, z1, z2, z3]) rfl ⟨by rw [HO.out]; exact ⟨A', c', hc', hz, rfl, HR.out⟩, (((hbw.setCell (by simp) _).setCell (by simp) _).setCell (by simp) _).setCell (by simp) _⟩
end Go.Proofs.YtghdcgokndmkjaaDoor
