/- The document's reader: what its item and its Decode answer. Conditions: the library's tables. -/
import Derived.Test.YtghdcgokndmkjaaDoorRe
set_option linter.unusedVariables false
set_option linter.unusedSimpArgs false
set_option maxRecDepth 100000
namespace Go.Proofs.YtghdcgokndmkjaaDoor
open Go.RowKit Go.Sort

theorem fitem_step (sub : Option (List UInt8 → Res It)) (d br : Nat) (s : List UInt8) (a o : Nat) (w : World) (hT : Tb w) (hbr : 2 ≤ br) (hR : Rf br s a w) (hs : s.length ≤ 4096) (ha : a ≤ s.length) (ho : o ≤ 16)
    (h4 : ∀ n m, hd (s.drop a) = some (4, n, m) → Calls Tryd.prog 19 #[.pointer (some ⟨br, 0, none⟩), .int .i64 (o : Int)] w fun e w' => RfR d br s (a + 1) w w' (item Lib.validD sub (s.drop a)) e)
    (h5 : ∀ n m, hd (s.drop a) = some (5, n, m) → Calls Tryd.prog 19 #[.pointer (some ⟨br, 0, none⟩), .int .i64 (o : Int)] w fun e w' => RfR d br s (a + 1) w w' (item Lib.validD sub (s.drop a)) e) :
    Calls Tryd.prog 19 #[.pointer (some ⟨br, 0, none⟩), .int .i64 (o : Int)] w fun e w' => RfR d br s (a + 1) w w' (item Lib.validD sub (s.drop a)) e := by
  rcases hh : hd (s.drop a) with _ | ⟨k, n, m⟩
  · exact fitem_no _ sub d br s a o w hR hs ha ho (fun k n m h => by rw [hh] at h; cases h)
  by_cases hk : k ≤ 5
  rotate_left
  · refine fitem_no _ sub d br s a o w hR hs ha ho (fun k' n' m' h => ?_)
    rw [hh] at h
    simp only [Option.some.injEq, Prod.mk.injEq] at h
    omega
  obtain rfl | rfl | rfl | rfl | rfl | rfl : k = 0 ∨ k = 1 ∨ k = 2 ∨ k = 3 ∨ k = 4 ∨ k = 5 := by omega
  · exact fitem_0 _ sub d br s a o n m w hR hs ha ho hh
  · exact fitem_1 _ sub d br s a o n m w hR hs ha ho hh
  · by_cases hsh : s.length < a + m + n
    · exact fitem_short2 _ sub d br s a o n m w hR hs ha ho hh hsh
    · exact fitem_2 _ sub d br s a o n m w hR hs ha ho hh (by omega)
  · by_cases hsh : s.length < a + m + n
    · exact fitem_short3 _ sub d br s a o n m w hR hs ha ho hh hsh
    · rcases hv : Lib.validD ((s.drop (a + m)).take n) with _ | _
      · exact fitem_3n sub d br s a o n m w hR hs ha ho hh (by omega) hT hbr hv
      · exact fitem_3 sub d br s a o n m w hR hs ha ho hh (by omega) hT hbr hv
  · exact h4 n m hh
  · exact h5 n m hh
theorem fitem_rd (br : Nat) (s : List UInt8) (hbr : 2 ≤ br) (hs : s.length ≤ 4096) : ∀ (d o : Nat), o + d = 16 → ∀ (a : Nat) (w : World), Tb w → Rf br s a w → a ≤ s.length →
    Calls Tryd.prog 19 #[.pointer (some ⟨br, 0, none⟩), .int .i64 (o : Int)] w fun e w' => RfR d br s (a + 1) w w' (dec Lib.validD d (s.drop a)) e
  | 0, o, ho, a, w, hT, hR, ha => by
    exact fitem_step Option.none 0 br s a o w hT hbr hR hs ha (by omega) (fun n m h => fitem_deep4 _ 0 br s a o n m w hR hs ha (by omega) h (by omega)) (fun n m h => fitem_deep5 _ 0 br s a o n m w hR hs ha (by omega) h (by omega))
  | d + 1, o, ho, a, w, hT, hR, ha => by
    have ih := fitem_rd br s hbr hs d (o + 1) (by omega)
    have ih2 : ∀ (a : Nat) (w : World), Tb w → Rf br s a w → a ≤ s.length → Calls Tryd.prog 19 #[.pointer (some ⟨br, 0, none⟩), .int .i64 ((o : Int) + 1)] w fun e w' => RfR d br s (a + 1) w w' (dec Lib.validD d (s.drop a)) e := fun a w h1 h2 h3 => by
      have := ih a w h1 h2 h3
      rw [show ((o + 1 : Nat) : Int) = (o : Int) + 1 from by omega] at this
      exact this
    exact fitem_step (some (dec Lib.validD d)) (d + 1) br s a o w hT hbr hR hs ha (by omega) (fun n m h => fitem_list _ d br s a o n m _ w hR hs ha (by omega) h (by omega) hT hbr ih2) (fun n m h => fitem_map _ d br s a o n m _ w hR hs ha (by omega) h (by omega) hT hbr ih2)

set_option maxHeartbeats 4000000 in
theorem refdec_long (s : List UInt8) (w : World) (hs : 4096 < s.length) (hs2 : s.length ≤ 9223372036854775807) :
    Calls Tryd.prog 8 #[.string ⟨s.toArray⟩] w fun e w' => DecR w.heap.size (decR Lib.validD s) w' e ∧ Below w.heap.size w w' := by
  have HE : Hid (decR Lib.validD s = (It.none, 0, 32)) := Lib.hid (by unfold decR; rw [if_pos hs])
  have hsz : (⟨s.toArray⟩ : ByteArray).size = s.length := by simp [ByteArray.size]
  have hd0 : decide (4096 < s.length) = true := by simp; omega
  have hd1 : decide (4096 < (s.length : Int)) = true := by simp; omega
  have HA : Hid (Below w.heap.size w (w.alloc (.cells #[.int .i64 0, .int .i64 0, .string ⟨#[]⟩, .slice none 0 0] 24))) := Lib.hid ((Below.refl _ _).alloc (Nat.le_refl _) _)
  go_enter Tryd.func8, Tryd.ntmps8
  go_wp2_with fail
  refine bodyPost_ret (v := .tuple #[.agg #[.int .i64 0, .int .i64 0, .string ⟨#[]⟩, .slice none 0 0], .int .i64 0, .int .i64 32]) (by simp [results, Tryd.results8, go_sem]) rfl ?_
  rw [HE.out]
  exact ⟨DecR.no, HA.out⟩
set_option maxHeartbeats 4000000 in
theorem refdec_short (s : List UInt8) (w : World) (hs : s.length ≤ 4096) (hT : Tb w) :
    Calls Tryd.prog 8 #[.string ⟨s.toArray⟩] w fun e w' => DecR w.heap.size (decR Lib.validD s) w' e ∧ Below w.heap.size w w' := by
  have hw0 : 0 < w.heap.size := Nat.lt_of_le_of_lt (Nat.zero_le _) (World.block_lt_of_cell? w _ (hT.1 0 (by decide)))
  have hsz : (⟨s.toArray⟩ : ByteArray).size = s.length := by simp [ByteArray.size]
  have hd0 : decide (4096 < s.length) = false := by simp; omega
  have hd1 : decide (4096 < (s.length : Int)) = false := by simp; omega
  have ha : Below w.heap.size w ((w.alloc (.cells #[.int .i64 0, .int .i64 0, .string ⟨#[]⟩, .slice none 0 0] 24)).alloc (.cells #[.string ⟨s.toArray⟩, .int .i64 0] 46)) := ((Below.refl _ _).alloc (Nat.le_refl _) _).alloc (by simp) _
  have hq : ((w.alloc (.cells #[.int .i64 0, .int .i64 0, .string ⟨#[]⟩, .slice none 0 0] 24)).alloc (.cells #[.string ⟨s.toArray⟩, .int .i64 0] 46)).heap[w.heap.size]? = some (.cells #[.int .i64 0, .int .i64 0, .string ⟨#[]⟩, .slice none 0 0] 24 (0, 0)) :=
    (Below.heap_alloc _ _ _ (by simp)).trans (Go.heap_alloc_new w _)
  have hr : Rf (w.heap.size + 1) s 0 ((w.alloc (.cells #[.int .i64 0, .int .i64 0, .string ⟨#[]⟩, .slice none 0 0] 24)).alloc (.cells #[.string ⟨s.toArray⟩, .int .i64 0] 46)) := by
    have := Go.heap_alloc_new (w.alloc (.cells #[.int .i64 0, .int .i64 0, .string ⟨#[]⟩, .slice none 0 0] 24)) (.cells #[.string ⟨s.toArray⟩, .int .i64 0] 46)
    unfold Rf
    simpa using this
  have hsz2 : ((w.alloc (.cells #[.int .i64 0, .int .i64 0, .string ⟨#[]⟩, .slice none 0 0] 24)).alloc (.cells #[.string ⟨s.toArray⟩, .int .i64 0] 46)).heap.size = w.heap.size + 2 := by simp
  have HI := Lib.hid (fitem_rd (w.heap.size + 1) s (by omega) hs 16 0 (by omega) 0 _ (hT.below ha) hr (by omega))
  have HA := Lib.hid ha
  have HQ := Lib.hid hq
  have HSZ := Lib.hid hsz2
  clear ha hq hr hsz2 hT hw0
  go_enter Tryd.func8, Tryd.ntmps8
  go_wp2_with fail
  generalize (w.alloc (.cells #[.int .i64 0, .int .i64 0, .string ⟨#[]⟩, .slice none 0 0] 24)).alloc (.cells #[.string ⟨s.toArray⟩, .int .i64 0] 46) = wr at HI HA HQ HSZ ⊢
  refine HI.out.mono ?_
  intro e w4 h4
  match hres : dec Lib.validD 16 (s.drop 0), h4 with
  | .error deep, h4 =>
    obtain ⟨rfl, k4⟩ := h4
    have HE : Hid (decR Lib.validD s = (It.none, 0, errN deep)) := Lib.hid (by
      rw [List.drop_zero] at hres
      unfold decR; rw [if_neg (by omega), hres])
    obtain ⟨N, hN, hN0⟩ : ∃ N : Int, errN deep = N ∧ N ≠ 0 := ⟨_, rfl, by cases deep <;> decide⟩
    rw [hN]
    have hN1 : (N == 0) = false := by simpa using hN0
    have hN2 : decide (N = 0) = false := by simpa using hN0
    have hN3 : (N != 0) = true := by simpa using hN0
    have HN := Lib.hid hN
    have HA4 := Lib.hid (HA.out.trans ((k4.older (by have := HSZ.out; omega)).mono (by omega)))
    have Q4 := Lib.hid (k4.heap HQ.out (by omega))
    have hal4 : Below w4.heap.size w4 (w4.alloc (.cells #[.int .i64 0, .int .i64 0, .string ⟨#[]⟩, .slice none 0 0] 24)) := (Below.refl _ _).alloc (Nat.le_refl _) _
    have HA5 := Lib.hid (HA4.out.trans (hal4.mono (by have := HA4.out.size; omega)))
    have Q5 := Lib.hid ((hal4.block _ (Array.getElem?_eq_some_iff.1 Q4.out).1).trans Q4.out)
    clear k4 hal4 hN hres HI HA HQ HSZ
    have c0 := cellOf Q5.out 0
    have c1 := cellOf Q5.out 1
    have c2 := cellOf Q5.out 2
    have c3 := cellOf Q5.out 3
    simp at c0 c1 c2 c3
    have f0 := Lib.frozen_of_heap Q5.out 0
    have f1 := Lib.frozen_of_heap Q5.out 1
    have f2 := Lib.frozen_of_heap Q5.out 2
    have f3 := Lib.frozen_of_heap Q5.out 3
    go_wp2_with fail
    refine bodyPost_ret (v := .tuple #[.agg #[.int .i64 0, .int .i64 0, .string ⟨#[]⟩, .slice none 0 0], .int .i64 0, .int .i64 N]) (by simp [results, Tryd.results8, go_sem, c0, c1, c2, c3]) rfl ?_
    rw [HE.out, HN.out]
    exact ⟨DecR.no, S4.below HA5.out (Nat.le_refl _)⟩
  | .ok (t, rest), h4 =>
    obtain ⟨A, c, a', hc, hlo, ha', hrest, rfl, hz, hrd, _, r4, k4⟩ := h4
    have HE : Hid (decR Lib.validD s = (t, a', 0)) := Lib.hid (by
      rw [List.drop_zero] at hres
      unfold decR; rw [if_neg (by omega), hres, hrest]
      simp only [List.length_drop, Prod.mk.injEq, true_and, and_true]
      omega)
    have HA4 := Lib.hid (HA.out.trans ((k4.older (by have := HSZ.out; omega)).mono (by omega)))
    have HRD := Lib.hid (hrd.mono (B' := fun b => w.heap.size + 2 ≤ b) (fun b hb => by have := HSZ.out; omega))
    have Q4 := Lib.hid (k4.heap HQ.out (by omega))
    have hal4 : Below w4.heap.size w4 (w4.alloc (.cells #[.int .i64 t.kind, .int .i64 t.num, .string ⟨t.text.toArray⟩, .slice A t.list.length c] 24)) := (Below.refl _ _).alloc (Nat.le_refl _) _
    have HA5 := Lib.hid (HA4.out.trans (hal4.mono (by have := HA4.out.size; omega)))
    have Q5 := Lib.hid ((hal4.block _ (Array.getElem?_eq_some_iff.1 Q4.out).1).trans Q4.out)
    have HB5 := Lib.hid (Go.heap_alloc_new w4 (.cells #[.int .i64 t.kind, .int .i64 t.num, .string ⟨t.text.toArray⟩, .slice A t.list.length c] 24))
    have HRD5 := Lib.hid (HRD.out.below hal4)
    have R5 := Lib.hid (r4.below hal4)
    have HZ := Lib.hid hz
    have hs4 : w.heap.size + 2 ≤ w4.heap.size := by have := k4.size; have := HSZ.out; omega
    clear k4 hal4 hres HI HA HQ HSZ HA4 HRD Q4 hz hrd hrest r4
    unfold itV
    go_wp2_with fail
    generalize hkb : w4.heap.size = kb at HB5 hs4 ⊢
    generalize w4.alloc (.cells #[.int .i64 t.kind, .int .i64 t.num, .string ⟨t.text.toArray⟩, .slice A t.list.length c] 24) = w5 at HA5 Q5 HB5 HRD5 R5 ⊢
    clear hkb
    have c0 := cellOf Q5.out 0
    have c1 := cellOf Q5.out 1
    have c2 := cellOf Q5.out 2
    have c3 := cellOf Q5.out 3
    have b0 := cellOf HB5.out 0
    have b1 := cellOf HB5.out 1
    have b2 := cellOf HB5.out 2
    have b3 := cellOf HB5.out 3
    simp at c0 c1 c2 c3 b0 b1 b2 b3
    have f0 := Lib.frozen_of_heap Q5.out 0
    have f1 := Lib.frozen_of_heap Q5.out 1
    have f2 := Lib.frozen_of_heap Q5.out 2
    have f3 := Lib.frozen_of_heap Q5.out 3
    obtain ⟨r0, r1, r2⟩ := R5.out.facts
    go_wp2_with fail
    go_region
    all_goals
      go_wp2_with fail
      refine bodyPost_ret (v := .tuple #[itV t A c, .int .i64 a', .int .i64 0]) (by simp [itV, results, Tryd.results8, go_sem, c0, c1, c2, c3]) rfl ?_
      rw [HE.out]
      refine ⟨⟨A, c, hc, rfl, HZ.out, ?_, by show a' ≤ 4096; omega⟩, ?_⟩
      · exact (HRD5.out.set4 (k := w.heap.size) (v0 := .int .i64 t.kind) (v1 := .int .i64 t.num) (v2 := .string ⟨t.text.toArray⟩) (v3 := .slice A t.list.length c) (by omega)).drew.mono fun b hb => by omega
      · exact (S4.below (v0 := .int .i64 t.kind) (v1 := .int .i64 t.num) (v2 := .string ⟨t.text.toArray⟩) (v3 := .slice A t.list.length c) HA5.out (Nat.le_refl _)).drew
theorem refdec_any (s : List UInt8) (w : World) (hs : s.length ≤ 9223372036854775807) (hT : Tb w) :
    Calls Tryd.prog 8 #[.string ⟨s.toArray⟩] w fun e w' => DecR w.heap.size (decR Lib.validD s) w' e ∧ Below w.heap.size w w' := by
  by_cases h : s.length ≤ 4096
  · exact refdec_short s w h hT
  · exact refdec_long s w (by omega) hs
end Go.Proofs.YtghdcgokndmkjaaDoor
