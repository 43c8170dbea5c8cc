/- Decode once more: its list may be written (what CborReads does to it). Conditions: the library's tables. -/
import Derived.Test.YtghdcgokndmkjaaDoorY
set_option linter.unusedVariables false
set_option linter.unusedSimpArgs false
namespace Go.Proofs.YtghdcgokndmkjaaDoor
open Go.RowKit Go.Sort

/-- .. and its list's elements may be written -/
def DecT (W : Nat) (x : It × Nat × Int) (w' : World) (e : Ending) : Prop :=
  ∃ A c, c ≤ 9223372036854775807 ∧ e = .returned (.tuple #[itV x.1 A c, .int .i64 x.2.1, .int .i64 x.2.2]) ∧ Sz x.1 ∧ RdL 16 (fun b => W ≤ b) w' A x.1.list ∧ x.2.1 ≤ 4096 ∧ Top W w' A x.1.list.length
theorem DecT.of {W : Nat} {x : It × Nat × Int} {w' : World} {e : Ending} (h : DecR W x w' e) (hl : x.1.list = []) : DecT W x w' e := by
  obtain ⟨A, c, h1, h2, h3, h4, h5⟩ := h
  exact ⟨A, c, h1, h2, h3, h4, h5, .inl (by rw [hl]; rfl)⟩
theorem Top.drew {B : Nat} {w : World} {A : Option Addr} {n : Nat} (h : Top B w A n) : Top B w.drew A n := h

set_option maxHeartbeats 4000000 in
set_option maxRecDepth 100000 in
theorem decode_top (s : List UInt8) (w : World) (hs : s.length ≤ 4096) (hT : Tb w) :
    Calls Tryd.prog 7 #[.string ⟨s.toArray⟩] w fun e w' => DecT w.heap.size (decR Lib.validD s) w' e ∧ Below w.heap.size w w' := by
  have hmf : ∀ (fn : Fn) (first cap : Array Value) (w : World), (Instr.makeFunc fn first cap).run Tryd.prog w = .ok (.func fn first cap) w := fun _ _ _ _ => rfl
  have ha : Below w.heap.size w (((w.alloc (.cells #[.int .i64 0, .int .i64 0, .string ⟨#[]⟩, .slice none 0 0] 24)).alloc (.cells #[.int .i64 0] 3)).alloc (.cells #[.int .i64 0] 25)) := (((Below.refl _ _).alloc (Nat.le_refl _) _).alloc (by simp) _).alloc (by simp; omega) _
  have ha4 : Below w.heap.size w ((((w.alloc (.cells #[.int .i64 0, .int .i64 0, .string ⟨#[]⟩, .slice none 0 0] 24)).alloc (.cells #[.int .i64 0] 3)).alloc (.cells #[.int .i64 0] 25)).alloc (.cells #[.string ⟨s.toArray⟩, .int .i64 0, .int .i64 0] 42)) := ha.alloc (by simp; omega) _
  have hb3 : Below (w.heap.size + 3) (((w.alloc (.cells #[.int .i64 0, .int .i64 0, .string ⟨#[]⟩, .slice none 0 0] 24)).alloc (.cells #[.int .i64 0] 3)).alloc (.cells #[.int .i64 0] 25)) ((((w.alloc (.cells #[.int .i64 0, .int .i64 0, .string ⟨#[]⟩, .slice none 0 0] 24)).alloc (.cells #[.int .i64 0] 3)).alloc (.cells #[.int .i64 0] 25)).alloc (.cells #[.string ⟨s.toArray⟩, .int .i64 0, .int .i64 0] 42)) := (Below.refl _ _).alloc (by simp) _
  obtain ⟨h0, h1, h2, _, _⟩ := box3 hb3
  have hsz : ((((w.alloc (.cells #[.int .i64 0, .int .i64 0, .string ⟨#[]⟩, .slice none 0 0] 24)).alloc (.cells #[.int .i64 0] 3)).alloc (.cells #[.int .i64 0] 25)).alloc (.cells #[.string ⟨s.toArray⟩, .int .i64 0, .int .i64 0] 42)).heap.size = w.heap.size + 4 := by simp
  have hrd : Rdr (w.heap.size + 1 + 1 + 1) s 0 0 ((((w.alloc (.cells #[.int .i64 0, .int .i64 0, .string ⟨#[]⟩, .slice none 0 0] 24)).alloc (.cells #[.int .i64 0] 3)).alloc (.cells #[.int .i64 0] 25)).alloc (.cells #[.string ⟨s.toArray⟩, .int .i64 0, .int .i64 0] 42)) := by
    have := Go.heap_alloc_new (((w.alloc (.cells #[.int .i64 0, .int .i64 0, .string ⟨#[]⟩, .slice none 0 0] 24)).alloc (.cells #[.int .i64 0] 3)).alloc (.cells #[.int .i64 0] 25)) (.cells #[.string ⟨s.toArray⟩, .int .i64 0, .int .i64 0] 42)
    unfold Rdr
    simpa using this
  have HI := Lib.hid (item_rd (w.heap.size + 1 + 1 + 1) s (by omega) hs 16 0 (by omega) 0 _ (hT.below ha4) hrd (by omega))
  have HB0 := Lib.hid h0
  have HB1 := Lib.hid h1
  have HB2 := Lib.hid h2
  have HA := Lib.hid ha4
  have HSZ := Lib.hid hsz
  have hlen : (⟨s.toArray⟩ : ByteArray).size = s.length := by simp [ByteArray.size]
  clear ha ha4 hb3 h0 h1 h2 hsz hrd hT
  go_enter_defers Tryd.func7, Tryd.ntmps7
  go_wp2_with fail
  generalize (((w.alloc (.cells #[.int .i64 0, .int .i64 0, .string ⟨#[]⟩, .slice none 0 0] 24)).alloc (.cells #[.int .i64 0] 3)).alloc (.cells #[.int .i64 0] 25)).alloc (.cells #[.string ⟨s.toArray⟩, .int .i64 0, .int .i64 0] 42) = wr at HI HB0 HB1 HB2 HA HSZ ⊢
  refine HI.out.mono ?_
  intro e w4 h4
  rcases h4.cases with ⟨deep, h5, rfl, k4⟩ | ⟨t, A, c, a', h5, hc, hlo, ha', rfl, hz, hrd, htop, r4, k4⟩
  · have HE : Hid (decR Lib.validD s = (It.none, 0, errN deep)) := Lib.hid (by
      rw [List.drop_zero] at h5
      unfold decR; rw [if_neg (by omega), h5])
    have HA4 := Lib.hid (HA.out.trans ((k4.older (by have := HSZ.out; omega)).mono (by omega)))
    have B0 := k4.heap HB0.out (by omega)
    have B1 := k4.heap HB1.out (by omega)
    have B2 := k4.heap HB2.out (by omega)
    have z0 := cellOf B0 0
    have z1 := cellOf B0 1
    have z2 := cellOf B0 2
    have z3 := cellOf B0 3
    have c1 := cellOf B1 0
    have c2 := cellOf B2 0
    simp at z0 z1 z2 z3 c1 c2
    have y0 := Lib.frozen_of_heap B0 0
    have y1 := Lib.frozen_of_heap B0 1
    have y2 := Lib.frozen_of_heap B0 2
    have y3 := Lib.frozen_of_heap B0 3
    have f1 := Lib.frozen_of_heap B1 0
    have f2 := Lib.frozen_of_heap B2 0
    clear h4 h5 k4 B0 B1 B2 HI HB0 HB1 HB2 HA
    refine leaves_cons (f := 17) (args := #[.pointer (some ⟨w.heap.size, 0, none⟩), .pointer (some ⟨w.heap.size + 1, 0, none⟩), .pointer (some ⟨w.heap.size + 1 + 1, 0, none⟩)]) (by simp) (by simp [go_sem]) ?_
    refine (dcatch_panicking w.heap.size (w.heap.size + 1) (w.heap.size + 1 + 1) (errN deep) [] w4 _ _ _ _ _ _ z0 z1 z2 z3 c1 c2 y0 y1 y2 y3 f1 f2 (by omega) (by omega) (by omega)).mono ?_
    rintro e u' w5 ⟨rfl, rfl, rfl⟩
    refine ⟨.tuple #[.agg #[.int .i64 0, .int .i64 0, .string ⟨#[]⟩, .slice none 0 0], .int .i64 0, .int .i64 (errN deep)], by simp [results, Tryd.results7, go_sem, S4, z0, z1, z2, z3, c1, c2], by rw [HE.out]; exact DecT.of DecR.no rfl, ?_⟩
    exact (((S4.below HA4.out (Nat.le_refl _)).setCell (by simp) _).setCell (by simp; omega) _).drew
  · have HE : Hid (decR Lib.validD s = (t, a', 0)) := Lib.hid (by
      rw [List.drop_zero] at h5
      unfold decR; rw [if_neg (by omega), h5]
      simp only [List.length_drop, Prod.mk.injEq, true_and, and_true]
      omega)
    have HA4 := Lib.hid (HA.out.trans ((k4.older (by have := HSZ.out; omega)).mono (by omega)))
    have HRD := Lib.hid (hrd.mono (B' := fun b => w.heap.size + 4 ≤ b) (fun b hb => by have := HSZ.out; omega))
    have HTP := Lib.hid (htop.mono (B' := w.heap.size + 4) (by have := HSZ.out; omega))
    have HZ := Lib.hid hz
    have HR4 := Lib.hid r4
    have HB0 := Lib.hid (k4.heap HB0.out (by omega))
    have HB1 := Lib.hid (k4.heap HB1.out (by omega))
    have HB2 := Lib.hid (k4.heap HB2.out (by omega))
    have z0 := cellOf HB0.out 0
    have z1 := cellOf HB0.out 1
    have z2 := cellOf HB0.out 2
    have z3 := cellOf HB0.out 3
    simp at z0 z1 z2 z3
    have y0 := Lib.frozen_of_heap HB0.out 0
    have y1 := Lib.frozen_of_heap HB0.out 1
    have y2 := Lib.frozen_of_heap HB0.out 2
    have y3 := Lib.frozen_of_heap HB0.out 3
    clear h4 h5 k4 hz hrd htop r4 HI HA HSZ
    unfold itV
    go_wp2_with fail
    have HA5 := Lib.hid (S4.below (v0 := .int .i64 t.kind) (v1 := .int .i64 t.num) (v2 := .string ⟨t.text.toArray⟩) (v3 := .slice A t.list.length c) HA4.out (Nat.le_refl _))
    have HRD5 := Lib.hid (HRD.out.set4 (k := w.heap.size) (v0 := .int .i64 t.kind) (v1 := .int .i64 t.num) (v2 := .string ⟨t.text.toArray⟩) (v3 := .slice A t.list.length c) (by omega))
    have HT5 := Lib.hid (HTP.out.set4 (k := w.heap.size) (v0 := .int .i64 t.kind) (v1 := .int .i64 t.num) (v2 := .string ⟨t.text.toArray⟩) (v3 := .slice A t.list.length c) (by omega))
    have HR5 := Lib.hid (HR4.out.set4 (k := w.heap.size) (v0 := .int .i64 t.kind) (v1 := .int .i64 t.num) (v2 := .string ⟨t.text.toArray⟩) (v3 := .slice A t.list.length c) (by omega))
    have b0 := S4.new (v0 := .int .i64 t.kind) (v1 := .int .i64 t.num) (v2 := .string ⟨t.text.toArray⟩) (v3 := .slice A t.list.length c) HB0.out
    have b1 := (S4.block (v0 := .int .i64 t.kind) (v1 := .int .i64 t.num) (v2 := .string ⟨t.text.toArray⟩) (v3 := .slice A t.list.length c) (k := w.heap.size) (j := w.heap.size + 1) (by omega)).trans HB1.out
    have b2 := (S4.block (v0 := .int .i64 t.kind) (v1 := .int .i64 t.num) (v2 := .string ⟨t.text.toArray⟩) (v3 := .slice A t.list.length c) (k := w.heap.size) (j := w.heap.size + 1 + 1) (by omega)).trans HB2.out
    clear z0 z1 z2 z3 y0 y1 y2 y3 HA4 HRD HR4 HTP HB0 HB1 HB2
    unfold S4 at HA5 HRD5 HR5 HT5 b0 b1 b2
    generalize (((w4.setCell ⟨w.heap.size, 0, none⟩ (.int .i64 t.kind)).setCell ⟨w.heap.size, 1, none⟩ (.int .i64 t.num)).setCell ⟨w.heap.size, 2, none⟩ (.string ⟨t.text.toArray⟩)).setCell ⟨w.heap.size, 3, none⟩ (.slice A t.list.length c) = w5 at HA5 HRD5 HR5 HT5 b0 b1 b2 ⊢
    have z0 := cellOf b0 0
    have z1 := cellOf b0 1
    have z2 := cellOf b0 2
    have z3 := cellOf b0 3
    have c1 := cellOf b1 0
    have c2 := cellOf b2 0
    simp at z0 z1 z2 z3 c1 c2
    have y0 := Lib.frozen_of_heap b0 0
    have y1 := Lib.frozen_of_heap b0 1
    have y2 := Lib.frozen_of_heap b0 2
    have y3 := Lib.frozen_of_heap b0 3
    have f1 := Lib.frozen_of_heap b1 0
    have f2 := Lib.frozen_of_heap b2 0
    obtain ⟨r0, r1, r2, _, _⟩ := HR5.out.facts
    clear b0 b1 b2 r2
    go_wp2_with fail
    go_region
    all_goals
      go_wp2_with fail
      refine leaves_cons (f := 17) (args := #[.pointer (some ⟨w.heap.size, 0, none⟩), .pointer (some ⟨w.heap.size + 1, 0, none⟩), .pointer (some ⟨w.heap.size + 1 + 1, 0, none⟩)]) (by simp) (by simp [go_sem]) ?_
      refine (dcatch_idle _ _ _ _).mono ?_
      rintro e u' w6 ⟨rfl, rfl, rfl⟩
      refine ⟨.tuple #[itV t A c, .int .i64 a', .int .i64 0], by simp [itV, results, Tryd.results7, go_sem, z0, z1, z2, z3, c1, c2], ?_, ?_⟩
      · rw [HE.out]
        refine ⟨A, c, hc, rfl, HZ.out, ?_, by show a' ≤ 4096; omega, ?_⟩
        · exact (((HRD5.out.set4 (k := w.heap.size) (by omega)).put (k := w.heap.size + 1) (by omega) 0 _).put (k := w.heap.size + 1 + 1) (by omega) 0 _).drew.mono fun b hb => by omega
        · exact ((((((HT5.out.set4 (k := w.heap.size) (by omega)).setbr (br := w.heap.size + 1) (by omega) 0 _).setbr (br := w.heap.size + 1 + 1) (by omega) 0 _).drew).mono (by omega)))
      · exact (((S4.below HA5.out (Nat.le_refl _)).setCell (by simp) _).setCell (by simp; omega) _).drew
theorem decode7 (s : List UInt8) (w : World) (hs : s.length ≤ 9223372036854775807) (hT : Tb w) :
    Calls Tryd.prog 7 #[.string ⟨s.toArray⟩] w fun e w' => DecT w.heap.size (decR Lib.validD s) w' e ∧ Below w.heap.size w w' := by
  by_cases h : s.length ≤ 4096
  · exact decode_top s w h hT
  · exact (decode_long s w (by omega) hs).mono fun e w' ⟨h1, h2⟩ => ⟨DecT.of h1 (by unfold decR; rw [if_pos (by omega)]; rfl), h2⟩
end Go.Proofs.YtghdcgokndmkjaaDoor
