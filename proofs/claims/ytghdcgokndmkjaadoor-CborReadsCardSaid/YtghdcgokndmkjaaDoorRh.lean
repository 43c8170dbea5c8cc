/- CborReads: Decode and the document's Decode tell the same, twice, whatever is done to the first one's list. Conditions: the library's tables. -/
import Derived.Test.YtghdcgokndmkjaaDoorRf
import Derived.Test.YtghdcgokndmkjaaDoorRg
import Derived.Test.YtghdcgokndmkjaaDoorZ
set_option linter.unusedVariables false
set_option linter.unusedSimpArgs false
set_option maxRecDepth 100000
namespace Go.Proofs.YtghdcgokndmkjaaDoor
open Go.RowKit Go.Sort

/-- the list of n items at A may be written; it lies ahead of block K -/
def Tq (B K n : Nat) (w : World) (A : Option Addr) : Prop := n = 0 ∨ ∃ g cur, A = some ⟨g, 0, none⟩ ∧ B ≤ g ∧ g < K ∧ w.heap[g]? = some (.cells cur 24 (0, 0)) ∧ n * 4 ≤ cur.size
theorem Tq.of {B B' n : Nat} {w : World} {A : Option Addr} (h : Top B w A n) (hB : B' ≤ B) : Tq B' w.heap.size n w A := by
  rcases h with h | ⟨g, cur, h1, h2, h3, h4⟩
  · exact .inl h
  · exact .inr ⟨g, cur, h1, Nat.le_trans hB h2, (Array.getElem?_eq_some_iff.1 h3).1, h3, h4⟩
theorem Tq.below {B K n : Nat} {w w' : World} {A : Option Addr} (h : Tq B K n w A) (hb : Below w.heap.size w w') : Tq B K n w' A := by
  rcases h with h | ⟨g, cur, h1, h2, h3, h4, h5⟩
  · exact .inl h
  · exact .inr ⟨g, cur, h1, h2, h3, (hb.block _ (Array.getElem?_eq_some_iff.1 h4).1).trans h4, h5⟩
theorem Tq.put {B K n b : Nat} {w : World} {A : Option Addr} (h : Tq B K n w A) (o : Nat) (v : Value) : Tq B K n (w.setCell ⟨b, o, none⟩ v) A := by
  rcases h with h | ⟨g, cur, h1, h2, h3, h4, h5⟩
  · exact .inl h
  · by_cases hg : g = b
    · subst hg
      have := heap_setCell_same w g o _ _ v h4
      exact .inr ⟨g, _, h1, h2, h3, this, by simpa using h5⟩
    · exact .inr ⟨g, cur, h1, h2, h3, (Below.heap_setCell _ _ _ _ hg).trans h4, h5⟩
set_option maxHeartbeats 4000000 in
theorem reads_walk (s : List UInt8) (w : World) (hs : s.length ≤ 9223372036854775807) (hT : Tb w) :
    Calls Tryd.prog 3 #[.string ⟨s.toArray⟩] w fun e w' => e = .returned (.bool true) ∧ Below w.heap.size w w' := by
  have HTb := Lib.hid hT
  clear hT
  go_enter Tryd.func3, Tryd.ntmps3
  go_wp2_with fail
  go_loopw [3] (fun i wr => ∃ k : Nat, k ≤ 2 ∧ i = .int .i64 k ∧ Hid (Below w.heap.size w wr)) (fun i _ => 2 - (intOf i).toNat)
  case atStart => exact ⟨0, by omega, rfl, Lib.hid (Below.refl _ _)⟩
  case round =>
    obtain ⟨k, hk, rfl, HB⟩ := hrel
    by_cases hlk : k < 2
    rotate_left
    · go_wp2_with fail
      refine (awake_any _ (HTb.out.below HB.out)).mono ?_
      rintro e w1 ⟨rfl, hb1⟩
      have HB1 := Lib.hid (HB.out.trans (hb1.mono HB.out.size))
      clear hb1
      go_wp2_with fail
      go_returns
      exact ⟨rfl, HB1.out⟩
    go_wp2_with fail
    refine (decode7 s wr hs (HTb.out.below HB.out)).mono ?_
    generalize hx : decR Lib.validD s = x
    obtain ⟨t, nn, er⟩ := x
    rintro e w1 ⟨⟨A, c, hc, rfl, hz, hrd, hle, htop⟩, hb1⟩
    have hal1 : Below w1.heap.size w1 (w1.alloc (.cells #[.int .i64 t.kind, .int .i64 t.num, .string ⟨t.text.toArray⟩, .slice A t.list.length c] 24)) := (Below.refl _ _).alloc (Nat.le_refl _) _
    have HB1 := Lib.hid (HB.out.trans (hb1.mono HB.out.size))
    have HB2 := Lib.hid (HB1.out.trans (hal1.mono HB1.out.size))
    have HV2 := Lib.hid (Go.heap_alloc_new w1 (.cells #[.int .i64 t.kind, .int .i64 t.num, .string ⟨t.text.toArray⟩, .slice A t.list.length c] 24))
    have HRD2 := Lib.hid (hrd.below hal1)
    have HTP2 := Lib.hid ((Tq.of htop HB.out.size).below hal1)
    have HX := Lib.hid hx
    have HZ := Lib.hid hz
    have hs2 : w1.heap.size + 1 ≤ (w1.alloc (.cells #[.int .i64 t.kind, .int .i64 t.num, .string ⟨t.text.toArray⟩, .slice A t.list.length c] 24)).heap.size := by simp
    have hs1 : w.heap.size ≤ w1.heap.size := HB1.out.size
    clear hb1 hal1 hrd htop hx hz hle
    unfold itV
    go_wp2_with fail
    generalize hkb : w1.heap.size = kb at HV2 HTP2 hs2 hs1 ⊢
    generalize w1.alloc (.cells #[.int .i64 t.kind, .int .i64 t.num, .string ⟨t.text.toArray⟩, .slice A t.list.length c] 24) = w2 at HB2 HV2 HRD2 HTP2 hs2 ⊢
    clear hkb
    refine (refdec_any s w2 hs (HTb.out.below HB2.out)).mono ?_
    rw [HX.out]
    rintro e w3 ⟨⟨A', c', hc', rfl, _, hrd3, _⟩, hb3⟩
    have HB3 := Lib.hid (HB2.out.trans (hb3.mono HB2.out.size))
    have HV3 := Lib.hid ((hb3.block _ (Array.getElem?_eq_some_iff.1 HV2.out).1).trans HV2.out)
    have HRD3 := Lib.hid (HRD2.out.below hb3)
    have HTP3 := Lib.hid (HTP2.out.below hb3)
    have hal3 : Below w3.heap.size w3 (w3.alloc (.cells #[.int .i64 t.kind, .int .i64 t.num, .string ⟨t.text.toArray⟩, .slice A' t.list.length c'] 24)) := (Below.refl _ _).alloc (Nat.le_refl _) _
    have HB4 := Lib.hid (HB3.out.trans (hal3.mono HB3.out.size))
    have HV4 := Lib.hid ((hal3.block _ (Array.getElem?_eq_some_iff.1 HV3.out).1).trans HV3.out)
    have HU4 := Lib.hid (Go.heap_alloc_new w3 (.cells #[.int .i64 t.kind, .int .i64 t.num, .string ⟨t.text.toArray⟩, .slice A' t.list.length c'] 24))
    have HRD4 := Lib.hid (HRD3.out.below hal3)
    have HRE4 := Lib.hid (hrd3.below hal3)
    have HTP4 := Lib.hid (HTP3.out.below hal3)
    have v0 := cellOf HV4.out 0
    have v1 := cellOf HV4.out 1
    have v2 := cellOf HV4.out 2
    have v3 := cellOf HV4.out 3
    simp at v0 v1 v2 v3
    clear hb3 hrd3 hal3
    unfold itV
    go_wp2_with fail
    refine (same_any 16 (fun b => w.heap.size ≤ b) t A A' c c' _ hc hc' (HRD4.out.mono fun b hb => by have := HB.out.size; omega) (HRE4.out.mono fun b hb => by have := HB2.out.size; omega)).mono ?_
    rintro e w5 ⟨rfl, hb5⟩
    have HB5 := Lib.hid (HB4.out.trans (hb5.mono HB4.out.size))
    have HV5 := Lib.hid ((hb5.block _ (Array.getElem?_eq_some_iff.1 HV4.out).1).trans HV4.out)
    have HTP5 := Lib.hid (HTP4.out.below hb5)
    have hL : t.list.length ≤ 140737488355328 := HRD4.out.length
    clear hb5 HB1 HB2 HB3 HB4 HV2 HV3 HV4 HU4 HRD2 HRD3 HRD4 HRE4 HTP2 HTP3 HTP4 v0 v1 v2 v3 hs2
    go_wp2_with fail
    go_loopw [10] (fun i wr2 => ∃ j : Nat, j ≤ t.list.length ∧ i = .int .i64 j ∧ Hid (Below w.heap.size w wr2) ∧ Hid (wr2.heap[kb]? = some (.cells #[.int .i64 t.kind, .int .i64 t.num, .string ⟨t.text.toArray⟩, .slice A t.list.length c] 24 (0, 0))) ∧ Hid (Tq w.heap.size kb t.list.length wr2 A)) (fun i _ => t.list.length - (intOf i).toNat)
    case atStart => exact ⟨0, by omega, rfl, HB5, HV5, HTP5⟩
    case round =>
      clear HB5 HV5 HTP5
      obtain ⟨j, hj, rfl, HBj, HVj, HTj⟩ := hrel
      have v0 := cellOf HVj.out 0
      have v1 := cellOf HVj.out 1
      have v2 := cellOf HVj.out 2
      have v3 := cellOf HVj.out 3
      simp at v0 v1 v2 v3
      by_cases hlj : j < t.list.length
      · rcases HTj.out with h | ⟨g, cur, rfl, hBg, hgK, hcur, hn⟩
        · omega
        obtain ⟨q0, o0⟩ : ∃ q, wr.cell? ⟨g, j * 4, none⟩ = some q := ⟨cur[j * 4]'(by omega), by rw [cellOf hcur]; simp⟩
        obtain ⟨q1, o1⟩ : ∃ q, wr.cell? ⟨g, j * 4 + 1, none⟩ = some q := ⟨cur[j * 4 + 1]'(by omega), by rw [cellOf hcur]; simp⟩
        obtain ⟨q2, o2⟩ : ∃ q, wr.cell? ⟨g, j * 4 + 2, none⟩ = some q := ⟨cur[j * 4 + 2]'(by omega), by rw [cellOf hcur]; simp⟩
        obtain ⟨q3, o3⟩ : ∃ q, wr.cell? ⟨g, j * 4 + 3, none⟩ = some q := ⟨cur[j * 4 + 3]'(by omega), by rw [cellOf hcur]; simp⟩
        have y0 := Lib.frozen_of_heap hcur (j * 4)
        have y1 := Lib.frozen_of_heap hcur (j * 4 + 1)
        have y2 := Lib.frozen_of_heap hcur (j * 4 + 2)
        have y3 := Lib.frozen_of_heap hcur (j * 4 + 3)
        have HBG := Lib.hid hBg
        have HGK := Lib.hid hgK
        clear hcur hn hBg hgK
        go_wp2_with fail
        have hgk : kb ≠ g := by have := HGK.out; omega
        refine ⟨⟨j + 1, by omega, by go_num, Lib.hid ((((HBj.out.setCell HBG.out _).setCell HBG.out _).setCell HBG.out _).setCell HBG.out _), Lib.hid ?_, Lib.hid ((((HTj.out.put _ _).put _ _).put _ _).put _ _)⟩, by simp [intOf]; omega⟩
        exact (Below.heap_setCell _ _ _ _ hgk).trans ((Below.heap_setCell _ _ _ _ hgk).trans ((Below.heap_setCell _ _ _ _ hgk).trans ((Below.heap_setCell _ _ _ _ hgk).trans HVj.out)))
      · go_wp2_with fail
        exact ⟨⟨k + 1, by omega, by go_num, HBj⟩, by simp [intOf]; omega⟩
end Go.Proofs.YtghdcgokndmkjaaDoor
