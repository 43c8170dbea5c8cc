/- What the reader's item answers: the item with which the bytes begin there, or it gives up. Conditions: at most 4096 bytes; the library's tables. -/
import Derived.Test.YtghdcgokndmkjaaDoorV
set_option linter.unusedVariables false
set_option linter.unusedSimpArgs false
namespace Go.Proofs.YtghdcgokndmkjaaDoor
open Go.RowKit Go.Sort

theorem item_some {V : List UInt8 → Bool} {sub : Option (List UInt8 → Res It)} {s : List UInt8} {k n m : Nat} (h : hd s = some (k, n, m)) : item V sub s = body V sub k n (s.drop m) := by
  unfold item; rw [h]
theorem item_no {V : List UInt8 → Bool} {sub : Option (List UInt8 → Res It)} {s : List UInt8} (h : hd s = Option.none) : item V sub s = .error false := by
  unfold item; rw [h]

set_option maxHeartbeats 2000000 in
set_option maxRecDepth 100000 in
theorem item_step (sub : Option (List UInt8 → Res It)) (d br : Nat) (s : List UInt8) (a outer : Nat) (w : World) (hT : Tb w) (hbr : 2 ≤ br) (hR : Rdr br s a outer w) (hs : s.length ≤ 4096) (ha : a ≤ s.length)
    (hbody : ∀ (k n a : Nat) (w : World), k ≤ 5 → n ≤ 9223372036854775807 → a ≤ s.length → Tb w → Rdr br s a outer w → Calls Tryd.prog (40 + k) #[.pointer (some ⟨br, 0, none⟩), .int .i64 n] w fun e w' => RdR d br s a outer w w' (body Lib.validD sub k n (s.drop a)) e) :
    Calls Tryd.prog 18 #[.pointer (some ⟨br, 0, none⟩)] w fun e w' => RdR d br s (a + 1) outer w w' (item Lib.validD sub (s.drop a)) e := by
  have hal : Below w.heap.size w (w.alloc (.cells #[.int .i64 0, .int .i64 0, .string ⟨#[]⟩, .slice none 0 0] 24)) := (Below.refl _ _).alloc (Nat.le_refl _) _
  have HR := Lib.hid (hR.below hal)
  have HA := Lib.hid hal
  have hlt := hR.lt
  have HQ := Lib.hid (Go.heap_alloc_new w (.cells #[.int .i64 0, .int .i64 0, .string ⟨#[]⟩, .slice none 0 0] 24))
  have HTb := Lib.hid hT
  have HBd := Lib.hid hbody
  clear hR hal hT hbody
  go_enter Tryd.func18, Tryd.ntmps18
  go_wp2_with fail
  refine (rhead_any br s a outer _ HR.out hs ha).mono ?_
  intro e w1 h1
  unfold RhR at h1
  match hh : hd (s.drop a), h1 with
  | .none, h1 =>
    obtain ⟨rfl, k1⟩ := h1
    exact ⟨rfl, RdR.err false (item_no hh) ((Keeps.of HA.out).trans k1)⟩
  | .some (k, n, m), h1 =>
    obtain ⟨rfl, r1, k1⟩ := h1
    obtain ⟨hk7, hn, hm1, hm2⟩ := hd_bound hh
    have HE0 := Lib.hid ((item_some (V := Lib.validD) (sub := sub) hh).trans (by rw [List.drop_drop]))
    have hs1 : w.heap.size + 1 ≤ w1.heap.size := by have := k1.size; simpa using this
    have ham : a + m ≤ s.length := by simp at hm2; omega
    have K1 := Lib.hid ((Keeps.of HA.out).trans k1)
    have R1 := Lib.hid r1
    have Q1 := Lib.hid (k1.heap HQ.out (by omega))
    have HB := Lib.hid (fun hk => HBd.out k n (a + m) w1 hk hn ham (HTb.out.keeps K1.out hbr) R1.out)
    clear hh r1 k1 hm2 HBd HQ HA HR
    by_cases hk : k ≤ 5
    rotate_left
    · have HE : Hid (item Lib.validD sub (s.drop a) = .error false) := Lib.hid (HE0.out.trans (body_6 _ _ _ _ _ (by omega)))
      go_wp2_with fail
      refine (part_no _ k w1 (by omega) hk7).mono ?_
      rintro e w2 ⟨rfl, rfl⟩
      exact ⟨rfl, RdR.err false HE.out K1.out⟩
    have HP := Lib.hid (part_yes ⟨br, 0, none⟩ k w1 hk)
    have HB := Lib.hid (HB.out hk)
    clear hk7
    obtain rfl | rfl | rfl | rfl | rfl | rfl : k = 0 ∨ k = 1 ∨ k = 2 ∨ k = 3 ∨ k = 4 ∨ k = 5 := by omega
    · have HP : Hid (Calls Tryd.prog 31 #[.pointer (some ⟨br, 0, none⟩), .int .i64 (0 : Nat)] w1 fun e w' => e = .returned (.func (Fn.func 40) #[.pointer (some ⟨br, 0, none⟩)] #[]) ∧ w1 = w') := HP
      have HB : Hid (Calls Tryd.prog 40 #[.pointer (some ⟨br, 0, none⟩), .int .i64 n] w1 fun e w' => RdR d br s (a + m) outer w1 w' (body Lib.validD sub 0 n (s.drop (a + m))) e) := HB
      go_wp2_with fail
      refine HP.out.mono ?_
      rintro e w2 ⟨rfl, rfl⟩
      go_wp2_with fail
      refine HB.out.mono ?_
      intro e w3 h3
      rcases h3.cases with ⟨deep, h4, rfl, k3⟩ | ⟨t, A, c, a', h4, hc, hlo, ha', rfl, hz, hrd, htop, r3, k3⟩
      · exact ⟨rfl, RdR.err deep (HE0.out.trans h4) (K1.out.trans k3)⟩
      have HE := Lib.hid (HE0.out.trans h4)
      have HRD := Lib.hid hrd
      have HTop := Lib.hid htop
      have R3 := Lib.hid r3
      have HZ := Lib.hid hz
      have q := k3.heap Q1.out (by omega)
      have K3 := Lib.hid (K1.out.trans k3)
      have z0 := cellOf q 0
      have z1 := cellOf q 1
      have z2 := cellOf q 2
      have z3 := cellOf q 3
      simp at z0 z1 z2 z3
      have y0 := Lib.frozen_of_heap q 0
      have y1 := Lib.frozen_of_heap q 1
      have y2 := Lib.frozen_of_heap q 2
      have y3 := Lib.frozen_of_heap q 3
      have hq := blk_lt q
      clear h3 h4 hrd htop r3 hz q k3 HB HP
      unfold itV
      go_wp2_with fail
      refine bodyPost_ret (v := itV t A c) (by simp [itV, results, Tryd.results18, go_sem, z0, z1, z2, z3]) rfl ?_
      refine RdR.ok t A c a' HE.out hc (by omega) ha' HZ.out ?_ ?_ (R3.out.set4 (by omega)) (K3.out.set4 (by omega))
      · exact (HRD.out.set4 (k := w.heap.size) (by omega)).mono fun b hb => by omega
      · exact (HTop.out.set4 (k := w.heap.size) (by omega)).mono (by omega)
    · have HP : Hid (Calls Tryd.prog 31 #[.pointer (some ⟨br, 0, none⟩), .int .i64 (1 : Nat)] w1 fun e w' => e = .returned (.func (Fn.func 41) #[.pointer (some ⟨br, 0, none⟩)] #[]) ∧ w1 = w') := HP
      have HB : Hid (Calls Tryd.prog 41 #[.pointer (some ⟨br, 0, none⟩), .int .i64 n] w1 fun e w' => RdR d br s (a + m) outer w1 w' (body Lib.validD sub 1 n (s.drop (a + m))) e) := HB
      go_wp2_with fail
      refine HP.out.mono ?_
      rintro e w2 ⟨rfl, rfl⟩
      go_wp2_with fail
      refine HB.out.mono ?_
      intro e w3 h3
      rcases h3.cases with ⟨deep, h4, rfl, k3⟩ | ⟨t, A, c, a', h4, hc, hlo, ha', rfl, hz, hrd, htop, r3, k3⟩
      · exact ⟨rfl, RdR.err deep (HE0.out.trans h4) (K1.out.trans k3)⟩
      have HE := Lib.hid (HE0.out.trans h4)
      have HRD := Lib.hid hrd
      have HTop := Lib.hid htop
      have R3 := Lib.hid r3
      have HZ := Lib.hid hz
      have q := k3.heap Q1.out (by omega)
      have K3 := Lib.hid (K1.out.trans k3)
      have z0 := cellOf q 0
      have z1 := cellOf q 1
      have z2 := cellOf q 2
      have z3 := cellOf q 3
      simp at z0 z1 z2 z3
      have y0 := Lib.frozen_of_heap q 0
      have y1 := Lib.frozen_of_heap q 1
      have y2 := Lib.frozen_of_heap q 2
      have y3 := Lib.frozen_of_heap q 3
      have hq := blk_lt q
      clear h3 h4 hrd htop r3 hz q k3 HB HP
      unfold itV
      go_wp2_with fail
      refine bodyPost_ret (v := itV t A c) (by simp [itV, results, Tryd.results18, go_sem, z0, z1, z2, z3]) rfl ?_
      refine RdR.ok t A c a' HE.out hc (by omega) ha' HZ.out ?_ ?_ (R3.out.set4 (by omega)) (K3.out.set4 (by omega))
      · exact (HRD.out.set4 (k := w.heap.size) (by omega)).mono fun b hb => by omega
      · exact (HTop.out.set4 (k := w.heap.size) (by omega)).mono (by omega)
    · have HP : Hid (Calls Tryd.prog 31 #[.pointer (some ⟨br, 0, none⟩), .int .i64 (2 : Nat)] w1 fun e w' => e = .returned (.func (Fn.func 42) #[.pointer (some ⟨br, 0, none⟩)] #[]) ∧ w1 = w') := HP
      have HB : Hid (Calls Tryd.prog 42 #[.pointer (some ⟨br, 0, none⟩), .int .i64 n] w1 fun e w' => RdR d br s (a + m) outer w1 w' (body Lib.validD sub 2 n (s.drop (a + m))) e) := HB
      go_wp2_with fail
      refine HP.out.mono ?_
      rintro e w2 ⟨rfl, rfl⟩
      go_wp2_with fail
      refine HB.out.mono ?_
      intro e w3 h3
      rcases h3.cases with ⟨deep, h4, rfl, k3⟩ | ⟨t, A, c, a', h4, hc, hlo, ha', rfl, hz, hrd, htop, r3, k3⟩
      · exact ⟨rfl, RdR.err deep (HE0.out.trans h4) (K1.out.trans k3)⟩
      have HE := Lib.hid (HE0.out.trans h4)
      have HRD := Lib.hid hrd
      have HTop := Lib.hid htop
      have R3 := Lib.hid r3
      have HZ := Lib.hid hz
      have q := k3.heap Q1.out (by omega)
      have K3 := Lib.hid (K1.out.trans k3)
      have z0 := cellOf q 0
      have z1 := cellOf q 1
      have z2 := cellOf q 2
      have z3 := cellOf q 3
      simp at z0 z1 z2 z3
      have y0 := Lib.frozen_of_heap q 0
      have y1 := Lib.frozen_of_heap q 1
      have y2 := Lib.frozen_of_heap q 2
      have y3 := Lib.frozen_of_heap q 3
      have hq := blk_lt q
      clear h3 h4 hrd htop r3 hz q k3 HB HP
      unfold itV
      go_wp2_with fail
      refine bodyPost_ret (v := itV t A c) (by simp [itV, results, Tryd.results18, go_sem, z0, z1, z2, z3]) rfl ?_
      refine RdR.ok t A c a' HE.out hc (by omega) ha' HZ.out ?_ ?_ (R3.out.set4 (by omega)) (K3.out.set4 (by omega))
      · exact (HRD.out.set4 (k := w.heap.size) (by omega)).mono fun b hb => by omega
      · exact (HTop.out.set4 (k := w.heap.size) (by omega)).mono (by omega)
    · have HP : Hid (Calls Tryd.prog 31 #[.pointer (some ⟨br, 0, none⟩), .int .i64 (3 : Nat)] w1 fun e w' => e = .returned (.func (Fn.func 43) #[.pointer (some ⟨br, 0, none⟩)] #[]) ∧ w1 = w') := HP
      have HB : Hid (Calls Tryd.prog 43 #[.pointer (some ⟨br, 0, none⟩), .int .i64 n] w1 fun e w' => RdR d br s (a + m) outer w1 w' (body Lib.validD sub 3 n (s.drop (a + m))) e) := HB
      go_wp2_with fail
      refine HP.out.mono ?_
      rintro e w2 ⟨rfl, rfl⟩
      go_wp2_with fail
      refine HB.out.mono ?_
      intro e w3 h3
      rcases h3.cases with ⟨deep, h4, rfl, k3⟩ | ⟨t, A, c, a', h4, hc, hlo, ha', rfl, hz, hrd, htop, r3, k3⟩
      · exact ⟨rfl, RdR.err deep (HE0.out.trans h4) (K1.out.trans k3)⟩
      have HE := Lib.hid (HE0.out.trans h4)
      have HRD := Lib.hid hrd
      have HTop := Lib.hid htop
      have R3 := Lib.hid r3
      have HZ := Lib.hid hz
      have q := k3.heap Q1.out (by omega)
      have K3 := Lib.hid (K1.out.trans k3)
      have z0 := cellOf q 0
      have z1 := cellOf q 1
      have z2 := cellOf q 2
      have z3 := cellOf q 3
      simp at z0 z1 z2 z3
      have y0 := Lib.frozen_of_heap q 0
      have y1 := Lib.frozen_of_heap q 1
      have y2 := Lib.frozen_of_heap q 2
      have y3 := Lib.frozen_of_heap q 3
      have hq := blk_lt q
      clear h3 h4 hrd htop r3 hz q k3 HB HP
      unfold itV
      go_wp2_with fail
      refine bodyPost_ret (v := itV t A c) (by simp [itV, results, Tryd.results18, go_sem, z0, z1, z2, z3]) rfl ?_
      refine RdR.ok t A c a' HE.out hc (by omega) ha' HZ.out ?_ ?_ (R3.out.set4 (by omega)) (K3.out.set4 (by omega))
      · exact (HRD.out.set4 (k := w.heap.size) (by omega)).mono fun b hb => by omega
      · exact (HTop.out.set4 (k := w.heap.size) (by omega)).mono (by omega)
    · have HP : Hid (Calls Tryd.prog 31 #[.pointer (some ⟨br, 0, none⟩), .int .i64 (4 : Nat)] w1 fun e w' => e = .returned (.func (Fn.func 44) #[.pointer (some ⟨br, 0, none⟩)] #[]) ∧ w1 = w') := HP
      have HB : Hid (Calls Tryd.prog 44 #[.pointer (some ⟨br, 0, none⟩), .int .i64 n] w1 fun e w' => RdR d br s (a + m) outer w1 w' (body Lib.validD sub 4 n (s.drop (a + m))) e) := HB
      go_wp2_with fail
      refine HP.out.mono ?_
      rintro e w2 ⟨rfl, rfl⟩
      go_wp2_with fail
      refine HB.out.mono ?_
      intro e w3 h3
      rcases h3.cases with ⟨deep, h4, rfl, k3⟩ | ⟨t, A, c, a', h4, hc, hlo, ha', rfl, hz, hrd, htop, r3, k3⟩
      · exact ⟨rfl, RdR.err deep (HE0.out.trans h4) (K1.out.trans k3)⟩
      have HE := Lib.hid (HE0.out.trans h4)
      have HRD := Lib.hid hrd
      have HTop := Lib.hid htop
      have R3 := Lib.hid r3
      have HZ := Lib.hid hz
      have q := k3.heap Q1.out (by omega)
      have K3 := Lib.hid (K1.out.trans k3)
      have z0 := cellOf q 0
      have z1 := cellOf q 1
      have z2 := cellOf q 2
      have z3 := cellOf q 3
      simp at z0 z1 z2 z3
      have y0 := Lib.frozen_of_heap q 0
      have y1 := Lib.frozen_of_heap q 1
      have y2 := Lib.frozen_of_heap q 2
      have y3 := Lib.frozen_of_heap q 3
      have hq := blk_lt q
      clear h3 h4 hrd htop r3 hz q k3 HB HP
      unfold itV
      go_wp2_with fail
      refine bodyPost_ret (v := itV t A c) (by simp [itV, results, Tryd.results18, go_sem, z0, z1, z2, z3]) rfl ?_
      refine RdR.ok t A c a' HE.out hc (by omega) ha' HZ.out ?_ ?_ (R3.out.set4 (by omega)) (K3.out.set4 (by omega))
      · exact (HRD.out.set4 (k := w.heap.size) (by omega)).mono fun b hb => by omega
      · exact (HTop.out.set4 (k := w.heap.size) (by omega)).mono (by omega)
    · have HP : Hid (Calls Tryd.prog 31 #[.pointer (some ⟨br, 0, none⟩), .int .i64 (5 : Nat)] w1 fun e w' => e = .returned (.func (Fn.func 45) #[.pointer (some ⟨br, 0, none⟩)] #[]) ∧ w1 = w') := HP
      have HB : Hid (Calls Tryd.prog 45 #[.pointer (some ⟨br, 0, none⟩), .int .i64 n] w1 fun e w' => RdR d br s (a + m) outer w1 w' (body Lib.validD sub 5 n (s.drop (a + m))) e) := HB
      go_wp2_with fail
      refine HP.out.mono ?_
      rintro e w2 ⟨rfl, rfl⟩
      go_wp2_with fail
      refine HB.out.mono ?_
      intro e w3 h3
      rcases h3.cases with ⟨deep, h4, rfl, k3⟩ | ⟨t, A, c, a', h4, hc, hlo, ha', rfl, hz, hrd, htop, r3, k3⟩
      · exact ⟨rfl, RdR.err deep (HE0.out.trans h4) (K1.out.trans k3)⟩
      have HE := Lib.hid (HE0.out.trans h4)
      have HRD := Lib.hid hrd
      have HTop := Lib.hid htop
      have R3 := Lib.hid r3
      have HZ := Lib.hid hz
      have q := k3.heap Q1.out (by omega)
      have K3 := Lib.hid (K1.out.trans k3)
      have z0 := cellOf q 0
      have z1 := cellOf q 1
      have z2 := cellOf q 2
      have z3 := cellOf q 3
      simp at z0 z1 z2 z3
      have y0 := Lib.frozen_of_heap q 0
      have y1 := Lib.frozen_of_heap q 1
      have y2 := Lib.frozen_of_heap q 2
      have y3 := Lib.frozen_of_heap q 3
      have hq := blk_lt q
      clear h3 h4 hrd htop r3 hz q k3 HB HP
      unfold itV
      go_wp2_with fail
      refine bodyPost_ret (v := itV t A c) (by simp [itV, results, Tryd.results18, go_sem, z0, z1, z2, z3]) rfl ?_
      refine RdR.ok t A c a' HE.out hc (by omega) ha' HZ.out ?_ ?_ (R3.out.set4 (by omega)) (K3.out.set4 (by omega))
      · exact (HRD.out.set4 (k := w.heap.size) (by omega)).mono fun b hb => by omega
      · exact (HTop.out.set4 (k := w.heap.size) (by omega)).mono (by omega)

theorem item_zero (br : Nat) (s : List UInt8) (a : Nat) (w : World) (hT : Tb w) (hbr : 2 ≤ br) (hR : Rdr br s a 16 w) (hs : s.length ≤ 4096) (ha : a ≤ s.length) :
    Calls Tryd.prog 18 #[.pointer (some ⟨br, 0, none⟩)] w fun e w' => RdR 0 br s (a + 1) 16 w w' (dec Lib.validD 0 (s.drop a)) e :=
  item_step Option.none 0 br s a 16 w hT hbr hR hs ha fun k n a w hk hn ha hT hR => by
    obtain rfl | rfl | rfl | rfl | rfl | rfl : k = 0 ∨ k = 1 ∨ k = 2 ∨ k = 3 ∨ k = 4 ∨ k = 5 := by omega
    · exact above_rd _ _ 0 br s a 16 n w hR ha hn
    · exact below_rd _ _ 0 br s a 16 n w hR ha hn
    · exact bytes_rd _ _ 0 br s a 16 n w hR hs ha hn
    · exact text_rd _ 0 br s a 16 n w hT hR hbr hs ha hn
    · exact list_deep _ 0 br s a 16 n w hR (by omega)
    · exact pairs_deep _ 0 br s a 16 n w hR (by omega)
theorem item_rd (br : Nat) (s : List UInt8) (hbr : 2 ≤ br) (hs : s.length ≤ 4096) : ∀ (d outer : Nat), outer + d = 16 → ∀ (a : Nat) (w : World), Tb w → Rdr br s a outer w → a ≤ s.length →
    Calls Tryd.prog 18 #[.pointer (some ⟨br, 0, none⟩)] w fun e w' => RdR d br s (a + 1) outer w w' (dec Lib.validD d (s.drop a)) e
  | 0, outer, ho, a, w, hT, hR, ha => by
    obtain rfl : outer = 16 := by omega
    exact item_zero br s a w hT hbr hR hs ha
  | d + 1, outer, ho, a, w, hT, hR, ha => by
    have ih := item_rd br s hbr hs d (outer + 1) (by omega)
    refine item_step (some (dec Lib.validD d)) (d + 1) br s a outer w hT hbr hR hs ha fun k n a w hk hn ha hT hR => ?_
    obtain rfl | rfl | rfl | rfl | rfl | rfl : k = 0 ∨ k = 1 ∨ k = 2 ∨ k = 3 ∨ k = 4 ∨ k = 5 := by omega
    · exact above_rd _ _ (d + 1) br s a outer n w hR ha hn
    · exact below_rd _ _ (d + 1) br s a outer n w hR ha hn
    · exact bytes_rd _ _ (d + 1) br s a outer n w hR hs ha hn
    · exact text_rd _ (d + 1) br s a outer n w hT hR hbr hs ha hn
    · exact list_rd _ (dec Lib.validD d) d br s a outer n w hT hbr hR hs ha hn (by omega) ih
    · exact pairs_rd _ (dec Lib.validD d) d br s a outer n w hT hbr hR hs ha hn (by omega) ih
end Go.Proofs.YtghdcgokndmkjaaDoor
