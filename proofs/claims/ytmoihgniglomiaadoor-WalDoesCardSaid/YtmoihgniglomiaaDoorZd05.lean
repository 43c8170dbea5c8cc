/- Append to a disk's file, whole. No condition but the disk's own, and the text's length. Append of a disk, all ways; copies of a row of pieces, of a row of bytes. No condition but the disk's own. -/
import Derived.Test.YtmoihgniglomiaaDoorZd04
set_option linter.unusedVariables false
set_option linter.unusedSimpArgs false
set_option maxRecDepth 100000
namespace Go.Proofs.YtmoihgniglomiaaDoor
open Go.RowKit Go.Sort
theorem lay0_dk {w1 w2 w4 : World} {p : Fp} {S : St} {s : List UInt8} {g' c' : Nat} {v' : Value} (D : Dk w1 p S) (hfit : S.f0.length + s.length ≤ 1048576) (hO : Only [p.g0] w1 w2) (hby : By w2 g' c' (S.f0 ++ s)) (hg : g' = p.g0 ∨ g' = w1.heap.size)
    (hL : Lg (w2.setCell ⟨p.b, 0, none⟩ (.slice (some ⟨g', 0, none⟩) (S.f0.length + s.length) c')) p.rv w4 v' (longer S.row 0 s.length)) :
    Mut w1 p (w4.setCell ⟨p.b, 4, none⟩ v') { p with g0 := g', c0 := c', rv := v' } (S.lay 0 s) := by
  have hbg := D.bg
  have hwl := D.lt
  have hbk2 := D.blk.only hO (by have := D.bg.1; simp only [List.mem_singleton] at this ⊢; exact fun e => this e.symm)
  obtain ⟨hrow, hO4, hnew⟩ := hL
  have hbk3 := Bk.same (i := 0) (v := .slice (some ⟨g', 0, none⟩) (S.f0.length + s.length) c') hbk2
  have hbrv : p.b ∉ p.rv.ownBlock.toList := by
    intro hm
    rw [Option.mem_toList] at hm
    obtain ⟨_, ⟨hv, _⟩ | ⟨r', cap, cur, hv, _, hq, _⟩⟩ := D.rr
    · rw [hv] at hm; cases hm
    · rw [hv] at hm
      cases hm
      have hbk := D.blk
      unfold Bk at hbk
      rw [hq] at hbk
      cases hbk
  have hbk4 := hbk3.only hO4 hbrv
  have hbk5 := Bk.same (i := 4) (v := v') hbk4
  have hby5 : ∀ (g c : Nat) (l : List UInt8), By w2 g c l → By (w4.setCell ⟨p.b, 4, none⟩ v') g c l := by
    intro g c l h
    have hb : g ≠ p.b := fun e => h.ne hbk2 (by decide) e.symm
    have h3 : By (w2.setCell ⟨p.b, 0, none⟩ (.slice (some ⟨g', 0, none⟩) (S.f0.length + s.length) c')) g c l := h.of (heap_setCell_other _ _ _ _ hb)
    have h4 : By w4 g c l := by
      refine h3.only hO4 ?_
      intro hm
      rw [Option.mem_toList] at hm
      obtain ⟨_, ⟨hv, _⟩ | ⟨r', cap, cur, hv, _, hq, _⟩⟩ := D.rr
      · rw [hv] at hm; cases hm
      · rw [hv] at hm
        cases hm
        have hrg : r' ≠ p.g0 := by
          rintro rfl
          obtain ⟨cu, fz, hh, _⟩ := D.r0
          rw [hq] at hh
          cases hh
        have hq2 := (hO.block r' (blk_lt hq) (by simpa using hrg)).trans hq
        obtain ⟨cu, fz, hh, _⟩ := h
        rw [hq2] at hh
        cases hh
    exact h4.of (heap_setCell_other _ _ _ _ hb)
  have hg1 : p.g1 ∉ [p.g0] := by have := D.ne; simp only [List.mem_singleton]; exact fun e => this e.symm
  have hgo := hby5 _ _ _ (D.r1.only hO hg1)
  have hgn := hby5 _ _ _ hby
  have hge : g' ≠ p.g1 := by
    rcases hg with h | h
    · rw [h]; exact D.ne
    · have := D.r1.lt; omega
  have hsz2 := hO.size
  have hsz4 := hO4.size
  rw [World.size_setCell] at hsz4
  refine ⟨⟨?_, hgn, hgo, ?_, hge, D.wf.lay 0 s (by omega) hfit⟩, rfl, ?_, ?_⟩
  · have e : (S.f0 ++ s).length = S.f0.length + s.length := List.length_append
    simp only [St.lay, if_true, e]
    simpa using hbk5
  · simp only [St.lay, if_true]
    refine owns_of hrow fun r hr hlt => heap_setCell_other _ _ _ _ ?_
    rintro rfl
    rcases hnew p.b hr with h | h
    · exact hbrv (by rw [Option.mem_toList]; exact h)
    · rw [World.size_setCell] at h
      have := D.blk.lt
      omega
  · have h1 : Only p.own w1 w2 := hO.mono (by simp [Fp.own])
    have h2 : Only p.own w1 (w2.setCell ⟨p.b, 0, none⟩ (.slice (some ⟨g', 0, none⟩) (S.f0.length + s.length) c')) := h1.setCell _ (by simp [Fp.own]) _
    have h3 := h2.trans hO4 (by intro x hx; left; rw [Option.mem_toList] at hx; simp [Fp.own, hx])
    exact h3.setCell _ (by simp [Fp.own]) _
  · intro k hk
    simp only [Fp.own, List.mem_cons, Option.mem_toList] at hk ⊢
    rcases hk with h | h | h | h
    · exact .inl (.inl h)
    · rcases hg with e | e
      · exact .inl (.inr (.inl (by rw [h]; exact e)))
      · right; omega
    · exact .inl (.inr (.inr (.inl h)))
    · rcases hnew k h with e | e
      · exact .inl (.inr (.inr (.inr e)))
      · rw [World.size_setCell] at e
        right; omega
theorem lay1_dk {w1 w2 w4 : World} {p : Fp} {S : St} {s : List UInt8} {g' c' : Nat} {v' : Value} (D : Dk w1 p S) (hfit : S.f1.length + s.length ≤ 1048576) (hO : Only [p.g1] w1 w2) (hby : By w2 g' c' (S.f1 ++ s)) (hg : g' = p.g1 ∨ g' = w1.heap.size)
    (hL : Lg (w2.setCell ⟨p.b, 2, none⟩ (.slice (some ⟨g', 0, none⟩) (S.f1.length + s.length) c')) p.rv w4 v' (longer S.row 1 s.length)) :
    Mut w1 p (w4.setCell ⟨p.b, 4, none⟩ v') { p with g1 := g', c1 := c', rv := v' } (S.lay 1 s) := by
  have hbg := D.bg
  have hwl := D.lt
  have hbk2 := D.blk.only hO (by have := D.bg.2; simp only [List.mem_singleton] at this ⊢; exact fun e => this e.symm)
  obtain ⟨hrow, hO4, hnew⟩ := hL
  have hbk3 := Bk.same (i := 2) (v := .slice (some ⟨g', 0, none⟩) (S.f1.length + s.length) c') hbk2
  have hbrv : p.b ∉ p.rv.ownBlock.toList := by
    intro hm
    rw [Option.mem_toList] at hm
    obtain ⟨_, ⟨hv, _⟩ | ⟨r', cap, cur, hv, _, hq, _⟩⟩ := D.rr
    · rw [hv] at hm; cases hm
    · rw [hv] at hm
      cases hm
      have hbk := D.blk
      unfold Bk at hbk
      rw [hq] at hbk
      cases hbk
  have hbk4 := hbk3.only hO4 hbrv
  have hbk5 := Bk.same (i := 4) (v := v') hbk4
  have hby5 : ∀ (g c : Nat) (l : List UInt8), By w2 g c l → By (w4.setCell ⟨p.b, 4, none⟩ v') g c l := by
    intro g c l h
    have hb : g ≠ p.b := fun e => h.ne hbk2 (by decide) e.symm
    have h3 : By (w2.setCell ⟨p.b, 2, none⟩ (.slice (some ⟨g', 0, none⟩) (S.f1.length + s.length) c')) g c l := h.of (heap_setCell_other _ _ _ _ hb)
    have h4 : By w4 g c l := by
      refine h3.only hO4 ?_
      intro hm
      rw [Option.mem_toList] at hm
      obtain ⟨_, ⟨hv, _⟩ | ⟨r', cap, cur, hv, _, hq, _⟩⟩ := D.rr
      · rw [hv] at hm; cases hm
      · rw [hv] at hm
        cases hm
        have hrg : r' ≠ p.g1 := by
          rintro rfl
          obtain ⟨cu, fz, hh, _⟩ := D.r1
          rw [hq] at hh
          cases hh
        have hq2 := (hO.block r' (blk_lt hq) (by simpa using hrg)).trans hq
        obtain ⟨cu, fz, hh, _⟩ := h
        rw [hq2] at hh
        cases hh
    exact h4.of (heap_setCell_other _ _ _ _ hb)
  have hg1 : p.g0 ∉ [p.g1] := by have := D.ne; simp only [List.mem_singleton]; exact fun e => this e
  have hgo := hby5 _ _ _ (D.r0.only hO hg1)
  have hgn := hby5 _ _ _ hby
  have hge : g' ≠ p.g0 := by
    rcases hg with h | h
    · rw [h]; exact D.ne.symm
    · have := D.r0.lt; omega
  have hsz2 := hO.size
  have hsz4 := hO4.size
  rw [World.size_setCell] at hsz4
  refine ⟨⟨?_, hgo, hgn, ?_, hge.symm, D.wf.lay 1 s (by omega) hfit⟩, rfl, ?_, ?_⟩
  · have e : (S.f1 ++ s).length = S.f1.length + s.length := List.length_append
    simp only [St.lay, Nat.one_ne_zero, if_false, e]
    simpa using hbk5
  · simp only [St.lay, Nat.one_ne_zero, if_false]
    refine owns_of hrow fun r hr hlt => heap_setCell_other _ _ _ _ ?_
    rintro rfl
    rcases hnew p.b hr with h | h
    · exact hbrv (by rw [Option.mem_toList]; exact h)
    · rw [World.size_setCell] at h
      have := D.blk.lt
      omega
  · have h1 : Only p.own w1 w2 := hO.mono (by simp [Fp.own])
    have h2 : Only p.own w1 (w2.setCell ⟨p.b, 2, none⟩ (.slice (some ⟨g', 0, none⟩) (S.f1.length + s.length) c')) := h1.setCell _ (by simp [Fp.own]) _
    have h3 := h2.trans hO4 (by intro x hx; left; rw [Option.mem_toList] at hx; simp [Fp.own, hx])
    exact h3.setCell _ (by simp [Fp.own]) _
  · intro k hk
    simp only [Fp.own, List.mem_cons, Option.mem_toList] at hk ⊢
    rcases hk with h | h | h | h
    · exact .inl (.inl h)
    · exact .inl (.inr (.inl h))
    · rcases hg with e | e
      · exact .inl (.inr (.inr (.inl (by rw [h]; exact e))))
      · right; omega
    · rcases hnew k h with e | e
      · exact .inl (.inr (.inr (.inr e)))
      · rw [World.size_setCell] at e
        right; omega
theorem Dk.brv {w : World} {p : Fp} {S : St} (D : Dk w p S) : p.b ∉ p.rv.ownBlock.toList := by
  intro hm
  rw [Option.mem_toList] at hm
  obtain ⟨_, ⟨hv, _⟩ | ⟨r', cap, cur, hv, _, hq, _⟩⟩ := D.rr
  · rw [hv] at hm; cases hm
  · rw [hv] at hm
    cases hm
    have hbk := D.blk
    unfold Bk at hbk
    rw [hq] at hbk
    cases hbk
theorem Dk.rvs {w : World} {p : Fp} {S : St} (D : Dk w p S) : ∃ ra rn rc, p.rv = .slice ra rn rc := by
  obtain ⟨_, ⟨hv, _⟩ | ⟨r', cap, cur, hv, _⟩⟩ := D.rr
  · exact ⟨_, _, _, hv⟩
  · exact ⟨_, _, _, hv⟩
theorem Lg.shape {w w' : World} {rv v : Value} {l : List (Nat × Nat)} (h : Lg w rv w' v l) : ∃ a n c, v = .slice a n c := by
  obtain ⟨⟨_, ⟨hv, _⟩ | ⟨r', cap, cur, hv, _⟩⟩, _⟩ := h
  · exact ⟨_, _, _, hv⟩
  · exact ⟨_, _, _, hv⟩
theorem Lg.undrew {w w' : World} {rv v : Value} {l : List (Nat × Nat)} (h : Lg w.drew rv w' v l) : Lg w rv w' v l := ⟨h.1, ⟨h.2.1.os, h.2.1.tape, h.2.1.output, h.2.1.size, h.2.1.block⟩, h.2.2⟩
theorem Mut.pre {w w1 w' : World} {p p' : Fp} {S' : St} (hb : Below w.heap.size w w1) (h : Mut w1 p w' p' S') : Mut w p w' p' S' :=
  ⟨h.1, h.2.1, (Only.of (L := p.own) hb).trans h.2.2.1 (fun x hx => .inl hx), fun k hk => (h.2.2.2 k hk).elim .inl (fun e => .inr (Nat.le_trans hb.size e))⟩
theorem Mut.count {w w5 w6 : World} {p p' : Fp} {S1 : St} (h : Mut w p w5 p' S1) (hd : Dk w6 (p'.count S1) (S1.count).2) (ho : Only [p'.b] w5 w6) : Mut w p w6 (p'.count S1) (S1.count).2 :=
  ⟨hd, (p'.count_b S1).trans h.2.1, h.2.2.1.trans ho (by rw [h.2.1]; simp [Fp.own]), fun k hk => h.2.2.2 k (p'.count_own S1 k hk)⟩
theorem cell_setCell_other (w : World) (a b : Addr) (v : Value) (h : b.block ≠ a.block) : (w.setCell a v).cell? b = w.cell? b := World.cell?_of_block (w := w) (heap_setCell_other w a b.block v h)
theorem tot_mem {l : List (Nat × Nat)} {q : Nat × Nat} (h : q ∈ l) : q.2 ≤ tot q.1 l := by
  induction l with
  | nil => cases h
  | cons p r ih =>
    simp only [tot]
    rcases List.mem_cons.1 h with rfl | h
    · simp
    · have := ih h; omega
theorem row_small {S : St} (h : S.Wf) (q : Nat × Nat) (hq : q ∈ S.row) : q.2 ≤ 1048576 := by
  have h1 := tot_mem hq
  have h2 := (h.ok q hq).1
  have h3 := h.t0
  have h4 := h.t1
  have h5 := h.l0
  have h6 := h.l1
  rcases (by omega : q.1 = 0 ∨ q.1 = 1) with e | e <;> rw [e] at h1 <;> omega
theorem rv_ne {w : World} {v : Value} {n g c : Nat} {xs : List Value} {l : List UInt8} (h : w.ownsRow 0 105 2 v n xs) (hb : By w g c l) (r : Nat) (hr : v.ownBlock = some r) : r ≠ g := by
  rintro rfl
  obtain ⟨_, ⟨hv, _⟩ | ⟨r', cap, cur, hv, _, hq, _⟩⟩ := h
  · rw [hv] at hr; cases hr
  · rw [hv] at hr
    cases hr
    obtain ⟨cu, fz, hh, _⟩ := hb
    rw [hq] at hh
    cases hh
theorem Dk.rvg0 {w : World} {p : Fp} {S : St} (D : Dk w p S) (r : Nat) (hr : p.rv.ownBlock = some r) : r ≠ p.g0 := rv_ne D.rr D.r0 r hr
theorem Dk.rvg1 {w : World} {p : Fp} {S : St} (D : Dk w p S) (r : Nat) (hr : p.rv.ownBlock = some r) : r ≠ p.g1 := rv_ne D.rr D.r1 r hr
set_option maxHeartbeats 8000000 in
theorem append_0 (p : Fp) (S : St) (s : ByteArray) (hsz : s.size ≤ 140737488355328) (w : World) (h : Dk w p S) (f : Int) (hf : f = 0) (hg : S.gone = false) (hc : appCode S f s.size = 0) :
    Calls Tryd.prog 75 #[p.v, .int .i64 f, .string s] w fun e w' => e = .returned (.int .i64 (((S.lay 0 s.data.toList).count).1 : Int)) ∧ ∃ p', Mut w p w' p' ((S.lay 0 s.data.toList).count).2 := by
  have hW : Below w.heap.size w (((w.alloc (.cells #[.pointer (some ⟨p.b, 0, none⟩)] 27)).alloc (.cells #[.int .i64 f] 3)).alloc (.cells #[.string s] 9)) := by go_grown
  have D1 := Lib.hid (h.below hW)
  have HW := Lib.hid hW
  have C0 : Hid ((((w.alloc (.cells #[.pointer (some ⟨p.b, 0, none⟩)] 27)).alloc (.cells #[.int .i64 f] 3)).alloc (.cells #[.string s] 9)).cell? ⟨w.heap.size, 0, none⟩ = some (.pointer (some ⟨p.b, 0, none⟩))) := Lib.hid ((Bk.alloc (Bk.alloc (Bk.new (t := 27) rfl))).cell 0)
  have C1 : Hid ((((w.alloc (.cells #[.pointer (some ⟨p.b, 0, none⟩)] 27)).alloc (.cells #[.int .i64 f] 3)).alloc (.cells #[.string s] 9)).cell? ⟨w.heap.size + 1, 0, none⟩ = some (.int .i64 f)) := Lib.hid ((Bk.alloc (Bk.new (t := 3) (by simp))).cell 0)
  have C2 : Hid ((((w.alloc (.cells #[.pointer (some ⟨p.b, 0, none⟩)] 27)).alloc (.cells #[.int .i64 f] 3)).alloc (.cells #[.string s] 9)).cell? ⟨w.heap.size + 1 + 1, 0, none⟩ = some (.string s)) := Lib.hid ((Bk.new (t := 9) (by simp)).cell 0)
  have hM := hmf
  have HLT := Lib.hid h.lt
  have HL : Hid (s.data.toList.length = s.size) := Lib.hid (ba_size s)
  obtain ⟨ra, rn, rc, hrv⟩ := h.rvs
  have HRV := Lib.hid hrv
  clear hrv
  have HRL : Hid (∀ r, p.rv.ownBlock = some r → r < w.heap.size) := Lib.hid fun r hr => owns_lt h.rr hr
  have HRLEN : Hid (S.row.length ≤ 2097152 ∧ ∀ q ∈ S.row, q.2 ≤ 1048576) := Lib.hid ⟨h.wf.rowlen, fun q hq => row_small h.wf q hq⟩
  have HRG : Hid (∀ r, p.rv.ownBlock = some r → r ≠ p.g0) := Lib.hid fun r hr => h.rvg0 r hr
  have HFIT : Hid (S.f0.length + s.data.toList.length ≤ 1048576) := Lib.hid (by
    rw [ba_size]
    subst hf
    unfold appCode at hc
    rw [if_neg (by decide)] at hc
    split at hc
    · cases hc
    · rename_i hx
      have e0 : S.file ((0 : Int).toNat) = S.f0 := rfl
      rw [e0] at hx
      omega)
  clear hW
  have KG := Lib.hid (D1.out.gone hg)
  have HR := Lib.hid (clo54 (w.heap.size + 1) w.heap.size (w.heap.size + 1 + 1) f s p S _ C1.out C0.out C2.out D1 hsz)
  rw [hc] at HR
  subst hf
  clear hc hg h
  unfold Fp.v
  go_enter Tryd.func75, Tryd.ntmps75
  go_wp2_with fail
  refine (refused54 p.b _ _ _ _ _ _ _ _ _ _ _ _ _ KG HR).mono ?_
  rintro e w1 ⟨rfl, hb⟩
  have K0 := Lib.hid (hb.cell (p := ⟨w.heap.size, 0, none⟩) (by show w.heap.size < _; simp only [World.size_alloc]; omega) |>.trans C0.out)
  have K1 := Lib.hid (hb.cell (p := ⟨w.heap.size + 1, 0, none⟩) (by show w.heap.size + 1 < _; simp only [World.size_alloc]; omega) |>.trans C1.out)
  have K2 := Lib.hid (hb.cell (p := ⟨w.heap.size + 1 + 1, 0, none⟩) (by show w.heap.size + 1 + 1 < _; simp only [World.size_alloc]; omega) |>.trans C2.out)
  have D2 := Lib.hid (D1.out.below hb)
  have HB := Lib.hid (HW.out.trans (hb.mono HW.out.size))
  have HSZ : Hid (w.heap.size + 1 + 1 < w1.heap.size) := Lib.hid (by have := hb.size; simp at this; omega)
  clear hb HR KG C0 C1 C2 D1 HW
  have NG : Hid (p.b ≠ p.g0 ∧ w.heap.size ≠ p.g0 ∧ w.heap.size + 1 ≠ p.g0 ∧ w.heap.size + 1 + 1 ≠ p.g0 ∧ w.heap.size ≠ p.b ∧ w.heap.size + 1 ≠ p.b ∧ w.heap.size + 1 + 1 ≠ p.b) := Lib.hid (by
    have hg0 := HLT.out p.g0 (by simp [Fp.own])
    have hb0 := HLT.out p.b (by simp [Fp.own])
    have := D2.out.bg.1
    simp only [List.mem_singleton] at this
    exact ⟨fun e => this e.symm, by omega, by omega, by omega, by omega, by omega, by omega⟩)
  go_wp2_with fail
  refine rA0 w.heap.size (w.heap.size + 1) (w.heap.size + 1 + 1) p.b p.g0 S.f0.length p.c0 s (fun w2 v => ∃ g' c', v = .slice (some ⟨g', 0, none⟩) (S.f0.length + s.size) c' ∧ By w2 g' c' (S.f0 ++ s.data.toList) ∧ Only [p.g0] w1 w2 ∧ (g' = p.g0 ∨ g' = w1.heap.size)) w1
    K0.out (Lib.hid fun w2 v ⟨g', c', _, _, ho, _⟩ => (only_cell ho (a := ⟨w.heap.size, 0, none⟩) (by have := HSZ.out; have := D2.out.blk.lt; show w.heap.size < _; omega) (by rw [List.mem_singleton]; exact NG.out.2.1)).trans K0.out) K1.out (Lib.hid fun w2 v ⟨g', c', _, _, ho, _⟩ => (only_cell ho (a := ⟨w.heap.size + 1, 0, none⟩) (by have := HSZ.out; have := D2.out.blk.lt; show w.heap.size + 1 < _; omega) (by rw [List.mem_singleton]; exact NG.out.2.2.1)).trans K1.out) (D2.out.blk.cell 0) (Lib.hid fun w2 v ⟨g', c', _, _, ho, _⟩ => (only_cell ho (a := ⟨p.b, 0, none⟩) (by have := HSZ.out; have := D2.out.blk.lt; show p.b < _; omega) (by rw [List.mem_singleton]; exact NG.out.1)).trans (D2.out.blk.cell 0)) K2.out (Lib.hid fun w2 v ⟨g', c', _, _, ho, _⟩ => (only_cell ho (a := ⟨w.heap.size + 1 + 1, 0, none⟩) (by have := HSZ.out; have := D2.out.blk.lt; show w.heap.size + 1 + 1 < _; omega) (by rw [List.mem_singleton]; exact NG.out.2.2.2.1)).trans K2.out) (Lib.hid (by
      obtain ⟨g', c', w2, hr, hby, ho, hgg⟩ := app_str w1.drew 80 p.g0 p.c0 S.f0 s S.f0.length rfl (D2.out.r0.of rfl) (by have := HFIT.out; rw [HL.out] at this; omega)
      exact ⟨_, w2, hr, g', c', rfl, hby, ⟨ho.os, ho.tape, ho.output, ho.size, ho.block⟩, hgg⟩)) ?_
  rintro v w2 ⟨g', c', rfl, hby, ho, hgg⟩
  have BY := Lib.hid hby
  have HO := Lib.hid ho
  have HGG := Lib.hid hgg
  have hk2 := D2.out.blk.only ho (by simp only [List.mem_singleton]; exact NG.out.1)
  have L0 := Lib.hid ((only_cell ho (a := ⟨w.heap.size, 0, none⟩) (by have := HSZ.out; show w.heap.size < _; omega) (by rw [List.mem_singleton]; exact NG.out.2.1)).trans K0.out)
  have L1 := Lib.hid ((only_cell ho (a := ⟨w.heap.size + 1, 0, none⟩) (by have := HSZ.out; show w.heap.size + 1 < _; omega) (by rw [List.mem_singleton]; exact NG.out.2.2.1)).trans K1.out)
  have L2 := Lib.hid ((only_cell ho (a := ⟨w.heap.size + 1 + 1, 0, none⟩) (by have := HSZ.out; show w.heap.size + 1 + 1 < _; omega) (by rw [List.mem_singleton]; exact NG.out.2.2.2.1)).trans K2.out)
  have HK2 := Lib.hid hk2
  have HS2 := Lib.hid ho.size
  clear hby ho hgg hk2
  have i0 := HK2.out.cell 0
  have f0 := HK2.out.fro 0
  simp only [rA0O, findR, Tryd.f75, Option.bind_some, Option.or, Option.getD, Nat.reduceEqDiff, if_true, if_false, reduceIte, List.drop_succ_cons, List.drop_zero]
  go_wp2_with fail
  have HK3 : Hid (Bk 93 (w2.setCell ⟨p.b, 0, none⟩ (.slice (some ⟨g', 0, none⟩) (S.f0.length + s.size) c')) p.b _) := Lib.hid (Bk.same (i := 0) (v := .slice (some ⟨g', 0, none⟩) (S.f0.length + s.size) c') HK2.out)
  have P0 : Hid ((w2.setCell ⟨p.b, 0, none⟩ (.slice (some ⟨g', 0, none⟩) (S.f0.length + s.size) c')).cell? ⟨w.heap.size, 0, none⟩ = some (.pointer (some ⟨p.b, 0, none⟩))) := Lib.hid ((cell_setCell_other _ _ _ _ (by show w.heap.size ≠ p.b; exact NG.out.2.2.2.2.1)).trans L0.out)
  have P1 : Hid ((w2.setCell ⟨p.b, 0, none⟩ (.slice (some ⟨g', 0, none⟩) (S.f0.length + s.size) c')).cell? ⟨w.heap.size + 1, 0, none⟩ = some (.int .i64 0)) := Lib.hid ((cell_setCell_other _ _ _ _ (by show w.heap.size + 1 ≠ p.b; exact NG.out.2.2.2.2.2.1)).trans L1.out)
  have P2 : Hid ((w2.setCell ⟨p.b, 0, none⟩ (.slice (some ⟨g', 0, none⟩) (S.f0.length + s.size) c')).cell? ⟨w.heap.size + 1 + 1, 0, none⟩ = some (.string s)) := Lib.hid ((cell_setCell_other _ _ _ _ (by show w.heap.size + 1 + 1 ≠ p.b; exact NG.out.2.2.2.2.2.2)).trans L2.out)
  have P4 : Hid ((w2.setCell ⟨p.b, 0, none⟩ (.slice (some ⟨g', 0, none⟩) (S.f0.length + s.size) c')).cell? ⟨p.b, 4, none⟩ = some (.slice ra rn rc)) := Lib.hid ((HK3.out.cell 4).trans (by simp [HRV.out]))
  have HR3 : Hid ((w2.setCell ⟨p.b, 0, none⟩ (.slice (some ⟨g', 0, none⟩) (S.f0.length + s.size) c')).ownsRow 0 105 2 p.rv S.row.length (pcells S.row)) := Lib.hid (by
    have h2 : w2.ownsRow 0 105 2 p.rv S.row.length (pcells S.row) := owns_of D2.out.rr fun r hr hlt => HO.out.block r hlt (by rw [List.mem_singleton]; exact HRG.out r hr)
    exact owns_of h2 fun r hr hlt => heap_setCell_other _ _ _ _ (by show r ≠ p.b; rintro rfl; exact D2.out.brv (by rw [Option.mem_toList]; exact hr)))
  refine rB0 w.heap.size (w.heap.size + 1) (w.heap.size + 1 + 1) p.b ra rn rc s (fun w4 v => Lg (w2.setCell ⟨p.b, 0, none⟩ (.slice (some ⟨g', 0, none⟩) (S.f0.length + s.size) c')).drew p.rv w4 v (longer S.row 0 s.data.toList.length)) (w2.setCell ⟨p.b, 0, none⟩ (.slice (some ⟨g', 0, none⟩) (S.f0.length + s.size) c'))
    P0.out (Lib.hid fun w4 v h => (only_cell (Lg.undrew h).2.1 (a := ⟨w.heap.size, 0, none⟩) (by have := HSZ.out; have := HS2.out; have := D2.out.blk.lt; show w.heap.size < _; rw [World.size_setCell]; omega) (by have := HRL.out; rw [Option.mem_toList]; exact fun e => absurd (this _ e) (by show ¬ (w.heap.size < w.heap.size); omega))).trans P0.out) P4.out (Lib.hid fun w4 v h => (only_cell (Lg.undrew h).2.1 (a := ⟨p.b, 4, none⟩) (by have := HSZ.out; have := HS2.out; have := D2.out.blk.lt; show p.b < _; rw [World.size_setCell]; omega) D2.out.brv).trans P4.out) P1.out (Lib.hid fun w4 v h => (only_cell (Lg.undrew h).2.1 (a := ⟨w.heap.size + 1, 0, none⟩) (by have := HSZ.out; have := HS2.out; have := D2.out.blk.lt; show w.heap.size + 1 < _; rw [World.size_setCell]; omega) (by have := HRL.out; rw [Option.mem_toList]; exact fun e => absurd (this _ e) (by show ¬ (w.heap.size + 1 < w.heap.size); omega))).trans P1.out) P2.out (Lib.hid fun w4 v h => (only_cell (Lg.undrew h).2.1 (a := ⟨w.heap.size + 1 + 1, 0, none⟩) (by have := HSZ.out; have := HS2.out; have := D2.out.blk.lt; show w.heap.size + 1 + 1 < _; rw [World.size_setCell]; omega) (by have := HRL.out; rw [Option.mem_toList]; exact fun e => absurd (this _ e) (by show ¬ (w.heap.size + 1 + 1 < w.heap.size); omega))).trans P2.out) (Lib.hid (by
      rw [← HRV.out, HL.out]
      have hq := longer_any p.rv S.row 0 s.size HRLEN.out.1 (fun q hq => by have := HRLEN.out.2 q hq; have := HFIT.out; rw [HL.out] at this; omega) (w2.setCell ⟨p.b, 0, none⟩ (.slice (some ⟨g', 0, none⟩) (S.f0.length + s.size) c')).drew HR3.out
      exact hq)) ?_
  intro v4 w4 hlg
  have HLG := Lib.hid (Lg.undrew hlg)
  obtain ⟨va, vn, vc, hvs⟩ := hlg.shape
  clear hlg
  subst hvs
  have HK4 := Lib.hid (HK3.out.only HLG.out.2.1 D2.out.brv)
  have HM := Lib.hid (lay0_dk D2.out HFIT.out HO.out BY.out HGG.out (by rw [HL.out] at *; exact HLG.out))
  have HS4 := Lib.hid HLG.out.2.1.size
  have T0 := Lib.hid ((only_cell HLG.out.2.1 (a := ⟨w.heap.size, 0, none⟩) (by have := HSZ.out; have := HS2.out; show w.heap.size < _; rw [World.size_setCell]; omega) (by have := HRL.out; rw [Option.mem_toList]; exact fun e => absurd (this _ e) (by show ¬ (w.heap.size < w.heap.size); omega))).trans P0.out)
  have t0' : (w4.setCell ⟨p.b, 4, none⟩ (.slice va vn vc)).cell? ⟨w.heap.size, 0, none⟩ = some (.pointer (some ⟨p.b, 0, none⟩)) := (cell_setCell_other _ _ _ _ (by show w.heap.size ≠ p.b; exact NG.out.2.2.2.2.1)).trans T0.out
  have u4 := HK4.out.cell 4
  have g4 := HK4.out.fro 4
  simp only [rB0O, findR, Tryd.f75, Option.bind_some, Option.or, Option.getD, Nat.reduceEqDiff, if_true, if_false, reduceIte, List.drop_succ_cons, List.drop_zero]
  clear f0
  go_wp2_with fail
  have CA := count_any _ _ _ HM.out.1
  have hpb : (Fp.mk p.b g' p.g1 c' p.c1 (.slice va vn vc)).v = .pointer (some ⟨p.b, 0, none⟩) := rfl
  refine (show Calls Tryd.prog 98 #[.pointer (some ⟨p.b, 0, none⟩)] _ _ from CA).mono ?_
  rintro e w6 ⟨rfl, hd, ho6⟩
  have HM6 := Lib.hid (Mut.pre HB.out (HM.out.count hd ho6))
  clear hd ho6 CA
  go_wp2_with fail
  go_ret
  exact ⟨rfl, _, HM6.out⟩
set_option maxHeartbeats 8000000 in
theorem append_1 (p : Fp) (S : St) (s : ByteArray) (hsz : s.size ≤ 140737488355328) (w : World) (h : Dk w p S) (f : Int) (hf : f = 1) (hg : S.gone = false) (hc : appCode S f s.size = 0) :
    Calls Tryd.prog 75 #[p.v, .int .i64 f, .string s] w fun e w' => e = .returned (.int .i64 (((S.lay 1 s.data.toList).count).1 : Int)) ∧ ∃ p', Mut w p w' p' ((S.lay 1 s.data.toList).count).2 := by
  have hW : Below w.heap.size w (((w.alloc (.cells #[.pointer (some ⟨p.b, 0, none⟩)] 27)).alloc (.cells #[.int .i64 f] 3)).alloc (.cells #[.string s] 9)) := by go_grown
  have D1 := Lib.hid (h.below hW)
  have HW := Lib.hid hW
  have C0 : Hid ((((w.alloc (.cells #[.pointer (some ⟨p.b, 0, none⟩)] 27)).alloc (.cells #[.int .i64 f] 3)).alloc (.cells #[.string s] 9)).cell? ⟨w.heap.size, 0, none⟩ = some (.pointer (some ⟨p.b, 0, none⟩))) := Lib.hid ((Bk.alloc (Bk.alloc (Bk.new (t := 27) rfl))).cell 0)
  have C1 : Hid ((((w.alloc (.cells #[.pointer (some ⟨p.b, 0, none⟩)] 27)).alloc (.cells #[.int .i64 f] 3)).alloc (.cells #[.string s] 9)).cell? ⟨w.heap.size + 1, 0, none⟩ = some (.int .i64 f)) := Lib.hid ((Bk.alloc (Bk.new (t := 3) (by simp))).cell 0)
  have C2 : Hid ((((w.alloc (.cells #[.pointer (some ⟨p.b, 0, none⟩)] 27)).alloc (.cells #[.int .i64 f] 3)).alloc (.cells #[.string s] 9)).cell? ⟨w.heap.size + 1 + 1, 0, none⟩ = some (.string s)) := Lib.hid ((Bk.new (t := 9) (by simp)).cell 0)
  have hM := hmf
  have HLT := Lib.hid h.lt
  have HL : Hid (s.data.toList.length = s.size) := Lib.hid (ba_size s)
  obtain ⟨ra, rn, rc, hrv⟩ := h.rvs
  have HRV := Lib.hid hrv
  clear hrv
  have HRL : Hid (∀ r, p.rv.ownBlock = some r → r < w.heap.size) := Lib.hid fun r hr => owns_lt h.rr hr
  have HRLEN : Hid (S.row.length ≤ 2097152 ∧ ∀ q ∈ S.row, q.2 ≤ 1048576) := Lib.hid ⟨h.wf.rowlen, fun q hq => row_small h.wf q hq⟩
  have HRG : Hid (∀ r, p.rv.ownBlock = some r → r ≠ p.g1) := Lib.hid fun r hr => h.rvg1 r hr
  have HFIT : Hid (S.f1.length + s.data.toList.length ≤ 1048576) := Lib.hid (by
    rw [ba_size]
    subst hf
    unfold appCode at hc
    rw [if_neg (by decide)] at hc
    split at hc
    · cases hc
    · rename_i hx
      have e0 : S.file ((1 : Int).toNat) = S.f1 := rfl
      rw [e0] at hx
      omega)
  clear hW
  have KG := Lib.hid (D1.out.gone hg)
  have HR := Lib.hid (clo54 (w.heap.size + 1) w.heap.size (w.heap.size + 1 + 1) f s p S _ C1.out C0.out C2.out D1 hsz)
  rw [hc] at HR
  subst hf
  clear hc hg h
  unfold Fp.v
  go_enter Tryd.func75, Tryd.ntmps75
  go_wp2_with fail
  refine (refused54 p.b _ _ _ _ _ _ _ _ _ _ _ _ _ KG HR).mono ?_
  rintro e w1 ⟨rfl, hb⟩
  have K0 := Lib.hid (hb.cell (p := ⟨w.heap.size, 0, none⟩) (by show w.heap.size < _; simp only [World.size_alloc]; omega) |>.trans C0.out)
  have K1 := Lib.hid (hb.cell (p := ⟨w.heap.size + 1, 0, none⟩) (by show w.heap.size + 1 < _; simp only [World.size_alloc]; omega) |>.trans C1.out)
  have K2 := Lib.hid (hb.cell (p := ⟨w.heap.size + 1 + 1, 0, none⟩) (by show w.heap.size + 1 + 1 < _; simp only [World.size_alloc]; omega) |>.trans C2.out)
  have D2 := Lib.hid (D1.out.below hb)
  have HB := Lib.hid (HW.out.trans (hb.mono HW.out.size))
  have HSZ : Hid (w.heap.size + 1 + 1 < w1.heap.size) := Lib.hid (by have := hb.size; simp at this; omega)
  clear hb HR KG C0 C1 C2 D1 HW
  have NG : Hid (p.b ≠ p.g1 ∧ w.heap.size ≠ p.g1 ∧ w.heap.size + 1 ≠ p.g1 ∧ w.heap.size + 1 + 1 ≠ p.g1 ∧ w.heap.size ≠ p.b ∧ w.heap.size + 1 ≠ p.b ∧ w.heap.size + 1 + 1 ≠ p.b) := Lib.hid (by
    have hg0 := HLT.out p.g1 (by simp [Fp.own])
    have hb0 := HLT.out p.b (by simp [Fp.own])
    have := D2.out.bg.2
    simp only [List.mem_singleton] at this
    exact ⟨fun e => this e.symm, by omega, by omega, by omega, by omega, by omega, by omega⟩)
  go_wp2_with fail
  refine rA1 w.heap.size (w.heap.size + 1) (w.heap.size + 1 + 1) p.b p.g1 S.f1.length p.c1 s (fun w2 v => ∃ g' c', v = .slice (some ⟨g', 0, none⟩) (S.f1.length + s.size) c' ∧ By w2 g' c' (S.f1 ++ s.data.toList) ∧ Only [p.g1] w1 w2 ∧ (g' = p.g1 ∨ g' = w1.heap.size)) w1
    K0.out (Lib.hid fun w2 v ⟨g', c', _, _, ho, _⟩ => (only_cell ho (a := ⟨w.heap.size, 0, none⟩) (by have := HSZ.out; have := D2.out.blk.lt; show w.heap.size < _; omega) (by rw [List.mem_singleton]; exact NG.out.2.1)).trans K0.out) K1.out (Lib.hid fun w2 v ⟨g', c', _, _, ho, _⟩ => (only_cell ho (a := ⟨w.heap.size + 1, 0, none⟩) (by have := HSZ.out; have := D2.out.blk.lt; show w.heap.size + 1 < _; omega) (by rw [List.mem_singleton]; exact NG.out.2.2.1)).trans K1.out) (D2.out.blk.cell 2) (Lib.hid fun w2 v ⟨g', c', _, _, ho, _⟩ => (only_cell ho (a := ⟨p.b, 2, none⟩) (by have := HSZ.out; have := D2.out.blk.lt; show p.b < _; omega) (by rw [List.mem_singleton]; exact NG.out.1)).trans (D2.out.blk.cell 2)) K2.out (Lib.hid fun w2 v ⟨g', c', _, _, ho, _⟩ => (only_cell ho (a := ⟨w.heap.size + 1 + 1, 0, none⟩) (by have := HSZ.out; have := D2.out.blk.lt; show w.heap.size + 1 + 1 < _; omega) (by rw [List.mem_singleton]; exact NG.out.2.2.2.1)).trans K2.out) (Lib.hid (by
      obtain ⟨g', c', w2, hr, hby, ho, hgg⟩ := app_str w1.drew 80 p.g1 p.c1 S.f1 s S.f1.length rfl (D2.out.r1.of rfl) (by have := HFIT.out; rw [HL.out] at this; omega)
      exact ⟨_, w2, hr, g', c', rfl, hby, ⟨ho.os, ho.tape, ho.output, ho.size, ho.block⟩, hgg⟩)) ?_
  rintro v w2 ⟨g', c', rfl, hby, ho, hgg⟩
  have BY := Lib.hid hby
  have HO := Lib.hid ho
  have HGG := Lib.hid hgg
  have hk2 := D2.out.blk.only ho (by simp only [List.mem_singleton]; exact NG.out.1)
  have L0 := Lib.hid ((only_cell ho (a := ⟨w.heap.size, 0, none⟩) (by have := HSZ.out; show w.heap.size < _; omega) (by rw [List.mem_singleton]; exact NG.out.2.1)).trans K0.out)
  have L1 := Lib.hid ((only_cell ho (a := ⟨w.heap.size + 1, 0, none⟩) (by have := HSZ.out; show w.heap.size + 1 < _; omega) (by rw [List.mem_singleton]; exact NG.out.2.2.1)).trans K1.out)
  have L2 := Lib.hid ((only_cell ho (a := ⟨w.heap.size + 1 + 1, 0, none⟩) (by have := HSZ.out; show w.heap.size + 1 + 1 < _; omega) (by rw [List.mem_singleton]; exact NG.out.2.2.2.1)).trans K2.out)
  have HK2 := Lib.hid hk2
  have HS2 := Lib.hid ho.size
  clear hby ho hgg hk2
  have i0 := HK2.out.cell 2
  have f0 := HK2.out.fro 2
  simp only [rA1O, findR, Tryd.f75, Option.bind_some, Option.or, Option.getD, Nat.reduceEqDiff, if_true, if_false, reduceIte, List.drop_succ_cons, List.drop_zero]
  go_wp2_with fail
  have HK3 : Hid (Bk 93 (w2.setCell ⟨p.b, 2, none⟩ (.slice (some ⟨g', 0, none⟩) (S.f1.length + s.size) c')) p.b _) := Lib.hid (Bk.same (i := 2) (v := .slice (some ⟨g', 0, none⟩) (S.f1.length + s.size) c') HK2.out)
  have P0 : Hid ((w2.setCell ⟨p.b, 2, none⟩ (.slice (some ⟨g', 0, none⟩) (S.f1.length + s.size) c')).cell? ⟨w.heap.size, 0, none⟩ = some (.pointer (some ⟨p.b, 0, none⟩))) := Lib.hid ((cell_setCell_other _ _ _ _ (by show w.heap.size ≠ p.b; exact NG.out.2.2.2.2.1)).trans L0.out)
  have P1 : Hid ((w2.setCell ⟨p.b, 2, none⟩ (.slice (some ⟨g', 0, none⟩) (S.f1.length + s.size) c')).cell? ⟨w.heap.size + 1, 0, none⟩ = some (.int .i64 1)) := Lib.hid ((cell_setCell_other _ _ _ _ (by show w.heap.size + 1 ≠ p.b; exact NG.out.2.2.2.2.2.1)).trans L1.out)
  have P2 : Hid ((w2.setCell ⟨p.b, 2, none⟩ (.slice (some ⟨g', 0, none⟩) (S.f1.length + s.size) c')).cell? ⟨w.heap.size + 1 + 1, 0, none⟩ = some (.string s)) := Lib.hid ((cell_setCell_other _ _ _ _ (by show w.heap.size + 1 + 1 ≠ p.b; exact NG.out.2.2.2.2.2.2)).trans L2.out)
  have P4 : Hid ((w2.setCell ⟨p.b, 2, none⟩ (.slice (some ⟨g', 0, none⟩) (S.f1.length + s.size) c')).cell? ⟨p.b, 4, none⟩ = some (.slice ra rn rc)) := Lib.hid ((HK3.out.cell 4).trans (by simp [HRV.out]))
  have HR3 : Hid ((w2.setCell ⟨p.b, 2, none⟩ (.slice (some ⟨g', 0, none⟩) (S.f1.length + s.size) c')).ownsRow 0 105 2 p.rv S.row.length (pcells S.row)) := Lib.hid (by
    have h2 : w2.ownsRow 0 105 2 p.rv S.row.length (pcells S.row) := owns_of D2.out.rr fun r hr hlt => HO.out.block r hlt (by rw [List.mem_singleton]; exact HRG.out r hr)
    exact owns_of h2 fun r hr hlt => heap_setCell_other _ _ _ _ (by show r ≠ p.b; rintro rfl; exact D2.out.brv (by rw [Option.mem_toList]; exact hr)))
  refine rB1 w.heap.size (w.heap.size + 1) (w.heap.size + 1 + 1) p.b ra rn rc s (fun w4 v => Lg (w2.setCell ⟨p.b, 2, none⟩ (.slice (some ⟨g', 0, none⟩) (S.f1.length + s.size) c')).drew p.rv w4 v (longer S.row 1 s.data.toList.length)) (w2.setCell ⟨p.b, 2, none⟩ (.slice (some ⟨g', 0, none⟩) (S.f1.length + s.size) c'))
    P0.out (Lib.hid fun w4 v h => (only_cell (Lg.undrew h).2.1 (a := ⟨w.heap.size, 0, none⟩) (by have := HSZ.out; have := HS2.out; have := D2.out.blk.lt; show w.heap.size < _; rw [World.size_setCell]; omega) (by have := HRL.out; rw [Option.mem_toList]; exact fun e => absurd (this _ e) (by show ¬ (w.heap.size < w.heap.size); omega))).trans P0.out) P4.out (Lib.hid fun w4 v h => (only_cell (Lg.undrew h).2.1 (a := ⟨p.b, 4, none⟩) (by have := HSZ.out; have := HS2.out; have := D2.out.blk.lt; show p.b < _; rw [World.size_setCell]; omega) D2.out.brv).trans P4.out) P1.out (Lib.hid fun w4 v h => (only_cell (Lg.undrew h).2.1 (a := ⟨w.heap.size + 1, 0, none⟩) (by have := HSZ.out; have := HS2.out; have := D2.out.blk.lt; show w.heap.size + 1 < _; rw [World.size_setCell]; omega) (by have := HRL.out; rw [Option.mem_toList]; exact fun e => absurd (this _ e) (by show ¬ (w.heap.size + 1 < w.heap.size); omega))).trans P1.out) P2.out (Lib.hid fun w4 v h => (only_cell (Lg.undrew h).2.1 (a := ⟨w.heap.size + 1 + 1, 0, none⟩) (by have := HSZ.out; have := HS2.out; have := D2.out.blk.lt; show w.heap.size + 1 + 1 < _; rw [World.size_setCell]; omega) (by have := HRL.out; rw [Option.mem_toList]; exact fun e => absurd (this _ e) (by show ¬ (w.heap.size + 1 + 1 < w.heap.size); omega))).trans P2.out) (Lib.hid (by
      rw [← HRV.out, HL.out]
      have hq := longer_any p.rv S.row 1 s.size HRLEN.out.1 (fun q hq => by have := HRLEN.out.2 q hq; have := HFIT.out; rw [HL.out] at this; omega) (w2.setCell ⟨p.b, 2, none⟩ (.slice (some ⟨g', 0, none⟩) (S.f1.length + s.size) c')).drew HR3.out
      exact hq)) ?_
  intro v4 w4 hlg
  have HLG := Lib.hid (Lg.undrew hlg)
  obtain ⟨va, vn, vc, hvs⟩ := hlg.shape
  clear hlg
  subst hvs
  have HK4 := Lib.hid (HK3.out.only HLG.out.2.1 D2.out.brv)
  have HM := Lib.hid (lay1_dk D2.out HFIT.out HO.out BY.out HGG.out (by rw [HL.out] at *; exact HLG.out))
  have HS4 := Lib.hid HLG.out.2.1.size
  have T0 := Lib.hid ((only_cell HLG.out.2.1 (a := ⟨w.heap.size, 0, none⟩) (by have := HSZ.out; have := HS2.out; show w.heap.size < _; rw [World.size_setCell]; omega) (by have := HRL.out; rw [Option.mem_toList]; exact fun e => absurd (this _ e) (by show ¬ (w.heap.size < w.heap.size); omega))).trans P0.out)
  have t0' : (w4.setCell ⟨p.b, 4, none⟩ (.slice va vn vc)).cell? ⟨w.heap.size, 0, none⟩ = some (.pointer (some ⟨p.b, 0, none⟩)) := (cell_setCell_other _ _ _ _ (by show w.heap.size ≠ p.b; exact NG.out.2.2.2.2.1)).trans T0.out
  have u4 := HK4.out.cell 4
  have g4 := HK4.out.fro 4
  simp only [rB1O, findR, Tryd.f75, Option.bind_some, Option.or, Option.getD, Nat.reduceEqDiff, if_true, if_false, reduceIte, List.drop_succ_cons, List.drop_zero]
  clear f0
  go_wp2_with fail
  have CA := count_any _ _ _ HM.out.1
  have hpb : (Fp.mk p.b p.g0 g' p.c0 c' (.slice va vn vc)).v = .pointer (some ⟨p.b, 0, none⟩) := rfl
  refine (show Calls Tryd.prog 98 #[.pointer (some ⟨p.b, 0, none⟩)] _ _ from CA).mono ?_
  rintro e w6 ⟨rfl, hd, ho6⟩
  have HM6 := Lib.hid (Mut.pre HB.out (HM.out.count hd ho6))
  clear hd ho6 CA
  go_wp2_with fail
  go_ret
  exact ⟨rfl, _, HM6.out⟩
set_option maxHeartbeats 8000000 in
theorem append_any (p : Fp) (S : St) (f : Int) (s : ByteArray) (hsz : s.size ≤ 140737488355328) (w : World) (h : Dk w p S) :
    Calls Tryd.prog 75 #[p.v, .int .i64 f, .string s] w fun e w' => e = .returned (.int .i64 ((S.append f s.data.toList).1 : Int)) ∧ ∃ p', Mut w p w' p' (S.append f s.data.toList).2 := by
  rw [append_eq, ba_size]
  cases hg : S.gone
  · simp only [Bool.false_eq_true, if_false]
    by_cases hc : appCode S f s.size = 0
    · rw [if_neg (by simp [hc])]
      have ht : St.there f = true := by
        unfold appCode at hc
        split at hc
        · cases hc
        · rename_i hx; simpa using hx
      have hfb : f = 0 ∨ f = 1 := by simp [St.there] at ht; omega
      rcases hfb with hf | hf
      · have := append_0 p S s hsz w h f hf hg hc
        rw [show f.toNat = 0 by subst hf; rfl]
        exact this
      · have := append_1 p S s hsz w h f hf hg hc
        rw [show f.toNat = 1 by subst hf; rfl]
        exact this
    · rw [if_pos hc]
      have hW : Below w.heap.size w (((w.alloc (.cells #[.pointer (some ⟨p.b, 0, none⟩)] 27)).alloc (.cells #[.int .i64 f] 3)).alloc (.cells #[.string s] 9)) := by go_grown
      have D1 := Lib.hid (h.below hW)
      have HW := Lib.hid hW
      have C0 : Hid ((((w.alloc (.cells #[.pointer (some ⟨p.b, 0, none⟩)] 27)).alloc (.cells #[.int .i64 f] 3)).alloc (.cells #[.string s] 9)).cell? ⟨w.heap.size, 0, none⟩ = some (.pointer (some ⟨p.b, 0, none⟩))) := Lib.hid ((Bk.alloc (Bk.alloc (Bk.new (t := 27) rfl))).cell 0)
      have C1 : Hid ((((w.alloc (.cells #[.pointer (some ⟨p.b, 0, none⟩)] 27)).alloc (.cells #[.int .i64 f] 3)).alloc (.cells #[.string s] 9)).cell? ⟨w.heap.size + 1, 0, none⟩ = some (.int .i64 f)) := Lib.hid ((Bk.alloc (Bk.new (t := 3) (by simp))).cell 0)
      have C2 : Hid ((((w.alloc (.cells #[.pointer (some ⟨p.b, 0, none⟩)] 27)).alloc (.cells #[.int .i64 f] 3)).alloc (.cells #[.string s] 9)).cell? ⟨w.heap.size + 1 + 1, 0, none⟩ = some (.string s)) := Lib.hid ((Bk.new (t := 9) (by simp)).cell 0)
      have hM := hmf
      have KG := Lib.hid (D1.out.gone hg)
      have HR := Lib.hid (clo54 (w.heap.size + 1) w.heap.size (w.heap.size + 1 + 1) f s p S _ C1.out C0.out C2.out D1 hsz)
      obtain ⟨m, hm⟩ : ∃ m, appCode S f s.size = m + 1 := ⟨appCode S f s.size - 1, by omega⟩
      rw [hm] at HR ⊢
      have ht : (((m + 1 : Nat) : Int) != 0) = true := by simp; omega
      clear hc hm hg h hW C0 C1 C2
      unfold Fp.v
      go_enter Tryd.func75, Tryd.ntmps75
      go_wp2_with fail
      refine (refused54 p.b _ _ _ _ _ _ _ _ _ _ _ _ _ KG HR).mono ?_
      rintro e w1 ⟨rfl, hb⟩
      have D2 := Lib.hid (D1.out.below hb)
      have HB := Lib.hid (HW.out.trans (hb.mono HW.out.size))
      clear hb
      go_wp2_with fail
      go_ret
      exact ⟨rfl, p, D2.out, rfl, .of HB.out, fun k h => .inl h⟩
  · simp only [if_true]
    have hW : Below w.heap.size w (((w.alloc (.cells #[.pointer (some ⟨p.b, 0, none⟩)] 27)).alloc (.cells #[.int .i64 f] 3)).alloc (.cells #[.string s] 9)) := by go_grown
    have D1 := Lib.hid (h.below hW)
    have HW := Lib.hid hW
    have KG := Lib.hid (D1.out.gone hg)
    have hM := hmf
    clear hg h hW
    unfold Fp.v
    go_enter Tryd.func75, Tryd.ntmps75
    go_wp2_with fail
    refine (refused_gone p.b _ _ _ _ _ _ _ _ _ KG).mono ?_
    rintro e w' ⟨rfl, rfl⟩
    go_wp2_with fail
    go_ret
    exact ⟨rfl, p, D1.out, rfl, .of HW.out, fun k h => .inl h⟩
theorem grown_below {w w1 w2 : World} {r : Option Nat} (hb : Below w.heap.size w w1) (hg : w1.grownBy w2 r) (hr : ∀ k, r = some k → w.heap.size ≤ k) : Below w.heap.size w w2 := hb.grown hg hb.size hr
theorem q60 (w : World) (a : Option Addr) (n c n' c' : Nat) : (binOp .eql 89 (.slice a n c) (.slice none n' c')).run Tryd.prog w = .ok (.bool a.isNone) w := Lib.run_eql_slice_nil w _ _ a n c n' c' u60
theorem q56 (w : World) (a : Option Addr) (n c n' c' : Nat) : (binOp .eql 80 (.slice a n c) (.slice none n' c')).run Tryd.prog w = .ok (.bool a.isNone) w := Lib.run_eql_slice_nil w _ _ a n c n' c' u56
set_option maxHeartbeats 8000000 in
theorem cloneRow_nil (w : World) : Calls Tryd.prog 50 #[.slice none 0 0] w fun e w' => e = .returned (.slice none 0 0) ∧ w = w' := by
  have hq := q60
  go_enter Tryd.func50, Tryd.ntmps50
  go_wp2_with fail
  go_ret
  exact ⟨rfl, rfl⟩
set_option maxHeartbeats 8000000 in
theorem cloneRow_some (q n c : Nat) (l : List (Nat × Nat)) (hl : l.length ≤ 4194304) (w : World) (h : w.ownsRow 0 105 2 (.slice (some ⟨q, 0, none⟩) n c) l.length (pcells l)) (hn : n = l.length) :
    Calls Tryd.prog 50 #[.slice (some ⟨q, 0, none⟩) n c] w fun e w' => ∃ v, e = .returned v ∧ w'.ownsRow 0 105 2 v l.length (pcells l) ∧ Below w.heap.size w w' ∧ ∀ k, v.ownBlock = some k → w.heap.size ≤ k := by
  obtain ⟨i0, hi, hz0, hz1, hz2⟩ := info_parts infoPiece
  have hcells := h.cells (g := q) rfl
  have hlt := h.lt q rfl
  have HA : Hid (∃ v' w', (Builtin.append_ #[89, 89] 89 #[.slice (some ⟨w.heap.size, 0, none⟩) 0 0, .slice (some ⟨q, 0, none⟩) n c]).run Tryd.prog (w.alloc (.cells #[] 105)) = .ok v' w' ∧ w'.ownsRow 0 105 2 v' l.length (pcells l) ∧ Below w.heap.size w w' ∧ ∀ k, v'.ownBlock = some k → w.heap.size ≤ k) := Lib.hid (by
    obtain ⟨v', w', hrun, ho, hgr, hv, _⟩ := app_own (w.alloc (.cells #[] 105)) 89 89 105 i0 (.agg #[.int .i64 0, .int .i64 0]) 2 16 u60 hi hz0 hz1 hz2 rfl (by decide) (.slice (some ⟨w.heap.size, 0, none⟩) 0 0) 0 [] ⟨rfl, .inr ⟨w.heap.size, 0, #[], rfl, Nat.zero_le _, Go.heap_alloc_new w _, Nat.le_refl _, by unfold maxLen; omega, rfl, rfl⟩⟩ ⟨q, 0, none⟩ n c (pcells l) (by rw [pcells_len, hn]) (by
      intro j u hu
      rw [at0]
      have := hcells j u hu
      rw [at0] at this
      exact ((show Below w.heap.size w (w.alloc (.cells #[] 105)) by go_grown).cell (p := ⟨q, j, none⟩) hlt.2).trans this) (by
      intro u hu
      unfold pcells at hu
      obtain ⟨x, _, hx⟩ := List.mem_flatMap.1 hu
      simp only [List.mem_cons, List.not_mem_nil, or_false] at hx
      rcases hx with rfl | rfl <;> rfl) (by unfold maxLen; omega) (by omega)
    refine ⟨v', w', hrun, by rw [hn, Nat.zero_add] at ho; exact ho, grown_below (by go_grown) hgr (fun k hk => by cases hk; exact Nat.le_refl _), fun k hk => ?_⟩
    rcases hv with e | e
    · rw [e] at hk; cases hk; exact Nat.le_refl _
    · have := e k hk; simp at this; omega)
  have hne : (Tryd.prog.types.size == 0) = false := by kernel_rfl
  clear hi hz0 hz1 hz2 hcells hlt h hl hn
  have hq := q60
  go_enter Tryd.func50, Tryd.ntmps50
  go_wp2_with (at_builtin; obtain ⟨v', w', hrun, ho, hb, hk⟩ := HA.out; replace ho := Lib.hid ho; replace hb := Lib.hid hb; replace hk := Lib.hid hk; clear HA; refine Lib.wpList_append_run _ rfl _ _ 89 89 rfl _ _ rfl rfl v' w' hrun ?_; clear hrun)
  go_ret
  exact ⟨_, rfl, ho.out, hb.out, hk.out⟩
theorem cloneRow (rv : Value) (l : List (Nat × Nat)) (hl : l.length ≤ 4194304) (w : World) (h : w.ownsRow 0 105 2 rv l.length (pcells l)) :
    Calls Tryd.prog 50 #[rv] w fun e w' => ∃ v, e = .returned v ∧ w'.ownsRow 0 105 2 v l.length (pcells l) ∧ Below w.heap.size w w' ∧ ∀ k, v.ownBlock = some k → w.heap.size ≤ k := by
  have h' := h
  obtain ⟨_, ⟨rfl, hn⟩ | ⟨q, cap, cur, rfl, _⟩⟩ := h'
  · refine (cloneRow_nil w).mono ?_
    rintro e w' ⟨rfl, rfl⟩
    exact ⟨_, rfl, h, Below.refl _ _, fun k hk => by cases hk⟩
  · exact cloneRow_some q _ cap l hl w h rfl
theorem By.owns {w : World} {g c : Nat} {l : List UInt8} (h : w.ownsRow 0 5 1 (.slice (some ⟨g, 0, none⟩) l.length c) l.length (bl l)) : By w g c l := by
  obtain ⟨_, ⟨hv, _⟩ | ⟨q, cap, cur, hv, _, hg, hn, hm, hs, ht⟩⟩ := h
  · cases hv
  · cases hv
    exact ⟨cur, (0, 0), hg, .inl rfl, hn, hm, by simpa using hs, by simpa using ht⟩
theorem owns_slice {w : World} {e : TypeId} {z : Nat} {v : Value} {n : Nat} {xs : List Value} (h : w.ownsRow 0 e z v n xs) (hv : v ≠ .slice none 0 0) : ∃ g c, v = .slice (some ⟨g, 0, none⟩) n c := by
  obtain ⟨_, ⟨hv', _⟩ | ⟨q, cap, cur, hv', _⟩⟩ := h
  · exact absurd hv' hv
  · exact ⟨_, _, hv'⟩
set_option maxHeartbeats 8000000 in
theorem cloneBytes (g n c : Nat) (l : List UInt8) (hl : l.length ≤ 4194304) (w : World) (h : By w g c l) (hn : n = l.length) :
    Calls Tryd.prog 51 #[.slice (some ⟨g, 0, none⟩) n c] w fun e w' => ∃ v, e = .returned v ∧ (∃ g' c', v = .slice (some ⟨g', 0, none⟩) l.length c' ∧ By w' g' c' l ∧ w.heap.size ≤ g') ∧ Below w.heap.size w w' := by
  obtain ⟨i0, hi, hz0, hz1, hz2⟩ := info_parts infoByte
  have HA : Hid (∃ v' w', (Builtin.append_ #[80, 80] 80 #[.slice (some ⟨w.heap.size, 0, none⟩) 0 0, .slice (some ⟨g, 0, none⟩) n c]).run Tryd.prog (w.alloc (.cells #[] 5)) = .ok v' w' ∧ (∃ g' c', v' = .slice (some ⟨g', 0, none⟩) l.length c' ∧ By w' g' c' l ∧ w.heap.size ≤ g') ∧ Below w.heap.size w w') := Lib.hid (by
    obtain ⟨v', w', hrun, ho, hgr, hv, hnil⟩ := app_own (w.alloc (.cells #[] 5)) 80 80 5 i0 (.int .u8 0) 1 1 u56 hi hz0 hz1 hz2 rfl (by decide) (.slice (some ⟨w.heap.size, 0, none⟩) 0 0) 0 [] ⟨rfl, .inr ⟨w.heap.size, 0, #[], rfl, Nat.zero_le _, Go.heap_alloc_new w _, Nat.le_refl _, by unfold maxLen; omega, rfl, rfl⟩⟩ ⟨g, 0, none⟩ n c (bl l) (by rw [bl_len, hn, Nat.mul_one]) (by
      intro j u hu
      rw [at0]
      have hj : j < l.length := by
        have := (List.getElem?_eq_some_iff.1 hu).1
        rwa [bl_len] at this
      have hc := h.cell j hj
      have e : (bl l)[j]? = some (.int .u8 (l[j].toNat : Int)) := by simp [bl, hj]
      rw [e] at hu
      rw [← hu, ← hc]
      exact (show Below w.heap.size w (w.alloc (.cells #[] 5)) by go_grown).cell (p := ⟨g, j, none⟩) h.lt) (by
      intro u hu
      simp only [bl, List.mem_map] at hu
      obtain ⟨x, _, rfl⟩ := hu
      rfl) (by unfold maxLen; omega) (by omega)
    rw [Nat.zero_add, hn] at ho
    obtain ⟨g', c', hv'⟩ := owns_slice ho (fun e => by have := hnil e; cases this)
    subst hv'
    refine ⟨_, w', hrun, ⟨g', c', rfl, By.owns ho, ?_⟩, grown_below (by go_grown) hgr (fun k hk => by cases hk; exact Nat.le_refl _)⟩
    rcases hv with e | e
    · cases e; exact Nat.le_refl _
    · have := e g' rfl; simp at this; omega)
  have hq := q56
  clear hi hz0 hz1 hz2 h hl hn
  go_enter Tryd.func51, Tryd.ntmps51
  go_wp2_with (at_builtin; obtain ⟨v', w', hrun, ho, hb⟩ := HA.out; replace ho := Lib.hid ho; replace hb := Lib.hid hb; clear HA; refine Lib.wpList_append_run _ rfl _ _ 80 80 rfl _ _ rfl rfl v' w' hrun ?_; clear hrun)
  go_ret
  exact ⟨_, rfl, ho.out, hb.out⟩
end Go.Proofs.YtmoihgniglomiaaDoor
