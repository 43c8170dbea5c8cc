/- Cut of a disk, whole. No condition but the disk's own. -/
import Derived.StillTailTactics
import Derived.Test.YtmoihgniglomiaaDoorZI
set_option linter.unusedVariables false
set_option linter.unusedSimpArgs false
set_option maxRecDepth 100000
namespace Go.Proofs.YtmoihgniglomiaaDoor
open Go.RowKit Go.Sort

def cutCode (S : St) (f n : Int) : Nat := if ¬ St.there f then 90 else if n < 0 ∨ n > ((S.file f.toNat).length : Int) ∨ S.safe f.toNat < (S.file f.toNat).length then 92 else 0
theorem clo49 (a c d : Nat) (f n : Int) (p : Fp) (S : St) (w : World) (h : w.cell? ⟨a, 0, none⟩ = some (.int .i64 f)) (h' : w.cell? ⟨c, 0, none⟩ = some (.int .i64 n)) (h'' : w.cell? ⟨d, 0, none⟩ = some p.v) (D : Hid (Dk w p S)) :
    Calls Tryd.prog 100 #[.pointer (some ⟨a, 0, none⟩), .pointer (some ⟨c, 0, none⟩), .pointer (some ⟨d, 0, none⟩)] w fun e w' => e = .returned (.int .i64 (cutCode S f n : Int)) ∧ Below w.heap.size w w' := by
  rcases (by omega : f = 0 ∨ f = 1 ∨ ¬ (0 ≤ f ∧ f < 2)) with rfl | rfl | hf
  · have e0 : S.file ((0 : Int).toNat) = S.f0 := rfl
    have e1 : S.safe ((0 : Int).toNat) = S.s0 := rfl
    have e2 : St.there 0 = true := rfl
    unfold cutCode
    rw [e0, e1, e2]
    by_cases hn : n < 0
    · rw [if_neg (by simp), if_pos (.inl hn)]
      exact clo49_0neg a c d n p S w h h' h'' D hn
    · by_cases hb : n > (S.f0.length : Int)
      · rw [if_neg (by simp), if_pos (.inr (.inl hb))]
        exact clo49_0big a c d n p S w h h' h'' D hn hb
      · by_cases hs : S.s0 < S.f0.length
        · rw [if_neg (by simp), if_pos (.inr (.inr hs))]
          exact clo49_0wait a c d n p S w h h' h'' D hn hb hs
        · rw [if_neg (by simp), if_neg (by omega)]
          exact clo49_0ok a c d n p S w h h' h'' D hn hb hs
  · have e0 : S.file ((1 : Int).toNat) = S.f1 := rfl
    have e1 : S.safe ((1 : Int).toNat) = S.s1 := rfl
    have e2 : St.there 1 = true := rfl
    unfold cutCode
    rw [e0, e1, e2]
    by_cases hn : n < 0
    · rw [if_neg (by simp), if_pos (.inl hn)]
      exact clo49_1neg a c d n p S w h h' h'' D hn
    · by_cases hb : n > (S.f1.length : Int)
      · rw [if_neg (by simp), if_pos (.inr (.inl hb))]
        exact clo49_1big a c d n p S w h h' h'' D hn hb
      · by_cases hs : S.s1 < S.f1.length
        · rw [if_neg (by simp), if_pos (.inr (.inr hs))]
          exact clo49_1wait a c d n p S w h h' h'' D hn hb hs
        · rw [if_neg (by simp), if_neg (by omega)]
          exact clo49_1ok a c d n p S w h h' h'' D hn hb hs
  · have hth : St.there f = false := by simpa [St.there] using hf
    have e : cutCode S f n = 90 := by simp [cutCode, hth]
    rw [e]
    exact clo49_not a c d f w hth h
theorem cut_eq (S : St) (f n : Int) : S.cut f n = if S.gone then (2, S) else if cutCode S f n ≠ 0 then (cutCode S f n, S) else if (S.count).1 = 0 then (0, (S.count).2.cutF f.toNat n.toNat) else S.count := by
  unfold St.cut cutCode
  cases S.gone
  · simp only [Bool.false_eq_true, if_false]
    by_cases h : St.there f = true
    · simp only [h, not_true_eq_false, if_false]
      split <;> simp
    · simp [h]
  · simp
theorem only_cell {L : List Nat} {w w' : World} (h : Only L w w') {a : Addr} (ha : a.block < w.heap.size) (hL : a.block ∉ L) : w'.cell? a = w.cell? a := World.cell?_of_block (w := w) (h.block a.block ha hL)
theorem Dk.rown {w w' : World} {p : Fp} {S : St} (h : Dk w p S) (hO : Only [p.b] w w') : w'.ownsRow 0 105 2 p.rv S.row.length (pcells S.row) := by
  refine owns_of h.rr (fun r hr hlt => hO.block r hlt ?_)
  intro hm
  have hrb : r = p.b := by simpa using hm
  obtain ⟨_, ⟨hv, _⟩ | ⟨r', cap, cur, hv, _, hg, _⟩⟩ := h.rr
  · rw [hv] at hr; cases hr
  · rw [hv] at hr
    cases hr
    have hbk := h.blk
    unfold Bk at hbk
    simp only at hrb
    rw [hrb, hbk] at hg
    cases hg
theorem Dk.bg {w : World} {p : Fp} {S : St} (h : Dk w p S) : p.g0 ∉ [p.b] ∧ p.g1 ∉ [p.b] := by
  have h0 := h.r0.ne h.blk (by decide)
  have h1 := h.r1.ne h.blk (by decide)
  simp only [List.mem_singleton]
  exact ⟨fun e => h0 e.symm, fun e => h1 e.symm⟩
theorem Dk.cut0 {w : World} {p : Fp} {S : St} (h : Dk w p S) {w' : World} (hO : Only [p.b] w w') (x : Nat) (hw : (S.cut0 x).Wf) (hxl : x ≤ S.f0.length)
    (hb : Bk 93 w' p.b #[.slice (some ⟨p.g0, 0, none⟩) x p.c0, .int .i64 (x : Int), .slice (some ⟨p.g1, 0, none⟩) S.f1.length p.c1, .int .i64 (S.s1 : Int), p.rv, .bool S.gone, .int .i64 (S.inn : Int), .int .i64 (S.lft : Int)]) : Dk w' p (S.cut0 x) := by
  have hl : (S.f0.take x).length = x := by rw [List.length_take]; omega
  exact ⟨by simp only [St.cut0, hl]; exact hb, (h.r0.only hO h.bg.1).take x, h.r1.only hO h.bg.2, h.rown hO, h.ne, hw⟩
theorem Dk.cut1 {w : World} {p : Fp} {S : St} (h : Dk w p S) {w' : World} (hO : Only [p.b] w w') (x : Nat) (hw : (S.cut1 x).Wf) (hxl : x ≤ S.f1.length)
    (hb : Bk 93 w' p.b #[.slice (some ⟨p.g0, 0, none⟩) S.f0.length p.c0, .int .i64 (S.s0 : Int), .slice (some ⟨p.g1, 0, none⟩) x p.c1, .int .i64 (x : Int), p.rv, .bool S.gone, .int .i64 (S.inn : Int), .int .i64 (S.lft : Int)]) : Dk w' p (S.cut1 x) := by
  have hl : (S.f1.take x).length = x := by rw [List.length_take]; omega
  exact ⟨by simp only [St.cut1, hl]; exact hb, h.r0.only hO h.bg.1, (h.r1.only hO h.bg.2).take x, h.rown hO, h.ne, hw⟩
theorem Dk.drewN {w : World} {p : Fp} {S : St} (h : Dk w p S) (n : Nat) : Dk (w.drewN n) p S := h.below ⟨rfl, rfl, rfl, Nat.le_refl _, fun _ _ => rfl⟩
theorem only_undrawN {L : List Nat} {w w' : World} {n : Nat} (h : Only L (w.drewN n) w') : Only L w w' := ⟨h.os, h.tape, h.output, h.size, h.block⟩
set_option maxHeartbeats 8000000 in
theorem cut_any (p : Fp) (S : St) (f n : Int) (w : World) (h : Dk w p S) :
    Calls Tryd.prog 78 #[p.v, .int .i64 f, .int .i64 n] w fun e w' => e = .returned (.int .i64 ((S.cut f n).1 : Int)) ∧ ∃ p', Mut w p w' p' (S.cut f n).2 := by
  have hW : Below w.heap.size w (((w.alloc (.cells #[.pointer (some ⟨p.b, 0, none⟩)] 27)).alloc (.cells #[.int .i64 f] 3)).alloc (.cells #[.int .i64 n] 3)) := by go_grown
  have D1 := Lib.hid (h.below hW)
  have HW := Lib.hid hW
  have C0 : Hid ((((w.alloc (.cells #[.pointer (some ⟨p.b, 0, none⟩)] 27)).alloc (.cells #[.int .i64 f] 3)).alloc (.cells #[.int .i64 n] 3)).cell? ⟨w.heap.size, 0, none⟩ = some (.pointer (some ⟨p.b, 0, none⟩))) := Lib.hid ((Bk.alloc (Bk.alloc (Bk.new (t := 27) rfl))).cell 0)
  have C1 : Hid ((((w.alloc (.cells #[.pointer (some ⟨p.b, 0, none⟩)] 27)).alloc (.cells #[.int .i64 f] 3)).alloc (.cells #[.int .i64 n] 3)).cell? ⟨w.heap.size + 1, 0, none⟩ = some (.int .i64 f)) := Lib.hid ((Bk.alloc (Bk.new (t := 3) (by simp))).cell 0)
  have C2 : Hid ((((w.alloc (.cells #[.pointer (some ⟨p.b, 0, none⟩)] 27)).alloc (.cells #[.int .i64 f] 3)).alloc (.cells #[.int .i64 n] 3)).cell? ⟨w.heap.size + 1 + 1, 0, none⟩ = some (.int .i64 n)) := Lib.hid ((Bk.new (t := 3) (by simp)).cell 0)
  have hM := hmf
  have HB0 : Hid (p.b < w.heap.size) := Lib.hid h.blk.lt
  clear hW
  rw [cut_eq]
  cases hg : S.gone
  · simp only [Bool.false_eq_true, if_false]
    have KG := Lib.hid (D1.out.gone hg)
    have HR := Lib.hid (clo49 (w.heap.size + 1) (w.heap.size + 1 + 1) w.heap.size f n p S _ C1.out C2.out C0.out D1)
    have HP := Lib.hid (p.count_own S)
    have HPB := Lib.hid (p.count_b S)
    by_cases hc : cutCode S f n = 0
    · rw [hc] at HR
      rw [if_neg (by simp [hc])]
      have HCC := Lib.hid hc
      clear hc hg
      by_cases hq : (S.count).1 = 0
      · rw [if_pos hq]
        have HQ := Lib.hid hq
        have hpc : p.count S = p := by simp [Fp.count, hq]
        have hcode : St.there f = true ∧ 0 ≤ n ∧ n ≤ ((S.file f.toNat).length : Int) ∧ ¬ S.safe f.toNat < (S.file f.toNat).length := by
          have := HCC.out
          unfold cutCode at this
          split at this
          · cases this
          · rename_i ht
            split at this
            · cases this
            · rename_i hx
              exact ⟨by simpa using ht, by omega, by omega, by omega⟩
        obtain ⟨ht, hn0, hn1, hn2⟩ := hcode
        obtain ⟨x, rfl⟩ : ∃ x : Nat, n = (x : Int) := ⟨n.toNat, by omega⟩
        have hcf := St.count_file hq
        have HWF := Lib.hid h.wf.count
        have hfb : f = 0 ∨ f = 1 := by simp [St.there] at ht; omega
        rcases hfb with rfl | rfl
        · have e2 : ((x : Int)).toNat = x := Int.toNat_natCast x
          have e3 : ((0 : Int)).toNat = 0 := rfl
          have e4 : (S.count).2.cutF ((0 : Int)).toNat ((x : Int)).toNat = (S.count).2.cut0 x := by rw [e2]; rfl
          rw [e4]
          have hl : x ≤ S.f0.length := by
            have e0 : S.file ((0 : Int).toNat) = S.f0 := rfl
            rw [e0] at hn1; omega
          have hxc : x ≤ p.c0 := by have := h.r0.cap; omega
          have HX : Hid (x ≤ (S.count).2.f0.length) := Lib.hid (by rw [hcf.1]; exact hl)
          have HWC : Hid (((S.count).2.cut0 x).Wf) := Lib.hid (h.wf.count.cutF 0 x (by have e0 : (S.count).2.file 0 = (S.count).2.f0 := rfl; rw [e0]; exact HX.out) (by
            have e0 : S.file ((0 : Int).toNat) = S.f0 := rfl
            have e1 : S.safe ((0 : Int).toNat) = S.s0 := rfl
            rw [e0, e1] at hn2
            have e5 : (S.count).2.file 0 = (S.count).2.f0 := rfl
            have e6 : (S.count).2.safe 0 = (S.count).2.s0 := rfl
            rw [e5, e6, hcf.1, hcf.2.2.1]
            exact hn2))
          clear e2 e3 e4 hl hn0 hn1 hn2 ht hcf h hq
          rw [hpc] at HP HPB
          have HPC := Lib.hid hpc
          clear hpc
          unfold Fp.v
          go_enter Tryd.func78, Tryd.ntmps78
          go_wp2_with fail
          refine (refused49 p.b _ _ _ _ _ _ _ _ _ _ _ _ _ KG HR).mono ?_
          rintro e w1 ⟨rfl, hb⟩
          have K0 := Lib.hid (hb.cell (p := ⟨w.heap.size, 0, none⟩) (by show w.heap.size < _; simp only [World.size_alloc]; omega) |>.trans C0.out)
          have K1 := Lib.hid (hb.cell (p := ⟨w.heap.size + 1, 0, none⟩) (by show w.heap.size + 1 < _; simp only [World.size_alloc]; omega) |>.trans C1.out)
          have K2 := Lib.hid (hb.cell (p := ⟨w.heap.size + 1 + 1, 0, none⟩) (by show w.heap.size + 1 + 1 < _; simp only [World.size_alloc]; omega) |>.trans C2.out)
          have D2 := Lib.hid (D1.out.below hb)
          have HB := Lib.hid (HW.out.trans (hb.mono HW.out.size))
          have HSZ : Hid (w.heap.size + 1 + 1 < w1.heap.size) := Lib.hid (by have := hb.size; simp at this; omega)
          clear hb
          have c0 := K0.out
          go_wp2_with fail
          refine (count_any p S _ D2.out).mono ?_
          rintro e w2 ⟨rfl, hd, ho⟩
          rw [HQ.out]
          rw [HPC.out] at hd
          have D3 := Lib.hid hd
          have d0 : w2.cell? ⟨w.heap.size, 0, none⟩ = some (.pointer (some ⟨p.b, 0, none⟩)) := (only_cell ho (by have := HSZ.out; show w.heap.size < w1.heap.size; omega) (by have := HB0.out; show w.heap.size ∉ [p.b]; rw [List.mem_singleton]; omega)).trans K0.out
          have d1 : w2.cell? ⟨w.heap.size + 1, 0, none⟩ = some (.int .i64 0) := (only_cell ho (by have := HSZ.out; show w.heap.size + 1 < w1.heap.size; omega) (by have := HB0.out; show w.heap.size + 1 ∉ [p.b]; rw [List.mem_singleton]; omega)).trans K1.out
          have d2 : w2.cell? ⟨w.heap.size + 1 + 1, 0, none⟩ = some (.int .i64 (x : Int)) := (only_cell ho (by have := HSZ.out; show w.heap.size + 1 + 1 < w1.heap.size; omega) (by have := HB0.out; show w.heap.size + 1 + 1 ∉ [p.b]; rw [List.mem_singleton]; omega)).trans K2.out
          have O3 := Lib.hid ((Only.of (L := [p.b]) HB.out).trans ho (by simp))
          clear hd ho c0
          go_wp2_with fail
          go_still_tail 6, (by kernel_rfl)
          go_wp2_with fail
          refine (fkeep0 p.b p.g0 _ p.c0 x _ _ _ _ _ _ _ _ _ rfl hxc (Lib.hid (Dk.drewN D3.out _).blk)).mono ?_
          rintro e w3 ⟨rfl, hk3, ho3⟩
          have O4 := only_undrawN ho3
          have D4 := Lib.hid (D3.out.cut0 O4 x HWC.out HX.out hk3)
          have O5 := Lib.hid (O3.out.trans O4 (by simp))
          clear hk3 ho3 O4
          go_wp2_with fail
          go_ret
          exact ⟨rfl, p, D4.out, rfl, O5.out.mono (by simp [Fp.own]), fun k h => .inl h⟩
        · have e2 : ((x : Int)).toNat = x := Int.toNat_natCast x
          have e3 : ((1 : Int)).toNat = 1 := rfl
          have e4 : (S.count).2.cutF ((1 : Int)).toNat ((x : Int)).toNat = (S.count).2.cut1 x := by rw [e2]; rfl
          rw [e4]
          have hl : x ≤ S.f1.length := by
            have e0 : S.file ((1 : Int).toNat) = S.f1 := rfl
            rw [e0] at hn1; omega
          have hxc : x ≤ p.c1 := by have := h.r1.cap; omega
          have HX : Hid (x ≤ (S.count).2.f1.length) := Lib.hid (by rw [hcf.2.1]; exact hl)
          have HWC : Hid (((S.count).2.cut1 x).Wf) := Lib.hid (h.wf.count.cutF 1 x (by have e0 : (S.count).2.file 1 = (S.count).2.f1 := rfl; rw [e0]; exact HX.out) (by
            have e0 : S.file ((1 : Int).toNat) = S.f1 := rfl
            have e1 : S.safe ((1 : Int).toNat) = S.s1 := rfl
            rw [e0, e1] at hn2
            have e5 : (S.count).2.file 1 = (S.count).2.f1 := rfl
            have e6 : (S.count).2.safe 1 = (S.count).2.s1 := rfl
            rw [e5, e6, hcf.2.1, hcf.2.2.2.1]
            exact hn2))
          clear e2 e3 e4 hl hn0 hn1 hn2 ht hcf h hq
          rw [hpc] at HP HPB
          have HPC := Lib.hid hpc
          clear hpc
          unfold Fp.v
          go_enter Tryd.func78, Tryd.ntmps78
          go_wp2_with fail
          refine (refused49 p.b _ _ _ _ _ _ _ _ _ _ _ _ _ KG HR).mono ?_
          rintro e w1 ⟨rfl, hb⟩
          have K0 := Lib.hid (hb.cell (p := ⟨w.heap.size, 0, none⟩) (by show w.heap.size < _; simp only [World.size_alloc]; omega) |>.trans C0.out)
          have K1 := Lib.hid (hb.cell (p := ⟨w.heap.size + 1, 0, none⟩) (by show w.heap.size + 1 < _; simp only [World.size_alloc]; omega) |>.trans C1.out)
          have K2 := Lib.hid (hb.cell (p := ⟨w.heap.size + 1 + 1, 0, none⟩) (by show w.heap.size + 1 + 1 < _; simp only [World.size_alloc]; omega) |>.trans C2.out)
          have D2 := Lib.hid (D1.out.below hb)
          have HB := Lib.hid (HW.out.trans (hb.mono HW.out.size))
          have HSZ : Hid (w.heap.size + 1 + 1 < w1.heap.size) := Lib.hid (by have := hb.size; simp at this; omega)
          clear hb
          have c0 := K0.out
          go_wp2_with fail
          refine (count_any p S _ D2.out).mono ?_
          rintro e w2 ⟨rfl, hd, ho⟩
          rw [HQ.out]
          rw [HPC.out] at hd
          have D3 := Lib.hid hd
          have d0 : w2.cell? ⟨w.heap.size, 0, none⟩ = some (.pointer (some ⟨p.b, 0, none⟩)) := (only_cell ho (by have := HSZ.out; show w.heap.size < w1.heap.size; omega) (by have := HB0.out; show w.heap.size ∉ [p.b]; rw [List.mem_singleton]; omega)).trans K0.out
          have d1 : w2.cell? ⟨w.heap.size + 1, 0, none⟩ = some (.int .i64 1) := (only_cell ho (by have := HSZ.out; show w.heap.size + 1 < w1.heap.size; omega) (by have := HB0.out; show w.heap.size + 1 ∉ [p.b]; rw [List.mem_singleton]; omega)).trans K1.out
          have d2 : w2.cell? ⟨w.heap.size + 1 + 1, 0, none⟩ = some (.int .i64 (x : Int)) := (only_cell ho (by have := HSZ.out; show w.heap.size + 1 + 1 < w1.heap.size; omega) (by have := HB0.out; show w.heap.size + 1 + 1 ∉ [p.b]; rw [List.mem_singleton]; omega)).trans K2.out
          have O3 := Lib.hid ((Only.of (L := [p.b]) HB.out).trans ho (by simp))
          clear hd ho c0
          go_wp2_with fail
          go_still_tail 6, (by kernel_rfl)
          go_wp2_with fail
          refine (fkeep1 p.b p.g1 _ p.c1 x _ _ _ _ _ _ _ _ _ rfl hxc (Lib.hid (Dk.drewN D3.out _).blk)).mono ?_
          rintro e w3 ⟨rfl, hk3, ho3⟩
          have O4 := only_undrawN ho3
          have D4 := Lib.hid (D3.out.cut1 O4 x HWC.out HX.out hk3)
          have O5 := Lib.hid (O3.out.trans O4 (by simp))
          clear hk3 ho3 O4
          go_wp2_with fail
          go_ret
          exact ⟨rfl, p, D4.out, rfl, O5.out.mono (by simp [Fp.own]), fun k h => .inl h⟩
      · rw [if_neg hq]
        obtain ⟨m, hm⟩ : ∃ m, (S.count).1 = m + 1 := ⟨(S.count).1 - 1, by omega⟩
        have HC := Lib.hid hm
        have ht : (((m + 1 : Nat) : Int) != 0) = true := by simp; omega
        rw [hm]
        clear hm hq h
        unfold Fp.v
        go_enter Tryd.func78, Tryd.ntmps78
        go_wp2_with fail
        refine (refused49 p.b _ _ _ _ _ _ _ _ _ _ _ _ _ KG HR).mono ?_
        rintro e w1 ⟨rfl, hb⟩
        have c0 : w1.cell? ⟨w.heap.size, 0, none⟩ = some (.pointer (some ⟨p.b, 0, none⟩)) := (hb.cell (by show w.heap.size < _; simp only [World.size_alloc]; omega)).trans C0.out
        have D2 := Lib.hid (D1.out.below hb)
        have HB := Lib.hid (HW.out.trans (hb.mono HW.out.size))
        clear hb
        go_wp2_with fail
        refine (count_any p S _ D2.out).mono ?_
        rintro e w2 ⟨rfl, hd, ho⟩
        rw [HC.out]
        have D3 := Lib.hid hd
        have O3 := Lib.hid ((Only.of (L := [p.b]) HB.out).trans ho (by simp))
        clear hd ho c0
        go_wp2_with fail
        go_ret
        exact ⟨rfl, p.count S, D3.out, HPB.out, O3.out.mono (by simp [Fp.own]), fun k h => .inl (HP.out k h)⟩
    · rw [if_pos hc]
      obtain ⟨m, hm⟩ : ∃ m, cutCode S f n = m + 1 := ⟨cutCode S f n - 1, by omega⟩
      rw [hm] at HR ⊢
      have ht : (((m + 1 : Nat) : Int) != 0) = true := by simp; omega
      clear hc hm hg h
      unfold Fp.v
      go_enter Tryd.func78, Tryd.ntmps78
      go_wp2_with fail
      refine (refused49 p.b _ _ _ _ _ _ _ _ _ _ _ _ _ KG HR).mono ?_
      rintro e w1 ⟨rfl, hb⟩
      have D2 := Lib.hid (D1.out.below hb)
      have HB := Lib.hid (HW.out.trans (hb.mono HW.out.size))
      clear hb
      go_wp2_with fail
      go_ret
      exact ⟨rfl, p, D2.out, rfl, .of HB.out, fun k h => .inl h⟩
  · simp only [if_true]
    have KG := Lib.hid (D1.out.gone hg)
    clear hg h
    unfold Fp.v
    go_enter Tryd.func78, Tryd.ntmps78
    go_wp2_with fail
    refine (refused_gone p.b _ _ _ _ _ _ _ _ _ KG).mono ?_
    rintro e w' ⟨rfl, rfl⟩
    go_wp2_with fail
    go_ret
    exact ⟨rfl, p, D1.out, rfl, .of HW.out, fun k h => .inl h⟩
end Go.Proofs.YtmoihgniglomiaaDoor
