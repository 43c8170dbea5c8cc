/- Cut of a disk, whole. No condition but the disk's own. A row of pieces with one more, or a longer last one (longer). No condition but the row's length. A row of pieces with one more, or a longer last one: longer's walk. No condition but the row's length. Append to a disk's file. No condition but the disk's own. Drawn regions of Append: the text is laid behind the file, and the row gets a piece. No -/
import Derived.StillTailTactics
import Derived.Test.YtmoihgniglomiaaDoorZd01
import Derived.Lib.AppendZeros
import Derived.StillTail
set_option linter.unusedVariables false
set_option linter.unusedSimpArgs false
set_option maxRecDepth 100000
namespace Go.Proofs.YtmoihgniglomiaaDoor
open Go.RowKit Go.Sort
def cutCode (S : St) (f n : Int) : Nat := if ¬ St.there f then 90 else if n < 0 ∨ n > ((S.file f.toNat).length : Int) ∨ S.safe f.toNat < (S.file f.toNat).length then 92 else 0
theorem clo49 (a c d : Nat) (f n : Int) (p : Fp) (S : St) (w : World) (h : w.cell? ⟨a, 0, none⟩ = some (.int .i64 f)) (h' : w.cell? ⟨c, 0, none⟩ = some (.int .i64 n)) (h'' : w.cell? ⟨d, 0, none⟩ = some p.v) (D : Hid (Dk w p S)) :
    Calls Tryd.prog 100 #[.pointer (some ⟨a, 0, none⟩), .pointer (some ⟨c, 0, none⟩), .pointer (some ⟨d, 0, none⟩)] w fun e w' => e = .returned (.int .i64 (cutCode S f n : Int)) ∧ Below w.heap.size w w' := by
  rcases (by omega : f = 0 ∨ f = 1 ∨ ¬ (0 ≤ f ∧ f < 2)) with rfl | rfl | hf
  · have e0 : S.file ((0 : Int).toNat) = S.f0 := rfl
    have e1 : S.safe ((0 : Int).toNat) = S.s0 := rfl
    have e2 : St.there 0 = true := rfl
    unfold cutCode
    rw [e0, e1, e2]
    by_cases hn : n < 0
    · rw [if_neg (by simp), if_pos (.inl hn)]
      exact clo49_0neg a c d n p S w h h' h'' D hn
    · by_cases hb : n > (S.f0.length : Int)
      · rw [if_neg (by simp), if_pos (.inr (.inl hb))]
        exact clo49_0big a c d n p S w h h' h'' D hn hb
      · by_cases hs : S.s0 < S.f0.length
        · rw [if_neg (by simp), if_pos (.inr (.inr hs))]
          exact clo49_0wait a c d n p S w h h' h'' D hn hb hs
        · rw [if_neg (by simp), if_neg (by omega)]
          exact clo49_0ok a c d n p S w h h' h'' D hn hb hs
  · have e0 : S.file ((1 : Int).toNat) = S.f1 := rfl
    have e1 : S.safe ((1 : Int).toNat) = S.s1 := rfl
    have e2 : St.there 1 = true := rfl
    unfold cutCode
    rw [e0, e1, e2]
    by_cases hn : n < 0
    · rw [if_neg (by simp), if_pos (.inl hn)]
      exact clo49_1neg a c d n p S w h h' h'' D hn
    · by_cases hb : n > (S.f1.length : Int)
      · rw [if_neg (by simp), if_pos (.inr (.inl hb))]
        exact clo49_1big a c d n p S w h h' h'' D hn hb
      · by_cases hs : S.s1 < S.f1.length
        · rw [if_neg (by simp), if_pos (.inr (.inr hs))]
          exact clo49_1wait a c d n p S w h h' h'' D hn hb hs
        · rw [if_neg (by simp), if_neg (by omega)]
          exact clo49_1ok a c d n p S w h h' h'' D hn hb hs
  · have hth : St.there f = false := by simpa [St.there] using hf
    have e : cutCode S f n = 90 := by simp [cutCode, hth]
    rw [e]
    exact clo49_not a c d f w hth h
theorem cut_eq (S : St) (f n : Int) : S.cut f n = if S.gone then (2, S) else if cutCode S f n ≠ 0 then (cutCode S f n, S) else if (S.count).1 = 0 then (0, (S.count).2.cutF f.toNat n.toNat) else S.count := by
  unfold St.cut cutCode
  cases S.gone
  · simp only [Bool.false_eq_true, if_false]
    by_cases h : St.there f = true
    · simp only [h, not_true_eq_false, if_false]
      split <;> simp
    · simp [h]
  · simp
theorem only_cell {L : List Nat} {w w' : World} (h : Only L w w') {a : Addr} (ha : a.block < w.heap.size) (hL : a.block ∉ L) : w'.cell? a = w.cell? a := World.cell?_of_block (w := w) (h.block a.block ha hL)
theorem Dk.rown {w w' : World} {p : Fp} {S : St} (h : Dk w p S) (hO : Only [p.b] w w') : w'.ownsRow 0 105 2 p.rv S.row.length (pcells S.row) := by
  refine owns_of h.rr (fun r hr hlt => hO.block r hlt ?_)
  intro hm
  have hrb : r = p.b := by simpa using hm
  obtain ⟨_, ⟨hv, _⟩ | ⟨r', cap, cur, hv, _, hg, _⟩⟩ := h.rr
  · rw [hv] at hr; cases hr
  · rw [hv] at hr
    cases hr
    have hbk := h.blk
    unfold Bk at hbk
    simp only at hrb
    rw [hrb, hbk] at hg
    cases hg
theorem Dk.bg {w : World} {p : Fp} {S : St} (h : Dk w p S) : p.g0 ∉ [p.b] ∧ p.g1 ∉ [p.b] := by
  have h0 := h.r0.ne h.blk (by decide)
  have h1 := h.r1.ne h.blk (by decide)
  simp only [List.mem_singleton]
  exact ⟨fun e => h0 e.symm, fun e => h1 e.symm⟩
theorem Dk.cut0 {w : World} {p : Fp} {S : St} (h : Dk w p S) {w' : World} (hO : Only [p.b] w w') (x : Nat) (hw : (S.cut0 x).Wf) (hxl : x ≤ S.f0.length)
    (hb : Bk 93 w' p.b #[.slice (some ⟨p.g0, 0, none⟩) x p.c0, .int .i64 (x : Int), .slice (some ⟨p.g1, 0, none⟩) S.f1.length p.c1, .int .i64 (S.s1 : Int), p.rv, .bool S.gone, .int .i64 (S.inn : Int), .int .i64 (S.lft : Int)]) : Dk w' p (S.cut0 x) := by
  have hl : (S.f0.take x).length = x := by rw [List.length_take]; omega
  exact ⟨by simp only [St.cut0, hl]; exact hb, (h.r0.only hO h.bg.1).take x, h.r1.only hO h.bg.2, h.rown hO, h.ne, hw⟩
theorem Dk.cut1 {w : World} {p : Fp} {S : St} (h : Dk w p S) {w' : World} (hO : Only [p.b] w w') (x : Nat) (hw : (S.cut1 x).Wf) (hxl : x ≤ S.f1.length)
    (hb : Bk 93 w' p.b #[.slice (some ⟨p.g0, 0, none⟩) S.f0.length p.c0, .int .i64 (S.s0 : Int), .slice (some ⟨p.g1, 0, none⟩) x p.c1, .int .i64 (x : Int), p.rv, .bool S.gone, .int .i64 (S.inn : Int), .int .i64 (S.lft : Int)]) : Dk w' p (S.cut1 x) := by
  have hl : (S.f1.take x).length = x := by rw [List.length_take]; omega
  exact ⟨by simp only [St.cut1, hl]; exact hb, h.r0.only hO h.bg.1, (h.r1.only hO h.bg.2).take x, h.rown hO, h.ne, hw⟩
theorem Dk.drewN {w : World} {p : Fp} {S : St} (h : Dk w p S) (n : Nat) : Dk (w.drewN n) p S := h.below ⟨rfl, rfl, rfl, Nat.le_refl _, fun _ _ => rfl⟩
theorem only_undrawN {L : List Nat} {w w' : World} {n : Nat} (h : Only L (w.drewN n) w') : Only L w w' := ⟨h.os, h.tape, h.output, h.size, h.block⟩
set_option maxHeartbeats 8000000 in
theorem cut_any (p : Fp) (S : St) (f n : Int) (w : World) (h : Dk w p S) :
    Calls Tryd.prog 78 #[p.v, .int .i64 f, .int .i64 n] w fun e w' => e = .returned (.int .i64 ((S.cut f n).1 : Int)) ∧ ∃ p', Mut w p w' p' (S.cut f n).2 := by
  have hW : Below w.heap.size w (((w.alloc (.cells #[.pointer (some ⟨p.b, 0, none⟩)] 27)).alloc (.cells #[.int .i64 f] 3)).alloc (.cells #[.int .i64 n] 3)) := by go_grown
  have D1 := Lib.hid (h.below hW)
  have HW := Lib.hid hW
  have C0 : Hid ((((w.alloc (.cells #[.pointer (some ⟨p.b, 0, none⟩)] 27)).alloc (.cells #[.int .i64 f] 3)).alloc (.cells #[.int .i64 n] 3)).cell? ⟨w.heap.size, 0, none⟩ = some (.pointer (some ⟨p.b, 0, none⟩))) := Lib.hid ((Bk.alloc (Bk.alloc (Bk.new (t := 27) rfl))).cell 0)
  have C1 : Hid ((((w.alloc (.cells #[.pointer (some ⟨p.b, 0, none⟩)] 27)).alloc (.cells #[.int .i64 f] 3)).alloc (.cells #[.int .i64 n] 3)).cell? ⟨w.heap.size + 1, 0, none⟩ = some (.int .i64 f)) := Lib.hid ((Bk.alloc (Bk.new (t := 3) (by simp))).cell 0)
  have C2 : Hid ((((w.alloc (.cells #[.pointer (some ⟨p.b, 0, none⟩)] 27)).alloc (.cells #[.int .i64 f] 3)).alloc (.cells #[.int .i64 n] 3)).cell? ⟨w.heap.size + 1 + 1, 0, none⟩ = some (.int .i64 n)) := Lib.hid ((Bk.new (t := 3) (by simp)).cell 0)
  have hM := hmf
  have HB0 : Hid (p.b < w.heap.size) := Lib.hid h.blk.lt
  clear hW
  rw [cut_eq]
  cases hg : S.gone
  · simp only [Bool.false_eq_true, if_false]
    have KG := Lib.hid (D1.out.gone hg)
    have HR := Lib.hid (clo49 (w.heap.size + 1) (w.heap.size + 1 + 1) w.heap.size f n p S _ C1.out C2.out C0.out D1)
    have HP := Lib.hid (p.count_own S)
    have HPB := Lib.hid (p.count_b S)
    by_cases hc : cutCode S f n = 0
    · rw [hc] at HR
      rw [if_neg (by simp [hc])]
      have HCC := Lib.hid hc
      clear hc hg
      by_cases hq : (S.count).1 = 0
      · rw [if_pos hq]
        have HQ := Lib.hid hq
        have hpc : p.count S = p := by simp [Fp.count, hq]
        have hcode : St.there f = true ∧ 0 ≤ n ∧ n ≤ ((S.file f.toNat).length : Int) ∧ ¬ S.safe f.toNat < (S.file f.toNat).length := by
          have := HCC.out
          unfold cutCode at this
          split at this
          · cases this
          · rename_i ht
            split at this
            · cases this
            · rename_i hx
              exact ⟨by simpa using ht, by omega, by omega, by omega⟩
        obtain ⟨ht, hn0, hn1, hn2⟩ := hcode
        obtain ⟨x, rfl⟩ : ∃ x : Nat, n = (x : Int) := ⟨n.toNat, by omega⟩
        have hcf := St.count_file hq
        have HWF := Lib.hid h.wf.count
        have hfb : f = 0 ∨ f = 1 := by simp [St.there] at ht; omega
        rcases hfb with rfl | rfl
        · have e2 : ((x : Int)).toNat = x := Int.toNat_natCast x
          have e3 : ((0 : Int)).toNat = 0 := rfl
          have e4 : (S.count).2.cutF ((0 : Int)).toNat ((x : Int)).toNat = (S.count).2.cut0 x := by rw [e2]; rfl
          rw [e4]
          have hl : x ≤ S.f0.length := by
            have e0 : S.file ((0 : Int).toNat) = S.f0 := rfl
            rw [e0] at hn1; omega
          have hxc : x ≤ p.c0 := by have := h.r0.cap; omega
          have HX : Hid (x ≤ (S.count).2.f0.length) := Lib.hid (by rw [hcf.1]; exact hl)
          have HWC : Hid (((S.count).2.cut0 x).Wf) := Lib.hid (h.wf.count.cutF 0 x (by have e0 : (S.count).2.file 0 = (S.count).2.f0 := rfl; rw [e0]; exact HX.out) (by
            have e0 : S.file ((0 : Int).toNat) = S.f0 := rfl
            have e1 : S.safe ((0 : Int).toNat) = S.s0 := rfl
            rw [e0, e1] at hn2
            have e5 : (S.count).2.file 0 = (S.count).2.f0 := rfl
            have e6 : (S.count).2.safe 0 = (S.count).2.s0 := rfl
            rw [e5, e6, hcf.1, hcf.2.2.1]
            exact hn2))
          clear e2 e3 e4 hl hn0 hn1 hn2 ht hcf h hq
          rw [hpc] at HP HPB
          have HPC := Lib.hid hpc
          clear hpc
          unfold Fp.v
          go_enter Tryd.func78, Tryd.ntmps78
          go_wp2_with fail
          refine (refused49 p.b _ _ _ _ _ _ _ _ _ _ _ _ _ KG HR).mono ?_
          rintro e w1 ⟨rfl, hb⟩
          have K0 := Lib.hid (hb.cell (p := ⟨w.heap.size, 0, none⟩) (by show w.heap.size < _; simp only [World.size_alloc]; omega) |>.trans C0.out)
          have K1 := Lib.hid (hb.cell (p := ⟨w.heap.size + 1, 0, none⟩) (by show w.heap.size + 1 < _; simp only [World.size_alloc]; omega) |>.trans C1.out)
          have K2 := Lib.hid (hb.cell (p := ⟨w.heap.size + 1 + 1, 0, none⟩) (by show w.heap.size + 1 + 1 < _; simp only [World.size_alloc]; omega) |>.trans C2.out)
          have D2 := Lib.hid (D1.out.below hb)
          have HB := Lib.hid (HW.out.trans (hb.mono HW.out.size))
          have HSZ : Hid (w.heap.size + 1 + 1 < w1.heap.size) := Lib.hid (by have := hb.size; simp at this; omega)
          clear hb
          have c0 := K0.out
          go_wp2_with fail
          refine (count_any p S _ D2.out).mono ?_
          rintro e w2 ⟨rfl, hd, ho⟩
          rw [HQ.out]
          rw [HPC.out] at hd
          have D3 := Lib.hid hd
          have d0 : w2.cell? ⟨w.heap.size, 0, none⟩ = some (.pointer (some ⟨p.b, 0, none⟩)) := (only_cell ho (by have := HSZ.out; show w.heap.size < w1.heap.size; omega) (by have := HB0.out; show w.heap.size ∉ [p.b]; rw [List.mem_singleton]; omega)).trans K0.out
          have d1 : w2.cell? ⟨w.heap.size + 1, 0, none⟩ = some (.int .i64 0) := (only_cell ho (by have := HSZ.out; show w.heap.size + 1 < w1.heap.size; omega) (by have := HB0.out; show w.heap.size + 1 ∉ [p.b]; rw [List.mem_singleton]; omega)).trans K1.out
          have d2 : w2.cell? ⟨w.heap.size + 1 + 1, 0, none⟩ = some (.int .i64 (x : Int)) := (only_cell ho (by have := HSZ.out; show w.heap.size + 1 + 1 < w1.heap.size; omega) (by have := HB0.out; show w.heap.size + 1 + 1 ∉ [p.b]; rw [List.mem_singleton]; omega)).trans K2.out
          have O3 := Lib.hid ((Only.of (L := [p.b]) HB.out).trans ho (by simp))
          clear hd ho c0
          go_wp2_with fail
          go_still_tail 6, (by kernel_rfl)
          go_wp2_with fail
          refine (fkeep0 p.b p.g0 _ p.c0 x _ _ _ _ _ _ _ _ _ rfl hxc (Lib.hid (Dk.drewN D3.out _).blk)).mono ?_
          rintro e w3 ⟨rfl, hk3, ho3⟩
          have O4 := only_undrawN ho3
          have D4 := Lib.hid (D3.out.cut0 O4 x HWC.out HX.out hk3)
          have O5 := Lib.hid (O3.out.trans O4 (by simp))
          clear hk3 ho3 O4
          go_wp2_with fail
          go_ret
          exact ⟨rfl, p, D4.out, rfl, O5.out.mono (by simp [Fp.own]), fun k h => .inl h⟩
        · have e2 : ((x : Int)).toNat = x := Int.toNat_natCast x
          have e3 : ((1 : Int)).toNat = 1 := rfl
          have e4 : (S.count).2.cutF ((1 : Int)).toNat ((x : Int)).toNat = (S.count).2.cut1 x := by rw [e2]; rfl
          rw [e4]
          have hl : x ≤ S.f1.length := by
            have e0 : S.file ((1 : Int).toNat) = S.f1 := rfl
            rw [e0] at hn1; omega
          have hxc : x ≤ p.c1 := by have := h.r1.cap; omega
          have HX : Hid (x ≤ (S.count).2.f1.length) := Lib.hid (by rw [hcf.2.1]; exact hl)
          have HWC : Hid (((S.count).2.cut1 x).Wf) := Lib.hid (h.wf.count.cutF 1 x (by have e0 : (S.count).2.file 1 = (S.count).2.f1 := rfl; rw [e0]; exact HX.out) (by
            have e0 : S.file ((1 : Int).toNat) = S.f1 := rfl
            have e1 : S.safe ((1 : Int).toNat) = S.s1 := rfl
            rw [e0, e1] at hn2
            have e5 : (S.count).2.file 1 = (S.count).2.f1 := rfl
            have e6 : (S.count).2.safe 1 = (S.count).2.s1 := rfl
            rw [e5, e6, hcf.2.1, hcf.2.2.2.1]
            exact hn2))
          clear e2 e3 e4 hl hn0 hn1 hn2 ht hcf h hq
          rw [hpc] at HP HPB
          have HPC := Lib.hid hpc
          clear hpc
          unfold Fp.v
          go_enter Tryd.func78, Tryd.ntmps78
          go_wp2_with fail
          refine (refused49 p.b _ _ _ _ _ _ _ _ _ _ _ _ _ KG HR).mono ?_
          rintro e w1 ⟨rfl, hb⟩
          have K0 := Lib.hid (hb.cell (p := ⟨w.heap.size, 0, none⟩) (by show w.heap.size < _; simp only [World.size_alloc]; omega) |>.trans C0.out)
          have K1 := Lib.hid (hb.cell (p := ⟨w.heap.size + 1, 0, none⟩) (by show w.heap.size + 1 < _; simp only [World.size_alloc]; omega) |>.trans C1.out)
          have K2 := Lib.hid (hb.cell (p := ⟨w.heap.size + 1 + 1, 0, none⟩) (by show w.heap.size + 1 + 1 < _; simp only [World.size_alloc]; omega) |>.trans C2.out)
          have D2 := Lib.hid (D1.out.below hb)
          have HB := Lib.hid (HW.out.trans (hb.mono HW.out.size))
          have HSZ : Hid (w.heap.size + 1 + 1 < w1.heap.size) := Lib.hid (by have := hb.size; simp at this; omega)
          clear hb
          have c0 := K0.out
          go_wp2_with fail
          refine (count_any p S _ D2.out).mono ?_
          rintro e w2 ⟨rfl, hd, ho⟩
          rw [HQ.out]
          rw [HPC.out] at hd
          have D3 := Lib.hid hd
          have d0 : w2.cell? ⟨w.heap.size, 0, none⟩ = some (.pointer (some ⟨p.b, 0, none⟩)) := (only_cell ho (by have := HSZ.out; show w.heap.size < w1.heap.size; omega) (by have := HB0.out; show w.heap.size ∉ [p.b]; rw [List.mem_singleton]; omega)).trans K0.out
          have d1 : w2.cell? ⟨w.heap.size + 1, 0, none⟩ = some (.int .i64 1) := (only_cell ho (by have := HSZ.out; show w.heap.size + 1 < w1.heap.size; omega) (by have := HB0.out; show w.heap.size + 1 ∉ [p.b]; rw [List.mem_singleton]; omega)).trans K1.out
          have d2 : w2.cell? ⟨w.heap.size + 1 + 1, 0, none⟩ = some (.int .i64 (x : Int)) := (only_cell ho (by have := HSZ.out; show w.heap.size + 1 + 1 < w1.heap.size; omega) (by have := HB0.out; show w.heap.size + 1 + 1 ∉ [p.b]; rw [List.mem_singleton]; omega)).trans K2.out
          have O3 := Lib.hid ((Only.of (L := [p.b]) HB.out).trans ho (by simp))
          clear hd ho c0
          go_wp2_with fail
          go_still_tail 6, (by kernel_rfl)
          go_wp2_with fail
          refine (fkeep1 p.b p.g1 _ p.c1 x _ _ _ _ _ _ _ _ _ rfl hxc (Lib.hid (Dk.drewN D3.out _).blk)).mono ?_
          rintro e w3 ⟨rfl, hk3, ho3⟩
          have O4 := only_undrawN ho3
          have D4 := Lib.hid (D3.out.cut1 O4 x HWC.out HX.out hk3)
          have O5 := Lib.hid (O3.out.trans O4 (by simp))
          clear hk3 ho3 O4
          go_wp2_with fail
          go_ret
          exact ⟨rfl, p, D4.out, rfl, O5.out.mono (by simp [Fp.own]), fun k h => .inl h⟩
      · rw [if_neg hq]
        obtain ⟨m, hm⟩ : ∃ m, (S.count).1 = m + 1 := ⟨(S.count).1 - 1, by omega⟩
        have HC := Lib.hid hm
        have ht : (((m + 1 : Nat) : Int) != 0) = true := by simp; omega
        rw [hm]
        clear hm hq h
        unfold Fp.v
        go_enter Tryd.func78, Tryd.ntmps78
        go_wp2_with fail
        refine (refused49 p.b _ _ _ _ _ _ _ _ _ _ _ _ _ KG HR).mono ?_
        rintro e w1 ⟨rfl, hb⟩
        have c0 : w1.cell? ⟨w.heap.size, 0, none⟩ = some (.pointer (some ⟨p.b, 0, none⟩)) := (hb.cell (by show w.heap.size < _; simp only [World.size_alloc]; omega)).trans C0.out
        have D2 := Lib.hid (D1.out.below hb)
        have HB := Lib.hid (HW.out.trans (hb.mono HW.out.size))
        clear hb
        go_wp2_with fail
        refine (count_any p S _ D2.out).mono ?_
        rintro e w2 ⟨rfl, hd, ho⟩
        rw [HC.out]
        have D3 := Lib.hid hd
        have O3 := Lib.hid ((Only.of (L := [p.b]) HB.out).trans ho (by simp))
        clear hd ho c0
        go_wp2_with fail
        go_ret
        exact ⟨rfl, p.count S, D3.out, HPB.out, O3.out.mono (by simp [Fp.own]), fun k h => .inl (HP.out k h)⟩
    · rw [if_pos hc]
      obtain ⟨m, hm⟩ : ∃ m, cutCode S f n = m + 1 := ⟨cutCode S f n - 1, by omega⟩
      rw [hm] at HR ⊢
      have ht : (((m + 1 : Nat) : Int) != 0) = true := by simp; omega
      clear hc hm hg h
      unfold Fp.v
      go_enter Tryd.func78, Tryd.ntmps78
      go_wp2_with fail
      refine (refused49 p.b _ _ _ _ _ _ _ _ _ _ _ _ _ KG HR).mono ?_
      rintro e w1 ⟨rfl, hb⟩
      have D2 := Lib.hid (D1.out.below hb)
      have HB := Lib.hid (HW.out.trans (hb.mono HW.out.size))
      clear hb
      go_wp2_with fail
      go_ret
      exact ⟨rfl, p, D2.out, rfl, .of HB.out, fun k h => .inl h⟩
  · simp only [if_true]
    have KG := Lib.hid (D1.out.gone hg)
    clear hg h
    unfold Fp.v
    go_enter Tryd.func78, Tryd.ntmps78
    go_wp2_with fail
    refine (refused_gone p.b _ _ _ _ _ _ _ _ _ KG).mono ?_
    rintro e w' ⟨rfl, rfl⟩
    go_wp2_with fail
    go_ret
    exact ⟨rfl, p, D1.out, rfl, .of HW.out, fun k h => .inl h⟩
theorem u60 : Tryd.prog.underlying 89 = some (.slice 105) := by kernel_rfl
theorem infoPiece : (Tryd.prog.info? 105).map (fun i => (i.zero, i.size, i.bytes)) = some (some (.agg #[.int .i64 0, .int .i64 0]), 2, 16) := by kernel_rfl
theorem owns_mono {w : World} {B C : Nat} {e : TypeId} {z : Nat} {v : Value} {n : Nat} {xs : List Value} (h : w.ownsRow B e z v n xs) (hC : C ≤ B) : w.ownsRow C e z v n xs := by
  obtain ⟨hl, h | ⟨g, cap, cur, hv, hb, rest⟩⟩ := h
  · exact ⟨hl, .inl h⟩
  · exact ⟨hl, .inr ⟨g, cap, cur, hv, by omega, rest⟩⟩
theorem app_own (w : World) (t ty e : TypeId) (i : TypeInfo) (z : Value) (size bytes : Nat) (ht : Tryd.prog.underlying t = some (.slice e)) (hi : Tryd.prog.info? e = some i) (hz : i.zero = some z)
    (hsize : i.size = size) (hby : i.bytes = bytes) (hzs : z.cells.size = size) (hsz : 0 < size)
    (v : Value) (n : Nat) (xs : List Value) (hown : w.ownsRow 0 e size v n xs)
    (a : Addr) (m c : Nat) (news : List Value) (hl : news.length = m * size) (hnews : ∀ j u, news[j]? = some u → w.cell? (a.add j) = some u) (h1 : ∀ u ∈ news, u.oneCell' = true)
    (h63 : n + m ≤ maxLen) (hbytes : (n + m) * bytes ≤ 140737488355328) :
    ∃ v' w', (Builtin.append_ #[t, t] ty #[v, .slice (some a) m c]).run Tryd.prog w = .ok v' w' ∧ w'.ownsRow 0 e size v' (n + m) (xs ++ news) ∧ w.grownBy w' v.ownBlock ∧ (v'.ownBlock = v.ownBlock ∨ ∀ k, v'.ownBlock = some k → w.heap.size ≤ k) ∧ (v' = .slice none 0 0 → v = .slice none 0 0) := by
  rcases hown.2 with ⟨rfl, hn0⟩ | ⟨g, cap, cur, rfl, hbg, hg, hnc, hcm, hcs, htake⟩
  · subst hn0
    obtain ⟨v', w', hr, ho, hgr, hnil⟩ := run_append_own (P := Tryd.prog) w w.heap.size t ty e i z size bytes ht hi hz hsize hby hzs hsz (.slice none 0 0) 0 xs ⟨hown.1, .inl ⟨rfl, rfl⟩⟩ a m c news hl hnews h1 h63 hbytes (Nat.le_refl _)
    exact ⟨v', w', hr, owns_mono ho (Nat.zero_le _), hgr, .inr fun k hk => (ho.lt k hk).1, fun e => (hnil.1 e).1⟩
  · obtain ⟨v', w', hr, ho, hgr, hnil⟩ := run_append_own (P := Tryd.prog) w 0 t ty e i z size bytes ht hi hz hsize hby hzs hsz _ n xs hown a m c news hl hnews h1 h63 hbytes (Nat.zero_le _)
    refine ⟨v', w', hr, ho, hgr, ?_, fun e => (hnil.1 e).1⟩
    subst hsize
    subst hby
    by_cases hroom : n + m ≤ cap
    · have hr2 := run_append_room (P := Tryd.prog) w t ty e i ht hi g n cap cur hg a m c news hl hnews h1 hroom (by rw [hl, hcs, ← Nat.add_mul]; exact Nat.mul_le_mul_right _ hroom)
      rw [hr] at hr2
      cases hr2
      exact .inl rfl
    · have hr2 := run_append_grow (P := Tryd.prog) w t ty e i z ht hi hz ⟨g, 0, none⟩ n cap xs hown.1 (hown.cells (g := g) rfl) a m c news hl hnews (by omega) (by unfold maxLen at h63; omega) (growslice_fits (by omega) hbytes)
      rw [hr] at hr2
      cases hr2
      exact .inr fun k hk => by cases hk; exact Nat.le_refl _
def Lg (w : World) (rv : Value) (w' : World) (v' : Value) (l : List (Nat × Nat)) : Prop :=
  w'.ownsRow 0 105 2 v' l.length (pcells l) ∧ Only rv.ownBlock.toList w w' ∧ ∀ k, v'.ownBlock = some k → rv.ownBlock = some k ∨ w.heap.size ≤ k
theorem owns_below {w w' : World} {v : Value} {n : Nat} {xs : List Value} (h : w.ownsRow 0 105 2 v n xs) (hb : Below w.heap.size w w') : w'.ownsRow 0 105 2 v n xs := owns_of h fun g _ hg => hb.block g hg
set_option maxHeartbeats 8000000 in
theorem longer_zero55 (rv : Value) (f : Int) (row : List (Nat × Nat)) (w : World) (hr : w.ownsRow 0 105 2 rv row.length (pcells row)) :
    Calls Tryd.prog 97 #[rv, .agg #[.int .i64 f, .int .i64 0]] w fun e w' => ∃ v', e = .returned v' ∧ Lg w rv w' v' row := by
  have HR := Lib.hid hr
  clear hr
  go_enter Tryd.func97, Tryd.ntmps97
  go_wp2_with fail
  go_ret
  exact ⟨rv, rfl, owns_below HR.out (by go_grown), .of (by go_grown), fun k h => .inl h⟩
theorem lg_grown {w w1 w2 : World} {rv v' : Value} {n : Nat} {row : List (Nat × Nat)} {f m : Nat} (hn : n = row.length) (hb : Below w.heap.size w w1) (hrl : ∀ g, rv.ownBlock = some g → g < w.heap.size) (ho : w2.ownsRow 0 105 2 v' (n + 1) (pcells row ++ [.int .i64 (f : Int), .int .i64 (m : Int)])) (hg : w1.grownBy w2 rv.ownBlock) (hv : ∀ k, v'.ownBlock = some k → rv.ownBlock = some k ∨ w.heap.size ≤ k) : Lg w rv w2 v' (row ++ [(f, m)]) := by
  refine ⟨?_, ?_, hv⟩
  · rw [List.length_append, pcells_app]
    subst hn
    exact ho
  · refine ⟨hg.os.trans hb.os, hg.tape.trans hb.tape, hg.output.trans hb.output, Nat.le_trans hb.size hg.size, fun k hk hL => ?_⟩
    refine (hg.block k (Nat.lt_of_lt_of_le hk hb.size) ?_).trans (hb.block k hk)
    intro e
    exact hL (by simp [← e])
theorem app_piece {w W : World} {rv : Value} {row : List (Nat × Nat)} {f m : Nat} (ty : TypeId) (hb : Below w.heap.size w W) (hr : w.ownsRow 0 105 2 rv row.length (pcells row)) (hl : row.length ≤ 4194304) {q : Nat} (hq : Bk 105 W q #[.int .i64 (f : Int), .int .i64 (m : Int)]) (c : Nat) :
    ∃ v' w', (Builtin.append_ #[89, 89] ty #[rv, .slice (some ⟨q, 0, none⟩) 1 c]).run Tryd.prog W = .ok v' w' ∧ Lg w rv w' v' (row ++ [(f, m)]) := by
  obtain ⟨i0, hi, hz0, hz1, hz2⟩ := info_parts infoPiece
  have hrW : W.ownsRow 0 105 2 rv row.length (pcells row) := owns_of hr fun g _ hg => hb.block g hg
  obtain ⟨v', w', hrun, ho, hgr, hv, _⟩ := app_own W 89 ty 105 i0 (.agg #[.int .i64 0, .int .i64 0]) 2 16 u60 hi hz0 hz1 hz2 rfl (by decide) rv row.length (pcells row) hrW ⟨q, 0, none⟩ 1 c [.int .i64 (f : Int), .int .i64 (m : Int)] rfl (by
    intro j u hu
    rw [at0, hq.cell]
    match j with
    | 0 => simpa using hu
    | 1 => simpa using hu
    | j + 2 => simp at hu) (by
    intro u hu
    simp only [List.mem_cons, List.not_mem_nil, or_false] at hu
    rcases hu with rfl | rfl <;> rfl) (by unfold maxLen; omega) (by omega)
  refine ⟨v', w', hrun, lg_grown rfl hb (fun g hg => owns_lt hr hg) ho hgr ?_⟩
  intro k hk
  rcases hv with h | h
  · exact .inl (h ▸ hk)
  · exact .inr (Nat.le_trans hb.size (h k hk))
theorem wp_piece {ops : Array Oper} {rest : List Oper} {o : Oper} {a : Act} {Q : Exit → Act → World → Prop} {W : World} (hgd : o.guard = none) (s x : Operand) (ho : o.op = .call { callee := .builtin .append, args := #[s, x], argTypes := #[89, 89] })
    (w : World) (rv : Value) (row : List (Nat × Nat)) (f m q c : Nat) (hs : a.eval s = rv) (hx : a.eval x = .slice (some ⟨q, 0, none⟩) 1 c) (hb : Below w.heap.size w W) (hr : w.ownsRow 0 105 2 rv row.length (pcells row)) (hl : row.length ≤ 4194304) (hq : Bk 105 W q #[.int .i64 (f : Int), .int .i64 (m : Int)])
    (h : ∀ v' w', Lg w rv w' v' (row ++ [(f, m)]) → wpList Tryd.prog ops Q rest (a.put o.dst v') w') : wpList Tryd.prog ops Q (o :: rest) a W := by
  obtain ⟨v', w', hrun, hlg⟩ := app_piece (W := W) o.type hb hr hl hq c
  exact Lib.wpList_append_run W hgd s x 89 89 ho _ _ hs hx v' w' hrun (h v' w' hlg)
set_option maxHeartbeats 8000000 in
theorem longer_first55 (a : Option Addr) (c : Nat) (f n : Nat) (hn : n ≠ 0) (w : World) (hr : w.ownsRow 0 105 2 (.slice a 0 c) ([] : List (Nat × Nat)).length (pcells [])) :
    Calls Tryd.prog 97 #[.slice a 0 c, .agg #[.int .i64 (f : Int), .int .i64 (n : Int)]] w fun e w' => ∃ v', e = .returned v' ∧ Lg w (.slice a 0 c) w' v' [(f, n)] := by
  have HR := Lib.hid hr
  have ht : (((n : Nat) : Int) == 0) = false := by simp; omega
  clear hr hn
  go_enter Tryd.func97, Tryd.ntmps97
  go_wp2_with fail
  go_quiet (fail)
  have HB : Hid (Below w.heap.size w ((w.alloc (.cells #[.int .i64 (f : Int), .int .i64 (n : Int)] 105)).drewN nq)) := Lib.hid (below_drewN (by go_grown) nq)
  have KB : Hid (Bk 105 ((w.alloc (.cells #[.int .i64 (f : Int), .int .i64 (n : Int)] 105)).drewN nq) w.heap.size #[.int .i64 (f : Int), .int .i64 (n : Int)]) := Lib.hid (Bk.below (Bk.new rfl) ⟨rfl, rfl, rfl, Nat.le_refl _, fun _ _ => rfl⟩)
  generalize ((w.alloc (.cells #[.int .i64 (f : Int), .int .i64 (n : Int)] 105)).drewN nq) = w1 at HB KB ⊢
  have b0 := KB.out.cell 0
  have b1 := KB.out.cell 1
  go_wp2_with (at_builtin; refine wp_piece rfl _ _ rfl w (.slice a 0 c) [] f n _ _ rfl rfl (HB.out.alloc HB.out.size _) HR.out (by simp) (Bk.new rfl) ?_; intro v' w' hlg; replace hlg := Lib.hid hlg)
  go_ret
  exact ⟨_, rfl, hlg.out⟩
theorem index60 (q c k : Nat) (w : World) : (Instr.indexAt 89 (.slice (some ⟨q, 0, none⟩) (k + 1) c) (.int .i64 (k : Int))).run Tryd.prog w = .ok (.pointer (some ⟨q, k * 2, none⟩)) w := by
  have hb2 : k < k + 1 := by omega
  go_simp
  intro h
  omega
set_option maxHeartbeats 8000000 in
theorem longer_same55 (q c k : Nat) (cur : Array Value) (f n m : Nat) (hn : n ≠ 0) (hmb : m + n ≤ 4194304) (hk : k ≤ 4194304) (w : World) (hq : w.heap[q]? = some (.cells cur 105 (0, 0))) (c0 : w.cell? ⟨q, k * 2, none⟩ = some (.int .i64 (f : Int))) (c1 : w.cell? ⟨q, k * 2 + 1, none⟩ = some (.int .i64 (m : Int))) :
    Calls Tryd.prog 97 #[.slice (some ⟨q, 0, none⟩) (k + 1) c, .agg #[.int .i64 (f : Int), .int .i64 (n : Int)]] w fun e w' => e = .returned (.slice (some ⟨q, 0, none⟩) (k + 1) c) ∧ w'.heap[q]? = some (.cells (cur.setIfInBounds (k * 2 + 1) (.int .i64 ((m + n : Nat) : Int))) 105 (0, 0)) ∧ Only [q] w w' := by
  have ht : (((n : Nat) : Int) == 0) = false := by simp; omega
  have hb2 : k < k + 1 := by omega
  have d0 : (w.alloc (.cells #[.int .i64 (f : Int), .int .i64 (n : Int)] 105)).cell? ⟨q, k * 2, none⟩ = some (.int .i64 (f : Int)) := ((show Below w.heap.size w (w.alloc (.cells #[.int .i64 (f : Int), .int .i64 (n : Int)] 105)) by go_grown).cell (p := ⟨q, k * 2, none⟩) (blk_lt hq)).trans c0
  have d1 : (w.alloc (.cells #[.int .i64 (f : Int), .int .i64 (n : Int)] 105)).cell? ⟨q, k * 2 + 1, none⟩ = some (.int .i64 (m : Int)) := ((show Below w.heap.size w (w.alloc (.cells #[.int .i64 (f : Int), .int .i64 (n : Int)] 105)) by go_grown).cell (p := ⟨q, k * 2 + 1, none⟩) (blk_lt hq)).trans c1
  have hq1 : (w.alloc (.cells #[.int .i64 (f : Int), .int .i64 (n : Int)] 105)).heap[q]? = some (.cells cur 105 (0, 0)) := ((show Below w.heap.size w (w.alloc (.cells #[.int .i64 (f : Int), .int .i64 (n : Int)] 105)) by go_grown).block q (blk_lt hq)).trans hq
  have fz : (w.alloc (.cells #[.int .i64 (f : Int), .int .i64 (n : Int)] 105)).frozen? ⟨q, k * 2 + 1, none⟩ = false := frozen_of_row _ _ _ _ _ hq1
  have HQ := Lib.hid hq1
  have hqlt := Lib.hid (blk_lt hq)
  clear hn c0 c1 hq hq1
  go_enter Tryd.func97, Tryd.ntmps97
  go_wp2_with fail
  go_quiet (fail)
  have HB : Hid (Below w.heap.size w ((w.alloc (.cells #[.int .i64 (f : Int), .int .i64 (n : Int)] 105)).drewN nq)) := Lib.hid (below_drewN (by go_grown) nq)
  have KB : Hid (Bk 105 ((w.alloc (.cells #[.int .i64 (f : Int), .int .i64 (n : Int)] 105)).drewN nq) w.heap.size #[.int .i64 (f : Int), .int .i64 (n : Int)]) := Lib.hid (Bk.below (Bk.new rfl) ⟨rfl, rfl, rfl, Nat.le_refl _, fun _ _ => rfl⟩)
  have e1 : ((w.alloc (.cells #[.int .i64 (f : Int), .int .i64 (n : Int)] 105)).drewN nq).cell? ⟨q, k * 2 + 1, none⟩ = some (.int .i64 (m : Int)) := d1
  have ef : ((w.alloc (.cells #[.int .i64 (f : Int), .int .i64 (n : Int)] 105)).drewN nq).frozen? ⟨q, k * 2 + 1, none⟩ = false := fz
  have HQ2 : Hid (((w.alloc (.cells #[.int .i64 (f : Int), .int .i64 (n : Int)] 105)).drewN nq).heap[q]? = some (.cells cur 105 (0, 0))) := Lib.hid HQ.out
  clear d0 d1 fz HQ
  generalize ((w.alloc (.cells #[.int .i64 (f : Int), .int .i64 (n : Int)] 105)).drewN nq) = w1 at HB KB e1 ef HQ2 ⊢
  have b1 := KB.out.cell 1
  have EV : Hid ((m : Int) + (n : Int) = ((m + n : Nat) : Int)) := Lib.hid (by omega)
  have hix := index60 q c k
  go_wp2_with fail
  go_still_tail 10, (by kernel_rfl)
  go_wp2_with fail
  rw [EV.out]
  go_ret
  exact ⟨rfl, heap_setCell_same _ _ _ _ _ _ HQ2.out, ((Only.of HB.out).setCell _ (by simp) _).drew⟩
set_option maxHeartbeats 8000000 in
theorem longer_other55 (q c k : Nat) (cur : Array Value) (f n g : Nat) (row : List (Nat × Nat)) (hrow : row.length = k + 1) (hn : n ≠ 0) (hg : g ≠ f) (hk : k ≤ 4194303) (w : World) (hr : w.ownsRow 0 105 2 (.slice (some ⟨q, 0, none⟩) (k + 1) c) row.length (pcells row)) (hq : w.heap[q]? = some (.cells cur 105 (0, 0))) (c0 : w.cell? ⟨q, k * 2, none⟩ = some (.int .i64 (g : Int))) :
    Calls Tryd.prog 97 #[.slice (some ⟨q, 0, none⟩) (k + 1) c, .agg #[.int .i64 (f : Int), .int .i64 (n : Int)]] w fun e w' => ∃ v', e = .returned v' ∧ Lg w (.slice (some ⟨q, 0, none⟩) (k + 1) c) w' v' (row ++ [(f, n)]) := by
  have HR := Lib.hid hr
  have HRL := Lib.hid (show row.length ≤ 4194304 by omega)
  have ht : (((n : Nat) : Int) == 0) = false := by simp; omega
  have ht2 : (((g : Nat) : Int) == ((f : Nat) : Int)) = false := by simp; omega
  have hb2 : k < k + 1 := by omega
  have d0 : (w.alloc (.cells #[.int .i64 (f : Int), .int .i64 (n : Int)] 105)).cell? ⟨q, k * 2, none⟩ = some (.int .i64 (g : Int)) := ((show Below w.heap.size w (w.alloc (.cells #[.int .i64 (f : Int), .int .i64 (n : Int)] 105)) by go_grown).cell (p := ⟨q, k * 2, none⟩) (blk_lt hq)).trans c0
  clear hn hg c0 hq hr hrow
  go_enter Tryd.func97, Tryd.ntmps97
  go_wp2_with fail
  go_quiet (fail)
  have HB : Hid (Below w.heap.size w ((w.alloc (.cells #[.int .i64 (f : Int), .int .i64 (n : Int)] 105)).drewN nq)) := Lib.hid (below_drewN (by go_grown) nq)
  have KB : Hid (Bk 105 ((w.alloc (.cells #[.int .i64 (f : Int), .int .i64 (n : Int)] 105)).drewN nq) w.heap.size #[.int .i64 (f : Int), .int .i64 (n : Int)]) := Lib.hid (Bk.below (Bk.new rfl) ⟨rfl, rfl, rfl, Nat.le_refl _, fun _ _ => rfl⟩)
  generalize ((w.alloc (.cells #[.int .i64 (f : Int), .int .i64 (n : Int)] 105)).drewN nq) = w1 at HB KB ⊢
  have b0 := KB.out.cell 0
  have b1 := KB.out.cell 1
  go_wp2_with (at_builtin; refine wp_piece rfl _ _ rfl w (.slice (some ⟨q, 0, none⟩) (k + 1) c) row f n _ _ rfl rfl (HB.out.alloc HB.out.size _) HR.out HRL.out (Bk.new rfl) ?_; intro v' w' hlg; replace hlg := Lib.hid hlg)
  go_ret
  exact ⟨_, rfl, hlg.out⟩
theorem pcells_set (r : List (Nat × Nat)) (f m n : Nat) : (pcells (r ++ [(f, m)])).set (r.length * 2 + 1) (.int .i64 (n : Int)) = pcells (r ++ [(f, n)]) := by
  rw [pcells_app, pcells_app, List.set_append_right _ _ (by rw [pcells_len]; omega), pcells_len, show r.length * 2 + 1 - r.length * 2 = 1 from by omega]
  rfl
theorem longer_any (rv : Value) (row : List (Nat × Nat)) (f n : Nat) (hl : row.length ≤ 2097152) (hb : ∀ p ∈ row, p.2 + n ≤ 4194304) (w : World) (hr : w.ownsRow 0 105 2 rv row.length (pcells row)) :
    Calls Tryd.prog 97 #[rv, .agg #[.int .i64 (f : Int), .int .i64 (n : Int)]] w fun e w' => ∃ v', e = .returned v' ∧ Lg w rv w' v' (longer row f n) := by
  by_cases hn : n = 0
  · subst hn
    rw [longer_zero]
    exact longer_zero55 rv f row w hr
  · rcases split_last row with rfl | ⟨r, g, m, rfl⟩
    · rw [longer_nil _ _ hn]
      have hr' := hr
      obtain ⟨_, ⟨rfl, _⟩ | ⟨q, cap, cur, rfl, _⟩⟩ := hr'
      · exact longer_first55 none 0 f n hn w hr
      · exact longer_first55 _ cap f n hn w hr
    · have hr' := hr
      obtain ⟨hxl, ⟨rfl, h0⟩ | ⟨q, cap, cur, rfl, hB, hq, hnc, hcm, hcs, htk⟩⟩ := hr'
      · simp at h0
      · have hlen : (r ++ [(g, m)]).length = r.length + 1 := by simp
        have hpc := piece_cell hq htk r.length (by simp)
        simp only [List.getElem_append_right (Nat.le_refl r.length), Nat.sub_self, List.getElem_cons_zero] at hpc
        rw [hlen] at hl
        by_cases hg : g = f
        · subst hg
          rw [longer_same _ _ _ _ hn]
          have hmn := hb (g, m) (by simp)
          simp only at hmn
          have h2 := longer_same55 q cap r.length cur g n m hn hmn (by omega) w hq hpc.1 hpc.2
          rw [hlen]
          refine h2.mono ?_
          rintro e w' ⟨rfl, hq', ho⟩
          refine ⟨_, rfl, ⟨by rw [pcells_len], .inr ⟨q, cap, _, by simp, hB, hq', by simpa using hnc, hcm, by simpa using hcs, ?_⟩⟩, ho, fun k hk => .inl hk⟩
          rw [Array.toList_setIfInBounds, List.take_set, show (r ++ [(g, m + n)]).length * 2 = (r ++ [(g, m)]).length * 2 by simp, htk, pcells_set]
        · rw [longer_other _ _ _ _ _ hn hg]
          rw [hlen]
          exact longer_other55 q cap r.length cur f n g (r ++ [(g, m)]) hlen hn hg (by omega) w (by rw [hlen] at hr ⊢; exact hr) hq hpc.1
def appCode (S : St) (f : Int) (n : Nat) : Nat := if ¬ St.there f then 90 else if (S.file f.toNat).length + n > 1048576 then 91 else 0
set_option maxHeartbeats 8000000 in
theorem clo54_not (a c d : Nat) (f : Int) (w : World) (hf : St.there f = false) (h : w.cell? ⟨a, 0, none⟩ = some (.int .i64 f)) :
    Calls Tryd.prog 96 #[.pointer (some ⟨a, 0, none⟩), .pointer (some ⟨c, 0, none⟩), .pointer (some ⟨d, 0, none⟩)] w fun e w' => e = .returned (.int .i64 90) ∧ Below w.heap.size w w' := by
  have HK := Lib.hid hf
  clear hf
  go_enter Tryd.func96, Tryd.ntmps96
  go_wp2_with fail
  refine (there_any _ _).mono ?_
  rintro e w' ⟨rfl, rfl⟩
  rw [HK.out]
  go_wp2_with fail
  go_ret
  exact ⟨rfl, Below.refl _ _⟩
set_option maxHeartbeats 8000000 in
theorem clo54_0ok (a c d : Nat) (s : ByteArray) (p : Fp) (S : St) (w : World) (h : w.cell? ⟨a, 0, none⟩ = some (.int .i64 0)) (h' : w.cell? ⟨c, 0, none⟩ = some p.v) (h'' : w.cell? ⟨d, 0, none⟩ = some (.string s)) (D : Hid (Dk w p S)) (hsz : s.size ≤ 140737488355328) (hl : ¬ S.f0.length + s.size > 1048576) :
    Calls Tryd.prog 96 #[.pointer (some ⟨a, 0, none⟩), .pointer (some ⟨c, 0, none⟩), .pointer (some ⟨d, 0, none⟩)] w fun e w' => e = .returned (.int .i64 0) ∧ Below w.heap.size w w' := by
  have hlf := D.out.wf.l0
  have ht : decide ((1048576 : Int) < (S.f0.length : Int) + (s.size : Int)) = false := by simp; omega
  have ht2 : decide (1048576 < S.f0.length + s.size) = false := by simp; omega
  have k0 := D.out.blk.cell 0
  unfold Fp.v at h'
  clear hl
  go_enter Tryd.func96, Tryd.ntmps96
  go_wp2_with fail
  refine (there_any _ _).mono ?_
  rintro e w' ⟨rfl, rfl⟩
  rw [show St.there 0 = true from rfl]
  go_wp2_with fail
  go_quiet (fail)
  go_wp2_with fail
  go_ret
  exact ⟨rfl, below_drewN (Below.refl _ _) _⟩
set_option maxHeartbeats 8000000 in
theorem clo54_0long (a c d : Nat) (s : ByteArray) (p : Fp) (S : St) (w : World) (h : w.cell? ⟨a, 0, none⟩ = some (.int .i64 0)) (h' : w.cell? ⟨c, 0, none⟩ = some p.v) (h'' : w.cell? ⟨d, 0, none⟩ = some (.string s)) (D : Hid (Dk w p S)) (hsz : s.size ≤ 140737488355328) (hl : S.f0.length + s.size > 1048576) :
    Calls Tryd.prog 96 #[.pointer (some ⟨a, 0, none⟩), .pointer (some ⟨c, 0, none⟩), .pointer (some ⟨d, 0, none⟩)] w fun e w' => e = .returned (.int .i64 91) ∧ Below w.heap.size w w' := by
  have hlf := D.out.wf.l0
  have ht : decide ((1048576 : Int) < (S.f0.length : Int) + (s.size : Int)) = true := by simp; omega
  have ht2 : decide (1048576 < S.f0.length + s.size) = true := by simp; omega
  have k0 := D.out.blk.cell 0
  unfold Fp.v at h'
  clear hl
  go_enter Tryd.func96, Tryd.ntmps96
  go_wp2_with fail
  refine (there_any _ _).mono ?_
  rintro e w' ⟨rfl, rfl⟩
  rw [show St.there 0 = true from rfl]
  go_wp2_with fail
  go_quiet (fail)
  go_wp2_with fail
  go_ret
  exact ⟨rfl, below_drewN (Below.refl _ _) _⟩
set_option maxHeartbeats 8000000 in
theorem clo54_1ok (a c d : Nat) (s : ByteArray) (p : Fp) (S : St) (w : World) (h : w.cell? ⟨a, 0, none⟩ = some (.int .i64 1)) (h' : w.cell? ⟨c, 0, none⟩ = some p.v) (h'' : w.cell? ⟨d, 0, none⟩ = some (.string s)) (D : Hid (Dk w p S)) (hsz : s.size ≤ 140737488355328) (hl : ¬ S.f1.length + s.size > 1048576) :
    Calls Tryd.prog 96 #[.pointer (some ⟨a, 0, none⟩), .pointer (some ⟨c, 0, none⟩), .pointer (some ⟨d, 0, none⟩)] w fun e w' => e = .returned (.int .i64 0) ∧ Below w.heap.size w w' := by
  have hlf := D.out.wf.l1
  have ht : decide ((1048576 : Int) < (S.f1.length : Int) + (s.size : Int)) = false := by simp; omega
  have ht2 : decide (1048576 < S.f1.length + s.size) = false := by simp; omega
  have k0 := D.out.blk.cell 2
  unfold Fp.v at h'
  clear hl
  go_enter Tryd.func96, Tryd.ntmps96
  go_wp2_with fail
  refine (there_any _ _).mono ?_
  rintro e w' ⟨rfl, rfl⟩
  rw [show St.there 1 = true from rfl]
  go_wp2_with fail
  go_quiet (fail)
  go_wp2_with fail
  go_ret
  exact ⟨rfl, below_drewN (Below.refl _ _) _⟩
set_option maxHeartbeats 8000000 in
theorem clo54_1long (a c d : Nat) (s : ByteArray) (p : Fp) (S : St) (w : World) (h : w.cell? ⟨a, 0, none⟩ = some (.int .i64 1)) (h' : w.cell? ⟨c, 0, none⟩ = some p.v) (h'' : w.cell? ⟨d, 0, none⟩ = some (.string s)) (D : Hid (Dk w p S)) (hsz : s.size ≤ 140737488355328) (hl : S.f1.length + s.size > 1048576) :
    Calls Tryd.prog 96 #[.pointer (some ⟨a, 0, none⟩), .pointer (some ⟨c, 0, none⟩), .pointer (some ⟨d, 0, none⟩)] w fun e w' => e = .returned (.int .i64 91) ∧ Below w.heap.size w w' := by
  have hlf := D.out.wf.l1
  have ht : decide ((1048576 : Int) < (S.f1.length : Int) + (s.size : Int)) = true := by simp; omega
  have ht2 : decide (1048576 < S.f1.length + s.size) = true := by simp; omega
  have k0 := D.out.blk.cell 2
  unfold Fp.v at h'
  clear hl
  go_enter Tryd.func96, Tryd.ntmps96
  go_wp2_with fail
  refine (there_any _ _).mono ?_
  rintro e w' ⟨rfl, rfl⟩
  rw [show St.there 1 = true from rfl]
  go_wp2_with fail
  go_quiet (fail)
  go_wp2_with fail
  go_ret
  exact ⟨rfl, below_drewN (Below.refl _ _) _⟩
theorem clo54 (a c d : Nat) (f : Int) (s : ByteArray) (p : Fp) (S : St) (w : World) (h : w.cell? ⟨a, 0, none⟩ = some (.int .i64 f)) (h' : w.cell? ⟨c, 0, none⟩ = some p.v) (h'' : w.cell? ⟨d, 0, none⟩ = some (.string s)) (D : Hid (Dk w p S)) (hsz : s.size ≤ 140737488355328) :
    Calls Tryd.prog 96 #[.pointer (some ⟨a, 0, none⟩), .pointer (some ⟨c, 0, none⟩), .pointer (some ⟨d, 0, none⟩)] w fun e w' => e = .returned (.int .i64 (appCode S f s.size : Int)) ∧ Below w.heap.size w w' := by
  rcases (by omega : f = 0 ∨ f = 1 ∨ ¬ (0 ≤ f ∧ f < 2)) with rfl | rfl | hf
  · have e0 : S.file ((0 : Int).toNat) = S.f0 := rfl
    have e2 : St.there 0 = true := rfl
    unfold appCode
    rw [e0, e2]
    by_cases hl : S.f0.length + s.size > 1048576
    · rw [if_neg (by simp), if_pos hl]
      exact clo54_0long a c d s p S w h h' h'' D hsz hl
    · rw [if_neg (by simp), if_neg hl]
      exact clo54_0ok a c d s p S w h h' h'' D hsz hl
  · have e0 : S.file ((1 : Int).toNat) = S.f1 := rfl
    have e2 : St.there 1 = true := rfl
    unfold appCode
    rw [e0, e2]
    by_cases hl : S.f1.length + s.size > 1048576
    · rw [if_neg (by simp), if_pos hl]
      exact clo54_1long a c d s p S w h h' h'' D hsz hl
    · rw [if_neg (by simp), if_neg hl]
      exact clo54_1ok a c d s p S w h h' h'' D hsz hl
  · have hth : St.there f = false := by simpa [St.there] using hf
    have e : appCode S f s.size = 90 := by simp [appCode, hth]
    rw [e]
    exact clo54_not a c d f w hth h
theorem append_eq (S : St) (f : Int) (s : List UInt8) : S.append f s = if S.gone then (2, S) else if appCode S f s.length ≠ 0 then (appCode S f s.length, S) else (S.lay f.toNat s).count := by
  unfold St.append appCode
  cases S.gone
  · simp only [Bool.false_eq_true, if_false]
    by_cases h : St.there f = true
    · simp only [h, not_true_eq_false, if_false]
      split <;> simp
    · simp [h]
  · simp
section
variable {P : Program} {ops : Array Oper} {md : Region.Mode} {Q : Exit → Act → World → Prop}
def findR : Code → Nat → Option (Array Oper)
  | .region i os _, n => if i = n then some os else none
  | .seq a b, n => (findR a n).or (findR b n)
  | .cond _ a b, n => (findR a n).or (findR b n)
  | .block _ a, n => findR a n
  | .loop a, n => findR a n
  | .scope a, n => findR a n
  | _, _ => none
def left (l : Array Bool) : Nat := (l.toList.filter (fun x => !x)).length
theorem left_set_list : ∀ (l : List Bool) (i : Nat) (h : i < l.length), l[i] = false → ((l.set i true).filter (fun x => !x)).length + 1 = (l.filter (fun x => !x)).length
  | x :: l, 0, h, hx => by
    have : x = false := hx
    subst this
    simp
  | x :: l, i + 1, h, hx => by
    have ih := left_set_list l i (by simpa using h) (by simpa using hx)
    cases x <;> simp [List.filter_cons] <;> omega
theorem left_set {l : Array Bool} {i : Nat} (h : l.getD i true = false) : left (l.setIfInBounds i true) + 1 = left l := by
  have hi : i < l.size := by
    rcases Nat.lt_or_ge i l.size with h' | h'
    · exact h'
    · simp [Array.getElem?_eq_none h'] at h
  have hx : l[i] = false := by simpa [hi] using h
  unfold left
  have := left_set_list l.toList i (by simpa using hi) (by simpa using hx)
  simpa [Array.toList_setIfInBounds, hi] using this
theorem left_count (l : Array Bool) (g : Nat) : left (l ++ Array.replicate g false) = left l + g := by
  simp [left, List.filter_append]
theorem left_zero {l : Array Bool} (h : left l = 0) : ∀ x ∈ l, x = true := by
  intro x hx
  unfold left at h
  rw [List.length_eq_zero_iff, List.filter_eq_nil_iff] at h
  have := h x (by simpa using hx)
  simpa using this
theorem wpAny_inv2 {I : Array Bool → Act → World → Prop} {g : Nat} (none : ∀ l a w, I l a w → Region.ready md ops l = [] → left l = g) (step : ∀ l a w, I l a w → left l ≠ g → ∀ i ∈ Region.ready md ops l, wpOp P ops Q i (fun a' w' => I (l.setIfInBounds i true) a' w') a w)
    (fin : ∀ l a w, I l a w → left l = g → wpAny P md ops Q g l a w) : ∀ (fuel : Nat) (l : Array Bool) (a : Act) (w : World), left l = fuel → g ≤ fuel → I l a w → wpAny P md ops Q fuel l a w
  | 0, l, a, w, hf, hg, h => by
    obtain rfl : g = 0 := by omega
    exact fin l a w h hf
  | fuel + 1, l, a, w, hf, hg, h => by
    by_cases hgf : g = fuel + 1
    · subst hgf
      exact fin l a w h hf
    · refine ⟨fun h0 => absurd (none l a w h h0) (by omega), fun i hi => ?_⟩
      have hl := left_set (mem_ready.1 hi).1
      exact wpOp_mono (fun a' w' h' => wpAny_inv2 none step fin fuel _ a' w' (by omega) (by omega) h') (step l a w h (by omega) i hi)
theorem wpOp_of {i : Nat} {o : Oper} {K : Act → World → Prop} {a : Act} {w : World} (hi : ops[i]? = some o) (hg : o.guard = none) (h : o.wp P a w K Q) : wpOp P ops Q i K a w := by
  unfold wpOp
  simp only [hi]
  rw [if_pos (by simp [Region.wanted, hg])]
  exact .inl h
theorem wp_append_runE {o : Oper} {a : Act} {w : World} {K : Act → World → Prop} (s x : Operand) (t u : TypeId) (ho : o.op = .call { callee := .builtin .append, args := #[s, x], argTypes := #[t, u] }) (vs vx : Value) (hs : a.eval s = vs) (hx : a.eval x = vx) (v' : Value) (w' : World)
    (hr : (Builtin.append_ #[t, u] o.type #[vs, vx]).run P w = .ok v' w') (h : K (a.put o.dst v') w') : o.wp P a w K Q := Lib.wp_append_run w s x t u ho vs vx hs hx v' w' hr h
end
end Go.Proofs.YtmoihgniglomiaaDoor
