/- Both files as k leaves them (After, Files). No condition but the disk's own. -/
import Derived.Test.YtekagnhablkggaaC
set_option linter.unusedVariables false
set_option linter.unusedSimpArgs false
set_option maxRecDepth 100000
namespace Go.Proofs.Ytekagnhablkggaa
open Go.RowKit Go.Sort

/-- v is a new row of two texts -/
def Two (B : Nat) (w : World) (v : Value) (a b : List UInt8) : Prop := ∃ g, v = .slice (some ⟨g, 0, none⟩) 2 2 ∧ B ≤ g ∧ Bk 9 w g #[.string ⟨a.toArray⟩, .string ⟨b.toArray⟩]
theorem Two.below {B : Nat} {w w' : World} {v : Value} {a b : List UInt8} (h : Two B w v a b) (hb : Below w.heap.size w w') : Two B w' v a b := by
  obtain ⟨g, hv, hB, k⟩ := h; exact ⟨g, hv, hB, k.below hb⟩
theorem index74 (x y : Nat) : (∀ w, (Instr.index 74 (.agg #[.int .i64 (x : Int), .int .i64 (y : Int)]) (.int .i64 0)).run Try.prog w = .ok (.int .i64 (x : Int)) w) ∧ (∀ w, (Instr.index 74 (.agg #[.int .i64 (x : Int), .int .i64 (y : Int)]) (.int .i64 1)).run Try.prog w = .ok (.int .i64 (y : Int)) w) :=
  ⟨fun _ => by kernel_rfl, fun _ => by kernel_rfl⟩
set_option maxHeartbeats 8000000 in
theorem after_any (p : Fp) (S : St) (k : Int) (hk : k ≤ 9223372036854775807) (w : World) (h : Dk w p S) :
    Calls Try.prog 18 #[p.v, .int .i64 k] w fun e w' => (∃ v, e = .returned v ∧ Two w.heap.size w' v (S.after k).1 (S.after k).2) ∧ Below w.heap.size w w' := by
  have H := Lib.hid h
  have HL := Lib.hid (h.wf.left k.toNat)
  have HK := Lib.hid hk
  have hl0 := h.wf.l0
  have hl1 := h.wf.l1
  have hc0 := h.r0.cap
  have hc1 := h.r1.cap
  have HLT := Lib.hid h.lt
  clear h hk
  unfold Fp.v
  have hmk : ∀ w, (Instr.makeSlice 22 (.int .i64 2) (.int .i64 2)).run Try.prog w = .ok (.slice (some ⟨w.heap.size, 0, none⟩) 2 2) (w.alloc (.cells #[.string ⟨#[]⟩, .string ⟨#[]⟩] 9)) := fun _ => by kernel_rfl
  go_enter Try.func18, Try.ntmps18
  go_wp2_with fail
  refine (keep w.heap.size w (left_any p S k HK.out _ (H.out.below (by go_grown))) (by go_grown) (Nat.le_refl _)).mono ?_
  rintro e w1 ⟨rfl, hb, hkk⟩
  have D1 := Lib.hid ((H.out.below (w' := w.alloc (.cells #[.string ⟨#[]⟩, .string ⟨#[]⟩] 9)) (by go_grown)).below hkk)
  have KM := Lib.hid (Bk.below (Bk.new (t := 9) (cs := #[.string ⟨#[]⟩, .string ⟨#[]⟩]) (rfl : w.heap.size = w.heap.size)) hkk)
  have HB := Lib.hid hb
  have hne : p.b ≠ w.heap.size := by have := H.out.blk.lt; omega
  have hn0 : p.g0 ≠ w.heap.size := by have := H.out.r0.lt; omega
  have hn1 : p.g1 ≠ w.heap.size := by have := H.out.r1.lt; omega
  clear hb hkk hmk
  have hlv := HL.out
  have HV : Hid (S.after k = (S.f0.take (S.left k.toNat).1, S.f1.take (S.left k.toNat).2)) := Lib.hid rfl
  have HC0 : ∀ w, By w p.g0 p.c0 S.f0 → (convert 56 9 (.slice (some ⟨p.g0, 0, none⟩) (S.left k.toNat).1 p.c0)).run Try.prog w = .ok (.string ⟨(S.f0.take (S.left k.toNat).1).toArray⟩) w := fun w h => (h.take _).conv _ _ (by rw [List.length_take]; omega)
  have HC1 : ∀ w, By w p.g1 p.c1 S.f1 → (convert 56 9 (.slice (some ⟨p.g1, 0, none⟩) (S.left k.toNat).2 p.c1)).run Try.prog w = .ok (.string ⟨(S.f1.take (S.left k.toNat).2).toArray⟩) w := fun w h => (h.take _).conv _ _ (by rw [List.length_take]; omega)
  generalize hx : (S.left k.toNat).1 = x at hlv HV HC0 ⊢
  generalize hy : (S.left k.toNat).2 = y at hlv HV HC1 ⊢
  clear hx hy HL HLT
  obtain ⟨ix, iy⟩ := index74 x y
  obtain ⟨_, hx1, _, hy1, _⟩ := hlv
  have hxc : x ≤ p.c0 := by omega
  have hyc : y ≤ p.c1 := by omega
  have i0 := D1.out.blk.cell 0
  have m0 := KM.out.cell 0
  have fm0 := KM.out.fro 0
  have cv0 := HC0 w1 D1.out.r0
  have D2b := Lib.hid (Bk.oth (a := ⟨w.heap.size, 0, none⟩) (v := .string ⟨(S.f0.take x).toArray⟩) hne D1.out.blk)
  have KM2 := Lib.hid (Bk.same (i := 0) (v := .string ⟨(S.f0.take x).toArray⟩) KM.out)
  have i2 := D2b.out.cell 2
  have m1 := KM2.out.cell 1
  have fm1 := KM2.out.fro 1
  have cv1 := HC1 (w1.setCell ⟨w.heap.size, 0, none⟩ (.string ⟨(S.f0.take x).toArray⟩)) (D1.out.r1.of (heap_setCell_other _ _ _ _ hn1))
  clear HC0 HC1
  have hxn : (x : Int) ≤ p.c0 := by omega
  have hyn : (y : Int) ≤ p.c1 := by omega
  have KE : Hid (Bk 9 ((w1.setCell ⟨w.heap.size, 0, none⟩ (.string ⟨(S.f0.take x).toArray⟩)).setCell ⟨w.heap.size, 1, none⟩ (.string ⟨(S.f1.take y).toArray⟩)) w.heap.size #[.string ⟨(S.f0.take x).toArray⟩, .string ⟨(S.f1.take y).toArray⟩]) := Lib.hid (by
    have := Bk.same (i := 1) (v := .string ⟨(S.f1.take y).toArray⟩) KM2.out
    simpa using this)
  go_wp2_with fail
  refine wp_loop_rounds 3 ?_
  rw [rounds_succ]
  go_wp2_with fail
  rw [rounds_succ]
  go_wp2_with fail
  rw [rounds_succ]
  go_wp2_with fail
  go_ret
  rw [HV.out]
  exact ⟨⟨_, rfl, w.heap.size, rfl, Nat.le_refl _, KE.out⟩, by have hb := HB.out; have := hb.size; go_grown⟩
end Go.Proofs.Ytekagnhablkggaa
