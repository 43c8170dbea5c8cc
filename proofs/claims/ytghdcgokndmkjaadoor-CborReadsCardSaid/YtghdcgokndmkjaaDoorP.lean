/- What Encode answers: an item's bytes, or why not. Conditions: the sizes of the reading; the library's tables. -/
import Derived.Test.YtghdcgokndmkjaaDoorO
import Derived.Test.YtghdcgokndmkjaaDoorE
import Derived.Defers
import Derived.Recover
import Derived.RegionTactic
import Derived.ChangeAlike
set_option linter.unusedVariables false
set_option linter.unusedSimpArgs false
namespace Go.Proofs.YtghdcgokndmkjaaDoor
open Go.RowKit

theorem assert_errno (n : Int) (w : World) : (Instr.typeAssert (.iface 25 (.int .i64 n)) 20 25 false).run Tryd.prog w = .ok (.int .i64 n) w := by kernel_rfl
set_option maxHeartbeats 1000000 in
set_option maxRecDepth 100000 in
theorem ecatch_panicking (p q : Nat) (n : Int) (older : List PanicEntry) (w : World) (x y : Value) (hx : w.cell? ⟨p, 0, none⟩ = some x) (hy : w.cell? ⟨q, 0, none⟩ = some y) (fx : w.frozen? ⟨p, 0, none⟩ = false) (fy : w.frozen? ⟨q, 0, none⟩ = false) (hpq : p ≠ q) :
    CallsD Tryd.prog 26 #[.pointer (some ⟨p, 0, none⟩), .pointer (some ⟨q, 0, none⟩)] (.panicking ({ v := .iface 25 (.int .i64 n), recovered := false } :: older)) w fun e u' w' =>
      e = .returned (.tuple #[]) ∧ u' = .panicking ({ v := .iface 25 (.int .i64 n), recovered := true } :: older) ∧ w' = ((w.setCell ⟨p, 0, none⟩ (.string ⟨#[]⟩)).setCell ⟨q, 0, none⟩ (.int .i64 n)).drew := by
  have hta := assert_errno n
  refine callsD_of_wpS Tryd.func26 rfl fun c₀ cs hu => ?_
  apply wpS_seq
  apply wpS_region
  simp [wpOpsS, go_sem, recoverD, hu, Tryd.ntmps26, Exit.thenS]
  apply wpS_seq
  apply wpS_region
  simp [wpOpsS, go_sem, Exit.thenS]
  refine wpS_cond (t := true) (by simp [Act.eval, Array.replicate]) ?_
  simp only [if_true]
  refine wpS_of_wp ?_
  go_region
  all_goals (cases c₀; simp_all [bodyPostS, results, Tryd.results26, go_sem])

set_option maxRecDepth 100000 in
theorem ecatch_idle (a b : Value) (w : World) :
    CallsD Tryd.prog 26 #[a, b] .returning w fun e u' w' => e = .returned (.tuple #[]) ∧ u' = .returning ∧ w' = w := by
  refine callsD_of_wpS Tryd.func26 rfl fun c₀ cs hu => ?_
  apply wpS_seq
  apply wpS_region
  simp [wpOpsS, go_sem, recoverD, hu, Tryd.ntmps26, Exit.thenS]
  apply wpS_seq
  apply wpS_region
  simp [wpOpsS, go_sem, Exit.thenS]
  refine wpS_cond (t := false) (by simp [Act.eval, Array.replicate]) ?_
  simp only [Bool.false_eq_true, if_false]
  refine wpS_of_wp (wp_skip ?_)
  cases c₀
  simp_all [bodyPostS, results, Tryd.results26]

/-- what Encode tells: the bytes, the error -/
def encR (V : List UInt8 → Bool) (t : It) : List UInt8 × Int :=
  if chk V 16 t = 0 then (if (enc 16 t).length ≤ 4096 then (enc 16 t, 0) else ([], 32)) else ([], chk V 16 t)

set_option maxHeartbeats 2000000 in
set_option maxRecDepth 100000 in
theorem encode_no (D : Nat) (B : Nat → Prop) (t : It) (A : Option Addr) (c : Nat) (w : World) (hz : Sz t) (hr : RdL (D + 1) B w A t.list) (hT : Tb w) (hc : chk Lib.validD 16 t ≠ 0) :
    Calls Tryd.prog 15 #[itV t A c] w fun e w' => e = .returned (.tuple #[.string ⟨#[]⟩, .int .i64 (chk Lib.validD 16 t)]) ∧ Below w.heap.size w w' := by
  have hmf : ∀ (fn : Fn) (first cap : Array Value) (w : World), (Instr.makeFunc fn first cap).run Tryd.prog w = .ok (.func fn first cap) w := fun _ _ _ _ => rfl
  have ha : Below w.heap.size w (((w.alloc (.cells #[.int .i64 t.kind, .int .i64 t.num, .string ⟨t.text.toArray⟩, .slice A t.list.length c] 24)).alloc (.cells #[.string ⟨#[]⟩] 9)).alloc (.cells #[.int .i64 0] 25)) := (((Below.refl _ _).alloc (Nat.le_refl _) _).alloc (by simp) _).alloc (by simp; omega) _
  have HC := Lib.hid (Check_any D B t A c (((w.alloc (.cells #[.int .i64 t.kind, .int .i64 t.num, .string ⟨t.text.toArray⟩, .slice A t.list.length c] 24)).alloc (.cells #[.string ⟨#[]⟩] 9)).alloc (.cells #[.int .i64 0] 25)) hz (hr.below ha) (hT.below ha))
  have HR := Lib.hid hr
  clear ha hr hT
  unfold itV at HC ⊢
  generalize hV : chk Lib.validD 16 t = V at HC hc ⊢
  have hne : (V != 0) = true := by simp [hc]
  clear hV hc
  go_enter_defers Tryd.func15, Tryd.ntmps15
  go_wp2_with fail
  refine HC.out.mono ?_
  rintro e w' ⟨rfl, hb⟩
  obtain ⟨h0, h1, h2, hbw, hbs⟩ := box3 (hb.mono (by simp))
  have HB0 := Lib.hid h0
  have HB1 := Lib.hid h1
  have HB2 := Lib.hid h2
  have HBW := Lib.hid hbw
  clear h0 h1 h2 hb hbw
  have c1 := cellOf HB1.out 0
  have c2 := cellOf HB2.out 0
  simp at c1 c2
  have f1 := Lib.frozen_of_heap HB1.out 0
  have f2 := Lib.frozen_of_heap HB2.out 0
  go_wp2_with fail
  refine ⟨.tuple #[.string ⟨#[]⟩, .int .i64 V], by simp [results, Tryd.results15, go_sem, c1, c2], rfl, ?_⟩
  exact (HBW.out.setCell (by simp) _).setCell (by simp; omega) _

set_option maxHeartbeats 2000000 in
set_option maxRecDepth 100000 in
theorem encode_yes (D : Nat) (B : Nat → Prop) (t : It) (A : Option Addr) (c : Nat) (w : World) (hz : Sz t) (hr : RdL (D + 1) B w A t.list) (hT : Tb w) (hc : chk Lib.validD 16 t = 0) (hfit : (enc 16 t).length ≤ 4096) :
    Calls Tryd.prog 15 #[itV t A c] w fun e w' => e = .returned (.tuple #[.string ⟨(enc 16 t).toArray⟩, .int .i64 0]) ∧ Below w.heap.size w w' := by
  have hmf : ∀ (fn : Fn) (first cap : Array Value) (w : World), (Instr.makeFunc fn first cap).run Tryd.prog w = .ok (.func fn first cap) w := fun _ _ _ _ => rfl
  have ha : Below w.heap.size w (((w.alloc (.cells #[.int .i64 t.kind, .int .i64 t.num, .string ⟨t.text.toArray⟩, .slice A t.list.length c] 24)).alloc (.cells #[.string ⟨#[]⟩] 9)).alloc (.cells #[.int .i64 0] 25)) := (((Below.refl _ _).alloc (Nat.le_refl _) _).alloc (by simp) _).alloc (by simp; omega) _
  have HC := Lib.hid (Check_any D B t A c (((w.alloc (.cells #[.int .i64 t.kind, .int .i64 t.num, .string ⟨t.text.toArray⟩, .slice A t.list.length c] 24)).alloc (.cells #[.string ⟨#[]⟩] 9)).alloc (.cells #[.int .i64 0] 25)) hz (hr.below ha) (hT.below ha))
  have HR := Lib.hid hr
  clear ha hr hT
  have HCK := Lib.hid hc
  rw [hc] at HC
  have HF := Lib.hid hfit
  clear hc hfit
  unfold itV at HC ⊢
  go_enter_defers Tryd.func15, Tryd.ntmps15
  go_wp2_with fail
  refine HC.out.mono ?_
  rintro e w' ⟨rfl, hb⟩
  obtain ⟨h0, h1, h2, hbw, hbs⟩ := box3 (hb.mono (by simp))
  have HB0 := Lib.hid h0
  have HB1 := Lib.hid h1
  have HB2 := Lib.hid h2
  have HBW := Lib.hid hbw
  clear h0 h1 h2 hb hbw
  have HI := Lib.hid (item_any Lib.validD 16 D B w'.heap.size [] t A c w (w'.alloc (.cells #[.pointer none, .slice none 0 0] 59)) (HBW.out.alloc HBW.out.size _) HBW.out.size hz HR.out (Wr.start w') (by simp) HCK.out)
  unfold itV at HI
  have d0 := cellOf HB0.out 0
  have d1 := cellOf HB0.out 1
  have d2 := cellOf HB0.out 2
  have d3 := cellOf HB0.out 3
  simp at d0 d1 d2 d3
  have old := fun (o : Obj) (j : Nat) => ((Below.refl w'.heap.size w').alloc (Nat.le_refl _) o).cell (p := ⟨w.heap.size, j, none⟩) (by simp; omega)
  have d0' := fun o => (old o 0).trans d0
  have d1' := fun o => (old o 1).trans d1
  have d2' := fun o => (old o 2).trans d2
  have d3' := fun o => (old o 3).trans d3
  clear old d0 d1 d2 d3
  have hal : Below w'.heap.size w' (w'.alloc (.cells #[.pointer none, .slice none 0 0] 59)) := (Below.refl _ _).alloc (Nat.le_refl _) _
  have HAL := Lib.hid hal
  clear hal
  go_wp2_with fail
  refine HI.out.mono ?_
  intro e w2 hI
  rcases hI.cases with ⟨hfit, rfl, r2, k2⟩ | ⟨hno, rfl, k2⟩
  rotate_left
  · exact absurd HF.out (by simpa using hno)
  rw [List.nil_append] at r2
  have R2 := Lib.hid r2
  have K2 := Lib.hid (HAL.out.trans k2.1)
  clear r2 k2 hI hfit d0' d1' d2' d3'
  have hne : enc 16 t ≠ [] := by
    intro e
    have h1 := (headOf_length t).2
    have h2 : (enc 16 t).length = (headOf t ++ t.text ++ t.list.flatMap (enc 15)).length := rfl
    rw [e] at h2
    simp at h2
    omega
  have HS := Lib.hid (string_b w'.heap.size (enc 16 t) w2 R2.out hne)
  clear hne
  go_wp2_with fail
  refine HS.out.mono ?_
  rintro e w3 ⟨rfl, b3⟩
  have K3 := Lib.hid (K2.out.trans b3)
  clear b3
  have B1 := Lib.hid ((K3.out.block _ (by omega)).trans HB1.out)
  have B2 := Lib.hid ((K3.out.block _ (by omega)).trans HB2.out)
  have c1 := cellOf B1.out 0
  have c2 := cellOf B2.out 0
  simp at c1 c2
  have f1 := Lib.frozen_of_heap B1.out 0
  have f2 := Lib.frozen_of_heap B2.out 0
  have HE := Lib.hid (HBW.out.trans (K3.out.mono HBW.out.size))
  generalize hX : (⟨(enc 16 t).toArray⟩ : ByteArray) = X
  have HX := Lib.hid hX
  clear hX
  go_wp2_with fail
  refine leaves_cons (f := 26) (args := #[.pointer (some ⟨w.heap.size + 1, 0, none⟩), .pointer (some ⟨w.heap.size + 1 + 1, 0, none⟩)]) (by simp) (by simp [go_sem]) ?_
  refine (ecatch_idle _ _ _).mono ?_
  rintro e u' w4 ⟨rfl, rfl, rfl⟩
  refine ⟨.tuple #[.string X, .int .i64 0], by simp [results, Tryd.results15, go_sem, c1, c2], by rw [HX.out], ?_⟩
  exact (HE.out.setCell (by simp) _).setCell (by simp; omega) _

set_option maxHeartbeats 2000000 in
set_option maxRecDepth 100000 in
theorem encode_long (D : Nat) (B : Nat → Prop) (t : It) (A : Option Addr) (c : Nat) (w : World) (hz : Sz t) (hr : RdL (D + 1) B w A t.list) (hT : Tb w) (hc : chk Lib.validD 16 t = 0) (hfit : ¬ (enc 16 t).length ≤ 4096) :
    Calls Tryd.prog 15 #[itV t A c] w fun e w' => e = .returned (.tuple #[.string ⟨#[]⟩, .int .i64 32]) ∧ Below w.heap.size w w' := by
  have hmf : ∀ (fn : Fn) (first cap : Array Value) (w : World), (Instr.makeFunc fn first cap).run Tryd.prog w = .ok (.func fn first cap) w := fun _ _ _ _ => rfl
  have ha : Below w.heap.size w (((w.alloc (.cells #[.int .i64 t.kind, .int .i64 t.num, .string ⟨t.text.toArray⟩, .slice A t.list.length c] 24)).alloc (.cells #[.string ⟨#[]⟩] 9)).alloc (.cells #[.int .i64 0] 25)) := (((Below.refl _ _).alloc (Nat.le_refl _) _).alloc (by simp) _).alloc (by simp; omega) _
  have HC := Lib.hid (Check_any D B t A c (((w.alloc (.cells #[.int .i64 t.kind, .int .i64 t.num, .string ⟨t.text.toArray⟩, .slice A t.list.length c] 24)).alloc (.cells #[.string ⟨#[]⟩] 9)).alloc (.cells #[.int .i64 0] 25)) hz (hr.below ha) (hT.below ha))
  have HR := Lib.hid hr
  clear ha hr hT
  have HCK := Lib.hid hc
  rw [hc] at HC
  have HF := Lib.hid hfit
  clear hc hfit
  unfold itV at HC ⊢
  go_enter_defers Tryd.func15, Tryd.ntmps15
  go_wp2_with fail
  refine HC.out.mono ?_
  rintro e w' ⟨rfl, hb⟩
  obtain ⟨h0, h1, h2, hbw, hbs⟩ := box3 (hb.mono (by simp))
  have HB0 := Lib.hid h0
  have HB1 := Lib.hid h1
  have HB2 := Lib.hid h2
  have HBW := Lib.hid hbw
  clear h0 h1 h2 hb hbw
  have HI := Lib.hid (item_any Lib.validD 16 D B w'.heap.size [] t A c w (w'.alloc (.cells #[.pointer none, .slice none 0 0] 59)) (HBW.out.alloc HBW.out.size _) HBW.out.size hz HR.out (Wr.start w') (by simp) HCK.out)
  unfold itV at HI
  have d0 := cellOf HB0.out 0
  have d1 := cellOf HB0.out 1
  have d2 := cellOf HB0.out 2
  have d3 := cellOf HB0.out 3
  simp at d0 d1 d2 d3
  have old := fun (o : Obj) (j : Nat) => ((Below.refl w'.heap.size w').alloc (Nat.le_refl _) o).cell (p := ⟨w.heap.size, j, none⟩) (by simp; omega)
  have d0' := fun o => (old o 0).trans d0
  have d1' := fun o => (old o 1).trans d1
  have d2' := fun o => (old o 2).trans d2
  have d3' := fun o => (old o 3).trans d3
  clear old d0 d1 d2 d3
  have hal : Below w'.heap.size w' (w'.alloc (.cells #[.pointer none, .slice none 0 0] 59)) := (Below.refl _ _).alloc (Nat.le_refl _) _
  have HAL := Lib.hid hal
  clear hal
  go_wp2_with fail
  refine HI.out.mono ?_
  intro e w2 hI
  rcases hI.cases with ⟨hfit, rfl, r2, k2⟩ | ⟨hno, rfl, k2⟩
  · exact absurd (by simpa using hfit) HF.out
  have K3 := Lib.hid (HAL.out.trans k2.1)
  clear k2 hI hno d0' d1' d2' d3'
  have B1 := Lib.hid ((K3.out.block _ (by omega)).trans HB1.out)
  have B2 := Lib.hid ((K3.out.block _ (by omega)).trans HB2.out)
  have c1 := cellOf B1.out 0
  have c2 := cellOf B2.out 0
  simp at c1 c2
  have f1 := Lib.frozen_of_heap B1.out 0
  have f2 := Lib.frozen_of_heap B2.out 0
  have HE := Lib.hid (HBW.out.trans (K3.out.mono HBW.out.size))
  go_wp2_with fail
  refine leaves_cons (f := 26) (args := #[.pointer (some ⟨w.heap.size + 1, 0, none⟩), .pointer (some ⟨w.heap.size + 1 + 1, 0, none⟩)]) (by simp) (by simp [go_sem]) ?_
  refine (ecatch_panicking (w.heap.size + 1) (w.heap.size + 1 + 1) 32 [] _ _ _ c1 c2 f1 f2 (by omega)).mono ?_
  rintro e u' w4 ⟨rfl, rfl, rfl⟩
  refine ⟨.tuple #[.string ⟨#[]⟩, .int .i64 32], by simp [results, Tryd.results15, go_sem, c1, c2], rfl, ?_⟩
  exact ((HE.out.setCell (by simp) _).setCell (by simp; omega) _).drew

theorem Encode_any (D : Nat) (B : Nat → Prop) (t : It) (A : Option Addr) (c : Nat) (w : World) (hz : Sz t) (hr : RdL (D + 1) B w A t.list) (hT : Tb w) :
    Calls Tryd.prog 15 #[itV t A c] w fun e w' => e = .returned (.tuple #[.string ⟨(encR Lib.validD t).1.toArray⟩, .int .i64 (encR Lib.validD t).2]) ∧ Below w.heap.size w w' := by
  unfold encR
  by_cases hc : chk Lib.validD 16 t = 0
  · rw [if_pos hc]
    by_cases hf : (enc 16 t).length ≤ 4096
    · rw [if_pos hf]; exact encode_yes D B t A c w hz hr hT hc hf
    · rw [if_neg hf]; exact encode_long D B t A c w hz hr hT hc hf
  · rw [if_neg hc]; exact encode_no D B t A c w hz hr hT hc
end Go.Proofs.YtghdcgokndmkjaaDoor
