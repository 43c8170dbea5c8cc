/- What formed answers: may an item's own kind and fields be? Conditions: the sizes of the reading; the library's tables. -/
import Derived.Test.YtghdcgokndmkjaaDoorK
set_option linter.unusedVariables false
set_option linter.unusedSimpArgs false
namespace Go.Proofs.YtghdcgokndmkjaaDoor
open Go.RowKit Go.Sort

def Tb (w : World) : Prop := Lib.Utf8Tabs (Tryd.laysValid_ren.g 3) (Tryd.laysValid_ren.g 4) w
theorem Tb.below {w w' : World} (h : Tb w) (hb : Below w.heap.size w w') : Tb w' := Go.Proofs.Utf8Tabs_below h hb
theorem valid_any (l : List UInt8) (w : World) (hl : l.length ≤ 140737488355328) (hT : Tb w) :
    Calls Tryd.prog 33 #[.string ⟨l.toArray⟩] w fun e w' => e = .returned (.bool (Lib.validD l)) ∧ Below w.heap.size w w' :=
  Any.utf8_ValidString Tryd.laysValid ⟨l.toArray⟩ w (by show l.toArray.size ≤ _; simp; omega) hT
theorem ret_bool {a b : Bool} (h : a = b) : Ending.returned (.bool a) = .returned (.bool b) := by rw [h]

set_option maxHeartbeats 1000000 in
set_option maxRecDepth 100000 in
theorem formed_0tt (d : Nat) (B : Nat → Prop) (t : It) (A : Option Addr) (c : Nat) (w : World) (hz : Sz t) (hr : RdL (d + 1) B w A t.list) (hT : Tb w) (h : t.kind = 0) (g : t.text = []) (m : t.list = []) :
    Calls Tryd.prog 36 #[itV t A c] w fun e w' => e = .returned (.bool true) ∧ Below w.heap.size w w' := by
  have hl := hr.length
  obtain ⟨z1, z2, z3⟩ := hz
  have k0 : (t.kind == 0) = true := by simp [h]
  have f1 : t.text.isEmpty = true := by simp [g]
  have f1' : (t.text == []) = true := by simp [g]
  have f2 : ((t.list.length : Int) == 0) = true := by simp [m]
  have ha : ∀ o, Below w.heap.size w (w.alloc o) := fun o => (Below.refl _ _).alloc (Nat.le_refl _) _
  have HA := Lib.hid ha
  have HR := Lib.hid hr
  have HT := Lib.hid hT
  clear ha hr hT
  unfold itV
  clear h g m
  go_enter Tryd.func36, Tryd.ntmps36
  go_wp2_with fail
  go_ret
  exact ⟨rfl, HA.out _⟩

set_option maxHeartbeats 1000000 in
set_option maxRecDepth 100000 in
theorem formed_0tf (d : Nat) (B : Nat → Prop) (t : It) (A : Option Addr) (c : Nat) (w : World) (hz : Sz t) (hr : RdL (d + 1) B w A t.list) (hT : Tb w) (h : t.kind = 0) (g : t.text = []) (m : ¬ t.list = []) :
    Calls Tryd.prog 36 #[itV t A c] w fun e w' => e = .returned (.bool false) ∧ Below w.heap.size w w' := by
  have hl := hr.length
  obtain ⟨z1, z2, z3⟩ := hz
  have k0 : (t.kind == 0) = true := by simp [h]
  have f1 : t.text.isEmpty = true := by simp [g]
  have f1' : (t.text == []) = true := by simp [g]
  have f2 : ((t.list.length : Int) == 0) = false := by simp [m]
  have ha : ∀ o, Below w.heap.size w (w.alloc o) := fun o => (Below.refl _ _).alloc (Nat.le_refl _) _
  have HA := Lib.hid ha
  have HR := Lib.hid hr
  have HT := Lib.hid hT
  clear ha hr hT
  unfold itV
  clear h g m
  go_enter Tryd.func36, Tryd.ntmps36
  go_wp2_with fail
  go_ret
  exact ⟨rfl, HA.out _⟩

set_option maxHeartbeats 1000000 in
set_option maxRecDepth 100000 in
theorem formed_0f (d : Nat) (B : Nat → Prop) (t : It) (A : Option Addr) (c : Nat) (w : World) (hz : Sz t) (hr : RdL (d + 1) B w A t.list) (hT : Tb w) (h : t.kind = 0) (g : ¬ t.text = []) :
    Calls Tryd.prog 36 #[itV t A c] w fun e w' => e = .returned (.bool false) ∧ Below w.heap.size w w' := by
  have hl := hr.length
  obtain ⟨z1, z2, z3⟩ := hz
  have k0 : (t.kind == 0) = true := by simp [h]
  have f1 : t.text.isEmpty = false := by simp [g]
  have f1' : (t.text == []) = false := by simp [g]
  have ha : ∀ o, Below w.heap.size w (w.alloc o) := fun o => (Below.refl _ _).alloc (Nat.le_refl _) _
  have HA := Lib.hid ha
  have HR := Lib.hid hr
  have HT := Lib.hid hT
  clear ha hr hT
  unfold itV
  clear h g
  go_enter Tryd.func36, Tryd.ntmps36
  go_wp2_with fail
  go_ret
  exact ⟨rfl, HA.out _⟩

set_option maxHeartbeats 1000000 in
set_option maxRecDepth 100000 in
theorem formed_1tt (d : Nat) (B : Nat → Prop) (t : It) (A : Option Addr) (c : Nat) (w : World) (hz : Sz t) (hr : RdL (d + 1) B w A t.list) (hT : Tb w) (h : t.kind = 1) (g : t.num = 0) (m : t.list = []) :
    Calls Tryd.prog 36 #[itV t A c] w fun e w' => e = .returned (.bool true) ∧ Below w.heap.size w w' := by
  have hl := hr.length
  obtain ⟨z1, z2, z3⟩ := hz
  have k0 : (t.kind == 0) = false := by simp [h]
  have k1 : (t.kind == 1) = true := by simp [h]
  have f3 : (t.num == 0) = true := by simp [g]
  have f2 : ((t.list.length : Int) == 0) = true := by simp [m]
  have ha : ∀ o, Below w.heap.size w (w.alloc o) := fun o => (Below.refl _ _).alloc (Nat.le_refl _) _
  have HA := Lib.hid ha
  have HR := Lib.hid hr
  have HT := Lib.hid hT
  clear ha hr hT
  unfold itV
  clear h g m
  go_enter Tryd.func36, Tryd.ntmps36
  go_wp2_with fail
  go_ret
  exact ⟨rfl, HA.out _⟩

set_option maxHeartbeats 1000000 in
set_option maxRecDepth 100000 in
theorem formed_1tf (d : Nat) (B : Nat → Prop) (t : It) (A : Option Addr) (c : Nat) (w : World) (hz : Sz t) (hr : RdL (d + 1) B w A t.list) (hT : Tb w) (h : t.kind = 1) (g : t.num = 0) (m : ¬ t.list = []) :
    Calls Tryd.prog 36 #[itV t A c] w fun e w' => e = .returned (.bool false) ∧ Below w.heap.size w w' := by
  have hl := hr.length
  obtain ⟨z1, z2, z3⟩ := hz
  have k0 : (t.kind == 0) = false := by simp [h]
  have k1 : (t.kind == 1) = true := by simp [h]
  have f3 : (t.num == 0) = true := by simp [g]
  have f2 : ((t.list.length : Int) == 0) = false := by simp [m]
  have ha : ∀ o, Below w.heap.size w (w.alloc o) := fun o => (Below.refl _ _).alloc (Nat.le_refl _) _
  have HA := Lib.hid ha
  have HR := Lib.hid hr
  have HT := Lib.hid hT
  clear ha hr hT
  unfold itV
  clear h g m
  go_enter Tryd.func36, Tryd.ntmps36
  go_wp2_with fail
  go_ret
  exact ⟨rfl, HA.out _⟩

set_option maxHeartbeats 1000000 in
set_option maxRecDepth 100000 in
theorem formed_1f (d : Nat) (B : Nat → Prop) (t : It) (A : Option Addr) (c : Nat) (w : World) (hz : Sz t) (hr : RdL (d + 1) B w A t.list) (hT : Tb w) (h : t.kind = 1) (g : ¬ t.num = 0) :
    Calls Tryd.prog 36 #[itV t A c] w fun e w' => e = .returned (.bool false) ∧ Below w.heap.size w w' := by
  have hl := hr.length
  obtain ⟨z1, z2, z3⟩ := hz
  have k0 : (t.kind == 0) = false := by simp [h]
  have k1 : (t.kind == 1) = true := by simp [h]
  have f3 : (t.num == 0) = false := by simp [g]
  have ha : ∀ o, Below w.heap.size w (w.alloc o) := fun o => (Below.refl _ _).alloc (Nat.le_refl _) _
  have HA := Lib.hid ha
  have HR := Lib.hid hr
  have HT := Lib.hid hT
  clear ha hr hT
  unfold itV
  clear h g
  go_enter Tryd.func36, Tryd.ntmps36
  go_wp2_with fail
  go_ret
  exact ⟨rfl, HA.out _⟩

set_option maxHeartbeats 1000000 in
set_option maxRecDepth 100000 in
theorem formed_2tt (d : Nat) (B : Nat → Prop) (t : It) (A : Option Addr) (c : Nat) (w : World) (hz : Sz t) (hr : RdL (d + 1) B w A t.list) (hT : Tb w) (h : t.kind = 2) (g : t.num = 0) (m : t.list = []) :
    Calls Tryd.prog 36 #[itV t A c] w fun e w' => e = .returned (.bool (Lib.validD t.text)) ∧ Below w.heap.size w w' := by
  have hl := hr.length
  obtain ⟨z1, z2, z3⟩ := hz
  have k0 : (t.kind == 0) = false := by simp [h]
  have k1 : (t.kind == 1) = false := by simp [h]
  have k2 : (t.kind == 2) = true := by simp [h]
  have f3 : (t.num == 0) = true := by simp [g]
  have f2 : ((t.list.length : Int) == 0) = true := by simp [m]
  have ha : ∀ o, Below w.heap.size w (w.alloc o) := fun o => (Below.refl _ _).alloc (Nat.le_refl _) _
  have HA := Lib.hid ha
  have HR := Lib.hid hr
  have HT := Lib.hid hT
  clear ha hr hT
  unfold itV
  clear h g m
  go_enter Tryd.func36, Tryd.ntmps36
  go_wp2_with fail
  refine (valid_any t.text _ z3 (HT.out.below (HA.out _))).mono ?_
  rintro e w' ⟨rfl, hb⟩
  have hb' := (HA.out _).trans (hb.mono (by simp))
  generalize hV : Lib.validD t.text = V
  have HV := Lib.hid hV
  clear hV
  go_wp2_with fail
  go_ret
  exact ⟨by rw [HV.out]; rfl, hb'⟩

set_option maxHeartbeats 1000000 in
set_option maxRecDepth 100000 in
theorem formed_2tf (d : Nat) (B : Nat → Prop) (t : It) (A : Option Addr) (c : Nat) (w : World) (hz : Sz t) (hr : RdL (d + 1) B w A t.list) (hT : Tb w) (h : t.kind = 2) (g : t.num = 0) (m : ¬ t.list = []) :
    Calls Tryd.prog 36 #[itV t A c] w fun e w' => e = .returned (.bool false) ∧ Below w.heap.size w w' := by
  have hl := hr.length
  obtain ⟨z1, z2, z3⟩ := hz
  have k0 : (t.kind == 0) = false := by simp [h]
  have k1 : (t.kind == 1) = false := by simp [h]
  have k2 : (t.kind == 2) = true := by simp [h]
  have f3 : (t.num == 0) = true := by simp [g]
  have f2 : ((t.list.length : Int) == 0) = false := by simp [m]
  have ha : ∀ o, Below w.heap.size w (w.alloc o) := fun o => (Below.refl _ _).alloc (Nat.le_refl _) _
  have HA := Lib.hid ha
  have HR := Lib.hid hr
  have HT := Lib.hid hT
  clear ha hr hT
  unfold itV
  clear h g m
  go_enter Tryd.func36, Tryd.ntmps36
  go_wp2_with fail
  go_ret
  exact ⟨rfl, HA.out _⟩

set_option maxHeartbeats 1000000 in
set_option maxRecDepth 100000 in
theorem formed_2f (d : Nat) (B : Nat → Prop) (t : It) (A : Option Addr) (c : Nat) (w : World) (hz : Sz t) (hr : RdL (d + 1) B w A t.list) (hT : Tb w) (h : t.kind = 2) (g : ¬ t.num = 0) :
    Calls Tryd.prog 36 #[itV t A c] w fun e w' => e = .returned (.bool false) ∧ Below w.heap.size w w' := by
  have hl := hr.length
  obtain ⟨z1, z2, z3⟩ := hz
  have k0 : (t.kind == 0) = false := by simp [h]
  have k1 : (t.kind == 1) = false := by simp [h]
  have k2 : (t.kind == 2) = true := by simp [h]
  have f3 : (t.num == 0) = false := by simp [g]
  have ha : ∀ o, Below w.heap.size w (w.alloc o) := fun o => (Below.refl _ _).alloc (Nat.le_refl _) _
  have HA := Lib.hid ha
  have HR := Lib.hid hr
  have HT := Lib.hid hT
  clear ha hr hT
  unfold itV
  clear h g
  go_enter Tryd.func36, Tryd.ntmps36
  go_wp2_with fail
  go_ret
  exact ⟨rfl, HA.out _⟩

set_option maxHeartbeats 1000000 in
set_option maxRecDepth 100000 in
theorem formed_3tt (d : Nat) (B : Nat → Prop) (t : It) (A : Option Addr) (c : Nat) (w : World) (hz : Sz t) (hr : RdL (d + 1) B w A t.list) (hT : Tb w) (h : t.kind = 3) (g : t.num = 0) (g2 : t.text = []) :
    Calls Tryd.prog 36 #[itV t A c] w fun e w' => e = .returned (.bool true) ∧ Below w.heap.size w w' := by
  have hl := hr.length
  obtain ⟨z1, z2, z3⟩ := hz
  have k0 : (t.kind == 0) = false := by simp [h]
  have k1 : (t.kind == 1) = false := by simp [h]
  have k2 : (t.kind == 2) = false := by simp [h]
  have k3 : (t.kind == 3) = true := by simp [h]
  have f3 : (t.num == 0) = true := by simp [g]
  have f1 : t.text.isEmpty = true := by simp [g2]
  have f1' : (t.text == []) = true := by simp [g2]
  have ha : ∀ o, Below w.heap.size w (w.alloc o) := fun o => (Below.refl _ _).alloc (Nat.le_refl _) _
  have HA := Lib.hid ha
  have HR := Lib.hid hr
  have HT := Lib.hid hT
  clear ha hr hT
  unfold itV
  clear h g g2
  go_enter Tryd.func36, Tryd.ntmps36
  go_wp2_with fail
  go_ret
  exact ⟨rfl, HA.out _⟩

set_option maxHeartbeats 1000000 in
set_option maxRecDepth 100000 in
theorem formed_3tf (d : Nat) (B : Nat → Prop) (t : It) (A : Option Addr) (c : Nat) (w : World) (hz : Sz t) (hr : RdL (d + 1) B w A t.list) (hT : Tb w) (h : t.kind = 3) (g : t.num = 0) (g2 : ¬ t.text = []) :
    Calls Tryd.prog 36 #[itV t A c] w fun e w' => e = .returned (.bool false) ∧ Below w.heap.size w w' := by
  have hl := hr.length
  obtain ⟨z1, z2, z3⟩ := hz
  have k0 : (t.kind == 0) = false := by simp [h]
  have k1 : (t.kind == 1) = false := by simp [h]
  have k2 : (t.kind == 2) = false := by simp [h]
  have k3 : (t.kind == 3) = true := by simp [h]
  have f3 : (t.num == 0) = true := by simp [g]
  have f1 : t.text.isEmpty = false := by simp [g2]
  have f1' : (t.text == []) = false := by simp [g2]
  have ha : ∀ o, Below w.heap.size w (w.alloc o) := fun o => (Below.refl _ _).alloc (Nat.le_refl _) _
  have HA := Lib.hid ha
  have HR := Lib.hid hr
  have HT := Lib.hid hT
  clear ha hr hT
  unfold itV
  clear h g g2
  go_enter Tryd.func36, Tryd.ntmps36
  go_wp2_with fail
  go_ret
  exact ⟨rfl, HA.out _⟩

set_option maxHeartbeats 1000000 in
set_option maxRecDepth 100000 in
theorem formed_3f (d : Nat) (B : Nat → Prop) (t : It) (A : Option Addr) (c : Nat) (w : World) (hz : Sz t) (hr : RdL (d + 1) B w A t.list) (hT : Tb w) (h : t.kind = 3) (g : ¬ t.num = 0) :
    Calls Tryd.prog 36 #[itV t A c] w fun e w' => e = .returned (.bool false) ∧ Below w.heap.size w w' := by
  have hl := hr.length
  obtain ⟨z1, z2, z3⟩ := hz
  have k0 : (t.kind == 0) = false := by simp [h]
  have k1 : (t.kind == 1) = false := by simp [h]
  have k2 : (t.kind == 2) = false := by simp [h]
  have k3 : (t.kind == 3) = true := by simp [h]
  have f3 : (t.num == 0) = false := by simp [g]
  have ha : ∀ o, Below w.heap.size w (w.alloc o) := fun o => (Below.refl _ _).alloc (Nat.le_refl _) _
  have HA := Lib.hid ha
  have HR := Lib.hid hr
  have HT := Lib.hid hT
  clear ha hr hT
  unfold itV
  clear h g
  go_enter Tryd.func36, Tryd.ntmps36
  go_wp2_with fail
  go_ret
  exact ⟨rfl, HA.out _⟩

set_option maxHeartbeats 1000000 in
set_option maxRecDepth 100000 in
theorem formed_4tt (d : Nat) (B : Nat → Prop) (t : It) (A : Option Addr) (c : Nat) (w : World) (hz : Sz t) (hr : RdL (d + 1) B w A t.list) (hT : Tb w) (h : t.kind = 4) (g : t.num = 0) (g2 : t.text = []) :
    Calls Tryd.prog 36 #[itV t A c] w fun e w' => e = .returned (.bool (pairsB Option.none t.list)) ∧ Below w.heap.size w w' := by
  have hl := hr.length
  obtain ⟨z1, z2, z3⟩ := hz
  have k0 : (t.kind == 0) = false := by simp [h]
  have k1 : (t.kind == 1) = false := by simp [h]
  have k2 : (t.kind == 2) = false := by simp [h]
  have k3 : (t.kind == 3) = false := by simp [h]
  have k4 : (t.kind == 4) = true := by simp [h]
  have f3 : (t.num == 0) = true := by simp [g]
  have f1 : t.text.isEmpty = true := by simp [g2]
  have f1' : (t.text == []) = true := by simp [g2]
  have ha : ∀ o, Below w.heap.size w (w.alloc o) := fun o => (Below.refl _ _).alloc (Nat.le_refl _) _
  have HA := Lib.hid ha
  have HR := Lib.hid hr
  have HT := Lib.hid hT
  clear ha hr hT
  unfold itV
  clear h g g2
  go_enter Tryd.func36, Tryd.ntmps36
  go_wp2_with fail
  refine (pairsMayBe_any d B t.list A c _ (HR.out.below (HA.out _))).mono ?_
  rintro e w' ⟨rfl, hb⟩
  have hb' := (HA.out _).trans (hb.mono (by simp))
  generalize hV : pairsB Option.none t.list = V
  have HV := Lib.hid hV
  clear hV
  go_wp2_with fail
  go_ret
  exact ⟨by rw [HV.out]; rfl, hb'⟩

set_option maxHeartbeats 1000000 in
set_option maxRecDepth 100000 in
theorem formed_4tf (d : Nat) (B : Nat → Prop) (t : It) (A : Option Addr) (c : Nat) (w : World) (hz : Sz t) (hr : RdL (d + 1) B w A t.list) (hT : Tb w) (h : t.kind = 4) (g : t.num = 0) (g2 : ¬ t.text = []) :
    Calls Tryd.prog 36 #[itV t A c] w fun e w' => e = .returned (.bool false) ∧ Below w.heap.size w w' := by
  have hl := hr.length
  obtain ⟨z1, z2, z3⟩ := hz
  have k0 : (t.kind == 0) = false := by simp [h]
  have k1 : (t.kind == 1) = false := by simp [h]
  have k2 : (t.kind == 2) = false := by simp [h]
  have k3 : (t.kind == 3) = false := by simp [h]
  have k4 : (t.kind == 4) = true := by simp [h]
  have f3 : (t.num == 0) = true := by simp [g]
  have f1 : t.text.isEmpty = false := by simp [g2]
  have f1' : (t.text == []) = false := by simp [g2]
  have ha : ∀ o, Below w.heap.size w (w.alloc o) := fun o => (Below.refl _ _).alloc (Nat.le_refl _) _
  have HA := Lib.hid ha
  have HR := Lib.hid hr
  have HT := Lib.hid hT
  clear ha hr hT
  unfold itV
  clear h g g2
  go_enter Tryd.func36, Tryd.ntmps36
  go_wp2_with fail
  go_ret
  exact ⟨rfl, HA.out _⟩

set_option maxHeartbeats 1000000 in
set_option maxRecDepth 100000 in
theorem formed_4f (d : Nat) (B : Nat → Prop) (t : It) (A : Option Addr) (c : Nat) (w : World) (hz : Sz t) (hr : RdL (d + 1) B w A t.list) (hT : Tb w) (h : t.kind = 4) (g : ¬ t.num = 0) :
    Calls Tryd.prog 36 #[itV t A c] w fun e w' => e = .returned (.bool false) ∧ Below w.heap.size w w' := by
  have hl := hr.length
  obtain ⟨z1, z2, z3⟩ := hz
  have k0 : (t.kind == 0) = false := by simp [h]
  have k1 : (t.kind == 1) = false := by simp [h]
  have k2 : (t.kind == 2) = false := by simp [h]
  have k3 : (t.kind == 3) = false := by simp [h]
  have k4 : (t.kind == 4) = true := by simp [h]
  have f3 : (t.num == 0) = false := by simp [g]
  have ha : ∀ o, Below w.heap.size w (w.alloc o) := fun o => (Below.refl _ _).alloc (Nat.le_refl _) _
  have HA := Lib.hid ha
  have HR := Lib.hid hr
  have HT := Lib.hid hT
  clear ha hr hT
  unfold itV
  clear h g
  go_enter Tryd.func36, Tryd.ntmps36
  go_wp2_with fail
  go_ret
  exact ⟨rfl, HA.out _⟩

set_option maxHeartbeats 1000000 in
set_option maxRecDepth 100000 in
theorem formed_no (d : Nat) (B : Nat → Prop) (t : It) (A : Option Addr) (c : Nat) (w : World) (hz : Sz t) (hr : RdL (d + 1) B w A t.list) (hT : Tb w) (h : ¬ t.kind = 0 ∧ ¬ t.kind = 1 ∧ ¬ t.kind = 2 ∧ ¬ t.kind = 3 ∧ ¬ t.kind = 4) :
    Calls Tryd.prog 36 #[itV t A c] w fun e w' => e = .returned (.bool false) ∧ Below w.heap.size w w' := by
  have hl := hr.length
  obtain ⟨z1, z2, z3⟩ := hz
  have k0 : (t.kind == 0) = false := by simp [h]
  have k1 : (t.kind == 1) = false := by simp [h]
  have k2 : (t.kind == 2) = false := by simp [h]
  have k3 : (t.kind == 3) = false := by simp [h]
  have k4 : (t.kind == 4) = false := by simp [h]
  have ha : ∀ o, Below w.heap.size w (w.alloc o) := fun o => (Below.refl _ _).alloc (Nat.le_refl _) _
  have HA := Lib.hid ha
  have HR := Lib.hid hr
  have HT := Lib.hid hT
  clear ha hr hT
  unfold itV
  clear h
  go_enter Tryd.func36, Tryd.ntmps36
  go_wp2_with fail
  go_ret
  exact ⟨rfl, HA.out _⟩

theorem formed_any (d : Nat) (B : Nat → Prop) (t : It) (A : Option Addr) (c : Nat) (w : World) (hz : Sz t) (hr : RdL (d + 1) B w A t.list) (hT : Tb w) :
    Calls Tryd.prog 36 #[itV t A c] w fun e w' => e = .returned (.bool (formed Lib.validD t)) ∧ Below w.heap.size w w' := by
  unfold formed
  by_cases h0 : t.kind = 0
  · rw [if_pos h0]
    by_cases g : t.text = []
    · by_cases m : t.list = []
      · simpa [g, m] using formed_0tt d B t A c w hz hr hT h0 g m
      · simpa [g, m] using formed_0tf d B t A c w hz hr hT h0 g m
    · simpa [g] using formed_0f d B t A c w hz hr hT h0 g
  rw [if_neg h0]
  by_cases h1 : t.kind = 1
  · rw [if_pos h1]
    by_cases g : t.num = 0
    · by_cases m : t.list = []
      · simpa [g, m] using formed_1tt d B t A c w hz hr hT h1 g m
      · simpa [g, m] using formed_1tf d B t A c w hz hr hT h1 g m
    · simpa [g] using formed_1f d B t A c w hz hr hT h1 g
  rw [if_neg h1]
  by_cases h2 : t.kind = 2
  · rw [if_pos h2]
    by_cases g : t.num = 0
    · by_cases m : t.list = []
      · simpa [g, m] using formed_2tt d B t A c w hz hr hT h2 g m
      · simpa [g, m] using formed_2tf d B t A c w hz hr hT h2 g m
    · simpa [g] using formed_2f d B t A c w hz hr hT h2 g
  rw [if_neg h2]
  by_cases h3 : t.kind = 3
  · rw [if_pos h3]
    by_cases g : t.num = 0
    · by_cases m : t.text = []
      · simpa [g, m] using formed_3tt d B t A c w hz hr hT h3 g m
      · simpa [g, m] using formed_3tf d B t A c w hz hr hT h3 g m
    · simpa [g] using formed_3f d B t A c w hz hr hT h3 g
  rw [if_neg h3]
  by_cases h4 : t.kind = 4
  · rw [if_pos h4]
    by_cases g : t.num = 0
    · by_cases m : t.text = []
      · simpa [g, m] using formed_4tt d B t A c w hz hr hT h4 g m
      · simpa [g, m] using formed_4tf d B t A c w hz hr hT h4 g m
    · simpa [g] using formed_4f d B t A c w hz hr hT h4 g
  rw [if_neg h4]
  exact formed_no d B t A c w hz hr hT ⟨h0, h1, h2, h3, h4⟩
end Go.Proofs.YtghdcgokndmkjaaDoor
