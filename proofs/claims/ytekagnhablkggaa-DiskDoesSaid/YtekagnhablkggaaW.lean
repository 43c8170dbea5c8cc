/- Calls whose answers the document fixes (fixed). No condition. -/
import Derived.Test.YtekagnhablkggaaV
set_option linter.unusedVariables false
set_option linter.unusedSimpArgs false
set_option maxRecDepth 100000
namespace Go.Proofs.Ytekagnhablkggaa
open Go.RowKit Go.Sort

def z0 : St := St.new [97] []
def z1 : St := (z0.append 0 [98, 99]).2
def z2 : St := (z1.append 1 [120]).2
def z3 : St := (z2.arm 1 3).2
def z4 : St := (z3.append 0 [100]).2
def z5 : St := z4.revive
theorem y1 : (z0.append 0 [98, 99]).1 = 0 := by decide
theorem y2 : (z1.append 1 [120]).1 = 0 := by decide
theorem y3 : z2.waiting = 3 := by decide
theorem y4 : (z2.cut 0 1).1 = 92 := by decide
theorem y4' : (z2.cut 0 1).2 = z2 := by rfl
theorem y5 : z2.after 1 = ([97, 98], []) := by decide
theorem y6 : (z2.arm 1 3).1 = 0 := by decide
theorem y7 : (z3.append 0 [100]).1 = 2 := by decide
theorem y8 : z4.gone = true := by decide
theorem y9 : z5.read 0 = ([97, 98, 99], 0) := by decide
theorem y10 : z5.size 1 = 1 := by decide
theorem y11 : z5.size 2 = -1 := by decide
theorem nilp (b : Nat) (w : World) : (binOp .eql 24 (.pointer (some ⟨b, 0, none⟩)) (.pointer none)).run Try.prog w = .ok (.bool false) w := by go_simp
set_option maxHeartbeats 16000000 in
theorem fixed_any (w : World) : Calls Try.prog 9 #[] w fun e w' => e = .returned (.bool true) ∧ Below w.heap.size w w' := by
  have HN := Lib.hid (new_ok w.heap.size 0 2 ⟨#[97]⟩ ⟨#[]⟩ (w.alloc (.cells #[.string ⟨#[97]⟩, .string ⟨#[]⟩] 9)) (by rw [World.size_alloc]; omega) ((Bk.new (t := 9) rfl).cell 0) ((Bk.new (t := 9) rfl).cell 1) (by decide) (by decide))
  go_enter Try.func9, Try.ntmps9
  go_wp2_with fail
  refine HN.out.mono ?_
  rintro e w1 ⟨p, rfl, hd, hb, hk⟩
  have hC : Cf w.heap.size w w1 [(p.b, z0)] [] := Cf.one ⟨hd, (show Below w.heap.size w (w.alloc (.cells #[.string ⟨#[97]⟩, .string ⟨#[]⟩] 9)) by go_grown).trans (hb.mono (by rw [World.size_alloc]; omega)), fun k h => by have := hk k h; rw [World.size_alloc] at this; omega⟩ (Nat.le_refl _)
  have C1 := Lib.hid hC
  clear hd hb hk hC HN
  rw [show p.v = .pointer (some ⟨p.b, 0, none⟩) from rfl]
  generalize p.b = b at C1 ⊢
  go_wp2_with fail
  refine (C_append (i := 0) C1.out rfl 0 ⟨#[98, 99]⟩ (by decide)).mono ?_
  rintro e w2 ⟨rfl, hc, -⟩
  have C2 : Hid (Cf w.heap.size w w2 [(b, z1)] []) := Lib.hid hc
  rw [show ((z0.append 0 (⟨#[98, 99]⟩ : ByteArray).data.toList).1 : Int) = 0 from rfl]
  clear hc C1
  go_wp2_with fail
  refine (C_append (i := 0) C2.out rfl 1 ⟨#[120]⟩ (by decide)).mono ?_
  rintro e w3 ⟨rfl, hc, -⟩
  have C3 : Hid (Cf w.heap.size w w3 [(b, z2)] []) := Lib.hid hc
  rw [show ((z1.append 1 (⟨#[120]⟩ : ByteArray).data.toList).1 : Int) = 0 from rfl]
  clear hc C2
  go_wp2_with fail
  refine (C_waiting (i := 0) C3.out rfl).mono ?_
  rintro e w4 ⟨rfl, hb⟩
  have C4 := Lib.hid (C3.out.down hb)
  rw [y3]
  clear hb C3
  go_wp2_with fail
  refine (C_cut (i := 0) C4.out rfl 0 1).mono ?_
  rintro e w5 ⟨rfl, hc, -⟩
  rw [y4'] at hc
  rw [y4]
  have C5 : Hid (Cf w.heap.size w w5 [(b, z2)] []) := Lib.hid hc
  clear hc C4
  go_wp2_with fail
  refine (C_after (i := 0) C5.out rfl 1 (by decide)).mono ?_
  rintro e w6 ⟨⟨v, rfl, ht⟩, hb⟩
  rw [y5] at ht
  obtain ⟨g, rfl, hg, hgk⟩ := ht
  have C6 := Lib.hid (C5.out.down hb)
  have s0 := hgk.cell 0
  have s1 := hgk.cell 1
  clear hb C5 hg hgk
  go_wp2_with fail
  refine (C_arm (i := 0) C6.out rfl 1 3 (by decide) (by decide)).mono ?_
  rintro e w7 ⟨rfl, hc, -⟩
  rw [y6]
  have C7 : Hid (Cf w.heap.size w w7 [(b, z3)] []) := Lib.hid hc
  clear hc C6 s0 s1
  go_wp2_with fail
  refine (C_append (i := 0) C7.out rfl 0 ⟨#[100]⟩ (by decide)).mono ?_
  rintro e w8 ⟨rfl, hc, -⟩
  have C8 : Hid (Cf w.heap.size w w8 [(b, z4)] []) := Lib.hid hc
  rw [show ((z3.append 0 (⟨#[100]⟩ : ByteArray).data.toList).1 : Int) = 2 from rfl]
  clear hc C7
  go_wp2_with fail
  refine (C_dead (i := 0) C8.out rfl).mono ?_
  rintro e w9 ⟨rfl, rfl⟩
  rw [y8]
  go_wp2_with fail
  refine (C_revive (i := 0) C8.out rfl).mono ?_
  rintro e w10 ⟨rfl, hc, -⟩
  have C9 : Hid (Cf w.heap.size w w10 [(b, z5)] []) := Lib.hid hc
  clear hc C8
  go_wp2_with fail
  refine (C_read (i := 0) C9.out rfl 0).mono ?_
  rintro e w11 ⟨rfl, hb⟩
  rw [y9]
  have C10 := Lib.hid (C9.out.down hb)
  clear hb C9
  go_wp2_with fail
  refine (C_size (i := 0) C10.out rfl 1).mono ?_
  rintro e w12 ⟨rfl, rfl⟩
  rw [y10]
  go_wp2_with fail
  refine (C_size (i := 0) C10.out rfl 2).mono ?_
  rintro e w13 ⟨rfl, rfl⟩
  rw [y11]
  go_wp2_with fail
  go_ret
  exact ⟨rfl, C10.out.below⟩
end Go.Proofs.Ytekagnhablkggaa
