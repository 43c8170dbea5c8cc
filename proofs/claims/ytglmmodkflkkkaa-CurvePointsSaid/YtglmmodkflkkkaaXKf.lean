/- Which points there are, and their bytes; and of which bytes there is a point: the law's walk. No condition but the numbers' size and the bytes' length. -/
import Derived.Test.YtglmmodkflkkkaaXKb
set_option linter.unusedVariables false
set_option linter.unusedSimpArgs false
set_option maxRecDepth 100000
namespace Go.Proofs.Ytglmmodkflkkkaa.Ref
open Go.RowKit Go.Proofs.Ytglmmodkflkkkaa.Digits Limbs Curve

theorem of_both (s : List UInt8) : ∃ (q : Po) (is : Bool), q.ok ∧ Po.ret (Po.of s) = .tuple #[q.v, .int .i64 (if is = true then 0 else 71)] ∧ Po.retR (Po.of s) = .tuple #[q.v, .bool is] := by
  cases h : Po.of s with
  | none => exact ⟨⟨0, 0, false⟩, false, ⟨by decide +kernel, by decide +kernel⟩, rfl, rfl⟩
  | some q => exact ⟨q, true, (bytes_of h).2.2, rfl, rfl⟩
set_option maxHeartbeats 16000000 in
theorem pts_on (px py qx qy : Nat) (pi qi is : Bool) (SS B : ByteArray) (ec : Int) (hec : (ec == 0) = is) (hec2 : (ec == 71) = !is) (HBY : Hid (∀ w, Calls Try.prog 37 #[pn px py pi] w fun e w' => e = .returned (.tuple #[.string B, .int .i64 0]) ∧ Below w.heap.size w w'))
    (HOF : Hid (∀ w, Calls Try.prog 38 #[.string SS] w fun e w' => e = .returned (.tuple #[pn qx qy qi, .int .i64 ec]) ∧ Below w.heap.size w w'))
    (HRO : Hid (∀ w, Calls Try.prog 39 #[.string SS] w fun e w' => e = .returned (.tuple #[pn qx qy qi, .bool is]) ∧ Below w.heap.size w w'))
    (HRN : Hid (∀ w, Calls Try.prog 40 #[pn px py pi] w fun e w' => e = .returned (.bool true) ∧ Below w.heap.size w w'))
    (HON : Hid (∀ w, Calls Try.prog 42 #[pn px py pi] w fun e w' => e = .returned (.bool true) ∧ Below w.heap.size w w'))
    (HRB : Hid (∀ w, Calls Try.prog 43 #[pn px py pi] w fun e w' => e = .returned (.string B) ∧ Below w.heap.size w w'))
    (HEQ : Hid (∀ w, (Op.equalIn 10000 51 (pn qx qy qi) (pn qx qy qi)).run Try.prog w = .ok true w)) (w : World) :
    Calls Try.prog 8 #[pn px py pi, .string SS] w fun r w' => r = .returned (.bool true) ∧ Below w.heap.size w w' := by
  have HAW := Lib.hid awake7_any
  simp only [pn] at HBY HOF HRO HRN HON HRB HEQ ⊢
  go_enter Try.func8, Try.ntmps8
  go_wp2_with fail
  have KP : Hid (Bk 51 (w.alloc (.cells #[.int .u64 (lb px 0 : Nat), .int .u64 (lb px 1 : Nat), .int .u64 (lb px 2 : Nat), .int .u64 (lb px 3 : Nat), .int .u64 (lb py 0 : Nat), .int .u64 (lb py 1 : Nat), .int .u64 (lb py 2 : Nat), .int .u64 (lb py 3 : Nat), .bool pi] 51)) w.heap.size #[.int .u64 (lb px 0 : Nat), .int .u64 (lb px 1 : Nat), .int .u64 (lb px 2 : Nat), .int .u64 (lb px 3 : Nat), .int .u64 (lb py 0 : Nat), .int .u64 (lb py 1 : Nat), .int .u64 (lb py 2 : Nat), .int .u64 (lb py 3 : Nat), .bool pi]) := Lib.hid (Bk.new rfl)
  have HB : Hid (Below w.heap.size w (w.alloc (.cells #[.int .u64 (lb px 0 : Nat), .int .u64 (lb px 1 : Nat), .int .u64 (lb px 2 : Nat), .int .u64 (lb px 3 : Nat), .int .u64 (lb py 0 : Nat), .int .u64 (lb py 1 : Nat), .int .u64 (lb py 2 : Nat), .int .u64 (lb py 3 : Nat), .bool pi] 51))) := Lib.hid (by go_grown)
  generalize (w.alloc (.cells #[.int .u64 (lb px 0 : Nat), .int .u64 (lb px 1 : Nat), .int .u64 (lb px 2 : Nat), .int .u64 (lb px 3 : Nat), .int .u64 (lb py 0 : Nat), .int .u64 (lb py 1 : Nat), .int .u64 (lb py 2 : Nat), .int .u64 (lb py 3 : Nat), .bool pi] 51)) = w0 at KP HB ⊢
  obtain ⟨⟨a0, a1, a2, a3⟩, ⟨a4, a5, a6, a7⟩, a8⟩ := KP.out.cells9
  go_wp2_with fail
  clear a0 a1 a2 a3 a4 a5 a6 a7 a8
  refine (keep w.heap.size w (HBY.out _) HB.out (Nat.le_refl _)).mono ?_
  rintro e w1 ⟨rfl, hb, hk⟩
  replace KP := Lib.hid (KP.out.below hk)
  replace HB := Lib.hid hb
  clear hb hk
  obtain ⟨⟨a0, a1, a2, a3⟩, ⟨a4, a5, a6, a7⟩, a8⟩ := KP.out.cells9
  go_wp2_with fail
  clear a0 a1 a2 a3 a4 a5 a6 a7 a8
  refine (keep w.heap.size w (HOF.out _) HB.out (Nat.le_refl _)).mono ?_
  rintro e w2 ⟨rfl, hb, hk⟩
  replace KP := Lib.hid (KP.out.below hk)
  replace HB := Lib.hid hb
  clear hb hk
  obtain ⟨⟨a0, a1, a2, a3⟩, ⟨a4, a5, a6, a7⟩, a8⟩ := KP.out.cells9
  go_wp2_with fail
  clear a0 a1 a2 a3 a4 a5 a6 a7 a8
  have KQ : Hid (Bk 51 (w2.alloc (.cells #[.int .u64 (lb qx 0 : Nat), .int .u64 (lb qx 1 : Nat), .int .u64 (lb qx 2 : Nat), .int .u64 (lb qx 3 : Nat), .int .u64 (lb qy 0 : Nat), .int .u64 (lb qy 1 : Nat), .int .u64 (lb qy 2 : Nat), .int .u64 (lb qy 3 : Nat), .bool qi] 51)) w2.heap.size #[.int .u64 (lb qx 0 : Nat), .int .u64 (lb qx 1 : Nat), .int .u64 (lb qx 2 : Nat), .int .u64 (lb qx 3 : Nat), .int .u64 (lb qy 0 : Nat), .int .u64 (lb qy 1 : Nat), .int .u64 (lb qy 2 : Nat), .int .u64 (lb qy 3 : Nat), .bool qi]) := Lib.hid (Bk.new rfl)
  have hal := al_below w2 (.cells #[.int .u64 (lb qx 0 : Nat), .int .u64 (lb qx 1 : Nat), .int .u64 (lb qx 2 : Nat), .int .u64 (lb qx 3 : Nat), .int .u64 (lb qy 0 : Nat), .int .u64 (lb qy 1 : Nat), .int .u64 (lb qy 2 : Nat), .int .u64 (lb qy 3 : Nat), .bool qi] 51)
  replace KP := Lib.hid (KP.out.below hal)
  replace HB := Lib.hid (HB.out.trans (hal.mono HB.out.size))
  clear hal
  obtain ⟨gq, hg⟩ : ∃ g, g = w2.heap.size := ⟨_, rfl⟩
  rw [← hg] at KQ ⊢
  clear hg
  generalize (w2.alloc (.cells #[.int .u64 (lb qx 0 : Nat), .int .u64 (lb qx 1 : Nat), .int .u64 (lb qx 2 : Nat), .int .u64 (lb qx 3 : Nat), .int .u64 (lb qy 0 : Nat), .int .u64 (lb qy 1 : Nat), .int .u64 (lb qy 2 : Nat), .int .u64 (lb qy 3 : Nat), .bool qi] 51)) = w2x at KP HB KQ  ⊢
  refine (keep w.heap.size w (HRO.out _) HB.out (Nat.le_refl _)).mono ?_
  rintro e w3 ⟨rfl, hb, hk⟩
  replace KP := Lib.hid (KP.out.below hk)
  replace KQ := Lib.hid (KQ.out.below hk)
  replace HB := Lib.hid hb
  clear hb hk
  obtain ⟨⟨a0, a1, a2, a3⟩, ⟨a4, a5, a6, a7⟩, a8⟩ := KP.out.cellsA9
  go_wp2_with fail
  clear a0 a1 a2 a3 a4 a5 a6 a7 a8
  have KR : Hid (Bk 51 (w3.alloc (.cells #[.int .u64 (lb qx 0 : Nat), .int .u64 (lb qx 1 : Nat), .int .u64 (lb qx 2 : Nat), .int .u64 (lb qx 3 : Nat), .int .u64 (lb qy 0 : Nat), .int .u64 (lb qy 1 : Nat), .int .u64 (lb qy 2 : Nat), .int .u64 (lb qy 3 : Nat), .bool qi] 51)) w3.heap.size #[.int .u64 (lb qx 0 : Nat), .int .u64 (lb qx 1 : Nat), .int .u64 (lb qx 2 : Nat), .int .u64 (lb qx 3 : Nat), .int .u64 (lb qy 0 : Nat), .int .u64 (lb qy 1 : Nat), .int .u64 (lb qy 2 : Nat), .int .u64 (lb qy 3 : Nat), .bool qi]) := Lib.hid (Bk.new rfl)
  have hal := al_below w3 (.cells #[.int .u64 (lb qx 0 : Nat), .int .u64 (lb qx 1 : Nat), .int .u64 (lb qx 2 : Nat), .int .u64 (lb qx 3 : Nat), .int .u64 (lb qy 0 : Nat), .int .u64 (lb qy 1 : Nat), .int .u64 (lb qy 2 : Nat), .int .u64 (lb qy 3 : Nat), .bool qi] 51)
  replace KP := Lib.hid (KP.out.below hal)
  replace KQ := Lib.hid (KQ.out.below hal)
  replace HB := Lib.hid (HB.out.trans (hal.mono HB.out.size))
  clear hal
  obtain ⟨gr, hg⟩ : ∃ g, g = w3.heap.size := ⟨_, rfl⟩
  rw [← hg] at KR ⊢
  clear hg
  generalize (w3.alloc (.cells #[.int .u64 (lb qx 0 : Nat), .int .u64 (lb qx 1 : Nat), .int .u64 (lb qx 2 : Nat), .int .u64 (lb qx 3 : Nat), .int .u64 (lb qy 0 : Nat), .int .u64 (lb qy 1 : Nat), .int .u64 (lb qy 2 : Nat), .int .u64 (lb qy 3 : Nat), .bool qi] 51)) = w3x at KP HB KR KQ ⊢
  refine (keep w.heap.size w (HRN.out _) HB.out (Nat.le_refl _)).mono ?_
  rintro e w4 ⟨rfl, hb, hk⟩
  replace KP := Lib.hid (KP.out.below hk)
  replace KQ := Lib.hid (KQ.out.below hk)
  replace KR := Lib.hid (KR.out.below hk)
  replace HB := Lib.hid hb
  clear hb hk
  obtain ⟨⟨a0, a1, a2, a3⟩, ⟨a4, a5, a6, a7⟩, a8⟩ := KP.out.cells9
  go_wp2_with fail
  clear a0 a1 a2 a3 a4 a5 a6 a7 a8
  refine (keep w.heap.size w (HAW.out _) HB.out (Nat.le_refl _)).mono ?_
  rintro e w5 ⟨rfl, hb, hk⟩
  replace KP := Lib.hid (KP.out.below hk)
  replace KQ := Lib.hid (KQ.out.below hk)
  replace KR := Lib.hid (KR.out.below hk)
  replace HB := Lib.hid hb
  clear hb hk
  obtain ⟨⟨a0, a1, a2, a3⟩, ⟨a4, a5, a6, a7⟩, a8⟩ := KP.out.cells9
  go_wp2_with fail
  clear a0 a1 a2 a3 a4 a5 a6 a7 a8
  refine (keep w.heap.size w (HON.out _) HB.out (Nat.le_refl _)).mono ?_
  rintro e w6 ⟨rfl, hb, hk⟩
  replace KP := Lib.hid (KP.out.below hk)
  replace KQ := Lib.hid (KQ.out.below hk)
  replace KR := Lib.hid (KR.out.below hk)
  replace HB := Lib.hid hb
  clear hb hk
  obtain ⟨⟨a0, a1, a2, a3⟩, ⟨a4, a5, a6, a7⟩, a8⟩ := KP.out.cells9
  go_wp2_with fail
  clear a0 a1 a2 a3 a4 a5 a6 a7 a8
  have hQ := HEQ.out
  refine (keep w.heap.size w (HRB.out _) HB.out (Nat.le_refl _)).mono ?_
  rintro e w7 ⟨rfl, hb, hk⟩
  replace KP := Lib.hid (KP.out.below hk)
  replace KQ := Lib.hid (KQ.out.below hk)
  replace KR := Lib.hid (KR.out.below hk)
  replace HB := Lib.hid hb
  clear hb hk
  obtain ⟨⟨a0, a1, a2, a3⟩, ⟨a4, a5, a6, a7⟩, a8⟩ := KP.out.cells9
  obtain ⟨⟨b0, b1, b2, b3⟩, ⟨b4, b5, b6, b7⟩, b8⟩ := KQ.out.cells9
  obtain ⟨⟨c0, c1, c2, c3⟩, ⟨c4, c5, c6, c7⟩, c8⟩ := KR.out.cells9
  go_wp2_with fail
  all_goals (go_ret; exact ⟨rfl, HB.out⟩)
set_option maxHeartbeats 16000000 in
theorem pts_off (px py qx qy : Nat) (pi qi is : Bool) (SS B : ByteArray) (ec : Int) (hec : (ec == 0) = is) (hec2 : (ec == 71) = !is) (HBY : Hid (∀ w, Calls Try.prog 37 #[pn px py pi] w fun e w' => e = .returned (.tuple #[.string ⟨#[]⟩, .int .i64 70]) ∧ Below w.heap.size w w'))
    (HOF : Hid (∀ w, Calls Try.prog 38 #[.string SS] w fun e w' => e = .returned (.tuple #[pn qx qy qi, .int .i64 ec]) ∧ Below w.heap.size w w'))
    (HRO : Hid (∀ w, Calls Try.prog 39 #[.string SS] w fun e w' => e = .returned (.tuple #[pn qx qy qi, .bool is]) ∧ Below w.heap.size w w'))
    (HRN : Hid (∀ w, Calls Try.prog 40 #[pn px py pi] w fun e w' => e = .returned (.bool false) ∧ Below w.heap.size w w'))
    (HON : Hid (∀ w, Calls Try.prog 42 #[pn px py pi] w fun e w' => e = .returned (.bool false) ∧ Below w.heap.size w w'))
    (HRB : Hid (∀ w, Calls Try.prog 43 #[pn px py pi] w fun e w' => e = .returned (.string B) ∧ Below w.heap.size w w'))
    (HEQ : Hid (∀ w, (Op.equalIn 10000 51 (pn qx qy qi) (pn qx qy qi)).run Try.prog w = .ok true w)) (w : World) :
    Calls Try.prog 8 #[pn px py pi, .string SS] w fun r w' => r = .returned (.bool true) ∧ Below w.heap.size w w' := by
  have HAW := Lib.hid awake7_any
  simp only [pn] at HBY HOF HRO HRN HON HRB HEQ ⊢
  go_enter Try.func8, Try.ntmps8
  go_wp2_with fail
  have KP : Hid (Bk 51 (w.alloc (.cells #[.int .u64 (lb px 0 : Nat), .int .u64 (lb px 1 : Nat), .int .u64 (lb px 2 : Nat), .int .u64 (lb px 3 : Nat), .int .u64 (lb py 0 : Nat), .int .u64 (lb py 1 : Nat), .int .u64 (lb py 2 : Nat), .int .u64 (lb py 3 : Nat), .bool pi] 51)) w.heap.size #[.int .u64 (lb px 0 : Nat), .int .u64 (lb px 1 : Nat), .int .u64 (lb px 2 : Nat), .int .u64 (lb px 3 : Nat), .int .u64 (lb py 0 : Nat), .int .u64 (lb py 1 : Nat), .int .u64 (lb py 2 : Nat), .int .u64 (lb py 3 : Nat), .bool pi]) := Lib.hid (Bk.new rfl)
  have HB : Hid (Below w.heap.size w (w.alloc (.cells #[.int .u64 (lb px 0 : Nat), .int .u64 (lb px 1 : Nat), .int .u64 (lb px 2 : Nat), .int .u64 (lb px 3 : Nat), .int .u64 (lb py 0 : Nat), .int .u64 (lb py 1 : Nat), .int .u64 (lb py 2 : Nat), .int .u64 (lb py 3 : Nat), .bool pi] 51))) := Lib.hid (by go_grown)
  generalize (w.alloc (.cells #[.int .u64 (lb px 0 : Nat), .int .u64 (lb px 1 : Nat), .int .u64 (lb px 2 : Nat), .int .u64 (lb px 3 : Nat), .int .u64 (lb py 0 : Nat), .int .u64 (lb py 1 : Nat), .int .u64 (lb py 2 : Nat), .int .u64 (lb py 3 : Nat), .bool pi] 51)) = w0 at KP HB ⊢
  obtain ⟨⟨a0, a1, a2, a3⟩, ⟨a4, a5, a6, a7⟩, a8⟩ := KP.out.cells9
  go_wp2_with fail
  clear a0 a1 a2 a3 a4 a5 a6 a7 a8
  refine (keep w.heap.size w (HBY.out _) HB.out (Nat.le_refl _)).mono ?_
  rintro e w1 ⟨rfl, hb, hk⟩
  replace KP := Lib.hid (KP.out.below hk)
  replace HB := Lib.hid hb
  clear hb hk
  obtain ⟨⟨a0, a1, a2, a3⟩, ⟨a4, a5, a6, a7⟩, a8⟩ := KP.out.cells9
  go_wp2_with fail
  clear a0 a1 a2 a3 a4 a5 a6 a7 a8
  refine (keep w.heap.size w (HOF.out _) HB.out (Nat.le_refl _)).mono ?_
  rintro e w2 ⟨rfl, hb, hk⟩
  replace KP := Lib.hid (KP.out.below hk)
  replace HB := Lib.hid hb
  clear hb hk
  obtain ⟨⟨a0, a1, a2, a3⟩, ⟨a4, a5, a6, a7⟩, a8⟩ := KP.out.cells9
  go_wp2_with fail
  clear a0 a1 a2 a3 a4 a5 a6 a7 a8
  have KQ : Hid (Bk 51 (w2.alloc (.cells #[.int .u64 (lb qx 0 : Nat), .int .u64 (lb qx 1 : Nat), .int .u64 (lb qx 2 : Nat), .int .u64 (lb qx 3 : Nat), .int .u64 (lb qy 0 : Nat), .int .u64 (lb qy 1 : Nat), .int .u64 (lb qy 2 : Nat), .int .u64 (lb qy 3 : Nat), .bool qi] 51)) w2.heap.size #[.int .u64 (lb qx 0 : Nat), .int .u64 (lb qx 1 : Nat), .int .u64 (lb qx 2 : Nat), .int .u64 (lb qx 3 : Nat), .int .u64 (lb qy 0 : Nat), .int .u64 (lb qy 1 : Nat), .int .u64 (lb qy 2 : Nat), .int .u64 (lb qy 3 : Nat), .bool qi]) := Lib.hid (Bk.new rfl)
  have hal := al_below w2 (.cells #[.int .u64 (lb qx 0 : Nat), .int .u64 (lb qx 1 : Nat), .int .u64 (lb qx 2 : Nat), .int .u64 (lb qx 3 : Nat), .int .u64 (lb qy 0 : Nat), .int .u64 (lb qy 1 : Nat), .int .u64 (lb qy 2 : Nat), .int .u64 (lb qy 3 : Nat), .bool qi] 51)
  replace KP := Lib.hid (KP.out.below hal)
  replace HB := Lib.hid (HB.out.trans (hal.mono HB.out.size))
  clear hal
  obtain ⟨gq, hg⟩ : ∃ g, g = w2.heap.size := ⟨_, rfl⟩
  rw [← hg] at KQ ⊢
  clear hg
  generalize (w2.alloc (.cells #[.int .u64 (lb qx 0 : Nat), .int .u64 (lb qx 1 : Nat), .int .u64 (lb qx 2 : Nat), .int .u64 (lb qx 3 : Nat), .int .u64 (lb qy 0 : Nat), .int .u64 (lb qy 1 : Nat), .int .u64 (lb qy 2 : Nat), .int .u64 (lb qy 3 : Nat), .bool qi] 51)) = w2x at KP HB KQ  ⊢
  refine (keep w.heap.size w (HRO.out _) HB.out (Nat.le_refl _)).mono ?_
  rintro e w3 ⟨rfl, hb, hk⟩
  replace KP := Lib.hid (KP.out.below hk)
  replace KQ := Lib.hid (KQ.out.below hk)
  replace HB := Lib.hid hb
  clear hb hk
  obtain ⟨⟨a0, a1, a2, a3⟩, ⟨a4, a5, a6, a7⟩, a8⟩ := KP.out.cellsA9
  go_wp2_with fail
  clear a0 a1 a2 a3 a4 a5 a6 a7 a8
  have KR : Hid (Bk 51 (w3.alloc (.cells #[.int .u64 (lb qx 0 : Nat), .int .u64 (lb qx 1 : Nat), .int .u64 (lb qx 2 : Nat), .int .u64 (lb qx 3 : Nat), .int .u64 (lb qy 0 : Nat), .int .u64 (lb qy 1 : Nat), .int .u64 (lb qy 2 : Nat), .int .u64 (lb qy 3 : Nat), .bool qi] 51)) w3.heap.size #[.int .u64 (lb qx 0 : Nat), .int .u64 (lb qx 1 : Nat), .int .u64 (lb qx 2 : Nat), .int .u64 (lb qx 3 : Nat), .int .u64 (lb qy 0 : Nat), .int .u64 (lb qy 1 : Nat), .int .u64 (lb qy 2 : Nat), .int .u64 (lb qy 3 : Nat), .bool qi]) := Lib.hid (Bk.new rfl)
  have hal := al_below w3 (.cells #[.int .u64 (lb qx 0 : Nat), .int .u64 (lb qx 1 : Nat), .int .u64 (lb qx 2 : Nat), .int .u64 (lb qx 3 : Nat), .int .u64 (lb qy 0 : Nat), .int .u64 (lb qy 1 : Nat), .int .u64 (lb qy 2 : Nat), .int .u64 (lb qy 3 : Nat), .bool qi] 51)
  replace KP := Lib.hid (KP.out.below hal)
  replace KQ := Lib.hid (KQ.out.below hal)
  replace HB := Lib.hid (HB.out.trans (hal.mono HB.out.size))
  clear hal
  obtain ⟨gr, hg⟩ : ∃ g, g = w3.heap.size := ⟨_, rfl⟩
  rw [← hg] at KR ⊢
  clear hg
  generalize (w3.alloc (.cells #[.int .u64 (lb qx 0 : Nat), .int .u64 (lb qx 1 : Nat), .int .u64 (lb qx 2 : Nat), .int .u64 (lb qx 3 : Nat), .int .u64 (lb qy 0 : Nat), .int .u64 (lb qy 1 : Nat), .int .u64 (lb qy 2 : Nat), .int .u64 (lb qy 3 : Nat), .bool qi] 51)) = w3x at KP HB KR KQ ⊢
  refine (keep w.heap.size w (HRN.out _) HB.out (Nat.le_refl _)).mono ?_
  rintro e w4 ⟨rfl, hb, hk⟩
  replace KP := Lib.hid (KP.out.below hk)
  replace KQ := Lib.hid (KQ.out.below hk)
  replace KR := Lib.hid (KR.out.below hk)
  replace HB := Lib.hid hb
  clear hb hk
  obtain ⟨⟨a0, a1, a2, a3⟩, ⟨a4, a5, a6, a7⟩, a8⟩ := KP.out.cells9
  go_wp2_with fail
  clear a0 a1 a2 a3 a4 a5 a6 a7 a8
  refine (keep w.heap.size w (HAW.out _) HB.out (Nat.le_refl _)).mono ?_
  rintro e w5 ⟨rfl, hb, hk⟩
  replace KP := Lib.hid (KP.out.below hk)
  replace KQ := Lib.hid (KQ.out.below hk)
  replace KR := Lib.hid (KR.out.below hk)
  replace HB := Lib.hid hb
  clear hb hk
  obtain ⟨⟨a0, a1, a2, a3⟩, ⟨a4, a5, a6, a7⟩, a8⟩ := KP.out.cells9
  go_wp2_with fail
  clear a0 a1 a2 a3 a4 a5 a6 a7 a8
  have hQ := HEQ.out
  refine (keep w.heap.size w (HON.out _) HB.out (Nat.le_refl _)).mono ?_
  rintro e w6 ⟨rfl, hb, hk⟩
  replace KP := Lib.hid (KP.out.below hk)
  replace KQ := Lib.hid (KQ.out.below hk)
  replace KR := Lib.hid (KR.out.below hk)
  replace HB := Lib.hid hb
  clear hb hk
  obtain ⟨⟨a0, a1, a2, a3⟩, ⟨a4, a5, a6, a7⟩, a8⟩ := KP.out.cells9
  obtain ⟨⟨b0, b1, b2, b3⟩, ⟨b4, b5, b6, b7⟩, b8⟩ := KQ.out.cells9
  obtain ⟨⟨c0, c1, c2, c3⟩, ⟨c4, c5, c6, c7⟩, c8⟩ := KR.out.cells9
  go_wp2_with fail
  all_goals (go_ret; exact ⟨rfl, HB.out⟩)
set_option maxHeartbeats 16000000 in
theorem curvepoints_walk (p : Po) (hp : p.ok) (s : List UInt8) (hs : s.length ≤ 140737488351232) (w : World) :
    Calls Try.prog 8 #[p.v, .string ⟨s.toArray⟩] w fun r w' => r = .returned (.bool true) ∧ Below w.heap.size w w' := by
  obtain ⟨q, is, hq, h1, h2⟩ := of_both s
  have HOF := Lib.hid (of_c s hs)
  have HRO := Lib.hid (rof_any s hs)
  rw [h1] at HOF
  rw [h2] at HRO
  have HRN := Lib.hid (ron_any p hp)
  have HON := Lib.hid (onj hp)
  have HBY := Lib.hid (bytesp hp)
  have HRB := Lib.hid (rbytes7_any p)
  have HEQ := Lib.hid (eq_same hq)
  have he1 : (((if is = true then 0 else 71 : Int)) == 0) = is := by cases is <;> rfl
  have he2 : (((if is = true then 0 else 71 : Int)) == 71) = !is := by cases is <;> rfl
  cases hon : p.on
  · simp only [hon] at HRN HON HBY
    exact pts_off p.x p.y q.x q.y p.i q.i is _ _ _ he1 he2 HBY HOF HRO HRN HON HRB HEQ w
  · simp only [hon] at HRN HON HBY
    exact pts_on p.x p.y q.x q.y p.i q.i is _ _ _ he1 he2 HBY HOF HRO HRN HON HRB HEQ w
end Go.Proofs.Ytglmmodkflkkkaa.Ref
