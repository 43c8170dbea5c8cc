/- The point of bytes: the walk. No condition but the length of the bytes. -/
import Derived.Test.YtglmmodkflkkkaaCm
set_option linter.unusedVariables false
set_option linter.unusedSimpArgs false
set_option maxRecDepth 100000
namespace Go.Proofs.Ytglmmodkflkkkaa
open Go.RowKit Go.Sort Limbs

theorem Bk.cellsB9 {t : TypeId} {w : World} {g : Nat} {c0 c1 c2 c3 c4 c5 c6 c7 c8 : Value} (h : Bk t w g #[c0, c1, c2, c3, c4, c5, c6, c7, c8]) : ((∀ o o2, ((w.alloc o).alloc o2).cell? ⟨g, 0, none⟩ = some c0) ∧ (∀ o o2, ((w.alloc o).alloc o2).cell? ⟨g, 1, none⟩ = some c1) ∧ (∀ o o2, ((w.alloc o).alloc o2).cell? ⟨g, 2, none⟩ = some c2) ∧ (∀ o o2, ((w.alloc o).alloc o2).cell? ⟨g, 3, none⟩ = some c3)) ∧ ((∀ o o2, ((w.alloc o).alloc o2).cell? ⟨g, 4, none⟩ = some c4) ∧ (∀ o o2, ((w.alloc o).alloc o2).cell? ⟨g, 5, none⟩ = some c5) ∧ (∀ o o2, ((w.alloc o).alloc o2).cell? ⟨g, 6, none⟩ = some c6) ∧ (∀ o o2, ((w.alloc o).alloc o2).cell? ⟨g, 7, none⟩ = some c7)) ∧ ((∀ o o2, ((w.alloc o).alloc o2).cell? ⟨g, 8, none⟩ = some c8)) :=
  ⟨⟨fun _ _ => h.alloc.alloc.cell 0, fun _ _ => h.alloc.alloc.cell 1, fun _ _ => h.alloc.alloc.cell 2, fun _ _ => h.alloc.alloc.cell 3⟩, ⟨fun _ _ => h.alloc.alloc.cell 4, fun _ _ => h.alloc.alloc.cell 5, fun _ _ => h.alloc.alloc.cell 6, fun _ _ => h.alloc.alloc.cell 7⟩, fun _ _ => h.alloc.alloc.cell 8⟩
theorem Bk.frosB9 {t : TypeId} {w : World} {g : Nat} {cs : Array Value} (h : Bk t w g cs) : ((∀ o o2, ((w.alloc o).alloc o2).frozen? ⟨g, 0, none⟩ = false) ∧ (∀ o o2, ((w.alloc o).alloc o2).frozen? ⟨g, 1, none⟩ = false) ∧ (∀ o o2, ((w.alloc o).alloc o2).frozen? ⟨g, 2, none⟩ = false) ∧ (∀ o o2, ((w.alloc o).alloc o2).frozen? ⟨g, 3, none⟩ = false)) ∧ ((∀ o o2, ((w.alloc o).alloc o2).frozen? ⟨g, 4, none⟩ = false) ∧ (∀ o o2, ((w.alloc o).alloc o2).frozen? ⟨g, 5, none⟩ = false) ∧ (∀ o o2, ((w.alloc o).alloc o2).frozen? ⟨g, 6, none⟩ = false) ∧ (∀ o o2, ((w.alloc o).alloc o2).frozen? ⟨g, 7, none⟩ = false)) ∧ ((∀ o o2, ((w.alloc o).alloc o2).frozen? ⟨g, 8, none⟩ = false)) :=
  ⟨⟨fun _ _ => h.alloc.alloc.fro 0, fun _ _ => h.alloc.alloc.fro 1, fun _ _ => h.alloc.alloc.fro 2, fun _ _ => h.alloc.alloc.fro 3⟩, ⟨fun _ _ => h.alloc.alloc.fro 4, fun _ _ => h.alloc.alloc.fro 5, fun _ _ => h.alloc.alloc.fro 6, fun _ _ => h.alloc.alloc.fro 7⟩, fun _ _ => h.alloc.alloc.fro 8⟩
theorem ext_ba (l : List UInt8) (a n : Nat) : (⟨l.toArray⟩ : ByteArray).extract a (a + n) = ⟨((l.drop a).take n).toArray⟩ := by
  apply ByteArray.ext
  simp [ByteArray.data_extract, List.extract_eq_take_drop]
set_option maxHeartbeats 8000000 in
theorem of_far (w : World) : Calls Try.prog 38 #[.string ⟨#[0]⟩] w fun e w' => e = .returned (.tuple #[pn 0 0 true, .int .i64 0]) ∧ Below w.heap.size w w' := by
  have f0 : ((⟨#[0]⟩ : ByteArray).toList == [0]) = true := by decide +kernel
  go_enter Try.func38, Try.ntmps38
  go_wp2_with fail
  refine ret_cell51e rfl w.heap.size 0 0 true (.int .i64 0) rfl rfl (Bk.new rfl) rfl ⟨rfl, ?_⟩
  go_grown
set_option maxHeartbeats 8000000 in
theorem of_len (S : ByteArray) (f0 : (S.toList == [0]) = false) (f1 : (((S.size : Nat) : Int) != 65) = true) (w : World) : Calls Try.prog 38 #[.string S] w fun e w' => e = .returned (.tuple #[pn 0 0 false, .int .i64 71]) ∧ Below w.heap.size w w' := by
  go_enter Try.func38, Try.ntmps38
  go_wp2_with fail
  refine ret_cell51e rfl w.heap.size 0 0 false (.int .i64 71) rfl rfl (Bk.new rfl) rfl ⟨rfl, ?_⟩
  go_grown
set_option maxHeartbeats 8000000 in
theorem of_head (S : ByteArray) (f0 : (S.toList == [0]) = false) (hsz : S.size = 65) (f2 : ((S.extract 0 1).toList == [4]) = false) (w : World) : Calls Try.prog 38 #[.string S] w fun e w' => e = .returned (.tuple #[pn 0 0 false, .int .i64 71]) ∧ Below w.heap.size w w' := by
  go_enter Try.func38, Try.ntmps38
  go_wp2_with fail
  refine ret_cell51e rfl w.heap.size 0 0 false (.int .i64 71) rfl rfl (Bk.new rfl) rfl ⟨rfl, ?_⟩
  go_grown
set_option maxHeartbeats 16000000 in
theorem of_bad (S T XB YB : ByteArray) (x y : Nat) (ex ey : Int) (f0 : (S.toList == [0]) = false) (hsz : S.size = 65) (f2 : ((S.extract 0 1).toList == [4]) = true)
  (e1 : S.extract 1 65 = T) (hsT : T.size = 64) (e2 : T.extract 0 32 = XB) (e3 : T.extract 32 64 = YB)
  (HX : Hid (∀ w, Calls Try.prog 31 #[.int .i64 0, .string XB] w fun e w' => e = .returned (.tuple #[nv x, .int .i64 ex]) ∧ Below w.heap.size w w'))
  (HY : Hid (∀ w, Calls Try.prog 31 #[.int .i64 0, .string YB] w fun e w' => e = .returned (.tuple #[nv y, .int .i64 ey]) ∧ Below w.heap.size w w'))
  (hb : (ex != 0) = true ∨ ((ex != 0) = false ∧ (ey != 0) = true)) (w : World) : Calls Try.prog 38 #[.string S] w fun e w' => e = .returned (.tuple #[pn 0 0 false, .int .i64 71]) ∧ Below w.heap.size w w' := by
  simp only [nv, num] at HX HY
  go_enter Try.func38, Try.ntmps38
  go_wp2_with fail
  refine (keep w.heap.size w (HX.out _) (by go_grown) (Nat.le_refl _)).mono ?_
  rintro e w1 ⟨rfl, hb1, hk⟩
  have KZ : Hid (Bk 51 w1 w.heap.size #[.int .u64 0, .int .u64 0, .int .u64 0, .int .u64 0, .int .u64 0, .int .u64 0, .int .u64 0, .int .u64 0, .bool false]) := Lib.hid (Bk.below (Bk.new rfl) hk)
  have HB := Lib.hid hb1
  clear hk hb1 HX
  go_wp2_with fail
  refine (keep w.heap.size w (HY.out _) (by have hb := HB.out; have hs := hb.size; go_grown) (Nat.le_refl _)).mono ?_
  rintro e w2 ⟨rfl, hb2, hk⟩
  have KZ2 := Lib.hid (Bk.below (Bk.alloc KZ.out) hk)
  have KX2 : Hid (Bk 24 w2 w1.heap.size #[.int .u64 (lb x 0 : Nat), .int .u64 (lb x 1 : Nat), .int .u64 (lb x 2 : Nat), .int .u64 (lb x 3 : Nat)]) := Lib.hid (Bk.below (Bk.new rfl) hk)
  have HB2 := Lib.hid hb2
  clear hk hb2 HY KZ HB
  generalize w1.heap.size = gx at KX2 ⊢
  have KZ3 : Hid (Bk 51 ((w2.alloc (.cells #[.int .u64 (lb y 0 : Nat), .int .u64 (lb y 1 : Nat), .int .u64 (lb y 2 : Nat), .int .u64 (lb y 3 : Nat)] 24)).alloc (.cells #[.int .u64 (lb x 0 : Nat), .int .u64 (lb x 1 : Nat), .int .u64 (lb x 2 : Nat), .int .u64 (lb x 3 : Nat), .int .u64 (lb y 0 : Nat), .int .u64 (lb y 1 : Nat), .int .u64 (lb y 2 : Nat), .int .u64 (lb y 3 : Nat), .bool false] 51)) w.heap.size #[.int .u64 0, .int .u64 0, .int .u64 0, .int .u64 0, .int .u64 0, .int .u64 0, .int .u64 0, .int .u64 0, .bool false]) := Lib.hid (Bk.alloc (Bk.alloc KZ2.out))
  have HB3 : Hid (Below w.heap.size w ((w2.alloc (.cells #[.int .u64 (lb y 0 : Nat), .int .u64 (lb y 1 : Nat), .int .u64 (lb y 2 : Nat), .int .u64 (lb y 3 : Nat)] 24)).alloc (.cells #[.int .u64 (lb x 0 : Nat), .int .u64 (lb x 1 : Nat), .int .u64 (lb x 2 : Nat), .int .u64 (lb x 3 : Nat), .int .u64 (lb y 0 : Nat), .int .u64 (lb y 1 : Nat), .int .u64 (lb y 2 : Nat), .int .u64 (lb y 3 : Nat), .bool false] 51))) := Lib.hid (by have hb := HB2.out; have hs := hb.size; go_grown)
  obtain ⟨x0, x1, x2, x3⟩ := KX2.out.cellsA
  rcases hb with hb | ⟨hb, hb'⟩
  all_goals
    obtain ⟨⟨f0, f1, f2, f3⟩, ⟨f4, f5, f6, f7⟩, f8⟩ := KZ2.out.frosB9
    obtain ⟨⟨c0, c1, c2, c3⟩, ⟨c4, c5, c6, c7⟩, c8⟩ := KZ2.out.cellsB9
    go_wp2_with fail
    refine ret_cell51e rfl w.heap.size 0 0 false (.int .i64 71) rfl rfl (Bk.put9 KZ3.out) rfl ⟨rfl, ?_⟩
    have hb := HB3.out
    go_grown
set_option maxHeartbeats 16000000 in
theorem of_on (S T XB YB : ByteArray) (x y : Nat) (f0 : (S.toList == [0]) = false) (hsz : S.size = 65) (f2 : ((S.extract 0 1).toList == [4]) = true)
  (e1 : S.extract 1 65 = T) (hsT : T.size = 64) (e2 : T.extract 0 32 = XB) (e3 : T.extract 32 64 = YB)
  (HX : Hid (∀ w, Calls Try.prog 31 #[.int .i64 0, .string XB] w fun e w' => e = .returned (.tuple #[nv x, .int .i64 0]) ∧ Below w.heap.size w w'))
  (HY : Hid (∀ w, Calls Try.prog 31 #[.int .i64 0, .string YB] w fun e w' => e = .returned (.tuple #[nv y, .int .i64 0]) ∧ Below w.heap.size w w'))
  (hx : x < W256) (hy : y < W256) (w : World) : Calls Try.prog 38 #[.string S] w fun e w' => e = .returned (if (Po.mk x y false).on = true then .tuple #[pn x y false, .int .i64 0] else .tuple #[pn 0 0 false, .int .i64 71]) ∧ Below w.heap.size w w' := by
  have HO := Lib.hid (onj (p := ⟨x, y, false⟩) ⟨hx, hy⟩)
  clear hx hy
  simp only [nv, num, Po.v, pn] at HX HY HO ⊢
  obtain ⟨on, hon⟩ : ∃ z, z = (Po.mk x y false).on := ⟨_, rfl⟩
  rw [← hon] at HO ⊢
  clear hon
  go_enter Try.func38, Try.ntmps38
  go_wp2_with fail
  refine (keep w.heap.size w (HX.out _) (by go_grown) (Nat.le_refl _)).mono ?_
  rintro e w1 ⟨rfl, hb1, hk⟩
  have KZ : Hid (Bk 51 w1 w.heap.size #[.int .u64 0, .int .u64 0, .int .u64 0, .int .u64 0, .int .u64 0, .int .u64 0, .int .u64 0, .int .u64 0, .bool false]) := Lib.hid (Bk.below (Bk.new rfl) hk)
  have HB := Lib.hid hb1
  clear hk hb1 HX
  go_wp2_with fail
  refine (keep w.heap.size w (HY.out _) (by have hb := HB.out; have hs := hb.size; go_grown) (Nat.le_refl _)).mono ?_
  rintro e w2 ⟨rfl, hb2, hk⟩
  have KZ2 := Lib.hid (Bk.below (Bk.alloc KZ.out) hk)
  have KX2 : Hid (Bk 24 w2 w1.heap.size #[.int .u64 (lb x 0 : Nat), .int .u64 (lb x 1 : Nat), .int .u64 (lb x 2 : Nat), .int .u64 (lb x 3 : Nat)]) := Lib.hid (Bk.below (Bk.new rfl) hk)
  have HB2 := Lib.hid hb2
  clear hk hb2 HY KZ HB
  generalize w1.heap.size = gx at KX2 ⊢
  have KZ3 : Hid (Bk 51 ((w2.alloc (.cells #[.int .u64 (lb y 0 : Nat), .int .u64 (lb y 1 : Nat), .int .u64 (lb y 2 : Nat), .int .u64 (lb y 3 : Nat)] 24)).alloc (.cells #[.int .u64 (lb x 0 : Nat), .int .u64 (lb x 1 : Nat), .int .u64 (lb x 2 : Nat), .int .u64 (lb x 3 : Nat), .int .u64 (lb y 0 : Nat), .int .u64 (lb y 1 : Nat), .int .u64 (lb y 2 : Nat), .int .u64 (lb y 3 : Nat), .bool false] 51)) w.heap.size #[.int .u64 0, .int .u64 0, .int .u64 0, .int .u64 0, .int .u64 0, .int .u64 0, .int .u64 0, .int .u64 0, .bool false]) := Lib.hid (Bk.alloc (Bk.alloc KZ2.out))
  have KP3 : Hid (Bk 51 ((w2.alloc (.cells #[.int .u64 (lb y 0 : Nat), .int .u64 (lb y 1 : Nat), .int .u64 (lb y 2 : Nat), .int .u64 (lb y 3 : Nat)] 24)).alloc (.cells #[.int .u64 (lb x 0 : Nat), .int .u64 (lb x 1 : Nat), .int .u64 (lb x 2 : Nat), .int .u64 (lb x 3 : Nat), .int .u64 (lb y 0 : Nat), .int .u64 (lb y 1 : Nat), .int .u64 (lb y 2 : Nat), .int .u64 (lb y 3 : Nat), .bool false] 51)) (w2.heap.size + 1) #[.int .u64 (lb x 0 : Nat), .int .u64 (lb x 1 : Nat), .int .u64 (lb x 2 : Nat), .int .u64 (lb x 3 : Nat), .int .u64 (lb y 0 : Nat), .int .u64 (lb y 1 : Nat), .int .u64 (lb y 2 : Nat), .int .u64 (lb y 3 : Nat), .bool false]) := Lib.hid (Bk.new (by simp))
  have HB3 : Hid (Below w.heap.size w ((w2.alloc (.cells #[.int .u64 (lb y 0 : Nat), .int .u64 (lb y 1 : Nat), .int .u64 (lb y 2 : Nat), .int .u64 (lb y 3 : Nat)] 24)).alloc (.cells #[.int .u64 (lb x 0 : Nat), .int .u64 (lb x 1 : Nat), .int .u64 (lb x 2 : Nat), .int .u64 (lb x 3 : Nat), .int .u64 (lb y 0 : Nat), .int .u64 (lb y 1 : Nat), .int .u64 (lb y 2 : Nat), .int .u64 (lb y 3 : Nat), .bool false] 51))) := Lib.hid (by have hb := HB2.out; have hs := hb.size; go_grown)
  obtain ⟨x0, x1, x2, x3⟩ := KX2.out.cellsA
  go_wp2_with fail
  clear x0 x1 x2 x3 KX2 KZ2 HB2
  generalize ((w2.alloc (.cells #[.int .u64 (lb y 0 : Nat), .int .u64 (lb y 1 : Nat), .int .u64 (lb y 2 : Nat), .int .u64 (lb y 3 : Nat)] 24)).alloc (.cells #[.int .u64 (lb x 0 : Nat), .int .u64 (lb x 1 : Nat), .int .u64 (lb x 2 : Nat), .int .u64 (lb x 3 : Nat), .int .u64 (lb y 0 : Nat), .int .u64 (lb y 1 : Nat), .int .u64 (lb y 2 : Nat), .int .u64 (lb y 3 : Nat), .bool false] 51)) = W at KZ3 KP3 HB3 ⊢
  generalize w2.heap.size + 1 = gp at KP3 ⊢
  refine (keep w.heap.size w (HO.out _) HB3.out (Nat.le_refl _)).mono ?_
  rintro e w4 ⟨rfl, hb4, hk⟩
  have KZ4 := Lib.hid (Bk.below KZ3.out hk)
  have KP4 := Lib.hid (Bk.below KP3.out hk)
  have HB4 := Lib.hid hb4
  clear hk hb4 KZ3 KP3 HB3 HO
  obtain ⟨⟨f0, f1, f2, f3⟩, ⟨f4, f5, f6, f7⟩, f8⟩ := KZ4.out.fros9
  obtain ⟨⟨c0, c1, c2, c3⟩, ⟨c4, c5, c6, c7⟩, c8⟩ := KZ4.out.cells9
  cases on
  · go_wp2_with fail
    refine ret_cell51e rfl w.heap.size 0 0 false (.int .i64 71) rfl rfl (Bk.put9 KZ4.out) rfl ⟨rfl, ?_⟩
    have hb := HB4.out
    go_grown
  · obtain ⟨⟨x0, x1, x2, x3⟩, ⟨y0, y1, y2, y3⟩, i0⟩ := KP4.out.cells9
    go_wp2_with fail
    refine ret_cell51e rfl w.heap.size x y false (.int .i64 0) rfl rfl (Bk.put9 KZ4.out) rfl ⟨rfl, ?_⟩
    have hb := HB4.out
    go_grown
end Go.Proofs.Ytglmmodkflkkkaa
