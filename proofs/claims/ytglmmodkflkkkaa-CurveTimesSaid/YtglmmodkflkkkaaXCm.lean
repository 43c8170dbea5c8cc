import Derived.Test.YtglmmodkflkkkaaXCl
set_option linter.unusedVariables false
set_option linter.unusedSimpArgs false
set_option maxRecDepth 100000
namespace Go.Proofs.Ytglmmodkflkkkaa
open Go.RowKit Go.Sort Limbs
def Po.bytes (p : Po) : List UInt8 := if p.i = true then [0] else 4 :: (nb p.x ++ nb p.y)
theorem app_bytes (s t : List UInt8) : (⟨s.toArray⟩ : ByteArray) ++ ⟨t.toArray⟩ = ⟨(s ++ t).toArray⟩ := by
  apply ByteArray.ext; simp
set_option maxHeartbeats 8000000 in
theorem bytes_c (p : Po) (hp : p.ok) (w : World) :
    Calls Try.prog 37 #[p.v] w fun e w' => e = .returned (if p.on = true then .tuple #[.string ⟨p.bytes.toArray⟩, .int .i64 0] else .tuple #[.string ⟨#[]⟩, .int .i64 70]) ∧ Below w.heap.size w w' := by
  have HO := Lib.hid (onj hp)
  cases hon : p.on
  · rw [if_neg (by simp)]
    rw [hon] at HO
    clear hon
    obtain ⟨x, y, i⟩ := p
    simp only [Po.v, pn] at HO ⊢
    go_enter Try.func37, Try.ntmps37
    go_wp2_with fail
    refine (keep w.heap.size w (HO.out _) (by go_grown) (Nat.le_refl _)).mono ?_
    rintro e w1 ⟨rfl, hb, hk⟩
    go_wp2_with fail
    go_ret2
    exact ⟨rfl, hb⟩
  rw [if_pos rfl]
  rw [hon] at HO
  clear hon
  have HX := Lib.hid (bytes_any p.x)
  have HY := Lib.hid (bytes_any p.y)
  obtain ⟨x, y, i⟩ := p
  unfold Po.bytes
  cases i
  · simp only [] at HX HY
    have ha1 := app_bytes [4] (nb x)
    have ha2 := app_bytes ([4] ++ nb x) (nb y)
    have ha3 : [4] ++ nb x ++ nb y = 4 :: (nb x ++ nb y) := by simp
    rw [ha3] at ha2
    have hs1 : (⟨(nb x).toArray⟩ : ByteArray).size = 32 := by simp [ByteArray.size, nb_length]
    have hs2 : (⟨(nb y).toArray⟩ : ByteArray).size = 32 := by simp [ByteArray.size, nb_length]
    have hs3 : (⟨([4] ++ nb x).toArray⟩ : ByteArray).size = 33 := by simp [ByteArray.size, nb_length]
    rw [if_neg (by simp)]
    simp only []
    generalize (⟨(4 :: (nb x ++ nb y)).toArray⟩ : ByteArray) = RS at *
    generalize (⟨([4] ++ nb x).toArray⟩ : ByteArray) = R1 at *
    generalize (⟨(nb x).toArray⟩ : ByteArray) = BX at *
    generalize (⟨(nb y).toArray⟩ : ByteArray) = BY at *
    have ha1' : (⟨#[4]⟩ : ByteArray) ++ BX = R1 := ha1
    clear ha1 ha3
    simp only [Po.v, pn, nv, num] at HO HX HY ⊢
    go_enter Try.func37, Try.ntmps37
    go_wp2_with fail
    refine (keep w.heap.size w (HO.out _) (by go_grown) (Nat.le_refl _)).mono ?_
    rintro e w1 ⟨rfl, hb, hk⟩
    have KP : Hid (Bk 51 w1 w.heap.size #[.int .u64 (lb x 0 : Nat), .int .u64 (lb x 1 : Nat), .int .u64 (lb x 2 : Nat), .int .u64 (lb x 3 : Nat), .int .u64 (lb y 0 : Nat), .int .u64 (lb y 1 : Nat), .int .u64 (lb y 2 : Nat), .int .u64 (lb y 3 : Nat), .bool false]) := Lib.hid (Bk.below (Bk.new rfl) hk)
    have HB := Lib.hid hb
    clear hk hb HO
    obtain ⟨⟨x0, x1, x2, x3⟩, ⟨y0, y1, y2, y3⟩, i0⟩ := KP.out.cells9
    go_wp2_with fail
    clear x0 x1 x2 x3 y0 y1 y2 y3 i0
    obtain ⟨⟨x0, x1, x2, x3⟩, ⟨y0, y1, y2, y3⟩, i0⟩ := KP.out.reg9
    refine wp_region_quiet_below mixed (by kernel_rfl) ?_
    iterate 2 go_big_quiet_step (fail)
    go_big_quiet_step (exact qg HX.out)
    iterate 3 (first | go_big_quiet_step (fail) | quiet_step (fail))
    go_big_quiet_step (exact qg HY.out)
    repeat (first | go_big_quiet_step (fail) | quiet_step (fail))
    refine wpQuiet_nil ?_
    intro _ hw'
    obtain ⟨⟨dq, osq⟩, hw''⟩ := hw'
    subst hw''
    have HB4 := Lib.hid (HB.out.trans ((below_regrown w1 dq osq).mono HB.out.size))
    go_wp2_with fail
    go_ret2
    exact ⟨rfl, HB4.out⟩
  · rw [if_pos rfl]
    simp only [Po.v, pn] at HO ⊢
    clear HX HY
    go_enter Try.func37, Try.ntmps37
    go_wp2_with fail
    refine (keep w.heap.size w (HO.out _) (by go_grown) (Nat.le_refl _)).mono ?_
    rintro e w1 ⟨rfl, hb, hk⟩
    have KP : Hid (Bk 51 w1 w.heap.size #[.int .u64 (lb x 0 : Nat), .int .u64 (lb x 1 : Nat), .int .u64 (lb x 2 : Nat), .int .u64 (lb x 3 : Nat), .int .u64 (lb y 0 : Nat), .int .u64 (lb y 1 : Nat), .int .u64 (lb y 2 : Nat), .int .u64 (lb y 3 : Nat), .bool true]) := Lib.hid (Bk.below (Bk.new rfl) hk)
    have HB := Lib.hid hb
    clear hk hb HO
    obtain ⟨⟨x0, x1, x2, x3⟩, ⟨y0, y1, y2, y3⟩, i0⟩ := KP.out.cells9
    go_wp2_with fail
    go_ret2
    exact ⟨rfl, HB.out⟩
theorem bytesp {p : Po} (hp : p.ok) : ∀ w, Calls Try.prog 37 #[p.v] w fun e w' => e = .returned (if p.on = true then .tuple #[.string ⟨p.bytes.toArray⟩, .int .i64 0] else .tuple #[.string ⟨#[]⟩, .int .i64 70]) ∧ Below w.heap.size w w' := bytes_c p hp
end Go.Proofs.Ytglmmodkflkkkaa
set_option linter.unusedVariables false
set_option linter.unusedSimpArgs false
set_option maxRecDepth 100000
namespace Go.Proofs.Ytglmmodkflkkkaa
open Go.RowKit Go.Sort Limbs
theorem Bk.cellsB9 {t : TypeId} {w : World} {g : Nat} {c0 c1 c2 c3 c4 c5 c6 c7 c8 : Value} (h : Bk t w g #[c0, c1, c2, c3, c4, c5, c6, c7, c8]) : ((∀ o o2, ((w.alloc o).alloc o2).cell? ⟨g, 0, none⟩ = some c0) ∧ (∀ o o2, ((w.alloc o).alloc o2).cell? ⟨g, 1, none⟩ = some c1) ∧ (∀ o o2, ((w.alloc o).alloc o2).cell? ⟨g, 2, none⟩ = some c2) ∧ (∀ o o2, ((w.alloc o).alloc o2).cell? ⟨g, 3, none⟩ = some c3)) ∧ ((∀ o o2, ((w.alloc o).alloc o2).cell? ⟨g, 4, none⟩ = some c4) ∧ (∀ o o2, ((w.alloc o).alloc o2).cell? ⟨g, 5, none⟩ = some c5) ∧ (∀ o o2, ((w.alloc o).alloc o2).cell? ⟨g, 6, none⟩ = some c6) ∧ (∀ o o2, ((w.alloc o).alloc o2).cell? ⟨g, 7, none⟩ = some c7)) ∧ ((∀ o o2, ((w.alloc o).alloc o2).cell? ⟨g, 8, none⟩ = some c8)) :=
  ⟨⟨fun _ _ => h.alloc.alloc.cell 0, fun _ _ => h.alloc.alloc.cell 1, fun _ _ => h.alloc.alloc.cell 2, fun _ _ => h.alloc.alloc.cell 3⟩, ⟨fun _ _ => h.alloc.alloc.cell 4, fun _ _ => h.alloc.alloc.cell 5, fun _ _ => h.alloc.alloc.cell 6, fun _ _ => h.alloc.alloc.cell 7⟩, fun _ _ => h.alloc.alloc.cell 8⟩
theorem Bk.frosB9 {t : TypeId} {w : World} {g : Nat} {cs : Array Value} (h : Bk t w g cs) : ((∀ o o2, ((w.alloc o).alloc o2).frozen? ⟨g, 0, none⟩ = false) ∧ (∀ o o2, ((w.alloc o).alloc o2).frozen? ⟨g, 1, none⟩ = false) ∧ (∀ o o2, ((w.alloc o).alloc o2).frozen? ⟨g, 2, none⟩ = false) ∧ (∀ o o2, ((w.alloc o).alloc o2).frozen? ⟨g, 3, none⟩ = false)) ∧ ((∀ o o2, ((w.alloc o).alloc o2).frozen? ⟨g, 4, none⟩ = false) ∧ (∀ o o2, ((w.alloc o).alloc o2).frozen? ⟨g, 5, none⟩ = false) ∧ (∀ o o2, ((w.alloc o).alloc o2).frozen? ⟨g, 6, none⟩ = false) ∧ (∀ o o2, ((w.alloc o).alloc o2).frozen? ⟨g, 7, none⟩ = false)) ∧ ((∀ o o2, ((w.alloc o).alloc o2).frozen? ⟨g, 8, none⟩ = false)) :=
  ⟨⟨fun _ _ => h.alloc.alloc.fro 0, fun _ _ => h.alloc.alloc.fro 1, fun _ _ => h.alloc.alloc.fro 2, fun _ _ => h.alloc.alloc.fro 3⟩, ⟨fun _ _ => h.alloc.alloc.fro 4, fun _ _ => h.alloc.alloc.fro 5, fun _ _ => h.alloc.alloc.fro 6, fun _ _ => h.alloc.alloc.fro 7⟩, fun _ _ => h.alloc.alloc.fro 8⟩
theorem ext_ba (l : List UInt8) (a n : Nat) : (⟨l.toArray⟩ : ByteArray).extract a (a + n) = ⟨((l.drop a).take n).toArray⟩ := by
  apply ByteArray.ext
  simp [ByteArray.data_extract, List.extract_eq_take_drop]
set_option maxHeartbeats 8000000 in
theorem of_far (w : World) : Calls Try.prog 38 #[.string ⟨#[0]⟩] w fun e w' => e = .returned (.tuple #[pn 0 0 true, .int .i64 0]) ∧ Below w.heap.size w w' := by
  have f0 : ((⟨#[0]⟩ : ByteArray).toList == [0]) = true := by decide +kernel
  go_enter Try.func38, Try.ntmps38
  go_wp2_with fail
  refine ret_cell51e rfl w.heap.size 0 0 true (.int .i64 0) rfl rfl (Bk.new rfl) rfl ⟨rfl, ?_⟩
  go_grown
set_option maxHeartbeats 8000000 in
theorem of_len (S : ByteArray) (f0 : (S.toList == [0]) = false) (f1 : (((S.size : Nat) : Int) != 65) = true) (w : World) : Calls Try.prog 38 #[.string S] w fun e w' => e = .returned (.tuple #[pn 0 0 false, .int .i64 71]) ∧ Below w.heap.size w w' := by
  go_enter Try.func38, Try.ntmps38
  go_wp2_with fail
  refine ret_cell51e rfl w.heap.size 0 0 false (.int .i64 71) rfl rfl (Bk.new rfl) rfl ⟨rfl, ?_⟩
  go_grown
set_option maxHeartbeats 8000000 in
theorem of_head (S : ByteArray) (f0 : (S.toList == [0]) = false) (hsz : S.size = 65) (f2 : ((S.extract 0 1).toList == [4]) = false) (w : World) : Calls Try.prog 38 #[.string S] w fun e w' => e = .returned (.tuple #[pn 0 0 false, .int .i64 71]) ∧ Below w.heap.size w w' := by
  go_enter Try.func38, Try.ntmps38
  go_wp2_with fail
  refine ret_cell51e rfl w.heap.size 0 0 false (.int .i64 71) rfl rfl (Bk.new rfl) rfl ⟨rfl, ?_⟩
  go_grown
set_option maxHeartbeats 16000000 in
theorem of_bad (S T XB YB : ByteArray) (x y : Nat) (ex ey : Int) (f0 : (S.toList == [0]) = false) (hsz : S.size = 65) (f2 : ((S.extract 0 1).toList == [4]) = true)
  (e1 : S.extract 1 65 = T) (hsT : T.size = 64) (e2 : T.extract 0 32 = XB) (e3 : T.extract 32 64 = YB)
  (HX : Hid (∀ w, Calls Try.prog 31 #[.int .i64 0, .string XB] w fun e w' => e = .returned (.tuple #[nv x, .int .i64 ex]) ∧ Below w.heap.size w w'))
  (HY : Hid (∀ w, Calls Try.prog 31 #[.int .i64 0, .string YB] w fun e w' => e = .returned (.tuple #[nv y, .int .i64 ey]) ∧ Below w.heap.size w w'))
  (hb : (ex != 0) = true ∨ ((ex != 0) = false ∧ (ey != 0) = true)) (w : World) : Calls Try.prog 38 #[.string S] w fun e w' => e = .returned (.tuple #[pn 0 0 false, .int .i64 71]) ∧ Below w.heap.size w w' := by
  simp only [nv, num] at HX HY
  go_enter Try.func38, Try.ntmps38
  go_wp2_with fail
  refine (keep w.heap.size w (HX.out _) (by go_grown) (Nat.le_refl _)).mono ?_
  rintro e w1 ⟨rfl, hb1, hk⟩
  have KZ : Hid (Bk 51 w1 w.heap.size #[.int .u64 0, .int .u64 0, .int .u64 0, .int .u64 0, .int .u64 0, .int .u64 0, .int .u64 0, .int .u64 0, .bool false]) := Lib.hid (Bk.below (Bk.new rfl) hk)
  have HB := Lib.hid hb1
  clear hk hb1 HX
  go_wp2_with fail
  refine (keep w.heap.size w (HY.out _) (by have hb := HB.out; have hs := hb.size; go_grown) (Nat.le_refl _)).mono ?_
  rintro e w2 ⟨rfl, hb2, hk⟩
  have KZ2 := Lib.hid (Bk.below (Bk.alloc KZ.out) hk)
  have KX2 : Hid (Bk 24 w2 w1.heap.size #[.int .u64 (lb x 0 : Nat), .int .u64 (lb x 1 : Nat), .int .u64 (lb x 2 : Nat), .int .u64 (lb x 3 : Nat)]) := Lib.hid (Bk.below (Bk.new rfl) hk)
  have HB2 := Lib.hid hb2
  clear hk hb2 HY KZ HB
  generalize w1.heap.size = gx at KX2 ⊢
  have KZ3 : Hid (Bk 51 ((w2.alloc (.cells #[.int .u64 (lb y 0 : Nat), .int .u64 (lb y 1 : Nat), .int .u64 (lb y 2 : Nat), .int .u64 (lb y 3 : Nat)] 24)).alloc (.cells #[.int .u64 (lb x 0 : Nat), .int .u64 (lb x 1 : Nat), .int .u64 (lb x 2 : Nat), .int .u64 (lb x 3 : Nat), .int .u64 (lb y 0 : Nat), .int .u64 (lb y 1 : Nat), .int .u64 (lb y 2 : Nat), .int .u64 (lb y 3 : Nat), .bool false] 51)) w.heap.size #[.int .u64 0, .int .u64 0, .int .u64 0, .int .u64 0, .int .u64 0, .int .u64 0, .int .u64 0, .int .u64 0, .bool false]) := Lib.hid (Bk.alloc (Bk.alloc KZ2.out))
  have HB3 : Hid (Below w.heap.size w ((w2.alloc (.cells #[.int .u64 (lb y 0 : Nat), .int .u64 (lb y 1 : Nat), .int .u64 (lb y 2 : Nat), .int .u64 (lb y 3 : Nat)] 24)).alloc (.cells #[.int .u64 (lb x 0 : Nat), .int .u64 (lb x 1 : Nat), .int .u64 (lb x 2 : Nat), .int .u64 (lb x 3 : Nat), .int .u64 (lb y 0 : Nat), .int .u64 (lb y 1 : Nat), .int .u64 (lb y 2 : Nat), .int .u64 (lb y 3 : Nat), .bool false] 51))) := Lib.hid (by have hb := HB2.out; have hs := hb.size; go_grown)
  obtain ⟨x0, x1, x2, x3⟩ := KX2.out.cellsA
  rcases hb with hb | ⟨hb, hb'⟩
  all_goals
    obtain ⟨⟨f0, f1, f2, f3⟩, ⟨f4, f5, f6, f7⟩, f8⟩ := KZ2.out.frosB9
    obtain ⟨⟨c0, c1, c2, c3⟩, ⟨c4, c5, c6, c7⟩, c8⟩ := KZ2.out.cellsB9
    go_wp2_with fail
    refine ret_cell51e rfl w.heap.size 0 0 false (.int .i64 71) rfl rfl (Bk.put9 KZ3.out) rfl ⟨rfl, ?_⟩
    have hb := HB3.out
    go_grown
set_option maxHeartbeats 16000000 in
theorem of_on (S T XB YB : ByteArray) (x y : Nat) (f0 : (S.toList == [0]) = false) (hsz : S.size = 65) (f2 : ((S.extract 0 1).toList == [4]) = true)
  (e1 : S.extract 1 65 = T) (hsT : T.size = 64) (e2 : T.extract 0 32 = XB) (e3 : T.extract 32 64 = YB)
  (HX : Hid (∀ w, Calls Try.prog 31 #[.int .i64 0, .string XB] w fun e w' => e = .returned (.tuple #[nv x, .int .i64 0]) ∧ Below w.heap.size w w'))
  (HY : Hid (∀ w, Calls Try.prog 31 #[.int .i64 0, .string YB] w fun e w' => e = .returned (.tuple #[nv y, .int .i64 0]) ∧ Below w.heap.size w w'))
  (hx : x < W256) (hy : y < W256) (w : World) : Calls Try.prog 38 #[.string S] w fun e w' => e = .returned (if (Po.mk x y false).on = true then .tuple #[pn x y false, .int .i64 0] else .tuple #[pn 0 0 false, .int .i64 71]) ∧ Below w.heap.size w w' := by
  have HO := Lib.hid (onj (p := ⟨x, y, false⟩) ⟨hx, hy⟩)
  clear hx hy
  simp only [nv, num, Po.v, pn] at HX HY HO ⊢
  obtain ⟨on, hon⟩ : ∃ z, z = (Po.mk x y false).on := ⟨_, rfl⟩
  rw [← hon] at HO ⊢
  clear hon
  go_enter Try.func38, Try.ntmps38
  go_wp2_with fail
  refine (keep w.heap.size w (HX.out _) (by go_grown) (Nat.le_refl _)).mono ?_
  rintro e w1 ⟨rfl, hb1, hk⟩
  have KZ : Hid (Bk 51 w1 w.heap.size #[.int .u64 0, .int .u64 0, .int .u64 0, .int .u64 0, .int .u64 0, .int .u64 0, .int .u64 0, .int .u64 0, .bool false]) := Lib.hid (Bk.below (Bk.new rfl) hk)
  have HB := Lib.hid hb1
  clear hk hb1 HX
  go_wp2_with fail
  refine (keep w.heap.size w (HY.out _) (by have hb := HB.out; have hs := hb.size; go_grown) (Nat.le_refl _)).mono ?_
  rintro e w2 ⟨rfl, hb2, hk⟩
  have KZ2 := Lib.hid (Bk.below (Bk.alloc KZ.out) hk)
  have KX2 : Hid (Bk 24 w2 w1.heap.size #[.int .u64 (lb x 0 : Nat), .int .u64 (lb x 1 : Nat), .int .u64 (lb x 2 : Nat), .int .u64 (lb x 3 : Nat)]) := Lib.hid (Bk.below (Bk.new rfl) hk)
  have HB2 := Lib.hid hb2
  clear hk hb2 HY KZ HB
  generalize w1.heap.size = gx at KX2 ⊢
  have KZ3 : Hid (Bk 51 ((w2.alloc (.cells #[.int .u64 (lb y 0 : Nat), .int .u64 (lb y 1 : Nat), .int .u64 (lb y 2 : Nat), .int .u64 (lb y 3 : Nat)] 24)).alloc (.cells #[.int .u64 (lb x 0 : Nat), .int .u64 (lb x 1 : Nat), .int .u64 (lb x 2 : Nat), .int .u64 (lb x 3 : Nat), .int .u64 (lb y 0 : Nat), .int .u64 (lb y 1 : Nat), .int .u64 (lb y 2 : Nat), .int .u64 (lb y 3 : Nat), .bool false] 51)) w.heap.size #[.int .u64 0, .int .u64 0, .int .u64 0, .int .u64 0, .int .u64 0, .int .u64 0, .int .u64 0, .int .u64 0, .bool false]) := Lib.hid (Bk.alloc (Bk.alloc KZ2.out))
  have KP3 : Hid (Bk 51 ((w2.alloc (.cells #[.int .u64 (lb y 0 : Nat), .int .u64 (lb y 1 : Nat), .int .u64 (lb y 2 : Nat), .int .u64 (lb y 3 : Nat)] 24)).alloc (.cells #[.int .u64 (lb x 0 : Nat), .int .u64 (lb x 1 : Nat), .int .u64 (lb x 2 : Nat), .int .u64 (lb x 3 : Nat), .int .u64 (lb y 0 : Nat), .int .u64 (lb y 1 : Nat), .int .u64 (lb y 2 : Nat), .int .u64 (lb y 3 : Nat), .bool false] 51)) (w2.heap.size + 1) #[.int .u64 (lb x 0 : Nat), .int .u64 (lb x 1 : Nat), .int .u64 (lb x 2 : Nat), .int .u64 (lb x 3 : Nat), .int .u64 (lb y 0 : Nat), .int .u64 (lb y 1 : Nat), .int .u64 (lb y 2 : Nat), .int .u64 (lb y 3 : Nat), .bool false]) := Lib.hid (Bk.new (by simp))
  have HB3 : Hid (Below w.heap.size w ((w2.alloc (.cells #[.int .u64 (lb y 0 : Nat), .int .u64 (lb y 1 : Nat), .int .u64 (lb y 2 : Nat), .int .u64 (lb y 3 : Nat)] 24)).alloc (.cells #[.int .u64 (lb x 0 : Nat), .int .u64 (lb x 1 : Nat), .int .u64 (lb x 2 : Nat), .int .u64 (lb x 3 : Nat), .int .u64 (lb y 0 : Nat), .int .u64 (lb y 1 : Nat), .int .u64 (lb y 2 : Nat), .int .u64 (lb y 3 : Nat), .bool false] 51))) := Lib.hid (by have hb := HB2.out; have hs := hb.size; go_grown)
  obtain ⟨x0, x1, x2, x3⟩ := KX2.out.cellsA
  go_wp2_with fail
  clear x0 x1 x2 x3 KX2 KZ2 HB2
  generalize ((w2.alloc (.cells #[.int .u64 (lb y 0 : Nat), .int .u64 (lb y 1 : Nat), .int .u64 (lb y 2 : Nat), .int .u64 (lb y 3 : Nat)] 24)).alloc (.cells #[.int .u64 (lb x 0 : Nat), .int .u64 (lb x 1 : Nat), .int .u64 (lb x 2 : Nat), .int .u64 (lb x 3 : Nat), .int .u64 (lb y 0 : Nat), .int .u64 (lb y 1 : Nat), .int .u64 (lb y 2 : Nat), .int .u64 (lb y 3 : Nat), .bool false] 51)) = W at KZ3 KP3 HB3 ⊢
  generalize w2.heap.size + 1 = gp at KP3 ⊢
  refine (keep w.heap.size w (HO.out _) HB3.out (Nat.le_refl _)).mono ?_
  rintro e w4 ⟨rfl, hb4, hk⟩
  have KZ4 := Lib.hid (Bk.below KZ3.out hk)
  have KP4 := Lib.hid (Bk.below KP3.out hk)
  have HB4 := Lib.hid hb4
  clear hk hb4 KZ3 KP3 HB3 HO
  obtain ⟨⟨f0, f1, f2, f3⟩, ⟨f4, f5, f6, f7⟩, f8⟩ := KZ4.out.fros9
  obtain ⟨⟨c0, c1, c2, c3⟩, ⟨c4, c5, c6, c7⟩, c8⟩ := KZ4.out.cells9
  cases on
  · go_wp2_with fail
    refine ret_cell51e rfl w.heap.size 0 0 false (.int .i64 71) rfl rfl (Bk.put9 KZ4.out) rfl ⟨rfl, ?_⟩
    have hb := HB4.out
    go_grown
  · obtain ⟨⟨x0, x1, x2, x3⟩, ⟨y0, y1, y2, y3⟩, i0⟩ := KP4.out.cells9
    go_wp2_with fail
    refine ret_cell51e rfl w.heap.size x y false (.int .i64 0) rfl rfl (Bk.put9 KZ4.out) rfl ⟨rfl, ?_⟩
    have hb := HB4.out
    go_grown
end Go.Proofs.Ytglmmodkflkkkaa
set_option linter.unusedVariables false
set_option linter.unusedSimpArgs false
set_option maxRecDepth 100000
namespace Go.Proofs.Ytglmmodkflkkkaa
open Go.RowKit Go.Sort Limbs
theorem toList_ba (s : List UInt8) : (⟨s.toArray⟩ : ByteArray).toList = s := by rw [ByteArray.toList_eq]
def xOf (s : List UInt8) : Nat := bv ((s.drop 1).take 32)
def yOf (s : List UInt8) : Nat := bv (s.drop 33)
def Po.of (s : List UInt8) : Option Po :=
  if s = [0] then some ⟨0, 0, true⟩
  else if s.length = 65 ∧ s.take 1 = [4] ∧ xOf s < mP ∧ yOf s < mP ∧ (Po.mk (xOf s) (yOf s) false).on = true then some ⟨xOf s, yOf s, false⟩ else none
def Po.ret : Option Po → Value
  | some p => .tuple #[p.v, .int .i64 0]
  | none => .tuple #[pn 0 0 false, .int .i64 71]
theorem of_j (s : List UInt8) (h32 : s.length = 32) : ∀ w, Calls Try.prog 31 #[.int .i64 0, .string ⟨s.toArray⟩] w fun e w' => e = .returned (.tuple #[nv (if bv s < mP then bv s else 0), .int .i64 (if bv s < mP then 0 else 60)]) ∧ Below w.heap.size w w' := by
  have h := of_any 0 s (by omega)
  rw [md0] at h
  by_cases hb : bv s < mP
  · rw [if_pos ⟨h32, hb⟩] at h
    rw [if_pos hb, if_pos hb]
    exact h
  · rw [if_neg (fun h => hb h.2)] at h
    rw [if_neg hb, if_neg hb]
    exact h
theorem of_c (s : List UInt8) (hs : s.length ≤ 140737488351232) (w : World) : Calls Try.prog 38 #[.string ⟨s.toArray⟩] w fun e w' => e = .returned (Po.ret (Po.of s)) ∧ Below w.heap.size w w' := by
  by_cases h0 : s = [0]
  · subst h0
    exact of_far w
  have f0 : ((⟨s.toArray⟩ : ByteArray).toList == [0]) = false := by rw [toList_ba]; simpa using h0
  have hsz : (⟨s.toArray⟩ : ByteArray).size = s.length := by simp [ByteArray.size]
  unfold Po.of
  rw [if_neg h0]
  by_cases h1 : s.length = 65
  · have e0 : (⟨s.toArray⟩ : ByteArray).extract 0 1 = ⟨(s.take 1).toArray⟩ := by
      have := ext_ba s 0 1
      simpa using this
    by_cases h2 : s.take 1 = [4]
    · have e1 : (⟨s.toArray⟩ : ByteArray).extract 1 65 = ⟨(s.drop 1).toArray⟩ := by
        have := ext_ba s 1 64
        rw [List.take_of_length_le (by rw [List.length_drop]; omega)] at this
        exact this
      have hsT : (⟨(s.drop 1).toArray⟩ : ByteArray).size = 64 := by simp [ByteArray.size]; omega
      have e2 : (⟨(s.drop 1).toArray⟩ : ByteArray).extract 0 32 = ⟨((s.drop 1).take 32).toArray⟩ := by
        have := ext_ba (s.drop 1) 0 32
        simpa using this
      have e3 : (⟨(s.drop 1).toArray⟩ : ByteArray).extract 32 64 = ⟨(s.drop 33).toArray⟩ := by
        have := ext_ba (s.drop 1) 32 32
        rw [List.drop_drop, List.take_of_length_le (by rw [List.length_drop]; omega)] at this
        exact this
      have HX := Lib.hid (of_j ((s.drop 1).take 32) (by rw [List.length_take, List.length_drop]; omega))
      have HY := Lib.hid (of_j (s.drop 33) (by rw [List.length_drop]; omega))
      have f2 : (((⟨s.toArray⟩ : ByteArray).extract 0 1).toList == [4]) = true := by rw [e0, toList_ba, h2]; rfl
      by_cases hx : xOf s < mP
      · by_cases hy : yOf s < mP
        · unfold xOf at hx
          unfold yOf at hy
          rw [if_pos hx, if_pos hx] at HX
          rw [if_pos hy, if_pos hy] at HY
          have := of_on _ _ _ _ _ _ f0 (by rw [hsz, h1]) f2 e1 hsT e2 e3 HX HY (Nat.lt_trans hx (by decide +kernel)) (Nat.lt_trans hy (by decide +kernel)) w
          refine this.mono fun e w' h => ⟨?_, h.2⟩
          rw [h.1]
          unfold xOf yOf
          by_cases hon : (Po.mk (bv ((s.drop 1).take 32)) (bv (s.drop 33)) false).on = true
          · rw [if_pos hon, if_pos ⟨h1, h2, hx, hy, hon⟩]; rfl
          · rw [if_neg hon, if_neg (fun h => hon h.2.2.2.2)]; rfl
        · rw [if_neg (fun h => hy h.2.2.2.1)]
          unfold xOf at hx
          unfold yOf at hy
          rw [if_pos hx, if_pos hx] at HX
          rw [if_neg hy, if_neg hy] at HY
          exact of_bad _ _ _ _ _ _ _ _ f0 (by rw [hsz, h1]) f2 e1 hsT e2 e3 HX HY (Or.inr ⟨by decide, by decide⟩) w
      · rw [if_neg (fun h => hx h.2.2.1)]
        unfold xOf at hx
        rw [if_neg hx, if_neg hx] at HX
        exact of_bad _ _ _ _ _ _ _ _ f0 (by rw [hsz, h1]) f2 e1 hsT e2 e3 HX HY (Or.inl (by decide)) w
    · rw [if_neg (fun h => h2 h.2.1)]
      exact of_head _ f0 (by rw [hsz, h1]) (by rw [e0, toList_ba]; simpa using h2) w
  · rw [if_neg (fun h => h1 h.1)]
    exact of_len _ f0 (by rw [hsz]; simp; omega) w
theorem on_lt {x y : Nat} (h : (Po.mk x y false).on = true) : x < mP ∧ y < mP := by
  have e : (Po.mk x y false).on = decide (x < mP ∧ y < mP ∧ mj y y = rightN x) := rfl
  rw [e] at h
  have := of_decide_eq_true h
  exact ⟨this.1, this.2.1⟩
theorem on_far {x y : Nat} (h : (Po.mk x y true).on = true) : x = 0 ∧ y = 0 := by
  have e : (Po.mk x y true).on = decide (x = 0 ∧ y = 0) := rfl
  rw [e] at h
  exact of_decide_eq_true h
end Go.Proofs.Ytglmmodkflkkkaa
