/- Multiples hang on a number modulo N alone: the law's walk. No condition but that each number is below 2 to the 256. -/
import Derived.Test.YtglmmodkflkkkaaOr
import Derived.Test.YtglmmodkflkkkaaDf
import Derived.Test.YtglmmodkflkkkaaMe
set_option linter.unusedVariables false
set_option linter.unusedSimpArgs false
set_option maxRecDepth 100000
namespace Go.Proofs.Ytglmmodkflkkkaa
open Go.RowKit Go.Sort Limbs Curve

set_option maxHeartbeats 64000000 in
theorem scalars_walk (p : Po) (hp : p.ok) (ka kb : Nat) (ha : ka < W256) (hb : kb < W256) (w : World) :
    Calls Try.prog 12 #[p.v, nv ka, nv kb] w fun r w' => r = .returned (.bool true) ∧ Below w.heap.size w w' := by
  have HAW := Lib.hid awake7_any
  cases hon : p.on
  · have hO := onj hp
    rw [hon] at hO
    have HO := Lib.hid hO
    clear hO hon hp ha hb
    obtain ⟨px, py, pi⟩ := p
    simp only [Po.v, pn, nv, num] at HO ⊢
    go_enter Try.func12, Try.ntmps12
    go_wp2_with fail
    refine (keep w.heap.size w (HAW.out _) (by go_grown) (Nat.le_refl _)).mono ?_
    rintro e w1 ⟨rfl, hb, hkk⟩
    have KP : Hid (Bk 51 w1 w.heap.size #[.int .u64 (lb px 0 : Nat), .int .u64 (lb px 1 : Nat), .int .u64 (lb px 2 : Nat), .int .u64 (lb px 3 : Nat), .int .u64 (lb py 0 : Nat), .int .u64 (lb py 1 : Nat), .int .u64 (lb py 2 : Nat), .int .u64 (lb py 3 : Nat), .bool pi]) := Lib.hid (Bk.below (Bk.alloc (Bk.alloc (Bk.new rfl))) hkk)
    have HB := Lib.hid hb
    clear hb hkk HAW
    obtain ⟨⟨p_0, p_1, p_2, p_3⟩, ⟨p_4, p_5, p_6, p_7⟩, p_8⟩ := KP.out.cells9
    go_wp2_with fail
    refine (keep w.heap.size w (HO.out _) HB.out (Nat.le_refl _)).mono ?_
    rintro e w2 ⟨rfl, hb, hkk⟩
    go_wp2_with fail
    go_ret
    exact ⟨rfl, hb⟩
  obtain ⟨oP, _, _⟩ := on_iff hon
  have HO := Lib.hid (onP hon hp)
  have lN (n : Nat) : n % mN < W256 := Nat.lt_trans (Nat.mod_lt _ mN_pos) (by decide +kernel)
  obtain ⟨onX, toX, okX⟩ := on_ofPt (mul_on oP ka)
  obtain ⟨onY, toY, okY⟩ := on_ofPt (mul_on oP kb)
  obtain ⟨onS, toS, okS⟩ := on_ofPt (mul_on oP (ka + kb))
  obtain ⟨onZ, toZ, okZ⟩ := on_ofPt (mul_on oP (ka * kb))
  have m0 := mulP ha hon hp
  rw [mul_is ha hon] at m0
  have m1 := mulP hb hon hp
  rw [mul_is hb hon] at m1
  have m2 := mulP (lN (ka + kb)) hon hp
  rw [mul_is (lN _) hon, mul_mod oP] at m2
  have m3 := mulP (show mN < W256 by decide +kernel) hon hp
  rw [mul_is (by decide +kernel) hon, mul_N oP, show ofPt .far = ⟨0, 0, true⟩ from rfl] at m3
  have m4 := addP onX okX onY okY
  rw [add_is onX onY, toX, toY, ← mul_add oP] at m4
  have m5 := mulP (lN (ka * kb)) hon hp
  rw [mul_is (lN _) hon, mul_mod oP] at m5
  have m6 := mulP ha onY okY
  rw [mul_is ha onY, toY, mul_mul oP] at m6
  have f1 := add_any 1 ka kb ha hb
  rw [md1] at f1
  have f2 := mod_any 1
  rw [md1] at f2
  have f3 := mul_any 1 ka kb ha hb
  rw [md1] at f3
  have eS := eq_same okS
  have eZ := eq_same okZ
  clear onX toX okX onY toY okY onS toS okS onZ toZ okZ hon hp ha hb oP lN
  generalize ofPt (mul (toPt p) ka) = x at *
  generalize ofPt (mul (toPt p) kb) = y at *
  generalize ofPt (mul (toPt p) (ka + kb)) = s at *
  generalize ofPt (mul (toPt p) (ka * kb)) = z at *
  generalize (ka + kb) % mN = sn at *
  generalize ka * kb % mN = zn at *
  generalize mN = nn at *
  have HX := Lib.hid m0
  have HY := Lib.hid m1
  have HS := Lib.hid m2
  have HF := Lib.hid m3
  have HSUM := Lib.hid m4
  have HZ := Lib.hid m5
  have HW := Lib.hid m6
  have F1 := Lib.hid f1
  have F2 := Lib.hid f2
  have F3 := Lib.hid f3
  have EQ := Lib.hid (And.intro eS eZ)
  clear m0 m1 m2 m3 m4 m5 m6 f1 f2 f3 eS eZ
  obtain ⟨px, py, pi⟩ := p
  obtain ⟨xx, xy, xi⟩ := x
  obtain ⟨yx, yys, yi⟩ := y
  obtain ⟨sx, sy, si⟩ := s
  obtain ⟨zx, zy, zi⟩ := z
  simp only [Po.v, pn, nv, num] at HO HX HY HS HF HSUM HZ HW F1 F2 F3 EQ ⊢
  go_enter Try.func12, Try.ntmps12
  go_wp2_with fail
  refine (keep w.heap.size w (HAW.out _) (by go_grown) (Nat.le_refl _)).mono ?_
  rintro e w1 ⟨rfl, hb, hkk⟩
  have KP : Hid (Bk 51 w1 w.heap.size #[.int .u64 (lb px 0 : Nat), .int .u64 (lb px 1 : Nat), .int .u64 (lb px 2 : Nat), .int .u64 (lb px 3 : Nat), .int .u64 (lb py 0 : Nat), .int .u64 (lb py 1 : Nat), .int .u64 (lb py 2 : Nat), .int .u64 (lb py 3 : Nat), .bool pi]) := Lib.hid (Bk.below (Bk.alloc (Bk.alloc (Bk.new rfl))) hkk)
  have KA : Hid (Bk 24 w1 (w.heap.size + 1) #[.int .u64 (lb ka 0 : Nat), .int .u64 (lb ka 1 : Nat), .int .u64 (lb ka 2 : Nat), .int .u64 (lb ka 3 : Nat)]) := Lib.hid (Bk.below (Bk.alloc (Bk.new (by simp))) hkk)
  have KQ : Hid (Bk 24 w1 (w.heap.size + 1 + 1) #[.int .u64 (lb kb 0 : Nat), .int .u64 (lb kb 1 : Nat), .int .u64 (lb kb 2 : Nat), .int .u64 (lb kb 3 : Nat)]) := Lib.hid (Bk.below (Bk.new (by simp)) hkk)
  have HB := Lib.hid hb
  clear hb hkk HAW
  obtain ⟨gP, hgP⟩ : ∃ z, z = w.heap.size := ⟨_, rfl⟩
  obtain ⟨gA, hgA⟩ : ∃ z, z = w.heap.size + 1 := ⟨_, rfl⟩
  obtain ⟨gQ, hgQ⟩ : ∃ z, z = w.heap.size + 1 + 1 := ⟨_, rfl⟩
  rw [← hgQ] at KQ ⊢
  rw [← hgA] at KA ⊢
  rw [← hgP] at KP
  have e : (Value.pointer (some ⟨w.heap.size, 0, none⟩)) = .pointer (some ⟨gP, 0, none⟩) := by rw [hgP]
  rw [e]
  clear e hgP hgA hgQ
  obtain ⟨⟨P_0, P_1, P_2, P_3⟩, ⟨P_4, P_5, P_6, P_7⟩, P_8⟩ := KP.out.cells9
  go_wp2_with fail
  clear P_0 P_1 P_2 P_3 P_4 P_5 P_6 P_7 P_8
  refine (keep w.heap.size w (HO.out _) HB.out (Nat.le_refl _)).mono ?_
  rintro e w2 ⟨rfl, hb, hkk⟩
  replace KP := Lib.hid (Bk.below KP.out hkk)
  replace KA := Lib.hid (Bk.below KA.out hkk)
  replace KQ := Lib.hid (Bk.below KQ.out hkk)
  clear HB
  have HB := Lib.hid hb
  clear hb hkk HO
  obtain ⟨A_0, A_1, A_2, A_3⟩ := KA.out.cells
  obtain ⟨⟨P_0, P_1, P_2, P_3⟩, ⟨P_4, P_5, P_6, P_7⟩, P_8⟩ := KP.out.cells9
  go_wp2_with fail
  clear A_0 A_1 A_2 A_3 P_0 P_1 P_2 P_3 P_4 P_5 P_6 P_7 P_8
  refine (keep w.heap.size w (HX.out _) HB.out (Nat.le_refl _)).mono ?_
  rintro e w3 ⟨rfl, hb, hkk⟩
  replace KP := Lib.hid (Bk.below KP.out hkk)
  replace KA := Lib.hid (Bk.below KA.out hkk)
  replace KQ := Lib.hid (Bk.below KQ.out hkk)
  clear HB
  have HB := Lib.hid hb
  clear hb hkk HX
  obtain ⟨Q_0, Q_1, Q_2, Q_3⟩ := KQ.out.cellsA
  obtain ⟨⟨P_0, P_1, P_2, P_3⟩, ⟨P_4, P_5, P_6, P_7⟩, P_8⟩ := KP.out.cellsA9
  go_wp2_with fail
  clear Q_0 Q_1 Q_2 Q_3 P_0 P_1 P_2 P_3 P_4 P_5 P_6 P_7 P_8
  refine (keep w.heap.size w (HY.out _) (by have hb := HB.out; have hs := hb.size; go_grown) (Nat.le_refl _)).mono ?_
  rintro e w4 ⟨rfl, hb, hkk⟩
  replace KP := Lib.hid (Bk.below (Bk.alloc KP.out) hkk)
  replace KA := Lib.hid (Bk.below (Bk.alloc KA.out) hkk)
  replace KQ := Lib.hid (Bk.below (Bk.alloc KQ.out) hkk)
  have Kx : Hid (Bk 51 w4 w3.heap.size #[.int .u64 (lb xx 0 : Nat), .int .u64 (lb xx 1 : Nat), .int .u64 (lb xx 2 : Nat), .int .u64 (lb xx 3 : Nat), .int .u64 (lb xy 0 : Nat), .int .u64 (lb xy 1 : Nat), .int .u64 (lb xy 2 : Nat), .int .u64 (lb xy 3 : Nat), .bool xi]) := Lib.hid (Bk.below (Bk.new rfl) hkk)
  generalize w3.heap.size = gx at Kx ⊢
  clear HB
  have HB := Lib.hid hb
  clear hb hkk HY
  go_wp2_with fail
  replace KP : Hid (Bk 51 (w4.alloc (.cells #[.int .u64 (lb yx 0 : Nat), .int .u64 (lb yx 1 : Nat), .int .u64 (lb yx 2 : Nat), .int .u64 (lb yx 3 : Nat), .int .u64 (lb yys 0 : Nat), .int .u64 (lb yys 1 : Nat), .int .u64 (lb yys 2 : Nat), .int .u64 (lb yys 3 : Nat), .bool yi] 51)) gP #[.int .u64 (lb px 0 : Nat), .int .u64 (lb px 1 : Nat), .int .u64 (lb px 2 : Nat), .int .u64 (lb px 3 : Nat), .int .u64 (lb py 0 : Nat), .int .u64 (lb py 1 : Nat), .int .u64 (lb py 2 : Nat), .int .u64 (lb py 3 : Nat), .bool pi]) := Lib.hid (Bk.alloc KP.out)
  replace KA : Hid (Bk 24 (w4.alloc (.cells #[.int .u64 (lb yx 0 : Nat), .int .u64 (lb yx 1 : Nat), .int .u64 (lb yx 2 : Nat), .int .u64 (lb yx 3 : Nat), .int .u64 (lb yys 0 : Nat), .int .u64 (lb yys 1 : Nat), .int .u64 (lb yys 2 : Nat), .int .u64 (lb yys 3 : Nat), .bool yi] 51)) gA #[.int .u64 (lb ka 0 : Nat), .int .u64 (lb ka 1 : Nat), .int .u64 (lb ka 2 : Nat), .int .u64 (lb ka 3 : Nat)]) := Lib.hid (Bk.alloc KA.out)
  replace KQ : Hid (Bk 24 (w4.alloc (.cells #[.int .u64 (lb yx 0 : Nat), .int .u64 (lb yx 1 : Nat), .int .u64 (lb yx 2 : Nat), .int .u64 (lb yx 3 : Nat), .int .u64 (lb yys 0 : Nat), .int .u64 (lb yys 1 : Nat), .int .u64 (lb yys 2 : Nat), .int .u64 (lb yys 3 : Nat), .bool yi] 51)) gQ #[.int .u64 (lb kb 0 : Nat), .int .u64 (lb kb 1 : Nat), .int .u64 (lb kb 2 : Nat), .int .u64 (lb kb 3 : Nat)]) := Lib.hid (Bk.alloc KQ.out)
  replace Kx : Hid (Bk 51 (w4.alloc (.cells #[.int .u64 (lb yx 0 : Nat), .int .u64 (lb yx 1 : Nat), .int .u64 (lb yx 2 : Nat), .int .u64 (lb yx 3 : Nat), .int .u64 (lb yys 0 : Nat), .int .u64 (lb yys 1 : Nat), .int .u64 (lb yys 2 : Nat), .int .u64 (lb yys 3 : Nat), .bool yi] 51)) gx #[.int .u64 (lb xx 0 : Nat), .int .u64 (lb xx 1 : Nat), .int .u64 (lb xx 2 : Nat), .int .u64 (lb xx 3 : Nat), .int .u64 (lb xy 0 : Nat), .int .u64 (lb xy 1 : Nat), .int .u64 (lb xy 2 : Nat), .int .u64 (lb xy 3 : Nat), .bool xi]) := Lib.hid (Bk.alloc Kx.out)
  have Ky : Hid (Bk 51 (w4.alloc (.cells #[.int .u64 (lb yx 0 : Nat), .int .u64 (lb yx 1 : Nat), .int .u64 (lb yx 2 : Nat), .int .u64 (lb yx 3 : Nat), .int .u64 (lb yys 0 : Nat), .int .u64 (lb yys 1 : Nat), .int .u64 (lb yys 2 : Nat), .int .u64 (lb yys 3 : Nat), .bool yi] 51)) w4.heap.size #[.int .u64 (lb yx 0 : Nat), .int .u64 (lb yx 1 : Nat), .int .u64 (lb yx 2 : Nat), .int .u64 (lb yx 3 : Nat), .int .u64 (lb yys 0 : Nat), .int .u64 (lb yys 1 : Nat), .int .u64 (lb yys 2 : Nat), .int .u64 (lb yys 3 : Nat), .bool yi]) := Lib.hid (Bk.new rfl)
  replace HB : Hid (Below w.heap.size w (w4.alloc (.cells #[.int .u64 (lb yx 0 : Nat), .int .u64 (lb yx 1 : Nat), .int .u64 (lb yx 2 : Nat), .int .u64 (lb yx 3 : Nat), .int .u64 (lb yys 0 : Nat), .int .u64 (lb yys 1 : Nat), .int .u64 (lb yys 2 : Nat), .int .u64 (lb yys 3 : Nat), .bool yi] 51))) := Lib.hid (by have hb := HB.out; have hs := hb.size; go_grown)
  generalize (w4.alloc (.cells #[.int .u64 (lb yx 0 : Nat), .int .u64 (lb yx 1 : Nat), .int .u64 (lb yx 2 : Nat), .int .u64 (lb yx 3 : Nat), .int .u64 (lb yys 0 : Nat), .int .u64 (lb yys 1 : Nat), .int .u64 (lb yys 2 : Nat), .int .u64 (lb yys 3 : Nat), .bool yi] 51)) = V5 at KP KA KQ Kx Ky HB ⊢
  generalize w4.heap.size = gy at Ky ⊢
  refine sc7 gP gA gQ px py ka kb sn sx sy pi si V5 KP.out KA.out KQ.out F1 HS ?_
  intro _ _ _ _ _ _ _ _ gs w6 hkk hg hk
  replace KP := Lib.hid (Bk.below KP.out hkk)
  replace KA := Lib.hid (Bk.below KA.out hkk)
  replace KQ := Lib.hid (Bk.below KQ.out hkk)
  replace Kx := Lib.hid (Bk.below Kx.out hkk)
  replace Ky := Lib.hid (Bk.below Ky.out hkk)
  have Ks := Lib.hid hk
  replace HB := Lib.hid (HB.out.trans (hkk.mono HB.out.size))
  clear hkk hg hk
  go_wp2_with fail
  refine sc8 gP px py nn 0 0 pi true w6 KP.out F2 HF ?_
  intro _ _ _ _ _ _ gf w7 hkk hg hk
  replace KP := Lib.hid (Bk.below KP.out hkk)
  replace KA := Lib.hid (Bk.below KA.out hkk)
  replace KQ := Lib.hid (Bk.below KQ.out hkk)
  replace Kx := Lib.hid (Bk.below Kx.out hkk)
  replace Ky := Lib.hid (Bk.below Ky.out hkk)
  replace Ks := Lib.hid (Bk.below Ks.out hkk)
  have Kf := Lib.hid hk
  replace HB := Lib.hid (HB.out.trans (hkk.mono HB.out.size))
  clear hkk hg hk
  have heq : ∀ w, (Op.equalIn 10000 51 (.agg #[.int .u64 (lb 0 0 : Nat), .int .u64 (lb 0 1 : Nat), .int .u64 (lb 0 2 : Nat), .int .u64 (lb 0 3 : Nat), .int .u64 (lb 0 0 : Nat), .int .u64 (lb 0 1 : Nat), .int .u64 (lb 0 2 : Nat), .int .u64 (lb 0 3 : Nat), .bool true]) (.agg #[.int .u64 0, .int .u64 0, .int .u64 0, .int .u64 0, .int .u64 0, .int .u64 0, .int .u64 0, .int .u64 0, .bool true])).run Try.prog w = .ok true w := qF
  obtain ⟨⟨f_0, f_1, f_2, f_3⟩, ⟨f_4, f_5, f_6, f_7⟩, f_8⟩ := Kf.out.cells9
  obtain ⟨⟨x_0, x_1, x_2, x_3⟩, ⟨x_4, x_5, x_6, x_7⟩, x_8⟩ := Kx.out.cells9
  obtain ⟨⟨y_0, y_1, y_2, y_3⟩, ⟨y_4, y_5, y_6, y_7⟩, y_8⟩ := Ky.out.cells9
  go_wp2_with fail
  clear f_0 f_1 f_2 f_3 f_4 f_5 f_6 f_7 f_8 x_0 x_1 x_2 x_3 x_4 x_5 x_6 x_7 x_8 y_0 y_1 y_2 y_3 y_4 y_5 y_6 y_7 y_8
  refine (keep w.heap.size w (HSUM.out _) HB.out (Nat.le_refl _)).mono ?_
  rintro e w8 ⟨rfl, hb, hkk⟩
  replace KP := Lib.hid (Bk.below KP.out hkk)
  replace KA := Lib.hid (Bk.below KA.out hkk)
  replace KQ := Lib.hid (Bk.below KQ.out hkk)
  replace Kx := Lib.hid (Bk.below Kx.out hkk)
  replace Ky := Lib.hid (Bk.below Ky.out hkk)
  replace Ks := Lib.hid (Bk.below Ks.out hkk)
  replace Kf := Lib.hid (Bk.below Kf.out hkk)
  clear HB
  have HB := Lib.hid hb
  clear hb hkk HSUM
  clear heq
  go_wp2_with fail
  replace KP : Hid (Bk 51 (w8.alloc (.cells #[.int .u64 (lb sx 0 : Nat), .int .u64 (lb sx 1 : Nat), .int .u64 (lb sx 2 : Nat), .int .u64 (lb sx 3 : Nat), .int .u64 (lb sy 0 : Nat), .int .u64 (lb sy 1 : Nat), .int .u64 (lb sy 2 : Nat), .int .u64 (lb sy 3 : Nat), .bool si] 51)) gP #[.int .u64 (lb px 0 : Nat), .int .u64 (lb px 1 : Nat), .int .u64 (lb px 2 : Nat), .int .u64 (lb px 3 : Nat), .int .u64 (lb py 0 : Nat), .int .u64 (lb py 1 : Nat), .int .u64 (lb py 2 : Nat), .int .u64 (lb py 3 : Nat), .bool pi]) := Lib.hid (Bk.alloc KP.out)
  replace KA : Hid (Bk 24 (w8.alloc (.cells #[.int .u64 (lb sx 0 : Nat), .int .u64 (lb sx 1 : Nat), .int .u64 (lb sx 2 : Nat), .int .u64 (lb sx 3 : Nat), .int .u64 (lb sy 0 : Nat), .int .u64 (lb sy 1 : Nat), .int .u64 (lb sy 2 : Nat), .int .u64 (lb sy 3 : Nat), .bool si] 51)) gA #[.int .u64 (lb ka 0 : Nat), .int .u64 (lb ka 1 : Nat), .int .u64 (lb ka 2 : Nat), .int .u64 (lb ka 3 : Nat)]) := Lib.hid (Bk.alloc KA.out)
  replace KQ : Hid (Bk 24 (w8.alloc (.cells #[.int .u64 (lb sx 0 : Nat), .int .u64 (lb sx 1 : Nat), .int .u64 (lb sx 2 : Nat), .int .u64 (lb sx 3 : Nat), .int .u64 (lb sy 0 : Nat), .int .u64 (lb sy 1 : Nat), .int .u64 (lb sy 2 : Nat), .int .u64 (lb sy 3 : Nat), .bool si] 51)) gQ #[.int .u64 (lb kb 0 : Nat), .int .u64 (lb kb 1 : Nat), .int .u64 (lb kb 2 : Nat), .int .u64 (lb kb 3 : Nat)]) := Lib.hid (Bk.alloc KQ.out)
  replace Kx : Hid (Bk 51 (w8.alloc (.cells #[.int .u64 (lb sx 0 : Nat), .int .u64 (lb sx 1 : Nat), .int .u64 (lb sx 2 : Nat), .int .u64 (lb sx 3 : Nat), .int .u64 (lb sy 0 : Nat), .int .u64 (lb sy 1 : Nat), .int .u64 (lb sy 2 : Nat), .int .u64 (lb sy 3 : Nat), .bool si] 51)) gx #[.int .u64 (lb xx 0 : Nat), .int .u64 (lb xx 1 : Nat), .int .u64 (lb xx 2 : Nat), .int .u64 (lb xx 3 : Nat), .int .u64 (lb xy 0 : Nat), .int .u64 (lb xy 1 : Nat), .int .u64 (lb xy 2 : Nat), .int .u64 (lb xy 3 : Nat), .bool xi]) := Lib.hid (Bk.alloc Kx.out)
  replace Ky : Hid (Bk 51 (w8.alloc (.cells #[.int .u64 (lb sx 0 : Nat), .int .u64 (lb sx 1 : Nat), .int .u64 (lb sx 2 : Nat), .int .u64 (lb sx 3 : Nat), .int .u64 (lb sy 0 : Nat), .int .u64 (lb sy 1 : Nat), .int .u64 (lb sy 2 : Nat), .int .u64 (lb sy 3 : Nat), .bool si] 51)) gy #[.int .u64 (lb yx 0 : Nat), .int .u64 (lb yx 1 : Nat), .int .u64 (lb yx 2 : Nat), .int .u64 (lb yx 3 : Nat), .int .u64 (lb yys 0 : Nat), .int .u64 (lb yys 1 : Nat), .int .u64 (lb yys 2 : Nat), .int .u64 (lb yys 3 : Nat), .bool yi]) := Lib.hid (Bk.alloc Ky.out)
  replace Ks : Hid (Bk 51 (w8.alloc (.cells #[.int .u64 (lb sx 0 : Nat), .int .u64 (lb sx 1 : Nat), .int .u64 (lb sx 2 : Nat), .int .u64 (lb sx 3 : Nat), .int .u64 (lb sy 0 : Nat), .int .u64 (lb sy 1 : Nat), .int .u64 (lb sy 2 : Nat), .int .u64 (lb sy 3 : Nat), .bool si] 51)) gs #[.int .u64 (lb sx 0 : Nat), .int .u64 (lb sx 1 : Nat), .int .u64 (lb sx 2 : Nat), .int .u64 (lb sx 3 : Nat), .int .u64 (lb sy 0 : Nat), .int .u64 (lb sy 1 : Nat), .int .u64 (lb sy 2 : Nat), .int .u64 (lb sy 3 : Nat), .bool si]) := Lib.hid (Bk.alloc Ks.out)
  replace Kf : Hid (Bk 51 (w8.alloc (.cells #[.int .u64 (lb sx 0 : Nat), .int .u64 (lb sx 1 : Nat), .int .u64 (lb sx 2 : Nat), .int .u64 (lb sx 3 : Nat), .int .u64 (lb sy 0 : Nat), .int .u64 (lb sy 1 : Nat), .int .u64 (lb sy 2 : Nat), .int .u64 (lb sy 3 : Nat), .bool si] 51)) gf #[.int .u64 (lb 0 0 : Nat), .int .u64 (lb 0 1 : Nat), .int .u64 (lb 0 2 : Nat), .int .u64 (lb 0 3 : Nat), .int .u64 (lb 0 0 : Nat), .int .u64 (lb 0 1 : Nat), .int .u64 (lb 0 2 : Nat), .int .u64 (lb 0 3 : Nat), .bool true]) := Lib.hid (Bk.alloc Kf.out)
  have Ksum : Hid (Bk 51 (w8.alloc (.cells #[.int .u64 (lb sx 0 : Nat), .int .u64 (lb sx 1 : Nat), .int .u64 (lb sx 2 : Nat), .int .u64 (lb sx 3 : Nat), .int .u64 (lb sy 0 : Nat), .int .u64 (lb sy 1 : Nat), .int .u64 (lb sy 2 : Nat), .int .u64 (lb sy 3 : Nat), .bool si] 51)) w8.heap.size #[.int .u64 (lb sx 0 : Nat), .int .u64 (lb sx 1 : Nat), .int .u64 (lb sx 2 : Nat), .int .u64 (lb sx 3 : Nat), .int .u64 (lb sy 0 : Nat), .int .u64 (lb sy 1 : Nat), .int .u64 (lb sy 2 : Nat), .int .u64 (lb sy 3 : Nat), .bool si]) := Lib.hid (Bk.new rfl)
  replace HB : Hid (Below w.heap.size w (w8.alloc (.cells #[.int .u64 (lb sx 0 : Nat), .int .u64 (lb sx 1 : Nat), .int .u64 (lb sx 2 : Nat), .int .u64 (lb sx 3 : Nat), .int .u64 (lb sy 0 : Nat), .int .u64 (lb sy 1 : Nat), .int .u64 (lb sy 2 : Nat), .int .u64 (lb sy 3 : Nat), .bool si] 51))) := Lib.hid (by have hb := HB.out; have hs := hb.size; go_grown)
  generalize (w8.alloc (.cells #[.int .u64 (lb sx 0 : Nat), .int .u64 (lb sx 1 : Nat), .int .u64 (lb sx 2 : Nat), .int .u64 (lb sx 3 : Nat), .int .u64 (lb sy 0 : Nat), .int .u64 (lb sy 1 : Nat), .int .u64 (lb sy 2 : Nat), .int .u64 (lb sy 3 : Nat), .bool si] 51)) = V9 at KP KA KQ Kx Ky Ks Kf Ksum HB ⊢
  generalize w8.heap.size = gsum at Ksum ⊢
  refine sc12 gP gA gQ px py ka kb zn zx zy pi zi V9 KP.out KA.out KQ.out F3 HZ ?_
  intro _ _ _ _ _ _ _ _ gz w10 hkk hg hk
  replace KP := Lib.hid (Bk.below KP.out hkk)
  replace KA := Lib.hid (Bk.below KA.out hkk)
  replace KQ := Lib.hid (Bk.below KQ.out hkk)
  replace Kx := Lib.hid (Bk.below Kx.out hkk)
  replace Ky := Lib.hid (Bk.below Ky.out hkk)
  replace Ks := Lib.hid (Bk.below Ks.out hkk)
  replace Kf := Lib.hid (Bk.below Kf.out hkk)
  replace Ksum := Lib.hid (Bk.below Ksum.out hkk)
  have Kz := Lib.hid hk
  replace HB := Lib.hid (HB.out.trans (hkk.mono HB.out.size))
  clear hkk hg hk
  obtain ⟨A_0, A_1, A_2, A_3⟩ := KA.out.cells
  obtain ⟨⟨y_0, y_1, y_2, y_3⟩, ⟨y_4, y_5, y_6, y_7⟩, y_8⟩ := Ky.out.cells9
  go_wp2_with fail
  clear A_0 A_1 A_2 A_3 y_0 y_1 y_2 y_3 y_4 y_5 y_6 y_7 y_8
  refine (keep w.heap.size w (HW.out _) HB.out (Nat.le_refl _)).mono ?_
  rintro e w11 ⟨rfl, hb, hkk⟩
  replace KP := Lib.hid (Bk.below KP.out hkk)
  replace KA := Lib.hid (Bk.below KA.out hkk)
  replace KQ := Lib.hid (Bk.below KQ.out hkk)
  replace Kx := Lib.hid (Bk.below Kx.out hkk)
  replace Ky := Lib.hid (Bk.below Ky.out hkk)
  replace Ks := Lib.hid (Bk.below Ks.out hkk)
  replace Kf := Lib.hid (Bk.below Kf.out hkk)
  replace Ksum := Lib.hid (Bk.below Ksum.out hkk)
  replace Kz := Lib.hid (Bk.below Kz.out hkk)
  clear HB
  have HB := Lib.hid hb
  clear hb hkk HW
  have heqs := EQ.out.1
  have heqz := EQ.out.2
  obtain ⟨⟨sum_0, sum_1, sum_2, sum_3⟩, ⟨sum_4, sum_5, sum_6, sum_7⟩, sum_8⟩ := Ksum.out.cellsA9
  obtain ⟨⟨s_0, s_1, s_2, s_3⟩, ⟨s_4, s_5, s_6, s_7⟩, s_8⟩ := Ks.out.cellsA9
  obtain ⟨⟨z_0, z_1, z_2, z_3⟩, ⟨z_4, z_5, z_6, z_7⟩, z_8⟩ := Kz.out.cellsA9
  go_wp2_with fail
  go_ret
  refine ⟨rfl, ?_⟩
  have hb := HB.out
  have hs := hb.size
  go_grown
end Go.Proofs.Ytglmmodkflkkkaa
