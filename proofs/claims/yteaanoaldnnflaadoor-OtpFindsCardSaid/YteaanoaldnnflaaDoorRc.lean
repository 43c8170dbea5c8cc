/- The reference's code. Condition: secrets of at most 2^47 bytes less 128. -/
import Derived.Test.YteaanoaldnnflaaDoorPm
import Derived.Test.YteaanoaldnnflaaDoorOe
set_option linter.unusedVariables false
set_option linter.unusedSimpArgs false
set_option maxRecDepth 100000
namespace Go.Proofs.YteaanoaldnnflaaDoor
open Go.RowKit Go.Sort

theorem and255 (x : Int) : bits .and .i64 x 255 = x % 256 := by
  show IntKind.i64.wrap ((BitVec.ofInt 64 x &&& BitVec.ofInt 64 255).toNat : Int) = _
  rw [BitVec.toNat_and, show (BitVec.ofInt 64 255).toNat = 2 ^ 8 - 1 from by decide, Nat.and_two_pow_sub_one_eq_mod, BitVec.toNat_ofInt]
  rw [IntWalk.i64_in _ (by omega)]
  omega
theorem byte_ref (s : Int) (j : Nat) (hj : j < 8) : bits .and .i64 (s / 2 ^ (56 - 8 * j)) 255 % 256 = ((byteN (u64n s) j).toNat : Int) := by
  rw [byteN_val, and255]
  have hu : ((u64n s : Nat) : Int) = s % 18446744073709551616 := by unfold u64n; omega
  rw [hu]
  have h : j = 0 ∨ j = 1 ∨ j = 2 ∨ j = 3 ∨ j = 4 ∨ j = 5 ∨ j = 6 ∨ j = 7 := by omega
  rcases h with rfl | rfl | rfl | rfl | rfl | rfl | rfl | rfl <;> simp only [Nat.reduceMul, Nat.reduceSub, Int.reducePow] <;> omega
theorem eight_take (n j : Nat) (hj : j < 8) : (eightL n).take (j + 1) = (eightL n).take j ++ [byteN n j] := by
  rw [List.take_succ_eq_append_getElem (by rw [eightL_length]; exact hj)]
  simp [eightL]
theorem u8_and127 (x : UInt8) : bits .and .u8 (x.toNat : Int) 127 = ((x.toNat % 128 : Nat) : Int) := by
  have h := x.toNat_lt
  have key : ∀ n : Fin 256, bits .and .u8 ((n : Nat) : Int) 127 = (((n : Nat) % 128 : Nat) : Int) := by decide +kernel
  exact key ⟨x.toNat, h⟩

def pw : Nat → Nat
  | 0 => 100000
  | 1 => 10000
  | 2 => 1000
  | 3 => 100
  | 4 => 10
  | 5 => 1
  | _ => 0
set_option maxHeartbeats 4000000 in
theorem code_ref (key : List UInt8) (hk : key.length ≤ 140737488355200) (s : Int) (h0 : -9223372036854775808 ≤ s) (h1 : s ≤ 9223372036854775807) (w : World) :
    Calls Tryd.prog 10 #[.string ⟨key.toArray⟩, .int .i64 s] w fun e w' => e = .returned (.string ⟨(codeL key s).toArray⟩) ∧ Below w.heap.size w w' := by
  have HK := Lib.hid hk
  have HR1 := Lib.hid (rm_nil w)
  have HB1 : Hid (Below w.heap.size w (w.alloc (.cells #[] 5))) := Lib.hid ((Below.refl _ _).alloc (Nat.le_refl _) _)
  clear hk
  go_enter Tryd.func10, Tryd.ntmps10
  go_wp2_with fail
  go_loopw [5, 6] (fun v i wr => ∃ j : Nat, j ≤ 8 ∧ i = .int .i64 (56 - 8 * (j : Int)) ∧ Rm w.heap.size v ((eightL (u64n s)).take j) wr ∧ Below w.heap.size w wr) (fun _ i _ => (intOf i + 8).toNat)
  case atStart => exact ⟨0, by omega, rfl, by simpa using HR1.out, HB1.out⟩
  case round =>
    obtain ⟨j, hj, rfl, hr, hb⟩ := hrel
    have HR := Lib.hid hr
    have HB := Lib.hid hb
    clear hr hb HR1 HB1
    by_cases hlt : j < 8
    · have hge : (0 : Int) ≤ 56 - 8 * (j : Int) := by omega
      have hv := byte_ref s j hlt
      have HT := Lib.hid (eight_take (u64n s) j hlt)
      have HLN : Hid (((eightL (u64n s)).take j).length ≤ 8) := Lib.hid (by rw [List.length_take, eightL_length]; omega)
      generalize byteN (u64n s) j = y at hv HT
      go_wp2_with (at_builtin; refine app_m1 (y.toNat : Int) y rfl (.tmp 17) (.tmp 23) rfl rfl rfl rfl HR.out HB.out (by have := HLN.out; omega) ?_; intro v1 w1 hr hb; rw [← HT.out] at hr; have HR2 := Lib.hid hr; have HB2 := Lib.hid hb; clear hr hb)
      go_roundw
      case rel => exact ⟨j + 1, by omega, by go_num, HR2.out, HB2.out⟩
      case measure => simp [intOf]; omega
    · obtain rfl : j = 8 := by omega
      rw [show (eightL (u64n s)).take 8 = eightL (u64n s) from List.take_of_length_le (by rw [eightL_length]; exact Nat.le_refl _)] at HR
      have hcv := HR.out.conv
      have HM := Lib.hid (Mac_ref key (eightL (u64n s)) HK.out (by rw [eightL_length]; decide))
      have hml : (macL key (eightL (u64n s))).length = 32 := mac_length _ _
      have HCC : Hid (codeL key s = digs (numN (macL key (eightL (u64n s))))) := Lib.hid rfl
      generalize macL key (eightL (u64n s)) = m at HM hml HCC
      generalize eightL (u64n s) = e8 at HM hcv
      have hsz := size_ba m
      rw [hml] at hsz
      have h31 : 31 < m.length := by omega
      have hx : bits .and .u8 ((((⟨m.toArray⟩ : ByteArray)[31]'(by rw [hsz]; decide)).toNat : Int)) 15 = ((atL m : Nat) : Int) := by
        have ha : atL m = (m[31]).toNat % 16 := by simp [atL, List.getD, h31]
        rw [ha]; exact u8_and15 m[31]
      have hq16 := atL_lt m
      have HNU : Hid (∀ k, numTo m (k + 1) = numTo m k * 256 + (m.getD (atL m + k) 0).toNat) := Lib.hid (fun k => rfl)
      generalize atL m = q at hx hq16 HNU
      go_wp2_with fail
      refine (HM.out _).mono ?_
      rintro e w2 ⟨rfl, b2⟩
      have B2 := Lib.hid (HB.out.trans (b2.mono HB.out.size))
      clear b2 HM hcv HR HB
      have l0 : q < m.length := by omega
      have l1 : q + 1 < m.length := by omega
      have l2 : q + 2 < m.length := by omega
      have l3 : q + 3 < m.length := by omega
      have g0 : (m.getD q 0) = m[q] := by simp [List.getD, l0]
      have g1 : (m.getD (q + 1) 0) = m[q + 1] := by simp [List.getD, l1]
      have g2 : (m.getD (q + 2) 0) = m[q + 2] := by simp [List.getD, l2]
      have g3 : (m.getD (q + 3) 0) = m[q + 3] := by simp [List.getD, l3]
      have u0 := (m[q]).toNat_lt
      have u1 := (m[q + 1]).toNat_lt
      have u2 := (m[q + 2]).toNat_lt
      have u3 := (m[q + 3]).toNat_lt
      have s1 : numTo m 1 = 0 * 256 + (m.getD q 0).toNat := HNU.out 0
      have s2 : numTo m 2 = numTo m 1 * 256 + (m.getD (q + 1) 0).toNat := HNU.out 1
      have s3 : numTo m 3 = numTo m 2 * 256 + (m.getD (q + 2) 0).toNat := HNU.out 2
      have s4 : numTo m 4 = numTo m 3 * 256 + (m.getD (q + 3) 0).toNat := HNU.out 3
      rw [g0] at s1
      rw [g1] at s2
      rw [g2] at s3
      rw [g3] at s4
      have HNN : Hid (numN m = (m[q]).toNat % 128 * 16777216 + (m[q + 1]).toNat * 65536 + (m[q + 2]).toNat * 256 + (m[q + 3]).toNat) := Lib.hid (by
        show numTo m 4 % 2147483648 = _
        rw [s4, s3, s2, s1]
        omega)
      clear s1 s2 s3 s4 g0 g1 g2 g3 HNU
      obtain ⟨a0, ea⟩ : ∃ a0, a0 = (m[q]).toNat % 128 := ⟨_, rfl⟩
      obtain ⟨y1, ey1⟩ : ∃ y, y = (m[q + 1]).toNat := ⟨_, rfl⟩
      obtain ⟨y2, ey2⟩ : ∃ y, y = (m[q + 2]).toNat := ⟨_, rfl⟩
      obtain ⟨y3, ey3⟩ : ∃ y, y = (m[q + 3]).toNat := ⟨_, rfl⟩
      rw [← ea, ← ey1, ← ey2, ← ey3] at HNN
      rw [← ey1] at u1
      rw [← ey2] at u2
      rw [← ey3] at u3
      have p0 : a0 < 128 := by omega
      obtain ⟨n1, en1⟩ : ∃ n1, n1 = a0 * 16777216 + y1 * 65536 := ⟨_, rfl⟩
      obtain ⟨n2, en2⟩ : ∃ n2, n2 = n1 + y2 * 256 := ⟨_, rfl⟩
      have p1 : n1 < 2147483648 := by omega
      have p2 : n2 < 2147483648 := by omega
      have hNN : numN m = n2 + y3 := by rw [HNN.out, en2, en1]
      have v0 : bits .and .u8 ((((⟨m.toArray⟩ : ByteArray)[q]'(by rw [hsz]; omega)).toNat : Int)) 127 = ((a0 : Nat) : Int) := by
        rw [ea]; exact u8_and127 m[q]
      have wy1 : (((⟨m.toArray⟩ : ByteArray)[q + 1]'(by rw [hsz]; omega)).toNat : Int) = (y1 : Int) := by
        rw [ey1]; rfl
      have wy2 : (((⟨m.toArray⟩ : ByteArray)[q + 2]'(by rw [hsz]; omega)).toNat : Int) = (y2 : Int) := by
        rw [ey2]; rfl
      have wy3 : (((⟨m.toArray⟩ : ByteArray)[q + 3]'(by rw [hsz]; omega)).toNat : Int) = (y3 : Int) := by
        rw [ey3]; rfl
      have j1 : bits .or .i64 ((a0 : Int) * 16777216) ((y1 : Int) * 65536) = (n1 : Int) := by
        rw [show ((a0 : Int) * 16777216) = ((a0 * 16777216 : Nat) : Int) from by omega, show ((y1 : Int) * 65536) = ((y1 * 65536 : Nat) : Int) from by omega, i64_or _ _ (by omega) (by omega), nat_join 24 _ _ (by omega) (by omega), en1]
      have j2 : bits .or .i64 (n1 : Int) ((y2 : Int) * 256) = (n2 : Int) := by
        rw [show ((y2 : Int) * 256) = ((y2 * 256 : Nat) : Int) from by omega, i64_or _ _ (by omega) (by omega), nat_join 16 _ _ (by omega) (by omega), en2]
      have j3 : bits .or .i64 (n2 : Int) (y3 : Int) = ((numN m : Nat) : Int) := by
        rw [i64_or _ _ (by omega) (by omega), nat_join 8 _ _ (by omega) (by omega), hNN]
      have HN31 : Hid (numN m < 2147483648) := Lib.hid (by omega)
      clear hNN HNN ea ey1 ey2 ey3 en1 en2
      obtain ⟨N, hN⟩ : ∃ N, numN m = N := ⟨_, rfl⟩
      rw [hN] at j3 HN31 HCC
      clear hN
      have hn31 := HN31.out
      have r0 : (q : Int) < 32 := by omega
      have r1 : (q : Int) + 1 < 32 := by omega
      have r2 : (q : Int) + 2 < 32 := by omega
      have r3 : (q : Int) + 3 < 32 := by omega
      have r4 : (0 : Int) ≤ (q : Int) + 1 := by omega
      have r5 : (0 : Int) ≤ (q : Int) + 2 := by omega
      have r6 : (0 : Int) ≤ (q : Int) + 3 := by omega
      have t1 : ((q : Int) + 1).toNat = q + 1 := by omega
      have t2 : ((q : Int) + 2).toNat = q + 2 := by omega
      have t3 : ((q : Int) + 3).toNat = q + 3 := by omega
      go_wp2_with fail
      refine wp_region_quiet_lit (by kernel_rfl) (by kernel_rfl) ?_
      iterate 27 go_big_quiet_step (fail)
      refine wpQuiet_nil ?_
      intro _ hw'
      obtain ⟨nq, hw''⟩ := hw'
      subst hw''
      have HBq := Lib.hid ((Sm.drewN w2 nq).below B2.out)
      clear B2
      generalize w2.drewN nq = w3 at HBq ⊢
      have HRN := Lib.hid (rm_nil w3)
      have HAN := Lib.hid ((RowKit.Below.refl w3.heap.size w3).alloc (Nat.le_refl _) (.cells #[] 5))
      clear v0 wy1 wy2 wy3 j1 j2 j3 p0 p1 p2 u1 u2 u3 u0
      go_wp2_with fail
      go_loopw [10, 11] (fun v p wr => ∃ j : Nat, j ≤ 6 ∧ p = .int .i64 ((pw j : Nat) : Int) ∧ Rm w3.heap.size v ((digs N).take j) wr ∧ RowKit.Below w3.heap.size w3 wr) (fun _ p _ => (intOf p).toNat)
      case atStart => exact ⟨0, by omega, rfl, HRN.out, HAN.out⟩
      case round =>
        obtain ⟨j, hj, rfl, hr, hb⟩ := hrel
        have HR2 := Lib.hid hr
        have HB2 := Lib.hid hb
        clear hr hb HRN HAN
        have hc : j = 0 ∨ j = 1 ∨ j = 2 ∨ j = 3 ∨ j = 4 ∨ j = 5 ∨ j = 6 := by omega
        rcases hc with rfl | rfl | rfl | rfl | rfl | rfl | rfl
        · have HT : Hid ((digs N).take 1 = (digs N).take 0 ++ [UInt8.ofNat (48 + N / 100000 % 10)]) := Lib.hid rfl
          have HLN : Hid (((digs N).take 0).length ≤ 8) := Lib.hid (by rw [List.length_take, digs_length]; omega)
          rw [show pw 0 = 100000 from rfl]
          go_wp2_with (at_builtin; refine app_m1 _ (UInt8.ofNat (48 + N / 100000 % 10)) (by rw [UInt8.toNat_ofNat']; omega) (.tmp 64) (.tmp 71) rfl rfl rfl rfl HR2.out HB2.out (by have := HLN.out; omega) ?_; intro v1 w5 hr hb; rw [← HT.out] at hr; have HR3 := Lib.hid hr; have HB3 := Lib.hid hb; clear hr hb)
          go_roundw
          case rel => exact ⟨1, by omega, rfl, HR3.out, HB3.out⟩
          case measure => simp [intOf]
        · have HT : Hid ((digs N).take 2 = (digs N).take 1 ++ [UInt8.ofNat (48 + N / 10000 % 10)]) := Lib.hid rfl
          have HLN : Hid (((digs N).take 1).length ≤ 8) := Lib.hid (by rw [List.length_take, digs_length]; omega)
          rw [show pw 1 = 10000 from rfl]
          go_wp2_with (at_builtin; refine app_m1 _ (UInt8.ofNat (48 + N / 10000 % 10)) (by rw [UInt8.toNat_ofNat']; omega) (.tmp 64) (.tmp 71) rfl rfl rfl rfl HR2.out HB2.out (by have := HLN.out; omega) ?_; intro v1 w5 hr hb; rw [← HT.out] at hr; have HR3 := Lib.hid hr; have HB3 := Lib.hid hb; clear hr hb)
          go_roundw
          case rel => exact ⟨2, by omega, rfl, HR3.out, HB3.out⟩
          case measure => simp [intOf]
        · have HT : Hid ((digs N).take 3 = (digs N).take 2 ++ [UInt8.ofNat (48 + N / 1000 % 10)]) := Lib.hid rfl
          have HLN : Hid (((digs N).take 2).length ≤ 8) := Lib.hid (by rw [List.length_take, digs_length]; omega)
          rw [show pw 2 = 1000 from rfl]
          go_wp2_with (at_builtin; refine app_m1 _ (UInt8.ofNat (48 + N / 1000 % 10)) (by rw [UInt8.toNat_ofNat']; omega) (.tmp 64) (.tmp 71) rfl rfl rfl rfl HR2.out HB2.out (by have := HLN.out; omega) ?_; intro v1 w5 hr hb; rw [← HT.out] at hr; have HR3 := Lib.hid hr; have HB3 := Lib.hid hb; clear hr hb)
          go_roundw
          case rel => exact ⟨3, by omega, rfl, HR3.out, HB3.out⟩
          case measure => simp [intOf]
        · have HT : Hid ((digs N).take 4 = (digs N).take 3 ++ [UInt8.ofNat (48 + N / 100 % 10)]) := Lib.hid rfl
          have HLN : Hid (((digs N).take 3).length ≤ 8) := Lib.hid (by rw [List.length_take, digs_length]; omega)
          rw [show pw 3 = 100 from rfl]
          go_wp2_with (at_builtin; refine app_m1 _ (UInt8.ofNat (48 + N / 100 % 10)) (by rw [UInt8.toNat_ofNat']; omega) (.tmp 64) (.tmp 71) rfl rfl rfl rfl HR2.out HB2.out (by have := HLN.out; omega) ?_; intro v1 w5 hr hb; rw [← HT.out] at hr; have HR3 := Lib.hid hr; have HB3 := Lib.hid hb; clear hr hb)
          go_roundw
          case rel => exact ⟨4, by omega, rfl, HR3.out, HB3.out⟩
          case measure => simp [intOf]
        · have HT : Hid ((digs N).take 5 = (digs N).take 4 ++ [UInt8.ofNat (48 + N / 10 % 10)]) := Lib.hid rfl
          have HLN : Hid (((digs N).take 4).length ≤ 8) := Lib.hid (by rw [List.length_take, digs_length]; omega)
          rw [show pw 4 = 10 from rfl]
          go_wp2_with (at_builtin; refine app_m1 _ (UInt8.ofNat (48 + N / 10 % 10)) (by rw [UInt8.toNat_ofNat']; omega) (.tmp 64) (.tmp 71) rfl rfl rfl rfl HR2.out HB2.out (by have := HLN.out; omega) ?_; intro v1 w5 hr hb; rw [← HT.out] at hr; have HR3 := Lib.hid hr; have HB3 := Lib.hid hb; clear hr hb)
          go_roundw
          case rel => exact ⟨5, by omega, rfl, HR3.out, HB3.out⟩
          case measure => simp [intOf]
        · have HT : Hid ((digs N).take 6 = (digs N).take 5 ++ [UInt8.ofNat (48 + N / 1 % 10)]) := Lib.hid rfl
          have HLN : Hid (((digs N).take 5).length ≤ 8) := Lib.hid (by rw [List.length_take, digs_length]; omega)
          rw [show pw 5 = 1 from rfl]
          go_wp2_with (at_builtin; refine app_m1 _ (UInt8.ofNat (48 + N / 1 % 10)) (by rw [UInt8.toNat_ofNat']; omega) (.tmp 64) (.tmp 71) rfl rfl rfl rfl HR2.out HB2.out (by have := HLN.out; omega) ?_; intro v1 w5 hr hb; rw [← HT.out] at hr; have HR3 := Lib.hid hr; have HB3 := Lib.hid hb; clear hr hb)
          go_roundw
          case rel => exact ⟨6, by omega, rfl, HR3.out, HB3.out⟩
          case measure => simp [intOf]
        · rw [show (digs N).take 6 = digs N from rfl] at HR2
          have hcv := HR2.out.conv
          rw [show pw 6 = 0 from rfl]
          go_wp2_with fail
          go_ret
          exact ⟨by rw [HCC.out]; rfl, HBq.out.trans (HB2.out.mono HBq.out.size)⟩
end Go.Proofs.YteaanoaldnnflaaDoor
