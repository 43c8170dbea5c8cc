/- HashKeys: the walk. Condition: at most 2^47 bytes each. -/
import Derived.Test.YtocccgcbfhgbhaaRw
set_option linter.unusedVariables false
set_option linter.unusedSimpArgs false
namespace Go.Proofs.Ytocccgcbfhgbhaa
open Go.RowKit Go.Sort
namespace hashKeys
theorem fill_le (key : List UInt8) (h : key.length ≤ 64) : fillL key = key ++ List.replicate (64 - key.length) 0 := by
  unfold fillL
  rw [if_neg (by omega)]
theorem mac_long (key s : List UInt8) (h : 64 < key.length) : macL (sumL key) s = macL key s := by
  unfold macL
  rw [fill_le _ (by rw [sum_length]; omega)]
  have : fillL key = sumL key ++ List.replicate (64 - (sumL key).length) 0 := by unfold fillL; rw [if_pos h]
  rw [this]
/-- a key with q bytes 0 behind it -/
def lng (key : List UInt8) (q : Nat) : List UInt8 := key ++ List.replicate q 0
theorem lng_length (key : List UInt8) (q : Nat) : (lng key q).length = key.length + q := by simp [lng]
theorem lng_snoc (key : List UInt8) (q : Nat) : lng key q ++ [0] = lng key (q + 1) := by
  unfold lng
  rw [List.append_assoc, ← List.replicate_succ']
theorem mac_lng (key s : List UInt8) (q : Nat) (h : key.length + q ≤ 64) : macL (lng key q) s = macL key s := by
  unfold macL
  rw [fill_le _ (by rw [lng_length]; exact h), fill_le key (by omega), lng_length]
  unfold lng
  rw [List.append_assoc, List.replicate_append_replicate, show q + (64 - (key.length + q)) = 64 - key.length from by omega]
theorem xor_ne (x : UInt8) : x ^^^ 92 ≠ x ^^^ 54 := by
  intro h
  have := congrArg (x ^^^ ·) h
  simp only [← UInt8.xor_assoc, UInt8.xor_self, UInt8.zero_xor] at this
  exact absurd this (by decide)
/-- the first k of a list, turned -/
def tk (p : List UInt8) (c : UInt8) (k : Nat) : List UInt8 := (p.take k).map (· ^^^ c)
theorem tk_snoc (p : List UInt8) (c : UInt8) (k : Nat) (h : k < p.length) : tk p c k ++ [p[k] ^^^ c] = tk p c (k + 1) := by
  unfold tk
  rw [List.take_succ_eq_append_getElem h, List.map_append]; rfl
theorem tk_length (p : List UInt8) (c : UInt8) (k : Nat) : (tk p c k).length ≤ k := by unfold tk; rw [List.length_map, List.length_take]; omega
theorem tk_head (p : List UInt8) (j k : Nat) (a b : UInt8) (ha : (tk p 92 j).head? = some a) (hb : (tk p 54 k).head? = some b) : a ≠ b := by
  cases p with
  | nil => simp [tk] at ha
  | cons x l =>
    cases j with
    | zero => simp [tk] at ha
    | succ j =>
      cases k with
      | zero => simp [tk] at hb
      | succ k =>
        simp [tk] at ha hb
        rw [← ha, ← hb]; exact xor_ne x
theorem pad_get (key : List UInt8) (k : Nat) (hk : k < 64) (h : key.length ≤ 64) : (fillL key)[k]'(by rw [fill_length]; exact hk) = key.getD k 0 := by
  simp only [fill_le key h]
  by_cases hl : k < key.length
  · rw [List.getElem_append_left hl]; simp [List.getD, hl]
  · rw [List.getElem_append_right (by omega)]; simp [List.getD, List.getElem?_eq_none (show key.length ≤ k by omega)]

theorem pad_getD (key : List UInt8) (k : Nat) (hk : k < 64) (h : key.length ≤ 64) : (fillL key).getD k 0 = key.getD k 0 := by
  rw [← pad_get key k hk h]
  have : k < (fillL key).length := by rw [fill_length]; exact hk
  simp [List.getD, this]

set_option maxHeartbeats 8000000 in
set_option maxRecDepth 100000 in
theorem long (key s : List UInt8) (n : Int) (w : World) (hk : key.length ≤ 140737488355328) (hs : s.length ≤ 140737488355328) (h : 64 < key.length) :
    Calls Try.prog 7 #[.string ⟨key.toArray⟩, .string ⟨s.toArray⟩, .int .i64 n] w fun e w' => e = .returned (.bool true) ∧ Below w.heap.size w w' := by
  have H1 := Lib.hid (Mac_any key s (by omega) (by omega))
  have H2 := Lib.hid (sum_any s (by omega))
  have H3 := Lib.hid (sum_any key (by omega))
  have H4 := Lib.hid (Mac_any (sumL key) s (by rw [sum_length]; omega) (by omega))
  rw [mac_long key s h] at H4
  have hks := size_ba key
  have h64 : (64 : Int) < (key.length : Int) := by omega
  have m1 := size_ba (macL key s)
  have m2 := mac_len key s
  have s1 := size_ba (sumL s)
  have s2 := sum_length s
  generalize macL key s = m at H1 H4 m1 m2
  generalize sumL s = x at H2 s1 s2
  generalize sumL key = y at H3 H4
  clear hk hs
  go_enter Try.func7, Try.ntmps7
  go_wp2_with fail
  refine (awake_any _).mono ?_
  rintro e w1 ⟨rfl, b1⟩
  have B1 := Lib.hid b1
  clear b1
  go_wp2_with fail
  refine (H1.out _).mono ?_
  rintro e w2 ⟨rfl, b2⟩
  have B2 := Lib.hid (B1.out.trans (b2.mono B1.out.size))
  clear b2 B1
  go_wp2_with fail
  refine (H2.out _).mono ?_
  rintro e w3 ⟨rfl, b3⟩
  have B3 := Lib.hid (B2.out.trans (b3.mono B2.out.size))
  clear b3 B2
  go_wp2_with fail
  refine (H3.out _).mono ?_
  rintro e w4 ⟨rfl, b4⟩
  have B4 := Lib.hid (B3.out.trans (b4.mono B3.out.size))
  clear b4 B3
  go_wp2_with fail
  refine (H4.out _).mono ?_
  rintro e w5 ⟨rfl, b5⟩
  have B5 := Lib.hid (B4.out.trans (b5.mono B4.out.size))
  clear b5 B4
  go_wp2_with fail
  go_ret
  exact ⟨rfl, B5.out⟩

set_option maxHeartbeats 8000000 in
set_option maxRecDepth 100000 in
theorem short (key s : List UInt8) (n : Int) (w : World) (hk : key.length ≤ 64) (hs : s.length ≤ 140737488355328) (hn : -9223372036854775808 ≤ n ∧ n ≤ 9223372036854775807) :
    Calls Try.prog 7 #[.string ⟨key.toArray⟩, .string ⟨s.toArray⟩, .int .i64 n] w fun e w' => e = .returned (.bool true) ∧ Below w.heap.size w w' := by
  have H1 := Lib.hid (Mac_any key s (by omega) (by omega))
  have H2 := Lib.hid (sum_any s (by omega))
  have HL := Lib.hid hk
  have HSL := Lib.hid hs
  have hks := size_ba key
  have hss := size_ba s
  have h64 : ¬ ((64 : Int) < (key.length : Int)) := by omega
  have hsl : (s.length : Int) ≤ 140737488355328 := by omega
  have m1 := size_ba (macL key s)
  have m2 := mac_len key s
  have s1 := size_ba (sumL s)
  have s2 := sum_length s
  have HPL := Lib.hid (fill_length key)
  have HPG := Lib.hid (fun k hk' => pad_getD key k hk' hk)
  have HMK : Hid (macL key s = sumL (turnedL (fillL key) 92 ++ sumL (turnedL (fillL key) 54 ++ s))) := Lib.hid rfl
  have HQK := Lib.hid (mac_lng key s)
  generalize macL key s = m at H1 HMK HQK m1 m2
  generalize sumL s = x at H2 s1 s2
  generalize fillL key = p at HPL HPG HMK
  clear hk hs
  go_enter Try.func7, Try.ntmps7
  go_wp2_with fail
  refine (awake_any _).mono ?_
  rintro e w1 ⟨rfl, b1⟩
  have B1 := Lib.hid b1
  clear b1
  go_wp2_with fail
  refine (H1.out _).mono ?_
  rintro e w2 ⟨rfl, b2⟩
  have B2 := Lib.hid (B1.out.trans (b2.mono B1.out.size))
  clear b2 B1 H1
  go_wp2_with fail
  refine (H2.out _).mono ?_
  rintro e w3 ⟨rfl, b3⟩
  have B3 := Lib.hid (B2.out.trans (b3.mono B2.out.size))
  clear b3 B2 H2
  go_wp2_with fail
  clear s1 s2
  have HT0 : Hid (Two w3 ((w3.alloc (.cells #[] 5)).alloc (.cells #[] 5)) (.slice (some ⟨w3.heap.size, 0, none⟩) 0 0) (.slice (some ⟨w3.heap.size + 1, 0, none⟩) 0 0) (tk p 92 0) (tk p 54 0)) := Lib.hid (by
    refine ⟨⟨rfl, .inr ⟨w3.heap.size, 0, #[], rfl, Nat.le_refl _, alloc2a w3 _ _, Nat.le_refl _, Nat.zero_le _, rfl, rfl⟩⟩, ⟨rfl, .inr ⟨w3.heap.size + 1, 0, #[], rfl, Nat.le_succ _, alloc2b w3 _ _, Nat.le_refl _, Nat.zero_le _, rfl, rfl⟩⟩, fun g hg hg' => ?_, fun _ g hg => ?_, fun _ g hg => ?_, ((Below.refl _ _).alloc (Nat.le_refl _) _).alloc (by simp) _⟩
    · cases hg; simp [Value.ownBlock] at hg'
    · cases hg; exact ⟨by simp; omega, (blk_cell (alloc2a w3 _ _) 0).trans rfl⟩
    · cases hg; exact ⟨by simp, (blk_cell (alloc2b w3 _ _) 0).trans rfl⟩)
  go_loopw [8, 9, 10] (fun va vb i wr => ∃ k : Nat, k ≤ 64 ∧ i = .int .i64 k ∧ Two w3 wr va vb (tk p 92 k) (tk p 54 k)) (fun _ _ i _ => 64 - (intOf i).toNat)
  case atStart => exact ⟨0, by omega, rfl, HT0.out⟩
  case round =>
    obtain ⟨k, hk, rfl, hT⟩ := hrel
    have HT := Lib.hid hT
    clear hT HT0
    by_cases hlt : k < 64
    · have HPk := Lib.hid (HPG.out k hlt)
      have HS1 := Lib.hid (tk_snoc p 92 k (by rw [HPL.out]; exact hlt))
      have HS2 := Lib.hid (tk_snoc p 54 k (by rw [HPL.out]; exact hlt))
      rw [show p[k]'(by rw [HPL.out]; exact hlt) = key.getD k 0 from by rw [← HPk.out]; simp [List.getD, show k < p.length by rw [HPL.out]; exact hlt]] at HS1 HS2
      have hx1 : bits .xor .u8 ((key.getD k 0).toNat : Int) 92 = ((key.getD k 0 ^^^ 92).toNat : Int) := xorB (key.getD k 0) 92
      have hx2 : bits .xor .u8 ((key.getD k 0).toNat : Int) 54 = ((key.getD k 0 ^^^ 54).toNat : Int) := xorB (key.getD k 0) 54
      generalize hcc : key.getD k 0 = cc at HS1 HS2 hx1 hx2
      generalize cc ^^^ 92 = y1 at HS1 hx1
      generalize cc ^^^ 54 = y2 at HS2 hx2
      by_cases hkl : k < key.length
      · have HG : Hid ((((⟨key.toArray⟩ : ByteArray)[k]'(by rw [hks]; exact hkl)).toNat : Int) = (cc.toNat : Int)) := Lib.hid (by
          have : key.getD k 0 = key[k] := by simp [List.getD, hkl]
          rw [← hcc, this]; rfl)
        have hgd := HG.out
        clear hcc HG
        go_upto_region 16 with (at_builtin; refine app_two _ y1 rfl (.tmp 50) (.tmp 53) rfl rfl rfl rfl HT.out (by have := tk_length p 92 k; omega) (by rw [HS1.out]; exact fun a b ha hb => tk_head p _ _ a b ha hb) ?_; intro va' w5 HT5)
        have HT6 := Lib.hid HT5
        rw [HS1.out] at HT6
        clear HT5
        go_wp2_with (at_builtin; refine app_two _ y2 rfl (.tmp 55) (.tmp 58) rfl rfl rfl rfl HT6.out.swap (by have := tk_length p 54 k; omega) (by rw [HS2.out]; exact fun a b ha hb => (tk_head p _ _ b a hb ha).symm) ?_; intro vb' w6 HT7)
        have HT8 := Lib.hid HT7.swap
        rw [HS2.out] at HT8
        clear HT7
        go_wp2_with fail
        go_roundw
        case rel => exact ⟨k + 1, by omega, by go_num, HT8.out⟩
        case measure => simp [intOf]; omega
      · have h0 : cc = 0 := by rw [← hcc]; simp [List.getD, List.getElem?_eq_none (show key.length ≤ k by omega)]
        clear hcc
        subst h0
        have hx3 : bits .xor .u8 0 92 = (y1.toNat : Int) := hx1
        have hx4 : bits .xor .u8 0 54 = (y2.toNat : Int) := hx2
        clear hx1 hx2
        go_upto_region 16 with (at_builtin; refine app_two _ y1 rfl (.tmp 50) (.tmp 53) rfl rfl rfl rfl HT.out (by have := tk_length p 92 k; omega) (by rw [HS1.out]; exact fun a b ha hb => tk_head p _ _ a b ha hb) ?_; intro va' w5 HT5)
        have HT6 := Lib.hid HT5
        rw [HS1.out] at HT6
        clear HT5
        go_wp2_with (at_builtin; refine app_two _ y2 rfl (.tmp 55) (.tmp 58) rfl rfl rfl rfl HT6.out.swap (by have := tk_length p 54 k; omega) (by rw [HS2.out]; exact fun a b ha hb => (tk_head p _ _ b a hb ha).symm) ?_; intro vb' w6 HT7)
        have HT8 := Lib.hid HT7.swap
        rw [HS2.out] at HT8
        clear HT7
        go_wp2_with fail
        go_roundw
        case rel => exact ⟨k + 1, by omega, by go_num, HT8.out⟩
        case measure => simp [intOf]; omega
    · obtain rfl : k = 64 := by omega
      have ta : tk p 92 64 = turnedL p 92 := by unfold tk turnedL; rw [List.take_of_length_le (by rw [HPL.out]; omega)]
      have tb : tk p 54 64 = turnedL p 54 := by unfold tk turnedL; rw [List.take_of_length_le (by rw [HPL.out]; omega)]
      rw [ta, tb] at HT
      clear ta tb
      have la : (turnedL p 92).length ≤ 64 := by rw [turned_length, HPL.out]; omega
      have lb : (turnedL p 54).length ≤ 64 := by rw [turned_length, HPL.out]; omega
      have HC := Lib.hid (rg (w := wr) (sum_any (turnedL p 54 ++ s) (by rw [List.length_append]; have := HSL.out; omega)))
      have HD := Lib.hid (rg (w := wr) (sum_any (turnedL p 92 ++ sumL (turnedL p 54 ++ s)) (by rw [List.length_append, sum_length]; omega)))
      rw [← HMK.out] at HD
      have l3 : (sumL (turnedL p 54 ++ s)).length ≤ 32 := by rw [sum_length]; omega
      have a1 := app_ba (turnedL p 54) s
      have a2 := app_ba (turnedL p 92) (sumL (turnedL p 54 ++ s))
      generalize turnedL p 92 ++ sumL (turnedL p 54 ++ s) = x2 at a2 HD
      generalize sumL (turnedL p 54 ++ s) = m1 at a2 HC l3
      generalize turnedL p 54 ++ s = x1 at a1 HC
      generalize turnedL p 54 = t1 at a1 lb HT
      generalize turnedL p 92 = t2 at a2 la HT
      have hca : ∀ d os, (convert 33 9 u8).run Try.prog (grow (redrawn wr d) os) = .ok (.string ⟨t2.toArray⟩) (grow (redrawn wr d) os) := fun d os => (HT.out.a.below (below_regrown wr d os)).conv
      have hcb : ∀ d os, (convert 33 9 u9).run Try.prog (grow (redrawn wr d) os) = .ok (.string ⟨t1.toArray⟩) (grow (redrawn wr d) os) := fun d os => (HT.out.b.below (below_regrown wr d os)).conv
      have HBW := Lib.hid (B3.out.trans (HT.out.below.mono B3.out.size))
      clear HT HPG HMK HPL
      go_wp2_with fail
      refine wp_region_quiet_below mixed (by kernel_rfl) ?_
      iterate 7 (first | go_big_quiet_step (fail) | quiet_step (fail))
      go_big_quiet_step (exact HC.out _ _)
      go_big_quiet_step (fail)
      go_big_quiet_step (exact HD.out _ _)
      go_big_quiet_step (fail)
      refine wpQuiet_nil ?_
      intro _ hw'
      obtain ⟨⟨dq, osq⟩, hw''⟩ := hw'
      subst hw''
      have HQ := Lib.hid (HBW.out.trans ((below_regrown wr dq osq).mono HBW.out.size))
      generalize grow (redrawn wr dq) osq = wq at HQ ⊢
      clear HC HD hca hcb a1 a2 l3 la lb HBW
      go_wp2_with fail
      go_loopw [12, 13] (fun l i wr => ∃ q : Nat, key.length + q ≤ 64 ∧ i = .int .i64 q ∧ l = .string ⟨(lng key q).toArray⟩ ∧ Below w.heap.size w wr) (fun _ i _ => 64 - (intOf i).toNat)
      case atStart => exact ⟨0, by have := HL.out; omega, rfl, by simp [lng], HQ.out⟩
      case round =>
        obtain ⟨q, hq, rfl, rfl, hb⟩ := hrel
        have HB := Lib.hid hb
        have HQL := Lib.hid hq
        clear hb
        have hls := size_ba (lng key q)
        have hll := lng_length key q
        have hsn := app_ba (lng key q) [0]
        rw [lng_snoc] at hsn
        have HM := Lib.hid (Mac_any (lng key q) s (by rw [lng_length]; omega) (by have := HSL.out; omega))
        rw [HQK.out q HQL.out] at HM
        generalize hlq : lng key q = L at HM hsn hls hll
        clear hlq
        by_cases hqn : (q : Int) < n
        · by_cases hq64 : key.length + q < 64
          · have hL64 : L.length < 64 := by omega
            have hL65 : (L.length : Int) < 64 := by omega
            have hqi : (key.length : Int) + (q : Int) < 64 := by omega
            go_wp2_with fail
            go_roundw
            case rel => exact ⟨q + 1, by omega, by go_num, rfl, HB.out⟩
            case measure => simp [intOf]; omega
          · have hL64 : ¬ L.length < 64 := by omega
            have hL65 : ¬ (L.length : Int) < 64 := by omega
            have hqi : ¬ (key.length : Int) + (q : Int) < 64 := by omega
            go_wp2_with fail
            refine (HM.out _).mono ?_
            rintro e w7 ⟨rfl, b7⟩
            have HB7 := Lib.hid (HB.out.trans (b7.mono HB.out.size))
            clear b7 HB
            go_wp2_with fail
            go_ret
            exact ⟨rfl, HB7.out⟩
        · go_wp2_with fail
          refine (HM.out _).mono ?_
          rintro e w7 ⟨rfl, b7⟩
          have HB7 := Lib.hid (HB.out.trans (b7.mono HB.out.size))
          clear b7 HB
          go_wp2_with fail
          go_ret
          exact ⟨rfl, HB7.out⟩
theorem walk (key s : List UInt8) (n : Int) (w : World) (hk : key.length ≤ 140737488355328) (hs : s.length ≤ 140737488355328) (hn : -9223372036854775808 ≤ n ∧ n ≤ 9223372036854775807) :
    Calls Try.prog 7 #[.string ⟨key.toArray⟩, .string ⟨s.toArray⟩, .int .i64 n] w fun e w' => e = .returned (.bool true) ∧ Below w.heap.size w w' := by
  by_cases h : 64 < key.length
  · exact long key s n w hk hs h
  · exact short key s n w (by omega) hs hn
end hashKeys
end Go.Proofs.Ytocccgcbfhgbhaa
