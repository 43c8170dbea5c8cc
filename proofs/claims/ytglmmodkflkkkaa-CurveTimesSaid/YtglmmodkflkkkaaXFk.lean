import Derived.Test.YtglmmodkflkkkaaXFa
import Derived.Test.YtglmmodkflkkkaaXNa
import Derived.Deep.QuietTactic
set_option linter.unusedVariables false
set_option linter.unusedSimpArgs false
set_option maxRecDepth 100000
namespace Go.Proofs.Ytglmmodkflkkkaa.Ref
open Go.RowKit Go.Proofs.Ytglmmodkflkkkaa.Digits Limbs
def four (x : Nat) : List Nat := [x % 65536, x / 65536 % 65536, x / 4294967296 % 65536, x / 281474976710656 % 65536]
def all4 (a b c d : Nat) : List Nat := four a ++ four b ++ four c ++ four d
def wd (a b c d : Nat) : Nat → Nat
  | 0 => a
  | 1 => b
  | 2 => c
  | _ => d
def sh : Nat → Nat
  | 0 => 1
  | 1 => 65536
  | 2 => 4294967296
  | _ => 281474976710656
theorem all_take (a b c d : Nat) {j k : Nat} (hj : j < 4) (hk : k < 4) : (all4 a b c d).take (4 * j + (k + 1)) = (all4 a b c d).take (4 * j + k) ++ [wd a b c d j / sh k % 65536] := by
  have hj' : j = 0 ∨ j = 1 ∨ j = 2 ∨ j = 3 := by omega
  have hk' : k = 0 ∨ k = 1 ∨ k = 2 ∨ k = 3 := by omega
  rcases hj' with rfl | rfl | rfl | rfl <;> rcases hk' with rfl | rfl | rfl | rfl <;> simp [all4, four, wd, sh]
theorem all_dig (a b c d : Nat) : Dig (all4 a b c d) := by
  intro x hx
  simp only [all4, four, List.mem_append, List.mem_cons, List.not_mem_nil, or_false] at hx
  omega
theorem four_val {x : Nat} (h : x < 18446744073709551616) (l : List Nat) : val (four x ++ l) = x + 18446744073709551616 * val l := by
  rw [val_append]
  simp only [four, val, List.length_cons, List.length_nil]
  omega
theorem all_val {a b c d : Nat} (ha : a < 18446744073709551616) (hb : b < 18446744073709551616) (hc : c < 18446744073709551616) (hd : d < 18446744073709551616) : val (all4 a b c d) = a + 18446744073709551616 * (b + 18446744073709551616 * (c + 18446744073709551616 * d)) := by
  have e := four_val hd []
  rw [List.append_nil] at e
  rw [all4, List.append_assoc, List.append_assoc, four_val ha, four_val hb, four_val hc, e]
  simp [val]
theorem and64 (n : Nat) (h : n < 18446744073709551616) : bits .and .u64 (n : Int) 65535 = ((n % 65536 : Nat) : Int) := by
  have := u64_and_nat n 65535 h (by decide)
  rw [show ((65535 : Nat) : Int) = 65535 from rfl, show (65535 : Nat) = 2 ^ 16 - 1 from rfl, Nat.and_two_pow_sub_one_eq_mod] at this
  exact this
set_option maxHeartbeats 8000000 in
theorem in_any (x : Nat) (hx : x < W256) (w : World) :
    Calls Try.prog 14 #[nv x] w fun e w' => ∃ v', e = .returned v' ∧ Nr w w' v' x := by
  have HBW := Lib.hid ((Below.refl w.heap.size w).alloc (Nat.le_refl _) (.cells #[.int .u64 (lb x 0 : Nat), .int .u64 (lb x 1 : Nat), .int .u64 (lb x 2 : Nat), .int .u64 (lb x 3 : Nat)] 24))
  have K0 : Hid (Bk 24 (w.alloc (.cells #[.int .u64 (lb x 0 : Nat), .int .u64 (lb x 1 : Nat), .int .u64 (lb x 2 : Nat), .int .u64 (lb x 3 : Nat)] 24)) w.heap.size #[.int .u64 (lb x 0 : Nat), .int .u64 (lb x 1 : Nat), .int .u64 (lb x 2 : Nat), .int .u64 (lb x 3 : Nat)]) := Lib.hid (Bk.new rfl)
  simp only [nv, num]
  have HL : Hid (lb x 0 < 18446744073709551616 ∧ lb x 1 < 18446744073709551616 ∧ lb x 2 < 18446744073709551616 ∧ lb x 3 < 18446744073709551616) := Lib.hid ⟨lb_lt x 0, lb_lt x 1, lb_lt x 2, lb_lt x 3⟩
  obtain ⟨B, hB⟩ : ∃ z, z = all4 (lb x 0) (lb x 1) (lb x 2) (lb x 3) := ⟨_, rfl⟩
  have HAll := Lib.hid hB
  clear hB
  have HX := Lib.hid hx
  clear hx
  go_enter Try.func14, Try.ntmps14
  go_wp2_with fail
  have HR0 := Lib.hid (Rd.nil (w.alloc (.cells #[.int .u64 (lb x 0 : Nat), .int .u64 (lb x 1 : Nat), .int .u64 (lb x 2 : Nat), .int .u64 (lb x 3 : Nat)] 24)))
  have HB0 : Hid (Below (w.alloc (.cells #[.int .u64 (lb x 0 : Nat), .int .u64 (lb x 1 : Nat), .int .u64 (lb x 2 : Nat), .int .u64 (lb x 3 : Nat)] 24)).heap.size (w.alloc (.cells #[.int .u64 (lb x 0 : Nat), .int .u64 (lb x 1 : Nat), .int .u64 (lb x 2 : Nat), .int .u64 (lb x 3 : Nat)] 24)) ((w.alloc (.cells #[.int .u64 (lb x 0 : Nat), .int .u64 (lb x 1 : Nat), .int .u64 (lb x 2 : Nat), .int .u64 (lb x 3 : Nat)] 24)).alloc (.cells #[] 75))) := Lib.hid ((Below.refl _ _).alloc (Nat.le_refl _) _)
  generalize hW : (w.alloc (.cells #[.int .u64 (lb x 0 : Nat), .int .u64 (lb x 1 : Nat), .int .u64 (lb x 2 : Nat), .int .u64 (lb x 3 : Nat)] 24)) = W at *
  have hWs : W.heap.size = w.heap.size + 1 := by rw [← hW]; simp
  rw [← hWs]
  have HWS := Lib.hid hWs
  clear hWs hW
  refine wp_loop_rounds 5 ?_
  rw [rounds_succ]
  go_wp2_with fail
  go_loopw [3, 5] (fun o i wr => ∃ k : Nat, k ≤ 4 ∧ i = .int .i64 (k : Int) ∧ Rd W.heap.size o (B.take (4 * 0 + k)) wr ∧ Below W.heap.size W wr) (fun _ i _ => 4 - (intOf i).toNat)
  case atStart => exact ⟨0, by omega, rfl, HR0.out, HB0.out⟩
  case round =>
    clear HR0 HB0
    obtain ⟨k, hk, rfl, hr, hb⟩ := hrel
    have HR := Lib.hid hr
    have HW := Lib.hid hb
    clear hr hb
    by_cases hlt : k < 4
    · have hk4 : k = 0 ∨ k = 1 ∨ k = 2 ∨ k = 3 := by omega
      have ic : wr.cell? ⟨w.heap.size, 0, none⟩ = some (.int .u64 (lb x 0 : Nat)) := (HW.out.cell (p := ⟨w.heap.size, 0, none⟩) K0.out.lt).trans (K0.out.cell 0)
      clear hk
      rcases hk4 with rfl | rfl | rfl | rfl
      · obtain ⟨q, hq⟩ : ∃ q, q = lb x 0 / 1 := ⟨_, rfl⟩
        obtain ⟨D, hD⟩ : ∃ D, D = q % 65536 := ⟨_, rfl⟩
        have hT : Hid (B.take (4 * 0 + (0 + 1)) = B.take (4 * 0 + 0) ++ [D]) := Lib.hid (by rw [HAll.out, hD, hq]; exact all_take (lb x 0) (lb x 1) (lb x 2) (lb x 3) (j := 0) (k := 0) (by decide) (by decide))
        have hql : q < 18446744073709551616 := by have := HL.out; omega
        have h1 : bits .and .u64 (q : Int) 65535 = (D : Int) := by rw [hD]; exact and64 q hql
        have h2 : (D : Int) % 4294967296 = (D : Int) := by omega
        have h3 : lb x 0 = q := by rw [hq, Nat.div_one]
        rw [h3] at ic
        clear hq hD hql h3
        go_wp2_with (at_builtin; refine app_d _ D rfl (.tmp 15) (.tmp 24) rfl rfl rfl rfl HR.out HW.out (by rw [List.length_take]; omega) ?_; intro v1 w1 hr hb; have HR2 := Lib.hid hr; have HW2 := Lib.hid hb; clear hr hb)
        go_roundw
        case rel => exact ⟨0 + 1, by omega, by go_num, by rw [hT.out]; exact HR2.out, HW2.out⟩
        case measure => simp [intOf]
      · obtain ⟨q, hq⟩ : ∃ q, q = lb x 0 / 65536 := ⟨_, rfl⟩
        obtain ⟨D, hD⟩ : ∃ D, D = q % 65536 := ⟨_, rfl⟩
        have hT : Hid (B.take (4 * 0 + (1 + 1)) = B.take (4 * 0 + 1) ++ [D]) := Lib.hid (by rw [HAll.out, hD, hq]; exact all_take (lb x 0) (lb x 1) (lb x 2) (lb x 3) (j := 0) (k := 1) (by decide) (by decide))
        have hql : q < 18446744073709551616 := by have := HL.out; omega
        have h1 : bits .and .u64 (q : Int) 65535 = (D : Int) := by rw [hD]; exact and64 q hql
        have h2 : (D : Int) % 4294967296 = (D : Int) := by omega
        have h3 : ((lb x 0 : Nat) : Int) / 65536 = (q : Int) := by rw [hq]; omega
        clear hq hD hql
        go_wp2_with (at_builtin; refine app_d _ D rfl (.tmp 15) (.tmp 24) rfl rfl rfl rfl HR.out HW.out (by rw [List.length_take]; omega) ?_; intro v1 w1 hr hb; have HR2 := Lib.hid hr; have HW2 := Lib.hid hb; clear hr hb)
        go_roundw
        case rel => exact ⟨1 + 1, by omega, by go_num, by rw [hT.out]; exact HR2.out, HW2.out⟩
        case measure => simp [intOf]
      · obtain ⟨q, hq⟩ : ∃ q, q = lb x 0 / 4294967296 := ⟨_, rfl⟩
        obtain ⟨D, hD⟩ : ∃ D, D = q % 65536 := ⟨_, rfl⟩
        have hT : Hid (B.take (4 * 0 + (2 + 1)) = B.take (4 * 0 + 2) ++ [D]) := Lib.hid (by rw [HAll.out, hD, hq]; exact all_take (lb x 0) (lb x 1) (lb x 2) (lb x 3) (j := 0) (k := 2) (by decide) (by decide))
        have hql : q < 18446744073709551616 := by have := HL.out; omega
        have h1 : bits .and .u64 (q : Int) 65535 = (D : Int) := by rw [hD]; exact and64 q hql
        have h2 : (D : Int) % 4294967296 = (D : Int) := by omega
        have h3 : ((lb x 0 : Nat) : Int) / 4294967296 = (q : Int) := by rw [hq]; omega
        clear hq hD hql
        go_wp2_with (at_builtin; refine app_d _ D rfl (.tmp 15) (.tmp 24) rfl rfl rfl rfl HR.out HW.out (by rw [List.length_take]; omega) ?_; intro v1 w1 hr hb; have HR2 := Lib.hid hr; have HW2 := Lib.hid hb; clear hr hb)
        go_roundw
        case rel => exact ⟨2 + 1, by omega, by go_num, by rw [hT.out]; exact HR2.out, HW2.out⟩
        case measure => simp [intOf]
      · obtain ⟨q, hq⟩ : ∃ q, q = lb x 0 / 281474976710656 := ⟨_, rfl⟩
        obtain ⟨D, hD⟩ : ∃ D, D = q % 65536 := ⟨_, rfl⟩
        have hT : Hid (B.take (4 * 0 + (3 + 1)) = B.take (4 * 0 + 3) ++ [D]) := Lib.hid (by rw [HAll.out, hD, hq]; exact all_take (lb x 0) (lb x 1) (lb x 2) (lb x 3) (j := 0) (k := 3) (by decide) (by decide))
        have hql : q < 18446744073709551616 := by have := HL.out; omega
        have h1 : bits .and .u64 (q : Int) 65535 = (D : Int) := by rw [hD]; exact and64 q hql
        have h2 : (D : Int) % 4294967296 = (D : Int) := by omega
        have h3 : ((lb x 0 : Nat) : Int) / 281474976710656 = (q : Int) := by rw [hq]; omega
        clear hq hD hql
        go_wp2_with (at_builtin; refine app_d _ D rfl (.tmp 15) (.tmp 24) rfl rfl rfl rfl HR.out HW.out (by rw [List.length_take]; omega) ?_; intro v1 w1 hr hb; have HR2 := Lib.hid hr; have HW2 := Lib.hid hb; clear hr hb)
        go_roundw
        case rel => exact ⟨3 + 1, by omega, by go_num, by rw [hT.out]; exact HR2.out, HW2.out⟩
        case measure => simp [intOf]
    · obtain rfl : k = 4 := by omega
      go_wp2_with fail
      have HR1 := HR
      have HB1 := HW
      rw [rounds_succ]
      go_wp2_with fail
      go_loopw [3, 5] (fun o i wr => ∃ k : Nat, k ≤ 4 ∧ i = .int .i64 (k : Int) ∧ Rd W.heap.size o (B.take (4 * 1 + k)) wr ∧ Below W.heap.size W wr) (fun _ i _ => 4 - (intOf i).toNat)
      case atStart => exact ⟨0, by omega, rfl, HR1.out, HB1.out⟩
      case round =>
        clear HR1 HB1
        obtain ⟨k, hk, rfl, hr, hb⟩ := hrel
        have HR := Lib.hid hr
        have HW := Lib.hid hb
        clear hr hb
        by_cases hlt : k < 4
        · have hk4 : k = 0 ∨ k = 1 ∨ k = 2 ∨ k = 3 := by omega
          have ic : wr.cell? ⟨w.heap.size, 1, none⟩ = some (.int .u64 (lb x 1 : Nat)) := (HW.out.cell (p := ⟨w.heap.size, 1, none⟩) K0.out.lt).trans (K0.out.cell 1)
          clear hk
          rcases hk4 with rfl | rfl | rfl | rfl
          · obtain ⟨q, hq⟩ : ∃ q, q = lb x 1 / 1 := ⟨_, rfl⟩
            obtain ⟨D, hD⟩ : ∃ D, D = q % 65536 := ⟨_, rfl⟩
            have hT : Hid (B.take (4 * 1 + (0 + 1)) = B.take (4 * 1 + 0) ++ [D]) := Lib.hid (by rw [HAll.out, hD, hq]; exact all_take (lb x 0) (lb x 1) (lb x 2) (lb x 3) (j := 1) (k := 0) (by decide) (by decide))
            have hql : q < 18446744073709551616 := by have := HL.out; omega
            have h1 : bits .and .u64 (q : Int) 65535 = (D : Int) := by rw [hD]; exact and64 q hql
            have h2 : (D : Int) % 4294967296 = (D : Int) := by omega
            have h3 : lb x 1 = q := by rw [hq, Nat.div_one]
            rw [h3] at ic
            clear hq hD hql h3
            go_wp2_with (at_builtin; refine app_d _ D rfl (.tmp 15) (.tmp 24) rfl rfl rfl rfl HR.out HW.out (by rw [List.length_take]; omega) ?_; intro v1 w1 hr hb; have HR2 := Lib.hid hr; have HW2 := Lib.hid hb; clear hr hb)
            go_roundw
            case rel => exact ⟨0 + 1, by omega, by go_num, by rw [hT.out]; exact HR2.out, HW2.out⟩
            case measure => simp [intOf]
          · obtain ⟨q, hq⟩ : ∃ q, q = lb x 1 / 65536 := ⟨_, rfl⟩
            obtain ⟨D, hD⟩ : ∃ D, D = q % 65536 := ⟨_, rfl⟩
            have hT : Hid (B.take (4 * 1 + (1 + 1)) = B.take (4 * 1 + 1) ++ [D]) := Lib.hid (by rw [HAll.out, hD, hq]; exact all_take (lb x 0) (lb x 1) (lb x 2) (lb x 3) (j := 1) (k := 1) (by decide) (by decide))
            have hql : q < 18446744073709551616 := by have := HL.out; omega
            have h1 : bits .and .u64 (q : Int) 65535 = (D : Int) := by rw [hD]; exact and64 q hql
            have h2 : (D : Int) % 4294967296 = (D : Int) := by omega
            have h3 : ((lb x 1 : Nat) : Int) / 65536 = (q : Int) := by rw [hq]; omega
            clear hq hD hql
            go_wp2_with (at_builtin; refine app_d _ D rfl (.tmp 15) (.tmp 24) rfl rfl rfl rfl HR.out HW.out (by rw [List.length_take]; omega) ?_; intro v1 w1 hr hb; have HR2 := Lib.hid hr; have HW2 := Lib.hid hb; clear hr hb)
            go_roundw
            case rel => exact ⟨1 + 1, by omega, by go_num, by rw [hT.out]; exact HR2.out, HW2.out⟩
            case measure => simp [intOf]
          · obtain ⟨q, hq⟩ : ∃ q, q = lb x 1 / 4294967296 := ⟨_, rfl⟩
            obtain ⟨D, hD⟩ : ∃ D, D = q % 65536 := ⟨_, rfl⟩
            have hT : Hid (B.take (4 * 1 + (2 + 1)) = B.take (4 * 1 + 2) ++ [D]) := Lib.hid (by rw [HAll.out, hD, hq]; exact all_take (lb x 0) (lb x 1) (lb x 2) (lb x 3) (j := 1) (k := 2) (by decide) (by decide))
            have hql : q < 18446744073709551616 := by have := HL.out; omega
            have h1 : bits .and .u64 (q : Int) 65535 = (D : Int) := by rw [hD]; exact and64 q hql
            have h2 : (D : Int) % 4294967296 = (D : Int) := by omega
            have h3 : ((lb x 1 : Nat) : Int) / 4294967296 = (q : Int) := by rw [hq]; omega
            clear hq hD hql
            go_wp2_with (at_builtin; refine app_d _ D rfl (.tmp 15) (.tmp 24) rfl rfl rfl rfl HR.out HW.out (by rw [List.length_take]; omega) ?_; intro v1 w1 hr hb; have HR2 := Lib.hid hr; have HW2 := Lib.hid hb; clear hr hb)
            go_roundw
            case rel => exact ⟨2 + 1, by omega, by go_num, by rw [hT.out]; exact HR2.out, HW2.out⟩
            case measure => simp [intOf]
          · obtain ⟨q, hq⟩ : ∃ q, q = lb x 1 / 281474976710656 := ⟨_, rfl⟩
            obtain ⟨D, hD⟩ : ∃ D, D = q % 65536 := ⟨_, rfl⟩
            have hT : Hid (B.take (4 * 1 + (3 + 1)) = B.take (4 * 1 + 3) ++ [D]) := Lib.hid (by rw [HAll.out, hD, hq]; exact all_take (lb x 0) (lb x 1) (lb x 2) (lb x 3) (j := 1) (k := 3) (by decide) (by decide))
            have hql : q < 18446744073709551616 := by have := HL.out; omega
            have h1 : bits .and .u64 (q : Int) 65535 = (D : Int) := by rw [hD]; exact and64 q hql
            have h2 : (D : Int) % 4294967296 = (D : Int) := by omega
            have h3 : ((lb x 1 : Nat) : Int) / 281474976710656 = (q : Int) := by rw [hq]; omega
            clear hq hD hql
            go_wp2_with (at_builtin; refine app_d _ D rfl (.tmp 15) (.tmp 24) rfl rfl rfl rfl HR.out HW.out (by rw [List.length_take]; omega) ?_; intro v1 w1 hr hb; have HR2 := Lib.hid hr; have HW2 := Lib.hid hb; clear hr hb)
            go_roundw
            case rel => exact ⟨3 + 1, by omega, by go_num, by rw [hT.out]; exact HR2.out, HW2.out⟩
            case measure => simp [intOf]
        · obtain rfl : k = 4 := by omega
          go_wp2_with fail
          have HR2 := HR
          have HB2 := HW
          rw [rounds_succ]
          go_wp2_with fail
          go_loopw [3, 5] (fun o i wr => ∃ k : Nat, k ≤ 4 ∧ i = .int .i64 (k : Int) ∧ Rd W.heap.size o (B.take (4 * 2 + k)) wr ∧ Below W.heap.size W wr) (fun _ i _ => 4 - (intOf i).toNat)
          case atStart => exact ⟨0, by omega, rfl, HR2.out, HB2.out⟩
          case round =>
            clear HR2 HB2
            obtain ⟨k, hk, rfl, hr, hb⟩ := hrel
            have HR := Lib.hid hr
            have HW := Lib.hid hb
            clear hr hb
            by_cases hlt : k < 4
            · have hk4 : k = 0 ∨ k = 1 ∨ k = 2 ∨ k = 3 := by omega
              have ic : wr.cell? ⟨w.heap.size, 2, none⟩ = some (.int .u64 (lb x 2 : Nat)) := (HW.out.cell (p := ⟨w.heap.size, 2, none⟩) K0.out.lt).trans (K0.out.cell 2)
              clear hk
              rcases hk4 with rfl | rfl | rfl | rfl
              · obtain ⟨q, hq⟩ : ∃ q, q = lb x 2 / 1 := ⟨_, rfl⟩
                obtain ⟨D, hD⟩ : ∃ D, D = q % 65536 := ⟨_, rfl⟩
                have hT : Hid (B.take (4 * 2 + (0 + 1)) = B.take (4 * 2 + 0) ++ [D]) := Lib.hid (by rw [HAll.out, hD, hq]; exact all_take (lb x 0) (lb x 1) (lb x 2) (lb x 3) (j := 2) (k := 0) (by decide) (by decide))
                have hql : q < 18446744073709551616 := by have := HL.out; omega
                have h1 : bits .and .u64 (q : Int) 65535 = (D : Int) := by rw [hD]; exact and64 q hql
                have h2 : (D : Int) % 4294967296 = (D : Int) := by omega
                have h3 : lb x 2 = q := by rw [hq, Nat.div_one]
                rw [h3] at ic
                clear hq hD hql h3
                go_wp2_with (at_builtin; refine app_d _ D rfl (.tmp 15) (.tmp 24) rfl rfl rfl rfl HR.out HW.out (by rw [List.length_take]; omega) ?_; intro v1 w1 hr hb; have HR2 := Lib.hid hr; have HW2 := Lib.hid hb; clear hr hb)
                go_roundw
                case rel => exact ⟨0 + 1, by omega, by go_num, by rw [hT.out]; exact HR2.out, HW2.out⟩
                case measure => simp [intOf]
              · obtain ⟨q, hq⟩ : ∃ q, q = lb x 2 / 65536 := ⟨_, rfl⟩
                obtain ⟨D, hD⟩ : ∃ D, D = q % 65536 := ⟨_, rfl⟩
                have hT : Hid (B.take (4 * 2 + (1 + 1)) = B.take (4 * 2 + 1) ++ [D]) := Lib.hid (by rw [HAll.out, hD, hq]; exact all_take (lb x 0) (lb x 1) (lb x 2) (lb x 3) (j := 2) (k := 1) (by decide) (by decide))
                have hql : q < 18446744073709551616 := by have := HL.out; omega
                have h1 : bits .and .u64 (q : Int) 65535 = (D : Int) := by rw [hD]; exact and64 q hql
                have h2 : (D : Int) % 4294967296 = (D : Int) := by omega
                have h3 : ((lb x 2 : Nat) : Int) / 65536 = (q : Int) := by rw [hq]; omega
                clear hq hD hql
                go_wp2_with (at_builtin; refine app_d _ D rfl (.tmp 15) (.tmp 24) rfl rfl rfl rfl HR.out HW.out (by rw [List.length_take]; omega) ?_; intro v1 w1 hr hb; have HR2 := Lib.hid hr; have HW2 := Lib.hid hb; clear hr hb)
                go_roundw
                case rel => exact ⟨1 + 1, by omega, by go_num, by rw [hT.out]; exact HR2.out, HW2.out⟩
                case measure => simp [intOf]
              · obtain ⟨q, hq⟩ : ∃ q, q = lb x 2 / 4294967296 := ⟨_, rfl⟩
                obtain ⟨D, hD⟩ : ∃ D, D = q % 65536 := ⟨_, rfl⟩
                have hT : Hid (B.take (4 * 2 + (2 + 1)) = B.take (4 * 2 + 2) ++ [D]) := Lib.hid (by rw [HAll.out, hD, hq]; exact all_take (lb x 0) (lb x 1) (lb x 2) (lb x 3) (j := 2) (k := 2) (by decide) (by decide))
                have hql : q < 18446744073709551616 := by have := HL.out; omega
                have h1 : bits .and .u64 (q : Int) 65535 = (D : Int) := by rw [hD]; exact and64 q hql
                have h2 : (D : Int) % 4294967296 = (D : Int) := by omega
                have h3 : ((lb x 2 : Nat) : Int) / 4294967296 = (q : Int) := by rw [hq]; omega
                clear hq hD hql
                go_wp2_with (at_builtin; refine app_d _ D rfl (.tmp 15) (.tmp 24) rfl rfl rfl rfl HR.out HW.out (by rw [List.length_take]; omega) ?_; intro v1 w1 hr hb; have HR2 := Lib.hid hr; have HW2 := Lib.hid hb; clear hr hb)
                go_roundw
                case rel => exact ⟨2 + 1, by omega, by go_num, by rw [hT.out]; exact HR2.out, HW2.out⟩
                case measure => simp [intOf]
              · obtain ⟨q, hq⟩ : ∃ q, q = lb x 2 / 281474976710656 := ⟨_, rfl⟩
                obtain ⟨D, hD⟩ : ∃ D, D = q % 65536 := ⟨_, rfl⟩
                have hT : Hid (B.take (4 * 2 + (3 + 1)) = B.take (4 * 2 + 3) ++ [D]) := Lib.hid (by rw [HAll.out, hD, hq]; exact all_take (lb x 0) (lb x 1) (lb x 2) (lb x 3) (j := 2) (k := 3) (by decide) (by decide))
                have hql : q < 18446744073709551616 := by have := HL.out; omega
                have h1 : bits .and .u64 (q : Int) 65535 = (D : Int) := by rw [hD]; exact and64 q hql
                have h2 : (D : Int) % 4294967296 = (D : Int) := by omega
                have h3 : ((lb x 2 : Nat) : Int) / 281474976710656 = (q : Int) := by rw [hq]; omega
                clear hq hD hql
                go_wp2_with (at_builtin; refine app_d _ D rfl (.tmp 15) (.tmp 24) rfl rfl rfl rfl HR.out HW.out (by rw [List.length_take]; omega) ?_; intro v1 w1 hr hb; have HR2 := Lib.hid hr; have HW2 := Lib.hid hb; clear hr hb)
                go_roundw
                case rel => exact ⟨3 + 1, by omega, by go_num, by rw [hT.out]; exact HR2.out, HW2.out⟩
                case measure => simp [intOf]
            · obtain rfl : k = 4 := by omega
              go_wp2_with fail
              have HR3 := HR
              have HB3 := HW
              rw [rounds_succ]
              go_wp2_with fail
              go_loopw [3, 5] (fun o i wr => ∃ k : Nat, k ≤ 4 ∧ i = .int .i64 (k : Int) ∧ Rd W.heap.size o (B.take (4 * 3 + k)) wr ∧ Below W.heap.size W wr) (fun _ i _ => 4 - (intOf i).toNat)
              case atStart => exact ⟨0, by omega, rfl, HR3.out, HB3.out⟩
              case round =>
                clear HR3 HB3
                obtain ⟨k, hk, rfl, hr, hb⟩ := hrel
                have HR := Lib.hid hr
                have HW := Lib.hid hb
                clear hr hb
                by_cases hlt : k < 4
                · have hk4 : k = 0 ∨ k = 1 ∨ k = 2 ∨ k = 3 := by omega
                  have ic : wr.cell? ⟨w.heap.size, 3, none⟩ = some (.int .u64 (lb x 3 : Nat)) := (HW.out.cell (p := ⟨w.heap.size, 3, none⟩) K0.out.lt).trans (K0.out.cell 3)
                  clear hk
                  rcases hk4 with rfl | rfl | rfl | rfl
                  · obtain ⟨q, hq⟩ : ∃ q, q = lb x 3 / 1 := ⟨_, rfl⟩
                    obtain ⟨D, hD⟩ : ∃ D, D = q % 65536 := ⟨_, rfl⟩
                    have hT : Hid (B.take (4 * 3 + (0 + 1)) = B.take (4 * 3 + 0) ++ [D]) := Lib.hid (by rw [HAll.out, hD, hq]; exact all_take (lb x 0) (lb x 1) (lb x 2) (lb x 3) (j := 3) (k := 0) (by decide) (by decide))
                    have hql : q < 18446744073709551616 := by have := HL.out; omega
                    have h1 : bits .and .u64 (q : Int) 65535 = (D : Int) := by rw [hD]; exact and64 q hql
                    have h2 : (D : Int) % 4294967296 = (D : Int) := by omega
                    have h3 : lb x 3 = q := by rw [hq, Nat.div_one]
                    rw [h3] at ic
                    clear hq hD hql h3
                    go_wp2_with (at_builtin; refine app_d _ D rfl (.tmp 15) (.tmp 24) rfl rfl rfl rfl HR.out HW.out (by rw [List.length_take]; omega) ?_; intro v1 w1 hr hb; have HR2 := Lib.hid hr; have HW2 := Lib.hid hb; clear hr hb)
                    go_roundw
                    case rel => exact ⟨0 + 1, by omega, by go_num, by rw [hT.out]; exact HR2.out, HW2.out⟩
                    case measure => simp [intOf]
                  · obtain ⟨q, hq⟩ : ∃ q, q = lb x 3 / 65536 := ⟨_, rfl⟩
                    obtain ⟨D, hD⟩ : ∃ D, D = q % 65536 := ⟨_, rfl⟩
                    have hT : Hid (B.take (4 * 3 + (1 + 1)) = B.take (4 * 3 + 1) ++ [D]) := Lib.hid (by rw [HAll.out, hD, hq]; exact all_take (lb x 0) (lb x 1) (lb x 2) (lb x 3) (j := 3) (k := 1) (by decide) (by decide))
                    have hql : q < 18446744073709551616 := by have := HL.out; omega
                    have h1 : bits .and .u64 (q : Int) 65535 = (D : Int) := by rw [hD]; exact and64 q hql
                    have h2 : (D : Int) % 4294967296 = (D : Int) := by omega
                    have h3 : ((lb x 3 : Nat) : Int) / 65536 = (q : Int) := by rw [hq]; omega
                    clear hq hD hql
                    go_wp2_with (at_builtin; refine app_d _ D rfl (.tmp 15) (.tmp 24) rfl rfl rfl rfl HR.out HW.out (by rw [List.length_take]; omega) ?_; intro v1 w1 hr hb; have HR2 := Lib.hid hr; have HW2 := Lib.hid hb; clear hr hb)
                    go_roundw
                    case rel => exact ⟨1 + 1, by omega, by go_num, by rw [hT.out]; exact HR2.out, HW2.out⟩
                    case measure => simp [intOf]
                  · obtain ⟨q, hq⟩ : ∃ q, q = lb x 3 / 4294967296 := ⟨_, rfl⟩
                    obtain ⟨D, hD⟩ : ∃ D, D = q % 65536 := ⟨_, rfl⟩
                    have hT : Hid (B.take (4 * 3 + (2 + 1)) = B.take (4 * 3 + 2) ++ [D]) := Lib.hid (by rw [HAll.out, hD, hq]; exact all_take (lb x 0) (lb x 1) (lb x 2) (lb x 3) (j := 3) (k := 2) (by decide) (by decide))
                    have hql : q < 18446744073709551616 := by have := HL.out; omega
                    have h1 : bits .and .u64 (q : Int) 65535 = (D : Int) := by rw [hD]; exact and64 q hql
                    have h2 : (D : Int) % 4294967296 = (D : Int) := by omega
                    have h3 : ((lb x 3 : Nat) : Int) / 4294967296 = (q : Int) := by rw [hq]; omega
                    clear hq hD hql
                    go_wp2_with (at_builtin; refine app_d _ D rfl (.tmp 15) (.tmp 24) rfl rfl rfl rfl HR.out HW.out (by rw [List.length_take]; omega) ?_; intro v1 w1 hr hb; have HR2 := Lib.hid hr; have HW2 := Lib.hid hb; clear hr hb)
                    go_roundw
                    case rel => exact ⟨2 + 1, by omega, by go_num, by rw [hT.out]; exact HR2.out, HW2.out⟩
                    case measure => simp [intOf]
                  · obtain ⟨q, hq⟩ : ∃ q, q = lb x 3 / 281474976710656 := ⟨_, rfl⟩
                    obtain ⟨D, hD⟩ : ∃ D, D = q % 65536 := ⟨_, rfl⟩
                    have hT : Hid (B.take (4 * 3 + (3 + 1)) = B.take (4 * 3 + 3) ++ [D]) := Lib.hid (by rw [HAll.out, hD, hq]; exact all_take (lb x 0) (lb x 1) (lb x 2) (lb x 3) (j := 3) (k := 3) (by decide) (by decide))
                    have hql : q < 18446744073709551616 := by have := HL.out; omega
                    have h1 : bits .and .u64 (q : Int) 65535 = (D : Int) := by rw [hD]; exact and64 q hql
                    have h2 : (D : Int) % 4294967296 = (D : Int) := by omega
                    have h3 : ((lb x 3 : Nat) : Int) / 281474976710656 = (q : Int) := by rw [hq]; omega
                    clear hq hD hql
                    go_wp2_with (at_builtin; refine app_d _ D rfl (.tmp 15) (.tmp 24) rfl rfl rfl rfl HR.out HW.out (by rw [List.length_take]; omega) ?_; intro v1 w1 hr hb; have HR2 := Lib.hid hr; have HW2 := Lib.hid hb; clear hr hb)
                    go_roundw
                    case rel => exact ⟨3 + 1, by omega, by go_num, by rw [hT.out]; exact HR2.out, HW2.out⟩
                    case measure => simp [intOf]
                · obtain rfl : k = 4 := by omega
                  go_wp2_with fail
                  rw [rounds_succ]
                  go_wp2_with fail
                  have hBl : B.take (4 * 3 + 4) = B := List.take_of_length_le (by rw [HAll.out]; simp [all4, four])
                  rw [hBl] at HR
                  have hne : B ≠ [] := by rw [HAll.out]; simp [all4, four]
                  have hlen : B.length ≤ 10000000000001 := by rw [HAll.out]; simp [all4, four]
                  refine (trim_any B _ wr (HR.out.dr hne hlen)).mono ?_
                  rintro e w2 ⟨⟨v2, rfl, hdr⟩, rfl⟩
                  have HF : Hid (Nr w wr v2 x) := Lib.hid ⟨⟨_, hdr, trim_dig (by rw [HAll.out]; exact all_dig _ _ _ _), trim_trim _, by
                    rw [trim_val, HAll.out, all_val HL.out.1 HL.out.2.1 HL.out.2.2.1 HL.out.2.2.2]
                    have := v4_lb HX.out
                    unfold v4 at this
                    omega⟩, HBW.out.trans (HW.out.mono (by rw [HWS.out]; omega))⟩
                  clear hdr
                  go_wp2_with fail
                  go_ret
                  exact ⟨_, rfl, HF.out⟩
end Go.Proofs.Ytglmmodkflkkkaa.Ref
set_option linter.unusedVariables false
set_option linter.unusedSimpArgs false
set_option maxRecDepth 100000
namespace Go.Proofs.Ytglmmodkflkkkaa.Ref
open Go.RowKit Go.Proofs.Ytglmmodkflkkkaa.Digits
theorem set_val : ∀ (l : List Nat) (j d : Nat) (h : j < l.length), val (l.set j d) + 65536 ^ j * l[j] = val l + 65536 ^ j * d
  | x :: l, 0, d, h => by simp [val]; omega
  | x :: l, j + 1, d, h => by
    have ih := set_val l j d (by simpa using h)
    simp only [List.set_cons_succ, val, List.getElem_cons_succ, Nat.pow_succ]
    rw [Nat.mul_comm (65536 ^ j) 65536, Nat.mul_assoc, Nat.mul_assoc]
    omega
theorem step_arith {V V2 P cc z M D C R : Nat} (h1 : V2 + P * z = V + P * D) (hD : D + 65536 * C = cc + z + M) (h : V + P * cc = R) : V2 + P * 65536 * C = R + P * M := by
  have e : P * D + P * 65536 * C = P * cc + P * z + P * M := by
    rw [Nat.mul_assoc, ← Nat.mul_add, hD, Nat.mul_add, Nat.mul_add]
  omega
theorem zero_set {l : List Nat} {i d m : Nat} (h : ∀ q (hq : q < l.length), m ≤ q → l[q] = 0) (hi : i < m) : ∀ q (hq : q < (l.set i d).length), m ≤ q → (l.set i d)[q] = 0 := fun q hq hm => by
  rw [List.getElem_set_ne (by omega)]
  exact h q (by simpa using hq) hm
theorem dig_set {l : List Nat} (h : Dig l) {d : Nat} (hd : d < 65536) (i : Nat) : Dig (l.set i d) := fun y hy => by
  rcases List.mem_or_eq_of_mem_set hy with h' | h'
  · exact h y h'
  · omega
set_option maxHeartbeats 8000000 in
theorem mul_any (a b : List Nat) (ha : Dig a) (hb : Dig b) (hla : a.length ≤ 50000) (hlb : b.length ≤ 50000) (v u : Value) (w : World) (h : Dr w v a) (k : Dr w u b) :
    Calls Try.prog 61 #[v, u] w fun e w' => ∃ v', e = .returned v' ∧ Nr w w' v' (val a * val b) := by
  obtain ⟨g, cap, rfl, hc, hcm, hg, hca⟩ := h
  obtain ⟨g2, cap2, rfl, hc2, hcm2, hg2, hcb⟩ := k
  have HCA := Lib.hid hca
  have HCB := Lib.hid hcb
  have HA := Lib.hid ha
  have HBD := Lib.hid hb
  have HG := Lib.hid (And.intro hg hg2)
  obtain ⟨na, hna⟩ : ∃ n, n = a.length := ⟨_, rfl⟩
  obtain ⟨nb, hnb⟩ : ∃ n, n = b.length := ⟨_, rfl⟩
  rw [← hna] at hla ⊢
  rw [← hnb] at hlb ⊢
  have HN := Lib.hid (And.intro hna hnb)
  have hmk := make_us w (na + nb) (by omega)
  have e0 : (((na + nb : Nat) : Nat) : Int) = (na : Int) + nb := by omega
  rw [e0] at hmk
  have HB0 := Lib.hid ((Below.refl w.heap.size w).alloc (Nat.le_refl _) (.cells (us (List.replicate (na + nb) 0)) 75))
  have HH0 : Hid ((w.alloc (.cells (us (List.replicate (na + nb) 0)) 75)).heap[w.heap.size]? = some (.cells (us (List.replicate (na + nb) 0)) 75 (0, 0))) := Lib.hid (Go.heap_alloc_new w _)
  clear hca hcb ha hb hg hg2 hc hcm hc2 hcm2 hna hnb e0
  go_enter Try.func61, Try.ntmps61
  go_wp2_with fail
  clear hmk
  go_loopw [6] (fun i wr => ∃ (j : Nat) (out : List Nat), j ≤ na ∧ i = .int .i64 (j : Int) ∧ out.length = na + nb ∧ Dig out ∧ val out = val (a.take j) * val b ∧ (∀ q (hq : q < out.length), j + nb ≤ q → out[q] = 0) ∧ wr.heap[w.heap.size]? = some (.cells (us out) 75 (0, 0)) ∧ Below w.heap.size w wr) (fun i _ => na - (intOf i).toNat)
  case atStart => exact ⟨0, List.replicate (na + nb) 0, Nat.zero_le _, rfl, by simp, fun x hx => by rw [List.mem_replicate] at hx; omega, by
    rw [List.take_zero, val, Nat.zero_mul]
    generalize na + nb = n
    induction n with
    | zero => rfl
    | succ n ih => rw [List.replicate_succ, val, ih], fun q hq _ => by simp, HH0.out, HB0.out⟩
  case round =>
    obtain ⟨j, out, hj, rfl, hol, hd, hv, hz, hh, hb⟩ := hrel
    have HH := Lib.hid hh
    have HW := Lib.hid hb
    have HD := Lib.hid hd
    have HV := Lib.hid hv
    have HZ := Lib.hid hz
    have HOL := Lib.hid hol
    clear hh hb hd hv hz hol HH0 HB0
    by_cases hlt : j < na
    · have hja : j < a.length := by have := HN.out.1; omega
      have hca := HCA.out j hja
      have hxl := HA.out _ (List.getElem_mem hja)
      have HTV := Lib.hid (take_val hja)
      generalize a[j] = x at hca hxl HTV
      have HCX := Lib.hid hca
      clear hca
      go_wp2_with fail
      go_loopw [7, 8] (fun c k wr => ∃ (kk cc : Nat) (o2 : List Nat), kk ≤ nb ∧ k = .int .i64 (kk : Int) ∧ c = .int .u64 (cc : Int) ∧ cc < 65536 ∧ o2.length = na + nb ∧ Dig o2 ∧ val o2 + 65536 ^ (j + kk) * cc = val out + 65536 ^ j * (x * val (b.take kk)) ∧ (∀ q (hq : q < o2.length), j + nb ≤ q → o2[q] = 0) ∧ wr.heap[w.heap.size]? = some (.cells (us o2) 75 (0, 0)) ∧ Below w.heap.size w wr) (fun _ k _ => nb - (intOf k).toNat)
      case atStart => exact ⟨0, 0, out, Nat.zero_le _, rfl, rfl, by omega, HOL.out, HD.out, by simp [val], HZ.out, HH.out, HW.out⟩
      case round =>
        clear HH HW HD HZ HOL
        obtain ⟨kk, cc, o2, hk, rfl, rfl, hcc, hol, hd, hv, hz, hh, hb⟩ := hrel
        have HH := Lib.hid hh
        have HW := Lib.hid hb
        have HD := Lib.hid hd
        have HVI := Lib.hid hv
        have HZ := Lib.hid hz
        have HOL := Lib.hid hol
        clear hh hb hd hv hz hol
        by_cases hlk : kk < nb
        · have hkb : kk < b.length := by have := HN.out.2; omega
          have hjo : j + kk < o2.length := by rw [HOL.out]; omega
          have ia := (HW.out.cell (p := ⟨g, j, none⟩) HG.out.1).trans HCX.out
          have ib := (HW.out.cell (p := ⟨g2, kk, none⟩) HG.out.2).trans (HCB.out kk hkb)
          have io : wr.cell? ⟨w.heap.size, j + kk, none⟩ = some (.int .u32 ((o2[j + kk] : Nat) : Int)) := by
            rw [Lib.cell_of_heap HH.out]; simp [us, hjo]
          have fo := Lib.frozen_of_heap HH.out (j + kk)
          have hyl := HBD.out _ (List.getElem_mem hkb)
          have hzl := HD.out _ (List.getElem_mem hjo)
          have HTB := Lib.hid (take_val hkb)
          have HSV := Lib.hid (fun d => set_val o2 (j + kk) d hjo)
          generalize b[kk] = y at ib hyl HTB
          generalize o2[j + kk] = z at io hzl HSV
          have ej : ((j : Int) + (kk : Int)).toNat = j + kk := by omega
          obtain ⟨M, hM⟩ : ∃ M, M = x * y := ⟨_, rfl⟩
          have hMl : M ≤ 65535 * 65535 := by rw [hM]; exact Nat.mul_le_mul (by omega) (by omega)
          have hMi : (x : Int) * (y : Int) = (M : Int) := by rw [hM]; exact (Int.natCast_mul x y).symm
          obtain ⟨N, hN⟩ : ∃ N, N = z + M := ⟨_, rfl⟩
          obtain ⟨S, hS⟩ : ∃ S, S = cc + N := ⟨_, rfl⟩
          obtain ⟨D, hD⟩ : ∃ D, D = S % 65536 := ⟨_, rfl⟩
          obtain ⟨C, hC⟩ : ∃ C, C = S / 65536 := ⟨_, rfl⟩
          have w1 : IntKind.u64.wrap ((x : Int) * (y : Int)) = (M : Int) := by rw [hMi, IntKind.wrap_u64]; omega
          have w2 : IntKind.u64.wrap ((z : Int) + (M : Int)) = (N : Int) := by rw [IntKind.wrap_u64]; omega
          have w3 : IntKind.u64.wrap ((cc : Int) + (N : Int)) = (S : Int) := by rw [IntKind.wrap_u64]; omega
          have b1 : bits .and .u64 (S : Int) 65535 = (D : Int) := by rw [hD]; exact and64 S (by omega)
          have b2 : (D : Int) % 4294967296 = (D : Int) := by omega
          have b3 : (S : Int) / 65536 = (C : Int) := by omega
          have hDl : D < 65536 := by omega
          have hCl : C < 65536 := by omega
          have hDC : D + 65536 * C = cc + z + M := by omega
          have HST : Hid (val (o2.set (j + kk) D) + 65536 ^ (j + (kk + 1)) * C = val out + 65536 ^ j * (x * val (b.take (kk + 1)))) := Lib.hid (by
            have := step_arith (HSV.out D) hDC HVI.out
            rw [show j + (kk + 1) = (j + kk) + 1 by omega, Nat.pow_succ (n := 65536) (m := j + kk), this, HTB.out, hM, Nat.mul_add, Nat.mul_add, Nat.pow_add, Nat.mul_left_comm x, Nat.mul_assoc, Nat.add_assoc])
          have HU : Hid ((us o2).setIfInBounds (j + kk) (.int .u32 ((D : Nat) : Int)) = us (o2.set (j + kk) D)) := Lib.hid (us_set _ _ _)
          have HD2 := Lib.hid (dig_set HD.out hDl (j + kk))
          have HZ2 := Lib.hid (zero_set (d := D) HZ.out (show j + kk < j + nb by omega))
          clear hM hMl hMi hN hS hD hC hDC HTB HSV HVI
          go_wp2_with fail
          go_quiet (fail)
          rename_i nq
          have io' : (wr.drewN nq).cell? ⟨w.heap.size, j + kk, none⟩ = some (.int .u32 ((z : Nat) : Int)) := io
          have fo' : (wr.drewN nq).frozen? ⟨w.heap.size, j + kk, none⟩ = false := fo
          have HHq : Hid ((wr.drewN nq).heap[w.heap.size]? = some (.cells (us o2) 75 (0, 0))) := Lib.hid HH.out
          have HWq : Hid (Below w.heap.size w (wr.drewN nq)) := Lib.hid ((Sm.drewN wr nq).below HW.out)
          clear io fo ia ib HH HW
          generalize wr.drewN nq = V at io' fo' HHq HWq ⊢
          go_wp2_with fail
          go_roundw
          case rel => exact ⟨kk + 1, C, o2.set (j + kk) D, by omega, by go_num, rfl, hCl, by rw [List.length_set]; exact HOL.out, HD2.out, HST.out, HZ2.out, (blk_put HHq.out (j + kk) _).trans (by rw [HU.out]), HWq.out.setCell (p := ⟨w.heap.size, j + kk, none⟩) (Nat.le_refl _) _⟩
          case measure => simp [intOf]; omega
        · obtain rfl : kk = nb := by omega
          have hjo : j + kk < o2.length := by rw [HOL.out]; omega
          have io : wr.cell? ⟨w.heap.size, j + kk, none⟩ = some (.int .u32 ((o2[j + kk] : Nat) : Int)) := by
            rw [Lib.cell_of_heap HH.out]; simp [us, hjo]
          have fo := Lib.frozen_of_heap HH.out (j + kk)
          have HSV := Lib.hid (set_val o2 (j + kk) cc hjo)
          have hz0 := HZ.out (j + kk) hjo (Nat.le_refl _)
          have HVB : Hid (val (o2.set (j + kk) cc) = val (a.take (j + 1)) * val b) := Lib.hid (by
            have h1 := HSV.out
            rw [hz0, Nat.mul_zero, Nat.add_zero] at h1
            have h2 := HVI.out
            rw [List.take_of_length_le (by have := HN.out.2; omega)] at h2
            rw [h1, h2, HTV.out, HV.out, Nat.add_mul, Nat.mul_assoc])
          generalize o2[j + kk] = z at io
          have ej : ((j : Int) + (kk : Int)).toNat = j + kk := by omega
          have b2 : (cc : Int) % 4294967296 = (cc : Int) := by omega
          have HU : Hid ((us o2).setIfInBounds (j + kk) (.int .u32 ((cc : Nat) : Int)) = us (o2.set (j + kk) cc)) := Lib.hid (us_set _ _ _)
          have HD2 := Lib.hid (dig_set HD.out hcc (j + kk))
          have HZ2 := Lib.hid (zero_set (d := cc) (m := j + 1 + kk) (fun q hq hm => HZ.out q hq (by omega)) (show j + kk < j + 1 + kk by omega))
          clear hz0 HSV HVI
          go_wp2_with fail
          go_roundw
          case rel => exact ⟨j + 1, o2.set (j + kk) cc, by omega, by go_num, by rw [List.length_set]; exact HOL.out, HD2.out, HVB.out, HZ2.out, (blk_put HH.out (j + kk) _).trans (by rw [HU.out]), HW.out.setCell (p := ⟨w.heap.size, j + kk, none⟩) (Nat.le_refl _) _⟩
          case measure => simp [intOf]; omega
    · obtain rfl : j = na := by omega
      have HVV : Hid (val out = val a * val b) := Lib.hid (by
        have := HV.out
        rwa [List.take_of_length_le (by have := HN.out.1; omega)] at this)
      have HDR := Lib.hid (us_dr HH.out (by rw [HOL.out]; omega))
      rw [HOL.out] at HDR
      go_wp2_with fail
      refine (trim_any out _ _ HDR.out).mono ?_
      rintro e w2 ⟨⟨v2, rfl, hdr⟩, rfl⟩
      have HF : Hid (Nr w wr v2 (val a * val b)) := Lib.hid ⟨⟨_, hdr, trim_dig HD.out, trim_trim _, by rw [trim_val, HVV.out]⟩, HW.out⟩
      clear hdr
      go_wp2_with fail
      go_ret
      exact ⟨_, rfl, HF.out⟩
end Go.Proofs.Ytglmmodkflkkkaa.Ref
