/- A machine number's digits (the reference's In). No condition but that it is below 2 to the 256. -/
import Derived.Test.YtglmmodkflkkkaaFi
import Derived.Test.YtglmmodkflkkkaaNc
set_option linter.unusedVariables false
set_option linter.unusedSimpArgs false
set_option maxRecDepth 100000
namespace Go.Proofs.Ytglmmodkflkkkaa.Ref
open Go.RowKit Go.Proofs.Ytglmmodkflkkkaa.Digits Limbs

def four (x : Nat) : List Nat := [x % 65536, x / 65536 % 65536, x / 4294967296 % 65536, x / 281474976710656 % 65536]
def all4 (a b c d : Nat) : List Nat := four a ++ four b ++ four c ++ four d
def wd (a b c d : Nat) : Nat → Nat
  | 0 => a
  | 1 => b
  | 2 => c
  | _ => d
def sh : Nat → Nat
  | 0 => 1
  | 1 => 65536
  | 2 => 4294967296
  | _ => 281474976710656
theorem all_take (a b c d : Nat) {j k : Nat} (hj : j < 4) (hk : k < 4) : (all4 a b c d).take (4 * j + (k + 1)) = (all4 a b c d).take (4 * j + k) ++ [wd a b c d j / sh k % 65536] := by
  have hj' : j = 0 ∨ j = 1 ∨ j = 2 ∨ j = 3 := by omega
  have hk' : k = 0 ∨ k = 1 ∨ k = 2 ∨ k = 3 := by omega
  rcases hj' with rfl | rfl | rfl | rfl <;> rcases hk' with rfl | rfl | rfl | rfl <;> simp [all4, four, wd, sh]
theorem all_dig (a b c d : Nat) : Dig (all4 a b c d) := by
  intro x hx
  simp only [all4, four, List.mem_append, List.mem_cons, List.not_mem_nil, or_false] at hx
  omega
theorem four_val {x : Nat} (h : x < 18446744073709551616) (l : List Nat) : val (four x ++ l) = x + 18446744073709551616 * val l := by
  rw [val_append]
  simp only [four, val, List.length_cons, List.length_nil]
  omega
theorem all_val {a b c d : Nat} (ha : a < 18446744073709551616) (hb : b < 18446744073709551616) (hc : c < 18446744073709551616) (hd : d < 18446744073709551616) : val (all4 a b c d) = a + 18446744073709551616 * (b + 18446744073709551616 * (c + 18446744073709551616 * d)) := by
  have e := four_val hd []
  rw [List.append_nil] at e
  rw [all4, List.append_assoc, List.append_assoc, four_val ha, four_val hb, four_val hc, e]
  simp [val]

theorem and64 (n : Nat) (h : n < 18446744073709551616) : bits .and .u64 (n : Int) 65535 = ((n % 65536 : Nat) : Int) := by
  have := u64_and_nat n 65535 h (by decide)
  rw [show ((65535 : Nat) : Int) = 65535 from rfl, show (65535 : Nat) = 2 ^ 16 - 1 from rfl, Nat.and_two_pow_sub_one_eq_mod] at this
  exact this
set_option maxHeartbeats 8000000 in
theorem in_any (x : Nat) (hx : x < W256) (w : World) :
    Calls Try.prog 14 #[nv x] w fun e w' => ∃ v', e = .returned v' ∧ Nr w w' v' x := by
  have HBW := Lib.hid ((Below.refl w.heap.size w).alloc (Nat.le_refl _) (.cells #[.int .u64 (lb x 0 : Nat), .int .u64 (lb x 1 : Nat), .int .u64 (lb x 2 : Nat), .int .u64 (lb x 3 : Nat)] 24))
  have K0 : Hid (Bk 24 (w.alloc (.cells #[.int .u64 (lb x 0 : Nat), .int .u64 (lb x 1 : Nat), .int .u64 (lb x 2 : Nat), .int .u64 (lb x 3 : Nat)] 24)) w.heap.size #[.int .u64 (lb x 0 : Nat), .int .u64 (lb x 1 : Nat), .int .u64 (lb x 2 : Nat), .int .u64 (lb x 3 : Nat)]) := Lib.hid (Bk.new rfl)
  simp only [nv, num]
  have HL : Hid (lb x 0 < 18446744073709551616 ∧ lb x 1 < 18446744073709551616 ∧ lb x 2 < 18446744073709551616 ∧ lb x 3 < 18446744073709551616) := Lib.hid ⟨lb_lt x 0, lb_lt x 1, lb_lt x 2, lb_lt x 3⟩
  obtain ⟨B, hB⟩ : ∃ z, z = all4 (lb x 0) (lb x 1) (lb x 2) (lb x 3) := ⟨_, rfl⟩
  have HAll := Lib.hid hB
  clear hB
  have HX := Lib.hid hx
  clear hx
  go_enter Try.func14, Try.ntmps14
  go_wp2_with fail
  have HR0 := Lib.hid (Rd.nil (w.alloc (.cells #[.int .u64 (lb x 0 : Nat), .int .u64 (lb x 1 : Nat), .int .u64 (lb x 2 : Nat), .int .u64 (lb x 3 : Nat)] 24)))
  have HB0 : Hid (Below (w.alloc (.cells #[.int .u64 (lb x 0 : Nat), .int .u64 (lb x 1 : Nat), .int .u64 (lb x 2 : Nat), .int .u64 (lb x 3 : Nat)] 24)).heap.size (w.alloc (.cells #[.int .u64 (lb x 0 : Nat), .int .u64 (lb x 1 : Nat), .int .u64 (lb x 2 : Nat), .int .u64 (lb x 3 : Nat)] 24)) ((w.alloc (.cells #[.int .u64 (lb x 0 : Nat), .int .u64 (lb x 1 : Nat), .int .u64 (lb x 2 : Nat), .int .u64 (lb x 3 : Nat)] 24)).alloc (.cells #[] 75))) := Lib.hid ((Below.refl _ _).alloc (Nat.le_refl _) _)
  generalize hW : (w.alloc (.cells #[.int .u64 (lb x 0 : Nat), .int .u64 (lb x 1 : Nat), .int .u64 (lb x 2 : Nat), .int .u64 (lb x 3 : Nat)] 24)) = W at *
  have hWs : W.heap.size = w.heap.size + 1 := by rw [← hW]; simp
  rw [← hWs]
  have HWS := Lib.hid hWs
  clear hWs hW
  refine wp_loop_rounds 5 ?_
  rw [rounds_succ]
  go_wp2_with fail
  go_loopw [3, 5] (fun o i wr => ∃ k : Nat, k ≤ 4 ∧ i = .int .i64 (k : Int) ∧ Rd W.heap.size o (B.take (4 * 0 + k)) wr ∧ Below W.heap.size W wr) (fun _ i _ => 4 - (intOf i).toNat)
  case atStart => exact ⟨0, by omega, rfl, HR0.out, HB0.out⟩
  case round =>
    clear HR0 HB0
    obtain ⟨k, hk, rfl, hr, hb⟩ := hrel
    have HR := Lib.hid hr
    have HW := Lib.hid hb
    clear hr hb
    by_cases hlt : k < 4
    · have hk4 : k = 0 ∨ k = 1 ∨ k = 2 ∨ k = 3 := by omega
      have ic : wr.cell? ⟨w.heap.size, 0, none⟩ = some (.int .u64 (lb x 0 : Nat)) := (HW.out.cell (p := ⟨w.heap.size, 0, none⟩) K0.out.lt).trans (K0.out.cell 0)
      clear hk
      rcases hk4 with rfl | rfl | rfl | rfl
      · obtain ⟨q, hq⟩ : ∃ q, q = lb x 0 / 1 := ⟨_, rfl⟩
        obtain ⟨D, hD⟩ : ∃ D, D = q % 65536 := ⟨_, rfl⟩
        have hT : Hid (B.take (4 * 0 + (0 + 1)) = B.take (4 * 0 + 0) ++ [D]) := Lib.hid (by rw [HAll.out, hD, hq]; exact all_take (lb x 0) (lb x 1) (lb x 2) (lb x 3) (j := 0) (k := 0) (by decide) (by decide))
        have hql : q < 18446744073709551616 := by have := HL.out; omega
        have h1 : bits .and .u64 (q : Int) 65535 = (D : Int) := by rw [hD]; exact and64 q hql
        have h2 : (D : Int) % 4294967296 = (D : Int) := by omega
        have h3 : lb x 0 = q := by rw [hq, Nat.div_one]
        rw [h3] at ic
        clear hq hD hql h3
        go_wp2_with (at_builtin; refine app_d _ D rfl (.tmp 15) (.tmp 24) rfl rfl rfl rfl HR.out HW.out (by rw [List.length_take]; omega) ?_; intro v1 w1 hr hb; have HR2 := Lib.hid hr; have HW2 := Lib.hid hb; clear hr hb)
        go_roundw
        case rel => exact ⟨0 + 1, by omega, by go_num, by rw [hT.out]; exact HR2.out, HW2.out⟩
        case measure => simp [intOf]
      · obtain ⟨q, hq⟩ : ∃ q, q = lb x 0 / 65536 := ⟨_, rfl⟩
        obtain ⟨D, hD⟩ : ∃ D, D = q % 65536 := ⟨_, rfl⟩
        have hT : Hid (B.take (4 * 0 + (1 + 1)) = B.take (4 * 0 + 1) ++ [D]) := Lib.hid (by rw [HAll.out, hD, hq]; exact all_take (lb x 0) (lb x 1) (lb x 2) (lb x 3) (j := 0) (k := 1) (by decide) (by decide))
        have hql : q < 18446744073709551616 := by have := HL.out; omega
        have h1 : bits .and .u64 (q : Int) 65535 = (D : Int) := by rw [hD]; exact and64 q hql
        have h2 : (D : Int) % 4294967296 = (D : Int) := by omega
        have h3 : ((lb x 0 : Nat) : Int) / 65536 = (q : Int) := by rw [hq]; omega
        clear hq hD hql
        go_wp2_with (at_builtin; refine app_d _ D rfl (.tmp 15) (.tmp 24) rfl rfl rfl rfl HR.out HW.out (by rw [List.length_take]; omega) ?_; intro v1 w1 hr hb; have HR2 := Lib.hid hr; have HW2 := Lib.hid hb; clear hr hb)
        go_roundw
        case rel => exact ⟨1 + 1, by omega, by go_num, by rw [hT.out]; exact HR2.out, HW2.out⟩
        case measure => simp [intOf]
      · obtain ⟨q, hq⟩ : ∃ q, q = lb x 0 / 4294967296 := ⟨_, rfl⟩
        obtain ⟨D, hD⟩ : ∃ D, D = q % 65536 := ⟨_, rfl⟩
        have hT : Hid (B.take (4 * 0 + (2 + 1)) = B.take (4 * 0 + 2) ++ [D]) := Lib.hid (by rw [HAll.out, hD, hq]; exact all_take (lb x 0) (lb x 1) (lb x 2) (lb x 3) (j := 0) (k := 2) (by decide) (by decide))
        have hql : q < 18446744073709551616 := by have := HL.out; omega
        have h1 : bits .and .u64 (q : Int) 65535 = (D : Int) := by rw [hD]; exact and64 q hql
        have h2 : (D : Int) % 4294967296 = (D : Int) := by omega
        have h3 : ((lb x 0 : Nat) : Int) / 4294967296 = (q : Int) := by rw [hq]; omega
        clear hq hD hql
        go_wp2_with (at_builtin; refine app_d _ D rfl (.tmp 15) (.tmp 24) rfl rfl rfl rfl HR.out HW.out (by rw [List.length_take]; omega) ?_; intro v1 w1 hr hb; have HR2 := Lib.hid hr; have HW2 := Lib.hid hb; clear hr hb)
        go_roundw
        case rel => exact ⟨2 + 1, by omega, by go_num, by rw [hT.out]; exact HR2.out, HW2.out⟩
        case measure => simp [intOf]
      · obtain ⟨q, hq⟩ : ∃ q, q = lb x 0 / 281474976710656 := ⟨_, rfl⟩
        obtain ⟨D, hD⟩ : ∃ D, D = q % 65536 := ⟨_, rfl⟩
        have hT : Hid (B.take (4 * 0 + (3 + 1)) = B.take (4 * 0 + 3) ++ [D]) := Lib.hid (by rw [HAll.out, hD, hq]; exact all_take (lb x 0) (lb x 1) (lb x 2) (lb x 3) (j := 0) (k := 3) (by decide) (by decide))
        have hql : q < 18446744073709551616 := by have := HL.out; omega
        have h1 : bits .and .u64 (q : Int) 65535 = (D : Int) := by rw [hD]; exact and64 q hql
        have h2 : (D : Int) % 4294967296 = (D : Int) := by omega
        have h3 : ((lb x 0 : Nat) : Int) / 281474976710656 = (q : Int) := by rw [hq]; omega
        clear hq hD hql
        go_wp2_with (at_builtin; refine app_d _ D rfl (.tmp 15) (.tmp 24) rfl rfl rfl rfl HR.out HW.out (by rw [List.length_take]; omega) ?_; intro v1 w1 hr hb; have HR2 := Lib.hid hr; have HW2 := Lib.hid hb; clear hr hb)
        go_roundw
        case rel => exact ⟨3 + 1, by omega, by go_num, by rw [hT.out]; exact HR2.out, HW2.out⟩
        case measure => simp [intOf]
    · obtain rfl : k = 4 := by omega
      go_wp2_with fail
      have HR1 := HR
      have HB1 := HW
      rw [rounds_succ]
      go_wp2_with fail
      go_loopw [3, 5] (fun o i wr => ∃ k : Nat, k ≤ 4 ∧ i = .int .i64 (k : Int) ∧ Rd W.heap.size o (B.take (4 * 1 + k)) wr ∧ Below W.heap.size W wr) (fun _ i _ => 4 - (intOf i).toNat)
      case atStart => exact ⟨0, by omega, rfl, HR1.out, HB1.out⟩
      case round =>
        clear HR1 HB1
        obtain ⟨k, hk, rfl, hr, hb⟩ := hrel
        have HR := Lib.hid hr
        have HW := Lib.hid hb
        clear hr hb
        by_cases hlt : k < 4
        · have hk4 : k = 0 ∨ k = 1 ∨ k = 2 ∨ k = 3 := by omega
          have ic : wr.cell? ⟨w.heap.size, 1, none⟩ = some (.int .u64 (lb x 1 : Nat)) := (HW.out.cell (p := ⟨w.heap.size, 1, none⟩) K0.out.lt).trans (K0.out.cell 1)
          clear hk
          rcases hk4 with rfl | rfl | rfl | rfl
          · obtain ⟨q, hq⟩ : ∃ q, q = lb x 1 / 1 := ⟨_, rfl⟩
            obtain ⟨D, hD⟩ : ∃ D, D = q % 65536 := ⟨_, rfl⟩
            have hT : Hid (B.take (4 * 1 + (0 + 1)) = B.take (4 * 1 + 0) ++ [D]) := Lib.hid (by rw [HAll.out, hD, hq]; exact all_take (lb x 0) (lb x 1) (lb x 2) (lb x 3) (j := 1) (k := 0) (by decide) (by decide))
            have hql : q < 18446744073709551616 := by have := HL.out; omega
            have h1 : bits .and .u64 (q : Int) 65535 = (D : Int) := by rw [hD]; exact and64 q hql
            have h2 : (D : Int) % 4294967296 = (D : Int) := by omega
            have h3 : lb x 1 = q := by rw [hq, Nat.div_one]
            rw [h3] at ic
            clear hq hD hql h3
            go_wp2_with (at_builtin; refine app_d _ D rfl (.tmp 15) (.tmp 24) rfl rfl rfl rfl HR.out HW.out (by rw [List.length_take]; omega) ?_; intro v1 w1 hr hb; have HR2 := Lib.hid hr; have HW2 := Lib.hid hb; clear hr hb)
            go_roundw
            case rel => exact ⟨0 + 1, by omega, by go_num, by rw [hT.out]; exact HR2.out, HW2.out⟩
            case measure => simp [intOf]
          · obtain ⟨q, hq⟩ : ∃ q, q = lb x 1 / 65536 := ⟨_, rfl⟩
            obtain ⟨D, hD⟩ : ∃ D, D = q % 65536 := ⟨_, rfl⟩
            have hT : Hid (B.take (4 * 1 + (1 + 1)) = B.take (4 * 1 + 1) ++ [D]) := Lib.hid (by rw [HAll.out, hD, hq]; exact all_take (lb x 0) (lb x 1) (lb x 2) (lb x 3) (j := 1) (k := 1) (by decide) (by decide))
            have hql : q < 18446744073709551616 := by have := HL.out; omega
            have h1 : bits .and .u64 (q : Int) 65535 = (D : Int) := by rw [hD]; exact and64 q hql
            have h2 : (D : Int) % 4294967296 = (D : Int) := by omega
            have h3 : ((lb x 1 : Nat) : Int) / 65536 = (q : Int) := by rw [hq]; omega
            clear hq hD hql
            go_wp2_with (at_builtin; refine app_d _ D rfl (.tmp 15) (.tmp 24) rfl rfl rfl rfl HR.out HW.out (by rw [List.length_take]; omega) ?_; intro v1 w1 hr hb; have HR2 := Lib.hid hr; have HW2 := Lib.hid hb; clear hr hb)
            go_roundw
            case rel => exact ⟨1 + 1, by omega, by go_num, by rw [hT.out]; exact HR2.out, HW2.out⟩
            case measure => simp [intOf]
          · obtain ⟨q, hq⟩ : ∃ q, q = lb x 1 / 4294967296 := ⟨_, rfl⟩
            obtain ⟨D, hD⟩ : ∃ D, D = q % 65536 := ⟨_, rfl⟩
            have hT : Hid (B.take (4 * 1 + (2 + 1)) = B.take (4 * 1 + 2) ++ [D]) := Lib.hid (by rw [HAll.out, hD, hq]; exact all_take (lb x 0) (lb x 1) (lb x 2) (lb x 3) (j := 1) (k := 2) (by decide) (by decide))
            have hql : q < 18446744073709551616 := by have := HL.out; omega
            have h1 : bits .and .u64 (q : Int) 65535 = (D : Int) := by rw [hD]; exact and64 q hql
            have h2 : (D : Int) % 4294967296 = (D : Int) := by omega
            have h3 : ((lb x 1 : Nat) : Int) / 4294967296 = (q : Int) := by rw [hq]; omega
            clear hq hD hql
            go_wp2_with (at_builtin; refine app_d _ D rfl (.tmp 15) (.tmp 24) rfl rfl rfl rfl HR.out HW.out (by rw [List.length_take]; omega) ?_; intro v1 w1 hr hb; have HR2 := Lib.hid hr; have HW2 := Lib.hid hb; clear hr hb)
            go_roundw
            case rel => exact ⟨2 + 1, by omega, by go_num, by rw [hT.out]; exact HR2.out, HW2.out⟩
            case measure => simp [intOf]
          · obtain ⟨q, hq⟩ : ∃ q, q = lb x 1 / 281474976710656 := ⟨_, rfl⟩
            obtain ⟨D, hD⟩ : ∃ D, D = q % 65536 := ⟨_, rfl⟩
            have hT : Hid (B.take (4 * 1 + (3 + 1)) = B.take (4 * 1 + 3) ++ [D]) := Lib.hid (by rw [HAll.out, hD, hq]; exact all_take (lb x 0) (lb x 1) (lb x 2) (lb x 3) (j := 1) (k := 3) (by decide) (by decide))
            have hql : q < 18446744073709551616 := by have := HL.out; omega
            have h1 : bits .and .u64 (q : Int) 65535 = (D : Int) := by rw [hD]; exact and64 q hql
            have h2 : (D : Int) % 4294967296 = (D : Int) := by omega
            have h3 : ((lb x 1 : Nat) : Int) / 281474976710656 = (q : Int) := by rw [hq]; omega
            clear hq hD hql
            go_wp2_with (at_builtin; refine app_d _ D rfl (.tmp 15) (.tmp 24) rfl rfl rfl rfl HR.out HW.out (by rw [List.length_take]; omega) ?_; intro v1 w1 hr hb; have HR2 := Lib.hid hr; have HW2 := Lib.hid hb; clear hr hb)
            go_roundw
            case rel => exact ⟨3 + 1, by omega, by go_num, by rw [hT.out]; exact HR2.out, HW2.out⟩
            case measure => simp [intOf]
        · obtain rfl : k = 4 := by omega
          go_wp2_with fail
          have HR2 := HR
          have HB2 := HW
          rw [rounds_succ]
          go_wp2_with fail
          go_loopw [3, 5] (fun o i wr => ∃ k : Nat, k ≤ 4 ∧ i = .int .i64 (k : Int) ∧ Rd W.heap.size o (B.take (4 * 2 + k)) wr ∧ Below W.heap.size W wr) (fun _ i _ => 4 - (intOf i).toNat)
          case atStart => exact ⟨0, by omega, rfl, HR2.out, HB2.out⟩
          case round =>
            clear HR2 HB2
            obtain ⟨k, hk, rfl, hr, hb⟩ := hrel
            have HR := Lib.hid hr
            have HW := Lib.hid hb
            clear hr hb
            by_cases hlt : k < 4
            · have hk4 : k = 0 ∨ k = 1 ∨ k = 2 ∨ k = 3 := by omega
              have ic : wr.cell? ⟨w.heap.size, 2, none⟩ = some (.int .u64 (lb x 2 : Nat)) := (HW.out.cell (p := ⟨w.heap.size, 2, none⟩) K0.out.lt).trans (K0.out.cell 2)
              clear hk
              rcases hk4 with rfl | rfl | rfl | rfl
              · obtain ⟨q, hq⟩ : ∃ q, q = lb x 2 / 1 := ⟨_, rfl⟩
                obtain ⟨D, hD⟩ : ∃ D, D = q % 65536 := ⟨_, rfl⟩
                have hT : Hid (B.take (4 * 2 + (0 + 1)) = B.take (4 * 2 + 0) ++ [D]) := Lib.hid (by rw [HAll.out, hD, hq]; exact all_take (lb x 0) (lb x 1) (lb x 2) (lb x 3) (j := 2) (k := 0) (by decide) (by decide))
                have hql : q < 18446744073709551616 := by have := HL.out; omega
                have h1 : bits .and .u64 (q : Int) 65535 = (D : Int) := by rw [hD]; exact and64 q hql
                have h2 : (D : Int) % 4294967296 = (D : Int) := by omega
                have h3 : lb x 2 = q := by rw [hq, Nat.div_one]
                rw [h3] at ic
                clear hq hD hql h3
                go_wp2_with (at_builtin; refine app_d _ D rfl (.tmp 15) (.tmp 24) rfl rfl rfl rfl HR.out HW.out (by rw [List.length_take]; omega) ?_; intro v1 w1 hr hb; have HR2 := Lib.hid hr; have HW2 := Lib.hid hb; clear hr hb)
                go_roundw
                case rel => exact ⟨0 + 1, by omega, by go_num, by rw [hT.out]; exact HR2.out, HW2.out⟩
                case measure => simp [intOf]
              · obtain ⟨q, hq⟩ : ∃ q, q = lb x 2 / 65536 := ⟨_, rfl⟩
                obtain ⟨D, hD⟩ : ∃ D, D = q % 65536 := ⟨_, rfl⟩
                have hT : Hid (B.take (4 * 2 + (1 + 1)) = B.take (4 * 2 + 1) ++ [D]) := Lib.hid (by rw [HAll.out, hD, hq]; exact all_take (lb x 0) (lb x 1) (lb x 2) (lb x 3) (j := 2) (k := 1) (by decide) (by decide))
                have hql : q < 18446744073709551616 := by have := HL.out; omega
                have h1 : bits .and .u64 (q : Int) 65535 = (D : Int) := by rw [hD]; exact and64 q hql
                have h2 : (D : Int) % 4294967296 = (D : Int) := by omega
                have h3 : ((lb x 2 : Nat) : Int) / 65536 = (q : Int) := by rw [hq]; omega
                clear hq hD hql
                go_wp2_with (at_builtin; refine app_d _ D rfl (.tmp 15) (.tmp 24) rfl rfl rfl rfl HR.out HW.out (by rw [List.length_take]; omega) ?_; intro v1 w1 hr hb; have HR2 := Lib.hid hr; have HW2 := Lib.hid hb; clear hr hb)
                go_roundw
                case rel => exact ⟨1 + 1, by omega, by go_num, by rw [hT.out]; exact HR2.out, HW2.out⟩
                case measure => simp [intOf]
              · obtain ⟨q, hq⟩ : ∃ q, q = lb x 2 / 4294967296 := ⟨_, rfl⟩
                obtain ⟨D, hD⟩ : ∃ D, D = q % 65536 := ⟨_, rfl⟩
                have hT : Hid (B.take (4 * 2 + (2 + 1)) = B.take (4 * 2 + 2) ++ [D]) := Lib.hid (by rw [HAll.out, hD, hq]; exact all_take (lb x 0) (lb x 1) (lb x 2) (lb x 3) (j := 2) (k := 2) (by decide) (by decide))
                have hql : q < 18446744073709551616 := by have := HL.out; omega
                have h1 : bits .and .u64 (q : Int) 65535 = (D : Int) := by rw [hD]; exact and64 q hql
                have h2 : (D : Int) % 4294967296 = (D : Int) := by omega
                have h3 : ((lb x 2 : Nat) : Int) / 4294967296 = (q : Int) := by rw [hq]; omega
                clear hq hD hql
                go_wp2_with (at_builtin; refine app_d _ D rfl (.tmp 15) (.tmp 24) rfl rfl rfl rfl HR.out HW.out (by rw [List.length_take]; omega) ?_; intro v1 w1 hr hb; have HR2 := Lib.hid hr; have HW2 := Lib.hid hb; clear hr hb)
                go_roundw
                case rel => exact ⟨2 + 1, by omega, by go_num, by rw [hT.out]; exact HR2.out, HW2.out⟩
                case measure => simp [intOf]
              · obtain ⟨q, hq⟩ : ∃ q, q = lb x 2 / 281474976710656 := ⟨_, rfl⟩
                obtain ⟨D, hD⟩ : ∃ D, D = q % 65536 := ⟨_, rfl⟩
                have hT : Hid (B.take (4 * 2 + (3 + 1)) = B.take (4 * 2 + 3) ++ [D]) := Lib.hid (by rw [HAll.out, hD, hq]; exact all_take (lb x 0) (lb x 1) (lb x 2) (lb x 3) (j := 2) (k := 3) (by decide) (by decide))
                have hql : q < 18446744073709551616 := by have := HL.out; omega
                have h1 : bits .and .u64 (q : Int) 65535 = (D : Int) := by rw [hD]; exact and64 q hql
                have h2 : (D : Int) % 4294967296 = (D : Int) := by omega
                have h3 : ((lb x 2 : Nat) : Int) / 281474976710656 = (q : Int) := by rw [hq]; omega
                clear hq hD hql
                go_wp2_with (at_builtin; refine app_d _ D rfl (.tmp 15) (.tmp 24) rfl rfl rfl rfl HR.out HW.out (by rw [List.length_take]; omega) ?_; intro v1 w1 hr hb; have HR2 := Lib.hid hr; have HW2 := Lib.hid hb; clear hr hb)
                go_roundw
                case rel => exact ⟨3 + 1, by omega, by go_num, by rw [hT.out]; exact HR2.out, HW2.out⟩
                case measure => simp [intOf]
            · obtain rfl : k = 4 := by omega
              go_wp2_with fail
              have HR3 := HR
              have HB3 := HW
              rw [rounds_succ]
              go_wp2_with fail
              go_loopw [3, 5] (fun o i wr => ∃ k : Nat, k ≤ 4 ∧ i = .int .i64 (k : Int) ∧ Rd W.heap.size o (B.take (4 * 3 + k)) wr ∧ Below W.heap.size W wr) (fun _ i _ => 4 - (intOf i).toNat)
              case atStart => exact ⟨0, by omega, rfl, HR3.out, HB3.out⟩
              case round =>
                clear HR3 HB3
                obtain ⟨k, hk, rfl, hr, hb⟩ := hrel
                have HR := Lib.hid hr
                have HW := Lib.hid hb
                clear hr hb
                by_cases hlt : k < 4
                · have hk4 : k = 0 ∨ k = 1 ∨ k = 2 ∨ k = 3 := by omega
                  have ic : wr.cell? ⟨w.heap.size, 3, none⟩ = some (.int .u64 (lb x 3 : Nat)) := (HW.out.cell (p := ⟨w.heap.size, 3, none⟩) K0.out.lt).trans (K0.out.cell 3)
                  clear hk
                  rcases hk4 with rfl | rfl | rfl | rfl
                  · obtain ⟨q, hq⟩ : ∃ q, q = lb x 3 / 1 := ⟨_, rfl⟩
                    obtain ⟨D, hD⟩ : ∃ D, D = q % 65536 := ⟨_, rfl⟩
                    have hT : Hid (B.take (4 * 3 + (0 + 1)) = B.take (4 * 3 + 0) ++ [D]) := Lib.hid (by rw [HAll.out, hD, hq]; exact all_take (lb x 0) (lb x 1) (lb x 2) (lb x 3) (j := 3) (k := 0) (by decide) (by decide))
                    have hql : q < 18446744073709551616 := by have := HL.out; omega
                    have h1 : bits .and .u64 (q : Int) 65535 = (D : Int) := by rw [hD]; exact and64 q hql
                    have h2 : (D : Int) % 4294967296 = (D : Int) := by omega
                    have h3 : lb x 3 = q := by rw [hq, Nat.div_one]
                    rw [h3] at ic
                    clear hq hD hql h3
                    go_wp2_with (at_builtin; refine app_d _ D rfl (.tmp 15) (.tmp 24) rfl rfl rfl rfl HR.out HW.out (by rw [List.length_take]; omega) ?_; intro v1 w1 hr hb; have HR2 := Lib.hid hr; have HW2 := Lib.hid hb; clear hr hb)
                    go_roundw
                    case rel => exact ⟨0 + 1, by omega, by go_num, by rw [hT.out]; exact HR2.out, HW2.out⟩
                    case measure => simp [intOf]
                  · obtain ⟨q, hq⟩ : ∃ q, q = lb x 3 / 65536 := ⟨_, rfl⟩
                    obtain ⟨D, hD⟩ : ∃ D, D = q % 65536 := ⟨_, rfl⟩
                    have hT : Hid (B.take (4 * 3 + (1 + 1)) = B.take (4 * 3 + 1) ++ [D]) := Lib.hid (by rw [HAll.out, hD, hq]; exact all_take (lb x 0) (lb x 1) (lb x 2) (lb x 3) (j := 3) (k := 1) (by decide) (by decide))
                    have hql : q < 18446744073709551616 := by have := HL.out; omega
                    have h1 : bits .and .u64 (q : Int) 65535 = (D : Int) := by rw [hD]; exact and64 q hql
                    have h2 : (D : Int) % 4294967296 = (D : Int) := by omega
                    have h3 : ((lb x 3 : Nat) : Int) / 65536 = (q : Int) := by rw [hq]; omega
                    clear hq hD hql
                    go_wp2_with (at_builtin; refine app_d _ D rfl (.tmp 15) (.tmp 24) rfl rfl rfl rfl HR.out HW.out (by rw [List.length_take]; omega) ?_; intro v1 w1 hr hb; have HR2 := Lib.hid hr; have HW2 := Lib.hid hb; clear hr hb)
                    go_roundw
                    case rel => exact ⟨1 + 1, by omega, by go_num, by rw [hT.out]; exact HR2.out, HW2.out⟩
                    case measure => simp [intOf]
                  · obtain ⟨q, hq⟩ : ∃ q, q = lb x 3 / 4294967296 := ⟨_, rfl⟩
                    obtain ⟨D, hD⟩ : ∃ D, D = q % 65536 := ⟨_, rfl⟩
                    have hT : Hid (B.take (4 * 3 + (2 + 1)) = B.take (4 * 3 + 2) ++ [D]) := Lib.hid (by rw [HAll.out, hD, hq]; exact all_take (lb x 0) (lb x 1) (lb x 2) (lb x 3) (j := 3) (k := 2) (by decide) (by decide))
                    have hql : q < 18446744073709551616 := by have := HL.out; omega
                    have h1 : bits .and .u64 (q : Int) 65535 = (D : Int) := by rw [hD]; exact and64 q hql
                    have h2 : (D : Int) % 4294967296 = (D : Int) := by omega
                    have h3 : ((lb x 3 : Nat) : Int) / 4294967296 = (q : Int) := by rw [hq]; omega
                    clear hq hD hql
                    go_wp2_with (at_builtin; refine app_d _ D rfl (.tmp 15) (.tmp 24) rfl rfl rfl rfl HR.out HW.out (by rw [List.length_take]; omega) ?_; intro v1 w1 hr hb; have HR2 := Lib.hid hr; have HW2 := Lib.hid hb; clear hr hb)
                    go_roundw
                    case rel => exact ⟨2 + 1, by omega, by go_num, by rw [hT.out]; exact HR2.out, HW2.out⟩
                    case measure => simp [intOf]
                  · obtain ⟨q, hq⟩ : ∃ q, q = lb x 3 / 281474976710656 := ⟨_, rfl⟩
                    obtain ⟨D, hD⟩ : ∃ D, D = q % 65536 := ⟨_, rfl⟩
                    have hT : Hid (B.take (4 * 3 + (3 + 1)) = B.take (4 * 3 + 3) ++ [D]) := Lib.hid (by rw [HAll.out, hD, hq]; exact all_take (lb x 0) (lb x 1) (lb x 2) (lb x 3) (j := 3) (k := 3) (by decide) (by decide))
                    have hql : q < 18446744073709551616 := by have := HL.out; omega
                    have h1 : bits .and .u64 (q : Int) 65535 = (D : Int) := by rw [hD]; exact and64 q hql
                    have h2 : (D : Int) % 4294967296 = (D : Int) := by omega
                    have h3 : ((lb x 3 : Nat) : Int) / 281474976710656 = (q : Int) := by rw [hq]; omega
                    clear hq hD hql
                    go_wp2_with (at_builtin; refine app_d _ D rfl (.tmp 15) (.tmp 24) rfl rfl rfl rfl HR.out HW.out (by rw [List.length_take]; omega) ?_; intro v1 w1 hr hb; have HR2 := Lib.hid hr; have HW2 := Lib.hid hb; clear hr hb)
                    go_roundw
                    case rel => exact ⟨3 + 1, by omega, by go_num, by rw [hT.out]; exact HR2.out, HW2.out⟩
                    case measure => simp [intOf]
                · obtain rfl : k = 4 := by omega
                  go_wp2_with fail
                  rw [rounds_succ]
                  go_wp2_with fail
                  have hBl : B.take (4 * 3 + 4) = B := List.take_of_length_le (by rw [HAll.out]; simp [all4, four])
                  rw [hBl] at HR
                  have hne : B ≠ [] := by rw [HAll.out]; simp [all4, four]
                  have hlen : B.length ≤ 10000000000001 := by rw [HAll.out]; simp [all4, four]
                  refine (trim_any B _ wr (HR.out.dr hne hlen)).mono ?_
                  rintro e w2 ⟨⟨v2, rfl, hdr⟩, rfl⟩
                  have HF : Hid (Nr w wr v2 x) := Lib.hid ⟨⟨_, hdr, trim_dig (by rw [HAll.out]; exact all_dig _ _ _ _), trim_trim _, by
                    rw [trim_val, HAll.out, all_val HL.out.1 HL.out.2.1 HL.out.2.2.1 HL.out.2.2.2]
                    have := v4_lb HX.out
                    unfold v4 at this
                    omega⟩, HBW.out.trans (HW.out.mono (by rw [HWS.out]; omega))⟩
                  clear hdr
                  go_wp2_with fail
                  go_ret
                  exact ⟨_, rfl, HF.out⟩
end Go.Proofs.Ytglmmodkflkkkaa.Ref
