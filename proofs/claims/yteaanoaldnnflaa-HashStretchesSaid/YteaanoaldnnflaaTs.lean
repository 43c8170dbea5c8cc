/- The reference's Stretch whole; HashStretches: the walk. Condition: at most 2^47 bytes less 512 each. -/
import Derived.Test.YteaanoaldnnflaaTr
set_option linter.unusedVariables false
set_option linter.unusedSimpArgs false
namespace Go.Proofs.Yteaanoaldnnflaa
open Go.RowKit Go.Sort

theorem Rm.cap {B g m cap : Nat} {l : List UInt8} {w : World} (h : Rm B (.slice (some ⟨g, 0, none⟩) m cap) l w) : m = l.length ∧ l.length ≤ cap ∧ cap ≤ maxLen := by
  obtain ⟨g', cap', cur, fz, e, _, _, _, h1, h2, _⟩ := h
  simp only [Value.slice.injEq, Option.some.injEq, Addr.mk.injEq, and_true, true_and] at e
  obtain ⟨_, rfl, rfl⟩ := e
  exact ⟨rfl, h1, h2⟩

set_option maxHeartbeats 8000000 in
set_option maxRecDepth 100000 in
theorem stretch_main (pass salt : List UInt8) (hp : pass.length ≤ 140737488355200) (hs : salt.length ≤ 140737488355000) (R M : Nat) (hR1 : 1 ≤ R) (hR2 : R ≤ 64) (hM1 : 1 ≤ M) (hM2 : M ≤ 96) (w : World) :
    Calls Try.prog 15 #[.string ⟨pass.toArray⟩, .string ⟨salt.toArray⟩, .int .i64 (R : Int), .int .i64 (M : Int)] w fun e w' => e = .returned (.tuple #[.string ⟨((blocksL (fillL pass) salt R 3).take M).toArray⟩, .int .i64 0]) ∧ Below w.heap.size w w' := by
  have HP := Lib.hid hp
  have HS := Lib.hid hs
  have e1 : decide ((R : Int) < 1) = false := by simp; omega
  have e2 : decide ((64 : Int) < (R : Int)) = false := by simp; omega
  have e3 : decide ((M : Int) < 1) = false := by simp; omega
  have e4 : decide ((96 : Int) < (M : Int)) = false := by simp; omega
  have HM := Lib.hid (fun (s : List UInt8) (h : s.length ≤ 140737488355100) K w hk => mac_ref pass s hp h K w hk)
  clear hp hs
  go_enter Try.func15, Try.ntmps15
  go_wp2_with fail
  refine (keys_k _).mono ?_
  rintro e w1 ⟨⟨K, rfl, hk⟩, b1⟩
  have HK := Lib.hid hk
  have B1 := Lib.hid b1
  have HR0 := Lib.hid (rm_nil w1)
  have HA0 := Lib.hid ((Below.refl w1.heap.size w1).alloc (Nat.le_refl _) (.cells #[] 5))
  clear hk b1
  go_wp2_with fail
  go_loopw [11, 12] (fun v j wr => ∃ m : Nat, m ≤ 3 ∧ j = .int .i64 ((m : Int) + 1) ∧ Rm w1.heap.size v (blocksL (fillL pass) salt R m) wr ∧ Below w1.heap.size w1 wr) (fun v _ _ => 200 - (match v with | .slice _ n _ => n | _ => 0))
  case atStart => exact ⟨0, by omega, rfl, HR0.out, HA0.out⟩
  case round =>
    obtain ⟨m, hm3, rfl, hr, hb⟩ := hrel
    have HB := Lib.hid hb
    obtain ⟨g, cap, hv, _⟩ := hr.un
    have HL := Lib.hid (blocks_length (fillL pass) salt R m)
    rw [HL.out] at hv
    subst hv
    have HR := Lib.hid hr
    have hcap := hr.cap
    clear hr hb HR0 HA0
    have hcap1 : 32 * m ≤ cap := by have := hcap.2.1; rw [HL.out] at this; exact this
    have hcap2 := hcap.2.2
    clear hcap
    by_cases hlt : 32 * m < M
    · have hm : m < 3 := by omega
      obtain ⟨x, hx⟩ : ∃ x, x = UInt32.ofNat (m + 1) := ⟨_, rfl⟩
      have hxn : (x.toNat : Int) = (m : Int) + 1 := by rw [hx, w_ofNat _ (by omega)]; omega
      have HX := Lib.hid hx
      have F4 := Lib.hid (four31 x wr)
      rw [hxn] at F4
      have hcv : (convert 33 9 (.slice (some ⟨wr.heap.size, 0, none⟩) 4 4)).run Try.prog (wr.alloc (.cells (bs (fourL x)) 5)) = .ok (.string ⟨(fourL x).toArray⟩) (wr.alloc (.cells (bs (fourL x)) 5)) := conv_row (l := fourL x) (c := 4) (Go.heap_alloc_new wr _)
      have HB2 : Hid (Below w1.heap.size w1 (wr.alloc (.cells (bs (fourL x)) 5))) := Lib.hid (HB.out.alloc HB.out.size _)
      have HW2 : Hid (Below wr.heap.size wr (wr.alloc (.cells (bs (fourL x)) 5))) := Lib.hid ((Below.refl _ _).alloc (Nat.le_refl _) _)
      have happ := app_ba salt (fourL x)
      have HSL : Hid ((salt ++ fourL x).length ≤ 140737488355100) := Lib.hid (by rw [List.length_append, fourL_length]; have := HS.out; omega)
      have HBS : Hid (blocksL (fillL pass) salt R (m + 1) = blocksL (fillL pass) salt R m ++ strL (fillL pass) (salt ++ fourL x) R) := Lib.hid (by rw [blocks_succ, HX.out])
      clear hx HX
      have hss := HS.out
      have hf4 := fourL_length x
      generalize hw2 : wr.alloc (.cells (bs (fourL x)) 5) = w2 at hcv HB2 HW2 F4
      generalize salt ++ fourL x = s at happ HSL HBS
      go_wp2_with fail
      refine F4.out.mono ?_
      rintro e w3 ⟨rfl, rfl⟩
      go_wp2_with fail
      refine (HM.out s HSL.out K _ (HK.out.below HB2.out)).mono ?_
      rintro e w4 ⟨rfl, b4⟩
      have HK4 := Lib.hid ((HK.out.below HB2.out).below (b4))
      have HB4 := Lib.hid (HB2.out.trans (b4.mono HB2.out.size))
      have HW4 := Lib.hid (HW2.out.trans (b4.mono HW2.out.size))
      have HML : Hid ((macL pass s).length = 32) := Lib.hid (mac_length _ _)
      obtain ⟨v5, w5, hc, hr5, hb5⟩ := conv_m (macL pass s) (by rw [HML.out]; decide) w4
      obtain ⟨g5, cap5, hv5, _⟩ := hr5.un
      rw [HML.out] at hv5
      subst hv5
      have HR5 := Lib.hid hr5
      have HB5 := Lib.hid hb5
      clear hr5 hb5 b4 hcv happ HB2 HW2
      go_wp2_with fail
      refine turns13 w4 g5 cap5 R K pass s HP.out hR1 hR2 _ HK4.out HB5.out HR5.out ?_
      intros
      rename_i w6 f1 f2
      have HNW := Lib.hid f1.news.2
      have HXS : Hid (Value.slice (some ⟨g5, 0, none⟩) 32 cap5 = Value.slice (some ⟨g5, 0, none⟩) (strL (fillL pass) s R).length cap5) := Lib.hid (by rw [strL_length])
      have HW6 := Lib.hid (HW4.out.trans (f2.mono HW4.out.size))
      have HB6 := Lib.hid (HB4.out.trans (f2.mono HB4.out.size))
      have HR6 := Lib.hid (HR.out.below HW6.out)
      have HLL : Hid ((blocksL (fillL pass) salt R m).length + (strL (fillL pass) s R).length ≤ 140737488355328) := Lib.hid (by rw [HL.out, strL_length]; omega)
      clear f1 f2 HW4 HB4 HR5 HB5 HK4
      go_wp2_with (at_builtin; refine app_n (B := w1.heap.size) (strL (fillL pass) s R) g5 cap5 (.tmp 70) (.tmp 71) rfl rfl rfl HXS.out HNW.out HR6.out HB6.out.size HLL.out ?_; intro v7 w7 hr hb _; have HR7 := Lib.hid hr; have HB7 := Lib.hid (HB6.out.trans hb); clear hr hb)
      have HR8 : Hid (Rm w1.heap.size v7 (blocksL (fillL pass) salt R (m + 1)) w7) := Lib.hid (by rw [HBS.out]; exact HR7.out)
      obtain ⟨g8, cap8, hv8, _⟩ := HR8.out.un
      have hl8 := blocks_length (fillL pass) salt R (m + 1)
      rw [hl8] at hv8
      have HV8 := Lib.hid hv8
      clear hv8 hl8
      go_roundw
      case rel => exact ⟨m + 1, by omega, by go_num, HR8.out, HB7.out⟩
      case measure => rw [HV8.out]; simp; omega
    · have HCT := Lib.hid (HR.out.cut M (by rw [HL.out]; omega))
      have HTK : Hid ((blocksL (fillL pass) salt R 3).take M = (blocksL (fillL pass) salt R m).take M) := Lib.hid (by
        have := blocks_take (fillL pass) salt R M m (by omega) (3 - m)
        rwa [show m + (3 - m) = 3 from by omega] at this)
      have hMm : (M : Int) ≤ 32 * (m : Int) := by omega
      have hMc : (M : Int) ≤ (cap : Int) := by omega
      have hct := HCT.out
      clear HCT
      go_wp2_with fail
      go_ret2
      exact ⟨by rw [HTK.out]; rfl, B1.out.trans (HB.out.mono B1.out.size)⟩

set_option maxHeartbeats 4000000 in
set_option maxRecDepth 100000 in
theorem stretch_bad (pass salt : List UInt8) (r n : Int) (h : r < 1 ∨ 64 < r) (w : World) :
    Calls Try.prog 15 #[.string ⟨pass.toArray⟩, .string ⟨salt.toArray⟩, .int .i64 r, .int .i64 n] w fun e w' => e = .returned (.tuple #[.string ⟨#[]⟩, .int .i64 40]) ∧ Below w.heap.size w w' := by
  have key2 : (decide (r < 1) || decide (64 < r)) = true := by simpa using h
  clear h
  go_enter Try.func15, Try.ntmps15
  go_wp2_with fail
  all_goals
    go_ret2
    exact ⟨rfl, Below.refl _ _⟩
set_option maxHeartbeats 4000000 in
set_option maxRecDepth 100000 in
theorem stretch_long (pass salt : List UInt8) (r n : Int) (h1 : 1 ≤ r) (h2 : r ≤ 64) (h : n < 1 ∨ 96 < n) (w : World) :
    Calls Try.prog 15 #[.string ⟨pass.toArray⟩, .string ⟨salt.toArray⟩, .int .i64 r, .int .i64 n] w fun e w' => e = .returned (.tuple #[.string ⟨#[]⟩, .int .i64 41]) ∧ Below w.heap.size w w' := by
  have key2 : (decide (n < 1) || decide (96 < n)) = true := by simpa using h
  have e1 : decide (r < 1) = false := by simpa using h1
  have e2 : decide (64 < r) = false := by simpa using h2
  clear h
  go_enter Try.func15, Try.ntmps15
  go_wp2_with fail
  all_goals
    go_ret2
    exact ⟨rfl, Below.refl _ _⟩
theorem stretch_ref (pass salt : List UInt8) (hp : pass.length ≤ 140737488355200) (hs : salt.length ≤ 140737488355000) (r n : Int) (w : World) :
    Calls Try.prog 15 #[.string ⟨pass.toArray⟩, .string ⟨salt.toArray⟩, .int .i64 r, .int .i64 n] w fun e w' => e = .returned (.tuple #[.string ⟨(stretchR pass salt r n).1.toArray⟩, .int .i64 (stretchR pass salt r n).2]) ∧ Below w.heap.size w w' := by
  unfold stretchR
  by_cases h1 : r < 1 ∨ 64 < r
  · rw [if_pos h1]; exact stretch_bad pass salt r n h1 w
  · rw [if_neg h1]
    by_cases h2 : n < 1 ∨ 96 < n
    · rw [if_pos h2]; exact stretch_long pass salt r n (by omega) (by omega) h2 w
    · rw [if_neg h2]
      obtain ⟨R, rfl⟩ : ∃ R : Nat, r = R := ⟨r.toNat, by omega⟩
      obtain ⟨M, rfl⟩ : ∃ M : Nat, n = M := ⟨n.toNat, by omega⟩
      exact stretch_main pass salt hp hs R M (by omega) (by omega) (by omega) (by omega) w

namespace hashStretches
set_option maxHeartbeats 4000000 in
set_option maxRecDepth 100000 in
theorem walk (a b : List UInt8) (x y : Int) (w : World) (ha : a.length ≤ 140737488355200) (hb : b.length ≤ 140737488355000) (hx : -9223372036854775808 ≤ x ∧ x ≤ 9223372036854775807) (hy : -9223372036854775808 ≤ y ∧ y ≤ 9223372036854775807) :
    Calls Try.prog 5 #[.string ⟨a.toArray⟩, .string ⟨b.toArray⟩, .agg #[.int .i64 x, .int .i64 y]] w fun e w' => e = .returned (.bool true) ∧ Below w.heap.size w w' := by
  have H1 := Lib.hid (stretch_any a b (Nat.le_trans ha (by decide)) (Nat.le_trans hb (by decide)) x y)
  have H2 := Lib.hid (stretch_ref a b ha hb x y)
  generalize (stretchR a b x y).1 = p at H1 H2
  generalize (stretchR a b x y).2 = q at H1 H2
  obtain ⟨w0, hw0⟩ : ∃ w0, w.alloc (.cells #[.int .i64 x, .int .i64 y] 28) = w0 := ⟨_, rfl⟩
  have hb0 : Below w.heap.size w w0 := by rw [← hw0]; exact (Below.refl _ _).alloc (Nat.le_refl _) _
  have hh0 : w0.heap[w.heap.size]? = some (.cells #[.int .i64 x, .int .i64 y] 28 (0, 0)) := by rw [← hw0]; exact Go.heap_alloc_new w _
  have hz0 : w.heap.size < w0.heap.size := by rw [← hw0]; simp
  have HW0 := Lib.hid hw0
  have HB0 := Lib.hid hb0
  have HH0 := Lib.hid hh0
  clear hw0 hb0 hh0 ha hb hx hy
  go_enter Try.func5, Try.ntmps5
  go_wp2_with fail
  rw [HW0.out]
  refine (H1.out _).mono ?_
  rintro e w1 ⟨rfl, b1⟩
  have HH1 := Lib.hid ((b1.block _ hz0).trans HH0.out)
  have c0 := (blk_cell HH1.out 0)
  have c1 := (blk_cell HH1.out 1)
  have B1 := Lib.hid (HB0.out.trans (b1.mono HB0.out.size))
  clear b1 H1 HH0 HB0 HW0 hz0
  go_wp2_with fail
  refine (H2.out _).mono ?_
  rintro e w2 ⟨rfl, b2⟩
  have B2 := Lib.hid (B1.out.trans (b2.mono B1.out.size))
  clear b2 B1 HH1 H2
  go_wp2_with fail
  refine (awake_any _).mono ?_
  rintro e w3 ⟨rfl, b3⟩
  have B3 := Lib.hid (B2.out.trans (b3.mono B2.out.size))
  clear b3 B2
  go_wp2_with fail
  go_ret
  exact ⟨rfl, B3.out⟩
end hashStretches
end Go.Proofs.Yteaanoaldnnflaa
