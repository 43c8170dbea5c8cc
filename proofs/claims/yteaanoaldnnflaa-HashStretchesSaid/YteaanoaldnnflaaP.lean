/- A stretched block. Condition: a key's block of 64 bytes; at most 2^47 bytes and some more. -/
import Derived.Test.YteaanoaldnnflaaO
import Derived.Test.YteaanoaldnnflaaQt
set_option linter.unusedVariables false
set_option linter.unusedSimpArgs false
namespace Go.Proofs.Yteaanoaldnnflaa
open Go.RowKit Go.Sort

theorem u70 : Try.prog.underlying 70 = some (.array 32 5) := by kernel_rfl
theorem i70 (l : List UInt8) (h : l.length = 32) : (Try.prog.info? 70).map (·.size) = some (bs l).size := by
  rw [bs_size, h]; kernel_rfl
/-- the first k of two lists of bytes xor together, the rest of the first -/
def zipX (v h : List UInt8) (k : Nat) : List UInt8 := (List.zipWith (· ^^^ ·) v h).take k ++ v.drop k
theorem zipX_length (v h : List UInt8) (hv : v.length = 32) (hh : h.length = 32) (k : Nat) : (zipX v h k).length = 32 := by
  simp [zipX, hv, hh]; omega
theorem zipX_get (v h : List UInt8) (hv : v.length = 32) (hh : h.length = 32) (k : Nat) (hk : k < 32) : (zipX v h k)[k]'(by rw [zipX_length v h hv hh]; exact hk) = v[k] := by
  simp only [zipX]
  rw [List.getElem_append_right (by simp; omega)]
  simp [hv, hh, Nat.min_eq_left (Nat.le_of_lt hk)]
theorem zipX_set (v h : List UInt8) (hv : v.length = 32) (hh : h.length = 32) (k : Nat) (hk : k < 32) : (zipX v h k).set k (v[k] ^^^ h[k]) = zipX v h (k + 1) := by
  have hz : (List.zipWith (· ^^^ ·) v h).length = 32 := by simp [hv, hh]
  simp only [zipX]
  have e : k - ((List.zipWith (· ^^^ ·) v h).take k).length = 0 := by rw [List.length_take, hz]; omega
  rw [List.set_append_right _ _ (by rw [List.length_take, hz]; omega), e, List.drop_eq_getElem_cons (by omega), List.set_cons_zero, List.take_succ_eq_append_getElem (by omega), List.append_assoc]
  simp
theorem zipX_all (v h : List UInt8) (hv : v.length = 32) (hh : h.length = 32) : zipX v h 32 = List.zipWith (· ^^^ ·) v h := by
  unfold zipX
  rw [List.take_of_length_le (by simp [hv, hh]), List.drop_of_length_le (by omega), List.append_nil]
theorem str_length (k : List UInt8) (r : Nat) (s b : List UInt8) (hb : b.length = 32) : (strTo k r s b).2.length = 32 := by
  induction r with
  | zero => exact hb
  | succ r ih => rw [strTo, List.length_zipWith, ih, mac_length]; rfl
theorem str_s (k : List UInt8) (r : Nat) (s b : List UInt8) (N : Nat) (hs : s.length ≤ N) (hN : 32 ≤ N) : (strTo k r s b).1.length ≤ N := by
  cases r with
  | zero => exact hs
  | succ r => rw [strTo, mac_length]; exact hN

/-- the key's block, the block under way -/
structure Sx (w wr : World) (k b : List UInt8) : Prop where
  key : wr.heap[w.heap.size]? = some (.cells (bs k) 46 (0, 0))
  blk : wr.heap[w.heap.size + 1]? = some (.cells (bs b) 70 (0, 0))
  below : Below w.heap.size w wr
theorem Sx.on {w wr w' : World} {k b : List UInt8} (x : Sx w wr k b) (h : Below wr.heap.size wr w') : Sx w w' k b :=
  ⟨(h.block _ (Array.getElem?_eq_some_iff.1 x.key).1).trans x.key, (h.block _ (Array.getElem?_eq_some_iff.1 x.blk).1).trans x.blk, x.below.trans (h.mono (by have := (Array.getElem?_eq_some_iff.1 x.key).1; omega))⟩
theorem Sx.put {w wr : World} {k b : List UInt8} (x : Sx w wr k b) (j : Nat) (y : UInt8) : Sx w (wr.setCell ⟨w.heap.size + 1, j, none⟩ (.int .u8 (y.toNat : Int))).drew k (b.set j y) :=
  ⟨(Below.heap_setCell wr ⟨w.heap.size + 1, j, none⟩ (.int .u8 (y.toNat : Int)) w.heap.size (by simp)).trans x.key, (blk_put x.blk j (.int .u8 (y.toNat : Int))).trans (by rw [bs_set]), (x.below.setCell (p := ⟨w.heap.size + 1, j, none⟩) (by simp) _).drew⟩

set_option maxHeartbeats 4000000 in
set_option maxRecDepth 100000 in
theorem stretched_any (k : List UInt8) (hk : k.length = 64) (s : List UInt8) (hs : s.length ≤ 140737488355392) (r : Nat) (hr : r ≤ 64) (w : World) :
    Calls Try.prog 28 #[.agg (bs k), .string ⟨s.toArray⟩, .int .i64 r] w fun e w' => e = .returned (.string ⟨(strL k s r).toArray⟩) ∧ Below w.heap.size w w' := by
  have HKL := Lib.hid hk
  have HSL := Lib.hid hs
  have HI := Lib.hid (i46 k hk)
  have hr1 : (r : Int) ≤ 64 := by omega
  clear hk hs
  go_enter Try.func28, Try.ntmps28
  go_wp2_with fail
  go_loopw [1, 10] (fun m i wr => ∃ j : Nat, j ≤ r ∧ i = .int .i64 j ∧ m = .string ⟨(strTo k j s (List.replicate 32 0)).1.toArray⟩ ∧ Sx w wr k (strTo k j s (List.replicate 32 0)).2) (fun _ i _ => r - (intOf i).toNat)
  case atStart =>
    refine ⟨0, by omega, rfl, rfl, ?_, ?_, ((Below.refl _ _).alloc (Nat.le_refl _) _).alloc (by simp) _⟩
    · exact alloc2a w _ _
    · exact (alloc2b w _ _).trans (by kernel_rfl)
  case round =>
    obtain ⟨j, hj, rfl, rfl, hx⟩ := hrel
    have HX := Lib.hid hx
    clear hx
    by_cases hlt : j < r
    · have HC := Lib.hid (macK_any k HKL.out (strTo k j s (List.replicate 32 0)).1 (str_s k j s _ _ HSL.out (by omega)))
      have HN : Hid (strTo k (j + 1) s (List.replicate 32 0) = (macK k (strTo k j s (List.replicate 32 0)).1, List.zipWith (· ^^^ ·) (strTo k j s (List.replicate 32 0)).2 (macK k (strTo k j s (List.replicate 32 0)).1))) := Lib.hid rfl
      have HML := Lib.hid (mac_length k (strTo k j s (List.replicate 32 0)).1)
      have HBL := Lib.hid (str_length k j s (List.replicate 32 0) (by simp))
      generalize macK k (strTo k j s (List.replicate 32 0)).1 = m at HC HN HML
      generalize (strTo k j s (List.replicate 32 0)).1 = m0 at HC ⊢
      generalize (strTo k j s (List.replicate 32 0)).2 = b at HX HN HBL
      go_wp2_with (refine wpList_load_row rfl 46 (.tmp 3) rfl w.heap.size rfl 46 (bs k) (0, 0) _ HX.out.key u46 rfl HI.out ?_)
      refine (HC.out _).mono ?_
      rintro e w1 ⟨rfl, b1⟩
      have HX1 : Hid (Sx w w1 k (zipX b m 0)) := Lib.hid (HX.out.on b1)
      clear HX HC b1
      have hms := size_ba m
      have hml : 32 ≤ m.length := by have := HML.out; omega
      go_wp2_with fail
      go_loopw [15] (fun i wr => ∃ q : Nat, q ≤ 32 ∧ i = .int .i64 q ∧ Sx w wr k (zipX b m q)) (fun i _ => 32 - (intOf i).toNat)
      case atStart => exact ⟨0, by omega, rfl, HX1.out⟩
      case round =>
        obtain ⟨q, hq, rfl, hx⟩ := hrel
        have HX := Lib.hid hx
        clear hx HX1
        by_cases hlt2 : q < 32
        · have cv := (blk_cell HX.out.blk q).trans (bs_get _ q (by rw [zipX_length b m HBL.out HML.out]; exact hlt2))
          rw [zipX_get b m HBL.out HML.out q hlt2] at cv
          have fv := Lib.frozen_of_heap HX.out.blk q
          have hqm : q < m.length := by omega
          have HT := Lib.hid (zipX_set b m HBL.out HML.out q hlt2)
          have hxx := xorB (b[q]'(by rw [HBL.out]; exact hlt2)) (m[q]'hqm)
          generalize b[q]'(by rw [HBL.out]; exact hlt2) = xv at cv HT hxx
          generalize hy : xv ^^^ m[q]'hqm = y at HT hxx
          have HV : Hid (bits BinOp.xor IntKind.u8 (xv.toNat : Int) ((((⟨m.toArray⟩ : ByteArray)[q]'(by rw [hms]; exact hqm)).toNat : Nat) : Int) = (y.toNat : Int)) := Lib.hid (show bits BinOp.xor IntKind.u8 (xv.toNat : Int) ((m[q]'hqm).toNat : Int) = _ from hxx)
          clear hy hxx
          go_wp2_with fail
          go_region
          rw [HV.out]
          have HX2 := Lib.hid (HX.out.put q y)
          rw [HT.out] at HX2
          clear HX cv fv
          go_wp2_with fail
          go_roundw
          case rel => exact ⟨q + 1, by omega, by go_num, HX2.out⟩
          case measure => simp [intOf]; omega
        · obtain rfl : q = 32 := by omega
          have HX2 : Hid (Sx w wr k (strTo k (j + 1) s (List.replicate 32 0)).2) := Lib.hid (by
            have := HX.out
            rw [zipX_all b m HBL.out HML.out] at this
            rw [HN.out]; exact this)
          have HM2 : Hid ((strTo k (j + 1) s (List.replicate 32 0)).1 = m) := Lib.hid (by rw [HN.out])
          clear HX
          go_wp2_with fail
          go_roundw
          case rel => exact ⟨j + 1, by omega, by go_num, by rw [HM2.out], HX2.out⟩
          case measure => simp [intOf]; omega
    · obtain rfl : j = r := by omega
      have HF : Hid (wr.heap[w.heap.size + 1]? = some (.cells (bs (strL k s j)) 70 (0, 0))) := Lib.hid HX.out.blk
      have hc : (convert 33 9 (.slice (some ⟨w.heap.size + 1, 0, none⟩) 32 32)).run Try.prog wr = .ok (.string ⟨(strL k s j).toArray⟩) wr := by
        have := conv_row (c := 32) HF.out
        rwa [show (strL k s j).length = 32 from str_length k j s _ (by simp)] at this
      go_wp2_with fail
      go_ret
      exact ⟨rfl, HX.out.below⟩
end Go.Proofs.Yteaanoaldnnflaa
