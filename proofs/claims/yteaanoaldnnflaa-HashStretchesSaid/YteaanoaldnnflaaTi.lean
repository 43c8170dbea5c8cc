/- The document's own product of two numbers in digits. Condition: at most 1000 digits. -/
import Derived.Test.YteaanoaldnnflaaRa
import Derived.Test.YteaanoaldnnflaaDg
import Derived.Laws.MakeOwn
set_option linter.unusedVariables false
set_option linter.unusedSimpArgs false
namespace Go.Proofs.Yteaanoaldnnflaa
open Go.RowKit Go.Sort

/-- digits as cells -/
def us (l : List Nat) : Array Value := (l.map fun (x : Nat) => Value.int .u64 (x : Int)).toArray
theorem us_size (l : List Nat) : (us l).size = l.length := by simp [us]
theorem us_get (l : List Nat) (i : Nat) (h : i < l.length) : (us l)[i]? = some (.int .u64 (l[i] : Int)) := by simp [us, h]
theorem us_set (l : List Nat) (o x : Nat) : (us l).setIfInBounds o (.int .u64 (x : Int)) = us (l.set o x) := by
  simp [us, List.map_set]

theorem info61 : (Try.prog.info? 61).map (fun i => (i.zero, i.size, i.bytes)) = some (some (.int .u64 0), 1, 8) := by kernel_rfl
theorem made_us (n : Nat) : madeCells (Value.int .u64 0).cells (n * 1) = us (List.replicate n 0) := by
  apply Array.ext
  · simp [us, madeCells]
  · intro i h1 h2
    simp [us, madeCells, Value.cells, Nat.mod_one]
theorem make_u64 (w : World) (n : Nat) (hn : n ≤ 100000) : (Instr.makeSlice 64 (.int .i64 (n : Int)) (.int .i64 (n : Int))).run Try.prog w = .ok (.slice (some ⟨w.heap.size, 0, none⟩) n n) (w.alloc (.cells (us (List.replicate n 0)) 61)) := by
  obtain ⟨i0, hi, hz0, hz1, hz2⟩ := info_parts info61
  have := run_make (P := Try.prog) w 64 61 i0 (.int .u64 0) Try.underlying64 hi hz0 .i64 .i64 n n (by omega) (Int.le_refl _) (by rw [hz2]; omega) (by omega)
  rw [hz1] at this
  simp only [Int.toNat_natCast] at this
  rw [this, made_us]

theorem and16 (T : Nat) (hT : T < 18446744073709551616) : bits .and .u64 (T : Int) 65535 = ((T % 65536 : Nat) : Int) := by
  have := u64_and_nat T 65535 hT (by omega)
  rw [show ((65535 : Nat) : Int) = 65535 from rfl] at this
  rw [this, show (65535 : Nat) = 2 ^ 16 - 1 from rfl, Nat.and_two_pow_sub_one_eq_mod]
/-- the outer loop's relation -/
def TiO (w : World) (a b : List Nat) (i : Value) (wr : World) : Prop := ∃ (n : Nat) (out : List Nat), n ≤ a.length ∧ i = .int .i64 n ∧ wr.heap[w.heap.size]? = some (.cells (us out) 61 (0, 0)) ∧ Out a b out n ∧ Below w.heap.size w wr
/-- the inner loop's -/
def TiI (w : World) (S ai : Nat) (b : List Nat) (n L : Nat) (u i : Value) (wr : World) : Prop := ∃ (k c : Nat) (out : List Nat), k ≤ b.length ∧ i = .int .i64 k ∧ u = .int .u64 c ∧ wr.heap[w.heap.size]? = some (.cells (us out) 61 (0, 0)) ∧ Inn S ai b out n k c ∧ out.length = L ∧ Below w.heap.size w wr
set_option maxHeartbeats 4000000 in
set_option maxRecDepth 100000 in
theorem times_any (ga gb : Nat) (a b : List Nat) (ha : Dig a) (hb : Dig b) (la : a.length ≤ 1000) (lb : b.length ≤ 1000) (ca cb : Nat) (Ta Tb : TypeId) (w : World) (wa : w.heap[ga]? = some (.cells (us a) Ta (0, 0))) (wb : w.heap[gb]? = some (.cells (us b) Tb (0, 0))) :
    Calls Try.prog 48 #[.slice (some ⟨ga, 0, none⟩) a.length ca, .slice (some ⟨gb, 0, none⟩) b.length cb] w fun e w' =>
      (∃ g out, e = .returned (.slice (some ⟨g, 0, none⟩) out.length out.length) ∧ w'.heap[g]? = some (.cells (us out) 61 (0, 0)) ∧ Dig out ∧ out.length = a.length + b.length ∧ val out = val a * val b) ∧ Below w.heap.size w w' := by
  have HDA := Lib.hid ha
  have HDB := Lib.hid hb
  have HWA := Lib.hid wa
  have HWB := Lib.hid wb
  have la1 : (a.length : Int) ≤ 1000 := by omega
  have lb1 : (b.length : Int) ≤ 1000 := by omega
  clear ha hb wa wb
  go_enter Try.func48, Try.ntmps48
  go_wp2_with fail
  rw [show (a.length : Int) + (b.length : Int) = ((a.length + b.length : Nat) : Int) from by omega, make_u64 w (a.length + b.length) (by omega)]
  simp only [Result.andThen]
  rw [Oper.upon_value]
  have HN : Hid ((w.alloc (.cells (us (List.replicate (a.length + b.length) 0)) 61)).heap[w.heap.size]? = some (.cells (us (List.replicate (a.length + b.length) 0)) 61 (0, 0))) := Lib.hid (Go.heap_alloc_new w _)
  have HO := Lib.hid (out_start a b)
  have HB0 : Hid (Below w.heap.size w (w.alloc (.cells (us (List.replicate (a.length + b.length) 0)) 61))) := Lib.hid ((Below.refl _ _).alloc (Nat.le_refl _) _)
  generalize w.alloc (.cells (us (List.replicate (a.length + b.length) 0)) 61) = w1 at HN HB0 ⊢
  generalize List.replicate (a.length + b.length) 0 = out0 at HN HO
  have hge : (((a.length + b.length : Nat) : Int)) = (a.length : Int) + (b.length : Int) := by omega
  go_wp2_with fail
  go_loopw [6] (fun i wr => TiO w a b i wr) (fun i _ => a.length - (intOf i).toNat)
  case atStart => exact ⟨0, out0, by omega, rfl, HN.out, HO.out, HB0.out⟩
  case round =>
    obtain ⟨n, out, hn, rfl, hw, ho, hb⟩ := hrel
    have HN1 := Lib.hid hw
    have HO1 := Lib.hid ho
    have HB1 := Lib.hid hb
    clear hw ho hb HN HO HB0
    by_cases hlt : n < a.length
    · have HI0 := Lib.hid (out_in HO1.out hlt)
      have HAD := Lib.hid (dig_get HDA.out n hlt)
      have HOL := Lib.hid HO1.out.len
      generalize hai : a[n] = ai at HI0 HAD
      have HAI := Lib.hid hai
      clear hai
      go_wp2_with fail
      go_loopw [7, 8] (fun u i wr => TiI w (val out) ai b n out.length u i wr) (fun _ i _ => b.length - (intOf i).toNat)
      case atStart => exact ⟨0, 0, out, by omega, rfl, rfl, HN1.out, HI0.out, rfl, HB1.out⟩
      case round =>
        obtain ⟨k, c, o2, hk, rfl, rfl, hw, hi, hl, hb⟩ := hrel
        have HN2 := Lib.hid hw
        have HI2 := Lib.hid hi
        have HL2 := Lib.hid hl
        have HB2 := Lib.hid hb
        clear hw hi hl hb HN1 HI0 HB1
        by_cases hkl : k < b.length
        · have hnk : n + k < o2.length := by have := HL2.out; have := HOL.out; omega
          have HT := Lib.hid (inn_step HI2.out HAD.out HDB.out hkl (by have := HL2.out; have := HOL.out; omega))
          have c0 := (blk_cell HN2.out (n + k)).trans (us_get o2 (n + k) hnk)
          have c1 := (blk_cell ((HB2.out.block ga (blk_lt HWA.out)).trans HWA.out) n).trans (us_get a n hlt)
          have c2 := (blk_cell ((HB2.out.block gb (blk_lt HWB.out)).trans HWB.out) k).trans (us_get b k hkl)
          have f0 := Lib.frozen_of_heap HN2.out (n + k)
          have hok := dig_get HI2.out.dig (n + k) hnk
          have hbk := dig_get HDB.out k hkl
          have hcr := HI2.out.carry
          have ha0 := HAD.out
          rw [HAI.out] at c1
          have hm0 : ai * b[k] ≤ 65535 * 65535 := Nat.mul_le_mul (by omega) (by omega)
          generalize b[k] = bk at c2 hbk hm0 HT
          generalize o2[n + k] = ok at c0 hok HT
          have hmc : ((ai * bk : Nat) : Int) = (ai : Int) * (bk : Int) := by simp
          obtain ⟨M, hM⟩ : ∃ M : Nat, M = ai * bk := ⟨_, rfl⟩
          rw [← hM] at hm0 hmc HT
          have e1 : (ai : Int) * (bk : Int) = (M : Int) := hmc.symm
          have e2 : IntKind.u64.wrap (M : Int) = (M : Int) := IntWalk.u64_in _ (by omega)
          obtain ⟨T, hT⟩ : ∃ T : Nat, T = c + (ok + M) := ⟨_, rfl⟩
          rw [← hT] at HT
          have e3 : IntKind.u64.wrap ((ok : Int) + (M : Int)) = (ok : Int) + (M : Int) := IntWalk.u64_in _ (by omega)
          have e4 : IntKind.u64.wrap ((c : Int) + ((ok : Int) + (M : Int))) = (T : Int) := by rw [IntWalk.u64_in _ (by omega)]; omega
          have e5 : (c : Int) + ((ok : Int) + (M : Int)) = (T : Int) := by omega
          have e6 := and16 T (by omega)
          have e7 : (T : Int) / 65536 = ((T / 65536 : Nat) : Int) := by simp
          generalize T % 65536 = r at e6 HT
          generalize T / 65536 = q at e7 HT
          have e8 : IntKind.i64.wrap ((n : Int) + (k : Int)) = (n : Int) + (k : Int) := IntWalk.i64_in _ (by omega)
          have e9 : ((n : Int) + (k : Int)).toNat = n + k := by omega
          have j1 : 0 ≤ (n : Int) + (k : Int) := by omega
          have j2 : (n : Int) + (k : Int) < (a.length : Int) + (b.length : Int) := by omega
          clear hmc hM hT
          go_wp2_with fail
          go_quiet (fail)
          have HN3 : Hid ((wr.drewN nq).heap[w.heap.size]? = some (.cells (us o2) 61 (0, 0))) := Lib.hid HN2.out
          have HB3 : Hid (Below w.heap.size w (wr.drewN nq)) := Lib.hid ⟨HB2.out.os, HB2.out.tape, HB2.out.output, HB2.out.size, HB2.out.block⟩
          clear c0 c1 c2 f0 HN2 HB2 e1 e2 e3 e4 e5
          generalize wr.drewN nq = w5 at HN3 HB3 ⊢
          have c0 := (blk_cell HN3.out (n + k)).trans (us_get o2 (n + k) hnk)
          have f0 := Lib.frozen_of_heap HN3.out (n + k)
          go_wp2_with fail
          have HN4 := Lib.hid (blk_put HN3.out (n + k) (.int .u64 (r : Int)))
          rw [us_set] at HN4
          have HB4 := Lib.hid (HB3.out.setCell (p := ⟨w.heap.size, n + k, none⟩) (Nat.le_refl _) (.int .u64 (r : Int)))
          go_roundw
          case rel => exact ⟨k + 1, q, o2.set (n + k) r, by omega, by go_num, rfl, HN4.out, HT.out, by rw [List.length_set]; exact HL2.out, HB4.out⟩
          case measure => simp [intOf]; omega
        · obtain rfl : k = b.length := by omega
          have HF := Lib.hid (in_out HO1.out hlt (by rw [HAI.out]; exact HI2.out) HL2.out)
          have hnb : n + b.length < o2.length := by have := HL2.out; have := HOL.out; omega
          have c0 := (blk_cell HN2.out (n + b.length)).trans (us_get o2 (n + b.length) hnb)
          have f0 := Lib.frozen_of_heap HN2.out (n + b.length)
          have e8 : IntKind.i64.wrap ((n : Int) + (b.length : Int)) = (n : Int) + (b.length : Int) := IntWalk.i64_in _ (by omega)
          have e9 : ((n : Int) + (b.length : Int)).toNat = n + b.length := by omega
          have q1 : 0 ≤ (n : Int) + (b.length : Int) := by omega
          have q2 : (n : Int) + (b.length : Int) < (a.length : Int) + (b.length : Int) := by omega
          go_wp2_with fail
          have HN4 := Lib.hid (blk_put HN2.out (n + b.length) (.int .u64 (c : Int)))
          rw [us_set] at HN4
          have HB4 := Lib.hid (HB2.out.setCell (p := ⟨w.heap.size, n + b.length, none⟩) (Nat.le_refl _) (.int .u64 (c : Int)))
          go_roundw
          case rel => exact ⟨n + 1, o2.set (n + b.length) c, by omega, by go_num, HN4.out, HF.out, HB4.out⟩
          case measure => simp [intOf]; omega
    · obtain rfl : n = a.length := by omega
      have HE := Lib.hid (out_end HO1.out)
      have HOL := Lib.hid HO1.out.len
      go_wp2_with fail
      go_ret
      exact ⟨⟨w.heap.size, out, by rw [HOL.out]; rfl, HN1.out, HO1.out.dig, HOL.out, HE.out⟩, HB1.out⟩
end Go.Proofs.Yteaanoaldnnflaa
