/- The document's own product of two numbers in digits. Condition: at most 1000 digits. The document's own comparison of a number in digits. Condition: at most 1000 digits. The document's own roots. Condition: a number below 2^16, its square or cube root. The document's own primes: the first 8, the first 64. No condition. The document's own numbers: the roots of its primes. No condition. The referenc -/
import Derived.Laws.MakeOwn
import Derived.Test.YtpggkfdijmnmiaaGreatZum06
import Derived.Test.YtpggkfdijmnmiaaGreatZum08
import Derived.Test.YtpggkfdijmnmiaaGreatZum07
import Derived.Deep.AppendLies
set_option linter.unusedVariables false
set_option linter.unusedSimpArgs false
set_option maxRecDepth 100000
namespace Go.Proofs.YtpggkfdijmnmiaaGreat.Hs
open Go.RowKit Go.Sort
def us (l : List Nat) : Array Value := (l.map fun (x : Nat) => Value.int .u64 (x : Int)).toArray
theorem us_get (l : List Nat) (i : Nat) (h : i < l.length) : (us l)[i]? = some (.int .u64 (l[i] : Int)) := by simp [us, h]
theorem us_set (l : List Nat) (o x : Nat) : (us l).setIfInBounds o (.int .u64 (x : Int)) = us (l.set o x) := by
  simp [us, List.map_set]
theorem info61 : (Tryz.prog.info? 22).map (fun i => (i.zero, i.size, i.bytes)) = some (some (.int .u64 0), 1, 8) := by kernel_rfl
theorem made_us (n : Nat) : madeCells (Value.int .u64 0).cells (n * 1) = us (List.replicate n 0) := by
  apply Array.ext
  · simp [us, madeCells]
  · intro i h1 h2
    simp [us, madeCells, Value.cells, Nat.mod_one]
theorem make_u64 (w : World) (n : Nat) (hn : n ≤ 100000) : (Instr.makeSlice 178 (.int .i64 (n : Int)) (.int .i64 (n : Int))).run Tryz.prog w = .ok (.slice (some ⟨w.heap.size, 0, none⟩) n n) (w.alloc (.cells (us (List.replicate n 0)) 22)) := by
  obtain ⟨i0, hi, hz0, hz1, hz2⟩ := info_parts info61
  have := run_make (P := Tryz.prog) w 178 22 i0 (.int .u64 0) Tryz.underlying178 hi hz0 .i64 .i64 n n (by omega) (Int.le_refl _) (by rw [hz2]; omega) (by omega)
  rw [hz1] at this
  simp only [Int.toNat_natCast] at this
  rw [this, made_us]
theorem and16 (T : Nat) (hT : T < 18446744073709551616) : bits .and .u64 (T : Int) 65535 = ((T % 65536 : Nat) : Int) := by
  have := u64_and_nat T 65535 hT (by omega)
  rw [show ((65535 : Nat) : Int) = 65535 from rfl] at this
  rw [this, show (65535 : Nat) = 2 ^ 16 - 1 from rfl, Nat.and_two_pow_sub_one_eq_mod]
def TiO (w : World) (a b : List Nat) (i : Value) (wr : World) : Prop := ∃ (n : Nat) (out : List Nat), n ≤ a.length ∧ i = .int .i64 n ∧ wr.heap[w.heap.size]? = some (.cells (us out) 22 (0, 0)) ∧ Out a b out n ∧ Below w.heap.size w wr
def TiI (w : World) (S ai : Nat) (b : List Nat) (n L : Nat) (u i : Value) (wr : World) : Prop := ∃ (k c : Nat) (out : List Nat), k ≤ b.length ∧ i = .int .i64 k ∧ u = .int .u64 c ∧ wr.heap[w.heap.size]? = some (.cells (us out) 22 (0, 0)) ∧ Inn S ai b out n k c ∧ out.length = L ∧ Below w.heap.size w wr
set_option maxHeartbeats 4000000 in
set_option maxRecDepth 100000 in
theorem times_any (ga gb : Nat) (a b : List Nat) (ha : Dig a) (hb : Dig b) (la : a.length ≤ 1000) (lb : b.length ≤ 1000) (ca cb : Nat) (Ta Tb : TypeId) (w : World) (wa : w.heap[ga]? = some (.cells (us a) Ta (0, 0))) (wb : w.heap[gb]? = some (.cells (us b) Tb (0, 0))) :
    Calls Tryz.prog 180 #[.slice (some ⟨ga, 0, none⟩) a.length ca, .slice (some ⟨gb, 0, none⟩) b.length cb] w fun e w' =>
      (∃ g out, e = .returned (.slice (some ⟨g, 0, none⟩) out.length out.length) ∧ w'.heap[g]? = some (.cells (us out) 22 (0, 0)) ∧ Dig out ∧ out.length = a.length + b.length ∧ val out = val a * val b) ∧ Below w.heap.size w w' := by
  have HDA := Lib.hid ha
  have HDB := Lib.hid hb
  have HWA := Lib.hid wa
  have HWB := Lib.hid wb
  have la1 : (a.length : Int) ≤ 1000 := by omega
  have lb1 : (b.length : Int) ≤ 1000 := by omega
  clear ha hb wa wb
  go_enter Tryz.func180, Tryz.ntmps180
  go_wp2_with fail
  rw [show (a.length : Int) + (b.length : Int) = ((a.length + b.length : Nat) : Int) from by omega, make_u64 w (a.length + b.length) (by omega)]
  simp only [Result.andThen]
  rw [Oper.upon_value]
  have HN : Hid ((w.alloc (.cells (us (List.replicate (a.length + b.length) 0)) 22)).heap[w.heap.size]? = some (.cells (us (List.replicate (a.length + b.length) 0)) 22 (0, 0))) := Lib.hid (Go.heap_alloc_new w _)
  have HO := Lib.hid (out_start a b)
  have HB0 : Hid (Below w.heap.size w (w.alloc (.cells (us (List.replicate (a.length + b.length) 0)) 22))) := Lib.hid ((Below.refl _ _).alloc (Nat.le_refl _) _)
  generalize w.alloc (.cells (us (List.replicate (a.length + b.length) 0)) 22) = w1 at HN HB0 ⊢
  generalize List.replicate (a.length + b.length) 0 = out0 at HN HO
  have hge : (((a.length + b.length : Nat) : Int)) = (a.length : Int) + (b.length : Int) := by omega
  go_wp2_with fail
  go_loopw [6] (fun i wr => TiO w a b i wr) (fun i _ => a.length - (intOf i).toNat)
  case atStart => exact ⟨0, out0, by omega, rfl, HN.out, HO.out, HB0.out⟩
  case round =>
    obtain ⟨n, out, hn, rfl, hw, ho, hb⟩ := hrel
    have HN1 := Lib.hid hw
    have HO1 := Lib.hid ho
    have HB1 := Lib.hid hb
    clear hw ho hb HN HO HB0
    by_cases hlt : n < a.length
    · have HI0 := Lib.hid (out_in HO1.out hlt)
      have HAD := Lib.hid (dig_get HDA.out n hlt)
      have HOL := Lib.hid HO1.out.len
      generalize hai : a[n] = ai at HI0 HAD
      have HAI := Lib.hid hai
      clear hai
      go_wp2_with fail
      go_loopw [7, 8] (fun u i wr => TiI w (val out) ai b n out.length u i wr) (fun _ i _ => b.length - (intOf i).toNat)
      case atStart => exact ⟨0, 0, out, by omega, rfl, rfl, HN1.out, HI0.out, rfl, HB1.out⟩
      case round =>
        obtain ⟨k, c, o2, hk, rfl, rfl, hw, hi, hl, hb⟩ := hrel
        have HN2 := Lib.hid hw
        have HI2 := Lib.hid hi
        have HL2 := Lib.hid hl
        have HB2 := Lib.hid hb
        clear hw hi hl hb HN1 HI0 HB1
        by_cases hkl : k < b.length
        · have hnk : n + k < o2.length := by have := HL2.out; have := HOL.out; omega
          have HT := Lib.hid (inn_step HI2.out HAD.out HDB.out hkl (by have := HL2.out; have := HOL.out; omega))
          have c0 := (blk_cell HN2.out (n + k)).trans (us_get o2 (n + k) hnk)
          have c1 := (blk_cell ((HB2.out.block ga (blk_lt HWA.out)).trans HWA.out) n).trans (us_get a n hlt)
          have c2 := (blk_cell ((HB2.out.block gb (blk_lt HWB.out)).trans HWB.out) k).trans (us_get b k hkl)
          have f0 := Lib.frozen_of_heap HN2.out (n + k)
          have hok := dig_get HI2.out.dig (n + k) hnk
          have hbk := dig_get HDB.out k hkl
          have hcr := HI2.out.carry
          have ha0 := HAD.out
          rw [HAI.out] at c1
          have hm0 : ai * b[k] ≤ 65535 * 65535 := Nat.mul_le_mul (by omega) (by omega)
          generalize b[k] = bk at c2 hbk hm0 HT
          generalize o2[n + k] = ok at c0 hok HT
          have hmc : ((ai * bk : Nat) : Int) = (ai : Int) * (bk : Int) := by simp
          obtain ⟨M, hM⟩ : ∃ M : Nat, M = ai * bk := ⟨_, rfl⟩
          rw [← hM] at hm0 hmc HT
          have e1 : (ai : Int) * (bk : Int) = (M : Int) := hmc.symm
          have e2 : IntKind.u64.wrap (M : Int) = (M : Int) := IntWalk.u64_in _ (by omega)
          obtain ⟨T, hT⟩ : ∃ T : Nat, T = c + (ok + M) := ⟨_, rfl⟩
          rw [← hT] at HT
          have e3 : IntKind.u64.wrap ((ok : Int) + (M : Int)) = (ok : Int) + (M : Int) := IntWalk.u64_in _ (by omega)
          have e4 : IntKind.u64.wrap ((c : Int) + ((ok : Int) + (M : Int))) = (T : Int) := by rw [IntWalk.u64_in _ (by omega)]; omega
          have e5 : (c : Int) + ((ok : Int) + (M : Int)) = (T : Int) := by omega
          have e6 := and16 T (by omega)
          have e7 : (T : Int) / 65536 = ((T / 65536 : Nat) : Int) := by simp
          generalize T % 65536 = r at e6 HT
          generalize T / 65536 = q at e7 HT
          have e8 : IntKind.i64.wrap ((n : Int) + (k : Int)) = (n : Int) + (k : Int) := IntWalk.i64_in _ (by omega)
          have e9 : ((n : Int) + (k : Int)).toNat = n + k := by omega
          have j1 : 0 ≤ (n : Int) + (k : Int) := by omega
          have j2 : (n : Int) + (k : Int) < (a.length : Int) + (b.length : Int) := by omega
          clear hmc hM hT
          go_wp2_with fail
          go_quiet (fail)
          have HN3 : Hid ((wr.drewN nq).heap[w.heap.size]? = some (.cells (us o2) 22 (0, 0))) := Lib.hid HN2.out
          have HB3 : Hid (Below w.heap.size w (wr.drewN nq)) := Lib.hid ⟨HB2.out.os, HB2.out.tape, HB2.out.output, HB2.out.size, HB2.out.block⟩
          clear c0 c1 c2 f0 HN2 HB2 e1 e2 e3 e4 e5
          generalize wr.drewN nq = w5 at HN3 HB3 ⊢
          have c0 := (blk_cell HN3.out (n + k)).trans (us_get o2 (n + k) hnk)
          have f0 := Lib.frozen_of_heap HN3.out (n + k)
          go_wp2_with fail
          have HN4 := Lib.hid (blk_put HN3.out (n + k) (.int .u64 (r : Int)))
          rw [us_set] at HN4
          have HB4 := Lib.hid (HB3.out.setCell (p := ⟨w.heap.size, n + k, none⟩) (Nat.le_refl _) (.int .u64 (r : Int)))
          go_roundw
          case rel => exact ⟨k + 1, q, o2.set (n + k) r, by omega, by go_num, rfl, HN4.out, HT.out, by rw [List.length_set]; exact HL2.out, HB4.out⟩
          case measure => simp [intOf]; omega
        · obtain rfl : k = b.length := by omega
          have HF := Lib.hid (in_out HO1.out hlt (by rw [HAI.out]; exact HI2.out) HL2.out)
          have hnb : n + b.length < o2.length := by have := HL2.out; have := HOL.out; omega
          have c0 := (blk_cell HN2.out (n + b.length)).trans (us_get o2 (n + b.length) hnb)
          have f0 := Lib.frozen_of_heap HN2.out (n + b.length)
          have e8 : IntKind.i64.wrap ((n : Int) + (b.length : Int)) = (n : Int) + (b.length : Int) := IntWalk.i64_in _ (by omega)
          have e9 : ((n : Int) + (b.length : Int)).toNat = n + b.length := by omega
          have q1 : 0 ≤ (n : Int) + (b.length : Int) := by omega
          have q2 : (n : Int) + (b.length : Int) < (a.length : Int) + (b.length : Int) := by omega
          go_wp2_with fail
          have HN4 := Lib.hid (blk_put HN2.out (n + b.length) (.int .u64 (c : Int)))
          rw [us_set] at HN4
          have HB4 := Lib.hid (HB2.out.setCell (p := ⟨w.heap.size, n + b.length, none⟩) (Nat.le_refl _) (.int .u64 (c : Int)))
          go_roundw
          case rel => exact ⟨n + 1, o2.set (n + b.length) c, by omega, by go_num, HN4.out, HF.out, HB4.out⟩
          case measure => simp [intOf]; omega
    · obtain rfl : n = a.length := by omega
      have HE := Lib.hid (out_end HO1.out)
      have HOL := Lib.hid HO1.out.len
      go_wp2_with fail
      go_ret
      exact ⟨⟨w.heap.size, out, by rw [HOL.out]; rfl, HN1.out, HO1.out.dig, HOL.out, HE.out⟩, HB1.out⟩
end Go.Proofs.YtpggkfdijmnmiaaGreat.Hs
namespace Go.Proofs.YtpggkfdijmnmiaaGreat.Hs
open Go.RowKit Go.Sort
def AbR (a : List Nat) (p m : Nat) (i : Value) : Prop := ∃ z : Int, i = .int .i64 z ∧ -1 ≤ z ∧ z < a.length ∧ Top a p m (z + 1).toNat
set_option maxHeartbeats 4000000 in
set_option maxRecDepth 100000 in
theorem above_any (g : Nat) (a : List Nat) (ha : Dig a) (la : a.length ≤ 1000) (p n : Nat) (hp : p < 65536) (hn : 2 * n < a.length) (ca : Nat) (Ta : TypeId) (w : World) (wa : w.heap[g]? = some (.cells (us a) Ta (0, 0))) :
    Calls Tryz.prog 181 #[.slice (some ⟨g, 0, none⟩) a.length ca, .int .u64 p, .int .i64 n] w fun e w' => e = .returned (.bool (decide (p * 65536 ^ (2 * n) < val a))) ∧ w = w' := by
  have HDA := Lib.hid ha
  have HWA := Lib.hid wa
  have HP := Lib.hid hp
  have HN := Lib.hid hn
  have HT0 : Hid (Top a p (2 * n) a.length) := Lib.hid fun i h hle => by omega
  have la1 : (a.length : Int) ≤ 1000 := by omega
  have n1 : (n : Int) ≤ 1000 := by omega
  have l0 : (1 : Int) ≤ a.length := by omega
  clear ha wa hp hn
  go_enter Tryz.func181, Tryz.ntmps181
  go_wp2_with fail
  go_loop [7] (fun i => AbR a p (2 * n) i) (fun i => (intOf i + 1).toNat)
  case atStart => exact ⟨(a.length : Int) - 1, rfl, by omega, by omega, by rw [show ((a.length : Int) - 1 + 1).toNat = a.length from by omega]; exact HT0.out⟩
  case round =>
    obtain ⟨z, rfl, hz1, hz2, ht⟩ := hrel
    have HT := Lib.hid ht
    clear ht HT0
    by_cases hz : 0 ≤ z
    · obtain ⟨m, rfl⟩ : ∃ m : Nat, z = m := ⟨z.toNat, by omega⟩
      have hm : m < a.length := by omega
      have HT1 : Hid (Top a p (2 * n) (m + 1)) := Lib.hid (by have := HT.out; rwa [show ((m : Int) + 1).toNat = m + 1 from by omega] at this)
      have cm := (blk_cell HWA.out m).trans (us_get a m hm)
      have HF := Lib.hid (fun hne => top_found (j := m) HDA.out HP.out HT1.out hm HN.out hne)
      have HTS : Hid (a[m] = spot p (2 * n) m → Top a p (2 * n) m) := Lib.hid fun he i h hle => by
        by_cases e : i = m
        · subst e; exact he
        · exact HT1.out i h (by omega)
      generalize a[m] = x at cm HF HTS
      by_cases hmn : m = 2 * n
      · have hsp : spot p (2 * n) m = p := by unfold spot; rw [if_pos hmn]
        rw [hsp] at HF HTS
        have hb : ((m : Int) == 2 * (n : Int)) = true := by simp; omega
        have HM := Lib.hid hmn
        clear hsp hmn HT
        by_cases hx : x = p
        · have HX := Lib.hid (HTS.out hx)
          have hxb : ((x : Int) != (p : Int)) = false := by simp [hx]
          clear HTS HF
          subst hx
          go_wp2_with fail
          go_round
          case rel => exact ⟨(m : Int) - 1, rfl, by omega, by omega, by rw [show ((m : Int) - 1 + 1).toNat = m from by omega]; exact HX.out⟩
          case measure => (simp [intOf]; try omega)
        · have hxb : ((x : Int) != (p : Int)) = true := by simp; omega
          have HR : Hid (decide (p * 65536 ^ (2 * n) < val a) = decide (p < x)) := Lib.hid (decide_eq_decide.2 (HF.out hx).symm)
          have HX := Lib.hid hx
          clear HTS HF hx
          go_wp2_with fail
          go_ret
          exact ⟨by rw [HR.out]; rfl, rfl⟩
      · have hsp : spot p (2 * n) m = 0 := by unfold spot; rw [if_neg hmn]
        rw [hsp] at HF HTS
        have hb : ((m : Int) == 2 * (n : Int)) = false := by simp; omega
        have hb2 : ¬ (m : Int) = 2 * (n : Int) := by omega
        clear hsp hmn HT
        by_cases hx : x = 0
        · have HX := Lib.hid (HTS.out hx)
          clear HTS HF
          subst hx
          go_wp2_with fail
          go_round
          case rel => exact ⟨(m : Int) - 1, rfl, by omega, by omega, by rw [show ((m : Int) - 1 + 1).toNat = m from by omega]; exact HX.out⟩
          case measure => (simp [intOf]; try omega)
        · have hxb : ((x : Int) != 0) = true := by simp; omega
          have hx0 : 0 < x := by omega
          have hx1 : decide ((0 : Int) < (x : Int)) = true := by simp; omega
          have HR : Hid (decide (p * 65536 ^ (2 * n) < val a) = true) := Lib.hid (decide_eq_true ((HF.out hx).1 hx0))
          clear HTS HF hx
          go_wp2_with fail
          go_ret
          exact ⟨by rw [HR.out]; rfl, rfl⟩
    · obtain rfl : z = -1 := by omega
      have HR : Hid (decide (p * 65536 ^ (2 * n) < val a) = false) := Lib.hid (by
        have := top_end (show Top a p (2 * n) 0 from HT.out) HN.out
        rw [this]; simp)
      go_wp2_with fail
      go_ret
      exact ⟨by rw [HR.out]; rfl, rfl⟩
end Go.Proofs.YtpggkfdijmnmiaaGreat.Hs
namespace Go.Proofs.YtpggkfdijmnmiaaGreat.Hs
open Go.RowKit Go.Sort
def dig3 (y : Nat) : List Nat := [y % 65536, y / 65536 % 65536, y / 4294967296]
theorem dig3_val (y : Nat) : val (dig3 y) = y := by simp [dig3, val]; omega
theorem dig3_dig (y : Nat) (h : y < 281474976710656) : Dig (dig3 y) := by
  intro x hx
  simp [dig3] at hx
  omega
def rootW (p n : Nat) : UInt32 := UInt32.ofNat (rootN p n 41 0 % 4294967296)
def RoR (w : World) (p n R : Nat) (u i : Value) (wr : World) : Prop := ∃ (z : Int) (x : Nat), i = .int .i64 z ∧ u = .int .u64 x ∧ -1 ≤ z ∧ z ≤ 40 ∧ x + 2 ^ (z + 1).toNat ≤ 2199023255552 ∧ rootN p n (z + 1).toNat x = R ∧ Below w.heap.size w wr
theorem pow_le40 (m : Nat) (h : m ≤ 40) : 2 ^ m ≤ 1099511627776 := by
  have := Nat.pow_le_pow_right (show 1 ≤ 2 by omega) h
  exact this
set_option maxHeartbeats 4000000 in
set_option maxRecDepth 100000 in
theorem root_any (p n : Nat) (hp : p < 65536) (hn : n = 2 ∨ n = 3) (w : World) :
    Calls Tryz.prog 154 #[.int .u64 p, .int .i64 n] w fun e w' => e = .returned (.int .u32 ((rootW p n).toNat : Int)) ∧ Below w.heap.size w w' := by
  have HP := Lib.hid hp
  have HNN := Lib.hid hn
  have n1 : (n : Int) ≤ 3 := by omega
  obtain ⟨R, hR⟩ : ∃ R, R = rootN p n 41 0 := ⟨_, rfl⟩
  have HR := Lib.hid hR
  clear hp hn hR
  go_enter Tryz.func154, Tryz.ntmps154
  go_wp2_with fail
  go_loopw [5, 6] (fun u i wr => RoR w p n R u i wr) (fun _ i _ => (intOf i + 1).toNat)
  case atStart => exact ⟨40, 0, rfl, rfl, by omega, by omega, by decide, HR.out.symm, Below.refl _ _⟩
  case round =>
    obtain ⟨z, x, rfl, rfl, hz1, hz2, hx, hr, hb⟩ := hrel
    have HRR := Lib.hid hr
    have HB := Lib.hid hb
    have HXB := Lib.hid hx
    clear hr hb hx
    by_cases hz : 0 ≤ z
    · obtain ⟨m, rfl⟩ : ∃ m : Nat, z = m := ⟨z.toNat, by omega⟩
      have hm : m ≤ 40 := by omega
      have HXM : Hid (x + 2 ^ (m + 1) ≤ 2199023255552) := Lib.hid (by have := HXB.out; rwa [show ((m : Int) + 1).toNat = m + 1 from by omega] at this)
      have HRM : Hid (rootN p n (m + 1) x = R) := Lib.hid (by have := HRR.out; rwa [show ((m : Int) + 1).toNat = m + 1 from by omega] at this)
      obtain ⟨D, hD⟩ : ∃ D, D = 2 ^ m := ⟨_, rfl⟩
      have hD40 : D ≤ 1099511627776 := by rw [hD]; exact pow_le40 m hm
      have hxD : x + D + D ≤ 2199023255552 := by have := HXM.out; rw [Nat.pow_succ, ← hD] at this; omega
      have w1 : IntKind.u64.wrap ((2 : Int) ^ m) = (D : Int) := by
        rw [show ((2 : Int) ^ m) = ((2 ^ m : Nat) : Int) from by simp, ← hD]; exact IntWalk.u64_in _ (by omega)
      have HDM := Lib.hid hD
      clear hD
      obtain ⟨y, hy⟩ : ∃ y, y = x + D := ⟨_, rfl⟩
      have w2 : IntKind.u64.wrap ((x : Int) + (D : Int)) = (y : Int) := by rw [IntWalk.u64_in _ (by omega)]; omega
      have b1 := and16 y (by omega)
      have s1 : (y : Int) / 65536 = ((y / 65536 : Nat) : Int) := by simp
      have b2 := and16 (y / 65536) (by omega)
      have s2 : (y : Int) / 4294967296 = ((y / 4294967296 : Nat) : Int) := by simp
      have HV := Lib.hid (dig3_val y)
      have HDG := Lib.hid (dig3_dig y (by omega))
      have hd3 : us (dig3 y) = #[.int .u64 ((y % 65536 : Nat) : Int), .int .u64 ((y / 65536 % 65536 : Nat) : Int), .int .u64 ((y / 4294967296 : Nat) : Int)] := rfl
      have HD3 := Lib.hid hd3
      clear hd3
      have HLEN : Hid ((dig3 y).length = 3) := Lib.hid rfl
      generalize y % 65536 = y0 at b1 HD3
      generalize y / 65536 % 65536 = y1 at b2 HD3
      generalize y / 65536 = yq at s1 b2
      generalize y / 4294967296 = y2 at s2 HD3
      have HY := Lib.hid hy
      clear hy
      generalize hgd : dig3 y = dy at HV HDG HD3 HLEN
      have HDY := Lib.hid hgd
      clear hgd
      go_wp2_with fail
      rw [← HD3.out]
      have HGA : Hid (((wr.alloc (.cells (us dy) 22)).alloc (.cells #[.int .u64 1] 22)).heap[wr.heap.size]? = some (.cells (us dy) 22 (0, 0))) := Lib.hid (alloc2a wr _ _)
      have HGB : Hid (((wr.alloc (.cells (us dy) 22)).alloc (.cells #[.int .u64 1] 22)).heap[wr.heap.size + 1]? = some (.cells (us [1]) 22 (0, 0))) := Lib.hid (alloc2b wr _ _)
      have HBA : Hid (Below w.heap.size w ((wr.alloc (.cells (us dy) 22)).alloc (.cells #[.int .u64 1] 22))) := Lib.hid ((HB.out.alloc HB.out.size _).alloc (by have := HB.out.size; simp; omega) _)
      generalize (wr.alloc (.cells (us dy) 22)).alloc (.cells #[.int .u64 1] 22) = w3 at HGA HGB HBA ⊢
      generalize wr.heap.size = gd at HGA HGB ⊢
      go_loopw [9, 10] (fun u i wr => ∃ (j g : Nat) (out : List Nat), j ≤ n ∧ i = .int .i64 j ∧ u = .slice (some ⟨g, 0, none⟩) out.length out.length ∧ wr.heap[g]? = some (.cells (us out) 22 (0, 0)) ∧ Dig out ∧ out.length = 1 + 3 * j ∧ val out = y ^ j ∧
  wr.heap[gd]? = some (.cells (us dy) 22 (0, 0)) ∧ Below w.heap.size w wr) (fun _ i _ => n - (intOf i).toNat)
      case atStart => exact ⟨0, gd + 1, [1], by omega, rfl, rfl, HGB.out, by intro q hq; simp at hq; omega, rfl, by simp [val], HGA.out, HBA.out⟩
      case round =>
        obtain ⟨j, g, out, hj, rfl, rfl, hw, hdg, hlen, hval, hgd, hb⟩ := hrel
        have HW := Lib.hid hw
        have HDO := Lib.hid hdg
        have HLO := Lib.hid hlen
        have HVO := Lib.hid hval
        have HGD := Lib.hid hgd
        have HBB := Lib.hid hb
        have HJ := Lib.hid hj
        clear hw hdg hlen hval hgd hb HGA HGB HBA hj
        by_cases hjn : j < n
        · have HT : Hid (Calls Tryz.prog 180 #[.slice (some ⟨g, 0, none⟩) out.length out.length, .slice (some ⟨gd, 0, none⟩) 3 3] wr fun e w' =>
              (∃ g' o', e = .returned (.slice (some ⟨g', 0, none⟩) o'.length o'.length) ∧ w'.heap[g']? = some (.cells (us o') 22 (0, 0)) ∧ Dig o' ∧ o'.length = out.length + 3 ∧ val o' = val out * val dy) ∧ Below wr.heap.size wr w') := Lib.hid (by
            have := times_any g gd out dy HDO.out HDG.out (by have := HLO.out; omega) (by rw [HLEN.out]; omega) out.length 3 22 22 wr HW.out HGD.out
            rwa [HLEN.out] at this)
          go_wp2_with fail
          refine HT.out.mono ?_
          rintro e w6 ⟨⟨g', o', rfl, h1, h2, h3, h4⟩, b6⟩
          have HA1 := Lib.hid h1
          have HA2 := Lib.hid h2
          have HA3 : Hid (o'.length = 1 + 3 * (j + 1)) := Lib.hid (by rw [h3, HLO.out]; omega)
          have HA4 : Hid (val o' = y ^ (j + 1)) := Lib.hid (by rw [h4, HVO.out, HV.out, Nat.pow_succ])
          have HA5 : Hid (w6.heap[gd]? = some (.cells (us dy) 22 (0, 0))) := Lib.hid ((b6.block _ (blk_lt HGD.out)).trans HGD.out)
          have HA6 := Lib.hid (HBB.out.trans (b6.mono HBB.out.size))
          clear h1 h2 h3 h4 b6 HT
          go_wp2_with fail
          go_roundw
          case rel => exact ⟨j + 1, g', o', by omega, by go_num, rfl, HA1.out, HA2.out, HA3.out, HA4.out, HA5.out, HA6.out⟩
          case measure => simp [intOf]; omega
        · have hjn2 : j = n := by have := HJ.out; omega
          have HC := Lib.hid (above_any g out HDO.out (by have := HLO.out; have := HJ.out; omega) p n HP.out (by have := HLO.out; rw [this, hjn2]; omega) out.length 22 wr HW.out)
          rw [HVO.out, hjn2] at HC
          clear hjn2
          by_cases hab : p * 65536 ^ (2 * n) < y ^ n
          · rw [decide_eq_true hab] at HC
            have HN : Hid (rootN p n m x = R) := Lib.hid (by
              have := HRM.out
              unfold rootN at this
              rwa [← HDM.out, ← HY.out, if_pos hab] at this)
            clear hab
            go_wp2_with fail
            refine HC.out.mono ?_
            rintro e w6 ⟨rfl, rfl⟩
            go_wp2_with fail
            go_roundw
            case rel => exact ⟨(m : Int) - 1, x, rfl, rfl, by omega, by omega, by rw [show ((m : Int) - 1 + 1).toNat = m from by omega, ← HDM.out]; omega, by rw [show ((m : Int) - 1 + 1).toNat = m from by omega]; exact HN.out, HBB.out⟩
            case measure => (simp [intOf]; try omega)
          · rw [decide_eq_false hab] at HC
            have HN : Hid (rootN p n m y = R) := Lib.hid (by
              have := HRM.out
              unfold rootN at this
              rwa [← HDM.out, ← HY.out, if_neg hab] at this)
            clear hab
            go_wp2_with fail
            refine HC.out.mono ?_
            rintro e w6 ⟨rfl, rfl⟩
            go_wp2_with fail
            go_roundw
            case rel => exact ⟨(m : Int) - 1, y, rfl, rfl, by omega, by omega, by rw [show ((m : Int) - 1 + 1).toNat = m from by omega, ← HDM.out, HY.out]; omega, by rw [show ((m : Int) - 1 + 1).toNat = m from by omega]; exact HN.out, HBB.out⟩
            case measure => (simp [intOf]; try omega)
    · obtain rfl : z = -1 := by omega
      have HF : Hid (x = R) := Lib.hid HRR.out
      have hx41 : x < 18446744073709551616 := by have := HXB.out; simp at this; omega
      have hbb : bits .and .u64 (x : Int) 4294967295 = ((UInt32.ofNat (R % 4294967296)).toNat : Int) := by
        have := u64_and_nat x 4294967295 hx41 (by omega)
        rw [show ((4294967295 : Nat) : Int) = 4294967295 from rfl] at this
        rw [this, show (4294967295 : Nat) = 2 ^ 32 - 1 from rfl, Nat.and_two_pow_sub_one_eq_mod, HF.out, w_ofNat _ (Nat.mod_lt _ (by decide))]
      have hlt := (UInt32.ofNat (R % 4294967296)).toNat_lt
      clear HF
      generalize hrr : UInt32.ofNat (R % 4294967296) = r at hbb hlt
      have HR2 : Hid (rootW p n = r) := Lib.hid (by unfold rootW; rw [← HR.out]; exact hrr)
      clear hrr
      go_wp2_with fail
      go_ret
      exact ⟨by rw [HR2.out]; rfl, HB.out⟩
end Go.Proofs.YtpggkfdijmnmiaaGreat.Hs
namespace Go.Proofs.YtpggkfdijmnmiaaGreat.Hs
open Go.RowKit Go.Sort
theorem pr_succ (p : Nat) (h : 2 ≤ p) : prL (p + 1) = prStep (prL p) p := by
  unfold prL
  rw [show p + 1 - 2 = (p - 2) + 1 from by omega, List.range'_concat, List.foldl_append]
  simp only [List.foldl_cons, List.foldl_nil]
  rw [show 2 + 1 * (p - 2) = p from by omega]
theorem pr_len (l : List Nat) (p : Nat) : l.length ≤ (prStep l p).length := by
  unfold prStep
  split <;> simp
theorem pr_mono (p d : Nat) (h : 2 ≤ p) : (prL p).length ≤ (prL (p + d)).length := by
  induction d with
  | zero => exact Nat.le_refl _
  | succ d ih => rw [← Nat.add_assoc, pr_succ _ (by omega)]; exact Nat.le_trans ih (pr_len _ _)
theorem pr_ge : ∀ (d : Nat) (q : Nat), q ∈ prL (2 + d) → 2 ≤ q ∧ q < 2 + d
  | 0, q, h => by simp [prL] at h
  | d + 1, q, h => by
    rw [← Nat.add_assoc, pr_succ _ (by omega)] at h
    unfold prStep at h
    split at h
    · rcases List.mem_append.1 h with h1 | h1
      · have := pr_ge d q h1; omega
      · simp at h1; omega
    · have := pr_ge d q h; omega
def First (N P : Nat) : Prop := (prL P).length = N ∧ (prL (P - 1)).length < N ∧ 3 ≤ P ∧ P ≤ 312
theorem first8 : First 8 20 := by unfold First; decide +kernel
theorem first64 : First 64 312 := by unfold First; decide +kernel
theorem first_lt {N P p : Nat} (h : First N P) (hp : 2 ≤ p) (hlt : p < P) : (prL p).length < N := by
  have := pr_mono p (P - 1 - p) hp
  rw [show p + (P - 1 - p) = P - 1 from by omega] at this
  have := h.2.1
  omega
def cu (l : List Nat) : List Value := l.map fun (x : Nat) => Value.int .u64 (x : Int)
def Ru (B : Nat) (v : Value) (l : List Nat) (w : World) : Prop := w.ownsRow B 22 1 v l.length (cu l)
theorem Ru.snoc {B : Nat} {v : Value} {l : List Nat} {w : World} {x : Nat} (h : w.ownsRow B 22 1 v (l.length + 1) (cu l ++ [.int .u64 (x : Int)])) : Ru B v (l ++ [x]) w := by
  have e : cu (l ++ [x]) = cu l ++ [.int .u64 (x : Int)] := by simp [cu]
  unfold Ru
  rw [e]
  simpa using h
theorem Ru.below {B : Nat} {v : Value} {l : List Nat} {w w' : World} (h : Ru B v l w) (hb : Below w.heap.size w w') : Ru B v l w' := by
  refine ⟨h.1, ?_⟩
  rcases h.2 with hn | ⟨g, cap, cur, hv, hg, hh, rest⟩
  · exact .inl hn
  · exact .inr ⟨g, cap, cur, hv, hg, (hb.block _ (blk_lt hh)).trans hh, rest⟩
theorem Ru.un {B : Nat} {v : Value} {l : List Nat} {w : World} (h : Ru B v l w) (hl : l ≠ []) : ∃ g cap, v = .slice (some ⟨g, 0, none⟩) l.length cap ∧ ∀ i (hi : i < l.length), w.cell? ⟨g, i, none⟩ = some (.int .u64 (l[i] : Int)) := by
  rcases h.2 with ⟨rfl, h0⟩ | ⟨g, cap, cur, rfl, hg, hh, _⟩
  · exact absurd (List.eq_nil_of_length_eq_zero h0) hl
  · refine ⟨g, cap, rfl, fun i hi => ?_⟩
    have := World.ownsRow.cells h (g := g) rfl i (.int .u64 (l[i] : Int)) (by simp [cu, hi])
    rwa [at0] at this
theorem Ru.len {B : Nat} {v : Value} {l : List Nat} {w : World} (h : Ru B v l w) : ∃ a cap, v = .slice a l.length cap := by
  rcases h.2 with ⟨rfl, h0⟩ | ⟨g, cap, cur, rfl, hg, hh, _⟩
  · exact ⟨none, 0, by rw [h0]⟩
  · exact ⟨_, cap, rfl⟩
theorem app_u {ops : Array Oper} {rest : List Oper} {o : Oper} {a : Act} {Q : Exit → Act → World → Prop} {w W : World} {v : Value} {l : List Nat} (n : Nat) (s x : Operand) (hgd : o.guard = none)
    (ho : o.op = .call { callee := .builtin .append, args := #[s, x], argTypes := #[178, 178] }) (hs : a.eval s = v) (hx : a.eval x = .slice (some ⟨w.heap.size, 0, none⟩) 1 1)
    (hI : Ru W.heap.size v l w) (hb : Below W.heap.size W w) (hlen : l.length ≤ 1000)
    (h : ∀ v' w', Ru W.heap.size v' (l ++ [n]) w' → Below W.heap.size W w' → wpList Tryz.prog ops Q rest (a.put o.dst v') w') : wpList Tryz.prog ops Q (o :: rest) a (w.alloc (.cells #[.int .u64 (n : Int)] 22)) := by
  obtain ⟨i0, hi, hz0, hz1, hz2⟩ := info_parts info61
  have hI' := hI.below (Below.alloc (Below.refl _ _) (Nat.le_refl _) (.cells #[.int .u64 (n : Int)] 22))
  have hsz := hb.size
  refine wpList_append_own _ hgd s x 178 ho W.heap.size 22 i0 (.int .u64 0) 1 8 Tryz.underlying178 hi hz0 hz1 hz2 rfl (by decide) v l.length _ hs hI' ⟨w.heap.size, 0, none⟩ 1 1 [.int .u64 (n : Int)] hx rfl (World.news_of_block (Go.heap_alloc_new w _)) (by simp [Value.oneCell']) (by unfold maxLen; omega) (by omega) (by simp; omega) ?_
  intro v' w' h1 h2 _
  exact h v' w' (Ru.snoc h1) ((hb.alloc (by omega) _).grown h2 (by simp; omega) (fun g hk => (World.ownsRow.lt hI' g hk).1))
def nod (l : List Nat) (p k : Nat) : Bool := (l.take k).all fun q => decide (p % q ≠ 0)
theorem nod_succ (l : List Nat) (p k : Nat) (h : k < l.length) : nod l p (k + 1) = (nod l p k && decide (p % l[k] ≠ 0)) := by
  unfold nod
  rw [List.take_succ_eq_append_getElem h, List.all_append]
  simp
theorem nod_all (l : List Nat) (p : Nat) : nod l p l.length = l.all fun q => decide (p % q ≠ 0) := by
  unfold nod; rw [List.take_length]
set_option maxHeartbeats 4000000 in
set_option maxRecDepth 100000 in
theorem primes_any (N P : Nat) (hF : First N P) (w : World) :
    Calls Tryz.prog 153 #[.int .i64 N] w fun e w' => (∃ v, e = .returned v ∧ Ru w.heap.size v (prL P) w') ∧ Below w.heap.size w w' := by
  have HF := Lib.hid hF
  clear hF
  go_enter Tryz.func153, Tryz.ntmps153
  go_wp2_with fail
  go_loopw [3, 4] (fun v p wr => ∃ q : Nat, 2 ≤ q ∧ q ≤ P ∧ p = .int .u64 q ∧ Ru w.heap.size v (prL q) wr ∧ Below w.heap.size w wr) (fun _ p _ => P - (intOf p).toNat)
  case atStart => exact ⟨2, by omega, by have := HF.out.2.2.1; omega, rfl, ⟨rfl, .inr ⟨w.heap.size, 0, #[], rfl, Nat.le_refl _, Go.heap_alloc_new w _, Nat.le_refl _, Nat.zero_le _, rfl, rfl⟩⟩, (Below.refl _ _).alloc (Nat.le_refl _) _⟩
  case round =>
    obtain ⟨q, hq, hqP, rfl, hr, hb⟩ := hrel
    have HR := Lib.hid hr
    have HB := Lib.hid hb
    have HQ := Lib.hid hqP
    have hq312 : q ≤ 312 := by have := HF.out.2.2.2; omega
    obtain ⟨ad, cap, hv⟩ := hr.len
    subst hv
    clear hr hb hqP
    by_cases hl : (prL q).length < N
    · have HPS := Lib.hid (pr_succ q hq)
      have HQL : Hid (q < P) := Lib.hid (by
        have := HQ.out
        rcases Nat.lt_or_ge q P with h | h
        · exact h
        · have e : q = P := by omega
          rw [e, HF.out.1] at hl; omega)
      have HGE := Lib.hid (fun x (hx : x ∈ prL q) => pr_ge (q - 2) x (by rwa [show 2 + (q - 2) = q from by omega]))
      have HNF : Hid ((prL q).length ≤ 1000) := Lib.hid (by
        have h1 := pr_mono q (312 - q) hq
        rw [show q + (312 - q) = 312 from by omega] at h1
        have h2 := first64.1
        omega)
      generalize prL q = l at HR HPS HGE hl HNF
      go_wp2_with fail
      go_loopw [5, 6] (fun b i wr => ∃ k : Nat, k ≤ l.length ∧ i = .int .i64 k ∧ b = .bool (nod l q k) ∧ Ru w.heap.size (.slice ad l.length cap) l wr ∧ Below w.heap.size w wr) (fun _ i _ => l.length - (intOf i).toNat)
      case atStart => exact ⟨0, by omega, rfl, rfl, HR.out, HB.out⟩
      case round =>
        obtain ⟨k, hk, rfl, rfl, hr, hb⟩ := hrel
        have HR2 := Lib.hid hr
        have HB2 := Lib.hid hb
        clear hr hb HR HB
        have hlN := HNF.out
        by_cases hkl : k < l.length
        · obtain ⟨g, cap2, hv, hc⟩ := HR2.out.un (by intro e; rw [e] at hkl; simp at hkl)
          simp only [Value.slice.injEq] at hv
          obtain ⟨rfl, -, rfl⟩ := hv
          have ck := hc k hkl
          have HS := Lib.hid (nod_succ l q k hkl)
          have hge := (HGE.out l[k] (List.getElem_mem hkl)).1
          generalize l[k] = x at ck HS hge
          clear hc
          cases hnd : nod l q k with
          | false =>
            rw [hnd] at HS
            have HND := Lib.hid hnd
            clear hnd
            go_wp2_with fail
            go_roundw
            case rel => exact ⟨k + 1, by omega, by go_num, by rw [HS.out]; rfl, HR2.out, HB2.out⟩
            case measure => simp [intOf]; omega
          | true =>
            rw [hnd] at HS
            have HND := Lib.hid hnd
            clear hnd
            have t1 : (q : Int).tmod (x : Int) = ((q % x : Nat) : Int) := by rw [Int.tmod_eq_emod_of_nonneg (by omega)]; simp
            have t2 : IntKind.u64.wrap ((q % x : Nat) : Int) = ((q % x : Nat) : Int) := IntWalk.u64_in _ (by have := Nat.mod_le q x; omega)
            have t3 : ¬ (x : Int) = 0 := by omega
            by_cases hm : q % x = 0
            · have HM : Hid (decide (q % x ≠ 0) = false) := Lib.hid (by simp [hm])
              rw [hm] at t1
              rw [HM.out] at HS
              clear hm t2 HM
              go_wp2_with fail
              exact ⟨⟨k + 1, by omega, by go_num, by rw [HS.out]; rfl, HR2.out, HB2.out⟩, by simp [intOf]; omega⟩
            · have HM : Hid (decide (q % x ≠ 0) = true) := Lib.hid (by simp [hm])
              rw [HM.out] at HS
              have t4 : ¬ ((q % x : Nat) : Int) = 0 := by omega
              clear hm HM
              generalize q % x = r at t1 t2 t4
              go_wp2_with fail
              exact ⟨⟨k + 1, by omega, by go_num, by rw [HS.out, show ((r : Int) != 0) = true from by simp only [bne_iff_ne, ne_eq]; exact t4]; rfl, HR2.out, HB2.out⟩, by simp [intOf]; omega⟩
        · have hk2 : k = l.length := by omega
          subst hk2
          have HA := Lib.hid (nod_all l q)
          clear hkl hk
          cases hnd : nod l q l.length with
          | false =>
            have HND := Lib.hid hnd
            rw [hnd] at HA
            have e : prL (q + 1) = l := by rw [HPS.out]; unfold prStep; rw [← HA.out]; rfl
            have HE := Lib.hid e
            clear e hnd
            go_wp2_with fail
            have := HQL.out
            exact ⟨⟨q + 1, by omega, by omega, by go_num, by rw [HE.out]; exact HR2.out, HB2.out⟩, by simp [intOf]; omega⟩
          | true =>
            have HND := Lib.hid hnd
            rw [hnd] at HA
            have e : prL (q + 1) = l ++ [q] := by rw [HPS.out]; unfold prStep; rw [← HA.out]; rfl
            have HE := Lib.hid e
            clear e hnd
            go_wp2_with (at_builtin; refine app_u q (.tmp 31) (.tmp 33) rfl rfl rfl rfl HR2.out HB2.out HNF.out ?_; intro v' w' hr3 hb3; have HR3 := Lib.hid hr3; have HB3 := Lib.hid hb3; clear hr3 hb3)
            have := HQL.out
            exact ⟨⟨q + 1, by omega, by omega, by go_num, by rw [HE.out]; exact HR3.out, HB3.out⟩, by simp [intOf]; omega⟩
    · have HL := Lib.hid hl
      have hqe : q = P := by
        rcases Nat.lt_or_ge q P with h | h
        · exact absurd (first_lt HF.out hq h) hl
        · have := HQ.out; omega
      subst hqe
      go_wp2_with fail
      go_ret
      exact ⟨⟨_, rfl, HR.out⟩, HB.out⟩
end Go.Proofs.YtpggkfdijmnmiaaGreat.Hs
namespace Go.Proofs.YtpggkfdijmnmiaaGreat.Hs
open Go.RowKit Go.Sort
def cw (l : List UInt32) : List Value := l.map fun x => Value.int .u32 (x.toNat : Int)
def Rk (B : Nat) (v : Value) (l : List UInt32) (w : World) : Prop := w.ownsRow B 111 1 v l.length (cw l)
theorem Rk.snoc {B : Nat} {v : Value} {l : List UInt32} {w : World} {x : UInt32} (h : w.ownsRow B 111 1 v (l.length + 1) (cw l ++ [.int .u32 (x.toNat : Int)])) : Rk B v (l ++ [x]) w := by
  have e : cw (l ++ [x]) = cw l ++ [.int .u32 (x.toNat : Int)] := by simp [cw]
  unfold Rk
  rw [e]
  simpa using h
theorem Rk.below {B : Nat} {v : Value} {l : List UInt32} {w w' : World} (h : Rk B v l w) (hb : Below w.heap.size w w') : Rk B v l w' := by
  refine ⟨h.1, ?_⟩
  rcases h.2 with hn | ⟨g, cap, cur, hv, hg, hh, rest⟩
  · exact .inl hn
  · exact .inr ⟨g, cap, cur, hv, hg, (hb.block _ (blk_lt hh)).trans hh, rest⟩
theorem Rk.un {B : Nat} {v : Value} {l : List UInt32} {w : World} (h : Rk B v l w) (hl : l ≠ []) : ∃ g cap, v = .slice (some ⟨g, 0, none⟩) l.length cap ∧ B ≤ g ∧ ∀ i (hi : i < l.length), w.cell? ⟨g, i, none⟩ = some (.int .u32 (l[i].toNat : Int)) := by
  rcases h.2 with ⟨rfl, h0⟩ | ⟨g, cap, cur, rfl, hg, hh, _⟩
  · exact absurd (List.eq_nil_of_length_eq_zero h0) hl
  · refine ⟨g, cap, rfl, hg, fun i hi => ?_⟩
    have := World.ownsRow.cells h (g := g) rfl i (.int .u32 (l[i].toNat : Int)) (by simp [cw, hi])
    rwa [at0] at this
theorem info35 : (Tryz.prog.info? 111).map (fun i => (i.zero, i.size, i.bytes)) = some (some (.int .u32 0), 1, 4) := by kernel_rfl
theorem alloc_le (w : World) (o : Obj) : w.heap.size ≤ (w.alloc o).heap.size := by show w.heap.size ≤ (w.heap.push _).size; simp
theorem alloc_sz (w : World) (o : Obj) : (w.alloc o).heap.size = w.heap.size + 1 := by show (w.heap.push _).size = _; simp
theorem app_k {ops : Array Oper} {rest : List Oper} {o : Oper} {a : Act} {Q : Exit → Act → World → Prop} {w W : World} {v : Value} {l : List UInt32} (n : UInt32) (s x : Operand) (hgd : o.guard = none)
    (ho : o.op = .call { callee := .builtin .append, args := #[s, x], argTypes := #[69, 69] }) (hs : a.eval s = v) (hx : a.eval x = .slice (some ⟨w.heap.size, 0, none⟩) 1 1)
    (hI : Rk W.heap.size v l w) (hb : Below W.heap.size W w) (hlen : l.length ≤ 1000)
    (h : ∀ v' w', Rk W.heap.size v' (l ++ [n]) w' → Below W.heap.size W w' → (∀ g, g < w.heap.size → v.ownBlock ≠ some g → w'.heap[g]? = w.heap[g]?) → wpList Tryz.prog ops Q rest (a.put o.dst v') w') : wpList Tryz.prog ops Q (o :: rest) a (w.alloc (.cells #[.int .u32 (n.toNat : Int)] 111)) := by
  obtain ⟨i0, hi, hz0, hz1, hz2⟩ := info_parts info35
  have hI' := hI.below (Below.alloc (Below.refl _ _) (Nat.le_refl _) (.cells #[.int .u32 (n.toNat : Int)] 111))
  have hsz := hb.size
  refine wpList_append_own _ hgd s x 69 ho W.heap.size 111 i0 (.int .u32 0) 1 4 Tryz.underlying69 hi hz0 hz1 hz2 rfl (by decide) v l.length _ hs hI' ⟨w.heap.size, 0, none⟩ 1 1 [.int .u32 (n.toNat : Int)] hx rfl (World.news_of_block (Go.heap_alloc_new w _)) (by simp [Value.oneCell']) (by unfold maxLen; omega) (by omega) (by simp; omega) ?_
  intro v' w' h1 h2 _
  exact h v' w' (Rk.snoc h1) ((hb.alloc (by omega) _).grown h2 (by simp; omega) (fun g hk => (World.ownsRow.lt hI' g hk).1)) (fun g hg hn => (h2.block g (Nat.lt_of_lt_of_le hg (alloc_le _ _)) (fun e => hn e.symm)).trans (Below.heap_alloc _ _ _ hg))
theorem Rk.not {B : Nat} {v : Value} {l : List UInt32} {w : World} (h : Rk B v l w) {g : Nat} {cur : Array Value} {f : Nat × Nat} (hh : w.heap[g]? = some (.cells cur 22 f)) : v.ownBlock ≠ some g := by
  rcases h.2 with ⟨rfl, h0⟩ | ⟨g', cap, cur', rfl, hg', hh', _⟩
  · intro e; cases e
  · intro e
    cases e
    rw [hh] at hh'
    cases hh'
theorem Ru.un' {B : Nat} {v : Value} {l : List Nat} {w : World} (h : Ru B v l w) (hl : l ≠ []) : ∃ g cap, v = .slice (some ⟨g, 0, none⟩) l.length cap ∧ (∃ cur f, w.heap[g]? = some (.cells cur 22 f)) ∧ ∀ i (hi : i < l.length), w.cell? ⟨g, i, none⟩ = some (.int .u64 (l[i] : Int)) := by
  obtain ⟨g, cap, e, hc⟩ := h.un hl
  rcases h.2 with ⟨rfl, h0⟩ | ⟨g', cap', cur, rfl, hg, hh, _⟩
  · exact absurd (List.eq_nil_of_length_eq_zero h0) hl
  · cases e
    exact ⟨_, _, rfl, ⟨_, _, hh⟩, hc⟩
def keyN (l : List Nat) (k : Nat) : List UInt32 := (l.take k).map fun p => rootW p 3
theorem keyN_succ (l : List Nat) (k : Nat) (h : k < l.length) : keyN l (k + 1) = keyN l k ++ [rootW l[k] 3] := by
  unfold keyN
  rw [List.take_succ_eq_append_getElem h, List.map_append]
  rfl
theorem keyN_len (l : List Nat) (k : Nat) (h : k ≤ l.length) : (keyN l k).length = k := by unfold keyN; simp; omega
theorem keyN_all : keyN (prL 312) 64 = kL := by
  have h : (prL 312).take 64 = prL 312 := by rw [← first64.1]; exact List.take_length
  unfold keyN
  rw [h]
  exact keys_ok
theorem pr_small : ∀ p ∈ prL 312, p < 65536 := fun p h => by have := (pr_ge 310 p h).2; omega
set_option maxHeartbeats 4000000 in
set_option maxRecDepth 100000 in
theorem keys_any (w : World) :
    Calls Tryz.prog 105 #[] w fun e w' => (∃ v, e = .returned v ∧ Rk w.heap.size v kL w') ∧ Below w.heap.size w w' := by
  go_enter Tryz.func105, Tryz.ntmps105
  go_wp2_with (go_at_call 153; refine (primes_any 64 312 first64 _).mono ?_; rintro e w2 ⟨⟨pv, rfl, hr⟩, hb⟩; have hk0 := (hb.block _ (by rw [alloc_sz]; omega)).trans (Go.heap_alloc_new w (.cells #[] 111)); have HK0 := Lib.hid hk0; clear hk0; have hb2 := (Below.alloc (Below.refl _ _) (Nat.le_refl _) _).trans (hb.mono (alloc_le _ _)); have HB2 := Lib.hid hb2; clear hb hb2; obtain ⟨g, cap, hv, hc⟩ := hr.un' (by intro e; have := first64.1; rw [e] at this; simp at this); obtain ⟨⟨cur, f, hcur⟩, hc⟩ := hc; have HC := Lib.hid hc; have HCU := Lib.hid hcur; rw [first64.1] at hv; subst hv; clear hc hr hcur)
  go_loopw [1, 3] (fun v i wr => ∃ k : Nat, k ≤ 64 ∧ i = .int .i64 k ∧ wr.heap[g]? = w2.heap[g]? ∧ Rk w.heap.size v (keyN (prL 312) k) wr ∧ Below w.heap.size w wr) (fun _ i _ => 64 - (intOf i).toNat)
  case atStart => exact ⟨0, by omega, rfl, rfl, ⟨rfl, .inr ⟨w.heap.size, 0, #[], rfl, Nat.le_refl _, HK0.out, Nat.le_refl _, Nat.zero_le _, rfl, rfl⟩⟩, HB2.out⟩
  case round =>
    clear HK0 HB2
    obtain ⟨k, hk, rfl, hp, hr, hb⟩ := hrel
    have HR := Lib.hid hr
    have HB := Lib.hid hb
    have HP := Lib.hid hp
    have hlen := keyN_len (prL 312) k (by rw [first64.1]; exact hk)
    have hlp := first64.1
    by_cases hk64 : k < 64
    · have ck := (World.cell?_of_block (w := w2) (w' := wr) (a := ⟨g, k, none⟩) hp).trans (HC.out k (by rw [hlp]; exact hk64))
      have hsm := pr_small _ (List.getElem_mem (l := prL 312) (n := k) (by rw [hlp]; exact hk64))
      have HS := Lib.hid (keyN_succ (prL 312) k (by rw [hlp]; exact hk64))
      generalize (prL 312)[k]'(by rw [hlp]; exact hk64) = p at ck HS hsm
      clear hp hr hb hlp
      generalize keyN (prL 312) k = l at HR HS hlen
      have HRT := Lib.hid (root_any p 3 hsm (.inr rfl))
      have HG := Lib.hid (blk_lt (HP.out.trans HCU.out))
      go_wp2_with (first | (go_at_call 154; refine (HRT.out _).mono ?_; rintro e w3 ⟨rfl, hb⟩; have HBR := Lib.hid hb; clear hb; obtain ⟨r, hrr⟩ : ∃ r, rootW p 3 = r := ⟨_, rfl⟩; rw [hrr] at HS; rw [hrr]; have hrl := r.toNat_lt) | (at_builtin; refine app_k r (.tmp 10) (.tmp 16) rfl rfl rfl rfl (HR.out.below (HBR.out.mono (by have := HB.out.size; omega))) (HB.out.trans (HBR.out.mono HB.out.size)) (by omega) ?_; intro v' w' hr3 hb3 hk3; have HR3 := Lib.hid hr3; have HB3 := Lib.hid hb3; have HK3 := Lib.hid (((hk3 g (Nat.lt_of_lt_of_le HG.out HBR.out.size) (HR.out.not (HP.out.trans HCU.out))).trans (HBR.out.block _ HG.out)).trans HP.out); clear hr3 hb3 hk3))
      exact ⟨⟨k + 1, by omega, by go_num, HK3.out, by rw [HS.out]; exact HR3.out, HB3.out⟩, by simp [intOf]; omega⟩
    · obtain rfl : k = 64 := by omega
      rw [keyN_all] at HR
      go_wp2_with fail
      go_ret
      exact ⟨⟨_, rfl, HR.out⟩, HB.out⟩
end Go.Proofs.YtpggkfdijmnmiaaGreat.Hs
namespace Go.Proofs.YtpggkfdijmnmiaaGreat.Hs
open Go.RowKit
theorem or_swap (a b : Int) : bits .or .u32 a b = bits .or .u32 b a := by
  simp only [bits, BitVec.or_comm]
set_option maxHeartbeats 1000000 in
theorem rr2 (x : UInt32) (w : World) :
    Calls Tryz.prog 179 #[.int .u32 (x.toNat : Int), .int .i64 2] w fun e w' => e = .returned (.int .u32 ((rorW x 2).toNat : Int)) ∧ w' = w.drew := by
  have hx := x.toNat_lt
  have ho : bits BinOp.or IntKind.u32 ((x.toNat : Int) / 4) ((x.toNat : Int) * 1073741824 % 4294967296) = ((rorW x 2).toNat : Int) := (or_swap _ _).trans (or_ror x 2 1073741824 4 (by decide) (by decide))
  go_enter Tryz.func179, Tryz.ntmps179
  go_wp2_with fail
  go_region
  go_wp2_with fail
  go_ret
  exact ⟨rfl, rfl⟩
set_option maxHeartbeats 1000000 in
theorem rr6 (x : UInt32) (w : World) :
    Calls Tryz.prog 179 #[.int .u32 (x.toNat : Int), .int .i64 6] w fun e w' => e = .returned (.int .u32 ((rorW x 6).toNat : Int)) ∧ w' = w.drew := by
  have hx := x.toNat_lt
  have ho : bits BinOp.or IntKind.u32 ((x.toNat : Int) / 64) ((x.toNat : Int) * 67108864 % 4294967296) = ((rorW x 6).toNat : Int) := (or_swap _ _).trans (or_ror x 6 67108864 64 (by decide) (by decide))
  go_enter Tryz.func179, Tryz.ntmps179
  go_wp2_with fail
  go_region
  go_wp2_with fail
  go_ret
  exact ⟨rfl, rfl⟩
set_option maxHeartbeats 1000000 in
theorem rr7 (x : UInt32) (w : World) :
    Calls Tryz.prog 179 #[.int .u32 (x.toNat : Int), .int .i64 7] w fun e w' => e = .returned (.int .u32 ((rorW x 7).toNat : Int)) ∧ w' = w.drew := by
  have hx := x.toNat_lt
  have ho : bits BinOp.or IntKind.u32 ((x.toNat : Int) / 128) ((x.toNat : Int) * 33554432 % 4294967296) = ((rorW x 7).toNat : Int) := (or_swap _ _).trans (or_ror x 7 33554432 128 (by decide) (by decide))
  go_enter Tryz.func179, Tryz.ntmps179
  go_wp2_with fail
  go_region
  go_wp2_with fail
  go_ret
  exact ⟨rfl, rfl⟩
set_option maxHeartbeats 1000000 in
theorem rr11 (x : UInt32) (w : World) :
    Calls Tryz.prog 179 #[.int .u32 (x.toNat : Int), .int .i64 11] w fun e w' => e = .returned (.int .u32 ((rorW x 11).toNat : Int)) ∧ w' = w.drew := by
  have hx := x.toNat_lt
  have ho : bits BinOp.or IntKind.u32 ((x.toNat : Int) / 2048) ((x.toNat : Int) * 2097152 % 4294967296) = ((rorW x 11).toNat : Int) := (or_swap _ _).trans (or_ror x 11 2097152 2048 (by decide) (by decide))
  go_enter Tryz.func179, Tryz.ntmps179
  go_wp2_with fail
  go_region
  go_wp2_with fail
  go_ret
  exact ⟨rfl, rfl⟩
set_option maxHeartbeats 1000000 in
theorem rr13 (x : UInt32) (w : World) :
    Calls Tryz.prog 179 #[.int .u32 (x.toNat : Int), .int .i64 13] w fun e w' => e = .returned (.int .u32 ((rorW x 13).toNat : Int)) ∧ w' = w.drew := by
  have hx := x.toNat_lt
  have ho : bits BinOp.or IntKind.u32 ((x.toNat : Int) / 8192) ((x.toNat : Int) * 524288 % 4294967296) = ((rorW x 13).toNat : Int) := (or_swap _ _).trans (or_ror x 13 524288 8192 (by decide) (by decide))
  go_enter Tryz.func179, Tryz.ntmps179
  go_wp2_with fail
  go_region
  go_wp2_with fail
  go_ret
  exact ⟨rfl, rfl⟩
set_option maxHeartbeats 1000000 in
theorem rr17 (x : UInt32) (w : World) :
    Calls Tryz.prog 179 #[.int .u32 (x.toNat : Int), .int .i64 17] w fun e w' => e = .returned (.int .u32 ((rorW x 17).toNat : Int)) ∧ w' = w.drew := by
  have hx := x.toNat_lt
  have ho : bits BinOp.or IntKind.u32 ((x.toNat : Int) / 131072) ((x.toNat : Int) * 32768 % 4294967296) = ((rorW x 17).toNat : Int) := (or_swap _ _).trans (or_ror x 17 32768 131072 (by decide) (by decide))
  go_enter Tryz.func179, Tryz.ntmps179
  go_wp2_with fail
  go_region
  go_wp2_with fail
  go_ret
  exact ⟨rfl, rfl⟩
set_option maxHeartbeats 1000000 in
theorem rr18 (x : UInt32) (w : World) :
    Calls Tryz.prog 179 #[.int .u32 (x.toNat : Int), .int .i64 18] w fun e w' => e = .returned (.int .u32 ((rorW x 18).toNat : Int)) ∧ w' = w.drew := by
  have hx := x.toNat_lt
  have ho : bits BinOp.or IntKind.u32 ((x.toNat : Int) / 262144) ((x.toNat : Int) * 16384 % 4294967296) = ((rorW x 18).toNat : Int) := (or_swap _ _).trans (or_ror x 18 16384 262144 (by decide) (by decide))
  go_enter Tryz.func179, Tryz.ntmps179
  go_wp2_with fail
  go_region
  go_wp2_with fail
  go_ret
  exact ⟨rfl, rfl⟩
set_option maxHeartbeats 1000000 in
theorem rr19 (x : UInt32) (w : World) :
    Calls Tryz.prog 179 #[.int .u32 (x.toNat : Int), .int .i64 19] w fun e w' => e = .returned (.int .u32 ((rorW x 19).toNat : Int)) ∧ w' = w.drew := by
  have hx := x.toNat_lt
  have ho : bits BinOp.or IntKind.u32 ((x.toNat : Int) / 524288) ((x.toNat : Int) * 8192 % 4294967296) = ((rorW x 19).toNat : Int) := (or_swap _ _).trans (or_ror x 19 8192 524288 (by decide) (by decide))
  go_enter Tryz.func179, Tryz.ntmps179
  go_wp2_with fail
  go_region
  go_wp2_with fail
  go_ret
  exact ⟨rfl, rfl⟩
set_option maxHeartbeats 1000000 in
theorem rr22 (x : UInt32) (w : World) :
    Calls Tryz.prog 179 #[.int .u32 (x.toNat : Int), .int .i64 22] w fun e w' => e = .returned (.int .u32 ((rorW x 22).toNat : Int)) ∧ w' = w.drew := by
  have hx := x.toNat_lt
  have ho : bits BinOp.or IntKind.u32 ((x.toNat : Int) / 4194304) ((x.toNat : Int) * 1024 % 4294967296) = ((rorW x 22).toNat : Int) := (or_swap _ _).trans (or_ror x 22 1024 4194304 (by decide) (by decide))
  go_enter Tryz.func179, Tryz.ntmps179
  go_wp2_with fail
  go_region
  go_wp2_with fail
  go_ret
  exact ⟨rfl, rfl⟩
set_option maxHeartbeats 1000000 in
theorem rr25 (x : UInt32) (w : World) :
    Calls Tryz.prog 179 #[.int .u32 (x.toNat : Int), .int .i64 25] w fun e w' => e = .returned (.int .u32 ((rorW x 25).toNat : Int)) ∧ w' = w.drew := by
  have hx := x.toNat_lt
  have ho : bits BinOp.or IntKind.u32 ((x.toNat : Int) / 33554432) ((x.toNat : Int) * 128 % 4294967296) = ((rorW x 25).toNat : Int) := (or_swap _ _).trans (or_ror x 25 128 33554432 (by decide) (by decide))
  go_enter Tryz.func179, Tryz.ntmps179
  go_wp2_with fail
  go_region
  go_wp2_with fail
  go_ret
  exact ⟨rfl, rfl⟩
set_option maxHeartbeats 1000000 in
theorem four31 (x : UInt32) (w : World) :
    Calls Tryz.prog 178 #[.int .u32 (x.toNat : Int)] w fun e w' => e = .returned (.slice (some ⟨w.heap.size, 0, none⟩) 4 4) ∧ w' = w.alloc (.cells (bs (fourL x)) 5) := by
  have hx := x.toNat_lt
  have hf : bs (fourL x) = #[.int .u8 ((x.toNat : Int) / 16777216), .int .u8 ((x.toNat : Int) / 65536 % 256), .int .u8 ((x.toNat : Int) / 256 % 256), .int .u8 ((x.toNat : Int) % 256)] := by
    unfold bs; rw [fourL_get]
  rw [hf]
  go_enter Tryz.func178, Tryz.ntmps178
  go_wp2
  go_ret
  exact ⟨rfl, rfl⟩
end Go.Proofs.YtpggkfdijmnmiaaGreat.Hs
namespace Go.Proofs.YtpggkfdijmnmiaaGreat.Hs
open Go.RowKit Go.Sort
def Rwm (B : Nat) (v : Value) (l : List UInt8) (w : World) : Prop := w.ownsRow B 5 1 v l.length (Lib.byteCells l)
theorem Rwm.snoc {B : Nat} {v : Value} {l : List UInt8} {w : World} {c : UInt8} (h : w.ownsRow B 5 1 v (l.length + 1) (Lib.byteCells l ++ [.int .u8 c.toNat])) : Rwm B v (l ++ [c]) w := by
  have e : Lib.byteCells (l ++ [c]) = Lib.byteCells l ++ [.int .u8 c.toNat] := by rw [Lib.byteCells_append]; rfl
  unfold Rwm
  rw [e]
  simpa using h
theorem Rwm.conv {B : Nat} {v : Value} {l : List UInt8} {w : World} (h : Rwm B v l w) : (convert 101 9 v).run Tryz.prog w = .ok (.string ⟨l.toArray⟩) w := by
  rcases h.2 with ⟨rfl, h0⟩ | ⟨g, cap, cur, rfl, hg, hh, _⟩
  · obtain rfl : l = [] := List.eq_nil_of_length_eq_zero h0
    exact Lib.run_convert_nil_bytes w 101 9 5 _ Tryz.underlying101 Tryz.underlying5 Tryz.underlying9
  · refine run_convert_bytes_back w 101 9 5 _ cap l Tryz.underlying101 Tryz.underlying5 Tryz.underlying9 (fun j hj => ?_)
    exact World.ownsRow.cells h (g := g) rfl j _ (by simp [Lib.byteCells, hj])
theorem Rwm.keep {B : Nat} {v : Value} {l : List UInt8} {w w' : World} (h : Rwm B v l w) (hb : ∀ g, v.ownBlock = some g → g < w.heap.size → w'.heap[g]? = w.heap[g]?) : Rwm B v l w' := by
  refine ⟨h.1, ?_⟩
  rcases h.2 with hn | ⟨g, cap, cur, hv, hg, hh, rest⟩
  · exact .inl hn
  · exact .inr ⟨g, cap, cur, hv, hg, (hb g (by rw [hv]; rfl) (blk_lt hh)).trans hh, rest⟩
theorem Rwm.below {B : Nat} {v : Value} {l : List UInt8} {w w' : World} (h : Rwm B v l w) (hb : Below w.heap.size w w') : Rwm B v l w' := h.keep fun g _ hg => hb.block g hg
def Fst (v : Value) (l : List UInt8) (w : World) : Prop := l = [] → ∀ g, v.ownBlock = some g → g < w.heap.size ∧ w.cell? ⟨g, 0, none⟩ = none
structure Two (W w : World) (va vb : Value) (la lb : List UInt8) : Prop where
  a : Rwm W.heap.size va la w
  b : Rwm W.heap.size vb lb w
  apart : ∀ g, va.ownBlock = some g → vb.ownBlock ≠ some g
  fa : Fst va la w
  fb : Fst vb lb w
  below : Below W.heap.size W w
theorem Two.swap {W w : World} {va vb : Value} {la lb : List UInt8} (h : Two W w va vb la lb) : Two W w vb va lb la :=
  ⟨h.b, h.a, fun g hg hg' => h.apart g hg' hg, h.fb, h.fa, h.below⟩
theorem Two.on {W w w' : World} {va vb : Value} {la lb : List UInt8} (h : Two W w va vb la lb) (b : Below w.heap.size w w') : Two W w' va vb la lb := by
  refine ⟨h.a.below b, h.b.below b, h.apart, fun e g hg => ?_, fun e g hg => ?_, h.below.trans (b.mono h.below.size)⟩
  · obtain ⟨h1, h2⟩ := h.fa e g hg
    exact ⟨Nat.lt_of_lt_of_le h1 b.size, (b.cell (p := ⟨g, 0, none⟩) h1).trans h2⟩
  · obtain ⟨h1, h2⟩ := h.fb e g hg
    exact ⟨Nat.lt_of_lt_of_le h1 b.size, (b.cell (p := ⟨g, 0, none⟩) h1).trans h2⟩
end Go.Proofs.YtpggkfdijmnmiaaGreat.Hs
