/- The sum of bytes, by the program's table and bit by bit. Condition: the program's table lies as its text lays it. -/
import Derived.Laws.BitsAllLaws
import Derived.Laws.Shifts
import Derived.Laws.IdiomStrings
import Derived.Test.YtmoihgniglomiaaDoorZPa
import Derived.Test.YtmoihgniglomiaaDoorZBg
import Derived.Lib.ConvBytes
import Derived.Laws.Concat
set_option linter.unusedVariables false
set_option linter.unusedSimpArgs false
set_option maxRecDepth 100000
namespace Go.Proofs.YtmoihgniglomiaaDoor
open Go.RowKit Go.Sort

def Tb (w : World) : Prop := 0 < w.heap.size ∧ ∀ i, i < 16 → w.cell? ⟨0, i, none⟩ = some (.int .u32 (Crc.T.getD i 0 : Int))
theorem cell_below {B : Nat} {w w' : World} (hb : Below B w w') (b i : Nat) (h : b < B) : w'.cell? ⟨b, i, none⟩ = w.cell? ⟨b, i, none⟩ := by
  unfold World.cell?
  rw [hb.block b h]
theorem Tb.below {w w' : World} (h : Tb w) (hb : Below w.heap.size w w') : Tb w' :=
  ⟨Nat.lt_of_lt_of_le h.1 hb.size, fun i hi => (cell_below hb 0 i h.1).trans (h.2 i hi)⟩
theorem sub_at (l : Bs) (i : Nat) (h : i < l.length) : (⟨l.toArray⟩ : ByteArray).data[i]'(by simpa using h) = l[i] := by simp
theorem xorN (x y : Nat) (hx : x < 4294967296) (hy : y < 4294967296) : bits .xor .u32 (x : Int) (y : Int) = ((x ^^^ y : Nat) : Int) := u32_xor_nat _ _ hx hy
theorem andN (x y : Nat) (hx : x < 4294967296) (hy : y < 4294967296) : bits .and .u32 (x : Int) (y : Int) = ((x &&& y : Nat) : Int) := u32_and_nat _ _ hx hy
theorem and15 (x : Nat) (hx : x < 4294967296) : bits .and .u32 (x : Int) 15 = ((x % 16 : Nat) : Int) := by
  rw [show (15 : Int) = ((15 : Nat) : Int) from rfl, andN _ _ hx (by decide)]
  rw [show 15 = 2 ^ 4 - 1 from rfl, Nat.and_two_pow_sub_one_eq_mod]
theorem reg_succ (l : Bs) (i : Nat) (hi : i < l.length) : Crc.reg 4294967295 (l.take (i + 1)) = Crc.byte (Crc.reg 4294967295 (l.take i)) l[i].toNat := by
  rw [List.take_succ_eq_append_getElem hi, Crc.reg_app]; rfl
theorem str_at (l : Bs) (i : Nat) (hi : i < l.length) : (⟨l.toArray⟩ : ByteArray)[i]? = some l[i] := by
  show l.toArray[i]? = _
  simp [hi]
set_option maxHeartbeats 4000000 in
theorem sum_any (l : Bs) (hl : l.length ≤ 140737488355328) (w : World) (hT : Tb w) :
    Calls Tryd.prog 8 #[.string ⟨l.toArray⟩] w fun e w' => e = .returned (.int .u32 (Crc.sum l : Int)) ∧ w = w' := by
  obtain ⟨n, hn⟩ : ∃ n, n = l.length := ⟨_, rfl⟩
  have HL : Hid (l.length = n) := Lib.hid hn.symm
  have HT := Lib.hid hT
  have hsz : (⟨l.toArray⟩ : ByteArray).size = n := by rw [size_ba, hn]
  rw [← hn] at hl
  obtain ⟨res, hres⟩ : ∃ z, z = Crc.sum l := ⟨_, rfl⟩
  rw [← hres]
  have HR := Lib.hid hres
  clear hT hn hres
  go_enter Tryd.func8, Tryd.ntmps8
  go_wp2_with fail
  go_loopw [3, 4, 7] (fun rv jv iv wr => ∃ i : Nat, i ≤ n ∧ iv = .int .i64 (i : Int) ∧ rv = .int .u32 (Crc.reg 4294967295 (l.take i) : Int) ∧ wr = w) (fun _ _ iv _ => n - (intOf iv).toNat)
  case atStart => exact ⟨0, Nat.zero_le _, rfl, rfl, rfl⟩
  case round =>
    obtain ⟨i, hi, rfl, rfl, rfl⟩ := hrel
    by_cases hlt : i < n
    · have hil : i < l.length := by rw [HL.out]; exact hlt
      have hr : Crc.reg 4294967295 (l.take i) < 4294967296 := Crc.reg_lt _ _ (by decide)
      have hst := Lib.hid (reg_succ l i hil)
      generalize Crc.reg 4294967295 (l.take i) = r at hr hst ⊢
      obtain ⟨x, hxe⟩ : ∃ x, x = l[i] := ⟨_, rfl⟩
      rw [← hxe] at hst
      have hget : ∀ h, (⟨l.toArray⟩ : ByteArray)[i]'h = x := fun _ => hxe.symm
      have hget2 : ∀ h, l[i]'h = x := fun _ => hxe.symm
      clear hxe
      have hx := x.toNat_lt
      have hx2 : ((x.toNat : Int) % 4294967296) = (x.toNat : Int) := by omega
      obtain ⟨a, ha⟩ : ∃ a, a = r ^^^ x.toNat := ⟨_, rfl⟩
      have hal : a < 4294967296 := by rw [ha]; exact Nat.xor_lt_two_pow (n := 32) hr (Nat.lt_trans hx (by decide))
      have t1 : bits .xor .u32 (r : Int) (x.toNat : Int) = (a : Int) := by rw [xorN _ _ hr (by omega), ha]
      obtain ⟨d, hd⟩ : ∃ d, d = a % 16 := ⟨_, rfl⟩
      have t2 : bits .and .u32 (a : Int) 15 = (d : Int) := by rw [and15 _ hal, hd]
      have hdl : (d : Int) < 16 := by omega
      have c1 := HT.out.2 d (by omega)
      have hTl := Crc.T_lt d
      have hb : Crc.nib a = a / 16 ^^^ Crc.T.getD d 0 := by rw [hd]; rfl
      generalize Crc.T.getD d 0 = td at c1 hTl hb
      have hbl : Crc.nib a < 4294967296 := Crc.nib_lt a hal
      have t3 : bits .xor .u32 ((a : Int) / 16) (td : Int) = (Crc.nib a : Int) := by
        rw [show (a : Int) / 16 = ((a / 16 : Nat) : Int) by omega, xorN _ _ (by omega) hTl, hb]
      have hs2 : Crc.byte r x.toNat = Crc.nib (Crc.nib a) := by rw [ha]; rfl
      rw [hs2] at hst
      clear hs2 hb ha hd
      generalize Crc.nib a = b at hst hbl t3
      obtain ⟨d2, hd2⟩ : ∃ d, d = b % 16 := ⟨_, rfl⟩
      have t4 : bits .and .u32 (b : Int) 15 = (d2 : Int) := by rw [and15 _ hbl, hd2]
      have hdl2 : (d2 : Int) < 16 := by omega
      have c2 := HT.out.2 d2 (by omega)
      have hTl2 := Crc.T_lt d2
      have hb2 : Crc.nib b = b / 16 ^^^ Crc.T.getD d2 0 := by rw [hd2]; rfl
      generalize Crc.T.getD d2 0 = te at c2 hTl2 hb2
      have t5 : bits .xor .u32 ((b : Int) / 16) (te : Int) = (Crc.nib b : Int) := by
        rw [show (b : Int) / 16 = ((b / 16 : Nat) : Int) by omega, xorN _ _ (by omega) hTl2, hb2]
      clear hb2 hd2
      generalize Crc.nib b = c at hst t5
      go_wp2_with fail
      go_roundw
      case rel => exact ⟨i + 1, by omega, by go_num, by rw [hst.out], trivial⟩
      case measure => simp [intOf]; omega
    · have hin : i = n := by omega
      have HE : res = Crc.sum (l.take i) := by rw [HR.out, hin, ← HL.out, List.take_length]
      have hr : Crc.reg 4294967295 (l.take i) < 4294967296 := Crc.reg_lt _ _ (by decide)
      rw [Crc.sum_sub] at HE
      generalize Crc.reg 4294967295 (l.take i) = r at hr HE ⊢
      have t1 : bits .xor .u32 IntKind.u32.max (r : Int) = (res : Int) := by
        rw [show IntKind.u32.max = ((4294967295 : Nat) : Int) from rfl, xorN _ _ (by decide) hr, Crc.ones _ hr, HE]
      clear HE HR HT
      go_wp2_with fail
      go_ret
      exact ⟨rfl, rfl⟩

set_option maxHeartbeats 4000000 in
theorem rsum_any (l : Bs) (hl : l.length ≤ 140737488355328) (w : World) :
    Calls Tryd.prog 9 #[.string ⟨l.toArray⟩] w fun e w' => e = .returned (.int .u32 (Crc.sum l : Int)) ∧ w = w' := by
  obtain ⟨n, hn⟩ : ∃ n, n = l.length := ⟨_, rfl⟩
  have HL : Hid (l.length = n) := Lib.hid hn.symm
  have hsz : (⟨l.toArray⟩ : ByteArray).size = n := by rw [size_ba, hn]
  rw [← hn] at hl
  obtain ⟨res, hres⟩ : ∃ z, z = Crc.sum l := ⟨_, rfl⟩
  rw [← hres]
  have HR := Lib.hid hres
  clear hn hres
  go_enter Tryd.func9, Tryd.ntmps9
  go_wp2_with fail
  go_loopw [3, 4, 5, 6, 7] (fun rv iv kv bv ov wr => ∃ i : Nat, i ≤ n ∧ iv = .int .i64 (i : Int) ∧ rv = .int .u32 (Crc.reg 4294967295 (l.take i) : Int) ∧ wr = w) (fun _ iv _ _ _ _ => n - (intOf iv).toNat)
  case atStart => exact ⟨0, Nat.zero_le _, rfl, rfl, rfl⟩
  case round =>
    obtain ⟨i, hi, rfl, rfl, rfl⟩ := hrel
    by_cases hlt : i < n
    · have hil : i < l.length := by rw [HL.out]; exact hlt
      have hr : Crc.reg 4294967295 (l.take i) < 4294967296 := Crc.reg_lt _ _ (by decide)
      have hst := Lib.hid (reg_succ l i hil)
      generalize Crc.reg 4294967295 (l.take i) = r at hr hst ⊢
      obtain ⟨x, hxe⟩ : ∃ x, x = l[i] := ⟨_, rfl⟩
      rw [← hxe] at hst
      have hget : ∀ h, (⟨l.toArray⟩ : ByteArray)[i]'h = x := fun _ => hxe.symm
      have hget2 : ∀ h, l[i]'h = x := fun _ => hxe.symm
      have hx := x.toNat_lt
      have hb8 := Crc.byte_bits r x.toNat hx
      rw [← hb8] at hst
      clear hxe hb8
      go_wp2_with fail
      go_loopw [3, 5, 6, 7] (fun rv kv bv ov wq => ∃ k : Nat, k ≤ 8 ∧ kv = .int .i64 (k : Int) ∧ rv = .int .u32 (Crc.bits r x.toNat k : Int) ∧ wq = wr) (fun _ kv _ _ _ => 8 - (intOf kv).toNat)
      case atStart => exact ⟨0, Nat.zero_le _, rfl, rfl, rfl⟩
      case round =>
        obtain ⟨k, hk, rfl, rfl, rfl⟩ := hrel
        by_cases hlt2 : k < 8
        · have hq : Crc.bits r x.toNat k < 4294967296 := Crc.bits_lt r _ hr k
          have hst2 : Hid (Crc.bits r x.toNat (k + 1) = Crc.bit1 (Crc.bits r x.toNat k) (x.toNat / 2 ^ k % 2)) := Lib.hid rfl
          generalize Crc.bits r x.toNat k = q at hq hst2 ⊢
          have hcast : ((x.toNat / 2 ^ k % 2 : Nat) : Int) = (x.toNat : Int) / 2 ^ k % 2 := by simp
          by_cases hqb : q % 2 = x.toNat / 2 ^ k % 2
          · have t1 : ((q : Int) % 2 != (x.toNat : Int) / 2 ^ k % 2) = false := by
              rw [← hcast, ← hqb]; simp
            have hst3 : Hid (Crc.bits r x.toNat (k + 1) = q / 2) := Lib.hid (by rw [hst2.out, Crc.bit1, if_neg (by simpa using hqb), Nat.xor_zero])
            clear hqb hst2 hcast
            go_wp2_with fail
            go_roundw
            case rel => exact ⟨k + 1, by omega, by go_num, by rw [hst3.out]; go_num, trivial⟩
            case measure => simp [intOf]; omega
          · have t1 : ((q : Int) % 2 != (x.toNat : Int) / 2 ^ k % 2) = true := by
              rw [← hcast]; simp; omega
            obtain ⟨z, hz⟩ : ∃ z, z = Crc.bit1 q (x.toNat / 2 ^ k % 2) := ⟨_, rfl⟩
            rw [← hz] at hst2
            have t2 : bits .xor .u32 ((q : Int) / 2) 3988292384 = (z : Int) := by
              rw [hz, Crc.bit1, if_pos hqb, show ((q : Int) / 2) = ((q / 2 : Nat) : Int) by omega, show (3988292384 : Int) = ((3988292384 : Nat) : Int) from rfl, xorN _ _ (by omega) (by decide)]
              rfl
            clear hqb hz hcast
            go_wp2_with fail
            go_roundw
            case rel => exact ⟨k + 1, by omega, by go_num, by rw [hst2.out], trivial⟩
            case measure => simp [intOf]; omega
        · have hk8 : k = 8 := by omega
          subst hk8
          go_wp2_with fail
          go_roundw
          case rel => exact ⟨i + 1, by omega, by go_num, by rw [hst.out], trivial⟩
          case measure => simp [intOf]; omega
    · have hin : i = n := by omega
      have HE : res = Crc.sum (l.take i) := by rw [HR.out, hin, ← HL.out, List.take_length]
      have hr : Crc.reg 4294967295 (l.take i) < 4294967296 := Crc.reg_lt _ _ (by decide)
      rw [Crc.sum_sub] at HE
      generalize Crc.reg 4294967295 (l.take i) = r at hr HE ⊢
      have t1 : ((4294967295 : Int) - (r : Int)) % 4294967296 = (res : Int) := by omega
      have t2 : (4294967295 : Int) - (r : Int) = (res : Int) := by omega
      clear HE HR
      go_wp2_with fail
      go_ret
      exact ⟨rfl, rfl⟩
end Go.Proofs.YtmoihgniglomiaaDoor
/- Numbers as bytes, frames and a file's beginning: the program's and the document's. Condition: the program's table where a sum is asked. -/
set_option linter.unusedVariables false
set_option linter.unusedSimpArgs false
set_option maxRecDepth 100000
namespace Go.Proofs.YtmoihgniglomiaaDoor
open Go.RowKit Go.Sort

theorem conv_row {w : World} {b : Nat} {l : List UInt8} {c : Nat} {T : TypeId} {z : Nat × Nat} (h : w.heap[b]? = some (.cells (l.map (fun c => Value.int .u8 (c.toNat : Int))).toArray T z)) :
    (convert 80 9 (.slice (some ⟨b, 0, none⟩) l.length c)).run Tryd.prog w = .ok (.string ⟨l.toArray⟩) w :=
  run_convert_bytes_back w 80 9 5 _ c l (by kernel_rfl) (by kernel_rfl) (by kernel_rfl) (fun j hj => by
    rw [show (⟨b, 0, none⟩ : Addr).add j = ⟨b, j, none⟩ from by unfold Addr.add; split <;> simp_all, Lib.cell_of_heap h]
    simp [hj])
theorem be4 (n : Nat) : be 4 n = [UInt8.ofNat (n / 16777216 % 256), UInt8.ofNat (n / 65536 % 256), UInt8.ofNat (n / 256 % 256), UInt8.ofNat (n % 256)] := by
  simp [be, Nat.div_div_eq_div_mul]
theorem be4_get (n : Nat) (h : n < 4294967296) : (be 4 n).map (fun c => Value.int .u8 (c.toNat : Int)) = [.int .u8 ((n : Int) / 16777216), .int .u8 ((n : Int) / 65536 % 256), .int .u8 ((n : Int) / 256 % 256), .int .u8 ((n : Int) % 256)] := by
  rw [be4]
  simp only [List.map_cons, List.map_nil, UInt8.toNat_ofNat']
  have e1 : ((n / 16777216 % 256 % 2 ^ 8 : Nat) : Int) = (n : Int) / 16777216 := by omega
  have e2 : ((n / 65536 % 256 % 2 ^ 8 : Nat) : Int) = (n : Int) / 65536 % 256 := by omega
  have e3 : ((n / 256 % 256 % 2 ^ 8 : Nat) : Int) = (n : Int) / 256 % 256 := by omega
  have e4 : ((n % 256 % 2 ^ 8 : Nat) : Int) = (n : Int) % 256 := by omega
  rw [e1, e2, e3, e4]
theorem be_lowest : ∀ (k n : Nat), be (k + 1) n = UInt8.ofNat (n / 256 ^ k % 256) :: be k n
  | 0, n => by simp [be]
  | k + 1, n => by
    rw [be, be_lowest k (n / 256), Nat.div_div_eq_div_mul, show 256 * 256 ^ k = 256 ^ (k + 1) by rw [Nat.pow_succ, Nat.mul_comm]]
    rfl
theorem ba_app (a b : Bs) : (⟨a.toArray⟩ : ByteArray) ++ ⟨b.toArray⟩ = ⟨(a ++ b).toArray⟩ := by
  apply ByteArray.ext
  simp
set_option maxHeartbeats 2000000 in
theorem four_any (n : Nat) (hn : n < 4294967296) (w : World) :
    Calls Tryd.prog 99 #[.int .u32 (n : Int)] w fun e w' => e = .returned (.string ⟨(be 4 n).toArray⟩) ∧ Below w.heap.size w w' := by
  have hc : (convert 80 9 (.slice (some ⟨w.heap.size, 0, none⟩) 4 4)).run Tryd.prog (w.alloc (Obj.cells #[.int .u8 ((n : Int) / 16777216), .int .u8 ((n : Int) / 65536 % 256), .int .u8 ((n : Int) / 256 % 256), .int .u8 ((n : Int) % 256)] 5)) = .ok (.string ⟨(be 4 n).toArray⟩) _ :=
    conv_row (l := be 4 n) (c := 4) (b := w.heap.size) (by rw [be4_get n hn]; exact Go.heap_alloc_new w _)
  have h0 : (0 : Int) ≤ n := by omega
  have h1 : (n : Int) < 4294967296 := by omega
  go_enter Tryd.func99, Tryd.ntmps99
  go_wp2
  go_ret
  exact ⟨rfl, (Below.refl _ _).alloc (Nat.le_refl _) _⟩
theorem valN_snoc (l : Bs) (i : Nat) (hi : i < l.length) : valN (l.take (i + 1)) = 256 * valN (l.take i) + l[i].toNat := by
  rw [List.take_succ_eq_append_getElem hi, valN_one]
theorem valN_take4 (l : Bs) (i : Nat) (hl : l.length ≤ 4) (hi : i < l.length) : valN (l.take i) < 16777216 := by
  refine Nat.lt_of_lt_of_le (valN_lt _) (Nat.le_trans (Nat.pow_le_pow_right (by decide) (show (l.take i).length ≤ 3 by rw [List.length_take]; omega)) (by decide))
theorem valN_take8 (l : Bs) (i : Nat) (hl : l.length ≤ 8) (hi : i < l.length) : valN (l.take i) < 72057594037927936 := by
  refine Nat.lt_of_lt_of_le (valN_lt _) (Nat.le_trans (Nat.pow_le_pow_right (by decide) (show (l.take i).length ≤ 7 by rw [List.length_take]; omega)) (by decide))
theorem or_shl8 (r x : Nat) (hr : r < 16777216) (hx : x < 256) : bits .or .u32 ((r : Int) * 256) (x : Int) = ((256 * r + x : Nat) : Int) := by
  have h1 : (r : Int) * 256 = ((r * 256 : Nat) : Int) := by omega
  rw [h1, u32_or_nat _ _ (by omega) (by omega), nat_join 8 _ _ (by omega) (by omega)]
  omega
set_option maxHeartbeats 4000000 in
theorem number_any (l : Bs) (hl : l.length ≤ 4) (w : World) :
    Calls Tryd.prog 106 #[.string ⟨l.toArray⟩] w fun e w' => e = .returned (.int .u32 (valN l : Int)) ∧ w = w' := by
  obtain ⟨n, hn⟩ : ∃ n, n = l.length := ⟨_, rfl⟩
  have HL : Hid (l.length = n) := Lib.hid hn.symm
  have hsz : (⟨l.toArray⟩ : ByteArray).size = n := by rw [size_ba, hn]
  have HL4 := Lib.hid hl
  rw [← hn] at hl
  obtain ⟨res, hres⟩ : ∃ z, z = valN l := ⟨_, rfl⟩
  rw [← hres]
  have HR := Lib.hid hres
  clear hn hres
  go_enter Tryd.func106, Tryd.ntmps106
  go_wp2_with fail
  go_loopw [3, 4, 7] (fun rv jv iv wr => ∃ i : Nat, i ≤ n ∧ iv = .int .i64 (i : Int) ∧ rv = .int .u32 (valN (l.take i) : Int) ∧ wr = w) (fun _ _ iv _ => n - (intOf iv).toNat)
  case atStart => exact ⟨0, Nat.zero_le _, rfl, rfl, rfl⟩
  case round =>
    obtain ⟨i, hi, rfl, rfl, rfl⟩ := hrel
    by_cases hlt : i < n
    · have hil : i < l.length := by rw [HL.out]; exact hlt
      have hr := valN_take4 l i HL4.out hil
      have hst := Lib.hid (valN_snoc l i hil)
      generalize valN (l.take i) = r at hr hst ⊢
      obtain ⟨x, hxe⟩ : ∃ x, x = l[i] := ⟨_, rfl⟩
      rw [← hxe] at hst
      have hget : ∀ h, (⟨l.toArray⟩ : ByteArray)[i]'h = x := fun _ => hxe.symm
      have hget2 : ∀ h, l[i]'h = x := fun _ => hxe.symm
      have hx := x.toNat_lt
      have hx2 : ((x.toNat : Int) % 4294967296) = (x.toNat : Int) := by omega
      obtain ⟨z, hz⟩ : ∃ z, z = 256 * r + x.toNat := ⟨_, rfl⟩
      have t1 : bits .or .u32 ((r : Int) * 256) (x.toNat : Int) = (z : Int) := by rw [or_shl8 _ _ hr (by omega), hz]
      rw [← hz] at hst
      clear hxe hz
      go_wp2_with fail
      go_roundw
      case rel => exact ⟨i + 1, by omega, by go_num, by rw [hst.out], trivial⟩
      case measure => simp [intOf]; omega
    · have hin : i = n := by omega
      have HE : res = valN (l.take i) := by rw [HR.out, hin, ← HL.out, List.take_length]
      rw [← HE]
      clear HE HR
      go_wp2_with fail
      go_ret
      exact ⟨rfl, rfl⟩
set_option maxHeartbeats 4000000 in
theorem value_any (l : Bs) (hl : l.length ≤ 8) (w : World) :
    Calls Tryd.prog 103 #[.string ⟨l.toArray⟩] w fun e w' => e = .returned (.int .u64 (valN l : Int)) ∧ w = w' := by
  obtain ⟨n, hn⟩ : ∃ n, n = l.length := ⟨_, rfl⟩
  have HL : Hid (l.length = n) := Lib.hid hn.symm
  have hsz : (⟨l.toArray⟩ : ByteArray).size = n := by rw [size_ba, hn]
  have HL4 := Lib.hid hl
  rw [← hn] at hl
  obtain ⟨res, hres⟩ : ∃ z, z = valN l := ⟨_, rfl⟩
  rw [← hres]
  have HR := Lib.hid hres
  clear hn hres
  go_enter Tryd.func103, Tryd.ntmps103
  go_wp2_with fail
  go_loopw [3, 4] (fun rv iv wr => ∃ i : Nat, i ≤ n ∧ iv = .int .i64 (i : Int) ∧ rv = .int .u64 (valN (l.take i) : Int) ∧ wr = w) (fun _ iv _ => n - (intOf iv).toNat)
  case atStart => exact ⟨0, Nat.zero_le _, rfl, rfl, rfl⟩
  case round =>
    obtain ⟨i, hi, rfl, rfl, rfl⟩ := hrel
    by_cases hlt : i < n
    · have hil : i < l.length := by rw [HL.out]; exact hlt
      have hr := valN_take8 l i HL4.out hil
      have hst := Lib.hid (valN_snoc l i hil)
      generalize valN (l.take i) = r at hr hst ⊢
      obtain ⟨x, hxe⟩ : ∃ x, x = l[i] := ⟨_, rfl⟩
      rw [← hxe] at hst
      have hget : ∀ h, (⟨l.toArray⟩ : ByteArray)[i]'h = x := fun _ => hxe.symm
      have hget2 : ∀ h, l[i]'h = x := fun _ => hxe.symm
      have hx := x.toNat_lt
      clear hxe
      go_wp2_with fail
      go_roundw
      case rel => exact ⟨i + 1, by omega, by go_num, by rw [hst.out]; go_num, trivial⟩
      case measure => simp [intOf]; omega
    · have hin : i = n := by omega
      have HE : res = valN (l.take i) := by rw [HR.out, hin, ← HL.out, List.take_length]
      rw [← HE]
      clear HE HR
      go_wp2_with fail
      go_ret
      exact ⟨rfl, rfl⟩
end Go.Proofs.YtmoihgniglomiaaDoor
/- Bytes of a number, frames, a log's file without records: the program's and the document's. Condition: the program's table. -/
set_option linter.unusedVariables false
set_option linter.unusedSimpArgs false
set_option maxRecDepth 100000
namespace Go.Proofs.YtmoihgniglomiaaDoor
open Go.RowKit Go.Sort

theorem conv1 (w : World) (x : Nat) (h : x < 256) : (convert 80 9 (.slice (some ⟨w.heap.size, 0, none⟩) 1 1)).run Tryd.prog (w.alloc (Obj.cells #[.int .u8 (x : Int)] 5)) = .ok (.string ⟨[UInt8.ofNat x].toArray⟩) (w.alloc (Obj.cells #[.int .u8 (x : Int)] 5)) :=
  conv_row (l := [UInt8.ofNat x]) (c := 1) (b := w.heap.size) (T := 5) (z := (0, 0)) (by
    have : ((UInt8.ofNat x).toNat : Int) = (x : Int) := by rw [UInt8.toNat_ofNat']; omega
    simp only [List.map_cons, List.map_nil, this]
    exact Go.heap_alloc_new w _)
set_option maxHeartbeats 4000000 in
theorem bytes_any (n m : Nat) (hn : n < 18446744073709551616) (hm : m ≤ 8) (w : World) :
    Calls Tryd.prog 47 #[.int .u64 (n : Int), .int .i64 (m : Int)] w fun e w' => e = .returned (.string ⟨(be m n).toArray⟩) ∧ Below w.heap.size w w' := by
  obtain ⟨res, hres⟩ : ∃ z : ByteArray, z = ⟨(be m n).toArray⟩ := ⟨_, rfl⟩
  rw [← hres]
  have HR := Lib.hid hres
  clear hres
  go_enter Tryd.func47, Tryd.ntmps47
  go_wp2_with fail
  go_loopw [0, 5, 6] (fun nv sv iv wr => ∃ i : Nat, i ≤ m ∧ iv = .int .i64 (i : Int) ∧ nv = .int .u64 ((n / 256 ^ i : Nat) : Int) ∧ sv = .string ⟨(be i n).toArray⟩ ∧ Below w.heap.size w wr) (fun _ _ iv _ => m - (intOf iv).toNat)
  case atStart => exact ⟨0, Nat.zero_le _, rfl, by simp, rfl, Below.refl _ _⟩
  case round =>
    obtain ⟨i, hi, rfl, rfl, rfl, hb⟩ := hrel
    have HB := Lib.hid hb
    clear hb
    by_cases hlt : i < m
    · have hst := Lib.hid (be_lowest i n)
      have hdv : n / 256 ^ (i + 1) = n / 256 ^ i / 256 := by rw [Nat.pow_succ, Nat.div_div_eq_div_mul]
      have HD := Lib.hid hdv
      have hq : n / 256 ^ i < 18446744073709551616 := Nat.lt_of_le_of_lt (Nat.div_le_self _ _) hn
      generalize n / 256 ^ i = q at hst HD hq ⊢
      clear hdv
      obtain ⟨x, hx⟩ : ∃ x, x = q % 256 := ⟨_, rfl⟩
      have t1 : (q : Int) % 256 = (x : Int) := by omega
      have hx1 : (0 : Int) ≤ (x : Int) := by omega
      have hx2 : (x : Int) < 256 := by omega
      have hc := conv1 wr x (by omega)
      rw [← hx] at hst
      have hs2 : (⟨#[UInt8.ofNat x]⟩ : ByteArray) ++ ⟨(be i n).toArray⟩ = ⟨(be (i + 1) n).toArray⟩ := by rw [hst.out]; exact ba_app [UInt8.ofNat x] (be i n)
      have hbl : (be i n).length = i := be_len i n
      clear hx
      go_wp2_with fail
      go_roundw
      case rel => exact ⟨i + 1, by omega, by go_num, by rw [HD.out]; go_num, rfl, HB.out.alloc HB.out.size _⟩
      case measure => simp [intOf]; omega
    · have hin : i = m := by omega
      subst hin
      rw [← HR.out]
      clear HR
      go_wp2_with fail
      go_ret
      exact ⟨rfl, HB.out⟩
end Go.Proofs.YtmoihgniglomiaaDoor
/- Frames and a log's file without records: the program's and the document's. Condition: the program's table. -/
set_option linter.unusedVariables false
set_option linter.unusedSimpArgs false
set_option maxRecDepth 100000
namespace Go.Proofs.YtmoihgniglomiaaDoor
open Go.RowKit Go.Sort

set_option maxHeartbeats 4000000 in
theorem rframe_any (l : Bs) (hl : l.length ≤ 1048576) (w : World) :
    Calls Tryd.prog 48 #[.string ⟨l.toArray⟩] w fun e w' => e = .returned (.string ⟨(frame l).toArray⟩) ∧ Below w.heap.size w w' := by
  obtain ⟨n, hn⟩ : ∃ n, n = l.length := ⟨_, rfl⟩
  have hsz : (⟨l.toArray⟩ : ByteArray).size = n := by rw [size_ba, hn]
  have HL : l.length = n := hn.symm
  have HLE : (n : Int) ≤ 1048576 := by omega
  have c1 := Lib.hid (bytes_any n 4 (by omega) (by omega))
  have cs := Lib.hid (rsum_any l (by omega))
  have c2 := Lib.hid (bytes_any (Crc.sum l) 4 (by have := Crc.sum_lt l; omega) (by omega))
  have hs : (Crc.sum l : Int) < 4294967296 := by have := Crc.sum_lt l; omega
  have hab : (⟨(be 4 n).toArray⟩ : ByteArray) ++ ⟨(be 4 (Crc.sum l)).toArray⟩ = ⟨(be 4 n ++ be 4 (Crc.sum l)).toArray⟩ := ba_app _ _
  have hres : (⟨(be 4 n ++ be 4 (Crc.sum l)).toArray⟩ : ByteArray) ++ ⟨l.toArray⟩ = ⟨(frame l).toArray⟩ := by rw [frame, HL]; exact ba_app _ _
  have l1 : (be 4 n).length = 4 := be_len _ _
  have l2 : (be 4 (Crc.sum l)).length = 4 := be_len _ _
  have l3 : (be 4 n ++ be 4 (Crc.sum l)).length = 8 := by simp [l1, l2]
  generalize frame l = res at hres ⊢
  generalize (be 4 n ++ be 4 (Crc.sum l)) = ab at hab hres l3
  generalize be 4 n = a at c1 hab l1
  generalize be 4 (Crc.sum l) = b at c2 hab l2
  generalize Crc.sum l = s at c2 cs hs
  have hs0 : (0 : Int) ≤ s := by omega
  clear hn hl
  go_enter Tryd.func48, Tryd.ntmps48
  go_wp2_with fail
  refine (keep w.heap.size w (c1.out _) (by go_grown) (Nat.le_refl _)).mono ?_
  rintro e w1 ⟨rfl, hb1, -⟩
  have HB1 := Lib.hid hb1; clear hb1
  go_wp2_with fail
  refine (cs.out _).mono ?_
  rintro e w2 ⟨rfl, rfl⟩
  go_wp2_with fail
  refine (keep w.heap.size w (c2.out _) HB1.out (Nat.le_refl _)).mono ?_
  rintro e w2 ⟨rfl, hb2, -⟩
  have HB2 := Lib.hid hb2; clear hb2
  go_wp2_with fail
  go_ret
  exact ⟨rfl, HB2.out⟩

set_option maxHeartbeats 4000000 in
theorem frame_any (l : Bs) (hl : l.length ≤ 1048576) (w : World) (hT : Tb w) :
    Calls Tryd.prog 76 #[.string ⟨l.toArray⟩] w fun e w' => e = .returned (.string ⟨(frame l).toArray⟩) ∧ Below w.heap.size w w' := by
  have HT := Lib.hid hT
  obtain ⟨n, hn⟩ : ∃ n, n = l.length := ⟨_, rfl⟩
  have hsz : (⟨l.toArray⟩ : ByteArray).size = n := by rw [size_ba, hn]
  have HL : l.length = n := hn.symm
  have HLE : (n : Int) ≤ 1048576 := by omega
  have c1 := Lib.hid (four_any n (by omega))
  have cs := Lib.hid (sum_any l (by omega))
  have c2 := Lib.hid (four_any (Crc.sum l) (Crc.sum_lt l))
  have hs : (Crc.sum l : Int) < 4294967296 := by have := Crc.sum_lt l; omega
  have hab : (⟨(be 4 n).toArray⟩ : ByteArray) ++ ⟨(be 4 (Crc.sum l)).toArray⟩ = ⟨(be 4 n ++ be 4 (Crc.sum l)).toArray⟩ := ba_app _ _
  have hres : (⟨(be 4 n ++ be 4 (Crc.sum l)).toArray⟩ : ByteArray) ++ ⟨l.toArray⟩ = ⟨(frame l).toArray⟩ := by rw [frame, HL]; exact ba_app _ _
  have l1 : (be 4 n).length = 4 := be_len _ _
  have l2 : (be 4 (Crc.sum l)).length = 4 := be_len _ _
  have l3 : (be 4 n ++ be 4 (Crc.sum l)).length = 8 := by simp [l1, l2]
  generalize frame l = res at hres ⊢
  generalize (be 4 n ++ be 4 (Crc.sum l)) = ab at hab hres l3
  generalize be 4 n = a at c1 hab l1
  generalize be 4 (Crc.sum l) = b at c2 hab l2
  generalize Crc.sum l = s at c2 cs hs
  have hs0 : (0 : Int) ≤ s := by omega
  clear hn hl hT
  go_enter Tryd.func76, Tryd.ntmps76
  go_wp2_with fail
  refine (keep w.heap.size w (c1.out _) (by go_grown) (Nat.le_refl _)).mono ?_
  rintro e w1 ⟨rfl, hb1, -⟩
  have HB1 := Lib.hid hb1; clear hb1
  go_wp2_with fail
  refine (cs.out _ (HT.out.below HB1.out)).mono ?_
  rintro e w2 ⟨rfl, rfl⟩
  go_wp2_with fail
  refine (keep w.heap.size w (c2.out _) HB1.out (Nat.le_refl _)).mono ?_
  rintro e w2 ⟨rfl, hb2, -⟩
  have HB2 := Lib.hid hb2; clear hb2
  go_wp2_with fail
  go_ret
  exact ⟨rfl, HB2.out⟩

theorem be8 (g : Nat) : be 8 g = be 4 (g / 4294967296) ++ be 4 g := by
  have h : ∀ k n, be (4 + k) n = be 4 (n / 256 ^ k) ++ be k n := by
    intro k
    induction k with
    | zero => intro n; simp [be]
    | succ k ih =>
      intro n
      have e1 : be (4 + (k + 1)) n = be (4 + k) (n / 256) ++ [UInt8.ofNat (n % 256)] := rfl
      have e2 : be (k + 1) n = be k (n / 256) ++ [UInt8.ofNat (n % 256)] := rfl
      rw [e1, ih, e2, Nat.div_div_eq_div_mul, List.append_assoc, show 256 * 256 ^ k = 256 ^ (k + 1) by rw [Nat.pow_succ, Nat.mul_comm]]
  exact h 4 g
theorem be4_mod (n : Nat) : be 4 (n % 4294967296) = be 4 n := by
  rw [be4, be4]
  congr 1
  · congr 1; omega
  · congr 1
    · congr 1; omega
    · congr 1
      · congr 1; omega
      · congr 2; omega
set_option maxHeartbeats 4000000 in
theorem fileOf_any (g : Nat) (hg : g ≤ 4611686018427387904) (l : Bs) (hl : l.length ≤ 1048576) (w : World) (hT : Tb w) :
    Calls Tryd.prog 82 #[.int .i64 (g : Int), .string ⟨l.toArray⟩] w fun e w' => e = .returned (.string ⟨(fileOf g l).toArray⟩) ∧ Below w.heap.size w w' := by
  have HT := Lib.hid hT
  have hg0 : (0 : Int) ≤ g := by omega
  have hg1 : (g : Int) ≤ 4611686018427387904 := by omega
  obtain ⟨hi, hhi⟩ : ∃ x, x = g / 4294967296 := ⟨_, rfl⟩
  obtain ⟨lo, hlo⟩ : ∃ x, x = g % 4294967296 := ⟨_, rfl⟩
  have t1 : (g : Int) / 4294967296 = (hi : Int) := by omega
  have t2 : (g : Int) % 4294967296 = (lo : Int) := by omega
  have t3 : (hi : Int) < 4294967296 := by omega
  have t4 : (0 : Int) ≤ (hi : Int) := by omega
  have c1 := Lib.hid (four_any hi (by omega))
  have c2 := Lib.hid (four_any lo (by omega))
  have c3 := Lib.hid (frame_any l hl)
  have e1 : (⟨#[83, 78, 76, 49]⟩ : ByteArray) ++ ⟨(be 4 hi).toArray⟩ = ⟨(mark ++ be 4 hi).toArray⟩ := ba_app mark _
  have e2 : (⟨(mark ++ be 4 hi).toArray⟩ : ByteArray) ++ ⟨(be 4 lo).toArray⟩ = ⟨(mark ++ be 8 g).toArray⟩ := by rw [be8, ← hhi, ← be4_mod g, ← hlo, ← List.append_assoc]; exact ba_app _ _
  have e3 : (⟨(mark ++ be 8 g).toArray⟩ : ByteArray) ++ ⟨(frame l).toArray⟩ = ⟨(fileOf g l).toArray⟩ := ba_app _ _
  have l1 : (be 4 hi).length = 4 := be_len _ _
  have l2 : (be 4 lo).length = 4 := be_len _ _
  have l3 : (mark ++ be 4 hi).length = 8 := by simp [mark, l1]
  have l4 : (mark ++ be 8 g).length = 12 := by simp [mark, be_len]
  have l5 : (((frame l).length : Nat) : Int) ≤ 1048584 := by rw [frame_len]; omega
  generalize fileOf g l = res at e3 ⊢
  generalize mark ++ be 8 g = x2 at e2 e3 l4
  generalize mark ++ be 4 hi = x1 at e1 e2 l3
  generalize frame l = x3 at c3 e3 l5
  generalize be 4 hi = a at c1 e1 l1
  generalize be 4 lo = b at c2 e2 l2
  clear hhi hlo hT hg hl
  go_enter Tryd.func82, Tryd.ntmps82
  go_wp2_with fail
  refine (keep w.heap.size w (c1.out _) (by go_grown) (Nat.le_refl _)).mono ?_
  rintro e w1 ⟨rfl, hb1, -⟩
  have HB1 := Lib.hid hb1; clear hb1
  go_wp2_with fail
  refine (keep w.heap.size w (c2.out _) HB1.out (Nat.le_refl _)).mono ?_
  rintro e w2 ⟨rfl, hb2, -⟩
  have HB2 := Lib.hid hb2; clear hb2
  go_wp2_with fail
  refine (keep w.heap.size w (c3.out _ (HT.out.below HB2.out)) HB2.out (Nat.le_refl _)).mono ?_
  rintro e w3 ⟨rfl, hb3, -⟩
  have HB3 := Lib.hid hb3; clear hb3
  go_wp2_with fail
  go_ret
  exact ⟨rfl, HB3.out⟩
end Go.Proofs.YtmoihgniglomiaaDoor
