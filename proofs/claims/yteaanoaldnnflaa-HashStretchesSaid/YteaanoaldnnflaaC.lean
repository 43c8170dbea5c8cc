/- Words: how the program's operations on them read as the plain ones; a number as four bytes; a number turned. No condition. -/
import Derived.Test.YteaanoaldnnflaaB
import Derived.Laws.BitsAllLaws
import Derived.Lib.QuietBelow
import Derived.Lib.Walk
import Derived.Laws.Shifts
import Derived.Lib.ConvBytes
import Derived.Lib.BufferRead
import Derived.Laws.IdiomStrings
set_option linter.unusedVariables false
namespace Go.Proofs.Yteaanoaldnnflaa
open Go.RowKit

theorem ret_int {k : IntKind} {a b : Int} (h : a = b) : Ending.returned (.int k a) = .returned (.int k b) := by rw [h]
theorem w_lt (x : UInt32) : x.toNat < 4294967296 := x.toNat_lt
theorem w_ofNat (n : Nat) (h : n < 4294967296) : (UInt32.ofNat n).toNat = n := by
  rw [UInt32.toNat_ofNat']; exact Nat.mod_eq_of_lt h
theorem or_lt {a b : Nat} (ha : a < 4294967296) (hb : b < 4294967296) : a ||| b < 4294967296 := Nat.or_lt_two_pow (n := 32) ha hb
theorem or_ror (x : UInt32) (n m d : Nat) (hm : m = 2 ^ (32 - n)) (hd : d = 2 ^ n) : bits .or .u32 ((x.toNat : Int) * m % 4294967296) ((x.toNat : Int) / d) = ((rorW x n).toNat : Int) := by
  have h1 : (x.toNat : Int) * m % 4294967296 = ((x.toNat * m % 4294967296 : Nat) : Int) := by simp
  have h2 : (x.toNat : Int) / d = ((x.toNat / d : Nat) : Int) := by simp
  have l1 : x.toNat * m % 4294967296 < 4294967296 := Nat.mod_lt _ (by decide)
  have l2 : x.toNat / d < 4294967296 := Nat.lt_of_le_of_lt (Nat.div_le_self _ _) (w_lt x)
  rw [h1, h2, u32_or_nat _ _ l1 l2, rorW, ← hm, ← hd, w_ofNat _ (or_lt l1 l2)]
theorem xorW (x y : UInt32) : bits .xor .u32 (x.toNat : Int) (y.toNat : Int) = ((x ^^^ y).toNat : Int) := by
  rw [u32_xor_nat _ _ (w_lt x) (w_lt y), UInt32.toNat_xor]
theorem andW (x y : UInt32) : bits .and .u32 (x.toNat : Int) (y.toNat : Int) = ((x &&& y).toNat : Int) := by
  rw [u32_and_nat _ _ (w_lt x) (w_lt y), UInt32.toNat_and]
theorem orW (x y : UInt32) : bits .or .u32 (x.toNat : Int) (y.toNat : Int) = ((x ||| y).toNat : Int) := by
  rw [u32_or_nat _ _ (w_lt x) (w_lt y), UInt32.toNat_or]
theorem and_compl (x y : Nat) (hx : x < 4294967296) (hy : y < 4294967296) : x &&& (4294967295 - y) = (BitVec.ofNat 32 x &&& ~~~ BitVec.ofNat 32 y).toNat := by
  rw [BitVec.toNat_and, BitVec.toNat_not, BitVec.toNat_ofNat, BitVec.toNat_ofNat, Nat.mod_eq_of_lt hx, Nat.mod_eq_of_lt hy]
theorem andNotW (x y : UInt32) : bits .andNot .u32 (x.toNat : Int) (y.toNat : Int) = ((x &&& ~~~ y).toNat : Int) := by
  rw [u32_andNot_nat _ _ (w_lt x) (w_lt y), UInt32.toNat_and, UInt32.toNat_not]
  rfl
theorem addW (x y : UInt32) : IntKind.u32.wrap ((x.toNat : Int) + (y.toNat : Int)) = ((x + y).toNat : Int) := by
  rw [IntKind.wrap_u32', UInt32.toNat_add]; omega
theorem shrW_div (x : UInt32) (n d : Nat) (hd : d = 2 ^ n) : (x.toNat : Int) / d = ((shrW x n).toNat : Int) := by
  have l2 : x.toNat / d < 4294967296 := Nat.lt_of_le_of_lt (Nat.div_le_self _ _) (w_lt x)
  rw [shrW, ← hd, w_ofNat _ l2]; simp
theorem xorB (x y : UInt8) : bits .xor .u8 (x.toNat : Int) (y.toNat : Int) = ((x ^^^ y).toNat : Int) := by
  rw [u8_xor_nat _ _ x.toNat_lt y.toNat_lt, UInt8.toNat_xor]
theorem sh8_or (x : UInt32) (c : UInt8) : bits .or .u32 ((x.toNat : Int) * 256 % 4294967296) (c.toNat : Int) = ((sh8 x c).toNat : Int) := by
  have hc := c.toNat_lt
  have h1 : (x.toNat : Int) * 256 % 4294967296 = ((x.toNat * 256 % 4294967296 : Nat) : Int) := by simp
  have l1 : x.toNat * 256 % 4294967296 < 4294967296 := Nat.mod_lt _ (by decide)
  rw [h1, u32_or_nat _ _ l1 (by omega), nat_join 8 _ _ (by omega) (by omega), sh8, UInt32.toNat_ofNat']
  omega

set_option maxHeartbeats 1000000 in
theorem rotl2 (x : UInt32) (w : World) :
    Calls Try.prog 56 #[.int .u32 (x.toNat : Int), .int .i64 (-2)] w fun e w' => e = .returned (.int .u32 ((rorW x 2).toNat : Int)) ∧ w = w' := by
  have hx := x.toNat_lt
  have hb : bits BinOp.and IntKind.u64 (IntKind.u64.wrap (-2)) 31 = 30 := by decide
  have ho : bits BinOp.or IntKind.u32 ((x.toNat : Int) * 1073741824 % 4294967296) ((x.toNat : Int) / 4) = ((rorW x 2).toNat : Int) := or_ror x 2 1073741824 4 (by decide) (by decide)
  go_enter Try.func56, Try.ntmps56
  go_wp2
  go_ret
  exact ⟨rfl, rfl⟩
set_option maxHeartbeats 1000000 in
theorem ror2 (x : UInt32) (w : World) :
    Calls Try.prog 51 #[.int .u32 (x.toNat : Int), .int .i64 2] w fun e w' => e = .returned (.int .u32 ((rorW x 2).toNat : Int)) ∧ w = w' := by
  have hx := x.toNat_lt
  go_enter Try.func51, Try.ntmps51
  go_wp2_with (go_at_call 56; refine (rotl2 x _).mono ?_; rintro e w' ⟨rfl, rfl⟩)
  go_ret
  exact ⟨rfl, rfl⟩
set_option maxHeartbeats 1000000 in
theorem rotl6 (x : UInt32) (w : World) :
    Calls Try.prog 56 #[.int .u32 (x.toNat : Int), .int .i64 (-6)] w fun e w' => e = .returned (.int .u32 ((rorW x 6).toNat : Int)) ∧ w = w' := by
  have hx := x.toNat_lt
  have hb : bits BinOp.and IntKind.u64 (IntKind.u64.wrap (-6)) 31 = 26 := by decide
  have ho : bits BinOp.or IntKind.u32 ((x.toNat : Int) * 67108864 % 4294967296) ((x.toNat : Int) / 64) = ((rorW x 6).toNat : Int) := or_ror x 6 67108864 64 (by decide) (by decide)
  go_enter Try.func56, Try.ntmps56
  go_wp2
  go_ret
  exact ⟨rfl, rfl⟩
set_option maxHeartbeats 1000000 in
theorem ror6 (x : UInt32) (w : World) :
    Calls Try.prog 51 #[.int .u32 (x.toNat : Int), .int .i64 6] w fun e w' => e = .returned (.int .u32 ((rorW x 6).toNat : Int)) ∧ w = w' := by
  have hx := x.toNat_lt
  go_enter Try.func51, Try.ntmps51
  go_wp2_with (go_at_call 56; refine (rotl6 x _).mono ?_; rintro e w' ⟨rfl, rfl⟩)
  go_ret
  exact ⟨rfl, rfl⟩
set_option maxHeartbeats 1000000 in
theorem rotl7 (x : UInt32) (w : World) :
    Calls Try.prog 56 #[.int .u32 (x.toNat : Int), .int .i64 (-7)] w fun e w' => e = .returned (.int .u32 ((rorW x 7).toNat : Int)) ∧ w = w' := by
  have hx := x.toNat_lt
  have hb : bits BinOp.and IntKind.u64 (IntKind.u64.wrap (-7)) 31 = 25 := by decide
  have ho : bits BinOp.or IntKind.u32 ((x.toNat : Int) * 33554432 % 4294967296) ((x.toNat : Int) / 128) = ((rorW x 7).toNat : Int) := or_ror x 7 33554432 128 (by decide) (by decide)
  go_enter Try.func56, Try.ntmps56
  go_wp2
  go_ret
  exact ⟨rfl, rfl⟩
set_option maxHeartbeats 1000000 in
theorem ror7 (x : UInt32) (w : World) :
    Calls Try.prog 51 #[.int .u32 (x.toNat : Int), .int .i64 7] w fun e w' => e = .returned (.int .u32 ((rorW x 7).toNat : Int)) ∧ w = w' := by
  have hx := x.toNat_lt
  go_enter Try.func51, Try.ntmps51
  go_wp2_with (go_at_call 56; refine (rotl7 x _).mono ?_; rintro e w' ⟨rfl, rfl⟩)
  go_ret
  exact ⟨rfl, rfl⟩
set_option maxHeartbeats 1000000 in
theorem rotl11 (x : UInt32) (w : World) :
    Calls Try.prog 56 #[.int .u32 (x.toNat : Int), .int .i64 (-11)] w fun e w' => e = .returned (.int .u32 ((rorW x 11).toNat : Int)) ∧ w = w' := by
  have hx := x.toNat_lt
  have hb : bits BinOp.and IntKind.u64 (IntKind.u64.wrap (-11)) 31 = 21 := by decide
  have ho : bits BinOp.or IntKind.u32 ((x.toNat : Int) * 2097152 % 4294967296) ((x.toNat : Int) / 2048) = ((rorW x 11).toNat : Int) := or_ror x 11 2097152 2048 (by decide) (by decide)
  go_enter Try.func56, Try.ntmps56
  go_wp2
  go_ret
  exact ⟨rfl, rfl⟩
set_option maxHeartbeats 1000000 in
theorem ror11 (x : UInt32) (w : World) :
    Calls Try.prog 51 #[.int .u32 (x.toNat : Int), .int .i64 11] w fun e w' => e = .returned (.int .u32 ((rorW x 11).toNat : Int)) ∧ w = w' := by
  have hx := x.toNat_lt
  go_enter Try.func51, Try.ntmps51
  go_wp2_with (go_at_call 56; refine (rotl11 x _).mono ?_; rintro e w' ⟨rfl, rfl⟩)
  go_ret
  exact ⟨rfl, rfl⟩
set_option maxHeartbeats 1000000 in
theorem rotl13 (x : UInt32) (w : World) :
    Calls Try.prog 56 #[.int .u32 (x.toNat : Int), .int .i64 (-13)] w fun e w' => e = .returned (.int .u32 ((rorW x 13).toNat : Int)) ∧ w = w' := by
  have hx := x.toNat_lt
  have hb : bits BinOp.and IntKind.u64 (IntKind.u64.wrap (-13)) 31 = 19 := by decide
  have ho : bits BinOp.or IntKind.u32 ((x.toNat : Int) * 524288 % 4294967296) ((x.toNat : Int) / 8192) = ((rorW x 13).toNat : Int) := or_ror x 13 524288 8192 (by decide) (by decide)
  go_enter Try.func56, Try.ntmps56
  go_wp2
  go_ret
  exact ⟨rfl, rfl⟩
set_option maxHeartbeats 1000000 in
theorem ror13 (x : UInt32) (w : World) :
    Calls Try.prog 51 #[.int .u32 (x.toNat : Int), .int .i64 13] w fun e w' => e = .returned (.int .u32 ((rorW x 13).toNat : Int)) ∧ w = w' := by
  have hx := x.toNat_lt
  go_enter Try.func51, Try.ntmps51
  go_wp2_with (go_at_call 56; refine (rotl13 x _).mono ?_; rintro e w' ⟨rfl, rfl⟩)
  go_ret
  exact ⟨rfl, rfl⟩
set_option maxHeartbeats 1000000 in
theorem rotl17 (x : UInt32) (w : World) :
    Calls Try.prog 56 #[.int .u32 (x.toNat : Int), .int .i64 (-17)] w fun e w' => e = .returned (.int .u32 ((rorW x 17).toNat : Int)) ∧ w = w' := by
  have hx := x.toNat_lt
  have hb : bits BinOp.and IntKind.u64 (IntKind.u64.wrap (-17)) 31 = 15 := by decide
  have ho : bits BinOp.or IntKind.u32 ((x.toNat : Int) * 32768 % 4294967296) ((x.toNat : Int) / 131072) = ((rorW x 17).toNat : Int) := or_ror x 17 32768 131072 (by decide) (by decide)
  go_enter Try.func56, Try.ntmps56
  go_wp2
  go_ret
  exact ⟨rfl, rfl⟩
set_option maxHeartbeats 1000000 in
theorem ror17 (x : UInt32) (w : World) :
    Calls Try.prog 51 #[.int .u32 (x.toNat : Int), .int .i64 17] w fun e w' => e = .returned (.int .u32 ((rorW x 17).toNat : Int)) ∧ w = w' := by
  have hx := x.toNat_lt
  go_enter Try.func51, Try.ntmps51
  go_wp2_with (go_at_call 56; refine (rotl17 x _).mono ?_; rintro e w' ⟨rfl, rfl⟩)
  go_ret
  exact ⟨rfl, rfl⟩
set_option maxHeartbeats 1000000 in
theorem rotl18 (x : UInt32) (w : World) :
    Calls Try.prog 56 #[.int .u32 (x.toNat : Int), .int .i64 (-18)] w fun e w' => e = .returned (.int .u32 ((rorW x 18).toNat : Int)) ∧ w = w' := by
  have hx := x.toNat_lt
  have hb : bits BinOp.and IntKind.u64 (IntKind.u64.wrap (-18)) 31 = 14 := by decide
  have ho : bits BinOp.or IntKind.u32 ((x.toNat : Int) * 16384 % 4294967296) ((x.toNat : Int) / 262144) = ((rorW x 18).toNat : Int) := or_ror x 18 16384 262144 (by decide) (by decide)
  go_enter Try.func56, Try.ntmps56
  go_wp2
  go_ret
  exact ⟨rfl, rfl⟩
set_option maxHeartbeats 1000000 in
theorem ror18 (x : UInt32) (w : World) :
    Calls Try.prog 51 #[.int .u32 (x.toNat : Int), .int .i64 18] w fun e w' => e = .returned (.int .u32 ((rorW x 18).toNat : Int)) ∧ w = w' := by
  have hx := x.toNat_lt
  go_enter Try.func51, Try.ntmps51
  go_wp2_with (go_at_call 56; refine (rotl18 x _).mono ?_; rintro e w' ⟨rfl, rfl⟩)
  go_ret
  exact ⟨rfl, rfl⟩
set_option maxHeartbeats 1000000 in
theorem rotl19 (x : UInt32) (w : World) :
    Calls Try.prog 56 #[.int .u32 (x.toNat : Int), .int .i64 (-19)] w fun e w' => e = .returned (.int .u32 ((rorW x 19).toNat : Int)) ∧ w = w' := by
  have hx := x.toNat_lt
  have hb : bits BinOp.and IntKind.u64 (IntKind.u64.wrap (-19)) 31 = 13 := by decide
  have ho : bits BinOp.or IntKind.u32 ((x.toNat : Int) * 8192 % 4294967296) ((x.toNat : Int) / 524288) = ((rorW x 19).toNat : Int) := or_ror x 19 8192 524288 (by decide) (by decide)
  go_enter Try.func56, Try.ntmps56
  go_wp2
  go_ret
  exact ⟨rfl, rfl⟩
set_option maxHeartbeats 1000000 in
theorem ror19 (x : UInt32) (w : World) :
    Calls Try.prog 51 #[.int .u32 (x.toNat : Int), .int .i64 19] w fun e w' => e = .returned (.int .u32 ((rorW x 19).toNat : Int)) ∧ w = w' := by
  have hx := x.toNat_lt
  go_enter Try.func51, Try.ntmps51
  go_wp2_with (go_at_call 56; refine (rotl19 x _).mono ?_; rintro e w' ⟨rfl, rfl⟩)
  go_ret
  exact ⟨rfl, rfl⟩
set_option maxHeartbeats 1000000 in
theorem rotl22 (x : UInt32) (w : World) :
    Calls Try.prog 56 #[.int .u32 (x.toNat : Int), .int .i64 (-22)] w fun e w' => e = .returned (.int .u32 ((rorW x 22).toNat : Int)) ∧ w = w' := by
  have hx := x.toNat_lt
  have hb : bits BinOp.and IntKind.u64 (IntKind.u64.wrap (-22)) 31 = 10 := by decide
  have ho : bits BinOp.or IntKind.u32 ((x.toNat : Int) * 1024 % 4294967296) ((x.toNat : Int) / 4194304) = ((rorW x 22).toNat : Int) := or_ror x 22 1024 4194304 (by decide) (by decide)
  go_enter Try.func56, Try.ntmps56
  go_wp2
  go_ret
  exact ⟨rfl, rfl⟩
set_option maxHeartbeats 1000000 in
theorem ror22 (x : UInt32) (w : World) :
    Calls Try.prog 51 #[.int .u32 (x.toNat : Int), .int .i64 22] w fun e w' => e = .returned (.int .u32 ((rorW x 22).toNat : Int)) ∧ w = w' := by
  have hx := x.toNat_lt
  go_enter Try.func51, Try.ntmps51
  go_wp2_with (go_at_call 56; refine (rotl22 x _).mono ?_; rintro e w' ⟨rfl, rfl⟩)
  go_ret
  exact ⟨rfl, rfl⟩
set_option maxHeartbeats 1000000 in
theorem rotl25 (x : UInt32) (w : World) :
    Calls Try.prog 56 #[.int .u32 (x.toNat : Int), .int .i64 (-25)] w fun e w' => e = .returned (.int .u32 ((rorW x 25).toNat : Int)) ∧ w = w' := by
  have hx := x.toNat_lt
  have hb : bits BinOp.and IntKind.u64 (IntKind.u64.wrap (-25)) 31 = 7 := by decide
  have ho : bits BinOp.or IntKind.u32 ((x.toNat : Int) * 128 % 4294967296) ((x.toNat : Int) / 33554432) = ((rorW x 25).toNat : Int) := or_ror x 25 128 33554432 (by decide) (by decide)
  go_enter Try.func56, Try.ntmps56
  go_wp2
  go_ret
  exact ⟨rfl, rfl⟩
set_option maxHeartbeats 1000000 in
theorem ror25 (x : UInt32) (w : World) :
    Calls Try.prog 51 #[.int .u32 (x.toNat : Int), .int .i64 25] w fun e w' => e = .returned (.int .u32 ((rorW x 25).toNat : Int)) ∧ w = w' := by
  have hx := x.toNat_lt
  go_enter Try.func51, Try.ntmps51
  go_wp2_with (go_at_call 56; refine (rotl25 x _).mono ?_; rintro e w' ⟨rfl, rfl⟩)
  go_ret
  exact ⟨rfl, rfl⟩

theorem fourL_get (x : UInt32) : (fourL x).map (fun c => Value.int .u8 (c.toNat : Int)) = [.int .u8 ((x.toNat : Int) / 16777216), .int .u8 ((x.toNat : Int) / 65536 % 256), .int .u8 ((x.toNat : Int) / 256 % 256), .int .u8 ((x.toNat : Int) % 256)] := by
  have hx := w_lt x
  simp only [fourL, List.map_cons, List.map_nil, UInt8.toNat_ofNat']
  have e1 : ((x.toNat / 16777216 % 2 ^ 8 : Nat) : Int) = (x.toNat : Int) / 16777216 := by omega
  have e2 : ((x.toNat / 65536 % 2 ^ 8 : Nat) : Int) = (x.toNat : Int) / 65536 % 256 := by omega
  have e3 : ((x.toNat / 256 % 2 ^ 8 : Nat) : Int) = (x.toNat : Int) / 256 % 256 := by omega
  have e4 : ((x.toNat % 2 ^ 8 : Nat) : Int) = (x.toNat : Int) % 256 := by omega
  rw [e1, e2, e3, e4]
/-- a row of bytes as a text -/
theorem conv_row {w : World} {b : Nat} {l : List UInt8} {c : Nat} {T : TypeId} {z : Nat × Nat} (h : w.heap[b]? = some (.cells (l.map (fun c => Value.int .u8 (c.toNat : Int))).toArray T z)) :
    (convert 33 9 (.slice (some ⟨b, 0, none⟩) l.length c)).run Try.prog w = .ok (.string ⟨l.toArray⟩) w :=
  run_convert_bytes_back w 33 9 5 _ c l Try.underlying33 Try.underlying5 Try.underlying9 (fun j hj => by
    rw [show (⟨b, 0, none⟩ : Addr).add j = ⟨b, j, none⟩ from by unfold Addr.add; split <;> simp_all, Lib.cell_of_heap h]
    simp [hj])
set_option maxHeartbeats 1000000 in
theorem four_any (x : UInt32) (w : World) :
    Calls Try.prog 29 #[.int .u32 (x.toNat : Int)] w fun e w' => e = .returned (.string ⟨(fourL x).toArray⟩) ∧ Below w.heap.size w w' := by
  have hx := x.toNat_lt
  have hc : (convert 33 9 (.slice (some ⟨w.heap.size, 0, none⟩) 4 4)).run Try.prog (w.alloc (Obj.cells #[.int .u8 ((x.toNat : Int) / 16777216), .int .u8 ((x.toNat : Int) / 65536 % 256), .int .u8 ((x.toNat : Int) / 256 % 256), .int .u8 ((x.toNat : Int) % 256)] 5)) = .ok (.string ⟨(fourL x).toArray⟩) _ :=
    conv_row (l := fourL x) (c := 4) (b := w.heap.size) (by rw [fourL_get]; exact Go.heap_alloc_new w _)
  go_enter Try.func29, Try.ntmps29
  go_wp2
  go_ret
  exact ⟨rfl, (Below.refl _ _).alloc (Nat.le_refl _) _⟩
end Go.Proofs.Yteaanoaldnnflaa
