/- The reference's words: a word turned right; a word as four bytes. No condition. -/
import Derived.Test.YteaanoaldnnflaaKy
set_option linter.unusedVariables false
namespace Go.Proofs.Yteaanoaldnnflaa
open Go.RowKit
theorem or_swap (a b : Int) : bits .or .u32 a b = bits .or .u32 b a := by
  simp only [bits, BitVec.or_comm]
set_option maxHeartbeats 1000000 in
theorem rr2 (x : UInt32) (w : World) :
    Calls Try.prog 37 #[.int .u32 (x.toNat : Int), .int .i64 2] w fun e w' => e = .returned (.int .u32 ((rorW x 2).toNat : Int)) ∧ w' = w.drew := by
  have hx := x.toNat_lt
  have ho : bits BinOp.or IntKind.u32 ((x.toNat : Int) / 4) ((x.toNat : Int) * 1073741824 % 4294967296) = ((rorW x 2).toNat : Int) := (or_swap _ _).trans (or_ror x 2 1073741824 4 (by decide) (by decide))
  go_enter Try.func37, Try.ntmps37
  go_wp2_with fail
  go_region
  go_wp2_with fail
  go_ret
  exact ⟨rfl, rfl⟩
set_option maxHeartbeats 1000000 in
theorem rr6 (x : UInt32) (w : World) :
    Calls Try.prog 37 #[.int .u32 (x.toNat : Int), .int .i64 6] w fun e w' => e = .returned (.int .u32 ((rorW x 6).toNat : Int)) ∧ w' = w.drew := by
  have hx := x.toNat_lt
  have ho : bits BinOp.or IntKind.u32 ((x.toNat : Int) / 64) ((x.toNat : Int) * 67108864 % 4294967296) = ((rorW x 6).toNat : Int) := (or_swap _ _).trans (or_ror x 6 67108864 64 (by decide) (by decide))
  go_enter Try.func37, Try.ntmps37
  go_wp2_with fail
  go_region
  go_wp2_with fail
  go_ret
  exact ⟨rfl, rfl⟩
set_option maxHeartbeats 1000000 in
theorem rr7 (x : UInt32) (w : World) :
    Calls Try.prog 37 #[.int .u32 (x.toNat : Int), .int .i64 7] w fun e w' => e = .returned (.int .u32 ((rorW x 7).toNat : Int)) ∧ w' = w.drew := by
  have hx := x.toNat_lt
  have ho : bits BinOp.or IntKind.u32 ((x.toNat : Int) / 128) ((x.toNat : Int) * 33554432 % 4294967296) = ((rorW x 7).toNat : Int) := (or_swap _ _).trans (or_ror x 7 33554432 128 (by decide) (by decide))
  go_enter Try.func37, Try.ntmps37
  go_wp2_with fail
  go_region
  go_wp2_with fail
  go_ret
  exact ⟨rfl, rfl⟩
set_option maxHeartbeats 1000000 in
theorem rr11 (x : UInt32) (w : World) :
    Calls Try.prog 37 #[.int .u32 (x.toNat : Int), .int .i64 11] w fun e w' => e = .returned (.int .u32 ((rorW x 11).toNat : Int)) ∧ w' = w.drew := by
  have hx := x.toNat_lt
  have ho : bits BinOp.or IntKind.u32 ((x.toNat : Int) / 2048) ((x.toNat : Int) * 2097152 % 4294967296) = ((rorW x 11).toNat : Int) := (or_swap _ _).trans (or_ror x 11 2097152 2048 (by decide) (by decide))
  go_enter Try.func37, Try.ntmps37
  go_wp2_with fail
  go_region
  go_wp2_with fail
  go_ret
  exact ⟨rfl, rfl⟩
set_option maxHeartbeats 1000000 in
theorem rr13 (x : UInt32) (w : World) :
    Calls Try.prog 37 #[.int .u32 (x.toNat : Int), .int .i64 13] w fun e w' => e = .returned (.int .u32 ((rorW x 13).toNat : Int)) ∧ w' = w.drew := by
  have hx := x.toNat_lt
  have ho : bits BinOp.or IntKind.u32 ((x.toNat : Int) / 8192) ((x.toNat : Int) * 524288 % 4294967296) = ((rorW x 13).toNat : Int) := (or_swap _ _).trans (or_ror x 13 524288 8192 (by decide) (by decide))
  go_enter Try.func37, Try.ntmps37
  go_wp2_with fail
  go_region
  go_wp2_with fail
  go_ret
  exact ⟨rfl, rfl⟩
set_option maxHeartbeats 1000000 in
theorem rr17 (x : UInt32) (w : World) :
    Calls Try.prog 37 #[.int .u32 (x.toNat : Int), .int .i64 17] w fun e w' => e = .returned (.int .u32 ((rorW x 17).toNat : Int)) ∧ w' = w.drew := by
  have hx := x.toNat_lt
  have ho : bits BinOp.or IntKind.u32 ((x.toNat : Int) / 131072) ((x.toNat : Int) * 32768 % 4294967296) = ((rorW x 17).toNat : Int) := (or_swap _ _).trans (or_ror x 17 32768 131072 (by decide) (by decide))
  go_enter Try.func37, Try.ntmps37
  go_wp2_with fail
  go_region
  go_wp2_with fail
  go_ret
  exact ⟨rfl, rfl⟩
set_option maxHeartbeats 1000000 in
theorem rr18 (x : UInt32) (w : World) :
    Calls Try.prog 37 #[.int .u32 (x.toNat : Int), .int .i64 18] w fun e w' => e = .returned (.int .u32 ((rorW x 18).toNat : Int)) ∧ w' = w.drew := by
  have hx := x.toNat_lt
  have ho : bits BinOp.or IntKind.u32 ((x.toNat : Int) / 262144) ((x.toNat : Int) * 16384 % 4294967296) = ((rorW x 18).toNat : Int) := (or_swap _ _).trans (or_ror x 18 16384 262144 (by decide) (by decide))
  go_enter Try.func37, Try.ntmps37
  go_wp2_with fail
  go_region
  go_wp2_with fail
  go_ret
  exact ⟨rfl, rfl⟩
set_option maxHeartbeats 1000000 in
theorem rr19 (x : UInt32) (w : World) :
    Calls Try.prog 37 #[.int .u32 (x.toNat : Int), .int .i64 19] w fun e w' => e = .returned (.int .u32 ((rorW x 19).toNat : Int)) ∧ w' = w.drew := by
  have hx := x.toNat_lt
  have ho : bits BinOp.or IntKind.u32 ((x.toNat : Int) / 524288) ((x.toNat : Int) * 8192 % 4294967296) = ((rorW x 19).toNat : Int) := (or_swap _ _).trans (or_ror x 19 8192 524288 (by decide) (by decide))
  go_enter Try.func37, Try.ntmps37
  go_wp2_with fail
  go_region
  go_wp2_with fail
  go_ret
  exact ⟨rfl, rfl⟩
set_option maxHeartbeats 1000000 in
theorem rr22 (x : UInt32) (w : World) :
    Calls Try.prog 37 #[.int .u32 (x.toNat : Int), .int .i64 22] w fun e w' => e = .returned (.int .u32 ((rorW x 22).toNat : Int)) ∧ w' = w.drew := by
  have hx := x.toNat_lt
  have ho : bits BinOp.or IntKind.u32 ((x.toNat : Int) / 4194304) ((x.toNat : Int) * 1024 % 4294967296) = ((rorW x 22).toNat : Int) := (or_swap _ _).trans (or_ror x 22 1024 4194304 (by decide) (by decide))
  go_enter Try.func37, Try.ntmps37
  go_wp2_with fail
  go_region
  go_wp2_with fail
  go_ret
  exact ⟨rfl, rfl⟩
set_option maxHeartbeats 1000000 in
theorem rr25 (x : UInt32) (w : World) :
    Calls Try.prog 37 #[.int .u32 (x.toNat : Int), .int .i64 25] w fun e w' => e = .returned (.int .u32 ((rorW x 25).toNat : Int)) ∧ w' = w.drew := by
  have hx := x.toNat_lt
  have ho : bits BinOp.or IntKind.u32 ((x.toNat : Int) / 33554432) ((x.toNat : Int) * 128 % 4294967296) = ((rorW x 25).toNat : Int) := (or_swap _ _).trans (or_ror x 25 128 33554432 (by decide) (by decide))
  go_enter Try.func37, Try.ntmps37
  go_wp2_with fail
  go_region
  go_wp2_with fail
  go_ret
  exact ⟨rfl, rfl⟩
set_option maxHeartbeats 1000000 in
theorem four31 (x : UInt32) (w : World) :
    Calls Try.prog 31 #[.int .u32 (x.toNat : Int)] w fun e w' => e = .returned (.slice (some ⟨w.heap.size, 0, none⟩) 4 4) ∧ w' = w.alloc (.cells (bs (fourL x)) 5) := by
  have hx := x.toNat_lt
  have hf : bs (fourL x) = #[.int .u8 ((x.toNat : Int) / 16777216), .int .u8 ((x.toNat : Int) / 65536 % 256), .int .u8 ((x.toNat : Int) / 256 % 256), .int .u8 ((x.toNat : Int) % 256)] := by
    unfold bs; rw [fourL_get]
  rw [hf]
  go_enter Try.func31, Try.ntmps31
  go_wp2
  go_ret
  exact ⟨rfl, rfl⟩
end Go.Proofs.Yteaanoaldnnflaa
