/- What stands behind bytes; a state as text; two texts held against each other; a key turned; the tables. Condition: at most 2^47 bytes. -/
import Derived.Test.YteaanoaldnnflaaC
import Derived.Laws.Tables
import Derived.Laws.Rows
import Derived.BigQuiet
set_option linter.unusedVariables false
namespace Go.Proofs.Yteaanoaldnnflaa
open Go.RowKit

theorem app_ba (a b : List UInt8) : (⟨a.toArray⟩ : ByteArray) ++ ⟨b.toArray⟩ = ⟨(a ++ b).toArray⟩ := by
  apply ByteArray.ext; simp
theorem size_ba (s : List UInt8) : (⟨s.toArray⟩ : ByteArray).size = s.length := by simp [ByteArray.size]
theorem repeat_one (c : UInt8) (n : Nat) : Lib.repeatL [c] n = List.replicate n c := by
  induction n with
  | zero => rfl
  | succ n ih => simp_all [Lib.repeatL, List.replicate_succ]
theorem fourL_length (x : UInt32) : (fourL x).length = 4 := rfl
set_option maxHeartbeats 2000000 in
theorem behind_any (n : Nat) (hn : n ≤ 281474976710656) (w : World) :
    Calls Try.prog 19 #[.int .i64 n] w fun e w' => e = .returned (.string ⟨(behindL n).toArray⟩) ∧ Below w.heap.size w w' := by
  have hn1 : (n : Int) ≤ 281474976710656 := by omega
  have hn0 : (0 : Int) ≤ n := by omega
  obtain ⟨z, hz⟩ : ∃ z : Nat, z = (119 - n % 64) % 64 := ⟨_, rfl⟩
  have hz1 : z ≤ 63 := by omega
  have ez : (119 - (n : Int) % 64) % 64 = (z : Int) := by omega
  have eh : ((n : Int) * 8 / 4294967296) = ((UInt32.ofNat (n * 8 / 4294967296)).toNat : Int) := by
    rw [w_ofNat _ (by omega)]; omega
  have el : IntKind.u32.wrap ((n : Int) * 8) = ((UInt32.ofNat (n * 8)).toNat : Int) := by
    rw [IntKind.wrap_u32', UInt32.toNat_ofNat']; omega
  have HE : Hid (behindL n = 128 :: List.replicate z 0 ++ fourL (UInt32.ofNat (n * 8 / 4294967296)) ++ fourL (UInt32.ofNat (n * 8))) := Lib.hid (by unfold behindL; rw [hz])
  have HZ := Lib.hid hz
  clear hz
  have H1 := Lib.hid (four_any (UInt32.ofNat (n * 8 / 4294967296)))
  have H2 := Lib.hid (four_any (UInt32.ofNat (n * 8)))
  have L1 := fourL_length (UInt32.ofNat (n * 8 / 4294967296))
  have L2 := fourL_length (UInt32.ofNat (n * 8))
  generalize fourL (UInt32.ofNat (n * 8 / 4294967296)) = X1 at H1 HE L1
  generalize fourL (UInt32.ofNat (n * 8)) = X2 at H2 HE L2
  have S1 := size_ba X1
  have S2 := size_ba X2
  have l1 : X1.length ≤ 4 := by omega
  have l2 : X2.length ≤ 4 := by omega
  clear L1 L2
  generalize hy1 : UInt32.ofNat (n * 8 / 4294967296) = y1 at eh H1
  generalize hy2 : UInt32.ofNat (n * 8) = y2 at el H2
  clear hy1 hy2
  have HR := Lib.hid (Try.strings_Repeat ⟨#[0]⟩ z)
  have er : Lib.repeatL (⟨#[0]⟩ : ByteArray).data.toList z = List.replicate z 0 := repeat_one 0 z
  rw [er] at HR
  have lR : (List.replicate z (0 : UInt8)).length ≤ 63 := by rw [List.length_replicate]; exact hz1
  have a1 : (⟨#[128]⟩ : ByteArray) ++ ⟨(List.replicate z (0 : UInt8)).toArray⟩ = ⟨(128 :: List.replicate z 0).toArray⟩ := app_ba [128] _
  have a2 := app_ba (128 :: List.replicate z 0) X1
  have a3 := app_ba (128 :: List.replicate z 0 ++ X1) X2
  clear er
  generalize List.replicate z (0 : UInt8) = R at HR a1 a2 a3 lR HE
  rw [HE.out]
  clear HE HZ
  go_enter Try.func19, Try.ntmps19
  go_wp2_with fail
  refine (HR.out _ (by omega) (by show 1 * z ≤ _; omega)).mono ?_
  rintro e w1 ⟨rfl, b1⟩
  go_wp2_with fail
  refine (H1.out _).mono ?_
  rintro e w2 ⟨rfl, b2⟩
  go_wp2_with fail
  refine (H2.out _).mono ?_
  rintro e w3 ⟨rfl, b3⟩
  go_wp2_with fail
  go_ret
  exact ⟨rfl, (b1.trans (b2.mono b1.size)).trans (b3.mono (by have := b1.size; have := b2.size; omega))⟩
set_option maxHeartbeats 1000000 in
theorem byteAt_any (s : List UInt8) (i : Nat) (hi : i ≤ 140737488355328) (w : World) :
    Calls Try.prog 32 #[.string ⟨s.toArray⟩, .int .i64 i] w fun e w' => e = .returned (.int .u8 ((s.getD i 0).toNat : Int)) ∧ w = w' := by
  have hsz : (⟨s.toArray⟩ : ByteArray).size = s.length := by simp [ByteArray.size]
  by_cases h : i < s.length
  · have hg : s.getD i 0 = s[i] := by simp [List.getD, h]
    rw [hg]
    clear hg
    go_enter Try.func32, Try.ntmps32
    go_wp2_with fail
    go_ret
    exact ⟨rfl, rfl⟩
  · have hg : s.getD i 0 = 0 := by simp [List.getD, h]
    rw [hg]
    clear hg
    go_enter Try.func32, Try.ntmps32
    go_wp2_with fail
    go_ret
    exact ⟨rfl, rfl⟩
end Go.Proofs.Yteaanoaldnnflaa
