/- DERIVED: THE SHELF's CONTRACTS AT THIS DUMP, IN PLAIN WORDS (tools/lay-plain.mjs out of 'TryzShelf.lean', which tools/lay-shelf.mjs wrote): THE SAME DECLARATIONS UNDER THE SAME NAMES: 'import', 'namespace', 'open', 'def', 'theorem' AND NOTHING ELSE: no command of the shelf's: FOR A HAND-IN. Each laying: the table of numbers ('.._ren') and one theorem, a field a fact of the dump's own or the kernel -/
import Derived.Shelf.Strings.Builder1
import Derived.Shelf.Strings.Builder2
import Derived.Shelf.Small.Bits
import Derived.Shelf.Strings.BuilderF
import Derived.Shelf.Strings.BuilderK
import Derived.Shelf.Strings.Builder2Cap
import Derived.Shelf.Strconv.Itoa0
import Derived.Shelf.LaysM
import Derived.Shelf.Strconv.Clone
import Derived.Shelf.Strings.Prefix
import Derived.Shelf.Bits.Mul64
import Derived.Shelf.Strings.Repeat
import Derived.Shelf.Strings.BuilderCap
import Derived.Test.YtpggkfdijmnmiaaGreatProg
import Derived.Test.YtpggkfdijmnmiaaGreatZuf00
set_option linter.unusedVariables false
set_option linter.unusedSimpArgs false
set_option maxRecDepth 100000
namespace Go.Proofs
open Go.Shelf
def Tryz.lays169_ren : Go.Shelf.Ren := ⟨fun | 169 => 165 | n => n, fun | 70 => 186 | 9 => 9 | 0 => 0 | 72 => 188 | 37 => 101 | 127 => 192 | 3 => 3 | 5 => 5 | n => n, fun | n => n⟩
theorem Tryz.lays169 : Go.Proofs.Lays.n169 Tryz.prog Tryz.lays169_ren := {
  mixed := by kernel_rfl
  f169 := Tryz.func165.trans (congrArg some (by kernel_rfl))
  t0 := Tryz.underlying0
  a0 := Tryz.isAgg0
  z0 := Tryz.sizeOf0
  v0 := Tryz.zeroValue0
  t3 := Tryz.underlying3
  a3 := Tryz.isAgg3
  z3 := Tryz.sizeOf3
  v3 := Tryz.zeroValue3
  t9 := Tryz.underlying9
  a9 := Tryz.isAgg9
  z9 := Tryz.sizeOf9
  v9 := Tryz.zeroValue9
  t37 := Tryz.underlying101
  a37 := Tryz.isAgg101
  z37 := Tryz.sizeOf101
  v37 := Tryz.zeroValue101
  t70 := Tryz.underlying186
  a70 := Tryz.isAgg186
  z70 := Tryz.sizeOf186
  v70 := Tryz.zeroValue186
  t72 := Tryz.underlying188
  a72 := Tryz.isAgg188
  z72 := Tryz.sizeOf188
  v72 := Tryz.zeroValue188
  t127 := Tryz.underlying192
  a127 := Tryz.isAgg192
  z127 := Tryz.sizeOf192
  v127 := Tryz.zeroValue192 }
theorem Tryz.Builder_Extra_169 : Builder.Extra Tryz.prog Tryz.lays169_ren := {
  sizeBuilder := by kernel_rfl
  liesBuilder := by kernel_rfl
  t5 := Tryz.underlying5
  a5 := Tryz.isAgg5
  z5 := Tryz.sizeOf5
  v5 := Tryz.zeroValue5
  infoByte := by kernel_rfl
  cellsByte := by kernel_rfl
  sizeByte := by kernel_rfl
  neB5 := by decide }
open Go.RowKit in
theorem Tryz.Builder_String_any_k (B b : Nat) (l : List UInt8) (w : World) (h : Lib.IsBuilderF 188 5 B b (Lib.byteCells l) w) (hBw : B ≤ w.heap.size) :
    Calls Tryz.prog 165 #[.pointer (some ⟨b, 0, none⟩)] w fun e w' => e = .returned (.string ⟨l.toArray⟩) ∧ (Lib.IsBuilderF 188 5 B b (Lib.byteCells l) w' ∧ Below B w w' ∧ Lib.OthersKept 5 (some b) w w') := Any.Builder_String_any_k Tryz.lays169 Tryz.Builder_Extra_169 B b l w h hBw
def Tryz.laysM316_ren : Go.Shelf.Ren := ⟨fun | 316 => 136 | n => n, fun | 9 => 9 | 3 => 3 | 4 => 4 | 37 => 101 | 0 => 0 | 127 => 192 | 5 => 5 | n => n, fun | n => n⟩
theorem Tryz.laysM316 : Go.Proofs.LaysM.n316 Tryz.prog Tryz.laysM316_ren := {
  mixed := by kernel_rfl
  f316 := Tryz.func136.trans (congrArg some (by kernel_rfl))
  t0 := Tryz.underlying0
  a0 := Tryz.isAgg0
  z0 := Tryz.sizeOf0
  v0 := Tryz.zeroValue0
  t3 := Tryz.underlying3
  a3 := Tryz.isAgg3
  z3 := Tryz.sizeOf3
  v3 := Tryz.zeroValue3
  t4 := Tryz.underlying4
  a4 := Tryz.isAgg4
  z4 := Tryz.sizeOf4
  v4 := Tryz.zeroValue4
  t9 := Tryz.underlying9
  a9 := Tryz.isAgg9
  z9 := Tryz.sizeOf9
  v9 := Tryz.zeroValue9
  t37 := Tryz.underlying101
  a37 := Tryz.isAgg101
  z37 := Tryz.sizeOf101
  v37 := Tryz.zeroValue101
  t127 := Tryz.underlying192
  a127 := Tryz.isAgg192
  z127 := Tryz.sizeOf192
  v127 := Tryz.zeroValue192
  t5 := Tryz.underlying5
  a5 := Tryz.isAgg5
  z5 := Tryz.sizeOf5
  v5 := Tryz.zeroValue5
  i0 := by kernel_rfl
  i3 := by kernel_rfl
  i4 := by kernel_rfl
  i5 := by kernel_rfl
  i9 := by kernel_rfl
  i37 := by kernel_rfl
  i127 := by kernel_rfl }
open Go.RowKit in
theorem Tryz.stringslite_Clone (s : ByteArray) (w : World) (hlim : s.size ≤ 281474976710656) :
    Calls Tryz.prog 136 #[.string s] w fun e w' => e = .returned (.string s) ∧ Below w.heap.size w w' := Any.stringslite_Clone Tryz.laysM316 s w hlim
def Tryz.lays264_ren : Go.Shelf.Ren := ⟨fun | 264 => 186 | n => n, fun | 53 => 22 | 46 => 154 | n => n, fun | n => n⟩
theorem Tryz.lays264 : Go.Proofs.Lays.n264 Tryz.prog Tryz.lays264_ren := {
  mixed := by kernel_rfl
  f264 := Tryz.func186.trans (congrArg some (by kernel_rfl))
  t46 := Tryz.underlying154
  a46 := Tryz.isAgg154
  z46 := Tryz.sizeOf154
  v46 := Tryz.zeroValue154
  t53 := Tryz.underlying22
  a53 := Tryz.isAgg22
  z53 := Tryz.sizeOf22
  v53 := Tryz.zeroValue22 }
open Go.RowKit Go.Lib in
theorem Tryz.bits_Mul64 (x y : Nat) (hx : x < 18446744073709551616) (hy : y < 18446744073709551616) (w : World) :
    Calls Tryz.prog 186 #[.int .u64 x, .int .u64 y] w fun e w' => e = .returned (.tuple #[.int .u64 ((x * y / 18446744073709551616 : Nat) : Int), .int .u64 ((x * y % 18446744073709551616 : Nat) : Int)]) ∧ w' = w := Any.bits_Mul64 Tryz.lays264 x y hx hy w
def Tryz.lays105_ren : Go.Shelf.Ren := ⟨fun | 105 => 150 | 212 => 174 | 99 => 175 | 165 => 176 | 166 => 173 | 170 => 177 | 169 => 165 | 263 => 196 | 264 => 186 | 206 => 197 | 240 => 187 | 241 => 198 | 276 => 200 | 277 => 206 | n => n, fun | 9 => 9 | 3 => 3 | 4 => 4 | 20 => 20 | 0 => 0 | 46 => 154 | 109 => 200 | 5 => 5 | 72 => 188 | 76 => 198 | 51 => 111 | 146 => 222 | 53 => 22 | 148 => 183 | 70 => 186 | 37 => 101 | 75 => 190 | 127 => 192 | 164 => 225 | 80 => 124 | n => n, fun | n => n⟩
theorem Tryz.lays105 : Go.Proofs.Lays.n105 Tryz.prog Tryz.lays105_ren := {
  mixed := by kernel_rfl
  f99 := Tryz.func175.trans (congrArg some (by kernel_rfl))
  f105 := Tryz.func150.trans (congrArg some (by kernel_rfl))
  f165 := Tryz.func176.trans (congrArg some (by kernel_rfl))
  f166 := Tryz.func173.trans (congrArg some (by kernel_rfl))
  f169 := Tryz.func165.trans (congrArg some (by kernel_rfl))
  f170 := Tryz.func177.trans (congrArg some (by kernel_rfl))
  f206 := Tryz.func197.trans (congrArg some (by kernel_rfl))
  f212 := Tryz.func174.trans (congrArg some (by kernel_rfl))
  f240 := Tryz.func187.trans (congrArg some (by kernel_rfl))
  f241 := Tryz.func198.trans (congrArg some (by kernel_rfl))
  f263 := Tryz.func196.trans (congrArg some (by kernel_rfl))
  f264 := Tryz.func186.trans (congrArg some (by kernel_rfl))
  f276 := Tryz.func200.trans (congrArg some (by kernel_rfl))
  f277 := Tryz.func206.trans (congrArg some (by kernel_rfl))
  t0 := Tryz.underlying0
  a0 := Tryz.isAgg0
  z0 := Tryz.sizeOf0
  v0 := Tryz.zeroValue0
  t3 := Tryz.underlying3
  a3 := Tryz.isAgg3
  z3 := Tryz.sizeOf3
  v3 := Tryz.zeroValue3
  t4 := Tryz.underlying4
  a4 := Tryz.isAgg4
  z4 := Tryz.sizeOf4
  v4 := Tryz.zeroValue4
  t5 := Tryz.underlying5
  a5 := Tryz.isAgg5
  z5 := Tryz.sizeOf5
  v5 := Tryz.zeroValue5
  t9 := Tryz.underlying9
  a9 := Tryz.isAgg9
  z9 := Tryz.sizeOf9
  v9 := Tryz.zeroValue9
  t20 := Tryz.underlying20
  a20 := Tryz.isAgg20
  z20 := Tryz.sizeOf20
  v20 := Tryz.zeroValue20
  t37 := Tryz.underlying101
  a37 := Tryz.isAgg101
  z37 := Tryz.sizeOf101
  v37 := Tryz.zeroValue101
  t46 := Tryz.underlying154
  a46 := Tryz.isAgg154
  z46 := Tryz.sizeOf154
  v46 := Tryz.zeroValue154
  t51 := Tryz.underlying111
  a51 := Tryz.isAgg111
  z51 := Tryz.sizeOf111
  v51 := Tryz.zeroValue111
  t53 := Tryz.underlying22
  a53 := Tryz.isAgg22
  z53 := Tryz.sizeOf22
  v53 := Tryz.zeroValue22
  t70 := Tryz.underlying186
  a70 := Tryz.isAgg186
  z70 := Tryz.sizeOf186
  v70 := Tryz.zeroValue186
  t72 := Tryz.underlying188
  a72 := Tryz.isAgg188
  z72 := Tryz.sizeOf188
  v72 := Tryz.zeroValue188
  t75 := Tryz.underlying190
  a75 := Tryz.isAgg190
  z75 := Tryz.sizeOf190
  v75 := Tryz.zeroValue190
  t76 := Tryz.underlying198
  a76 := Tryz.isAgg198
  z76 := Tryz.sizeOf198
  v76 := Tryz.zeroValue198
  t109 := Tryz.underlying200
  a109 := Tryz.isAgg200
  z109 := Tryz.sizeOf200
  v109 := Tryz.zeroValue200
  t127 := Tryz.underlying192
  a127 := Tryz.isAgg192
  z127 := Tryz.sizeOf192
  v127 := Tryz.zeroValue192
  t146 := Tryz.underlying222
  a146 := Tryz.isAgg222
  z146 := Tryz.sizeOf222
  v146 := Tryz.zeroValue222
  t148 := Tryz.underlying183
  a148 := Tryz.isAgg183
  z148 := Tryz.sizeOf183
  v148 := Tryz.zeroValue183
  t164 := Tryz.underlying225
  a164 := Tryz.isAgg225
  z164 := Tryz.sizeOf225
  v164 := Tryz.zeroValue225 }
theorem Tryz.Builder_Extra_105 : Builder.Extra Tryz.prog Tryz.lays105_ren := {
  sizeBuilder := by kernel_rfl
  liesBuilder := by kernel_rfl
  t5 := Tryz.underlying5
  a5 := Tryz.isAgg5
  z5 := Tryz.sizeOf5
  v5 := Tryz.zeroValue5
  infoByte := by kernel_rfl
  cellsByte := by kernel_rfl
  sizeByte := by kernel_rfl
  neB5 := by decide }
open Go.RowKit Go.Lib in
theorem Tryz.strings_Repeat (s : ByteArray) (c : Nat) (w : World) (hc : c ≤ 9223372036854775807) (hlen : s.size * c ≤ 140737488355328) :
    Calls Tryz.prog 150 #[.string s, .int .i64 c] w fun e w' => e = .returned (.string ⟨(Lib.repeatL s.data.toList c).toArray⟩) ∧ Below w.heap.size w w' := Any.strings_Repeat Tryz.lays105 Tryz.Builder_Extra_105 s c w hc hlen
end Go.Proofs
namespace Go.Proofs.YtpggkfdijmnmiaaGreat
open Go.RowKit Limbs
set_option maxHeartbeats 4000000 in
theorem times_any {a b c d : Nat} (ha : a < 18446744073709551616) (hb : b < 18446744073709551616) (hc : c < 18446744073709551616) (hd : d < 18446744073709551616) (w : World) :
    Calls Tryz.prog 161 #[.int .u64 (a : Int), .int .u64 (b : Int), .int .u64 (c : Int), .int .u64 (d : Int)] w fun e w' => (∃ l h : Nat, l < 18446744073709551616 ∧ h < 18446744073709551616 ∧ l + 18446744073709551616 * h = a * b + c + d ∧ e = .returned (.tuple #[.int .u64 (l : Int), .int .u64 (h : Int)])) ∧ w' = w := by
  have hm := Lib.hid (Tryz.bits_Mul64 a b ha hb)
  have hP : a * b ≤ 18446744073709551615 * 18446744073709551615 := Nat.mul_le_mul (by omega) (by omega)
  generalize a * b = P at *
  have hL : P % 18446744073709551616 < 18446744073709551616 := by omega
  have hPE : P % 18446744073709551616 + 18446744073709551616 * (P / 18446744073709551616) = P := by omega
  generalize P % 18446744073709551616 = L at *
  generalize P / 18446744073709551616 = H at *
  obtain ⟨s0, c0, hs0, hc0, e0, k0⟩ := add64 L c 0 (by omega) hL hc
  obtain ⟨s1, c1, hs1, hc1, e1, k1⟩ := add64 s0 d 0 (by omega) hs0 hd
  rw [show ((0 : Nat) : Int) = 0 from rfl] at k0 k1
  have HF : Hid (s1 < 18446744073709551616 ∧ H + c0 + c1 < 18446744073709551616 ∧ s1 + 18446744073709551616 * (H + c0 + c1) = P + c + d) := Lib.hid ⟨hs1, by omega, by omega⟩
  have w1 : IntKind.u64.wrap ((H : Int) + c0) = ((H + c0 : Nat) : Int) := by rw [IntKind.wrap_u64]; omega
  have w2 : IntKind.u64.wrap (((H + c0 : Nat) : Int) + c1) = ((H + c0 + c1 : Nat) : Int) := by rw [IntKind.wrap_u64]; omega
  generalize hx : H + c0 = X at *
  generalize hy : X + c1 = Y at *
  clear hs0 hc0 hs1 hc1 e0 e1 hL hPE hP ha hb hc hd hx hy
  go_enter Tryz.func161, Tryz.ntmps161
  go_wp2_with fail
  refine (hm.out _).mono ?_
  rintro e w' ⟨rfl, rfl⟩
  go_wp2_with fail
  go_ret2
  exact ⟨⟨s1, Y, HF.out.1, HF.out.2.1, HF.out.2.2, rfl⟩, rfl⟩
end Go.Proofs.YtpggkfdijmnmiaaGreat
namespace Go.Proofs.YtpggkfdijmnmiaaGreat
open Go.RowKit Limbs
set_option maxHeartbeats 4000000 in
theorem lz_P (w : World) : Calls Tryz.prog 199 #[.int .u64 18446744069414584321] w fun e w' => e = .returned (.int .i64 0) ∧ w' = w := by
  go_enter Tryz.func199, Tryz.ntmps199
  go_wp2_with fail
  refine (show Calls Tryz.prog 207 #[.int .u64 18446744069414584321] w fun e w' => e = .returned (.int .i64 64) ∧ w' = w from ?_).mono ?_
  · go_enter Tryz.func207, Tryz.ntmps207
    go_wp2_with fail
    go_ret
    exact ⟨by kernel_rfl, rfl⟩
  rintro e w' ⟨rfl, rfl⟩
  go_wp2_with fail
  go_ret
  exact ⟨rfl, rfl⟩
set_option maxHeartbeats 4000000 in
theorem lz_N (w : World) : Calls Tryz.prog 199 #[.int .u64 18446744069414584320] w fun e w' => e = .returned (.int .i64 0) ∧ w' = w := by
  go_enter Tryz.func199, Tryz.ntmps199
  go_wp2_with fail
  refine (show Calls Tryz.prog 207 #[.int .u64 18446744069414584320] w fun e w' => e = .returned (.int .i64 64) ∧ w' = w from ?_).mono ?_
  · go_enter Tryz.func207, Tryz.ntmps207
    go_wp2_with fail
    go_ret
    exact ⟨by kernel_rfl, rfl⟩
  rintro e w' ⟨rfl, rfl⟩
  go_wp2_with fail
  go_ret
  exact ⟨rfl, rfl⟩
theorem half_P (x u : Nat) (hx : x < 18446744069414584321) (hu : u < 4294967296) :
    (¬ 4294967296 ≤ x / 4294967295 → ¬ 4294967296 * (x % 4294967295) + u < x / 4294967295 → (x * 4294967296 + u) / 18446744069414584321 = x / 4294967295) ∧ (4294967296 ≤ x / 4294967295 ∨ 4294967296 * (x % 4294967295) + u < x / 4294967295 → x % 4294967295 = 0 ∧ u < x / 4294967295 ∧ (x * 4294967296 + u) / 18446744069414584321 = x / 4294967295 - 1) := by
  have ex : x = 4294967295 * (x / 4294967295) + x % 4294967295 := (Nat.div_add_mod x 4294967295).symm
  have hr : x % 4294967295 < 4294967295 := Nat.mod_lt _ (by decide)
  generalize x / 4294967295 = q at *
  generalize x % 4294967295 = r at *
  subst ex
  refine ⟨fun h1 h2 => ?_, fun h => ⟨by omega, by omega, ?_⟩⟩
  · rw [Nat.div_eq_iff (by decide)]; omega
  · rw [Nat.div_eq_iff (by decide)]; omega
theorem long_div (h l D : Nat) (hD : 0 < D) : (h * 18446744073709551616 + l) / D = (h * 4294967296 + l / 4294967296) / D * 4294967296 + ((h * 4294967296 + l / 4294967296) % D * 4294967296 + l % 4294967296) / D := by
  have e : h * 18446744073709551616 + l = ((h * 4294967296 + l / 4294967296) % D * 4294967296 + l % 4294967296) + (h * 4294967296 + l / 4294967296) / D * 4294967296 * D := by
    have e1 := Nat.div_add_mod (h * 4294967296 + l / 4294967296) D
    have e2 : (h * 4294967296 + l / 4294967296) / D * 4294967296 * D = D * ((h * 4294967296 + l / 4294967296) / D) * 4294967296 := by rw [Nat.mul_right_comm, Nat.mul_comm ((h * 4294967296 + l / 4294967296) / D) D]
    rw [e2]
    generalize D * ((h * 4294967296 + l / 4294967296) / D) = A at *
    generalize (h * 4294967296 + l / 4294967296) % D = C at *
    omega
  conv => lhs; rw [e]
  rw [Nat.add_mul_div_right _ _ hD, Nat.add_comm]
theorem half_N (x u : Nat) (hx : x < 18446744069414584320) (hu : u < 4294967296) : x / 4294967295 < 4294967296 ∧ (x * 4294967296 + u) / 18446744069414584320 = x / 4294967295 := by
  have ex : x = 4294967295 * (x / 4294967295) + x % 4294967295 := (Nat.div_add_mod x 4294967295).symm
  have hr : x % 4294967295 < 4294967295 := Nat.mod_lt _ (by decide)
  generalize x / 4294967295 = q at *
  generalize x % 4294967295 = r at *
  subst ex
  refine ⟨by omega, ?_⟩
  rw [Nat.div_eq_iff (by decide)]; omega
theorem and_one : bits .and .u64 18446744069414584321 4294967295 = 1 := by decide +kernel
theorem and_nil : bits .and .u64 18446744069414584320 4294967295 = 0 := by decide +kernel
theorem or_nil (h : Nat) (hh : h < 18446744073709551616) : bits .or .u64 (h : Int) 0 = (h : Int) := by
  have := bits_or_u64_nat h 0 hh (by decide)
  simpa using this
set_option maxHeartbeats 8000000 in
theorem div_P (h l : Nat) (hh : h < 18446744069414584321) (hl : l < 18446744073709551616) (w : World) :
    Calls Tryz.prog 185 #[.int .u64 (h : Int), .int .u64 (l : Int), .int .u64 18446744069414584321] w fun e w' => (∃ r : Value, e = .returned (.tuple #[.int .u64 (((h * 18446744073709551616 + l) / 18446744069414584321 : Nat) : Int), r])) ∧ Below w.heap.size w w' := by
  by_cases h0 : h = 0
  · subst h0
    go_enter Tryz.func185, Tryz.ntmps185
    go_wp2_with fail
    go_region
    go_wp2_with fail
    go_ret2
    exact ⟨⟨.int .u64 ((l : Int) % 18446744069414584321), by simp⟩, by go_grown⟩
  · have t1 : ((h : Int) == 0) = false := by simp; omega
    have t2 : decide ((18446744069414584321 : Int) ≤ (h : Int)) = false := by simp; omega
    have HPH := Lib.hid (half_P h (l / 4294967296) hh (by omega))
    have HFIN := Lib.hid (long_div h l 18446744069414584321 (by decide))
    have hX : (h * 4294967296 + l / 4294967296) % 18446744069414584321 < 18446744069414584321 := Nat.mod_lt _ (by decide)
    have HXE := Lib.hid (Nat.div_add_mod' (h * 4294967296 + l / 4294967296) 18446744069414584321).symm
    obtain ⟨u1, hu1⟩ : ∃ u, u = l / 4294967296 := ⟨_, rfl⟩
    obtain ⟨u0, hu0⟩ : ∃ u, u = l % 4294967296 := ⟨_, rfl⟩
    obtain ⟨q, hq⟩ : ∃ u, u = h / 4294967295 := ⟨_, rfl⟩
    obtain ⟨r, hr⟩ : ∃ u, u = h % 4294967295 := ⟨_, rfl⟩
    obtain ⟨M, hM⟩ : ∃ u, u = q * 4294967295 := ⟨_, rfl⟩
    rw [← hu1, ← hu0] at HFIN
    rw [← hu1] at HPH HXE hX
    rw [← hq, ← hr] at HPH
    have a1 : IntKind.u64.wrap (h : Int) = (h : Int) := by rw [IntKind.wrap_u64]; omega
    have a2 : (l : Int) / 18446744073709551616 = 0 := by omega
    have a4 : IntKind.u64.wrap (l : Int) = (l : Int) := by rw [IntKind.wrap_u64]; omega
    have a5 : (l : Int) / 4294967296 = (u1 : Int) := by omega
    have a8 : (h : Int).tdiv 4294967295 = (q : Int) := by rw [Int.tdiv_eq_ediv_of_nonneg (by omega)]; omega
    have a9 : IntKind.u64.wrap (q : Int) = (q : Int) := by rw [IntKind.wrap_u64]; omega
    have a10 : IntKind.u64.wrap ((q : Int) * 4294967295) = (M : Int) := by rw [IntKind.wrap_u64]; omega
    have a11 : IntKind.u64.wrap ((h : Int) - (M : Int)) = (r : Int) := by rw [IntKind.wrap_u64]; omega
    have a3 := or_nil h (by omega)
    have a6 : bits .and .u64 (l : Int) 4294967295 = (u0 : Int) := by rw [Mul64.maskN l hl, ← hu0]
    have a7 := and_one
    have HU : Hid (u1 < 4294967296 ∧ u0 < 4294967296 ∧ r < 4294967295 ∧ q ≤ 4294967296 ∧ h = q * 4294967295 + r ∧ h < 18446744069414584321) := Lib.hid ⟨by omega, by omega, by omega, by omega, by omega, hh⟩
    have HX := Lib.hid hX
    obtain ⟨FF, hFF⟩ : ∃ z, z = (h * 18446744073709551616 + l) / 18446744069414584321 := ⟨_, rfl⟩
    rw [← hFF]
    have HFF := Lib.hid hFF
    clear hFF
    clear hh hl h0 hu1 hu0 hq hr hM hX
    go_enter Tryz.func185, Tryz.ntmps185
    go_wp2_with fail
    refine (lz_P w).mono ?_
    rintro e w' ⟨rfl, rfl⟩
    go_wp2_with fail
    obtain ⟨g1, g2, g3, g4, g5, g6⟩ := HU.out
    obtain ⟨Q1, hQ1⟩ : ∃ z, z = (h * 4294967296 + u1) / 18446744069414584321 := ⟨_, rfl⟩
    obtain ⟨X, hX⟩ : ∃ z, z = (h * 4294967296 + u1) % 18446744069414584321 := ⟨_, rfl⟩
    have k1 := HXE.out
    have k2 := HX.out
    have k3 := HPH.out
    have k4 := HFIN.out
    rw [← hQ1, ← hX] at k1 k4
    rw [← hX] at k2
    rw [← hQ1] at k3
    have HP1 := Lib.hid k3
    have HP2 := Lib.hid (half_P X u0 k2 g2)
    obtain ⟨q2, hq2⟩ : ∃ z, z = X / 4294967295 := ⟨_, rfl⟩
    obtain ⟨r2, hr2⟩ : ∃ z, z = X % 4294967295 := ⟨_, rfl⟩
    obtain ⟨Q0, hQ0⟩ : ∃ z, z = (X * 4294967296 + u0) / 18446744069414584321 := ⟨_, rfl⟩
    rw [← hq2, ← hr2, ← hQ0] at HP2
    rw [← hQ0] at k4
    have g7 : r2 < 4294967295 := by omega
    have g8 : q2 ≤ 4294967296 := by omega
    have g9 : X = q2 * 4294967295 + r2 := by omega
    have g10 : Q0 < 4294967296 := by rw [hQ0]; exact (Nat.div_lt_iff_lt_mul (by decide)).2 (by omega)
    have g11 : Q1 < 4294967296 := by rw [hQ1]; exact (Nat.div_lt_iff_lt_mul (by decide)).2 (by omega)
    have HK4 := Lib.hid k4
    clear k3 k4 hQ1 hX hQ0 hq2 hr2 HPH HXE HX HFIN HU a1 a2 a3 a4 a5 a6 a7 a8 a9 a10 a11 t1 t2
    have HG := Lib.hid (And.intro g1 (And.intro g2 (And.intro g3 (And.intro g4 (And.intro g5 (And.intro g6 (And.intro g7 (And.intro g8 (And.intro g9 (And.intro g10 (And.intro g11 (And.intro k1 k2))))))))))))
    clear g1 g2 g3 g4 g5 g6 g7 g8 g9 g10 g11 k1 k2
    by_cases c1 : 4294967296 ≤ q
    · obtain ⟨g1, g2, g3, g4, g5, g6, g7, g8, g9, g10, g11, k1, k2⟩ := HG.out
      obtain ⟨hr0, hlt, hQ⟩ := HP1.out.2 (.inl c1)
      obtain ⟨R3, hR3⟩ : ∃ z, z = 18446744069414584320 + u1 := ⟨_, rfl⟩
      have b1 : IntKind.u64.wrap ((q : Int) - 1) = (Q1 : Int) := by rw [IntKind.wrap_u64]; omega
      have b2 : IntKind.u64.wrap ((r : Int) + 4294967295) = 4294967295 := by rw [IntKind.wrap_u64]; omega
      have b3 : decide ((4294967296 : Int) ≤ (q : Int)) = true := by simp; omega
      have b4 : IntKind.u64.wrap ((18446744069414584320 : Int) + (u1 : Int)) = (R3 : Int) := by rw [IntKind.wrap_u64]; omega
      have b5 : decide ((4294967296 : Int) ≤ (Q1 : Int)) = false := by simp; omega
      have b6 : decide (R3 < Q1) = false := by simp; omega
      have b7 : IntKind.u64.wrap (Q1 : Int) = (Q1 : Int) := by rw [IntKind.wrap_u64]; omega
      clear hR3
      refine wp_loop_rounds 2 ?_
      rw [rounds_succ]
      obtain ⟨H1, hH1⟩ : ∃ z, z = h * 4294967296 % 18446744073709551616 := ⟨_, rfl⟩
      obtain ⟨H2, hH2⟩ : ∃ z, z = (H1 + u1) % 18446744073709551616 := ⟨_, rfl⟩
      obtain ⟨H3, hH3⟩ : ∃ z, z = Q1 * 18446744069414584321 % 18446744073709551616 := ⟨_, rfl⟩
      obtain ⟨M2, hM2⟩ : ∃ z, z = q2 * 4294967295 := ⟨_, rfl⟩
      have d1 : IntKind.u64.wrap ((h : Int) * 4294967296) = (H1 : Int) := by rw [IntKind.wrap_u64]; omega
      have d2 : IntKind.u64.wrap ((H1 : Int) + (u1 : Int)) = (H2 : Int) := by rw [IntKind.wrap_u64]; omega
      have d3 : IntKind.u64.wrap ((Q1 : Int) * 18446744069414584321) = (H3 : Int) := by rw [IntKind.wrap_u64]; omega
      have d4 : IntKind.u64.wrap ((H2 : Int) - (H3 : Int)) = (X : Int) := by rw [IntKind.wrap_u64]; omega
      have d5 : (X : Int).tdiv 4294967295 = (q2 : Int) := by rw [Int.tdiv_eq_ediv_of_nonneg (by omega)]; omega
      have d6 : IntKind.u64.wrap ((q2 : Int)) = (q2 : Int) := by rw [IntKind.wrap_u64]; omega
      have d7 : IntKind.u64.wrap ((q2 : Int) * 4294967295) = (M2 : Int) := by rw [IntKind.wrap_u64]; omega
      have d8 : IntKind.u64.wrap ((X : Int) - (M2 : Int)) = (r2 : Int) := by rw [IntKind.wrap_u64]; omega
      clear hH1 hH2 hH3 hM2
      clear c1 g1 g2 g3 g4 g5 g6 g7 g8 g9 g10 g11 k1 k2 hr0 hlt hQ
      go_wp2_with fail
      rw [rounds_succ]
      go_wp2_with fail
      clear b1 b2 b3 b4 b5 b6 b7 d1 d2 d3 d4 d5 d6 d7 d8
      by_cases c1 : 4294967296 ≤ q2
      · obtain ⟨g1, g2, g3, g4, g5, g6, g7, g8, g9, g10, g11, k1, k2⟩ := HG.out
        obtain ⟨hr0, hlt, hQ⟩ := HP2.out.2 (.inl c1)
        obtain ⟨R3, hR3⟩ : ∃ z, z = 18446744069414584320 + u0 := ⟨_, rfl⟩
        have b1 : IntKind.u64.wrap ((q2 : Int) - 1) = (Q0 : Int) := by rw [IntKind.wrap_u64]; omega
        have b2 : IntKind.u64.wrap ((r2 : Int) + 4294967295) = 4294967295 := by rw [IntKind.wrap_u64]; omega
        have b3 : decide ((4294967296 : Int) ≤ (q2 : Int)) = true := by simp; omega
        have b4 : IntKind.u64.wrap ((18446744069414584320 : Int) + (u0 : Int)) = (R3 : Int) := by rw [IntKind.wrap_u64]; omega
        have b5 : decide ((4294967296 : Int) ≤ (Q0 : Int)) = false := by simp; omega
        have b6 : decide (R3 < Q0) = false := by simp; omega
        have b7 : IntKind.u64.wrap (Q0 : Int) = (Q0 : Int) := by rw [IntKind.wrap_u64]; omega
        clear hR3
        refine wp_loop_rounds 2 ?_
        rw [rounds_succ]
        obtain ⟨F1, hF1⟩ : ∃ z, z = Q1 * 4294967296 := ⟨_, rfl⟩
        have d1 : IntKind.u64.wrap ((Q1 : Int) * 4294967296) = (F1 : Int) := by rw [IntKind.wrap_u64]; omega
        have d2 : IntKind.u64.wrap ((F1 : Int) + (Q0 : Int)) = ((F1 + Q0 : Nat) : Int) := by rw [IntKind.wrap_u64]; omega
        obtain ⟨F2, hF2⟩ : ∃ z, z = F1 + Q0 := ⟨_, rfl⟩
        rw [← hF2] at d2
        have HR : Hid (FF = F2) := Lib.hid (by rw [HFF.out, HK4.out, hF2, hF1])
        clear hF1 hF2
        clear c1 g1 g2 g3 g4 g5 g6 g7 g8 g9 g10 g11 k1 k2 hr0 hlt hQ
        go_wp2_with fail
        rw [rounds_succ]
        go_wp2_with fail
        go_ret2
        refine ⟨?_, by go_grown⟩
        rw [HR.out]
        exact ⟨_, rfl⟩
      · by_cases c2 : 4294967296 * r2 + u0 < q2
        · obtain ⟨g1, g2, g3, g4, g5, g6, g7, g8, g9, g10, g11, k1, k2⟩ := HG.out
          obtain ⟨hr0, hlt, hQ⟩ := HP2.out.2 (.inr c2)
          obtain ⟨R3, hR3⟩ : ∃ z, z = 18446744069414584320 + u0 := ⟨_, rfl⟩
          have b1 : IntKind.u64.wrap ((q2 : Int) - 1) = (Q0 : Int) := by rw [IntKind.wrap_u64]; omega
          have b2 : IntKind.u64.wrap ((r2 : Int) + 4294967295) = 4294967295 := by rw [IntKind.wrap_u64]; omega
          have b3 : decide ((4294967296 : Int) ≤ (q2 : Int)) = false := by simp; omega
          obtain ⟨R1, hR1⟩ : ∃ z, z = 4294967296 * r2 := ⟨_, rfl⟩
          obtain ⟨R2, hR2⟩ : ∃ z, z = R1 + u0 := ⟨_, rfl⟩
          have b8 : IntKind.u64.wrap ((4294967296 : Int) * (r2 : Int)) = (R1 : Int) := by rw [IntKind.wrap_u64]; omega
          have b9 : IntKind.u64.wrap ((R1 : Int) + (u0 : Int)) = (R2 : Int) := by rw [IntKind.wrap_u64]; omega
          have b10 : decide (R2 < q2) = true := by simp; omega
          have b11 : IntKind.u64.wrap (q2 : Int) = (q2 : Int) := by rw [IntKind.wrap_u64]; omega
          clear hR1 hR2
          have b4 : IntKind.u64.wrap ((18446744069414584320 : Int) + (u0 : Int)) = (R3 : Int) := by rw [IntKind.wrap_u64]; omega
          have b5 : decide ((4294967296 : Int) ≤ (Q0 : Int)) = false := by simp; omega
          have b6 : decide (R3 < Q0) = false := by simp; omega
          have b7 : IntKind.u64.wrap (Q0 : Int) = (Q0 : Int) := by rw [IntKind.wrap_u64]; omega
          clear hR3
          refine wp_loop_rounds 2 ?_
          rw [rounds_succ]
          obtain ⟨F1, hF1⟩ : ∃ z, z = Q1 * 4294967296 := ⟨_, rfl⟩
          have d1 : IntKind.u64.wrap ((Q1 : Int) * 4294967296) = (F1 : Int) := by rw [IntKind.wrap_u64]; omega
          have d2 : IntKind.u64.wrap ((F1 : Int) + (Q0 : Int)) = ((F1 + Q0 : Nat) : Int) := by rw [IntKind.wrap_u64]; omega
          obtain ⟨F2, hF2⟩ : ∃ z, z = F1 + Q0 := ⟨_, rfl⟩
          rw [← hF2] at d2
          have HR : Hid (FF = F2) := Lib.hid (by rw [HFF.out, HK4.out, hF2, hF1])
          clear hF1 hF2
          clear c1 g1 g2 g3 g4 g5 g6 g7 g8 g9 g10 g11 k1 k2 hr0 hlt hQ
          go_wp2_with fail
          rw [rounds_succ]
          go_wp2_with fail
          go_ret2
          refine ⟨?_, by go_grown⟩
          rw [HR.out]
          exact ⟨_, rfl⟩
        · obtain ⟨g1, g2, g3, g4, g5, g6, g7, g8, g9, g10, g11, k1, k2⟩ := HG.out
          have hQ : Q0 = q2 := HP2.out.1 c1 c2
          subst hQ
          obtain ⟨R1, hR1⟩ : ∃ z, z = 4294967296 * r2 := ⟨_, rfl⟩
          obtain ⟨R2, hR2⟩ : ∃ z, z = R1 + u0 := ⟨_, rfl⟩
          have b1 : IntKind.u64.wrap ((4294967296 : Int) * (r2 : Int)) = (R1 : Int) := by rw [IntKind.wrap_u64]; omega
          have b2 : IntKind.u64.wrap ((R1 : Int) + (u0 : Int)) = (R2 : Int) := by rw [IntKind.wrap_u64]; omega
          have b3 : decide ((4294967296 : Int) ≤ (Q0 : Int)) = false := by simp; omega
          have b4 : decide (R2 < Q0) = false := by simp; omega
          have b5 : IntKind.u64.wrap (Q0 : Int) = (Q0 : Int) := by rw [IntKind.wrap_u64]; omega
          clear hR1 hR2
          refine wp_loop_rounds 1 ?_
          rw [rounds_succ]
          obtain ⟨F1, hF1⟩ : ∃ z, z = Q1 * 4294967296 := ⟨_, rfl⟩
          have d1 : IntKind.u64.wrap ((Q1 : Int) * 4294967296) = (F1 : Int) := by rw [IntKind.wrap_u64]; omega
          have d2 : IntKind.u64.wrap ((F1 : Int) + (Q0 : Int)) = ((F1 + Q0 : Nat) : Int) := by rw [IntKind.wrap_u64]; omega
          obtain ⟨F2, hF2⟩ : ∃ z, z = F1 + Q0 := ⟨_, rfl⟩
          rw [← hF2] at d2
          have HR : Hid (FF = F2) := Lib.hid (by rw [HFF.out, HK4.out, hF2, hF1])
          clear hF1 hF2
          clear c1 g1 g2 g3 g4 g5 g6 g7 g8 g9 g10 g11 k1 k2
          go_wp2_with fail
          go_ret2
          refine ⟨?_, by go_grown⟩
          rw [HR.out]
          exact ⟨_, rfl⟩
    · by_cases c2 : 4294967296 * r + u1 < q
      · obtain ⟨g1, g2, g3, g4, g5, g6, g7, g8, g9, g10, g11, k1, k2⟩ := HG.out
        obtain ⟨hr0, hlt, hQ⟩ := HP1.out.2 (.inr c2)
        obtain ⟨R3, hR3⟩ : ∃ z, z = 18446744069414584320 + u1 := ⟨_, rfl⟩
        have b1 : IntKind.u64.wrap ((q : Int) - 1) = (Q1 : Int) := by rw [IntKind.wrap_u64]; omega
        have b2 : IntKind.u64.wrap ((r : Int) + 4294967295) = 4294967295 := by rw [IntKind.wrap_u64]; omega
        have b3 : decide ((4294967296 : Int) ≤ (q : Int)) = false := by simp; omega
        obtain ⟨R1, hR1⟩ : ∃ z, z = 4294967296 * r := ⟨_, rfl⟩
        obtain ⟨R2, hR2⟩ : ∃ z, z = R1 + u1 := ⟨_, rfl⟩
        have b8 : IntKind.u64.wrap ((4294967296 : Int) * (r : Int)) = (R1 : Int) := by rw [IntKind.wrap_u64]; omega
        have b9 : IntKind.u64.wrap ((R1 : Int) + (u1 : Int)) = (R2 : Int) := by rw [IntKind.wrap_u64]; omega
        have b10 : decide (R2 < q) = true := by simp; omega
        have b11 : IntKind.u64.wrap (q : Int) = (q : Int) := by rw [IntKind.wrap_u64]; omega
        clear hR1 hR2
        have b4 : IntKind.u64.wrap ((18446744069414584320 : Int) + (u1 : Int)) = (R3 : Int) := by rw [IntKind.wrap_u64]; omega
        have b5 : decide ((4294967296 : Int) ≤ (Q1 : Int)) = false := by simp; omega
        have b6 : decide (R3 < Q1) = false := by simp; omega
        have b7 : IntKind.u64.wrap (Q1 : Int) = (Q1 : Int) := by rw [IntKind.wrap_u64]; omega
        clear hR3
        refine wp_loop_rounds 2 ?_
        rw [rounds_succ]
        obtain ⟨H1, hH1⟩ : ∃ z, z = h * 4294967296 % 18446744073709551616 := ⟨_, rfl⟩
        obtain ⟨H2, hH2⟩ : ∃ z, z = (H1 + u1) % 18446744073709551616 := ⟨_, rfl⟩
        obtain ⟨H3, hH3⟩ : ∃ z, z = Q1 * 18446744069414584321 % 18446744073709551616 := ⟨_, rfl⟩
        obtain ⟨M2, hM2⟩ : ∃ z, z = q2 * 4294967295 := ⟨_, rfl⟩
        have d1 : IntKind.u64.wrap ((h : Int) * 4294967296) = (H1 : Int) := by rw [IntKind.wrap_u64]; omega
        have d2 : IntKind.u64.wrap ((H1 : Int) + (u1 : Int)) = (H2 : Int) := by rw [IntKind.wrap_u64]; omega
        have d3 : IntKind.u64.wrap ((Q1 : Int) * 18446744069414584321) = (H3 : Int) := by rw [IntKind.wrap_u64]; omega
        have d4 : IntKind.u64.wrap ((H2 : Int) - (H3 : Int)) = (X : Int) := by rw [IntKind.wrap_u64]; omega
        have d5 : (X : Int).tdiv 4294967295 = (q2 : Int) := by rw [Int.tdiv_eq_ediv_of_nonneg (by omega)]; omega
        have d6 : IntKind.u64.wrap ((q2 : Int)) = (q2 : Int) := by rw [IntKind.wrap_u64]; omega
        have d7 : IntKind.u64.wrap ((q2 : Int) * 4294967295) = (M2 : Int) := by rw [IntKind.wrap_u64]; omega
        have d8 : IntKind.u64.wrap ((X : Int) - (M2 : Int)) = (r2 : Int) := by rw [IntKind.wrap_u64]; omega
        clear hH1 hH2 hH3 hM2
        clear c1 c2 g1 g2 g3 g4 g5 g6 g7 g8 g9 g10 g11 k1 k2 hr0 hlt hQ
        go_wp2_with fail
        rw [rounds_succ]
        go_wp2_with fail
        clear b1 b2 b3 b4 b5 b6 b7 b8 b9 b10 b11 d1 d2 d3 d4 d5 d6 d7 d8
        by_cases c1 : 4294967296 ≤ q2
        · obtain ⟨g1, g2, g3, g4, g5, g6, g7, g8, g9, g10, g11, k1, k2⟩ := HG.out
          obtain ⟨hr0, hlt, hQ⟩ := HP2.out.2 (.inl c1)
          obtain ⟨R3, hR3⟩ : ∃ z, z = 18446744069414584320 + u0 := ⟨_, rfl⟩
          have b1 : IntKind.u64.wrap ((q2 : Int) - 1) = (Q0 : Int) := by rw [IntKind.wrap_u64]; omega
          have b2 : IntKind.u64.wrap ((r2 : Int) + 4294967295) = 4294967295 := by rw [IntKind.wrap_u64]; omega
          have b3 : decide ((4294967296 : Int) ≤ (q2 : Int)) = true := by simp; omega
          have b4 : IntKind.u64.wrap ((18446744069414584320 : Int) + (u0 : Int)) = (R3 : Int) := by rw [IntKind.wrap_u64]; omega
          have b5 : decide ((4294967296 : Int) ≤ (Q0 : Int)) = false := by simp; omega
          have b6 : decide (R3 < Q0) = false := by simp; omega
          have b7 : IntKind.u64.wrap (Q0 : Int) = (Q0 : Int) := by rw [IntKind.wrap_u64]; omega
          clear hR3
          refine wp_loop_rounds 2 ?_
          rw [rounds_succ]
          obtain ⟨F1, hF1⟩ : ∃ z, z = Q1 * 4294967296 := ⟨_, rfl⟩
          have d1 : IntKind.u64.wrap ((Q1 : Int) * 4294967296) = (F1 : Int) := by rw [IntKind.wrap_u64]; omega
          have d2 : IntKind.u64.wrap ((F1 : Int) + (Q0 : Int)) = ((F1 + Q0 : Nat) : Int) := by rw [IntKind.wrap_u64]; omega
          obtain ⟨F2, hF2⟩ : ∃ z, z = F1 + Q0 := ⟨_, rfl⟩
          rw [← hF2] at d2
          have HR : Hid (FF = F2) := Lib.hid (by rw [HFF.out, HK4.out, hF2, hF1])
          clear hF1 hF2
          clear c1 g1 g2 g3 g4 g5 g6 g7 g8 g9 g10 g11 k1 k2 hr0 hlt hQ
          go_wp2_with fail
          rw [rounds_succ]
          go_wp2_with fail
          go_ret2
          refine ⟨?_, by go_grown⟩
          rw [HR.out]
          exact ⟨_, rfl⟩
        · by_cases c2 : 4294967296 * r2 + u0 < q2
          · obtain ⟨g1, g2, g3, g4, g5, g6, g7, g8, g9, g10, g11, k1, k2⟩ := HG.out
            obtain ⟨hr0, hlt, hQ⟩ := HP2.out.2 (.inr c2)
            obtain ⟨R3, hR3⟩ : ∃ z, z = 18446744069414584320 + u0 := ⟨_, rfl⟩
            have b1 : IntKind.u64.wrap ((q2 : Int) - 1) = (Q0 : Int) := by rw [IntKind.wrap_u64]; omega
            have b2 : IntKind.u64.wrap ((r2 : Int) + 4294967295) = 4294967295 := by rw [IntKind.wrap_u64]; omega
            have b3 : decide ((4294967296 : Int) ≤ (q2 : Int)) = false := by simp; omega
            obtain ⟨R1, hR1⟩ : ∃ z, z = 4294967296 * r2 := ⟨_, rfl⟩
            obtain ⟨R2, hR2⟩ : ∃ z, z = R1 + u0 := ⟨_, rfl⟩
            have b8 : IntKind.u64.wrap ((4294967296 : Int) * (r2 : Int)) = (R1 : Int) := by rw [IntKind.wrap_u64]; omega
            have b9 : IntKind.u64.wrap ((R1 : Int) + (u0 : Int)) = (R2 : Int) := by rw [IntKind.wrap_u64]; omega
            have b10 : decide (R2 < q2) = true := by simp; omega
            have b11 : IntKind.u64.wrap (q2 : Int) = (q2 : Int) := by rw [IntKind.wrap_u64]; omega
            clear hR1 hR2
            have b4 : IntKind.u64.wrap ((18446744069414584320 : Int) + (u0 : Int)) = (R3 : Int) := by rw [IntKind.wrap_u64]; omega
            have b5 : decide ((4294967296 : Int) ≤ (Q0 : Int)) = false := by simp; omega
            have b6 : decide (R3 < Q0) = false := by simp; omega
            have b7 : IntKind.u64.wrap (Q0 : Int) = (Q0 : Int) := by rw [IntKind.wrap_u64]; omega
            clear hR3
            refine wp_loop_rounds 2 ?_
            rw [rounds_succ]
            obtain ⟨F1, hF1⟩ : ∃ z, z = Q1 * 4294967296 := ⟨_, rfl⟩
            have d1 : IntKind.u64.wrap ((Q1 : Int) * 4294967296) = (F1 : Int) := by rw [IntKind.wrap_u64]; omega
            have d2 : IntKind.u64.wrap ((F1 : Int) + (Q0 : Int)) = ((F1 + Q0 : Nat) : Int) := by rw [IntKind.wrap_u64]; omega
            obtain ⟨F2, hF2⟩ : ∃ z, z = F1 + Q0 := ⟨_, rfl⟩
            rw [← hF2] at d2
            have HR : Hid (FF = F2) := Lib.hid (by rw [HFF.out, HK4.out, hF2, hF1])
            clear hF1 hF2
            clear c1 c2 g1 g2 g3 g4 g5 g6 g7 g8 g9 g10 g11 k1 k2 hr0 hlt hQ
            go_wp2_with fail
            rw [rounds_succ]
            go_wp2_with fail
            go_ret2
            refine ⟨?_, by go_grown⟩
            rw [HR.out]
            exact ⟨_, rfl⟩
          · obtain ⟨g1, g2, g3, g4, g5, g6, g7, g8, g9, g10, g11, k1, k2⟩ := HG.out
            have hQ : Q0 = q2 := HP2.out.1 c1 c2
            subst hQ
            obtain ⟨R1, hR1⟩ : ∃ z, z = 4294967296 * r2 := ⟨_, rfl⟩
            obtain ⟨R2, hR2⟩ : ∃ z, z = R1 + u0 := ⟨_, rfl⟩
            have b1 : IntKind.u64.wrap ((4294967296 : Int) * (r2 : Int)) = (R1 : Int) := by rw [IntKind.wrap_u64]; omega
            have b2 : IntKind.u64.wrap ((R1 : Int) + (u0 : Int)) = (R2 : Int) := by rw [IntKind.wrap_u64]; omega
            have b3 : decide ((4294967296 : Int) ≤ (Q0 : Int)) = false := by simp; omega
            have b4 : decide (R2 < Q0) = false := by simp; omega
            have b5 : IntKind.u64.wrap (Q0 : Int) = (Q0 : Int) := by rw [IntKind.wrap_u64]; omega
            clear hR1 hR2
            refine wp_loop_rounds 1 ?_
            rw [rounds_succ]
            obtain ⟨F1, hF1⟩ : ∃ z, z = Q1 * 4294967296 := ⟨_, rfl⟩
            have d1 : IntKind.u64.wrap ((Q1 : Int) * 4294967296) = (F1 : Int) := by rw [IntKind.wrap_u64]; omega
            have d2 : IntKind.u64.wrap ((F1 : Int) + (Q0 : Int)) = ((F1 + Q0 : Nat) : Int) := by rw [IntKind.wrap_u64]; omega
            obtain ⟨F2, hF2⟩ : ∃ z, z = F1 + Q0 := ⟨_, rfl⟩
            rw [← hF2] at d2
            have HR : Hid (FF = F2) := Lib.hid (by rw [HFF.out, HK4.out, hF2, hF1])
            clear hF1 hF2
            clear c1 c2 g1 g2 g3 g4 g5 g6 g7 g8 g9 g10 g11 k1 k2
            go_wp2_with fail
            go_ret2
            refine ⟨?_, by go_grown⟩
            rw [HR.out]
            exact ⟨_, rfl⟩
      · obtain ⟨g1, g2, g3, g4, g5, g6, g7, g8, g9, g10, g11, k1, k2⟩ := HG.out
        have hQ : Q1 = q := HP1.out.1 c1 c2
        subst hQ
        obtain ⟨R1, hR1⟩ : ∃ z, z = 4294967296 * r := ⟨_, rfl⟩
        obtain ⟨R2, hR2⟩ : ∃ z, z = R1 + u1 := ⟨_, rfl⟩
        have b1 : IntKind.u64.wrap ((4294967296 : Int) * (r : Int)) = (R1 : Int) := by rw [IntKind.wrap_u64]; omega
        have b2 : IntKind.u64.wrap ((R1 : Int) + (u1 : Int)) = (R2 : Int) := by rw [IntKind.wrap_u64]; omega
        have b3 : decide ((4294967296 : Int) ≤ (Q1 : Int)) = false := by simp; omega
        have b4 : decide (R2 < Q1) = false := by simp; omega
        have b5 : IntKind.u64.wrap (Q1 : Int) = (Q1 : Int) := by rw [IntKind.wrap_u64]; omega
        clear hR1 hR2
        refine wp_loop_rounds 1 ?_
        rw [rounds_succ]
        obtain ⟨H1, hH1⟩ : ∃ z, z = h * 4294967296 % 18446744073709551616 := ⟨_, rfl⟩
        obtain ⟨H2, hH2⟩ : ∃ z, z = (H1 + u1) % 18446744073709551616 := ⟨_, rfl⟩
        obtain ⟨H3, hH3⟩ : ∃ z, z = Q1 * 18446744069414584321 % 18446744073709551616 := ⟨_, rfl⟩
        obtain ⟨M2, hM2⟩ : ∃ z, z = q2 * 4294967295 := ⟨_, rfl⟩
        have d1 : IntKind.u64.wrap ((h : Int) * 4294967296) = (H1 : Int) := by rw [IntKind.wrap_u64]; omega
        have d2 : IntKind.u64.wrap ((H1 : Int) + (u1 : Int)) = (H2 : Int) := by rw [IntKind.wrap_u64]; omega
        have d3 : IntKind.u64.wrap ((Q1 : Int) * 18446744069414584321) = (H3 : Int) := by rw [IntKind.wrap_u64]; omega
        have d4 : IntKind.u64.wrap ((H2 : Int) - (H3 : Int)) = (X : Int) := by rw [IntKind.wrap_u64]; omega
        have d5 : (X : Int).tdiv 4294967295 = (q2 : Int) := by rw [Int.tdiv_eq_ediv_of_nonneg (by omega)]; omega
        have d6 : IntKind.u64.wrap ((q2 : Int)) = (q2 : Int) := by rw [IntKind.wrap_u64]; omega
        have d7 : IntKind.u64.wrap ((q2 : Int) * 4294967295) = (M2 : Int) := by rw [IntKind.wrap_u64]; omega
        have d8 : IntKind.u64.wrap ((X : Int) - (M2 : Int)) = (r2 : Int) := by rw [IntKind.wrap_u64]; omega
        clear hH1 hH2 hH3 hM2
        clear c1 c2 g1 g2 g3 g4 g5 g6 g7 g8 g9 g10 g11 k1 k2
        go_wp2_with fail
        clear b1 b2 b3 b4 b5 d1 d2 d3 d4 d5 d6 d7 d8
        by_cases c1 : 4294967296 ≤ q2
        · obtain ⟨g1, g2, g3, g4, g5, g6, g7, g8, g9, g10, g11, k1, k2⟩ := HG.out
          obtain ⟨hr0, hlt, hQ⟩ := HP2.out.2 (.inl c1)
          obtain ⟨R3, hR3⟩ : ∃ z, z = 18446744069414584320 + u0 := ⟨_, rfl⟩
          have b1 : IntKind.u64.wrap ((q2 : Int) - 1) = (Q0 : Int) := by rw [IntKind.wrap_u64]; omega
          have b2 : IntKind.u64.wrap ((r2 : Int) + 4294967295) = 4294967295 := by rw [IntKind.wrap_u64]; omega
          have b3 : decide ((4294967296 : Int) ≤ (q2 : Int)) = true := by simp; omega
          have b4 : IntKind.u64.wrap ((18446744069414584320 : Int) + (u0 : Int)) = (R3 : Int) := by rw [IntKind.wrap_u64]; omega
          have b5 : decide ((4294967296 : Int) ≤ (Q0 : Int)) = false := by simp; omega
          have b6 : decide (R3 < Q0) = false := by simp; omega
          have b7 : IntKind.u64.wrap (Q0 : Int) = (Q0 : Int) := by rw [IntKind.wrap_u64]; omega
          clear hR3
          refine wp_loop_rounds 2 ?_
          rw [rounds_succ]
          obtain ⟨F1, hF1⟩ : ∃ z, z = Q1 * 4294967296 := ⟨_, rfl⟩
          have d1 : IntKind.u64.wrap ((Q1 : Int) * 4294967296) = (F1 : Int) := by rw [IntKind.wrap_u64]; omega
          have d2 : IntKind.u64.wrap ((F1 : Int) + (Q0 : Int)) = ((F1 + Q0 : Nat) : Int) := by rw [IntKind.wrap_u64]; omega
          obtain ⟨F2, hF2⟩ : ∃ z, z = F1 + Q0 := ⟨_, rfl⟩
          rw [← hF2] at d2
          have HR : Hid (FF = F2) := Lib.hid (by rw [HFF.out, HK4.out, hF2, hF1])
          clear hF1 hF2
          clear c1 g1 g2 g3 g4 g5 g6 g7 g8 g9 g10 g11 k1 k2 hr0 hlt hQ
          go_wp2_with fail
          rw [rounds_succ]
          go_wp2_with fail
          go_ret2
          refine ⟨?_, by go_grown⟩
          rw [HR.out]
          exact ⟨_, rfl⟩
        · by_cases c2 : 4294967296 * r2 + u0 < q2
          · obtain ⟨g1, g2, g3, g4, g5, g6, g7, g8, g9, g10, g11, k1, k2⟩ := HG.out
            obtain ⟨hr0, hlt, hQ⟩ := HP2.out.2 (.inr c2)
            obtain ⟨R3, hR3⟩ : ∃ z, z = 18446744069414584320 + u0 := ⟨_, rfl⟩
            have b1 : IntKind.u64.wrap ((q2 : Int) - 1) = (Q0 : Int) := by rw [IntKind.wrap_u64]; omega
            have b2 : IntKind.u64.wrap ((r2 : Int) + 4294967295) = 4294967295 := by rw [IntKind.wrap_u64]; omega
            have b3 : decide ((4294967296 : Int) ≤ (q2 : Int)) = false := by simp; omega
            obtain ⟨R1, hR1⟩ : ∃ z, z = 4294967296 * r2 := ⟨_, rfl⟩
            obtain ⟨R2, hR2⟩ : ∃ z, z = R1 + u0 := ⟨_, rfl⟩
            have b8 : IntKind.u64.wrap ((4294967296 : Int) * (r2 : Int)) = (R1 : Int) := by rw [IntKind.wrap_u64]; omega
            have b9 : IntKind.u64.wrap ((R1 : Int) + (u0 : Int)) = (R2 : Int) := by rw [IntKind.wrap_u64]; omega
            have b10 : decide (R2 < q2) = true := by simp; omega
            have b11 : IntKind.u64.wrap (q2 : Int) = (q2 : Int) := by rw [IntKind.wrap_u64]; omega
            clear hR1 hR2
            have b4 : IntKind.u64.wrap ((18446744069414584320 : Int) + (u0 : Int)) = (R3 : Int) := by rw [IntKind.wrap_u64]; omega
            have b5 : decide ((4294967296 : Int) ≤ (Q0 : Int)) = false := by simp; omega
            have b6 : decide (R3 < Q0) = false := by simp; omega
            have b7 : IntKind.u64.wrap (Q0 : Int) = (Q0 : Int) := by rw [IntKind.wrap_u64]; omega
            clear hR3
            refine wp_loop_rounds 2 ?_
            rw [rounds_succ]
            obtain ⟨F1, hF1⟩ : ∃ z, z = Q1 * 4294967296 := ⟨_, rfl⟩
            have d1 : IntKind.u64.wrap ((Q1 : Int) * 4294967296) = (F1 : Int) := by rw [IntKind.wrap_u64]; omega
            have d2 : IntKind.u64.wrap ((F1 : Int) + (Q0 : Int)) = ((F1 + Q0 : Nat) : Int) := by rw [IntKind.wrap_u64]; omega
            obtain ⟨F2, hF2⟩ : ∃ z, z = F1 + Q0 := ⟨_, rfl⟩
            rw [← hF2] at d2
            have HR : Hid (FF = F2) := Lib.hid (by rw [HFF.out, HK4.out, hF2, hF1])
            clear hF1 hF2
            clear c1 c2 g1 g2 g3 g4 g5 g6 g7 g8 g9 g10 g11 k1 k2 hr0 hlt hQ
            go_wp2_with fail
            rw [rounds_succ]
            go_wp2_with fail
            go_ret2
            refine ⟨?_, by go_grown⟩
            rw [HR.out]
            exact ⟨_, rfl⟩
          · obtain ⟨g1, g2, g3, g4, g5, g6, g7, g8, g9, g10, g11, k1, k2⟩ := HG.out
            have hQ : Q0 = q2 := HP2.out.1 c1 c2
            subst hQ
            obtain ⟨R1, hR1⟩ : ∃ z, z = 4294967296 * r2 := ⟨_, rfl⟩
            obtain ⟨R2, hR2⟩ : ∃ z, z = R1 + u0 := ⟨_, rfl⟩
            have b1 : IntKind.u64.wrap ((4294967296 : Int) * (r2 : Int)) = (R1 : Int) := by rw [IntKind.wrap_u64]; omega
            have b2 : IntKind.u64.wrap ((R1 : Int) + (u0 : Int)) = (R2 : Int) := by rw [IntKind.wrap_u64]; omega
            have b3 : decide ((4294967296 : Int) ≤ (Q0 : Int)) = false := by simp; omega
            have b4 : decide (R2 < Q0) = false := by simp; omega
            have b5 : IntKind.u64.wrap (Q0 : Int) = (Q0 : Int) := by rw [IntKind.wrap_u64]; omega
            clear hR1 hR2
            refine wp_loop_rounds 1 ?_
            rw [rounds_succ]
            obtain ⟨F1, hF1⟩ : ∃ z, z = Q1 * 4294967296 := ⟨_, rfl⟩
            have d1 : IntKind.u64.wrap ((Q1 : Int) * 4294967296) = (F1 : Int) := by rw [IntKind.wrap_u64]; omega
            have d2 : IntKind.u64.wrap ((F1 : Int) + (Q0 : Int)) = ((F1 + Q0 : Nat) : Int) := by rw [IntKind.wrap_u64]; omega
            obtain ⟨F2, hF2⟩ : ∃ z, z = F1 + Q0 := ⟨_, rfl⟩
            rw [← hF2] at d2
            have HR : Hid (FF = F2) := Lib.hid (by rw [HFF.out, HK4.out, hF2, hF1])
            clear hF1 hF2
            clear c1 c2 g1 g2 g3 g4 g5 g6 g7 g8 g9 g10 g11 k1 k2
            go_wp2_with fail
            go_ret2
            refine ⟨?_, by go_grown⟩
            rw [HR.out]
            exact ⟨_, rfl⟩
set_option maxHeartbeats 8000000 in
theorem div_N (h l : Nat) (hh : h < 18446744069414584320) (hl : l < 18446744073709551616) (w : World) :
    Calls Tryz.prog 185 #[.int .u64 (h : Int), .int .u64 (l : Int), .int .u64 18446744069414584320] w fun e w' => (∃ r : Value, e = .returned (.tuple #[.int .u64 (((h * 18446744073709551616 + l) / 18446744069414584320 : Nat) : Int), r])) ∧ Below w.heap.size w w' := by
  by_cases h0 : h = 0
  · subst h0
    go_enter Tryz.func185, Tryz.ntmps185
    go_wp2_with fail
    go_region
    go_wp2_with fail
    go_ret2
    exact ⟨⟨.int .u64 ((l : Int) % 18446744069414584320), by simp⟩, by go_grown⟩
  · have t1 : ((h : Int) == 0) = false := by simp; omega
    have t2 : decide ((18446744069414584320 : Int) ≤ (h : Int)) = false := by simp; omega
    have HPH := Lib.hid (half_N h (l / 4294967296) hh (by omega))
    have HFIN := Lib.hid (long_div h l 18446744069414584320 (by decide))
    have hX : (h * 4294967296 + l / 4294967296) % 18446744069414584320 < 18446744069414584320 := Nat.mod_lt _ (by decide)
    have HXE := Lib.hid (Nat.div_add_mod' (h * 4294967296 + l / 4294967296) 18446744069414584320).symm
    obtain ⟨u1, hu1⟩ : ∃ u, u = l / 4294967296 := ⟨_, rfl⟩
    obtain ⟨u0, hu0⟩ : ∃ u, u = l % 4294967296 := ⟨_, rfl⟩
    obtain ⟨q, hq⟩ : ∃ u, u = h / 4294967295 := ⟨_, rfl⟩
    obtain ⟨r, hr⟩ : ∃ u, u = h % 4294967295 := ⟨_, rfl⟩
    obtain ⟨M, hM⟩ : ∃ u, u = q * 4294967295 := ⟨_, rfl⟩
    rw [← hu1, ← hu0] at HFIN
    rw [← hu1] at HPH HXE hX
    rw [← hq] at HPH
    have a1 : IntKind.u64.wrap (h : Int) = (h : Int) := by rw [IntKind.wrap_u64]; omega
    have a2 : (l : Int) / 18446744073709551616 = 0 := by omega
    have a4 : IntKind.u64.wrap (l : Int) = (l : Int) := by rw [IntKind.wrap_u64]; omega
    have a5 : (l : Int) / 4294967296 = (u1 : Int) := by omega
    have a8 : (h : Int).tdiv 4294967295 = (q : Int) := by rw [Int.tdiv_eq_ediv_of_nonneg (by omega)]; omega
    have a9 : IntKind.u64.wrap (q : Int) = (q : Int) := by rw [IntKind.wrap_u64]; omega
    have a10 : IntKind.u64.wrap ((q : Int) * 4294967295) = (M : Int) := by rw [IntKind.wrap_u64]; omega
    have a11 : IntKind.u64.wrap ((h : Int) - (M : Int)) = (r : Int) := by rw [IntKind.wrap_u64]; omega
    have a3 := or_nil h (by omega)
    have a6 : bits .and .u64 (l : Int) 4294967295 = (u0 : Int) := by rw [Mul64.maskN l hl, ← hu0]
    have a7 := and_nil
    have HU : Hid (u1 < 4294967296 ∧ u0 < 4294967296 ∧ r < 4294967295 ∧ q ≤ 4294967296 ∧ h = q * 4294967295 + r ∧ h < 18446744069414584320) := Lib.hid ⟨by omega, by omega, by omega, by omega, by omega, hh⟩
    have HX := Lib.hid hX
    obtain ⟨FF, hFF⟩ : ∃ z, z = (h * 18446744073709551616 + l) / 18446744069414584320 := ⟨_, rfl⟩
    rw [← hFF]
    have HFF := Lib.hid hFF
    clear hFF
    clear hh hl h0 hu1 hu0 hq hr hM hX
    go_enter Tryz.func185, Tryz.ntmps185
    go_wp2_with fail
    refine (lz_N w).mono ?_
    rintro e w' ⟨rfl, rfl⟩
    go_wp2_with fail
    obtain ⟨g1, g2, g3, g4, g5, g6⟩ := HU.out
    obtain ⟨Q1, hQ1⟩ : ∃ z, z = (h * 4294967296 + u1) / 18446744069414584320 := ⟨_, rfl⟩
    obtain ⟨X, hX⟩ : ∃ z, z = (h * 4294967296 + u1) % 18446744069414584320 := ⟨_, rfl⟩
    have k1 := HXE.out
    have k2 := HX.out
    have k3 := HPH.out
    have k4 := HFIN.out
    rw [← hQ1, ← hX] at k1 k4
    rw [← hX] at k2
    rw [← hQ1] at k3
    have HP1 := Lib.hid k3
    have HP2 := Lib.hid (half_N X u0 k2 g2)
    obtain ⟨q2, hq2⟩ : ∃ z, z = X / 4294967295 := ⟨_, rfl⟩
    obtain ⟨r2, hr2⟩ : ∃ z, z = X % 4294967295 := ⟨_, rfl⟩
    obtain ⟨Q0, hQ0⟩ : ∃ z, z = (X * 4294967296 + u0) / 18446744069414584320 := ⟨_, rfl⟩
    rw [← hq2, ← hQ0] at HP2
    rw [← hQ0] at k4
    have g7 : r2 < 4294967295 := by omega
    have g8 : q2 ≤ 4294967296 := by omega
    have g9 : X = q2 * 4294967295 + r2 := by omega
    have g10 : Q0 < 4294967296 := by rw [hQ0]; exact (Nat.div_lt_iff_lt_mul (by decide)).2 (by omega)
    have g11 : Q1 < 4294967296 := by rw [hQ1]; exact (Nat.div_lt_iff_lt_mul (by decide)).2 (by omega)
    have HK4 := Lib.hid k4
    clear k3 k4 hQ1 hX hQ0 hq2 hr2 HPH HXE HX HFIN HU a1 a2 a3 a4 a5 a6 a7 a8 a9 a10 a11 t1 t2
    have HG := Lib.hid (And.intro g1 (And.intro g2 (And.intro g3 (And.intro g4 (And.intro g5 (And.intro g6 (And.intro g7 (And.intro g8 (And.intro g9 (And.intro g10 (And.intro g11 (And.intro k1 k2))))))))))))
    clear g1 g2 g3 g4 g5 g6 g7 g8 g9 g10 g11 k1 k2
    obtain ⟨g1, g2, g3, g4, g5, g6, g7, g8, g9, g10, g11, k1, k2⟩ := HG.out
    have hQ : Q1 = q := HP1.out.2
    subst hQ
    obtain ⟨R1, hR1⟩ : ∃ z, z = 4294967296 * r := ⟨_, rfl⟩
    obtain ⟨R2, hR2⟩ : ∃ z, z = R1 + u1 := ⟨_, rfl⟩
    have b1 : IntKind.u64.wrap ((4294967296 : Int) * (r : Int)) = (R1 : Int) := by rw [IntKind.wrap_u64]; omega
    have b2 : IntKind.u64.wrap ((R1 : Int) + (u1 : Int)) = (R2 : Int) := by rw [IntKind.wrap_u64]; omega
    have b3 : decide ((4294967296 : Int) ≤ (Q1 : Int)) = false := by simp; omega
    have b4 : decide (R2 < 0) = false := by simp
    clear hR1 hR2
    refine wp_loop_rounds 1 ?_
    rw [rounds_succ]
    obtain ⟨H1, hH1⟩ : ∃ z, z = h * 4294967296 % 18446744073709551616 := ⟨_, rfl⟩
    obtain ⟨H2, hH2⟩ : ∃ z, z = (H1 + u1) % 18446744073709551616 := ⟨_, rfl⟩
    obtain ⟨H3, hH3⟩ : ∃ z, z = Q1 * 18446744069414584320 % 18446744073709551616 := ⟨_, rfl⟩
    obtain ⟨M2, hM2⟩ : ∃ z, z = q2 * 4294967295 := ⟨_, rfl⟩
    have d1 : IntKind.u64.wrap ((h : Int) * 4294967296) = (H1 : Int) := by rw [IntKind.wrap_u64]; omega
    have d2 : IntKind.u64.wrap ((H1 : Int) + (u1 : Int)) = (H2 : Int) := by rw [IntKind.wrap_u64]; omega
    have d3 : IntKind.u64.wrap ((Q1 : Int) * 18446744069414584320) = (H3 : Int) := by rw [IntKind.wrap_u64]; omega
    have d4 : IntKind.u64.wrap ((H2 : Int) - (H3 : Int)) = (X : Int) := by rw [IntKind.wrap_u64]; omega
    have d5 : (X : Int).tdiv 4294967295 = (q2 : Int) := by rw [Int.tdiv_eq_ediv_of_nonneg (by omega)]; omega
    have d6 : IntKind.u64.wrap ((q2 : Int)) = (q2 : Int) := by rw [IntKind.wrap_u64]; omega
    have d7 : IntKind.u64.wrap ((q2 : Int) * 4294967295) = (M2 : Int) := by rw [IntKind.wrap_u64]; omega
    have d8 : IntKind.u64.wrap ((X : Int) - (M2 : Int)) = (r2 : Int) := by rw [IntKind.wrap_u64]; omega
    clear hH1 hH2 hH3 hM2
    clear g1 g2 g3 g4 g5 g6 g7 g8 g9 g10 g11 k1 k2
    go_wp2_with fail
    clear b1 b2 b3 b4 d1 d2 d3 d4 d5 d6 d7 d8
    obtain ⟨g1, g2, g3, g4, g5, g6, g7, g8, g9, g10, g11, k1, k2⟩ := HG.out
    have hQ : Q0 = q2 := HP2.out.2
    subst hQ
    obtain ⟨R1, hR1⟩ : ∃ z, z = 4294967296 * r2 := ⟨_, rfl⟩
    obtain ⟨R2, hR2⟩ : ∃ z, z = R1 + u0 := ⟨_, rfl⟩
    have b1 : IntKind.u64.wrap ((4294967296 : Int) * (r2 : Int)) = (R1 : Int) := by rw [IntKind.wrap_u64]; omega
    have b2 : IntKind.u64.wrap ((R1 : Int) + (u0 : Int)) = (R2 : Int) := by rw [IntKind.wrap_u64]; omega
    have b3 : decide ((4294967296 : Int) ≤ (Q0 : Int)) = false := by simp; omega
    have b4 : decide (R2 < 0) = false := by simp
    clear hR1 hR2
    refine wp_loop_rounds 1 ?_
    rw [rounds_succ]
    obtain ⟨F1, hF1⟩ : ∃ z, z = Q1 * 4294967296 := ⟨_, rfl⟩
    have d1 : IntKind.u64.wrap ((Q1 : Int) * 4294967296) = (F1 : Int) := by rw [IntKind.wrap_u64]; omega
    have d2 : IntKind.u64.wrap ((F1 : Int) + (Q0 : Int)) = ((F1 + Q0 : Nat) : Int) := by rw [IntKind.wrap_u64]; omega
    obtain ⟨F2, hF2⟩ : ∃ z, z = F1 + Q0 := ⟨_, rfl⟩
    rw [← hF2] at d2
    have HR : Hid (FF = F2) := Lib.hid (by rw [HFF.out, HK4.out, hF2, hF1])
    clear hF1 hF2
    clear g1 g2 g3 g4 g5 g6 g7 g8 g9 g10 g11 k1 k2
    go_wp2_with fail
    go_ret2
    refine ⟨?_, by go_grown⟩
    rw [HR.out]
    exact ⟨_, rfl⟩
end Go.Proofs.YtpggkfdijmnmiaaGreat
namespace Go.Proofs.YtpggkfdijmnmiaaGreat
open Go.RowKit Limbs
def mP : Nat := 115792089210356248762697446949407573530086143415290314195533631308867097853951
def mN : Nat := 115792089210356248762697446949407573529996955224135760342422259061068512044369
def md (m : Int) : Nat := if m = 0 then mP else mN
theorem md_or (m : Int) : md m = mP ∨ md m = mN := by unfold md; split <;> simp
theorem lbP : lb mP 0 = 18446744073709551615 ∧ lb mP 1 = 4294967295 ∧ lb mP 2 = 0 ∧ lb mP 3 = 18446744069414584321 := by decide +kernel
theorem lbN : lb mN 0 = 17562291160714782033 ∧ lb mN 1 = 13611842547513532036 ∧ lb mN 2 = 18446744073709551615 ∧ lb mN 3 = 18446744069414584320 := by decide +kernel
theorem md_lt {M : Nat} (h : M = mP ∨ M = mN) : M < W256 ∧ W256 < 2 * M ∧ 9223372036854775808 ≤ lb M 3 ∧ 2 < M := by
  rcases h with rfl | rfl <;> decide +kernel
theorem lb_le {r M : Nat} (hr : r < M) (hM : M < W256) : lb r 3 ≤ lb M 3 := by
  unfold W256 at hM
  simp only [lb]
  omega
set_option maxHeartbeats 4000000 in
theorem quot_one (r m3 : Nat) (M : Nat) (hr3 : lb r 3 ≤ m3) (hm3 : m3 < 18446744073709551616) (eM : lb M 3 = m3) (hd : ∀ (h l : Nat), h < m3 → l < 18446744073709551616 → ∀ w, Calls Tryz.prog 185 #[.int .u64 (h : Int), .int .u64 (l : Int), .int .u64 (m3 : Int)] w fun e w' => (∃ r : Value, e = .returned (.tuple #[.int .u64 (((h * 18446744073709551616 + l) / m3 : Nat) : Int), r])) ∧ Below w.heap.size w w') (w : World) :
    Calls Tryz.prog 160 #[nv r, nv M] w fun e w' => e = .returned (.int .u64 (quo (lb r 3) (lb r 2) m3 : Nat)) ∧ Below w.heap.size w w' := by
  simp only [nv, num]
  rw [eM]
  have h2 := lb_lt r 2
  generalize lb r 3 = r3 at *
  generalize lb r 2 = r2 at *
  generalize lb r 1 = r1 at *
  generalize lb r 0 = r0 at *
  by_cases h : r3 = m3
  · have e : quo r3 r2 m3 = 18446744073709551615 := by unfold quo; rw [if_pos h]
    rw [e]
    subst h
    clear hd e eM hr3
    go_enter Tryz.func160, Tryz.ntmps160
    go_wp2_with fail
    go_ret
    exact ⟨rfl, by go_grown⟩
  · have e : quo r3 r2 m3 = (r3 * 18446744073709551616 + r2) / m3 := by unfold quo; rw [if_neg h]
    rw [e]
    have HD := Lib.hid (hd r3 r2 (by omega) h2)
    generalize (r3 * 18446744073709551616 + r2) / m3 = q at *
    have t1 : ((r3 : Int) == (m3 : Int)) = false := by simp; omega
    clear hd e eM hr3 h h2
    go_enter Tryz.func160, Tryz.ntmps160
    go_wp2_with fail
    refine (keep w.heap.size w (HD.out _) (by go_grown) (Nat.le_refl _)).mono ?_
    rintro e w' ⟨⟨rr, rfl⟩, hb, _⟩
    have HB := Lib.hid hb
    clear hb
    go_wp2_with fail
    go_ret
    exact ⟨rfl, HB.out⟩
theorem quot_any (r M : Nat) (hM : M = mP ∨ M = mN) (hr : r < M) (w : World) :
    Calls Tryz.prog 160 #[nv r, nv M] w fun e w' => e = .returned (.int .u64 (quo (lb r 3) (lb r 2) (lb M 3) : Nat)) ∧ Below w.heap.size w w' := by
  have hle := lb_le hr (md_lt hM).1
  rcases hM with rfl | rfl
  · exact quot_one r (lb mP 3) mP hle (lb_lt _ _) rfl (fun h l hh hl w => by rw [lbP.2.2.2] at hh ⊢; exact div_P h l hh hl w) w
  · exact quot_one r (lb mN 3) mN hle (lb_lt _ _) rfl (fun h l hh hl w => by rw [lbN.2.2.2] at hh ⊢; exact div_N h l hh hl w) w
end Go.Proofs.YtpggkfdijmnmiaaGreat
namespace Go.Proofs.YtpggkfdijmnmiaaGreat
open Go.RowKit Limbs
theorem cs4_v4 {a b c d : Nat} (ha : a < 18446744073709551616) (hb : b < 18446744073709551616) (hc : c < 18446744073709551616) (hd : d < 18446744073709551616) : cs4 (v4 a b c d) = #[.int .u64 (a : Int), .int .u64 (b : Int), .int .u64 (c : Int), .int .u64 (d : Int)] := by
  obtain ⟨e0, e1, e2, e3⟩ := lb_v4 ha hb hc hd
  unfold cs4
  rw [e0, e1, e2, e3]
theorem mul_v4 (q a b c d : Nat) : q * v4 a b c d = q * a + 18446744073709551616 * (q * b + 18446744073709551616 * (q * c + 18446744073709551616 * (q * d))) := by
  unfold v4
  simp only [Nat.mul_add, Nat.mul_left_comm]
theorem behind_arith {X M q D hi k3 b3 N r3 low : Nat} (hM : 0 < M) (hq1 : X / M ≤ q) (hq2 : q ≤ X / M + 2) (hM2 : W256 < 2 * M) (hMW : M < W256)
    (hN : N + W256 * k3 = q * M) (hD : D < W256) (hb3 : b3 ≤ 1) (hlow : D + N = low + W256 * b3) (hX : X = low + W256 * r3) (hr3 : r3 < 18446744073709551616) (hk3 : k3 < 18446744073709551616) (hhi : hi < 18446744073709551616)
    (hh : ∃ z : Nat, hi + k3 + b3 = r3 + 18446744073709551616 * z) :
    (q = X / M ∧ hi = 0 ∧ D = X % M) ∨ (q = X / M + 1 ∧ D + M = W256 + X % M ∧ hi = 18446744073709551615) ∨ (q = X / M + 2 ∧ D + W256 * hi + 2 * M = W256 * 18446744073709551616 + X % M) := by
  have hdm := Nat.div_add_mod X M
  have hlt := Nat.mod_lt X hM
  obtain ⟨t, ht, ht2⟩ : ∃ t, q = X / M + t ∧ t ≤ 2 := ⟨q - X / M, by omega, by omega⟩
  have hqM : q * M = M * (X / M) + t * M := by rw [ht, Nat.add_mul, Nat.mul_comm]
  obtain ⟨z, hz⟩ := hh
  generalize X / M = Q at *
  generalize X % M = Y at *
  generalize M * Q = MQ at *
  generalize q * M = QM at *
  have h3 : t = 0 ∨ t = 1 ∨ t = 2 := by omega
  unfold W256 at *
  rcases h3 with rfl | rfl | rfl
  · left
    omega
  · right; left
    omega
  · right; right
    omega
end Go.Proofs.YtpggkfdijmnmiaaGreat
