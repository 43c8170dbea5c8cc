/- A number's bytes; the number of bytes. No condition. -/
import Derived.Test.YtglmmodkflkkkaaNp
import Derived.Laws.IdiomStrings
import Derived.Lib.ConvBytes
import Derived.Lib.BufferRead
set_option linter.unusedVariables false
set_option linter.unusedSimpArgs false
set_option maxRecDepth 100000
namespace Go.Proofs.Ytglmmodkflkkkaa
open Go.RowKit Limbs

/-- a limb's bytes, the highest first -/
def eight (x : Nat) : List UInt8 := [UInt8.ofNat (x / 72057594037927936), UInt8.ofNat (x / 281474976710656), UInt8.ofNat (x / 1099511627776), UInt8.ofNat (x / 4294967296), UInt8.ofNat (x / 16777216), UInt8.ofNat (x / 65536), UInt8.ofNat (x / 256), UInt8.ofNat (x)]
/-- a number's 32 bytes -/
def nb (a : Nat) : List UInt8 := eight (lb a 3) ++ (eight (lb a 2) ++ (eight (lb a 1) ++ eight (lb a 0)))
theorem nb_length (a : Nat) : (nb a).length = 32 := rfl
/-- bytes as a number, the highest first -/
def bv (l : List UInt8) : Nat := l.foldl (fun acc b => acc * 256 + b.toNat) 0
theorem bv_from : ∀ (l : List UInt8) (k : Nat), l.foldl (fun acc b => acc * 256 + b.toNat) k = k * 256 ^ l.length + bv l
  | [], k => by simp [bv]
  | b :: l, k => by
    have e : bv (b :: l) = b.toNat * 256 ^ l.length + bv l := by
      have h := bv_from l (0 * 256 + b.toNat)
      rw [Nat.zero_mul, Nat.zero_add] at h
      rw [← h]; simp [bv]
    rw [List.foldl_cons, bv_from l, e, List.length_cons, Nat.pow_succ, Nat.add_mul, Nat.mul_assoc, Nat.mul_comm 256, Nat.add_assoc]
theorem bv_append (l m : List UInt8) : bv (l ++ m) = bv l * 256 ^ m.length + bv m := by
  rw [bv, List.foldl_append, bv_from]; rfl
theorem bv_snoc (l : List UInt8) (b : UInt8) : bv (l ++ [b]) = bv l * 256 + b.toNat := by
  rw [bv_append]; simp [bv]
theorem bv_lt : ∀ l : List UInt8, bv l < 256 ^ l.length
  | [] => by simp [bv]
  | b :: l => by
    have ih := bv_lt l
    have hb := b.toNat_lt
    have e := bv_append [b] l
    rw [show [b] ++ l = b :: l from rfl, show bv [b] = b.toNat by simp [bv]] at e
    rw [e, List.length_cons, Nat.pow_succ, Nat.mul_comm (256 ^ l.length)]
    have h1 : (b.toNat + 1) * 256 ^ l.length ≤ 256 * 256 ^ l.length := Nat.mul_le_mul_right _ (by omega)
    rw [Nat.add_mul, Nat.one_mul] at h1
    omega
theorem bv_inj : ∀ (l m : List UInt8), l.length = m.length → bv l = bv m → l = m
  | [], m, h, _ => (List.eq_nil_of_length_eq_zero h.symm).symm
  | b :: l, c :: m, h, e => by
    have h' : l.length = m.length := by simpa using h
    have e1 := bv_append [b] l
    have e2 := bv_append [c] m
    rw [show [b] ++ l = b :: l from rfl, show bv [b] = b.toNat by simp [bv]] at e1
    rw [show [c] ++ m = c :: m from rfl, show bv [c] = c.toNat by simp [bv]] at e2
    have l1 := bv_lt l
    have l2 := bv_lt m
    rw [← h'] at l2 e2
    rw [e1, e2] at e
    have hp : 0 < 256 ^ l.length := Nat.pow_pos (by decide)
    have d1 : (b.toNat * 256 ^ l.length + bv l) / 256 ^ l.length = b.toNat := by rw [Nat.mul_comm, Nat.mul_add_div hp, Nat.div_eq_of_lt l1, Nat.add_zero]
    have d2 : (c.toNat * 256 ^ l.length + bv m) / 256 ^ l.length = c.toNat := by rw [Nat.mul_comm, Nat.mul_add_div hp, Nat.div_eq_of_lt l2, Nat.add_zero]
    have hbc : b.toNat = c.toNat := by rw [← d1, e, d2]
    have hb : b = c := UInt8.toNat_inj.1 hbc
    subst hb
    rw [bv_inj l m h' (by omega)]
theorem div_div (x : Nat) : x / 65536 = x / 256 / 256 ∧ x / 16777216 = x / 256 / 256 / 256 ∧ x / 4294967296 = x / 256 / 256 / 256 / 256 ∧ x / 1099511627776 = x / 256 / 256 / 256 / 256 / 256 ∧ x / 281474976710656 = x / 256 / 256 / 256 / 256 / 256 / 256 ∧ x / 72057594037927936 = x / 256 / 256 / 256 / 256 / 256 / 256 / 256 ∧ x / 18446744073709551616 = x / 256 / 256 / 256 / 256 / 256 / 256 / 256 / 256 := by
  simp only [Nat.div_div_eq_div_mul, Nat.reduceMul, and_self]
theorem eight_val {x : Nat} (h : x < 18446744073709551616) : bv (eight x) = x := by
  have h0 : x / 18446744073709551616 = 0 := Nat.div_eq_of_lt h
  obtain ⟨e1, e2, e3, e4, e5, e6, e7⟩ := div_div x
  rw [e7] at h0
  simp only [bv, eight, List.foldl_cons, List.foldl_nil, UInt8.toNat_ofNat', Nat.reducePow]
  rw [e1, e2, e3, e4, e5, e6]
  clear e1 e2 e3 e4 e5 e6 e7 h
  have g1 := Nat.div_add_mod x 256
  generalize x % 256 = r0 at *
  generalize x / 256 = x1 at *
  have g2 := Nat.div_add_mod x1 256
  generalize x1 % 256 = r1 at *
  generalize x1 / 256 = x2 at *
  have g3 := Nat.div_add_mod x2 256
  generalize x2 % 256 = r2 at *
  generalize x2 / 256 = x3 at *
  have g4 := Nat.div_add_mod x3 256
  generalize x3 % 256 = r3 at *
  generalize x3 / 256 = x4 at *
  have g5 := Nat.div_add_mod x4 256
  generalize x4 % 256 = r4 at *
  generalize x4 / 256 = x5 at *
  have g6 := Nat.div_add_mod x5 256
  generalize x5 % 256 = r5 at *
  generalize x5 / 256 = x6 at *
  have g7 := Nat.div_add_mod x6 256
  generalize x6 % 256 = r6 at *
  generalize x6 / 256 = x7 at *
  have g8 := Nat.div_add_mod x7 256
  generalize x7 % 256 = r7 at *
  generalize x7 / 256 = x8 at *
  omega
theorem nb_val {a : Nat} (h : a < W256) : bv (nb a) = a := by
  have e := v4_lb h
  unfold nb
  rw [bv_append, bv_append, bv_append, eight_val (lb_lt _ _), eight_val (lb_lt _ _), eight_val (lb_lt _ _), eight_val (lb_lt _ _)]
  have l1 : (eight (lb a 0)).length = 8 := rfl
  have l2 : (eight (lb a 1) ++ eight (lb a 0)).length = 16 := rfl
  have l3 : (eight (lb a 2) ++ (eight (lb a 1) ++ eight (lb a 0))).length = 24 := rfl
  rw [l1, l2, l3]
  simp only [Nat.reducePow]
  unfold v4 at e
  omega
theorem conv_row {w : World} {b : Nat} {l : List UInt8} {c : Nat} {T : TypeId} {z : Nat × Nat} (h : w.heap[b]? = some (.cells (l.map (fun c => Value.int .u8 (c.toNat : Int))).toArray T z)) :
    (convert 87 9 (.slice (some ⟨b, 0, none⟩) l.length c)).run Try.prog w = .ok (.string ⟨l.toArray⟩) w :=
  run_convert_bytes_back w 87 9 5 _ c l Try.underlying87 Try.underlying5 Try.underlying9 (fun j hj => by
    rw [show (⟨b, 0, none⟩ : Addr).add j = ⟨b, j, none⟩ from by unfold Addr.add; split <;> simp_all, Lib.cell_of_heap h]
    simp [hj])
theorem eight_get (x : Nat) : (eight x).map (fun c => Value.int .u8 (c.toNat : Int)) = [.int .u8 ((x : Int) / 72057594037927936 % 256), .int .u8 ((x : Int) / 281474976710656 % 256), .int .u8 ((x : Int) / 1099511627776 % 256), .int .u8 ((x : Int) / 4294967296 % 256), .int .u8 ((x : Int) / 16777216 % 256), .int .u8 ((x : Int) / 65536 % 256), .int .u8 ((x : Int) / 256 % 256), .int .u8 ((x : Int) % 256)] := by
  simp only [eight, List.map_cons, List.map_nil, UInt8.toNat_ofNat']
  have e0 : ((x / 72057594037927936 % 2 ^ 8 : Nat) : Int) = (x : Int) / 72057594037927936 % 256 := by omega
  have e1 : ((x / 281474976710656 % 2 ^ 8 : Nat) : Int) = (x : Int) / 281474976710656 % 256 := by omega
  have e2 : ((x / 1099511627776 % 2 ^ 8 : Nat) : Int) = (x : Int) / 1099511627776 % 256 := by omega
  have e3 : ((x / 4294967296 % 2 ^ 8 : Nat) : Int) = (x : Int) / 4294967296 % 256 := by omega
  have e4 : ((x / 16777216 % 2 ^ 8 : Nat) : Int) = (x : Int) / 16777216 % 256 := by omega
  have e5 : ((x / 65536 % 2 ^ 8 : Nat) : Int) = (x : Int) / 65536 % 256 := by omega
  have e6 : ((x / 256 % 2 ^ 8 : Nat) : Int) = (x : Int) / 256 % 256 := by omega
  have e7 : ((x % 2 ^ 8 : Nat) : Int) = (x : Int) % 256 := by omega
  rw [e0, e1, e2, e3, e4, e5, e6, e7]

set_option maxHeartbeats 16000000 in
theorem bytes_any (a : Nat) (w : World) :
    Calls Try.prog 34 #[nv a] w fun e w' => e = .returned (.string ⟨(nb a).toArray⟩) ∧ Below w.heap.size w w' := by
  have hc : (convert 87 9 (.slice (some ⟨w.heap.size + 1, 0, none⟩) 32 32)).run Try.prog ((w.alloc (Obj.cells #[.int .u64 (lb a 0 : Nat), .int .u64 (lb a 1 : Nat), .int .u64 (lb a 2 : Nat), .int .u64 (lb a 3 : Nat)] 24)).alloc (Obj.cells #[.int .u8 (((lb a 3 : Nat) : Int) / 72057594037927936 % 256), .int .u8 (((lb a 3 : Nat) : Int) / 281474976710656 % 256), .int .u8 (((lb a 3 : Nat) : Int) / 1099511627776 % 256), .int .u8 (((lb a 3 : Nat) : Int) / 4294967296 % 256), .int .u8 (((lb a 3 : Nat) : Int) / 16777216 % 256), .int .u8 (((lb a 3 : Nat) : Int) / 65536 % 256), .int .u8 (((lb a 3 : Nat) : Int) / 256 % 256), .int .u8 (((lb a 3 : Nat) : Int) % 256), .int .u8 (((lb a 2 : Nat) : Int) / 72057594037927936 % 256), .int .u8 (((lb a 2 : Nat) : Int) / 281474976710656 % 256), .int .u8 (((lb a 2 : Nat) : Int) / 1099511627776 % 256), .int .u8 (((lb a 2 : Nat) : Int) / 4294967296 % 256), .int .u8 (((lb a 2 : Nat) : Int) / 16777216 % 256), .int .u8 (((lb a 2 : Nat) : Int) / 65536 % 256), .int .u8 (((lb a 2 : Nat) : Int) / 256 % 256), .int .u8 (((lb a 2 : Nat) : Int) % 256), .int .u8 (((lb a 1 : Nat) : Int) / 72057594037927936 % 256), .int .u8 (((lb a 1 : Nat) : Int) / 281474976710656 % 256), .int .u8 (((lb a 1 : Nat) : Int) / 1099511627776 % 256), .int .u8 (((lb a 1 : Nat) : Int) / 4294967296 % 256), .int .u8 (((lb a 1 : Nat) : Int) / 16777216 % 256), .int .u8 (((lb a 1 : Nat) : Int) / 65536 % 256), .int .u8 (((lb a 1 : Nat) : Int) / 256 % 256), .int .u8 (((lb a 1 : Nat) : Int) % 256), .int .u8 (((lb a 0 : Nat) : Int) / 72057594037927936 % 256), .int .u8 (((lb a 0 : Nat) : Int) / 281474976710656 % 256), .int .u8 (((lb a 0 : Nat) : Int) / 1099511627776 % 256), .int .u8 (((lb a 0 : Nat) : Int) / 4294967296 % 256), .int .u8 (((lb a 0 : Nat) : Int) / 16777216 % 256), .int .u8 (((lb a 0 : Nat) : Int) / 65536 % 256), .int .u8 (((lb a 0 : Nat) : Int) / 256 % 256), .int .u8 (((lb a 0 : Nat) : Int) % 256)] 86)) = .ok (.string ⟨(nb a).toArray⟩) _ :=
    conv_row (l := nb a) (c := 32) (b := w.heap.size + 1) (T := 86) (z := (0, 0)) (by
      have hm : (nb a).map (fun c => Value.int .u8 (c.toNat : Int)) = [.int .u8 (((lb a 3 : Nat) : Int) / 72057594037927936 % 256), .int .u8 (((lb a 3 : Nat) : Int) / 281474976710656 % 256), .int .u8 (((lb a 3 : Nat) : Int) / 1099511627776 % 256), .int .u8 (((lb a 3 : Nat) : Int) / 4294967296 % 256), .int .u8 (((lb a 3 : Nat) : Int) / 16777216 % 256), .int .u8 (((lb a 3 : Nat) : Int) / 65536 % 256), .int .u8 (((lb a 3 : Nat) : Int) / 256 % 256), .int .u8 (((lb a 3 : Nat) : Int) % 256), .int .u8 (((lb a 2 : Nat) : Int) / 72057594037927936 % 256), .int .u8 (((lb a 2 : Nat) : Int) / 281474976710656 % 256), .int .u8 (((lb a 2 : Nat) : Int) / 1099511627776 % 256), .int .u8 (((lb a 2 : Nat) : Int) / 4294967296 % 256), .int .u8 (((lb a 2 : Nat) : Int) / 16777216 % 256), .int .u8 (((lb a 2 : Nat) : Int) / 65536 % 256), .int .u8 (((lb a 2 : Nat) : Int) / 256 % 256), .int .u8 (((lb a 2 : Nat) : Int) % 256), .int .u8 (((lb a 1 : Nat) : Int) / 72057594037927936 % 256), .int .u8 (((lb a 1 : Nat) : Int) / 281474976710656 % 256), .int .u8 (((lb a 1 : Nat) : Int) / 1099511627776 % 256), .int .u8 (((lb a 1 : Nat) : Int) / 4294967296 % 256), .int .u8 (((lb a 1 : Nat) : Int) / 16777216 % 256), .int .u8 (((lb a 1 : Nat) : Int) / 65536 % 256), .int .u8 (((lb a 1 : Nat) : Int) / 256 % 256), .int .u8 (((lb a 1 : Nat) : Int) % 256), .int .u8 (((lb a 0 : Nat) : Int) / 72057594037927936 % 256), .int .u8 (((lb a 0 : Nat) : Int) / 281474976710656 % 256), .int .u8 (((lb a 0 : Nat) : Int) / 1099511627776 % 256), .int .u8 (((lb a 0 : Nat) : Int) / 4294967296 % 256), .int .u8 (((lb a 0 : Nat) : Int) / 16777216 % 256), .int .u8 (((lb a 0 : Nat) : Int) / 65536 % 256), .int .u8 (((lb a 0 : Nat) : Int) / 256 % 256), .int .u8 (((lb a 0 : Nat) : Int) % 256)] := by
        unfold nb
        rw [List.map_append, List.map_append, List.map_append, eight_get, eight_get, eight_get, eight_get]
        rfl
      rw [hm]
      exact Bk.new (by simp))
  simp only [nv, num]
  generalize lb a 0 = A0 at *
  generalize lb a 1 = A1 at *
  generalize lb a 2 = A2 at *
  generalize lb a 3 = A3 at *
  generalize nb a = res at *
  go_enter Try.func34, Try.ntmps34
  have HC := Lib.hid hc
  clear hc
  go_wp2_with fail
  refine wp_loop_rounds 33 ?_
  iterate 32 (rw [rounds_succ]; go_wp2_with fail)
  rw [rounds_succ]
  have hc := HC.out
  go_wp2_with fail
  go_ret
  exact ⟨rfl, by go_grown⟩
end Go.Proofs.Ytglmmodkflkkkaa
