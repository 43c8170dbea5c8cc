/- The law of 'append' on a row of bytes of the call's own; what head answers. Conditions: a kind's number up to 7, an n up to 2^63 - 1. -/
import Derived.Test.YtghdcgokndmkjaaDoorF
import Derived.Deep.AppendLies
import Derived.Deep.RegionHeld3
import Derived.Deep.RegionLaw
import Derived.Deep.QuietTactic
import Derived.BigQuiet
import Derived.Laws.IdiomStrings
import Derived.Lib.BufferRead
set_option linter.unusedVariables false
set_option linter.unusedSimpArgs false
namespace Go.Proofs.YtghdcgokndmkjaaDoor
open Go.RowKit

theorem byteCells_snoc (l : List UInt8) (c : UInt8) : Lib.byteCells l ++ [.int .u8 c.toNat] = Lib.byteCells (l ++ [c]) := by
  rw [Lib.byteCells_append]; rfl
/-- v is a slice of the call's own that holds the bytes l -/
def Rw (B : Nat) (v : Value) (l : List UInt8) (w : World) : Prop := w.ownsRow B 5 1 v l.length (Lib.byteCells l)

theorem Rw.snoc2 {B : Nat} {v : Value} {l : List UInt8} {w : World} {c d : UInt8} (h : w.ownsRow B 5 1 v (l.length + 2) (Lib.byteCells l ++ [.int .u8 c.toNat, .int .u8 d.toNat])) : Rw B v (l ++ [c] ++ [d]) w := by
  have e : Lib.byteCells (l ++ [c] ++ [d]) = Lib.byteCells l ++ [.int .u8 c.toNat, .int .u8 d.toNat] := by
    simp [Lib.byteCells]
  unfold Rw
  rw [e]
  simpa using h
theorem Rw.snoc {B : Nat} {v : Value} {l : List UInt8} {w : World} {c : UInt8} (h : w.ownsRow B 5 1 v (l.length + 1) (Lib.byteCells l ++ [.int .u8 c.toNat])) : Rw B v (l ++ [c]) w := by
  unfold Rw
  rw [← byteCells_snoc]
  simpa using h
theorem Rw.conv {B : Nat} {v : Value} {l : List UInt8} {w : World} (h : Rw B v l w) : (convert 55 9 v).run Tryd.prog w = .ok (.string ⟨l.toArray⟩) w := by
  rcases h.2 with ⟨rfl, h0⟩ | ⟨g, cap, cur, rfl, hg, hh, _⟩
  · have : l = [] := List.eq_nil_of_length_eq_zero h0
    subst this
    exact Lib.run_convert_nil_bytes w 55 9 5 _ Tryd.underlying55 Tryd.underlying5 Tryd.underlying9
  · refine run_convert_bytes_back w 55 9 5 _ cap l Tryd.underlying55 Tryd.underlying5 Tryd.underlying9 (fun j hj => ?_)
    exact World.ownsRow.cells h (g := g) rfl j _ (by simp [Lib.byteCells, hj])
theorem Rw.start (w : World) : Rw w.heap.size (.slice (some ⟨w.heap.size, 0, none⟩) 0 0) [] (w.alloc (.cells #[] 5)) :=
  ⟨rfl, .inr ⟨w.heap.size, 0, #[], rfl, Nat.le_refl _, heap_alloc_new w _, Nat.le_refl _, Nat.zero_le _, rfl, rfl⟩⟩

theorem below_drewN {B : Nat} {a w : World} (h : Below B a w) (n : Nat) : Below B a (w.drewN n) := ⟨h.os, h.tape, h.output, h.size, h.block⟩
theorem Rw.drewN {B : Nat} {v : Value} {l : List UInt8} {w : World} (h : Rw B v l w) (n : Nat) : Rw B v l (w.drewN n) := h
theorem Rw.drew {B : Nat} {v : Value} {l : List UInt8} {w : World} (h : Rw B v l w) : Rw B v l w.drew := h
theorem Rw.below {B : Nat} {v : Value} {l : List UInt8} {w w' : World} (h : Rw B v l w) (hb : Below w.heap.size w w') : Rw B v l w' := by
  refine ⟨h.1, ?_⟩
  rcases h.2 with hn | ⟨g, cap, cur, hv, hg, hh, rest⟩
  · exact .inl hn
  · exact .inr ⟨g, cap, cur, hv, hg, (hb.block _ (blk_lt hh)).trans hh, rest⟩
theorem Rw.alloc {B : Nat} {v : Value} {l : List UInt8} {w : World} (h : Rw B v l w) (o : Obj) : Rw B v l (w.alloc o) := h.below ((Below.refl _ _).alloc (Nat.le_refl _) o)
theorem Rw.grown {B : Nat} {v : Value} {l : List UInt8} {w w' W : World} (h : Rw B v l w) (hb : Below B W w) (hg : w.grownBy w' v.ownBlock) (hB : B ≤ W.heap.size) : Below B W w' :=
  hb.grown hg (by have := hb.size; omega) (fun g hk => (World.ownsRow.lt h g hk).1)

/-- 'b = append(b, c)' on a row of bytes of the call's own -/
theorem app1 {ops : Array Oper} {rest : List Oper} {o : Oper} {a : Act} {Q : Exit → Act → World → Prop} {w W : World} {B : Nat} {v : Value} {l : List UInt8} (n : Int) (c : UInt8) (hn : n = (c.toNat : Int)) (s x : Operand) (hgd : o.guard = none)
    (ho : o.op = .call { callee := .builtin .append, args := #[s, x], argTypes := #[55, 55] }) (hs : a.eval s = v) (hx : a.eval x = .slice (some ⟨w.heap.size, 0, none⟩) 1 1)
    (hI : Rw B v l w) (hb : Below B W w) (hB : B ≤ W.heap.size) (hlen : l.length ≤ 281474976710)
    (h : ∀ v' w', Rw B v' (l ++ [c]) w' → Below B W w' → wpList Tryd.prog ops Q rest (a.put o.dst v') w') : wpList Tryd.prog ops Q (o :: rest) a (w.alloc (.cells #[.int .u8 n] 5)) := by
  subst hn
  obtain ⟨i0, hi, hz0, hz1, hz2⟩ := info_parts infoByte
  have hI' := hI.alloc (.cells #[.int .u8 (c.toNat : Int)] 5)
  have hsz := hb.size
  refine wpList_append_own _ hgd s x 55 ho B 5 i0 (.int .u8 0) 1 1 Tryd.underlying55 hi hz0 hz1 hz2 rfl (by decide) v l.length _ hs hI' ⟨w.heap.size, 0, none⟩ 1 1 [.int .u8 c.toNat] hx rfl (World.news_of_block (heap_alloc_new w _)) (by simp [Value.oneCell']) (by unfold maxLen; omega) (by omega) (by simp; omega) ?_
  intro v' w' h1 h2 _
  exact h v' w' (Rw.snoc h1) (hI'.grown (hb.alloc (by omega) _) h2 hB)

theorem ret_str {a b : ByteArray} (h : a = b) : Ending.returned (.string a) = .returned (.string b) := by rw [h]
theorem Rw.one (w : World) (x : Int) (c : UInt8) (h : x = (c.toNat : Int)) : Rw w.heap.size (.slice (some ⟨w.heap.size, 0, none⟩) 1 1) [c] (w.alloc (.cells #[.int .u8 x] 5)) := by
  subst h
  exact ⟨rfl, .inr ⟨w.heap.size, 1, #[.int .u8 c.toNat], rfl, Nat.le_refl _, heap_alloc_new w _, Nat.le_refl _, by decide, rfl, rfl⟩⟩
theorem u8kind (k a : Nat) (h : 32 * k + a < 256) : ((k : Int) * 32 + a) = ((b8 (32 * k + a)).toNat : Int) := by
  rw [b8_toNat]; omega

set_option maxHeartbeats 1000000 in
set_option maxRecDepth 100000 in
theorem head_0 (k n : Nat) (w : World) (hk : k ≤ 7) (h1 : n < 24) :
    Calls Tryd.prog 39 #[.int .i64 k, .int .i64 n] w fun e w' => e = .returned (.string ⟨(headL k n).toArray⟩) ∧ Below w.heap.size w w' := by
  have hcv := (Rw.one w ((k : Int) * 32 + n) (b8 (32 * k + n)) (u8kind k n (by omega))).conv
  have HL : Hid (headL k n = [b8 (32 * k + n)]) := Lib.hid (by rw [headL, if_pos h1])
  go_enter Tryd.func39, Tryd.ntmps39
  go_wp2_with fail
  go_ret
  exact ⟨ret_str (by rw [HL.out]), (Below.refl _ _).alloc (Nat.le_refl _) _⟩

set_option maxHeartbeats 4000000 in
set_option maxRecDepth 100000 in
theorem head_1 (k n : Nat) (w : World) (hk : k ≤ 7) (h0 : 24 ≤ n) (h1 : n < 256) :
    Calls Tryd.prog 39 #[.int .i64 k, .int .i64 n] w fun e w' => e = .returned (.string ⟨(headL k n).toArray⟩) ∧ Below w.heap.size w w' := by
  have hI0 := Rw.one w ((k : Int) * 32 + 24) (b8 (32 * k + 24)) (by rw [← u8kind k 24 (by omega)]; omega)
  have hb0 : Below w.heap.size w (w.alloc (.cells #[.int .u8 ((k : Int) * 32 + 24)] 5)) := (Below.refl _ _).alloc (Nat.le_refl _) _
  have HL : Hid (headL k n = b8 (32 * k + 24) :: be 1 n) := Lib.hid (by rw [headL, if_neg (by omega), if_pos h1])
  go_enter Tryd.func39, Tryd.ntmps39
  go_wp2_with fail
  refine wp_loop_rounds 1 ?_
  rw [rounds_succ]
  go_wp2_with fail
  generalize w.alloc (.cells #[.int .u8 ((k : Int) * 32 + 24)] 5) = w0 at hI0 hb0 ⊢
  refine wp_loop_rounds 2 ?_
  rw [rounds_succ]
  go_wp2_with (at_builtin; go_loud (refine app1 _ (b8 (n / 1)) ?hn _ _ rfl rfl rfl rfl hI0 hb0 (Nat.le_refl _) (by simp) ?_))
  case hn => (try rw [IntKind.wrap_u8]); rw [b8_toNat]; omega
  intro v1 w1 hI1 hb1
  have hcv := hI1.conv
  go_wp2_with fail
  rw [rounds_succ]
  go_wp2_with fail
  go_ret
  exact ⟨ret_str (by rw [HL.out]; simp [be, List.range_succ]), hb1⟩

set_option maxHeartbeats 4000000 in
set_option maxRecDepth 100000 in
theorem head_2 (k n : Nat) (w : World) (hk : k ≤ 7) (h0 : 256 ≤ n) (h1 : n < 65536) :
    Calls Tryd.prog 39 #[.int .i64 k, .int .i64 n] w fun e w' => e = .returned (.string ⟨(headL k n).toArray⟩) ∧ Below w.heap.size w w' := by
  have hI0 := Rw.one w ((k : Int) * 32 + 24 + 1) (b8 (32 * k + 25)) (by rw [← u8kind k 25 (by omega)]; omega)
  have hb0 : Below w.heap.size w (w.alloc (.cells #[.int .u8 ((k : Int) * 32 + 24 + 1)] 5)) := (Below.refl _ _).alloc (Nat.le_refl _) _
  have HL : Hid (headL k n = b8 (32 * k + 25) :: be 2 n) := Lib.hid (by rw [headL, if_neg (by omega), if_neg (by omega), if_pos h1])
  go_enter Tryd.func39, Tryd.ntmps39
  go_wp2_with fail
  refine wp_loop_rounds 2 ?_
  rw [rounds_succ]
  go_wp2_with fail
  rw [rounds_succ]
  go_wp2_with fail
  generalize w.alloc (.cells #[.int .u8 ((k : Int) * 32 + 24 + 1)] 5) = w0 at hI0 hb0 ⊢
  refine wp_loop_rounds 3 ?_
  rw [rounds_succ]
  go_wp2_with (at_builtin; go_loud (refine app1 _ (b8 (n / 256)) ?hn _ _ rfl rfl rfl rfl hI0 hb0 (Nat.le_refl _) (by simp) ?_))
  case hn => (try rw [IntKind.wrap_u8]); rw [b8_toNat]; omega
  intro v1 w1 hI1 hb1
  go_wp2_with fail
  rw [rounds_succ]
  go_wp2_with (at_builtin; go_loud (refine app1 _ (b8 (n / 1)) ?hn _ _ rfl rfl rfl rfl hI1 hb1 (Nat.le_refl _) (by simp) ?_))
  case hn => (try rw [IntKind.wrap_u8]); rw [b8_toNat]; omega
  intro v2 w2 hI2 hb2
  have hcv := hI2.conv
  go_wp2_with fail
  rw [rounds_succ]
  go_wp2_with fail
  go_ret
  exact ⟨ret_str (by rw [HL.out]; simp [be, List.range_succ]), hb2⟩

set_option maxHeartbeats 4000000 in
set_option maxRecDepth 100000 in
theorem head_4 (k n : Nat) (w : World) (hk : k ≤ 7) (h0 : 65536 ≤ n) (h1 : n < 4294967296) :
    Calls Tryd.prog 39 #[.int .i64 k, .int .i64 n] w fun e w' => e = .returned (.string ⟨(headL k n).toArray⟩) ∧ Below w.heap.size w w' := by
  have hI0 := Rw.one w ((k : Int) * 32 + 24 + 1 + 1) (b8 (32 * k + 26)) (by rw [← u8kind k 26 (by omega)]; omega)
  have hb0 : Below w.heap.size w (w.alloc (.cells #[.int .u8 ((k : Int) * 32 + 24 + 1 + 1)] 5)) := (Below.refl _ _).alloc (Nat.le_refl _) _
  have HL : Hid (headL k n = b8 (32 * k + 26) :: be 4 n) := Lib.hid (by rw [headL, if_neg (by omega), if_neg (by omega), if_neg (by omega), if_pos h1])
  go_enter Tryd.func39, Tryd.ntmps39
  go_wp2_with fail
  refine wp_loop_rounds 3 ?_
  rw [rounds_succ]
  go_wp2_with fail
  rw [rounds_succ]
  go_wp2_with fail
  rw [rounds_succ]
  go_wp2_with fail
  generalize w.alloc (.cells #[.int .u8 ((k : Int) * 32 + 24 + 1 + 1)] 5) = w0 at hI0 hb0 ⊢
  refine wp_loop_rounds 5 ?_
  rw [rounds_succ]
  go_wp2_with (at_builtin; go_loud (refine app1 _ (b8 (n / 16777216)) ?hn _ _ rfl rfl rfl rfl hI0 hb0 (Nat.le_refl _) (by simp) ?_))
  case hn => (try rw [IntKind.wrap_u8]); rw [b8_toNat]; omega
  intro v1 w1 hI1 hb1
  go_wp2_with fail
  rw [rounds_succ]
  go_wp2_with (at_builtin; go_loud (refine app1 _ (b8 (n / 65536)) ?hn _ _ rfl rfl rfl rfl hI1 hb1 (Nat.le_refl _) (by simp) ?_))
  case hn => (try rw [IntKind.wrap_u8]); rw [b8_toNat]; omega
  intro v2 w2 hI2 hb2
  go_wp2_with fail
  rw [rounds_succ]
  go_wp2_with (at_builtin; go_loud (refine app1 _ (b8 (n / 256)) ?hn _ _ rfl rfl rfl rfl hI2 hb2 (Nat.le_refl _) (by simp) ?_))
  case hn => (try rw [IntKind.wrap_u8]); rw [b8_toNat]; omega
  intro v3 w3 hI3 hb3
  go_wp2_with fail
  rw [rounds_succ]
  go_wp2_with (at_builtin; go_loud (refine app1 _ (b8 (n / 1)) ?hn _ _ rfl rfl rfl rfl hI3 hb3 (Nat.le_refl _) (by simp) ?_))
  case hn => (try rw [IntKind.wrap_u8]); rw [b8_toNat]; omega
  intro v4 w4 hI4 hb4
  have hcv := hI4.conv
  go_wp2_with fail
  rw [rounds_succ]
  go_wp2_with fail
  go_ret
  exact ⟨ret_str (by rw [HL.out]; simp [be, List.range_succ]), hb4⟩

set_option maxHeartbeats 4000000 in
set_option maxRecDepth 100000 in
theorem head_8 (k n : Nat) (w : World) (hk : k ≤ 7) (h0 : 4294967296 ≤ n) (h1 : n < 9223372036854775808) :
    Calls Tryd.prog 39 #[.int .i64 k, .int .i64 n] w fun e w' => e = .returned (.string ⟨(headL k n).toArray⟩) ∧ Below w.heap.size w w' := by
  have hI0 := Rw.one w ((k : Int) * 32 + 24 + 1 + 1 + 1) (b8 (32 * k + 27)) (by rw [← u8kind k 27 (by omega)]; omega)
  have hb0 : Below w.heap.size w (w.alloc (.cells #[.int .u8 ((k : Int) * 32 + 24 + 1 + 1 + 1)] 5)) := (Below.refl _ _).alloc (Nat.le_refl _) _
  have HL : Hid (headL k n = b8 (32 * k + 27) :: be 8 n) := Lib.hid (by rw [headL, if_neg (by omega), if_neg (by omega), if_neg (by omega), if_neg (by omega)])
  go_enter Tryd.func39, Tryd.ntmps39
  go_wp2_with fail
  refine wp_loop_rounds 4 ?_
  rw [rounds_succ]
  go_wp2_with fail
  rw [rounds_succ]
  go_wp2_with fail
  rw [rounds_succ]
  go_wp2_with fail
  rw [rounds_succ]
  go_wp2_with fail
  generalize w.alloc (.cells #[.int .u8 ((k : Int) * 32 + 24 + 1 + 1 + 1)] 5) = w0 at hI0 hb0 ⊢
  refine wp_loop_rounds 9 ?_
  rw [rounds_succ]
  go_wp2_with (at_builtin; go_loud (refine app1 _ (b8 (n / 72057594037927936)) ?hn _ _ rfl rfl rfl rfl hI0 hb0 (Nat.le_refl _) (by simp) ?_))
  case hn => (try rw [IntKind.wrap_u8]); rw [b8_toNat]; omega
  intro v1 w1 hI1 hb1
  go_wp2_with fail
  rw [rounds_succ]
  go_wp2_with (at_builtin; go_loud (refine app1 _ (b8 (n / 281474976710656)) ?hn _ _ rfl rfl rfl rfl hI1 hb1 (Nat.le_refl _) (by simp) ?_))
  case hn => (try rw [IntKind.wrap_u8]); rw [b8_toNat]; omega
  intro v2 w2 hI2 hb2
  go_wp2_with fail
  rw [rounds_succ]
  go_wp2_with (at_builtin; go_loud (refine app1 _ (b8 (n / 1099511627776)) ?hn _ _ rfl rfl rfl rfl hI2 hb2 (Nat.le_refl _) (by simp) ?_))
  case hn => (try rw [IntKind.wrap_u8]); rw [b8_toNat]; omega
  intro v3 w3 hI3 hb3
  go_wp2_with fail
  rw [rounds_succ]
  go_wp2_with (at_builtin; go_loud (refine app1 _ (b8 (n / 4294967296)) ?hn _ _ rfl rfl rfl rfl hI3 hb3 (Nat.le_refl _) (by simp) ?_))
  case hn => (try rw [IntKind.wrap_u8]); rw [b8_toNat]; omega
  intro v4 w4 hI4 hb4
  go_wp2_with fail
  rw [rounds_succ]
  go_wp2_with (at_builtin; go_loud (refine app1 _ (b8 (n / 16777216)) ?hn _ _ rfl rfl rfl rfl hI4 hb4 (Nat.le_refl _) (by simp) ?_))
  case hn => (try rw [IntKind.wrap_u8]); rw [b8_toNat]; omega
  intro v5 w5 hI5 hb5
  go_wp2_with fail
  rw [rounds_succ]
  go_wp2_with (at_builtin; go_loud (refine app1 _ (b8 (n / 65536)) ?hn _ _ rfl rfl rfl rfl hI5 hb5 (Nat.le_refl _) (by simp) ?_))
  case hn => (try rw [IntKind.wrap_u8]); rw [b8_toNat]; omega
  intro v6 w6 hI6 hb6
  go_wp2_with fail
  rw [rounds_succ]
  go_wp2_with (at_builtin; go_loud (refine app1 _ (b8 (n / 256)) ?hn _ _ rfl rfl rfl rfl hI6 hb6 (Nat.le_refl _) (by simp) ?_))
  case hn => (try rw [IntKind.wrap_u8]); rw [b8_toNat]; omega
  intro v7 w7 hI7 hb7
  go_wp2_with fail
  rw [rounds_succ]
  go_wp2_with (at_builtin; go_loud (refine app1 _ (b8 (n / 1)) ?hn _ _ rfl rfl rfl rfl hI7 hb7 (Nat.le_refl _) (by simp) ?_))
  case hn => (try rw [IntKind.wrap_u8]); rw [b8_toNat]; omega
  intro v8 w8 hI8 hb8
  have hcv := hI8.conv
  go_wp2_with fail
  rw [rounds_succ]
  go_wp2_with fail
  go_ret
  exact ⟨ret_str (by rw [HL.out]; simp [be, List.range_succ]), hb8⟩

theorem head_any (k n : Nat) (w : World) (hk : k ≤ 7) (hn : n ≤ 9223372036854775807) :
    Calls Tryd.prog 39 #[.int .i64 k, .int .i64 n] w fun e w' => e = .returned (.string ⟨(headL k n).toArray⟩) ∧ Below w.heap.size w w' := by
  by_cases h1 : n < 24
  · exact head_0 k n w hk h1
  by_cases h2 : n < 256
  · exact head_1 k n w hk (by omega) h2
  by_cases h3 : n < 65536
  · exact head_2 k n w hk (by omega) h3
  by_cases h4 : n < 4294967296
  · exact head_4 k n w hk (by omega) h4
  · exact head_8 k n w hk (by omega) (by omega)
end Go.Proofs.YtghdcgokndmkjaaDoor
