/- The document's reader: its bytes of a head, as far as their number goes. No condition but the number's size. -/
import Derived.Test.YtghdcgokndmkjaaDoorQ
import Derived.Test.YtghdcgokndmkjaaDoorPa
import Derived.LoopN
set_option linter.unusedVariables false
set_option linter.unusedSimpArgs false
set_option maxRecDepth 100000
namespace Go.Proofs.YtghdcgokndmkjaaDoor
open Go.RowKit Go.Sort

theorem be_succ (m n : Nat) : be (m + 1) n = be m (n / 256) ++ [b8 n] := by
  unfold be
  rw [List.range_succ, List.map_append]
  congr 1
  · apply List.map_congr_left
    intro i hi
    have hi := List.mem_range.1 hi
    rw [Nat.div_div_eq_div_mul, show m + 1 - 1 - i = (m - 1 - i) + 1 from by omega, Nat.pow_succ, Nat.mul_comm]
  · simp
theorem b8_of (c : UInt8) (n : Nat) : b8 (n * 256 + c.toNat) = c := by
  unfold b8
  apply UInt8.toNat_inj.1
  rw [UInt8.toNat_ofNat']
  have := c.toNat_lt
  omega
theorem be_beVal' : ∀ (m : Nat) (l : List UInt8), l.length = m → be m (beVal l) = l
  | 0, l, h => by rw [List.eq_nil_of_length_eq_zero h]; rfl
  | m + 1, l, h => by
    rcases List.eq_nil_or_concat l with e | ⟨r, c, e⟩
    · subst e; simp at h
    · rw [List.concat_eq_append] at e
      subst e
      have hr : r.length = m := by simpa using h
      rw [be_succ, beVal_snoc, b8_of]
      congr 1
      have := c.toNat_lt
      rw [show (beVal r * 256 + c.toNat) / 256 = beVal r from by omega, be_beVal' m r hr]
theorem be_beVal (l : List UInt8) : be l.length (beVal l) = l := be_beVal' _ l rfl
/-- how many bytes stand behind a head's first one -/
def manyOf (n : Nat) : Nat := if n < 24 then 0 else if n < 256 then 1 else if n < 65536 then 2 else if n < 4294967296 then 4 else 8
theorem headL_many (k n : Nat) : (headL k n).length = 1 + manyOf n := by
  unfold headL manyOf
  split
  · rfl
  · split
    · simp [be_length]
    · split
      · simp [be_length]
      · split
        · simp [be_length]
        · simp [be_length]
theorem head_canon (k j : Nat) (l : List UInt8) (hj : j ≤ 3) (hl : l.length = 2 ^ j) : headL k (beVal l) = b8 (32 * k + 24 + j) :: l ↔ manyOf (beVal l) = 2 ^ j := by
  constructor
  · intro h
    have := congrArg List.length h
    rw [headL_many, List.length_cons, hl] at this
    omega
  · intro h
    have hb := be_beVal l
    rw [hl] at hb
    unfold manyOf at h
    unfold headL
    rcases (by omega : j = 0 ∨ j = 1 ∨ j = 2 ∨ j = 3) with rfl | rfl | rfl | rfl
    all_goals
      simp only [Nat.reducePow] at h hb
      split at h
      · omega
      · split at h
        · first | (rename_i h1 h2; rw [if_neg h1, if_pos h2, hb]; done) | omega
        · split at h
          · first | (rename_i h1 h2 h3; rw [if_neg h1, if_neg h2, if_pos h3, hb]; done) | omega
          · split at h
            · first | (rename_i h1 h2 h3 h4; rw [if_neg h1, if_neg h2, if_neg h3, if_pos h4, hb]; done) | omega
            · first | (rename_i h1 h2 h3 h4; rw [if_neg h1, if_neg h2, if_neg h3, if_neg h4, hb]; done) | omega
theorem wrap_u8 (x : Int) : ∃ c : UInt8, IntKind.u8.wrap x = (c.toNat : Int) := by
  have h : 0 ≤ x % 256 ∧ x % 256 < 256 := by omega
  refine ⟨UInt8.ofNat (x % 256).toNat, ?_⟩
  rw [UInt8.toNat_ofNat']
  show x % 256 = _
  omega
theorem u8_of (x : Int) (h : 0 ≤ x ∧ x < 256) : ∃ c : UInt8, x = (c.toNat : Int) := by
  refine ⟨UInt8.ofNat x.toNat, ?_⟩
  rw [UInt8.toNat_ofNat']
  omega
theorem Rw.shape {B : Nat} {v : Value} {l : List UInt8} {w : World} (h : Rw B v l w) : ∃ a c, v = .slice a l.length c := by
  obtain ⟨_, ⟨rfl, h0⟩ | ⟨g, cap, cur, rfl, _⟩⟩ := h
  · exact ⟨none, 0, by rw [h0]⟩
  · exact ⟨_, _, rfl⟩
set_option maxHeartbeats 4000000 in
theorem refhead0 (k n : Nat) (hk : k ≤ 7) (h1 : n < 24) (w : World) :
    Calls Tryd.prog 46 #[.int .i64 (k : Int), .int .i64 (n : Int)] w fun e w' => (∃ a c, e = .returned (.slice a 1 c)) ∧ Below w.heap.size w w' := by
  have t0 : decide ((n : Int) < 24) = true := by simp; omega
  obtain ⟨c, hc⟩ := u8_of (32 * (k : Int) + (n : Int)) (by omega)
  have I0 : Hid (Rw w.heap.size (.slice (some ⟨w.heap.size, 0, none⟩) 1 1) [c] (w.alloc (.cells #[.int .u8 (32 * (k : Int) + (n : Int))] 5))) := Lib.hid (Rw.one w _ c hc)
  have B0 : Hid (Below w.heap.size w (w.alloc (.cells #[.int .u8 (32 * (k : Int) + (n : Int))] 5))) := Lib.hid ((Below.refl _ _).alloc (Nat.le_refl _) _)
  clear hc
  go_enter Tryd.func46, Tryd.ntmps46
  go_wp2_with fail
  generalize (w.alloc (.cells #[.int .u8 (32 * (k : Int) + (n : Int))] 5)) = w0 at I0 B0 ⊢
  go_loopw [7, 8] (fun v i wr => ∃ (l : List UInt8) (j : Nat) (a : Option Addr) (ln c : Nat), j ≤ 0 ∧ i = .int .i64 ((j : Int) - 1) ∧ ln = 1 + (0 - j) ∧ Hid (l.length = ln) ∧ v = .slice a ln c ∧ Hid (Rw w.heap.size (.slice a ln c) l wr) ∧ Hid (Below w.heap.size w wr)) (fun _ i _ => (intOf i + 1).toNat)
  case atStart => exact ⟨[c], 0, some ⟨w.heap.size, 0, none⟩, 1, 1, by omega, by go_num, by omega, Lib.hid rfl, rfl, I0, B0⟩
  case round =>
    clear I0 B0
    obtain ⟨l, j, a, ln, c, hj, rfl, hln, HL, rfl, HI, HB⟩ := hrel
    by_cases hj0 : j = 0
    · subst hj0
      obtain rfl : ln = 1 := by omega
      go_wp2_with fail
      go_ret
      exact ⟨⟨_, _, rfl⟩, HB.out⟩
    · omega
set_option maxHeartbeats 4000000 in
theorem refhead1 (k n : Nat) (hk : k ≤ 7) (h0 : 24 ≤ n) (h1 : n < 256) (w : World) :
    Calls Tryd.prog 46 #[.int .i64 (k : Int), .int .i64 (n : Int)] w fun e w' => (∃ a c, e = .returned (.slice a 2 c)) ∧ Below w.heap.size w w' := by
  have t0 : decide ((n : Int) < 24) = false := by simp; omega
  have t1 : decide ((n : Int) < 256) = true := by simp; omega
  obtain ⟨c, hc⟩ := u8_of (32 * (k : Int) + 24) (by omega)
  have I0 : Hid (Rw w.heap.size (.slice (some ⟨w.heap.size, 0, none⟩) 1 1) [c] (w.alloc (.cells #[.int .u8 (32 * (k : Int) + 24)] 5))) := Lib.hid (Rw.one w _ c hc)
  have B0 : Hid (Below w.heap.size w (w.alloc (.cells #[.int .u8 (32 * (k : Int) + 24)] 5))) := Lib.hid ((Below.refl _ _).alloc (Nat.le_refl _) _)
  clear hc h0
  go_enter Tryd.func46, Tryd.ntmps46
  go_wp2_with fail
  generalize (w.alloc (.cells #[.int .u8 (32 * (k : Int) + 24)] 5)) = w0 at I0 B0 ⊢
  go_loopw [7, 8] (fun v i wr => ∃ (l : List UInt8) (j : Nat) (a : Option Addr) (ln c : Nat), j ≤ 1 ∧ i = .int .i64 ((j : Int) - 1) ∧ ln = 1 + (1 - j) ∧ Hid (l.length = ln) ∧ v = .slice a ln c ∧ Hid (Rw w.heap.size (.slice a ln c) l wr) ∧ Hid (Below w.heap.size w wr)) (fun _ i _ => (intOf i + 1).toNat)
  case atStart => exact ⟨[c], 1, some ⟨w.heap.size, 0, none⟩, 1, 1, by omega, by go_num, by omega, Lib.hid rfl, rfl, I0, B0⟩
  case round =>
    clear I0 B0
    obtain ⟨l, j, a, ln, c, hj, rfl, hln, HL, rfl, HI, HB⟩ := hrel
    by_cases hj0 : j = 0
    · subst hj0
      obtain rfl : ln = 2 := by omega
      go_wp2_with fail
      go_ret
      exact ⟨⟨_, _, rfl⟩, HB.out⟩
    · obtain ⟨q, rfl⟩ : ∃ q, j = q + 1 := ⟨j - 1, by omega⟩
      have e1 : ((q + 1 : Nat) : Int) - 1 = (q : Int) := by omega
      rw [e1]
      have HLN : Hid (l.length ≤ 281474976710) := Lib.hid (by have := HL.out; omega)
      have HLL : Hid (ln + 1 = 1 + (1 - q)) := Lib.hid (by omega)
      clear e1 hln
      go_wp2_with (at_builtin; refine app1 _ _ (wrap_u8 _).choose_spec _ _ rfl rfl rfl rfl HI.out HB.out (Nat.le_refl _) HLN.out ?_; intro v' w' hR hb; obtain ⟨a', c', hv'⟩ := hR.shape; rw [List.length_append, List.length_singleton, HL.out] at hv'; subst hv'; replace hR := Lib.hid hR; replace hb := Lib.hid hb)
      go_roundw
      case rel => exact ⟨_, q, a', ln + 1, c', by omega, by go_num, HLL.out, Lib.hid (by rw [List.length_append, List.length_singleton, HL.out]), rfl, hR, hb⟩
      case measure => simp [intOf] <;> omega
set_option maxHeartbeats 4000000 in
theorem refhead2 (k n : Nat) (hk : k ≤ 7) (h0 : 256 ≤ n) (h1 : n < 65536) (w : World) :
    Calls Tryd.prog 46 #[.int .i64 (k : Int), .int .i64 (n : Int)] w fun e w' => (∃ a c, e = .returned (.slice a 3 c)) ∧ Below w.heap.size w w' := by
  have t0 : decide ((n : Int) < 24) = false := by simp; omega
  have t1 : decide ((n : Int) < 256) = false := by simp; omega
  have t2 : decide ((n : Int) < 65536) = true := by simp; omega
  obtain ⟨c, hc⟩ := u8_of (32 * (k : Int) + 25) (by omega)
  have I0 : Hid (Rw w.heap.size (.slice (some ⟨w.heap.size, 0, none⟩) 1 1) [c] (w.alloc (.cells #[.int .u8 (32 * (k : Int) + 25)] 5))) := Lib.hid (Rw.one w _ c hc)
  have B0 : Hid (Below w.heap.size w (w.alloc (.cells #[.int .u8 (32 * (k : Int) + 25)] 5))) := Lib.hid ((Below.refl _ _).alloc (Nat.le_refl _) _)
  clear hc h0
  go_enter Tryd.func46, Tryd.ntmps46
  go_wp2_with fail
  generalize (w.alloc (.cells #[.int .u8 (32 * (k : Int) + 25)] 5)) = w0 at I0 B0 ⊢
  go_loopw [7, 8] (fun v i wr => ∃ (l : List UInt8) (j : Nat) (a : Option Addr) (ln c : Nat), j ≤ 2 ∧ i = .int .i64 ((j : Int) - 1) ∧ ln = 1 + (2 - j) ∧ Hid (l.length = ln) ∧ v = .slice a ln c ∧ Hid (Rw w.heap.size (.slice a ln c) l wr) ∧ Hid (Below w.heap.size w wr)) (fun _ i _ => (intOf i + 1).toNat)
  case atStart => exact ⟨[c], 2, some ⟨w.heap.size, 0, none⟩, 1, 1, by omega, by go_num, by omega, Lib.hid rfl, rfl, I0, B0⟩
  case round =>
    clear I0 B0
    obtain ⟨l, j, a, ln, c, hj, rfl, hln, HL, rfl, HI, HB⟩ := hrel
    by_cases hj0 : j = 0
    · subst hj0
      obtain rfl : ln = 3 := by omega
      go_wp2_with fail
      go_ret
      exact ⟨⟨_, _, rfl⟩, HB.out⟩
    · obtain ⟨q, rfl⟩ : ∃ q, j = q + 1 := ⟨j - 1, by omega⟩
      have e1 : ((q + 1 : Nat) : Int) - 1 = (q : Int) := by omega
      rw [e1]
      have HLN : Hid (l.length ≤ 281474976710) := Lib.hid (by have := HL.out; omega)
      have HLL : Hid (ln + 1 = 1 + (2 - q)) := Lib.hid (by omega)
      clear e1 hln
      go_wp2_with (at_builtin; refine app1 _ _ (wrap_u8 _).choose_spec _ _ rfl rfl rfl rfl HI.out HB.out (Nat.le_refl _) HLN.out ?_; intro v' w' hR hb; obtain ⟨a', c', hv'⟩ := hR.shape; rw [List.length_append, List.length_singleton, HL.out] at hv'; subst hv'; replace hR := Lib.hid hR; replace hb := Lib.hid hb)
      go_roundw
      case rel => exact ⟨_, q, a', ln + 1, c', by omega, by go_num, HLL.out, Lib.hid (by rw [List.length_append, List.length_singleton, HL.out]), rfl, hR, hb⟩
      case measure => simp [intOf] <;> omega
set_option maxHeartbeats 4000000 in
theorem refhead4 (k n : Nat) (hk : k ≤ 7) (h0 : 65536 ≤ n) (h1 : n < 4294967296) (w : World) :
    Calls Tryd.prog 46 #[.int .i64 (k : Int), .int .i64 (n : Int)] w fun e w' => (∃ a c, e = .returned (.slice a 5 c)) ∧ Below w.heap.size w w' := by
  have t0 : decide ((n : Int) < 24) = false := by simp; omega
  have t1 : decide ((n : Int) < 256) = false := by simp; omega
  have t2 : decide ((n : Int) < 65536) = false := by simp; omega
  have t3 : decide ((n : Int) < 4294967296) = true := by simp; omega
  obtain ⟨c, hc⟩ := u8_of (32 * (k : Int) + 26) (by omega)
  have I0 : Hid (Rw w.heap.size (.slice (some ⟨w.heap.size, 0, none⟩) 1 1) [c] (w.alloc (.cells #[.int .u8 (32 * (k : Int) + 26)] 5))) := Lib.hid (Rw.one w _ c hc)
  have B0 : Hid (Below w.heap.size w (w.alloc (.cells #[.int .u8 (32 * (k : Int) + 26)] 5))) := Lib.hid ((Below.refl _ _).alloc (Nat.le_refl _) _)
  clear hc h0
  go_enter Tryd.func46, Tryd.ntmps46
  go_wp2_with fail
  generalize (w.alloc (.cells #[.int .u8 (32 * (k : Int) + 26)] 5)) = w0 at I0 B0 ⊢
  go_loopw [7, 8] (fun v i wr => ∃ (l : List UInt8) (j : Nat) (a : Option Addr) (ln c : Nat), j ≤ 4 ∧ i = .int .i64 ((j : Int) - 1) ∧ ln = 1 + (4 - j) ∧ Hid (l.length = ln) ∧ v = .slice a ln c ∧ Hid (Rw w.heap.size (.slice a ln c) l wr) ∧ Hid (Below w.heap.size w wr)) (fun _ i _ => (intOf i + 1).toNat)
  case atStart => exact ⟨[c], 4, some ⟨w.heap.size, 0, none⟩, 1, 1, by omega, by go_num, by omega, Lib.hid rfl, rfl, I0, B0⟩
  case round =>
    clear I0 B0
    obtain ⟨l, j, a, ln, c, hj, rfl, hln, HL, rfl, HI, HB⟩ := hrel
    by_cases hj0 : j = 0
    · subst hj0
      obtain rfl : ln = 5 := by omega
      go_wp2_with fail
      go_ret
      exact ⟨⟨_, _, rfl⟩, HB.out⟩
    · obtain ⟨q, rfl⟩ : ∃ q, j = q + 1 := ⟨j - 1, by omega⟩
      have e1 : ((q + 1 : Nat) : Int) - 1 = (q : Int) := by omega
      rw [e1]
      have HLN : Hid (l.length ≤ 281474976710) := Lib.hid (by have := HL.out; omega)
      have HLL : Hid (ln + 1 = 1 + (4 - q)) := Lib.hid (by omega)
      clear e1 hln
      go_wp2_with (at_builtin; refine app1 _ _ (wrap_u8 _).choose_spec _ _ rfl rfl rfl rfl HI.out HB.out (Nat.le_refl _) HLN.out ?_; intro v' w' hR hb; obtain ⟨a', c', hv'⟩ := hR.shape; rw [List.length_append, List.length_singleton, HL.out] at hv'; subst hv'; replace hR := Lib.hid hR; replace hb := Lib.hid hb)
      go_roundw
      case rel => exact ⟨_, q, a', ln + 1, c', by omega, by go_num, HLL.out, Lib.hid (by rw [List.length_append, List.length_singleton, HL.out]), rfl, hR, hb⟩
      case measure => simp [intOf] <;> omega
set_option maxHeartbeats 4000000 in
theorem refhead8 (k n : Nat) (hk : k ≤ 7) (h0 : 4294967296 ≤ n) (h1 : n < 9223372036854775808) (w : World) :
    Calls Tryd.prog 46 #[.int .i64 (k : Int), .int .i64 (n : Int)] w fun e w' => (∃ a c, e = .returned (.slice a 9 c)) ∧ Below w.heap.size w w' := by
  have t0 : decide ((n : Int) < 24) = false := by simp; omega
  have t1 : decide ((n : Int) < 256) = false := by simp; omega
  have t2 : decide ((n : Int) < 65536) = false := by simp; omega
  have t3 : decide ((n : Int) < 4294967296) = false := by simp; omega
  obtain ⟨c, hc⟩ := u8_of (32 * (k : Int) + 27) (by omega)
  have I0 : Hid (Rw w.heap.size (.slice (some ⟨w.heap.size, 0, none⟩) 1 1) [c] (w.alloc (.cells #[.int .u8 (32 * (k : Int) + 27)] 5))) := Lib.hid (Rw.one w _ c hc)
  have B0 : Hid (Below w.heap.size w (w.alloc (.cells #[.int .u8 (32 * (k : Int) + 27)] 5))) := Lib.hid ((Below.refl _ _).alloc (Nat.le_refl _) _)
  clear hc h0
  go_enter Tryd.func46, Tryd.ntmps46
  go_wp2_with fail
  generalize (w.alloc (.cells #[.int .u8 (32 * (k : Int) + 27)] 5)) = w0 at I0 B0 ⊢
  go_loopw [7, 8] (fun v i wr => ∃ (l : List UInt8) (j : Nat) (a : Option Addr) (ln c : Nat), j ≤ 8 ∧ i = .int .i64 ((j : Int) - 1) ∧ ln = 1 + (8 - j) ∧ Hid (l.length = ln) ∧ v = .slice a ln c ∧ Hid (Rw w.heap.size (.slice a ln c) l wr) ∧ Hid (Below w.heap.size w wr)) (fun _ i _ => (intOf i + 1).toNat)
  case atStart => exact ⟨[c], 8, some ⟨w.heap.size, 0, none⟩, 1, 1, by omega, by go_num, by omega, Lib.hid rfl, rfl, I0, B0⟩
  case round =>
    clear I0 B0
    obtain ⟨l, j, a, ln, c, hj, rfl, hln, HL, rfl, HI, HB⟩ := hrel
    by_cases hj0 : j = 0
    · subst hj0
      obtain rfl : ln = 9 := by omega
      go_wp2_with fail
      go_ret
      exact ⟨⟨_, _, rfl⟩, HB.out⟩
    · obtain ⟨q, rfl⟩ : ∃ q, j = q + 1 := ⟨j - 1, by omega⟩
      have e1 : ((q + 1 : Nat) : Int) - 1 = (q : Int) := by omega
      rw [e1]
      have HLN : Hid (l.length ≤ 281474976710) := Lib.hid (by have := HL.out; omega)
      have HLL : Hid (ln + 1 = 1 + (8 - q)) := Lib.hid (by omega)
      clear e1 hln
      go_wp2_with (at_builtin; refine app1 _ _ (wrap_u8 _).choose_spec _ _ rfl rfl rfl rfl HI.out HB.out (Nat.le_refl _) HLN.out ?_; intro v' w' hR hb; obtain ⟨a', c', hv'⟩ := hR.shape; rw [List.length_append, List.length_singleton, HL.out] at hv'; subst hv'; replace hR := Lib.hid hR; replace hb := Lib.hid hb)
      go_roundw
      case rel => exact ⟨_, q, a', ln + 1, c', by omega, by go_num, HLL.out, Lib.hid (by rw [List.length_append, List.length_singleton, HL.out]), rfl, hR, hb⟩
      case measure => simp [intOf] <;> omega
theorem refhead (k n : Nat) (hk : k ≤ 7) (hn : n < 9223372036854775808) (w : World) :
    Calls Tryd.prog 46 #[.int .i64 (k : Int), .int .i64 (n : Int)] w fun e w' => (∃ a c, e = .returned (.slice a (1 + manyOf n) c)) ∧ Below w.heap.size w w' := by
  unfold manyOf
  split
  · exact refhead0 k n hk (by omega) w
  · split
    · exact refhead1 k n hk (by omega) (by omega) w
    · split
      · exact refhead2 k n hk (by omega) (by omega) w
      · split
        · exact refhead4 k n hk (by omega) (by omega) w
        · exact refhead8 k n hk (by omega) (by omega) w
end Go.Proofs.YtghdcgokndmkjaaDoor
