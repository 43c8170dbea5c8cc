/- A key turned; two texts held against each other. Conditions: a block of 64 bytes; texts of at most 2^47 bytes. -/
import Derived.Test.YteaanoaldnnflaaE
set_option linter.unusedVariables false
namespace Go.Proofs.Yteaanoaldnnflaa
open Go.RowKit

theorem blk_put {w : World} {b : Nat} {cs : Array Value} {T : TypeId} {z : Nat × Nat} (h : w.heap[b]? = some (.cells cs T z)) (o : Nat) (v : Value) : (w.setCell ⟨b, o, none⟩ v).heap[b]? = some (.cells (cs.setIfInBounds o v) T z) := by
  simp [World.setCell, Array.getElem?_modify, h]
theorem bs_set (l : List UInt8) (o : Nat) (x : UInt8) : (bs l).setIfInBounds o (.int .u8 (x.toNat : Int)) = bs (l.set o x) := by
  simp [bs, List.map_set]
theorem ws_set (l : List UInt32) (o : Nat) (x : UInt32) : (ws l).setIfInBounds o (.int .u32 (x.toNat : Int)) = ws (l.set o x) := by
  simp [ws, List.map_set]
/-- the first j of k turned by f, the rest as it was -/
def pref {α : Type} (f : α → α) (k : List α) (j : Nat) : List α := (k.take j).map f ++ k.drop j
theorem pref_length {α : Type} (f : α → α) (k : List α) (j : Nat) : (pref f k j).length = k.length := by
  simp [pref]; omega
theorem pref_get {α : Type} (f : α → α) (k : List α) (j : Nat) (h : j < k.length) : (pref f k j)[j]'(by rw [pref_length]; exact h) = k[j] := by
  simp only [pref]
  rw [List.getElem_append_right (by simp; omega)]
  simp [Nat.min_eq_left (Nat.le_of_lt h)]
theorem pref_set {α : Type} (f : α → α) (k : List α) (j : Nat) (h : j < k.length) : (pref f k j).set j (f k[j]) = pref f k (j + 1) := by
  simp only [pref]
  have e : j - ((k.take j).map f).length = 0 := by simp; omega
  rw [List.set_append_right _ _ (by simp; omega), e, List.drop_eq_getElem_cons h, List.set_cons_zero, List.take_succ_eq_append_getElem h, List.map_append, List.append_assoc]
  rfl
theorem pref_all {α : Type} (f : α → α) (k : List α) (j : Nat) (h : k.length ≤ j) : pref f k j = k.map f := by
  simp [pref, List.take_of_length_le h, List.drop_of_length_le h]

set_option maxHeartbeats 2000000 in
theorem turned_any (k : List UInt8) (hk : k.length = 64) (c : UInt8) (w : World) :
    Calls Try.prog 38 #[.agg (bs k), .int .u8 (c.toNat : Int)] w fun e w' => e = .returned (.string ⟨(turnedL k c).toArray⟩) ∧ Below w.heap.size w w' := by
  have HL := Lib.hid hk
  have HK := Lib.hid (Go.heap_alloc_new w (.cells (bs k) 46))
  clear hk
  go_enter Try.func38, Try.ntmps38
  go_wp2_with fail
  go_loopw [6] (fun i wr => ∃ j : Nat, j ≤ 64 ∧ i = .int .i64 j ∧ wr.heap[w.heap.size]? = some (.cells (bs (pref (· ^^^ c) k j)) 46 (0, 0)) ∧ Below w.heap.size w wr) (fun i _ => 64 - (intOf i).toNat)
  case atStart =>
    exact ⟨0, by omega, rfl, HK.out, (Below.refl _ _).alloc (Nat.le_refl _) _⟩
  case round =>
    obtain ⟨j, hj, rfl, hb, hw⟩ := hrel
    have HB := Lib.hid hb
    have HW := Lib.hid hw
    clear hb hw HK
    by_cases hlt : j < 64
    · have hjl : j < k.length := by rw [HL.out]; exact hlt
      have x0 := (blk_cell HB.out j).trans (bs_get _ j (by rw [pref_length]; exact hjl))
      have f0 := Lib.frozen_of_heap HB.out j
      rw [pref_get _ _ _ hjl] at x0
      have hx := xorB k[j] c
      have HP := Lib.hid (pref_set (· ^^^ c) k j hjl)
      generalize k[j] = x at x0 hx HP
      generalize hy : x ^^^ c = y at hx HP
      have HP2 : Hid ((pref (· ^^^ c) k j).set j y = pref (· ^^^ c) k (j + 1)) := Lib.hid (by rw [← HP.out, ← hy])
      clear HP hy hjl
      go_wp2_with fail
      have HB2 := Lib.hid (blk_put HB.out j (.int .u8 (y.toNat : Int)))
      rw [bs_set, HP2.out] at HB2
      have HW2 := Lib.hid (HW.out.setCell (p := ⟨w.heap.size, j, none⟩) (Nat.le_refl _) (.int .u8 (y.toNat : Int)))
      go_roundw
      case rel => exact ⟨j + 1, by omega, by go_num, HB2.out, HW2.out⟩
      case measure => simp [intOf]; omega
    · have HE : Hid (pref (· ^^^ c) k j = turnedL k c) := Lib.hid (pref_all _ _ _ (by rw [HL.out]; omega))
      rw [HE.out] at HB
      have hc : (convert 33 9 (.slice (some ⟨w.heap.size, 0, none⟩) 64 64)).run Try.prog wr = .ok (.string ⟨(turnedL k c).toArray⟩) wr := by
        have := conv_row (c := 64) HB.out
        rwa [show (turnedL k c).length = 64 from by unfold turnedL; rw [List.length_map]; exact HL.out] at this
      go_wp2_with fail
      go_ret
      exact ⟨rfl, HW.out⟩

/-- unlike bytes below k -/
def unl (a b : List UInt8) (k : Nat) : Bool := decide (a.length = b.length ∧ ∀ i, i < k → a.getD i 0 = b.getD i 0)
theorem same_iff (a b : List UInt8) : unl a b (max a.length b.length) = decide (a = b) := by
  unfold unl
  rw [decide_eq_decide]
  constructor
  · rintro ⟨h1, h2⟩
    apply List.ext_getElem h1
    intro i hi hi'
    have := h2 i (by omega)
    simpa [List.getD, hi, hi'] using this
  · rintro rfl; exact ⟨rfl, fun _ _ => rfl⟩
theorem xor_lt48 {a b : Nat} (ha : a < 281474976710656) (hb : b < 281474976710656) : a ^^^ b < 281474976710656 := Nat.xor_lt_two_pow (n := 48) ha hb
theorem or_lt48 {a b : Nat} (ha : a < 281474976710656) (hb : b < 281474976710656) : a ||| b < 281474976710656 := Nat.or_lt_two_pow (n := 48) ha hb
theorem i64_xor (a b : Nat) (ha : a < 281474976710656) (hb : b < 281474976710656) : bits .xor .i64 (a : Int) (b : Int) = ((a ^^^ b : Nat) : Int) := by
  have := xor_lt48 ha hb
  show IntKind.i64.wrap ((BitVec.ofInt 64 (a : Int) ^^^ BitVec.ofInt 64 (b : Int)).toNat : Int) = _
  rw [BitVec.toNat_xor, ofInt_u64 a (by omega), ofInt_u64 b (by omega)]
  exact IntWalk.i64_in _ (by omega)
theorem i64_or (a b : Nat) (ha : a < 281474976710656) (hb : b < 281474976710656) : bits .or .i64 (a : Int) (b : Int) = ((a ||| b : Nat) : Int) := by
  have := or_lt48 ha hb
  show IntKind.i64.wrap ((BitVec.ofInt 64 (a : Int) ||| BitVec.ofInt 64 (b : Int)).toNat : Int) = _
  rw [BitVec.toNat_or, ofInt_u64 a (by omega), ofInt_u64 b (by omega)]
  exact IntWalk.i64_in _ (by omega)
theorem or_zero (a b : Nat) : a ||| b = 0 ↔ a = 0 ∧ b = 0 := Nat.or_eq_zero_iff
theorem xor_zero (a b : Nat) : a ^^^ b = 0 ↔ a = b :=
  ⟨fun h => by have := congrArg (· ^^^ b) h; simpa [Nat.xor_assoc, Nat.xor_self] using this, fun h => by rw [h, Nat.xor_self]⟩
theorem xor_zero8 (x y : UInt8) : (x ^^^ y).toNat = 0 ↔ x = y := by
  rw [UInt8.toNat_xor, xor_zero, UInt8.toNat_inj]
theorem unl_next (a b : List UInt8) (k n : Nat) (h : n = 0 ↔ unl a b k = true) : (n ||| (a.getD k 0 ^^^ b.getD k 0).toNat) = 0 ↔ unl a b (k + 1) = true := by
  rw [or_zero, h, xor_zero8]
  unfold unl
  rw [decide_eq_true_iff, decide_eq_true_iff]
  constructor
  · rintro ⟨⟨h1, h2⟩, h3⟩
    refine ⟨h1, fun i hi => ?_⟩
    by_cases e : i = k
    · subst e; exact h3
    · exact h2 i (by omega)
  · rintro ⟨h1, h2⟩
    exact ⟨⟨h1, fun i hi => h2 i (by omega)⟩, h2 k (by omega)⟩
def UnlI (a b : List UInt8) (M : Nat) (u i : Value) : Prop := ∃ k n : Nat, k ≤ M ∧ n < 281474976710656 ∧ u = .int .i64 n ∧ i = .int .i64 k ∧ (n = 0 ↔ unl a b k = true)
set_option maxHeartbeats 2000000 in
theorem same_any (a b : List UInt8) (ha : a.length ≤ 140737488355328) (hb : b.length ≤ 140737488355328) (w : World) :
    Calls Try.prog 16 #[.string ⟨a.toArray⟩, .string ⟨b.toArray⟩] w fun e w' => e = .returned (.bool (decide (a = b))) ∧ w = w' := by
  have HE := Lib.hid (same_iff a b)
  obtain ⟨M, hM⟩ : ∃ M : Nat, M = max a.length b.length := ⟨_, rfl⟩
  have em : max (a.length : Int) (b.length : Int) = (M : Int) := by omega
  have hM1 : (M : Int) ≤ 140737488355328 := by omega
  have ex := i64_xor a.length b.length (by omega) (by omega)
  obtain ⟨X, hX⟩ : ∃ X : Nat, X = a.length ^^^ b.length := ⟨_, rfl⟩
  have HX0 : Hid (X < 281474976710656 ∧ (X = 0 ↔ unl a b 0 = true)) := Lib.hid ⟨by rw [hX]; exact xor_lt48 (by omega) (by omega), by rw [hX, xor_zero]; simp [unl]⟩
  rw [← hX] at ex
  rw [← hM] at HE
  clear hM hX ha hb
  go_enter Try.func16, Try.ntmps16
  go_wp2_with fail
  go_loop [5, 17] (UnlI a b M) (fun _ i => M - (intOf i).toNat)
  case atStart => exact ⟨0, X, by omega, HX0.out.1, rfl, rfl, HX0.out.2⟩
  case round =>
    obtain ⟨k, n, hk, hn, rfl, rfl, hi⟩ := hrel
    have HI := Lib.hid hi
    clear hi ex em HX0
    by_cases hlt : k < M
    · have HC1 := Lib.hid (byteAt_any a k (by omega) w)
      have HC2 := Lib.hid (byteAt_any b k (by omega) w)
      have HN := Lib.hid (unl_next a b k n HI.out)
      generalize a.getD k 0 = x at HC1 HN
      generalize b.getD k 0 = y at HC2 HN
      have hx := xorB x y
      generalize x ^^^ y = z at hx HN
      have hz := z.toNat_lt
      have ho := i64_or n z.toNat hn (by omega)
      have HO := Lib.hid (or_lt48 hn (show z.toNat < 281474976710656 by omega))
      generalize n ||| z.toNat = m at ho HN HO
      go_wp2_with fail
      refine HC1.out.mono ?_
      rintro e w1 ⟨rfl, rfl⟩
      go_wp2_with fail
      refine HC2.out.mono ?_
      rintro e w1 ⟨rfl, rfl⟩
      go_wp2_with fail
      go_round
      case rel => exact ⟨k + 1, m, by omega, HO.out, rfl, by go_num, HN.out⟩
      case measure => simp [intOf]; omega
    · have HK : Hid (((n : Int) == 0) = decide (a = b)) := Lib.hid (by
        rw [← HE.out, show M = k from by omega]
        have := HI.out
        rw [Bool.eq_iff_iff, ← this]
        simp)
      by_cases h0 : n = 0
      · subst h0
        have hd : decide (a = b) = true := by rw [← HK.out]; rfl
        have HD := Lib.hid hd
        clear hd
        go_wp2_with fail
        go_ret
        exact ⟨by rw [HD.out]; rfl, rfl⟩
      · have hd : decide (a = b) = false := by rw [← HK.out]; simp; omega
        have HD := Lib.hid hd
        have hne : ((n : Int) == 0) = false := by simp; omega
        clear hd
        go_wp2_with fail
        go_ret
        exact ⟨by rw [HD.out]; rfl, rfl⟩
end Go.Proofs.Yteaanoaldnnflaa
