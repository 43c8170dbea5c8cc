/- The document's reader: what its head answers. Conditions: at most 4096 bytes. -/
import Derived.Test.YtghdcgokndmkjaaDoorRa
import Derived.Deep.QuietTactic
import Derived.StillTailTactics
import Derived.Handy
set_option linter.unusedVariables false
set_option linter.unusedSimpArgs false
set_option maxRecDepth 100000
namespace Go.Proofs.YtghdcgokndmkjaaDoor
open Go.RowKit Go.Sort

/-- the document's reader: block br holds the bytes and how far they are read -/
def Rf (br : Nat) (s : List UInt8) (a : Nat) (w : World) : Prop := w.heap[br]? = some (.cells #[.string ⟨s.toArray⟩, .int .i64 (a : Int)] 46 (0, 0))
theorem Rf.lt {br : Nat} {s : List UInt8} {a : Nat} {w : World} (h : Rf br s a w) : br < w.heap.size := (Array.getElem?_eq_some_iff.1 h).1
theorem Rf.facts {br : Nat} {s : List UInt8} {a : Nat} {w : World} (h : Rf br s a w) : w.cell? ⟨br, 0, none⟩ = some (.string ⟨s.toArray⟩) ∧ w.cell? ⟨br, 1, none⟩ = some (.int .i64 (a : Int)) ∧ w.frozen? ⟨br, 1, none⟩ = false := by
  refine ⟨?_, ?_, frozen_of_row _ _ _ _ _ h⟩
  · rw [Lib.cell_of_heap h]; rfl
  · rw [Lib.cell_of_heap h]; rfl
theorem Rf.drewN {br : Nat} {s : List UInt8} {a : Nat} {w : World} (h : Rf br s a w) (n : Nat) : Rf br s a (w.drewN n) := h
theorem Rf.below {br : Nat} {s : List UInt8} {a : Nat} {w w' : World} (h : Rf br s a w) (hb : Below w.heap.size w w') : Rf br s a w' := (hb.block _ h.lt).trans h
theorem Rf.put {br : Nat} {s : List UInt8} {a : Nat} {w : World} (h : Rf br s a w) (b : Nat) : Rf br s b (w.setCell ⟨br, 1, none⟩ (.int .i64 (b : Int))) := by
  have := heap_setCell_same w br 1 _ _ (.int .i64 (b : Int)) h
  simp at this
  exact this
theorem Keeps.put {br : Nat} {a w : World} (h : Keeps br a w) (hl : br < w.heap.size) (o : Nat) (v : Value) : Keeps br a (w.setCell ⟨br, o, none⟩ v) :=
  ⟨h.os, h.tape, h.output, by rw [World.size_setCell]; exact h.size, fun i hi hn => (Below.heap_setCell _ _ _ _ (fun e => hn (by simp [e]))).trans (h.block i hi hn)⟩
/-- what the document's head answers -/
def RhF (br : Nat) (s : List UInt8) (a : Nat) (w w' : World) (e : Ending) : Prop :=
  (∃ k n m, hd (s.drop a) = some (k, n, m) ∧ k ≤ 5 ∧ e = .returned (.tuple #[.int .i64 (k : Int), .int .i64 (n : Int), .bool true]) ∧ Rf br s (a + m) w' ∧ Keeps br w w') ∨
  ((hd (s.drop a) = Option.none ∨ ∃ k n m, hd (s.drop a) = some (k, n, m) ∧ 6 ≤ k) ∧ ∃ (k n : Int) (a' : Nat), e = .returned (.tuple #[.int .i64 k, .int .i64 n, .bool false]) ∧ a' ≤ s.length ∧ Rf br s a' w' ∧ Keeps br w w')
theorem and31u (c : UInt8) : bits BinOp.and IntKind.u8 (c.toNat : Int) 31 = (c.toNat : Int) % 32 := all_u8 (p := fun c => bits BinOp.and IntKind.u8 (c.toNat : Int) 31 = (c.toNat : Int) % 32) (by decide +kernel) c
theorem index_s (s : List UInt8) (i : Nat) (h : i < s.length) (w : World) : (Instr.index 9 (.string ⟨s.toArray⟩) (.int .i64 (i : Int))).run Tryd.prog w = .ok (.int .u8 (s[i].toNat : Int)) w := by
  have h' : i < (⟨s.toArray⟩ : ByteArray).size := by simpa [ByteArray.size] using h
  have hsz : (⟨s.toArray⟩ : ByteArray).size = s.length := by simp [ByteArray.size]
  go_simp
  rfl
theorem Rf.put1 {br : Nat} {s : List UInt8} {a : Nat} {w : World} (h : Rf br s a w) : Rf br s (a + 1) (w.setCell ⟨br, 1, none⟩ (.int .i64 ((a : Int) + 1))) := by
  have := h.put (a + 1)
  rw [show ((a + 1 : Nat) : Int) = (a : Int) + 1 from by omega] at this
  exact this
theorem fhead_end (br : Nat) (s : List UInt8) (a : Nat) (w : World) (hR : Rf br s a w) (hs : s.length ≤ 4096) (ha : a = s.length) :
    Calls Tryd.prog 32 #[.pointer (some ⟨br, 0, none⟩)] w fun e w' => RhF br s a w w' e := by
  obtain ⟨c0, c1, f1⟩ := hR.facts
  have hsz : (⟨s.toArray⟩ : ByteArray).size = s.length := by simp [ByteArray.size]
  have HN : Hid (hd (s.drop a) = Option.none) := Lib.hid (by rw [ha, List.drop_length]; rfl)
  have R0 := Lib.hid hR
  subst ha
  clear hR
  have hd0 : decide (s.length ≤ s.length) = true := by simp
  go_enter Tryd.func32, Tryd.ntmps32
  go_wp2_with fail
  go_quiet (fail)
  go_wp2_with fail
  go_returns
  exact .inr ⟨.inl HN.out, _, _, _, rfl, Nat.le_refl _, R0.out.drewN _, (Keeps.refl _ _).drewN _⟩
theorem hd_kind {c : UInt8} {r : List UInt8} {k n m : Nat} (h : hd (c :: r) = some (k, n, m)) : k = c.toNat / 32 := by
  rw [hd] at h
  split at h
  · simp only [Option.some.injEq, Prod.mk.injEq] at h; exact h.1.symm
  · split at h
    · split at h
      · simp only [Option.some.injEq, Prod.mk.injEq] at h; exact h.1.symm
      · cases h
    · cases h
set_option maxHeartbeats 4000000 in
theorem fhead_high (br : Nat) (s : List UInt8) (a : Nat) (w : World) (hR : Rf br s a w) (hs : s.length ≤ 4096) (ha : a < s.length) (hk : ¬ s[a].toNat / 32 ≤ 5) :
    Calls Tryd.prog 32 #[.pointer (some ⟨br, 0, none⟩)] w fun e w' => RhF br s a w w' e := by
  obtain ⟨c0, c1, f1⟩ := hR.facts
  have hsz : (⟨s.toArray⟩ : ByteArray).size = s.length := by simp [ByteArray.size]
  have hx := drop_one s a ha
  have hix := index_s s a ha
  have R0 := Lib.hid hR
  generalize s[a] = c at *
  have hb8 := c.toNat_lt
  have h31 := and31u c
  have HX := Lib.hid hx
  clear hR hx
  have hd0 : decide (s.length ≤ a) = false := by simp; omega
  have hd1 : decide (5 < (c.toNat : Int) / 32) = true := by simp; omega
  have HH : Hid (hd (s.drop a) = Option.none ∨ ∃ k n m, hd (s.drop a) = some (k, n, m) ∧ 6 ≤ k) := Lib.hid (by
    rw [HX.out]
    rcases hh : hd (c :: s.drop (a + 1)) with _ | ⟨k, n, m⟩
    · exact .inl rfl
    · exact .inr ⟨k, n, m, rfl, by rw [hd_kind hh]; omega⟩)
  clear hk
  go_enter Tryd.func32, Tryd.ntmps32
  go_wp2_with fail
  go_quiet (fail)
  go_wp2_with fail
  go_quiet (fail)
  go_wp2_with fail
  go_returns
  exact .inr ⟨HH.out, _, _, _, rfl, ha, (R0.out.drewN _).put1, Keeps.put ((Keeps.refl _ _).drewN _) R0.out.lt 1 _⟩
set_option maxHeartbeats 4000000 in
theorem fhead_bad (br : Nat) (s : List UInt8) (a : Nat) (w : World) (hR : Rf br s a w) (hs : s.length ≤ 4096) (ha : a < s.length) (hk : s[a].toNat / 32 ≤ 5) (hm : ¬ s[a].toNat % 32 ≤ 27) :
    Calls Tryd.prog 32 #[.pointer (some ⟨br, 0, none⟩)] w fun e w' => RhF br s a w w' e := by
  obtain ⟨c0, c1, f1⟩ := hR.facts
  have hsz : (⟨s.toArray⟩ : ByteArray).size = s.length := by simp [ByteArray.size]
  have hx := drop_one s a ha
  have hix := index_s s a ha
  have R0 := Lib.hid hR
  generalize s[a] = c at *
  have hb8 := c.toNat_lt
  have h31 := and31u c
  have HX := Lib.hid hx
  clear hR hx
  have hd0 : decide (s.length ≤ a) = false := by simp; omega
  have hd1 : decide (5 < (c.toNat : Int) / 32) = false := by simp; omega
  have hd2 : decide (27 < (c.toNat : Int) % 32) = true := by simp; omega
  have HH : Hid (hd (s.drop a) = Option.none) := Lib.hid (by rw [HX.out]; exact hd_bad _ _ (by omega) hm)
  clear hk hm
  go_enter Tryd.func32, Tryd.ntmps32
  go_wp2_with fail
  go_quiet (fail)
  go_wp2_with fail
  go_quiet (fail)
  go_wp2_with fail
  go_returns
  exact .inr ⟨.inl HH.out, _, _, _, rfl, ha, (R0.out.drewN _).put1, Keeps.put ((Keeps.refl _ _).drewN _) R0.out.lt 1 _⟩
set_option maxHeartbeats 4000000 in
theorem fhead_low (br : Nat) (s : List UInt8) (a : Nat) (w : World) (hR : Rf br s a w) (hs : s.length ≤ 4096) (ha : a < s.length) (hk : s[a].toNat / 32 ≤ 5) (hm : s[a].toNat % 32 < 24) :
    Calls Tryd.prog 32 #[.pointer (some ⟨br, 0, none⟩)] w fun e w' => RhF br s a w w' e := by
  obtain ⟨c0, c1, f1⟩ := hR.facts
  have hsz : (⟨s.toArray⟩ : ByteArray).size = s.length := by simp [ByteArray.size]
  have hx := drop_one s a ha
  have hix := index_s s a ha
  have R0 := Lib.hid hR
  generalize s[a] = c at *
  have hb8 := c.toNat_lt
  have h31 := and31u c
  have HX := Lib.hid hx
  clear hR hx
  have hd0 : decide (s.length ≤ a) = false := by simp; omega
  have hd1 : decide (5 < (c.toNat : Int) / 32) = false := by simp; omega
  have hd2 : decide (27 < (c.toNat : Int) % 32) = false := by simp; omega
  have hd3 : decide ((c.toNat : Int) % 32 < 24) = true := by simp; omega
  have HH : Hid (hd (s.drop a) = some (c.toNat / 32, c.toNat % 32, 1)) := Lib.hid (by rw [HX.out]; exact hd_low _ _ hm)
  have HK := Lib.hid hk
  clear hk hm
  go_enter Tryd.func32, Tryd.ntmps32
  go_wp2_with fail
  go_quiet (fail)
  go_wp2_with fail
  go_quiet (fail)
  go_wp2_with fail
  go_returns
  exact .inl ⟨_, _, _, HH.out, HK.out, by simp, (R0.out.drewN _).put1, Keeps.put ((Keeps.refl _ _).drewN _) R0.out.lt 1 _⟩
set_option maxHeartbeats 4000000 in
theorem fhead_short0 (br : Nat) (s : List UInt8) (a : Nat) (w : World) (hR : Rf br s a w) (hs : s.length ≤ 4096) (ha : a < s.length) (hk : s[a].toNat / 32 ≤ 5) (hlow : s[a].toNat % 32 = 24 + 0) (hsh : s.length < a + 1 + 1) :
    Calls Tryd.prog 32 #[.pointer (some ⟨br, 0, none⟩)] w fun e w' => RhF br s a w w' e := by
  obtain ⟨c0, c1, f1⟩ := hR.facts
  have hsz : (⟨s.toArray⟩ : ByteArray).size = s.length := by simp [ByteArray.size]
  have hx := drop_one s a ha
  have hix := index_s s a ha
  have R0 := Lib.hid hR
  generalize s[a] = c at *
  have hb8 := c.toNat_lt
  have h31 := and31u c
  have HX := Lib.hid hx
  clear hR hx
  have hd0 : decide (s.length ≤ a) = false := by simp; omega
  have hd1 : decide (5 < (c.toNat : Int) / 32) = false := by simp; omega
  have h24' : (c.toNat : Int) % 32 = 24 := by omega
  rw [h24'] at h31
  have HH := Lib.hid (hd_mid c (s.drop (a + 1)) 0 (by omega) hlow)
  have HK := Lib.hid hk
  have hd2 : decide ((s.length : Int) - ((a : Int) + 1) < 1) = true := by simp; omega
  have HN : Hid (hd (s.drop a) = Option.none) := Lib.hid (by rw [HX.out, HH.out, if_neg (fun h => by have := h.1; simp at this; omega)])
  clear h24' hlow hk
  go_enter Tryd.func32, Tryd.ntmps32
  go_wp2_with fail
  go_quiet (fail)
  go_wp2_with fail
  go_quiet (fail)
  go_wp2_with fail
  go_quiet (fail)
  go_wp2_with fail
  go_returns
  exact .inr ⟨.inl HN.out, _, _, _, rfl, ha, ((R0.out.drewN _).put1).drewN _, (Keeps.put ((Keeps.refl _ _).drewN _) R0.out.lt 1 _).drewN _⟩
set_option maxHeartbeats 4000000 in
theorem fhead_short1 (br : Nat) (s : List UInt8) (a : Nat) (w : World) (hR : Rf br s a w) (hs : s.length ≤ 4096) (ha : a < s.length) (hk : s[a].toNat / 32 ≤ 5) (hlow : s[a].toNat % 32 = 24 + 1) (hsh : s.length < a + 1 + 2) :
    Calls Tryd.prog 32 #[.pointer (some ⟨br, 0, none⟩)] w fun e w' => RhF br s a w w' e := by
  obtain ⟨c0, c1, f1⟩ := hR.facts
  have hsz : (⟨s.toArray⟩ : ByteArray).size = s.length := by simp [ByteArray.size]
  have hx := drop_one s a ha
  have hix := index_s s a ha
  have R0 := Lib.hid hR
  generalize s[a] = c at *
  have hb8 := c.toNat_lt
  have h31 := and31u c
  have HX := Lib.hid hx
  clear hR hx
  have hd0 : decide (s.length ≤ a) = false := by simp; omega
  have hd1 : decide (5 < (c.toNat : Int) / 32) = false := by simp; omega
  have h24' : (c.toNat : Int) % 32 = 25 := by omega
  rw [h24'] at h31
  have HH := Lib.hid (hd_mid c (s.drop (a + 1)) 1 (by omega) hlow)
  have HK := Lib.hid hk
  have hd2 : decide ((s.length : Int) - ((a : Int) + 1) < 2) = true := by simp; omega
  have HN : Hid (hd (s.drop a) = Option.none) := Lib.hid (by rw [HX.out, HH.out, if_neg (fun h => by have := h.1; simp at this; omega)])
  clear h24' hlow hk
  go_enter Tryd.func32, Tryd.ntmps32
  go_wp2_with fail
  go_quiet (fail)
  go_wp2_with fail
  go_quiet (fail)
  go_wp2_with fail
  go_quiet (fail)
  go_wp2_with fail
  go_returns
  exact .inr ⟨.inl HN.out, _, _, _, rfl, ha, ((R0.out.drewN _).put1).drewN _, (Keeps.put ((Keeps.refl _ _).drewN _) R0.out.lt 1 _).drewN _⟩
set_option maxHeartbeats 4000000 in
theorem fhead_short2 (br : Nat) (s : List UInt8) (a : Nat) (w : World) (hR : Rf br s a w) (hs : s.length ≤ 4096) (ha : a < s.length) (hk : s[a].toNat / 32 ≤ 5) (hlow : s[a].toNat % 32 = 24 + 2) (hsh : s.length < a + 1 + 4) :
    Calls Tryd.prog 32 #[.pointer (some ⟨br, 0, none⟩)] w fun e w' => RhF br s a w w' e := by
  obtain ⟨c0, c1, f1⟩ := hR.facts
  have hsz : (⟨s.toArray⟩ : ByteArray).size = s.length := by simp [ByteArray.size]
  have hx := drop_one s a ha
  have hix := index_s s a ha
  have R0 := Lib.hid hR
  generalize s[a] = c at *
  have hb8 := c.toNat_lt
  have h31 := and31u c
  have HX := Lib.hid hx
  clear hR hx
  have hd0 : decide (s.length ≤ a) = false := by simp; omega
  have hd1 : decide (5 < (c.toNat : Int) / 32) = false := by simp; omega
  have h24' : (c.toNat : Int) % 32 = 26 := by omega
  rw [h24'] at h31
  have HH := Lib.hid (hd_mid c (s.drop (a + 1)) 2 (by omega) hlow)
  have HK := Lib.hid hk
  have hd2 : decide ((s.length : Int) - ((a : Int) + 1) < 4) = true := by simp; omega
  have HN : Hid (hd (s.drop a) = Option.none) := Lib.hid (by rw [HX.out, HH.out, if_neg (fun h => by have := h.1; simp at this; omega)])
  clear h24' hlow hk
  go_enter Tryd.func32, Tryd.ntmps32
  go_wp2_with fail
  go_quiet (fail)
  go_wp2_with fail
  go_quiet (fail)
  go_wp2_with fail
  go_quiet (fail)
  go_wp2_with fail
  go_returns
  exact .inr ⟨.inl HN.out, _, _, _, rfl, ha, ((R0.out.drewN _).put1).drewN _, (Keeps.put ((Keeps.refl _ _).drewN _) R0.out.lt 1 _).drewN _⟩
set_option maxHeartbeats 4000000 in
theorem fhead_short3 (br : Nat) (s : List UInt8) (a : Nat) (w : World) (hR : Rf br s a w) (hs : s.length ≤ 4096) (ha : a < s.length) (hk : s[a].toNat / 32 ≤ 5) (hlow : s[a].toNat % 32 = 24 + 3) (hsh : s.length < a + 1 + 8) :
    Calls Tryd.prog 32 #[.pointer (some ⟨br, 0, none⟩)] w fun e w' => RhF br s a w w' e := by
  obtain ⟨c0, c1, f1⟩ := hR.facts
  have hsz : (⟨s.toArray⟩ : ByteArray).size = s.length := by simp [ByteArray.size]
  have hx := drop_one s a ha
  have hix := index_s s a ha
  have R0 := Lib.hid hR
  generalize s[a] = c at *
  have hb8 := c.toNat_lt
  have h31 := and31u c
  have HX := Lib.hid hx
  clear hR hx
  have hd0 : decide (s.length ≤ a) = false := by simp; omega
  have hd1 : decide (5 < (c.toNat : Int) / 32) = false := by simp; omega
  have h24' : (c.toNat : Int) % 32 = 27 := by omega
  rw [h24'] at h31
  have HH := Lib.hid (hd_mid c (s.drop (a + 1)) 3 (by omega) hlow)
  have HK := Lib.hid hk
  have hd2 : decide ((s.length : Int) - ((a : Int) + 1) < 8) = true := by simp; omega
  have HN : Hid (hd (s.drop a) = Option.none) := Lib.hid (by rw [HX.out, HH.out, if_neg (fun h => by have := h.1; simp at this; omega)])
  clear h24' hlow hk
  go_enter Tryd.func32, Tryd.ntmps32
  go_wp2_with fail
  go_quiet (fail)
  go_wp2_with fail
  go_quiet (fail)
  go_wp2_with fail
  go_quiet (fail)
  go_wp2_with fail
  go_returns
  exact .inr ⟨.inl HN.out, _, _, _, rfl, ha, ((R0.out.drewN _).put1).drewN _, (Keeps.put ((Keeps.refl _ _).drewN _) R0.out.lt 1 _).drewN _⟩
theorem fold_be : ∀ (l : List UInt8) (a : Nat), l.foldl (fun a c => a * 256 + c.toNat) a = a * 256 ^ l.length + beVal l
  | [], a => by simp [beVal]
  | c :: l, a => by
    have h1 := fold_be l (a * 256 + c.toNat)
    have h2 := fold_be l (0 * 256 + c.toNat)
    have h3 : beVal (c :: l) = l.foldl (fun a c => a * 256 + c.toNat) (0 * 256 + c.toNat) := rfl
    rw [List.foldl_cons, h1, h3, h2, List.length_cons, Nat.pow_succ, Nat.add_mul]
    rw [Nat.zero_mul, Nat.zero_add, Nat.mul_assoc, Nat.mul_comm (256 ^ l.length) 256, Nat.add_assoc]
theorem beVal_cons (c : UInt8) (l : List UInt8) : beVal (c :: l) = c.toNat * 256 ^ l.length + beVal l := by
  have h := fold_be l (0 * 256 + c.toNat)
  rw [beVal, List.foldl_cons, h, Nat.zero_mul, Nat.zero_add]
theorem big8 (d : UInt8) (l : List UInt8) (h : 7 ≤ l.length) (hd : 127 < d.toNat) : ¬ beVal ((d :: l).take (2 ^ 3)) < 9223372036854775808 := by
  intro hlt
  rw [show (2 : Nat) ^ 3 = 7 + 1 from rfl, List.take_succ_cons, beVal_cons, List.length_take, Nat.min_eq_left h] at hlt
  omega
theorem small8 (d : UInt8) (l : List UInt8) (h : l.length ≤ 7) (hd : d.toNat ≤ 127) : beVal (d :: l) < 9223372036854775808 := by
  have h1 := beVal_lt l
  have h2 : 256 ^ l.length ≤ 256 ^ 7 := Nat.pow_le_pow_right (by omega) h
  rw [beVal_cons]
  have h3 : d.toNat * 256 ^ l.length ≤ 127 * 256 ^ 7 := Nat.mul_le_mul hd h2
  omega
theorem small4 (l : List UInt8) (h : l.length ≤ 4) : beVal l < 9223372036854775808 := by
  have h1 := beVal_lt l
  have h2 : 256 ^ l.length ≤ 256 ^ 4 := Nat.pow_le_pow_right (by omega) h
  omega
set_option maxHeartbeats 4000000 in
theorem fhead_sign (br : Nat) (s : List UInt8) (a : Nat) (w : World) (hR : Rf br s a w) (hs : s.length ≤ 4096) (ha : a < s.length) (hk : s[a].toNat / 32 ≤ 5) (hlow : s[a].toNat % 32 = 24 + 3) (hsh : a + 1 + 8 ≤ s.length) (hbig : 127 < s[a + 1].toNat) :
    Calls Tryd.prog 32 #[.pointer (some ⟨br, 0, none⟩)] w fun e w' => RhF br s a w w' e := by
  obtain ⟨c0, c1, f1⟩ := hR.facts
  have hsz : (⟨s.toArray⟩ : ByteArray).size = s.length := by simp [ByteArray.size]
  have hx := drop_one s a ha
  have hix := index_s s a ha
  have R0 := Lib.hid hR
  generalize s[a] = c at *
  have hb8 := c.toNat_lt
  have h31 := and31u c
  have HX := Lib.hid hx
  clear hR hx
  have hd0 : decide (s.length ≤ a) = false := by simp; omega
  have hd1 : decide (5 < (c.toNat : Int) / 32) = false := by simp; omega
  have h24' : (c.toNat : Int) % 32 = 27 := by omega
  rw [h24'] at h31
  have HH := Lib.hid (hd_mid c (s.drop (a + 1)) 3 (by omega) hlow)
  have HK := Lib.hid hk
  have hd2 : decide ((s.length : Int) - ((a : Int) + 1) < 8) = false := by simp; omega
  have HN : Hid (hd (s.drop a) = Option.none) := Lib.hid (by
    rw [HX.out, HH.out, if_neg]
    rintro ⟨_, h2, _⟩
    rw [drop_one s (a + 1) (by omega)] at h2
    exact big8 _ _ (by simp; omega) hbig h2)
  have hix1 := index_s s (a + 1) (by omega)
  generalize s[a + 1] = d at hbig hix1
  rw [show ((a + 1 : Nat) : Int) = (a : Int) + 1 from by omega] at hix1
  have hd3 : decide (127 < (d.toNat : Int)) = true := by simp; omega
  clear h24' hlow hk
  go_enter Tryd.func32, Tryd.ntmps32
  go_wp2_with fail
  go_quiet (fail)
  go_wp2_with fail
  go_quiet (fail)
  go_wp2_with fail
  go_quiet (fail)
  go_wp2_with fail
  go_returns
  exact .inr ⟨.inl HN.out, _, _, _, rfl, ha, ((R0.out.drewN _).put1).drewN _, (Keeps.put ((Keeps.refl _ _).drewN _) R0.out.lt 1 _).drewN _⟩
set_option maxHeartbeats 4000000 in
theorem fhead_mid0 (br : Nat) (s : List UInt8) (a : Nat) (w : World) (hR : Rf br s a w) (hs : s.length ≤ 4096) (ha : a < s.length) (hk : s[a].toNat / 32 ≤ 5) (hlow : s[a].toNat % 32 = 24 + 0) (hsh : a + 1 + 1 ≤ s.length) :
    Calls Tryd.prog 32 #[.pointer (some ⟨br, 0, none⟩)] w fun e w' => RhF br s a w w' e := by
  obtain ⟨c0, c1, f1⟩ := hR.facts
  have hsz : (⟨s.toArray⟩ : ByteArray).size = s.length := by simp [ByteArray.size]
  have hx := drop_one s a ha
  have hix := index_s s a ha
  have R0 := Lib.hid hR
  generalize s[a] = c at *
  have hb8 := c.toNat_lt
  have h31 := and31u c
  have HX := Lib.hid hx
  clear hR hx
  have hd0 : decide (s.length ≤ a) = false := by simp; omega
  have hd1 : decide (5 < (c.toNat : Int) / 32) = false := by simp; omega
  have h24' : (c.toNat : Int) % 32 = 24 := by omega
  rw [h24'] at h31
  have HH := Lib.hid (hd_mid c (s.drop (a + 1)) 0 (by omega) hlow)
  have HK := Lib.hid hk
  have hd2 : decide ((s.length : Int) - ((a : Int) + 1) < 1) = false := by simp; omega
  have hLl : ((s.drop (a + 1)).take 1).length = 1 := by simp; omega
  have HH2 : Hid (hd (s.drop a) = if beVal ((s.drop (a + 1)).take 1) < 9223372036854775808 ∧ headL (c.toNat / 32) (beVal ((s.drop (a + 1)).take 1)) = c :: (s.drop (a + 1)).take 1 then some (c.toNat / 32, beVal ((s.drop (a + 1)).take 1), 1 + 1) else Option.none) := Lib.hid (by
    rw [HX.out, HH.out]
    have e : (2 ^ 0 ≤ (s.drop (a + 1)).length) = True := by simp; omega
    simp only [e, true_and, show (2 : Nat) ^ 0 = 1 from rfl])
  have HC : Hid (c = b8 (32 * (c.toNat / 32) + 24 + 0)) := Lib.hid (by apply UInt8.toNat_inj.1; rw [b8_nat]; omega)
  have HG : Hid (∀ (q : Nat) (h1 : a + 1 + q < s.length) (h2 : q < ((s.drop (a + 1)).take 1).length), ((s.drop (a + 1)).take 1)[q] = s[a + 1 + q]) := Lib.hid (fun q h1 h2 => by rw [List.getElem_take, List.getElem_drop])
  have HB : Hid (∀ k, beVal (((s.drop (a + 1)).take 1).take k) < 9223372036854775808) := Lib.hid (fun k => small4 _ (by rw [List.length_take, hLl]; omega))
  generalize (s.drop (a + 1)).take 1 = L at hLl HH2 HB HG
  have HL := Lib.hid hLl
  clear hLl HH HX
  clear h24' hlow hk
  go_enter Tryd.func32, Tryd.ntmps32
  go_wp2_with fail
  go_quiet (fail)
  go_wp2_with fail
  go_quiet (fail)
  go_wp2_with fail
  go_quiet (fail)
  go_wp2_with fail
  have P0 : Hid (∀ n1 n2, Rf br s (a + 1) (((w.drewN n1).setCell ⟨br, 1, none⟩ (.int .i64 ((a : Int) + 1))).drewN n2)) := Lib.hid (fun _ _ => ((R0.out.drewN _).put1).drewN _)
  have Q0 : Hid (∀ n1 n2, Keeps br w (((w.drewN n1).setCell ⟨br, 1, none⟩ (.int .i64 ((a : Int) + 1))).drewN n2)) := Lib.hid (fun _ _ => (Keeps.put ((Keeps.refl _ _).drewN _) R0.out.lt 1 _).drewN _)
  clear c0 c1 f1 hix h31 hd0 hd1 hd2
  go_loopw [8, 9] (fun v i wr => ∃ k : Nat, k ≤ 1 ∧ i = .int .i64 k ∧ v = .int .i64 (beVal (L.take k)) ∧ Hid (Rf br s (a + 1 + k) wr) ∧ Hid (Keeps br w wr)) (fun _ i _ => 1 - (intOf i).toNat)
  case atStart => exact ⟨0, by omega, rfl, rfl, Lib.hid (P0.out _ _), Lib.hid (Q0.out _ _)⟩
  case round =>
    obtain ⟨k, hk, rfl, rfl, HR, HK2⟩ := hrel
    by_cases hlk : k < 1
    · have hlt : a + 1 + k < s.length := by omega
      have HG2 := Lib.hid (HG.out k hlt)
      obtain ⟨p, hp⟩ : ∃ p, p = a + 1 + k := ⟨_, rfl⟩
      have HP := Lib.hid hp
      have HR2 : Hid (Rf br s p wr) := Lib.hid (by rw [HP.out]; exact HR.out)
      obtain ⟨c0, c1, f1⟩ := HR2.out.facts
      have hlp : p < s.length := by omega
      have hix := index_s s p hlp
      have HE : Hid (s[a + 1 + k] = s[p]) := Lib.hid (by simp only [hp])
      clear hp
      have hk2 : k < L.length := by rw [HL.out]; exact hlk
      have hT : L.take (k + 1) = L.take k ++ [L[k]] := List.take_succ_eq_append_getElem hk2
      rw [HG2.out hk2, HE.out] at hT
      clear HE HG2
      have h8 := s[p].toNat_lt
      generalize s[p] = d2 at *
      have hv : (256 * (beVal (L.take k) : Int) + (d2.toNat : Int)) = (beVal (L.take (k + 1)) : Int) := by rw [hT, beVal_snoc]; omega
      have hlim := HB.out (k + 1)
      rw [hT, beVal_snoc] at hlim
      have HV := Lib.hid hv
      clear hT hv
      go_wp2_with fail
      go_quiet (fail)
      rw [HV.out]
      go_wp2_with fail
      go_roundw
      case rel => exact ⟨k + 1, by omega, by go_num, rfl, Lib.hid (by rw [show a + 1 + (k + 1) = p + 1 from by have := HP.out; omega]; exact (HR2.out.drewN _).put1), Lib.hid (Keeps.setCell (HK2.out.drewN _) _ _)⟩
      case measure => simp [intOf]; omega
    · obtain rfl : k = 1 := by omega
      have e : L.take 1 = L := List.take_of_length_le (by rw [HL.out]; omega)
      rw [e]
      have hlim := HB.out 1
      rw [e] at hlim
      have HQ : Hid (hd (s.drop a) = if manyOf (beVal L) = 1 then some (c.toNat / 32, beVal L, 1 + 1) else Option.none) := Lib.hid (by
        rw [HH2.out]
        have hc := head_canon (c.toNat / 32) 0 L (by omega) HL.out
        rw [← HC.out] at hc
        simp only [hlim, true_and, hc, show (2 : Nat) ^ 0 = 1 from rfl])
      clear e HB HG HH2 HL HC
      generalize beVal L = N at *
      generalize hck : c.toNat / 32 = K at *
      have e1 : (c.toNat : Int) / 32 = (K : Int) := by omega
      rw [e1]
      have HK7 := Lib.hid HK
      clear e1 hb8 hck
      go_wp2_with fail
      refine (refhead K N (by have := HK.out; omega) hlim wr).mono ?_
      rintro e w' ⟨⟨A, C, rfl⟩, hb⟩
      have HB' := Lib.hid hb
      clear hb
      go_wp2_with fail
      go_returns
      by_cases hm : manyOf N = 1
      · have hb2 : ((1 : Int) + (manyOf N : Int) == 2) = true := by rw [hm]; rfl
        refine .inl ⟨K, N, 1 + 1, by rw [HQ.out, if_pos hm], HK.out, ?_, (by rw [show a + (1 + 1) = a + 1 + 1 from by omega]; exact HR.out.below HB'.out), HK2.out.below HB'.out⟩
        show _ = Ending.returned (.tuple #[.int .i64 (K : Int), .int .i64 (N : Int), .bool true])
        rw [← hb2]
        rfl
      · have hb2 : ((1 : Int) + (manyOf N : Int) == 2) = false := by simp; omega
        refine .inr ⟨.inl (by rw [HQ.out, if_neg hm]), K, N, a + 1 + 1, ?_, hsh, HR.out.below HB'.out, HK2.out.below HB'.out⟩
        show _ = Ending.returned (.tuple #[.int .i64 (K : Int), .int .i64 (N : Int), .bool false])
        rw [← hb2]
        rfl
set_option maxHeartbeats 4000000 in
theorem fhead_mid1 (br : Nat) (s : List UInt8) (a : Nat) (w : World) (hR : Rf br s a w) (hs : s.length ≤ 4096) (ha : a < s.length) (hk : s[a].toNat / 32 ≤ 5) (hlow : s[a].toNat % 32 = 24 + 1) (hsh : a + 1 + 2 ≤ s.length) :
    Calls Tryd.prog 32 #[.pointer (some ⟨br, 0, none⟩)] w fun e w' => RhF br s a w w' e := by
  obtain ⟨c0, c1, f1⟩ := hR.facts
  have hsz : (⟨s.toArray⟩ : ByteArray).size = s.length := by simp [ByteArray.size]
  have hx := drop_one s a ha
  have hix := index_s s a ha
  have R0 := Lib.hid hR
  generalize s[a] = c at *
  have hb8 := c.toNat_lt
  have h31 := and31u c
  have HX := Lib.hid hx
  clear hR hx
  have hd0 : decide (s.length ≤ a) = false := by simp; omega
  have hd1 : decide (5 < (c.toNat : Int) / 32) = false := by simp; omega
  have h24' : (c.toNat : Int) % 32 = 25 := by omega
  rw [h24'] at h31
  have HH := Lib.hid (hd_mid c (s.drop (a + 1)) 1 (by omega) hlow)
  have HK := Lib.hid hk
  have hd2 : decide ((s.length : Int) - ((a : Int) + 1) < 2) = false := by simp; omega
  have hLl : ((s.drop (a + 1)).take 2).length = 2 := by simp; omega
  have HH2 : Hid (hd (s.drop a) = if beVal ((s.drop (a + 1)).take 2) < 9223372036854775808 ∧ headL (c.toNat / 32) (beVal ((s.drop (a + 1)).take 2)) = c :: (s.drop (a + 1)).take 2 then some (c.toNat / 32, beVal ((s.drop (a + 1)).take 2), 1 + 2) else Option.none) := Lib.hid (by
    rw [HX.out, HH.out]
    have e : (2 ^ 1 ≤ (s.drop (a + 1)).length) = True := by simp; omega
    simp only [e, true_and, show (2 : Nat) ^ 1 = 2 from rfl])
  have HC : Hid (c = b8 (32 * (c.toNat / 32) + 24 + 1)) := Lib.hid (by apply UInt8.toNat_inj.1; rw [b8_nat]; omega)
  have HG : Hid (∀ (q : Nat) (h1 : a + 1 + q < s.length) (h2 : q < ((s.drop (a + 1)).take 2).length), ((s.drop (a + 1)).take 2)[q] = s[a + 1 + q]) := Lib.hid (fun q h1 h2 => by rw [List.getElem_take, List.getElem_drop])
  have HB : Hid (∀ k, beVal (((s.drop (a + 1)).take 2).take k) < 9223372036854775808) := Lib.hid (fun k => small4 _ (by rw [List.length_take, hLl]; omega))
  generalize (s.drop (a + 1)).take 2 = L at hLl HH2 HB HG
  have HL := Lib.hid hLl
  clear hLl HH HX
  clear h24' hlow hk
  go_enter Tryd.func32, Tryd.ntmps32
  go_wp2_with fail
  go_quiet (fail)
  go_wp2_with fail
  go_quiet (fail)
  go_wp2_with fail
  go_quiet (fail)
  go_wp2_with fail
  have P0 : Hid (∀ n1 n2, Rf br s (a + 1) (((w.drewN n1).setCell ⟨br, 1, none⟩ (.int .i64 ((a : Int) + 1))).drewN n2)) := Lib.hid (fun _ _ => ((R0.out.drewN _).put1).drewN _)
  have Q0 : Hid (∀ n1 n2, Keeps br w (((w.drewN n1).setCell ⟨br, 1, none⟩ (.int .i64 ((a : Int) + 1))).drewN n2)) := Lib.hid (fun _ _ => (Keeps.put ((Keeps.refl _ _).drewN _) R0.out.lt 1 _).drewN _)
  clear c0 c1 f1 hix h31 hd0 hd1 hd2
  go_loopw [8, 9] (fun v i wr => ∃ k : Nat, k ≤ 2 ∧ i = .int .i64 k ∧ v = .int .i64 (beVal (L.take k)) ∧ Hid (Rf br s (a + 1 + k) wr) ∧ Hid (Keeps br w wr)) (fun _ i _ => 2 - (intOf i).toNat)
  case atStart => exact ⟨0, by omega, rfl, rfl, Lib.hid (P0.out _ _), Lib.hid (Q0.out _ _)⟩
  case round =>
    obtain ⟨k, hk, rfl, rfl, HR, HK2⟩ := hrel
    by_cases hlk : k < 2
    · have hlt : a + 1 + k < s.length := by omega
      have HG2 := Lib.hid (HG.out k hlt)
      obtain ⟨p, hp⟩ : ∃ p, p = a + 1 + k := ⟨_, rfl⟩
      have HP := Lib.hid hp
      have HR2 : Hid (Rf br s p wr) := Lib.hid (by rw [HP.out]; exact HR.out)
      obtain ⟨c0, c1, f1⟩ := HR2.out.facts
      have hlp : p < s.length := by omega
      have hix := index_s s p hlp
      have HE : Hid (s[a + 1 + k] = s[p]) := Lib.hid (by simp only [hp])
      clear hp
      have hk2 : k < L.length := by rw [HL.out]; exact hlk
      have hT : L.take (k + 1) = L.take k ++ [L[k]] := List.take_succ_eq_append_getElem hk2
      rw [HG2.out hk2, HE.out] at hT
      clear HE HG2
      have h8 := s[p].toNat_lt
      generalize s[p] = d2 at *
      have hv : (256 * (beVal (L.take k) : Int) + (d2.toNat : Int)) = (beVal (L.take (k + 1)) : Int) := by rw [hT, beVal_snoc]; omega
      have hlim := HB.out (k + 1)
      rw [hT, beVal_snoc] at hlim
      have HV := Lib.hid hv
      clear hT hv
      go_wp2_with fail
      go_quiet (fail)
      rw [HV.out]
      go_wp2_with fail
      go_roundw
      case rel => exact ⟨k + 1, by omega, by go_num, rfl, Lib.hid (by rw [show a + 1 + (k + 1) = p + 1 from by have := HP.out; omega]; exact (HR2.out.drewN _).put1), Lib.hid (Keeps.setCell (HK2.out.drewN _) _ _)⟩
      case measure => simp [intOf]; omega
    · obtain rfl : k = 2 := by omega
      have e : L.take 2 = L := List.take_of_length_le (by rw [HL.out]; omega)
      rw [e]
      have hlim := HB.out 2
      rw [e] at hlim
      have HQ : Hid (hd (s.drop a) = if manyOf (beVal L) = 2 then some (c.toNat / 32, beVal L, 1 + 2) else Option.none) := Lib.hid (by
        rw [HH2.out]
        have hc := head_canon (c.toNat / 32) 1 L (by omega) HL.out
        rw [← HC.out] at hc
        simp only [hlim, true_and, hc, show (2 : Nat) ^ 1 = 2 from rfl])
      clear e HB HG HH2 HL HC
      generalize beVal L = N at *
      generalize hck : c.toNat / 32 = K at *
      have e1 : (c.toNat : Int) / 32 = (K : Int) := by omega
      rw [e1]
      have HK7 := Lib.hid HK
      clear e1 hb8 hck
      go_wp2_with fail
      refine (refhead K N (by have := HK.out; omega) hlim wr).mono ?_
      rintro e w' ⟨⟨A, C, rfl⟩, hb⟩
      have HB' := Lib.hid hb
      clear hb
      go_wp2_with fail
      go_returns
      by_cases hm : manyOf N = 2
      · have hb2 : ((1 : Int) + (manyOf N : Int) == 3) = true := by rw [hm]; rfl
        refine .inl ⟨K, N, 1 + 2, by rw [HQ.out, if_pos hm], HK.out, ?_, (by rw [show a + (1 + 2) = a + 1 + 2 from by omega]; exact HR.out.below HB'.out), HK2.out.below HB'.out⟩
        show _ = Ending.returned (.tuple #[.int .i64 (K : Int), .int .i64 (N : Int), .bool true])
        rw [← hb2]
        rfl
      · have hb2 : ((1 : Int) + (manyOf N : Int) == 3) = false := by simp; omega
        refine .inr ⟨.inl (by rw [HQ.out, if_neg hm]), K, N, a + 1 + 2, ?_, hsh, HR.out.below HB'.out, HK2.out.below HB'.out⟩
        show _ = Ending.returned (.tuple #[.int .i64 (K : Int), .int .i64 (N : Int), .bool false])
        rw [← hb2]
        rfl
set_option maxHeartbeats 4000000 in
theorem fhead_mid2 (br : Nat) (s : List UInt8) (a : Nat) (w : World) (hR : Rf br s a w) (hs : s.length ≤ 4096) (ha : a < s.length) (hk : s[a].toNat / 32 ≤ 5) (hlow : s[a].toNat % 32 = 24 + 2) (hsh : a + 1 + 4 ≤ s.length) :
    Calls Tryd.prog 32 #[.pointer (some ⟨br, 0, none⟩)] w fun e w' => RhF br s a w w' e := by
  obtain ⟨c0, c1, f1⟩ := hR.facts
  have hsz : (⟨s.toArray⟩ : ByteArray).size = s.length := by simp [ByteArray.size]
  have hx := drop_one s a ha
  have hix := index_s s a ha
  have R0 := Lib.hid hR
  generalize s[a] = c at *
  have hb8 := c.toNat_lt
  have h31 := and31u c
  have HX := Lib.hid hx
  clear hR hx
  have hd0 : decide (s.length ≤ a) = false := by simp; omega
  have hd1 : decide (5 < (c.toNat : Int) / 32) = false := by simp; omega
  have h24' : (c.toNat : Int) % 32 = 26 := by omega
  rw [h24'] at h31
  have HH := Lib.hid (hd_mid c (s.drop (a + 1)) 2 (by omega) hlow)
  have HK := Lib.hid hk
  have hd2 : decide ((s.length : Int) - ((a : Int) + 1) < 4) = false := by simp; omega
  have hLl : ((s.drop (a + 1)).take 4).length = 4 := by simp; omega
  have HH2 : Hid (hd (s.drop a) = if beVal ((s.drop (a + 1)).take 4) < 9223372036854775808 ∧ headL (c.toNat / 32) (beVal ((s.drop (a + 1)).take 4)) = c :: (s.drop (a + 1)).take 4 then some (c.toNat / 32, beVal ((s.drop (a + 1)).take 4), 1 + 4) else Option.none) := Lib.hid (by
    rw [HX.out, HH.out]
    have e : (2 ^ 2 ≤ (s.drop (a + 1)).length) = True := by simp; omega
    simp only [e, true_and, show (2 : Nat) ^ 2 = 4 from rfl])
  have HC : Hid (c = b8 (32 * (c.toNat / 32) + 24 + 2)) := Lib.hid (by apply UInt8.toNat_inj.1; rw [b8_nat]; omega)
  have HG : Hid (∀ (q : Nat) (h1 : a + 1 + q < s.length) (h2 : q < ((s.drop (a + 1)).take 4).length), ((s.drop (a + 1)).take 4)[q] = s[a + 1 + q]) := Lib.hid (fun q h1 h2 => by rw [List.getElem_take, List.getElem_drop])
  have HB : Hid (∀ k, beVal (((s.drop (a + 1)).take 4).take k) < 9223372036854775808) := Lib.hid (fun k => small4 _ (by rw [List.length_take, hLl]; omega))
  generalize (s.drop (a + 1)).take 4 = L at hLl HH2 HB HG
  have HL := Lib.hid hLl
  clear hLl HH HX
  clear h24' hlow hk
  go_enter Tryd.func32, Tryd.ntmps32
  go_wp2_with fail
  go_quiet (fail)
  go_wp2_with fail
  go_quiet (fail)
  go_wp2_with fail
  go_quiet (fail)
  go_wp2_with fail
  have P0 : Hid (∀ n1 n2, Rf br s (a + 1) (((w.drewN n1).setCell ⟨br, 1, none⟩ (.int .i64 ((a : Int) + 1))).drewN n2)) := Lib.hid (fun _ _ => ((R0.out.drewN _).put1).drewN _)
  have Q0 : Hid (∀ n1 n2, Keeps br w (((w.drewN n1).setCell ⟨br, 1, none⟩ (.int .i64 ((a : Int) + 1))).drewN n2)) := Lib.hid (fun _ _ => (Keeps.put ((Keeps.refl _ _).drewN _) R0.out.lt 1 _).drewN _)
  clear c0 c1 f1 hix h31 hd0 hd1 hd2
  go_loopw [8, 9] (fun v i wr => ∃ k : Nat, k ≤ 4 ∧ i = .int .i64 k ∧ v = .int .i64 (beVal (L.take k)) ∧ Hid (Rf br s (a + 1 + k) wr) ∧ Hid (Keeps br w wr)) (fun _ i _ => 4 - (intOf i).toNat)
  case atStart => exact ⟨0, by omega, rfl, rfl, Lib.hid (P0.out _ _), Lib.hid (Q0.out _ _)⟩
  case round =>
    obtain ⟨k, hk, rfl, rfl, HR, HK2⟩ := hrel
    by_cases hlk : k < 4
    · have hlt : a + 1 + k < s.length := by omega
      have HG2 := Lib.hid (HG.out k hlt)
      obtain ⟨p, hp⟩ : ∃ p, p = a + 1 + k := ⟨_, rfl⟩
      have HP := Lib.hid hp
      have HR2 : Hid (Rf br s p wr) := Lib.hid (by rw [HP.out]; exact HR.out)
      obtain ⟨c0, c1, f1⟩ := HR2.out.facts
      have hlp : p < s.length := by omega
      have hix := index_s s p hlp
      have HE : Hid (s[a + 1 + k] = s[p]) := Lib.hid (by simp only [hp])
      clear hp
      have hk2 : k < L.length := by rw [HL.out]; exact hlk
      have hT : L.take (k + 1) = L.take k ++ [L[k]] := List.take_succ_eq_append_getElem hk2
      rw [HG2.out hk2, HE.out] at hT
      clear HE HG2
      have h8 := s[p].toNat_lt
      generalize s[p] = d2 at *
      have hv : (256 * (beVal (L.take k) : Int) + (d2.toNat : Int)) = (beVal (L.take (k + 1)) : Int) := by rw [hT, beVal_snoc]; omega
      have hlim := HB.out (k + 1)
      rw [hT, beVal_snoc] at hlim
      have HV := Lib.hid hv
      clear hT hv
      go_wp2_with fail
      go_quiet (fail)
      rw [HV.out]
      go_wp2_with fail
      go_roundw
      case rel => exact ⟨k + 1, by omega, by go_num, rfl, Lib.hid (by rw [show a + 1 + (k + 1) = p + 1 from by have := HP.out; omega]; exact (HR2.out.drewN _).put1), Lib.hid (Keeps.setCell (HK2.out.drewN _) _ _)⟩
      case measure => simp [intOf]; omega
    · obtain rfl : k = 4 := by omega
      have e : L.take 4 = L := List.take_of_length_le (by rw [HL.out]; omega)
      rw [e]
      have hlim := HB.out 4
      rw [e] at hlim
      have HQ : Hid (hd (s.drop a) = if manyOf (beVal L) = 4 then some (c.toNat / 32, beVal L, 1 + 4) else Option.none) := Lib.hid (by
        rw [HH2.out]
        have hc := head_canon (c.toNat / 32) 2 L (by omega) HL.out
        rw [← HC.out] at hc
        simp only [hlim, true_and, hc, show (2 : Nat) ^ 2 = 4 from rfl])
      clear e HB HG HH2 HL HC
      generalize beVal L = N at *
      generalize hck : c.toNat / 32 = K at *
      have e1 : (c.toNat : Int) / 32 = (K : Int) := by omega
      rw [e1]
      have HK7 := Lib.hid HK
      clear e1 hb8 hck
      go_wp2_with fail
      refine (refhead K N (by have := HK.out; omega) hlim wr).mono ?_
      rintro e w' ⟨⟨A, C, rfl⟩, hb⟩
      have HB' := Lib.hid hb
      clear hb
      go_wp2_with fail
      go_returns
      by_cases hm : manyOf N = 4
      · have hb2 : ((1 : Int) + (manyOf N : Int) == 5) = true := by rw [hm]; rfl
        refine .inl ⟨K, N, 1 + 4, by rw [HQ.out, if_pos hm], HK.out, ?_, (by rw [show a + (1 + 4) = a + 1 + 4 from by omega]; exact HR.out.below HB'.out), HK2.out.below HB'.out⟩
        show _ = Ending.returned (.tuple #[.int .i64 (K : Int), .int .i64 (N : Int), .bool true])
        rw [← hb2]
        rfl
      · have hb2 : ((1 : Int) + (manyOf N : Int) == 5) = false := by simp; omega
        refine .inr ⟨.inl (by rw [HQ.out, if_neg hm]), K, N, a + 1 + 4, ?_, hsh, HR.out.below HB'.out, HK2.out.below HB'.out⟩
        show _ = Ending.returned (.tuple #[.int .i64 (K : Int), .int .i64 (N : Int), .bool false])
        rw [← hb2]
        rfl
set_option maxHeartbeats 4000000 in
theorem fhead_mid3 (br : Nat) (s : List UInt8) (a : Nat) (w : World) (hR : Rf br s a w) (hs : s.length ≤ 4096) (ha : a < s.length) (hk : s[a].toNat / 32 ≤ 5) (hlow : s[a].toNat % 32 = 24 + 3) (hsh : a + 1 + 8 ≤ s.length) (hbig : s[a + 1].toNat ≤ 127) :
    Calls Tryd.prog 32 #[.pointer (some ⟨br, 0, none⟩)] w fun e w' => RhF br s a w w' e := by
  obtain ⟨c0, c1, f1⟩ := hR.facts
  have hsz : (⟨s.toArray⟩ : ByteArray).size = s.length := by simp [ByteArray.size]
  have hx := drop_one s a ha
  have hix := index_s s a ha
  have R0 := Lib.hid hR
  generalize s[a] = c at *
  have hb8 := c.toNat_lt
  have h31 := and31u c
  have HX := Lib.hid hx
  clear hR hx
  have hd0 : decide (s.length ≤ a) = false := by simp; omega
  have hd1 : decide (5 < (c.toNat : Int) / 32) = false := by simp; omega
  have h24' : (c.toNat : Int) % 32 = 27 := by omega
  rw [h24'] at h31
  have HH := Lib.hid (hd_mid c (s.drop (a + 1)) 3 (by omega) hlow)
  have HK := Lib.hid hk
  have hd2 : decide ((s.length : Int) - ((a : Int) + 1) < 8) = false := by simp; omega
  have hLl : ((s.drop (a + 1)).take 8).length = 8 := by simp; omega
  have HH2 : Hid (hd (s.drop a) = if beVal ((s.drop (a + 1)).take 8) < 9223372036854775808 ∧ headL (c.toNat / 32) (beVal ((s.drop (a + 1)).take 8)) = c :: (s.drop (a + 1)).take 8 then some (c.toNat / 32, beVal ((s.drop (a + 1)).take 8), 1 + 8) else Option.none) := Lib.hid (by
    rw [HX.out, HH.out]
    have e : (2 ^ 3 ≤ (s.drop (a + 1)).length) = True := by simp; omega
    simp only [e, true_and, show (2 : Nat) ^ 3 = 8 from rfl])
  have HC : Hid (c = b8 (32 * (c.toNat / 32) + 24 + 3)) := Lib.hid (by apply UInt8.toNat_inj.1; rw [b8_nat]; omega)
  have HG : Hid (∀ (q : Nat) (h1 : a + 1 + q < s.length) (h2 : q < ((s.drop (a + 1)).take 8).length), ((s.drop (a + 1)).take 8)[q] = s[a + 1 + q]) := Lib.hid (fun q h1 h2 => by rw [List.getElem_take, List.getElem_drop])
  have HB : Hid (∀ k, beVal (((s.drop (a + 1)).take 8).take k) < 9223372036854775808) := Lib.hid (fun k => by
    cases k with
    | zero => rw [List.take_zero]; exact (by decide : beVal [] < 9223372036854775808)
    | succ k =>
      rw [drop_one s (a + 1) (by omega), List.take_succ_cons, List.take_succ_cons]
      exact small8 _ _ (by rw [List.length_take, List.length_take]; omega) hbig)
  have hix1 := index_s s (a + 1) (by omega)
  generalize s[a + 1] = d at hbig hix1
  rw [show ((a + 1 : Nat) : Int) = (a : Int) + 1 from by omega] at hix1
  have hd3 : decide (127 < (d.toNat : Int)) = false := by simp; omega
  generalize (s.drop (a + 1)).take 8 = L at hLl HH2 HB HG
  have HL := Lib.hid hLl
  clear hLl HH HX
  clear h24' hlow hk
  go_enter Tryd.func32, Tryd.ntmps32
  go_wp2_with fail
  go_quiet (fail)
  go_wp2_with fail
  go_quiet (fail)
  go_wp2_with fail
  go_quiet (fail)
  go_wp2_with fail
  have P0 : Hid (∀ n1 n2, Rf br s (a + 1) (((w.drewN n1).setCell ⟨br, 1, none⟩ (.int .i64 ((a : Int) + 1))).drewN n2)) := Lib.hid (fun _ _ => ((R0.out.drewN _).put1).drewN _)
  have Q0 : Hid (∀ n1 n2, Keeps br w (((w.drewN n1).setCell ⟨br, 1, none⟩ (.int .i64 ((a : Int) + 1))).drewN n2)) := Lib.hid (fun _ _ => (Keeps.put ((Keeps.refl _ _).drewN _) R0.out.lt 1 _).drewN _)
  clear c0 c1 f1 hix h31 hd0 hd1 hd2 hd3 hix1
  go_loopw [8, 9] (fun v i wr => ∃ k : Nat, k ≤ 8 ∧ i = .int .i64 k ∧ v = .int .i64 (beVal (L.take k)) ∧ Hid (Rf br s (a + 1 + k) wr) ∧ Hid (Keeps br w wr)) (fun _ i _ => 8 - (intOf i).toNat)
  case atStart => exact ⟨0, by omega, rfl, rfl, Lib.hid (P0.out _ _), Lib.hid (Q0.out _ _)⟩
  case round =>
    obtain ⟨k, hk, rfl, rfl, HR, HK2⟩ := hrel
    by_cases hlk : k < 8
    · have hlt : a + 1 + k < s.length := by omega
      have HG2 := Lib.hid (HG.out k hlt)
      obtain ⟨p, hp⟩ : ∃ p, p = a + 1 + k := ⟨_, rfl⟩
      have HP := Lib.hid hp
      have HR2 : Hid (Rf br s p wr) := Lib.hid (by rw [HP.out]; exact HR.out)
      obtain ⟨c0, c1, f1⟩ := HR2.out.facts
      have hlp : p < s.length := by omega
      have hix := index_s s p hlp
      have HE : Hid (s[a + 1 + k] = s[p]) := Lib.hid (by simp only [hp])
      clear hp
      have hk2 : k < L.length := by rw [HL.out]; exact hlk
      have hT : L.take (k + 1) = L.take k ++ [L[k]] := List.take_succ_eq_append_getElem hk2
      rw [HG2.out hk2, HE.out] at hT
      clear HE HG2
      have h8 := s[p].toNat_lt
      generalize s[p] = d2 at *
      have hv : (256 * (beVal (L.take k) : Int) + (d2.toNat : Int)) = (beVal (L.take (k + 1)) : Int) := by rw [hT, beVal_snoc]; omega
      have hlim := HB.out (k + 1)
      rw [hT, beVal_snoc] at hlim
      have HV := Lib.hid hv
      clear hT hv
      go_wp2_with fail
      go_quiet (fail)
      rw [HV.out]
      go_wp2_with fail
      go_roundw
      case rel => exact ⟨k + 1, by omega, by go_num, rfl, Lib.hid (by rw [show a + 1 + (k + 1) = p + 1 from by have := HP.out; omega]; exact (HR2.out.drewN _).put1), Lib.hid (Keeps.setCell (HK2.out.drewN _) _ _)⟩
      case measure => simp [intOf]; omega
    · obtain rfl : k = 8 := by omega
      have e : L.take 8 = L := List.take_of_length_le (by rw [HL.out]; omega)
      rw [e]
      have hlim := HB.out 8
      rw [e] at hlim
      have HQ : Hid (hd (s.drop a) = if manyOf (beVal L) = 8 then some (c.toNat / 32, beVal L, 1 + 8) else Option.none) := Lib.hid (by
        rw [HH2.out]
        have hc := head_canon (c.toNat / 32) 3 L (by omega) HL.out
        rw [← HC.out] at hc
        simp only [hlim, true_and, hc, show (2 : Nat) ^ 3 = 8 from rfl])
      clear e HB HG HH2 HL HC
      generalize beVal L = N at *
      generalize hck : c.toNat / 32 = K at *
      have e1 : (c.toNat : Int) / 32 = (K : Int) := by omega
      rw [e1]
      have HK7 := Lib.hid HK
      clear e1 hb8 hck
      go_wp2_with fail
      refine (refhead K N (by have := HK.out; omega) hlim wr).mono ?_
      rintro e w' ⟨⟨A, C, rfl⟩, hb⟩
      have HB' := Lib.hid hb
      clear hb
      go_wp2_with fail
      go_returns
      by_cases hm : manyOf N = 8
      · have hb2 : ((1 : Int) + (manyOf N : Int) == 9) = true := by rw [hm]; rfl
        refine .inl ⟨K, N, 1 + 8, by rw [HQ.out, if_pos hm], HK.out, ?_, (by rw [show a + (1 + 8) = a + 1 + 8 from by omega]; exact HR.out.below HB'.out), HK2.out.below HB'.out⟩
        show _ = Ending.returned (.tuple #[.int .i64 (K : Int), .int .i64 (N : Int), .bool true])
        rw [← hb2]
        rfl
      · have hb2 : ((1 : Int) + (manyOf N : Int) == 9) = false := by simp; omega
        refine .inr ⟨.inl (by rw [HQ.out, if_neg hm]), K, N, a + 1 + 8, ?_, hsh, HR.out.below HB'.out, HK2.out.below HB'.out⟩
        show _ = Ending.returned (.tuple #[.int .i64 (K : Int), .int .i64 (N : Int), .bool false])
        rw [← hb2]
        rfl
theorem fhead_any (br : Nat) (s : List UInt8) (a : Nat) (w : World) (hR : Rf br s a w) (hs : s.length ≤ 4096) (ha : a ≤ s.length) :
    Calls Tryd.prog 32 #[.pointer (some ⟨br, 0, none⟩)] w fun e w' => RhF br s a w w' e := by
  by_cases he : a = s.length
  · exact fhead_end br s a w hR hs he
  have ha : a < s.length := by omega
  by_cases hk : s[a].toNat / 32 ≤ 5
  rotate_left
  · exact fhead_high br s a w hR hs ha hk
  by_cases hm : s[a].toNat % 32 ≤ 27
  rotate_left
  · exact fhead_bad br s a w hR hs ha hk hm
  by_cases hl : s[a].toNat % 32 < 24
  · exact fhead_low br s a w hR hs ha hk hl
  rcases (by omega : s[a].toNat % 32 = 24 + 0 ∨ s[a].toNat % 32 = 24 + 1 ∨ s[a].toNat % 32 = 24 + 2 ∨ s[a].toNat % 32 = 24 + 3) with h | h | h | h
  · by_cases hsh : s.length < a + 1 + 1
    · exact fhead_short0 br s a w hR hs ha hk h hsh
    · exact fhead_mid0 br s a w hR hs ha hk h (by omega)
  · by_cases hsh : s.length < a + 1 + 2
    · exact fhead_short1 br s a w hR hs ha hk h hsh
    · exact fhead_mid1 br s a w hR hs ha hk h (by omega)
  · by_cases hsh : s.length < a + 1 + 4
    · exact fhead_short2 br s a w hR hs ha hk h hsh
    · exact fhead_mid2 br s a w hR hs ha hk h (by omega)
  · by_cases hsh : s.length < a + 1 + 8
    · exact fhead_short3 br s a w hR hs ha hk h hsh
    · by_cases hbig : s[a + 1].toNat ≤ 127
      · exact fhead_mid3 br s a w hR hs ha hk h (by omega) hbig
      · exact fhead_sign br s a w hR hs ha hk h (by omega) (by omega)
end Go.Proofs.YtghdcgokndmkjaaDoor
