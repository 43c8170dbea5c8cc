/- The document's reader: what its item answers. Conditions: at most 4096 bytes; the library's tables. -/
import Derived.Test.YtghdcgokndmkjaaDoorRb
import Derived.Test.YtghdcgokndmkjaaDoorY
set_option linter.unusedVariables false
set_option linter.unusedSimpArgs false
set_option maxRecDepth 100000
namespace Go.Proofs.YtghdcgokndmkjaaDoor
open Go.RowKit Go.Sort

theorem fhead_yes (br : Nat) (s : List UInt8) (a k n m : Nat) (w : World) (hR : Rf br s a w) (hs : s.length ≤ 4096) (ha : a ≤ s.length) (hh : hd (s.drop a) = some (k, n, m)) (hk : k ≤ 5) :
    Calls Tryd.prog 32 #[.pointer (some ⟨br, 0, none⟩)] w fun e w' => e = .returned (.tuple #[.int .i64 (k : Int), .int .i64 (n : Int), .bool true]) ∧ Rf br s (a + m) w' ∧ Keeps br w w' :=
  (fhead_any br s a w hR hs ha).mono fun e w' h => by
    rcases h with ⟨k', n', m', h1, _, he, h2, h3⟩ | ⟨h1, _⟩
    · rw [hh] at h1
      simp only [Option.some.injEq, Prod.mk.injEq] at h1
      obtain ⟨rfl, rfl, rfl⟩ := h1
      exact ⟨he, h2, h3⟩
    · rcases h1 with h1 | ⟨k', n', m', h1, h2⟩
      · rw [hh] at h1; cases h1
      · rw [hh] at h1
        simp only [Option.some.injEq, Prod.mk.injEq] at h1
        obtain ⟨rfl, rfl, rfl⟩ := h1
        omega
theorem fhead_no (br : Nat) (s : List UInt8) (a : Nat) (w : World) (hR : Rf br s a w) (hs : s.length ≤ 4096) (ha : a ≤ s.length) (hh : ∀ k n m, hd (s.drop a) = some (k, n, m) → 6 ≤ k) :
    Calls Tryd.prog 32 #[.pointer (some ⟨br, 0, none⟩)] w fun e w' => ∃ k n : Int, e = .returned (.tuple #[.int .i64 k, .int .i64 n, .bool false]) ∧ Keeps br w w' :=
  (fhead_any br s a w hR hs ha).mono fun e w' h => by
    rcases h with ⟨k', n', m', h1, h2, _⟩ | ⟨_, k, n, _, he, _, _, h3⟩
    · have := hh _ _ _ h1; omega
    · exact ⟨k, n, he, h3⟩
/-- an item of the document's reader, read up to a', or the error -/
def RfR (d br : Nat) (s : List UInt8) (lo : Nat) (w w' : World) (r : Res It) (e : Ending) : Prop :=
  match r with
  | .error deep => e = .returned (.tuple #[.agg #[.int .i64 0, .int .i64 0, .string ⟨#[]⟩, .slice none 0 0], .int .i64 (errN deep)]) ∧ Keeps br w w'
  | .ok (t, rest) => ∃ A c a', c ≤ 9223372036854775807 ∧ lo ≤ a' ∧ a' ≤ s.length ∧ rest = s.drop a' ∧ e = .returned (.tuple #[itV t A c, .int .i64 0]) ∧ Sz t ∧ RdL d (fun b => w.heap.size ≤ b) w' A t.list ∧ Top w.heap.size w' A t.list.length ∧ Rf br s a' w' ∧ Keeps br w w'
theorem RfR.err {d br : Nat} {s : List UInt8} {lo : Nat} {w w' : World} {r : Res It} (deep : Bool) (h : r = .error deep) (k : Keeps br w w') : RfR d br s lo w w' r (.returned (.tuple #[.agg #[.int .i64 0, .int .i64 0, .string ⟨#[]⟩, .slice none 0 0], .int .i64 (errN deep)])) := by
  subst h; exact ⟨rfl, k⟩
theorem RfR.ok {d br : Nat} {s : List UInt8} {lo : Nat} {w w' : World} {r : Res It} (t : It) (A : Option Addr) (c a' : Nat) (h : r = .ok (t, s.drop a')) (hc : c ≤ 9223372036854775807) (hlo : lo ≤ a') (ha : a' ≤ s.length)
    (hz : Sz t) (hr : RdL d (fun b => w.heap.size ≤ b) w' A t.list) (ht : Top w.heap.size w' A t.list.length) (hR : Rf br s a' w') (k : Keeps br w w') : RfR d br s lo w w' r (.returned (.tuple #[itV t A c, .int .i64 0])) := by
  subst h; exact ⟨A, c, a', hc, hlo, ha, rfl, rfl, hz, hr, ht, hR, k⟩
theorem Rf.set4 {br : Nat} {s : List UInt8} {n k : Nat} {w : World} {v0 v1 v2 v3 : Value} (h : Rf br s n w) (hk : br ≠ k) : Rf br s n (S4 w k v0 v1 v2 v3) := (S4.block hk).trans h
theorem Rf.putn {br : Nat} {s : List UInt8} {a : Nat} {w : World} (h : Rf br s a w) (n : Nat) : Rf br s (a + n) (w.setCell ⟨br, 1, none⟩ (.int .i64 ((a : Int) + (n : Int)))) := by
  have := h.put (a + n)
  rw [show ((a + n : Nat) : Int) = (a : Int) + (n : Int) from by omega] at this
  exact this
set_option maxHeartbeats 4000000 in
theorem fitem_no (V : List UInt8 → Bool) (sub : Option (List UInt8 → Res It)) (d br : Nat) (s : List UInt8) (a o : Nat) (w : World) (hR : Rf br s a w) (hs : s.length ≤ 4096) (ha : a ≤ s.length) (ho : o ≤ 16) (hh : ∀ k n m, hd (s.drop a) = some (k, n, m) → 6 ≤ k) :
    Calls Tryd.prog 19 #[.pointer (some ⟨br, 0, none⟩), .int .i64 (o : Int)] w fun e w' => RfR d br s (a + 1) w w' (item V sub (s.drop a)) e := by
  have hal : Below w.heap.size w (w.alloc (.cells #[.int .i64 0, .int .i64 0, .string ⟨#[]⟩, .slice none 0 0] 24)) := (Below.refl _ _).alloc (Nat.le_refl _) _
  have HR := Lib.hid (hR.below hal)
  have HA := Lib.hid hal
  have hlt := hR.lt
  have HQ := Lib.hid (Go.heap_alloc_new w (.cells #[.int .i64 0, .int .i64 0, .string ⟨#[]⟩, .slice none 0 0] 24))
  have HE : Hid (item V sub (s.drop a) = .error false) := Lib.hid (by
    rcases h : hd (s.drop a) with _ | ⟨k, n, m⟩
    · exact item_no h
    · rw [item_some h]; exact body_6 _ _ _ _ _ (hh k n m h))
  clear hR hal
  go_enter Tryd.func19, Tryd.ntmps19
  go_wp2_with fail
  refine (fhead_no br s a _ HR.out hs ha hh).mono ?_
  rintro e w1 ⟨k, n, rfl, k1⟩
  have Q1 := Lib.hid (k1.heap HQ.out (by omega))
  have K1 := Lib.hid ((Keeps.of HA.out).trans k1)
  clear k1
  have c0 := cellOf Q1.out 0
  have c1 := cellOf Q1.out 1
  have c2 := cellOf Q1.out 2
  have c3 := cellOf Q1.out 3
  simp at c0 c1 c2 c3
  have f0 := Lib.frozen_of_heap Q1.out 0
  have f1 := Lib.frozen_of_heap Q1.out 1
  have f2 := Lib.frozen_of_heap Q1.out 2
  have f3 := Lib.frozen_of_heap Q1.out 3
  go_wp2_with fail
  refine bodyPost_ret (v := .tuple #[.agg #[.int .i64 0, .int .i64 0, .string ⟨#[]⟩, .slice none 0 0], .int .i64 30]) (by simp [results, Tryd.results19, go_sem, c0, c1, c2, c3]) rfl ?_
  exact RfR.err false HE.out (K1.out.set4 (Nat.le_refl _))
set_option maxHeartbeats 4000000 in
theorem fitem_0 (V : List UInt8 → Bool) (sub : Option (List UInt8 → Res It)) (d br : Nat) (s : List UInt8) (a o : Nat) (n m : Nat) (w : World) (hR : Rf br s a w) (hs : s.length ≤ 4096) (ha : a ≤ s.length) (ho : o ≤ 16) (hh : hd (s.drop a) = some (0, n, m)) :
    Calls Tryd.prog 19 #[.pointer (some ⟨br, 0, none⟩), .int .i64 (o : Int)] w fun e w' => RfR d br s (a + 1) w w' (item V sub (s.drop a)) e := by
  have hal : Below w.heap.size w (w.alloc (.cells #[.int .i64 0, .int .i64 0, .string ⟨#[]⟩, .slice none 0 0] 24)) := (Below.refl _ _).alloc (Nat.le_refl _) _
  have HR := Lib.hid (hR.below hal)
  have HA := Lib.hid hal
  have hlt := hR.lt
  have HQ := Lib.hid (Go.heap_alloc_new w (.cells #[.int .i64 0, .int .i64 0, .string ⟨#[]⟩, .slice none 0 0] 24))
  clear hR hal
  go_enter Tryd.func19, Tryd.ntmps19
  go_wp2_with fail
  refine (fhead_yes br s a 0 n m _ HR.out hs ha hh (by omega)).mono ?_
  rintro e w1 ⟨rfl, r1, k1⟩
  have hbd := hd_bound hh
  have hn : n ≤ 9223372036854775807 := hbd.2.1
  have hm1 : 1 ≤ m := hbd.2.2.1
  have hml : a + m ≤ s.length := by have := hbd.2.2.2; simp at this; omega
  obtain ⟨p, hp⟩ : ∃ p, p = a + m := ⟨_, rfl⟩
  rw [← hp] at r1 hml
  have hlo : a + 1 ≤ p := by omega
  have HE : Hid (item V sub (s.drop a) = body V sub 0 n (s.drop p)) := Lib.hid ((item_some hh).trans (by rw [List.drop_drop, ← hp]))
  have hs1 : w.heap.size + 1 ≤ w1.heap.size := by have := k1.size; simpa using this
  have Q1 := Lib.hid (k1.heap HQ.out (by omega))
  have K1 := Lib.hid ((Keeps.of HA.out).trans k1)
  have R1 := Lib.hid r1
  clear k1 r1 hh hbd hp hm1 HQ HA HR
  have c0 := cellOf Q1.out 0
  have c1 := cellOf Q1.out 1
  have c2 := cellOf Q1.out 2
  have c3 := cellOf Q1.out 3
  simp at c0 c1 c2 c3
  have f0 := Lib.frozen_of_heap Q1.out 0
  have f1 := Lib.frozen_of_heap Q1.out 1
  have f2 := Lib.frozen_of_heap Q1.out 2
  have f3 := Lib.frozen_of_heap Q1.out 3
  go_wp2_with fail
  refine bodyPost_ret (v := .tuple #[itV (It.mk 0 (n) [] []) none 0, .int .i64 0]) (by simp [itV, It.kind, It.num, It.text, It.list, results, Tryd.results19, go_sem, c0, c1, c2, c3]) rfl ?_
  exact RfR.ok (It.mk 0 (n) [] []) none 0 p (HE.out.trans (body_0 _ _ _ _)) (by omega) hlo hml ⟨by show (_ : Int) ≤ (n : Int); omega, by show (n : Int) ≤ _; omega, by simp [It.text]⟩ (RdL.nil _ _ _ _) (.inl rfl) (R1.out.set4 (by omega)) (K1.out.set4 (Nat.le_refl _))
set_option maxHeartbeats 4000000 in
theorem fitem_1 (V : List UInt8 → Bool) (sub : Option (List UInt8 → Res It)) (d br : Nat) (s : List UInt8) (a o : Nat) (n m : Nat) (w : World) (hR : Rf br s a w) (hs : s.length ≤ 4096) (ha : a ≤ s.length) (ho : o ≤ 16) (hh : hd (s.drop a) = some (1, n, m)) :
    Calls Tryd.prog 19 #[.pointer (some ⟨br, 0, none⟩), .int .i64 (o : Int)] w fun e w' => RfR d br s (a + 1) w w' (item V sub (s.drop a)) e := by
  have hal : Below w.heap.size w (w.alloc (.cells #[.int .i64 0, .int .i64 0, .string ⟨#[]⟩, .slice none 0 0] 24)) := (Below.refl _ _).alloc (Nat.le_refl _) _
  have HR := Lib.hid (hR.below hal)
  have HA := Lib.hid hal
  have hlt := hR.lt
  have HQ := Lib.hid (Go.heap_alloc_new w (.cells #[.int .i64 0, .int .i64 0, .string ⟨#[]⟩, .slice none 0 0] 24))
  clear hR hal
  go_enter Tryd.func19, Tryd.ntmps19
  go_wp2_with fail
  refine (fhead_yes br s a 1 n m _ HR.out hs ha hh (by omega)).mono ?_
  rintro e w1 ⟨rfl, r1, k1⟩
  have hbd := hd_bound hh
  have hn : n ≤ 9223372036854775807 := hbd.2.1
  have hm1 : 1 ≤ m := hbd.2.2.1
  have hml : a + m ≤ s.length := by have := hbd.2.2.2; simp at this; omega
  obtain ⟨p, hp⟩ : ∃ p, p = a + m := ⟨_, rfl⟩
  rw [← hp] at r1 hml
  have hlo : a + 1 ≤ p := by omega
  have HE : Hid (item V sub (s.drop a) = body V sub 1 n (s.drop p)) := Lib.hid ((item_some hh).trans (by rw [List.drop_drop, ← hp]))
  have hs1 : w.heap.size + 1 ≤ w1.heap.size := by have := k1.size; simpa using this
  have Q1 := Lib.hid (k1.heap HQ.out (by omega))
  have K1 := Lib.hid ((Keeps.of HA.out).trans k1)
  have R1 := Lib.hid r1
  clear k1 r1 hh hbd hp hm1 HQ HA HR
  have c0 := cellOf Q1.out 0
  have c1 := cellOf Q1.out 1
  have c2 := cellOf Q1.out 2
  have c3 := cellOf Q1.out 3
  simp at c0 c1 c2 c3
  have f0 := Lib.frozen_of_heap Q1.out 0
  have f1 := Lib.frozen_of_heap Q1.out 1
  have f2 := Lib.frozen_of_heap Q1.out 2
  have f3 := Lib.frozen_of_heap Q1.out 3
  go_wp2_with fail
  refine bodyPost_ret (v := .tuple #[itV (It.mk 0 (-1 - n) [] []) none 0, .int .i64 0]) (by simp [itV, It.kind, It.num, It.text, It.list, results, Tryd.results19, go_sem, c0, c1, c2, c3]) rfl ?_
  exact RfR.ok (It.mk 0 (-1 - n) [] []) none 0 p (HE.out.trans (body_1 _ _ _ _)) (by omega) hlo hml ⟨by show (_ : Int) ≤ (-1 - n : Int); omega, by show (-1 - n : Int) ≤ _; omega, by simp [It.text]⟩ (RdL.nil _ _ _ _) (.inl rfl) (R1.out.set4 (by omega)) (K1.out.set4 (Nat.le_refl _))
set_option maxHeartbeats 4000000 in
theorem fitem_short2 (V : List UInt8 → Bool) (sub : Option (List UInt8 → Res It)) (d br : Nat) (s : List UInt8) (a o : Nat) (n m : Nat) (w : World) (hR : Rf br s a w) (hs : s.length ≤ 4096) (ha : a ≤ s.length) (ho : o ≤ 16) (hh : hd (s.drop a) = some (2, n, m)) (hsh : s.length < a + m + n) :
    Calls Tryd.prog 19 #[.pointer (some ⟨br, 0, none⟩), .int .i64 (o : Int)] w fun e w' => RfR d br s (a + 1) w w' (item V sub (s.drop a)) e := by
  have hal : Below w.heap.size w (w.alloc (.cells #[.int .i64 0, .int .i64 0, .string ⟨#[]⟩, .slice none 0 0] 24)) := (Below.refl _ _).alloc (Nat.le_refl _) _
  have HR := Lib.hid (hR.below hal)
  have HA := Lib.hid hal
  have hlt := hR.lt
  have HQ := Lib.hid (Go.heap_alloc_new w (.cells #[.int .i64 0, .int .i64 0, .string ⟨#[]⟩, .slice none 0 0] 24))
  clear hR hal
  go_enter Tryd.func19, Tryd.ntmps19
  go_wp2_with fail
  refine (fhead_yes br s a 2 n m _ HR.out hs ha hh (by omega)).mono ?_
  rintro e w1 ⟨rfl, r1, k1⟩
  have hbd := hd_bound hh
  have hn : n ≤ 9223372036854775807 := hbd.2.1
  have hm1 : 1 ≤ m := hbd.2.2.1
  have hml : a + m ≤ s.length := by have := hbd.2.2.2; simp at this; omega
  obtain ⟨p, hp⟩ : ∃ p, p = a + m := ⟨_, rfl⟩
  rw [← hp] at r1 hml hsh
  have hlo : a + 1 ≤ p := by omega
  have HE : Hid (item V sub (s.drop a) = body V sub 2 n (s.drop p)) := Lib.hid ((item_some hh).trans (by rw [List.drop_drop, ← hp]))
  have hs1 : w.heap.size + 1 ≤ w1.heap.size := by have := k1.size; simpa using this
  have Q1 := Lib.hid (k1.heap HQ.out (by omega))
  have K1 := Lib.hid ((Keeps.of HA.out).trans k1)
  have R1 := Lib.hid r1
  clear k1 r1 hh hbd hp hm1 HQ HA HR
  have c0 := cellOf Q1.out 0
  have c1 := cellOf Q1.out 1
  have c2 := cellOf Q1.out 2
  have c3 := cellOf Q1.out 3
  simp at c0 c1 c2 c3
  have f0 := Lib.frozen_of_heap Q1.out 0
  have f1 := Lib.frozen_of_heap Q1.out 1
  have f2 := Lib.frozen_of_heap Q1.out 2
  have f3 := Lib.frozen_of_heap Q1.out 3
  obtain ⟨g0, g1, g2⟩ := R1.out.facts
  have hsz : (⟨s.toArray⟩ : ByteArray).size = s.length := by simp [ByteArray.size]
  have hd2 : decide ((s.length : Int) - (p : Int) < (n : Int)) = true := by simp; omega
  have HE2 : Hid (item V sub (s.drop a) = .error false) := Lib.hid (by rw [HE.out, body_2, if_neg (by simp; omega)])
  go_wp2_with fail
  go_quiet (fail)
  go_wp2_with fail
  refine bodyPost_ret (v := .tuple #[.agg #[.int .i64 0, .int .i64 0, .string ⟨#[]⟩, .slice none 0 0], .int .i64 30]) (by simp [results, Tryd.results19, go_sem, c0, c1, c2, c3]) rfl ?_
  exact RfR.err false HE2.out ((K1.out.drewN _).set4 (Nat.le_refl _))
set_option maxHeartbeats 4000000 in
theorem fitem_short3 (V : List UInt8 → Bool) (sub : Option (List UInt8 → Res It)) (d br : Nat) (s : List UInt8) (a o : Nat) (n m : Nat) (w : World) (hR : Rf br s a w) (hs : s.length ≤ 4096) (ha : a ≤ s.length) (ho : o ≤ 16) (hh : hd (s.drop a) = some (3, n, m)) (hsh : s.length < a + m + n) :
    Calls Tryd.prog 19 #[.pointer (some ⟨br, 0, none⟩), .int .i64 (o : Int)] w fun e w' => RfR d br s (a + 1) w w' (item V sub (s.drop a)) e := by
  have hal : Below w.heap.size w (w.alloc (.cells #[.int .i64 0, .int .i64 0, .string ⟨#[]⟩, .slice none 0 0] 24)) := (Below.refl _ _).alloc (Nat.le_refl _) _
  have HR := Lib.hid (hR.below hal)
  have HA := Lib.hid hal
  have hlt := hR.lt
  have HQ := Lib.hid (Go.heap_alloc_new w (.cells #[.int .i64 0, .int .i64 0, .string ⟨#[]⟩, .slice none 0 0] 24))
  clear hR hal
  go_enter Tryd.func19, Tryd.ntmps19
  go_wp2_with fail
  refine (fhead_yes br s a 3 n m _ HR.out hs ha hh (by omega)).mono ?_
  rintro e w1 ⟨rfl, r1, k1⟩
  have hbd := hd_bound hh
  have hn : n ≤ 9223372036854775807 := hbd.2.1
  have hm1 : 1 ≤ m := hbd.2.2.1
  have hml : a + m ≤ s.length := by have := hbd.2.2.2; simp at this; omega
  obtain ⟨p, hp⟩ : ∃ p, p = a + m := ⟨_, rfl⟩
  rw [← hp] at r1 hml hsh
  have hlo : a + 1 ≤ p := by omega
  have HE : Hid (item V sub (s.drop a) = body V sub 3 n (s.drop p)) := Lib.hid ((item_some hh).trans (by rw [List.drop_drop, ← hp]))
  have hs1 : w.heap.size + 1 ≤ w1.heap.size := by have := k1.size; simpa using this
  have Q1 := Lib.hid (k1.heap HQ.out (by omega))
  have K1 := Lib.hid ((Keeps.of HA.out).trans k1)
  have R1 := Lib.hid r1
  clear k1 r1 hh hbd hp hm1 HQ HA HR
  have c0 := cellOf Q1.out 0
  have c1 := cellOf Q1.out 1
  have c2 := cellOf Q1.out 2
  have c3 := cellOf Q1.out 3
  simp at c0 c1 c2 c3
  have f0 := Lib.frozen_of_heap Q1.out 0
  have f1 := Lib.frozen_of_heap Q1.out 1
  have f2 := Lib.frozen_of_heap Q1.out 2
  have f3 := Lib.frozen_of_heap Q1.out 3
  obtain ⟨g0, g1, g2⟩ := R1.out.facts
  have hsz : (⟨s.toArray⟩ : ByteArray).size = s.length := by simp [ByteArray.size]
  have hd2 : decide ((s.length : Int) - (p : Int) < (n : Int)) = true := by simp; omega
  have HE2 : Hid (item V sub (s.drop a) = .error false) := Lib.hid (by rw [HE.out, body_3, if_neg (by simp; omega)])
  go_wp2_with fail
  go_quiet (fail)
  go_wp2_with fail
  refine bodyPost_ret (v := .tuple #[.agg #[.int .i64 0, .int .i64 0, .string ⟨#[]⟩, .slice none 0 0], .int .i64 30]) (by simp [results, Tryd.results19, go_sem, c0, c1, c2, c3]) rfl ?_
  exact RfR.err false HE2.out ((K1.out.drewN _).set4 (Nat.le_refl _))
set_option maxHeartbeats 4000000 in
theorem fitem_2 (V : List UInt8 → Bool) (sub : Option (List UInt8 → Res It)) (d br : Nat) (s : List UInt8) (a o : Nat) (n m : Nat) (w : World) (hR : Rf br s a w) (hs : s.length ≤ 4096) (ha : a ≤ s.length) (ho : o ≤ 16) (hh : hd (s.drop a) = some (2, n, m)) (hsh : a + m + n ≤ s.length) :
    Calls Tryd.prog 19 #[.pointer (some ⟨br, 0, none⟩), .int .i64 (o : Int)] w fun e w' => RfR d br s (a + 1) w w' (item V sub (s.drop a)) e := by
  have hal : Below w.heap.size w (w.alloc (.cells #[.int .i64 0, .int .i64 0, .string ⟨#[]⟩, .slice none 0 0] 24)) := (Below.refl _ _).alloc (Nat.le_refl _) _
  have HR := Lib.hid (hR.below hal)
  have HA := Lib.hid hal
  have hlt := hR.lt
  have HQ := Lib.hid (Go.heap_alloc_new w (.cells #[.int .i64 0, .int .i64 0, .string ⟨#[]⟩, .slice none 0 0] 24))
  clear hR hal
  go_enter Tryd.func19, Tryd.ntmps19
  go_wp2_with fail
  refine (fhead_yes br s a 2 n m _ HR.out hs ha hh (by omega)).mono ?_
  rintro e w1 ⟨rfl, r1, k1⟩
  have hbd := hd_bound hh
  have hn : n ≤ 9223372036854775807 := hbd.2.1
  have hm1 : 1 ≤ m := hbd.2.2.1
  have hml : a + m ≤ s.length := by have := hbd.2.2.2; simp at this; omega
  obtain ⟨p, hp⟩ : ∃ p, p = a + m := ⟨_, rfl⟩
  rw [← hp] at r1 hml hsh
  have hlo : a + 1 ≤ p := by omega
  have HE : Hid (item V sub (s.drop a) = body V sub 2 n (s.drop p)) := Lib.hid ((item_some hh).trans (by rw [List.drop_drop, ← hp]))
  have hs1 : w.heap.size + 1 ≤ w1.heap.size := by have := k1.size; simpa using this
  have Q1 := Lib.hid (k1.heap HQ.out (by omega))
  have K1 := Lib.hid ((Keeps.of HA.out).trans k1)
  have R1 := Lib.hid r1
  clear k1 r1 hh hbd hp hm1 HQ HA HR
  have c0 := cellOf Q1.out 0
  have c1 := cellOf Q1.out 1
  have c2 := cellOf Q1.out 2
  have c3 := cellOf Q1.out 3
  simp at c0 c1 c2 c3
  have f0 := Lib.frozen_of_heap Q1.out 0
  have f1 := Lib.frozen_of_heap Q1.out 1
  have f2 := Lib.frozen_of_heap Q1.out 2
  have f3 := Lib.frozen_of_heap Q1.out 3
  obtain ⟨g0, g1, g2⟩ := R1.out.facts
  have hsz : (⟨s.toArray⟩ : ByteArray).size = s.length := by simp [ByteArray.size]
  have hd2 : decide ((s.length : Int) - (p : Int) < (n : Int)) = false := by simp; omega
  have hext : (⟨s.toArray⟩ : ByteArray).extract p (p + n) = ⟨((s.drop p).take n).toArray⟩ := ext_ba _ _ _
  have HE2 : Hid (item V sub (s.drop a) = .ok (It.mk 1 0 ((s.drop p).take n) [], s.drop (p + n))) := Lib.hid (by rw [HE.out, body_2, if_pos (by simp; omega), List.drop_drop])
  have HL : Hid (((s.drop p).take n).length ≤ 140737488355328) := Lib.hid (by simp; omega)
  go_wp2_with fail
  go_quiet (fail)
  go_wp2_with fail
  go_quiet (fail)
  go_wp2_with fail
  refine bodyPost_ret (v := .tuple #[itV (It.mk 1 0 ((s.drop p).take n) []) none 0, .int .i64 0]) (by simp [itV, It.kind, It.num, It.text, It.list, results, Tryd.results19, go_sem, c0, c1, c2, c3]) rfl ?_
  exact RfR.ok (It.mk 1 0 ((s.drop p).take n) []) none 0 (p + n) HE2.out (by omega) (by omega) hsh ⟨by show (_ : Int) ≤ 0; omega, by show (0 : Int) ≤ _; omega, HL.out⟩ (RdL.nil _ _ _ _) (.inl rfl) (((R1.out.drewN _).putn n).set4 (by omega)) (((K1.out.drewN _).setCell 1 _).set4 (Nat.le_refl _))
set_option maxHeartbeats 4000000 in
theorem fitem_3 (sub : Option (List UInt8 → Res It)) (d br : Nat) (s : List UInt8) (a o : Nat) (n m : Nat) (w : World) (hR : Rf br s a w) (hs : s.length ≤ 4096) (ha : a ≤ s.length) (ho : o ≤ 16) (hh : hd (s.drop a) = some (3, n, m)) (hsh : a + m + n ≤ s.length) (hT : Tb w) (hbr : 2 ≤ br) (hv : Lib.validD ((s.drop (a + m)).take n) = true) :
    Calls Tryd.prog 19 #[.pointer (some ⟨br, 0, none⟩), .int .i64 (o : Int)] w fun e w' => RfR d br s (a + 1) w w' (item Lib.validD sub (s.drop a)) e := by
  have hal : Below w.heap.size w (w.alloc (.cells #[.int .i64 0, .int .i64 0, .string ⟨#[]⟩, .slice none 0 0] 24)) := (Below.refl _ _).alloc (Nat.le_refl _) _
  have HR := Lib.hid (hR.below hal)
  have HA := Lib.hid hal
  have hlt := hR.lt
  have HQ := Lib.hid (Go.heap_alloc_new w (.cells #[.int .i64 0, .int .i64 0, .string ⟨#[]⟩, .slice none 0 0] 24))
  clear hR hal
  go_enter Tryd.func19, Tryd.ntmps19
  go_wp2_with fail
  refine (fhead_yes br s a 3 n m _ HR.out hs ha hh (by omega)).mono ?_
  rintro e w1 ⟨rfl, r1, k1⟩
  have hbd := hd_bound hh
  have hn : n ≤ 9223372036854775807 := hbd.2.1
  have hm1 : 1 ≤ m := hbd.2.2.1
  have hml : a + m ≤ s.length := by have := hbd.2.2.2; simp at this; omega
  obtain ⟨p, hp⟩ : ∃ p, p = a + m := ⟨_, rfl⟩
  rw [← hp] at r1 hml hsh hv
  have hlo : a + 1 ≤ p := by omega
  have HE : Hid (item Lib.validD sub (s.drop a) = body Lib.validD sub 3 n (s.drop p)) := Lib.hid ((item_some hh).trans (by rw [List.drop_drop, ← hp]))
  have hs1 : w.heap.size + 1 ≤ w1.heap.size := by have := k1.size; simpa using this
  have Q1 := Lib.hid (k1.heap HQ.out (by omega))
  have K1 := Lib.hid ((Keeps.of HA.out).trans k1)
  have R1 := Lib.hid r1
  clear k1 r1 hh hbd hp hm1 HQ HA HR
  have c0 := cellOf Q1.out 0
  have c1 := cellOf Q1.out 1
  have c2 := cellOf Q1.out 2
  have c3 := cellOf Q1.out 3
  simp at c0 c1 c2 c3
  have f0 := Lib.frozen_of_heap Q1.out 0
  have f1 := Lib.frozen_of_heap Q1.out 1
  have f2 := Lib.frozen_of_heap Q1.out 2
  have f3 := Lib.frozen_of_heap Q1.out 3
  obtain ⟨g0, g1, g2⟩ := R1.out.facts
  have hsz : (⟨s.toArray⟩ : ByteArray).size = s.length := by simp [ByteArray.size]
  have hd2 : decide ((s.length : Int) - (p : Int) < (n : Int)) = false := by simp; omega
  have hext : (⟨s.toArray⟩ : ByteArray).extract p (p + n) = ⟨((s.drop p).take n).toArray⟩ := ext_ba _ _ _
  have HE2 : Hid (item Lib.validD sub (s.drop a) = .ok (It.mk 2 0 ((s.drop p).take n) [], s.drop (p + n))) := Lib.hid (by rw [HE.out, body_3, if_pos (by simp; omega), if_pos hv, List.drop_drop])
  have HTb := Lib.hid (hT.keeps K1.out hbr)
  have HV : Hid (∀ w2, Tb w2 → Calls Tryd.prog 33 #[.string ⟨((s.drop p).take n).toArray⟩] w2 fun e w' => e = .returned (.bool true) ∧ Below w2.heap.size w2 w') := Lib.hid (fun w2 h2 => by
    rw [← hv]
    exact valid_any _ _ (by simp; omega) h2)
  have HL : Hid (((s.drop p).take n).length ≤ 140737488355328) := Lib.hid (by simp; omega)
  clear hv hT
  go_wp2_with fail
  go_quiet (fail)
  go_wp2_with fail
  go_quiet (fail)
  go_wp2_with fail
  refine (HV.out _ (HTb.out.keeps (((Keeps.refl br w1).drewN _).setCell 1 _) hbr)).mono ?_
  rintro e w2 ⟨rfl, hb⟩
  have RZ := Lib.hid (((R1.out.drewN _).putn n).below hb)
  have KZ := Lib.hid (((K1.out.drewN _).setCell 1 _).below hb)
  have QZ : Hid (w2.heap[w.heap.size]? = some (.cells #[.int .i64 0, .int .i64 0, .string ⟨#[]⟩, .slice none 0 0] 24 (0, 0))) := Lib.hid ((hb.block _ (by rw [World.size_setCell]; exact (Array.getElem?_eq_some_iff.1 Q1.out).1)).trans ((Below.heap_setCell _ _ _ _ (by simp; omega)).trans Q1.out))
  clear hb c0 c1 c2 c3 f0 f1 f2 f3
  have c0 := cellOf QZ.out 0
  have c1 := cellOf QZ.out 1
  have c2 := cellOf QZ.out 2
  have c3 := cellOf QZ.out 3
  simp at c0 c1 c2 c3
  have f0 := Lib.frozen_of_heap QZ.out 0
  have f1 := Lib.frozen_of_heap QZ.out 1
  have f2 := Lib.frozen_of_heap QZ.out 2
  have f3 := Lib.frozen_of_heap QZ.out 3
  go_wp2_with fail
  refine bodyPost_ret (v := .tuple #[itV (It.mk 2 0 ((s.drop p).take n) []) none 0, .int .i64 0]) (by simp [itV, It.kind, It.num, It.text, It.list, results, Tryd.results19, go_sem, c0, c1, c2, c3]) rfl ?_
  exact RfR.ok (It.mk 2 0 ((s.drop p).take n) []) none 0 (p + n) HE2.out (by omega) (by omega) hsh ⟨by show (_ : Int) ≤ 0; omega, by show (0 : Int) ≤ _; omega, HL.out⟩ (RdL.nil _ _ _ _) (.inl rfl) (RZ.out.set4 (by omega)) (KZ.out.set4 (Nat.le_refl _))
set_option maxHeartbeats 4000000 in
theorem fitem_3n (sub : Option (List UInt8 → Res It)) (d br : Nat) (s : List UInt8) (a o : Nat) (n m : Nat) (w : World) (hR : Rf br s a w) (hs : s.length ≤ 4096) (ha : a ≤ s.length) (ho : o ≤ 16) (hh : hd (s.drop a) = some (3, n, m)) (hsh : a + m + n ≤ s.length) (hT : Tb w) (hbr : 2 ≤ br) (hv : Lib.validD ((s.drop (a + m)).take n) = false) :
    Calls Tryd.prog 19 #[.pointer (some ⟨br, 0, none⟩), .int .i64 (o : Int)] w fun e w' => RfR d br s (a + 1) w w' (item Lib.validD sub (s.drop a)) e := by
  have hal : Below w.heap.size w (w.alloc (.cells #[.int .i64 0, .int .i64 0, .string ⟨#[]⟩, .slice none 0 0] 24)) := (Below.refl _ _).alloc (Nat.le_refl _) _
  have HR := Lib.hid (hR.below hal)
  have HA := Lib.hid hal
  have hlt := hR.lt
  have HQ := Lib.hid (Go.heap_alloc_new w (.cells #[.int .i64 0, .int .i64 0, .string ⟨#[]⟩, .slice none 0 0] 24))
  clear hR hal
  go_enter Tryd.func19, Tryd.ntmps19
  go_wp2_with fail
  refine (fhead_yes br s a 3 n m _ HR.out hs ha hh (by omega)).mono ?_
  rintro e w1 ⟨rfl, r1, k1⟩
  have hbd := hd_bound hh
  have hn : n ≤ 9223372036854775807 := hbd.2.1
  have hm1 : 1 ≤ m := hbd.2.2.1
  have hml : a + m ≤ s.length := by have := hbd.2.2.2; simp at this; omega
  obtain ⟨p, hp⟩ : ∃ p, p = a + m := ⟨_, rfl⟩
  rw [← hp] at r1 hml hsh hv
  have hlo : a + 1 ≤ p := by omega
  have HE : Hid (item Lib.validD sub (s.drop a) = body Lib.validD sub 3 n (s.drop p)) := Lib.hid ((item_some hh).trans (by rw [List.drop_drop, ← hp]))
  have hs1 : w.heap.size + 1 ≤ w1.heap.size := by have := k1.size; simpa using this
  have Q1 := Lib.hid (k1.heap HQ.out (by omega))
  have K1 := Lib.hid ((Keeps.of HA.out).trans k1)
  have R1 := Lib.hid r1
  clear k1 r1 hh hbd hp hm1 HQ HA HR
  have c0 := cellOf Q1.out 0
  have c1 := cellOf Q1.out 1
  have c2 := cellOf Q1.out 2
  have c3 := cellOf Q1.out 3
  simp at c0 c1 c2 c3
  have f0 := Lib.frozen_of_heap Q1.out 0
  have f1 := Lib.frozen_of_heap Q1.out 1
  have f2 := Lib.frozen_of_heap Q1.out 2
  have f3 := Lib.frozen_of_heap Q1.out 3
  obtain ⟨g0, g1, g2⟩ := R1.out.facts
  have hsz : (⟨s.toArray⟩ : ByteArray).size = s.length := by simp [ByteArray.size]
  have hd2 : decide ((s.length : Int) - (p : Int) < (n : Int)) = false := by simp; omega
  have hext : (⟨s.toArray⟩ : ByteArray).extract p (p + n) = ⟨((s.drop p).take n).toArray⟩ := ext_ba _ _ _
  have HE2 : Hid (item Lib.validD sub (s.drop a) = .error false) := Lib.hid (by rw [HE.out, body_3, if_pos (by simp; omega), if_neg (by rw [hv]; simp)])
  have HTb := Lib.hid (hT.keeps K1.out hbr)
  have HV : Hid (∀ w2, Tb w2 → Calls Tryd.prog 33 #[.string ⟨((s.drop p).take n).toArray⟩] w2 fun e w' => e = .returned (.bool false) ∧ Below w2.heap.size w2 w') := Lib.hid (fun w2 h2 => by
    rw [← hv]
    exact valid_any _ _ (by simp; omega) h2)
  have HL : Hid (((s.drop p).take n).length ≤ 140737488355328) := Lib.hid (by simp; omega)
  clear hv hT
  go_wp2_with fail
  go_quiet (fail)
  go_wp2_with fail
  go_quiet (fail)
  go_wp2_with fail
  refine (HV.out _ (HTb.out.keeps (((Keeps.refl br w1).drewN _).setCell 1 _) hbr)).mono ?_
  rintro e w2 ⟨rfl, hb⟩
  have RZ := Lib.hid (((R1.out.drewN _).putn n).below hb)
  have KZ := Lib.hid (((K1.out.drewN _).setCell 1 _).below hb)
  have QZ : Hid (w2.heap[w.heap.size]? = some (.cells #[.int .i64 0, .int .i64 0, .string ⟨#[]⟩, .slice none 0 0] 24 (0, 0))) := Lib.hid ((hb.block _ (by rw [World.size_setCell]; exact (Array.getElem?_eq_some_iff.1 Q1.out).1)).trans ((Below.heap_setCell _ _ _ _ (by simp; omega)).trans Q1.out))
  clear hb c0 c1 c2 c3 f0 f1 f2 f3
  have c0 := cellOf QZ.out 0
  have c1 := cellOf QZ.out 1
  have c2 := cellOf QZ.out 2
  have c3 := cellOf QZ.out 3
  simp at c0 c1 c2 c3
  have f0 := Lib.frozen_of_heap QZ.out 0
  have f1 := Lib.frozen_of_heap QZ.out 1
  have f2 := Lib.frozen_of_heap QZ.out 2
  have f3 := Lib.frozen_of_heap QZ.out 3
  go_wp2_with fail
  refine bodyPost_ret (v := .tuple #[.agg #[.int .i64 0, .int .i64 0, .string ⟨#[]⟩, .slice none 0 0], .int .i64 30]) (by simp [results, Tryd.results19, go_sem, c0, c1, c2, c3]) rfl ?_
  exact RfR.err false HE2.out (KZ.out.set4 (Nat.le_refl _))
end Go.Proofs.YtghdcgokndmkjaaDoor
