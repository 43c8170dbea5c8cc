/- What the reader's above, below, bytes and text answer, and which of them reads on: part. Conditions: at most 4096 bytes; the library's tables. -/
import Derived.Test.YtghdcgokndmkjaaDoorQ
import Derived.Test.YtghdcgokndmkjaaDoorL
set_option linter.unusedVariables false
set_option linter.unusedSimpArgs false
namespace Go.Proofs.YtghdcgokndmkjaaDoor
open Go.RowKit Go.Sort

/-- the n elements at A may be written, and are new -/
def Top (B : Nat) (w : World) (A : Option Addr) (n : Nat) : Prop := n = 0 ∨ ∃ g cur, A = some ⟨g, 0, none⟩ ∧ B ≤ g ∧ w.heap[g]? = some (.cells cur 24 (0, 0)) ∧ n * 4 ≤ cur.size
def errN (deep : Bool) : Int := if deep then 31 else 30
/-- an item, read up to a', or the reader gives up -/
def RdR (d br : Nat) (s : List UInt8) (lo outer : Nat) (w w' : World) (r : Res It) (e : Ending) : Prop :=
  match r with
  | .error deep => e = .panicked [{ v := .iface 25 (.int .i64 (errN deep)), recovered := false }] ∧ Keeps br w w'
  | .ok (t, rest) => ∃ A c a', c ≤ 9223372036854775807 ∧ lo ≤ a' ∧ a' ≤ s.length ∧ rest = s.drop a' ∧ e = .returned (itV t A c) ∧ Sz t ∧ RdL d (fun b => w.heap.size ≤ b) w' A t.list ∧ Top w.heap.size w' A t.list.length ∧ Rdr br s a' outer w' ∧ Keeps br w w'
theorem RdR.err {d br : Nat} {s : List UInt8} {lo outer : Nat} {w w' : World} {r : Res It} (deep : Bool) (h : r = .error deep) (k : Keeps br w w') : RdR d br s lo outer w w' r (.panicked [{ v := .iface 25 (.int .i64 (errN deep)), recovered := false }]) := by
  subst h; exact ⟨rfl, k⟩
theorem RdR.ok {d br : Nat} {s : List UInt8} {lo outer : Nat} {w w' : World} {r : Res It} (t : It) (A : Option Addr) (c a' : Nat) (h : r = .ok (t, s.drop a')) (hc : c ≤ 9223372036854775807) (hlo : lo ≤ a') (ha : a' ≤ s.length)
    (hz : Sz t) (hr : RdL d (fun b => w.heap.size ≤ b) w' A t.list) (ht : Top w.heap.size w' A t.list.length) (hR : Rdr br s a' outer w') (k : Keeps br w w') : RdR d br s lo outer w w' r (.returned (itV t A c)) := by
  subst h; exact ⟨A, c, a', hc, hlo, ha, rfl, rfl, hz, hr, ht, hR, k⟩
theorem RdR.cases {d br : Nat} {s : List UInt8} {lo outer : Nat} {w w' : World} {r : Res It} {e : Ending} (h : RdR d br s lo outer w w' r e) :
    (∃ deep, r = .error deep ∧ e = .panicked [{ v := .iface 25 (.int .i64 (errN deep)), recovered := false }] ∧ Keeps br w w') ∨
    (∃ t A c a', r = .ok (t, s.drop a') ∧ c ≤ 9223372036854775807 ∧ lo ≤ a' ∧ a' ≤ s.length ∧ e = .returned (itV t A c) ∧ Sz t ∧ RdL d (fun b => w.heap.size ≤ b) w' A t.list ∧ Top w.heap.size w' A t.list.length ∧ Rdr br s a' outer w' ∧ Keeps br w w') := by
  match r, h with
  | .error deep, ⟨h1, h2⟩ => exact .inl ⟨deep, rfl, h1, h2⟩
  | .ok (t, rest), ⟨A, c, a', h1, h2, h3, h4, h5⟩ => subst h4; exact .inr ⟨t, A, c, a', rfl, h1, h2, h3, h5⟩

theorem hd_bound {s : List UInt8} {k n m : Nat} (h : hd s = some (k, n, m)) : k ≤ 7 ∧ n ≤ 9223372036854775807 ∧ 1 ≤ m ∧ m ≤ s.length := by
  cases s with
  | nil => exact absurd h (by rw [hd]; simp)
  | cons c r =>
    have hc := c.toNat_lt
    by_cases h1 : c.toNat % 32 < 24
    · rw [hd_low c r h1] at h
      simp only [Option.some.injEq, Prod.mk.injEq] at h
      obtain ⟨rfl, rfl, rfl⟩ := h
      simp only [List.length_cons]; omega
    by_cases h2 : c.toNat % 32 ≤ 27
    · rw [hd, if_neg h1, if_pos h2] at h
      by_cases h3 : 2 ^ (c.toNat % 32 - 24) ≤ r.length ∧ beVal (r.take (2 ^ (c.toNat % 32 - 24))) < 9223372036854775808 ∧ headL (c.toNat / 32) (beVal (r.take (2 ^ (c.toNat % 32 - 24)))) = c :: r.take (2 ^ (c.toNat % 32 - 24))
      · rw [if_pos h3] at h
        simp only [Option.some.injEq, Prod.mk.injEq] at h
        obtain ⟨rfl, rfl, rfl⟩ := h
        simp only [List.length_cons]
        have := Nat.one_le_two_pow (n := c.toNat % 32 - 24)
        omega
      · rw [if_neg h3] at h; cases h
    · rw [hd_bad c r h1 h2] at h; cases h

/-- four stores into one block -/
def S4 (w : World) (k : Nat) (v0 v1 v2 v3 : Value) : World := (((w.setCell ⟨k, 0, none⟩ v0).setCell ⟨k, 1, none⟩ v1).setCell ⟨k, 2, none⟩ v2).setCell ⟨k, 3, none⟩ v3
section
variable {w : World} {k : Nat} {v0 v1 v2 v3 : Value}
theorem S4.block {j : Nat} (h : j ≠ k) : (S4 w k v0 v1 v2 v3).heap[j]? = w.heap[j]? := by
  unfold S4
  rw [Below.heap_setCell _ _ _ _ h, Below.heap_setCell _ _ _ _ h, Below.heap_setCell _ _ _ _ h, Below.heap_setCell _ _ _ _ h]
theorem S4.size : (S4 w k v0 v1 v2 v3).heap.size = w.heap.size := by simp [S4, World.setCell]
theorem Keeps.set4 {br : Nat} {a : World} (h : Keeps br a w) (hk : a.heap.size ≤ k) : Keeps br a (S4 w k v0 v1 v2 v3) :=
  ⟨h.os, h.tape, h.output, by rw [S4.size]; exact h.size, fun j hj hn => by rw [S4.block (by omega)]; exact h.block j hj hn⟩
theorem Rdr.set4 {br : Nat} {s : List UInt8} {n outer : Nat} (h : Rdr br s n outer w) (hk : br ≠ k) : Rdr br s n outer (S4 w k v0 v1 v2 v3) := (S4.block hk).trans h
theorem RdL.set4 {d : Nat} {B : Nat → Prop} {A : Option Addr} {l : List It} (h : RdL d B w A l) (hk : ¬ B k) : RdL d B (S4 w k v0 v1 v2 v3) A l :=
  h.keep (by rw [S4.size]; omega) (fun b hb _ => S4.block (fun e => hk (e ▸ hb)))
theorem Top.set4 {B : Nat} {A : Option Addr} {n : Nat} (h : Top B w A n) (hk : k < B) : Top B (S4 w k v0 v1 v2 v3) A n := by
  rcases h with h | ⟨g, cur, h1, h2, h3, h4⟩
  · exact .inl h
  · exact .inr ⟨g, cur, h1, h2, (S4.block (by omega)).trans h3, h4⟩
theorem Top.mono {B B' : Nat} {A : Option Addr} {n : Nat} (h : Top B w A n) (hB : B' ≤ B) : Top B' w A n := by
  rcases h with h | ⟨g, cur, h1, h2, h3⟩
  · exact .inl h
  · exact .inr ⟨g, cur, h1, Nat.le_trans hB h2, h3⟩
end

set_option maxRecDepth 100000 in
theorem clone_any (l : List UInt8) (w : World) (h : l.length ≤ 4096) :
    Calls Tryd.prog 51 #[.string ⟨l.toArray⟩] w fun e w' => e = .returned (.string ⟨l.toArray⟩) ∧ Below w.heap.size w w' := by
  go_enter Tryd.func51, Tryd.ntmps51
  go_wp2_with fail
  refine (Tryd.stringslite_Clone ⟨l.toArray⟩ w (by show l.toArray.size ≤ _; simp; omega)).mono ?_
  rintro e w1 ⟨rfl, b1⟩
  go_wp2_with fail
  go_ret
  exact ⟨rfl, b1⟩

/-- the library's tables lie ahead of any reader -/
theorem Tb.keeps {br : Nat} {w w' : World} (h : Tb w) (k : Keeps br w w') (hb : 2 ≤ br) : Tb w' := by
  have e : ∀ {g o : Nat} {v : Value}, g < 2 → w.cell? ⟨g, o, none⟩ = some v → w'.cell? ⟨g, o, none⟩ = some v := fun {g o v} hg h => by
    have hlt := World.block_lt_of_cell? w _ h
    rw [World.cell?_of_block (w := w) (k.block g hlt (by simp; omega))]; exact h
  exact ⟨fun c hc => e (by decide) (h.1 c hc), fun i hi => ⟨e (by decide) (h.2 i hi).1, e (by decide) (h.2 i hi).2⟩⟩
theorem part_no (p : Value) (k : Nat) (w : World) (h : 6 ≤ k) (h7 : k ≤ 7) : Calls Tryd.prog 31 #[p, .int .i64 k] w fun e w' => e = .panicked [{ v := .iface 25 (.int .i64 30), recovered := false }] ∧ w = w' := by
  obtain rfl | rfl : k = 6 ∨ k = 7 := by omega
  all_goals
    go_enter Tryd.func31, Tryd.ntmps31
    go_wp2_with fail
    exact ⟨rfl, rfl, rfl⟩
theorem part_yes (a : Addr) (k : Nat) (w : World) (h : k ≤ 5) : Calls Tryd.prog 31 #[.pointer (some a), .int .i64 k] w fun e w' => e = .returned (.func (Fn.func (40 + k)) #[.pointer (some a)] #[]) ∧ w = w' := by
  have hmf : ∀ (fn : Fn) (first cap : Array Value) (w : World), (Instr.makeFunc fn first cap).run Tryd.prog w = .ok (.func fn first cap) w := fun _ _ _ _ => rfl
  obtain rfl | rfl | rfl | rfl | rfl | rfl : k = 0 ∨ k = 1 ∨ k = 2 ∨ k = 3 ∨ k = 4 ∨ k = 5 := by omega
  all_goals
    go_enter Tryd.func31, Tryd.ntmps31
    go_wp2_with fail
    go_ret
    exact ⟨rfl, rfl⟩

theorem body_0 (V : List UInt8 → Bool) (sub : Option (List UInt8 → Res It)) (n : Nat) (r : List UInt8) : body V sub 0 n r = .ok (.mk 0 n [] [], r) := rfl
theorem body_1 (V : List UInt8 → Bool) (sub : Option (List UInt8 → Res It)) (n : Nat) (r : List UInt8) : body V sub 1 n r = .ok (.mk 0 (-1 - n) [] [], r) := rfl
theorem body_2 (V : List UInt8 → Bool) (sub : Option (List UInt8 → Res It)) (n : Nat) (r : List UInt8) : body V sub 2 n r = if n ≤ r.length then .ok (.mk 1 0 (r.take n) [], r.drop n) else .error false := rfl
theorem body_3 (V : List UInt8 → Bool) (sub : Option (List UInt8 → Res It)) (n : Nat) (r : List UInt8) : body V sub 3 n r = if n ≤ r.length then if V (r.take n) then .ok (.mk 2 0 (r.take n) [], r.drop n) else .error false else .error false := rfl
theorem body_6 (V : List UInt8 → Bool) (sub : Option (List UInt8 → Res It)) (k n : Nat) (r : List UInt8) (h : 6 ≤ k) : body V sub k n r = .error false := by
  unfold body
  rw [if_neg (by omega), if_neg (by omega), if_neg (by omega), if_neg (by omega), if_neg (by omega), if_neg (by omega)]

theorem above_rd (V : List UInt8 → Bool) (sub : Option (List UInt8 → Res It)) (d br : Nat) (s : List UInt8) (a outer n : Nat) (w : World) (hR : Rdr br s a outer w) (ha : a ≤ s.length) (hn : n ≤ 9223372036854775807) :
    Calls Tryd.prog 40 #[.pointer (some ⟨br, 0, none⟩), .int .i64 n] w fun e w' => RdR d br s a outer w w' (body V sub 0 n (s.drop a)) e :=
  (above_any (.pointer (some ⟨br, 0, none⟩)) n w).mono fun e w' ⟨he, hb⟩ => by
    subst he
    exact RdR.ok (It.mk 0 n [] []) none 0 a (body_0 _ _ _ _) (by omega) (Nat.le_refl _) ha ⟨by show (_ : Int) ≤ (n : Int); omega, by show (n : Int) ≤ _; omega, by simp [It.text]⟩ (RdL.nil _ _ _ _) (.inl rfl) (hR.below hb) (.of hb)
theorem below_rd (V : List UInt8 → Bool) (sub : Option (List UInt8 → Res It)) (d br : Nat) (s : List UInt8) (a outer n : Nat) (w : World) (hR : Rdr br s a outer w) (ha : a ≤ s.length) (hn : n ≤ 9223372036854775807) :
    Calls Tryd.prog 41 #[.pointer (some ⟨br, 0, none⟩), .int .i64 n] w fun e w' => RdR d br s a outer w w' (body V sub 1 n (s.drop a)) e :=
  (below_any (.pointer (some ⟨br, 0, none⟩)) n w hn).mono fun e w' ⟨he, hb⟩ => by
    subst he
    exact RdR.ok (It.mk 0 (-1 - n) [] []) none 0 a (body_1 _ _ _ _) (by omega) (Nat.le_refl _) ha ⟨by show (_ : Int) ≤ -1 - (n : Int); omega, by show -1 - (n : Int) ≤ _; omega, by simp [It.text]⟩ (RdL.nil _ _ _ _) (.inl rfl) (hR.below hb) (.of hb)

set_option maxHeartbeats 1000000 in
set_option maxRecDepth 100000 in
theorem bytes_rd (V : List UInt8 → Bool) (sub : Option (List UInt8 → Res It)) (d br : Nat) (s : List UInt8) (a outer n : Nat) (w : World) (hR : Rdr br s a outer w) (hs : s.length ≤ 4096) (ha : a ≤ s.length) (hn : n ≤ 9223372036854775807) :
    Calls Tryd.prog 42 #[.pointer (some ⟨br, 0, none⟩), .int .i64 n] w fun e w' => RdR d br s a outer w w' (body V sub 2 n (s.drop a)) e := by
  have hal : Below w.heap.size w (w.alloc (.cells #[.int .i64 0, .int .i64 0, .string ⟨#[]⟩, .slice none 0 0] 24)) := (Below.refl _ _).alloc (Nat.le_refl _) _
  have HR := Lib.hid (hR.below hal)
  have HA := Lib.hid hal
  have hlt := hR.lt
  have HQ := Lib.hid (Go.heap_alloc_new w (.cells #[.int .i64 0, .int .i64 0, .string ⟨#[]⟩, .slice none 0 0] 24))
  by_cases hf : a + n ≤ s.length
  · have HB : Hid (body V sub 2 n (s.drop a) = .ok (.mk 1 0 ((s.drop a).take n) [], s.drop (a + n))) := Lib.hid (by rw [body_2, if_pos (by simp; omega), List.drop_drop])
    have HL : Hid (((s.drop a).take n).length ≤ 4096) := Lib.hid (by simp; omega)
    clear hR hal
    go_enter Tryd.func42, Tryd.ntmps42
    go_wp2_with fail
    refine (take_yes br s a outer n _ HR.out hs hf).mono ?_
    rintro e w1 ⟨rfl, r1, k1⟩
    generalize hT : (s.drop a).take n = T at HB HL ⊢
    have HT := Lib.hid hT
    have R1 := Lib.hid r1
    have K1 := Lib.hid k1
    clear hT r1 k1
    go_wp2_with fail
    refine (clone_any T w1 HL.out).mono ?_
    rintro e w2 ⟨rfl, b2⟩
    have R2 := Lib.hid (R1.out.below b2)
    have K2 := Lib.hid (K1.out.below b2)
    have q := K2.out.heap HQ.out (by omega)
    have z0 := cellOf q 0
    have z1 := cellOf q 1
    have z2 := cellOf q 2
    have z3 := cellOf q 3
    simp at z0 z1 z2 z3
    have y0 := Lib.frozen_of_heap q 0
    have y1 := Lib.frozen_of_heap q 1
    have y2 := Lib.frozen_of_heap q 2
    have y3 := Lib.frozen_of_heap q 3
    clear b2 q
    go_wp2_with fail
    refine bodyPost_ret (v := itV (It.mk 1 0 T []) none 0) (by simp [itV, It.kind, It.num, It.text, It.list, results, Tryd.results42, go_sem, z0, z1, z2, z3]) rfl ?_
    exact RdR.ok (It.mk 1 0 T []) none 0 (a + n) HB.out (by omega) (by omega) hf ⟨by show (_ : Int) ≤ 0; omega, by show (0 : Int) ≤ _; omega, by show T.length ≤ _; have := HL.out; omega⟩ (RdL.nil _ _ _ _) (.inl rfl)
      (R2.out.set4 (by omega)) (((Keeps.of HA.out).trans K2.out).set4 (by simp))
  · have HB : Hid (body V sub 2 n (s.drop a) = .error false) := Lib.hid (by rw [body_2, if_neg (by simp; omega)])
    clear hR hal
    go_enter Tryd.func42, Tryd.ntmps42
    go_wp2_with fail
    refine (take_no br s a outer n _ HR.out hs ha (by omega) hn).mono ?_
    rintro e w1 ⟨rfl, k1⟩
    exact ⟨rfl, RdR.err false HB.out ((Keeps.of HA.out).trans k1)⟩

set_option maxHeartbeats 1000000 in
set_option maxRecDepth 100000 in
theorem text_rd (sub : Option (List UInt8 → Res It)) (d br : Nat) (s : List UInt8) (a outer n : Nat) (w : World) (hT : Tb w) (hR : Rdr br s a outer w) (hbr : 2 ≤ br) (hs : s.length ≤ 4096) (ha : a ≤ s.length) (hn : n ≤ 9223372036854775807) :
    Calls Tryd.prog 43 #[.pointer (some ⟨br, 0, none⟩), .int .i64 n] w fun e w' => RdR d br s a outer w w' (body Lib.validD sub 3 n (s.drop a)) e := by
  have hal : Below w.heap.size w (w.alloc (.cells #[.int .i64 0, .int .i64 0, .string ⟨#[]⟩, .slice none 0 0] 24)) := (Below.refl _ _).alloc (Nat.le_refl _) _
  have HR := Lib.hid (hR.below hal)
  have HA := Lib.hid hal
  have hlt := hR.lt
  have HQ := Lib.hid (Go.heap_alloc_new w (.cells #[.int .i64 0, .int .i64 0, .string ⟨#[]⟩, .slice none 0 0] 24))
  have HTb := Lib.hid hT
  by_cases hf : a + n ≤ s.length
  rotate_left
  · have HB : Hid (body Lib.validD sub 3 n (s.drop a) = .error false) := Lib.hid (by rw [body_3, if_neg (by simp; omega)])
    clear hR hal hT
    go_enter Tryd.func43, Tryd.ntmps43
    go_wp2_with fail
    refine (take_no br s a outer n _ HR.out hs ha (by omega) hn).mono ?_
    rintro e w1 ⟨rfl, k1⟩
    exact ⟨rfl, RdR.err false HB.out ((Keeps.of HA.out).trans k1)⟩
  have HB : Hid (body Lib.validD sub 3 n (s.drop a) = if Lib.validD ((s.drop a).take n) then .ok (.mk 2 0 ((s.drop a).take n) [], s.drop (a + n)) else .error false) := Lib.hid (by rw [body_3, if_pos (by simp; omega), List.drop_drop])
  have HL : Hid (((s.drop a).take n).length ≤ 4096) := Lib.hid (by simp; omega)
  clear hR hal hT
  go_enter Tryd.func43, Tryd.ntmps43
  go_wp2_with fail
  refine (take_yes br s a outer n _ HR.out hs hf).mono ?_
  rintro e w1 ⟨rfl, r1, k1⟩
  generalize hT : (s.drop a).take n = T at HB HL ⊢
  have HT := Lib.hid hT
  have R1 := Lib.hid r1
  have K1 := Lib.hid k1
  have HV := Lib.hid (valid_any T w1 (by have := HL.out; omega) (((HTb.out.below HA.out).keeps k1 hbr)))
  clear hT r1 k1
  go_wp2_with fail
  refine HV.out.mono ?_
  rintro e w2 ⟨rfl, b2⟩
  by_cases hv : Lib.validD T = true
  rotate_left
  · have HE : Hid (body Lib.validD sub 3 n (s.drop a) = .error false) := Lib.hid (by rw [HB.out, if_neg hv])
    have hv' : Lib.validD T = false := by simpa using hv
    rw [hv']
    have K2 := Lib.hid (K1.out.below b2)
    clear hv hv' HV b2
    go_wp2_with fail
    refine (must_no _).mono ?_
    rintro e w3 ⟨rfl, rfl⟩
    exact ⟨rfl, RdR.err false HE.out ((Keeps.of HA.out).trans K2.out)⟩
  have HE : Hid (body Lib.validD sub 3 n (s.drop a) = .ok (.mk 2 0 T [], s.drop (a + n))) := Lib.hid (by rw [HB.out, if_pos hv])
  rw [hv]
  have R2 := Lib.hid (R1.out.below b2)
  have K2 := Lib.hid (K1.out.below b2)
  clear hv HV b2
  go_wp2_with fail
  refine (must_yes _).mono ?_
  rintro e w3 ⟨rfl, rfl⟩
  go_wp2_with fail
  refine (clone_any T w2 HL.out).mono ?_
  rintro e w4 ⟨rfl, b4⟩
  have R4 := Lib.hid (R2.out.below b4)
  have K4 := Lib.hid (K2.out.below b4)
  have q := K4.out.heap HQ.out (by omega)
  have z0 := cellOf q 0
  have z1 := cellOf q 1
  have z2 := cellOf q 2
  have z3 := cellOf q 3
  simp at z0 z1 z2 z3
  have y0 := Lib.frozen_of_heap q 0
  have y1 := Lib.frozen_of_heap q 1
  have y2 := Lib.frozen_of_heap q 2
  have y3 := Lib.frozen_of_heap q 3
  clear b4 q
  go_wp2_with fail
  refine bodyPost_ret (v := itV (It.mk 2 0 T []) none 0) (by simp [itV, It.kind, It.num, It.text, It.list, results, Tryd.results43, go_sem, z0, z1, z2, z3]) rfl ?_
  exact RdR.ok (It.mk 2 0 T []) none 0 (a + n) HE.out (by omega) (by omega) hf ⟨by show (_ : Int) ≤ 0; omega, by show (0 : Int) ≤ _; omega, by show T.length ≤ _; have := HL.out; omega⟩ (RdL.nil _ _ _ _) (.inl rfl)
    (R4.out.set4 (by omega)) (((Keeps.of HA.out).trans K4.out).set4 (by simp))
end Go.Proofs.YtghdcgokndmkjaaDoor
