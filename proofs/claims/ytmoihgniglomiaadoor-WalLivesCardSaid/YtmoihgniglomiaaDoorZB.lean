/- A disk in memory; the calls that only look at it: there, waiting, Waiting, Size, Dead. No condition but the disk's own. -/
import Derived.LoopN
import Derived.Test.YtmoihgniglomiaaDoorZA
set_option linter.unusedVariables false
set_option linter.unusedSimpArgs false
set_option maxRecDepth 100000
namespace Go.Proofs.YtmoihgniglomiaaDoor
open Go.RowKit Go.Sort

/-- where a disk lies -/
structure Fp where
  b : Nat
  g0 : Nat
  g1 : Nat
  c0 : Nat
  c1 : Nat
  rv : Value
def Fp.own (p : Fp) : List Nat := p.b :: p.g0 :: p.g1 :: p.rv.ownBlock.toList
def Fp.v (p : Fp) : Value := .pointer (some ⟨p.b, 0, none⟩)
structure Dk (w : World) (p : Fp) (S : St) : Prop where
  blk : Bk 93 w p.b #[.slice (some ⟨p.g0, 0, none⟩) S.f0.length p.c0, .int .i64 (S.s0 : Int), .slice (some ⟨p.g1, 0, none⟩) S.f1.length p.c1, .int .i64 (S.s1 : Int), p.rv, .bool S.gone, .int .i64 (S.inn : Int), .int .i64 (S.lft : Int)]
  r0 : By w p.g0 p.c0 S.f0
  r1 : By w p.g1 p.c1 S.f1
  rr : w.ownsRow 0 105 2 p.rv S.row.length (pcells S.row)
  ne : p.g0 ≠ p.g1
  wf : S.Wf
theorem owns_of {w w' : World} {v : Value} {n : Nat} {xs : List Value} (h : w.ownsRow 0 105 2 v n xs) (e : ∀ g, v.ownBlock = some g → g < w.heap.size → w'.heap[g]? = w.heap[g]?) : w'.ownsRow 0 105 2 v n xs := by
  obtain ⟨hl, h | ⟨g, cap, cur, hv, hb, hg, rest⟩⟩ := h
  · exact ⟨hl, .inl h⟩
  · exact ⟨hl, .inr ⟨g, cap, cur, hv, hb, (e g (by rw [hv]; rfl) (blk_lt hg)).trans hg, rest⟩⟩
theorem Dk.only {w w' : World} {p : Fp} {S : St} (h : Dk w p S) {L : List Nat} (ho : Only L w w') (hL : ∀ k ∈ p.own, k ∉ L) : Dk w' p S :=
  ⟨h.blk.only ho (hL _ (by simp [Fp.own])), h.r0.only ho (hL _ (by simp [Fp.own])), h.r1.only ho (hL _ (by simp [Fp.own])), owns_of h.rr (fun g hg hlt => ho.block g hlt (hL g (by simp [Fp.own, hg]))), h.ne, h.wf⟩
theorem Dk.below {w w' : World} {p : Fp} {S : St} (h : Dk w p S) (hb : Below w.heap.size w w') : Dk w' p S :=
  h.only (L := []) (.of hb) (fun _ _ => by simp)
theorem owns_lt {w : World} {v : Value} {n : Nat} {xs : List Value} (h : w.ownsRow 0 105 2 v n xs) {g : Nat} (e : v.ownBlock = some g) : g < w.heap.size := by
  obtain ⟨hl, h | ⟨g', cap, cur, hv, hb, hg, rest⟩⟩ := h
  · rw [h.1] at e; cases e
  · rw [hv] at e; cases e; exact blk_lt hg
theorem Dk.lt {w : World} {p : Fp} {S : St} (h : Dk w p S) : ∀ k ∈ p.own, k < w.heap.size := by
  intro k hk
  simp only [Fp.own, List.mem_cons, Option.mem_toList] at hk
  rcases hk with rfl | rfl | rfl | hk
  · exact h.blk.lt
  · exact h.r0.lt
  · exact h.r1.lt
  · exact owns_lt h.rr hk

theorem there_any (f : Int) (w : World) : Calls Tryd.prog 81 #[.int .i64 f] w fun e w' => e = .returned (.bool (St.there f)) ∧ w = w' := by
  by_cases h0 : 0 ≤ f
  · by_cases h1 : f < 2
    · have ht : St.there f = true := by simp [St.there, h0, h1]
      rw [ht]
      clear ht
      have h0' : decide (0 ≤ f) = true := by simpa using h0
      have h1' : decide (f < 2) = true := by simpa using h1
      go_enter Tryd.func81, Tryd.ntmps81
      go_wp2
      go_ret
      exact ⟨rfl, rfl⟩
    · have ht : St.there f = false := by simp [St.there, h0, h1]
      rw [ht]
      clear ht
      have h0' : decide (0 ≤ f) = true := by simpa using h0
      have h1' : decide (f < 2) = false := by simpa using h1
      go_enter Tryd.func81, Tryd.ntmps81
      go_wp2
      go_ret
      exact ⟨rfl, rfl⟩
  · have ht : St.there f = false := by simp [St.there, h0]
    rw [ht]
    clear ht
    have h0' : decide (0 ≤ f) = false := by simpa using h0
    go_enter Tryd.func81, Tryd.ntmps81
    go_wp2
    go_ret
    exact ⟨rfl, rfl⟩
theorem waiting45 (a : Option Addr) (n c s : Nat) (h : s ≤ n) (hn : n ≤ 1048576) (w : World) :
    Calls Tryd.prog 88 #[.agg #[.slice a n c, .int .i64 (s : Int)]] w fun e w' => e = .returned (.int .i64 ((n - s : Nat) : Int)) ∧ Below w.heap.size w w' := by
  have e : ((n - s : Nat) : Int) = (n : Int) - s := by omega
  rw [e]
  clear e
  go_enter Tryd.func88, Tryd.ntmps88
  go_wp2
  go_ret
  exact ⟨rfl, by go_grown⟩
/-- what was known of the world ahead of a call that lays new memory alone, behind it -/
theorem keep {f : FuncId} {args : Array Value} {W : World} {R : Ending → Prop} (B : Nat) (w : World) (h : Calls Tryd.prog f args W fun e w' => R e ∧ Below W.heap.size W w') (hb : Below B w W) (hB : B ≤ w.heap.size) :
    Calls Tryd.prog f args W fun e w' => R e ∧ Below B w w' ∧ Below W.heap.size W w' :=
  h.mono fun _ _ h => ⟨h.1, hb.trans (h.2.mono (Nat.le_trans hB hb.size)), h.2⟩
set_option maxHeartbeats 4000000 in
theorem waiting20 (b : Nat) (a0 a1 : Option Addr) (n0 n1 c0 c1 s0 s1 : Nat) (h0 : s0 ≤ n0) (h1 : s1 ≤ n1) (hn0 : n0 ≤ 1048576) (hn1 : n1 ≤ 1048576) (v4 v5 v6 v7 : Value) (w : World) 
    (K : Hid (Bk 93 w b #[.slice a0 n0 c0, .int .i64 (s0 : Int), .slice a1 n1 c1, .int .i64 (s1 : Int), v4, v5, v6, v7])) :
    Calls Tryd.prog 57 #[.pointer (some ⟨b, 0, none⟩)] w fun e w' => e = .returned (.int .i64 (((n0 - s0) + (n1 - s1) : Nat) : Int)) ∧ Below w.heap.size w w' := by
  have i0 := K.out.cell 0
  have i1 := K.out.cell 1
  have i2 := K.out.cell 2
  have i3 := K.out.cell 3
  have hi0 : ∀ w, (Instr.index 88 (.agg #[.slice a0 n0 c0, .int .i64 (s0 : Int), .slice a1 n1 c1, .int .i64 (s1 : Int)]) (.int .i64 0)).run Tryd.prog w = .ok (.agg #[.slice a0 n0 c0, .int .i64 (s0 : Int)]) w := fun _ => by kernel_rfl
  have hi1 : ∀ w, (Instr.index 88 (.agg #[.slice a0 n0 c0, .int .i64 (s0 : Int), .slice a1 n1 c1, .int .i64 (s1 : Int)]) (.int .i64 1)).run Tryd.prog w = .ok (.agg #[.slice a1 n1 c1, .int .i64 (s1 : Int)]) w := fun _ => by kernel_rfl
  go_enter Tryd.func57, Tryd.ntmps57
  go_wp2_with fail
  refine wp_loop_rounds 3 ?_
  rw [rounds_succ]
  go_wp2_with fail
  refine (keep w.heap.size w (waiting45 _ _ _ _ h0 hn0 _) (by go_grown) (Nat.le_refl _)).mono ?_
  rintro e w1 ⟨rfl, hb1, -⟩
  have HB1 := Lib.hid hb1
  clear hb1
  go_wp2_with fail
  rw [rounds_succ]
  go_wp2_with fail
  refine (keep w.heap.size w (waiting45 _ _ _ _ h1 hn1 _) (by have := HB1.out; have := this.size; have := HB1.out; go_grown) (Nat.le_refl _)).mono ?_
  rintro e w2 ⟨rfl, hb2, -⟩
  have HB2 := Lib.hid hb2
  clear hb2
  go_wp2_with fail
  rw [rounds_succ]
  go_wp2_with fail
  go_ret
  refine ⟨?_, HB2.out⟩
  congr 2
theorem waiting_any (p : Fp) (S : St) (w : World) (h : Dk w p S) :
    Calls Tryd.prog 57 #[p.v] w fun e w' => e = .returned (.int .i64 (S.waiting : Int)) ∧ Below w.heap.size w w' := by
  have h0 := h.wf.t0
  have h1 := h.wf.t1
  exact waiting20 p.b _ _ _ _ _ _ _ _ (by omega) (by omega) h.wf.l0 h.wf.l1 _ _ _ _ w (Lib.hid h.blk)
set_option maxHeartbeats 4000000 in
theorem size23 (b : Nat) (a0 a1 : Option Addr) (n0 n1 c0 c1 : Nat) (v1 v3 v4 v5 v6 v7 : Value) (f : Int) (w : World) 
    (K : Hid (Bk 93 w b #[.slice a0 n0 c0, v1, .slice a1 n1 c1, v3, v4, v5, v6, v7])) :
    Calls Tryd.prog 41 #[.pointer (some ⟨b, 0, none⟩), .int .i64 f] w fun e w' => e = .returned (.int .i64 (if St.there f then ((if f.toNat = 0 then n0 else n1 : Nat) : Int) else -1)) ∧ w = w' := by
  have i0 := K.out.cell 0
  have i2 := K.out.cell 2
  rcases (by omega : f = 0 ∨ f = 1 ∨ ¬ (0 ≤ f ∧ f < 2)) with rfl | rfl | hf
  · go_enter Tryd.func41, Tryd.ntmps41
    go_wp2_with fail
    refine (there_any _ _).mono ?_
    rintro e w' ⟨rfl, rfl⟩
    rw [show St.there 0 = true from rfl]
    go_wp2_with fail
    go_ret
    exact ⟨rfl, rfl⟩
  · go_enter Tryd.func41, Tryd.ntmps41
    go_wp2_with fail
    refine (there_any _ _).mono ?_
    rintro e w' ⟨rfl, rfl⟩
    rw [show St.there 1 = true from rfl]
    go_wp2_with fail
    go_ret
    exact ⟨rfl, rfl⟩
  · have ht : St.there f = false := by simpa [St.there] using hf
    rw [ht]
    have HT := Lib.hid ht
    clear ht hf
    go_enter Tryd.func41, Tryd.ntmps41
    go_wp2_with fail
    refine (there_any _ _).mono ?_
    rintro e w' ⟨rfl, rfl⟩
    rw [HT.out]
    go_wp2_with fail
    go_ret
    exact ⟨rfl, rfl⟩
theorem size_any (p : Fp) (S : St) (f : Int) (w : World) (h : Dk w p S) :
    Calls Tryd.prog 41 #[p.v, .int .i64 f] w fun e w' => e = .returned (.int .i64 (S.size f)) ∧ w = w' := by
  have e : S.size f = (if St.there f then ((if f.toNat = 0 then S.f0.length else S.f1.length : Nat) : Int) else -1) := by
    unfold St.size St.file
    split
    · split <;> rfl
    · rfl
  rw [e]
  exact size23 p.b _ _ _ _ _ _ _ _ _ _ _ _ f w (Lib.hid h.blk)
theorem dead27 (b : Nat) (v0 v1 v2 v3 v4 v6 v7 : Value) (x : Bool) (w : World) (K : Hid (Bk 93 w b #[v0, v1, v2, v3, v4, .bool x, v6, v7])) :
    Calls Tryd.prog 28 #[.pointer (some ⟨b, 0, none⟩)] w fun e w' => e = .returned (.bool x) ∧ w = w' := by
  have i5 := K.out.cell 5
  go_enter Tryd.func28, Tryd.ntmps28
  go_wp2_with fail
  go_ret
  exact ⟨rfl, rfl⟩
theorem dead_any (p : Fp) (S : St) (w : World) (h : Dk w p S) :
    Calls Tryd.prog 28 #[p.v] w fun e w' => e = .returned (.bool S.gone) ∧ w = w' := dead27 p.b _ _ _ _ _ _ _ _ w (Lib.hid h.blk)
/-- what a call that may change a disk leaves -/
def Mut (w : World) (p : Fp) (w' : World) (p' : Fp) (S' : St) : Prop := Dk w' p' S' ∧ p'.b = p.b ∧ Only p.own w w' ∧ ∀ k ∈ p'.own, k ∈ p.own ∨ w.heap.size ≤ k
set_option maxHeartbeats 4000000 in
theorem revive28 (b : Nat) (v0 v1 v2 v3 v4 v5 v6 v7 : Value) (w : World) (K : Hid (Bk 93 w b #[v0, v1, v2, v3, v4, v5, v6, v7])) :
    Calls Tryd.prog 29 #[.pointer (some ⟨b, 0, none⟩)] w fun e w' => e = .returned (.tuple #[]) ∧ Bk 93 w' b #[v0, v1, v2, v3, v4, .bool false, .int .i64 0, .int .i64 0] ∧ Only [b] w w' := by
  have i5 := K.out.cell 5
  have i6 := K.out.cell 6
  have i7 := K.out.cell 7
  have f5 := K.out.fro 5
  have f6 := K.out.fro 6
  have f7 := K.out.fro 7
  go_enter Tryd.func29, Tryd.ntmps29
  go_wp2_with fail
  go_returns
  have p := Bk.same (i := 7) (v := .int .i64 0) (Bk.same (i := 6) (v := .int .i64 0) (Bk.same (i := 5) (v := .bool false) K.out))
  exact ⟨rfl, by simpa using p, (((Only.refl _ _).setCell _ (by simp) _).setCell _ (by simp) _).setCell _ (by simp) _⟩
end Go.Proofs.YtmoihgniglomiaaDoor
