/- Many disks side by side: a call on one of them leaves the others, and what is kept, as they were. No condition but the disks' own. DiskSafe's walk: behind a sync a crash takes nothing. Conditions: that the numbers are int64, and the texts' lengths. A log of one's own: what stays known of it, call by call; one that is laid on an empty disk. Condition: the program's table. The calls whose answers th -/
import Derived.Test.YtmoihgniglomiaaDoorZd06
import Derived.Test.YtmoihgniglomiaaDoorZd16
import Derived.Laws.OwnMore
import Derived.Laws.MakeOwn
import Derived.Test.YtmoihgniglomiaaDoorZd09
set_option linter.unusedVariables false
set_option linter.unusedSimpArgs false
set_option maxRecDepth 100000
namespace Go.Proofs.YtmoihgniglomiaaDoor
open Go.RowKit Go.Sort
def Kept (K : List Nat) (w w' : World) : Prop := ∀ k ∈ K, w'.heap[k]? = w.heap[k]?
structure Cf (B : Nat) (w0 w : World) (ds : List (Nat × St)) (K : List Nat) : Prop where
  low : B ≤ w0.heap.size
  below : Below B w0 w
  kept : ∀ k ∈ K, k < w.heap.size
  disks : ∃ ps : List Fp, ps.length = ds.length ∧ (∀ (i : Nat) (p : Fp) (b : Nat) (S : St), ps[i]? = some p → ds[i]? = some (b, S) → p.b = b ∧ Dk w p S) ∧ (∀ (i : Nat) (p : Fp), ps[i]? = some p → ∀ k ∈ p.own, B ≤ k ∧ k ∉ K) ∧ (∀ (i j : Nat) (p q : Fp), i ≠ j → ps[i]? = some p → ps[j]? = some q → ∀ k ∈ p.own, k ∉ q.own)
theorem Cf.down {B : Nat} {w0 w w' : World} {ds : List (Nat × St)} {K : List Nat} (h : Cf B w0 w ds K) (hb : Below w.heap.size w w') : Cf B w0 w' ds K := by
  obtain ⟨ps, hl, hd, hk, hj⟩ := h.disks
  exact ⟨h.low, h.below.trans (hb.mono (Nat.le_trans h.low h.below.size)), fun k hk => Nat.lt_of_lt_of_le (h.kept k hk) hb.size, ps, hl, fun i p b S hp hS => ⟨(hd i p b S hp hS).1, (hd i p b S hp hS).2.below hb⟩, hk, hj⟩
theorem Cf.one {B : Nat} {w0 w : World} {p : Fp} {S : St} (h : Own B w0 w p S) (hB : B ≤ w0.heap.size) : Cf B w0 w [(p.b, S)] [] := by
  refine ⟨hB, h.2.1, by simp, [p], rfl, ?_, ?_, ?_⟩
  · intro i q b S' hq hS
    match i with
    | 0 =>
      simp only [List.getElem?_cons_zero, Option.some.injEq, Prod.mk.injEq] at hq hS
      obtain ⟨rfl, rfl⟩ := hS
      subst hq
      exact ⟨rfl, h.1⟩
    | i + 1 => simp at hq
  · intro i q hq
    match i with
    | 0 =>
      simp only [List.getElem?_cons_zero, Option.some.injEq] at hq
      subst hq
      exact fun k hk => ⟨h.2.2 k hk, by simp⟩
    | i + 1 => simp at hq
  · intro i j p q hij hp hq
    match i, j with
    | 0, 0 => exact absurd rfl hij
    | 0, j + 1 => simp at hq
    | i + 1, _ => simp at hp
theorem Cf.at {B : Nat} {w0 w : World} {ds : List (Nat × St)} {K : List Nat} (h : Cf B w0 w ds K) {i b : Nat} {S : St} (hi : ds[i]? = some (b, S)) :
    ∃ p : Fp, p.b = b ∧ Dk w p S ∧ ∀ w' p' S', Mut w p w' p' S' → Cf B w0 w' (ds.set i (b, S')) K ∧ Kept K w w' := by
  obtain ⟨ps, hl, hd, hk, hj⟩ := h.disks
  have hil : i < ds.length := (List.getElem?_eq_some_iff.1 hi).1
  obtain ⟨p, hp⟩ : ∃ p, ps[i]? = some p := ⟨ps[i]'(by omega), List.getElem?_eq_getElem (by omega)⟩
  obtain ⟨hpb, hdk⟩ := hd i p b S hp hi
  refine ⟨p, hpb, hdk, fun w' p' S' hm => ?_⟩
  have hkeep : Kept K w w' := fun k hkk => hm.2.2.1.block k (h.kept k hkk) (fun hin => (hk i p hp k hin).2 hkk)
  have hbl : Below B w w' := hm.2.2.1.below (Nat.le_trans h.low h.below.size) (fun k hkk => (hk i p hp k hkk).1)
  have hown : ∀ k ∈ p'.own, B ≤ k ∧ k ∉ K := by
    intro k hkk
    rcases hm.2.2.2 k hkk with e | e
    · exact hk i p hp k e
    · exact ⟨Nat.le_trans (Nat.le_trans h.low h.below.size) e, fun hK => by have := h.kept k hK; omega⟩
  have hot : ∀ (j : Nat) (q : Fp), j ≠ i → ps[j]? = some q → (∀ k ∈ q.own, k < w.heap.size) → (∀ k ∈ p'.own, k ∉ q.own) := by
    intro j q hji hq hlt k hkk
    rcases hm.2.2.2 k hkk with e | e
    · exact hj i j p q (fun e => hji e.symm) hp hq k e
    · exact fun hin => by have := hlt k hin; omega
  refine ⟨⟨h.low, h.below.trans hbl, fun k hkk => Nat.lt_of_lt_of_le (h.kept k hkk) hm.2.2.1.size, ps.set i p', by simp [hl], ?_, ?_, ?_⟩, hkeep⟩
  · intro j q c S2 hq hS
    by_cases hji : j = i
    · subst hji
      rw [List.getElem?_set_self (by omega)] at hq hS
      simp only [Option.some.injEq, Prod.mk.injEq] at hq hS
      obtain ⟨rfl, rfl⟩ := hS
      subst hq
      exact ⟨hm.2.1.trans hpb, hm.1⟩
    · rw [List.getElem?_set_ne (fun e => hji e.symm)] at hq hS
      obtain ⟨e1, e2⟩ := hd j q c S2 hq hS
      exact ⟨e1, e2.only hm.2.2.1 (fun k hkk => hj j i q p hji hq hp k hkk)⟩
  · intro j q hq
    by_cases hji : j = i
    · subst hji
      rw [List.getElem?_set_self (by omega)] at hq
      cases hq
      exact hown
    · rw [List.getElem?_set_ne (fun e => hji e.symm)] at hq
      exact hk j q hq
  · intro j1 j2 q1 q2 hne h1 h2
    have hlt : ∀ (j : Nat) (q : Fp), ps[j]? = some q → ∀ k ∈ q.own, k < w.heap.size := by
      intro j q hq
      have hjl : j < ds.length := by have := (List.getElem?_eq_some_iff.1 hq).1; omega
      exact (hd j q _ _ hq (List.getElem?_eq_getElem hjl)).2.lt
    by_cases e1 : j1 = i
    · subst e1
      rw [List.getElem?_set_self (by omega)] at h1
      cases h1
      rw [List.getElem?_set_ne hne] at h2
      exact hot j2 q2 (fun e => hne e.symm) h2 (hlt j2 q2 h2)
    · rw [List.getElem?_set_ne (fun e => e1 e.symm)] at h1
      by_cases e2 : j2 = i
      · subst e2
        rw [List.getElem?_set_self (by omega)] at h2
        cases h2
        exact fun k hkk hin => hot j1 q1 e1 h1 (hlt j1 q1 h1) k hin hkk
      · rw [List.getElem?_set_ne (fun e => e2 e.symm)] at h2
        exact hj j1 j2 q1 q2 hne h1 h2
theorem Cf.add {B : Nat} {w0 w w' : World} {ds : List (Nat × St)} {K : List Nat} (h : Cf B w0 w ds K) (hb : Below w.heap.size w w') {p : Fp} {S : St} (hd : Dk w' p S) (hk : ∀ k ∈ p.own, w.heap.size ≤ k) : Cf B w0 w' (ds ++ [(p.b, S)]) K := by
  have h' := h.down hb
  obtain ⟨ps, hl, hd', hk', hj'⟩ := h'.disks
  obtain ⟨ps0, hl0, hd0, hk0, hj0⟩ := h.disks
  clear h'
  have hlt0 : ∀ (j : Nat) (q : Fp), ps0[j]? = some q → ∀ k ∈ q.own, k < w.heap.size := by
    intro j q hq
    have hjl : j < ds.length := by have := (List.getElem?_eq_some_iff.1 hq).1; omega
    exact (hd0 j q _ _ hq (List.getElem?_eq_getElem hjl)).2.lt
  refine ⟨h.low, h.below.trans (hb.mono (Nat.le_trans h.low h.below.size)), fun k hkk => Nat.lt_of_lt_of_le (h.kept k hkk) hb.size, ps0 ++ [p], by simp [hl0], ?_, ?_, ?_⟩
  · intro i q b S2 hq hS
    by_cases hi : i < ps0.length
    · rw [List.getElem?_append_left hi] at hq
      rw [List.getElem?_append_left (by omega)] at hS
      exact ⟨(hd0 i q b S2 hq hS).1, (hd0 i q b S2 hq hS).2.below hb⟩
    · rw [List.getElem?_append_right (by omega)] at hq
      rw [List.getElem?_append_right (by omega)] at hS
      have hi0 : i - ps0.length = 0 := by
        have := (List.getElem?_eq_some_iff.1 hq).1
        simp at this; omega
      rw [hi0] at hq
      rw [show i - ds.length = 0 by omega] at hS
      simp only [List.getElem?_cons_zero, Option.some.injEq, Prod.mk.injEq] at hq hS
      obtain ⟨rfl, rfl⟩ := hS
      subst hq
      exact ⟨rfl, hd⟩
  · intro i q hq
    by_cases hi : i < ps0.length
    · rw [List.getElem?_append_left hi] at hq
      exact hk0 i q hq
    · rw [List.getElem?_append_right (by omega)] at hq
      have hq' : q = p := by
        have := List.mem_of_getElem? hq
        simpa using this
      subst hq'
      intro k hkk
      have := hk k hkk
      exact ⟨Nat.le_trans (Nat.le_trans h.low h.below.size) this, fun hK => by have := h.kept k hK; omega⟩
  · intro i j q1 q2 hne h1 h2
    by_cases hi : i < ps0.length
    · rw [List.getElem?_append_left hi] at h1
      by_cases hj : j < ps0.length
      · rw [List.getElem?_append_left hj] at h2
        exact hj0 i j q1 q2 hne h1 h2
      · rw [List.getElem?_append_right (by omega)] at h2
        have hq' : q2 = p := by
          have := List.mem_of_getElem? h2
          simpa using this
        subst hq'
        intro k hkk hin
        have := hlt0 i q1 h1 k hkk
        have := hk k hin
        omega
    · rw [List.getElem?_append_right (by omega)] at h1
      have hq' : q1 = p := by
        have := List.mem_of_getElem? h1
        simpa using this
      subst hq'
      have hi2 : i = ps0.length := by
        have := (List.getElem?_eq_some_iff.1 h1).1
        simp at this; omega
      by_cases hj : j < ps0.length
      · rw [List.getElem?_append_left hj] at h2
        intro k hkk hin
        have := hlt0 j q2 h2 k hin
        have := hk k hkk
        omega
      · rw [List.getElem?_append_right (by omega)] at h2
        have hj2 : j = ps0.length := by
          have := (List.getElem?_eq_some_iff.1 h2).1
          simp at this; omega
        omega
theorem Cf.prot {B : Nat} {w0 w w' : World} {ds : List (Nat × St)} {K : List Nat} (h : Cf B w0 w ds K) (hb : Below w.heap.size w w') {g : Nat} (hg : w.heap.size ≤ g) (hg2 : g < w'.heap.size) : Cf B w0 w' ds (g :: K) := by
  obtain ⟨ps0, hl0, hd0, hk0, hj0⟩ := h.disks
  have hlt0 : ∀ (j : Nat) (q : Fp), ps0[j]? = some q → ∀ k ∈ q.own, k < w.heap.size := by
    intro j q hq
    have hjl : j < ds.length := by have := (List.getElem?_eq_some_iff.1 hq).1; omega
    exact (hd0 j q _ _ hq (List.getElem?_eq_getElem hjl)).2.lt
  refine ⟨h.low, h.below.trans (hb.mono (Nat.le_trans h.low h.below.size)), ?_, ps0, hl0, fun i q b S hq hS => ⟨(hd0 i q b S hq hS).1, (hd0 i q b S hq hS).2.below hb⟩, ?_, hj0⟩
  · intro k hk
    rcases List.mem_cons.1 hk with rfl | hk
    · exact hg2
    · exact Nat.lt_of_lt_of_le (h.kept k hk) hb.size
  · intro i q hq k hkk
    refine ⟨(hk0 i q hq k hkk).1, ?_⟩
    intro hK
    rcases List.mem_cons.1 hK with rfl | hK
    · have := hlt0 i q hq _ hkk; omega
    · exact (hk0 i q hq k hkk).2 hK
theorem Two.kept {B : Nat} {w w' : World} {v : Value} {a b : List UInt8} (h : Two B w v a b) {K : List Nat} (hk : Kept K w w') (hv : ∀ g, v.ownBlock = some g → g ∈ K) : Two B w' v a b := by
  obtain ⟨g, rfl, hB, k⟩ := h
  exact ⟨g, rfl, hB, (hk g (hv g rfl)).trans k⟩
section
variable {B : Nat} {w0 w : World} {ds : List (Nat × St)} {K : List Nat} {i b : Nat} {S : St}
theorem Cf.wf (h : Cf B w0 w ds K) (hi : ds[i]? = some (b, S)) : S.Wf := by
  obtain ⟨p, rfl, hd, hm⟩ := h.at hi
  exact hd.wf
end
def Calm (S : St) : Prop := S.gone = false ∧ S.inn = 0
theorem Calm.count {S : St} (h : Calm S) : S.count = (0, S) := by simp [St.count, h.2]
theorem Calm.lay {S : St} (h : Calm S) (f : Nat) (s : List UInt8) : Calm (S.lay f s) := by unfold St.lay; split <;> exact h
theorem Calm.append {S : St} (h : Calm S) (f : Int) (s : List UInt8) : Calm (S.append f s).2 := by
  unfold St.append
  rw [h.1]
  simp only [Bool.false_eq_true, if_false]
  split
  · exact h
  · split
    · exact h
    · rw [(h.lay _ _).count]; exact h.lay _ _
theorem Calm.sync_eq {S : St} (h : Calm S) : S.sync = (0, S.keep S.waiting) := by
  unfold St.sync
  rw [h.1, h.count]
  simp
theorem Calm.cut {S : St} (h : Calm S) (f n : Int) : Calm (S.cut f n).2 := by
  unfold St.cut
  rw [h.1, h.count]
  simp only [Bool.false_eq_true, if_false, if_true]
  split
  · exact h
  · split
    · exact h
    · unfold St.cutF; split <;> exact h
theorem Calm.step {S : St} (h : Calm S) (o : Op) : Calm (stepM S o) := by
  unfold stepM
  split
  · exact h.append _ _
  · split
    · rw [h.sync_eq]; exact h
    · split
      · exact h.cut _ _
      · exact h
theorem Calm.new (a b : List UInt8) : Calm (St.new a b) := ⟨rfl, rfl⟩
def AllSafe (S : St) : Prop := S.s0 = S.f0.length ∧ S.s1 = S.f1.length ∧ S.row = []
theorem AllSafe.waiting {S : St} (h : AllSafe S) : S.waiting = 0 := by unfold St.waiting; rw [h.1, h.2.1]; simp
theorem AllSafe.after {S : St} (h : AllSafe S) (k : Int) : S.after k = (S.f0, S.f1) := by
  unfold St.after St.left
  rw [h.2.2]
  simp [leftL, h.1, h.2.1]
theorem AllSafe.cut0 {S : St} (h : AllSafe S) (k : Nat) (hk : k ≤ S.f0.length) : AllSafe (S.cut0 k) := ⟨by simp [St.cut0]; omega, h.2.1, h.2.2⟩
structure DO (B : Nat) (w0 w : World) (p : Fp) (S : St) : Prop where
  dk : Dk w p S
  bw : Below B w0 w
  op : ∀ k ∈ p.own, B ≤ k
  tb : Tb w
theorem DO.zo {B : Nat} {w0 w : World} {p : Fp} {S : St} (h : DO B w0 w p S) (hB : 0 < B) : 0 ∉ p.own := fun hx => by have := h.op 0 hx; omega
theorem DO.down {B : Nat} {w0 w w' : World} {p : Fp} {S : St} (h : DO B w0 w p S) (hB : B ≤ w0.heap.size) (hb : Below w.heap.size w w') : DO B w0 w' p S :=
  ⟨h.dk.below hb, h.bw.trans (hb.mono (Nat.le_trans hB h.bw.size)), h.op, h.tb.below hb⟩
theorem DO.mut {B : Nat} {w0 w w' : World} {p p' : Fp} {S S' : St} (h : DO B w0 w p S) (hB : B ≤ w0.heap.size) (hB0 : 0 < B) (m : Mut w p w' p' S') : DO B w0 w' p' S' :=
  ⟨m.1, h.bw.trans (m.2.2.1.below (Nat.le_trans hB h.bw.size) h.op), fun k hk => (m.2.2.2 k hk).elim (h.op k) (fun h1 => Nat.le_trans (Nat.le_trans hB h.bw.size) h1), m.tb h.tb (h.zo hB0)⟩
structure LO (B : Nat) (w0 w : World) (b : Nat) (p : Fp) (S : St) (l : Wlg) : Prop where
  lk : Lk w b p S l
  bw : Below B w0 w
  ob : B ≤ b
  op : ∀ k ∈ p.own, B ≤ k
  tb : Tb w
theorem LO.dsk {B : Nat} {w0 w : World} {b : Nat} {p : Fp} {S : St} {l : Wlg} (h : LO B w0 w b p S l) : DO B w0 w p S := ⟨h.lk.dk, h.bw, h.op, h.tb⟩
theorem LO.down {B : Nat} {w0 w w' : World} {b : Nat} {p : Fp} {S : St} {l : Wlg} (h : LO B w0 w b p S l) (hB : B ≤ w0.heap.size) (hb : Below w.heap.size w w') : LO B w0 w' b p S l :=
  ⟨h.lk.below hb, h.bw.trans (hb.mono (Nat.le_trans hB h.bw.size)), h.ob, h.op, h.tb.below hb⟩
theorem LO.lm {B : Nat} {w0 w w' : World} {b : Nat} {p p' : Fp} {S S' : St} {l l' : Wlg} (h : LO B w0 w b p S l) (hB : B ≤ w0.heap.size) (m : LM w b p w' p' S' l') : LO B w0 w' b p' S' l' :=
  ⟨m.1, h.bw.trans (m.2.2.1.below (Nat.le_trans hB h.bw.size) (fun k hk => by
    rcases List.mem_cons.1 hk with rfl | hk
    · exact h.ob
    · exact h.op k hk)), h.ob, fun k hk => (m.2.2.2 k hk).elim (h.op k) (fun h1 => Nat.le_trans (Nat.le_trans hB h.bw.size) h1), m.tb h.tb h.lk.zb h.lk.zo⟩
theorem LM.pb {w w1 : World} {b : Nat} {p p1 : Fp} {S : St} {l : Wlg} (h : LM w b p w1 p1 S l) : p1.v = p.v := by unfold Fp.v; rw [h.2.1]
def e0 : St := St.new [] []
def e1 : St := (lnew e0).2
theorem e1_ok : (lnew e0).1 = 0 := by kernel_rfl
def g1 : Wlg := ⟨0, 1, 0, false⟩
set_option maxHeartbeats 8000000 in
theorem laid_any (w : World) (hT : Tb w) : Calls Tryd.prog 31 #[] w fun e w' => ∃ (p : Fp) (b : Nat), e = .returned (.tuple #[.pointer (some ⟨p.b, 0, none⟩), .pointer (some ⟨b, 0, none⟩)]) ∧ LO w.heap.size w w' b p e1 g1 := by
  have HN := Lib.hid (new_ok w.heap.size 0 2 ⟨#[]⟩ ⟨#[]⟩ (w.alloc (.cells #[.string ⟨#[]⟩, .string ⟨#[]⟩] 9)) (by rw [World.size_alloc]; omega) ((Bk.new (t := 9) rfl).cell 0) ((Bk.new (t := 9) rfl).cell 1) (by decide) (by decide))
  have HT := Lib.hid hT
  clear hT
  go_enter Tryd.func31, Tryd.ntmps31
  go_wp2_with fail
  refine HN.out.mono ?_
  rintro e w1 ⟨p, rfl, hd, hb, hk⟩
  have hB1 : Below w.heap.size w w1 := (show Below w.heap.size w (w.alloc (.cells #[.string ⟨#[]⟩, .string ⟨#[]⟩] 9)) by go_grown).trans (hb.mono (by rw [World.size_alloc]; omega))
  have hk1 : ∀ k ∈ p.own, w.heap.size ≤ k := fun k h => by have := hk k h; rw [World.size_alloc] at this; omega
  have D1 : Hid (DO w.heap.size w w1 p e0) := Lib.hid ⟨hd, hB1, hk1, HT.out.below hB1⟩
  have HO : Hid (0 < w.heap.size) := Lib.hid HT.out.1
  clear hd hb hk hB1 hk1 HN
  unfold Fp.v
  go_wp2_with fail
  refine (wnew_any D1.out.dk D1.out.tb (D1.out.zo HO.out)).mono ?_
  rintro e w2 ⟨v, p2, rfl, hm, hok, -⟩
  obtain ⟨b, rfl, hbb, hl⟩ := hok e1_ok
  have hz : 0 ∉ p2.own := hm.zero (D1.out.zo HO.out) D1.out.tb.1
  have hD2 := D1.out.mut (Nat.le_refl _) HO.out hm
  have L2 : Hid (LO w.heap.size w w2 b p2 e1 g1) := Lib.hid ⟨hl, hD2.bw, Nat.le_trans D1.out.bw.size hbb, hD2.op, hD2.tb⟩
  have hpb : p2.b = p.b := hm.2.1
  rw [e1_ok]
  clear hm hok hl hD2 hz D1
  go_wp2_with fail
  go_returns
  exact ⟨p2, b, by rw [hpb]; rfl, L2.out⟩
def zer (n : Nat) : Bs := List.replicate n 0
def Mz (n : Nat) : Array Value := madeCells #[.int .u8 0] n
theorem info5b : (Tryd.prog.info? 5).map (fun i => (i.zero, i.size, i.bytes)) = some (some (.int .u8 0), 1, 1) := by kernel_rfl
theorem make_zer (n : Nat) (hn : n ≤ 140737488355328) (W : World) : (Instr.makeSlice 80 (.int .i64 (n : Int)) (.int .i64 (n : Int))).run Tryd.prog W = .ok (.slice (some ⟨W.heap.size, 0, none⟩) n n) (W.alloc (.cells (Mz n) 5)) := by
  obtain ⟨i0, hi, hz0, hz1, hz2⟩ := info_parts info5b
  have h := run_make (P := Tryd.prog) W 80 5 i0 (.int .u8 0) (by kernel_rfl) hi hz0 .i64 .i64 (n : Int) (n : Int) (by omega) (by omega) (by rw [hz2]; omega) (by omega)
  rw [hz1] at h
  simpa [Mz, Value.cells] using h
theorem conv_zer (n : Nat) (W : World) : (convert 80 9 (.slice (some ⟨W.heap.size, 0, none⟩) n n)).run Tryd.prog (W.alloc (.cells (Mz n) 5)) = .ok (.string ⟨(zer n).toArray⟩) (W.alloc (.cells (Mz n) 5)) := by
  have hM : Mz n = ((zer n).map (fun c => Value.int .u8 (c.toNat : Int))).toArray := by
    apply Array.ext'
    simp [Mz, toList_madeCells_one, zer]
  have := conv_row (w := W.alloc (.cells (Mz n) 5)) (b := W.heap.size) (l := zer n) (c := n) (T := 5) (z := (0, 0)) (by rw [← hM]; exact Go.heap_alloc_new W _)
  rwa [show (zer n).length = n from by simp [zer]] at this
theorem zer_len (n : Nat) : (zer n).length = n := by simp [zer]
theorem orow_one {w : World} {rv : Value} {s : Bs} (h : w.ownsRow 0 9 1 rv 1 (scells [s])) : ∃ g c, rv = .slice (some ⟨g, 0, none⟩) 1 c ∧ w.cell? ⟨g, 0, none⟩ = some (.string ⟨s.toArray⟩) := by
  obtain ⟨hl, ⟨rfl, hn⟩ | ⟨g, cap, cur, rfl, rest⟩⟩ := h
  · cases hn
  · exact ⟨g, cap, rfl, World.ownsRow.cells ⟨hl, .inr ⟨g, cap, cur, rfl, rest⟩⟩ (g := g) rfl 0 _ rfl⟩
theorem orow_nil {w : World} {rv : Value} (h : w.ownsRow 0 9 1 rv 0 (scells [])) : ∃ a c, rv = .slice a 0 c := by
  obtain ⟨hl, ⟨rfl, hn⟩ | ⟨g, cap, cur, rfl, rest⟩⟩ := h
  · exact ⟨_, _, rfl⟩
  · exact ⟨_, _, rfl⟩
def e2 : St := (lap e1 g1 [97]).2.1
def g2 : Wlg := (lap e1 g1 [97]).2.2
def e3 : St := (lsync e2 g2).2.1
def g3 : Wlg := (lsync e2 g2).2.2
def e4 : St := (lopen e3).2.2
def g4 : Wlg := (lopen e3).2.1.1
def e5 : St := (lopen e4).2.2
def g5 : Wlg := (lopen e4).2.1.1
def e6 : St := (lchk e5 g5 [115]).2.1
def g6 : Wlg := (lchk e5 g5 [115]).2.2
theorem x1 : lap e1 g1 [97] = (0, e2, g2) := Prod.ext (by kernel_rfl) rfl
theorem x1n : g2.n = 1 := by kernel_rfl
theorem x2 : room e2 g2 = 65536 := by kernel_rfl
theorem x3 : lsync e2 g2 = (0, e3, g3) := Prod.ext (by kernel_rfl) rfl
theorem x4 : Crc.sum [49, 50, 51, 52, 53, 54, 55, 56, 57] = 3421780262 := by kernel_rfl
theorem x5 : lopen e3 = (0, (g4, [], [[97]]), e4) := Prod.ext (by kernel_rfl) (Prod.ext (Prod.ext rfl (by kernel_rfl)) rfl)
theorem x5c : Clean e3 := of_decide_eq_true (p := (recsOf (newest e3).2.2.2).2.length > 0 → (e3.file (newest e3).1).length ≤ e3.safe (newest e3).1) (by kernel_rfl) |> fun a => ⟨a, of_decide_eq_true (p := (e3.file (1 - (newest e3).1)).length > 0 → (e3.file (1 - (newest e3).1)).length ≤ e3.safe (1 - (newest e3).1)) (by kernel_rfl)⟩
theorem x6 : e4.size 0 = 29 := by kernel_rfl
theorem x7 : lopen e4 = (0, (g5, [], [[97]]), e5) := Prod.ext (by kernel_rfl) (Prod.ext (Prod.ext rfl (by kernel_rfl)) rfl)
theorem x7c : Clean e4 := of_decide_eq_true (p := (recsOf (newest e4).2.2.2).2.length > 0 → (e4.file (newest e4).1).length ≤ e4.safe (newest e4).1) (by kernel_rfl) |> fun a => ⟨a, of_decide_eq_true (p := (e4.file (1 - (newest e4).1)).length > 0 → (e4.file (1 - (newest e4).1)).length ≤ e4.safe (1 - (newest e4).1)) (by kernel_rfl)⟩
theorem x8 : lchk e5 g5 [115] = (0, e6, g6) := Prod.ext (by kernel_rfl) rfl
theorem x8o : e5.file (1 - g5.file) = [] := by kernel_rfl
theorem x9 : e6.size 0 = 0 := by kernel_rfl
theorem x10 : e6.size 1 = 21 := by kernel_rfl
theorem x11 (r : Bs) (h : r.length > 65536) : lap e6 g6 r = (101, e6, g6) := by
  unfold lap
  rw [if_neg (show ¬ (g6.dead = true ∨ e6.gone = true) from of_decide_eq_true (by kernel_rfl)), if_pos h]
theorem x12 : (lopen e6).1 = 0 ∧ (lopen e6).2.1.2.1 = [115] ∧ (lopen e6).2.1.2.2 = [] := ⟨by kernel_rfl, by kernel_rfl, by kernel_rfl⟩
theorem x12c : Clean e6 := of_decide_eq_true (p := (recsOf (newest e6).2.2.2).2.length > 0 → (e6.file (newest e6).1).length ≤ e6.safe (newest e6).1) (by kernel_rfl) |> fun a => ⟨a, of_decide_eq_true (p := (e6.file (1 - (newest e6).1)).length > 0 → (e6.file (1 - (newest e6).1)).length ≤ e6.safe (1 - (newest e6).1)) (by kernel_rfl)⟩
theorem x13 : g6.dead = false := by kernel_rfl
set_option maxHeartbeats 16000000 in
theorem fixed_any (w : World) (hT : Tb w) : Calls Tryd.prog 10 #[] w fun e w' => e = .returned (.bool true) ∧ Below w.heap.size w w' := by
  have HT := Lib.hid hT
  have HZ : Hid (0 < w.heap.size) := Lib.hid hT.1
  have HL := Lib.hid (laid_any w hT)
  have hmk : ∀ W : World, (Instr.makeSlice 80 (.int .i64 65537) (.int .i64 65537)).run Tryd.prog W = .ok (.slice (some ⟨W.heap.size, 0, none⟩) 65537 65537) (W.alloc (.cells (Mz 65537) 5)) := fun W => make_zer 65537 (by decide) W
  have hcv : ∀ W : World, (convert 80 9 (.slice (some ⟨W.heap.size, 0, none⟩) 65537 65537)).run Tryd.prog (W.alloc (.cells (Mz 65537) 5)) = .ok (.string ⟨(zer 65537).toArray⟩) (W.alloc (.cells (Mz 65537) 5)) := conv_zer 65537
  generalize Mz 65537 = M0 at hmk hcv
  clear hT
  go_enter Tryd.func10, Tryd.ntmps10
  go_wp2_with fail
  refine HL.out.mono ?_
  rintro e wa ⟨p, b, rfl, hlo⟩
  have L1 := Lib.hid hlo
  clear hlo HL
  go_wp2_with fail
  have hc := lappend_any L1.out.lk L1.out.tb (by decide) [97]
  rw [x1] at hc
  refine hc.mono ?_
  rintro e wb ⟨rfl, p2, hm⟩
  have L2 := Lib.hid (L1.out.lm (Nat.le_refl _) hm)
  have HP2 : Hid (p2.b = p.b) := Lib.hid hm.2.1
  clear hm hc L1
  go_wp2_with fail
  refine (records35 b _ _ _ _ _ wb (Lib.hid L2.out.lk.blk)).mono ?_
  rintro e wc ⟨rfl, rfl⟩
  rw [x1n]
  go_wp2_with fail
  have hc := room_any L2.out.lk
  rw [x2] at hc
  refine hc.mono ?_
  rintro e wc ⟨rfl, hb⟩
  replace L2 := Lib.hid (L2.out.down (Nat.le_refl _) hb)
  clear hb hc
  go_wp2_with fail
  have hc := lsync_any L2.out.lk L2.out.tb
  rw [x3] at hc
  refine hc.mono ?_
  rintro e wd ⟨rfl, p3, hm⟩
  have L3 := Lib.hid (L2.out.lm (Nat.le_refl _) hm)
  have HP3 : Hid (p3.b = p.b) := Lib.hid (hm.2.1.trans HP2.out)
  clear hm hc L2 HP2
  go_wp2_with fail
  have hc := sum_any [49, 50, 51, 52, 53, 54, 55, 56, 57] (by decide) wd L3.out.tb
  rw [x4] at hc
  refine hc.mono ?_
  rintro e we ⟨rfl, rfl⟩
  clear hc
  go_wp2_with fail
  have hc := wopen_any L3.out.lk.dk L3.out.tb L3.out.lk.zo x5c
  rw [x5] at hc
  rw [show (Value.pointer (some ⟨p.b, 0, none⟩)) = p3.v by unfold Fp.v; rw [HP3.out]]
  refine hc.mono ?_
  rintro e we ⟨lv, rv, p4, rfl, hm, hrow, -, hok, -⟩
  obtain ⟨b4, rfl, -, -, -⟩ := hok rfl
  obtain ⟨gr, cr, rfl, hcell⟩ := orow_one hrow
  have HP4 : Hid (p4.b = p.b) := Lib.hid (hm.2.1.trans HP3.out)
  have D4 := Lib.hid (L3.out.dsk.mut (Nat.le_refl _) HZ.out hm)
  clear hm hc L3 hrow hok
  rw [show p3.v = Value.pointer (some ⟨p.b, 0, none⟩) by unfold Fp.v; rw [HP3.out]]
  clear HP3
  go_wp2_with fail
  have hc := size_any p4 e4 0 we D4.out.dk
  rw [x6] at hc
  rw [show (Value.pointer (some ⟨p.b, 0, none⟩)) = p4.v by unfold Fp.v; rw [HP4.out]]
  refine hc.mono ?_
  rintro e wf ⟨rfl, rfl⟩
  clear hc hcell
  go_wp2_with fail
  have hc := wopen_any D4.out.dk D4.out.tb (D4.out.zo HZ.out) x7c
  rw [x7] at hc
  refine hc.mono ?_
  rintro e wf ⟨lv, rv, p5, rfl, hm, -, -, hok, -⟩
  obtain ⟨b5, rfl, hb5, hlk5, -⟩ := hok rfl
  have D5 := D4.out.mut (Nat.le_refl _) HZ.out hm
  have L5 : Hid (LO w.heap.size w wf b5 p5 e5 g5) := Lib.hid ⟨hlk5, D5.bw, Nat.le_trans D4.out.bw.size hb5, D5.op, D5.tb⟩
  have HP5 : Hid (p5.b = p4.b) := Lib.hid hm.2.1
  clear hm hc D4 D5 hok hlk5 hb5
  go_wp2_with fail
  have hc := lchk_any L5.out.lk L5.out.tb x8o [115]
  rw [x8] at hc
  refine hc.mono ?_
  rintro e wg ⟨rfl, p6, hm⟩
  have L6 := Lib.hid (L5.out.lm (Nat.le_refl _) hm)
  have HP6 : Hid (p6.b = p4.b) := Lib.hid (hm.2.1.trans HP5.out)
  clear hm hc L5 HP5
  have hvv : p4.v = p6.v := by unfold Fp.v; rw [HP6.out]
  rw [hvv]
  clear hvv HP6 HP4
  go_wp2_with fail
  have hc := size_any p6 e6 0 wg L6.out.lk.dk
  rw [x9] at hc
  refine hc.mono ?_
  rintro e wh ⟨rfl, rfl⟩
  clear hc
  go_wp2_with fail
  have hc := size_any p6 e6 1 wg L6.out.lk.dk
  rw [x10] at hc
  refine hc.mono ?_
  rintro e wh ⟨rfl, rfl⟩
  clear hc
  go_wp2_with fail
  replace L6 := Lib.hid (L6.out.down (Nat.le_refl _) (show Below wg.heap.size wg (wg.alloc (.cells M0 5)) by go_grown))
  clear hmk hcv
  generalize wg.alloc (.cells M0 5) = wh at *
  have hc := lappend_any L6.out.lk L6.out.tb (by decide) (zer 65537)
  rw [x11 _ (by rw [zer_len]; decide)] at hc
  refine hc.mono ?_
  rintro e wi ⟨rfl, p7, hm⟩
  have L7 := Lib.hid (L6.out.lm (Nat.le_refl _) hm)
  have hvv : p6.v = p7.v := by unfold Fp.v; rw [hm.2.1]
  rw [hvv]
  clear hvv hm hc L6
  go_wp2_with fail
  refine (wopen_any L7.out.lk.dk L7.out.tb L7.out.lk.zo x12c).mono ?_
  rintro e wj ⟨lv, rv, p8, rfl, hm, hrow, -, -, -⟩
  obtain ⟨h1, h2, h3⟩ := x12
  rw [h3] at hrow
  rw [h1, h2]
  clear h1 h2 h3
  obtain ⟨ar, cr, rfl⟩ := orow_nil hrow
  have hblk : Bk 96 wj b5 #[p7.v, .int .i64 (g6.file : Int), .int .i64 (g6.gen : Int), .int .i64 (g6.n : Int), .bool g6.dead] := L7.out.lk.blk.only hm.2.2.1 L7.out.lk.ne
  have HK := Lib.hid hblk
  have D8 := Lib.hid (L7.out.dsk.mut (Nat.le_refl _) HZ.out hm)
  clear hblk hm hrow L7
  go_wp2_with fail
  refine (dead42 b5 _ _ _ _ _ wj HK).mono ?_
  rintro e wk ⟨rfl, rfl⟩
  rw [x13]
  go_wp2_with fail
  go_ret
  exact ⟨rfl, D8.out.bw⟩
structure Es (B : Nat) (w : World) (es : List (Nat × St)) (K : List Nat) : Prop where
  disk : ∀ (i r : Nat) (S : St), es[i]? = some (r, S) → r ∈ K ∧ B ≤ r ∧ ∃ uv kp, Rk w r S uv kp ∧ ∀ g, uv.ownBlock = some g → g ∈ K
  ne : ∀ (i j r : Nat) (S S' : St), es[i]? = some (r, S) → es[j]? = some (r, S') → i = j
theorem Es.kept {B : Nat} {w w' : World} {es : List (Nat × St)} {K : List Nat} (h : Es B w es K) (hk : Kept K w w') : Es B w' es K :=
  ⟨fun i r S hi => by
    obtain ⟨hr, hB, uv, kp, R, hu⟩ := h.disk i r S hi
    exact ⟨hr, hB, uv, kp, R.kept (hk r hr) (fun g e => hk g (hu g e)), hu⟩, h.ne⟩
def Gf (B : Nat) (w0 w : World) (ds es : List (Nat × St)) (L : List Nat) : Prop :=
  ∃ K, (∀ k ∈ L, k ∈ K ∧ ∀ (i r : Nat) (S : St), es[i]? = some (r, S) → r ≠ k) ∧ Cf B w0 w ds K ∧ Es B w es K
section
variable {B : Nat} {w0 w : World} {ds es : List (Nat × St)} {L : List Nat}
theorem Gf.real {ds' : List (Nat × St)} (h : Gf B w0 w ds es L) {f : FuncId} {args : Array Value} {R : Ending → Prop} (hc : ∀ K, Cf B w0 w ds K → Calls Tryd.prog f args w fun e w' => R e ∧ Cf B w0 w' ds' K ∧ Kept K w w') :
    Calls Tryd.prog f args w fun e w' => R e ∧ Gf B w0 w' ds' es L ∧ Kept L w w' := by
  obtain ⟨K, hL, hC, hE⟩ := h
  refine (hc K hC).mono fun e w' ⟨hR, hC', hk⟩ => ⟨hR, ⟨K, hL, hC', hE.kept hk⟩, fun k hkL => hk k (hL k hkL).1⟩
theorem Gf.down {w' : World} (h : Gf B w0 w ds es L) (hb : Below w.heap.size w w') : Gf B w0 w' ds es L := by
  obtain ⟨K, hL, hC, hE⟩ := h
  exact ⟨K, hL, hC.down hb, hE.kept fun k hk => hb.block k (hC.kept k hk)⟩
theorem Gf.prot {w' : World} (h : Gf B w0 w ds es L) (hb : Below w.heap.size w w') {g : Nat} (hg : w.heap.size ≤ g) (hg2 : g < w'.heap.size) : Gf B w0 w' ds es (g :: L) := by
  obtain ⟨K, hL, hC, hE⟩ := h
  refine ⟨g :: K, ?_, hC.prot hb hg hg2, ?_⟩
  · intro k hk
    rcases List.mem_cons.1 hk with rfl | hk
    · refine ⟨by simp, fun i r S hi e => ?_⟩
      have := hC.kept r (hE.disk i r S hi).1
      omega
    · exact ⟨List.mem_cons_of_mem _ (hL k hk).1, (hL k hk).2⟩
  · have := hE.kept fun k hk => hb.block k (hC.kept k hk)
    refine ⟨fun i r S hi => ?_, this.ne⟩
    obtain ⟨h1, h2, uv, kp, R, hu⟩ := this.disk i r S hi
    exact ⟨List.mem_cons_of_mem _ h1, h2, uv, kp, R, fun g e => List.mem_cons_of_mem _ (hu g e)⟩
theorem Gf.lt (h : Gf B w0 w ds es L) : ∀ k ∈ L, k < w.heap.size := by
  obtain ⟨K, hL, hC, hE⟩ := h
  exact fun k hk => hC.kept k (hL k hk).1
theorem Gf.below (h : Gf B w0 w ds es L) : Below B w0 w := by
  obtain ⟨K, hL, hC, hE⟩ := h
  exact hC.below
end
def rlc (r : Nat) (l : Wlg) : Array Value := #[.pointer (some ⟨r, 0, none⟩), .int .i64 (l.file : Int), .int .u64 (l.gen : Int), .int .i64 (l.n : Int), .bool l.dead]
theorem Rm.trans {w w1 w2 : World} {r : Nat} {uv : Value} {S1 S2 : St} (h : Rm w r uv w1 S1) (k : ∀ uv1 kp1, Rk w1 r S1 uv1 kp1 → Rm w1 r uv1 w2 S2) : Rm w r uv w2 S2 := by
  obtain ⟨uv1, kp1, h1, h2, h3⟩ := h
  obtain ⟨uv2, kp2, k1, k2, k3⟩ := k uv1 kp1 h1
  refine ⟨uv2, kp2, k1, h2.trans k2 (fun x hx => .inl hx), fun g e => ?_⟩
  rcases k3 g e with e | e
  · exact h3 g e
  · exact .inr (Nat.le_trans h2.size e)
theorem Rm.down {w w1 w2 : World} {r : Nat} {uv : Value} {S1 : St} (h : Rm w r uv w1 S1) (hb : Below w1.heap.size w1 w2) : Rm w r uv w2 S1 := by
  obtain ⟨uv1, kp1, h1, h2, h3⟩ := h
  exact ⟨uv1, kp1, h1.below hb, h2.trans (Only.of (L := []) hb) (fun x hx => by simp at hx), h3⟩
theorem Rm.up {w w1 w2 : World} {r : Nat} {uv : Value} {S1 : St} (hb : Below w.heap.size w w1) (h : Rm w1 r uv w2 S1) : Rm w r uv w2 S1 := by
  obtain ⟨uv1, kp1, h1, h2, h3⟩ := h
  exact ⟨uv1, kp1, h1, (Only.of (L := [r]) hb).trans h2 (fun x hx => .inl hx), fun g e => (h3 g e).imp id fun e => Nat.le_trans hb.size e⟩
theorem Rm.only {w w1 : World} {r : Nat} {uv : Value} {S1 : St} (h : Rm w r uv w1 S1) : Only [r] w w1 := by
  obtain ⟨uv1, kp1, h1, h2, h3⟩ := h
  exact h2
theorem Rm.lt {w w1 : World} {r : Nat} {uv : Value} {S1 : St} (h : Rm w r uv w1 S1) : r < w1.heap.size := by
  obtain ⟨uv1, kp1, h1, h2, h3⟩ := h
  exact h1.blk.lt
def RNes (w : World) (r : Nat) (uv : Value) (x : Nat × St) (e : Ending) (w' : World) : Prop := ∃ v, e = .returned (.tuple #[v, .int .i64 (x.1 : Int)]) ∧ Rm w r uv w' x.2 ∧ (x.1 = 0 → ∃ b, v = .pointer (some ⟨b, 0, none⟩) ∧ w.heap.size ≤ b ∧ Bk 102 w' b (rlc r ⟨0, 1, 0, false⟩)) ∧ (x.1 ≠ 0 → v = .pointer none)
set_option maxHeartbeats 8000000 in
theorem rnew_dead {w : World} {r : Nat} {S : St} {uv : Value} {kp : Int} (h : Rk w r S uv kp) (hg : S.gone = true) : Calls Tryd.prog 14 #[.pointer (some ⟨r, 0, none⟩)] w fun e w' => RNes w r uv (2, S) e w' := by
  have c5 : w.cell? ⟨r, 5, none⟩ = some (.bool S.gone) := h.blk.cell 5
  rw [hg] at c5
  have H := Lib.hid h
  clear h
  go_enter Tryd.func14, Tryd.ntmps14
  go_wp2_with fail
  go_returns
  exact ⟨_, rfl, Rm.same H.out (Below.refl _ _), (fun h => absurd h (by simp)), fun _ => rfl⟩
set_option maxHeartbeats 8000000 in
theorem rnew_form {w : World} {r : Nat} {S : St} {uv : Value} {kp : Int} (h : Rk w r S uv kp) (hg : S.gone = false) (hf : S.f0.length > 0 ∨ S.f1.length > 0) : Calls Tryd.prog 14 #[.pointer (some ⟨r, 0, none⟩)] w fun e w' => RNes w r uv (100, S) e w' := by
  have c5 : w.cell? ⟨r, 5, none⟩ = some (.bool S.gone) := h.blk.cell 5
  rw [hg] at c5
  have H := Lib.hid h
  have z0 := Lib.hid (size32 r S uv kp 0 w h)
  have z1 := Lib.hid (size32 r S uv kp 1 w h)
  rw [show S.size 0 = (S.f0.length : Int) from size_at S 0 (by omega)] at z0
  rw [show S.size 1 = (S.f1.length : Int) from size_at S 1 (by omega)] at z1
  clear h
  by_cases h0 : S.f0.length > 0
  · have hd : decide ((0 : Int) < (S.f0.length : Int)) = true := decide_eq_true (by omega)
    have hdn : decide (0 < S.f0.length) = true := decide_eq_true (by omega)
    clear h0 hf
    go_enter Tryd.func14, Tryd.ntmps14
    go_wp2_with fail
    refine z0.out.mono ?_
    rintro e w1 ⟨rfl, rfl⟩
    go_wp2_with fail
    go_returns
    exact ⟨_, rfl, Rm.same H.out (Below.refl _ _), (fun h => absurd h (by simp)), fun _ => rfl⟩
  · have hd : decide ((0 : Int) < (S.f0.length : Int)) = false := decide_eq_false (by omega)
    have hdn : decide (0 < S.f0.length) = false := decide_eq_false (by omega)
    have hd1 : decide ((0 : Int) < (S.f1.length : Int)) = true := decide_eq_true (by omega)
    have hd1n : decide (0 < S.f1.length) = true := decide_eq_true (by omega)
    clear h0 hf
    go_enter Tryd.func14, Tryd.ntmps14
    go_wp2_with fail
    refine z0.out.mono ?_
    rintro e w1 ⟨rfl, rfl⟩
    go_wp2_with fail
    refine z1.out.mono ?_
    rintro e w1 ⟨rfl, rfl⟩
    go_wp2_with fail
    go_returns
    exact ⟨_, rfl, Rm.same H.out (Below.refl _ _), (fun h => absurd h (by simp)), fun _ => rfl⟩
set_option maxHeartbeats 16000000 in
theorem rnew_lay {w : World} {r : Nat} {S : St} {uv : Value} {kp : Int} (h : Rk w r S uv kp) (hg : S.gone = false) (h0 : ¬ S.f0.length > 0) (h1 : ¬ S.f1.length > 0) : Calls Tryd.prog 14 #[.pointer (some ⟨r, 0, none⟩)] w fun e w' => RNes w r uv (lays S 0 1 []) e w' := by
  have c5 : w.cell? ⟨r, 5, none⟩ = some (.bool S.gone) := h.blk.cell 5
  rw [hg] at c5
  have H := Lib.hid h
  have z0 := Lib.hid (size32 r S uv kp 0 w h)
  have z1 := Lib.hid (size32 r S uv kp 1 w h)
  rw [show S.size 0 = (S.f0.length : Int) from size_at S 0 (by omega)] at z0
  rw [show S.size 1 = (S.f1.length : Int) from size_at S 1 (by omega)] at z1
  have hd : decide ((0 : Int) < (S.f0.length : Int)) = false := decide_eq_false (by omega)
  have hdn : decide (0 < S.f0.length) = false := decide_eq_false (by omega)
  have hd1 : decide ((0 : Int) < (S.f1.length : Int)) = false := decide_eq_false (by omega)
  have hd1n : decide (0 < S.f1.length) = false := decide_eq_false (by omega)
  have hb := Lib.hid (bytes_any 1 8 (by omega) (by omega) w)
  have hfr := Lib.hid (rframe_any [] (by simp))
  have e1 : (⟨#[83, 78, 76, 49]⟩ : ByteArray) ++ ⟨(be 8 1).toArray⟩ = ⟨(mark ++ be 8 1).toArray⟩ := ba_app mark _
  have e2 : (⟨(mark ++ be 8 1).toArray⟩ : ByteArray) ++ ⟨(frame []).toArray⟩ = ⟨(fileOf 1 []).toArray⟩ := ba_app _ _
  have l1 : (be 8 1).length = 8 := be_len _ _
  have l2 : (mark ++ be 8 1).length = 12 := by simp [mark, be_len]
  have l3 : (frame []).length = 8 := by rw [frame_len]; rfl
  have hfl : (fileOf 1 []).length = 20 := by rw [fileOf_len]; rfl
  have hlc := lays_code S 0 1 (by omega) [] (by rw [show S.file 0 = S.f0 from rfl]; simp; omega)
  have hA : Hid (∀ w1, Below w.heap.size w w1 → Calls Tryd.prog 46 #[.pointer (some ⟨r, 0, none⟩), .int .i64 0, .string ⟨(fileOf 1 []).toArray⟩] w1 fun e w' => e = .returned (.int .i64 ((S.append 0 (fileOf 1 [])).1 : Int)) ∧ Rm w r uv w' (S.append 0 (fileOf 1 [])).2) := Lib.hid fun w1 hb => by
    have := append33 r S uv kp 0 ⟨(fileOf 1 []).toArray⟩ (by rw [size_ba]; omega) w1 (H.out.below hb)
    simp only [List.toList_toArray] at this
    refine this.mono ?_
    rintro e w2 ⟨rfl, hm⟩
    exact ⟨rfl, Rm.up hb hm⟩
  have HLC := Lib.hid hlc
  unfold lays at HLC ⊢
  rw [show ((0 : Nat) : Int) = 0 from rfl] at HLC ⊢
  generalize fileOf 1 [] = fo at *
  generalize hr1 : S.append 0 fo = r1 at *
  obtain ⟨c1, S1⟩ := r1
  generalize hr2 : S1.sync = r2 at *
  obtain ⟨c2, S2⟩ := r2
  have hc1 : c1 = 0 ∨ c1 = 2 := by
    have := append_code S 0 fo (by omega) (by rw [show S.file 0 = S.f0 from rfl]; omega)
    rw [show ((0 : Nat) : Int) = 0 from rfl, hr1] at this
    exact this
  generalize mark ++ be 8 1 = x1 at *
  generalize frame [] = x2 at *
  generalize be 8 1 = x3 at *
  have HSY := Lib.hid hr2
  clear h h0 h1 hlc hr1 hr2
  rcases hc1 with rfl | rfl
  · rw [if_pos rfl] at HLC ⊢
    go_enter Tryd.func14, Tryd.ntmps14
    go_wp2_with fail
    refine z0.out.mono ?_
    rintro e w1 ⟨rfl, rfl⟩
    go_wp2_with fail
    refine z1.out.mono ?_
    rintro e w1 ⟨rfl, rfl⟩
    go_wp2_with fail
    refine hb.out.mono ?_
    rintro e w1 ⟨rfl, hb1⟩
    have HB1 := Lib.hid hb1; clear hb1
    go_wp2_with fail
    refine (hfr.out w1).mono ?_
    rintro e w2 ⟨rfl, hb2⟩
    have HB2 := Lib.hid (HB1.out.trans (hb2.mono HB1.out.size)); clear hb2
    go_wp2_with fail
    refine (hA.out w2 HB2.out).mono ?_
    rintro e w3 ⟨rfl, hm⟩
    have M3 := Lib.hid hm; clear hm
    go_wp2_with fail
    obtain ⟨uv3, kp3, k3, o3, n3⟩ := M3.out
    have hs := sync34 r S1 uv3 kp3 w3 k3
    rw [HSY.out] at hs
    refine hs.mono ?_
    rintro e w4 ⟨rfl, hm4⟩
    have M4 : Hid (Rm w r uv w4 S2) := Lib.hid (by
      obtain ⟨uv4, kp4, k4, o4, n4⟩ := hm4
      refine ⟨uv4, kp4, k4, o3.trans o4 (fun x hx => .inl hx), fun g e => ?_⟩
      rcases n4 g e with e | e
      · exact n3 g e
      · exact .inr (Nat.le_trans o3.size e))
    clear hm4 hs k3 o3 n3 M3
    rcases HLC.out with rfl | rfl
    · go_wp2_with fail
      go_returns
      refine ⟨_, rfl, M4.out.down (by go_grown), fun _ => ⟨w4.heap.size, rfl, by obtain ⟨uv4, kp4, k4, o4, n4⟩ := M4.out; exact o4.size, ?_⟩, fun h => absurd rfl h⟩
      exact Bk.new rfl
    · go_wp2_with fail
      go_returns
      exact ⟨_, rfl, M4.out, (fun h => absurd h (by simp)), fun _ => rfl⟩
  · rw [if_neg (by simp)] at HLC ⊢
    go_enter Tryd.func14, Tryd.ntmps14
    go_wp2_with fail
    refine z0.out.mono ?_
    rintro e w1 ⟨rfl, rfl⟩
    go_wp2_with fail
    refine z1.out.mono ?_
    rintro e w1 ⟨rfl, rfl⟩
    go_wp2_with fail
    refine hb.out.mono ?_
    rintro e w1 ⟨rfl, hb1⟩
    have HB1 := Lib.hid hb1; clear hb1
    go_wp2_with fail
    refine (hfr.out w1).mono ?_
    rintro e w2 ⟨rfl, hb2⟩
    have HB2 := Lib.hid (HB1.out.trans (hb2.mono HB1.out.size)); clear hb2
    go_wp2_with fail
    refine (hA.out w2 HB2.out).mono ?_
    rintro e w3 ⟨rfl, hm⟩
    have M3 := Lib.hid hm; clear hm
    go_wp2_with fail
    go_returns
    exact ⟨_, rfl, M3.out, (fun h => absurd h (by simp)), fun _ => rfl⟩
theorem wrnew_any {w : World} {r : Nat} {S : St} {uv : Value} {kp : Int} (h : Rk w r S uv kp) : Calls Tryd.prog 14 #[.pointer (some ⟨r, 0, none⟩)] w fun e w' => RNes w r uv (lnew S) e w' := by
  unfold lnew
  by_cases hg : S.gone = true
  · rw [if_pos hg]; exact rnew_dead h hg
  · have hg' : S.gone = false := by simpa using hg
    rw [if_neg hg]
    by_cases hf : S.f0.length > 0 ∨ S.f1.length > 0
    · rw [if_pos hf]; exact rnew_form h hg' hf
    · rw [if_neg hf]; exact rnew_lay h hg' (by omega) (by omega)
end Go.Proofs.YtmoihgniglomiaaDoor
