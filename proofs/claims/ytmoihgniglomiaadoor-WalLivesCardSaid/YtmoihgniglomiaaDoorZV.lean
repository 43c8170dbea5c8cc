/- Many disks side by side: a call on one of them leaves the others, and what is kept, as they were. No condition but the disks' own. -/
import Derived.Test.YtmoihgniglomiaaDoorZU
set_option linter.unusedVariables false
set_option linter.unusedSimpArgs false
set_option maxRecDepth 100000
namespace Go.Proofs.YtmoihgniglomiaaDoor
open Go.RowKit Go.Sort

def Kept (K : List Nat) (w w' : World) : Prop := ∀ k ∈ K, w'.heap[k]? = w.heap[k]?
structure Cf (B : Nat) (w0 w : World) (ds : List (Nat × St)) (K : List Nat) : Prop where
  low : B ≤ w0.heap.size
  below : Below B w0 w
  kept : ∀ k ∈ K, k < w.heap.size
  disks : ∃ ps : List Fp, ps.length = ds.length ∧ (∀ (i : Nat) (p : Fp) (b : Nat) (S : St), ps[i]? = some p → ds[i]? = some (b, S) → p.b = b ∧ Dk w p S) ∧ (∀ (i : Nat) (p : Fp), ps[i]? = some p → ∀ k ∈ p.own, B ≤ k ∧ k ∉ K) ∧ (∀ (i j : Nat) (p q : Fp), i ≠ j → ps[i]? = some p → ps[j]? = some q → ∀ k ∈ p.own, k ∉ q.own)
theorem Cf.down {B : Nat} {w0 w w' : World} {ds : List (Nat × St)} {K : List Nat} (h : Cf B w0 w ds K) (hb : Below w.heap.size w w') : Cf B w0 w' ds K := by
  obtain ⟨ps, hl, hd, hk, hj⟩ := h.disks
  exact ⟨h.low, h.below.trans (hb.mono (Nat.le_trans h.low h.below.size)), fun k hk => Nat.lt_of_lt_of_le (h.kept k hk) hb.size, ps, hl, fun i p b S hp hS => ⟨(hd i p b S hp hS).1, (hd i p b S hp hS).2.below hb⟩, hk, hj⟩
theorem Cf.one {B : Nat} {w0 w : World} {p : Fp} {S : St} (h : Own B w0 w p S) (hB : B ≤ w0.heap.size) : Cf B w0 w [(p.b, S)] [] := by
  refine ⟨hB, h.2.1, by simp, [p], rfl, ?_, ?_, ?_⟩
  · intro i q b S' hq hS
    match i with
    | 0 =>
      simp only [List.getElem?_cons_zero, Option.some.injEq, Prod.mk.injEq] at hq hS
      obtain ⟨rfl, rfl⟩ := hS
      subst hq
      exact ⟨rfl, h.1⟩
    | i + 1 => simp at hq
  · intro i q hq
    match i with
    | 0 =>
      simp only [List.getElem?_cons_zero, Option.some.injEq] at hq
      subst hq
      exact fun k hk => ⟨h.2.2 k hk, by simp⟩
    | i + 1 => simp at hq
  · intro i j p q hij hp hq
    match i, j with
    | 0, 0 => exact absurd rfl hij
    | 0, j + 1 => simp at hq
    | i + 1, _ => simp at hp
theorem Cf.at {B : Nat} {w0 w : World} {ds : List (Nat × St)} {K : List Nat} (h : Cf B w0 w ds K) {i b : Nat} {S : St} (hi : ds[i]? = some (b, S)) :
    ∃ p : Fp, p.b = b ∧ Dk w p S ∧ ∀ w' p' S', Mut w p w' p' S' → Cf B w0 w' (ds.set i (b, S')) K ∧ Kept K w w' := by
  obtain ⟨ps, hl, hd, hk, hj⟩ := h.disks
  have hil : i < ds.length := (List.getElem?_eq_some_iff.1 hi).1
  obtain ⟨p, hp⟩ : ∃ p, ps[i]? = some p := ⟨ps[i]'(by omega), List.getElem?_eq_getElem (by omega)⟩
  obtain ⟨hpb, hdk⟩ := hd i p b S hp hi
  refine ⟨p, hpb, hdk, fun w' p' S' hm => ?_⟩
  have hkeep : Kept K w w' := fun k hkk => hm.2.2.1.block k (h.kept k hkk) (fun hin => (hk i p hp k hin).2 hkk)
  have hbl : Below B w w' := hm.2.2.1.below (Nat.le_trans h.low h.below.size) (fun k hkk => (hk i p hp k hkk).1)
  have hown : ∀ k ∈ p'.own, B ≤ k ∧ k ∉ K := by
    intro k hkk
    rcases hm.2.2.2 k hkk with e | e
    · exact hk i p hp k e
    · exact ⟨Nat.le_trans (Nat.le_trans h.low h.below.size) e, fun hK => by have := h.kept k hK; omega⟩
  have hot : ∀ (j : Nat) (q : Fp), j ≠ i → ps[j]? = some q → (∀ k ∈ q.own, k < w.heap.size) → (∀ k ∈ p'.own, k ∉ q.own) := by
    intro j q hji hq hlt k hkk
    rcases hm.2.2.2 k hkk with e | e
    · exact hj i j p q (fun e => hji e.symm) hp hq k e
    · exact fun hin => by have := hlt k hin; omega
  refine ⟨⟨h.low, h.below.trans hbl, fun k hkk => Nat.lt_of_lt_of_le (h.kept k hkk) hm.2.2.1.size, ps.set i p', by simp [hl], ?_, ?_, ?_⟩, hkeep⟩
  · intro j q c S2 hq hS
    by_cases hji : j = i
    · subst hji
      rw [List.getElem?_set_self (by omega)] at hq hS
      simp only [Option.some.injEq, Prod.mk.injEq] at hq hS
      obtain ⟨rfl, rfl⟩ := hS
      subst hq
      exact ⟨hm.2.1.trans hpb, hm.1⟩
    · rw [List.getElem?_set_ne (fun e => hji e.symm)] at hq hS
      obtain ⟨e1, e2⟩ := hd j q c S2 hq hS
      exact ⟨e1, e2.only hm.2.2.1 (fun k hkk => hj j i q p hji hq hp k hkk)⟩
  · intro j q hq
    by_cases hji : j = i
    · subst hji
      rw [List.getElem?_set_self (by omega)] at hq
      cases hq
      exact hown
    · rw [List.getElem?_set_ne (fun e => hji e.symm)] at hq
      exact hk j q hq
  · intro j1 j2 q1 q2 hne h1 h2
    have hlt : ∀ (j : Nat) (q : Fp), ps[j]? = some q → ∀ k ∈ q.own, k < w.heap.size := by
      intro j q hq
      have hjl : j < ds.length := by have := (List.getElem?_eq_some_iff.1 hq).1; omega
      exact (hd j q _ _ hq (List.getElem?_eq_getElem hjl)).2.lt
    by_cases e1 : j1 = i
    · subst e1
      rw [List.getElem?_set_self (by omega)] at h1
      cases h1
      rw [List.getElem?_set_ne hne] at h2
      exact hot j2 q2 (fun e => hne e.symm) h2 (hlt j2 q2 h2)
    · rw [List.getElem?_set_ne (fun e => e1 e.symm)] at h1
      by_cases e2 : j2 = i
      · subst e2
        rw [List.getElem?_set_self (by omega)] at h2
        cases h2
        exact fun k hkk hin => hot j1 q1 e1 h1 (hlt j1 q1 h1) k hin hkk
      · rw [List.getElem?_set_ne (fun e => e2 e.symm)] at h2
        exact hj j1 j2 q1 q2 hne h1 h2
theorem Cf.add {B : Nat} {w0 w w' : World} {ds : List (Nat × St)} {K : List Nat} (h : Cf B w0 w ds K) (hb : Below w.heap.size w w') {p : Fp} {S : St} (hd : Dk w' p S) (hk : ∀ k ∈ p.own, w.heap.size ≤ k) : Cf B w0 w' (ds ++ [(p.b, S)]) K := by
  have h' := h.down hb
  obtain ⟨ps, hl, hd', hk', hj'⟩ := h'.disks
  obtain ⟨ps0, hl0, hd0, hk0, hj0⟩ := h.disks
  clear h'
  have hlt0 : ∀ (j : Nat) (q : Fp), ps0[j]? = some q → ∀ k ∈ q.own, k < w.heap.size := by
    intro j q hq
    have hjl : j < ds.length := by have := (List.getElem?_eq_some_iff.1 hq).1; omega
    exact (hd0 j q _ _ hq (List.getElem?_eq_getElem hjl)).2.lt
  refine ⟨h.low, h.below.trans (hb.mono (Nat.le_trans h.low h.below.size)), fun k hkk => Nat.lt_of_lt_of_le (h.kept k hkk) hb.size, ps0 ++ [p], by simp [hl0], ?_, ?_, ?_⟩
  · intro i q b S2 hq hS
    by_cases hi : i < ps0.length
    · rw [List.getElem?_append_left hi] at hq
      rw [List.getElem?_append_left (by omega)] at hS
      exact ⟨(hd0 i q b S2 hq hS).1, (hd0 i q b S2 hq hS).2.below hb⟩
    · rw [List.getElem?_append_right (by omega)] at hq
      rw [List.getElem?_append_right (by omega)] at hS
      have hi0 : i - ps0.length = 0 := by
        have := (List.getElem?_eq_some_iff.1 hq).1
        simp at this; omega
      rw [hi0] at hq
      rw [show i - ds.length = 0 by omega] at hS
      simp only [List.getElem?_cons_zero, Option.some.injEq, Prod.mk.injEq] at hq hS
      obtain ⟨rfl, rfl⟩ := hS
      subst hq
      exact ⟨rfl, hd⟩
  · intro i q hq
    by_cases hi : i < ps0.length
    · rw [List.getElem?_append_left hi] at hq
      exact hk0 i q hq
    · rw [List.getElem?_append_right (by omega)] at hq
      have hq' : q = p := by
        have := List.mem_of_getElem? hq
        simpa using this
      subst hq'
      intro k hkk
      have := hk k hkk
      exact ⟨Nat.le_trans (Nat.le_trans h.low h.below.size) this, fun hK => by have := h.kept k hK; omega⟩
  · intro i j q1 q2 hne h1 h2
    by_cases hi : i < ps0.length
    · rw [List.getElem?_append_left hi] at h1
      by_cases hj : j < ps0.length
      · rw [List.getElem?_append_left hj] at h2
        exact hj0 i j q1 q2 hne h1 h2
      · rw [List.getElem?_append_right (by omega)] at h2
        have hq' : q2 = p := by
          have := List.mem_of_getElem? h2
          simpa using this
        subst hq'
        intro k hkk hin
        have := hlt0 i q1 h1 k hkk
        have := hk k hin
        omega
    · rw [List.getElem?_append_right (by omega)] at h1
      have hq' : q1 = p := by
        have := List.mem_of_getElem? h1
        simpa using this
      subst hq'
      have hi2 : i = ps0.length := by
        have := (List.getElem?_eq_some_iff.1 h1).1
        simp at this; omega
      by_cases hj : j < ps0.length
      · rw [List.getElem?_append_left hj] at h2
        intro k hkk hin
        have := hlt0 j q2 h2 k hin
        have := hk k hkk
        omega
      · rw [List.getElem?_append_right (by omega)] at h2
        have hj2 : j = ps0.length := by
          have := (List.getElem?_eq_some_iff.1 h2).1
          simp at this; omega
        omega
theorem Cf.prot {B : Nat} {w0 w w' : World} {ds : List (Nat × St)} {K : List Nat} (h : Cf B w0 w ds K) (hb : Below w.heap.size w w') {g : Nat} (hg : w.heap.size ≤ g) (hg2 : g < w'.heap.size) : Cf B w0 w' ds (g :: K) := by
  obtain ⟨ps0, hl0, hd0, hk0, hj0⟩ := h.disks
  have hlt0 : ∀ (j : Nat) (q : Fp), ps0[j]? = some q → ∀ k ∈ q.own, k < w.heap.size := by
    intro j q hq
    have hjl : j < ds.length := by have := (List.getElem?_eq_some_iff.1 hq).1; omega
    exact (hd0 j q _ _ hq (List.getElem?_eq_getElem hjl)).2.lt
  refine ⟨h.low, h.below.trans (hb.mono (Nat.le_trans h.low h.below.size)), ?_, ps0, hl0, fun i q b S hq hS => ⟨(hd0 i q b S hq hS).1, (hd0 i q b S hq hS).2.below hb⟩, ?_, hj0⟩
  · intro k hk
    rcases List.mem_cons.1 hk with rfl | hk
    · exact hg2
    · exact Nat.lt_of_lt_of_le (h.kept k hk) hb.size
  · intro i q hq k hkk
    refine ⟨(hk0 i q hq k hkk).1, ?_⟩
    intro hK
    rcases List.mem_cons.1 hK with rfl | hK
    · have := hlt0 i q hq _ hkk; omega
    · exact (hk0 i q hq k hkk).2 hK
theorem Two.kept {B : Nat} {w w' : World} {v : Value} {a b : List UInt8} (h : Two B w v a b) {K : List Nat} (hk : Kept K w w') (hv : ∀ g, v.ownBlock = some g → g ∈ K) : Two B w' v a b := by
  obtain ⟨g, rfl, hB, k⟩ := h
  exact ⟨g, rfl, hB, (hk g (hv g rfl)).trans k⟩

section
variable {B : Nat} {w0 w : World} {ds : List (Nat × St)} {K : List Nat} {i b : Nat} {S : St}
theorem C_append (h : Cf B w0 w ds K) (hi : ds[i]? = some (b, S)) (f : Int) (s : ByteArray) (hsz : s.size ≤ 140737488355328) :
    Calls Tryd.prog 75 #[.pointer (some ⟨b, 0, none⟩), .int .i64 f, .string s] w fun e w' => e = .returned (.int .i64 ((S.append f s.data.toList).1 : Int)) ∧ Cf B w0 w' (ds.set i (b, (S.append f s.data.toList).2)) K ∧ Kept K w w' := by
  obtain ⟨p, rfl, hd, hm⟩ := h.at hi
  exact (append_any p S f s hsz w hd).mono fun e w' ⟨he, p', h'⟩ => ⟨he, hm _ _ _ h'⟩
theorem C_sync (h : Cf B w0 w ds K) (hi : ds[i]? = some (b, S)) :
    Calls Tryd.prog 80 #[.pointer (some ⟨b, 0, none⟩)] w fun e w' => e = .returned (.int .i64 ((S.sync).1 : Int)) ∧ Cf B w0 w' (ds.set i (b, (S.sync).2)) K ∧ Kept K w w' := by
  obtain ⟨p, rfl, hd, hm⟩ := h.at hi
  exact (sync_any p S w hd).mono fun e w' ⟨he, p', h'⟩ => ⟨he, hm _ _ _ h'⟩
theorem C_cut (h : Cf B w0 w ds K) (hi : ds[i]? = some (b, S)) (f n : Int) :
    Calls Tryd.prog 78 #[.pointer (some ⟨b, 0, none⟩), .int .i64 f, .int .i64 n] w fun e w' => e = .returned (.int .i64 ((S.cut f n).1 : Int)) ∧ Cf B w0 w' (ds.set i (b, (S.cut f n).2)) K ∧ Kept K w w' := by
  obtain ⟨p, rfl, hd, hm⟩ := h.at hi
  exact (cut_any p S f n w hd).mono fun e w' ⟨he, p', h'⟩ => ⟨he, hm _ _ _ h'⟩
theorem C_crash (h : Cf B w0 w ds K) (hi : ds[i]? = some (b, S)) (k : Int) (hk : k ≤ 9223372036854775807) :
    Calls Tryd.prog 33 #[.pointer (some ⟨b, 0, none⟩), .int .i64 k] w fun e w' => e = .returned (.int .i64 ((S.crash k).1 : Int)) ∧ Cf B w0 w' (ds.set i (b, (S.crash k).2)) K ∧ Kept K w w' := by
  obtain ⟨p, rfl, hd, hm⟩ := h.at hi
  exact (crash_any p S k hk w hd).mono fun e w' ⟨he, p', h'⟩ => ⟨he, hm _ _ _ h'⟩
theorem C_arm (h : Cf B w0 w ds K) (hi : ds[i]? = some (b, S)) (n k : Int) (hn : n ≤ 9223372036854775807) (hk : k ≤ 9223372036854775807) :
    Calls Tryd.prog 22 #[.pointer (some ⟨b, 0, none⟩), .int .i64 n, .int .i64 k] w fun e w' => e = .returned (.int .i64 ((S.arm n k).1 : Int)) ∧ Cf B w0 w' (ds.set i (b, (S.arm n k).2)) K ∧ Kept K w w' := by
  obtain ⟨p, rfl, hd, hm⟩ := h.at hi
  exact (arm_any p S n k hn hk w hd).mono fun e w' ⟨he, h', ho⟩ => ⟨he, hm _ p _ ⟨h', rfl, ho.mono (by simp [Fp.own]), fun k h => .inl h⟩⟩
theorem C_revive (h : Cf B w0 w ds K) (hi : ds[i]? = some (b, S)) :
    Calls Tryd.prog 29 #[.pointer (some ⟨b, 0, none⟩)] w fun e w' => e = .returned (.tuple #[]) ∧ Cf B w0 w' (ds.set i (b, S.revive)) K ∧ Kept K w w' := by
  obtain ⟨p, rfl, hd, hm⟩ := h.at hi
  exact (revive_any p S w hd).mono fun e w' ⟨he, h', ho⟩ => ⟨he, hm _ p _ ⟨h', rfl, ho.mono (by simp [Fp.own]), fun k h => .inl h⟩⟩
theorem C_read (h : Cf B w0 w ds K) (hi : ds[i]? = some (b, S)) (f : Int) :
    Calls Tryd.prog 93 #[.pointer (some ⟨b, 0, none⟩), .int .i64 f] w fun e w' => e = .returned (.tuple #[.string ⟨(S.read f).1.toArray⟩, .int .i64 ((S.read f).2 : Int)]) ∧ Below w.heap.size w w' := by
  obtain ⟨p, rfl, hd, hm⟩ := h.at hi
  exact read_any p S f w hd
theorem C_size (h : Cf B w0 w ds K) (hi : ds[i]? = some (b, S)) (f : Int) :
    Calls Tryd.prog 41 #[.pointer (some ⟨b, 0, none⟩), .int .i64 f] w fun e w' => e = .returned (.int .i64 (S.size f)) ∧ w = w' := by
  obtain ⟨p, rfl, hd, hm⟩ := h.at hi
  exact size_any p S f w hd
theorem C_dead (h : Cf B w0 w ds K) (hi : ds[i]? = some (b, S)) :
    Calls Tryd.prog 28 #[.pointer (some ⟨b, 0, none⟩)] w fun e w' => e = .returned (.bool S.gone) ∧ w = w' := by
  obtain ⟨p, rfl, hd, hm⟩ := h.at hi
  exact dead_any p S w hd
theorem C_waiting (h : Cf B w0 w ds K) (hi : ds[i]? = some (b, S)) :
    Calls Tryd.prog 57 #[.pointer (some ⟨b, 0, none⟩)] w fun e w' => e = .returned (.int .i64 (S.waiting : Int)) ∧ Below w.heap.size w w' := by
  obtain ⟨p, rfl, hd, hm⟩ := h.at hi
  exact waiting_any p S w hd
theorem C_after (h : Cf B w0 w ds K) (hi : ds[i]? = some (b, S)) (k : Int) (hk : k ≤ 9223372036854775807) :
    Calls Tryd.prog 61 #[.pointer (some ⟨b, 0, none⟩), .int .i64 k] w fun e w' => (∃ v, e = .returned v ∧ Two w.heap.size w' v (S.after k).1 (S.after k).2) ∧ Below w.heap.size w w' := by
  obtain ⟨p, rfl, hd, hm⟩ := h.at hi
  exact after_any p S k hk w hd
theorem C_files (h : Cf B w0 w ds K) (hi : ds[i]? = some (b, S)) :
    Calls Tryd.prog 26 #[.pointer (some ⟨b, 0, none⟩)] w fun e w' => (∃ v, e = .returned v ∧ Two w.heap.size w' v S.f0 S.f1) ∧ Below w.heap.size w w' := by
  obtain ⟨p, rfl, hd, hm⟩ := h.at hi
  exact files_any p S w hd
theorem C_clone (h : Cf B w0 w ds K) (hi : ds[i]? = some (b, S)) :
    Calls Tryd.prog 16 #[.pointer (some ⟨b, 0, none⟩)] w fun e w' => ∃ c : Nat, e = .returned (.pointer (some ⟨c, 0, none⟩)) ∧ Cf B w0 w' (ds ++ [(c, S)]) K ∧ Below w.heap.size w w' := by
  obtain ⟨p, rfl, hd, hm⟩ := h.at hi
  exact (clone_any p S w hd).mono fun e w' ⟨p', he, h', hb, hk⟩ => ⟨p'.b, he, h.add hb h' hk, hb⟩
theorem Cf.wf (h : Cf B w0 w ds K) (hi : ds[i]? = some (b, S)) : S.Wf := by
  obtain ⟨p, rfl, hd, hm⟩ := h.at hi
  exact hd.wf
end
end Go.Proofs.YtmoihgniglomiaaDoor
