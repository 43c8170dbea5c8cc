/- Many disks side by side, the program's and the document's: a call on one leaves the others. No condition but the disks' own. -/
import Derived.Test.YtmoihgniglomiaaDoorZBg
import Derived.Test.YtmoihgniglomiaaDoorZV
set_option linter.unusedVariables false
set_option linter.unusedSimpArgs false
set_option maxRecDepth 100000
namespace Go.Proofs.YtmoihgniglomiaaDoor
open Go.RowKit Go.Sort

/-- the document's disks: where each lies, its state -/
structure Es (B : Nat) (w : World) (es : List (Nat × St)) (K : List Nat) : Prop where
  disk : ∀ (i r : Nat) (S : St), es[i]? = some (r, S) → r ∈ K ∧ B ≤ r ∧ ∃ uv kp, Rk w r S uv kp ∧ ∀ g, uv.ownBlock = some g → g ∈ K
  ne : ∀ (i j r : Nat) (S S' : St), es[i]? = some (r, S) → es[j]? = some (r, S') → i = j
theorem Es.kept {B : Nat} {w w' : World} {es : List (Nat × St)} {K : List Nat} (h : Es B w es K) (hk : Kept K w w') : Es B w' es K :=
  ⟨fun i r S hi => by
    obtain ⟨hr, hB, uv, kp, R, hu⟩ := h.disk i r S hi
    exact ⟨hr, hB, uv, kp, R.kept (hk r hr) (fun g e => hk g (hu g e)), hu⟩, h.ne⟩
theorem Cf.refs {B : Nat} {w0 w w' : World} {ds : List (Nat × St)} {K M : List Nat} {r : Nat} (h : Cf B w0 w ds K) (hr : r ∈ K) (hB : B ≤ r) (ho : Only [r] w w') (hM : ∀ g ∈ M, w.heap.size ≤ g ∧ g < w'.heap.size) : Cf B w0 w' ds (M ++ K) := by
  obtain ⟨ps, hl, hd, hk, hj⟩ := h.disks
  have hlt : ∀ (j : Nat) (q : Fp), ps[j]? = some q → ∀ k ∈ q.own, k < w.heap.size := by
    intro j q hq
    have hjl : j < ds.length := by have := (List.getElem?_eq_some_iff.1 hq).1; omega
    exact (hd j q _ _ hq (List.getElem?_eq_getElem hjl)).2.lt
  refine ⟨h.low, h.below.trans (ho.below (Nat.le_trans h.low h.below.size) (by simpa using hB)), ?_, ps, hl, ?_, ?_, hj⟩
  · intro k hkk
    rcases List.mem_append.1 hkk with e | e
    · exact (hM k e).2
    · exact Nat.lt_of_lt_of_le (h.kept k e) ho.size
  · intro i p b S hp hS
    obtain ⟨e1, e2⟩ := hd i p b S hp hS
    refine ⟨e1, e2.only ho (fun k hkk hin => ?_)⟩
    simp only [List.mem_singleton] at hin
    subst hin
    exact (hk i p hp k hkk).2 hr
  · intro i p hp k hkk
    refine ⟨(hk i p hp k hkk).1, fun hin => ?_⟩
    rcases List.mem_append.1 hin with e | e
    · have := (hM k e).1
      have := hlt i p hp k hkk
      omega
    · exact (hk i p hp k hkk).2 e

/-- both kinds of disks, and blocks L that no call on them turns -/
def Gf (B : Nat) (w0 w : World) (ds es : List (Nat × St)) (L : List Nat) : Prop :=
  ∃ K, (∀ k ∈ L, k ∈ K ∧ ∀ (i r : Nat) (S : St), es[i]? = some (r, S) → r ≠ k) ∧ Cf B w0 w ds K ∧ Es B w es K
section
variable {B : Nat} {w0 w : World} {ds es : List (Nat × St)} {L : List Nat}
theorem Gf.real {ds' : List (Nat × St)} (h : Gf B w0 w ds es L) {f : FuncId} {args : Array Value} {R : Ending → Prop} (hc : ∀ K, Cf B w0 w ds K → Calls Tryd.prog f args w fun e w' => R e ∧ Cf B w0 w' ds' K ∧ Kept K w w') :
    Calls Tryd.prog f args w fun e w' => R e ∧ Gf B w0 w' ds' es L ∧ Kept L w w' := by
  obtain ⟨K, hL, hC, hE⟩ := h
  refine (hc K hC).mono fun e w' ⟨hR, hC', hk⟩ => ⟨hR, ⟨K, hL, hC', hE.kept hk⟩, fun k hkL => hk k (hL k hkL).1⟩
theorem Gf.refc (h : Gf B w0 w ds es L) {i r : Nat} {S S' : St} (hi : es[i]? = some (r, S)) {f : FuncId} {args : Array Value} {R : Ending → Prop} (hc : ∀ uv kp, Rk w r S uv kp → Calls Tryd.prog f args w fun e w' => R e ∧ Rm w r uv w' S') :
    Calls Tryd.prog f args w fun e w' => R e ∧ Gf B w0 w' ds (es.set i (r, S')) L ∧ Kept L w w' := by
  obtain ⟨K, hL, hC, hE⟩ := h
  obtain ⟨hr, hB, uv, kp, R0, hu⟩ := hE.disk i r S hi
  have hil : i < es.length := (List.getElem?_eq_some_iff.1 hi).1
  refine (hc uv kp R0).mono ?_
  rintro e w' ⟨hR, uv', kp', R', ho, hu'⟩
  have hko : ∀ k ∈ K, k ≠ r → w'.heap[k]? = w.heap[k]? := fun k hk hne => ho.block k (hC.kept k hk) (by simpa using hne)
  refine ⟨hR, ⟨uv'.ownBlock.toList.filter (fun g => decide (w.heap.size ≤ g)) ++ K, ?_, hC.refs hr hB ho ?_, ?_, ?_⟩, ?_⟩
  · intro k hk
    refine ⟨List.mem_append.2 (.inr (hL k hk).1), fun j q T hj => ?_⟩
    by_cases hji : j = i
    · subst hji
      rw [List.getElem?_set_self hil] at hj
      cases hj
      exact (hL k hk).2 _ r S hi
    · rw [List.getElem?_set_ne (fun e => hji e.symm)] at hj
      exact (hL k hk).2 j q T hj
  · intro g hg
    rw [List.mem_filter] at hg
    obtain ⟨h1, h2⟩ := hg
    exact ⟨by simpa using h2, R'.ult g (by simpa using h1)⟩
  · intro j q T hj
    by_cases hji : j = i
    · subst hji
      rw [List.getElem?_set_self hil] at hj
      cases hj
      refine ⟨List.mem_append.2 (.inr hr), hB, uv', kp', R', fun g e => ?_⟩
      rcases hu' g e with e1 | e1
      · exact List.mem_append.2 (.inr (hu g e1))
      · exact List.mem_append.2 (.inl (List.mem_filter.2 ⟨by simp [e], by simpa using e1⟩))
    · rw [List.getElem?_set_ne (fun e => hji e.symm)] at hj
      obtain ⟨hq, hBq, uq, kq, Rq, huq⟩ := hE.disk j q T hj
      have hqr : q ≠ r := fun e => hji (hE.ne j i r T S (e ▸ hj) hi)
      refine ⟨List.mem_append.2 (.inr hq), hBq, uq, kq, Rq.kept (hko q hq hqr) (fun g e => hko g (huq g e) (Rq.ne R0.blk g e)), fun g e => List.mem_append.2 (.inr (huq g e))⟩
  · intro j1 j2 q T1 T2 h1 h2
    by_cases e1 : j1 = i
    · subst e1
      rw [List.getElem?_set_self hil] at h1
      cases h1
      by_cases e2 : j2 = j1
      · exact e2.symm
      · rw [List.getElem?_set_ne (fun e => e2 e.symm)] at h2
        exact hE.ne j1 j2 r S T2 hi h2
    · rw [List.getElem?_set_ne (fun e => e1 e.symm)] at h1
      by_cases e2 : j2 = i
      · subst e2
        rw [List.getElem?_set_self hil] at h2
        cases h2
        exact hE.ne j1 j2 r T1 S h1 hi
      · rw [List.getElem?_set_ne (fun e => e2 e.symm)] at h2
        exact hE.ne j1 j2 q T1 T2 h1 h2
  · intro k hk
    exact hko k (hL k hk).1 (fun e => (hL k hk).2 i r S hi e.symm)
theorem Gf.down {w' : World} (h : Gf B w0 w ds es L) (hb : Below w.heap.size w w') : Gf B w0 w' ds es L := by
  obtain ⟨K, hL, hC, hE⟩ := h
  exact ⟨K, hL, hC.down hb, hE.kept fun k hk => hb.block k (hC.kept k hk)⟩
theorem Gf.prot {w' : World} (h : Gf B w0 w ds es L) (hb : Below w.heap.size w w') {g : Nat} (hg : w.heap.size ≤ g) (hg2 : g < w'.heap.size) : Gf B w0 w' ds es (g :: L) := by
  obtain ⟨K, hL, hC, hE⟩ := h
  refine ⟨g :: K, ?_, hC.prot hb hg hg2, ?_⟩
  · intro k hk
    rcases List.mem_cons.1 hk with rfl | hk
    · refine ⟨by simp, fun i r S hi e => ?_⟩
      have := hC.kept r (hE.disk i r S hi).1
      omega
    · exact ⟨List.mem_cons_of_mem _ (hL k hk).1, (hL k hk).2⟩
  · have := hE.kept fun k hk => hb.block k (hC.kept k hk)
    refine ⟨fun i r S hi => ?_, this.ne⟩
    obtain ⟨h1, h2, uv, kp, R, hu⟩ := this.disk i r S hi
    exact ⟨List.mem_cons_of_mem _ h1, h2, uv, kp, R, fun g e => List.mem_cons_of_mem _ (hu g e)⟩
theorem Gf.less {M : List Nat} (h : Gf B w0 w ds es L) (hM : ∀ k ∈ M, k ∈ L) : Gf B w0 w ds es M := by
  obtain ⟨K, hL, hC, hE⟩ := h
  exact ⟨K, fun k hk => hL k (hM k hk), hC, hE⟩
theorem Gf.cf (h : Gf B w0 w ds es L) : ∃ K, Cf B w0 w ds K := by
  obtain ⟨K, hL, hC, hE⟩ := h
  exact ⟨K, hC⟩
theorem Gf.rk (h : Gf B w0 w ds es L) {i r : Nat} {S : St} (hi : es[i]? = some (r, S)) : ∃ uv kp, Rk w r S uv kp := by
  obtain ⟨K, hL, hC, hE⟩ := h
  obtain ⟨_, _, uv, kp, R, _⟩ := hE.disk i r S hi
  exact ⟨uv, kp, R⟩
theorem Gf.lt (h : Gf B w0 w ds es L) : ∀ k ∈ L, k < w.heap.size := by
  obtain ⟨K, hL, hC, hE⟩ := h
  exact fun k hk => hC.kept k (hL k hk).1
theorem Gf.below (h : Gf B w0 w ds es L) : Below B w0 w := by
  obtain ⟨K, hL, hC, hE⟩ := h
  exact hC.below
theorem Gf.clone (h : Gf B w0 w ds es L) {i b : Nat} {S : St} (hi : ds[i]? = some (b, S)) :
    Calls Tryd.prog 16 #[.pointer (some ⟨b, 0, none⟩)] w fun e w' => ∃ c : Nat, e = .returned (.pointer (some ⟨c, 0, none⟩)) ∧ Gf B w0 w' (ds ++ [(c, S)]) es L ∧ Below w.heap.size w w' := by
  obtain ⟨K, hL, hC, hE⟩ := h
  refine (C_clone hC hi).mono ?_
  rintro e w' ⟨c, he, hC', hb⟩
  exact ⟨c, he, ⟨K, hL, hC', hE.kept fun k hk => hb.block k (hC.kept k hk)⟩, hb⟩
theorem Gf.copy (h : Gf B w0 w ds es L) {i r : Nat} {S : St} (hi : es[i]? = some (r, S)) :
    Calls Tryd.prog 17 #[.pointer (some ⟨r, 0, none⟩)] w fun e w' => ∃ c : Nat, e = .returned (.pointer (some ⟨c, 0, none⟩)) ∧ Gf B w0 w' ds (es ++ [(c, S)]) L ∧ Below w.heap.size w w' := by
  obtain ⟨K, hL, hC, hE⟩ := h
  obtain ⟨hr, hB, uv, kp, R0, hu⟩ := hE.disk i r S hi
  refine (copy12 r S uv kp w R0).mono ?_
  rintro e w' ⟨rfl, R', hb, hlt⟩
  have hE' := hE.kept (w' := w') fun k hk => hb.block k (hC.kept k hk)
  have hnew : ∀ (j q : Nat) (T : St), es[j]? = some (q, T) → q < w.heap.size := fun j q T hj => hC.kept q (hE.disk j q T hj).1
  have hsplit : ∀ (j q : Nat) (T : St), (es ++ [(w.heap.size, S)])[j]? = some (q, T) → (es[j]? = some (q, T) ∧ j < es.length) ∨ (j = es.length ∧ q = w.heap.size ∧ T = S) := by
    intro j q T hj
    by_cases hjl : j < es.length
    · rw [List.getElem?_append_left hjl] at hj
      exact .inl ⟨hj, hjl⟩
    · rw [List.getElem?_append_right (by omega)] at hj
      have h0 : j - es.length = 0 := by
        have := (List.getElem?_eq_some_iff.1 hj).1
        simp at this; omega
      rw [h0] at hj
      simp only [List.getElem?_cons_zero, Option.some.injEq, Prod.mk.injEq] at hj
      exact .inr ⟨by omega, hj.1.symm, hj.2.symm⟩
  refine ⟨_, rfl, ⟨w.heap.size :: K, ?_, hC.prot hb (Nat.le_refl _) hlt, ?_, ?_⟩, hb⟩
  · intro k hk
    refine ⟨List.mem_cons_of_mem _ (hL k hk).1, fun j q T hj => ?_⟩
    rcases hsplit j q T hj with ⟨h1, _⟩ | ⟨_, rfl, _⟩
    · exact (hL k hk).2 j q T h1
    · have := hC.kept k (hL k hk).1
      omega
  · intro j q T hj
    rcases hsplit j q T hj with ⟨h1, _⟩ | ⟨_, rfl, rfl⟩
    · obtain ⟨a1, a2, uq, kq, Rq, huq⟩ := hE'.disk j q T h1
      exact ⟨List.mem_cons_of_mem _ a1, a2, uq, kq, Rq, fun g e => List.mem_cons_of_mem _ (huq g e)⟩
    · exact ⟨by simp, Nat.le_trans hC.low hC.below.size, uv, kp, R', fun g e => List.mem_cons_of_mem _ (hu g e)⟩
  · intro j1 j2 q T1 T2 h1 h2
    rcases hsplit j1 q T1 h1 with ⟨a1, l1⟩ | ⟨b1, c1, d1⟩ <;> rcases hsplit j2 q T2 h2 with ⟨a2, l2⟩ | ⟨b2, c2, d2⟩
    · exact hE.ne j1 j2 q T1 T2 a1 a2
    · have := hnew j1 q T1 a1; omega
    · have := hnew j2 q T2 a2; omega
    · omega
end
end Go.Proofs.YtmoihgniglomiaaDoor
