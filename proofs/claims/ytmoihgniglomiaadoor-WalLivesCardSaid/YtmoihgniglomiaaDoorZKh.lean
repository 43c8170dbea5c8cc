/- Rows of states; a state is among some; a state more. No condition but the rows'. -/
import Derived.Test.YtmoihgniglomiaaDoorZKg
set_option linter.unusedVariables false
set_option linter.unusedSimpArgs false
set_option maxRecDepth 100000
namespace Go.Proofs.YtmoihgniglomiaaDoor
open Go.RowKit Go.Sort

def stc : List Stt → List Value → List Value
  | s :: l, v :: r => .string ⟨s.1.toArray⟩ :: v :: stc l r
  | _, _ => []
theorem stc_len : ∀ (l : List Stt) (r : List Value), r.length = l.length → (stc l r).length = l.length * 2
  | [], _, _ => by simp [stc]
  | s :: l, v :: r, h => by
    have := stc_len l r (by simpa using h)
    simp only [stc, List.length_cons, this]
    omega
  | s :: l, [], h => by simp at h
theorem stc_app : ∀ (l : List Stt) (r : List Value) (m : List Stt) (q : List Value), r.length = l.length → stc (l ++ m) (r ++ q) = stc l r ++ stc m q
  | [], r, m, q, h => by
    obtain rfl : r = [] := List.eq_nil_of_length_eq_zero (by simpa using h)
    rfl
  | s :: l, v :: r, m, q, h => by simp only [List.cons_append, stc, stc_app l r m q (by simpa using h)]
  | s :: l, [], m, q, h => by simp at h
theorem stc_at : ∀ (l : List Stt) (r : List Value) (i : Nat) (s : Stt) (v : Value), r.length = l.length → l[i]? = some s → r[i]? = some v → (stc l r)[i * 2]? = some (.string ⟨s.1.toArray⟩) ∧ (stc l r)[i * 2 + 1]? = some v
  | [], _, i, s, v, _, h, _ => by simp at h
  | s0 :: l, v0 :: r, 0, s, v, _, h, h' => by
    simp at h h'
    subst h h'
    exact ⟨rfl, rfl⟩
  | s0 :: l, v0 :: r, i + 1, s, v, hl, h, h' => by
    have := stc_at l r i s v (by simpa using hl) (by simpa using h) (by simpa using h')
    rw [show (i + 1) * 2 = i * 2 + 1 + 1 by omega]
    exact this
  | s0 :: l, [], _, _, _, hl, _, _ => by simp at hl
theorem info67 : (Tryd.prog.info? 67).map (fun i => (i.zero, i.size, i.bytes)) = some (some (.agg #[.string ⟨#[]⟩, .slice none 0 0]), 2, 40) := by kernel_rfl
/-- a row of states -/
def SS (w : World) (v : Value) (ss : List Stt) : Prop := ∃ rvs : List Value, rvs.length = ss.length ∧ w.ownsRow 0 67 2 v ss.length (stc ss rvs) ∧ ∀ (i : Nat) (s : Stt), ss[i]? = some s → ∃ rv, rvs[i]? = some rv ∧ RowS w rv s.2
theorem SS.shape {w : World} {v : Value} {ss : List Stt} (h : SS w v ss) : ∃ a c, v = .slice a ss.length c := by
  obtain ⟨_, _, ⟨_, ⟨rfl, hn⟩ | ⟨q, cap, cur, rfl, _⟩⟩, _⟩ := h
  · exact ⟨none, 0, by rw [hn]⟩
  · exact ⟨_, _, rfl⟩
theorem SS.lt {w : World} {v : Value} {ss : List Stt} (h : SS w v ss) : ∀ g, v.ownBlock = some g → g < w.heap.size := fun g e => by
  obtain ⟨_, _, h, _⟩ := h
  exact (World.ownsRow.lt h g e).2
theorem owns2_of {w w' : World} {v : Value} {n : Nat} {xs : List Value} (h : w.ownsRow 0 67 2 v n xs) (e : ∀ g, v.ownBlock = some g → g < w.heap.size → w'.heap[g]? = w.heap[g]?) : w'.ownsRow 0 67 2 v n xs := by
  obtain ⟨hl, h | ⟨g, cap, cur, hv, hb, hg, rest⟩⟩ := h
  · exact ⟨hl, .inl h⟩
  · exact ⟨hl, .inr ⟨g, cap, cur, hv, hb, (e g (by rw [hv]; rfl) (blk_lt hg)).trans hg, rest⟩⟩
theorem SS.below {w w' : World} {v : Value} {ss : List Stt} (h : SS w v ss) (hb : Below w.heap.size w w') : SS w' v ss := by
  obtain ⟨rvs, h1, h2, h3⟩ := h
  exact ⟨rvs, h1, owns2_of h2 fun g _ hg => hb.block g hg, fun i s hi => by
    obtain ⟨rv, e, r⟩ := h3 i s hi
    exact ⟨rv, e, r.below hb⟩⟩
/-- where a state lies -/
theorem SS.at {w : World} {v : Value} {ss : List Stt} (h : SS w v ss) {i : Nat} {s : Stt} (hi : ss[i]? = some s) : ∃ g c rv, v = .slice (some ⟨g, 0, none⟩) ss.length c ∧ w.cell? ⟨g, i * 2, none⟩ = some (.string ⟨s.1.toArray⟩) ∧ w.cell? ⟨g, i * 2 + 1, none⟩ = some rv ∧ RowS w rv s.2 := by
  obtain ⟨rvs, h1, h2, h3⟩ := h
  have hil : i < ss.length := (List.getElem?_eq_some_iff.1 hi).1
  obtain ⟨g, c, rfl⟩ := owns_slice h2 (fun e => by
    obtain ⟨_, ⟨_, hn⟩ | ⟨q, cap, cur, hv, _⟩⟩ := h2
    · omega
    · rw [e] at hv; cases hv)
  obtain ⟨rv, e, r⟩ := h3 i s hi
  obtain ⟨c0, c1⟩ := stc_at ss rvs i s rv h1 hi e
  have d0 := World.ownsRow.cells h2 (g := g) rfl _ _ c0
  have d1 := World.ownsRow.cells h2 (g := g) rfl _ _ c1
  rw [at0] at d0 d1
  exact ⟨g, c, rv, rfl, d0, d1, r⟩
theorem index70 (g c n i : Nat) (h : i < n) (w : World) : (Instr.indexAt 70 (.slice (some ⟨g, 0, none⟩) n c) (.int .i64 (i : Int))).run Tryd.prog w = .ok (.pointer (some ⟨g, i * 2, none⟩)) w := by
  go_simp
set_option maxHeartbeats 16000000 in
theorem among_any (s : Stt) (rv v : Value) (ss : List Stt) (w : World) (h : RowS w rv s.2) (hs : SS w v ss) (hl : s.2.length ≤ 4194304) (hn : ss.length ≤ 4000000000000) (hin : s ∈ ss) :
    Calls Tryd.prog 36 #[stv s rv, v] w fun e w' => e = .returned (.bool true) ∧ Below w.heap.size w w' := by
  obtain ⟨n, hnn⟩ : ∃ n, n = ss.length := ⟨_, rfl⟩
  obtain ⟨va, vc, hv⟩ := hs.shape
  rw [← hnn] at hv
  have hbl : Below w.heap.size w (w.alloc (.cells #[.string ⟨s.1.toArray⟩, rv] 67)) := by go_grown
  have HR := Lib.hid (h.below hbl)
  have HS := Lib.hid (hs.below hbl)
  have HB := Lib.hid hbl
  have HN := Lib.hid hnn
  have HIN := Lib.hid hin
  have HL := Lib.hid hl
  have HLT := Lib.hid h.lt
  have K0 : Hid (Bk 67 (w.alloc (.cells #[.string ⟨s.1.toArray⟩, rv] 67)) w.heap.size #[.string ⟨s.1.toArray⟩, rv]) := Lib.hid (Bk.new rfl)
  have HV := Lib.hid hv
  have hlen : n ≤ 4000000000000 := by omega
  obtain ⟨ra, rc, hrv⟩ := h.shape
  obtain ⟨rn, hrn⟩ : ∃ rn, rn = s.2.length := ⟨_, rfl⟩
  rw [← hrn] at hrv
  unfold stv
  clear h hs hbl hnn hin hl hn hrn
  subst hrv hv
  obtain ⟨ts, hts⟩ : ∃ t : ByteArray, t = ⟨s.1.toArray⟩ := ⟨_, rfl⟩
  have HTS := Lib.hid hts
  rw [← hts] at HR HS HB K0 ⊢
  clear hts
  go_enter Tryd.func36, Tryd.ntmps36
  go_wp2_with fail
  generalize (w.alloc (.cells #[.string ts, .slice ra rn rc] 67)) = w1 at HR HS HB K0 ⊢
  go_loopw [5, 6] (fun iv ov wr => ∃ i : Nat, i ≤ n ∧ iv = .int .i64 (i : Int) ∧ Hid (Below w1.heap.size w1 wr) ∧ Hid (∀ j, j < i → ss[j]? ≠ some s)) (fun iv _ _ => n - (intOf iv).toNat)
  case atStart => exact ⟨0, Nat.zero_le _, rfl, Lib.hid (Below.refl _ _), Lib.hid fun j h => by omega⟩
  case round =>
    obtain ⟨i, hi, rfl, HB1, HE⟩ := hrel
    by_cases hlt : i < n
    · have hil : i < ss.length := by rw [← HN.out]; exact hlt
      obtain ⟨s', hs'⟩ : ∃ s', ss[i]? = some s' := ⟨_, List.getElem?_eq_getElem hil⟩
      obtain ⟨g, c, rv', hv', c0, c1, hr'⟩ := (HS.out.below HB1.out).at hs'
      obtain ⟨rfl, -, rfl⟩ : va = some ⟨g, 0, none⟩ ∧ True ∧ vc = c := by
        rw [← HN.out] at hv'
        cases hv'
        exact ⟨rfl, trivial, rfl⟩
      have hix := index70 g vc n i hlt
      have k0 := (K0.out.below HB1.out).cell 0
      have k1 := (K0.out.below HB1.out).cell 1
      simp only [List.getElem?_toArray, List.getElem?_cons_succ, List.getElem?_cons_zero] at k0 k1
      have HC : Hid (∀ d, Calls Tryd.prog 70 #[.agg #[.string ts, .slice ra rn rc], .agg #[.string ⟨s'.1.toArray⟩, rv']] (wr.drewN d) fun e w' => e = .returned (.bool (decide (s = s'))) ∧ Below (wr.drewN d).heap.size (wr.drewN d) w') := Lib.hid fun d => by
        have hd : Below wr.heap.size wr (wr.drewN d) := below_drewN (Below.refl _ _) d
        have := sameState_any s s' (.slice ra rn rc) rv' (wr.drewN d) ((HR.out.below HB1.out).below hd) (hr'.below hd) HL.out
        unfold stv at this
        rwa [← HTS.out] at this
      obtain ⟨ra', rc', hrv'⟩ := hr'.shape
      obtain ⟨rn', hrn'⟩ : ∃ rn, rn = s'.2.length := ⟨_, rfl⟩
      rw [← hrn'] at hrv'
      have HS' := Lib.hid hs'
      clear hr' hv' hrn' hs'
      subst hrv'
      obtain ⟨D, hD⟩ : ∃ D, D = decide (s = s') := ⟨_, rfl⟩
      rw [← hD] at HC
      have HD := Lib.hid hD
      clear hD
      generalize (⟨s'.1.toArray⟩ : ByteArray) = ts' at c0 HC
      go_wp2_with fail
      go_still_tail 5, (by kernel_rfl)
      go_wp2_with fail
      refine (HC.out 1).mono ?_
      rintro e w2 ⟨rfl, hb⟩
      have HB2 : Hid (Below w1.heap.size w1 w2) := Lib.hid (HB1.out.trans (((below_drewN (Below.refl _ _) 1).trans hb).mono HB1.out.size))
      clear hb HC c0 c1 k0 k1 hix
      cases D with
      | true =>
        clear HE HB1
        go_wp2_with fail
        go_ret
        exact ⟨rfl, HB.out.trans (HB2.out.mono HB.out.size)⟩
      | false =>
        have HE2 : Hid (∀ j, j < i + 1 → ss[j]? ≠ some s) := Lib.hid fun j hj e => by
          by_cases h : j < i
          · exact HE.out j h e
          · have : j = i := by omega
            subst this
            rw [HS'.out] at e
            cases e
            have := HD.out
            simp at this
        clear HE HB1
        go_wp2_with fail
        go_roundw
        case rel => exact ⟨i + 1, by omega, by go_num, HB2, HE2⟩
        case measure => simp [intOf]; omega
    · have hin : i = n := by omega
      subst hin
      exfalso
      obtain ⟨j, hj, e⟩ := List.mem_iff_getElem.1 HIN.out
      exact HE.out j (by rw [HN.out]; exact hj) (by rw [List.getElem?_eq_getElem hj, e])
/-- a state more -/
theorem SS.more {W : World} {v rv : Value} {ss : List Stt} {s : Stt} (ty : TypeId) (h : SS W v ss) (q c : Nat) (hq : Bk 67 W q #[.string ⟨s.1.toArray⟩, rv]) (hr : RowS W rv s.2) (hl : ss.length + 1 ≤ 3500000000000) :
    ∃ v' w', (Builtin.append_ #[70, 70] ty #[v, .slice (some ⟨q, 0, none⟩) 1 c]).run Tryd.prog W = .ok v' w' ∧ SS w' v' (ss ++ [s]) ∧ W.grownBy w' v.ownBlock ∧ (v'.ownBlock = v.ownBlock ∨ ∀ k, v'.ownBlock = some k → W.heap.size ≤ k) := by
  obtain ⟨i0, hi, hz0, hz1, hz2⟩ := info_parts info67
  obtain ⟨rvs, h1, h2, h3⟩ := h
  have hone : rv.oneCell' = true := by
    obtain ⟨a, c, rfl⟩ := hr.shape
    rfl
  obtain ⟨v', w', hrun, ho, hgr, hv, _⟩ := app_own W 70 ty 67 i0 (.agg #[.string ⟨#[]⟩, .slice none 0 0]) 2 40 Tryd.underlying70 hi hz0 hz1 hz2 rfl (by decide) v ss.length (stc ss rvs) h2 ⟨q, 0, none⟩ 1 c (stc [s] [rv]) rfl (by
    intro j u hu
    rw [at0, hq.cell]
    match j with
    | 0 => simpa [stc] using hu
    | 1 => simpa [stc] using hu
    | j + 2 => simp [stc] at hu) (by
    intro u hu
    simp only [stc, List.mem_cons, List.not_mem_nil, or_false] at hu
    rcases hu with rfl | rfl
    · rfl
    · exact hone) (by unfold maxLen; omega) (by omega)
  have hfar : ∀ (r : Value) (l : List Bs), RowS W r l → RowS w' r l := fun r l hrow => hrow.kept fun g e => by
    refine grown_far hgr (hrow.lt g e) (fun e2 => ?_)
    obtain ⟨_, ⟨hv, _⟩ | ⟨g1, cap, cur, hv, _, hg1, _⟩⟩ := hrow
    · rw [hv] at e; cases e
    · rw [hv] at e
      simp only [Value.ownBlock, Option.some.injEq] at e
      obtain ⟨_, ⟨hv2, _⟩ | ⟨g2, cap2, cur2, hv2, _, hg2, _⟩⟩ := h2
      · rw [hv2] at e2; cases e2
      · rw [hv2] at e2
        simp only [Value.ownBlock, Option.some.injEq] at e2
        subst e e2
        have h2 := hg1.symm.trans hg2
        simp at h2
  refine ⟨v', w', hrun, ⟨rvs ++ [rv], by simp [h1], by rw [List.length_append, stc_app _ _ _ _ h1]; exact ho, fun i s' hi => ?_⟩, hgr, hv⟩
  by_cases hil : i < ss.length
  · rw [List.getElem?_append_left hil] at hi
    obtain ⟨r, e, hr'⟩ := h3 i s' hi
    exact ⟨r, by rw [List.getElem?_append_left (by omega)]; exact e, hfar _ _ hr'⟩
  · rw [List.getElem?_append_right (by omega)] at hi
    have h0 : i - ss.length = 0 := by
      have := (List.getElem?_eq_some_iff.1 hi).1
      simp at this; omega
    rw [h0] at hi
    simp at hi
    subst hi
    exact ⟨rv, by rw [List.getElem?_append_right (by omega), h1, h0]; rfl, hfar _ _ hr⟩
theorem SS.one {w : World} {g : Nat} {rv : Value} {s : Stt} (h : Bk 67 w g #[.string ⟨s.1.toArray⟩, rv]) (hr : RowS w rv s.2) : SS w (.slice (some ⟨g, 0, none⟩) 1 1) [s] :=
  ⟨[rv], rfl, ⟨rfl, .inr ⟨g, 1, _, rfl, Nat.zero_le _, h, Nat.le_refl _, by unfold maxLen; omega, rfl, rfl⟩⟩, fun i s' hi => by
    match i with
    | 0 => simp at hi; subst hi; exact ⟨rv, rfl, hr⟩
    | i + 1 => simp at hi⟩
end Go.Proofs.YtmoihgniglomiaaDoor
