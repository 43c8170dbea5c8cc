/- A state behind a call; rows of states; a state is among some. No condition but the rows'. -/
import Derived.Laws.OwnMore
import Derived.Test.YtmoihgniglomiaaDoorZKe
import Derived.Test.YtmoihgniglomiaaDoorZKf
set_option linter.unusedVariables false
set_option linter.unusedSimpArgs false
set_option maxRecDepth 100000
namespace Go.Proofs.YtmoihgniglomiaaDoor
open Go.RowKit Go.Sort

theorem RowS.empty {w : World} {g : Nat} (h : Bk 9 w g #[]) : RowS w (.slice (some ⟨g, 0, none⟩) 0 0) [] :=
  ⟨rfl, .inr ⟨g, 0, _, rfl, Nat.zero_le _, h, Nat.le_refl _, by unfold maxLen; omega, rfl, rfl⟩⟩
theorem RowS.cells {w : World} {v : Value} {l : List Bs} (h : RowS w v l) : ∃ a c, v = .slice a l.length c ∧ (l = [] ∧ a = none ∧ c = 0 ∨ ∃ g, a = some ⟨g, 0, none⟩ ∧ ∀ j u, (scells l)[j]? = some u → w.cell? (Addr.add ⟨g, 0, none⟩ j) = some u) := by
  have h' := h
  obtain ⟨_, ⟨rfl, hn⟩ | ⟨g, cap, cur, rfl, _⟩⟩ := h'
  · exact ⟨none, 0, by rw [hn], .inl ⟨List.eq_nil_of_length_eq_zero hn, rfl, rfl⟩⟩
  · refine ⟨_, _, rfl, .inr ⟨g, rfl, fun j u hu => ?_⟩⟩
    exact World.ownsRow.cells h (g := g) rfl j u hu
/-- a row of texts behind another one -/
theorem RowS.app {W : World} {v rv : Value} {l rs : List Bs} (ty : TypeId) (h : RowS W v l) (hr : RowS W rv rs) (hl : l.length + rs.length ≤ 4194304) :
    ∃ v' w', (Builtin.append_ #[31, 31] ty #[v, rv]).run Tryd.prog W = .ok v' w' ∧ RowS w' v' (l ++ rs) ∧ W.grownBy w' v.ownBlock ∧ (v'.ownBlock = v.ownBlock ∨ ∀ k, v'.ownBlock = some k → W.heap.size ≤ k) := by
  obtain ⟨i0, hi, hz0, hz1, hz2⟩ := info_parts info9
  obtain ⟨a, c, rfl, ⟨rfl, rfl, rfl⟩ | ⟨g, rfl, hc⟩⟩ := hr.cells
  · refine ⟨v, W, run_append_owned_none W 0 31 ty 9 i0 1 u31 hi v l.length (scells l) h, by rw [List.append_nil]; exact h, ⟨rfl, rfl, rfl, Nat.le_refl _, fun _ _ _ => rfl⟩, .inl rfl⟩
  · obtain ⟨v', w', hrun, ho, hgr, hv, _⟩ := app_own W 31 ty 9 i0 (.string ⟨#[]⟩) 1 16 u31 hi hz0 hz1 hz2 rfl (by decide) v l.length (scells l) h ⟨g, 0, none⟩ rs.length c (scells rs) (by rw [scells_len, Nat.mul_one]) hc (scells_one _) (by unfold maxLen; omega) (by omega)
    exact ⟨v', w', hrun, by unfold RowS; rw [List.length_append, scells_app]; exact ho, hgr, hv⟩
theorem RowS.one {w : World} {g : Nat} {s : Bs} (h : Bk 9 w g #[.string ⟨s.toArray⟩]) : RowS w (.slice (some ⟨g, 0, none⟩) 1 1) [s] :=
  ⟨rfl, .inr ⟨g, 1, _, rfl, Nat.zero_le _, h, Nat.le_refl _, by unfold maxLen; omega, rfl, rfl⟩⟩
/-- what is known within the drawn region of 'next' -/
def NP (w : World) (rs : List Bs) (os : Bs) (j2 j5 j8 j9 : Bool) (y2 y5 y8 y9 : Value) (w' : World) : Prop :=
  Below w.heap.size w w' ∧
  (j2 = true → j5 = false → RowS w' y2 [] ∧ ∀ g, y2.ownBlock = some g → w.heap.size ≤ g) ∧
  (j5 = true → j9 = false → RowS w' y5 rs ∧ ∀ g, y5.ownBlock = some g → w.heap.size ≤ g) ∧
  (j9 = true → RowS w' y9 (rs ++ [os]) ∧ ∀ g, y9.ownBlock = some g → w.heap.size ≤ g) ∧
  (j8 = true → j9 = false → RowS w' y8 [os] ∧ (∀ g, y8.ownBlock = some g → w.heap.size ≤ g) ∧ (j2 = true → j5 = false → ∀ g, y8.ownBlock = some g → y2.ownBlock ≠ some g) ∧ (j5 = true → ∀ g, y8.ownBlock = some g → y5.ownBlock ≠ some g))
theorem grown_far {w w' : World} {o : Option Nat} (h : w.grownBy w' o) {g : Nat} (hg : g < w.heap.size) (hne : o ≠ some g) : w'.heap[g]? = w.heap[g]? := h.block g hg (fun e => hne e.symm)
theorem below_grown {B : Nat} {w0 w w' : World} {o : Option Nat} (hb : Below B w0 w) (hB : B ≤ w.heap.size) (h : w.grownBy w' o) (ho : ∀ g, o = some g → B ≤ g) : Below B w0 w' := hb.grown h hB ho
theorem ret_ct67 {fn : Func} {R : Ending → World → Prop} {a : Act} {w : World} {p u : Tmp} (h : fn.results = #[.cell p 67, .tmp u]) (g : Nat) (v x y : Value) (hv : a.tmps.getD u undef = v) (hp : a.tmps.getD p undef = .pointer (some ⟨g, 0, none⟩)) (hk : Bk 67 w g #[x, y]) (hd : a.defers = []) (hR : R (.returned (.tuple #[.agg #[x, y], v])) w) : bodyPost Tryd.prog fn R .ret a w := by
  subst hv
  refine bodyPost_ret (v := .tuple #[.agg #[x, y], a.tmps.getD u undef]) ?_ hd hR
  have hp' : a.tmps[p]?.getD undef = .pointer (some ⟨g, 0, none⟩) := by simpa using hp
  have c0 := hk.cell 0
  have c1 := hk.cell 1
  simp only [List.getElem?_toArray, List.getElem?_cons_succ, List.getElem?_cons_zero] at c0 c1
  simp [results, h, hp', asAddr, go_sem, c0, c1]
theorem Bk.put2 {t : TypeId} {w : World} {g : Nat} {a b x y : Value} (h : Bk t w g #[a, b]) : Bk t ((w.setCell ⟨g, 0, none⟩ x).setCell ⟨g, 1, none⟩ y) g #[x, y] := by
  have := Bk.same (i := 1) (v := y) (Bk.same (i := 0) (v := x) h)
  simpa using this
set_option maxHeartbeats 16000000 in
theorem next_app (s : Stt) (rv : Value) (on oa ob : Int) (os : Bs) (w : World) (h : RowS w rv s.2) (hl : s.2.length + 1 ≤ 4194304) :
    Calls Tryd.prog 63 #[stv s rv, .agg #[.int .i64 on, .int .i64 0, .int .i64 oa, .int .i64 ob, .string ⟨os.toArray⟩]] w fun e w' => ∃ rv', e = .returned (.tuple #[stv (s.1, s.2 ++ [os]) rv', .bool false]) ∧ RowS w' rv' (s.2 ++ [os]) ∧ Below w.heap.size w w' ∧ ∀ g, rv'.ownBlock = some g → w.heap.size ≤ g := by
  obtain ⟨a, rs⟩ := s
  have h' := h
  obtain ⟨ra, rc, hrv, -⟩ := h'.cells
  obtain ⟨n, hn⟩ : ∃ n, n = rs.length := ⟨_, rfl⟩
  have HR := Lib.hid h
  have HRV := Lib.hid hrv
  have HL := Lib.hid hl
  simp only at HR HL hrv
  unfold stv
  rw [← hn] at hrv
  clear h h' hn
  subst hrv
  simp only
  generalize hts : (⟨os.toArray⟩ : ByteArray) = ts
  have HTS := Lib.hid hts
  clear hts hl HRV
  go_enter Tryd.func63, Tryd.ntmps63
  go_wp2_with fail
  have HB : Hid (Below w.heap.size w (((w.alloc (.cells #[.string ⟨a.toArray⟩, .slice ra n rc] 67)).alloc (.cells #[.int .i64 on, .int .i64 0, .int .i64 oa, .int .i64 ob, .string ts] 46)).alloc (.cells #[.string ⟨#[]⟩, .slice none 0 0] 67))) := Lib.hid (by go_grown)
  have K0 : Hid (Bk 67 (((w.alloc (.cells #[.string ⟨a.toArray⟩, .slice ra n rc] 67)).alloc (.cells #[.int .i64 on, .int .i64 0, .int .i64 oa, .int .i64 ob, .string ts] 46)).alloc (.cells #[.string ⟨#[]⟩, .slice none 0 0] 67)) w.heap.size #[.string ⟨a.toArray⟩, .slice ra n rc]) := Lib.hid (Bk.alloc (Bk.alloc (Bk.new rfl)))
  have K1 : Hid (Bk 46 (((w.alloc (.cells #[.string ⟨a.toArray⟩, .slice ra n rc] 67)).alloc (.cells #[.int .i64 on, .int .i64 0, .int .i64 oa, .int .i64 ob, .string ts] 46)).alloc (.cells #[.string ⟨#[]⟩, .slice none 0 0] 67)) (w.heap.size + 1) #[.int .i64 on, .int .i64 0, .int .i64 oa, .int .i64 ob, .string ts]) := Lib.hid (Bk.alloc (Bk.new (by simp)))
  have K2 : Hid (Bk 67 (((w.alloc (.cells #[.string ⟨a.toArray⟩, .slice ra n rc] 67)).alloc (.cells #[.int .i64 on, .int .i64 0, .int .i64 oa, .int .i64 ob, .string ts] 46)).alloc (.cells #[.string ⟨#[]⟩, .slice none 0 0] 67)) (w.heap.size + 1 + 1) #[.string ⟨#[]⟩, .slice none 0 0]) := Lib.hid (Bk.new (by simp))
  generalize (((w.alloc (.cells #[.string ⟨a.toArray⟩, .slice ra n rc] 67)).alloc (.cells #[.int .i64 on, .int .i64 0, .int .i64 oa, .int .i64 ob, .string ts] 46)).alloc (.cells #[.string ⟨#[]⟩, .slice none 0 0] 67)) = w1 at HB K0 K1 K2 ⊢
  have hB0 : Below w1.heap.size w1 w1.drew := ⟨rfl, rfl, rfl, Nat.le_refl _, fun _ _ => rfl⟩
  refine rN (NP w1 rs os) w.heap.size (w.heap.size + 1) ⟨a.toArray⟩ ts (.slice ra n rc) w1 ?la ?lb ?lc ?c2 ?c5 ?c8 ?c9 ?sh ?w0 ?h
  case la => exact fun _ _ _ _ _ _ _ _ w' hp => (K0.out.below hp.1).cell 0
  case lb => exact fun _ _ _ _ _ _ _ _ w' hp => (K0.out.below hp.1).cell 1
  case lc => exact fun _ _ _ _ _ _ _ _ w' hp => (K1.out.below hp.1).cell 4
  case w0 => exact ⟨hB0, (fun h => by cases h), (fun h => by cases h), (fun h => by cases h), (fun h => by cases h)⟩
  case sh =>
    intro _ _ _ _ _ _ y9 w' hp
    obtain ⟨a, c, e⟩ := (hp.2.2.2.1 rfl).1.shape
    exact ⟨a, _, c, e⟩
  case c2 =>
    rintro b8 y2 y5 y8 y9 w' ⟨p1, p2, p3, p4, p5⟩
    have hs := p1.size
    have hb : Below w'.heap.size w' (w'.alloc (.cells #[] 9)) := by go_grown
    refine ⟨p1.trans (hb.mono hs), fun _ _ => ⟨RowS.empty (Bk.new rfl), fun g e => ?_⟩, (fun h => by cases h), (fun h => by cases h), fun h8 h9 => ?_⟩
    · simp only [Value.ownBlock, Option.some.injEq] at e; omega
    · obtain ⟨q1, q2, q3, q4⟩ := p5 h8 h9
      refine ⟨q1.below hb, q2, fun _ _ g e e2 => ?_, (fun h => by cases h)⟩
      have := q1.lt g e
      simp only [Value.ownBlock, Option.some.injEq] at e2; omega
  case c5 =>
    rintro b8 y2 y5 y8 y9 w' ⟨p1, p2, p3, p4, p5⟩
    have hs := p1.size
    obtain ⟨r2, f2⟩ := p2 rfl rfl
    obtain ⟨v', w'', hrun, hrow, hgr, hv⟩ := r2.app 31 ((HR.out.below HB.out).below p1) (by have := HL.out; simp only [List.length_nil]; omega)
    have hf : ∀ g, v'.ownBlock = some g → w1.heap.size ≤ g := fun g e => by
      rcases hv with hv | hv
      · exact f2 g (hv ▸ e)
      · have := hv g e; omega
    refine ⟨v', w'', hrun, below_grown p1 hs hgr f2, (fun _ h => by cases h), fun _ _ => ⟨hrow, hf⟩, (fun h => by cases h), fun h8 h9 => ?_⟩
    obtain ⟨q1, q2, q3, q4⟩ := p5 h8 h9
    refine ⟨q1.kept fun g e => grown_far hgr (q1.lt g e) (q3 rfl rfl g e), q2, (fun _ h => by cases h), fun _ g e e2 => ?_⟩
    rcases hv with hv | hv
    · exact q3 rfl rfl g e (hv ▸ e2)
    · have := hv g e2; have := q1.lt g e; omega
  case c8 =>
    rintro b2 b5 y2 y5 y8 y9 w' ⟨p1, p2, p3, p4, p5⟩
    have hs := p1.size
    have hb : Below w'.heap.size w' (w'.alloc (.cells #[.string ts] 9)) := by go_grown
    refine ⟨p1.trans (hb.mono hs), fun h2 h5 => ⟨(p2 h2 h5).1.below hb, (p2 h2 h5).2⟩, fun h5 h9 => ⟨(p3 h5 h9).1.below hb, (p3 h5 h9).2⟩, (fun h => by cases h), fun _ _ => ⟨RowS.one (s := os) (by rw [HTS.out]; exact Bk.new rfl), fun g e => ?_, fun h2 h5 g e e2 => ?_, fun h5 g e e2 => ?_⟩⟩
    · simp only [Value.ownBlock, Option.some.injEq] at e; omega
    · have := (p2 h2 h5).1.lt g e2
      simp only [Value.ownBlock, Option.some.injEq] at e; omega
    · have := (p3 h5 rfl).1.lt g e2
      simp only [Value.ownBlock, Option.some.injEq] at e; omega
  case c9 =>
    rintro y2 y5 y8 y9 w' ⟨p1, p2, p3, p4, p5⟩
    have hs := p1.size
    obtain ⟨r5, f5⟩ := p3 rfl rfl
    obtain ⟨q1, q2, q3, q4⟩ := p5 rfl rfl
    obtain ⟨v', w'', hrun, hrow, hgr, hv⟩ := r5.app 31 q1 (by have := HL.out; simp only [List.length_cons, List.length_nil]; omega)
    have hf : ∀ g, v'.ownBlock = some g → w1.heap.size ≤ g := fun g e => by
      rcases hv with hv | hv
      · exact f5 g (hv ▸ e)
      · have := hv g e; omega
    exact ⟨v', w'', hrun, below_grown p1 hs hgr f5, (fun _ h => by cases h), (fun _ h => by cases h), fun _ => ⟨hrow, hf⟩, (fun _ h => by cases h)⟩
  case h =>
    rintro y2 y5 y8 y9 w2 ⟨p1, -, -, p4, -⟩
    obtain ⟨r9, f9⟩ := p4 rfl
    have HB2 : Hid (Below w.heap.size w w2) := Lib.hid (HB.out.trans (p1.mono HB.out.size))
    have K3 := Lib.hid (K2.out.below p1)
    have HR9 := Lib.hid r9
    obtain ⟨ya, yc, rfl⟩ := r9.shape
    have HF : Hid (∀ g, ya.map (·.block) = some g → w.heap.size ≤ g) := Lib.hid (by
      intro g e
      have := HB.out.size
      have := f9 g (by cases ya <;> simp_all [Value.ownBlock])
      omega)
    clear r9 f9 p1 p4 HB K0 K1 K2 hB0 HR HL
    have k0 := K3.out.cell 0
    have k1 := K3.out.cell 1
    have g0 := K3.out.fro 0
    have g1 := K3.out.fro 1
    simp only [List.getElem?_toArray, List.getElem?_cons_succ, List.getElem?_cons_zero] at k0 k1
    simp only [rNO, findR, Tryd.f63, Option.bind_some, Option.or, Option.getD, Nat.reduceEqDiff, if_true, if_false, reduceIte, List.drop_succ_cons, List.drop_zero]
    obtain ⟨nn, hnn⟩ : ∃ nn, nn = (rs ++ [os]).length := ⟨_, rfl⟩
    rw [← hnn]
    rw [← hnn] at HR9
    clear hnn
    go_wp2_with fail
    clear k0 k1 g0 g1
    refine ret_ct67 rfl (w.heap.size + 1 + 1) (.bool false) (.string ⟨a.toArray⟩) (.slice ya nn yc) rfl rfl K3.out.put2 rfl ?_
    refine ⟨_, rfl, HR9.out.kept fun g e => ?_, (HB2.out.setCell (show w.heap.size ≤ w.heap.size + 1 + 1 by omega) _).setCell (show w.heap.size ≤ w.heap.size + 1 + 1 by omega) _, fun g e => HF.out g (by cases ya <;> simp_all [Value.ownBlock])⟩
    have hne : g ≠ w.heap.size + 1 + 1 := fun e2 => by
      subst e2
      obtain ⟨_, ⟨hv, _⟩ | ⟨q, cap, cur, hv, _, hg, _⟩⟩ := HR9.out
      · rw [hv] at e; cases e
      · rw [hv] at e
        simp only [Value.ownBlock, Option.some.injEq] at e
        rw [e] at hg
        have h2 := hg.symm.trans K3.out
        simp at h2
    rw [heap_setCell_other _ _ _ _ hne, heap_setCell_other _ _ _ _ hne]
theorem stv_shape (s : Stt) {w : World} {rv : Value} (h : RowS w rv s.2) : ∃ a c, rv = .slice a s.2.length c := h.shape
set_option maxHeartbeats 8000000 in
theorem next_chk (s : Stt) (rv : Value) (on kind oa ob : Int) (os : Bs) (w : World) (h0 : (kind == 0) = false) (h1 : (kind == 1) = false) :
    Calls Tryd.prog 63 #[stv s rv, .agg #[.int .i64 on, .int .i64 kind, .int .i64 oa, .int .i64 ob, .string ⟨os.toArray⟩]] w fun e w' => ∃ rv', e = .returned (.tuple #[stv (os, []) rv', .bool true]) ∧ RowS w' rv' [] ∧ Below w.heap.size w w' ∧ ∀ g, rv'.ownBlock = some g → w.heap.size ≤ g := by
  obtain ⟨a, rs⟩ := s
  unfold stv
  generalize (⟨os.toArray⟩ : ByteArray) = ts
  simp only
  go_enter Tryd.func63, Tryd.ntmps63
  go_wp2_with fail
  refine ret_ct67 rfl (w.heap.size + 1 + 1) (.bool true) (.string ts) (.slice (some ⟨w.heap.size + 1 + 1 + 1, 0, none⟩) 0 0) rfl rfl (Bk.alloc (Bk.new (by simp))) rfl ?_
  refine ⟨_, rfl, RowS.empty (Bk.new (by simp)), by go_grown, fun g e => ?_⟩
  simp only [Value.ownBlock, Option.some.injEq] at e
  omega
set_option maxHeartbeats 8000000 in
theorem next_sync (s : Stt) (rv : Value) (on oa ob : Int) (os : Bs) (w : World) (h : RowS w rv s.2) :
    Calls Tryd.prog 63 #[stv s rv, .agg #[.int .i64 on, .int .i64 1, .int .i64 oa, .int .i64 ob, .string ⟨os.toArray⟩]] w fun e w' => e = .returned (.tuple #[stv s rv, .bool true]) ∧ Below w.heap.size w w' := by
  obtain ⟨a, rs⟩ := s
  obtain ⟨ra, rc, rfl⟩ := h.shape
  simp only
  generalize rs.length = n
  clear h
  unfold stv
  generalize (⟨os.toArray⟩ : ByteArray) = ts
  generalize (⟨a.toArray⟩ : ByteArray) = ta
  go_enter Tryd.func63, Tryd.ntmps63
  go_wp2_with fail
  refine ret_ct67 rfl (w.heap.size + 1 + 1) (.bool true) (.string ta) (.slice ra n rc) rfl rfl (Bk.new (by simp)) rfl ?_
  exact ⟨rfl, by go_grown⟩
end Go.Proofs.YtmoihgniglomiaaDoor
