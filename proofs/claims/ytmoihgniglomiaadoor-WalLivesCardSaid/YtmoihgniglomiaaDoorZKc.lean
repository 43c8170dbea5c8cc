/- A log's Checkpoint and Open, plainly: what they leave, and what a crash in them leaves. No condition. -/
import Derived.Test.YtmoihgniglomiaaDoorZKb
set_option linter.unusedVariables false
set_option linter.unusedSimpArgs false
set_option maxRecDepth 100000
namespace Go.Proofs.YtmoihgniglomiaaDoor

theorem file_lay {S : St} {f : Nat} (hf : f < 2) (s : Bs) : (S.lay f s).file f = S.file f ++ s ∧ (S.lay f s).file (1 - f) = S.file (1 - f) ∧ (S.lay f s).gone = S.gone ∧ (S.lay f s).inn = S.inn ∧ (∀ g, (S.lay f s).safe g = S.safe g) := by
  rcases (by omega : f = 0 ∨ f = 1) with rfl | rfl
  · exact ⟨rfl, rfl, rfl, rfl, fun g => rfl⟩
  · exact ⟨rfl, rfl, rfl, rfl, fun g => rfl⟩
theorem count_same {S : St} (h0 : (S.count).1 = 0) : (∀ f, (S.count).2.file f = S.file f) ∧ (∀ f, (S.count).2.safe f = S.safe f) ∧ (S.count).2.gone = S.gone ∧ (S.count).2.row = S.row := by
  obtain ⟨a, b, c, d, e, f⟩ := count_ok h0
  refine ⟨fun g => ?_, fun g => ?_, f, e⟩
  · unfold St.file; rw [a, b]
  · unfold St.safe; rw [c, d]
theorem keep_all_same {S : St} (h : S.Wf) : (∀ f, (S.keep S.waiting).file f = S.file f) ∧ (∀ f, (S.keep S.waiting).safe f = (S.file f).length) ∧ (S.keep S.waiting).gone = S.gone ∧ Still (S.keep S.waiting) := by
  obtain ⟨a, b, c, d⟩ := keep_all2 h
  have hf : ∀ f, (S.keep S.waiting).file f = S.file f := fun f => by unfold St.file; rw [a, b]
  exact ⟨hf, fun f => by rw [safe2_file c, hf], d, keep_still h _⟩
theorem still_lose {S : St} (h : Still S) (k f : Nat) : (S.lose k).file f = S.file f := by
  have e : S.left k = (S.s0, S.s1) := by unfold St.left; rw [h.1]; rfl
  unfold St.file
  show (if f = 0 then S.f0.take (S.left k).1 else S.f1.take (S.left k).2) = _
  rw [e, h.2.1, h.2.2, List.take_length, List.take_length]
theorem still_newest {S T : St} (h : ∀ f, T.file f = S.file f) : newest T = newest S := by
  have h0 := h 0
  have h1 := h 1
  have e0 : T.f0 = S.f0 := h0
  have e1 : T.f1 = S.f1 := h1
  unfold newest; rw [e0, e1]
theorem LOwn.lchk {S : St} {l : Wlg} {snap : Bs} {rs : List Bs} {m : Nat} (h : LOwn S l snap rs m) (s : Bs) : LCall S l snap rs m s [] 0 (lchk S l s) := by
  have hff := h.ff
  have hg1 := h.g1
  have hg2 := h.g2
  have hmany := h.many
  unfold YtmoihgniglomiaaDoor.lchk
  rw [if_neg (by simp [h.gone, h.dead])]
  split
  · exact .no (.inl rfl) rfl
  · rename_i h1
    split
    · exact .no (.inr rfl) rfl
    · rename_i h2
      have hof : 1 - (1 - l.file) = l.file := by omega
      have hroom : (S.file (1 - l.file)).length + (fileOf (l.gen + 1) s).length ≤ 1048576 := by rw [h.oth, fileOf_len]; simp; omega
      obtain ⟨M, hM⟩ : ∃ M, M = S.lay (1 - l.file) (fileOf (l.gen + 1) s) := ⟨_, rfl⟩
      obtain ⟨m1, m2, m3, m4, m5⟩ := file_lay (S := S) (f := 1 - l.file) (by omega) (fileOf (l.gen + 1) s)
      have mw : M.Wf := by rw [hM]; exact h.wf.lay _ _ (by omega) hroom
      rw [← hM] at m1 m2 m3 m4 m5
      rw [hof] at m2
      rw [h.oth, List.nil_append] at m1
      have e : S.append ((1 - l.file : Nat) : Int) (fileOf (l.gen + 1) s) = M.count := by
        unfold St.append
        rw [if_neg (by simp [h.gone]), if_neg (by unfold St.there; simp; omega), Int.toNat_natCast, if_neg (by omega), hM]
      have hds : ∀ T : St, T.Wf → (∀ f, T.file f = M.file f) → T.safe l.file = S.safe l.file → ∀ k, (∃ j, m ≤ j ∧ j ≤ rs.length ∧ LDown (T.lose k) snap (rs.take j)) ∨ LDown (T.lose k) s [] := fun T tw tf ts k =>
        both_down tw hff hg1 (by omega) h.sn (by omega) h.rl h.hm (by rw [tf, m2]; exact h.own) (by rw [tf, m1]) (by rw [ts]; exact h.sf) k
      unfold lays
      rw [e]
      rcases count_cases M with ⟨c0, ci⟩ | ⟨c2, ce, ci⟩
      · simp only [if_pos c0]
        obtain ⟨a1, a2, a3, a4⟩ := count_same c0
        have aw := mw.count
        rw [m4] at ci
        generalize (M.count).2 = N at *
        have e2 : N.sync = if (N.count).1 = 0 then (0, (N.count).2.keep (N.count).2.waiting) else N.count := by
          unfold St.sync; rw [if_neg (by rw [a3, m3]; simp [h.gone])]
        rw [e2]
        rcases count_cases N with ⟨d0, di⟩ | ⟨d2, de, di⟩
        · simp only [if_pos d0]
          obtain ⟨b1, b2, b3, b4⟩ := count_same d0
          have bw := aw.count
          generalize (N.count).2 = O at *
          obtain ⟨k1, k2, k3, k4⟩ := keep_all_same bw
          have kw := bw.keep O.waiting
          have ki : S.inn = 0 → (O.keep O.waiting).inn = 0 := fun hi => di (ci hi)
          generalize O.keep O.waiting = P at *
          have po : P.file l.file = fileOf l.gen snap ++ frames rs := by rw [k1, b1, a1, m2]; exact h.own
          have pz : P.file (1 - l.file) = fileOf (l.gen + 1) s := by rw [k1, b1, a1, m1]
          have hP : P.gone = false := by rw [k3, b3, a3, m3]; exact h.gone
          have ps : P.safe l.file = (P.file l.file).length := by rw [k2, ← k1]
          have e3 : P.cut (l.file : Int) 0 = if (P.count).1 = 0 then (0, (P.count).2.cutF l.file 0) else P.count := by
            unfold St.cut
            rw [if_neg (by simp [hP]), if_neg (by unfold St.there; simp; omega), Int.toNat_natCast, if_neg (by rw [ps]; omega)]
            rfl
          rw [e3]
          rcases count_cases P with ⟨f0, fi⟩ | ⟨f2, fe, fi⟩
          · simp only [if_pos f0]
            obtain ⟨q1, q2, q3, q4⟩ := count_same f0
            have qw := kw.count
            have qs : Still (P.count).2 := k4.count
            refine .ok rfl ⟨?_, ?_, rfl, by show 1 - l.file < 2; omega, by show 1 ≤ l.gen + 1; omega, by show l.gen + 1 ≤ _; omega, ?_, ?_, by omega, by simp, rfl, Nat.le_refl _, ?_⟩ (fun hi => ?_)
            · exact qw.cutF _ _ (by omega) (by rw [q1, q2, ps]; omega)
            · show ((P.count).2.cutF l.file 0).gone = false
              unfold St.cutF; split <;> (show (P.count).2.gone = false; rw [q3]; exact hP)
            · show ((P.count).2.cutF l.file 0).file (1 - l.file) = fileOf (l.gen + 1) s ++ frames []
              rw [show fileOf (l.gen + 1) s ++ frames [] = fileOf (l.gen + 1) s from List.append_nil _, ← pz, ← q1]
              rcases (by omega : l.file = 0 ∨ l.file = 1) with e | e
              · rw [e]; rfl
              · rw [e]; rfl
            · show ((P.count).2.cutF l.file 0).file (1 - (1 - l.file)) = []
              rw [hof]
              rcases (by omega : l.file = 0 ∨ l.file = 1) with e | e
              · rw [e]; rfl
              · rw [e]; rfl
            · show 20 + s.length + (frames (([] : List Bs).take 0)).length ≤ ((P.count).2.cutF l.file 0).safe (1 - l.file)
              have : ((P.count).2.cutF l.file 0).safe (1 - l.file) = (P.count).2.safe (1 - l.file) := by
                rcases (by omega : l.file = 0 ∨ l.file = 1) with e | e
                · rw [e]; rfl
                · rw [e]; rfl
              rw [this, q2, k2, ← k1, pz, fileOf_len]
              simp [frames]
            · have := fi (ki hi)
              show ((P.count).2.cutF l.file 0).inn = 0
              unfold St.cutF; split <;> exact this
          · have f0 : ¬ (P.count).1 = 0 := by omega
            simp only [if_neg f0]
            refine .down rfl (by rw [fe]; rfl) rfl (fun hi => fi (ki hi)) ?_ ⟨hff, hg2, by show l.n ≤ _; omega⟩
            show (∃ j, m ≤ j ∧ j ≤ rs.length ∧ LDown (P.count).2 snap (rs.take j)) ∨ LDown (P.count).2 s []
            rw [fe]
            refine both_down kw hff hg1 (by omega) h.sn (by omega) h.rl h.hm po pz ?_ _
            rw [ps, po, List.length_append, fileOf_len]
            have : frames (rs.take m) ++ frames (rs.drop m) = frames rs := by rw [← frames_app, List.take_append_drop]
            have := congrArg List.length this
            rw [List.length_append] at this
            omega
        · have d0 : ¬ (N.count).1 = 0 := by omega
          simp only [if_neg d0]
          refine .down rfl (by rw [de]; rfl) rfl (fun hi => di (ci hi)) ?_ ⟨hff, hg2, by show l.n ≤ _; omega⟩
          show (∃ j, m ≤ j ∧ j ≤ rs.length ∧ LDown (N.count).2 snap (rs.take j)) ∨ LDown (N.count).2 s []
          rw [de]
          exact hds N aw a1 (by rw [a2, m5]) _
      · have c0 : ¬ (M.count).1 = 0 := by omega
        simp only [if_neg c0]
        refine .down rfl (by rw [ce]; rfl) rfl (by rw [← m4]; exact ci) ?_ ⟨hff, hg2, by show l.n ≤ _; omega⟩
        show (∃ j, m ≤ j ∧ j ≤ rs.length ∧ LDown (M.count).2 snap (rs.take j)) ∨ LDown (M.count).2 s []
        rw [ce]
        exact hds M mw (fun _ => rfl) (m5 _) _
/-- an opening of a log that lives changes nothing -/
theorem LOwn.newest {S : St} {l : Wlg} {snap : Bs} {rs : List Bs} {m : Nat} (h : LOwn S l snap rs m) : newest S = (l.file, l.gen, snap, frames rs) := by
  have hb := begins_file l.gen snap (frames rs) h.g2 h.sn
  rw [← h.own] at hb
  have := h.g1
  have hn := newest_of (S := S) h.ff (by rw [hb]; simp only; omega) (by rw [h.oth, hb, begins_nil]; simp only; omega)
  rw [hn, hb]
theorem LOwn.lopen {S : St} {l : Wlg} {snap : Bs} {rs : List Bs} {m : Nat} (h : LOwn S l snap rs m) : lopen S = (0, (l, snap, rs), S) := by
  have hn := h.newest
  have hr := recsOf_frames rs h.rl
  have hz := h.oth
  have hg := h.g1
  have e1 : ocut S l.file 0 = (0, S) := rfl
  have e2 : ocut2 S l.file 0 = (0, S) := by
    unfold ocut2; rw [e1]; simp only [if_true]; rw [if_neg (by rw [hz]; simp)]
  unfold YtmoihgniglomiaaDoor.lopen
  rw [if_neg (by simp [h.gone]), hn]
  simp only
  rw [if_neg (by omega), hr]
  simp only [List.length_nil]
  rw [e2, if_pos rfl]
  have : (⟨l.file, l.gen, rs.length, false⟩ : Wlg) = l := by rw [← h.n, ← h.dead]
  rw [this]
theorem LOwn.clean {S : St} {l : Wlg} {snap : Bs} {rs : List Bs} {m : Nat} (h : LOwn S l snap rs m) : Clean S := by
  unfold Clean
  rw [h.newest]
  simp only [recsOf_frames rs h.rl, h.oth]
  exact ⟨fun h => by simp at h, fun h => by simp at h⟩
theorem cut_still {S : St} (h : Still S) (hw : S.Wf) (hg : S.gone = false) (f : Nat) (hf : f < 2) (n : Nat) (hn : n ≤ (S.file f).length) :
    ((S.cut (f : Int) (n : Int)).1 = 0 ∧ (S.cut (f : Int) (n : Int)).2.Wf ∧ Still (S.cut (f : Int) (n : Int)).2 ∧ (S.cut (f : Int) (n : Int)).2.gone = false ∧ (S.cut (f : Int) (n : Int)).2.file f = (S.file f).take n ∧ (S.cut (f : Int) (n : Int)).2.file (1 - f) = S.file (1 - f) ∧ (S.inn = 0 → (S.cut (f : Int) (n : Int)).2.inn = 0)) ∨
    ((S.cut (f : Int) (n : Int)).1 = 2 ∧ (S.cut (f : Int) (n : Int)).2.Wf ∧ Still (S.cut (f : Int) (n : Int)).2 ∧ (S.cut (f : Int) (n : Int)).2.gone = true ∧ (∀ g, (S.cut (f : Int) (n : Int)).2.file g = S.file g) ∧ S.inn ≠ 0) := by
  have hs : S.safe f = (S.file f).length := by
    unfold St.safe St.file; split
    · exact h.2.1
    · exact h.2.2
  have e : S.cut (f : Int) (n : Int) = if (S.count).1 = 0 then (0, (S.count).2.cutF f n) else S.count := by
    unfold St.cut
    rw [if_neg (by simp [hg]), if_neg (by unfold St.there; simp; omega), Int.toNat_natCast, if_neg (by rw [hs]; omega)]
    rfl
  rw [e]
  rcases count_cases S with ⟨c0, ci⟩ | ⟨c2, ce, ci⟩
  · left
    rw [if_pos c0]
    obtain ⟨a1, a2, a3, a4⟩ := count_same c0
    have aw := hw.count
    have asl := h.count
    generalize (S.count).2 = N at *
    refine ⟨rfl, aw.cutF _ _ (by rw [a1]; exact hn) (by rw [a1, a2, hs]; omega), asl.cutF _ _ (by rw [a1]; exact hn), ?_, ?_, ?_, fun hi => ?_⟩
    · show (N.cutF f n).gone = false
      unfold St.cutF; split <;> (show N.gone = false; rw [a3]; exact hg)
    · rw [← a1]
      rcases (by omega : f = 0 ∨ f = 1) with rfl | rfl <;> rfl
    · rw [← a1]
      rcases (by omega : f = 0 ∨ f = 1) with rfl | rfl <;> rfl
    · have := ci hi
      show (N.cutF f n).inn = 0
      unfold St.cutF; split <;> exact this
  · right
    rw [if_neg (by omega)]
    refine ⟨c2, ?_⟩
    rw [ce]
    exact ⟨hw.lose _, h.lose _, rfl, fun g => still_lose h _ g, ci⟩
/-- what an opening of a disk tells whose bytes are all safe: the log lives then, or the power went, and the files tell the same -/
theorem LDown.lopen {S : St} {snap : Bs} {rs : List Bs} (h : LDown S snap rs) (hg : S.gone = false) :
    ((lopen S).1 = 0 ∧ (lopen S).2.1.2 = (snap, rs) ∧ LOwn (lopen S).2.2 (lopen S).2.1.1 snap rs rs.length ∧ (S.inn = 0 → (lopen S).2.2.inn = 0)) ∨
    ((lopen S).1 = 2 ∧ (lopen S).2.2.gone = true ∧ LDown (lopen S).2.2 snap rs ∧ S.inn ≠ 0) := by
  have hc := h.counts
  obtain ⟨hs1, hs2⟩ := h.says
  obtain ⟨⟨f, g, sn, b⟩, hx⟩ : ∃ x, YtmoihgniglomiaaDoor.newest S = x := ⟨_, rfl⟩
  rw [hx] at hc hs1 hs2
  simp only at hc hs1 hs2
  have hf : f < 2 := by
    unfold YtmoihgniglomiaaDoor.newest at hx
    split at hx <;> (have := congrArg Prod.fst hx; simp at this; omega)
  have hb : begins (S.file f) = (g, sn, b) := by
    unfold YtmoihgniglomiaaDoor.newest at hx
    split at hx <;> (obtain ⟨rfl, h2⟩ := Prod.mk.inj hx; exact h2)
  have hother : (begins (S.file (1 - f))).1 ≤ g ∧ (f = 1 → (begins (S.file (1 - f))).1 < g) := by
    have hgb : (begins (S.file f)).1 = g := by rw [hb]
    unfold YtmoihgniglomiaaDoor.newest at hx
    split at hx
    · rename_i hgt
      obtain ⟨rfl, h2⟩ := Prod.mk.inj hx
      have e : S.file (1 - 1) = S.f0 := rfl
      have e1 : S.file 1 = S.f1 := rfl
      rw [e1] at hgb
      rw [e]; omega
    · rename_i hgt
      obtain ⟨rfl, h2⟩ := Prod.mk.inj hx
      have e : S.file (1 - 0) = S.f1 := rfl
      have e1 : S.file 0 = S.f0 := rfl
      rw [e1] at hgb
      rw [e]; omega
  obtain ⟨i1, i2, i3⟩ := begins_is (s := S.file f) (by rw [hb]; exact hc)
  rw [hb] at i1 i2 i3
  simp only at i1 i2 i3
  obtain ⟨r1, r2⟩ := recsOf_is b.length b (Nat.le_refl _)
  rw [hs2] at r1 r2
  generalize ht : (recsOf b).2 = t at r1
  subst hs1
  -- the files behind each cut tell the same
  have tells : ∀ T : St, T.Wf → Still T → (∃ t', T.file f = fileOf g sn ++ (frames rs ++ t') ∧ (t' = t ∨ t' = [])) → (T.file (1 - f) = S.file (1 - f) ∨ T.file (1 - f) = []) → LDown T sn rs := fun T tw ts ⟨t', t1, t2⟩ t3 => by
    have hb2 := begins_file g sn (frames rs ++ t') i2 i3
    rw [← t1] at hb2
    have ho : (begins (T.file (1 - f))).1 ≤ g ∧ (f = 1 → (begins (T.file (1 - f))).1 < g) := by
      rcases t3 with t3 | t3
      · rw [t3]; exact hother
      · rw [t3, begins_nil]; simp only; omega
    have hn : YtmoihgniglomiaaDoor.newest T = (f, g, sn, frames rs ++ t') := by
      unfold YtmoihgniglomiaaDoor.newest
      rcases (by omega : f = 0 ∨ f = 1) with rfl | rfl
      · have e0 : T.file 0 = T.f0 := rfl
        have e1 : T.file (1 - 0) = T.f1 := rfl
        rw [e0] at hb2; rw [e1] at ho
        rw [hb2, if_neg (by simp only; omega)]
      · have e0 : T.file (1 - 1) = T.f0 := rfl
        have e1 : T.file 1 = T.f1 := rfl
        rw [e1] at hb2; rw [e0] at ho
        rw [hb2, if_pos (by simp only; omega)]
    refine ⟨tw, ts, by rw [hn]; exact hc, by rw [hn], ?_⟩
    rw [hn]
    simp only
    rcases t2 with rfl | rfl
    · rw [r1, hs2]
    · rw [List.append_nil, recsOf_frames rs r2]
  have own : ∀ T : St, T.Wf → Still T → T.gone = false → T.file f = fileOf g sn ++ frames rs → T.file (1 - f) = [] → LOwn T ⟨f, g, rs.length, false⟩ sn rs rs.length := fun T tw ts tg t1 t2 =>
    ⟨tw, tg, rfl, hf, by show 1 ≤ g; omega, i2, t1, t2, i3, r2, rfl, Nat.le_refl _, by
      have : T.safe f = (T.file f).length := by
        unfold St.safe St.file; split
        · exact ts.2.1
        · exact ts.2.2
      show _ ≤ T.safe f
      rw [this, t1, List.take_length, List.length_append, fileOf_len]; omega⟩
  have hfile : S.file f = fileOf g sn ++ (frames rs ++ t) := by rw [r1]; exact i1
  have key : ((ocut2 S f t.length).1 = 0 ∧ LOwn (ocut2 S f t.length).2 ⟨f, g, rs.length, false⟩ sn rs rs.length ∧ (S.inn = 0 → (ocut2 S f t.length).2.inn = 0)) ∨ ((ocut2 S f t.length).1 = 2 ∧ (ocut2 S f t.length).2.gone = true ∧ LDown (ocut2 S f t.length).2 sn rs ∧ S.inn ≠ 0) := by
    have first : ((ocut S f t.length).1 = 0 ∧ (ocut S f t.length).2.Wf ∧ Still (ocut S f t.length).2 ∧ (ocut S f t.length).2.gone = false ∧ (ocut S f t.length).2.file f = fileOf g sn ++ frames rs ∧ (ocut S f t.length).2.file (1 - f) = S.file (1 - f) ∧ (S.inn = 0 → (ocut S f t.length).2.inn = 0)) ∨ ((ocut S f t.length).1 = 2 ∧ (ocut S f t.length).2.gone = true ∧ LDown (ocut S f t.length).2 sn rs ∧ S.inn ≠ 0) := by
      unfold ocut
      by_cases h0 : t.length > 0
      · rw [if_pos h0]
        rcases cut_still h.still h.wf hg f hf ((S.file f).length - t.length) (by omega) with ⟨c1, c2, c3, c4, c5, c6, c7⟩ | ⟨c1, c2, c3, c4, c5, c6⟩
        · refine .inl ⟨c1, c2, c3, c4, ?_, c6, c7⟩
          rw [c5, hfile, ← List.append_assoc]
          exact List.take_left' (by simp only [List.length_append]; omega)
        · exact .inr ⟨c1, c4, tells _ c2 c3 ⟨t, by rw [c5]; exact hfile, .inl rfl⟩ (.inl (c5 _)), c6⟩
      · rw [if_neg h0]
        have : t = [] := List.eq_nil_of_length_eq_zero (by omega)
        refine .inl ⟨rfl, h.wf, h.still, hg, ?_, rfl, fun h => h⟩
        rw [hfile, this, List.append_nil]
    unfold ocut2
    rcases first with ⟨c1, c2, c3, c4, c5, c6, c7⟩ | ⟨c1, c2, c3, c4⟩
    · rw [if_pos c1]
      generalize (ocut S f t.length).2 = T at *
      by_cases h0 : (T.file (1 - f)).length > 0
      · rw [if_pos h0]
        have hff : 1 - (1 - f) = f := by omega
        rcases cut_still c3 c2 c4 (1 - f) (by omega) 0 (by omega) with ⟨d1, d2, d3, d4, d5, d6, d7⟩ | ⟨d1, d2, d3, d4, d5, d6⟩
        · rw [hff] at d6
          exact .inl ⟨d1, own _ d2 d3 d4 (by rw [show ((0 : Nat) : Int) = 0 from rfl] at d6; rw [d6]; exact c5) (by rw [show ((0 : Nat) : Int) = 0 from rfl] at d5; rw [d5]; exact List.take_zero), fun hi => d7 (c7 hi)⟩
        · exact .inr ⟨d1, d4, tells _ d2 d3 ⟨[], by rw [List.append_nil]; exact (d5 f).trans c5, .inr rfl⟩ (.inl ((d5 _).trans c6)), fun hi => d6 (c7 hi)⟩
      · rw [if_neg h0]
        have hz : T.file (1 - f) = [] := List.eq_nil_of_length_eq_zero (by omega)
        exact .inl ⟨rfl, own _ c2 c3 c4 c5 hz, c7⟩
    · rw [if_neg (by omega)]
      exact .inr ⟨c1, c2, c3, c4⟩
  unfold YtmoihgniglomiaaDoor.lopen
  rw [if_neg (by simp [hg]), hx]
  simp only
  rw [if_neg hc, ht, hs2]
  rcases key with ⟨k1, k2, k3⟩ | ⟨k1, k2, k3, k4⟩
  · rw [if_pos k1]
    exact .inl ⟨rfl, rfl, k2, k3⟩
  · rw [if_neg (by omega)]
    exact .inr ⟨rfl, k2, k3, k4⟩
theorem lnew_own : (lnew (St.new [] [])).1 = 0 ∧ LOwn (lnew (St.new [] [])).2 ⟨0, 1, 0, false⟩ [] [] 0 ∧ (lnew (St.new [] [])).2.inn = 0 := by
  have e : (lnew (St.new [] [])).1 = 0 := by decide
  have hw : (St.new [] []).Wf := St.Wf.new (by simp) (by simp)
  have e2 : lnew (St.new [] []) = lays (St.new [] []) 0 1 [] := rfl
  rw [e2] at e ⊢
  obtain ⟨a, b, c, d, e'⟩ := lays_ok hw (f := 0) (by omega) e
  refine ⟨e, ⟨e', d, rfl, by decide, by decide, by decide, by rw [a]; rfl, by rw [b]; rfl, by decide, by simp, rfl, Nat.le_refl _, ?_⟩, by decide⟩
  show _ ≤ (lays (St.new [] []) 0 1 []).2.safe 0
  rw [safe2_file c, a]
  decide
end Go.Proofs.YtmoihgniglomiaaDoor
