/- A log's Checkpoint and Open, plainly: what they leave, and what a crash in them leaves. No condition. An argument that is a slice of lives, each with a slice of calls, read as such within the form's reach. No condition. What WalOpens asks of both disks: armed, told, alive again. Condition: none. What a call on a log leaves of what lies beside it; the states that may be told. No condition but the l -/
import Derived.Test.YtmoihgniglomiaaDoorZd19
import Derived.Test.YtmoihgniglomiaaDoorZd06
import Derived.Test.YtmoihgniglomiaaDoorZd18
import Derived.Test.YtmoihgniglomiaaDoorZd03
set_option linter.unusedVariables false
set_option linter.unusedSimpArgs false
set_option maxRecDepth 100000
namespace Go.Proofs.YtmoihgniglomiaaDoor
theorem file_lay {S : St} {f : Nat} (hf : f < 2) (s : Bs) : (S.lay f s).file f = S.file f ++ s ∧ (S.lay f s).file (1 - f) = S.file (1 - f) ∧ (S.lay f s).gone = S.gone ∧ (S.lay f s).inn = S.inn ∧ (∀ g, (S.lay f s).safe g = S.safe g) := by
  rcases (by omega : f = 0 ∨ f = 1) with rfl | rfl
  · exact ⟨rfl, rfl, rfl, rfl, fun g => rfl⟩
  · exact ⟨rfl, rfl, rfl, rfl, fun g => rfl⟩
theorem count_same {S : St} (h0 : (S.count).1 = 0) : (∀ f, (S.count).2.file f = S.file f) ∧ (∀ f, (S.count).2.safe f = S.safe f) ∧ (S.count).2.gone = S.gone ∧ (S.count).2.row = S.row := by
  obtain ⟨a, b, c, d, e, f⟩ := count_ok h0
  refine ⟨fun g => ?_, fun g => ?_, f, e⟩
  · unfold St.file; rw [a, b]
  · unfold St.safe; rw [c, d]
theorem keep_all_same {S : St} (h : S.Wf) : (∀ f, (S.keep S.waiting).file f = S.file f) ∧ (∀ f, (S.keep S.waiting).safe f = (S.file f).length) ∧ (S.keep S.waiting).gone = S.gone ∧ Still (S.keep S.waiting) := by
  obtain ⟨a, b, c, d⟩ := keep_all2 h
  have hf : ∀ f, (S.keep S.waiting).file f = S.file f := fun f => by unfold St.file; rw [a, b]
  exact ⟨hf, fun f => by rw [safe2_file c, hf], d, keep_still h _⟩
theorem still_lose {S : St} (h : Still S) (k f : Nat) : (S.lose k).file f = S.file f := by
  have e : S.left k = (S.s0, S.s1) := by unfold St.left; rw [h.1]; rfl
  unfold St.file
  show (if f = 0 then S.f0.take (S.left k).1 else S.f1.take (S.left k).2) = _
  rw [e, h.2.1, h.2.2, List.take_length, List.take_length]
theorem LOwn.lchk {S : St} {l : Wlg} {snap : Bs} {rs : List Bs} {m : Nat} (h : LOwn S l snap rs m) (s : Bs) : LCall S l snap rs m s [] 0 (lchk S l s) := by
  have hff := h.ff
  have hg1 := h.g1
  have hg2 := h.g2
  have hmany := h.many
  unfold YtmoihgniglomiaaDoor.lchk
  rw [if_neg (by simp [h.gone, h.dead])]
  split
  · exact .no (.inl rfl) rfl
  · rename_i h1
    split
    · exact .no (.inr rfl) rfl
    · rename_i h2
      have hof : 1 - (1 - l.file) = l.file := by omega
      have hroom : (S.file (1 - l.file)).length + (fileOf (l.gen + 1) s).length ≤ 1048576 := by rw [h.oth, fileOf_len]; simp; omega
      obtain ⟨M, hM⟩ : ∃ M, M = S.lay (1 - l.file) (fileOf (l.gen + 1) s) := ⟨_, rfl⟩
      obtain ⟨m1, m2, m3, m4, m5⟩ := file_lay (S := S) (f := 1 - l.file) (by omega) (fileOf (l.gen + 1) s)
      have mw : M.Wf := by rw [hM]; exact h.wf.lay _ _ (by omega) hroom
      rw [← hM] at m1 m2 m3 m4 m5
      rw [hof] at m2
      rw [h.oth, List.nil_append] at m1
      have e : S.append ((1 - l.file : Nat) : Int) (fileOf (l.gen + 1) s) = M.count := by
        unfold St.append
        rw [if_neg (by simp [h.gone]), if_neg (by unfold St.there; simp; omega), Int.toNat_natCast, if_neg (by omega), hM]
      have hds : ∀ T : St, T.Wf → (∀ f, T.file f = M.file f) → T.safe l.file = S.safe l.file → ∀ k, (∃ j, m ≤ j ∧ j ≤ rs.length ∧ LDown (T.lose k) snap (rs.take j)) ∨ LDown (T.lose k) s [] := fun T tw tf ts k =>
        both_down tw hff hg1 (by omega) h.sn (by omega) h.rl h.hm (by rw [tf, m2]; exact h.own) (by rw [tf, m1]) (by rw [ts]; exact h.sf) k
      unfold lays
      rw [e]
      rcases count_cases M with ⟨c0, ci⟩ | ⟨c2, ce, ci⟩
      · simp only [if_pos c0]
        obtain ⟨a1, a2, a3, a4⟩ := count_same c0
        have aw := mw.count
        rw [m4] at ci
        generalize (M.count).2 = N at *
        have e2 : N.sync = if (N.count).1 = 0 then (0, (N.count).2.keep (N.count).2.waiting) else N.count := by
          unfold St.sync; rw [if_neg (by rw [a3, m3]; simp [h.gone])]
        rw [e2]
        rcases count_cases N with ⟨d0, di⟩ | ⟨d2, de, di⟩
        · simp only [if_pos d0]
          obtain ⟨b1, b2, b3, b4⟩ := count_same d0
          have bw := aw.count
          generalize (N.count).2 = O at *
          obtain ⟨k1, k2, k3, k4⟩ := keep_all_same bw
          have kw := bw.keep O.waiting
          have ki : S.inn = 0 → (O.keep O.waiting).inn = 0 := fun hi => di (ci hi)
          generalize O.keep O.waiting = P at *
          have po : P.file l.file = fileOf l.gen snap ++ frames rs := by rw [k1, b1, a1, m2]; exact h.own
          have pz : P.file (1 - l.file) = fileOf (l.gen + 1) s := by rw [k1, b1, a1, m1]
          have hP : P.gone = false := by rw [k3, b3, a3, m3]; exact h.gone
          have ps : P.safe l.file = (P.file l.file).length := by rw [k2, ← k1]
          have e3 : P.cut (l.file : Int) 0 = if (P.count).1 = 0 then (0, (P.count).2.cutF l.file 0) else P.count := by
            unfold St.cut
            rw [if_neg (by simp [hP]), if_neg (by unfold St.there; simp; omega), Int.toNat_natCast, if_neg (by rw [ps]; omega)]
            rfl
          rw [e3]
          rcases count_cases P with ⟨f0, fi⟩ | ⟨f2, fe, fi⟩
          · simp only [if_pos f0]
            obtain ⟨q1, q2, q3, q4⟩ := count_same f0
            have qw := kw.count
            have qs : Still (P.count).2 := k4.count
            refine .ok rfl ⟨?_, ?_, rfl, by show 1 - l.file < 2; omega, by show 1 ≤ l.gen + 1; omega, by show l.gen + 1 ≤ _; omega, ?_, ?_, by omega, by simp, rfl, Nat.le_refl _, ?_⟩ (fun hi => ?_)
            · exact qw.cutF _ _ (by omega) (by rw [q1, q2, ps]; omega)
            · show ((P.count).2.cutF l.file 0).gone = false
              unfold St.cutF; split <;> (show (P.count).2.gone = false; rw [q3]; exact hP)
            · show ((P.count).2.cutF l.file 0).file (1 - l.file) = fileOf (l.gen + 1) s ++ frames []
              rw [show fileOf (l.gen + 1) s ++ frames [] = fileOf (l.gen + 1) s from List.append_nil _, ← pz, ← q1]
              rcases (by omega : l.file = 0 ∨ l.file = 1) with e | e
              · rw [e]; rfl
              · rw [e]; rfl
            · show ((P.count).2.cutF l.file 0).file (1 - (1 - l.file)) = []
              rw [hof]
              rcases (by omega : l.file = 0 ∨ l.file = 1) with e | e
              · rw [e]; rfl
              · rw [e]; rfl
            · show 20 + s.length + (frames (([] : List Bs).take 0)).length ≤ ((P.count).2.cutF l.file 0).safe (1 - l.file)
              have : ((P.count).2.cutF l.file 0).safe (1 - l.file) = (P.count).2.safe (1 - l.file) := by
                rcases (by omega : l.file = 0 ∨ l.file = 1) with e | e
                · rw [e]; rfl
                · rw [e]; rfl
              rw [this, q2, k2, ← k1, pz, fileOf_len]
              simp [frames]
            · have := fi (ki hi)
              show ((P.count).2.cutF l.file 0).inn = 0
              unfold St.cutF; split <;> exact this
          · have f0 : ¬ (P.count).1 = 0 := by omega
            simp only [if_neg f0]
            refine .down rfl (by rw [fe]; rfl) rfl (fun hi => fi (ki hi)) ?_ ⟨hff, hg2, by show l.n ≤ _; omega⟩
            show (∃ j, m ≤ j ∧ j ≤ rs.length ∧ LDown (P.count).2 snap (rs.take j)) ∨ LDown (P.count).2 s []
            rw [fe]
            refine both_down kw hff hg1 (by omega) h.sn (by omega) h.rl h.hm po pz ?_ _
            rw [ps, po, List.length_append, fileOf_len]
            have : frames (rs.take m) ++ frames (rs.drop m) = frames rs := by rw [← frames_app, List.take_append_drop]
            have := congrArg List.length this
            rw [List.length_append] at this
            omega
        · have d0 : ¬ (N.count).1 = 0 := by omega
          simp only [if_neg d0]
          refine .down rfl (by rw [de]; rfl) rfl (fun hi => di (ci hi)) ?_ ⟨hff, hg2, by show l.n ≤ _; omega⟩
          show (∃ j, m ≤ j ∧ j ≤ rs.length ∧ LDown (N.count).2 snap (rs.take j)) ∨ LDown (N.count).2 s []
          rw [de]
          exact hds N aw a1 (by rw [a2, m5]) _
      · have c0 : ¬ (M.count).1 = 0 := by omega
        simp only [if_neg c0]
        refine .down rfl (by rw [ce]; rfl) rfl (by rw [← m4]; exact ci) ?_ ⟨hff, hg2, by show l.n ≤ _; omega⟩
        show (∃ j, m ≤ j ∧ j ≤ rs.length ∧ LDown (M.count).2 snap (rs.take j)) ∨ LDown (M.count).2 s []
        rw [ce]
        exact hds M mw (fun _ => rfl) (m5 _) _
theorem LOwn.newest {S : St} {l : Wlg} {snap : Bs} {rs : List Bs} {m : Nat} (h : LOwn S l snap rs m) : newest S = (l.file, l.gen, snap, frames rs) := by
  have hb := begins_file l.gen snap (frames rs) h.g2 h.sn
  rw [← h.own] at hb
  have := h.g1
  have hn := newest_of (S := S) h.ff (by rw [hb]; simp only; omega) (by rw [h.oth, hb, begins_nil]; simp only; omega)
  rw [hn, hb]
theorem LOwn.lopen {S : St} {l : Wlg} {snap : Bs} {rs : List Bs} {m : Nat} (h : LOwn S l snap rs m) : lopen S = (0, (l, snap, rs), S) := by
  have hn := h.newest
  have hr := recsOf_frames rs h.rl
  have hz := h.oth
  have hg := h.g1
  have e1 : ocut S l.file 0 = (0, S) := rfl
  have e2 : ocut2 S l.file 0 = (0, S) := by
    unfold ocut2; rw [e1]; simp only [if_true]; rw [if_neg (by rw [hz]; simp)]
  unfold YtmoihgniglomiaaDoor.lopen
  rw [if_neg (by simp [h.gone]), hn]
  simp only
  rw [if_neg (by omega), hr]
  simp only [List.length_nil]
  rw [e2, if_pos rfl]
  have : (⟨l.file, l.gen, rs.length, false⟩ : Wlg) = l := by rw [← h.n, ← h.dead]
  rw [this]
theorem LOwn.clean {S : St} {l : Wlg} {snap : Bs} {rs : List Bs} {m : Nat} (h : LOwn S l snap rs m) : Clean S := by
  unfold Clean
  rw [h.newest]
  simp only [recsOf_frames rs h.rl, h.oth]
  exact ⟨fun h => by simp at h, fun h => by simp at h⟩
theorem cut_still {S : St} (h : Still S) (hw : S.Wf) (hg : S.gone = false) (f : Nat) (hf : f < 2) (n : Nat) (hn : n ≤ (S.file f).length) :
    ((S.cut (f : Int) (n : Int)).1 = 0 ∧ (S.cut (f : Int) (n : Int)).2.Wf ∧ Still (S.cut (f : Int) (n : Int)).2 ∧ (S.cut (f : Int) (n : Int)).2.gone = false ∧ (S.cut (f : Int) (n : Int)).2.file f = (S.file f).take n ∧ (S.cut (f : Int) (n : Int)).2.file (1 - f) = S.file (1 - f) ∧ (S.inn = 0 → (S.cut (f : Int) (n : Int)).2.inn = 0)) ∨
    ((S.cut (f : Int) (n : Int)).1 = 2 ∧ (S.cut (f : Int) (n : Int)).2.Wf ∧ Still (S.cut (f : Int) (n : Int)).2 ∧ (S.cut (f : Int) (n : Int)).2.gone = true ∧ (∀ g, (S.cut (f : Int) (n : Int)).2.file g = S.file g) ∧ S.inn ≠ 0) := by
  have hs : S.safe f = (S.file f).length := by
    unfold St.safe St.file; split
    · exact h.2.1
    · exact h.2.2
  have e : S.cut (f : Int) (n : Int) = if (S.count).1 = 0 then (0, (S.count).2.cutF f n) else S.count := by
    unfold St.cut
    rw [if_neg (by simp [hg]), if_neg (by unfold St.there; simp; omega), Int.toNat_natCast, if_neg (by rw [hs]; omega)]
    rfl
  rw [e]
  rcases count_cases S with ⟨c0, ci⟩ | ⟨c2, ce, ci⟩
  · left
    rw [if_pos c0]
    obtain ⟨a1, a2, a3, a4⟩ := count_same c0
    have aw := hw.count
    have asl := h.count
    generalize (S.count).2 = N at *
    refine ⟨rfl, aw.cutF _ _ (by rw [a1]; exact hn) (by rw [a1, a2, hs]; omega), asl.cutF _ _ (by rw [a1]; exact hn), ?_, ?_, ?_, fun hi => ?_⟩
    · show (N.cutF f n).gone = false
      unfold St.cutF; split <;> (show N.gone = false; rw [a3]; exact hg)
    · rw [← a1]
      rcases (by omega : f = 0 ∨ f = 1) with rfl | rfl <;> rfl
    · rw [← a1]
      rcases (by omega : f = 0 ∨ f = 1) with rfl | rfl <;> rfl
    · have := ci hi
      show (N.cutF f n).inn = 0
      unfold St.cutF; split <;> exact this
  · right
    rw [if_neg (by omega)]
    refine ⟨c2, ?_⟩
    rw [ce]
    exact ⟨hw.lose _, h.lose _, rfl, fun g => still_lose h _ g, ci⟩
theorem LDown.lopen {S : St} {snap : Bs} {rs : List Bs} (h : LDown S snap rs) (hg : S.gone = false) :
    ((lopen S).1 = 0 ∧ (lopen S).2.1.2 = (snap, rs) ∧ LOwn (lopen S).2.2 (lopen S).2.1.1 snap rs rs.length ∧ (S.inn = 0 → (lopen S).2.2.inn = 0)) ∨
    ((lopen S).1 = 2 ∧ (lopen S).2.2.gone = true ∧ LDown (lopen S).2.2 snap rs ∧ S.inn ≠ 0) := by
  have hc := h.counts
  obtain ⟨hs1, hs2⟩ := h.says
  obtain ⟨⟨f, g, sn, b⟩, hx⟩ : ∃ x, YtmoihgniglomiaaDoor.newest S = x := ⟨_, rfl⟩
  rw [hx] at hc hs1 hs2
  simp only at hc hs1 hs2
  have hf : f < 2 := by
    unfold YtmoihgniglomiaaDoor.newest at hx
    split at hx <;> (have := congrArg Prod.fst hx; simp at this; omega)
  have hb : begins (S.file f) = (g, sn, b) := by
    unfold YtmoihgniglomiaaDoor.newest at hx
    split at hx <;> (obtain ⟨rfl, h2⟩ := Prod.mk.inj hx; exact h2)
  have hother : (begins (S.file (1 - f))).1 ≤ g ∧ (f = 1 → (begins (S.file (1 - f))).1 < g) := by
    have hgb : (begins (S.file f)).1 = g := by rw [hb]
    unfold YtmoihgniglomiaaDoor.newest at hx
    split at hx
    · rename_i hgt
      obtain ⟨rfl, h2⟩ := Prod.mk.inj hx
      have e : S.file (1 - 1) = S.f0 := rfl
      have e1 : S.file 1 = S.f1 := rfl
      rw [e1] at hgb
      rw [e]; omega
    · rename_i hgt
      obtain ⟨rfl, h2⟩ := Prod.mk.inj hx
      have e : S.file (1 - 0) = S.f1 := rfl
      have e1 : S.file 0 = S.f0 := rfl
      rw [e1] at hgb
      rw [e]; omega
  obtain ⟨i1, i2, i3⟩ := begins_is (s := S.file f) (by rw [hb]; exact hc)
  rw [hb] at i1 i2 i3
  simp only at i1 i2 i3
  obtain ⟨r1, r2⟩ := recsOf_is b.length b (Nat.le_refl _)
  rw [hs2] at r1 r2
  generalize ht : (recsOf b).2 = t at r1
  subst hs1
  have tells : ∀ T : St, T.Wf → Still T → (∃ t', T.file f = fileOf g sn ++ (frames rs ++ t') ∧ (t' = t ∨ t' = [])) → (T.file (1 - f) = S.file (1 - f) ∨ T.file (1 - f) = []) → LDown T sn rs := fun T tw ts ⟨t', t1, t2⟩ t3 => by
    have hb2 := begins_file g sn (frames rs ++ t') i2 i3
    rw [← t1] at hb2
    have ho : (begins (T.file (1 - f))).1 ≤ g ∧ (f = 1 → (begins (T.file (1 - f))).1 < g) := by
      rcases t3 with t3 | t3
      · rw [t3]; exact hother
      · rw [t3, begins_nil]; simp only; omega
    have hn : YtmoihgniglomiaaDoor.newest T = (f, g, sn, frames rs ++ t') := by
      unfold YtmoihgniglomiaaDoor.newest
      rcases (by omega : f = 0 ∨ f = 1) with rfl | rfl
      · have e0 : T.file 0 = T.f0 := rfl
        have e1 : T.file (1 - 0) = T.f1 := rfl
        rw [e0] at hb2; rw [e1] at ho
        rw [hb2, if_neg (by simp only; omega)]
      · have e0 : T.file (1 - 1) = T.f0 := rfl
        have e1 : T.file 1 = T.f1 := rfl
        rw [e1] at hb2; rw [e0] at ho
        rw [hb2, if_pos (by simp only; omega)]
    refine ⟨tw, ts, by rw [hn]; exact hc, by rw [hn], ?_⟩
    rw [hn]
    simp only
    rcases t2 with rfl | rfl
    · rw [r1, hs2]
    · rw [List.append_nil, recsOf_frames rs r2]
  have own : ∀ T : St, T.Wf → Still T → T.gone = false → T.file f = fileOf g sn ++ frames rs → T.file (1 - f) = [] → LOwn T ⟨f, g, rs.length, false⟩ sn rs rs.length := fun T tw ts tg t1 t2 =>
    ⟨tw, tg, rfl, hf, by show 1 ≤ g; omega, i2, t1, t2, i3, r2, rfl, Nat.le_refl _, by
      have : T.safe f = (T.file f).length := by
        unfold St.safe St.file; split
        · exact ts.2.1
        · exact ts.2.2
      show _ ≤ T.safe f
      rw [this, t1, List.take_length, List.length_append, fileOf_len]; omega⟩
  have hfile : S.file f = fileOf g sn ++ (frames rs ++ t) := by rw [r1]; exact i1
  have key : ((ocut2 S f t.length).1 = 0 ∧ LOwn (ocut2 S f t.length).2 ⟨f, g, rs.length, false⟩ sn rs rs.length ∧ (S.inn = 0 → (ocut2 S f t.length).2.inn = 0)) ∨ ((ocut2 S f t.length).1 = 2 ∧ (ocut2 S f t.length).2.gone = true ∧ LDown (ocut2 S f t.length).2 sn rs ∧ S.inn ≠ 0) := by
    have first : ((ocut S f t.length).1 = 0 ∧ (ocut S f t.length).2.Wf ∧ Still (ocut S f t.length).2 ∧ (ocut S f t.length).2.gone = false ∧ (ocut S f t.length).2.file f = fileOf g sn ++ frames rs ∧ (ocut S f t.length).2.file (1 - f) = S.file (1 - f) ∧ (S.inn = 0 → (ocut S f t.length).2.inn = 0)) ∨ ((ocut S f t.length).1 = 2 ∧ (ocut S f t.length).2.gone = true ∧ LDown (ocut S f t.length).2 sn rs ∧ S.inn ≠ 0) := by
      unfold ocut
      by_cases h0 : t.length > 0
      · rw [if_pos h0]
        rcases cut_still h.still h.wf hg f hf ((S.file f).length - t.length) (by omega) with ⟨c1, c2, c3, c4, c5, c6, c7⟩ | ⟨c1, c2, c3, c4, c5, c6⟩
        · refine .inl ⟨c1, c2, c3, c4, ?_, c6, c7⟩
          rw [c5, hfile, ← List.append_assoc]
          exact List.take_left' (by simp only [List.length_append]; omega)
        · exact .inr ⟨c1, c4, tells _ c2 c3 ⟨t, by rw [c5]; exact hfile, .inl rfl⟩ (.inl (c5 _)), c6⟩
      · rw [if_neg h0]
        have : t = [] := List.eq_nil_of_length_eq_zero (by omega)
        refine .inl ⟨rfl, h.wf, h.still, hg, ?_, rfl, fun h => h⟩
        rw [hfile, this, List.append_nil]
    unfold ocut2
    rcases first with ⟨c1, c2, c3, c4, c5, c6, c7⟩ | ⟨c1, c2, c3, c4⟩
    · rw [if_pos c1]
      generalize (ocut S f t.length).2 = T at *
      by_cases h0 : (T.file (1 - f)).length > 0
      · rw [if_pos h0]
        have hff : 1 - (1 - f) = f := by omega
        rcases cut_still c3 c2 c4 (1 - f) (by omega) 0 (by omega) with ⟨d1, d2, d3, d4, d5, d6, d7⟩ | ⟨d1, d2, d3, d4, d5, d6⟩
        · rw [hff] at d6
          exact .inl ⟨d1, own _ d2 d3 d4 (by rw [show ((0 : Nat) : Int) = 0 from rfl] at d6; rw [d6]; exact c5) (by rw [show ((0 : Nat) : Int) = 0 from rfl] at d5; rw [d5]; exact List.take_zero), fun hi => d7 (c7 hi)⟩
        · exact .inr ⟨d1, d4, tells _ d2 d3 ⟨[], by rw [List.append_nil]; exact (d5 f).trans c5, .inr rfl⟩ (.inl ((d5 _).trans c6)), fun hi => d6 (c7 hi)⟩
      · rw [if_neg h0]
        have hz : T.file (1 - f) = [] := List.eq_nil_of_length_eq_zero (by omega)
        exact .inl ⟨rfl, own _ c2 c3 c4 c5 hz, c7⟩
    · rw [if_neg (by omega)]
      exact .inr ⟨c1, c2, c3, c4⟩
  unfold YtmoihgniglomiaaDoor.lopen
  rw [if_neg (by simp [hg]), hx]
  simp only
  rw [if_neg hc, ht, hs2]
  rcases key with ⟨k1, k2, k3⟩ | ⟨k1, k2, k3, k4⟩
  · rw [if_pos k1]
    exact .inl ⟨rfl, rfl, k2, k3⟩
  · rw [if_neg (by omega)]
    exact .inr ⟨rfl, k2, k3, k4⟩
theorem lnew_own : (lnew (St.new [] [])).1 = 0 ∧ LOwn (lnew (St.new [] [])).2 ⟨0, 1, 0, false⟩ [] [] 0 ∧ (lnew (St.new [] [])).2.inn = 0 := by
  have e : (lnew (St.new [] [])).1 = 0 := by decide
  have hw : (St.new [] []).Wf := St.Wf.new (by simp) (by simp)
  have e2 : lnew (St.new [] []) = lays (St.new [] []) 0 1 [] := rfl
  rw [e2] at e ⊢
  obtain ⟨a, b, c, d, e'⟩ := lays_ok hw (f := 0) (by omega) e
  refine ⟨e, ⟨e', d, rfl, by decide, by decide, by decide, by rw [a]; rfl, by rw [b]; rfl, by decide, by simp, rfl, Nat.le_refl _, ?_⟩, by decide⟩
  show _ ≤ (lays (St.new [] []) 0 1 []).2.safe 0
  rw [safe2_file c, a]
  decide
end Go.Proofs.YtmoihgniglomiaaDoor
namespace Go.Proofs.YtmoihgniglomiaaDoor
open Go.ChangeShapes Go.WideShapes Go.ChangeAt Go.ChangeMaps Go.RowKit Go.Deep
structure Lif where
  script : List Op
  n : Int
  k : Int
  again : Int
section
variable {H : Type} {enc : TypeId × Value → H}
end
end Go.Proofs.YtmoihgniglomiaaDoor
namespace Go.Proofs.YtmoihgniglomiaaDoor
open Go.RowKit Go.Sort
def PA (B : Nat) (w0 : World) (q : Nat) (cs : Array Value) (p : Fp) (r : Nat) (S : St) (n k : Int) (b1 b2 : Bool) (w : World) : Prop :=
  Bk 46 w q cs ∧ ∃ uv kp, PO B w0 w p r (if b1 then (S.arm n k).2 else S) (if b2 then (S.arm n k).2 else S) uv kp
theorem mut_head {w w' : World} {p : Fp} {S : St} (hd : Dk w' p S) (ho : Only [p.b] w w') : Mut w p w' p S :=
  ⟨hd, rfl, ho.mono (fun x hx => .inl (by simp at hx; subst hx; simp [Fp.own])), fun k hk => .inl hk⟩
theorem PA.first {B : Nat} {w0 : World} {q : Nat} {cs : Array Value} {p : Fp} {r : Nat} {S : St} {n k : Int} (hB : B ≤ w0.heap.size) (hB0 : 0 < B) (hq : q ∉ p.own) (hn : n ≤ 9223372036854775807) (hk : k ≤ 9223372036854775807) (w : World) (h : PA B w0 q cs p r S n k false false w) :
    Calls Tryd.prog 22 #[p.v, .int .i64 n, .int .i64 k] w fun e w1 => e = .returned (.int .i64 ((S.arm n k).1 : Int)) ∧ PA B w0 q cs p r S n k true false w1 := by
  obtain ⟨hb, uv, kp, h⟩ := h
  refine (arm_any p S n k hn hk w h.d.dk).mono ?_
  rintro e w1 ⟨rfl, hd, ho⟩
  exact ⟨rfl, hb.only ho (by simp [Fp.own] at hq; simpa using hq.1), uv, kp, h.mut hB hB0 (mut_head hd ho)⟩
def PF (B : Nat) (w0 : World) (p : Fp) (r : Nat) (S : St) (uv : Value) (kp : Int) (b4 b6 b7 b12 : Bool) (y4 y6 : Value) (w : World) : Prop :=
  PO B w0 w p r S S uv kp ∧ (b4 = true → Two 0 w y4 S.f0 S.f1) ∧ (b6 = true → Two 0 w y6 S.f0 S.f1)
theorem PF.same {B : Nat} {w0 : World} {p : Fp} {r : Nat} {S : St} {uv : Value} {kp : Int} (hB : B ≤ w0.heap.size) (y4 y6 : Value) (w : World) (h : PF B w0 p r S uv kp true true false false y4 y6 w) :
    Calls Tryd.prog 25 #[y4, y6] w fun e w1 => e = .returned (.bool true) ∧ PF B w0 p r S uv kp true true true false y4 y6 w1 := by
  refine (same_two w y4 y6 S.f0 S.f1 0 0 (h.2.1 rfl) (h.2.2 rfl)).mono ?_
  rintro e w1 ⟨rfl, hb⟩
  exact ⟨rfl, h.1.down hB hb, fun _ => (h.2.1 rfl).below hb, fun _ => (h.2.2 rfl).below hb⟩
theorem PF.dead {B : Nat} {w0 : World} {p : Fp} {r : Nat} {S : St} {uv : Value} {kp : Int} (y4 y6 : Value) (w : World) (h : PF B w0 p r S uv kp true true true false y4 y6 w) :
    Calls Tryd.prog 28 #[p.v] w fun e w1 => e = .returned (.bool S.gone) ∧ PF B w0 p r S uv kp true true true true y4 y6 w1 := by
  refine (dead_any p S w h.1.d.dk).mono ?_
  rintro e w1 ⟨rfl, rfl⟩
  exact ⟨rfl, h⟩
theorem PO.far {B : Nat} {w0 w w1 w' : World} {p : Fp} {r : Nat} {S T : St} {uv : Value} {kp : Int} (h : PO B w0 w p r S T uv kp) (hB : B ≤ w0.heap.size) (hb : Below w.heap.size w w1) {L : List Nat} (ho : Only L w1 w') (hL : ∀ g ∈ L, w.heap.size ≤ g) : PO B w0 w' p r S T uv kp :=
  h.down hB (hb.trans (ho.below hb.size hL))
theorem PO.start {w0 w1 w2 : World} {p : Fp} {S T : St} (hd : Dk w1 p S) (hb : Below w0.heap.size w0 w1) (hp : ∀ k ∈ p.own, w0.heap.size ≤ k) (hT : Tb w0) (hk : Rk w2 w1.heap.size T (.slice none 0 0) 0) (hb2 : Below w1.heap.size w1 w2) : PO w0.heap.size w0 w2 p w1.heap.size S T (.slice none 0 0) 0 :=
  ⟨(⟨hd, hb, hp, hT.below hb⟩ : DO w0.heap.size w0 w1 p S).down (Nat.le_refl _) hb2, hk, hb.size, fun g e => by simp [Value.ownBlock] at e, fun hx => by have := hd.lt _ hx; omega, fun g e => by simp [Value.ownBlock] at e⟩
end Go.Proofs.YtmoihgniglomiaaDoor
namespace Go.Proofs.YtmoihgniglomiaaDoor
open Go.RowKit Go.Sort
def Kin (w w' : World) : Prop := ∀ (g : Nat) (cs : Array Value) (t : TypeId) (z : Nat × Nat), w.heap[g]? = some (.cells cs t z) → (t = 9 ∨ t = 46 ∨ t = 67 ∨ t = 69) → w'.heap[g]? = w.heap[g]?
theorem Kin.trans {a b c : World} (h : Kin a b) (k : Kin b c) : Kin a c := fun g cs t z hg ht => by
  have h1 := h g cs t z hg ht
  exact (k g cs t z (h1.trans hg) ht).trans h1
theorem Kin.below {w w' : World} (h : Below w.heap.size w w') : Kin w w' := fun g cs t z hg ht => h.block g (blk_lt hg)
theorem Kin.rowS {w w' : World} (k : Kin w w') {v : Value} {l : List Bs} (h : RowS w v l) : RowS w' v l := h.kept fun g e => by
  obtain ⟨_, ⟨hv, _⟩ | ⟨q, cap, cur, hv, _, hg, _⟩⟩ := h
  · rw [hv] at e; cases e
  · rw [hv] at e
    simp only [Value.ownBlock, Option.some.injEq] at e
    subst e
    exact k _ _ _ _ hg (.inl rfl)
theorem Kin.ss {w w' : World} (k : Kin w w') {v : Value} {ss : List Stt} (h : SS w v ss) : SS w' v ss := by
  obtain ⟨rvs, h1, h2, h3⟩ := h
  refine ⟨rvs, h1, owns2_of h2 fun g e _ => ?_, fun i s hi => ?_⟩
  · obtain ⟨_, ⟨hv, _⟩ | ⟨q, cap, cur, hv, _, hg, _⟩⟩ := h2
    · rw [hv] at e; cases e
    · rw [hv] at e
      simp only [Value.ownBlock, Option.some.injEq] at e
      subst e
      exact k _ _ _ _ hg (.inr (.inr (.inl rfl)))
  · obtain ⟨rv, e, r⟩ := h3 i s hi
    exact ⟨rv, e, k.rowS r⟩
theorem Kin.bk {w w' : World} (k : Kin w w') {g : Nat} {t : TypeId} {cs : Array Value} (h : Bk t w g cs) (ht : t = 9 ∨ t = 46 ∨ t = 67 ∨ t = 69) : Bk t w' g cs := (k _ _ _ _ h ht).trans h
theorem Dk.typ {w : World} {p : Fp} {S : St} (h : Dk w p S) : ∀ g ∈ p.own, ∃ cs t z, w.heap[g]? = some (.cells cs t z) ∧ (t = 93 ∨ t = 5 ∨ t = 105) := by
  intro g hg
  simp only [Fp.own, List.mem_cons, Option.mem_toList] at hg
  rcases hg with rfl | rfl | rfl | hg
  · exact ⟨_, _, _, h.blk, .inl rfl⟩
  · obtain ⟨cur, fz, h1, _⟩ := h.r0
    exact ⟨_, _, _, h1, .inr (.inl rfl)⟩
  · obtain ⟨cur, fz, h1, _⟩ := h.r1
    exact ⟨_, _, _, h1, .inr (.inl rfl)⟩
  · obtain ⟨_, ⟨hv, _⟩ | ⟨q, cap, cur, hv, _, hq, _⟩⟩ := h.rr
    · rw [hv] at hg; cases hg
    · rw [hv] at hg
      simp only [Value.ownBlock, Option.some.injEq] at hg
      subst hg
      exact ⟨_, _, _, hq, .inr (.inr rfl)⟩
theorem Dk.far {w : World} {p : Fp} {S : St} (h : Dk w p S) {g : Nat} {cs : Array Value} {t : TypeId} {z : Nat × Nat} (hg : w.heap[g]? = some (.cells cs t z)) (ht : t = 9 ∨ t = 46 ∨ t = 67 ∨ t = 69) : g ∉ p.own := fun hx => by
  obtain ⟨cs', t', z', h1, h2⟩ := h.typ g hx
  have e := hg.symm.trans h1
  simp only [Option.some.injEq, Obj.cells.injEq] at e
  obtain ⟨_, rfl, _⟩ := e
  rcases ht with rfl | rfl | rfl | rfl <;> simp at h2
theorem Mut.kin {w w' : World} {p p' : Fp} {S S' : St} (h : Dk w p S) (m : Mut w p w' p' S') : Kin w w' := fun g cs t z hg ht => m.2.2.1.block g (blk_lt hg) (h.far hg ht)
theorem Lk.far {w : World} {b : Nat} {p : Fp} {S : St} {l : Wlg} (h : Lk w b p S l) {g : Nat} {cs : Array Value} {t : TypeId} {z : Nat × Nat} (hg : w.heap[g]? = some (.cells cs t z)) (ht : t = 9 ∨ t = 46 ∨ t = 67 ∨ t = 69) : g ≠ b ∧ g ∉ p.own :=
  ⟨fun e => by
    subst e
    have e := hg.symm.trans h.blk
    simp only [Option.some.injEq, Obj.cells.injEq] at e
    obtain ⟨_, rfl, _⟩ := e
    rcases ht with h | h | h | h <;> (cases h), h.dk.far hg ht⟩
theorem LM.kin {w w' : World} {b : Nat} {p p' : Fp} {S S' : St} {l l' : Wlg} (h : Lk w b p S l) (m : LM w b p w' p' S' l') : Kin w w' := fun g cs t z hg ht => by
  obtain ⟨h1, h2⟩ := h.far hg ht
  exact m.2.2.1.block g (blk_lt hg) (by simp [h1, h2])
theorem LM.trans {w w1 w2 : World} {b : Nat} {p p1 p2 : Fp} {S1 S2 : St} {l1 l2 : Wlg} (h : LM w b p w1 p1 S1 l1) (k : LM w1 b p1 w2 p2 S2 l2) (hb : b < w.heap.size) : LM w b p w2 p2 S2 l2 := by
  refine ⟨k.1, k.2.1.trans h.2.1, h.2.2.1.trans k.2.2.1 (fun x hx => ?_), fun x hx => ?_⟩
  · rcases List.mem_cons.1 hx with rfl | hx
    · exact .inl (by simp)
    · rcases h.2.2.2 x hx with h1 | h1
      · exact .inl (by simp [h1])
      · exact .inr h1
  · rcases k.2.2.2 x hx with h1 | h1
    · exact h.2.2.2 x h1
    · exact .inr (Nat.le_trans h.2.2.1.size h1)
def MayBe (may : List Stt) (snap : Bs) (rs : List Bs) (m : Nat) : Prop := ∀ j, m ≤ j → j ≤ rs.length → (snap, rs.take j) ∈ may
theorem MayBe.one (snap : Bs) (rs : List Bs) : MayBe [(snap, rs)] snap rs rs.length := fun j h1 h2 => by
  rw [List.take_of_length_le h1]; simp
theorem MayBe.nil (s : Bs) : MayBe [(s, [])] s [] 0 := fun j h1 h2 => by simp
theorem MayBe.app {may : List Stt} {snap : Bs} {rs : List Bs} {m : Nat} (h : MayBe may snap rs m) (r : Bs) : MayBe (may ++ [(snap, rs ++ [r])]) snap (rs ++ [r]) m := fun j h1 h2 => by
  rw [List.length_append, List.length_singleton] at h2
  by_cases hj : j ≤ rs.length
  · rw [List.take_append_of_le_length hj]
    exact List.mem_append.2 (.inl (h j h1 hj))
  · rw [List.take_of_length_le (by rw [List.length_append, List.length_singleton]; omega)]
    simp
def LEnd (S : St) (l : Wlg) (may : List Stt) : Prop := (∃ snap rs m, LOwn S l snap rs m ∧ MayBe may snap rs m) ∨ (S.gone = true ∧ l.dead = true ∧ ∃ s, LDown S s.1 s.2 ∧ s ∈ may)
theorem LEnd.down {S' : St} {l' : Wlg} {may : List Stt} {snap snap2 : Bs} {rs rs2 : List Bs} {m : Nat} (h : MayBe may snap rs m) (hg : S'.gone = true) (hd : l'.dead = true) (k : (∃ j, m ≤ j ∧ j ≤ rs.length ∧ LDown S' snap (rs.take j)) ∨ LDown S' snap2 rs2) : LEnd S' l' (may ++ [(snap2, rs2)]) := by
  refine .inr ⟨hg, hd, ?_⟩
  rcases k with ⟨j, h1, h2, h3⟩ | h3
  · exact ⟨(snap, rs.take j), h3, List.mem_append.2 (.inl (h j h1 h2))⟩
  · exact ⟨(snap2, rs2), h3, by simp⟩
end Go.Proofs.YtmoihgniglomiaaDoor
namespace Go.Proofs.YtmoihgniglomiaaDoor
open Go.RowKit Go.Sort
theorem k_fa102_0 {Q : Exit → Act → World → Prop} {T : Array Value} {ds : List Deferred} {w : World} {ty : TypeId} {dst : Option Tmp} {s : Nat} {ps af g} {b : Nat} (e : T.getD s undef = .pointer (some ⟨b, 0, none⟩)) : Oper.wp Tryd.prog ⟨dst, .fieldAddr 102 (.tmp s) 0, ty, ps, af, g⟩ ⟨T, ds⟩ w (fun a' w'' => a' = Act.put ⟨T, ds⟩ dst (.pointer (some ⟨b, 0, none⟩)) ∧ w'' = w) Q := by
  go_simp
theorem k_fa102_1 {Q : Exit → Act → World → Prop} {T : Array Value} {ds : List Deferred} {w : World} {ty : TypeId} {dst : Option Tmp} {s : Nat} {ps af g} {b : Nat} (e : T.getD s undef = .pointer (some ⟨b, 0, none⟩)) : Oper.wp Tryd.prog ⟨dst, .fieldAddr 102 (.tmp s) 1, ty, ps, af, g⟩ ⟨T, ds⟩ w (fun a' w'' => a' = Act.put ⟨T, ds⟩ dst (.pointer (some ⟨b, 1, none⟩)) ∧ w'' = w) Q := by
  go_simp
theorem k_fa102_2 {Q : Exit → Act → World → Prop} {T : Array Value} {ds : List Deferred} {w : World} {ty : TypeId} {dst : Option Tmp} {s : Nat} {ps af g} {b : Nat} (e : T.getD s undef = .pointer (some ⟨b, 0, none⟩)) : Oper.wp Tryd.prog ⟨dst, .fieldAddr 102 (.tmp s) 2, ty, ps, af, g⟩ ⟨T, ds⟩ w (fun a' w'' => a' = Act.put ⟨T, ds⟩ dst (.pointer (some ⟨b, 2, none⟩)) ∧ w'' = w) Q := by
  go_simp
theorem k_fa102_3 {Q : Exit → Act → World → Prop} {T : Array Value} {ds : List Deferred} {w : World} {ty : TypeId} {dst : Option Tmp} {s : Nat} {ps af g} {b : Nat} (e : T.getD s undef = .pointer (some ⟨b, 0, none⟩)) : Oper.wp Tryd.prog ⟨dst, .fieldAddr 102 (.tmp s) 3, ty, ps, af, g⟩ ⟨T, ds⟩ w (fun a' w'' => a' = Act.put ⟨T, ds⟩ dst (.pointer (some ⟨b, 3, none⟩)) ∧ w'' = w) Q := by
  go_simp
theorem k_fa102_4 {Q : Exit → Act → World → Prop} {T : Array Value} {ds : List Deferred} {w : World} {ty : TypeId} {dst : Option Tmp} {s : Nat} {ps af g} {b : Nat} (e : T.getD s undef = .pointer (some ⟨b, 0, none⟩)) : Oper.wp Tryd.prog ⟨dst, .fieldAddr 102 (.tmp s) 4, ty, ps, af, g⟩ ⟨T, ds⟩ w (fun a' w'' => a' = Act.put ⟨T, ds⟩ dst (.pointer (some ⟨b, 4, none⟩)) ∧ w'' = w) Q := by
  go_simp
theorem k_fa43_0 {Q : Exit → Act → World → Prop} {T : Array Value} {ds : List Deferred} {w : World} {ty : TypeId} {dst : Option Tmp} {s : Nat} {ps af g} {b : Nat} (e : T.getD s undef = .pointer (some ⟨b, 0, none⟩)) : Oper.wp Tryd.prog ⟨dst, .fieldAddr 43 (.tmp s) 0, ty, ps, af, g⟩ ⟨T, ds⟩ w (fun a' w'' => a' = Act.put ⟨T, ds⟩ dst (.pointer (some ⟨b, 0, none⟩)) ∧ w'' = w) Q := by
  go_simp
theorem k_fa43_1 {Q : Exit → Act → World → Prop} {T : Array Value} {ds : List Deferred} {w : World} {ty : TypeId} {dst : Option Tmp} {s : Nat} {ps af g} {b : Nat} (e : T.getD s undef = .pointer (some ⟨b, 0, none⟩)) : Oper.wp Tryd.prog ⟨dst, .fieldAddr 43 (.tmp s) 1, ty, ps, af, g⟩ ⟨T, ds⟩ w (fun a' w'' => a' = Act.put ⟨T, ds⟩ dst (.pointer (some ⟨b, 1, none⟩)) ∧ w'' = w) Q := by
  go_simp
theorem k_fa43_2 {Q : Exit → Act → World → Prop} {T : Array Value} {ds : List Deferred} {w : World} {ty : TypeId} {dst : Option Tmp} {s : Nat} {ps af g} {b : Nat} (e : T.getD s undef = .pointer (some ⟨b, 0, none⟩)) : Oper.wp Tryd.prog ⟨dst, .fieldAddr 43 (.tmp s) 2, ty, ps, af, g⟩ ⟨T, ds⟩ w (fun a' w'' => a' = Act.put ⟨T, ds⟩ dst (.pointer (some ⟨b, 2, none⟩)) ∧ w'' = w) Q := by
  go_simp
theorem k_fa43_3 {Q : Exit → Act → World → Prop} {T : Array Value} {ds : List Deferred} {w : World} {ty : TypeId} {dst : Option Tmp} {s : Nat} {ps af g} {b : Nat} (e : T.getD s undef = .pointer (some ⟨b, 0, none⟩)) : Oper.wp Tryd.prog ⟨dst, .fieldAddr 43 (.tmp s) 3, ty, ps, af, g⟩ ⟨T, ds⟩ w (fun a' w'' => a' = Act.put ⟨T, ds⟩ dst (.pointer (some ⟨b, 3, none⟩)) ∧ w'' = w) Q := by
  go_simp
theorem k_fa46_2 {Q : Exit → Act → World → Prop} {T : Array Value} {ds : List Deferred} {w : World} {ty : TypeId} {dst : Option Tmp} {s : Nat} {ps af g} {b : Nat} (e : T.getD s undef = .pointer (some ⟨b, 0, none⟩)) : Oper.wp Tryd.prog ⟨dst, .fieldAddr 46 (.tmp s) 2, ty, ps, af, g⟩ ⟨T, ds⟩ w (fun a' w'' => a' = Act.put ⟨T, ds⟩ dst (.pointer (some ⟨b, 2, none⟩)) ∧ w'' = w) Q := by
  go_simp
theorem k_fa46_3 {Q : Exit → Act → World → Prop} {T : Array Value} {ds : List Deferred} {w : World} {ty : TypeId} {dst : Option Tmp} {s : Nat} {ps af g} {b : Nat} (e : T.getD s undef = .pointer (some ⟨b, 0, none⟩)) : Oper.wp Tryd.prog ⟨dst, .fieldAddr 46 (.tmp s) 3, ty, ps, af, g⟩ ⟨T, ds⟩ w (fun a' w'' => a' = Act.put ⟨T, ds⟩ dst (.pointer (some ⟨b, 3, none⟩)) ∧ w'' = w) Q := by
  go_simp
theorem k_fa46_4 {Q : Exit → Act → World → Prop} {T : Array Value} {ds : List Deferred} {w : World} {ty : TypeId} {dst : Option Tmp} {s : Nat} {ps af g} {b : Nat} (e : T.getD s undef = .pointer (some ⟨b, 0, none⟩)) : Oper.wp Tryd.prog ⟨dst, .fieldAddr 46 (.tmp s) 4, ty, ps, af, g⟩ ⟨T, ds⟩ w (fun a' w'' => a' = Act.put ⟨T, ds⟩ dst (.pointer (some ⟨b, 4, none⟩)) ∧ w'' = w) Q := by
  go_simp
theorem k_fa61_2 {Q : Exit → Act → World → Prop} {T : Array Value} {ds : List Deferred} {w : World} {ty : TypeId} {dst : Option Tmp} {s : Nat} {ps af g} {b : Nat} (e : T.getD s undef = .pointer (some ⟨b, 0, none⟩)) : Oper.wp Tryd.prog ⟨dst, .fieldAddr 61 (.tmp s) 2, ty, ps, af, g⟩ ⟨T, ds⟩ w (fun a' w'' => a' = Act.put ⟨T, ds⟩ dst (.pointer (some ⟨b, 2, none⟩)) ∧ w'' = w) Q := by
  go_simp
theorem k_fa61_5 {Q : Exit → Act → World → Prop} {T : Array Value} {ds : List Deferred} {w : World} {ty : TypeId} {dst : Option Tmp} {s : Nat} {ps af g} {b : Nat} (e : T.getD s undef = .pointer (some ⟨b, 0, none⟩)) : Oper.wp Tryd.prog ⟨dst, .fieldAddr 61 (.tmp s) 5, ty, ps, af, g⟩ ⟨T, ds⟩ w (fun a' w'' => a' = Act.put ⟨T, ds⟩ dst (.pointer (some ⟨b, 5, none⟩)) ∧ w'' = w) Q := by
  go_simp
theorem k_ld32 {Q : Exit → Act → World → Prop} {T : Array Value} {ds : List Deferred} {w : World} {ty : TypeId} {dst : Option Tmp} {s : Nat} {ps af g} {b o : Nat} {v : Value} (h : w.cell? ⟨b, o, none⟩ = some v) (e : T.getD s undef = .pointer (some ⟨b, o, none⟩)) : Oper.wp Tryd.prog ⟨dst, .load 32 (.tmp s), ty, ps, af, g⟩ ⟨T, ds⟩ w (fun a' w'' => a' = Act.put ⟨T, ds⟩ dst v ∧ w'' = w) Q := by
  go_simp
theorem k_ld35 {Q : Exit → Act → World → Prop} {T : Array Value} {ds : List Deferred} {w : World} {ty : TypeId} {dst : Option Tmp} {s : Nat} {ps af g} {b o : Nat} {v : Value} (h : w.cell? ⟨b, o, none⟩ = some v) (e : T.getD s undef = .pointer (some ⟨b, o, none⟩)) : Oper.wp Tryd.prog ⟨dst, .load 35 (.tmp s), ty, ps, af, g⟩ ⟨T, ds⟩ w (fun a' w'' => a' = Act.put ⟨T, ds⟩ dst v ∧ w'' = w) Q := by
  go_simp
theorem k_ld38 {Q : Exit → Act → World → Prop} {T : Array Value} {ds : List Deferred} {w : World} {ty : TypeId} {dst : Option Tmp} {s : Nat} {ps af g} {b o : Nat} {v : Value} (h : w.cell? ⟨b, o, none⟩ = some v) (e : T.getD s undef = .pointer (some ⟨b, o, none⟩)) : Oper.wp Tryd.prog ⟨dst, .load 38 (.tmp s), ty, ps, af, g⟩ ⟨T, ds⟩ w (fun a' w'' => a' = Act.put ⟨T, ds⟩ dst v ∧ w'' = w) Q := by
  go_simp
theorem k_ld4 {Q : Exit → Act → World → Prop} {T : Array Value} {ds : List Deferred} {w : World} {ty : TypeId} {dst : Option Tmp} {s : Nat} {ps af g} {b o : Nat} {v : Value} (h : w.cell? ⟨b, o, none⟩ = some v) (e : T.getD s undef = .pointer (some ⟨b, o, none⟩)) : Oper.wp Tryd.prog ⟨dst, .load 4 (.tmp s), ty, ps, af, g⟩ ⟨T, ds⟩ w (fun a' w'' => a' = Act.put ⟨T, ds⟩ dst v ∧ w'' = w) Q := by
  go_simp
theorem k_ld59 {Q : Exit → Act → World → Prop} {T : Array Value} {ds : List Deferred} {w : World} {ty : TypeId} {dst : Option Tmp} {s : Nat} {ps af g} {b o : Nat} {v : Value} (h : w.cell? ⟨b, o, none⟩ = some v) (e : T.getD s undef = .pointer (some ⟨b, o, none⟩)) : Oper.wp Tryd.prog ⟨dst, .load 59 (.tmp s), ty, ps, af, g⟩ ⟨T, ds⟩ w (fun a' w'' => a' = Act.put ⟨T, ds⟩ dst v ∧ w'' = w) Q := by
  go_simp
theorem k_ld99 {Q : Exit → Act → World → Prop} {T : Array Value} {ds : List Deferred} {w : World} {ty : TypeId} {dst : Option Tmp} {s : Nat} {ps af g} {b o : Nat} {v : Value} (h : w.cell? ⟨b, o, none⟩ = some v) (e : T.getD s undef = .pointer (some ⟨b, o, none⟩)) : Oper.wp Tryd.prog ⟨dst, .load 99 (.tmp s), ty, ps, af, g⟩ ⟨T, ds⟩ w (fun a' w'' => a' = Act.put ⟨T, ds⟩ dst v ∧ w'' = w) Q := by
  go_simp
end Go.Proofs.YtmoihgniglomiaaDoor
namespace Go.Proofs.YtmoihgniglomiaaDoor
open Go.RowKit Go.Sort
noncomputable def rPO : Array Oper := (Tryd.f52.body.bind fun c => findR c 5).getD #[]
def rP_m : List (List Nat) := [[], [], [], [], [], [], [], [], [], [8], [], [], [8], [8]]
set_option maxHeartbeats 16000000 in
theorem rP (PW : Bool → World → Prop) (rb r : Nat) (lf z : Int) (s : ByteArray) (bb : Bool) (w : World) (w0 : PW false  w.drew) (fa : IntKind.i64.wrap (z + 8) = z + 8) (fb : IntKind.i64.wrap (z + 8 + (s.size : Int)) = z + 8 + (s.size : Int)) (fd : decide (1048576 < z + 8 + (s.size : Int)) = bb) (la : ∀ (b8 : Bool) (w : World), PW b8  w → w.cell? ⟨rb, 0, none⟩ = some (.pointer (some ⟨r, 0, none⟩))) (lb : ∀ (b8 : Bool) (w : World), PW b8  w → w.cell? ⟨rb, 1, none⟩ = some (.int .i64 lf)) (cl8 : ∀ (w : World), PW false w → Calls Tryd.prog 45 #[.pointer (some ⟨r, 0, none⟩), .int .i64 lf] w fun e w1 => e = .returned (.int .i64 (z)) ∧ PW true  w1) {t2 t3 t4 t5 t6 t7 t8 t9 t10 t11 t12 t13 t14 t15 t16 t17 t18 t19 t20 t21 t22 t23 t24 t25 t26 t27 t28 t29 t30 t31 t32 t33 t34 t35 t36 t37 t38 t39 t40 t41 t42 t43 t44 t45 t46 : Value} {ds : List Deferred} {Q : Exit → Act → World → Prop}
    (h : ∀ (w1 : World), PW true  w1 → Q .normal { tmps := #[.pointer (some ⟨rb, 0, none⟩), .string s, t2, t3, t4, t5, t6, t7, t8, t9, t10, t11, .pointer (some ⟨rb, 0, none⟩), .pointer (some ⟨rb, 0, none⟩), .pointer (some ⟨rb, 0, none⟩), .pointer (some ⟨r, 0, none⟩), .pointer (some ⟨rb, 0, none⟩), .pointer (some ⟨rb, 0, none⟩), .pointer (some ⟨rb, 1, none⟩), .int .i64 lf, .int .i64 (z), .int .i64 (z + 8), .string s, .int .i64 ((s.size : Int)), .int .i64 (z + 8 + (s.size : Int)), .bool bb, t26, t27, t28, t29, t30, t31, t32, t33, t34, t35, t36, t37, t38, t39, t40, t41, t42, t43, t44, t45, t46], defers := ds } w1) :
    (Code.region 5 rPO true).wp Tryd.prog Q { tmps := #[.pointer (some ⟨rb, 0, none⟩), .string s, t2, t3, t4, t5, t6, t7, t8, t9, t10, t11, t12, t13, t14, t15, t16, t17, t18, t19, t20, t21, t22, t23, t24, t25, t26, t27, t28, t29, t30, t31, t32, t33, t34, t35, t36, t37, t38, t39, t40, t41, t42, t43, t44, t45, t46], defers := ds } w := by
  have hsz : rPO.size = 14 := by kernel_rfl
  generalize hT : List.toArray _ = T0
  have hs : T0.size = 47 := by subst hT; rfl
  have g0 : T0.getD 0 undef = .pointer (some ⟨rb, 0, none⟩) := by subst hT; rfl
  have g1 : T0.getD 1 undef = .string s := by subst hT; rfl
  obtain ⟨W, hV⟩ : ∃ W : List ((Nat × (Value → Value)) ⊕ Value), W = [.inr (.pointer (some ⟨rb, 0, none⟩)), .inr (.pointer (some ⟨rb, 0, none⟩)), .inr (.pointer (some ⟨rb, 0, none⟩)), .inr (.pointer (some ⟨r, 0, none⟩)), .inr (.pointer (some ⟨rb, 0, none⟩)), .inr (.pointer (some ⟨rb, 0, none⟩)), .inr (.pointer (some ⟨rb, 1, none⟩)), .inr (.int .i64 lf), .inr (.int .i64 (z)), .inr (.int .i64 (z + 8)), .inr (.string s), .inr (.int .i64 ((s.size : Int))), .inr (.int .i64 (z + 8 + (s.size : Int))), .inr (.bool bb)] := ⟨_, rfl⟩
  refine wp_plan (by kernel_rfl) T0 ds [8] rP_m (mkV W) (fun dx yx wx => PW (dx 8)  wx) w (by rw [hs]; kernel_rfl) (by kernel_rfl) (by kernel_rfl) (by rw [hsz]; decide) (fun cx hc ix hne ha yx vx => mkV_fix (by rw [hV]; kernel_rfl) hne ha yx vx) (?key) (fun cx hc ox ho dx yx Tx wx hd hdb hda hK hW => ?_) ⟨fun k => undef, w0⟩ (fun dx yx wx hd hW => ?_)
  case key =>
    rw [hsz]
    refine all_step (all_step (all_step (all_step (all_step (all_step (all_step (all_step (all_step (all_step (all_step (all_step (all_step (all_step all_zero ?_) ?_) ?_) ?_) ?_) ?_) ?_) ?_) ?_) ?_) ?_) ?_) ?_) ?_
    all_goals
      intro ox ho hic dx yx Tx wx hdb hK hW
      replace hdb := Lib.hid hdb
    · exact pl0 12 0 38 ho hK (by kernel_rfl) (by kernel_rfl) g0 (by subst hV; rfl) fun ps af e => k_mv e
    · exact pl1 13 12 0 0 ho hK (by kernel_rfl) (by kernel_rfl) (by subst hV; rfl) (by subst hV; rfl) fun ps af e => k_nc e
    · exact pl1 14 13 1 0 ho hK (by kernel_rfl) (by kernel_rfl) (by subst hV; rfl) (by subst hV; rfl) fun ps af e => k_fa102_0 e
    · exact pl1 15 14 2 32 ho hK (by kernel_rfl) (by kernel_rfl) (by subst hV; rfl) (by subst hV; rfl) fun ps af e => k_ld32 (la _ _ hW) e
    · exact pl0 16 0 38 ho hK (by kernel_rfl) (by kernel_rfl) g0 (by subst hV; rfl) fun ps af e => k_mv e
    · exact pl1 17 16 4 0 ho hK (by kernel_rfl) (by kernel_rfl) (by subst hV; rfl) (by subst hV; rfl) fun ps af e => k_nc e
    · exact pl1 18 17 5 0 ho hK (by kernel_rfl) (by kernel_rfl) (by subst hV; rfl) (by subst hV; rfl) fun ps af e => k_fa102_1 e
    · exact pl1 19 18 6 3 ho hK (by kernel_rfl) (by kernel_rfl) (by subst hV; rfl) (by subst hV; rfl) fun ps af e => k_ld3 (lb _ _ hW) e
    · exact absurd (by decide) hic
    · obtain ⟨ps, af, rfl⟩ := core (some 21) (.binOp BinOp.add 3 (.tmp 20) (.const (Value.int IntKind.i64 8)) 3) 3 none ho (by kernel_rfl)
      have e20 : Tx.getD 20 undef = .int .i64 (z) := hK.is 8 ho (by kernel_rfl) (by subst hV; rfl)
      exact wpOp_plain ho rfl (by subst hV; go_simp; try rfl)
    · exact pl0 22 1 9 ho hK (by kernel_rfl) (by kernel_rfl) g1 (by subst hV; rfl) fun ps af e => k_mv e
    · obtain ⟨ps, af, rfl⟩ := core (some 23) (.call { callee := .builtin Builtin.len, args := #[.tmp 22], argTypes := #[9] }) 3 none ho (by kernel_rfl)
      have e22 : Tx.getD 22 undef = .string s := hK.is 10 ho (by kernel_rfl) (by subst hV; rfl)
      exact wpOp_plain ho rfl (by subst hV; go_simp; try rfl)
    · obtain ⟨ps, af, rfl⟩ := core (some 24) (.binOp BinOp.add 3 (.tmp 21) (.tmp 23) 3) 3 none ho (by kernel_rfl)
      have e21 : Tx.getD 21 undef = .int .i64 (z + 8) := hK.is 9 ho (by kernel_rfl) (by subst hV; rfl)
      have e23 : Tx.getD 23 undef = .int .i64 ((s.size : Int)) := hK.is 11 ho (by kernel_rfl) (by subst hV; rfl)
      exact wpOp_plain ho rfl (by subst hV; go_simp; try rfl)
    · obtain ⟨ps, af, rfl⟩ := core (some 25) (.binOp BinOp.gtr 3 (.tmp 24) (.const (Value.int IntKind.i64 1048576)) 3) 4 none ho (by kernel_rfl)
      have e24 : Tx.getD 24 undef = .int .i64 (z + 8 + (s.size : Int)) := hK.is 12 ho (by kernel_rfl) (by subst hV; rfl)
      exact wpOp_plain ho rfl (by subst hV; go_simp; try rfl)
  · obtain rfl : cx = 8 := by simpa using hc
    · obtain ⟨ps, af, rfl⟩ := core (some 20) (.call { callee := .value (.func 45), args := #[.tmp 15, .tmp 19], argTypes := #[32, 3] }) 3 none ho (by kernel_rfl)
      have e15 : Tx.getD 15 undef = .pointer (some ⟨r, 0, none⟩) := hK.is 3 ho (by kernel_rfl) (by subst hV; rfl)
      have e19 : Tx.getD 19 undef = .int .i64 lf := hK.is 7 ho (by kernel_rfl) (by subst hV; rfl)
      have hW1 : PW (dx 8)  wx := hW
      clear hdb hda
      rw [hd] at hW1
      clear hd hW hc
      refine wpOp_plain ho rfl ?_
      go_simp
      go_at_call 45
      refine (cl8 _ hW1).mono ?_
      rintro ex w2 ⟨rfl, hW2⟩
      subst hV
      first | refine ⟨undef, rfl, ?_⟩ | refine ⟨⟨undef, rfl⟩, ?_⟩
      simpa [updB, upd] using hW2
  · have hW1 : PW (dx 8)  wx := hW
    rw [hd 8 (by decide)] at hW1
    have hQ := h _ hW1
    rw [hsz]
    subst hV hT
    refine cast (congrArg (fun Tx => Q .normal ⟨Tx, ds⟩ wx) ?_) hQ
    kernel_rfl
noncomputable def rQO : Array Oper := (Tryd.f52.body.bind fun c => findR c 7).getD #[]
def rQ_m : List (List Nat) := [[], [], [], [], [], [], [], [], [], [], [9], [9, 10]]
set_option maxHeartbeats 16000000 in
theorem rQ (PW : Bool → Bool → World → Prop) (rb r : Nat) (lf cd : Int) (s fr : ByteArray) (bb : Bool) (w : World) (w0 : PW false false  w.drew) (fd : (cd != 0) = bb) (la : ∀ (b9 b10 : Bool) (w : World), PW b9 b10  w → w.cell? ⟨rb, 0, none⟩ = some (.pointer (some ⟨r, 0, none⟩))) (lb : ∀ (b9 b10 : Bool) (w : World), PW b9 b10  w → w.cell? ⟨rb, 1, none⟩ = some (.int .i64 lf)) (cl9 : ∀ (w : World), PW false false w → Calls Tryd.prog 48 #[.string s] w fun e w1 => e = .returned (.string fr) ∧ PW true false  w1) (cl10 : ∀ (w : World), PW true false w → Calls Tryd.prog 46 #[.pointer (some ⟨r, 0, none⟩), .int .i64 lf, .string fr] w fun e w1 => e = .returned (.int .i64 cd) ∧ PW true true  w1) {t2 t3 t4 t5 t6 t7 t8 t9 t10 t11 t12 t13 t14 t15 t16 t17 t18 t19 t20 t21 t22 t23 t24 t25 t26 t27 t28 t29 t30 t31 t32 t33 t34 t35 t36 t37 t38 t39 t40 t41 t42 t43 t44 t45 t46 : Value} {ds : List Deferred} {Q : Exit → Act → World → Prop}
    (h : ∀ (w1 : World), PW true true  w1 → Q .normal { tmps := #[.pointer (some ⟨rb, 0, none⟩), .string s, t2, t3, t4, t5, t6, t7, t8, t9, t10, t11, t12, t13, t14, t15, t16, t17, t18, t19, t20, t21, t22, t23, t24, t25, .pointer (some ⟨rb, 0, none⟩), .pointer (some ⟨rb, 0, none⟩), .pointer (some ⟨rb, 0, none⟩), .pointer (some ⟨r, 0, none⟩), .pointer (some ⟨rb, 0, none⟩), .pointer (some ⟨rb, 0, none⟩), .pointer (some ⟨rb, 1, none⟩), .int .i64 lf, .string s, .string fr, .int .i64 cd, .bool bb, t38, t39, t40, t41, t42, t43, t44, t45, t46], defers := ds } w1) :
    (Code.region 7 rQO true).wp Tryd.prog Q { tmps := #[.pointer (some ⟨rb, 0, none⟩), .string s, t2, t3, t4, t5, t6, t7, t8, t9, t10, t11, t12, t13, t14, t15, t16, t17, t18, t19, t20, t21, t22, t23, t24, t25, t26, t27, t28, t29, t30, t31, t32, t33, t34, t35, t36, t37, t38, t39, t40, t41, t42, t43, t44, t45, t46], defers := ds } w := by
  have hsz : rQO.size = 12 := by kernel_rfl
  generalize hT : List.toArray _ = T0
  have hs : T0.size = 47 := by subst hT; rfl
  have g0 : T0.getD 0 undef = .pointer (some ⟨rb, 0, none⟩) := by subst hT; rfl
  have g1 : T0.getD 1 undef = .string s := by subst hT; rfl
  obtain ⟨W, hV⟩ : ∃ W : List ((Nat × (Value → Value)) ⊕ Value), W = [.inr (.pointer (some ⟨rb, 0, none⟩)), .inr (.pointer (some ⟨rb, 0, none⟩)), .inr (.pointer (some ⟨rb, 0, none⟩)), .inr (.pointer (some ⟨r, 0, none⟩)), .inr (.pointer (some ⟨rb, 0, none⟩)), .inr (.pointer (some ⟨rb, 0, none⟩)), .inr (.pointer (some ⟨rb, 1, none⟩)), .inr (.int .i64 lf), .inr (.string s), .inr (.string fr), .inr (.int .i64 cd), .inr (.bool bb)] := ⟨_, rfl⟩
  refine wp_plan (by kernel_rfl) T0 ds [9, 10] rQ_m (mkV W) (fun dx yx wx => PW (dx 9) (dx 10)  wx) w (by rw [hs]; kernel_rfl) (by kernel_rfl) (by kernel_rfl) (by rw [hsz]; decide) (fun cx hc ix hne ha yx vx => mkV_fix (by rw [hV]; kernel_rfl) hne ha yx vx) (?key) (fun cx hc ox ho dx yx Tx wx hd hdb hda hK hW => ?_) ⟨fun k => undef, w0⟩ (fun dx yx wx hd hW => ?_)
  case key =>
    rw [hsz]
    refine all_step (all_step (all_step (all_step (all_step (all_step (all_step (all_step (all_step (all_step (all_step (all_step all_zero ?_) ?_) ?_) ?_) ?_) ?_) ?_) ?_) ?_) ?_) ?_) ?_
    all_goals
      intro ox ho hic dx yx Tx wx hdb hK hW
      replace hdb := Lib.hid hdb
    · exact pl0 26 0 38 ho hK (by kernel_rfl) (by kernel_rfl) g0 (by subst hV; rfl) fun ps af e => k_mv e
    · exact pl1 27 26 0 0 ho hK (by kernel_rfl) (by kernel_rfl) (by subst hV; rfl) (by subst hV; rfl) fun ps af e => k_nc e
    · exact pl1 28 27 1 0 ho hK (by kernel_rfl) (by kernel_rfl) (by subst hV; rfl) (by subst hV; rfl) fun ps af e => k_fa102_0 e
    · exact pl1 29 28 2 32 ho hK (by kernel_rfl) (by kernel_rfl) (by subst hV; rfl) (by subst hV; rfl) fun ps af e => k_ld32 (la _ _ _ hW) e
    · exact pl0 30 0 38 ho hK (by kernel_rfl) (by kernel_rfl) g0 (by subst hV; rfl) fun ps af e => k_mv e
    · exact pl1 31 30 4 0 ho hK (by kernel_rfl) (by kernel_rfl) (by subst hV; rfl) (by subst hV; rfl) fun ps af e => k_nc e
    · exact pl1 32 31 5 0 ho hK (by kernel_rfl) (by kernel_rfl) (by subst hV; rfl) (by subst hV; rfl) fun ps af e => k_fa102_1 e
    · exact pl1 33 32 6 3 ho hK (by kernel_rfl) (by kernel_rfl) (by subst hV; rfl) (by subst hV; rfl) fun ps af e => k_ld3 (lb _ _ _ hW) e
    · exact pl0 34 1 9 ho hK (by kernel_rfl) (by kernel_rfl) g1 (by subst hV; rfl) fun ps af e => k_mv e
    · exact absurd (by decide) hic
    · exact absurd (by decide) hic
    · obtain ⟨ps, af, rfl⟩ := core (some 37) (.binOp BinOp.neq 28 (.tmp 36) (.const (Value.int IntKind.i64 0)) 28) 4 none ho (by kernel_rfl)
      have e36 : Tx.getD 36 undef = .int .i64 cd := hK.is 10 ho (by kernel_rfl) (by subst hV; rfl)
      exact wpOp_plain ho rfl (by subst hV; go_simp; try rfl)
  · have hcase : cx = 9 ∨ cx = 10 := by simpa using hc
    rcases hcase with rfl | rfl
    · obtain ⟨ps, af, rfl⟩ := core (some 35) (.call { callee := .value (.func 48), args := #[.tmp 34], argTypes := #[9] }) 9 none ho (by kernel_rfl)
      have e34 : Tx.getD 34 undef = .string s := hK.is 8 ho (by kernel_rfl) (by subst hV; rfl)
      have hW1 : PW (dx 9) (dx 10)  wx := hW
      have f10 := hda 10 (by decide) (by kernel_rfl)
      clear hdb hda
      rw [hd, f10] at hW1
      replace f10 := Lib.hid f10
      clear hd hW hc
      refine wpOp_plain ho rfl ?_
      go_simp
      go_at_call 48
      refine (cl9 _ hW1).mono ?_
      rintro ex w2 ⟨rfl, hW2⟩
      subst hV
      first | refine ⟨undef, rfl, ?_⟩ | refine ⟨⟨undef, rfl⟩, ?_⟩
      simpa [updB, upd, f10.out] using hW2
    · obtain ⟨ps, af, rfl⟩ := core (some 36) (.call { callee := .value (.func 46), args := #[.tmp 29, .tmp 33, .tmp 35], argTypes := #[32, 3, 9] }) 28 none ho (by kernel_rfl)
      have e29 : Tx.getD 29 undef = .pointer (some ⟨r, 0, none⟩) := hK.is 3 ho (by kernel_rfl) (by subst hV; rfl)
      have e33 : Tx.getD 33 undef = .int .i64 lf := hK.is 7 ho (by kernel_rfl) (by subst hV; rfl)
      have e35 : Tx.getD 35 undef = .string fr := hK.is 9 ho (by kernel_rfl) (by subst hV; rfl)
      have hW1 : PW (dx 9) (dx 10)  wx := hW
      have f9 := hdb 9 (by decide) (by kernel_rfl)
      clear hdb hda
      rw [hd, f9] at hW1
      replace f9 := Lib.hid f9
      clear hd hW hc
      refine wpOp_plain ho rfl ?_
      go_simp
      go_at_call 46
      refine (cl10 _ hW1).mono ?_
      rintro ex w2 ⟨rfl, hW2⟩
      subst hV
      first | refine ⟨undef, rfl, ?_⟩ | refine ⟨⟨undef, rfl⟩, ?_⟩
      simpa [updB, upd, f9.out] using hW2
  · have hW1 : PW (dx 9) (dx 10)  wx := hW
    rw [hd 9 (by decide), hd 10 (by decide)] at hW1
    have hQ := h _ hW1
    rw [hsz]
    subst hV hT
    refine cast (congrArg (fun Tx => Q .normal ⟨Tx, ds⟩ wx) ?_) hQ
    kernel_rfl
noncomputable def rRO : Array Oper := (Tryd.f56.body.bind fun c => findR c 1).getD #[]
def rR_m : List (List Nat) := [[], [], [], [], [], [], [], [], [], [8], [8], [8]]
set_option maxHeartbeats 16000000 in
theorem rR (PW : Bool → World → Prop) (rb r : Nat) (lf z : Int) (w : World) (w0 : PW false  w.drew) (fa : IntKind.i64.wrap (1048576 - z) = 1048576 - z) (fb : IntKind.i64.wrap (1048576 - z - 8) = 1048576 - z - 8) (la : ∀ (b8 : Bool) (w : World), PW b8  w → w.cell? ⟨rb, 0, none⟩ = some (.pointer (some ⟨r, 0, none⟩))) (lb : ∀ (b8 : Bool) (w : World), PW b8  w → w.cell? ⟨rb, 1, none⟩ = some (.int .i64 lf)) (cl8 : ∀ (w : World), PW false w → Calls Tryd.prog 45 #[.pointer (some ⟨r, 0, none⟩), .int .i64 lf] w fun e w1 => e = .returned (.int .i64 (z)) ∧ PW true  w1) {t1 t2 t3 t4 t5 t6 t7 t8 t9 t10 t11 t12 t13 t14 t15 t16 t17 t18 : Value} {ds : List Deferred} {Q : Exit → Act → World → Prop}
    (h : ∀ (w1 : World), PW true  w1 → Q .normal { tmps := #[.pointer (some ⟨rb, 0, none⟩), t1, t2, .int .i64 (1048576 - z - 8), .pointer (some ⟨rb, 0, none⟩), .pointer (some ⟨rb, 0, none⟩), .pointer (some ⟨rb, 0, none⟩), .pointer (some ⟨r, 0, none⟩), .pointer (some ⟨rb, 0, none⟩), .pointer (some ⟨rb, 0, none⟩), .pointer (some ⟨rb, 1, none⟩), .int .i64 lf, .int .i64 (z), .int .i64 (1048576 - z), .int .i64 (1048576 - z - 8), t15, t16, t17, t18], defers := ds } w1) :
    (Code.region 1 rRO true).wp Tryd.prog Q { tmps := #[.pointer (some ⟨rb, 0, none⟩), t1, t2, t3, t4, t5, t6, t7, t8, t9, t10, t11, t12, t13, t14, t15, t16, t17, t18], defers := ds } w := by
  have hsz : rRO.size = 12 := by kernel_rfl
  generalize hT : List.toArray _ = T0
  have hs : T0.size = 19 := by subst hT; rfl
  have g0 : T0.getD 0 undef = .pointer (some ⟨rb, 0, none⟩) := by subst hT; rfl
  obtain ⟨W, hV⟩ : ∃ W : List ((Nat × (Value → Value)) ⊕ Value), W = [.inr (.pointer (some ⟨rb, 0, none⟩)), .inr (.pointer (some ⟨rb, 0, none⟩)), .inr (.pointer (some ⟨rb, 0, none⟩)), .inr (.pointer (some ⟨r, 0, none⟩)), .inr (.pointer (some ⟨rb, 0, none⟩)), .inr (.pointer (some ⟨rb, 0, none⟩)), .inr (.pointer (some ⟨rb, 1, none⟩)), .inr (.int .i64 lf), .inr (.int .i64 (z)), .inr (.int .i64 (1048576 - z)), .inr (.int .i64 (1048576 - z - 8)), .inr (.int .i64 (1048576 - z - 8))] := ⟨_, rfl⟩
  refine wp_plan (by kernel_rfl) T0 ds [8] rR_m (mkV W) (fun dx yx wx => PW (dx 8)  wx) w (by rw [hs]; kernel_rfl) (by kernel_rfl) (by kernel_rfl) (by rw [hsz]; decide) (fun cx hc ix hne ha yx vx => mkV_fix (by rw [hV]; kernel_rfl) hne ha yx vx) (?key) (fun cx hc ox ho dx yx Tx wx hd hdb hda hK hW => ?_) ⟨fun k => undef, w0⟩ (fun dx yx wx hd hW => ?_)
  case key =>
    rw [hsz]
    refine all_step (all_step (all_step (all_step (all_step (all_step (all_step (all_step (all_step (all_step (all_step (all_step all_zero ?_) ?_) ?_) ?_) ?_) ?_) ?_) ?_) ?_) ?_) ?_) ?_
    all_goals
      intro ox ho hic dx yx Tx wx hdb hK hW
      replace hdb := Lib.hid hdb
    · exact pl0 4 0 38 ho hK (by kernel_rfl) (by kernel_rfl) g0 (by subst hV; rfl) fun ps af e => k_mv e
    · exact pl1 5 4 0 0 ho hK (by kernel_rfl) (by kernel_rfl) (by subst hV; rfl) (by subst hV; rfl) fun ps af e => k_nc e
    · exact pl1 6 5 1 0 ho hK (by kernel_rfl) (by kernel_rfl) (by subst hV; rfl) (by subst hV; rfl) fun ps af e => k_fa102_0 e
    · exact pl1 7 6 2 32 ho hK (by kernel_rfl) (by kernel_rfl) (by subst hV; rfl) (by subst hV; rfl) fun ps af e => k_ld32 (la _ _ hW) e
    · exact pl0 8 0 38 ho hK (by kernel_rfl) (by kernel_rfl) g0 (by subst hV; rfl) fun ps af e => k_mv e
    · exact pl1 9 8 4 0 ho hK (by kernel_rfl) (by kernel_rfl) (by subst hV; rfl) (by subst hV; rfl) fun ps af e => k_nc e
    · exact pl1 10 9 5 0 ho hK (by kernel_rfl) (by kernel_rfl) (by subst hV; rfl) (by subst hV; rfl) fun ps af e => k_fa102_1 e
    · exact pl1 11 10 6 3 ho hK (by kernel_rfl) (by kernel_rfl) (by subst hV; rfl) (by subst hV; rfl) fun ps af e => k_ld3 (lb _ _ hW) e
    · exact absurd (by decide) hic
    · obtain ⟨ps, af, rfl⟩ := core (some 13) (.binOp BinOp.sub 3 (.const (Value.int IntKind.i64 1048576)) (.tmp 12) 3) 3 none ho (by kernel_rfl)
      have e12 : Tx.getD 12 undef = .int .i64 (z) := hK.is 8 ho (by kernel_rfl) (by subst hV; rfl)
      exact wpOp_plain ho rfl (by subst hV; go_simp; try rfl)
    · obtain ⟨ps, af, rfl⟩ := core (some 14) (.binOp BinOp.sub 3 (.tmp 13) (.const (Value.int IntKind.i64 8)) 3) 3 none ho (by kernel_rfl)
      have e13 : Tx.getD 13 undef = .int .i64 (1048576 - z) := hK.is 9 ho (by kernel_rfl) (by subst hV; rfl)
      exact wpOp_plain ho rfl (by subst hV; go_simp; try rfl)
    · exact pl1 3 14 10 3 ho hK (by kernel_rfl) (by kernel_rfl) (by subst hV; rfl) (by subst hV; rfl) fun ps af e => k_as e
  · obtain rfl : cx = 8 := by simpa using hc
    · obtain ⟨ps, af, rfl⟩ := core (some 12) (.call { callee := .value (.func 45), args := #[.tmp 7, .tmp 11], argTypes := #[32, 3] }) 3 none ho (by kernel_rfl)
      have e7 : Tx.getD 7 undef = .pointer (some ⟨r, 0, none⟩) := hK.is 3 ho (by kernel_rfl) (by subst hV; rfl)
      have e11 : Tx.getD 11 undef = .int .i64 lf := hK.is 7 ho (by kernel_rfl) (by subst hV; rfl)
      have hW1 : PW (dx 8)  wx := hW
      clear hdb hda
      rw [hd] at hW1
      clear hd hW hc
      refine wpOp_plain ho rfl ?_
      go_simp
      go_at_call 45
      refine (cl8 _ hW1).mono ?_
      rintro ex w2 ⟨rfl, hW2⟩
      subst hV
      first | refine ⟨undef, rfl, ?_⟩ | refine ⟨⟨undef, rfl⟩, ?_⟩
      simpa [updB, upd] using hW2
  · have hW1 : PW (dx 8)  wx := hW
    rw [hd 8 (by decide)] at hW1
    have hQ := h _ hW1
    rw [hsz]
    subst hV hT
    refine cast (congrArg (fun Tx => Q .normal ⟨Tx, ds⟩ wx) ?_) hQ
    kernel_rfl
end Go.Proofs.YtmoihgniglomiaaDoor
