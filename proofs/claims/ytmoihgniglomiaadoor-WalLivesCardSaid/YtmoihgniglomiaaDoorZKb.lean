/- A log on its disk, and what a crash leaves of it, plainly. No condition. -/
import Derived.Test.YtmoihgniglomiaaDoorZKa
set_option linter.unusedVariables false
set_option linter.unusedSimpArgs false
set_option maxRecDepth 100000
namespace Go.Proofs.YtmoihgniglomiaaDoor

/-- a living log: its file has the snapshot and the records, of which the first m are safe; the other file is empty -/
structure LOwn (S : St) (l : Wlg) (snap : Bs) (rs : List Bs) (m : Nat) : Prop where
  wf : S.Wf
  gone : S.gone = false
  dead : l.dead = false
  ff : l.file < 2
  g1 : 1 ≤ l.gen
  g2 : l.gen ≤ 4611686018427387904
  own : S.file l.file = fileOf l.gen snap ++ frames rs
  oth : S.file (1 - l.file) = []
  sn : snap.length ≤ 524288
  rl : ∀ r ∈ rs, r.length ≤ 65536
  n : l.n = rs.length
  hm : m ≤ rs.length
  sf : 20 + snap.length + (frames (rs.take m)).length ≤ S.safe l.file
/-- all is safe, and the files tell that snapshot and those records -/
structure LDown (S : St) (snap : Bs) (rs : List Bs) : Prop where
  wf : S.Wf
  still : Still S
  counts : (newest S).2.1 ≠ 0
  says : (newest S).2.2.1 = snap ∧ (recsOf (newest S).2.2.2).1 = rs
theorem LDown.power {S : St} {snap : Bs} {rs : List Bs} (h : LDown S snap rs) (g : Bool) {n k : Nat} (hn : n ≤ 9223372036854775807) (hk : k ≤ 9223372036854775807) : LDown (S.power g n k) snap rs := ⟨h.wf.power g hn hk, h.still, h.counts, h.says⟩
theorem newest_of {S : St} {f : Nat} (hf : f < 2) (h0 : (begins (S.file f)).1 ≠ 0) (h : (begins (S.file (1 - f))).1 < (begins (S.file f)).1) : newest S = (f, begins (S.file f)) := by
  unfold newest
  rcases (by omega : f = 0 ∨ f = 1) with rfl | rfl
  · have e0 : S.file 0 = S.f0 := rfl
    have e1 : S.file (1 - 0) = S.f1 := rfl
    rw [e0] at h h0 ⊢; rw [e1] at h
    rw [if_neg (by omega)]
  · have e0 : S.file (1 - 1) = S.f0 := rfl
    have e1 : S.file 1 = S.f1 := rfl
    rw [e1] at h h0 ⊢; rw [e0] at h
    rw [if_pos h]
theorem keep_file {S : St} (h : S.Wf) (k f : Nat) (hf : f < 2) : ∃ x, S.safe f ≤ x ∧ x ≤ (S.file f).length ∧ (S.keep k).file f = (S.file f).take x := by
  have := h.left k
  rcases (by omega : f = 0 ∨ f = 1) with rfl | rfl
  · exact ⟨(S.left k).1, this.1, this.2.1, rfl⟩
  · exact ⟨(S.left k).2, this.2.2.1, this.2.2.2.1, rfl⟩
theorem keep_still {S : St} (h : S.Wf) (k : Nat) : Still (S.keep k) := by
  have := h.left k
  refine ⟨rfl, ?_, ?_⟩
  · show (S.left k).1 = (S.f0.take (S.left k).1).length
    rw [List.length_take]; omega
  · show (S.left k).2 = (S.f1.take (S.left k).2).length
    rw [List.length_take]; omega
/-- the power goes: what is left tells a beginning of the records -/
theorem LOwn.keep {S : St} {l : Wlg} {snap : Bs} {rs : List Bs} {m : Nat} (h : LOwn S l snap rs m) (k : Nat) : ∃ j, m ≤ j ∧ j ≤ rs.length ∧ LDown (S.keep k) snap (rs.take j) := by
  obtain ⟨x, x1, x2, x3⟩ := keep_file h.wf k l.file h.ff
  obtain ⟨y, y1, y2, y3⟩ := keep_file h.wf k (1 - l.file) (by omega)
  have hsf := h.sf
  have hof := h.own
  have hz : (S.keep k).file (1 - l.file) = [] := by rw [y3, h.oth]; simp
  have ho : (S.keep k).file l.file = fileOf l.gen snap ++ (frames rs).take (x - (20 + snap.length)) := by
    rw [x3, hof, List.take_append, List.take_of_length_le (by rw [fileOf_len]; omega), fileOf_len]
  obtain ⟨j, t, h1, h2, h3, h4⟩ := recsOf_cut rs (x - (20 + snap.length)) h.rl
  have hb := begins_file l.gen snap ((frames rs).take (x - (20 + snap.length))) h.g2 h.sn
  rw [← ho] at hb
  have hn : newest (S.keep k) = (l.file, begins ((S.keep k).file l.file)) := newest_of h.ff (by rw [hb]; have := h.g1; simp only; omega) (by rw [hz, hb, begins_nil]; have := h.g1; simp only; omega)
  rw [hb] at hn
  refine ⟨j, h4 m h.hm (by omega), h1, h.wf.keep k, keep_still h.wf k, ?_, ?_⟩
  · rw [hn]; have := h.g1; simp only; omega
  · rw [hn]; exact ⟨rfl, by simp only [h2]⟩
theorem LOwn.lose {S : St} {l : Wlg} {snap : Bs} {rs : List Bs} {m : Nat} (h : LOwn S l snap rs m) (k : Nat) : ∃ j, m ≤ j ∧ j ≤ rs.length ∧ LDown (S.lose k) snap (rs.take j) := by
  obtain ⟨j, h1, h2, h3⟩ := h.keep k
  exact ⟨j, h1, h2, h3.power _ (by omega) (by omega)⟩
theorem lose_gone (S : St) (k : Nat) : (S.lose k).gone = true := rfl
theorem lose_inn (S : St) (k : Nat) : (S.lose k).inn = 0 := rfl
theorem count_cases (S : St) : ((S.count).1 = 0 ∧ (S.inn = 0 → (S.count).2.inn = 0)) ∨ ((S.count).1 = 2 ∧ (S.count).2 = S.lose S.lft ∧ S.inn ≠ 0) := by
  unfold St.count
  split
  · rename_i h0; exact .inl ⟨rfl, fun _ => h0⟩
  · rename_i h0
    split
    · exact .inl ⟨rfl, fun h => absurd h h0⟩
    · exact .inr ⟨rfl, rfl, h0⟩
/-- a counted change leaves the log as it is -/
theorem LOwn.count {S : St} {l : Wlg} {snap : Bs} {rs : List Bs} {m : Nat} (h : LOwn S l snap rs m) (h0 : (S.count).1 = 0) : LOwn (S.count).2 l snap rs m := by
  obtain ⟨a, b, c, d, e, f⟩ := count_ok h0
  refine ⟨h.wf.count, by rw [f]; exact h.gone, h.dead, h.ff, h.g1, h.g2, ?_, ?_, h.sn, h.rl, h.n, h.hm, ?_⟩
  · rw [← h.own]; unfold St.file; rw [a, b]
  · rw [← h.oth]; unfold St.file; rw [a, b]
  · refine Nat.le_trans h.sf (Nat.le_of_eq ?_); unfold St.safe; rw [c, d]
theorem LOwn.arm {S : St} {l : Wlg} {snap : Bs} {rs : List Bs} {m : Nat} (h : LOwn S l snap rs m) (n k : Int) (hn : n ≤ 9223372036854775807) (hk : k ≤ 9223372036854775807) : LOwn (S.arm n k).2 l snap rs m := by
  unfold St.arm
  split
  · exact h
  · split
    · exact h
    · exact ⟨h.wf.power _ (by omega) (by omega), rfl, h.dead, h.ff, h.g1, h.g2, h.own, h.oth, h.sn, h.rl, h.n, h.hm, h.sf⟩
theorem LOwn.revive {S : St} {l : Wlg} {snap : Bs} {rs : List Bs} {m : Nat} (h : LOwn S l snap rs m) : LOwn S.revive l snap rs m := ⟨h.wf.power _ (by omega) (by omega), rfl, h.dead, h.ff, h.g1, h.g2, h.own, h.oth, h.sn, h.rl, h.n, h.hm, h.sf⟩
/-- what a call on a log leaves: refused; done; the power went -/
inductive LCall (S : St) (l : Wlg) (snap : Bs) (rs : List Bs) (m : Nat) (snap2 : Bs) (rs2 : List Bs) (m2 : Nat) (x : Nat × St × Wlg) : Prop where
  | no (h0 : x.1 = 101 ∨ x.1 = 102) (h : x.2 = (S, l))
  | ok (h0 : x.1 = 0) (h : LOwn x.2.1 x.2.2 snap2 rs2 m2) (hi : S.inn = 0 → x.2.1.inn = 0)
  | down (h0 : x.1 = 2) (hg : x.2.1.gone = true) (hd : x.2.2.dead = true) (hi : S.inn ≠ 0) (h : (∃ j, m ≤ j ∧ j ≤ rs.length ∧ LDown x.2.1 snap (rs.take j)) ∨ LDown x.2.1 snap2 rs2) (h2 : x.2.2.file < 2 ∧ x.2.2.gen ≤ 4611686018427387904 ∧ x.2.2.n ≤ 4611686018427387904)
theorem LOwn.lay {S : St} {l : Wlg} {snap : Bs} {rs : List Bs} {m : Nat} (h : LOwn S l snap rs m) (r : Bs) (hr : r.length ≤ 65536) (hl : (S.file l.file).length + (frame r).length ≤ 1048576) : LOwn (S.lay l.file (frame r)) { l with n := l.n + 1 } snap (rs ++ [r]) m := by
  have hm := h.hm
  have ho := h.own
  have hz := h.oth
  have hs := h.sf
  refine ⟨h.wf.lay _ _ h.ff hl, ?_, h.dead, h.ff, h.g1, h.g2, ?_, ?_, h.sn, ?_, ?_, ?_, ?_⟩
  · unfold St.lay; split <;> exact h.gone
  · rw [frames_app]
    simp only [frames, List.append_nil]
    rw [← List.append_assoc, ← ho]
    rcases (by have := h.ff; omega : l.file = 0 ∨ l.file = 1) with e | e
    · rw [e]; rfl
    · rw [e]; rfl
  · rw [← hz]
    rcases (by have := h.ff; omega : l.file = 0 ∨ l.file = 1) with e | e
    · rw [e]; rfl
    · rw [e]; rfl
  · intro x hx
    rcases List.mem_append.1 hx with hx | hx
    · exact h.rl x hx
    · simp at hx; rw [hx]; exact hr
  · rw [List.length_append]; simp only [h.n]; rfl
  · rw [List.length_append]; omega
  · rw [List.take_append_of_le_length hm]
    refine Nat.le_trans hs (Nat.le_of_eq ?_)
    show S.safe l.file = (S.lay l.file (frame r)).safe l.file
    unfold St.lay St.safe
    rcases (by have := h.ff; omega : l.file = 0 ∨ l.file = 1) with e | e
    · rw [e]; rfl
    · rw [e]; rfl
theorem LOwn.many {S : St} {l : Wlg} {snap : Bs} {rs : List Bs} {m : Nat} (h : LOwn S l snap rs m) : l.n ≤ 1048576 := by
  have hl := file_le h.wf l.file
  have : ∀ a : List Bs, a.length ≤ (frames a).length := fun a => by
    induction a with
    | nil => exact Nat.le_refl _
    | cons r l ih => simp only [frames, List.length_append, frame_len, List.length_cons]; omega
  have h2 := this rs
  rw [h.own, List.length_append] at hl
  rw [h.n]; omega
theorem LOwn.lap {S : St} {l : Wlg} {snap : Bs} {rs : List Bs} {m : Nat} (h : LOwn S l snap rs m) (r : Bs) : LCall S l snap rs m snap (rs ++ [r]) m (lap S l r) := by
  have hff := h.ff
  unfold YtmoihgniglomiaaDoor.lap
  rw [if_neg (by simp [h.gone, h.dead])]
  split
  · exact .no (.inl rfl) rfl
  · rename_i h1
    split
    · exact .no (.inr rfl) rfl
    · rename_i h2
      have hroom : (S.file l.file).length + (frame r).length ≤ 1048576 := by rw [frame_len]; unfold room at h2; omega
      have hy := h.lay r (by omega) hroom
      have e : S.append (l.file : Int) (frame r) = (S.lay l.file (frame r)).count := by
        unfold St.append
        rw [if_neg (by simp [h.gone]), if_neg (by unfold St.there; simp; omega), Int.toNat_natCast, if_neg (by omega)]
      have hin : (S.lay l.file (frame r)).inn = S.inn := by unfold St.lay; split <;> rfl
      rw [e]
      rcases count_cases (S.lay l.file (frame r)) with ⟨c0, ci⟩ | ⟨c2, ce, ci⟩
      · rw [if_pos c0]
        exact .ok rfl (hy.count c0) (fun hi => ci (by rw [hin]; exact hi))
      · rw [if_neg (by omega)]
        obtain ⟨j, j1, j2, j3⟩ := hy.lose (S.lay l.file (frame r)).lft
        have hmany := h.many
        refine .down rfl (by rw [ce]; rfl) rfl (by rw [← hin]; exact ci) ?_ ⟨hff, h.g2, by show l.n ≤ _; omega⟩
        rw [ce]
        by_cases hj : j ≤ rs.length
        · rw [List.take_append_of_le_length hj] at j3
          exact .inl ⟨j, j1, hj, j3⟩
        · rw [List.take_of_length_le (by simp; omega)] at j3
          exact .inr j3
theorem LOwn.lsync {S : St} {l : Wlg} {snap : Bs} {rs : List Bs} {m : Nat} (h : LOwn S l snap rs m) : LCall S l snap rs m snap rs rs.length (lsync S l) := by
  have hff := h.ff
  unfold YtmoihgniglomiaaDoor.lsync
  rw [if_neg (by simp [h.gone, h.dead])]
  have e : S.sync = if (S.count).1 = 0 then (0, (S.count).2.keep (S.count).2.waiting) else S.count := by
    unfold St.sync; rw [if_neg (by simp [h.gone])]
  rw [e]
  rcases count_cases S with ⟨c0, ci⟩ | ⟨c2, ce, ci⟩
  · rw [if_pos c0, if_pos rfl]
    have hc := h.count c0
    obtain ⟨a, b, c, d⟩ := keep_all2 hc.wf
    refine .ok rfl ⟨hc.wf.keep _, by rw [d]; exact hc.gone, hc.dead, hc.ff, hc.g1, hc.g2, ?_, ?_, hc.sn, hc.rl, hc.n, Nat.le_refl _, ?_⟩ ci
    · rw [← hc.own]; unfold St.file; simp only [a, b]
    · rw [← hc.oth]; unfold St.file; simp only [a, b]
    · rw [safe2_file c]
      have : ((S.count).2.keep (S.count).2.waiting).file l.file = fileOf l.gen snap ++ frames rs := by rw [← hc.own]; unfold St.file; simp only [a, b]
      rw [this, List.take_length, List.length_append, fileOf_len]
      omega
  · have c0 : ¬ (S.count).1 = 0 := by omega
    simp only [if_neg c0]
    obtain ⟨j, j1, j2, j3⟩ := h.lose S.lft
    have hmany := h.many
    exact .down rfl (by rw [ce]; rfl) rfl ci (.inl ⟨j, j1, j2, by rw [ce]; exact j3⟩) ⟨hff, h.g2, by show l.n ≤ _; omega⟩
/-- under way to a new file: both are there -/
theorem both_down {M : St} {f g : Nat} {snap snap2 : Bs} {rs : List Bs} {m : Nat} (hw : M.Wf) (hf : f < 2) (g1 : 1 ≤ g) (g2 : g + 1 ≤ 4611686018427387904) (hs : snap.length ≤ 524288) (hs2 : snap2.length ≤ 524288) (hr : ∀ r ∈ rs, r.length ≤ 65536) (hm : m ≤ rs.length)
    (ho : M.file f = fileOf g snap ++ frames rs) (hz : M.file (1 - f) = fileOf (g + 1) snap2) (hsf : 20 + snap.length + (frames (rs.take m)).length ≤ M.safe f) (k : Nat) :
    (∃ j, m ≤ j ∧ j ≤ rs.length ∧ LDown (M.lose k) snap (rs.take j)) ∨ LDown (M.lose k) snap2 [] := by
  obtain ⟨x, x1, x2, x3⟩ := keep_file hw k f hf
  obtain ⟨y, y1, y2, y3⟩ := keep_file hw k (1 - f) (by omega)
  have ho' : (M.keep k).file f = fileOf g snap ++ (frames rs).take (x - (20 + snap.length)) := by
    rw [x3, ho, List.take_append, List.take_of_length_le (by rw [fileOf_len]; omega), fileOf_len]
  have hb := begins_file g snap ((frames rs).take (x - (20 + snap.length))) (by omega) hs
  rw [← ho'] at hb
  rw [hz] at y2 y3
  rw [fileOf_len] at y2
  by_cases hy : y = 20 + snap2.length
  · right
    have hz' : (M.keep k).file (1 - f) = fileOf (g + 1) snap2 ++ [] := by rw [y3, List.append_nil]; exact List.take_of_length_le (by rw [fileOf_len]; omega)
    have hb2 := begins_file (g + 1) snap2 [] g2 hs2
    rw [← hz'] at hb2
    have hff : 1 - (1 - f) = f := by omega
    have hn : newest (M.keep k) = (1 - f, begins ((M.keep k).file (1 - f))) := newest_of (by omega) (by rw [hb2]; simp) (by rw [hff, hb, hb2]; simp)
    rw [hb2] at hn
    have hd : LDown (M.keep k) snap2 [] := ⟨hw.keep k, keep_still hw k, by rw [hn]; simp, by rw [hn]; exact ⟨rfl, rfl⟩⟩
    exact hd.power _ (by omega) (by omega)
  · left
    obtain ⟨j, t, h1, h2, h3, h4⟩ := recsOf_cut rs (x - (20 + snap.length)) hr
    have hb2 : begins ((M.keep k).file (1 - f)) = (0, [], []) := by rw [y3]; exact begins_short _ _ _ (by omega) (by omega)
    have hn : newest (M.keep k) = (f, begins ((M.keep k).file f)) := newest_of hf (by rw [hb]; simp only; omega) (by rw [hb2, hb]; simp only; omega)
    rw [hb] at hn
    have hd : LDown (M.keep k) snap (rs.take j) := ⟨hw.keep k, keep_still hw k, by rw [hn]; simp only; omega, by rw [hn]; exact ⟨rfl, by simp only [h2]⟩⟩
    exact ⟨j, h4 m hm (by omega), h1, hd.power _ (by omega) (by omega)⟩
end Go.Proofs.YtmoihgniglomiaaDoor
