/- A log's bytes, cut short anywhere: which records they still tell; what bytes tell is what they are. No condition. -/
import Derived.Test.YtmoihgniglomiaaDoorZXc
set_option linter.unusedVariables false
set_option linter.unusedSimpArgs false
set_option maxRecDepth 100000
namespace Go.Proofs.YtmoihgniglomiaaDoor

/-- the bytes of records -/
def frames : List Bs → Bs
  | [] => []
  | r :: l => frame r ++ frames l
theorem frames_app (a b : List Bs) : frames (a ++ b) = frames a ++ frames b := by
  induction a with
  | nil => rfl
  | cons r l ih => simp only [List.cons_append, frames, ih, List.append_assoc]
theorem begins_file (g : Nat) (snap b : Bs) (hg : g ≤ 4611686018427387904) (hs : snap.length ≤ 524288) : begins (fileOf g snap ++ b) = (g, snap, b) := by
  have e4 : (fileOf g snap ++ b).take 4 = mark := by
    simp only [fileOf, List.append_assoc]
    exact List.take_left' rfl
  have e12 : (fileOf g snap ++ b).drop 12 = frame snap ++ b := by
    simp only [fileOf]
    rw [List.append_assoc]
    exact List.drop_left' (by simp [mark, be_len])
  have e8 : ((fileOf g snap ++ b).drop 4).take 8 = be 8 g := by
    simp only [fileOf, List.append_assoc]
    rw [show List.drop 4 (mark ++ (be 8 g ++ (frame snap ++ b))) = be 8 g ++ (frame snap ++ b) from List.drop_left' rfl]
    exact List.take_left' (be_len 8 g)
  have hv : valN (be 8 g) = g := by rw [valN_be]; exact Nat.mod_eq_of_lt (by omega)
  have hl : 12 ≤ (fileOf g snap ++ b).length := by rw [List.length_append, fileOf_len]; omega
  unfold begins
  rw [e4, e8, e12, hv, if_pos ⟨rfl, hl, hg⟩, unframed_frame snap b 524288 hs (by decide)]
theorem unframed_part (r : Bs) (q most : Nat) (hr : r.length < 4294967296) (hq : q < 8 + r.length) : unframed ((frame r).take q) most = none := by
  unfold unframed
  rw [if_neg]
  intro hw
  simp only [whole, Bool.and_eq_true, decide_eq_true_eq] at hw
  have hl : ((frame r).take q).length = q := by rw [List.length_take, frame_len]; omega
  rw [hl] at hw
  have e4 : ((frame r).take q).take 4 = be 4 r.length := by
    rw [List.take_take, show min 4 q = 4 by omega]
    simp only [frame, List.append_assoc]
    exact List.take_left' (be_len 4 _)
  have hv : valN (((frame r).take q).take 4) = r.length := by rw [e4, valN_be]; exact Nat.mod_eq_of_lt (by omega)
  rw [hv] at hw
  omega
theorem begins_short (g : Nat) (snap : Bs) (q : Nat) (hs : snap.length < 4294967296) (hq : q < 20 + snap.length) : begins ((fileOf g snap).take q) = (0, [], []) := by
  unfold begins
  split
  · rename_i h
    have hl : ((fileOf g snap).take q).length = q := by rw [List.length_take, fileOf_len]; omega
    rw [hl] at h
    have e12 : ((fileOf g snap).take q).drop 12 = (frame snap).take (q - 12) := by
      rw [List.drop_take, show (fileOf g snap).drop 12 = frame snap from List.drop_left' (by simp [mark, be_len])]
    rw [e12, unframed_part snap (q - 12) _ hs (by omega)]
  · rfl
theorem begins_nil : begins [] = (0, [], []) := rfl
/-- of records' bytes, cut short, the first records are read -/
theorem recsOf_cut : ∀ (rs : List Bs) (q : Nat), (∀ r ∈ rs, r.length ≤ 65536) → ∃ j t, j ≤ rs.length ∧ recsOf ((frames rs).take q) = (rs.take j, t) ∧ frames (rs.take j) ++ t = (frames rs).take q ∧ ∀ m, m ≤ rs.length → (frames (rs.take m)).length ≤ q → m ≤ j
  | [], q, h => ⟨0, [], by simp, by simp [frames]; rfl, by simp [frames], fun m hm _ => by simpa using hm⟩
  | r :: l, q, h => by
    have hr := h r (by simp)
    by_cases hq : q < 8 + r.length
    · refine ⟨0, (frame r).take q, by simp, ?_, ?_, fun m hm hl => ?_⟩
      · have e : (frames (r :: l)).take q = (frame r).take q := by simp only [frames]; rw [List.take_append_of_le_length (by rw [frame_len]; omega)]
        rw [e, recsOf_none (unframed_part r q _ (by omega) hq)]
        rfl
      · simp only [List.take_zero, frames, List.nil_append]
        rw [List.take_append_of_le_length (by rw [frame_len]; omega)]
      · cases m with
        | zero => exact Nat.le_refl _
        | succ m =>
          simp only [List.take_succ_cons, frames, List.length_append, frame_len] at hl
          omega
    · obtain ⟨j, t, h1, h2, h3, h4⟩ := recsOf_cut l (q - (8 + r.length)) (fun x hx => h x (by simp [hx]))
      have e : (frames (r :: l)).take q = frame r ++ (frames l).take (q - (8 + r.length)) := by
        simp only [frames]
        rw [List.take_append, List.take_of_length_le (by rw [frame_len]; omega), frame_len]
      refine ⟨j + 1, t, by simp; omega, ?_, ?_, fun m hm hl => ?_⟩
      · rw [e, recsOf_some (unframed_frame r _ 65536 hr (by decide)), h2]
        rfl
      · rw [e]
        simp only [List.take_succ_cons, frames, List.append_assoc, h3]
      · cases m with
        | zero => omega
        | succ m =>
          simp only [List.take_succ_cons, frames, List.length_append, frame_len, List.length_cons] at hl hm
          have := h4 m (by omega) (by omega)
          omega
theorem recsOf_frames (rs : List Bs) (h : ∀ r ∈ rs, r.length ≤ 65536) : recsOf (frames rs) = (rs, []) := by
  obtain ⟨j, t, h1, h2, h3, h4⟩ := recsOf_cut rs (frames rs).length h
  have := h4 rs.length (Nat.le_refl _) (by simp)
  have hj : j = rs.length := by omega
  subst hj
  simp only [List.take_length] at h2 h3
  rw [h2]
  have : t = [] := by
    have := congrArg List.length h3
    simp at this
    exact this
  rw [this]
theorem be_valN : ∀ (k : Nat) (l : Bs), l.length = k → be k (valN l) = l
  | 0, l, h => by rw [List.eq_nil_of_length_eq_zero h]; rfl
  | k + 1, l, h => by
    rcases List.eq_nil_or_concat l with rfl | ⟨a, x, rfl⟩
    · simp at h
    · rw [List.concat_eq_append] at h ⊢
      have hx := x.toNat_lt
      rw [be, valN_one, show (256 * valN a + x.toNat) / 256 = valN a by omega, show (256 * valN a + x.toNat) % 256 = x.toNat by omega, be_valN k a (by simpa using h)]
      simp
theorem unframed_is {s : Bs} {most : Nat} {r b : Bs} (h : unframed s most = some (r, b)) : s = frame r ++ b ∧ r.length ≤ most := by
  unfold unframed at h
  split at h
  · rename_i hw
    simp only [Option.some.injEq, Prod.mk.injEq] at h
    obtain ⟨rfl, rfl⟩ := h
    simp only [whole, Bool.and_eq_true, decide_eq_true_eq] at hw
    obtain ⟨⟨⟨h8, h1⟩, h2⟩, h3⟩ := hw
    have hl : ((s.drop 8).take (valN (s.take 4))).length = valN (s.take 4) := by simp only [List.length_take, List.length_drop]; omega
    refine ⟨?_, by rw [hl]; exact h1⟩
    unfold frame
    rw [hl, ← h3, be_valN 4 _ (by simp; omega), be_valN 4 _ (by simp; omega), List.append_assoc, List.take_append_drop]
    conv => lhs; rw [← List.take_append_drop 8 s]
    congr 1
    rw [show (8 : Nat) = 4 + 4 from rfl, List.take_add]
  · cases h
theorem begins_is {s : Bs} (h : (begins s).1 ≠ 0) : s = fileOf (begins s).1 (begins s).2.1 ++ (begins s).2.2 ∧ (begins s).1 ≤ 4611686018427387904 ∧ (begins s).2.1.length ≤ 524288 := by
  unfold begins at h ⊢
  split at h
  · rename_i hc
    rw [if_pos hc]
    cases hu : unframed (s.drop 12) 524288 with
    | none => rw [hu] at h; exact absurd rfl h
    | some x =>
      obtain ⟨r, b⟩ := x
      simp only
      obtain ⟨e, hr⟩ := unframed_is hu
      refine ⟨?_, hc.2.2, hr⟩
      unfold fileOf
      rw [be_valN 8 _ (by simp; omega), ← hc.1, List.append_assoc, ← e]
      conv => lhs; rw [← List.take_append_drop 12 s]
      congr 1
      rw [show (12 : Nat) = 4 + 8 from rfl, List.take_add]
  · exact absurd rfl h
theorem recsOf_is : ∀ (k : Nat) (s : Bs), s.length ≤ k → frames (recsOf s).1 ++ (recsOf s).2 = s ∧ ∀ r ∈ (recsOf s).1, r.length ≤ 65536
  | 0, s, h => by
    have : s = [] := List.eq_nil_of_length_eq_zero (by omega)
    subst this
    exact ⟨rfl, fun r hr => by cases hr⟩
  | k + 1, s, h => by
    cases hu : unframed s 65536 with
    | none => rw [recsOf_none hu]; exact ⟨rfl, fun r hr => by cases hr⟩
    | some x =>
      obtain ⟨r, b⟩ := x
      obtain ⟨e, hr⟩ := unframed_is hu
      have hl := unframed_len hu
      obtain ⟨i1, i2⟩ := recsOf_is k b (by omega)
      rw [recsOf_some hu]
      refine ⟨?_, fun x hx => ?_⟩
      · simp only [frames, List.append_assoc, i1]
        exact e.symm
      · rcases List.mem_cons.1 hx with rfl | hx
        · exact hr
        · exact i2 x hx
end Go.Proofs.YtmoihgniglomiaaDoor
