/- Pairs that are written as a form are read as what they were, in their order, none lost and none merged. No condition. -/
import Derived.Test.YtlifnfchemiipaaDoorW
import Derived.Test.YtlifnfchemiipaaDoorR
namespace Go.Proofs.YtlifnfchemiipaaDoor

theorem index_no (c : UInt8) : ∀ x : List UInt8, c ∉ x → Lib.index x [c] = -1
  | [], _ => by rw [Lib.index, if_neg (by simp)]
  | b :: x, h => by
    have hb : ¬ c = b := fun e => h (by simp [e])
    rw [Lib.index, if_neg (by simpa [List.isPrefixOf] using hb), index_no c x (fun e => h (by simp [e]))]
    rfl
theorem index_at (c : UInt8) (y : List UInt8) : ∀ x : List UInt8, c ∉ x → Lib.index (x ++ c :: y) [c] = x.length
  | [], _ => by
    show Lib.index (c :: y) [c] = _
    rw [Lib.index, if_pos (by simp [List.isPrefixOf])]; rfl
  | b :: x, h => by
    have hb : ¬ c = b := fun e => h (by simp [e])
    show Lib.index (b :: (x ++ c :: y)) [c] = _
    rw [Lib.index, if_neg (by simpa [List.isPrefixOf] using hb), index_at c y x (fun e => h (by simp [e])), if_neg (by simp <;> omega)]
    simp
theorem split_no (x : List UInt8) (h : (38 : UInt8) ∉ x) : splitL x = [x] := by
  have h0 : Lib.count x [38] = 0 := by rw [Lib.count_one]; exact List.count_eq_zero.2 h
  rw [splitL, h0]; rfl
theorem split_at (x y : List UInt8) (h : (38 : UInt8) ∉ x) : splitL (x ++ 38 :: y) = x :: splitL y := by
  have h0 : Lib.count (x ++ 38 :: y) [38] = Lib.count y [38] + 1 := by
    rw [Lib.count_one, Lib.count_one, List.count_append, List.count_eq_zero.2 h]; simp
  rw [splitL, h0, Lib.splitK, index_at 38 y x h, if_neg (by simp <;> omega)]
  simp [splitL]
theorem cut_at (x y : List UInt8) (h : (61 : UInt8) ∉ x) : Lib.cut (x ++ 61 :: y) [61] = (x, y, true) := by
  rw [Lib.cut, index_at 61 y x h, if_pos (by omega)]
  simp

theorem word_marks (c : UInt8) : (38 : UInt8) ∉ wordOne c ∧ (61 : UInt8) ∉ wordOne c ∧ unplus (wordOne c) = if c = 32 then [32] else pctOne c :=
  all_u8 (p := fun c => (38 : UInt8) ∉ wordOne c ∧ (61 : UInt8) ∉ wordOne c ∧ unplus (wordOne c) = if c = 32 then [32] else pctOne c) (by decide +kernel) c
theorem word_no38 (l : List UInt8) : (38 : UInt8) ∉ wordL l := by
  intro h
  obtain ⟨c, _, hc⟩ := List.mem_flatMap.1 h
  exact (word_marks c).1 hc
theorem word_no61 (l : List UInt8) : (61 : UInt8) ∉ wordL l := by
  intro h
  obtain ⟨c, _, hc⟩ := List.mem_flatMap.1 h
  exact (word_marks c).2.1 hc
theorem unword_word : ∀ l : List UInt8, unwordL (wordL l) = some l
  | [] => rfl
  | c :: l => by
    have ih := unword_word l
    have e : wordL (c :: l) = wordOne c ++ wordL l := by simp [wordL]
    have e2 : unplus (wordOne c ++ wordL l) = unplus (wordOne c) ++ unplus (wordL l) := by simp [unplus]
    rw [unwordL] at ih ⊢
    rw [e, e2, (word_marks c).2.2]
    by_cases h : c = 32
    · subst h
      rw [if_pos rfl]
      show unpctL (32 :: unplus (wordL l)) = _
      rw [unpctL_self _ _ (by decide), ih]; rfl
    · rw [if_neg h, unpct_one, ih]; rfl

def piece (p : List UInt8 × List UInt8) : List UInt8 := wordL p.1 ++ 61 :: wordL p.2
theorem piece_no38 (p : List UInt8 × List UInt8) : (38 : UInt8) ∉ piece p := by
  intro h
  rcases List.mem_append.1 h with h | h
  · exact word_no38 _ h
  · rcases List.mem_cons.1 h with h | h
    · exact absurd h (by decide)
    · exact word_no38 _ h
theorem part_piece (p : List UInt8 × List UInt8) : partR (piece p) = (0, p.1, p.2) := by
  rw [partR, if_neg (by simp [piece]), piece, cut_at _ _ (word_no61 _), unword_word, unword_word]
theorem split_body : ∀ (ps : Parts) (p : List UInt8 × List UInt8), splitL (piece p ++ ps.flatMap pairOne) = piece p :: ps.map piece
  | [], p => by
    simp only [List.flatMap_nil, List.append_nil, List.map_nil]
    exact split_no _ (piece_no38 p)
  | q :: qs, p => by
    have e : (q :: qs).flatMap pairOne = 38 :: (piece q ++ qs.flatMap pairOne) := by simp [List.flatMap_cons, pairOne, piece]
    rw [e, split_at _ _ (piece_no38 p), split_body qs q]; rfl
theorem run_pieces : ∀ l : Parts, runParts (l.map piece) = (0, l)
  | [] => rfl
  | p :: l => by
    rw [List.map_cons, runParts, part_piece, run_pieces l]
    simp [after]
theorem form_back (l : Parts) (t : List UInt8) (h : formL l = some t) : unformL t = (0, l) := by
  unfold formL at h
  split at h
  · cases h
  · split at h
    · cases h
    · rename_i h64 h8
      injection h with h
      subst h
      cases l with
      | nil => rfl
      | cons p ps =>
        have e : formBody (p :: ps) = piece p ++ ps.flatMap pairOne := by simp [formBody, pairOne, piece]
        have hne : formBody (p :: ps) ≠ [] := by rw [e]; simp [piece]
        have hsp : splitL (formBody (p :: ps)) = (p :: ps).map piece := by rw [e, split_body]; rfl
        rw [unformL, if_neg h8, if_neg hne, hsp, if_neg (by simpa using h64), run_pieces]
end Go.Proofs.YtlifnfchemiipaaDoor
