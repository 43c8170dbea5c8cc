/- What codec.Form answers: the form of the pairs, or the error 14. Conditions: at most 1073741824 pairs of texts of at most so many bytes; the library's variable holds a number. -/
import Derived.Test.YtlifnfchemiipaaDoorP
set_option linter.unusedSimpArgs false
namespace Go.Proofs.YtlifnfchemiipaaDoor
open Go.RowKit

def pairOne (p : List UInt8 × List UInt8) : List UInt8 := 38 :: (wordL p.1 ++ 61 :: wordL p.2)
def formBody (l : List (List UInt8 × List UInt8)) : List UInt8 := (l.flatMap pairOne).drop 1
def formL (l : List (List UInt8 × List UInt8)) : Option (List UInt8) := if 64 < l.length then none else if 8192 < (formBody l).length then none else some (formBody l)

theorem wordOne_len (c : UInt8) : 1 ≤ (wordOne c).length ∧ (wordOne c).length ≤ 3 := by
  unfold wordOne pctOne
  repeat' split
  all_goals simp
theorem wordL_len (l : List UInt8) : l.length ≤ (wordL l).length ∧ (wordL l).length ≤ 3 * l.length := by
  induction l with
  | nil => simp [wordL]
  | cons c l ih =>
    have := wordOne_len c
    simp [wordL, List.flatMap_cons] at ih ⊢; omega
theorem body_first (p : List UInt8 × List UInt8) : formBody [p] = wordL p.1 ++ 61 :: wordL p.2 := by simp [formBody, pairOne]
theorem body_snoc (l : List (List UInt8 × List UInt8)) (p : List UInt8 × List UInt8) (h : l ≠ []) : formBody (l ++ [p]) = formBody l ++ 38 :: (wordL p.1 ++ 61 :: wordL p.2) := by
  cases l with
  | nil => exact absurd rfl h
  | cons q l => simp [formBody, pairOne]
theorem flat_len (l : List (List UInt8 × List UInt8)) (p : List UInt8 × List UInt8) (h : p ∈ l) : p.1.length + p.2.length + 2 ≤ (l.flatMap pairOne).length := by
  induction l with
  | nil => cases h
  | cons q l ih =>
    rcases List.mem_cons.1 h with e | e
    · subst e
      have h1 := (wordL_len p.1).1
      have h2 := (wordL_len p.2).1
      rw [List.flatMap_cons, List.length_append, pairOne]; simp only [List.length_cons, List.length_append]; omega
    · have := ih e
      rw [List.flatMap_cons, List.length_append]; omega
theorem body_len (l : List (List UInt8 × List UInt8)) (p : List UInt8 × List UInt8) (h : p ∈ l) : p.1.length ≤ (formBody l).length ∧ p.2.length ≤ (formBody l).length := by
  have := flat_len l p h
  simp only [formBody, List.length_drop]; omega
theorem piece_len (p : List UInt8 × List UInt8) (h1 : p.1.length ≤ 8192) (h2 : p.2.length ≤ 8192) : (wordL p.1 ++ 61 :: wordL p.2).length ≤ 49153 := by
  have := (wordL_len p.1).2
  have := (wordL_len p.2).2
  simp; omega

/-- a block of two texts, that is no row of bytes, keeps over what the builder does -/
theorem others_blk {w w' : World} {B P : Nat} {cs : Array Value} (h : Lib.OthersKept 5 (some B) w w') (hk : w.heap[P]? = some (.cells cs 34 (0, 0))) (hne : P ≠ B) : w'.heap[P]? = some (.cells cs 34 (0, 0)) :=
  h P _ hk (by simpa using hne) (by intro c fz e; injection e with _ e; cases e)
theorem len_b (B : Nat) (l : List UInt8) (w : World) (h : Bd B l w) : Calls Tryd.prog 40 #[.pointer (some ⟨B, 0, none⟩)] w fun e w' => e = .returned (.int .i64 l.length) ∧ w = w' := by
  refine (Tryd.Builder_Len_f B B (Lib.byteCells l) w h).mono ?_
  rintro e w' ⟨rfl, h2⟩
  exact ⟨by rw [Lib.byteCells_length], h2.symm⟩

set_option maxHeartbeats 4000000 in
set_option maxRecDepth 100000 in
theorem form_any (v : Value) (l : List (List UInt8 × List UInt8)) (w : World) (hP : PartsIn w v l) (hm : Hm w) (hn : l.length ≤ 1073741824) (hsz : ∀ p, p ∈ l → p.1.length ≤ 1073741824 ∧ p.2.length ≤ 1073741824) :
    Calls Tryd.prog 24 #[v] w fun e w' => e = Two (formL l) 14 ∧ Below w.heap.size w w' := by
  obtain ⟨A, cap, rfl, hc⟩ := hP
  by_cases h64 : 64 < l.length
  · have HF : Hid (formL l = none) := by rw [formL, if_pos h64]; rfl
    have ht : (64 : Int) < (l.length : Int) := by omega
    go_enter Tryd.func24, Tryd.ntmps24
    go_wp2
    go_ret2
    exact ⟨by rw [HF.out]; rfl, Below.refl _ _⟩
  by_cases hl : l = []
  · subst hl
    go_enter Tryd.func24, Tryd.ntmps24
    go_wp2
    go_loopw [12] (fun i wr => i = .int .i64 0 ∧ Bd w.heap.size [] wr ∧ Below w.heap.size w wr) (fun _ _ => 0)
    case atStart => exact ⟨rfl, Bd.start w, (Below.refl _ _).alloc (Nat.le_refl _) _⟩
    case round =>
      obtain ⟨rfl, hI, hb⟩ := hrel
      go_wp2_with (first | (go_at_call 40; refine (len_b _ _ _ hI).mono ?_; rintro e w' ⟨rfl, rfl⟩))
      refine (string_b w.heap.size _ _ hI).mono ?_
      rintro e w1 ⟨rfl, h1⟩
      go_wp2
      go_ret2
      exact ⟨rfl, hb.trans h1⟩
  obtain ⟨b, off, rfl, hlt, hc⟩ := hc hl
  clear hl
  have ht : ¬ (64 : Int) < (l.length : Int) := by omega
  go_enter Tryd.func24, Tryd.ntmps24
  go_wp2
  go_loopw [12] (fun i wr => ∃ k : Nat, k ≤ l.length ∧ i = .int .i64 k ∧ (formBody (l.take k)).length ≤ k * 49154 ∧ Bd w.heap.size (formBody (l.take k)) wr ∧ Below w.heap.size w wr) (fun i _ => l.length - (intOf i).toNat)
  case atStart => exact ⟨0, by omega, rfl, by simp [formBody], Bd.start w, (Below.refl _ _).alloc (Nat.le_refl _) _⟩
  case round =>
    obtain ⟨k, hk, rfl, hfl, hI, hb⟩ := hrel
    have hbs := hb.size
    by_cases hlk : k < l.length
    · have hcc := hc.below hlt hb
      obtain ⟨c0, c1⟩ := hcc k hlk
      unfold strV at c0 c1
      clear hcc hc
      have hS := hsz l[k] (List.getElem_mem hlk)
      have hBL := body_len l l[k] (List.getElem_mem hlk)
      by_cases hx : 8192 < l[k].1.length
      · have HF : Hid (formL l = none) := by rw [formL, if_neg h64, if_pos (by omega)]; rfl
        go_wp2
        go_ret2
        exact ⟨by rw [HF.out]; rfl, hb.alloc hbs _⟩
      by_cases hy : 8192 < l[k].2.length
      · have HF : Hid (formL l = none) := by rw [formL, if_neg h64, if_pos (by omega)]; rfl
        go_wp2
        go_ret2
        exact ⟨by rw [HF.out]; rfl, hb.alloc hbs _⟩
      clear hBL
      have hBlt := hI.lt
      have hw1 := (wordL_len l[k].1).2
      have hw2 := (wordL_len l[k].2).2
      have hT := take_succ l k hlk
      have HT := Lib.hid hT
      have hlen : (formBody (l.take (k + 1))).length ≤ (k + 1) * 49154 := by
        have hp := piece_len l[k] (by omega) (by omega)
        rw [hT]
        by_cases hk0 : k = 0
        · subst hk0; rw [List.take_zero, List.nil_append, body_first]; omega
        · rw [body_snoc _ _ (by intro e; rw [List.take_eq_nil_iff] at e; rcases e with e | e; exact hk0 e; subst e; simp at hlk)]
          rw [List.length_append, List.length_cons]; omega
      have HLEN := Lib.hid hlen
      clear hT hlen
      by_cases hk0 : k = 0
      · subst hk0
        rw [show formBody (l.take 0) = [] by simp [formBody]] at hI
        have HT1 : Hid (l.take 1 = [l[0]]) := Lib.hid (by have := HT.out; simpa using this)
        simp only [Nat.zero_mul, Nat.add_zero] at c0 c1
        clear hfl
        have hk0 : (wr.alloc (.cells #[.string ⟨l[0].1.toArray⟩, .string ⟨l[0].2.toArray⟩] 34)).heap[wr.heap.size]? = some (.cells #[.string ⟨l[0].1.toArray⟩, .string ⟨l[0].2.toArray⟩] 34 (0, 0)) := heap_alloc_new wr _
        have hI0 := hI.below ((Below.refl wr.heap.size wr).alloc (Nat.le_refl _) (.cells #[.string ⟨l[0].1.toArray⟩, .string ⟨l[0].2.toArray⟩] 34))
        have hb0 := hb.alloc hbs (.cells #[.string ⟨l[0].1.toArray⟩, .string ⟨l[0].2.toArray⟩] 34)
        go_wp2_with (fail)
        obtain ⟨w1, hw1⟩ : ∃ w1, wr.alloc (.cells #[.string ⟨l[0].1.toArray⟩, .string ⟨l[0].2.toArray⟩] 34) = w1 := ⟨_, rfl⟩
        rw [hw1] at hI0 hb0 hk0
        try rw [hw1]
        have hI1 := hI0
        have hb1 := hb0
        have hk1 := hk0
        clear hI0 hb0 hk0
        have hm1 := hm.below hm.lt hb1
        have d0 : w1.cell? ⟨wr.heap.size, 0, none⟩ = some (.string ⟨l[0].1.toArray⟩) := by rw [Lib.cell_of_heap hk1]; rfl
        refine (toField_any ⟨l[0].1.toArray⟩ _ hm1 (by rw [size_of]; omega)).mono ?_
        rintro e w2 ⟨rfl, b2⟩
        have hI2 := hI1.below b2
        have hk2 := (b2.block _ (blk_lt hk1)).trans hk1
        have hb2 := hb1.trans (b2.mono hb1.size)
        clear d0
        go_wp2_with (fail)
        refine (write_s w.heap.size _ _ _ hI2 (by rw [size_of]; simp only [List.length_append, List.length_cons, List.length_nil]; omega)).mono ?_
        rintro e w3 ⟨rfl, hI3, b3, o3⟩
        have hb3 := hb2.trans b3
        have hk3 := others_blk o3 hk2 (by omega)
        go_wp2_with (fail)
        refine (write_b w.heap.size _ 61 _ hI3 (by simp only [List.length_append, List.length_cons, List.length_nil]; omega)).mono ?_
        rintro e w4 ⟨rfl, hI4, b4, o4⟩
        have hb4 := hb3.trans b4
        have hk4 := others_blk o4 hk3 (by omega)
        have hm4 := hm.below hm.lt hb4
        have d1 : w4.cell? ⟨wr.heap.size, 1, none⟩ = some (.string ⟨l[0].2.toArray⟩) := by rw [Lib.cell_of_heap hk4]; rfl
        go_wp2_with (fail)
        refine (toField_any ⟨l[0].2.toArray⟩ _ hm4 (by rw [size_of]; omega)).mono ?_
        rintro e w5 ⟨rfl, b5⟩
        have hI5 := hI4.below b5
        have hb5 := hb4.trans (b5.mono hb4.size)
        clear d1
        go_wp2_with (fail)
        refine (write_s w.heap.size _ _ _ hI5 (by rw [size_of]; simp only [List.length_append, List.length_cons, List.length_nil]; omega)).mono ?_
        rintro e w6 ⟨rfl, hI6, b6, _⟩
        have hb6 := hb5.trans b6
        have hfin : Bd w.heap.size (formBody (l.take 1)) w6 := by
          rw [HT1.out, body_first]
          simpa using hI6
        clear hI1 hI2 hI3 hI4 hI5 hI6
        go_wp2_with (fail)
        go_roundw
        case rel => exact ⟨1, by omega, by go_num, by have := HLEN.out; simpa using this, hfin, hb6⟩
        case measure => simp [intOf]; omega
      · have HNE : Hid (l.take k ≠ []) := by
          intro e; rw [List.take_eq_nil_iff] at e; rcases e with e | e
          · exact hk0 e
          · subst e; simp at hlk
        have hkp : (0 : Int) < (k : Int) := by omega
        have hk0 : (wr.alloc (.cells #[.string ⟨l[k].1.toArray⟩, .string ⟨l[k].2.toArray⟩] 34)).heap[wr.heap.size]? = some (.cells #[.string ⟨l[k].1.toArray⟩, .string ⟨l[k].2.toArray⟩] 34 (0, 0)) := heap_alloc_new wr _
        have hI0 := hI.below ((Below.refl wr.heap.size wr).alloc (Nat.le_refl _) (.cells #[.string ⟨l[k].1.toArray⟩, .string ⟨l[k].2.toArray⟩] 34))
        have hb0 := hb.alloc hbs (.cells #[.string ⟨l[k].1.toArray⟩, .string ⟨l[k].2.toArray⟩] 34)
        go_wp2_with (fail)
        refine (write_b w.heap.size _ 38 _ hI0 (by omega)).mono ?_
        rintro e w1 ⟨rfl, hI1, b1, o1⟩
        have hb1 := hb0.trans b1
        have hk1 := others_blk o1 hk0 (by omega)
        have hm1 := hm.below hm.lt hb1
        have d0 : w1.cell? ⟨wr.heap.size, 0, none⟩ = some (.string ⟨l[k].1.toArray⟩) := by rw [Lib.cell_of_heap hk1]; rfl
        go_wp2_with (fail)
        refine (toField_any ⟨l[k].1.toArray⟩ _ hm1 (by rw [size_of]; omega)).mono ?_
        rintro e w2 ⟨rfl, b2⟩
        have hI2 := hI1.below b2
        have hk2 := (b2.block _ (blk_lt hk1)).trans hk1
        have hb2 := hb1.trans (b2.mono hb1.size)
        clear d0
        go_wp2_with (fail)
        refine (write_s w.heap.size _ _ _ hI2 (by rw [size_of]; simp only [List.length_append, List.length_cons, List.length_nil]; omega)).mono ?_
        rintro e w3 ⟨rfl, hI3, b3, o3⟩
        have hb3 := hb2.trans b3
        have hk3 := others_blk o3 hk2 (by omega)
        go_wp2_with (fail)
        refine (write_b w.heap.size _ 61 _ hI3 (by simp only [List.length_append, List.length_cons, List.length_nil]; omega)).mono ?_
        rintro e w4 ⟨rfl, hI4, b4, o4⟩
        have hb4 := hb3.trans b4
        have hk4 := others_blk o4 hk3 (by omega)
        have hm4 := hm.below hm.lt hb4
        have d1 : w4.cell? ⟨wr.heap.size, 1, none⟩ = some (.string ⟨l[k].2.toArray⟩) := by rw [Lib.cell_of_heap hk4]; rfl
        go_wp2_with (fail)
        refine (toField_any ⟨l[k].2.toArray⟩ _ hm4 (by rw [size_of]; omega)).mono ?_
        rintro e w5 ⟨rfl, b5⟩
        have hI5 := hI4.below b5
        have hb5 := hb4.trans (b5.mono hb4.size)
        clear d1
        go_wp2_with (fail)
        refine (write_s w.heap.size _ _ _ hI5 (by rw [size_of]; simp only [List.length_append, List.length_cons, List.length_nil]; omega)).mono ?_
        rintro e w6 ⟨rfl, hI6, b6, _⟩
        have hb6 := hb5.trans b6
        have hfin : Bd w.heap.size (formBody (l.take (k + 1))) w6 := by
          rw [HT.out, body_snoc _ _ HNE.out]
          simpa using hI6
        clear hI1 hI2 hI3 hI4 hI5 hI6
        go_wp2_with (fail)
        go_roundw
        case rel => exact ⟨k + 1, by omega, by go_num, HLEN.out, hfin, hb6⟩
        case measure => simp [intOf]; omega
    · have hfull : l.take k = l := List.take_of_length_le (by omega)
      rw [hfull] at hI
      by_cases hbig : 8192 < (formBody l).length
      · have HF : Hid (formL l = none) := by rw [formL, if_neg h64, if_pos hbig]; rfl
        have hbig' : (8192 : Int) < ((formBody l).length : Int) := by omega
        clear hfl hfull
        go_wp2_with (first | (go_at_call 40; refine (len_b _ _ _ hI).mono ?_; rintro e w' ⟨rfl, rfl⟩))
        go_ret2
        exact ⟨by rw [HF.out]; rfl, hb⟩
      · have HF : Hid (formL l = some (formBody l)) := by rw [formL, if_neg h64, if_neg hbig]; rfl
        have hbig' : ¬ (8192 : Int) < ((formBody l).length : Int) := by omega
        clear hfl hfull
        go_wp2_with (first | (go_at_call 40; refine (len_b _ _ _ hI).mono ?_; rintro e w' ⟨rfl, rfl⟩))
        refine (string_b w.heap.size _ _ hI).mono ?_
        rintro e w1 ⟨rfl, h1⟩
        go_wp2
        go_ret2
        exact ⟨by rw [HF.out]; rfl, hb.trans h1⟩
end Go.Proofs.YtlifnfchemiipaaDoor
