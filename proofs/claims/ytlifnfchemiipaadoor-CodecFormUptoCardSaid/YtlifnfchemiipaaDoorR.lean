/- What codec.FromForm answers: the pairs of a form, in a slice of its own, or the first error. Conditions: at most 67108864 bytes; the library's variable holds a number. -/
import Derived.Test.YtlifnfchemiipaaDoorQ
set_option linter.unusedSimpArgs false
namespace Go.Proofs.YtlifnfchemiipaaDoor
open Go.RowKit

abbrev Parts := List (List UInt8 × List UInt8)
def after (acc : Parts) (q : Int × Parts) : Int × Parts := if q.1 ≠ 0 then (q.1, []) else (0, acc ++ q.2)
def runParts : List (List UInt8) → Int × Parts
  | [] => (0, [])
  | t :: ts => if (partR t).1 ≠ 0 then ((partR t).1, []) else after [((partR t).2.1, (partR t).2.2)] (runParts ts)
def splitL (l : List UInt8) : List (List UInt8) := Lib.splitK [38] 0 (Lib.count l [38]) l
def unformL (l : List UInt8) : Int × Parts :=
  if 8192 < l.length then (14, []) else if l = [] then (0, []) else if 64 < (splitL l).length then (14, []) else runParts (splitL l)

theorem after_after (acc : Parts) (p : List UInt8 × List UInt8) (q : Int × Parts) : after acc (after [p] q) = after (acc ++ [p]) q := by
  unfold after
  by_cases h : q.1 = 0
  · simp [h]
  · simp [h]
theorem runParts_bad (ts : List (List UInt8)) (h : (runParts ts).1 ≠ 0) : (runParts ts).2 = [] := by
  cases ts with
  | nil => exact absurd rfl h
  | cons t ts =>
    rw [runParts] at h ⊢
    split
    · rfl
    · rename_i h1
      rw [if_neg h1] at h
      unfold after at h ⊢
      split
      · rfl
      · rename_i h2
        rw [if_neg h2] at h
        exact absurd rfl h
theorem after_nil (ts : List (List UInt8)) : after [] (runParts ts) = runParts ts := by
  have h := runParts_bad ts
  generalize runParts ts = q at h
  obtain ⟨a, b⟩ := q
  unfold after
  by_cases h0 : a = 0
  · subst h0; simp
  · have hb : b = [] := h h0
    simp [h0, hb]
theorem run_err (t : List UInt8) (ts : List (List UInt8)) (n : Int) (h : partR t = (n, [], [])) (hn : n ≠ 0) (acc : Parts) : after acc (runParts (t :: ts)) = (n, []) := by
  rw [runParts, h, if_pos hn, after, if_pos hn]
theorem run_ok (t : List UInt8) (ts : List (List UInt8)) (a b : List UInt8) (h : partR t = (0, a, b)) (acc : Parts) : after acc (runParts (t :: ts)) = after (acc ++ [(a, b)]) (runParts ts) := by
  rw [runParts, h, if_neg (by simp), after_after]
theorem partR_cases (l : List UInt8) : partR l = (13, [], []) ∨ partR l = (12, [], []) ∨ ∃ a b, partR l = (0, a, b) := by
  unfold partR
  split
  · exact .inl rfl
  · split
    · exact .inr (.inr ⟨_, _, rfl⟩)
    · exact .inr (.inl rfl)
theorem infoPart : (Tryd.prog.info? 34).map (fun i => (i.zero, i.size, i.bytes)) = some (some (.agg #[.string ⟨#[]⟩, .string ⟨#[]⟩]), 2, 32) := by kernel_rfl
def partCells (l : Parts) : List Value := l.flatMap fun p => [strV p.1, strV p.2]
theorem partCells_length (l : Parts) : (partCells l).length = l.length * 2 := by
  induction l with
  | nil => rfl
  | cons x l ih => simp [partCells, List.flatMap_cons] at ih ⊢; omega
theorem partCells_snoc (l : Parts) (p : List UInt8 × List UInt8) : partCells (l ++ [p]) = partCells l ++ [strV p.1, strV p.2] := by simp [partCells]
/-- v is a slice of the call's own that holds the pairs l -/
def Rp (B : Nat) (v : Value) (l : Parts) (w : World) : Prop := w.ownsRow B 34 2 v l.length (partCells l)
theorem Rp.below {B : Nat} {v : Value} {l : Parts} {w w' : World} (h : Rp B v l w) (hb : Below w.heap.size w w') : Rp B v l w' := by
  refine ⟨h.1, ?_⟩
  rcases h.2 with hn | ⟨g, cap, cur, hv, hg, hh, rest⟩
  · exact .inl hn
  · exact .inr ⟨g, cap, cur, hv, hg, (hb.block _ (blk_lt hh)).trans hh, rest⟩
theorem Rp.nil (B : Nat) (w : World) : Rp B (.slice none 0 0) [] w := ⟨rfl, .inl ⟨rfl, rfl⟩⟩
theorem Rp.mono {B B' : Nat} {v : Value} {l : Parts} {w : World} (h : Rp B v l w) (hB : B' ≤ B) : Rp B' v l w := by
  refine ⟨h.1, ?_⟩
  rcases h.2 with hn | ⟨g, cap, cur, hv, hg, rest⟩
  · exact .inl hn
  · exact .inr ⟨g, cap, cur, hv, Nat.le_trans hB hg, rest⟩

/-- what the call answers: a slice of its own, and the error's number -/
def PartsEnd (B : Nat) (r : Int × Parts) (e : Ending) (w : World) : Prop := ∃ v, e = .returned (.tuple #[v, .int .i64 r.1]) ∧ Rp B v r.2 w

theorem fromPart_err (s : ByteArray) (n : Int) (w : World) (hm : Hm w) (hs : s.size ≤ 67108864) (h : partR s.data.toList = (n, [], [])) :
    Calls Tryd.prog 43 #[.string s] w fun e w' => e = .returned (.tuple #[.agg #[.string ⟨#[]⟩, .string ⟨#[]⟩], .int .i64 n]) ∧ Below w.heap.size w w' :=
  (fromPart_any s w hm hs).mono fun e w' ⟨he, hb⟩ => ⟨by rw [he, h]; rfl, hb⟩
theorem fromPart_ok (s : ByteArray) (a b : List UInt8) (w : World) (hm : Hm w) (hs : s.size ≤ 67108864) (h : partR s.data.toList = (0, a, b)) :
    Calls Tryd.prog 43 #[.string s] w fun e w' => e = .returned (.tuple #[.agg #[.string ⟨a.toArray⟩, .string ⟨b.toArray⟩], .int .i64 0]) ∧ Below w.heap.size w w' :=
  (fromPart_any s w hm hs).mono fun e w' ⟨he, hb⟩ => ⟨by rw [he, h]; rfl, hb⟩

theorem split_size (sep : ByteArray) : ∀ (k : Nat) (s t : ByteArray), t ∈ Lib.splitB sep 0 k s → t.size ≤ s.size
  | 0, s, t, h => by
    rw [Lib.splitB_zero] at h
    simp at h; subst h; exact Nat.le_refl _
  | k + 1, s, t, h => by
    rw [Lib.splitB] at h
    split at h
    · simp at h; subst h; exact Nat.le_refl _
    · rcases List.mem_cons.1 h with e | e
      · subst e; rw [ByteArray.size_extract]; omega
      · have := split_size sep k _ t e
        rw [ByteArray.size_extract] at this; omega

theorem hnew2 (w : World) (o : Obj) : ((w.alloc o).alloc o).heap[w.heap.size + 1]? = some o := by
  have e1 : (w.alloc o).heap.size = w.heap.size + 1 := by simp
  rw [← e1]
  exact heap_alloc_new _ _

set_option maxHeartbeats 4000000 in
set_option maxRecDepth 100000 in
theorem fromForm_any (s : ByteArray) (w : World) (hm : Hm w) (hs : s.size ≤ 67108864) :
    Calls Tryd.prog 26 #[.string s] w fun e w' => PartsEnd w.heap.size (unformL s.data.toList) e w' ∧ Below w.heap.size w w' := by
  have e0 : s.data.toList.length = s.size := by simp
  obtain ⟨i0, hi, hz0, hz1, hz2⟩ := info_parts infoPart
  by_cases hbig : 8192 < s.size
  · have HF : Hid (unformL s.data.toList = (14, [])) := by rw [unformL, if_pos (by omega)]; rfl
    clear e0
    have hbig' : (8192 : Int) < (s.size : Int) := by omega
    go_enter Tryd.func26, Tryd.ntmps26
    go_wp2
    go_ret2
    exact ⟨⟨_, by rw [HF.out]; rfl, by rw [HF.out]; exact Rp.nil _ _⟩, Below.refl _ _⟩
  by_cases h0 : s.data.toList = []
  · have HF : Hid (unformL s.data.toList = (0, [])) := by rw [unformL, if_neg (by omega), if_pos h0]; rfl
    have hL : s.toList = [] := by rw [Lib.toList_data, h0]
    clear e0 h0
    go_enter Tryd.func26, Tryd.ntmps26
    go_wp2
    go_ret2
    exact ⟨⟨_, by rw [HF.out]; rfl, by rw [HF.out]; exact Rp.nil _ _⟩, Below.refl _ _⟩
  have hL : s.toList.isEmpty = false := by rw [Lib.toList_data]; simpa using h0
  obtain ⟨m, hm1⟩ := hm
  obtain ⟨X, hX⟩ : ∃ X, Lib.splitB ⟨#[38]⟩ 0 (Lib.countB s ⟨#[38]⟩) s = X := ⟨_, rfl⟩
  have hXd : X.map (·.data.toList) = splitL s.data.toList := by rw [← hX, Lib.splitB_data]; rfl
  have hXl : Lib.countB s ⟨#[38]⟩ + 1 = X.length := by rw [← hX]; exact (Lib.splitB_all _ (by decide) 0 _ s rfl).symm
  have hXs : ∀ t, t ∈ X → t.size ≤ 67108864 := by
    intro t ht
    rw [← hX] at ht
    exact Nat.le_trans (split_size _ _ s t ht) hs
  have HX := Lib.hid hX
  have HXD := Lib.hid hXd
  have HXL := Lib.hid hXl
  have hlen : (splitL s.data.toList).length = X.length := by rw [← hXd]; simp
  by_cases h64 : 64 < X.length
  · have HF : Hid (unformL s.data.toList = (14, [])) := by rw [unformL, if_neg (by omega), if_neg h0, if_pos (by omega)]; rfl
    have h64' : (64 : Int) < (X.length : Int) := by omega
    clear hX hXd hXl e0 h0 hlen
    go_enter Tryd.func26, Tryd.ntmps26
    go_wp2_with (fail)
    refine (Tryd.strings_Split s _ m _ (by omega) hm1 (by decide)).mono ?_
    rintro e w1 ⟨he, hw⟩
    rw [HXL.out] at he
    subst he
    have hb1 : Below w.heap.size w w1 := by rw [hw]; exact (Below.refl _ _).alloc (Nat.le_refl _) _
    clear hw
    go_wp2
    go_ret2
    exact ⟨⟨_, by rw [HF.out]; rfl, by rw [HF.out]; exact Rp.nil _ _⟩, hb1⟩
  have HF : Hid (unformL s.data.toList = runParts (splitL s.data.toList)) := by rw [unformL, if_neg (by omega), if_neg h0, if_neg (by omega)]; rfl
  have h64' : ¬ (64 : Int) < (X.length : Int) := by omega
  have hget : ∀ k, (h : k < X.length) → (splitL s.data.toList).drop k = X[k].data.toList :: (splitL s.data.toList).drop (k + 1) := by
    intro k h
    rw [List.drop_eq_getElem_cons (by omega)]
    congr 1
    simp [← hXd]
  have HGET := Lib.hid hget
  have hd1 : decide ((8192 : Int) < (s.size : Int)) = false := by simp; omega
  have hd2 : decide ((64 : Int) < (X.length : Int)) = false := by simp; omega
  clear hX hXd hXl e0 h0 hlen hget
  go_enter Tryd.func26, Tryd.ntmps26
  go_wp2_with (fail)
  refine (Tryd.strings_Split s _ m _ (by omega) hm1 (by decide)).mono ?_
  rintro e w1 ⟨he, hw⟩
  rw [HXL.out] at he
  subst he
  rw [HX.out] at hw
  have hb1 : Below w.heap.size w w1 := by rw [hw]; exact (Below.refl _ _).alloc (Nat.le_refl _) _
  have hT1 : w1.heap[w.heap.size]? = some (.cells (X.map Value.string).toArray 9 (0, 0)) := by rw [hw]; exact heap_alloc_new w _
  have hmm : Hm w1 := Hm.below ⟨m, hm1⟩ (Hm.lt ⟨m, hm1⟩) hb1
  have hs1 := blk_lt hT1
  clear hw
  go_wp2_with (refine wpList_make_own _ rfl _ _ 28 rfl w1.heap.size 34 i0 _ 2 Tryd.underlying28 hi hz0 hz1 .i64 .i64 _ X.length rfl rfl rfl ?b2 ?b3 (Nat.le_refl _) ?_)
  case b2 => rw [hz2]; omega
  case b3 => unfold maxLen; omega
  intro w2 hown hgrow
  have hb2 : Below w1.heap.size w1 w2 := (Below.refl _ _).grown hgrow (Nat.le_refl _) (by simp)
  have hR2 : Rp w1.heap.size (.slice (some ⟨w1.heap.size, 0, none⟩) 0 X.length) [] w2 := hown
  clear hown hgrow
  go_wp2_with (fail)
  go_loopw [5, 25] (fun v i wr => ∃ (k : Nat) (acc : Parts), k ≤ X.length ∧ acc.length = k ∧ i = .int .i64 k ∧ runParts (splitL s.data.toList) = after acc (runParts ((splitL s.data.toList).drop k)) ∧ Rp w1.heap.size v acc wr ∧ Below w1.heap.size w1 wr) (fun _ i _ => X.length - (intOf i).toNat)
  case atStart =>
    refine ⟨0, [], by omega, rfl, rfl, ?_, hR2, hb2⟩
    rw [List.drop_zero]
    exact (after_nil _).symm
  case round =>
    clear hR2 hb2
    obtain ⟨k, acc, hk, hal, rfl, hU, hR, hb⟩ := hrel
    have HU := Lib.hid hU
    have HA := Lib.hid hal
    clear hU hal
    have hbs := hb.size
    have hmr := hmm.below (Nat.lt_of_le_of_lt (Nat.zero_le _) hs1) hb
    have hbw := hb1.trans (hb.mono (Nat.le_of_lt hs1))
    by_cases hlt : k < X.length
    · have hkX := HGET.out k hlt
      have c0 : wr.cell? ⟨w.heap.size, k, none⟩ = some (.string X[k]) := by
        rw [Lib.cell_of_heap ((hb.block _ hs1).trans hT1)]; simp [hlt]
      have hsz := hXs X[k] (List.getElem_mem hlt)
      rcases partR_cases X[k].data.toList with h | h | ⟨a, b, h⟩
      · have HR : Hid (runParts (splitL s.data.toList) = (13, [])) := by rw [HU.out, hkX, run_err _ _ 13 h (by decide)]; rfl
        have HP := Lib.hid h
        clear h hkX
        go_wp2_with (fail)
        refine (fromPart_err _ 13 _ hmr hsz HP.out).mono ?_
        rintro e w3 ⟨rfl, b3⟩
        go_wp2_with (fail)
        go_ret2
        exact ⟨⟨_, by rw [HF.out, HR.out]; rfl, by rw [HF.out, HR.out]; exact Rp.nil _ _⟩, (hbw.trans (b3.mono hbw.size)).alloc (by have := b3.size; have := hbw.size; omega) _⟩
      · have HR : Hid (runParts (splitL s.data.toList) = (12, [])) := by rw [HU.out, hkX, run_err _ _ 12 h (by decide)]; rfl
        have HP := Lib.hid h
        clear h hkX
        go_wp2_with (fail)
        refine (fromPart_err _ 12 _ hmr hsz HP.out).mono ?_
        rintro e w3 ⟨rfl, b3⟩
        go_wp2_with (fail)
        go_ret2
        exact ⟨⟨_, by rw [HF.out, HR.out]; rfl, by rw [HF.out, HR.out]; exact Rp.nil _ _⟩, (hbw.trans (b3.mono hbw.size)).alloc (by have := b3.size; have := hbw.size; omega) _⟩
      · have HR : Hid (runParts (splitL s.data.toList) = after (acc ++ [(a, b)]) (runParts ((splitL s.data.toList).drop (k + 1)))) := by rw [HU.out, hkX, run_ok _ _ a b h]; rfl
        have HP := Lib.hid h
        clear h hkX
        go_wp2_with (fail)
        refine (fromPart_ok _ a b _ hmr hsz HP.out).mono ?_
        rintro e w3 ⟨rfl, b3⟩
        have hb3 := hb.trans (b3.mono hbs)
        have hR3 : w3.ownsRow w1.heap.size 34 2 u5 acc.length (partCells acc) := hR.below b3
        have hl3 : acc.length ≤ 64 := by have := HA.out; omega
        have hs3 := hb3.size
        go_wp2_with (at_builtin; refine wpList_append_own _ rfl _ _ 28 rfl w1.heap.size 34 i0 _ 2 32 Tryd.underlying28 hi hz0 hz1 hz2 rfl (by decide) _ _ _ rfl ((hR3.alloc _).alloc _) ⟨w3.heap.size + 1, 0, none⟩ 1 1 [.string ⟨a.toArray⟩, .string ⟨b.toArray⟩] rfl rfl ?c1 ?c2 ?c3 ?c4 ?c5 ?_)
        case c1 => exact World.news_of_block (hnew2 w3 _)
        case c2 => simp [Value.oneCell']
        case c3 => unfold maxLen; omega
        case c4 => omega
        case c5 => simp; omega
        intro v4 w4 h4 hg4 _
        have hR4 : Rp w1.heap.size v4 (acc ++ [(a, b)]) w4 := by
          unfold Rp
          rw [partCells_snoc]
          simpa [strV] using h4
        have hb4 : Below w1.heap.size w1 w4 := ((hb3.alloc (by omega) _).alloc (by simp; omega) _).grown hg4 (by simp; omega) (fun g hk => (World.ownsRow.lt hR3 g hk).1)
        clear h4 hg4 hR3
        go_wp2_with (fail)
        go_roundw
        case rel => exact ⟨k + 1, _, by omega, by have := HA.out; simp; omega, by go_num, HR.out, hR4, hb4⟩
        case measure => simp [intOf]; omega
    · have HR : Hid (runParts (splitL s.data.toList) = (0, acc)) := by
        have e : (splitL s.data.toList).drop k = [] := List.drop_of_length_le (by have := HXD.out; rw [← this]; simp; omega)
        rw [HU.out, e]
        exact Lib.hid (by simp [runParts, after])
      go_wp2_with (fail)
      go_ret2
      exact ⟨⟨_, by rw [HF.out, HR.out]; rfl, by rw [HF.out, HR.out]; exact hR.mono (Nat.le_of_lt hs1)⟩, hbw⟩
end Go.Proofs.YtlifnfchemiipaaDoor
