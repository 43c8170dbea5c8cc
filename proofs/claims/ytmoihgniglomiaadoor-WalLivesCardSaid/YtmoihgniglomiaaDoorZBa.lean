/- The document's disk in memory; its calls that only look at it: unsafe, Size. No condition but the disk's own. -/
import Derived.Test.YtmoihgniglomiaaDoorZK
import Derived.Test.YtmoihgniglomiaaDoorZPa
set_option linter.unusedVariables false
set_option linter.unusedSimpArgs false
set_option maxRecDepth 100000
namespace Go.Proofs.YtmoihgniglomiaaDoor
open Go.RowKit Go.Sort

def ucells (l : List (Nat × UInt8)) : List Value := l.flatMap fun p => [.int .i64 (p.1 : Int), .int .u8 (p.2.toNat : Int)]
theorem ucells_len (l : List (Nat × UInt8)) : (ucells l).length = l.length * 2 := by
  induction l with
  | nil => rfl
  | cons p r ih => simp only [ucells, List.flatMap_cons, List.length_append, List.length_cons, List.length_nil] at ih ⊢; omega
theorem ucells_app (a b : List (Nat × UInt8)) : ucells (a ++ b) = ucells a ++ ucells b := by simp [ucells]
theorem ucells_get (l : List (Nat × UInt8)) (i : Nat) (hi : i < l.length) : (ucells l)[i * 2]? = some (.int .i64 (l[i].1 : Int)) ∧ (ucells l)[i * 2 + 1]? = some (.int .u8 (l[i].2.toNat : Int)) := by
  induction l generalizing i with
  | nil => cases hi
  | cons p r ih =>
    cases i with
    | zero => simp [ucells]
    | succ i =>
      have := ih i (by simpa using hi)
      simp only [ucells, List.flatMap_cons] at this ⊢
      rw [List.getElem?_append_right (by simp; omega), List.getElem?_append_right (by simp; omega)]
      simp only [List.length_cons, List.length_nil, List.getElem_cons_succ]
      rw [show (i + 1) * 2 - (0 + 1 + 1) = i * 2 from by omega, show (i + 1) * 2 + 1 - (0 + 1 + 1) = i * 2 + 1 from by omega]
      exact this
theorem ucells_one (l : List (Nat × UInt8)) : ∀ u ∈ ucells l, u.oneCell' = true := by
  intro u hu
  unfold ucells at hu
  obtain ⟨x, _, hx⟩ := List.mem_flatMap.1 hu
  simp only [List.mem_cons, List.not_mem_nil, or_false] at hx
  rcases hx with rfl | rfl <;> rfl
theorem u65 : Tryd.prog.underlying 59 = some (.slice 127) := by kernel_rfl
theorem infoU : (Tryd.prog.info? 127).map (fun i => (i.zero, i.size, i.bytes)) = some (some (.agg #[.int .i64 0, .int .u8 0]), 2, 16) := by kernel_rfl
theorem ownsU_of {w w' : World} {v : Value} {n : Nat} {xs : List Value} (h : w.ownsRow 0 127 2 v n xs) (e : ∀ g, v.ownBlock = some g → g < w.heap.size → w'.heap[g]? = w.heap[g]?) : w'.ownsRow 0 127 2 v n xs := by
  obtain ⟨hl, h | ⟨g, cap, cur, rfl, hb, hg, rest⟩⟩ := h
  · exact ⟨hl, .inl h⟩
  · exact ⟨hl, .inr ⟨g, cap, cur, rfl, hb, (e g rfl (blk_lt hg)).trans hg, rest⟩⟩

/-- the document's disk: block r holds it, its unsafe bytes are the row uv -/
structure Rk (w : World) (r : Nat) (S : St) (uv : Value) (kp : Int) : Prop where
  blk : Bk 61 w r #[.string ⟨(S.f0.take S.s0).toArray⟩, .string ⟨(S.f1.take S.s1).toArray⟩, uv, .int .i64 (S.inn : Int), .int .i64 kp, .bool S.gone]
  row : w.ownsRow 0 127 2 uv S.un.length (ucells S.un)
  kp : S.inn ≠ 0 → kp = (S.lft : Int)
  wf : S.Wf
theorem Rk.below {w w' : World} {r : Nat} {S : St} {uv : Value} {kp : Int} (h : Rk w r S uv kp) (hb : Below w.heap.size w w') : Rk w' r S uv kp :=
  ⟨h.blk.below hb, ownsU_of h.row fun g _ hg => hb.block g hg, h.kp, h.wf⟩
theorem Rk.kept {w w' : World} {r : Nat} {S : St} {uv : Value} {kp : Int} (h : Rk w r S uv kp) (hr : w'.heap[r]? = w.heap[r]?) (hu : ∀ g, uv.ownBlock = some g → w'.heap[g]? = w.heap[g]?) : Rk w' r S uv kp :=
  ⟨hr.trans h.blk, ownsU_of h.row fun g e _ => hu g e, h.kp, h.wf⟩
theorem Rk.ne {w : World} {r : Nat} {S : St} {uv : Value} {kp : Int} (h : Rk w r S uv kp) {t : Nat} {cs : Array Value} (ht : Bk 61 w t cs) : ∀ g, uv.ownBlock = some g → g ≠ t := by
  intro g e hgt
  subst hgt
  obtain ⟨_, ⟨rfl, _⟩ | ⟨q, cap, cur, rfl, _, hg, _⟩⟩ := h.row
  · cases e
  · cases e
    unfold Bk at ht
    rw [hg] at ht
    cases ht
theorem Rk.ult {w : World} {r : Nat} {S : St} {uv : Value} {kp : Int} (h : Rk w r S uv kp) : ∀ g, uv.ownBlock = some g → g < w.heap.size := by
  intro g e
  exact (h.row.lt g e).2
theorem owns_len {w : World} {v : Value} {l : List (Nat × UInt8)} {n : Nat} (hn : n = l.length) (h : w.ownsRow 0 127 2 v n (ucells l)) : ∃ a c, v = .slice a l.length c ∧ ∀ i (hi : i < l.length), ∃ g, a = some ⟨g, 0, none⟩ ∧ w.cell? ⟨g, i * 2, none⟩ = some (.int .i64 (l[i].1 : Int)) ∧ w.cell? ⟨g, i * 2 + 1, none⟩ = some (.int .u8 (l[i].2.toNat : Int)) := by
  subst hn
  have h' := h
  obtain ⟨_, ⟨rfl, h0⟩ | ⟨g, cap, cur, rfl, _⟩⟩ := h'
  · exact ⟨none, 0, by rw [h0], fun i hi => by omega⟩
  · refine ⟨_, _, rfl, fun i hi => ⟨g, rfl, ?_, ?_⟩⟩
    · have := h.cells (g := g) rfl _ _ (ucells_get l i hi).1
      rwa [at0] at this
    · have := h.cells (g := g) rfl _ _ (ucells_get l i hi).2
      rwa [at0] at this

/-- how many are file f's -/
def cnt (f : Nat) (l : List (Nat × UInt8)) : Nat := l.countP fun x => x.1 == f
theorem cnt_succ (f : Nat) (l : List (Nat × UInt8)) (i : Nat) (hi : i < l.length) : cnt f (l.take (i + 1)) = cnt f (l.take i) + if l[i].1 = f then 1 else 0 := by
  rw [List.take_succ_eq_append_getElem hi]
  unfold cnt
  rw [List.countP_append]
  by_cases h : l[i].1 = f <;> simp [h]
theorem cnt_le (f : Nat) (l : List (Nat × UInt8)) : cnt f l ≤ l.length := List.countP_le_length
theorem cnt_pick0 (l : List (Nat × UInt8)) : cnt 0 l = (pick0 l).length := by
  induction l with
  | nil => rfl
  | cons x r ih => by_cases h : x.1 = 0 <;> simp [cnt, pick0, h] at ih ⊢ <;> omega
theorem cnt_pick1 (l : List (Nat × UInt8)) (hl : ∀ c ∈ l, c.1 < 2) : cnt 1 l = (pick1 l).length := by
  induction l with
  | nil => rfl
  | cons x r ih =>
    have h2 := hl x (by simp)
    have ih := ih (fun c hc => hl c (by simp [hc]))
    rcases (by omega : x.1 = 0 ∨ x.1 = 1) with h | h <;> simp [cnt, pick1, h] at ih ⊢ <;> omega
theorem cnt_un {S : St} (h : S.Wf) (f : Nat) (hf : f < 2) : cnt f S.un = (S.file f).length - S.safe f := by
  have hc := St.un_count h
  rcases (by omega : f = 0 ∨ f = 1) with rfl | rfl
  · rw [cnt_pick0, hc.1]; rfl
  · rw [cnt_pick1 _ (St.un_lt S), hc.2]; rfl
theorem un_small {S : St} (h : S.Wf) : S.un.length ≤ 2097152 := by
  have h2 := h.l0
  have h3 := h.l1
  rw [St.un_len h]
  unfold St.waiting
  omega
set_option maxHeartbeats 8000000 in
theorem unsafe56 (r : Nat) (S : St) (uv : Value) (kp : Int) (f : Nat) (hf : f < 2) (w : World) (h : Rk w r S uv kp) :
    Calls Tryd.prog 83 #[.pointer (some ⟨r, 0, none⟩), .int .i64 (f : Int)] w fun e w' => e = .returned (.int .i64 (((S.file f).length - S.safe f : Nat) : Int)) ∧ w = w' := by
  rw [← cnt_un h.wf f hf]
  have hlen := un_small h.wf
  obtain ⟨a, c, rfl, hcell⟩ := owns_len rfl h.row
  have b2 := h.blk.cell 2
  simp only [List.getElem?_toArray, List.getElem?_cons_succ, List.getElem?_cons_zero] at b2
  clear h hf
  generalize S.un = l at hcell b2 hlen ⊢
  obtain ⟨n, hn⟩ : ∃ n, n = l.length := ⟨_, rfl⟩
  have HL : Hid (l.length = n) := Lib.hid hn.symm
  have HC := Lib.hid hcell
  rw [← hn] at b2 hlen
  have HLE := Lib.hid hlen
  have e0 : cnt f (l.take 0) = 0 := rfl
  have eN : cnt f l = cnt f (l.take n) := by rw [hn, List.take_length]
  rw [eN]
  clear hcell hn eN
  go_enter Tryd.func83, Tryd.ntmps83
  go_wp2_with fail
  go_loopw [5, 6] (fun nv iv wr => ∃ i : Nat, i ≤ n ∧ iv = .int .i64 (i : Int) ∧ nv = .int .i64 (cnt f (l.take i) : Int) ∧ wr = w) (fun _ iv _ => n - (intOf iv).toNat)
  case atStart => exact ⟨0, Nat.zero_le _, rfl, rfl, rfl⟩
  case round =>
    obtain ⟨i, hi, rfl, rfl, rfl⟩ := hrel
    by_cases hlt : i < n
    · have hil : i < l.length := by rw [HL.out]; exact hlt
      obtain ⟨g, rfl, c0, c1⟩ := HC.out i hil
      have hst := Lib.hid (cnt_succ f l i hil)
      have hcb : cnt f (l.take i) ≤ 2097152 := by
        have h1 := cnt_le f (l.take i)
        have h2 : (l.take i).length ≤ i := by rw [List.length_take]; omega
        have := HLE.out
        omega
      generalize cnt f (l.take i) = m at hst hcb ⊢
      generalize l[i].1 = x at c0 hst
      clear c1
      by_cases hx : x = f
      · have t1 : ((x : Int) == (f : Int)) = true := by simp [hx]
        have hs := hst.out
        rw [if_pos hx] at hs
        replace hs := Lib.hid hs
        clear hst hx
        go_wp2_with fail
        go_roundw
        case rel => exact ⟨i + 1, by omega, by go_num, by rw [hs.out]; go_num, trivial⟩
        case measure => simp [intOf]; omega
      · have t1 : ((x : Int) == (f : Int)) = false := by simp; omega
        have hs := hst.out
        rw [if_neg hx] at hs
        replace hs := Lib.hid hs
        clear hst hx
        go_wp2_with fail
        go_roundw
        case rel => exact ⟨i + 1, by omega, by go_num, by rw [hs.out, Nat.add_zero], trivial⟩
        case measure => simp [intOf]; omega
    · have hin : i = n := by omega
      subst hin
      go_wp2_with fail
      go_ret
      exact ⟨rfl, rfl⟩
end Go.Proofs.YtmoihgniglomiaaDoor
