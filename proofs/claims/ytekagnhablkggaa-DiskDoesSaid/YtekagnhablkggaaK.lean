/- A row of pieces with one more, or a longer last one (longer). No condition but the row's length. -/
import Derived.Test.YtekagnhablkggaaJ
set_option linter.unusedVariables false
set_option linter.unusedSimpArgs false
set_option maxRecDepth 100000
namespace Go.Proofs.Ytekagnhablkggaa
open Go.RowKit Go.Sort

theorem u60 : Try.prog.underlying 60 = some (.slice 70) := by kernel_rfl
theorem infoPiece : (Try.prog.info? 70).map (fun i => (i.zero, i.size, i.bytes)) = some (some (.agg #[.int .i64 0, .int .i64 0]), 2, 16) := by kernel_rfl
theorem owns_mono {w : World} {B C : Nat} {e : TypeId} {z : Nat} {v : Value} {n : Nat} {xs : List Value} (h : w.ownsRow B e z v n xs) (hC : C ≤ B) : w.ownsRow C e z v n xs := by
  obtain ⟨hl, h | ⟨g, cap, cur, hv, hb, rest⟩⟩ := h
  · exact ⟨hl, .inl h⟩
  · exact ⟨hl, .inr ⟨g, cap, cur, hv, by omega, rest⟩⟩
/-- 'append' onto a row of the owner's: where the new row lies -/
theorem app_own (w : World) (t ty e : TypeId) (i : TypeInfo) (z : Value) (size bytes : Nat) (ht : Try.prog.underlying t = some (.slice e)) (hi : Try.prog.info? e = some i) (hz : i.zero = some z)
    (hsize : i.size = size) (hby : i.bytes = bytes) (hzs : z.cells.size = size) (hsz : 0 < size)
    (v : Value) (n : Nat) (xs : List Value) (hown : w.ownsRow 0 e size v n xs)
    (a : Addr) (m c : Nat) (news : List Value) (hl : news.length = m * size) (hnews : ∀ j u, news[j]? = some u → w.cell? (a.add j) = some u) (h1 : ∀ u ∈ news, u.oneCell' = true)
    (h63 : n + m ≤ maxLen) (hbytes : (n + m) * bytes ≤ 140737488355328) :
    ∃ v' w', (Builtin.append_ #[t, t] ty #[v, .slice (some a) m c]).run Try.prog w = .ok v' w' ∧ w'.ownsRow 0 e size v' (n + m) (xs ++ news) ∧ w.grownBy w' v.ownBlock ∧ (v'.ownBlock = v.ownBlock ∨ ∀ k, v'.ownBlock = some k → w.heap.size ≤ k) ∧ (v' = .slice none 0 0 → v = .slice none 0 0) := by
  rcases hown.2 with ⟨rfl, hn0⟩ | ⟨g, cap, cur, rfl, hbg, hg, hnc, hcm, hcs, htake⟩
  · subst hn0
    obtain ⟨v', w', hr, ho, hgr, hnil⟩ := run_append_own (P := Try.prog) w w.heap.size t ty e i z size bytes ht hi hz hsize hby hzs hsz (.slice none 0 0) 0 xs ⟨hown.1, .inl ⟨rfl, rfl⟩⟩ a m c news hl hnews h1 h63 hbytes (Nat.le_refl _)
    exact ⟨v', w', hr, owns_mono ho (Nat.zero_le _), hgr, .inr fun k hk => (ho.lt k hk).1, fun e => (hnil.1 e).1⟩
  · obtain ⟨v', w', hr, ho, hgr, hnil⟩ := run_append_own (P := Try.prog) w 0 t ty e i z size bytes ht hi hz hsize hby hzs hsz _ n xs hown a m c news hl hnews h1 h63 hbytes (Nat.zero_le _)
    refine ⟨v', w', hr, ho, hgr, ?_, fun e => (hnil.1 e).1⟩
    subst hsize
    subst hby
    by_cases hroom : n + m ≤ cap
    · have hr2 := run_append_room (P := Try.prog) w t ty e i ht hi g n cap cur hg a m c news hl hnews h1 hroom (by rw [hl, hcs, ← Nat.add_mul]; exact Nat.mul_le_mul_right _ hroom)
      rw [hr] at hr2
      cases hr2
      exact .inl rfl
    · have hr2 := run_append_grow (P := Try.prog) w t ty e i z ht hi hz ⟨g, 0, none⟩ n cap xs hown.1 (hown.cells (g := g) rfl) a m c news hl hnews (by omega) (by unfold maxLen at h63; omega) (growslice_fits (by omega) hbytes)
      rw [hr] at hr2
      cases hr2
      exact .inr fun k hk => by cases hk; exact Nat.le_refl _
/-- what a call that makes a row out of a row leaves -/
def Lg (w : World) (rv : Value) (w' : World) (v' : Value) (l : List (Nat × Nat)) : Prop :=
  w'.ownsRow 0 70 2 v' l.length (pcells l) ∧ Only rv.ownBlock.toList w w' ∧ ∀ k, v'.ownBlock = some k → rv.ownBlock = some k ∨ w.heap.size ≤ k
theorem owns_below {w w' : World} {v : Value} {n : Nat} {xs : List Value} (h : w.ownsRow 0 70 2 v n xs) (hb : Below w.heap.size w w') : w'.ownsRow 0 70 2 v n xs := owns_of h fun g _ hg => hb.block g hg
set_option maxHeartbeats 8000000 in
theorem longer_zero55 (rv : Value) (f : Int) (row : List (Nat × Nat)) (w : World) (hr : w.ownsRow 0 70 2 rv row.length (pcells row)) :
    Calls Try.prog 55 #[rv, .agg #[.int .i64 f, .int .i64 0]] w fun e w' => ∃ v', e = .returned v' ∧ Lg w rv w' v' row := by
  have HR := Lib.hid hr
  clear hr
  go_enter Try.func55, Try.ntmps55
  go_wp2_with fail
  go_ret
  exact ⟨rv, rfl, owns_below HR.out (by go_grown), .of (by go_grown), fun k h => .inl h⟩
theorem lg_grown {w w1 w2 : World} {rv v' : Value} {n : Nat} {row : List (Nat × Nat)} {f m : Nat} (hn : n = row.length) (hb : Below w.heap.size w w1) (hrl : ∀ g, rv.ownBlock = some g → g < w.heap.size) (ho : w2.ownsRow 0 70 2 v' (n + 1) (pcells row ++ [.int .i64 (f : Int), .int .i64 (m : Int)])) (hg : w1.grownBy w2 rv.ownBlock) (hv : ∀ k, v'.ownBlock = some k → rv.ownBlock = some k ∨ w.heap.size ≤ k) : Lg w rv w2 v' (row ++ [(f, m)]) := by
  refine ⟨?_, ?_, hv⟩
  · rw [List.length_append, pcells_app]
    subst hn
    exact ho
  · refine ⟨hg.os.trans hb.os, hg.tape.trans hb.tape, hg.output.trans hb.output, Nat.le_trans hb.size hg.size, fun k hk hL => ?_⟩
    refine (hg.block k (Nat.lt_of_lt_of_le hk hb.size) ?_).trans (hb.block k hk)
    intro e
    exact hL (by simp [← e])
/-- 'append(row, p)': the piece stands in a new block -/
theorem app_piece {w W : World} {rv : Value} {row : List (Nat × Nat)} {f m : Nat} (ty : TypeId) (hb : Below w.heap.size w W) (hr : w.ownsRow 0 70 2 rv row.length (pcells row)) (hl : row.length ≤ 4194304) {q : Nat} (hq : Bk 70 W q #[.int .i64 (f : Int), .int .i64 (m : Int)]) (c : Nat) :
    ∃ v' w', (Builtin.append_ #[60, 60] ty #[rv, .slice (some ⟨q, 0, none⟩) 1 c]).run Try.prog W = .ok v' w' ∧ Lg w rv w' v' (row ++ [(f, m)]) := by
  obtain ⟨i0, hi, hz0, hz1, hz2⟩ := info_parts infoPiece
  have hrW : W.ownsRow 0 70 2 rv row.length (pcells row) := owns_of hr fun g _ hg => hb.block g hg
  obtain ⟨v', w', hrun, ho, hgr, hv, _⟩ := app_own W 60 ty 70 i0 (.agg #[.int .i64 0, .int .i64 0]) 2 16 u60 hi hz0 hz1 hz2 rfl (by decide) rv row.length (pcells row) hrW ⟨q, 0, none⟩ 1 c [.int .i64 (f : Int), .int .i64 (m : Int)] rfl (by
    intro j u hu
    rw [at0, hq.cell]
    match j with
    | 0 => simpa using hu
    | 1 => simpa using hu
    | j + 2 => simp at hu) (by
    intro u hu
    simp only [List.mem_cons, List.not_mem_nil, or_false] at hu
    rcases hu with rfl | rfl <;> rfl) (by unfold maxLen; omega) (by omega)
  refine ⟨v', w', hrun, lg_grown rfl hb (fun g hg => owns_lt hr hg) ho hgr ?_⟩
  intro k hk
  rcases hv with h | h
  · exact .inl (h ▸ hk)
  · exact .inr (Nat.le_trans hb.size (h k hk))
end Go.Proofs.Ytekagnhablkggaa
