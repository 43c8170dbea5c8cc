/- A row of pieces with one more, or a longer last one: longer's walk. No condition but the row's length. -/
import Derived.Test.YtekagnhablkggaaK
import Derived.Lib.AppendZeros
set_option linter.unusedVariables false
set_option linter.unusedSimpArgs false
set_option maxRecDepth 100000
namespace Go.Proofs.Ytekagnhablkggaa
open Go.RowKit Go.Sort

theorem wp_piece {ops : Array Oper} {rest : List Oper} {o : Oper} {a : Act} {Q : Exit → Act → World → Prop} {W : World} (hgd : o.guard = none) (s x : Operand) (ho : o.op = .call { callee := .builtin .append, args := #[s, x], argTypes := #[60, 60] })
    (w : World) (rv : Value) (row : List (Nat × Nat)) (f m q c : Nat) (hs : a.eval s = rv) (hx : a.eval x = .slice (some ⟨q, 0, none⟩) 1 c) (hb : Below w.heap.size w W) (hr : w.ownsRow 0 70 2 rv row.length (pcells row)) (hl : row.length ≤ 4194304) (hq : Bk 70 W q #[.int .i64 (f : Int), .int .i64 (m : Int)])
    (h : ∀ v' w', Lg w rv w' v' (row ++ [(f, m)]) → wpList Try.prog ops Q rest (a.put o.dst v') w') : wpList Try.prog ops Q (o :: rest) a W := by
  obtain ⟨v', w', hrun, hlg⟩ := app_piece (W := W) o.type hb hr hl hq c
  exact Lib.wpList_append_run W hgd s x 60 60 ho _ _ hs hx v' w' hrun (h v' w' hlg)
set_option maxHeartbeats 8000000 in
theorem longer_first55 (a : Option Addr) (c : Nat) (f n : Nat) (hn : n ≠ 0) (w : World) (hr : w.ownsRow 0 70 2 (.slice a 0 c) ([] : List (Nat × Nat)).length (pcells [])) :
    Calls Try.prog 55 #[.slice a 0 c, .agg #[.int .i64 (f : Int), .int .i64 (n : Int)]] w fun e w' => ∃ v', e = .returned v' ∧ Lg w (.slice a 0 c) w' v' [(f, n)] := by
  have HR := Lib.hid hr
  have ht : (((n : Nat) : Int) == 0) = false := by simp; omega
  clear hr hn
  go_enter Try.func55, Try.ntmps55
  go_wp2_with fail
  go_quiet (fail)
  have HB : Hid (Below w.heap.size w ((w.alloc (.cells #[.int .i64 (f : Int), .int .i64 (n : Int)] 70)).drewN nq)) := Lib.hid (below_drewN (by go_grown) nq)
  have KB : Hid (Bk 70 ((w.alloc (.cells #[.int .i64 (f : Int), .int .i64 (n : Int)] 70)).drewN nq) w.heap.size #[.int .i64 (f : Int), .int .i64 (n : Int)]) := Lib.hid (Bk.below (Bk.new rfl) ⟨rfl, rfl, rfl, Nat.le_refl _, fun _ _ => rfl⟩)
  generalize ((w.alloc (.cells #[.int .i64 (f : Int), .int .i64 (n : Int)] 70)).drewN nq) = w1 at HB KB ⊢
  have b0 := KB.out.cell 0
  have b1 := KB.out.cell 1
  go_wp2_with (at_builtin; refine wp_piece rfl _ _ rfl w (.slice a 0 c) [] f n _ _ rfl rfl (HB.out.alloc HB.out.size _) HR.out (by simp) (Bk.new rfl) ?_; intro v' w' hlg; replace hlg := Lib.hid hlg)
  go_ret
  exact ⟨_, rfl, hlg.out⟩
theorem index60 (q c k : Nat) (w : World) : (Instr.indexAt 60 (.slice (some ⟨q, 0, none⟩) (k + 1) c) (.int .i64 (k : Int))).run Try.prog w = .ok (.pointer (some ⟨q, k * 2, none⟩)) w := by
  have hb2 : k < k + 1 := by omega
  go_simp
  intro h
  omega
set_option maxHeartbeats 8000000 in
theorem longer_same55 (q c k : Nat) (cur : Array Value) (f n m : Nat) (hn : n ≠ 0) (hmb : m + n ≤ 4194304) (hk : k ≤ 4194304) (w : World) (hq : w.heap[q]? = some (.cells cur 70 (0, 0))) (c0 : w.cell? ⟨q, k * 2, none⟩ = some (.int .i64 (f : Int))) (c1 : w.cell? ⟨q, k * 2 + 1, none⟩ = some (.int .i64 (m : Int))) :
    Calls Try.prog 55 #[.slice (some ⟨q, 0, none⟩) (k + 1) c, .agg #[.int .i64 (f : Int), .int .i64 (n : Int)]] w fun e w' => e = .returned (.slice (some ⟨q, 0, none⟩) (k + 1) c) ∧ w'.heap[q]? = some (.cells (cur.setIfInBounds (k * 2 + 1) (.int .i64 ((m + n : Nat) : Int))) 70 (0, 0)) ∧ Only [q] w w' := by
  have ht : (((n : Nat) : Int) == 0) = false := by simp; omega
  have hb2 : k < k + 1 := by omega
  have d0 : (w.alloc (.cells #[.int .i64 (f : Int), .int .i64 (n : Int)] 70)).cell? ⟨q, k * 2, none⟩ = some (.int .i64 (f : Int)) := ((show Below w.heap.size w (w.alloc (.cells #[.int .i64 (f : Int), .int .i64 (n : Int)] 70)) by go_grown).cell (p := ⟨q, k * 2, none⟩) (blk_lt hq)).trans c0
  have d1 : (w.alloc (.cells #[.int .i64 (f : Int), .int .i64 (n : Int)] 70)).cell? ⟨q, k * 2 + 1, none⟩ = some (.int .i64 (m : Int)) := ((show Below w.heap.size w (w.alloc (.cells #[.int .i64 (f : Int), .int .i64 (n : Int)] 70)) by go_grown).cell (p := ⟨q, k * 2 + 1, none⟩) (blk_lt hq)).trans c1
  have hq1 : (w.alloc (.cells #[.int .i64 (f : Int), .int .i64 (n : Int)] 70)).heap[q]? = some (.cells cur 70 (0, 0)) := ((show Below w.heap.size w (w.alloc (.cells #[.int .i64 (f : Int), .int .i64 (n : Int)] 70)) by go_grown).block q (blk_lt hq)).trans hq
  have fz : (w.alloc (.cells #[.int .i64 (f : Int), .int .i64 (n : Int)] 70)).frozen? ⟨q, k * 2 + 1, none⟩ = false := frozen_of_row _ _ _ _ _ hq1
  have HQ := Lib.hid hq1
  have hqlt := Lib.hid (blk_lt hq)
  clear hn c0 c1 hq hq1
  go_enter Try.func55, Try.ntmps55
  go_wp2_with fail
  go_quiet (fail)
  have HB : Hid (Below w.heap.size w ((w.alloc (.cells #[.int .i64 (f : Int), .int .i64 (n : Int)] 70)).drewN nq)) := Lib.hid (below_drewN (by go_grown) nq)
  have KB : Hid (Bk 70 ((w.alloc (.cells #[.int .i64 (f : Int), .int .i64 (n : Int)] 70)).drewN nq) w.heap.size #[.int .i64 (f : Int), .int .i64 (n : Int)]) := Lib.hid (Bk.below (Bk.new rfl) ⟨rfl, rfl, rfl, Nat.le_refl _, fun _ _ => rfl⟩)
  have e1 : ((w.alloc (.cells #[.int .i64 (f : Int), .int .i64 (n : Int)] 70)).drewN nq).cell? ⟨q, k * 2 + 1, none⟩ = some (.int .i64 (m : Int)) := d1
  have ef : ((w.alloc (.cells #[.int .i64 (f : Int), .int .i64 (n : Int)] 70)).drewN nq).frozen? ⟨q, k * 2 + 1, none⟩ = false := fz
  have HQ2 : Hid (((w.alloc (.cells #[.int .i64 (f : Int), .int .i64 (n : Int)] 70)).drewN nq).heap[q]? = some (.cells cur 70 (0, 0))) := Lib.hid HQ.out
  clear d0 d1 fz HQ
  generalize ((w.alloc (.cells #[.int .i64 (f : Int), .int .i64 (n : Int)] 70)).drewN nq) = w1 at HB KB e1 ef HQ2 ⊢
  have b1 := KB.out.cell 1
  have EV : Hid ((m : Int) + (n : Int) = ((m + n : Nat) : Int)) := Lib.hid (by omega)
  have hix := index60 q c k
  go_wp2_with fail
  go_still_tail 10, (by kernel_rfl)
  go_wp2_with fail
  rw [EV.out]
  go_ret
  exact ⟨rfl, heap_setCell_same _ _ _ _ _ _ HQ2.out, ((Only.of HB.out).setCell _ (by simp) _).drew⟩
set_option maxHeartbeats 8000000 in
theorem longer_other55 (q c k : Nat) (cur : Array Value) (f n g : Nat) (row : List (Nat × Nat)) (hrow : row.length = k + 1) (hn : n ≠ 0) (hg : g ≠ f) (hk : k ≤ 4194303) (w : World) (hr : w.ownsRow 0 70 2 (.slice (some ⟨q, 0, none⟩) (k + 1) c) row.length (pcells row)) (hq : w.heap[q]? = some (.cells cur 70 (0, 0))) (c0 : w.cell? ⟨q, k * 2, none⟩ = some (.int .i64 (g : Int))) :
    Calls Try.prog 55 #[.slice (some ⟨q, 0, none⟩) (k + 1) c, .agg #[.int .i64 (f : Int), .int .i64 (n : Int)]] w fun e w' => ∃ v', e = .returned v' ∧ Lg w (.slice (some ⟨q, 0, none⟩) (k + 1) c) w' v' (row ++ [(f, n)]) := by
  have HR := Lib.hid hr
  have HRL := Lib.hid (show row.length ≤ 4194304 by omega)
  have ht : (((n : Nat) : Int) == 0) = false := by simp; omega
  have ht2 : (((g : Nat) : Int) == ((f : Nat) : Int)) = false := by simp; omega
  have hb2 : k < k + 1 := by omega
  have d0 : (w.alloc (.cells #[.int .i64 (f : Int), .int .i64 (n : Int)] 70)).cell? ⟨q, k * 2, none⟩ = some (.int .i64 (g : Int)) := ((show Below w.heap.size w (w.alloc (.cells #[.int .i64 (f : Int), .int .i64 (n : Int)] 70)) by go_grown).cell (p := ⟨q, k * 2, none⟩) (blk_lt hq)).trans c0
  clear hn hg c0 hq hr hrow
  go_enter Try.func55, Try.ntmps55
  go_wp2_with fail
  go_quiet (fail)
  have HB : Hid (Below w.heap.size w ((w.alloc (.cells #[.int .i64 (f : Int), .int .i64 (n : Int)] 70)).drewN nq)) := Lib.hid (below_drewN (by go_grown) nq)
  have KB : Hid (Bk 70 ((w.alloc (.cells #[.int .i64 (f : Int), .int .i64 (n : Int)] 70)).drewN nq) w.heap.size #[.int .i64 (f : Int), .int .i64 (n : Int)]) := Lib.hid (Bk.below (Bk.new rfl) ⟨rfl, rfl, rfl, Nat.le_refl _, fun _ _ => rfl⟩)
  generalize ((w.alloc (.cells #[.int .i64 (f : Int), .int .i64 (n : Int)] 70)).drewN nq) = w1 at HB KB ⊢
  have b0 := KB.out.cell 0
  have b1 := KB.out.cell 1
  go_wp2_with (at_builtin; refine wp_piece rfl _ _ rfl w (.slice (some ⟨q, 0, none⟩) (k + 1) c) row f n _ _ rfl rfl (HB.out.alloc HB.out.size _) HR.out HRL.out (Bk.new rfl) ?_; intro v' w' hlg; replace hlg := Lib.hid hlg)
  go_ret
  exact ⟨_, rfl, hlg.out⟩
theorem pcells_set (r : List (Nat × Nat)) (f m n : Nat) : (pcells (r ++ [(f, m)])).set (r.length * 2 + 1) (.int .i64 (n : Int)) = pcells (r ++ [(f, n)]) := by
  rw [pcells_app, pcells_app, List.set_append_right _ _ (by rw [pcells_len]; omega), pcells_len, show r.length * 2 + 1 - r.length * 2 = 1 from by omega]
  rfl
theorem longer_any (rv : Value) (row : List (Nat × Nat)) (f n : Nat) (hl : row.length ≤ 2097152) (hb : ∀ p ∈ row, p.2 + n ≤ 4194304) (w : World) (hr : w.ownsRow 0 70 2 rv row.length (pcells row)) :
    Calls Try.prog 55 #[rv, .agg #[.int .i64 (f : Int), .int .i64 (n : Int)]] w fun e w' => ∃ v', e = .returned v' ∧ Lg w rv w' v' (longer row f n) := by
  by_cases hn : n = 0
  · subst hn
    rw [longer_zero]
    exact longer_zero55 rv f row w hr
  · rcases split_last row with rfl | ⟨r, g, m, rfl⟩
    · rw [longer_nil _ _ hn]
      have hr' := hr
      obtain ⟨_, ⟨rfl, _⟩ | ⟨q, cap, cur, rfl, _⟩⟩ := hr'
      · exact longer_first55 none 0 f n hn w hr
      · exact longer_first55 _ cap f n hn w hr
    · have hr' := hr
      obtain ⟨hxl, ⟨rfl, h0⟩ | ⟨q, cap, cur, rfl, hB, hq, hnc, hcm, hcs, htk⟩⟩ := hr'
      · simp at h0
      · have hlen : (r ++ [(g, m)]).length = r.length + 1 := by simp
        have hpc := piece_cell hq htk r.length (by simp)
        simp only [List.getElem_append_right (Nat.le_refl r.length), Nat.sub_self, List.getElem_cons_zero] at hpc
        rw [hlen] at hl
        by_cases hg : g = f
        · subst hg
          rw [longer_same _ _ _ _ hn]
          have hmn := hb (g, m) (by simp)
          simp only at hmn
          have h2 := longer_same55 q cap r.length cur g n m hn hmn (by omega) w hq hpc.1 hpc.2
          rw [hlen]
          refine h2.mono ?_
          rintro e w' ⟨rfl, hq', ho⟩
          refine ⟨_, rfl, ⟨by rw [pcells_len], .inr ⟨q, cap, _, by simp, hB, hq', by simpa using hnc, hcm, by simpa using hcs, ?_⟩⟩, ho, fun k hk => .inl hk⟩
          rw [Array.toList_setIfInBounds, List.take_set, show (r ++ [(g, m + n)]).length * 2 = (r ++ [(g, m)]).length * 2 by simp, htk, pcells_set]
        · rw [longer_other _ _ _ _ _ hn hg]
          rw [hlen]
          exact longer_other55 q cap r.length cur f n g (r ++ [(g, m)]) hlen hn hg (by omega) w (by rw [hlen] at hr ⊢; exact hr) hq hpc.1
end Go.Proofs.Ytekagnhablkggaa
