/- Find: the last step of a window that has a code. Conditions: secrets and codes of at most 2^47 bytes; the library's table. -/
import Derived.Test.YteaanoaldnnflaaDoorOf
set_option linter.unusedVariables false
set_option linter.unusedSimpArgs false
namespace Go.Proofs.YteaanoaldnnflaaDoor
open Go.RowKit Go.Shelf
attribute [local go_sem] Oper.semAt_some

/-- what Find answers -/
def findL (key code : List UInt8) (s d : Int) : Int × Bool :=
  if s < 0 ∨ 1099511627776 < s ∨ d < 0 ∨ 10 < d then (0, false)
  else match (downL (s + d) (max (s - d) 0)).find? (fun n => decide (codeL key n = code)) with
    | some n => (n, true)
    | none => (0, false)

theorem keeps_of_below {W W' : World} (h : Below W.heap.size W W') : KeepsOthers W W' :=
  ⟨h.size, fun k o hk ho => (h.block k (Array.getElem?_eq_some_iff.1 hk).1).trans hk⟩

theorem cell_lt {W : World} {b : Nat} {v : Value} (h : W.cell? ⟨b, 0, none⟩ = some v) : b < W.heap.size := by
  rcases Nat.lt_or_ge b W.heap.size with h' | h'
  · exact h'
  · simp [World.cell?, Array.getElem?_eq_none h'] at h
theorem cell_two {W : World} {a b : Nat} {u v : Value} (x y : Value) (hne : a ≠ b) (ha : W.cell? ⟨a, 0, none⟩ = some u) (hb : W.cell? ⟨b, 0, none⟩ = some v) :
    ((W.setCell ⟨a, 0, none⟩ x).setCell ⟨b, 0, none⟩ y).cell? ⟨a, 0, none⟩ = some x ∧ ((W.setCell ⟨a, 0, none⟩ x).setCell ⟨b, 0, none⟩ y).cell? ⟨b, 0, none⟩ = some y := by
  constructor
  · rw [World.cell?_of_block (Below.heap_setCell (W.setCell ⟨a, 0, none⟩ x) ⟨b, 0, none⟩ y a hne)]
    exact World.cell?_setCell_same' _ _ _ (by rw [ha]; rfl)
  · refine World.cell?_setCell_same' _ _ _ ?_
    rw [World.cell?_of_block (w := W) (Below.heap_setCell W ⟨a, 0, none⟩ x b (fun e => hne e.symm)), hb]
    rfl
theorem al_new (w : World) (o : Obj) : (w.alloc o).heap[w.heap.size]? = some o := Go.heap_alloc_new w o
theorem al_old {w : World} {k : Nat} {o' : Obj} (o : Obj) (h : w.heap[k]? = some o') : (w.alloc o).heap[k]? = some o' := by
  rw [Lib.alloc_old _ _ _ (Array.getElem?_eq_some_iff.1 h).1]; exact h
theorem alloc6 (w : World) (o0 o1 o2 o3 o4 o5 : Obj) : ∃ W6, (((((w.alloc o0).alloc o1).alloc o2).alloc o3).alloc o4).alloc o5 = W6 ∧ W6.heap[w.heap.size]? = some o0 ∧ W6.heap[w.heap.size + 1]? = some o1 ∧ W6.heap[w.heap.size + 1 + 1]? = some o2 ∧
    W6.heap[w.heap.size + 1 + 1 + 1]? = some o3 ∧ W6.heap[w.heap.size + 1 + 1 + 1 + 1]? = some o4 ∧ W6.heap[w.heap.size + 1 + 1 + 1 + 1 + 1]? = some o5 ∧ W6.heap.size = w.heap.size + 1 + 1 + 1 + 1 + 1 + 1 ∧ Below w.heap.size w W6 := by
  have z1 := World.size_alloc w o0
  have z2 := World.size_alloc (w.alloc o0) o1
  have z3 := World.size_alloc ((w.alloc o0).alloc o1) o2
  have z4 := World.size_alloc (((w.alloc o0).alloc o1).alloc o2) o3
  have z5 := World.size_alloc ((((w.alloc o0).alloc o1).alloc o2).alloc o3) o4
  have z6 := World.size_alloc (((((w.alloc o0).alloc o1).alloc o2).alloc o3).alloc o4) o5
  have h0 := al_new w o0
  have h1 := al_new (w.alloc o0) o1
  have h2 := al_new ((w.alloc o0).alloc o1) o2
  have h3 := al_new (((w.alloc o0).alloc o1).alloc o2) o3
  have h4 := al_new ((((w.alloc o0).alloc o1).alloc o2).alloc o3) o4
  have h5 := al_new (((((w.alloc o0).alloc o1).alloc o2).alloc o3).alloc o4) o5
  rw [z1] at h1 z2
  rw [z2] at h2 z3
  rw [z3] at h3 z4
  rw [z4] at h4 z5
  rw [z5] at h5 z6
  refine ⟨_, rfl, al_old _ (al_old _ (al_old _ (al_old _ (al_old _ h0)))), al_old _ (al_old _ (al_old _ (al_old _ h1))), al_old _ (al_old _ (al_old _ h2)), al_old _ (al_old _ h3), al_old _ h4, h5, z6, ?_⟩
  exact ((((((Below.refl _ w).alloc (Nat.le_refl _) _).alloc (by omega) _).alloc (by omega) _).alloc (by omega) _).alloc (by omega) _).alloc (by omega) _

set_option maxRecDepth 100000 in
set_option maxHeartbeats 4000000 in
theorem find_loop (key code : List UInt8) (hk : key.length ≤ 140737488355328) (hc6 : code.length = 6) (s d : Int) (hs0 : 0 ≤ s) (hs1 : s ≤ 1099511627776) (hd0 : 0 ≤ d) (hd1 : d ≤ 10) (w : World) (hT : Tb w) :
    CallsIn Fence.wide 8 Tryd.prog 11 #[.string ⟨key.toArray⟩, .string ⟨code.toArray⟩, .int .i64 s, .int .i64 d] w fun e w' => e = .returned (.tuple #[.int .i64 (findL key code s d).1, .bool (findL key code s d).2]) ∧ Below w.heap.size w w' := by
  have hsz := size_ba code
  rw [hc6] at hsz
  have hHK := Lib.hid hk
  have HT := Lib.hid hT
  clear hk hT
  have hfi : findL key code s d = match (downL (s + d) (max (s - d) 0)).find? (fun n => decide (codeL key n = code)) with | some n => (n, true) | none => (0, false) := by
    rw [findL, if_neg (by omega)]
  have hval := downA_val (s + d) (max (s - d) 0) (by omega) (by omega)
  have HNO : Hid ((∀ y ∈ downA (s + d) (max (s - d) 0), codeL key y.1 ≠ code) → findL key code s d = (0, false)) := Lib.hid (fun h => by
    rw [hfi, List.find?_eq_none.2 ?_]
    intro n hn
    rw [← hval, List.mem_map] at hn
    obtain ⟨y, hy, rfl⟩ := hn
    simpa using h y hy)
  have HYES : Hid (∀ (pre q : List St) (x : St), pre <+: downA (s + d) (max (s - d) 0) → pre = q ++ [x] → (∀ y ∈ q, codeL key y.1 ≠ code) → codeL key x.1 = code → findL key code s d = (x.1, true)) := Lib.hid (fun pre q x hpre hq h3 h4 => by
    obtain ⟨r, hr⟩ := hpre
    have e : (downL (s + d) (max (s - d) 0)).find? (fun n => decide (codeL key n = code)) = some x.1 := by
      rw [← hval, ← hr, hq, List.map_append, List.map_append, List.append_assoc, List.find?_append, List.find?_eq_none.2 ?_]
      · simp [h4]
      · intro n hn
        rw [List.mem_map] at hn
        obtain ⟨y, hy, rfl⟩ := hn
        simpa using h3 y hy
    rw [hfi, e])
  clear hfi hval
  have e1 : decide (s < 0) = false := by simpa using hs0
  have e2 : decide (1099511627776 < s) = false := by simpa using hs1
  have e3 : decide (d < 0) = false := by simpa using hd0
  have e4 : decide (10 < d) = false := by simpa using hd1
  refine callsIn_of_wp_marks Tryd.func11 rfl trivial ?_ rfl
  simp only [Tryd.ntmps11, List.size_toArray, List.length_cons, List.length_nil, Nat.reduceAdd, Nat.reduceSub, Array.replicate_succ, Array.replicate_zero, List.push_toArray, List.append_toArray, List.nil_append, List.cons_append]
  obtain ⟨W6, hW6, k0, k1, k2, k3, k4, k5, hz6, hB6⟩ := alloc6 w (.cells #[.string ⟨key.toArray⟩] 9) (.cells #[.string ⟨code.toArray⟩] 9) (.cells #[.int .i64 0] 3) (.cells #[.bool false] 4) (.cells #[.int .i64 (s + d)] 3) (.cells #[.int .i64 (max (s - d) 0)] 3)
  have HT6 := Lib.hid (HT.out.below hB6)
  have H0 := Lib.hid (Lib.cell_of_heap k0 0)
  have H1 := Lib.hid (Lib.cell_of_heap k1 0)
  have H2 := Lib.hid (Lib.cell_of_heap k2 0)
  have H3 := Lib.hid (Lib.cell_of_heap k3 0)
  have H4 := Lib.hid (Lib.cell_of_heap k4 0)
  have H5 := Lib.hid (Lib.cell_of_heap k5 0)
  have F2 := Lib.hid (Lib.frozen_of_heap k2 0)
  have F3 := Lib.hid (Lib.frozen_of_heap k3 0)
  have HW6 := Lib.hid hW6
  have HB6 := Lib.hid hB6
  clear k0 k1 k2 k3 k4 k5 hW6 hB6
  gi_wp2
  refine ⟨trivial, ?_⟩
  refine (falling_any _ _ _ _).mono ?_
  rintro e w' ⟨rfl, rfl⟩
  rw [HW6.out]
  gi_wp2
  refine wpIn_rangeFunc_ownF rfl (by decide) (gf := 25) (lb := #[.pointer (some ⟨w.heap.size + 1 + 1 + 1 + 1, 0, none⟩), .pointer (some ⟨w.heap.size + 1 + 1 + 1 + 1 + 1, 0, none⟩)]) rfl trivial (enters_of Tryd.func25 (by kernel_rfl) rfl)
    (falling_stops 7 (by decide) (w.heap.size + 1 + 1 + 1 + 1) (w.heap.size + 1 + 1 + 1 + 1 + 1) W6.heap.size (s + d) (max (s - d) 0) (by omega) (by omega) W6 (by omega) (by omega) (Nat.le_refl _) H4.out H5.out) belowK_t (belowK_b (Nat.le_refl _)) (Below.refl _ _) (fun _ => rfl)
    (fun pre W => ((∀ y ∈ pre, codeL key y.1 ≠ code) ∧ W.cell? ⟨w.heap.size, 0, none⟩ = some (.string ⟨key.toArray⟩) ∧ W.cell? ⟨w.heap.size + 1, 0, none⟩ = some (.string ⟨code.toArray⟩) ∧ W.cell? ⟨w.heap.size + 1 + 1, 0, none⟩ = some (.int .i64 0) ∧ W.frozen? ⟨w.heap.size + 1 + 1, 0, none⟩ = false ∧ W.cell? ⟨w.heap.size + 1 + 1 + 1, 0, none⟩ = some (.bool false) ∧ W.frozen? ⟨w.heap.size + 1 + 1 + 1, 0, none⟩ = false ∧ W.cell? ⟨w.heap.size + 1 + 1 + 1 + 1 + 1, 0, none⟩ = some (.int .i64 (max (s - d) 0))) ∧ Below w.heap.size w W)
    (fun c pre W => (c = .ret ∧ ∃ (q : List St) (x : St), pre = q ++ [x] ∧ (∀ y ∈ q, codeL key y.1 ≠ code) ∧ codeL key x.1 = code ∧ W.cell? ⟨w.heap.size + 1 + 1, 0, none⟩ = some (.int .i64 x.1) ∧ W.cell? ⟨w.heap.size + 1 + 1 + 1, 0, none⟩ = some (.bool true)) ∧ Below w.heap.size w W)
    (OwnFrom.and (Own.from (fun s A B row hs hg hr => ⟨hs.1, cell_kept hs.2.1 hg hr, cell_kept hs.2.2.1 hg hr, cell_kept hs.2.2.2.1 hg hr, (frozen_kept hs.2.2.2.1 hg hr).trans hs.2.2.2.2.1, cell_kept hs.2.2.2.2.2.1 hg hr, (frozen_kept hs.2.2.2.2.2.1 hg hr).trans hs.2.2.2.2.2.2.1, cell_kept hs.2.2.2.2.2.2.2 hg hr⟩) _) (ownFrom_below (Nat.le_refl _) (by omega)))
    (fun c => OwnFrom.and (Own.from (fun s A B row hs hg hr => by
      obtain ⟨h1, q, x, h2, h3, h4, h5, h6⟩ := hs
      exact ⟨h1, q, x, h2, h3, h4, cell_kept h5 hg hr, cell_kept h6 hg hr⟩) _) (ownFrom_below (Nat.le_refl _) (by omega)))
    ⟨⟨by simp, H0.out, H1.out, H2.out, F2.out, H3.out, F3.out, H5.out⟩, HB6.out⟩
    (fun x => { tmps := #[.string ⟨key.toArray⟩, .string ⟨code.toArray⟩, .int .i64 s, .int .i64 d, .pointer (some ⟨w.heap.size, 0, none⟩), .pointer (some ⟨w.heap.size + 1, 0, none⟩), undef, undef, .pointer (some ⟨w.heap.size + 1 + 1, 0, none⟩), .pointer (some ⟨w.heap.size + 1 + 1 + 1, 0, none⟩), .int .i64 x.1, .int .i64 s,
      .bool false, .bool false, .int .i64 s, .bool false, .bool false, .bool false, .int .i64 d, .bool false, .bool false, .bool false, .int .i64 d, .bool false, .bool false, .string ⟨code.toArray⟩, .int .i64 6, .bool false, .int .i64 s, .int .i64 d, .int .i64 (s + d), .int .i64 s, .int .i64 d, .int .i64 (s - d), .int .i64 (max (s - d) 0),
      .func (.func 25) #[] #[.pointer (some ⟨w.heap.size + 1 + 1 + 1 + 1, 0, none⟩), .pointer (some ⟨w.heap.size + 1 + 1 + 1 + 1 + 1, 0, none⟩)], .int .i64 x.1, undef, undef, undef, undef, undef, undef], defers := [] }) ?assign ?body ?done ?stop
  case assign =>
    intro l x W K hK
    gi_wp2
    exact hK
  case body =>
    rintro l pre x W ⟨⟨hp, c0, c1, c2, f2, c3, f3, c5⟩, hB⟩ _
    have z5 := cell_lt c5
    have hTW := HT.out.below hB
    have hd : 1 ≤ 8 - 1 - 1 := by omega
    have hTD : Tb W.drew := hTW
    have z1 := cell_lt c1
    have z3 := cell_lt c3
    have hmx : Tryd.prog.follows .mixedOrders = true := by kernel_rfl
    have HC := Lib.hid (fun (W : World) (h : Tb W) => CallsIn.inRound l (callsIn_wide.2 (code_any key (Nat.le_trans hHK.out (by decide)) x.1 (by have := x.2; omega) (by have := x.2; omega) W h) : CallsIn Fence.wide 5 Tryd.prog 9 _ W _))
    have z2 := cell_lt c2
    by_cases hx : codeL key x.1 = code
    · have HS := Lib.hid (fun (W : World) => CallsIn.inRound l (callsIn_wide.2 (same_any (codeL key x.1) code (by rw [codeL_length]; decide) (by omega) W) : CallsIn Fence.wide 5 Tryd.prog 19 _ W _))
      rw [show decide (codeL key x.1 = code) = true from by simpa using hx] at HS
      have HX := Lib.hid hx
      clear hx
      gi_wp2
      gi_region_with_o (first | (refine ⟨trivial, ?_⟩; gi_at_call 9; refine (HC.out _ hTD).mono ?_; rintro e w1 ⟨rfl, b1⟩; have hb1 : Below W.heap.size W w1 := (Below.refl _ W).drew.trans b1; have c1' := (hb1.cell (p := ⟨w.heap.size + 1, 0, none⟩) z1).trans c1; have c2' := (hb1.cell (p := ⟨w.heap.size + 1 + 1, 0, none⟩) z2).trans c2; have c3' := (hb1.cell (p := ⟨w.heap.size + 1 + 1 + 1, 0, none⟩) z3).trans c3; have f2' := (hb1.frozen (p := ⟨w.heap.size + 1 + 1, 0, none⟩) z2).trans f2; have f3' := (hb1.frozen (p := ⟨w.heap.size + 1 + 1 + 1, 0, none⟩) z3).trans f3) | (refine ⟨trivial, ?_⟩; gi_at_call 19; refine (HS.out _).mono ?_; rintro e w2 ⟨rfl, rfl⟩))
      all_goals gi_wp2
      all_goals
        have hcc := cell_two (.int .i64 x.1) (.bool true) (by omega) c2' c3'
        exact ⟨(keeps_of_below hb1).trans ((KeepsOthers.setCell _ _ _).trans (KeepsOthers.setCell _ _ _)), ⟨rfl, pre, x, rfl, hp, HX.out, hcc.1, hcc.2⟩, ((hB.trans (hb1.mono hB.size)).setCell (p := ⟨w.heap.size + 1 + 1, 0, none⟩) (by simp; omega) _).setCell (p := ⟨w.heap.size + 1 + 1 + 1, 0, none⟩) (by simp; omega) _⟩
    · have HS := Lib.hid (fun (W : World) => CallsIn.inRound l (callsIn_wide.2 (same_any (codeL key x.1) code (by rw [codeL_length]; decide) (by omega) W) : CallsIn Fence.wide 5 Tryd.prog 19 _ W _))
      rw [show decide (codeL key x.1 = code) = false from by simpa using hx] at HS
      have HX := Lib.hid hx
      clear hx
      gi_wp2
      gi_region_with_o (first | (refine ⟨trivial, ?_⟩; gi_at_call 9; refine (HC.out _ hTD).mono ?_; rintro e w1 ⟨rfl, b1⟩; have hb1 : Below W.heap.size W w1 := (Below.refl _ W).drew.trans b1; have c1' := (hb1.cell (p := ⟨w.heap.size + 1, 0, none⟩) z1).trans c1; have c2' := (hb1.cell (p := ⟨w.heap.size + 1 + 1, 0, none⟩) z2).trans c2; have c3' := (hb1.cell (p := ⟨w.heap.size + 1 + 1 + 1, 0, none⟩) z3).trans c3; have f2' := (hb1.frozen (p := ⟨w.heap.size + 1 + 1, 0, none⟩) z2).trans f2; have f3' := (hb1.frozen (p := ⟨w.heap.size + 1 + 1 + 1, 0, none⟩) z3).trans f3) | (refine ⟨trivial, ?_⟩; gi_at_call 19; refine (HS.out _).mono ?_; rintro e w2 ⟨rfl, rfl⟩))
      all_goals gi_wp2
      all_goals
        have c5' := (hb1.cell (p := ⟨w.heap.size + 1 + 1 + 1 + 1 + 1, 0, none⟩) z5).trans c5
        have c0' := (hb1.cell (p := ⟨w.heap.size, 0, none⟩) (show w.heap.size < W.heap.size by omega)).trans c0
        exact ⟨keeps_of_below hb1, hb1.mono (by omega), ⟨fun y hy => (List.mem_append.1 hy).elim (hp y) (fun e => by simp at e; subst e; exact HX.out), c0', c1', c2', f2', c3', f3', c5'⟩, hB.trans (hb1.mono hB.size)⟩
  case done =>
    rintro D ys W hD rfl ⟨⟨hp, c0, c1, c2, f2, c3, f3, c5⟩, hB⟩ hK
    gi_wp2
    have hcc := cell_two (.int .i64 0) (.bool false) (by omega) c2 c3
    have hK' := ((KeepsOthers.setCell W ⟨w.heap.size + 1 + 1, 0, none⟩ (.int .i64 0)).trans (KeepsOthers.setCell _ ⟨w.heap.size + 1 + 1 + 1, 0, none⟩ (.bool false))).same D _ hK rfl
    refine ⟨by simp, .inl ⟨_, _, rfl, run_takeDeferred hK', ?_⟩⟩
    have hc5 := cell_kept hcc.1 (grownBy_putObj' _ D (.deferred none)) (fun r e => by cases e; exact ⟨_, hK', rfl⟩)
    have hc6 := cell_kept hcc.2 (grownBy_putObj' _ D (.deferred none)) (fun r e => by cases e; exact ⟨_, hK', rfl⟩)
    refine ⟨.tuple #[.int .i64 0, .bool false], ?_, by rw [HNO.out hp], ((hB.setCell (p := ⟨w.heap.size + 1 + 1, 0, none⟩) (by simp; omega) _).setCell (p := ⟨w.heap.size + 1 + 1 + 1, 0, none⟩) (by simp; omega) _).trans (belowK_b (w := w) (Nat.le_refl _) _ D _ _ (by omega) hK' rfl rfl)⟩
    simp [results, Tryd.f11, go_sem, hc5, hc6]
  case stop =>
    rintro D c pre W hD hpre ⟨⟨rfl, q, x, hq, h3, h4, c2, c3⟩, hB⟩ hK
    gi_wp2
    refine ⟨by simp, .inl ⟨_, _, rfl, run_takeDeferred hK, ?_⟩⟩
    have hc5 := cell_kept c2 (grownBy_putObj' _ D (.deferred none)) (fun r e => by cases e; exact ⟨_, hK, rfl⟩)
    have hc6 := cell_kept c3 (grownBy_putObj' _ D (.deferred none)) (fun r e => by cases e; exact ⟨_, hK, rfl⟩)
    refine ⟨.tuple #[.int .i64 x.1, .bool true], ?_, by rw [HYES.out pre q x hpre hq h3 h4], hB.trans (belowK_b (w := w) (Nat.le_refl _) W D _ _ (by omega) hK rfl rfl)⟩
    simp [results, Tryd.f11, go_sem, hc5, hc6]

theorem alloc4 (w : World) (o0 o1 : Obj) (v2 v3 : Value) (t2 t3 : TypeId) : ((((w.alloc o0).alloc o1).alloc (.cells #[v2] t2)).alloc (.cells #[v3] t3)).cell? ⟨w.heap.size + 1 + 1, 0, none⟩ = some v2 ∧
    ((((w.alloc o0).alloc o1).alloc (.cells #[v2] t2)).alloc (.cells #[v3] t3)).cell? ⟨w.heap.size + 1 + 1 + 1, 0, none⟩ = some v3 ∧ Below w.heap.size w ((((w.alloc o0).alloc o1).alloc (.cells #[v2] t2)).alloc (.cells #[v3] t3)) := by
  have z1 := World.size_alloc w o0
  have z2 := World.size_alloc (w.alloc o0) o1
  have z3 := World.size_alloc ((w.alloc o0).alloc o1) (.cells #[v2] t2)
  have h2 := al_new ((w.alloc o0).alloc o1) (.cells #[v2] t2)
  have h3 := al_new (((w.alloc o0).alloc o1).alloc (.cells #[v2] t2)) (.cells #[v3] t3)
  rw [z1] at z2
  rw [z2] at h2 z3
  rw [z3] at h3
  refine ⟨Lib.cell_of_heap (al_old _ h2) 0, Lib.cell_of_heap h3 0, ?_⟩
  exact ((((Below.refl _ w).alloc (Nat.le_refl _) _).alloc (by omega) _).alloc (by omega) _).alloc (by omega) _

set_option maxRecDepth 100000 in
set_option maxHeartbeats 4000000 in
theorem find_any (key code : List UInt8) (hk : key.length ≤ 140737488355328) (hc : code.length ≤ 140737488355328) (s d : Int) (w : World) (hT : Tb w) :
    Calls Tryd.prog 11 #[.string ⟨key.toArray⟩, .string ⟨code.toArray⟩, .int .i64 s, .int .i64 d] w fun e w' => e = .returned (.tuple #[.int .i64 (findL key code s d).1, .bool (findL key code s d).2]) ∧ Below w.heap.size w w' := by
  by_cases hr : s < 0 ∨ 1099511627776 < s ∨ d < 0 ∨ 10 < d
  · have hf : findL key code s d = (0, false) := by rw [findL, if_pos hr]
    rw [hf]
    clear hf hk hc hT
    have key2 : (decide (s < 0) || (decide (1099511627776 < s) || (decide (d < 0) || decide (10 < d)))) = true := by simpa using hr
    have HA := Lib.hid (alloc4 w (.cells #[.string ⟨key.toArray⟩] 9) (.cells #[.string ⟨code.toArray⟩] 9) (.int .i64 0) (.bool false) 3 4)
    go_enter Tryd.func11, Tryd.ntmps11
    go_wp2_with fail
    all_goals
      exact bodyPost_ret (v := .tuple #[.int .i64 0, .bool false]) (by simp [results, Tryd.f11, go_sem, HA.out.1, HA.out.2.1]) rfl ⟨rfl, HA.out.2.2⟩
  · by_cases h6 : code.length = 6
    · exact callsIn_wide.1 (find_loop key code hk h6 s d (by omega) (by omega) (by omega) (by omega) w hT)
    · have hf : findL key code s d = (0, false) := by
        rw [findL, if_neg hr, List.find?_eq_none.2 ?_]
        intro n _
        simp only [decide_eq_true_eq]
        intro e
        exact h6 (by rw [← e, codeL_length])
      rw [hf]
      clear hf hk hT
      have hsz := size_ba code
      have e1 : decide (s < 0) = false := by simpa using (by omega : 0 ≤ s)
      have e2 : decide (1099511627776 < s) = false := by simpa using (by omega : s ≤ 1099511627776)
      have e3 : decide (d < 0) = false := by simpa using (by omega : 0 ≤ d)
      have e4 : decide (10 < d) = false := by simpa using (by omega : d ≤ 10)
      have e5 : ((code.length : Int) != 6) = true := by simp; omega
      clear hr
      have HA := Lib.hid (alloc4 w (.cells #[.string ⟨key.toArray⟩] 9) (.cells #[.string ⟨code.toArray⟩] 9) (.int .i64 0) (.bool false) 3 4)
      go_enter Tryd.func11, Tryd.ntmps11
      go_wp2_with fail
      exact bodyPost_ret (v := .tuple #[.int .i64 0, .bool false]) (by simp [results, Tryd.f11, go_sem, HA.out.1, HA.out.2.1]) rfl ⟨rfl, HA.out.2.2⟩
end Go.Proofs.YteaanoaldnnflaaDoor
