/- Append of a disk, all ways; copies of a row of pieces, of a row of bytes. No condition but the disk's own. -/
import Derived.Test.YtmoihgniglomiaaDoorZO
set_option linter.unusedVariables false
set_option linter.unusedSimpArgs false
set_option maxRecDepth 100000
namespace Go.Proofs.YtmoihgniglomiaaDoor
open Go.RowKit Go.Sort

set_option maxHeartbeats 8000000 in
theorem append_any (p : Fp) (S : St) (f : Int) (s : ByteArray) (hsz : s.size ≤ 140737488355328) (w : World) (h : Dk w p S) :
    Calls Tryd.prog 75 #[p.v, .int .i64 f, .string s] w fun e w' => e = .returned (.int .i64 ((S.append f s.data.toList).1 : Int)) ∧ ∃ p', Mut w p w' p' (S.append f s.data.toList).2 := by
  rw [append_eq, ba_size]
  cases hg : S.gone
  · simp only [Bool.false_eq_true, if_false]
    by_cases hc : appCode S f s.size = 0
    · rw [if_neg (by simp [hc])]
      have ht : St.there f = true := by
        unfold appCode at hc
        split at hc
        · cases hc
        · rename_i hx; simpa using hx
      have hfb : f = 0 ∨ f = 1 := by simp [St.there] at ht; omega
      rcases hfb with hf | hf
      · have := append_0 p S s hsz w h f hf hg hc
        rw [show f.toNat = 0 by subst hf; rfl]
        exact this
      · have := append_1 p S s hsz w h f hf hg hc
        rw [show f.toNat = 1 by subst hf; rfl]
        exact this
    · rw [if_pos hc]
      have hW : Below w.heap.size w (((w.alloc (.cells #[.pointer (some ⟨p.b, 0, none⟩)] 27)).alloc (.cells #[.int .i64 f] 3)).alloc (.cells #[.string s] 9)) := by go_grown
      have D1 := Lib.hid (h.below hW)
      have HW := Lib.hid hW
      have C0 : Hid ((((w.alloc (.cells #[.pointer (some ⟨p.b, 0, none⟩)] 27)).alloc (.cells #[.int .i64 f] 3)).alloc (.cells #[.string s] 9)).cell? ⟨w.heap.size, 0, none⟩ = some (.pointer (some ⟨p.b, 0, none⟩))) := Lib.hid ((Bk.alloc (Bk.alloc (Bk.new (t := 27) rfl))).cell 0)
      have C1 : Hid ((((w.alloc (.cells #[.pointer (some ⟨p.b, 0, none⟩)] 27)).alloc (.cells #[.int .i64 f] 3)).alloc (.cells #[.string s] 9)).cell? ⟨w.heap.size + 1, 0, none⟩ = some (.int .i64 f)) := Lib.hid ((Bk.alloc (Bk.new (t := 3) (by simp))).cell 0)
      have C2 : Hid ((((w.alloc (.cells #[.pointer (some ⟨p.b, 0, none⟩)] 27)).alloc (.cells #[.int .i64 f] 3)).alloc (.cells #[.string s] 9)).cell? ⟨w.heap.size + 1 + 1, 0, none⟩ = some (.string s)) := Lib.hid ((Bk.new (t := 9) (by simp)).cell 0)
      have hM := hmf
      have KG := Lib.hid (D1.out.gone hg)
      have HR := Lib.hid (clo54 (w.heap.size + 1) w.heap.size (w.heap.size + 1 + 1) f s p S _ C1.out C0.out C2.out D1 hsz)
      obtain ⟨m, hm⟩ : ∃ m, appCode S f s.size = m + 1 := ⟨appCode S f s.size - 1, by omega⟩
      rw [hm] at HR ⊢
      have ht : (((m + 1 : Nat) : Int) != 0) = true := by simp; omega
      clear hc hm hg h hW C0 C1 C2
      unfold Fp.v
      go_enter Tryd.func75, Tryd.ntmps75
      go_wp2_with fail
      refine (refused54 p.b _ _ _ _ _ _ _ _ _ _ _ _ _ KG HR).mono ?_
      rintro e w1 ⟨rfl, hb⟩
      have D2 := Lib.hid (D1.out.below hb)
      have HB := Lib.hid (HW.out.trans (hb.mono HW.out.size))
      clear hb
      go_wp2_with fail
      go_ret
      exact ⟨rfl, p, D2.out, rfl, .of HB.out, fun k h => .inl h⟩
  · simp only [if_true]
    have hW : Below w.heap.size w (((w.alloc (.cells #[.pointer (some ⟨p.b, 0, none⟩)] 27)).alloc (.cells #[.int .i64 f] 3)).alloc (.cells #[.string s] 9)) := by go_grown
    have D1 := Lib.hid (h.below hW)
    have HW := Lib.hid hW
    have KG := Lib.hid (D1.out.gone hg)
    have hM := hmf
    clear hg h hW
    unfold Fp.v
    go_enter Tryd.func75, Tryd.ntmps75
    go_wp2_with fail
    refine (refused_gone p.b _ _ _ _ _ _ _ _ _ KG).mono ?_
    rintro e w' ⟨rfl, rfl⟩
    go_wp2_with fail
    go_ret
    exact ⟨rfl, p, D1.out, rfl, .of HW.out, fun k h => .inl h⟩
theorem grown_below {w w1 w2 : World} {r : Option Nat} (hb : Below w.heap.size w w1) (hg : w1.grownBy w2 r) (hr : ∀ k, r = some k → w.heap.size ≤ k) : Below w.heap.size w w2 := hb.grown hg hb.size hr
theorem q60 (w : World) (a : Option Addr) (n c n' c' : Nat) : (binOp .eql 89 (.slice a n c) (.slice none n' c')).run Tryd.prog w = .ok (.bool a.isNone) w := Lib.run_eql_slice_nil w _ _ a n c n' c' u60
theorem q56 (w : World) (a : Option Addr) (n c n' c' : Nat) : (binOp .eql 80 (.slice a n c) (.slice none n' c')).run Tryd.prog w = .ok (.bool a.isNone) w := Lib.run_eql_slice_nil w _ _ a n c n' c' u56
set_option maxHeartbeats 8000000 in
theorem cloneRow_nil (w : World) : Calls Tryd.prog 50 #[.slice none 0 0] w fun e w' => e = .returned (.slice none 0 0) ∧ w = w' := by
  have hq := q60
  go_enter Tryd.func50, Tryd.ntmps50
  go_wp2_with fail
  go_ret
  exact ⟨rfl, rfl⟩
set_option maxHeartbeats 8000000 in
theorem cloneRow_some (q n c : Nat) (l : List (Nat × Nat)) (hl : l.length ≤ 4194304) (w : World) (h : w.ownsRow 0 105 2 (.slice (some ⟨q, 0, none⟩) n c) l.length (pcells l)) (hn : n = l.length) :
    Calls Tryd.prog 50 #[.slice (some ⟨q, 0, none⟩) n c] w fun e w' => ∃ v, e = .returned v ∧ w'.ownsRow 0 105 2 v l.length (pcells l) ∧ Below w.heap.size w w' ∧ ∀ k, v.ownBlock = some k → w.heap.size ≤ k := by
  obtain ⟨i0, hi, hz0, hz1, hz2⟩ := info_parts infoPiece
  have hcells := h.cells (g := q) rfl
  have hlt := h.lt q rfl
  have HA : Hid (∃ v' w', (Builtin.append_ #[89, 89] 89 #[.slice (some ⟨w.heap.size, 0, none⟩) 0 0, .slice (some ⟨q, 0, none⟩) n c]).run Tryd.prog (w.alloc (.cells #[] 105)) = .ok v' w' ∧ w'.ownsRow 0 105 2 v' l.length (pcells l) ∧ Below w.heap.size w w' ∧ ∀ k, v'.ownBlock = some k → w.heap.size ≤ k) := Lib.hid (by
    obtain ⟨v', w', hrun, ho, hgr, hv, _⟩ := app_own (w.alloc (.cells #[] 105)) 89 89 105 i0 (.agg #[.int .i64 0, .int .i64 0]) 2 16 u60 hi hz0 hz1 hz2 rfl (by decide) (.slice (some ⟨w.heap.size, 0, none⟩) 0 0) 0 [] ⟨rfl, .inr ⟨w.heap.size, 0, #[], rfl, Nat.zero_le _, Go.heap_alloc_new w _, Nat.le_refl _, by unfold maxLen; omega, rfl, rfl⟩⟩ ⟨q, 0, none⟩ n c (pcells l) (by rw [pcells_len, hn]) (by
      intro j u hu
      rw [at0]
      have := hcells j u hu
      rw [at0] at this
      exact ((show Below w.heap.size w (w.alloc (.cells #[] 105)) by go_grown).cell (p := ⟨q, j, none⟩) hlt.2).trans this) (by
      intro u hu
      unfold pcells at hu
      obtain ⟨x, _, hx⟩ := List.mem_flatMap.1 hu
      simp only [List.mem_cons, List.not_mem_nil, or_false] at hx
      rcases hx with rfl | rfl <;> rfl) (by unfold maxLen; omega) (by omega)
    refine ⟨v', w', hrun, by rw [hn, Nat.zero_add] at ho; exact ho, grown_below (by go_grown) hgr (fun k hk => by cases hk; exact Nat.le_refl _), fun k hk => ?_⟩
    rcases hv with e | e
    · rw [e] at hk; cases hk; exact Nat.le_refl _
    · have := e k hk; simp at this; omega)
  have hne : (Tryd.prog.types.size == 0) = false := by kernel_rfl
  clear hi hz0 hz1 hz2 hcells hlt h hl hn
  have hq := q60
  go_enter Tryd.func50, Tryd.ntmps50
  go_wp2_with (at_builtin; obtain ⟨v', w', hrun, ho, hb, hk⟩ := HA.out; replace ho := Lib.hid ho; replace hb := Lib.hid hb; replace hk := Lib.hid hk; clear HA; refine Lib.wpList_append_run _ rfl _ _ 89 89 rfl _ _ rfl rfl v' w' hrun ?_; clear hrun)
  go_ret
  exact ⟨_, rfl, ho.out, hb.out, hk.out⟩
theorem cloneRow (rv : Value) (l : List (Nat × Nat)) (hl : l.length ≤ 4194304) (w : World) (h : w.ownsRow 0 105 2 rv l.length (pcells l)) :
    Calls Tryd.prog 50 #[rv] w fun e w' => ∃ v, e = .returned v ∧ w'.ownsRow 0 105 2 v l.length (pcells l) ∧ Below w.heap.size w w' ∧ ∀ k, v.ownBlock = some k → w.heap.size ≤ k := by
  have h' := h
  obtain ⟨_, ⟨rfl, hn⟩ | ⟨q, cap, cur, rfl, _⟩⟩ := h'
  · refine (cloneRow_nil w).mono ?_
    rintro e w' ⟨rfl, rfl⟩
    exact ⟨_, rfl, h, Below.refl _ _, fun k hk => by cases hk⟩
  · exact cloneRow_some q _ cap l hl w h rfl
theorem By.owns {w : World} {g c : Nat} {l : List UInt8} (h : w.ownsRow 0 5 1 (.slice (some ⟨g, 0, none⟩) l.length c) l.length (bl l)) : By w g c l := by
  obtain ⟨_, ⟨hv, _⟩ | ⟨q, cap, cur, hv, _, hg, hn, hm, hs, ht⟩⟩ := h
  · cases hv
  · cases hv
    exact ⟨cur, (0, 0), hg, .inl rfl, hn, hm, by simpa using hs, by simpa using ht⟩
theorem owns_slice {w : World} {e : TypeId} {z : Nat} {v : Value} {n : Nat} {xs : List Value} (h : w.ownsRow 0 e z v n xs) (hv : v ≠ .slice none 0 0) : ∃ g c, v = .slice (some ⟨g, 0, none⟩) n c := by
  obtain ⟨_, ⟨hv', _⟩ | ⟨q, cap, cur, hv', _⟩⟩ := h
  · exact absurd hv' hv
  · exact ⟨_, _, hv'⟩
set_option maxHeartbeats 8000000 in
theorem cloneBytes (g n c : Nat) (l : List UInt8) (hl : l.length ≤ 4194304) (w : World) (h : By w g c l) (hn : n = l.length) :
    Calls Tryd.prog 51 #[.slice (some ⟨g, 0, none⟩) n c] w fun e w' => ∃ v, e = .returned v ∧ (∃ g' c', v = .slice (some ⟨g', 0, none⟩) l.length c' ∧ By w' g' c' l ∧ w.heap.size ≤ g') ∧ Below w.heap.size w w' := by
  obtain ⟨i0, hi, hz0, hz1, hz2⟩ := info_parts infoByte
  have HA : Hid (∃ v' w', (Builtin.append_ #[80, 80] 80 #[.slice (some ⟨w.heap.size, 0, none⟩) 0 0, .slice (some ⟨g, 0, none⟩) n c]).run Tryd.prog (w.alloc (.cells #[] 5)) = .ok v' w' ∧ (∃ g' c', v' = .slice (some ⟨g', 0, none⟩) l.length c' ∧ By w' g' c' l ∧ w.heap.size ≤ g') ∧ Below w.heap.size w w') := Lib.hid (by
    obtain ⟨v', w', hrun, ho, hgr, hv, hnil⟩ := app_own (w.alloc (.cells #[] 5)) 80 80 5 i0 (.int .u8 0) 1 1 u56 hi hz0 hz1 hz2 rfl (by decide) (.slice (some ⟨w.heap.size, 0, none⟩) 0 0) 0 [] ⟨rfl, .inr ⟨w.heap.size, 0, #[], rfl, Nat.zero_le _, Go.heap_alloc_new w _, Nat.le_refl _, by unfold maxLen; omega, rfl, rfl⟩⟩ ⟨g, 0, none⟩ n c (bl l) (by rw [bl_len, hn, Nat.mul_one]) (by
      intro j u hu
      rw [at0]
      have hj : j < l.length := by
        have := (List.getElem?_eq_some_iff.1 hu).1
        rwa [bl_len] at this
      have hc := h.cell j hj
      have e : (bl l)[j]? = some (.int .u8 (l[j].toNat : Int)) := by simp [bl, hj]
      rw [e] at hu
      rw [← hu, ← hc]
      exact (show Below w.heap.size w (w.alloc (.cells #[] 5)) by go_grown).cell (p := ⟨g, j, none⟩) h.lt) (by
      intro u hu
      simp only [bl, List.mem_map] at hu
      obtain ⟨x, _, rfl⟩ := hu
      rfl) (by unfold maxLen; omega) (by omega)
    rw [Nat.zero_add, hn] at ho
    obtain ⟨g', c', hv'⟩ := owns_slice ho (fun e => by have := hnil e; cases this)
    subst hv'
    refine ⟨_, w', hrun, ⟨g', c', rfl, By.owns ho, ?_⟩, grown_below (by go_grown) hgr (fun k hk => by cases hk; exact Nat.le_refl _)⟩
    rcases hv with e | e
    · cases e; exact Nat.le_refl _
    · have := e g' rfl; simp at this; omega)
  have hq := q56
  clear hi hz0 hz1 hz2 h hl hn
  go_enter Tryd.func51, Tryd.ntmps51
  go_wp2_with (at_builtin; obtain ⟨v', w', hrun, ho, hb⟩ := HA.out; replace ho := Lib.hid ho; replace hb := Lib.hid hb; clear HA; refine Lib.wpList_append_run _ rfl _ _ 80 80 rfl _ _ rfl rfl v' w' hrun ?_; clear hrun)
  go_ret
  exact ⟨_, rfl, ho.out, hb.out⟩
end Go.Proofs.YtmoihgniglomiaaDoor
