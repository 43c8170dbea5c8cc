/- What the document's own Same answers of two readings of one item: true. -/
import Derived.Test.YtghdcgokndmkjaaDoorB
namespace Go.Proofs.YtghdcgokndmkjaaDoor
open Go.RowKit Go.Sort

theorem alloc2 (w : World) (o o' : Obj) : Below w.heap.size w ((w.alloc o).alloc o') := ((Below.refl _ _).alloc (Nat.le_refl _) _).alloc (by simp) _

set_option maxHeartbeats 1000000 in
set_option maxRecDepth 100000 in
theorem same_nil (t : It) (A A' : Option Addr) (c c' : Nat) (w : World) (hl : t.list = []) :
    Calls Tryd.prog 9 #[itV t A c, itV t A' c'] w fun e w' => e = .returned (.bool true) ∧ Below w.heap.size w w' := by
  unfold itV
  rw [hl]
  clear hl
  go_enter Tryd.func9, Tryd.ntmps9
  go_wp2_with fail
  go_loop [5] (fun i => i = .int .i64 0) (fun _ => 0)
  case atStart => exact rfl
  case round =>
    obtain rfl := hrel
    go_wp2_with fail
    go_ret
    exact ⟨rfl, alloc2 _ _ _⟩

set_option maxHeartbeats 2000000 in
set_option maxRecDepth 100000 in
theorem same_any : ∀ (d : Nat) (B : Nat → Prop) (t : It) (A A' : Option Addr) (c c' : Nat) (w : World), c ≤ 9223372036854775807 → c' ≤ 9223372036854775807 → RdL d B w A t.list → RdL d B w A' t.list →
    Calls Tryd.prog 9 #[itV t A c, itV t A' c'] w fun e w' => e = .returned (.bool true) ∧ Below w.heap.size w w' := by
  intro d
  induction d with
  | zero => intro B t A A' c c' w _ _ h _; exact same_nil t A A' c c' w h
  | succ d ih =>
    intro B t A A' c c' w hc hc' h h'
    by_cases hl : t.list = []
    · exact same_nil t A A' c c' w hl
    obtain ⟨b, off, rfl, hB, hlt, hcell⟩ := h.2 hl
    obtain ⟨b', off', rfl, hB', hlt', hcell'⟩ := h'.2 hl
    have hsz := h.1
    have Hl := Lib.hid hl
    clear hl h h'
    unfold itV
    have Hc := Lib.hid hcell
    have Hc' := Lib.hid hcell'
    have IH := Lib.hid ih
    clear hcell hcell' ih
    go_enter Tryd.func9, Tryd.ntmps9
    go_wp2_with fail
    go_loopw [5] (fun i wr => ∃ k : Nat, k ≤ t.list.length ∧ i = .int .i64 k ∧ Below (w.heap.size + 2) ((w.alloc (.cells #[.int .i64 t.kind, .int .i64 t.num, .string ⟨t.text.toArray⟩, .slice (some ⟨b, off, none⟩) t.list.length c] 24)).alloc (.cells #[.int .i64 t.kind, .int .i64 t.num, .string ⟨t.text.toArray⟩, .slice (some ⟨b', off', none⟩) t.list.length c'] 24)) wr) (fun i _ => t.list.length - (intOf i).toNat)
    case atStart => exact ⟨0, by omega, rfl, Below.refl _ _⟩
    case round =>
      obtain ⟨k, hk, rfl, hb⟩ := hrel
      obtain ⟨hb0, hb1, hbw, hbs⟩ := box2 hb
      have a0 := cellOf hb0 3
      have a1 := cellOf hb1 3
      simp at a0 a1
      clear hb0 hb1
      by_cases hlk : k < t.list.length
      · obtain ⟨hz, A1, c1, hc1, e0, e1, e2, e3, hr⟩ := Hc.out k hlk
        obtain ⟨_, A2, c2, hc2, f0, f1, f2, f3, hr'⟩ := Hc'.out k hlk
        rw [← hbw.cell (p := ⟨b, _, none⟩) hlt] at e0 e1 e2 e3
        rw [← hbw.cell (p := ⟨b', _, none⟩) hlt'] at f0 f1 f2 f3
        have hcall : ∀ d' os, Calls Tryd.prog 9 #[itV t.list[k] A1 c1, itV t.list[k] A2 c2] (grow (redrawn wr d') os) fun e w'' => e = .returned (.bool true) ∧ ∃ p : Regrown, w'' = grow (redrawn wr p.d) p.os := fun d' os =>
          Calls.regrown_of (IH.out B t.list[k] A1 A2 c1 c2 _ hc1 hc2 ((hr.below hbw).below (below_regrown wr d' os)) ((hr'.below hbw).below (below_regrown wr d' os)))
        have hg := below_regrown wr
        unfold itV at hcall
        have HC := Lib.hid hcall
        have HB := Lib.hid hb
        have ka0 := cell_regrown a0
        have ka1 := cell_regrown a1
        have ke0 := cell_regrown e0
        have ke1 := cell_regrown e1
        have ke2 := cell_regrown e2
        have ke3 := cell_regrown e3
        have kf0 := cell_regrown f0
        have kf1 := cell_regrown f1
        have kf2 := cell_regrown f2
        have kf3 := cell_regrown f3
        clear hcall hb hr hr' hz hg e0 e1 e2 e3 f0 f1 f2 f3
        go_wp2_with fail
        refine wp_region_quiet_below mixed (by kernel_rfl) ?_
        repeat (quiet_step (exact HC.out _ _))
        refine wpQuiet_nil ?_
        intro _ hw'
        obtain ⟨⟨dq, osq⟩, hw''⟩ := hw'
        subst hw''
        clear HC ka0 ka1 ke0 ke1 ke2 ke3 kf0 kf1 kf2 kf3 a0 a1
        have hb' := HB.out.trans ((below_regrown wr dq osq).mono hbs)
        generalize grow (redrawn wr dq) osq = wq at hb'
        go_wp2_with fail
        go_roundw
        case rel => exact ⟨k + 1, by omega, by go_num, hb'⟩
        case measure => simp [intOf]; omega
      · go_wp2_with fail
        go_ret
        exact ⟨rfl, hbw⟩
end Go.Proofs.YtghdcgokndmkjaaDoor
