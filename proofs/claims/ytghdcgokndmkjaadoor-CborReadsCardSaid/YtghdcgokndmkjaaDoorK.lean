/- What pairsMayBe answers: are there keys and values by turns, the keys such, and rising? Conditions: the sizes of the reading. -/
import Derived.Test.YtghdcgokndmkjaaDoorJ
set_option linter.unusedVariables false
set_option linter.unusedSimpArgs false
namespace Go.Proofs.YtghdcgokndmkjaaDoor
open Go.RowKit Go.Sort

def lastOf (l : List It) (k : Nat) : Option It := if k = 0 then none else l[k - 2]?
def okLast (last : Option It) (k : It) : Bool := match last with | Option.none => true | some p => risesB p k
theorem pairsB_at (l : List It) (last : Option It) (k : Nat) (h : k + 1 < l.length) : pairsB last (l.drop k) = (isKey l[k] && okLast last l[k] && pairsB (some l[k]) (l.drop (k + 2))) := by
  rw [List.drop_eq_getElem_cons (by omega), List.drop_eq_getElem_cons h]
  rfl
theorem pairsB_odd : ∀ (l : List It) (last : Option It), l.length % 2 = 1 → pairsB last l = false
  | [], _, h => by simp at h
  | [_], _, _ => rfl
  | k :: x :: l, last, h => by
    have e : pairsB last (k :: x :: l) = (isKey k && okLast last k && pairsB (some k) l) := rfl
    rw [e, pairsB_odd l (some k) (by simp at h; omega)]
    simp
theorem lastOf_next (l : List It) (k : Nat) (h : k < l.length) : lastOf l (k + 2) = some l[k] := by
  rw [lastOf, if_neg (by omega), show k + 2 - 2 = k from by omega, List.getElem?_eq_getElem h]

set_option maxHeartbeats 4000000 in
set_option maxRecDepth 100000 in
theorem pairsMayBe_any (d : Nat) (B : Nat → Prop) (l : List It) (A : Option Addr) (c : Nat) (w : World) (hr : RdL (d + 1) B w A l) :
    Calls Tryd.prog 50 #[.slice A l.length c] w fun e w' => e = .returned (.bool (pairsB Option.none l)) ∧ Below w.heap.size w w' := by
  have hsz := hr.length
  by_cases hodd : l.length % 2 = 1
  · have f1 : ((l.length : Int) % 2 != 0) = true := by rw [bne_iff_ne]; omega
    have HF := Lib.hid (pairsB_odd l Option.none hodd)
    clear hodd hr
    go_enter Tryd.func50, Tryd.ntmps50
    go_wp2_with fail
    go_ret
    exact ⟨by rw [HF.out]; rfl, Below.refl _ _⟩
  have heven : l.length % 2 = 0 := by omega
  have f1 : ((l.length : Int) % 2 != 0) = false := by simp; omega
  have HE := Lib.hid heven
  have HR := Lib.hid hr
  clear hodd heven hr
  go_enter Tryd.func50, Tryd.ntmps50
  go_wp2_with fail
  clear f1
  go_loopw [3] (fun i wr => ∃ k : Nat, k ≤ l.length ∧ Hid (k % 2 = 0) ∧ i = .int .i64 k ∧ Below w.heap.size w wr ∧ Hid (pairsB (lastOf l k) (l.drop k) = pairsB Option.none l)) (fun i _ => l.length - (intOf i).toNat)
  case atStart => exact ⟨0, by omega, Lib.hid rfl, rfl, Below.refl _ _, Lib.hid (by rw [List.drop_zero]; rfl)⟩
  case round =>
    obtain ⟨k, hk, hk2, rfl, hbw, HF⟩ := hrel
    by_cases hlk : k < l.length
    · obtain ⟨b, off, rfl, hB, hltb, hcell⟩ := HR.out.2 (by intro e; rw [e] at hlk; simp at hlk)
      have hlk1 : k + 1 < l.length := by have := hk2.out; have := HE.out; omega
      have HS := Lib.hid (pairsB_at l (lastOf l k) k hlk1)
      have HN := Lib.hid (lastOf_next l k hlk)
      obtain ⟨hz, A1, c1, hc1, e0, e1, e2, e3, hr⟩ := hcell k hlk
      have hl1 := hr.length
      clear hr
      rw [← hbw.cell (p := ⟨b, _, none⟩) hltb] at e0 e1 e2 e3
      have ke0 := cell_regrown e0
      have ke1 := cell_regrown e1
      have ke2 := cell_regrown e2
      have ke3 := cell_regrown e3
      have HB := Lib.hid hbw
      by_cases hkey : isKey l[k] = true
      rotate_left
      · have hkey' : isKey l[k] = false := by simpa using hkey
        have hc0 := fun w' => isKey_any l[k] A1 c1 w'
        rw [hkey'] at hc0
        unfold itV at hc0
        have HC : Hid (∀ d os, Calls Tryd.prog 53 _ (grow (redrawn wr d) os) fun e w'' => e = .returned (.bool false) ∧ ∃ p : Regrown, w'' = grow (redrawn wr p.d) p.os) := Lib.hid fun d os => Calls.regrown_of (hc0 _)
        have HF2 : Hid (pairsB Option.none l = false) := Lib.hid (by rw [← HF.out, HS.out, hkey']; rfl)
        clear hc0 hkey hkey' hbw hcell e0 e1 e2 e3
        go_wp2_with fail
        refine wp_region_quiet_below mixed (by kernel_rfl) ?_
        repeat (first | go_big_quiet_step (with_reducible exact HC.out _ _) | quiet_step (with_reducible exact HC.out _ _))
        refine wpQuiet_nil ?_
        intro _ hw'
        obtain ⟨⟨dq, osq⟩, hw''⟩ := hw'
        subst hw''
        clear HC ke0 ke1 ke2 ke3
        have hb' := HB.out.trans ((below_regrown wr dq osq).mono HB.out.size)
        generalize grow (redrawn wr dq) osq = wq at hb' ⊢
        go_wp2_with fail
        go_ret
        exact ⟨by rw [HF2.out]; rfl, hb'⟩
      have hc0 := fun w' => isKey_any l[k] A1 c1 w'
      rw [hkey] at hc0
      unfold itV at hc0
      have HC : Hid (∀ d os, Calls Tryd.prog 53 _ (grow (redrawn wr d) os) fun e w'' => e = .returned (.bool true) ∧ ∃ p : Regrown, w'' = grow (redrawn wr p.d) p.os) := Lib.hid fun d os => Calls.regrown_of (hc0 _)
      have HK := Lib.hid hkey
      clear hc0 hkey
      by_cases h0 : k = 0
      · subst h0
        have HF2 : Hid (pairsB (lastOf l (0 + 2)) (l.drop (0 + 2)) = pairsB Option.none l) := Lib.hid (by rw [← HF.out, HS.out, HK.out, HN.out]; rfl)
        clear hbw hcell e0 e1 e2 e3
        simp only [Nat.zero_mul, Nat.add_zero] at ke0 ke1 ke2 ke3
        go_wp2_with fail
        refine wp_region_quiet_below mixed (by kernel_rfl) ?_
        repeat (first | go_big_quiet_step (with_reducible exact HC.out _ _) | quiet_step (with_reducible exact HC.out _ _))
        refine wpQuiet_nil ?_
        intro _ hw'
        obtain ⟨⟨dq, osq⟩, hw''⟩ := hw'
        subst hw''
        clear HC ke0 ke1 ke2 ke3
        have hb' := HB.out.trans ((below_regrown wr dq osq).mono HB.out.size)
        generalize grow (redrawn wr dq) osq = wq at hb' ⊢
        go_wp2_with fail
        go_roundw
        case rel => exact ⟨0 + 2, by omega, Lib.hid rfl, by go_num, hb', HF2⟩
        case measure => simp [intOf]; omega
      obtain ⟨j, rfl⟩ : ∃ j, k = j + 2 := ⟨k - 2, by have := hk2.out; omega⟩
      have HL : Hid (lastOf l (j + 2) = some l[j]) := Lib.hid (lastOf_next l j (by omega))
      obtain ⟨hz2, A2, c2, hc2, g0, g1, g2, g3, hr2⟩ := hcell j (by omega)
      have hl2 := hr2.length
      clear hr2
      rw [← hbw.cell (p := ⟨b, _, none⟩) hltb] at g0 g1 g2 g3
      have kg0 := cell_regrown g0
      have kg1 := cell_regrown g1
      have kg2 := cell_regrown g2
      have kg3 := cell_regrown g3
      have hcR := fun w' => rises_any l[j] l[j + 2] A2 A1 c2 c1 w' hz2 hz hl2 hl1
      unfold itV at hcR
      have hwr : IntKind.i64.wrap ((j : Int) + 2 - 2) = (j : Int) := by rw [IntWalk.i64_in _ (by omega)]; omega
      have hwr2 : IntKind.i64.wrap (j : Int) = (j : Int) := IntWalk.i64_in _ (by omega)
      have hpos : decide ((0 : Int) < (j : Int) + 2) = true := by simp; omega
      by_cases hri : risesB l[j] l[j + 2] = true
      · have HF2 : Hid (pairsB (lastOf l (j + 2 + 2)) (l.drop (j + 2 + 2)) = pairsB Option.none l) := Lib.hid (by rw [← HF.out, HS.out, HK.out, HN.out, HL.out, okLast, hri]; rfl)
        rw [hri] at hcR
        have HD : Hid (∀ d os, Calls Tryd.prog 55 _ (grow (redrawn wr d) os) fun e w'' => e = .returned (.bool true) ∧ ∃ p : Regrown, w'' = grow (redrawn wr p.d) p.os) := Lib.hid fun d os => Calls.regrown_of (hcR _)
        clear hcR hri hbw hcell e0 e1 e2 e3 g0 g1 g2 g3 h0
        go_wp2_with fail
        refine wp_region_quiet_below mixed (by kernel_rfl) ?_
        repeat (first | go_big_quiet_step (first | (with_reducible exact HC.out _ _) | (with_reducible exact HD.out _ _)) | quiet_step (first | (with_reducible exact HC.out _ _) | (with_reducible exact HD.out _ _)))
        refine wpQuiet_nil ?_
        intro _ hw'
        obtain ⟨⟨dq, osq⟩, hw''⟩ := hw'
        subst hw''
        clear HC HD ke0 ke1 ke2 ke3 kg0 kg1 kg2 kg3
        have hb' := HB.out.trans ((below_regrown wr dq osq).mono HB.out.size)
        generalize grow (redrawn wr dq) osq = wq at hb' ⊢
        go_wp2_with fail
        go_roundw
        case rel => exact ⟨j + 2 + 2, by omega, Lib.hid (by have := hk2.out; omega), by go_num, hb', HF2⟩
        case measure => simp [intOf]; omega
      · have hri' : risesB l[j] l[j + 2] = false := by simpa using hri
        have HF2 : Hid (pairsB Option.none l = false) := Lib.hid (by rw [← HF.out, HS.out, HK.out, HL.out, okLast, hri']; rfl)
        rw [hri'] at hcR
        have HD : Hid (∀ d os, Calls Tryd.prog 55 _ (grow (redrawn wr d) os) fun e w'' => e = .returned (.bool false) ∧ ∃ p : Regrown, w'' = grow (redrawn wr p.d) p.os) := Lib.hid fun d os => Calls.regrown_of (hcR _)
        clear hcR hri hri' hbw hcell e0 e1 e2 e3 g0 g1 g2 g3 h0
        go_wp2_with fail
        refine wp_region_quiet_below mixed (by kernel_rfl) ?_
        repeat (first | go_big_quiet_step (first | (with_reducible exact HC.out _ _) | (with_reducible exact HD.out _ _)) | quiet_step (first | (with_reducible exact HC.out _ _) | (with_reducible exact HD.out _ _)))
        refine wpQuiet_nil ?_
        intro _ hw'
        obtain ⟨⟨dq, osq⟩, hw''⟩ := hw'
        subst hw''
        clear HC HD ke0 ke1 ke2 ke3 kg0 kg1 kg2 kg3
        have hb' := HB.out.trans ((below_regrown wr dq osq).mono HB.out.size)
        generalize grow (redrawn wr dq) osq = wq at hb' ⊢
        go_wp2_with fail
        go_ret
        exact ⟨by rw [HF2.out]; rfl, hb'⟩
    · have HF2 : Hid (pairsB Option.none l = true) := Lib.hid (by
        rw [← HF.out, List.drop_of_length_le (by omega), pairsB])
      go_wp2_with fail
      go_ret
      exact ⟨by rw [HF2.out]; rfl, hbw⟩
end Go.Proofs.YtghdcgokndmkjaaDoor
