/- The reference's numbers: rows of digits; without noughts on top. No condition but that a row lies in memory. -/
import Derived.Test.YtglmmodkflkkkaaProg
import Derived.Test.YtglmmodkflkkkaaFa
import Derived.WalkKit
import Derived.WalkSpells
import Derived.WalkLawsBesides
import Derived.BigCall
import Derived.Outline
import Derived.KernelRfl
import Derived.Lib.Walk
import Derived.Lib.QuietBelow
import Derived.BigQuiet
set_option linter.unusedVariables false
set_option linter.unusedSimpArgs false
set_option maxRecDepth 100000
namespace Go.Proofs.Ytglmmodkflkkkaa.Ref
open Go.RowKit Go.Proofs.Ytglmmodkflkkkaa.Digits

/-- the same but for what was drawn -/
def Sm (w w' : World) : Prop := w'.os = w.os ∧ w'.tape = w.tape ∧ w'.output = w.output ∧ w'.heap = w.heap
theorem Sm.refl (w : World) : Sm w w := ⟨rfl, rfl, rfl, rfl⟩
theorem Sm.drew (w : World) : Sm w w.drew := ⟨rfl, rfl, rfl, rfl⟩
theorem Sm.drewN (w : World) (n : Nat) : Sm w (w.drewN n) := ⟨rfl, rfl, rfl, rfl⟩
theorem Sm.trans {a b c : World} (h : Sm a b) (k : Sm b c) : Sm a c := ⟨k.1.trans h.1, k.2.1.trans h.2.1, k.2.2.1.trans h.2.2.1, k.2.2.2.trans h.2.2.2⟩
theorem Sm.cell {w w' : World} (h : Sm w w') {p : Addr} {v : Value} (hc : w.cell? p = some v) : w'.cell? p = some v := by
  rw [World.cell?_of_block (w := w) (by rw [h.2.2.2])]; exact hc
theorem Sm.below {B : Nat} {a w w' : World} (h : Sm w w') (hb : Below B a w) : Below B a w' :=
  ⟨h.1.trans hb.os, h.2.1.trans hb.tape, h.2.2.1.trans hb.output, by rw [h.2.2.2]; exact hb.size, fun k hk => by rw [h.2.2.2]; exact hb.block k hk⟩
theorem mixed : Try.prog.follows .mixedOrders = true := by kernel_rfl
/-- v is a row of digits, laid in a block of w -/
def Dr (w : World) (v : Value) (l : List Nat) : Prop := ∃ g cap, v = .slice (some ⟨g, 0, none⟩) l.length cap ∧ l.length ≤ cap ∧ cap ≤ 9223372036854775807 ∧ g < w.heap.size ∧ ∀ i (hi : i < l.length), w.cell? ⟨g, i, none⟩ = some (.int .u32 ((l[i] : Nat) : Int))
theorem Dr.below {w w' : World} {v : Value} {l : List Nat} (h : Dr w v l) (hb : Below w.heap.size w w') : Dr w' v l := by
  obtain ⟨g, cap, hv, hc, hm, hg, hl⟩ := h
  exact ⟨g, cap, hv, hc, hm, Nat.lt_of_lt_of_le hg hb.size, fun i hi => (hb.cell (p := ⟨g, i, none⟩) hg).trans (hl i hi)⟩

theorem Dr.sm {w w' : World} {v : Value} {l : List Nat} (h : Dr w v l) (s : Sm w w') : Dr w' v l := by
  obtain ⟨g, cap, hv, hc, hm, hg, hl⟩ := h
  exact ⟨g, cap, hv, hc, hm, by rw [s.2.2.2]; exact hg, fun i hi => s.cell (hl i hi)⟩

set_option maxHeartbeats 2000000 in
theorem trim_any (l : List Nat) (v : Value) (w : World) (h : Dr w v l) :
    Calls Try.prog 53 #[v] w fun e w' => (∃ v', e = .returned v' ∧ Dr w v' (trimL l)) ∧ w = w' := by
  obtain ⟨g, cap, rfl, hc, hm, hg, hl⟩ := h
  have HC := Lib.hid hl
  have HG := Lib.hid hg
  have HTL : Hid (∀ n, n = top l l.length → Dr w (.slice (some ⟨g, 0, none⟩) n cap) (trimL l)) := Lib.hid (fun n hn => by
    have hle := top_le l l.length
    have hlen : (trimL l).length = n := by rw [hn]; unfold trimL; rw [List.length_take]; omega
    refine ⟨g, cap, by rw [hlen], by omega, hm, hg, fun i hi => ?_⟩
    have hi' : i < l.length := by omega
    have e : (trimL l)[i] = l[i] := List.getElem_take
    rw [e]; exact hl i hi')
  clear hl hg
  go_enter Try.func53, Try.ntmps53
  go_wp2_with fail
  go_loop [3] (fun i => ∃ n : Nat, n ≤ l.length ∧ i = .int .i64 n ∧ top l n = top l l.length) (fun i => (intOf i).toNat)
  case atStart => exact ⟨l.length, Nat.le_refl _, rfl, rfl⟩
  case round =>
    obtain ⟨n, hn, rfl, ht⟩ := hrel
    have HT := Lib.hid ht
    clear ht
    by_cases h0 : n = 0
    · subst h0
      have hcc : (0 : Int) ≤ cap := by omega
      go_wp2_with fail
      go_ret
      exact ⟨⟨_, rfl, HTL.out 0 HT.out⟩, rfl⟩
    · obtain ⟨k, rfl⟩ : ∃ k, n = k + 1 := ⟨n - 1, by omega⟩
      have hk : k < l.length := by omega
      have ic := HC.out k hk
      have t1 : (((k + 1 : Nat) : Int) - 1).toNat = k := by omega
      have e1 : ((k + 1 : Nat) : Int) - 1 = (k : Int) := by omega
      have hgd : l.getD k 0 = l[k] := by simp [List.getD, hk]
      by_cases hz : l[k] = 0
      · have HT2 : Hid (top l k = top l l.length) := Lib.hid (by
          have := HT.out
          rw [top, hgd, if_pos hz] at this
          exact this)
        rw [hz] at ic
        go_wp2_with fail
        go_round
        case rel => exact ⟨k, by omega, by go_num, HT2.out⟩
        case measure => simp [intOf]
      · have hz2 : (((l[k] : Nat) : Int) == 0) = false := by simp; omega
        have HT2 : Hid (k + 1 = top l l.length) := Lib.hid (by
          have := HT.out
          rw [top, hgd, if_neg hz] at this
          exact this)
        have hcc : ((k + 1 : Nat) : Int) ≤ cap := by omega
        generalize l[k] = d at ic hz2
        go_wp2_with fail
        go_ret
        exact ⟨⟨_, rfl, HTL.out (k + 1) HT2.out⟩, rfl⟩
end Go.Proofs.Ytglmmodkflkkkaa.Ref
