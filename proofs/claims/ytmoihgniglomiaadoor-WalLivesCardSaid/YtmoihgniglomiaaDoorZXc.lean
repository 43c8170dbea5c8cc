/- Disks whose bytes are all safe: what an opening leaves; two rows of texts are the same. Condition: none. -/
import Derived.Test.YtmoihgniglomiaaDoorZXa
import Derived.Test.YtmoihgniglomiaaDoorZR
set_option linter.unusedVariables false
set_option linter.unusedSimpArgs false
set_option maxRecDepth 100000
namespace Go.Proofs.YtmoihgniglomiaaDoor
open Go.RowKit Go.Sort

/-- every byte is safe -/
def Still (S : St) : Prop := S.row = [] ∧ S.s0 = S.f0.length ∧ S.s1 = S.f1.length
theorem Still.clean {S : St} (h : Still S) : Clean S := by
  have hs : ∀ f, (S.file f).length ≤ S.safe f := fun f => by
    unfold St.file St.safe
    split
    · rw [h.2.1]; exact Nat.le_refl _
    · rw [h.2.2]; exact Nat.le_refl _
  exact ⟨fun _ => hs _, fun _ => hs _⟩
theorem Still.power {S : St} (h : Still S) (g : Bool) (n k : Nat) : Still (S.power g n k) := h
theorem Still.keep {S : St} (h : Still S) (k : Nat) : Still (S.keep k) := by
  have e : S.left k = (S.s0, S.s1) := by unfold St.left; rw [h.1]; rfl
  refine ⟨rfl, ?_, ?_⟩
  · show (S.left k).1 = (S.f0.take (S.left k).1).length
    rw [e, List.length_take, h.2.1]; simp
  · show (S.left k).2 = (S.f1.take (S.left k).2).length
    rw [e, List.length_take, h.2.2]; simp
theorem Still.lose {S : St} (h : Still S) (k : Nat) : Still (S.lose k) := (h.keep k).power _ _ _
theorem Still.count {S : St} (h : Still S) : Still S.count.2 := by
  unfold St.count
  split
  · exact h
  · split
    · exact h
    · exact h.lose _
theorem Still.cutF {S : St} (h : Still S) (f n : Nat) (hn : n ≤ (S.file f).length) : Still (S.cutF f n) := by
  unfold St.cutF St.file at *
  split
  · rename_i h0
    rw [if_pos h0] at hn
    exact ⟨h.1, by show n = (S.f0.take n).length; rw [List.length_take]; omega, h.2.2⟩
  · rename_i h0
    rw [if_neg h0] at hn
    exact ⟨h.1, h.2.1, by show n = (S.f1.take n).length; rw [List.length_take]; omega⟩
theorem count_zero_file {S : St} (h : S.count.1 = 0) (f : Nat) : S.count.2.file f = S.file f := by
  unfold St.count at *
  split at h
  · rename_i h0; rw [if_pos h0]
  · rename_i h0
    rw [if_neg h0]
    split at h
    · rename_i h1; rw [if_pos h1]; rfl
    · cases h
theorem Still.cut {S : St} (h : Still S) (f n : Int) : Still (S.cut f n).2 := by
  unfold St.cut
  split
  · exact h
  · split
    · exact h
    · split
      · exact h
      · rename_i hb
        split
        · rename_i hc
          exact h.count.cutF _ _ (by rw [count_zero_file hc]; omega)
        · exact h.count
theorem Still.ocut {S : St} (h : Still S) (f t : Nat) : Still (ocut S f t).2 := by
  unfold YtmoihgniglomiaaDoor.ocut
  split
  · exact h.cut _ _
  · exact h
theorem Still.ocut2 {S : St} (h : Still S) (f t : Nat) : Still (ocut2 S f t).2 := by
  unfold YtmoihgniglomiaaDoor.ocut2
  split
  · split
    · exact (h.ocut _ _).cut _ _
    · exact h.ocut _ _
  · exact h.ocut _ _
theorem Still.open {S : St} (h : Still S) : Still (lopen S).2.2 := by
  unfold lopen
  split
  · exact h
  · split
    · exact h
    · split
      · exact h.ocut2 _ _
      · exact h.ocut2 _ _
theorem Still.revive {S : St} (h : Still S) : Still S.revive := h
theorem Still.arm {S : St} (h : Still S) (n k : Int) : Still (S.arm n k).2 := by
  unfold St.arm
  split
  · exact h
  · split
    · exact h
    · exact h
theorem Still.new (a b : List UInt8) : Still (St.new a b) := ⟨rfl, rfl, rfl⟩

theorem srow_at {w : World} {v : Value} {l : List Bs} {n : Nat} (hn : n = l.length) (h : w.ownsRow 0 9 1 v n (scells l)) : ∃ a c, v = .slice a n c ∧ ∀ i (hi : i < l.length), ∃ g, a = some ⟨g, 0, none⟩ ∧ w.cell? ⟨g, i, none⟩ = some (.string ⟨l[i].toArray⟩) := by
  subst hn
  have h' := h
  obtain ⟨_, ⟨rfl, h0⟩ | ⟨g, cap, cur, rfl, _⟩⟩ := h'
  · exact ⟨none, 0, by rw [h0], fun i hi => by omega⟩
  · refine ⟨_, _, rfl, fun i hi => ⟨g, rfl, ?_⟩⟩
    have := h.cells (g := g) rfl i (.string ⟨l[i].toArray⟩) (by simp [scells, hi])
    rwa [at0] at this
set_option maxHeartbeats 8000000 in
theorem sames_any (v v' : Value) (l : List Bs) (w : World) (h : w.ownsRow 0 9 1 v l.length (scells l)) (h' : w.ownsRow 0 9 1 v' l.length (scells l)) (hl : l.length ≤ 4194304) :
    Calls Tryd.prog 25 #[v, v'] w fun e w' => e = .returned (.bool true) ∧ Below w.heap.size w w' := by
  obtain ⟨n, hn⟩ : ∃ n, n = l.length := ⟨_, rfl⟩
  rw [← hn] at h h'
  obtain ⟨a, c, rfl, hc⟩ := srow_at hn h
  obtain ⟨a', c', rfl, hc'⟩ := srow_at hn h'
  have HC := Lib.hid (And.intro hc hc')
  have hlen : n ≤ 4194304 := by rw [hn]; exact hl
  have HN := Lib.hid hn
  have hne := ne9
  clear h h' hc hc' hl hn
  go_enter Tryd.func25, Tryd.ntmps25
  go_wp2_with fail
  go_loopw [5] (fun iv wr => ∃ i : Nat, i ≤ n ∧ iv = .int .i64 (i : Int) ∧ Hid (Below w.heap.size w wr) ∧ Hid (∀ g i x, w.cell? ⟨g, i, none⟩ = some x → wr.cell? ⟨g, i, none⟩ = some x)) (fun iv _ => n - (intOf iv).toNat)
  case atStart => exact ⟨0, Nat.zero_le _, rfl, Lib.hid (Below.refl _ _), Lib.hid fun _ _ _ h => h⟩
  case round =>
    obtain ⟨i, hi, rfl, HB, HW⟩ := hrel
    by_cases hlt : i < n
    · have hil : i < l.length := by rw [← HN.out]; exact hlt
      obtain ⟨g, rfl, c0⟩ := HC.out.1 i hil
      obtain ⟨g', rfl, c1⟩ := HC.out.2 i hil
      replace c0 := HW.out _ _ _ c0
      replace c1 := HW.out _ _ _ c1
      generalize (⟨l[i].toArray⟩ : ByteArray) = x at c0 c1
      go_wp2_with fail
      go_quiet (fail)
      go_wp2_with fail
      go_roundw
      case rel => exact ⟨i + 1, by omega, by go_num, Lib.hid (below_drewN HB.out _), Lib.hid fun g i x h => by have := HW.out g i x h; simpa using this⟩
      case measure => simp [intOf]; omega
    · have hin : i = n := by omega
      subst hin
      go_wp2_with fail
      go_ret
      exact ⟨rfl, HB.out⟩
end Go.Proofs.YtmoihgniglomiaaDoor
