/- The steps gone through from the last to the first: the iterator. No condition. -/
import Derived.Test.YteaanoaldnnflaaDoorOe
import Derived.RangeFuncNested
import Derived.RangeFuncBound
import Derived.RangeFuncCalls
import Derived.RangeFuncLeaves
import Derived.Shelf.Abstract
import Derived.Shelf.RegionOpen
import Derived.WalkKit
import Derived.OwnWalkIn
import Derived.TacticsInMore
import Derived.LoopNIn
import Derived.LoopIn
set_option linter.unusedVariables false
set_option linter.unusedSimpArgs false
namespace Go.Proofs.YteaanoaldnnflaaDoor
open Go.RowKit Go.Shelf
attribute [local go_sem] Oper.semAt_some

/-- the steps from the last down to the first -/
def downL (last first : Int) : List Int := (List.range (last - first + 1).toNat).map fun (k : Nat) => last - (k : Int)
/-- a step that a window may have -/
abbrev St := { x : Int // 0 ≤ x ∧ x ≤ 1099511627786 }
def clip (x : Int) : St := ⟨max 0 (min x 1099511627786), by omega, by omega⟩
theorem clip_val {x : Int} (h0 : 0 ≤ x) (h1 : x ≤ 1099511627786) : (clip x).1 = x := by
  show max 0 (min x 1099511627786) = x
  omega
def downTo (last : Int) (k : Nat) : List St := (List.range k).map fun (k : Nat) => clip (last - (k : Int))
def downA (last first : Int) : List St := downTo last (last - first + 1).toNat
theorem downTo_succ (last : Int) (k : Nat) : downTo last (k + 1) = downTo last k ++ [clip (last - k)] := by simp [downTo, List.range_succ]
theorem downTo_length (last : Int) (k : Nat) : (downTo last k).length = k := by simp [downTo]
theorem downA_length (last first : Int) : (downA last first).length = (last - first + 1).toNat := by simp [downA, downTo]
theorem downTo_prefix (last first : Int) (k : Nat) (h : k ≤ (last - first + 1).toNat) : downTo last k <+: downA last first := by
  unfold downA downTo
  obtain ⟨m, hm⟩ : ∃ m, (last - first + 1).toNat = k + m := ⟨(last - first + 1).toNat - k, by omega⟩
  rw [hm, List.range_add, List.map_append]
  exact List.prefix_append _ _
theorem downA_val (last first : Int) (hl : last ≤ 1099511627786) (hf : 0 ≤ first) : (downA last first).map (·.1) = downL last first := by
  unfold downA downTo downL
  rw [List.map_map]
  apply List.map_congr_left
  intro k hk
  rw [List.mem_range] at hk
  exact clip_val (by omega) (by omega)

set_option maxRecDepth 100000 in
set_option maxHeartbeats 2000000 in
theorem falling1_in (n : Nat) (hn : 1 ≤ n) (l b1 b2 n₀ : Nat) (last first : Int) (hl : last ≤ 1099511627786) (hf : 0 ≤ first) (J Jx : List St → World → Prop) (hb1 : b1 < n₀) (hb2 : b2 < n₀)
    (hY : ∀ pre x W, J pre W → pre.length < (downA last first).length → YieldAt Fence.wide (n - 1) Tryd.prog l #[.int .i64 x.1] W fun e W' =>
      (e = .returned (.bool true) ∧ J (pre ++ [x]) W' ∧ Below n₀ W W') ∨ (e = .returned (.bool false) ∧ Jx (pre ++ [x]) W'))
    (W : World) (h1 : W.cell? ⟨b1, 0, none⟩ = some (.int .i64 last)) (h2 : W.cell? ⟨b2, 0, none⟩ = some (.int .i64 first)) (h0 : J [] W) :
    CallsIn Fence.wide n Tryd.prog 25 #[.func (.yield l) #[] #[], .pointer (some ⟨b1, 0, none⟩), .pointer (some ⟨b2, 0, none⟩)] W fun e W' => (∃ v, e = .returned v) ∧
      ((∃ ys, ys = downA last first ∧ J ys W') ∨ (∃ pre, pre <+: downA last first ∧ Jx pre W')) := by
  refine callsIn_of_wp Tryd.func25 rfl trivial ?_ rfl
  simp only [Tryd.ntmps25, List.size_toArray, List.length_cons, List.length_nil, Nat.reduceAdd, Nat.reduceSub, Array.replicate_succ, Array.replicate_zero, List.push_toArray, List.append_toArray, List.nil_append, List.cons_append]
  gi_wp2
  gi_loopw [4] (fun p wr => ∃ k : Nat, k ≤ (last - first + 1).toNat ∧ p = .int .i64 (last - k) ∧ J (downTo last k) wr ∧ Below n₀ W wr)
    (fun p wr => (intOf p - first + 1).toNat)
  case atStart =>
    exact ⟨0, by omega, by simp, h0, Below.refl _ _⟩
  case round =>
    obtain ⟨k, hk, rfl, hJ, hB⟩ := hrel
    have c1 : wr.cell? ⟨b1, 0, none⟩ = some (.int .i64 last) := (hB.cell (p := ⟨b1, 0, none⟩) hb1).trans h1
    have c2 : wr.cell? ⟨b2, 0, none⟩ = some (.int .i64 first) := (hB.cell (p := ⟨b2, 0, none⟩) hb2).trans h2
    by_cases hlt : k < (last - first + 1).toNat
    · have hge : first ≤ last - k := by omega
      obtain ⟨fn, tmps, assign, body, hy, hR⟩ := hY (downTo last k) (clip (last - k)) wr hJ (by rw [downTo_length, downA_length]; exact hlt)
      have ev : (clip (last - k)).1 = last - k := clip_val (by omega) (by omega)
      rw [ev] at hy
      gi_wp2
      refine hR.mono ?_
      rintro e W3 (⟨rfl, hJ3, hk3⟩ | ⟨rfl, hJx3⟩)
      · rw [← downTo_succ] at hJ3
        gi_wp2
        go_roundw
        case rel => exact ⟨k + 1, by omega, by go_num, hJ3, hB.trans hk3⟩
        case measure => simp [intOf]; omega
      · gi_wp2
        refine bodyPost_ret (results_none rfl _ _ _) rfl ?_
        exact ⟨⟨_, rfl⟩, .inr ⟨downTo last k ++ [clip (last - k)], by rw [← downTo_succ]; exact downTo_prefix _ _ _ (by omega), hJx3⟩⟩
    · have hge : ¬ first ≤ last - k := by omega
      gi_wp2
      go_end0
      exact ⟨⟨_, rfl⟩, .inl (by rw [show downA last first = downTo last k from by rw [downA, show (last - first + 1).toNat = k from by omega]]; exact hJ)⟩

set_option maxHeartbeats 1000000 in
theorem falling_any (n : Nat) (last first : Int) (w : World) :
    CallsIn Fence.wide n Tryd.prog 18 #[.int .i64 last, .int .i64 first] w fun e w' => e = .returned (.func (.func 25) #[] #[.pointer (some ⟨w.heap.size, 0, none⟩), .pointer (some ⟨w.heap.size + 1, 0, none⟩)]) ∧ w' = (w.alloc (.cells #[.int .i64 last] 3)).alloc (.cells #[.int .i64 first] 3) := by
  refine callsIn_of_wp Tryd.func18 rfl trivial ?_ rfl
  simp only [Tryd.ntmps18, List.size_toArray, List.length_cons, List.length_nil, Nat.reduceAdd, Nat.reduceSub, Array.replicate_succ, Array.replicate_zero, List.push_toArray, List.append_toArray, List.nil_append, List.cons_append]
  gi_wp2
  go_ret
  exact ⟨by simp, rfl⟩

theorem falling_stops (n : Nat) (hn : 1 ≤ n) (b1 b2 n₀ : Nat) (last first : Int) (hl : last ≤ 1099511627786) (hf : 0 ≤ first) (w : World) (hb1 : b1 < n₀) (hb2 : b2 < n₀) (hn₀ : n₀ ≤ w.heap.size)
    (h1 : w.cell? ⟨b1, 0, none⟩ = some (.int .i64 last)) (h2 : w.cell? ⟨b2, 0, none⟩ = some (.int .i64 first)) :
    SeqStopsK Fence.wide n Tryd.prog 25 #[.pointer (some ⟨b1, 0, none⟩), .pointer (some ⟨b2, 0, none⟩)] (fun x : St => #[Value.int .i64 x.1]) (Below n₀) (fun ys => ys = downA last first) (fun pre => pre <+: downA last first) (downA last first).length w := fun l J Jx W hW _ _ hY h0 =>
  falling1_in n hn l b1 b2 n₀ last first hl hf J Jx hb1 hb2 hY W ((hW.cell (p := ⟨b1, 0, none⟩) (show b1 < w.heap.size by omega)).trans h1) ((hW.cell (p := ⟨b2, 0, none⟩) (show b2 < w.heap.size by omega)).trans h2) h0
end Go.Proofs.YteaanoaldnnflaaDoor
