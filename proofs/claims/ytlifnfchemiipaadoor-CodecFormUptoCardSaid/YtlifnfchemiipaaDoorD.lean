/- What the document's own Hex answers: the same bytes as codec.Hex's; with the law of 'append' on a row of bytes of the call's own. Condition: at most 2097152 bytes. -/
import Derived.Test.YtlifnfchemiipaaDoorC
import Derived.Deep.AppendLies
import Derived.Deep.RegionHeld3
import Derived.Deep.RegionLaw
import Derived.Deep.QuietTactic
import Derived.BigQuiet
import Derived.Laws.IdiomStrings
import Derived.Lib.BufferRead
namespace Go.Proofs.YtlifnfchemiipaaDoor
open Go.RowKit

/-- v is a slice of the call's own that holds the bytes l -/
def Rw (B : Nat) (v : Value) (l : List UInt8) (w : World) : Prop := w.ownsRow B 5 1 v l.length (Lib.byteCells l)

theorem Rw.snoc2 {B : Nat} {v : Value} {l : List UInt8} {w : World} {c d : UInt8} (h : w.ownsRow B 5 1 v (l.length + 2) (Lib.byteCells l ++ [.int .u8 c.toNat, .int .u8 d.toNat])) : Rw B v (l ++ [c] ++ [d]) w := by
  have e : Lib.byteCells (l ++ [c] ++ [d]) = Lib.byteCells l ++ [.int .u8 c.toNat, .int .u8 d.toNat] := by
    simp [Lib.byteCells]
  unfold Rw
  rw [e]
  simpa using h
theorem Rw.snoc {B : Nat} {v : Value} {l : List UInt8} {w : World} {c : UInt8} (h : w.ownsRow B 5 1 v (l.length + 1) (Lib.byteCells l ++ [.int .u8 c.toNat])) : Rw B v (l ++ [c]) w := by
  unfold Rw
  rw [← byteCells_snoc]
  simpa using h
theorem Rw.conv {B : Nat} {v : Value} {l : List UInt8} {w : World} (h : Rw B v l w) : (convert 41 9 v).run Tryd.prog w = .ok (.string ⟨l.toArray⟩) w := by
  rcases h.2 with ⟨rfl, h0⟩ | ⟨g, cap, cur, rfl, hg, hh, _⟩
  · have : l = [] := List.eq_nil_of_length_eq_zero h0
    subst this
    exact Lib.run_convert_nil_bytes w 41 9 5 _ Tryd.underlying41 Tryd.underlying5 Tryd.underlying9
  · refine run_convert_bytes_back w 41 9 5 _ cap l Tryd.underlying41 Tryd.underlying5 Tryd.underlying9 (fun j hj => ?_)
    exact World.ownsRow.cells h (g := g) rfl j _ (by simp [Lib.byteCells, hj])
theorem Rw.start (w : World) : Rw w.heap.size (.slice (some ⟨w.heap.size, 0, none⟩) 0 0) [] (w.alloc (.cells #[] 5)) :=
  ⟨rfl, .inr ⟨w.heap.size, 0, #[], rfl, Nat.le_refl _, heap_alloc_new w _, Nat.le_refl _, Nat.zero_le _, rfl, rfl⟩⟩

set_option maxHeartbeats 1000000 in
set_option maxRecDepth 100000 in
theorem rhex_any (s : ByteArray) (w : World) (hs : s.size ≤ 2097152) :
    Calls Tryd.prog 15 #[.string s] w fun e w' => e = .returned (.string ⟨(hexL s.data.toList).toArray⟩) ∧ Below w.heap.size w w' := by
  obtain ⟨i0, hi, hz0, hz1, hz2⟩ := info_parts infoByte
  go_enter Tryd.func15, Tryd.ntmps15
  go_wp2
  go_loopw [3, 4] (fun v i wr => ∃ k : Nat, k ≤ s.size ∧ i = .int .i64 k ∧ Rw w.heap.size v (hexL (s.data.toList.take k)) wr ∧ Below w.heap.size w wr) (fun _ i _ => s.size - (intOf i).toNat)
  case atStart => exact ⟨0, by omega, rfl, Rw.start w, (Below.refl _ _).alloc (Nat.le_refl _) _⟩
  case round =>
    obtain ⟨k, hk, rfl, hI, hb⟩ := hrel
    have hown : wr.ownsRow w.heap.size 5 1 u3 _ _ := hI
    have hsz := hb.size
    by_cases hlt : k < s.size
    · have h8 := s[k].toNat_lt
      have hl := hexL_length (s.data.toList.take k)
      have hn1 : (hexL (s.data.toList.take k)).length + 2 ≤ maxLen := by unfold maxLen; simp at hl; omega
      have hn2 : ((hexL (s.data.toList.take k)).length + 2) * 1 ≤ 140737488355328 := by simp at hl; omega
      have hb1 : (s[k].toNat : Int) / 16 < 16 := by omega
      have hb0 : 0 ≤ (s[k].toNat : Int) / 16 := by omega
      have hb3 : (s[k].toNat : Int) % 16 < 16 := by omega
      have hb2 : 0 ≤ (s[k].toNat : Int) % 16 := by omega
      have t1 : ((s[k].toNat : Int) / 16).toNat = s[k].toNat / 16 := by omega
      have t2 : ((s[k].toNat : Int) % 16).toNat = s[k].toNat % 16 := by omega
      have e1 : IntKind.u8.wrap ((s[k].toNat : Int) / 16) = (s[k].toNat : Int) / 16 := IntWalk.u8_in _ (by omega)
      have e2 : (s[k].toNat : Int).tmod 16 = (s[k].toNat : Int) % 16 := IntWalk.rem_in _ _ (by omega)
      clear hl
      go_wp2_with (fail)
      go_region_held3 (fun _ => True) (trivial) ((refine step_append_lies _ (by rfl) _ _ _ (by rfl) w.heap.size 5 i0 _ 1 1 Tryd.underlying41 hi hz0 hz1 hz2 rfl (by omega) _ _ _ (by rfl) ((hown.alloc _).drew) ⟨wr.heap.size, 0, none⟩ 2 2 _ (by rfl) (by rfl) (World.news_of_block (heap_alloc_new wr _)) (by simp [Value.oneCell']) (by omega) hn1 hn2 (by simp; omega) (wr.heap.size + 1) (by simp) ?_; intro gg cap w1 hown1 hgrow hat hlt))
      all_goals
        have h1 := Rw.snoc2 hown1
        rw [low_at _ (by omega), low_at _ (by omega), ← hexL_snoc, ← take_snoc s k (by assumption)] at h1
        have hb' := ((hb.alloc (by omega) _).drew).grown hgrow (by simp; omega) (fun g hg => (hown.lt g hg).1)
        clear hown1 hgrow hown
        go_wp2
        go_roundw
        case rel => exact ⟨k + 1, by omega, by go_num, h1, hb'⟩
        case measure => simp [intOf]; omega
    · have hcv := hI.conv
      clear hown
      go_wp2
      go_ret
      refine ⟨?_, hb⟩
      rw [List.take_of_length_le (by simp; omega)]
      rfl

theorem below_drewN {B : Nat} {a w : World} (h : Below B a w) (n : Nat) : Below B a (w.drewN n) := ⟨h.os, h.tape, h.output, h.size, h.block⟩
theorem Rw.drewN {B : Nat} {v : Value} {l : List UInt8} {w : World} (h : Rw B v l w) (n : Nat) : Rw B v l (w.drewN n) := h
theorem Rw.drew {B : Nat} {v : Value} {l : List UInt8} {w : World} (h : Rw B v l w) : Rw B v l w.drew := h
theorem Rw.below {B : Nat} {v : Value} {l : List UInt8} {w w' : World} (h : Rw B v l w) (hb : Below w.heap.size w w') : Rw B v l w' := by
  refine ⟨h.1, ?_⟩
  rcases h.2 with hn | ⟨g, cap, cur, hv, hg, hh, rest⟩
  · exact .inl hn
  · exact .inr ⟨g, cap, cur, hv, hg, (hb.block _ (blk_lt hh)).trans hh, rest⟩
theorem Rw.alloc {B : Nat} {v : Value} {l : List UInt8} {w : World} (h : Rw B v l w) (o : Obj) : Rw B v l (w.alloc o) := h.below ((Below.refl _ _).alloc (Nat.le_refl _) o)
theorem Rw.grown {B : Nat} {v : Value} {l : List UInt8} {w w' W : World} (h : Rw B v l w) (hb : Below B W w) (hg : w.grownBy w' v.ownBlock) (hB : B ≤ W.heap.size) : Below B W w' :=
  hb.grown hg (by have := hb.size; omega) (fun g hk => (World.ownsRow.lt h g hk).1)

/-- 'b = append(b, c)' on a row of bytes of the call's own -/
theorem app1 {ops : Array Oper} {rest : List Oper} {o : Oper} {a : Act} {Q : Exit → Act → World → Prop} {w W : World} {B : Nat} {v : Value} {l : List UInt8} (n : Int) (c : UInt8) (hn : n = (c.toNat : Int)) (s x : Operand) (hgd : o.guard = none)
    (ho : o.op = .call { callee := .builtin .append, args := #[s, x], argTypes := #[41, 41] }) (hs : a.eval s = v) (hx : a.eval x = .slice (some ⟨w.heap.size, 0, none⟩) 1 1)
    (hI : Rw B v l w) (hb : Below B W w) (hB : B ≤ W.heap.size) (hlen : l.length ≤ 281474976710)
    (h : ∀ v' w', Rw B v' (l ++ [c]) w' → Below B W w' → wpList Tryd.prog ops Q rest (a.put o.dst v') w') : wpList Tryd.prog ops Q (o :: rest) a (w.alloc (.cells #[.int .u8 n] 5)) := by
  subst hn
  obtain ⟨i0, hi, hz0, hz1, hz2⟩ := info_parts infoByte
  have hI' := hI.alloc (.cells #[.int .u8 (c.toNat : Int)] 5)
  have hsz := hb.size
  refine wpList_append_own _ hgd s x 41 ho B 5 i0 (.int .u8 0) 1 1 Tryd.underlying41 hi hz0 hz1 hz2 rfl (by decide) v l.length _ hs hI' ⟨w.heap.size, 0, none⟩ 1 1 [.int .u8 c.toNat] hx rfl (World.news_of_block (heap_alloc_new w _)) (by simp [Value.oneCell']) (by unfold maxLen; omega) (by omega) (by simp; omega) ?_
  intro v' w' h1 h2 _
  exact h v' w' (Rw.snoc h1) (hI'.grown (hb.alloc (by omega) _) h2 hB)
end Go.Proofs.YtlifnfchemiipaaDoor
