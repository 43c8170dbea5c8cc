/- What codec.Hex answers: the base sixteen of its bytes; new memory alone is laid. Condition: at most 2097152 bytes. -/
import Derived.Test.YtlifnfchemiipaaDoorB
namespace Go.Proofs.YtlifnfchemiipaaDoor
open Go.RowKit

/-- the digits of base sixteen -/
def lowD : List UInt8 := [48, 49, 50, 51, 52, 53, 54, 55, 56, 57, 97, 98, 99, 100, 101, 102]
def hexOne (c : UInt8) : List UInt8 := [lowD.getD (c.toNat / 16) 0, lowD.getD (c.toNat % 16) 0]
def hexL (l : List UInt8) : List UInt8 := l.flatMap hexOne

theorem take_snoc (s : ByteArray) (k : Nat) (h : k < s.size) : s.data.toList.take (k + 1) = s.data.toList.take k ++ [s[k]] := by
  rw [List.take_succ_eq_append_getElem (by simpa using h)]; rfl

theorem low_at (n : Nat) (h : n < 16) : (({ data := #[48, 49, 50, 51, 52, 53, 54, 55, 56, 57, 97, 98, 99, 100, 101, 102] } : ByteArray)[n]'h) = lowD.getD n 0 := by
  show lowD[n]'h = _
  rw [List.getD_eq_getElem?_getD, List.getElem?_eq_getElem h]; rfl
theorem hexL_snoc (l : List UInt8) (c : UInt8) : hexL (l ++ [c]) = hexL l ++ [lowD.getD (c.toNat / 16) 0] ++ [lowD.getD (c.toNat % 16) 0] := by
  simp [hexL, hexOne]
theorem hexL_length (l : List UInt8) : (hexL l).length = 2 * l.length := by
  induction l with
  | nil => rfl
  | cons x l ih => simp [hexL, hexOne, List.flatMap_cons] at ih ⊢; omega

set_option maxHeartbeats 1000000 in
set_option maxRecDepth 100000 in
theorem hex_any (s : ByteArray) (w : World) (hs : s.size ≤ 2097152) :
    Calls Tryd.prog 14 #[.string s] w fun e w' => e = .returned (.string ⟨(hexL s.data.toList).toArray⟩) ∧ Below w.heap.size w w' := by
  go_enter Tryd.func14, Tryd.ntmps14
  go_wp2
  go_loopw [7] (fun i wr => ∃ k : Nat, k ≤ s.size ∧ i = .int .i64 k ∧ Bd w.heap.size (hexL (s.data.toList.take k)) wr ∧ Below w.heap.size w wr) (fun i _ => s.size - (intOf i).toNat)
  case atStart => exact ⟨0, by omega, rfl, Bd.start w, (Below.refl _ _).alloc (Nat.le_refl _) _⟩
  case round =>
    obtain ⟨k, hk, rfl, hI, hb⟩ := hrel
    have hl := hexL_length (s.data.toList.take k)
    by_cases hlt : k < s.size
    · have h8 := s[k].toNat_lt
      have hb1 : (s[k].toNat : Int) / 16 < 16 := by omega
      have hb0 : 0 ≤ (s[k].toNat : Int) / 16 := by omega
      go_wp2_with (fail)
      refine (write_b w.heap.size _ _ _ hI (by simp at hl; omega)).mono ?_
      rintro e w1 ⟨rfl, h1, b1, _⟩
      go_wp2_with (fail)
      refine (write_b w.heap.size _ _ _ h1 (by simp at hl ⊢; omega)).mono ?_
      rintro e w2 ⟨rfl, h2, b2, _⟩
      rw [low_at _ (by omega), low_at _ (by omega), ← hexL_snoc, ← take_snoc s k hlt] at h2
      have hb' := (hb.trans b1).trans b2
      go_wp2_with (fail)
      go_roundw
      case rel => exact ⟨k + 1, by omega, by go_num, h2, hb'⟩
      case measure => simp [intOf]; omega
    · go_wp2_with (go_at_call 33; refine (string_b w.heap.size _ _ hI).mono ?_)
      rintro e w1 ⟨rfl, h1⟩
      go_wp2
      go_ret
      refine ⟨?_, hb.trans h1⟩
      rw [List.take_of_length_le (by simp; omega)]
      rfl
end Go.Proofs.YtlifnfchemiipaaDoor
