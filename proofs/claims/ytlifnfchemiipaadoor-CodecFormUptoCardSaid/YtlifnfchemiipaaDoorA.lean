/- What a search for a byte in an alphabet of bytes below 128 tells: its first place, or -1; no condition but that the alphabet is such. -/
import Derived.Test.YtlifnfchemiipaaDoorRows
import Derived.WalkKit
import Derived.WalkSpells
import Derived.WalkLawsBesides
import Derived.BigCall
import Derived.Outline
import Derived.Lib.OthersKept
import Derived.Lib.Hide
namespace Go.Proofs.YtlifnfchemiipaaDoor
open Go.RowKit

theorem ret_int {k : IntKind} {a b : Int} (h : a = b) : Ending.returned (.int k a) = .returned (.int k b) := by rw [h]

/-- the first place of c in l, counted from n on, or -1 -/
def placeFrom : List UInt8 → Nat → UInt8 → Int
  | [], _, _ => -1
  | x :: l, n, c => if x = c then (n : Int) else placeFrom l (n + 1) c
def placeL (l : List UInt8) (c : UInt8) : Int := placeFrom l 0 c

theorem placeFrom_drop (c : UInt8) : ∀ (k : Nat) (l : List UInt8) (n : Nat), k ≤ l.length → (∀ j, (h : j < k) → (h2 : j < l.length) → l[j] ≠ c) → placeFrom l n c = placeFrom (l.drop k) (n + k) c
  | 0, l, n, _, _ => by simp
  | k + 1, [], n, h, _ => by simp at h
  | k + 1, x :: l, n, h, hn => by
    have h0 : x ≠ c := hn 0 (by omega) (by simp)
    rw [placeFrom, if_neg h0, placeFrom_drop c k l (n + 1) (by simpa using h) (fun j h1 h2 => hn (j + 1) (by omega) (by simpa using h2))]
    simp [Nat.add_comm, Nat.add_left_comm]
theorem placeL_at (a : ByteArray) (c : UInt8) (k : Nat) (h : k < a.size) (hc : a[k] = c) (hne : ∀ j, (h : j < k) → (h2 : j < a.size) → a[j] ≠ c) : placeL a.data.toList c = (k : Int) := by
  have hk : k < a.data.toList.length := by simpa using h
  rw [placeL, placeFrom_drop c k _ 0 (by omega) (fun j h1 h2 => hne j h1 (by omega)), List.drop_eq_getElem_cons hk, placeFrom, if_pos (by rw [← hc]; rfl)]
  simp
theorem placeL_no (a : ByteArray) (c : UInt8) (hne : ∀ j, (h2 : j < a.size) → a[j] ≠ c) : placeL a.data.toList c = -1 := by
  rw [placeL, placeFrom_drop c a.size _ 0 (by simp) (fun j h1 h2 => hne j (by simpa using h2)), List.drop_of_length_le (by simp), placeFrom]
theorem iter_step (w : World) (a : ByteArray) (k k' : Nat) : (w.iter a k).iterAt w.heap.size a k' = w.iter a k' := World.iter_set _ _ _ _

set_option maxHeartbeats 1000000 in
set_option maxRecDepth 100000 in
theorem place_any (a : ByteArray) (c : UInt8) (w : World) (hs : a.size ≤ 4096) (ha : ∀ k, (h : k < a.size) → (a[k]'h).toNat < 128) :
    Calls Tryd.prog 31 #[.string a, .int .u8 c.toNat] w fun e w' => e = .returned (.int .i64 (placeL a.data.toList c)) ∧ Below w.heap.size w w' := by
  go_enter Tryd.func31, Tryd.ntmps31
  go_wp2
  go_loopw [] (fun wr => ∃ k : Nat, k ≤ a.size ∧ wr = w.iter a k ∧ ∀ j, (h : j < k) → (h2 : j < a.size) → a[j] ≠ c) (fun wr => a.size - wr.iterPos w.heap.size)
  case atStart => exact ⟨0, by omega, rfl, by intro j h; omega⟩
  case round =>
    obtain ⟨k, hk, rfl, hne⟩ := hrel
    by_cases hlt : k < a.size
    · have hA := ha k hlt
      have hnx : ∀ ty, (Instr.next (.pointer (some ⟨w.heap.size, 0, none⟩)) true ty).run Tryd.prog (w.iter a k) = _ := fun ty => run_next_ascii w a k ty hlt hA
      have hc1 := c.toNat_lt
      by_cases hc : a[k] = c
      · have HC := Lib.hid hc
        have ht : ((a[k].toNat : Int) == (c.toNat : Int)) = true := by rw [hc]; simp
        clear hc
        go_wp2
        go_ret
        exact ⟨ret_int (placeL_at a c k hlt HC.out hne).symm, (Below.refl _ _).alloc (Nat.le_refl _) _⟩
      · have ht : ((a[k].toNat : Int) == (c.toNat : Int)) = false := by
          have : ¬ a[k].toNat = c.toNat := fun e => hc (UInt8.toNat_inj.1 e)
          simp; omega
        have HC := Lib.hid hc
        clear hc
        go_wp2
        go_roundw
        case rel =>
          refine ⟨k + 1, by omega, rfl, fun j h h2 => ?_⟩
          by_cases e : j = k
          · subst e; exact HC.out
          · exact hne j (by omega) h2
        case measure => simp; omega
    · have hnx : ∀ ty, (Instr.next (.pointer (some ⟨w.heap.size, 0, none⟩)) true ty).run Tryd.prog (w.iter a k) = _ := fun ty => run_next_end w a k ty hlt
      go_wp2
      go_ret
      exact ⟨ret_int (placeL_no a c fun j h2 => hne j (by omega) h2).symm, (Below.refl _ _).alloc (Nat.le_refl _) _⟩
end Go.Proofs.YtlifnfchemiipaaDoor
