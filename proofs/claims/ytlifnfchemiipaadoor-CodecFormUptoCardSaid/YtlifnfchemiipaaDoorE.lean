/- What the document's own FromHex answers: the bytes whose base sixteen the text is, or the error 10. Condition: at most 2097152 bytes. -/
import Derived.Test.YtlifnfchemiipaaDoorD
namespace Go.Proofs.YtlifnfchemiipaaDoor
open Go.RowKit

def highD : List UInt8 := [48, 49, 50, 51, 52, 53, 54, 55, 56, 57, 65, 66, 67, 68, 69, 70]
/-- what a digit of base sixteen stands for; capitals too, if they may be; -1: it is none -/
def dg (c : UInt8) (caps : Bool) : Int :=
  if 48 ≤ (c.toNat : Int) ∧ (c.toNat : Int) ≤ 57 then (c.toNat : Int) - 48
  else if 97 ≤ (c.toNat : Int) ∧ (c.toNat : Int) ≤ 102 then (c.toNat : Int) - 87
  else if caps = true ∧ 65 ≤ (c.toNat : Int) ∧ (c.toNat : Int) ≤ 70 then (c.toNat : Int) - 55 else -1

theorem dg_bd (c : UInt8) (b : Bool) : -1 ≤ dg c b ∧ dg c b ≤ 15 := by
  unfold dg
  repeat' split
  all_goals omega
theorem all_u8 {p : UInt8 → Prop} (h : ∀ n, n < 256 → p (UInt8.ofNat n)) (c : UInt8) : p c := by
  have := h c.toNat c.toNat_lt
  simpa using this
theorem place_low (c : UInt8) : placeL lowD c = dg c false := all_u8 (p := fun c => placeL lowD c = dg c false) (by decide +kernel) c
theorem place_both (c : UInt8) : max (placeL lowD c) (placeL highD c) = dg c true := all_u8 (p := fun c => max (placeL lowD c) (placeL highD c) = dg c true) (by decide +kernel) c

set_option maxHeartbeats 1000000 in
set_option maxRecDepth 100000 in
theorem digit_any (c : UInt8) (b : Bool) (w : World) :
    Calls Tryd.prog 34 #[.int .u8 c.toNat, .bool b] w fun e w' => e = .returned (.int .i64 (dg c b)) ∧ w = w' := by
  have h8 := c.toNat_lt
  cases b
  all_goals
    go_enter Tryd.func34, Tryd.ntmps34
    go_wp2
  all_goals go_ret
  all_goals refine ⟨ret_int ?_, rfl⟩
  all_goals unfold dg
  all_goals (repeat' split)
  all_goals first | omega | (simp at * <;> omega)

theorem quiet_add_left {P : Program} {f : FuncId} {args : Array Value} {w : World} {a n : Nat} {v : Value}
    (h : Calls P f args (w.drewN (a + n)) fun e w' => e = .returned v ∧ w.drewN (a + n) = w') :
    Calls P f args (w.drewN (a + n)) fun e w'' => e = .returned v ∧ ∃ m, w'' = w.drewN (a + m) :=
  h.mono fun _ _ ⟨he, hm⟩ => ⟨he, n, hm.symm⟩
theorem quiet_left {P : Program} {f : FuncId} {args : Array Value} {w : World} {n : Nat} {v : Value}
    (h : Calls P f args (w.drewN n) fun e w' => e = .returned v ∧ w.drewN n = w') : Calls P f args (w.drewN n) fun e w'' => e = .returned v ∧ ∃ m, w'' = w.drewN m :=
  h.mono fun _ _ ⟨he, hm⟩ => ⟨he, n, hm.symm⟩

theorem byte_of {n : Int} (h0 : 0 ≤ n) (h1 : n ≤ 255) : n = ((UInt8.ofNat n.toNat).toNat : Int) := by
  simp; omega

/-- the bytes whose base sixteen it is -/
def unhexL : List UInt8 → Option (List UInt8)
  | [] => some []
  | [_] => none
  | a :: b :: r => if dg a false < 0 ∨ dg b false < 0 then none else (unhexL r).map (UInt8.ofNat (16 * dg a false + dg b false).toNat :: ·)
def strOf (o : Option (List UInt8)) : ByteArray := ⟨(o.getD []).toArray⟩
def errOf (o : Option (List UInt8)) (e : Int) : Int := if o.isSome then 0 else e
/-- a text and an error's number -/
def Two (o : Option (List UInt8)) (e : Int) : Ending := .returned (.tuple #[.string (strOf o), .int .i64 (errOf o e)])

theorem unhexL_odd : ∀ (l : List UInt8), l.length % 2 = 1 → unhexL l = none
  | [], h => by simp at h
  | [_], _ => rfl
  | a :: b :: r, h => by
    rw [unhexL, unhexL_odd r (by simp at h; omega)]
    simp
theorem drop_two (s : ByteArray) (k : Nat) (h : k + 1 < s.size) : s.data.toList.drop k = s[k] :: s[k + 1] :: s.data.toList.drop (k + 2) := by
  rw [List.drop_eq_getElem_cons (by simp; omega), List.drop_eq_getElem_cons (i := k + 1) (by simp; omega)]
  rfl

set_option maxHeartbeats 1000000 in
set_option maxRecDepth 100000 in
theorem rfromHex_any (s : ByteArray) (w : World) (hs : s.size ≤ 2097152) :
    Calls Tryd.prog 12 #[.string s] w fun e w' => e = Two (unhexL s.data.toList) 10 ∧ Below w.heap.size w w' := by
  obtain ⟨i0, hi, hz0, hz1, hz2⟩ := info_parts infoByte
  by_cases hodd : s.size % 2 = 1
  · have hm : ((s.size : Int) % 2 == 1) = true := by simp; omega
    have hU := Lib.hid (unhexL_odd s.data.toList (by simpa using hodd))
    clear hodd
    go_enter Tryd.func12, Tryd.ntmps12
    go_wp2
    go_ret2
    exact ⟨by rw [hU.out]; rfl, (Below.refl _ _).alloc (Nat.le_refl _) _⟩
  · have hm : ((s.size : Int) % 2 == 1) = false := by simp; omega
    have hE := Lib.hid hodd
    clear hodd
    go_enter Tryd.func12, Tryd.ntmps12
    go_wp2
    go_loopw [4, 5] (fun v i wr => ∃ (k : Nat) (acc : List UInt8), k ≤ s.size ∧ k = 2 * acc.length ∧ i = .int .i64 k ∧ unhexL s.data.toList = (unhexL (s.data.toList.drop k)).map (acc ++ ·) ∧ Rw w.heap.size v acc wr ∧ Below w.heap.size w wr) (fun _ i _ => s.size - (intOf i).toNat)
    case atStart => exact ⟨0, [], by omega, rfl, rfl, by simp, Rw.start w, (Below.refl _ _).alloc (Nat.le_refl _) _⟩
    case round =>
      obtain ⟨k, acc, hk, hal, rfl, hU, hI, hb⟩ := hrel
      have HU := Lib.hid hU
      have HA := Lib.hid hal
      clear hU
      by_cases hlt : k < s.size
      · have hodd := hE.out
        have hlt2 : k + 1 < s.size := by omega
        have hi1 : (k : Int) + 1 < (s.size : Int) := by omega
        have hw1 : IntKind.i64.wrap ((k : Int) + 1) = (k : Int) + 1 := IntWalk.i64_in _ (by omega)
        have ht1 : ((k : Int) + 1).toNat = k + 1 := by omega
        have hp1 : (0 : Int) ≤ (k : Int) + 1 := by omega
        have bx := dg_bd s[k] false
        have bt := dg_bd s[k + 1] false
        clear hodd hal
        by_cases hx : dg s[k] false < 0
        · have hN : unhexL (s.data.toList.drop k) = none := by rw [drop_two s k hlt2, unhexL, if_pos (.inl hx)]
          have HN := Lib.hid hN
          clear hN
          go_wp2_with (fail)
          go_quiet ((go_at_call 34; first | exact quiet_left (digit_any _ _ _) | exact quiet_add_left (digit_any _ _ _)))
          go_wp2
          go_ret2
          exact ⟨by rw [HU.out, HN.out]; rfl, below_drewN hb _⟩
        by_cases hy : dg s[k + 1] false < 0
        · have hN : unhexL (s.data.toList.drop k) = none := by rw [drop_two s k hlt2, unhexL, if_pos (.inr hy)]
          have HN := Lib.hid hN
          clear hN
          go_wp2_with (fail)
          go_quiet ((go_at_call 34; first | exact quiet_left (digit_any _ _ _) | exact quiet_add_left (digit_any _ _ _)))
          go_wp2
          go_ret2
          exact ⟨by rw [HU.out, HN.out]; rfl, below_drewN hb _⟩
        have hN : unhexL (s.data.toList.drop k) = (unhexL (s.data.toList.drop (k + 2))).map (UInt8.ofNat (16 * dg s[k] false + dg s[k + 1] false).toNat :: ·) := by
          rw [drop_two s k hlt2, unhexL, if_neg (by omega)]
        have HN := Lib.hid hN
        clear hN
        have hsz := hb.size
        have hb0 : 0 ≤ 16 * dg s[k] false + dg s[k + 1] false := by omega
        have hb1 : 16 * dg s[k] false + dg s[k + 1] false ≤ 255 := by omega
        go_wp2_with (fail)
        go_quiet ((go_at_call 34; first | exact quiet_left (digit_any _ _ _) | exact quiet_add_left (digit_any _ _ _)))
        rename_i nq
        have hI2 := hI.drewN nq
        have hb2 := below_drewN hb nq
        clear hI hb
        generalize wr.drewN nq = w2 at hI2 hb2 ⊢
        have HB := Lib.hid (byte_of hb0 hb1)
        have hl3 : acc.length ≤ 281474976710 := by have := HA.out; omega
        go_wp2_with (at_builtin; refine app1 (16 * dg s[k] false + dg s[k + 1] false) (UInt8.ofNat (16 * dg s[k] false + dg s[k + 1] false).toNat) HB.out _ _ rfl rfl rfl rfl hI2 hb2 (Nat.le_refl _) hl3 ?_)
        intro v3 w3 h3 hb3
        go_wp2
        go_roundw
        case rel =>
          refine ⟨k + 2, _, by omega, ?_, by go_num, ?_, h3, hb3⟩
          · have := HA.out; simp; omega
          · rw [HU.out, HN.out]; simp [Function.comp_def]
        case measure => simp [intOf]; omega
      · have hcv := hI.conv
        clear hal
        go_wp2
        go_ret2
        have e : s.data.toList.drop k = [] := List.drop_of_length_le (by simp; omega)
        refine ⟨?_, hb⟩
        rw [HU.out, e]
        simp [unhexL, Two, strOf, errOf]
end Go.Proofs.YtlifnfchemiipaaDoor
