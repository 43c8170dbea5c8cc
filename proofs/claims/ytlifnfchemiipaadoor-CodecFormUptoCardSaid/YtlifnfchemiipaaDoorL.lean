/- What codec.Percent and codec.FromPercent answer: the text with percent signs; and without them, or the error 12. Condition: at most 67108864 bytes. -/
import Derived.Test.YtlifnfchemiipaaDoorG
namespace Go.Proofs.YtlifnfchemiipaaDoor
open Go.RowKit

def plainB (c : UInt8) : Bool := decide (65 ≤ (c.toNat : Int) ∧ (c.toNat : Int) ≤ 90) || decide (97 ≤ (c.toNat : Int) ∧ (c.toNat : Int) ≤ 122) || decide (48 ≤ (c.toNat : Int) ∧ (c.toNat : Int) ≤ 57) || c == 45 || c == 46 || c == 95 || c == 126
def pctOne (c : UInt8) : List UInt8 := if plainB c = true then [c] else [37, highD.getD (c.toNat / 16) 0, highD.getD (c.toNat % 16) 0]
def pctL (l : List UInt8) : List UInt8 := l.flatMap pctOne
def unpctL : List UInt8 → Option (List UInt8)
  | [] => some []
  | c :: r => if c = 37 then
      match r with
      | a :: b :: r' => if dg a true < 0 ∨ dg b true < 0 then none else (unpctL r').map (UInt8.ofNat (16 * dg a true + dg b true).toNat :: ·)
      | _ => none
    else (unpctL r).map (c :: ·)

theorem high_at (n : Nat) (h : n < 16) : (({ data := #[48, 49, 50, 51, 52, 53, 54, 55, 56, 57, 65, 66, 67, 68, 69, 70] } : ByteArray)[n]'h) = highD.getD n 0 := by
  show highD[n]'h = _
  rw [List.getD_eq_getElem?_getD, List.getElem?_eq_getElem h]; rfl
theorem place_highS (c : UInt8) (w : World) : Calls Tryd.prog 31 #[.string { data := #[48, 49, 50, 51, 52, 53, 54, 55, 56, 57, 65, 66, 67, 68, 69, 70] }, .int .u8 c.toNat] w fun e w' => e = .returned (.int .i64 (placeL highD c)) ∧ Below w.heap.size w w' :=
  place_any _ c w (by decide) (by decide)
theorem place_lowP (c : UInt8) (w : World) : Calls Tryd.prog 31 #[.string { data := #[48, 49, 50, 51, 52, 53, 54, 55, 56, 57, 97, 98, 99, 100, 101, 102] }, .int .u8 c.toNat] w fun e w' => e = .returned (.int .i64 (placeL lowD c)) ∧ Below w.heap.size w w' :=
  place_any _ c w (by decide) (by decide)

def plainD : List UInt8 := sixD ++ [46, 126]
theorem place_plain (c : UInt8) : 0 ≤ placeL plainD c ↔ plainB c = true := all_u8 (p := fun c => 0 ≤ placeL plainD c ↔ plainB c = true) (by decide +kernel) c

theorem place_yes (a : ByteArray) (c : UInt8) (w : World) (hs : a.size ≤ 4096) (ha : ∀ k, (h : k < a.size) → (a[k]'h).toNat < 128) (hd : a.data.toList = plainD) (hp : plainB c = true) :
    Calls Tryd.prog 31 #[.string a, .int .u8 c.toNat] w fun e w' => ∃ n : Int, e = .returned (.int .i64 n) ∧ 0 ≤ n ∧ Below w.heap.size w w' :=
  (place_any a c w hs ha).mono fun _ _ ⟨he, hb⟩ => ⟨_, he, by rw [hd]; exact (place_plain c).2 hp, hb⟩
theorem place_no (a : ByteArray) (c : UInt8) (w : World) (hs : a.size ≤ 4096) (ha : ∀ k, (h : k < a.size) → (a[k]'h).toNat < 128) (hd : a.data.toList = plainD) (hp : ¬ plainB c = true) :
    Calls Tryd.prog 31 #[.string a, .int .u8 c.toNat] w fun e w' => ∃ n : Int, e = .returned (.int .i64 n) ∧ n < 0 ∧ Below w.heap.size w w' :=
  (place_any a c w hs ha).mono fun _ _ ⟨he, hb⟩ => ⟨_, he, by rw [hd]; exact Int.not_le.1 (fun h => hp ((place_plain c).1 h)), hb⟩

set_option maxHeartbeats 1000000 in
set_option maxRecDepth 100000 in
theorem digit2_any (c : UInt8) (w : World) :
    Calls Tryd.prog 36 #[.int .u8 c.toNat] w fun e w' => e = .returned (.int .i64 (dg c true)) ∧ Below w.heap.size w w' := by
  have hm := Lib.hid (place_both c)
  go_enter Tryd.func36, Tryd.ntmps36
  go_wp2_with (fail)
  refine (place_lowP c _).mono ?_
  rintro e w1 ⟨rfl, b1⟩
  go_wp2_with (fail)
  refine (place_highS c _).mono ?_
  rintro e w2 ⟨rfl, b2⟩
  go_wp2_with (fail)
  go_ret
  exact ⟨ret_int hm.out, b1.trans (b2.mono b1.size)⟩

theorem pctL_snoc (l : List UInt8) (c : UInt8) : pctL (l ++ [c]) = pctL l ++ pctOne c := by simp [pctL]
theorem pctL_length (l : List UInt8) : (pctL l).length ≤ 3 * l.length := by
  induction l with
  | nil => simp [pctL]
  | cons x l ih =>
    have h : (pctOne x).length ≤ 3 := by unfold pctOne; split <;> simp
    simp [pctL, List.flatMap_cons] at ih ⊢; omega

set_option maxHeartbeats 1000000 in
set_option maxRecDepth 100000 in
theorem percent_any (s : ByteArray) (w : World) (hs : s.size ≤ 67108864) :
    Calls Tryd.prog 22 #[.string s] w fun e w' => e = .returned (.string ⟨(pctL s.data.toList).toArray⟩) ∧ Below w.heap.size w w' := by
  go_enter Tryd.func22, Tryd.ntmps22
  go_wp2
  go_loopw [7] (fun i wr => ∃ k : Nat, k ≤ s.size ∧ i = .int .i64 k ∧ Bd w.heap.size (pctL (s.data.toList.take k)) wr ∧ Below w.heap.size w wr) (fun i _ => s.size - (intOf i).toNat)
  case atStart => exact ⟨0, by omega, rfl, Bd.start w, (Below.refl _ _).alloc (Nat.le_refl _) _⟩
  case round =>
    obtain ⟨k, hk, rfl, hI, hb⟩ := hrel
    have hl := pctL_length (s.data.toList.take k)
    have hl2 : (pctL (s.data.toList.take k)).length ≤ 281474976 := by simp at hl; omega
    clear hl
    by_cases hlt : k < s.size
    · have h8 := s[k].toNat_lt
      have hb1 : (s[k].toNat : Int) / 16 < 16 := by omega
      have hb0 : 0 ≤ (s[k].toNat : Int) / 16 := by omega
      by_cases hp : plainB s[k] = true
      · have HO : Hid (pctOne s[k] = [s[k]]) := by rw [pctOne, if_pos hp]; rfl
        have HP := Lib.hid hp
        clear hp
        go_wp2_with (fail)
        refine (place_yes _ s[k] _ (by decide) (by decide) (by rfl) HP.out).mono ?_
        rintro e w1 ⟨n, rfl, hn, b1⟩
        have hb1 := hb.trans (b1.mono hb.size)
        go_wp2_with (fail)
        refine (write_b w.heap.size _ _ _ (hI.below b1) (by omega)).mono ?_
        rintro e w2 ⟨rfl, h2, b2, _⟩
        rw [← HO.out, ← pctL_snoc, ← take_snoc s k hlt] at h2
        have hb2 := hb1.trans b2
        go_wp2_with (fail)
        go_roundw
        case rel => exact ⟨k + 1, by omega, by go_num, h2, hb2⟩
        case measure => simp [intOf]; omega
      · have HO : Hid (pctOne s[k] = [37, highD.getD (s[k].toNat / 16) 0, highD.getD (s[k].toNat % 16) 0]) := by rw [pctOne, if_neg hp]; rfl
        have HP := Lib.hid hp
        clear hp
        go_wp2_with (fail)
        refine (place_no _ s[k] _ (by decide) (by decide) (by rfl) HP.out).mono ?_
        rintro e w1 ⟨n, rfl, hn, b1⟩
        have hb1 := hb.trans (b1.mono hb.size)
        go_wp2_with (fail)
        refine (write_b w.heap.size _ 37 _ (hI.below b1) (by omega)).mono ?_
        rintro e w2 ⟨rfl, h2, b2, _⟩
        have hb2 := hb1.trans b2
        go_wp2_with (fail)
        refine (write_b w.heap.size _ _ _ h2 (by simp; omega)).mono ?_
        rintro e w3 ⟨rfl, h3, b3, _⟩
        have hb3 := hb2.trans b3
        go_wp2_with (fail)
        refine (write_b w.heap.size _ _ _ h3 (by simp; omega)).mono ?_
        rintro e w4 ⟨rfl, h4, b4, _⟩
        have hb4 := hb3.trans b4
        rw [high_at _ (by omega), high_at _ (by omega)] at h4
        have h5 : Bd w.heap.size (pctL (s.data.toList.take (k + 1))) w4 := by
          rw [take_snoc s k hlt, pctL_snoc, HO.out]; simpa using h4
        clear h4 h3 h2
        go_wp2_with (fail)
        go_roundw
        case rel => exact ⟨k + 1, by omega, by go_num, h5, hb4⟩
        case measure => simp [intOf]; omega
    · go_wp2_with (go_at_call 33; refine (string_b w.heap.size _ _ hI).mono ?_)
      rintro e w1 ⟨rfl, h1⟩
      go_wp2
      go_ret
      refine ⟨?_, hb.trans h1⟩
      rw [List.take_of_length_le (by simp; omega)]
      rfl

theorem drop_three (s : ByteArray) (k : Nat) (h : k + 2 < s.size) : s.data.toList.drop k = s[k] :: s[k + 1] :: s[k + 2] :: s.data.toList.drop (k + 3) := by
  rw [drop_one s k (by omega), drop_one s (k + 1) (by omega), drop_one s (k + 2) (by omega)]
theorem unpctL_short (r : List UInt8) (h : r.length < 2) : unpctL (37 :: r) = none := by
  match r, h with
  | [], _ => simp [unpctL]
  | [_], _ => simp [unpctL]
theorem unpctL_bad (a b : UInt8) (r : List UInt8) (h : dg a true < 0 ∨ dg b true < 0) : unpctL (37 :: a :: b :: r) = none := by
  rw [unpctL, if_pos rfl, if_pos h]
theorem unpctL_good (a b : UInt8) (r : List UInt8) (h : ¬ (dg a true < 0 ∨ dg b true < 0)) : unpctL (37 :: a :: b :: r) = (unpctL r).map (UInt8.ofNat (16 * dg a true + dg b true).toNat :: ·) := by
  rw [unpctL, if_pos rfl, if_neg h]
theorem unpctL_self (c : UInt8) (r : List UInt8) (h : c ≠ 37) : unpctL (c :: r) = (unpctL r).map (c :: ·) := by
  rw [unpctL.eq_def]; simp only; rw [if_neg h]

set_option maxHeartbeats 2000000 in
set_option maxRecDepth 100000 in
theorem fromPercent_any (s : ByteArray) (w : World) (hs : s.size ≤ 67108864) :
    Calls Tryd.prog 20 #[.string s] w fun e w' => e = Two (unpctL s.data.toList) 12 ∧ Below w.heap.size w w' := by
  go_enter Tryd.func20, Tryd.ntmps20
  go_wp2
  go_loopw [5] (fun i wr => ∃ (k : Nat) (acc : List UInt8), k ≤ s.size ∧ acc.length ≤ k ∧ i = .int .i64 k ∧ unpctL s.data.toList = (unpctL (s.data.toList.drop k)).map (acc ++ ·) ∧ Bd w.heap.size acc wr ∧ Below w.heap.size w wr) (fun i _ => s.size - (intOf i).toNat)
  case atStart => exact ⟨0, [], by omega, by simp, rfl, by simp, Bd.start w, (Below.refl _ _).alloc (Nat.le_refl _) _⟩
  case round =>
    obtain ⟨k, acc, hk, hal, rfl, hU, hI, hb⟩ := hrel
    have HU := Lib.hid hU
    clear hU
    by_cases hlt : k < s.size
    · have h8 := s[k].toNat_lt
      by_cases hc : s[k] = 37
      · have ht : ((s[k].toNat : Int) != 37) = false := by rw [hc]; rfl
        have HC := Lib.hid hc
        clear hc
        by_cases hsh : s.size < k + 3
        · have HN : Hid (unpctL (s.data.toList.drop k) = none) := by rw [drop_one s k hlt, HC.out, unpctL_short _ (by simp; omega)]; rfl
          go_wp2_with (fail)
          go_ret2
          exact ⟨by rw [HU.out, HN.out]; rfl, hb⟩
        have hlt2 : k + 2 < s.size := by omega
        have hi1 : (k : Int) + 1 < (s.size : Int) := by omega
        have hw1 : IntKind.i64.wrap ((k : Int) + 1) = (k : Int) + 1 := IntWalk.i64_in _ (by omega)
        have ht1 : ((k : Int) + 1).toNat = k + 1 := by omega
        have hp1 : (0 : Int) ≤ (k : Int) + 1 := by omega
        have hi2 : (k : Int) + 2 < (s.size : Int) := by omega
        have hw2 : IntKind.i64.wrap ((k : Int) + 2) = (k : Int) + 2 := IntWalk.i64_in _ (by omega)
        have ht2 : ((k : Int) + 2).toNat = k + 2 := by omega
        have hp2 : (0 : Int) ≤ (k : Int) + 2 := by omega
        have bx := dg_bd s[k + 1] true
        have bt := dg_bd s[k + 2] true
        have hS0 : Below wr.heap.size wr wr.drew := (Below.refl _ _).drew
        by_cases hx : dg s[k + 1] true < 0
        · have HN : Hid (unpctL (s.data.toList.drop k) = none) := by rw [drop_three s k hlt2, HC.out, unpctL_bad _ _ _ (.inl hx)]; rfl
          go_wp2_with (fail)
          go_region_held3 (fun w' => Below wr.heap.size wr w') (first | exact hS0 | assumption | exact Below.trans ‹Below wr.heap.size wr _› (Below.mono ‹_› (Below.size ‹Below wr.heap.size wr _›))) ((first | (go_at_call 36; refine (digit2_any _ _).mono ?_; rintro e w' ⟨rfl, hbw⟩)))
          all_goals
            have hbb := hb.trans (Below.mono ‹Below wr.heap.size wr _› hb.size)
            go_wp2
            go_ret2
            exact ⟨by rw [HU.out, HN.out]; rfl, hbb⟩
        by_cases hy : dg s[k + 2] true < 0
        · have HN : Hid (unpctL (s.data.toList.drop k) = none) := by rw [drop_three s k hlt2, HC.out, unpctL_bad _ _ _ (.inr hy)]; rfl
          go_wp2_with (fail)
          go_region_held3 (fun w' => Below wr.heap.size wr w') (first | exact hS0 | assumption | exact Below.trans ‹Below wr.heap.size wr _› (Below.mono ‹_› (Below.size ‹Below wr.heap.size wr _›))) ((first | (go_at_call 36; refine (digit2_any _ _).mono ?_; rintro e w' ⟨rfl, hbw⟩)))
          all_goals
            have hbb := hb.trans (Below.mono ‹Below wr.heap.size wr _› hb.size)
            go_wp2
            go_ret2
            exact ⟨by rw [HU.out, HN.out]; rfl, hbb⟩
        have HN : Hid (unpctL (s.data.toList.drop k) = (unpctL (s.data.toList.drop (k + 3))).map (UInt8.ofNat (16 * dg s[k + 1] true + dg s[k + 2] true).toNat :: ·)) := by
          rw [drop_three s k hlt2, HC.out, unpctL_good _ _ _ (by omega)]; rfl
        go_wp2_with (fail)
        go_region_held3 (fun w' => Below wr.heap.size wr w') (first | exact hS0 | assumption | exact Below.trans ‹Below wr.heap.size wr _› (Below.mono ‹_› (Below.size ‹Below wr.heap.size wr _›))) ((first | (go_at_call 36; refine (digit2_any _ _).mono ?_; rintro e w' ⟨rfl, hbw⟩)))
        all_goals
          have hbb := hb.trans (Below.mono ‹Below wr.heap.size wr _› hb.size)
          have hII := hI.below ‹Below wr.heap.size wr _›
          go_wp2_with (fail)
        all_goals
          refine (write_n w.heap.size acc _ (UInt8.ofNat (16 * dg s[k + 1] true + dg s[k + 2] true).toNat) (or_byte (by omega) (by omega) (by omega) (by omega)) _ hII (by omega)).mono ?_
          rintro e w3 ⟨rfl, h3, b3, _⟩
          have hb3 := hbb.trans b3
          go_wp2
          go_roundw
          case rel =>
            refine ⟨k + 3, _, by omega, ?_, by go_num, ?_, h3, hb3⟩
            · simp; omega
            · rw [HU.out, HN.out]; simp [Function.comp_def]
          case measure => simp [intOf]; omega
      · have ht : ((s[k].toNat : Int) != 37) = true := by
          have : ¬ s[k].toNat = 37 := fun e => hc (UInt8.toNat_inj.1 e)
          simp; omega
        have HN : Hid (unpctL (s.data.toList.drop k) = (unpctL (s.data.toList.drop (k + 1))).map (s[k] :: ·)) := by
          rw [drop_one s k hlt, unpctL_self _ _ hc]; rfl
        clear hc
        go_wp2_with (fail)
        refine (write_b w.heap.size acc _ _ hI (by omega)).mono ?_
        rintro e w3 ⟨rfl, h3, b3, _⟩
        have hb3 := hb.trans b3
        go_wp2
        go_roundw
        case rel =>
          refine ⟨k + 1, _, by omega, ?_, by go_num, ?_, h3, hb3⟩
          · simp; omega
          · rw [HU.out, HN.out]; simp [Function.comp_def]
        case measure => simp [intOf]; omega
    · go_wp2_with (go_at_call 33; refine (string_b w.heap.size _ _ hI).mono ?_)
      rintro e w1 ⟨rfl, h1⟩
      go_wp2
      go_ret2
      have e : s.data.toList.drop k = [] := List.drop_of_length_le (by simp; omega)
      refine ⟨?_, hb.trans h1⟩
      rw [HU.out, e]
      simp [unpctL, Two, strOf, errOf]
end Go.Proofs.YtlifnfchemiipaaDoor
