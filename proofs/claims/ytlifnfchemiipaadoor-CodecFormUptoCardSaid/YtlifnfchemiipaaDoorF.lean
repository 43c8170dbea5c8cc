/- What codec.FromHex answers: the bytes whose base sixteen the text is, or the error 10. Condition: at most 2097152 bytes. -/
import Derived.Test.YtlifnfchemiipaaDoorE
namespace Go.Proofs.YtlifnfchemiipaaDoor
open Go.RowKit

theorem place_lowS (c : UInt8) (w : World) : Calls Tryd.prog 31 #[.string { data := #[48, 49, 50, 51, 52, 53, 54, 55, 56, 57, 97, 98, 99, 100, 101, 102] }, .int .u8 c.toNat] w fun e w' => e = .returned (.int .i64 (dg c false)) ∧ Below w.heap.size w w' := by
  rw [← place_low]
  exact place_any _ c w (by decide) (by decide)

theorem write_n (B : Nat) (l : List UInt8) (n : Int) (c : UInt8) (hn : n = (c.toNat : Int)) (w : World) (h : Bd B l w) (hlen : l.length ≤ 281474976710) :
    Calls Tryd.prog 32 #[.pointer (some ⟨B, 0, none⟩), .int .u8 n] w fun e w' => e = .returned .nilIface ∧ Bd B (l ++ [c]) w' ∧ Below B w w' ∧ Lib.OthersKept 5 (some B) w w' := by
  subst hn
  exact write_b B l c w h (by omega)
theorem or_nat : ∀ a, a < 16 → ∀ b, b < 16 → bits BinOp.or IntKind.i64 ((a : Nat) * 16 : Int) ((b : Nat) : Int) % 256 = ((UInt8.ofNat (16 * (a : Int) + (b : Int)).toNat).toNat : Int) := by decide +kernel
theorem or_byte {x y : Int} (h0 : 0 ≤ x) (h1 : x ≤ 15) (h2 : 0 ≤ y) (h3 : y ≤ 15) : bits BinOp.or IntKind.i64 (x * 16) y % 256 = ((UInt8.ofNat (16 * x + y).toNat).toNat : Int) := by
  obtain ⟨a, rfl⟩ := Int.eq_ofNat_of_zero_le h0
  obtain ⟨b, rfl⟩ := Int.eq_ofNat_of_zero_le h2
  exact or_nat a (by omega) b (by omega)

set_option maxHeartbeats 1000000 in
set_option maxRecDepth 100000 in
theorem fromHex_any (s : ByteArray) (w : World) (hs : s.size ≤ 2097152) :
    Calls Tryd.prog 11 #[.string s] w fun e w' => e = Two (unhexL s.data.toList) 10 ∧ Below w.heap.size w w' := by
  by_cases hodd : s.size % 2 = 1
  · have hm : ((s.size : Int) % 2 != 0) = true := by simp; omega
    have hU := Lib.hid (unhexL_odd s.data.toList (by simpa using hodd))
    clear hodd
    go_enter Tryd.func11, Tryd.ntmps11
    go_wp2
    go_ret2
    exact ⟨by rw [hU.out]; rfl, Below.refl _ _⟩
  · have hm : ((s.size : Int) % 2 != 0) = false := by simp; omega
    have hE := Lib.hid hodd
    clear hodd
    go_enter Tryd.func11, Tryd.ntmps11
    go_wp2
    go_loopw [5] (fun i wr => ∃ (k : Nat) (acc : List UInt8), k ≤ s.size ∧ k = 2 * acc.length ∧ i = .int .i64 k ∧ unhexL s.data.toList = (unhexL (s.data.toList.drop k)).map (acc ++ ·) ∧ Bd w.heap.size acc wr ∧ Below w.heap.size w wr) (fun i _ => s.size - (intOf i).toNat)
    case atStart => exact ⟨0, [], by omega, rfl, rfl, by simp, Bd.start w, (Below.refl _ _).alloc (Nat.le_refl _) _⟩
    case round =>
      obtain ⟨k, acc, hk, hal, rfl, hU, hI, hb⟩ := hrel
      have HU := Lib.hid hU
      have HA := Lib.hid hal
      clear hU
      by_cases hlt : k < s.size
      · have hodd := hE.out
        have hlt2 : k + 1 < s.size := by omega
        have hi1 : (k : Int) + 1 < (s.size : Int) := by omega
        have hw1 : IntKind.i64.wrap ((k : Int) + 1) = (k : Int) + 1 := IntWalk.i64_in _ (by omega)
        have ht1 : ((k : Int) + 1).toNat = k + 1 := by omega
        have hp1 : (0 : Int) ≤ (k : Int) + 1 := by omega
        have bx := dg_bd s[k] false
        have bt := dg_bd s[k + 1] false
        clear hodd hal
        have hS0 : Below wr.heap.size wr wr.drew := (Below.refl _ _).drew
        by_cases hx : dg s[k] false < 0
        · have hN : unhexL (s.data.toList.drop k) = none := by rw [drop_two s k hlt2, unhexL, if_pos (.inl hx)]
          have HN := Lib.hid hN
          clear hN
          go_wp2_with (fail)
          go_region_held3 (fun w' => Below wr.heap.size wr w') (first | exact hS0 | assumption | exact Below.trans ‹Below wr.heap.size wr _› (Below.mono ‹_› (Below.size ‹Below wr.heap.size wr _›))) ((first | (go_at_call 31; refine (place_lowS _ _).mono ?_; rintro e w' ⟨rfl, hbw⟩)))
          all_goals
            have hbb := hb.trans (Below.mono ‹Below wr.heap.size wr _› hb.size)
            go_wp2
            go_ret2
            exact ⟨by rw [HU.out, HN.out]; rfl, hbb⟩
        by_cases hy : dg s[k + 1] false < 0
        · have hN : unhexL (s.data.toList.drop k) = none := by rw [drop_two s k hlt2, unhexL, if_pos (.inr hy)]
          have HN := Lib.hid hN
          clear hN
          go_wp2_with (fail)
          go_region_held3 (fun w' => Below wr.heap.size wr w') (first | exact hS0 | assumption | exact Below.trans ‹Below wr.heap.size wr _› (Below.mono ‹_› (Below.size ‹Below wr.heap.size wr _›))) ((first | (go_at_call 31; refine (place_lowS _ _).mono ?_; rintro e w' ⟨rfl, hbw⟩)))
          all_goals
            have hbb := hb.trans (Below.mono ‹Below wr.heap.size wr _› hb.size)
            go_wp2
            go_ret2
            exact ⟨by rw [HU.out, HN.out]; rfl, hbb⟩
        have hN : unhexL (s.data.toList.drop k) = (unhexL (s.data.toList.drop (k + 2))).map (UInt8.ofNat (16 * dg s[k] false + dg s[k + 1] false).toNat :: ·) := by
          rw [drop_two s k hlt2, unhexL, if_neg (by omega)]
        have HN := Lib.hid hN
        clear hN
        go_wp2_with (fail)
        go_region_held3 (fun w' => Below wr.heap.size wr w') (first | exact hS0 | assumption | exact Below.trans ‹Below wr.heap.size wr _› (Below.mono ‹_› (Below.size ‹Below wr.heap.size wr _›))) ((first | (go_at_call 31; refine (place_lowS _ _).mono ?_; rintro e w' ⟨rfl, hbw⟩)))
        all_goals
          have hbb := hb.trans (Below.mono ‹Below wr.heap.size wr _› hb.size)
          have hII := hI.below ‹Below wr.heap.size wr _›
          go_wp2_with (fail)
        all_goals
          refine (write_n w.heap.size acc _ (UInt8.ofNat (16 * dg s[k] false + dg s[k + 1] false).toNat) (or_byte (by omega) (by omega) (by omega) (by omega)) _ hII (by have := HA.out; omega)).mono ?_
          rintro e w3 ⟨rfl, h3, b3, _⟩
          have hb3 := hbb.trans b3
          go_wp2
          go_roundw
          case rel =>
            refine ⟨k + 2, _, by omega, ?_, by go_num, ?_, h3, hb3⟩
            · have := HA.out; simp; omega
            · rw [HU.out, HN.out]; simp [Function.comp_def]
          case measure => simp [intOf]; omega
      · clear hal
        go_wp2_with (go_at_call 33; refine (string_b w.heap.size _ _ hI).mono ?_)
        rintro e w1 ⟨rfl, h1⟩
        go_wp2
        go_ret2
        have e : s.data.toList.drop k = [] := List.drop_of_length_le (by simp; omega)
        refine ⟨?_, hb.trans h1⟩
        rw [HU.out, e]
        simp [unhexL, Two, strOf, errOf]
end Go.Proofs.YtlifnfchemiipaaDoor
