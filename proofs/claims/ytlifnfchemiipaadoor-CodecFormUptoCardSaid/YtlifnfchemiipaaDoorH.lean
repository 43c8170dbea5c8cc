/- What codec.FromBase64 answers: the bytes that reckoning character by character gives, or the error 11. Condition: at most 2097152 bytes. -/
import Derived.Test.YtlifnfchemiipaaDoorG
namespace Go.Proofs.YtlifnfchemiipaaDoor
open Go.RowKit

/-- a character's number, or -1 -/
def pl (c : UInt8) : Int := placeL sixD c
theorem pl_bd (c : UInt8) : -1 ≤ pl c ∧ pl c ≤ 63 := all_u8 (p := fun c => -1 ≤ pl c ∧ pl c ≤ 63) (by decide +kernel) c
theorem place_six (c : UInt8) (w : World) : Calls Tryd.prog 31 #[.string { data := #[65, 66, 67, 68, 69, 70, 71, 72, 73, 74, 75, 76, 77, 78, 79, 80, 81, 82, 83, 84, 85, 86, 87, 88, 89, 90, 97, 98, 99, 100, 101, 102, 103, 104, 105, 106, 107, 108, 109, 110, 111, 112, 113, 114, 115, 116, 117, 118, 119, 120, 121, 122, 48, 49, 50, 51, 52, 53, 54, 55, 56, 57, 45, 95] }, .int .u8 c.toNat] w fun e w' => e = .returned (.int .i64 (pl c)) ∧ Below w.heap.size w w' :=
  place_any _ c w (by decide) (by decide)

/-- the bytes of l's characters, behind 'bits' bits that are left, of the value 'rest' -/
def dec (rest bits : Nat) : List UInt8 → Option (List UInt8)
  | [] => if bits = 6 ∨ rest ≠ 0 then none else some []
  | c :: r => if pl c < 0 then none
    else if 2 ≤ bits then (dec ((rest * 64 + (pl c).toNat) % 2 ^ (bits - 2)) (bits - 2) r).map (UInt8.ofNat ((rest * 64 + (pl c).toNat) / 2 ^ (bits - 2)) :: ·)
    else dec (rest * 64 + (pl c).toNat) (bits + 6) r
def unb64L (l : List UInt8) : Option (List UInt8) := dec 0 0 l

theorem or_64 (a : Nat) (p : Int) (ha : a < 1048576) (h0 : 0 ≤ p) (h1 : p ≤ 63) : bits BinOp.or IntKind.i64 ((a : Int) * 64) p = (a : Int) * 64 + p := by
  obtain ⟨b, rfl⟩ := Int.eq_ofNat_of_zero_le h0
  exact or_add 6 a b ha (by omega) (by omega)

set_option maxHeartbeats 2000000 in
set_option maxRecDepth 100000 in
theorem fromBase64_any (s : ByteArray) (w : World) (hs : s.size ≤ 2097152) :
    Calls Tryd.prog 16 #[.string s] w fun e w' => e = Two (unb64L s.data.toList) 11 ∧ Below w.heap.size w w' := by
  go_enter Tryd.func16, Tryd.ntmps16
  go_wp2
  go_loopw [5, 6, 11] (fun x y i wr => ∃ (k r b : Nat) (acc : List UInt8), k ≤ s.size ∧ (b = 0 ∧ r < 1 ∨ b = 6 ∧ r < 64 ∨ b = 4 ∧ r < 16 ∨ b = 2 ∧ r < 4) ∧ acc.length ≤ k ∧ x = .int .i64 r ∧ y = .int .i64 b ∧ i = .int .i64 k ∧ unb64L s.data.toList = (dec r b (s.data.toList.drop k)).map (acc ++ ·) ∧ Bd w.heap.size acc wr ∧ Below w.heap.size w wr) (fun _ _ i _ => s.size - (intOf i).toNat)
  case atStart => exact ⟨0, 0, 0, [], by omega, .inl ⟨rfl, by omega⟩, by simp, rfl, rfl, rfl, by simp [unb64L], Bd.start w, (Below.refl _ _).alloc (Nat.le_refl _) _⟩
  case round =>
    obtain ⟨k, r, b, acc, hk, hrb, hal, rfl, rfl, rfl, hU, hI, hb⟩ := hrel
    have HU := Lib.hid hU
    clear hU
    by_cases hlt : k < s.size
    · have bp := pl_bd s[k]
      by_cases hn : pl s[k] < 0
      · have HS : Hid (dec r b (s.data.toList.drop k) = none) := by rw [drop_one s k hlt, dec, if_pos hn]; rfl
        clear hrb
        go_wp2_with (go_at_call 31; refine (place_six _ _).mono ?_; rintro e w1 ⟨rfl, b1⟩)
        go_ret2
        exact ⟨by rw [HU.out, HS.out]; rfl, hb.trans (b1.mono hb.size)⟩
      · have hor := or_64 r (pl s[k]) (by omega) (by omega) (by omega)
        have hp : ((pl s[k]).toNat : Int) = pl s[k] := by omega
        have HP := Lib.hid hp
        clear hp
        rcases hrb with ⟨rfl, hr⟩ | ⟨rfl, hr⟩ | ⟨rfl, hr⟩ | ⟨rfl, hr⟩
        · have HS : Hid (dec r 0 (s.data.toList.drop k) = dec (r * 64 + (pl s[k]).toNat) 6 (s.data.toList.drop (k + 1))) := by rw [drop_one s k hlt, dec, if_neg hn]; rfl
          go_wp2_with (go_at_call 31; refine (place_six _ _).mono ?_; rintro e w1 ⟨rfl, b1⟩)
          go_roundw
          case rel => exact ⟨k + 1, r * 64 + (pl s[k]).toNat, 6, acc, by omega, by omega, by omega, by rw [← HP.out]; go_num, by go_num, by go_num, by rw [HU.out, HS.out], hI.below b1, hb.trans (b1.mono hb.size)⟩
          case measure => simp [intOf]; omega
        · have HS : Hid (dec r 6 (s.data.toList.drop k) = (dec ((r * 64 + (pl s[k]).toNat) % 16) 4 (s.data.toList.drop (k + 1))).map (UInt8.ofNat ((r * 64 + (pl s[k]).toNat) / 16) :: ·)) := by rw [drop_one s k hlt, dec, if_neg hn]; rfl
          have ham : bits BinOp.and IntKind.i64 ((r : Int) * 64 + pl s[k]) 15 = ((r : Int) * 64 + pl s[k]) % 16 := and_int 4 _ _ (by omega) rfl (by omega) (by omega)
          have hq : ((r : Int) * 64 + pl s[k]) / 16 = ((UInt8.ofNat ((r * 64 + (pl s[k]).toNat) / 16)).toNat : Int) := by
            have := HP.out
            simp; omega
          have HQ := Lib.hid hq
          clear hq
          go_wp2_with (first | (go_at_call 31; refine (place_six _ _).mono ?_; rintro e w1 ⟨rfl, b1⟩) | fail)
          have hb1 := hb.trans (b1.mono hb.size)
          refine (write_n w.heap.size acc _ (UInt8.ofNat ((r * 64 + (pl s[k]).toNat) / 16)) HQ.out _ (hI.below b1) (by omega)).mono ?_
          rintro e w2 ⟨rfl, h2, b2, _⟩
          have hb2 := hb1.trans b2
          go_wp2_with (fail)
          go_roundw
          case rel => exact ⟨k + 1, ((r * 64 + (pl s[k]).toNat) % 16), 4, _, by omega, by omega, by simp; omega, by first | rfl | (rw [← HP.out]; go_num), by go_num, by go_num, by rw [HU.out, HS.out]; simp [Function.comp_def], h2, hb2⟩
          case measure => simp [intOf]; omega
        · have HS : Hid (dec r 4 (s.data.toList.drop k) = (dec ((r * 64 + (pl s[k]).toNat) % 4) 2 (s.data.toList.drop (k + 1))).map (UInt8.ofNat ((r * 64 + (pl s[k]).toNat) / 4) :: ·)) := by rw [drop_one s k hlt, dec, if_neg hn]; rfl
          have ham : bits BinOp.and IntKind.i64 ((r : Int) * 64 + pl s[k]) 3 = ((r : Int) * 64 + pl s[k]) % 4 := and_int 2 _ _ (by omega) rfl (by omega) (by omega)
          have hq : ((r : Int) * 64 + pl s[k]) / 4 = ((UInt8.ofNat ((r * 64 + (pl s[k]).toNat) / 4)).toNat : Int) := by
            have := HP.out
            simp; omega
          have HQ := Lib.hid hq
          clear hq
          go_wp2_with (first | (go_at_call 31; refine (place_six _ _).mono ?_; rintro e w1 ⟨rfl, b1⟩) | fail)
          have hb1 := hb.trans (b1.mono hb.size)
          refine (write_n w.heap.size acc _ (UInt8.ofNat ((r * 64 + (pl s[k]).toNat) / 4)) HQ.out _ (hI.below b1) (by omega)).mono ?_
          rintro e w2 ⟨rfl, h2, b2, _⟩
          have hb2 := hb1.trans b2
          go_wp2_with (fail)
          go_roundw
          case rel => exact ⟨k + 1, ((r * 64 + (pl s[k]).toNat) % 4), 2, _, by omega, by omega, by simp; omega, by first | rfl | (rw [← HP.out]; go_num), by go_num, by go_num, by rw [HU.out, HS.out]; simp [Function.comp_def], h2, hb2⟩
          case measure => simp [intOf]; omega
        · have HS : Hid (dec r 2 (s.data.toList.drop k) = (dec 0 0 (s.data.toList.drop (k + 1))).map (UInt8.ofNat (r * 64 + (pl s[k]).toNat) :: ·)) := by
            rw [drop_one s k hlt, dec, if_neg hn]
            show (dec (_ % 1) 0 _).map (UInt8.ofNat (_ / 1) :: ·) = _
            rw [Nat.mod_one, Nat.div_one]
          have ham : bits BinOp.and IntKind.i64 ((r : Int) * 64 + pl s[k]) 0 = 0 := by
            have := and_int 0 ((r : Int) * 64 + pl s[k]) 0 (by omega) rfl (by omega) (by omega)
            rw [this]; omega
          have hq : ((r : Int) * 64 + pl s[k]) = ((UInt8.ofNat (r * 64 + (pl s[k]).toNat)).toNat : Int) := by
            have := HP.out
            simp; omega
          have HQ := Lib.hid hq
          clear hq
          go_wp2_with (first | (go_at_call 31; refine (place_six _ _).mono ?_; rintro e w1 ⟨rfl, b1⟩) | fail)
          have hb1 := hb.trans (b1.mono hb.size)
          refine (write_n w.heap.size acc _ (UInt8.ofNat (r * 64 + (pl s[k]).toNat)) HQ.out _ (hI.below b1) (by omega)).mono ?_
          rintro e w2 ⟨rfl, h2, b2, _⟩
          have hb2 := hb1.trans b2
          go_wp2_with (fail)
          go_roundw
          case rel => exact ⟨k + 1, 0, 0, _, by omega, by omega, by simp; omega, by first | rfl | (rw [← HP.out]; go_num), by go_num, by go_num, by rw [HU.out, HS.out]; simp [Function.comp_def], h2, hb2⟩
          case measure => simp [intOf]; omega
    · have e : s.data.toList.drop k = [] := List.drop_of_length_le (by simp; omega)
      have HE := Lib.hid e
      clear e
      have hbd := hb.size
      by_cases hbad : b = 6 ∨ r ≠ 0
      · have HS : Hid (dec r b [] = none) := by rw [dec, if_pos hbad]; rfl
        by_cases h6 : b = 6
        · subst h6
          clear hbad hrb
          go_wp2_with (fail)
          go_ret2
          exact ⟨by rw [HU.out, HE.out, HS.out]; rfl, hb⟩
        · have h1 : ((b : Int) == 6) = false := by simp; omega
          have h2 : ((r : Int) != 0) = true := by simp; omega
          clear hbad h6
          go_wp2_with (fail)
          go_ret2
          exact ⟨by rw [HU.out, HE.out, HS.out]; rfl, hb⟩
      · have HS : Hid (dec r b [] = some []) := by rw [dec, if_neg hbad]; rfl
        have h1 : ((b : Int) == 6) = false := by simp; omega
        have h2 : ((r : Int) != 0) = false := by simp; omega
        clear hbad
        go_wp2_with (go_at_call 33; refine (string_b w.heap.size _ _ hI).mono ?_)
        rintro e w1 ⟨rfl, h1⟩
        go_wp2
        go_ret2
        refine ⟨?_, hb.trans h1⟩
        rw [HU.out, HE.out, HS.out]
        simp [Two, strOf, errOf]
end Go.Proofs.YtlifnfchemiipaaDoor
