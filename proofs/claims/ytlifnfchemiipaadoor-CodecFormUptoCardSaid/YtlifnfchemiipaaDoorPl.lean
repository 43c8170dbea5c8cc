/- What the document's own plain, Percent and FromPercent answer: whether a byte is itself; the text with percent signs; and without them, or the error 12. Condition: at most 67108864 bytes. -/
import Derived.Test.YtlifnfchemiipaaDoorM
import Derived.Test.YtlifnfchemiipaaDoorSa
set_option linter.unusedSimpArgs false
set_option linter.unusedVariables false
namespace Go.Proofs.YtlifnfchemiipaaDoor
open Go.RowKit

theorem plain_classes (c : UInt8) : plainB c = true → al0 c ∨ c.toNat = 46 ∨ c.toNat = 126 := all_u8 (p := fun c => plainB c = true → al0 c ∨ c.toNat = 46 ∨ c.toNat = 126) (by decide +kernel) c
theorem other_classes (c : UInt8) : ¬ plainB c = true → (0 ≤ c.toNat ∧ c.toNat ≤ 44) ∨ (47 ≤ c.toNat ∧ c.toNat ≤ 47) ∨ (58 ≤ c.toNat ∧ c.toNat ≤ 64) ∨ (91 ≤ c.toNat ∧ c.toNat ≤ 94) ∨ (96 ≤ c.toNat ∧ c.toNat ≤ 96) ∨ (123 ≤ c.toNat ∧ c.toNat ≤ 125) ∨ (127 ≤ c.toNat ∧ c.toNat ≤ 255) :=
  all_u8 (p := fun c => ¬ plainB c = true → (0 ≤ c.toNat ∧ c.toNat ≤ 44) ∨ (47 ≤ c.toNat ∧ c.toNat ≤ 47) ∨ (58 ≤ c.toNat ∧ c.toNat ≤ 64) ∨ (91 ≤ c.toNat ∧ c.toNat ≤ 94) ∨ (96 ≤ c.toNat ∧ c.toNat ≤ 96) ∨ (123 ≤ c.toNat ∧ c.toNat ≤ 125) ∨ (127 ≤ c.toNat ∧ c.toNat ≤ 255)) (by decide +kernel) c

set_option maxHeartbeats 2000000 in
set_option maxRecDepth 100000 in
theorem plain_yes (c : UInt8) (w : World) (h : plainB c = true) : Calls Tryd.prog 37 #[.int .u8 c.toNat] w fun e w' => e = .returned (.bool true) ∧ w = w' := by
  have h8 := c.toNat_lt
  rcases plain_classes c h with (h1 | h1 | h1 | h1 | h1) | h1 | h1
  · have h2 : 65 ≤ (c.toNat : Int) := by omega
    have h3 : (c.toNat : Int) ≤ 90 := by omega
    clear h1
    go_enter Tryd.func37, Tryd.ntmps37
    go_wp2
    go_ret
    exact ⟨rfl, rfl⟩
  · have h2 : 97 ≤ (c.toNat : Int) := by omega
    have h3 : (c.toNat : Int) ≤ 122 := by omega
    clear h1
    go_enter Tryd.func37, Tryd.ntmps37
    go_wp2
    go_ret
    exact ⟨rfl, rfl⟩
  · have h2 : 48 ≤ (c.toNat : Int) := by omega
    have h3 : (c.toNat : Int) ≤ 57 := by omega
    clear h1
    go_enter Tryd.func37, Tryd.ntmps37
    go_wp2
    go_ret
    exact ⟨rfl, rfl⟩
  · have h2 : (c.toNat : Int) = 45 := by omega
    clear h1
    go_enter Tryd.func37, Tryd.ntmps37
    go_wp2
    go_ret
    exact ⟨rfl, rfl⟩
  · have h2 : (c.toNat : Int) = 95 := by omega
    clear h1
    go_enter Tryd.func37, Tryd.ntmps37
    go_wp2
    go_ret
    exact ⟨rfl, rfl⟩
  · have h2 : (c.toNat : Int) = 46 := by omega
    clear h1
    go_enter Tryd.func37, Tryd.ntmps37
    go_wp2
    go_ret
    exact ⟨rfl, rfl⟩
  · have h2 : (c.toNat : Int) = 126 := by omega
    clear h1
    go_enter Tryd.func37, Tryd.ntmps37
    go_wp2
    go_ret
    exact ⟨rfl, rfl⟩
set_option maxHeartbeats 2000000 in
set_option maxRecDepth 100000 in
theorem plain_no (c : UInt8) (w : World) (h : ¬ plainB c = true) : Calls Tryd.prog 37 #[.int .u8 c.toNat] w fun e w' => e = .returned (.bool false) ∧ w = w' := by
  have h8 := c.toNat_lt
  rcases other_classes c h with h1 | h1 | h1 | h1 | h1 | h1 | h1
  · have h2 : 0 ≤ (c.toNat : Int) := by omega
    have h3 : (c.toNat : Int) ≤ 44 := by omega
    have q1 : ((c.toNat : Int) == 45) = false := by simp; omega
    have q2 : ((c.toNat : Int) == 46) = false := by simp; omega
    have q3 : ((c.toNat : Int) == 95) = false := by simp; omega
    have q4 : ((c.toNat : Int) == 126) = false := by simp; omega
    have d0a : decide (65 ≤ (c.toNat : Int)) = false := by simp; omega
    have d0b : decide ((c.toNat : Int) ≤ 90) = true := by simp; omega
    have d1a : decide (97 ≤ (c.toNat : Int)) = false := by simp; omega
    have d1b : decide ((c.toNat : Int) ≤ 122) = true := by simp; omega
    have d2a : decide (48 ≤ (c.toNat : Int)) = false := by simp; omega
    have d2b : decide ((c.toNat : Int) ≤ 57) = true := by simp; omega
    clear h1
    go_enter Tryd.func37, Tryd.ntmps37
    go_wp2
    go_ret
    exact ⟨rfl, rfl⟩
  · have h2 : 47 ≤ (c.toNat : Int) := by omega
    have h3 : (c.toNat : Int) ≤ 47 := by omega
    have q1 : ((c.toNat : Int) == 45) = false := by simp; omega
    have q2 : ((c.toNat : Int) == 46) = false := by simp; omega
    have q3 : ((c.toNat : Int) == 95) = false := by simp; omega
    have q4 : ((c.toNat : Int) == 126) = false := by simp; omega
    have d0a : decide (65 ≤ (c.toNat : Int)) = false := by simp; omega
    have d0b : decide ((c.toNat : Int) ≤ 90) = true := by simp; omega
    have d1a : decide (97 ≤ (c.toNat : Int)) = false := by simp; omega
    have d1b : decide ((c.toNat : Int) ≤ 122) = true := by simp; omega
    have d2a : decide (48 ≤ (c.toNat : Int)) = false := by simp; omega
    have d2b : decide ((c.toNat : Int) ≤ 57) = true := by simp; omega
    clear h1
    go_enter Tryd.func37, Tryd.ntmps37
    go_wp2
    go_ret
    exact ⟨rfl, rfl⟩
  · have h2 : 58 ≤ (c.toNat : Int) := by omega
    have h3 : (c.toNat : Int) ≤ 64 := by omega
    have q1 : ((c.toNat : Int) == 45) = false := by simp; omega
    have q2 : ((c.toNat : Int) == 46) = false := by simp; omega
    have q3 : ((c.toNat : Int) == 95) = false := by simp; omega
    have q4 : ((c.toNat : Int) == 126) = false := by simp; omega
    have d0a : decide (65 ≤ (c.toNat : Int)) = false := by simp; omega
    have d0b : decide ((c.toNat : Int) ≤ 90) = true := by simp; omega
    have d1a : decide (97 ≤ (c.toNat : Int)) = false := by simp; omega
    have d1b : decide ((c.toNat : Int) ≤ 122) = true := by simp; omega
    have d2a : decide (48 ≤ (c.toNat : Int)) = true := by simp; omega
    have d2b : decide ((c.toNat : Int) ≤ 57) = false := by simp; omega
    clear h1
    go_enter Tryd.func37, Tryd.ntmps37
    go_wp2
    go_ret
    exact ⟨rfl, rfl⟩
  · have h2 : 91 ≤ (c.toNat : Int) := by omega
    have h3 : (c.toNat : Int) ≤ 94 := by omega
    have q1 : ((c.toNat : Int) == 45) = false := by simp; omega
    have q2 : ((c.toNat : Int) == 46) = false := by simp; omega
    have q3 : ((c.toNat : Int) == 95) = false := by simp; omega
    have q4 : ((c.toNat : Int) == 126) = false := by simp; omega
    have d0a : decide (65 ≤ (c.toNat : Int)) = true := by simp; omega
    have d0b : decide ((c.toNat : Int) ≤ 90) = false := by simp; omega
    have d1a : decide (97 ≤ (c.toNat : Int)) = false := by simp; omega
    have d1b : decide ((c.toNat : Int) ≤ 122) = true := by simp; omega
    have d2a : decide (48 ≤ (c.toNat : Int)) = true := by simp; omega
    have d2b : decide ((c.toNat : Int) ≤ 57) = false := by simp; omega
    clear h1
    go_enter Tryd.func37, Tryd.ntmps37
    go_wp2
    go_ret
    exact ⟨rfl, rfl⟩
  · have h2 : 96 ≤ (c.toNat : Int) := by omega
    have h3 : (c.toNat : Int) ≤ 96 := by omega
    have q1 : ((c.toNat : Int) == 45) = false := by simp; omega
    have q2 : ((c.toNat : Int) == 46) = false := by simp; omega
    have q3 : ((c.toNat : Int) == 95) = false := by simp; omega
    have q4 : ((c.toNat : Int) == 126) = false := by simp; omega
    have d0a : decide (65 ≤ (c.toNat : Int)) = true := by simp; omega
    have d0b : decide ((c.toNat : Int) ≤ 90) = false := by simp; omega
    have d1a : decide (97 ≤ (c.toNat : Int)) = false := by simp; omega
    have d1b : decide ((c.toNat : Int) ≤ 122) = true := by simp; omega
    have d2a : decide (48 ≤ (c.toNat : Int)) = true := by simp; omega
    have d2b : decide ((c.toNat : Int) ≤ 57) = false := by simp; omega
    clear h1
    go_enter Tryd.func37, Tryd.ntmps37
    go_wp2
    go_ret
    exact ⟨rfl, rfl⟩
  · have h2 : 123 ≤ (c.toNat : Int) := by omega
    have h3 : (c.toNat : Int) ≤ 125 := by omega
    have q1 : ((c.toNat : Int) == 45) = false := by simp; omega
    have q2 : ((c.toNat : Int) == 46) = false := by simp; omega
    have q3 : ((c.toNat : Int) == 95) = false := by simp; omega
    have q4 : ((c.toNat : Int) == 126) = false := by simp; omega
    have d0a : decide (65 ≤ (c.toNat : Int)) = true := by simp; omega
    have d0b : decide ((c.toNat : Int) ≤ 90) = false := by simp; omega
    have d1a : decide (97 ≤ (c.toNat : Int)) = true := by simp; omega
    have d1b : decide ((c.toNat : Int) ≤ 122) = false := by simp; omega
    have d2a : decide (48 ≤ (c.toNat : Int)) = true := by simp; omega
    have d2b : decide ((c.toNat : Int) ≤ 57) = false := by simp; omega
    clear h1
    go_enter Tryd.func37, Tryd.ntmps37
    go_wp2
    go_ret
    exact ⟨rfl, rfl⟩
  · have h2 : 127 ≤ (c.toNat : Int) := by omega
    have h3 : (c.toNat : Int) ≤ 255 := by omega
    have q1 : ((c.toNat : Int) == 45) = false := by simp; omega
    have q2 : ((c.toNat : Int) == 46) = false := by simp; omega
    have q3 : ((c.toNat : Int) == 95) = false := by simp; omega
    have q4 : ((c.toNat : Int) == 126) = false := by simp; omega
    have d0a : decide (65 ≤ (c.toNat : Int)) = true := by simp; omega
    have d0b : decide ((c.toNat : Int) ≤ 90) = false := by simp; omega
    have d1a : decide (97 ≤ (c.toNat : Int)) = true := by simp; omega
    have d1b : decide ((c.toNat : Int) ≤ 122) = false := by simp; omega
    have d2a : decide (48 ≤ (c.toNat : Int)) = true := by simp; omega
    have d2b : decide ((c.toNat : Int) ≤ 57) = false := by simp; omega
    clear h1
    go_enter Tryd.func37, Tryd.ntmps37
    go_wp2
    go_ret
    exact ⟨rfl, rfl⟩

theorem Rw.snoc3 {B : Nat} {v : Value} {l : List UInt8} {w : World} {c d e : UInt8} (h : w.ownsRow B 5 1 v (l.length + 3) (Lib.byteCells l ++ [.int .u8 c.toNat, .int .u8 d.toNat, .int .u8 e.toNat])) : Rw B v (l ++ [c, d, e]) w := by
  have q : Lib.byteCells (l ++ [c, d, e]) = Lib.byteCells l ++ [.int .u8 c.toNat, .int .u8 d.toNat, .int .u8 e.toNat] := by
    rw [Lib.byteCells_append]; rfl
  unfold Rw
  rw [q]
  simpa using h

set_option maxHeartbeats 2000000 in
set_option maxRecDepth 100000 in
theorem rpercent_any (s : ByteArray) (w : World) (hs : s.size ≤ 67108864) :
    Calls Tryd.prog 23 #[.string s] w fun e w' => e = .returned (.string ⟨(pctL s.data.toList).toArray⟩) ∧ Below w.heap.size w w' := by
  obtain ⟨i0, hi, hz0, hz1, hz2⟩ := info_parts infoByte
  go_enter Tryd.func23, Tryd.ntmps23
  go_wp2
  go_loopw [3, 4] (fun v i wr => ∃ k : Nat, k ≤ s.size ∧ i = .int .i64 k ∧ Rw w.heap.size v (pctL (s.data.toList.take k)) wr ∧ Below w.heap.size w wr) (fun _ i _ => s.size - (intOf i).toNat)
  case atStart => exact ⟨0, by omega, rfl, Rw.start w, (Below.refl _ _).alloc (Nat.le_refl _) _⟩
  case round =>
    obtain ⟨k, hk, rfl, hI, hb⟩ := hrel
    have hsz := hb.size
    by_cases hlt : k < s.size
    · have h8 := s[k].toNat_lt
      have hl := pctL_length (s.data.toList.take k)
      have hl2 : (pctL (s.data.toList.take k)).length ≤ 281474976 := by simp at hl; omega
      by_cases hp : plainB s[k] = true
      · have HO : Hid (pctOne s[k] = [s[k]]) := by rw [pctOne, if_pos hp]; rfl
        have HP := Lib.hid hp
        clear hp hl
        go_wp2_with (first | (go_at_call 37; refine (plain_yes _ _ HP.out).mono ?_; rintro e w' ⟨rfl, rfl⟩) | (at_builtin; refine app1 _ s[k] rfl _ _ rfl rfl rfl rfl hI hb (Nat.le_refl _) (by omega) ?_))
        intro v3 w3 h3 hb3
        rw [← HO.out, ← pctL_snoc, ← take_snoc s k hlt] at h3
        go_wp2
        go_roundw
        case rel => exact ⟨k + 1, by omega, by go_num, h3, hb3⟩
        case measure => simp [intOf]; omega
      · have HO : Hid (pctOne s[k] = [37, highD.getD (s[k].toNat / 16) 0, highD.getD (s[k].toNat % 16) 0]) := by rw [pctOne, if_neg hp]; rfl
        have HP := Lib.hid hp
        have hn1 : (pctL (s.data.toList.take k)).length + 3 ≤ maxLen := by unfold maxLen; omega
        have hn2 : ((pctL (s.data.toList.take k)).length + 3) * 1 ≤ 140737488355328 := by omega
        have hb1 : (s[k].toNat : Int) / 16 < 16 := by omega
        have hb0 : 0 ≤ (s[k].toNat : Int) / 16 := by omega
        have hb3 : (s[k].toNat : Int) % 16 < 16 := by omega
        have hb2 : 0 ≤ (s[k].toNat : Int) % 16 := by omega
        have t1 : ((s[k].toNat : Int) / 16).toNat = s[k].toNat / 16 := by omega
        have t2 : ((s[k].toNat : Int) % 16).toNat = s[k].toNat % 16 := by omega
        have e1 : IntKind.u8.wrap ((s[k].toNat : Int) / 16) = (s[k].toNat : Int) / 16 := IntWalk.u8_in _ (by omega)
        have e2 : (s[k].toNat : Int).tmod 16 = (s[k].toNat : Int) % 16 := IntWalk.rem_in _ _ (by omega)
        have hown : wr.ownsRow w.heap.size 5 1 u3 _ _ := hI
        clear hp hl
        go_wp2_with (first | (go_at_call 37; refine (plain_no _ _ HP.out).mono ?_; rintro e w' ⟨rfl, rfl⟩))
        go_region_held3 (fun _ => True) (trivial) ((refine step_append_lies _ (by rfl) _ _ _ (by rfl) w.heap.size 5 i0 _ 1 1 Tryd.underlying41 hi hz0 hz1 hz2 rfl (by omega) _ _ _ (by rfl) ((hown.alloc _).drew) ⟨wr.heap.size, 0, none⟩ 3 3 _ (by rfl) (by rfl) (World.news_of_block (heap_alloc_new wr _)) (by simp [Value.oneCell']) (by omega) hn1 hn2 (by simp; omega) (wr.heap.size + 1) (by simp) ?_; intro gg cap w1 hown1 hgrow hat hlt))
        all_goals
          have h1 := Rw.snoc3 (c := 37) hown1
          rw [high_at _ (by omega), high_at _ (by omega), ← HO.out, ← pctL_snoc, ← take_snoc s k (by assumption)] at h1
          have hb' := ((hb.alloc (by omega) _).drew).grown hgrow (by simp; omega) (fun g hg => (World.ownsRow.lt hown g hg).1)
          clear hown1 hgrow hown
          go_wp2
          go_roundw
          case rel => exact ⟨k + 1, by omega, by go_num, h1, hb'⟩
          case measure => simp [intOf]; omega
    · have hcv := hI.conv
      go_wp2
      go_ret
      refine ⟨?_, hb⟩
      rw [List.take_of_length_le (by simp; omega)]
      rfl

set_option maxHeartbeats 2000000 in
set_option maxRecDepth 100000 in
theorem rfromPercent_any (s : ByteArray) (w : World) (hs : s.size ≤ 67108864) :
    Calls Tryd.prog 21 #[.string s] w fun e w' => e = Two (unpctL s.data.toList) 12 ∧ Below w.heap.size w w' := by
  go_enter Tryd.func21, Tryd.ntmps21
  go_wp2
  go_loopw [4, 5] (fun v i wr => ∃ (k : Nat) (acc : List UInt8), k ≤ s.size ∧ acc.length ≤ k ∧ i = .int .i64 k ∧ unpctL s.data.toList = (unpctL (s.data.toList.drop k)).map (acc ++ ·) ∧ Rw w.heap.size v acc wr ∧ Below w.heap.size w wr) (fun _ i _ => s.size - (intOf i).toNat)
  case atStart => exact ⟨0, [], by omega, by simp, rfl, by simp, Rw.start w, (Below.refl _ _).alloc (Nat.le_refl _) _⟩
  case round =>
    obtain ⟨k, acc, hk, hal, rfl, hU, hI, hb⟩ := hrel
    have HU := Lib.hid hU
    have hl3 : acc.length ≤ 281474976710 := by omega
    clear hU
    by_cases hlt : k < s.size
    · have h8 := s[k].toNat_lt
      by_cases hc : s[k] = 37
      · have ht : ((s[k].toNat : Int) != 37) = false := by rw [hc]; rfl
        have HC := Lib.hid hc
        clear hc
        by_cases hsh : s.size < k + 3
        · have HN : Hid (unpctL (s.data.toList.drop k) = none) := by rw [drop_one s k hlt, HC.out, unpctL_short _ (by simp; omega)]; rfl
          go_wp2_with (fail)
          go_ret2
          exact ⟨by rw [HU.out, HN.out]; rfl, hb⟩
        have hlt2 : k + 2 < s.size := by omega
        have hi1 : (k : Int) + 1 < (s.size : Int) := by omega
        have hw1 : IntKind.i64.wrap ((k : Int) + 1) = (k : Int) + 1 := IntWalk.i64_in _ (by omega)
        have ht1 : ((k : Int) + 1).toNat = k + 1 := by omega
        have hp1 : (0 : Int) ≤ (k : Int) + 1 := by omega
        have hi2 : (k : Int) + 2 < (s.size : Int) := by omega
        have hw2 : IntKind.i64.wrap ((k : Int) + 2) = (k : Int) + 2 := IntWalk.i64_in _ (by omega)
        have ht2 : ((k : Int) + 2).toNat = k + 2 := by omega
        have hp2 : (0 : Int) ≤ (k : Int) + 2 := by omega
        have bx := dg_bd s[k + 1] true
        have bt := dg_bd s[k + 2] true
        by_cases hx : dg s[k + 1] true < 0
        · have HN : Hid (unpctL (s.data.toList.drop k) = none) := by rw [drop_three s k hlt2, HC.out, unpctL_bad _ _ _ (.inl hx)]; rfl
          go_wp2_with (fail)
          go_quiet ((go_at_call 34; first | exact quiet_left (digit_any _ _ _) | exact quiet_add_left (digit_any _ _ _)))
          go_wp2
          go_ret2
          exact ⟨by rw [HU.out, HN.out]; rfl, below_drewN hb _⟩
        by_cases hy : dg s[k + 2] true < 0
        · have HN : Hid (unpctL (s.data.toList.drop k) = none) := by rw [drop_three s k hlt2, HC.out, unpctL_bad _ _ _ (.inr hy)]; rfl
          go_wp2_with (fail)
          go_quiet ((go_at_call 34; first | exact quiet_left (digit_any _ _ _) | exact quiet_add_left (digit_any _ _ _)))
          go_wp2
          go_ret2
          exact ⟨by rw [HU.out, HN.out]; rfl, below_drewN hb _⟩
        have HN : Hid (unpctL (s.data.toList.drop k) = (unpctL (s.data.toList.drop (k + 3))).map (UInt8.ofNat (16 * dg s[k + 1] true + dg s[k + 2] true).toNat :: ·)) := by
          rw [drop_three s k hlt2, HC.out, unpctL_good _ _ _ (by omega)]; rfl
        have hb0 : 0 ≤ 16 * dg s[k + 1] true + dg s[k + 2] true := by omega
        have hb1 : 16 * dg s[k + 1] true + dg s[k + 2] true ≤ 255 := by omega
        have HB := Lib.hid (byte_of hb0 hb1)
        go_wp2_with (fail)
        go_quiet ((go_at_call 34; first | exact quiet_left (digit_any _ _ _) | exact quiet_add_left (digit_any _ _ _)))
        rename_i nq
        have hI2 := hI.drewN nq
        have hb2 := below_drewN hb nq
        clear hI hb
        generalize wr.drewN nq = w2 at hI2 hb2 ⊢
        go_wp2_with (at_builtin; refine app1 (16 * dg s[k + 1] true + dg s[k + 2] true) (UInt8.ofNat (16 * dg s[k + 1] true + dg s[k + 2] true).toNat) HB.out _ _ rfl rfl rfl rfl hI2 hb2 (Nat.le_refl _) hl3 ?_)
        intro v3 w3 h3 hb3
        go_wp2
        go_roundw
        case rel =>
          refine ⟨k + 3, _, by omega, ?_, by go_num, ?_, h3, hb3⟩
          · simp; omega
          · rw [HU.out, HN.out]; simp [Function.comp_def]
        case measure => simp [intOf]; omega
      · have ht : ((s[k].toNat : Int) != 37) = true := by
          have : ¬ s[k].toNat = 37 := fun e => hc (UInt8.toNat_inj.1 e)
          simp; omega
        have HN : Hid (unpctL (s.data.toList.drop k) = (unpctL (s.data.toList.drop (k + 1))).map (s[k] :: ·)) := by
          rw [drop_one s k hlt, unpctL_self _ _ hc]; rfl
        clear hc
        go_wp2_with (at_builtin; refine app1 _ s[k] rfl _ _ rfl rfl rfl rfl hI hb (Nat.le_refl _) hl3 ?_)
        intro v3 w3 h3 hb3
        go_wp2
        go_roundw
        case rel =>
          refine ⟨k + 1, _, by omega, ?_, by go_num, ?_, h3, hb3⟩
          · simp; omega
          · rw [HU.out, HN.out]; simp [Function.comp_def]
        case measure => simp [intOf]; omega
    · have hcv := hI.conv
      go_wp2
      go_ret2
      have e : s.data.toList.drop k = [] := List.drop_of_length_le (by simp; omega)
      refine ⟨?_, hb⟩
      rw [HU.out, e]
      simp [unpctL, Two, strOf, errOf]
end Go.Proofs.YtlifnfchemiipaaDoor
