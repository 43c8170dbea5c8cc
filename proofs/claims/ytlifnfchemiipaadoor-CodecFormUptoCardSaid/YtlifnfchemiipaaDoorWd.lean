/- What the document's own word and swap answer: a name or a value as it stands in a form; one byte in the place of another one. Condition: at most 8388608 bytes. -/
import Derived.Test.YtlifnfchemiipaaDoorPl
import Derived.Test.YtlifnfchemiipaaDoorFb
import Derived.Test.YtlifnfchemiipaaDoorZ
set_option linter.unusedSimpArgs false
set_option linter.unusedVariables false
namespace Go.Proofs.YtlifnfchemiipaaDoor
open Go.RowKit

def swapL (f t : UInt8) (l : List UInt8) : List UInt8 := l.map fun x => if x = f then t else x

set_option maxHeartbeats 2000000 in
set_option maxRecDepth 100000 in
theorem swap_any (s : ByteArray) (f t : UInt8) (w : World) (hs : s.size ≤ 67108864) :
    Calls Tryd.prog 44 #[.string s, .int .u8 f.toNat, .int .u8 t.toNat] w fun e w' => e = .returned (.string ⟨(swapL f t s.data.toList).toArray⟩) ∧ Below w.heap.size w w' := by
  go_enter Tryd.func44, Tryd.ntmps44
  go_wp2
  go_loopw [7, 8] (fun v i wr => ∃ k : Nat, k ≤ s.size ∧ i = .int .i64 k ∧ Rw w.heap.size v (swapL f t (s.data.toList.take k)) wr ∧ Below w.heap.size w wr) (fun _ i _ => s.size - (intOf i).toNat)
  case atStart => exact ⟨0, by omega, rfl, Rw.start w, (Below.refl _ _).alloc (Nat.le_refl _) _⟩
  case round =>
    obtain ⟨k, hk, rfl, hI, hb⟩ := hrel
    by_cases hlt : k < s.size
    · have h8 := s[k].toNat_lt
      have hl3 : (swapL f t (s.data.toList.take k)).length ≤ 281474976710 := by simp [swapL]; omega
      by_cases hc : s[k] = f
      · have ht : ((s[k].toNat : Int) == (f.toNat : Int)) = true := by rw [hc]; simp
        have HS : Hid (swapL f t (s.data.toList.take (k + 1)) = swapL f t (s.data.toList.take k) ++ [t]) := by
          rw [take_snoc s k hlt]; exact Lib.hid (by simp [swapL, hc])
        clear hc
        go_wp2_with (at_builtin; refine app1 _ t rfl _ _ rfl rfl rfl rfl hI hb (Nat.le_refl _) hl3 ?_)
        intro v3 w3 h3 hb3
        rw [← HS.out] at h3
        go_wp2
        go_roundw
        case rel => exact ⟨k + 1, by omega, by go_num, h3, hb3⟩
        case measure => simp [intOf]; omega
      · have ht : ((s[k].toNat : Int) == (f.toNat : Int)) = false := by
          have : ¬ s[k].toNat = f.toNat := fun e => hc (UInt8.toNat_inj.1 e)
          simp; omega
        have HS : Hid (swapL f t (s.data.toList.take (k + 1)) = swapL f t (s.data.toList.take k) ++ [s[k]]) := by
          rw [take_snoc s k hlt]; exact Lib.hid (by simp [swapL, hc])
        clear hc
        go_wp2_with (at_builtin; refine app1 _ s[k] rfl _ _ rfl rfl rfl rfl hI hb (Nat.le_refl _) hl3 ?_)
        intro v3 w3 h3 hb3
        rw [← HS.out] at h3
        go_wp2
        go_roundw
        case rel => exact ⟨k + 1, by omega, by go_num, h3, hb3⟩
        case measure => simp [intOf]; omega
    · have hcv := hI.conv
      go_wp2
      go_ret
      refine ⟨?_, hb⟩
      rw [List.take_of_length_le (by simp; omega)]
      rfl

theorem extract_one (s : ByteArray) (k : Nat) (h : k < s.size) : (s.extract k (k + 1)).data.toList = [s[k]] := by
  rw [Lib.extract_data, show k + 1 - k = 1 by omega, List.drop_eq_getElem_cons (by simpa using h)]
  rfl
theorem wordL_snoc (l : List UInt8) (c : UInt8) : wordL (l ++ [c]) = wordL l ++ wordOne c := by simp [wordL]

set_option maxHeartbeats 2000000 in
set_option maxRecDepth 100000 in
theorem rword_any (s : ByteArray) (w : World) (hs : s.size ≤ 8388608) :
    Calls Tryd.prog 41 #[.string s] w fun e w' => e = .returned (.string ⟨(wordL s.data.toList).toArray⟩) ∧ Below w.heap.size w w' := by
  obtain ⟨i0, hi, hz0, hz1, hz2⟩ := info_parts infoByte
  go_enter Tryd.func41, Tryd.ntmps41
  go_wp2
  go_loopw [3, 4] (fun v i wr => ∃ k : Nat, k ≤ s.size ∧ i = .int .i64 k ∧ Rw w.heap.size v (wordL (s.data.toList.take k)) wr ∧ Below w.heap.size w wr) (fun _ i _ => s.size - (intOf i).toNat)
  case atStart => exact ⟨0, by omega, rfl, Rw.start w, (Below.refl _ _).alloc (Nat.le_refl _) _⟩
  case round =>
    obtain ⟨k, hk, rfl, hI, hb⟩ := hrel
    by_cases hlt : k < s.size
    · have h8 := s[k].toNat_lt
      have hwl := (wordL_len (s.data.toList.take k)).2
      have hl3 : (wordL (s.data.toList.take k)).length ≤ 281474976 := by simp at hwl; omega
      clear hwl
      by_cases hc : s[k] = 32
      · have ht : ((s[k].toNat : Int) == 32) = true := by rw [hc]; rfl
        have HS : Hid (wordL (s.data.toList.take (k + 1)) = wordL (s.data.toList.take k) ++ [43]) := by
          rw [take_snoc s k hlt, wordL_snoc, hc]; exact Lib.hid (by simp [wordOne])
        clear hc
        go_wp2_with (at_builtin; refine app1 _ 43 rfl _ _ rfl rfl rfl rfl hI hb (Nat.le_refl _) (by omega) ?_)
        intro v3 w3 h3 hb3
        rw [← HS.out] at h3
        go_wp2
        go_roundw
        case rel => exact ⟨k + 1, by omega, by go_num, h3, hb3⟩
        case measure => simp [intOf]; omega
      · have ht : ((s[k].toNat : Int) == 32) = false := by
          have : ¬ s[k].toNat = 32 := fun e => hc (UInt8.toNat_inj.1 e)
          simp; omega
        have HS : Hid (wordL (s.data.toList.take (k + 1)) = wordL (s.data.toList.take k) ++ pctOne s[k]) := by
          rw [take_snoc s k hlt, wordL_snoc]; exact Lib.hid (by simp [wordOne, hc])
        have HE := Lib.hid (extract_one s k hlt)
        have hs1 : (s.extract k (k + 1)).size ≤ 67108864 := by rw [ByteArray.size_extract]; omega
        clear hc
        go_wp2_with (fail)
        refine (rpercent_any _ _ hs1).mono ?_
        rintro e w3 ⟨he, b3⟩
        rw [HE.out, show pctL [s[k]] = pctOne s[k] by simp [pctL]] at he
        subst he
        have hI3 : w3.ownsRow w.heap.size 5 1 u3 _ _ := hI.below b3
        have hb3 := hb.trans (b3.mono hb.size)
        have hsz3 := hb3.size
        have hpo : (pctOne s[k]).length ≤ 3 := by unfold pctOne; split <;> simp
        have hz3 : (⟨(pctOne s[k]).toArray⟩ : ByteArray).size = (pctOne s[k]).length := size_of _
        have HZ := Lib.hid hz3
        clear hz3
        go_wp2_with (at_builtin; refine Lib.wpList_append_own_string _ rfl _ _ 41 9 rfl w.heap.size 5 i0 Tryd.underlying41 Tryd.underlying9 hi hz0 hz1 hz2 u3 _ _ rfl hI3 ⟨(pctOne s[k]).toArray⟩ rfl ?c3 ?c4 hsz3 ?_)
        case c3 => rw [HZ.out]; unfold maxLen; omega
        case c4 => rw [HZ.out]; omega
        intro v4 w4 h4 hg4 _
        have hR4 : Rw w.heap.size v4 (wordL (s.data.toList.take (k + 1))) w4 := by
          rw [HS.out]
          unfold Rw
          rw [Lib.byteCells_append, List.length_append]
          first | exact h4 | (have h5 := h4; rw [size_of] at h5; exact h5)
        have hb4 : Below w.heap.size w w4 := hb3.grown hg4 hsz3 (fun g hk => (World.ownsRow.lt hI3 g hk).1)
        clear h4 hg4 hI3
        go_wp2_with (fail)
        go_roundw
        case rel => exact ⟨k + 1, by omega, by go_num, hR4, hb4⟩
        case measure => simp [intOf]; omega
    · have hcv := hI.conv
      go_wp2
      go_ret
      refine ⟨?_, hb⟩
      rw [List.take_of_length_le (by simp; omega)]
      rfl
end Go.Proofs.YtlifnfchemiipaaDoor
