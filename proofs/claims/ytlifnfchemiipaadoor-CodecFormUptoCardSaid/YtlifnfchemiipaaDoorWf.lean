/- What the document's own Form answers: the form of the pairs, or the error 14. Conditions: at most 1048576 pairs of texts of at most so many bytes. -/
import Derived.Test.YtlifnfchemiipaaDoorWd
set_option linter.unusedSimpArgs false
set_option linter.unusedVariables false
namespace Go.Proofs.YtlifnfchemiipaaDoor
open Go.RowKit

theorem app_eq (a b : List UInt8) : (⟨a.toArray⟩ : ByteArray) ++ ⟨b.toArray⟩ = ⟨(a ++ b).toArray⟩ := by
  apply ByteArray.ext
  simp
theorem app_str (a b : List UInt8) : Value.string ((⟨a.toArray⟩ : ByteArray) ++ ⟨b.toArray⟩) = strV (a ++ b) := by rw [app_eq]; rfl
theorem piece_len2 (p : List UInt8 × List UInt8) (h1 : p.1.length ≤ 1048576) (h2 : p.2.length ≤ 1048576) : (wordL p.1 ++ 61 :: wordL p.2).length ≤ 6291457 := by
  have := (wordL_len p.1).2
  have := (wordL_len p.2).2
  simp; omega

theorem rword_list (x : List UInt8) (w : World) (h : x.length ≤ 1048576) : Calls Tryd.prog 41 #[.string ⟨x.toArray⟩] w fun e w' => e = .returned (.string ⟨(wordL x).toArray⟩) ∧ Below w.heap.size w w' :=
  rword_any ⟨x.toArray⟩ w (by rw [size_of]; omega)

set_option maxHeartbeats 4000000 in
set_option maxRecDepth 100000 in
theorem rform_any (v : Value) (l : Parts) (w : World) (hP : PartsIn w v l) (hn : l.length ≤ 1048576) (hsz : ∀ p, p ∈ l → p.1.length ≤ 1048576 ∧ p.2.length ≤ 1048576) :
    Calls Tryd.prog 25 #[v] w fun e w' => e = Two (formL l) 14 ∧ Below w.heap.size w w' := by
  obtain ⟨A, cap, rfl, hc⟩ := hP
  by_cases h64 : 64 < l.length
  · have HF : Hid (formL l = none) := by rw [formL, if_pos h64]; rfl
    have ht : (64 : Int) < (l.length : Int) := by omega
    go_enter Tryd.func25, Tryd.ntmps25
    go_wp2
    go_ret2
    exact ⟨by rw [HF.out]; rfl, Below.refl _ _⟩
  by_cases hl : l = []
  · subst hl
    go_enter Tryd.func25, Tryd.ntmps25
    go_wp2
    go_loopw [4, 5] (fun x i wr => x = .string ⟨#[]⟩ ∧ i = .int .i64 0 ∧ wr = w) (fun _ _ _ => 0)
    case atStart => exact ⟨rfl, rfl, rfl⟩
    case round =>
      obtain ⟨rfl, rfl, rfl⟩ := hrel
      go_wp2
      go_ret2
      exact ⟨rfl, Below.refl _ _⟩
  obtain ⟨b, off, rfl, hlt, hc⟩ := hc hl
  clear hl
  have ht : ¬ (64 : Int) < (l.length : Int) := by omega
  have hd : decide ((64 : Int) < (l.length : Int)) = false := by simp; omega
  go_enter Tryd.func25, Tryd.ntmps25
  go_wp2
  go_loopw [4, 5] (fun x i wr => ∃ k : Nat, k ≤ l.length ∧ i = .int .i64 k ∧ x = strV (formBody (l.take k)) ∧ (formBody (l.take k)).length ≤ k * 6291458 ∧ Below w.heap.size w wr) (fun _ i _ => l.length - (intOf i).toNat)
  case atStart => exact ⟨0, by omega, rfl, rfl, by simp [formBody], Below.refl _ _⟩
  case round =>
    obtain ⟨k, hk, rfl, rfl, hfl, hb⟩ := hrel
    have hbs := hb.size
    by_cases hlk : k < l.length
    · have hcc := hc.below hlt hb
      have hlt2 : b < wr.heap.size := by omega
      have hkeep : ∀ w1 w2 : World, (Below wr.heap.size wr w1 ∧ w1.cell? ⟨b, off + k * 2, none⟩ = some (strV l[k].1) ∧ w1.cell? ⟨b, off + k * 2 + 1, none⟩ = some (strV l[k].2)) → Below w1.heap.size w1 w2 →
          (Below wr.heap.size wr w2 ∧ w2.cell? ⟨b, off + k * 2, none⟩ = some (strV l[k].1) ∧ w2.cell? ⟨b, off + k * 2 + 1, none⟩ = some (strV l[k].2)) := by
        intro w1 w2 ⟨h1, h2, h3⟩ h4
        refine ⟨h1.trans (h4.mono h1.size), ?_, ?_⟩
        · rw [h4.cell (p := ⟨b, off + k * 2, none⟩) (Nat.lt_of_lt_of_le hlt2 h1.size)]; exact h2
        · rw [h4.cell (p := ⟨b, off + k * 2 + 1, none⟩) (Nat.lt_of_lt_of_le hlt2 h1.size)]; exact h3
      have HK := Lib.hid hkeep
      obtain ⟨c0, c1⟩ := hcc k hlk
      unfold strV at c0 c1
      have hS0 : Below wr.heap.size wr wr.drew ∧ wr.drew.cell? ⟨b, off + k * 2, none⟩ = some (.string ⟨l[k].1.toArray⟩) ∧ wr.drew.cell? ⟨b, off + k * 2 + 1, none⟩ = some (.string ⟨l[k].2.toArray⟩) := ⟨(Below.refl _ _).drew, c0, c1⟩
      have HS0 := Lib.hid hS0
      clear hcc hc hkeep hS0
      obtain ⟨hS1, hS2⟩ := hsz l[k] (List.getElem_mem hlk)
      have hw1 := (wordL_len l[k].1).2
      have hw2 := (wordL_len l[k].2).2
      have hT := take_succ l k hlk
      have HT := Lib.hid hT
      have hlen : (formBody (l.take (k + 1))).length ≤ (k + 1) * 6291458 := by
        have hp := piece_len2 l[k] (by omega) (by omega)
        rw [hT]
        by_cases hk0 : k = 0
        · subst hk0; rw [List.take_zero, List.nil_append, body_first]; omega
        · rw [body_snoc _ _ (by intro e; rw [List.take_eq_nil_iff] at e; rcases e with e | e; exact hk0 e; subst e; simp at hlk)]
          rw [List.length_append, List.length_cons]; omega
      have HLEN := Lib.hid hlen
      clear hT hlen
      have hki : (k : Int) < (l.length : Int) := by omega
      unfold strV
      have hfl2 : (formBody (l.take k)).length ≤ 4026533120 := by omega
      have n1 : ¬ (9223372036854775807 < (wordL l[k].1).length + 1) := by omega
      have n2 : ¬ (9223372036854775807 < (wordL l[k].1).length + 1 + (wordL l[k].2).length) := by omega
      have n3 : ¬ (9223372036854775807 < (formBody (l.take k)).length + 1 + ((wordL l[k].1).length + 1 + (wordL l[k].2).length)) := by omega
      have n4 : ¬ (9223372036854775807 < (formBody (l.take k)).length + ((wordL l[k].1).length + 1 + (wordL l[k].2).length)) := by omega
      by_cases hk0 : k = 0
      · have hkn : ¬ (0 : Int) < (k : Int) := by omega
        have hfin : Hid (Value.string ((⟨(formBody (l.take k)).toArray⟩ : ByteArray) ++ ((⟨(wordL l[k].1).toArray⟩ : ByteArray) ++ ⟨#[61]⟩ ++ ⟨(wordL l[k].2).toArray⟩)) = strV (formBody (l.take (k + 1)))) := by
          subst hk0
          have hT1 : l.take (0 + 1) = [l[0]] := by have := HT.out; simpa using this
          rw [hT1, body_first]
          have e : (⟨#[61]⟩ : ByteArray) = ⟨[61].toArray⟩ := rfl
          rw [e, app_eq, app_eq, app_eq]
          exact Lib.hid (by simp [strV, formBody])
        clear hk0
        go_wp2_with (fail)
        go_region_held3 (fun w' => Below wr.heap.size wr w' ∧ w'.cell? ⟨b, off + k * 2, none⟩ = some (.string ⟨l[k].1.toArray⟩) ∧ w'.cell? ⟨b, off + k * 2 + 1, none⟩ = some (.string ⟨l[k].2.toArray⟩)) (first | exact HS0.out | assumption | exact HK.out _ _ (by assumption) (by assumption)) ((first | (go_at_call 41; refine (rword_list _ _ (by assumption)).mono ?_; rintro e w' ⟨rfl, hbw⟩)))
        all_goals
          have hbb := hb.trans (Below.mono (‹Below wr.heap.size wr _ ∧ _› : _ ∧ _).1 hbs)
          go_wp2_with (fail)
          go_roundw
          case rel => exact ⟨k + 1, by omega, by go_num, hfin.out, HLEN.out, hbb⟩
          case measure => simp [intOf]; omega
      · have hkp : (0 : Int) < (k : Int) := by omega
        have hne : l.take k ≠ [] := by
          intro e; rw [List.take_eq_nil_iff] at e; rcases e with e | e
          · exact hk0 e
          · subst e; simp at hlk
        have hfin : Hid (Value.string ((⟨(formBody (l.take k)).toArray⟩ : ByteArray) ++ ⟨#[38]⟩ ++ ((⟨(wordL l[k].1).toArray⟩ : ByteArray) ++ ⟨#[61]⟩ ++ ⟨(wordL l[k].2).toArray⟩)) = strV (formBody (l.take (k + 1)))) := by
          rw [HT.out, body_snoc _ _ hne]
          have e : (⟨#[61]⟩ : ByteArray) = ⟨[61].toArray⟩ := rfl
          have e2 : (⟨#[38]⟩ : ByteArray) = ⟨[38].toArray⟩ := rfl
          rw [e, e2, app_eq, app_eq, app_eq, app_eq]
          exact Lib.hid (by simp [strV])
        clear hne hk0
        go_wp2_with (fail)
        go_region_held3 (fun w' => Below wr.heap.size wr w' ∧ w'.cell? ⟨b, off + k * 2, none⟩ = some (.string ⟨l[k].1.toArray⟩) ∧ w'.cell? ⟨b, off + k * 2 + 1, none⟩ = some (.string ⟨l[k].2.toArray⟩)) (first | exact HS0.out | assumption | exact HK.out _ _ (by assumption) (by assumption)) ((first | (go_at_call 41; refine (rword_list _ _ (by assumption)).mono ?_; rintro e w' ⟨rfl, hbw⟩)))
        all_goals
          have hbb := hb.trans (Below.mono (‹Below wr.heap.size wr _ ∧ _› : _ ∧ _).1 hbs)
          go_wp2_with (fail)
          go_roundw
          case rel => exact ⟨k + 1, by omega, by go_num, hfin.out, HLEN.out, hbb⟩
          case measure => simp [intOf]; omega
    · have hfull : l.take k = l := List.take_of_length_le (by omega)
      rw [hfull] at hfl ⊢
      unfold strV
      by_cases hbig : 8192 < (formBody l).length
      · have HF : Hid (formL l = none) := by rw [formL, if_neg h64, if_pos hbig]; rfl
        have hbig' : (8192 : Int) < ((formBody l).length : Int) := by omega
        clear hfl hfull
        go_wp2_with (fail)
        go_ret2
        exact ⟨by rw [HF.out]; rfl, hb⟩
      · have HF : Hid (formL l = some (formBody l)) := by rw [formL, if_neg h64, if_neg hbig]; rfl
        have hbig' : ¬ (8192 : Int) < ((formBody l).length : Int) := by omega
        clear hfl hfull
        go_wp2_with (fail)
        go_ret2
        exact ⟨by rw [HF.out]; rfl, hb⟩
end Go.Proofs.YtlifnfchemiipaaDoor
