/- Which bytes stand in what is written in base sixteen and base64url, with percent signs, as a form: letters, digits and few marks. No condition. -/
import Derived.Test.YtlifnfchemiipaaDoorJ
import Derived.Test.YtlifnfchemiipaaDoorR
namespace Go.Proofs.YtlifnfchemiipaaDoor

/-- letters, digits, minus, underscore -/
def al0 (c : UInt8) : Prop := (65 ≤ c.toNat ∧ c.toNat ≤ 90) ∨ (97 ≤ c.toNat ∧ c.toNat ≤ 122) ∨ (48 ≤ c.toNat ∧ c.toNat ≤ 57) ∨ c.toNat = 45 ∨ c.toNat = 95
/-- besides them: dot, tilde, percent sign -/
def al1 (c : UInt8) : Prop := al0 c ∨ c.toNat = 46 ∨ c.toNat = 126 ∨ c.toNat = 37
/-- besides them: ampersand, equals sign, plus -/
def al2 (c : UInt8) : Prop := al1 c ∨ c.toNat = 38 ∨ c.toNat = 61 ∨ c.toNat = 43
instance (c : UInt8) : Decidable (al0 c) := by unfold al0; infer_instance
instance (c : UInt8) : Decidable (al1 c) := by unfold al1; infer_instance
instance (c : UInt8) : Decidable (al2 c) := by unfold al2; infer_instance

theorem hex_al (l : List UInt8) (d : UInt8) (h : d ∈ hexL l) : al0 d := by
  obtain ⟨c, _, hc⟩ := List.mem_flatMap.1 h
  exact all_u8 (p := fun c => ∀ d, d ∈ hexOne c → al0 d) (by decide +kernel) c d hc
theorem six_al : ∀ n, n < 64 → al0 (six n) := by decide +kernel
theorem b64_al (l : List UInt8) (d : UInt8) (h : d ∈ b64L l) : al0 d := by
  rw [← r64_eq, r64] at h
  obtain ⟨q, _, rfl⟩ := List.mem_map.1 h
  exact six_al _ (vb_lt (bitAt l) (bitAt_le l) (6 * q) 6)
theorem pct_al (l : List UInt8) (d : UInt8) (h : d ∈ pctL l) : al1 d := by
  obtain ⟨c, _, hc⟩ := List.mem_flatMap.1 h
  exact all_u8 (p := fun c => ∀ d, d ∈ pctOne c → al1 d) (by decide +kernel) c d hc
theorem word_al (l : List UInt8) (d : UInt8) (h : d ∈ wordL l) : al2 d := by
  obtain ⟨c, _, hc⟩ := List.mem_flatMap.1 h
  exact all_u8 (p := fun c => ∀ d, d ∈ wordOne c → al2 d) (by decide +kernel) c d hc
theorem body_al (l : Parts) (d : UInt8) (h : d ∈ formBody l) : al2 d := by
  obtain ⟨p, _, hp⟩ := List.mem_flatMap.1 (List.mem_of_mem_drop h)
  rcases List.mem_cons.1 hp with e | hp
  · subst e; decide
  · rcases List.mem_append.1 hp with hp | hp
    · exact word_al _ _ hp
    · rcases List.mem_cons.1 hp with e | hp
      · subst e; decide
      · exact word_al _ _ hp
theorem form_al (l : Parts) (d : UInt8) (h : d ∈ (formL l).getD []) : al2 d := by
  unfold formL at h
  split at h
  · cases h
  · split at h
    · cases h
    · exact body_al l d h
end Go.Proofs.YtlifnfchemiipaaDoor
