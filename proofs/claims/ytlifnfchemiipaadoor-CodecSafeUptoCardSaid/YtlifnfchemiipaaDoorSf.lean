/- What the look at what is written tells: each byte is a letter, a digit or one of the few marks, whatever the text and the pairs. Conditions: at most 1048576 bytes and pairs; the library's variable holds a number. -/
import Derived.Test.YtlifnfchemiipaaDoorT
import Derived.Test.YtlifnfchemiipaaDoorSa
set_option linter.unusedSimpArgs false
namespace Go.Proofs.YtlifnfchemiipaaDoor
open Go.RowKit

/-- each byte of X is so -/
def AllB (P : UInt8 → Prop) (X : ByteArray) : Prop := ∀ m, (h : m < X.size) → P X[m]
theorem mem_at (s : ByteArray) (k : Nat) (h : k < s.size) : s[k] ∈ s.data.toList := List.getElem_mem (l := s.data.toList) (by simpa using h)
theorem form_len (l : Parts) : ((formL l).getD []).length ≤ 8192 := by
  unfold formL
  split
  · simp
  · split
    · simp
    · simp; omega

set_option maxHeartbeats 4000000 in
set_option maxRecDepth 200000 in
theorem safe_walk (s : ByteArray) (v : Value) (l : Parts) (w : World) (hm : Hm w) (hs : s.size ≤ 1048576) (hP : PartsIn w v l) (hn : l.length ≤ 1048576) (hz : ∀ p, p ∈ l → p.1.length ≤ 1048576 ∧ p.2.length ≤ 1048576) :
    Calls Tryd.prog 10 #[.string s, v] w fun e w' => e = .returned (.bool true) ∧ Below w.heap.size w w' := by
  have e0 : s.data.toList.length = s.size := by simp
  have hx1 : (hexL s.data.toList).length ≤ 2097152 := by rw [hexL_length]; omega
  have hx2 : (b64L s.data.toList).length ≤ 2097152 := by rw [b64L_length]; omega
  have hx3 : (pctL s.data.toList).length ≤ 6291456 := by have := pctL_length s.data.toList; omega
  have hx4 := form_len l
  clear e0
  go_enter Tryd.func10, Tryd.ntmps10
  go_wp2_with (fail)
  refine (form_any v l _ hP hm (by omega) (fun p hp => by have := hz p hp; omega)).mono ?_
  rintro e w1 ⟨he, b1⟩
  unfold Two at he
  subst he
  go_wp2_with (fail)
  refine (hex_any s _ (by omega)).mono ?_
  rintro e w2 ⟨rfl, b2⟩
  have hb2 := b1.trans (b2.mono b1.size)
  go_wp2_with (fail)
  refine (base64_any s _ (by omega)).mono ?_
  rintro e w3 ⟨rfl, b3⟩
  have hb3 := hb2.trans (b3.mono hb2.size)
  go_wp2_with (fail)
  refine (percent_any s _ (by omega)).mono ?_
  rintro e w4 ⟨rfl, b4⟩
  have hb4 := hb3.trans (b4.mono hb3.size)
  go_wp2_with (fail)
  have hA : ((w4.alloc (.cells #[.string ({ data := (hexL s.data.toList).toArray } ++ { data := (b64L s.data.toList).toArray }), .string { data := (pctL s.data.toList).toArray }, .string (strOf (formL l))] 9)).alloc (.cells #[.string { data := #[] }, .string { data := #[37] }, .string { data := #[37, 38, 61, 43] }] 9)).heap[w4.heap.size]? = some (.cells #[.string ({ data := (hexL s.data.toList).toArray } ++ { data := (b64L s.data.toList).toArray }), .string { data := (pctL s.data.toList).toArray }, .string (strOf (formL l))] 9 (0, 0)) :=
    (Below.heap_alloc _ _ _ (by simp)).trans (heap_alloc_new w4 _)
  have hB : ((w4.alloc (.cells #[.string ({ data := (hexL s.data.toList).toArray } ++ { data := (b64L s.data.toList).toArray }), .string { data := (pctL s.data.toList).toArray }, .string (strOf (formL l))] 9)).alloc (.cells #[.string { data := #[] }, .string { data := #[37] }, .string { data := #[37, 38, 61, 43] }] 9)).heap[w4.heap.size + 1]? = some (.cells #[.string { data := #[] }, .string { data := #[37] }, .string { data := #[37, 38, 61, 43] }] 9 (0, 0)) := by
    have h := heap_alloc_new (w4.alloc (.cells #[.string ({ data := (hexL s.data.toList).toArray } ++ { data := (b64L s.data.toList).toArray }), .string { data := (pctL s.data.toList).toArray }, .string (strOf (formL l))] 9)) (.cells #[.string { data := #[] }, .string { data := #[37] }, .string { data := #[37, 38, 61, 43] }] 9)
    simpa using h
  have hb5 := (hb4.alloc hb4.size (.cells #[.string ({ data := (hexL s.data.toList).toArray } ++ { data := (b64L s.data.toList).toArray }), .string { data := (pctL s.data.toList).toArray }, .string (strOf (formL l))] 9)).alloc (by have := hb4.size; simp; omega) (.cells #[.string { data := #[] }, .string { data := #[37] }, .string { data := #[37, 38, 61, 43] }] 9)
  have g0 : AllB al0 (({ data := (hexL s.data.toList).toArray } : ByteArray) ++ { data := (b64L s.data.toList).toArray }) := fun m h => by
    have h1 := mem_at _ m h
    have e : (({ data := (hexL s.data.toList).toArray } : ByteArray) ++ { data := (b64L s.data.toList).toArray }).data.toList = hexL s.data.toList ++ b64L s.data.toList := by simp
    rw [e] at h1
    rcases List.mem_append.1 h1 with h1 | h1
    · exact hex_al _ _ h1
    · exact b64_al _ _ h1
  have g1 : AllB al1 { data := (pctL s.data.toList).toArray } := fun m h => pct_al _ _ (mem_at _ m h)
  have g2 : AllB al2 (strOf (formL l)) := fun m h => form_al l _ (mem_at _ m h)
  have z0 : (({ data := (hexL s.data.toList).toArray } : ByteArray) ++ { data := (b64L s.data.toList).toArray }).size ≤ 9223372036854775807 := by
    rw [ByteArray.size_append, size_of, size_of]; omega
  have z1 : ({ data := (pctL s.data.toList).toArray } : ByteArray).size ≤ 9223372036854775807 := by rw [size_of]; omega
  have z2 : (strOf (formL l)).size ≤ 9223372036854775807 := by
    unfold strOf
    rw [size_of]; omega
  obtain ⟨X0, hX0⟩ : ∃ X, ({ data := (hexL s.data.toList).toArray } : ByteArray) ++ { data := (b64L s.data.toList).toArray } = X := ⟨_, rfl⟩
  obtain ⟨X1, hX1⟩ : ∃ X, ({ data := (pctL s.data.toList).toArray } : ByteArray) = X := ⟨_, rfl⟩
  obtain ⟨X2, hX2⟩ : ∃ X, strOf (formL l) = X := ⟨_, rfl⟩
  simp only [hX0, hX1, hX2] at hA hB hb5 g0 g1 g2 z0 z1 z2 ⊢
  generalize ((w4.alloc (.cells #[.string X0, .string X1, .string X2] 9)).alloc (.cells #[.string { data := #[] }, .string { data := #[37] }, .string { data := #[37, 38, 61, 43] }] 9)) = W at hA hB hb5 ⊢
  have a0 : W.cell? ⟨w4.heap.size, 0, none⟩ = some (.string X0) := by rw [Lib.cell_of_heap hA]; rfl
  have a1 : W.cell? ⟨w4.heap.size, 1, none⟩ = some (.string X1) := by rw [Lib.cell_of_heap hA]; rfl
  have a2 : W.cell? ⟨w4.heap.size, 2, none⟩ = some (.string X2) := by rw [Lib.cell_of_heap hA]; rfl
  have k0 : W.cell? ⟨w4.heap.size + 1, 0, none⟩ = some (.string { data := #[] }) := by rw [Lib.cell_of_heap hB]; rfl
  have k1 : W.cell? ⟨w4.heap.size + 1, 1, none⟩ = some (.string { data := #[37] }) := by rw [Lib.cell_of_heap hB]; rfl
  have k2 : W.cell? ⟨w4.heap.size + 1, 2, none⟩ = some (.string { data := #[37, 38, 61, 43] }) := by rw [Lib.cell_of_heap hB]; rfl
  have hmW := hm.below hm.lt hb5
  clear hA hB hX0 hX1 hX2 b1 b2 b3 b4 hb2 hb3 hb4 hx1 hx2 hx3 hx4 hP hz hm
  go_loop [9] (fun i => ∃ n : Nat, n ≤ 3 ∧ i = .int .i64 n) (fun i => 3 - (intOf i).toNat)
  case atStart => exact ⟨0, by omega, rfl⟩
  case round =>
    obtain ⟨n, hn3, rfl⟩ := hrel
    obtain rfl | rfl | rfl | rfl : n = 0 ∨ n = 1 ∨ n = 2 ∨ n = 3 := by omega
    · -- the text number 0
      go_wp2_with (fail)
      go_loop [10] (fun k => ∃ m : Nat, m ≤ X0.size ∧ k = .int .i64 m) (fun k => X0.size - (intOf k).toNat)
      case atStart => exact ⟨0, by omega, rfl⟩
      case round =>
        obtain ⟨m, hm', rfl⟩ := hrel
        by_cases hlt : m < X0.size
        · have hc := g0 m hlt
          have hq : (m : Int) < (X0.size : Int) := by omega
          rcases hc with h1 | h1 | h1 | h1 | h1
          · have h2 : 65 ≤ (X0[m].toNat : Int) := by omega
            have h3 : (X0[m].toNat : Int) ≤ 90 := by omega
            clear h1
            go_wp2_with (fail)
            refine wp_loop_rounds 1 ?_
            rw [rounds_succ]
            go_wp2_with (fail)
            go_round
            case rel => exact ⟨m + 1, by omega, by go_num⟩
            case measure => simp [intOf]; omega
          · have h2 : 97 ≤ (X0[m].toNat : Int) := by omega
            have h3 : (X0[m].toNat : Int) ≤ 122 := by omega
            clear h1
            go_wp2_with (fail)
            refine wp_loop_rounds 1 ?_
            rw [rounds_succ]
            go_wp2_with (fail)
            go_round
            case rel => exact ⟨m + 1, by omega, by go_num⟩
            case measure => simp [intOf]; omega
          · have h2 : 48 ≤ (X0[m].toNat : Int) := by omega
            have h3 : (X0[m].toNat : Int) ≤ 57 := by omega
            clear h1
            go_wp2_with (fail)
            refine wp_loop_rounds 1 ?_
            rw [rounds_succ]
            go_wp2_with (fail)
            go_round
            case rel => exact ⟨m + 1, by omega, by go_num⟩
            case measure => simp [intOf]; omega
          · have h2 : (X0[m].toNat : Int) = 45 := by omega
            clear h1
            go_wp2_with (fail)
            refine wp_loop_rounds 1 ?_
            rw [rounds_succ]
            go_wp2_with (fail)
            go_round
            case rel => exact ⟨m + 1, by omega, by go_num⟩
            case measure => simp [intOf]; omega
          · have h2 : (X0[m].toNat : Int) = 95 := by omega
            clear h1
            go_wp2_with (fail)
            refine wp_loop_rounds 1 ?_
            rw [rounds_succ]
            go_wp2_with (fail)
            go_round
            case rel => exact ⟨m + 1, by omega, by go_num⟩
            case measure => simp [intOf]; omega
        · go_wp2_with (fail)
          go_round
          case rel => exact ⟨1, by omega, by go_num⟩
          case measure => simp [intOf]
    · -- the text number 1
      go_wp2_with (fail)
      go_loop [10] (fun k => ∃ m : Nat, m ≤ X1.size ∧ k = .int .i64 m) (fun k => X1.size - (intOf k).toNat)
      case atStart => exact ⟨0, by omega, rfl⟩
      case round =>
        obtain ⟨m, hm', rfl⟩ := hrel
        by_cases hlt : m < X1.size
        · have hc := g1 m hlt
          have hq : (m : Int) < (X1.size : Int) := by omega
          rcases hc with (h1 | h1 | h1 | h1 | h1) | h1 | h1 | h1
          · have h2 : 65 ≤ (X1[m].toNat : Int) := by omega
            have h3 : (X1[m].toNat : Int) ≤ 90 := by omega
            clear h1
            go_wp2_with (fail)
            refine wp_loop_rounds 2 ?_
            rw [rounds_succ]
            go_wp2_with (fail)
            rw [rounds_succ]
            go_wp2_with (fail)
            go_round
            case rel => exact ⟨m + 1, by omega, by go_num⟩
            case measure => simp [intOf]; omega
          · have h2 : 97 ≤ (X1[m].toNat : Int) := by omega
            have h3 : (X1[m].toNat : Int) ≤ 122 := by omega
            clear h1
            go_wp2_with (fail)
            refine wp_loop_rounds 2 ?_
            rw [rounds_succ]
            go_wp2_with (fail)
            rw [rounds_succ]
            go_wp2_with (fail)
            go_round
            case rel => exact ⟨m + 1, by omega, by go_num⟩
            case measure => simp [intOf]; omega
          · have h2 : 48 ≤ (X1[m].toNat : Int) := by omega
            have h3 : (X1[m].toNat : Int) ≤ 57 := by omega
            clear h1
            go_wp2_with (fail)
            refine wp_loop_rounds 2 ?_
            rw [rounds_succ]
            go_wp2_with (fail)
            rw [rounds_succ]
            go_wp2_with (fail)
            go_round
            case rel => exact ⟨m + 1, by omega, by go_num⟩
            case measure => simp [intOf]; omega
          · have h2 : (X1[m].toNat : Int) = 45 := by omega
            clear h1
            go_wp2_with (fail)
            refine wp_loop_rounds 2 ?_
            rw [rounds_succ]
            go_wp2_with (fail)
            rw [rounds_succ]
            go_wp2_with (fail)
            go_round
            case rel => exact ⟨m + 1, by omega, by go_num⟩
            case measure => simp [intOf]; omega
          · have h2 : (X1[m].toNat : Int) = 95 := by omega
            clear h1
            go_wp2_with (fail)
            refine wp_loop_rounds 2 ?_
            rw [rounds_succ]
            go_wp2_with (fail)
            rw [rounds_succ]
            go_wp2_with (fail)
            go_round
            case rel => exact ⟨m + 1, by omega, by go_num⟩
            case measure => simp [intOf]; omega
          · have h2 : (X1[m].toNat : Int) = 46 := by omega
            clear h1
            go_wp2_with (fail)
            refine wp_loop_rounds 2 ?_
            rw [rounds_succ]
            go_wp2_with (fail)
            rw [rounds_succ]
            go_wp2_with (fail)
            go_round
            case rel => exact ⟨m + 1, by omega, by go_num⟩
            case measure => simp [intOf]; omega
          · have h2 : (X1[m].toNat : Int) = 126 := by omega
            clear h1
            go_wp2_with (fail)
            refine wp_loop_rounds 2 ?_
            rw [rounds_succ]
            go_wp2_with (fail)
            rw [rounds_succ]
            go_wp2_with (fail)
            go_round
            case rel => exact ⟨m + 1, by omega, by go_num⟩
            case measure => simp [intOf]; omega
          · have h2 : (X1[m].toNat : Int) = 37 := by omega
            clear h1
            go_wp2_with (fail)
            refine wp_loop_rounds 2 ?_
            rw [rounds_succ]
            go_wp2_with (fail)
            rw [rounds_succ]
            go_wp2_with (fail)
            go_round
            case rel => exact ⟨m + 1, by omega, by go_num⟩
            case measure => simp [intOf]; omega
        · go_wp2_with (fail)
          go_round
          case rel => exact ⟨2, by omega, by go_num⟩
          case measure => simp [intOf]
    · -- the text number 2
      go_wp2_with (fail)
      go_loop [10] (fun k => ∃ m : Nat, m ≤ X2.size ∧ k = .int .i64 m) (fun k => X2.size - (intOf k).toNat)
      case atStart => exact ⟨0, by omega, rfl⟩
      case round =>
        obtain ⟨m, hm', rfl⟩ := hrel
        by_cases hlt : m < X2.size
        · have hc := g2 m hlt
          have hq : (m : Int) < (X2.size : Int) := by omega
          rcases hc with ((h1 | h1 | h1 | h1 | h1) | h1 | h1 | h1) | h1 | h1 | h1
          · have h2 : 65 ≤ (X2[m].toNat : Int) := by omega
            have h3 : (X2[m].toNat : Int) ≤ 90 := by omega
            clear h1
            go_wp2_with (fail)
            refine wp_loop_rounds 5 ?_
            rw [rounds_succ]
            go_wp2_with (fail)
            rw [rounds_succ]
            go_wp2_with (fail)
            rw [rounds_succ]
            go_wp2_with (fail)
            rw [rounds_succ]
            go_wp2_with (fail)
            rw [rounds_succ]
            go_wp2_with (fail)
            go_round
            case rel => exact ⟨m + 1, by omega, by go_num⟩
            case measure => simp [intOf]; omega
          · have h2 : 97 ≤ (X2[m].toNat : Int) := by omega
            have h3 : (X2[m].toNat : Int) ≤ 122 := by omega
            clear h1
            go_wp2_with (fail)
            refine wp_loop_rounds 5 ?_
            rw [rounds_succ]
            go_wp2_with (fail)
            rw [rounds_succ]
            go_wp2_with (fail)
            rw [rounds_succ]
            go_wp2_with (fail)
            rw [rounds_succ]
            go_wp2_with (fail)
            rw [rounds_succ]
            go_wp2_with (fail)
            go_round
            case rel => exact ⟨m + 1, by omega, by go_num⟩
            case measure => simp [intOf]; omega
          · have h2 : 48 ≤ (X2[m].toNat : Int) := by omega
            have h3 : (X2[m].toNat : Int) ≤ 57 := by omega
            clear h1
            go_wp2_with (fail)
            refine wp_loop_rounds 5 ?_
            rw [rounds_succ]
            go_wp2_with (fail)
            rw [rounds_succ]
            go_wp2_with (fail)
            rw [rounds_succ]
            go_wp2_with (fail)
            rw [rounds_succ]
            go_wp2_with (fail)
            rw [rounds_succ]
            go_wp2_with (fail)
            go_round
            case rel => exact ⟨m + 1, by omega, by go_num⟩
            case measure => simp [intOf]; omega
          · have h2 : (X2[m].toNat : Int) = 45 := by omega
            clear h1
            go_wp2_with (fail)
            refine wp_loop_rounds 5 ?_
            rw [rounds_succ]
            go_wp2_with (fail)
            rw [rounds_succ]
            go_wp2_with (fail)
            rw [rounds_succ]
            go_wp2_with (fail)
            rw [rounds_succ]
            go_wp2_with (fail)
            rw [rounds_succ]
            go_wp2_with (fail)
            go_round
            case rel => exact ⟨m + 1, by omega, by go_num⟩
            case measure => simp [intOf]; omega
          · have h2 : (X2[m].toNat : Int) = 95 := by omega
            clear h1
            go_wp2_with (fail)
            refine wp_loop_rounds 5 ?_
            rw [rounds_succ]
            go_wp2_with (fail)
            rw [rounds_succ]
            go_wp2_with (fail)
            rw [rounds_succ]
            go_wp2_with (fail)
            rw [rounds_succ]
            go_wp2_with (fail)
            rw [rounds_succ]
            go_wp2_with (fail)
            go_round
            case rel => exact ⟨m + 1, by omega, by go_num⟩
            case measure => simp [intOf]; omega
          · have h2 : (X2[m].toNat : Int) = 46 := by omega
            clear h1
            go_wp2_with (fail)
            refine wp_loop_rounds 5 ?_
            rw [rounds_succ]
            go_wp2_with (fail)
            rw [rounds_succ]
            go_wp2_with (fail)
            rw [rounds_succ]
            go_wp2_with (fail)
            rw [rounds_succ]
            go_wp2_with (fail)
            rw [rounds_succ]
            go_wp2_with (fail)
            go_round
            case rel => exact ⟨m + 1, by omega, by go_num⟩
            case measure => simp [intOf]; omega
          · have h2 : (X2[m].toNat : Int) = 126 := by omega
            clear h1
            go_wp2_with (fail)
            refine wp_loop_rounds 5 ?_
            rw [rounds_succ]
            go_wp2_with (fail)
            rw [rounds_succ]
            go_wp2_with (fail)
            rw [rounds_succ]
            go_wp2_with (fail)
            rw [rounds_succ]
            go_wp2_with (fail)
            rw [rounds_succ]
            go_wp2_with (fail)
            go_round
            case rel => exact ⟨m + 1, by omega, by go_num⟩
            case measure => simp [intOf]; omega
          · have h2 : (X2[m].toNat : Int) = 37 := by omega
            clear h1
            go_wp2_with (fail)
            refine wp_loop_rounds 5 ?_
            rw [rounds_succ]
            go_wp2_with (fail)
            rw [rounds_succ]
            go_wp2_with (fail)
            rw [rounds_succ]
            go_wp2_with (fail)
            rw [rounds_succ]
            go_wp2_with (fail)
            rw [rounds_succ]
            go_wp2_with (fail)
            go_round
            case rel => exact ⟨m + 1, by omega, by go_num⟩
            case measure => simp [intOf]; omega
          · have h2 : (X2[m].toNat : Int) = 38 := by omega
            clear h1
            go_wp2_with (fail)
            refine wp_loop_rounds 5 ?_
            rw [rounds_succ]
            go_wp2_with (fail)
            rw [rounds_succ]
            go_wp2_with (fail)
            rw [rounds_succ]
            go_wp2_with (fail)
            rw [rounds_succ]
            go_wp2_with (fail)
            rw [rounds_succ]
            go_wp2_with (fail)
            go_round
            case rel => exact ⟨m + 1, by omega, by go_num⟩
            case measure => simp [intOf]; omega
          · have h2 : (X2[m].toNat : Int) = 61 := by omega
            clear h1
            go_wp2_with (fail)
            refine wp_loop_rounds 5 ?_
            rw [rounds_succ]
            go_wp2_with (fail)
            rw [rounds_succ]
            go_wp2_with (fail)
            rw [rounds_succ]
            go_wp2_with (fail)
            rw [rounds_succ]
            go_wp2_with (fail)
            rw [rounds_succ]
            go_wp2_with (fail)
            go_round
            case rel => exact ⟨m + 1, by omega, by go_num⟩
            case measure => simp [intOf]; omega
          · have h2 : (X2[m].toNat : Int) = 43 := by omega
            clear h1
            go_wp2_with (fail)
            refine wp_loop_rounds 5 ?_
            rw [rounds_succ]
            go_wp2_with (fail)
            rw [rounds_succ]
            go_wp2_with (fail)
            rw [rounds_succ]
            go_wp2_with (fail)
            rw [rounds_succ]
            go_wp2_with (fail)
            rw [rounds_succ]
            go_wp2_with (fail)
            go_round
            case rel => exact ⟨m + 1, by omega, by go_num⟩
            case measure => simp [intOf]; omega
        · go_wp2_with (fail)
          go_round
          case rel => exact ⟨3, by omega, by go_num⟩
          case measure => simp [intOf]
    · go_wp2_with (fail)
      refine (awake_any _ hmW).mono ?_
      rintro e w6 ⟨rfl, b6⟩
      go_wp2_with (fail)
      go_ret
      exact ⟨rfl, hb5.trans (b6.mono hb5.size)⟩
end Go.Proofs.YtlifnfchemiipaaDoor
