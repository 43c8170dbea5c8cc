/- What codec.Get and the document's own Get answer: the first value of a name, and how many there are. Conditions: at most 1073741824 pairs, whose values have a length that the model bears. -/
import Derived.Test.YtlifnfchemiipaaDoorO
namespace Go.Proofs.YtlifnfchemiipaaDoor
open Go.RowKit

/-- the cells of pairs, from an address on -/
def CellsAt (w : World) (b off : Nat) (l : List (List UInt8 × List UInt8)) : Prop :=
  ∀ i, (h : i < l.length) → w.cell? ⟨b, off + i * 2, none⟩ = some (strV l[i].1) ∧ w.cell? ⟨b, off + i * 2 + 1, none⟩ = some (strV l[i].2)
/-- v is a slice that reads as the pairs l -/
def PartsIn (w : World) (v : Value) (l : List (List UInt8 × List UInt8)) : Prop :=
  ∃ A cap, v = .slice A l.length cap ∧ (l ≠ [] → ∃ b off, A = some ⟨b, off, none⟩ ∧ b < w.heap.size ∧ CellsAt w b off l)
theorem CellsAt.below {w w' : World} {b off B : Nat} {l : List (List UInt8 × List UInt8)} (h : CellsAt w b off l) (hB : b < B) (hb : Below B w w') : CellsAt w' b off l := fun i hi => by
  rw [hb.cell (p := ⟨b, off + i * 2, none⟩) hB, hb.cell (p := ⟨b, off + i * 2 + 1, none⟩) hB]
  exact h i hi
theorem PartsIn.below {w w' : World} {v : Value} {l : List (List UInt8 × List UInt8)} (h : PartsIn w v l) (hb : Below w.heap.size w w') : PartsIn w' v l := by
  obtain ⟨A, cap, hv, hP⟩ := h
  refine ⟨A, cap, hv, fun hl => ?_⟩
  obtain ⟨b, off, hA, hlt, hc⟩ := hP hl
  exact ⟨b, off, hA, Nat.lt_of_lt_of_le hlt hb.size, hc.below hlt hb⟩

/-- the first value of a name, and how many there are -/
def getV (l : List (List UInt8 × List UInt8)) (name : List UInt8) : List UInt8 := ((l.find? fun p => p.1 == name).map (·.2)).getD []
def getN (l : List (List UInt8 × List UInt8)) (name : List UInt8) : Nat := (l.filter fun p => p.1 == name).length

theorem take_succ {α : Type} (l : List α) (k : Nat) (h : k < l.length) : l.take (k + 1) = l.take k ++ [l[k]] := List.take_succ_eq_append_getElem h
theorem getN_miss (l : List (List UInt8 × List UInt8)) (p : List UInt8 × List UInt8) (name : List UInt8) (h : (p.1 == name) = false) : getN (l ++ [p]) name = getN l name := by
  simp only [getN, List.filter_append, List.filter_cons, h]; simp
theorem getN_hit (l : List (List UInt8 × List UInt8)) (p : List UInt8 × List UInt8) (name : List UInt8) (h : (p.1 == name) = true) : getN (l ++ [p]) name = getN l name + 1 := by
  simp only [getN, List.filter_append, List.filter_cons, h]; simp
theorem getV_miss (l : List (List UInt8 × List UInt8)) (p : List UInt8 × List UInt8) (name : List UInt8) (h : (p.1 == name) = false) : getV (l ++ [p]) name = getV l name := by
  have e : (l ++ [p]).find? (fun p => p.1 == name) = l.find? (fun p => p.1 == name) := by
    rw [List.find?_append]; simp only [List.find?_cons, h, List.find?_nil, Option.or_none]
  rw [getV, e, getV]
theorem getN_le (l : List (List UInt8 × List UInt8)) (name : List UInt8) : getN l name ≤ l.length := List.length_filter_le _ _
theorem getV_first (l : List (List UInt8 × List UInt8)) (p : List UInt8 × List UInt8) (name : List UInt8) (h : (p.1 == name) = true) (h0 : getN l name = 0) : getV (l ++ [p]) name = p.2 := by
  have e0 : l.find? (fun p => p.1 == name) = none := by
    rw [List.find?_eq_none]
    intro x hx hq
    have : x ∈ l.filter (fun p => p.1 == name) := List.mem_filter.2 ⟨hx, hq⟩
    rw [List.eq_nil_of_length_eq_zero h0] at this
    cases this
  have e : (l ++ [p]).find? (fun p => p.1 == name) = some p := by
    rw [List.find?_append, e0]; simp only [List.find?_cons, h, Option.none_or]
  rw [getV, e]; rfl
theorem getV_later (l : List (List UInt8 × List UInt8)) (p : List UInt8 × List UInt8) (name : List UInt8) (h0 : getN l name ≠ 0) : getV (l ++ [p]) name = getV l name := by
  have e : (l ++ [p]).find? (fun p => p.1 == name) = l.find? (fun p => p.1 == name) := by
    rw [List.find?_append]
    cases hf : l.find? (fun p => p.1 == name) with
    | some x => rfl
    | none =>
      exfalso; apply h0
      rw [getN, List.filter_eq_nil_iff.2 (by simpa [List.find?_eq_none] using hf)]; rfl
  rw [getV, e, getV]

theorem clone_any (l : List UInt8) (w : World) (h : l.length ≤ 281474976710656) :
    Calls Tryd.prog 45 #[.string ⟨l.toArray⟩] w fun e w' => e = .returned (.string ⟨l.toArray⟩) ∧ Below w.heap.size w w' := by
  go_enter Tryd.func45, Tryd.ntmps45
  go_wp2_with (fail)
  refine (Tryd.stringslite_Clone ⟨l.toArray⟩ w (by rw [size_of]; exact h)).mono ?_
  rintro e w1 ⟨rfl, b1⟩
  go_wp2
  go_ret
  exact ⟨rfl, b1⟩

set_option maxHeartbeats 2000000 in
set_option maxRecDepth 100000 in
theorem get_any (v : Value) (l : List (List UInt8 × List UInt8)) (name : List UInt8) (w : World) (hP : PartsIn w v l) (hn : l.length ≤ 1073741824) (hsz : ∀ p, p ∈ l → p.2.length ≤ 281474976710656) :
    Calls Tryd.prog 29 #[v, strV name] w fun e w' => e = .returned (.tuple #[strV (getV l name), .int .i64 (getN l name)]) ∧ Below w.heap.size w w' := by
  obtain ⟨A, cap, rfl, hc⟩ := hP
  by_cases hl : l = []
  · subst hl
    unfold strV
    go_enter Tryd.func29, Tryd.ntmps29
    go_wp2
    go_loopw [6, 7, 12] (fun x y i wr => x = .string ⟨#[]⟩ ∧ y = .int .i64 0 ∧ i = .int .i64 0 ∧ wr = w) (fun _ _ _ _ => 0)
    case atStart => exact ⟨rfl, rfl, rfl, rfl⟩
    case round =>
      obtain ⟨rfl, rfl, rfl, rfl⟩ := hrel
      go_wp2
      go_ret2
      exact ⟨rfl, Below.refl _ _⟩
  obtain ⟨b, off, rfl, hlt, hc⟩ := hc hl
  clear hl
  unfold strV
  go_enter Tryd.func29, Tryd.ntmps29
  go_wp2
  go_loopw [6, 7, 12] (fun x y i wr => ∃ k : Nat, k ≤ l.length ∧ i = .int .i64 k ∧ x = strV (getV (l.take k) name) ∧ y = .int .i64 (getN (l.take k) name) ∧ Below w.heap.size w wr) (fun _ _ i _ => l.length - (intOf i).toNat)
  case atStart => exact ⟨0, by omega, rfl, rfl, rfl, Below.refl _ _⟩
  case round =>
    obtain ⟨k, hk, rfl, rfl, rfl, hb⟩ := hrel
    by_cases hlk : k < l.length
    · have hcc := hc.below hlt hb
      obtain ⟨c0, c1⟩ := hcc k hlk
      unfold strV at c0 c1
      clear hcc hc
      have hT := take_succ l k hlk
      have HT := Lib.hid hT
      have hS := hsz l[k] (List.getElem_mem hlk)
      have hN := getN_le (l.take k) name
      have hN2 : getN (l.take k) name ≤ 1073741824 := by rw [List.length_take] at hN; omega
      clear hT hN
      by_cases hm : (l[k].1 == name) = true
      · have HM := Lib.hid hm
        by_cases h0 : getN (l.take k) name = 0
        · have H0 := Lib.hid h0
          have hz : ((getN (l.take k) name : Int) == 0) = true := by simp; omega
          clear h0
          go_wp2_with (fail)
          refine (clone_any _ _ hS).mono ?_
          rintro e w1 ⟨rfl, b1⟩
          have hb1 := (hb.alloc hb.size (.cells #[.string ⟨l[k].1.toArray⟩, .string ⟨l[k].2.toArray⟩] 34)).trans (b1.mono (by simp; have := hb.size; omega))
          go_wp2_with (fail)
          go_roundw
          case rel => exact ⟨k + 1, by omega, by go_num, by rw [HT.out, getV_first _ _ _ HM.out H0.out]; rfl, by rw [HT.out, getN_hit _ _ _ HM.out]; go_num, hb1⟩
          case measure => simp [intOf]; omega
        · have H0 := Lib.hid h0
          have hz : ((getN (l.take k) name : Int) == 0) = false := by simp; omega
          clear h0
          go_wp2_with (fail)
          go_roundw
          case rel => exact ⟨k + 1, by omega, by go_num, by rw [HT.out, getV_later _ _ _ H0.out], by rw [HT.out, getN_hit _ _ _ HM.out]; go_num, hb.alloc hb.size _⟩
          case measure => simp [intOf]; omega
      · have hm' : (l[k].1 == name) = false := by simpa using hm
        have HM := Lib.hid hm'
        clear hm
        go_wp2_with (fail)
        go_roundw
        case rel => exact ⟨k + 1, by omega, by go_num, by rw [HT.out, getV_miss _ _ _ HM.out], by rw [HT.out, getN_miss _ _ _ HM.out], hb.alloc hb.size _⟩
        case measure => simp [intOf]; omega
    · go_wp2
      go_ret2
      refine ⟨?_, hb⟩
      rw [List.take_of_length_le (by omega)]
      rfl

set_option maxHeartbeats 2000000 in
set_option maxRecDepth 100000 in
theorem rget_any (v : Value) (l : List (List UInt8 × List UInt8)) (name : List UInt8) (w : World) (hP : PartsIn w v l) (hn : l.length ≤ 1073741824) :
    Calls Tryd.prog 30 #[v, strV name] w fun e w' => e = .returned (.tuple #[strV (getV l name), .int .i64 (getN l name)]) ∧ w = w' := by
  obtain ⟨A, cap, rfl, hc⟩ := hP
  by_cases hl : l = []
  · subst hl
    unfold strV
    go_enter Tryd.func30, Tryd.ntmps30
    go_wp2
    go_loop [6, 7, 8] (fun x y i => x = .string ⟨#[]⟩ ∧ y = .int .i64 0 ∧ i = .int .i64 0) (fun _ _ _ => 0)
    case atStart => exact ⟨rfl, rfl, rfl⟩
    case round =>
      obtain ⟨rfl, rfl, rfl⟩ := hrel
      go_wp2
      go_ret2
      exact ⟨rfl, rfl⟩
  obtain ⟨b, off, rfl, hlt, hc⟩ := hc hl
  clear hl
  unfold strV
  go_enter Tryd.func30, Tryd.ntmps30
  go_wp2
  go_loop [6, 7, 8] (fun x y i => ∃ k : Nat, k ≤ l.length ∧ i = .int .i64 k ∧ x = strV (getV (l.take k) name) ∧ y = .int .i64 (getN (l.take k) name)) (fun _ _ i => l.length - (intOf i).toNat)
  case atStart => exact ⟨0, by omega, rfl, rfl, rfl⟩
  case round =>
    obtain ⟨k, hk, rfl, rfl, rfl⟩ := hrel
    by_cases hlk : k < l.length
    · obtain ⟨c0, c1⟩ := hc k hlk
      unfold strV at c0 c1
      clear hc
      have hT := take_succ l k hlk
      have HT := Lib.hid hT
      have hN := getN_le (l.take k) name
      have hN2 : getN (l.take k) name ≤ 1073741824 := by rw [List.length_take] at hN; omega
      clear hT hN
      by_cases hm : (l[k].1 == name) = true
      · have HM := Lib.hid hm
        by_cases h0 : getN (l.take k) name = 0
        · have H0 := Lib.hid h0
          have hz : ((getN (l.take k) name : Int) == 0) = true := by simp; omega
          clear h0
          go_wp2_with (fail)
          go_round
          case rel => exact ⟨k + 1, by omega, by go_num, by rw [HT.out, getV_first _ _ _ HM.out H0.out]; rfl, by rw [HT.out, getN_hit _ _ _ HM.out]; go_num⟩
          case measure => simp [intOf]; omega
        · have H0 := Lib.hid h0
          have hz : ((getN (l.take k) name : Int) == 0) = false := by simp; omega
          clear h0
          go_wp2_with (fail)
          go_round
          case rel => exact ⟨k + 1, by omega, by go_num, by rw [HT.out, getV_later _ _ _ H0.out], by rw [HT.out, getN_hit _ _ _ HM.out]; go_num⟩
          case measure => simp [intOf]; omega
      · have hm' : (l[k].1 == name) = false := by simpa using hm
        have HM := Lib.hid hm'
        clear hm
        go_wp2_with (fail)
        go_round
        case rel => exact ⟨k + 1, by omega, by go_num, by rw [HT.out, getV_miss _ _ _ HM.out], by rw [HT.out, getN_miss _ _ _ HM.out]⟩
        case measure => simp [intOf]; omega
    · go_wp2
      go_ret2
      refine ⟨?_, rfl⟩
      rw [List.take_of_length_le (by omega)]
      rfl
end Go.Proofs.YtlifnfchemiipaaDoor
