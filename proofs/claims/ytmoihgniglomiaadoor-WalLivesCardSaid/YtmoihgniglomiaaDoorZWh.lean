/- The whole frame at a place, and a file's beginning: the document's way. Condition: none. -/
import Derived.Test.YtmoihgniglomiaaDoorZWg
set_option linter.unusedVariables false
set_option linter.unusedSimpArgs false
set_option maxRecDepth 100000
namespace Go.Proofs.YtmoihgniglomiaaDoor
open Go.RowKit Go.Sort

/-- what the document tells of the frame at a place -/
def wfV (x : Option (Bs × Bs)) (e : Ending) : Prop := match x with
  | none => ∃ s : Bs, e = .returned (.tuple #[.string ⟨s.toArray⟩, .bool false])
  | some (r, _) => e = .returned (.tuple #[.string ⟨r.toArray⟩, .bool true])
set_option maxHeartbeats 16000000 in
theorem whole_short (l : Bs) (p most : Nat) (hp : p ≤ l.length) (hl : l.length ≤ 1048576) (hmo : most ≤ 1048576) (h : (l.drop p).length < 8) (w : World) :
    Calls Tryd.prog 90 #[.string ⟨l.toArray⟩, .int .i64 (p : Int), .int .i64 (most : Int)] w fun e w' => (∃ s : Bs, e = .returned (.tuple #[.string ⟨s.toArray⟩, .bool false])) ∧ w = w' := by
  obtain ⟨n, hn⟩ : ∃ n, n = l.length := ⟨_, rfl⟩
  have hsz : (⟨l.toArray⟩ : ByteArray).size = n := by rw [size_ba, hn]
  have hn1 : (n : Int) ≤ 1048576 := by omega
  have hp1 : (p : Int) ≤ (n : Int) := by omega
  have hp0 : (0 : Int) ≤ p := by omega
  have hmo1 : (most : Int) ≤ 1048576 := by omega
  have hmo0 : (0 : Int) ≤ most := by omega
  have hdl : (l.drop p).length = n - p := by rw [List.length_drop, hn]
  have hd0 : decide ((n : Int) < (p : Int) + 8) = true := by simp; omega
  clear h hn hl hp hmo hdl
  go_enter Tryd.func90, Tryd.ntmps90
  go_wp2_with fail
  go_returns
  exact ⟨⟨[], rfl⟩, rfl⟩
set_option maxHeartbeats 16000000 in
theorem whole_most (l : Bs) (p most : Nat) (hp : p ≤ l.length) (hl : l.length ≤ 1048576) (hmo : most ≤ 1048576) (h : ¬ (l.drop p).length < 8) (hm : valN ((l.drop p).take 4) > most) (w : World) :
    Calls Tryd.prog 90 #[.string ⟨l.toArray⟩, .int .i64 (p : Int), .int .i64 (most : Int)] w fun e w' => (∃ s : Bs, e = .returned (.tuple #[.string ⟨s.toArray⟩, .bool false])) ∧ w = w' := by
  obtain ⟨n, hn⟩ : ∃ n, n = l.length := ⟨_, rfl⟩
  have hsz : (⟨l.toArray⟩ : ByteArray).size = n := by rw [size_ba, hn]
  have hn1 : (n : Int) ≤ 1048576 := by omega
  have hp1 : (p : Int) ≤ (n : Int) := by omega
  have hp0 : (0 : Int) ≤ p := by omega
  have hmo1 : (most : Int) ≤ 1048576 := by omega
  have hmo0 : (0 : Int) ≤ most := by omega
  have hdl : (l.drop p).length = n - p := by rw [List.length_drop, hn]
  have hd0 : decide ((n : Int) < (p : Int) + 8) = false := by simp; omega
  have hp8 : (p : Int) + 8 ≤ (n : Int) := by omega
  have x4 : (⟨l.toArray⟩ : ByteArray).extract p (p + 4) = ⟨((l.drop p).take 4).toArray⟩ := by rw [ba_extract]; simp
  have x48 : (⟨l.toArray⟩ : ByteArray).extract (p + 4) (p + 8) = ⟨(((l.drop p).drop 4).take 4).toArray⟩ := by rw [ba_extract, List.drop_drop, show p + 8 - (p + 4) = 4 by omega]
  have xs : (⟨l.toArray⟩ : ByteArray).extract (p + 8) (p + 8 + valN ((l.drop p).take 4)) = ⟨(((l.drop p).drop 8).take (valN ((l.drop p).take 4))).toArray⟩ := by rw [ba_extract, List.drop_drop, show p + 8 + valN ((l.drop p).take 4) - (p + 8) = valN ((l.drop p).take 4) by omega]
  have HV := Lib.hid (value_any ((l.drop p).take 4) (by rw [List.length_take]; omega))
  have HV2 := Lib.hid (value_any (((l.drop p).drop 4).take 4) (by rw [List.length_take]; omega))
  have hlc : (((l.drop p).drop 8).take (valN ((l.drop p).take 4))).length ≤ 1048576 := by rw [List.length_take, List.length_drop, List.length_drop]; omega
  have HC := Lib.hid (rsum_any (((l.drop p).drop 8).take (valN ((l.drop p).take 4))) (by omega))
  have hv : valN ((l.drop p).take 4) < 4294967296 := valN4 _ (by rw [List.length_take]; omega)
  generalize Crc.sum (((l.drop p).drop 8).take (valN ((l.drop p).take 4))) = cs at *
  generalize valN (((l.drop p).drop 4).take 4) = vs at *
  generalize ((l.drop p).drop 4).take 4 = lc at *
  generalize valN ((l.drop p).take 4) = v at *
  generalize ((l.drop p).drop 8).take v = fb at *
  generalize (l.drop p).take 4 = a at *
  have hv1 : (v : Int) < 4294967296 := by omega
  have hv0 : (0 : Int) ≤ v := by omega
  have hd1 : decide ((most : Int) < (v : Int)) = true := by simp; omega
  have hd1n : decide (most < v) = true := by simp; omega
  clear h hn hl hp hmo hdl hlc
  go_enter Tryd.func90, Tryd.ntmps90
  go_wp2_with fail
  refine (HV.out _).mono ?_
  rintro e w1 ⟨rfl, rfl⟩
  go_wp2_with fail
  go_returns
  exact ⟨⟨[], rfl⟩, rfl⟩
set_option maxHeartbeats 16000000 in
theorem whole_long (l : Bs) (p most : Nat) (hp : p ≤ l.length) (hl : l.length ≤ 1048576) (hmo : most ≤ 1048576) (h : ¬ (l.drop p).length < 8) (hm : ¬ valN ((l.drop p).take 4) > most) (hg : valN ((l.drop p).take 4) > (l.drop p).length - 8) (w : World) :
    Calls Tryd.prog 90 #[.string ⟨l.toArray⟩, .int .i64 (p : Int), .int .i64 (most : Int)] w fun e w' => (∃ s : Bs, e = .returned (.tuple #[.string ⟨s.toArray⟩, .bool false])) ∧ w = w' := by
  obtain ⟨n, hn⟩ : ∃ n, n = l.length := ⟨_, rfl⟩
  have hsz : (⟨l.toArray⟩ : ByteArray).size = n := by rw [size_ba, hn]
  have hn1 : (n : Int) ≤ 1048576 := by omega
  have hp1 : (p : Int) ≤ (n : Int) := by omega
  have hp0 : (0 : Int) ≤ p := by omega
  have hmo1 : (most : Int) ≤ 1048576 := by omega
  have hmo0 : (0 : Int) ≤ most := by omega
  have hdl : (l.drop p).length = n - p := by rw [List.length_drop, hn]
  have hd0 : decide ((n : Int) < (p : Int) + 8) = false := by simp; omega
  have hp8 : (p : Int) + 8 ≤ (n : Int) := by omega
  have x4 : (⟨l.toArray⟩ : ByteArray).extract p (p + 4) = ⟨((l.drop p).take 4).toArray⟩ := by rw [ba_extract]; simp
  have x48 : (⟨l.toArray⟩ : ByteArray).extract (p + 4) (p + 8) = ⟨(((l.drop p).drop 4).take 4).toArray⟩ := by rw [ba_extract, List.drop_drop, show p + 8 - (p + 4) = 4 by omega]
  have xs : (⟨l.toArray⟩ : ByteArray).extract (p + 8) (p + 8 + valN ((l.drop p).take 4)) = ⟨(((l.drop p).drop 8).take (valN ((l.drop p).take 4))).toArray⟩ := by rw [ba_extract, List.drop_drop, show p + 8 + valN ((l.drop p).take 4) - (p + 8) = valN ((l.drop p).take 4) by omega]
  have HV := Lib.hid (value_any ((l.drop p).take 4) (by rw [List.length_take]; omega))
  have HV2 := Lib.hid (value_any (((l.drop p).drop 4).take 4) (by rw [List.length_take]; omega))
  have hlc : (((l.drop p).drop 8).take (valN ((l.drop p).take 4))).length ≤ 1048576 := by rw [List.length_take, List.length_drop, List.length_drop]; omega
  have HC := Lib.hid (rsum_any (((l.drop p).drop 8).take (valN ((l.drop p).take 4))) (by omega))
  have hv : valN ((l.drop p).take 4) < 4294967296 := valN4 _ (by rw [List.length_take]; omega)
  generalize Crc.sum (((l.drop p).drop 8).take (valN ((l.drop p).take 4))) = cs at *
  generalize valN (((l.drop p).drop 4).take 4) = vs at *
  generalize ((l.drop p).drop 4).take 4 = lc at *
  generalize valN ((l.drop p).take 4) = v at *
  generalize ((l.drop p).drop 8).take v = fb at *
  generalize (l.drop p).take 4 = a at *
  have hv1 : (v : Int) < 4294967296 := by omega
  have hv0 : (0 : Int) ≤ v := by omega
  have hd1 : decide ((most : Int) < (v : Int)) = false := by simp; omega
  have hd1n : decide (most < v) = false := by simp; omega
  have hd2 : decide ((n : Int) - (p : Int) - 8 < (v : Int)) = true := by simp; omega
  clear h hn hl hp hmo hdl hlc
  go_enter Tryd.func90, Tryd.ntmps90
  go_wp2_with fail
  refine (HV.out _).mono ?_
  rintro e w1 ⟨rfl, rfl⟩
  go_wp2_with fail
  go_returns
  exact ⟨⟨[], rfl⟩, rfl⟩
set_option maxHeartbeats 16000000 in
theorem whole_sum (l : Bs) (p most : Nat) (hp : p ≤ l.length) (hl : l.length ≤ 1048576) (hmo : most ≤ 1048576) (h : ¬ (l.drop p).length < 8) (hm : ¬ valN ((l.drop p).take 4) > most) (hg : ¬ valN ((l.drop p).take 4) > (l.drop p).length - 8) (hq : ¬ valN (((l.drop p).drop 4).take 4) = Crc.sum (((l.drop p).drop 8).take (valN ((l.drop p).take 4)))) (w : World) :
    Calls Tryd.prog 90 #[.string ⟨l.toArray⟩, .int .i64 (p : Int), .int .i64 (most : Int)] w fun e w' => (∃ s : Bs, e = .returned (.tuple #[.string ⟨s.toArray⟩, .bool false])) ∧ w = w' := by
  obtain ⟨n, hn⟩ : ∃ n, n = l.length := ⟨_, rfl⟩
  have hsz : (⟨l.toArray⟩ : ByteArray).size = n := by rw [size_ba, hn]
  have hn1 : (n : Int) ≤ 1048576 := by omega
  have hp1 : (p : Int) ≤ (n : Int) := by omega
  have hp0 : (0 : Int) ≤ p := by omega
  have hmo1 : (most : Int) ≤ 1048576 := by omega
  have hmo0 : (0 : Int) ≤ most := by omega
  have hdl : (l.drop p).length = n - p := by rw [List.length_drop, hn]
  have hd0 : decide ((n : Int) < (p : Int) + 8) = false := by simp; omega
  have hp8 : (p : Int) + 8 ≤ (n : Int) := by omega
  have x4 : (⟨l.toArray⟩ : ByteArray).extract p (p + 4) = ⟨((l.drop p).take 4).toArray⟩ := by rw [ba_extract]; simp
  have x48 : (⟨l.toArray⟩ : ByteArray).extract (p + 4) (p + 8) = ⟨(((l.drop p).drop 4).take 4).toArray⟩ := by rw [ba_extract, List.drop_drop, show p + 8 - (p + 4) = 4 by omega]
  have xs : (⟨l.toArray⟩ : ByteArray).extract (p + 8) (p + 8 + valN ((l.drop p).take 4)) = ⟨(((l.drop p).drop 8).take (valN ((l.drop p).take 4))).toArray⟩ := by rw [ba_extract, List.drop_drop, show p + 8 + valN ((l.drop p).take 4) - (p + 8) = valN ((l.drop p).take 4) by omega]
  have HV := Lib.hid (value_any ((l.drop p).take 4) (by rw [List.length_take]; omega))
  have HV2 := Lib.hid (value_any (((l.drop p).drop 4).take 4) (by rw [List.length_take]; omega))
  have hlc : (((l.drop p).drop 8).take (valN ((l.drop p).take 4))).length ≤ 1048576 := by rw [List.length_take, List.length_drop, List.length_drop]; omega
  have HC := Lib.hid (rsum_any (((l.drop p).drop 8).take (valN ((l.drop p).take 4))) (by omega))
  have hv : valN ((l.drop p).take 4) < 4294967296 := valN4 _ (by rw [List.length_take]; omega)
  have hsl : Crc.sum (((l.drop p).drop 8).take (valN ((l.drop p).take 4))) < 4294967296 := Crc.sum_lt _
  have hsl1 : (Crc.sum (((l.drop p).drop 8).take (valN ((l.drop p).take 4))) : Int) < 4294967296 := by omega
  generalize Crc.sum (((l.drop p).drop 8).take (valN ((l.drop p).take 4))) = cs at *
  generalize valN (((l.drop p).drop 4).take 4) = vs at *
  generalize ((l.drop p).drop 4).take 4 = lc at *
  generalize valN ((l.drop p).take 4) = v at *
  generalize ((l.drop p).drop 8).take v = fb at *
  generalize (l.drop p).take 4 = a at *
  have hv1 : (v : Int) < 4294967296 := by omega
  have hv0 : (0 : Int) ≤ v := by omega
  have hd3 : ((vs : Int) == (cs : Int)) = false := by simp; omega
  have hd1 : decide ((most : Int) < (v : Int)) = false := by simp; omega
  have hd1n : decide (most < v) = false := by simp; omega
  have hd2 : decide ((n : Int) - (p : Int) - 8 < (v : Int)) = false := by simp; omega
  have hvn : (v : Int) ≤ (n : Int) - (p : Int) - 8 := by omega
  clear h hn hl hp hmo hdl hlc
  go_enter Tryd.func90, Tryd.ntmps90
  go_wp2_with fail
  refine (HV.out _).mono ?_
  rintro e w1 ⟨rfl, rfl⟩
  go_wp2_with fail
  refine (HV2.out _).mono ?_
  rintro e w1 ⟨rfl, rfl⟩
  go_wp2_with fail
  refine (HC.out _).mono ?_
  rintro e w1 ⟨rfl, rfl⟩
  go_wp2_with fail
  go_returns
  exact ⟨⟨fb, rfl⟩, rfl⟩
set_option maxHeartbeats 16000000 in
theorem whole_ok (l : Bs) (p most : Nat) (hp : p ≤ l.length) (hl : l.length ≤ 1048576) (hmo : most ≤ 1048576) (h : ¬ (l.drop p).length < 8) (hm : ¬ valN ((l.drop p).take 4) > most) (hg : ¬ valN ((l.drop p).take 4) > (l.drop p).length - 8) (hq : valN (((l.drop p).drop 4).take 4) = Crc.sum (((l.drop p).drop 8).take (valN ((l.drop p).take 4)))) (w : World) :
    Calls Tryd.prog 90 #[.string ⟨l.toArray⟩, .int .i64 (p : Int), .int .i64 (most : Int)] w fun e w' => e = .returned (.tuple #[.string ⟨(((l.drop p).drop 8).take (valN ((l.drop p).take 4))).toArray⟩, .bool true]) ∧ w = w' := by
  obtain ⟨n, hn⟩ : ∃ n, n = l.length := ⟨_, rfl⟩
  have hsz : (⟨l.toArray⟩ : ByteArray).size = n := by rw [size_ba, hn]
  have hn1 : (n : Int) ≤ 1048576 := by omega
  have hp1 : (p : Int) ≤ (n : Int) := by omega
  have hp0 : (0 : Int) ≤ p := by omega
  have hmo1 : (most : Int) ≤ 1048576 := by omega
  have hmo0 : (0 : Int) ≤ most := by omega
  have hdl : (l.drop p).length = n - p := by rw [List.length_drop, hn]
  have hd0 : decide ((n : Int) < (p : Int) + 8) = false := by simp; omega
  have hp8 : (p : Int) + 8 ≤ (n : Int) := by omega
  have x4 : (⟨l.toArray⟩ : ByteArray).extract p (p + 4) = ⟨((l.drop p).take 4).toArray⟩ := by rw [ba_extract]; simp
  have x48 : (⟨l.toArray⟩ : ByteArray).extract (p + 4) (p + 8) = ⟨(((l.drop p).drop 4).take 4).toArray⟩ := by rw [ba_extract, List.drop_drop, show p + 8 - (p + 4) = 4 by omega]
  have xs : (⟨l.toArray⟩ : ByteArray).extract (p + 8) (p + 8 + valN ((l.drop p).take 4)) = ⟨(((l.drop p).drop 8).take (valN ((l.drop p).take 4))).toArray⟩ := by rw [ba_extract, List.drop_drop, show p + 8 + valN ((l.drop p).take 4) - (p + 8) = valN ((l.drop p).take 4) by omega]
  have HV := Lib.hid (value_any ((l.drop p).take 4) (by rw [List.length_take]; omega))
  have HV2 := Lib.hid (value_any (((l.drop p).drop 4).take 4) (by rw [List.length_take]; omega))
  have hlc : (((l.drop p).drop 8).take (valN ((l.drop p).take 4))).length ≤ 1048576 := by rw [List.length_take, List.length_drop, List.length_drop]; omega
  have HC := Lib.hid (rsum_any (((l.drop p).drop 8).take (valN ((l.drop p).take 4))) (by omega))
  have hv : valN ((l.drop p).take 4) < 4294967296 := valN4 _ (by rw [List.length_take]; omega)
  have hsl : Crc.sum (((l.drop p).drop 8).take (valN ((l.drop p).take 4))) < 4294967296 := Crc.sum_lt _
  have hsl1 : (Crc.sum (((l.drop p).drop 8).take (valN ((l.drop p).take 4))) : Int) < 4294967296 := by omega
  generalize Crc.sum (((l.drop p).drop 8).take (valN ((l.drop p).take 4))) = cs at *
  generalize valN (((l.drop p).drop 4).take 4) = vs at *
  generalize ((l.drop p).drop 4).take 4 = lc at *
  generalize valN ((l.drop p).take 4) = v at *
  generalize ((l.drop p).drop 8).take v = fb at *
  generalize (l.drop p).take 4 = a at *
  have hv1 : (v : Int) < 4294967296 := by omega
  have hv0 : (0 : Int) ≤ v := by omega
  have hd3 : ((vs : Int) == (cs : Int)) = true := by simp; omega
  have hd1 : decide ((most : Int) < (v : Int)) = false := by simp; omega
  have hd1n : decide (most < v) = false := by simp; omega
  have hd2 : decide ((n : Int) - (p : Int) - 8 < (v : Int)) = false := by simp; omega
  have hvn : (v : Int) ≤ (n : Int) - (p : Int) - 8 := by omega
  clear h hn hl hp hmo hdl hlc
  go_enter Tryd.func90, Tryd.ntmps90
  go_wp2_with fail
  refine (HV.out _).mono ?_
  rintro e w1 ⟨rfl, rfl⟩
  go_wp2_with fail
  refine (HV2.out _).mono ?_
  rintro e w1 ⟨rfl, rfl⟩
  go_wp2_with fail
  refine (HC.out _).mono ?_
  rintro e w1 ⟨rfl, rfl⟩
  go_wp2_with fail
  go_returns
  exact ⟨rfl, rfl⟩
theorem whole_any (l : Bs) (p most : Nat) (hp : p ≤ l.length) (hl : l.length ≤ 1048576) (hmo : most ≤ 1048576) (w : World) :
    Calls Tryd.prog 90 #[.string ⟨l.toArray⟩, .int .i64 (p : Int), .int .i64 (most : Int)] w fun e w' => wfV (unframed (l.drop p) most) e ∧ w = w' := by
  unfold unframed whole
  by_cases h : (l.drop p).length < 8
  · rw [if_neg (by simp only [Bool.and_eq_true, decide_eq_true_eq]; omega)]; exact whole_short l p most hp hl hmo h w
  · by_cases hm : valN ((l.drop p).take 4) > most
    · rw [if_neg (by simp only [Bool.and_eq_true, decide_eq_true_eq]; omega)]; exact whole_most l p most hp hl hmo h hm w
    · by_cases hg : valN ((l.drop p).take 4) > (l.drop p).length - 8
      · rw [if_neg (by simp only [Bool.and_eq_true, decide_eq_true_eq]; omega)]; exact whole_long l p most hp hl hmo h hm hg w
      · by_cases hq : valN (((l.drop p).drop 4).take 4) = Crc.sum (((l.drop p).drop 8).take (valN ((l.drop p).take 4)))
        · rw [if_pos (by simp only [Bool.and_eq_true, decide_eq_true_eq]; exact ⟨⟨⟨by omega, by omega⟩, by omega⟩, hq⟩)]; exact whole_ok l p most hp hl hmo h hm hg hq w
        · rw [if_neg (by simp only [Bool.and_eq_true, decide_eq_true_eq]; exact fun h => hq h.2)]; exact whole_sum l p most hp hl hmo h hm hg hq w
end Go.Proofs.YtmoihgniglomiaaDoor
/- A file's beginning: the document's way. Condition: none. -/
set_option linter.unusedVariables false
set_option linter.unusedSimpArgs false
set_option maxRecDepth 100000
namespace Go.Proofs.YtmoihgniglomiaaDoor
open Go.RowKit Go.Sort

theorem unframed_drop {s : Bs} {most : Nat} {r b : Bs} (h : unframed s most = some (r, b)) : b = s.drop (8 + r.length) := by
  have := unframed_len h
  unfold unframed at h
  split at h
  · rename_i hw
    simp only [Option.some.injEq, Prod.mk.injEq] at h
    obtain ⟨rfl, rfl⟩ := h
    simp only [whole, Bool.and_eq_true, decide_eq_true_eq] at hw
    rw [List.drop_drop, List.length_take, List.length_drop, Nat.min_eq_left hw.1.2]
  · cases h
set_option maxHeartbeats 16000000 in
theorem counts_short (l : Bs) (h : l.length < 12) (w : World) :
    Calls Tryd.prog 89 #[.string ⟨l.toArray⟩] w fun e w' => e = .returned (.tuple #[.int .u64 0, .string ⟨#[]⟩, .int .i64 0]) ∧ w = w' := by
  obtain ⟨n, hn⟩ : ∃ n, n = l.length := ⟨_, rfl⟩
  have hsz : (⟨l.toArray⟩ : ByteArray).size = n := by rw [size_ba, hn]
  have hn1 : decide ((n : Int) < 12) = true := by simp; omega
  clear h hn
  go_enter Tryd.func89, Tryd.ntmps89
  go_wp2_with fail
  go_returns
  exact ⟨rfl, rfl⟩
set_option maxHeartbeats 16000000 in
theorem counts_mark (l : Bs) (h : ¬ l.length < 12) (hm : l.take 4 ≠ mark) (w : World) :
    Calls Tryd.prog 89 #[.string ⟨l.toArray⟩] w fun e w' => e = .returned (.tuple #[.int .u64 0, .string ⟨#[]⟩, .int .i64 0]) ∧ w = w' := by
  obtain ⟨n, hn⟩ : ∃ n, n = l.length := ⟨_, rfl⟩
  have hsz : (⟨l.toArray⟩ : ByteArray).size = n := by rw [size_ba, hn]
  have hn1 : decide ((n : Int) < 12) = false := by simp; omega
  have hn2 : (12 : Int) ≤ (n : Int) := by omega
  have x4 : (⟨l.toArray⟩ : ByteArray).extract 0 4 = ⟨(l.take 4).toArray⟩ := by rw [ba_extract]; simp
  generalize l.take 4 = a at x4 hm
  have hm2 : (a == [83, 78, 76, 49]) = false := by simpa [mark] using hm
  clear h hn hm
  go_enter Tryd.func89, Tryd.ntmps89
  go_wp2_with fail
  go_returns
  exact ⟨rfl, rfl⟩
set_option maxHeartbeats 16000000 in
theorem counts_none (l : Bs) (h : ¬ l.length < 12) (hl : l.length ≤ 1048576) (hm : l.take 4 = mark) (hu : unframed (l.drop 12) 524288 = none) (w : World) :
    Calls Tryd.prog 89 #[.string ⟨l.toArray⟩] w fun e w' => (∃ (s : Bs) (a : Int), e = .returned (.tuple #[.int .u64 0, .string ⟨s.toArray⟩, .int .i64 a])) ∧ w = w' := by
  obtain ⟨n, hn⟩ : ∃ n, n = l.length := ⟨_, rfl⟩
  have hsz : (⟨l.toArray⟩ : ByteArray).size = n := by rw [size_ba, hn]
  have hn1 : decide ((n : Int) < 12) = false := by simp; omega
  have hn2 : (12 : Int) ≤ (n : Int) := by omega
  have x4 : (⟨l.toArray⟩ : ByteArray).extract 0 4 = ⟨(l.take 4).toArray⟩ := by rw [ba_extract]; simp
  have xg : (⟨l.toArray⟩ : ByteArray).extract 4 12 = ⟨((l.drop 4).take 8).toArray⟩ := ba_extract _ _ _
  have hm2 : (l.take 4 == [83, 78, 76, 49]) = true := by rw [hm]; rfl
  have HV := Lib.hid (value_any ((l.drop 4).take 8) (by rw [List.length_take]; omega))
  have HW := Lib.hid (whole_any l 12 524288 (by omega) hl (by omega))
  have hvl : valN ((l.drop 4).take 8) < 18446744073709551616 := Nat.lt_of_lt_of_le (valN_lt _) (Nat.le_trans (Nat.pow_le_pow_right (by decide) (show ((l.drop 4).take 8).length ≤ 8 by rw [List.length_take]; omega)) (by decide))
  rw [hu] at HW
  generalize valN ((l.drop 4).take 8) = v at *
  generalize (l.drop 4).take 8 = c at *
  generalize l.take 4 = a at *
  have hv0 : (0 : Int) ≤ v := by omega
  have hv1 : (v : Int) < 18446744073709551616 := by omega
  clear h hn hl hm hu
  go_enter Tryd.func89, Tryd.ntmps89
  go_wp2_with fail
  refine (HV.out _).mono ?_
  rintro e w1 ⟨rfl, rfl⟩
  go_wp2_with fail
  refine (HW.out _).mono ?_
  rintro e w1 ⟨⟨s, rfl⟩, rfl⟩
  go_wp2_with fail
  go_returns
  exact ⟨⟨[], 0, rfl⟩, rfl⟩
set_option maxHeartbeats 16000000 in
theorem counts_gen (l : Bs) (h : ¬ l.length < 12) (hl : l.length ≤ 1048576) (hm : l.take 4 = mark) (snap b : Bs) (hu : unframed (l.drop 12) 524288 = some (snap, b)) (hg : ¬ valN ((l.drop 4).take 8) ≤ 4611686018427387904) (w : World) :
    Calls Tryd.prog 89 #[.string ⟨l.toArray⟩] w fun e w' => (∃ (s : Bs) (a : Int), e = .returned (.tuple #[.int .u64 0, .string ⟨s.toArray⟩, .int .i64 a])) ∧ w = w' := by
  obtain ⟨n, hn⟩ : ∃ n, n = l.length := ⟨_, rfl⟩
  have hsz : (⟨l.toArray⟩ : ByteArray).size = n := by rw [size_ba, hn]
  have hn1 : decide ((n : Int) < 12) = false := by simp; omega
  have hn2 : (12 : Int) ≤ (n : Int) := by omega
  have x4 : (⟨l.toArray⟩ : ByteArray).extract 0 4 = ⟨(l.take 4).toArray⟩ := by rw [ba_extract]; simp
  have xg : (⟨l.toArray⟩ : ByteArray).extract 4 12 = ⟨((l.drop 4).take 8).toArray⟩ := ba_extract _ _ _
  have hm2 : (l.take 4 == [83, 78, 76, 49]) = true := by rw [hm]; rfl
  have HV := Lib.hid (value_any ((l.drop 4).take 8) (by rw [List.length_take]; omega))
  have HW := Lib.hid (whole_any l 12 524288 (by omega) hl (by omega))
  have hvl : valN ((l.drop 4).take 8) < 18446744073709551616 := Nat.lt_of_lt_of_le (valN_lt _) (Nat.le_trans (Nat.pow_le_pow_right (by decide) (show ((l.drop 4).take 8).length ≤ 8 by rw [List.length_take]; omega)) (by decide))
  have hul := unframed_len hu
  rw [hu] at HW
  generalize valN ((l.drop 4).take 8) = v at *
  generalize (l.drop 4).take 8 = c at *
  generalize l.take 4 = a at *
  have hv0 : (0 : Int) ≤ v := by omega
  have hv1 : (v : Int) < 18446744073709551616 := by omega
  have hd2 : decide ((4611686018427387904 : Int) < (v : Int)) = true := by simp; omega
  have hd2n : decide (4611686018427387904 < v) = true := by simp; omega
  have hsn1 : (snap.length : Int) ≤ 524288 := by omega
  clear h hn hl hm hu
  go_enter Tryd.func89, Tryd.ntmps89
  go_wp2_with fail
  refine (HV.out _).mono ?_
  rintro e w1 ⟨rfl, rfl⟩
  go_wp2_with fail
  refine (HW.out _).mono ?_
  rintro e w1 ⟨rfl, rfl⟩
  go_wp2_with fail
  go_returns
  exact ⟨⟨[], 0, rfl⟩, rfl⟩
set_option maxHeartbeats 16000000 in
theorem counts_ok (l : Bs) (h : ¬ l.length < 12) (hl : l.length ≤ 1048576) (hm : l.take 4 = mark) (snap b : Bs) (hu : unframed (l.drop 12) 524288 = some (snap, b)) (hg : valN ((l.drop 4).take 8) ≤ 4611686018427387904) (w : World) :
    Calls Tryd.prog 89 #[.string ⟨l.toArray⟩] w fun e w' => e = .returned (.tuple #[.int .u64 (valN ((l.drop 4).take 8) : Int), .string ⟨snap.toArray⟩, .int .i64 (20 + (snap.length : Int))]) ∧ w = w' := by
  obtain ⟨n, hn⟩ : ∃ n, n = l.length := ⟨_, rfl⟩
  have hsz : (⟨l.toArray⟩ : ByteArray).size = n := by rw [size_ba, hn]
  have hn1 : decide ((n : Int) < 12) = false := by simp; omega
  have hn2 : (12 : Int) ≤ (n : Int) := by omega
  have x4 : (⟨l.toArray⟩ : ByteArray).extract 0 4 = ⟨(l.take 4).toArray⟩ := by rw [ba_extract]; simp
  have xg : (⟨l.toArray⟩ : ByteArray).extract 4 12 = ⟨((l.drop 4).take 8).toArray⟩ := ba_extract _ _ _
  have hm2 : (l.take 4 == [83, 78, 76, 49]) = true := by rw [hm]; rfl
  have HV := Lib.hid (value_any ((l.drop 4).take 8) (by rw [List.length_take]; omega))
  have HW := Lib.hid (whole_any l 12 524288 (by omega) hl (by omega))
  have hvl : valN ((l.drop 4).take 8) < 18446744073709551616 := Nat.lt_of_lt_of_le (valN_lt _) (Nat.le_trans (Nat.pow_le_pow_right (by decide) (show ((l.drop 4).take 8).length ≤ 8 by rw [List.length_take]; omega)) (by decide))
  have hul := unframed_len hu
  rw [hu] at HW
  generalize valN ((l.drop 4).take 8) = v at *
  generalize (l.drop 4).take 8 = c at *
  generalize l.take 4 = a at *
  have hv0 : (0 : Int) ≤ v := by omega
  have hv1 : (v : Int) < 18446744073709551616 := by omega
  have hd2 : decide ((4611686018427387904 : Int) < (v : Int)) = false := by simp; omega
  have hd2n : decide (4611686018427387904 < v) = false := by simp; omega
  have hsn1 : (snap.length : Int) ≤ 524288 := by omega
  clear h hn hl hm hu
  go_enter Tryd.func89, Tryd.ntmps89
  go_wp2_with fail
  refine (HV.out _).mono ?_
  rintro e w1 ⟨rfl, rfl⟩
  go_wp2_with fail
  refine (HW.out _).mono ?_
  rintro e w1 ⟨rfl, rfl⟩
  go_wp2_with fail
  go_returns
  exact ⟨rfl, rfl⟩
/-- what the document tells of a file's beginning -/
def cntV (x : Nat × Bs × Bs) (e : Ending) : Prop := ∃ (s : Bs) (a : Int), e = .returned (.tuple #[.int .u64 (x.1 : Int), .string ⟨s.toArray⟩, .int .i64 a]) ∧ (x.1 ≠ 0 → s = x.2.1 ∧ a = 20 + (x.2.1.length : Int))
theorem counts_any (l : Bs) (hl : l.length ≤ 1048576) (w : World) :
    Calls Tryd.prog 89 #[.string ⟨l.toArray⟩] w fun e w' => cntV (begins l) e ∧ w = w' := by
  unfold begins
  by_cases h : l.length < 12
  · rw [if_neg (by omega)]
    refine (counts_short l h w).mono ?_
    rintro e w' ⟨rfl, rfl⟩
    exact ⟨⟨[], 0, rfl, fun h => absurd rfl h⟩, rfl⟩
  · by_cases hm : l.take 4 = mark
    · cases hu : unframed (l.drop 12) 524288 with
      | none =>
        refine (counts_none l h hl hm hu w).mono ?_
        rintro e w' ⟨⟨s, a, rfl⟩, rfl⟩
        by_cases hg : valN ((l.drop 4).take 8) ≤ 4611686018427387904
        · rw [if_pos ⟨hm, by omega, hg⟩]; exact ⟨⟨s, a, rfl, fun h => absurd rfl h⟩, rfl⟩
        · rw [if_neg (fun h => hg h.2.2)]; exact ⟨⟨s, a, rfl, fun h => absurd rfl h⟩, rfl⟩
      | some x =>
        obtain ⟨snap, b⟩ := x
        by_cases hg : valN ((l.drop 4).take 8) ≤ 4611686018427387904
        · rw [if_pos ⟨hm, by omega, hg⟩]
          refine (counts_ok l h hl hm snap b hu hg w).mono ?_
          rintro e w' ⟨rfl, rfl⟩
          exact ⟨⟨snap, _, rfl, fun _ => ⟨rfl, rfl⟩⟩, rfl⟩
        · rw [if_neg (fun h => hg h.2.2)]
          refine (counts_gen l h hl hm snap b hu hg w).mono ?_
          rintro e w' ⟨⟨s, a, rfl⟩, rfl⟩
          exact ⟨⟨s, a, rfl, fun h => absurd rfl h⟩, rfl⟩
    · rw [if_neg (fun h => hm h.1)]
      refine (counts_mark l h hm w).mono ?_
      rintro e w' ⟨rfl, rfl⟩
      exact ⟨⟨[], 0, rfl, fun h => absurd rfl h⟩, rfl⟩
end Go.Proofs.YtmoihgniglomiaaDoor
