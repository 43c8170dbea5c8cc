/- DiskSafe's walk: behind a sync a crash takes nothing. Conditions: that the numbers are int64, and the texts' lengths. -/
import Derived.Test.YtekagnhablkggaaW
set_option linter.unusedVariables false
set_option linter.unusedSimpArgs false
set_option maxRecDepth 100000
namespace Go.Proofs.Ytekagnhablkggaa
open Go.RowKit Go.Sort

/-- no power is at stake -/
def Calm (S : St) : Prop := S.gone = false ∧ S.inn = 0
theorem Calm.count {S : St} (h : Calm S) : S.count = (0, S) := by simp [St.count, h.2]
theorem Calm.lay {S : St} (h : Calm S) (f : Nat) (s : List UInt8) : Calm (S.lay f s) := by unfold St.lay; split <;> exact h
theorem Calm.append {S : St} (h : Calm S) (f : Int) (s : List UInt8) : Calm (S.append f s).2 := by
  unfold St.append
  rw [h.1]
  simp only [Bool.false_eq_true, if_false]
  split
  · exact h
  · split
    · exact h
    · rw [(h.lay _ _).count]; exact h.lay _ _
theorem Calm.sync_eq {S : St} (h : Calm S) : S.sync = (0, S.keep S.waiting) := by
  unfold St.sync
  rw [h.1, h.count]
  simp
theorem Calm.cut {S : St} (h : Calm S) (f n : Int) : Calm (S.cut f n).2 := by
  unfold St.cut
  rw [h.1, h.count]
  simp only [Bool.false_eq_true, if_false, if_true]
  split
  · exact h
  · split
    · exact h
    · unfold St.cutF; split <;> exact h
theorem Calm.step {S : St} (h : Calm S) (o : Op) : Calm (stepM S o) := by
  unfold stepM
  split
  · exact h.append _ _
  · split
    · rw [h.sync_eq]; exact h
    · split
      · exact h.cut _ _
      · exact h
theorem Calm.steps {S : St} (h : Calm S) (l : List Op) : Calm (l.foldl stepM S) := by
  induction l generalizing S with
  | nil => exact h
  | cons o l ih => exact ih (h.step o)
theorem Calm.new (a b : List UInt8) : Calm (St.new a b) := ⟨rfl, rfl⟩
/-- all is safe -/
def AllSafe (S : St) : Prop := S.s0 = S.f0.length ∧ S.s1 = S.f1.length ∧ S.row = []
theorem keep_all {S : St} (h : S.Wf) : (S.keep S.waiting).f0 = S.f0 ∧ (S.keep S.waiting).f1 = S.f1 ∧ AllSafe (S.keep S.waiting) := by
  have e := h.left_all S.waiting (Nat.le_refl _)
  refine ⟨?_, ?_, ?_, ?_, rfl⟩ <;> simp [St.keep, e]
theorem AllSafe.waiting {S : St} (h : AllSafe S) : S.waiting = 0 := by unfold St.waiting; rw [h.1, h.2.1]; simp
theorem AllSafe.after {S : St} (h : AllSafe S) (k : Int) : S.after k = (S.f0, S.f1) := by
  unfold St.after St.left
  rw [h.2.2]
  simp [leftL, h.1, h.2.1]
theorem safe_cut0 {S : St} (hc : Calm S) (h : AllSafe S) (k : Nat) (hk : k ≤ S.f0.length) : S.cut 0 k = (0, S.cut0 k) := by
  unfold St.cut
  rw [hc.1, hc.count]
  have e : S.file ((0 : Int).toNat) = S.f0 := rfl
  have e2 : S.safe ((0 : Int).toNat) = S.s0 := rfl
  rw [e, e2, h.1]
  simp only [Bool.false_eq_true, if_false, if_true]
  rw [if_neg (by decide), if_neg (by omega)]
  simp [St.cutF]
theorem safe_cut1 {S : St} (hc : Calm S) (h : AllSafe S) (k : Nat) (hk : k ≤ S.f1.length) : S.cut 1 k = (0, S.cut1 k) := by
  unfold St.cut
  rw [hc.1, hc.count]
  have e : S.file ((1 : Int).toNat) = S.f1 := rfl
  have e2 : S.safe ((1 : Int).toNat) = S.s1 := rfl
  rw [e, e2, h.2.1]
  simp only [Bool.false_eq_true, if_false, if_true]
  rw [if_neg (by decide), if_neg (by omega)]
  simp [St.cutF]
theorem AllSafe.cut0 {S : St} (h : AllSafe S) (k : Nat) (hk : k ≤ S.f0.length) : AllSafe (S.cut0 k) := ⟨by simp [St.cut0]; omega, h.2.1, h.2.2⟩
theorem cut0_size {S : St} (k : Nat) (hk : k ≤ S.f0.length) : (S.cut0 k).size 0 = (k : Int) := by
  show (if St.there 0 then (((S.cut0 k).file 0).length : Int) else -1) = _
  rw [if_pos (show St.there 0 = true from rfl)]
  simp [St.file, St.cut0]; omega
theorem cut1_size {S : St} (k : Nat) (hk : k ≤ S.f1.length) : (S.cut1 k).size 1 = (k : Int) := by
  show (if St.there 1 then (((S.cut1 k).file 1).length : Int) else -1) = _
  rw [if_pos (show St.there 1 = true from rfl)]
  simp [St.file, St.cut1]; omega
theorem cut0_read {S : St} (hc : Calm S) (k : Nat) : (S.cut0 k).read 0 = (S.f0.take k, 0) := by
  have h : (S.cut0 k).gone = false := hc.1
  unfold St.read
  rw [h]
  rfl
theorem cut1_read {S : St} (hc : Calm S) (k : Nat) : (S.cut1 k).read 1 = (S.f1.take k, 0) := by
  have h : (S.cut1 k).gone = false := hc.1
  unfold St.read
  rw [h]
  rfl
theorem ext_ba (l : List UInt8) (k : Nat) : (⟨l.toArray⟩ : ByteArray).extract 0 k = ⟨(l.take k).toArray⟩ := by
  apply ByteArray.ext
  simp [ByteArray.data_extract, List.extract_eq_take_drop]
set_option maxHeartbeats 16000000 in
theorem safe_none (vf vo : Value) (l : List ByteArray) (n : Int) (w : World) (h : StrIn w vf l) (hn : newE l ≠ 0) :
    Calls Try.prog 5 #[vf, vo, .int .i64 n] w fun e w' => e = .returned (.bool true) ∧ Below w.heap.size w w' := by
  have HM := Lib.hid (made_none vf vo l w h hn)
  have HN := Lib.hid (rnew_no vf l w h hn)
  obtain ⟨m, hm⟩ : ∃ m, newE l = m + 1 := ⟨newE l - 1, by omega⟩
  rw [hm] at HN
  have ht : (((m + 1 : Nat) : Int) != 0) = true := by simp; omega
  clear hm hn h
  go_enter Try.func5, Try.ntmps5
  go_wp2_with fail
  refine HM.out.mono ?_
  rintro e w' ⟨rfl, rfl⟩
  go_wp2_with fail
  refine HN.out.mono ?_
  rintro e w' ⟨rfl, rfl⟩
  go_wp2_with fail
  refine (fixed_any _).mono ?_
  rintro e w2 ⟨rfl, hb⟩
  have HB := Lib.hid hb
  clear hb
  go_wp2_with fail
  go_ret
  exact ⟨rfl, HB.out⟩
set_option maxHeartbeats 16000000 in
theorem safe_some (vf vo : Value) (l : List ByteArray) (ops : List Op) (hok : ∀ x ∈ ops, OpOk x) (hlen : ops.length ≤ 140737488355328) (n : Int) (hn1 : -9223372036854775808 ≤ n) (hn2 : n ≤ 9223372036854775807) (w : World) (h : StrIn w vf l) (ho : OpsIn w vo ops) (hn : newE l = 0) :
    Calls Try.prog 5 #[vf, vo, .int .i64 n] w fun e w' => e = .returned (.bool true) ∧ Below w.heap.size w w' := by
  obtain ⟨x, y, rfl, hx, hy, hM⟩ := made_any vf vo l ops hok hlen w h ho hn
  have HM := Lib.hid hM
  have hcalm := (Calm.new x.data.toList y.data.toList).steps ops
  clear hM hok hlen h ho hn
  generalize ops.foldl stepM (St.new x.data.toList y.data.toList) = S at HM hcalm
  have CA := Lib.hid hcalm
  clear hcalm
  go_enter Try.func5, Try.ntmps5
  go_wp2_with fail
  refine HM.out.mono ?_
  rintro e w1 ⟨p, rfl, hO⟩
  have C1 := Lib.hid (Cf.one hO (Nat.le_refl _))
  clear hO HM
  rw [show p.v = .pointer (some ⟨p.b, 0, none⟩) from rfl]
  generalize p.b = b at C1 ⊢
  have HW := Lib.hid (C1.out.wf (i := 0) rfl)
  go_wp2_with fail
  refine (C_files (i := 0) C1.out rfl).mono ?_
  rintro e w2 ⟨⟨v, rfl, ht⟩, hb⟩
  obtain ⟨g, rfl, hg, hgk⟩ := ht
  have C2 := Lib.hid (C1.out.prot hb hg hgk.lt)
  have T2 := Lib.hid hgk
  clear hb hg hgk C1
  go_wp2_with fail
  refine (C_sync (i := 0) C2.out rfl).mono ?_
  rintro e w3 ⟨rfl, hc, hkp⟩
  rw [CA.out.sync_eq] at hc ⊢
  have C3 : Hid (Cf w.heap.size w w3 [(b, S.keep S.waiting)] [g]) := Lib.hid hc
  have T3 : Hid (Bk 9 w3 g #[.string ⟨S.f0.toArray⟩, .string ⟨S.f1.toArray⟩]) := Lib.hid ((hkp g (by simp)).trans T2.out)
  clear hc hkp C2 T2
  have KA := Lib.hid (keep_all HW.out)
  have CS : Hid (Calm (S.keep S.waiting)) := Lib.hid CA.out
  go_wp2_with fail
  refine (C_waiting (i := 0) C3.out rfl).mono ?_
  rintro e w4 ⟨rfl, hb⟩
  rw [KA.out.2.2.waiting]
  have C4 := Lib.hid (C3.out.down hb)
  have T4 := Lib.hid (T3.out.below hb)
  clear hb C3 T3
  go_wp2_with fail
  refine (C_files (i := 0) C4.out rfl).mono ?_
  rintro e w5 ⟨⟨v, rfl, ht⟩, hb⟩
  rw [KA.out.1, KA.out.2.1] at ht
  have C5 := Lib.hid (C4.out.down hb)
  have T5 := Lib.hid (T4.out.below hb)
  have HT := Lib.hid ht
  clear hb C4 T4 ht
  go_wp2_with fail
  refine (same_two w5 v _ S.f0 S.f1 _ g HT.out ⟨g, rfl, Nat.le_refl _, T5.out⟩).mono ?_
  rintro e w6 ⟨rfl, hb⟩
  have C6 := Lib.hid (C5.out.down hb)
  have T6 := Lib.hid (T5.out.below hb)
  clear hb C5 T5 HT
  go_wp2_with fail
  refine (C_after (i := 0) C6.out rfl 0 (by decide)).mono ?_
  rintro e w7 ⟨⟨v, rfl, ht⟩, hb⟩
  rw [KA.out.2.2.after, KA.out.1, KA.out.2.1] at ht
  have C7 := Lib.hid (C6.out.down hb)
  have T7 := Lib.hid (T6.out.below hb)
  have HT := Lib.hid ht
  clear hb C6 T6 ht
  go_wp2_with fail
  refine (same_two w7 v _ S.f0 S.f1 _ g HT.out ⟨g, rfl, Nat.le_refl _, T7.out⟩).mono ?_
  rintro e w8 ⟨rfl, hb⟩
  have C8 := Lib.hid (C7.out.down hb)
  have T8 := Lib.hid (T7.out.below hb)
  clear hb C7 T7 HT
  have hl0 := HW.out.l0
  have hl1 := HW.out.l1
  have hz0 := size_ba S.f0
  have hz1 := size_ba S.f1
  go_wp2_with fail
  refine wp_loop_rounds 3 ?_
  rw [rounds_succ]
  have t0 := T8.out.cell 0
  go_wp2_with fail
  obtain ⟨k0, hk0, hkl0⟩ : ∃ k : Nat, n % ((S.f0.length : Int) + 1) = (k : Int) ∧ k ≤ S.f0.length := ⟨(n % ((S.f0.length : Int) + 1)).toNat, by have := Int.emod_nonneg n (show (S.f0.length : Int) + 1 ≠ 0 by omega); omega, by have := Int.emod_lt_of_pos n (show (0 : Int) < (S.f0.length : Int) + 1 by omega); have := Int.emod_nonneg n (show (S.f0.length : Int) + 1 ≠ 0 by omega); omega⟩
  refine (place_any n ((S.f0.length : Int) + 1) (by omega) (by omega) hn1 hn2 _).mono ?_
  rintro e w' ⟨rfl, rfl⟩
  rw [hk0]
  have HK0 : Hid (k0 ≤ (S.keep S.waiting).f0.length) := Lib.hid (by rw [KA.out.1]; exact hkl0)
  have HKL0 := Lib.hid hkl0
  clear hk0 hkl0 t0
  go_wp2_with fail
  refine (C_cut (i := 0) C8.out rfl 0 k0).mono ?_
  rintro e w9 ⟨rfl, hc, hkp⟩
  rw [safe_cut0 CS.out KA.out.2.2 k0 HK0.out] at hc ⊢
  have C9 : Hid (Cf w.heap.size w w9 [(b, (S.keep S.waiting).cut0 k0)] [g]) := Lib.hid hc
  have T9 : Hid (Bk 9 w9 g #[.string ⟨S.f0.toArray⟩, .string ⟨S.f1.toArray⟩]) := Lib.hid ((hkp g (by simp)).trans T8.out)
  clear hc hkp C8 T8
  go_wp2_with fail
  refine (C_size (i := 0) C9.out rfl 0).mono ?_
  rintro e w' ⟨rfl, rfl⟩
  rw [cut0_size k0 HK0.out]
  go_wp2_with fail
  refine (C_read (i := 0) C9.out rfl 0).mono ?_
  rintro e w10 ⟨rfl, hb⟩
  rw [cut0_read CS.out k0]
  have C10 := Lib.hid (C9.out.down hb)
  have T10 := Lib.hid (T9.out.below hb)
  clear hb C9 T9
  have t0' := T10.out.cell 0
  have hx0 := ext_ba S.f0 k0
  have hkn0 : (k0 : Int) ≤ (S.f0.length : Int) := by have := HKL0.out; omega
  have hkm0 : k0 ≤ S.f0.length := HKL0.out
  rw [show (S.keep S.waiting).f0 = S.f0 from KA.out.1]
  have hne := ne9
  go_wp2_with fail
  rw [rounds_succ]
  clear t0' hx0 hkn0 hkm0
  have t1 := T10.out.cell 1
  go_wp2_with fail
  obtain ⟨k1, hk1, hkl1⟩ : ∃ k : Nat, n % ((S.f1.length : Int) + 1) = (k : Int) ∧ k ≤ S.f1.length := ⟨(n % ((S.f1.length : Int) + 1)).toNat, by have := Int.emod_nonneg n (show (S.f1.length : Int) + 1 ≠ 0 by omega); omega, by have := Int.emod_lt_of_pos n (show (0 : Int) < (S.f1.length : Int) + 1 by omega); have := Int.emod_nonneg n (show (S.f1.length : Int) + 1 ≠ 0 by omega); omega⟩
  refine (place_any n ((S.f1.length : Int) + 1) (by omega) (by omega) hn1 hn2 _).mono ?_
  rintro e w' ⟨rfl, rfl⟩
  rw [hk1]
  have HK1 : Hid (k1 ≤ ((S.keep S.waiting).cut0 k0).f1.length) := Lib.hid (by show k1 ≤ (S.keep S.waiting).f1.length; rw [KA.out.2.1]; exact hkl1)
  have HKL1 := Lib.hid hkl1
  clear hk1 hkl1 t1
  go_wp2_with fail
  refine (C_cut (i := 0) C10.out rfl 1 k1).mono ?_
  rintro e w11 ⟨rfl, hc, hkp⟩
  rw [safe_cut1 (show Calm ((S.keep S.waiting).cut0 k0) from CS.out) (KA.out.2.2.cut0 k0 HK0.out) k1 HK1.out] at hc ⊢
  have C11 : Hid (Cf w.heap.size w w11 [(b, ((S.keep S.waiting).cut0 k0).cut1 k1)] [g]) := Lib.hid hc
  have T11 : Hid (Bk 9 w11 g #[.string ⟨S.f0.toArray⟩, .string ⟨S.f1.toArray⟩]) := Lib.hid ((hkp g (by simp)).trans T10.out)
  clear hc hkp C10 T10
  go_wp2_with fail
  refine (C_size (i := 0) C11.out rfl 1).mono ?_
  rintro e w' ⟨rfl, rfl⟩
  rw [cut1_size k1 HK1.out]
  go_wp2_with fail
  refine (C_read (i := 0) C11.out rfl 1).mono ?_
  rintro e w12 ⟨rfl, hb⟩
  rw [cut1_read (show Calm ((S.keep S.waiting).cut0 k0) from CS.out) k1]
  have C12 := Lib.hid (C11.out.down hb)
  have T12 := Lib.hid (T11.out.below hb)
  clear hb C11 T11
  have t1' := T12.out.cell 1
  have hx1 := ext_ba S.f1 k1
  have hkn1 : (k1 : Int) ≤ (S.f1.length : Int) := by have := HKL1.out; omega
  have hkm1 : k1 ≤ S.f1.length := HKL1.out
  rw [show ((S.keep S.waiting).cut0 k0).f1 = S.f1 from KA.out.2.1]
  go_wp2_with fail
  rw [rounds_succ]
  clear t1' hx1 hkn1 hkm1
  go_wp2_with fail
  refine (fixed_any _).mono ?_
  rintro e w13 ⟨rfl, hb⟩
  have HB : Hid (Below w.heap.size w w13) := Lib.hid (C12.out.below.trans (hb.mono C12.out.below.size))
  clear hb
  go_wp2_with fail
  go_ret
  exact ⟨rfl, HB.out⟩
theorem safe_walk (vf vo : Value) (l : List ByteArray) (ops : List Op) (hok : ∀ x ∈ ops, OpOk x) (hlen : ops.length ≤ 140737488355328) (n : Int) (hn1 : -9223372036854775808 ≤ n) (hn2 : n ≤ 9223372036854775807) (w : World) (h : StrIn w vf l) (ho : OpsIn w vo ops) :
    Calls Try.prog 5 #[vf, vo, .int .i64 n] w fun e w' => e = .returned (.bool true) ∧ Below w.heap.size w w' := by
  by_cases hn : newE l = 0
  · exact safe_some vf vo l ops hok hlen n hn1 hn2 w h ho hn
  · exact safe_none vf vo l n w h hn
end Go.Proofs.Ytekagnhablkggaa
