/- DiskLeaves' walk: what the power leaves is what After said. Conditions: that the numbers are int64, and the texts' lengths. -/
import Derived.Test.YtekagnhablkggaaX
set_option linter.unusedVariables false
set_option linter.unusedSimpArgs false
set_option maxRecDepth 100000
namespace Go.Proofs.Ytekagnhablkggaa
open Go.RowKit Go.Sort

theorem lose_safe {S : St} (h : S.Wf) (k : Nat) : AllSafe (S.lose k) ∧ (S.lose k).gone = true ∧ (S.lose k).f0 = S.f0.take (S.left k).1 ∧ (S.lose k).f1 = S.f1.take (S.left k).2 := by
  have := h.left k
  refine ⟨⟨?_, ?_, rfl⟩, rfl, rfl, rfl⟩
  · show (S.left k).1 = (S.f0.take (S.left k).1).length
    rw [List.length_take]; omega
  · show (S.left k).2 = (S.f1.take (S.left k).2).length
    rw [List.length_take]; omega
theorem Calm.crash_eq {S : St} (h : Calm S) (k : Nat) : S.crash (k : Int) = (0, S.lose k) := by
  unfold St.crash
  rw [h.1]
  simp only [Bool.false_eq_true, if_false]
  rw [if_neg (by omega), Int.toNat_natCast]
theorem gone_crash {S : St} (h : S.gone = true) (k : Int) : S.crash k = (2, S) := by
  unfold St.crash; rw [h]; rfl
theorem ext_take (l : List UInt8) (n m : Nat) (hn : n ≤ m) : (⟨(l.take m).toArray⟩ : ByteArray).extract 0 (⟨(l.take n).toArray⟩ : ByteArray).size = ⟨(l.take n).toArray⟩ := by
  rw [size_ba, ext_ba, List.take_take, List.length_take]
  congr 2
  by_cases h : n ≤ l.length
  · rw [show min (min n l.length) m = n by omega]
  · rw [show min (min n l.length) m = l.length by omega, List.take_length, List.take_of_length_le (by omega)]
/-- what a round of the law's loop asks of three texts -/
def Rnd (A L N : ByteArray) : Prop := L.size ≤ A.size ∧ A.extract 0 L.size = L ∧ N.size ≤ L.size ∧ L.extract 0 N.size = N ∧ A.size ≤ 1048576
theorem rnd_of (l : List UInt8) (hl : l.length ≤ 1048576) (s x : Nat) (hs : s ≤ x) (hx : x ≤ l.length) : Rnd ⟨l.toArray⟩ ⟨(l.take x).toArray⟩ ⟨(l.take s).toArray⟩ := by
  refine ⟨?_, ?_, ?_, ext_take l s x hs, ?_⟩
  · rw [size_ba, size_ba, List.length_take]; omega
  · have := ext_take l x l.length hx
    rwa [List.take_length] at this
  · rw [size_ba, size_ba, List.length_take, List.length_take]; omega
  · rw [size_ba]; exact hl
set_option maxHeartbeats 16000000 in
theorem leaves_none (vf vo : Value) (l : List ByteArray) (n : Int) (w : World) (h : StrIn w vf l) (hn : newE l ≠ 0) :
    Calls Try.prog 4 #[vf, vo, .int .i64 n] w fun e w' => e = .returned (.bool true) ∧ Below w.heap.size w w' := by
  have HM := Lib.hid (made_none vf vo l w h hn)
  have HN := Lib.hid (rnew_no vf l w h hn)
  obtain ⟨m, hm⟩ : ∃ m, newE l = m + 1 := ⟨newE l - 1, by omega⟩
  rw [hm] at HN
  have ht : (((m + 1 : Nat) : Int) != 0) = true := by simp; omega
  clear hm hn h
  go_enter Try.func4, Try.ntmps4
  go_wp2_with fail
  refine HM.out.mono ?_
  rintro e w' ⟨rfl, rfl⟩
  go_wp2_with fail
  refine HN.out.mono ?_
  rintro e w' ⟨rfl, rfl⟩
  go_wp2_with fail
  refine (fixed_any _).mono ?_
  rintro e w2 ⟨rfl, hb⟩
  have HB := Lib.hid hb
  clear hb
  go_wp2_with fail
  go_ret
  exact ⟨rfl, HB.out⟩
set_option maxHeartbeats 16000000 in
theorem leaves_some (vf vo : Value) (l : List ByteArray) (ops : List Op) (hok : ∀ x ∈ ops, OpOk x) (hlen : ops.length ≤ 140737488355328) (n : Int) (hn1 : -9223372036854775808 ≤ n) (hn2 : n ≤ 9223372036854775807) (w : World) (h : StrIn w vf l) (ho : OpsIn w vo ops) (hn : newE l = 0) :
    Calls Try.prog 4 #[vf, vo, .int .i64 n] w fun e w' => e = .returned (.bool true) ∧ Below w.heap.size w w' := by
  obtain ⟨x, y, rfl, hx, hy, hM⟩ := made_any vf vo l ops hok hlen w h ho hn
  have HM := Lib.hid hM
  have hcalm := (Calm.new x.data.toList y.data.toList).steps ops
  clear hM hok hlen h ho hn
  generalize ops.foldl stepM (St.new x.data.toList y.data.toList) = S at HM hcalm
  have CA := Lib.hid hcalm
  clear hcalm
  go_enter Try.func4, Try.ntmps4
  go_wp2_with fail
  refine HM.out.mono ?_
  rintro e w1 ⟨p, rfl, hO⟩
  have C1 := Lib.hid (Cf.one hO (Nat.le_refl _))
  clear hO HM
  rw [show p.v = .pointer (some ⟨p.b, 0, none⟩) from rfl]
  generalize p.b = b at C1 ⊢
  have HW := Lib.hid (C1.out.wf (i := 0) rfl)
  go_wp2_with fail
  refine (place_any n 10000 (by omega) (by omega) hn1 hn2 _).mono ?_
  rintro e w' ⟨rfl, rfl⟩
  obtain ⟨k, hk, hkl⟩ : ∃ k : Nat, n % 10000 = (k : Int) ∧ k ≤ 9999 := ⟨(n % 10000).toNat, by omega, by omega⟩
  rw [hk]
  clear hk
  go_wp2_with fail
  refine (C_clone (i := 0) C1.out rfl).mono ?_
  rintro e w2 ⟨c, rfl, hc, -⟩
  have C2 : Hid (Cf w.heap.size w w2 [(b, S), (c, S)] []) := Lib.hid hc
  clear hc C1
  go_wp2_with fail
  refine (C_crash (i := 1) C2.out rfl k (by omega)).mono ?_
  rintro e w3 ⟨rfl, hc, -⟩
  rw [CA.out.crash_eq] at hc ⊢
  have C3 : Hid (Cf w.heap.size w w3 [(b, S), (c, S.lose k)] []) := Lib.hid hc
  have LS := Lib.hid (lose_safe HW.out k)
  clear hc C2
  go_wp2_with fail
  refine (C_files (i := 0) C3.out rfl).mono ?_
  rintro e w4 ⟨⟨v, rfl, ht⟩, hb⟩
  obtain ⟨ga, rfl, _, hga⟩ := ht
  have C4 := Lib.hid (C3.out.down hb)
  have A4 := Lib.hid hga
  clear hb hga C3
  go_wp2_with fail
  refine (C_after (i := 0) C4.out rfl k (by omega)).mono ?_
  rintro e w5 ⟨⟨v, rfl, ht⟩, hb⟩
  rw [show S.after (k : Int) = ((S.lose k).f0, (S.lose k).f1) from rfl] at ht
  obtain ⟨gl, rfl, hgl0, hgl⟩ := ht
  have C5 := Lib.hid (C4.out.prot hb hgl0 hgl.lt)
  have A5 := Lib.hid (A4.out.below hb)
  have L5 := Lib.hid hgl
  clear hb hgl hgl0 C4 A4
  go_wp2_with fail
  refine (C_after (i := 0) C5.out rfl 0 (by decide)).mono ?_
  rintro e w6 ⟨⟨v, rfl, ht⟩, hb⟩
  rw [show S.after (0 : Int) = (S.f0.take (S.left 0).1, S.f1.take (S.left 0).2) from rfl] at ht
  obtain ⟨gn, rfl, _, hgn⟩ := ht
  have C6 := Lib.hid (C5.out.down hb)
  have A6 := Lib.hid (A5.out.below hb)
  have L6 := Lib.hid (L5.out.below hb)
  have N6 := Lib.hid hgn
  clear hb hgn C5 A5 L5
  go_wp2_with fail
  refine (C_files (i := 1) C6.out rfl).mono ?_
  rintro e w7 ⟨⟨v, rfl, ht⟩, hb⟩
  obtain ⟨gc, rfl, hgc0, hgc⟩ := ht
  have C7 := Lib.hid (C6.out.down hb)
  have A7 := Lib.hid (A6.out.below hb)
  have L7 := Lib.hid (L6.out.below hb)
  have N7 := Lib.hid (N6.out.below hb)
  have G7 := Lib.hid hgc
  clear hb hgc hgc0 C6 A6 L6 N6
  go_wp2_with fail
  refine (same_two w7 _ _ (S.lose k).f0 (S.lose k).f1 _ _ ⟨gc, rfl, Nat.le_refl _, G7.out⟩ ⟨gl, rfl, Nat.le_refl _, L7.out⟩).mono ?_
  rintro e w8 ⟨rfl, hb⟩
  have C8 := Lib.hid (C7.out.down hb)
  have A8 := Lib.hid (A7.out.below hb)
  have L8 := Lib.hid (L7.out.below hb)
  have N8 := Lib.hid (N7.out.below hb)
  clear hb C7 A7 L7 N7 G7
  go_wp2_with fail
  refine (C_waiting (i := 1) C8.out rfl).mono ?_
  rintro e w9 ⟨rfl, hb⟩
  rw [LS.out.1.waiting]
  have C9 := Lib.hid (C8.out.down hb)
  have A9 := Lib.hid (A8.out.below hb)
  have L9 := Lib.hid (L8.out.below hb)
  have N9 := Lib.hid (N8.out.below hb)
  clear hb C8 A8 L8 N8
  have hlw := HW.out.left k
  have hl0 := HW.out.left 0
  have hwl := HW.out.l0
  have hwl1 := HW.out.l1
  have hno := HW.out.left_none
  rw [hno] at N9
  have R0 : Hid (Rnd ⟨S.f0.toArray⟩ ⟨(S.lose k).f0.toArray⟩ ⟨(S.f0.take S.s0).toArray⟩) := Lib.hid (by rw [LS.out.2.2.1]; exact rnd_of S.f0 hwl S.s0 _ (by omega) (by omega))
  have R1 : Hid (Rnd ⟨S.f1.toArray⟩ ⟨(S.lose k).f1.toArray⟩ ⟨(S.f1.take S.s1).toArray⟩) := Lib.hid (by rw [LS.out.2.2.2]; exact rnd_of S.f1 hwl1 S.s1 _ (by omega) (by omega))
  have HSUM : Hid (((⟨(S.lose k).f0.toArray⟩ : ByteArray).size - (⟨(S.f0.take S.s0).toArray⟩ : ByteArray).size) + ((⟨(S.lose k).f1.toArray⟩ : ByteArray).size - (⟨(S.f1.take S.s1).toArray⟩ : ByteArray).size) = min k S.waiting) := Lib.hid (by
    rw [LS.out.2.2.1, LS.out.2.2.2]
    simp only [size_ba, List.length_take]
    omega)
  have HWB : Hid (S.waiting ≤ 2097152) := Lib.hid (by unfold St.waiting; omega)
  clear hlw hl0 hwl hwl1 hno
  have LK : Hid (Bk 9 w9 gl #[.string ⟨(S.lose k).f0.toArray⟩, .string ⟨(S.lose k).f1.toArray⟩]) := L9
  have SC : Hid ((S.lose k).after 0 = ((S.lose k).f0, (S.lose k).f1)) := Lib.hid (LS.out.1.after 0)
  generalize hA0 : (⟨S.f0.toArray⟩ : ByteArray) = A0 at A9 R0
  generalize hA1 : (⟨S.f1.toArray⟩ : ByteArray) = A1 at A9 R1
  generalize hL0 : (⟨(S.lose k).f0.toArray⟩ : ByteArray) = L0 at L9 R0 HSUM
  generalize hL1 : (⟨(S.lose k).f1.toArray⟩ : ByteArray) = L1 at L9 R1 HSUM
  generalize hN0 : (⟨(S.f0.take S.s0).toArray⟩ : ByteArray) = N0 at N9 R0 HSUM
  generalize hN1 : (⟨(S.f1.take S.s1).toArray⟩ : ByteArray) = N1 at N9 R1 HSUM
  clear hA0 hA1 hL0 hL1 hN0 hN1
  go_wp2_with fail
  refine wp_loop_rounds 3 ?_
  rw [rounds_succ]
  go_wp2_with fail
  have hne := ne9
  obtain ⟨q1, q2, q3, q4, q5⟩ := R0.out
  have a0 := A9.out.cell 0
  have l0 := L9.out.cell 0
  have n0 := N9.out.cell 0
  have p1 : decide (A0.size < L0.size) = false := by simp; omega
  have p2 : decide (L0.size < N0.size) = false := by simp; omega
  go_quiet (fail)
  go_wp2_with fail
  go_quiet (fail)
  clear q1 q2 q3 q4 q5 p1 p2
  go_wp2_with fail
  rw [rounds_succ]
  go_wp2_with fail
  obtain ⟨q1, q2, q3, q4, q5⟩ := R1.out
  have a1 := A9.out.cell 1
  have l1 := L9.out.cell 1
  have n1 := N9.out.cell 1
  have p1 : decide (A1.size < L1.size) = false := by simp; omega
  have p2 : decide (L1.size < N1.size) = false := by simp; omega
  go_quiet (fail)
  go_wp2_with fail
  go_quiet (fail)
  clear q1 q2 q3 q4 q5 p1 p2
  go_wp2_with fail
  rw [rounds_succ]
  go_wp2_with fail
  have CX := Lib.hid (fun d => C9.out.down (below_drewN (Below.refl w9.heap.size w9) d))
  have LX := Lib.hid (fun d => LK.out.below (below_drewN (Below.refl w9.heap.size w9) d))
  refine (C_waiting (i := 0) (CX.out _) rfl).mono ?_
  rintro e w11 ⟨rfl, hb⟩
  have C11 := Lib.hid ((CX.out _).down hb)
  have L11 := Lib.hid ((LX.out _).below hb)
  have EV : wrap64 ((L0.size : Int) - (N0.size : Int) + ((L1.size : Int) - (N1.size : Int))) = ((min k S.waiting : Nat) : Int) := by
    obtain ⟨_, _, q3, _, q5⟩ := R0.out
    obtain ⟨_, _, r3, _, r5⟩ := R1.out
    have hs := HSUM.out
    have hw := HWB.out
    rw [IntWalk.wrap64_in _ ⟨by omega, by omega⟩]
    omega
  have EM : min (k : Int) (S.waiting : Int) = ((min k S.waiting : Nat) : Int) := by omega
  rw [EV]
  clear EV hb CX LX LK C9 A9 L9 N9 R0 R1 HSUM HWB
  generalize min k S.waiting = M at EM ⊢
  generalize S.waiting = Wt at EM ⊢
  go_wp2_with fail
  refine (C_crash (i := 1) C11.out rfl 0 (by decide)).mono ?_
  rintro e w12 ⟨rfl, hc, hkp⟩
  rw [gone_crash LS.out.2.1] at hc ⊢
  have C12 : Hid (Cf w.heap.size w w12 [(b, S), (c, S.lose k)] [gl]) := Lib.hid hc
  have L12 : Hid (Bk 9 w12 gl #[.string ⟨(S.lose k).f0.toArray⟩, .string ⟨(S.lose k).f1.toArray⟩]) := Lib.hid ((hkp gl (by simp)).trans L11.out)
  clear hc hkp C11 L11 EM
  go_wp2_with fail
  refine (C_after (i := 1) C12.out rfl 0 (by decide)).mono ?_
  rintro e w13 ⟨⟨v, rfl, ht⟩, hb⟩
  rw [SC.out] at ht
  obtain ⟨ge, rfl, _, hge⟩ := ht
  have C13 := Lib.hid (C12.out.down hb)
  have L13 := Lib.hid (L12.out.below hb)
  have E13 := Lib.hid hge
  clear hb hge C12 L12
  go_wp2_with fail
  refine (same_two w13 _ _ (S.lose k).f0 (S.lose k).f1 _ _ ⟨ge, rfl, Nat.le_refl _, E13.out⟩ ⟨gl, rfl, Nat.le_refl _, L13.out⟩).mono ?_
  rintro e w14 ⟨rfl, hb⟩
  have C14 := Lib.hid (C13.out.down hb)
  clear hb C13 L13 E13
  go_wp2_with fail
  refine (fixed_any _).mono ?_
  rintro e w15 ⟨rfl, hb⟩
  have HB : Hid (Below w.heap.size w w15) := Lib.hid (C14.out.below.trans (hb.mono C14.out.below.size))
  clear hb
  go_wp2_with fail
  go_ret
  exact ⟨rfl, HB.out⟩
theorem leaves_walk (vf vo : Value) (l : List ByteArray) (ops : List Op) (hok : ∀ x ∈ ops, OpOk x) (hlen : ops.length ≤ 140737488355328) (n : Int) (hn1 : -9223372036854775808 ≤ n) (hn2 : n ≤ 9223372036854775807) (w : World) (h : StrIn w vf l) (ho : OpsIn w vo ops) :
    Calls Try.prog 4 #[vf, vo, .int .i64 n] w fun e w' => e = .returned (.bool true) ∧ Below w.heap.size w w' := by
  by_cases hn : newE l = 0
  · exact leaves_some vf vo l ops hok hlen n hn1 hn2 w h ho hn
  · exact leaves_none vf vo l n w h hn
end Go.Proofs.Ytekagnhablkggaa
