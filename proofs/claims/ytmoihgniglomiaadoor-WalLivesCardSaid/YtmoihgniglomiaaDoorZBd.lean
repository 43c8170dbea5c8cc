/- The document's disk: Files, the power goes, changes are counted; Revive, Crash, Arm, Read, Size. No condition but the disk's own. -/
import Derived.Test.YtmoihgniglomiaaDoorZBc
set_option linter.unusedVariables false
set_option linter.unusedSimpArgs false
set_option maxRecDepth 100000
namespace Go.Proofs.YtmoihgniglomiaaDoor
open Go.RowKit Go.Sort

theorem files40 (r : Nat) (S : St) (uv : Value) (kp : Int) (w : World) (h : Rk w r S uv kp) :
    Calls Tryd.prog 27 #[.pointer (some ⟨r, 0, none⟩)] w fun e w' => (∃ v, e = .returned v ∧ Two w.heap.size w' v S.f0 S.f1) ∧ Below w.heap.size w w' := by
  have ha := after39 r S uv kp (S.un.length : Int) w h
  rw [St.un_len h.wf, after_all h.wf] at ha
  have HA := Lib.hid ha
  have hw := St.un_len h.wf
  obtain ⟨a, c, rfl, _⟩ := owns_len rfl h.row
  rw [hw] at h
  have b2 := h.blk.cell 2
  simp only [List.getElem?_toArray, List.getElem?_cons_succ, List.getElem?_cons_zero] at b2
  clear h ha hw
  generalize S.waiting = n at HA b2
  go_enter Tryd.func27, Tryd.ntmps27
  go_wp2_with fail
  refine HA.out.mono ?_
  rintro e w' ⟨⟨v, rfl, ht⟩, hb⟩
  have HT := Lib.hid ht
  have HB := Lib.hid hb
  clear ht hb HA b2
  go_wp2_with fail
  go_ret
  exact ⟨⟨_, rfl, HT.out⟩, HB.out⟩
theorem Wf.dead {S : St} (h : S.Wf) : ({ S with inn := 0 } : St).Wf := ⟨h.ok, h.t0, h.t1, h.l0, h.l1, by simp, h.ll⟩
theorem lose_cells (S : St) (k : Nat) : (S.lose k).f0.take (S.lose k).s0 = S.f0.take (S.left k).1 ∧ (S.lose k).f1.take (S.lose k).s1 = S.f1.take (S.left k).2 := by
  simp [St.lose, St.power, St.keep, List.take_take]
theorem keep_cells (S : St) (k : Nat) : (S.keep k).f0.take (S.keep k).s0 = S.f0.take (S.left k).1 ∧ (S.keep k).f1.take (S.keep k).s1 = S.f1.take (S.left k).2 := by
  simp [St.keep, List.take_take]
theorem nil_row (w : World) (S : St) (h : S.row = []) : w.ownsRow 0 127 2 (.slice none 0 0) S.un.length (ucells S.un) := by
  rw [St.un_nil h]
  exact ⟨rfl, .inl ⟨rfl, rfl⟩⟩
set_option maxHeartbeats 8000000 in
theorem die58 (r : Nat) (S : St) (uv : Value) (kp k : Int) (w : World) (h : Rk w r S uv kp) :
    Calls Tryd.prog 85 #[.pointer (some ⟨r, 0, none⟩), .int .i64 k] w fun e w' => e = .returned (.tuple #[]) ∧ Rk w' r (S.lose k.toNat) (.slice none 0 0) kp ∧ Only [r] w w' := by
  have HA := Lib.hid (after39 r S uv kp k w h)
  have H := Lib.hid h
  clear h
  go_enter Tryd.func85, Tryd.ntmps85
  go_wp2_with fail
  refine HA.out.mono ?_
  rintro e w1 ⟨⟨v, rfl, g, rfl, hg, kg⟩, hb⟩
  have KR := H.out.blk.below hb
  have hne : r ≠ g := by have := H.out.blk.lt; omega
  have hne' : g ≠ r := fun e => hne e.symm
  have c0 := KR.cell 0
  have c1 := KR.cell 1
  have c2 := KR.cell 2
  have c3 := KR.cell 3
  have c5 := KR.cell 5
  have f0 := KR.fro 0
  have f1 := KR.fro 1
  have f2 := KR.fro 2
  have f3 := KR.fro 3
  have f5 := KR.fro 5
  have g0 := kg.cell 0
  have g1 := kg.cell 1
  simp only [List.getElem?_toArray, List.getElem?_cons_succ, List.getElem?_cons_zero] at c0 c1 c2 c3 c5 g0 g1
  have KH := Lib.hid KR
  have HB := Lib.hid hb
  clear KR hb kg hg HA
  go_wp2_with fail
  go_returns
  refine ⟨rfl, ⟨?_, nil_row _ _ rfl, fun h => absurd rfl h, H.out.wf.lose _⟩, (((((Only.of HB.out).setCell _ (by simp) _).setCell _ (by simp) _).setCell _ (by simp) _).setCell _ (by simp) _).setCell _ (by simp) _⟩
  rw [(lose_cells S _).1, (lose_cells S _).2]
  have := Bk.same (i := 5) (v := .bool true) (Bk.same (i := 3) (v := .int .i64 0) (Bk.same (i := 2) (v := .slice none 0 0) (Bk.same (i := 1) (v := .string ⟨(S.after k).2.toArray⟩) (Bk.same (i := 0) (v := .string ⟨(S.after k).1.toArray⟩) KH.out))))
  simp at this
  exact this
theorem count_zero {S : St} (h : S.inn = 0) : S.count = (0, S) := by simp [St.count, h]
theorem count_one {S : St} (h : S.inn = 1) : S.count = (2, S.lose S.lft) := by simp [St.count, h]
theorem count_more {S : St} {m : Nat} (h : S.inn = m + 1) (hm : m ≠ 0) : S.count = (0, { S with inn := m }) := by
  unfold St.count
  rw [if_neg (by omega), if_pos (by omega), h]
  rfl
/-- what is known behind a change's count: whether the power goes in it -/
def Went (S S1 : St) (kp : Int) (b : Bool) : Prop := (b = false ∧ S.count = (0, S1)) ∨ (b = true ∧ S1 = { S with inn := 0 } ∧ kp = (S.lft : Int) ∧ S.count = (2, S.lose S.lft))
set_option maxHeartbeats 8000000 in
theorem goes57 (r : Nat) (S : St) (uv : Value) (kp : Int) (w : World) (h : Rk w r S uv kp) :
    Calls Tryd.prog 84 #[.pointer (some ⟨r, 0, none⟩)] w fun e w' => ∃ b S1, e = .returned (.bool b) ∧ Rk w' r S1 uv kp ∧ Only [r] w w' ∧ Went S S1 kp b ∧ S1.f0 = S.f0 ∧ S1.f1 = S.f1 ∧ S1.s0 = S.s0 ∧ S1.s1 = S.s1 ∧ S1.row = S.row ∧ S1.gone = S.gone ∧ S1.lft = S.lft := by
  have H := Lib.hid h
  have c3 := h.blk.cell 3
  have f3 := h.blk.fro 3
  simp only [List.getElem?_toArray, List.getElem?_cons_succ, List.getElem?_cons_zero] at c3
  obtain ⟨m, hm⟩ : ∃ m, S.inn = m := ⟨_, rfl⟩
  rw [hm] at c3
  have hmb : m ≤ 9223372036854775807 := hm ▸ h.wf.li
  have HM := Lib.hid hm
  clear h hm
  rcases (show m = 0 ∨ ∃ n, m = n + 1 from by cases m <;> simp) with rfl | ⟨n, rfl⟩
  · have t1 : decide ((0 : Int) < ((0 : Nat) : Int)) = false := by simp
    go_enter Tryd.func84, Tryd.ntmps84
    go_wp2_with fail
    go_ret
    exact ⟨false, S, rfl, H.out, Only.refl _ _, .inl ⟨rfl, count_zero HM.out⟩, rfl, rfl, rfl, rfl, rfl, rfl, rfl⟩
  · have t1 : decide ((0 : Int) < ((n + 1 : Nat) : Int)) = true := by simp
    have t2 : ((n + 1 : Nat) : Int) - 1 = (n : Int) := by omega
    have hw1 : IntKind.i64.wrap (((n + 1 : Nat) : Int) - 1) = (n : Int) := by rw [t2]; exact IntWalk.i64_in _ (by omega)
    have HOK : Hid (Rk (w.setCell ⟨r, 3, none⟩ (.int .i64 (n : Int))) r { S with inn := n } uv kp) := Lib.hid (by
      refine ⟨?_, ?_, fun hn => H.out.kp (by rw [HM.out]; omega), ⟨H.out.wf.ok, H.out.wf.t0, H.out.wf.t1, H.out.wf.l0, H.out.wf.l1, by simp only; omega, H.out.wf.ll⟩⟩
      · have := Bk.same (i := 3) (v := .int .i64 (n : Int)) H.out.blk
        simpa using this
      · exact ownsU_of H.out.row fun g e _ => heap_setCell_other _ _ _ _ (H.out.ne H.out.blk g e))
    have HO : Hid (Only [r] w (w.setCell ⟨r, 3, none⟩ (.int .i64 (n : Int)))) := Lib.hid ((Only.refl _ _).setCell _ (by simp) _)
    have HKP : Hid (kp = (S.lft : Int)) := Lib.hid (H.out.kp (by rw [HM.out]; omega))
    clear t2 H
    by_cases hn : n = 0
    · have t3 : ((n : Int) == 0) = true := by simp [hn]
      have HN := Lib.hid hn
      clear hn
      go_enter Tryd.func84, Tryd.ntmps84
      go_wp2_with fail
      go_ret
      exact ⟨true, _, rfl, HOK.out, HO.out, .inr ⟨rfl, by rw [HN.out], HKP.out, count_one (by rw [HM.out, HN.out])⟩, rfl, rfl, rfl, rfl, rfl, rfl, rfl⟩
    · have t3 : ((n : Int) == 0) = false := by simpa using hn
      have HN := Lib.hid hn
      clear hn
      go_enter Tryd.func84, Tryd.ntmps84
      go_wp2_with fail
      go_ret
      exact ⟨false, _, rfl, HOK.out, HO.out, .inl ⟨rfl, count_more HM.out HN.out⟩, rfl, rfl, rfl, rfl, rfl, rfl, rfl⟩
theorem revive38 (r : Nat) (S : St) (uv : Value) (kp : Int) (w : World) (h : Rk w r S uv kp) :
    Calls Tryd.prog 30 #[.pointer (some ⟨r, 0, none⟩)] w fun e w' => e = .returned (.tuple #[]) ∧ Rk w' r S.revive uv kp ∧ Only [r] w w' := by
  have H := Lib.hid h
  have c3 := h.blk.cell 3
  have f3 := h.blk.fro 3
  have c5 := h.blk.cell 5
  have f5 := h.blk.fro 5
  simp only [List.getElem?_toArray, List.getElem?_cons_succ, List.getElem?_cons_zero] at c3 c5
  clear h
  go_enter Tryd.func30, Tryd.ntmps30
  go_wp2_with fail
  go_returns
  refine ⟨rfl, ⟨?_, ?_, fun h => absurd rfl h, H.out.wf.power _ (by omega) (by omega)⟩, ((Only.refl _ _).setCell _ (by simp) _).setCell _ (by simp) _⟩
  · have := Bk.same (i := 3) (v := .int .i64 0) (Bk.same (i := 5) (v := .bool false) H.out.blk)
    simpa [St.revive, St.power] using this
  · exact ownsU_of H.out.row fun g e _ => (heap_setCell_other _ _ _ _ (H.out.ne H.out.blk g e)).trans (heap_setCell_other _ _ _ _ (H.out.ne H.out.blk g e))
theorem Rk.shape {w : World} {r : Nat} {S : St} {uv : Value} {kp : Int} (h : Rk w r S uv kp) : ∃ a c, uv = .slice a S.un.length c := by
  obtain ⟨a, c, rfl, _⟩ := owns_len rfl h.row
  exact ⟨a, c, rfl⟩
theorem Rk.b5 {w : World} {r : Nat} {S : St} {uv : Value} {kp : Int} (h : Rk w r S uv kp) : w.cell? ⟨r, 5, none⟩ = some (.bool S.gone) := by
  have := h.blk.cell 5
  simpa using this
/-- what a call on the document's disk leaves -/
def Rm (w : World) (r : Nat) (uv : Value) (w' : World) (S' : St) : Prop := ∃ uv' kp', Rk w' r S' uv' kp' ∧ Only [r] w w' ∧ ∀ g, uv'.ownBlock = some g → uv.ownBlock = some g ∨ w.heap.size ≤ g
theorem Rm.same {w w' : World} {r : Nat} {S : St} {uv : Value} {kp : Int} (h : Rk w r S uv kp) (hb : Below w.heap.size w w') : Rm w r uv w' S := ⟨uv, kp, h.below hb, .of hb, fun g e => .inl e⟩
theorem Rm.of {w w' : World} {r : Nat} {S : St} {uv : Value} {kp : Int} (h : Rk w' r S uv kp) (ho : Only [r] w w') : Rm w r uv w' S := ⟨uv, kp, h, ho, fun g e => .inl e⟩
theorem Rm.nil {w w' : World} {r : Nat} {S : St} {uv : Value} {kp : Int} (h : Rk w' r S (.slice none 0 0) kp) (ho : Only [r] w w') : Rm w r uv w' S := ⟨_, kp, h, ho, fun g e => by cases e⟩
set_option maxHeartbeats 4000000 in
theorem crash37 (r : Nat) (S : St) (uv : Value) (kp k : Int) (w : World) (h : Rk w r S uv kp) :
    Calls Tryd.prog 55 #[.pointer (some ⟨r, 0, none⟩), .int .i64 k] w fun e w' => e = .returned (.int .i64 ((S.crash k).1 : Int)) ∧ Rm w r uv w' (S.crash k).2 := by
  have H := Lib.hid h
  have b5 := h.b5
  unfold St.crash
  clear h
  cases hg : S.gone
  · rw [hg] at b5
    simp only [Bool.false_eq_true, if_false]
    by_cases hk : k < 0
    · rw [if_pos hk]
      have t1 : decide (k < 0) = true := by simpa using hk
      clear hg hk
      go_enter Tryd.func55, Tryd.ntmps55
      go_wp2_with fail
      go_ret
      exact ⟨rfl, .same H.out (Below.refl _ _)⟩
    · rw [if_neg hk]
      have t1 : decide (k < 0) = false := by simpa using hk
      have HD := Lib.hid (die58 r S uv kp k w H.out)
      clear hg hk
      go_enter Tryd.func55, Tryd.ntmps55
      go_wp2_with fail
      refine HD.out.mono ?_
      rintro e w' ⟨rfl, hr, ho⟩
      have HR := Lib.hid hr
      have HO := Lib.hid ho
      clear hr ho HD b5
      go_wp2_with fail
      go_ret
      exact ⟨rfl, .nil HR.out HO.out⟩
  · rw [hg] at b5
    simp only [if_true]
    clear hg
    go_enter Tryd.func55, Tryd.ntmps55
    go_wp2_with fail
    go_ret
    exact ⟨rfl, .same H.out (Below.refl _ _)⟩
set_option maxHeartbeats 4000000 in
theorem arm36 (r : Nat) (S : St) (uv : Value) (kp n k : Int) (hn2 : n ≤ 9223372036854775807) (hk2 : k ≤ 9223372036854775807) (w : World) (h : Rk w r S uv kp) :
    Calls Tryd.prog 23 #[.pointer (some ⟨r, 0, none⟩), .int .i64 n, .int .i64 k] w fun e w' => e = .returned (.int .i64 ((S.arm n k).1 : Int)) ∧ Rm w r uv w' (S.arm n k).2 := by
  have H := Lib.hid h
  have b5 := h.b5
  have c3 := h.blk.cell 3
  have f3 := h.blk.fro 3
  have c4 := h.blk.cell 4
  have f4 := h.blk.fro 4
  simp only [List.getElem?_toArray, List.getElem?_cons_succ, List.getElem?_cons_zero] at c3 c4
  unfold St.arm
  clear h
  cases hg : S.gone
  · rw [hg] at b5
    simp only [Bool.false_eq_true, if_false]
    by_cases hn : n < 0
    · rw [if_pos (.inl hn)]
      have t1 : decide (n < 0) = true := by simpa using hn
      clear hg hn
      go_enter Tryd.func23, Tryd.ntmps23
      go_wp2_with fail
      go_ret
      exact ⟨rfl, .same H.out (Below.refl _ _)⟩
    · have t1 : decide (n < 0) = false := by simpa using hn
      by_cases hk : k < 0
      · rw [if_pos (.inr hk)]
        have t2 : decide (k < 0) = true := by simpa using hk
        clear hg hk hn
        go_enter Tryd.func23, Tryd.ntmps23
        go_wp2_with fail
        go_ret
        exact ⟨rfl, .same H.out (Below.refl _ _)⟩
      · rw [if_neg (by omega)]
        have t2 : decide (k < 0) = false := by simpa using hk
        have HNK : Hid (n = (n.toNat : Int) ∧ k = (k.toNat : Int)) := Lib.hid (by omega)
        have HNB : Hid (n.toNat ≤ 9223372036854775807 ∧ k.toNat ≤ 9223372036854775807) := Lib.hid (by omega)
        have HG := Lib.hid hg
        clear hg hk hn
        go_enter Tryd.func23, Tryd.ntmps23
        go_wp2_with fail
        go_ret
        refine ⟨rfl, uv, k, ⟨?_, ?_, fun _ => HNK.out.2, H.out.wf.power _ HNB.out.1 HNB.out.2⟩, ((Only.refl _ _).setCell _ (by simp) _).setCell _ (by simp) _, fun g e => .inl e⟩
        · have := Bk.same (i := 4) (v := .int .i64 k) (Bk.same (i := 3) (v := .int .i64 n) H.out.blk)
          simp [HG.out] at this
          have e : ((S.power false n.toNat k.toNat).inn : Int) = n := HNK.out.1.symm
          rw [e]
          exact this
        · exact ownsU_of H.out.row fun g e _ => (heap_setCell_other _ _ _ _ (H.out.ne H.out.blk g e)).trans (heap_setCell_other _ _ _ _ (H.out.ne H.out.blk g e))
  · rw [hg] at b5
    simp only [if_true]
    clear hg
    go_enter Tryd.func23, Tryd.ntmps23
    go_wp2_with fail
    go_ret
    exact ⟨rfl, .same H.out (Below.refl _ _)⟩
set_option maxHeartbeats 4000000 in
theorem size32 (r : Nat) (S : St) (uv : Value) (kp f : Int) (w : World) (h : Rk w r S uv kp) :
    Calls Tryd.prog 45 #[.pointer (some ⟨r, 0, none⟩), .int .i64 f] w fun e w' => e = .returned (.int .i64 (S.size f)) ∧ w = w' := by
  unfold St.size
  have hl0 := h.wf.l0
  have hl1 := h.wf.l1
  have hs0 : S.s0 ≤ S.f0.length := by have := h.wf.t0; omega
  have hs1 : S.s1 ≤ S.f1.length := by have := h.wf.t1; omega
  have b0 := h.blk.cell 0
  have b1 := h.blk.cell 1
  simp only [List.getElem?_toArray, List.getElem?_cons_succ, List.getElem?_cons_zero] at b0 b1
  by_cases h0 : f = 0
  · subst h0
    have HU := Lib.hid (unsafe56 r S uv kp 0 (by omega) w h)
    have e1 : (⟨(S.f0.take S.s0).toArray⟩ : ByteArray).size = S.s0 := by rw [size_ba, List.length_take]; omega
    have e2 : (((S.file 0).length - S.safe 0 : Nat) : Int) = (S.f0.length : Int) - (S.s0 : Int) := by show ((S.f0.length - S.s0 : Nat) : Int) = _; omega
    rw [e2] at HU
    have hw1 : IntKind.i64.wrap ((S.s0 : Int) + ((S.f0.length : Int) - (S.s0 : Int))) = (S.f0.length : Int) := by rw [show (S.s0 : Int) + ((S.f0.length : Int) - (S.s0 : Int)) = (S.f0.length : Int) by omega]; exact IntWalk.i64_in _ (by omega)
    have HW := Lib.hid hw1
    have ez : ((if St.there 0 = true then ((S.file (Int.toNat 0)).length : Int) else -1)) = (S.f0.length : Int) := rfl
    rw [ez]
    generalize (⟨(S.f0.take S.s0).toArray⟩ : ByteArray) = sa at b0 e1
    clear h e2 ez hl1 hs1 b1 hw1
    go_enter Tryd.func45, Tryd.ntmps45
    go_wp2_with fail
    refine HU.out.mono ?_
    rintro e w' ⟨rfl, rfl⟩
    go_wp2_with fail
    go_ret
    refine ⟨?_, rfl⟩
    show Ending.returned (Value.int .i64 ((S.s0 : Int) + ((S.f0.length : Int) - (S.s0 : Int)))) = _
    rw [show (S.s0 : Int) + ((S.f0.length : Int) - (S.s0 : Int)) = (S.f0.length : Int) by omega]
  · by_cases h1 : f = 1
    · subst h1
      have HU := Lib.hid (unsafe56 r S uv kp 1 (by omega) w h)
      have e0 : ∃ k : Nat, (⟨(S.f0.take S.s0).toArray⟩ : ByteArray).size = k := ⟨_, rfl⟩
      have e1 : (⟨(S.f1.take S.s1).toArray⟩ : ByteArray).size = S.s1 := by rw [size_ba, List.length_take]; omega
      have e2 : (((S.file 1).length - S.safe 1 : Nat) : Int) = (S.f1.length : Int) - (S.s1 : Int) := by show ((S.f1.length - S.s1 : Nat) : Int) = _; omega
      rw [e2] at HU
      have ez : ((if St.there 1 = true then ((S.file (Int.toNat 1)).length : Int) else -1)) = (S.f1.length : Int) := rfl
      rw [ez]
      generalize (⟨(S.f0.take S.s0).toArray⟩ : ByteArray) = sa at b0 e0
      generalize (⟨(S.f1.take S.s1).toArray⟩ : ByteArray) = sb at b1 e1
      clear h e2 ez hl0 hs0 h0 e0
      go_enter Tryd.func45, Tryd.ntmps45
      go_wp2_with fail
      refine HU.out.mono ?_
      rintro e w' ⟨rfl, rfl⟩
      go_wp2_with fail
      go_ret
      refine ⟨?_, rfl⟩
      show Ending.returned (Value.int .i64 ((S.s1 : Int) + ((S.f1.length : Int) - (S.s1 : Int)))) = _
      rw [show (S.s1 : Int) + ((S.f1.length : Int) - (S.s1 : Int)) = (S.f1.length : Int) by omega]
    · have ht : St.there f = false := by simp [St.there]; omega
      rw [ht]
      simp only [Bool.false_eq_true, if_false]
      have t0 : (f != 0) = true := by simpa using h0
      have t1 : (f != 1) = true := by simpa using h1
      clear h h0 h1 ht hl0 hl1 hs0 hs1
      go_enter Tryd.func45, Tryd.ntmps45
      go_wp2_with fail
      go_ret
      exact ⟨rfl, rfl⟩
end Go.Proofs.YtmoihgniglomiaaDoor
