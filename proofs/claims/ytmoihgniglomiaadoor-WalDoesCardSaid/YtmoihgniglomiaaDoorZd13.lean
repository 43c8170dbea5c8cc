/- What a log's changes make of the disk, plainly. No condition. What a log's Sync and Checkpoint answer and leave. Condition: the log's own, the program's table; for Checkpoint that the other file has no byte. A drawn region of Checkpoint. No condition. -/
import Derived.Test.YtmoihgniglomiaaDoorZd12
set_option linter.unusedVariables false
set_option linter.unusedSimpArgs false
set_option maxRecDepth 100000
namespace Go.Proofs.YtmoihgniglomiaaDoor
def Safe2 (S : St) : Prop := S.s0 = S.f0.length ∧ S.s1 = S.f1.length ∧ S.row = []
theorem safe2_file {S : St} (h : Safe2 S) (f : Nat) : S.safe f = (S.file f).length := by
  unfold St.safe St.file; split
  · exact h.1
  · exact h.2.1
theorem keep_all2 {S : St} (h : S.Wf) : (S.keep S.waiting).f0 = S.f0 ∧ (S.keep S.waiting).f1 = S.f1 ∧ Safe2 (S.keep S.waiting) ∧ (S.keep S.waiting).gone = S.gone := by
  have e := h.left_all S.waiting (Nat.le_refl _)
  unfold St.keep Safe2
  rw [e]
  simp
theorem count_ok {S : St} (h : (S.count).1 = 0) : (S.count).2.f0 = S.f0 ∧ (S.count).2.f1 = S.f1 ∧ (S.count).2.s0 = S.s0 ∧ (S.count).2.s1 = S.s1 ∧ (S.count).2.row = S.row ∧ (S.count).2.gone = S.gone := St.count_file h
theorem wsync_ok {S : St} (h : S.Wf) (hc : (S.sync).1 = 0) : (S.sync).2.f0 = S.f0 ∧ (S.sync).2.f1 = S.f1 ∧ Safe2 (S.sync).2 ∧ (S.sync).2.gone = false ∧ (S.sync).2.Wf := by
  unfold St.sync at hc ⊢
  by_cases hg : S.gone = true
  · rw [if_pos hg] at hc; cases hc
  · rw [if_neg hg] at hc ⊢
    by_cases h0 : (S.count).1 = 0
    · rw [if_pos h0]
      obtain ⟨a, b, c, d, e, f⟩ := count_ok h0
      obtain ⟨k1, k2, k3, k4⟩ := keep_all2 h.count
      exact ⟨k1.trans a, k2.trans b, k3, by rw [k4, f]; simpa using hg, h.count.keep _⟩
    · rw [if_neg h0] at hc; exact absurd hc h0
theorem append_ok {S : St} (h : S.Wf) {f : Nat} (hf : f < 2) {s : Bs} (hc : (S.append f s).1 = 0) : (S.append f s).2.file f = S.file f ++ s ∧ (S.append f s).2.file (1 - f) = S.file (1 - f) ∧ (S.append f s).2.gone = false ∧ (S.append f s).2.Wf ∧ (S.append f s).2.safe f = S.safe f ∧ (S.append f s).2.safe (1 - f) = S.safe (1 - f) := by
  unfold St.append at hc ⊢
  have ht : St.there (f : Int) = true := by unfold St.there; simp; omega
  by_cases hg : S.gone = true
  · rw [if_pos hg] at hc; cases hc
  · rw [if_neg hg] at hc ⊢
    rw [if_neg (by simp [ht])] at hc ⊢
    by_cases hl : (S.file (f : Int).toNat).length + s.length > 1048576
    · rw [if_pos hl] at hc; cases hc
    · rw [if_neg hl] at hc ⊢
      simp only [Int.toNat_natCast] at hc hl ⊢
      obtain ⟨a, b, c, d, e, g⟩ := count_ok hc
      have hw := (h.lay f s hf (by omega)).count
      have hg' : S.gone = false := by simpa using hg
      refine ⟨?_, ?_, ?_, hw, ?_, ?_⟩
      · unfold St.file; rw [a, b]; unfold St.lay
        rcases Nat.lt_or_ge f 1 with h1 | h1
        · have : f = 0 := by omega
          subst this; simp
        · have : f = 1 := by omega
          subst this; simp
      · unfold St.file; rw [a, b]; unfold St.lay
        rcases Nat.lt_or_ge f 1 with h1 | h1
        · have : f = 0 := by omega
          subst this; simp
        · have : f = 1 := by omega
          subst this; simp
      · rw [g]; unfold St.lay; split <;> exact hg'
      · unfold St.safe; rw [c, d]; unfold St.lay; (repeat' split) <;> rfl
      · unfold St.safe; rw [c, d]; unfold St.lay; (repeat' split) <;> rfl
theorem lays_code (S : St) (f g : Nat) (hf : f < 2) (snap : Bs) (hs : (S.file f).length + 20 + snap.length ≤ 1048576) : (lays S f g snap).1 = 0 ∨ (lays S f g snap).1 = 2 := by
  unfold lays
  split
  · exact sync_code _
  · exact append_code S f _ hf (by rw [fileOf_len]; omega)
theorem lays_ok {S : St} (h : S.Wf) {f g : Nat} (hf : f < 2) {snap : Bs} (hc : (lays S f g snap).1 = 0) :
    (lays S f g snap).2.file f = S.file f ++ fileOf g snap ∧ (lays S f g snap).2.file (1 - f) = S.file (1 - f) ∧ Safe2 (lays S f g snap).2 ∧ (lays S f g snap).2.gone = false ∧ (lays S f g snap).2.Wf := by
  unfold lays at hc ⊢
  by_cases h0 : (S.append f (fileOf g snap)).1 = 0
  · rw [if_pos h0] at hc ⊢
    obtain ⟨a1, a2, a3, a4, _⟩ := append_ok h hf h0
    obtain ⟨b1, b2, b3, b4, b5⟩ := wsync_ok a4 hc
    refine ⟨?_, ?_, b3, b4, b5⟩
    · rw [← a1]; unfold St.file; rw [b1, b2]
    · rw [← a2]; unfold St.file; rw [b1, b2]
  · rw [if_neg h0] at hc; exact absurd hc h0
end Go.Proofs.YtmoihgniglomiaaDoor
namespace Go.Proofs.YtmoihgniglomiaaDoor
open Go.RowKit Go.Sort
set_option maxHeartbeats 16000000 in
theorem lsync_gone {w : World} {b : Nat} {p : Fp} {S : St} {l : Wlg} (h : Lk w b p S l) (hT : Tb w) (hg : (l.dead || S.gone) = true) :
    Calls Tryd.prog 40 #[.pointer (some ⟨b, 0, none⟩)] w fun e w' => e = .returned (.int .i64 2) ∧ ∃ p', LM w b p w' p' S l.sink := by
  have hbl := h.blk.lt
  have HZ := Lib.hid hT.1
  have HBL := Lib.hid hbl
  have M0 : Hid (LM w b p ((w.alloc (.cells #[.pointer (some ⟨b, 0, none⟩)] 35)).alloc (.cells #[.int .i64 0] 28)) p S l) := Lib.hid (LM.refl h (by go_grown))
  have K0 : Hid (Bk 35 ((w.alloc (.cells #[.pointer (some ⟨b, 0, none⟩)] 35)).alloc (.cells #[.int .i64 0] 28)) w.heap.size #[.pointer (some ⟨b, 0, none⟩)]) := Lib.hid (Bk.alloc (Bk.new rfl))
  have K1 : Hid (Bk 28 ((w.alloc (.cells #[.pointer (some ⟨b, 0, none⟩)] 35)).alloc (.cells #[.int .i64 0] 28)) (w.heap.size + 1) #[.int .i64 0]) := Lib.hid (Bk.new (by simp))
  have HSZ : Hid (((w.alloc (.cells #[.pointer (some ⟨b, 0, none⟩)] 35)).alloc (.cells #[.int .i64 0] 28)).heap.size = w.heap.size + 2) := Lib.hid (by simp)
  have NO : Hid (w.heap.size ∉ p.own ∧ w.heap.size + 1 ∉ p.own) := Lib.hid ⟨fun hx => by have := h.dk.lt _ hx; omega, fun hx => by have := h.dk.lt _ hx; omega⟩
  have HTB := Lib.hid hT
  have HLK := Lib.hid h
  have HG := Lib.hid (gone_any M0.out.1)
  rw [hg] at HG
  have c0 := K0.out.cell 0
  simp only [List.getElem?_toArray, List.getElem?_cons_succ, List.getElem?_cons_zero] at c0
  clear hg h hT hbl
  go_enter_defers Tryd.func40, Tryd.ntmps40
  go_wp2_with fail
  clear c0
  generalize ((w.alloc (.cells #[.pointer (some ⟨b, 0, none⟩)] 35)).alloc (.cells #[.int .i64 0] 28)) = wa at M0 K0 K1 HSZ HG ⊢
  refine HG.out.mono ?_
  rintro e w1 ⟨rfl, hw1⟩
  have M1 : Hid (LM w b p w1 p S { l with dead := true }) := Lib.hid (by rw [hw1]; exact M0.out.die true)
  have k0 : Bk 35 w1 w.heap.size #[.pointer (some ⟨b, 0, none⟩)] := by rw [hw1]; exact K0.out.oth (by have := HBL.out; simp; omega)
  have k1 : Bk 28 w1 (w.heap.size + 1) #[.int .i64 0] := by rw [hw1]; exact K1.out.oth (by have := HBL.out; simp; omega)
  have hsz : w1.heap.size = w.heap.size + 2 := by rw [hw1]; simpa using HSZ.out
  replace K0 := Lib.hid k0
  replace K1 := Lib.hid k1
  replace HSZ := Lib.hid hsz
  clear hw1 k0 k1 hsz HG M0
  have c0 := K0.out.cell 0
  have c1 := K1.out.cell 0
  have f1 := K1.out.fro 0
  simp only [List.getElem?_toArray, List.getElem?_cons_succ, List.getElem?_cons_zero] at c0 c1
  go_wp2_with fail
  refine ⟨.int .i64 2, by simp [results, Tryd.results40, go_sem, c1], rfl, p, ?_⟩
  exact M1.out.own_set ⟨w.heap.size + 1, 0, none⟩ (by simp) (by have := HBL.out; simp; omega) NO.out.2 _
set_option maxHeartbeats 16000000 in
theorem lsync_dies {w : World} {b : Nat} {p : Fp} {S : St} {l : Wlg} (h : Lk w b p S l) (hT : Tb w) (hg : (l.dead || S.gone) = false) (hc : (S.sync).1 = 2) :
    Calls Tryd.prog 40 #[.pointer (some ⟨b, 0, none⟩)] w fun e w' => e = .returned (.int .i64 2) ∧ ∃ p', LM w b p w' p' (S.sync).2 l.sink := by
  have hbl := h.blk.lt
  have HZ := Lib.hid hT.1
  have HBL := Lib.hid hbl
  have M0 : Hid (LM w b p ((w.alloc (.cells #[.pointer (some ⟨b, 0, none⟩)] 35)).alloc (.cells #[.int .i64 0] 28)) p S l) := Lib.hid (LM.refl h (by go_grown))
  have K0 : Hid (Bk 35 ((w.alloc (.cells #[.pointer (some ⟨b, 0, none⟩)] 35)).alloc (.cells #[.int .i64 0] 28)) w.heap.size #[.pointer (some ⟨b, 0, none⟩)]) := Lib.hid (Bk.alloc (Bk.new rfl))
  have K1 : Hid (Bk 28 ((w.alloc (.cells #[.pointer (some ⟨b, 0, none⟩)] 35)).alloc (.cells #[.int .i64 0] 28)) (w.heap.size + 1) #[.int .i64 0]) := Lib.hid (Bk.new (by simp))
  have HSZ : Hid (((w.alloc (.cells #[.pointer (some ⟨b, 0, none⟩)] 35)).alloc (.cells #[.int .i64 0] 28)).heap.size = w.heap.size + 2) := Lib.hid (by simp)
  have NO : Hid (w.heap.size ∉ p.own ∧ w.heap.size + 1 ∉ p.own) := Lib.hid ⟨fun hx => by have := h.dk.lt _ hx; omega, fun hx => by have := h.dk.lt _ hx; omega⟩
  have HTB := Lib.hid hT
  have HLK := Lib.hid h
  have HG := Lib.hid (gone_any M0.out.1)
  rw [hg] at HG
  have c0 := K0.out.cell 0
  simp only [List.getElem?_toArray, List.getElem?_cons_succ, List.getElem?_cons_zero] at c0
  have hdd : l.dead = false := by simp at hg; exact hg.1
  have HA : Hid (∀ (w1 : World), Dk w1 p S → Calls Tryd.prog 80 #[p.v] w1 fun e w' => e = .returned (.int .i64 ((S.sync).1 : Int)) ∧ ∃ p', Mut w1 p w' p' (S.sync).2) := Lib.hid fun w1 hd => sync_any p S w1 hd
  rw [hc] at HA
  generalize (S.sync).2 = S2 at *
  clear hg h hT hbl hc
  go_enter_defers Tryd.func40, Tryd.ntmps40
  go_wp2_with fail
  clear c0
  generalize ((w.alloc (.cells #[.pointer (some ⟨b, 0, none⟩)] 35)).alloc (.cells #[.int .i64 0] 28)) = wa at M0 K0 K1 HSZ HG ⊢
  refine HG.out.mono ?_
  rintro e w1 ⟨rfl, hw1⟩
  have M1 : Hid (LM w b p w1 p S { l with dead := false }) := Lib.hid (by rw [hw1]; exact M0.out.die false)
  have k0 : Bk 35 w1 w.heap.size #[.pointer (some ⟨b, 0, none⟩)] := by rw [hw1]; exact K0.out.oth (by have := HBL.out; simp; omega)
  have k1 : Bk 28 w1 (w.heap.size + 1) #[.int .i64 0] := by rw [hw1]; exact K1.out.oth (by have := HBL.out; simp; omega)
  have hsz : w1.heap.size = w.heap.size + 2 := by rw [hw1]; simpa using HSZ.out
  replace K0 := Lib.hid k0
  replace K1 := Lib.hid k1
  replace HSZ := Lib.hid hsz
  clear hw1 k0 k1 hsz HG M0
  replace M1 : Hid (LM w b p w1 p S l) := Lib.hid (by have := M1.out; rw [← hdd] at this; exact this)
  clear hdd
  have c0 := K0.out.cell 0
  have c1 := K1.out.cell 0
  have f1 := K1.out.fro 0
  simp only [List.getElem?_toArray, List.getElem?_cons_succ, List.getElem?_cons_zero] at c0 c1
  have e0 : w1.cell? ⟨b, 0, none⟩ = some p.v := M1.out.1.blk.cell 0
  go_wp2_with fail
  refine (HA.out w1 M1.out.1.dk).mono ?_
  rintro e w4 ⟨rfl, p4, hm⟩
  clear c0 c1 f1 e0
  have NP : Hid (w.heap.size ∉ p4.own ∧ w.heap.size + 1 ∉ p4.own) := Lib.hid ⟨fun hx => (hm.2.2.2 _ hx).elim NO.out.1 (by have := HSZ.out; omega), fun hx => (hm.2.2.2 _ hx).elim NO.out.2 (by have := HSZ.out; omega)⟩
  replace K0 := Lib.hid (K0.out.only hm.2.2.1 NO.out.1)
  replace K1 := Lib.hid (K1.out.only hm.2.2.1 NO.out.2)
  have M4 : Hid (LM w b p w4 p4 S2 l) := Lib.hid (M1.out.mut HZ.out hm (by have := HBL.out; have := HSZ.out; omega))
  clear hm M1 HA HSZ NO
  go_wp2_with fail
  refine (must_no 2 (by decide) _).mono ?_
  rintro e w5 ⟨rfl, rfl⟩
  unfold gaveUp
  have c0 := K0.out.cell 0
  have c1 := K1.out.cell 0
  have f1 := K1.out.fro 0
  simp only [List.getElem?_toArray, List.getElem?_cons_succ, List.getElem?_cons_zero] at c0 c1
  have d4 : w4.cell? ⟨b, 4, none⟩ = some (.bool l.dead) := M4.out.1.blk.cell 4
  have g4 := M4.out.1.blk.fro 4
  go_wp2_with fail
  refine leaves_cons (f := 79) (args := #[.pointer (some ⟨w.heap.size, 0, none⟩), .pointer (some ⟨w.heap.size + 1, 0, none⟩)]) (by simp) (by simp [go_sem]) ?_
  refine (catch79_panicking w.heap.size (w.heap.size + 1) b 2 [] w4 _ _ c0 c1 d4 f1 g4 (by have := HBL.out; omega)).mono ?_
  rintro e u' w9 ⟨rfl, rfl, rfl⟩
  have hne : w.heap.size + 1 ≠ b := by have := HBL.out; omega
  refine ⟨.int .i64 2, by simp [results, Tryd.results40, go_sem, c1, hne], rfl, p4, ?_⟩
  exact ((M4.out.die true).own_set ⟨w.heap.size + 1, 0, none⟩ (by simp) (by simp; omega) NP.out.2 _).drew
set_option maxHeartbeats 16000000 in
theorem lsync_ok {w : World} {b : Nat} {p : Fp} {S : St} {l : Wlg} (h : Lk w b p S l) (hT : Tb w) (hg : (l.dead || S.gone) = false) (hc : (S.sync).1 = 0) :
    Calls Tryd.prog 40 #[.pointer (some ⟨b, 0, none⟩)] w fun e w' => e = .returned (.int .i64 0) ∧ ∃ p', LM w b p w' p' (S.sync).2 l := by
  have hbl := h.blk.lt
  have HZ := Lib.hid hT.1
  have HBL := Lib.hid hbl
  have M0 : Hid (LM w b p ((w.alloc (.cells #[.pointer (some ⟨b, 0, none⟩)] 35)).alloc (.cells #[.int .i64 0] 28)) p S l) := Lib.hid (LM.refl h (by go_grown))
  have K0 : Hid (Bk 35 ((w.alloc (.cells #[.pointer (some ⟨b, 0, none⟩)] 35)).alloc (.cells #[.int .i64 0] 28)) w.heap.size #[.pointer (some ⟨b, 0, none⟩)]) := Lib.hid (Bk.alloc (Bk.new rfl))
  have K1 : Hid (Bk 28 ((w.alloc (.cells #[.pointer (some ⟨b, 0, none⟩)] 35)).alloc (.cells #[.int .i64 0] 28)) (w.heap.size + 1) #[.int .i64 0]) := Lib.hid (Bk.new (by simp))
  have HSZ : Hid (((w.alloc (.cells #[.pointer (some ⟨b, 0, none⟩)] 35)).alloc (.cells #[.int .i64 0] 28)).heap.size = w.heap.size + 2) := Lib.hid (by simp)
  have NO : Hid (w.heap.size ∉ p.own ∧ w.heap.size + 1 ∉ p.own) := Lib.hid ⟨fun hx => by have := h.dk.lt _ hx; omega, fun hx => by have := h.dk.lt _ hx; omega⟩
  have HTB := Lib.hid hT
  have HLK := Lib.hid h
  have HG := Lib.hid (gone_any M0.out.1)
  rw [hg] at HG
  have c0 := K0.out.cell 0
  simp only [List.getElem?_toArray, List.getElem?_cons_succ, List.getElem?_cons_zero] at c0
  have hdd : l.dead = false := by simp at hg; exact hg.1
  have HA : Hid (∀ (w1 : World), Dk w1 p S → Calls Tryd.prog 80 #[p.v] w1 fun e w' => e = .returned (.int .i64 ((S.sync).1 : Int)) ∧ ∃ p', Mut w1 p w' p' (S.sync).2) := Lib.hid fun w1 hd => sync_any p S w1 hd
  rw [hc] at HA
  generalize (S.sync).2 = S2 at *
  clear hg h hT hbl hc
  go_enter_defers Tryd.func40, Tryd.ntmps40
  go_wp2_with fail
  clear c0
  generalize ((w.alloc (.cells #[.pointer (some ⟨b, 0, none⟩)] 35)).alloc (.cells #[.int .i64 0] 28)) = wa at M0 K0 K1 HSZ HG ⊢
  refine HG.out.mono ?_
  rintro e w1 ⟨rfl, hw1⟩
  have M1 : Hid (LM w b p w1 p S { l with dead := false }) := Lib.hid (by rw [hw1]; exact M0.out.die false)
  have k0 : Bk 35 w1 w.heap.size #[.pointer (some ⟨b, 0, none⟩)] := by rw [hw1]; exact K0.out.oth (by have := HBL.out; simp; omega)
  have k1 : Bk 28 w1 (w.heap.size + 1) #[.int .i64 0] := by rw [hw1]; exact K1.out.oth (by have := HBL.out; simp; omega)
  have hsz : w1.heap.size = w.heap.size + 2 := by rw [hw1]; simpa using HSZ.out
  replace K0 := Lib.hid k0
  replace K1 := Lib.hid k1
  replace HSZ := Lib.hid hsz
  clear hw1 k0 k1 hsz HG M0
  replace M1 : Hid (LM w b p w1 p S l) := Lib.hid (by have := M1.out; rw [← hdd] at this; exact this)
  clear hdd
  have c0 := K0.out.cell 0
  have c1 := K1.out.cell 0
  have f1 := K1.out.fro 0
  simp only [List.getElem?_toArray, List.getElem?_cons_succ, List.getElem?_cons_zero] at c0 c1
  have e0 : w1.cell? ⟨b, 0, none⟩ = some p.v := M1.out.1.blk.cell 0
  go_wp2_with fail
  refine (HA.out w1 M1.out.1.dk).mono ?_
  rintro e w4 ⟨rfl, p4, hm⟩
  clear c0 c1 f1 e0
  have NP : Hid (w.heap.size ∉ p4.own ∧ w.heap.size + 1 ∉ p4.own) := Lib.hid ⟨fun hx => (hm.2.2.2 _ hx).elim NO.out.1 (by have := HSZ.out; omega), fun hx => (hm.2.2.2 _ hx).elim NO.out.2 (by have := HSZ.out; omega)⟩
  replace K0 := Lib.hid (K0.out.only hm.2.2.1 NO.out.1)
  replace K1 := Lib.hid (K1.out.only hm.2.2.1 NO.out.2)
  have M4 : Hid (LM w b p w4 p4 S2 l) := Lib.hid (M1.out.mut HZ.out hm (by have := HBL.out; have := HSZ.out; omega))
  clear hm M1 HA HSZ NO
  go_wp2_with fail
  refine (must_yes _).mono ?_
  rintro e w5 ⟨rfl, rfl⟩
  have c0 := K0.out.cell 0
  have c1 := K1.out.cell 0
  have f1 := K1.out.fro 0
  simp only [List.getElem?_toArray, List.getElem?_cons_succ, List.getElem?_cons_zero] at c0 c1
  have hne : w.heap.size + 1 ≠ b := by have := HBL.out; omega
  go_wp2_with fail
  have M5 := Lib.hid (M4.out.own_set ⟨w.heap.size + 1, 0, none⟩ (by simp) (by simp; omega) NP.out.2 (.int .i64 0))
  have k0 := Lib.hid (Bk.oth (a := ⟨w.heap.size + 1, 0, none⟩) (v := .int .i64 0) (by simp) K0.out)
  have k1 := Lib.hid (Bk.same (i := 0) (v := .int .i64 0) K1.out)
  clear c0 c1 f1 M4 K0 K1
  generalize w4.setCell ⟨w.heap.size + 1, 0, none⟩ (.int .i64 0) = w5 at M5 k0 k1 ⊢
  have c0 : w5.cell? ⟨w.heap.size, 0, none⟩ = some (.pointer (some ⟨b, 0, none⟩)) := k0.out.cell 0
  have c1 : w5.cell? ⟨w.heap.size + 1, 0, none⟩ = some (.int .i64 0) := k1.out.cell 0
  have f1 := k1.out.fro 0
  refine leaves_cons (f := 79) (args := #[.pointer (some ⟨w.heap.size, 0, none⟩), .pointer (some ⟨w.heap.size + 1, 0, none⟩)]) (by simp) (by simp [go_sem]) ?_
  refine (catch79_idle w.heap.size (w.heap.size + 1) _ w5 _ c0 c1 f1).mono ?_
  rintro e u' w6 ⟨rfl, rfl, rfl⟩
  refine ⟨.int .i64 0, by simp [results, Tryd.results40, go_sem, c1], rfl, p4, ?_⟩
  exact (M5.out.own_set ⟨w.heap.size + 1, 0, none⟩ (by simp) (by simp; omega) NP.out.2 _).drew
theorem lsync_any {w : World} {b : Nat} {p : Fp} {S : St} {l : Wlg} (h : Lk w b p S l) (hT : Tb w) :
    Calls Tryd.prog 40 #[.pointer (some ⟨b, 0, none⟩)] w fun e w' => LRes w b p (lsync S l) e w' := by
  unfold lsync
  by_cases hg : (l.dead || S.gone) = true
  · rw [if_pos (by simpa using hg)]; exact lsync_gone h hT hg
  · have hg' : (l.dead || S.gone) = false := by simpa using hg
    rw [if_neg (by simpa using hg')]
    rcases sync_code S with hc | hc
    · rw [if_pos hc]; exact lsync_ok h hT hg' hc
    · rw [if_neg (by omega)]; exact lsync_dies h hT hg' hc
end Go.Proofs.YtmoihgniglomiaaDoor
namespace Go.Proofs.YtmoihgniglomiaaDoor
open Go.RowKit Go.Sort
theorem left_all16_1 {j0 j1 j2 j3 j4 j5 j6 j7 j8 j9 j10 j11 j12 j13 j14 j15 : Bool} (h : left #[j0, j1, j2, j3, j4, j5, j6, j7, j8, j9, j10, j11, j12, j13, j14, j15, false] = 1) : j0 = true ∧ j1 = true ∧ j2 = true ∧ j3 = true ∧ j4 = true ∧ j5 = true ∧ j6 = true ∧ j7 = true ∧ j8 = true ∧ j9 = true ∧ j10 = true ∧ j11 = true ∧ j12 = true ∧ j13 = true ∧ j14 = true ∧ j15 = true := by
  have e := left_count #[j0, j1, j2, j3, j4, j5, j6, j7, j8, j9, j10, j11, j12, j13, j14, j15] 1
  have e2 : (#[j0, j1, j2, j3, j4, j5, j6, j7, j8, j9, j10, j11, j12, j13, j14, j15] ++ Array.replicate 1 false) = #[j0, j1, j2, j3, j4, j5, j6, j7, j8, j9, j10, j11, j12, j13, j14, j15, false] := rfl
  rw [e2, h] at e
  have hz := left_zero (l := #[j0, j1, j2, j3, j4, j5, j6, j7, j8, j9, j10, j11, j12, j13, j14, j15]) (by omega)
  simpa using hz
noncomputable def rKO : Array Oper := (Tryd.f39.body.bind fun c => findR c 8).getD #[]
def rKI (w0 : World) (p b d : Nat) (lf lg nf ng : Int) (R : World → Value → Prop) (t0 t1 t3 t4 t6 t7 t8 t9 t10 t11 t12 t13 t14 t15 t16 t17 t18 t19 t35 t36 t37 t38 t39 t40 t41 t42 t43 t44 t45 t46 t47 t48 t49 t50 t51 t52 t53 t54 t55 : Value) (ds : List Deferred) (l : Array Bool) (a : Act) (w : World) : Prop :=
  ∃ j0 j1 j2 j3 j4 j5 j6 j7 j8 j9 j10 j11 j12 j13 j14 j15 : Bool, ∃ x0 x1 x2 x3 x4 x5 x6 x7 x8 x9 x10 x11 x12 x13 x14 x15 : Value, l = #[j0, j1, j2, j3, j4, j5, j6, j7, j8, j9, j10, j11, j12, j13, j14, j15, false] ∧ a = { tmps := #[t0, t1, .pointer (some ⟨p, 0, none⟩), t3, t4, x15, t6, t7, t8, t9, t10, t11, t12, t13, t14, t15, t16, t17, t18, t19, x0, x1, x2, x3, x4, x5, x6, x7, x8, x9, x10, x11, x12, x13, x14, t35, t36, t37, t38, t39, t40, t41, t42, t43, t44, t45, t46, t47, t48, t49, t50, t51, t52, t53, t54, t55], defers := ds } ∧ (j15 = false → w = w0.drew) ∧
  (j0 = true → x0 = .pointer (some ⟨b, 0, none⟩)) ∧ (j1 = true → x1 = .pointer (some ⟨b, 0, none⟩)) ∧ (j2 = true → x2 = .pointer (some ⟨b, 0, none⟩)) ∧ (j3 = true → x3 = .pointer (some ⟨d, 0, none⟩)) ∧ (j4 = true → x4 = .pointer (some ⟨b, 0, none⟩)) ∧ (j5 = true → x5 = .pointer (some ⟨b, 0, none⟩)) ∧ (j6 = true → x6 = .pointer (some ⟨b, 1, none⟩)) ∧ (j7 = true → x7 = .int .i64 lf) ∧ (j8 = true → x8 = .int .i64 nf) ∧ (j9 = true → x9 = .pointer (some ⟨b, 0, none⟩)) ∧ (j10 = true → x10 = .pointer (some ⟨b, 0, none⟩)) ∧ (j11 = true → x11 = .pointer (some ⟨b, 2, none⟩)) ∧ (j12 = true → x12 = .int .i64 lg) ∧ (j13 = true → x13 = .int .i64 ng) ∧ (j14 = true → x14 = .agg #[.pointer (some ⟨d, 0, none⟩), .int .i64 nf, .int .i64 ng, .int .i64 0, .bool false]) ∧ (j15 = true → R w x15) ∧
  (j1 = true → j0 = true) ∧ (j2 = true → j1 = true) ∧ (j3 = true → j2 = true) ∧ (j5 = true → j4 = true) ∧ (j6 = true → j5 = true) ∧ (j7 = true → j6 = true) ∧ (j8 = true → j7 = true) ∧ (j10 = true → j9 = true) ∧ (j11 = true → j10 = true) ∧ (j12 = true → j11 = true) ∧ (j13 = true → j12 = true) ∧ (j14 = true → j3 = true ∧ j8 = true ∧ j13 = true)
set_option maxHeartbeats 16000000 in
theorem rK_none (p b d : Nat) (lf lg nf ng : Int) (R : World → Value → Prop) (w : World) {t0 t1 t3 t4 t6 t7 t8 t9 t10 t11 t12 t13 t14 t15 t16 t17 t18 t19 t35 t36 t37 t38 t39 t40 t41 t42 t43 t44 t45 t46 t47 t48 t49 t50 t51 t52 t53 t54 t55 : Value} {ds : List Deferred} : ∀ l a w1, rKI w p b d lf lg nf ng R t0 t1 t3 t4 t6 t7 t8 t9 t10 t11 t12 t13 t14 t15 t16 t17 t18 t19 t35 t36 t37 t38 t39 t40 t41 t42 t43 t44 t45 t46 t47 t48 t49 t50 t51 t52 t53 t54 t55 ds l a w1 → Region.ready .any rKO l = [] → left l = 1 := by
  simp only [rKO, findR, Tryd.f39, Option.bind_some, Option.or, Option.getD, Nat.reduceEqDiff, if_true, if_false, reduceIte]
  rintro l a w1 hI hr
  obtain ⟨j0, j1, j2, j3, j4, j5, j6, j7, j8, j9, j10, j11, j12, j13, j14, j15, x0, x1, x2, x3, x4, x5, x6, x7, x8, x9, x10, x11, x12, x13, x14, x15, rfl, rfl, hW, h0, h1, h2, h3, h4, h5, h6, h7, h8, h9, h10, h11, h12, h13, h14, h15, k1, k2, k3, k5, k6, k7, k8, k10, k11, k12, k13, k14⟩ := hI
  have hn := fun i => List.eq_nil_iff_forall_not_mem.1 hr i
  clear hr
  have d0 : j0 = true := by
    cases hj : j0
    · exact absurd (mem_ready.2 ⟨by simp [hj], _, rfl, by simp [Region.binds, hj]⟩) (hn 0)
    · rfl
  subst d0
  have d1 : j1 = true := by
    cases hj : j1
    · exact absurd (mem_ready.2 ⟨by simp [hj], _, rfl, by simp [Region.binds, hj]⟩) (hn 1)
    · rfl
  subst d1
  have d2 : j2 = true := by
    cases hj : j2
    · exact absurd (mem_ready.2 ⟨by simp [hj], _, rfl, by simp [Region.binds, hj]⟩) (hn 2)
    · rfl
  subst d2
  have d3 : j3 = true := by
    cases hj : j3
    · exact absurd (mem_ready.2 ⟨by simp [hj], _, rfl, by simp [Region.binds, hj]⟩) (hn 3)
    · rfl
  subst d3
  have d4 : j4 = true := by
    cases hj : j4
    · exact absurd (mem_ready.2 ⟨by simp [hj], _, rfl, by simp [Region.binds, hj]⟩) (hn 4)
    · rfl
  subst d4
  have d5 : j5 = true := by
    cases hj : j5
    · exact absurd (mem_ready.2 ⟨by simp [hj], _, rfl, by simp [Region.binds, hj]⟩) (hn 5)
    · rfl
  subst d5
  have d6 : j6 = true := by
    cases hj : j6
    · exact absurd (mem_ready.2 ⟨by simp [hj], _, rfl, by simp [Region.binds, hj]⟩) (hn 6)
    · rfl
  subst d6
  have d7 : j7 = true := by
    cases hj : j7
    · exact absurd (mem_ready.2 ⟨by simp [hj], _, rfl, by simp [Region.binds, hj]⟩) (hn 7)
    · rfl
  subst d7
  have d8 : j8 = true := by
    cases hj : j8
    · exact absurd (mem_ready.2 ⟨by simp [hj], _, rfl, by simp [Region.binds, hj]⟩) (hn 8)
    · rfl
  subst d8
  have d9 : j9 = true := by
    cases hj : j9
    · exact absurd (mem_ready.2 ⟨by simp [hj], _, rfl, by simp [Region.binds, hj]⟩) (hn 9)
    · rfl
  subst d9
  have d10 : j10 = true := by
    cases hj : j10
    · exact absurd (mem_ready.2 ⟨by simp [hj], _, rfl, by simp [Region.binds, hj]⟩) (hn 10)
    · rfl
  subst d10
  have d11 : j11 = true := by
    cases hj : j11
    · exact absurd (mem_ready.2 ⟨by simp [hj], _, rfl, by simp [Region.binds, hj]⟩) (hn 11)
    · rfl
  subst d11
  have d12 : j12 = true := by
    cases hj : j12
    · exact absurd (mem_ready.2 ⟨by simp [hj], _, rfl, by simp [Region.binds, hj]⟩) (hn 12)
    · rfl
  subst d12
  have d13 : j13 = true := by
    cases hj : j13
    · exact absurd (mem_ready.2 ⟨by simp [hj], _, rfl, by simp [Region.binds, hj]⟩) (hn 13)
    · rfl
  subst d13
  have d14 : j14 = true := by
    cases hj : j14
    · exact absurd (mem_ready.2 ⟨by simp [hj], _, rfl, by simp [Region.binds, hj]⟩) (hn 14)
    · rfl
  subst d14
  have d15 : j15 = true := by
    cases hj : j15
    · exact absurd (mem_ready.2 ⟨by simp [hj], _, rfl, by simp [Region.binds, hj]⟩) (hn 15)
    · rfl
  subst d15
  rfl
set_option maxHeartbeats 16000000 in
theorem rK_steps (p b d : Nat) (lf lg nf ng : Int) (R : World → Value → Prop) (w : World) (a0 : (1 : Int) - lf = nf) (a1 : lg + 1 = ng) (a2 : 0 ≤ nf) (a3 : nf ≤ 1) (a4 : 0 ≤ ng) (a5 : ng ≤ 4611686018427387904) (a6 : IntKind.i64.wrap nf = nf) (a7 : IntKind.i64.wrap ng = ng) (c0 : w.cell? ⟨p, 0, none⟩ = some (.pointer (some ⟨b, 0, none⟩))) (rc0 : Hid (∀ w1 v, R w1 v → w1.cell? ⟨p, 0, none⟩ = some (.pointer (some ⟨b, 0, none⟩)))) (c1 : w.cell? ⟨b, 0, none⟩ = some (.pointer (some ⟨d, 0, none⟩))) (rc1 : Hid (∀ w1 v, R w1 v → w1.cell? ⟨b, 0, none⟩ = some (.pointer (some ⟨d, 0, none⟩)))) (c2 : w.cell? ⟨b, 1, none⟩ = some (.int .i64 lf)) (rc2 : Hid (∀ w1 v, R w1 v → w1.cell? ⟨b, 1, none⟩ = some (.int .i64 lf))) (c3 : w.cell? ⟨b, 2, none⟩ = some (.int .i64 lg)) (rc3 : Hid (∀ w1 v, R w1 v → w1.cell? ⟨b, 2, none⟩ = some (.int .i64 lg))) (hE : Hid (R (w.drew.alloc (.cells #[.pointer none, .int .i64 0, .int .i64 0, .int .i64 0, .bool false] 96)) (.pointer (some ⟨w.heap.size, 0, none⟩))))
    {t0 t1 t3 t4 t6 t7 t8 t9 t10 t11 t12 t13 t14 t15 t16 t17 t18 t19 t35 t36 t37 t38 t39 t40 t41 t42 t43 t44 t45 t46 t47 t48 t49 t50 t51 t52 t53 t54 t55 : Value} {ds : List Deferred} {Q : Exit → Act → World → Prop} :
    ∀ l a w', rKI w p b d lf lg nf ng R t0 t1 t3 t4 t6 t7 t8 t9 t10 t11 t12 t13 t14 t15 t16 t17 t18 t19 t35 t36 t37 t38 t39 t40 t41 t42 t43 t44 t45 t46 t47 t48 t49 t50 t51 t52 t53 t54 t55 ds l a w' → left l ≠ 1 → ∀ i ∈ Region.ready .any rKO l, wpOp Tryd.prog rKO Q i (fun a' w'' => rKI w p b d lf lg nf ng R t0 t1 t3 t4 t6 t7 t8 t9 t10 t11 t12 t13 t14 t15 t16 t17 t18 t19 t35 t36 t37 t38 t39 t40 t41 t42 t43 t44 t45 t46 t47 t48 t49 t50 t51 t52 t53 t54 t55 ds (l.setIfInBounds i true) a' w'') a w' := by
  simp only [rKO, findR, Tryd.f39, Option.bind_some, Option.or, Option.getD, Nat.reduceEqDiff, if_true, if_false, reduceIte]
  rintro l a w' hI hlt i hi
  rw [mem_ready] at hi
  obtain ⟨hu, oo, ho, hd⟩ := hi
  have hin : i < 17 := by
    have := (Array.getElem?_eq_some_iff.1 ho).1
    simpa using this
  have hcase : i = 0 ∨ i = 1 ∨ i = 2 ∨ i = 3 ∨ i = 4 ∨ i = 5 ∨ i = 6 ∨ i = 7 ∨ i = 8 ∨ i = 9 ∨ i = 10 ∨ i = 11 ∨ i = 12 ∨ i = 13 ∨ i = 14 ∨ i = 15 ∨ i = 16 := by omega
  obtain ⟨j0, j1, j2, j3, j4, j5, j6, j7, j8, j9, j10, j11, j12, j13, j14, j15, x0, x1, x2, x3, x4, x5, x6, x7, x8, x9, x10, x11, x12, x13, x14, x15, rfl, rfl, hW, h0, h1, h2, h3, h4, h5, h6, h7, h8, h9, h10, h11, h12, h13, h14, h15, k1, k2, k3, k5, k6, k7, k8, k10, k11, k12, k13, k14⟩ := hI
  replace hW := Lib.hid hW
  replace h0 := Lib.hid h0
  replace h1 := Lib.hid h1
  replace h2 := Lib.hid h2
  replace h3 := Lib.hid h3
  replace h4 := Lib.hid h4
  replace h5 := Lib.hid h5
  replace h6 := Lib.hid h6
  replace h7 := Lib.hid h7
  replace h8 := Lib.hid h8
  replace h9 := Lib.hid h9
  replace h10 := Lib.hid h10
  replace h11 := Lib.hid h11
  replace h12 := Lib.hid h12
  replace h13 := Lib.hid h13
  replace h14 := Lib.hid h14
  replace h15 := Lib.hid h15
  replace k1 := Lib.hid k1
  replace k2 := Lib.hid k2
  replace k3 := Lib.hid k3
  replace k5 := Lib.hid k5
  replace k6 := Lib.hid k6
  replace k7 := Lib.hid k7
  replace k8 := Lib.hid k8
  replace k10 := Lib.hid k10
  replace k11 := Lib.hid k11
  replace k12 := Lib.hid k12
  replace k13 := Lib.hid k13
  replace k14 := Lib.hid k14
  have gc0 : w'.cell? ⟨p, 0, none⟩ = some (.pointer (some ⟨b, 0, none⟩)) := by
    cases hj : j15
    · rw [hW.out hj]; exact c0
    · exact rc0.out _ _ (h15.out hj)
  have gc1 : w'.cell? ⟨b, 0, none⟩ = some (.pointer (some ⟨d, 0, none⟩)) := by
    cases hj : j15
    · rw [hW.out hj]; exact c1
    · exact rc1.out _ _ (h15.out hj)
  have gc2 : w'.cell? ⟨b, 1, none⟩ = some (.int .i64 lf) := by
    cases hj : j15
    · rw [hW.out hj]; exact c2
    · exact rc2.out _ _ (h15.out hj)
  have gc3 : w'.cell? ⟨b, 2, none⟩ = some (.int .i64 lg) := by
    cases hj : j15
    · rw [hW.out hj]; exact c3
    · exact rc3.out _ _ (h15.out hj)
  clear c0 c1 c2 c3
  rcases hcase with rfl | rfl | rfl | rfl | rfl | rfl | rfl | rfl | rfl | rfl | rfl | rfl | rfl | rfl | rfl | rfl | rfl
  · obtain rfl := Option.some.inj ho
    simp [Region.binds] at hu hd
    clear hd hlt
    refine wpOp_of rfl rfl ?_
    go_simp
    unfold rKI
    exact ⟨true, j1, j2, j3, j4, j5, j6, j7, j8, j9, j10, j11, j12, j13, j14, j15, _, x1, x2, x3, x4, x5, x6, x7, x8, x9, x10, x11, x12, x13, x14, x15, rfl, rfl, hW.out, fun _ => rfl, h1.out, h2.out, h3.out, h4.out, h5.out, h6.out, h7.out, h8.out, h9.out, h10.out, h11.out, h12.out, h13.out, h14.out, h15.out, fun hj => absurd ((k1.out hj)) (by simp [hu]), k2.out, k3.out, k5.out, k6.out, k7.out, k8.out, k10.out, k11.out, k12.out, k13.out, k14.out⟩
  · obtain rfl := Option.some.inj ho
    simp [Region.binds] at hu hd
    have d0 : j0 = true := by simp [hd]
    have e0 := h0.out d0
    subst e0
    subst d0
    clear hd hlt
    refine wpOp_of rfl rfl ?_
    go_simp
    unfold rKI
    exact ⟨true, true, j2, j3, j4, j5, j6, j7, j8, j9, j10, j11, j12, j13, j14, j15, _, _, x2, x3, x4, x5, x6, x7, x8, x9, x10, x11, x12, x13, x14, x15, rfl, rfl, hW.out, h0.out, fun _ => rfl, h2.out, h3.out, h4.out, h5.out, h6.out, h7.out, h8.out, h9.out, h10.out, h11.out, h12.out, h13.out, h14.out, h15.out, fun _ => rfl, fun hj => absurd ((k2.out hj)) (by simp [hu]), k3.out, k5.out, k6.out, k7.out, k8.out, k10.out, k11.out, k12.out, k13.out, k14.out⟩
  · obtain rfl := Option.some.inj ho
    simp [Region.binds] at hu hd
    have d1 : j1 = true := by simp [hd]
    have e1 := h1.out d1
    subst e1
    subst d1
    clear hd hlt
    refine wpOp_of rfl rfl ?_
    go_simp
    unfold rKI
    exact ⟨j0, true, true, j3, j4, j5, j6, j7, j8, j9, j10, j11, j12, j13, j14, j15, x0, _, _, x3, x4, x5, x6, x7, x8, x9, x10, x11, x12, x13, x14, x15, rfl, rfl, hW.out, h0.out, h1.out, fun _ => rfl, h3.out, h4.out, h5.out, h6.out, h7.out, h8.out, h9.out, h10.out, h11.out, h12.out, h13.out, h14.out, h15.out, k1.out, fun _ => rfl, fun hj => absurd ((k3.out hj)) (by simp [hu]), k5.out, k6.out, k7.out, k8.out, k10.out, k11.out, k12.out, k13.out, k14.out⟩
  · obtain rfl := Option.some.inj ho
    simp [Region.binds] at hu hd
    have d2 : j2 = true := by simp [hd]
    have e2 := h2.out d2
    subst e2
    subst d2
    clear hd hlt
    refine wpOp_of rfl rfl ?_
    go_simp
    unfold rKI
    exact ⟨j0, j1, true, true, j4, j5, j6, j7, j8, j9, j10, j11, j12, j13, j14, j15, x0, x1, _, _, x4, x5, x6, x7, x8, x9, x10, x11, x12, x13, x14, x15, rfl, rfl, hW.out, h0.out, h1.out, h2.out, fun _ => rfl, h4.out, h5.out, h6.out, h7.out, h8.out, h9.out, h10.out, h11.out, h12.out, h13.out, h14.out, h15.out, k1.out, k2.out, fun _ => rfl, k5.out, k6.out, k7.out, k8.out, k10.out, k11.out, k12.out, k13.out, fun hj => absurd ((k14.out hj).1) (by simp [hu])⟩
  · obtain rfl := Option.some.inj ho
    simp [Region.binds] at hu hd
    clear hd hlt
    refine wpOp_of rfl rfl ?_
    go_simp
    unfold rKI
    exact ⟨j0, j1, j2, j3, true, j5, j6, j7, j8, j9, j10, j11, j12, j13, j14, j15, x0, x1, x2, x3, _, x5, x6, x7, x8, x9, x10, x11, x12, x13, x14, x15, rfl, rfl, hW.out, h0.out, h1.out, h2.out, h3.out, fun _ => rfl, h5.out, h6.out, h7.out, h8.out, h9.out, h10.out, h11.out, h12.out, h13.out, h14.out, h15.out, k1.out, k2.out, k3.out, fun hj => absurd ((k5.out hj)) (by simp [hu]), k6.out, k7.out, k8.out, k10.out, k11.out, k12.out, k13.out, k14.out⟩
  · obtain rfl := Option.some.inj ho
    simp [Region.binds] at hu hd
    have d4 : j4 = true := by simp [hd]
    have e4 := h4.out d4
    subst e4
    subst d4
    clear hd hlt
    refine wpOp_of rfl rfl ?_
    go_simp
    unfold rKI
    exact ⟨j0, j1, j2, j3, true, true, j6, j7, j8, j9, j10, j11, j12, j13, j14, j15, x0, x1, x2, x3, _, _, x6, x7, x8, x9, x10, x11, x12, x13, x14, x15, rfl, rfl, hW.out, h0.out, h1.out, h2.out, h3.out, h4.out, fun _ => rfl, h6.out, h7.out, h8.out, h9.out, h10.out, h11.out, h12.out, h13.out, h14.out, h15.out, k1.out, k2.out, k3.out, fun _ => rfl, fun hj => absurd ((k6.out hj)) (by simp [hu]), k7.out, k8.out, k10.out, k11.out, k12.out, k13.out, k14.out⟩
  · obtain rfl := Option.some.inj ho
    simp [Region.binds] at hu hd
    have d5 : j5 = true := by simp [hd]
    have e5 := h5.out d5
    subst e5
    subst d5
    clear hd hlt
    refine wpOp_of rfl rfl ?_
    go_simp
    unfold rKI
    exact ⟨j0, j1, j2, j3, j4, true, true, j7, j8, j9, j10, j11, j12, j13, j14, j15, x0, x1, x2, x3, x4, _, _, x7, x8, x9, x10, x11, x12, x13, x14, x15, rfl, rfl, hW.out, h0.out, h1.out, h2.out, h3.out, h4.out, h5.out, fun _ => rfl, h7.out, h8.out, h9.out, h10.out, h11.out, h12.out, h13.out, h14.out, h15.out, k1.out, k2.out, k3.out, k5.out, fun _ => rfl, fun hj => absurd ((k7.out hj)) (by simp [hu]), k8.out, k10.out, k11.out, k12.out, k13.out, k14.out⟩
  · obtain rfl := Option.some.inj ho
    simp [Region.binds] at hu hd
    have d6 : j6 = true := by simp [hd]
    have e6 := h6.out d6
    subst e6
    subst d6
    clear hd hlt
    refine wpOp_of rfl rfl ?_
    go_simp
    unfold rKI
    exact ⟨j0, j1, j2, j3, j4, j5, true, true, j8, j9, j10, j11, j12, j13, j14, j15, x0, x1, x2, x3, x4, x5, _, _, x8, x9, x10, x11, x12, x13, x14, x15, rfl, rfl, hW.out, h0.out, h1.out, h2.out, h3.out, h4.out, h5.out, h6.out, fun _ => rfl, h8.out, h9.out, h10.out, h11.out, h12.out, h13.out, h14.out, h15.out, k1.out, k2.out, k3.out, k5.out, k6.out, fun _ => rfl, fun hj => absurd ((k8.out hj)) (by simp [hu]), k10.out, k11.out, k12.out, k13.out, k14.out⟩
  · obtain rfl := Option.some.inj ho
    simp [Region.binds] at hu hd
    have d7 : j7 = true := by simp [hd]
    have e7 := h7.out d7
    subst e7
    subst d7
    clear hd hlt
    refine wpOp_of rfl rfl ?_
    go_simp
    unfold rKI
    exact ⟨j0, j1, j2, j3, j4, j5, j6, true, true, j9, j10, j11, j12, j13, j14, j15, x0, x1, x2, x3, x4, x5, x6, _, _, x9, x10, x11, x12, x13, x14, x15, rfl, rfl, hW.out, h0.out, h1.out, h2.out, h3.out, h4.out, h5.out, h6.out, h7.out, fun _ => rfl, h9.out, h10.out, h11.out, h12.out, h13.out, h14.out, h15.out, k1.out, k2.out, k3.out, k5.out, k6.out, k7.out, fun _ => rfl, k10.out, k11.out, k12.out, k13.out, fun hj => absurd ((k14.out hj).2.1) (by simp [hu])⟩
  · obtain rfl := Option.some.inj ho
    simp [Region.binds] at hu hd
    clear hd hlt
    refine wpOp_of rfl rfl ?_
    go_simp
    unfold rKI
    exact ⟨j0, j1, j2, j3, j4, j5, j6, j7, j8, true, j10, j11, j12, j13, j14, j15, x0, x1, x2, x3, x4, x5, x6, x7, x8, _, x10, x11, x12, x13, x14, x15, rfl, rfl, hW.out, h0.out, h1.out, h2.out, h3.out, h4.out, h5.out, h6.out, h7.out, h8.out, fun _ => rfl, h10.out, h11.out, h12.out, h13.out, h14.out, h15.out, k1.out, k2.out, k3.out, k5.out, k6.out, k7.out, k8.out, fun hj => absurd ((k10.out hj)) (by simp [hu]), k11.out, k12.out, k13.out, k14.out⟩
  · obtain rfl := Option.some.inj ho
    simp [Region.binds] at hu hd
    have d9 : j9 = true := by simp [hd]
    have e9 := h9.out d9
    subst e9
    subst d9
    clear hd hlt
    refine wpOp_of rfl rfl ?_
    go_simp
    unfold rKI
    exact ⟨j0, j1, j2, j3, j4, j5, j6, j7, j8, true, true, j11, j12, j13, j14, j15, x0, x1, x2, x3, x4, x5, x6, x7, x8, _, _, x11, x12, x13, x14, x15, rfl, rfl, hW.out, h0.out, h1.out, h2.out, h3.out, h4.out, h5.out, h6.out, h7.out, h8.out, h9.out, fun _ => rfl, h11.out, h12.out, h13.out, h14.out, h15.out, k1.out, k2.out, k3.out, k5.out, k6.out, k7.out, k8.out, fun _ => rfl, fun hj => absurd ((k11.out hj)) (by simp [hu]), k12.out, k13.out, k14.out⟩
  · obtain rfl := Option.some.inj ho
    simp [Region.binds] at hu hd
    have d10 : j10 = true := by simp [hd]
    have e10 := h10.out d10
    subst e10
    subst d10
    clear hd hlt
    refine wpOp_of rfl rfl ?_
    go_simp
    unfold rKI
    exact ⟨j0, j1, j2, j3, j4, j5, j6, j7, j8, j9, true, true, j12, j13, j14, j15, x0, x1, x2, x3, x4, x5, x6, x7, x8, x9, _, _, x12, x13, x14, x15, rfl, rfl, hW.out, h0.out, h1.out, h2.out, h3.out, h4.out, h5.out, h6.out, h7.out, h8.out, h9.out, h10.out, fun _ => rfl, h12.out, h13.out, h14.out, h15.out, k1.out, k2.out, k3.out, k5.out, k6.out, k7.out, k8.out, k10.out, fun _ => rfl, fun hj => absurd ((k12.out hj)) (by simp [hu]), k13.out, k14.out⟩
  · obtain rfl := Option.some.inj ho
    simp [Region.binds] at hu hd
    have d11 : j11 = true := by simp [hd]
    have e11 := h11.out d11
    subst e11
    subst d11
    clear hd hlt
    refine wpOp_of rfl rfl ?_
    go_simp
    unfold rKI
    exact ⟨j0, j1, j2, j3, j4, j5, j6, j7, j8, j9, j10, true, true, j13, j14, j15, x0, x1, x2, x3, x4, x5, x6, x7, x8, x9, x10, _, _, x13, x14, x15, rfl, rfl, hW.out, h0.out, h1.out, h2.out, h3.out, h4.out, h5.out, h6.out, h7.out, h8.out, h9.out, h10.out, h11.out, fun _ => rfl, h13.out, h14.out, h15.out, k1.out, k2.out, k3.out, k5.out, k6.out, k7.out, k8.out, k10.out, k11.out, fun _ => rfl, fun hj => absurd ((k13.out hj)) (by simp [hu]), k14.out⟩
  · obtain rfl := Option.some.inj ho
    simp [Region.binds] at hu hd
    have d12 : j12 = true := by simp [hd]
    have e12 := h12.out d12
    subst e12
    subst d12
    clear hd hlt
    refine wpOp_of rfl rfl ?_
    go_simp
    unfold rKI
    exact ⟨j0, j1, j2, j3, j4, j5, j6, j7, j8, j9, j10, j11, true, true, j14, j15, x0, x1, x2, x3, x4, x5, x6, x7, x8, x9, x10, x11, _, _, x14, x15, rfl, rfl, hW.out, h0.out, h1.out, h2.out, h3.out, h4.out, h5.out, h6.out, h7.out, h8.out, h9.out, h10.out, h11.out, h12.out, fun _ => rfl, h14.out, h15.out, k1.out, k2.out, k3.out, k5.out, k6.out, k7.out, k8.out, k10.out, k11.out, k12.out, fun _ => rfl, fun hj => absurd ((k14.out hj).2.2) (by simp [hu])⟩
  · obtain rfl := Option.some.inj ho
    simp [Region.binds] at hu hd
    have d3 : j3 = true := by simp [hd]
    have d8 : j8 = true := by simp [hd]
    have d13 : j13 = true := by simp [hd]
    have e3 := h3.out d3
    subst e3
    have e8 := h8.out d8
    subst e8
    have e13 := h13.out d13
    subst e13
    subst d3
    subst d8
    subst d13
    clear hd hlt
    refine wpOp_of rfl rfl ?_
    go_simp
    unfold rKI
    exact ⟨j0, j1, j2, true, j4, j5, j6, j7, true, j9, j10, j11, j12, true, true, j15, x0, x1, x2, _, x4, x5, x6, x7, _, x9, x10, x11, x12, _, _, x15, rfl, rfl, hW.out, h0.out, h1.out, h2.out, h3.out, h4.out, h5.out, h6.out, h7.out, h8.out, h9.out, h10.out, h11.out, h12.out, h13.out, fun _ => rfl, h15.out, k1.out, k2.out, k3.out, k5.out, k6.out, k7.out, k8.out, k10.out, k11.out, k12.out, k13.out, fun _ => ⟨rfl, rfl, rfl⟩⟩
  · obtain rfl := Option.some.inj ho
    simp [Region.binds] at hu hd
    clear hd hlt
    have hWW := hW.out hu
    clear hW gc0 gc1 gc2 gc3
    subst hWW
    refine wpOp_of rfl rfl ?_
    go_simp
    unfold rKI
    exact ⟨j0, j1, j2, j3, j4, j5, j6, j7, j8, j9, j10, j11, j12, j13, j14, true, x0, x1, x2, x3, x4, x5, x6, x7, x8, x9, x10, x11, x12, x13, x14, _, rfl, rfl, (fun h => by cases h), h0.out, h1.out, h2.out, h3.out, h4.out, h5.out, h6.out, h7.out, h8.out, h9.out, h10.out, h11.out, h12.out, h13.out, h14.out, fun _ => hE.out, k1.out, k2.out, k3.out, k5.out, k6.out, k7.out, k8.out, k10.out, k11.out, k12.out, k13.out, k14.out⟩
  · obtain rfl := Option.some.inj ho
    simp [Region.binds] at hu hd
    exfalso
    have d0 : j0 = true := by simp [hd]
    have d1 : j1 = true := by simp [hd]
    have d2 : j2 = true := by simp [hd]
    have d3 : j3 = true := by simp [hd]
    have d4 : j4 = true := by simp [hd]
    have d5 : j5 = true := by simp [hd]
    have d6 : j6 = true := by simp [hd]
    have d7 : j7 = true := by simp [hd]
    have d8 : j8 = true := by simp [hd]
    have d9 : j9 = true := by simp [hd]
    have d10 : j10 = true := by simp [hd]
    have d11 : j11 = true := by simp [hd]
    have d12 : j12 = true := by simp [hd]
    have d13 : j13 = true := by simp [hd]
    have d14 : j14 = true := by simp [hd]
    have d15 : j15 = true := by simp [hd]
    subst d0
    subst d1
    subst d2
    subst d3
    subst d4
    subst d5
    subst d6
    subst d7
    subst d8
    subst d9
    subst d10
    subst d11
    subst d12
    subst d13
    subst d14
    subst d15
    exact hlt rfl
set_option maxHeartbeats 16000000 in
theorem rK (p b d : Nat) (lf lg nf ng : Int) (R : World → Value → Prop) (w : World) (a0 : (1 : Int) - lf = nf) (a1 : lg + 1 = ng) (a2 : 0 ≤ nf) (a3 : nf ≤ 1) (a4 : 0 ≤ ng) (a5 : ng ≤ 4611686018427387904) (a6 : IntKind.i64.wrap nf = nf) (a7 : IntKind.i64.wrap ng = ng) (c0 : w.cell? ⟨p, 0, none⟩ = some (.pointer (some ⟨b, 0, none⟩))) (rc0 : Hid (∀ w1 v, R w1 v → w1.cell? ⟨p, 0, none⟩ = some (.pointer (some ⟨b, 0, none⟩)))) (c1 : w.cell? ⟨b, 0, none⟩ = some (.pointer (some ⟨d, 0, none⟩))) (rc1 : Hid (∀ w1 v, R w1 v → w1.cell? ⟨b, 0, none⟩ = some (.pointer (some ⟨d, 0, none⟩)))) (c2 : w.cell? ⟨b, 1, none⟩ = some (.int .i64 lf)) (rc2 : Hid (∀ w1 v, R w1 v → w1.cell? ⟨b, 1, none⟩ = some (.int .i64 lf))) (c3 : w.cell? ⟨b, 2, none⟩ = some (.int .i64 lg)) (rc3 : Hid (∀ w1 v, R w1 v → w1.cell? ⟨b, 2, none⟩ = some (.int .i64 lg))) (hE : Hid (R (w.drew.alloc (.cells #[.pointer none, .int .i64 0, .int .i64 0, .int .i64 0, .bool false] 96)) (.pointer (some ⟨w.heap.size, 0, none⟩)))) {t0 t1 t3 t4 t5 t6 t7 t8 t9 t10 t11 t12 t13 t14 t15 t16 t17 t18 t19 t20 t21 t22 t23 t24 t25 t26 t27 t28 t29 t30 t31 t32 t33 t34 t35 t36 t37 t38 t39 t40 t41 t42 t43 t44 t45 t46 t47 t48 t49 t50 t51 t52 t53 t54 t55 : Value} {ds : List Deferred} {Q : Exit → Act → World → Prop}
    (h : ∀ (yE : Value) (w1 : World), R w1 yE → wpList Tryd.prog rKO Q (rKO.toList.drop 16) { tmps := #[t0, t1, .pointer (some ⟨p, 0, none⟩), t3, t4, yE, t6, t7, t8, t9, t10, t11, t12, t13, t14, t15, t16, t17, t18, t19, .pointer (some ⟨b, 0, none⟩), .pointer (some ⟨b, 0, none⟩), .pointer (some ⟨b, 0, none⟩), .pointer (some ⟨d, 0, none⟩), .pointer (some ⟨b, 0, none⟩), .pointer (some ⟨b, 0, none⟩), .pointer (some ⟨b, 1, none⟩), .int .i64 lf, .int .i64 nf, .pointer (some ⟨b, 0, none⟩), .pointer (some ⟨b, 0, none⟩), .pointer (some ⟨b, 2, none⟩), .int .i64 lg, .int .i64 ng, .agg #[.pointer (some ⟨d, 0, none⟩), .int .i64 nf, .int .i64 ng, .int .i64 0, .bool false], t35, t36, t37, t38, t39, t40, t41, t42, t43, t44, t45, t46, t47, t48, t49, t50, t51, t52, t53, t54, t55], defers := ds } w1) :
    (Code.region 8 rKO true).wp Tryd.prog Q { tmps := #[t0, t1, .pointer (some ⟨p, 0, none⟩), t3, t4, t5, t6, t7, t8, t9, t10, t11, t12, t13, t14, t15, t16, t17, t18, t19, t20, t21, t22, t23, t24, t25, t26, t27, t28, t29, t30, t31, t32, t33, t34, t35, t36, t37, t38, t39, t40, t41, t42, t43, t44, t45, t46, t47, t48, t49, t50, t51, t52, t53, t54, t55], defers := ds } w := by
  have hsz : rKO.size = 17 := by kernel_rfl
  refine wp_region_any (show Tryd.prog.follows .mixedOrders = true from by kernel_rfl) ?_
  rw [hsz]
  refine wpAny_inv2 (I := rKI w p b d lf lg nf ng R t0 t1 t3 t4 t6 t7 t8 t9 t10 t11 t12 t13 t14 t15 t16 t17 t18 t19 t35 t36 t37 t38 t39 t40 t41 t42 t43 t44 t45 t46 t47 t48 t49 t50 t51 t52 t53 t54 t55 ds) (g := 1) (rK_none p b d lf lg nf ng R w) (rK_steps p b d lf lg nf ng R w a0 a1 a2 a3 a4 a5 a6 a7 c0 rc0 c1 rc1 c2 rc2 c3 rc3 hE) (fun l a w' hI hl => ?_) 17 _ _ _ (by decide) (by decide) ?_
  · have hI' := hI
    obtain ⟨j0, j1, j2, j3, j4, j5, j6, j7, j8, j9, j10, j11, j12, j13, j14, j15, x0, x1, x2, x3, x4, x5, x6, x7, x8, x9, x10, x11, x12, x13, x14, x15, rfl, rfl, hW, h0, h1, h2, h3, h4, h5, h6, h7, h8, h9, h10, h11, h12, h13, h14, h15, k1, k2, k3, k5, k6, k7, k8, k10, k11, k12, k13, k14⟩ := hI
    obtain ⟨d0, d1, d2, d3, d4, d5, d6, d7, d8, d9, d10, d11, d12, d13, d14, d15⟩ := left_all16_1 hl
    subst d0
    subst d1
    subst d2
    subst d3
    subst d4
    subst d5
    subst d6
    subst d7
    subst d8
    subst d9
    subst d10
    subst d11
    subst d12
    subst d13
    subst d14
    subst d15
    obtain rfl := h0 rfl
    obtain rfl := h1 rfl
    obtain rfl := h2 rfl
    obtain rfl := h3 rfl
    obtain rfl := h4 rfl
    obtain rfl := h5 rfl
    obtain rfl := h6 rfl
    obtain rfl := h7 rfl
    obtain rfl := h8 rfl
    obtain rfl := h9 rfl
    obtain rfl := h10 rfl
    obtain rfl := h11 rfl
    obtain rfl := h12 rfl
    obtain rfl := h13 rfl
    obtain rfl := h14 rfl
    have hw := h _ _ (h15 rfl)
    have hB : Region.seqB .any rKO (rKO.toList.drop 16).length 16 #[true, true, true, true, true, true, true, true, true, true, true, true, true, true, true, true, false] = true := by kernel_rfl
    have hlen : (rKO.toList.drop 16).length = 1 := by kernel_rfl
    have := wpAny_of_seq (md := .any) (rKO.toList.drop 16) 16 _ _ _ (fun j => by simp [List.getElem?_drop]) hB hw
    rw [hlen] at this
    exact this
  · exact ⟨false, false, false, false, false, false, false, false, false, false, false, false, false, false, false, false, t20, t21, t22, t23, t24, t25, t26, t27, t28, t29, t30, t31, t32, t33, t34, t5, rfl, rfl, fun _ => rfl, (fun h => by cases h), (fun h => by cases h), (fun h => by cases h), (fun h => by cases h), (fun h => by cases h), (fun h => by cases h), (fun h => by cases h), (fun h => by cases h), (fun h => by cases h), (fun h => by cases h), (fun h => by cases h), (fun h => by cases h), (fun h => by cases h), (fun h => by cases h), (fun h => by cases h), (fun h => by cases h), (fun h => by cases h), (fun h => by cases h), (fun h => by cases h), (fun h => by cases h), (fun h => by cases h), (fun h => by cases h), (fun h => by cases h), (fun h => by cases h), (fun h => by cases h), (fun h => by cases h), (fun h => by cases h), (fun h => by cases h)⟩
end Go.Proofs.YtmoihgniglomiaaDoor
