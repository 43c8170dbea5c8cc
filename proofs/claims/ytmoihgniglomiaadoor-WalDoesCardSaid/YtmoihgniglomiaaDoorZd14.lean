/- What a log's Checkpoint answers and leaves. Condition: the log's own, the program's table, that the other file has no byte. -/
import Derived.Test.YtmoihgniglomiaaDoorZd13
set_option linter.unusedVariables false
set_option linter.unusedSimpArgs false
set_option maxRecDepth 100000
namespace Go.Proofs.YtmoihgniglomiaaDoor
open Go.RowKit Go.Sort
theorem LM.put5 {w w1 : World} {b : Nat} {p p1 : Fp} {S : St} {l : Wlg} (h : LM w b p w1 p1 S l) {f g n : Nat} {d : Bool} (hf : f < 2) (hg : g ≤ 4611686018427387904) :
    LM w b p (((((w1.setCell ⟨b, 0, none⟩ p1.v).setCell ⟨b, 1, none⟩ (.int .i64 (f : Int))).setCell ⟨b, 2, none⟩ (.int .i64 (g : Int))).setCell ⟨b, 3, none⟩ (.int .i64 (n : Int))).setCell ⟨b, 4, none⟩ (.bool d)) p1 S ⟨f, g, n, d⟩ := by
  refine ⟨⟨?_, ((((h.1.dk.set h.1.ne _ rfl _).set h.1.ne _ rfl _).set h.1.ne _ rfl _).set h.1.ne _ rfl _).set h.1.ne _ rfl _, h.1.ne, h.1.zb, h.1.zo, hf, hg⟩, h.2.1, ((((h.2.2.1.setCell _ (.inl (by simp)) _).setCell _ (.inl (by simp)) _).setCell _ (.inl (by simp)) _).setCell _ (.inl (by simp)) _).setCell _ (.inl (by simp)) _, h.2.2.2⟩
  have := Bk.same (i := 4) (v := .bool d) (Bk.same (i := 3) (v := .int .i64 (n : Int)) (Bk.same (i := 2) (v := .int .i64 (g : Int)) (Bk.same (i := 1) (v := .int .i64 (f : Int)) (Bk.same (i := 0) (v := p1.v) h.1.blk))))
  simpa using this
theorem Bk.put5 {t : TypeId} {w : World} {g b : Nat} {cs : Array Value} (h : Bk t w g cs) (hn : g ≠ b) (v0 v1 v2 v3 v4 : Value) : Bk t (((((w.setCell ⟨b, 0, none⟩ v0).setCell ⟨b, 1, none⟩ v1).setCell ⟨b, 2, none⟩ v2).setCell ⟨b, 3, none⟩ v3).setCell ⟨b, 4, none⟩ v4) g cs :=
  Bk.oth hn (Bk.oth hn (Bk.oth hn (Bk.oth hn (Bk.oth hn h))))
theorem wrap_small (x : Int) (h0 : 0 ≤ x) (h1 : x ≤ 4611686018427387904) : IntKind.i64.wrap x = x := by
  rw [IntKind.wrap_i64]; omega
set_option maxHeartbeats 16000000 in
theorem lchk_gone {w : World} {b : Nat} {p : Fp} {S : St} {l : Wlg} (h : Lk w b p S l) (hT : Tb w) (r : Bs) (hg : (l.dead || S.gone) = true) :
    Calls Tryd.prog 39 #[.pointer (some ⟨b, 0, none⟩), .string ⟨r.toArray⟩] w fun e w' => e = .returned (.int .i64 2) ∧ ∃ p', LM w b p w' p' S l.sink := by
  have hbl := h.blk.lt
  have HZ := Lib.hid hT.1
  have HBL := Lib.hid hbl
  have M0 : Hid (LM w b p ((w.alloc (.cells #[.pointer (some ⟨b, 0, none⟩)] 35)).alloc (.cells #[.int .i64 0] 28)) p S l) := Lib.hid (LM.refl h (by go_grown))
  have K0 : Hid (Bk 35 ((w.alloc (.cells #[.pointer (some ⟨b, 0, none⟩)] 35)).alloc (.cells #[.int .i64 0] 28)) w.heap.size #[.pointer (some ⟨b, 0, none⟩)]) := Lib.hid (Bk.alloc (Bk.new rfl))
  have K1 : Hid (Bk 28 ((w.alloc (.cells #[.pointer (some ⟨b, 0, none⟩)] 35)).alloc (.cells #[.int .i64 0] 28)) (w.heap.size + 1) #[.int .i64 0]) := Lib.hid (Bk.new (by simp))
  have HSZ : Hid (((w.alloc (.cells #[.pointer (some ⟨b, 0, none⟩)] 35)).alloc (.cells #[.int .i64 0] 28)).heap.size = w.heap.size + 2) := Lib.hid (by simp)
  have NO : Hid (w.heap.size ∉ p.own ∧ w.heap.size + 1 ∉ p.own) := Lib.hid ⟨fun hx => by have := h.dk.lt _ hx; omega, fun hx => by have := h.dk.lt _ hx; omega⟩
  have HTB := Lib.hid hT
  have HLK := Lib.hid h
  have HG := Lib.hid (gone_any M0.out.1)
  rw [hg] at HG
  have c0 := K0.out.cell 0
  simp only [List.getElem?_toArray, List.getElem?_cons_succ, List.getElem?_cons_zero] at c0
  have hlen : (⟨r.toArray⟩ : ByteArray).size = r.length := size_ba r
  clear hg h hT hbl
  go_enter_defers Tryd.func39, Tryd.ntmps39
  go_wp2_with fail
  clear c0
  generalize ((w.alloc (.cells #[.pointer (some ⟨b, 0, none⟩)] 35)).alloc (.cells #[.int .i64 0] 28)) = wa at M0 K0 K1 HSZ HG ⊢
  refine HG.out.mono ?_
  rintro e w1 ⟨rfl, hw1⟩
  have M1 : Hid (LM w b p w1 p S { l with dead := true }) := Lib.hid (by rw [hw1]; exact M0.out.die true)
  have k0 : Bk 35 w1 w.heap.size #[.pointer (some ⟨b, 0, none⟩)] := by rw [hw1]; exact K0.out.oth (by have := HBL.out; simp; omega)
  have k1 : Bk 28 w1 (w.heap.size + 1) #[.int .i64 0] := by rw [hw1]; exact K1.out.oth (by have := HBL.out; simp; omega)
  have hsz : w1.heap.size = w.heap.size + 2 := by rw [hw1]; simpa using HSZ.out
  replace K0 := Lib.hid k0
  replace K1 := Lib.hid k1
  replace HSZ := Lib.hid hsz
  clear hw1 k0 k1 hsz HG M0
  have c0 := K0.out.cell 0
  have c1 := K1.out.cell 0
  have f1 := K1.out.fro 0
  simp only [List.getElem?_toArray, List.getElem?_cons_succ, List.getElem?_cons_zero] at c0 c1
  go_wp2_with fail
  refine ⟨.int .i64 2, by simp [results, Tryd.results39, go_sem, c1], rfl, p, ?_⟩
  exact M1.out.own_set ⟨w.heap.size + 1, 0, none⟩ (by simp) (by have := HBL.out; simp; omega) NO.out.2 _
set_option maxHeartbeats 16000000 in
theorem lchk_long {w : World} {b : Nat} {p : Fp} {S : St} {l : Wlg} (h : Lk w b p S l) (hT : Tb w) (r : Bs) (hg : (l.dead || S.gone) = false) (hl : r.length > 524288) :
    Calls Tryd.prog 39 #[.pointer (some ⟨b, 0, none⟩), .string ⟨r.toArray⟩] w fun e w' => e = .returned (.int .i64 101) ∧ ∃ p', LM w b p w' p' S l := by
  have hbl := h.blk.lt
  have HZ := Lib.hid hT.1
  have HBL := Lib.hid hbl
  have M0 : Hid (LM w b p ((w.alloc (.cells #[.pointer (some ⟨b, 0, none⟩)] 35)).alloc (.cells #[.int .i64 0] 28)) p S l) := Lib.hid (LM.refl h (by go_grown))
  have K0 : Hid (Bk 35 ((w.alloc (.cells #[.pointer (some ⟨b, 0, none⟩)] 35)).alloc (.cells #[.int .i64 0] 28)) w.heap.size #[.pointer (some ⟨b, 0, none⟩)]) := Lib.hid (Bk.alloc (Bk.new rfl))
  have K1 : Hid (Bk 28 ((w.alloc (.cells #[.pointer (some ⟨b, 0, none⟩)] 35)).alloc (.cells #[.int .i64 0] 28)) (w.heap.size + 1) #[.int .i64 0]) := Lib.hid (Bk.new (by simp))
  have HSZ : Hid (((w.alloc (.cells #[.pointer (some ⟨b, 0, none⟩)] 35)).alloc (.cells #[.int .i64 0] 28)).heap.size = w.heap.size + 2) := Lib.hid (by simp)
  have NO : Hid (w.heap.size ∉ p.own ∧ w.heap.size + 1 ∉ p.own) := Lib.hid ⟨fun hx => by have := h.dk.lt _ hx; omega, fun hx => by have := h.dk.lt _ hx; omega⟩
  have HTB := Lib.hid hT
  have HLK := Lib.hid h
  have HG := Lib.hid (gone_any M0.out.1)
  rw [hg] at HG
  have c0 := K0.out.cell 0
  simp only [List.getElem?_toArray, List.getElem?_cons_succ, List.getElem?_cons_zero] at c0
  have hlen : (⟨r.toArray⟩ : ByteArray).size = r.length := size_ba r
  have hd1 : decide ((524288 : Int) < (r.length : Int)) = true := by simp; omega
  have hd1n : decide (524288 < r.length) = true := by simp; omega
  have hld : l = { l with dead := false } := by cases l; simp_all
  rw [hld]
  clear hg h hT hbl hl hld
  go_enter_defers Tryd.func39, Tryd.ntmps39
  go_wp2_with fail
  clear c0
  generalize ((w.alloc (.cells #[.pointer (some ⟨b, 0, none⟩)] 35)).alloc (.cells #[.int .i64 0] 28)) = wa at M0 K0 K1 HSZ HG ⊢
  refine HG.out.mono ?_
  rintro e w1 ⟨rfl, hw1⟩
  have M1 : Hid (LM w b p w1 p S { l with dead := false }) := Lib.hid (by rw [hw1]; exact M0.out.die false)
  have k0 : Bk 35 w1 w.heap.size #[.pointer (some ⟨b, 0, none⟩)] := by rw [hw1]; exact K0.out.oth (by have := HBL.out; simp; omega)
  have k1 : Bk 28 w1 (w.heap.size + 1) #[.int .i64 0] := by rw [hw1]; exact K1.out.oth (by have := HBL.out; simp; omega)
  have hsz : w1.heap.size = w.heap.size + 2 := by rw [hw1]; simpa using HSZ.out
  replace K0 := Lib.hid k0
  replace K1 := Lib.hid k1
  replace HSZ := Lib.hid hsz
  clear hw1 k0 k1 hsz HG M0
  have c0 := K0.out.cell 0
  have c1 := K1.out.cell 0
  have f1 := K1.out.fro 0
  simp only [List.getElem?_toArray, List.getElem?_cons_succ, List.getElem?_cons_zero] at c0 c1
  go_wp2_with fail
  refine ⟨.int .i64 101, by simp [results, Tryd.results39, go_sem, c1], rfl, p, ?_⟩
  exact M1.out.own_set ⟨w.heap.size + 1, 0, none⟩ (by simp) (by have := HBL.out; simp; omega) NO.out.2 _
set_option maxHeartbeats 16000000 in
theorem lchk_full {w : World} {b : Nat} {p : Fp} {S : St} {l : Wlg} (h : Lk w b p S l) (hT : Tb w) (r : Bs) (hg : (l.dead || S.gone) = false) (hl : ¬ r.length > 524288) (hf : l.gen = 4611686018427387904) :
    Calls Tryd.prog 39 #[.pointer (some ⟨b, 0, none⟩), .string ⟨r.toArray⟩] w fun e w' => e = .returned (.int .i64 102) ∧ ∃ p', LM w b p w' p' S l := by
  have hbl := h.blk.lt
  have HZ := Lib.hid hT.1
  have HBL := Lib.hid hbl
  have M0 : Hid (LM w b p ((w.alloc (.cells #[.pointer (some ⟨b, 0, none⟩)] 35)).alloc (.cells #[.int .i64 0] 28)) p S l) := Lib.hid (LM.refl h (by go_grown))
  have K0 : Hid (Bk 35 ((w.alloc (.cells #[.pointer (some ⟨b, 0, none⟩)] 35)).alloc (.cells #[.int .i64 0] 28)) w.heap.size #[.pointer (some ⟨b, 0, none⟩)]) := Lib.hid (Bk.alloc (Bk.new rfl))
  have K1 : Hid (Bk 28 ((w.alloc (.cells #[.pointer (some ⟨b, 0, none⟩)] 35)).alloc (.cells #[.int .i64 0] 28)) (w.heap.size + 1) #[.int .i64 0]) := Lib.hid (Bk.new (by simp))
  have HSZ : Hid (((w.alloc (.cells #[.pointer (some ⟨b, 0, none⟩)] 35)).alloc (.cells #[.int .i64 0] 28)).heap.size = w.heap.size + 2) := Lib.hid (by simp)
  have NO : Hid (w.heap.size ∉ p.own ∧ w.heap.size + 1 ∉ p.own) := Lib.hid ⟨fun hx => by have := h.dk.lt _ hx; omega, fun hx => by have := h.dk.lt _ hx; omega⟩
  have HTB := Lib.hid hT
  have HLK := Lib.hid h
  have HG := Lib.hid (gone_any M0.out.1)
  rw [hg] at HG
  have c0 := K0.out.cell 0
  simp only [List.getElem?_toArray, List.getElem?_cons_succ, List.getElem?_cons_zero] at c0
  have hlen : (⟨r.toArray⟩ : ByteArray).size = r.length := size_ba r
  have hd1 : decide ((524288 : Int) < (r.length : Int)) = false := by simp; omega
  have hd1n : decide (524288 < r.length) = false := by simp; omega
  have hd2 : ((l.gen : Int) == 4611686018427387904) = true := by simp; omega
  have hld : l = { l with dead := false } := by cases l; simp_all
  rw [hld]
  clear hg h hT hbl hl hld hf
  go_enter_defers Tryd.func39, Tryd.ntmps39
  go_wp2_with fail
  clear c0
  generalize ((w.alloc (.cells #[.pointer (some ⟨b, 0, none⟩)] 35)).alloc (.cells #[.int .i64 0] 28)) = wa at M0 K0 K1 HSZ HG ⊢
  refine HG.out.mono ?_
  rintro e w1 ⟨rfl, hw1⟩
  have M1 : Hid (LM w b p w1 p S { l with dead := false }) := Lib.hid (by rw [hw1]; exact M0.out.die false)
  have k0 : Bk 35 w1 w.heap.size #[.pointer (some ⟨b, 0, none⟩)] := by rw [hw1]; exact K0.out.oth (by have := HBL.out; simp; omega)
  have k1 : Bk 28 w1 (w.heap.size + 1) #[.int .i64 0] := by rw [hw1]; exact K1.out.oth (by have := HBL.out; simp; omega)
  have hsz : w1.heap.size = w.heap.size + 2 := by rw [hw1]; simpa using HSZ.out
  replace K0 := Lib.hid k0
  replace K1 := Lib.hid k1
  replace HSZ := Lib.hid hsz
  clear hw1 k0 k1 hsz HG M0
  have c0 := K0.out.cell 0
  have c1 := K1.out.cell 0
  have f1 := K1.out.fro 0
  simp only [List.getElem?_toArray, List.getElem?_cons_succ, List.getElem?_cons_zero] at c0 c1
  have e2 : w1.cell? ⟨b, 2, none⟩ = some (.int .i64 (l.gen : Int)) := M1.out.1.blk.cell 2
  go_wp2_with fail
  refine ⟨.int .i64 102, by simp [results, Tryd.results39, go_sem, c1], rfl, p, ?_⟩
  exact M1.out.own_set ⟨w.heap.size + 1, 0, none⟩ (by simp) (by have := HBL.out; simp; omega) NO.out.2 _
set_option maxHeartbeats 16000000 in
theorem lchk_lay {w : World} {b : Nat} {p : Fp} {S : St} {l : Wlg} (h : Lk w b p S l) (hT : Tb w) (r : Bs) (hg : (l.dead || S.gone) = false) (hl : ¬ r.length > 524288) (hf : ¬ l.gen = 4611686018427387904) (hc : (lays S (1 - l.file) (l.gen + 1) r).1 = 2) :
    Calls Tryd.prog 39 #[.pointer (some ⟨b, 0, none⟩), .string ⟨r.toArray⟩] w fun e w' => e = .returned (.int .i64 2) ∧ ∃ p', LM w b p w' p' ((lays S (1 - l.file) (l.gen + 1) r).2) (l.sink) := by
  have hbl := h.blk.lt
  have HZ := Lib.hid hT.1
  have HBL := Lib.hid hbl
  have M0 : Hid (LM w b p ((w.alloc (.cells #[.pointer (some ⟨b, 0, none⟩)] 35)).alloc (.cells #[.int .i64 0] 28)) p S l) := Lib.hid (LM.refl h (by go_grown))
  have K0 : Hid (Bk 35 ((w.alloc (.cells #[.pointer (some ⟨b, 0, none⟩)] 35)).alloc (.cells #[.int .i64 0] 28)) w.heap.size #[.pointer (some ⟨b, 0, none⟩)]) := Lib.hid (Bk.alloc (Bk.new rfl))
  have K1 : Hid (Bk 28 ((w.alloc (.cells #[.pointer (some ⟨b, 0, none⟩)] 35)).alloc (.cells #[.int .i64 0] 28)) (w.heap.size + 1) #[.int .i64 0]) := Lib.hid (Bk.new (by simp))
  have HSZ : Hid (((w.alloc (.cells #[.pointer (some ⟨b, 0, none⟩)] 35)).alloc (.cells #[.int .i64 0] 28)).heap.size = w.heap.size + 2) := Lib.hid (by simp)
  have NO : Hid (w.heap.size ∉ p.own ∧ w.heap.size + 1 ∉ p.own) := Lib.hid ⟨fun hx => by have := h.dk.lt _ hx; omega, fun hx => by have := h.dk.lt _ hx; omega⟩
  have HTB := Lib.hid hT
  have HLK := Lib.hid h
  have HG := Lib.hid (gone_any M0.out.1)
  rw [hg] at HG
  have c0 := K0.out.cell 0
  simp only [List.getElem?_toArray, List.getElem?_cons_succ, List.getElem?_cons_zero] at c0
  have hlen : (⟨r.toArray⟩ : ByteArray).size = r.length := size_ba r
  have hd1 : decide ((524288 : Int) < (r.length : Int)) = false := by simp; omega
  have hd1n : decide (524288 < r.length) = false := by simp; omega
  have hd2 : ((l.gen : Int) == 4611686018427387904) = false := by simp; omega
  have hdd : l.dead = false := by simp at hg; exact hg.1
  have hgg := h.gg
  have hff := h.ff
  have hg1 : (l.gen : Int) < 4611686018427387904 := by omega
  have hg0 : (0 : Int) ≤ (l.gen : Int) := by omega
  have hf1 : (l.file : Int) < 2 := by omega
  have hf0 : (0 : Int) ≤ (l.file : Int) := by omega
  obtain ⟨nf, hnf⟩ : ∃ nf, nf = 1 - l.file := ⟨_, rfl⟩
  obtain ⟨ng, hng⟩ : ∃ ng, ng = l.gen + 1 := ⟨_, rfl⟩
  have hnf1 : (1 : Int) - (l.file : Int) = (nf : Int) := by omega
  have hng1 : (l.gen : Int) + 1 = (ng : Int) := by omega
  rw [← hnf, ← hng] at hc ⊢
  have HA : Hid (∀ (w1 : World), Tb w1 → Dk w1 p S → 0 ∉ p.own → Calls Tryd.prog 44 #[p.v, .int .i64 (nf : Int), .int .i64 (ng : Int), .string ⟨r.toArray⟩] w1 fun e w' => e = endOf (lays S nf ng r).1 ∧ ∃ p', Mut w1 p w' p' (lays S nf ng r).2) := Lib.hid fun w1 ht hd hz => lay_any p S nf ng (by omega) r (by omega) w1 ht hd hz
  rw [hc] at HA
  generalize (lays S nf ng r).2 = S2 at *
  have HNG : Hid (ng ≤ 4611686018427387904 ∧ nf < 2) := Lib.hid (by omega)
  clear hg h hT hbl hl hf hc hgg hff hnf hng
  go_enter_defers Tryd.func39, Tryd.ntmps39
  go_wp2_with fail
  clear c0
  generalize ((w.alloc (.cells #[.pointer (some ⟨b, 0, none⟩)] 35)).alloc (.cells #[.int .i64 0] 28)) = wa at M0 K0 K1 HSZ HG ⊢
  refine HG.out.mono ?_
  rintro e w1 ⟨rfl, hw1⟩
  have M1 : Hid (LM w b p w1 p S { l with dead := false }) := Lib.hid (by rw [hw1]; exact M0.out.die false)
  have k0 : Bk 35 w1 w.heap.size #[.pointer (some ⟨b, 0, none⟩)] := by rw [hw1]; exact K0.out.oth (by have := HBL.out; simp; omega)
  have k1 : Bk 28 w1 (w.heap.size + 1) #[.int .i64 0] := by rw [hw1]; exact K1.out.oth (by have := HBL.out; simp; omega)
  have hsz : w1.heap.size = w.heap.size + 2 := by rw [hw1]; simpa using HSZ.out
  replace K0 := Lib.hid k0
  replace K1 := Lib.hid k1
  replace HSZ := Lib.hid hsz
  clear hw1 k0 k1 hsz HG M0
  replace M1 : Hid (LM w b p w1 p S l) := Lib.hid (by have := M1.out; rw [← hdd] at this; exact this)
  clear hdd
  have c0 := K0.out.cell 0
  have c1 := K1.out.cell 0
  have f1 := K1.out.fro 0
  simp only [List.getElem?_toArray, List.getElem?_cons_succ, List.getElem?_cons_zero] at c0 c1
  have e0 : w1.cell? ⟨b, 0, none⟩ = some p.v := M1.out.1.blk.cell 0
  have e1 : w1.cell? ⟨b, 1, none⟩ = some (.int .i64 (l.file : Int)) := M1.out.1.blk.cell 1
  have e2 : w1.cell? ⟨b, 2, none⟩ = some (.int .i64 (l.gen : Int)) := M1.out.1.blk.cell 2
  unfold Fp.v at e0
  go_wp2_with fail
  refine rK w.heap.size b p.b (l.file : Int) (l.gen : Int) (nf : Int) (ng : Int) (fun w2 v => w2 = w1.drew.alloc (.cells #[.pointer none, .int .i64 0, .int .i64 0, .int .i64 0, .bool false] 96) ∧ v = .pointer (some ⟨w1.heap.size, 0, none⟩)) w1 hnf1 hng1 (by omega) (by have := HNG.out; omega) (by omega) (by have := HNG.out; omega) (wrap_small _ (by omega) (by have := HNG.out; omega)) (wrap_small _ (by omega) (by have := HNG.out; omega)) c0 (Lib.hid ?_) e0 (Lib.hid ?_) e1 (Lib.hid ?_) e2 (Lib.hid ?_) (Lib.hid ⟨rfl, rfl⟩) ?_
  · rintro w2 v ⟨rfl, rfl⟩; exact (K0.out.drew.alloc (o := (.cells #[.pointer none, .int .i64 0, .int .i64 0, .int .i64 0, .bool false] 96))).cell 0
  · rintro w2 v ⟨rfl, rfl⟩; exact (M1.out.1.blk.drew.alloc (o := (.cells #[.pointer none, .int .i64 0, .int .i64 0, .int .i64 0, .bool false] 96))).cell 0
  · rintro w2 v ⟨rfl, rfl⟩; exact (M1.out.1.blk.drew.alloc (o := (.cells #[.pointer none, .int .i64 0, .int .i64 0, .int .i64 0, .bool false] 96))).cell 1
  · rintro w2 v ⟨rfl, rfl⟩; exact (M1.out.1.blk.drew.alloc (o := (.cells #[.pointer none, .int .i64 0, .int .i64 0, .int .i64 0, .bool false] 96))).cell 2
  rintro yE w2 ⟨rfl, rfl⟩
  simp only [rKO, findR, Tryd.f39, Option.bind_some, Option.or, Option.getD, Nat.reduceEqDiff, if_true, if_false, reduceIte, List.drop_succ_cons, List.drop_zero]
  go_wp2_with fail
  have KN : Hid (Bk 96 (w1.alloc (.cells #[.pointer (some ⟨p.b, 0, none⟩), .int .i64 (nf : Int), .int .i64 (ng : Int), .int .i64 0, .bool false] 96)).drew w1.heap.size #[.pointer (some ⟨p.b, 0, none⟩), .int .i64 (nf : Int), .int .i64 (ng : Int), .int .i64 0, .bool false]) := Lib.hid (Bk.new rfl).drew
  have hbn : Below w1.heap.size w1 (w1.alloc (.cells #[.pointer (some ⟨p.b, 0, none⟩), .int .i64 (nf : Int), .int .i64 (ng : Int), .int .i64 0, .bool false] 96)).drew := by go_grown
  have HNN : Hid (w1.heap.size < (w1.alloc (.cells #[.pointer (some ⟨p.b, 0, none⟩), .int .i64 (nf : Int), .int .i64 (ng : Int), .int .i64 0, .bool false] 96)).drew.heap.size) := Lib.hid (by show _ < (w1.alloc (.cells #[.pointer (some ⟨p.b, 0, none⟩), .int .i64 (nf : Int), .int .i64 (ng : Int), .int .i64 0, .bool false] 96)).heap.size; simp)
  replace M1 := Lib.hid (M1.out.then_below hbn)
  replace K0 := Lib.hid (K0.out.below hbn)
  replace K1 := Lib.hid (K1.out.below hbn)
  replace HSZ : Hid (w.heap.size + 2 ≤ w1.heap.size ∧ w.heap.size + 2 ≤ (w1.alloc (.cells #[.pointer (some ⟨p.b, 0, none⟩), .int .i64 (nf : Int), .int .i64 (ng : Int), .int .i64 0, .bool false] 96)).drew.heap.size) := Lib.hid ⟨by have := HSZ.out; omega, by have := hbn.size; have := HSZ.out; omega⟩
  have NN : Hid (w1.heap.size ∉ p.own ∧ w1.heap.size ≠ b) := Lib.hid ⟨fun hx => by have := HLK.out.dk.lt _ hx; have := HSZ.out; omega, by have := HBL.out; have := HSZ.out; omega⟩
  clear c0 c1 f1 e0 e1 e2 hbn
  generalize (w1.alloc (.cells #[.pointer (some ⟨p.b, 0, none⟩), .int .i64 (nf : Int), .int .i64 (ng : Int), .int .i64 0, .bool false] 96)).drew = w3 at *
  generalize w1.heap.size = bn at *
  refine (HA.out w3 (M1.out.tb HTB.out HLK.out.zb HLK.out.zo) M1.out.1.dk M1.out.1.zo).mono ?_
  rintro e w4 ⟨rfl, p4, hm⟩
  have NP : Hid (w.heap.size ∉ p4.own ∧ w.heap.size + 1 ∉ p4.own) := Lib.hid ⟨fun hx => (hm.2.2.2 _ hx).elim NO.out.1 (by have := HSZ.out; omega), fun hx => (hm.2.2.2 _ hx).elim NO.out.2 (by have := HSZ.out; omega)⟩
  replace K0 := Lib.hid (K0.out.only hm.2.2.1 NO.out.1)
  replace K1 := Lib.hid (K1.out.only hm.2.2.1 NO.out.2)
  have M4 : Hid (LM w b p w4 p4 S2 l) := Lib.hid (M1.out.mut HZ.out hm (by have := HBL.out; have := HSZ.out; omega))
  clear hm M1 HA
  rw [endOf_no (by decide)]
  have c0 := K0.out.cell 0
  have c1 := K1.out.cell 0
  have f1 := K1.out.fro 0
  simp only [List.getElem?_toArray, List.getElem?_cons_succ, List.getElem?_cons_zero] at c0 c1
  have d4 : w4.cell? ⟨b, 4, none⟩ = some (.bool l.dead) := M4.out.1.blk.cell 4
  have g4 := M4.out.1.blk.fro 4
  go_wp2_with fail
  refine leaves_cons (f := 77) (args := #[.pointer (some ⟨w.heap.size, 0, none⟩), .pointer (some ⟨w.heap.size + 1, 0, none⟩)]) (by simp) (by simp [go_sem]) ?_
  refine (catch77_panicking w.heap.size (w.heap.size + 1) b 2 [] w4 _ _ c0 c1 d4 f1 g4 (by have := HBL.out; omega)).mono ?_
  rintro e u' w9 ⟨rfl, rfl, rfl⟩
  have hne : w.heap.size + 1 ≠ b := by have := HBL.out; omega
  refine ⟨.int .i64 2, by simp [results, Tryd.results39, go_sem, c1, hne], rfl, p4, ?_⟩
  exact ((M4.out.die true).own_set ⟨w.heap.size + 1, 0, none⟩ (by simp) (by simp; omega) NP.out.2 _).drew
set_option maxHeartbeats 16000000 in
theorem lchk_cut {w : World} {b : Nat} {p : Fp} {S : St} {l : Wlg} (h : Lk w b p S l) (hT : Tb w) (r : Bs) (hg : (l.dead || S.gone) = false) (hl : ¬ r.length > 524288) (hf : ¬ l.gen = 4611686018427387904) (hc : (lays S (1 - l.file) (l.gen + 1) r).1 = 0) (hcc : ((lays S (1 - l.file) (l.gen + 1) r).2.cut l.file 0).1 = 2) :
    Calls Tryd.prog 39 #[.pointer (some ⟨b, 0, none⟩), .string ⟨r.toArray⟩] w fun e w' => e = .returned (.int .i64 2) ∧ ∃ p', LM w b p w' p' (((lays S (1 - l.file) (l.gen + 1) r).2.cut l.file 0).2) (l.sink) := by
  have hbl := h.blk.lt
  have HZ := Lib.hid hT.1
  have HBL := Lib.hid hbl
  have M0 : Hid (LM w b p ((w.alloc (.cells #[.pointer (some ⟨b, 0, none⟩)] 35)).alloc (.cells #[.int .i64 0] 28)) p S l) := Lib.hid (LM.refl h (by go_grown))
  have K0 : Hid (Bk 35 ((w.alloc (.cells #[.pointer (some ⟨b, 0, none⟩)] 35)).alloc (.cells #[.int .i64 0] 28)) w.heap.size #[.pointer (some ⟨b, 0, none⟩)]) := Lib.hid (Bk.alloc (Bk.new rfl))
  have K1 : Hid (Bk 28 ((w.alloc (.cells #[.pointer (some ⟨b, 0, none⟩)] 35)).alloc (.cells #[.int .i64 0] 28)) (w.heap.size + 1) #[.int .i64 0]) := Lib.hid (Bk.new (by simp))
  have HSZ : Hid (((w.alloc (.cells #[.pointer (some ⟨b, 0, none⟩)] 35)).alloc (.cells #[.int .i64 0] 28)).heap.size = w.heap.size + 2) := Lib.hid (by simp)
  have NO : Hid (w.heap.size ∉ p.own ∧ w.heap.size + 1 ∉ p.own) := Lib.hid ⟨fun hx => by have := h.dk.lt _ hx; omega, fun hx => by have := h.dk.lt _ hx; omega⟩
  have HTB := Lib.hid hT
  have HLK := Lib.hid h
  have HG := Lib.hid (gone_any M0.out.1)
  rw [hg] at HG
  have c0 := K0.out.cell 0
  simp only [List.getElem?_toArray, List.getElem?_cons_succ, List.getElem?_cons_zero] at c0
  have hlen : (⟨r.toArray⟩ : ByteArray).size = r.length := size_ba r
  have hd1 : decide ((524288 : Int) < (r.length : Int)) = false := by simp; omega
  have hd1n : decide (524288 < r.length) = false := by simp; omega
  have hd2 : ((l.gen : Int) == 4611686018427387904) = false := by simp; omega
  have hdd : l.dead = false := by simp at hg; exact hg.1
  have hgg := h.gg
  have hff := h.ff
  have hg1 : (l.gen : Int) < 4611686018427387904 := by omega
  have hg0 : (0 : Int) ≤ (l.gen : Int) := by omega
  have hf1 : (l.file : Int) < 2 := by omega
  have hf0 : (0 : Int) ≤ (l.file : Int) := by omega
  obtain ⟨nf, hnf⟩ : ∃ nf, nf = 1 - l.file := ⟨_, rfl⟩
  obtain ⟨ng, hng⟩ : ∃ ng, ng = l.gen + 1 := ⟨_, rfl⟩
  have hnf1 : (1 : Int) - (l.file : Int) = (nf : Int) := by omega
  have hng1 : (l.gen : Int) + 1 = (ng : Int) := by omega
  rw [← hnf, ← hng] at hc hcc ⊢
  have HA : Hid (∀ (w1 : World), Tb w1 → Dk w1 p S → 0 ∉ p.own → Calls Tryd.prog 44 #[p.v, .int .i64 (nf : Int), .int .i64 (ng : Int), .string ⟨r.toArray⟩] w1 fun e w' => e = endOf (lays S nf ng r).1 ∧ ∃ p', Mut w1 p w' p' (lays S nf ng r).2) := Lib.hid fun w1 ht hd hz => lay_any p S nf ng (by omega) r (by omega) w1 ht hd hz
  rw [hc] at HA
  have HC : Hid (∀ (w1 : World) (p1 : Fp), p1.v = p.v → Dk w1 p1 (lays S nf ng r).2 → Calls Tryd.prog 78 #[p.v, .int .i64 (l.file : Int), .int .i64 0] w1 fun e w' => e = .returned (.int .i64 (((lays S nf ng r).2.cut l.file 0).1 : Int)) ∧ ∃ p', Mut w1 p1 w' p' ((lays S nf ng r).2.cut l.file 0).2) := Lib.hid fun w1 p1 hv hd => by
    have := cut_any p1 (lays S nf ng r).2 l.file 0 w1 hd
    rw [hv] at this
    exact this
  rw [hcc] at HC
  generalize ((lays S nf ng r).2.cut l.file 0).2 = S3 at *
  generalize (lays S nf ng r).2 = S2 at *
  have HNG : Hid (ng ≤ 4611686018427387904 ∧ nf < 2) := Lib.hid (by omega)
  clear hg h hT hbl hl hf hc hgg hff hnf hng hcc
  go_enter_defers Tryd.func39, Tryd.ntmps39
  go_wp2_with fail
  clear c0
  generalize ((w.alloc (.cells #[.pointer (some ⟨b, 0, none⟩)] 35)).alloc (.cells #[.int .i64 0] 28)) = wa at M0 K0 K1 HSZ HG ⊢
  refine HG.out.mono ?_
  rintro e w1 ⟨rfl, hw1⟩
  have M1 : Hid (LM w b p w1 p S { l with dead := false }) := Lib.hid (by rw [hw1]; exact M0.out.die false)
  have k0 : Bk 35 w1 w.heap.size #[.pointer (some ⟨b, 0, none⟩)] := by rw [hw1]; exact K0.out.oth (by have := HBL.out; simp; omega)
  have k1 : Bk 28 w1 (w.heap.size + 1) #[.int .i64 0] := by rw [hw1]; exact K1.out.oth (by have := HBL.out; simp; omega)
  have hsz : w1.heap.size = w.heap.size + 2 := by rw [hw1]; simpa using HSZ.out
  replace K0 := Lib.hid k0
  replace K1 := Lib.hid k1
  replace HSZ := Lib.hid hsz
  clear hw1 k0 k1 hsz HG M0
  replace M1 : Hid (LM w b p w1 p S l) := Lib.hid (by have := M1.out; rw [← hdd] at this; exact this)
  clear hdd
  have c0 := K0.out.cell 0
  have c1 := K1.out.cell 0
  have f1 := K1.out.fro 0
  simp only [List.getElem?_toArray, List.getElem?_cons_succ, List.getElem?_cons_zero] at c0 c1
  have e0 : w1.cell? ⟨b, 0, none⟩ = some p.v := M1.out.1.blk.cell 0
  have e1 : w1.cell? ⟨b, 1, none⟩ = some (.int .i64 (l.file : Int)) := M1.out.1.blk.cell 1
  have e2 : w1.cell? ⟨b, 2, none⟩ = some (.int .i64 (l.gen : Int)) := M1.out.1.blk.cell 2
  unfold Fp.v at e0
  go_wp2_with fail
  refine rK w.heap.size b p.b (l.file : Int) (l.gen : Int) (nf : Int) (ng : Int) (fun w2 v => w2 = w1.drew.alloc (.cells #[.pointer none, .int .i64 0, .int .i64 0, .int .i64 0, .bool false] 96) ∧ v = .pointer (some ⟨w1.heap.size, 0, none⟩)) w1 hnf1 hng1 (by omega) (by have := HNG.out; omega) (by omega) (by have := HNG.out; omega) (wrap_small _ (by omega) (by have := HNG.out; omega)) (wrap_small _ (by omega) (by have := HNG.out; omega)) c0 (Lib.hid ?_) e0 (Lib.hid ?_) e1 (Lib.hid ?_) e2 (Lib.hid ?_) (Lib.hid ⟨rfl, rfl⟩) ?_
  · rintro w2 v ⟨rfl, rfl⟩; exact (K0.out.drew.alloc (o := (.cells #[.pointer none, .int .i64 0, .int .i64 0, .int .i64 0, .bool false] 96))).cell 0
  · rintro w2 v ⟨rfl, rfl⟩; exact (M1.out.1.blk.drew.alloc (o := (.cells #[.pointer none, .int .i64 0, .int .i64 0, .int .i64 0, .bool false] 96))).cell 0
  · rintro w2 v ⟨rfl, rfl⟩; exact (M1.out.1.blk.drew.alloc (o := (.cells #[.pointer none, .int .i64 0, .int .i64 0, .int .i64 0, .bool false] 96))).cell 1
  · rintro w2 v ⟨rfl, rfl⟩; exact (M1.out.1.blk.drew.alloc (o := (.cells #[.pointer none, .int .i64 0, .int .i64 0, .int .i64 0, .bool false] 96))).cell 2
  rintro yE w2 ⟨rfl, rfl⟩
  simp only [rKO, findR, Tryd.f39, Option.bind_some, Option.or, Option.getD, Nat.reduceEqDiff, if_true, if_false, reduceIte, List.drop_succ_cons, List.drop_zero]
  go_wp2_with fail
  have KN : Hid (Bk 96 (w1.alloc (.cells #[.pointer (some ⟨p.b, 0, none⟩), .int .i64 (nf : Int), .int .i64 (ng : Int), .int .i64 0, .bool false] 96)).drew w1.heap.size #[.pointer (some ⟨p.b, 0, none⟩), .int .i64 (nf : Int), .int .i64 (ng : Int), .int .i64 0, .bool false]) := Lib.hid (Bk.new rfl).drew
  have hbn : Below w1.heap.size w1 (w1.alloc (.cells #[.pointer (some ⟨p.b, 0, none⟩), .int .i64 (nf : Int), .int .i64 (ng : Int), .int .i64 0, .bool false] 96)).drew := by go_grown
  have HNN : Hid (w1.heap.size < (w1.alloc (.cells #[.pointer (some ⟨p.b, 0, none⟩), .int .i64 (nf : Int), .int .i64 (ng : Int), .int .i64 0, .bool false] 96)).drew.heap.size) := Lib.hid (by show _ < (w1.alloc (.cells #[.pointer (some ⟨p.b, 0, none⟩), .int .i64 (nf : Int), .int .i64 (ng : Int), .int .i64 0, .bool false] 96)).heap.size; simp)
  replace M1 := Lib.hid (M1.out.then_below hbn)
  replace K0 := Lib.hid (K0.out.below hbn)
  replace K1 := Lib.hid (K1.out.below hbn)
  replace HSZ : Hid (w.heap.size + 2 ≤ w1.heap.size ∧ w.heap.size + 2 ≤ (w1.alloc (.cells #[.pointer (some ⟨p.b, 0, none⟩), .int .i64 (nf : Int), .int .i64 (ng : Int), .int .i64 0, .bool false] 96)).drew.heap.size) := Lib.hid ⟨by have := HSZ.out; omega, by have := hbn.size; have := HSZ.out; omega⟩
  have NN : Hid (w1.heap.size ∉ p.own ∧ w1.heap.size ≠ b) := Lib.hid ⟨fun hx => by have := HLK.out.dk.lt _ hx; have := HSZ.out; omega, by have := HBL.out; have := HSZ.out; omega⟩
  clear c0 c1 f1 e0 e1 e2 hbn
  generalize (w1.alloc (.cells #[.pointer (some ⟨p.b, 0, none⟩), .int .i64 (nf : Int), .int .i64 (ng : Int), .int .i64 0, .bool false] 96)).drew = w3 at *
  generalize w1.heap.size = bn at *
  refine (HA.out w3 (M1.out.tb HTB.out HLK.out.zb HLK.out.zo) M1.out.1.dk M1.out.1.zo).mono ?_
  rintro e w4 ⟨rfl, p4, hm⟩
  have NN4 : Hid (bn ∉ p4.own) := Lib.hid fun hx => (hm.2.2.2 _ hx).elim NN.out.1 (by have := HNN.out; omega)
  replace KN := Lib.hid (KN.out.only hm.2.2.1 NN.out.1)
  have HS4 : Hid (w3.heap.size ≤ w4.heap.size) := Lib.hid hm.2.2.1.size
  have NP : Hid (w.heap.size ∉ p4.own ∧ w.heap.size + 1 ∉ p4.own) := Lib.hid ⟨fun hx => (hm.2.2.2 _ hx).elim NO.out.1 (by have := HSZ.out; omega), fun hx => (hm.2.2.2 _ hx).elim NO.out.2 (by have := HSZ.out; omega)⟩
  replace K0 := Lib.hid (K0.out.only hm.2.2.1 NO.out.1)
  replace K1 := Lib.hid (K1.out.only hm.2.2.1 NO.out.2)
  have M4 : Hid (LM w b p w4 p4 S2 l) := Lib.hid (M1.out.mut HZ.out hm (by have := HBL.out; have := HSZ.out; omega))
  clear hm M1 HA
  rw [endOf, if_pos rfl]
  have hb4 : p4.b = p.b := M4.out.2.1
  have c0 := K0.out.cell 0
  have c1 := K1.out.cell 0
  have f1 := K1.out.fro 0
  simp only [List.getElem?_toArray, List.getElem?_cons_succ, List.getElem?_cons_zero] at c0 c1
  have e0 : w4.cell? ⟨b, 0, none⟩ = some (.pointer (some ⟨p4.b, 0, none⟩)) := M4.out.1.blk.cell 0
  have e1 : w4.cell? ⟨b, 1, none⟩ = some (.int .i64 (l.file : Int)) := M4.out.1.blk.cell 1
  rw [hb4] at e0
  have q0 := cell_regrown c0
  have q1 := cell_regrown e0
  have q2 := cell_regrown e1
  go_wp2_with fail
  refine wp_region_below_tail 8 mixed (by kernel_rfl) ?_
  simp only [List.take_succ_cons, List.take_zero, List.drop_succ_cons, List.drop_zero]
  repeat (first | go_big_quiet_step (fail) | quiet_step (fail))
  refine wpQuiet_nil ?_
  intro _ hw'
  obtain ⟨⟨dq, osq⟩, hw''⟩ := hw'
  subst hw''
  have hbq := below_regrown w4 dq osq
  replace M4 := Lib.hid (M4.out.then_below hbq)
  replace K0 := Lib.hid (K0.out.below hbq)
  replace K1 := Lib.hid (K1.out.below hbq)
  replace KN := Lib.hid (KN.out.below hbq)
  have HS5 : Hid (w3.heap.size ≤ (grow (redrawn w4 dq) osq).heap.size) := Lib.hid (by have := hbq.size; have := HS4.out; omega)
  clear hbq c0 c1 f1 q0 q1 q2 e0 e1
  generalize grow (redrawn w4 dq) osq = w5 at *
  go_wp2_with fail
  have hv4 : p4.v = p.v := by unfold Fp.v; rw [hb4]
  refine (HC.out w5 p4 hv4 M4.out.1.dk).mono ?_
  rintro e w6 ⟨rfl, p6, hm⟩
  have NP6 : Hid (w.heap.size ∉ p6.own ∧ w.heap.size + 1 ∉ p6.own) := Lib.hid ⟨fun hx => (hm.2.2.2 _ hx).elim NP.out.1 (by have := HSZ.out; have := HS5.out; omega), fun hx => (hm.2.2.2 _ hx).elim NP.out.2 (by have := HSZ.out; have := HS5.out; omega)⟩
  replace K0 := Lib.hid (K0.out.only hm.2.2.1 NP.out.1)
  replace K1 := Lib.hid (K1.out.only hm.2.2.1 NP.out.2)
  replace KN := Lib.hid (KN.out.only hm.2.2.1 NN4.out)
  have M6 : Hid (LM w b p w6 p6 S3 l) := Lib.hid (M4.out.mut HZ.out hm (by have := HBL.out; have := HSZ.out; have := HS5.out; omega))
  replace NP := NP6
  clear hm M4 HC hv4 hb4 NP6
  go_wp2_with fail
  refine (must_no 2 (by decide) _).mono ?_
  rintro e w7 ⟨rfl, rfl⟩
  unfold gaveUp
  have c0 := K0.out.cell 0
  have c1 := K1.out.cell 0
  have f1 := K1.out.fro 0
  simp only [List.getElem?_toArray, List.getElem?_cons_succ, List.getElem?_cons_zero] at c0 c1
  have d4 : w6.cell? ⟨b, 4, none⟩ = some (.bool l.dead) := M6.out.1.blk.cell 4
  have g4 := M6.out.1.blk.fro 4
  go_wp2_with fail
  refine leaves_cons (f := 77) (args := #[.pointer (some ⟨w.heap.size, 0, none⟩), .pointer (some ⟨w.heap.size + 1, 0, none⟩)]) (by simp) (by simp [go_sem]) ?_
  refine (catch77_panicking w.heap.size (w.heap.size + 1) b 2 [] w6 _ _ c0 c1 d4 f1 g4 (by have := HBL.out; omega)).mono ?_
  rintro e u' w9 ⟨rfl, rfl, rfl⟩
  have hne : w.heap.size + 1 ≠ b := by have := HBL.out; omega
  refine ⟨.int .i64 2, by simp [results, Tryd.results39, go_sem, c1, hne], rfl, p6, ?_⟩
  exact ((M6.out.die true).own_set ⟨w.heap.size + 1, 0, none⟩ (by simp) (by simp; omega) NP.out.2 _).drew
set_option maxHeartbeats 16000000 in
theorem lchk_ok {w : World} {b : Nat} {p : Fp} {S : St} {l : Wlg} (h : Lk w b p S l) (hT : Tb w) (r : Bs) (hg : (l.dead || S.gone) = false) (hl : ¬ r.length > 524288) (hf : ¬ l.gen = 4611686018427387904) (hc : (lays S (1 - l.file) (l.gen + 1) r).1 = 0) (hcc : ((lays S (1 - l.file) (l.gen + 1) r).2.cut l.file 0).1 = 0) :
    Calls Tryd.prog 39 #[.pointer (some ⟨b, 0, none⟩), .string ⟨r.toArray⟩] w fun e w' => e = .returned (.int .i64 0) ∧ ∃ p', LM w b p w' p' (((lays S (1 - l.file) (l.gen + 1) r).2.cut l.file 0).2) (⟨1 - l.file, l.gen + 1, 0, false⟩) := by
  have hbl := h.blk.lt
  have HZ := Lib.hid hT.1
  have HBL := Lib.hid hbl
  have M0 : Hid (LM w b p ((w.alloc (.cells #[.pointer (some ⟨b, 0, none⟩)] 35)).alloc (.cells #[.int .i64 0] 28)) p S l) := Lib.hid (LM.refl h (by go_grown))
  have K0 : Hid (Bk 35 ((w.alloc (.cells #[.pointer (some ⟨b, 0, none⟩)] 35)).alloc (.cells #[.int .i64 0] 28)) w.heap.size #[.pointer (some ⟨b, 0, none⟩)]) := Lib.hid (Bk.alloc (Bk.new rfl))
  have K1 : Hid (Bk 28 ((w.alloc (.cells #[.pointer (some ⟨b, 0, none⟩)] 35)).alloc (.cells #[.int .i64 0] 28)) (w.heap.size + 1) #[.int .i64 0]) := Lib.hid (Bk.new (by simp))
  have HSZ : Hid (((w.alloc (.cells #[.pointer (some ⟨b, 0, none⟩)] 35)).alloc (.cells #[.int .i64 0] 28)).heap.size = w.heap.size + 2) := Lib.hid (by simp)
  have NO : Hid (w.heap.size ∉ p.own ∧ w.heap.size + 1 ∉ p.own) := Lib.hid ⟨fun hx => by have := h.dk.lt _ hx; omega, fun hx => by have := h.dk.lt _ hx; omega⟩
  have HTB := Lib.hid hT
  have HLK := Lib.hid h
  have HG := Lib.hid (gone_any M0.out.1)
  rw [hg] at HG
  have c0 := K0.out.cell 0
  simp only [List.getElem?_toArray, List.getElem?_cons_succ, List.getElem?_cons_zero] at c0
  have hlen : (⟨r.toArray⟩ : ByteArray).size = r.length := size_ba r
  have hd1 : decide ((524288 : Int) < (r.length : Int)) = false := by simp; omega
  have hd1n : decide (524288 < r.length) = false := by simp; omega
  have hd2 : ((l.gen : Int) == 4611686018427387904) = false := by simp; omega
  have hdd : l.dead = false := by simp at hg; exact hg.1
  have hgg := h.gg
  have hff := h.ff
  have hg1 : (l.gen : Int) < 4611686018427387904 := by omega
  have hg0 : (0 : Int) ≤ (l.gen : Int) := by omega
  have hf1 : (l.file : Int) < 2 := by omega
  have hf0 : (0 : Int) ≤ (l.file : Int) := by omega
  obtain ⟨nf, hnf⟩ : ∃ nf, nf = 1 - l.file := ⟨_, rfl⟩
  obtain ⟨ng, hng⟩ : ∃ ng, ng = l.gen + 1 := ⟨_, rfl⟩
  have hnf1 : (1 : Int) - (l.file : Int) = (nf : Int) := by omega
  have hng1 : (l.gen : Int) + 1 = (ng : Int) := by omega
  rw [← hnf, ← hng] at hc hcc ⊢
  have HA : Hid (∀ (w1 : World), Tb w1 → Dk w1 p S → 0 ∉ p.own → Calls Tryd.prog 44 #[p.v, .int .i64 (nf : Int), .int .i64 (ng : Int), .string ⟨r.toArray⟩] w1 fun e w' => e = endOf (lays S nf ng r).1 ∧ ∃ p', Mut w1 p w' p' (lays S nf ng r).2) := Lib.hid fun w1 ht hd hz => lay_any p S nf ng (by omega) r (by omega) w1 ht hd hz
  rw [hc] at HA
  have HC : Hid (∀ (w1 : World) (p1 : Fp), p1.v = p.v → Dk w1 p1 (lays S nf ng r).2 → Calls Tryd.prog 78 #[p.v, .int .i64 (l.file : Int), .int .i64 0] w1 fun e w' => e = .returned (.int .i64 (((lays S nf ng r).2.cut l.file 0).1 : Int)) ∧ ∃ p', Mut w1 p1 w' p' ((lays S nf ng r).2.cut l.file 0).2) := Lib.hid fun w1 p1 hv hd => by
    have := cut_any p1 (lays S nf ng r).2 l.file 0 w1 hd
    rw [hv] at this
    exact this
  rw [hcc] at HC
  generalize ((lays S nf ng r).2.cut l.file 0).2 = S3 at *
  generalize (lays S nf ng r).2 = S2 at *
  have HNG : Hid (ng ≤ 4611686018427387904 ∧ nf < 2) := Lib.hid (by omega)
  clear hg h hT hbl hl hf hc hgg hff hnf hng hcc
  go_enter_defers Tryd.func39, Tryd.ntmps39
  go_wp2_with fail
  clear c0
  generalize ((w.alloc (.cells #[.pointer (some ⟨b, 0, none⟩)] 35)).alloc (.cells #[.int .i64 0] 28)) = wa at M0 K0 K1 HSZ HG ⊢
  refine HG.out.mono ?_
  rintro e w1 ⟨rfl, hw1⟩
  have M1 : Hid (LM w b p w1 p S { l with dead := false }) := Lib.hid (by rw [hw1]; exact M0.out.die false)
  have k0 : Bk 35 w1 w.heap.size #[.pointer (some ⟨b, 0, none⟩)] := by rw [hw1]; exact K0.out.oth (by have := HBL.out; simp; omega)
  have k1 : Bk 28 w1 (w.heap.size + 1) #[.int .i64 0] := by rw [hw1]; exact K1.out.oth (by have := HBL.out; simp; omega)
  have hsz : w1.heap.size = w.heap.size + 2 := by rw [hw1]; simpa using HSZ.out
  replace K0 := Lib.hid k0
  replace K1 := Lib.hid k1
  replace HSZ := Lib.hid hsz
  clear hw1 k0 k1 hsz HG M0
  replace M1 : Hid (LM w b p w1 p S l) := Lib.hid (by have := M1.out; rw [← hdd] at this; exact this)
  clear hdd
  have c0 := K0.out.cell 0
  have c1 := K1.out.cell 0
  have f1 := K1.out.fro 0
  simp only [List.getElem?_toArray, List.getElem?_cons_succ, List.getElem?_cons_zero] at c0 c1
  have e0 : w1.cell? ⟨b, 0, none⟩ = some p.v := M1.out.1.blk.cell 0
  have e1 : w1.cell? ⟨b, 1, none⟩ = some (.int .i64 (l.file : Int)) := M1.out.1.blk.cell 1
  have e2 : w1.cell? ⟨b, 2, none⟩ = some (.int .i64 (l.gen : Int)) := M1.out.1.blk.cell 2
  unfold Fp.v at e0
  go_wp2_with fail
  refine rK w.heap.size b p.b (l.file : Int) (l.gen : Int) (nf : Int) (ng : Int) (fun w2 v => w2 = w1.drew.alloc (.cells #[.pointer none, .int .i64 0, .int .i64 0, .int .i64 0, .bool false] 96) ∧ v = .pointer (some ⟨w1.heap.size, 0, none⟩)) w1 hnf1 hng1 (by omega) (by have := HNG.out; omega) (by omega) (by have := HNG.out; omega) (wrap_small _ (by omega) (by have := HNG.out; omega)) (wrap_small _ (by omega) (by have := HNG.out; omega)) c0 (Lib.hid ?_) e0 (Lib.hid ?_) e1 (Lib.hid ?_) e2 (Lib.hid ?_) (Lib.hid ⟨rfl, rfl⟩) ?_
  · rintro w2 v ⟨rfl, rfl⟩; exact (K0.out.drew.alloc (o := (.cells #[.pointer none, .int .i64 0, .int .i64 0, .int .i64 0, .bool false] 96))).cell 0
  · rintro w2 v ⟨rfl, rfl⟩; exact (M1.out.1.blk.drew.alloc (o := (.cells #[.pointer none, .int .i64 0, .int .i64 0, .int .i64 0, .bool false] 96))).cell 0
  · rintro w2 v ⟨rfl, rfl⟩; exact (M1.out.1.blk.drew.alloc (o := (.cells #[.pointer none, .int .i64 0, .int .i64 0, .int .i64 0, .bool false] 96))).cell 1
  · rintro w2 v ⟨rfl, rfl⟩; exact (M1.out.1.blk.drew.alloc (o := (.cells #[.pointer none, .int .i64 0, .int .i64 0, .int .i64 0, .bool false] 96))).cell 2
  rintro yE w2 ⟨rfl, rfl⟩
  simp only [rKO, findR, Tryd.f39, Option.bind_some, Option.or, Option.getD, Nat.reduceEqDiff, if_true, if_false, reduceIte, List.drop_succ_cons, List.drop_zero]
  go_wp2_with fail
  have KN : Hid (Bk 96 (w1.alloc (.cells #[.pointer (some ⟨p.b, 0, none⟩), .int .i64 (nf : Int), .int .i64 (ng : Int), .int .i64 0, .bool false] 96)).drew w1.heap.size #[.pointer (some ⟨p.b, 0, none⟩), .int .i64 (nf : Int), .int .i64 (ng : Int), .int .i64 0, .bool false]) := Lib.hid (Bk.new rfl).drew
  have hbn : Below w1.heap.size w1 (w1.alloc (.cells #[.pointer (some ⟨p.b, 0, none⟩), .int .i64 (nf : Int), .int .i64 (ng : Int), .int .i64 0, .bool false] 96)).drew := by go_grown
  have HNN : Hid (w1.heap.size < (w1.alloc (.cells #[.pointer (some ⟨p.b, 0, none⟩), .int .i64 (nf : Int), .int .i64 (ng : Int), .int .i64 0, .bool false] 96)).drew.heap.size) := Lib.hid (by show _ < (w1.alloc (.cells #[.pointer (some ⟨p.b, 0, none⟩), .int .i64 (nf : Int), .int .i64 (ng : Int), .int .i64 0, .bool false] 96)).heap.size; simp)
  replace M1 := Lib.hid (M1.out.then_below hbn)
  replace K0 := Lib.hid (K0.out.below hbn)
  replace K1 := Lib.hid (K1.out.below hbn)
  replace HSZ : Hid (w.heap.size + 2 ≤ w1.heap.size ∧ w.heap.size + 2 ≤ (w1.alloc (.cells #[.pointer (some ⟨p.b, 0, none⟩), .int .i64 (nf : Int), .int .i64 (ng : Int), .int .i64 0, .bool false] 96)).drew.heap.size) := Lib.hid ⟨by have := HSZ.out; omega, by have := hbn.size; have := HSZ.out; omega⟩
  have NN : Hid (w1.heap.size ∉ p.own ∧ w1.heap.size ≠ b) := Lib.hid ⟨fun hx => by have := HLK.out.dk.lt _ hx; have := HSZ.out; omega, by have := HBL.out; have := HSZ.out; omega⟩
  clear c0 c1 f1 e0 e1 e2 hbn
  generalize (w1.alloc (.cells #[.pointer (some ⟨p.b, 0, none⟩), .int .i64 (nf : Int), .int .i64 (ng : Int), .int .i64 0, .bool false] 96)).drew = w3 at *
  generalize w1.heap.size = bn at *
  refine (HA.out w3 (M1.out.tb HTB.out HLK.out.zb HLK.out.zo) M1.out.1.dk M1.out.1.zo).mono ?_
  rintro e w4 ⟨rfl, p4, hm⟩
  have NN4 : Hid (bn ∉ p4.own) := Lib.hid fun hx => (hm.2.2.2 _ hx).elim NN.out.1 (by have := HNN.out; omega)
  replace KN := Lib.hid (KN.out.only hm.2.2.1 NN.out.1)
  have HS4 : Hid (w3.heap.size ≤ w4.heap.size) := Lib.hid hm.2.2.1.size
  have NP : Hid (w.heap.size ∉ p4.own ∧ w.heap.size + 1 ∉ p4.own) := Lib.hid ⟨fun hx => (hm.2.2.2 _ hx).elim NO.out.1 (by have := HSZ.out; omega), fun hx => (hm.2.2.2 _ hx).elim NO.out.2 (by have := HSZ.out; omega)⟩
  replace K0 := Lib.hid (K0.out.only hm.2.2.1 NO.out.1)
  replace K1 := Lib.hid (K1.out.only hm.2.2.1 NO.out.2)
  have M4 : Hid (LM w b p w4 p4 S2 l) := Lib.hid (M1.out.mut HZ.out hm (by have := HBL.out; have := HSZ.out; omega))
  clear hm M1 HA
  rw [endOf, if_pos rfl]
  have hb4 : p4.b = p.b := M4.out.2.1
  have c0 := K0.out.cell 0
  have c1 := K1.out.cell 0
  have f1 := K1.out.fro 0
  simp only [List.getElem?_toArray, List.getElem?_cons_succ, List.getElem?_cons_zero] at c0 c1
  have e0 : w4.cell? ⟨b, 0, none⟩ = some (.pointer (some ⟨p4.b, 0, none⟩)) := M4.out.1.blk.cell 0
  have e1 : w4.cell? ⟨b, 1, none⟩ = some (.int .i64 (l.file : Int)) := M4.out.1.blk.cell 1
  rw [hb4] at e0
  have q0 := cell_regrown c0
  have q1 := cell_regrown e0
  have q2 := cell_regrown e1
  go_wp2_with fail
  refine wp_region_below_tail 8 mixed (by kernel_rfl) ?_
  simp only [List.take_succ_cons, List.take_zero, List.drop_succ_cons, List.drop_zero]
  repeat (first | go_big_quiet_step (fail) | quiet_step (fail))
  refine wpQuiet_nil ?_
  intro _ hw'
  obtain ⟨⟨dq, osq⟩, hw''⟩ := hw'
  subst hw''
  have hbq := below_regrown w4 dq osq
  replace M4 := Lib.hid (M4.out.then_below hbq)
  replace K0 := Lib.hid (K0.out.below hbq)
  replace K1 := Lib.hid (K1.out.below hbq)
  replace KN := Lib.hid (KN.out.below hbq)
  have HS5 : Hid (w3.heap.size ≤ (grow (redrawn w4 dq) osq).heap.size) := Lib.hid (by have := hbq.size; have := HS4.out; omega)
  clear hbq c0 c1 f1 q0 q1 q2 e0 e1
  generalize grow (redrawn w4 dq) osq = w5 at *
  go_wp2_with fail
  have hv4 : p4.v = p.v := by unfold Fp.v; rw [hb4]
  refine (HC.out w5 p4 hv4 M4.out.1.dk).mono ?_
  rintro e w6 ⟨rfl, p6, hm⟩
  have NP6 : Hid (w.heap.size ∉ p6.own ∧ w.heap.size + 1 ∉ p6.own) := Lib.hid ⟨fun hx => (hm.2.2.2 _ hx).elim NP.out.1 (by have := HSZ.out; have := HS5.out; omega), fun hx => (hm.2.2.2 _ hx).elim NP.out.2 (by have := HSZ.out; have := HS5.out; omega)⟩
  replace K0 := Lib.hid (K0.out.only hm.2.2.1 NP.out.1)
  replace K1 := Lib.hid (K1.out.only hm.2.2.1 NP.out.2)
  replace KN := Lib.hid (KN.out.only hm.2.2.1 NN4.out)
  have M6 : Hid (LM w b p w6 p6 S3 l) := Lib.hid (M4.out.mut HZ.out hm (by have := HBL.out; have := HSZ.out; have := HS5.out; omega))
  replace NP := NP6
  clear hm M4 HC hv4 hb4 NP6
  go_wp2_with fail
  refine (must_yes _).mono ?_
  rintro e w7 ⟨rfl, rfl⟩
  have c0 := K0.out.cell 0
  have c1 := K1.out.cell 0
  have f1 := K1.out.fro 0
  simp only [List.getElem?_toArray, List.getElem?_cons_succ, List.getElem?_cons_zero] at c0 c1
  have n0 : w6.cell? ⟨bn, 0, none⟩ = some (.pointer (some ⟨p.b, 0, none⟩)) := KN.out.cell 0
  have n1 : w6.cell? ⟨bn, 1, none⟩ = some (.int .i64 (nf : Int)) := KN.out.cell 1
  have n2 : w6.cell? ⟨bn, 2, none⟩ = some (.int .i64 (ng : Int)) := KN.out.cell 2
  have n3 : w6.cell? ⟨bn, 3, none⟩ = some (.int .i64 0) := KN.out.cell 3
  have n4 : w6.cell? ⟨bn, 4, none⟩ = some (.bool false) := KN.out.cell 4
  have d0 := M6.out.1.blk.cell 0
  have d1 := M6.out.1.blk.cell 1
  have d2 := M6.out.1.blk.cell 2
  have d3 := M6.out.1.blk.cell 3
  have d4 := M6.out.1.blk.cell 4
  simp only [List.getElem?_toArray, List.getElem?_cons_succ, List.getElem?_cons_zero] at d0 d1 d2 d3 d4
  have g0 := M6.out.1.blk.fro 0
  have g1 := M6.out.1.blk.fro 1
  have g2 := M6.out.1.blk.fro 2
  have g3 := M6.out.1.blk.fro 3
  have g4 := M6.out.1.blk.fro 4
  have hne : w.heap.size + 1 ≠ b := by have := HBL.out; omega
  have hne0 : w.heap.size ≠ b := by have := HBL.out; omega
  go_wp2_with fail
  have M7 := Lib.hid (M6.out.put5 HNG.out.2 HNG.out.1 (n := 0) (d := false))
  rw [show p6.v = .pointer (some ⟨p.b, 0, none⟩) by unfold Fp.v; rw [M6.out.2.1]] at M7
  have M5 := Lib.hid (M7.out.own_set ⟨w.heap.size + 1, 0, none⟩ (by simp) (by simp; omega) NP.out.2 (.int .i64 0))
  have k0 := Lib.hid (Bk.oth (a := ⟨w.heap.size + 1, 0, none⟩) (v := .int .i64 0) (by simp) (K0.out.put5 hne0 (.pointer (some ⟨p.b, 0, none⟩)) (.int .i64 (nf : Int)) (.int .i64 (ng : Int)) (.int .i64 ((0 : Nat) : Int)) (.bool false)))
  have k1 := Lib.hid (Bk.same (i := 0) (v := .int .i64 0) (K1.out.put5 hne (.pointer (some ⟨p.b, 0, none⟩)) (.int .i64 (nf : Int)) (.int .i64 (ng : Int)) (.int .i64 ((0 : Nat) : Int)) (.bool false)))
  clear c0 c1 f1 n0 n1 n2 n3 n4 d0 d1 d2 d3 d4 g0 g1 g2 g3 g4 M7 M6 K0 K1
  generalize ((((((w6.setCell ⟨b, 0, none⟩ (.pointer (some ⟨p.b, 0, none⟩))).setCell ⟨b, 1, none⟩ (.int .i64 (nf : Int))).setCell ⟨b, 2, none⟩ (.int .i64 (ng : Int))).setCell ⟨b, 3, none⟩ (.int .i64 ((0 : Nat) : Int))).setCell ⟨b, 4, none⟩ (.bool false)).setCell ⟨w.heap.size + 1, 0, none⟩ (.int .i64 0)) = w5 at M5 k0 k1 ⊢
  have c0 : w5.cell? ⟨w.heap.size, 0, none⟩ = some (.pointer (some ⟨b, 0, none⟩)) := k0.out.cell 0
  have c1 : w5.cell? ⟨w.heap.size + 1, 0, none⟩ = some (.int .i64 0) := k1.out.cell 0
  have f1 := k1.out.fro 0
  refine leaves_cons (f := 77) (args := #[.pointer (some ⟨w.heap.size, 0, none⟩), .pointer (some ⟨w.heap.size + 1, 0, none⟩)]) (by simp) (by simp [go_sem]) ?_
  refine (catch77_idle w.heap.size (w.heap.size + 1) _ w5 _ c0 c1 f1).mono ?_
  rintro e u' w6 ⟨rfl, rfl, rfl⟩
  refine ⟨.int .i64 0, by simp [results, Tryd.results39, go_sem, c1], rfl, p6, ?_⟩
  exact (M5.out.own_set ⟨w.heap.size + 1, 0, none⟩ (by simp) (by simp; omega) NP.out.2 _).drew
theorem lchk_any {w : World} {b : Nat} {p : Fp} {S : St} {l : Wlg} (h : Lk w b p S l) (hT : Tb w) (hO : S.file (1 - l.file) = []) (r : Bs) :
    Calls Tryd.prog 39 #[.pointer (some ⟨b, 0, none⟩), .string ⟨r.toArray⟩] w fun e w' => LRes w b p (lchk S l r) e w' := by
  unfold lchk
  by_cases hg : (l.dead || S.gone) = true
  · rw [if_pos (by simpa using hg)]; exact lchk_gone h hT r hg
  · have hg' : (l.dead || S.gone) = false := by simpa using hg
    rw [if_neg (by simpa using hg')]
    by_cases hl : r.length > 524288
    · rw [if_pos hl]; exact lchk_long h hT r hg' hl
    · rw [if_neg hl]
      by_cases hf : l.gen = 4611686018427387904
      · rw [if_pos hf]; exact lchk_full h hT r hg' hl hf
      · rw [if_neg hf]
        rcases lays_code S (1 - l.file) (l.gen + 1) (by omega) r (by rw [hO]; simp; omega) with hc | hc
        · rw [if_pos hc]
          obtain ⟨a1, a2, a3, a4, a5⟩ := lays_ok h.dk.wf (by omega) hc
          rcases (show ((lays S (1 - l.file) (l.gen + 1) r).2.cut l.file (0 : Int)).1 = 0 ∨ ((lays S (1 - l.file) (l.gen + 1) r).2.cut l.file (0 : Int)).1 = 2 from cut_code (lays S (1 - l.file) (l.gen + 1) r).2 l.file 0 h.ff (Nat.zero_le _) (by rw [safe2_file a3]; exact Nat.le_refl _)) with hcc | hcc
          · rw [if_pos hcc]; exact lchk_ok h hT r hg' hl hf hc hcc
          · rw [if_neg (by omega)]; exact lchk_cut h hT r hg' hl hf hc hcc
        · rw [if_neg (by omega)]; exact lchk_lay h hT r hg' hl hf hc
end Go.Proofs.YtmoihgniglomiaaDoor
