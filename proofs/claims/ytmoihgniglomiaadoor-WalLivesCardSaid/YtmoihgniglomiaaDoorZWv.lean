/- What a log's New and Clone answer and leave. Condition: the disk's own, the program's table. -/
import Derived.Test.YtmoihgniglomiaaDoorZWt
set_option linter.unusedVariables false
set_option linter.unusedSimpArgs false
set_option maxRecDepth 100000
namespace Go.Proofs.YtmoihgniglomiaaDoor
open Go.RowKit Go.Sort

/-- what New answers and leaves -/
def NRes (w : World) (p : Fp) (r : Nat × St) (e : Ending) (w' : World) : Prop := ∃ v p', e = .returned (.tuple #[v, .int .i64 (r.1 : Int)]) ∧ Mut w p w' p' r.2 ∧ (r.1 = 0 → ∃ b, v = .pointer (some ⟨b, 0, none⟩) ∧ w.heap.size ≤ b ∧ Lk w' b p' r.2 ⟨0, 1, 0, false⟩) ∧ (r.1 ≠ 0 → v = .pointer none)
theorem Mut.own_set {w w1 : World} {p p1 : Fp} {S : St} (h : Mut w p w1 p1 S) (a : Addr) (ha : w.heap.size ≤ a.block) (hp : a.block ∉ p1.own) (v : Value) : Mut w p (w1.setCell a v) p1 S :=
  ⟨h.1.set hp a rfl v, h.2.1, h.2.2.1.setCell a (.inr ha) v, h.2.2.2⟩
theorem Mut.own_set2 {w w1 : World} {p p1 : Fp} {S : St} (h : Mut w p w1 p1 S) (a : Addr) (ha : w.heap.size ≤ a.block) (hp : a.block ∉ p1.own) (a' : Addr) (ha' : w.heap.size ≤ a'.block) (hp' : a'.block ∉ p1.own) (v v' : Value) : Mut w p ((w1.setCell a v).setCell a' v') p1 S :=
  (h.own_set a ha hp v).own_set a' ha' hp' v'
theorem Mut.drew {w w1 : World} {p p1 : Fp} {S : St} (h : Mut w p w1 p1 S) : Mut w p w1.drew p1 S := h.then_below ⟨rfl, rfl, rfl, Nat.le_refl _, fun _ _ => rfl⟩
set_option maxHeartbeats 16000000 in
theorem wnew_dead {w : World} {p : Fp} {S : St} (h : Dk w p S) (hT : Tb w) (hz : 0 ∉ p.own) (hg : S.gone = true) : Calls Tryd.prog 13 #[p.v] w fun e w' => NRes w p (2, S) e w' := by
  have HZ := Lib.hid hT.1
  have M0 : Hid (Mut w p ((w.alloc (.cells #[.pointer none] 35)).alloc (.cells #[.int .i64 0] 28)) p S) := Lib.hid (Mut.refl h (by go_grown))
  have K0 : Hid (Bk 35 ((w.alloc (.cells #[.pointer none] 35)).alloc (.cells #[.int .i64 0] 28)) w.heap.size #[.pointer none]) := Lib.hid (Bk.alloc (Bk.new rfl))
  have K1 : Hid (Bk 28 ((w.alloc (.cells #[.pointer none] 35)).alloc (.cells #[.int .i64 0] 28)) (w.heap.size + 1) #[.int .i64 0]) := Lib.hid (Bk.new (by simp))
  have HSZ : Hid (((w.alloc (.cells #[.pointer none] 35)).alloc (.cells #[.int .i64 0] 28)).heap.size = w.heap.size + 2) := Lib.hid (by simp)
  have NO : Hid (w.heap.size ∉ p.own ∧ w.heap.size + 1 ∉ p.own) := Lib.hid ⟨fun hx => by have := h.lt _ hx; omega, fun hx => by have := h.lt _ hx; omega⟩
  have HTB := Lib.hid hT
  have HD := Lib.hid h
  have HZO := Lib.hid hz
  clear h hT hz
  go_enter_defers Tryd.func13, Tryd.ntmps13
  go_wp2_with fail
  generalize ((w.alloc (.cells #[.pointer none] 35)).alloc (.cells #[.int .i64 0] 28)) = wa at M0 K0 K1 HSZ ⊢
  refine (dead_any p S wa M0.out.1).mono ?_
  rintro e w1 ⟨rfl, rfl⟩
  rw [hg]
  have c0 := K0.out.cell 0
  have c1 := K1.out.cell 0
  have f0 := K0.out.fro 0
  have f1 := K1.out.fro 0
  simp only [List.getElem?_toArray, List.getElem?_cons_succ, List.getElem?_cons_zero] at c0 c1
  go_wp2_with fail
  refine ⟨.tuple #[.pointer none, .int .i64 2], by simp [results, Tryd.results13, go_sem, c0, c1], .pointer none, p, rfl, ?_, (fun h => absurd h (by simp)), fun _ => rfl⟩
  exact M0.out.own_set2 ⟨w.heap.size, 0, none⟩ (by simp) (by simp [NO.out.1]) ⟨w.heap.size + 1, 0, none⟩ (by simp) (by simp [NO.out.2]) _ _
set_option maxHeartbeats 16000000 in
theorem wnew_form0 {w : World} {p : Fp} {S : St} (h : Dk w p S) (hT : Tb w) (hz : 0 ∉ p.own) (hg : S.gone = false) (h0 : S.f0.length > 0) : Calls Tryd.prog 13 #[p.v] w fun e w' => NRes w p (100, S) e w' := by
  have HZ := Lib.hid hT.1
  have M0 : Hid (Mut w p ((w.alloc (.cells #[.pointer none] 35)).alloc (.cells #[.int .i64 0] 28)) p S) := Lib.hid (Mut.refl h (by go_grown))
  have K0 : Hid (Bk 35 ((w.alloc (.cells #[.pointer none] 35)).alloc (.cells #[.int .i64 0] 28)) w.heap.size #[.pointer none]) := Lib.hid (Bk.alloc (Bk.new rfl))
  have K1 : Hid (Bk 28 ((w.alloc (.cells #[.pointer none] 35)).alloc (.cells #[.int .i64 0] 28)) (w.heap.size + 1) #[.int .i64 0]) := Lib.hid (Bk.new (by simp))
  have HSZ : Hid (((w.alloc (.cells #[.pointer none] 35)).alloc (.cells #[.int .i64 0] 28)).heap.size = w.heap.size + 2) := Lib.hid (by simp)
  have NO : Hid (w.heap.size ∉ p.own ∧ w.heap.size + 1 ∉ p.own) := Lib.hid ⟨fun hx => by have := h.lt _ hx; omega, fun hx => by have := h.lt _ hx; omega⟩
  have HTB := Lib.hid hT
  have HD := Lib.hid h
  have HZO := Lib.hid hz
  have z0 := size_at S 0 (by omega)
  have z1 := size_at S 1 (by omega)
  have HS : Hid (∀ f : Nat, f < 2 → ∀ wx, Dk wx p S → Calls Tryd.prog 41 #[p.v, .int .i64 (f : Int)] wx fun e w' => e = .returned (.int .i64 ((S.file f).length : Int)) ∧ wx = w') := Lib.hid fun f hf wx hd => by
    have := size_any p S f wx hd
    rw [size_at S f hf] at this
    exact this
  have hd0 : decide ((0 : Int) < (S.f0.length : Int)) = true := decide_eq_true (by omega)
  have hd0n : decide (0 < S.f0.length) = true := decide_eq_true (by omega)
  clear z0 z1 h0
  clear h hT hz
  go_enter_defers Tryd.func13, Tryd.ntmps13
  go_wp2_with fail
  generalize ((w.alloc (.cells #[.pointer none] 35)).alloc (.cells #[.int .i64 0] 28)) = wa at M0 K0 K1 HSZ ⊢
  refine (dead_any p S wa M0.out.1).mono ?_
  rintro e w1 ⟨rfl, rfl⟩
  rw [hg]
  have c0 := K0.out.cell 0
  have c1 := K1.out.cell 0
  have f0 := K0.out.fro 0
  have f1 := K1.out.fro 0
  simp only [List.getElem?_toArray, List.getElem?_cons_succ, List.getElem?_cons_zero] at c0 c1
  go_wp2_with fail
  refine (HS.out 0 (by omega) _ M0.out.1).mono ?_
  rintro e w1 ⟨rfl, rfl⟩
  rw [show S.file 0 = S.f0 from rfl]
  go_wp2_with fail
  refine ⟨.tuple #[.pointer none, .int .i64 100], by simp [results, Tryd.results13, go_sem, c0, c1], .pointer none, p, rfl, ?_, (fun h => absurd h (by simp)), fun _ => rfl⟩
  exact M0.out.own_set2 ⟨w.heap.size, 0, none⟩ (by simp) (by simp [NO.out.1]) ⟨w.heap.size + 1, 0, none⟩ (by simp) (by simp [NO.out.2]) _ _
set_option maxHeartbeats 16000000 in
theorem wnew_form1 {w : World} {p : Fp} {S : St} (h : Dk w p S) (hT : Tb w) (hz : 0 ∉ p.own) (hg : S.gone = false) (h0 : ¬ S.f0.length > 0) (h1 : S.f1.length > 0) : Calls Tryd.prog 13 #[p.v] w fun e w' => NRes w p (100, S) e w' := by
  have HZ := Lib.hid hT.1
  have M0 : Hid (Mut w p ((w.alloc (.cells #[.pointer none] 35)).alloc (.cells #[.int .i64 0] 28)) p S) := Lib.hid (Mut.refl h (by go_grown))
  have K0 : Hid (Bk 35 ((w.alloc (.cells #[.pointer none] 35)).alloc (.cells #[.int .i64 0] 28)) w.heap.size #[.pointer none]) := Lib.hid (Bk.alloc (Bk.new rfl))
  have K1 : Hid (Bk 28 ((w.alloc (.cells #[.pointer none] 35)).alloc (.cells #[.int .i64 0] 28)) (w.heap.size + 1) #[.int .i64 0]) := Lib.hid (Bk.new (by simp))
  have HSZ : Hid (((w.alloc (.cells #[.pointer none] 35)).alloc (.cells #[.int .i64 0] 28)).heap.size = w.heap.size + 2) := Lib.hid (by simp)
  have NO : Hid (w.heap.size ∉ p.own ∧ w.heap.size + 1 ∉ p.own) := Lib.hid ⟨fun hx => by have := h.lt _ hx; omega, fun hx => by have := h.lt _ hx; omega⟩
  have HTB := Lib.hid hT
  have HD := Lib.hid h
  have HZO := Lib.hid hz
  have z0 := size_at S 0 (by omega)
  have z1 := size_at S 1 (by omega)
  have HS : Hid (∀ f : Nat, f < 2 → ∀ wx, Dk wx p S → Calls Tryd.prog 41 #[p.v, .int .i64 (f : Int)] wx fun e w' => e = .returned (.int .i64 ((S.file f).length : Int)) ∧ wx = w') := Lib.hid fun f hf wx hd => by
    have := size_any p S f wx hd
    rw [size_at S f hf] at this
    exact this
  have hd0 : decide ((0 : Int) < (S.f0.length : Int)) = false := decide_eq_false (by omega)
  have hd0n : decide (0 < S.f0.length) = false := decide_eq_false (by omega)
  have hd1 : decide ((0 : Int) < (S.f1.length : Int)) = true := decide_eq_true (by omega)
  have hd1n : decide (0 < S.f1.length) = true := decide_eq_true (by omega)
  clear z0 z1 h0 h1
  clear h hT hz
  go_enter_defers Tryd.func13, Tryd.ntmps13
  go_wp2_with fail
  generalize ((w.alloc (.cells #[.pointer none] 35)).alloc (.cells #[.int .i64 0] 28)) = wa at M0 K0 K1 HSZ ⊢
  refine (dead_any p S wa M0.out.1).mono ?_
  rintro e w1 ⟨rfl, rfl⟩
  rw [hg]
  have c0 := K0.out.cell 0
  have c1 := K1.out.cell 0
  have f0 := K0.out.fro 0
  have f1 := K1.out.fro 0
  simp only [List.getElem?_toArray, List.getElem?_cons_succ, List.getElem?_cons_zero] at c0 c1
  go_wp2_with fail
  refine (HS.out 0 (by omega) _ M0.out.1).mono ?_
  rintro e w1 ⟨rfl, rfl⟩
  rw [show S.file 0 = S.f0 from rfl]
  go_wp2_with fail
  refine (HS.out 1 (by omega) _ M0.out.1).mono ?_
  rintro e w1 ⟨rfl, rfl⟩
  rw [show S.file 1 = S.f1 from rfl]
  go_wp2_with fail
  refine ⟨.tuple #[.pointer none, .int .i64 100], by simp [results, Tryd.results13, go_sem, c0, c1], .pointer none, p, rfl, ?_, (fun h => absurd h (by simp)), fun _ => rfl⟩
  exact M0.out.own_set2 ⟨w.heap.size, 0, none⟩ (by simp) (by simp [NO.out.1]) ⟨w.heap.size + 1, 0, none⟩ (by simp) (by simp [NO.out.2]) _ _
set_option maxHeartbeats 16000000 in
theorem wnew_dies {w : World} {p : Fp} {S : St} (h : Dk w p S) (hT : Tb w) (hz : 0 ∉ p.own) (hg : S.gone = false) (h0 : ¬ S.f0.length > 0) (h1 : ¬ S.f1.length > 0) (hc : (lays S 0 1 []).1 = 2) : Calls Tryd.prog 13 #[p.v] w fun e w' => NRes w p (2, (lays S 0 1 []).2) e w' := by
  have HZ := Lib.hid hT.1
  have M0 : Hid (Mut w p ((w.alloc (.cells #[.pointer none] 35)).alloc (.cells #[.int .i64 0] 28)) p S) := Lib.hid (Mut.refl h (by go_grown))
  have K0 : Hid (Bk 35 ((w.alloc (.cells #[.pointer none] 35)).alloc (.cells #[.int .i64 0] 28)) w.heap.size #[.pointer none]) := Lib.hid (Bk.alloc (Bk.new rfl))
  have K1 : Hid (Bk 28 ((w.alloc (.cells #[.pointer none] 35)).alloc (.cells #[.int .i64 0] 28)) (w.heap.size + 1) #[.int .i64 0]) := Lib.hid (Bk.new (by simp))
  have HSZ : Hid (((w.alloc (.cells #[.pointer none] 35)).alloc (.cells #[.int .i64 0] 28)).heap.size = w.heap.size + 2) := Lib.hid (by simp)
  have NO : Hid (w.heap.size ∉ p.own ∧ w.heap.size + 1 ∉ p.own) := Lib.hid ⟨fun hx => by have := h.lt _ hx; omega, fun hx => by have := h.lt _ hx; omega⟩
  have HTB := Lib.hid hT
  have HD := Lib.hid h
  have HZO := Lib.hid hz
  have z0 := size_at S 0 (by omega)
  have z1 := size_at S 1 (by omega)
  have HS : Hid (∀ f : Nat, f < 2 → ∀ wx, Dk wx p S → Calls Tryd.prog 41 #[p.v, .int .i64 (f : Int)] wx fun e w' => e = .returned (.int .i64 ((S.file f).length : Int)) ∧ wx = w') := Lib.hid fun f hf wx hd => by
    have := size_any p S f wx hd
    rw [size_at S f hf] at this
    exact this
  have hd0 : decide ((0 : Int) < (S.f0.length : Int)) = false := decide_eq_false (by omega)
  have hd0n : decide (0 < S.f0.length) = false := decide_eq_false (by omega)
  have hd1 : decide ((0 : Int) < (S.f1.length : Int)) = false := decide_eq_false (by omega)
  have hd1n : decide (0 < S.f1.length) = false := decide_eq_false (by omega)
  have HA : Hid (∀ (w1 : World), Tb w1 → Dk w1 p S → Calls Tryd.prog 44 #[p.v, .int .i64 0, .int .i64 1, .string ⟨#[]⟩] w1 fun e w' => e = endOf (lays S 0 1 []).1 ∧ ∃ p', Mut w1 p w' p' (lays S 0 1 []).2) := Lib.hid fun w1 ht hd => lay_any p S 0 1 (by omega) [] (by simp) w1 ht hd hz
  rw [hc] at HA
  generalize (lays S 0 1 []).2 = S2 at *
  clear z0 z1 h0 h1 hc
  clear h hT hz
  go_enter_defers Tryd.func13, Tryd.ntmps13
  go_wp2_with fail
  generalize ((w.alloc (.cells #[.pointer none] 35)).alloc (.cells #[.int .i64 0] 28)) = wa at M0 K0 K1 HSZ ⊢
  refine (dead_any p S wa M0.out.1).mono ?_
  rintro e w1 ⟨rfl, rfl⟩
  rw [hg]
  have c0 := K0.out.cell 0
  have c1 := K1.out.cell 0
  have f0 := K0.out.fro 0
  have f1 := K1.out.fro 0
  simp only [List.getElem?_toArray, List.getElem?_cons_succ, List.getElem?_cons_zero] at c0 c1
  go_wp2_with fail
  refine (HS.out 0 (by omega) _ M0.out.1).mono ?_
  rintro e w1 ⟨rfl, rfl⟩
  rw [show S.file 0 = S.f0 from rfl]
  go_wp2_with fail
  refine (HS.out 1 (by omega) _ M0.out.1).mono ?_
  rintro e w1 ⟨rfl, rfl⟩
  rw [show S.file 1 = S.f1 from rfl]
  go_wp2_with fail
  clear c0 c1 f0 f1
  refine (HA.out wa (M0.out.tb HTB.out HZO.out) M0.out.1).mono ?_
  rintro e w1 ⟨rfl, p1, hm⟩
  have NP : Hid (w.heap.size ∉ p1.own ∧ w.heap.size + 1 ∉ p1.own) := Lib.hid ⟨fun hx => (hm.2.2.2 _ hx).elim NO.out.1 (by have := HSZ.out; omega), fun hx => (hm.2.2.2 _ hx).elim NO.out.2 (by have := HSZ.out; omega)⟩
  replace K0 := Lib.hid (K0.out.only hm.2.2.1 NO.out.1)
  replace K1 := Lib.hid (K1.out.only hm.2.2.1 NO.out.2)
  have HS1 : Hid (w.heap.size + 2 ≤ w1.heap.size) := Lib.hid (by have := hm.2.2.1.size; have := HSZ.out; omega)
  have M1 : Hid (Mut w p w1 p1 S2) := Lib.hid (M0.out.trans hm)
  clear hm M0 HA HSZ NO HS
  rw [endOf_no (by decide)]
  have c0 := K0.out.cell 0
  have c1 := K1.out.cell 0
  have f0 := K0.out.fro 0
  have f1 := K1.out.fro 0
  simp only [List.getElem?_toArray, List.getElem?_cons_succ, List.getElem?_cons_zero] at c0 c1
  go_wp2_with fail
  refine leaves_cons (f := 43) (args := #[.pointer (some ⟨w.heap.size, 0, none⟩), .pointer (some ⟨w.heap.size + 1, 0, none⟩)]) (by simp) (by simp [go_sem]) ?_
  refine (catch43_panicking w.heap.size (w.heap.size + 1) 2 [] w1 _ _ c0 c1 f0 f1 (by omega)).mono ?_
  rintro e u' w9 ⟨rfl, rfl, rfl⟩
  refine ⟨.tuple #[.pointer none, .int .i64 2], by simp [results, Tryd.results13, go_sem, c0, c1], .pointer none, p1, rfl, ?_, (fun h => absurd h (by simp)), fun _ => rfl⟩
  exact (M1.out.own_set2 ⟨w.heap.size, 0, none⟩ (by simp) (by simp [NP.out.1]) ⟨w.heap.size + 1, 0, none⟩ (by simp) (by simp [NP.out.2]) _ _).drew
set_option maxHeartbeats 16000000 in
theorem wnew_ok {w : World} {p : Fp} {S : St} (h : Dk w p S) (hT : Tb w) (hz : 0 ∉ p.own) (hg : S.gone = false) (h0 : ¬ S.f0.length > 0) (h1 : ¬ S.f1.length > 0) (hc : (lays S 0 1 []).1 = 0) : Calls Tryd.prog 13 #[p.v] w fun e w' => NRes w p (0, (lays S 0 1 []).2) e w' := by
  have HZ := Lib.hid hT.1
  have M0 : Hid (Mut w p ((w.alloc (.cells #[.pointer none] 35)).alloc (.cells #[.int .i64 0] 28)) p S) := Lib.hid (Mut.refl h (by go_grown))
  have K0 : Hid (Bk 35 ((w.alloc (.cells #[.pointer none] 35)).alloc (.cells #[.int .i64 0] 28)) w.heap.size #[.pointer none]) := Lib.hid (Bk.alloc (Bk.new rfl))
  have K1 : Hid (Bk 28 ((w.alloc (.cells #[.pointer none] 35)).alloc (.cells #[.int .i64 0] 28)) (w.heap.size + 1) #[.int .i64 0]) := Lib.hid (Bk.new (by simp))
  have HSZ : Hid (((w.alloc (.cells #[.pointer none] 35)).alloc (.cells #[.int .i64 0] 28)).heap.size = w.heap.size + 2) := Lib.hid (by simp)
  have NO : Hid (w.heap.size ∉ p.own ∧ w.heap.size + 1 ∉ p.own) := Lib.hid ⟨fun hx => by have := h.lt _ hx; omega, fun hx => by have := h.lt _ hx; omega⟩
  have HTB := Lib.hid hT
  have HD := Lib.hid h
  have HZO := Lib.hid hz
  have z0 := size_at S 0 (by omega)
  have z1 := size_at S 1 (by omega)
  have HS : Hid (∀ f : Nat, f < 2 → ∀ wx, Dk wx p S → Calls Tryd.prog 41 #[p.v, .int .i64 (f : Int)] wx fun e w' => e = .returned (.int .i64 ((S.file f).length : Int)) ∧ wx = w') := Lib.hid fun f hf wx hd => by
    have := size_any p S f wx hd
    rw [size_at S f hf] at this
    exact this
  have hd0 : decide ((0 : Int) < (S.f0.length : Int)) = false := decide_eq_false (by omega)
  have hd0n : decide (0 < S.f0.length) = false := decide_eq_false (by omega)
  have hd1 : decide ((0 : Int) < (S.f1.length : Int)) = false := decide_eq_false (by omega)
  have hd1n : decide (0 < S.f1.length) = false := decide_eq_false (by omega)
  have HA : Hid (∀ (w1 : World), Tb w1 → Dk w1 p S → Calls Tryd.prog 44 #[p.v, .int .i64 0, .int .i64 1, .string ⟨#[]⟩] w1 fun e w' => e = endOf (lays S 0 1 []).1 ∧ ∃ p', Mut w1 p w' p' (lays S 0 1 []).2) := Lib.hid fun w1 ht hd => lay_any p S 0 1 (by omega) [] (by simp) w1 ht hd hz
  rw [hc] at HA
  generalize (lays S 0 1 []).2 = S2 at *
  clear z0 z1 h0 h1 hc
  clear h hT hz
  go_enter_defers Tryd.func13, Tryd.ntmps13
  go_wp2_with fail
  generalize ((w.alloc (.cells #[.pointer none] 35)).alloc (.cells #[.int .i64 0] 28)) = wa at M0 K0 K1 HSZ ⊢
  refine (dead_any p S wa M0.out.1).mono ?_
  rintro e w1 ⟨rfl, rfl⟩
  rw [hg]
  have c0 := K0.out.cell 0
  have c1 := K1.out.cell 0
  have f0 := K0.out.fro 0
  have f1 := K1.out.fro 0
  simp only [List.getElem?_toArray, List.getElem?_cons_succ, List.getElem?_cons_zero] at c0 c1
  go_wp2_with fail
  refine (HS.out 0 (by omega) _ M0.out.1).mono ?_
  rintro e w1 ⟨rfl, rfl⟩
  rw [show S.file 0 = S.f0 from rfl]
  go_wp2_with fail
  refine (HS.out 1 (by omega) _ M0.out.1).mono ?_
  rintro e w1 ⟨rfl, rfl⟩
  rw [show S.file 1 = S.f1 from rfl]
  go_wp2_with fail
  clear c0 c1 f0 f1
  refine (HA.out wa (M0.out.tb HTB.out HZO.out) M0.out.1).mono ?_
  rintro e w1 ⟨rfl, p1, hm⟩
  have NP : Hid (w.heap.size ∉ p1.own ∧ w.heap.size + 1 ∉ p1.own) := Lib.hid ⟨fun hx => (hm.2.2.2 _ hx).elim NO.out.1 (by have := HSZ.out; omega), fun hx => (hm.2.2.2 _ hx).elim NO.out.2 (by have := HSZ.out; omega)⟩
  replace K0 := Lib.hid (K0.out.only hm.2.2.1 NO.out.1)
  replace K1 := Lib.hid (K1.out.only hm.2.2.1 NO.out.2)
  have HS1 : Hid (w.heap.size + 2 ≤ w1.heap.size) := Lib.hid (by have := hm.2.2.1.size; have := HSZ.out; omega)
  have M1 : Hid (Mut w p w1 p1 S2) := Lib.hid (M0.out.trans hm)
  clear hm M0 HA HSZ NO HS
  rw [endOf, if_pos rfl]
  have k0 := K0.out.alloc (o := (.cells #[.pointer (some ⟨p.b, 0, none⟩), .int .i64 0, .int .i64 1, .int .i64 0, .bool false] 96))
  have k1 := K1.out.alloc (o := (.cells #[.pointer (some ⟨p.b, 0, none⟩), .int .i64 0, .int .i64 1, .int .i64 0, .bool false] 96))
  have c0 := k0.cell 0
  have c1 := k1.cell 0
  have f0 := k0.fro 0
  have f1 := k1.fro 0
  simp only [List.getElem?_toArray, List.getElem?_cons_succ, List.getElem?_cons_zero] at c0 c1
  unfold Fp.v
  go_wp2_with fail
  have hsz : (w1.alloc (.cells #[.pointer (some ⟨p.b, 0, none⟩), .int .i64 0, .int .i64 1, .int .i64 0, .bool false] 96)).heap.size = w1.heap.size + 1 := by simp
  have KB : Hid (Bk 96 (w1.alloc (.cells #[.pointer (some ⟨p.b, 0, none⟩), .int .i64 0, .int .i64 1, .int .i64 0, .bool false] 96)) w1.heap.size #[.pointer (some ⟨p.b, 0, none⟩), .int .i64 0, .int .i64 1, .int .i64 0, .bool false]) := Lib.hid (Bk.new rfl)
  have NB : Hid (w1.heap.size ∉ p1.own) := Lib.hid fun hx => by have := M1.out.1.lt _ hx; omega
  replace M1 := Lib.hid (M1.out.then_below (show Below w1.heap.size w1 (w1.alloc (.cells #[.pointer (some ⟨p.b, 0, none⟩), .int .i64 0, .int .i64 1, .int .i64 0, .bool false] 96)) by go_grown))
  clear c0 c1 f0 f1 K0 K1
  generalize (w1.alloc (.cells #[.pointer (some ⟨p.b, 0, none⟩), .int .i64 0, .int .i64 1, .int .i64 0, .bool false] 96)) = w2 at *
  generalize w1.heap.size = bn at *
  have m0 := Lib.hid (M1.out.own_set2 ⟨w.heap.size, 0, none⟩ (by simp) (by simp [NP.out.1]) ⟨w.heap.size + 1, 0, none⟩ (by simp) (by simp [NP.out.2]) (.pointer (some ⟨bn, 0, none⟩)) (.int .i64 0))
  have kb := Lib.hid (Bk.oth (a := ⟨w.heap.size + 1, 0, none⟩) (v := .int .i64 0) (by have := HS1.out; simp; omega) (Bk.oth (a := ⟨w.heap.size, 0, none⟩) (v := .pointer (some ⟨bn, 0, none⟩)) (by have := HS1.out; simp; omega) KB.out))
  have c1 := (Bk.same (i := 0) (v := .int .i64 0) (Bk.oth (a := ⟨w.heap.size, 0, none⟩) (v := .pointer (some ⟨bn, 0, none⟩)) (by simp) k1)).cell 0
  have c0 := (Bk.oth (a := ⟨w.heap.size + 1, 0, none⟩) (v := .int .i64 0) (by simp) (Bk.same (i := 0) (v := .pointer (some ⟨bn, 0, none⟩)) k0)).cell 0
  clear k0 k1 M1 KB
  generalize (w2.setCell ⟨w.heap.size, 0, none⟩ (.pointer (some ⟨bn, 0, none⟩))).setCell ⟨w.heap.size + 1, 0, none⟩ (.int .i64 0) = w3 at *
  refine leaves_cons (f := 43) (args := #[.pointer (some ⟨w.heap.size, 0, none⟩), .pointer (some ⟨w.heap.size + 1, 0, none⟩)]) (by simp) (by simp [go_sem]) ?_
  refine (catch43_idle _ _ w3).mono ?_
  rintro e u' w9 ⟨rfl, rfl, rfl⟩
  refine ⟨.tuple #[.pointer (some ⟨bn, 0, none⟩), .int .i64 0], by simp [results, Tryd.results13, go_sem, c0, c1], .pointer (some ⟨bn, 0, none⟩), p1, rfl, m0.out, fun _ => ⟨bn, rfl, by have := HS1.out; omega, ?_⟩, fun h => absurd rfl h⟩
  have hv : p1.v = .pointer (some ⟨p.b, 0, none⟩) := by unfold Fp.v; rw [m0.out.2.1]
  exact ⟨by rw [hv]; exact kb.out, m0.out.1, NB.out, by have := HS1.out; omega, m0.out.zero HZO.out HZ.out, by show (0 : Nat) < 2; omega, by show (1 : Nat) ≤ _; omega⟩
theorem wnew_any {w : World} {p : Fp} {S : St} (h : Dk w p S) (hT : Tb w) (hz : 0 ∉ p.own) : Calls Tryd.prog 13 #[p.v] w fun e w' => NRes w p (lnew S) e w' := by
  unfold lnew
  by_cases hg : S.gone = true
  · rw [if_pos hg]; exact wnew_dead h hT hz hg
  · rw [if_neg hg]
    have hg' : S.gone = false := by simpa using hg
    by_cases h0 : S.f0.length > 0
    · rw [if_pos (.inl h0)]; exact wnew_form0 h hT hz hg' h0
    · by_cases h1 : S.f1.length > 0
      · rw [if_pos (.inr h1)]; exact wnew_form1 h hT hz hg' h0 h1
      · rw [if_neg (by omega)]
        have := lays_code S 0 1 (by omega) [] (by rw [show S.file 0 = S.f0 from rfl]; simp; omega)
        rcases this with hc | hc
        · have e : lays S 0 1 [] = (0, (lays S 0 1 []).2) := Prod.ext hc rfl
          rw [e]; exact wnew_ok h hT hz hg' h0 h1 hc
        · have e : lays S 0 1 [] = (2, (lays S 0 1 []).2) := Prod.ext hc rfl
          rw [e]; exact wnew_dies h hT hz hg' h0 h1 hc
set_option maxHeartbeats 16000000 in
theorem lclone_any {w : World} {b : Nat} {p q : Fp} {S S2 : St} {l : Wlg} (h : Lk w b p S l) (hq : Dk w q S2) (hqz : 0 ∉ q.own) (hw : 0 < w.heap.size) :
    Calls Tryd.prog 18 #[.pointer (some ⟨b, 0, none⟩), q.v] w fun e w' => e = .returned (.pointer (some ⟨w.heap.size, 0, none⟩)) ∧ Below w.heap.size w w' ∧ Lk w' w.heap.size q S2 l := by
  have hv : p.v = .pointer (some ⟨p.b, 0, none⟩) := rfl
  have hvq : q.v = .pointer (some ⟨q.b, 0, none⟩) := rfl
  have d0 : w.cell? ⟨b, 0, none⟩ = some (.pointer (some ⟨p.b, 0, none⟩)) := h.blk.cell 0
  have d1 : w.cell? ⟨b, 1, none⟩ = some (.int .i64 (l.file : Int)) := h.blk.cell 1
  have d2 : w.cell? ⟨b, 2, none⟩ = some (.int .i64 (l.gen : Int)) := h.blk.cell 2
  have d3 : w.cell? ⟨b, 3, none⟩ = some (.int .i64 (l.n : Int)) := h.blk.cell 3
  have d4 : w.cell? ⟨b, 4, none⟩ = some (.bool l.dead) := h.blk.cell 4
  have HQ := Lib.hid hq
  have HL := Lib.hid h
  have NQ : Hid (w.heap.size ∉ q.own) := Lib.hid fun hx => by have := hq.lt _ hx; omega
  rw [hvq]
  have e0 := (h.blk.alloc (o := .cells #[.pointer none, .int .i64 0, .int .i64 0, .int .i64 0, .bool false] 96)).cell 0
  go_enter Tryd.func18, Tryd.ntmps18
  go_wp2_with fail
  go_ret
  exact ⟨rfl, by go_grown, ⟨Bk.new rfl, HQ.out.below (by go_grown), NQ.out, by omega, hqz, HL.out.ff, HL.out.gg⟩⟩
end Go.Proofs.YtmoihgniglomiaaDoor
