/- What a log's New and Clone answer and leave. Condition: the disk's own, the program's table. A drawn region of Open. No condition. -/
import Derived.Test.YtmoihgniglomiaaDoorZd14
set_option linter.unusedVariables false
set_option linter.unusedSimpArgs false
set_option maxRecDepth 100000
namespace Go.Proofs.YtmoihgniglomiaaDoor
open Go.RowKit Go.Sort
def NRes (w : World) (p : Fp) (r : Nat × St) (e : Ending) (w' : World) : Prop := ∃ v p', e = .returned (.tuple #[v, .int .i64 (r.1 : Int)]) ∧ Mut w p w' p' r.2 ∧ (r.1 = 0 → ∃ b, v = .pointer (some ⟨b, 0, none⟩) ∧ w.heap.size ≤ b ∧ Lk w' b p' r.2 ⟨0, 1, 0, false⟩) ∧ (r.1 ≠ 0 → v = .pointer none)
theorem Mut.own_set {w w1 : World} {p p1 : Fp} {S : St} (h : Mut w p w1 p1 S) (a : Addr) (ha : w.heap.size ≤ a.block) (hp : a.block ∉ p1.own) (v : Value) : Mut w p (w1.setCell a v) p1 S :=
  ⟨h.1.set hp a rfl v, h.2.1, h.2.2.1.setCell a (.inr ha) v, h.2.2.2⟩
theorem Mut.own_set2 {w w1 : World} {p p1 : Fp} {S : St} (h : Mut w p w1 p1 S) (a : Addr) (ha : w.heap.size ≤ a.block) (hp : a.block ∉ p1.own) (a' : Addr) (ha' : w.heap.size ≤ a'.block) (hp' : a'.block ∉ p1.own) (v v' : Value) : Mut w p ((w1.setCell a v).setCell a' v') p1 S :=
  (h.own_set a ha hp v).own_set a' ha' hp' v'
theorem Mut.drew {w w1 : World} {p p1 : Fp} {S : St} (h : Mut w p w1 p1 S) : Mut w p w1.drew p1 S := h.then_below ⟨rfl, rfl, rfl, Nat.le_refl _, fun _ _ => rfl⟩
set_option maxHeartbeats 16000000 in
theorem wnew_dead {w : World} {p : Fp} {S : St} (h : Dk w p S) (hT : Tb w) (hz : 0 ∉ p.own) (hg : S.gone = true) : Calls Tryd.prog 13 #[p.v] w fun e w' => NRes w p (2, S) e w' := by
  have HZ := Lib.hid hT.1
  have M0 : Hid (Mut w p ((w.alloc (.cells #[.pointer none] 35)).alloc (.cells #[.int .i64 0] 28)) p S) := Lib.hid (Mut.refl h (by go_grown))
  have K0 : Hid (Bk 35 ((w.alloc (.cells #[.pointer none] 35)).alloc (.cells #[.int .i64 0] 28)) w.heap.size #[.pointer none]) := Lib.hid (Bk.alloc (Bk.new rfl))
  have K1 : Hid (Bk 28 ((w.alloc (.cells #[.pointer none] 35)).alloc (.cells #[.int .i64 0] 28)) (w.heap.size + 1) #[.int .i64 0]) := Lib.hid (Bk.new (by simp))
  have HSZ : Hid (((w.alloc (.cells #[.pointer none] 35)).alloc (.cells #[.int .i64 0] 28)).heap.size = w.heap.size + 2) := Lib.hid (by simp)
  have NO : Hid (w.heap.size ∉ p.own ∧ w.heap.size + 1 ∉ p.own) := Lib.hid ⟨fun hx => by have := h.lt _ hx; omega, fun hx => by have := h.lt _ hx; omega⟩
  have HTB := Lib.hid hT
  have HD := Lib.hid h
  have HZO := Lib.hid hz
  clear h hT hz
  go_enter_defers Tryd.func13, Tryd.ntmps13
  go_wp2_with fail
  generalize ((w.alloc (.cells #[.pointer none] 35)).alloc (.cells #[.int .i64 0] 28)) = wa at M0 K0 K1 HSZ ⊢
  refine (dead_any p S wa M0.out.1).mono ?_
  rintro e w1 ⟨rfl, rfl⟩
  rw [hg]
  have c0 := K0.out.cell 0
  have c1 := K1.out.cell 0
  have f0 := K0.out.fro 0
  have f1 := K1.out.fro 0
  simp only [List.getElem?_toArray, List.getElem?_cons_succ, List.getElem?_cons_zero] at c0 c1
  go_wp2_with fail
  refine ⟨.tuple #[.pointer none, .int .i64 2], by simp [results, Tryd.results13, go_sem, c0, c1], .pointer none, p, rfl, ?_, (fun h => absurd h (by simp)), fun _ => rfl⟩
  exact M0.out.own_set2 ⟨w.heap.size, 0, none⟩ (by simp) (by simp [NO.out.1]) ⟨w.heap.size + 1, 0, none⟩ (by simp) (by simp [NO.out.2]) _ _
set_option maxHeartbeats 16000000 in
theorem wnew_form0 {w : World} {p : Fp} {S : St} (h : Dk w p S) (hT : Tb w) (hz : 0 ∉ p.own) (hg : S.gone = false) (h0 : S.f0.length > 0) : Calls Tryd.prog 13 #[p.v] w fun e w' => NRes w p (100, S) e w' := by
  have HZ := Lib.hid hT.1
  have M0 : Hid (Mut w p ((w.alloc (.cells #[.pointer none] 35)).alloc (.cells #[.int .i64 0] 28)) p S) := Lib.hid (Mut.refl h (by go_grown))
  have K0 : Hid (Bk 35 ((w.alloc (.cells #[.pointer none] 35)).alloc (.cells #[.int .i64 0] 28)) w.heap.size #[.pointer none]) := Lib.hid (Bk.alloc (Bk.new rfl))
  have K1 : Hid (Bk 28 ((w.alloc (.cells #[.pointer none] 35)).alloc (.cells #[.int .i64 0] 28)) (w.heap.size + 1) #[.int .i64 0]) := Lib.hid (Bk.new (by simp))
  have HSZ : Hid (((w.alloc (.cells #[.pointer none] 35)).alloc (.cells #[.int .i64 0] 28)).heap.size = w.heap.size + 2) := Lib.hid (by simp)
  have NO : Hid (w.heap.size ∉ p.own ∧ w.heap.size + 1 ∉ p.own) := Lib.hid ⟨fun hx => by have := h.lt _ hx; omega, fun hx => by have := h.lt _ hx; omega⟩
  have HTB := Lib.hid hT
  have HD := Lib.hid h
  have HZO := Lib.hid hz
  have z0 := size_at S 0 (by omega)
  have z1 := size_at S 1 (by omega)
  have HS : Hid (∀ f : Nat, f < 2 → ∀ wx, Dk wx p S → Calls Tryd.prog 41 #[p.v, .int .i64 (f : Int)] wx fun e w' => e = .returned (.int .i64 ((S.file f).length : Int)) ∧ wx = w') := Lib.hid fun f hf wx hd => by
    have := size_any p S f wx hd
    rw [size_at S f hf] at this
    exact this
  have hd0 : decide ((0 : Int) < (S.f0.length : Int)) = true := decide_eq_true (by omega)
  have hd0n : decide (0 < S.f0.length) = true := decide_eq_true (by omega)
  clear z0 z1 h0
  clear h hT hz
  go_enter_defers Tryd.func13, Tryd.ntmps13
  go_wp2_with fail
  generalize ((w.alloc (.cells #[.pointer none] 35)).alloc (.cells #[.int .i64 0] 28)) = wa at M0 K0 K1 HSZ ⊢
  refine (dead_any p S wa M0.out.1).mono ?_
  rintro e w1 ⟨rfl, rfl⟩
  rw [hg]
  have c0 := K0.out.cell 0
  have c1 := K1.out.cell 0
  have f0 := K0.out.fro 0
  have f1 := K1.out.fro 0
  simp only [List.getElem?_toArray, List.getElem?_cons_succ, List.getElem?_cons_zero] at c0 c1
  go_wp2_with fail
  refine (HS.out 0 (by omega) _ M0.out.1).mono ?_
  rintro e w1 ⟨rfl, rfl⟩
  rw [show S.file 0 = S.f0 from rfl]
  go_wp2_with fail
  refine ⟨.tuple #[.pointer none, .int .i64 100], by simp [results, Tryd.results13, go_sem, c0, c1], .pointer none, p, rfl, ?_, (fun h => absurd h (by simp)), fun _ => rfl⟩
  exact M0.out.own_set2 ⟨w.heap.size, 0, none⟩ (by simp) (by simp [NO.out.1]) ⟨w.heap.size + 1, 0, none⟩ (by simp) (by simp [NO.out.2]) _ _
set_option maxHeartbeats 16000000 in
theorem wnew_form1 {w : World} {p : Fp} {S : St} (h : Dk w p S) (hT : Tb w) (hz : 0 ∉ p.own) (hg : S.gone = false) (h0 : ¬ S.f0.length > 0) (h1 : S.f1.length > 0) : Calls Tryd.prog 13 #[p.v] w fun e w' => NRes w p (100, S) e w' := by
  have HZ := Lib.hid hT.1
  have M0 : Hid (Mut w p ((w.alloc (.cells #[.pointer none] 35)).alloc (.cells #[.int .i64 0] 28)) p S) := Lib.hid (Mut.refl h (by go_grown))
  have K0 : Hid (Bk 35 ((w.alloc (.cells #[.pointer none] 35)).alloc (.cells #[.int .i64 0] 28)) w.heap.size #[.pointer none]) := Lib.hid (Bk.alloc (Bk.new rfl))
  have K1 : Hid (Bk 28 ((w.alloc (.cells #[.pointer none] 35)).alloc (.cells #[.int .i64 0] 28)) (w.heap.size + 1) #[.int .i64 0]) := Lib.hid (Bk.new (by simp))
  have HSZ : Hid (((w.alloc (.cells #[.pointer none] 35)).alloc (.cells #[.int .i64 0] 28)).heap.size = w.heap.size + 2) := Lib.hid (by simp)
  have NO : Hid (w.heap.size ∉ p.own ∧ w.heap.size + 1 ∉ p.own) := Lib.hid ⟨fun hx => by have := h.lt _ hx; omega, fun hx => by have := h.lt _ hx; omega⟩
  have HTB := Lib.hid hT
  have HD := Lib.hid h
  have HZO := Lib.hid hz
  have z0 := size_at S 0 (by omega)
  have z1 := size_at S 1 (by omega)
  have HS : Hid (∀ f : Nat, f < 2 → ∀ wx, Dk wx p S → Calls Tryd.prog 41 #[p.v, .int .i64 (f : Int)] wx fun e w' => e = .returned (.int .i64 ((S.file f).length : Int)) ∧ wx = w') := Lib.hid fun f hf wx hd => by
    have := size_any p S f wx hd
    rw [size_at S f hf] at this
    exact this
  have hd0 : decide ((0 : Int) < (S.f0.length : Int)) = false := decide_eq_false (by omega)
  have hd0n : decide (0 < S.f0.length) = false := decide_eq_false (by omega)
  have hd1 : decide ((0 : Int) < (S.f1.length : Int)) = true := decide_eq_true (by omega)
  have hd1n : decide (0 < S.f1.length) = true := decide_eq_true (by omega)
  clear z0 z1 h0 h1
  clear h hT hz
  go_enter_defers Tryd.func13, Tryd.ntmps13
  go_wp2_with fail
  generalize ((w.alloc (.cells #[.pointer none] 35)).alloc (.cells #[.int .i64 0] 28)) = wa at M0 K0 K1 HSZ ⊢
  refine (dead_any p S wa M0.out.1).mono ?_
  rintro e w1 ⟨rfl, rfl⟩
  rw [hg]
  have c0 := K0.out.cell 0
  have c1 := K1.out.cell 0
  have f0 := K0.out.fro 0
  have f1 := K1.out.fro 0
  simp only [List.getElem?_toArray, List.getElem?_cons_succ, List.getElem?_cons_zero] at c0 c1
  go_wp2_with fail
  refine (HS.out 0 (by omega) _ M0.out.1).mono ?_
  rintro e w1 ⟨rfl, rfl⟩
  rw [show S.file 0 = S.f0 from rfl]
  go_wp2_with fail
  refine (HS.out 1 (by omega) _ M0.out.1).mono ?_
  rintro e w1 ⟨rfl, rfl⟩
  rw [show S.file 1 = S.f1 from rfl]
  go_wp2_with fail
  refine ⟨.tuple #[.pointer none, .int .i64 100], by simp [results, Tryd.results13, go_sem, c0, c1], .pointer none, p, rfl, ?_, (fun h => absurd h (by simp)), fun _ => rfl⟩
  exact M0.out.own_set2 ⟨w.heap.size, 0, none⟩ (by simp) (by simp [NO.out.1]) ⟨w.heap.size + 1, 0, none⟩ (by simp) (by simp [NO.out.2]) _ _
set_option maxHeartbeats 16000000 in
theorem wnew_dies {w : World} {p : Fp} {S : St} (h : Dk w p S) (hT : Tb w) (hz : 0 ∉ p.own) (hg : S.gone = false) (h0 : ¬ S.f0.length > 0) (h1 : ¬ S.f1.length > 0) (hc : (lays S 0 1 []).1 = 2) : Calls Tryd.prog 13 #[p.v] w fun e w' => NRes w p (2, (lays S 0 1 []).2) e w' := by
  have HZ := Lib.hid hT.1
  have M0 : Hid (Mut w p ((w.alloc (.cells #[.pointer none] 35)).alloc (.cells #[.int .i64 0] 28)) p S) := Lib.hid (Mut.refl h (by go_grown))
  have K0 : Hid (Bk 35 ((w.alloc (.cells #[.pointer none] 35)).alloc (.cells #[.int .i64 0] 28)) w.heap.size #[.pointer none]) := Lib.hid (Bk.alloc (Bk.new rfl))
  have K1 : Hid (Bk 28 ((w.alloc (.cells #[.pointer none] 35)).alloc (.cells #[.int .i64 0] 28)) (w.heap.size + 1) #[.int .i64 0]) := Lib.hid (Bk.new (by simp))
  have HSZ : Hid (((w.alloc (.cells #[.pointer none] 35)).alloc (.cells #[.int .i64 0] 28)).heap.size = w.heap.size + 2) := Lib.hid (by simp)
  have NO : Hid (w.heap.size ∉ p.own ∧ w.heap.size + 1 ∉ p.own) := Lib.hid ⟨fun hx => by have := h.lt _ hx; omega, fun hx => by have := h.lt _ hx; omega⟩
  have HTB := Lib.hid hT
  have HD := Lib.hid h
  have HZO := Lib.hid hz
  have z0 := size_at S 0 (by omega)
  have z1 := size_at S 1 (by omega)
  have HS : Hid (∀ f : Nat, f < 2 → ∀ wx, Dk wx p S → Calls Tryd.prog 41 #[p.v, .int .i64 (f : Int)] wx fun e w' => e = .returned (.int .i64 ((S.file f).length : Int)) ∧ wx = w') := Lib.hid fun f hf wx hd => by
    have := size_any p S f wx hd
    rw [size_at S f hf] at this
    exact this
  have hd0 : decide ((0 : Int) < (S.f0.length : Int)) = false := decide_eq_false (by omega)
  have hd0n : decide (0 < S.f0.length) = false := decide_eq_false (by omega)
  have hd1 : decide ((0 : Int) < (S.f1.length : Int)) = false := decide_eq_false (by omega)
  have hd1n : decide (0 < S.f1.length) = false := decide_eq_false (by omega)
  have HA : Hid (∀ (w1 : World), Tb w1 → Dk w1 p S → Calls Tryd.prog 44 #[p.v, .int .i64 0, .int .i64 1, .string ⟨#[]⟩] w1 fun e w' => e = endOf (lays S 0 1 []).1 ∧ ∃ p', Mut w1 p w' p' (lays S 0 1 []).2) := Lib.hid fun w1 ht hd => lay_any p S 0 1 (by omega) [] (by simp) w1 ht hd hz
  rw [hc] at HA
  generalize (lays S 0 1 []).2 = S2 at *
  clear z0 z1 h0 h1 hc
  clear h hT hz
  go_enter_defers Tryd.func13, Tryd.ntmps13
  go_wp2_with fail
  generalize ((w.alloc (.cells #[.pointer none] 35)).alloc (.cells #[.int .i64 0] 28)) = wa at M0 K0 K1 HSZ ⊢
  refine (dead_any p S wa M0.out.1).mono ?_
  rintro e w1 ⟨rfl, rfl⟩
  rw [hg]
  have c0 := K0.out.cell 0
  have c1 := K1.out.cell 0
  have f0 := K0.out.fro 0
  have f1 := K1.out.fro 0
  simp only [List.getElem?_toArray, List.getElem?_cons_succ, List.getElem?_cons_zero] at c0 c1
  go_wp2_with fail
  refine (HS.out 0 (by omega) _ M0.out.1).mono ?_
  rintro e w1 ⟨rfl, rfl⟩
  rw [show S.file 0 = S.f0 from rfl]
  go_wp2_with fail
  refine (HS.out 1 (by omega) _ M0.out.1).mono ?_
  rintro e w1 ⟨rfl, rfl⟩
  rw [show S.file 1 = S.f1 from rfl]
  go_wp2_with fail
  clear c0 c1 f0 f1
  refine (HA.out wa (M0.out.tb HTB.out HZO.out) M0.out.1).mono ?_
  rintro e w1 ⟨rfl, p1, hm⟩
  have NP : Hid (w.heap.size ∉ p1.own ∧ w.heap.size + 1 ∉ p1.own) := Lib.hid ⟨fun hx => (hm.2.2.2 _ hx).elim NO.out.1 (by have := HSZ.out; omega), fun hx => (hm.2.2.2 _ hx).elim NO.out.2 (by have := HSZ.out; omega)⟩
  replace K0 := Lib.hid (K0.out.only hm.2.2.1 NO.out.1)
  replace K1 := Lib.hid (K1.out.only hm.2.2.1 NO.out.2)
  have HS1 : Hid (w.heap.size + 2 ≤ w1.heap.size) := Lib.hid (by have := hm.2.2.1.size; have := HSZ.out; omega)
  have M1 : Hid (Mut w p w1 p1 S2) := Lib.hid (M0.out.trans hm)
  clear hm M0 HA HSZ NO HS
  rw [endOf_no (by decide)]
  have c0 := K0.out.cell 0
  have c1 := K1.out.cell 0
  have f0 := K0.out.fro 0
  have f1 := K1.out.fro 0
  simp only [List.getElem?_toArray, List.getElem?_cons_succ, List.getElem?_cons_zero] at c0 c1
  go_wp2_with fail
  refine leaves_cons (f := 43) (args := #[.pointer (some ⟨w.heap.size, 0, none⟩), .pointer (some ⟨w.heap.size + 1, 0, none⟩)]) (by simp) (by simp [go_sem]) ?_
  refine (catch43_panicking w.heap.size (w.heap.size + 1) 2 [] w1 _ _ c0 c1 f0 f1 (by omega)).mono ?_
  rintro e u' w9 ⟨rfl, rfl, rfl⟩
  refine ⟨.tuple #[.pointer none, .int .i64 2], by simp [results, Tryd.results13, go_sem, c0, c1], .pointer none, p1, rfl, ?_, (fun h => absurd h (by simp)), fun _ => rfl⟩
  exact (M1.out.own_set2 ⟨w.heap.size, 0, none⟩ (by simp) (by simp [NP.out.1]) ⟨w.heap.size + 1, 0, none⟩ (by simp) (by simp [NP.out.2]) _ _).drew
set_option maxHeartbeats 16000000 in
theorem wnew_ok {w : World} {p : Fp} {S : St} (h : Dk w p S) (hT : Tb w) (hz : 0 ∉ p.own) (hg : S.gone = false) (h0 : ¬ S.f0.length > 0) (h1 : ¬ S.f1.length > 0) (hc : (lays S 0 1 []).1 = 0) : Calls Tryd.prog 13 #[p.v] w fun e w' => NRes w p (0, (lays S 0 1 []).2) e w' := by
  have HZ := Lib.hid hT.1
  have M0 : Hid (Mut w p ((w.alloc (.cells #[.pointer none] 35)).alloc (.cells #[.int .i64 0] 28)) p S) := Lib.hid (Mut.refl h (by go_grown))
  have K0 : Hid (Bk 35 ((w.alloc (.cells #[.pointer none] 35)).alloc (.cells #[.int .i64 0] 28)) w.heap.size #[.pointer none]) := Lib.hid (Bk.alloc (Bk.new rfl))
  have K1 : Hid (Bk 28 ((w.alloc (.cells #[.pointer none] 35)).alloc (.cells #[.int .i64 0] 28)) (w.heap.size + 1) #[.int .i64 0]) := Lib.hid (Bk.new (by simp))
  have HSZ : Hid (((w.alloc (.cells #[.pointer none] 35)).alloc (.cells #[.int .i64 0] 28)).heap.size = w.heap.size + 2) := Lib.hid (by simp)
  have NO : Hid (w.heap.size ∉ p.own ∧ w.heap.size + 1 ∉ p.own) := Lib.hid ⟨fun hx => by have := h.lt _ hx; omega, fun hx => by have := h.lt _ hx; omega⟩
  have HTB := Lib.hid hT
  have HD := Lib.hid h
  have HZO := Lib.hid hz
  have z0 := size_at S 0 (by omega)
  have z1 := size_at S 1 (by omega)
  have HS : Hid (∀ f : Nat, f < 2 → ∀ wx, Dk wx p S → Calls Tryd.prog 41 #[p.v, .int .i64 (f : Int)] wx fun e w' => e = .returned (.int .i64 ((S.file f).length : Int)) ∧ wx = w') := Lib.hid fun f hf wx hd => by
    have := size_any p S f wx hd
    rw [size_at S f hf] at this
    exact this
  have hd0 : decide ((0 : Int) < (S.f0.length : Int)) = false := decide_eq_false (by omega)
  have hd0n : decide (0 < S.f0.length) = false := decide_eq_false (by omega)
  have hd1 : decide ((0 : Int) < (S.f1.length : Int)) = false := decide_eq_false (by omega)
  have hd1n : decide (0 < S.f1.length) = false := decide_eq_false (by omega)
  have HA : Hid (∀ (w1 : World), Tb w1 → Dk w1 p S → Calls Tryd.prog 44 #[p.v, .int .i64 0, .int .i64 1, .string ⟨#[]⟩] w1 fun e w' => e = endOf (lays S 0 1 []).1 ∧ ∃ p', Mut w1 p w' p' (lays S 0 1 []).2) := Lib.hid fun w1 ht hd => lay_any p S 0 1 (by omega) [] (by simp) w1 ht hd hz
  rw [hc] at HA
  generalize (lays S 0 1 []).2 = S2 at *
  clear z0 z1 h0 h1 hc
  clear h hT hz
  go_enter_defers Tryd.func13, Tryd.ntmps13
  go_wp2_with fail
  generalize ((w.alloc (.cells #[.pointer none] 35)).alloc (.cells #[.int .i64 0] 28)) = wa at M0 K0 K1 HSZ ⊢
  refine (dead_any p S wa M0.out.1).mono ?_
  rintro e w1 ⟨rfl, rfl⟩
  rw [hg]
  have c0 := K0.out.cell 0
  have c1 := K1.out.cell 0
  have f0 := K0.out.fro 0
  have f1 := K1.out.fro 0
  simp only [List.getElem?_toArray, List.getElem?_cons_succ, List.getElem?_cons_zero] at c0 c1
  go_wp2_with fail
  refine (HS.out 0 (by omega) _ M0.out.1).mono ?_
  rintro e w1 ⟨rfl, rfl⟩
  rw [show S.file 0 = S.f0 from rfl]
  go_wp2_with fail
  refine (HS.out 1 (by omega) _ M0.out.1).mono ?_
  rintro e w1 ⟨rfl, rfl⟩
  rw [show S.file 1 = S.f1 from rfl]
  go_wp2_with fail
  clear c0 c1 f0 f1
  refine (HA.out wa (M0.out.tb HTB.out HZO.out) M0.out.1).mono ?_
  rintro e w1 ⟨rfl, p1, hm⟩
  have NP : Hid (w.heap.size ∉ p1.own ∧ w.heap.size + 1 ∉ p1.own) := Lib.hid ⟨fun hx => (hm.2.2.2 _ hx).elim NO.out.1 (by have := HSZ.out; omega), fun hx => (hm.2.2.2 _ hx).elim NO.out.2 (by have := HSZ.out; omega)⟩
  replace K0 := Lib.hid (K0.out.only hm.2.2.1 NO.out.1)
  replace K1 := Lib.hid (K1.out.only hm.2.2.1 NO.out.2)
  have HS1 : Hid (w.heap.size + 2 ≤ w1.heap.size) := Lib.hid (by have := hm.2.2.1.size; have := HSZ.out; omega)
  have M1 : Hid (Mut w p w1 p1 S2) := Lib.hid (M0.out.trans hm)
  clear hm M0 HA HSZ NO HS
  rw [endOf, if_pos rfl]
  have k0 := K0.out.alloc (o := (.cells #[.pointer (some ⟨p.b, 0, none⟩), .int .i64 0, .int .i64 1, .int .i64 0, .bool false] 96))
  have k1 := K1.out.alloc (o := (.cells #[.pointer (some ⟨p.b, 0, none⟩), .int .i64 0, .int .i64 1, .int .i64 0, .bool false] 96))
  have c0 := k0.cell 0
  have c1 := k1.cell 0
  have f0 := k0.fro 0
  have f1 := k1.fro 0
  simp only [List.getElem?_toArray, List.getElem?_cons_succ, List.getElem?_cons_zero] at c0 c1
  unfold Fp.v
  go_wp2_with fail
  have hsz : (w1.alloc (.cells #[.pointer (some ⟨p.b, 0, none⟩), .int .i64 0, .int .i64 1, .int .i64 0, .bool false] 96)).heap.size = w1.heap.size + 1 := by simp
  have KB : Hid (Bk 96 (w1.alloc (.cells #[.pointer (some ⟨p.b, 0, none⟩), .int .i64 0, .int .i64 1, .int .i64 0, .bool false] 96)) w1.heap.size #[.pointer (some ⟨p.b, 0, none⟩), .int .i64 0, .int .i64 1, .int .i64 0, .bool false]) := Lib.hid (Bk.new rfl)
  have NB : Hid (w1.heap.size ∉ p1.own) := Lib.hid fun hx => by have := M1.out.1.lt _ hx; omega
  replace M1 := Lib.hid (M1.out.then_below (show Below w1.heap.size w1 (w1.alloc (.cells #[.pointer (some ⟨p.b, 0, none⟩), .int .i64 0, .int .i64 1, .int .i64 0, .bool false] 96)) by go_grown))
  clear c0 c1 f0 f1 K0 K1
  generalize (w1.alloc (.cells #[.pointer (some ⟨p.b, 0, none⟩), .int .i64 0, .int .i64 1, .int .i64 0, .bool false] 96)) = w2 at *
  generalize w1.heap.size = bn at *
  have m0 := Lib.hid (M1.out.own_set2 ⟨w.heap.size, 0, none⟩ (by simp) (by simp [NP.out.1]) ⟨w.heap.size + 1, 0, none⟩ (by simp) (by simp [NP.out.2]) (.pointer (some ⟨bn, 0, none⟩)) (.int .i64 0))
  have kb := Lib.hid (Bk.oth (a := ⟨w.heap.size + 1, 0, none⟩) (v := .int .i64 0) (by have := HS1.out; simp; omega) (Bk.oth (a := ⟨w.heap.size, 0, none⟩) (v := .pointer (some ⟨bn, 0, none⟩)) (by have := HS1.out; simp; omega) KB.out))
  have c1 := (Bk.same (i := 0) (v := .int .i64 0) (Bk.oth (a := ⟨w.heap.size, 0, none⟩) (v := .pointer (some ⟨bn, 0, none⟩)) (by simp) k1)).cell 0
  have c0 := (Bk.oth (a := ⟨w.heap.size + 1, 0, none⟩) (v := .int .i64 0) (by simp) (Bk.same (i := 0) (v := .pointer (some ⟨bn, 0, none⟩)) k0)).cell 0
  clear k0 k1 M1 KB
  generalize (w2.setCell ⟨w.heap.size, 0, none⟩ (.pointer (some ⟨bn, 0, none⟩))).setCell ⟨w.heap.size + 1, 0, none⟩ (.int .i64 0) = w3 at *
  refine leaves_cons (f := 43) (args := #[.pointer (some ⟨w.heap.size, 0, none⟩), .pointer (some ⟨w.heap.size + 1, 0, none⟩)]) (by simp) (by simp [go_sem]) ?_
  refine (catch43_idle _ _ w3).mono ?_
  rintro e u' w9 ⟨rfl, rfl, rfl⟩
  refine ⟨.tuple #[.pointer (some ⟨bn, 0, none⟩), .int .i64 0], by simp [results, Tryd.results13, go_sem, c0, c1], .pointer (some ⟨bn, 0, none⟩), p1, rfl, m0.out, fun _ => ⟨bn, rfl, by have := HS1.out; omega, ?_⟩, fun h => absurd rfl h⟩
  have hv : p1.v = .pointer (some ⟨p.b, 0, none⟩) := by unfold Fp.v; rw [m0.out.2.1]
  exact ⟨by rw [hv]; exact kb.out, m0.out.1, NB.out, by have := HS1.out; omega, m0.out.zero HZO.out HZ.out, by show (0 : Nat) < 2; omega, by show (1 : Nat) ≤ _; omega⟩
theorem wnew_any {w : World} {p : Fp} {S : St} (h : Dk w p S) (hT : Tb w) (hz : 0 ∉ p.own) : Calls Tryd.prog 13 #[p.v] w fun e w' => NRes w p (lnew S) e w' := by
  unfold lnew
  by_cases hg : S.gone = true
  · rw [if_pos hg]; exact wnew_dead h hT hz hg
  · rw [if_neg hg]
    have hg' : S.gone = false := by simpa using hg
    by_cases h0 : S.f0.length > 0
    · rw [if_pos (.inl h0)]; exact wnew_form0 h hT hz hg' h0
    · by_cases h1 : S.f1.length > 0
      · rw [if_pos (.inr h1)]; exact wnew_form1 h hT hz hg' h0 h1
      · rw [if_neg (by omega)]
        have := lays_code S 0 1 (by omega) [] (by rw [show S.file 0 = S.f0 from rfl]; simp; omega)
        rcases this with hc | hc
        · have e : lays S 0 1 [] = (0, (lays S 0 1 []).2) := Prod.ext hc rfl
          rw [e]; exact wnew_ok h hT hz hg' h0 h1 hc
        · have e : lays S 0 1 [] = (2, (lays S 0 1 []).2) := Prod.ext hc rfl
          rw [e]; exact wnew_dies h hT hz hg' h0 h1 hc
set_option maxHeartbeats 16000000 in
theorem lclone_any {w : World} {b : Nat} {p q : Fp} {S S2 : St} {l : Wlg} (h : Lk w b p S l) (hq : Dk w q S2) (hqz : 0 ∉ q.own) (hw : 0 < w.heap.size) :
    Calls Tryd.prog 18 #[.pointer (some ⟨b, 0, none⟩), q.v] w fun e w' => e = .returned (.pointer (some ⟨w.heap.size, 0, none⟩)) ∧ Below w.heap.size w w' ∧ Lk w' w.heap.size q S2 l := by
  have hv : p.v = .pointer (some ⟨p.b, 0, none⟩) := rfl
  have hvq : q.v = .pointer (some ⟨q.b, 0, none⟩) := rfl
  have d0 : w.cell? ⟨b, 0, none⟩ = some (.pointer (some ⟨p.b, 0, none⟩)) := h.blk.cell 0
  have d1 : w.cell? ⟨b, 1, none⟩ = some (.int .i64 (l.file : Int)) := h.blk.cell 1
  have d2 : w.cell? ⟨b, 2, none⟩ = some (.int .i64 (l.gen : Int)) := h.blk.cell 2
  have d3 : w.cell? ⟨b, 3, none⟩ = some (.int .i64 (l.n : Int)) := h.blk.cell 3
  have d4 : w.cell? ⟨b, 4, none⟩ = some (.bool l.dead) := h.blk.cell 4
  have HQ := Lib.hid hq
  have HL := Lib.hid h
  have NQ : Hid (w.heap.size ∉ q.own) := Lib.hid fun hx => by have := hq.lt _ hx; omega
  rw [hvq]
  have e0 := (h.blk.alloc (o := .cells #[.pointer none, .int .i64 0, .int .i64 0, .int .i64 0, .bool false] 96)).cell 0
  go_enter Tryd.func18, Tryd.ntmps18
  go_wp2_with fail
  go_ret
  exact ⟨rfl, by go_grown, ⟨Bk.new rfl, HQ.out.below (by go_grown), NQ.out, by omega, hqz, HL.out.ff, HL.out.gg⟩⟩
noncomputable def rLO : Array Oper := (Tryd.f34.body.bind fun c => findR c 12).getD #[]
def rLI (W : Bool → Bool → Bool → Bool → Bool → World) (d p0 p1 p2 p3 g bn : Nat) (lf lg : Int) (ra : Option Addr) (nn rc : Nat) (snap : ByteArray) (t1 t8 t9 t10 t11 t12 t13 t14 t15 t16 t17 t18 t19 t20 t21 t22 t23 t24 t25 t26 t27 t28 t29 t30 t31 t32 t33 t34 t35 t36 t37 t38 t39 t40 t41 t42 t43 t44 : Value) (ds : List Deferred) (l : Array Bool) (a : Act) (w : World) : Prop :=
  ∃ j0 j1 j2 j3 j4 j5 j6 j7 j8 j9 j10 j11 j12 j13 j14 : Bool, ∃ x0 x1 x2 x3 x4 x5 x6 x7 x8 x9 x10 : Value, l = #[j0, j1, j2, j3, j4, j5, j6, j7, j8, j9, j10, j11, j12, j13, j14] ∧ a = { tmps := #[.pointer (some ⟨d, 0, none⟩), t1, .pointer (some ⟨p0, 0, none⟩), .pointer (some ⟨p1, 0, none⟩), .pointer (some ⟨p2, 0, none⟩), .pointer (some ⟨p3, 0, none⟩), .int .i64 lf, .pointer (some ⟨g, 0, none⟩), t8, t9, t10, t11, t12, t13, t14, t15, t16, t17, t18, t19, t20, t21, t22, t23, t24, t25, t26, t27, t28, t29, t30, t31, t32, t33, t34, t35, t36, t37, t38, t39, t40, t41, t42, t43, t44, x0, x1, x2, x3, x4, x5, x6, x7, x8, x9, x10], defers := ds } ∧ w = W j7 j11 j12 j13 j14 ∧
  (j0 = true → x0 = .pointer (some ⟨d, 0, none⟩)) ∧ (j1 = true → x1 = .int .i64 lf) ∧ (j2 = true → x2 = .pointer (some ⟨g, 0, none⟩)) ∧ (j3 = true → x3 = .int .i64 lg) ∧ (j4 = true → x4 = .slice ra nn rc) ∧ (j5 = true → x5 = .int .i64 (nn : Int)) ∧ (j6 = true → x6 = .agg #[.pointer (some ⟨d, 0, none⟩), .int .i64 lf, .int .i64 lg, .int .i64 (nn : Int), .bool false]) ∧ (j7 = true → x7 = .pointer (some ⟨bn, 0, none⟩)) ∧ (j8 = true → x8 = .pointer (some ⟨g, 1, none⟩)) ∧ (j9 = true → x9 = .string snap) ∧ (j10 = true → x10 = .slice ra nn rc) ∧
  (j3 = true → j2 = true) ∧ (j5 = true → j4 = true) ∧ (j6 = true → j0 = true ∧ j1 = true ∧ j3 = true ∧ j5 = true) ∧ (j7 = true → j6 = true) ∧ (j9 = true → j8 = true) ∧ (j11 = true → j0 = true ∧ j1 = true ∧ j2 = true ∧ j3 = true ∧ j4 = true ∧ j5 = true ∧ j6 = true ∧ j7 = true) ∧ (j12 = true → j0 = true ∧ j1 = true ∧ j2 = true ∧ j3 = true ∧ j4 = true ∧ j5 = true ∧ j6 = true ∧ j7 = true ∧ j8 = true ∧ j9 = true ∧ j11 = true) ∧ (j13 = true → j0 = true ∧ j1 = true ∧ j2 = true ∧ j3 = true ∧ j4 = true ∧ j5 = true ∧ j6 = true ∧ j7 = true ∧ j8 = true ∧ j9 = true ∧ j10 = true ∧ j11 = true ∧ j12 = true) ∧ (j14 = true → j0 = true ∧ j1 = true ∧ j2 = true ∧ j3 = true ∧ j4 = true ∧ j5 = true ∧ j6 = true ∧ j7 = true ∧ j8 = true ∧ j9 = true ∧ j10 = true ∧ j11 = true ∧ j12 = true ∧ j13 = true)
set_option maxHeartbeats 16000000 in
theorem rL_none (W : Bool → Bool → Bool → Bool → Bool → World) (d p0 p1 p2 p3 g bn : Nat) (lf lg : Int) (ra : Option Addr) (nn rc : Nat) (snap : ByteArray) {t1 t8 t9 t10 t11 t12 t13 t14 t15 t16 t17 t18 t19 t20 t21 t22 t23 t24 t25 t26 t27 t28 t29 t30 t31 t32 t33 t34 t35 t36 t37 t38 t39 t40 t41 t42 t43 t44 : Value} {ds : List Deferred} : ∀ l a w1, rLI W d p0 p1 p2 p3 g bn lf lg ra nn rc snap t1 t8 t9 t10 t11 t12 t13 t14 t15 t16 t17 t18 t19 t20 t21 t22 t23 t24 t25 t26 t27 t28 t29 t30 t31 t32 t33 t34 t35 t36 t37 t38 t39 t40 t41 t42 t43 t44 ds l a w1 → Region.ready .any rLO l = [] → left l = 0 := by
  simp only [rLO, findR, Tryd.f34, Option.bind_some, Option.or, Option.getD, Nat.reduceEqDiff, if_true, if_false, reduceIte]
  rintro l a w1 hI hr
  obtain ⟨j0, j1, j2, j3, j4, j5, j6, j7, j8, j9, j10, j11, j12, j13, j14, x0, x1, x2, x3, x4, x5, x6, x7, x8, x9, x10, rfl, rfl, hW, h0, h1, h2, h3, h4, h5, h6, h7, h8, h9, h10, k3, k5, k6, k7, k9, k11, k12, k13, k14⟩ := hI
  have hn := fun i => List.eq_nil_iff_forall_not_mem.1 hr i
  clear hr
  have d0 : j0 = true := by
    cases hj : j0
    · exact absurd (mem_ready.2 ⟨by simp [hj], _, rfl, by simp [Region.binds, hj]⟩) (hn 0)
    · rfl
  subst d0
  have d1 : j1 = true := by
    cases hj : j1
    · exact absurd (mem_ready.2 ⟨by simp [hj], _, rfl, by simp [Region.binds, hj]⟩) (hn 1)
    · rfl
  subst d1
  have d2 : j2 = true := by
    cases hj : j2
    · exact absurd (mem_ready.2 ⟨by simp [hj], _, rfl, by simp [Region.binds, hj]⟩) (hn 2)
    · rfl
  subst d2
  have d3 : j3 = true := by
    cases hj : j3
    · exact absurd (mem_ready.2 ⟨by simp [hj], _, rfl, by simp [Region.binds, hj]⟩) (hn 3)
    · rfl
  subst d3
  have d4 : j4 = true := by
    cases hj : j4
    · exact absurd (mem_ready.2 ⟨by simp [hj], _, rfl, by simp [Region.binds, hj]⟩) (hn 4)
    · rfl
  subst d4
  have d5 : j5 = true := by
    cases hj : j5
    · exact absurd (mem_ready.2 ⟨by simp [hj], _, rfl, by simp [Region.binds, hj]⟩) (hn 5)
    · rfl
  subst d5
  have d6 : j6 = true := by
    cases hj : j6
    · exact absurd (mem_ready.2 ⟨by simp [hj], _, rfl, by simp [Region.binds, hj]⟩) (hn 6)
    · rfl
  subst d6
  have d7 : j7 = true := by
    cases hj : j7
    · exact absurd (mem_ready.2 ⟨by simp [hj], _, rfl, by simp [Region.binds, hj]⟩) (hn 7)
    · rfl
  subst d7
  have d8 : j8 = true := by
    cases hj : j8
    · exact absurd (mem_ready.2 ⟨by simp [hj], _, rfl, by simp [Region.binds, hj]⟩) (hn 8)
    · rfl
  subst d8
  have d9 : j9 = true := by
    cases hj : j9
    · exact absurd (mem_ready.2 ⟨by simp [hj], _, rfl, by simp [Region.binds, hj]⟩) (hn 9)
    · rfl
  subst d9
  have d10 : j10 = true := by
    cases hj : j10
    · exact absurd (mem_ready.2 ⟨by simp [hj], _, rfl, by simp [Region.binds, hj]⟩) (hn 10)
    · rfl
  subst d10
  have d11 : j11 = true := by
    cases hj : j11
    · exact absurd (mem_ready.2 ⟨by simp [hj], _, rfl, by simp [Region.binds, hj]⟩) (hn 11)
    · rfl
  subst d11
  have d12 : j12 = true := by
    cases hj : j12
    · exact absurd (mem_ready.2 ⟨by simp [hj], _, rfl, by simp [Region.binds, hj]⟩) (hn 12)
    · rfl
  subst d12
  have d13 : j13 = true := by
    cases hj : j13
    · exact absurd (mem_ready.2 ⟨by simp [hj], _, rfl, by simp [Region.binds, hj]⟩) (hn 13)
    · rfl
  subst d13
  have d14 : j14 = true := by
    cases hj : j14
    · exact absurd (mem_ready.2 ⟨by simp [hj], _, rfl, by simp [Region.binds, hj]⟩) (hn 14)
    · rfl
  subst d14
  rfl
set_option maxHeartbeats 16000000 in
theorem rL_steps (W : Bool → Bool → Bool → Bool → Bool → World) (d p0 p1 p2 p3 g bn : Nat) (lf lg : Int) (ra : Option Addr) (nn rc : Nat) (snap : ByteArray)  (l3 : ∀ b0 b1 b2 b3 b4 : Bool, (W b0 b1 b2 b3 b4).cell? ⟨g, 0, none⟩ = some (.int .i64 lg)) (l4 : ∀ b0 b1 b2 b3 b4 : Bool, (W b0 b1 b2 b3 b4).cell? ⟨p2, 0, none⟩ = some (.slice ra nn rc)) (l9 : ∀ b0 b1 b2 b3 b4 : Bool, (W b0 b1 b2 b3 b4).cell? ⟨g, 1, none⟩ = some (.string snap)) (se7 : (W false false false false false).alloc (.cells #[.pointer (some ⟨d, 0, none⟩), .int .i64 lf, .int .i64 lg, .int .i64 (nn : Int), .bool false] 96) = W true false false false false) (sz7 : (W false false false false false).heap.size = bn) (sc11 : ∃ v, (W true false false false false).cell? ⟨p0, 0, none⟩ = some v) (sf11 : (W true false false false false).frozen? ⟨p0, 0, none⟩ = false) (se11 : (W true false false false false).setCell ⟨p0, 0, none⟩ (.pointer (some ⟨bn, 0, none⟩)) = W true true false false false) (sc12 : ∃ v, (W true true false false false).cell? ⟨p1, 0, none⟩ = some v) (sf12 : (W true true false false false).frozen? ⟨p1, 0, none⟩ = false) (se12 : (W true true false false false).setCell ⟨p1, 0, none⟩ (.string snap) = W true true true false false) (sc13 : ∃ v, (W true true true false false).cell? ⟨p2, 0, none⟩ = some v) (sf13 : (W true true true false false).frozen? ⟨p2, 0, none⟩ = false) (se13 : (W true true true false false).setCell ⟨p2, 0, none⟩ (.slice ra nn rc) = W true true true true false) (sc14 : ∃ v, (W true true true true false).cell? ⟨p3, 0, none⟩ = some v) (sf14 : (W true true true true false).frozen? ⟨p3, 0, none⟩ = false) (se14 : (W true true true true false).setCell ⟨p3, 0, none⟩ (.int .i64 0) = W true true true true true)
    {t1 t8 t9 t10 t11 t12 t13 t14 t15 t16 t17 t18 t19 t20 t21 t22 t23 t24 t25 t26 t27 t28 t29 t30 t31 t32 t33 t34 t35 t36 t37 t38 t39 t40 t41 t42 t43 t44 : Value} {ds : List Deferred} {Q : Exit → Act → World → Prop} :
    ∀ l a w', rLI W d p0 p1 p2 p3 g bn lf lg ra nn rc snap t1 t8 t9 t10 t11 t12 t13 t14 t15 t16 t17 t18 t19 t20 t21 t22 t23 t24 t25 t26 t27 t28 t29 t30 t31 t32 t33 t34 t35 t36 t37 t38 t39 t40 t41 t42 t43 t44 ds l a w' → left l ≠ 0 → ∀ i ∈ Region.ready .any rLO l, wpOp Tryd.prog rLO Q i (fun a' w'' => rLI W d p0 p1 p2 p3 g bn lf lg ra nn rc snap t1 t8 t9 t10 t11 t12 t13 t14 t15 t16 t17 t18 t19 t20 t21 t22 t23 t24 t25 t26 t27 t28 t29 t30 t31 t32 t33 t34 t35 t36 t37 t38 t39 t40 t41 t42 t43 t44 ds (l.setIfInBounds i true) a' w'') a w' := by
  simp only [rLO, findR, Tryd.f34, Option.bind_some, Option.or, Option.getD, Nat.reduceEqDiff, if_true, if_false, reduceIte]
  rintro l a w' hI hlt i hi
  clear hlt
  rw [mem_ready] at hi
  obtain ⟨hu, oo, ho, hd⟩ := hi
  have hin : i < 15 := by
    have := (Array.getElem?_eq_some_iff.1 ho).1
    simpa using this
  have hcase : i = 0 ∨ i = 1 ∨ i = 2 ∨ i = 3 ∨ i = 4 ∨ i = 5 ∨ i = 6 ∨ i = 7 ∨ i = 8 ∨ i = 9 ∨ i = 10 ∨ i = 11 ∨ i = 12 ∨ i = 13 ∨ i = 14 := by omega
  obtain ⟨j0, j1, j2, j3, j4, j5, j6, j7, j8, j9, j10, j11, j12, j13, j14, x0, x1, x2, x3, x4, x5, x6, x7, x8, x9, x10, rfl, rfl, hW, h0, h1, h2, h3, h4, h5, h6, h7, h8, h9, h10, k3, k5, k6, k7, k9, k11, k12, k13, k14⟩ := hI
  subst hW
  replace h0 := Lib.hid h0
  replace h1 := Lib.hid h1
  replace h2 := Lib.hid h2
  replace h3 := Lib.hid h3
  replace h4 := Lib.hid h4
  replace h5 := Lib.hid h5
  replace h6 := Lib.hid h6
  replace h7 := Lib.hid h7
  replace h8 := Lib.hid h8
  replace h9 := Lib.hid h9
  replace h10 := Lib.hid h10
  replace k3 := Lib.hid k3
  replace k5 := Lib.hid k5
  replace k6 := Lib.hid k6
  replace k7 := Lib.hid k7
  replace k9 := Lib.hid k9
  replace k11 := Lib.hid k11
  replace k12 := Lib.hid k12
  replace k13 := Lib.hid k13
  replace k14 := Lib.hid k14
  rcases hcase with rfl | rfl | rfl | rfl | rfl | rfl | rfl | rfl | rfl | rfl | rfl | rfl | rfl | rfl | rfl
  · obtain rfl := Option.some.inj ho
    simp [Region.binds] at hu hd
    subst hu
    clear hd
    clear l3 l4 l9 se7 sz7 sc11 sf11 se11 sc12 sf12 se12 sc13 sf13 se13 sc14 sf14 se14
    refine wpOp_of rfl rfl ?_
    go_simp
    unfold rLI
    exact ⟨true, j1, j2, j3, j4, j5, j6, j7, j8, j9, j10, j11, j12, j13, j14, _, x1, x2, x3, x4, x5, x6, x7, x8, x9, x10, rfl, rfl, rfl, fun _ => rfl, h1.out, h2.out, h3.out, h4.out, h5.out, h6.out, h7.out, h8.out, h9.out, h10.out, k3.out, k5.out, (fun hj => absurd ((k6.out hj).1) (by simp)), k7.out, k9.out, (fun hj => absurd ((k11.out hj).1) (by simp)), (fun hj => absurd ((k12.out hj).1) (by simp)), (fun hj => absurd ((k13.out hj).1) (by simp)), (fun hj => absurd ((k14.out hj).1) (by simp))⟩
  · obtain rfl := Option.some.inj ho
    simp [Region.binds] at hu hd
    subst hu
    clear hd
    clear l3 l4 l9 se7 sz7 sc11 sf11 se11 sc12 sf12 se12 sc13 sf13 se13 sc14 sf14 se14
    refine wpOp_of rfl rfl ?_
    go_simp
    unfold rLI
    exact ⟨j0, true, j2, j3, j4, j5, j6, j7, j8, j9, j10, j11, j12, j13, j14, x0, _, x2, x3, x4, x5, x6, x7, x8, x9, x10, rfl, rfl, rfl, h0.out, fun _ => rfl, h2.out, h3.out, h4.out, h5.out, h6.out, h7.out, h8.out, h9.out, h10.out, k3.out, k5.out, (fun hj => absurd ((k6.out hj).2.1) (by simp)), k7.out, k9.out, (fun hj => absurd ((k11.out hj).2.1) (by simp)), (fun hj => absurd ((k12.out hj).2.1) (by simp)), (fun hj => absurd ((k13.out hj).2.1) (by simp)), (fun hj => absurd ((k14.out hj).2.1) (by simp))⟩
  · obtain rfl := Option.some.inj ho
    simp [Region.binds] at hu hd
    subst hu
    clear hd
    clear l3 l4 l9 se7 sz7 sc11 sf11 se11 sc12 sf12 se12 sc13 sf13 se13 sc14 sf14 se14
    refine wpOp_of rfl rfl ?_
    go_simp
    unfold rLI
    exact ⟨j0, j1, true, j3, j4, j5, j6, j7, j8, j9, j10, j11, j12, j13, j14, x0, x1, _, x3, x4, x5, x6, x7, x8, x9, x10, rfl, rfl, rfl, h0.out, h1.out, fun _ => rfl, h3.out, h4.out, h5.out, h6.out, h7.out, h8.out, h9.out, h10.out, (fun hj => absurd ((k3.out hj)) (by simp)), k5.out, k6.out, k7.out, k9.out, (fun hj => absurd ((k11.out hj).2.2.1) (by simp)), (fun hj => absurd ((k12.out hj).2.2.1) (by simp)), (fun hj => absurd ((k13.out hj).2.2.1) (by simp)), (fun hj => absurd ((k14.out hj).2.2.1) (by simp))⟩
  · obtain rfl := Option.some.inj ho
    simp [Region.binds] at hu hd
    have d2 : j2 = true := by simp [hd]
    have e2 := h2.out d2
    subst e2
    subst d2
    subst hu
    clear hd
    clear l4 l9 se7 sz7 sc11 sf11 se11 sc12 sf12 se12 sc13 sf13 se13 sc14 sf14 se14
    have lc := l3 j7 j11 j12 j13 j14
    refine wpOp_of rfl rfl ?_
    go_simp
    unfold rLI
    exact ⟨j0, j1, true, true, j4, j5, j6, j7, j8, j9, j10, j11, j12, j13, j14, x0, x1, _, _, x4, x5, x6, x7, x8, x9, x10, rfl, rfl, rfl, h0.out, h1.out, h2.out, fun _ => rfl, h4.out, h5.out, h6.out, h7.out, h8.out, h9.out, h10.out, fun _ => rfl, k5.out, (fun hj => absurd ((k6.out hj).2.2.1) (by simp)), k7.out, k9.out, (fun hj => absurd ((k11.out hj).2.2.2.1) (by simp)), (fun hj => absurd ((k12.out hj).2.2.2.1) (by simp)), (fun hj => absurd ((k13.out hj).2.2.2.1) (by simp)), (fun hj => absurd ((k14.out hj).2.2.2.1) (by simp))⟩
  · obtain rfl := Option.some.inj ho
    simp [Region.binds] at hu hd
    subst hu
    clear hd
    clear l3 l9 se7 sz7 sc11 sf11 se11 sc12 sf12 se12 sc13 sf13 se13 sc14 sf14 se14
    have lc := l4 j7 j11 j12 j13 j14
    refine wpOp_of rfl rfl ?_
    go_simp
    unfold rLI
    exact ⟨j0, j1, j2, j3, true, j5, j6, j7, j8, j9, j10, j11, j12, j13, j14, x0, x1, x2, x3, _, x5, x6, x7, x8, x9, x10, rfl, rfl, rfl, h0.out, h1.out, h2.out, h3.out, fun _ => rfl, h5.out, h6.out, h7.out, h8.out, h9.out, h10.out, k3.out, (fun hj => absurd ((k5.out hj)) (by simp)), k6.out, k7.out, k9.out, (fun hj => absurd ((k11.out hj).2.2.2.2.1) (by simp)), (fun hj => absurd ((k12.out hj).2.2.2.2.1) (by simp)), (fun hj => absurd ((k13.out hj).2.2.2.2.1) (by simp)), (fun hj => absurd ((k14.out hj).2.2.2.2.1) (by simp))⟩
  · obtain rfl := Option.some.inj ho
    simp [Region.binds] at hu hd
    have d4 : j4 = true := by simp [hd]
    have e4 := h4.out d4
    subst e4
    subst d4
    subst hu
    clear hd
    clear l3 l4 l9 se7 sz7 sc11 sf11 se11 sc12 sf12 se12 sc13 sf13 se13 sc14 sf14 se14
    refine wpOp_of rfl rfl ?_
    go_simp
    unfold rLI
    exact ⟨j0, j1, j2, j3, true, true, j6, j7, j8, j9, j10, j11, j12, j13, j14, x0, x1, x2, x3, _, _, x6, x7, x8, x9, x10, rfl, rfl, rfl, h0.out, h1.out, h2.out, h3.out, h4.out, fun _ => rfl, h6.out, h7.out, h8.out, h9.out, h10.out, k3.out, fun _ => rfl, (fun hj => absurd ((k6.out hj).2.2.2) (by simp)), k7.out, k9.out, (fun hj => absurd ((k11.out hj).2.2.2.2.2.1) (by simp)), (fun hj => absurd ((k12.out hj).2.2.2.2.2.1) (by simp)), (fun hj => absurd ((k13.out hj).2.2.2.2.2.1) (by simp)), (fun hj => absurd ((k14.out hj).2.2.2.2.2.1) (by simp))⟩
  · obtain rfl := Option.some.inj ho
    simp [Region.binds] at hu hd
    have d0 : j0 = true := by simp [hd]
    have d1 : j1 = true := by simp [hd]
    have d3 : j3 = true := by simp [hd]
    have d5 : j5 = true := by simp [hd]
    have e0 := h0.out d0
    subst e0
    have e1 := h1.out d1
    subst e1
    have e3 := h3.out d3
    subst e3
    have e5 := h5.out d5
    subst e5
    subst d0
    subst d1
    subst d3
    subst d5
    subst hu
    clear hd
    clear l3 l4 l9 se7 sz7 sc11 sf11 se11 sc12 sf12 se12 sc13 sf13 se13 sc14 sf14 se14
    refine wpOp_of rfl rfl ?_
    go_simp
    unfold rLI
    exact ⟨true, true, j2, true, j4, true, true, j7, j8, j9, j10, j11, j12, j13, j14, _, _, x2, _, x4, _, _, x7, x8, x9, x10, rfl, rfl, rfl, h0.out, h1.out, h2.out, h3.out, h4.out, h5.out, fun _ => rfl, h7.out, h8.out, h9.out, h10.out, k3.out, k5.out, fun _ => ⟨rfl, rfl, rfl, rfl⟩, (fun hj => absurd ((k7.out hj)) (by simp)), k9.out, (fun hj => absurd ((k11.out hj).2.2.2.2.2.2.1) (by simp)), (fun hj => absurd ((k12.out hj).2.2.2.2.2.2.1) (by simp)), (fun hj => absurd ((k13.out hj).2.2.2.2.2.2.1) (by simp)), (fun hj => absurd ((k14.out hj).2.2.2.2.2.2.1) (by simp))⟩
  · obtain rfl := Option.some.inj ho
    simp [Region.binds] at hu hd
    have d6 : j6 = true := by simp [hd]
    have d0 : j0 = true := (k6.out d6).1
    have d1 : j1 = true := (k6.out d6).2.1
    have d3 : j3 = true := (k6.out d6).2.2.1
    have d5 : j5 = true := (k6.out d6).2.2.2
    have d4 : j4 = true := (k5.out d5)
    have d2 : j2 = true := (k3.out d3)
    have z11 : j11 = false := by
      cases hj : j11
      · rfl
      · exact absurd ((k11.out hj).2.2.2.2.2.2.2) (by simp [hu])
    have z12 : j12 = false := by
      cases hj : j12
      · rfl
      · exact absurd ((k12.out hj).2.2.2.2.2.2.2.1) (by simp [hu])
    have z13 : j13 = false := by
      cases hj : j13
      · rfl
      · exact absurd ((k13.out hj).2.2.2.2.2.2.2.1) (by simp [hu])
    have z14 : j14 = false := by
      cases hj : j14
      · rfl
      · exact absurd ((k14.out hj).2.2.2.2.2.2.2.1) (by simp [hu])
    have e6 := h6.out d6
    subst e6
    have e0 := h0.out d0
    subst e0
    have e1 := h1.out d1
    subst e1
    have e3 := h3.out d3
    subst e3
    have e5 := h5.out d5
    subst e5
    have e4 := h4.out d4
    subst e4
    have e2 := h2.out d2
    subst e2
    subst d6
    subst d0
    subst d1
    subst d3
    subst d5
    subst d4
    subst d2
    subst z11
    subst z12
    subst z13
    subst z14
    subst hu
    clear hd
    clear l3 l4 l9 sc11 sf11 se11 sc12 sf12 se12 sc13 sf13 se13 sc14 sf14 se14
    refine wpOp_of rfl rfl ?_
    go_simp
    unfold rLI
    exact ⟨true, true, true, true, true, true, true, true, j8, j9, j10, false, false, false, false, _, _, _, _, _, _, _, _, x8, x9, x10, rfl, rfl, rfl, h0.out, h1.out, h2.out, h3.out, h4.out, h5.out, h6.out, fun _ => rfl, h8.out, h9.out, h10.out, k3.out, k5.out, k6.out, fun _ => rfl, k9.out, (fun hj => absurd ((k11.out hj).2.2.2.2.2.2.2) (by simp)), (fun hj => absurd ((k12.out hj).2.2.2.2.2.2.2.1) (by simp)), (fun hj => absurd ((k13.out hj).2.2.2.2.2.2.2.1) (by simp)), (fun hj => absurd ((k14.out hj).2.2.2.2.2.2.2.1) (by simp))⟩
  · obtain rfl := Option.some.inj ho
    simp [Region.binds] at hu hd
    subst hu
    clear hd
    clear l3 l4 l9 se7 sz7 sc11 sf11 se11 sc12 sf12 se12 sc13 sf13 se13 sc14 sf14 se14
    refine wpOp_of rfl rfl ?_
    go_simp
    unfold rLI
    exact ⟨j0, j1, j2, j3, j4, j5, j6, j7, true, j9, j10, j11, j12, j13, j14, x0, x1, x2, x3, x4, x5, x6, x7, _, x9, x10, rfl, rfl, rfl, h0.out, h1.out, h2.out, h3.out, h4.out, h5.out, h6.out, h7.out, fun _ => rfl, h9.out, h10.out, k3.out, k5.out, k6.out, k7.out, (fun hj => absurd ((k9.out hj)) (by simp)), k11.out, (fun hj => absurd ((k12.out hj).2.2.2.2.2.2.2.2.1) (by simp)), (fun hj => absurd ((k13.out hj).2.2.2.2.2.2.2.2.1) (by simp)), (fun hj => absurd ((k14.out hj).2.2.2.2.2.2.2.2.1) (by simp))⟩
  · obtain rfl := Option.some.inj ho
    simp [Region.binds] at hu hd
    have d8 : j8 = true := by simp [hd]
    have e8 := h8.out d8
    subst e8
    subst d8
    subst hu
    clear hd
    clear l3 l4 se7 sz7 sc11 sf11 se11 sc12 sf12 se12 sc13 sf13 se13 sc14 sf14 se14
    have lc := l9 j7 j11 j12 j13 j14
    refine wpOp_of rfl rfl ?_
    go_simp
    unfold rLI
    exact ⟨j0, j1, j2, j3, j4, j5, j6, j7, true, true, j10, j11, j12, j13, j14, x0, x1, x2, x3, x4, x5, x6, x7, _, _, x10, rfl, rfl, rfl, h0.out, h1.out, h2.out, h3.out, h4.out, h5.out, h6.out, h7.out, h8.out, fun _ => rfl, h10.out, k3.out, k5.out, k6.out, k7.out, fun _ => rfl, k11.out, (fun hj => absurd ((k12.out hj).2.2.2.2.2.2.2.2.2.1) (by simp)), (fun hj => absurd ((k13.out hj).2.2.2.2.2.2.2.2.2.1) (by simp)), (fun hj => absurd ((k14.out hj).2.2.2.2.2.2.2.2.2.1) (by simp))⟩
  · obtain rfl := Option.some.inj ho
    simp [Region.binds] at hu hd
    subst hu
    clear hd
    clear l3 l9 se7 sz7 sc11 sf11 se11 sc12 sf12 se12 sc13 sf13 se13 sc14 sf14 se14
    have lc := l4 j7 j11 j12 j13 j14
    refine wpOp_of rfl rfl ?_
    go_simp
    unfold rLI
    exact ⟨j0, j1, j2, j3, j4, j5, j6, j7, j8, j9, true, j11, j12, j13, j14, x0, x1, x2, x3, x4, x5, x6, x7, x8, x9, _, rfl, rfl, rfl, h0.out, h1.out, h2.out, h3.out, h4.out, h5.out, h6.out, h7.out, h8.out, h9.out, fun _ => rfl, k3.out, k5.out, k6.out, k7.out, k9.out, k11.out, k12.out, (fun hj => absurd ((k13.out hj).2.2.2.2.2.2.2.2.2.2.1) (by simp)), (fun hj => absurd ((k14.out hj).2.2.2.2.2.2.2.2.2.2.1) (by simp))⟩
  · obtain rfl := Option.some.inj ho
    simp [Region.binds] at hu hd
    have d0 : j0 = true := by simp [hd]
    have d1 : j1 = true := by simp [hd]
    have d2 : j2 = true := by simp [hd]
    have d3 : j3 = true := by simp [hd]
    have d4 : j4 = true := by simp [hd]
    have d5 : j5 = true := by simp [hd]
    have d6 : j6 = true := by simp [hd]
    have d7 : j7 = true := by simp [hd]
    have z12 : j12 = false := by
      cases hj : j12
      · rfl
      · exact absurd ((k12.out hj).2.2.2.2.2.2.2.2.2.2) (by simp [hu])
    have z13 : j13 = false := by
      cases hj : j13
      · rfl
      · exact absurd ((k13.out hj).2.2.2.2.2.2.2.2.2.2.2.1) (by simp [hu])
    have z14 : j14 = false := by
      cases hj : j14
      · rfl
      · exact absurd ((k14.out hj).2.2.2.2.2.2.2.2.2.2.2.1) (by simp [hu])
    have e0 := h0.out d0
    subst e0
    have e1 := h1.out d1
    subst e1
    have e2 := h2.out d2
    subst e2
    have e3 := h3.out d3
    subst e3
    have e4 := h4.out d4
    subst e4
    have e5 := h5.out d5
    subst e5
    have e6 := h6.out d6
    subst e6
    have e7 := h7.out d7
    subst e7
    subst d0
    subst d1
    subst d2
    subst d3
    subst d4
    subst d5
    subst d6
    subst d7
    subst z12
    subst z13
    subst z14
    subst hu
    clear hd
    clear l3 l4 l9 se7 sz7 sc12 sf12 se12 sc13 sf13 se13 sc14 sf14 se14
    obtain ⟨vv, sv⟩ := sc11
    refine wpOp_of rfl rfl ?_
    go_simp
    unfold rLI
    exact ⟨true, true, true, true, true, true, true, true, j8, j9, j10, true, false, false, false, _, _, _, _, _, _, _, _, x8, x9, x10, rfl, rfl, rfl, h0.out, h1.out, h2.out, h3.out, h4.out, h5.out, h6.out, h7.out, h8.out, h9.out, h10.out, k3.out, k5.out, k6.out, k7.out, k9.out, fun _ => ⟨rfl, rfl, rfl, rfl, rfl, rfl, rfl, rfl⟩, (fun hj => absurd ((k12.out hj).2.2.2.2.2.2.2.2.2.2) (by simp)), (fun hj => absurd ((k13.out hj).2.2.2.2.2.2.2.2.2.2.2.1) (by simp)), (fun hj => absurd ((k14.out hj).2.2.2.2.2.2.2.2.2.2.2.1) (by simp))⟩
  · obtain rfl := Option.some.inj ho
    simp [Region.binds] at hu hd
    have d0 : j0 = true := by simp [hd]
    have d1 : j1 = true := by simp [hd]
    have d2 : j2 = true := by simp [hd]
    have d3 : j3 = true := by simp [hd]
    have d4 : j4 = true := by simp [hd]
    have d5 : j5 = true := by simp [hd]
    have d6 : j6 = true := by simp [hd]
    have d7 : j7 = true := by simp [hd]
    have d8 : j8 = true := by simp [hd]
    have d9 : j9 = true := by simp [hd]
    have d11 : j11 = true := by simp [hd]
    have z13 : j13 = false := by
      cases hj : j13
      · rfl
      · exact absurd ((k13.out hj).2.2.2.2.2.2.2.2.2.2.2.2) (by simp [hu])
    have z14 : j14 = false := by
      cases hj : j14
      · rfl
      · exact absurd ((k14.out hj).2.2.2.2.2.2.2.2.2.2.2.2.1) (by simp [hu])
    have e0 := h0.out d0
    subst e0
    have e1 := h1.out d1
    subst e1
    have e2 := h2.out d2
    subst e2
    have e3 := h3.out d3
    subst e3
    have e4 := h4.out d4
    subst e4
    have e5 := h5.out d5
    subst e5
    have e6 := h6.out d6
    subst e6
    have e7 := h7.out d7
    subst e7
    have e8 := h8.out d8
    subst e8
    have e9 := h9.out d9
    subst e9
    subst d0
    subst d1
    subst d2
    subst d3
    subst d4
    subst d5
    subst d6
    subst d7
    subst d8
    subst d9
    subst d11
    subst z13
    subst z14
    subst hu
    clear hd
    clear l3 l4 l9 se7 sz7 sc11 sf11 se11 sc13 sf13 se13 sc14 sf14 se14
    obtain ⟨vv, sv⟩ := sc12
    refine wpOp_of rfl rfl ?_
    go_simp
    unfold rLI
    exact ⟨true, true, true, true, true, true, true, true, true, true, j10, true, true, false, false, _, _, _, _, _, _, _, _, _, _, x10, rfl, rfl, rfl, h0.out, h1.out, h2.out, h3.out, h4.out, h5.out, h6.out, h7.out, h8.out, h9.out, h10.out, k3.out, k5.out, k6.out, k7.out, k9.out, k11.out, fun _ => ⟨rfl, rfl, rfl, rfl, rfl, rfl, rfl, rfl, rfl, rfl, rfl⟩, (fun hj => absurd ((k13.out hj).2.2.2.2.2.2.2.2.2.2.2.2) (by simp)), (fun hj => absurd ((k14.out hj).2.2.2.2.2.2.2.2.2.2.2.2.1) (by simp))⟩
  · obtain rfl := Option.some.inj ho
    simp [Region.binds] at hu hd
    have d0 : j0 = true := by simp [hd]
    have d1 : j1 = true := by simp [hd]
    have d2 : j2 = true := by simp [hd]
    have d3 : j3 = true := by simp [hd]
    have d4 : j4 = true := by simp [hd]
    have d5 : j5 = true := by simp [hd]
    have d6 : j6 = true := by simp [hd]
    have d7 : j7 = true := by simp [hd]
    have d8 : j8 = true := by simp [hd]
    have d9 : j9 = true := by simp [hd]
    have d10 : j10 = true := by simp [hd]
    have d11 : j11 = true := by simp [hd]
    have d12 : j12 = true := by simp [hd]
    have z14 : j14 = false := by
      cases hj : j14
      · rfl
      · exact absurd ((k14.out hj).2.2.2.2.2.2.2.2.2.2.2.2.2) (by simp [hu])
    have e0 := h0.out d0
    subst e0
    have e1 := h1.out d1
    subst e1
    have e2 := h2.out d2
    subst e2
    have e3 := h3.out d3
    subst e3
    have e4 := h4.out d4
    subst e4
    have e5 := h5.out d5
    subst e5
    have e6 := h6.out d6
    subst e6
    have e7 := h7.out d7
    subst e7
    have e8 := h8.out d8
    subst e8
    have e9 := h9.out d9
    subst e9
    have e10 := h10.out d10
    subst e10
    subst d0
    subst d1
    subst d2
    subst d3
    subst d4
    subst d5
    subst d6
    subst d7
    subst d8
    subst d9
    subst d10
    subst d11
    subst d12
    subst z14
    subst hu
    clear hd
    clear l3 l4 l9 se7 sz7 sc11 sf11 se11 sc12 sf12 se12 sc14 sf14 se14
    obtain ⟨vv, sv⟩ := sc13
    refine wpOp_of rfl rfl ?_
    go_simp
    unfold rLI
    exact ⟨true, true, true, true, true, true, true, true, true, true, true, true, true, true, false, _, _, _, _, _, _, _, _, _, _, _, rfl, rfl, rfl, h0.out, h1.out, h2.out, h3.out, h4.out, h5.out, h6.out, h7.out, h8.out, h9.out, h10.out, k3.out, k5.out, k6.out, k7.out, k9.out, k11.out, k12.out, fun _ => ⟨rfl, rfl, rfl, rfl, rfl, rfl, rfl, rfl, rfl, rfl, rfl, rfl, rfl⟩, (fun hj => absurd ((k14.out hj).2.2.2.2.2.2.2.2.2.2.2.2.2) (by simp))⟩
  · obtain rfl := Option.some.inj ho
    simp [Region.binds] at hu hd
    have d0 : j0 = true := by simp [hd]
    have d1 : j1 = true := by simp [hd]
    have d2 : j2 = true := by simp [hd]
    have d3 : j3 = true := by simp [hd]
    have d4 : j4 = true := by simp [hd]
    have d5 : j5 = true := by simp [hd]
    have d6 : j6 = true := by simp [hd]
    have d7 : j7 = true := by simp [hd]
    have d8 : j8 = true := by simp [hd]
    have d9 : j9 = true := by simp [hd]
    have d10 : j10 = true := by simp [hd]
    have d11 : j11 = true := by simp [hd]
    have d12 : j12 = true := by simp [hd]
    have d13 : j13 = true := by simp [hd]
    have e0 := h0.out d0
    subst e0
    have e1 := h1.out d1
    subst e1
    have e2 := h2.out d2
    subst e2
    have e3 := h3.out d3
    subst e3
    have e4 := h4.out d4
    subst e4
    have e5 := h5.out d5
    subst e5
    have e6 := h6.out d6
    subst e6
    have e7 := h7.out d7
    subst e7
    have e8 := h8.out d8
    subst e8
    have e9 := h9.out d9
    subst e9
    have e10 := h10.out d10
    subst e10
    subst d0
    subst d1
    subst d2
    subst d3
    subst d4
    subst d5
    subst d6
    subst d7
    subst d8
    subst d9
    subst d10
    subst d11
    subst d12
    subst d13
    subst hu
    clear hd
    clear l3 l4 l9 se7 sz7 sc11 sf11 se11 sc12 sf12 se12 sc13 sf13 se13
    obtain ⟨vv, sv⟩ := sc14
    refine wpOp_of rfl rfl ?_
    go_simp
    unfold rLI
    exact ⟨true, true, true, true, true, true, true, true, true, true, true, true, true, true, true, _, _, _, _, _, _, _, _, _, _, _, rfl, rfl, rfl, h0.out, h1.out, h2.out, h3.out, h4.out, h5.out, h6.out, h7.out, h8.out, h9.out, h10.out, k3.out, k5.out, k6.out, k7.out, k9.out, k11.out, k12.out, k13.out, fun _ => ⟨rfl, rfl, rfl, rfl, rfl, rfl, rfl, rfl, rfl, rfl, rfl, rfl, rfl, rfl⟩⟩
set_option maxHeartbeats 16000000 in
theorem rL (W : Bool → Bool → Bool → Bool → Bool → World) (d p0 p1 p2 p3 g bn : Nat) (lf lg : Int) (ra : Option Addr) (nn rc : Nat) (snap : ByteArray) (w : World) (w0 : W false false false false false = w.drew)  (l3 : ∀ b0 b1 b2 b3 b4 : Bool, (W b0 b1 b2 b3 b4).cell? ⟨g, 0, none⟩ = some (.int .i64 lg)) (l4 : ∀ b0 b1 b2 b3 b4 : Bool, (W b0 b1 b2 b3 b4).cell? ⟨p2, 0, none⟩ = some (.slice ra nn rc)) (l9 : ∀ b0 b1 b2 b3 b4 : Bool, (W b0 b1 b2 b3 b4).cell? ⟨g, 1, none⟩ = some (.string snap)) (se7 : (W false false false false false).alloc (.cells #[.pointer (some ⟨d, 0, none⟩), .int .i64 lf, .int .i64 lg, .int .i64 (nn : Int), .bool false] 96) = W true false false false false) (sz7 : (W false false false false false).heap.size = bn) (sc11 : ∃ v, (W true false false false false).cell? ⟨p0, 0, none⟩ = some v) (sf11 : (W true false false false false).frozen? ⟨p0, 0, none⟩ = false) (se11 : (W true false false false false).setCell ⟨p0, 0, none⟩ (.pointer (some ⟨bn, 0, none⟩)) = W true true false false false) (sc12 : ∃ v, (W true true false false false).cell? ⟨p1, 0, none⟩ = some v) (sf12 : (W true true false false false).frozen? ⟨p1, 0, none⟩ = false) (se12 : (W true true false false false).setCell ⟨p1, 0, none⟩ (.string snap) = W true true true false false) (sc13 : ∃ v, (W true true true false false).cell? ⟨p2, 0, none⟩ = some v) (sf13 : (W true true true false false).frozen? ⟨p2, 0, none⟩ = false) (se13 : (W true true true false false).setCell ⟨p2, 0, none⟩ (.slice ra nn rc) = W true true true true false) (sc14 : ∃ v, (W true true true true false).cell? ⟨p3, 0, none⟩ = some v) (sf14 : (W true true true true false).frozen? ⟨p3, 0, none⟩ = false) (se14 : (W true true true true false).setCell ⟨p3, 0, none⟩ (.int .i64 0) = W true true true true true) {t1 t8 t9 t10 t11 t12 t13 t14 t15 t16 t17 t18 t19 t20 t21 t22 t23 t24 t25 t26 t27 t28 t29 t30 t31 t32 t33 t34 t35 t36 t37 t38 t39 t40 t41 t42 t43 t44 t45 t46 t47 t48 t49 t50 t51 t52 t53 t54 t55 : Value} {ds : List Deferred} {Q : Exit → Act → World → Prop}
    (h : Q .normal { tmps := #[.pointer (some ⟨d, 0, none⟩), t1, .pointer (some ⟨p0, 0, none⟩), .pointer (some ⟨p1, 0, none⟩), .pointer (some ⟨p2, 0, none⟩), .pointer (some ⟨p3, 0, none⟩), .int .i64 lf, .pointer (some ⟨g, 0, none⟩), t8, t9, t10, t11, t12, t13, t14, t15, t16, t17, t18, t19, t20, t21, t22, t23, t24, t25, t26, t27, t28, t29, t30, t31, t32, t33, t34, t35, t36, t37, t38, t39, t40, t41, t42, t43, t44, .pointer (some ⟨d, 0, none⟩), .int .i64 lf, .pointer (some ⟨g, 0, none⟩), .int .i64 lg, .slice ra nn rc, .int .i64 (nn : Int), .agg #[.pointer (some ⟨d, 0, none⟩), .int .i64 lf, .int .i64 lg, .int .i64 (nn : Int), .bool false], .pointer (some ⟨bn, 0, none⟩), .pointer (some ⟨g, 1, none⟩), .string snap, .slice ra nn rc], defers := ds } (W true true true true true)) :
    (Code.region 12 rLO true).wp Tryd.prog Q { tmps := #[.pointer (some ⟨d, 0, none⟩), t1, .pointer (some ⟨p0, 0, none⟩), .pointer (some ⟨p1, 0, none⟩), .pointer (some ⟨p2, 0, none⟩), .pointer (some ⟨p3, 0, none⟩), .int .i64 lf, .pointer (some ⟨g, 0, none⟩), t8, t9, t10, t11, t12, t13, t14, t15, t16, t17, t18, t19, t20, t21, t22, t23, t24, t25, t26, t27, t28, t29, t30, t31, t32, t33, t34, t35, t36, t37, t38, t39, t40, t41, t42, t43, t44, t45, t46, t47, t48, t49, t50, t51, t52, t53, t54, t55], defers := ds } w := by
  have hsz : rLO.size = 15 := by kernel_rfl
  refine wp_region_any (show Tryd.prog.follows .mixedOrders = true from by kernel_rfl) ?_
  rw [hsz]
  refine wpAny_inv2 (I := rLI W d p0 p1 p2 p3 g bn lf lg ra nn rc snap t1 t8 t9 t10 t11 t12 t13 t14 t15 t16 t17 t18 t19 t20 t21 t22 t23 t24 t25 t26 t27 t28 t29 t30 t31 t32 t33 t34 t35 t36 t37 t38 t39 t40 t41 t42 t43 t44 ds) (g := 0) (rL_none W d p0 p1 p2 p3 g bn lf lg ra nn rc snap) (rL_steps W d p0 p1 p2 p3 g bn lf lg ra nn rc snap  l3 l4 l9 se7 sz7 sc11 sf11 se11 sc12 sf12 se12 sc13 sf13 se13 sc14 sf14 se14) (fun l a w' hI hl => ?_) 15 _ _ _ (by decide) (by decide) ?_
  · obtain ⟨j0, j1, j2, j3, j4, j5, j6, j7, j8, j9, j10, j11, j12, j13, j14, x0, x1, x2, x3, x4, x5, x6, x7, x8, x9, x10, rfl, rfl, hW, h0, h1, h2, h3, h4, h5, h6, h7, h8, h9, h10, k3, k5, k6, k7, k9, k11, k12, k13, k14⟩ := hI
    have ha := left_zero hl
    simp only [List.mem_toArray, List.mem_cons, List.not_mem_nil, or_false, forall_eq_or_imp, forall_eq] at ha
    obtain ⟨d0, d1, d2, d3, d4, d5, d6, d7, d8, d9, d10, d11, d12, d13, d14⟩ := ha
    subst d0
    subst d1
    subst d2
    subst d3
    subst d4
    subst d5
    subst d6
    subst d7
    subst d8
    subst d9
    subst d10
    subst d11
    subst d12
    subst d13
    subst d14
    obtain rfl := h0 rfl
    obtain rfl := h1 rfl
    obtain rfl := h2 rfl
    obtain rfl := h3 rfl
    obtain rfl := h4 rfl
    obtain rfl := h5 rfl
    obtain rfl := h6 rfl
    obtain rfl := h7 rfl
    obtain rfl := h8 rfl
    obtain rfl := h9 rfl
    obtain rfl := h10 rfl
    subst hW
    exact ⟨by kernel_rfl, h⟩
  · exact ⟨false, false, false, false, false, false, false, false, false, false, false, false, false, false, false, t45, t46, t47, t48, t49, t50, t51, t52, t53, t54, t55, rfl, rfl, w0.symm, (fun h => by cases h), (fun h => by cases h), (fun h => by cases h), (fun h => by cases h), (fun h => by cases h), (fun h => by cases h), (fun h => by cases h), (fun h => by cases h), (fun h => by cases h), (fun h => by cases h), (fun h => by cases h), (fun h => by cases h), (fun h => by cases h), (fun h => by cases h), (fun h => by cases h), (fun h => by cases h), (fun h => by cases h), (fun h => by cases h), (fun h => by cases h), (fun h => by cases h)⟩
end Go.Proofs.YtmoihgniglomiaaDoor
