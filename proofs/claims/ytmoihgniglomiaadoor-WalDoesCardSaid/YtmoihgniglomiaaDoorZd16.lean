/- What a log's Open answers and leaves. Condition: the disk's own, the program's table, that what must be cut off is safe. -/
import Derived.Test.YtmoihgniglomiaaDoorZd15
set_option linter.unusedVariables false
set_option linter.unusedSimpArgs false
set_option maxRecDepth 100000
namespace Go.Proofs.YtmoihgniglomiaaDoor
open Go.RowKit Go.Sort
theorem cut_ok {S : St} (h : S.Wf) {f n : Nat} (hf : f < 2) (hc : (S.cut f n).1 = 0) : (S.cut f n).2.file f = (S.file f).take n ∧ (S.cut f n).2.file (1 - f) = S.file (1 - f) ∧ (S.cut f n).2.safe (1 - f) = S.safe (1 - f) ∧ (S.cut f n).2.gone = false ∧ (S.cut f n).2.Wf ∧ n ≤ (S.file f).length ∧ (S.cut f n).2.safe f = n ∧ (S.cut f n).2.row = S.row := by
  unfold St.cut at hc ⊢
  have ht : St.there (f : Int) = true := by unfold St.there; simp; omega
  by_cases hg : S.gone = true
  · rw [if_pos hg] at hc; cases hc
  · rw [if_neg hg] at hc ⊢
    rw [if_neg (by simp [ht])] at hc ⊢
    simp only [Int.toNat_natCast] at hc ⊢
    by_cases hl : (n : Int) < 0 ∨ (n : Int) > ((S.file f).length : Int) ∨ S.safe f < (S.file f).length
    · rw [if_pos hl] at hc; cases hc
    · rw [if_neg hl] at hc ⊢
      by_cases h0 : (S.count).1 = 0
      · rw [if_pos h0] at hc ⊢
        obtain ⟨a, b, c, d, e, g⟩ := count_ok h0
        have hfile : ∀ q, (S.count).2.file q = S.file q := fun q => by unfold St.file; rw [a, b]
        have hsafe : ∀ q, (S.count).2.safe q = S.safe q := fun q => by unfold St.safe; rw [c, d]
        have hw := (h.count).cutF f n (by rw [hfile]; omega) (by rw [hfile, hsafe]; omega)
        have hg' : S.gone = false := by simpa using hg
        refine ⟨?_, ?_, ?_, ?_, hw, by omega, ?_, ?_⟩
        · rw [← hfile]; unfold St.cutF St.file St.cut0 St.cut1
          rcases Nat.lt_or_ge f 1 with h1 | h1
          · have : f = 0 := by omega
            subst this; simp
          · have : f = 1 := by omega
            subst this; simp
        · rw [← hfile]; unfold St.cutF St.file St.cut0 St.cut1
          rcases Nat.lt_or_ge f 1 with h1 | h1
          · have : f = 0 := by omega
            subst this; simp
          · have : f = 1 := by omega
            subst this; simp
        · rw [← hsafe]; unfold St.cutF St.safe St.cut0 St.cut1
          rcases Nat.lt_or_ge f 1 with h1 | h1
          · have : f = 0 := by omega
            subst this; simp
          · have : f = 1 := by omega
            subst this; simp
        · unfold St.cutF St.cut0 St.cut1; split <;> simp only [g, hg']
        · unfold St.cutF St.safe St.cut0 St.cut1
          rcases Nat.lt_or_ge f 1 with h1 | h1
          · have : f = 0 := by omega
            subst this; simp
          · have : f = 1 := by omega
            subst this; simp
        · unfold St.cutF St.cut0 St.cut1; split <;> simp only [e]
      · rw [if_neg h0] at hc; exact absurd hc h0
def ORes (w : World) (p : Fp) (r : Nat × (Wlg × Bs × List Bs) × St) (e : Ending) (w' : World) : Prop := ∃ lv rv p', e = .returned (.tuple #[lv, .string ⟨r.2.1.2.1.toArray⟩, rv, .int .i64 (r.1 : Int)]) ∧ Mut w p w' p' r.2.2 ∧ w'.ownsRow 0 9 1 rv r.2.1.2.2.length (scells r.2.1.2.2) ∧ (∀ k, rv.ownBlock = some k → w.heap.size ≤ k ∧ k ∉ p'.own) ∧
  (r.1 = 0 → ∃ b, lv = .pointer (some ⟨b, 0, none⟩) ∧ w.heap.size ≤ b ∧ Lk w' b p' r.2.2 r.2.1.1 ∧ ∀ k, rv.ownBlock = some k → k ≠ b) ∧ (r.1 ≠ 0 → lv = .pointer none)
theorem Mut.own_set4 {w w1 : World} {p p1 : Fp} {S : St} (h : Mut w p w1 p1 S) (b : Nat) (hb : w.heap.size ≤ b) (h0 : b ∉ p1.own) (h1 : b + 1 ∉ p1.own) (h2 : b + 1 + 1 ∉ p1.own) (h3 : b + 1 + 1 + 1 ∉ p1.own) (v0 v1 v2 v3 : Value) :
    Mut w p ((((w1.setCell ⟨b, 0, none⟩ v0).setCell ⟨b + 1, 0, none⟩ v1).setCell ⟨b + 1 + 1, 0, none⟩ v2).setCell ⟨b + 1 + 1 + 1, 0, none⟩ v3) p1 S :=
  (((h.own_set ⟨b, 0, none⟩ hb h0 v0).own_set ⟨b + 1, 0, none⟩ (by simp; omega) h1 v1).own_set ⟨b + 1 + 1, 0, none⟩ (by simp; omega) h2 v2).own_set ⟨b + 1 + 1 + 1, 0, none⟩ (by simp; omega) h3 v3
theorem owns_nil9 (w : World) : w.ownsRow 0 9 1 (.slice none 0 0) ([] : List Bs).length (scells []) := ⟨rfl, .inl ⟨rfl, rfl⟩⟩
structure R4 (w : World) (b : Nat) (v0 v1 v2 v3 : Value) : Prop where
  k0 : Bk 35 w b #[v0]
  k1 : Bk 9 w (b + 1) #[v1]
  k2 : Bk 31 w (b + 1 + 1) #[v2]
  k3 : Bk 28 w (b + 1 + 1 + 1) #[v3]
theorem R4.below {w w' : World} {b : Nat} {v0 v1 v2 v3 : Value} (h : R4 w b v0 v1 v2 v3) (hb : Below w.heap.size w w') : R4 w' b v0 v1 v2 v3 := ⟨h.k0.below hb, h.k1.below hb, h.k2.below hb, h.k3.below hb⟩
theorem R4.only {w w' : World} {b : Nat} {v0 v1 v2 v3 : Value} {L : List Nat} (h : R4 w b v0 v1 v2 v3) (ho : Only L w w') (n0 : b ∉ L) (n1 : b + 1 ∉ L) (n2 : b + 1 + 1 ∉ L) (n3 : b + 1 + 1 + 1 ∉ L) : R4 w' b v0 v1 v2 v3 := ⟨h.k0.only ho n0, h.k1.only ho n1, h.k2.only ho n2, h.k3.only ho n3⟩
theorem R4.alloc {w : World} {b : Nat} {v0 v1 v2 v3 : Value} (h : R4 w b v0 v1 v2 v3) (o : Obj) : R4 (w.alloc o) b v0 v1 v2 v3 := ⟨h.k0.alloc, h.k1.alloc, h.k2.alloc, h.k3.alloc⟩
theorem R4.set2 {w : World} {b : Nat} {v0 v1 v2 v3 : Value} (h : R4 w b v0 v1 v2 v3) (v : Value) : R4 (w.setCell ⟨b + 1 + 1, 0, none⟩ v) b v0 v1 v v3 :=
  ⟨h.k0.oth (by first | omega | (simp; done) | (simp; omega)), h.k1.oth (by simp), by have := Bk.same (i := 0) (v := v) h.k2; simpa using this, h.k3.oth (by simp)⟩
theorem R4.put {w : World} {b : Nat} {v0 v1 v2 v3 : Value} (h : R4 w b v0 v1 v2 v3) (x0 x1 x2 x3 : Value) : R4 ((((w.setCell ⟨b, 0, none⟩ x0).setCell ⟨b + 1, 0, none⟩ x1).setCell ⟨b + 1 + 1, 0, none⟩ x2).setCell ⟨b + 1 + 1 + 1, 0, none⟩ x3) b x0 x1 x2 x3 := by
  refine ⟨?_, ?_, ?_, ?_⟩
  · have := Bk.same (i := 0) (v := x0) h.k0
    exact Bk.oth (by first | omega | (simp; done) | (simp; omega)) (Bk.oth (by first | omega | (simp; done) | (simp; omega)) (Bk.oth (by simp) (by simpa using this)))
  · have := Bk.same (i := 0) (v := x1) (Bk.oth (a := ⟨b, 0, none⟩) (v := x0) (by simp) h.k1)
    exact Bk.oth (by first | omega | (simp; done) | (simp; omega)) (Bk.oth (by simp) (by simpa using this))
  · have := Bk.same (i := 0) (v := x2) (Bk.oth (a := ⟨b + 1, 0, none⟩) (v := x1) (by simp) (Bk.oth (a := ⟨b, 0, none⟩) (v := x0) (by first | omega | (simp; done) | (simp; omega)) h.k2))
    exact Bk.oth (by simp) (by simpa using this)
  · have := Bk.same (i := 0) (v := x3) (Bk.oth (a := ⟨b + 1 + 1, 0, none⟩) (v := x2) (by simp) (Bk.oth (a := ⟨b + 1, 0, none⟩) (v := x1) (by first | omega | (simp; done) | (simp; omega)) (Bk.oth (a := ⟨b, 0, none⟩) (v := x0) (by first | omega | (simp; done) | (simp; omega)) h.k3)))
    simpa using this
theorem R4.cells {w : World} {b : Nat} {v0 v1 v2 v3 : Value} (h : R4 w b v0 v1 v2 v3) : w.cell? ⟨b, 0, none⟩ = some v0 ∧ w.cell? ⟨b + 1, 0, none⟩ = some v1 ∧ w.cell? ⟨b + 1 + 1, 0, none⟩ = some v2 ∧ w.cell? ⟨b + 1 + 1 + 1, 0, none⟩ = some v3 := ⟨h.k0.cell 0, h.k1.cell 0, h.k2.cell 0, h.k3.cell 0⟩
theorem R4.fros {w : World} {b : Nat} {v0 v1 v2 v3 : Value} (h : R4 w b v0 v1 v2 v3) : w.frozen? ⟨b, 0, none⟩ = false ∧ w.frozen? ⟨b + 1, 0, none⟩ = false ∧ w.frozen? ⟨b + 1 + 1, 0, none⟩ = false ∧ w.frozen? ⟨b + 1 + 1 + 1, 0, none⟩ = false := ⟨h.k0.fro 0, h.k1.fro 0, h.k2.fro 0, h.k3.fro 0⟩
def setIf (j : Bool) (w : World) (a : Addr) (v : Value) : World := if j then w.setCell a v else w
theorem Bk.setIf {t : TypeId} {w : World} {g : Nat} {cs : Array Value} (h : Bk t w g cs) (j : Bool) (a : Addr) (v : Value) (hn : g ≠ a.block) : Bk t (Go.Proofs.YtmoihgniglomiaaDoor.setIf j w a v) g cs := by
  cases j
  · exact h
  · exact h.oth hn
def WL (wc : World) (o : Obj) (b : Nat) (v0 v1 v2 : Value) (ja jb jc jd je : Bool) : World :=
  setIf je (setIf jd (setIf jc (setIf jb (if ja then wc.drew.alloc o else wc.drew) ⟨b, 0, none⟩ v0) ⟨b + 1, 0, none⟩ v1) ⟨b + 1 + 1, 0, none⟩ v2) ⟨b + 1 + 1 + 1, 0, none⟩ (.int .i64 0)
theorem Bk.wl {t : TypeId} {wc : World} {o : Obj} {b g : Nat} {v0 v1 v2 : Value} {cs : Array Value} (h : Bk t wc g cs) (n0 : g ≠ b) (n1 : g ≠ b + 1) (n2 : g ≠ b + 1 + 1) (n3 : g ≠ b + 1 + 1 + 1) (ja jb jc jd je : Bool) : Bk t (WL wc o b v0 v1 v2 ja jb jc jd je) g cs := by
  have hA : Bk t (if ja then wc.drew.alloc o else wc.drew) g cs := by cases ja <;> first | exact h.drew | exact h.drew.alloc
  exact (((hA.setIf jb ⟨b, 0, none⟩ v0 n0).setIf jc ⟨b + 1, 0, none⟩ v1 n1).setIf jd ⟨b + 1 + 1, 0, none⟩ v2 n2).setIf je ⟨b + 1 + 1 + 1, 0, none⟩ _ n3
theorem R4.set0 {w : World} {b : Nat} {v0 v1 v2 v3 : Value} (h : R4 w b v0 v1 v2 v3) (v : Value) : R4 (w.setCell ⟨b, 0, none⟩ v) b v v1 v2 v3 :=
  ⟨by have := Bk.same (i := 0) (v := v) h.k0; simpa using this, h.k1.oth (by simp), h.k2.oth (by first | omega | (simp; done) | (simp; omega)), h.k3.oth (by first | omega | (simp; done) | (simp; omega))⟩
theorem R4.set1 {w : World} {b : Nat} {v0 v1 v2 v3 : Value} (h : R4 w b v0 v1 v2 v3) (v : Value) : R4 (w.setCell ⟨b + 1, 0, none⟩ v) b v0 v v2 v3 :=
  ⟨h.k0.oth (by simp), by have := Bk.same (i := 0) (v := v) h.k1; simpa using this, h.k2.oth (by simp), h.k3.oth (by first | omega | (simp; done) | (simp; omega))⟩
theorem R4.set3 {w : World} {b : Nat} {v0 v1 v2 v3 : Value} (h : R4 w b v0 v1 v2 v3) (v : Value) : R4 (w.setCell ⟨b + 1 + 1 + 1, 0, none⟩ v) b v0 v1 v2 v :=
  ⟨h.k0.oth (by first | omega | (simp; done) | (simp; omega)), h.k1.oth (by first | omega | (simp; done) | (simp; omega)), h.k2.oth (by simp), by have := Bk.same (i := 0) (v := v) h.k3; simpa using this⟩
theorem R4.wl {wc : World} {o : Obj} {b : Nat} {u0 u1 u2 v0 v1 v2 : Value} (h : R4 wc b u0 u1 u2 (.int .i64 0)) (ja jb jc jd je : Bool) : R4 (WL wc o b v0 v1 v2 ja jb jc jd je) b (if jb then v0 else u0) (if jc then v1 else u1) (if jd then v2 else u2) (if je then .int .i64 0 else .int .i64 0) := by
  have hd : R4 wc.drew b u0 u1 u2 (.int .i64 0) := ⟨h.k0.drew, h.k1.drew, h.k2.drew, h.k3.drew⟩
  have hA : R4 (if ja then wc.drew.alloc o else wc.drew) b u0 u1 u2 (.int .i64 0) := by cases ja <;> first | exact hd | exact hd.alloc o
  have hB : R4 (setIf jb (if ja then wc.drew.alloc o else wc.drew) ⟨b, 0, none⟩ v0) b (if jb then v0 else u0) u1 u2 (.int .i64 0) := by cases jb <;> first | exact hA | exact hA.set0 v0
  have hC : R4 (setIf jc (setIf jb (if ja then wc.drew.alloc o else wc.drew) ⟨b, 0, none⟩ v0) ⟨b + 1, 0, none⟩ v1) b (if jb then v0 else u0) (if jc then v1 else u1) u2 (.int .i64 0) := by cases jc <;> first | exact hB | exact hB.set1 v1
  have hD : R4 (setIf jd (setIf jc (setIf jb (if ja then wc.drew.alloc o else wc.drew) ⟨b, 0, none⟩ v0) ⟨b + 1, 0, none⟩ v1) ⟨b + 1 + 1, 0, none⟩ v2) b (if jb then v0 else u0) (if jc then v1 else u1) (if jd then v2 else u2) (.int .i64 0) := by cases jd <;> first | exact hC | exact hC.set2 v2
  cases je <;> first | exact hD | exact hD.set3 _
set_option maxHeartbeats 16000000 in
theorem wopen_dead {w : World} {p : Fp} {S : St} (h : Dk w p S) (hT : Tb w) (hz : 0 ∉ p.own) (hg : S.gone = true) : Calls Tryd.prog 34 #[p.v] w fun e w' => ORes w p (2, (⟨0, 0, 0, false⟩, [], []), S) e w' := by
  have HZ := Lib.hid hT.1
  have M0 : Hid (Mut w p ((((w.alloc (.cells #[.pointer none] 35)).alloc (.cells #[.string ⟨#[]⟩] 9)).alloc (.cells #[.slice none 0 0] 31)).alloc (.cells #[.int .i64 0] 28)) p S) := Lib.hid (Mut.refl h (by go_grown))
  have K : Hid (R4 ((((w.alloc (.cells #[.pointer none] 35)).alloc (.cells #[.string ⟨#[]⟩] 9)).alloc (.cells #[.slice none 0 0] 31)).alloc (.cells #[.int .i64 0] 28)) w.heap.size (.pointer none) (.string ⟨#[]⟩) (.slice none 0 0) (.int .i64 0)) := Lib.hid ⟨Bk.alloc (Bk.alloc (Bk.alloc (Bk.new rfl))), Bk.alloc (Bk.alloc (Bk.new (by simp))), Bk.alloc (Bk.new (by simp)), Bk.new (by simp)⟩
  have HSZ : Hid (((((w.alloc (.cells #[.pointer none] 35)).alloc (.cells #[.string ⟨#[]⟩] 9)).alloc (.cells #[.slice none 0 0] 31)).alloc (.cells #[.int .i64 0] 28)).heap.size = w.heap.size + 4) := Lib.hid (by simp)
  have NO : Hid (w.heap.size ∉ p.own ∧ w.heap.size + 1 ∉ p.own ∧ w.heap.size + 1 + 1 ∉ p.own ∧ w.heap.size + 1 + 1 + 1 ∉ p.own) := Lib.hid ⟨fun hx => by have := h.lt _ hx; omega, fun hx => by have := h.lt _ hx; omega, fun hx => by have := h.lt _ hx; omega, fun hx => by have := h.lt _ hx; omega⟩
  have HTB := Lib.hid hT
  have HD := Lib.hid h
  have HZO := Lib.hid hz
  clear h hT hz
  go_enter_defers Tryd.func34, Tryd.ntmps34
  go_wp2_with fail
  generalize ((((w.alloc (.cells #[.pointer none] 35)).alloc (.cells #[.string ⟨#[]⟩] 9)).alloc (.cells #[.slice none 0 0] 31)).alloc (.cells #[.int .i64 0] 28)) = wa at M0 K HSZ ⊢
  refine (dead_any p S wa M0.out.1).mono ?_
  rintro e w1 ⟨rfl, rfl⟩
  rw [hg]
  obtain ⟨c0, c1, c2, c3⟩ := K.out.cells
  obtain ⟨f0, f1, f2, f3⟩ := K.out.fros
  go_wp2_with fail
  refine ⟨.tuple #[.pointer none, .string ⟨#[]⟩, .slice none 0 0, .int .i64 2], by simp [results, Tryd.results34, go_sem, c0, c1, c2, c3], .pointer none, .slice none 0 0, p, rfl, ?_, owns_nil9 _, (fun k hk => by cases hk), (fun h => absurd h (by simp)), fun _ => rfl⟩
  exact M0.out.own_set4 w.heap.size (Nat.le_refl _) NO.out.1 NO.out.2.1 NO.out.2.2.1 NO.out.2.2.2 _ _ _ _
set_option maxHeartbeats 16000000 in
theorem wopen_form {w : World} {p : Fp} {S : St} (h : Dk w p S) (hT : Tb w) (hz : 0 ∉ p.own) (hg : S.gone = false) (h0 : (newest S).2.1 = 0) : Calls Tryd.prog 34 #[p.v] w fun e w' => ORes w p (100, (⟨0, 0, 0, false⟩, [], []), S) e w' := by
  have HZ := Lib.hid hT.1
  have M0 : Hid (Mut w p ((((w.alloc (.cells #[.pointer none] 35)).alloc (.cells #[.string ⟨#[]⟩] 9)).alloc (.cells #[.slice none 0 0] 31)).alloc (.cells #[.int .i64 0] 28)) p S) := Lib.hid (Mut.refl h (by go_grown))
  have K : Hid (R4 ((((w.alloc (.cells #[.pointer none] 35)).alloc (.cells #[.string ⟨#[]⟩] 9)).alloc (.cells #[.slice none 0 0] 31)).alloc (.cells #[.int .i64 0] 28)) w.heap.size (.pointer none) (.string ⟨#[]⟩) (.slice none 0 0) (.int .i64 0)) := Lib.hid ⟨Bk.alloc (Bk.alloc (Bk.alloc (Bk.new rfl))), Bk.alloc (Bk.alloc (Bk.new (by simp))), Bk.alloc (Bk.new (by simp)), Bk.new (by simp)⟩
  have HSZ : Hid (((((w.alloc (.cells #[.pointer none] 35)).alloc (.cells #[.string ⟨#[]⟩] 9)).alloc (.cells #[.slice none 0 0] 31)).alloc (.cells #[.int .i64 0] 28)).heap.size = w.heap.size + 4) := Lib.hid (by simp)
  have NO : Hid (w.heap.size ∉ p.own ∧ w.heap.size + 1 ∉ p.own ∧ w.heap.size + 1 + 1 ∉ p.own ∧ w.heap.size + 1 + 1 + 1 ∉ p.own) := Lib.hid ⟨fun hx => by have := h.lt _ hx; omega, fun hx => by have := h.lt _ hx; omega, fun hx => by have := h.lt _ hx; omega, fun hx => by have := h.lt _ hx; omega⟩
  have HTB := Lib.hid hT
  have HD := Lib.hid h
  have HZO := Lib.hid hz
  have HN : Hid (∀ (w1 : World), Tb w1 → Dk w1 p S → Calls Tryd.prog 66 #[p.v] w1 fun e w' => e = .returned (.tuple #[.int .i64 ((newest S).1 : Int), begV (newest S).2]) ∧ Below w1.heap.size w1 w') := Lib.hid fun w1 ht hd => newest_any p S hg w1 ht hd
  generalize newest S = nn at *
  obtain ⟨f, g0, s0, b0⟩ := nn
  simp only at h0
  subst h0
  clear h hT hz
  go_enter_defers Tryd.func34, Tryd.ntmps34
  go_wp2_with fail
  generalize ((((w.alloc (.cells #[.pointer none] 35)).alloc (.cells #[.string ⟨#[]⟩] 9)).alloc (.cells #[.slice none 0 0] 31)).alloc (.cells #[.int .i64 0] 28)) = wa at M0 K HSZ ⊢
  refine (dead_any p S wa M0.out.1).mono ?_
  rintro e w1 ⟨rfl, rfl⟩
  rw [hg]
  go_wp2_with fail
  refine (HN.out wa (M0.out.tb HTB.out HZO.out) M0.out.1).mono ?_
  rintro e w2 ⟨rfl, hb⟩
  replace M0 := Lib.hid (M0.out.then_below hb)
  replace K := Lib.hid (K.out.below hb)
  have HS2 : Hid (w.heap.size + 4 ≤ w2.heap.size) := Lib.hid (by have := hb.size; have := HSZ.out; omega)
  clear hb HN HSZ
  unfold begV
  replace K := Lib.hid (K.out.alloc (.cells #[.int .i64 0, .string ⟨s0.toArray⟩, .string ⟨b0.toArray⟩] 115))
  have hbn : Below w2.heap.size w2 (w2.alloc (.cells #[.int .i64 0, .string ⟨s0.toArray⟩, .string ⟨b0.toArray⟩] 115)) := by go_grown
  replace M0 := Lib.hid (M0.out.then_below hbn)
  clear hbn
  obtain ⟨c0, c1, c2, c3⟩ := K.out.cells
  obtain ⟨f0, f1, f2, f3⟩ := K.out.fros
  go_wp2_with fail
  refine ⟨.tuple #[.pointer none, .string ⟨#[]⟩, .slice none 0 0, .int .i64 100], by simp [results, Tryd.results34, go_sem, c0, c1, c2, c3], .pointer none, .slice none 0 0, p, rfl, ?_, owns_nil9 _, (fun k hk => by cases hk), (fun h => absurd h (by simp)), fun _ => rfl⟩
  exact M0.out.own_set4 w.heap.size (Nat.le_refl _) NO.out.1 NO.out.2.1 NO.out.2.2.1 NO.out.2.2.2 _ _ _ _
set_option maxHeartbeats 32000000 in
theorem wopen_all {w : World} {p : Fp} {S : St} (h : Dk w p S) (hT : Tb w) (hz : 0 ∉ p.own) (hg : S.gone = false) (f : Nat) (g0 : Nat) (s0 b0 : Bs) (hn : newest S = (f, g0, s0, b0)) (hf2 : f < 2) (h0 : g0 ≠ 0) (hg62 : g0 ≤ 4611686018427387904) (hbl : b0.length ≤ 1048576) (X : Nat × (Wlg × Bs × List Bs) × St) (htl : (recsOf b0).2.length ≤ (S.file f).length)
    (x0 : (recsOf b0).2.length = 0 → (S.file (1 - f)).length = 0 → X = (0, (⟨f, g0, (recsOf b0).1.length, false⟩, s0, (recsOf b0).1), S))
    (x1 : (recsOf b0).2.length = 0 → (S.file (1 - f)).length > 0 → (S.cut (1 - f : Nat) 0).1 = 0 ∧ X = (0, (⟨f, g0, (recsOf b0).1.length, false⟩, s0, (recsOf b0).1), (S.cut (1 - f : Nat) 0).2) ∨ (S.cut (1 - f : Nat) 0).1 = 2 ∧ X = (2, (⟨0, 0, 0, false⟩, [], []), (S.cut (1 - f : Nat) 0).2))
    (x2 : (recsOf b0).2.length > 0 → (S.cut f ((S.file f).length - (recsOf b0).2.length : Nat)).1 = 0 ∧ (((S.cut f ((S.file f).length - (recsOf b0).2.length : Nat)).2.file (1 - f)).length = 0 → X = (0, (⟨f, g0, (recsOf b0).1.length, false⟩, s0, (recsOf b0).1), (S.cut f ((S.file f).length - (recsOf b0).2.length : Nat)).2)) ∧ (((S.cut f ((S.file f).length - (recsOf b0).2.length : Nat)).2.file (1 - f)).length > 0 → ((S.cut f ((S.file f).length - (recsOf b0).2.length : Nat)).2.cut (1 - f : Nat) 0).1 = 0 ∧ X = (0, (⟨f, g0, (recsOf b0).1.length, false⟩, s0, (recsOf b0).1), ((S.cut f ((S.file f).length - (recsOf b0).2.length : Nat)).2.cut (1 - f : Nat) 0).2) ∨ ((S.cut f ((S.file f).length - (recsOf b0).2.length : Nat)).2.cut (1 - f : Nat) 0).1 = 2 ∧ X = (2, (⟨0, 0, 0, false⟩, [], []), ((S.cut f ((S.file f).length - (recsOf b0).2.length : Nat)).2.cut (1 - f : Nat) 0).2)) ∨ (S.cut f ((S.file f).length - (recsOf b0).2.length : Nat)).1 = 2 ∧ X = (2, (⟨0, 0, 0, false⟩, [], []), (S.cut f ((S.file f).length - (recsOf b0).2.length : Nat)).2)) : Calls Tryd.prog 34 #[p.v] w fun e w' => ORes w p X e w' := by
  obtain ⟨nf, hnf⟩ : ∃ nf, nf = 1 - f := ⟨_, rfl⟩
  have hnf1 : (1 : Int) - (f : Int) = (nf : Int) := by omega
  have HN2 : Hid (nf < 2) := Lib.hid (by omega)
  rw [← hnf] at x0 x1 x2
  have HSZ : Hid (∀ (S1 : St) (g : Nat) (w1 : World) (p1 : Fp), g < 2 → p1.v = p.v → Dk w1 p1 S1 → Calls Tryd.prog 41 #[p.v, .int .i64 (g : Int)] w1 fun e w' => e = .returned (.int .i64 ((S1.file g).length : Int)) ∧ w1 = w') := Lib.hid fun S1 g w1 p1 hg hv hd => by
    have := size_any p1 S1 g w1 hd
    rw [hv, size_at _ _ hg] at this
    exact this
  have HCU : Hid (∀ (S1 : St) (g : Nat) (n : Int) (w1 : World) (p1 : Fp), p1.v = p.v → Dk w1 p1 S1 → (S1.cut g n).1 ≠ 92 → Calls Tryd.prog 69 #[p.v, .int .i64 (g : Int), .int .i64 n] w1 fun e w' => e = endOf (S1.cut g n).1 ∧ ∃ p', Mut w1 p1 w' p' (S1.cut g n).2) := Lib.hid fun S1 g n w1 p1 hv hd hc => by
    have := wcut_any p1 S1 g n w1 hd hc
    rw [hv] at this
    exact this
  have HSZ1 : Hid (∀ (w1 : World), Dk w1 p S → Calls Tryd.prog 41 #[p.v, .int .i64 (f : Int)] w1 fun e w' => e = .returned (.int .i64 ((S.file f).length : Int)) ∧ w1 = w') := Lib.hid fun w1 hd => HSZ.out S f w1 p hf2 rfl hd
  have hfl : ((S.file f).length : Int) ≤ 1048576 := by have := file_le h.wf f; omega
  have hsub : ((S.file f).length : Int) - ((recsOf b0).2.length : Int) = (((S.file f).length - (recsOf b0).2.length : Nat) : Int) := by omega
  have HC1 : Hid ((recsOf b0).2.length > 0 → (S.cut f ((S.file f).length - (recsOf b0).2.length : Nat)).1 ≠ 92 → ∀ (w1 : World), Dk w1 p S → Calls Tryd.prog 69 #[p.v, .int .i64 (f : Int), .int .i64 (((S.file f).length - (recsOf b0).2.length : Nat) : Int)] w1 fun e w' => e = endOf (S.cut f ((S.file f).length - (recsOf b0).2.length : Nat)).1 ∧ ∃ p', Mut w1 p w' p' (S.cut f ((S.file f).length - (recsOf b0).2.length : Nat)).2) := Lib.hid fun _ hc w1 hd => HCU.out S f _ w1 p rfl hd hc
  have HZ := Lib.hid hT.1
  have M0 : Hid (Mut w p ((((w.alloc (.cells #[.pointer none] 35)).alloc (.cells #[.string ⟨#[]⟩] 9)).alloc (.cells #[.slice none 0 0] 31)).alloc (.cells #[.int .i64 0] 28)) p S) := Lib.hid (Mut.refl h (by go_grown))
  have K : Hid (R4 ((((w.alloc (.cells #[.pointer none] 35)).alloc (.cells #[.string ⟨#[]⟩] 9)).alloc (.cells #[.slice none 0 0] 31)).alloc (.cells #[.int .i64 0] 28)) w.heap.size (.pointer none) (.string ⟨#[]⟩) (.slice none 0 0) (.int .i64 0)) := Lib.hid ⟨Bk.alloc (Bk.alloc (Bk.alloc (Bk.new rfl))), Bk.alloc (Bk.alloc (Bk.new (by simp))), Bk.alloc (Bk.new (by simp)), Bk.new (by simp)⟩
  have HSZ : Hid (((((w.alloc (.cells #[.pointer none] 35)).alloc (.cells #[.string ⟨#[]⟩] 9)).alloc (.cells #[.slice none 0 0] 31)).alloc (.cells #[.int .i64 0] 28)).heap.size = w.heap.size + 4) := Lib.hid (by simp)
  have NO : Hid (w.heap.size ∉ p.own ∧ w.heap.size + 1 ∉ p.own ∧ w.heap.size + 1 + 1 ∉ p.own ∧ w.heap.size + 1 + 1 + 1 ∉ p.own) := Lib.hid ⟨fun hx => by have := h.lt _ hx; omega, fun hx => by have := h.lt _ hx; omega, fun hx => by have := h.lt _ hx; omega, fun hx => by have := h.lt _ hx; omega⟩
  have HTB := Lib.hid hT
  have HD := Lib.hid h
  have HZO := Lib.hid hz
  have HN : Hid (∀ (w1 : World), Tb w1 → Dk w1 p S → Calls Tryd.prog 66 #[p.v] w1 fun e w' => e = .returned (.tuple #[.int .i64 ((newest S).1 : Int), begV (newest S).2]) ∧ Below w1.heap.size w1 w') := Lib.hid fun w1 ht hd => newest_any p S hg w1 ht hd
  rw [hn] at HN
  have hd0 : ((g0 : Int) == 0) = false := by simp; omega
  have HR : Hid (∀ (w1 : World), Tb w1 → Calls Tryd.prog 68 #[.string ⟨b0.toArray⟩] w1 fun e w' => ∃ v, e = .returned (.tuple #[v, .int .i64 ((recsOf b0).2.length : Int)]) ∧ Sr w1 w' v (recsOf b0).1) := Lib.hid fun w1 ht => records_any b0 hbl w1 ht
  have HF := Lib.hid (And.intro hf2 hg62)
  have hrl : 8 * (recsOf b0).1.length + (recsOf b0).2.length ≤ 1048576 := Nat.le_trans (recs_len _ _ (Nat.le_refl _)) hbl
  obtain ⟨torn, htorn⟩ : ∃ t, t = (recsOf b0).2.length := ⟨_, rfl⟩
  rw [← htorn] at x0 x1 x2 hsub htl HC1
  have htl0 : torn ≤ 1048576 := by rw [htorn]; omega
  rw [← htorn] at HR
  rw [← htorn] at hrl
  generalize (recsOf b0).1 = rs at *
  generalize hq1 : S.cut f ((S.file f).length - torn : Nat) = q1 at *
  generalize hcl : (S.file f).length - torn = cl at *
  generalize hfle : (S.file f).length = fl at *
  have HX0 := Lib.hid x0
  have HX1 := Lib.hid x1
  have HX2 := Lib.hid x2
  clear htorn hn h0 hbl hg62 hcl hfle hq1 x0 x1 x2 hnf htl
  have HRL := Lib.hid hrl
  clear hrl
  have hfi1 : (f : Int) < 2 := by omega
  have hfi0 : (0 : Int) ≤ (f : Int) := by omega
  have hto0 : (0 : Int) ≤ (torn : Int) := by omega
  have hto1 : (torn : Int) ≤ 1048576 := by omega
  clear htl0 hf2
  clear h hT hz
  go_enter_defers Tryd.func34, Tryd.ntmps34
  go_wp2_with fail
  generalize ((((w.alloc (.cells #[.pointer none] 35)).alloc (.cells #[.string ⟨#[]⟩] 9)).alloc (.cells #[.slice none 0 0] 31)).alloc (.cells #[.int .i64 0] 28)) = wa at M0 K HSZ ⊢
  refine (dead_any p S wa M0.out.1).mono ?_
  rintro e w1 ⟨rfl, rfl⟩
  rw [hg]
  go_wp2_with fail
  refine (HN.out wa (M0.out.tb HTB.out HZO.out) M0.out.1).mono ?_
  rintro e w2 ⟨rfl, hb⟩
  replace M0 := Lib.hid (M0.out.then_below hb)
  replace K := Lib.hid (K.out.below hb)
  have HS2 : Hid (w.heap.size + 4 ≤ w2.heap.size) := Lib.hid (by have := hb.size; have := HSZ.out; omega)
  clear hb HN HSZ
  unfold begV
  have K7 : Hid (Bk 115 (w2.alloc (.cells #[.int .i64 (g0 : Int), .string ⟨s0.toArray⟩, .string ⟨b0.toArray⟩] 115)) w2.heap.size #[.int .i64 (g0 : Int), .string ⟨s0.toArray⟩, .string ⟨b0.toArray⟩]) := Lib.hid (Bk.new rfl)
  have hbn : Below w2.heap.size w2 (w2.alloc (.cells #[.int .i64 (g0 : Int), .string ⟨s0.toArray⟩, .string ⟨b0.toArray⟩] 115)) := by go_grown
  have HS3 : Hid (w2.heap.size < (w2.alloc (.cells #[.int .i64 (g0 : Int), .string ⟨s0.toArray⟩, .string ⟨b0.toArray⟩] 115)).heap.size) := Lib.hid (by simp)
  have N7 : Hid (w2.heap.size ∉ p.own) := Lib.hid fun hx => by have := HD.out.lt _ hx; have := HS2.out; omega
  have e0 := K7.out.cell 0
  have e1 := K7.out.cell 1
  have e2 := K7.out.cell 2
  simp only [List.getElem?_toArray, List.getElem?_cons_succ, List.getElem?_cons_zero] at e0 e1 e2
  go_wp2_with fail
  clear e0 e1 e2
  replace M0 := Lib.hid (M0.out.then_below hbn)
  replace K := Lib.hid (K.out.alloc (.cells #[.int .i64 (g0 : Int), .string ⟨s0.toArray⟩, .string ⟨b0.toArray⟩] 115))
  clear hbn
  generalize (w2.alloc (.cells #[.int .i64 (g0 : Int), .string ⟨s0.toArray⟩, .string ⟨b0.toArray⟩] 115)) = w3 at *
  generalize w2.heap.size = b7 at *
  refine (HR.out w3 (M0.out.tb HTB.out HZO.out)).mono ?_
  rintro e w4 ⟨rv, rfl, hsr⟩
  obtain ⟨ra, rc, hrv⟩ := hsr.shape
  subst hrv
  replace M0 := Lib.hid (M0.out.then_below hsr.2.1)
  replace K := Lib.hid (K.out.below hsr.2.1)
  replace K7 := Lib.hid (K7.out.below hsr.2.1)
  have RW : Hid (w4.ownsRow 0 9 1 (.slice ra rs.length rc) rs.length (scells rs)) := Lib.hid hsr.1
  have RB : Hid (∀ k, (Value.slice ra rs.length rc).ownBlock = some k → w3.heap.size ≤ k ∧ k < w4.heap.size ∧ k ∉ p.own) := Lib.hid fun k hk => ⟨hsr.2.2 k hk, (hsr.1.lt k hk).2, fun hx => by have := HD.out.lt _ hx; have := HS2.out; have := HS3.out; have := hsr.2.2 k hk; omega⟩
  have HS4 : Hid (w3.heap.size ≤ w4.heap.size) := Lib.hid hsr.2.1.size
  clear hsr HR
  obtain ⟨c0, c1, c2, c3⟩ := K.out.cells
  obtain ⟨f0, f1, f2, f3⟩ := K.out.fros
  have e0 := K7.out.cell 0
  have e1 := K7.out.cell 1
  have e2 := K7.out.cell 2
  simp only [List.getElem?_toArray, List.getElem?_cons_succ, List.getElem?_cons_zero] at e0 e1 e2
  by_cases ht : torn = 0
  · have hdt : decide ((0 : Int) < (torn : Int)) = false := decide_eq_false (by omega)
    have hdtn : decide (0 < torn) = false := decide_eq_false (by omega)
    have HY := Lib.hid (And.intro (HX0.out ht) (HX1.out ht))
    clear HX0 HX1 HX2 HC1 HSZ1 ht
    go_wp2_with fail
    have hwx : ∃ wx, wx = w4.setCell ⟨w.heap.size + 1 + 1, 0, none⟩ (.slice ra rs.length rc) := ⟨_, rfl⟩
    obtain ⟨wx, hwx⟩ := hwx
    rw [← hwx]
    have m0 : Mut w p wx p S := by rw [hwx]; exact M0.out.own_set _ (by simp; omega) NO.out.2.2.1 _
    have k : R4 wx w.heap.size (.pointer none) (.string ⟨#[]⟩) (.slice ra rs.length rc) (.int .i64 0) := by rw [hwx]; exact K.out.set2 _
    have k7 : Bk 115 wx b7 #[.int .i64 (g0 : Int), .string ⟨s0.toArray⟩, .string ⟨b0.toArray⟩] := by rw [hwx]; exact K7.out.oth (by have := HS2.out; simp; omega)
    have rw5 : wx.ownsRow 0 9 1 (.slice ra rs.length rc) rs.length (scells rs) := by rw [hwx]; exact ownsS_of RW.out fun g hk _ => heap_setCell_other w4 _ g _ (by have := (RB.out g hk).1; have := HS2.out; have := HS3.out; simp; omega)
    have hs5 : wx.heap.size = w4.heap.size := by rw [hwx]; simp
    replace M0 := Lib.hid m0
    replace K := Lib.hid k
    replace K7 := Lib.hid k7
    replace RW := Lib.hid rw5
    replace HS4 : Hid (w3.heap.size ≤ wx.heap.size) := Lib.hid (by have := HS4.out; omega)
    replace RB : Hid (∀ k, (Value.slice ra rs.length rc).ownBlock = some k → w3.heap.size ≤ k ∧ k < wx.heap.size ∧ k ∉ p.own) := Lib.hid fun k hk => by rw [hs5]; exact RB.out k hk
    clear hwx m0 k k7 rw5 hs5 c0 c1 c2 c3 f0 f1 f2 f3 e0 e1 e2
    generalize hol : (S.file nf).length = ol at *
    refine ((HSZ.out S nf wx p HN2.out (by first | rfl | exact M0.out.v) M0.out.1)).mono ?_
    rintro e w6 ⟨rfl, rfl⟩
    rw [hol]
    clear hol
    by_cases ho : ol = 0
    · have hx := HY.out.1 ho
      subst hx
      have hdo : decide ((0 : Int) < (ol : Int)) = false := decide_eq_false (by omega)
      have hdon : decide (0 < ol) = false := decide_eq_false (by omega)
      clear ho
      have HLT : Hid (b7 < wx.heap.size ∧ w.heap.size + 4 ≤ b7) := Lib.hid (by have := HS2.out; have := HS3.out; have := HS4.out; omega)
      have N7' : Hid (b7 ≠ w.heap.size ∧ b7 ≠ w.heap.size + 1 ∧ b7 ≠ w.heap.size + 1 + 1 ∧ b7 ≠ w.heap.size + 1 + 1 + 1) := Lib.hid (by have := HLT.out; omega)
      have K7W : Hid (∀ a b c d e, Bk 115 ((WL wx (.cells #[.pointer (some ⟨p.b, 0, none⟩), .int .i64 (f : Int), .int .i64 (g0 : Int), .int .i64 (rs.length : Int), .bool false] 96) w.heap.size (.pointer (some ⟨wx.heap.size, 0, none⟩)) (.string ⟨s0.toArray⟩) (.slice ra rs.length rc)) a b c d e) b7 #[.int .i64 (g0 : Int), .string ⟨s0.toArray⟩, .string ⟨b0.toArray⟩]) := Lib.hid fun a b c d e => K7.out.wl N7'.out.1 N7'.out.2.1 N7'.out.2.2.1 N7'.out.2.2.2 a b c d e
      have KW : Hid (∀ a b c d e, R4 ((WL wx (.cells #[.pointer (some ⟨p.b, 0, none⟩), .int .i64 (f : Int), .int .i64 (g0 : Int), .int .i64 (rs.length : Int), .bool false] 96) w.heap.size (.pointer (some ⟨wx.heap.size, 0, none⟩)) (.string ⟨s0.toArray⟩) (.slice ra rs.length rc)) a b c d e) w.heap.size (if b then .pointer (some ⟨wx.heap.size, 0, none⟩) else .pointer none) (if c then .string ⟨s0.toArray⟩ else .string ⟨#[]⟩) (if d then .slice ra rs.length rc else .slice ra rs.length rc) (if e then .int .i64 0 else .int .i64 0)) := Lib.hid fun a b c d e => K.out.wl a b c d e
      go_wp2_with (refine rL (WL wx (.cells #[.pointer (some ⟨p.b, 0, none⟩), .int .i64 (f : Int), .int .i64 (g0 : Int), .int .i64 (rs.length : Int), .bool false] 96) w.heap.size (.pointer (some ⟨wx.heap.size, 0, none⟩)) (.string ⟨s0.toArray⟩) (.slice ra rs.length rc)) p.b w.heap.size (w.heap.size + 1) (w.heap.size + 1 + 1) (w.heap.size + 1 + 1 + 1) b7 wx.heap.size (f : Int) (g0 : Int) ra rs.length rc ⟨s0.toArray⟩ wx rfl (fun a b c d e => (K7W.out a b c d e).cell 0) (fun a b c d e => by have := (KW.out a b c d e).cells.2.2.1; simpa using this) (fun a b c d e => (K7W.out a b c d e).cell 1) rfl rfl ⟨_, (KW.out true false false false false).cells.1⟩ (KW.out true false false false false).fros.1 rfl ⟨_, (KW.out true true false false false).cells.2.1⟩ (KW.out true true false false false).fros.2.1 rfl ⟨_, (KW.out true true true false false).cells.2.2.1⟩ (KW.out true true true false false).fros.2.2.1 rfl ⟨_, (KW.out true true true true false).cells.2.2.2⟩ (KW.out true true true true false).fros.2.2.2 rfl ?_)
      have HNB : Hid (Bk 96 ((WL wx (.cells #[.pointer (some ⟨p.b, 0, none⟩), .int .i64 (f : Int), .int .i64 (g0 : Int), .int .i64 (rs.length : Int), .bool false] 96) w.heap.size (.pointer (some ⟨wx.heap.size, 0, none⟩)) (.string ⟨s0.toArray⟩) (.slice ra rs.length rc)) true true true true true) wx.heap.size #[.pointer (some ⟨p.b, 0, none⟩), .int .i64 (f : Int), .int .i64 (g0 : Int), .int .i64 (rs.length : Int), .bool false]) := Lib.hid (Bk.oth (by have := HLT.out; simp; omega) (Bk.oth (by have := HLT.out; simp; omega) (Bk.oth (by have := HLT.out; simp; omega) (Bk.oth (by have := HLT.out; simp; omega) (Bk.new (w := wx.drew) rfl)))))
      have M9 : Hid (Mut w p ((WL wx (.cells #[.pointer (some ⟨p.b, 0, none⟩), .int .i64 (f : Int), .int .i64 (g0 : Int), .int .i64 (rs.length : Int), .bool false] 96) w.heap.size (.pointer (some ⟨wx.heap.size, 0, none⟩)) (.string ⟨s0.toArray⟩) (.slice ra rs.length rc)) true true true true true) p S) := Lib.hid ((M0.out.drew.then_below (show Below wx.drew.heap.size wx.drew (wx.drew.alloc (.cells #[.pointer (some ⟨p.b, 0, none⟩), .int .i64 (f : Int), .int .i64 (g0 : Int), .int .i64 (rs.length : Int), .bool false] 96)) by go_grown)).own_set4 w.heap.size (Nat.le_refl _) NO.out.1 NO.out.2.1 NO.out.2.2.1 NO.out.2.2.2 _ _ _ _)
      have NBO : Hid (wx.heap.size ∉ p.own) := Lib.hid fun hx => by have := M0.out.1.lt _ hx; omega
      have RW9 : Hid (((WL wx (.cells #[.pointer (some ⟨p.b, 0, none⟩), .int .i64 (f : Int), .int .i64 (g0 : Int), .int .i64 (rs.length : Int), .bool false] 96) w.heap.size (.pointer (some ⟨wx.heap.size, 0, none⟩)) (.string ⟨s0.toArray⟩) (.slice ra rs.length rc)) true true true true true).ownsRow 0 9 1 (.slice ra rs.length rc) rs.length (scells rs)) := Lib.hid (ownsS_of RW.out fun g hk hl => by
        have h1 := (RB.out g hk).1
        have h2 := HLT.out
        have h3 := HS3.out
        refine (heap_setCell_other _ _ g _ (by simp; omega)).trans ((heap_setCell_other _ _ g _ (by simp; omega)).trans ((heap_setCell_other _ _ g _ (by simp; omega)).trans ((heap_setCell_other _ _ g _ (by simp; omega)).trans ?_)))
        exact (show Below wx.drew.heap.size wx.drew (wx.drew.alloc (.cells #[.pointer (some ⟨p.b, 0, none⟩), .int .i64 (f : Int), .int .i64 (g0 : Int), .int .i64 (rs.length : Int), .bool false] 96)) by go_grown).block g hl)
      have RB9 : Hid (∀ k, (Value.slice ra rs.length rc).ownBlock = some k → w.heap.size ≤ k ∧ k ∉ p.own ∧ k ≠ wx.heap.size) := Lib.hid fun k hk => ⟨by have := (RB.out k hk).1; have := HS2.out; have := HS3.out; omega, (RB.out k hk).2.2, by have := (RB.out k hk).2.1; omega⟩
      have K9 : Hid (R4 ((WL wx (.cells #[.pointer (some ⟨p.b, 0, none⟩), .int .i64 (f : Int), .int .i64 (g0 : Int), .int .i64 (rs.length : Int), .bool false] 96) w.heap.size (.pointer (some ⟨wx.heap.size, 0, none⟩)) (.string ⟨s0.toArray⟩) (.slice ra rs.length rc)) true true true true true) w.heap.size (.pointer (some ⟨wx.heap.size, 0, none⟩)) (.string ⟨s0.toArray⟩) (.slice ra rs.length rc) (.int .i64 0)) := Lib.hid (KW.out true true true true true)
      have HWB : Hid (w.heap.size ≤ wx.heap.size ∧ wx.heap.size ≠ 0) := Lib.hid (by have := HLT.out; have := HZ.out; omega)
      clear KW K7W K K7 RW RB
      generalize (WL wx (.cells #[.pointer (some ⟨p.b, 0, none⟩), .int .i64 (f : Int), .int .i64 (g0 : Int), .int .i64 (rs.length : Int), .bool false] 96) w.heap.size (.pointer (some ⟨wx.heap.size, 0, none⟩)) (.string ⟨s0.toArray⟩) (.slice ra rs.length rc)) true true true true true = w9 at *
      generalize wx.heap.size = bn at *
      obtain ⟨c0, c1, c2, c3⟩ := K9.out.cells
      refine leaves_cons (f := 67) (args := #[.pointer (some ⟨w.heap.size, 0, none⟩), .pointer (some ⟨w.heap.size + 1, 0, none⟩), .pointer (some ⟨w.heap.size + 1 + 1, 0, none⟩), .pointer (some ⟨w.heap.size + 1 + 1 + 1, 0, none⟩)]) (by simp) (by simp [go_sem]) ?_
      refine (catch67_idle _ _ _ _ w9).mono ?_
      rintro e u' w10 ⟨rfl, rfl, rfl⟩
      have hv : p.v = .pointer (some ⟨p.b, 0, none⟩) := by unfold Fp.v; rw [M9.out.2.1]
      exact ⟨.tuple #[.pointer (some ⟨bn, 0, none⟩), .string ⟨s0.toArray⟩, .slice ra rs.length rc, .int .i64 0], by simp [results, Tryd.results34, go_sem, c0, c1, c2, c3], .pointer (some ⟨bn, 0, none⟩), .slice ra rs.length rc, p, rfl, M9.out, RW9.out, fun k hk => ⟨(RB9.out k hk).1, (RB9.out k hk).2.1⟩, fun _ => ⟨bn, rfl, HWB.out.1, ⟨by rw [hv]; exact HNB.out, M9.out.1, NBO.out, HWB.out.2, M9.out.zero HZO.out HZ.out, HF.out.1, HF.out.2⟩, fun k hk => (RB9.out k hk).2.2⟩, fun h => absurd rfl h⟩
    · have hx := HY.out.2 (by omega)
      have HC2 := Lib.hid (HCU.out S nf 0 wx p (by first | rfl | exact M0.out.v) M0.out.1)
      generalize (S.cut nf 0) = q2 at hx HC2
      obtain ⟨d2, S3⟩ := q2
      simp only at hx HC2
      have hdo : decide ((0 : Int) < (ol : Int)) = true := decide_eq_true (by omega)
      have hdon : decide (0 < ol) = true := decide_eq_true (by omega)
      clear ho
      go_wp2_with fail
      refine (HC2.out (by rcases hx with ⟨e, _⟩ | ⟨e, _⟩ <;> rw [e] <;> decide)).mono ?_
      rintro e w7 ⟨rfl, p7, hm⟩
      have N7b : Hid (w.heap.size ∉ p7.own ∧ w.heap.size + 1 ∉ p7.own ∧ w.heap.size + 1 + 1 ∉ p7.own ∧ w.heap.size + 1 + 1 + 1 ∉ p7.own) := Lib.hid ⟨fun hx => (hm.2.2.2 _ hx).elim NO.out.1 (by have := HS2.out; have := HS3.out; have := HS4.out; omega), fun hx => (hm.2.2.2 _ hx).elim NO.out.2.1 (by have := HS2.out; have := HS3.out; have := HS4.out; omega), fun hx => (hm.2.2.2 _ hx).elim NO.out.2.2.1 (by have := HS2.out; have := HS3.out; have := HS4.out; omega), fun hx => (hm.2.2.2 _ hx).elim NO.out.2.2.2 (by have := HS2.out; have := HS3.out; have := HS4.out; omega)⟩
      replace K := Lib.hid (K.out.only hm.2.2.1 NO.out.1 NO.out.2.1 NO.out.2.2.1 NO.out.2.2.2)
      replace K7 := Lib.hid (K7.out.only hm.2.2.1 N7.out)
      replace N7 : Hid (b7 ∉ p7.own) := Lib.hid fun hx => (hm.2.2.2 _ hx).elim N7.out (by have := HS3.out; have := HS4.out; omega)
      replace RW := Lib.hid (ownsS_of RW.out fun g hk hl => hm.2.2.1.block g hl (RB.out g hk).2.2)
      replace RB : Hid (∀ k, (Value.slice ra rs.length rc).ownBlock = some k → w3.heap.size ≤ k ∧ k < w7.heap.size ∧ k ∉ p7.own) := Lib.hid fun k hk => ⟨(RB.out k hk).1, Nat.lt_of_lt_of_le (RB.out k hk).2.1 hm.2.2.1.size, fun hx => (hm.2.2.2 _ hx).elim (RB.out k hk).2.2 (by have := (RB.out k hk).2.1; omega)⟩
      replace HS4 : Hid (w3.heap.size ≤ w7.heap.size) := Lib.hid (Nat.le_trans HS4.out hm.2.2.1.size)
      have M7 : Hid (Mut w p w7 p7 S3) := Lib.hid (M0.out.trans hm)
      clear hm M0 NO
      obtain ⟨c0, c1, c2, c3⟩ := K.out.cells
      obtain ⟨f0, f1, f2, f3⟩ := K.out.fros
      rcases hx with ⟨rfl, hx⟩ | ⟨rfl, hx⟩
      · subst hx
        rw [endOf, if_pos rfl]
        clear c0 c1 c2 c3 f0 f1 f2 f3
        have HLT : Hid (b7 < w7.heap.size ∧ w.heap.size + 4 ≤ b7) := Lib.hid (by have := HS2.out; have := HS3.out; have := HS4.out; omega)
        have N7' : Hid (b7 ≠ w.heap.size ∧ b7 ≠ w.heap.size + 1 ∧ b7 ≠ w.heap.size + 1 + 1 ∧ b7 ≠ w.heap.size + 1 + 1 + 1) := Lib.hid (by have := HLT.out; omega)
        have K7W : Hid (∀ a b c d e, Bk 115 ((WL w7 (.cells #[.pointer (some ⟨p.b, 0, none⟩), .int .i64 (f : Int), .int .i64 (g0 : Int), .int .i64 (rs.length : Int), .bool false] 96) w.heap.size (.pointer (some ⟨w7.heap.size, 0, none⟩)) (.string ⟨s0.toArray⟩) (.slice ra rs.length rc)) a b c d e) b7 #[.int .i64 (g0 : Int), .string ⟨s0.toArray⟩, .string ⟨b0.toArray⟩]) := Lib.hid fun a b c d e => K7.out.wl N7'.out.1 N7'.out.2.1 N7'.out.2.2.1 N7'.out.2.2.2 a b c d e
        have KW : Hid (∀ a b c d e, R4 ((WL w7 (.cells #[.pointer (some ⟨p.b, 0, none⟩), .int .i64 (f : Int), .int .i64 (g0 : Int), .int .i64 (rs.length : Int), .bool false] 96) w.heap.size (.pointer (some ⟨w7.heap.size, 0, none⟩)) (.string ⟨s0.toArray⟩) (.slice ra rs.length rc)) a b c d e) w.heap.size (if b then .pointer (some ⟨w7.heap.size, 0, none⟩) else .pointer none) (if c then .string ⟨s0.toArray⟩ else .string ⟨#[]⟩) (if d then .slice ra rs.length rc else .slice ra rs.length rc) (if e then .int .i64 0 else .int .i64 0)) := Lib.hid fun a b c d e => K.out.wl a b c d e
        go_wp2_with (refine rL (WL w7 (.cells #[.pointer (some ⟨p.b, 0, none⟩), .int .i64 (f : Int), .int .i64 (g0 : Int), .int .i64 (rs.length : Int), .bool false] 96) w.heap.size (.pointer (some ⟨w7.heap.size, 0, none⟩)) (.string ⟨s0.toArray⟩) (.slice ra rs.length rc)) p.b w.heap.size (w.heap.size + 1) (w.heap.size + 1 + 1) (w.heap.size + 1 + 1 + 1) b7 w7.heap.size (f : Int) (g0 : Int) ra rs.length rc ⟨s0.toArray⟩ w7 rfl (fun a b c d e => (K7W.out a b c d e).cell 0) (fun a b c d e => by have := (KW.out a b c d e).cells.2.2.1; simpa using this) (fun a b c d e => (K7W.out a b c d e).cell 1) rfl rfl ⟨_, (KW.out true false false false false).cells.1⟩ (KW.out true false false false false).fros.1 rfl ⟨_, (KW.out true true false false false).cells.2.1⟩ (KW.out true true false false false).fros.2.1 rfl ⟨_, (KW.out true true true false false).cells.2.2.1⟩ (KW.out true true true false false).fros.2.2.1 rfl ⟨_, (KW.out true true true true false).cells.2.2.2⟩ (KW.out true true true true false).fros.2.2.2 rfl ?_)
        have HNB : Hid (Bk 96 ((WL w7 (.cells #[.pointer (some ⟨p.b, 0, none⟩), .int .i64 (f : Int), .int .i64 (g0 : Int), .int .i64 (rs.length : Int), .bool false] 96) w.heap.size (.pointer (some ⟨w7.heap.size, 0, none⟩)) (.string ⟨s0.toArray⟩) (.slice ra rs.length rc)) true true true true true) w7.heap.size #[.pointer (some ⟨p.b, 0, none⟩), .int .i64 (f : Int), .int .i64 (g0 : Int), .int .i64 (rs.length : Int), .bool false]) := Lib.hid (Bk.oth (by have := HLT.out; simp; omega) (Bk.oth (by have := HLT.out; simp; omega) (Bk.oth (by have := HLT.out; simp; omega) (Bk.oth (by have := HLT.out; simp; omega) (Bk.new (w := w7.drew) rfl)))))
        have M9 : Hid (Mut w p ((WL w7 (.cells #[.pointer (some ⟨p.b, 0, none⟩), .int .i64 (f : Int), .int .i64 (g0 : Int), .int .i64 (rs.length : Int), .bool false] 96) w.heap.size (.pointer (some ⟨w7.heap.size, 0, none⟩)) (.string ⟨s0.toArray⟩) (.slice ra rs.length rc)) true true true true true) p7 S3) := Lib.hid ((M7.out.drew.then_below (show Below w7.drew.heap.size w7.drew (w7.drew.alloc (.cells #[.pointer (some ⟨p.b, 0, none⟩), .int .i64 (f : Int), .int .i64 (g0 : Int), .int .i64 (rs.length : Int), .bool false] 96)) by go_grown)).own_set4 w.heap.size (Nat.le_refl _) N7b.out.1 N7b.out.2.1 N7b.out.2.2.1 N7b.out.2.2.2 _ _ _ _)
        have NBO : Hid (w7.heap.size ∉ p7.own) := Lib.hid fun hx => by have := M7.out.1.lt _ hx; omega
        have RW9 : Hid (((WL w7 (.cells #[.pointer (some ⟨p.b, 0, none⟩), .int .i64 (f : Int), .int .i64 (g0 : Int), .int .i64 (rs.length : Int), .bool false] 96) w.heap.size (.pointer (some ⟨w7.heap.size, 0, none⟩)) (.string ⟨s0.toArray⟩) (.slice ra rs.length rc)) true true true true true).ownsRow 0 9 1 (.slice ra rs.length rc) rs.length (scells rs)) := Lib.hid (ownsS_of RW.out fun g hk hl => by
          have h1 := (RB.out g hk).1
          have h2 := HLT.out
          have h3 := HS3.out
          refine (heap_setCell_other _ _ g _ (by simp; omega)).trans ((heap_setCell_other _ _ g _ (by simp; omega)).trans ((heap_setCell_other _ _ g _ (by simp; omega)).trans ((heap_setCell_other _ _ g _ (by simp; omega)).trans ?_)))
          exact (show Below w7.drew.heap.size w7.drew (w7.drew.alloc (.cells #[.pointer (some ⟨p.b, 0, none⟩), .int .i64 (f : Int), .int .i64 (g0 : Int), .int .i64 (rs.length : Int), .bool false] 96)) by go_grown).block g hl)
        have RB9 : Hid (∀ k, (Value.slice ra rs.length rc).ownBlock = some k → w.heap.size ≤ k ∧ k ∉ p7.own ∧ k ≠ w7.heap.size) := Lib.hid fun k hk => ⟨by have := (RB.out k hk).1; have := HS2.out; have := HS3.out; omega, (RB.out k hk).2.2, by have := (RB.out k hk).2.1; omega⟩
        have K9 : Hid (R4 ((WL w7 (.cells #[.pointer (some ⟨p.b, 0, none⟩), .int .i64 (f : Int), .int .i64 (g0 : Int), .int .i64 (rs.length : Int), .bool false] 96) w.heap.size (.pointer (some ⟨w7.heap.size, 0, none⟩)) (.string ⟨s0.toArray⟩) (.slice ra rs.length rc)) true true true true true) w.heap.size (.pointer (some ⟨w7.heap.size, 0, none⟩)) (.string ⟨s0.toArray⟩) (.slice ra rs.length rc) (.int .i64 0)) := Lib.hid (KW.out true true true true true)
        have HWB : Hid (w.heap.size ≤ w7.heap.size ∧ w7.heap.size ≠ 0) := Lib.hid (by have := HLT.out; have := HZ.out; omega)
        clear KW K7W K K7 RW RB
        generalize (WL w7 (.cells #[.pointer (some ⟨p.b, 0, none⟩), .int .i64 (f : Int), .int .i64 (g0 : Int), .int .i64 (rs.length : Int), .bool false] 96) w.heap.size (.pointer (some ⟨w7.heap.size, 0, none⟩)) (.string ⟨s0.toArray⟩) (.slice ra rs.length rc)) true true true true true = w9 at *
        generalize w7.heap.size = bn at *
        obtain ⟨c0, c1, c2, c3⟩ := K9.out.cells
        refine leaves_cons (f := 67) (args := #[.pointer (some ⟨w.heap.size, 0, none⟩), .pointer (some ⟨w.heap.size + 1, 0, none⟩), .pointer (some ⟨w.heap.size + 1 + 1, 0, none⟩), .pointer (some ⟨w.heap.size + 1 + 1 + 1, 0, none⟩)]) (by simp) (by simp [go_sem]) ?_
        refine (catch67_idle _ _ _ _ w9).mono ?_
        rintro e u' w10 ⟨rfl, rfl, rfl⟩
        have hv : p7.v = .pointer (some ⟨p.b, 0, none⟩) := by unfold Fp.v; rw [M9.out.2.1]
        exact ⟨.tuple #[.pointer (some ⟨bn, 0, none⟩), .string ⟨s0.toArray⟩, .slice ra rs.length rc, .int .i64 0], by simp [results, Tryd.results34, go_sem, c0, c1, c2, c3], .pointer (some ⟨bn, 0, none⟩), .slice ra rs.length rc, p7, rfl, M9.out, RW9.out, fun k hk => ⟨(RB9.out k hk).1, (RB9.out k hk).2.1⟩, fun _ => ⟨bn, rfl, HWB.out.1, ⟨by rw [hv]; exact HNB.out, M9.out.1, NBO.out, HWB.out.2, M9.out.zero HZO.out HZ.out, HF.out.1, HF.out.2⟩, fun k hk => (RB9.out k hk).2.2⟩, fun h => absurd rfl h⟩
      · subst hx
        rw [endOf_no (by decide)]
        go_wp2_with fail
        refine leaves_cons (f := 67) (args := #[.pointer (some ⟨w.heap.size, 0, none⟩), .pointer (some ⟨w.heap.size + 1, 0, none⟩), .pointer (some ⟨w.heap.size + 1 + 1, 0, none⟩), .pointer (some ⟨w.heap.size + 1 + 1 + 1, 0, none⟩)]) (by simp) (by simp [go_sem]) ?_
        refine (catch67_panicking w.heap.size (w.heap.size + 1) (w.heap.size + 1 + 1) (w.heap.size + 1 + 1 + 1) 2 [] w7 _ _ _ _ c0 c1 c2 c3 f0 f1 f2 f3 (by omega) (by omega) (by omega) (by omega) (by omega) (by omega)).mono ?_
        rintro e u' w9 ⟨rfl, rfl, rfl⟩
        refine ⟨.tuple #[.pointer none, .string ⟨#[]⟩, .slice none 0 0, .int .i64 2], by simp [results, Tryd.results34, go_sem, c0, c1, c2, c3], .pointer none, .slice none 0 0, p7, rfl, ?_, owns_nil9 _, (fun k hk => by cases hk), (fun h => absurd h (by simp)), fun _ => rfl⟩
        exact (M7.out.own_set4 w.heap.size (Nat.le_refl _) N7b.out.1 N7b.out.2.1 N7b.out.2.2.1 N7b.out.2.2.2 _ _ _ _).drew
  · have hdt : decide ((0 : Int) < (torn : Int)) = true := decide_eq_true (by omega)
    have hdtn : decide (0 < torn) = true := decide_eq_true (by omega)
    have hx := HX2.out (by omega)
    obtain ⟨d1, S2⟩ := q1
    simp only at hx HC1
    have HC := Lib.hid (HC1.out (by omega) (by rcases hx with ⟨e, _⟩ | ⟨e, _⟩ <;> rw [e] <;> decide))
    have HY := Lib.hid hx
    clear HX0 HX1 HX2 HC1 ht hx
    go_wp2_with fail
    have hwx : ∃ wx, wx = w4.setCell ⟨w.heap.size + 1 + 1, 0, none⟩ (.slice ra rs.length rc) := ⟨_, rfl⟩
    obtain ⟨wx, hwx⟩ := hwx
    rw [← hwx]
    have m0 : Mut w p wx p S := by rw [hwx]; exact M0.out.own_set _ (by simp; omega) NO.out.2.2.1 _
    have k : R4 wx w.heap.size (.pointer none) (.string ⟨#[]⟩) (.slice ra rs.length rc) (.int .i64 0) := by rw [hwx]; exact K.out.set2 _
    have k7 : Bk 115 wx b7 #[.int .i64 (g0 : Int), .string ⟨s0.toArray⟩, .string ⟨b0.toArray⟩] := by rw [hwx]; exact K7.out.oth (by have := HS2.out; simp; omega)
    have rw5 : wx.ownsRow 0 9 1 (.slice ra rs.length rc) rs.length (scells rs) := by rw [hwx]; exact ownsS_of RW.out fun g hk _ => heap_setCell_other w4 _ g _ (by have := (RB.out g hk).1; have := HS2.out; have := HS3.out; simp; omega)
    have hs5 : wx.heap.size = w4.heap.size := by rw [hwx]; simp
    replace M0 := Lib.hid m0
    replace K := Lib.hid k
    replace K7 := Lib.hid k7
    replace RW := Lib.hid rw5
    replace HS4 : Hid (w3.heap.size ≤ wx.heap.size) := Lib.hid (by have := HS4.out; omega)
    replace RB : Hid (∀ k, (Value.slice ra rs.length rc).ownBlock = some k → w3.heap.size ≤ k ∧ k < wx.heap.size ∧ k ∉ p.own) := Lib.hid fun k hk => by rw [hs5]; exact RB.out k hk
    clear hwx m0 k k7 rw5 hs5 c0 c1 c2 c3 f0 f1 f2 f3 e0 e1 e2
    obtain ⟨c0, c1, c2, c3⟩ := K.out.cells
    obtain ⟨f0, f1, f2, f3⟩ := K.out.fros
    refine (HSZ1.out wx M0.out.1).mono ?_
    rintro e w5 ⟨rfl, rfl⟩
    go_wp2_with fail
    refine (HC.out wx M0.out.1).mono ?_
    rintro e w5 ⟨rfl, p5, hm⟩
    have N5 : Hid (w.heap.size ∉ p5.own ∧ w.heap.size + 1 ∉ p5.own ∧ w.heap.size + 1 + 1 ∉ p5.own ∧ w.heap.size + 1 + 1 + 1 ∉ p5.own) := Lib.hid ⟨fun hx => (hm.2.2.2 _ hx).elim NO.out.1 (by have := HS2.out; have := HS3.out; have := HS4.out; omega), fun hx => (hm.2.2.2 _ hx).elim NO.out.2.1 (by have := HS2.out; have := HS3.out; have := HS4.out; omega), fun hx => (hm.2.2.2 _ hx).elim NO.out.2.2.1 (by have := HS2.out; have := HS3.out; have := HS4.out; omega), fun hx => (hm.2.2.2 _ hx).elim NO.out.2.2.2 (by have := HS2.out; have := HS3.out; have := HS4.out; omega)⟩
    replace K := Lib.hid (K.out.only hm.2.2.1 NO.out.1 NO.out.2.1 NO.out.2.2.1 NO.out.2.2.2)
    replace K7 := Lib.hid (K7.out.only hm.2.2.1 N7.out)
    replace N7 : Hid (b7 ∉ p5.own) := Lib.hid fun hx => (hm.2.2.2 _ hx).elim N7.out (by have := HS3.out; have := HS4.out; omega)
    replace RW := Lib.hid (ownsS_of RW.out fun g hk hl => hm.2.2.1.block g hl (RB.out g hk).2.2)
    replace RB : Hid (∀ k, (Value.slice ra rs.length rc).ownBlock = some k → w3.heap.size ≤ k ∧ k < w5.heap.size ∧ k ∉ p5.own) := Lib.hid fun k hk => ⟨(RB.out k hk).1, Nat.lt_of_lt_of_le (RB.out k hk).2.1 hm.2.2.1.size, fun hx => (hm.2.2.2 _ hx).elim (RB.out k hk).2.2 (by have := (RB.out k hk).2.1; omega)⟩
    replace HS4 : Hid (w3.heap.size ≤ w5.heap.size) := Lib.hid (Nat.le_trans HS4.out hm.2.2.1.size)
    have M5 : Hid (Mut w p w5 p5 S2) := Lib.hid (M0.out.trans hm)
    clear hm M0 NO
    clear c0 c1 c2 c3 f0 f1 f2 f3
    obtain ⟨c0, c1, c2, c3⟩ := K.out.cells
    obtain ⟨f0, f1, f2, f3⟩ := K.out.fros
    rcases HY.out with ⟨rfl, hx⟩ | ⟨rfl, hx⟩
    · clear HY
      have HY := Lib.hid hx
      clear hx
      rw [endOf, if_pos rfl]
      go_wp2_with fail
      clear c0 c1 c2 c3 f0 f1 f2 f3
      generalize hol : (S2.file nf).length = ol at *
      refine ((HSZ.out S2 nf w5 p5 HN2.out (by first | rfl | exact M5.out.v) M5.out.1)).mono ?_
      rintro e w6 ⟨rfl, rfl⟩
      rw [hol]
      clear hol
      by_cases ho : ol = 0
      · have hx := HY.out.1 ho
        subst hx
        have hdo : decide ((0 : Int) < (ol : Int)) = false := decide_eq_false (by omega)
        have hdon : decide (0 < ol) = false := decide_eq_false (by omega)
        clear ho
        have HLT : Hid (b7 < w5.heap.size ∧ w.heap.size + 4 ≤ b7) := Lib.hid (by have := HS2.out; have := HS3.out; have := HS4.out; omega)
        have N7' : Hid (b7 ≠ w.heap.size ∧ b7 ≠ w.heap.size + 1 ∧ b7 ≠ w.heap.size + 1 + 1 ∧ b7 ≠ w.heap.size + 1 + 1 + 1) := Lib.hid (by have := HLT.out; omega)
        have K7W : Hid (∀ a b c d e, Bk 115 ((WL w5 (.cells #[.pointer (some ⟨p.b, 0, none⟩), .int .i64 (f : Int), .int .i64 (g0 : Int), .int .i64 (rs.length : Int), .bool false] 96) w.heap.size (.pointer (some ⟨w5.heap.size, 0, none⟩)) (.string ⟨s0.toArray⟩) (.slice ra rs.length rc)) a b c d e) b7 #[.int .i64 (g0 : Int), .string ⟨s0.toArray⟩, .string ⟨b0.toArray⟩]) := Lib.hid fun a b c d e => K7.out.wl N7'.out.1 N7'.out.2.1 N7'.out.2.2.1 N7'.out.2.2.2 a b c d e
        have KW : Hid (∀ a b c d e, R4 ((WL w5 (.cells #[.pointer (some ⟨p.b, 0, none⟩), .int .i64 (f : Int), .int .i64 (g0 : Int), .int .i64 (rs.length : Int), .bool false] 96) w.heap.size (.pointer (some ⟨w5.heap.size, 0, none⟩)) (.string ⟨s0.toArray⟩) (.slice ra rs.length rc)) a b c d e) w.heap.size (if b then .pointer (some ⟨w5.heap.size, 0, none⟩) else .pointer none) (if c then .string ⟨s0.toArray⟩ else .string ⟨#[]⟩) (if d then .slice ra rs.length rc else .slice ra rs.length rc) (if e then .int .i64 0 else .int .i64 0)) := Lib.hid fun a b c d e => K.out.wl a b c d e
        go_wp2_with (refine rL (WL w5 (.cells #[.pointer (some ⟨p.b, 0, none⟩), .int .i64 (f : Int), .int .i64 (g0 : Int), .int .i64 (rs.length : Int), .bool false] 96) w.heap.size (.pointer (some ⟨w5.heap.size, 0, none⟩)) (.string ⟨s0.toArray⟩) (.slice ra rs.length rc)) p.b w.heap.size (w.heap.size + 1) (w.heap.size + 1 + 1) (w.heap.size + 1 + 1 + 1) b7 w5.heap.size (f : Int) (g0 : Int) ra rs.length rc ⟨s0.toArray⟩ w5 rfl (fun a b c d e => (K7W.out a b c d e).cell 0) (fun a b c d e => by have := (KW.out a b c d e).cells.2.2.1; simpa using this) (fun a b c d e => (K7W.out a b c d e).cell 1) rfl rfl ⟨_, (KW.out true false false false false).cells.1⟩ (KW.out true false false false false).fros.1 rfl ⟨_, (KW.out true true false false false).cells.2.1⟩ (KW.out true true false false false).fros.2.1 rfl ⟨_, (KW.out true true true false false).cells.2.2.1⟩ (KW.out true true true false false).fros.2.2.1 rfl ⟨_, (KW.out true true true true false).cells.2.2.2⟩ (KW.out true true true true false).fros.2.2.2 rfl ?_)
        have HNB : Hid (Bk 96 ((WL w5 (.cells #[.pointer (some ⟨p.b, 0, none⟩), .int .i64 (f : Int), .int .i64 (g0 : Int), .int .i64 (rs.length : Int), .bool false] 96) w.heap.size (.pointer (some ⟨w5.heap.size, 0, none⟩)) (.string ⟨s0.toArray⟩) (.slice ra rs.length rc)) true true true true true) w5.heap.size #[.pointer (some ⟨p.b, 0, none⟩), .int .i64 (f : Int), .int .i64 (g0 : Int), .int .i64 (rs.length : Int), .bool false]) := Lib.hid (Bk.oth (by have := HLT.out; simp; omega) (Bk.oth (by have := HLT.out; simp; omega) (Bk.oth (by have := HLT.out; simp; omega) (Bk.oth (by have := HLT.out; simp; omega) (Bk.new (w := w5.drew) rfl)))))
        have M9 : Hid (Mut w p ((WL w5 (.cells #[.pointer (some ⟨p.b, 0, none⟩), .int .i64 (f : Int), .int .i64 (g0 : Int), .int .i64 (rs.length : Int), .bool false] 96) w.heap.size (.pointer (some ⟨w5.heap.size, 0, none⟩)) (.string ⟨s0.toArray⟩) (.slice ra rs.length rc)) true true true true true) p5 S2) := Lib.hid ((M5.out.drew.then_below (show Below w5.drew.heap.size w5.drew (w5.drew.alloc (.cells #[.pointer (some ⟨p.b, 0, none⟩), .int .i64 (f : Int), .int .i64 (g0 : Int), .int .i64 (rs.length : Int), .bool false] 96)) by go_grown)).own_set4 w.heap.size (Nat.le_refl _) N5.out.1 N5.out.2.1 N5.out.2.2.1 N5.out.2.2.2 _ _ _ _)
        have NBO : Hid (w5.heap.size ∉ p5.own) := Lib.hid fun hx => by have := M5.out.1.lt _ hx; omega
        have RW9 : Hid (((WL w5 (.cells #[.pointer (some ⟨p.b, 0, none⟩), .int .i64 (f : Int), .int .i64 (g0 : Int), .int .i64 (rs.length : Int), .bool false] 96) w.heap.size (.pointer (some ⟨w5.heap.size, 0, none⟩)) (.string ⟨s0.toArray⟩) (.slice ra rs.length rc)) true true true true true).ownsRow 0 9 1 (.slice ra rs.length rc) rs.length (scells rs)) := Lib.hid (ownsS_of RW.out fun g hk hl => by
          have h1 := (RB.out g hk).1
          have h2 := HLT.out
          have h3 := HS3.out
          refine (heap_setCell_other _ _ g _ (by simp; omega)).trans ((heap_setCell_other _ _ g _ (by simp; omega)).trans ((heap_setCell_other _ _ g _ (by simp; omega)).trans ((heap_setCell_other _ _ g _ (by simp; omega)).trans ?_)))
          exact (show Below w5.drew.heap.size w5.drew (w5.drew.alloc (.cells #[.pointer (some ⟨p.b, 0, none⟩), .int .i64 (f : Int), .int .i64 (g0 : Int), .int .i64 (rs.length : Int), .bool false] 96)) by go_grown).block g hl)
        have RB9 : Hid (∀ k, (Value.slice ra rs.length rc).ownBlock = some k → w.heap.size ≤ k ∧ k ∉ p5.own ∧ k ≠ w5.heap.size) := Lib.hid fun k hk => ⟨by have := (RB.out k hk).1; have := HS2.out; have := HS3.out; omega, (RB.out k hk).2.2, by have := (RB.out k hk).2.1; omega⟩
        have K9 : Hid (R4 ((WL w5 (.cells #[.pointer (some ⟨p.b, 0, none⟩), .int .i64 (f : Int), .int .i64 (g0 : Int), .int .i64 (rs.length : Int), .bool false] 96) w.heap.size (.pointer (some ⟨w5.heap.size, 0, none⟩)) (.string ⟨s0.toArray⟩) (.slice ra rs.length rc)) true true true true true) w.heap.size (.pointer (some ⟨w5.heap.size, 0, none⟩)) (.string ⟨s0.toArray⟩) (.slice ra rs.length rc) (.int .i64 0)) := Lib.hid (KW.out true true true true true)
        have HWB : Hid (w.heap.size ≤ w5.heap.size ∧ w5.heap.size ≠ 0) := Lib.hid (by have := HLT.out; have := HZ.out; omega)
        clear KW K7W K K7 RW RB
        generalize (WL w5 (.cells #[.pointer (some ⟨p.b, 0, none⟩), .int .i64 (f : Int), .int .i64 (g0 : Int), .int .i64 (rs.length : Int), .bool false] 96) w.heap.size (.pointer (some ⟨w5.heap.size, 0, none⟩)) (.string ⟨s0.toArray⟩) (.slice ra rs.length rc)) true true true true true = w9 at *
        generalize w5.heap.size = bn at *
        obtain ⟨c0, c1, c2, c3⟩ := K9.out.cells
        refine leaves_cons (f := 67) (args := #[.pointer (some ⟨w.heap.size, 0, none⟩), .pointer (some ⟨w.heap.size + 1, 0, none⟩), .pointer (some ⟨w.heap.size + 1 + 1, 0, none⟩), .pointer (some ⟨w.heap.size + 1 + 1 + 1, 0, none⟩)]) (by simp) (by simp [go_sem]) ?_
        refine (catch67_idle _ _ _ _ w9).mono ?_
        rintro e u' w10 ⟨rfl, rfl, rfl⟩
        have hv : p5.v = .pointer (some ⟨p.b, 0, none⟩) := by unfold Fp.v; rw [M9.out.2.1]
        exact ⟨.tuple #[.pointer (some ⟨bn, 0, none⟩), .string ⟨s0.toArray⟩, .slice ra rs.length rc, .int .i64 0], by simp [results, Tryd.results34, go_sem, c0, c1, c2, c3], .pointer (some ⟨bn, 0, none⟩), .slice ra rs.length rc, p5, rfl, M9.out, RW9.out, fun k hk => ⟨(RB9.out k hk).1, (RB9.out k hk).2.1⟩, fun _ => ⟨bn, rfl, HWB.out.1, ⟨by rw [hv]; exact HNB.out, M9.out.1, NBO.out, HWB.out.2, M9.out.zero HZO.out HZ.out, HF.out.1, HF.out.2⟩, fun k hk => (RB9.out k hk).2.2⟩, fun h => absurd rfl h⟩
      · have hx := HY.out.2 (by omega)
        have HC2 := Lib.hid (HCU.out S2 nf 0 w5 p5 (by first | rfl | exact M5.out.v) M5.out.1)
        generalize (S2.cut nf 0) = q2 at hx HC2
        obtain ⟨d2, S3⟩ := q2
        simp only at hx HC2
        have hdo : decide ((0 : Int) < (ol : Int)) = true := decide_eq_true (by omega)
        have hdon : decide (0 < ol) = true := decide_eq_true (by omega)
        clear ho
        go_wp2_with fail
        refine (HC2.out (by rcases hx with ⟨e, _⟩ | ⟨e, _⟩ <;> rw [e] <;> decide)).mono ?_
        rintro e w7 ⟨rfl, p7, hm⟩
        have N7b : Hid (w.heap.size ∉ p7.own ∧ w.heap.size + 1 ∉ p7.own ∧ w.heap.size + 1 + 1 ∉ p7.own ∧ w.heap.size + 1 + 1 + 1 ∉ p7.own) := Lib.hid ⟨fun hx => (hm.2.2.2 _ hx).elim N5.out.1 (by have := HS2.out; have := HS3.out; have := HS4.out; omega), fun hx => (hm.2.2.2 _ hx).elim N5.out.2.1 (by have := HS2.out; have := HS3.out; have := HS4.out; omega), fun hx => (hm.2.2.2 _ hx).elim N5.out.2.2.1 (by have := HS2.out; have := HS3.out; have := HS4.out; omega), fun hx => (hm.2.2.2 _ hx).elim N5.out.2.2.2 (by have := HS2.out; have := HS3.out; have := HS4.out; omega)⟩
        replace K := Lib.hid (K.out.only hm.2.2.1 N5.out.1 N5.out.2.1 N5.out.2.2.1 N5.out.2.2.2)
        replace K7 := Lib.hid (K7.out.only hm.2.2.1 N7.out)
        replace N7 : Hid (b7 ∉ p7.own) := Lib.hid fun hx => (hm.2.2.2 _ hx).elim N7.out (by have := HS3.out; have := HS4.out; omega)
        replace RW := Lib.hid (ownsS_of RW.out fun g hk hl => hm.2.2.1.block g hl (RB.out g hk).2.2)
        replace RB : Hid (∀ k, (Value.slice ra rs.length rc).ownBlock = some k → w3.heap.size ≤ k ∧ k < w7.heap.size ∧ k ∉ p7.own) := Lib.hid fun k hk => ⟨(RB.out k hk).1, Nat.lt_of_lt_of_le (RB.out k hk).2.1 hm.2.2.1.size, fun hx => (hm.2.2.2 _ hx).elim (RB.out k hk).2.2 (by have := (RB.out k hk).2.1; omega)⟩
        replace HS4 : Hid (w3.heap.size ≤ w7.heap.size) := Lib.hid (Nat.le_trans HS4.out hm.2.2.1.size)
        have M7 : Hid (Mut w p w7 p7 S3) := Lib.hid (M5.out.trans hm)
        clear hm M5 N5
        obtain ⟨c0, c1, c2, c3⟩ := K.out.cells
        obtain ⟨f0, f1, f2, f3⟩ := K.out.fros
        rcases hx with ⟨rfl, hx⟩ | ⟨rfl, hx⟩
        · subst hx
          rw [endOf, if_pos rfl]
          clear c0 c1 c2 c3 f0 f1 f2 f3
          have HLT : Hid (b7 < w7.heap.size ∧ w.heap.size + 4 ≤ b7) := Lib.hid (by have := HS2.out; have := HS3.out; have := HS4.out; omega)
          have N7' : Hid (b7 ≠ w.heap.size ∧ b7 ≠ w.heap.size + 1 ∧ b7 ≠ w.heap.size + 1 + 1 ∧ b7 ≠ w.heap.size + 1 + 1 + 1) := Lib.hid (by have := HLT.out; omega)
          have K7W : Hid (∀ a b c d e, Bk 115 ((WL w7 (.cells #[.pointer (some ⟨p.b, 0, none⟩), .int .i64 (f : Int), .int .i64 (g0 : Int), .int .i64 (rs.length : Int), .bool false] 96) w.heap.size (.pointer (some ⟨w7.heap.size, 0, none⟩)) (.string ⟨s0.toArray⟩) (.slice ra rs.length rc)) a b c d e) b7 #[.int .i64 (g0 : Int), .string ⟨s0.toArray⟩, .string ⟨b0.toArray⟩]) := Lib.hid fun a b c d e => K7.out.wl N7'.out.1 N7'.out.2.1 N7'.out.2.2.1 N7'.out.2.2.2 a b c d e
          have KW : Hid (∀ a b c d e, R4 ((WL w7 (.cells #[.pointer (some ⟨p.b, 0, none⟩), .int .i64 (f : Int), .int .i64 (g0 : Int), .int .i64 (rs.length : Int), .bool false] 96) w.heap.size (.pointer (some ⟨w7.heap.size, 0, none⟩)) (.string ⟨s0.toArray⟩) (.slice ra rs.length rc)) a b c d e) w.heap.size (if b then .pointer (some ⟨w7.heap.size, 0, none⟩) else .pointer none) (if c then .string ⟨s0.toArray⟩ else .string ⟨#[]⟩) (if d then .slice ra rs.length rc else .slice ra rs.length rc) (if e then .int .i64 0 else .int .i64 0)) := Lib.hid fun a b c d e => K.out.wl a b c d e
          go_wp2_with (refine rL (WL w7 (.cells #[.pointer (some ⟨p.b, 0, none⟩), .int .i64 (f : Int), .int .i64 (g0 : Int), .int .i64 (rs.length : Int), .bool false] 96) w.heap.size (.pointer (some ⟨w7.heap.size, 0, none⟩)) (.string ⟨s0.toArray⟩) (.slice ra rs.length rc)) p.b w.heap.size (w.heap.size + 1) (w.heap.size + 1 + 1) (w.heap.size + 1 + 1 + 1) b7 w7.heap.size (f : Int) (g0 : Int) ra rs.length rc ⟨s0.toArray⟩ w7 rfl (fun a b c d e => (K7W.out a b c d e).cell 0) (fun a b c d e => by have := (KW.out a b c d e).cells.2.2.1; simpa using this) (fun a b c d e => (K7W.out a b c d e).cell 1) rfl rfl ⟨_, (KW.out true false false false false).cells.1⟩ (KW.out true false false false false).fros.1 rfl ⟨_, (KW.out true true false false false).cells.2.1⟩ (KW.out true true false false false).fros.2.1 rfl ⟨_, (KW.out true true true false false).cells.2.2.1⟩ (KW.out true true true false false).fros.2.2.1 rfl ⟨_, (KW.out true true true true false).cells.2.2.2⟩ (KW.out true true true true false).fros.2.2.2 rfl ?_)
          have HNB : Hid (Bk 96 ((WL w7 (.cells #[.pointer (some ⟨p.b, 0, none⟩), .int .i64 (f : Int), .int .i64 (g0 : Int), .int .i64 (rs.length : Int), .bool false] 96) w.heap.size (.pointer (some ⟨w7.heap.size, 0, none⟩)) (.string ⟨s0.toArray⟩) (.slice ra rs.length rc)) true true true true true) w7.heap.size #[.pointer (some ⟨p.b, 0, none⟩), .int .i64 (f : Int), .int .i64 (g0 : Int), .int .i64 (rs.length : Int), .bool false]) := Lib.hid (Bk.oth (by have := HLT.out; simp; omega) (Bk.oth (by have := HLT.out; simp; omega) (Bk.oth (by have := HLT.out; simp; omega) (Bk.oth (by have := HLT.out; simp; omega) (Bk.new (w := w7.drew) rfl)))))
          have M9 : Hid (Mut w p ((WL w7 (.cells #[.pointer (some ⟨p.b, 0, none⟩), .int .i64 (f : Int), .int .i64 (g0 : Int), .int .i64 (rs.length : Int), .bool false] 96) w.heap.size (.pointer (some ⟨w7.heap.size, 0, none⟩)) (.string ⟨s0.toArray⟩) (.slice ra rs.length rc)) true true true true true) p7 S3) := Lib.hid ((M7.out.drew.then_below (show Below w7.drew.heap.size w7.drew (w7.drew.alloc (.cells #[.pointer (some ⟨p.b, 0, none⟩), .int .i64 (f : Int), .int .i64 (g0 : Int), .int .i64 (rs.length : Int), .bool false] 96)) by go_grown)).own_set4 w.heap.size (Nat.le_refl _) N7b.out.1 N7b.out.2.1 N7b.out.2.2.1 N7b.out.2.2.2 _ _ _ _)
          have NBO : Hid (w7.heap.size ∉ p7.own) := Lib.hid fun hx => by have := M7.out.1.lt _ hx; omega
          have RW9 : Hid (((WL w7 (.cells #[.pointer (some ⟨p.b, 0, none⟩), .int .i64 (f : Int), .int .i64 (g0 : Int), .int .i64 (rs.length : Int), .bool false] 96) w.heap.size (.pointer (some ⟨w7.heap.size, 0, none⟩)) (.string ⟨s0.toArray⟩) (.slice ra rs.length rc)) true true true true true).ownsRow 0 9 1 (.slice ra rs.length rc) rs.length (scells rs)) := Lib.hid (ownsS_of RW.out fun g hk hl => by
            have h1 := (RB.out g hk).1
            have h2 := HLT.out
            have h3 := HS3.out
            refine (heap_setCell_other _ _ g _ (by simp; omega)).trans ((heap_setCell_other _ _ g _ (by simp; omega)).trans ((heap_setCell_other _ _ g _ (by simp; omega)).trans ((heap_setCell_other _ _ g _ (by simp; omega)).trans ?_)))
            exact (show Below w7.drew.heap.size w7.drew (w7.drew.alloc (.cells #[.pointer (some ⟨p.b, 0, none⟩), .int .i64 (f : Int), .int .i64 (g0 : Int), .int .i64 (rs.length : Int), .bool false] 96)) by go_grown).block g hl)
          have RB9 : Hid (∀ k, (Value.slice ra rs.length rc).ownBlock = some k → w.heap.size ≤ k ∧ k ∉ p7.own ∧ k ≠ w7.heap.size) := Lib.hid fun k hk => ⟨by have := (RB.out k hk).1; have := HS2.out; have := HS3.out; omega, (RB.out k hk).2.2, by have := (RB.out k hk).2.1; omega⟩
          have K9 : Hid (R4 ((WL w7 (.cells #[.pointer (some ⟨p.b, 0, none⟩), .int .i64 (f : Int), .int .i64 (g0 : Int), .int .i64 (rs.length : Int), .bool false] 96) w.heap.size (.pointer (some ⟨w7.heap.size, 0, none⟩)) (.string ⟨s0.toArray⟩) (.slice ra rs.length rc)) true true true true true) w.heap.size (.pointer (some ⟨w7.heap.size, 0, none⟩)) (.string ⟨s0.toArray⟩) (.slice ra rs.length rc) (.int .i64 0)) := Lib.hid (KW.out true true true true true)
          have HWB : Hid (w.heap.size ≤ w7.heap.size ∧ w7.heap.size ≠ 0) := Lib.hid (by have := HLT.out; have := HZ.out; omega)
          clear KW K7W K K7 RW RB
          generalize (WL w7 (.cells #[.pointer (some ⟨p.b, 0, none⟩), .int .i64 (f : Int), .int .i64 (g0 : Int), .int .i64 (rs.length : Int), .bool false] 96) w.heap.size (.pointer (some ⟨w7.heap.size, 0, none⟩)) (.string ⟨s0.toArray⟩) (.slice ra rs.length rc)) true true true true true = w9 at *
          generalize w7.heap.size = bn at *
          obtain ⟨c0, c1, c2, c3⟩ := K9.out.cells
          refine leaves_cons (f := 67) (args := #[.pointer (some ⟨w.heap.size, 0, none⟩), .pointer (some ⟨w.heap.size + 1, 0, none⟩), .pointer (some ⟨w.heap.size + 1 + 1, 0, none⟩), .pointer (some ⟨w.heap.size + 1 + 1 + 1, 0, none⟩)]) (by simp) (by simp [go_sem]) ?_
          refine (catch67_idle _ _ _ _ w9).mono ?_
          rintro e u' w10 ⟨rfl, rfl, rfl⟩
          have hv : p7.v = .pointer (some ⟨p.b, 0, none⟩) := by unfold Fp.v; rw [M9.out.2.1]
          exact ⟨.tuple #[.pointer (some ⟨bn, 0, none⟩), .string ⟨s0.toArray⟩, .slice ra rs.length rc, .int .i64 0], by simp [results, Tryd.results34, go_sem, c0, c1, c2, c3], .pointer (some ⟨bn, 0, none⟩), .slice ra rs.length rc, p7, rfl, M9.out, RW9.out, fun k hk => ⟨(RB9.out k hk).1, (RB9.out k hk).2.1⟩, fun _ => ⟨bn, rfl, HWB.out.1, ⟨by rw [hv]; exact HNB.out, M9.out.1, NBO.out, HWB.out.2, M9.out.zero HZO.out HZ.out, HF.out.1, HF.out.2⟩, fun k hk => (RB9.out k hk).2.2⟩, fun h => absurd rfl h⟩
        · subst hx
          rw [endOf_no (by decide)]
          go_wp2_with fail
          refine leaves_cons (f := 67) (args := #[.pointer (some ⟨w.heap.size, 0, none⟩), .pointer (some ⟨w.heap.size + 1, 0, none⟩), .pointer (some ⟨w.heap.size + 1 + 1, 0, none⟩), .pointer (some ⟨w.heap.size + 1 + 1 + 1, 0, none⟩)]) (by simp) (by simp [go_sem]) ?_
          refine (catch67_panicking w.heap.size (w.heap.size + 1) (w.heap.size + 1 + 1) (w.heap.size + 1 + 1 + 1) 2 [] w7 _ _ _ _ c0 c1 c2 c3 f0 f1 f2 f3 (by omega) (by omega) (by omega) (by omega) (by omega) (by omega)).mono ?_
          rintro e u' w9 ⟨rfl, rfl, rfl⟩
          refine ⟨.tuple #[.pointer none, .string ⟨#[]⟩, .slice none 0 0, .int .i64 2], by simp [results, Tryd.results34, go_sem, c0, c1, c2, c3], .pointer none, .slice none 0 0, p7, rfl, ?_, owns_nil9 _, (fun k hk => by cases hk), (fun h => absurd h (by simp)), fun _ => rfl⟩
          exact (M7.out.own_set4 w.heap.size (Nat.le_refl _) N7b.out.1 N7b.out.2.1 N7b.out.2.2.1 N7b.out.2.2.2 _ _ _ _).drew
    · subst hx
      rw [endOf_no (by decide)]
      go_wp2_with fail
      refine leaves_cons (f := 67) (args := #[.pointer (some ⟨w.heap.size, 0, none⟩), .pointer (some ⟨w.heap.size + 1, 0, none⟩), .pointer (some ⟨w.heap.size + 1 + 1, 0, none⟩), .pointer (some ⟨w.heap.size + 1 + 1 + 1, 0, none⟩)]) (by simp) (by simp [go_sem]) ?_
      refine (catch67_panicking w.heap.size (w.heap.size + 1) (w.heap.size + 1 + 1) (w.heap.size + 1 + 1 + 1) 2 [] w5 _ _ _ _ c0 c1 c2 c3 f0 f1 f2 f3 (by omega) (by omega) (by omega) (by omega) (by omega) (by omega)).mono ?_
      rintro e u' w9 ⟨rfl, rfl, rfl⟩
      refine ⟨.tuple #[.pointer none, .string ⟨#[]⟩, .slice none 0 0, .int .i64 2], by simp [results, Tryd.results34, go_sem, c0, c1, c2, c3], .pointer none, .slice none 0 0, p5, rfl, ?_, owns_nil9 _, (fun k hk => by cases hk), (fun h => absurd h (by simp)), fun _ => rfl⟩
      exact (M5.out.own_set4 w.heap.size (Nat.le_refl _) N5.out.1 N5.out.2.1 N5.out.2.2.1 N5.out.2.2.2 _ _ _ _).drew
theorem begins_le (s : Bs) : (begins s).1 ≤ 4611686018427387904 ∧ (begins s).2.2.length ≤ s.length := by
  unfold begins
  split
  · rename_i h
    cases hu : unframed (s.drop 12) 524288 with
    | none => simp
    | some x =>
      obtain ⟨r, b⟩ := x
      have := unframed_len hu
      simp only [List.length_drop] at this ⊢
      exact ⟨h.2.2, by omega⟩
  · simp
theorem newest_le {S : St} (h : S.Wf) : (newest S).1 < 2 ∧ (newest S).2.1 ≤ 4611686018427387904 ∧ (newest S).2.2.2.length ≤ (S.file (newest S).1).length := by
  unfold newest
  split
  · exact ⟨by simp, (begins_le _).1, (begins_le _).2⟩
  · exact ⟨by simp, (begins_le _).1, (begins_le _).2⟩
def Clean (S : St) : Prop := ((recsOf (newest S).2.2.2).2.length > 0 → (S.file (newest S).1).length ≤ S.safe (newest S).1) ∧ ((S.file (1 - (newest S).1)).length > 0 → (S.file (1 - (newest S).1)).length ≤ S.safe (1 - (newest S).1))
theorem wopen_any {w : World} {p : Fp} {S : St} (h : Dk w p S) (hT : Tb w) (hz : 0 ∉ p.own) (hcl : Clean S) : Calls Tryd.prog 34 #[p.v] w fun e w' => ORes w p (lopen S) e w' := by
  unfold lopen
  by_cases hg : S.gone = true
  · rw [if_pos hg]; exact wopen_dead h hT hz hg
  · rw [if_neg hg]
    have hg' : S.gone = false := by simpa using hg
    by_cases h0 : (newest S).2.1 = 0
    · rw [if_pos h0]; exact wopen_form h hT hz hg' h0
    · rw [if_neg h0]
      obtain ⟨n1, n2, n3⟩ := newest_le h.wf
      have hfl := file_le h.wf (newest S).1
      obtain ⟨c1, c2⟩ := hcl
      generalize hn : newest S = nn at *
      obtain ⟨f, g0, s0, b0⟩ := nn
      simp only at *
      have hrl := recs_len b0.length b0 (Nat.le_refl _)
      rw [show recs b0.length b0 = recsOf b0 from rfl] at hrl
      unfold ocut2 ocut
      refine wopen_all h hT hz hg' f g0 s0 b0 hn n1 h0 n2 (by omega) _ (by omega) (fun ht ho => ?_) (fun ht ho => ?_) (fun ht => ?_)
      · rw [if_neg (show ¬ (recsOf b0).2.length > 0 by omega), if_pos rfl, if_neg (show ¬ (S.file (1 - f)).length > 0 by omega), if_pos rfl]
      · rw [if_neg (show ¬ (recsOf b0).2.length > 0 by omega), if_pos rfl, if_pos ho]
        rcases (show (S.cut (1 - f : Nat) (0 : Int)).1 = 0 ∨ (S.cut (1 - f : Nat) (0 : Int)).1 = 2 from cut_code S (1 - f) 0 (by omega) (Nat.zero_le _) (c2 ho)) with hc2 | hc2
        · rw [if_pos hc2]; exact .inl ⟨hc2, rfl⟩
        · rw [if_neg (by rw [hc2]; decide)]; exact .inr ⟨hc2, rfl⟩
      · rw [if_pos ht]
        rcases cut_code S f ((S.file f).length - (recsOf b0).2.length) n1 (by omega) (c1 ht) with hc1 | hc1
        · obtain ⟨k1, k2, k3, k4, k5, k6, k7, k8⟩ := cut_ok h.wf n1 hc1
          rw [if_pos hc1]
          refine .inl ⟨hc1, fun ho => ?_, fun ho => ?_⟩
          · rw [if_neg (show ¬ ((S.cut f ((S.file f).length - (recsOf b0).2.length : Nat)).2.file (1 - f)).length > 0 by omega), if_pos rfl]
          · rw [if_pos ho]
            rcases (show ((S.cut f ((S.file f).length - (recsOf b0).2.length : Nat)).2.cut (1 - f : Nat) (0 : Int)).1 = 0 ∨ ((S.cut f ((S.file f).length - (recsOf b0).2.length : Nat)).2.cut (1 - f : Nat) (0 : Int)).1 = 2 from cut_code _ (1 - f) 0 (by omega) (Nat.zero_le _) (by rw [k2] at ho ⊢; rw [k3]; exact c2 ho)) with hc2 | hc2
            · rw [if_pos hc2]; exact .inl ⟨hc2, rfl⟩
            · rw [if_neg (by rw [hc2]; decide)]; exact .inr ⟨hc2, rfl⟩
        · simp only [if_neg (show ¬ (S.cut f ((S.file f).length - (recsOf b0).2.length : Nat)).1 = 0 by rw [hc1]; decide)]; first | exact .inr ⟨hc1, rfl⟩ | exact .inr ⟨hc1, trivial⟩
end Go.Proofs.YtmoihgniglomiaaDoor
