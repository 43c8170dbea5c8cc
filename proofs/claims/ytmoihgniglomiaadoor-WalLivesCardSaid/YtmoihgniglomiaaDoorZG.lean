/- Crash, Arm, Sync, Read of a disk. No condition but the disk's own. -/
import Derived.Test.YtmoihgniglomiaaDoorZD
import Derived.Deep.QuietTactic
set_option linter.unusedVariables false
set_option linter.unusedSimpArgs false
set_option maxRecDepth 100000
namespace Go.Proofs.YtmoihgniglomiaaDoor
open Go.RowKit Go.Sort

theorem refused_gone (b : Nat) (v0 v1 v2 v3 v4 v6 v7 F : Value) (w : World) (K : Hid (Bk 93 w b #[v0, v1, v2, v3, v4, .bool true, v6, v7])) :
    Calls Tryd.prog 58 #[.pointer (some ⟨b, 0, none⟩), F] w fun e w' => e = .returned (.int .i64 2) ∧ w = w' := by
  have j5 := K.out.cell 5
  go_enter Tryd.func58, Tryd.ntmps58
  go_wp2_with fail
  go_ret
  exact ⟨rfl, rfl⟩
theorem refused42 (b a0 : Nat) (v0 v1 v2 v3 v4 v6 v7 : Value) (x : Int) (R : World → Prop) (w : World) (K : Hid (Bk 93 w b #[v0, v1, v2, v3, v4, .bool false, v6, v7]))
    (hc : Hid (Calls Tryd.prog 64 #[.pointer (some ⟨a0, 0, none⟩)] w fun e w' => e = .returned (.int .i64 x) ∧ R w')) :
    Calls Tryd.prog 58 #[.pointer (some ⟨b, 0, none⟩), .func (.func 64) #[] #[.pointer (some ⟨a0, 0, none⟩)]] w fun e w' => e = .returned (.int .i64 x) ∧ R w' := by
  have j5 := K.out.cell 5
  go_enter Tryd.func58, Tryd.ntmps58
  go_wp2_with fail
  refine hc.out.mono ?_
  rintro e w' ⟨rfl, hr⟩
  have HR := Lib.hid hr
  clear hr
  go_wp2_with fail
  go_ret
  exact ⟨rfl, HR.out⟩
theorem refused46 (b  : Nat) (v0 v1 v2 v3 v4 v6 v7 : Value) (x : Int) (R : World → Prop) (w : World) (K : Hid (Bk 93 w b #[v0, v1, v2, v3, v4, .bool false, v6, v7]))
    (hc : Hid (Calls Tryd.prog 102 #[] w fun e w' => e = .returned (.int .i64 x) ∧ R w')) :
    Calls Tryd.prog 58 #[.pointer (some ⟨b, 0, none⟩), .func (.func 102) #[] #[]] w fun e w' => e = .returned (.int .i64 x) ∧ R w' := by
  have j5 := K.out.cell 5
  go_enter Tryd.func58, Tryd.ntmps58
  go_wp2_with fail
  refine hc.out.mono ?_
  rintro e w' ⟨rfl, hr⟩
  have HR := Lib.hid hr
  clear hr
  go_wp2_with fail
  go_ret
  exact ⟨rfl, HR.out⟩
theorem refused49 (b a0 a1 a2 : Nat) (v0 v1 v2 v3 v4 v6 v7 : Value) (x : Int) (R : World → Prop) (w : World) (K : Hid (Bk 93 w b #[v0, v1, v2, v3, v4, .bool false, v6, v7]))
    (hc : Hid (Calls Tryd.prog 100 #[.pointer (some ⟨a0, 0, none⟩), .pointer (some ⟨a1, 0, none⟩), .pointer (some ⟨a2, 0, none⟩)] w fun e w' => e = .returned (.int .i64 x) ∧ R w')) :
    Calls Tryd.prog 58 #[.pointer (some ⟨b, 0, none⟩), .func (.func 100) #[] #[.pointer (some ⟨a0, 0, none⟩), .pointer (some ⟨a1, 0, none⟩), .pointer (some ⟨a2, 0, none⟩)]] w fun e w' => e = .returned (.int .i64 x) ∧ R w' := by
  have j5 := K.out.cell 5
  go_enter Tryd.func58, Tryd.ntmps58
  go_wp2_with fail
  refine hc.out.mono ?_
  rintro e w' ⟨rfl, hr⟩
  have HR := Lib.hid hr
  clear hr
  go_wp2_with fail
  go_ret
  exact ⟨rfl, HR.out⟩
theorem refused52 (b a0 : Nat) (v0 v1 v2 v3 v4 v6 v7 : Value) (x : Int) (R : World → Prop) (w : World) (K : Hid (Bk 93 w b #[v0, v1, v2, v3, v4, .bool false, v6, v7]))
    (hc : Hid (Calls Tryd.prog 104 #[.pointer (some ⟨a0, 0, none⟩)] w fun e w' => e = .returned (.int .i64 x) ∧ R w')) :
    Calls Tryd.prog 58 #[.pointer (some ⟨b, 0, none⟩), .func (.func 104) #[] #[.pointer (some ⟨a0, 0, none⟩)]] w fun e w' => e = .returned (.int .i64 x) ∧ R w' := by
  have j5 := K.out.cell 5
  go_enter Tryd.func58, Tryd.ntmps58
  go_wp2_with fail
  refine hc.out.mono ?_
  rintro e w' ⟨rfl, hr⟩
  have HR := Lib.hid hr
  clear hr
  go_wp2_with fail
  go_ret
  exact ⟨rfl, HR.out⟩
theorem refused53 (b a0 a1 : Nat) (v0 v1 v2 v3 v4 v6 v7 : Value) (x : Int) (R : World → Prop) (w : World) (K : Hid (Bk 93 w b #[v0, v1, v2, v3, v4, .bool false, v6, v7]))
    (hc : Hid (Calls Tryd.prog 59 #[.pointer (some ⟨a0, 0, none⟩), .pointer (some ⟨a1, 0, none⟩)] w fun e w' => e = .returned (.int .i64 x) ∧ R w')) :
    Calls Tryd.prog 58 #[.pointer (some ⟨b, 0, none⟩), .func (.func 59) #[] #[.pointer (some ⟨a0, 0, none⟩), .pointer (some ⟨a1, 0, none⟩)]] w fun e w' => e = .returned (.int .i64 x) ∧ R w' := by
  have j5 := K.out.cell 5
  go_enter Tryd.func58, Tryd.ntmps58
  go_wp2_with fail
  refine hc.out.mono ?_
  rintro e w' ⟨rfl, hr⟩
  have HR := Lib.hid hr
  clear hr
  go_wp2_with fail
  go_ret
  exact ⟨rfl, HR.out⟩
theorem refused54 (b a0 a1 a2 : Nat) (v0 v1 v2 v3 v4 v6 v7 : Value) (x : Int) (R : World → Prop) (w : World) (K : Hid (Bk 93 w b #[v0, v1, v2, v3, v4, .bool false, v6, v7]))
    (hc : Hid (Calls Tryd.prog 96 #[.pointer (some ⟨a0, 0, none⟩), .pointer (some ⟨a1, 0, none⟩), .pointer (some ⟨a2, 0, none⟩)] w fun e w' => e = .returned (.int .i64 x) ∧ R w')) :
    Calls Tryd.prog 58 #[.pointer (some ⟨b, 0, none⟩), .func (.func 96) #[] #[.pointer (some ⟨a0, 0, none⟩), .pointer (some ⟨a1, 0, none⟩), .pointer (some ⟨a2, 0, none⟩)]] w fun e w' => e = .returned (.int .i64 x) ∧ R w' := by
  have j5 := K.out.cell 5
  go_enter Tryd.func58, Tryd.ntmps58
  go_wp2_with fail
  refine hc.out.mono ?_
  rintro e w' ⟨rfl, hr⟩
  have HR := Lib.hid hr
  clear hr
  go_wp2_with fail
  go_ret
  exact ⟨rfl, HR.out⟩
/-- the closures -/
theorem clo42 (a : Nat) (k : Int) (w : World) (h : w.cell? ⟨a, 0, none⟩ = some (.int .i64 k)) :
    Calls Tryd.prog 64 #[.pointer (some ⟨a, 0, none⟩)] w fun e w' => e = .returned (.int .i64 (if k < 0 then 1 else 0)) ∧ w = w' := by
  by_cases hk : k < 0
  · rw [if_pos hk]
    go_enter Tryd.func64, Tryd.ntmps64
    go_wp2_with fail
    go_ret
    exact ⟨rfl, rfl⟩
  · rw [if_neg hk]
    go_enter Tryd.func64, Tryd.ntmps64
    go_wp2_with fail
    go_ret
    exact ⟨rfl, rfl⟩
theorem clo46 (w : World) : Calls Tryd.prog 102 #[] w fun e w' => e = .returned (.int .i64 0) ∧ w = w' := by
  go_enter Tryd.func102, Tryd.ntmps102
  go_wp2_with fail
  go_ret
  exact ⟨rfl, rfl⟩
theorem clo52 (a : Nat) (f : Int) (w : World) (h : w.cell? ⟨a, 0, none⟩ = some (.int .i64 f)) :
    Calls Tryd.prog 104 #[.pointer (some ⟨a, 0, none⟩)] w fun e w' => e = .returned (.int .i64 (if St.there f then 0 else 90)) ∧ w = w' := by
  by_cases hk : St.there f = true
  · rw [if_pos hk]
    have HK := Lib.hid hk
    clear hk
    go_enter Tryd.func104, Tryd.ntmps104
    go_wp2_with fail
    refine (there_any _ _).mono ?_
    rintro e w' ⟨rfl, rfl⟩
    rw [HK.out]
    go_wp2_with fail
    go_ret
    exact ⟨rfl, rfl⟩
  · rw [if_neg hk]
    have HK := Lib.hid (show St.there f = false by simpa using hk)
    clear hk
    go_enter Tryd.func104, Tryd.ntmps104
    go_wp2_with fail
    refine (there_any _ _).mono ?_
    rintro e w' ⟨rfl, rfl⟩
    rw [HK.out]
    go_wp2_with fail
    go_ret
    exact ⟨rfl, rfl⟩
theorem clo53 (a c : Nat) (n k : Int) (w : World) (h : w.cell? ⟨a, 0, none⟩ = some (.int .i64 n)) (h' : w.cell? ⟨c, 0, none⟩ = some (.int .i64 k)) :
    Calls Tryd.prog 59 #[.pointer (some ⟨a, 0, none⟩), .pointer (some ⟨c, 0, none⟩)] w fun e w' => e = .returned (.int .i64 (if n < 0 ∨ k < 0 then 1 else 0)) ∧ w = w' := by
  by_cases hn : n < 0
  · rw [if_pos (.inl hn)]
    have hd : decide (n < 0) = true := by simpa using hn
    go_enter Tryd.func59, Tryd.ntmps59
    go_wp2_with fail
    go_ret
    exact ⟨rfl, rfl⟩
  · have hd : decide (n < 0) = false := by simpa using hn
    by_cases hk : k < 0
    · rw [if_pos (.inr hk)]
      have hd2 : decide (k < 0) = true := by simpa using hk
      go_enter Tryd.func59, Tryd.ntmps59
      go_wp2_with fail
      go_ret
      exact ⟨rfl, rfl⟩
    · rw [if_neg (by omega)]
      have hd2 : decide (k < 0) = false := by simpa using hk
      go_enter Tryd.func59, Tryd.ntmps59
      go_wp2_with fail
      go_ret
      exact ⟨rfl, rfl⟩
theorem hmf (fn : Fn) (first cap : Array Value) (w : World) : (Instr.makeFunc fn first cap).run Tryd.prog w = .ok (.func fn first cap) w := rfl
theorem Dk.gone {w : World} {p : Fp} {S : St} (h : Dk w p S) {g : Bool} (hg : S.gone = g) : Bk 93 w p.b #[.slice (some ⟨p.g0, 0, none⟩) S.f0.length p.c0, .int .i64 (S.s0 : Int), .slice (some ⟨p.g1, 0, none⟩) S.f1.length p.c1, .int .i64 (S.s1 : Int), p.rv, .bool g, .int .i64 (S.inn : Int), .int .i64 (S.lft : Int)] := hg ▸ h.blk
/-- what a call that may change a disk leaves -/
theorem Dk.new {w w' : World} {p : Fp} {S : St} (h : Dk w p S) (o : Obj) : Dk (w.alloc o) p S := h.below (by go_grown)
set_option maxHeartbeats 8000000 in
theorem crash_any (p : Fp) (S : St) (k : Int) (hkb : k ≤ 9223372036854775807) (w : World) (h : Dk w p S) :
    Calls Tryd.prog 33 #[p.v, .int .i64 k] w fun e w' => e = .returned (.int .i64 ((S.crash k).1 : Int)) ∧ ∃ p', Mut w p w' p' (S.crash k).2 := by
  have D1 := Lib.hid (h.new (w' := w) (.cells #[.int .i64 k] 3))
  have H := Lib.hid h
  have C0 : Hid ((w.alloc (.cells #[.int .i64 k] 3)).cell? ⟨w.heap.size, 0, none⟩ = some (.int .i64 k)) := Lib.hid ((Bk.new (t := 3) rfl).cell 0)
  have hM := hmf
  cases hg : S.gone
  · have KG := Lib.hid (D1.out.gone hg)
    by_cases hk : k < 0
    · have e : S.crash k = (1, S) := by simp [St.crash, hg, hk]
      rw [e]
      have R1 := clo42 w.heap.size k _ C0.out
      rw [if_pos hk] at R1
      have HR := Lib.hid R1
      clear e R1 hk hg h
      unfold Fp.v
      go_enter Tryd.func33, Tryd.ntmps33
      go_wp2_with fail
      refine (refused42 p.b _ _ _ _ _ _ _ _ _ _ _ KG HR).mono ?_
      rintro e w' ⟨rfl, rfl⟩
      go_wp2_with fail
      go_ret
      exact ⟨rfl, p, D1.out, rfl, (Only.refl _ _).alloc _, fun k h => .inl h⟩
    · have e : S.crash k = (0, S.lose k.toNat) := by simp [St.crash, hg, hk]
      rw [e]
      have R1 := clo42 w.heap.size k _ C0.out
      rw [if_neg hk] at R1
      have HR := Lib.hid R1
      obtain ⟨n, rfl⟩ : ∃ n : Nat, k = (n : Int) := ⟨k.toNat, by omega⟩
      rw [Int.toNat_natCast]
      have hnb : n ≤ 9223372036854775807 := by omega
      clear e R1 hk hg h
      unfold Fp.v
      go_enter Tryd.func33, Tryd.ntmps33
      go_wp2_with fail
      refine (refused42 p.b _ _ _ _ _ _ _ _ _ _ _ KG HR).mono ?_
      rintro e w' ⟨rfl, rfl⟩
      have c0 := C0.out
      go_wp2_with fail
      refine (lose_any p S n hnb _ D1.out).mono ?_
      rintro e w2 ⟨rfl, hd, ho⟩
      have D2 := Lib.hid hd
      have O2 := Lib.hid ho
      clear hd ho c0
      go_wp2_with fail
      go_ret
      exact ⟨rfl, p.nil, D2.out, rfl, ((Only.refl _ _).alloc _).trans O2.out (by simp [Fp.own]), fun k h => .inl (p.nil_own k h)⟩
  · have e : S.crash k = (2, S) := by simp [St.crash, hg]
    rw [e]
    have KG := Lib.hid (D1.out.gone hg)
    clear e hg h
    unfold Fp.v
    go_enter Tryd.func33, Tryd.ntmps33
    go_wp2_with fail
    refine (refused_gone p.b _ _ _ _ _ _ _ _ _ KG).mono ?_
    rintro e w' ⟨rfl, rfl⟩
    go_wp2_with fail
    go_ret
    exact ⟨rfl, p, D1.out, rfl, (Only.refl _ _).alloc _, fun k h => .inl h⟩
end Go.Proofs.YtmoihgniglomiaaDoor
/- Arm, Sync, Read of a disk. No condition but the disk's own. -/
set_option linter.unusedVariables false
set_option linter.unusedSimpArgs false
set_option maxRecDepth 100000
namespace Go.Proofs.YtmoihgniglomiaaDoor
open Go.RowKit Go.Sort

set_option maxHeartbeats 8000000 in
theorem arm_any (p : Fp) (S : St) (n k : Int) (hnb : n ≤ 9223372036854775807) (hkb : k ≤ 9223372036854775807) (w : World) (h : Dk w p S) :
    Calls Tryd.prog 22 #[p.v, .int .i64 n, .int .i64 k] w fun e w' => e = .returned (.int .i64 ((S.arm n k).1 : Int)) ∧ Dk w' p (S.arm n k).2 ∧ Only [p.b] w w' := by
  have D1 := Lib.hid ((h.new (w' := w) (.cells #[.int .i64 n] 3)).new (w' := w) (.cells #[.int .i64 k] 3))
  have C0 : Hid (((w.alloc (.cells #[.int .i64 n] 3)).alloc (.cells #[.int .i64 k] 3)).cell? ⟨w.heap.size, 0, none⟩ = some (.int .i64 n)) := Lib.hid ((Bk.alloc (Bk.new (t := 3) rfl)).cell 0)
  have C1 : Hid (((w.alloc (.cells #[.int .i64 n] 3)).alloc (.cells #[.int .i64 k] 3)).cell? ⟨w.heap.size + 1, 0, none⟩ = some (.int .i64 k)) := Lib.hid ((Bk.new (t := 3) (by simp)).cell 0)
  have hM := hmf
  cases hg : S.gone
  · have KG := Lib.hid (D1.out.gone hg)
    have R1 := clo53 w.heap.size (w.heap.size + 1) n k _ C0.out C1.out
    by_cases hk : n < 0 ∨ k < 0
    · have e : S.arm n k = (1, S) := by simp [St.arm, hg, hk]
      rw [e]
      rw [if_pos hk] at R1
      have HR := Lib.hid R1
      clear e R1 hk hg h
      unfold Fp.v
      go_enter Tryd.func22, Tryd.ntmps22
      go_wp2_with fail
      refine (refused53 p.b _ _ _ _ _ _ _ _ _ _ _ _ KG HR).mono ?_
      rintro e w' ⟨rfl, rfl⟩
      go_wp2_with fail
      go_ret
      exact ⟨rfl, D1.out, ((Only.refl _ _).alloc _).alloc _⟩
    · have e : S.arm n k = (0, S.power false n.toNat k.toNat) := by simp [St.arm, hg, hk]
      rw [e]
      rw [if_neg hk] at R1
      have HR := Lib.hid R1
      have f5 := D1.out.blk.fro 5
      have f6 := D1.out.blk.fro 6
      have f7 := D1.out.blk.fro 7
      have c5 := D1.out.blk.cell 5
      have c6 := D1.out.blk.cell 6
      have c7 := D1.out.blk.cell 7
      have HN : Hid (n.toNat ≤ 9223372036854775807 ∧ k.toNat ≤ 9223372036854775807 ∧ ((n.toNat : Nat) : Int) = n ∧ ((k.toNat : Nat) : Int) = k) := Lib.hid (by omega)
      clear e R1 hk hg h
      unfold Fp.v
      go_enter Tryd.func22, Tryd.ntmps22
      go_wp2_with fail
      refine (refused53 p.b _ _ _ _ _ _ _ _ _ _ _ _ KG HR).mono ?_
      rintro e w' ⟨rfl, rfl⟩
      have c0 := C0.out
      have c1 := C1.out
      go_wp2_with fail
      go_ret
      have q := Bk.same (i := 7) (v := .int .i64 k) (Bk.same (i := 6) (v := .int .i64 n) (Bk.same (i := 5) (v := .bool false) D1.out.blk))
      have hO : Only [p.b] ((w.alloc (.cells #[.int .i64 n] 3)).alloc (.cells #[.int .i64 k] 3)) (((((w.alloc (.cells #[.int .i64 n] 3)).alloc (.cells #[.int .i64 k] 3)).setCell ⟨p.b, 5, none⟩ (.bool false)).setCell ⟨p.b, 6, none⟩ (.int .i64 n)).setCell ⟨p.b, 7, none⟩ (.int .i64 k)) := (((Only.refl _ _).setCell _ (by simp) _).setCell _ (by simp) _).setCell _ (by simp) _
      exact ⟨rfl, D1.out.pow hO false _ _ HN.out.1 HN.out.2.1 (by rw [HN.out.2.2.1, HN.out.2.2.2]; simpa using q), (((Only.refl _ _).alloc _).alloc _).trans hO (by simp)⟩
  · have e : S.arm n k = (2, S) := by simp [St.arm, hg]
    rw [e]
    have KG := Lib.hid (D1.out.gone hg)
    clear e hg h
    unfold Fp.v
    go_enter Tryd.func22, Tryd.ntmps22
    go_wp2_with fail
    refine (refused_gone p.b _ _ _ _ _ _ _ _ _ KG).mono ?_
    rintro e w' ⟨rfl, rfl⟩
    go_wp2_with fail
    go_ret
    exact ⟨rfl, D1.out, ((Only.refl _ _).alloc _).alloc _⟩
set_option maxHeartbeats 8000000 in
theorem sync_any (p : Fp) (S : St) (w : World) (h : Dk w p S) :
    Calls Tryd.prog 80 #[p.v] w fun e w' => e = .returned (.int .i64 ((S.sync).1 : Int)) ∧ ∃ p', Mut w p w' p' (S.sync).2 := by
  have H := Lib.hid h
  have hM := hmf
  cases hg : S.gone
  · have KG := Lib.hid (h.gone hg)
    have HR := Lib.hid (clo46 w)
    have HW := Lib.hid h.wf.count
    have HP := Lib.hid (p.count_own S)
    have HPB := Lib.hid (p.count_b S)
    by_cases hc : (S.count).1 = 0
    · have e : S.sync = (0, (S.count).2.keep (S.count).2.waiting) := by simp [St.sync, hg, hc]
      rw [e]
      have HC := Lib.hid hc
      have hwt : ((S.count).2.waiting : Int) ≤ 9223372036854775807 := by
        have h2 := HW.out.l0
        have h3 := HW.out.l1
        unfold St.waiting
        omega
      have HWT := Lib.hid hwt
      clear e hg h hc hwt
      have HV : Hid (p.v = (p.count S).v) := Lib.hid (by simp [Fp.v, HPB.out])
      rw [HV.out]
      have K1 := Lib.hid (show Dk w p S from H.out)
      unfold Fp.v
      rw [HPB.out]
      go_enter Tryd.func80, Tryd.ntmps80
      go_wp2_with fail
      refine (refused46 p.b _ _ _ _ _ _ _ _ _ _ KG HR).mono ?_
      rintro e w' ⟨rfl, rfl⟩
      go_wp2_with fail
      refine (count_any p S _ H.out).mono ?_
      rintro e w1 ⟨rfl, hd, ho⟩
      rw [HC.out]
      have D1 := Lib.hid hd
      have O1 := Lib.hid ho
      clear hd ho
      go_wp2_with fail
      have W1 := waiting_any (p.count S) (S.count).2 w1 D1.out
      unfold Fp.v at W1
      rw [HPB.out] at W1
      refine W1.mono ?_
      rintro e w2 ⟨rfl, hb⟩
      have D2 := Lib.hid (D1.out.below hb)
      have O2 := Lib.hid (O1.out.trans (.of hb) (L := [p.b]) (M := []) (by simp))
      clear hb W1
      go_wp2_with fail
      have W2 := keep48 (p.count S) (S.count).2 _ HWT.out w2 D2.out
      unfold Fp.v at W2
      rw [HPB.out, Int.toNat_natCast] at W2
      refine W2.mono ?_
      rintro e w3 ⟨rfl, hd, ho⟩
      have D3 := Lib.hid hd
      have O3 := Lib.hid (O2.out.trans ho (by simp))
      clear hd ho W2
      go_wp2_with fail
      go_ret
      exact ⟨rfl, (p.count S).nil, D3.out, HPB.out, O3.out.mono (by simp [Fp.own]), fun k h => .inl (HP.out k ((p.count S).nil_own k h))⟩
    · have e : S.sync = S.count := by simp [St.sync, hg, hc]
      rw [e]
      have hn : ∃ n, (S.count).1 = n + 1 := ⟨(S.count).1 - 1, by omega⟩
      obtain ⟨n, hn⟩ := hn
      have HC := Lib.hid hn
      have ht : (((n + 1 : Nat) : Int) != 0) = true := by simp; omega
      rw [hn]
      clear e hg h hc hn
      unfold Fp.v
      go_enter Tryd.func80, Tryd.ntmps80
      go_wp2_with fail
      refine (refused46 p.b _ _ _ _ _ _ _ _ _ _ KG HR).mono ?_
      rintro e w' ⟨rfl, rfl⟩
      go_wp2_with fail
      refine (count_any p S _ H.out).mono ?_
      rintro e w1 ⟨rfl, hd, ho⟩
      rw [HC.out]
      have D1 := Lib.hid hd
      have O1 := Lib.hid ho
      clear hd ho
      go_wp2_with fail
      go_ret
      exact ⟨rfl, p.count S, D1.out, HPB.out, O1.out.mono (by simp [Fp.own]), fun k h => .inl (HP.out k h)⟩
  · have e : S.sync = (2, S) := by simp [St.sync, hg]
    rw [e]
    have KG := Lib.hid (h.gone hg)
    clear e hg h
    unfold Fp.v
    go_enter Tryd.func80, Tryd.ntmps80
    go_wp2_with fail
    refine (refused_gone p.b _ _ _ _ _ _ _ _ _ KG).mono ?_
    rintro e w' ⟨rfl, rfl⟩
    go_wp2_with fail
    go_ret
    exact ⟨rfl, p, H.out, rfl, Only.refl _ _, fun k h => .inl h⟩
theorem below_drewN {B : Nat} {w w' : World} (h : Below B w w') (n : Nat) : Below B w (w'.drewN n) := ⟨h.os, h.tape, h.output, h.size, h.block⟩
theorem only_drewN {L : List Nat} {w w' : World} (h : Only L w w') (n : Nat) : Only L w (w'.drewN n) := ⟨h.os, h.tape, h.output, h.size, h.block⟩
set_option maxHeartbeats 8000000 in
theorem read_any (p : Fp) (S : St) (f : Int) (w : World) (h : Dk w p S) :
    Calls Tryd.prog 93 #[p.v, .int .i64 f] w fun e w' => e = .returned (.tuple #[.string ⟨(S.read f).1.toArray⟩, .int .i64 ((S.read f).2 : Int)]) ∧ Below w.heap.size w w' := by
  have D1 := Lib.hid (h.new (w' := w) (.cells #[.int .i64 f] 3))
  have H := Lib.hid h
  have C0 : Hid ((w.alloc (.cells #[.int .i64 f] 3)).cell? ⟨w.heap.size, 0, none⟩ = some (.int .i64 f)) := Lib.hid ((Bk.new (t := 3) rfl).cell 0)
  have hM := hmf
  cases hg : S.gone
  · have KG := Lib.hid (D1.out.gone hg)
    have R1 := clo52 w.heap.size f _ C0.out
    rcases (by omega : f = 0 ∨ f = 1 ∨ ¬ (0 ≤ f ∧ f < 2)) with hf | hf | hf
    · have e : S.read f = (S.f0, 0) := by subst hf; simp [St.read, hg, St.there, St.file]
      rw [e]
      rw [if_pos (by subst hf; rfl)] at R1
      have HR := Lib.hid R1
      subst hf
      clear e R1 hg h
      unfold Fp.v
      go_enter Tryd.func93, Tryd.ntmps93
      go_wp2_with fail
      refine (refused52 p.b _ _ _ _ _ _ _ _ _ _ _ KG HR).mono ?_
      rintro e w' ⟨rfl, rfl⟩
      have c0 := C0.out
      have i0 := D1.out.blk.cell 0
      have cv : ∀ n, (convert 80 9 (.slice (some ⟨p.g0, 0, none⟩) S.f0.length p.c0)).run Tryd.prog ((w.alloc (.cells #[.int .i64 0] 3)).drewN n) = .ok (.string ⟨S.f0.toArray⟩) ((w.alloc (.cells #[.int .i64 0] 3)).drewN n) := fun n => By.conv (w := (w.alloc (.cells #[.int .i64 0] 3)).drewN n) (D1.out.r0.of rfl) _ _ rfl
      go_wp2_with fail
      go_quiet (fail)
      go_wp2_with fail
      go_returns
      exact ⟨rfl, below_drewN (by go_grown) _⟩
    · have e : S.read f = (S.f1, 0) := by subst hf; simp [St.read, hg, St.there, St.file]
      rw [e]
      rw [if_pos (by subst hf; rfl)] at R1
      have HR := Lib.hid R1
      subst hf
      clear e R1 hg h
      unfold Fp.v
      go_enter Tryd.func93, Tryd.ntmps93
      go_wp2_with fail
      refine (refused52 p.b _ _ _ _ _ _ _ _ _ _ _ KG HR).mono ?_
      rintro e w' ⟨rfl, rfl⟩
      have c0 := C0.out
      have i0 := D1.out.blk.cell 2
      have cv : ∀ n, (convert 80 9 (.slice (some ⟨p.g1, 0, none⟩) S.f1.length p.c1)).run Tryd.prog ((w.alloc (.cells #[.int .i64 1] 3)).drewN n) = .ok (.string ⟨S.f1.toArray⟩) ((w.alloc (.cells #[.int .i64 1] 3)).drewN n) := fun n => By.conv (w := (w.alloc (.cells #[.int .i64 1] 3)).drewN n) (D1.out.r1.of rfl) _ _ rfl
      go_wp2_with fail
      go_quiet (fail)
      go_wp2_with fail
      go_returns
      exact ⟨rfl, below_drewN (by go_grown) _⟩
    · have hth : St.there f = false := by simpa [St.there] using hf
      have e : S.read f = ([], 90) := by simp [St.read, hg, hth]
      rw [e]
      rw [if_neg (by simp [hth])] at R1
      have HR := Lib.hid R1
      clear e R1 hf hth hg h
      unfold Fp.v
      go_enter Tryd.func93, Tryd.ntmps93
      go_wp2_with fail
      refine (refused52 p.b _ _ _ _ _ _ _ _ _ _ _ KG HR).mono ?_
      rintro e w' ⟨rfl, rfl⟩
      go_wp2_with fail
      go_returns
      exact ⟨rfl, by go_grown⟩
  · have e : S.read f = ([], 2) := by simp [St.read, hg]
    rw [e]
    have KG := Lib.hid (D1.out.gone hg)
    clear e hg h
    unfold Fp.v
    go_enter Tryd.func93, Tryd.ntmps93
    go_wp2_with fail
    refine (refused_gone p.b _ _ _ _ _ _ _ _ _ KG).mono ?_
    rintro e w' ⟨rfl, rfl⟩
    go_wp2_with fail
    go_returns
    exact ⟨rfl, by go_grown⟩
end Go.Proofs.YtmoihgniglomiaaDoor
