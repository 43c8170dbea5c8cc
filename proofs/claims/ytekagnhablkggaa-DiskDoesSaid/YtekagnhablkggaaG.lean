/- Crash, Arm, Sync, Read of a disk. No condition but the disk's own. -/
import Derived.Test.YtekagnhablkggaaF
set_option linter.unusedVariables false
set_option linter.unusedSimpArgs false
set_option maxRecDepth 100000
namespace Go.Proofs.Ytekagnhablkggaa
open Go.RowKit Go.Sort

theorem refused_gone (b : Nat) (v0 v1 v2 v3 v4 v6 v7 F : Value) (w : World) (K : Hid (Bk 64 w b #[v0, v1, v2, v3, v4, .bool true, v6, v7])) :
    Calls Try.prog 41 #[.pointer (some ⟨b, 0, none⟩), F] w fun e w' => e = .returned (.int .i64 2) ∧ w = w' := by
  have j5 := K.out.cell 5
  go_enter Try.func41, Try.ntmps41
  go_wp2_with fail
  go_ret
  exact ⟨rfl, rfl⟩
theorem refused42 (b a0 : Nat) (v0 v1 v2 v3 v4 v6 v7 : Value) (x : Int) (R : World → Prop) (w : World) (K : Hid (Bk 64 w b #[v0, v1, v2, v3, v4, .bool false, v6, v7]))
    (hc : Hid (Calls Try.prog 42 #[.pointer (some ⟨a0, 0, none⟩)] w fun e w' => e = .returned (.int .i64 x) ∧ R w')) :
    Calls Try.prog 41 #[.pointer (some ⟨b, 0, none⟩), .func (.func 42) #[] #[.pointer (some ⟨a0, 0, none⟩)]] w fun e w' => e = .returned (.int .i64 x) ∧ R w' := by
  have j5 := K.out.cell 5
  go_enter Try.func41, Try.ntmps41
  go_wp2_with fail
  refine hc.out.mono ?_
  rintro e w' ⟨rfl, hr⟩
  have HR := Lib.hid hr
  clear hr
  go_wp2_with fail
  go_ret
  exact ⟨rfl, HR.out⟩
theorem refused46 (b  : Nat) (v0 v1 v2 v3 v4 v6 v7 : Value) (x : Int) (R : World → Prop) (w : World) (K : Hid (Bk 64 w b #[v0, v1, v2, v3, v4, .bool false, v6, v7]))
    (hc : Hid (Calls Try.prog 46 #[] w fun e w' => e = .returned (.int .i64 x) ∧ R w')) :
    Calls Try.prog 41 #[.pointer (some ⟨b, 0, none⟩), .func (.func 46) #[] #[]] w fun e w' => e = .returned (.int .i64 x) ∧ R w' := by
  have j5 := K.out.cell 5
  go_enter Try.func41, Try.ntmps41
  go_wp2_with fail
  refine hc.out.mono ?_
  rintro e w' ⟨rfl, hr⟩
  have HR := Lib.hid hr
  clear hr
  go_wp2_with fail
  go_ret
  exact ⟨rfl, HR.out⟩
theorem refused49 (b a0 a1 a2 : Nat) (v0 v1 v2 v3 v4 v6 v7 : Value) (x : Int) (R : World → Prop) (w : World) (K : Hid (Bk 64 w b #[v0, v1, v2, v3, v4, .bool false, v6, v7]))
    (hc : Hid (Calls Try.prog 49 #[.pointer (some ⟨a0, 0, none⟩), .pointer (some ⟨a1, 0, none⟩), .pointer (some ⟨a2, 0, none⟩)] w fun e w' => e = .returned (.int .i64 x) ∧ R w')) :
    Calls Try.prog 41 #[.pointer (some ⟨b, 0, none⟩), .func (.func 49) #[] #[.pointer (some ⟨a0, 0, none⟩), .pointer (some ⟨a1, 0, none⟩), .pointer (some ⟨a2, 0, none⟩)]] w fun e w' => e = .returned (.int .i64 x) ∧ R w' := by
  have j5 := K.out.cell 5
  go_enter Try.func41, Try.ntmps41
  go_wp2_with fail
  refine hc.out.mono ?_
  rintro e w' ⟨rfl, hr⟩
  have HR := Lib.hid hr
  clear hr
  go_wp2_with fail
  go_ret
  exact ⟨rfl, HR.out⟩
theorem refused52 (b a0 : Nat) (v0 v1 v2 v3 v4 v6 v7 : Value) (x : Int) (R : World → Prop) (w : World) (K : Hid (Bk 64 w b #[v0, v1, v2, v3, v4, .bool false, v6, v7]))
    (hc : Hid (Calls Try.prog 52 #[.pointer (some ⟨a0, 0, none⟩)] w fun e w' => e = .returned (.int .i64 x) ∧ R w')) :
    Calls Try.prog 41 #[.pointer (some ⟨b, 0, none⟩), .func (.func 52) #[] #[.pointer (some ⟨a0, 0, none⟩)]] w fun e w' => e = .returned (.int .i64 x) ∧ R w' := by
  have j5 := K.out.cell 5
  go_enter Try.func41, Try.ntmps41
  go_wp2_with fail
  refine hc.out.mono ?_
  rintro e w' ⟨rfl, hr⟩
  have HR := Lib.hid hr
  clear hr
  go_wp2_with fail
  go_ret
  exact ⟨rfl, HR.out⟩
theorem refused53 (b a0 a1 : Nat) (v0 v1 v2 v3 v4 v6 v7 : Value) (x : Int) (R : World → Prop) (w : World) (K : Hid (Bk 64 w b #[v0, v1, v2, v3, v4, .bool false, v6, v7]))
    (hc : Hid (Calls Try.prog 53 #[.pointer (some ⟨a0, 0, none⟩), .pointer (some ⟨a1, 0, none⟩)] w fun e w' => e = .returned (.int .i64 x) ∧ R w')) :
    Calls Try.prog 41 #[.pointer (some ⟨b, 0, none⟩), .func (.func 53) #[] #[.pointer (some ⟨a0, 0, none⟩), .pointer (some ⟨a1, 0, none⟩)]] w fun e w' => e = .returned (.int .i64 x) ∧ R w' := by
  have j5 := K.out.cell 5
  go_enter Try.func41, Try.ntmps41
  go_wp2_with fail
  refine hc.out.mono ?_
  rintro e w' ⟨rfl, hr⟩
  have HR := Lib.hid hr
  clear hr
  go_wp2_with fail
  go_ret
  exact ⟨rfl, HR.out⟩
theorem refused54 (b a0 a1 a2 : Nat) (v0 v1 v2 v3 v4 v6 v7 : Value) (x : Int) (R : World → Prop) (w : World) (K : Hid (Bk 64 w b #[v0, v1, v2, v3, v4, .bool false, v6, v7]))
    (hc : Hid (Calls Try.prog 54 #[.pointer (some ⟨a0, 0, none⟩), .pointer (some ⟨a1, 0, none⟩), .pointer (some ⟨a2, 0, none⟩)] w fun e w' => e = .returned (.int .i64 x) ∧ R w')) :
    Calls Try.prog 41 #[.pointer (some ⟨b, 0, none⟩), .func (.func 54) #[] #[.pointer (some ⟨a0, 0, none⟩), .pointer (some ⟨a1, 0, none⟩), .pointer (some ⟨a2, 0, none⟩)]] w fun e w' => e = .returned (.int .i64 x) ∧ R w' := by
  have j5 := K.out.cell 5
  go_enter Try.func41, Try.ntmps41
  go_wp2_with fail
  refine hc.out.mono ?_
  rintro e w' ⟨rfl, hr⟩
  have HR := Lib.hid hr
  clear hr
  go_wp2_with fail
  go_ret
  exact ⟨rfl, HR.out⟩
/-- the closures -/
theorem clo42 (a : Nat) (k : Int) (w : World) (h : w.cell? ⟨a, 0, none⟩ = some (.int .i64 k)) :
    Calls Try.prog 42 #[.pointer (some ⟨a, 0, none⟩)] w fun e w' => e = .returned (.int .i64 (if k < 0 then 1 else 0)) ∧ w = w' := by
  by_cases hk : k < 0
  · rw [if_pos hk]
    go_enter Try.func42, Try.ntmps42
    go_wp2_with fail
    go_ret
    exact ⟨rfl, rfl⟩
  · rw [if_neg hk]
    go_enter Try.func42, Try.ntmps42
    go_wp2_with fail
    go_ret
    exact ⟨rfl, rfl⟩
theorem clo46 (w : World) : Calls Try.prog 46 #[] w fun e w' => e = .returned (.int .i64 0) ∧ w = w' := by
  go_enter Try.func46, Try.ntmps46
  go_wp2_with fail
  go_ret
  exact ⟨rfl, rfl⟩
theorem clo52 (a : Nat) (f : Int) (w : World) (h : w.cell? ⟨a, 0, none⟩ = some (.int .i64 f)) :
    Calls Try.prog 52 #[.pointer (some ⟨a, 0, none⟩)] w fun e w' => e = .returned (.int .i64 (if St.there f then 0 else 90)) ∧ w = w' := by
  by_cases hk : St.there f = true
  · rw [if_pos hk]
    have HK := Lib.hid hk
    clear hk
    go_enter Try.func52, Try.ntmps52
    go_wp2_with fail
    refine (there_any _ _).mono ?_
    rintro e w' ⟨rfl, rfl⟩
    rw [HK.out]
    go_wp2_with fail
    go_ret
    exact ⟨rfl, rfl⟩
  · rw [if_neg hk]
    have HK := Lib.hid (show St.there f = false by simpa using hk)
    clear hk
    go_enter Try.func52, Try.ntmps52
    go_wp2_with fail
    refine (there_any _ _).mono ?_
    rintro e w' ⟨rfl, rfl⟩
    rw [HK.out]
    go_wp2_with fail
    go_ret
    exact ⟨rfl, rfl⟩
theorem clo53 (a c : Nat) (n k : Int) (w : World) (h : w.cell? ⟨a, 0, none⟩ = some (.int .i64 n)) (h' : w.cell? ⟨c, 0, none⟩ = some (.int .i64 k)) :
    Calls Try.prog 53 #[.pointer (some ⟨a, 0, none⟩), .pointer (some ⟨c, 0, none⟩)] w fun e w' => e = .returned (.int .i64 (if n < 0 ∨ k < 0 then 1 else 0)) ∧ w = w' := by
  by_cases hn : n < 0
  · rw [if_pos (.inl hn)]
    have hd : decide (n < 0) = true := by simpa using hn
    go_enter Try.func53, Try.ntmps53
    go_wp2_with fail
    go_ret
    exact ⟨rfl, rfl⟩
  · have hd : decide (n < 0) = false := by simpa using hn
    by_cases hk : k < 0
    · rw [if_pos (.inr hk)]
      have hd2 : decide (k < 0) = true := by simpa using hk
      go_enter Try.func53, Try.ntmps53
      go_wp2_with fail
      go_ret
      exact ⟨rfl, rfl⟩
    · rw [if_neg (by omega)]
      have hd2 : decide (k < 0) = false := by simpa using hk
      go_enter Try.func53, Try.ntmps53
      go_wp2_with fail
      go_ret
      exact ⟨rfl, rfl⟩
theorem hmf (fn : Fn) (first cap : Array Value) (w : World) : (Instr.makeFunc fn first cap).run Try.prog w = .ok (.func fn first cap) w := rfl
theorem Dk.gone {w : World} {p : Fp} {S : St} (h : Dk w p S) {g : Bool} (hg : S.gone = g) : Bk 64 w p.b #[.slice (some ⟨p.g0, 0, none⟩) S.f0.length p.c0, .int .i64 (S.s0 : Int), .slice (some ⟨p.g1, 0, none⟩) S.f1.length p.c1, .int .i64 (S.s1 : Int), p.rv, .bool g, .int .i64 (S.inn : Int), .int .i64 (S.lft : Int)] := hg ▸ h.blk
/-- what a call that may change a disk leaves -/
theorem Dk.new {w w' : World} {p : Fp} {S : St} (h : Dk w p S) (o : Obj) : Dk (w.alloc o) p S := h.below (by go_grown)
set_option maxHeartbeats 8000000 in
theorem crash_any (p : Fp) (S : St) (k : Int) (hkb : k ≤ 9223372036854775807) (w : World) (h : Dk w p S) :
    Calls Try.prog 16 #[p.v, .int .i64 k] w fun e w' => e = .returned (.int .i64 ((S.crash k).1 : Int)) ∧ ∃ p', Mut w p w' p' (S.crash k).2 := by
  have D1 := Lib.hid (h.new (w' := w) (.cells #[.int .i64 k] 3))
  have H := Lib.hid h
  have C0 : Hid ((w.alloc (.cells #[.int .i64 k] 3)).cell? ⟨w.heap.size, 0, none⟩ = some (.int .i64 k)) := Lib.hid ((Bk.new (t := 3) rfl).cell 0)
  have hM := hmf
  cases hg : S.gone
  · have KG := Lib.hid (D1.out.gone hg)
    by_cases hk : k < 0
    · have e : S.crash k = (1, S) := by simp [St.crash, hg, hk]
      rw [e]
      have R1 := clo42 w.heap.size k _ C0.out
      rw [if_pos hk] at R1
      have HR := Lib.hid R1
      clear e R1 hk hg h
      unfold Fp.v
      go_enter Try.func16, Try.ntmps16
      go_wp2_with fail
      refine (refused42 p.b _ _ _ _ _ _ _ _ _ _ _ KG HR).mono ?_
      rintro e w' ⟨rfl, rfl⟩
      go_wp2_with fail
      go_ret
      exact ⟨rfl, p, D1.out, rfl, (Only.refl _ _).alloc _, fun k h => .inl h⟩
    · have e : S.crash k = (0, S.lose k.toNat) := by simp [St.crash, hg, hk]
      rw [e]
      have R1 := clo42 w.heap.size k _ C0.out
      rw [if_neg hk] at R1
      have HR := Lib.hid R1
      obtain ⟨n, rfl⟩ : ∃ n : Nat, k = (n : Int) := ⟨k.toNat, by omega⟩
      rw [Int.toNat_natCast]
      have hnb : n ≤ 9223372036854775807 := by omega
      clear e R1 hk hg h
      unfold Fp.v
      go_enter Try.func16, Try.ntmps16
      go_wp2_with fail
      refine (refused42 p.b _ _ _ _ _ _ _ _ _ _ _ KG HR).mono ?_
      rintro e w' ⟨rfl, rfl⟩
      have c0 := C0.out
      go_wp2_with fail
      refine (lose_any p S n hnb _ D1.out).mono ?_
      rintro e w2 ⟨rfl, hd, ho⟩
      have D2 := Lib.hid hd
      have O2 := Lib.hid ho
      clear hd ho c0
      go_wp2_with fail
      go_ret
      exact ⟨rfl, p.nil, D2.out, rfl, ((Only.refl _ _).alloc _).trans O2.out (by simp [Fp.own]), fun k h => .inl (p.nil_own k h)⟩
  · have e : S.crash k = (2, S) := by simp [St.crash, hg]
    rw [e]
    have KG := Lib.hid (D1.out.gone hg)
    clear e hg h
    unfold Fp.v
    go_enter Try.func16, Try.ntmps16
    go_wp2_with fail
    refine (refused_gone p.b _ _ _ _ _ _ _ _ _ KG).mono ?_
    rintro e w' ⟨rfl, rfl⟩
    go_wp2_with fail
    go_ret
    exact ⟨rfl, p, D1.out, rfl, (Only.refl _ _).alloc _, fun k h => .inl h⟩
end Go.Proofs.Ytekagnhablkggaa
