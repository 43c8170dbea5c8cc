import Derived.Test.YtglmmodkflkkkaaXCi
import Derived.Laws.EntriesVeiled
import Derived.Test.YtglmmodkflkkkaaXCl
import Derived.Test.YtglmmodkflkkkaaXMm
import Derived.Test.YtglmmodkflkkkaaXMr
set_option linter.unusedVariables false
set_option linter.unusedSimpArgs false
set_option maxRecDepth 100000
namespace Go.Proofs.Ytglmmodkflkkkaa
open Go.RowKit Go.Sort Limbs
def J.tim (p : J) : Nat → J
  | 0 => J.far
  | n + 1 => (J.tim p n).plus p
theorem J.tim_ok {p : J} (hp : p.ok) : ∀ n, (p.tim n).ok
  | 0 => J.far_ok
  | n + 1 => J.plus_ok (J.tim_ok hp n) hp
def FV (p : J) (n : Nat) : Value := .func (.func 79) #[(p.tim n).v] #[]
def fk (p : J) (k j : Nat) : Value := if j < k then FV p j else .nilFunc
def fa (p : J) (k : Nat) : Array Value := ((List.range 16).map (fk p k)).toArray
theorem fa_0 (p : J) : fa p 0 = #[.nilFunc, .nilFunc, .nilFunc, .nilFunc, .nilFunc, .nilFunc, .nilFunc, .nilFunc, .nilFunc, .nilFunc, .nilFunc, .nilFunc, .nilFunc, .nilFunc, .nilFunc, .nilFunc] := rfl
theorem fa_get (p : J) (k j : Nat) (h : j < 16) : (fa p k)[j]? = some (fk p k j) := by
  unfold fa
  simp [h]
theorem fa_size (p : J) (k : Nat) : (fa p k).size = 16 := by simp [fa]
theorem fa_none (p : J) (k j : Nat) (h : ¬ j < 16) : (fa p k)[j]? = none := by
  rw [Array.getElem?_eq_none_iff, fa_size]; omega
theorem fa_set (p : J) (k : Nat) : (fa p k).setIfInBounds k (FV p k) = fa p (k + 1) := by
  apply Array.ext_getElem?
  intro i
  rw [Array.getElem?_setIfInBounds, fa_size]
  by_cases h : i < 16
  · rw [fa_get _ _ _ h, fa_get _ _ _ h]
    by_cases hk : k = i
    · subst hk
      rw [if_pos rfl, if_pos h]
      unfold fk
      rw [if_pos (by omega)]
    · rw [if_neg hk]
      unfold fk
      by_cases hi : i < k
      · rw [if_pos hi, if_pos (by omega)]
      · rw [if_neg hi, if_neg (by omega)]
  · rw [fa_none _ _ _ h, fa_none _ _ _ h]
    by_cases hk : k = i
    · subst hk; rw [if_pos rfl, if_neg h]
    · rw [if_neg hk]
def fv (p : J) : Value := .agg #[FV p 0, FV p 1, FV p 2, FV p 3, FV p 4, FV p 5, FV p 6, FV p 7, FV p 8, FV p 9, FV p 10, FV p 11, FV p 12, FV p 13, FV p 14, FV p 15]
theorem u98 : Try.prog.underlying 98 = some (.array 16 95) := by kernel_rfl
theorem i98 : (Try.prog.info? 98).map (·.size) = some 16 := by kernel_rfl
theorem tim_0 (p : J) : cs12 (p.tim 0).x (p.tim 0).y (p.tim 0).z = #[.int .u64 0, .int .u64 0, .int .u64 0, .int .u64 0, .int .u64 0, .int .u64 0, .int .u64 0, .int .u64 0, .int .u64 0, .int .u64 0, .int .u64 0, .int .u64 0] := by simp [J.tim, J.far, cs12, lb]
theorem fk_at (p : J) (k : Nat) : fk p k k = .nilFunc := by unfold fk; rw [if_neg (by omega)]
theorem ret_cell98 {fn : Func} {R : Ending → World → Prop} {a : Act} {w : World} {q : Tmp} (h : fn.results = #[.cell q 98]) (g : Nat) (p : J) (hp : a.tmps.getD q undef = .pointer (some ⟨g, 0, none⟩)) (hk : Bk 98 w g (fa p 16)) (hd : a.defers = []) (hR : R (.returned (fv p)) w) : bodyPost Try.prog fn R .ret a w :=
  bodyPost_ret (v := fv p) (results_cell_row h a.tmps w g 98 (fa p 16) (0, 0) _ hp hk u98 rfl i98) hd hR
set_option maxHeartbeats 16000000 in
theorem adders_c (p : J) (hp : p.ok) (w : World) :
    Calls Try.prog 83 #[p.v] w fun e w' => e = .returned (fv p) ∧ Below w.heap.size w w' := by
  have HPL := Lib.hid (fun k => plusj (J.tim_ok hp k) hp)
  have hmf : ∀ (fn : Fn) (first cap : Array Value) (w : World), (Instr.makeFunc fn first cap).run Try.prog w = .ok (.func fn first cap) w := fun _ _ _ _ => rfl
  have HV : Hid (∀ k, FV p k = .func (.func 79) #[jn (p.tim k).x (p.tim k).y (p.tim k).z] #[]) := Lib.hid (fun k => rfl)
  have hpv : p.v = .agg (cs12 p.x p.y p.z) := rfl
  rw [hpv]
  clear hpv
  obtain ⟨x, hx⟩ : ∃ z, z = p.x := ⟨_, rfl⟩
  obtain ⟨y, hy⟩ : ∃ z, z = p.y := ⟨_, rfl⟩
  obtain ⟨z, hz⟩ : ∃ z, z = p.z := ⟨_, rfl⟩
  have HPV : Hid (p.v = .agg #[.int .u64 (lb x 0 : Nat), .int .u64 (lb x 1 : Nat), .int .u64 (lb x 2 : Nat), .int .u64 (lb x 3 : Nat), .int .u64 (lb y 0 : Nat), .int .u64 (lb y 1 : Nat), .int .u64 (lb y 2 : Nat), .int .u64 (lb y 3 : Nat), .int .u64 (lb z 0 : Nat), .int .u64 (lb z 1 : Nat), .int .u64 (lb z 2 : Nat), .int .u64 (lb z 3 : Nat)]) := Lib.hid (by rw [hx, hy, hz]; rfl)
  rw [← hx, ← hy, ← hz]
  clear hx hy hz hp
  unfold cs12
  go_enter Try.func83, Try.ntmps83
  go_wp2_with fail
  have KP : Hid (Bk 93 ((((w.alloc (.cells #[.int .u64 (lb x 0 : Nat), .int .u64 (lb x 1 : Nat), .int .u64 (lb x 2 : Nat), .int .u64 (lb x 3 : Nat), .int .u64 (lb y 0 : Nat), .int .u64 (lb y 1 : Nat), .int .u64 (lb y 2 : Nat), .int .u64 (lb y 3 : Nat), .int .u64 (lb z 0 : Nat), .int .u64 (lb z 1 : Nat), .int .u64 (lb z 2 : Nat), .int .u64 (lb z 3 : Nat)] 93)).alloc (.cells #[.nilFunc, .nilFunc, .nilFunc, .nilFunc, .nilFunc, .nilFunc, .nilFunc, .nilFunc, .nilFunc, .nilFunc, .nilFunc, .nilFunc, .nilFunc, .nilFunc, .nilFunc, .nilFunc] 98)).alloc (.cells #[.nilFunc, .nilFunc, .nilFunc, .nilFunc, .nilFunc, .nilFunc, .nilFunc, .nilFunc, .nilFunc, .nilFunc, .nilFunc, .nilFunc, .nilFunc, .nilFunc, .nilFunc, .nilFunc] 98)).alloc (.cells #[.int .u64 0, .int .u64 0, .int .u64 0, .int .u64 0, .int .u64 0, .int .u64 0, .int .u64 0, .int .u64 0, .int .u64 0, .int .u64 0, .int .u64 0, .int .u64 0] 93)) w.heap.size #[.int .u64 (lb x 0 : Nat), .int .u64 (lb x 1 : Nat), .int .u64 (lb x 2 : Nat), .int .u64 (lb x 3 : Nat), .int .u64 (lb y 0 : Nat), .int .u64 (lb y 1 : Nat), .int .u64 (lb y 2 : Nat), .int .u64 (lb y 3 : Nat), .int .u64 (lb z 0 : Nat), .int .u64 (lb z 1 : Nat), .int .u64 (lb z 2 : Nat), .int .u64 (lb z 3 : Nat)]) := Lib.hid (Bk.alloc (Bk.alloc (Bk.alloc (Bk.new rfl))))
  have KR : Hid (Bk 98 ((((w.alloc (.cells #[.int .u64 (lb x 0 : Nat), .int .u64 (lb x 1 : Nat), .int .u64 (lb x 2 : Nat), .int .u64 (lb x 3 : Nat), .int .u64 (lb y 0 : Nat), .int .u64 (lb y 1 : Nat), .int .u64 (lb y 2 : Nat), .int .u64 (lb y 3 : Nat), .int .u64 (lb z 0 : Nat), .int .u64 (lb z 1 : Nat), .int .u64 (lb z 2 : Nat), .int .u64 (lb z 3 : Nat)] 93)).alloc (.cells #[.nilFunc, .nilFunc, .nilFunc, .nilFunc, .nilFunc, .nilFunc, .nilFunc, .nilFunc, .nilFunc, .nilFunc, .nilFunc, .nilFunc, .nilFunc, .nilFunc, .nilFunc, .nilFunc] 98)).alloc (.cells #[.nilFunc, .nilFunc, .nilFunc, .nilFunc, .nilFunc, .nilFunc, .nilFunc, .nilFunc, .nilFunc, .nilFunc, .nilFunc, .nilFunc, .nilFunc, .nilFunc, .nilFunc, .nilFunc] 98)).alloc (.cells #[.int .u64 0, .int .u64 0, .int .u64 0, .int .u64 0, .int .u64 0, .int .u64 0, .int .u64 0, .int .u64 0, .int .u64 0, .int .u64 0, .int .u64 0, .int .u64 0] 93)) (w.heap.size + 1) (fa p 0)) := Lib.hid (by rw [fa_0]; exact Bk.alloc (Bk.alloc (Bk.new (by simp))))
  have KL : Hid (Bk 98 ((((w.alloc (.cells #[.int .u64 (lb x 0 : Nat), .int .u64 (lb x 1 : Nat), .int .u64 (lb x 2 : Nat), .int .u64 (lb x 3 : Nat), .int .u64 (lb y 0 : Nat), .int .u64 (lb y 1 : Nat), .int .u64 (lb y 2 : Nat), .int .u64 (lb y 3 : Nat), .int .u64 (lb z 0 : Nat), .int .u64 (lb z 1 : Nat), .int .u64 (lb z 2 : Nat), .int .u64 (lb z 3 : Nat)] 93)).alloc (.cells #[.nilFunc, .nilFunc, .nilFunc, .nilFunc, .nilFunc, .nilFunc, .nilFunc, .nilFunc, .nilFunc, .nilFunc, .nilFunc, .nilFunc, .nilFunc, .nilFunc, .nilFunc, .nilFunc] 98)).alloc (.cells #[.nilFunc, .nilFunc, .nilFunc, .nilFunc, .nilFunc, .nilFunc, .nilFunc, .nilFunc, .nilFunc, .nilFunc, .nilFunc, .nilFunc, .nilFunc, .nilFunc, .nilFunc, .nilFunc] 98)).alloc (.cells #[.int .u64 0, .int .u64 0, .int .u64 0, .int .u64 0, .int .u64 0, .int .u64 0, .int .u64 0, .int .u64 0, .int .u64 0, .int .u64 0, .int .u64 0, .int .u64 0] 93)) (w.heap.size + 1 + 1) (fa p 0)) := Lib.hid (by rw [fa_0]; exact Bk.alloc (Bk.new (by simp)))
  have KT : Hid (Bk 93 ((((w.alloc (.cells #[.int .u64 (lb x 0 : Nat), .int .u64 (lb x 1 : Nat), .int .u64 (lb x 2 : Nat), .int .u64 (lb x 3 : Nat), .int .u64 (lb y 0 : Nat), .int .u64 (lb y 1 : Nat), .int .u64 (lb y 2 : Nat), .int .u64 (lb y 3 : Nat), .int .u64 (lb z 0 : Nat), .int .u64 (lb z 1 : Nat), .int .u64 (lb z 2 : Nat), .int .u64 (lb z 3 : Nat)] 93)).alloc (.cells #[.nilFunc, .nilFunc, .nilFunc, .nilFunc, .nilFunc, .nilFunc, .nilFunc, .nilFunc, .nilFunc, .nilFunc, .nilFunc, .nilFunc, .nilFunc, .nilFunc, .nilFunc, .nilFunc] 98)).alloc (.cells #[.nilFunc, .nilFunc, .nilFunc, .nilFunc, .nilFunc, .nilFunc, .nilFunc, .nilFunc, .nilFunc, .nilFunc, .nilFunc, .nilFunc, .nilFunc, .nilFunc, .nilFunc, .nilFunc] 98)).alloc (.cells #[.int .u64 0, .int .u64 0, .int .u64 0, .int .u64 0, .int .u64 0, .int .u64 0, .int .u64 0, .int .u64 0, .int .u64 0, .int .u64 0, .int .u64 0, .int .u64 0] 93)) (w.heap.size + 1 + 1 + 1) (cs12 (p.tim 0).x (p.tim 0).y (p.tim 0).z)) := Lib.hid (by rw [tim_0]; exact Bk.new (by simp))
  have HB : Hid (Below w.heap.size w ((((w.alloc (.cells #[.int .u64 (lb x 0 : Nat), .int .u64 (lb x 1 : Nat), .int .u64 (lb x 2 : Nat), .int .u64 (lb x 3 : Nat), .int .u64 (lb y 0 : Nat), .int .u64 (lb y 1 : Nat), .int .u64 (lb y 2 : Nat), .int .u64 (lb y 3 : Nat), .int .u64 (lb z 0 : Nat), .int .u64 (lb z 1 : Nat), .int .u64 (lb z 2 : Nat), .int .u64 (lb z 3 : Nat)] 93)).alloc (.cells #[.nilFunc, .nilFunc, .nilFunc, .nilFunc, .nilFunc, .nilFunc, .nilFunc, .nilFunc, .nilFunc, .nilFunc, .nilFunc, .nilFunc, .nilFunc, .nilFunc, .nilFunc, .nilFunc] 98)).alloc (.cells #[.nilFunc, .nilFunc, .nilFunc, .nilFunc, .nilFunc, .nilFunc, .nilFunc, .nilFunc, .nilFunc, .nilFunc, .nilFunc, .nilFunc, .nilFunc, .nilFunc, .nilFunc, .nilFunc] 98)).alloc (.cells #[.int .u64 0, .int .u64 0, .int .u64 0, .int .u64 0, .int .u64 0, .int .u64 0, .int .u64 0, .int .u64 0, .int .u64 0, .int .u64 0, .int .u64 0, .int .u64 0] 93))) := Lib.hid (by go_grown)
  generalize ((((w.alloc (.cells #[.int .u64 (lb x 0 : Nat), .int .u64 (lb x 1 : Nat), .int .u64 (lb x 2 : Nat), .int .u64 (lb x 3 : Nat), .int .u64 (lb y 0 : Nat), .int .u64 (lb y 1 : Nat), .int .u64 (lb y 2 : Nat), .int .u64 (lb y 3 : Nat), .int .u64 (lb z 0 : Nat), .int .u64 (lb z 1 : Nat), .int .u64 (lb z 2 : Nat), .int .u64 (lb z 3 : Nat)] 93)).alloc (.cells #[.nilFunc, .nilFunc, .nilFunc, .nilFunc, .nilFunc, .nilFunc, .nilFunc, .nilFunc, .nilFunc, .nilFunc, .nilFunc, .nilFunc, .nilFunc, .nilFunc, .nilFunc, .nilFunc] 98)).alloc (.cells #[.nilFunc, .nilFunc, .nilFunc, .nilFunc, .nilFunc, .nilFunc, .nilFunc, .nilFunc, .nilFunc, .nilFunc, .nilFunc, .nilFunc, .nilFunc, .nilFunc, .nilFunc, .nilFunc] 98)).alloc (.cells #[.int .u64 0, .int .u64 0, .int .u64 0, .int .u64 0, .int .u64 0, .int .u64 0, .int .u64 0, .int .u64 0, .int .u64 0, .int .u64 0, .int .u64 0, .int .u64 0] 93)) = W at KP KR KL KT HB ⊢
  obtain ⟨gr, hgr⟩ : ∃ z, z = w.heap.size + 1 := ⟨_, rfl⟩
  obtain ⟨gl, hgl⟩ : ∃ z, z = w.heap.size + 1 + 1 := ⟨_, rfl⟩
  obtain ⟨gt, hgt⟩ : ∃ z, z = w.heap.size + 1 + 1 + 1 := ⟨_, rfl⟩
  rw [← hgr] at KR
  rw [← hgl] at KL
  rw [← hgt] at KT
  rw [← hgt, ← hgl, ← hgr]
  obtain ⟨gp, hgp⟩ : ∃ z, z = w.heap.size := ⟨_, rfl⟩
  have e : (Value.pointer (some ⟨w.heap.size, 0, none⟩)) = .pointer (some ⟨gp, 0, none⟩) := by rw [hgp]
  rw [e]
  rw [← hgp] at KP
  have HG : Hid ((w.heap.size ≤ gp ∧ w.heap.size ≤ gr ∧ w.heap.size ≤ gl ∧ w.heap.size ≤ gt) ∧ (gp ≠ gr ∧ gp ≠ gl ∧ gp ≠ gt) ∧ (gr ≠ gl ∧ gr ≠ gt ∧ gl ≠ gt)) := Lib.hid ⟨⟨by omega, by omega, by omega, by omega⟩, ⟨by omega, by omega, by omega⟩, by omega, by omega, by omega⟩
  clear e hgr hgl hgt hgp
  go_loopw [6] (fun b wr => ∃ k : Nat, k ≤ 16 ∧ b = .int .i64 (k : Int) ∧ Bk 93 wr gp #[.int .u64 (lb x 0 : Nat), .int .u64 (lb x 1 : Nat), .int .u64 (lb x 2 : Nat), .int .u64 (lb x 3 : Nat), .int .u64 (lb y 0 : Nat), .int .u64 (lb y 1 : Nat), .int .u64 (lb y 2 : Nat), .int .u64 (lb y 3 : Nat), .int .u64 (lb z 0 : Nat), .int .u64 (lb z 1 : Nat), .int .u64 (lb z 2 : Nat), .int .u64 (lb z 3 : Nat)] ∧ Bk 98 wr gr (fa p 0) ∧ Bk 98 wr gl (fa p k) ∧ Bk 93 wr gt (cs12 (p.tim k).x (p.tim k).y (p.tim k).z) ∧ Below w.heap.size w wr) (fun b _ => 16 - (intOf b).toNat)
  case atStart => exact ⟨0, by omega, rfl, KP.out, KR.out, KL.out, KT.out, HB.out⟩
  case round =>
    clear KP KR KL KT HB
    obtain ⟨k, hk, rfl, kp, kr, kl, kt, hb⟩ := hrel
    have KP := Lib.hid kp
    have KR := Lib.hid kr
    have KL := Lib.hid kl
    have KT := Lib.hid kt
    have HB := Lib.hid hb
    clear kp kr kl kt hb
    by_cases hlt : k < 16
    · have HP2 := Lib.hid (HPL.out k)
      rw [show (p.tim k).plus p = p.tim (k + 1) from rfl] at HP2
      have HP3 := Lib.hid HP2.out
      rw [HPV.out] at HP3
      have HV2 := HV.out k
      generalize hT : p.tim k = T at *
      generalize hT2 : p.tim (k + 1) = T2 at *
      have HT := Lib.hid hT
      have HT2 := Lib.hid hT2
      clear hT hT2 HP2
      obtain ⟨tx, ty, tz⟩ := T
      obtain ⟨ux, uy, uz⟩ := T2
      simp only [J.v, jn] at HP3 HV2 KT
      have HVK := Lib.hid HV2
      clear HV2
      have k0 : wr.cell? ⟨gl, k, none⟩ = some .nilFunc := (KL.out.cell k).trans ((fa_get p k k hlt).trans (by rw [fk_at]))
      have k1 : wr.frozen? ⟨gl, k, none⟩ = false := KL.out.fro k
      have t0 : wr.cell? ⟨gt, 0, none⟩ = some (.int .u64 (lb tx 0 : Nat)) := KT.out.cell 0
      have t1 : wr.cell? ⟨gt, 1, none⟩ = some (.int .u64 (lb tx 1 : Nat)) := KT.out.cell 1
      have t2 : wr.cell? ⟨gt, 2, none⟩ = some (.int .u64 (lb tx 2 : Nat)) := KT.out.cell 2
      have t3 : wr.cell? ⟨gt, 3, none⟩ = some (.int .u64 (lb tx 3 : Nat)) := KT.out.cell 3
      have t4 : wr.cell? ⟨gt, 4, none⟩ = some (.int .u64 (lb ty 0 : Nat)) := KT.out.cell 4
      have t5 : wr.cell? ⟨gt, 5, none⟩ = some (.int .u64 (lb ty 1 : Nat)) := KT.out.cell 5
      have t6 : wr.cell? ⟨gt, 6, none⟩ = some (.int .u64 (lb ty 2 : Nat)) := KT.out.cell 6
      have t7 : wr.cell? ⟨gt, 7, none⟩ = some (.int .u64 (lb ty 3 : Nat)) := KT.out.cell 7
      have t8 : wr.cell? ⟨gt, 8, none⟩ = some (.int .u64 (lb tz 0 : Nat)) := KT.out.cell 8
      have t9 : wr.cell? ⟨gt, 9, none⟩ = some (.int .u64 (lb tz 1 : Nat)) := KT.out.cell 9
      have t10 : wr.cell? ⟨gt, 10, none⟩ = some (.int .u64 (lb tz 2 : Nat)) := KT.out.cell 10
      have t11 : wr.cell? ⟨gt, 11, none⟩ = some (.int .u64 (lb tz 3 : Nat)) := KT.out.cell 11
      have a0 : ∀ v, (wr.setCell ⟨gl, k, none⟩ v).cell? ⟨gt, 0, none⟩ = some (.int .u64 (lb tx 0 : Nat)) := fun v => (Bk.oth (a := ⟨gl, k, none⟩) (Ne.symm HG.out.2.2.2.2) KT.out).cell 0
      have a1 : ∀ v, (wr.setCell ⟨gl, k, none⟩ v).cell? ⟨gt, 1, none⟩ = some (.int .u64 (lb tx 1 : Nat)) := fun v => (Bk.oth (a := ⟨gl, k, none⟩) (Ne.symm HG.out.2.2.2.2) KT.out).cell 1
      have a2 : ∀ v, (wr.setCell ⟨gl, k, none⟩ v).cell? ⟨gt, 2, none⟩ = some (.int .u64 (lb tx 2 : Nat)) := fun v => (Bk.oth (a := ⟨gl, k, none⟩) (Ne.symm HG.out.2.2.2.2) KT.out).cell 2
      have a3 : ∀ v, (wr.setCell ⟨gl, k, none⟩ v).cell? ⟨gt, 3, none⟩ = some (.int .u64 (lb tx 3 : Nat)) := fun v => (Bk.oth (a := ⟨gl, k, none⟩) (Ne.symm HG.out.2.2.2.2) KT.out).cell 3
      have a4 : ∀ v, (wr.setCell ⟨gl, k, none⟩ v).cell? ⟨gt, 4, none⟩ = some (.int .u64 (lb ty 0 : Nat)) := fun v => (Bk.oth (a := ⟨gl, k, none⟩) (Ne.symm HG.out.2.2.2.2) KT.out).cell 4
      have a5 : ∀ v, (wr.setCell ⟨gl, k, none⟩ v).cell? ⟨gt, 5, none⟩ = some (.int .u64 (lb ty 1 : Nat)) := fun v => (Bk.oth (a := ⟨gl, k, none⟩) (Ne.symm HG.out.2.2.2.2) KT.out).cell 5
      have a6 : ∀ v, (wr.setCell ⟨gl, k, none⟩ v).cell? ⟨gt, 6, none⟩ = some (.int .u64 (lb ty 2 : Nat)) := fun v => (Bk.oth (a := ⟨gl, k, none⟩) (Ne.symm HG.out.2.2.2.2) KT.out).cell 6
      have a7 : ∀ v, (wr.setCell ⟨gl, k, none⟩ v).cell? ⟨gt, 7, none⟩ = some (.int .u64 (lb ty 3 : Nat)) := fun v => (Bk.oth (a := ⟨gl, k, none⟩) (Ne.symm HG.out.2.2.2.2) KT.out).cell 7
      have a8 : ∀ v, (wr.setCell ⟨gl, k, none⟩ v).cell? ⟨gt, 8, none⟩ = some (.int .u64 (lb tz 0 : Nat)) := fun v => (Bk.oth (a := ⟨gl, k, none⟩) (Ne.symm HG.out.2.2.2.2) KT.out).cell 8
      have a9 : ∀ v, (wr.setCell ⟨gl, k, none⟩ v).cell? ⟨gt, 9, none⟩ = some (.int .u64 (lb tz 1 : Nat)) := fun v => (Bk.oth (a := ⟨gl, k, none⟩) (Ne.symm HG.out.2.2.2.2) KT.out).cell 9
      have a10 : ∀ v, (wr.setCell ⟨gl, k, none⟩ v).cell? ⟨gt, 10, none⟩ = some (.int .u64 (lb tz 2 : Nat)) := fun v => (Bk.oth (a := ⟨gl, k, none⟩) (Ne.symm HG.out.2.2.2.2) KT.out).cell 10
      have a11 : ∀ v, (wr.setCell ⟨gl, k, none⟩ v).cell? ⟨gt, 11, none⟩ = some (.int .u64 (lb tz 3 : Nat)) := fun v => (Bk.oth (a := ⟨gl, k, none⟩) (Ne.symm HG.out.2.2.2.2) KT.out).cell 11
      have b0 : ∀ v, (wr.setCell ⟨gl, k, none⟩ v).cell? ⟨gp, 0, none⟩ = some (.int .u64 (lb x 0 : Nat)) := fun v => (Bk.oth (a := ⟨gl, k, none⟩) HG.out.2.1.2.1 KP.out).cell 0
      have b1 : ∀ v, (wr.setCell ⟨gl, k, none⟩ v).cell? ⟨gp, 1, none⟩ = some (.int .u64 (lb x 1 : Nat)) := fun v => (Bk.oth (a := ⟨gl, k, none⟩) HG.out.2.1.2.1 KP.out).cell 1
      have b2 : ∀ v, (wr.setCell ⟨gl, k, none⟩ v).cell? ⟨gp, 2, none⟩ = some (.int .u64 (lb x 2 : Nat)) := fun v => (Bk.oth (a := ⟨gl, k, none⟩) HG.out.2.1.2.1 KP.out).cell 2
      have b3 : ∀ v, (wr.setCell ⟨gl, k, none⟩ v).cell? ⟨gp, 3, none⟩ = some (.int .u64 (lb x 3 : Nat)) := fun v => (Bk.oth (a := ⟨gl, k, none⟩) HG.out.2.1.2.1 KP.out).cell 3
      have b4 : ∀ v, (wr.setCell ⟨gl, k, none⟩ v).cell? ⟨gp, 4, none⟩ = some (.int .u64 (lb y 0 : Nat)) := fun v => (Bk.oth (a := ⟨gl, k, none⟩) HG.out.2.1.2.1 KP.out).cell 4
      have b5 : ∀ v, (wr.setCell ⟨gl, k, none⟩ v).cell? ⟨gp, 5, none⟩ = some (.int .u64 (lb y 1 : Nat)) := fun v => (Bk.oth (a := ⟨gl, k, none⟩) HG.out.2.1.2.1 KP.out).cell 5
      have b6 : ∀ v, (wr.setCell ⟨gl, k, none⟩ v).cell? ⟨gp, 6, none⟩ = some (.int .u64 (lb y 2 : Nat)) := fun v => (Bk.oth (a := ⟨gl, k, none⟩) HG.out.2.1.2.1 KP.out).cell 6
      have b7 : ∀ v, (wr.setCell ⟨gl, k, none⟩ v).cell? ⟨gp, 7, none⟩ = some (.int .u64 (lb y 3 : Nat)) := fun v => (Bk.oth (a := ⟨gl, k, none⟩) HG.out.2.1.2.1 KP.out).cell 7
      have b8 : ∀ v, (wr.setCell ⟨gl, k, none⟩ v).cell? ⟨gp, 8, none⟩ = some (.int .u64 (lb z 0 : Nat)) := fun v => (Bk.oth (a := ⟨gl, k, none⟩) HG.out.2.1.2.1 KP.out).cell 8
      have b9 : ∀ v, (wr.setCell ⟨gl, k, none⟩ v).cell? ⟨gp, 9, none⟩ = some (.int .u64 (lb z 1 : Nat)) := fun v => (Bk.oth (a := ⟨gl, k, none⟩) HG.out.2.1.2.1 KP.out).cell 9
      have b10 : ∀ v, (wr.setCell ⟨gl, k, none⟩ v).cell? ⟨gp, 10, none⟩ = some (.int .u64 (lb z 2 : Nat)) := fun v => (Bk.oth (a := ⟨gl, k, none⟩) HG.out.2.1.2.1 KP.out).cell 10
      have b11 : ∀ v, (wr.setCell ⟨gl, k, none⟩ v).cell? ⟨gp, 11, none⟩ = some (.int .u64 (lb z 3 : Nat)) := fun v => (Bk.oth (a := ⟨gl, k, none⟩) HG.out.2.1.2.1 KP.out).cell 11
      have hk0 : ((k : Nat) : Int).toNat = k := by omega
      go_wp2_with fail
      have KL2 : Hid (Bk 98 (wr.setCell ⟨gl, k, none⟩ (.func (.func 79) #[.agg #[.int .u64 (lb tx 0 : Nat), .int .u64 (lb tx 1 : Nat), .int .u64 (lb tx 2 : Nat), .int .u64 (lb tx 3 : Nat), .int .u64 (lb ty 0 : Nat), .int .u64 (lb ty 1 : Nat), .int .u64 (lb ty 2 : Nat), .int .u64 (lb ty 3 : Nat), .int .u64 (lb tz 0 : Nat), .int .u64 (lb tz 1 : Nat), .int .u64 (lb tz 2 : Nat), .int .u64 (lb tz 3 : Nat)]] #[])) gl (fa p (k + 1))) := Lib.hid (by
        rw [← fa_set, HVK.out]
        exact Bk.same KL.out)
      have KP2 : Hid (Bk 93 (wr.setCell ⟨gl, k, none⟩ (.func (.func 79) #[.agg #[.int .u64 (lb tx 0 : Nat), .int .u64 (lb tx 1 : Nat), .int .u64 (lb tx 2 : Nat), .int .u64 (lb tx 3 : Nat), .int .u64 (lb ty 0 : Nat), .int .u64 (lb ty 1 : Nat), .int .u64 (lb ty 2 : Nat), .int .u64 (lb ty 3 : Nat), .int .u64 (lb tz 0 : Nat), .int .u64 (lb tz 1 : Nat), .int .u64 (lb tz 2 : Nat), .int .u64 (lb tz 3 : Nat)]] #[])) gp #[.int .u64 (lb x 0 : Nat), .int .u64 (lb x 1 : Nat), .int .u64 (lb x 2 : Nat), .int .u64 (lb x 3 : Nat), .int .u64 (lb y 0 : Nat), .int .u64 (lb y 1 : Nat), .int .u64 (lb y 2 : Nat), .int .u64 (lb y 3 : Nat), .int .u64 (lb z 0 : Nat), .int .u64 (lb z 1 : Nat), .int .u64 (lb z 2 : Nat), .int .u64 (lb z 3 : Nat)]) := Lib.hid (Bk.oth (a := ⟨gl, k, none⟩) HG.out.2.1.2.1 KP.out)
      have KR2 : Hid (Bk 98 (wr.setCell ⟨gl, k, none⟩ (.func (.func 79) #[.agg #[.int .u64 (lb tx 0 : Nat), .int .u64 (lb tx 1 : Nat), .int .u64 (lb tx 2 : Nat), .int .u64 (lb tx 3 : Nat), .int .u64 (lb ty 0 : Nat), .int .u64 (lb ty 1 : Nat), .int .u64 (lb ty 2 : Nat), .int .u64 (lb ty 3 : Nat), .int .u64 (lb tz 0 : Nat), .int .u64 (lb tz 1 : Nat), .int .u64 (lb tz 2 : Nat), .int .u64 (lb tz 3 : Nat)]] #[])) gr (fa p 0)) := Lib.hid (Bk.oth (a := ⟨gl, k, none⟩) HG.out.2.2.1 KR.out)
      have KT2 : Hid (Bk 93 (wr.setCell ⟨gl, k, none⟩ (.func (.func 79) #[.agg #[.int .u64 (lb tx 0 : Nat), .int .u64 (lb tx 1 : Nat), .int .u64 (lb tx 2 : Nat), .int .u64 (lb tx 3 : Nat), .int .u64 (lb ty 0 : Nat), .int .u64 (lb ty 1 : Nat), .int .u64 (lb ty 2 : Nat), .int .u64 (lb ty 3 : Nat), .int .u64 (lb tz 0 : Nat), .int .u64 (lb tz 1 : Nat), .int .u64 (lb tz 2 : Nat), .int .u64 (lb tz 3 : Nat)]] #[])) gt (cs12 tx ty tz)) := Lib.hid (Bk.oth (a := ⟨gl, k, none⟩) (Ne.symm HG.out.2.2.2.2) KT.out)
      have HB2 : Hid (Below w.heap.size w (wr.setCell ⟨gl, k, none⟩ (.func (.func 79) #[.agg #[.int .u64 (lb tx 0 : Nat), .int .u64 (lb tx 1 : Nat), .int .u64 (lb tx 2 : Nat), .int .u64 (lb tx 3 : Nat), .int .u64 (lb ty 0 : Nat), .int .u64 (lb ty 1 : Nat), .int .u64 (lb ty 2 : Nat), .int .u64 (lb ty 3 : Nat), .int .u64 (lb tz 0 : Nat), .int .u64 (lb tz 1 : Nat), .int .u64 (lb tz 2 : Nat), .int .u64 (lb tz 3 : Nat)]] #[]))) := Lib.hid (by have hb := HB.out; have hg := HG.out.1.2.2.1; go_grown)
      generalize (wr.setCell ⟨gl, k, none⟩ (.func (.func 79) #[.agg #[.int .u64 (lb tx 0 : Nat), .int .u64 (lb tx 1 : Nat), .int .u64 (lb tx 2 : Nat), .int .u64 (lb tx 3 : Nat), .int .u64 (lb ty 0 : Nat), .int .u64 (lb ty 1 : Nat), .int .u64 (lb ty 2 : Nat), .int .u64 (lb ty 3 : Nat), .int .u64 (lb tz 0 : Nat), .int .u64 (lb tz 1 : Nat), .int .u64 (lb tz 2 : Nat), .int .u64 (lb tz 3 : Nat)]] #[])) = W2 at KL2 KP2 KR2 KT2 HB2 ⊢
      clear KL KP KR KT HB k0 k1 t0 a0 b0 t1 a1 b1 t2 a2 b2 t3 a3 b3 t4 a4 b4 t5 a5 b5 t6 a6 b6 t7 a7 b7 t8 a8 b8 t9 a9 b9 t10 a10 b10 t11 a11 b11
      refine (keep w.heap.size w (HP3.out _) HB2.out (Nat.le_refl _)).mono ?_
      rintro e w3 ⟨rfl, hb, hkk⟩
      have KL3 := Lib.hid (KL2.out.below hkk)
      have KP3 := Lib.hid (KP2.out.below hkk)
      have KR3 := Lib.hid (KR2.out.below hkk)
      have KT3 := Lib.hid (KT2.out.below hkk)
      have HB3 := Lib.hid hb
      clear hb hkk KL2 KP2 KR2 KT2 HB2
      obtain ⟨⟨f0, f1, f2, f3⟩, ⟨f4, f5, f6, f7⟩, f8, f9, f10, f11⟩ := KT3.out.fros12
      obtain ⟨⟨c0, c1, c2, c3⟩, ⟨c4, c5, c6, c7⟩, c8, c9, c10, c11⟩ := KT3.out.cells12
      go_wp2_with fail
      go_round
      case rel =>
        refine ⟨k + 1, by omega, by go_num, Bk.puto12 HG.out.2.1.2.2 KP3.out, Bk.puto12 HG.out.2.2.2.1 KR3.out, Bk.puto12 HG.out.2.2.2.2 KL3.out, ?_, ?_⟩
        · rw [HT2.out]; exact Bk.put12 KT3.out
        · have hb := HB3.out
          have hg := HG.out.1.2.2.2
          go_grown
      case measure => simp [intOf]; omega
    · obtain rfl : k = 16 := by omega
      have l0 : wr.cell? ⟨gl, 0, none⟩ = some (.func (.func 79) #[(p.tim 0).v] #[]) := (KL.out.cell 0).trans (fa_get p 16 0 (by decide))
      have r0 : wr.cell? ⟨gr, 0, none⟩ = some .nilFunc := (KR.out.cell 0).trans (fa_get p 0 0 (by decide))
      have f0 : wr.frozen? ⟨gr, 0, none⟩ = false := KR.out.fro 0
      have l1 : wr.cell? ⟨gl, 1, none⟩ = some (.func (.func 79) #[(p.tim 1).v] #[]) := (KL.out.cell 1).trans (fa_get p 16 1 (by decide))
      have r1 : wr.cell? ⟨gr, 1, none⟩ = some .nilFunc := (KR.out.cell 1).trans (fa_get p 0 1 (by decide))
      have f1 : wr.frozen? ⟨gr, 1, none⟩ = false := KR.out.fro 1
      have l2 : wr.cell? ⟨gl, 2, none⟩ = some (.func (.func 79) #[(p.tim 2).v] #[]) := (KL.out.cell 2).trans (fa_get p 16 2 (by decide))
      have r2 : wr.cell? ⟨gr, 2, none⟩ = some .nilFunc := (KR.out.cell 2).trans (fa_get p 0 2 (by decide))
      have f2 : wr.frozen? ⟨gr, 2, none⟩ = false := KR.out.fro 2
      have l3 : wr.cell? ⟨gl, 3, none⟩ = some (.func (.func 79) #[(p.tim 3).v] #[]) := (KL.out.cell 3).trans (fa_get p 16 3 (by decide))
      have r3 : wr.cell? ⟨gr, 3, none⟩ = some .nilFunc := (KR.out.cell 3).trans (fa_get p 0 3 (by decide))
      have f3 : wr.frozen? ⟨gr, 3, none⟩ = false := KR.out.fro 3
      have l4 : wr.cell? ⟨gl, 4, none⟩ = some (.func (.func 79) #[(p.tim 4).v] #[]) := (KL.out.cell 4).trans (fa_get p 16 4 (by decide))
      have r4 : wr.cell? ⟨gr, 4, none⟩ = some .nilFunc := (KR.out.cell 4).trans (fa_get p 0 4 (by decide))
      have f4 : wr.frozen? ⟨gr, 4, none⟩ = false := KR.out.fro 4
      have l5 : wr.cell? ⟨gl, 5, none⟩ = some (.func (.func 79) #[(p.tim 5).v] #[]) := (KL.out.cell 5).trans (fa_get p 16 5 (by decide))
      have r5 : wr.cell? ⟨gr, 5, none⟩ = some .nilFunc := (KR.out.cell 5).trans (fa_get p 0 5 (by decide))
      have f5 : wr.frozen? ⟨gr, 5, none⟩ = false := KR.out.fro 5
      have l6 : wr.cell? ⟨gl, 6, none⟩ = some (.func (.func 79) #[(p.tim 6).v] #[]) := (KL.out.cell 6).trans (fa_get p 16 6 (by decide))
      have r6 : wr.cell? ⟨gr, 6, none⟩ = some .nilFunc := (KR.out.cell 6).trans (fa_get p 0 6 (by decide))
      have f6 : wr.frozen? ⟨gr, 6, none⟩ = false := KR.out.fro 6
      have l7 : wr.cell? ⟨gl, 7, none⟩ = some (.func (.func 79) #[(p.tim 7).v] #[]) := (KL.out.cell 7).trans (fa_get p 16 7 (by decide))
      have r7 : wr.cell? ⟨gr, 7, none⟩ = some .nilFunc := (KR.out.cell 7).trans (fa_get p 0 7 (by decide))
      have f7 : wr.frozen? ⟨gr, 7, none⟩ = false := KR.out.fro 7
      have l8 : wr.cell? ⟨gl, 8, none⟩ = some (.func (.func 79) #[(p.tim 8).v] #[]) := (KL.out.cell 8).trans (fa_get p 16 8 (by decide))
      have r8 : wr.cell? ⟨gr, 8, none⟩ = some .nilFunc := (KR.out.cell 8).trans (fa_get p 0 8 (by decide))
      have f8 : wr.frozen? ⟨gr, 8, none⟩ = false := KR.out.fro 8
      have l9 : wr.cell? ⟨gl, 9, none⟩ = some (.func (.func 79) #[(p.tim 9).v] #[]) := (KL.out.cell 9).trans (fa_get p 16 9 (by decide))
      have r9 : wr.cell? ⟨gr, 9, none⟩ = some .nilFunc := (KR.out.cell 9).trans (fa_get p 0 9 (by decide))
      have f9 : wr.frozen? ⟨gr, 9, none⟩ = false := KR.out.fro 9
      have l10 : wr.cell? ⟨gl, 10, none⟩ = some (.func (.func 79) #[(p.tim 10).v] #[]) := (KL.out.cell 10).trans (fa_get p 16 10 (by decide))
      have r10 : wr.cell? ⟨gr, 10, none⟩ = some .nilFunc := (KR.out.cell 10).trans (fa_get p 0 10 (by decide))
      have f10 : wr.frozen? ⟨gr, 10, none⟩ = false := KR.out.fro 10
      have l11 : wr.cell? ⟨gl, 11, none⟩ = some (.func (.func 79) #[(p.tim 11).v] #[]) := (KL.out.cell 11).trans (fa_get p 16 11 (by decide))
      have r11 : wr.cell? ⟨gr, 11, none⟩ = some .nilFunc := (KR.out.cell 11).trans (fa_get p 0 11 (by decide))
      have f11 : wr.frozen? ⟨gr, 11, none⟩ = false := KR.out.fro 11
      have l12 : wr.cell? ⟨gl, 12, none⟩ = some (.func (.func 79) #[(p.tim 12).v] #[]) := (KL.out.cell 12).trans (fa_get p 16 12 (by decide))
      have r12 : wr.cell? ⟨gr, 12, none⟩ = some .nilFunc := (KR.out.cell 12).trans (fa_get p 0 12 (by decide))
      have f12 : wr.frozen? ⟨gr, 12, none⟩ = false := KR.out.fro 12
      have l13 : wr.cell? ⟨gl, 13, none⟩ = some (.func (.func 79) #[(p.tim 13).v] #[]) := (KL.out.cell 13).trans (fa_get p 16 13 (by decide))
      have r13 : wr.cell? ⟨gr, 13, none⟩ = some .nilFunc := (KR.out.cell 13).trans (fa_get p 0 13 (by decide))
      have f13 : wr.frozen? ⟨gr, 13, none⟩ = false := KR.out.fro 13
      have l14 : wr.cell? ⟨gl, 14, none⟩ = some (.func (.func 79) #[(p.tim 14).v] #[]) := (KL.out.cell 14).trans (fa_get p 16 14 (by decide))
      have r14 : wr.cell? ⟨gr, 14, none⟩ = some .nilFunc := (KR.out.cell 14).trans (fa_get p 0 14 (by decide))
      have f14 : wr.frozen? ⟨gr, 14, none⟩ = false := KR.out.fro 14
      have l15 : wr.cell? ⟨gl, 15, none⟩ = some (.func (.func 79) #[(p.tim 15).v] #[]) := (KL.out.cell 15).trans (fa_get p 16 15 (by decide))
      have r15 : wr.cell? ⟨gr, 15, none⟩ = some .nilFunc := (KR.out.cell 15).trans (fa_get p 0 15 (by decide))
      have f15 : wr.frozen? ⟨gr, 15, none⟩ = false := KR.out.fro 15
      go_wp2_with fail
      have h := KR.out
      replace h := Bk.same (i := 0) (v := FV p 0) h
      rw [fa_set] at h
      replace h := Bk.same (i := 1) (v := FV p 1) h
      rw [fa_set] at h
      replace h := Bk.same (i := 2) (v := FV p 2) h
      rw [fa_set] at h
      replace h := Bk.same (i := 3) (v := FV p 3) h
      rw [fa_set] at h
      replace h := Bk.same (i := 4) (v := FV p 4) h
      rw [fa_set] at h
      replace h := Bk.same (i := 5) (v := FV p 5) h
      rw [fa_set] at h
      replace h := Bk.same (i := 6) (v := FV p 6) h
      rw [fa_set] at h
      replace h := Bk.same (i := 7) (v := FV p 7) h
      rw [fa_set] at h
      replace h := Bk.same (i := 8) (v := FV p 8) h
      rw [fa_set] at h
      replace h := Bk.same (i := 9) (v := FV p 9) h
      rw [fa_set] at h
      replace h := Bk.same (i := 10) (v := FV p 10) h
      rw [fa_set] at h
      replace h := Bk.same (i := 11) (v := FV p 11) h
      rw [fa_set] at h
      replace h := Bk.same (i := 12) (v := FV p 12) h
      rw [fa_set] at h
      replace h := Bk.same (i := 13) (v := FV p 13) h
      rw [fa_set] at h
      replace h := Bk.same (i := 14) (v := FV p 14) h
      rw [fa_set] at h
      replace h := Bk.same (i := 15) (v := FV p 15) h
      rw [fa_set] at h
      refine ret_cell98 rfl gr p rfl h rfl ⟨rfl, ?_⟩
      have hb := HB.out
      have hg := HG.out.1.2.1
      go_grown
end Go.Proofs.Ytglmmodkflkkkaa
set_option linter.unusedVariables false
set_option linter.unusedSimpArgs false
set_option maxRecDepth 100000
namespace Go.Proofs.Ytglmmodkflkkkaa
open Go.RowKit Go.Sort Limbs
theorem dig_of (a s : Nat) (hs : s ≤ 60) : a % 18446744073709551616 / 2 ^ s % 16 = a / 2 ^ s % 16 := by
  rw [← Nat.mod_mul_right_div_self, ← Nat.mod_mul_right_div_self (m := a)]
  congr 1
  refine Nat.mod_mod_of_dvd _ ?_
  rw [show (18446744073709551616 : Nat) = 2 ^ s * 2 ^ (64 - s) from by rw [← Nat.pow_add, show s + (64 - s) = 64 by omega]]
  refine Nat.mul_dvd_mul_left _ ?_
  rw [show (16 : Nat) = 2 ^ 4 from rfl]
  exact Nat.pow_dvd_pow 2 (by omega)
theorem dig_int (a m : Nat) : ((a : Int) / 2 ^ m).tmod 16 = ((a / 2 ^ m % 16 : Nat) : Int) := by
  have e : (a : Int) / 2 ^ m = ((a / 2 ^ m : Nat) : Int) := by
    rw [Int.natCast_ediv, Int.natCast_pow]; rfl
  rw [e]
  generalize a / 2 ^ m = q
  rw [Int.tmod_eq_emod_of_nonneg (by omega)]
  omega
theorem dig_int2 (a m : Nat) : (a : Int) / 2 ^ m % 16 = ((a / 2 ^ m % 16 : Nat) : Int) := by
  have e : (a : Int) / 2 ^ m = ((a / 2 ^ m : Nat) : Int) := by
    rw [Int.natCast_ediv, Int.natCast_pow]; rfl
  rw [e]
  generalize a / 2 ^ m = q
  omega
set_option maxHeartbeats 4000000 in
theorem digit_0 (k r : Nat) (hr : r < 16) (w : World) :
    Calls Try.prog 94 #[nv k, .int .i64 ((r : Nat) : Int)] w fun e w' => e = .returned (.int .u64 ((lb k 0 / 2 ^ (r * 4) % 16 : Nat) : Int)) ∧ Below w.heap.size w w' := by
  have hl := lb_lt k 0
  have hq1 : Int.tdiv ((r : Nat) : Int) 16 = 0 := by rw [Int.tdiv_eq_ediv_of_nonneg (by omega)]; omega
  have hq2 : Int.tmod ((r : Nat) : Int) 16 = (r : Int) := by rw [Int.tmod_eq_emod_of_nonneg (by omega)]; omega
  simp only [nv, num]
  go_enter Try.func94, Try.ntmps94
  go_wp2_with fail
  go_ret
  refine ⟨by simp only [dig_int, dig_int2]; rfl, ?_⟩
  go_grown
set_option maxHeartbeats 4000000 in
theorem digit_1 (k r : Nat) (hr : r < 16) (w : World) :
    Calls Try.prog 94 #[nv k, .int .i64 ((16 + r : Nat) : Int)] w fun e w' => e = .returned (.int .u64 ((lb k 1 / 2 ^ (r * 4) % 16 : Nat) : Int)) ∧ Below w.heap.size w w' := by
  have hl := lb_lt k 1
  have hq1 : Int.tdiv ((16 + r : Nat) : Int) 16 = 1 := by rw [Int.tdiv_eq_ediv_of_nonneg (by omega)]; omega
  have hq2 : Int.tmod ((16 + r : Nat) : Int) 16 = (r : Int) := by rw [Int.tmod_eq_emod_of_nonneg (by omega)]; omega
  obtain ⟨pl, hpl⟩ : ∃ z : Int, z = ((16 + r : Nat) : Int) := ⟨_, rfl⟩
  rw [← hpl] at hq1 hq2 ⊢
  have hp0 : 0 ≤ pl := by omega
  clear hpl
  simp only [nv, num]
  go_enter Try.func94, Try.ntmps94
  go_wp2_with fail
  go_ret
  refine ⟨by simp only [dig_int, dig_int2]; rfl, ?_⟩
  go_grown
set_option maxHeartbeats 4000000 in
theorem digit_2 (k r : Nat) (hr : r < 16) (w : World) :
    Calls Try.prog 94 #[nv k, .int .i64 ((32 + r : Nat) : Int)] w fun e w' => e = .returned (.int .u64 ((lb k 2 / 2 ^ (r * 4) % 16 : Nat) : Int)) ∧ Below w.heap.size w w' := by
  have hl := lb_lt k 2
  have hq1 : Int.tdiv ((32 + r : Nat) : Int) 16 = 2 := by rw [Int.tdiv_eq_ediv_of_nonneg (by omega)]; omega
  have hq2 : Int.tmod ((32 + r : Nat) : Int) 16 = (r : Int) := by rw [Int.tmod_eq_emod_of_nonneg (by omega)]; omega
  obtain ⟨pl, hpl⟩ : ∃ z : Int, z = ((32 + r : Nat) : Int) := ⟨_, rfl⟩
  rw [← hpl] at hq1 hq2 ⊢
  have hp0 : 0 ≤ pl := by omega
  clear hpl
  simp only [nv, num]
  go_enter Try.func94, Try.ntmps94
  go_wp2_with fail
  go_ret
  refine ⟨by simp only [dig_int, dig_int2]; rfl, ?_⟩
  go_grown
set_option maxHeartbeats 4000000 in
theorem digit_3 (k r : Nat) (hr : r < 16) (w : World) :
    Calls Try.prog 94 #[nv k, .int .i64 ((48 + r : Nat) : Int)] w fun e w' => e = .returned (.int .u64 ((lb k 3 / 2 ^ (r * 4) % 16 : Nat) : Int)) ∧ Below w.heap.size w w' := by
  have hl := lb_lt k 3
  have hq1 : Int.tdiv ((48 + r : Nat) : Int) 16 = 3 := by rw [Int.tdiv_eq_ediv_of_nonneg (by omega)]; omega
  have hq2 : Int.tmod ((48 + r : Nat) : Int) 16 = (r : Int) := by rw [Int.tmod_eq_emod_of_nonneg (by omega)]; omega
  obtain ⟨pl, hpl⟩ : ∃ z : Int, z = ((48 + r : Nat) : Int) := ⟨_, rfl⟩
  rw [← hpl] at hq1 hq2 ⊢
  have hp0 : 0 ≤ pl := by omega
  clear hpl
  simp only [nv, num]
  go_enter Try.func94, Try.ntmps94
  go_wp2_with fail
  go_ret
  refine ⟨by simp only [dig_int, dig_int2]; rfl, ?_⟩
  go_grown
theorem digit_c (k pl : Nat) (h : pl < 64) (w : World) :
    Calls Try.prog 94 #[nv k, .int .i64 (pl : Int)] w fun e w' => e = .returned (.int .u64 ((k / 16 ^ pl % 16 : Nat) : Int)) ∧ Below w.heap.size w w' := by
  have e (q r : Nat) (hr : r < 16) (hp : pl = 16 * q + r) : lb k q / 2 ^ (r * 4) % 16 = k / 16 ^ pl % 16 := by
    have hq : q = 0 ∨ q = 1 ∨ q = 2 ∨ q = 3 := by omega
    have p (n : Nat) (hn : n + r * 4 = 4 * pl) : k / 2 ^ n / 2 ^ (r * 4) % 16 = k / 16 ^ pl % 16 := by
      rw [Nat.div_div_eq_div_mul, ← Nat.pow_add, hn, Nat.pow_mul]
    rcases hq with rfl | rfl | rfl | rfl
    · show k % 18446744073709551616 / 2 ^ (r * 4) % 16 = _
      rw [dig_of _ _ (by omega)]
      have := p 0 (by omega)
      rwa [Nat.pow_zero, Nat.div_one] at this
    · show k / 2 ^ 64 % 18446744073709551616 / 2 ^ (r * 4) % 16 = _
      rw [dig_of _ _ (by omega)]; exact p 64 (by omega)
    · show k / 2 ^ 128 % 18446744073709551616 / 2 ^ (r * 4) % 16 = _
      rw [dig_of _ _ (by omega)]; exact p 128 (by omega)
    · show k / 2 ^ 192 % 18446744073709551616 / 2 ^ (r * 4) % 16 = _
      rw [dig_of _ _ (by omega)]; exact p 192 (by omega)
  obtain ⟨q, r, hr, hp⟩ : ∃ q r, r < 16 ∧ pl = 16 * q + r := ⟨pl / 16, pl % 16, Nat.mod_lt _ (by decide), by omega⟩
  have hq : q = 0 ∨ q = 1 ∨ q = 2 ∨ q = 3 := by omega
  rcases hq with rfl | rfl | rfl | rfl
  · have := digit_0 k r hr w
    rw [e 0 r hr hp] at this
    rw [show pl = r by omega] at this ⊢
    exact this
  · have := digit_1 k r hr w
    rw [e 1 r hr hp] at this
    rw [show pl = 16 + r by omega] at this ⊢
    exact this
  · have := digit_2 k r hr w
    rw [e 2 r hr hp] at this
    rw [show pl = 32 + r by omega] at this ⊢
    exact this
  · have := digit_3 k r hr w
    rw [e 3 r hr hp] at this
    rw [show pl = 48 + r by omega] at this ⊢
    exact this
end Go.Proofs.Ytglmmodkflkkkaa
set_option linter.unusedVariables false
set_option linter.unusedSimpArgs false
set_option maxRecDepth 100000
namespace Go.Proofs.Ytglmmodkflkkkaa
open Go.RowKit Go.Sort Limbs
def dg (k i : Nat) : Nat := k / 16 ^ (63 - i) % 16
def J.mulN (k : Nat) (p : J) : Nat → J
  | 0 => J.far
  | i + 1 => (p.tim (dg k i)).plus (J.mulN k p i).twice.twice.twice.twice
theorem J.mulN_ok {k : Nat} {p : J} (hp : p.ok) : ∀ i, (p.mulN k i).ok
  | 0 => J.far_ok
  | i + 1 => J.plus_ok (J.tim_ok hp _) (J.twice_ok (J.twice_ok (J.twice_ok (J.twice_ok (J.mulN_ok hp i)))))
theorem mulN_0 (k : Nat) (p : J) : cs12 (p.mulN k 0).x (p.mulN k 0).y (p.mulN k 0).z = #[.int .u64 0, .int .u64 0, .int .u64 0, .int .u64 0, .int .u64 0, .int .u64 0, .int .u64 0, .int .u64 0, .int .u64 0, .int .u64 0, .int .u64 0, .int .u64 0] := by simp [J.mulN, J.far, cs12, lb]
set_option maxHeartbeats 32000000 in
theorem multiple_c (k : Nat) (p : J) (hk : k < W256) (hp : p.ok) (w : World) :
    Calls Try.prog 82 #[nv k, fv p] w fun e w' => e = .returned (p.mulN k 64).v ∧ Below w.heap.size w w' := by
  have HTW := Lib.hid (fun (q : J) (hq : q.ok) => twicej hq)
  have HOK := Lib.hid (fun i => J.mulN_ok (k := k) hp i)
  have HPL := Lib.hid (fun (d : Nat) (q : J) (hq : q.ok) => plusj (J.tim_ok hp d) hq)
  have HDG := Lib.hid (fun pl (h : pl < 64) => digit_c k pl h)
  clear hk hp
  obtain ⟨res, hres⟩ : ∃ z, z = p.mulN k 64 := ⟨_, rfl⟩
  rw [← hres]
  have HRES := Lib.hid hres
  clear hres
  obtain ⟨tx, ty, tz⟩ := res
  have e : (J.mk tx ty tz).v = jn tx ty tz := rfl
  rw [e]
  clear e
  simp only [nv, num] at HDG ⊢
  unfold fv
  go_enter Try.func82, Try.ntmps82
  go_wp2_with fail
  have K2 : Hid (Bk 24 ((((w.alloc (.cells #[.int .u64 (lb k 0 : Nat), .int .u64 (lb k 1 : Nat), .int .u64 (lb k 2 : Nat), .int .u64 (lb k 3 : Nat)] 24)).alloc (.cells #[FV p 0, FV p 1, FV p 2, FV p 3, FV p 4, FV p 5, FV p 6, FV p 7, FV p 8, FV p 9, FV p 10, FV p 11, FV p 12, FV p 13, FV p 14, FV p 15] 98)).alloc (.cells #[.int .u64 0, .int .u64 0, .int .u64 0, .int .u64 0, .int .u64 0, .int .u64 0, .int .u64 0, .int .u64 0, .int .u64 0, .int .u64 0, .int .u64 0, .int .u64 0] 93)).alloc (.cells #[.int .u64 0, .int .u64 0, .int .u64 0, .int .u64 0, .int .u64 0, .int .u64 0, .int .u64 0, .int .u64 0, .int .u64 0, .int .u64 0, .int .u64 0, .int .u64 0] 93)) w.heap.size #[.int .u64 (lb k 0 : Nat), .int .u64 (lb k 1 : Nat), .int .u64 (lb k 2 : Nat), .int .u64 (lb k 3 : Nat)]) := Lib.hid (Bk.alloc (Bk.alloc (Bk.alloc (Bk.new rfl))))
  have K3 : Hid (Bk 98 ((((w.alloc (.cells #[.int .u64 (lb k 0 : Nat), .int .u64 (lb k 1 : Nat), .int .u64 (lb k 2 : Nat), .int .u64 (lb k 3 : Nat)] 24)).alloc (.cells #[FV p 0, FV p 1, FV p 2, FV p 3, FV p 4, FV p 5, FV p 6, FV p 7, FV p 8, FV p 9, FV p 10, FV p 11, FV p 12, FV p 13, FV p 14, FV p 15] 98)).alloc (.cells #[.int .u64 0, .int .u64 0, .int .u64 0, .int .u64 0, .int .u64 0, .int .u64 0, .int .u64 0, .int .u64 0, .int .u64 0, .int .u64 0, .int .u64 0, .int .u64 0] 93)).alloc (.cells #[.int .u64 0, .int .u64 0, .int .u64 0, .int .u64 0, .int .u64 0, .int .u64 0, .int .u64 0, .int .u64 0, .int .u64 0, .int .u64 0, .int .u64 0, .int .u64 0] 93)) (w.heap.size + 1) (fa p 16)) := Lib.hid (Bk.alloc (Bk.alloc (Bk.new (by simp))))
  have K4 : Hid (Bk 93 ((((w.alloc (.cells #[.int .u64 (lb k 0 : Nat), .int .u64 (lb k 1 : Nat), .int .u64 (lb k 2 : Nat), .int .u64 (lb k 3 : Nat)] 24)).alloc (.cells #[FV p 0, FV p 1, FV p 2, FV p 3, FV p 4, FV p 5, FV p 6, FV p 7, FV p 8, FV p 9, FV p 10, FV p 11, FV p 12, FV p 13, FV p 14, FV p 15] 98)).alloc (.cells #[.int .u64 0, .int .u64 0, .int .u64 0, .int .u64 0, .int .u64 0, .int .u64 0, .int .u64 0, .int .u64 0, .int .u64 0, .int .u64 0, .int .u64 0, .int .u64 0] 93)).alloc (.cells #[.int .u64 0, .int .u64 0, .int .u64 0, .int .u64 0, .int .u64 0, .int .u64 0, .int .u64 0, .int .u64 0, .int .u64 0, .int .u64 0, .int .u64 0, .int .u64 0] 93)) (w.heap.size + 1 + 1) #[.int .u64 0, .int .u64 0, .int .u64 0, .int .u64 0, .int .u64 0, .int .u64 0, .int .u64 0, .int .u64 0, .int .u64 0, .int .u64 0, .int .u64 0, .int .u64 0]) := Lib.hid (Bk.alloc (Bk.new (by simp)))
  have K5 : Hid (Bk 93 ((((w.alloc (.cells #[.int .u64 (lb k 0 : Nat), .int .u64 (lb k 1 : Nat), .int .u64 (lb k 2 : Nat), .int .u64 (lb k 3 : Nat)] 24)).alloc (.cells #[FV p 0, FV p 1, FV p 2, FV p 3, FV p 4, FV p 5, FV p 6, FV p 7, FV p 8, FV p 9, FV p 10, FV p 11, FV p 12, FV p 13, FV p 14, FV p 15] 98)).alloc (.cells #[.int .u64 0, .int .u64 0, .int .u64 0, .int .u64 0, .int .u64 0, .int .u64 0, .int .u64 0, .int .u64 0, .int .u64 0, .int .u64 0, .int .u64 0, .int .u64 0] 93)).alloc (.cells #[.int .u64 0, .int .u64 0, .int .u64 0, .int .u64 0, .int .u64 0, .int .u64 0, .int .u64 0, .int .u64 0, .int .u64 0, .int .u64 0, .int .u64 0, .int .u64 0] 93)) (w.heap.size + 1 + 1 + 1) (cs12 (p.mulN k 0).x (p.mulN k 0).y (p.mulN k 0).z)) := Lib.hid (by rw [mulN_0]; exact Bk.new (by simp))
  have HB : Hid (Below w.heap.size w ((((w.alloc (.cells #[.int .u64 (lb k 0 : Nat), .int .u64 (lb k 1 : Nat), .int .u64 (lb k 2 : Nat), .int .u64 (lb k 3 : Nat)] 24)).alloc (.cells #[FV p 0, FV p 1, FV p 2, FV p 3, FV p 4, FV p 5, FV p 6, FV p 7, FV p 8, FV p 9, FV p 10, FV p 11, FV p 12, FV p 13, FV p 14, FV p 15] 98)).alloc (.cells #[.int .u64 0, .int .u64 0, .int .u64 0, .int .u64 0, .int .u64 0, .int .u64 0, .int .u64 0, .int .u64 0, .int .u64 0, .int .u64 0, .int .u64 0, .int .u64 0] 93)).alloc (.cells #[.int .u64 0, .int .u64 0, .int .u64 0, .int .u64 0, .int .u64 0, .int .u64 0, .int .u64 0, .int .u64 0, .int .u64 0, .int .u64 0, .int .u64 0, .int .u64 0] 93))) := Lib.hid (by go_grown)
  generalize ((((w.alloc (.cells #[.int .u64 (lb k 0 : Nat), .int .u64 (lb k 1 : Nat), .int .u64 (lb k 2 : Nat), .int .u64 (lb k 3 : Nat)] 24)).alloc (.cells #[FV p 0, FV p 1, FV p 2, FV p 3, FV p 4, FV p 5, FV p 6, FV p 7, FV p 8, FV p 9, FV p 10, FV p 11, FV p 12, FV p 13, FV p 14, FV p 15] 98)).alloc (.cells #[.int .u64 0, .int .u64 0, .int .u64 0, .int .u64 0, .int .u64 0, .int .u64 0, .int .u64 0, .int .u64 0, .int .u64 0, .int .u64 0, .int .u64 0, .int .u64 0] 93)).alloc (.cells #[.int .u64 0, .int .u64 0, .int .u64 0, .int .u64 0, .int .u64 0, .int .u64 0, .int .u64 0, .int .u64 0, .int .u64 0, .int .u64 0, .int .u64 0, .int .u64 0] 93)) = W at K2 K3 K4 K5 HB ⊢
  obtain ⟨g3, hg3⟩ : ∃ z, z = w.heap.size + 1 := ⟨_, rfl⟩
  obtain ⟨g4, hg4⟩ : ∃ z, z = w.heap.size + 1 + 1 := ⟨_, rfl⟩
  obtain ⟨g5, hg5⟩ : ∃ z, z = w.heap.size + 1 + 1 + 1 := ⟨_, rfl⟩
  rw [← hg3] at K3
  rw [← hg4] at K4
  rw [← hg5] at K5
  rw [← hg5, ← hg4, ← hg3]
  obtain ⟨g2, hg2⟩ : ∃ z, z = w.heap.size := ⟨_, rfl⟩
  have e : (Value.pointer (some ⟨w.heap.size, 0, none⟩)) = .pointer (some ⟨g2, 0, none⟩) := by rw [hg2]
  rw [e]
  rw [← hg2] at K2
  have HG : Hid ((w.heap.size ≤ g4 ∧ w.heap.size ≤ g5) ∧ (g2 ≠ g5 ∧ g3 ≠ g5 ∧ g4 ≠ g5)) := Lib.hid ⟨⟨by omega, by omega⟩, by omega, by omega, by omega⟩
  clear e hg3 hg4 hg5 hg2
  go_loopw [7] (fun b wr => ∃ i : Nat, i ≤ 64 ∧ b = .int .i64 (i : Int) ∧ Bk 24 wr g2 #[.int .u64 (lb k 0 : Nat), .int .u64 (lb k 1 : Nat), .int .u64 (lb k 2 : Nat), .int .u64 (lb k 3 : Nat)] ∧ Bk 98 wr g3 (fa p 16) ∧ Bk 93 wr g4 #[.int .u64 0, .int .u64 0, .int .u64 0, .int .u64 0, .int .u64 0, .int .u64 0, .int .u64 0, .int .u64 0, .int .u64 0, .int .u64 0, .int .u64 0, .int .u64 0] ∧ Bk 93 wr g5 (cs12 (p.mulN k i).x (p.mulN k i).y (p.mulN k i).z) ∧ Below w.heap.size w wr) (fun b _ => 64 - (intOf b).toNat)
  case atStart => exact ⟨0, by omega, rfl, K2.out, K3.out, K4.out, K5.out, HB.out⟩
  case round =>
    clear K2 K3 K4 K5 HB
    obtain ⟨i, hi, rfl, k2, k3, k4, k5, hb⟩ := hrel
    have K2 := Lib.hid k2
    have K3 := Lib.hid k3
    have K4 := Lib.hid k4
    have K5 := Lib.hid k5
    have HB := Lib.hid hb
    clear k2 k3 k4 k5 hb
    by_cases hlt : i < 64
    · go_wp2_with fail
      refine wp_loop_rounds 5 ?_
      have HO0 := Lib.hid (HOK.out i)
      obtain ⟨T0, hT0⟩ : ∃ z, z = p.mulN k i := ⟨_, rfl⟩
      rw [← hT0] at HO0 K5
      obtain ⟨a0x, a0y, a0z⟩ := T0
      have HT0 := Lib.hid hT0
      clear hT0
      simp only [] at K5
      have HO1 := Lib.hid (J.twice_ok HO0.out)
      have HC := Lib.hid (HTW.out ⟨a0x, a0y, a0z⟩ HO0.out)
      obtain ⟨T1, hT1⟩ : ∃ z, z = (J.mk a0x a0y a0z).twice := ⟨_, rfl⟩
      rw [← hT1] at HC HO1
      obtain ⟨a1x, a1y, a1z⟩ := T1
      have HT1 := Lib.hid hT1
      clear hT1 HO0
      simp only [J.v, jn] at HC
      obtain ⟨⟨x0, x1, x2, x3⟩, ⟨y0, y1, y2, y3⟩, z0, z1, z2, z3⟩ := K5.out.cells12
      rw [rounds_succ]
      go_wp2_with fail
      refine (keep w.heap.size w (HC.out _) HB.out (Nat.le_refl _)).mono ?_
      rintro e w1 ⟨rfl, hb, hkk⟩
      have K2' := Lib.hid (K2.out.below hkk)
      have K3' := Lib.hid (K3.out.below hkk)
      have K4' := Lib.hid (K4.out.below hkk)
      have K5' := Lib.hid (K5.out.below hkk)
      have HB' := Lib.hid hb
      clear hb hkk K2 K3 K4 K5 HB HC x0 x1 x2 x3 y0 y1 y2 y3 z0 z1 z2 z3
      obtain ⟨⟨f0, f1, f2, f3⟩, ⟨f4, f5, f6, f7⟩, f8, f9, f10, f11⟩ := K5'.out.fros12
      obtain ⟨⟨c0, c1, c2, c3⟩, ⟨c4, c5, c6, c7⟩, c8, c9, c10, c11⟩ := K5'.out.cells12
      go_wp2_with fail
      clear f0 f1 f2 f3 f4 f5 f6 f7 f8 f9 f10 f11 c0 c1 c2 c3 c4 c5 c6 c7 c8 c9 c10 c11
      have K2 : Hid (Bk 24 ((((((((((((w1.setCell ⟨g5, 0, none⟩ (.int .u64 (lb a1x 0 : Nat))).setCell ⟨g5, 1, none⟩ (.int .u64 (lb a1x 1 : Nat))).setCell ⟨g5, 2, none⟩ (.int .u64 (lb a1x 2 : Nat))).setCell ⟨g5, 3, none⟩ (.int .u64 (lb a1x 3 : Nat))).setCell ⟨g5, 4, none⟩ (.int .u64 (lb a1y 0 : Nat))).setCell ⟨g5, 5, none⟩ (.int .u64 (lb a1y 1 : Nat))).setCell ⟨g5, 6, none⟩ (.int .u64 (lb a1y 2 : Nat))).setCell ⟨g5, 7, none⟩ (.int .u64 (lb a1y 3 : Nat))).setCell ⟨g5, 8, none⟩ (.int .u64 (lb a1z 0 : Nat))).setCell ⟨g5, 9, none⟩ (.int .u64 (lb a1z 1 : Nat))).setCell ⟨g5, 10, none⟩ (.int .u64 (lb a1z 2 : Nat))).setCell ⟨g5, 11, none⟩ (.int .u64 (lb a1z 3 : Nat))) g2 #[.int .u64 (lb k 0 : Nat), .int .u64 (lb k 1 : Nat), .int .u64 (lb k 2 : Nat), .int .u64 (lb k 3 : Nat)]) := Lib.hid (Bk.puto12 HG.out.2.1 K2'.out)
      have K3 : Hid (Bk 98 ((((((((((((w1.setCell ⟨g5, 0, none⟩ (.int .u64 (lb a1x 0 : Nat))).setCell ⟨g5, 1, none⟩ (.int .u64 (lb a1x 1 : Nat))).setCell ⟨g5, 2, none⟩ (.int .u64 (lb a1x 2 : Nat))).setCell ⟨g5, 3, none⟩ (.int .u64 (lb a1x 3 : Nat))).setCell ⟨g5, 4, none⟩ (.int .u64 (lb a1y 0 : Nat))).setCell ⟨g5, 5, none⟩ (.int .u64 (lb a1y 1 : Nat))).setCell ⟨g5, 6, none⟩ (.int .u64 (lb a1y 2 : Nat))).setCell ⟨g5, 7, none⟩ (.int .u64 (lb a1y 3 : Nat))).setCell ⟨g5, 8, none⟩ (.int .u64 (lb a1z 0 : Nat))).setCell ⟨g5, 9, none⟩ (.int .u64 (lb a1z 1 : Nat))).setCell ⟨g5, 10, none⟩ (.int .u64 (lb a1z 2 : Nat))).setCell ⟨g5, 11, none⟩ (.int .u64 (lb a1z 3 : Nat))) g3 (fa p 16)) := Lib.hid (Bk.puto12 HG.out.2.2.1 K3'.out)
      have K4 : Hid (Bk 93 ((((((((((((w1.setCell ⟨g5, 0, none⟩ (.int .u64 (lb a1x 0 : Nat))).setCell ⟨g5, 1, none⟩ (.int .u64 (lb a1x 1 : Nat))).setCell ⟨g5, 2, none⟩ (.int .u64 (lb a1x 2 : Nat))).setCell ⟨g5, 3, none⟩ (.int .u64 (lb a1x 3 : Nat))).setCell ⟨g5, 4, none⟩ (.int .u64 (lb a1y 0 : Nat))).setCell ⟨g5, 5, none⟩ (.int .u64 (lb a1y 1 : Nat))).setCell ⟨g5, 6, none⟩ (.int .u64 (lb a1y 2 : Nat))).setCell ⟨g5, 7, none⟩ (.int .u64 (lb a1y 3 : Nat))).setCell ⟨g5, 8, none⟩ (.int .u64 (lb a1z 0 : Nat))).setCell ⟨g5, 9, none⟩ (.int .u64 (lb a1z 1 : Nat))).setCell ⟨g5, 10, none⟩ (.int .u64 (lb a1z 2 : Nat))).setCell ⟨g5, 11, none⟩ (.int .u64 (lb a1z 3 : Nat))) g4 #[.int .u64 0, .int .u64 0, .int .u64 0, .int .u64 0, .int .u64 0, .int .u64 0, .int .u64 0, .int .u64 0, .int .u64 0, .int .u64 0, .int .u64 0, .int .u64 0]) := Lib.hid (Bk.puto12 HG.out.2.2.2 K4'.out)
      have K5 : Hid (Bk 93 ((((((((((((w1.setCell ⟨g5, 0, none⟩ (.int .u64 (lb a1x 0 : Nat))).setCell ⟨g5, 1, none⟩ (.int .u64 (lb a1x 1 : Nat))).setCell ⟨g5, 2, none⟩ (.int .u64 (lb a1x 2 : Nat))).setCell ⟨g5, 3, none⟩ (.int .u64 (lb a1x 3 : Nat))).setCell ⟨g5, 4, none⟩ (.int .u64 (lb a1y 0 : Nat))).setCell ⟨g5, 5, none⟩ (.int .u64 (lb a1y 1 : Nat))).setCell ⟨g5, 6, none⟩ (.int .u64 (lb a1y 2 : Nat))).setCell ⟨g5, 7, none⟩ (.int .u64 (lb a1y 3 : Nat))).setCell ⟨g5, 8, none⟩ (.int .u64 (lb a1z 0 : Nat))).setCell ⟨g5, 9, none⟩ (.int .u64 (lb a1z 1 : Nat))).setCell ⟨g5, 10, none⟩ (.int .u64 (lb a1z 2 : Nat))).setCell ⟨g5, 11, none⟩ (.int .u64 (lb a1z 3 : Nat))) g5 #[.int .u64 (lb a1x 0 : Nat), .int .u64 (lb a1x 1 : Nat), .int .u64 (lb a1x 2 : Nat), .int .u64 (lb a1x 3 : Nat), .int .u64 (lb a1y 0 : Nat), .int .u64 (lb a1y 1 : Nat), .int .u64 (lb a1y 2 : Nat), .int .u64 (lb a1y 3 : Nat), .int .u64 (lb a1z 0 : Nat), .int .u64 (lb a1z 1 : Nat), .int .u64 (lb a1z 2 : Nat), .int .u64 (lb a1z 3 : Nat)]) := Lib.hid (Bk.put12 K5'.out)
      have HB : Hid (Below w.heap.size w ((((((((((((w1.setCell ⟨g5, 0, none⟩ (.int .u64 (lb a1x 0 : Nat))).setCell ⟨g5, 1, none⟩ (.int .u64 (lb a1x 1 : Nat))).setCell ⟨g5, 2, none⟩ (.int .u64 (lb a1x 2 : Nat))).setCell ⟨g5, 3, none⟩ (.int .u64 (lb a1x 3 : Nat))).setCell ⟨g5, 4, none⟩ (.int .u64 (lb a1y 0 : Nat))).setCell ⟨g5, 5, none⟩ (.int .u64 (lb a1y 1 : Nat))).setCell ⟨g5, 6, none⟩ (.int .u64 (lb a1y 2 : Nat))).setCell ⟨g5, 7, none⟩ (.int .u64 (lb a1y 3 : Nat))).setCell ⟨g5, 8, none⟩ (.int .u64 (lb a1z 0 : Nat))).setCell ⟨g5, 9, none⟩ (.int .u64 (lb a1z 1 : Nat))).setCell ⟨g5, 10, none⟩ (.int .u64 (lb a1z 2 : Nat))).setCell ⟨g5, 11, none⟩ (.int .u64 (lb a1z 3 : Nat)))) := Lib.hid (by have hb := HB'.out; have hg := HG.out.1.2; go_grown)
      generalize ((((((((((((w1.setCell ⟨g5, 0, none⟩ (.int .u64 (lb a1x 0 : Nat))).setCell ⟨g5, 1, none⟩ (.int .u64 (lb a1x 1 : Nat))).setCell ⟨g5, 2, none⟩ (.int .u64 (lb a1x 2 : Nat))).setCell ⟨g5, 3, none⟩ (.int .u64 (lb a1x 3 : Nat))).setCell ⟨g5, 4, none⟩ (.int .u64 (lb a1y 0 : Nat))).setCell ⟨g5, 5, none⟩ (.int .u64 (lb a1y 1 : Nat))).setCell ⟨g5, 6, none⟩ (.int .u64 (lb a1y 2 : Nat))).setCell ⟨g5, 7, none⟩ (.int .u64 (lb a1y 3 : Nat))).setCell ⟨g5, 8, none⟩ (.int .u64 (lb a1z 0 : Nat))).setCell ⟨g5, 9, none⟩ (.int .u64 (lb a1z 1 : Nat))).setCell ⟨g5, 10, none⟩ (.int .u64 (lb a1z 2 : Nat))).setCell ⟨g5, 11, none⟩ (.int .u64 (lb a1z 3 : Nat))) = V1 at K2 K3 K4 K5 HB ⊢
      clear K2' K3' K4' K5' HB'
      have HO2 := Lib.hid (J.twice_ok HO1.out)
      have HC := Lib.hid (HTW.out ⟨a1x, a1y, a1z⟩ HO1.out)
      obtain ⟨T2, hT2⟩ : ∃ z, z = (J.mk a1x a1y a1z).twice := ⟨_, rfl⟩
      rw [← hT2] at HC HO2
      obtain ⟨a2x, a2y, a2z⟩ := T2
      have HT2 := Lib.hid hT2
      clear hT2 HO1
      simp only [J.v, jn] at HC
      obtain ⟨⟨x0, x1, x2, x3⟩, ⟨y0, y1, y2, y3⟩, z0, z1, z2, z3⟩ := K5.out.cells12
      rw [rounds_succ]
      go_wp2_with fail
      refine (keep w.heap.size w (HC.out _) HB.out (Nat.le_refl _)).mono ?_
      rintro e w2 ⟨rfl, hb, hkk⟩
      have K2' := Lib.hid (K2.out.below hkk)
      have K3' := Lib.hid (K3.out.below hkk)
      have K4' := Lib.hid (K4.out.below hkk)
      have K5' := Lib.hid (K5.out.below hkk)
      have HB' := Lib.hid hb
      clear hb hkk K2 K3 K4 K5 HB HC x0 x1 x2 x3 y0 y1 y2 y3 z0 z1 z2 z3
      obtain ⟨⟨f0, f1, f2, f3⟩, ⟨f4, f5, f6, f7⟩, f8, f9, f10, f11⟩ := K5'.out.fros12
      obtain ⟨⟨c0, c1, c2, c3⟩, ⟨c4, c5, c6, c7⟩, c8, c9, c10, c11⟩ := K5'.out.cells12
      go_wp2_with fail
      clear f0 f1 f2 f3 f4 f5 f6 f7 f8 f9 f10 f11 c0 c1 c2 c3 c4 c5 c6 c7 c8 c9 c10 c11
      have K2 : Hid (Bk 24 ((((((((((((w2.setCell ⟨g5, 0, none⟩ (.int .u64 (lb a2x 0 : Nat))).setCell ⟨g5, 1, none⟩ (.int .u64 (lb a2x 1 : Nat))).setCell ⟨g5, 2, none⟩ (.int .u64 (lb a2x 2 : Nat))).setCell ⟨g5, 3, none⟩ (.int .u64 (lb a2x 3 : Nat))).setCell ⟨g5, 4, none⟩ (.int .u64 (lb a2y 0 : Nat))).setCell ⟨g5, 5, none⟩ (.int .u64 (lb a2y 1 : Nat))).setCell ⟨g5, 6, none⟩ (.int .u64 (lb a2y 2 : Nat))).setCell ⟨g5, 7, none⟩ (.int .u64 (lb a2y 3 : Nat))).setCell ⟨g5, 8, none⟩ (.int .u64 (lb a2z 0 : Nat))).setCell ⟨g5, 9, none⟩ (.int .u64 (lb a2z 1 : Nat))).setCell ⟨g5, 10, none⟩ (.int .u64 (lb a2z 2 : Nat))).setCell ⟨g5, 11, none⟩ (.int .u64 (lb a2z 3 : Nat))) g2 #[.int .u64 (lb k 0 : Nat), .int .u64 (lb k 1 : Nat), .int .u64 (lb k 2 : Nat), .int .u64 (lb k 3 : Nat)]) := Lib.hid (Bk.puto12 HG.out.2.1 K2'.out)
      have K3 : Hid (Bk 98 ((((((((((((w2.setCell ⟨g5, 0, none⟩ (.int .u64 (lb a2x 0 : Nat))).setCell ⟨g5, 1, none⟩ (.int .u64 (lb a2x 1 : Nat))).setCell ⟨g5, 2, none⟩ (.int .u64 (lb a2x 2 : Nat))).setCell ⟨g5, 3, none⟩ (.int .u64 (lb a2x 3 : Nat))).setCell ⟨g5, 4, none⟩ (.int .u64 (lb a2y 0 : Nat))).setCell ⟨g5, 5, none⟩ (.int .u64 (lb a2y 1 : Nat))).setCell ⟨g5, 6, none⟩ (.int .u64 (lb a2y 2 : Nat))).setCell ⟨g5, 7, none⟩ (.int .u64 (lb a2y 3 : Nat))).setCell ⟨g5, 8, none⟩ (.int .u64 (lb a2z 0 : Nat))).setCell ⟨g5, 9, none⟩ (.int .u64 (lb a2z 1 : Nat))).setCell ⟨g5, 10, none⟩ (.int .u64 (lb a2z 2 : Nat))).setCell ⟨g5, 11, none⟩ (.int .u64 (lb a2z 3 : Nat))) g3 (fa p 16)) := Lib.hid (Bk.puto12 HG.out.2.2.1 K3'.out)
      have K4 : Hid (Bk 93 ((((((((((((w2.setCell ⟨g5, 0, none⟩ (.int .u64 (lb a2x 0 : Nat))).setCell ⟨g5, 1, none⟩ (.int .u64 (lb a2x 1 : Nat))).setCell ⟨g5, 2, none⟩ (.int .u64 (lb a2x 2 : Nat))).setCell ⟨g5, 3, none⟩ (.int .u64 (lb a2x 3 : Nat))).setCell ⟨g5, 4, none⟩ (.int .u64 (lb a2y 0 : Nat))).setCell ⟨g5, 5, none⟩ (.int .u64 (lb a2y 1 : Nat))).setCell ⟨g5, 6, none⟩ (.int .u64 (lb a2y 2 : Nat))).setCell ⟨g5, 7, none⟩ (.int .u64 (lb a2y 3 : Nat))).setCell ⟨g5, 8, none⟩ (.int .u64 (lb a2z 0 : Nat))).setCell ⟨g5, 9, none⟩ (.int .u64 (lb a2z 1 : Nat))).setCell ⟨g5, 10, none⟩ (.int .u64 (lb a2z 2 : Nat))).setCell ⟨g5, 11, none⟩ (.int .u64 (lb a2z 3 : Nat))) g4 #[.int .u64 0, .int .u64 0, .int .u64 0, .int .u64 0, .int .u64 0, .int .u64 0, .int .u64 0, .int .u64 0, .int .u64 0, .int .u64 0, .int .u64 0, .int .u64 0]) := Lib.hid (Bk.puto12 HG.out.2.2.2 K4'.out)
      have K5 : Hid (Bk 93 ((((((((((((w2.setCell ⟨g5, 0, none⟩ (.int .u64 (lb a2x 0 : Nat))).setCell ⟨g5, 1, none⟩ (.int .u64 (lb a2x 1 : Nat))).setCell ⟨g5, 2, none⟩ (.int .u64 (lb a2x 2 : Nat))).setCell ⟨g5, 3, none⟩ (.int .u64 (lb a2x 3 : Nat))).setCell ⟨g5, 4, none⟩ (.int .u64 (lb a2y 0 : Nat))).setCell ⟨g5, 5, none⟩ (.int .u64 (lb a2y 1 : Nat))).setCell ⟨g5, 6, none⟩ (.int .u64 (lb a2y 2 : Nat))).setCell ⟨g5, 7, none⟩ (.int .u64 (lb a2y 3 : Nat))).setCell ⟨g5, 8, none⟩ (.int .u64 (lb a2z 0 : Nat))).setCell ⟨g5, 9, none⟩ (.int .u64 (lb a2z 1 : Nat))).setCell ⟨g5, 10, none⟩ (.int .u64 (lb a2z 2 : Nat))).setCell ⟨g5, 11, none⟩ (.int .u64 (lb a2z 3 : Nat))) g5 #[.int .u64 (lb a2x 0 : Nat), .int .u64 (lb a2x 1 : Nat), .int .u64 (lb a2x 2 : Nat), .int .u64 (lb a2x 3 : Nat), .int .u64 (lb a2y 0 : Nat), .int .u64 (lb a2y 1 : Nat), .int .u64 (lb a2y 2 : Nat), .int .u64 (lb a2y 3 : Nat), .int .u64 (lb a2z 0 : Nat), .int .u64 (lb a2z 1 : Nat), .int .u64 (lb a2z 2 : Nat), .int .u64 (lb a2z 3 : Nat)]) := Lib.hid (Bk.put12 K5'.out)
      have HB : Hid (Below w.heap.size w ((((((((((((w2.setCell ⟨g5, 0, none⟩ (.int .u64 (lb a2x 0 : Nat))).setCell ⟨g5, 1, none⟩ (.int .u64 (lb a2x 1 : Nat))).setCell ⟨g5, 2, none⟩ (.int .u64 (lb a2x 2 : Nat))).setCell ⟨g5, 3, none⟩ (.int .u64 (lb a2x 3 : Nat))).setCell ⟨g5, 4, none⟩ (.int .u64 (lb a2y 0 : Nat))).setCell ⟨g5, 5, none⟩ (.int .u64 (lb a2y 1 : Nat))).setCell ⟨g5, 6, none⟩ (.int .u64 (lb a2y 2 : Nat))).setCell ⟨g5, 7, none⟩ (.int .u64 (lb a2y 3 : Nat))).setCell ⟨g5, 8, none⟩ (.int .u64 (lb a2z 0 : Nat))).setCell ⟨g5, 9, none⟩ (.int .u64 (lb a2z 1 : Nat))).setCell ⟨g5, 10, none⟩ (.int .u64 (lb a2z 2 : Nat))).setCell ⟨g5, 11, none⟩ (.int .u64 (lb a2z 3 : Nat)))) := Lib.hid (by have hb := HB'.out; have hg := HG.out.1.2; go_grown)
      generalize ((((((((((((w2.setCell ⟨g5, 0, none⟩ (.int .u64 (lb a2x 0 : Nat))).setCell ⟨g5, 1, none⟩ (.int .u64 (lb a2x 1 : Nat))).setCell ⟨g5, 2, none⟩ (.int .u64 (lb a2x 2 : Nat))).setCell ⟨g5, 3, none⟩ (.int .u64 (lb a2x 3 : Nat))).setCell ⟨g5, 4, none⟩ (.int .u64 (lb a2y 0 : Nat))).setCell ⟨g5, 5, none⟩ (.int .u64 (lb a2y 1 : Nat))).setCell ⟨g5, 6, none⟩ (.int .u64 (lb a2y 2 : Nat))).setCell ⟨g5, 7, none⟩ (.int .u64 (lb a2y 3 : Nat))).setCell ⟨g5, 8, none⟩ (.int .u64 (lb a2z 0 : Nat))).setCell ⟨g5, 9, none⟩ (.int .u64 (lb a2z 1 : Nat))).setCell ⟨g5, 10, none⟩ (.int .u64 (lb a2z 2 : Nat))).setCell ⟨g5, 11, none⟩ (.int .u64 (lb a2z 3 : Nat))) = V2 at K2 K3 K4 K5 HB ⊢
      clear K2' K3' K4' K5' HB'
      have HO3 := Lib.hid (J.twice_ok HO2.out)
      have HC := Lib.hid (HTW.out ⟨a2x, a2y, a2z⟩ HO2.out)
      obtain ⟨T3, hT3⟩ : ∃ z, z = (J.mk a2x a2y a2z).twice := ⟨_, rfl⟩
      rw [← hT3] at HC HO3
      obtain ⟨a3x, a3y, a3z⟩ := T3
      have HT3 := Lib.hid hT3
      clear hT3 HO2
      simp only [J.v, jn] at HC
      obtain ⟨⟨x0, x1, x2, x3⟩, ⟨y0, y1, y2, y3⟩, z0, z1, z2, z3⟩ := K5.out.cells12
      rw [rounds_succ]
      go_wp2_with fail
      refine (keep w.heap.size w (HC.out _) HB.out (Nat.le_refl _)).mono ?_
      rintro e w3 ⟨rfl, hb, hkk⟩
      have K2' := Lib.hid (K2.out.below hkk)
      have K3' := Lib.hid (K3.out.below hkk)
      have K4' := Lib.hid (K4.out.below hkk)
      have K5' := Lib.hid (K5.out.below hkk)
      have HB' := Lib.hid hb
      clear hb hkk K2 K3 K4 K5 HB HC x0 x1 x2 x3 y0 y1 y2 y3 z0 z1 z2 z3
      obtain ⟨⟨f0, f1, f2, f3⟩, ⟨f4, f5, f6, f7⟩, f8, f9, f10, f11⟩ := K5'.out.fros12
      obtain ⟨⟨c0, c1, c2, c3⟩, ⟨c4, c5, c6, c7⟩, c8, c9, c10, c11⟩ := K5'.out.cells12
      go_wp2_with fail
      clear f0 f1 f2 f3 f4 f5 f6 f7 f8 f9 f10 f11 c0 c1 c2 c3 c4 c5 c6 c7 c8 c9 c10 c11
      have K2 : Hid (Bk 24 ((((((((((((w3.setCell ⟨g5, 0, none⟩ (.int .u64 (lb a3x 0 : Nat))).setCell ⟨g5, 1, none⟩ (.int .u64 (lb a3x 1 : Nat))).setCell ⟨g5, 2, none⟩ (.int .u64 (lb a3x 2 : Nat))).setCell ⟨g5, 3, none⟩ (.int .u64 (lb a3x 3 : Nat))).setCell ⟨g5, 4, none⟩ (.int .u64 (lb a3y 0 : Nat))).setCell ⟨g5, 5, none⟩ (.int .u64 (lb a3y 1 : Nat))).setCell ⟨g5, 6, none⟩ (.int .u64 (lb a3y 2 : Nat))).setCell ⟨g5, 7, none⟩ (.int .u64 (lb a3y 3 : Nat))).setCell ⟨g5, 8, none⟩ (.int .u64 (lb a3z 0 : Nat))).setCell ⟨g5, 9, none⟩ (.int .u64 (lb a3z 1 : Nat))).setCell ⟨g5, 10, none⟩ (.int .u64 (lb a3z 2 : Nat))).setCell ⟨g5, 11, none⟩ (.int .u64 (lb a3z 3 : Nat))) g2 #[.int .u64 (lb k 0 : Nat), .int .u64 (lb k 1 : Nat), .int .u64 (lb k 2 : Nat), .int .u64 (lb k 3 : Nat)]) := Lib.hid (Bk.puto12 HG.out.2.1 K2'.out)
      have K3 : Hid (Bk 98 ((((((((((((w3.setCell ⟨g5, 0, none⟩ (.int .u64 (lb a3x 0 : Nat))).setCell ⟨g5, 1, none⟩ (.int .u64 (lb a3x 1 : Nat))).setCell ⟨g5, 2, none⟩ (.int .u64 (lb a3x 2 : Nat))).setCell ⟨g5, 3, none⟩ (.int .u64 (lb a3x 3 : Nat))).setCell ⟨g5, 4, none⟩ (.int .u64 (lb a3y 0 : Nat))).setCell ⟨g5, 5, none⟩ (.int .u64 (lb a3y 1 : Nat))).setCell ⟨g5, 6, none⟩ (.int .u64 (lb a3y 2 : Nat))).setCell ⟨g5, 7, none⟩ (.int .u64 (lb a3y 3 : Nat))).setCell ⟨g5, 8, none⟩ (.int .u64 (lb a3z 0 : Nat))).setCell ⟨g5, 9, none⟩ (.int .u64 (lb a3z 1 : Nat))).setCell ⟨g5, 10, none⟩ (.int .u64 (lb a3z 2 : Nat))).setCell ⟨g5, 11, none⟩ (.int .u64 (lb a3z 3 : Nat))) g3 (fa p 16)) := Lib.hid (Bk.puto12 HG.out.2.2.1 K3'.out)
      have K4 : Hid (Bk 93 ((((((((((((w3.setCell ⟨g5, 0, none⟩ (.int .u64 (lb a3x 0 : Nat))).setCell ⟨g5, 1, none⟩ (.int .u64 (lb a3x 1 : Nat))).setCell ⟨g5, 2, none⟩ (.int .u64 (lb a3x 2 : Nat))).setCell ⟨g5, 3, none⟩ (.int .u64 (lb a3x 3 : Nat))).setCell ⟨g5, 4, none⟩ (.int .u64 (lb a3y 0 : Nat))).setCell ⟨g5, 5, none⟩ (.int .u64 (lb a3y 1 : Nat))).setCell ⟨g5, 6, none⟩ (.int .u64 (lb a3y 2 : Nat))).setCell ⟨g5, 7, none⟩ (.int .u64 (lb a3y 3 : Nat))).setCell ⟨g5, 8, none⟩ (.int .u64 (lb a3z 0 : Nat))).setCell ⟨g5, 9, none⟩ (.int .u64 (lb a3z 1 : Nat))).setCell ⟨g5, 10, none⟩ (.int .u64 (lb a3z 2 : Nat))).setCell ⟨g5, 11, none⟩ (.int .u64 (lb a3z 3 : Nat))) g4 #[.int .u64 0, .int .u64 0, .int .u64 0, .int .u64 0, .int .u64 0, .int .u64 0, .int .u64 0, .int .u64 0, .int .u64 0, .int .u64 0, .int .u64 0, .int .u64 0]) := Lib.hid (Bk.puto12 HG.out.2.2.2 K4'.out)
      have K5 : Hid (Bk 93 ((((((((((((w3.setCell ⟨g5, 0, none⟩ (.int .u64 (lb a3x 0 : Nat))).setCell ⟨g5, 1, none⟩ (.int .u64 (lb a3x 1 : Nat))).setCell ⟨g5, 2, none⟩ (.int .u64 (lb a3x 2 : Nat))).setCell ⟨g5, 3, none⟩ (.int .u64 (lb a3x 3 : Nat))).setCell ⟨g5, 4, none⟩ (.int .u64 (lb a3y 0 : Nat))).setCell ⟨g5, 5, none⟩ (.int .u64 (lb a3y 1 : Nat))).setCell ⟨g5, 6, none⟩ (.int .u64 (lb a3y 2 : Nat))).setCell ⟨g5, 7, none⟩ (.int .u64 (lb a3y 3 : Nat))).setCell ⟨g5, 8, none⟩ (.int .u64 (lb a3z 0 : Nat))).setCell ⟨g5, 9, none⟩ (.int .u64 (lb a3z 1 : Nat))).setCell ⟨g5, 10, none⟩ (.int .u64 (lb a3z 2 : Nat))).setCell ⟨g5, 11, none⟩ (.int .u64 (lb a3z 3 : Nat))) g5 #[.int .u64 (lb a3x 0 : Nat), .int .u64 (lb a3x 1 : Nat), .int .u64 (lb a3x 2 : Nat), .int .u64 (lb a3x 3 : Nat), .int .u64 (lb a3y 0 : Nat), .int .u64 (lb a3y 1 : Nat), .int .u64 (lb a3y 2 : Nat), .int .u64 (lb a3y 3 : Nat), .int .u64 (lb a3z 0 : Nat), .int .u64 (lb a3z 1 : Nat), .int .u64 (lb a3z 2 : Nat), .int .u64 (lb a3z 3 : Nat)]) := Lib.hid (Bk.put12 K5'.out)
      have HB : Hid (Below w.heap.size w ((((((((((((w3.setCell ⟨g5, 0, none⟩ (.int .u64 (lb a3x 0 : Nat))).setCell ⟨g5, 1, none⟩ (.int .u64 (lb a3x 1 : Nat))).setCell ⟨g5, 2, none⟩ (.int .u64 (lb a3x 2 : Nat))).setCell ⟨g5, 3, none⟩ (.int .u64 (lb a3x 3 : Nat))).setCell ⟨g5, 4, none⟩ (.int .u64 (lb a3y 0 : Nat))).setCell ⟨g5, 5, none⟩ (.int .u64 (lb a3y 1 : Nat))).setCell ⟨g5, 6, none⟩ (.int .u64 (lb a3y 2 : Nat))).setCell ⟨g5, 7, none⟩ (.int .u64 (lb a3y 3 : Nat))).setCell ⟨g5, 8, none⟩ (.int .u64 (lb a3z 0 : Nat))).setCell ⟨g5, 9, none⟩ (.int .u64 (lb a3z 1 : Nat))).setCell ⟨g5, 10, none⟩ (.int .u64 (lb a3z 2 : Nat))).setCell ⟨g5, 11, none⟩ (.int .u64 (lb a3z 3 : Nat)))) := Lib.hid (by have hb := HB'.out; have hg := HG.out.1.2; go_grown)
      generalize ((((((((((((w3.setCell ⟨g5, 0, none⟩ (.int .u64 (lb a3x 0 : Nat))).setCell ⟨g5, 1, none⟩ (.int .u64 (lb a3x 1 : Nat))).setCell ⟨g5, 2, none⟩ (.int .u64 (lb a3x 2 : Nat))).setCell ⟨g5, 3, none⟩ (.int .u64 (lb a3x 3 : Nat))).setCell ⟨g5, 4, none⟩ (.int .u64 (lb a3y 0 : Nat))).setCell ⟨g5, 5, none⟩ (.int .u64 (lb a3y 1 : Nat))).setCell ⟨g5, 6, none⟩ (.int .u64 (lb a3y 2 : Nat))).setCell ⟨g5, 7, none⟩ (.int .u64 (lb a3y 3 : Nat))).setCell ⟨g5, 8, none⟩ (.int .u64 (lb a3z 0 : Nat))).setCell ⟨g5, 9, none⟩ (.int .u64 (lb a3z 1 : Nat))).setCell ⟨g5, 10, none⟩ (.int .u64 (lb a3z 2 : Nat))).setCell ⟨g5, 11, none⟩ (.int .u64 (lb a3z 3 : Nat))) = V3 at K2 K3 K4 K5 HB ⊢
      clear K2' K3' K4' K5' HB'
      have HO4 := Lib.hid (J.twice_ok HO3.out)
      have HC := Lib.hid (HTW.out ⟨a3x, a3y, a3z⟩ HO3.out)
      obtain ⟨T4, hT4⟩ : ∃ z, z = (J.mk a3x a3y a3z).twice := ⟨_, rfl⟩
      rw [← hT4] at HC HO4
      obtain ⟨a4x, a4y, a4z⟩ := T4
      have HT4 := Lib.hid hT4
      clear hT4 HO3
      simp only [J.v, jn] at HC
      obtain ⟨⟨x0, x1, x2, x3⟩, ⟨y0, y1, y2, y3⟩, z0, z1, z2, z3⟩ := K5.out.cells12
      rw [rounds_succ]
      go_wp2_with fail
      refine (keep w.heap.size w (HC.out _) HB.out (Nat.le_refl _)).mono ?_
      rintro e w4 ⟨rfl, hb, hkk⟩
      have K2' := Lib.hid (K2.out.below hkk)
      have K3' := Lib.hid (K3.out.below hkk)
      have K4' := Lib.hid (K4.out.below hkk)
      have K5' := Lib.hid (K5.out.below hkk)
      have HB' := Lib.hid hb
      clear hb hkk K2 K3 K4 K5 HB HC x0 x1 x2 x3 y0 y1 y2 y3 z0 z1 z2 z3
      obtain ⟨⟨f0, f1, f2, f3⟩, ⟨f4, f5, f6, f7⟩, f8, f9, f10, f11⟩ := K5'.out.fros12
      obtain ⟨⟨c0, c1, c2, c3⟩, ⟨c4, c5, c6, c7⟩, c8, c9, c10, c11⟩ := K5'.out.cells12
      go_wp2_with fail
      clear f0 f1 f2 f3 f4 f5 f6 f7 f8 f9 f10 f11 c0 c1 c2 c3 c4 c5 c6 c7 c8 c9 c10 c11
      have K2 : Hid (Bk 24 ((((((((((((w4.setCell ⟨g5, 0, none⟩ (.int .u64 (lb a4x 0 : Nat))).setCell ⟨g5, 1, none⟩ (.int .u64 (lb a4x 1 : Nat))).setCell ⟨g5, 2, none⟩ (.int .u64 (lb a4x 2 : Nat))).setCell ⟨g5, 3, none⟩ (.int .u64 (lb a4x 3 : Nat))).setCell ⟨g5, 4, none⟩ (.int .u64 (lb a4y 0 : Nat))).setCell ⟨g5, 5, none⟩ (.int .u64 (lb a4y 1 : Nat))).setCell ⟨g5, 6, none⟩ (.int .u64 (lb a4y 2 : Nat))).setCell ⟨g5, 7, none⟩ (.int .u64 (lb a4y 3 : Nat))).setCell ⟨g5, 8, none⟩ (.int .u64 (lb a4z 0 : Nat))).setCell ⟨g5, 9, none⟩ (.int .u64 (lb a4z 1 : Nat))).setCell ⟨g5, 10, none⟩ (.int .u64 (lb a4z 2 : Nat))).setCell ⟨g5, 11, none⟩ (.int .u64 (lb a4z 3 : Nat))) g2 #[.int .u64 (lb k 0 : Nat), .int .u64 (lb k 1 : Nat), .int .u64 (lb k 2 : Nat), .int .u64 (lb k 3 : Nat)]) := Lib.hid (Bk.puto12 HG.out.2.1 K2'.out)
      have K3 : Hid (Bk 98 ((((((((((((w4.setCell ⟨g5, 0, none⟩ (.int .u64 (lb a4x 0 : Nat))).setCell ⟨g5, 1, none⟩ (.int .u64 (lb a4x 1 : Nat))).setCell ⟨g5, 2, none⟩ (.int .u64 (lb a4x 2 : Nat))).setCell ⟨g5, 3, none⟩ (.int .u64 (lb a4x 3 : Nat))).setCell ⟨g5, 4, none⟩ (.int .u64 (lb a4y 0 : Nat))).setCell ⟨g5, 5, none⟩ (.int .u64 (lb a4y 1 : Nat))).setCell ⟨g5, 6, none⟩ (.int .u64 (lb a4y 2 : Nat))).setCell ⟨g5, 7, none⟩ (.int .u64 (lb a4y 3 : Nat))).setCell ⟨g5, 8, none⟩ (.int .u64 (lb a4z 0 : Nat))).setCell ⟨g5, 9, none⟩ (.int .u64 (lb a4z 1 : Nat))).setCell ⟨g5, 10, none⟩ (.int .u64 (lb a4z 2 : Nat))).setCell ⟨g5, 11, none⟩ (.int .u64 (lb a4z 3 : Nat))) g3 (fa p 16)) := Lib.hid (Bk.puto12 HG.out.2.2.1 K3'.out)
      have K4 : Hid (Bk 93 ((((((((((((w4.setCell ⟨g5, 0, none⟩ (.int .u64 (lb a4x 0 : Nat))).setCell ⟨g5, 1, none⟩ (.int .u64 (lb a4x 1 : Nat))).setCell ⟨g5, 2, none⟩ (.int .u64 (lb a4x 2 : Nat))).setCell ⟨g5, 3, none⟩ (.int .u64 (lb a4x 3 : Nat))).setCell ⟨g5, 4, none⟩ (.int .u64 (lb a4y 0 : Nat))).setCell ⟨g5, 5, none⟩ (.int .u64 (lb a4y 1 : Nat))).setCell ⟨g5, 6, none⟩ (.int .u64 (lb a4y 2 : Nat))).setCell ⟨g5, 7, none⟩ (.int .u64 (lb a4y 3 : Nat))).setCell ⟨g5, 8, none⟩ (.int .u64 (lb a4z 0 : Nat))).setCell ⟨g5, 9, none⟩ (.int .u64 (lb a4z 1 : Nat))).setCell ⟨g5, 10, none⟩ (.int .u64 (lb a4z 2 : Nat))).setCell ⟨g5, 11, none⟩ (.int .u64 (lb a4z 3 : Nat))) g4 #[.int .u64 0, .int .u64 0, .int .u64 0, .int .u64 0, .int .u64 0, .int .u64 0, .int .u64 0, .int .u64 0, .int .u64 0, .int .u64 0, .int .u64 0, .int .u64 0]) := Lib.hid (Bk.puto12 HG.out.2.2.2 K4'.out)
      have K5 : Hid (Bk 93 ((((((((((((w4.setCell ⟨g5, 0, none⟩ (.int .u64 (lb a4x 0 : Nat))).setCell ⟨g5, 1, none⟩ (.int .u64 (lb a4x 1 : Nat))).setCell ⟨g5, 2, none⟩ (.int .u64 (lb a4x 2 : Nat))).setCell ⟨g5, 3, none⟩ (.int .u64 (lb a4x 3 : Nat))).setCell ⟨g5, 4, none⟩ (.int .u64 (lb a4y 0 : Nat))).setCell ⟨g5, 5, none⟩ (.int .u64 (lb a4y 1 : Nat))).setCell ⟨g5, 6, none⟩ (.int .u64 (lb a4y 2 : Nat))).setCell ⟨g5, 7, none⟩ (.int .u64 (lb a4y 3 : Nat))).setCell ⟨g5, 8, none⟩ (.int .u64 (lb a4z 0 : Nat))).setCell ⟨g5, 9, none⟩ (.int .u64 (lb a4z 1 : Nat))).setCell ⟨g5, 10, none⟩ (.int .u64 (lb a4z 2 : Nat))).setCell ⟨g5, 11, none⟩ (.int .u64 (lb a4z 3 : Nat))) g5 #[.int .u64 (lb a4x 0 : Nat), .int .u64 (lb a4x 1 : Nat), .int .u64 (lb a4x 2 : Nat), .int .u64 (lb a4x 3 : Nat), .int .u64 (lb a4y 0 : Nat), .int .u64 (lb a4y 1 : Nat), .int .u64 (lb a4y 2 : Nat), .int .u64 (lb a4y 3 : Nat), .int .u64 (lb a4z 0 : Nat), .int .u64 (lb a4z 1 : Nat), .int .u64 (lb a4z 2 : Nat), .int .u64 (lb a4z 3 : Nat)]) := Lib.hid (Bk.put12 K5'.out)
      have HB : Hid (Below w.heap.size w ((((((((((((w4.setCell ⟨g5, 0, none⟩ (.int .u64 (lb a4x 0 : Nat))).setCell ⟨g5, 1, none⟩ (.int .u64 (lb a4x 1 : Nat))).setCell ⟨g5, 2, none⟩ (.int .u64 (lb a4x 2 : Nat))).setCell ⟨g5, 3, none⟩ (.int .u64 (lb a4x 3 : Nat))).setCell ⟨g5, 4, none⟩ (.int .u64 (lb a4y 0 : Nat))).setCell ⟨g5, 5, none⟩ (.int .u64 (lb a4y 1 : Nat))).setCell ⟨g5, 6, none⟩ (.int .u64 (lb a4y 2 : Nat))).setCell ⟨g5, 7, none⟩ (.int .u64 (lb a4y 3 : Nat))).setCell ⟨g5, 8, none⟩ (.int .u64 (lb a4z 0 : Nat))).setCell ⟨g5, 9, none⟩ (.int .u64 (lb a4z 1 : Nat))).setCell ⟨g5, 10, none⟩ (.int .u64 (lb a4z 2 : Nat))).setCell ⟨g5, 11, none⟩ (.int .u64 (lb a4z 3 : Nat)))) := Lib.hid (by have hb := HB'.out; have hg := HG.out.1.2; go_grown)
      generalize ((((((((((((w4.setCell ⟨g5, 0, none⟩ (.int .u64 (lb a4x 0 : Nat))).setCell ⟨g5, 1, none⟩ (.int .u64 (lb a4x 1 : Nat))).setCell ⟨g5, 2, none⟩ (.int .u64 (lb a4x 2 : Nat))).setCell ⟨g5, 3, none⟩ (.int .u64 (lb a4x 3 : Nat))).setCell ⟨g5, 4, none⟩ (.int .u64 (lb a4y 0 : Nat))).setCell ⟨g5, 5, none⟩ (.int .u64 (lb a4y 1 : Nat))).setCell ⟨g5, 6, none⟩ (.int .u64 (lb a4y 2 : Nat))).setCell ⟨g5, 7, none⟩ (.int .u64 (lb a4y 3 : Nat))).setCell ⟨g5, 8, none⟩ (.int .u64 (lb a4z 0 : Nat))).setCell ⟨g5, 9, none⟩ (.int .u64 (lb a4z 1 : Nat))).setCell ⟨g5, 10, none⟩ (.int .u64 (lb a4z 2 : Nat))).setCell ⟨g5, 11, none⟩ (.int .u64 (lb a4z 3 : Nat))) = V4 at K2 K3 K4 K5 HB ⊢
      clear K2' K3' K4' K5' HB'
      have HD := Lib.hid (HDG.out (63 - i) (by omega))
      have hdd : k / 16 ^ (63 - i) % 16 < 16 := Nat.mod_lt _ (by decide)
      have HS := Lib.hid (HPL.out (dg k i) ⟨a4x, a4y, a4z⟩ HO4.out)
      have hD : Hid (p.mulN k (i + 1) = (p.tim (dg k i)).plus ⟨a4x, a4y, a4z⟩) := Lib.hid (by rw [HT4.out, HT3.out, HT2.out, HT1.out, HT0.out]; rfl)
      have e63 : (((63 - i : Nat) : Nat) : Int) = 63 - (i : Int) := by omega
      rw [e63] at HD
      clear e63
      have edg : k / 16 ^ (63 - i) % 16 = dg k i := rfl
      rw [edg] at HD hdd
      clear edg
      generalize dg k i = d at *
      obtain ⟨R, hR⟩ : ∃ z, z = (p.tim d).plus ⟨a4x, a4y, a4z⟩ := ⟨_, rfl⟩
      rw [← hR] at HS hD
      obtain ⟨rx, ry, rz⟩ := R
      clear hR HT0 HT1 HT2 HT3 HT4 HO4 HTW HOK HPL HDG
      simp only [J.v, jn] at HS
      have q0 : (d : Int) < 16 := by omega
      have q1 : ((d : Nat) : Int).toNat = d := by omega
      have qd : ∀ e os, (grow (redrawn V4 e) os).cell? ⟨g3, d, none⟩ = some (.func (.func 79) #[.agg #[.int .u64 (lb (p.tim d).x 0 : Nat), .int .u64 (lb (p.tim d).x 1 : Nat), .int .u64 (lb (p.tim d).x 2 : Nat), .int .u64 (lb (p.tim d).x 3 : Nat), .int .u64 (lb (p.tim d).y 0 : Nat), .int .u64 (lb (p.tim d).y 1 : Nat), .int .u64 (lb (p.tim d).y 2 : Nat), .int .u64 (lb (p.tim d).y 3 : Nat), .int .u64 (lb (p.tim d).z 0 : Nat), .int .u64 (lb (p.tim d).z 1 : Nat), .int .u64 (lb (p.tim d).z 2 : Nat), .int .u64 (lb (p.tim d).z 3 : Nat)]] #[]) := fun e os => ((K3.out.regrown e os).cell d).trans ((fa_get p 16 d hdd).trans (by unfold fk; rw [if_pos hdd]; rfl))
      obtain ⟨⟨x0, x1, x2, x3⟩, ⟨y0, y1, y2, y3⟩, z0, z1, z2, z3⟩ := K5.out.reg12
      obtain ⟨k0, k1, k2, k3⟩ := K2.out.reg
      rw [rounds_succ]
      go_wp2_with fail
      refine wp_region_below_tail 8 mixed (by kernel_rfl) ?_
      simp only [List.take_succ_cons, List.take_zero, List.drop_succ_cons, List.drop_zero]
      iterate 3 go_big_quiet_step (fail)
      go_big_quiet_step (exact qg HD.out)
      iterate 3 (first | go_big_quiet_step (fail) | quiet_step (fail))
      go_big_quiet_step (exact qg HS.out)
      refine wpQuiet_nil ?_
      intro _ hw'
      obtain ⟨⟨dq, osq⟩, hw''⟩ := hw'
      subst hw''
      have K2' := Lib.hid (K2.out.regrown dq osq)
      have K3' := Lib.hid (K3.out.regrown dq osq)
      have K4' := Lib.hid (K4.out.regrown dq osq)
      have K5' := Lib.hid (K5.out.regrown dq osq)
      have HB' := Lib.hid (HB.out.trans ((below_regrown V4 dq osq).mono HB.out.size))
      clear K2 K3 K4 K5 HB x0 x1 x2 x3 y0 y1 y2 y3 z0 z1 z2 z3 k0 k1 k2 k3 HD HS qd
      generalize grow (redrawn V4 dq) osq = V at K2' K3' K4' K5' HB' ⊢
      obtain ⟨⟨f0, f1, f2, f3⟩, ⟨f4, f5, f6, f7⟩, f8, f9, f10, f11⟩ := K5'.out.fros12
      obtain ⟨⟨c0, c1, c2, c3⟩, ⟨c4, c5, c6, c7⟩, c8, c9, c10, c11⟩ := K5'.out.cells12
      go_wp2_with fail
      go_round
      case rel =>
        refine ⟨i + 1, by omega, by go_num, Bk.puto12 HG.out.2.1 K2'.out, Bk.puto12 HG.out.2.2.1 K3'.out, Bk.puto12 HG.out.2.2.2 K4'.out, ?_, ?_⟩
        · rw [hD.out]; exact Bk.put12 K5'.out
        · have hb := HB'.out
          have hg := HG.out.1.2
          go_grown
      case measure => simp [intOf]; omega
    · obtain rfl : i = 64 := by omega
      rw [← HRES.out] at K5
      simp only [] at K5
      obtain ⟨⟨x0, x1, x2, x3⟩, ⟨y0, y1, y2, y3⟩, z0, z1, z2, z3⟩ := K5.out.cells12
      obtain ⟨⟨f0, f1, f2, f3⟩, ⟨f4, f5, f6, f7⟩, f8, f9, f10, f11⟩ := K4.out.fros12
      obtain ⟨⟨c0, c1, c2, c3⟩, ⟨c4, c5, c6, c7⟩, c8, c9, c10, c11⟩ := K4.out.cells12
      go_wp2_with fail
      refine ret_cell93 rfl g4 tx ty tz rfl (Bk.put12 K4.out) rfl ⟨rfl, ?_⟩
      have hb := HB.out
      have hg := HG.out.1.1
      go_grown
end Go.Proofs.Ytglmmodkflkkkaa
set_option linter.unusedVariables false
set_option linter.unusedSimpArgs false
set_option maxRecDepth 100000
namespace Go.Proofs.Ytglmmodkflkkkaa
open Go.RowKit Go.Sort Limbs Curve
def Po.mul (k : Nat) (p : Po) : Po := ((J.begin p.x p.y p.i).mulN k 64).point
set_option maxHeartbeats 8000000 in
theorem mul_p (k : Nat) (p : Po) (hk : k < W256) (hp : p.ok) (w : World) :
    Calls Try.prog 50 #[nv k, p.v] w fun e w' => e = .returned (if p.on = true then .tuple #[(Po.mul k p).v, .int .i64 0] else .tuple #[Po.zero.v, .int .i64 70]) ∧ Below w.heap.size w w' := by
  have HOP := Lib.hid (onj hp)
  have hj := J.begin_ok (i := p.i) hp.1 hp.2
  have H1 := Lib.hid (fun w => begin_c p.x p.y p.i w)
  have H2 := Lib.hid (fun w => adders_c (J.begin p.x p.y p.i) hj w)
  have H3 := Lib.hid (fun w => multiple_c k (J.begin p.x p.y p.i) hk hj w)
  have H4 := Lib.hid (pointj (J.mulN_ok (k := k) hj 64))
  unfold Po.mul
  clear hp hk hj
  generalize ((J.begin p.x p.y p.i).mulN k 64).point = res at *
  generalize (J.begin p.x p.y p.i).mulN k 64 = pq at *
  generalize J.begin p.x p.y p.i = jp at *
  cases honp : p.on
  · rw [if_neg (by simp)]
    rw [honp] at HOP
    clear honp H1 H2 H3 H4
    obtain ⟨x, y, i⟩ := p
    simp only [Po.v, pn, nv, num] at HOP ⊢
    go_enter Try.func50, Try.ntmps50
    go_wp2_with fail
    refine (keep w.heap.size w (HOP.out _) (by go_grown) (Nat.le_refl _)).mono ?_
    rintro e w1 ⟨rfl, hb, hk⟩
    have KZ : Hid (Bk 51 w1 (w.heap.size + 1 + 1) #[.int .u64 0, .int .u64 0, .int .u64 0, .int .u64 0, .int .u64 0, .int .u64 0, .int .u64 0, .int .u64 0, .bool false]) := Lib.hid (Bk.below (Bk.new (by simp)) hk)
    have HB := Lib.hid hb
    clear hk hb HOP
    obtain ⟨⟨f0, f1, f2, f3⟩, ⟨f4, f5, f6, f7⟩, f8⟩ := KZ.out.fros9
    obtain ⟨⟨c0, c1, c2, c3⟩, ⟨c4, c5, c6, c7⟩, c8⟩ := KZ.out.cells9
    go_wp2_with fail
    refine ret_cell51e rfl (w.heap.size + 1 + 1) 0 0 false (.int .i64 70) rfl rfl (Bk.put9 KZ.out) rfl ⟨rfl, ?_⟩
    have hb := HB.out
    go_grown
  rw [if_pos rfl]
  rw [honp] at HOP
  clear honp
  obtain ⟨x, y, i⟩ := p
  obtain ⟨rx, ry, ri⟩ := res
  generalize hf : fv jp = F at *
  have HF : Hid (∃ cs, F = .agg cs) := Lib.hid ⟨_, hf.symm⟩
  clear hf
  obtain ⟨px, py, pz⟩ := jp
  obtain ⟨sx, sy, sz⟩ := pq
  simp only [Po.v, pn, J.v, jn, nv, num] at HOP H1 H2 H3 H4 ⊢
  go_enter Try.func50, Try.ntmps50
  go_wp2_with fail
  refine (keep w.heap.size w (HOP.out _) (by go_grown) (Nat.le_refl _)).mono ?_
  rintro e w1 ⟨rfl, hb, hk⟩
  have KK : Hid (Bk 24 w1 w.heap.size #[.int .u64 (lb k 0 : Nat), .int .u64 (lb k 1 : Nat), .int .u64 (lb k 2 : Nat), .int .u64 (lb k 3 : Nat)]) := Lib.hid (Bk.below (Bk.alloc (Bk.alloc (Bk.new rfl))) hk)
  have KP : Hid (Bk 51 w1 (w.heap.size + 1) #[.int .u64 (lb x 0 : Nat), .int .u64 (lb x 1 : Nat), .int .u64 (lb x 2 : Nat), .int .u64 (lb x 3 : Nat), .int .u64 (lb y 0 : Nat), .int .u64 (lb y 1 : Nat), .int .u64 (lb y 2 : Nat), .int .u64 (lb y 3 : Nat), .bool i]) := Lib.hid (Bk.below (Bk.alloc (Bk.new (by simp))) hk)
  have KZ : Hid (Bk 51 w1 (w.heap.size + 1 + 1) #[.int .u64 0, .int .u64 0, .int .u64 0, .int .u64 0, .int .u64 0, .int .u64 0, .int .u64 0, .int .u64 0, .bool false]) := Lib.hid (Bk.below (Bk.new (by simp)) hk)
  have HB := Lib.hid hb
  clear hk hb HOP
  go_wp2_with fail
  obtain ⟨⟨x0, x1, x2, x3⟩, ⟨y0, y1, y2, y3⟩, i0⟩ := KP.out.reg9
  obtain ⟨k0, k1, k2, k3⟩ := KK.out.reg
  refine wp_region_below_tail 6 mixed (by kernel_rfl) ?_
  simp only [List.take_succ_cons, List.take_zero, List.drop_succ_cons, List.drop_zero]
  iterate 2 go_big_quiet_step (fail)
  go_big_quiet_step (exact qg H1.out)
  go_big_quiet_step (exact qg H2.out)
  go_big_quiet_step (exact qg H3.out)
  go_big_quiet_step (exact qg H4.out)
  refine wpQuiet_nil ?_
  intro _ hw'
  obtain ⟨⟨dq, osq⟩, hw''⟩ := hw'
  subst hw''
  have KZ3 := Lib.hid (KZ.out.regrown dq osq)
  have HB3 := Lib.hid (HB.out.trans ((below_regrown w1 dq osq).mono HB.out.size))
  clear KK KP KZ HB x0 x1 x2 x3 y0 y1 y2 y3 i0 k0 k1 k2 k3 H1 H2 H3 H4
  generalize grow (redrawn w1 dq) osq = V at KZ3 HB3 ⊢
  obtain ⟨⟨f0, f1, f2, f3⟩, ⟨f4, f5, f6, f7⟩, f8⟩ := KZ3.out.fros9
  obtain ⟨⟨c0, c1, c2, c3⟩, ⟨c4, c5, c6, c7⟩, c8⟩ := KZ3.out.cells9
  go_wp2_with fail
  refine ret_cell51e rfl (w.heap.size + 1 + 1) rx ry ri (.int .i64 0) rfl rfl (Bk.put9 KZ3.out) rfl ⟨rfl, ?_⟩
  have hb := HB3.out
  go_grown
theorem mulp {k : Nat} {p : Po} (hk : k < W256) (hp : p.ok) : ∀ w, Calls Try.prog 50 #[nv k, p.v] w fun e w' => e = .returned (if p.on = true then .tuple #[(Po.mul k p).v, .int .i64 0] else .tuple #[Po.zero.v, .int .i64 70]) ∧ Below w.heap.size w w' := mul_p k p hk hp
theorem Rep.tim {p : J} {P : Pt (Fin PP)} (h : Rep p P) (hP : On aP bP P) : ∀ n, Rep (p.tim n) (mul P n)
  | 0 => Or.inl ⟨rfl, rfl⟩
  | n + 1 => (Rep.tim h hP n).plus h (mul_on hP n) hP
theorem Rep.four {q : J} {P : Pt (Fin PP)} (hP : On aP bP P) {n : Nat} (h : Rep q (mul P n)) : Rep q.twice.twice.twice.twice (mul P (16 * n)) := by
  have h1 := h.twice (mul_on hP n)
  rw [mul_two hP] at h1
  have h2 := h1.twice (mul_on hP _)
  rw [mul_two hP] at h2
  have h3 := h2.twice (mul_on hP _)
  rw [mul_two hP] at h3
  have h4 := h3.twice (mul_on hP _)
  rw [mul_two hP] at h4
  rw [show 16 * n = 2 * (2 * (2 * (2 * n))) by omega]
  exact h4
theorem Rep.mulN {p : J} {P : Pt (Fin PP)} (h : Rep p P) (hP : On aP bP P) {k : Nat} (hk : k < W256) : ∀ i, i ≤ 64 → Rep (p.mulN k i) (mul P (k / 16 ^ (64 - i)))
  | 0, _ => by
    have : k / 16 ^ (64 - 0) = 0 := Nat.div_eq_of_lt (by unfold W256 at hk; simpa using hk)
    rw [this]
    exact Or.inl ⟨rfl, rfl⟩
  | i + 1, hi => by
    have ih := Rep.four hP (Rep.mulN h hP hk i (by omega))
    have := (Rep.tim h hP (dg k i)).plus ih (mul_on hP _) (mul_on hP _)
    rw [← mul_add hP] at this
    have e : dg k i + 16 * (k / 16 ^ (64 - i)) = k / 16 ^ (64 - (i + 1)) := by
      unfold dg
      rw [show 64 - i = 63 - i + 1 by omega, show 64 - (i + 1) = 63 - i by omega, Nat.pow_succ, ← Nat.div_div_eq_div_mul]
      omega
    rw [e] at this
    exact this
theorem mul_is {k : Nat} {p : Po} (hk : k < W256) (hp : p.on = true) : Po.mul k p = ofPt (mul (toPt p) k) := by
  obtain ⟨o1, _, r1⟩ := on_iff hp
  have := (Rep.mulN r1 o1 hk 64 (Nat.le_refl _)).point
  rw [Nat.sub_self, Nat.pow_zero, Nat.div_one] at this
  exact this
end Go.Proofs.Ytglmmodkflkkkaa
set_option linter.unusedVariables false
set_option linter.unusedSimpArgs false
set_option maxRecDepth 100000
namespace Go.Proofs.Ytglmmodkflkkkaa
open Go.RowKit Go.Sort Limbs Curve
end Go.Proofs.Ytglmmodkflkkkaa
