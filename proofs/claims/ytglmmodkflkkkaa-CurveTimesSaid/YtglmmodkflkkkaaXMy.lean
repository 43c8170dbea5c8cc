import Derived.Test.YtglmmodkflkkkaaXNa
import Derived.Deep.Strs
import Derived.Test.YtglmmodkflkkkaaXCa
set_option linter.unusedVariables false
set_option linter.unusedSimpArgs false
set_option maxRecDepth 100000
namespace Go.Proofs.Ytglmmodkflkkkaa
open Go.ChangeShapes Go.WideShapes Go.ChangeAt Go.RowKit Limbs Go.Joins
section
variable {H : Type} {enc : TypeId × Value → H}
theorem open_four {W : World} {base : Nat} {spare : Nat → Bool} {held : Bool} {fuel : Nat} {c0 c1 c2 c3 : Value} {x : DataW H × List MemPlace} (hf : DataW.trod enc Try.prog W base spare held fuel 24 [c0, c1, c2, c3] = some x) :
    ∃ n : Nat, n < W256 ∧ (c0 = .int .u64 (lb n 0 : Nat) ∧ c1 = .int .u64 (lb n 1 : Nat) ∧ c2 = .int .u64 (lb n 2 : Nat) ∧ c3 = .int .u64 (lb n 3 : Nat)) ∧ x = (nd n, []) := by
  obtain ⟨y0, y1, y2, y3, m, hx, hy0, hy1, hy2, hy3⟩ := trod_array4 Try.underlying24 (show Try.prog.cellsOf 22 = 1 by kernel_rfl) hf
  obtain ⟨x0, e0, rfl, w0⟩ := DataW.trod_int Try.underlying22 hy0
  obtain ⟨x1, e1, rfl, w1⟩ := DataW.trod_int Try.underlying22 hy1
  obtain ⟨x2, e2, rfl, w2⟩ := DataW.trod_int Try.underlying22 hy2
  obtain ⟨x3, e3, rfl, w3⟩ := DataW.trod_int Try.underlying22 hy3
  simp at e0 e1 e2 e3
  subst e0 e1 e2 e3
  have b0 := wf_u64 w0
  have b1 := wf_u64 w1
  have b2 := wf_u64 w2
  have b3 := wf_u64 w3
  obtain ⟨n0, rfl⟩ := Int.eq_ofNat_of_zero_le b0.1
  obtain ⟨n1, rfl⟩ := Int.eq_ofNat_of_zero_le b1.1
  obtain ⟨n2, rfl⟩ := Int.eq_ofNat_of_zero_le b2.1
  obtain ⟨n3, rfl⟩ := Int.eq_ofNat_of_zero_le b3.1
  have h0 : n0 < 18446744073709551616 := by omega
  have h1 : n1 < 18446744073709551616 := by omega
  have h2 : n2 < 18446744073709551616 := by omega
  have h3 : n3 < 18446744073709551616 := by omega
  obtain ⟨l0, l1, l2, l3⟩ := lb_v4 h0 h1 h2 h3
  refine ⟨v4 n0 n1 n2 n3, v4_lt h0 h1 h2 h3, ?_, ?_⟩
  · rw [l0, l1, l2, l3]; exact ⟨rfl, rfl, rfl, rfl⟩
  · rw [hx]; unfold nd; rw [l0, l1, l2, l3]; rfl
end
end Go.Proofs.Ytglmmodkflkkkaa
set_option linter.unusedVariables false
set_option linter.unusedSimpArgs false
set_option maxRecDepth 100000
namespace Go.Proofs.Ytglmmodkflkkkaa
open Go.ChangeShapes Go.WideShapes Go.ChangeAt Go.RowKit Limbs Go.Joins
theorem array9 {cs : Array Value} (h : cs.size = 9) : ∃ c0 c1 c2 c3 c4 c5 c6 c7 c8, cs = #[c0, c1, c2, c3, c4, c5, c6, c7, c8] := by
  obtain ⟨l⟩ := cs
  simp at h
  match l, h with
  | [c0, c1, c2, c3, c4, c5, c6, c7, c8], _ => exact ⟨c0, c1, c2, c3, c4, c5, c6, c7, c8, rfl⟩
section
variable {H : Type} {enc : TypeId × Value → H}
def pd (x y : Nat) (i : Bool) : DataW H := .agg [nd x, nd y, .lit (.bool i)]
theorem open_point {W : World} {r : Reach} {b0 base : Nat} {spare : Nat → Bool} {held : Bool} {v : Value} {d : DataW H} {p : List MemPlace} (hv : Value.okWide Try.prog W r b0 51 v) (h : DataW.Trod enc Try.prog W base spare held 51 v d p) :
    ∃ (x y : Nat) (i : Bool), x < W256 ∧ y < W256 ∧ v = pn x y i ∧ d = pd x y i ∧ p = [] := by
  obtain ⟨cs, rfl, hsz, _⟩ : ∃ cs, v = .agg cs ∧ cs.size = Try.prog.cellsOf 51 ∧ Row.okWide Try.prog W r b0 51 cs := by
    simpa [Value.okWide, Try.underlying51] using hv
  rw [show Try.prog.cellsOf 51 = 9 by kernel_rfl] at hsz
  obtain ⟨c0, c1, c2, c3, c4, c5, c6, c7, c8, rfl⟩ := array9 hsz
  obtain ⟨fuel, hf⟩ := h
  have c24 : Try.prog.cellsOf 24 = 4 := by kernel_rfl
  have c4 : Try.prog.cellsOf 4 = 1 := by kernel_rfl
  simp only [Value.cells] at hf
  obtain ⟨y0, y1, y2, n, hx, _, h0, h1, h2⟩ := Go.Deep.trod_struct3 Try.underlying51 hf
  simp [c24, c4] at h0 h1 h2
  obtain ⟨x, hx', ⟨rfl, rfl, rfl, rfl⟩, rfl⟩ := open_four h0
  obtain ⟨y, hy', ⟨rfl, rfl, rfl, rfl⟩, rfl⟩ := open_four h1
  obtain ⟨i, e, rfl⟩ := DataW.trod_bool Try.underlying4 h2
  simp at e
  subst e
  simp at hx
  obtain ⟨rfl, rfl⟩ := hx
  exact ⟨x, y, i, hx', hy', rfl, rfl, rfl⟩
theorem shut_point {W : World} {base : Nat} {spare : Nat → Bool} {held : Bool} (x y : Nat) (i : Bool) :
    DataW.Trod enc Try.prog W base spare held 51 (pn x y i) (pd x y i) [] := by
  have c22 : Try.prog.cellsOf 22 = 1 := by kernel_rfl
  have c24 : Try.prog.cellsOf 24 = 4 := by kernel_rfl
  have c51 : Try.prog.cellsOf 51 = 9 := by kernel_rfl
  have c4 : Try.prog.cellsOf 4 = 1 := by kernel_rfl
  have r4 : List.range 4 = [0, 1, 2, 3] := rfl
  exact ⟨3, by simp [DataW.trod, pn, pd, nd, Value.cells, Try.underlying51, Try.underlying24, Try.underlying22, Try.underlying4, c22, c24, c51, c4, r4, u64_wf (lb_lt x 0), u64_wf (lb_lt x 1), u64_wf (lb_lt x 2), u64_wf (lb_lt x 3), u64_wf (lb_lt y 0), u64_wf (lb_lt y 1), u64_wf (lb_lt y 2), u64_wf (lb_lt y 3)]⟩
end
end Go.Proofs.Ytglmmodkflkkkaa
