/- The program's table, out of what a row lists; a world in which it lies. No condition. -/
import Derived.Test.YtmoihgniglomiaaDoorCards
import Derived.Test.YtmoihgniglomiaaDoorTie
import Derived.Lib.LaidIn
import Derived.Lib.LaidTab
import Derived.Test.YtmoihgniglomiaaDoorZY
import Derived.Test.YtmoihgniglomiaaDoorZWc
set_option linter.unusedVariables false
set_option linter.unusedSimpArgs false
set_option maxRecDepth 100000
namespace Go.Proofs.YtmoihgniglomiaaDoor
open Go.ChangeShapes Go.WideShapes Go.ChangeAt Go.ChangeMaps Go.RowKit Go.Deep

def tabZ : List Int := Crc.T.map Int.ofNat
theorem tab_eq : Rows.laid_seneschal_wal_halves (H := Unit) = Lib.tabData .u32 tabZ := by kernel_rfl
theorem tb_of_laid {W : World} (hL : laidMetH Tryd.prog [("seneschal/wal.halves", Rows.laid_seneschal_wal_halves)] W) : Tb W := by
  rw [tab_eq] at hL
  obtain ⟨g', t', cs, fuel, p, hg', ht', hvar, hd⟩ := Lib.laidMet.reads hL (.head _)
  obtain rfl := Option.some.inj ((show Tryd.prog.globalNamed "seneschal/wal.halves" = some 0 by kernel_rfl).symm.trans hg')
  obtain rfl := Option.some.inj ((show (Tryd.prog.globals[0]?).map (·.type) = some 83 by kernel_rfl).symm.trans ht')
  have hcs := Lib.cells_of_tab Tryd.underlying83 Tryd.underlying22 (by kernel_rfl) (by kernel_rfl) hd
  unfold World.var? at hvar
  rw [show Tryd.prog.globalNamed "seneschal/wal.halves" = some 0 by kernel_rfl] at hvar
  simp only [Option.bind_some] at hvar
  cases hh : W.heap[0]? with
  | none => rw [hh] at hvar; cases hvar
  | some o =>
    rw [hh] at hvar
    cases o with
    | cells cs' t' fz =>
      simp at hvar
      subst hvar
      refine ⟨blk_lt hh, fun i hi => ?_⟩
      rw [blk_cell hh]
      rw [← Array.getElem?_toList, hcs]
      have : ∀ i, i < 16 → (tabZ.map fun z => Value.int .u32 z)[i]? = some (.int .u32 (Crc.T.getD i 0 : Int)) := by
        intro i hi
        have hl : Crc.T.length = 16 := rfl
        have h1 : Crc.T[i]? = some (Crc.T[i]'(by omega)) := List.getElem?_eq_getElem _

        simp [tabZ, h1]
      exact this i hi
    | _ => simp at hvar
noncomputable def laidWorld (os : Os) : World :=
  let w0 := World.holding Tryd.prog os ⟨#[], #[], []⟩
  let put (h : Array Obj) (g : Nat) (cs : Array Value) : Array Obj := h.modify g fun
    | .cells _ t frozen => .cells cs t frozen
    | o => o
  { w0 with heap := put w0.heap 0 (tabZ.map fun z => Value.int .u32 z).toArray }
section
open Go.Joins
variable {H : Type} {enc : TypeId × Value → H}
theorem open_strs_len {W : World} {b0 : Nat} {v : Value} {d : DataW H} {ps : List MemPlace} (hv : Value.okWide Tryd.prog W .any b0 31 v) (h : DataW.Trod enc Tryd.prog W 0 (fun _ => true) true 31 v d ps)
    (hw : ∀ n ∈ d.weights Tryd.prog 31, n ≤ 140737488351232) : ∃ l : List ByteArray, StrIn W v l ∧ l.length ≤ 8796093022208 := by
  obtain ⟨A, n, c, rfl⟩ := okWide_slice Tryd.underlying31 hv
  obtain ⟨fuel, hf⟩ := h
  rcases open_strs Tryd.underlying31 Tryd.underlying9 cells9 hf with ⟨hc, hx⟩ | ⟨a, len, cap, m, Sx, hc, _, hl, hm, hmm, hx, hi⟩
  · have e : Value.slice A n c = .slice none 0 0 := by simpa [Value.cells] using hc
    rw [e]
    exact ⟨[], ⟨none, 0, rfl, fun h => absurd rfl h⟩, by simp⟩
  · have e : Value.slice A n c = .slice (some a) len cap := by simpa [Value.cells] using hc
    rw [e]
    have hlm : len ≤ m := by rw [hmm]; simp; exact hl
    have hlen : ((List.range len).map Sx).length = len := by simp
    obtain ⟨hd, _⟩ := Prod.mk.inj hx
    subst hd
    have hlw : (len + (m - len)) * 16 ≤ 140737488351232 := hw _ (by simp [DataW.weights, Tryd.underlying31, bytes9])
    refine ⟨(List.range len).map Sx, ⟨some a, cap, by rw [hlen], fun hne => ?_⟩, by rw [hlen]; omega⟩
    have h0 : 0 < len := by
      rcases Nat.eq_zero_or_pos len with h | h
      · subst h; exact absurd rfl hne
      · exact h
    obtain ⟨c0, _⟩ := hi 0 (by omega)
    have e0 : a.add 0 = a := by simp [Addr.add]
    rw [e0] at c0
    have hadd := add_off c0
    refine ⟨a.block, a.off, by have := hadd 0; rw [e0] at this; rw [this], World.block_lt_of_cell? W _ c0, fun i hi' => ?_⟩
    have hil : i < len := by simpa using hi'
    obtain ⟨ci, _⟩ := hi i (by omega)
    rw [hadd] at ci
    simpa using ci
end
end Go.Proofs.YtmoihgniglomiaaDoor
