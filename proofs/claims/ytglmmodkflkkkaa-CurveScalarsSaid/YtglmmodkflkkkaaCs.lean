/- A whole variable is stored: the block that holds it. No condition. -/
import Derived.Test.YtglmmodkflkkkaaCc
import Derived.Laws.CopyOwn
set_option linter.unusedVariables false
set_option linter.unusedSimpArgs false
set_option maxRecDepth 100000
namespace Go.Proofs.Ytglmmodkflkkkaa
open Go.RowKit Go.Sort Limbs

theorem Bk.row {t : TypeId} {w : World} {g : Nat} {old cs : Array Value} (h : Bk t w g old) : Bk t (w.setRow g cs) g cs := setRow_heap w g old cs t (0, 0) h
theorem Bk.rowo {t : TypeId} {w : World} {g h : Nat} {cs c : Array Value} (hn : g ≠ h) (k : Bk t w g cs) : Bk t (w.setRow h c) g cs := (setRow_other w h g c hn).trans k
theorem wpList_put {P : Program} {ops : Array Oper} {rest : List Oper} {o : Oper} {a : Act} {w : World} {Q : Exit → Act → World → Prop} (hgd : o.guard = none) (ty : TypeId) (x y : Operand) (ho : o.op = .store ty x y)
    (g : Nat) (old cells : Array Value) (hx : a.eval x = .pointer (some ⟨g, 0, none⟩)) (hy : a.eval y = .agg cells) (hk : Bk ty w g old) (hi : (P.info? ty).map (·.size) = some cells.size)
    (hold : old.size = cells.size) (h1 : cells.all (·.oneCell') = true)
    (h : wpList P ops Q rest (a.put o.dst undef) (w.setRow g cells)) : wpList P ops Q (o :: rest) a w :=
  wpList_plain hgd fun _ hK => wp_store_row ty x y ho g cells hx hy ty old hk hi hold h1 (hK _ _ h)
theorem one12 (x y z : Nat) : (#[.int .u64 (lb x 0 : Nat), .int .u64 (lb x 1 : Nat), .int .u64 (lb x 2 : Nat), .int .u64 (lb x 3 : Nat), .int .u64 (lb y 0 : Nat), .int .u64 (lb y 1 : Nat), .int .u64 (lb y 2 : Nat), .int .u64 (lb y 3 : Nat), .int .u64 (lb z 0 : Nat), .int .u64 (lb z 1 : Nat), .int .u64 (lb z 2 : Nat), .int .u64 (lb z 3 : Nat)] : Array Value).all (·.oneCell') = true := by simp [Value.oneCell']
theorem one9 (x y : Nat) (i : Bool) : (#[.int .u64 (lb x 0 : Nat), .int .u64 (lb x 1 : Nat), .int .u64 (lb x 2 : Nat), .int .u64 (lb x 3 : Nat), .int .u64 (lb y 0 : Nat), .int .u64 (lb y 1 : Nat), .int .u64 (lb y 2 : Nat), .int .u64 (lb y 3 : Nat), .bool i] : Array Value).all (·.oneCell') = true := by simp [Value.oneCell']
end Go.Proofs.Ytglmmodkflkkkaa
