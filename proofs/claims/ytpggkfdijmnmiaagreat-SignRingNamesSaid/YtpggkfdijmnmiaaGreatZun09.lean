/- Blocks of a point and of a point under way. No condition. A point under way over a number: the walk. No condition but that each number is below 2 to the 256. -/
import Derived.Test.YtpggkfdijmnmiaaGreatZun08
set_option linter.unusedVariables false
set_option linter.unusedSimpArgs false
set_option maxRecDepth 100000
namespace Go.Proofs.YtpggkfdijmnmiaaGreat
open Go.RowKit Go.Sort Limbs
theorem Bk.cells12 {t : TypeId} {w : World} {g : Nat} {c0 c1 c2 c3 c4 c5 c6 c7 c8 c9 c10 c11 : Value} (h : Bk t w g #[c0, c1, c2, c3, c4, c5, c6, c7, c8, c9, c10, c11]) : (w.cell? ⟨g, 0, none⟩ = some c0 ∧ w.cell? ⟨g, 1, none⟩ = some c1 ∧ w.cell? ⟨g, 2, none⟩ = some c2 ∧ w.cell? ⟨g, 3, none⟩ = some c3) ∧ (w.cell? ⟨g, 4, none⟩ = some c4 ∧ w.cell? ⟨g, 5, none⟩ = some c5 ∧ w.cell? ⟨g, 6, none⟩ = some c6 ∧ w.cell? ⟨g, 7, none⟩ = some c7) ∧ (w.cell? ⟨g, 8, none⟩ = some c8 ∧ w.cell? ⟨g, 9, none⟩ = some c9 ∧ w.cell? ⟨g, 10, none⟩ = some c10 ∧ w.cell? ⟨g, 11, none⟩ = some c11) :=
  ⟨⟨h.cell 0, h.cell 1, h.cell 2, h.cell 3⟩, ⟨h.cell 4, h.cell 5, h.cell 6, h.cell 7⟩, ⟨h.cell 8, h.cell 9, h.cell 10, h.cell 11⟩⟩
theorem Bk.fros12 {t : TypeId} {w : World} {g : Nat} {cs : Array Value} (h : Bk t w g cs) : (w.frozen? ⟨g, 0, none⟩ = false ∧ w.frozen? ⟨g, 1, none⟩ = false ∧ w.frozen? ⟨g, 2, none⟩ = false ∧ w.frozen? ⟨g, 3, none⟩ = false) ∧ (w.frozen? ⟨g, 4, none⟩ = false ∧ w.frozen? ⟨g, 5, none⟩ = false ∧ w.frozen? ⟨g, 6, none⟩ = false ∧ w.frozen? ⟨g, 7, none⟩ = false) ∧ (w.frozen? ⟨g, 8, none⟩ = false ∧ w.frozen? ⟨g, 9, none⟩ = false ∧ w.frozen? ⟨g, 10, none⟩ = false ∧ w.frozen? ⟨g, 11, none⟩ = false) :=
  ⟨⟨h.fro 0, h.fro 1, h.fro 2, h.fro 3⟩, ⟨h.fro 4, h.fro 5, h.fro 6, h.fro 7⟩, ⟨h.fro 8, h.fro 9, h.fro 10, h.fro 11⟩⟩
theorem Bk.cellsA12 {t : TypeId} {w : World} {g : Nat} {c0 c1 c2 c3 c4 c5 c6 c7 c8 c9 c10 c11 : Value} (h : Bk t w g #[c0, c1, c2, c3, c4, c5, c6, c7, c8, c9, c10, c11]) : ((∀ o, (w.alloc o).cell? ⟨g, 0, none⟩ = some c0) ∧ (∀ o, (w.alloc o).cell? ⟨g, 1, none⟩ = some c1) ∧ (∀ o, (w.alloc o).cell? ⟨g, 2, none⟩ = some c2) ∧ (∀ o, (w.alloc o).cell? ⟨g, 3, none⟩ = some c3)) ∧ ((∀ o, (w.alloc o).cell? ⟨g, 4, none⟩ = some c4) ∧ (∀ o, (w.alloc o).cell? ⟨g, 5, none⟩ = some c5) ∧ (∀ o, (w.alloc o).cell? ⟨g, 6, none⟩ = some c6) ∧ (∀ o, (w.alloc o).cell? ⟨g, 7, none⟩ = some c7)) ∧ ((∀ o, (w.alloc o).cell? ⟨g, 8, none⟩ = some c8) ∧ (∀ o, (w.alloc o).cell? ⟨g, 9, none⟩ = some c9) ∧ (∀ o, (w.alloc o).cell? ⟨g, 10, none⟩ = some c10) ∧ (∀ o, (w.alloc o).cell? ⟨g, 11, none⟩ = some c11)) :=
  ⟨⟨fun _ => h.alloc.cell 0, fun _ => h.alloc.cell 1, fun _ => h.alloc.cell 2, fun _ => h.alloc.cell 3⟩, ⟨fun _ => h.alloc.cell 4, fun _ => h.alloc.cell 5, fun _ => h.alloc.cell 6, fun _ => h.alloc.cell 7⟩, ⟨fun _ => h.alloc.cell 8, fun _ => h.alloc.cell 9, fun _ => h.alloc.cell 10, fun _ => h.alloc.cell 11⟩⟩
theorem Bk.reg12 {t : TypeId} {w : World} {g : Nat} {c0 c1 c2 c3 c4 c5 c6 c7 c8 c9 c10 c11 : Value} (h : Bk t w g #[c0, c1, c2, c3, c4, c5, c6, c7, c8, c9, c10, c11]) : ((∀ d os, (grow (redrawn w d) os).cell? ⟨g, 0, none⟩ = some c0) ∧ (∀ d os, (grow (redrawn w d) os).cell? ⟨g, 1, none⟩ = some c1) ∧ (∀ d os, (grow (redrawn w d) os).cell? ⟨g, 2, none⟩ = some c2) ∧ (∀ d os, (grow (redrawn w d) os).cell? ⟨g, 3, none⟩ = some c3)) ∧ ((∀ d os, (grow (redrawn w d) os).cell? ⟨g, 4, none⟩ = some c4) ∧ (∀ d os, (grow (redrawn w d) os).cell? ⟨g, 5, none⟩ = some c5) ∧ (∀ d os, (grow (redrawn w d) os).cell? ⟨g, 6, none⟩ = some c6) ∧ (∀ d os, (grow (redrawn w d) os).cell? ⟨g, 7, none⟩ = some c7)) ∧ ((∀ d os, (grow (redrawn w d) os).cell? ⟨g, 8, none⟩ = some c8) ∧ (∀ d os, (grow (redrawn w d) os).cell? ⟨g, 9, none⟩ = some c9) ∧ (∀ d os, (grow (redrawn w d) os).cell? ⟨g, 10, none⟩ = some c10) ∧ (∀ d os, (grow (redrawn w d) os).cell? ⟨g, 11, none⟩ = some c11)) :=
  ⟨⟨fun d os => (h.regrown d os).cell 0, fun d os => (h.regrown d os).cell 1, fun d os => (h.regrown d os).cell 2, fun d os => (h.regrown d os).cell 3⟩, ⟨fun d os => (h.regrown d os).cell 4, fun d os => (h.regrown d os).cell 5, fun d os => (h.regrown d os).cell 6, fun d os => (h.regrown d os).cell 7⟩, ⟨fun d os => (h.regrown d os).cell 8, fun d os => (h.regrown d os).cell 9, fun d os => (h.regrown d os).cell 10, fun d os => (h.regrown d os).cell 11⟩⟩
theorem Bk.put12 {t : TypeId} {w : World} {g : Nat} {c0 c1 c2 c3 c4 c5 c6 c7 c8 c9 c10 c11 d0 d1 d2 d3 d4 d5 d6 d7 d8 d9 d10 d11 : Value} (h : Bk t w g #[c0, c1, c2, c3, c4, c5, c6, c7, c8, c9, c10, c11]) : Bk t ((((((((((((w.setCell ⟨g, 0, none⟩ d0).setCell ⟨g, 1, none⟩ d1).setCell ⟨g, 2, none⟩ d2).setCell ⟨g, 3, none⟩ d3).setCell ⟨g, 4, none⟩ d4).setCell ⟨g, 5, none⟩ d5).setCell ⟨g, 6, none⟩ d6).setCell ⟨g, 7, none⟩ d7).setCell ⟨g, 8, none⟩ d8).setCell ⟨g, 9, none⟩ d9).setCell ⟨g, 10, none⟩ d10).setCell ⟨g, 11, none⟩ d11) g #[d0, d1, d2, d3, d4, d5, d6, d7, d8, d9, d10, d11] := by
  have p := (Bk.same (i := 11) (v := d11) (Bk.same (i := 10) (v := d10) (Bk.same (i := 9) (v := d9) (Bk.same (i := 8) (v := d8) (Bk.same (i := 7) (v := d7) (Bk.same (i := 6) (v := d6) (Bk.same (i := 5) (v := d5) (Bk.same (i := 4) (v := d4) (Bk.same (i := 3) (v := d3) (Bk.same (i := 2) (v := d2) (Bk.same (i := 1) (v := d1) (Bk.same (i := 0) (v := d0) h))))))))))))
  simpa using p
theorem Bk.puto12 {t : TypeId} {w : World} {g h : Nat} {cs : Array Value} {d0 d1 d2 d3 d4 d5 d6 d7 d8 d9 d10 d11 : Value} (hn : g ≠ h) (k : Bk t w g cs) : Bk t ((((((((((((w.setCell ⟨h, 0, none⟩ d0).setCell ⟨h, 1, none⟩ d1).setCell ⟨h, 2, none⟩ d2).setCell ⟨h, 3, none⟩ d3).setCell ⟨h, 4, none⟩ d4).setCell ⟨h, 5, none⟩ d5).setCell ⟨h, 6, none⟩ d6).setCell ⟨h, 7, none⟩ d7).setCell ⟨h, 8, none⟩ d8).setCell ⟨h, 9, none⟩ d9).setCell ⟨h, 10, none⟩ d10).setCell ⟨h, 11, none⟩ d11) g cs :=
  (Bk.oth hn (Bk.oth hn (Bk.oth hn (Bk.oth hn (Bk.oth hn (Bk.oth hn (Bk.oth hn (Bk.oth hn (Bk.oth hn (Bk.oth hn (Bk.oth hn (Bk.oth hn k))))))))))))
theorem Bk.cells9 {t : TypeId} {w : World} {g : Nat} {c0 c1 c2 c3 c4 c5 c6 c7 c8 : Value} (h : Bk t w g #[c0, c1, c2, c3, c4, c5, c6, c7, c8]) : (w.cell? ⟨g, 0, none⟩ = some c0 ∧ w.cell? ⟨g, 1, none⟩ = some c1 ∧ w.cell? ⟨g, 2, none⟩ = some c2 ∧ w.cell? ⟨g, 3, none⟩ = some c3) ∧ (w.cell? ⟨g, 4, none⟩ = some c4 ∧ w.cell? ⟨g, 5, none⟩ = some c5 ∧ w.cell? ⟨g, 6, none⟩ = some c6 ∧ w.cell? ⟨g, 7, none⟩ = some c7) ∧ (w.cell? ⟨g, 8, none⟩ = some c8) :=
  ⟨⟨h.cell 0, h.cell 1, h.cell 2, h.cell 3⟩, ⟨h.cell 4, h.cell 5, h.cell 6, h.cell 7⟩, h.cell 8⟩
theorem Bk.fros9 {t : TypeId} {w : World} {g : Nat} {cs : Array Value} (h : Bk t w g cs) : (w.frozen? ⟨g, 0, none⟩ = false ∧ w.frozen? ⟨g, 1, none⟩ = false ∧ w.frozen? ⟨g, 2, none⟩ = false ∧ w.frozen? ⟨g, 3, none⟩ = false) ∧ (w.frozen? ⟨g, 4, none⟩ = false ∧ w.frozen? ⟨g, 5, none⟩ = false ∧ w.frozen? ⟨g, 6, none⟩ = false ∧ w.frozen? ⟨g, 7, none⟩ = false) ∧ (w.frozen? ⟨g, 8, none⟩ = false) :=
  ⟨⟨h.fro 0, h.fro 1, h.fro 2, h.fro 3⟩, ⟨h.fro 4, h.fro 5, h.fro 6, h.fro 7⟩, h.fro 8⟩
theorem Bk.cellsA9 {t : TypeId} {w : World} {g : Nat} {c0 c1 c2 c3 c4 c5 c6 c7 c8 : Value} (h : Bk t w g #[c0, c1, c2, c3, c4, c5, c6, c7, c8]) : ((∀ o, (w.alloc o).cell? ⟨g, 0, none⟩ = some c0) ∧ (∀ o, (w.alloc o).cell? ⟨g, 1, none⟩ = some c1) ∧ (∀ o, (w.alloc o).cell? ⟨g, 2, none⟩ = some c2) ∧ (∀ o, (w.alloc o).cell? ⟨g, 3, none⟩ = some c3)) ∧ ((∀ o, (w.alloc o).cell? ⟨g, 4, none⟩ = some c4) ∧ (∀ o, (w.alloc o).cell? ⟨g, 5, none⟩ = some c5) ∧ (∀ o, (w.alloc o).cell? ⟨g, 6, none⟩ = some c6) ∧ (∀ o, (w.alloc o).cell? ⟨g, 7, none⟩ = some c7)) ∧ ((∀ o, (w.alloc o).cell? ⟨g, 8, none⟩ = some c8)) :=
  ⟨⟨fun _ => h.alloc.cell 0, fun _ => h.alloc.cell 1, fun _ => h.alloc.cell 2, fun _ => h.alloc.cell 3⟩, ⟨fun _ => h.alloc.cell 4, fun _ => h.alloc.cell 5, fun _ => h.alloc.cell 6, fun _ => h.alloc.cell 7⟩, fun _ => h.alloc.cell 8⟩
theorem Bk.frosA9 {t : TypeId} {w : World} {g : Nat} {cs : Array Value} (h : Bk t w g cs) : ((∀ o, (w.alloc o).frozen? ⟨g, 0, none⟩ = false) ∧ (∀ o, (w.alloc o).frozen? ⟨g, 1, none⟩ = false) ∧ (∀ o, (w.alloc o).frozen? ⟨g, 2, none⟩ = false) ∧ (∀ o, (w.alloc o).frozen? ⟨g, 3, none⟩ = false)) ∧ ((∀ o, (w.alloc o).frozen? ⟨g, 4, none⟩ = false) ∧ (∀ o, (w.alloc o).frozen? ⟨g, 5, none⟩ = false) ∧ (∀ o, (w.alloc o).frozen? ⟨g, 6, none⟩ = false) ∧ (∀ o, (w.alloc o).frozen? ⟨g, 7, none⟩ = false)) ∧ ((∀ o, (w.alloc o).frozen? ⟨g, 8, none⟩ = false)) :=
  ⟨⟨fun _ => h.alloc.fro 0, fun _ => h.alloc.fro 1, fun _ => h.alloc.fro 2, fun _ => h.alloc.fro 3⟩, ⟨fun _ => h.alloc.fro 4, fun _ => h.alloc.fro 5, fun _ => h.alloc.fro 6, fun _ => h.alloc.fro 7⟩, fun _ => h.alloc.fro 8⟩
theorem Bk.reg9 {t : TypeId} {w : World} {g : Nat} {c0 c1 c2 c3 c4 c5 c6 c7 c8 : Value} (h : Bk t w g #[c0, c1, c2, c3, c4, c5, c6, c7, c8]) : ((∀ d os, (grow (redrawn w d) os).cell? ⟨g, 0, none⟩ = some c0) ∧ (∀ d os, (grow (redrawn w d) os).cell? ⟨g, 1, none⟩ = some c1) ∧ (∀ d os, (grow (redrawn w d) os).cell? ⟨g, 2, none⟩ = some c2) ∧ (∀ d os, (grow (redrawn w d) os).cell? ⟨g, 3, none⟩ = some c3)) ∧ ((∀ d os, (grow (redrawn w d) os).cell? ⟨g, 4, none⟩ = some c4) ∧ (∀ d os, (grow (redrawn w d) os).cell? ⟨g, 5, none⟩ = some c5) ∧ (∀ d os, (grow (redrawn w d) os).cell? ⟨g, 6, none⟩ = some c6) ∧ (∀ d os, (grow (redrawn w d) os).cell? ⟨g, 7, none⟩ = some c7)) ∧ ((∀ d os, (grow (redrawn w d) os).cell? ⟨g, 8, none⟩ = some c8)) :=
  ⟨⟨fun d os => (h.regrown d os).cell 0, fun d os => (h.regrown d os).cell 1, fun d os => (h.regrown d os).cell 2, fun d os => (h.regrown d os).cell 3⟩, ⟨fun d os => (h.regrown d os).cell 4, fun d os => (h.regrown d os).cell 5, fun d os => (h.regrown d os).cell 6, fun d os => (h.regrown d os).cell 7⟩, fun d os => (h.regrown d os).cell 8⟩
theorem Bk.put9 {t : TypeId} {w : World} {g : Nat} {c0 c1 c2 c3 c4 c5 c6 c7 c8 d0 d1 d2 d3 d4 d5 d6 d7 d8 : Value} (h : Bk t w g #[c0, c1, c2, c3, c4, c5, c6, c7, c8]) : Bk t (((((((((w.setCell ⟨g, 0, none⟩ d0).setCell ⟨g, 1, none⟩ d1).setCell ⟨g, 2, none⟩ d2).setCell ⟨g, 3, none⟩ d3).setCell ⟨g, 4, none⟩ d4).setCell ⟨g, 5, none⟩ d5).setCell ⟨g, 6, none⟩ d6).setCell ⟨g, 7, none⟩ d7).setCell ⟨g, 8, none⟩ d8) g #[d0, d1, d2, d3, d4, d5, d6, d7, d8] := by
  have p := (Bk.same (i := 8) (v := d8) (Bk.same (i := 7) (v := d7) (Bk.same (i := 6) (v := d6) (Bk.same (i := 5) (v := d5) (Bk.same (i := 4) (v := d4) (Bk.same (i := 3) (v := d3) (Bk.same (i := 2) (v := d2) (Bk.same (i := 1) (v := d1) (Bk.same (i := 0) (v := d0) h)))))))))
  simpa using p
def cs12 (x y z : Nat) : Array Value := #[.int .u64 (lb x 0 : Nat), .int .u64 (lb x 1 : Nat), .int .u64 (lb x 2 : Nat), .int .u64 (lb x 3 : Nat), .int .u64 (lb y 0 : Nat), .int .u64 (lb y 1 : Nat), .int .u64 (lb y 2 : Nat), .int .u64 (lb y 3 : Nat), .int .u64 (lb z 0 : Nat), .int .u64 (lb z 1 : Nat), .int .u64 (lb z 2 : Nat), .int .u64 (lb z 3 : Nat)]
def cs9 (x y : Nat) (i : Bool) : Array Value := #[.int .u64 (lb x 0 : Nat), .int .u64 (lb x 1 : Nat), .int .u64 (lb x 2 : Nat), .int .u64 (lb x 3 : Nat), .int .u64 (lb y 0 : Nat), .int .u64 (lb y 1 : Nat), .int .u64 (lb y 2 : Nat), .int .u64 (lb y 3 : Nat), .bool i]
theorem ret_cell93 {fn : Func} {R : Ending → World → Prop} {a : Act} {w : World} {p : Tmp} (h : fn.results = #[.cell p 162]) (g x y z : Nat) (hp : a.tmps.getD p undef = .pointer (some ⟨g, 0, none⟩)) (hk : Bk 162 w g (cs12 x y z)) (hd : a.defers = []) (hR : R (.returned (jn x y z)) w) : bodyPost Tryz.prog fn R .ret a w :=
  bodyPost_ret (v := jn x y z) (results_cell_row h a.tmps w g 162 (cs12 x y z) (0, 0) _ hp hk u93 rfl i93) hd hR
theorem ret_cell51 {fn : Func} {R : Ending → World → Prop} {a : Act} {w : World} {p : Tmp} (h : fn.results = #[.cell p 26]) (g x y : Nat) (i : Bool) (hp : a.tmps.getD p undef = .pointer (some ⟨g, 0, none⟩)) (hk : Bk 26 w g (cs9 x y i)) (hd : a.defers = []) (hR : R (.returned (pn x y i)) w) : bodyPost Tryz.prog fn R .ret a w :=
  bodyPost_ret (v := pn x y i) (results_cell_row h a.tmps w g 26 (cs9 x y i) (0, 0) _ hp hk u51 rfl i51) hd hR
theorem ret_cell51e {fn : Func} {R : Ending → World → Prop} {a : Act} {w : World} {p u : Tmp} (h : fn.results = #[.cell p 26, .tmp u]) (g x y : Nat) (i : Bool) (v : Value) (hp : a.tmps.getD p undef = .pointer (some ⟨g, 0, none⟩)) (hy : a.tmps.getD u undef = v) (hk : Bk 26 w g (cs9 x y i)) (hd : a.defers = []) (hR : R (.returned (.tuple #[pn x y i, v])) w) : bodyPost Tryz.prog fn R .ret a w := by
  subst hy
  refine bodyPost_ret (v := .tuple #[pn x y i, a.tmps.getD u undef]) ?_ hd hR
  rw [results_cell_tmp h, hp]
  show ((loadVar 26 ⟨g, 0, none⟩).run Tryz.prog w).andThen _ = _
  rw [run_loadVar_row w g 26 26 (cs9 x y i) (0, 0) _ hk u51 rfl i51]
  rfl
end Go.Proofs.YtpggkfdijmnmiaaGreat
namespace Go.Proofs.YtpggkfdijmnmiaaGreat
open Go.RowKit Go.Sort Limbs
theorem mp_lt (a : Nat) : a % mP < W256 := Nat.lt_trans (Nat.mod_lt _ (by decide +kernel)) (by decide +kernel)
set_option maxHeartbeats 16000000 in
theorem over_c (x y z f : Nat) (hx : x < W256) (hy : y < W256) (hz : z < W256) (hf : f < W256) (w : World) :
    Calls Tryz.prog 170 #[jn x y z, nv f] w fun e w' => e = .returned (jn (x * (f * f % mP) % mP) (y * ((f * f % mP) * f % mP) % mP) (z * f % mP)) ∧ Below w.heap.size w w' := by
  have H1 := Lib.hid (mul_c f f hf hf)
  have H2 := Lib.hid (mul_c x (f * f % mP) hx (mp_lt _))
  have H3 := Lib.hid (mul_c (f * f % mP) f (mp_lt _) hf)
  have H4 := Lib.hid (mul_c y ((f * f % mP) * f % mP) hy (mp_lt _))
  have H5 := Lib.hid (mul_c z f hz hf)
  clear hx hy hz hf
  generalize x * (f * f % mP) % mP = rx at *
  generalize y * ((f * f % mP) * f % mP) % mP = ry at *
  generalize (f * f % mP) * f % mP = cube at *
  generalize f * f % mP = sq at *
  generalize z * f % mP = rz at *
  simp only [jn, nv, num] at H1 H2 H3 H4 H5 ⊢
  go_enter Tryz.func170, Tryz.ntmps170
  go_wp2_with fail
  refine (keep w.heap.size w (H1.out _) (by go_grown) (Nat.le_refl _)).mono ?_
  rintro e w1 ⟨rfl, hb, hk⟩
  have KP : Hid (Bk 162 w1 w.heap.size #[.int .u64 (lb x 0 : Nat), .int .u64 (lb x 1 : Nat), .int .u64 (lb x 2 : Nat), .int .u64 (lb x 3 : Nat), .int .u64 (lb y 0 : Nat), .int .u64 (lb y 1 : Nat), .int .u64 (lb y 2 : Nat), .int .u64 (lb y 3 : Nat), .int .u64 (lb z 0 : Nat), .int .u64 (lb z 1 : Nat), .int .u64 (lb z 2 : Nat), .int .u64 (lb z 3 : Nat)]) := Lib.hid (Bk.below (Bk.alloc (Bk.alloc (Bk.new rfl))) hk)
  have KF : Hid (Bk 24 w1 (w.heap.size + 1) #[.int .u64 (lb f 0 : Nat), .int .u64 (lb f 1 : Nat), .int .u64 (lb f 2 : Nat), .int .u64 (lb f 3 : Nat)]) := Lib.hid (Bk.below (Bk.alloc (Bk.new (by simp))) hk)
  have KR : Hid (Bk 162 w1 (w.heap.size + 1 + 1) #[.int .u64 0, .int .u64 0, .int .u64 0, .int .u64 0, .int .u64 0, .int .u64 0, .int .u64 0, .int .u64 0, .int .u64 0, .int .u64 0, .int .u64 0, .int .u64 0]) := Lib.hid (Bk.below (Bk.new (by simp)) hk)
  have HB := Lib.hid hb
  clear hk hb H1
  go_wp2_with fail
  have KP1 : Hid (Bk 162 (w1.alloc (.cells #[.int .u64 (lb sq 0 : Nat), .int .u64 (lb sq 1 : Nat), .int .u64 (lb sq 2 : Nat), .int .u64 (lb sq 3 : Nat)] 24)) w.heap.size #[.int .u64 (lb x 0 : Nat), .int .u64 (lb x 1 : Nat), .int .u64 (lb x 2 : Nat), .int .u64 (lb x 3 : Nat), .int .u64 (lb y 0 : Nat), .int .u64 (lb y 1 : Nat), .int .u64 (lb y 2 : Nat), .int .u64 (lb y 3 : Nat), .int .u64 (lb z 0 : Nat), .int .u64 (lb z 1 : Nat), .int .u64 (lb z 2 : Nat), .int .u64 (lb z 3 : Nat)]) := Lib.hid (Bk.alloc KP.out)
  have KF1 : Hid (Bk 24 (w1.alloc (.cells #[.int .u64 (lb sq 0 : Nat), .int .u64 (lb sq 1 : Nat), .int .u64 (lb sq 2 : Nat), .int .u64 (lb sq 3 : Nat)] 24)) (w.heap.size + 1) #[.int .u64 (lb f 0 : Nat), .int .u64 (lb f 1 : Nat), .int .u64 (lb f 2 : Nat), .int .u64 (lb f 3 : Nat)]) := Lib.hid (Bk.alloc KF.out)
  have KR1 : Hid (Bk 162 (w1.alloc (.cells #[.int .u64 (lb sq 0 : Nat), .int .u64 (lb sq 1 : Nat), .int .u64 (lb sq 2 : Nat), .int .u64 (lb sq 3 : Nat)] 24)) (w.heap.size + 1 + 1) #[.int .u64 0, .int .u64 0, .int .u64 0, .int .u64 0, .int .u64 0, .int .u64 0, .int .u64 0, .int .u64 0, .int .u64 0, .int .u64 0, .int .u64 0, .int .u64 0]) := Lib.hid (Bk.alloc KR.out)
  have KS1 : Hid (Bk 24 (w1.alloc (.cells #[.int .u64 (lb sq 0 : Nat), .int .u64 (lb sq 1 : Nat), .int .u64 (lb sq 2 : Nat), .int .u64 (lb sq 3 : Nat)] 24)) w1.heap.size #[.int .u64 (lb sq 0 : Nat), .int .u64 (lb sq 1 : Nat), .int .u64 (lb sq 2 : Nat), .int .u64 (lb sq 3 : Nat)]) := Lib.hid (Bk.new rfl)
  have HB1 : Hid (Below w.heap.size w (w1.alloc (.cells #[.int .u64 (lb sq 0 : Nat), .int .u64 (lb sq 1 : Nat), .int .u64 (lb sq 2 : Nat), .int .u64 (lb sq 3 : Nat)] 24))) := Lib.hid (by have hb := HB.out; have hs := hb.size; go_grown)
  generalize (w1.alloc (.cells #[.int .u64 (lb sq 0 : Nat), .int .u64 (lb sq 1 : Nat), .int .u64 (lb sq 2 : Nat), .int .u64 (lb sq 3 : Nat)] 24)) = W at KP1 KF1 KR1 KS1 HB1 ⊢
  obtain ⟨gf, hgf⟩ : ∃ z, z = w.heap.size + 1 := ⟨_, rfl⟩
  obtain ⟨gr, hgr⟩ : ∃ z, z = w.heap.size + 1 + 1 := ⟨_, rfl⟩
  rw [← hgr] at KR1 ⊢
  rw [← hgf] at KF1 ⊢
  generalize w1.heap.size = gs at KS1 ⊢
  have HG := Lib.hid (show w.heap.size ≤ gr by omega)
  clear hgr hgf KP KF KR HB
  obtain ⟨⟨x0, x1, x2, x3⟩, ⟨y0, y1, y2, y3⟩, z0, z1, z2, z3⟩ := KP1.out.reg12
  obtain ⟨f0, f1, f2, f3⟩ := KF1.out.reg
  obtain ⟨s0, s1, s2, s3⟩ := KS1.out.reg
  refine wp_region_below_tail 15 mixed (by kernel_rfl) ?_
  simp only [List.take_succ_cons, List.take_zero, List.drop_succ_cons, List.drop_zero]
  iterate 3 go_big_quiet_step (fail)
  go_big_quiet_step (exact qg H2.out)
  iterate 4 go_big_quiet_step (fail)
  go_big_quiet_step (exact qg H3.out)
  go_big_quiet_step (exact qg H4.out)
  iterate 3 go_big_quiet_step (fail)
  go_big_quiet_step (exact qg H5.out)
  repeat (first | go_big_quiet_step (fail) | quiet_step (fail))
  refine wpQuiet_nil ?_
  intro _ hw'
  obtain ⟨⟨dq, osq⟩, hw''⟩ := hw'
  subst hw''
  have KR2 := Lib.hid (KR1.out.regrown dq osq)
  have HB2 := Lib.hid (HB1.out.trans ((below_regrown W dq osq).mono HB1.out.size))
  clear KP1 KF1 KR1 KS1 HB1 x0 x1 x2 x3 y0 y1 y2 y3 z0 z1 z2 z3 f0 f1 f2 f3 s0 s1 s2 s3 H2 H3 H4 H5
  generalize grow (redrawn W dq) osq = V at KR2 HB2 ⊢
  obtain ⟨⟨f0, f1, f2, f3⟩, ⟨f4, f5, f6, f7⟩, f8, f9, f10, f11⟩ := KR2.out.fros12
  obtain ⟨⟨c0, c1, c2, c3⟩, ⟨c4, c5, c6, c7⟩, c8, c9, c10, c11⟩ := KR2.out.cells12
  go_wp2_with fail
  refine ret_cell93 rfl gr rx ry rz rfl (Bk.put12 KR2.out) rfl ⟨rfl, ?_⟩
  have hb := HB2.out
  have hg := HG.out
  go_grown
end Go.Proofs.YtpggkfdijmnmiaaGreat
