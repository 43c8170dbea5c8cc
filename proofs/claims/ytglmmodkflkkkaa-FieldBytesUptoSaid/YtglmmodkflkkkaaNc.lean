/- What is left of a number, divided by a modulus of 256 bits; blocks of memory through calls. No condition but the modulus's highest bit. -/
import Derived.Test.YtglmmodkflkkkaaNb
import Derived.Laws.Rows
import Derived.Laws.ResultCell
set_option linter.unusedVariables false
set_option linter.unusedSimpArgs false
set_option maxRecDepth 100000
namespace Go.Proofs.Ytglmmodkflkkkaa
open Go.RowKit Limbs

/-- block g holds these cells, and may be written -/
def Bk (t : TypeId) (w : World) (g : Nat) (cs : Array Value) : Prop := w.heap[g]? = some (.cells cs t (0, 0))
theorem Bk.lt {t : TypeId} {w : World} {g : Nat} {cs : Array Value} (h : Bk t w g cs) : g < w.heap.size := (Array.getElem?_eq_some_iff.1 h).1
theorem Bk.new {t : TypeId} {w : World} {g : Nat} {cs : Array Value} (h : g = w.heap.size) : Bk t (w.alloc (.cells cs t)) g cs := by
  subst h; exact Go.heap_alloc_new w _
theorem Bk.alloc {t : TypeId} {w : World} {g : Nat} {cs : Array Value} {o : Obj} (h : Bk t w g cs) : Bk t (w.alloc o) g cs := (show (w.alloc o).heap[g]? = w.heap[g]? from by show (w.heap.push o)[g]? = _; rw [Array.getElem?_push, if_neg (Nat.ne_of_lt h.lt)]).trans h
theorem Bk.drew {t : TypeId} {w : World} {g : Nat} {cs : Array Value} (h : Bk t w g cs) : Bk t w.drew g cs := h
theorem Bk.same {t : TypeId} {w : World} {g i : Nat} {cs : Array Value} {v : Value} (h : Bk t w g cs) : Bk t (w.setCell ⟨g, i, none⟩ v) g (cs.setIfInBounds i v) := heap_setCell_same w g i cs t v h
theorem Bk.oth {t : TypeId} {w : World} {g : Nat} {a : Addr} {cs : Array Value} {v : Value} (hn : g ≠ a.block) (h : Bk t w g cs) : Bk t (w.setCell a v) g cs := (heap_setCell_other w a g v hn).trans h
theorem Bk.below {t : TypeId} {w w' : World} {g : Nat} {cs : Array Value} (h : Bk t w g cs) (hb : Below w.heap.size w w') : Bk t w' g cs := (hb.block _ h.lt).trans h
theorem Bk.cell {t : TypeId} {w : World} {g : Nat} {cs : Array Value} (h : Bk t w g cs) (i : Nat) : w.cell? ⟨g, i, none⟩ = cs[i]? := cell_of_row w g i cs t (0, 0) h
theorem Bk.fro {t : TypeId} {w : World} {g : Nat} {cs : Array Value} (h : Bk t w g cs) (i : Nat) : w.frozen? ⟨g, i, none⟩ = false := frozen_of_row w g i cs t h
theorem Bk.cells {t : TypeId} {w : World} {g : Nat} {a b c d : Value} (h : Bk t w g #[a, b, c, d]) : w.cell? ⟨g, 0, none⟩ = some a ∧ w.cell? ⟨g, 1, none⟩ = some b ∧ w.cell? ⟨g, 2, none⟩ = some c ∧ w.cell? ⟨g, 3, none⟩ = some d :=
  ⟨h.cell 0, h.cell 1, h.cell 2, h.cell 3⟩
theorem Bk.fros {t : TypeId} {w : World} {g : Nat} {cs : Array Value} (h : Bk t w g cs) : w.frozen? ⟨g, 0, none⟩ = false ∧ w.frozen? ⟨g, 1, none⟩ = false ∧ w.frozen? ⟨g, 2, none⟩ = false ∧ w.frozen? ⟨g, 3, none⟩ = false :=
  ⟨h.fro 0, h.fro 1, h.fro 2, h.fro 3⟩
theorem Bk.cellsA {t : TypeId} {w : World} {g : Nat} {a b c d : Value} (h : Bk t w g #[a, b, c, d]) : (∀ o, (w.alloc o).cell? ⟨g, 0, none⟩ = some a) ∧ (∀ o, (w.alloc o).cell? ⟨g, 1, none⟩ = some b) ∧ (∀ o, (w.alloc o).cell? ⟨g, 2, none⟩ = some c) ∧ (∀ o, (w.alloc o).cell? ⟨g, 3, none⟩ = some d) :=
  ⟨fun _ => h.alloc.cell 0, fun _ => h.alloc.cell 1, fun _ => h.alloc.cell 2, fun _ => h.alloc.cell 3⟩
theorem Bk.frosA {t : TypeId} {w : World} {g : Nat} {cs : Array Value} (h : Bk t w g cs) : (∀ o, (w.alloc o).frozen? ⟨g, 0, none⟩ = false) ∧ (∀ o, (w.alloc o).frozen? ⟨g, 1, none⟩ = false) ∧ (∀ o, (w.alloc o).frozen? ⟨g, 2, none⟩ = false) ∧ (∀ o, (w.alloc o).frozen? ⟨g, 3, none⟩ = false) :=
  ⟨fun _ => h.alloc.fro 0, fun _ => h.alloc.fro 1, fun _ => h.alloc.fro 2, fun _ => h.alloc.fro 3⟩
/-- the cells of a number -/
def cs4 (x : Nat) : Array Value := #[.int .u64 (lb x 0 : Nat), .int .u64 (lb x 1 : Nat), .int .u64 (lb x 2 : Nat), .int .u64 (lb x 3 : Nat)]
def cs0 : Array Value := #[.int .u64 0, .int .u64 0, .int .u64 0, .int .u64 0]
/-- what was known of the world ahead of a call that lays new memory alone, behind it -/
theorem keep {f : FuncId} {args : Array Value} {W : World} {R : Ending → Prop} (B : Nat) (w : World) (h : Calls Try.prog f args W fun e w' => R e ∧ Below W.heap.size W w') (hb : Below B w W) (hB : B ≤ w.heap.size) :
    Calls Try.prog f args W fun e w' => R e ∧ Below B w w' ∧ Below W.heap.size W w' :=
  h.mono fun _ _ h => ⟨h.1, hb.trans (h.2.mono (Nat.le_trans hB hb.size)), h.2⟩
theorem Bk.put {t : TypeId} {w : World} {g : Nat} {a b c d a' b' c' d' : Value} (h : Bk t w g #[a, b, c, d]) : Bk t ((((w.setCell ⟨g, 0, none⟩ a').setCell ⟨g, 1, none⟩ b').setCell ⟨g, 2, none⟩ c').setCell ⟨g, 3, none⟩ d') g #[a', b', c', d'] :=
  Bk.same (i := 3) (v := d') (Bk.same (i := 2) (v := c') (Bk.same (i := 1) (v := b') (Bk.same (i := 0) (v := a') h)))
theorem Bk.puto {t : TypeId} {w : World} {g h : Nat} {cs : Array Value} {a' b' c' d' : Value} (hn : g ≠ h) (k : Bk t w g cs) : Bk t ((((w.setCell ⟨h, 0, none⟩ a').setCell ⟨h, 1, none⟩ b').setCell ⟨h, 2, none⟩ c').setCell ⟨h, 3, none⟩ d') g cs :=
  Bk.oth hn (Bk.oth hn (Bk.oth hn (Bk.oth hn k)))
theorem u24 : Try.prog.underlying 24 = some (.array 4 22) := by kernel_rfl
theorem i24 : (Try.prog.info? 24).map (·.size) = some 4 := by kernel_rfl
/-- a return of a number that lies in a block -/
theorem ret_cell {fn : Func} {R : Ending → World → Prop} {a : Act} {w : World} {p : Tmp} (h : fn.results = #[.cell p 24]) (g x : Nat) (hp : a.tmps.getD p undef = .pointer (some ⟨g, 0, none⟩)) (hk : Bk 24 w g (cs4 x)) (hd : a.defers = []) (hR : R (.returned (nv x)) w) : bodyPost Try.prog fn R .ret a w :=
  bodyPost_ret (v := nv x) (results_cell_row h a.tmps w g 24 (cs4 x) (0, 0) _ hp hk u24 rfl i24) hd hR
theorem ret_cell2 {fn : Func} {R : Ending → World → Prop} {a : Act} {w : World} {p u : Tmp} (h : fn.results = #[.cell p 24, .tmp u]) (g x : Nat) (y : Value) (hp : a.tmps.getD p undef = .pointer (some ⟨g, 0, none⟩)) (hy : a.tmps.getD u undef = y) (hk : Bk 24 w g (cs4 x)) (hd : a.defers = []) (hR : R (.returned (.tuple #[nv x, y])) w) : bodyPost Try.prog fn R .ret a w := by
  subst hy
  refine bodyPost_ret (v := .tuple #[nv x, a.tmps.getD u undef]) ?_ hd hR
  rw [results_cell_tmp h, hp]
  show ((loadVar 24 ⟨g, 0, none⟩).run Try.prog w).andThen _ = _
  rw [run_loadVar_row w g 24 24 (cs4 x) (0, 0) _ hk u24 rfl i24]
  rfl
set_option maxHeartbeats 4000000 in
theorem left_any (a M : Nat) (ha : a < W256) (hM : M < W256) (h2 : a < 2 * M) (w : World) :
    Calls Try.prog 55 #[nv a, nv M] w fun e w' => e = .returned (nv (a % M)) ∧ Below w.heap.size w w' := by
  have HM : Hid (∀ d c : Nat, d < W256 → d + M = a + W256 * c → (c = 0 → d = a % M) ∧ (c ≠ 0 → a = a % M)) := Lib.hid (by
    intro d c hd he
    constructor
    · intro h; subst h
      rw [show a = d + M from by omega, Nat.add_mod_right, Nat.mod_eq_of_lt (by omega)]
    · intro h
      have : W256 * 1 ≤ W256 * c := Nat.mul_le_mul_left _ (by omega)
      rw [Nat.mod_eq_of_lt (by omega)])
  simp only [nv, num]
  go_enter Try.func55, Try.ntmps55
  go_wp2_with fail
  refine (keep w.heap.size w (minus_nv a M ha hM _) (by go_grown) (Nat.le_refl _)).mono ?_
  rintro e w2 ⟨⟨d, c, hd, hc, he, rfl⟩, hb, hk⟩
  have K0 : Hid (Bk 24 w2 w.heap.size (cs4 a)) := Lib.hid (Bk.below (Bk.alloc (Bk.alloc (Bk.new rfl))) hk)
  have K1 : Hid (Bk 24 w2 (w.heap.size + 1 + 1) cs0) := Lib.hid (Bk.below (Bk.new (by simp)) hk)
  clear hk
  simp only [nv, num]
  have HE := Lib.hid (HM.out d c hd he)
  have HB := Lib.hid hb
  clear he hb HM
  obtain ⟨i0, i1, i2, i3⟩ := K0.out.cellsA
  obtain ⟨j0, j1, j2, j3⟩ := K1.out.cellsA
  obtain ⟨f0, f1, f2, f3⟩ := K1.out.frosA
  clear hc
  by_cases hc0 : c = 0
  · have HA : Hid (d = a % M) := Lib.hid (HE.out.1 hc0)
    subst hc0
    clear HE
    go_wp2_with fail
    refine ret_cell rfl (w.heap.size + 1 + 1) d rfl (Bk.put K1.out.alloc) rfl ⟨by rw [← HA.out]; rfl, ?_⟩
    have hb := HB.out
    have hs := hb.size
    go_grown
  · have HA : Hid (a = a % M) := Lib.hid (HE.out.2 hc0)
    have hc1 : (((c : Nat) : Int) != 0) = true := by simp; omega
    clear HE hc0
    go_wp2_with fail
    refine ret_cell rfl (w.heap.size + 1 + 1) a rfl (Bk.put K1.out.alloc) rfl ⟨by rw [← HA.out]; rfl, ?_⟩
    have hb := HB.out
    have hs := hb.size
    go_grown
end Go.Proofs.Ytglmmodkflkkkaa
