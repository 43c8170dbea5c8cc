/- The reference's points: In, Opposite, Same, Out. Condition: a point's numbers are below 2 to the 256. -/
import Derived.Test.YtglmmodkflkkkaaXKg
set_option linter.unusedVariables false
set_option linter.unusedSimpArgs false
set_option maxRecDepth 100000
namespace Go.Proofs.Ytglmmodkflkkkaa.Ref
open Go.RowKit Go.Proofs.Ytglmmodkflkkkaa.Digits Limbs Curve

theorem u64p : Try.prog.underlying 64 = some (.struct (Try.prog.fieldsOf 64)) := by kernel_rfl
theorem i64p : (Try.prog.info? 64).map (·.size) = some 3 := by kernel_rfl
theorem ret_cell64 {fn : Func} {R : Ending → World → Prop} {a : Act} {w : World} {p : Tmp} (h : fn.results = #[.cell p 64]) (g : Nat) (x y z : Value) (hp : a.tmps.getD p undef = .pointer (some ⟨g, 0, none⟩)) (hk : Bk 64 w g #[x, y, z]) (hd : a.defers = []) (hR : R (.returned (.agg #[x, y, z])) w) : bodyPost Try.prog fn R .ret a w :=
  bodyPost_ret (v := .agg #[x, y, z]) (results_cell_row h a.tmps w g 64 #[x, y, z] (0, 0) _ hp hk u64p rfl i64p) hd hR
theorem Bk.cells3 {t : TypeId} {w : World} {g : Nat} {a b c : Value} (h : Bk t w g #[a, b, c]) : w.cell? ⟨g, 0, none⟩ = some a ∧ w.cell? ⟨g, 1, none⟩ = some b ∧ w.cell? ⟨g, 2, none⟩ = some c := ⟨h.cell 0, h.cell 1, h.cell 2⟩
theorem Bk.fros3 {t : TypeId} {w : World} {g : Nat} {cs : Array Value} (h : Bk t w g cs) : w.frozen? ⟨g, 0, none⟩ = false ∧ w.frozen? ⟨g, 1, none⟩ = false ∧ w.frozen? ⟨g, 2, none⟩ = false := ⟨h.fro 0, h.fro 1, h.fro 2⟩
theorem Bk.put3 {t : TypeId} {w : World} {g : Nat} {a b c d e f : Value} (h : Bk t w g #[a, b, c]) : Bk t (((w.setCell ⟨g, 0, none⟩ d).setCell ⟨g, 1, none⟩ e).setCell ⟨g, 2, none⟩ f) g #[d, e, f] :=
  Bk.same (i := 2) (v := f) (Bk.same (i := 1) (v := e) (Bk.same (i := 0) (v := d) h))
theorem NV.except {w w' : World} {v : Value} {n gR : Nat} {t : TypeId} {cs : Array Value} (h : NV w v n) (hk : Bk t w gR cs) (hno : ∀ (i : Nat) (z : Int), cs[i]? ≠ some (Value.int .u32 z)) (hs : w.heap.size ≤ w'.heap.size) (ho : ∀ g, g ≠ gR → w'.heap[g]? = w.heap[g]?) : NV w' v n := by
  obtain ⟨r, ⟨g, cap, h1, h2, h3, h4, h5⟩, h6⟩ := h
  refine ⟨r, ⟨g, cap, h1, h2, h3, Nat.lt_of_lt_of_le h4 hs, fun i hi => ?_⟩, h6⟩
  have hc := h5 i hi
  have hne : g ≠ gR := by
    rintro rfl
    have := hk.cell i
    rw [hc] at this
    exact hno i _ this.symm
  rw [World.cell?_of_block (w := w) (ho g hne)]
  exact hc
theorem no3 {b : Bool} {ax ay : Option Addr} {nx cx ny cy : Nat} : ∀ (i : Nat) (z : Int), (#[.bool b, .slice ax nx cx, .slice ay ny cy] : Array Value)[i]? ≠ some (Value.int .u32 z) := by
  intro i z
  rcases i with _ | _ | _ | i <;> simp
theorem put3_ex {w : World} {v : Value} {n g : Nat} {b : Bool} {ax ay : Option Addr} {nx cx ny cy : Nat} {d e f : Value} (h : NV w v n) (hk : Bk 64 w g #[.bool b, .slice ax nx cx, .slice ay ny cy]) : NV (((w.setCell ⟨g, 0, none⟩ d).setCell ⟨g, 1, none⟩ e).setCell ⟨g, 2, none⟩ f) v n :=
  h.except hk no3 (by simp) (fun g' hn => (heap_setCell_other _ _ _ _ hn).trans ((heap_setCell_other _ _ _ _ hn).trans (heap_setCell_other _ _ _ _ hn)))
set_option maxHeartbeats 16000000 in
theorem in7 (p : Po) (hp : p.ok) (w : World) : Calls Try.prog 46 #[p.v] w fun e w' => ∃ v', e = .returned v' ∧ RP w' v' p ∧ Below w.heap.size w w' := by
  obtain ⟨ux, uy, pi⟩ := p
  have HX := Lib.hid (fun w => in_any ux hp.1 w)
  have HY := Lib.hid (fun w => in_any uy hp.2 w)
  clear hp
  unfold Po.v
  simp only [pn, nv, num] at HX HY ⊢
  go_enter Try.func46, Try.ntmps46
  go_wp2_with fail
  have KP : Hid (Bk 51 ((w.alloc (.cells #[.int .u64 (lb ux 0 : Nat), .int .u64 (lb ux 1 : Nat), .int .u64 (lb ux 2 : Nat), .int .u64 (lb ux 3 : Nat), .int .u64 (lb uy 0 : Nat), .int .u64 (lb uy 1 : Nat), .int .u64 (lb uy 2 : Nat), .int .u64 (lb uy 3 : Nat), .bool pi] 51)).alloc (.cells #[.bool false, .slice none 0 0, .slice none 0 0] 64)) w.heap.size #[.int .u64 (lb ux 0 : Nat), .int .u64 (lb ux 1 : Nat), .int .u64 (lb ux 2 : Nat), .int .u64 (lb ux 3 : Nat), .int .u64 (lb uy 0 : Nat), .int .u64 (lb uy 1 : Nat), .int .u64 (lb uy 2 : Nat), .int .u64 (lb uy 3 : Nat), .bool pi]) := Lib.hid (Bk.alloc (Bk.new rfl))
  have KR : Hid (Bk 64 ((w.alloc (.cells #[.int .u64 (lb ux 0 : Nat), .int .u64 (lb ux 1 : Nat), .int .u64 (lb ux 2 : Nat), .int .u64 (lb ux 3 : Nat), .int .u64 (lb uy 0 : Nat), .int .u64 (lb uy 1 : Nat), .int .u64 (lb uy 2 : Nat), .int .u64 (lb uy 3 : Nat), .bool pi] 51)).alloc (.cells #[.bool false, .slice none 0 0, .slice none 0 0] 64)) (w.heap.size + 1) #[.bool false, .slice none 0 0, .slice none 0 0]) := Lib.hid (Bk.new (by simp))
  have HB : Hid (Below w.heap.size w ((w.alloc (.cells #[.int .u64 (lb ux 0 : Nat), .int .u64 (lb ux 1 : Nat), .int .u64 (lb ux 2 : Nat), .int .u64 (lb ux 3 : Nat), .int .u64 (lb uy 0 : Nat), .int .u64 (lb uy 1 : Nat), .int .u64 (lb uy 2 : Nat), .int .u64 (lb uy 3 : Nat), .bool pi] 51)).alloc (.cells #[.bool false, .slice none 0 0, .slice none 0 0] 64))) := Lib.hid (by go_grown)
  obtain ⟨gR, hgR⟩ : ∃ g, g = w.heap.size + 1 := ⟨_, rfl⟩
  rw [← hgR] at KR ⊢
  have HG := Lib.hid (show w.heap.size ≤ gR by omega)
  clear hgR
  generalize ((w.alloc (.cells #[.int .u64 (lb ux 0 : Nat), .int .u64 (lb ux 1 : Nat), .int .u64 (lb ux 2 : Nat), .int .u64 (lb ux 3 : Nat), .int .u64 (lb uy 0 : Nat), .int .u64 (lb uy 1 : Nat), .int .u64 (lb uy 2 : Nat), .int .u64 (lb uy 3 : Nat), .bool pi] 51)).alloc (.cells #[.bool false, .slice none 0 0, .slice none 0 0] 64)) = w0 at KP KR HB ⊢
  refine in1 w.heap.size gR ux uy pi w0 KP.out KR.out HX HY ?_
  intros
  rename_i y4 y5 y6 y7 y8 w1 hb1 hn4 hn7
  obtain ⟨a4, l4, c4, rfl⟩ := hn4.shape
  obtain ⟨a7, l7, c7, rfl⟩ := hn7.shape
  have K1 := Lib.hid (KR.out.below hb1)
  have HB1 := Lib.hid (HB.out.trans (hb1.mono HB.out.size))
  have HN := Lib.hid (And.intro (put3_ex (d := .bool pi) (e := .slice a4 l4 c4) (f := .slice a7 l7 c7) hn4 K1.out) (put3_ex (d := .bool pi) (e := .slice a4 l4 c4) (f := .slice a7 l7 c7) hn7 K1.out))
  clear hb1 hn4 hn7 KP KR HB
  go_wp2_with fail
  refine ret_cell64 rfl gR (.bool pi) (.slice a4 l4 c4) (.slice a7 l7 c7) rfl (Bk.put3 K1.out) rfl ⟨_, rfl, ⟨_, _, _, _, _, _, rfl, fun _ => HN.out⟩, ?_⟩
  have hb := HB1.out
  have hg := HG.out
  go_grown
set_option maxHeartbeats 16000000 in
theorem opp7 (v : Value) (p : Po) (hy : p.y < big) (w : World) (h : RP w v p) : Calls Try.prog 47 #[v] w fun e w' => ∃ v', e = .returned v' ∧ RP w' v' p.neg ∧ Below w.heap.size w w' := by
  obtain ⟨x, y, pi⟩ := p
  obtain ⟨ax, nx, cx, ay, ny, cy, rfl, hn⟩ := h
  unfold Po.neg
  cases pi
  · obtain ⟨hnx, hny⟩ := hn rfl
    have NX := Lib.hid hnx
    have NY := Lib.hid hny
    have HYB := Lib.hid hy
    clear hn hnx hny hy
    go_enter Try.func47, Try.ntmps47
    go_wp2_with fail
    have KP : Hid (Bk 64 ((w.alloc (.cells #[.bool false, .slice ax nx cx, .slice ay ny cy] 64)).alloc (.cells #[.bool false, .slice none 0 0, .slice none 0 0] 64)) w.heap.size #[.bool false, .slice ax nx cx, .slice ay ny cy]) := Lib.hid (Bk.alloc (Bk.new rfl))
    have KR : Hid (Bk 64 ((w.alloc (.cells #[.bool false, .slice ax nx cx, .slice ay ny cy] 64)).alloc (.cells #[.bool false, .slice none 0 0, .slice none 0 0] 64)) (w.heap.size + 1) #[.bool false, .slice none 0 0, .slice none 0 0]) := Lib.hid (Bk.new (by simp))
    have HB : Hid (Below w.heap.size w ((w.alloc (.cells #[.bool false, .slice ax nx cx, .slice ay ny cy] 64)).alloc (.cells #[.bool false, .slice none 0 0, .slice none 0 0] 64))) := Lib.hid (by go_grown)
    obtain ⟨gR, hgR⟩ : ∃ g, g = w.heap.size + 1 := ⟨_, rfl⟩
    rw [← hgR] at KR ⊢
    have HG := Lib.hid (show w.heap.size ≤ gR by omega)
    clear hgR
    generalize ((w.alloc (.cells #[.bool false, .slice ax nx cx, .slice ay ny cy] 64)).alloc (.cells #[.bool false, .slice none 0 0, .slice none 0 0] 64)) = w0 at KP KR HB ⊢
    obtain ⟨a0, a1, a2⟩ := Bk.cells3 KP.out
    go_wp2_with fail
    clear a0 a1 a2
    refine op3 w.heap.size gR x y nx cx ny cy ax ay w0 KP.out KR.out HYB.out (NY.out.below HB.out) ?_
    intros
    rename_i y0 y1 y2 y3 y4 y5 w1 hb1 hn4
    obtain ⟨a4, l4, c4, rfl⟩ := hn4.shape
    have K1 := Lib.hid (KR.out.below hb1)
    have HB1 := Lib.hid (HB.out.trans (hb1.mono HB.out.size))
    have HN := Lib.hid (And.intro (put3_ex (d := .bool false) (e := .slice ax nx cx) (f := .slice a4 l4 c4) ((NX.out.below HB.out).below hb1) K1.out) (put3_ex (d := .bool false) (e := .slice ax nx cx) (f := .slice a4 l4 c4) hn4 K1.out))
    clear hb1 hn4 KP KR HB
    go_wp2_with fail
    refine ret_cell64 rfl gR (.bool false) (.slice ax nx cx) (.slice a4 l4 c4) rfl (Bk.put3 K1.out) rfl ⟨_, rfl, ⟨_, _, _, _, _, _, rfl, fun _ => HN.out⟩, ?_⟩
    have hb := HB1.out
    have hg := HG.out
    go_grown
  · clear hn hy
    go_enter Try.func47, Try.ntmps47
    go_wp2_with fail
    refine ret_cell64 rfl (w.heap.size + 1) (.bool true) (.slice ax nx cx) (.slice ay ny cy) rfl (Bk.new (by simp)) rfl ⟨_, rfl, ⟨_, _, _, _, _, _, rfl, fun h => by cases h⟩, ?_⟩
    go_grown
end Go.Proofs.Ytglmmodkflkkkaa.Ref
