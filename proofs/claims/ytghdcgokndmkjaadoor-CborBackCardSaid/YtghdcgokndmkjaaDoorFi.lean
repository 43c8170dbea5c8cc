/- CborFinds: the walk. Condition: the library's tables. -/
import Derived.Test.YtghdcgokndmkjaaDoorOa
set_option linter.unusedVariables false
set_option linter.unusedSimpArgs false
namespace Go.Proofs.YtghdcgokndmkjaaDoor
open Go.RowKit Go.Sort
namespace cborFinds
theorem FindR.un {d : Nat} {B : Nat → Prop} {o : Option It} {w : World} {e : Ending} (h : FindR d B o w e) : ∃ A c, c ≤ 9223372036854775807 ∧ e = .returned (.tuple #[itV (o.getD It.none) A c, .bool o.isSome]) ∧ RdL d B w A (o.getD It.none).list := by
  match o, h with
  | some x, ⟨A, c, h1, _, h2, h3⟩ => exact ⟨A, c, h1, h2, h3⟩
  | .none, h => exact ⟨Option.none, 0, by omega, h, RdL.nil _ _ _ _⟩

/-- the item's box, the items that were found, the tables -/
structure Fd (D : Nat) (w wk : World) (k : Nat) (t : It) (A : Option Addr) (c : Nat) : Prop where
  below : Below w.heap.size w wk
  tb : Tb wk
  rd : RdL (D + 1) (fun _ => True) wk A t.list
  box : wk.heap[k]? = some (.cells #[.int .i64 t.kind, .int .i64 t.num, .string ⟨t.text.toArray⟩, .slice A t.list.length c] 24)
theorem Fd.on {D : Nat} {w wk w' : World} {k : Nat} {t : It} {A : Option Addr} {c : Nat} (h : Fd D w wk k t A c) (b : Below wk.heap.size wk w') : Fd D w w' k t A c :=
  ⟨h.below.trans (b.mono h.below.size), h.tb.below b, h.rd.below b, (b.block _ (blk_lt h.box)).trans h.box⟩

set_option maxHeartbeats 4000000 in
set_option maxRecDepth 100000 in
theorem walk (D : Nat) (t : It) (A : Option Addr) (c : Nat) (n : Int) (s : List UInt8) (w : World) (hc : c ≤ 9223372036854775807) (hr : RdL (D + 1) (fun _ => True) w A t.list) (hT : Tb w) :
    Calls Tryd.prog 4 #[itV t A c, .int .i64 n, .string ⟨s.toArray⟩] w fun e w' => e = .returned (.bool true) ∧ Below w.heap.size w w' := by
  have hb0 : Below w.heap.size w (w.alloc (.cells #[.int .i64 t.kind, .int .i64 t.num, .string ⟨t.text.toArray⟩, .slice A t.list.length c] 24)) := (Below.refl _ _).alloc (Nat.le_refl _) _
  have HF : Hid (Fd D w (w.alloc (.cells #[.int .i64 t.kind, .int .i64 t.num, .string ⟨t.text.toArray⟩, .slice A t.list.length c] 24)) w.heap.size t A c) := Lib.hid ⟨hb0, hT.below hb0, hr.below hb0, Go.heap_alloc_new w (.cells #[.int .i64 t.kind, .int .i64 t.num, .string ⟨t.text.toArray⟩, .slice A t.list.length c] 24)⟩
  clear hb0 hr hT
  unfold itV
  go_enter Tryd.func4, Tryd.ntmps4
  go_wp2_with fail
  generalize w.alloc (.cells #[.int .i64 t.kind, .int .i64 t.num, .string ⟨t.text.toArray⟩, .slice A t.list.length c] 24) = w0 at HF ⊢
  generalize w.heap.size = k at HF ⊢
  have HCL := Lib.hid ((byInt_any D (fun _ => True) t A c n w0 hc HF.out.rd).mono fun e w' (hh : _ ∧ _) => And.intro (FindR.un hh.1) hh.2)
  have HGx : Hid (∃ z : It, z = (found (fun k => decide (k.kind = 0) && decide (k.num = n)) t).getD It.none) := Lib.hid ⟨_, rfl⟩
  have HHx : Hid (∃ z : Bool, z = (found (fun k => decide (k.kind = 0) && decide (k.num = n)) t).isSome) := Lib.hid ⟨_, rfl⟩
  obtain ⟨x, hx⟩ := HGx.out
  obtain ⟨gx, hbx⟩ := HHx.out
  clear HGx HHx
  have HGx := Lib.hid hx
  have HHx := Lib.hid hbx
  clear hx hbx
  rw [← HGx.out, ← HHx.out] at HCL
  unfold itV at HCL
  skip
  refine HCL.out.mono ?_
  rintro e w1 ⟨⟨A1, c1, hc1, rfl, hr1⟩, b1⟩
  have hb : Below w1.heap.size w1 (w1.alloc (.cells #[.int .i64 x.kind, .int .i64 x.num, .string ⟨x.text.toArray⟩, .slice A1 x.list.length c1] 24)) := (Below.refl _ _).alloc (Nat.le_refl _) _
  have hb := b1.trans (hb.mono b1.size)
  have HF := Lib.hid (HF.out.on hb)
  have HR1 := Lib.hid (hr1.below hb)
  have HX1 := Lib.hid (Go.heap_alloc_new w1 (.cells #[.int .i64 x.kind, .int .i64 x.num, .string ⟨x.text.toArray⟩, .slice A1 x.list.length c1] 24))
  clear hb b1 hr1 HCL
  have hbx := cellOf HF.out.box
  have q0 := hbx 0
  have q1 := hbx 1
  have q2 := hbx 2
  have q3 := hbx 3
  simp at q0 q1 q2 q3
  clear hbx
  go_wp2_with fail
  generalize w1.alloc (.cells #[.int .i64 x.kind, .int .i64 x.num, .string ⟨x.text.toArray⟩, .slice A1 x.list.length c1] 24) = w2 at HF HR1 HX1 q0 q1 q2 q3 ⊢
  generalize w1.heap.size = m1 at HX1 ⊢
  clear q0 q1 q2 q3
  have HCL := Lib.hid ((rByInt_any D (fun _ => True) t A c n w2 HF.out.rd).mono fun e w' (hh : _ ∧ _) => And.intro (FindR.un hh.1) hh.2)
  rw [← HGx.out, ← HHx.out] at HCL
  unfold itV at HCL
  skip
  refine HCL.out.mono ?_
  rintro e w3 ⟨⟨A2, c2, hc2, rfl, hr2⟩, b2⟩
  have hb : Below w3.heap.size w3 (w3.alloc (.cells #[.int .i64 x.kind, .int .i64 x.num, .string ⟨x.text.toArray⟩, .slice A2 x.list.length c2] 24)) := (Below.refl _ _).alloc (Nat.le_refl _) _
  have hb := b2.trans (hb.mono b2.size)
  have HF := Lib.hid (HF.out.on hb)
  have HR2 := Lib.hid (hr2.below hb)
  have HX2 := Lib.hid (Go.heap_alloc_new w3 (.cells #[.int .i64 x.kind, .int .i64 x.num, .string ⟨x.text.toArray⟩, .slice A2 x.list.length c2] 24))
  have HR1 := Lib.hid (HR1.out.below hb)
  have HX1 := Lib.hid ((hb.block _ (blk_lt HX1.out)).trans HX1.out)
  clear hb b2 hr2 HCL
  have hbx := cellOf HF.out.box
  have q0 := hbx 0
  have q1 := hbx 1
  have q2 := hbx 2
  have q3 := hbx 3
  simp at q0 q1 q2 q3
  clear hbx
  go_wp2_with fail
  generalize w3.alloc (.cells #[.int .i64 x.kind, .int .i64 x.num, .string ⟨x.text.toArray⟩, .slice A2 x.list.length c2] 24) = w4 at HF HR1 HX1 HR2 HX2 q0 q1 q2 q3 ⊢
  generalize w3.heap.size = m2 at HX2 ⊢
  clear q0 q1 q2 q3
  have HCL := Lib.hid ((byText_any D (fun _ => True) t A c s w4 hc HF.out.rd).mono fun e w' (hh : _ ∧ _) => And.intro (FindR.un hh.1) hh.2)
  have HGy : Hid (∃ z : It, z = (found (fun k => decide (k.kind = 2) && decide (k.text = s)) t).getD It.none) := Lib.hid ⟨_, rfl⟩
  have HHy : Hid (∃ z : Bool, z = (found (fun k => decide (k.kind = 2) && decide (k.text = s)) t).isSome) := Lib.hid ⟨_, rfl⟩
  obtain ⟨y, hy⟩ := HGy.out
  obtain ⟨gy, hby⟩ := HHy.out
  clear HGy HHy
  have HGy := Lib.hid hy
  have HHy := Lib.hid hby
  clear hy hby
  rw [← HGy.out, ← HHy.out] at HCL
  unfold itV at HCL
  skip
  refine HCL.out.mono ?_
  rintro e w5 ⟨⟨A3, c3, hc3, rfl, hr3⟩, b3⟩
  have hb : Below w5.heap.size w5 (w5.alloc (.cells #[.int .i64 y.kind, .int .i64 y.num, .string ⟨y.text.toArray⟩, .slice A3 y.list.length c3] 24)) := (Below.refl _ _).alloc (Nat.le_refl _) _
  have hb := b3.trans (hb.mono b3.size)
  have HF := Lib.hid (HF.out.on hb)
  have HR3 := Lib.hid (hr3.below hb)
  have HX3 := Lib.hid (Go.heap_alloc_new w5 (.cells #[.int .i64 y.kind, .int .i64 y.num, .string ⟨y.text.toArray⟩, .slice A3 y.list.length c3] 24))
  have HR1 := Lib.hid (HR1.out.below hb)
  have HX1 := Lib.hid ((hb.block _ (blk_lt HX1.out)).trans HX1.out)
  have HR2 := Lib.hid (HR2.out.below hb)
  have HX2 := Lib.hid ((hb.block _ (blk_lt HX2.out)).trans HX2.out)
  clear hb b3 hr3 HCL
  have hbx := cellOf HF.out.box
  have q0 := hbx 0
  have q1 := hbx 1
  have q2 := hbx 2
  have q3 := hbx 3
  simp at q0 q1 q2 q3
  clear hbx
  go_wp2_with fail
  generalize w5.alloc (.cells #[.int .i64 y.kind, .int .i64 y.num, .string ⟨y.text.toArray⟩, .slice A3 y.list.length c3] 24) = w6 at HF HR1 HX1 HR2 HX2 HR3 HX3 q0 q1 q2 q3 ⊢
  generalize w5.heap.size = m3 at HX3 ⊢
  clear q0 q1 q2 q3
  have HCL := Lib.hid ((rByText_any D (fun _ => True) t A c s w6 HF.out.rd).mono fun e w' (hh : _ ∧ _) => And.intro (FindR.un hh.1) hh.2)
  rw [← HGy.out, ← HHy.out] at HCL
  unfold itV at HCL
  skip
  refine HCL.out.mono ?_
  rintro e w7 ⟨⟨A4, c4, hc4, rfl, hr4⟩, b4⟩
  have hb : Below w7.heap.size w7 (w7.alloc (.cells #[.int .i64 y.kind, .int .i64 y.num, .string ⟨y.text.toArray⟩, .slice A4 y.list.length c4] 24)) := (Below.refl _ _).alloc (Nat.le_refl _) _
  have hb := b4.trans (hb.mono b4.size)
  have HF := Lib.hid (HF.out.on hb)
  have HR4 := Lib.hid (hr4.below hb)
  have HX4 := Lib.hid (Go.heap_alloc_new w7 (.cells #[.int .i64 y.kind, .int .i64 y.num, .string ⟨y.text.toArray⟩, .slice A4 y.list.length c4] 24))
  have HR1 := Lib.hid (HR1.out.below hb)
  have HX1 := Lib.hid ((hb.block _ (blk_lt HX1.out)).trans HX1.out)
  have HR2 := Lib.hid (HR2.out.below hb)
  have HX2 := Lib.hid ((hb.block _ (blk_lt HX2.out)).trans HX2.out)
  have HR3 := Lib.hid (HR3.out.below hb)
  have HX3 := Lib.hid ((hb.block _ (blk_lt HX3.out)).trans HX3.out)
  clear hb b4 hr4 HCL
  have hbx := cellOf HF.out.box
  have q0 := hbx 0
  have q1 := hbx 1
  have q2 := hbx 2
  have q3 := hbx 3
  simp at q0 q1 q2 q3
  clear hbx
  go_wp2_with fail
  generalize w7.alloc (.cells #[.int .i64 y.kind, .int .i64 y.num, .string ⟨y.text.toArray⟩, .slice A4 y.list.length c4] 24) = w8 at HF HR1 HX1 HR2 HX2 HR3 HX3 HR4 HX4 q0 q1 q2 q3 ⊢
  generalize w7.heap.size = m4 at HX4 ⊢
  clear q0 q1 q2 q3
  refine (awake_any _ HF.out.tb).mono ?_
  rintro e w9 ⟨rfl, b9⟩
  have HF := Lib.hid (HF.out.on b9)
  have HR1 := Lib.hid (HR1.out.below b9)
  have HX1 := Lib.hid ((b9.block _ (blk_lt HX1.out)).trans HX1.out)
  have HR2 := Lib.hid (HR2.out.below b9)
  have HX2 := Lib.hid ((b9.block _ (blk_lt HX2.out)).trans HX2.out)
  have HR3 := Lib.hid (HR3.out.below b9)
  have HX3 := Lib.hid ((b9.block _ (blk_lt HX3.out)).trans HX3.out)
  have HR4 := Lib.hid (HR4.out.below b9)
  have HX4 := Lib.hid ((b9.block _ (blk_lt HX4.out)).trans HX4.out)
  clear b9
  have kx := cellOf HX1.out
  have x0 := kx 0
  have x1 := kx 1
  have x2 := kx 2
  have x3 := kx 3
  have kx := cellOf HX2.out
  have y0 := kx 0
  have y1 := kx 1
  have y2 := kx 2
  have y3 := kx 3
  simp at x0 x1 x2 x3 y0 y1 y2 y3
  clear kx
  go_wp2_with fail
  refine (same_any D (fun _ => True) x A1 A2 c1 c2 _ hc1 hc2 HR1.out HR2.out).mono ?_
  rintro e w10 ⟨rfl, b10⟩
  have HF := Lib.hid (HF.out.on b10)
  have HR3 := Lib.hid (HR3.out.below b10)
  have HX3 := Lib.hid ((b10.block _ (blk_lt HX3.out)).trans HX3.out)
  have HR4 := Lib.hid (HR4.out.below b10)
  have HX4 := Lib.hid ((b10.block _ (blk_lt HX4.out)).trans HX4.out)
  clear b10 x0 x1 x2 x3 y0 y1 y2 y3 HX1 HX2
  have kx := cellOf HX3.out
  have x0 := kx 0
  have x1 := kx 1
  have x2 := kx 2
  have x3 := kx 3
  have kx := cellOf HX4.out
  have y0 := kx 0
  have y1 := kx 1
  have y2 := kx 2
  have y3 := kx 3
  simp at x0 x1 x2 x3 y0 y1 y2 y3
  clear kx
  go_wp2_with fail
  refine (same_any D (fun _ => True) y A3 A4 c3 c4 _ hc3 hc4 HR3.out HR4.out).mono ?_
  rintro e w11 ⟨rfl, b11⟩
  have HE := Lib.hid (HF.out.on b11).below
  clear b11 x0 x1 x2 x3 y0 y1 y2 y3 HX3 HX4 HF HR3 HR4
  go_wp2_with fail
  go_ret
  exact ⟨rfl, HE.out⟩
end cborFinds
end Go.Proofs.YtghdcgokndmkjaaDoor
