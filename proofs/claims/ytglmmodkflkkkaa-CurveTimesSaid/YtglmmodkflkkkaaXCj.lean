import Derived.Test.YtglmmodkflkkkaaXCi
set_option linter.unusedVariables false
set_option linter.unusedSimpArgs false
set_option maxRecDepth 100000
namespace Go.Proofs.Ytglmmodkflkkkaa
open Go.RowKit Go.Sort Limbs
def J.begin (x y : Nat) (i : Bool) : J := if i = true then J.far else ⟨x, y, 1⟩
theorem J.begin_ok {x y : Nat} {i : Bool} (hx : x < W256) (hy : y < W256) : (J.begin x y i).ok := by
  cases i
  · exact ⟨hx, hy, show 1 < W256 by decide⟩
  · exact J.far_ok
set_option maxHeartbeats 4000000 in
theorem begin_c (x y : Nat) (i : Bool) (w : World) :
    Calls Try.prog 78 #[pn x y i] w fun e w' => e = .returned (J.begin x y i).v ∧ Below w.heap.size w w' := by
  cases i
  · show Calls Try.prog 78 #[.agg #[.int .u64 (lb x 0 : Nat), .int .u64 (lb x 1 : Nat), .int .u64 (lb x 2 : Nat), .int .u64 (lb x 3 : Nat), .int .u64 (lb y 0 : Nat), .int .u64 (lb y 1 : Nat), .int .u64 (lb y 2 : Nat), .int .u64 (lb y 3 : Nat), .bool false]] w fun e w' => e = .returned (jn x y 1) ∧ Below w.heap.size w w'
    go_enter Try.func78, Try.ntmps78
    go_wp2_with fail
    refine ret_cell93 rfl (w.heap.size + 1) x y 1 rfl (Bk.new (by simp)) rfl ⟨rfl, ?_⟩
    go_grown
  · show Calls Try.prog 78 #[.agg #[.int .u64 (lb x 0 : Nat), .int .u64 (lb x 1 : Nat), .int .u64 (lb x 2 : Nat), .int .u64 (lb x 3 : Nat), .int .u64 (lb y 0 : Nat), .int .u64 (lb y 1 : Nat), .int .u64 (lb y 2 : Nat), .int .u64 (lb y 3 : Nat), .bool true]] w fun e w' => e = .returned (jn 0 0 0) ∧ Below w.heap.size w w'
    go_enter Try.func78, Try.ntmps78
    go_wp2_with fail
    refine ret_cell93 rfl (w.heap.size + 1) 0 0 0 rfl (Bk.new (by simp)) rfl ⟨rfl, ?_⟩
    go_grown
structure Po where
  x : Nat
  y : Nat
  i : Bool
deriving DecidableEq
def Po.v (p : Po) : Value := pn p.x p.y p.i
def Po.ok (p : Po) : Prop := p.x < W256 ∧ p.y < W256
def iN (z : Nat) : Nat := z ^ (mP - 2) % mP
theorem iN_lt (z : Nat) : iN z < W256 := mp_lt _
def J.point (p : J) : Po := if p = J.far then ⟨0, 0, true⟩ else ⟨(p.over (iN p.z)).x, (p.over (iN p.z)).y, false⟩
theorem J.point_far {p : J} (h : p = J.far) : p.point = ⟨0, 0, true⟩ := if_pos h
theorem J.point_not {p : J} (h : ¬ p = J.far) : p.point = ⟨(p.over (iN p.z)).x, (p.over (iN p.z)).y, false⟩ := if_neg h
theorem zero_pow_mod {z : Nat} (h : z % mP = 0) : iN z = 0 := by
  unfold iN
  rw [Nat.pow_mod, h, Nat.zero_pow (by decide +kernel), Nat.zero_mod]
theorem invj (z : Nat) (hz : z < W256) : ∃ e : Int, ∀ w, Calls Try.prog 26 #[.int .i64 0, nv z] w fun r w' => r = .returned (.tuple #[nv (iN z), .int .i64 e]) ∧ Below w.heap.size w w' := by
  have h := inv_any 0 z hz
  rw [md0] at h
  by_cases h0 : z % mP = 0
  · rw [if_pos h0] at h
    exact ⟨61, by rw [zero_pow_mod h0]; exact h⟩
  · rw [if_neg h0] at h
    exact ⟨0, h⟩
set_option maxHeartbeats 8000000 in
theorem point_c (p : J) (hp : p.ok) (w : World) :
    Calls Try.prog 80 #[p.v] w fun e w' => e = .returned p.point.v ∧ Below w.heap.size w w' := by
  have HE := Lib.hid (eq_far hp)
  by_cases hf : p = J.far
  · rw [J.point_far hf]
    rw [decide_eq_true hf] at HE
    have heq := HE.out
    clear HE hf hp
    obtain ⟨x, y, z⟩ := p
    simp only [J.v, jn] at heq ⊢
    go_enter Try.func80, Try.ntmps80
    go_wp2_with fail
    refine ret_cell51 rfl (w.heap.size + 1) 0 0 true rfl (Bk.new (by simp)) rfl ⟨rfl, ?_⟩
    go_grown
  · rw [J.point_not hf]
    rw [decide_eq_false hf] at HE
    have heq := HE.out
    obtain ⟨ec, hI⟩ := invj p.z hp.2.2
    have HI := Lib.hid hI
    have HO := Lib.hid (overj hp (iN_lt p.z))
    clear HE hf hp hI
    generalize p.over (iN p.z) = q at *
    generalize iN p.z = iz at *
    obtain ⟨x, y, z⟩ := p
    obtain ⟨qx, qy, qz⟩ := q
    simp only [J.v, jn, nv, num] at heq HI HO ⊢
    go_enter Try.func80, Try.ntmps80
    go_wp2_with fail
    refine (keep w.heap.size w (HI.out _) (by go_grown) (Nat.le_refl _)).mono ?_
    rintro e w1 ⟨rfl, hb, hk⟩
    have KP : Hid (Bk 93 w1 w.heap.size #[.int .u64 (lb x 0 : Nat), .int .u64 (lb x 1 : Nat), .int .u64 (lb x 2 : Nat), .int .u64 (lb x 3 : Nat), .int .u64 (lb y 0 : Nat), .int .u64 (lb y 1 : Nat), .int .u64 (lb y 2 : Nat), .int .u64 (lb y 3 : Nat), .int .u64 (lb z 0 : Nat), .int .u64 (lb z 1 : Nat), .int .u64 (lb z 2 : Nat), .int .u64 (lb z 3 : Nat)]) := Lib.hid (Bk.below (Bk.alloc (Bk.new rfl)) hk)
    have KZ : Hid (Bk 51 w1 (w.heap.size + 1) #[.int .u64 0, .int .u64 0, .int .u64 0, .int .u64 0, .int .u64 0, .int .u64 0, .int .u64 0, .int .u64 0, .bool false]) := Lib.hid (Bk.below (Bk.new (by simp)) hk)
    have HB := Lib.hid hb
    clear hk hb heq HI
    obtain ⟨⟨x0, x1, x2, x3⟩, ⟨y0, y1, y2, y3⟩, z0, z1, z2, z3⟩ := KP.out.cellsA12
    go_wp2_with fail
    refine (keep w.heap.size w (HO.out _) (by have hb := HB.out; have hs := hb.size; go_grown) (Nat.le_refl _)).mono ?_
    rintro e w2 ⟨rfl, hb, hk⟩
    have KZ2 := Lib.hid (Bk.below (Bk.alloc KZ.out) hk)
    have HB2 := Lib.hid hb
    clear hk hb KP KZ HB HO x0 x1 x2 x3 y0 y1 y2 y3 z0 z1 z2 z3
    obtain ⟨⟨f0, f1, f2, f3⟩, ⟨f4, f5, f6, f7⟩, f8⟩ := KZ2.out.frosA9
    obtain ⟨⟨c0, c1, c2, c3⟩, ⟨c4, c5, c6, c7⟩, c8⟩ := KZ2.out.cellsA9
    go_wp2_with fail
    refine ret_cell51 rfl (w.heap.size + 1) qx qy false rfl (Bk.put9 (Bk.alloc KZ2.out)) rfl ⟨rfl, ?_⟩
    have hb := HB2.out
    have hs := hb.size
    go_grown
theorem pointj {p : J} (hp : p.ok) : ∀ w, Calls Try.prog 80 #[p.v] w fun e w' => e = .returned p.point.v ∧ Below w.heap.size w w' := point_c p hp
end Go.Proofs.Ytglmmodkflkkkaa
