/- Both files as k leaves them (After, Files). No condition but the disk's own. -/
import Derived.Test.YtmoihgniglomiaaDoorZC
set_option linter.unusedVariables false
set_option linter.unusedSimpArgs false
set_option maxRecDepth 100000
namespace Go.Proofs.YtmoihgniglomiaaDoor
open Go.RowKit Go.Sort

/-- v is a new row of two texts -/
def Two (B : Nat) (w : World) (v : Value) (a b : List UInt8) : Prop := ∃ g, v = .slice (some ⟨g, 0, none⟩) 2 2 ∧ B ≤ g ∧ Bk 9 w g #[.string ⟨a.toArray⟩, .string ⟨b.toArray⟩]
theorem Two.below {B : Nat} {w w' : World} {v : Value} {a b : List UInt8} (h : Two B w v a b) (hb : Below w.heap.size w w') : Two B w' v a b := by
  obtain ⟨g, hv, hB, k⟩ := h; exact ⟨g, hv, hB, k.below hb⟩
theorem index74 (x y : Nat) : (∀ w, (Instr.index 132 (.agg #[.int .i64 (x : Int), .int .i64 (y : Int)]) (.int .i64 0)).run Tryd.prog w = .ok (.int .i64 (x : Int)) w) ∧ (∀ w, (Instr.index 132 (.agg #[.int .i64 (x : Int), .int .i64 (y : Int)]) (.int .i64 1)).run Tryd.prog w = .ok (.int .i64 (y : Int)) w) :=
  ⟨fun _ => by kernel_rfl, fun _ => by kernel_rfl⟩
set_option maxHeartbeats 8000000 in
theorem after_any (p : Fp) (S : St) (k : Int) (hk : k ≤ 9223372036854775807) (w : World) (h : Dk w p S) :
    Calls Tryd.prog 61 #[p.v, .int .i64 k] w fun e w' => (∃ v, e = .returned v ∧ Two w.heap.size w' v (S.after k).1 (S.after k).2) ∧ Below w.heap.size w w' := by
  have H := Lib.hid h
  have HL := Lib.hid (h.wf.left k.toNat)
  have HK := Lib.hid hk
  have hl0 := h.wf.l0
  have hl1 := h.wf.l1
  have hc0 := h.r0.cap
  have hc1 := h.r1.cap
  have HLT := Lib.hid h.lt
  clear h hk
  unfold Fp.v
  have hmk : ∀ w, (Instr.makeSlice 31 (.int .i64 2) (.int .i64 2)).run Tryd.prog w = .ok (.slice (some ⟨w.heap.size, 0, none⟩) 2 2) (w.alloc (.cells #[.string ⟨#[]⟩, .string ⟨#[]⟩] 9)) := fun _ => by kernel_rfl
  go_enter Tryd.func61, Tryd.ntmps61
  go_wp2_with fail
  refine (keep w.heap.size w (left_any p S k HK.out _ (H.out.below (by go_grown))) (by go_grown) (Nat.le_refl _)).mono ?_
  rintro e w1 ⟨rfl, hb, hkk⟩
  have D1 := Lib.hid ((H.out.below (w' := w.alloc (.cells #[.string ⟨#[]⟩, .string ⟨#[]⟩] 9)) (by go_grown)).below hkk)
  have KM := Lib.hid (Bk.below (Bk.new (t := 9) (cs := #[.string ⟨#[]⟩, .string ⟨#[]⟩]) (rfl : w.heap.size = w.heap.size)) hkk)
  have HB := Lib.hid hb
  have hne : p.b ≠ w.heap.size := by have := H.out.blk.lt; omega
  have hn0 : p.g0 ≠ w.heap.size := by have := H.out.r0.lt; omega
  have hn1 : p.g1 ≠ w.heap.size := by have := H.out.r1.lt; omega
  clear hb hkk hmk
  have hlv := HL.out
  have HV : Hid (S.after k = (S.f0.take (S.left k.toNat).1, S.f1.take (S.left k.toNat).2)) := Lib.hid rfl
  have HC0 : ∀ w, By w p.g0 p.c0 S.f0 → (convert 80 9 (.slice (some ⟨p.g0, 0, none⟩) (S.left k.toNat).1 p.c0)).run Tryd.prog w = .ok (.string ⟨(S.f0.take (S.left k.toNat).1).toArray⟩) w := fun w h => (h.take _).conv _ _ (by rw [List.length_take]; omega)
  have HC1 : ∀ w, By w p.g1 p.c1 S.f1 → (convert 80 9 (.slice (some ⟨p.g1, 0, none⟩) (S.left k.toNat).2 p.c1)).run Tryd.prog w = .ok (.string ⟨(S.f1.take (S.left k.toNat).2).toArray⟩) w := fun w h => (h.take _).conv _ _ (by rw [List.length_take]; omega)
  generalize hx : (S.left k.toNat).1 = x at hlv HV HC0 ⊢
  generalize hy : (S.left k.toNat).2 = y at hlv HV HC1 ⊢
  clear hx hy HL HLT
  obtain ⟨ix, iy⟩ := index74 x y
  obtain ⟨_, hx1, _, hy1, _⟩ := hlv
  have hxc : x ≤ p.c0 := by omega
  have hyc : y ≤ p.c1 := by omega
  have i0 := D1.out.blk.cell 0
  have m0 := KM.out.cell 0
  have fm0 := KM.out.fro 0
  have cv0 := HC0 w1 D1.out.r0
  have D2b := Lib.hid (Bk.oth (a := ⟨w.heap.size, 0, none⟩) (v := .string ⟨(S.f0.take x).toArray⟩) hne D1.out.blk)
  have KM2 := Lib.hid (Bk.same (i := 0) (v := .string ⟨(S.f0.take x).toArray⟩) KM.out)
  have i2 := D2b.out.cell 2
  have m1 := KM2.out.cell 1
  have fm1 := KM2.out.fro 1
  have cv1 := HC1 (w1.setCell ⟨w.heap.size, 0, none⟩ (.string ⟨(S.f0.take x).toArray⟩)) (D1.out.r1.of (heap_setCell_other _ _ _ _ hn1))
  clear HC0 HC1
  have hxn : (x : Int) ≤ p.c0 := by omega
  have hyn : (y : Int) ≤ p.c1 := by omega
  have KE : Hid (Bk 9 ((w1.setCell ⟨w.heap.size, 0, none⟩ (.string ⟨(S.f0.take x).toArray⟩)).setCell ⟨w.heap.size, 1, none⟩ (.string ⟨(S.f1.take y).toArray⟩)) w.heap.size #[.string ⟨(S.f0.take x).toArray⟩, .string ⟨(S.f1.take y).toArray⟩]) := Lib.hid (by
    have := Bk.same (i := 1) (v := .string ⟨(S.f1.take y).toArray⟩) KM2.out
    simpa using this)
  go_wp2_with fail
  refine wp_loop_rounds 3 ?_
  rw [rounds_succ]
  go_wp2_with fail
  rw [rounds_succ]
  go_wp2_with fail
  rw [rounds_succ]
  go_wp2_with fail
  go_ret
  rw [HV.out]
  exact ⟨⟨_, rfl, w.heap.size, rfl, Nat.le_refl _, KE.out⟩, by have hb := HB.out; have := hb.size; go_grown⟩
end Go.Proofs.YtmoihgniglomiaaDoor
/- What the power leaves (Files, keep, lose, count). No condition but the disk's own. -/
set_option linter.unusedVariables false
set_option linter.unusedSimpArgs false
set_option maxRecDepth 100000
namespace Go.Proofs.YtmoihgniglomiaaDoor
open Go.RowKit Go.Sort

theorem Two.mono {B C : Nat} {w : World} {v : Value} {a b : List UInt8} (h : Two B w v a b) (hC : C ≤ B) : Two C w v a b := by
  obtain ⟨g, hv, hB, k⟩ := h; exact ⟨g, hv, by omega, k⟩
theorem after_all {S : St} (h : S.Wf) : S.after (S.waiting : Int) = (S.f0, S.f1) := by
  unfold St.after
  rw [Int.toNat_natCast, h.left_all _ (Nat.le_refl _)]
  simp
set_option maxHeartbeats 8000000 in
theorem files_any (p : Fp) (S : St) (w : World) (h : Dk w p S) :
    Calls Tryd.prog 26 #[p.v] w fun e w' => (∃ v, e = .returned v ∧ Two w.heap.size w' v S.f0 S.f1) ∧ Below w.heap.size w w' := by
  have H := Lib.hid h
  have HA := Lib.hid (after_all h.wf)
  have hw : (S.waiting : Int) ≤ 9223372036854775807 := by
    have h2 := h.wf.l0
    have h3 := h.wf.l1
    unfold St.waiting
    omega
  have HW := Lib.hid hw
  clear h hw
  go_enter Tryd.func26, Tryd.ntmps26
  go_wp2_with fail
  refine (waiting_any p S _ H.out).mono ?_
  rintro e w1 ⟨rfl, hb⟩
  have D1 := Lib.hid (H.out.below hb)
  have HB := Lib.hid hb
  clear hb
  go_wp2_with fail
  refine (after_any p S _ HW.out _ D1.out).mono ?_
  rintro e w2 ⟨⟨v, rfl, ht⟩, hb⟩
  rw [HA.out] at ht
  have HT := Lib.hid (ht.mono HB.out.size)
  have HB2 := Lib.hid (HB.out.trans (hb.mono HB.out.size))
  clear hb ht
  go_wp2_with fail
  go_ret
  exact ⟨⟨_, rfl, HT.out⟩, HB2.out⟩
set_option maxHeartbeats 4000000 in
theorem fkeep0 (b g n c m : Nat) (v1 v2 v3 v4 v5 v6 v7 : Value) (s : Int) (w : World) (hv1 : v1 = .int .i64 s) (hm : m ≤ c) (K : Hid (Bk 93 w b #[.slice (some ⟨g, 0, none⟩) n c, v1, v2, v3, v4, v5, v6, v7])) :
    Calls Tryd.prog 101 #[.pointer (some ⟨b, 0, none⟩), .int .i64 (m : Int)] w fun e w' => e = .returned (.tuple #[]) ∧ Bk 93 w' b #[.slice (some ⟨g, 0, none⟩) m c, .int .i64 (m : Int), v2, v3, v4, v5, v6, v7] ∧ Only [b] w w' := by
  have i0 := K.out.cell 0
  have i1 := K.out.cell 1
  have f0 := K.out.fro 0
  have f1 := K.out.fro 1
  subst hv1
  have hmc : (m : Int) ≤ c := by omega
  go_enter Tryd.func101, Tryd.ntmps101
  go_wp2_with fail
  go_returns
  have p := Bk.same (i := 1) (v := .int .i64 (m : Int)) (Bk.same (i := 0) (v := .slice (some ⟨g, 0, none⟩) m c) K.out)
  exact ⟨rfl, by simpa using p, ((Only.refl _ _).setCell _ (by simp) _).setCell _ (by simp) _⟩
set_option maxHeartbeats 4000000 in
theorem fkeep1 (b g n c m : Nat) (v0 v1 v3 v4 v5 v6 v7 : Value) (s : Int) (w : World) (hv1 : v3 = .int .i64 s) (hm : m ≤ c) (K : Hid (Bk 93 w b #[v0, v1, .slice (some ⟨g, 0, none⟩) n c, v3, v4, v5, v6, v7])) :
    Calls Tryd.prog 101 #[.pointer (some ⟨b, 2, none⟩), .int .i64 (m : Int)] w fun e w' => e = .returned (.tuple #[]) ∧ Bk 93 w' b #[v0, v1, .slice (some ⟨g, 0, none⟩) m c, .int .i64 (m : Int), v4, v5, v6, v7] ∧ Only [b] w w' := by
  have i0 := K.out.cell 2
  have i1 := K.out.cell 3
  have f0 := K.out.fro 2
  have f1 := K.out.fro 3
  subst hv1
  have hmc : (m : Int) ≤ c := by omega
  go_enter Tryd.func101, Tryd.ntmps101
  go_wp2_with fail
  go_returns
  have p := Bk.same (i := 3) (v := .int .i64 (m : Int)) (Bk.same (i := 2) (v := .slice (some ⟨g, 0, none⟩) m c) K.out)
  exact ⟨rfl, by simpa using p, ((Only.refl _ _).setCell _ (by simp) _).setCell _ (by simp) _⟩
def Fp.nil (p : Fp) : Fp := { p with rv := .slice none 0 0 }
theorem Fp.nil_own (p : Fp) : ∀ k ∈ p.nil.own, k ∈ p.own := by
  intro k hk
  simp only [Fp.nil, Fp.own, Value.ownBlock, Option.toList, List.mem_cons, List.not_mem_nil, or_false] at hk ⊢
  rcases hk with h | h | h <;> simp [h]
set_option maxHeartbeats 8000000 in
theorem keep48 (p : Fp) (S : St) (k : Int) (hk : k ≤ 9223372036854775807) (w : World) (h : Dk w p S) :
    Calls Tryd.prog 92 #[p.v, .int .i64 k] w fun e w' => e = .returned (.tuple #[]) ∧ Dk w' p.nil (S.keep k.toNat) ∧ Only [p.b] w w' := by
  have H := Lib.hid h
  have HL := Lib.hid (h.wf.left k.toNat)
  have HK := Lib.hid hk
  have hc0 := h.r0.cap
  have hc1 := h.r1.cap
  have HE : Hid (S.keep k.toNat = { S with f0 := S.f0.take (S.left k.toNat).1, f1 := S.f1.take (S.left k.toNat).2, s0 := (S.left k.toNat).1, s1 := (S.left k.toNat).2, row := [] }) := Lib.hid rfl
  have HW := Lib.hid (h.wf.keep k.toNat)
  clear h hk
  unfold Fp.v
  go_enter Tryd.func92, Tryd.ntmps92
  go_wp2_with fail
  refine (left_any p S k HK.out _ H.out).mono ?_
  rintro e w1 ⟨rfl, hb⟩
  have D1 := Lib.hid (H.out.below hb)
  have HB := Lib.hid hb
  clear hb
  have hlv := HL.out
  generalize hx : (S.left k.toNat).1 = x at hlv HE ⊢
  generalize hy : (S.left k.toNat).2 = y at hlv HE ⊢
  clear hx hy HL
  obtain ⟨ix, iy⟩ := index74 x y
  obtain ⟨_, hx1, _, hy1, _⟩ := hlv
  have HX : Hid (x ≤ S.f0.length ∧ y ≤ S.f1.length) := Lib.hid ⟨hx1, hy1⟩
  have hxc : x ≤ p.c0 := by omega
  have hyc : y ≤ p.c1 := by omega
  clear hx1 hy1 hc0 hc1
  go_wp2_with fail
  refine wp_loop_rounds 3 ?_
  rw [rounds_succ]
  go_wp2_with fail
  refine (fkeep0 p.b p.g0 _ p.c0 x _ _ _ _ _ _ _ _ _ rfl hxc (Lib.hid D1.out.blk)).mono ?_
  rintro e w2 ⟨rfl, hk2, ho2⟩
  have K2 := Lib.hid hk2
  have O2 := Lib.hid ho2
  clear hk2 ho2
  go_wp2_with fail
  rw [rounds_succ]
  go_wp2_with fail
  refine (fkeep1 p.b p.g1 _ p.c1 y _ _ _ _ _ _ _ _ _ rfl hyc K2).mono ?_
  rintro e w3 ⟨rfl, hk3, ho3⟩
  have K3 := Lib.hid hk3
  have O3 := Lib.hid ho3
  clear hk3 ho3
  go_wp2_with fail
  rw [rounds_succ]
  have f4 := K3.out.fro 4
  obtain ⟨rv', hrv⟩ : ∃ v, w3.cell? ⟨p.b, 4, none⟩ = some v := ⟨_, K3.out.cell 4⟩
  go_wp2_with fail
  go_returns
  have q := Bk.same (i := 4) (v := .slice none 0 0) K3.out
  have hO : Only [p.b] w (w3.setCell ⟨p.b, 4, none⟩ (.slice none 0 0)) := (((Only.of HB.out).trans O2.out (by simp)).trans O3.out (by simp)).setCell _ (by simp) _
  refine ⟨rfl, ?_, hO⟩
  rw [HE.out]
  rw [HE.out] at HW
  have hbg0 : p.g0 ∉ [p.b] := by
    have := H.out.r0.ne H.out.blk (by decide)
    simp only [List.mem_singleton]
    exact fun e => this e.symm
  have hbg1 : p.g1 ∉ [p.b] := by
    have := H.out.r1.ne H.out.blk (by decide)
    simp only [List.mem_singleton]
    exact fun e => this e.symm
  refine ⟨?_, (H.out.r0.only hO hbg0).take x, (H.out.r1.only hO hbg1).take y, ⟨rfl, .inl ⟨rfl, rfl⟩⟩, H.out.ne, HW.out⟩
  have e0 : (S.f0.take x).length = x := by rw [List.length_take]; have := HX.out; omega
  have e1 : (S.f1.take y).length = y := by rw [List.length_take]; have := HX.out; omega
  simp only [Fp.nil, e0, e1]
  simpa using q
end Go.Proofs.YtmoihgniglomiaaDoor
/- The power goes (lose, count), and comes back (Revive). No condition but the disk's own. -/
set_option linter.unusedVariables false
set_option linter.unusedSimpArgs false
set_option maxRecDepth 100000
namespace Go.Proofs.YtmoihgniglomiaaDoor
open Go.RowKit Go.Sort

/-- the power's three fields alone are turned -/
theorem Dk.pow {w w' : World} {p : Fp} {S : St} (h : Dk w p S) (hO : Only [p.b] w w') (g : Bool) (n k : Nat) (hn : n ≤ 9223372036854775807) (hk : k ≤ 9223372036854775807)
    (hb : Bk 93 w' p.b #[.slice (some ⟨p.g0, 0, none⟩) S.f0.length p.c0, .int .i64 (S.s0 : Int), .slice (some ⟨p.g1, 0, none⟩) S.f1.length p.c1, .int .i64 (S.s1 : Int), p.rv, .bool g, .int .i64 (n : Int), .int .i64 (k : Int)]) : Dk w' p (S.power g n k) := by
  have hbg0 : p.g0 ∉ [p.b] := by
    have := h.r0.ne h.blk (by decide)
    simp only [List.mem_singleton]
    exact fun e => this e.symm
  have hbg1 : p.g1 ∉ [p.b] := by
    have := h.r1.ne h.blk (by decide)
    simp only [List.mem_singleton]
    exact fun e => this e.symm
  refine ⟨hb, h.r0.only hO hbg0, h.r1.only hO hbg1, owns_of h.rr (fun r hr hlt => hO.block r hlt ?_), h.ne, h.wf.power g hn hk⟩
  intro hm
  have hrb : r = p.b := by simpa using hm
  obtain ⟨_, ⟨hv, _⟩ | ⟨r', cap, cur, hv, _, hg, _⟩⟩ := h.rr
  · rw [hv] at hr; cases hr
  · rw [hv] at hr
    cases hr
    have hbk := h.blk
    unfold Bk at hbk
    simp only at hrb
    rw [hrb, hbk] at hg
    cases hg
theorem revive_any (p : Fp) (S : St) (w : World) (h : Dk w p S) :
    Calls Tryd.prog 29 #[p.v] w fun e w' => e = .returned (.tuple #[]) ∧ Dk w' p S.revive ∧ Only [p.b] w w' :=
  (revive28 p.b _ _ _ _ _ _ _ _ w (Lib.hid h.blk)).mono fun e w' ⟨he, hb, ho⟩ => ⟨he, h.pow ho false 0 0 (by omega) (by omega) hb, ho⟩
set_option maxHeartbeats 8000000 in
theorem lose_any (p : Fp) (S : St) (k : Nat) (hk : k ≤ 9223372036854775807) (w : World) (h : Dk w p S) :
    Calls Tryd.prog 65 #[p.v, .int .i64 (k : Int)] w fun e w' => e = .returned (.tuple #[]) ∧ Dk w' p.nil (S.lose k) ∧ Only [p.b] w w' := by
  have H := Lib.hid h
  have HK := Lib.hid (show (k : Int) ≤ 9223372036854775807 by omega)
  clear h hk
  go_enter Tryd.func65, Tryd.ntmps65
  go_wp2_with fail
  refine (keep48 p S k HK.out _ H.out).mono ?_
  rintro e w1 ⟨rfl, hd, ho⟩
  rw [Int.toNat_natCast] at hd
  have D1 := Lib.hid hd
  have O1 := Lib.hid ho
  clear hd ho
  have f5 := D1.out.blk.fro 5
  have f6 := D1.out.blk.fro 6
  have f7 := D1.out.blk.fro 7
  have c5 := D1.out.blk.cell 5
  have c6 := D1.out.blk.cell 6
  have c7 := D1.out.blk.cell 7
  have eb : p.nil.b = p.b := rfl
  rw [eb] at f5 f6 f7 c5 c6 c7
  clear eb
  unfold Fp.v
  go_wp2_with fail
  go_returns
  have q := Bk.same (i := 7) (v := .int .i64 0) (Bk.same (i := 6) (v := .int .i64 0) (Bk.same (i := 5) (v := .bool true) D1.out.blk))
  have hO : Only [p.b] w1 (((w1.setCell ⟨p.b, 5, none⟩ (.bool true)).setCell ⟨p.b, 6, none⟩ (.int .i64 0)).setCell ⟨p.b, 7, none⟩ (.int .i64 0)) := (((Only.refl _ _).setCell _ (by simp) _).setCell _ (by simp) _).setCell _ (by simp) _
  exact ⟨rfl, D1.out.pow (p := p.nil) hO true 0 0 (by omega) (by omega) (by have eb : p.nil.b = p.b := rfl; rw [eb] at q ⊢; simpa using q), O1.out.trans hO (by simp)⟩
/-- where a disk's bytes lie behind a change's count -/
def Fp.count (p : Fp) (S : St) : Fp := if (S.count).1 = 0 then p else p.nil
theorem Fp.count_own (p : Fp) (S : St) : ∀ k ∈ (p.count S).own, k ∈ p.own := by
  unfold Fp.count
  split
  · exact fun k h => h
  · exact p.nil_own
theorem Fp.count_b (p : Fp) (S : St) : (p.count S).b = p.b := by unfold Fp.count; split <;> rfl
set_option maxHeartbeats 8000000 in
theorem count_any (p : Fp) (S : St) (w : World) (h : Dk w p S) :
    Calls Tryd.prog 98 #[p.v] w fun e w' => e = .returned (.int .i64 ((S.count).1 : Int)) ∧ Dk w' (p.count S) (S.count).2 ∧ Only [p.b] w w' := by
  have H := Lib.hid h
  have hli := h.wf.li
  have i6 := h.blk.cell 6
  have f6 := h.blk.fro 6
  have i7 := h.blk.cell 7
  rcases (by omega : S.inn = 0 ∨ S.inn = 1 ∨ 2 ≤ S.inn) with h0 | h0 | h0
  · have e : S.count = (0, S) := by simp [St.count, h0]
    have e2 : p.count S = p := by simp [Fp.count, e]
    rw [e, e2]
    have i6' : w.cell? ⟨p.b, 6, none⟩ = some (.int .i64 0) := by rw [i6]; simp [h0]
    clear e e2 h0 i6 h hli
    unfold Fp.v
    go_enter Tryd.func98, Tryd.ntmps98
    go_wp2_with fail
    go_ret
    exact ⟨rfl, H.out, Only.refl _ _⟩
  · have e : S.count = (2, S.lose S.lft) := by simp [St.count, h0]
    have e2 : p.count S = p.nil := by simp [Fp.count, e]
    have HE := Lib.hid e
    have HE2 := Lib.hid e2
    have i6' : w.cell? ⟨p.b, 6, none⟩ = some (.int .i64 1) := by rw [i6]; simp [h0]
    have j6 := (Bk.same (i := 6) (v := .int .i64 0) h.blk).cell 6
    have j7 := (Bk.same (i := 6) (v := .int .i64 0) h.blk).cell 7
    have DL : Hid (Dk (w.setCell ⟨p.b, 6, none⟩ (.int .i64 0)) p (S.power S.gone 0 S.lft)) := Lib.hid (h.pow ((Only.refl _ _).setCell _ (by simp) _) _ _ _ (by omega) h.wf.ll (by
      have := Bk.same (i := 6) (v := .int .i64 0) h.blk
      simpa using this))
    have hll := h.wf.ll
    have HS : Hid ((S.power S.gone 0 S.lft).lose S.lft = S.lose S.lft) := Lib.hid rfl
    clear e e2 h0 i6 h hli
    unfold Fp.v
    go_enter Tryd.func98, Tryd.ntmps98
    go_wp2_with fail
    refine (lose_any p _ S.lft hll _ DL.out).mono ?_
    rintro e w1 ⟨rfl, hd, ho⟩
    rw [HS.out] at hd
    have D1 := Lib.hid hd
    have O1 := Lib.hid (((Only.refl [p.b] w).setCell ⟨p.b, 6, none⟩ (by simp) (.int .i64 0)).trans ho (by simp))
    clear hd ho
    go_wp2_with fail
    go_ret
    rw [HE.out, HE2.out]
    exact ⟨rfl, D1.out, O1.out⟩
  · have e : S.count = (0, { S with inn := S.inn - 1 }) := by
      have h1 : S.inn ≠ 0 := by omega
      have h2 : S.inn - 1 > 0 := by omega
      simp [St.count, h1, h2]
    have e2 : p.count S = p := by simp [Fp.count, e]
    have HE := Lib.hid e
    have HE2 := Lib.hid e2
    obtain ⟨n, hn⟩ : ∃ n, S.inn = n + 2 := ⟨S.inn - 2, by omega⟩
    have i6' : w.cell? ⟨p.b, 6, none⟩ = some (.int .i64 ((n + 2 : Nat) : Int)) := by rw [i6]; simp [hn]
    have hnb : n + 2 ≤ 9223372036854775807 := by omega
    have ht : (((n + 2 : Nat) : Int) == 0) = false := by simp; omega
    have ev : ((n + 2 : Nat) : Int) - 1 = ((n + 1 : Nat) : Int) := by omega
    have DL : Hid (Dk (w.setCell ⟨p.b, 6, none⟩ (.int .i64 ((n + 1 : Nat) : Int))) p (S.power S.gone (n + 1) S.lft)) := Lib.hid (h.pow ((Only.refl _ _).setCell _ (by simp) _) _ _ _ (by omega) h.wf.ll (by
      have := Bk.same (i := 6) (v := .int .i64 ((n + 1 : Nat) : Int)) h.blk
      simpa using this))
    have HS : Hid (S.power S.gone (n + 1) S.lft = { S with inn := S.inn - 1 }) := Lib.hid (by unfold St.power; congr; omega)
    have EV := Lib.hid ev
    clear e e2 h0 i6 h hli hn ev i7
    unfold Fp.v
    go_enter Tryd.func98, Tryd.ntmps98
    go_wp2_with fail
    rw [show (n : Int) + 2 - 1 = ((n + 1 : Nat) : Int) from by omega]
    go_ret
    rw [HE.out, HE2.out]
    have D := DL.out
    rw [HS.out] at D
    exact ⟨rfl, D, (Only.refl _ _).setCell _ (by simp) _⟩
end Go.Proofs.YtmoihgniglomiaaDoor
