/- What the power leaves (Files, keep, lose, count). No condition but the disk's own. -/
import Derived.Test.YtekagnhablkggaaD
set_option linter.unusedVariables false
set_option linter.unusedSimpArgs false
set_option maxRecDepth 100000
namespace Go.Proofs.Ytekagnhablkggaa
open Go.RowKit Go.Sort

theorem Two.mono {B C : Nat} {w : World} {v : Value} {a b : List UInt8} (h : Two B w v a b) (hC : C ≤ B) : Two C w v a b := by
  obtain ⟨g, hv, hB, k⟩ := h; exact ⟨g, hv, by omega, k⟩
theorem after_all {S : St} (h : S.Wf) : S.after (S.waiting : Int) = (S.f0, S.f1) := by
  unfold St.after
  rw [Int.toNat_natCast, h.left_all _ (Nat.le_refl _)]
  simp
set_option maxHeartbeats 8000000 in
theorem files_any (p : Fp) (S : St) (w : World) (h : Dk w p S) :
    Calls Try.prog 17 #[p.v] w fun e w' => (∃ v, e = .returned v ∧ Two w.heap.size w' v S.f0 S.f1) ∧ Below w.heap.size w w' := by
  have H := Lib.hid h
  have HA := Lib.hid (after_all h.wf)
  have hw : (S.waiting : Int) ≤ 9223372036854775807 := by
    have h2 := h.wf.l0
    have h3 := h.wf.l1
    unfold St.waiting
    omega
  have HW := Lib.hid hw
  clear h hw
  go_enter Try.func17, Try.ntmps17
  go_wp2_with fail
  refine (waiting_any p S _ H.out).mono ?_
  rintro e w1 ⟨rfl, hb⟩
  have D1 := Lib.hid (H.out.below hb)
  have HB := Lib.hid hb
  clear hb
  go_wp2_with fail
  refine (after_any p S _ HW.out _ D1.out).mono ?_
  rintro e w2 ⟨⟨v, rfl, ht⟩, hb⟩
  rw [HA.out] at ht
  have HT := Lib.hid (ht.mono HB.out.size)
  have HB2 := Lib.hid (HB.out.trans (hb.mono HB.out.size))
  clear hb ht
  go_wp2_with fail
  go_ret
  exact ⟨⟨_, rfl, HT.out⟩, HB2.out⟩
set_option maxHeartbeats 4000000 in
theorem fkeep0 (b g n c m : Nat) (v1 v2 v3 v4 v5 v6 v7 : Value) (s : Int) (w : World) (hv1 : v1 = .int .i64 s) (hm : m ≤ c) (K : Hid (Bk 64 w b #[.slice (some ⟨g, 0, none⟩) n c, v1, v2, v3, v4, v5, v6, v7])) :
    Calls Try.prog 51 #[.pointer (some ⟨b, 0, none⟩), .int .i64 (m : Int)] w fun e w' => e = .returned (.tuple #[]) ∧ Bk 64 w' b #[.slice (some ⟨g, 0, none⟩) m c, .int .i64 (m : Int), v2, v3, v4, v5, v6, v7] ∧ Only [b] w w' := by
  have i0 := K.out.cell 0
  have i1 := K.out.cell 1
  have f0 := K.out.fro 0
  have f1 := K.out.fro 1
  subst hv1
  have hmc : (m : Int) ≤ c := by omega
  go_enter Try.func51, Try.ntmps51
  go_wp2_with fail
  go_returns
  have p := Bk.same (i := 1) (v := .int .i64 (m : Int)) (Bk.same (i := 0) (v := .slice (some ⟨g, 0, none⟩) m c) K.out)
  exact ⟨rfl, by simpa using p, ((Only.refl _ _).setCell _ (by simp) _).setCell _ (by simp) _⟩
set_option maxHeartbeats 4000000 in
theorem fkeep1 (b g n c m : Nat) (v0 v1 v3 v4 v5 v6 v7 : Value) (s : Int) (w : World) (hv1 : v3 = .int .i64 s) (hm : m ≤ c) (K : Hid (Bk 64 w b #[v0, v1, .slice (some ⟨g, 0, none⟩) n c, v3, v4, v5, v6, v7])) :
    Calls Try.prog 51 #[.pointer (some ⟨b, 2, none⟩), .int .i64 (m : Int)] w fun e w' => e = .returned (.tuple #[]) ∧ Bk 64 w' b #[v0, v1, .slice (some ⟨g, 0, none⟩) m c, .int .i64 (m : Int), v4, v5, v6, v7] ∧ Only [b] w w' := by
  have i0 := K.out.cell 2
  have i1 := K.out.cell 3
  have f0 := K.out.fro 2
  have f1 := K.out.fro 3
  subst hv1
  have hmc : (m : Int) ≤ c := by omega
  go_enter Try.func51, Try.ntmps51
  go_wp2_with fail
  go_returns
  have p := Bk.same (i := 3) (v := .int .i64 (m : Int)) (Bk.same (i := 2) (v := .slice (some ⟨g, 0, none⟩) m c) K.out)
  exact ⟨rfl, by simpa using p, ((Only.refl _ _).setCell _ (by simp) _).setCell _ (by simp) _⟩
def Fp.nil (p : Fp) : Fp := { p with rv := .slice none 0 0 }
theorem Fp.nil_own (p : Fp) : ∀ k ∈ p.nil.own, k ∈ p.own := by
  intro k hk
  simp only [Fp.nil, Fp.own, Value.ownBlock, Option.toList, List.mem_cons, List.not_mem_nil, or_false] at hk ⊢
  rcases hk with h | h | h <;> simp [h]
set_option maxHeartbeats 8000000 in
theorem keep48 (p : Fp) (S : St) (k : Int) (hk : k ≤ 9223372036854775807) (w : World) (h : Dk w p S) :
    Calls Try.prog 48 #[p.v, .int .i64 k] w fun e w' => e = .returned (.tuple #[]) ∧ Dk w' p.nil (S.keep k.toNat) ∧ Only [p.b] w w' := by
  have H := Lib.hid h
  have HL := Lib.hid (h.wf.left k.toNat)
  have HK := Lib.hid hk
  have hc0 := h.r0.cap
  have hc1 := h.r1.cap
  have HE : Hid (S.keep k.toNat = { S with f0 := S.f0.take (S.left k.toNat).1, f1 := S.f1.take (S.left k.toNat).2, s0 := (S.left k.toNat).1, s1 := (S.left k.toNat).2, row := [] }) := Lib.hid rfl
  have HW := Lib.hid (h.wf.keep k.toNat)
  clear h hk
  unfold Fp.v
  go_enter Try.func48, Try.ntmps48
  go_wp2_with fail
  refine (left_any p S k HK.out _ H.out).mono ?_
  rintro e w1 ⟨rfl, hb⟩
  have D1 := Lib.hid (H.out.below hb)
  have HB := Lib.hid hb
  clear hb
  have hlv := HL.out
  generalize hx : (S.left k.toNat).1 = x at hlv HE ⊢
  generalize hy : (S.left k.toNat).2 = y at hlv HE ⊢
  clear hx hy HL
  obtain ⟨ix, iy⟩ := index74 x y
  obtain ⟨_, hx1, _, hy1, _⟩ := hlv
  have HX : Hid (x ≤ S.f0.length ∧ y ≤ S.f1.length) := Lib.hid ⟨hx1, hy1⟩
  have hxc : x ≤ p.c0 := by omega
  have hyc : y ≤ p.c1 := by omega
  clear hx1 hy1 hc0 hc1
  go_wp2_with fail
  refine wp_loop_rounds 3 ?_
  rw [rounds_succ]
  go_wp2_with fail
  refine (fkeep0 p.b p.g0 _ p.c0 x _ _ _ _ _ _ _ _ _ rfl hxc (Lib.hid D1.out.blk)).mono ?_
  rintro e w2 ⟨rfl, hk2, ho2⟩
  have K2 := Lib.hid hk2
  have O2 := Lib.hid ho2
  clear hk2 ho2
  go_wp2_with fail
  rw [rounds_succ]
  go_wp2_with fail
  refine (fkeep1 p.b p.g1 _ p.c1 y _ _ _ _ _ _ _ _ _ rfl hyc K2).mono ?_
  rintro e w3 ⟨rfl, hk3, ho3⟩
  have K3 := Lib.hid hk3
  have O3 := Lib.hid ho3
  clear hk3 ho3
  go_wp2_with fail
  rw [rounds_succ]
  have f4 := K3.out.fro 4
  obtain ⟨rv', hrv⟩ : ∃ v, w3.cell? ⟨p.b, 4, none⟩ = some v := ⟨_, K3.out.cell 4⟩
  go_wp2_with fail
  go_returns
  have q := Bk.same (i := 4) (v := .slice none 0 0) K3.out
  have hO : Only [p.b] w (w3.setCell ⟨p.b, 4, none⟩ (.slice none 0 0)) := (((Only.of HB.out).trans O2.out (by simp)).trans O3.out (by simp)).setCell _ (by simp) _
  refine ⟨rfl, ?_, hO⟩
  rw [HE.out]
  rw [HE.out] at HW
  have hbg0 : p.g0 ∉ [p.b] := by
    have := H.out.r0.ne H.out.blk (by decide)
    simp only [List.mem_singleton]
    exact fun e => this e.symm
  have hbg1 : p.g1 ∉ [p.b] := by
    have := H.out.r1.ne H.out.blk (by decide)
    simp only [List.mem_singleton]
    exact fun e => this e.symm
  refine ⟨?_, (H.out.r0.only hO hbg0).take x, (H.out.r1.only hO hbg1).take y, ⟨rfl, .inl ⟨rfl, rfl⟩⟩, H.out.ne, HW.out⟩
  have e0 : (S.f0.take x).length = x := by rw [List.length_take]; have := HX.out; omega
  have e1 : (S.f1.take y).length = y := by rw [List.length_take]; have := HX.out; omega
  simp only [Fp.nil, e0, e1]
  simpa using q
end Go.Proofs.Ytekagnhablkggaa
