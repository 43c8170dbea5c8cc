/- What the power leaves (Files, keep, lose, count). No condition but the disk's own. The power goes (lose, count), and comes back (Revive). No condition but the disk's own. Crash, Arm, Sync, Read of a disk. No condition but the disk's own. Arm, Sync, Read of a disk. No condition but the disk's own. Cut of a disk. No condition but the disk's own. -/
import Derived.Test.YtmoihgniglomiaaDoorZd00
import Derived.Deep.QuietTactic
import Derived.Lib.QuietBelow
import Derived.BigQuiet
set_option linter.unusedVariables false
set_option linter.unusedSimpArgs false
set_option maxRecDepth 100000
namespace Go.Proofs.YtmoihgniglomiaaDoor
open Go.RowKit Go.Sort
theorem Two.mono {B C : Nat} {w : World} {v : Value} {a b : List UInt8} (h : Two B w v a b) (hC : C ≤ B) : Two C w v a b := by
  obtain ⟨g, hv, hB, k⟩ := h; exact ⟨g, hv, by omega, k⟩
theorem after_all {S : St} (h : S.Wf) : S.after (S.waiting : Int) = (S.f0, S.f1) := by
  unfold St.after
  rw [Int.toNat_natCast, h.left_all _ (Nat.le_refl _)]
  simp
set_option maxHeartbeats 8000000 in
theorem files_any (p : Fp) (S : St) (w : World) (h : Dk w p S) :
    Calls Tryd.prog 26 #[p.v] w fun e w' => (∃ v, e = .returned v ∧ Two w.heap.size w' v S.f0 S.f1) ∧ Below w.heap.size w w' := by
  have H := Lib.hid h
  have HA := Lib.hid (after_all h.wf)
  have hw : (S.waiting : Int) ≤ 9223372036854775807 := by
    have h2 := h.wf.l0
    have h3 := h.wf.l1
    unfold St.waiting
    omega
  have HW := Lib.hid hw
  clear h hw
  go_enter Tryd.func26, Tryd.ntmps26
  go_wp2_with fail
  refine (waiting_any p S _ H.out).mono ?_
  rintro e w1 ⟨rfl, hb⟩
  have D1 := Lib.hid (H.out.below hb)
  have HB := Lib.hid hb
  clear hb
  go_wp2_with fail
  refine (after_any p S _ HW.out _ D1.out).mono ?_
  rintro e w2 ⟨⟨v, rfl, ht⟩, hb⟩
  rw [HA.out] at ht
  have HT := Lib.hid (ht.mono HB.out.size)
  have HB2 := Lib.hid (HB.out.trans (hb.mono HB.out.size))
  clear hb ht
  go_wp2_with fail
  go_ret
  exact ⟨⟨_, rfl, HT.out⟩, HB2.out⟩
set_option maxHeartbeats 4000000 in
theorem fkeep0 (b g n c m : Nat) (v1 v2 v3 v4 v5 v6 v7 : Value) (s : Int) (w : World) (hv1 : v1 = .int .i64 s) (hm : m ≤ c) (K : Hid (Bk 93 w b #[.slice (some ⟨g, 0, none⟩) n c, v1, v2, v3, v4, v5, v6, v7])) :
    Calls Tryd.prog 101 #[.pointer (some ⟨b, 0, none⟩), .int .i64 (m : Int)] w fun e w' => e = .returned (.tuple #[]) ∧ Bk 93 w' b #[.slice (some ⟨g, 0, none⟩) m c, .int .i64 (m : Int), v2, v3, v4, v5, v6, v7] ∧ Only [b] w w' := by
  have i0 := K.out.cell 0
  have i1 := K.out.cell 1
  have f0 := K.out.fro 0
  have f1 := K.out.fro 1
  subst hv1
  have hmc : (m : Int) ≤ c := by omega
  go_enter Tryd.func101, Tryd.ntmps101
  go_wp2_with fail
  go_returns
  have p := Bk.same (i := 1) (v := .int .i64 (m : Int)) (Bk.same (i := 0) (v := .slice (some ⟨g, 0, none⟩) m c) K.out)
  exact ⟨rfl, by simpa using p, ((Only.refl _ _).setCell _ (by simp) _).setCell _ (by simp) _⟩
set_option maxHeartbeats 4000000 in
theorem fkeep1 (b g n c m : Nat) (v0 v1 v3 v4 v5 v6 v7 : Value) (s : Int) (w : World) (hv1 : v3 = .int .i64 s) (hm : m ≤ c) (K : Hid (Bk 93 w b #[v0, v1, .slice (some ⟨g, 0, none⟩) n c, v3, v4, v5, v6, v7])) :
    Calls Tryd.prog 101 #[.pointer (some ⟨b, 2, none⟩), .int .i64 (m : Int)] w fun e w' => e = .returned (.tuple #[]) ∧ Bk 93 w' b #[v0, v1, .slice (some ⟨g, 0, none⟩) m c, .int .i64 (m : Int), v4, v5, v6, v7] ∧ Only [b] w w' := by
  have i0 := K.out.cell 2
  have i1 := K.out.cell 3
  have f0 := K.out.fro 2
  have f1 := K.out.fro 3
  subst hv1
  have hmc : (m : Int) ≤ c := by omega
  go_enter Tryd.func101, Tryd.ntmps101
  go_wp2_with fail
  go_returns
  have p := Bk.same (i := 3) (v := .int .i64 (m : Int)) (Bk.same (i := 2) (v := .slice (some ⟨g, 0, none⟩) m c) K.out)
  exact ⟨rfl, by simpa using p, ((Only.refl _ _).setCell _ (by simp) _).setCell _ (by simp) _⟩
def Fp.nil (p : Fp) : Fp := { p with rv := .slice none 0 0 }
theorem Fp.nil_own (p : Fp) : ∀ k ∈ p.nil.own, k ∈ p.own := by
  intro k hk
  simp only [Fp.nil, Fp.own, Value.ownBlock, Option.toList, List.mem_cons, List.not_mem_nil, or_false] at hk ⊢
  rcases hk with h | h | h <;> simp [h]
set_option maxHeartbeats 8000000 in
theorem keep48 (p : Fp) (S : St) (k : Int) (hk : k ≤ 9223372036854775807) (w : World) (h : Dk w p S) :
    Calls Tryd.prog 92 #[p.v, .int .i64 k] w fun e w' => e = .returned (.tuple #[]) ∧ Dk w' p.nil (S.keep k.toNat) ∧ Only [p.b] w w' := by
  have H := Lib.hid h
  have HL := Lib.hid (h.wf.left k.toNat)
  have HK := Lib.hid hk
  have hc0 := h.r0.cap
  have hc1 := h.r1.cap
  have HE : Hid (S.keep k.toNat = { S with f0 := S.f0.take (S.left k.toNat).1, f1 := S.f1.take (S.left k.toNat).2, s0 := (S.left k.toNat).1, s1 := (S.left k.toNat).2, row := [] }) := Lib.hid rfl
  have HW := Lib.hid (h.wf.keep k.toNat)
  clear h hk
  unfold Fp.v
  go_enter Tryd.func92, Tryd.ntmps92
  go_wp2_with fail
  refine (left_any p S k HK.out _ H.out).mono ?_
  rintro e w1 ⟨rfl, hb⟩
  have D1 := Lib.hid (H.out.below hb)
  have HB := Lib.hid hb
  clear hb
  have hlv := HL.out
  generalize hx : (S.left k.toNat).1 = x at hlv HE ⊢
  generalize hy : (S.left k.toNat).2 = y at hlv HE ⊢
  clear hx hy HL
  obtain ⟨ix, iy⟩ := index74 x y
  obtain ⟨_, hx1, _, hy1, _⟩ := hlv
  have HX : Hid (x ≤ S.f0.length ∧ y ≤ S.f1.length) := Lib.hid ⟨hx1, hy1⟩
  have hxc : x ≤ p.c0 := by omega
  have hyc : y ≤ p.c1 := by omega
  clear hx1 hy1 hc0 hc1
  go_wp2_with fail
  refine wp_loop_rounds 3 ?_
  rw [rounds_succ]
  go_wp2_with fail
  refine (fkeep0 p.b p.g0 _ p.c0 x _ _ _ _ _ _ _ _ _ rfl hxc (Lib.hid D1.out.blk)).mono ?_
  rintro e w2 ⟨rfl, hk2, ho2⟩
  have K2 := Lib.hid hk2
  have O2 := Lib.hid ho2
  clear hk2 ho2
  go_wp2_with fail
  rw [rounds_succ]
  go_wp2_with fail
  refine (fkeep1 p.b p.g1 _ p.c1 y _ _ _ _ _ _ _ _ _ rfl hyc K2).mono ?_
  rintro e w3 ⟨rfl, hk3, ho3⟩
  have K3 := Lib.hid hk3
  have O3 := Lib.hid ho3
  clear hk3 ho3
  go_wp2_with fail
  rw [rounds_succ]
  have f4 := K3.out.fro 4
  obtain ⟨rv', hrv⟩ : ∃ v, w3.cell? ⟨p.b, 4, none⟩ = some v := ⟨_, K3.out.cell 4⟩
  go_wp2_with fail
  go_returns
  have q := Bk.same (i := 4) (v := .slice none 0 0) K3.out
  have hO : Only [p.b] w (w3.setCell ⟨p.b, 4, none⟩ (.slice none 0 0)) := (((Only.of HB.out).trans O2.out (by simp)).trans O3.out (by simp)).setCell _ (by simp) _
  refine ⟨rfl, ?_, hO⟩
  rw [HE.out]
  rw [HE.out] at HW
  have hbg0 : p.g0 ∉ [p.b] := by
    have := H.out.r0.ne H.out.blk (by decide)
    simp only [List.mem_singleton]
    exact fun e => this e.symm
  have hbg1 : p.g1 ∉ [p.b] := by
    have := H.out.r1.ne H.out.blk (by decide)
    simp only [List.mem_singleton]
    exact fun e => this e.symm
  refine ⟨?_, (H.out.r0.only hO hbg0).take x, (H.out.r1.only hO hbg1).take y, ⟨rfl, .inl ⟨rfl, rfl⟩⟩, H.out.ne, HW.out⟩
  have e0 : (S.f0.take x).length = x := by rw [List.length_take]; have := HX.out; omega
  have e1 : (S.f1.take y).length = y := by rw [List.length_take]; have := HX.out; omega
  simp only [Fp.nil, e0, e1]
  simpa using q
theorem Dk.pow {w w' : World} {p : Fp} {S : St} (h : Dk w p S) (hO : Only [p.b] w w') (g : Bool) (n k : Nat) (hn : n ≤ 9223372036854775807) (hk : k ≤ 9223372036854775807)
    (hb : Bk 93 w' p.b #[.slice (some ⟨p.g0, 0, none⟩) S.f0.length p.c0, .int .i64 (S.s0 : Int), .slice (some ⟨p.g1, 0, none⟩) S.f1.length p.c1, .int .i64 (S.s1 : Int), p.rv, .bool g, .int .i64 (n : Int), .int .i64 (k : Int)]) : Dk w' p (S.power g n k) := by
  have hbg0 : p.g0 ∉ [p.b] := by
    have := h.r0.ne h.blk (by decide)
    simp only [List.mem_singleton]
    exact fun e => this e.symm
  have hbg1 : p.g1 ∉ [p.b] := by
    have := h.r1.ne h.blk (by decide)
    simp only [List.mem_singleton]
    exact fun e => this e.symm
  refine ⟨hb, h.r0.only hO hbg0, h.r1.only hO hbg1, owns_of h.rr (fun r hr hlt => hO.block r hlt ?_), h.ne, h.wf.power g hn hk⟩
  intro hm
  have hrb : r = p.b := by simpa using hm
  obtain ⟨_, ⟨hv, _⟩ | ⟨r', cap, cur, hv, _, hg, _⟩⟩ := h.rr
  · rw [hv] at hr; cases hr
  · rw [hv] at hr
    cases hr
    have hbk := h.blk
    unfold Bk at hbk
    simp only at hrb
    rw [hrb, hbk] at hg
    cases hg
theorem revive_any (p : Fp) (S : St) (w : World) (h : Dk w p S) :
    Calls Tryd.prog 29 #[p.v] w fun e w' => e = .returned (.tuple #[]) ∧ Dk w' p S.revive ∧ Only [p.b] w w' :=
  (revive28 p.b _ _ _ _ _ _ _ _ w (Lib.hid h.blk)).mono fun e w' ⟨he, hb, ho⟩ => ⟨he, h.pow ho false 0 0 (by omega) (by omega) hb, ho⟩
set_option maxHeartbeats 8000000 in
theorem lose_any (p : Fp) (S : St) (k : Nat) (hk : k ≤ 9223372036854775807) (w : World) (h : Dk w p S) :
    Calls Tryd.prog 65 #[p.v, .int .i64 (k : Int)] w fun e w' => e = .returned (.tuple #[]) ∧ Dk w' p.nil (S.lose k) ∧ Only [p.b] w w' := by
  have H := Lib.hid h
  have HK := Lib.hid (show (k : Int) ≤ 9223372036854775807 by omega)
  clear h hk
  go_enter Tryd.func65, Tryd.ntmps65
  go_wp2_with fail
  refine (keep48 p S k HK.out _ H.out).mono ?_
  rintro e w1 ⟨rfl, hd, ho⟩
  rw [Int.toNat_natCast] at hd
  have D1 := Lib.hid hd
  have O1 := Lib.hid ho
  clear hd ho
  have f5 := D1.out.blk.fro 5
  have f6 := D1.out.blk.fro 6
  have f7 := D1.out.blk.fro 7
  have c5 := D1.out.blk.cell 5
  have c6 := D1.out.blk.cell 6
  have c7 := D1.out.blk.cell 7
  have eb : p.nil.b = p.b := rfl
  rw [eb] at f5 f6 f7 c5 c6 c7
  clear eb
  unfold Fp.v
  go_wp2_with fail
  go_returns
  have q := Bk.same (i := 7) (v := .int .i64 0) (Bk.same (i := 6) (v := .int .i64 0) (Bk.same (i := 5) (v := .bool true) D1.out.blk))
  have hO : Only [p.b] w1 (((w1.setCell ⟨p.b, 5, none⟩ (.bool true)).setCell ⟨p.b, 6, none⟩ (.int .i64 0)).setCell ⟨p.b, 7, none⟩ (.int .i64 0)) := (((Only.refl _ _).setCell _ (by simp) _).setCell _ (by simp) _).setCell _ (by simp) _
  exact ⟨rfl, D1.out.pow (p := p.nil) hO true 0 0 (by omega) (by omega) (by have eb : p.nil.b = p.b := rfl; rw [eb] at q ⊢; simpa using q), O1.out.trans hO (by simp)⟩
def Fp.count (p : Fp) (S : St) : Fp := if (S.count).1 = 0 then p else p.nil
theorem Fp.count_own (p : Fp) (S : St) : ∀ k ∈ (p.count S).own, k ∈ p.own := by
  unfold Fp.count
  split
  · exact fun k h => h
  · exact p.nil_own
theorem Fp.count_b (p : Fp) (S : St) : (p.count S).b = p.b := by unfold Fp.count; split <;> rfl
set_option maxHeartbeats 8000000 in
theorem count_any (p : Fp) (S : St) (w : World) (h : Dk w p S) :
    Calls Tryd.prog 98 #[p.v] w fun e w' => e = .returned (.int .i64 ((S.count).1 : Int)) ∧ Dk w' (p.count S) (S.count).2 ∧ Only [p.b] w w' := by
  have H := Lib.hid h
  have hli := h.wf.li
  have i6 := h.blk.cell 6
  have f6 := h.blk.fro 6
  have i7 := h.blk.cell 7
  rcases (by omega : S.inn = 0 ∨ S.inn = 1 ∨ 2 ≤ S.inn) with h0 | h0 | h0
  · have e : S.count = (0, S) := by simp [St.count, h0]
    have e2 : p.count S = p := by simp [Fp.count, e]
    rw [e, e2]
    have i6' : w.cell? ⟨p.b, 6, none⟩ = some (.int .i64 0) := by rw [i6]; simp [h0]
    clear e e2 h0 i6 h hli
    unfold Fp.v
    go_enter Tryd.func98, Tryd.ntmps98
    go_wp2_with fail
    go_ret
    exact ⟨rfl, H.out, Only.refl _ _⟩
  · have e : S.count = (2, S.lose S.lft) := by simp [St.count, h0]
    have e2 : p.count S = p.nil := by simp [Fp.count, e]
    have HE := Lib.hid e
    have HE2 := Lib.hid e2
    have i6' : w.cell? ⟨p.b, 6, none⟩ = some (.int .i64 1) := by rw [i6]; simp [h0]
    have j6 := (Bk.same (i := 6) (v := .int .i64 0) h.blk).cell 6
    have j7 := (Bk.same (i := 6) (v := .int .i64 0) h.blk).cell 7
    have DL : Hid (Dk (w.setCell ⟨p.b, 6, none⟩ (.int .i64 0)) p (S.power S.gone 0 S.lft)) := Lib.hid (h.pow ((Only.refl _ _).setCell _ (by simp) _) _ _ _ (by omega) h.wf.ll (by
      have := Bk.same (i := 6) (v := .int .i64 0) h.blk
      simpa using this))
    have hll := h.wf.ll
    have HS : Hid ((S.power S.gone 0 S.lft).lose S.lft = S.lose S.lft) := Lib.hid rfl
    clear e e2 h0 i6 h hli
    unfold Fp.v
    go_enter Tryd.func98, Tryd.ntmps98
    go_wp2_with fail
    refine (lose_any p _ S.lft hll _ DL.out).mono ?_
    rintro e w1 ⟨rfl, hd, ho⟩
    rw [HS.out] at hd
    have D1 := Lib.hid hd
    have O1 := Lib.hid (((Only.refl [p.b] w).setCell ⟨p.b, 6, none⟩ (by simp) (.int .i64 0)).trans ho (by simp))
    clear hd ho
    go_wp2_with fail
    go_ret
    rw [HE.out, HE2.out]
    exact ⟨rfl, D1.out, O1.out⟩
  · have e : S.count = (0, { S with inn := S.inn - 1 }) := by
      have h1 : S.inn ≠ 0 := by omega
      have h2 : S.inn - 1 > 0 := by omega
      simp [St.count, h1, h2]
    have e2 : p.count S = p := by simp [Fp.count, e]
    have HE := Lib.hid e
    have HE2 := Lib.hid e2
    obtain ⟨n, hn⟩ : ∃ n, S.inn = n + 2 := ⟨S.inn - 2, by omega⟩
    have i6' : w.cell? ⟨p.b, 6, none⟩ = some (.int .i64 ((n + 2 : Nat) : Int)) := by rw [i6]; simp [hn]
    have hnb : n + 2 ≤ 9223372036854775807 := by omega
    have ht : (((n + 2 : Nat) : Int) == 0) = false := by simp; omega
    have ev : ((n + 2 : Nat) : Int) - 1 = ((n + 1 : Nat) : Int) := by omega
    have DL : Hid (Dk (w.setCell ⟨p.b, 6, none⟩ (.int .i64 ((n + 1 : Nat) : Int))) p (S.power S.gone (n + 1) S.lft)) := Lib.hid (h.pow ((Only.refl _ _).setCell _ (by simp) _) _ _ _ (by omega) h.wf.ll (by
      have := Bk.same (i := 6) (v := .int .i64 ((n + 1 : Nat) : Int)) h.blk
      simpa using this))
    have HS : Hid (S.power S.gone (n + 1) S.lft = { S with inn := S.inn - 1 }) := Lib.hid (by unfold St.power; congr; omega)
    have EV := Lib.hid ev
    clear e e2 h0 i6 h hli hn ev i7
    unfold Fp.v
    go_enter Tryd.func98, Tryd.ntmps98
    go_wp2_with fail
    rw [show (n : Int) + 2 - 1 = ((n + 1 : Nat) : Int) from by omega]
    go_ret
    rw [HE.out, HE2.out]
    have D := DL.out
    rw [HS.out] at D
    exact ⟨rfl, D, (Only.refl _ _).setCell _ (by simp) _⟩
theorem refused_gone (b : Nat) (v0 v1 v2 v3 v4 v6 v7 F : Value) (w : World) (K : Hid (Bk 93 w b #[v0, v1, v2, v3, v4, .bool true, v6, v7])) :
    Calls Tryd.prog 58 #[.pointer (some ⟨b, 0, none⟩), F] w fun e w' => e = .returned (.int .i64 2) ∧ w = w' := by
  have j5 := K.out.cell 5
  go_enter Tryd.func58, Tryd.ntmps58
  go_wp2_with fail
  go_ret
  exact ⟨rfl, rfl⟩
theorem refused42 (b a0 : Nat) (v0 v1 v2 v3 v4 v6 v7 : Value) (x : Int) (R : World → Prop) (w : World) (K : Hid (Bk 93 w b #[v0, v1, v2, v3, v4, .bool false, v6, v7]))
    (hc : Hid (Calls Tryd.prog 64 #[.pointer (some ⟨a0, 0, none⟩)] w fun e w' => e = .returned (.int .i64 x) ∧ R w')) :
    Calls Tryd.prog 58 #[.pointer (some ⟨b, 0, none⟩), .func (.func 64) #[] #[.pointer (some ⟨a0, 0, none⟩)]] w fun e w' => e = .returned (.int .i64 x) ∧ R w' := by
  have j5 := K.out.cell 5
  go_enter Tryd.func58, Tryd.ntmps58
  go_wp2_with fail
  refine hc.out.mono ?_
  rintro e w' ⟨rfl, hr⟩
  have HR := Lib.hid hr
  clear hr
  go_wp2_with fail
  go_ret
  exact ⟨rfl, HR.out⟩
theorem refused46 (b  : Nat) (v0 v1 v2 v3 v4 v6 v7 : Value) (x : Int) (R : World → Prop) (w : World) (K : Hid (Bk 93 w b #[v0, v1, v2, v3, v4, .bool false, v6, v7]))
    (hc : Hid (Calls Tryd.prog 102 #[] w fun e w' => e = .returned (.int .i64 x) ∧ R w')) :
    Calls Tryd.prog 58 #[.pointer (some ⟨b, 0, none⟩), .func (.func 102) #[] #[]] w fun e w' => e = .returned (.int .i64 x) ∧ R w' := by
  have j5 := K.out.cell 5
  go_enter Tryd.func58, Tryd.ntmps58
  go_wp2_with fail
  refine hc.out.mono ?_
  rintro e w' ⟨rfl, hr⟩
  have HR := Lib.hid hr
  clear hr
  go_wp2_with fail
  go_ret
  exact ⟨rfl, HR.out⟩
theorem refused49 (b a0 a1 a2 : Nat) (v0 v1 v2 v3 v4 v6 v7 : Value) (x : Int) (R : World → Prop) (w : World) (K : Hid (Bk 93 w b #[v0, v1, v2, v3, v4, .bool false, v6, v7]))
    (hc : Hid (Calls Tryd.prog 100 #[.pointer (some ⟨a0, 0, none⟩), .pointer (some ⟨a1, 0, none⟩), .pointer (some ⟨a2, 0, none⟩)] w fun e w' => e = .returned (.int .i64 x) ∧ R w')) :
    Calls Tryd.prog 58 #[.pointer (some ⟨b, 0, none⟩), .func (.func 100) #[] #[.pointer (some ⟨a0, 0, none⟩), .pointer (some ⟨a1, 0, none⟩), .pointer (some ⟨a2, 0, none⟩)]] w fun e w' => e = .returned (.int .i64 x) ∧ R w' := by
  have j5 := K.out.cell 5
  go_enter Tryd.func58, Tryd.ntmps58
  go_wp2_with fail
  refine hc.out.mono ?_
  rintro e w' ⟨rfl, hr⟩
  have HR := Lib.hid hr
  clear hr
  go_wp2_with fail
  go_ret
  exact ⟨rfl, HR.out⟩
theorem refused52 (b a0 : Nat) (v0 v1 v2 v3 v4 v6 v7 : Value) (x : Int) (R : World → Prop) (w : World) (K : Hid (Bk 93 w b #[v0, v1, v2, v3, v4, .bool false, v6, v7]))
    (hc : Hid (Calls Tryd.prog 104 #[.pointer (some ⟨a0, 0, none⟩)] w fun e w' => e = .returned (.int .i64 x) ∧ R w')) :
    Calls Tryd.prog 58 #[.pointer (some ⟨b, 0, none⟩), .func (.func 104) #[] #[.pointer (some ⟨a0, 0, none⟩)]] w fun e w' => e = .returned (.int .i64 x) ∧ R w' := by
  have j5 := K.out.cell 5
  go_enter Tryd.func58, Tryd.ntmps58
  go_wp2_with fail
  refine hc.out.mono ?_
  rintro e w' ⟨rfl, hr⟩
  have HR := Lib.hid hr
  clear hr
  go_wp2_with fail
  go_ret
  exact ⟨rfl, HR.out⟩
theorem refused53 (b a0 a1 : Nat) (v0 v1 v2 v3 v4 v6 v7 : Value) (x : Int) (R : World → Prop) (w : World) (K : Hid (Bk 93 w b #[v0, v1, v2, v3, v4, .bool false, v6, v7]))
    (hc : Hid (Calls Tryd.prog 59 #[.pointer (some ⟨a0, 0, none⟩), .pointer (some ⟨a1, 0, none⟩)] w fun e w' => e = .returned (.int .i64 x) ∧ R w')) :
    Calls Tryd.prog 58 #[.pointer (some ⟨b, 0, none⟩), .func (.func 59) #[] #[.pointer (some ⟨a0, 0, none⟩), .pointer (some ⟨a1, 0, none⟩)]] w fun e w' => e = .returned (.int .i64 x) ∧ R w' := by
  have j5 := K.out.cell 5
  go_enter Tryd.func58, Tryd.ntmps58
  go_wp2_with fail
  refine hc.out.mono ?_
  rintro e w' ⟨rfl, hr⟩
  have HR := Lib.hid hr
  clear hr
  go_wp2_with fail
  go_ret
  exact ⟨rfl, HR.out⟩
theorem refused54 (b a0 a1 a2 : Nat) (v0 v1 v2 v3 v4 v6 v7 : Value) (x : Int) (R : World → Prop) (w : World) (K : Hid (Bk 93 w b #[v0, v1, v2, v3, v4, .bool false, v6, v7]))
    (hc : Hid (Calls Tryd.prog 96 #[.pointer (some ⟨a0, 0, none⟩), .pointer (some ⟨a1, 0, none⟩), .pointer (some ⟨a2, 0, none⟩)] w fun e w' => e = .returned (.int .i64 x) ∧ R w')) :
    Calls Tryd.prog 58 #[.pointer (some ⟨b, 0, none⟩), .func (.func 96) #[] #[.pointer (some ⟨a0, 0, none⟩), .pointer (some ⟨a1, 0, none⟩), .pointer (some ⟨a2, 0, none⟩)]] w fun e w' => e = .returned (.int .i64 x) ∧ R w' := by
  have j5 := K.out.cell 5
  go_enter Tryd.func58, Tryd.ntmps58
  go_wp2_with fail
  refine hc.out.mono ?_
  rintro e w' ⟨rfl, hr⟩
  have HR := Lib.hid hr
  clear hr
  go_wp2_with fail
  go_ret
  exact ⟨rfl, HR.out⟩
theorem clo42 (a : Nat) (k : Int) (w : World) (h : w.cell? ⟨a, 0, none⟩ = some (.int .i64 k)) :
    Calls Tryd.prog 64 #[.pointer (some ⟨a, 0, none⟩)] w fun e w' => e = .returned (.int .i64 (if k < 0 then 1 else 0)) ∧ w = w' := by
  by_cases hk : k < 0
  · rw [if_pos hk]
    go_enter Tryd.func64, Tryd.ntmps64
    go_wp2_with fail
    go_ret
    exact ⟨rfl, rfl⟩
  · rw [if_neg hk]
    go_enter Tryd.func64, Tryd.ntmps64
    go_wp2_with fail
    go_ret
    exact ⟨rfl, rfl⟩
theorem clo46 (w : World) : Calls Tryd.prog 102 #[] w fun e w' => e = .returned (.int .i64 0) ∧ w = w' := by
  go_enter Tryd.func102, Tryd.ntmps102
  go_wp2_with fail
  go_ret
  exact ⟨rfl, rfl⟩
theorem clo52 (a : Nat) (f : Int) (w : World) (h : w.cell? ⟨a, 0, none⟩ = some (.int .i64 f)) :
    Calls Tryd.prog 104 #[.pointer (some ⟨a, 0, none⟩)] w fun e w' => e = .returned (.int .i64 (if St.there f then 0 else 90)) ∧ w = w' := by
  by_cases hk : St.there f = true
  · rw [if_pos hk]
    have HK := Lib.hid hk
    clear hk
    go_enter Tryd.func104, Tryd.ntmps104
    go_wp2_with fail
    refine (there_any _ _).mono ?_
    rintro e w' ⟨rfl, rfl⟩
    rw [HK.out]
    go_wp2_with fail
    go_ret
    exact ⟨rfl, rfl⟩
  · rw [if_neg hk]
    have HK := Lib.hid (show St.there f = false by simpa using hk)
    clear hk
    go_enter Tryd.func104, Tryd.ntmps104
    go_wp2_with fail
    refine (there_any _ _).mono ?_
    rintro e w' ⟨rfl, rfl⟩
    rw [HK.out]
    go_wp2_with fail
    go_ret
    exact ⟨rfl, rfl⟩
theorem clo53 (a c : Nat) (n k : Int) (w : World) (h : w.cell? ⟨a, 0, none⟩ = some (.int .i64 n)) (h' : w.cell? ⟨c, 0, none⟩ = some (.int .i64 k)) :
    Calls Tryd.prog 59 #[.pointer (some ⟨a, 0, none⟩), .pointer (some ⟨c, 0, none⟩)] w fun e w' => e = .returned (.int .i64 (if n < 0 ∨ k < 0 then 1 else 0)) ∧ w = w' := by
  by_cases hn : n < 0
  · rw [if_pos (.inl hn)]
    have hd : decide (n < 0) = true := by simpa using hn
    go_enter Tryd.func59, Tryd.ntmps59
    go_wp2_with fail
    go_ret
    exact ⟨rfl, rfl⟩
  · have hd : decide (n < 0) = false := by simpa using hn
    by_cases hk : k < 0
    · rw [if_pos (.inr hk)]
      have hd2 : decide (k < 0) = true := by simpa using hk
      go_enter Tryd.func59, Tryd.ntmps59
      go_wp2_with fail
      go_ret
      exact ⟨rfl, rfl⟩
    · rw [if_neg (by omega)]
      have hd2 : decide (k < 0) = false := by simpa using hk
      go_enter Tryd.func59, Tryd.ntmps59
      go_wp2_with fail
      go_ret
      exact ⟨rfl, rfl⟩
theorem hmf (fn : Fn) (first cap : Array Value) (w : World) : (Instr.makeFunc fn first cap).run Tryd.prog w = .ok (.func fn first cap) w := rfl
theorem Dk.gone {w : World} {p : Fp} {S : St} (h : Dk w p S) {g : Bool} (hg : S.gone = g) : Bk 93 w p.b #[.slice (some ⟨p.g0, 0, none⟩) S.f0.length p.c0, .int .i64 (S.s0 : Int), .slice (some ⟨p.g1, 0, none⟩) S.f1.length p.c1, .int .i64 (S.s1 : Int), p.rv, .bool g, .int .i64 (S.inn : Int), .int .i64 (S.lft : Int)] := hg ▸ h.blk
theorem Dk.new {w w' : World} {p : Fp} {S : St} (h : Dk w p S) (o : Obj) : Dk (w.alloc o) p S := h.below (by go_grown)
set_option maxHeartbeats 8000000 in
theorem crash_any (p : Fp) (S : St) (k : Int) (hkb : k ≤ 9223372036854775807) (w : World) (h : Dk w p S) :
    Calls Tryd.prog 33 #[p.v, .int .i64 k] w fun e w' => e = .returned (.int .i64 ((S.crash k).1 : Int)) ∧ ∃ p', Mut w p w' p' (S.crash k).2 := by
  have D1 := Lib.hid (h.new (w' := w) (.cells #[.int .i64 k] 3))
  have H := Lib.hid h
  have C0 : Hid ((w.alloc (.cells #[.int .i64 k] 3)).cell? ⟨w.heap.size, 0, none⟩ = some (.int .i64 k)) := Lib.hid ((Bk.new (t := 3) rfl).cell 0)
  have hM := hmf
  cases hg : S.gone
  · have KG := Lib.hid (D1.out.gone hg)
    by_cases hk : k < 0
    · have e : S.crash k = (1, S) := by simp [St.crash, hg, hk]
      rw [e]
      have R1 := clo42 w.heap.size k _ C0.out
      rw [if_pos hk] at R1
      have HR := Lib.hid R1
      clear e R1 hk hg h
      unfold Fp.v
      go_enter Tryd.func33, Tryd.ntmps33
      go_wp2_with fail
      refine (refused42 p.b _ _ _ _ _ _ _ _ _ _ _ KG HR).mono ?_
      rintro e w' ⟨rfl, rfl⟩
      go_wp2_with fail
      go_ret
      exact ⟨rfl, p, D1.out, rfl, (Only.refl _ _).alloc _, fun k h => .inl h⟩
    · have e : S.crash k = (0, S.lose k.toNat) := by simp [St.crash, hg, hk]
      rw [e]
      have R1 := clo42 w.heap.size k _ C0.out
      rw [if_neg hk] at R1
      have HR := Lib.hid R1
      obtain ⟨n, rfl⟩ : ∃ n : Nat, k = (n : Int) := ⟨k.toNat, by omega⟩
      rw [Int.toNat_natCast]
      have hnb : n ≤ 9223372036854775807 := by omega
      clear e R1 hk hg h
      unfold Fp.v
      go_enter Tryd.func33, Tryd.ntmps33
      go_wp2_with fail
      refine (refused42 p.b _ _ _ _ _ _ _ _ _ _ _ KG HR).mono ?_
      rintro e w' ⟨rfl, rfl⟩
      have c0 := C0.out
      go_wp2_with fail
      refine (lose_any p S n hnb _ D1.out).mono ?_
      rintro e w2 ⟨rfl, hd, ho⟩
      have D2 := Lib.hid hd
      have O2 := Lib.hid ho
      clear hd ho c0
      go_wp2_with fail
      go_ret
      exact ⟨rfl, p.nil, D2.out, rfl, ((Only.refl _ _).alloc _).trans O2.out (by simp [Fp.own]), fun k h => .inl (p.nil_own k h)⟩
  · have e : S.crash k = (2, S) := by simp [St.crash, hg]
    rw [e]
    have KG := Lib.hid (D1.out.gone hg)
    clear e hg h
    unfold Fp.v
    go_enter Tryd.func33, Tryd.ntmps33
    go_wp2_with fail
    refine (refused_gone p.b _ _ _ _ _ _ _ _ _ KG).mono ?_
    rintro e w' ⟨rfl, rfl⟩
    go_wp2_with fail
    go_ret
    exact ⟨rfl, p, D1.out, rfl, (Only.refl _ _).alloc _, fun k h => .inl h⟩
set_option maxHeartbeats 8000000 in
theorem arm_any (p : Fp) (S : St) (n k : Int) (hnb : n ≤ 9223372036854775807) (hkb : k ≤ 9223372036854775807) (w : World) (h : Dk w p S) :
    Calls Tryd.prog 22 #[p.v, .int .i64 n, .int .i64 k] w fun e w' => e = .returned (.int .i64 ((S.arm n k).1 : Int)) ∧ Dk w' p (S.arm n k).2 ∧ Only [p.b] w w' := by
  have D1 := Lib.hid ((h.new (w' := w) (.cells #[.int .i64 n] 3)).new (w' := w) (.cells #[.int .i64 k] 3))
  have C0 : Hid (((w.alloc (.cells #[.int .i64 n] 3)).alloc (.cells #[.int .i64 k] 3)).cell? ⟨w.heap.size, 0, none⟩ = some (.int .i64 n)) := Lib.hid ((Bk.alloc (Bk.new (t := 3) rfl)).cell 0)
  have C1 : Hid (((w.alloc (.cells #[.int .i64 n] 3)).alloc (.cells #[.int .i64 k] 3)).cell? ⟨w.heap.size + 1, 0, none⟩ = some (.int .i64 k)) := Lib.hid ((Bk.new (t := 3) (by simp)).cell 0)
  have hM := hmf
  cases hg : S.gone
  · have KG := Lib.hid (D1.out.gone hg)
    have R1 := clo53 w.heap.size (w.heap.size + 1) n k _ C0.out C1.out
    by_cases hk : n < 0 ∨ k < 0
    · have e : S.arm n k = (1, S) := by simp [St.arm, hg, hk]
      rw [e]
      rw [if_pos hk] at R1
      have HR := Lib.hid R1
      clear e R1 hk hg h
      unfold Fp.v
      go_enter Tryd.func22, Tryd.ntmps22
      go_wp2_with fail
      refine (refused53 p.b _ _ _ _ _ _ _ _ _ _ _ _ KG HR).mono ?_
      rintro e w' ⟨rfl, rfl⟩
      go_wp2_with fail
      go_ret
      exact ⟨rfl, D1.out, ((Only.refl _ _).alloc _).alloc _⟩
    · have e : S.arm n k = (0, S.power false n.toNat k.toNat) := by simp [St.arm, hg, hk]
      rw [e]
      rw [if_neg hk] at R1
      have HR := Lib.hid R1
      have f5 := D1.out.blk.fro 5
      have f6 := D1.out.blk.fro 6
      have f7 := D1.out.blk.fro 7
      have c5 := D1.out.blk.cell 5
      have c6 := D1.out.blk.cell 6
      have c7 := D1.out.blk.cell 7
      have HN : Hid (n.toNat ≤ 9223372036854775807 ∧ k.toNat ≤ 9223372036854775807 ∧ ((n.toNat : Nat) : Int) = n ∧ ((k.toNat : Nat) : Int) = k) := Lib.hid (by omega)
      clear e R1 hk hg h
      unfold Fp.v
      go_enter Tryd.func22, Tryd.ntmps22
      go_wp2_with fail
      refine (refused53 p.b _ _ _ _ _ _ _ _ _ _ _ _ KG HR).mono ?_
      rintro e w' ⟨rfl, rfl⟩
      have c0 := C0.out
      have c1 := C1.out
      go_wp2_with fail
      go_ret
      have q := Bk.same (i := 7) (v := .int .i64 k) (Bk.same (i := 6) (v := .int .i64 n) (Bk.same (i := 5) (v := .bool false) D1.out.blk))
      have hO : Only [p.b] ((w.alloc (.cells #[.int .i64 n] 3)).alloc (.cells #[.int .i64 k] 3)) (((((w.alloc (.cells #[.int .i64 n] 3)).alloc (.cells #[.int .i64 k] 3)).setCell ⟨p.b, 5, none⟩ (.bool false)).setCell ⟨p.b, 6, none⟩ (.int .i64 n)).setCell ⟨p.b, 7, none⟩ (.int .i64 k)) := (((Only.refl _ _).setCell _ (by simp) _).setCell _ (by simp) _).setCell _ (by simp) _
      exact ⟨rfl, D1.out.pow hO false _ _ HN.out.1 HN.out.2.1 (by rw [HN.out.2.2.1, HN.out.2.2.2]; simpa using q), (((Only.refl _ _).alloc _).alloc _).trans hO (by simp)⟩
  · have e : S.arm n k = (2, S) := by simp [St.arm, hg]
    rw [e]
    have KG := Lib.hid (D1.out.gone hg)
    clear e hg h
    unfold Fp.v
    go_enter Tryd.func22, Tryd.ntmps22
    go_wp2_with fail
    refine (refused_gone p.b _ _ _ _ _ _ _ _ _ KG).mono ?_
    rintro e w' ⟨rfl, rfl⟩
    go_wp2_with fail
    go_ret
    exact ⟨rfl, D1.out, ((Only.refl _ _).alloc _).alloc _⟩
set_option maxHeartbeats 8000000 in
theorem sync_any (p : Fp) (S : St) (w : World) (h : Dk w p S) :
    Calls Tryd.prog 80 #[p.v] w fun e w' => e = .returned (.int .i64 ((S.sync).1 : Int)) ∧ ∃ p', Mut w p w' p' (S.sync).2 := by
  have H := Lib.hid h
  have hM := hmf
  cases hg : S.gone
  · have KG := Lib.hid (h.gone hg)
    have HR := Lib.hid (clo46 w)
    have HW := Lib.hid h.wf.count
    have HP := Lib.hid (p.count_own S)
    have HPB := Lib.hid (p.count_b S)
    by_cases hc : (S.count).1 = 0
    · have e : S.sync = (0, (S.count).2.keep (S.count).2.waiting) := by simp [St.sync, hg, hc]
      rw [e]
      have HC := Lib.hid hc
      have hwt : ((S.count).2.waiting : Int) ≤ 9223372036854775807 := by
        have h2 := HW.out.l0
        have h3 := HW.out.l1
        unfold St.waiting
        omega
      have HWT := Lib.hid hwt
      clear e hg h hc hwt
      have HV : Hid (p.v = (p.count S).v) := Lib.hid (by simp [Fp.v, HPB.out])
      rw [HV.out]
      have K1 := Lib.hid (show Dk w p S from H.out)
      unfold Fp.v
      rw [HPB.out]
      go_enter Tryd.func80, Tryd.ntmps80
      go_wp2_with fail
      refine (refused46 p.b _ _ _ _ _ _ _ _ _ _ KG HR).mono ?_
      rintro e w' ⟨rfl, rfl⟩
      go_wp2_with fail
      refine (count_any p S _ H.out).mono ?_
      rintro e w1 ⟨rfl, hd, ho⟩
      rw [HC.out]
      have D1 := Lib.hid hd
      have O1 := Lib.hid ho
      clear hd ho
      go_wp2_with fail
      have W1 := waiting_any (p.count S) (S.count).2 w1 D1.out
      unfold Fp.v at W1
      rw [HPB.out] at W1
      refine W1.mono ?_
      rintro e w2 ⟨rfl, hb⟩
      have D2 := Lib.hid (D1.out.below hb)
      have O2 := Lib.hid (O1.out.trans (.of hb) (L := [p.b]) (M := []) (by simp))
      clear hb W1
      go_wp2_with fail
      have W2 := keep48 (p.count S) (S.count).2 _ HWT.out w2 D2.out
      unfold Fp.v at W2
      rw [HPB.out, Int.toNat_natCast] at W2
      refine W2.mono ?_
      rintro e w3 ⟨rfl, hd, ho⟩
      have D3 := Lib.hid hd
      have O3 := Lib.hid (O2.out.trans ho (by simp))
      clear hd ho W2
      go_wp2_with fail
      go_ret
      exact ⟨rfl, (p.count S).nil, D3.out, HPB.out, O3.out.mono (by simp [Fp.own]), fun k h => .inl (HP.out k ((p.count S).nil_own k h))⟩
    · have e : S.sync = S.count := by simp [St.sync, hg, hc]
      rw [e]
      have hn : ∃ n, (S.count).1 = n + 1 := ⟨(S.count).1 - 1, by omega⟩
      obtain ⟨n, hn⟩ := hn
      have HC := Lib.hid hn
      have ht : (((n + 1 : Nat) : Int) != 0) = true := by simp; omega
      rw [hn]
      clear e hg h hc hn
      unfold Fp.v
      go_enter Tryd.func80, Tryd.ntmps80
      go_wp2_with fail
      refine (refused46 p.b _ _ _ _ _ _ _ _ _ _ KG HR).mono ?_
      rintro e w' ⟨rfl, rfl⟩
      go_wp2_with fail
      refine (count_any p S _ H.out).mono ?_
      rintro e w1 ⟨rfl, hd, ho⟩
      rw [HC.out]
      have D1 := Lib.hid hd
      have O1 := Lib.hid ho
      clear hd ho
      go_wp2_with fail
      go_ret
      exact ⟨rfl, p.count S, D1.out, HPB.out, O1.out.mono (by simp [Fp.own]), fun k h => .inl (HP.out k h)⟩
  · have e : S.sync = (2, S) := by simp [St.sync, hg]
    rw [e]
    have KG := Lib.hid (h.gone hg)
    clear e hg h
    unfold Fp.v
    go_enter Tryd.func80, Tryd.ntmps80
    go_wp2_with fail
    refine (refused_gone p.b _ _ _ _ _ _ _ _ _ KG).mono ?_
    rintro e w' ⟨rfl, rfl⟩
    go_wp2_with fail
    go_ret
    exact ⟨rfl, p, H.out, rfl, Only.refl _ _, fun k h => .inl h⟩
theorem below_drewN {B : Nat} {w w' : World} (h : Below B w w') (n : Nat) : Below B w (w'.drewN n) := ⟨h.os, h.tape, h.output, h.size, h.block⟩
set_option maxHeartbeats 8000000 in
theorem read_any (p : Fp) (S : St) (f : Int) (w : World) (h : Dk w p S) :
    Calls Tryd.prog 93 #[p.v, .int .i64 f] w fun e w' => e = .returned (.tuple #[.string ⟨(S.read f).1.toArray⟩, .int .i64 ((S.read f).2 : Int)]) ∧ Below w.heap.size w w' := by
  have D1 := Lib.hid (h.new (w' := w) (.cells #[.int .i64 f] 3))
  have H := Lib.hid h
  have C0 : Hid ((w.alloc (.cells #[.int .i64 f] 3)).cell? ⟨w.heap.size, 0, none⟩ = some (.int .i64 f)) := Lib.hid ((Bk.new (t := 3) rfl).cell 0)
  have hM := hmf
  cases hg : S.gone
  · have KG := Lib.hid (D1.out.gone hg)
    have R1 := clo52 w.heap.size f _ C0.out
    rcases (by omega : f = 0 ∨ f = 1 ∨ ¬ (0 ≤ f ∧ f < 2)) with hf | hf | hf
    · have e : S.read f = (S.f0, 0) := by subst hf; simp [St.read, hg, St.there, St.file]
      rw [e]
      rw [if_pos (by subst hf; rfl)] at R1
      have HR := Lib.hid R1
      subst hf
      clear e R1 hg h
      unfold Fp.v
      go_enter Tryd.func93, Tryd.ntmps93
      go_wp2_with fail
      refine (refused52 p.b _ _ _ _ _ _ _ _ _ _ _ KG HR).mono ?_
      rintro e w' ⟨rfl, rfl⟩
      have c0 := C0.out
      have i0 := D1.out.blk.cell 0
      have cv : ∀ n, (convert 80 9 (.slice (some ⟨p.g0, 0, none⟩) S.f0.length p.c0)).run Tryd.prog ((w.alloc (.cells #[.int .i64 0] 3)).drewN n) = .ok (.string ⟨S.f0.toArray⟩) ((w.alloc (.cells #[.int .i64 0] 3)).drewN n) := fun n => By.conv (w := (w.alloc (.cells #[.int .i64 0] 3)).drewN n) (D1.out.r0.of rfl) _ _ rfl
      go_wp2_with fail
      go_quiet (fail)
      go_wp2_with fail
      go_returns
      exact ⟨rfl, below_drewN (by go_grown) _⟩
    · have e : S.read f = (S.f1, 0) := by subst hf; simp [St.read, hg, St.there, St.file]
      rw [e]
      rw [if_pos (by subst hf; rfl)] at R1
      have HR := Lib.hid R1
      subst hf
      clear e R1 hg h
      unfold Fp.v
      go_enter Tryd.func93, Tryd.ntmps93
      go_wp2_with fail
      refine (refused52 p.b _ _ _ _ _ _ _ _ _ _ _ KG HR).mono ?_
      rintro e w' ⟨rfl, rfl⟩
      have c0 := C0.out
      have i0 := D1.out.blk.cell 2
      have cv : ∀ n, (convert 80 9 (.slice (some ⟨p.g1, 0, none⟩) S.f1.length p.c1)).run Tryd.prog ((w.alloc (.cells #[.int .i64 1] 3)).drewN n) = .ok (.string ⟨S.f1.toArray⟩) ((w.alloc (.cells #[.int .i64 1] 3)).drewN n) := fun n => By.conv (w := (w.alloc (.cells #[.int .i64 1] 3)).drewN n) (D1.out.r1.of rfl) _ _ rfl
      go_wp2_with fail
      go_quiet (fail)
      go_wp2_with fail
      go_returns
      exact ⟨rfl, below_drewN (by go_grown) _⟩
    · have hth : St.there f = false := by simpa [St.there] using hf
      have e : S.read f = ([], 90) := by simp [St.read, hg, hth]
      rw [e]
      rw [if_neg (by simp [hth])] at R1
      have HR := Lib.hid R1
      clear e R1 hf hth hg h
      unfold Fp.v
      go_enter Tryd.func93, Tryd.ntmps93
      go_wp2_with fail
      refine (refused52 p.b _ _ _ _ _ _ _ _ _ _ _ KG HR).mono ?_
      rintro e w' ⟨rfl, rfl⟩
      go_wp2_with fail
      go_returns
      exact ⟨rfl, by go_grown⟩
  · have e : S.read f = ([], 2) := by simp [St.read, hg]
    rw [e]
    have KG := Lib.hid (D1.out.gone hg)
    clear e hg h
    unfold Fp.v
    go_enter Tryd.func93, Tryd.ntmps93
    go_wp2_with fail
    refine (refused_gone p.b _ _ _ _ _ _ _ _ _ KG).mono ?_
    rintro e w' ⟨rfl, rfl⟩
    go_wp2_with fail
    go_returns
    exact ⟨rfl, by go_grown⟩
theorem mixed : Tryd.prog.follows .mixedOrders = true := by kernel_rfl
theorem Calls.grown {f : FuncId} {args : Array Value} {w : World} {d : Nat} {os : Array Obj} {v : Value} (h : Calls Tryd.prog f args (grow (redrawn w d) os) fun e w' => e = .returned v ∧ (grow (redrawn w d) os) = w') :
    Calls Tryd.prog f args (grow (redrawn w d) os) fun e w'' => e = .returned v ∧ ∃ p : Regrown, w'' = grow (redrawn w p.d) p.os :=
  Calls.regrown_of (h.mono fun _ _ ⟨he, hw⟩ => ⟨he, hw ▸ Below.refl _ _⟩)
set_option maxHeartbeats 8000000 in
theorem clo49_not (a c d : Nat) (f : Int) (w : World) (hf : St.there f = false) (h : w.cell? ⟨a, 0, none⟩ = some (.int .i64 f)) :
    Calls Tryd.prog 100 #[.pointer (some ⟨a, 0, none⟩), .pointer (some ⟨c, 0, none⟩), .pointer (some ⟨d, 0, none⟩)] w fun e w' => e = .returned (.int .i64 90) ∧ Below w.heap.size w w' := by
  have HK := Lib.hid hf
  clear hf
  go_enter Tryd.func100, Tryd.ntmps100
  go_wp2_with fail
  refine (there_any _ _).mono ?_
  rintro e w' ⟨rfl, rfl⟩
  rw [HK.out]
  go_wp2_with fail
  go_ret
  exact ⟨rfl, Below.refl _ _⟩
set_option maxHeartbeats 16000000 in
theorem clo49_0neg (a c d : Nat) (n : Int) (p : Fp) (S : St) (w : World) (h : w.cell? ⟨a, 0, none⟩ = some (.int .i64 0)) (h' : w.cell? ⟨c, 0, none⟩ = some (.int .i64 n)) (h'' : w.cell? ⟨d, 0, none⟩ = some p.v) (D : Hid (Dk w p S)) (hn : n < 0) :
    Calls Tryd.prog 100 #[.pointer (some ⟨a, 0, none⟩), .pointer (some ⟨c, 0, none⟩), .pointer (some ⟨d, 0, none⟩)] w fun e w' => e = .returned (.int .i64 92) ∧ Below w.heap.size w w' := by
  have hd : decide (n < 0) = true := by simpa using hn
  have HD : Hid (S.s0 ≤ S.f0.length ∧ S.f0.length ≤ 1048576) := Lib.hid ⟨by have := D.out.wf.t0; omega, D.out.wf.l0⟩
  unfold Fp.v at h''
  have HS : Hid (∀ d os, Calls Tryd.prog 41 #[.pointer (some ⟨p.b, 0, none⟩), .int .i64 0] (grow (redrawn w d) os) fun e w'' => e = .returned (.int .i64 (S.f0.length : Int)) ∧ ∃ p : Regrown, w'' = grow (redrawn w p.d) p.os) := Lib.hid fun d os => Calls.grown (size_any p S 0 _ (D.out.below (below_regrown w d os)))
  have HT : Hid (∀ d os, Calls Tryd.prog 88 #[.agg #[.slice (some ⟨p.g0, 0, none⟩) S.f0.length p.c0, .int .i64 (S.s0 : Int)]] (grow (redrawn w d) os) fun e w'' => e = .returned (.int .i64 ((S.f0.length - S.s0 : Nat) : Int)) ∧ ∃ p : Regrown, w'' = grow (redrawn w p.d) p.os) := Lib.hid fun d os => Calls.regrown_of (waiting45 _ _ _ _ HD.out.1 HD.out.2 _)
  have k0 := cell_regrown h
  have k1 := cell_regrown h'
  have k2 := cell_regrown h''
  have k3 := cell_regrown (D.out.blk.cell 0)
  have k4 := cell_regrown (D.out.blk.cell 1)
  clear hn
  go_enter Tryd.func100, Tryd.ntmps100
  go_wp2_with fail
  refine (there_any _ _).mono ?_
  rintro e w' ⟨rfl, rfl⟩
  rw [show St.there 0 = true from rfl]
  go_wp2_with fail
  clear h' h''
  refine wp_region_quiet_below mixed (by kernel_rfl) ?_
  repeat (first | go_big_quiet_step (first | (with_reducible exact HS.out _ _) | (with_reducible exact HT.out _ _)) | quiet_step (first | (with_reducible exact HS.out _ _) | (with_reducible exact HT.out _ _)))
  refine wpQuiet_nil ?_
  intro _ hw'
  obtain ⟨⟨dq, osq⟩, hw''⟩ := hw'
  subst hw''
  have hbq := Lib.hid (below_regrown w dq osq)
  go_wp2_with fail
  go_ret
  exact ⟨rfl, hbq.out⟩
set_option maxHeartbeats 16000000 in
theorem clo49_0big (a c d : Nat) (n : Int) (p : Fp) (S : St) (w : World) (h : w.cell? ⟨a, 0, none⟩ = some (.int .i64 0)) (h' : w.cell? ⟨c, 0, none⟩ = some (.int .i64 n)) (h'' : w.cell? ⟨d, 0, none⟩ = some p.v) (D : Hid (Dk w p S)) (hn : ¬ n < 0) (hb : n > (S.f0.length : Int)) :
    Calls Tryd.prog 100 #[.pointer (some ⟨a, 0, none⟩), .pointer (some ⟨c, 0, none⟩), .pointer (some ⟨d, 0, none⟩)] w fun e w' => e = .returned (.int .i64 92) ∧ Below w.heap.size w w' := by
  have hd : decide (n < 0) = false := by simpa using hn
  have hd2 : decide ((S.f0.length : Int) < n) = true := by simpa using hb
  have HD : Hid (S.s0 ≤ S.f0.length ∧ S.f0.length ≤ 1048576) := Lib.hid ⟨by have := D.out.wf.t0; omega, D.out.wf.l0⟩
  unfold Fp.v at h''
  have HS : Hid (∀ d os, Calls Tryd.prog 41 #[.pointer (some ⟨p.b, 0, none⟩), .int .i64 0] (grow (redrawn w d) os) fun e w'' => e = .returned (.int .i64 (S.f0.length : Int)) ∧ ∃ p : Regrown, w'' = grow (redrawn w p.d) p.os) := Lib.hid fun d os => Calls.grown (size_any p S 0 _ (D.out.below (below_regrown w d os)))
  have HT : Hid (∀ d os, Calls Tryd.prog 88 #[.agg #[.slice (some ⟨p.g0, 0, none⟩) S.f0.length p.c0, .int .i64 (S.s0 : Int)]] (grow (redrawn w d) os) fun e w'' => e = .returned (.int .i64 ((S.f0.length - S.s0 : Nat) : Int)) ∧ ∃ p : Regrown, w'' = grow (redrawn w p.d) p.os) := Lib.hid fun d os => Calls.regrown_of (waiting45 _ _ _ _ HD.out.1 HD.out.2 _)
  have k0 := cell_regrown h
  have k1 := cell_regrown h'
  have k2 := cell_regrown h''
  have k3 := cell_regrown (D.out.blk.cell 0)
  have k4 := cell_regrown (D.out.blk.cell 1)
  clear hn hb
  go_enter Tryd.func100, Tryd.ntmps100
  go_wp2_with fail
  refine (there_any _ _).mono ?_
  rintro e w' ⟨rfl, rfl⟩
  rw [show St.there 0 = true from rfl]
  go_wp2_with fail
  clear h' h''
  refine wp_region_quiet_below mixed (by kernel_rfl) ?_
  repeat (first | go_big_quiet_step (first | (with_reducible exact HS.out _ _) | (with_reducible exact HT.out _ _)) | quiet_step (first | (with_reducible exact HS.out _ _) | (with_reducible exact HT.out _ _)))
  refine wpQuiet_nil ?_
  intro _ hw'
  obtain ⟨⟨dq, osq⟩, hw''⟩ := hw'
  subst hw''
  have hbq := Lib.hid (below_regrown w dq osq)
  go_wp2_with fail
  go_ret
  exact ⟨rfl, hbq.out⟩
set_option maxHeartbeats 16000000 in
theorem clo49_0wait (a c d : Nat) (n : Int) (p : Fp) (S : St) (w : World) (h : w.cell? ⟨a, 0, none⟩ = some (.int .i64 0)) (h' : w.cell? ⟨c, 0, none⟩ = some (.int .i64 n)) (h'' : w.cell? ⟨d, 0, none⟩ = some p.v) (D : Hid (Dk w p S)) (hn : ¬ n < 0) (hb : ¬ n > (S.f0.length : Int)) (hs : S.s0 < S.f0.length) :
    Calls Tryd.prog 100 #[.pointer (some ⟨a, 0, none⟩), .pointer (some ⟨c, 0, none⟩), .pointer (some ⟨d, 0, none⟩)] w fun e w' => e = .returned (.int .i64 92) ∧ Below w.heap.size w w' := by
  have hd : decide (n < 0) = false := by simpa using hn
  have hd2 : decide ((S.f0.length : Int) < n) = false := by simpa using hb
  have hd3 : decide (0 < S.f0.length - S.s0) = true := by simp; omega
  have HD : Hid (S.s0 ≤ S.f0.length ∧ S.f0.length ≤ 1048576) := Lib.hid ⟨by have := D.out.wf.t0; omega, D.out.wf.l0⟩
  unfold Fp.v at h''
  have HS : Hid (∀ d os, Calls Tryd.prog 41 #[.pointer (some ⟨p.b, 0, none⟩), .int .i64 0] (grow (redrawn w d) os) fun e w'' => e = .returned (.int .i64 (S.f0.length : Int)) ∧ ∃ p : Regrown, w'' = grow (redrawn w p.d) p.os) := Lib.hid fun d os => Calls.grown (size_any p S 0 _ (D.out.below (below_regrown w d os)))
  have HT : Hid (∀ d os, Calls Tryd.prog 88 #[.agg #[.slice (some ⟨p.g0, 0, none⟩) S.f0.length p.c0, .int .i64 (S.s0 : Int)]] (grow (redrawn w d) os) fun e w'' => e = .returned (.int .i64 ((S.f0.length - S.s0 : Nat) : Int)) ∧ ∃ p : Regrown, w'' = grow (redrawn w p.d) p.os) := Lib.hid fun d os => Calls.regrown_of (waiting45 _ _ _ _ HD.out.1 HD.out.2 _)
  have k0 := cell_regrown h
  have k1 := cell_regrown h'
  have k2 := cell_regrown h''
  have k3 := cell_regrown (D.out.blk.cell 0)
  have k4 := cell_regrown (D.out.blk.cell 1)
  clear hn hb hs
  go_enter Tryd.func100, Tryd.ntmps100
  go_wp2_with fail
  refine (there_any _ _).mono ?_
  rintro e w' ⟨rfl, rfl⟩
  rw [show St.there 0 = true from rfl]
  go_wp2_with fail
  clear h' h''
  refine wp_region_quiet_below mixed (by kernel_rfl) ?_
  repeat (first | go_big_quiet_step (first | (with_reducible exact HS.out _ _) | (with_reducible exact HT.out _ _)) | quiet_step (first | (with_reducible exact HS.out _ _) | (with_reducible exact HT.out _ _)))
  refine wpQuiet_nil ?_
  intro _ hw'
  obtain ⟨⟨dq, osq⟩, hw''⟩ := hw'
  subst hw''
  have hbq := Lib.hid (below_regrown w dq osq)
  go_wp2_with fail
  go_ret
  exact ⟨rfl, hbq.out⟩
set_option maxHeartbeats 16000000 in
theorem clo49_0ok (a c d : Nat) (n : Int) (p : Fp) (S : St) (w : World) (h : w.cell? ⟨a, 0, none⟩ = some (.int .i64 0)) (h' : w.cell? ⟨c, 0, none⟩ = some (.int .i64 n)) (h'' : w.cell? ⟨d, 0, none⟩ = some p.v) (D : Hid (Dk w p S)) (hn : ¬ n < 0) (hb : ¬ n > (S.f0.length : Int)) (hs : ¬ S.s0 < S.f0.length) :
    Calls Tryd.prog 100 #[.pointer (some ⟨a, 0, none⟩), .pointer (some ⟨c, 0, none⟩), .pointer (some ⟨d, 0, none⟩)] w fun e w' => e = .returned (.int .i64 0) ∧ Below w.heap.size w w' := by
  have hd : decide (n < 0) = false := by simpa using hn
  have hd2 : decide ((S.f0.length : Int) < n) = false := by simpa using hb
  have hd3 : decide (0 < S.f0.length - S.s0) = false := by simp; omega
  have HD : Hid (S.s0 ≤ S.f0.length ∧ S.f0.length ≤ 1048576) := Lib.hid ⟨by have := D.out.wf.t0; omega, D.out.wf.l0⟩
  unfold Fp.v at h''
  have HS : Hid (∀ d os, Calls Tryd.prog 41 #[.pointer (some ⟨p.b, 0, none⟩), .int .i64 0] (grow (redrawn w d) os) fun e w'' => e = .returned (.int .i64 (S.f0.length : Int)) ∧ ∃ p : Regrown, w'' = grow (redrawn w p.d) p.os) := Lib.hid fun d os => Calls.grown (size_any p S 0 _ (D.out.below (below_regrown w d os)))
  have HT : Hid (∀ d os, Calls Tryd.prog 88 #[.agg #[.slice (some ⟨p.g0, 0, none⟩) S.f0.length p.c0, .int .i64 (S.s0 : Int)]] (grow (redrawn w d) os) fun e w'' => e = .returned (.int .i64 ((S.f0.length - S.s0 : Nat) : Int)) ∧ ∃ p : Regrown, w'' = grow (redrawn w p.d) p.os) := Lib.hid fun d os => Calls.regrown_of (waiting45 _ _ _ _ HD.out.1 HD.out.2 _)
  have k0 := cell_regrown h
  have k1 := cell_regrown h'
  have k2 := cell_regrown h''
  have k3 := cell_regrown (D.out.blk.cell 0)
  have k4 := cell_regrown (D.out.blk.cell 1)
  clear hn hb hs
  go_enter Tryd.func100, Tryd.ntmps100
  go_wp2_with fail
  refine (there_any _ _).mono ?_
  rintro e w' ⟨rfl, rfl⟩
  rw [show St.there 0 = true from rfl]
  go_wp2_with fail
  clear h' h''
  refine wp_region_quiet_below mixed (by kernel_rfl) ?_
  repeat (first | go_big_quiet_step (first | (with_reducible exact HS.out _ _) | (with_reducible exact HT.out _ _)) | quiet_step (first | (with_reducible exact HS.out _ _) | (with_reducible exact HT.out _ _)))
  refine wpQuiet_nil ?_
  intro _ hw'
  obtain ⟨⟨dq, osq⟩, hw''⟩ := hw'
  subst hw''
  have hbq := Lib.hid (below_regrown w dq osq)
  go_wp2_with fail
  go_ret
  exact ⟨rfl, hbq.out⟩
set_option maxHeartbeats 16000000 in
theorem clo49_1neg (a c d : Nat) (n : Int) (p : Fp) (S : St) (w : World) (h : w.cell? ⟨a, 0, none⟩ = some (.int .i64 1)) (h' : w.cell? ⟨c, 0, none⟩ = some (.int .i64 n)) (h'' : w.cell? ⟨d, 0, none⟩ = some p.v) (D : Hid (Dk w p S)) (hn : n < 0) :
    Calls Tryd.prog 100 #[.pointer (some ⟨a, 0, none⟩), .pointer (some ⟨c, 0, none⟩), .pointer (some ⟨d, 0, none⟩)] w fun e w' => e = .returned (.int .i64 92) ∧ Below w.heap.size w w' := by
  have hd : decide (n < 0) = true := by simpa using hn
  have HD : Hid (S.s1 ≤ S.f1.length ∧ S.f1.length ≤ 1048576) := Lib.hid ⟨by have := D.out.wf.t1; omega, D.out.wf.l1⟩
  unfold Fp.v at h''
  have HS : Hid (∀ d os, Calls Tryd.prog 41 #[.pointer (some ⟨p.b, 0, none⟩), .int .i64 1] (grow (redrawn w d) os) fun e w'' => e = .returned (.int .i64 (S.f1.length : Int)) ∧ ∃ p : Regrown, w'' = grow (redrawn w p.d) p.os) := Lib.hid fun d os => Calls.grown (size_any p S 1 _ (D.out.below (below_regrown w d os)))
  have HT : Hid (∀ d os, Calls Tryd.prog 88 #[.agg #[.slice (some ⟨p.g1, 0, none⟩) S.f1.length p.c1, .int .i64 (S.s1 : Int)]] (grow (redrawn w d) os) fun e w'' => e = .returned (.int .i64 ((S.f1.length - S.s1 : Nat) : Int)) ∧ ∃ p : Regrown, w'' = grow (redrawn w p.d) p.os) := Lib.hid fun d os => Calls.regrown_of (waiting45 _ _ _ _ HD.out.1 HD.out.2 _)
  have k0 := cell_regrown h
  have k1 := cell_regrown h'
  have k2 := cell_regrown h''
  have k3 := cell_regrown (D.out.blk.cell 2)
  have k4 := cell_regrown (D.out.blk.cell 3)
  clear hn
  go_enter Tryd.func100, Tryd.ntmps100
  go_wp2_with fail
  refine (there_any _ _).mono ?_
  rintro e w' ⟨rfl, rfl⟩
  rw [show St.there 1 = true from rfl]
  go_wp2_with fail
  clear h' h''
  refine wp_region_quiet_below mixed (by kernel_rfl) ?_
  repeat (first | go_big_quiet_step (first | (with_reducible exact HS.out _ _) | (with_reducible exact HT.out _ _)) | quiet_step (first | (with_reducible exact HS.out _ _) | (with_reducible exact HT.out _ _)))
  refine wpQuiet_nil ?_
  intro _ hw'
  obtain ⟨⟨dq, osq⟩, hw''⟩ := hw'
  subst hw''
  have hbq := Lib.hid (below_regrown w dq osq)
  go_wp2_with fail
  go_ret
  exact ⟨rfl, hbq.out⟩
set_option maxHeartbeats 16000000 in
theorem clo49_1big (a c d : Nat) (n : Int) (p : Fp) (S : St) (w : World) (h : w.cell? ⟨a, 0, none⟩ = some (.int .i64 1)) (h' : w.cell? ⟨c, 0, none⟩ = some (.int .i64 n)) (h'' : w.cell? ⟨d, 0, none⟩ = some p.v) (D : Hid (Dk w p S)) (hn : ¬ n < 0) (hb : n > (S.f1.length : Int)) :
    Calls Tryd.prog 100 #[.pointer (some ⟨a, 0, none⟩), .pointer (some ⟨c, 0, none⟩), .pointer (some ⟨d, 0, none⟩)] w fun e w' => e = .returned (.int .i64 92) ∧ Below w.heap.size w w' := by
  have hd : decide (n < 0) = false := by simpa using hn
  have hd2 : decide ((S.f1.length : Int) < n) = true := by simpa using hb
  have HD : Hid (S.s1 ≤ S.f1.length ∧ S.f1.length ≤ 1048576) := Lib.hid ⟨by have := D.out.wf.t1; omega, D.out.wf.l1⟩
  unfold Fp.v at h''
  have HS : Hid (∀ d os, Calls Tryd.prog 41 #[.pointer (some ⟨p.b, 0, none⟩), .int .i64 1] (grow (redrawn w d) os) fun e w'' => e = .returned (.int .i64 (S.f1.length : Int)) ∧ ∃ p : Regrown, w'' = grow (redrawn w p.d) p.os) := Lib.hid fun d os => Calls.grown (size_any p S 1 _ (D.out.below (below_regrown w d os)))
  have HT : Hid (∀ d os, Calls Tryd.prog 88 #[.agg #[.slice (some ⟨p.g1, 0, none⟩) S.f1.length p.c1, .int .i64 (S.s1 : Int)]] (grow (redrawn w d) os) fun e w'' => e = .returned (.int .i64 ((S.f1.length - S.s1 : Nat) : Int)) ∧ ∃ p : Regrown, w'' = grow (redrawn w p.d) p.os) := Lib.hid fun d os => Calls.regrown_of (waiting45 _ _ _ _ HD.out.1 HD.out.2 _)
  have k0 := cell_regrown h
  have k1 := cell_regrown h'
  have k2 := cell_regrown h''
  have k3 := cell_regrown (D.out.blk.cell 2)
  have k4 := cell_regrown (D.out.blk.cell 3)
  clear hn hb
  go_enter Tryd.func100, Tryd.ntmps100
  go_wp2_with fail
  refine (there_any _ _).mono ?_
  rintro e w' ⟨rfl, rfl⟩
  rw [show St.there 1 = true from rfl]
  go_wp2_with fail
  clear h' h''
  refine wp_region_quiet_below mixed (by kernel_rfl) ?_
  repeat (first | go_big_quiet_step (first | (with_reducible exact HS.out _ _) | (with_reducible exact HT.out _ _)) | quiet_step (first | (with_reducible exact HS.out _ _) | (with_reducible exact HT.out _ _)))
  refine wpQuiet_nil ?_
  intro _ hw'
  obtain ⟨⟨dq, osq⟩, hw''⟩ := hw'
  subst hw''
  have hbq := Lib.hid (below_regrown w dq osq)
  go_wp2_with fail
  go_ret
  exact ⟨rfl, hbq.out⟩
set_option maxHeartbeats 16000000 in
theorem clo49_1wait (a c d : Nat) (n : Int) (p : Fp) (S : St) (w : World) (h : w.cell? ⟨a, 0, none⟩ = some (.int .i64 1)) (h' : w.cell? ⟨c, 0, none⟩ = some (.int .i64 n)) (h'' : w.cell? ⟨d, 0, none⟩ = some p.v) (D : Hid (Dk w p S)) (hn : ¬ n < 0) (hb : ¬ n > (S.f1.length : Int)) (hs : S.s1 < S.f1.length) :
    Calls Tryd.prog 100 #[.pointer (some ⟨a, 0, none⟩), .pointer (some ⟨c, 0, none⟩), .pointer (some ⟨d, 0, none⟩)] w fun e w' => e = .returned (.int .i64 92) ∧ Below w.heap.size w w' := by
  have hd : decide (n < 0) = false := by simpa using hn
  have hd2 : decide ((S.f1.length : Int) < n) = false := by simpa using hb
  have hd3 : decide (0 < S.f1.length - S.s1) = true := by simp; omega
  have HD : Hid (S.s1 ≤ S.f1.length ∧ S.f1.length ≤ 1048576) := Lib.hid ⟨by have := D.out.wf.t1; omega, D.out.wf.l1⟩
  unfold Fp.v at h''
  have HS : Hid (∀ d os, Calls Tryd.prog 41 #[.pointer (some ⟨p.b, 0, none⟩), .int .i64 1] (grow (redrawn w d) os) fun e w'' => e = .returned (.int .i64 (S.f1.length : Int)) ∧ ∃ p : Regrown, w'' = grow (redrawn w p.d) p.os) := Lib.hid fun d os => Calls.grown (size_any p S 1 _ (D.out.below (below_regrown w d os)))
  have HT : Hid (∀ d os, Calls Tryd.prog 88 #[.agg #[.slice (some ⟨p.g1, 0, none⟩) S.f1.length p.c1, .int .i64 (S.s1 : Int)]] (grow (redrawn w d) os) fun e w'' => e = .returned (.int .i64 ((S.f1.length - S.s1 : Nat) : Int)) ∧ ∃ p : Regrown, w'' = grow (redrawn w p.d) p.os) := Lib.hid fun d os => Calls.regrown_of (waiting45 _ _ _ _ HD.out.1 HD.out.2 _)
  have k0 := cell_regrown h
  have k1 := cell_regrown h'
  have k2 := cell_regrown h''
  have k3 := cell_regrown (D.out.blk.cell 2)
  have k4 := cell_regrown (D.out.blk.cell 3)
  clear hn hb hs
  go_enter Tryd.func100, Tryd.ntmps100
  go_wp2_with fail
  refine (there_any _ _).mono ?_
  rintro e w' ⟨rfl, rfl⟩
  rw [show St.there 1 = true from rfl]
  go_wp2_with fail
  clear h' h''
  refine wp_region_quiet_below mixed (by kernel_rfl) ?_
  repeat (first | go_big_quiet_step (first | (with_reducible exact HS.out _ _) | (with_reducible exact HT.out _ _)) | quiet_step (first | (with_reducible exact HS.out _ _) | (with_reducible exact HT.out _ _)))
  refine wpQuiet_nil ?_
  intro _ hw'
  obtain ⟨⟨dq, osq⟩, hw''⟩ := hw'
  subst hw''
  have hbq := Lib.hid (below_regrown w dq osq)
  go_wp2_with fail
  go_ret
  exact ⟨rfl, hbq.out⟩
set_option maxHeartbeats 16000000 in
theorem clo49_1ok (a c d : Nat) (n : Int) (p : Fp) (S : St) (w : World) (h : w.cell? ⟨a, 0, none⟩ = some (.int .i64 1)) (h' : w.cell? ⟨c, 0, none⟩ = some (.int .i64 n)) (h'' : w.cell? ⟨d, 0, none⟩ = some p.v) (D : Hid (Dk w p S)) (hn : ¬ n < 0) (hb : ¬ n > (S.f1.length : Int)) (hs : ¬ S.s1 < S.f1.length) :
    Calls Tryd.prog 100 #[.pointer (some ⟨a, 0, none⟩), .pointer (some ⟨c, 0, none⟩), .pointer (some ⟨d, 0, none⟩)] w fun e w' => e = .returned (.int .i64 0) ∧ Below w.heap.size w w' := by
  have hd : decide (n < 0) = false := by simpa using hn
  have hd2 : decide ((S.f1.length : Int) < n) = false := by simpa using hb
  have hd3 : decide (0 < S.f1.length - S.s1) = false := by simp; omega
  have HD : Hid (S.s1 ≤ S.f1.length ∧ S.f1.length ≤ 1048576) := Lib.hid ⟨by have := D.out.wf.t1; omega, D.out.wf.l1⟩
  unfold Fp.v at h''
  have HS : Hid (∀ d os, Calls Tryd.prog 41 #[.pointer (some ⟨p.b, 0, none⟩), .int .i64 1] (grow (redrawn w d) os) fun e w'' => e = .returned (.int .i64 (S.f1.length : Int)) ∧ ∃ p : Regrown, w'' = grow (redrawn w p.d) p.os) := Lib.hid fun d os => Calls.grown (size_any p S 1 _ (D.out.below (below_regrown w d os)))
  have HT : Hid (∀ d os, Calls Tryd.prog 88 #[.agg #[.slice (some ⟨p.g1, 0, none⟩) S.f1.length p.c1, .int .i64 (S.s1 : Int)]] (grow (redrawn w d) os) fun e w'' => e = .returned (.int .i64 ((S.f1.length - S.s1 : Nat) : Int)) ∧ ∃ p : Regrown, w'' = grow (redrawn w p.d) p.os) := Lib.hid fun d os => Calls.regrown_of (waiting45 _ _ _ _ HD.out.1 HD.out.2 _)
  have k0 := cell_regrown h
  have k1 := cell_regrown h'
  have k2 := cell_regrown h''
  have k3 := cell_regrown (D.out.blk.cell 2)
  have k4 := cell_regrown (D.out.blk.cell 3)
  clear hn hb hs
  go_enter Tryd.func100, Tryd.ntmps100
  go_wp2_with fail
  refine (there_any _ _).mono ?_
  rintro e w' ⟨rfl, rfl⟩
  rw [show St.there 1 = true from rfl]
  go_wp2_with fail
  clear h' h''
  refine wp_region_quiet_below mixed (by kernel_rfl) ?_
  repeat (first | go_big_quiet_step (first | (with_reducible exact HS.out _ _) | (with_reducible exact HT.out _ _)) | quiet_step (first | (with_reducible exact HS.out _ _) | (with_reducible exact HT.out _ _)))
  refine wpQuiet_nil ?_
  intro _ hw'
  obtain ⟨⟨dq, osq⟩, hw''⟩ := hw'
  subst hw''
  have hbq := Lib.hid (below_regrown w dq osq)
  go_wp2_with fail
  go_ret
  exact ⟨rfl, hbq.out⟩
end Go.Proofs.YtmoihgniglomiaaDoor
