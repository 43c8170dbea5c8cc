/- The power goes (lose, count), and comes back (Revive). No condition but the disk's own. -/
import Derived.Test.YtekagnhablkggaaE
set_option linter.unusedVariables false
set_option linter.unusedSimpArgs false
set_option maxRecDepth 100000
namespace Go.Proofs.Ytekagnhablkggaa
open Go.RowKit Go.Sort

/-- the power's three fields alone are turned -/
theorem Dk.pow {w w' : World} {p : Fp} {S : St} (h : Dk w p S) (hO : Only [p.b] w w') (g : Bool) (n k : Nat) (hn : n ≤ 9223372036854775807) (hk : k ≤ 9223372036854775807)
    (hb : Bk 64 w' p.b #[.slice (some ⟨p.g0, 0, none⟩) S.f0.length p.c0, .int .i64 (S.s0 : Int), .slice (some ⟨p.g1, 0, none⟩) S.f1.length p.c1, .int .i64 (S.s1 : Int), p.rv, .bool g, .int .i64 (n : Int), .int .i64 (k : Int)]) : Dk w' p (S.power g n k) := by
  have hbg0 : p.g0 ∉ [p.b] := by
    have := h.r0.ne h.blk (by decide)
    simp only [List.mem_singleton]
    exact fun e => this e.symm
  have hbg1 : p.g1 ∉ [p.b] := by
    have := h.r1.ne h.blk (by decide)
    simp only [List.mem_singleton]
    exact fun e => this e.symm
  refine ⟨hb, h.r0.only hO hbg0, h.r1.only hO hbg1, owns_of h.rr (fun r hr hlt => hO.block r hlt ?_), h.ne, h.wf.power g hn hk⟩
  intro hm
  have hrb : r = p.b := by simpa using hm
  obtain ⟨_, ⟨hv, _⟩ | ⟨r', cap, cur, hv, _, hg, _⟩⟩ := h.rr
  · rw [hv] at hr; cases hr
  · rw [hv] at hr
    cases hr
    have hbk := h.blk
    unfold Bk at hbk
    simp only at hrb
    rw [hrb, hbk] at hg
    cases hg
theorem revive_any (p : Fp) (S : St) (w : World) (h : Dk w p S) :
    Calls Try.prog 28 #[p.v] w fun e w' => e = .returned (.tuple #[]) ∧ Dk w' p S.revive ∧ Only [p.b] w w' :=
  (revive28 p.b _ _ _ _ _ _ _ _ w (Lib.hid h.blk)).mono fun e w' ⟨he, hb, ho⟩ => ⟨he, h.pow ho false 0 0 (by omega) (by omega) hb, ho⟩
set_option maxHeartbeats 8000000 in
theorem lose_any (p : Fp) (S : St) (k : Nat) (hk : k ≤ 9223372036854775807) (w : World) (h : Dk w p S) :
    Calls Try.prog 43 #[p.v, .int .i64 (k : Int)] w fun e w' => e = .returned (.tuple #[]) ∧ Dk w' p.nil (S.lose k) ∧ Only [p.b] w w' := by
  have H := Lib.hid h
  have HK := Lib.hid (show (k : Int) ≤ 9223372036854775807 by omega)
  clear h hk
  go_enter Try.func43, Try.ntmps43
  go_wp2_with fail
  refine (keep48 p S k HK.out _ H.out).mono ?_
  rintro e w1 ⟨rfl, hd, ho⟩
  rw [Int.toNat_natCast] at hd
  have D1 := Lib.hid hd
  have O1 := Lib.hid ho
  clear hd ho
  have f5 := D1.out.blk.fro 5
  have f6 := D1.out.blk.fro 6
  have f7 := D1.out.blk.fro 7
  have c5 := D1.out.blk.cell 5
  have c6 := D1.out.blk.cell 6
  have c7 := D1.out.blk.cell 7
  have eb : p.nil.b = p.b := rfl
  rw [eb] at f5 f6 f7 c5 c6 c7
  clear eb
  unfold Fp.v
  go_wp2_with fail
  go_returns
  have q := Bk.same (i := 7) (v := .int .i64 0) (Bk.same (i := 6) (v := .int .i64 0) (Bk.same (i := 5) (v := .bool true) D1.out.blk))
  have hO : Only [p.b] w1 (((w1.setCell ⟨p.b, 5, none⟩ (.bool true)).setCell ⟨p.b, 6, none⟩ (.int .i64 0)).setCell ⟨p.b, 7, none⟩ (.int .i64 0)) := (((Only.refl _ _).setCell _ (by simp) _).setCell _ (by simp) _).setCell _ (by simp) _
  exact ⟨rfl, D1.out.pow (p := p.nil) hO true 0 0 (by omega) (by omega) (by have eb : p.nil.b = p.b := rfl; rw [eb] at q ⊢; simpa using q), O1.out.trans hO (by simp)⟩
/-- where a disk's bytes lie behind a change's count -/
def Fp.count (p : Fp) (S : St) : Fp := if (S.count).1 = 0 then p else p.nil
theorem Fp.count_own (p : Fp) (S : St) : ∀ k ∈ (p.count S).own, k ∈ p.own := by
  unfold Fp.count
  split
  · exact fun k h => h
  · exact p.nil_own
theorem Fp.count_b (p : Fp) (S : St) : (p.count S).b = p.b := by unfold Fp.count; split <;> rfl
set_option maxHeartbeats 8000000 in
theorem count_any (p : Fp) (S : St) (w : World) (h : Dk w p S) :
    Calls Try.prog 47 #[p.v] w fun e w' => e = .returned (.int .i64 ((S.count).1 : Int)) ∧ Dk w' (p.count S) (S.count).2 ∧ Only [p.b] w w' := by
  have H := Lib.hid h
  have hli := h.wf.li
  have i6 := h.blk.cell 6
  have f6 := h.blk.fro 6
  have i7 := h.blk.cell 7
  rcases (by omega : S.inn = 0 ∨ S.inn = 1 ∨ 2 ≤ S.inn) with h0 | h0 | h0
  · have e : S.count = (0, S) := by simp [St.count, h0]
    have e2 : p.count S = p := by simp [Fp.count, e]
    rw [e, e2]
    have i6' : w.cell? ⟨p.b, 6, none⟩ = some (.int .i64 0) := by rw [i6]; simp [h0]
    clear e e2 h0 i6 h hli
    unfold Fp.v
    go_enter Try.func47, Try.ntmps47
    go_wp2_with fail
    go_ret
    exact ⟨rfl, H.out, Only.refl _ _⟩
  · have e : S.count = (2, S.lose S.lft) := by simp [St.count, h0]
    have e2 : p.count S = p.nil := by simp [Fp.count, e]
    have HE := Lib.hid e
    have HE2 := Lib.hid e2
    have i6' : w.cell? ⟨p.b, 6, none⟩ = some (.int .i64 1) := by rw [i6]; simp [h0]
    have j6 := (Bk.same (i := 6) (v := .int .i64 0) h.blk).cell 6
    have j7 := (Bk.same (i := 6) (v := .int .i64 0) h.blk).cell 7
    have DL : Hid (Dk (w.setCell ⟨p.b, 6, none⟩ (.int .i64 0)) p (S.power S.gone 0 S.lft)) := Lib.hid (h.pow ((Only.refl _ _).setCell _ (by simp) _) _ _ _ (by omega) h.wf.ll (by
      have := Bk.same (i := 6) (v := .int .i64 0) h.blk
      simpa using this))
    have hll := h.wf.ll
    have HS : Hid ((S.power S.gone 0 S.lft).lose S.lft = S.lose S.lft) := Lib.hid rfl
    clear e e2 h0 i6 h hli
    unfold Fp.v
    go_enter Try.func47, Try.ntmps47
    go_wp2_with fail
    refine (lose_any p _ S.lft hll _ DL.out).mono ?_
    rintro e w1 ⟨rfl, hd, ho⟩
    rw [HS.out] at hd
    have D1 := Lib.hid hd
    have O1 := Lib.hid (((Only.refl [p.b] w).setCell ⟨p.b, 6, none⟩ (by simp) (.int .i64 0)).trans ho (by simp))
    clear hd ho
    go_wp2_with fail
    go_ret
    rw [HE.out, HE2.out]
    exact ⟨rfl, D1.out, O1.out⟩
  · have e : S.count = (0, { S with inn := S.inn - 1 }) := by
      have h1 : S.inn ≠ 0 := by omega
      have h2 : S.inn - 1 > 0 := by omega
      simp [St.count, h1, h2]
    have e2 : p.count S = p := by simp [Fp.count, e]
    have HE := Lib.hid e
    have HE2 := Lib.hid e2
    obtain ⟨n, hn⟩ : ∃ n, S.inn = n + 2 := ⟨S.inn - 2, by omega⟩
    have i6' : w.cell? ⟨p.b, 6, none⟩ = some (.int .i64 ((n + 2 : Nat) : Int)) := by rw [i6]; simp [hn]
    have hnb : n + 2 ≤ 9223372036854775807 := by omega
    have ht : (((n + 2 : Nat) : Int) == 0) = false := by simp; omega
    have ev : ((n + 2 : Nat) : Int) - 1 = ((n + 1 : Nat) : Int) := by omega
    have DL : Hid (Dk (w.setCell ⟨p.b, 6, none⟩ (.int .i64 ((n + 1 : Nat) : Int))) p (S.power S.gone (n + 1) S.lft)) := Lib.hid (h.pow ((Only.refl _ _).setCell _ (by simp) _) _ _ _ (by omega) h.wf.ll (by
      have := Bk.same (i := 6) (v := .int .i64 ((n + 1 : Nat) : Int)) h.blk
      simpa using this))
    have HS : Hid (S.power S.gone (n + 1) S.lft = { S with inn := S.inn - 1 }) := Lib.hid (by unfold St.power; congr; omega)
    have EV := Lib.hid ev
    clear e e2 h0 i6 h hli hn ev i7
    unfold Fp.v
    go_enter Try.func47, Try.ntmps47
    go_wp2_with fail
    rw [show (n : Int) + 2 - 1 = ((n + 1 : Nat) : Int) from by omega]
    go_ret
    rw [HE.out, HE2.out]
    have D := DL.out
    rw [HS.out] at D
    exact ⟨rfl, D, (Only.refl _ _).setCell _ (by simp) _⟩
end Go.Proofs.Ytekagnhablkggaa
