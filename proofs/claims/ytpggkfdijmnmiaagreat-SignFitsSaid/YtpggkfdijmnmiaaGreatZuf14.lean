/- Macs. Condition: at most 2^47 bytes each. What sign's sumOf, inverse, mul, number and numbers answer. Condition: the numbers are below N, the texts at most 2^47 - 4096 bytes. The drawn regions of sign's number and fits. No condition. -/
import Derived.Test.YtpggkfdijmnmiaaGreatZuf13
import Derived.Test.YtpggkfdijmnmiaaGreatZuf11
import Derived.Test.YtpggkfdijmnmiaaGreatZuf12
import Derived.Test.YtpggkfdijmnmiaaGreatZuf05
set_option linter.unusedVariables false
set_option linter.unusedSimpArgs false
set_option maxRecDepth 100000
namespace Go.Proofs.YtpggkfdijmnmiaaGreat.Hs
open Go.RowKit Go.Sort
theorem turned_length (k : List UInt8) (c : UInt8) : (turnedL k c).length = k.length := by simp [turnedL]
theorem mac_length (k s : List UInt8) : (macK k s).length = 32 := sum_length _
set_option maxHeartbeats 4000000 in
set_option maxRecDepth 100000 in
theorem macK_any (k : List UInt8) (hk : k.length = 64) (s : List UInt8) (hs : s.length ≤ 140737488355392) (w : World) :
    Calls Tryz.prog 89 #[.agg (bs k), .string ⟨s.toArray⟩] w fun e w' => e = .returned (.string ⟨(macK k s).toArray⟩) ∧ Below w.heap.size w w' := by
  have HK := Lib.hid (Go.heap_alloc_new w (.cells (bs k) 129))
  have HI := Lib.hid (i46 k hk)
  have HA := Lib.hid (rg (w := w.alloc (.cells (bs k) 129)) (turned_any k hk 92))
  have HB := Lib.hid (rg (w := w.alloc (.cells (bs k) 129)) (turned_any k hk 54))
  have HC := Lib.hid (rg (w := w.alloc (.cells (bs k) 129)) (sum_any (turnedL k 54 ++ s) (by rw [List.length_append, turned_length]; omega)))
  have HD := Lib.hid (rg (w := w.alloc (.cells (bs k) 129)) (sum_any (turnedL k 92 ++ sumL (turnedL k 54 ++ s)) (by rw [List.length_append, turned_length, sum_length]; omega)))
  have HM : Hid (macK k s = sumL (turnedL k 92 ++ sumL (turnedL k 54 ++ s))) := Lib.hid rfl
  have a1 := app_ba (turnedL k 54) s
  have a2 := app_ba (turnedL k 92) (sumL (turnedL k 54 ++ s))
  have l1 : (turnedL k 54).length ≤ 64 := by rw [turned_length]; omega
  have l2 : (turnedL k 92).length ≤ 64 := by rw [turned_length]; omega
  have l3 : (sumL (turnedL k 54 ++ s)).length ≤ 32 := by rw [sum_length]; omega
  rw [← HM.out] at HD
  clear HM
  have HBW : Hid (Below w.heap.size w (w.alloc (.cells (bs k) 129))) := Lib.hid ((Below.refl _ _).alloc (Nat.le_refl _) _)
  generalize turnedL k 92 ++ sumL (turnedL k 54 ++ s) = x2 at a2 HD
  generalize sumL (turnedL k 54 ++ s) = m1 at a2 HC l3
  generalize turnedL k 54 ++ s = x1 at a1 HC
  generalize turnedL k 54 = t1 at a1 HB l1
  generalize turnedL k 92 = t2 at a2 HA l2
  clear hk
  go_enter Tryz.func89, Tryz.ntmps89
  go_wp2_with fail
  generalize w.alloc (.cells (bs k) 129) = w0 at HK HA HB HC HD HBW ⊢
  refine wp_region_quiet_below mixed (by kernel_rfl) ?_
  refine wpQuiet_load_row rfl 129 (.tmp 2) rfl w.heap.size rfl 129 (bs k) (0, 0) _ (fun w' hw' => heap_regrown HK.out hw') u46 rfl HI.out ?_
  quiet_step (exact HA.out _ _)
  refine wpQuiet_load_row rfl 129 (.tmp 2) rfl w.heap.size rfl 129 (bs k) (0, 0) _ (fun w' hw' => heap_regrown HK.out hw') u46 rfl HI.out ?_
  quiet_step (exact HB.out _ _)
  iterate 2 go_big_quiet_step (exact HC.out _ _)
  go_big_quiet_step (exact HC.out _ _)
  iterate 2 go_big_quiet_step (exact HD.out _ _)
  go_big_quiet_step (exact HD.out _ _)
  refine wpQuiet_nil ?_
  intro _ hw'
  obtain ⟨⟨dq, osq⟩, hw''⟩ := hw'
  subst hw''
  have HQ := Lib.hid (HBW.out.trans ((below_regrown w0 dq osq).mono HBW.out.size))
  generalize grow (redrawn w0 dq) osq = wq at HQ ⊢
  clear HA HB HC HD HK HBW
  go_wp2_with fail
  go_ret
  exact ⟨rfl, HQ.out⟩
theorem Mac_any (key s : List UInt8) (hk : key.length ≤ 281474976710656) (hs : s.length ≤ 140737488355392) (w : World) :
    Calls Tryz.prog 39 #[.string ⟨key.toArray⟩, .string ⟨s.toArray⟩] w fun e w' => e = .returned (.string ⟨(macL key s).toArray⟩) ∧ Below w.heap.size w w' := by
  have HA := Lib.hid (fill_any key hk)
  have HB := Lib.hid (macK_any (fillL key) (fill_length key) s hs)
  have HM : Hid (macL key s = macK (fillL key) s) := Lib.hid rfl
  rw [← HM.out] at HB
  clear HM hk hs
  generalize fillL key = k at HA HB
  go_enter Tryz.func39, Tryz.ntmps39
  go_wp2_with fail
  refine (HA.out _).mono ?_
  rintro e w1 ⟨rfl, b1⟩
  go_wp2_with fail
  refine (HB.out _).mono ?_
  rintro e w2 ⟨rfl, b2⟩
  go_wp2_with fail
  go_ret
  exact ⟨rfl, b1.trans (b2.mono b1.size)⟩
end Go.Proofs.YtpggkfdijmnmiaaGreat.Hs
namespace Go.Proofs.YtpggkfdijmnmiaaGreat
open Go.RowKit Limbs
theorem md1' : md 1 = mN := by unfold md; rw [if_neg (by decide)]
set_option maxHeartbeats 8000000 in
theorem smul_any (a b : Nat) (ha : a < W256) (hb : b < W256) (w : World) : Calls Tryz.prog 113 #[nv a, nv b] w fun e w' => e = .returned (nv (a * b % mN)) ∧ Below w.heap.size w w' := by
  have h := mul_any 1 a b ha hb
  rw [md1'] at h
  have HM := Lib.hid h
  clear h
  generalize a * b % mN = z at *
  simp only [nv, num] at HM ⊢
  go_enter Tryz.func113, Tryz.ntmps113
  go_wp2_with fail
  refine (keep w.heap.size w (HM.out _) (by go_grown) (Nat.le_refl _)).mono ?_
  rintro e w1 ⟨rfl, hb1, hk⟩
  have KR : Bk 24 w1 (w.heap.size + 1 + 1) cs0 := Bk.below (Bk.new (by simp)) hk
  obtain ⟨f0, f1, f2, f3⟩ := KR.fros
  obtain ⟨j0, j1, j2, j3⟩ := KR.cells
  go_wp2_with fail
  refine ret_cell rfl (w.heap.size + 1 + 1) z rfl (Bk.put KR) rfl ⟨rfl, ?_⟩
  go_grown
set_option maxHeartbeats 8000000 in
theorem sinv_any (a : Nat) (h0 : 0 < a) (h1 : a < mN) (w : World) : Calls Tryz.prog 112 #[nv a] w fun e w' => e = .returned (nv (iM a)) ∧ Below w.heap.size w w' := by
  have h := inv_any 1 a (Nat.lt_trans h1 mN_W)
  rw [md1', Nat.mod_eq_of_lt h1, if_neg (by omega)] at h
  have HI : Hid (∀ w, Calls Tryz.prog 157 #[.int .i64 1, nv a] w fun e w' => e = .returned (.tuple #[nv (iM a), .int .i64 0]) ∧ Below w.heap.size w w') := Lib.hid h
  clear h h0 h1
  generalize iM a = z at *
  simp only [nv, num] at HI ⊢
  go_enter Tryz.func112, Tryz.ntmps112
  go_wp2_with fail
  refine (keep w.heap.size w (HI.out _) (by go_grown) (Nat.le_refl _)).mono ?_
  rintro e w1 ⟨rfl, hb1, hk⟩
  have KR : Bk 24 w1 (w.heap.size + 1) cs0 := Bk.below (Bk.new (by simp)) hk
  obtain ⟨f0, f1, f2, f3⟩ := KR.frosA
  obtain ⟨j0, j1, j2, j3⟩ := KR.cellsA
  have hne : w.heap.size + 1 ≠ w1.heap.size := Nat.ne_of_lt KR.lt
  go_wp2_with fail
  refine ret_cell rfl (w.heap.size + 1) z rfl (Bk.put (Bk.alloc KR)) rfl ⟨rfl, ?_⟩
  have hsz := hb1.size
  go_grown
set_option maxHeartbeats 8000000 in
theorem sumOf_any (s : List UInt8) (hs : s.length ≤ 140737488351232) (w : World) : Calls Tryz.prog 49 #[.string ⟨s.toArray⟩] w fun e w' => e = .returned (nv (bv (Hs.sumL s) % mN)) ∧ Below w.heap.size w w' := by
  have HS := Lib.hid (fun w => Hs.sum_any s (by omega) w)
  have h := fun w => reduce_any 1 (Hs.sumL s) (by rw [Hs.sum_length]; decide) w
  rw [md1'] at h
  have HR := Lib.hid h
  clear h hs
  generalize bv (Hs.sumL s) % mN = z at *
  generalize Hs.sumL s = l at *
  simp only [nv, num] at HR ⊢
  go_enter Tryz.func49, Tryz.ntmps49
  go_wp2_with fail
  refine (keep w.heap.size w (HS.out _) (by go_grown) (Nat.le_refl _)).mono ?_
  rintro e w1 ⟨rfl, hb1, hk⟩
  have KR : Bk 24 w1 w.heap.size cs0 := Bk.below (Bk.new rfl) hk
  clear hk
  go_wp2_with fail
  refine (keep w.heap.size w (HR.out _) hb1 (Nat.le_refl _)).mono ?_
  rintro e w2 ⟨rfl, hb2, hk2⟩
  have KR2 := KR.below hk2
  obtain ⟨f0, f1, f2, f3⟩ := KR2.fros
  obtain ⟨j0, j1, j2, j3⟩ := KR2.cells
  clear hk2 KR
  go_wp2_with fail
  refine ret_cell rfl w.heap.size z rfl (Bk.put KR2) rfl ⟨rfl, ?_⟩
  go_grown
end Go.Proofs.YtpggkfdijmnmiaaGreat
namespace Go.Proofs.YtpggkfdijmnmiaaGreat.Pl
open Go.RowKit Go.Sort Limbs
noncomputable def tNO : Array Oper := (Tryz.f60.body.bind fun c => findR c 2).getD #[]
def tN_m : List (List Nat) := [[], [], [], [], [], [], [5], [5], [5, 7]]
set_option maxHeartbeats 16000000 in
theorem tN (PW : Bool → Bool → World → Prop) (ja jz z : Nat) (ok : Bool) (w : World)  (cl5 : ∀ (w : World), PW false false w → Calls Tryz.prog 41 #[.agg #[.int .u64 (lb z 0 : Nat), .int .u64 (lb z 1 : Nat), .int .u64 (lb z 2 : Nat), .int .u64 (lb z 3 : Nat)]] w fun e w1 => e = .returned (.bool ok) ∧ PW true false  w1) (cl7 : ∀ (w : World), PW true false w → ∃ (d0 d1 d2 d3 : Value), Bk 24 w ja #[d0, d1, d2, d3] ∧ PW true true  ((((w.setCell ⟨ja, 0, none⟩ (.int .u64 (lb z 0 : Nat))).setCell ⟨ja, 1, none⟩ (.int .u64 (lb z 1 : Nat))).setCell ⟨ja, 2, none⟩ (.int .u64 (lb z 2 : Nat))).setCell ⟨ja, 3, none⟩ (.int .u64 (lb z 3 : Nat)))) (lz : ∀ (b5 b7 : Bool) (w : World), PW b5 b7  w → w.cell? ⟨jz, 0, none⟩ = some (.int .u64 (lb z 0 : Nat)) ∧ w.cell? ⟨jz, 1, none⟩ = some (.int .u64 (lb z 1 : Nat)) ∧ w.cell? ⟨jz, 2, none⟩ = some (.int .u64 (lb z 2 : Nat)) ∧ w.cell? ⟨jz, 3, none⟩ = some (.int .u64 (lb z 3 : Nat))) {t0 t1 t3 t6 t7 t8 t9 t10 t11 t12 t13 t14 t15 t16 t17 : Value} (w0 : PW false false  w.drew) {ds : List Deferred} {Q : Exit → Act → World → Prop}
    (h : ∀ (w1 : World), PW true true  w1 → Q .normal { tmps := #[t0, t1, .pointer (some ⟨ja, 0, none⟩), .bool ok, .pointer (some ⟨jz, 0, none⟩), .int .i64 0, t6, t7, t8, t9, t10, .agg #[.int .u64 (lb z 0 : Nat), .int .u64 (lb z 1 : Nat), .int .u64 (lb z 2 : Nat), .int .u64 (lb z 3 : Nat)], .int .i64 0, .bool true, .bool true, .agg #[.int .u64 (lb z 0 : Nat), .int .u64 (lb z 1 : Nat), .int .u64 (lb z 2 : Nat), .int .u64 (lb z 3 : Nat)], .bool ok, .bool ok], defers := ds } w1) :
    (Code.region 2 tNO true).wp Tryz.prog Q { tmps := #[t0, t1, .pointer (some ⟨ja, 0, none⟩), t3, .pointer (some ⟨jz, 0, none⟩), .int .i64 0, t6, t7, t8, t9, t10, t11, t12, t13, t14, t15, t16, t17], defers := ds } w := by
  have hsz : tNO.size = 9 := by kernel_rfl
  generalize hT : List.toArray _ = T0
  have hs : T0.size = 18 := by subst hT; rfl
  have g2 : T0.getD 2 undef = .pointer (some ⟨ja, 0, none⟩) := by subst hT; rfl
  have g4 : T0.getD 4 undef = .pointer (some ⟨jz, 0, none⟩) := by subst hT; rfl
  have g5 : T0.getD 5 undef = .int .i64 0 := by subst hT; rfl
  obtain ⟨W, hV⟩ : ∃ W : List ((Nat × (Value → Value)) ⊕ Value), W = [.inr (.agg #[.int .u64 (lb z 0 : Nat), .int .u64 (lb z 1 : Nat), .int .u64 (lb z 2 : Nat), .int .u64 (lb z 3 : Nat)]), .inr (.int .i64 0), .inr (.bool true), .inr (.bool true), .inr (.agg #[.int .u64 (lb z 0 : Nat), .int .u64 (lb z 1 : Nat), .int .u64 (lb z 2 : Nat), .int .u64 (lb z 3 : Nat)]), .inr (.bool ok), .inr (.bool ok), .inr undef, .inr (.bool ok)] := ⟨_, rfl⟩
  refine wp_plan (by kernel_rfl) T0 ds [5, 7] tN_m (mkV W) (fun dx yx wx => PW (dx 5) (dx 7)  wx) w (by rw [hs]; kernel_rfl) (by kernel_rfl) (by kernel_rfl) (by rw [hsz]; decide) (fun cx hc ix hne ha yx vx => mkV_fix (by rw [hV]; kernel_rfl) hne ha yx vx) (?key) (fun cx hc ox ho dx yx Tx wx hd hdb hda hK hW => ?_) ⟨fun k => undef, w0⟩ (fun dx yx wx hd hW => ?_)
  case key =>
    rw [hsz]
    refine all_step (all_step (all_step (all_step (all_step (all_step (all_step (all_step (all_step all_zero ?_) ?_) ?_) ?_) ?_) ?_) ?_) ?_) ?_
    all_goals
      intro ox ho hic dx yx Tx wx hdb hK hW
      replace hdb := Lib.hid hdb
    · obtain ⟨ps, af, rfl⟩ := core (some 11) (.load 24 (.tmp 4)) 24 none ho (by kernel_rfl)
      have e4 : Tx.getD 4 undef = .pointer (some ⟨jz, 0, none⟩) := hK.of (by kernel_rfl) g4
      obtain ⟨hlz0, hlz1, hlz2, hlz3⟩ := lz _ _ _ hW
      exact wpOp_plain ho rfl (by subst hV; go_simp; try rfl)
    · exact pl0 12 5 27 ho hK (by kernel_rfl) (by kernel_rfl) g5 (by subst hV; rfl) fun ps af e => k_mv e
    · obtain ⟨ps, af, rfl⟩ := core (some 13) (.binOp BinOp.eql 27 (.tmp 12) (.const (Value.int IntKind.i64 0)) 27) 4 none ho (by kernel_rfl)
      have e12 : Tx.getD 12 undef = .int .i64 0 := hK.is 1 ho (by kernel_rfl) (by subst hV; rfl)
      exact wpOp_plain ho rfl (by subst hV; go_simp; try rfl)
    · exact pl1 14 13 2 4 ho hK (by kernel_rfl) (by kernel_rfl) (by subst hV; rfl) (by subst hV; rfl) fun ps af e => k_mv e
    · obtain ⟨ps, af, rfl⟩ := core (some 15) (.load 24 (.tmp 4)) 24 (some (3, true)) ho (by kernel_rfl)
      have e4 : Tx.getD 4 undef = .pointer (some ⟨jz, 0, none⟩) := hK.of (by kernel_rfl) g4
      obtain ⟨hlz0, hlz1, hlz2, hlz3⟩ := lz _ _ _ hW
      exact wpOp_want ho ((wanted_of (d := 14) (b := true) rfl (by kernel_rfl) (hK.is 3 ho (by kernel_rfl) (by subst hV; rfl))).trans rfl) (by subst hV; go_simp; try rfl)
    · exact absurd (by decide) hic
    · obtain ⟨ps, af, rfl⟩ := core (some 17) (.pick (.tmp 14) (.tmp 16) (.const (Value.bool false))) 4 none ho (by kernel_rfl)
      have e14 : Tx.getD 14 undef = .bool true := hK.is 3 ho (by kernel_rfl) (by subst hV; rfl)
      have e16 : Tx.getD 16 undef = .bool ok := hK.is 5 ho (by kernel_rfl) (by subst hV; rfl)
      exact wpOp_plain ho rfl (by subst hV; go_simp; try rfl)
    · exact absurd (by decide) hic
    · exact pl1 3 17 6 4 ho hK (by kernel_rfl) (by kernel_rfl) (by subst hV; rfl) (by subst hV; rfl) fun ps af e => k_as e
  · have hcase : cx = 5 ∨ cx = 7 := by simpa using hc
    rcases hcase with rfl | rfl
    · obtain ⟨ps, af, rfl⟩ := core (some 16) (.call { callee := .value (.func 41), args := #[.tmp 15], argTypes := #[24] }) 4 (some (3, true)) ho (by kernel_rfl)
      have e15 : Tx.getD 15 undef = .agg #[.int .u64 (lb z 0 : Nat), .int .u64 (lb z 1 : Nat), .int .u64 (lb z 2 : Nat), .int .u64 (lb z 3 : Nat)] := hK.is 4 ho (by kernel_rfl) (by subst hV; rfl)
      have hW1 : PW (dx 5) (dx 7)  wx := hW
      have f7 := hda 7 (by decide) (by kernel_rfl)
      clear hdb hda
      rw [hd, f7] at hW1
      replace f7 := Lib.hid f7
      clear hd hW hc
      refine wpOp_want ho ((wanted_of (d := 14) (b := true) rfl (by kernel_rfl) (hK.is 3 ho (by kernel_rfl) (by subst hV; rfl))).trans rfl) ?_
      go_simp
      go_at_call 41
      refine (cl5 _ hW1).mono ?_
      rintro ex w2 ⟨rfl, hW2⟩
      subst hV
      first | refine ⟨undef, rfl, ?_⟩ | refine ⟨⟨undef, rfl⟩, ?_⟩
      simpa [updB, upd, f7.out] using hW2
    · obtain ⟨ps, af, rfl⟩ := core none (.store 24 (.tmp 2) (.tmp 11)) 0 none ho (by kernel_rfl)
      have e2 : Tx.getD 2 undef = .pointer (some ⟨ja, 0, none⟩) := hK.of (by kernel_rfl) g2
      have e11 : Tx.getD 11 undef = .agg #[.int .u64 (lb z 0 : Nat), .int .u64 (lb z 1 : Nat), .int .u64 (lb z 2 : Nat), .int .u64 (lb z 3 : Nat)] := hK.is 0 ho (by kernel_rfl) (by subst hV; rfl)
      have hW1 : PW (dx 5) (dx 7)  wx := hW
      have f5 := hdb 5 (by decide) (by kernel_rfl)
      clear hdb hda
      rw [hd, f5] at hW1
      replace f5 := Lib.hid f5
      clear hd hW hc
      obtain ⟨d0, d1, d2, d3, hk, hW2⟩ := cl7 _ hW1
      obtain ⟨c0, c1, c2, c3⟩ := hk.cells
      obtain ⟨z0, z1, z2, z3⟩ := hk.fros
      subst hV
      refine wpOp_plain ho rfl ?_
      go_simp
      simpa [updB, upd, f5.out] using hW2
  · have hW1 : PW (dx 5) (dx 7)  wx := hW
    rw [hd 5 (by decide), hd 7 (by decide)] at hW1
    have hQ := h _ hW1
    rw [hsz]
    subst hV hT
    refine cast (congrArg (fun Tx => Q .normal ⟨Tx, ds⟩ wx) ?_) hQ
    kernel_rfl
noncomputable def tMO : Array Oper := (Tryz.f60.body.bind fun c => findR c 2).getD #[]
def tM_m : List (List Nat) := [[], [], [], [], [], [], [], [], [7]]
set_option maxHeartbeats 16000000 in
theorem tM (PW : Bool → World → Prop) (ja jz z : Nat) (w : World)  (cl7 : ∀ (w : World), PW false w → ∃ (d0 d1 d2 d3 : Value), Bk 24 w ja #[d0, d1, d2, d3] ∧ PW true  ((((w.setCell ⟨ja, 0, none⟩ (.int .u64 (lb z 0 : Nat))).setCell ⟨ja, 1, none⟩ (.int .u64 (lb z 1 : Nat))).setCell ⟨ja, 2, none⟩ (.int .u64 (lb z 2 : Nat))).setCell ⟨ja, 3, none⟩ (.int .u64 (lb z 3 : Nat)))) (lz : ∀ (b7 : Bool) (w : World), PW b7  w → w.cell? ⟨jz, 0, none⟩ = some (.int .u64 (lb z 0 : Nat)) ∧ w.cell? ⟨jz, 1, none⟩ = some (.int .u64 (lb z 1 : Nat)) ∧ w.cell? ⟨jz, 2, none⟩ = some (.int .u64 (lb z 2 : Nat)) ∧ w.cell? ⟨jz, 3, none⟩ = some (.int .u64 (lb z 3 : Nat))) {t0 t1 t3 t6 t7 t8 t9 t10 t11 t12 t13 t14 t15 t16 t17 : Value} (w0 : PW false  w.drew) {ds : List Deferred} {Q : Exit → Act → World → Prop}
    (h : ∀ (w1 : World), PW true  w1 → Q .normal { tmps := #[t0, t1, .pointer (some ⟨ja, 0, none⟩), .bool false, .pointer (some ⟨jz, 0, none⟩), .int .i64 60, t6, t7, t8, t9, t10, .agg #[.int .u64 (lb z 0 : Nat), .int .u64 (lb z 1 : Nat), .int .u64 (lb z 2 : Nat), .int .u64 (lb z 3 : Nat)], .int .i64 60, .bool false, .bool false, undef, undef, .bool false], defers := ds } w1) :
    (Code.region 2 tMO true).wp Tryz.prog Q { tmps := #[t0, t1, .pointer (some ⟨ja, 0, none⟩), t3, .pointer (some ⟨jz, 0, none⟩), .int .i64 60, t6, t7, t8, t9, t10, t11, t12, t13, t14, t15, t16, t17], defers := ds } w := by
  have hsz : tMO.size = 9 := by kernel_rfl
  generalize hT : List.toArray _ = T0
  have hs : T0.size = 18 := by subst hT; rfl
  have g2 : T0.getD 2 undef = .pointer (some ⟨ja, 0, none⟩) := by subst hT; rfl
  have g4 : T0.getD 4 undef = .pointer (some ⟨jz, 0, none⟩) := by subst hT; rfl
  have g5 : T0.getD 5 undef = .int .i64 60 := by subst hT; rfl
  obtain ⟨W, hV⟩ : ∃ W : List ((Nat × (Value → Value)) ⊕ Value), W = [.inr (.agg #[.int .u64 (lb z 0 : Nat), .int .u64 (lb z 1 : Nat), .int .u64 (lb z 2 : Nat), .int .u64 (lb z 3 : Nat)]), .inr (.int .i64 60), .inr (.bool false), .inr (.bool false), .inr undef, .inr undef, .inr (.bool false), .inr undef, .inr (.bool false)] := ⟨_, rfl⟩
  refine wp_plan (by kernel_rfl) T0 ds [7] tM_m (mkV W) (fun dx yx wx => PW (dx 7)  wx) w (by rw [hs]; kernel_rfl) (by kernel_rfl) (by kernel_rfl) (by rw [hsz]; decide) (fun cx hc ix hne ha yx vx => mkV_fix (by rw [hV]; kernel_rfl) hne ha yx vx) (?key) (fun cx hc ox ho dx yx Tx wx hd hdb hda hK hW => ?_) ⟨fun k => undef, w0⟩ (fun dx yx wx hd hW => ?_)
  case key =>
    rw [hsz]
    refine all_step (all_step (all_step (all_step (all_step (all_step (all_step (all_step (all_step all_zero ?_) ?_) ?_) ?_) ?_) ?_) ?_) ?_) ?_
    all_goals
      intro ox ho hic dx yx Tx wx hdb hK hW
      replace hdb := Lib.hid hdb
    · obtain ⟨ps, af, rfl⟩ := core (some 11) (.load 24 (.tmp 4)) 24 none ho (by kernel_rfl)
      have e4 : Tx.getD 4 undef = .pointer (some ⟨jz, 0, none⟩) := hK.of (by kernel_rfl) g4
      obtain ⟨hlz0, hlz1, hlz2, hlz3⟩ := lz _ _ hW
      exact wpOp_plain ho rfl (by subst hV; go_simp; try rfl)
    · exact pl0 12 5 27 ho hK (by kernel_rfl) (by kernel_rfl) g5 (by subst hV; rfl) fun ps af e => k_mv e
    · obtain ⟨ps, af, rfl⟩ := core (some 13) (.binOp BinOp.eql 27 (.tmp 12) (.const (Value.int IntKind.i64 0)) 27) 4 none ho (by kernel_rfl)
      have e12 : Tx.getD 12 undef = .int .i64 60 := hK.is 1 ho (by kernel_rfl) (by subst hV; rfl)
      exact wpOp_plain ho rfl (by subst hV; go_simp; try rfl)
    · exact pl1 14 13 2 4 ho hK (by kernel_rfl) (by kernel_rfl) (by subst hV; rfl) (by subst hV; rfl) fun ps af e => k_mv e
    · exact psk 3 14 false true ho hK (by kernel_rfl) (by kernel_rfl) (by kernel_rfl) (by subst hV; rfl) rfl (by subst hV; rfl)
    · exact psk 3 14 false true ho hK (by kernel_rfl) (by kernel_rfl) (by kernel_rfl) (by subst hV; rfl) rfl (by subst hV; rfl)
    · obtain ⟨ps, af, rfl⟩ := core (some 17) (.pick (.tmp 14) (.tmp 16) (.const (Value.bool false))) 4 none ho (by kernel_rfl)
      have e14 : Tx.getD 14 undef = .bool false := hK.is 3 ho (by kernel_rfl) (by subst hV; rfl)
      have e16 : Tx.getD 16 undef = undef := hK.is 5 ho (by kernel_rfl) (by subst hV; rfl)
      exact wpOp_plain ho rfl (by subst hV; go_simp; try rfl)
    · exact absurd (by decide) hic
    · exact pl1 3 17 6 4 ho hK (by kernel_rfl) (by kernel_rfl) (by subst hV; rfl) (by subst hV; rfl) fun ps af e => k_as e
  · obtain rfl : cx = 7 := by simpa using hc
    · obtain ⟨ps, af, rfl⟩ := core none (.store 24 (.tmp 2) (.tmp 11)) 0 none ho (by kernel_rfl)
      have e2 : Tx.getD 2 undef = .pointer (some ⟨ja, 0, none⟩) := hK.of (by kernel_rfl) g2
      have e11 : Tx.getD 11 undef = .agg #[.int .u64 (lb z 0 : Nat), .int .u64 (lb z 1 : Nat), .int .u64 (lb z 2 : Nat), .int .u64 (lb z 3 : Nat)] := hK.is 0 ho (by kernel_rfl) (by subst hV; rfl)
      have hW1 : PW (dx 7)  wx := hW
      clear hdb hda
      rw [hd] at hW1
      clear hd hW hc
      obtain ⟨d0, d1, d2, d3, hk, hW2⟩ := cl7 _ hW1
      obtain ⟨c0, c1, c2, c3⟩ := hk.cells
      obtain ⟨z0, z1, z2, z3⟩ := hk.fros
      subst hV
      refine wpOp_plain ho rfl ?_
      go_simp
      simpa [updB, upd] using hW2
  · have hW1 : PW (dx 7)  wx := hW
    rw [hd 7 (by decide)] at hW1
    have hQ := h _ hW1
    rw [hsz]
    subst hV hT
    refine cast (congrArg (fun Tx => Q .normal ⟨Tx, ds⟩ wx) ?_) hQ
    kernel_rfl
noncomputable def tGO : Array Oper := (Tryz.f62.body.bind fun c => findR c 2).getD #[]
def tG_m : List (List Nat) := [[], [], [], [], [2], [2, 4], [2, 4], [2, 4], [], [2, 4, 8], [2, 4, 8, 9]]
set_option maxHeartbeats 16000000 in
theorem tG (PW : Bool → Bool → Bool → Bool → Value → World → Prop) (gr gb gq r b rb x y u v : Nat) (i k : Bool) (w : World)  (cl2 : ∀ (b8 : Bool) (y8 : Value) (w : World), PW false false b8 false y8 w → Calls Tryz.prog 113 #[.agg #[.int .u64 (lb r 0 : Nat), .int .u64 (lb r 1 : Nat), .int .u64 (lb r 2 : Nat), .int .u64 (lb r 3 : Nat)], .agg #[.int .u64 (lb b 0 : Nat), .int .u64 (lb b 1 : Nat), .int .u64 (lb b 2 : Nat), .int .u64 (lb b 3 : Nat)]] w fun e w1 => e = .returned (.agg #[.int .u64 (lb rb 0 : Nat), .int .u64 (lb rb 1 : Nat), .int .u64 (lb rb 2 : Nat), .int .u64 (lb rb 3 : Nat)]) ∧ PW true false b8 false y8 w1) (cl4 : ∀ (b8 : Bool) (y8 : Value) (w : World), PW true false b8 false y8 w → Calls Tryz.prog 93 #[.agg #[.int .u64 (lb rb 0 : Nat), .int .u64 (lb rb 1 : Nat), .int .u64 (lb rb 2 : Nat), .int .u64 (lb rb 3 : Nat)], .agg #[.int .u64 (lb x 0 : Nat), .int .u64 (lb x 1 : Nat), .int .u64 (lb x 2 : Nat), .int .u64 (lb x 3 : Nat), .int .u64 (lb y 0 : Nat), .int .u64 (lb y 1 : Nat), .int .u64 (lb y 2 : Nat), .int .u64 (lb y 3 : Nat), .bool i]] w fun e w1 => e = .returned (.tuple #[.agg #[.int .u64 (lb u 0 : Nat), .int .u64 (lb u 1 : Nat), .int .u64 (lb u 2 : Nat), .int .u64 (lb u 3 : Nat), .int .u64 (lb v 0 : Nat), .int .u64 (lb v 1 : Nat), .int .u64 (lb v 2 : Nat), .int .u64 (lb v 3 : Nat), .bool k], .int .i64 0]) ∧ PW true true b8 false y8 w1) (cl8 : ∀ (b2 b4 : Bool) (y8 : Value) (w : World), PW b2 b4 false false y8 w → PW b2 b4 true false (.pointer (some ⟨w.heap.size, 0, none⟩)) (w.alloc (.cells #[.int .u64 0, .int .u64 0, .int .u64 0, .int .u64 0, .int .u64 0, .int .u64 0, .int .u64 0, .int .u64 0, .bool false] 26))) (cl9 : ∀ (y8 : Value) (w : World), PW true true true false y8 w → ∃ (g : Nat) (d0 d1 d2 d3 d4 d5 d6 d7 d8 : Value), y8 = .pointer (some ⟨g, 0, none⟩) ∧ Bk 26 w g #[d0, d1, d2, d3, d4, d5, d6, d7, d8] ∧ PW true true true true y8 (((((((((w.setCell ⟨g, 0, none⟩ (.int .u64 (lb u 0 : Nat))).setCell ⟨g, 1, none⟩ (.int .u64 (lb u 1 : Nat))).setCell ⟨g, 2, none⟩ (.int .u64 (lb u 2 : Nat))).setCell ⟨g, 3, none⟩ (.int .u64 (lb u 3 : Nat))).setCell ⟨g, 4, none⟩ (.int .u64 (lb v 0 : Nat))).setCell ⟨g, 5, none⟩ (.int .u64 (lb v 1 : Nat))).setCell ⟨g, 6, none⟩ (.int .u64 (lb v 2 : Nat))).setCell ⟨g, 7, none⟩ (.int .u64 (lb v 3 : Nat))).setCell ⟨g, 8, none⟩ (.bool k))) (lr : ∀ (b2 b4 b8 b9 : Bool) (y8 : Value) (w : World), PW b2 b4 b8 b9 y8 w → w.cell? ⟨gr, 0, none⟩ = some (.int .u64 (lb r 0 : Nat)) ∧ w.cell? ⟨gr, 1, none⟩ = some (.int .u64 (lb r 1 : Nat)) ∧ w.cell? ⟨gr, 2, none⟩ = some (.int .u64 (lb r 2 : Nat)) ∧ w.cell? ⟨gr, 3, none⟩ = some (.int .u64 (lb r 3 : Nat))) (lb0 : ∀ (b2 b4 b8 b9 : Bool) (y8 : Value) (w : World), PW b2 b4 b8 b9 y8 w → w.cell? ⟨gb, 0, none⟩ = some (.int .u64 (lb b 0 : Nat)) ∧ w.cell? ⟨gb, 1, none⟩ = some (.int .u64 (lb b 1 : Nat)) ∧ w.cell? ⟨gb, 2, none⟩ = some (.int .u64 (lb b 2 : Nat)) ∧ w.cell? ⟨gb, 3, none⟩ = some (.int .u64 (lb b 3 : Nat))) (lq : ∀ (b2 b4 b8 b9 : Bool) (y8 : Value) (w : World), PW b2 b4 b8 b9 y8 w → w.cell? ⟨gq, 0, none⟩ = some (.int .u64 (lb x 0 : Nat)) ∧ w.cell? ⟨gq, 1, none⟩ = some (.int .u64 (lb x 1 : Nat)) ∧ w.cell? ⟨gq, 2, none⟩ = some (.int .u64 (lb x 2 : Nat)) ∧ w.cell? ⟨gq, 3, none⟩ = some (.int .u64 (lb x 3 : Nat)) ∧ w.cell? ⟨gq, 4, none⟩ = some (.int .u64 (lb y 0 : Nat)) ∧ w.cell? ⟨gq, 5, none⟩ = some (.int .u64 (lb y 1 : Nat)) ∧ w.cell? ⟨gq, 6, none⟩ = some (.int .u64 (lb y 2 : Nat)) ∧ w.cell? ⟨gq, 7, none⟩ = some (.int .u64 (lb y 3 : Nat)) ∧ w.cell? ⟨gq, 8, none⟩ = some (.bool i)) {t0 t1 t2 t3 t5 t7 t8 t10 t11 t12 t13 t14 t15 t16 t17 t18 t19 t20 t21 t22 t23 t24 t25 t26 t27 t28 t29 t30 t31 t32 t33 t34 t35 t36 t37 t38 t39 t40 t41 t42 : Value} (w0 : PW false false false false t10 w.drew) {ds : List Deferred} {Q : Exit → Act → World → Prop}
    (h : ∀ (y8 : Value) (w1 : World), PW true true true true y8 w1 → Q .normal { tmps := #[t0, t1, t2, t3, .pointer (some ⟨gq, 0, none⟩), t5, .pointer (some ⟨gr, 0, none⟩), t7, t8, .pointer (some ⟨gb, 0, none⟩), y8, .int .i64 0, t12, t13, t14, t15, .tuple #[.agg #[.int .u64 (lb u 0 : Nat), .int .u64 (lb u 1 : Nat), .int .u64 (lb u 2 : Nat), .int .u64 (lb u 3 : Nat), .int .u64 (lb v 0 : Nat), .int .u64 (lb v 1 : Nat), .int .u64 (lb v 2 : Nat), .int .u64 (lb v 3 : Nat), .bool k], .int .i64 0], .agg #[.int .u64 (lb r 0 : Nat), .int .u64 (lb r 1 : Nat), .int .u64 (lb r 2 : Nat), .int .u64 (lb r 3 : Nat)], .agg #[.int .u64 (lb b 0 : Nat), .int .u64 (lb b 1 : Nat), .int .u64 (lb b 2 : Nat), .int .u64 (lb b 3 : Nat)], .agg #[.int .u64 (lb rb 0 : Nat), .int .u64 (lb rb 1 : Nat), .int .u64 (lb rb 2 : Nat), .int .u64 (lb rb 3 : Nat)], .agg #[.int .u64 (lb x 0 : Nat), .int .u64 (lb x 1 : Nat), .int .u64 (lb x 2 : Nat), .int .u64 (lb x 3 : Nat), .int .u64 (lb y 0 : Nat), .int .u64 (lb y 1 : Nat), .int .u64 (lb y 2 : Nat), .int .u64 (lb y 3 : Nat), .bool i], .tuple #[.agg #[.int .u64 (lb u 0 : Nat), .int .u64 (lb u 1 : Nat), .int .u64 (lb u 2 : Nat), .int .u64 (lb u 3 : Nat), .int .u64 (lb v 0 : Nat), .int .u64 (lb v 1 : Nat), .int .u64 (lb v 2 : Nat), .int .u64 (lb v 3 : Nat), .bool k], .int .i64 0], .agg #[.int .u64 (lb u 0 : Nat), .int .u64 (lb u 1 : Nat), .int .u64 (lb u 2 : Nat), .int .u64 (lb u 3 : Nat), .int .u64 (lb v 0 : Nat), .int .u64 (lb v 1 : Nat), .int .u64 (lb v 2 : Nat), .int .u64 (lb v 3 : Nat), .bool k], .int .i64 0, t24, t25, t26, t27, t28, t29, t30, t31, t32, t33, t34, t35, t36, t37, t38, t39, t40, t41, t42], defers := ds } w1) :
    (Code.region 2 tGO true).wp Tryz.prog Q { tmps := #[t0, t1, t2, t3, .pointer (some ⟨gq, 0, none⟩), t5, .pointer (some ⟨gr, 0, none⟩), t7, t8, .pointer (some ⟨gb, 0, none⟩), t10, t11, t12, t13, t14, t15, t16, t17, t18, t19, t20, t21, t22, t23, t24, t25, t26, t27, t28, t29, t30, t31, t32, t33, t34, t35, t36, t37, t38, t39, t40, t41, t42], defers := ds } w := by
  have hsz : tGO.size = 11 := by kernel_rfl
  generalize hT : List.toArray _ = T0
  have hs : T0.size = 43 := by subst hT; rfl
  have g4 : T0.getD 4 undef = .pointer (some ⟨gq, 0, none⟩) := by subst hT; rfl
  have g6 : T0.getD 6 undef = .pointer (some ⟨gr, 0, none⟩) := by subst hT; rfl
  have g9 : T0.getD 9 undef = .pointer (some ⟨gb, 0, none⟩) := by subst hT; rfl
  obtain ⟨W, hV⟩ : ∃ W : List ((Nat × (Value → Value)) ⊕ Value), W = [.inr (.agg #[.int .u64 (lb r 0 : Nat), .int .u64 (lb r 1 : Nat), .int .u64 (lb r 2 : Nat), .int .u64 (lb r 3 : Nat)]), .inr (.agg #[.int .u64 (lb b 0 : Nat), .int .u64 (lb b 1 : Nat), .int .u64 (lb b 2 : Nat), .int .u64 (lb b 3 : Nat)]), .inr (.agg #[.int .u64 (lb rb 0 : Nat), .int .u64 (lb rb 1 : Nat), .int .u64 (lb rb 2 : Nat), .int .u64 (lb rb 3 : Nat)]), .inr (.agg #[.int .u64 (lb x 0 : Nat), .int .u64 (lb x 1 : Nat), .int .u64 (lb x 2 : Nat), .int .u64 (lb x 3 : Nat), .int .u64 (lb y 0 : Nat), .int .u64 (lb y 1 : Nat), .int .u64 (lb y 2 : Nat), .int .u64 (lb y 3 : Nat), .bool i]), .inr (.tuple #[.agg #[.int .u64 (lb u 0 : Nat), .int .u64 (lb u 1 : Nat), .int .u64 (lb u 2 : Nat), .int .u64 (lb u 3 : Nat), .int .u64 (lb v 0 : Nat), .int .u64 (lb v 1 : Nat), .int .u64 (lb v 2 : Nat), .int .u64 (lb v 3 : Nat), .bool k], .int .i64 0]), .inr (.tuple #[.agg #[.int .u64 (lb u 0 : Nat), .int .u64 (lb u 1 : Nat), .int .u64 (lb u 2 : Nat), .int .u64 (lb u 3 : Nat), .int .u64 (lb v 0 : Nat), .int .u64 (lb v 1 : Nat), .int .u64 (lb v 2 : Nat), .int .u64 (lb v 3 : Nat), .bool k], .int .i64 0]), .inr (.agg #[.int .u64 (lb u 0 : Nat), .int .u64 (lb u 1 : Nat), .int .u64 (lb u 2 : Nat), .int .u64 (lb u 3 : Nat), .int .u64 (lb v 0 : Nat), .int .u64 (lb v 1 : Nat), .int .u64 (lb v 2 : Nat), .int .u64 (lb v 3 : Nat), .bool k]), .inr (.int .i64 0), .inl (8, id), .inr undef, .inr (.int .i64 0)] := ⟨_, rfl⟩
  refine wp_plan (by kernel_rfl) T0 ds [2, 4, 8, 9] tG_m (mkV W) (fun dx yx wx => PW (dx 2) (dx 4) (dx 8) (dx 9) (yx 8) wx) w (by rw [hs]; kernel_rfl) (by kernel_rfl) (by kernel_rfl) (by rw [hsz]; decide) (fun cx hc ix hne ha yx vx => mkV_fix (by rw [hV]; kernel_rfl) hne ha yx vx) (?key) (fun cx hc ox ho dx yx Tx wx hd hdb hda hK hW => ?_) ⟨fun k => if k = 8 then t10 else undef, w0⟩ (fun dx yx wx hd hW => ?_)
  case key =>
    rw [hsz]
    refine all_step (all_step (all_step (all_step (all_step (all_step (all_step (all_step (all_step (all_step (all_step all_zero ?_) ?_) ?_) ?_) ?_) ?_) ?_) ?_) ?_) ?_) ?_
    all_goals
      intro ox ho hic dx yx Tx wx hdb hK hW
      replace hdb := Lib.hid hdb
    · obtain ⟨ps, af, rfl⟩ := core (some 17) (.load 24 (.tmp 6)) 24 none ho (by kernel_rfl)
      have e6 : Tx.getD 6 undef = .pointer (some ⟨gr, 0, none⟩) := hK.of (by kernel_rfl) g6
      obtain ⟨hlr0, hlr1, hlr2, hlr3⟩ := lr _ _ _ _ _ _ hW
      exact wpOp_plain ho rfl (by subst hV; go_simp; try rfl)
    · obtain ⟨ps, af, rfl⟩ := core (some 18) (.load 24 (.tmp 9)) 24 none ho (by kernel_rfl)
      have e9 : Tx.getD 9 undef = .pointer (some ⟨gb, 0, none⟩) := hK.of (by kernel_rfl) g9
      obtain ⟨hlb00, hlb01, hlb02, hlb03⟩ := lb0 _ _ _ _ _ _ hW
      exact wpOp_plain ho rfl (by subst hV; go_simp; try rfl)
    · exact absurd (by decide) hic
    · obtain ⟨ps, af, rfl⟩ := core (some 20) (.load 26 (.tmp 4)) 26 none ho (by kernel_rfl)
      have e4 : Tx.getD 4 undef = .pointer (some ⟨gq, 0, none⟩) := hK.of (by kernel_rfl) g4
      obtain ⟨hlq0, hlq1, hlq2, hlq3, hlq4, hlq5, hlq6, hlq7, hlq8⟩ := lq _ _ _ _ _ _ hW
      exact wpOp_plain ho rfl (by subst hV; go_simp; try rfl)
    · exact absurd (by decide) hic
    · exact pl1 16 21 4 28 ho hK (by kernel_rfl) (by kernel_rfl) (by subst hV; rfl) (by subst hV; rfl) fun ps af e => k_mv e
    · obtain ⟨ps, af, rfl⟩ := core (some 22) (.extract (.tmp 16) 0) 26 none ho (by kernel_rfl)
      have e16 : Tx.getD 16 undef = .tuple #[.agg #[.int .u64 (lb u 0 : Nat), .int .u64 (lb u 1 : Nat), .int .u64 (lb u 2 : Nat), .int .u64 (lb u 3 : Nat), .int .u64 (lb v 0 : Nat), .int .u64 (lb v 1 : Nat), .int .u64 (lb v 2 : Nat), .int .u64 (lb v 3 : Nat), .bool k], .int .i64 0] := hK.is 5 ho (by kernel_rfl) (by subst hV; rfl)
      exact wpOp_plain ho rfl (by subst hV; go_simp; try rfl)
    · obtain ⟨ps, af, rfl⟩ := core (some 23) (.extract (.tmp 16) 1) 27 none ho (by kernel_rfl)
      have e16 : Tx.getD 16 undef = .tuple #[.agg #[.int .u64 (lb u 0 : Nat), .int .u64 (lb u 1 : Nat), .int .u64 (lb u 2 : Nat), .int .u64 (lb u 3 : Nat), .int .u64 (lb v 0 : Nat), .int .u64 (lb v 1 : Nat), .int .u64 (lb v 2 : Nat), .int .u64 (lb v 3 : Nat), .bool k], .int .i64 0] := hK.is 5 ho (by kernel_rfl) (by subst hV; rfl)
      exact wpOp_plain ho rfl (by subst hV; go_simp; try rfl)
    · exact absurd (by decide) hic
    · exact absurd (by decide) hic
    · exact pl1 11 23 7 27 ho hK (by kernel_rfl) (by kernel_rfl) (by subst hV; rfl) (by subst hV; rfl) fun ps af e => k_as e
  · have hcase : cx = 2 ∨ cx = 4 ∨ cx = 8 ∨ cx = 9 := by simpa using hc
    rcases hcase with rfl | rfl | rfl | rfl
    · obtain ⟨ps, af, rfl⟩ := core (some 19) (.call { callee := .value (.func 113), args := #[.tmp 17, .tmp 18], argTypes := #[24, 24] }) 24 none ho (by kernel_rfl)
      have e17 : Tx.getD 17 undef = .agg #[.int .u64 (lb r 0 : Nat), .int .u64 (lb r 1 : Nat), .int .u64 (lb r 2 : Nat), .int .u64 (lb r 3 : Nat)] := hK.is 0 ho (by kernel_rfl) (by subst hV; rfl)
      have e18 : Tx.getD 18 undef = .agg #[.int .u64 (lb b 0 : Nat), .int .u64 (lb b 1 : Nat), .int .u64 (lb b 2 : Nat), .int .u64 (lb b 3 : Nat)] := hK.is 1 ho (by kernel_rfl) (by subst hV; rfl)
      have hW1 : PW (dx 2) (dx 4) (dx 8) (dx 9) (yx 8) wx := hW
      have f4 := hda 4 (by decide) (by kernel_rfl)
      have f9 := hda 9 (by decide) (by kernel_rfl)
      clear hdb hda
      rw [hd, f4, f9] at hW1
      replace f4 := Lib.hid f4
      replace f9 := Lib.hid f9
      clear hd hW hc
      refine wpOp_plain ho rfl ?_
      go_simp
      go_at_call 113
      refine (cl2 _ _ _ hW1).mono ?_
      rintro ex w2 ⟨rfl, hW2⟩
      subst hV
      first | refine ⟨undef, rfl, ?_⟩ | refine ⟨⟨undef, rfl⟩, ?_⟩
      simpa [updB, upd, f4.out, f9.out] using hW2
    · obtain ⟨ps, af, rfl⟩ := core (some 21) (.call { callee := .value (.func 93), args := #[.tmp 19, .tmp 20], argTypes := #[24, 26] }) 28 none ho (by kernel_rfl)
      have e19 : Tx.getD 19 undef = .agg #[.int .u64 (lb rb 0 : Nat), .int .u64 (lb rb 1 : Nat), .int .u64 (lb rb 2 : Nat), .int .u64 (lb rb 3 : Nat)] := hK.is 2 ho (by kernel_rfl) (by subst hV; rfl)
      have e20 : Tx.getD 20 undef = .agg #[.int .u64 (lb x 0 : Nat), .int .u64 (lb x 1 : Nat), .int .u64 (lb x 2 : Nat), .int .u64 (lb x 3 : Nat), .int .u64 (lb y 0 : Nat), .int .u64 (lb y 1 : Nat), .int .u64 (lb y 2 : Nat), .int .u64 (lb y 3 : Nat), .bool i] := hK.is 3 ho (by kernel_rfl) (by subst hV; rfl)
      have hW1 : PW (dx 2) (dx 4) (dx 8) (dx 9) (yx 8) wx := hW
      have f2 := hdb 2 (by decide) (by kernel_rfl)
      have f9 := hda 9 (by decide) (by kernel_rfl)
      clear hdb hda
      rw [hd, f2, f9] at hW1
      replace f2 := Lib.hid f2
      replace f9 := Lib.hid f9
      clear hd hW hc
      refine wpOp_plain ho rfl ?_
      go_simp
      go_at_call 93
      refine (cl4 _ _ _ hW1).mono ?_
      rintro ex w2 ⟨rfl, hW2⟩
      subst hV
      first | refine ⟨undef, rfl, ?_⟩ | refine ⟨⟨undef, rfl⟩, ?_⟩
      simpa [updB, upd, f2.out, f9.out] using hW2
    · obtain ⟨ps, af, rfl⟩ := core (some 10) (.alloc 26) 0 none ho (by kernel_rfl)
      have hW1 : PW (dx 2) (dx 4) (dx 8) (dx 9) (yx 8) wx := hW
      have f9 := hda 9 (by decide) (by kernel_rfl)
      clear hdb hda
      rw [hd, f9] at hW1
      replace f9 := Lib.hid f9
      clear hd hW hc
      have hW2 := cl8 _ _ _ _ hW1
      subst hV
      refine wpOp_plain ho rfl ?_
      go_simp
      refine ⟨_, rfl, ?_⟩
      simpa [updB, upd, f9.out] using hW2
    · obtain ⟨ps, af, rfl⟩ := core none (.store 26 (.tmp 10) (.tmp 22)) 0 none ho (by kernel_rfl)
      have e10 : Tx.getD 10 undef = yx 8 := hK.is 8 ho (by kernel_rfl) (by subst hV; rfl)
      have e22 : Tx.getD 22 undef = .agg #[.int .u64 (lb u 0 : Nat), .int .u64 (lb u 1 : Nat), .int .u64 (lb u 2 : Nat), .int .u64 (lb u 3 : Nat), .int .u64 (lb v 0 : Nat), .int .u64 (lb v 1 : Nat), .int .u64 (lb v 2 : Nat), .int .u64 (lb v 3 : Nat), .bool k] := hK.is 6 ho (by kernel_rfl) (by subst hV; rfl)
      have hW1 : PW (dx 2) (dx 4) (dx 8) (dx 9) (yx 8) wx := hW
      have f2 := hdb 2 (by decide) (by kernel_rfl)
      have f4 := hdb 4 (by decide) (by kernel_rfl)
      have f8 := hdb 8 (by decide) (by kernel_rfl)
      clear hdb hda
      rw [hd, f2, f4, f8] at hW1
      replace f2 := Lib.hid f2
      replace f4 := Lib.hid f4
      replace f8 := Lib.hid f8
      clear hd hW hc
      obtain ⟨g, d0, d1, d2, d3, d4, d5, d6, d7, d8, e6, hk, hW2⟩ := cl9 _ _ hW1
      rw [e6] at e10
      obtain ⟨⟨c0, c1, c2, c3⟩, ⟨c4, c5, c6, c7⟩, c8⟩ := hk.cells9
      obtain ⟨⟨z0, z1, z2, z3⟩, ⟨z4, z5, z6, z7⟩, z8⟩ := hk.fros9
      subst hV
      refine wpOp_plain ho rfl ?_
      go_simp
      simpa [updB, upd, f2.out, f4.out, f8.out] using hW2
  · have hW1 : PW (dx 2) (dx 4) (dx 8) (dx 9) (yx 8) wx := hW
    rw [hd 2 (by decide), hd 4 (by decide), hd 8 (by decide), hd 9 (by decide)] at hW1
    have hQ := h _ _ hW1
    rw [hsz]
    subst hV hT
    refine cast (congrArg (fun Tx => Q .normal ⟨Tx, ds⟩ wx) ?_) hQ
    kernel_rfl
noncomputable def tHO : Array Oper := (Tryz.f62.body.bind fun c => findR c 3).getD #[]
def tH_m : List (List Nat) := [[], [], [], [2], [], [2, 3], [2, 3, 5], [2, 3, 5], [2, 3, 5], [], [2, 3, 5, 9], [2, 3, 5, 9, 10]]
set_option maxHeartbeats 16000000 in
theorem tH (PW : Bool → Bool → Bool → Bool → Bool → Value → World → Prop) (ge gb gq e0 b eb x y u v m n : Nat) (i k o : Bool) (w : World)  (cl2 : ∀ (b9 : Bool) (y9 : Value) (w : World), PW false false false b9 false y9 w → Calls Tryz.prog 113 #[.agg #[.int .u64 (lb e0 0 : Nat), .int .u64 (lb e0 1 : Nat), .int .u64 (lb e0 2 : Nat), .int .u64 (lb e0 3 : Nat)], .agg #[.int .u64 (lb b 0 : Nat), .int .u64 (lb b 1 : Nat), .int .u64 (lb b 2 : Nat), .int .u64 (lb b 3 : Nat)]] w fun e w1 => e = .returned (.agg #[.int .u64 (lb eb 0 : Nat), .int .u64 (lb eb 1 : Nat), .int .u64 (lb eb 2 : Nat), .int .u64 (lb eb 3 : Nat)]) ∧ PW true false false b9 false y9 w1) (cl3 : ∀ (b9 : Bool) (y9 : Value) (w : World), PW true false false b9 false y9 w → Calls Tryz.prog 42 #[.agg #[.int .u64 (lb eb 0 : Nat), .int .u64 (lb eb 1 : Nat), .int .u64 (lb eb 2 : Nat), .int .u64 (lb eb 3 : Nat)]] w fun e w1 => e = .returned (.agg #[.int .u64 (lb x 0 : Nat), .int .u64 (lb x 1 : Nat), .int .u64 (lb x 2 : Nat), .int .u64 (lb x 3 : Nat), .int .u64 (lb y 0 : Nat), .int .u64 (lb y 1 : Nat), .int .u64 (lb y 2 : Nat), .int .u64 (lb y 3 : Nat), .bool i]) ∧ PW true true false b9 false y9 w1) (cl5 : ∀ (b9 : Bool) (y9 : Value) (w : World), PW true true false b9 false y9 w → Calls Tryz.prog 114 #[.agg #[.int .u64 (lb x 0 : Nat), .int .u64 (lb x 1 : Nat), .int .u64 (lb x 2 : Nat), .int .u64 (lb x 3 : Nat), .int .u64 (lb y 0 : Nat), .int .u64 (lb y 1 : Nat), .int .u64 (lb y 2 : Nat), .int .u64 (lb y 3 : Nat), .bool i], .agg #[.int .u64 (lb u 0 : Nat), .int .u64 (lb u 1 : Nat), .int .u64 (lb u 2 : Nat), .int .u64 (lb u 3 : Nat), .int .u64 (lb v 0 : Nat), .int .u64 (lb v 1 : Nat), .int .u64 (lb v 2 : Nat), .int .u64 (lb v 3 : Nat), .bool k]] w fun e w1 => e = .returned (.tuple #[.agg #[.int .u64 (lb m 0 : Nat), .int .u64 (lb m 1 : Nat), .int .u64 (lb m 2 : Nat), .int .u64 (lb m 3 : Nat), .int .u64 (lb n 0 : Nat), .int .u64 (lb n 1 : Nat), .int .u64 (lb n 2 : Nat), .int .u64 (lb n 3 : Nat), .bool o], .int .i64 0]) ∧ PW true true true b9 false y9 w1) (cl9 : ∀ (b2 b3 b5 : Bool) (y9 : Value) (w : World), PW b2 b3 b5 false false y9 w → PW b2 b3 b5 true false (.pointer (some ⟨w.heap.size, 0, none⟩)) (w.alloc (.cells #[.int .u64 0, .int .u64 0, .int .u64 0, .int .u64 0, .int .u64 0, .int .u64 0, .int .u64 0, .int .u64 0, .bool false] 26))) (cl10 : ∀ (y9 : Value) (w : World), PW true true true true false y9 w → ∃ (g : Nat) (d0 d1 d2 d3 d4 d5 d6 d7 d8 : Value), y9 = .pointer (some ⟨g, 0, none⟩) ∧ Bk 26 w g #[d0, d1, d2, d3, d4, d5, d6, d7, d8] ∧ PW true true true true true y9 (((((((((w.setCell ⟨g, 0, none⟩ (.int .u64 (lb m 0 : Nat))).setCell ⟨g, 1, none⟩ (.int .u64 (lb m 1 : Nat))).setCell ⟨g, 2, none⟩ (.int .u64 (lb m 2 : Nat))).setCell ⟨g, 3, none⟩ (.int .u64 (lb m 3 : Nat))).setCell ⟨g, 4, none⟩ (.int .u64 (lb n 0 : Nat))).setCell ⟨g, 5, none⟩ (.int .u64 (lb n 1 : Nat))).setCell ⟨g, 6, none⟩ (.int .u64 (lb n 2 : Nat))).setCell ⟨g, 7, none⟩ (.int .u64 (lb n 3 : Nat))).setCell ⟨g, 8, none⟩ (.bool o))) (le : ∀ (b2 b3 b5 b9 b10 : Bool) (y9 : Value) (w : World), PW b2 b3 b5 b9 b10 y9 w → w.cell? ⟨ge, 0, none⟩ = some (.int .u64 (lb e0 0 : Nat)) ∧ w.cell? ⟨ge, 1, none⟩ = some (.int .u64 (lb e0 1 : Nat)) ∧ w.cell? ⟨ge, 2, none⟩ = some (.int .u64 (lb e0 2 : Nat)) ∧ w.cell? ⟨ge, 3, none⟩ = some (.int .u64 (lb e0 3 : Nat))) (lb0 : ∀ (b2 b3 b5 b9 b10 : Bool) (y9 : Value) (w : World), PW b2 b3 b5 b9 b10 y9 w → w.cell? ⟨gb, 0, none⟩ = some (.int .u64 (lb b 0 : Nat)) ∧ w.cell? ⟨gb, 1, none⟩ = some (.int .u64 (lb b 1 : Nat)) ∧ w.cell? ⟨gb, 2, none⟩ = some (.int .u64 (lb b 2 : Nat)) ∧ w.cell? ⟨gb, 3, none⟩ = some (.int .u64 (lb b 3 : Nat))) (lq : ∀ (b2 b3 b5 b9 b10 : Bool) (y9 : Value) (w : World), PW b2 b3 b5 b9 b10 y9 w → w.cell? ⟨gq, 0, none⟩ = some (.int .u64 (lb u 0 : Nat)) ∧ w.cell? ⟨gq, 1, none⟩ = some (.int .u64 (lb u 1 : Nat)) ∧ w.cell? ⟨gq, 2, none⟩ = some (.int .u64 (lb u 2 : Nat)) ∧ w.cell? ⟨gq, 3, none⟩ = some (.int .u64 (lb u 3 : Nat)) ∧ w.cell? ⟨gq, 4, none⟩ = some (.int .u64 (lb v 0 : Nat)) ∧ w.cell? ⟨gq, 5, none⟩ = some (.int .u64 (lb v 1 : Nat)) ∧ w.cell? ⟨gq, 6, none⟩ = some (.int .u64 (lb v 2 : Nat)) ∧ w.cell? ⟨gq, 7, none⟩ = some (.int .u64 (lb v 3 : Nat)) ∧ w.cell? ⟨gq, 8, none⟩ = some (.bool k)) {t0 t1 t2 t3 t4 t6 t7 t8 t11 t12 t13 t14 t15 t16 t17 t18 t19 t20 t21 t22 t23 t24 t25 t26 t27 t28 t29 t30 t31 t32 t33 t34 t35 t36 t37 t38 t39 t40 t41 t42 : Value} (w0 : PW false false false false false t12 w.drew) {ds : List Deferred} {Q : Exit → Act → World → Prop}
    (h : ∀ (y9 : Value) (w1 : World), PW true true true true true y9 w1 → Q .normal { tmps := #[t0, t1, t2, t3, t4, .pointer (some ⟨ge, 0, none⟩), t6, t7, t8, .pointer (some ⟨gb, 0, none⟩), .pointer (some ⟨gq, 0, none⟩), t11, y9, .int .i64 0, t14, t15, t16, t17, t18, t19, t20, t21, t22, t23, .tuple #[.agg #[.int .u64 (lb m 0 : Nat), .int .u64 (lb m 1 : Nat), .int .u64 (lb m 2 : Nat), .int .u64 (lb m 3 : Nat), .int .u64 (lb n 0 : Nat), .int .u64 (lb n 1 : Nat), .int .u64 (lb n 2 : Nat), .int .u64 (lb n 3 : Nat), .bool o], .int .i64 0], .agg #[.int .u64 (lb e0 0 : Nat), .int .u64 (lb e0 1 : Nat), .int .u64 (lb e0 2 : Nat), .int .u64 (lb e0 3 : Nat)], .agg #[.int .u64 (lb b 0 : Nat), .int .u64 (lb b 1 : Nat), .int .u64 (lb b 2 : Nat), .int .u64 (lb b 3 : Nat)], .agg #[.int .u64 (lb eb 0 : Nat), .int .u64 (lb eb 1 : Nat), .int .u64 (lb eb 2 : Nat), .int .u64 (lb eb 3 : Nat)], .agg #[.int .u64 (lb x 0 : Nat), .int .u64 (lb x 1 : Nat), .int .u64 (lb x 2 : Nat), .int .u64 (lb x 3 : Nat), .int .u64 (lb y 0 : Nat), .int .u64 (lb y 1 : Nat), .int .u64 (lb y 2 : Nat), .int .u64 (lb y 3 : Nat), .bool i], .agg #[.int .u64 (lb u 0 : Nat), .int .u64 (lb u 1 : Nat), .int .u64 (lb u 2 : Nat), .int .u64 (lb u 3 : Nat), .int .u64 (lb v 0 : Nat), .int .u64 (lb v 1 : Nat), .int .u64 (lb v 2 : Nat), .int .u64 (lb v 3 : Nat), .bool k], .tuple #[.agg #[.int .u64 (lb m 0 : Nat), .int .u64 (lb m 1 : Nat), .int .u64 (lb m 2 : Nat), .int .u64 (lb m 3 : Nat), .int .u64 (lb n 0 : Nat), .int .u64 (lb n 1 : Nat), .int .u64 (lb n 2 : Nat), .int .u64 (lb n 3 : Nat), .bool o], .int .i64 0], .agg #[.int .u64 (lb m 0 : Nat), .int .u64 (lb m 1 : Nat), .int .u64 (lb m 2 : Nat), .int .u64 (lb m 3 : Nat), .int .u64 (lb n 0 : Nat), .int .u64 (lb n 1 : Nat), .int .u64 (lb n 2 : Nat), .int .u64 (lb n 3 : Nat), .bool o], .int .i64 0, t33, t34, t35, t36, t37, t38, t39, t40, t41, t42], defers := ds } w1) :
    (Code.region 3 tHO true).wp Tryz.prog Q { tmps := #[t0, t1, t2, t3, t4, .pointer (some ⟨ge, 0, none⟩), t6, t7, t8, .pointer (some ⟨gb, 0, none⟩), .pointer (some ⟨gq, 0, none⟩), t11, t12, t13, t14, t15, t16, t17, t18, t19, t20, t21, t22, t23, t24, t25, t26, t27, t28, t29, t30, t31, t32, t33, t34, t35, t36, t37, t38, t39, t40, t41, t42], defers := ds } w := by
  have hsz : tHO.size = 12 := by kernel_rfl
  generalize hT : List.toArray _ = T0
  have hs : T0.size = 43 := by subst hT; rfl
  have g5 : T0.getD 5 undef = .pointer (some ⟨ge, 0, none⟩) := by subst hT; rfl
  have g9 : T0.getD 9 undef = .pointer (some ⟨gb, 0, none⟩) := by subst hT; rfl
  have g10 : T0.getD 10 undef = .pointer (some ⟨gq, 0, none⟩) := by subst hT; rfl
  obtain ⟨W, hV⟩ : ∃ W : List ((Nat × (Value → Value)) ⊕ Value), W = [.inr (.agg #[.int .u64 (lb e0 0 : Nat), .int .u64 (lb e0 1 : Nat), .int .u64 (lb e0 2 : Nat), .int .u64 (lb e0 3 : Nat)]), .inr (.agg #[.int .u64 (lb b 0 : Nat), .int .u64 (lb b 1 : Nat), .int .u64 (lb b 2 : Nat), .int .u64 (lb b 3 : Nat)]), .inr (.agg #[.int .u64 (lb eb 0 : Nat), .int .u64 (lb eb 1 : Nat), .int .u64 (lb eb 2 : Nat), .int .u64 (lb eb 3 : Nat)]), .inr (.agg #[.int .u64 (lb x 0 : Nat), .int .u64 (lb x 1 : Nat), .int .u64 (lb x 2 : Nat), .int .u64 (lb x 3 : Nat), .int .u64 (lb y 0 : Nat), .int .u64 (lb y 1 : Nat), .int .u64 (lb y 2 : Nat), .int .u64 (lb y 3 : Nat), .bool i]), .inr (.agg #[.int .u64 (lb u 0 : Nat), .int .u64 (lb u 1 : Nat), .int .u64 (lb u 2 : Nat), .int .u64 (lb u 3 : Nat), .int .u64 (lb v 0 : Nat), .int .u64 (lb v 1 : Nat), .int .u64 (lb v 2 : Nat), .int .u64 (lb v 3 : Nat), .bool k]), .inr (.tuple #[.agg #[.int .u64 (lb m 0 : Nat), .int .u64 (lb m 1 : Nat), .int .u64 (lb m 2 : Nat), .int .u64 (lb m 3 : Nat), .int .u64 (lb n 0 : Nat), .int .u64 (lb n 1 : Nat), .int .u64 (lb n 2 : Nat), .int .u64 (lb n 3 : Nat), .bool o], .int .i64 0]), .inr (.tuple #[.agg #[.int .u64 (lb m 0 : Nat), .int .u64 (lb m 1 : Nat), .int .u64 (lb m 2 : Nat), .int .u64 (lb m 3 : Nat), .int .u64 (lb n 0 : Nat), .int .u64 (lb n 1 : Nat), .int .u64 (lb n 2 : Nat), .int .u64 (lb n 3 : Nat), .bool o], .int .i64 0]), .inr (.agg #[.int .u64 (lb m 0 : Nat), .int .u64 (lb m 1 : Nat), .int .u64 (lb m 2 : Nat), .int .u64 (lb m 3 : Nat), .int .u64 (lb n 0 : Nat), .int .u64 (lb n 1 : Nat), .int .u64 (lb n 2 : Nat), .int .u64 (lb n 3 : Nat), .bool o]), .inr (.int .i64 0), .inl (9, id), .inr undef, .inr (.int .i64 0)] := ⟨_, rfl⟩
  refine wp_plan (by kernel_rfl) T0 ds [2, 3, 5, 9, 10] tH_m (mkV W) (fun dx yx wx => PW (dx 2) (dx 3) (dx 5) (dx 9) (dx 10) (yx 9) wx) w (by rw [hs]; kernel_rfl) (by kernel_rfl) (by kernel_rfl) (by rw [hsz]; decide) (fun cx hc ix hne ha yx vx => mkV_fix (by rw [hV]; kernel_rfl) hne ha yx vx) (?key) (fun cx hc ox ho dx yx Tx wx hd hdb hda hK hW => ?_) ⟨fun k => if k = 9 then t12 else undef, w0⟩ (fun dx yx wx hd hW => ?_)
  case key =>
    rw [hsz]
    refine all_step (all_step (all_step (all_step (all_step (all_step (all_step (all_step (all_step (all_step (all_step (all_step all_zero ?_) ?_) ?_) ?_) ?_) ?_) ?_) ?_) ?_) ?_) ?_) ?_
    all_goals
      intro ox ho hic dx yx Tx wx hdb hK hW
      replace hdb := Lib.hid hdb
    · obtain ⟨ps, af, rfl⟩ := core (some 25) (.load 24 (.tmp 5)) 24 none ho (by kernel_rfl)
      have e5 : Tx.getD 5 undef = .pointer (some ⟨ge, 0, none⟩) := hK.of (by kernel_rfl) g5
      obtain ⟨hle0, hle1, hle2, hle3⟩ := le _ _ _ _ _ _ _ hW
      exact wpOp_plain ho rfl (by subst hV; go_simp; try rfl)
    · obtain ⟨ps, af, rfl⟩ := core (some 26) (.load 24 (.tmp 9)) 24 none ho (by kernel_rfl)
      have e9 : Tx.getD 9 undef = .pointer (some ⟨gb, 0, none⟩) := hK.of (by kernel_rfl) g9
      obtain ⟨hlb00, hlb01, hlb02, hlb03⟩ := lb0 _ _ _ _ _ _ _ hW
      exact wpOp_plain ho rfl (by subst hV; go_simp; try rfl)
    · exact absurd (by decide) hic
    · exact absurd (by decide) hic
    · obtain ⟨ps, af, rfl⟩ := core (some 29) (.load 26 (.tmp 10)) 26 none ho (by kernel_rfl)
      have e10 : Tx.getD 10 undef = .pointer (some ⟨gq, 0, none⟩) := hK.of (by kernel_rfl) g10
      obtain ⟨hlq0, hlq1, hlq2, hlq3, hlq4, hlq5, hlq6, hlq7, hlq8⟩ := lq _ _ _ _ _ _ _ hW
      exact wpOp_plain ho rfl (by subst hV; go_simp; try rfl)
    · exact absurd (by decide) hic
    · exact pl1 24 30 5 28 ho hK (by kernel_rfl) (by kernel_rfl) (by subst hV; rfl) (by subst hV; rfl) fun ps af e => k_mv e
    · obtain ⟨ps, af, rfl⟩ := core (some 31) (.extract (.tmp 24) 0) 26 none ho (by kernel_rfl)
      have e24 : Tx.getD 24 undef = .tuple #[.agg #[.int .u64 (lb m 0 : Nat), .int .u64 (lb m 1 : Nat), .int .u64 (lb m 2 : Nat), .int .u64 (lb m 3 : Nat), .int .u64 (lb n 0 : Nat), .int .u64 (lb n 1 : Nat), .int .u64 (lb n 2 : Nat), .int .u64 (lb n 3 : Nat), .bool o], .int .i64 0] := hK.is 6 ho (by kernel_rfl) (by subst hV; rfl)
      exact wpOp_plain ho rfl (by subst hV; go_simp; try rfl)
    · obtain ⟨ps, af, rfl⟩ := core (some 32) (.extract (.tmp 24) 1) 27 none ho (by kernel_rfl)
      have e24 : Tx.getD 24 undef = .tuple #[.agg #[.int .u64 (lb m 0 : Nat), .int .u64 (lb m 1 : Nat), .int .u64 (lb m 2 : Nat), .int .u64 (lb m 3 : Nat), .int .u64 (lb n 0 : Nat), .int .u64 (lb n 1 : Nat), .int .u64 (lb n 2 : Nat), .int .u64 (lb n 3 : Nat), .bool o], .int .i64 0] := hK.is 6 ho (by kernel_rfl) (by subst hV; rfl)
      exact wpOp_plain ho rfl (by subst hV; go_simp; try rfl)
    · exact absurd (by decide) hic
    · exact absurd (by decide) hic
    · exact pl1 13 32 8 27 ho hK (by kernel_rfl) (by kernel_rfl) (by subst hV; rfl) (by subst hV; rfl) fun ps af e => k_as e
  · have hcase : cx = 2 ∨ cx = 3 ∨ cx = 5 ∨ cx = 9 ∨ cx = 10 := by simpa using hc
    rcases hcase with rfl | rfl | rfl | rfl | rfl
    · obtain ⟨ps, af, rfl⟩ := core (some 27) (.call { callee := .value (.func 113), args := #[.tmp 25, .tmp 26], argTypes := #[24, 24] }) 24 none ho (by kernel_rfl)
      have e25 : Tx.getD 25 undef = .agg #[.int .u64 (lb e0 0 : Nat), .int .u64 (lb e0 1 : Nat), .int .u64 (lb e0 2 : Nat), .int .u64 (lb e0 3 : Nat)] := hK.is 0 ho (by kernel_rfl) (by subst hV; rfl)
      have e26 : Tx.getD 26 undef = .agg #[.int .u64 (lb b 0 : Nat), .int .u64 (lb b 1 : Nat), .int .u64 (lb b 2 : Nat), .int .u64 (lb b 3 : Nat)] := hK.is 1 ho (by kernel_rfl) (by subst hV; rfl)
      have hW1 : PW (dx 2) (dx 3) (dx 5) (dx 9) (dx 10) (yx 9) wx := hW
      have f3 := hda 3 (by decide) (by kernel_rfl)
      have f5 := hda 5 (by decide) (by kernel_rfl)
      have f10 := hda 10 (by decide) (by kernel_rfl)
      clear hdb hda
      rw [hd, f3, f5, f10] at hW1
      replace f3 := Lib.hid f3
      replace f5 := Lib.hid f5
      replace f10 := Lib.hid f10
      clear hd hW hc
      refine wpOp_plain ho rfl ?_
      go_simp
      go_at_call 113
      refine (cl2 _ _ _ hW1).mono ?_
      rintro ex w2 ⟨rfl, hW2⟩
      subst hV
      first | refine ⟨undef, rfl, ?_⟩ | refine ⟨⟨undef, rfl⟩, ?_⟩
      simpa [updB, upd, f3.out, f5.out, f10.out] using hW2
    · obtain ⟨ps, af, rfl⟩ := core (some 28) (.call { callee := .value (.func 42), args := #[.tmp 27], argTypes := #[24] }) 26 none ho (by kernel_rfl)
      have e27 : Tx.getD 27 undef = .agg #[.int .u64 (lb eb 0 : Nat), .int .u64 (lb eb 1 : Nat), .int .u64 (lb eb 2 : Nat), .int .u64 (lb eb 3 : Nat)] := hK.is 2 ho (by kernel_rfl) (by subst hV; rfl)
      have hW1 : PW (dx 2) (dx 3) (dx 5) (dx 9) (dx 10) (yx 9) wx := hW
      have f2 := hdb 2 (by decide) (by kernel_rfl)
      have f5 := hda 5 (by decide) (by kernel_rfl)
      have f10 := hda 10 (by decide) (by kernel_rfl)
      clear hdb hda
      rw [hd, f2, f5, f10] at hW1
      replace f2 := Lib.hid f2
      replace f5 := Lib.hid f5
      replace f10 := Lib.hid f10
      clear hd hW hc
      refine wpOp_plain ho rfl ?_
      go_simp
      go_at_call 42
      refine (cl3 _ _ _ hW1).mono ?_
      rintro ex w2 ⟨rfl, hW2⟩
      subst hV
      first | refine ⟨undef, rfl, ?_⟩ | refine ⟨⟨undef, rfl⟩, ?_⟩
      simpa [updB, upd, f2.out, f5.out, f10.out] using hW2
    · obtain ⟨ps, af, rfl⟩ := core (some 30) (.call { callee := .value (.func 114), args := #[.tmp 28, .tmp 29], argTypes := #[26, 26] }) 28 none ho (by kernel_rfl)
      have e28 : Tx.getD 28 undef = .agg #[.int .u64 (lb x 0 : Nat), .int .u64 (lb x 1 : Nat), .int .u64 (lb x 2 : Nat), .int .u64 (lb x 3 : Nat), .int .u64 (lb y 0 : Nat), .int .u64 (lb y 1 : Nat), .int .u64 (lb y 2 : Nat), .int .u64 (lb y 3 : Nat), .bool i] := hK.is 3 ho (by kernel_rfl) (by subst hV; rfl)
      have e29 : Tx.getD 29 undef = .agg #[.int .u64 (lb u 0 : Nat), .int .u64 (lb u 1 : Nat), .int .u64 (lb u 2 : Nat), .int .u64 (lb u 3 : Nat), .int .u64 (lb v 0 : Nat), .int .u64 (lb v 1 : Nat), .int .u64 (lb v 2 : Nat), .int .u64 (lb v 3 : Nat), .bool k] := hK.is 4 ho (by kernel_rfl) (by subst hV; rfl)
      have hW1 : PW (dx 2) (dx 3) (dx 5) (dx 9) (dx 10) (yx 9) wx := hW
      have f2 := hdb 2 (by decide) (by kernel_rfl)
      have f3 := hdb 3 (by decide) (by kernel_rfl)
      have f10 := hda 10 (by decide) (by kernel_rfl)
      clear hdb hda
      rw [hd, f2, f3, f10] at hW1
      replace f2 := Lib.hid f2
      replace f3 := Lib.hid f3
      replace f10 := Lib.hid f10
      clear hd hW hc
      refine wpOp_plain ho rfl ?_
      go_simp
      go_at_call 114
      refine (cl5 _ _ _ hW1).mono ?_
      rintro ex w2 ⟨rfl, hW2⟩
      subst hV
      first | refine ⟨undef, rfl, ?_⟩ | refine ⟨⟨undef, rfl⟩, ?_⟩
      simpa [updB, upd, f2.out, f3.out, f10.out] using hW2
    · obtain ⟨ps, af, rfl⟩ := core (some 12) (.alloc 26) 0 none ho (by kernel_rfl)
      have hW1 : PW (dx 2) (dx 3) (dx 5) (dx 9) (dx 10) (yx 9) wx := hW
      have f10 := hda 10 (by decide) (by kernel_rfl)
      clear hdb hda
      rw [hd, f10] at hW1
      replace f10 := Lib.hid f10
      clear hd hW hc
      have hW2 := cl9 _ _ _ _ _ hW1
      subst hV
      refine wpOp_plain ho rfl ?_
      go_simp
      refine ⟨_, rfl, ?_⟩
      simpa [updB, upd, f10.out] using hW2
    · obtain ⟨ps, af, rfl⟩ := core none (.store 26 (.tmp 12) (.tmp 31)) 0 none ho (by kernel_rfl)
      have e12 : Tx.getD 12 undef = yx 9 := hK.is 9 ho (by kernel_rfl) (by subst hV; rfl)
      have e31 : Tx.getD 31 undef = .agg #[.int .u64 (lb m 0 : Nat), .int .u64 (lb m 1 : Nat), .int .u64 (lb m 2 : Nat), .int .u64 (lb m 3 : Nat), .int .u64 (lb n 0 : Nat), .int .u64 (lb n 1 : Nat), .int .u64 (lb n 2 : Nat), .int .u64 (lb n 3 : Nat), .bool o] := hK.is 7 ho (by kernel_rfl) (by subst hV; rfl)
      have hW1 : PW (dx 2) (dx 3) (dx 5) (dx 9) (dx 10) (yx 9) wx := hW
      have f2 := hdb 2 (by decide) (by kernel_rfl)
      have f3 := hdb 3 (by decide) (by kernel_rfl)
      have f5 := hdb 5 (by decide) (by kernel_rfl)
      have f9 := hdb 9 (by decide) (by kernel_rfl)
      clear hdb hda
      rw [hd, f2, f3, f5, f9] at hW1
      replace f2 := Lib.hid f2
      replace f3 := Lib.hid f3
      replace f5 := Lib.hid f5
      replace f9 := Lib.hid f9
      clear hd hW hc
      obtain ⟨g, d0, d1, d2, d3, d4, d5, d6, d7, d8, e6, hk, hW2⟩ := cl10 _ _ hW1
      rw [e6] at e12
      obtain ⟨⟨c0, c1, c2, c3⟩, ⟨c4, c5, c6, c7⟩, c8⟩ := hk.cells9
      obtain ⟨⟨z0, z1, z2, z3⟩, ⟨z4, z5, z6, z7⟩, z8⟩ := hk.fros9
      subst hV
      refine wpOp_plain ho rfl ?_
      go_simp
      simpa [updB, upd, f2.out, f3.out, f5.out, f9.out] using hW2
  · have hW1 : PW (dx 2) (dx 3) (dx 5) (dx 9) (dx 10) (yx 9) wx := hW
    rw [hd 2 (by decide), hd 3 (by decide), hd 5 (by decide), hd 9 (by decide), hd 10 (by decide)] at hW1
    have hQ := h _ _ hW1
    rw [hsz]
    subst hV hT
    refine cast (congrArg (fun Tx => Q .normal ⟨Tx, ds⟩ wx) ?_) hQ
    kernel_rfl
end Go.Proofs.YtpggkfdijmnmiaaGreat.Pl
