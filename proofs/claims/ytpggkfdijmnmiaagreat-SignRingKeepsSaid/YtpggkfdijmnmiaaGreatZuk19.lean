/- What sign's Sign answers of a private key. Condition: texts of at most 2^47 - 4096 bytes. SignFits' walk: what was signed fits. Condition: texts of at most 2^47 - 4096 bytes. SignRingKeeps' walk. Condition: the texts' lengths. -/
import Derived.Test.YtpggkfdijmnmiaaGreatZuk18
import Derived.Test.YtpggkfdijmnmiaaGreatZuk10
import Derived.Test.YtpggkfdijmnmiaaGreatZuk17
set_option linter.unusedVariables false
set_option linter.unusedSimpArgs false
set_option maxRecDepth 100000
namespace Go.Proofs.YtpggkfdijmnmiaaGreat.Pl
open Go.RowKit Go.Sort Limbs
noncomputable def tSO : Array Oper := (Tryz.f14.body.bind fun c => findR c 4).getD #[]
def tS_m : List (List Nat) := [[], [], [], [], [], [4], [4, 5], [4, 5], [4, 5], [4, 5]]
set_option maxHeartbeats 16000000 in
theorem tS (PW : Bool → Bool → Value → World → Prop) (gd ge d e0 : Nat) (sS : ByteArray) (c : Int) (w : World)  (cl4 : ∀ (y4 : Value) (w : World), PW false false y4 w → Calls Tryz.prog 51 #[.agg #[.int .u64 (lb d 0 : Nat), .int .u64 (lb d 1 : Nat), .int .u64 (lb d 2 : Nat), .int .u64 (lb d 3 : Nat)], .agg #[.int .u64 (lb e0 0 : Nat), .int .u64 (lb e0 1 : Nat), .int .u64 (lb e0 2 : Nat), .int .u64 (lb e0 3 : Nat)]] w fun e w1 => ∃ v, e = .returned v ∧ PW true false v w1) (cl5 : ∀ (y4 : Value) (w : World), PW true false y4 w → Calls Tryz.prog 50 #[.agg #[.int .u64 (lb d 0 : Nat), .int .u64 (lb d 1 : Nat), .int .u64 (lb d 2 : Nat), .int .u64 (lb d 3 : Nat)], .agg #[.int .u64 (lb e0 0 : Nat), .int .u64 (lb e0 1 : Nat), .int .u64 (lb e0 2 : Nat), .int .u64 (lb e0 3 : Nat)], y4] w fun e w1 => e = .returned (.tuple #[.string sS, .int .i64 c]) ∧ PW true true y4 w1) (ld : ∀ (b4 b5 : Bool) (y4 : Value) (w : World), PW b4 b5 y4 w → w.cell? ⟨gd, 0, none⟩ = some (.int .u64 (lb d 0 : Nat)) ∧ w.cell? ⟨gd, 1, none⟩ = some (.int .u64 (lb d 1 : Nat)) ∧ w.cell? ⟨gd, 2, none⟩ = some (.int .u64 (lb d 2 : Nat)) ∧ w.cell? ⟨gd, 3, none⟩ = some (.int .u64 (lb d 3 : Nat))) (le : ∀ (b4 b5 : Bool) (y4 : Value) (w : World), PW b4 b5 y4 w → w.cell? ⟨ge, 0, none⟩ = some (.int .u64 (lb e0 0 : Nat)) ∧ w.cell? ⟨ge, 1, none⟩ = some (.int .u64 (lb e0 1 : Nat)) ∧ w.cell? ⟨ge, 2, none⟩ = some (.int .u64 (lb e0 2 : Nat)) ∧ w.cell? ⟨ge, 3, none⟩ = some (.int .u64 (lb e0 3 : Nat))) {t0 t1 t3 t4 t5 t7 t8 t9 t10 t11 t12 t13 t14 t15 t16 t17 t18 t19 : Value} (w0 : PW false false t16 w.drew) {ds : List Deferred} {Q : Exit → Act → World → Prop}
    (h : ∀ (y4 : Value) (w1 : World), PW true true y4 w1 → Q .normal { tmps := #[t0, t1, .pointer (some ⟨gd, 0, none⟩), t3, .string sS, .int .i64 c, .pointer (some ⟨ge, 0, none⟩), t7, t8, t9, t10, t11, .agg #[.int .u64 (lb d 0 : Nat), .int .u64 (lb d 1 : Nat), .int .u64 (lb d 2 : Nat), .int .u64 (lb d 3 : Nat)], .agg #[.int .u64 (lb e0 0 : Nat), .int .u64 (lb e0 1 : Nat), .int .u64 (lb e0 2 : Nat), .int .u64 (lb e0 3 : Nat)], .agg #[.int .u64 (lb d 0 : Nat), .int .u64 (lb d 1 : Nat), .int .u64 (lb d 2 : Nat), .int .u64 (lb d 3 : Nat)], .agg #[.int .u64 (lb e0 0 : Nat), .int .u64 (lb e0 1 : Nat), .int .u64 (lb e0 2 : Nat), .int .u64 (lb e0 3 : Nat)], y4, .tuple #[.string sS, .int .i64 c], .string sS, .int .i64 c], defers := ds } w1) :
    (Code.region 4 tSO true).wp Tryz.prog Q { tmps := #[t0, t1, .pointer (some ⟨gd, 0, none⟩), t3, t4, t5, .pointer (some ⟨ge, 0, none⟩), t7, t8, t9, t10, t11, t12, t13, t14, t15, t16, t17, t18, t19], defers := ds } w := by
  have hsz : tSO.size = 10 := by kernel_rfl
  generalize hT : List.toArray _ = T0
  have hs : T0.size = 20 := by subst hT; rfl
  have g2 : T0.getD 2 undef = .pointer (some ⟨gd, 0, none⟩) := by subst hT; rfl
  have g6 : T0.getD 6 undef = .pointer (some ⟨ge, 0, none⟩) := by subst hT; rfl
  obtain ⟨W, hV⟩ : ∃ W : List ((Nat × (Value → Value)) ⊕ Value), W = [.inr (.agg #[.int .u64 (lb d 0 : Nat), .int .u64 (lb d 1 : Nat), .int .u64 (lb d 2 : Nat), .int .u64 (lb d 3 : Nat)]), .inr (.agg #[.int .u64 (lb e0 0 : Nat), .int .u64 (lb e0 1 : Nat), .int .u64 (lb e0 2 : Nat), .int .u64 (lb e0 3 : Nat)]), .inr (.agg #[.int .u64 (lb d 0 : Nat), .int .u64 (lb d 1 : Nat), .int .u64 (lb d 2 : Nat), .int .u64 (lb d 3 : Nat)]), .inr (.agg #[.int .u64 (lb e0 0 : Nat), .int .u64 (lb e0 1 : Nat), .int .u64 (lb e0 2 : Nat), .int .u64 (lb e0 3 : Nat)]), .inl (4, id), .inr (.tuple #[.string sS, .int .i64 c]), .inr (.string sS), .inr (.int .i64 c), .inr (.string sS), .inr (.int .i64 c)] := ⟨_, rfl⟩
  refine wp_plan (by kernel_rfl) T0 ds [4, 5] tS_m (mkV W) (fun dx yx wx => PW (dx 4) (dx 5) (yx 4) wx) w (by rw [hs]; kernel_rfl) (by kernel_rfl) (by kernel_rfl) (by rw [hsz]; decide) (fun cx hc ix hne ha yx vx => mkV_fix (by rw [hV]; kernel_rfl) hne ha yx vx) (?key) (fun cx hc ox ho dx yx Tx wx hd hdb hda hK hW => ?_) ⟨fun k => if k = 4 then t16 else undef, w0⟩ (fun dx yx wx hd hW => ?_)
  case key =>
    rw [hsz]
    refine all_step (all_step (all_step (all_step (all_step (all_step (all_step (all_step (all_step (all_step all_zero ?_) ?_) ?_) ?_) ?_) ?_) ?_) ?_) ?_) ?_
    all_goals
      intro ox ho hic dx yx Tx wx hdb hK hW
      replace hdb := Lib.hid hdb
    · obtain ⟨ps, af, rfl⟩ := core (some 12) (.load 24 (.tmp 2)) 24 none ho (by kernel_rfl)
      have e2 : Tx.getD 2 undef = .pointer (some ⟨gd, 0, none⟩) := hK.of (by kernel_rfl) g2
      obtain ⟨hld0, hld1, hld2, hld3⟩ := ld _ _ _ _ hW
      exact wpOp_plain ho rfl (by subst hV; go_simp; try rfl)
    · obtain ⟨ps, af, rfl⟩ := core (some 13) (.load 24 (.tmp 6)) 24 none ho (by kernel_rfl)
      have e6 : Tx.getD 6 undef = .pointer (some ⟨ge, 0, none⟩) := hK.of (by kernel_rfl) g6
      obtain ⟨hle0, hle1, hle2, hle3⟩ := le _ _ _ _ hW
      exact wpOp_plain ho rfl (by subst hV; go_simp; try rfl)
    · obtain ⟨ps, af, rfl⟩ := core (some 14) (.load 24 (.tmp 2)) 24 none ho (by kernel_rfl)
      have e2 : Tx.getD 2 undef = .pointer (some ⟨gd, 0, none⟩) := hK.of (by kernel_rfl) g2
      obtain ⟨hld0, hld1, hld2, hld3⟩ := ld _ _ _ _ hW
      exact wpOp_plain ho rfl (by subst hV; go_simp; try rfl)
    · obtain ⟨ps, af, rfl⟩ := core (some 15) (.load 24 (.tmp 6)) 24 none ho (by kernel_rfl)
      have e6 : Tx.getD 6 undef = .pointer (some ⟨ge, 0, none⟩) := hK.of (by kernel_rfl) g6
      obtain ⟨hle0, hle1, hle2, hle3⟩ := le _ _ _ _ hW
      exact wpOp_plain ho rfl (by subst hV; go_simp; try rfl)
    · exact absurd (by decide) hic
    · exact absurd (by decide) hic
    · obtain ⟨ps, af, rfl⟩ := core (some 18) (.extract (.tmp 17) 0) 9 none ho (by kernel_rfl)
      have e17 : Tx.getD 17 undef = .tuple #[.string sS, .int .i64 c] := hK.is 5 ho (by kernel_rfl) (by subst hV; rfl)
      exact wpOp_plain ho rfl (by subst hV; go_simp; try rfl)
    · obtain ⟨ps, af, rfl⟩ := core (some 19) (.extract (.tmp 17) 1) 27 none ho (by kernel_rfl)
      have e17 : Tx.getD 17 undef = .tuple #[.string sS, .int .i64 c] := hK.is 5 ho (by kernel_rfl) (by subst hV; rfl)
      exact wpOp_plain ho rfl (by subst hV; go_simp; try rfl)
    · exact pl1 4 18 6 9 ho hK (by kernel_rfl) (by kernel_rfl) (by subst hV; rfl) (by subst hV; rfl) fun ps af e => k_as e
    · exact pl1 5 19 7 27 ho hK (by kernel_rfl) (by kernel_rfl) (by subst hV; rfl) (by subst hV; rfl) fun ps af e => k_as e
  · have hcase : cx = 4 ∨ cx = 5 := by simpa using hc
    rcases hcase with rfl | rfl
    · obtain ⟨ps, af, rfl⟩ := core (some 16) (.call { callee := .value (.func 51), args := #[.tmp 14, .tmp 15], argTypes := #[24, 24] }) 80 none ho (by kernel_rfl)
      have e14 : Tx.getD 14 undef = .agg #[.int .u64 (lb d 0 : Nat), .int .u64 (lb d 1 : Nat), .int .u64 (lb d 2 : Nat), .int .u64 (lb d 3 : Nat)] := hK.is 2 ho (by kernel_rfl) (by subst hV; rfl)
      have e15 : Tx.getD 15 undef = .agg #[.int .u64 (lb e0 0 : Nat), .int .u64 (lb e0 1 : Nat), .int .u64 (lb e0 2 : Nat), .int .u64 (lb e0 3 : Nat)] := hK.is 3 ho (by kernel_rfl) (by subst hV; rfl)
      have hW1 : PW (dx 4) (dx 5) (yx 4) wx := hW
      have f5 := hda 5 (by decide) (by kernel_rfl)
      clear hdb hda
      rw [hd, f5] at hW1
      replace f5 := Lib.hid f5
      clear hd hW hc
      refine wpOp_plain ho rfl ?_
      go_simp
      go_at_call 51
      refine (cl4 _ _ hW1).mono ?_
      rintro ex w2 ⟨vx, rfl, hW2⟩
      subst hV
      refine ⟨vx, rfl, ?_⟩
      simpa [updB, upd, f5.out] using hW2
    · obtain ⟨ps, af, rfl⟩ := core (some 17) (.call { callee := .value (.func 50), args := #[.tmp 12, .tmp 13, .tmp 16], argTypes := #[24, 24, 80] }) 32 none ho (by kernel_rfl)
      have e12 : Tx.getD 12 undef = .agg #[.int .u64 (lb d 0 : Nat), .int .u64 (lb d 1 : Nat), .int .u64 (lb d 2 : Nat), .int .u64 (lb d 3 : Nat)] := hK.is 0 ho (by kernel_rfl) (by subst hV; rfl)
      have e13 : Tx.getD 13 undef = .agg #[.int .u64 (lb e0 0 : Nat), .int .u64 (lb e0 1 : Nat), .int .u64 (lb e0 2 : Nat), .int .u64 (lb e0 3 : Nat)] := hK.is 1 ho (by kernel_rfl) (by subst hV; rfl)
      have e16 : Tx.getD 16 undef = yx 4 := hK.is 4 ho (by kernel_rfl) (by subst hV; rfl)
      have hW1 : PW (dx 4) (dx 5) (yx 4) wx := hW
      have f4 := hdb 4 (by decide) (by kernel_rfl)
      clear hdb hda
      rw [hd, f4] at hW1
      replace f4 := Lib.hid f4
      clear hd hW hc
      refine wpOp_plain ho rfl ?_
      go_simp
      go_at_call 50
      refine (cl5 _ _ hW1).mono ?_
      rintro ex w2 ⟨rfl, hW2⟩
      subst hV
      first | refine ⟨undef, rfl, ?_⟩ | refine ⟨⟨undef, rfl⟩, ?_⟩
      simpa [updB, upd, f4.out] using hW2
  · have hW1 : PW (dx 4) (dx 5) (yx 4) wx := hW
    rw [hd 4 (by decide), hd 5 (by decide)] at hW1
    have hQ := h _ _ hW1
    rw [hsz]
    subst hV hT
    refine cast (congrArg (fun Tx => Q .normal ⟨Tx, ds⟩ wx) ?_) hQ
    kernel_rfl
end Go.Proofs.YtpggkfdijmnmiaaGreat.Pl
namespace Go.Proofs.YtpggkfdijmnmiaaGreat
open Go.RowKit Go.Sort Limbs
set_option maxHeartbeats 8000000 in
theorem nonces_any (d e : Nat) (w : World) : Calls Tryz.prog 51 #[nv d, nv e] w fun x w' => ∃ b1 b2 : Nat, x = .returned (.func (.func 99) #[] #[.pointer (some ⟨b1, 0, none⟩), .pointer (some ⟨b2, 0, none⟩)]) ∧ Bk 24 w' b1 (cs4 d) ∧ Bk 24 w' b2 (cs4 e) ∧ Below w.heap.size w w' := by
  simp only [nv, num]
  go_enter Tryz.func51, Tryz.ntmps51
  go_wp2_with fail
  go_returns
  exact ⟨w.heap.size, w.heap.size + 1, rfl, Bk.alloc (Bk.new rfl), Bk.new (by simp), by go_grown⟩
def SW (W : World) (d e : Nat) (b4 : Bool) (y4 : Value) (w' : World) : Prop :=
  Below W.heap.size W w' ∧ (b4 = true → ∃ b1 b2 : Nat, y4 = .func (.func 99) #[] #[.pointer (some ⟨b1, 0, none⟩), .pointer (some ⟨b2, 0, none⟩)] ∧ Bk 24 w' b1 (cs4 d) ∧ Bk 24 w' b2 (cs4 e))
def eOf (s : List UInt8) : Nat := bv (Hs.sumL s) % mN
theorem eOf_lt (s : List UInt8) : eOf s < mN := Nat.mod_lt _ mN_pos
theorem sgV_form (d e : Nat) : ∃ sS c, sgV d e = .tuple #[.string sS, .int .i64 c] := by
  unfold sgV sgL
  cases List.find? (good d e) (nzs d e) with
  | none => exact ⟨_, _, rfl⟩
  | some x => exact ⟨_, _, rfl⟩
set_option maxHeartbeats 8000000 in
theorem sign_yes (d : Nat) (hd : 0 < d ∧ d < mN) (s : List UInt8) (hs : s.length ≤ 140737488351232) (w : World) : Calls Tryz.prog 14 #[nv d, .string ⟨s.toArray⟩] w fun x w' => x = .returned (sgV d (eOf s)) ∧ Below w.heap.size w w' := by
  have hi := inRange_any d (Nat.lt_trans hd.2 mN_W)
  rw [decide_eq_true hd] at hi
  have HI := Lib.hid hi
  have HS : Hid (∀ w, Calls Tryz.prog 49 #[.string ⟨s.toArray⟩] w fun e w' => e = .returned (nv (eOf s)) ∧ Below w.heap.size w w') := Lib.hid (sumOf_any s hs)
  have HG := Lib.hid (fun b1 b2 W k1 k2 => callsIn_wide.1 (signature_any d (eOf s) b1 b2 hd.2 (eOf_lt s) W k1 k2))
  have HN := Lib.hid (nonces_any d (eOf s))
  obtain ⟨sS, c, hsv⟩ := sgV_form d (eOf s)
  rw [hsv] at HG ⊢
  clear hi hd hs hsv
  generalize eOf s = e at *
  generalize (⟨s.toArray⟩ : ByteArray) = sb at *
  simp only [nv, num] at HI HS HG HN ⊢
  go_enter Tryz.func14, Tryz.ntmps14
  go_wp2_with fail
  refine (keep w.heap.size w (HI.out _) (by go_grown) (Nat.le_refl _)).mono ?_
  rintro x w1 ⟨rfl, hb1, hk1⟩
  have KD : Bk 24 w1 w.heap.size (cs4 d) := Bk.below (Bk.new rfl) hk1
  clear hk1
  go_wp2_with fail
  refine (keep w.heap.size w (HS.out _) hb1 (Nat.le_refl _)).mono ?_
  rintro x w2 ⟨rfl, hb2, hk2⟩
  have KD2 := KD.below hk2
  clear hk2 KD hb1
  go_upto_region 4 with fail
  have HD : Hid (Bk 24 (w2.alloc (.cells #[.int .u64 (lb e 0 : Nat), .int .u64 (lb e 1 : Nat), .int .u64 (lb e 2 : Nat), .int .u64 (lb e 3 : Nat)] 24)) w.heap.size (cs4 d)) := Lib.hid (Bk.alloc KD2)
  have HE : Hid (Bk 24 (w2.alloc (.cells #[.int .u64 (lb e 0 : Nat), .int .u64 (lb e 1 : Nat), .int .u64 (lb e 2 : Nat), .int .u64 (lb e 3 : Nat)] 24)) w2.heap.size (cs4 e)) := Lib.hid (Bk.new rfl)
  have HB : Hid (Below w.heap.size w (w2.alloc (.cells #[.int .u64 (lb e 0 : Nat), .int .u64 (lb e 1 : Nat), .int .u64 (lb e 2 : Nat), .int .u64 (lb e 3 : Nat)] 24))) := Lib.hid (hb2.alloc hb2.size _)
  clear KD2 hb2
  generalize w2.alloc (.cells #[.int .u64 (lb e 0 : Nat), .int .u64 (lb e 1 : Nat), .int .u64 (lb e 2 : Nat), .int .u64 (lb e 3 : Nat)] 24) = W at HD HE HB ⊢
  generalize w2.heap.size = ge at HE ⊢
  obtain ⟨gd, hgd⟩ : ∃ g, g = w.heap.size := ⟨_, rfl⟩
  rw [← hgd] at HD
  rw [show (Value.pointer (some ⟨w.heap.size, 0, none⟩)) = .pointer (some ⟨gd, 0, none⟩) by rw [hgd]]
  clear hgd
  refine Pl.tS (fun b4 _ y4 w' => SW W d e b4 y4 w') gd ge d e sS c W ?c4 ?c5 ?ld ?le ?w0 ?h
  case c4 =>
    intro y4 w' h
    refine (HN.out w').mono ?_
    rintro x w3 ⟨b1, b2, rfl, k1, k2, hb⟩
    exact ⟨_, rfl, h.1.trans (hb.mono h.1.size), fun _ => ⟨b1, b2, rfl, k1, k2⟩⟩
  case c5 =>
    intro y4 w' h
    obtain ⟨b1, b2, rfl, k1, k2⟩ := h.2 rfl
    refine (HG.out b1 b2 w' k1 k2).mono ?_
    rintro x w3 ⟨rfl, hb⟩
    exact ⟨rfl, h.1.trans (hb.mono h.1.size), fun _ => ⟨b1, b2, rfl, k1.below hb, k2.below hb⟩⟩
  case ld =>
    intro _ _ _ w' h
    exact (HD.out.below h.1).cells
  case le =>
    intro _ _ _ w' h
    exact (HE.out.below h.1).cells
  case w0 => exact ⟨⟨rfl, rfl, rfl, Nat.le_refl _, fun _ _ => rfl⟩, fun h => by cases h⟩
  case h =>
  intro y4 w' h
  have HB2 := Lib.hid (HB.out.trans (h.1.mono HB.out.size))
  clear h HB HD HE
  go_wp2_with fail
  go_returns
  exact ⟨rfl, HB2.out⟩
end Go.Proofs.YtpggkfdijmnmiaaGreat
namespace Go.Proofs.YtpggkfdijmnmiaaGreat
open Go.RowKit Go.Sort Limbs
theorem not_far_of {P : Curve.Pt (Fin Curve.PP)} (h : P ≠ .far) : (ofPt P).i = false := by
  cases P with
  | far => exact absurd rfl h
  | aff x y => rfl
def condL (b : Bool) (x y : List (List UInt8)) : List (List UInt8) := match b with | true => x | false => y
theorem texts_l (b : ByteArray) : ∃ l : List UInt8, b = ⟨l.toArray⟩ := ⟨b.data.toList, by obtain ⟨⟨l⟩⟩ := b; rfl⟩
set_option maxHeartbeats 32000000 in
theorem keeps_core (sd s : List UInt8) (hsd : sd.length ≤ 140737488351232) (hs : s.length ≤ 140737488351232) (v : Value) (ts : List ByteArray) (hok : ∀ x ∈ ts, x.data.toList.length ≤ 140737488351232) (hlen : ts.length ≤ 8796093022208)
    (nm sg : List UInt8) (ee : Int)
    (hsg : ∀ B w r g, Rg B w r [(g, sd)] → Calls Tryz.prog 34 #[kpt r, .string ⟨s.toArray⟩] w fun e w' => e = .returned (.tuple #[.string ⟨nm.toArray⟩, .string ⟨sg.toArray⟩, .int .i64 ee]) ∧ Below w.heap.size w w')
    (hee : ((ee != 0) = true ∧ nm = [] ∧ sg = []) ∨ ((ee != 0) = false ∧ nm = kidOf sd ∧ ∀ w, Calls Tryz.prog 16 #[(pubOf (privOf sd)).v, .string ⟨s.toArray⟩, .string ⟨sg.toArray⟩] w fun e w' => e = .returned (.bool true) ∧ Below w.heap.size w w'))
    (w : World) (h : LIn w v ts) :
    Calls Tryz.prog 9 #[.string ⟨sd.toArray⟩, .string ⟨s.toArray⟩, v] w fun e w' => e = .returned (.bool true) ∧ Below w.heap.size w w' := by
  obtain ⟨a, c, rfl, hl⟩ := h
  have HNR := Lib.hid (fun w => newRing_far sd hsd w)
  have HFX := Lib.hid fixed_any
  have HL := Lib.hid hl
  have HOK := Lib.hid hok
  have HSD := Lib.hid (And.intro hsd hs)
  have HSG := Lib.hid hsg
  have HEE := Lib.hid hee
  clear hl hok hsd hs hsg hee
  obtain ⟨n, hn⟩ : ∃ n, n = ts.length := ⟨_, rfl⟩
  have HN := Lib.hid hn
  rw [← hn] at hlen ⊢
  clear hn
  go_enter Tryz.func9, Tryz.ntmps9
  go_wp2_with fail
  refine (HNR.out _).mono ?_
  rintro e w1 ⟨r, g, rfl, hrg, hb1, hr1, hg1⟩
  have HG1 := Lib.hid (And.intro hrg (And.intro hb1 (And.intro hr1 hg1)))
  clear hrg hb1 hr1 hg1
  unfold kpt
  go_wp2_with fail
  refine (HNR.out _).mono ?_
  rintro e w2 ⟨q, g', rfl, hrg, hb2, hq2, hg2⟩
  have HK2 : Hid (KS w.heap.size w w2 r q g g' sd [] []) := Lib.hid (KS.start HG1.out.1 HG1.out.2.1 HG1.out.2.2.1 hrg hb2 hq2 hg2)
  have HGE : Hid (w.heap.size ≤ g ∧ w.heap.size ≤ g') := Lib.hid ⟨HG1.out.2.2.2, Nat.le_trans HG1.out.2.1.size hg2⟩
  have HR2 : Hid (Rg w.heap.size w2 r [(g, sd)]) := Lib.hid (HG1.out.1.below hb2)
  clear hrg hb2 hq2 hg2 HNR HG1
  unfold kpt
  go_wp2_with fail
  refine (HFX.out _).mono ?_
  rintro e w3 ⟨rfl, hb⟩
  have HK3 := Lib.hid (HK2.out.mono hb)
  have HR3 := Lib.hid (HR2.out.below hb)
  have HM := Lib.hid (rmac_any (ks := []) (k := (g, sd)) HR3.out (by simp) HSD.out.1 s HSD.out.2)
  clear hb HK2 HR2 HFX
  unfold kpt at HM
  simp only [] at HM
  go_wp2_with fail
  refine HM.out.mono ?_
  rintro e w4 ⟨rfl, hb⟩
  have HK4 := Lib.hid (HK3.out.mono hb)
  have HR4 := Lib.hid (HR3.out.below hb)
  have HG := Lib.hid (HSG.out _ _ _ _ HR4.out)
  clear hb HK3 HR3 HM HSG
  unfold kpt at HG
  go_wp2_with fail
  refine HG.out.mono ?_
  rintro e w5 ⟨rfl, hb⟩
  have HK5 := Lib.hid (HK4.out.mono hb)
  clear hb HK4 HR4 HG
  go_wp2_with fail
  go_loopw [14] (fun iv wr => ∃ (i : Nat) (ss : List (List UInt8)), i ≤ n ∧ iv = .int .i64 (i : Int) ∧ Hid (KS w.heap.size w wr r q g g' sd ss ss)) (fun iv _ => n - (intOf iv).toNat)
  case atStart => exact ⟨0, [], Nat.zero_le _, rfl, HK5⟩
  case round =>
    clear HK5
    obtain ⟨i, ss, hi, rfl, HK⟩ := hrel
    by_cases hlt : i < n
    · have hlo : i < ts.length := HN.out ▸ hlt
      obtain ⟨b, o, rfl, hbl, hc⟩ := HL.out (by intro e; rw [e] at hlo; simp at hlo)
      have o0 := hc i hlo
      have HO := HOK.out ts[i] (List.getElem_mem hlo)
      generalize ts[i] = tx at o0 HO
      obtain ⟨sa, rfl⟩ := texts_l tx
      have HLS : Hid (sa.length ≤ 140737488351232) := Lib.hid HO
      clear HO
      have hltI : decide ((i : Int) < (n : Int)) = true := decide_eq_true (by omega)
      have hcc : ∀ W', KS w.heap.size w W' r q g g' sd ss ss → True := fun _ _ => trivial
      have HCL := Lib.hid (And.intro hbl o0)
      have HIX := Lib.hid (fun W => index44 b o n c i hlt W)
      clear hcc o0 hbl hc
      go_upto_region 9 with fail
      refine Pl.tW (fun b5 b11 W => KS w.heap.size w W r q g g' sd (condL b5 (tailS sd ss sa) ss) (condL b11 (tailS sd ss sa) ss)) r q b o (o + i) n c i ⟨sa.toArray⟩ (turnC (sd :: ss) sa) _ ?c5 ?c11 ?hx ?l1 ?w0 ?h
      case c5 =>
        intro W hW
        exact (hW.first sa HLS.out).mono fun e w' ⟨he, hk, _⟩ => ⟨he, hk⟩
      case c11 =>
        intro W hW
        exact (hW.second sa HLS.out).mono fun e w' ⟨he, hk, _⟩ => ⟨he, hk⟩
      case hx => exact HIX.out
      case l1 =>
        intro b5 b11 W hW
        exact (hW.below.cell (p := ⟨b, o + i, none⟩) HCL.out.1).trans HCL.out.2
      case w0 => exact HK.out.mono (Below.drew (Below.refl _ _))
      case h =>
        intro W hW
        have HK' := Lib.hid hW
        clear hW HK HIX HCL
        simp only [condL] at HK'
        have HT := Lib.hid HK'
        clear HK'
        go_wp2_with fail
        go_roundw
        case rel => exact ⟨i + 1, tailS sd ss sa, by omega, by go_num, HT.out⟩
        case measure => simp [intOf]; omega
    · have hie : i = n := by omega
      have hltI : decide ((i : Int) < (n : Int)) = false := decide_eq_false (by omega)
      have HC := Lib.hid (HK.out.clone HGE.out.1 HGE.out.2)
      have HM8 := Lib.hid HK.out.lenr
      clear HK
      go_wp2_with fail
      unfold kpt at HC
      refine HC.out.mono ?_
      rintro e w6 ⟨y, rfl, hA⟩
      generalize hm : ss.length + 1 = m at hA
      have HA := Lib.hid hA
      clear hA HC hm HM8
      clear ss
      go_wp2_with fail
      have HK1 := Lib.hid HA.out.kids
      unfold kpt at HK1
      refine HK1.out.mono ?_
      rintro e w7 ⟨a1, c1, rfl, hz1, hA⟩
      have hlo : 0 < m := hA.lo
      have hhi : m ≤ 8 := hA.hi
      have m1 : decide ((8 : Int) < (m : Int)) = false := decide_eq_false (by omega)
      have m2 : decide ((m : Int) < 1) = false := decide_eq_false (by omega)
      have HA1 := Lib.hid hA
      clear hA HA HK1
      go_wp2_with fail
      have HK1 := Lib.hid HA1.out.kids
      unfold kpt at HK1
      refine HK1.out.mono ?_
      rintro e w8 ⟨a2, c2, rfl, hz2, hA⟩
      have HA2 := Lib.hid hA
      clear hA HA1 HK1
      go_wp2_with fail
      have HK1 := Lib.hid HA2.out.kids
      unfold kpt at HK1
      refine HK1.out.mono ?_
      rintro e w9 ⟨a3, c3, rfl, hz3, hA⟩
      have HA3 := Lib.hid hA
      have hne : ((kidOf sd) != (kidOf sd)) = false := by simp
      clear hA HA2 HK1
      go_wp2_with fail
      have HV := Lib.hid (HA3.out.vouch HSD.out.1 HSD.out.2 r (.inl rfl))
      unfold kpt at HV
      refine HV.out.mono ?_
      rintro e w10 ⟨rfl, hA⟩
      have HA4 := Lib.hid hA
      clear hA HA3 HV
      go_wp2_with fail
      have HV := Lib.hid (HA4.out.vouch HSD.out.1 HSD.out.2 y (.inr (.inl rfl)))
      unfold kpt at HV
      refine HV.out.mono ?_
      rintro e w11 ⟨rfl, hA⟩
      have HA5 := Lib.hid hA
      clear hA HA4 HV
      go_wp2_with fail
      have HV := Lib.hid (HA5.out.vouch HSD.out.1 HSD.out.2 q (.inr (.inr rfl)))
      unfold kpt at HV
      refine HV.out.mono ?_
      rintro e w12 ⟨rfl, hA⟩
      have HA6 := Lib.hid hA
      clear hA HA5 HV
      rcases HEE.out with ⟨he1, rfl, rfl⟩ | ⟨he1, rfl, hv⟩
      · go_wp2_with fail
        all_goals try go_returns
        exact ⟨rfl, HA6.out.below⟩
      · have HV1 := Lib.hid hv
        have V1 := Lib.hid (HA6.out.vs.one hv)
        unfold kpt at V1
        have hkk : ((kidOf sd) == (kidOf sd)) = true := by simp
        clear hv
        go_wp2_with fail
        refine V1.out.mono ?_
        rintro e w13 ⟨rfl, hv⟩
        have V2 := Lib.hid (hv.two HV1.out)
        unfold kpt at V2
        clear hv V1
        go_wp2_with fail
        refine V2.out.mono ?_
        rintro e w14 ⟨rfl, hv⟩
        have V3 := Lib.hid (hv.three HV1.out)
        unfold kpt at V3
        clear hv V2
        go_wp2_with fail
        refine V3.out.mono ?_
        rintro e w15 ⟨rfl, hb⟩
        go_wp2_with fail
        go_returns
        exact ⟨rfl, hb⟩
theorem keeps_walk (sd s : List UInt8) (hsd : sd.length ≤ 140737488351232) (hs : s.length ≤ 140737488351232) (v : Value) (ts : List ByteArray) (hok : ∀ x ∈ ts, x.data.toList.length ≤ 140737488351232) (hlen : ts.length ≤ 8796093022208) (w : World) (h : LIn w v ts) :
    Calls Tryz.prog 9 #[.string ⟨sd.toArray⟩, .string ⟨s.toArray⟩, v] w fun e w' => e = .returned (.bool true) ∧ Below w.heap.size w w' := by
  have hd := privAt_lt (Hs.macL [107, 101, 121] sd)
  rw [show privAt (Hs.macL [107, 101, 121] sd) = privOf sd from rfl] at hd
  have hy := sign_yes (privOf sd) hd s hs
  have h14 : ∀ B w r g, Rg B w r [(g, sd)] → ∀ (sg : List UInt8) (ee : Int), (ee != 0) = true → (∀ w, Calls Tryz.prog 14 #[nv (privOf sd), .string ⟨s.toArray⟩] w fun e w' => e = .returned (.tuple #[.string ⟨sg.toArray⟩, .int .i64 ee]) ∧ Below w.heap.size w w') → Calls Tryz.prog 34 #[kpt r, .string ⟨s.toArray⟩] w fun e w' => e = .returned (.tuple #[.string ⟨#[]⟩, .string ⟨#[]⟩, .int .i64 ee]) ∧ Below w.heap.size w w' := fun B w r g hr sg ee he hy => rsign_no hr ⟨s.toArray⟩ ⟨sg.toArray⟩ ee he hy
  have h15 : ∀ B w r g, Rg B w r [(g, sd)] → ∀ (sg : List UInt8), (∀ w, Calls Tryz.prog 14 #[nv (privOf sd), .string ⟨s.toArray⟩] w fun e w' => e = .returned (.tuple #[.string ⟨sg.toArray⟩, .int .i64 0]) ∧ Below w.heap.size w w') → Calls Tryz.prog 34 #[kpt r, .string ⟨s.toArray⟩] w fun e w' => e = .returned (.tuple #[.string ⟨(kidOf sd).toArray⟩, .string ⟨sg.toArray⟩, .int .i64 0]) ∧ Below w.heap.size w w' := fun B w r g hr sg hy => rsign_ok hr hsd ⟨s.toArray⟩ ⟨sg.toArray⟩ hy
  cases hn : (nzs (privOf sd) (eOf s)).find? (good (privOf sd) (eOf s)) with
  | none =>
    rw [sgV, sgL, hn, sgO] at hy
    exact keeps_core sd s hsd hs v ts hok hlen [] [] 81 (fun B w r g hr => h14 B w r g hr [] 81 (by decide) hy) (.inl ⟨by decide, rfl, rfl⟩) w h
  | some x =>
    rw [sgV, sgL, hn, sgO] at hy
    have hg0 := List.find?_some hn
    have hg : rOf x.1 ≠ 0 ∧ tOf (privOf sd) (eOf s) x.1 ≠ 0 := of_decide_eq_true hg0
    have ht := tOf_lt (privOf sd) (eOf s) x.1
    have hr := rOf_lt x.1
    have hon := pub_on (privOf sd) (Nat.lt_trans hd.2 mN_W)
    have hpi : (pubOf (privOf sd)).i = false := by
      rw [pub_is _ (Nat.lt_trans hd.2 mN_W)]
      exact not_far_of (GP_order hd.1 hd.2)
    have hv1 := verify_sig (pubOf (privOf sd)) hon.1 hon.2.2 hpi s hs (rOf x.1) (tOf (privOf sd) (eOf s) x.1) (by omega) hr (by omega) ht
    rw [show bv (Hs.sumL s) % mN = eOf s from rfl, fits_sign hd x.2 hg.1 hg.2] at hv1
    exact keeps_core sd s hsd hs v ts hok hlen (kidOf sd) (sgB (rOf x.1) (tOf (privOf sd) (eOf s) x.1)) 0 (fun B w r g hr => h15 B w r g hr _ hy) (.inr ⟨by decide, rfl, hv1⟩) w h
end Go.Proofs.YtpggkfdijmnmiaaGreat
