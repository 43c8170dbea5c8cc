/- The drawn region of SignRingKeeps: both Turns. No condition. SignRingKeeps: what the calls behind the loop answer, one behind the other. Condition: the rings and their first keys. A script of calls as an argument: read as such within the form's reach. No condition. A row of texts as an argument: read as such within the form's reach. No condition. Two seeds' names differ; the base point is its mult -/
import Derived.Test.YtpggkfdijmnmiaaGreatZuk10
import Derived.Test.YtpggkfdijmnmiaaGreatZuk16
import Derived.Test.YtpggkfdijmnmiaaGreatZuk15
import Derived.SizedLaws
import Derived.ChangeMaps5
import Derived.ShutString
import Derived.Deep.SlicePairs
import Derived.Deep.Strs
import Derived.Carry
import Derived.Test.YtpggkfdijmnmiaaGreatZuk00
import Derived.Test.YtpggkfdijmnmiaaGreatZuk14
import Derived.Test.YtpggkfdijmnmiaaGreatZuk13
import Derived.Test.YtpggkfdijmnmiaaGreatZuk09
import Derived.Test.YtpggkfdijmnmiaaGreatZuk04
import Derived.Test.YtpggkfdijmnmiaaGreatZuk12
set_option linter.unusedVariables false
set_option linter.unusedSimpArgs false
set_option maxRecDepth 100000
namespace Go.Proofs.YtpggkfdijmnmiaaGreat.Pl
open Go.RowKit Go.Sort Limbs
noncomputable def tWO : Array Oper := (Tryz.f9.body.bind fun c => findR c 9).getD #[]
def tW_m : List (List Nat) := [[], [], [], [], [], [], [], [], [], [], [], [5], [5, 11]]
set_option maxHeartbeats 16000000 in
theorem tW (PW : Bool → Bool → World → Prop) (r q b o p n k i : Nat) (a : ByteArray) (c : Int) (w : World)  (cl5 : ∀ (w : World), PW false false w → Calls Tryz.prog 22 #[.pointer (some ⟨r, 0, none⟩), .string a] w fun e w1 => e = .returned (.int .i64 c) ∧ PW true false  w1) (cl11 : ∀ (w : World), PW true false w → Calls Tryz.prog 22 #[.pointer (some ⟨q, 0, none⟩), .string a] w fun e w1 => e = .returned (.int .i64 c) ∧ PW true true  w1) (hx : ∀ w, (Instr.indexAt 44 (.slice (some ⟨b, o, none⟩) n k) (.int .i64 (i : Int))).run Tryz.prog w = .ok (.pointer (some ⟨b, p, none⟩)) w) (l1 : ∀ (b5 b11 : Bool) (w : World), PW b5 b11 w → w.cell? ⟨b, p, none⟩ = some (.string a)) {t0 t1 t3 t4 t5 t6 t9 t10 t11 t12 t13 t15 t16 t17 t18 t19 t20 t21 t22 t23 t24 t25 t26 t27 t28 t29 t30 t31 t32 t33 t34 t35 t36 t37 t38 t39 t40 t41 t42 t43 t44 t45 t46 t47 t48 t49 t50 t51 t52 t53 t54 t55 t56 t57 t58 t59 t60 t61 t62 t63 t64 t65 t66 t67 t68 t69 t70 t71 t72 t73 t74 t75 t76 t77 t78 t79 t80 t81 t82 t83 t84 t85 t86 t87 t88 t89 t90 t91 t92 t93 t94 t95 t96 t97 t98 t99 t100 t101 t102 t103 t104 t105 t106 t107 t108 t109 t110 t111 t112 t113 t114 t115 t116 t117 t118 t119 t120 t121 t122 t123 t124 t125 t126 t127 t128 t129 t130 t131 t132 t133 t134 t135 t136 t137 t138 t139 : Value} (w0 : PW false false  w.drew) {ds : List Deferred} {Q : Exit → Act → World → Prop}
    (h : ∀ (w1 : World), PW true true  w1 → Q .normal { tmps := #[t0, t1, .slice (some ⟨b, o, none⟩) n k, t3, t4, t5, t6, .pointer (some ⟨r, 0, none⟩), .pointer (some ⟨q, 0, none⟩), t9, t10, t11, t12, t13, .int .i64 (i : Int), t15, t16, t17, t18, t19, t20, t21, t22, t23, t24, t25, t26, t27, t28, t29, t30, t31, t32, t33, t34, t35, t36, t37, t38, t39, t40, t41, t42, t43, t44, t45, t46, t47, t48, .pointer (some ⟨r, 0, none⟩), .slice (some ⟨b, o, none⟩) n k, .int .i64 (i : Int), .pointer (some ⟨b, p, none⟩), .string a, .int .i64 c, .pointer (some ⟨q, 0, none⟩), .slice (some ⟨b, o, none⟩) n k, .int .i64 (i : Int), .pointer (some ⟨b, p, none⟩), .string a, .int .i64 c, .bool false, t62, t63, t64, t65, t66, t67, t68, t69, t70, t71, t72, t73, t74, t75, t76, t77, t78, t79, t80, t81, t82, t83, t84, t85, t86, t87, t88, t89, t90, t91, t92, t93, t94, t95, t96, t97, t98, t99, t100, t101, t102, t103, t104, t105, t106, t107, t108, t109, t110, t111, t112, t113, t114, t115, t116, t117, t118, t119, t120, t121, t122, t123, t124, t125, t126, t127, t128, t129, t130, t131, t132, t133, t134, t135, t136, t137, t138, t139], defers := ds } w1) :
    (Code.region 9 tWO true).wp Tryz.prog Q { tmps := #[t0, t1, .slice (some ⟨b, o, none⟩) n k, t3, t4, t5, t6, .pointer (some ⟨r, 0, none⟩), .pointer (some ⟨q, 0, none⟩), t9, t10, t11, t12, t13, .int .i64 (i : Int), t15, t16, t17, t18, t19, t20, t21, t22, t23, t24, t25, t26, t27, t28, t29, t30, t31, t32, t33, t34, t35, t36, t37, t38, t39, t40, t41, t42, t43, t44, t45, t46, t47, t48, t49, t50, t51, t52, t53, t54, t55, t56, t57, t58, t59, t60, t61, t62, t63, t64, t65, t66, t67, t68, t69, t70, t71, t72, t73, t74, t75, t76, t77, t78, t79, t80, t81, t82, t83, t84, t85, t86, t87, t88, t89, t90, t91, t92, t93, t94, t95, t96, t97, t98, t99, t100, t101, t102, t103, t104, t105, t106, t107, t108, t109, t110, t111, t112, t113, t114, t115, t116, t117, t118, t119, t120, t121, t122, t123, t124, t125, t126, t127, t128, t129, t130, t131, t132, t133, t134, t135, t136, t137, t138, t139], defers := ds } w := by
  have hsz : tWO.size = 13 := by kernel_rfl
  generalize hT : List.toArray _ = T0
  have hs : T0.size = 140 := by subst hT; rfl
  have g2 : T0.getD 2 undef = .slice (some ⟨b, o, none⟩) n k := by subst hT; rfl
  have g7 : T0.getD 7 undef = .pointer (some ⟨r, 0, none⟩) := by subst hT; rfl
  have g8 : T0.getD 8 undef = .pointer (some ⟨q, 0, none⟩) := by subst hT; rfl
  have g14 : T0.getD 14 undef = .int .i64 (i : Int) := by subst hT; rfl
  obtain ⟨W, hV⟩ : ∃ W : List ((Nat × (Value → Value)) ⊕ Value), W = [.inr (.pointer (some ⟨r, 0, none⟩)), .inr (.slice (some ⟨b, o, none⟩) n k), .inr (.int .i64 (i : Int)), .inr (.pointer (some ⟨b, p, none⟩)), .inr (.string a), .inr (.int .i64 c), .inr (.pointer (some ⟨q, 0, none⟩)), .inr (.slice (some ⟨b, o, none⟩) n k), .inr (.int .i64 (i : Int)), .inr (.pointer (some ⟨b, p, none⟩)), .inr (.string a), .inr (.int .i64 c), .inr (.bool false)] := ⟨_, rfl⟩
  refine wp_plan (by kernel_rfl) T0 ds [5, 11] tW_m (mkV W) (fun dx yx wx => PW (dx 5) (dx 11)  wx) w (by rw [hs]; kernel_rfl) (by kernel_rfl) (by kernel_rfl) (by rw [hsz]; decide) (fun cx hc ix hne ha yx vx => mkV_fix (by rw [hV]; kernel_rfl) hne ha yx vx) (?key) (fun cx hc ox ho dx yx Tx wx hd hdb hda hK hW => ?_) ⟨fun k => undef, w0⟩ (fun dx yx wx hd hW => ?_)
  case key =>
    rw [hsz]
    refine all_step (all_step (all_step (all_step (all_step (all_step (all_step (all_step (all_step (all_step (all_step (all_step (all_step all_zero ?_) ?_) ?_) ?_) ?_) ?_) ?_) ?_) ?_) ?_) ?_) ?_) ?_
    all_goals
      intro ox ho hic dx yx Tx wx hdb hK hW
      replace hdb := Lib.hid hdb
    · exact pl0 49 7 41 ho hK (by kernel_rfl) (by kernel_rfl) g7 (by subst hV; rfl) fun ps af e => k_mv e
    · exact pl0 50 2 44 ho hK (by kernel_rfl) (by kernel_rfl) g2 (by subst hV; rfl) fun ps af e => k_mv e
    · exact pl0 51 14 3 ho hK (by kernel_rfl) (by kernel_rfl) g14 (by subst hV; rfl) fun ps af e => k_mv e
    · obtain ⟨ps, af, rfl⟩ := core (some 52) (.indexAddr 44 (.tmp 50) (.tmp 51)) 0 none ho (by kernel_rfl)
      have e50 : Tx.getD 50 undef = .slice (some ⟨b, o, none⟩) n k := hK.is 1 ho (by kernel_rfl) (by subst hV; rfl)
      have e51 : Tx.getD 51 undef = .int .i64 (i : Int) := hK.is 2 ho (by kernel_rfl) (by subst hV; rfl)
      have hx1 := hx
      exact wpOp_plain ho rfl (by subst hV; go_simp; try rfl)
    · obtain ⟨ps, af, rfl⟩ := core (some 53) (.load 9 (.tmp 52)) 9 none ho (by kernel_rfl)
      have e52 : Tx.getD 52 undef = .pointer (some ⟨b, p, none⟩) := hK.is 3 ho (by kernel_rfl) (by subst hV; rfl)
      have hl1 := l1 _ _ _ hW
      exact wpOp_plain ho rfl (by subst hV; go_simp; try rfl)
    · exact absurd (by decide) hic
    · exact pl0 55 8 41 ho hK (by kernel_rfl) (by kernel_rfl) g8 (by subst hV; rfl) fun ps af e => k_mv e
    · exact pl0 56 2 44 ho hK (by kernel_rfl) (by kernel_rfl) g2 (by subst hV; rfl) fun ps af e => k_mv e
    · exact pl0 57 14 3 ho hK (by kernel_rfl) (by kernel_rfl) g14 (by subst hV; rfl) fun ps af e => k_mv e
    · obtain ⟨ps, af, rfl⟩ := core (some 58) (.indexAddr 44 (.tmp 56) (.tmp 57)) 0 none ho (by kernel_rfl)
      have e56 : Tx.getD 56 undef = .slice (some ⟨b, o, none⟩) n k := hK.is 7 ho (by kernel_rfl) (by subst hV; rfl)
      have e57 : Tx.getD 57 undef = .int .i64 (i : Int) := hK.is 8 ho (by kernel_rfl) (by subst hV; rfl)
      have hx1 := hx
      exact wpOp_plain ho rfl (by subst hV; go_simp; try rfl)
    · obtain ⟨ps, af, rfl⟩ := core (some 59) (.load 9 (.tmp 58)) 9 none ho (by kernel_rfl)
      have e58 : Tx.getD 58 undef = .pointer (some ⟨b, p, none⟩) := hK.is 9 ho (by kernel_rfl) (by subst hV; rfl)
      have hl1 := l1 _ _ _ hW
      exact wpOp_plain ho rfl (by subst hV; go_simp; try rfl)
    · exact absurd (by decide) hic
    · obtain ⟨ps, af, rfl⟩ := core (some 61) (.binOp BinOp.neq 27 (.tmp 54) (.tmp 60) 27) 4 none ho (by kernel_rfl)
      have e54 : Tx.getD 54 undef = .int .i64 c := hK.is 5 ho (by kernel_rfl) (by subst hV; rfl)
      have e60 : Tx.getD 60 undef = .int .i64 c := hK.is 11 ho (by kernel_rfl) (by subst hV; rfl)
      exact wpOp_plain ho rfl (by subst hV; go_simp; try rfl)
  · have hcase : cx = 5 ∨ cx = 11 := by simpa using hc
    rcases hcase with rfl | rfl
    · obtain ⟨ps, af, rfl⟩ := core (some 54) (.call { callee := .value (.func 22), args := #[.tmp 49, .tmp 53], argTypes := #[41, 9] }) 27 none ho (by kernel_rfl)
      have e49 : Tx.getD 49 undef = .pointer (some ⟨r, 0, none⟩) := hK.is 0 ho (by kernel_rfl) (by subst hV; rfl)
      have e53 : Tx.getD 53 undef = .string a := hK.is 4 ho (by kernel_rfl) (by subst hV; rfl)
      have hW1 : PW (dx 5) (dx 11)  wx := hW
      have f11 := hda 11 (by decide) (by kernel_rfl)
      clear hdb hda
      rw [hd, f11] at hW1
      replace f11 := Lib.hid f11
      clear hd hW hc
      refine wpOp_plain ho rfl ?_
      go_simp
      go_at_call 22
      refine (cl5 _ hW1).mono ?_
      rintro ex w2 ⟨rfl, hW2⟩
      subst hV
      first | refine ⟨undef, rfl, ?_⟩ | refine ⟨⟨undef, rfl⟩, ?_⟩
      simpa [updB, upd, f11.out] using hW2
    · obtain ⟨ps, af, rfl⟩ := core (some 60) (.call { callee := .value (.func 22), args := #[.tmp 55, .tmp 59], argTypes := #[41, 9] }) 27 none ho (by kernel_rfl)
      have e55 : Tx.getD 55 undef = .pointer (some ⟨q, 0, none⟩) := hK.is 6 ho (by kernel_rfl) (by subst hV; rfl)
      have e59 : Tx.getD 59 undef = .string a := hK.is 10 ho (by kernel_rfl) (by subst hV; rfl)
      have hW1 : PW (dx 5) (dx 11)  wx := hW
      have f5 := hdb 5 (by decide) (by kernel_rfl)
      clear hdb hda
      rw [hd, f5] at hW1
      replace f5 := Lib.hid f5
      clear hd hW hc
      refine wpOp_plain ho rfl ?_
      go_simp
      go_at_call 22
      refine (cl11 _ hW1).mono ?_
      rintro ex w2 ⟨rfl, hW2⟩
      subst hV
      first | refine ⟨undef, rfl, ?_⟩ | refine ⟨⟨undef, rfl⟩, ?_⟩
      simpa [updB, upd, f5.out] using hW2
  · have hW1 : PW (dx 5) (dx 11)  wx := hW
    rw [hd 5 (by decide), hd 11 (by decide)] at hW1
    have hQ := h _ hW1
    rw [hsz]
    subst hV hT
    refine cast (congrArg (fun Tx => Q .normal ⟨Tx, ds⟩ wx) ?_) hQ
    kernel_rfl
end Go.Proofs.YtpggkfdijmnmiaaGreat.Pl
namespace Go.Proofs.YtpggkfdijmnmiaaGreat
open Go.RowKit Go.Sort Limbs
set_option maxHeartbeats 8000000 in
theorem newRing_far (s : List UInt8) (hs : s.length ≤ 140737488351232) (w : World) : Calls Tryz.prog 21 #[.string ⟨s.toArray⟩] w fun e w' => ∃ r g, e = .returned (kpt r) ∧ Rg w.heap.size w' r [(g, s)] ∧ Below w.heap.size w w' ∧ w.heap.size ≤ r ∧ w.heap.size ≤ g := by
  have HK := Lib.hid (newKey_any s hs w)
  clear hs
  go_enter Tryz.func21, Tryz.ntmps21
  go_wp2_with fail
  refine HK.out.mono ?_
  rintro e w1 ⟨g, rfl, hg, hk, hb⟩
  clear HK
  go_wp2_with fail
  go_returns
  have hbn : Below w1.heap.size w1 ((w1.alloc (.cells #[.pointer (some ⟨g, 0, none⟩)] 103)).alloc (.cells #[.slice (some ⟨w1.heap.size, 0, none⟩) 1 1] 107)) := by go_grown
  refine ⟨_, g, rfl, ⟨w1.heap.size, 1, Bk.new (by simp), ⟨rfl, .inr ⟨w1.heap.size, 1, #[.pointer (some ⟨g, 0, none⟩)], rfl, hb.size, Bk.alloc (Bk.new rfl), by simp, by unfold maxLen; omega, rfl, rfl⟩⟩, fun k hk2 => ?_⟩, hb.trans (hbn.mono hb.size), by have := hb.size; omega, hg⟩
  rw [List.mem_singleton] at hk2
  subst hk2
  exact hk.below hbn
theorem KS.mono {B : Nat} {w0 w w' : World} {r q g g' : Nat} {s0 : List UInt8} {ss tt : List (List UInt8)} (h : KS B w0 w r q g g' s0 ss tt) (hb : Below w.heap.size w w') : KS B w0 w' r q g g' s0 ss tt := by
  obtain ⟨ks, e1, k1⟩ := h.one
  obtain ⟨ls, e2, k2⟩ := h.two
  exact ⟨h.below.trans (hb.mono h.size), Nat.le_trans h.size hb.size, h.lr, h.lq, h.ne, h.lenr, h.lenq, ⟨ks, e1, k1.below hb⟩, ⟨ls, e2, k2.below hb⟩⟩
theorem KS.start {w w1 w2 : World} {r q g g' : Nat} {sd : List UInt8} (h1 : Rg w.heap.size w1 r [(g, sd)]) (hb1 : Below w.heap.size w w1) (hr : w.heap.size ≤ r) (h2 : Rg w1.heap.size w2 q [(g', sd)]) (hb2 : Below w1.heap.size w1 w2) (hq : w1.heap.size ≤ q) (hg : w1.heap.size ≤ g') : KS w.heap.size w w2 r q g g' sd [] [] := by
  have hk : Bk 121 w1 g (keyC sd) := h1.choose_spec.choose_spec.2.2 (g, sd) (by simp)
  have hlt := hk.lt
  exact ⟨hb1.trans (hb2.mono hb1.size), Nat.le_trans hb1.size hb2.size, hr, Nat.le_trans hb1.size hq, by omega, by simp, by simp, ⟨[], rfl, h1.below hb2⟩, ⟨[], rfl, h2.mono hb1.size⟩⟩
def keyD (s : List UInt8) : Array Value := #[.string ⟨s.toArray⟩, .string ⟨(kidOf s).toArray⟩, .string ⟨(macOf s).toArray⟩, .int .u64 (lb (privOf s) 0 : Nat), .int .u64 (lb (privOf s) 1 : Nat), .int .u64 (lb (privOf s) 2 : Nat), .int .u64 (lb (privOf s) 3 : Nat), .int .u32 1, .int .i32 0, .int .u32 0, .int .u64 (lb (pubOf (privOf s)).x 0 : Nat), .int .u64 (lb (pubOf (privOf s)).x 1 : Nat), .int .u64 (lb (pubOf (privOf s)).x 2 : Nat), .int .u64 (lb (pubOf (privOf s)).x 3 : Nat), .int .u64 (lb (pubOf (privOf s)).y 0 : Nat), .int .u64 (lb (pubOf (privOf s)).y 1 : Nat), .int .u64 (lb (pubOf (privOf s)).y 2 : Nat), .int .u64 (lb (pubOf (privOf s)).y 3 : Nat), .bool (pubOf (privOf s)).i]
theorem priv_W (s : List UInt8) : privOf s < W256 := Nat.lt_trans (privAt_lt _).2 (by decide)
theorem point1 {g : Nat} (s : List UInt8) (w : World) (h : Bk 121 w g (keyC s)) : Calls Tryz.prog 88 #[kpt g] w fun e w' => e = .returned (pubOf (privOf s)).v ∧ Bk 121 w' g (keyD s) ∧ Chg g g w w' := by
  unfold keyC at h
  exact point_first (privOf s) (priv_W s) w h
theorem point2 {g : Nat} (s : List UInt8) (w : World) (h : Bk 121 w g (keyD s)) : Calls Tryz.prog 88 #[kpt g] w fun e w' => e = .returned (pubOf (privOf s)).v ∧ Below w.heap.size w w' := by
  unfold keyD at h
  exact point_again (privOf s) w h
structure VS (B : Nat) (w0 w : World) (r y q g g' : Nat) (sd : List UInt8) (C : Array Value) : Prop where
  below : Below B w0 w
  size : B ≤ w.heap.size
  ne : g ≠ g'
  lg : B ≤ g
  lg' : B ≤ g'
  fr : ∃ a, RF w r a g
  fy : ∃ a, RF w y a g
  fq : ∃ a, RF w q a g'
  kg : Bk 121 w g C
  kg' : Bk 121 w g' (keyC sd)
theorem VS.mono {B : Nat} {w0 w w' : World} {r y q g g' : Nat} {sd : List UInt8} {C : Array Value} (h : VS B w0 w r y q g g' sd C) (hb : Below w.heap.size w w') : VS B w0 w' r y q g g' sd C :=
  ⟨h.below.trans (hb.mono h.size), Nat.le_trans h.size hb.size, h.ne, h.lg, h.lg', h.fr.imp fun _ k => k.below hb, h.fy.imp fun _ k => k.below hb, h.fq.imp fun _ k => k.below hb, h.kg.below hb, h.kg'.below hb⟩
section
variable {B : Nat} {w0 w : World} {r y q g g' : Nat} {sd : List UInt8} {s sig : ByteArray}
theorem VS.one (h : VS B w0 w r y q g g' sd (keyC sd)) (HV : ∀ w, Calls Tryz.prog 16 #[(pubOf (privOf sd)).v, .string s, .string sig] w fun e w' => e = .returned (.bool true) ∧ Below w.heap.size w w') :
    Calls Tryz.prog 38 #[kpt r, .string ⟨(kidOf sd).toArray⟩, .string s, .string sig] w fun e w' => e = .returned (.bool true) ∧ VS B w0 w' r y q g g' sd (keyD sd) := by
  obtain ⟨a, ha⟩ := h.fr
  refine (rverify (fun w' => Bk 121 w' g (keyD sd) ∧ Chg g g w w') ha (kidOf sd) s sig (h.kg.cell 1) (point1 sd w h.kg) HV).mono fun e w2 ⟨he, w1, ⟨hk, hc⟩, hb⟩ => ⟨he, ?_⟩
  have v : VS B w0 w1 r y q g g' sd (keyD sd) := ⟨h.below.trans (hc.1.mono h.lg), Nat.le_trans h.size hc.1.size, h.ne, h.lg, h.lg', h.fr.imp fun _ k => k.left h.kg hc, h.fy.imp fun _ k => k.left h.kg hc, h.fq.imp fun _ k => k.left h.kg hc, hk, Bk.by_left hc (Ne.symm h.ne) (Ne.symm h.ne) h.kg'⟩
  exact v.mono hb
theorem VS.two (h : VS B w0 w r y q g g' sd (keyD sd)) (HV : ∀ w, Calls Tryz.prog 16 #[(pubOf (privOf sd)).v, .string s, .string sig] w fun e w' => e = .returned (.bool true) ∧ Below w.heap.size w w') :
    Calls Tryz.prog 38 #[kpt y, .string ⟨(kidOf sd).toArray⟩, .string s, .string sig] w fun e w' => e = .returned (.bool true) ∧ VS B w0 w' r y q g g' sd (keyD sd) := by
  obtain ⟨a, ha⟩ := h.fy
  refine (rverify (fun w' => Below w.heap.size w w') ha (kidOf sd) s sig (h.kg.cell 1) (point2 sd w h.kg) HV).mono fun e w2 ⟨he, w1, hc, hb⟩ => ⟨he, ?_⟩
  exact (h.mono hc).mono hb
theorem VS.three (h : VS B w0 w r y q g g' sd (keyD sd)) (HV : ∀ w, Calls Tryz.prog 16 #[(pubOf (privOf sd)).v, .string s, .string sig] w fun e w' => e = .returned (.bool true) ∧ Below w.heap.size w w') :
    Calls Tryz.prog 38 #[kpt q, .string ⟨(kidOf sd).toArray⟩, .string s, .string sig] w fun e w' => e = .returned (.bool true) ∧ Below B w0 w' := by
  obtain ⟨a, ha⟩ := h.fq
  refine (rverify (fun w' => Bk 121 w' g' (keyD sd) ∧ Chg g' g' w w') ha (kidOf sd) s sig (h.kg'.cell 1) (point1 sd w h.kg') HV).mono fun e w2 ⟨he, w1, ⟨hk, hc⟩, hb⟩ => ⟨he, ?_⟩
  exact (h.below.trans (hc.1.mono h.lg')).trans (hb.mono (Nat.le_trans h.size hc.1.size))
end
theorem findK_first (g : Nat) (s : List UInt8) (ks : List (Nat × List UInt8)) : findK ((g, s) :: ks) (kidOf s) = some g := by
  rw [findK, if_pos rfl]
theorem vouch_first {B : Nat} {w : World} {r g : Nat} {sd s : List UInt8} {ks : List (Nat × List UInt8)} (h : Rg B w r ((g, sd) :: ks)) (hl : ks.length < 8) (hsd : sd.length ≤ 140737488351232) (hs : s.length ≤ 140737488351232) :
    Calls Tryz.prog 26 #[kpt r, .string ⟨(kidOf sd).toArray⟩, .string ⟨s.toArray⟩, .string ⟨(Hs.macL (macOf sd) s).toArray⟩] w fun e w' => e = .returned (.bool true) ∧ Below w.heap.size w w' := by
  have := vouch_some h (by simp; omega) (kidOf sd) s (Hs.macL (macOf sd) s) hs (by rw [macL_len]; decide) (g, sd) (by simp) (findK_first g sd ks)
  simpa using this
structure AS (B : Nat) (w0 w : World) (r y q g g' : Nat) (sd : List UInt8) (m : Nat) : Prop where
  below : Below B w0 w
  size : B ≤ w.heap.size
  ne : g ≠ g'
  lg : B ≤ g
  lg' : B ≤ g'
  lo : 0 < m
  hi : m ≤ 8
  one : ∃ ks B', ks.length + 1 = m ∧ Rg B' w r ((g, sd) :: ks)
  cl : ∃ ks B', ks.length < 8 ∧ Rg B' w y ((g, sd) :: ks)
  two : ∃ ks B', ks.length < 8 ∧ Rg B' w q ((g', sd) :: ks)
theorem AS.mono {B m : Nat} {w0 w w' : World} {r y q g g' : Nat} {sd : List UInt8} (h : AS B w0 w r y q g g' sd m) (hb : Below w.heap.size w w') : AS B w0 w' r y q g g' sd m :=
  ⟨h.below.trans (hb.mono h.size), Nat.le_trans h.size hb.size, h.ne, h.lg, h.lg', h.lo, h.hi, h.one.imp fun _ ⟨B', k, l⟩ => ⟨B', k, l.below hb⟩, h.cl.imp fun _ ⟨B', k, l⟩ => ⟨B', k, l.below hb⟩, h.two.imp fun _ ⟨B', k, l⟩ => ⟨B', k, l.below hb⟩⟩
theorem Rg.rf {B : Nat} {w : World} {r g : Nat} {s : List UInt8} {ks : List (Nat × List UInt8)} (h : Rg B w r ((g, s) :: ks)) (hl : ks.length < 1000000) : (∃ a, RF w r a g) ∧ Bk 121 w g (keyC s) := by
  obtain ⟨a, ha⟩ := h.named
  exact ⟨⟨a, ha.rf hl⟩, h.choose_spec.choose_spec.2.2 (g, s) (by simp)⟩
theorem AS.vs {B m : Nat} {w0 w : World} {r y q g g' : Nat} {sd : List UInt8} (h : AS B w0 w r y q g g' sd m) : VS B w0 w r y q g g' sd (keyC sd) := by
  obtain ⟨k1, _, l1, h1⟩ := h.one
  obtain ⟨k2, _, l2, h2⟩ := h.cl
  obtain ⟨k3, _, l3, h3⟩ := h.two
  have hm := h.hi
  exact ⟨h.below, h.size, h.ne, h.lg, h.lg', (h1.rf (by omega)).1, (h2.rf (by omega)).1, (h3.rf (by omega)).1, (h1.rf (by omega)).2, (h3.rf (by omega)).2⟩
theorem KS.clone {B : Nat} {w0 w : World} {r q g g' : Nat} {sd : List UInt8} {ss : List (List UInt8)} (h : KS B w0 w r q g g' sd ss ss) (lg : B ≤ g) (lg' : B ≤ g') :
    Calls Tryz.prog 28 #[kpt r] w fun e w' => ∃ y, e = .returned (kpt y) ∧ AS B w0 w' r y q g g' sd (ss.length + 1) := by
  obtain ⟨ks, e1, k1⟩ := h.one
  obtain ⟨ls, e2, k2⟩ := h.two
  have l0 := h.lenr
  have l1 : ks.length = ss.length := by rw [← e1, List.length_map]
  have l2 : ls.length = ss.length := by rw [← e2, List.length_map]
  refine (clone_any k1 (by simp; omega) (by simp)).mono fun e w' ⟨y, he, hy, _, hb⟩ => ⟨y, he, ?_⟩
  exact ⟨h.below.trans (hb.mono h.size), Nat.le_trans h.size hb.size, h.ne, lg, lg', by omega, by omega, ⟨ks, B, by omega, k1.below hb⟩, ⟨ks, _, by omega, hy⟩, ⟨ls, B, by omega, k2.below hb⟩⟩
theorem AS.kids {B m : Nat} {w0 w : World} {r y q g g' : Nat} {sd : List UInt8} (h : AS B w0 w r y q g g' sd m) :
    Calls Tryz.prog 31 #[kpt r] w fun e w' => ∃ a c, e = .returned (.slice (some ⟨a, 0, none⟩) m c) ∧ w'.cell? ⟨a, 0, none⟩ = some (.string ⟨(kidOf sd).toArray⟩) ∧ AS B w0 w' r y q g g' sd m := by
  obtain ⟨ks, B', l1, k1⟩ := h.one
  have hm := h.hi
  refine (kids_any k1 (by simp; omega) (by simp)).mono fun e w' ⟨v, he, hv, hb⟩ => ?_
  obtain ⟨p, c, rfl, hc⟩ := row_slice hv
  obtain ⟨a, rfl, h0⟩ := hc w' (Below.refl _ _) 0 (kidV (g, sd)) (by simp)
  refine ⟨a, c, ?_, h0, h.mono hb⟩
  rw [he]
  simp [l1]
theorem AS.vouch {B m : Nat} {w0 w : World} {r y q g g' : Nat} {sd s : List UInt8} (h : AS B w0 w r y q g g' sd m) (hsd : sd.length ≤ 140737488351232) (hs : s.length ≤ 140737488351232) (x : Nat) (hx : x = r ∨ x = y ∨ x = q) :
    Calls Tryz.prog 26 #[kpt x, .string ⟨(kidOf sd).toArray⟩, .string ⟨s.toArray⟩, .string ⟨(Hs.macL (macOf sd) s).toArray⟩] w fun e w' => e = .returned (.bool true) ∧ AS B w0 w' r y q g g' sd m := by
  have hm := h.hi
  rcases hx with rfl | rfl | rfl
  · obtain ⟨ks, B', l1, k1⟩ := h.one
    exact (vouch_first k1 (by omega) hsd hs).mono fun e w' ⟨he, hb⟩ => ⟨he, h.mono hb⟩
  · obtain ⟨ks, B', l1, k1⟩ := h.cl
    exact (vouch_first k1 (by omega) hsd hs).mono fun e w' ⟨he, hb⟩ => ⟨he, h.mono hb⟩
  · obtain ⟨ks, B', l1, k1⟩ := h.two
    exact (vouch_first k1 (by omega) hsd hs).mono fun e w' ⟨he, hb⟩ => ⟨he, h.mono hb⟩
end Go.Proofs.YtpggkfdijmnmiaaGreat
namespace Go.Proofs.YtpggkfdijmnmiaaGreat
open Go.ChangeShapes Go.WideShapes Go.ChangeAt Go.ChangeMaps Go.RowKit Go.Deep Limbs
structure ROp where
  kind : Int
  s : ByteArray
  n : ByteArray
  m : ByteArray
def ROp.cells (o : ROp) : List Value := [.int .i64 o.kind, .string o.s, .string o.n, .string o.m]
def ROpsIn (w : World) (v : Value) (l : List ROp) : Prop :=
  ∃ a c, v = .slice a l.length c ∧ (l ≠ [] → ∃ b o, a = some ⟨b, o, none⟩ ∧ b < w.heap.size ∧ ∀ i (hi : i < l.length), w.cell? ⟨b, o + i * 4, none⟩ = some (.int .i64 l[i].kind) ∧ w.cell? ⟨b, o + i * 4 + 1, none⟩ = some (.string l[i].s) ∧ w.cell? ⟨b, o + i * 4 + 2, none⟩ = some (.string l[i].n) ∧ w.cell? ⟨b, o + i * 4 + 3, none⟩ = some (.string l[i].m))
theorem ROpsIn.below {w w' : World} {v : Value} {l : List ROp} (h : ROpsIn w v l) (hb : Below w.heap.size w w') : ROpsIn w' v l := by
  obtain ⟨a, c, hv, hl⟩ := h
  refine ⟨a, c, hv, fun hne => ?_⟩
  obtain ⟨b, o, ha, hlt, hc⟩ := hl hne
  have e : ∀ k, w'.cell? ⟨b, k, none⟩ = w.cell? ⟨b, k, none⟩ := fun k => hb.cell (p := ⟨b, k, none⟩) hlt
  refine ⟨b, o, ha, Nat.lt_of_lt_of_le hlt hb.size, fun i hi => ?_⟩
  simp only [e]
  exact hc i hi
section
variable {H : Type} {enc : TypeId × Value → H}
theorem laidOut : laidOutB Tryz.prog = true := by kernel_rfl
theorem trod_keep {t : TypeId} (hr : Tryz.prog.readableRec t = true) (hrow : t < Tryz.prog.types.size) {W W' : World} {v : Value} {d : DataW H} {ps : List MemPlace}
    (h : DataW.Trod enc Tryz.prog W 0 (fun _ => true) true t v d ps) (hb : Below W.heap.size W W') (hlt : ∀ x ∈ ps, x.block < W.heap.size) (sp : Nat → Bool) (hsp : ∀ x ∈ ps, sp x.block = true) :
    DataW.Trod enc Tryz.prog W' 0 sp true t v d ps :=
  WideElems.Trod_stays laidOut hr hrow h (fun x hx => hb.same (hlt x hx)) hsp
theorem cells9' : Tryz.prog.cellsOf 9 = 1 := by kernel_rfl
theorem add_off {a : Addr} {W : World} {v : Value} (h : W.cell? a = some v) (j : Nat) : a.add j = ⟨a.block, a.off + j, none⟩ := by
  have hspot : a = ⟨a.block, a.off, none⟩ := by
    obtain ⟨ab, ao, asp⟩ := a
    cases asp with
    | none => rfl
    | some x =>
      exfalso
      unfold World.cell? at h
      split at h <;> simp at h
  rw [hspot]
  unfold Addr.add
  split
  · rename_i h; subst h; rfl
  · rfl
theorem weights_all {t : TypeId} {n : Nat} {d : DataW H} : ∀ {l : List (DataW H)}, d ∈ l → n ∈ d.weights Tryz.prog t → n ∈ DataW.weightsAll Tryz.prog t l
  | x :: r, hd, hn => by
    simp only [DataW.weightsAll, List.mem_append]
    cases List.mem_cons.1 hd with
    | inl e => subst e; exact .inl hn
    | inr e => exact .inr (weights_all e hn)
end
def LIn (w : World) (v : Value) (l : List ByteArray) : Prop :=
  ∃ a c, v = .slice a l.length c ∧ (l ≠ [] → ∃ b o, a = some ⟨b, o, none⟩ ∧ b < w.heap.size ∧ ∀ i (hi : i < l.length), w.cell? ⟨b, o + i, none⟩ = some (.string l[i]))
theorem index44 (b o n c i : Nat) (h : i < n) (w : World) : (Instr.indexAt 44 (.slice (some ⟨b, o, none⟩) n c) (.int .i64 (i : Int))).run Tryz.prog w = .ok (.pointer (some ⟨b, o + i, none⟩)) w := by
  go_simp
section
variable {H : Type} {enc : TypeId × Value → H}
theorem read44 : Tryz.prog.readableRec 44 = true := by kernel_rfl
theorem row44 : 44 < Tryz.prog.types.size := of_decide_eq_true (by kernel_rfl)
theorem bytes9' : Tryz.prog.bytesOf 9 = 16 := by kernel_rfl
theorem open_texts {W : World} {b0 : Nat} {v : Value} {d : DataW H} {ps : List MemPlace} (hv : Value.okWide Tryz.prog W .any b0 44 v) (h : DataW.Trod enc Tryz.prog W 0 (fun _ => true) true 44 v d ps)
    (hw : ∀ n ∈ d.weights Tryz.prog 44, n ≤ 140737488351232) : ∃ l : List ByteArray, LIn W v l ∧ (∀ x ∈ l, x.data.toList.length ≤ 140737488351232) ∧ l.length ≤ 8796093022208 := by
  obtain ⟨A, n, c, rfl⟩ := okWide_slice Tryz.underlying44 hv
  obtain ⟨fuel, hf⟩ := h
  rcases open_strs Tryz.underlying44 Tryz.underlying9 cells9' hf with ⟨hc, hx⟩ | ⟨a, len, cap, m, Sx, hc, _, hl, hm, hmm, hx, hi⟩
  · have e : Value.slice A n c = .slice none 0 0 := by simpa [Value.cells] using hc
    rw [e]
    exact ⟨[], ⟨none, 0, rfl, fun h => absurd rfl h⟩, by simp, by simp⟩
  · have e : Value.slice A n c = .slice (some a) len cap := by simpa [Value.cells] using hc
    rw [e]
    have hlm : len ≤ m := by rw [hmm]; simp; exact hl
    have hlen : ((List.range len).map Sx).length = len := by simp
    obtain ⟨hd, _⟩ := Prod.mk.inj hx
    subst hd
    have hlw : (len + (m - len)) * 16 ≤ 140737488351232 := hw _ (by simp [DataW.weights, Tryz.underlying44, bytes9'])
    refine ⟨(List.range len).map Sx, ⟨some a, cap, by rw [hlen], fun hne => ?_⟩, fun x hx => ?_, by rw [hlen]; omega⟩
    · have h0 : 0 < len := by
        rcases Nat.eq_zero_or_pos len with h | h
        · subst h; exact absurd rfl hne
        · exact h
      obtain ⟨c0, _⟩ := hi 0 (by omega)
      have e0 : a.add 0 = a := by simp [Addr.add]
      rw [e0] at c0
      have hadd := add_off c0
      refine ⟨a.block, a.off, by have := hadd 0; rw [e0] at this; rw [this], World.block_lt_of_cell? W _ c0, fun i hi' => ?_⟩
      have hil : i < len := by simpa using hi'
      obtain ⟨ci, _⟩ := hi i (by omega)
      rw [hadd] at ci
      simpa using ci
    · obtain ⟨i, hil, rfl⟩ := List.mem_map.1 hx
      exact hw _ (by
        simp only [DataW.weights, Tryz.underlying44, List.mem_cons, List.mem_append]
        exact .inr (.inl (weights_all (List.mem_map.2 ⟨i, hil, rfl⟩) (by simp [DataW.weights, Tryz.underlying9]))))
end
end Go.Proofs.YtpggkfdijmnmiaaGreat
namespace Go.Proofs.YtpggkfdijmnmiaaGreat
open Go.RowKit Limbs Curve
theorem kid_ab : kidOf [97] ≠ kidOf [98] := by decide +kernel
theorem pub_one : pubOf 1 = G := by unfold pubOf; rw [mul_is (by decide) G_on, mul_one_p, (on_iff G_on).2.1]
theorem kid_b : kidOf [98] ≠ [] := by decide +kernel
theorem kid_a : kidOf [97] ≠ [] := by decide +kernel
end Go.Proofs.YtpggkfdijmnmiaaGreat
namespace Go.Proofs.YtpggkfdijmnmiaaGreat
open Go.RowKit Limbs
theorem nv1 : nv 1 = .agg #[.int .u64 1, .int .u64 0, .int .u64 0, .int .u64 0] := rfl
theorem nv0 : nv 0 = .agg #[.int .u64 0, .int .u64 0, .int .u64 0, .int .u64 0] := rfl
theorem hp1 : ∀ w, Calls Tryz.prog 11 #[.agg #[.int .u64 1, .int .u64 0, .int .u64 0, .int .u64 0]] w fun e w' => e = .returned (.tuple #[G.v, .int .i64 0]) ∧ Below w.heap.size w w' := fun w => by
  have h := public_yes 1 (by decide) w
  rw [pub_one, nv1] at h
  exact h
theorem hp0 : ∀ w, Calls Tryz.prog 11 #[.agg #[.int .u64 0, .int .u64 0, .int .u64 0, .int .u64 0]] w fun e w' => e = .returned (.tuple #[.agg #[.int .u64 0, .int .u64 0, .int .u64 0, .int .u64 0, .int .u64 0, .int .u64 0, .int .u64 0, .int .u64 0, .bool false], .int .i64 80]) ∧ Below w.heap.size w w' := fun w => by
  have h := public_no 0 (by decide) (by decide) w
  rw [nv0] at h
  exact h
theorem hsn : ∀ w, Calls Tryz.prog 14 #[nv mN, .string ⟨#[]⟩] w fun e w' => e = .returned (.tuple #[.string ⟨#[]⟩, .int .i64 80]) ∧ Below w.heap.size w w' := fun w => sign_no mN (by decide) (fun h => Nat.lt_irrefl _ h.2) _ w
theorem hmd : ∀ w, Calls Tryz.prog 47 #[.int .i64 1] w fun e w' => e = .returned (nv mN) ∧ Below w.heap.size w w' := fun w => by
  have h := mod_any 1 w
  rw [show md 1 = mN by unfold md; rw [if_neg (by decide)]] at h
  exact h
theorem find_a (g : Nat) : findK [(g, [97])] (kidOf [97]) = some g := by rw [findK, if_pos rfl]
theorem find_ab (g : Nat) : findK [(g, [97])] (kidOf [98]) = none := by rw [findK, if_neg kid_ab]; rfl
theorem find_b (g q : Nat) : findK [(g, [97]), (q, [98])] (kidOf [98]) = some q := by rw [findK, if_neg kid_ab, findK, if_pos rfl]
theorem find_no (g q : Nat) : findK [(g, [97]), (q, [98])] [] = none := by rw [findK, if_neg kid_a, findK, if_neg kid_b]; rfl
def g9 : Array Value := #[.int .u64 17627433388654248598, .int .u64 8575836109218198432, .int .u64 17923454489921339634, .int .u64 7716867327612699207, .int .u64 14678990851816772085, .int .u64 3156516839386865358, .int .u64 10297457778147434006, .int .u64 5756518291402817435, .bool false]
set_option maxHeartbeats 16000000 in
theorem fixed_any (w : World) : Calls Tryz.prog 13 #[] w fun e w' => e = .returned (.bool true) ∧ Below w.heap.size w w' := by
  have H1 := Lib.hid hp1
  have H0 := Lib.hid hp0
  have HS := Lib.hid hsn
  have HM := Lib.hid hmd
  rw [vG] at H1
  simp only [nv, num] at HS HM
  go_enter Tryz.func13, Tryz.ntmps13
  go_wp2_with fail
  refine (H1.out _).mono ?_
  rintro e w1 ⟨rfl, hb1⟩
  go_wp2_with fail
  have KG : Bk 26 (w1.alloc (.cells g9 26)) w1.heap.size g9 := Bk.new rfl
  have hbA : Below w.heap.size w (w1.alloc (.cells g9 26)) := by
    have hs := hb1.size
    go_grown
  unfold g9 at KG hbA
  generalize w1.heap.size = gp at KG ⊢
  generalize (w1.alloc (.cells #[.int .u64 17627433388654248598, .int .u64 8575836109218198432, .int .u64 17923454489921339634, .int .u64 7716867327612699207, .int .u64 14678990851816772085, .int .u64 3156516839386865358, .int .u64 10297457778147434006, .int .u64 5756518291402817435, .bool false] 26)) = wA at KG hbA ⊢
  clear hb1
  refine (H0.out wA).mono ?_
  rintro e w2 ⟨rfl, hb2⟩
  have KG2 := Lib.hid (KG.below hb2)
  have HB2 := Lib.hid (bthen hbA hb2)
  clear KG hbA hb2
  go_wp2_with fail
  refine (HM.out _).mono ?_
  rintro e w3 ⟨rfl, hb3⟩
  go_wp2_with fail
  refine (HS.out _).mono ?_
  rintro e w4 ⟨rfl, hb4⟩
  have hbz : Below w2.heap.size w2 w3 := Below.trans (show Below w2.heap.size w2 (w2.alloc _) by go_grown) (hb3.mono (by simp))
  have KG4 := Lib.hid ((KG2.out.below hbz).below hb4)
  have HB4 := Lib.hid (bthen (bthen HB2.out hbz) hb4)
  clear KG2 HB2 hbz hb3 hb4 H1 H0 HS HM
  have hnr := newRing_any [97] (by decide) w4
  have HNR := Lib.hid hnr
  clear hnr
  go_wp2_with fail
  refine HNR.out.mono ?_
  rintro e w5 ⟨r, g, rfl, hrg, hb5, hr5⟩
  have HG5 := Lib.hid hrg
  have HB5 := Lib.hid hb5
  have HR5 := Lib.hid hr5
  have htt : Calls Tryz.prog 22 #[.pointer (some ⟨r, 0, none⟩), .string ⟨#[97]⟩] w5 fun e w' => e = .returned (.int .i64 80) ∧ Below w5.heap.size w5 w' := turn_there hrg (by simp) [97] (by decide) g (find_a g)
  have HTT := Lib.hid htt
  clear htt hrg hb5 hr5 HNR
  unfold kpt
  go_wp2_with fail
  refine HTT.out.mono ?_
  rintro e w6 ⟨rfl, hb6⟩
  have HG6 := Lib.hid (HG5.out.below hb6)
  have HB6 := Lib.hid (bthen HB5.out hb6)
  have htn : Calls Tryz.prog 22 #[.pointer (some ⟨r, 0, none⟩), .string ⟨#[98]⟩] w6 fun e w' => e = .returned (.int .i64 0) ∧ ∃ q, Rg w4.heap.size w' r ([(g, [97])] ++ [(q, [98])]) ∧ Below w4.heap.size w6 w' := turn_new HG6.out HB6.out.size HR5.out (by simp) [98] (by decide) (find_ab g)
  have HTN := Lib.hid htn
  clear htn hb6 HTT HG5 HB5
  go_wp2_with fail
  refine HTN.out.mono ?_
  rintro e w7 ⟨rfl, q, hrg, hb7⟩
  have HG7 := Lib.hid hrg
  have HB7 := Lib.hid (HB6.out.trans hb7)
  have hki : Calls Tryz.prog 31 #[.pointer (some ⟨r, 0, none⟩)] w7 fun e w' => ∃ v, e = .returned v ∧ w'.ownsRow w7.heap.size 9 1 v 2 [kidV (g, [97]), kidV (q, [98])] ∧ Below w7.heap.size w7 w' := kids_any hrg (by simp) (by simp)
  have HKI := Lib.hid hki
  clear hki hrg hb7 HTN HG6 HB6
  go_wp2_with fail
  refine HKI.out.mono ?_
  rintro e w8 ⟨v, rfl, ho, hb8⟩
  obtain ⟨a8, c8, rfl⟩ := own_slice (n := 1) ho
  have HG8 := Lib.hid (HG7.out.below hb8)
  have HB8 := Lib.hid (bthen HB7.out hb8)
  have hmc : Calls Tryz.prog 24 #[.pointer (some ⟨r, 0, none⟩), .string ⟨#[115]⟩] w8 fun e w' => e = .returned (.tuple #[.string ⟨(kidOf [98]).toArray⟩, .string ⟨(Hs.macL (macOf [98]) [115]).toArray⟩]) ∧ Below w8.heap.size w8 w' := rmac_any (ks := [(g, [97])]) (k := (q, [98])) HG8.out (by simp) (show ([98] : List UInt8).length ≤ 140737488351232 by decide) [115] (by decide)
  have HMC := Lib.hid hmc
  clear hmc ho hb8 HKI HG7 HB7
  go_wp2_with fail
  refine HMC.out.mono ?_
  rintro e w9 ⟨rfl, hb9⟩
  have HG9 := Lib.hid (HG8.out.below hb9)
  have HB9 := Lib.hid (bthen HB8.out hb9)
  obtain ⟨mc, hmc⟩ : ∃ m, m = Hs.macL (macOf [98]) [115] := ⟨_, rfl⟩
  have HMC2 := Lib.hid hmc
  rw [← hmc]
  clear hmc hb9 HMC HG8 HB8
  obtain ⟨kd, hkd⟩ : ∃ m, m = kidOf [98] := ⟨_, rfl⟩
  have HKD := Lib.hid hkd
  rw [← hkd]
  clear hkd
  go_wp2_with fail
  refine Pl.tF (fun _ _ _ _ w' => Below w9.heap.size w9 w') gp r ⟨kd.toArray⟩ ⟨mc.toArray⟩ w9 ?c1 ?c19 ?c24 ?c29 ?lk ?hq ?w0 ?h
  case c1 =>
    intro w1 h
    refine (kBase w1).mono ?_
    rintro e w2 ⟨rfl, hb⟩
    exact ⟨rfl, bthen h hb⟩
  case c19 =>
    intro w1 h
    have := vouch_some (HG9.out.below h) (by simp) kd [115] mc (by decide) (by rw [HMC2.out, macL_len]; decide) (q, [98]) (by simp) (by rw [HKD.out]; exact find_b g q)
    refine this.mono ?_
    rintro e w2 ⟨rfl, hb⟩
    exact ⟨by rw [HMC2.out]; simp, bthen h hb⟩
  case c24 =>
    intro w1 h
    refine (vouch_none (HG9.out.below h) (by simp) [] ⟨#[115]⟩ ⟨mc.toArray⟩ (find_no g q)).mono ?_
    rintro e w2 ⟨rfl, hb⟩
    exact ⟨rfl, bthen h hb⟩
  case c29 =>
    intro w1 h
    have := verify_empty G.x G.y G.i ⟨#[]⟩ w1
    rw [show pn G.x G.y G.i = G.v from rfl, vG] at this
    refine this.mono ?_
    rintro e w2 ⟨rfl, hb⟩
    exact ⟨rfl, bthen h hb⟩
  case lk =>
    intro b1 b19 b24 b29 w1 h
    obtain ⟨⟨d0, d1, d2, d3⟩, ⟨d4, d5, d6, d7⟩, d8⟩ := (KG4.out.below (bthen HB9.out h)).cells9
    exact ⟨d0, d1, d2, d3, d4, d5, d6, d7, d8⟩
  case hq =>
    intro w1
    have := eqP G.x G.y G.x G.y G.i G.i G_ok.1 G_ok.2 G_ok.1 G_ok.2 w1
    rw [show pn G.x G.y G.i = G.v from rfl, vG] at this
    rw [this]
    simp
  case w0 => exact ⟨rfl, rfl, rfl, Nat.le_refl _, fun _ _ => rfl⟩
  case h =>
  intro w1 h
  go_wp2_with fail
  go_returns
  exact ⟨rfl, bthen (bthen HB4.out HB9.out) h⟩
end Go.Proofs.YtpggkfdijmnmiaaGreat
namespace Go.Proofs.YtpggkfdijmnmiaaGreat
open Curve
theorem pigeon : ∀ (m n : Nat) (f : Nat → Nat), (∀ i, i < n → f i < m) → (∀ i j, i < n → j < n → f i = f j → i = j) → n ≤ m
  | 0, n, f, h, _ => by
    rcases Nat.eq_zero_or_pos n with h0 | h0
    · omega
    · exact absurd (h 0 h0) (by omega)
  | m + 1, 0, f, h, inj => by omega
  | m + 1, n + 1, f, h, inj => by
    have := pigeon m n (fun i => if f i = m then f n else f i) (fun i hi => by
      show (if f i = m then f n else f i) < m
      have h1 := h i (by omega)
      have h2 := h n (by omega)
      by_cases h3 : f i = m
      · rw [if_pos h3]
        have : f n ≠ m := fun h4 => by
          have := inj i n (by omega) (by omega) (by rw [h3, h4])
          omega
        omega
      · rw [if_neg h3]; omega) (fun i j hi hj he => by
      have he' : (if f i = m then f n else f i) = (if f j = m then f n else f j) := he
      by_cases h3 : f i = m
      · by_cases h4 : f j = m
        · exact inj i j (by omega) (by omega) (by rw [h3, h4])
        · rw [if_pos h3, if_neg h4] at he'
          have := inj n j (by omega) (by omega) he'
          omega
      · by_cases h4 : f j = m
        · rw [if_neg h3, if_pos h4] at he'
          have := inj i n (by omega) (by omega) he'
          omega
        · rw [if_neg h3, if_neg h4] at he'
          exact inj i j (by omega) (by omega) he')
    omega
def code : Pt (Fin PP) → Nat
  | .far => 2 * PP
  | .aff x y => 2 * x.val + y.val % 2
theorem code_lt (P : Pt (Fin PP)) : code P < 2 * PP + 1 := by
  cases P with
  | far => show 2 * PP < 2 * PP + 1; omega
  | aff x y =>
    have := x.isLt
    show 2 * x.val + y.val % 2 < 2 * PP + 1
    omega
theorem neg_val {y : Fin PP} (h : y ≠ 0) : (-y).val = PP - y.val := by
  have h0 : y.val ≠ 0 := fun h0 => h (Fin.ext h0)
  have := y.isLt
  show (PP - y.val) % PP = _
  exact Nat.mod_eq_of_lt (by omega)
theorem PP_odd : PP % 2 = 1 := by decide +kernel
theorem code_inj {P Q : Pt (Fin PP)} (hP : On aP bP P) (hQ : On aP bP Q) (h : code P = code Q) : P = Q := by
  cases P with
  | far =>
    cases Q with
    | far => rfl
    | aff x y =>
      have := x.isLt
      have h' : 2 * PP = 2 * x.val + y.val % 2 := h
      omega
  | aff x y =>
    cases Q with
    | far =>
      have := x.isLt
      have h' : 2 * x.val + y.val % 2 = 2 * PP := h
      omega
    | aff u v =>
      have h' : 2 * x.val + y.val % 2 = 2 * u.val + v.val % 2 := h
      have hx : x = u := Fin.ext (by omega)
      subst hx
      have hy : y.val % 2 = v.val % 2 := by omega
      rcases fit.mul_zero (sq_x hP hQ) with h5 | h5
      · rw [eq_of_sub h5]
      · have e := neg_of_add h5
        have hv := neg_val (fit.y hQ)
        rw [← e] at hv
        have := v.isLt
        have := PP_odd
        omega
def GP : Pt (Fin PP) := toPt G
theorem GP_on : On aP bP GP := (on_iff G_on).1
theorem G_N : Po.mul mN G = ⟨0, 0, true⟩ := by
  have h : (J.begin G.x G.y G.i).mulN mN 64 = J.far := by decide +kernel
  unfold Po.mul
  rw [h]
  exact J.point_far rfl
theorem of_far_inj {P : Pt (Fin PP)} (h : ofPt P = ⟨0, 0, true⟩) : P = .far := by
  cases P with
  | far => rfl
  | aff x y => injection h with _ _ h; cases h
theorem GP_N : mul GP mN = .far := by
  have := mul_is (k := mN) (by decide +kernel) G_on
  rw [G_N] at this
  exact of_far_inj this.symm
theorem far_mul (n : Nat) : mul .far n = .far := by
  induction n with
  | zero => rfl
  | succ n ih => rw [mul_succ_p, ih]; rfl
theorem canc_p {P Q R : Pt (Fin PP)} (hP : On aP bP P) (hQ : On aP bP Q) (hR : On aP bP R) (h : sum inv aP P Q = sum inv aP P R) : Q = R := by
  have h1 := sum_back fit hP hQ
  rw [h, sum_back fit hP hR] at h1
  exact h1.symm
theorem mN_pos : 0 < mN := by decide +kernel
theorem GP_mod (n : Nat) : mul GP n = mul GP (n % mN) := by
  have e := Nat.div_add_mod n mN
  have := mul_add GP_on (mN * (n / mN)) (n % mN)
  rw [e] at this
  rw [this, Nat.mul_comm, ← mul_mul GP_on, GP_N, far_mul, far_sum]
theorem GP_ne : GP ≠ .far := by
  intro h
  have : toPt G = .far := h
  cases this
theorem GP_order {d : Nat} (h0 : 0 < d) (h1 : d < mN) : mul GP d ≠ .far := by
  intro h
  have hd : ¬ mN ∣ d := fun hd => by have := Nat.le_of_dvd h0 hd; omega
  have hpr : Primes.Prm mN := Primes.N256
  have hf := Primes.fermat hpr hd
  have e : mul GP (d ^ (mN - 1)) = .far := by
    rw [show mN - 1 = (mN - 2).succ by have : 2 < mN := by decide +kernel
                                       omega, Nat.pow_succ, ← mul_mul GP_on, h, far_mul]
  rw [GP_mod] at e
  rw [hf, mul_one_p] at e
  exact GP_ne e
theorem GP_inj {r s : Nat} (hr : r < mN) (hs : s < mN) (h : mul GP r = mul GP s) : r = s := by
  rcases Nat.lt_trichotomy r s with hlt | he | hlt
  · exfalso
    have e := mul_add GP_on r (s - r)
    rw [show r + (s - r) = s by omega, ← h] at e
    have := canc_p (mul_on GP_on r) on_far_p (mul_on GP_on (s - r)) (by rw [sum_far]; exact e)
    exact GP_order (by omega) (by omega) this.symm
  · exact he
  · exfalso
    have e := mul_add GP_on s (r - s)
    rw [show s + (r - s) = r by omega, h] at e
    have := canc_p (mul_on GP_on s) on_far_p (mul_on GP_on (r - s)) (by rw [sum_far]; exact e)
    exact GP_order (by omega) (by omega) this.symm
def three (Q : Pt (Fin PP)) (t : Nat) : Pt (Fin PP) := sum inv aP (mul Q (t / mN)) (mul GP (t % mN))
theorem three_on {Q : Pt (Fin PP)} (h : On aP bP Q) (t : Nat) : On aP bP (three Q t) := on_sum fit (mul_on h _) (mul_on GP_on _)
theorem three_step {Q : Pt (Fin PP)} (h : On aP bP Q) {a b r s : Nat} (hab : a < b) (hr : r < mN) (hs : s < mN) (he : sum inv aP (mul Q a) (mul GP r) = sum inv aP (mul Q b) (mul GP s)) : ∃ k, mul Q (b - a) = mul GP k := by
  have e := mul_add h a (b - a)
  rw [show a + (b - a) = b by omega] at e
  rw [e, sum_assoc fit (mul_on h a) (mul_on h (b - a)) (mul_on GP_on s)] at he
  have h2 := canc_p (mul_on h a) (mul_on GP_on r) (on_sum fit (mul_on h (b - a)) (mul_on GP_on s)) he
  refine ⟨r + (mN - s), ?_⟩
  rw [mul_add GP_on, h2, sum_assoc fit (mul_on h _) (mul_on GP_on s) (mul_on GP_on _), ← mul_add GP_on, show s + (mN - s) = mN by omega, GP_N, sum_far]
theorem c12 {a b : Nat} (h : a < b) (hb : b < 3) : b - a = 1 ∨ b - a = 2 := by omega
theorem half_or {Q : Pt (Fin PP)} (h : On aP bP Q) : ∃ c k, (c = 1 ∨ c = 2) ∧ mul Q c = mul GP k := by
  refine Classical.byContradiction fun hn => ?_
  have hle := pigeon (2 * PP + 1) (3 * mN) (fun t => code (three Q t)) (fun t _ => code_lt _) (fun t u ht hu he => by
    have he' := code_inj (three_on h t) (three_on h u) he
    unfold three at he'
    have hp := mN_pos
    have ht1 := Nat.mod_lt t hp
    have hu1 := Nat.mod_lt u hp
    have ht2 : t / mN < 3 := Nat.div_lt_of_lt_mul (by omega)
    have hu2 : u / mN < 3 := Nat.div_lt_of_lt_mul (by omega)
    rcases Nat.lt_trichotomy (t / mN) (u / mN) with hlt | heq | hlt
    · obtain ⟨k, hk⟩ := three_step h hlt ht1 hu1 he'
      exact absurd ⟨u / mN - t / mN, k, c12 hlt hu2, hk⟩ hn
    · rw [heq] at he'
      have h3 := GP_inj ht1 hu1 (canc_p (mul_on h _) (mul_on GP_on _) (mul_on GP_on _) he')
      rw [← Nat.div_add_mod t mN, ← Nat.div_add_mod u mN, heq, h3]
    · obtain ⟨k, hk⟩ := three_step h hlt hu1 ht1 he'.symm
      exact absurd ⟨t / mN - u / mN, k, c12 hlt ht2, hk⟩ hn)
  have : 2 * PP + 1 < 3 * mN := by decide +kernel
  omega
theorem no_half {T : Pt (Fin PP)} (h : On aP bP T) (h2 : sum inv aP T T = .far) : T = .far := by
  cases T with
  | far => rfl
  | aff x y =>
    exfalso
    have hy := fit.yy h
    simp only [sum] at h2
    rw [if_neg (fun hc => hy (opp_z hc.2))] at h2
    cases h2
theorem mul_N {Q : Pt (Fin PP)} (h : On aP bP Q) : mul Q mN = .far := by
  obtain ⟨c, k, hc, hk⟩ := half_or h
  have h1 : mul (mul Q c) mN = .far := by
    rw [hk, mul_mul GP_on, Nat.mul_comm, ← mul_mul GP_on, GP_N, far_mul]
  rw [mul_mul h] at h1
  have hg : ∀ n, mul Q (n * c) = .far → mul Q n = .far := fun n hn => by
    rcases hc with rfl | rfl
    · rwa [Nat.mul_one] at hn
    · refine no_half (mul_on h n) ?_
      rw [mul_two h, Nat.mul_comm]
      exact hn
  exact hg mN h1
theorem mul_mod {Q : Pt (Fin PP)} (h : On aP bP Q) (n : Nat) : mul Q (n % mN) = mul Q n := by
  have e := Nat.div_add_mod n mN
  have := mul_add h (mN * (n / mN)) (n % mN)
  rw [e] at this
  rw [this, Nat.mul_comm, ← mul_mul h, mul_N h, far_mul, far_sum]
end Go.Proofs.YtpggkfdijmnmiaaGreat
namespace Go.Proofs.YtpggkfdijmnmiaaGreat
open Curve Limbs
instance : NeZero mN := ⟨by decide +kernel⟩
def cn (n : Nat) : Fin mN := ⟨n % mN, Nat.mod_lt _ mN_pos⟩
theorem cn_eq {a b : Nat} : cn a = cn b ↔ a % mN = b % mN := ⟨fun h => congrArg Fin.val h, fun h => Fin.ext h⟩
theorem cn_mod (a : Nat) : cn (a % mN) = cn a := cn_eq.2 (Nat.mod_mod _ _)
theorem cn_add (a b : Nat) : cn (a + b) = cn a + cn b := Fin.ext (Nat.add_mod _ _ _)
theorem cn_mul (a b : Nat) : cn (a * b) = cn a * cn b := Fin.ext (Nat.mul_mod _ _ _)
theorem cn_one : cn 1 = 1 := by apply Fin.ext; decide +kernel
def iM (t : Nat) : Nat := t ^ (mN - 2) % mN
theorem iM_lt (t : Nat) : iM t < mN := Nat.mod_lt _ mN_pos
theorem cn_inv {t : Nat} (h0 : 0 < t) (h1 : t < mN) : cn t * cn (iM t) = 1 := by
  have hd : ¬ mN ∣ t := fun hd => by have := Nat.le_of_dvd h0 hd; omega
  have hf : t ^ (mN - 1) % mN = 1 := Primes.fermat (p := mN) Primes.N256 hd
  have e : t * t ^ (mN - 2) = t ^ (mN - 1) := by
    rw [← Nat.pow_succ', show (mN - 2).succ = mN - 1 by decide +kernel]
  rw [iM, cn_mod, ← cn_mul, e, ← cn_one, cn_eq, hf, Nat.mod_eq_of_lt (show 1 < mN by decide +kernel)]
def rOf (k : Nat) : Nat := (pubOf k).x % mN
def tOf (d e k : Nat) : Nat := (e + rOf k * d % mN) % mN * iM k % mN
theorem rOf_lt (k : Nat) : rOf k < mN := Nat.mod_lt _ mN_pos
theorem tOf_lt (d e k : Nat) : tOf d e k < mN := Nat.mod_lt _ mN_pos
def fitS (q : Po) (e r t : Nat) : Bool := !((pubOf (e * iM t % mN)).add (Po.mul (r * iM t % mN) q)).i && decide (((pubOf (e * iM t % mN)).add (Po.mul (r * iM t % mN) q)).x % mN = r)
theorem pub_is (k : Nat) (hk : k < W256) : pubOf k = ofPt (mul GP k) := mul_is hk G_on
theorem mN_W : mN < W256 := by decide +kernel
theorem pub_on (k : Nat) (hk : k < W256) : (pubOf k).on = true ∧ toPt (pubOf k) = mul GP k ∧ (pubOf k).ok := by
  rw [pub_is k hk]
  exact on_ofPt (mul_on GP_on k)
theorem two_is (d u v : Nat) (hd : d < mN) (hu : u < mN) (hv : v < mN) : (pubOf u).add (Po.mul v (pubOf d)) = ofPt (mul GP ((u + v * d) % mN)) := by
  have hW := mN_W
  obtain ⟨o1, p1, _⟩ := pub_on d (by omega)
  obtain ⟨o2, p2, _⟩ := pub_on u (by omega)
  have e1 : Po.mul v (pubOf d) = ofPt (mul GP (v * d)) := by
    rw [mul_is (by omega) o1, p1, mul_mul GP_on]
  obtain ⟨o3, p3, _⟩ := on_ofPt (mul_on GP_on (v * d))
  rw [e1, add_is o2 o3, p2, p3, ← mul_add GP_on, ← GP_mod]
theorem far_x {P : Pt (Fin PP)} (h : (ofPt P).i = true) : (ofPt P).x = 0 := by
  cases P with
  | far => rfl
  | aff x y => cases h
theorem not_far {P : Pt (Fin PP)} (h : (ofPt P).x ≠ 0) : (ofPt P).i = false := by
  cases hi : (ofPt P).i with
  | false => rfl
  | true => exact absurd (far_x hi) h
theorem x_ne {k : Nat} (h : rOf k ≠ 0) : (pubOf k).x ≠ 0 := fun h0 => h (by rw [rOf, h0, Nat.zero_mod])
theorem fit_k {E R D T K I Sv : Fin mN} (hT : T = (E + R * D) * I) (hK : K * I = 1) (hS : T * Sv = 1) : E * Sv + R * Sv * D = K := by grobner
theorem cn_t (d e k : Nat) : cn (tOf d e k) = (cn e + cn (rOf k) * cn d) * cn (iM k) := by
  rw [tOf, cn_mod, cn_mul, cn_mod, cn_add, cn_mod, cn_mul]
theorem cn_u (d e r t : Nat) : cn ((e * iM t % mN + r * iM t % mN * d) % mN) = cn e * cn (iM t) + cn r * cn (iM t) * cn d := by
  rw [cn_mod, cn_add, cn_mod, cn_mul, cn_mul, cn_mod, cn_mul]
theorem fits_sign {d e k : Nat} (hd : 0 < d ∧ d < mN) (hk : 0 < k ∧ k < mN) (hr : rOf k ≠ 0) (ht : tOf d e k ≠ 0) : fitS (pubOf d) e (rOf k) (tOf d e k) = true := by
  have hp := two_is d (e * iM (tOf d e k) % mN) (rOf k * iM (tOf d e k) % mN) hd.2 (Nat.mod_lt _ mN_pos) (Nat.mod_lt _ mN_pos)
  have hu : (e * iM (tOf d e k) % mN + rOf k * iM (tOf d e k) % mN * d) % mN = k := by
    have h1 := fit_k (cn_t d e k) (cn_inv hk.1 hk.2) (cn_inv (Nat.pos_of_ne_zero ht) (tOf_lt d e k))
    rw [← cn_u, cn_eq, Nat.mod_mod, Nat.mod_eq_of_lt hk.2] at h1
    exact h1
  rw [hu, ← pub_is k (Nat.lt_trans hk.2 mN_W)] at hp
  have hi : (pubOf k).i = false := by
    have := x_ne hr
    rw [pub_is k (Nat.lt_trans hk.2 mN_W)] at this ⊢
    exact not_far this
  unfold fitS
  rw [hp, hi]
  simp [rOf]
theorem Po.neg_x (P : Pt (Fin PP)) : (ofPt (Curve.neg P)).x = (ofPt P).x ∧ (ofPt (Curve.neg P)).i = (ofPt P).i := by
  cases P with
  | far => exact ⟨rfl, rfl⟩
  | aff x y => exact ⟨rfl, rfl⟩
end Go.Proofs.YtpggkfdijmnmiaaGreat
namespace Go.Proofs.YtpggkfdijmnmiaaGreat
open Go.RowKit Limbs
theorem md1' : md 1 = mN := by unfold md; rw [if_neg (by decide)]
set_option maxHeartbeats 8000000 in
theorem smul_any (a b : Nat) (ha : a < W256) (hb : b < W256) (w : World) : Calls Tryz.prog 113 #[nv a, nv b] w fun e w' => e = .returned (nv (a * b % mN)) ∧ Below w.heap.size w w' := by
  have h := mul_any 1 a b ha hb
  rw [md1'] at h
  have HM := Lib.hid h
  clear h
  generalize a * b % mN = z at *
  simp only [nv, num] at HM ⊢
  go_enter Tryz.func113, Tryz.ntmps113
  go_wp2_with fail
  refine (keep w.heap.size w (HM.out _) (by go_grown) (Nat.le_refl _)).mono ?_
  rintro e w1 ⟨rfl, hb1, hk⟩
  have KR : Bk 24 w1 (w.heap.size + 1 + 1) cs0 := Bk.below (Bk.new (by simp)) hk
  obtain ⟨f0, f1, f2, f3⟩ := KR.fros
  obtain ⟨j0, j1, j2, j3⟩ := KR.cells
  go_wp2_with fail
  refine ret_cell rfl (w.heap.size + 1 + 1) z rfl (Bk.put KR) rfl ⟨rfl, ?_⟩
  go_grown
set_option maxHeartbeats 8000000 in
theorem sinv_any (a : Nat) (h0 : 0 < a) (h1 : a < mN) (w : World) : Calls Tryz.prog 112 #[nv a] w fun e w' => e = .returned (nv (iM a)) ∧ Below w.heap.size w w' := by
  have h := inv_any 1 a (Nat.lt_trans h1 mN_W)
  rw [md1', Nat.mod_eq_of_lt h1, if_neg (by omega)] at h
  have HI : Hid (∀ w, Calls Tryz.prog 157 #[.int .i64 1, nv a] w fun e w' => e = .returned (.tuple #[nv (iM a), .int .i64 0]) ∧ Below w.heap.size w w') := Lib.hid h
  clear h h0 h1
  generalize iM a = z at *
  simp only [nv, num] at HI ⊢
  go_enter Tryz.func112, Tryz.ntmps112
  go_wp2_with fail
  refine (keep w.heap.size w (HI.out _) (by go_grown) (Nat.le_refl _)).mono ?_
  rintro e w1 ⟨rfl, hb1, hk⟩
  have KR : Bk 24 w1 (w.heap.size + 1) cs0 := Bk.below (Bk.new (by simp)) hk
  obtain ⟨f0, f1, f2, f3⟩ := KR.frosA
  obtain ⟨j0, j1, j2, j3⟩ := KR.cellsA
  have hne : w.heap.size + 1 ≠ w1.heap.size := Nat.ne_of_lt KR.lt
  go_wp2_with fail
  refine ret_cell rfl (w.heap.size + 1) z rfl (Bk.put (Bk.alloc KR)) rfl ⟨rfl, ?_⟩
  have hsz := hb1.size
  go_grown
set_option maxHeartbeats 8000000 in
theorem sumOf_any (s : List UInt8) (hs : s.length ≤ 140737488351232) (w : World) : Calls Tryz.prog 49 #[.string ⟨s.toArray⟩] w fun e w' => e = .returned (nv (bv (Hs.sumL s) % mN)) ∧ Below w.heap.size w w' := by
  have HS := Lib.hid (fun w => Hs.sum_any s (by omega) w)
  have h := fun w => reduce_any 1 (Hs.sumL s) (by rw [Hs.sum_length]; decide) w
  rw [md1'] at h
  have HR := Lib.hid h
  clear h hs
  generalize bv (Hs.sumL s) % mN = z at *
  generalize Hs.sumL s = l at *
  simp only [nv, num] at HR ⊢
  go_enter Tryz.func49, Tryz.ntmps49
  go_wp2_with fail
  refine (keep w.heap.size w (HS.out _) (by go_grown) (Nat.le_refl _)).mono ?_
  rintro e w1 ⟨rfl, hb1, hk⟩
  have KR : Bk 24 w1 w.heap.size cs0 := Bk.below (Bk.new rfl) hk
  clear hk
  go_wp2_with fail
  refine (keep w.heap.size w (HR.out _) hb1 (Nat.le_refl _)).mono ?_
  rintro e w2 ⟨rfl, hb2, hk2⟩
  have KR2 := KR.below hk2
  obtain ⟨f0, f1, f2, f3⟩ := KR2.fros
  obtain ⟨j0, j1, j2, j3⟩ := KR2.cells
  clear hk2 KR
  go_wp2_with fail
  refine ret_cell rfl w.heap.size z rfl (Bk.put KR2) rfl ⟨rfl, ?_⟩
  go_grown
def NW (w0 : World) (ga gz z : Nat) (b7 : Bool) (w : World) : Prop :=
  Below w0.heap.size w0 w ∧ w0.heap.size ≤ ga ∧ gz ≠ ga ∧ Bk 24 w gz (cs4 z) ∧ ∃ d0 d1 d2 d3, Bk 24 w ga #[d0, d1, d2, d3] ∧ (b7 = true → Bk 24 w ga (cs4 z))
theorem NW.start {w w1 : World} {z : Nat} (KR : Bk 24 w1 w.heap.size cs0) (hb : Below w.heap.size w w1) : NW w w.heap.size w1.heap.size z false (w1.alloc (.cells (cs4 z) 24)).drew :=
  ⟨(hb.alloc hb.size _).drew, Nat.le_refl _, Nat.ne_of_gt KR.lt, Bk.new rfl, _, _, _, _, Bk.alloc KR, fun h => by cases h⟩
theorem NW.on {w0 w w' : World} {ga gz z : Nat} {b : Bool} (h : NW w0 ga gz z b w) (hb : Below w.heap.size w w') : NW w0 ga gz z b w' := by
  obtain ⟨h1, h2, h3, h4, d0, d1, d2, d3, h5, h6⟩ := h
  exact ⟨h1.trans (hb.mono h1.size), h2, h3, h4.below hb, d0, d1, d2, d3, h5.below hb, fun e => (h6 e).below hb⟩
theorem NW.put {w0 w : World} {ga gz z : Nat} {b : Bool} (h : NW w0 ga gz z b w) : ∃ d0 d1 d2 d3, Bk 24 w ga #[d0, d1, d2, d3] ∧ NW w0 ga gz z true ((((w.setCell ⟨ga, 0, none⟩ (.int .u64 (lb z 0 : Nat))).setCell ⟨ga, 1, none⟩ (.int .u64 (lb z 1 : Nat))).setCell ⟨ga, 2, none⟩ (.int .u64 (lb z 2 : Nat))).setCell ⟨ga, 3, none⟩ (.int .u64 (lb z 3 : Nat))) := by
  obtain ⟨h1, h2, h3, h4, d0, d1, d2, d3, h5, h6⟩ := h
  refine ⟨d0, d1, d2, d3, h5, ?_, h2, h3, Bk.puto h3 h4, _, _, _, _, Bk.put h5, fun _ => Bk.put h5⟩
  exact (((h1.setCell (p := ⟨ga, 0, none⟩) h2 _).setCell (p := ⟨ga, 1, none⟩) h2 _).setCell (p := ⟨ga, 2, none⟩) h2 _).setCell (p := ⟨ga, 3, none⟩) h2 _
set_option maxHeartbeats 8000000 in
theorem number_yes (s : List UInt8) (hl : s.length = 32) (hb : bv s < mN) (w : World) : Calls Tryz.prog 60 #[.string ⟨s.toArray⟩] w fun e w' => e = .returned (.tuple #[nv (bv s), .bool (decide (0 < bv s ∧ bv s < mN))]) ∧ Below w.heap.size w w' := by
  have h := of_any 1 s (by omega)
  rw [md1', if_pos ⟨hl, hb⟩] at h
  have HO := Lib.hid h
  have HI := Lib.hid (inRange_any (bv s) (Nat.lt_trans hb mN_W))
  clear h hl hb
  generalize decide (0 < bv s ∧ bv s < mN) = ok at *
  generalize bv s = z at *
  simp only [nv, num] at HO HI ⊢
  go_enter Tryz.func60, Tryz.ntmps60
  go_wp2_with fail
  refine (keep w.heap.size w (HO.out _) (by go_grown) (Nat.le_refl _)).mono ?_
  rintro e w1 ⟨rfl, hb1, hk⟩
  have KR : Bk 24 w1 w.heap.size cs0 := Bk.below (Bk.new rfl) hk
  clear hk
  go_wp2_with fail
  have HN : Hid (NW w w.heap.size w1.heap.size z false (w1.alloc (.cells #[.int .u64 (lb z 0 : Nat), .int .u64 (lb z 1 : Nat), .int .u64 (lb z 2 : Nat), .int .u64 (lb z 3 : Nat)] 24)).drew) := Lib.hid (NW.start KR hb1)
  clear KR hb1
  generalize w1.alloc (.cells #[.int .u64 (lb z 0 : Nat), .int .u64 (lb z 1 : Nat), .int .u64 (lb z 2 : Nat), .int .u64 (lb z 3 : Nat)] 24) = W at HN ⊢
  generalize w1.heap.size = ga at HN ⊢
  refine Pl.tN (fun _ b7 w' => NW w w.heap.size ga z b7 w') w.heap.size ga z ok W ?c5 ?c7 ?lz HN.out ?h
  case c5 =>
    intro w' h
    refine (HI.out w').mono ?_
    rintro e w2 ⟨rfl, hb⟩
    exact ⟨rfl, h.on hb⟩
  case c7 => exact fun w' h => h.put
  case lz => exact fun _ _ w' h => h.2.2.2.1.cells
  case h =>
  rintro w2 ⟨hb, _, _, _, _, _, _, _, _, hk⟩
  have K := hk rfl
  clear hk
  go_wp2_with fail
  exact ret_cell2 rfl w.heap.size z (.bool ok) rfl rfl K rfl ⟨rfl, hb⟩
set_option maxHeartbeats 8000000 in
theorem number_no (s : List UInt8) (hs : s.length ≤ 140737488351232) (hn : ¬ (s.length = 32 ∧ bv s < mN)) (w : World) : Calls Tryz.prog 60 #[.string ⟨s.toArray⟩] w fun e w' => e = .returned (.tuple #[nv 0, .bool false]) ∧ Below w.heap.size w w' := by
  have h := of_any 1 s hs
  rw [md1', if_neg hn] at h
  obtain ⟨z, hz⟩ : ∃ z, z = 0 := ⟨_, rfl⟩
  rw [← hz] at h ⊢
  have HO := Lib.hid h
  clear h hs hn hz
  simp only [nv, num] at HO ⊢
  go_enter Tryz.func60, Tryz.ntmps60
  go_wp2_with fail
  refine (keep w.heap.size w (HO.out _) (by go_grown) (Nat.le_refl _)).mono ?_
  rintro e w1 ⟨rfl, hb1, hk⟩
  have KR : Bk 24 w1 w.heap.size cs0 := Bk.below (Bk.new rfl) hk
  clear hk
  go_wp2_with fail
  have HN : Hid (NW w w.heap.size w1.heap.size z false (w1.alloc (.cells #[.int .u64 (lb z 0 : Nat), .int .u64 (lb z 1 : Nat), .int .u64 (lb z 2 : Nat), .int .u64 (lb z 3 : Nat)] 24)).drew) := Lib.hid (NW.start KR hb1)
  clear KR hb1
  generalize w1.alloc (.cells #[.int .u64 (lb z 0 : Nat), .int .u64 (lb z 1 : Nat), .int .u64 (lb z 2 : Nat), .int .u64 (lb z 3 : Nat)] 24) = W at HN ⊢
  generalize w1.heap.size = ga at HN ⊢
  refine Pl.tM (fun b7 w' => NW w w.heap.size ga z b7 w') w.heap.size ga z W ?c7 ?lz HN.out ?h
  case c7 => exact fun w' h => h.put
  case lz => exact fun _ w' h => h.2.2.2.1.cells
  case h =>
  rintro w2 ⟨hb, _, _, _, _, _, _, _, _, hk⟩
  have K := hk rfl
  clear hk
  go_wp2_with fail
  exact ret_cell2 rfl w.heap.size z (.bool false) rfl rfl K rfl ⟨rfl, hb⟩
end Go.Proofs.YtpggkfdijmnmiaaGreat
namespace Go.Proofs.YtpggkfdijmnmiaaGreat
open Go.RowKit Go.Sort Limbs
theorem mul_po {k : Nat} {p : Po} (hk : k < W256) (hp : p.on = true) : (Po.mul k p).on = true ∧ (Po.mul k p).ok := by
  rw [mul_is hk hp]
  have h := on_ofPt (mul_on (on_iff hp).1 k)
  exact ⟨h.1, h.2.2⟩
theorem add_po {p q : Po} (hp : p.on = true) (hq : q.on = true) : (p.add q).ok := by
  rw [add_is hp hq]
  exact (on_ofPt (Curve.on_sum Curve.fit (on_iff hp).1 (on_iff hq).1)).2.2
set_option maxHeartbeats 16000000 in
theorem fits_any (q : Po) (hq : q.on = true) (okq : q.ok) (e r t : Nat) (he : e < mN) (hr : r < mN) (ht0 : 0 < t) (ht : t < mN) (w : World) : Calls Tryz.prog 62 #[q.v, nv e, nv r, nv t] w fun z w' => z = .returned (.bool (fitS q e r t)) ∧ Below w.heap.size w w' := by
  have hW := mN_W
  have hb := iM_lt t
  have hrb : r * iM t % mN < W256 := Nat.lt_trans (Nat.mod_lt _ mN_pos) hW
  have heb : e * iM t % mN < W256 := Nat.lt_trans (Nat.mod_lt _ mN_pos) hW
  have HI := Lib.hid (sinv_any t ht0 ht)
  have HM1 := Lib.hid (smul_any r (iM t) (by omega) (by omega))
  have HM2 := Lib.hid (smul_any e (iM t) (by omega) (by omega))
  have HP := Lib.hid (mulP hrb hq okq)
  have HT := Lib.hid (timesBase_any (e * iM t % mN) heb)
  obtain ⟨o1, k1⟩ := mul_po hrb hq
  obtain ⟨o2, _, k2⟩ := pub_on (e * iM t % mN) heb
  have HA := Lib.hid (addP o2 k2 o1 k1)
  have ok3 := add_po o2 o1
  have hf : fitS q e r t = (!((pubOf (e * iM t % mN)).add (Po.mul (r * iM t % mN) q)).i && decide (((pubOf (e * iM t % mN)).add (Po.mul (r * iM t % mN) q)).x % mN = r)) := rfl
  rw [hf]
  have HL := Lib.hid (sleft_any ((pubOf (e * iM t % mN)).add (Po.mul (r * iM t % mN) q)).x ok3.1)
  have HE := Lib.hid (eqN (((pubOf (e * iM t % mN)).add (Po.mul (r * iM t % mN) q)).x % mN) r (Nat.lt_trans (Nat.mod_lt _ mN_pos) hW) (by omega))
  clear hf ok3 o1 o2 k1 k2 hb hrb heb hW he hr ht0 ht hq okq
  generalize (pubOf (e * iM t % mN)).add (Po.mul (r * iM t % mN) q) = P at *
  generalize pubOf (e * iM t % mN) = A at *
  generalize Po.mul (r * iM t % mN) q = B at *
  generalize e * iM t % mN = eb at *
  generalize r * iM t % mN = rb at *
  generalize iM t = b at *
  obtain ⟨m, n, o⟩ := P
  obtain ⟨x2, y2, i2⟩ := A
  obtain ⟨u, v, k⟩ := B
  obtain ⟨x, y, i⟩ := q
  simp only [] at HL HE ⊢
  generalize m % mN = ml at *
  generalize decide (ml = r) = res at *
  unfold Po.v pn at HP HT HA ⊢
  simp only [nv, num] at HI HM1 HM2 HP HT HA HL ⊢
  go_enter Tryz.func62, Tryz.ntmps62
  go_wp2_with fail
  refine (keep w.heap.size w (HI.out _) (by go_grown) (Nat.le_refl _)).mono ?_
  rintro z w1 ⟨rfl, hb1, hk⟩
  have KQ : Bk 26 w1 w.heap.size (cs9 x y i) := Bk.below (Bk.alloc (Bk.alloc (Bk.alloc (Bk.new rfl)))) hk
  have KE : Bk 24 w1 (w.heap.size + 1) (cs4 e) := Bk.below (Bk.alloc (Bk.alloc (Bk.new (by simp)))) hk
  have KR : Bk 24 w1 (w.heap.size + 1 + 1) (cs4 r) := Bk.below (Bk.alloc (Bk.new (by simp))) hk
  clear hk
  go_upto_region 2 with fail
  have HQ : Hid (Bk 26 (w1.alloc (.cells #[.int .u64 (lb b 0 : Nat), .int .u64 (lb b 1 : Nat), .int .u64 (lb b 2 : Nat), .int .u64 (lb b 3 : Nat)] 24)) w.heap.size (cs9 x y i)) := Lib.hid (Bk.alloc KQ)
  have HEE : Hid (Bk 24 (w1.alloc (.cells #[.int .u64 (lb b 0 : Nat), .int .u64 (lb b 1 : Nat), .int .u64 (lb b 2 : Nat), .int .u64 (lb b 3 : Nat)] 24)) (w.heap.size + 1) (cs4 e)) := Lib.hid (Bk.alloc KE)
  have HR : Hid (Bk 24 (w1.alloc (.cells #[.int .u64 (lb b 0 : Nat), .int .u64 (lb b 1 : Nat), .int .u64 (lb b 2 : Nat), .int .u64 (lb b 3 : Nat)] 24)) (w.heap.size + 1 + 1) (cs4 r)) := Lib.hid (Bk.alloc KR)
  have HBY : Hid (Bk 24 (w1.alloc (.cells #[.int .u64 (lb b 0 : Nat), .int .u64 (lb b 1 : Nat), .int .u64 (lb b 2 : Nat), .int .u64 (lb b 3 : Nat)] 24)) w1.heap.size (cs4 b)) := Lib.hid (Bk.new rfl)
  have HB : Hid (Below w.heap.size w (w1.alloc (.cells #[.int .u64 (lb b 0 : Nat), .int .u64 (lb b 1 : Nat), .int .u64 (lb b 2 : Nat), .int .u64 (lb b 3 : Nat)] 24))) := Lib.hid (hb1.alloc hb1.size _)
  clear KQ KE KR hb1
  generalize w1.alloc (.cells #[.int .u64 (lb b 0 : Nat), .int .u64 (lb b 1 : Nat), .int .u64 (lb b 2 : Nat), .int .u64 (lb b 3 : Nat)] 24) = W at HQ HEE HR HBY HB ⊢
  generalize w1.heap.size = gb at HBY ⊢
  generalize w.heap.size + 1 + 1 = gr at HR ⊢
  generalize w.heap.size + 1 = ge at HEE ⊢
  obtain ⟨gq, hgq⟩ : ∃ g, g = w.heap.size := ⟨_, rfl⟩
  rw [← hgq] at HQ
  rw [show (Value.pointer (some ⟨w.heap.size, 0, none⟩)) = .pointer (some ⟨gq, 0, none⟩) by rw [hgq]]
  clear hgq
  refine Pl.tG (fun b2 b4 b8 b9 y8 w' => TW W u v k b2 b4 b8 b9 y8 w') gr gb gq r b rb x y u v i k W ?c2 ?c4 ?c8 ?c9 ?lr ?lb0 ?lq ?w0 ?h
  case c2 =>
    intro b8 y8 w2 h
    refine (HM1.out w2).mono ?_
    rintro z w3 ⟨rfl, hb⟩
    exact ⟨rfl, h.on hb⟩
  case c4 =>
    intro b8 y8 w2 h
    refine (HP.out w2).mono ?_
    rintro z w3 ⟨rfl, hb⟩
    exact ⟨rfl, h.on hb⟩
  case c8 =>
    intro b2 b4 y8 w2 h
    exact ⟨h.1.trans ((show Below w2.heap.size w2 (w2.alloc (.cells z9 26)) by go_grown).mono h.1.size), fun _ => ⟨_, rfl, h.1.size, Bk.new rfl⟩⟩
  case c9 =>
    intro y8 w2 h
    obtain ⟨g, rfl, hg, hk9⟩ := h.2 rfl
    refine ⟨g, _, _, _, _, _, _, _, _, _, rfl, hk9, ?_, fun _ => ⟨g, rfl, hg, Bk.put9 hk9⟩⟩
    have hb := h.1
    go_grown
  case lr =>
    intro _ _ _ _ _ w2 h
    exact (HR.out.below h.1).cells
  case lb0 =>
    intro _ _ _ _ _ w2 h
    exact (HBY.out.below h.1).cells
  case lq =>
    intro _ _ _ _ _ w2 h
    obtain ⟨⟨c0, c1, c2, c3⟩, ⟨c4, c5, c6, c7⟩, c8⟩ := (HQ.out.below h.1).cells9
    exact ⟨c0, c1, c2, c3, c4, c5, c6, c7, c8⟩
  case w0 => exact ⟨⟨rfl, rfl, rfl, Nat.le_refl _, fun _ _ => rfl⟩, fun h => by cases h⟩
  case h =>
  intro y8 V h
  obtain ⟨gp, rfl, hg, hk9⟩ := h.2 rfl
  have HEE2 := Lib.hid (HEE.out.below h.1)
  have HR2 := Lib.hid (HR.out.below h.1)
  have HBY2 := Lib.hid (HBY.out.below h.1)
  have HPP : Hid (Bk 26 V gp (cs9 u v k)) := Lib.hid hk9
  have HB2 := Lib.hid (HB.out.trans (h.1.mono HB.out.size))
  clear h hg hk9 HEE HR HBY HB HQ HM1 HP HI
  go_upto_region 3 with fail
  refine Pl.tH (fun b2 b3 b5 b9 b10 y9 w' => TW V m n o b2 b3 b9 b10 y9 w') ge gb gp e b eb x2 y2 u v m n i2 k o V ?c2 ?c3 ?c5 ?c9 ?c10 ?le ?lb0 ?lq ?w0 ?h
  case c2 =>
    intro b9 y9 w2 h
    refine (HM2.out w2).mono ?_
    rintro z w3 ⟨rfl, hb⟩
    exact ⟨rfl, h.on hb⟩
  case c3 =>
    intro b9 y9 w2 h
    refine (HT.out w2).mono ?_
    rintro z w3 ⟨rfl, hb⟩
    exact ⟨rfl, h.on hb⟩
  case c5 =>
    intro b9 y9 w2 h
    refine (HA.out w2).mono ?_
    rintro z w3 ⟨rfl, hb⟩
    exact ⟨rfl, h.on hb⟩
  case c9 =>
    intro b2 b3 b5 y9 w2 h
    exact ⟨h.1.trans ((show Below w2.heap.size w2 (w2.alloc (.cells z9 26)) by go_grown).mono h.1.size), fun _ => ⟨_, rfl, h.1.size, Bk.new rfl⟩⟩
  case c10 =>
    intro y9 w2 h
    obtain ⟨g, rfl, hg, hk9⟩ := h.2 rfl
    refine ⟨g, _, _, _, _, _, _, _, _, _, rfl, hk9, ?_, fun _ => ⟨g, rfl, hg, Bk.put9 hk9⟩⟩
    have hb := h.1
    go_grown
  case le =>
    intro _ _ _ _ _ _ w2 h
    exact (HEE2.out.below h.1).cells
  case lb0 =>
    intro _ _ _ _ _ _ w2 h
    exact (HBY2.out.below h.1).cells
  case lq =>
    intro _ _ _ _ _ _ w2 h
    obtain ⟨⟨c0, c1, c2, c3⟩, ⟨c4, c5, c6, c7⟩, c8⟩ := (HPP.out.below h.1).cells9
    exact ⟨c0, c1, c2, c3, c4, c5, c6, c7, c8⟩
  case w0 => exact ⟨⟨rfl, rfl, rfl, Nat.le_refl _, fun _ _ => rfl⟩, fun h => by cases h⟩
  case h =>
  intro y9 X h
  obtain ⟨gs, rfl, hg, hk9⟩ := h.2 rfl
  have HR3 := Lib.hid (HR2.out.below h.1)
  have HSS : Hid (Bk 26 X gs (cs9 m n o)) := Lib.hid hk9
  have HB3 := Lib.hid (HB2.out.trans (h.1.mono HB2.out.size))
  clear h hg hk9 HEE2 HR2 HBY2 HPP HB2 HM2 HT HA
  go_upto_region 4 with fail
  obtain ⟨r0, r1, r2, r3⟩ := HR3.out.reg
  obtain ⟨⟨c0, c1, c2, c3⟩, ⟨c4, c5, c6, c7⟩, c8⟩ := HSS.out.reg9
  have hee := HE.out
  have HB4 := HB3
  clear HB3 HR3 HSS HE
  cases o
  all_goals
    refine wp_region_quiet_below mixed (by kernel_rfl) ?_
    repeat (first | go_big_quiet_step (exact qg HL.out) | quiet_step (exact qg HL.out))
    refine wpQuiet_nil ?_
    intro _ hw'
    obtain ⟨⟨dq, osq⟩, hw''⟩ := hw'
    subst hw''
    go_wp2_with fail
    go_returns
    exact ⟨rfl, HB4.out.trans ((below_regrown X dq osq).mono HB4.out.size)⟩
end Go.Proofs.YtpggkfdijmnmiaaGreat
