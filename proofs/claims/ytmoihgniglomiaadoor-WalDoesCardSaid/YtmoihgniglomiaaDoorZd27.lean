/- Both sides of a pair show the same. Condition: what is known of the pair. The drawn regions of a pair that is copied. No condition. WalDoes' walk: many pairs side by side; every call, in every order. Condition: the program's table, what the arguments say. -/
import Derived.Test.YtmoihgniglomiaaDoorZd23
import Derived.Test.YtmoihgniglomiaaDoorZd26
import Derived.Test.YtmoihgniglomiaaDoorZd20
import Derived.Test.YtmoihgniglomiaaDoorZd25
set_option linter.unusedVariables false
set_option linter.unusedSimpArgs false
set_option maxRecDepth 100000
namespace Go.Proofs.YtmoihgniglomiaaDoor
open Go.RowKit Go.Sort
set_option maxHeartbeats 8000000 in
theorem rroom_quiet {w : World} {rb r : Nat} {S : St} {l : Wlg} {uv : Value} {kp : Int} (h : RL w rb r S l uv kp) (hf : l.file < 2) : Calls Tryd.prog 56 #[.pointer (some ⟨rb, 0, none⟩)] w fun e w' => e = .returned (.int .i64 (room S l)) ∧ Below w.heap.size w w' := by
  have H := Lib.hid h
  have hz : S.size (l.file : Int) = ((S.file l.file).length : Int) := size_at S _ hf
  have hle := file_le h.k.wf l.file
  have C8 : Hid (∀ w1 : World, Below w.heap.size w w1 → Calls Tryd.prog 45 #[.pointer (some ⟨r, 0, none⟩), .int .i64 (l.file : Int)] w1 fun e w2 => e = .returned (.int .i64 ((S.file l.file).length : Int)) ∧ Below w.heap.size w w2) := Lib.hid fun w1 h1 => by
    have := size32 r S uv kp (l.file : Int) w1 (H.out.k.below h1)
    rw [hz] at this
    refine this.mono ?_
    rintro e w2 ⟨rfl, rfl⟩
    exact ⟨rfl, h1⟩
  have LA : Hid (∀ (b0 : Bool) (w1 : World), Below w.heap.size w w1 → w1.cell? ⟨rb, 0, none⟩ = some (.pointer (some ⟨r, 0, none⟩))) := Lib.hid fun _ _ h1 => (H.out.bk.below h1).cell 0
  have LB : Hid (∀ (b0 : Bool) (w1 : World), Below w.heap.size w w1 → w1.cell? ⟨rb, 1, none⟩ = some (.int .i64 (l.file : Int))) := Lib.hid fun _ _ h1 => (H.out.bk.below h1).cell 1
  have hrm : room S l = max (-1) (min 65536 (1048576 - ((S.file l.file).length : Int) - 8)) := rfl
  have HRM := Lib.hid hrm
  clear hrm h hz
  generalize (S.file l.file).length = z at *
  have fa : IntKind.i64.wrap (1048576 - (z : Int)) = 1048576 - (z : Int) := IntWalk.i64_in _ (by omega)
  have fb : IntKind.i64.wrap (1048576 - (z : Int) - 8) = 1048576 - (z : Int) - 8 := IntWalk.i64_in _ (by omega)
  have HF := Lib.hid (And.intro fa fb)
  clear fa fb
  go_enter Tryd.func56, Tryd.ntmps56
  go_wp2_with fail
  refine rR (fun _ w1 => Below w.heap.size w w1) rb r (l.file : Int) (z : Int) w ⟨rfl, rfl, rfl, Nat.le_refl _, fun _ _ => rfl⟩ HF.out.1 HF.out.2 LA.out LB.out C8.out ?_
  intro w1 hm
  have M := Lib.hid hm
  clear hm C8 LA LB HF
  by_cases hneg : (1048576 : Int) - z - 8 < 0
  · have hd : decide ((1048576 : Int) - z - 8 < 0) = true := decide_eq_true hneg
    go_wp2_with fail
    go_ret
    exact ⟨by rw [show room S l = -1 by rw [HRM.out]; omega]; rfl, M.out⟩
  · have hd : decide ((1048576 : Int) - z - 8 < 0) = false := decide_eq_false hneg
    go_wp2_with fail
    go_ret
    refine ⟨?_, M.out⟩
    rw [show room S l = min (1048576 - (z : Int) - 8) 65536 by rw [HRM.out]; omega]
    rfl
def SPW (w : World) (S : St) (b4 b18 b33 b38 b46 b51 b52 b59 b75 : Bool) (y46 y51 : Value) (w' : World) : Prop :=
  Below w.heap.size w w' ∧ (b46 = true → Two 0 w' y46 S.f0 S.f1) ∧ (b51 = true → Two 0 w' y51 S.f0 S.f1)
theorem SPW.step {w : World} {S : St} {b4 b18 b33 b38 b46 b51 b52 b59 b75 c4 c18 c33 c38 c52 c59 c75 : Bool} {y46 y51 : Value} {w1 w2 : World} (h : SPW w S b4 b18 b33 b38 b46 b51 b52 b59 b75 y46 y51 w1) (hb : Below w1.heap.size w1 w2) : SPW w S c4 c18 c33 c38 b46 b51 c52 c59 c75 y46 y51 w2 :=
  ⟨h.1.trans (hb.mono h.1.size), fun e => (h.2.1 e).below hb, fun e => (h.2.2 e).below hb⟩
set_option maxHeartbeats 16000000 in
theorem psame_any {B : Nat} {w0 w : World} {q b rb r : Nat} {p : Fp} {uv : Value} {kp : Int} {S : St} {l : Wlg} (h : PR B w0 w q b rb r p uv kp S S l l) (hB : B ≤ w0.heap.size) (hL : LI S l) :
    Calls Tryd.prog 21 #[.pointer (some ⟨q, 0, none⟩)] w fun e w' => e = .returned (.bool true) ∧ Below w.heap.size w w' := by
  have H := Lib.hid h
  have HB := Lib.hid hB
  have HF := Lib.hid hL.hf
  obtain ⟨ua, uc, huv⟩ := h.po.k.shape
  have hun : S.un.length = S.waiting := St.un_len h.po.d.dk.wf
  rw [hun] at huv
  subst huv
  clear h hB hL hun
  go_enter Tryd.func21, Tryd.ntmps21
  go_wp2_with fail
  refine rS (SPW w S) q b rb p.b r (l.n : Int) (room S l) l.dead S.gone ua S.waiting uc w ?q0 ?q2 ?q1 ?q3 ?r3 ?r4 ?u ?g ?c4 ?c18 ?c33 ?c38 ?c46 ?c51 ?c52 ?c59 ?c75 ?w0 ?h
  case q0 => exact fun _ _ _ _ _ _ _ _ _ _ _ w' hp => (H.out.qk.below hp.1).cell 0
  case q1 => exact fun _ _ _ _ _ _ _ _ _ _ _ w' hp => (H.out.qk.below hp.1).cell 1
  case q2 => exact fun _ _ _ _ _ _ _ _ _ _ _ w' hp => (H.out.qk.below hp.1).cell 2
  case q3 => exact fun _ _ _ _ _ _ _ _ _ _ _ w' hp => (H.out.qk.below hp.1).cell 3
  case r3 => exact fun _ _ _ _ _ _ _ _ _ _ _ w' hp => (H.out.bk.below hp.1).cell 3
  case r4 => exact fun _ _ _ _ _ _ _ _ _ _ _ w' hp => (H.out.bk.below hp.1).cell 4
  case u => exact fun _ _ _ _ _ _ _ _ _ _ _ w' hp => (H.out.po.k.below hp.1).blk.cell 2
  case g => exact fun _ _ _ _ _ _ _ _ _ _ _ w' hp => (H.out.po.k.below hp.1).b5
  case w0 => exact ⟨⟨rfl, rfl, rfl, Nat.le_refl _, fun _ _ => rfl⟩, (fun h => by cases h), (fun h => by cases h)⟩
  case c4 =>
    intro y46 y51 w' hp
    refine (records35 b _ _ _ _ _ w' (Lib.hid (H.out.lk.below hp.1).blk)).mono ?_
    rintro e w2 ⟨rfl, rfl⟩
    exact ⟨rfl, hp.step (Below.refl _ _)⟩
  case c18 =>
    intro y46 y51 w' hp
    refine (dead42 b _ _ _ _ _ w' (Lib.hid (H.out.lk.below hp.1).blk)).mono ?_
    rintro e w2 ⟨rfl, rfl⟩
    exact ⟨rfl, hp.step (Below.refl _ _)⟩
  case c33 =>
    intro y46 y51 w' hp
    refine (room_any (H.out.lk.below hp.1)).mono ?_
    rintro e w2 ⟨rfl, hb⟩
    exact ⟨rfl, hp.step hb⟩
  case c38 =>
    intro y46 y51 w' hp
    refine (rroom_quiet (H.out.below HB.out hp.1).rl HF.out.1).mono ?_
    rintro e w2 ⟨rfl, hb⟩
    exact ⟨rfl, hp.step hb⟩
  case c46 =>
    intro y46 y51 w' hp
    refine (files_any p S w' (H.out.po.d.dk.below hp.1)).mono ?_
    rintro e w2 ⟨⟨v, rfl, ht⟩, hb⟩
    obtain ⟨g, h1, h2, h3⟩ := ht
    exact ⟨v, rfl, hp.1.trans (hb.mono hp.1.size), fun _ => ⟨g, h1, Nat.zero_le _, h3⟩, fun h => by cases h⟩
  case c51 =>
    intro y46 y51 w' hp
    refine (files40 r S _ kp w' (H.out.po.k.below hp.1)).mono ?_
    rintro e w2 ⟨⟨v, rfl, ht⟩, hb⟩
    obtain ⟨g, h1, h2, h3⟩ := ht
    exact ⟨v, rfl, hp.1.trans (hb.mono hp.1.size), fun _ => (hp.2.1 rfl).below hb, fun _ => ⟨g, h1, Nat.zero_le _, h3⟩⟩
  case c52 =>
    intro y46 y51 w' hp
    refine (same_two w' y46 y51 S.f0 S.f1 0 0 (hp.2.1 rfl) (hp.2.2 rfl)).mono ?_
    rintro e w2 ⟨rfl, hb⟩
    exact ⟨rfl, hp.step hb⟩
  case c59 =>
    intro y46 y51 w' hp
    refine (waiting_any p S w' (H.out.po.d.dk.below hp.1)).mono ?_
    rintro e w2 ⟨rfl, hb⟩
    exact ⟨rfl, hp.step hb⟩
  case c75 =>
    intro y46 y51 w' hp
    refine (dead_any p S w' (H.out.po.d.dk.below hp.1)).mono ?_
    rintro e w2 ⟨rfl, rfl⟩
    exact ⟨rfl, hp.step (Below.refl _ _)⟩
  case h =>
    intro y46 y51 w2 hp
    have HB2 := Lib.hid hp.1
    clear hp H HB HF
    go_wp2_with fail
    go_ret
    exact ⟨rfl, HB2.out⟩
noncomputable def rCAO : Array Oper := (Tryd.f4.body.bind fun c => findR c 16).getD #[]
def rCA_m : List (List Nat) := [[], [], [], [], [], [], [], [], [], [4], [4, 9], [4, 9]]
set_option maxHeartbeats 16000000 in
theorem rCA (PW : Bool → Bool → Value → Value → World → Prop) (q d r : Nat) (w : World)  (l1 : ∀ (b4 b9 : Bool) (y4 y9 : Value) (w : World), PW b4 b9 y4 y9 w → w.cell? ⟨q, 1, none⟩ = some (.pointer (some ⟨d, 0, none⟩))) (l3 : ∀ (b4 b9 : Bool) (y4 y9 : Value) (w : World), PW b4 b9 y4 y9 w → w.cell? ⟨q, 3, none⟩ = some (.pointer (some ⟨r, 0, none⟩))) (cl4 : ∀ (y4 y9 : Value) (w : World), PW false false y4 y9 w → Calls Tryd.prog 16 #[.pointer (some ⟨d, 0, none⟩)] w fun e w1 => ∃ v, e = .returned v ∧ PW true false v y9 w1) (cl9 : ∀ (y4 y9 : Value) (w : World), PW true false y4 y9 w → Calls Tryd.prog 17 #[.pointer (some ⟨r, 0, none⟩)] w fun e w1 => ∃ v, e = .returned v ∧ PW true true y4 v w1) {t0 t1 t2 t3 t4 t5 t6 t7 t8 t9 t10 t11 t12 t14 t15 t16 t17 t18 t19 t20 t21 t22 t23 t24 t25 t26 t27 t28 t29 t30 t31 t32 t33 t34 t35 t36 t37 t38 t39 t40 t41 t42 t43 t44 t45 t46 t47 t48 t49 t50 t51 t52 t53 t54 t55 t56 t57 t58 t59 t60 t61 t62 t63 t64 t65 t66 t67 t68 t69 t70 t71 t72 t73 t74 t75 t76 t77 t78 t79 t80 t81 t82 t83 t84 t85 t86 t87 t88 t89 t90 t91 t92 t93 t94 t95 t96 t97 t98 t99 t100 t101 t102 t103 t104 t105 t106 t107 t108 t109 t110 t111 t112 t113 t114 t115 t116 t117 t118 t119 t120 t121 t122 t123 t124 t125 t126 t127 t128 t129 t130 t131 t132 t133 t134 t135 t136 t137 t138 t139 t140 t141 t142 t143 t144 t145 t146 t147 t148 t149 t150 t151 : Value} (w0 : PW false false t94 t99 w.drew) {ds : List Deferred} {Q : Exit → Act → World → Prop}
    (h : ∀ (y4 y9 : Value) (w1 : World), PW true true y4 y9 w1 → Q .normal { tmps := #[t0, t1, t2, t3, t4, t5, t6, t7, t8, t9, t10, t11, t12, .pointer (some ⟨q, 0, none⟩), y4, y9, t16, t17, t18, t19, t20, t21, t22, t23, t24, t25, t26, t27, t28, t29, t30, t31, t32, t33, t34, t35, t36, t37, t38, t39, t40, t41, t42, t43, t44, t45, t46, t47, t48, t49, t50, t51, t52, t53, t54, t55, t56, t57, t58, t59, t60, t61, t62, t63, t64, t65, t66, t67, t68, t69, t70, t71, t72, t73, t74, t75, t76, t77, t78, t79, t80, t81, t82, t83, t84, t85, t86, t87, t88, t89, .pointer (some ⟨q, 0, none⟩), .pointer (some ⟨q, 0, none⟩), .pointer (some ⟨q, 1, none⟩), .pointer (some ⟨d, 0, none⟩), y4, .pointer (some ⟨q, 0, none⟩), .pointer (some ⟨q, 0, none⟩), .pointer (some ⟨q, 3, none⟩), .pointer (some ⟨r, 0, none⟩), y9, t100, t101, t102, t103, t104, t105, t106, t107, t108, t109, t110, t111, t112, t113, t114, t115, t116, t117, t118, t119, t120, t121, t122, t123, t124, t125, t126, t127, t128, t129, t130, t131, t132, t133, t134, t135, t136, t137, t138, t139, t140, t141, t142, t143, t144, t145, t146, t147, t148, t149, t150, t151], defers := ds } w1) :
    (Code.region 16 rCAO true).wp Tryd.prog Q { tmps := #[t0, t1, t2, t3, t4, t5, t6, t7, t8, t9, t10, t11, t12, .pointer (some ⟨q, 0, none⟩), t14, t15, t16, t17, t18, t19, t20, t21, t22, t23, t24, t25, t26, t27, t28, t29, t30, t31, t32, t33, t34, t35, t36, t37, t38, t39, t40, t41, t42, t43, t44, t45, t46, t47, t48, t49, t50, t51, t52, t53, t54, t55, t56, t57, t58, t59, t60, t61, t62, t63, t64, t65, t66, t67, t68, t69, t70, t71, t72, t73, t74, t75, t76, t77, t78, t79, t80, t81, t82, t83, t84, t85, t86, t87, t88, t89, t90, t91, t92, t93, t94, t95, t96, t97, t98, t99, t100, t101, t102, t103, t104, t105, t106, t107, t108, t109, t110, t111, t112, t113, t114, t115, t116, t117, t118, t119, t120, t121, t122, t123, t124, t125, t126, t127, t128, t129, t130, t131, t132, t133, t134, t135, t136, t137, t138, t139, t140, t141, t142, t143, t144, t145, t146, t147, t148, t149, t150, t151], defers := ds } w := by
  have hsz : rCAO.size = 12 := by kernel_rfl
  generalize hT : List.toArray _ = T0
  have hs : T0.size = 152 := by subst hT; rfl
  have g13 : T0.getD 13 undef = .pointer (some ⟨q, 0, none⟩) := by subst hT; rfl
  obtain ⟨W, hV⟩ : ∃ W : List ((Nat × (Value → Value)) ⊕ Value), W = [.inr (.pointer (some ⟨q, 0, none⟩)), .inr (.pointer (some ⟨q, 0, none⟩)), .inr (.pointer (some ⟨q, 1, none⟩)), .inr (.pointer (some ⟨d, 0, none⟩)), .inl (4, id), .inr (.pointer (some ⟨q, 0, none⟩)), .inr (.pointer (some ⟨q, 0, none⟩)), .inr (.pointer (some ⟨q, 3, none⟩)), .inr (.pointer (some ⟨r, 0, none⟩)), .inl (9, id), .inl (4, id), .inl (9, id)] := ⟨_, rfl⟩
  refine wp_plan (by kernel_rfl) T0 ds [4, 9] rCA_m (mkV W) (fun dx yx wx => PW (dx 4) (dx 9) (yx 4) (yx 9) wx) w (by rw [hs]; kernel_rfl) (by kernel_rfl) (by kernel_rfl) (by rw [hsz]; decide) (fun cx hc ix hne ha yx vx => mkV_fix (by rw [hV]; kernel_rfl) hne ha yx vx) (?key) (fun cx hc ox ho dx yx Tx wx hd hdb hda hK hW => ?_) ⟨fun k => if k = 4 then t94 else if k = 9 then t99 else undef, w0⟩ (fun dx yx wx hd hW => ?_)
  case key =>
    rw [hsz]
    refine all_step (all_step (all_step (all_step (all_step (all_step (all_step (all_step (all_step (all_step (all_step (all_step all_zero ?_) ?_) ?_) ?_) ?_) ?_) ?_) ?_) ?_) ?_) ?_) ?_
    all_goals
      intro ox ho hic dx yx Tx wx hdb hK hW
      replace hdb := Lib.hid hdb
    · exact pl0 90 13 41 ho hK (by kernel_rfl) (by kernel_rfl) g13 (by subst hV; rfl) fun ps af e => k_mv e
    · exact pl1 91 90 0 0 ho hK (by kernel_rfl) (by kernel_rfl) (by subst hV; rfl) (by subst hV; rfl) fun ps af e => k_nc e
    · exact pl1 92 91 1 0 ho hK (by kernel_rfl) (by kernel_rfl) (by subst hV; rfl) (by subst hV; rfl) fun ps af e => k_fa43_1 e
    · exact pl1 93 92 2 27 ho hK (by kernel_rfl) (by kernel_rfl) (by subst hV; rfl) (by subst hV; rfl) fun ps af e => k_ld27 (l1 _ _ _ _ _ hW) e
    · exact absurd (by decide) hic
    · exact pl0 95 13 41 ho hK (by kernel_rfl) (by kernel_rfl) g13 (by subst hV; rfl) fun ps af e => k_mv e
    · exact pl1 96 95 5 0 ho hK (by kernel_rfl) (by kernel_rfl) (by subst hV; rfl) (by subst hV; rfl) fun ps af e => k_nc e
    · exact pl1 97 96 6 0 ho hK (by kernel_rfl) (by kernel_rfl) (by subst hV; rfl) (by subst hV; rfl) fun ps af e => k_fa43_3 e
    · exact pl1 98 97 7 32 ho hK (by kernel_rfl) (by kernel_rfl) (by subst hV; rfl) (by subst hV; rfl) fun ps af e => k_ld32 (l3 _ _ _ _ _ hW) e
    · exact absurd (by decide) hic
    · exact pl1 14 94 4 27 ho hK (by kernel_rfl) (by kernel_rfl) (by subst hV; rfl) (by subst hV; rfl) fun ps af e => k_as e
    · exact pl1 15 99 9 32 ho hK (by kernel_rfl) (by kernel_rfl) (by subst hV; rfl) (by subst hV; rfl) fun ps af e => k_as e
  · have hcase : cx = 4 ∨ cx = 9 := by simpa using hc
    rcases hcase with rfl | rfl
    · obtain ⟨ps, af, rfl⟩ := core (some 94) (.call { callee := .value (.func 16), args := #[.tmp 93], argTypes := #[27] }) 27 none ho (by kernel_rfl)
      have e93 : Tx.getD 93 undef = .pointer (some ⟨d, 0, none⟩) := hK.is 3 ho (by kernel_rfl) (by subst hV; rfl)
      have hW1 : PW (dx 4) (dx 9) (yx 4) (yx 9) wx := hW
      have f9 := hda 9 (by decide) (by kernel_rfl)
      clear hdb hda
      rw [hd, f9] at hW1
      replace f9 := Lib.hid f9
      clear hd hW hc
      refine wpOp_plain ho rfl ?_
      go_simp
      go_at_call 16
      refine (cl4 _ _ _ hW1).mono ?_
      rintro ex w2 ⟨vx, rfl, hW2⟩
      subst hV
      refine ⟨vx, rfl, ?_⟩
      simpa [updB, upd, f9.out] using hW2
    · obtain ⟨ps, af, rfl⟩ := core (some 99) (.call { callee := .value (.func 17), args := #[.tmp 98], argTypes := #[32] }) 32 none ho (by kernel_rfl)
      have e98 : Tx.getD 98 undef = .pointer (some ⟨r, 0, none⟩) := hK.is 8 ho (by kernel_rfl) (by subst hV; rfl)
      have hW1 : PW (dx 4) (dx 9) (yx 4) (yx 9) wx := hW
      have f4 := hdb 4 (by decide) (by kernel_rfl)
      clear hdb hda
      rw [hd, f4] at hW1
      replace f4 := Lib.hid f4
      clear hd hW hc
      refine wpOp_plain ho rfl ?_
      go_simp
      go_at_call 17
      refine (cl9 _ _ _ hW1).mono ?_
      rintro ex w2 ⟨vx, rfl, hW2⟩
      subst hV
      refine ⟨vx, rfl, ?_⟩
      simpa [updB, upd, f4.out] using hW2
  · have hW1 : PW (dx 4) (dx 9) (yx 4) (yx 9) wx := hW
    rw [hd 4 (by decide), hd 9 (by decide)] at hW1
    have hQ := h _ _ _ hW1
    rw [hsz]
    subst hV hT
    refine cast (congrArg (fun Tx => Q .normal ⟨Tx, ds⟩ wx) ?_) hQ
    kernel_rfl
noncomputable def rCBO : Array Oper := (Tryd.f4.body.bind fun c => findR c 19).getD #[]
def rCB_m : List (List Nat) := [[], [], [], [], [], [], [], [], [], [], [], [], [5], []]
def rCB_a : List (List Nat) := [[], [0], [0, 1], [0, 1, 2], [], [0, 1, 2, 3, 4], [], [], [7], [7, 8], [7, 8, 9], [], [0, 1, 2, 3, 4, 5, 7, 8, 9, 10, 11], [], [0, 1, 2, 3, 4, 5, 6, 7, 8, 9, 10, 11, 12, 13], [0, 1, 2, 3, 4, 5, 6, 7, 8, 9, 10, 11, 12, 13, 14], [0, 1, 2, 3, 4, 5, 6, 7, 8, 9, 10, 11, 12, 13, 14, 15]]
set_option maxHeartbeats 16000000 in
theorem rCB (PW : Bool → Bool → Value → Value → World → Prop) (q b rb cc hh : Nat) (w : World)  (l0 : ∀ (b5 b12 : Bool) (y5 y12 : Value) (w : World), PW b5 b12 y5 y12 w → w.cell? ⟨q, 0, none⟩ = some (.pointer (some ⟨b, 0, none⟩))) (l2 : ∀ (b5 b12 : Bool) (y5 y12 : Value) (w : World), PW b5 b12 y5 y12 w → w.cell? ⟨q, 2, none⟩ = some (.pointer (some ⟨rb, 0, none⟩))) (cl5 : ∀ (y5 y12 : Value) (w : World), PW false false y5 y12 w → Calls Tryd.prog 18 #[.pointer (some ⟨b, 0, none⟩), .pointer (some ⟨cc, 0, none⟩)] w fun e w1 => ∃ v, e = .returned v ∧ PW true false v y12 w1) (cl12 : ∀ (y5 y12 : Value) (w : World), PW true false y5 y12 w → Calls Tryd.prog 19 #[.pointer (some ⟨rb, 0, none⟩), .pointer (some ⟨hh, 0, none⟩)] w fun e w1 => ∃ v, e = .returned v ∧ PW true true y5 v w1) {t0 t1 t2 t3 t4 t5 t6 t7 t8 t9 t10 t11 t12 t16 t17 t18 t19 t20 t21 t22 t23 t24 t25 t26 t27 t28 t29 t30 t31 t32 t33 t34 t35 t36 t37 t38 t39 t40 t41 t42 t43 t44 t45 t46 t47 t48 t49 t50 t51 t52 t53 t54 t55 t56 t57 t58 t59 t60 t61 t62 t63 t64 t65 t66 t67 t68 t69 t70 t71 t72 t73 t74 t75 t76 t77 t78 t79 t80 t81 t82 t83 t84 t85 t86 t87 t88 t89 t90 t91 t92 t93 t94 t95 t96 t97 t98 t99 t100 t101 t102 t103 t104 t105 t106 t107 t108 t109 t110 t111 t112 t113 t114 t115 t116 t117 t118 t119 t120 t121 t122 t123 t124 t125 t126 t127 t128 t129 t130 t131 t132 t133 t134 t135 t136 t137 t138 t139 t140 t141 t142 t143 t144 t145 t146 t147 t148 t149 t150 t151 : Value} (w0 : PW false false t107 t114 w.drew) {ds : List Deferred} {Q : Exit → Act → World → Prop}
    (h : ∀ (y5 y12 : Value) (w1 : World), PW true true y5 y12 w1 → wpList Tryd.prog rCBO Q (rCBO.toList.drop 14) { tmps := #[t0, t1, t2, t3, t4, t5, t6, t7, t8, t9, t10, t11, t12, .pointer (some ⟨q, 0, none⟩), .pointer (some ⟨cc, 0, none⟩), .pointer (some ⟨hh, 0, none⟩), t16, t17, t18, t19, t20, t21, t22, t23, t24, t25, t26, t27, t28, t29, t30, t31, t32, t33, t34, t35, t36, t37, t38, t39, t40, t41, t42, t43, t44, t45, t46, t47, t48, t49, t50, t51, t52, t53, t54, t55, t56, t57, t58, t59, t60, t61, t62, t63, t64, t65, t66, t67, t68, t69, t70, t71, t72, t73, t74, t75, t76, t77, t78, t79, t80, t81, t82, t83, t84, t85, t86, t87, t88, t89, t90, t91, t92, t93, t94, t95, t96, t97, t98, t99, t100, t101, .pointer (some ⟨q, 0, none⟩), .pointer (some ⟨q, 0, none⟩), .pointer (some ⟨q, 0, none⟩), .pointer (some ⟨b, 0, none⟩), .pointer (some ⟨cc, 0, none⟩), y5, .pointer (some ⟨cc, 0, none⟩), .pointer (some ⟨q, 0, none⟩), .pointer (some ⟨q, 0, none⟩), .pointer (some ⟨q, 2, none⟩), .pointer (some ⟨rb, 0, none⟩), .pointer (some ⟨hh, 0, none⟩), y12, .pointer (some ⟨hh, 0, none⟩), t116, t117, t118, t119, t120, t121, t122, t123, t124, t125, t126, t127, t128, t129, t130, t131, t132, t133, t134, t135, t136, t137, t138, t139, t140, t141, t142, t143, t144, t145, t146, t147, t148, t149, t150, t151], defers := ds } w1) :
    (Code.region 19 rCBO true).wp Tryd.prog Q { tmps := #[t0, t1, t2, t3, t4, t5, t6, t7, t8, t9, t10, t11, t12, .pointer (some ⟨q, 0, none⟩), .pointer (some ⟨cc, 0, none⟩), .pointer (some ⟨hh, 0, none⟩), t16, t17, t18, t19, t20, t21, t22, t23, t24, t25, t26, t27, t28, t29, t30, t31, t32, t33, t34, t35, t36, t37, t38, t39, t40, t41, t42, t43, t44, t45, t46, t47, t48, t49, t50, t51, t52, t53, t54, t55, t56, t57, t58, t59, t60, t61, t62, t63, t64, t65, t66, t67, t68, t69, t70, t71, t72, t73, t74, t75, t76, t77, t78, t79, t80, t81, t82, t83, t84, t85, t86, t87, t88, t89, t90, t91, t92, t93, t94, t95, t96, t97, t98, t99, t100, t101, t102, t103, t104, t105, t106, t107, t108, t109, t110, t111, t112, t113, t114, t115, t116, t117, t118, t119, t120, t121, t122, t123, t124, t125, t126, t127, t128, t129, t130, t131, t132, t133, t134, t135, t136, t137, t138, t139, t140, t141, t142, t143, t144, t145, t146, t147, t148, t149, t150, t151], defers := ds } w := by
  have hsz : rCBO.size = 17 := by kernel_rfl
  generalize hT : List.toArray _ = T0
  have hs : T0.size = 152 := by subst hT; rfl
  have g13 : T0.getD 13 undef = .pointer (some ⟨q, 0, none⟩) := by subst hT; rfl
  have g14 : T0.getD 14 undef = .pointer (some ⟨cc, 0, none⟩) := by subst hT; rfl
  have g15 : T0.getD 15 undef = .pointer (some ⟨hh, 0, none⟩) := by subst hT; rfl
  obtain ⟨W, hV⟩ : ∃ W : List ((Nat × (Value → Value)) ⊕ Value), W = [.inr (.pointer (some ⟨q, 0, none⟩)), .inr (.pointer (some ⟨q, 0, none⟩)), .inr (.pointer (some ⟨q, 0, none⟩)), .inr (.pointer (some ⟨b, 0, none⟩)), .inr (.pointer (some ⟨cc, 0, none⟩)), .inl (5, id), .inr (.pointer (some ⟨cc, 0, none⟩)), .inr (.pointer (some ⟨q, 0, none⟩)), .inr (.pointer (some ⟨q, 0, none⟩)), .inr (.pointer (some ⟨q, 2, none⟩)), .inr (.pointer (some ⟨rb, 0, none⟩)), .inr (.pointer (some ⟨hh, 0, none⟩)), .inl (12, id), .inr (.pointer (some ⟨hh, 0, none⟩))] := ⟨_, rfl⟩
  refine wp_planT (by kernel_rfl) T0 ds 14 rCB_a [5, 12] rCB_m (mkV W) (fun dx yx wx => PW (dx 5) (dx 12) (yx 5) (yx 12) wx) w (by rw [hs]; kernel_rfl) (by kernel_rfl) (by kernel_rfl) (by kernel_rfl) (by rw [hsz]; decide) (by rw [hsz]; decide) (by kernel_rfl) (by decide) (fun cx hc ix hne ha yx vx => mkV_fix (by rw [hV]; kernel_rfl) hne ha yx vx) (?key) (fun cx hc ox ho dx yx Tx wx hd hdb hda hK hW => ?_) ⟨fun k => if k = 5 then t107 else if k = 12 then t114 else undef, w0⟩ (fun dx yx wx hd hW => ?_)
  case key =>
    refine all_step (all_step (all_step (all_step (all_step (all_step (all_step (all_step (all_step (all_step (all_step (all_step (all_step (all_step all_zero ?_) ?_) ?_) ?_) ?_) ?_) ?_) ?_) ?_) ?_) ?_) ?_) ?_) ?_
    all_goals
      intro ox ho hic dx yx Tx wx hdb hK hW
      replace hdb := Lib.hid hdb
    · exact pl0 102 13 41 ho hK (by kernel_rfl) (by kernel_rfl) g13 (by subst hV; rfl) fun ps af e => k_mv e
    · exact pl1 103 102 0 0 ho hK (by kernel_rfl) (by kernel_rfl) (by subst hV; rfl) (by subst hV; rfl) fun ps af e => k_nc e
    · exact pl1 104 103 1 0 ho hK (by kernel_rfl) (by kernel_rfl) (by subst hV; rfl) (by subst hV; rfl) fun ps af e => k_fa43_0 e
    · exact pl1 105 104 2 35 ho hK (by kernel_rfl) (by kernel_rfl) (by subst hV; rfl) (by subst hV; rfl) fun ps af e => k_ld35 (l0 _ _ _ _ _ hW) e
    · exact pl0 106 14 27 ho hK (by kernel_rfl) (by kernel_rfl) g14 (by subst hV; rfl) fun ps af e => k_mv e
    · exact absurd (by decide) hic
    · exact pl0 108 14 27 ho hK (by kernel_rfl) (by kernel_rfl) g14 (by subst hV; rfl) fun ps af e => k_mv e
    · exact pl0 109 13 41 ho hK (by kernel_rfl) (by kernel_rfl) g13 (by subst hV; rfl) fun ps af e => k_mv e
    · exact pl1 110 109 7 0 ho hK (by kernel_rfl) (by kernel_rfl) (by subst hV; rfl) (by subst hV; rfl) fun ps af e => k_nc e
    · exact pl1 111 110 8 0 ho hK (by kernel_rfl) (by kernel_rfl) (by subst hV; rfl) (by subst hV; rfl) fun ps af e => k_fa43_2 e
    · exact pl1 112 111 9 38 ho hK (by kernel_rfl) (by kernel_rfl) (by subst hV; rfl) (by subst hV; rfl) fun ps af e => k_ld38 (l2 _ _ _ _ _ hW) e
    · exact pl0 113 15 32 ho hK (by kernel_rfl) (by kernel_rfl) g15 (by subst hV; rfl) fun ps af e => k_mv e
    · exact absurd (by decide) hic
    · exact pl0 115 15 32 ho hK (by kernel_rfl) (by kernel_rfl) g15 (by subst hV; rfl) fun ps af e => k_mv e
  · have hcase : cx = 5 ∨ cx = 12 := by simpa using hc
    rcases hcase with rfl | rfl
    · obtain ⟨ps, af, rfl⟩ := core (some 107) (.call { callee := .value (.func 18), args := #[.tmp 105, .tmp 106], argTypes := #[35, 27] }) 35 none ho (by kernel_rfl)
      have e105 : Tx.getD 105 undef = .pointer (some ⟨b, 0, none⟩) := hK.is 3 ho (by kernel_rfl) (by subst hV; rfl)
      have e106 : Tx.getD 106 undef = .pointer (some ⟨cc, 0, none⟩) := hK.is 4 ho (by kernel_rfl) (by subst hV; rfl)
      have hW1 : PW (dx 5) (dx 12) (yx 5) (yx 12) wx := hW
      have f12 := hda 12 (by decide) (by kernel_rfl)
      clear hdb hda
      rw [hd, f12] at hW1
      replace f12 := Lib.hid f12
      clear hd hW hc
      refine wpOp_plain ho rfl ?_
      go_simp
      go_at_call 18
      refine (cl5 _ _ _ hW1).mono ?_
      rintro ex w2 ⟨vx, rfl, hW2⟩
      subst hV
      refine ⟨vx, rfl, ?_⟩
      simpa [updB, upd, f12.out] using hW2
    · obtain ⟨ps, af, rfl⟩ := core (some 114) (.call { callee := .value (.func 19), args := #[.tmp 112, .tmp 113], argTypes := #[38, 32] }) 38 none ho (by kernel_rfl)
      have e112 : Tx.getD 112 undef = .pointer (some ⟨rb, 0, none⟩) := hK.is 10 ho (by kernel_rfl) (by subst hV; rfl)
      have e113 : Tx.getD 113 undef = .pointer (some ⟨hh, 0, none⟩) := hK.is 11 ho (by kernel_rfl) (by subst hV; rfl)
      have hW1 : PW (dx 5) (dx 12) (yx 5) (yx 12) wx := hW
      have f5 := hdb 5 (by decide) (by kernel_rfl)
      clear hdb hda
      rw [hd, f5] at hW1
      replace f5 := Lib.hid f5
      clear hd hW hc
      refine wpOp_plain ho rfl ?_
      go_simp
      go_at_call 19
      refine (cl12 _ _ _ hW1).mono ?_
      rintro ex w2 ⟨vx, rfl, hW2⟩
      subst hV
      refine ⟨vx, rfl, ?_⟩
      simpa [updB, upd, f5.out] using hW2
  · have hW1 : PW (dx 5) (dx 12) (yx 5) (yx 12) wx := hW
    rw [hd 5 (by decide), hd 12 (by decide)] at hW1
    have hQ := h _ _ _ hW1
    subst hV hT
    refine cast (congrArg (fun Tx => wpList Tryd.prog rCBO Q (rCBO.toList.drop 14) ⟨Tx, ds⟩ wx) ?_) hQ
    kernel_rfl
theorem rCB_tail : rCBO.toList.drop 14 = [{ dst := some 116, op := Op.build 43 #[(0, Operand.tmp 107), (1, Operand.tmp 108), (2, Operand.tmp 114), (3, Operand.tmp 115)], type := 43, pos := "law.go:145", after := #[{ on := 5, ground := Ground.data }, { on := 6, ground := Ground.data }, { on := 12, ground := Ground.data }, { on := 13, ground := Ground.data }], guard := none }, { dst := some 117, op := Op.box 43 (Operand.tmp 116), type := 41, pos := "law.go:145", after := #[{ on := 14, ground := Ground.data }], guard := none }, { dst := some 16, op := Op.assign (Operand.tmp 117), type := 41, pos := "law.go:145", after := #[{ on := 15, ground := Ground.data }, { on := 12, ground := Ground.chain }, { on := 0, ground := Ground.phase }, { on := 1, ground := Ground.phase }, { on := 2, ground := Ground.phase }, { on := 3, ground := Ground.phase }, { on := 4, ground := Ground.phase }, { on := 5, ground := Ground.phase }, { on := 6, ground := Ground.phase }, { on := 7, ground := Ground.phase }, { on := 8, ground := Ground.phase }, { on := 9, ground := Ground.phase }, { on := 10, ground := Ground.phase }, { on := 11, ground := Ground.phase }, { on := 12, ground := Ground.phase }, { on := 13, ground := Ground.phase }, { on := 14, ground := Ground.phase }, { on := 15, ground := Ground.phase }], guard := none }] := by kernel_rfl
def pcs (l : List Nat) : List Value := l.map fun b => .pointer (some ⟨b, 0, none⟩)
theorem pcs_app (a b : List Nat) : pcs (a ++ b) = pcs a ++ pcs b := by simp [pcs]
theorem info41 : (Tryd.prog.info? 41).map (fun i => (i.zero, i.size, i.bytes)) = some (some (.pointer none), 1, 8) := by kernel_rfl
def Rw (w : World) (g c : Nat) (l : List Nat) : Prop := w.ownsRow 0 41 1 (.slice (some ⟨g, 0, none⟩) l.length c) l.length (pcs l)
section
variable {w w' : World} {g c : Nat} {l : List Nat}
theorem Rw.of (h : Rw w g c l) (k : w'.heap[g]? = w.heap[g]?) : Rw w' g c l := by
  obtain ⟨hl, ⟨hv, _⟩ | ⟨q, cap, cur, hv, hb, hg, rest⟩⟩ := h
  · cases hv
  · cases hv
    exact ⟨hl, .inr ⟨_, _, cur, rfl, hb, k.trans hg, rest⟩⟩
theorem Rw.lt (h : Rw w g c l) : g < w.heap.size := (World.ownsRow.lt h g rfl).2
theorem Rw.below (h : Rw w g c l) (hb : Below w.heap.size w w') : Rw w' g c l := h.of (hb.block _ h.lt)
theorem Rw.typ (h : Rw w g c l) : ∃ cur, w.heap[g]? = some (.cells cur 41 (0, 0)) := by
  obtain ⟨_, ⟨hv, _⟩ | ⟨q, cap, cur, hv, _, hg, _⟩⟩ := h
  · cases hv
  · cases hv
    exact ⟨cur, hg⟩
theorem Rw.cell (h : Rw w g c l) (i : Nat) (hi : i < l.length) : w.cell? ⟨g, i, none⟩ = some (.pointer (some ⟨l[i], 0, none⟩)) := by
  have := World.ownsRow.cells h (g := g) rfl i (.pointer (some ⟨l[i], 0, none⟩)) (by simp [pcs, hi])
  rwa [at0] at this
theorem Rw.one {b : Nat} (h : Bk 41 w g #[.pointer (some ⟨b, 0, none⟩)]) : Rw w g 1 [b] :=
  ⟨rfl, .inr ⟨g, 1, _, rfl, Nat.zero_le _, h, Nat.le_refl _, by unfold maxLen; omega, rfl, rfl⟩⟩
theorem app_row {b : Nat} (ty : TypeId) (h : Rw w g c l) (q cq : Nat) (hq : Bk 41 w q #[.pointer (some ⟨b, 0, none⟩)]) (hl : l.length ≤ 4000000000000) (n : Nat) (hn : n = l.length) :
    ∃ g' c' w', (Builtin.append_ #[44, 44] ty #[.slice (some ⟨g, 0, none⟩) n c, .slice (some ⟨q, 0, none⟩) 1 cq]).run Tryd.prog w = .ok (.slice (some ⟨g', 0, none⟩) (n + 1) c') w' ∧ Rw w' g' c' (l ++ [b]) ∧ Only [g] w w' ∧ (g' = g ∨ w.heap.size ≤ g') := by
  subst hn
  obtain ⟨i0, hi, hz0, hz1, hz2⟩ := info_parts info41
  obtain ⟨v', w', hrun, ho, hgr, hv, hnil⟩ := app_own w 44 ty 41 i0 (.pointer none) 1 8 Tryd.underlying44 hi hz0 hz1 hz2 rfl (by decide) _ l.length (pcs l) h ⟨q, 0, none⟩ 1 cq (pcs [b]) rfl (by
    intro j u hu
    rw [at0, hq.cell]
    match j with
    | 0 => simpa [pcs] using hu
    | j + 1 => simp [pcs] at hu) (by
    intro u hu
    simp only [pcs, List.map_cons, List.map_nil, List.mem_singleton] at hu
    subst hu
    rfl) (by unfold maxLen; omega) (by omega)
  obtain ⟨g', c', hv'⟩ := owns_slice ho (fun e => by have := hnil e; cases this)
  subst hv'
  refine ⟨g', c', w', hrun, ?_, ⟨hgr.os, hgr.tape, hgr.output, hgr.size, fun k hk hL => hgr.block k hk (fun e => hL (by cases e; simp))⟩, ?_⟩
  · unfold Rw
    rw [List.length_append, pcs_app]
    exact ho
  · rcases hv with e | e
    · cases e; exact .inl rfl
    · exact .inr (e g' rfl)
end
theorem index44 (g c n i : Nat) (h : i < n) (w : World) : (Instr.indexAt 44 (.slice (some ⟨g, 0, none⟩) n c) (.int .i64 (i : Int))).run Tryd.prog w = .ok (.pointer (some ⟨g, i, none⟩)) w := by
  go_simp
theorem PR.low {B : Nat} {w0 w : World} {q b rb r : Nat} {p : Fp} {uv : Value} {kp : Int} {S T : St} {l k : Wlg} (h : PR B w0 w q b rb r p uv kp S T l k) : ∀ g ∈ foot q b rb r p uv, B ≤ g := fun g hg => by
  rcases foot_mem.1 hg with rfl | rfl | rfl | rfl | hg
  · exact h.bq
  · exact h.bb
  · exact h.br
  · exact h.po.rb
  · exact h.po.d.op g hg
structure Fam (B : Nat) (w0 w : World) (qs : List Nat) (Fs : List (List Nat)) : Prop where
  len : Fs.length = qs.length
  each : ∀ (i q : Nat) (F : List Nat), qs[i]? = some q → Fs[i]? = some F → ∃ b rb r p uv kp S l, F = foot q b rb r p uv ∧ PR B w0 w q b rb r p uv kp S S l l ∧ LI S l
  dis : ∀ (i j : Nat) (F G : List Nat), Fs[i]? = some F → Fs[j]? = some G → i ≠ j → ∀ x ∈ F, x ∉ G
section
variable {B : Nat} {w0 w w' : World} {qs : List Nat} {Fs : List (List Nat)}
theorem Fam.below (h : Fam B w0 w qs Fs) (hB : B ≤ w0.heap.size) (hb : Below w.heap.size w w') : Fam B w0 w' qs Fs :=
  ⟨h.len, fun i q F hq hF => by
    obtain ⟨b, rb, r, p, uv, kp, S, l, e, h1, h2⟩ := h.each i q F hq hF
    exact ⟨b, rb, r, p, uv, kp, S, l, e, h1.below hB hb, h2⟩, h.dis⟩
theorem Fam.at (h : Fam B w0 w qs Fs) {i q : Nat} (hq : qs[i]? = some q) : ∃ F, Fs[i]? = some F ∧ ∃ b rb r p uv kp S l, F = foot q b rb r p uv ∧ PR B w0 w q b rb r p uv kp S S l l ∧ LI S l := by
  have hi : i < Fs.length := by rw [h.len]; exact (List.getElem?_eq_some_iff.1 hq).1
  exact ⟨_, List.getElem?_eq_getElem hi, h.each i q _ hq (List.getElem?_eq_getElem hi)⟩
theorem Fam.step (h : Fam B w0 w qs Fs) (hB : B ≤ w0.heap.size) (hB0 : 0 < B) {i q r : Nat} {F : List Nat} (hq : qs[i]? = some q) (hF : Fs[i]? = some F) (hr : ∃ b rb p uv kp S l, F = foot q b rb r p uv ∧ PR B w0 w q b rb r p uv kp S S l l) (hd : DG B w0 w q F r w') : ∃ F', Fam B w0 w' qs (Fs.set i F') := by
  obtain ⟨b', rb', p', uv', kp', S', l', n1, n2, n3, n4⟩ := hd
  obtain ⟨b, rb, p, uv, kp, S, l, rfl, h1⟩ := hr
  have hil : i < Fs.length := (List.getElem?_eq_some_iff.1 hF).1
  refine ⟨foot q b' rb' r p' uv', by rw [List.length_set]; exact h.len, fun j q2 F2 hj hF2 => ?_, fun j k F2 G2 hj hk hne x hx hx2 => ?_⟩
  · by_cases hji : j = i
    · subst hji
      rw [List.getElem?_set_self hil] at hF2
      cases hF2
      rw [hq] at hj
      cases hj
      exact ⟨b', rb', r, p', uv', kp', S', l', rfl, n1, n2⟩
    · rw [List.getElem?_set_ne (fun e => hji e.symm)] at hF2
      obtain ⟨b2, rb2, r2, p2, uv2, kp2, S2, l2, rfl, k1, k2⟩ := h.each j q2 F2 hj hF2
      refine ⟨b2, rb2, r2, p2, uv2, kp2, S2, l2, rfl, k1.kept hB n3 (fun g hg => ⟨h.dis i j _ _ hF hF2 (fun e => hji e.symm) g hg, h1.low g hg⟩) (fun h0 => by have := h1.low 0 h0; omega) (fun g hg e => ?_), k2⟩
      obtain ⟨cs, t, z, e1, e2⟩ := h1.typ g hg
      obtain ⟨cs', z', e3⟩ := k1.po.k.uty g e
      exact blk_ne e1 e3 (by rcases e2 with rfl | rfl | rfl | rfl | rfl | rfl | rfl <;> decide) rfl
  · have hnew : ∀ y ∈ foot q b' rb' r p' uv', ∀ m G, Fs[m]? = some G → i ≠ m → y ∉ G := fun y hy m G hm hne2 hyG => by
      rcases n4 y hy with h5 | h5
      · exact h.dis i m _ G hF hm hne2 y h5 hyG
      · have hml : m < qs.length := by rw [← h.len]; exact (List.getElem?_eq_some_iff.1 hm).1
        obtain ⟨b2, rb2, r2, p2, uv2, kp2, S2, l2, rfl, k1, k2⟩ := h.each m _ G (List.getElem?_eq_getElem hml) hm
        have := k1.lt y hyG
        omega
    by_cases hji : j = i
    · subst hji
      rw [List.getElem?_set_self hil] at hj
      cases hj
      rw [List.getElem?_set_ne hne] at hk
      exact hnew x hx k G2 hk hne hx2
    · rw [List.getElem?_set_ne (fun e => hji e.symm)] at hj
      by_cases hki : k = i
      · subst hki
        rw [List.getElem?_set_self hil] at hk
        cases hk
        exact hnew x hx2 j F2 hj (fun e => hji e.symm) hx
      · rw [List.getElem?_set_ne (fun e => hki e.symm)] at hk
        exact h.dis j k F2 G2 hj hk hne x hx hx2
theorem Fam.row (h : Fam B w0 w qs Fs) (hB : B ≤ w0.heap.size) (hB0 : 0 < B) {g c : Nat} {l : List Nat} (hg : Rw w g c l) (hgB : B ≤ g) (ho : Only [g] w w') : Fam B w0 w' qs Fs :=
  ⟨h.len, fun i q F hq hF => by
    obtain ⟨b, rb, r, p, uv, kp, S, l, e, h1, h2⟩ := h.each i q F hq hF
    obtain ⟨cur, hcur⟩ := hg.typ
    refine ⟨b, rb, r, p, uv, kp, S, l, e, h1.kept hB ho (fun x hx => ?_) (by simp; omega) (fun x hx e2 => ?_), h2⟩
    · simp only [List.mem_singleton] at hx
      subst hx
      exact ⟨h1.far hcur (.inr rfl), hgB⟩
    · simp only [List.mem_singleton] at hx
      subst hx
      obtain ⟨cs', z', e3⟩ := h1.po.k.uty x e2
      exact blk_ne hcur e3 (by decide) rfl, h.dis⟩
theorem Fam.push (h : Fam B w0 w qs Fs) (hB : B ≤ w0.heap.size) {q b rb r : Nat} {p : Fp} {uv : Value} {kp : Int} {S : St} {l : Wlg} (hb : Below w.heap.size w w') (hn : PR B w0 w' q b rb r p uv kp S S l l) (hL : LI S l) (hf : ∀ x ∈ foot q b rb r p uv, w.heap.size ≤ x) : Fam B w0 w' (qs ++ [q]) (Fs ++ [foot q b rb r p uv]) := by
  have h' := h.below hB hb
  have old : ∀ (m : Nat) (G : List Nat), Fs[m]? = some G → ∀ y ∈ G, y < w.heap.size := fun m G hm y hy => by
    have hml : m < qs.length := by rw [← h.len]; exact (List.getElem?_eq_some_iff.1 hm).1
    obtain ⟨b2, rb2, r2, p2, uv2, kp2, S2, l2, rfl, k1, k2⟩ := h.each m _ G (List.getElem?_eq_getElem hml) hm
    exact k1.lt y hy
  have split : ∀ (m : Nat) (G : List Nat), (Fs ++ [foot q b rb r p uv])[m]? = some G → (Fs[m]? = some G ∧ m < Fs.length) ∨ (m = Fs.length ∧ G = foot q b rb r p uv) := fun m G hm => by
    by_cases hml : m < Fs.length
    · rw [List.getElem?_append_left hml] at hm
      exact .inl ⟨hm, hml⟩
    · rw [List.getElem?_append_right (by omega)] at hm
      have h0 : m - Fs.length = 0 := by
        have := (List.getElem?_eq_some_iff.1 hm).1
        simp at this; omega
      rw [h0] at hm
      simp at hm
      exact .inr ⟨by omega, hm.symm⟩
  refine ⟨by simp [h.len], fun i q2 F2 hq hF => ?_, fun i j F2 G2 hi hj hne x hx hx2 => ?_⟩
  · rcases split i F2 hF with ⟨h1, h2⟩ | ⟨h1, rfl⟩
    · rw [List.getElem?_append_left (by rw [← h.len]; exact h2)] at hq
      exact h'.each i q2 F2 hq h1
    · rw [h1, h.len, List.getElem?_append_right (Nat.le_refl _)] at hq
      simp at hq
      subst hq
      exact ⟨b, rb, r, p, uv, kp, S, l, rfl, hn, hL⟩
  · rcases split i F2 hi with ⟨h1, h2⟩ | ⟨h1, rfl⟩ <;> rcases split j G2 hj with ⟨h3, h4⟩ | ⟨h3, rfl⟩
    · exact h.dis i j F2 G2 h1 h3 hne x hx hx2
    · have := old i F2 h1 x hx; have := hf x hx2; omega
    · have := old j G2 h3 x hx2; have := hf x hx; omega
    · omega
theorem Fam.first {q b rb r : Nat} {p : Fp} {uv : Value} {kp : Int} {S : St} {l : Wlg} (hn : PR B w0 w q b rb r p uv kp S S l l) (hL : LI S l) : Fam B w0 w [q] [foot q b rb r p uv] :=
  ⟨rfl, fun i q2 F2 hq hF => by
    match i with
    | 0 =>
      simp at hq hF
      subst hq hF
      exact ⟨b, rb, r, p, uv, kp, S, l, rfl, hn, hL⟩
    | i + 1 => simp at hq, fun i j F2 G2 hi hj hne x hx hx2 => by
    match i, j with
    | 0, 0 => exact hne rfl
    | 0, j + 1 => simp at hj
    | i + 1, _ => simp at hi⟩
end
structure Inv (w wr : World) (g c : Nat) (qs : List Nat) (Fs : List (List Nat)) : Prop where
  row : Rw wr g c qs
  fam : Fam w.heap.size w wr qs Fs
  low : w.heap.size ≤ g
  pos : 0 < qs.length
  bel : Below w.heap.size w wr
  tb : Tb wr
section
variable {w wr w' : World} {g c : Nat} {qs : List Nat} {Fs : List (List Nat)}
theorem Inv.below (h : Inv w wr g c qs Fs) (hb : Below wr.heap.size wr w') : Inv w w' g c qs Fs :=
  ⟨h.row.below hb, h.fam.below (Nat.le_refl _) hb, h.low, h.pos, h.bel.trans (hb.mono h.bel.size), h.tb.below hb⟩
theorem Inv.does (h : Inv w wr g c qs Fs) (hz : 0 < w.heap.size) {i q : Nat} (hq : qs[i]? = some q) (o : Op) (ho : OpOk o) :
    Calls Tryd.prog 20 #[.pointer (some ⟨q, 0, none⟩), .agg #[.int .i64 o.on, .int .i64 o.kind, .int .i64 o.a, .int .i64 o.b, .string o.s]] wr fun e w' => e = .returned (.bool true) ∧ (∃ Fs', Inv w w' g c qs Fs') ∧ ∃ F, Only F wr w' ∧ ∀ x ∈ F, ∃ cs t z, wr.heap[x]? = some (.cells cs t z) ∧ t ≠ 46 := by
  obtain ⟨F, hF, b, rb, r, p, uv, kp, S, l, rfl, h1, h2⟩ := h.fam.at hq
  refine (does_any h1 (Nat.le_refl _) hz h2 o ho).mono fun e w' ⟨he, hd⟩ => ⟨he, ?_, ?_⟩
  · obtain ⟨F', hf⟩ := h.fam.step (Nat.le_refl _) hz hq hF ⟨b, rb, p, uv, kp, S, l, rfl, h1⟩ hd
    obtain ⟨_, _, _, _, _, _, _, _, _, n3, _⟩ := hd
    obtain ⟨cur, hcur⟩ := h.row.typ
    have hlow := h1.low
    exact ⟨_, h.row.of (n3.block g h.row.lt (h1.far hcur (.inr rfl))), hf, h.low, h.pos, h.bel.trans (n3.below h.bel.size hlow), h.tb.only n3 (fun h0 => by have := hlow 0 h0; omega)⟩
  · obtain ⟨_, _, _, _, _, _, _, _, _, n3, _⟩ := hd
    exact ⟨_, n3, fun x hx => by
      obtain ⟨cs, t, z, e1, e2⟩ := h1.typ x hx
      exact ⟨cs, t, z, e1, by rcases e2 with rfl | rfl | rfl | rfl | rfl | rfl | rfl <;> decide⟩⟩
theorem Inv.same (h : Inv w wr g c qs Fs) {i q : Nat} (hq : qs[i]? = some q) : Calls Tryd.prog 21 #[.pointer (some ⟨q, 0, none⟩)] wr fun e w' => e = .returned (.bool true) ∧ Inv w w' g c qs Fs := by
  obtain ⟨F, hF, b, rb, r, p, uv, kp, S, l, rfl, h1, h2⟩ := h.fam.at hq
  exact (psame_any h1 (Nat.le_refl _) h2).mono fun e w' ⟨he, hb⟩ => ⟨he, h.below hb⟩
end
end Go.Proofs.YtmoihgniglomiaaDoor
