/- A call on both logs of a pair: they tell the same. Condition: what is known of the log on its disk. -/
import Derived.Test.YtmoihgniglomiaaDoorZd23
import Derived.Test.YtmoihgniglomiaaDoorZd24
set_option linter.unusedVariables false
set_option linter.unusedSimpArgs false
set_option maxRecDepth 100000
namespace Go.Proofs.YtmoihgniglomiaaDoor
open Go.RowKit Go.Sort
section
variable {B : Nat} {w0 W w : World} {q b rb r pb : Nat} {F : List Nat} {qo : Nat} {cs : Array Value} {S T : St} {l k : Wlg}
theorem PG.qq (h : PG B w0 W q b rb r pb F qo cs S T l k w) : Bk 43 w q #[.pointer (some ⟨b, 0, none⟩), .pointer (some ⟨pb, 0, none⟩), .pointer (some ⟨rb, 0, none⟩), .pointer (some ⟨r, 0, none⟩)] := by
  obtain ⟨⟨p, uv, kp, h1, rfl, _⟩, _⟩ := h
  exact h1.qk
end
def DG (B : Nat) (w0 w : World) (q : Nat) (F : List Nat) (r : Nat) (w' : World) : Prop := ∃ b' rb' p' uv' kp' S' l', PR B w0 w' q b' rb' r p' uv' kp' S' S' l' l' ∧ LI S' l' ∧ Only F w w' ∧ ∀ x ∈ foot q b' rb' r p' uv', x ∈ F ∨ w.heap.size ≤ x
theorem PG.dg {B : Nat} {w0 W w : World} {q b rb r pb : Nat} {F : List Nat} {qo : Nat} {cs : Array Value} {S : St} {l : Wlg} (h : PG B w0 W q b rb r pb F qo cs S S l l w) (hL : LI S l) : DG B w0 W q F r w := by
  obtain ⟨⟨p, uv, kp, h1, h2, h3, h4⟩, _⟩ := h
  exact ⟨b, rb, p, uv, kp, S, l, h1, hL, h3, h4⟩
theorem LM.ofm {w w' : World} {b : Nat} {p p' : Fp} {S S' : St} {l : Wlg} (h : Lk w b p S l) (hz : 0 < w.heap.size) (m : Mut w p w' p' S') : LM w b p w' p' S' l := (LM.refl h (Below.refl _ _)).mut hz m h.blk.lt
set_option maxHeartbeats 32000000 in
theorem does0 {B : Nat} {w0 w : World} {q b rb r : Nat} {p : Fp} {uv : Value} {kp : Int} {S : St} {l : Wlg} (h : PR B w0 w q b rb r p uv kp S S l l) (hB : B ≤ w0.heap.size) (hB0 : 0 < B) (hL : LI S l) (on oa ob : Int) (os : Bs) (ha : oa ≤ 9223372036854775807) (hb : ob ≤ 9223372036854775807) (hs : os.length ≤ 140737488355328) :
    Calls Tryd.prog 20 #[.pointer (some ⟨q, 0, none⟩), .agg #[.int .i64 on, .int .i64 0, .int .i64 oa, .int .i64 ob, .string ⟨os.toArray⟩]] w fun e w' => e = .returned (.bool true) ∧ DG B w0 w q (foot q b rb r p uv) r w' := by
  obtain ⟨to, hto⟩ : ∃ t : ByteArray, t = ⟨os.toArray⟩ := ⟨_, rfl⟩
  rw [← hto]
  have HTO := Lib.hid hto
  have HB := Lib.hid (And.intro hB hB0)
  have HLI := Lib.hid hL
  have HAB := Lib.hid (And.intro ha (And.intro hb hs))
  have hb1 : Below w.heap.size w (w.alloc (.cells #[.int .i64 on, .int .i64 0, .int .i64 oa, .int .i64 ob, .string to] 46)) := by go_grown
  have G1 : Hid (PG B w0 w q b rb r p.b (foot q b rb r p uv) w.heap.size #[.int .i64 on, .int .i64 0, .int .i64 oa, .int .i64 ob, .string to] S S l l (w.alloc (.cells #[.int .i64 on, .int .i64 0, .int .i64 oa, .int .i64 ob, .string to] 46))) := Lib.hid ⟨⟨p, uv, kp, h.below hB hb1, rfl, Only.of hb1, fun x hx => .inl hx⟩, Bk.new rfl⟩
  obtain ⟨F, hF⟩ : ∃ F, F = foot q b rb r p uv := ⟨_, rfl⟩
  rw [← hF] at G1 ⊢
  obtain ⟨pb, hpb⟩ : ∃ x, x = p.b := ⟨_, rfl⟩
  rw [← hpb] at G1
  clear h hB hB0 hL ha hb hs hto hb1 hF hpb
  obtain ⟨w1, hw1⟩ : ∃ x, x = w.alloc (.cells #[.int .i64 on, .int .i64 0, .int .i64 oa, .int .i64 ob, .string to] 46) := ⟨_, rfl⟩
  obtain ⟨qo, hqo⟩ : ∃ x, x = w.heap.size := ⟨_, rfl⟩
  rw [← hw1, ← hqo] at G1
  obtain ⟨⟨cd, S2, l2⟩, hx⟩ : ∃ x, lap S l os = x := ⟨_, rfl⟩
  have HX := Lib.hid hx
  have H2 : Hid (LI S2 l2) := Lib.hid (by have := HLI.out.lap os; rwa [hx] at this)
  have k1 := G1.out.2.cell 1
  simp only [List.getElem?_toArray, List.getElem?_cons_succ, List.getElem?_cons_zero] at k1
  rw [hw1, hqo] at k1
  have HW := Lib.hid (And.intro hw1 hqo)
  clear hw1 hqo hx
  go_enter Tryd.func20, Tryd.ntmps20
  go_wp2_with fail
  rw [← HW.out.1, ← HW.out.2]
  clear HW k1
  refine rDA (fun b6 b13 w' => PG B w0 w q b rb r pb F qo #[.int .i64 on, .int .i64 0, .int .i64 oa, .int .i64 ob, .string to] (if b6 then S2 else S) (if b13 then S2 else S) (if b6 then l2 else l) (if b13 then l2 else l) w') q qo b rb (cd : Int) to w1 ?w0 ?l0 ?q4 ?l2 ?c6 ?c13 ?h
  case w0 =>
    simp only [Bool.false_eq_true, if_false, if_true]
    exact G1.out.below HB.out.1 ⟨rfl, rfl, rfl, Nat.le_refl _, fun _ _ => rfl⟩
  case l0 => exact fun _ _ _ hp => hp.qq.cell 0
  case l2 => exact fun _ _ _ hp => hp.qq.cell 2
  case q4 => exact fun _ _ _ hp => hp.2.cell 4
  case c6 =>
    intro w' hp
    simp only [Bool.false_eq_true, if_false, if_true] at hp ⊢
    refine hp.real HB.out.1 HB.out.2 (fun p' hpb hlk hT => ?_)
    have := lappend_any hlk hT HLI.out.hf.2.2 os
    rw [HX.out] at this
    rw [HTO.out]
    exact this
  case c13 =>
    intro w' hp
    simp only [Bool.false_eq_true, if_false, if_true] at hp ⊢
    refine hp.ref HB.out.1 HB.out.2 (fun uv' kp' hrl => ?_)
    have := rappend_any hrl HLI.out.hg HLI.out.hf.1 HLI.out.hf.2.2 os HAB.out.2.2
    rw [HX.out] at this
    rw [HTO.out]
    exact this
  case h =>
    intro w2 hp
    simp only [if_true] at hp
    have DGH := Lib.hid (hp.dg H2.out)
    clear hp G1 HX H2 HLI HB HTO
    go_wp2_with fail
    go_ret
    exact ⟨rfl, DGH.out⟩
set_option maxHeartbeats 32000000 in
theorem does1 {B : Nat} {w0 w : World} {q b rb r : Nat} {p : Fp} {uv : Value} {kp : Int} {S : St} {l : Wlg} (h : PR B w0 w q b rb r p uv kp S S l l) (hB : B ≤ w0.heap.size) (hB0 : 0 < B) (hL : LI S l) (on oa ob : Int) (os : Bs) (ha : oa ≤ 9223372036854775807) (hb : ob ≤ 9223372036854775807) (hs : os.length ≤ 140737488355328) :
    Calls Tryd.prog 20 #[.pointer (some ⟨q, 0, none⟩), .agg #[.int .i64 on, .int .i64 1, .int .i64 oa, .int .i64 ob, .string ⟨os.toArray⟩]] w fun e w' => e = .returned (.bool true) ∧ DG B w0 w q (foot q b rb r p uv) r w' := by
  obtain ⟨to, hto⟩ : ∃ t : ByteArray, t = ⟨os.toArray⟩ := ⟨_, rfl⟩
  rw [← hto]
  have HTO := Lib.hid hto
  have HB := Lib.hid (And.intro hB hB0)
  have HLI := Lib.hid hL
  have HAB := Lib.hid (And.intro ha (And.intro hb hs))
  have hb1 : Below w.heap.size w (w.alloc (.cells #[.int .i64 on, .int .i64 1, .int .i64 oa, .int .i64 ob, .string to] 46)) := by go_grown
  have G1 : Hid (PG B w0 w q b rb r p.b (foot q b rb r p uv) w.heap.size #[.int .i64 on, .int .i64 1, .int .i64 oa, .int .i64 ob, .string to] S S l l (w.alloc (.cells #[.int .i64 on, .int .i64 1, .int .i64 oa, .int .i64 ob, .string to] 46))) := Lib.hid ⟨⟨p, uv, kp, h.below hB hb1, rfl, Only.of hb1, fun x hx => .inl hx⟩, Bk.new rfl⟩
  obtain ⟨F, hF⟩ : ∃ F, F = foot q b rb r p uv := ⟨_, rfl⟩
  rw [← hF] at G1 ⊢
  obtain ⟨pb, hpb⟩ : ∃ x, x = p.b := ⟨_, rfl⟩
  rw [← hpb] at G1
  clear h hB hB0 hL ha hb hs hto hb1 hF hpb
  obtain ⟨w1, hw1⟩ : ∃ x, x = w.alloc (.cells #[.int .i64 on, .int .i64 1, .int .i64 oa, .int .i64 ob, .string to] 46) := ⟨_, rfl⟩
  obtain ⟨qo, hqo⟩ : ∃ x, x = w.heap.size := ⟨_, rfl⟩
  rw [← hw1, ← hqo] at G1
  obtain ⟨⟨cd, S2, l2⟩, hx⟩ : ∃ x, lsync S l = x := ⟨_, rfl⟩
  have HX := Lib.hid hx
  have H2 : Hid (LI S2 l2) := Lib.hid (by have := HLI.out.lsync; rwa [hx] at this)
  have k1 := G1.out.2.cell 1
  simp only [List.getElem?_toArray, List.getElem?_cons_succ, List.getElem?_cons_zero] at k1
  rw [hw1, hqo] at k1
  have HW := Lib.hid (And.intro hw1 hqo)
  clear hw1 hqo hx
  go_enter Tryd.func20, Tryd.ntmps20
  go_wp2_with fail
  rw [← HW.out.1, ← HW.out.2]
  clear HW k1
  refine rDB (fun b6 b13 w' => PG B w0 w q b rb r pb F qo #[.int .i64 on, .int .i64 1, .int .i64 oa, .int .i64 ob, .string to] (if b6 then S2 else S) (if b13 then S2 else S) (if b6 then l2 else l) (if b13 then l2 else l) w') q qo b rb (cd : Int) w1 ?w0 ?l0 ?l2 ?c6 ?c13 ?h
  case w0 =>
    simp only [Bool.false_eq_true, if_false, if_true]
    exact G1.out.below HB.out.1 ⟨rfl, rfl, rfl, Nat.le_refl _, fun _ _ => rfl⟩
  case l0 => exact fun _ _ _ hp => hp.qq.cell 0
  case l2 => exact fun _ _ _ hp => hp.qq.cell 2
  case c6 =>
    intro w' hp
    simp only [Bool.false_eq_true, if_false, if_true] at hp ⊢
    refine hp.real HB.out.1 HB.out.2 (fun p' hpb hlk hT => ?_)
    have := lsync_any hlk hT
    rw [HX.out] at this
    exact this
  case c13 =>
    intro w' hp
    simp only [Bool.false_eq_true, if_false, if_true] at hp ⊢
    refine hp.ref HB.out.1 HB.out.2 (fun uv' kp' hrl => ?_)
    have := rsync_any hrl HLI.out.hg
    rw [HX.out] at this
    exact this
  case h =>
    intro w2 hp
    simp only [if_true] at hp
    have DGH := Lib.hid (hp.dg H2.out)
    clear hp G1 HX H2 HLI HB HTO
    go_wp2_with fail
    go_ret
    exact ⟨rfl, DGH.out⟩
set_option maxHeartbeats 32000000 in
theorem does2 {B : Nat} {w0 w : World} {q b rb r : Nat} {p : Fp} {uv : Value} {kp : Int} {S : St} {l : Wlg} (h : PR B w0 w q b rb r p uv kp S S l l) (hB : B ≤ w0.heap.size) (hB0 : 0 < B) (hL : LI S l) (on oa ob : Int) (os : Bs) (ha : oa ≤ 9223372036854775807) (hb : ob ≤ 9223372036854775807) (hs : os.length ≤ 140737488355328) :
    Calls Tryd.prog 20 #[.pointer (some ⟨q, 0, none⟩), .agg #[.int .i64 on, .int .i64 2, .int .i64 oa, .int .i64 ob, .string ⟨os.toArray⟩]] w fun e w' => e = .returned (.bool true) ∧ DG B w0 w q (foot q b rb r p uv) r w' := by
  obtain ⟨to, hto⟩ : ∃ t : ByteArray, t = ⟨os.toArray⟩ := ⟨_, rfl⟩
  rw [← hto]
  have HTO := Lib.hid hto
  have HB := Lib.hid (And.intro hB hB0)
  have HLI := Lib.hid hL
  have HAB := Lib.hid (And.intro ha (And.intro hb hs))
  have hb1 : Below w.heap.size w (w.alloc (.cells #[.int .i64 on, .int .i64 2, .int .i64 oa, .int .i64 ob, .string to] 46)) := by go_grown
  have G1 : Hid (PG B w0 w q b rb r p.b (foot q b rb r p uv) w.heap.size #[.int .i64 on, .int .i64 2, .int .i64 oa, .int .i64 ob, .string to] S S l l (w.alloc (.cells #[.int .i64 on, .int .i64 2, .int .i64 oa, .int .i64 ob, .string to] 46))) := Lib.hid ⟨⟨p, uv, kp, h.below hB hb1, rfl, Only.of hb1, fun x hx => .inl hx⟩, Bk.new rfl⟩
  obtain ⟨F, hF⟩ : ∃ F, F = foot q b rb r p uv := ⟨_, rfl⟩
  rw [← hF] at G1 ⊢
  obtain ⟨pb, hpb⟩ : ∃ x, x = p.b := ⟨_, rfl⟩
  rw [← hpb] at G1
  clear h hB hB0 hL ha hb hs hto hb1 hF hpb
  obtain ⟨w1, hw1⟩ : ∃ x, x = w.alloc (.cells #[.int .i64 on, .int .i64 2, .int .i64 oa, .int .i64 ob, .string to] 46) := ⟨_, rfl⟩
  obtain ⟨qo, hqo⟩ : ∃ x, x = w.heap.size := ⟨_, rfl⟩
  rw [← hw1, ← hqo] at G1
  obtain ⟨⟨cd, S2, l2⟩, hx⟩ : ∃ x, lchk S l os = x := ⟨_, rfl⟩
  have HX := Lib.hid hx
  have H2 : Hid (LI S2 l2) := Lib.hid (by have := HLI.out.lchk os; rwa [hx] at this)
  have k1 := G1.out.2.cell 1
  simp only [List.getElem?_toArray, List.getElem?_cons_succ, List.getElem?_cons_zero] at k1
  rw [hw1, hqo] at k1
  have HW := Lib.hid (And.intro hw1 hqo)
  clear hw1 hqo hx
  go_enter Tryd.func20, Tryd.ntmps20
  go_wp2_with fail
  rw [← HW.out.1, ← HW.out.2]
  clear HW k1
  refine rDC (fun b6 b13 w' => PG B w0 w q b rb r pb F qo #[.int .i64 on, .int .i64 2, .int .i64 oa, .int .i64 ob, .string to] (if b6 then S2 else S) (if b13 then S2 else S) (if b6 then l2 else l) (if b13 then l2 else l) w') q qo b rb (cd : Int) to w1 ?w0 ?l0 ?q4 ?l2 ?c6 ?c13 ?h
  case w0 =>
    simp only [Bool.false_eq_true, if_false, if_true]
    exact G1.out.below HB.out.1 ⟨rfl, rfl, rfl, Nat.le_refl _, fun _ _ => rfl⟩
  case l0 => exact fun _ _ _ hp => hp.qq.cell 0
  case l2 => exact fun _ _ _ hp => hp.qq.cell 2
  case q4 => exact fun _ _ _ hp => hp.2.cell 4
  case c6 =>
    intro w' hp
    simp only [Bool.false_eq_true, if_false, if_true] at hp ⊢
    refine hp.real HB.out.1 HB.out.2 (fun p' hpb hlk hT => ?_)
    have := (by
      rcases HLI.out with ⟨sn, rs, m, ho⟩ | ⟨hg, hd, _⟩
      · exact lchk_any hlk hT ho.oth os
      · unfold lchk
        rw [if_pos (.inl hd)]
        exact lchk_gone hlk hT os (by simp [hd]) : Calls Tryd.prog 39 #[.pointer (some ⟨b, 0, none⟩), .string ⟨os.toArray⟩] w' fun e w' => LRes _ b p' (lchk S l os) e w')
    rw [HX.out] at this
    rw [HTO.out]
    exact this
  case c13 =>
    intro w' hp
    simp only [Bool.false_eq_true, if_false, if_true] at hp ⊢
    refine hp.ref HB.out.1 HB.out.2 (fun uv' kp' hrl => ?_)
    have := rchk_any hrl HLI.out.hg HLI.out.hf.1 HLI.out.hf.2.1 os HAB.out.2.2
    rw [HX.out] at this
    rw [HTO.out]
    exact this
  case h =>
    intro w2 hp
    simp only [if_true] at hp
    have DGH := Lib.hid (hp.dg H2.out)
    clear hp G1 HX H2 HLI HB HTO
    go_wp2_with fail
    go_ret
    exact ⟨rfl, DGH.out⟩
set_option maxHeartbeats 32000000 in
theorem does3 {B : Nat} {w0 w : World} {q b rb r : Nat} {p : Fp} {uv : Value} {kp : Int} {S : St} {l : Wlg} (h : PR B w0 w q b rb r p uv kp S S l l) (hB : B ≤ w0.heap.size) (hB0 : 0 < B) (hL : LI S l) (on oa ob : Int) (os : Bs) (ha : oa ≤ 9223372036854775807) (hb : ob ≤ 9223372036854775807) (hs : os.length ≤ 140737488355328) :
    Calls Tryd.prog 20 #[.pointer (some ⟨q, 0, none⟩), .agg #[.int .i64 on, .int .i64 3, .int .i64 oa, .int .i64 ob, .string ⟨os.toArray⟩]] w fun e w' => e = .returned (.bool true) ∧ DG B w0 w q (foot q b rb r p uv) r w' := by
  obtain ⟨to, hto⟩ : ∃ t : ByteArray, t = ⟨os.toArray⟩ := ⟨_, rfl⟩
  rw [← hto]
  have HTO := Lib.hid hto
  have HB := Lib.hid (And.intro hB hB0)
  have HLI := Lib.hid hL
  have HAB := Lib.hid (And.intro ha (And.intro hb hs))
  have hb1 : Below w.heap.size w (w.alloc (.cells #[.int .i64 on, .int .i64 3, .int .i64 oa, .int .i64 ob, .string to] 46)) := by go_grown
  have G1 : Hid (PG B w0 w q b rb r p.b (foot q b rb r p uv) w.heap.size #[.int .i64 on, .int .i64 3, .int .i64 oa, .int .i64 ob, .string to] S S l l (w.alloc (.cells #[.int .i64 on, .int .i64 3, .int .i64 oa, .int .i64 ob, .string to] 46))) := Lib.hid ⟨⟨p, uv, kp, h.below hB hb1, rfl, Only.of hb1, fun x hx => .inl hx⟩, Bk.new rfl⟩
  obtain ⟨F, hF⟩ : ∃ F, F = foot q b rb r p uv := ⟨_, rfl⟩
  rw [← hF] at G1 ⊢
  obtain ⟨pb, hpb⟩ : ∃ x, x = p.b := ⟨_, rfl⟩
  rw [← hpb] at G1
  clear h hB hB0 hL ha hb hs hto hb1 hF hpb
  obtain ⟨w1, hw1⟩ : ∃ x, x = w.alloc (.cells #[.int .i64 on, .int .i64 3, .int .i64 oa, .int .i64 ob, .string to] 46) := ⟨_, rfl⟩
  obtain ⟨qo, hqo⟩ : ∃ x, x = w.heap.size := ⟨_, rfl⟩
  rw [← hw1, ← hqo] at G1
  have k1 := G1.out.2.cell 1
  simp only [List.getElem?_toArray, List.getElem?_cons_succ, List.getElem?_cons_zero] at k1
  rw [hw1, hqo] at k1
  have HW := Lib.hid (And.intro hw1 hqo)
  clear hw1 hqo
  go_enter Tryd.func20, Tryd.ntmps20
  go_wp2_with fail
  rw [← HW.out.1, ← HW.out.2]
  clear HW k1
  refine rDD (fun b6 b13 w' => PG B w0 w q b rb r pb F qo #[.int .i64 on, .int .i64 3, .int .i64 oa, .int .i64 ob, .string to] (if b6 then (S.arm oa ob).2 else S) (if b13 then (S.arm oa ob).2 else S) l l w') q qo pb r ((S.arm oa ob).1 : Int) oa ob w1 ?w0 ?l1 ?q2 ?q3 ?l3 ?c6 ?c13 ?h
  case w0 =>
    simp only [Bool.false_eq_true, if_false, if_true]
    exact G1.out.below HB.out.1 ⟨rfl, rfl, rfl, Nat.le_refl _, fun _ _ => rfl⟩
  case l1 => exact fun _ _ _ hp => hp.qq.cell 1
  case l3 => exact fun _ _ _ hp => hp.qq.cell 3
  case q2 => exact fun _ _ _ hp => hp.2.cell 2
  case q3 => exact fun _ _ _ hp => hp.2.cell 3
  case c6 =>
    intro w' hp
    simp only [Bool.false_eq_true, if_false, if_true] at hp ⊢
    refine hp.real HB.out.1 HB.out.2 (fun p' hpb hlk hT => ?_)
    rw [← hpb]
    refine (arm_any p' S oa ob HAB.out.1 HAB.out.2.1 _ hlk.dk).mono ?_
    rintro e w2 ⟨rfl, hd, ho⟩
    exact ⟨rfl, _, LM.ofm hlk hT.1 (mut_head hd ho)⟩
  case c13 =>
    intro w' hp
    simp only [Bool.false_eq_true, if_false, if_true] at hp ⊢
    refine hp.ref HB.out.1 HB.out.2 (fun uv' kp' hrl => ?_)
    refine (arm36 r S uv' kp' oa ob HAB.out.1 HAB.out.2.1 _ hrl.k).mono ?_
    rintro e w2 ⟨rfl, hm⟩
    exact ⟨rfl, RLM.disk0 hrl hm⟩
  case h =>
    intro w2 hp
    simp only [if_true] at hp
    have DGH := Lib.hid (hp.dg (HLI.out.arm oa ob HAB.out.1 HAB.out.2.1))
    clear hp G1 HLI HB HTO
    go_wp2_with fail
    go_ret
    exact ⟨rfl, DGH.out⟩
set_option maxHeartbeats 32000000 in
theorem does4 {B : Nat} {w0 w : World} {q b rb r : Nat} {p : Fp} {uv : Value} {kp : Int} {S : St} {l : Wlg} (h : PR B w0 w q b rb r p uv kp S S l l) (hB : B ≤ w0.heap.size) (hB0 : 0 < B) (hL : LI S l) (on oa ob : Int) (os : Bs) (ha : oa ≤ 9223372036854775807) (hb : ob ≤ 9223372036854775807) (hs : os.length ≤ 140737488355328) :
    Calls Tryd.prog 20 #[.pointer (some ⟨q, 0, none⟩), .agg #[.int .i64 on, .int .i64 4, .int .i64 oa, .int .i64 ob, .string ⟨os.toArray⟩]] w fun e w' => e = .returned (.bool true) ∧ DG B w0 w q (foot q b rb r p uv) r w' := by
  obtain ⟨to, hto⟩ : ∃ t : ByteArray, t = ⟨os.toArray⟩ := ⟨_, rfl⟩
  rw [← hto]
  have HTO := Lib.hid hto
  have HB := Lib.hid (And.intro hB hB0)
  have HLI := Lib.hid hL
  have HAB := Lib.hid (And.intro ha (And.intro hb hs))
  have hb1 : Below w.heap.size w (w.alloc (.cells #[.int .i64 on, .int .i64 4, .int .i64 oa, .int .i64 ob, .string to] 46)) := by go_grown
  have G1 : Hid (PG B w0 w q b rb r p.b (foot q b rb r p uv) w.heap.size #[.int .i64 on, .int .i64 4, .int .i64 oa, .int .i64 ob, .string to] S S l l (w.alloc (.cells #[.int .i64 on, .int .i64 4, .int .i64 oa, .int .i64 ob, .string to] 46))) := Lib.hid ⟨⟨p, uv, kp, h.below hB hb1, rfl, Only.of hb1, fun x hx => .inl hx⟩, Bk.new rfl⟩
  obtain ⟨F, hF⟩ : ∃ F, F = foot q b rb r p uv := ⟨_, rfl⟩
  rw [← hF] at G1 ⊢
  obtain ⟨pb, hpb⟩ : ∃ x, x = p.b := ⟨_, rfl⟩
  rw [← hpb] at G1
  clear h hB hB0 hL ha hb hs hto hb1 hF hpb
  obtain ⟨w1, hw1⟩ : ∃ x, x = w.alloc (.cells #[.int .i64 on, .int .i64 4, .int .i64 oa, .int .i64 ob, .string to] 46) := ⟨_, rfl⟩
  obtain ⟨qo, hqo⟩ : ∃ x, x = w.heap.size := ⟨_, rfl⟩
  rw [← hw1, ← hqo] at G1
  have k1 := G1.out.2.cell 1
  simp only [List.getElem?_toArray, List.getElem?_cons_succ, List.getElem?_cons_zero] at k1
  rw [hw1, hqo] at k1
  have HW := Lib.hid (And.intro hw1 hqo)
  clear hw1 hqo
  go_enter Tryd.func20, Tryd.ntmps20
  go_wp2_with fail
  rw [← HW.out.1, ← HW.out.2]
  clear HW k1
  refine rDE (fun b6 b13 w' => PG B w0 w q b rb r pb F qo #[.int .i64 on, .int .i64 4, .int .i64 oa, .int .i64 ob, .string to] (if b6 then (S.crash oa).2 else S) (if b13 then (S.crash oa).2 else S) l l w') q qo pb r ((S.crash oa).1 : Int) oa w1 ?w0 ?l1 ?q2 ?l3 ?c6 ?c13 ?h
  case w0 =>
    simp only [Bool.false_eq_true, if_false, if_true]
    exact G1.out.below HB.out.1 ⟨rfl, rfl, rfl, Nat.le_refl _, fun _ _ => rfl⟩
  case l1 => exact fun _ _ _ hp => hp.qq.cell 1
  case l3 => exact fun _ _ _ hp => hp.qq.cell 3
  case q2 => exact fun _ _ _ hp => hp.2.cell 2
  case c6 =>
    intro w' hp
    simp only [Bool.false_eq_true, if_false, if_true] at hp ⊢
    refine hp.real HB.out.1 HB.out.2 (fun p' hpb hlk hT => ?_)
    rw [← hpb]
    refine (crash_any p' S oa HAB.out.1 _ hlk.dk).mono ?_
    rintro e w2 ⟨rfl, p2, hm⟩
    exact ⟨rfl, _, LM.ofm hlk hT.1 hm⟩
  case c13 =>
    intro w' hp
    simp only [Bool.false_eq_true, if_false, if_true] at hp ⊢
    refine hp.ref HB.out.1 HB.out.2 (fun uv' kp' hrl => ?_)
    refine (crash37 r S uv' kp' oa _ hrl.k).mono ?_
    rintro e w2 ⟨rfl, hm⟩
    exact ⟨rfl, RLM.disk0 hrl hm⟩
  case h =>
    intro w2 hp
    simp only [if_true] at hp
    obtain ⟨hcl, hc0, hli⟩ := HLI.out.again oa
    generalize hS1 : (S.crash oa).2 = S1 at hp hcl hc0 hli
    have G2 := Lib.hid hp
    have HCL := Lib.hid hcl
    have HC0 := Lib.hid hc0
    have HL4 := Lib.hid hli
    clear hp G1 HLI hcl hc0 hli hS1
    have q1 := G2.out.qq.cell 1
    simp only [List.getElem?_toArray, List.getElem?_cons_succ, List.getElem?_cons_zero] at q1
    have hrv : Calls Tryd.prog 29 #[.pointer (some ⟨pb, 0, none⟩)] w2 fun e w' => e = .returned (.tuple #[]) ∧ PG B w0 w q b rb r pb F qo #[.int .i64 on, .int .i64 4, .int .i64 oa, .int .i64 ob, .string to] S1.revive S1 l l w' := G2.out.real HB.out.1 HB.out.2 (fun p' hpb hlk hT => by
      rw [← hpb]
      refine (revive_any p' S1 _ hlk.dk).mono ?_
      rintro e w3 ⟨rfl, hd, ho⟩
      exact ⟨rfl, _, LM.ofm hlk hT.1 (mut_head hd ho)⟩)
    have HRV := Lib.hid hrv
    clear hrv G2
    go_wp2_with fail
    refine HRV.out.mono ?_
    rintro e w3 ⟨rfl, hp3⟩
    have G3 := Lib.hid hp3
    clear hp3 HRV q1
    have q3 := G3.out.qq.cell 3
    simp only [List.getElem?_toArray, List.getElem?_cons_succ, List.getElem?_cons_zero] at q3
    have hrv : Calls Tryd.prog 30 #[.pointer (some ⟨r, 0, none⟩)] w3 fun e w' => e = .returned (.tuple #[]) ∧ PG B w0 w q b rb r pb F qo #[.int .i64 on, .int .i64 4, .int .i64 oa, .int .i64 ob, .string to] S1.revive S1.revive l l w' := G3.out.ref HB.out.1 HB.out.2 (fun uv' kp' hrl => by
      refine (revive38 r S1 uv' kp' _ hrl.k).mono ?_
      rintro e w4 ⟨rfl, hk, ho⟩
      exact ⟨rfl, RLM.disk0 hrl (Rm.of hk ho)⟩)
    have HRV := Lib.hid hrv
    clear hrv G3
    go_wp2_with fail
    refine HRV.out.mono ?_
    rintro e w4 ⟨rfl, hp4⟩
    have G4 := Lib.hid hp4
    clear hp4 HRV q3
    have q1 := G4.out.qq.cell 1
    have q3 := G4.out.qq.cell 3
    simp only [List.getElem?_toArray, List.getElem?_cons_succ, List.getElem?_cons_zero] at q1 q3
    generalize S1.revive = S3 at G4 HCL HC0 HL4
    obtain ⟨⟨p4, uv4, kp4, hpr4, hpb4, ho4, hf4⟩, -⟩ := G4.out
    have P4 := Lib.hid hpr4
    have HPB4 := Lib.hid hpb4
    have HO4 := Lib.hid ho4
    have HF4 := Lib.hid hf4
    have hqn : q ∉ r :: p4.own := fun hx => by
      rcases List.mem_cons.1 hx with e | hx
      · exact blk_ne P4.out.qk P4.out.po.k.blk (by decide) e
      · obtain ⟨cs', t', z', e1, e2⟩ := P4.out.po.d.dk.typ q hx
        exact blk_ne P4.out.qk e1 (by rcases e2 with rfl | rfl | rfl <;> decide) rfl
    have HQN := Lib.hid hqn
    clear hpr4 hpb4 ho4 hf4 G4 hqn q1 q3
    go_wp2_with fail
    refine rDF (fun b8 y8 w' => Bk 43 w' q #[.pointer (some ⟨b, 0, none⟩), .pointer (some ⟨pb, 0, none⟩), .pointer (some ⟨rb, 0, none⟩), .pointer (some ⟨r, 0, none⟩)] ∧ (b8 = false → PR B w0 w' q b rb r p4 uv4 kp4 S3 S3 l l ∧ Below w4.heap.size w4 w') ∧ (b8 = true → ∃ lv rv p5 uv5 kp5 wc, y8 = .tuple #[lv, rv, .bool true] ∧ Below w4.heap.size w4 wc ∧ PO B w0 w' p5 r (lopen S3).2.2 (lopen S3).2.2 uv5 kp5 ∧ p5.b = p4.b ∧ Told wc w' p5 r (lopen S3) uv5 lv rv ∧ Only (r :: p4.own) wc w' ∧ (∀ k ∈ p5.own, k ∈ p4.own ∨ wc.heap.size ≤ k) ∧ ∀ g, uv5.ownBlock = some g → uv4.ownBlock = some g ∨ wc.heap.size ≤ g)) q pb r w4 ?l1 ?l3 ?c8 ?sh ?w0 ?h
    case w0 =>
      have hd : Below w4.heap.size w4 w4.drew := ⟨rfl, rfl, rfl, Nat.le_refl _, fun _ _ => rfl⟩
      have h1 := P4.out.below HB.out.1 hd
      have h2 := h1.qk
      rw [HPB4.out] at h2
      exact ⟨h2, fun _ => ⟨h1, hd⟩, fun h => by cases h⟩
    case l1 => exact fun _ _ _ hp => hp.1.cell 1
    case l3 => exact fun _ _ _ hp => hp.1.cell 3
    case sh =>
      intro b8 y8 w' hp hb
      obtain ⟨lv, rv, _, _, _, _, e, _⟩ := hp.2.2 hb
      exact ⟨lv, rv, e⟩
    case c8 =>
      rintro y8 w' ⟨hq, hp, -⟩
      obtain ⟨hp, hb⟩ := hp rfl
      have := opened_fr hp.po HB.out.1 HB.out.2 HCL.out
      rw [show p4.v = .pointer (some ⟨pb, 0, none⟩) by unfold Fp.v; rw [HPB4.out]] at this
      refine this.mono ?_
      rintro e w6 ⟨lv, rv, p5, uv5, kp5, rfl, h1, h2, h3, h4, h5, h6⟩
      exact ⟨_, rfl, hq.only h4 HQN.out, (fun h => by cases h), fun _ => ⟨lv, rv, p5, uv5, kp5, w', rfl, hb, h1, h2, h3, h4, h5, h6⟩⟩
    case h =>
    rintro y8 w5 ⟨hk5, -, hp5⟩
    obtain ⟨lv, rv, p5, uv5, kp5, wc, rfl, hd4, hpo5, hpb5, htold, hon5, hw5, hu5⟩ := hp5 rfl
    have ey0 : prj (.tuple #[lv, rv, .bool true]) 0 = lv := rfl
    have ey1 : prj (.tuple #[lv, rv, .bool true]) 1 = rv := rfl
    have ey2 : prj (.tuple #[lv, rv, .bool true]) 2 = .bool true := rfl
    rw [ey0, ey1, ey2]
    clear ey0 ey1 ey2
    rcases htold with ⟨-, b5, rb5, rfl, rfl, hol⟩ | ⟨hne, _⟩
    · have P5 := P4.out.below HB.out.1 hd4
      have K5 : Bk 43 w5 q #[.pointer (some ⟨b, 0, none⟩), .pointer (some ⟨p4.b, 0, none⟩), .pointer (some ⟨rb, 0, none⟩), .pointer (some ⟨r, 0, none⟩)] := by rw [HPB4.out]; exact hk5
      have hs4 : w4.heap.size ≤ wc.heap.size := hd4.size
      have hwb : b5 ≥ w4.heap.size ∧ rb5 ≥ w4.heap.size := ⟨by have := hol.wb; omega, by have := hol.wr; omega⟩
      have hq5 : ∀ {g : Nat} {cs : Array Value} {t : TypeId} {z : Nat × Nat}, w5.heap[g]? = some (.cells cs t z) → t ≠ 43 → g ≠ q := fun hg ht => blk_ne hg K5 ht
      have hqf : q ∉ p5.own := fun hx => by
        obtain ⟨cs', t', z', e1, e2⟩ := hpo5.d.dk.typ q hx
        exact hq5 e1 (by rcases e2 with rfl | rfl | rfl <;> decide) rfl
      have hBq : B ≤ q := P4.out.bq
      have ho : Only [q] w5 ((w5.setCell ⟨q, 0, none⟩ (.pointer (some ⟨b5, 0, none⟩))).setCell ⟨q, 2, none⟩ (.pointer (some ⟨rb5, 0, none⟩))) := ((Only.refl [q] w5).setCell ⟨q, 0, none⟩ (.inl (by simp)) _).setCell ⟨q, 2, none⟩ (.inl (by simp)) _
      have hbase : B ≤ w4.heap.size := Nat.le_trans HB.out.1 P4.out.po.d.bw.size
      have hnew : PR B w0 ((w5.setCell ⟨q, 0, none⟩ (.pointer (some ⟨b5, 0, none⟩))).setCell ⟨q, 2, none⟩ (.pointer (some ⟨rb5, 0, none⟩))) q b5 rb5 r p5 uv5 kp5 (lopen S3).2.2 (lopen S3).2.2 (lopen S3).2.1.1 (lopen S3).2.1.1 := by
        refine ⟨hpo5.row HB.out.1 HB.out.2 ho (fun g hg => ?_), hol.lk.only ho (by simpa using hq5 hol.lk.blk (by decide)) (fun x hx hx2 => ?_), hol.bk.only ho (by simpa using hq5 hol.bk (by decide)), ?_, hBq, by omega, by omega⟩
        · simp only [List.mem_singleton] at hg
          subst hg
          refine ⟨hBq, hqf, (hq5 hpo5.k.blk (by decide)).symm, fun e => ?_⟩
          obtain ⟨cs', z', e1⟩ := hpo5.k.uty g e
          exact hq5 e1 (by decide) rfl
        · simp only [List.mem_singleton] at hx2
          subst hx2
          exact hqf hx
        · have := Bk.same (i := 2) (v := .pointer (some ⟨rb5, 0, none⟩)) (Bk.same (i := 0) (v := .pointer (some ⟨b5, 0, none⟩)) K5)
          rw [hpb5]
          simpa using this
      have hF : ∀ x ∈ q :: r :: p4.own, x ∈ F ∨ w.heap.size ≤ x := fun x hx => HF4.out x (foot_mem.2 (by simp at hx; rcases hx with h | h | h <;> simp [h]))
      have DGH : Hid (DG B w0 w q F r ((w5.setCell ⟨q, 0, none⟩ (.pointer (some ⟨b5, 0, none⟩))).setCell ⟨q, 2, none⟩ (.pointer (some ⟨rb5, 0, none⟩)))) := Lib.hid (by
        refine ⟨b5, rb5, p5, uv5, kp5, _, _, hnew, HL4.out, ((HO4.out.trans (Only.of (L := []) hd4) (fun x hx => by simp at hx)).trans hon5 (fun x hx => hF x (by rcases List.mem_cons.1 hx with rfl | hx <;> simp_all))).trans ho (fun x hx => hF x (by simp at hx; simp [hx])), fun x hx => ?_⟩
        have hsz := HO4.out.size
        rcases foot_mem.1 hx with rfl | rfl | rfl | rfl | hx
        · exact hF x (by simp)
        · exact .inr (by omega)
        · exact .inr (by omega)
        · exact hF x (by simp)
        · rcases hw5 x hx with h | h
          · exact hF x (by simp [h])
          · exact .inr (by omega))
      have k50 := K5.cell 0
      have k52 := K5.cell 2
      have f50 := K5.fro 0
      have f52 := K5.fro 2
      simp only [List.getElem?_toArray, List.getElem?_cons_succ, List.getElem?_cons_zero] at k50 k52
      clear hpo5 hpb5 hol hon5 hw5 hu5 hd4 P5 hk5 hp5 K5 hs4 hwb hq5 hqf hBq ho hbase hnew hF P4 HPB4 HO4 HF4 HL4 HC0 HQN
      go_wp2_with fail
      go_ret
      exact ⟨rfl, DGH.out⟩
    · exact absurd HC0.out hne
set_option maxHeartbeats 32000000 in
theorem doesx {B : Nat} {w0 w : World} {q b rb r : Nat} {p : Fp} {uv : Value} {kp : Int} {S : St} {l : Wlg} (h : PR B w0 w q b rb r p uv kp S S l l) (hB : B ≤ w0.heap.size) (hB0 : 0 < B) (hL : LI S l) (on kind oa ob : Int) (os : Bs) (ha : oa ≤ 9223372036854775807) (hb : ob ≤ 9223372036854775807) (hs : os.length ≤ 140737488355328) (h0 : (kind == 0) = false) (h1 : (kind == 1) = false) (h2 : (kind == 2) = false) (h3 : (kind == 3) = false) (h4 : (kind == 4) = false) :
    Calls Tryd.prog 20 #[.pointer (some ⟨q, 0, none⟩), .agg #[.int .i64 on, .int .i64 kind, .int .i64 oa, .int .i64 ob, .string ⟨os.toArray⟩]] w fun e w' => e = .returned (.bool true) ∧ DG B w0 w q (foot q b rb r p uv) r w' := by
  obtain ⟨to, hto⟩ : ∃ t : ByteArray, t = ⟨os.toArray⟩ := ⟨_, rfl⟩
  rw [← hto]
  have HTO := Lib.hid hto
  have HB := Lib.hid (And.intro hB hB0)
  have HLI := Lib.hid hL
  have HAB := Lib.hid (And.intro ha (And.intro hb hs))
  have hb1 : Below w.heap.size w (w.alloc (.cells #[.int .i64 on, .int .i64 kind, .int .i64 oa, .int .i64 ob, .string to] 46)) := by go_grown
  have G1 : Hid (PG B w0 w q b rb r p.b (foot q b rb r p uv) w.heap.size #[.int .i64 on, .int .i64 kind, .int .i64 oa, .int .i64 ob, .string to] S S l l (w.alloc (.cells #[.int .i64 on, .int .i64 kind, .int .i64 oa, .int .i64 ob, .string to] 46))) := Lib.hid ⟨⟨p, uv, kp, h.below hB hb1, rfl, Only.of hb1, fun x hx => .inl hx⟩, Bk.new rfl⟩
  obtain ⟨F, hF⟩ : ∃ F, F = foot q b rb r p uv := ⟨_, rfl⟩
  rw [← hF] at G1 ⊢
  obtain ⟨pb, hpb⟩ : ∃ x, x = p.b := ⟨_, rfl⟩
  rw [← hpb] at G1
  clear h hB hB0 hL ha hb hs hto hb1 hF hpb
  have DGH := Lib.hid (G1.out.dg HLI.out)
  clear G1 HLI HB HTO HAB
  go_enter Tryd.func20, Tryd.ntmps20
  go_wp2_with fail
  go_ret
  exact ⟨rfl, DGH.out⟩
theorem does_any {B : Nat} {w0 w : World} {q b rb r : Nat} {p : Fp} {uv : Value} {kp : Int} {S : St} {l : Wlg} (h : PR B w0 w q b rb r p uv kp S S l l) (hB : B ≤ w0.heap.size) (hB0 : 0 < B) (hL : LI S l) (o : Op) (ho : OpOk o) :
    Calls Tryd.prog 20 #[.pointer (some ⟨q, 0, none⟩), .agg #[.int .i64 o.on, .int .i64 o.kind, .int .i64 o.a, .int .i64 o.b, .string o.s]] w fun e w' => e = .returned (.bool true) ∧ DG B w0 w q (foot q b rb r p uv) r w' := by
  obtain ⟨on, kind, oa, ob, so⟩ := o
  obtain ⟨_, _, _, _, _, ha, _, hb, hs⟩ := ho
  obtain ⟨os, rfl⟩ : ∃ os : Bs, so = ⟨os.toArray⟩ := ⟨so.data.toList, by simp⟩
  have hs' : os.length ≤ 140737488355328 := by simp only [size_ba] at hs; omega
  by_cases h0 : kind = 0
  · subst h0; exact does0 h hB hB0 hL on oa ob os ha hb hs'
  by_cases h1 : kind = 1
  · subst h1; exact does1 h hB hB0 hL on oa ob os ha hb hs'
  by_cases h2 : kind = 2
  · subst h2; exact does2 h hB hB0 hL on oa ob os ha hb hs'
  by_cases h3 : kind = 3
  · subst h3; exact does3 h hB hB0 hL on oa ob os ha hb hs'
  by_cases h4 : kind = 4
  · subst h4; exact does4 h hB hB0 hL on oa ob os ha hb hs'
  exact doesx h hB hB0 hL on kind oa ob os ha hb hs' (by simpa using h0) (by simpa using h1) (by simpa using h2) (by simpa using h3) (by simpa using h4)
end Go.Proofs.YtmoihgniglomiaaDoor
