/- The document's Copy of a log; its Checkpoint. Condition: where the disk is gone the log is dead. A pair: a log and the document's, each over its disk; what a call on one of them leaves. No condition but their own. -/
import Derived.Test.YtmoihgniglomiaaDoorZd21
import Derived.Test.YtmoihgniglomiaaDoorZd22
import Derived.Test.YtmoihgniglomiaaDoorZd19
import Derived.Test.YtmoihgniglomiaaDoorZd20
set_option linter.unusedVariables false
set_option linter.unusedSimpArgs false
set_option maxRecDepth 100000
namespace Go.Proofs.YtmoihgniglomiaaDoor
open Go.RowKit Go.Sort
set_option maxHeartbeats 8000000 in
theorem rcopy_any {w : World} {rb r r2 : Nat} {l : Wlg} (h : Bk 102 w rb (rlc r l)) : Calls Tryd.prog 19 #[.pointer (some ⟨rb, 0, none⟩), .pointer (some ⟨r2, 0, none⟩)] w fun e w' => e = .returned (.pointer (some ⟨w.heap.size, 0, none⟩)) ∧ Bk 102 w' w.heap.size (rlc r2 l) ∧ Below w.heap.size w w' ∧ w.heap.size < w'.heap.size := by
  have H := Lib.hid h
  have c0 : w.cell? ⟨rb, 0, none⟩ = some (.pointer (some ⟨r, 0, none⟩)) := h.cell 0
  have c1 : w.cell? ⟨rb, 1, none⟩ = some (.int .i64 (l.file : Int)) := h.cell 1
  have c2 : w.cell? ⟨rb, 2, none⟩ = some (.int .u64 (l.gen : Int)) := h.cell 2
  have c3 : w.cell? ⟨rb, 3, none⟩ = some (.int .i64 (l.n : Int)) := h.cell 3
  have c4 : w.cell? ⟨rb, 4, none⟩ = some (.bool l.dead) := h.cell 4
  clear h
  go_enter Tryd.func19, Tryd.ntmps19
  go_wp2_with fail
  go_ret
  exact ⟨rfl, Bk.new rfl, by go_grown, by rw [World.size_alloc]; omega⟩
set_option maxHeartbeats 16000000 in
theorem rchk_any {w : World} {rb r : Nat} {S : St} {l : Wlg} {uv : Value} {kp : Int} (h : RL w rb r S l uv kp) (hg : S.gone = true → l.dead = true) (hf : l.file < 2) (hgn : l.gen ≤ 4611686018427387904) (s : Bs) (hs : s.length ≤ 140737488355328) :
    Calls Tryd.prog 54 #[.pointer (some ⟨rb, 0, none⟩), .string ⟨s.toArray⟩] w fun e w' => RCall w rb r uv (lchk S l s) e w' := by
  have H := Lib.hid h
  have c4 : w.cell? ⟨rb, 4, none⟩ = some (.bool l.dead) := h.bk.cell 4
  have c2 : w.cell? ⟨rb, 2, none⟩ = some (.int .u64 (l.gen : Int)) := h.bk.cell 2
  obtain ⟨ts, hts⟩ : ∃ t : ByteArray, t = ⟨s.toArray⟩ := ⟨_, rfl⟩
  have hsz : ts.size = s.length := by rw [hts, size_ba]
  rw [← hts]
  by_cases hd : l.dead = true
  · rw [hd] at c4
    have e : lchk S l s = (2, S, l.sink) := by unfold lchk; rw [if_pos (.inl hd)]
    have el : l.sink = l := by unfold Wlg.sink; rw [← hd]
    rw [e, el]
    clear h e el hd hg hts hsz
    go_enter Tryd.func54, Tryd.ntmps54
    go_wp2_with fail
    go_ret
    exact ⟨rfl, .refl H.out⟩
  · have hd' : l.dead = false := by simpa using hd
    have hg' : S.gone = false := by
      cases hx : S.gone
      · rfl
      · exact absurd (hg hx) hd
    rw [hd'] at c4
    unfold lchk
    rw [if_neg (by simp [hd', hg'])]
    have HDD := Lib.hid hd'
    by_cases h1 : s.length > 524288
    · rw [if_pos h1]
      have hd1 : decide ((524288 : Int) < (ts.size : Int)) = true := decide_eq_true (by omega)
      clear h hd hd' hg hg' hts hsz h1
      go_enter Tryd.func54, Tryd.ntmps54
      go_wp2_with fail
      go_ret
      exact ⟨rfl, .refl H.out⟩
    · rw [if_neg h1]
      have hd1 : decide ((524288 : Int) < (ts.size : Int)) = false := decide_eq_false (by omega)
      by_cases h2 : l.gen = 4611686018427387904
      · rw [if_pos h2]
        have hd2 : ((l.gen : Int) == 4611686018427387904) = true := by simp; omega
        clear h hd hd' hg hg' hts hsz h1 h2
        go_enter Tryd.func54, Tryd.ntmps54
        go_wp2_with fail
        go_ret
        exact ⟨rfl, .refl H.out⟩
      · rw [if_neg h2]
        have hd2 : ((l.gen : Int) == 4611686018427387904) = false := by simp; omega
        have hof : 1 - (l.file : Int) = ((1 - l.file : Nat) : Int) := by omega
        have fa : IntKind.i64.wrap (1 - (l.file : Int)) = 1 - (l.file : Int) := IntWalk.i64_in _ (by omega)
        have fb : IntKind.u64.wrap ((l.gen : Int) + 1) = (l.gen : Int) + 1 := IntWalk.u64_in _ (by omega)
        have fc : (⟨#[83, 78, 76, 49]⟩ : ByteArray) ++ ⟨(be 8 (l.gen + 1)).toArray⟩ = ⟨(mark ++ be 8 (l.gen + 1)).toArray⟩ := ba_app mark _
        have fd : (⟨(mark ++ be 8 (l.gen + 1)).toArray⟩ : ByteArray) ++ ⟨(frame s).toArray⟩ = ⟨(fileOf (l.gen + 1) s).toArray⟩ := ba_app _ _
        have LA : Hid (∀ (S1 : St) (w1 : World), RLM w rb r uv w1 S1 l → w1.cell? ⟨rb, 0, none⟩ = some (.pointer (some ⟨r, 0, none⟩))) := Lib.hid fun _ _ h1 => by
          obtain ⟨_, _, k1, _⟩ := h1; exact k1.bk.cell 0
        have LB : Hid (∀ (S1 : St) (w1 : World), RLM w rb r uv w1 S1 l → w1.cell? ⟨rb, 1, none⟩ = some (.int .i64 (l.file : Int))) := Lib.hid fun _ _ h1 => by
          obtain ⟨_, _, k1, _⟩ := h1; exact k1.bk.cell 1
        have LC : Hid (∀ (S1 : St) (w1 : World), RLM w rb r uv w1 S1 l → w1.cell? ⟨rb, 2, none⟩ = some (.int .u64 (l.gen : Int))) := Lib.hid fun _ _ h1 => by
          obtain ⟨_, _, k1, _⟩ := h1; exact k1.bk.cell 2
        have C14 : Hid (∀ w1 : World, RLM w rb r uv w1 S l → Calls Tryd.prog 47 #[.int .u64 ((l.gen : Int) + 1), .int .i64 8] w1 fun e w2 => e = .returned (.string ⟨(be 8 (l.gen + 1)).toArray⟩) ∧ RLM w rb r uv w2 S l) := Lib.hid fun w1 k1 => by
          have := bytes_any (l.gen + 1) 8 (by omega) (by omega) w1
          rw [show ((l.gen + 1 : Nat) : Int) = (l.gen : Int) + 1 from rfl, show ((8 : Nat) : Int) = 8 from rfl] at this
          refine this.mono ?_
          rintro e w2 ⟨rfl, hb⟩
          exact ⟨rfl, k1.below hb⟩
        have C17 : Hid (∀ w1 : World, RLM w rb r uv w1 S l → Calls Tryd.prog 48 #[.string ts] w1 fun e w2 => e = .returned (.string ⟨(frame s).toArray⟩) ∧ RLM w rb r uv w2 S l) := Lib.hid fun w1 k1 => by
          rw [hts]
          refine (rframe_any s (by omega) w1).mono ?_
          rintro e w2 ⟨rfl, hb⟩
          exact ⟨rfl, k1.below hb⟩
        have C19 : Hid (∀ w1 : World, RLM w rb r uv w1 S l → Calls Tryd.prog 46 #[.pointer (some ⟨r, 0, none⟩), .int .i64 (1 - (l.file : Int)), .string ⟨(fileOf (l.gen + 1) s).toArray⟩] w1 fun e w2 => e = .returned (.int .i64 ((S.append ((1 - l.file : Nat) : Int) (fileOf (l.gen + 1) s)).1 : Int)) ∧ RLM w rb r uv w2 (S.append ((1 - l.file : Nat) : Int) (fileOf (l.gen + 1) s)).2 l) := Lib.hid fun w1 k1 => by
          obtain ⟨uv1, kp1, k1, o1, n1⟩ := k1
          rw [hof]
          have := append33 r S uv1 kp1 ((1 - l.file : Nat) : Int) ⟨(fileOf (l.gen + 1) s).toArray⟩ (by rw [size_ba, fileOf_len]; omega) w1 k1.k
          simp only [List.toList_toArray] at this
          refine this.mono ?_
          rintro e w2 ⟨rfl, hm⟩
          exact ⟨rfl, RLM.then k1 o1 n1 hm⟩
        unfold lays
        generalize S.append ((1 - l.file : Nat) : Int) (fileOf (l.gen + 1) s) = ap at *
        obtain ⟨cd1, S1⟩ := ap
        try dsimp only
        have C26 : Hid (∀ w1 : World, RLM w rb r uv w1 S1 l → Calls Tryd.prog 49 #[.pointer (some ⟨r, 0, none⟩)] w1 fun e w2 => e = .returned (.int .i64 ((S1.sync).1 : Int)) ∧ RLM w rb r uv w2 (S1.sync).2 l) := Lib.hid fun w1 k1 => by
          obtain ⟨uv1, kp1, k1, o1, n1⟩ := k1
          refine (sync34 r S1 uv1 kp1 w1 k1.k).mono ?_
          rintro e w2 ⟨rfl, hm⟩
          exact ⟨rfl, RLM.then k1 o1 n1 hm⟩
        generalize hsy : S1.sync = sy at *
        obtain ⟨cd2, S2⟩ := sy
        try dsimp only
        have C38 : Hid (∀ w1 : World, RLM w rb r uv w1 S2 l → Calls Tryd.prog 87 #[.pointer (some ⟨r, 0, none⟩), .int .i64 (l.file : Int), .int .i64 0] w1 fun e w2 => e = .returned (.int .i64 ((S2.cut (l.file : Int) 0).1 : Int)) ∧ RLM w rb r uv w2 (S2.cut (l.file : Int) 0).2 l) := Lib.hid fun w1 k1 => by
          obtain ⟨uv1, kp1, k1, o1, n1⟩ := k1
          refine (cut35 r S2 uv1 kp1 (l.file : Int) 0 (by omega) (by omega) w1 k1.k).mono ?_
          rintro e w2 ⟨rfl, hm⟩
          exact ⟨rfl, RLM.then k1 o1 n1 hm⟩
        have g1 : ¬ 9223372036854775807 < 4 + (⟨(be 8 (l.gen + 1)).toArray⟩ : ByteArray).size := by rw [size_ba, be_len]; decide
        have g2 : ¬ 9223372036854775807 < (⟨(mark ++ be 8 (l.gen + 1)).toArray⟩ : ByteArray).size + (⟨(frame s).toArray⟩ : ByteArray).size := by rw [size_ba, size_ba, frame_len, List.length_append, be_len]; simp only [mark, List.length_cons, List.length_nil]; omega
        have HF := Lib.hid (And.intro hof (And.intro fa (And.intro fb (And.intro fc fd))))
        have HG2 := Lib.hid (And.intro g1 g2)
        have HGN := Lib.hid hgn
        generalize (⟨(fileOf (l.gen + 1) s).toArray⟩ : ByteArray) = fo at *
        generalize (⟨(mark ++ be 8 (l.gen + 1)).toArray⟩ : ByteArray) = x1 at *
        generalize (⟨(frame s).toArray⟩ : ByteArray) = x2 at *
        generalize (⟨(be 8 (l.gen + 1)).toArray⟩ : ByteArray) = x3 at *
        clear h hd hd' hg hg' hts hsz h1 h2 hs hsy fa fb fc fd g1 g2 hgn
        by_cases hc1 : cd1 = 0
        · rw [if_pos hc1]
          try dsimp only
          have F1 : Hid (((cd1 : Int) != 0) = false) := Lib.hid (by simp [hc1])
          by_cases hc2 : cd2 = 0
          · rw [if_pos hc2]
            have F2 : Hid (((cd2 : Int) != 0) = false) := Lib.hid (by simp [hc2])
            generalize S2.cut (l.file : Int) 0 = cu at *
            obtain ⟨cd3, S3⟩ := cu
            try dsimp only
            by_cases hc3 : cd3 = 0
            · rw [if_pos hc3]
              have F3 : Hid (((cd3 : Int) != 0) = false) := Lib.hid (by simp [hc3])
              clear hc1 hc2 hc3
              go_enter Tryd.func54, Tryd.ntmps54
              go_wp2_with fail
              refine rC3 (fun _ _ b b2 b3 w1 => RLM w rb r uv w1 (if b3 then S3 else if b2 then S2 else if b then S1 else S) l) rb r (l.file : Int) (l.gen : Int) (cd1 : Int) (cd2 : Int) (cd3 : Int) ts x1 x2 x3 fo false w HF.out.2.1 HF.out.2.2.1 HF.out.2.2.2.1 HF.out.2.2.2.2 HG2.out.1 HG2.out.2 F1.out F2.out F3.out (fun _ _ _ _ _ => LA.out _) (fun _ _ _ _ _ => LB.out _) (fun _ _ _ _ _ => LC.out _) C14.out C17.out C19.out C26.out C38.out (RLM.refl H.out).drew ?_
              intro w1 hm
              have M : Hid (RLM w rb r uv w1 S3 l) := Lib.hid hm
              have k1 : w1.cell? ⟨rb, 1, none⟩ = some (.int .i64 (l.file : Int)) := LB.out _ _ M.out
              have k2 : w1.cell? ⟨rb, 2, none⟩ = some (.int .u64 (l.gen : Int)) := LC.out _ _ M.out
              obtain ⟨u3, k3⟩ : ∃ u, w1.cell? ⟨rb, 3, none⟩ = some u := by obtain ⟨_, _, q, _⟩ := M.out; exact ⟨_, q.bk.cell 3⟩
              have f1 : w1.frozen? ⟨rb, 1, none⟩ = false := by obtain ⟨_, _, q, _⟩ := M.out; exact q.bk.fro 1
              have f2 : w1.frozen? ⟨rb, 2, none⟩ = false := by obtain ⟨_, _, q, _⟩ := M.out; exact q.bk.fro 2
              have f3 : w1.frozen? ⟨rb, 3, none⟩ = false := by obtain ⟨_, _, q, _⟩ := M.out; exact q.bk.fro 3
              have wa := HF.out.2.1
              have wb := HF.out.2.2.1
              clear hm C14 C17 C19 C26 C38 LA LB LC F1 F2 F3
              go_wp2_with fail
              go_ret
              refine ⟨rfl, ?_⟩
              have m1 : RLM w rb r uv _ S3 ⟨1 - l.file, l.gen, l.n, l.dead⟩ := M.out.put (i := 1) (v := .int .i64 ((1 - l.file : Nat) : Int)) rfl
              have m2 : RLM w rb r uv _ S3 ⟨1 - l.file, l.gen + 1, l.n, l.dead⟩ := m1.put (i := 2) (v := .int .u64 ((l.gen : Int) + 1)) rfl
              have m3 : RLM w rb r uv _ S3 ⟨1 - l.file, l.gen + 1, 0, l.dead⟩ := m2.put (i := 3) (v := .int .i64 0) rfl
              rw [HDD.out] at m3
              exact m3
            · rw [if_neg hc3]
              have F3 : Hid (((cd3 : Int) != 0) = true) := Lib.hid (by simp; omega)
              clear hc1 hc2 hc3
              go_enter Tryd.func54, Tryd.ntmps54
              go_wp2_with fail
              refine rC3 (fun _ _ b b2 b3 w1 => RLM w rb r uv w1 (if b3 then S3 else if b2 then S2 else if b then S1 else S) l) rb r (l.file : Int) (l.gen : Int) (cd1 : Int) (cd2 : Int) (cd3 : Int) ts x1 x2 x3 fo true w HF.out.2.1 HF.out.2.2.1 HF.out.2.2.2.1 HF.out.2.2.2.2 HG2.out.1 HG2.out.2 F1.out F2.out F3.out (fun _ _ _ _ _ => LA.out _) (fun _ _ _ _ _ => LB.out _) (fun _ _ _ _ _ => LC.out _) C14.out C17.out C19.out C26.out C38.out (RLM.refl H.out).drew ?_
              intro w1 hm
              have M : Hid (RLM w rb r uv w1 S3 l) := Lib.hid hm
              clear hm C14 C17 C19 C26 C38 LA LB LC HF HGN HDD
              go_wp2_with fail
              refine (over_any M.out).mono ?_
              rintro e w3 ⟨rfl, h3⟩
              have M3 := Lib.hid h3
              clear h3 M
              go_wp2_with fail
              go_ret
              exact ⟨rfl, M3.out⟩
          · rw [if_neg hc2]
            have F2 : Hid (((cd2 : Int) != 0) = true) := Lib.hid (by simp; omega)
            clear hc1 hc2
            go_enter Tryd.func54, Tryd.ntmps54
            go_wp2_with fail
            refine rC2 (fun _ _ b b2 w1 => RLM w rb r uv w1 (if b2 then S2 else if b then S1 else S) l) rb r (l.file : Int) (l.gen : Int) (cd1 : Int) (cd2 : Int) 0 ts x1 x2 x3 fo false w HF.out.2.1 HF.out.2.2.1 HF.out.2.2.2.1 HF.out.2.2.2.2 HG2.out.1 HG2.out.2 F1.out F2.out (fun _ _ _ _ => LA.out _) (fun _ _ _ _ => LB.out _) (fun _ _ _ _ => LC.out _) C14.out C17.out C19.out C26.out (RLM.refl H.out).drew ?_
            intro w1 hm
            have M : Hid (RLM w rb r uv w1 S2 l) := Lib.hid hm
            clear hm C14 C17 C19 C26 C38 LA LB LC HF HGN HDD
            go_wp2_with fail
            refine (over_any M.out).mono ?_
            rintro e w3 ⟨rfl, h3⟩
            have M3 := Lib.hid h3
            clear h3 M
            go_wp2_with fail
            go_ret
            exact ⟨rfl, M3.out⟩
        · rw [if_neg hc1]
          try dsimp only
          rw [if_neg hc1]
          have F1 : Hid (((cd1 : Int) != 0) = true) := Lib.hid (by simp; omega)
          clear hc1
          go_enter Tryd.func54, Tryd.ntmps54
          go_wp2_with fail
          refine rC1 (fun _ _ b w1 => RLM w rb r uv w1 (if b then S1 else S) l) rb r (l.file : Int) (l.gen : Int) (cd1 : Int) 0 0 ts x1 x2 x3 fo false w HF.out.2.1 HF.out.2.2.1 HF.out.2.2.2.1 HF.out.2.2.2.2 HG2.out.1 HG2.out.2 F1.out (fun _ _ _ => LA.out _) (fun _ _ _ => LB.out _) (fun _ _ _ => LC.out _) C14.out C17.out C19.out (RLM.refl H.out).drew ?_
          intro w1 hm
          have M : Hid (RLM w rb r uv w1 S1 l) := Lib.hid hm
          clear hm C14 C17 C19 C26 C38 LA LB LC HF HGN HDD
          go_wp2_with fail
          refine (over_any M.out).mono ?_
          rintro e w3 ⟨rfl, h3⟩
          have M3 := Lib.hid h3
          clear h3 M
          go_wp2_with fail
          go_ret
          exact ⟨rfl, M3.out⟩
def foot (q b rb r : Nat) (p : Fp) (uv : Value) : List Nat := q :: b :: rb :: r :: p.own
theorem foot_mem {q b rb r : Nat} {p : Fp} {uv : Value} {x : Nat} : x ∈ foot q b rb r p uv ↔ x = q ∨ x = b ∨ x = rb ∨ x = r ∨ x ∈ p.own := by
  simp [foot]
structure PR (B : Nat) (w0 w : World) (q b rb r : Nat) (p : Fp) (uv : Value) (kp : Int) (S T : St) (l k : Wlg) : Prop where
  po : PO B w0 w p r S T uv kp
  lk : Lk w b p S l
  bk : Bk 102 w rb (rlc r k)
  qk : Bk 43 w q #[.pointer (some ⟨b, 0, none⟩), .pointer (some ⟨p.b, 0, none⟩), .pointer (some ⟨rb, 0, none⟩), .pointer (some ⟨r, 0, none⟩)]
  bq : B ≤ q
  bb : B ≤ b
  br : B ≤ rb
theorem blk_ne {w : World} {g g' : Nat} {cs cs' : Array Value} {t t' : TypeId} {z z' : Nat × Nat} (h : w.heap[g]? = some (.cells cs t z)) (h' : w.heap[g']? = some (.cells cs' t' z')) (ht : t ≠ t') : g ≠ g' := fun e => by
  subst e
  have e := h.symm.trans h'
  simp only [Option.some.injEq, Obj.cells.injEq] at e
  exact ht e.2.1
theorem Rk.uty {w : World} {r : Nat} {S : St} {uv : Value} {kp : Int} (h : Rk w r S uv kp) : ∀ g, uv.ownBlock = some g → ∃ cs z, w.heap[g]? = some (.cells cs 127 z) := fun g e => by
  obtain ⟨_, ⟨rfl, _⟩ | ⟨g', cap, cur, rfl, _, hg, _⟩⟩ := h.row
  · cases e
  · simp only [Value.ownBlock, Option.some.injEq] at e
    subst e
    exact ⟨_, _, hg⟩
section
variable {B : Nat} {w0 w w' : World} {q b rb r : Nat} {p p' : Fp} {uv : Value} {kp : Int} {S T S' T' : St} {l k l' k' : Wlg}
theorem PR.typ (h : PR B w0 w q b rb r p uv kp S T l k) : ∀ g ∈ foot q b rb r p uv, ∃ cs t z, w.heap[g]? = some (.cells cs t z) ∧ (t = 43 ∨ t = 96 ∨ t = 102 ∨ t = 61 ∨ t = 93 ∨ t = 5 ∨ t = 105) := by
  intro g hg
  rcases foot_mem.1 hg with rfl | rfl | rfl | rfl | hg
  · exact ⟨_, _, _, h.qk, by simp⟩
  · exact ⟨_, _, _, h.lk.blk, by simp⟩
  · exact ⟨_, _, _, h.bk, by simp⟩
  · exact ⟨_, _, _, h.po.k.blk, by simp⟩
  · obtain ⟨cs, t, z, h1, h2⟩ := h.po.d.dk.typ g hg
    exact ⟨cs, t, z, h1, by rcases h2 with rfl | rfl | rfl <;> simp⟩
theorem PR.lt (h : PR B w0 w q b rb r p uv kp S T l k) : ∀ g ∈ foot q b rb r p uv, g < w.heap.size := fun g hg => by
  obtain ⟨_, _, _, h1, _⟩ := h.typ g hg
  exact blk_lt h1
theorem PR.far (h : PR B w0 w q b rb r p uv kp S T l k) {g : Nat} {cs : Array Value} {t : TypeId} {z : Nat × Nat} (hg : w.heap[g]? = some (.cells cs t z)) (ht : t = 46 ∨ t = 41) : g ∉ foot q b rb r p uv := fun hx => by
  obtain ⟨cs', t', z', h1, h2⟩ := h.typ g hx
  refine blk_ne hg h1 (fun e => ?_) rfl
  subst e
  rcases ht with rfl | rfl <;> simp at h2
theorem PR.below (h : PR B w0 w q b rb r p uv kp S T l k) (hB : B ≤ w0.heap.size) (hb : Below w.heap.size w w') : PR B w0 w' q b rb r p uv kp S T l k :=
  ⟨h.po.down hB hb, h.lk.below hb, h.bk.below hb, h.qk.below hb, h.bq, h.bb, h.br⟩
theorem PR.kept (h : PR B w0 w q b rb r p uv kp S T l k) (hB : B ≤ w0.heap.size) {L : List Nat} (ho : Only L w w') (hL : ∀ g ∈ L, g ∉ foot q b rb r p uv ∧ B ≤ g) (hz : 0 ∉ L) (hu : ∀ g ∈ L, uv.ownBlock ≠ some g) : PR B w0 w' q b rb r p uv kp S T l k := by
  have hn : ∀ g ∈ foot q b rb r p uv, g ∉ L := fun g hg hx => (hL g hx).1 hg
  have hk : ∀ g ∈ foot q b rb r p uv, w'.heap[g]? = w.heap[g]? := fun g hg => ho.block g (h.lt g hg) (hn g hg)
  exact ⟨⟨⟨h.po.d.dk.only ho (fun x hx => hn x (foot_mem.2 (by simp [hx]))), h.po.d.bw.trans (ho.below (Nat.le_trans hB h.po.d.bw.size) (fun x hx => (hL x hx).2)), h.po.d.op, h.po.d.tb.only ho hz⟩, h.po.k.kept (hk r (foot_mem.2 (by simp))) (fun g e => ho.block g (h.po.k.ult g e) (fun hx => hu g hx e)), h.po.rb, h.po.ub, h.po.nr, h.po.nu⟩,
    h.lk.only ho (hn b (foot_mem.2 (by simp))) (fun x hx => hn x (foot_mem.2 (by simp [hx]))), h.bk.only ho (hn rb (foot_mem.2 (by simp))), h.qk.only ho (hn q (foot_mem.2 (by simp))), h.bq, h.bb, h.br⟩
theorem PR.real (h : PR B w0 w q b rb r p uv kp S T l k) (hB : B ≤ w0.heap.size) (hB0 : 0 < B) (m : LM w b p w' p' S' l') : PR B w0 w' q b rb r p' uv kp S' T l' k ∧ Only (b :: p.own) w w' ∧ ∀ x ∈ foot q b rb r p' uv, x ∈ foot q b rb r p uv ∨ w.heap.size ≤ x := by
  have hne : ∀ {g : Nat} {cs : Array Value} {t : TypeId} {z : Nat × Nat}, w.heap[g]? = some (.cells cs t z) → t ≠ 96 → t ≠ 93 → t ≠ 5 → t ≠ 105 → g ∉ b :: p.own := fun {g cs t z} hg h1 h2 h3 h4 hx => by
    rcases List.mem_cons.1 hx with rfl | hx
    · exact blk_ne hg h.lk.blk h1 rfl
    · obtain ⟨cs', t', z', e1, e2⟩ := h.po.d.dk.typ g hx
      refine blk_ne hg e1 (fun e => ?_) rfl
      subst e
      rcases e2 with e | e | e
      · exact h2 e
      · exact h3 e
      · exact h4 e
  have hkeep : ∀ {g : Nat} {cs : Array Value} {t : TypeId} {z : Nat × Nat}, w.heap[g]? = some (.cells cs t z) → t ≠ 96 → t ≠ 93 → t ≠ 5 → t ≠ 105 → w'.heap[g]? = w.heap[g]? := fun hg h1 h2 h3 h4 => m.2.2.1.block _ (blk_lt hg) (hne hg h1 h2 h3 h4)
  have hr : w'.heap[r]? = w.heap[r]? := hkeep h.po.k.blk (by decide) (by decide) (by decide) (by decide)
  have hu : ∀ g, uv.ownBlock = some g → w'.heap[g]? = w.heap[g]? := fun g e => by
    obtain ⟨cs, z, h1⟩ := h.po.k.uty g e
    exact hkeep h1 (by decide) (by decide) (by decide) (by decide)
  have hsz : B ≤ w.heap.size := Nat.le_trans hB h.po.d.bw.size
  have hown : ∀ x ∈ p'.own, B ≤ x := fun x hx => (m.2.2.2 x hx).elim (h.po.d.op x) (fun h1 => Nat.le_trans hsz h1)
  have hlt := h.po.d.dk.lt
  have hrl : r < w.heap.size := h.po.k.blk.lt
  refine ⟨⟨⟨⟨m.1.dk, h.po.d.bw.trans (m.2.2.1.below hsz (fun x hx => ?_)), hown, m.tb h.po.d.tb h.lk.zb h.lk.zo⟩, h.po.k.kept hr hu, h.po.rb, h.po.ub, fun hx => ?_, fun g e hx => ?_⟩, m.1, (hkeep h.bk (by decide) (by decide) (by decide) (by decide)).trans h.bk, ?_, h.bq, h.bb, h.br⟩, m.2.2.1, fun x hx => ?_⟩
  · rcases List.mem_cons.1 hx with rfl | hx
    · exact h.bb
    · exact h.po.d.op x hx
  · exact (m.2.2.2 r hx).elim h.po.nr (by omega)
  · exact (m.2.2.2 g hx).elim (h.po.nu g e) (by have := h.po.k.ult g e; omega)
  · rw [m.2.1]
    exact (hkeep h.qk (by decide) (by decide) (by decide) (by decide)).trans h.qk
  · rcases foot_mem.1 hx with rfl | rfl | rfl | rfl | hx
    · exact .inl (foot_mem.2 (by simp))
    · exact .inl (foot_mem.2 (by simp))
    · exact .inl (foot_mem.2 (by simp))
    · exact .inl (foot_mem.2 (by simp))
    · exact (m.2.2.2 x hx).imp (fun h => foot_mem.2 (by simp [h])) id
theorem PR.refl_ (h : PR B w0 w q b rb r p uv kp S T l k) (hB : B ≤ w0.heap.size) (hB0 : 0 < B) (m : RLM w rb r uv w' T' k') : ∃ uv' kp', PR B w0 w' q b rb r p uv' kp' S T' l k' ∧ Only [rb, r] w w' ∧ ∀ x ∈ foot q b rb r p uv', x ∈ foot q b rb r p uv ∨ w.heap.size ≤ x := by
  obtain ⟨uv', kp', h1, h2, h3⟩ := m
  have hsz : B ≤ w.heap.size := Nat.le_trans hB h.po.d.bw.size
  have hne : ∀ {g : Nat} {cs : Array Value} {t : TypeId} {z : Nat × Nat}, w.heap[g]? = some (.cells cs t z) → t ≠ 102 → t ≠ 61 → g ∉ [rb, r] := fun {g cs t z} hg e1 e2 hx => by
    simp only [List.mem_cons, List.not_mem_nil, or_false] at hx
    rcases hx with rfl | rfl
    · exact blk_ne hg h.bk e1 rfl
    · exact blk_ne hg h.po.k.blk e2 rfl
  have hb : b ∉ [rb, r] := hne h.lk.blk (by decide) (by decide)
  have hp : ∀ g ∈ p.own, g ∉ [rb, r] := fun g hg => by
    obtain ⟨cs, t, z, e1, e2⟩ := h.po.d.dk.typ g hg
    exact hne e1 (by rcases e2 with rfl | rfl | rfl <;> decide) (by rcases e2 with rfl | rfl | rfl <;> decide)
  refine ⟨uv', kp', ⟨⟨⟨h.po.d.dk.only h2 hp, h.po.d.bw.trans (h2.below hsz (fun x hx => ?_)), h.po.d.op, h.po.d.tb.only h2 ?_⟩, h1.k, h.po.rb, fun g e => (h3 g e).elim (h.po.ub g) (fun h => Nat.le_trans hsz h), h.po.nr, fun g e hx => (h3 g e).elim (fun e => h.po.nu g e hx) (by have := h.po.d.dk.lt g hx; omega)⟩, h.lk.only h2 hb hp, h1.bk, h.qk.only h2 (hne h.qk (by decide) (by decide)), h.bq, h.bb, h.br⟩, h2, fun x hx => ?_⟩
  · simp only [List.mem_cons, List.not_mem_nil, or_false] at hx
    rcases hx with rfl | rfl
    · exact h.br
    · exact h.po.rb
  · have := h.br
    have := h.po.rb
    simp
    omega
  · rcases foot_mem.1 hx with rfl | rfl | rfl | rfl | hx
    · exact .inl (foot_mem.2 (by simp))
    · exact .inl (foot_mem.2 (by simp))
    · exact .inl (foot_mem.2 (by simp))
    · exact .inl (foot_mem.2 (by simp))
    · exact .inl (foot_mem.2 (by simp [hx]))
theorem PR.rl (h : PR B w0 w q b rb r p uv kp S T l k) : RL w rb r T k uv kp := ⟨h.bk, h.po.k, blk_ne h.bk h.po.k.blk (by decide)⟩
end
def PG (B : Nat) (w0 W : World) (q b rb r pb : Nat) (F : List Nat) (qo : Nat) (cs : Array Value) (S T : St) (l k : Wlg) (w : World) : Prop :=
  (∃ p uv kp, PR B w0 w q b rb r p uv kp S T l k ∧ p.b = pb ∧ Only F W w ∧ ∀ x ∈ foot q b rb r p uv, x ∈ F ∨ W.heap.size ≤ x) ∧ Bk 46 w qo cs
section
variable {B : Nat} {w0 W w w' : World} {q b rb r pb : Nat} {F : List Nat} {qo : Nat} {cs : Array Value} {S T S' T' : St} {l k l' k' : Wlg}
theorem PG.below (h : PG B w0 W q b rb r pb F qo cs S T l k w) (hB : B ≤ w0.heap.size) (hb : Below w.heap.size w w') : PG B w0 W q b rb r pb F qo cs S T l k w' := by
  obtain ⟨⟨p, uv, kp, h1, h2, h3, h4⟩, h5⟩ := h
  exact ⟨⟨p, uv, kp, h1.below hB hb, h2, h3.trans (Only.of (L := []) hb) (fun x hx => by simp at hx), h4⟩, h5.below hb⟩
theorem PG.real (h : PG B w0 W q b rb r pb F qo cs S T l k w) (hB : B ≤ w0.heap.size) (hB0 : 0 < B) {f : FuncId} {args : Array Value} {R : Ending → Prop}
    (hc : ∀ p, p.b = pb → Lk w b p S l → Tb w → Calls Tryd.prog f args w fun e w' => R e ∧ ∃ p', LM w b p w' p' S' l') :
    Calls Tryd.prog f args w fun e w' => R e ∧ PG B w0 W q b rb r pb F qo cs S' T l' k w' := by
  obtain ⟨⟨p, uv, kp, h1, h2, h3, h4⟩, h5⟩ := h
  refine (hc p h2 h1.lk h1.po.d.tb).mono fun e w' ⟨hR, p', m⟩ => ?_
  obtain ⟨r1, r2, r3⟩ := h1.real hB hB0 m
  refine ⟨hR, ⟨p', uv, kp, r1, m.2.1.trans h2, h3.trans r2 (fun x hx => ?_), fun x hx => ?_⟩, ?_⟩
  · rcases List.mem_cons.1 hx with rfl | hx
    · exact h4 _ (foot_mem.2 (by simp))
    · exact h4 x (foot_mem.2 (by simp [hx]))
  · rcases r3 x hx with hx | hx
    · exact h4 x hx
    · exact .inr (Nat.le_trans h3.size hx)
  · have := (m.kin h1.lk).bk h5 (.inr (.inl rfl))
    exact this
theorem PG.ref (h : PG B w0 W q b rb r pb F qo cs S T l k w) (hB : B ≤ w0.heap.size) (hB0 : 0 < B) {f : FuncId} {args : Array Value} {R : Ending → Prop}
    (hc : ∀ uv kp, RL w rb r T k uv kp → Calls Tryd.prog f args w fun e w' => R e ∧ RLM w rb r uv w' T' k') :
    Calls Tryd.prog f args w fun e w' => R e ∧ PG B w0 W q b rb r pb F qo cs S T' l k' w' := by
  obtain ⟨⟨p, uv, kp, h1, h2, h3, h4⟩, h5⟩ := h
  refine (hc uv kp h1.rl).mono fun e w' ⟨hR, m⟩ => ?_
  obtain ⟨uv', kp', r1, r2, r3⟩ := h1.refl_ hB hB0 m
  refine ⟨hR, ⟨p, uv', kp', r1, h2, h3.trans r2 (fun x hx => ?_), fun x hx => ?_⟩, h5.only r2 ?_⟩
  · simp only [List.mem_cons, List.not_mem_nil, or_false] at hx
    rcases hx with rfl | rfl
    · exact h4 _ (foot_mem.2 (by simp))
    · exact h4 _ (foot_mem.2 (by simp))
  · rcases r3 x hx with hx | hx
    · exact h4 x hx
    · exact .inr (Nat.le_trans h3.size hx)
  · intro hx
    simp only [List.mem_cons, List.not_mem_nil, or_false] at hx
    rcases hx with rfl | rfl
    · exact blk_ne h5 h1.bk (by decide) rfl
    · exact blk_ne h5 h1.po.k.blk (by decide) rfl
end
def LI (S : St) (l : Wlg) : Prop := (∃ sn rs m, LOwn S l sn rs m) ∨ (S.gone = true ∧ l.dead = true ∧ (∃ sn rs, LDown S sn rs) ∧ l.file < 2 ∧ l.gen ≤ 4611686018427387904 ∧ l.n ≤ 4611686018427387904)
theorem LI.hg {S : St} {l : Wlg} (h : LI S l) : S.gone = true → l.dead = true := fun hg => by
  rcases h with ⟨sn, rs, m, h⟩ | h
  · rw [h.gone] at hg; cases hg
  · exact h.2.1
theorem LI.hf {S : St} {l : Wlg} (h : LI S l) : l.file < 2 ∧ l.gen ≤ 4611686018427387904 ∧ l.n ≤ 4611686018427387904 := by
  rcases h with ⟨sn, rs, m, h⟩ | h
  · exact ⟨h.ff, h.g2, by have := h.many; omega⟩
  · exact h.2.2.2
theorem LI.call {S : St} {l : Wlg} {sn sn2 : Bs} {rs rs2 : List Bs} {m m2 : Nat} {x : Nat × St × Wlg} (h : LOwn S l sn rs m) (c : LCall S l sn rs m sn2 rs2 m2 x) : LI x.2.1 x.2.2 := by
  rcases c with ⟨_, e⟩ | ⟨_, h1, _⟩ | ⟨_, hg, hd, _, h1, h2⟩
  · rw [e]; exact .inl ⟨_, _, _, h⟩
  · exact .inl ⟨_, _, _, h1⟩
  · refine .inr ⟨hg, hd, ?_, h2⟩
    rcases h1 with ⟨j, _, _, h1⟩ | h1
    · exact ⟨_, _, h1⟩
    · exact ⟨_, _, h1⟩
theorem LI.dead {S : St} {l : Wlg} (hg : S.gone = true) (hd : l.dead = true) (h : (∃ sn rs, LDown S sn rs) ∧ l.file < 2 ∧ l.gen ≤ 4611686018427387904 ∧ l.n ≤ 4611686018427387904) : LI S l.sink := .inr ⟨hg, rfl, h⟩
theorem LI.lap {S : St} {l : Wlg} (h : LI S l) (s : Bs) : LI (lap S l s).2.1 (lap S l s).2.2 := by
  rcases h with ⟨sn, rs, m, h⟩ | ⟨hg, hd, h⟩
  · exact LI.call h (h.lap s)
  · unfold YtmoihgniglomiaaDoor.lap
    rw [if_pos (.inl hd)]
    exact LI.dead hg hd h
theorem LI.lsync {S : St} {l : Wlg} (h : LI S l) : LI (lsync S l).2.1 (lsync S l).2.2 := by
  rcases h with ⟨sn, rs, m, h⟩ | ⟨hg, hd, h⟩
  · exact LI.call h h.lsync
  · unfold YtmoihgniglomiaaDoor.lsync
    rw [if_pos (.inl hd)]
    exact LI.dead hg hd h
theorem LI.lchk {S : St} {l : Wlg} (h : LI S l) (s : Bs) : LI (lchk S l s).2.1 (lchk S l s).2.2 := by
  rcases h with ⟨sn, rs, m, h⟩ | ⟨hg, hd, h⟩
  · exact LI.call h (h.lchk s)
  · unfold YtmoihgniglomiaaDoor.lchk
    rw [if_pos (.inl hd)]
    exact LI.dead hg hd h
theorem LI.arm {S : St} {l : Wlg} (h : LI S l) (n k : Int) (hn : n ≤ 9223372036854775807) (hk : k ≤ 9223372036854775807) : LI (S.arm n k).2 l := by
  rcases h with ⟨sn, rs, m, h⟩ | ⟨hg, hd, h⟩
  · exact .inl ⟨_, _, _, h.arm n k hn hk⟩
  · unfold St.arm
    rw [if_pos hg]
    exact .inr ⟨hg, hd, h⟩
theorem LI.again {S : St} {l : Wlg} (h : LI S l) (k : Int) : Clean (S.crash k).2.revive ∧ (lopen (S.crash k).2.revive).1 = 0 ∧ LI (lopen (S.crash k).2.revive).2.2 (lopen (S.crash k).2.revive).2.1.1 := by
  have down : ∀ T : St, (∃ sn rs, LDown T sn rs) → Clean T.revive ∧ (lopen T.revive).1 = 0 ∧ LI (lopen T.revive).2.2 (lopen T.revive).2.1.1 := fun T ⟨sn, rs, hd⟩ => by
    have hr : LDown T.revive sn rs := hd.power _ (by omega) (by omega)
    rcases hr.lopen rfl with ⟨h1, _, h2, _⟩ | ⟨_, _, _, h2⟩
    · exact ⟨hr.still.clean, h1, .inl ⟨_, _, _, h2⟩⟩
    · exact absurd rfl h2
  rcases h with ⟨sn, rs, m, h⟩ | ⟨hg, hd, h, _⟩
  · unfold St.crash
    rw [if_neg (by simp [h.gone])]
    split
    · have h2 := h.revive
      have e := h2.lopen
      simp only
      rw [e]
      exact ⟨h2.clean, rfl, .inl ⟨_, _, _, h2⟩⟩
    · obtain ⟨j, _, _, h2⟩ := h.lose k.toNat
      exact down _ ⟨_, _, h2⟩
  · unfold St.crash
    rw [if_pos hg]
    exact down _ h
end Go.Proofs.YtmoihgniglomiaaDoor
