/- A clone of a disk. No condition but the disk's own. -/
import Derived.Test.YtekagnhablkggaaQ
set_option linter.unusedVariables false
set_option linter.unusedSimpArgs false
set_option maxRecDepth 100000
namespace Go.Proofs.Ytekagnhablkggaa
open Go.RowKit Go.Sort

set_option maxHeartbeats 8000000 in
theorem clone_any (p : Fp) (S : St) (w : World) (h : Dk w p S) :
    Calls Try.prog 11 #[p.v] w fun e w' => ∃ p' : Fp, e = .returned p'.v ∧ Dk w' p' S ∧ Below w.heap.size w w' ∧ ∀ k ∈ p'.own, w.heap.size ≤ k := by
  have H := Lib.hid h
  obtain ⟨ra, rn, rc, hrv⟩ := h.rvs
  have HRV := Lib.hid hrv
  have HRL := Lib.hid h.wf.rowlen
  have hb4 : w.cell? ⟨p.b, 4, none⟩ = some (.slice ra rn rc) := (h.blk.cell 4).trans (by simp [hrv])
  have B4 := Lib.hid hb4
  clear hb4 hrv h
  have hf0 : ∀ w, (Instr.index 59 (.agg #[.slice (some ⟨p.g0, 0, none⟩) S.f0.length p.c0, .int .i64 (S.s0 : Int), .slice (some ⟨p.g1, 0, none⟩) S.f1.length p.c1, .int .i64 (S.s1 : Int)]) (.int .i64 0)).run Try.prog w = .ok (.agg #[.slice (some ⟨p.g0, 0, none⟩) S.f0.length p.c0, .int .i64 (S.s0 : Int)]) w := fun _ => by kernel_rfl
  have hf1 : ∀ w, (Instr.index 59 (.agg #[.slice (some ⟨p.g0, 0, none⟩) S.f0.length p.c0, .int .i64 (S.s0 : Int), .slice (some ⟨p.g1, 0, none⟩) S.f1.length p.c1, .int .i64 (S.s1 : Int)]) (.int .i64 1)).run Try.prog w = .ok (.agg #[.slice (some ⟨p.g1, 0, none⟩) S.f1.length p.c1, .int .i64 (S.s1 : Int)]) w := fun _ => by kernel_rfl
  unfold Fp.v
  go_enter Try.func11, Try.ntmps11
  go_wp2_with fail
  refine rC p.b ra rn rc S.gone S.inn S.lft (fun w1 v => w1.ownsRow 0 70 2 v S.row.length (pcells S.row) ∧ Below w.heap.size w w1 ∧ ∀ k, v.ownBlock = some k → w.heap.size ≤ k) w
    B4.out (Lib.hid fun w1 v h => (h.2.1.cell H.out.blk.lt).trans B4.out) (H.out.blk.cell 5) (Lib.hid fun w1 v h => (h.2.1.cell H.out.blk.lt).trans (H.out.blk.cell 5)) (H.out.blk.cell 6) (Lib.hid fun w1 v h => (h.2.1.cell H.out.blk.lt).trans (H.out.blk.cell 6)) (H.out.blk.cell 7) (Lib.hid fun w1 v h => (h.2.1.cell H.out.blk.lt).trans (H.out.blk.cell 7))
    (Lib.hid (by
      rw [← HRV.out]
      refine (cloneRow p.rv S.row (by have := HRL.out; omega) w.drew (owns_of H.out.rr fun g _ _ => rfl)).mono ?_
      rintro e w' ⟨v, rfl, ho, hb, hk⟩
      exact ⟨v, rfl, ho, ⟨hb.os, hb.tape, hb.output, hb.size, hb.block⟩, hk⟩)) ?_
  rintro v w1 ⟨ho, hb, hk⟩
  have hsh : ∃ va vn vc, v = .slice va vn vc := by
    obtain ⟨_, ⟨hv, _⟩ | ⟨r', cap, cur, hv, _⟩⟩ := ho
    · exact ⟨_, _, _, hv⟩
    · exact ⟨_, _, _, hv⟩
  obtain ⟨va, vn, vc, rfl⟩ := hsh
  have OV := Lib.hid ho
  have HB1 := Lib.hid hb
  have NV := Lib.hid hk
  clear ho hb hk
  have i0 := ((H.out.below HB1.out).blk.alloc (o := .cells #[.slice none 0 0, .int .i64 0, .slice none 0 0, .int .i64 0, .slice va vn vc, .bool S.gone, .int .i64 (S.inn : Int), .int .i64 (S.lft : Int)] 64)).cell 0
  have i1 := ((H.out.below HB1.out).blk.alloc (o := .cells #[.slice none 0 0, .int .i64 0, .slice none 0 0, .int .i64 0, .slice va vn vc, .bool S.gone, .int .i64 (S.inn : Int), .int .i64 (S.lft : Int)] 64)).cell 1
  have i2 := ((H.out.below HB1.out).blk.alloc (o := .cells #[.slice none 0 0, .int .i64 0, .slice none 0 0, .int .i64 0, .slice va vn vc, .bool S.gone, .int .i64 (S.inn : Int), .int .i64 (S.lft : Int)] 64)).cell 2
  have i3 := ((H.out.below HB1.out).blk.alloc (o := .cells #[.slice none 0 0, .int .i64 0, .slice none 0 0, .int .i64 0, .slice va vn vc, .bool S.gone, .int .i64 (S.inn : Int), .int .i64 (S.lft : Int)] 64)).cell 3
  simp only [rCO, findR, Try.f11, Option.bind_some, Option.or, Option.getD, Nat.reduceEqDiff, if_true, if_false, reduceIte, List.drop_succ_cons, List.drop_zero]
  go_wp2_with fail
  refine wp_loop_rounds 3 ?_
  rw [rounds_succ]
  clear i0 i1 i2 i3
  go_wp2_with fail
  have KC2 : Hid (Bk 64 ((w1.alloc (.cells #[.slice none 0 0, .int .i64 0, .slice none 0 0, .int .i64 0, .slice va vn vc, .bool S.gone, .int .i64 (S.inn : Int), .int .i64 (S.lft : Int)] 64)).alloc (.cells #[.slice (some ⟨p.g0, 0, none⟩) S.f0.length p.c0, .int .i64 (S.s0 : Int)] 58)) w1.heap.size #[.slice none 0 0, .int .i64 0, .slice none 0 0, .int .i64 0, .slice va vn vc, .bool S.gone, .int .i64 (S.inn : Int), .int .i64 (S.lft : Int)]) := Lib.hid (Bk.alloc (Bk.new rfl))
  have KT0 : Hid (Bk 58 ((w1.alloc (.cells #[.slice none 0 0, .int .i64 0, .slice none 0 0, .int .i64 0, .slice va vn vc, .bool S.gone, .int .i64 (S.inn : Int), .int .i64 (S.lft : Int)] 64)).alloc (.cells #[.slice (some ⟨p.g0, 0, none⟩) S.f0.length p.c0, .int .i64 (S.s0 : Int)] 58)) (w1.heap.size + 1) #[.slice (some ⟨p.g0, 0, none⟩) S.f0.length p.c0, .int .i64 (S.s0 : Int)]) := Lib.hid (Bk.new (by simp))
  have HBw2 : Hid (Below w.heap.size w ((w1.alloc (.cells #[.slice none 0 0, .int .i64 0, .slice none 0 0, .int .i64 0, .slice va vn vc, .bool S.gone, .int .i64 (S.inn : Int), .int .i64 (S.lft : Int)] 64)).alloc (.cells #[.slice (some ⟨p.g0, 0, none⟩) S.f0.length p.c0, .int .i64 (S.s0 : Int)] 58))) := Lib.hid ((HB1.out.alloc HB1.out.size _).alloc (by have := HB1.out.size; rw [World.size_alloc]; omega) _)
  have OV2 : Hid (((w1.alloc (.cells #[.slice none 0 0, .int .i64 0, .slice none 0 0, .int .i64 0, .slice va vn vc, .bool S.gone, .int .i64 (S.inn : Int), .int .i64 (S.lft : Int)] 64)).alloc (.cells #[.slice (some ⟨p.g0, 0, none⟩) S.f0.length p.c0, .int .i64 (S.s0 : Int)] 58)).ownsRow 0 70 2 (.slice va vn vc) S.row.length (pcells S.row)) := Lib.hid (owns_below OV.out (by go_grown))
  have NW : Hid (∀ k, (Value.slice va vn vc).ownBlock = some k → k < w1.heap.size) := Lib.hid fun k hk => owns_lt OV.out hk
  generalize ((w1.alloc (.cells #[.slice none 0 0, .int .i64 0, .slice none 0 0, .int .i64 0, .slice va vn vc, .bool S.gone, .int .i64 (S.inn : Int), .int .i64 (S.lft : Int)] 64)).alloc (.cells #[.slice (some ⟨p.g0, 0, none⟩) S.f0.length p.c0, .int .i64 (S.s0 : Int)] 58)) = w2 at KC2 KT0 HBw2 OV2 ⊢
  refine rD0 w1.heap.size (w1.heap.size + 1) p.g0 S.f0.length p.c0 S.s0 (fun w3 v => (∃ g' c', v = .slice (some ⟨g', 0, none⟩) S.f0.length c' ∧ By w3 g' c' S.f0 ∧ w2.heap.size ≤ g') ∧ Below w2.heap.size w2 w3) w2
    (KT0.out.cell 0) (Lib.hid fun w3 v h => (h.2.cell KT0.out.lt).trans (KT0.out.cell 0)) (KT0.out.cell 1) (Lib.hid fun w3 v h => (h.2.cell KT0.out.lt).trans (KT0.out.cell 1)) (Lib.hid fun w3 v ⟨⟨g', c', hv, _⟩, _⟩ => ⟨_, _, _, hv⟩)
    (Lib.hid (by
      refine (cloneBytes p.g0 _ p.c0 S.f0 (by have := H.out.wf.l0; omega) w2.drew ((H.out.below HBw2.out).r0.of rfl) rfl).mono ?_
      rintro e w' ⟨v, rfl, ho, hb⟩
      exact ⟨v, rfl, ho, ⟨hb.os, hb.tape, hb.output, hb.size, hb.block⟩⟩)) ?_
  rintro _ w3 ⟨⟨ga, ca, rfl, hby, hga⟩, hb3⟩
  have BA := Lib.hid hby
  have GA := Lib.hid hga
  have H3 := Lib.hid hb3
  have KC3 := Lib.hid (KC2.out.below hb3)
  have HBw3 := Lib.hid (HBw2.out.trans (hb3.mono HBw2.out.size))
  have OV3 := Lib.hid (owns_below OV2.out hb3)
  have C1 : Hid (w1.heap.size < w3.heap.size) := Lib.hid KC3.out.lt
  clear hby hga hb3
  have c0 := KC3.out.cell 0
  have c1 := KC3.out.cell 1
  have f0 := KC3.out.fro 0
  have f1 := KC3.out.fro 1
  simp only [rD0O, findR, Try.f11, Option.bind_some, Option.or, Option.getD, Nat.reduceEqDiff, if_true, if_false, reduceIte, List.drop_succ_cons, List.drop_zero]
  go_wp2_with fail
  clear c0 c1 f0 f1
  rw [rounds_succ]
  go_wp2_with fail
  have hcw : w.heap.size ≤ w1.heap.size := HB1.out.size
  have KC4 : Hid (Bk 64 ((w3.setCell ⟨w1.heap.size, 0, none⟩ (.slice (some ⟨ga, 0, none⟩) S.f0.length ca)).setCell ⟨w1.heap.size, 1, none⟩ (.int .i64 (S.s0 : Int))) w1.heap.size #[.slice (some ⟨ga, 0, none⟩) S.f0.length ca, .int .i64 (S.s0 : Int), .slice none 0 0, .int .i64 0, .slice va vn vc, .bool S.gone, .int .i64 (S.inn : Int), .int .i64 (S.lft : Int)]) := Lib.hid (by
    have := Bk.same (i := 1) (v := .int .i64 (S.s0 : Int)) (Bk.same (i := 0) (v := .slice (some ⟨ga, 0, none⟩) S.f0.length ca) KC3.out)
    simpa using this)
  have KC5 : Hid (Bk 64 (((w3.setCell ⟨w1.heap.size, 0, none⟩ (.slice (some ⟨ga, 0, none⟩) S.f0.length ca)).setCell ⟨w1.heap.size, 1, none⟩ (.int .i64 (S.s0 : Int))).alloc (.cells #[.slice (some ⟨p.g1, 0, none⟩) S.f1.length p.c1, .int .i64 (S.s1 : Int)] 58)) w1.heap.size _) := Lib.hid (Bk.alloc KC4.out)
  have HBw4 : Hid (Below w.heap.size w ((w3.setCell ⟨w1.heap.size, 0, none⟩ (.slice (some ⟨ga, 0, none⟩) S.f0.length ca)).setCell ⟨w1.heap.size, 1, none⟩ (.int .i64 (S.s0 : Int)))) := Lib.hid ((HBw3.out.setCell hcw _).setCell hcw _)
  have KT1 : Hid (Bk 58 (((w3.setCell ⟨w1.heap.size, 0, none⟩ (.slice (some ⟨ga, 0, none⟩) S.f0.length ca)).setCell ⟨w1.heap.size, 1, none⟩ (.int .i64 (S.s0 : Int))).alloc (.cells #[.slice (some ⟨p.g1, 0, none⟩) S.f1.length p.c1, .int .i64 (S.s1 : Int)] 58)) w3.heap.size #[.slice (some ⟨p.g1, 0, none⟩) S.f1.length p.c1, .int .i64 (S.s1 : Int)]) := Lib.hid (Bk.new (by simp))
  have HBw5 : Hid (Below w.heap.size w (((w3.setCell ⟨w1.heap.size, 0, none⟩ (.slice (some ⟨ga, 0, none⟩) S.f0.length ca)).setCell ⟨w1.heap.size, 1, none⟩ (.int .i64 (S.s0 : Int))).alloc (.cells #[.slice (some ⟨p.g1, 0, none⟩) S.f1.length p.c1, .int .i64 (S.s1 : Int)] 58))) := Lib.hid (HBw4.out.alloc HBw4.out.size _)
  have nga : ga ≠ w1.heap.size := fun e => BA.out.ne KC3.out (by decide) e.symm
  have BA5 : Hid (By (((w3.setCell ⟨w1.heap.size, 0, none⟩ (.slice (some ⟨ga, 0, none⟩) S.f0.length ca)).setCell ⟨w1.heap.size, 1, none⟩ (.int .i64 (S.s0 : Int))).alloc (.cells #[.slice (some ⟨p.g1, 0, none⟩) S.f1.length p.c1, .int .i64 (S.s1 : Int)] 58)) ga ca S.f0) := Lib.hid ((BA.out.of ((heap_setCell_other _ _ _ _ nga).trans (heap_setCell_other _ _ _ _ nga))).below (by go_grown))
  have OV5 : Hid ((((w3.setCell ⟨w1.heap.size, 0, none⟩ (.slice (some ⟨ga, 0, none⟩) S.f0.length ca)).setCell ⟨w1.heap.size, 1, none⟩ (.int .i64 (S.s0 : Int))).alloc (.cells #[.slice (some ⟨p.g1, 0, none⟩) S.f1.length p.c1, .int .i64 (S.s1 : Int)] 58)).ownsRow 0 70 2 (.slice va vn vc) S.row.length (pcells S.row)) := Lib.hid (owns_below (owns_of (owns_of OV3.out (fun g hg _ => heap_setCell_other w3 ⟨w1.heap.size, 0, none⟩ g (.slice (some ⟨ga, 0, none⟩) S.f0.length ca) (by have := NW.out g hg; show g ≠ w1.heap.size; omega))) (fun g hg _ => heap_setCell_other _ ⟨w1.heap.size, 1, none⟩ g (.int .i64 (S.s0 : Int)) (by have := NW.out g hg; show g ≠ w1.heap.size; omega))) (by go_grown))
  generalize (((w3.setCell ⟨w1.heap.size, 0, none⟩ (.slice (some ⟨ga, 0, none⟩) S.f0.length ca)).setCell ⟨w1.heap.size, 1, none⟩ (.int .i64 (S.s0 : Int))).alloc (.cells #[.slice (some ⟨p.g1, 0, none⟩) S.f1.length p.c1, .int .i64 (S.s1 : Int)] 58)) = w5 at KC5 KT1 HBw5 BA5 OV5 ⊢
  refine rD1 w1.heap.size (w3.heap.size) p.g1 S.f1.length p.c1 S.s1 (fun w3 v => (∃ g' c', v = .slice (some ⟨g', 0, none⟩) S.f1.length c' ∧ By w3 g' c' S.f1 ∧ w5.heap.size ≤ g') ∧ Below w5.heap.size w5 w3) w5
    (KT1.out.cell 0) (Lib.hid fun w3 v h => (h.2.cell KT1.out.lt).trans (KT1.out.cell 0)) (KT1.out.cell 1) (Lib.hid fun w3 v h => (h.2.cell KT1.out.lt).trans (KT1.out.cell 1)) (Lib.hid fun w3 v ⟨⟨g', c', hv, _⟩, _⟩ => ⟨_, _, _, hv⟩)
    (Lib.hid (by
      refine (cloneBytes p.g1 _ p.c1 S.f1 (by have := H.out.wf.l1; omega) w5.drew ((H.out.below HBw5.out).r1.of rfl) rfl).mono ?_
      rintro e w' ⟨v, rfl, ho, hb⟩
      exact ⟨v, rfl, ho, ⟨hb.os, hb.tape, hb.output, hb.size, hb.block⟩⟩)) ?_
  rintro _ w6 ⟨⟨gb, cb, rfl, hby, hgb⟩, hb6⟩
  have BB := Lib.hid hby
  have GB := Lib.hid hgb
  have KC6 := Lib.hid (KC5.out.below hb6)
  have HBw6 := Lib.hid (HBw5.out.trans (hb6.mono HBw5.out.size))
  have OV6 := Lib.hid (owns_below OV5.out hb6)
  have BA6 := Lib.hid (BA5.out.below hb6)
  clear hby hgb hb6
  have c2 := KC6.out.cell 2
  have c3 := KC6.out.cell 3
  have f2 := KC6.out.fro 2
  have f3 := KC6.out.fro 3
  simp only [rD1O, findR, Try.f11, Option.bind_some, Option.or, Option.getD, Nat.reduceEqDiff, if_true, if_false, reduceIte, List.drop_succ_cons, List.drop_zero]
  go_wp2_with fail
  clear c2 c3 f2 f3
  rw [rounds_succ]
  go_wp2_with fail
  go_ret
  have ngb : gb ≠ w1.heap.size := fun e => BB.out.ne KC6.out (by decide) e.symm
  have KC8 : Bk 64 ((w6.setCell ⟨w1.heap.size, 2, none⟩ (.slice (some ⟨gb, 0, none⟩) S.f1.length cb)).setCell ⟨w1.heap.size, 3, none⟩ (.int .i64 (S.s1 : Int))) w1.heap.size #[.slice (some ⟨ga, 0, none⟩) S.f0.length ca, .int .i64 (S.s0 : Int), .slice (some ⟨gb, 0, none⟩) S.f1.length cb, .int .i64 (S.s1 : Int), .slice va vn vc, .bool S.gone, .int .i64 (S.inn : Int), .int .i64 (S.lft : Int)] := by
    have := Bk.same (i := 3) (v := .int .i64 (S.s1 : Int)) (Bk.same (i := 2) (v := .slice (some ⟨gb, 0, none⟩) S.f1.length cb) KC6.out)
    simpa using this
  have hgab : ga ≠ gb := by
    have h1 := BA5.out.lt
    have h2 := GB.out
    omega
  refine ⟨⟨w1.heap.size, ga, gb, ca, cb, .slice va vn vc⟩, rfl, ⟨KC8, BA6.out.of ((heap_setCell_other _ _ _ _ nga).trans (heap_setCell_other _ _ _ _ nga)), BB.out.of ((heap_setCell_other _ _ _ _ ngb).trans (heap_setCell_other _ _ _ _ ngb)), ?_, hgab, H.out.wf⟩, ?_, ?_⟩
  · exact owns_of (owns_of OV6.out (fun g hg _ => heap_setCell_other w6 ⟨w1.heap.size, 2, none⟩ g (.slice (some ⟨gb, 0, none⟩) S.f1.length cb) (by have := NW.out g hg; show g ≠ w1.heap.size; omega))) (fun g hg _ => heap_setCell_other _ ⟨w1.heap.size, 3, none⟩ g (.int .i64 (S.s1 : Int)) (by have := NW.out g hg; show g ≠ w1.heap.size; omega))
  · exact (HBw6.out.setCell hcw _).setCell hcw _
  · intro k hk
    simp only [Fp.own, List.mem_cons, Option.mem_toList] at hk
    rcases hk with h | h | h | h
    · omega
    · have h1 := GA.out
      have h2 := HBw2.out.size
      omega
    · have h1 := GB.out
      have h2 := HBw5.out.size
      omega
    · exact NV.out k h
end Go.Proofs.Ytekagnhablkggaa
