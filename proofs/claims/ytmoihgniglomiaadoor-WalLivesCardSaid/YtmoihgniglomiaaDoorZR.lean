/- A clone of a disk. No condition but the disk's own. -/
import Derived.Test.YtmoihgniglomiaaDoorZQ
set_option linter.unusedVariables false
set_option linter.unusedSimpArgs false
set_option maxRecDepth 100000
namespace Go.Proofs.YtmoihgniglomiaaDoor
open Go.RowKit Go.Sort

set_option maxHeartbeats 8000000 in
theorem clone_any (p : Fp) (S : St) (w : World) (h : Dk w p S) :
    Calls Tryd.prog 16 #[p.v] w fun e w' => ∃ p' : Fp, e = .returned p'.v ∧ Dk w' p' S ∧ Below w.heap.size w w' ∧ ∀ k ∈ p'.own, w.heap.size ≤ k := by
  have H := Lib.hid h
  obtain ⟨ra, rn, rc, hrv⟩ := h.rvs
  have HRV := Lib.hid hrv
  have HRL := Lib.hid h.wf.rowlen
  have hb4 : w.cell? ⟨p.b, 4, none⟩ = some (.slice ra rn rc) := (h.blk.cell 4).trans (by simp [hrv])
  have B4 := Lib.hid hb4
  clear hb4 hrv h
  have hf0 : ∀ w, (Instr.index 88 (.agg #[.slice (some ⟨p.g0, 0, none⟩) S.f0.length p.c0, .int .i64 (S.s0 : Int), .slice (some ⟨p.g1, 0, none⟩) S.f1.length p.c1, .int .i64 (S.s1 : Int)]) (.int .i64 0)).run Tryd.prog w = .ok (.agg #[.slice (some ⟨p.g0, 0, none⟩) S.f0.length p.c0, .int .i64 (S.s0 : Int)]) w := fun _ => by kernel_rfl
  have hf1 : ∀ w, (Instr.index 88 (.agg #[.slice (some ⟨p.g0, 0, none⟩) S.f0.length p.c0, .int .i64 (S.s0 : Int), .slice (some ⟨p.g1, 0, none⟩) S.f1.length p.c1, .int .i64 (S.s1 : Int)]) (.int .i64 1)).run Tryd.prog w = .ok (.agg #[.slice (some ⟨p.g1, 0, none⟩) S.f1.length p.c1, .int .i64 (S.s1 : Int)]) w := fun _ => by kernel_rfl
  unfold Fp.v
  go_enter Tryd.func16, Tryd.ntmps16
  go_wp2_with fail
  refine rC p.b ra rn rc S.gone S.inn S.lft (fun w1 v => w1.ownsRow 0 105 2 v S.row.length (pcells S.row) ∧ Below w.heap.size w w1 ∧ ∀ k, v.ownBlock = some k → w.heap.size ≤ k) w
    B4.out (Lib.hid fun w1 v h => (h.2.1.cell H.out.blk.lt).trans B4.out) (H.out.blk.cell 5) (Lib.hid fun w1 v h => (h.2.1.cell H.out.blk.lt).trans (H.out.blk.cell 5)) (H.out.blk.cell 6) (Lib.hid fun w1 v h => (h.2.1.cell H.out.blk.lt).trans (H.out.blk.cell 6)) (H.out.blk.cell 7) (Lib.hid fun w1 v h => (h.2.1.cell H.out.blk.lt).trans (H.out.blk.cell 7))
    (Lib.hid (by
      rw [← HRV.out]
      refine (cloneRow p.rv S.row (by have := HRL.out; omega) w.drew (owns_of H.out.rr fun g _ _ => rfl)).mono ?_
      rintro e w' ⟨v, rfl, ho, hb, hk⟩
      exact ⟨v, rfl, ho, ⟨hb.os, hb.tape, hb.output, hb.size, hb.block⟩, hk⟩)) ?_
  rintro v w1 ⟨ho, hb, hk⟩
  have hsh : ∃ va vn vc, v = .slice va vn vc := by
    obtain ⟨_, ⟨hv, _⟩ | ⟨r', cap, cur, hv, _⟩⟩ := ho
    · exact ⟨_, _, _, hv⟩
    · exact ⟨_, _, _, hv⟩
  obtain ⟨va, vn, vc, rfl⟩ := hsh
  have OV := Lib.hid ho
  have HB1 := Lib.hid hb
  have NV := Lib.hid hk
  clear ho hb hk
  have i0 := ((H.out.below HB1.out).blk.alloc (o := .cells #[.slice none 0 0, .int .i64 0, .slice none 0 0, .int .i64 0, .slice va vn vc, .bool S.gone, .int .i64 (S.inn : Int), .int .i64 (S.lft : Int)] 93)).cell 0
  have i1 := ((H.out.below HB1.out).blk.alloc (o := .cells #[.slice none 0 0, .int .i64 0, .slice none 0 0, .int .i64 0, .slice va vn vc, .bool S.gone, .int .i64 (S.inn : Int), .int .i64 (S.lft : Int)] 93)).cell 1
  have i2 := ((H.out.below HB1.out).blk.alloc (o := .cells #[.slice none 0 0, .int .i64 0, .slice none 0 0, .int .i64 0, .slice va vn vc, .bool S.gone, .int .i64 (S.inn : Int), .int .i64 (S.lft : Int)] 93)).cell 2
  have i3 := ((H.out.below HB1.out).blk.alloc (o := .cells #[.slice none 0 0, .int .i64 0, .slice none 0 0, .int .i64 0, .slice va vn vc, .bool S.gone, .int .i64 (S.inn : Int), .int .i64 (S.lft : Int)] 93)).cell 3
  simp only [rCO, findR, Tryd.f16, Option.bind_some, Option.or, Option.getD, Nat.reduceEqDiff, if_true, if_false, reduceIte, List.drop_succ_cons, List.drop_zero]
  go_wp2_with fail
  refine wp_loop_rounds 3 ?_
  rw [rounds_succ]
  clear i0 i1 i2 i3
  go_wp2_with fail
  have KC2 : Hid (Bk 93 ((w1.alloc (.cells #[.slice none 0 0, .int .i64 0, .slice none 0 0, .int .i64 0, .slice va vn vc, .bool S.gone, .int .i64 (S.inn : Int), .int .i64 (S.lft : Int)] 93)).alloc (.cells #[.slice (some ⟨p.g0, 0, none⟩) S.f0.length p.c0, .int .i64 (S.s0 : Int)] 87)) w1.heap.size #[.slice none 0 0, .int .i64 0, .slice none 0 0, .int .i64 0, .slice va vn vc, .bool S.gone, .int .i64 (S.inn : Int), .int .i64 (S.lft : Int)]) := Lib.hid (Bk.alloc (Bk.new rfl))
  have KT0 : Hid (Bk 87 ((w1.alloc (.cells #[.slice none 0 0, .int .i64 0, .slice none 0 0, .int .i64 0, .slice va vn vc, .bool S.gone, .int .i64 (S.inn : Int), .int .i64 (S.lft : Int)] 93)).alloc (.cells #[.slice (some ⟨p.g0, 0, none⟩) S.f0.length p.c0, .int .i64 (S.s0 : Int)] 87)) (w1.heap.size + 1) #[.slice (some ⟨p.g0, 0, none⟩) S.f0.length p.c0, .int .i64 (S.s0 : Int)]) := Lib.hid (Bk.new (by simp))
  have HBw2 : Hid (Below w.heap.size w ((w1.alloc (.cells #[.slice none 0 0, .int .i64 0, .slice none 0 0, .int .i64 0, .slice va vn vc, .bool S.gone, .int .i64 (S.inn : Int), .int .i64 (S.lft : Int)] 93)).alloc (.cells #[.slice (some ⟨p.g0, 0, none⟩) S.f0.length p.c0, .int .i64 (S.s0 : Int)] 87))) := Lib.hid ((HB1.out.alloc HB1.out.size _).alloc (by have := HB1.out.size; rw [World.size_alloc]; omega) _)
  have OV2 : Hid (((w1.alloc (.cells #[.slice none 0 0, .int .i64 0, .slice none 0 0, .int .i64 0, .slice va vn vc, .bool S.gone, .int .i64 (S.inn : Int), .int .i64 (S.lft : Int)] 93)).alloc (.cells #[.slice (some ⟨p.g0, 0, none⟩) S.f0.length p.c0, .int .i64 (S.s0 : Int)] 87)).ownsRow 0 105 2 (.slice va vn vc) S.row.length (pcells S.row)) := Lib.hid (owns_below OV.out (by go_grown))
  have NW : Hid (∀ k, (Value.slice va vn vc).ownBlock = some k → k < w1.heap.size) := Lib.hid fun k hk => owns_lt OV.out hk
  generalize ((w1.alloc (.cells #[.slice none 0 0, .int .i64 0, .slice none 0 0, .int .i64 0, .slice va vn vc, .bool S.gone, .int .i64 (S.inn : Int), .int .i64 (S.lft : Int)] 93)).alloc (.cells #[.slice (some ⟨p.g0, 0, none⟩) S.f0.length p.c0, .int .i64 (S.s0 : Int)] 87)) = w2 at KC2 KT0 HBw2 OV2 ⊢
  refine rD0 w1.heap.size (w1.heap.size + 1) p.g0 S.f0.length p.c0 S.s0 (fun w3 v => (∃ g' c', v = .slice (some ⟨g', 0, none⟩) S.f0.length c' ∧ By w3 g' c' S.f0 ∧ w2.heap.size ≤ g') ∧ Below w2.heap.size w2 w3) w2
    (KT0.out.cell 0) (Lib.hid fun w3 v h => (h.2.cell KT0.out.lt).trans (KT0.out.cell 0)) (KT0.out.cell 1) (Lib.hid fun w3 v h => (h.2.cell KT0.out.lt).trans (KT0.out.cell 1)) (Lib.hid fun w3 v ⟨⟨g', c', hv, _⟩, _⟩ => ⟨_, _, _, hv⟩)
    (Lib.hid (by
      refine (cloneBytes p.g0 _ p.c0 S.f0 (by have := H.out.wf.l0; omega) w2.drew ((H.out.below HBw2.out).r0.of rfl) rfl).mono ?_
      rintro e w' ⟨v, rfl, ho, hb⟩
      exact ⟨v, rfl, ho, ⟨hb.os, hb.tape, hb.output, hb.size, hb.block⟩⟩)) ?_
  rintro _ w3 ⟨⟨ga, ca, rfl, hby, hga⟩, hb3⟩
  have BA := Lib.hid hby
  have GA := Lib.hid hga
  have H3 := Lib.hid hb3
  have KC3 := Lib.hid (KC2.out.below hb3)
  have HBw3 := Lib.hid (HBw2.out.trans (hb3.mono HBw2.out.size))
  have OV3 := Lib.hid (owns_below OV2.out hb3)
  have C1 : Hid (w1.heap.size < w3.heap.size) := Lib.hid KC3.out.lt
  clear hby hga hb3
  have c0 := KC3.out.cell 0
  have c1 := KC3.out.cell 1
  have f0 := KC3.out.fro 0
  have f1 := KC3.out.fro 1
  simp only [rD0O, findR, Tryd.f16, Option.bind_some, Option.or, Option.getD, Nat.reduceEqDiff, if_true, if_false, reduceIte, List.drop_succ_cons, List.drop_zero]
  go_wp2_with fail
  clear c0 c1 f0 f1
  rw [rounds_succ]
  go_wp2_with fail
  have hcw : w.heap.size ≤ w1.heap.size := HB1.out.size
  have KC4 : Hid (Bk 93 ((w3.setCell ⟨w1.heap.size, 0, none⟩ (.slice (some ⟨ga, 0, none⟩) S.f0.length ca)).setCell ⟨w1.heap.size, 1, none⟩ (.int .i64 (S.s0 : Int))) w1.heap.size #[.slice (some ⟨ga, 0, none⟩) S.f0.length ca, .int .i64 (S.s0 : Int), .slice none 0 0, .int .i64 0, .slice va vn vc, .bool S.gone, .int .i64 (S.inn : Int), .int .i64 (S.lft : Int)]) := Lib.hid (by
    have := Bk.same (i := 1) (v := .int .i64 (S.s0 : Int)) (Bk.same (i := 0) (v := .slice (some ⟨ga, 0, none⟩) S.f0.length ca) KC3.out)
    simpa using this)
  have KC5 : Hid (Bk 93 (((w3.setCell ⟨w1.heap.size, 0, none⟩ (.slice (some ⟨ga, 0, none⟩) S.f0.length ca)).setCell ⟨w1.heap.size, 1, none⟩ (.int .i64 (S.s0 : Int))).alloc (.cells #[.slice (some ⟨p.g1, 0, none⟩) S.f1.length p.c1, .int .i64 (S.s1 : Int)] 87)) w1.heap.size _) := Lib.hid (Bk.alloc KC4.out)
  have HBw4 : Hid (Below w.heap.size w ((w3.setCell ⟨w1.heap.size, 0, none⟩ (.slice (some ⟨ga, 0, none⟩) S.f0.length ca)).setCell ⟨w1.heap.size, 1, none⟩ (.int .i64 (S.s0 : Int)))) := Lib.hid ((HBw3.out.setCell hcw _).setCell hcw _)
  have KT1 : Hid (Bk 87 (((w3.setCell ⟨w1.heap.size, 0, none⟩ (.slice (some ⟨ga, 0, none⟩) S.f0.length ca)).setCell ⟨w1.heap.size, 1, none⟩ (.int .i64 (S.s0 : Int))).alloc (.cells #[.slice (some ⟨p.g1, 0, none⟩) S.f1.length p.c1, .int .i64 (S.s1 : Int)] 87)) w3.heap.size #[.slice (some ⟨p.g1, 0, none⟩) S.f1.length p.c1, .int .i64 (S.s1 : Int)]) := Lib.hid (Bk.new (by simp))
  have HBw5 : Hid (Below w.heap.size w (((w3.setCell ⟨w1.heap.size, 0, none⟩ (.slice (some ⟨ga, 0, none⟩) S.f0.length ca)).setCell ⟨w1.heap.size, 1, none⟩ (.int .i64 (S.s0 : Int))).alloc (.cells #[.slice (some ⟨p.g1, 0, none⟩) S.f1.length p.c1, .int .i64 (S.s1 : Int)] 87))) := Lib.hid (HBw4.out.alloc HBw4.out.size _)
  have nga : ga ≠ w1.heap.size := fun e => BA.out.ne KC3.out (by decide) e.symm
  have BA5 : Hid (By (((w3.setCell ⟨w1.heap.size, 0, none⟩ (.slice (some ⟨ga, 0, none⟩) S.f0.length ca)).setCell ⟨w1.heap.size, 1, none⟩ (.int .i64 (S.s0 : Int))).alloc (.cells #[.slice (some ⟨p.g1, 0, none⟩) S.f1.length p.c1, .int .i64 (S.s1 : Int)] 87)) ga ca S.f0) := Lib.hid ((BA.out.of ((heap_setCell_other _ _ _ _ nga).trans (heap_setCell_other _ _ _ _ nga))).below (by go_grown))
  have OV5 : Hid ((((w3.setCell ⟨w1.heap.size, 0, none⟩ (.slice (some ⟨ga, 0, none⟩) S.f0.length ca)).setCell ⟨w1.heap.size, 1, none⟩ (.int .i64 (S.s0 : Int))).alloc (.cells #[.slice (some ⟨p.g1, 0, none⟩) S.f1.length p.c1, .int .i64 (S.s1 : Int)] 87)).ownsRow 0 105 2 (.slice va vn vc) S.row.length (pcells S.row)) := Lib.hid (owns_below (owns_of (owns_of OV3.out (fun g hg _ => heap_setCell_other w3 ⟨w1.heap.size, 0, none⟩ g (.slice (some ⟨ga, 0, none⟩) S.f0.length ca) (by have := NW.out g hg; show g ≠ w1.heap.size; omega))) (fun g hg _ => heap_setCell_other _ ⟨w1.heap.size, 1, none⟩ g (.int .i64 (S.s0 : Int)) (by have := NW.out g hg; show g ≠ w1.heap.size; omega))) (by go_grown))
  generalize (((w3.setCell ⟨w1.heap.size, 0, none⟩ (.slice (some ⟨ga, 0, none⟩) S.f0.length ca)).setCell ⟨w1.heap.size, 1, none⟩ (.int .i64 (S.s0 : Int))).alloc (.cells #[.slice (some ⟨p.g1, 0, none⟩) S.f1.length p.c1, .int .i64 (S.s1 : Int)] 87)) = w5 at KC5 KT1 HBw5 BA5 OV5 ⊢
  refine rD1 w1.heap.size (w3.heap.size) p.g1 S.f1.length p.c1 S.s1 (fun w3 v => (∃ g' c', v = .slice (some ⟨g', 0, none⟩) S.f1.length c' ∧ By w3 g' c' S.f1 ∧ w5.heap.size ≤ g') ∧ Below w5.heap.size w5 w3) w5
    (KT1.out.cell 0) (Lib.hid fun w3 v h => (h.2.cell KT1.out.lt).trans (KT1.out.cell 0)) (KT1.out.cell 1) (Lib.hid fun w3 v h => (h.2.cell KT1.out.lt).trans (KT1.out.cell 1)) (Lib.hid fun w3 v ⟨⟨g', c', hv, _⟩, _⟩ => ⟨_, _, _, hv⟩)
    (Lib.hid (by
      refine (cloneBytes p.g1 _ p.c1 S.f1 (by have := H.out.wf.l1; omega) w5.drew ((H.out.below HBw5.out).r1.of rfl) rfl).mono ?_
      rintro e w' ⟨v, rfl, ho, hb⟩
      exact ⟨v, rfl, ho, ⟨hb.os, hb.tape, hb.output, hb.size, hb.block⟩⟩)) ?_
  rintro _ w6 ⟨⟨gb, cb, rfl, hby, hgb⟩, hb6⟩
  have BB := Lib.hid hby
  have GB := Lib.hid hgb
  have KC6 := Lib.hid (KC5.out.below hb6)
  have HBw6 := Lib.hid (HBw5.out.trans (hb6.mono HBw5.out.size))
  have OV6 := Lib.hid (owns_below OV5.out hb6)
  have BA6 := Lib.hid (BA5.out.below hb6)
  clear hby hgb hb6
  have c2 := KC6.out.cell 2
  have c3 := KC6.out.cell 3
  have f2 := KC6.out.fro 2
  have f3 := KC6.out.fro 3
  simp only [rD1O, findR, Tryd.f16, Option.bind_some, Option.or, Option.getD, Nat.reduceEqDiff, if_true, if_false, reduceIte, List.drop_succ_cons, List.drop_zero]
  go_wp2_with fail
  clear c2 c3 f2 f3
  rw [rounds_succ]
  go_wp2_with fail
  go_ret
  have ngb : gb ≠ w1.heap.size := fun e => BB.out.ne KC6.out (by decide) e.symm
  have KC8 : Bk 93 ((w6.setCell ⟨w1.heap.size, 2, none⟩ (.slice (some ⟨gb, 0, none⟩) S.f1.length cb)).setCell ⟨w1.heap.size, 3, none⟩ (.int .i64 (S.s1 : Int))) w1.heap.size #[.slice (some ⟨ga, 0, none⟩) S.f0.length ca, .int .i64 (S.s0 : Int), .slice (some ⟨gb, 0, none⟩) S.f1.length cb, .int .i64 (S.s1 : Int), .slice va vn vc, .bool S.gone, .int .i64 (S.inn : Int), .int .i64 (S.lft : Int)] := by
    have := Bk.same (i := 3) (v := .int .i64 (S.s1 : Int)) (Bk.same (i := 2) (v := .slice (some ⟨gb, 0, none⟩) S.f1.length cb) KC6.out)
    simpa using this
  have hgab : ga ≠ gb := by
    have h1 := BA5.out.lt
    have h2 := GB.out
    omega
  refine ⟨⟨w1.heap.size, ga, gb, ca, cb, .slice va vn vc⟩, rfl, ⟨KC8, BA6.out.of ((heap_setCell_other _ _ _ _ nga).trans (heap_setCell_other _ _ _ _ nga)), BB.out.of ((heap_setCell_other _ _ _ _ ngb).trans (heap_setCell_other _ _ _ _ ngb)), ?_, hgab, H.out.wf⟩, ?_, ?_⟩
  · exact owns_of (owns_of OV6.out (fun g hg _ => heap_setCell_other w6 ⟨w1.heap.size, 2, none⟩ g (.slice (some ⟨gb, 0, none⟩) S.f1.length cb) (by have := NW.out g hg; show g ≠ w1.heap.size; omega))) (fun g hg _ => heap_setCell_other _ ⟨w1.heap.size, 3, none⟩ g (.int .i64 (S.s1 : Int)) (by have := NW.out g hg; show g ≠ w1.heap.size; omega))
  · exact (HBw6.out.setCell hcw _).setCell hcw _
  · intro k hk
    simp only [Fp.own, List.mem_cons, Option.mem_toList] at hk
    rcases hk with h | h | h | h
    · omega
    · have h1 := GA.out
      have h2 := HBw2.out.size
      omega
    · have h1 := GB.out
      have h2 := HBw5.out.size
      omega
    · exact NV.out k h
end Go.Proofs.YtmoihgniglomiaaDoor
/- New disks; an argument that is a slice of texts. Conditions: the texts' lengths. -/
set_option linter.unusedVariables false
set_option linter.unusedSimpArgs false
set_option maxRecDepth 100000
namespace Go.Proofs.YtmoihgniglomiaaDoor
open Go.RowKit Go.Sort

/-- v reads as these texts -/
def StrIn (w : World) (v : Value) (l : List ByteArray) : Prop :=
  ∃ a c, v = .slice a l.length c ∧ (l ≠ [] → ∃ b o, a = some ⟨b, o, none⟩ ∧ b < w.heap.size ∧ ∀ i (hi : i < l.length), w.cell? ⟨b, o + i, none⟩ = some (.string l[i]))
theorem StrIn.below {w w' : World} {v : Value} {l : List ByteArray} (h : StrIn w v l) (hb : Below w.heap.size w w') : StrIn w' v l := by
  obtain ⟨a, c, hv, hl⟩ := h
  refine ⟨a, c, hv, fun hne => ?_⟩
  obtain ⟨b, o, ha, hlt, hc⟩ := hl hne
  exact ⟨b, o, ha, Nat.lt_of_lt_of_le hlt hb.size, fun i hi => (hb.cell (p := ⟨b, o + i, none⟩) hlt).trans (hc i hi)⟩
def fits (l : List ByteArray) : Bool := decide (∀ s ∈ l, s.size ≤ 1048576)
def newE (l : List ByteArray) : Nat := if l.length ≠ 2 then 90 else if fits l then 0 else 91
theorem new_bad (a : Option Addr) (n c : Nat) (hn : n ≠ 2) (w : World) :
    Calls Tryd.prog 11 #[.slice a n c] w fun e w' => e = .returned (.tuple #[.pointer none, .int .i64 90]) ∧ w = w' := by
  have ht : (((n : Nat) : Int) != 2) = true := by simp; omega
  clear hn
  go_enter Tryd.func11, Tryd.ntmps11
  go_wp2_with fail
  go_returns
  exact ⟨rfl, rfl⟩
set_option maxHeartbeats 8000000 in
theorem new_long0 (b o c : Nat) (x y : ByteArray) (w : World) (h0 : w.cell? ⟨b, o, none⟩ = some (.string x)) (hx : 1048576 < x.size) :
    Calls Tryd.prog 11 #[.slice (some ⟨b, o, none⟩) 2 c] w fun e w' => e = .returned (.tuple #[.pointer none, .int .i64 91]) ∧ w = w' := by
  have ht : decide ((1048576 : Int) < (x.size : Int)) = true := by simp; omega
  go_enter Tryd.func11, Tryd.ntmps11
  go_wp2_with fail
  refine wp_loop_rounds 1 ?_
  rw [rounds_succ]
  go_wp2_with fail
  go_returns
  exact ⟨rfl, rfl⟩
set_option maxHeartbeats 8000000 in
theorem new_long1 (b o c : Nat) (x y : ByteArray) (w : World) (h0 : w.cell? ⟨b, o, none⟩ = some (.string x)) (h1 : w.cell? ⟨b, o + 1, none⟩ = some (.string y)) (hx : ¬ 1048576 < x.size) (hy : 1048576 < y.size) :
    Calls Tryd.prog 11 #[.slice (some ⟨b, o, none⟩) 2 c] w fun e w' => e = .returned (.tuple #[.pointer none, .int .i64 91]) ∧ w = w' := by
  have ht : decide ((1048576 : Int) < (x.size : Int)) = false := by simp; omega
  have ht : decide ((1048576 : Int) < (y.size : Int)) = true := by simp; omega
  go_enter Tryd.func11, Tryd.ntmps11
  go_wp2_with fail
  refine wp_loop_rounds 2 ?_
  rw [rounds_succ]
  go_wp2_with fail
  rw [rounds_succ]
  go_wp2_with fail
  go_returns
  exact ⟨rfl, rfl⟩
set_option maxHeartbeats 8000000 in
theorem new_ok (b o c : Nat) (x y : ByteArray) (w : World) (hb : b < w.heap.size) (h0 : w.cell? ⟨b, o, none⟩ = some (.string x)) (h1 : w.cell? ⟨b, o + 1, none⟩ = some (.string y)) (hx : ¬ 1048576 < x.size) (hy : ¬ 1048576 < y.size) :
    Calls Tryd.prog 11 #[.slice (some ⟨b, o, none⟩) 2 c] w fun e w' => ∃ p : Fp, e = .returned (.tuple #[p.v, .int .i64 0]) ∧ Dk w' p (St.new x.data.toList y.data.toList) ∧ Below w.heap.size w w' ∧ ∀ k ∈ p.own, w.heap.size ≤ k := by
  have ht : decide ((1048576 : Int) < (x.size : Int)) = false := by simp; omega
  have ht2 : decide ((1048576 : Int) < (y.size : Int)) = false := by simp; omega
  have HX : Hid (x.size ≤ 1048576 ∧ y.size ≤ 1048576) := Lib.hid (by omega)
  have HBL := Lib.hid hb
  have H0 := Lib.hid h0
  have H1 := Lib.hid h1
  clear hx hy hb
  go_enter Tryd.func11, Tryd.ntmps11
  go_wp2_with fail
  refine wp_loop_rounds 3 ?_
  rw [rounds_succ]
  go_wp2_with fail
  rw [rounds_succ]
  go_wp2_with fail
  rw [rounds_succ]
  have g0 := fun (O : Obj) => ((show Below w.heap.size w (w.alloc O) by go_grown).cell (p := ⟨b, o, none⟩) HBL.out).trans H0.out
  go_wp2_with fail
  refine wp_loop_rounds 3 ?_
  rw [rounds_succ]
  go_wp2_with fail
  obtain ⟨ca, w2, hrun, hby, hb2⟩ := conv_new x (by have := HX.out; unfold maxLen; omega) (w.alloc (.cells #[.slice none 0 0, .int .i64 0, .slice none 0 0, .int .i64 0, .slice none 0 0, .bool false, .int .i64 0, .int .i64 0] 93))
  rw [hrun]
  simp only [Result.andThen]
  rw [Oper.upon_value]
  have hs1 : (w.alloc (.cells #[.slice none 0 0, .int .i64 0, .slice none 0 0, .int .i64 0, .slice none 0 0, .bool false, .int .i64 0, .int .i64 0] 93)).heap.size = w.heap.size + 1 := World.size_alloc _ _
  rw [hs1] at hby ⊢
  have BA := Lib.hid hby
  have KC2 := Lib.hid (Bk.below (Bk.new (t := 93) (cs := #[.slice none 0 0, .int .i64 0, .slice none 0 0, .int .i64 0, .slice none 0 0, .bool false, .int .i64 0, .int .i64 0]) (rfl : w.heap.size = w.heap.size)) hb2)
  have HB2 : Hid (Below w.heap.size w w2) := Lib.hid ((show Below w.heap.size w (w.alloc (.cells #[.slice none 0 0, .int .i64 0, .slice none 0 0, .int .i64 0, .slice none 0 0, .bool false, .int .i64 0, .int .i64 0] 93)) by go_grown).trans (hb2.mono (by rw [hs1]; omega)))
  clear hrun hby hb2 hs1 g0
  have c0 := KC2.out.cell 0
  have c1 := KC2.out.cell 1
  have f0 := KC2.out.fro 0
  have f1 := KC2.out.fro 1
  go_wp2_with fail
  clear c0 c1 f0 f1
  have KC3 : Hid (Bk 93 ((w2.setCell ⟨w.heap.size, 0, none⟩ (.slice (some ⟨w.heap.size + 1, 0, none⟩) x.size ca)).setCell ⟨w.heap.size, 1, none⟩ (.int .i64 (x.size : Int))) w.heap.size #[.slice (some ⟨w.heap.size + 1, 0, none⟩) x.size ca, .int .i64 (x.size : Int), .slice none 0 0, .int .i64 0, .slice none 0 0, .bool false, .int .i64 0, .int .i64 0]) := Lib.hid (by
    have := Bk.same (i := 1) (v := .int .i64 (x.size : Int)) (Bk.same (i := 0) (v := .slice (some ⟨w.heap.size + 1, 0, none⟩) x.size ca) KC2.out)
    simpa using this)
  have HB3 : Hid (Below w.heap.size w ((w2.setCell ⟨w.heap.size, 0, none⟩ (.slice (some ⟨w.heap.size + 1, 0, none⟩) x.size ca)).setCell ⟨w.heap.size, 1, none⟩ (.int .i64 (x.size : Int)))) := Lib.hid ((HB2.out.setCell (Nat.le_refl _) _).setCell (Nat.le_refl _) _)
  have BA3 : Hid (By ((w2.setCell ⟨w.heap.size, 0, none⟩ (.slice (some ⟨w.heap.size + 1, 0, none⟩) x.size ca)).setCell ⟨w.heap.size, 1, none⟩ (.int .i64 (x.size : Int))) (w.heap.size + 1) ca x.data.toList) := Lib.hid (BA.out.of ((heap_setCell_other _ _ _ _ (by show w.heap.size + 1 ≠ w.heap.size; omega)).trans (heap_setCell_other _ _ _ _ (by show w.heap.size + 1 ≠ w.heap.size; omega))))
  have g1 : ((w2.setCell ⟨w.heap.size, 0, none⟩ (.slice (some ⟨w.heap.size + 1, 0, none⟩) x.size ca)).setCell ⟨w.heap.size, 1, none⟩ (.int .i64 (x.size : Int))).cell? ⟨b, o + 1, none⟩ = some (.string y) := (HB3.out.cell (p := ⟨b, o + 1, none⟩) HBL.out).trans H1.out
  clear h0 h1
  rw [rounds_succ]
  go_wp2_with fail
  obtain ⟨cb, w4, hrun, hby, hb4⟩ := conv_new y (by have := HX.out; unfold maxLen; omega) ((w2.setCell ⟨w.heap.size, 0, none⟩ (.slice (some ⟨w.heap.size + 1, 0, none⟩) x.size ca)).setCell ⟨w.heap.size, 1, none⟩ (.int .i64 (x.size : Int)))
  rw [hrun]
  simp only [Result.andThen]
  rw [Oper.upon_value]
  have hs3 : ((w2.setCell ⟨w.heap.size, 0, none⟩ (.slice (some ⟨w.heap.size + 1, 0, none⟩) x.size ca)).setCell ⟨w.heap.size, 1, none⟩ (.int .i64 (x.size : Int))).heap.size = w2.heap.size := by simp
  rw [hs3] at hby ⊢
  have BB := Lib.hid hby
  have KC4 := Lib.hid (KC3.out.below hb4)
  have BA4 := Lib.hid (BA3.out.below hb4)
  have HB4 : Hid (Below w.heap.size w w4) := Lib.hid (HB3.out.trans (hb4.mono HB3.out.size))
  have HLT : Hid (w.heap.size + 1 < w2.heap.size) := Lib.hid BA.out.lt
  clear hrun hby hb4 hs3 g1
  have c2 := KC4.out.cell 2
  have c3 := KC4.out.cell 3
  have f2 := KC4.out.fro 2
  have f3 := KC4.out.fro 3
  go_wp2_with fail
  clear c2 c3 f2 f3
  rw [rounds_succ]
  go_wp2_with fail
  go_returns
  have KC5 : Bk 93 ((w4.setCell ⟨w.heap.size, 2, none⟩ (.slice (some ⟨w2.heap.size, 0, none⟩) y.size cb)).setCell ⟨w.heap.size, 3, none⟩ (.int .i64 (y.size : Int))) w.heap.size #[.slice (some ⟨w.heap.size + 1, 0, none⟩) x.size ca, .int .i64 (x.size : Int), .slice (some ⟨w2.heap.size, 0, none⟩) y.size cb, .int .i64 (y.size : Int), .slice none 0 0, .bool false, .int .i64 0, .int .i64 0] := by
    have := Bk.same (i := 3) (v := .int .i64 (y.size : Int)) (Bk.same (i := 2) (v := .slice (some ⟨w2.heap.size, 0, none⟩) y.size cb) KC4.out)
    simpa using this
  have hlt := HLT.out
  have hx := ba_size x
  have hy := ba_size y
  refine ⟨⟨w.heap.size, w.heap.size + 1, w2.heap.size, ca, cb, .slice none 0 0⟩, rfl, ⟨?_, BA4.out.of ((heap_setCell_other _ _ _ _ (by show w.heap.size + 1 ≠ w.heap.size; omega)).trans (heap_setCell_other _ _ _ _ (by show w.heap.size + 1 ≠ w.heap.size; omega))), BB.out.of ((heap_setCell_other _ _ _ _ (by show w2.heap.size ≠ w.heap.size; omega)).trans (heap_setCell_other _ _ _ _ (by show w2.heap.size ≠ w.heap.size; omega))), ⟨rfl, .inl ⟨rfl, rfl⟩⟩, (by show w.heap.size + 1 ≠ w2.heap.size; omega), St.Wf.new (by rw [hx]; exact HX.out.1) (by rw [hy]; exact HX.out.2)⟩, ?_, ?_⟩
  · simp only [St.new, hx, hy]
    exact KC5
  · exact (HB4.out.setCell (Nat.le_refl _) _).setCell (Nat.le_refl _) _
  · intro k hk
    simp only [Fp.own, Value.ownBlock, Option.toList, List.mem_cons, List.not_mem_nil, or_false] at hk
    omega
end Go.Proofs.YtmoihgniglomiaaDoor
/- New disks in all ways; remainders; rows of two texts compared. Conditions: that the numbers are int64. -/
set_option linter.unusedVariables false
set_option linter.unusedSimpArgs false
set_option maxRecDepth 100000
namespace Go.Proofs.YtmoihgniglomiaaDoor
open Go.RowKit Go.Sort

theorem new_no (v : Value) (l : List ByteArray) (w : World) (h : StrIn w v l) (hn : newE l ≠ 0) :
    Calls Tryd.prog 11 #[v] w fun e w' => e = .returned (.tuple #[.pointer none, .int .i64 (newE l : Int)]) ∧ w = w' := by
  obtain ⟨a, c, rfl, hl⟩ := h
  by_cases h2 : l.length = 2
  · obtain ⟨x, y, rfl⟩ : ∃ x y, l = [x, y] := by
      match l, h2 with
      | [x, y], _ => exact ⟨x, y, rfl⟩
    obtain ⟨b, o, rfl, hlt, hc⟩ := hl (by simp)
    have h0 := hc 0 (by simp)
    have h1 := hc 1 (by simp)
    have e91 : newE [x, y] = 91 := by
      unfold newE at hn ⊢
      rw [if_neg (by simp)] at hn ⊢
      split at hn
      · exact absurd rfl hn
      · rename_i h; rw [if_neg h]
    rw [e91]
    by_cases hx : 1048576 < x.size
    · exact new_long0 b o c x y w (by simpa using h0) hx
    · by_cases hy : 1048576 < y.size
      · exact new_long1 b o c x y w (by simpa using h0) (by simpa using h1) hx hy
      · exfalso
        unfold newE at e91
        rw [if_neg (by simp), if_pos (by simp [fits]; omega)] at e91
        cases e91
  · have e90 : newE l = 90 := by simp [newE, h2]
    rw [e90]
    exact new_bad a l.length c h2 w
theorem new_yes (v : Value) (l : List ByteArray) (w : World) (h : StrIn w v l) (hn : newE l = 0) :
    ∃ x y, l = [x, y] ∧ x.size ≤ 1048576 ∧ y.size ≤ 1048576 ∧ Calls Tryd.prog 11 #[v] w fun e w' => ∃ p : Fp, e = .returned (.tuple #[p.v, .int .i64 0]) ∧ Dk w' p (St.new x.data.toList y.data.toList) ∧ Below w.heap.size w w' ∧ ∀ k ∈ p.own, w.heap.size ≤ k := by
  obtain ⟨a, c, rfl, hl⟩ := h
  have h2 : l.length = 2 := by
    unfold newE at hn
    split at hn
    · cases hn
    · rename_i h; simpa using h
  obtain ⟨x, y, rfl⟩ : ∃ x y, l = [x, y] := by
    match l, h2 with
    | [x, y], _ => exact ⟨x, y, rfl⟩
  have hf : fits [x, y] = true := by
    unfold newE at hn
    rw [if_neg (by simp)] at hn
    split at hn
    · assumption
    · cases hn
  simp [fits] at hf
  obtain ⟨b, o, rfl, hlt, hc⟩ := hl (by simp)
  have h0 := hc 0 (by simp)
  have h1 := hc 1 (by simp)
  exact ⟨x, y, rfl, hf.1, hf.2, new_ok b o c x y w hlt (by simpa using h0) (by simpa using h1) (by omega) (by omega)⟩
/-- the document's New -/
theorem rnew_bad (a : Option Addr) (n c : Nat) (hn : n ≠ 2) (w : World) :
    Calls Tryd.prog 12 #[.slice a n c] w fun e w' => e = .returned (.tuple #[.pointer none, .int .i64 90]) ∧ w = w' := by
  have ht : (((n : Nat) : Int) != 2) = true := by simp; omega
  clear hn
  go_enter Tryd.func12, Tryd.ntmps12
  go_wp2_with fail
  go_returns
  exact ⟨rfl, rfl⟩
set_option maxHeartbeats 8000000 in
theorem rnew_long0 (b o c : Nat) (x y : ByteArray) (w : World) (h0 : w.cell? ⟨b, o, none⟩ = some (.string x)) (hx : 1048576 < x.size) :
    Calls Tryd.prog 12 #[.slice (some ⟨b, o, none⟩) 2 c] w fun e w' => e = .returned (.tuple #[.pointer none, .int .i64 91]) ∧ w = w' := by
  have ht : decide ((1048576 : Int) < (x.size : Int)) = true := by simp; omega
  go_enter Tryd.func12, Tryd.ntmps12
  go_wp2_with fail
  go_returns
  exact ⟨rfl, rfl⟩
set_option maxHeartbeats 8000000 in
theorem rnew_long1 (b o c : Nat) (x y : ByteArray) (w : World) (h0 : w.cell? ⟨b, o, none⟩ = some (.string x)) (h1 : w.cell? ⟨b, o + 1, none⟩ = some (.string y)) (hx : ¬ 1048576 < x.size) (hy : 1048576 < y.size) :
    Calls Tryd.prog 12 #[.slice (some ⟨b, o, none⟩) 2 c] w fun e w' => e = .returned (.tuple #[.pointer none, .int .i64 91]) ∧ w = w' := by
  have ht : decide ((1048576 : Int) < (x.size : Int)) = false := by simp; omega
  have ht2 : decide ((1048576 : Int) < (y.size : Int)) = true := by simp; omega
  go_enter Tryd.func12, Tryd.ntmps12
  go_wp2_with fail
  go_returns
  exact ⟨rfl, rfl⟩
theorem rnew_no (v : Value) (l : List ByteArray) (w : World) (h : StrIn w v l) (hn : newE l ≠ 0) :
    Calls Tryd.prog 12 #[v] w fun e w' => e = .returned (.tuple #[.pointer none, .int .i64 (newE l : Int)]) ∧ w = w' := by
  obtain ⟨a, c, rfl, hl⟩ := h
  by_cases h2 : l.length = 2
  · obtain ⟨x, y, rfl⟩ : ∃ x y, l = [x, y] := by
      match l, h2 with
      | [x, y], _ => exact ⟨x, y, rfl⟩
    obtain ⟨b, o, rfl, hlt, hc⟩ := hl (by simp)
    have h0 := hc 0 (by simp)
    have h1 := hc 1 (by simp)
    have e91 : newE [x, y] = 91 := by
      unfold newE at hn ⊢
      rw [if_neg (by simp)] at hn ⊢
      split at hn
      · exact absurd rfl hn
      · rename_i h; rw [if_neg h]
    rw [e91]
    by_cases hx : 1048576 < x.size
    · exact rnew_long0 b o c x y w (by simpa using h0) hx
    · by_cases hy : 1048576 < y.size
      · exact rnew_long1 b o c x y w (by simpa using h0) (by simpa using h1) hx hy
      · exfalso
        unfold newE at e91
        rw [if_neg (by simp), if_pos (by simp [fits]; omega)] at e91
        cases e91
  · have e90 : newE l = 90 := by simp [newE, h2]
    rw [e90]
    exact rnew_bad a l.length c h2 w
theorem tmod_emod (n m : Int) (hm : 0 < m) : n % m = if n.tmod m < 0 then n.tmod m + m else n.tmod m := by
  have h1 := Int.emod_nonneg n (show m ≠ 0 by omega)
  have h2 := Int.emod_lt_of_pos n hm
  rw [Int.tmod_eq_emod]
  by_cases h : 0 ≤ n ∨ m ∣ n
  · rw [if_pos h, if_neg (by omega)]; omega
  · rw [if_neg h, if_pos (by omega)]; omega
set_option maxHeartbeats 4000000 in
theorem place_any (n m : Int) (hm : 0 < m) (hm2 : m ≤ 4611686018427387904) (h1 : -9223372036854775808 ≤ n) (h2 : n ≤ 9223372036854775807) (w : World) :
    Calls Tryd.prog 15 #[.int .i64 n, .int .i64 m] w fun e w' => e = .returned (.int .i64 (n % m)) ∧ w = w' := by
  rw [tmod_emod n m hm]
  have hz : (m == 0) = false := by simp; omega
  have hb : -m < n.tmod m ∧ n.tmod m < m := by
    have := Int.tmod_lt_of_pos n hm
    have := Int.lt_tmod_of_pos n hm
    omega
  have hw : IntKind.i64.wrap (n.tmod m) = n.tmod m := by rw [IntWalk.i64_in _ (by omega)]
  have HW := Lib.hid hw
  generalize hq : n.tmod m = q at hb ⊢
  have HQ := Lib.hid hq
  by_cases hneg : q < 0
  · rw [if_pos hneg]
    have hd : decide (q < 0) = true := by simpa using hneg
    go_enter Tryd.func15, Tryd.ntmps15
    go_wp2_with fail
    go_ret
    exact ⟨rfl, rfl⟩
  · rw [if_neg hneg]
    have hd : decide (q < 0) = false := by simpa using hneg
    go_enter Tryd.func15, Tryd.ntmps15
    go_wp2_with fail
    go_ret
    exact ⟨rfl, rfl⟩
theorem ne9 (s : ByteArray) (w : World) : (binOp .neq 9 (.string s) (.string s)).run Tryd.prog w = .ok (.bool false) w := by
  go_simp
set_option maxHeartbeats 8000000 in
theorem same_any (b b' o o' c c' : Nat) (x y : ByteArray) (w : World) (h0 : w.cell? ⟨b, o, none⟩ = some (.string x)) (h1 : w.cell? ⟨b, o + 1, none⟩ = some (.string y)) (g0 : w.cell? ⟨b', o', none⟩ = some (.string x)) (g1 : w.cell? ⟨b', o' + 1, none⟩ = some (.string y)) :
    Calls Tryd.prog 25 #[.slice (some ⟨b, o, none⟩) 2 c, .slice (some ⟨b', o', none⟩) 2 c'] w fun e w' => e = .returned (.bool true) ∧ Below w.heap.size w w' := by
  have hn := ne9
  go_enter Tryd.func25, Tryd.ntmps25
  go_wp2_with fail
  refine wp_loop_rounds 3 ?_
  rw [rounds_succ]
  go_wp2_with fail
  go_quiet (fail)
  go_wp2_with fail
  rw [rounds_succ]
  go_wp2_with fail
  go_quiet (fail)
  go_wp2_with fail
  rw [rounds_succ]
  go_wp2_with fail
  go_ret
  exact ⟨rfl, below_drewN (Below.refl _ _) _⟩
theorem same_two (w : World) (v v' : Value) (a b : List UInt8) (B B' : Nat) (h : Two B w v a b) (h' : Two B' w v' a b) :
    Calls Tryd.prog 25 #[v, v'] w fun e w' => e = .returned (.bool true) ∧ Below w.heap.size w w' := by
  obtain ⟨g, rfl, _, k⟩ := h
  obtain ⟨g', rfl, _, k'⟩ := h'
  exact same_any g g' 0 0 2 2 _ _ w (k.cell 0) (k.cell 1) (k'.cell 0) (k'.cell 1)
end Go.Proofs.YtmoihgniglomiaaDoor
