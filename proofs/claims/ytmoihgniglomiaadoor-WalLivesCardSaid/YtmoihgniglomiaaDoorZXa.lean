/- A log of one's own: what stays known of it, call by call; one that is laid on an empty disk. Condition: the program's table. -/
import Derived.Test.YtmoihgniglomiaaDoorZWy
import Derived.Test.YtmoihgniglomiaaDoorZX
import Derived.Laws.OwnMore
import Derived.Laws.MakeOwn
set_option linter.unusedVariables false
set_option linter.unusedSimpArgs false
set_option maxRecDepth 100000
namespace Go.Proofs.YtmoihgniglomiaaDoor
open Go.RowKit Go.Sort

/-- a disk of one's own -/
structure DO (B : Nat) (w0 w : World) (p : Fp) (S : St) : Prop where
  dk : Dk w p S
  bw : Below B w0 w
  op : ∀ k ∈ p.own, B ≤ k
  tb : Tb w
theorem DO.zo {B : Nat} {w0 w : World} {p : Fp} {S : St} (h : DO B w0 w p S) (hB : 0 < B) : 0 ∉ p.own := fun hx => by have := h.op 0 hx; omega
theorem DO.down {B : Nat} {w0 w w' : World} {p : Fp} {S : St} (h : DO B w0 w p S) (hB : B ≤ w0.heap.size) (hb : Below w.heap.size w w') : DO B w0 w' p S :=
  ⟨h.dk.below hb, h.bw.trans (hb.mono (Nat.le_trans hB h.bw.size)), h.op, h.tb.below hb⟩
theorem DO.mut {B : Nat} {w0 w w' : World} {p p' : Fp} {S S' : St} (h : DO B w0 w p S) (hB : B ≤ w0.heap.size) (hB0 : 0 < B) (m : Mut w p w' p' S') : DO B w0 w' p' S' :=
  ⟨m.1, h.bw.trans (m.2.2.1.below (Nat.le_trans hB h.bw.size) h.op), fun k hk => (m.2.2.2 k hk).elim (h.op k) (fun h1 => Nat.le_trans (Nat.le_trans hB h.bw.size) h1), m.tb h.tb (h.zo hB0)⟩
/-- a log of one's own -/
structure LO (B : Nat) (w0 w : World) (b : Nat) (p : Fp) (S : St) (l : Wlg) : Prop where
  lk : Lk w b p S l
  bw : Below B w0 w
  ob : B ≤ b
  op : ∀ k ∈ p.own, B ≤ k
  tb : Tb w
theorem LO.dsk {B : Nat} {w0 w : World} {b : Nat} {p : Fp} {S : St} {l : Wlg} (h : LO B w0 w b p S l) : DO B w0 w p S := ⟨h.lk.dk, h.bw, h.op, h.tb⟩
theorem LO.down {B : Nat} {w0 w w' : World} {b : Nat} {p : Fp} {S : St} {l : Wlg} (h : LO B w0 w b p S l) (hB : B ≤ w0.heap.size) (hb : Below w.heap.size w w') : LO B w0 w' b p S l :=
  ⟨h.lk.below hb, h.bw.trans (hb.mono (Nat.le_trans hB h.bw.size)), h.ob, h.op, h.tb.below hb⟩
theorem LO.lm {B : Nat} {w0 w w' : World} {b : Nat} {p p' : Fp} {S S' : St} {l l' : Wlg} (h : LO B w0 w b p S l) (hB : B ≤ w0.heap.size) (m : LM w b p w' p' S' l') : LO B w0 w' b p' S' l' :=
  ⟨m.1, h.bw.trans (m.2.2.1.below (Nat.le_trans hB h.bw.size) (fun k hk => by
    rcases List.mem_cons.1 hk with rfl | hk
    · exact h.ob
    · exact h.op k hk)), h.ob, fun k hk => (m.2.2.2 k hk).elim (h.op k) (fun h1 => Nat.le_trans (Nat.le_trans hB h.bw.size) h1), m.tb h.tb h.lk.zb h.lk.zo⟩
theorem LM.pb {w w1 : World} {b : Nat} {p p1 : Fp} {S : St} {l : Wlg} (h : LM w b p w1 p1 S l) : p1.v = p.v := by unfold Fp.v; rw [h.2.1]

def e0 : St := St.new [] []
def e1 : St := (lnew e0).2
theorem e1_ok : (lnew e0).1 = 0 := by kernel_rfl
def g1 : Wlg := ⟨0, 1, 0, false⟩
set_option maxHeartbeats 8000000 in
theorem laid_any (w : World) (hT : Tb w) : Calls Tryd.prog 31 #[] w fun e w' => ∃ (p : Fp) (b : Nat), e = .returned (.tuple #[.pointer (some ⟨p.b, 0, none⟩), .pointer (some ⟨b, 0, none⟩)]) ∧ LO w.heap.size w w' b p e1 g1 := by
  have HN := Lib.hid (new_ok w.heap.size 0 2 ⟨#[]⟩ ⟨#[]⟩ (w.alloc (.cells #[.string ⟨#[]⟩, .string ⟨#[]⟩] 9)) (by rw [World.size_alloc]; omega) ((Bk.new (t := 9) rfl).cell 0) ((Bk.new (t := 9) rfl).cell 1) (by decide) (by decide))
  have HT := Lib.hid hT
  clear hT
  go_enter Tryd.func31, Tryd.ntmps31
  go_wp2_with fail
  refine HN.out.mono ?_
  rintro e w1 ⟨p, rfl, hd, hb, hk⟩
  have hB1 : Below w.heap.size w w1 := (show Below w.heap.size w (w.alloc (.cells #[.string ⟨#[]⟩, .string ⟨#[]⟩] 9)) by go_grown).trans (hb.mono (by rw [World.size_alloc]; omega))
  have hk1 : ∀ k ∈ p.own, w.heap.size ≤ k := fun k h => by have := hk k h; rw [World.size_alloc] at this; omega
  have D1 : Hid (DO w.heap.size w w1 p e0) := Lib.hid ⟨hd, hB1, hk1, HT.out.below hB1⟩
  have HO : Hid (0 < w.heap.size) := Lib.hid HT.out.1
  clear hd hb hk hB1 hk1 HN
  unfold Fp.v
  go_wp2_with fail
  refine (wnew_any D1.out.dk D1.out.tb (D1.out.zo HO.out)).mono ?_
  rintro e w2 ⟨v, p2, rfl, hm, hok, -⟩
  obtain ⟨b, rfl, hbb, hl⟩ := hok e1_ok
  have hz : 0 ∉ p2.own := hm.zero (D1.out.zo HO.out) D1.out.tb.1
  have hD2 := D1.out.mut (Nat.le_refl _) HO.out hm
  have L2 : Hid (LO w.heap.size w w2 b p2 e1 g1) := Lib.hid ⟨hl, hD2.bw, Nat.le_trans D1.out.bw.size hbb, hD2.op, hD2.tb⟩
  have hpb : p2.b = p.b := hm.2.1
  rw [e1_ok]
  clear hm hok hl hD2 hz D1
  go_wp2_with fail
  go_returns
  exact ⟨p2, b, by rw [hpb]; rfl, L2.out⟩
end Go.Proofs.YtmoihgniglomiaaDoor
/- The calls whose answers the document fixes: they are answered so. Condition: the program's table. -/
set_option linter.unusedVariables false
set_option linter.unusedSimpArgs false
set_option maxRecDepth 100000
namespace Go.Proofs.YtmoihgniglomiaaDoor
open Go.RowKit Go.Sort

/-- as many bytes 0 -/
def zer (n : Nat) : Bs := List.replicate n 0
def Mz (n : Nat) : Array Value := madeCells #[.int .u8 0] n
theorem info5b : (Tryd.prog.info? 5).map (fun i => (i.zero, i.size, i.bytes)) = some (some (.int .u8 0), 1, 1) := by kernel_rfl
theorem make_zer (n : Nat) (hn : n ≤ 140737488355328) (W : World) : (Instr.makeSlice 80 (.int .i64 (n : Int)) (.int .i64 (n : Int))).run Tryd.prog W = .ok (.slice (some ⟨W.heap.size, 0, none⟩) n n) (W.alloc (.cells (Mz n) 5)) := by
  obtain ⟨i0, hi, hz0, hz1, hz2⟩ := info_parts info5b
  have h := run_make (P := Tryd.prog) W 80 5 i0 (.int .u8 0) (by kernel_rfl) hi hz0 .i64 .i64 (n : Int) (n : Int) (by omega) (by omega) (by rw [hz2]; omega) (by omega)
  rw [hz1] at h
  simpa [Mz, Value.cells] using h
theorem conv_zer (n : Nat) (W : World) : (convert 80 9 (.slice (some ⟨W.heap.size, 0, none⟩) n n)).run Tryd.prog (W.alloc (.cells (Mz n) 5)) = .ok (.string ⟨(zer n).toArray⟩) (W.alloc (.cells (Mz n) 5)) := by
  have hM : Mz n = ((zer n).map (fun c => Value.int .u8 (c.toNat : Int))).toArray := by
    apply Array.ext'
    simp [Mz, toList_madeCells_one, zer]
  have := conv_row (w := W.alloc (.cells (Mz n) 5)) (b := W.heap.size) (l := zer n) (c := n) (T := 5) (z := (0, 0)) (by rw [← hM]; exact Go.heap_alloc_new W _)
  rwa [show (zer n).length = n from by simp [zer]] at this
theorem zer_len (n : Nat) : (zer n).length = n := by simp [zer]
/-- a row of one text -/
theorem orow_one {w : World} {rv : Value} {s : Bs} (h : w.ownsRow 0 9 1 rv 1 (scells [s])) : ∃ g c, rv = .slice (some ⟨g, 0, none⟩) 1 c ∧ w.cell? ⟨g, 0, none⟩ = some (.string ⟨s.toArray⟩) := by
  obtain ⟨hl, ⟨rfl, hn⟩ | ⟨g, cap, cur, rfl, rest⟩⟩ := h
  · cases hn
  · exact ⟨g, cap, rfl, World.ownsRow.cells ⟨hl, .inr ⟨g, cap, cur, rfl, rest⟩⟩ (g := g) rfl 0 _ rfl⟩
theorem orow_nil {w : World} {rv : Value} (h : w.ownsRow 0 9 1 rv 0 (scells [])) : ∃ a c, rv = .slice a 0 c := by
  obtain ⟨hl, ⟨rfl, hn⟩ | ⟨g, cap, cur, rfl, rest⟩⟩ := h
  · exact ⟨_, _, rfl⟩
  · exact ⟨_, _, rfl⟩
def e2 : St := (lap e1 g1 [97]).2.1
def g2 : Wlg := (lap e1 g1 [97]).2.2
def e3 : St := (lsync e2 g2).2.1
def g3 : Wlg := (lsync e2 g2).2.2
def e4 : St := (lopen e3).2.2
def g4 : Wlg := (lopen e3).2.1.1
def e5 : St := (lopen e4).2.2
def g5 : Wlg := (lopen e4).2.1.1
def e6 : St := (lchk e5 g5 [115]).2.1
def g6 : Wlg := (lchk e5 g5 [115]).2.2
theorem x1 : lap e1 g1 [97] = (0, e2, g2) := Prod.ext (by kernel_rfl) rfl
theorem x1n : g2.n = 1 := by kernel_rfl
theorem x2 : room e2 g2 = 65536 := by kernel_rfl
theorem x3 : lsync e2 g2 = (0, e3, g3) := Prod.ext (by kernel_rfl) rfl
theorem x4 : Crc.sum [49, 50, 51, 52, 53, 54, 55, 56, 57] = 3421780262 := by kernel_rfl
theorem x5 : lopen e3 = (0, (g4, [], [[97]]), e4) := Prod.ext (by kernel_rfl) (Prod.ext (Prod.ext rfl (by kernel_rfl)) rfl)
theorem x5c : Clean e3 := of_decide_eq_true (p := (recsOf (newest e3).2.2.2).2.length > 0 → (e3.file (newest e3).1).length ≤ e3.safe (newest e3).1) (by kernel_rfl) |> fun a => ⟨a, of_decide_eq_true (p := (e3.file (1 - (newest e3).1)).length > 0 → (e3.file (1 - (newest e3).1)).length ≤ e3.safe (1 - (newest e3).1)) (by kernel_rfl)⟩
theorem x6 : e4.size 0 = 29 := by kernel_rfl
theorem x7 : lopen e4 = (0, (g5, [], [[97]]), e5) := Prod.ext (by kernel_rfl) (Prod.ext (Prod.ext rfl (by kernel_rfl)) rfl)
theorem x7c : Clean e4 := of_decide_eq_true (p := (recsOf (newest e4).2.2.2).2.length > 0 → (e4.file (newest e4).1).length ≤ e4.safe (newest e4).1) (by kernel_rfl) |> fun a => ⟨a, of_decide_eq_true (p := (e4.file (1 - (newest e4).1)).length > 0 → (e4.file (1 - (newest e4).1)).length ≤ e4.safe (1 - (newest e4).1)) (by kernel_rfl)⟩
theorem x8 : lchk e5 g5 [115] = (0, e6, g6) := Prod.ext (by kernel_rfl) rfl
theorem x8o : e5.file (1 - g5.file) = [] := by kernel_rfl
theorem x9 : e6.size 0 = 0 := by kernel_rfl
theorem x10 : e6.size 1 = 21 := by kernel_rfl
theorem x11 (r : Bs) (h : r.length > 65536) : lap e6 g6 r = (101, e6, g6) := by
  unfold lap
  rw [if_neg (show ¬ (g6.dead = true ∨ e6.gone = true) from of_decide_eq_true (by kernel_rfl)), if_pos h]
theorem x12 : (lopen e6).1 = 0 ∧ (lopen e6).2.1.2.1 = [115] ∧ (lopen e6).2.1.2.2 = [] := ⟨by kernel_rfl, by kernel_rfl, by kernel_rfl⟩
theorem x12c : Clean e6 := of_decide_eq_true (p := (recsOf (newest e6).2.2.2).2.length > 0 → (e6.file (newest e6).1).length ≤ e6.safe (newest e6).1) (by kernel_rfl) |> fun a => ⟨a, of_decide_eq_true (p := (e6.file (1 - (newest e6).1)).length > 0 → (e6.file (1 - (newest e6).1)).length ≤ e6.safe (1 - (newest e6).1)) (by kernel_rfl)⟩
theorem x13 : g6.dead = false := by kernel_rfl
set_option maxHeartbeats 16000000 in
theorem fixed_any (w : World) (hT : Tb w) : Calls Tryd.prog 10 #[] w fun e w' => e = .returned (.bool true) ∧ Below w.heap.size w w' := by
  have HT := Lib.hid hT
  have HZ : Hid (0 < w.heap.size) := Lib.hid hT.1
  have HL := Lib.hid (laid_any w hT)
  have hmk : ∀ W : World, (Instr.makeSlice 80 (.int .i64 65537) (.int .i64 65537)).run Tryd.prog W = .ok (.slice (some ⟨W.heap.size, 0, none⟩) 65537 65537) (W.alloc (.cells (Mz 65537) 5)) := fun W => make_zer 65537 (by decide) W
  have hcv : ∀ W : World, (convert 80 9 (.slice (some ⟨W.heap.size, 0, none⟩) 65537 65537)).run Tryd.prog (W.alloc (.cells (Mz 65537) 5)) = .ok (.string ⟨(zer 65537).toArray⟩) (W.alloc (.cells (Mz 65537) 5)) := conv_zer 65537
  generalize Mz 65537 = M0 at hmk hcv
  clear hT
  go_enter Tryd.func10, Tryd.ntmps10
  go_wp2_with fail
  refine HL.out.mono ?_
  rintro e wa ⟨p, b, rfl, hlo⟩
  have L1 := Lib.hid hlo
  clear hlo HL
  go_wp2_with fail
  have hc := lappend_any L1.out.lk L1.out.tb (by decide) [97]
  rw [x1] at hc
  refine hc.mono ?_
  rintro e wb ⟨rfl, p2, hm⟩
  have L2 := Lib.hid (L1.out.lm (Nat.le_refl _) hm)
  have HP2 : Hid (p2.b = p.b) := Lib.hid hm.2.1
  clear hm hc L1
  go_wp2_with fail
  refine (records35 b _ _ _ _ _ wb (Lib.hid L2.out.lk.blk)).mono ?_
  rintro e wc ⟨rfl, rfl⟩
  rw [x1n]
  go_wp2_with fail
  have hc := room_any L2.out.lk
  rw [x2] at hc
  refine hc.mono ?_
  rintro e wc ⟨rfl, hb⟩
  replace L2 := Lib.hid (L2.out.down (Nat.le_refl _) hb)
  clear hb hc
  go_wp2_with fail
  have hc := lsync_any L2.out.lk L2.out.tb
  rw [x3] at hc
  refine hc.mono ?_
  rintro e wd ⟨rfl, p3, hm⟩
  have L3 := Lib.hid (L2.out.lm (Nat.le_refl _) hm)
  have HP3 : Hid (p3.b = p.b) := Lib.hid (hm.2.1.trans HP2.out)
  clear hm hc L2 HP2
  go_wp2_with fail
  have hc := sum_any [49, 50, 51, 52, 53, 54, 55, 56, 57] (by decide) wd L3.out.tb
  rw [x4] at hc
  refine hc.mono ?_
  rintro e we ⟨rfl, rfl⟩
  clear hc
  go_wp2_with fail
  have hc := wopen_any L3.out.lk.dk L3.out.tb L3.out.lk.zo x5c
  rw [x5] at hc
  rw [show (Value.pointer (some ⟨p.b, 0, none⟩)) = p3.v by unfold Fp.v; rw [HP3.out]]
  refine hc.mono ?_
  rintro e we ⟨lv, rv, p4, rfl, hm, hrow, -, hok, -⟩
  obtain ⟨b4, rfl, -, -, -⟩ := hok rfl
  obtain ⟨gr, cr, rfl, hcell⟩ := orow_one hrow
  have HP4 : Hid (p4.b = p.b) := Lib.hid (hm.2.1.trans HP3.out)
  have D4 := Lib.hid (L3.out.dsk.mut (Nat.le_refl _) HZ.out hm)
  clear hm hc L3 hrow hok
  rw [show p3.v = Value.pointer (some ⟨p.b, 0, none⟩) by unfold Fp.v; rw [HP3.out]]
  clear HP3
  go_wp2_with fail
  have hc := size_any p4 e4 0 we D4.out.dk
  rw [x6] at hc
  rw [show (Value.pointer (some ⟨p.b, 0, none⟩)) = p4.v by unfold Fp.v; rw [HP4.out]]
  refine hc.mono ?_
  rintro e wf ⟨rfl, rfl⟩
  clear hc hcell
  go_wp2_with fail
  have hc := wopen_any D4.out.dk D4.out.tb (D4.out.zo HZ.out) x7c
  rw [x7] at hc
  refine hc.mono ?_
  rintro e wf ⟨lv, rv, p5, rfl, hm, -, -, hok, -⟩
  obtain ⟨b5, rfl, hb5, hlk5, -⟩ := hok rfl
  have D5 := D4.out.mut (Nat.le_refl _) HZ.out hm
  have L5 : Hid (LO w.heap.size w wf b5 p5 e5 g5) := Lib.hid ⟨hlk5, D5.bw, Nat.le_trans D4.out.bw.size hb5, D5.op, D5.tb⟩
  have HP5 : Hid (p5.b = p4.b) := Lib.hid hm.2.1
  clear hm hc D4 D5 hok hlk5 hb5
  go_wp2_with fail
  have hc := lchk_any L5.out.lk L5.out.tb x8o [115]
  rw [x8] at hc
  refine hc.mono ?_
  rintro e wg ⟨rfl, p6, hm⟩
  have L6 := Lib.hid (L5.out.lm (Nat.le_refl _) hm)
  have HP6 : Hid (p6.b = p4.b) := Lib.hid (hm.2.1.trans HP5.out)
  clear hm hc L5 HP5
  have hvv : p4.v = p6.v := by unfold Fp.v; rw [HP6.out]
  rw [hvv]
  clear hvv HP6 HP4
  go_wp2_with fail
  have hc := size_any p6 e6 0 wg L6.out.lk.dk
  rw [x9] at hc
  refine hc.mono ?_
  rintro e wh ⟨rfl, rfl⟩
  clear hc
  go_wp2_with fail
  have hc := size_any p6 e6 1 wg L6.out.lk.dk
  rw [x10] at hc
  refine hc.mono ?_
  rintro e wh ⟨rfl, rfl⟩
  clear hc
  go_wp2_with fail
  replace L6 := Lib.hid (L6.out.down (Nat.le_refl _) (show Below wg.heap.size wg (wg.alloc (.cells M0 5)) by go_grown))
  clear hmk hcv
  generalize wg.alloc (.cells M0 5) = wh at *
  have hc := lappend_any L6.out.lk L6.out.tb (by decide) (zer 65537)
  rw [x11 _ (by rw [zer_len]; decide)] at hc
  refine hc.mono ?_
  rintro e wi ⟨rfl, p7, hm⟩
  have L7 := Lib.hid (L6.out.lm (Nat.le_refl _) hm)
  have hvv : p6.v = p7.v := by unfold Fp.v; rw [hm.2.1]
  rw [hvv]
  clear hvv hm hc L6
  go_wp2_with fail
  refine (wopen_any L7.out.lk.dk L7.out.tb L7.out.lk.zo x12c).mono ?_
  rintro e wj ⟨lv, rv, p8, rfl, hm, hrow, -, -, -⟩
  obtain ⟨h1, h2, h3⟩ := x12
  rw [h3] at hrow
  rw [h1, h2]
  clear h1 h2 h3
  obtain ⟨ar, cr, rfl⟩ := orow_nil hrow
  have hblk : Bk 96 wj b5 #[p7.v, .int .i64 (g6.file : Int), .int .i64 (g6.gen : Int), .int .i64 (g6.n : Int), .bool g6.dead] := L7.out.lk.blk.only hm.2.2.1 L7.out.lk.ne
  have HK := Lib.hid hblk
  have D8 := Lib.hid (L7.out.dsk.mut (Nat.le_refl _) HZ.out hm)
  clear hblk hm hrow L7
  go_wp2_with fail
  refine (dead42 b5 _ _ _ _ _ wj HK).mono ?_
  rintro e wk ⟨rfl, rfl⟩
  rw [x13]
  go_wp2_with fail
  go_ret
  exact ⟨rfl, D8.out.bw⟩
end Go.Proofs.YtmoihgniglomiaaDoor
