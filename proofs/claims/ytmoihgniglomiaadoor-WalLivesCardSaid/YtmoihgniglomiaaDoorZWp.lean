/- What a log's Append leaves. Condition: the log's own, the program's table. -/
import Derived.Test.YtmoihgniglomiaaDoorZWn
set_option linter.unusedVariables false
set_option linter.unusedSimpArgs false
set_option maxRecDepth 100000
namespace Go.Proofs.YtmoihgniglomiaaDoor
open Go.RowKit Go.Sort

theorem count_code (S : St) : (S.count).1 = 0 ∨ (S.count).1 = 2 := by
  unfold St.count; split
  · exact .inl rfl
  · split
    · exact .inl rfl
    · exact .inr rfl
theorem append_code (S : St) (f : Nat) (s : Bs) (hf : f < 2) (hs : (S.file f).length + s.length ≤ 1048576) : (S.append f s).1 = 0 ∨ (S.append f s).1 = 2 := by
  unfold St.append
  split
  · exact .inr rfl
  · rw [if_neg (by unfold St.there; simp; omega), if_neg (by simp; omega)]
    exact count_code _
theorem sync_code (S : St) : (S.sync).1 = 0 ∨ (S.sync).1 = 2 := by
  unfold St.sync
  split
  · exact .inr rfl
  · split
    · exact .inl rfl
    · exact count_code _
theorem cut_code (S : St) (f n : Nat) (hf : f < 2) (hn : n ≤ (S.file f).length) (hs : (S.file f).length ≤ S.safe f) : (S.cut f n).1 = 0 ∨ (S.cut f n).1 = 2 := by
  unfold St.cut
  split
  · exact .inr rfl
  · rw [if_neg (by unfold St.there; simp; omega), if_neg (by simp; omega)]
    split
    · exact .inl rfl
    · exact count_code _
/-- what a call on a log leaves -/
def LM (w : World) (b : Nat) (p : Fp) (w' : World) (p' : Fp) (S' : St) (l' : Wlg) : Prop := Lk w' b p' S' l' ∧ p'.b = p.b ∧ Only (b :: p.own) w w' ∧ ∀ k ∈ p'.own, k ∈ p.own ∨ w.heap.size ≤ k
theorem LM.refl {w w' : World} {b : Nat} {p : Fp} {S : St} {l : Wlg} (h : Lk w b p S l) (hb : Below w.heap.size w w') : LM w b p w' p S l := ⟨h.below hb, rfl, Only.of hb, fun k hk => .inl hk⟩
theorem LM.then_below {w w1 w2 : World} {b : Nat} {p p1 : Fp} {S : St} {l : Wlg} (h : LM w b p w1 p1 S l) (hb : Below w1.heap.size w1 w2) : LM w b p w2 p1 S l :=
  ⟨h.1.below hb, h.2.1, h.2.2.1.trans (Only.of (L := []) hb) (fun x hx => by simp at hx), h.2.2.2⟩
/-- a store into what the call itself has laid -/
theorem LM.own_set {w w1 : World} {b : Nat} {p p1 : Fp} {S : St} {l : Wlg} (h : LM w b p w1 p1 S l) (a : Addr) (ha : w.heap.size ≤ a.block) (hb : b ≠ a.block) (hp : a.block ∉ p1.own) (v : Value) : LM w b p (w1.setCell a v) p1 S l :=
  ⟨⟨h.1.blk.oth hb, h.1.dk.set hp a rfl v, h.1.ne, h.1.zb, h.1.zo, h.1.ff, h.1.gg⟩, h.2.1, h.2.2.1.setCell a (.inr ha) v, h.2.2.2⟩
theorem LM.drew {w w1 : World} {b : Nat} {p p1 : Fp} {S : St} {l : Wlg} (h : LM w b p w1 p1 S l) : LM w b p w1.drew p1 S l :=
  h.then_below ⟨rfl, rfl, rfl, Nat.le_refl _, fun _ _ => rfl⟩
/-- the log's own cells are turned -/
theorem LM.die {w w1 : World} {b : Nat} {p p1 : Fp} {S : St} {l : Wlg} (h : LM w b p w1 p1 S l) (d : Bool) : LM w b p (w1.setCell ⟨b, 4, none⟩ (.bool d)) p1 S { l with dead := d } :=
  ⟨h.1.die d, h.2.1, h.2.2.1.setCell _ (.inl (by simp)) _, h.2.2.2⟩
theorem Lk.num {w : World} {b : Nat} {p : Fp} {S : St} {l : Wlg} (h : Lk w b p S l) (n : Nat) : Lk (w.setCell ⟨b, 3, none⟩ (.int .i64 (n : Int))) b p S { l with n := n } := by
  refine ⟨?_, h.dk.set h.ne _ rfl _, h.ne, h.zb, h.zo, h.ff, h.gg⟩
  have := Bk.same (i := 3) (v := .int .i64 (n : Int)) h.blk
  simpa using this
theorem LM.num {w w1 : World} {b : Nat} {p p1 : Fp} {S : St} {l : Wlg} (h : LM w b p w1 p1 S l) (n : Nat) : LM w b p (w1.setCell ⟨b, 3, none⟩ (.int .i64 (n : Int))) p1 S { l with n := n } :=
  ⟨h.1.num n, h.2.1, h.2.2.1.setCell _ (.inl (by simp)) _, h.2.2.2⟩
/-- a change of the disk -/
theorem LM.mut {w w1 w2 : World} {b : Nat} {p p1 p2 : Fp} {S S2 : St} {l : Wlg} (h : LM w b p w1 p1 S l) (hz : 0 < w.heap.size) (m : Mut w1 p1 w2 p2 S2) (hb : b < w1.heap.size) : LM w b p w2 p2 S2 l := by
  have hv : p2.v = p1.v := m.v
  have hn : b ∉ p2.own := fun hx => (m.2.2.2 b hx).elim h.1.ne (by omega)
  refine ⟨⟨?_, m.1, hn, h.1.zb, m.zero h.1.zo (Nat.lt_of_lt_of_le hz h.2.2.1.size), h.1.ff, h.1.gg⟩, m.2.1.trans h.2.1, h.2.2.1.trans m.2.2.1 (fun x hx => ?_), fun k hk => ?_⟩
  · rw [hv]; exact h.1.blk.only m.2.2.1 h.1.ne
  · rcases h.2.2.2 x hx with h1 | h1
    · exact .inl (by simp [h1])
    · exact .inr h1
  · rcases m.2.2.2 k hk with h1 | h1
    · exact h.2.2.2 k h1
    · exact .inr (Nat.le_trans h.2.2.1.size h1)
theorem LM.tb {w w1 : World} {b : Nat} {p p1 : Fp} {S : St} {l : Wlg} (h : LM w b p w1 p1 S l) (hT : Tb w) (hb : b ≠ 0) (hz : 0 ∉ p.own) : Tb w1 := hT.only h.2.2.1 (by simp [Ne.symm hb, hz])
end Go.Proofs.YtmoihgniglomiaaDoor
/- What a log's Append answers and leaves. Condition: the log's own, the program's table. -/
set_option linter.unusedVariables false
set_option linter.unusedSimpArgs false
set_option maxRecDepth 100000
namespace Go.Proofs.YtmoihgniglomiaaDoor
open Go.RowKit Go.Sort

set_option maxHeartbeats 16000000 in
theorem lap_gone {w : World} {b : Nat} {p : Fp} {S : St} {l : Wlg} (h : Lk w b p S l) (hT : Tb w) (r : Bs) (hg : (l.dead || S.gone) = true) :
    Calls Tryd.prog 38 #[.pointer (some ⟨b, 0, none⟩), .string ⟨r.toArray⟩] w fun e w' => e = .returned (.int .i64 2) ∧ ∃ p', LM w b p w' p' S l.sink := by
  have hbl := h.blk.lt
  have HZ := Lib.hid hT.1
  have HBL := Lib.hid hbl
  have M0 : Hid (LM w b p ((w.alloc (.cells #[.pointer (some ⟨b, 0, none⟩)] 35)).alloc (.cells #[.int .i64 0] 28)) p S l) := Lib.hid (LM.refl h (by go_grown))
  have K0 : Hid (Bk 35 ((w.alloc (.cells #[.pointer (some ⟨b, 0, none⟩)] 35)).alloc (.cells #[.int .i64 0] 28)) w.heap.size #[.pointer (some ⟨b, 0, none⟩)]) := Lib.hid (Bk.alloc (Bk.new rfl))
  have K1 : Hid (Bk 28 ((w.alloc (.cells #[.pointer (some ⟨b, 0, none⟩)] 35)).alloc (.cells #[.int .i64 0] 28)) (w.heap.size + 1) #[.int .i64 0]) := Lib.hid (Bk.new (by simp))
  have HSZ : Hid (((w.alloc (.cells #[.pointer (some ⟨b, 0, none⟩)] 35)).alloc (.cells #[.int .i64 0] 28)).heap.size = w.heap.size + 2) := Lib.hid (by simp)
  have NO : Hid (w.heap.size ∉ p.own ∧ w.heap.size + 1 ∉ p.own) := Lib.hid ⟨fun hx => by have := h.dk.lt _ hx; omega, fun hx => by have := h.dk.lt _ hx; omega⟩
  have HTB := Lib.hid hT
  have HLK := Lib.hid h
  have hlen : (⟨r.toArray⟩ : ByteArray).size = r.length := size_ba r
  have HG := Lib.hid (gone_any M0.out.1)
  rw [hg] at HG
  have c0 := K0.out.cell 0
  simp only [List.getElem?_toArray, List.getElem?_cons_succ, List.getElem?_cons_zero] at c0
  clear hg h hT hbl
  go_enter_defers Tryd.func38, Tryd.ntmps38
  go_wp2_with fail
  clear c0
  generalize ((w.alloc (.cells #[.pointer (some ⟨b, 0, none⟩)] 35)).alloc (.cells #[.int .i64 0] 28)) = wa at M0 K0 K1 HSZ HG ⊢
  refine HG.out.mono ?_
  rintro e w1 ⟨rfl, hw1⟩
  have M1 : Hid (LM w b p w1 p S { l with dead := true }) := Lib.hid (by rw [hw1]; exact M0.out.die true)
  have k0 : Bk 35 w1 w.heap.size #[.pointer (some ⟨b, 0, none⟩)] := by rw [hw1]; exact K0.out.oth (by have := HBL.out; simp; omega)
  have k1 : Bk 28 w1 (w.heap.size + 1) #[.int .i64 0] := by rw [hw1]; exact K1.out.oth (by have := HBL.out; simp; omega)
  have hsz : w1.heap.size = w.heap.size + 2 := by rw [hw1]; simpa using HSZ.out
  replace K0 := Lib.hid k0
  replace K1 := Lib.hid k1
  replace HSZ := Lib.hid hsz
  clear hw1 k0 k1 hsz HG M0
  have c0 := K0.out.cell 0
  have c1 := K1.out.cell 0
  have f1 := K1.out.fro 0
  simp only [List.getElem?_toArray, List.getElem?_cons_succ, List.getElem?_cons_zero] at c0 c1
  go_wp2_with fail
  refine ⟨.int .i64 2, by simp [results, Tryd.results38, go_sem, c1], rfl, p, ?_⟩
  exact M1.out.own_set ⟨w.heap.size + 1, 0, none⟩ (by simp) (by have := HBL.out; simp; omega) NO.out.2 _
set_option maxHeartbeats 16000000 in
theorem lap_long {w : World} {b : Nat} {p : Fp} {S : St} {l : Wlg} (h : Lk w b p S l) (hT : Tb w) (r : Bs) (hg : (l.dead || S.gone) = false) (hl : r.length > 65536) :
    Calls Tryd.prog 38 #[.pointer (some ⟨b, 0, none⟩), .string ⟨r.toArray⟩] w fun e w' => e = .returned (.int .i64 101) ∧ ∃ p', LM w b p w' p' S l := by
  have hbl := h.blk.lt
  have HZ := Lib.hid hT.1
  have HBL := Lib.hid hbl
  have M0 : Hid (LM w b p ((w.alloc (.cells #[.pointer (some ⟨b, 0, none⟩)] 35)).alloc (.cells #[.int .i64 0] 28)) p S l) := Lib.hid (LM.refl h (by go_grown))
  have K0 : Hid (Bk 35 ((w.alloc (.cells #[.pointer (some ⟨b, 0, none⟩)] 35)).alloc (.cells #[.int .i64 0] 28)) w.heap.size #[.pointer (some ⟨b, 0, none⟩)]) := Lib.hid (Bk.alloc (Bk.new rfl))
  have K1 : Hid (Bk 28 ((w.alloc (.cells #[.pointer (some ⟨b, 0, none⟩)] 35)).alloc (.cells #[.int .i64 0] 28)) (w.heap.size + 1) #[.int .i64 0]) := Lib.hid (Bk.new (by simp))
  have HSZ : Hid (((w.alloc (.cells #[.pointer (some ⟨b, 0, none⟩)] 35)).alloc (.cells #[.int .i64 0] 28)).heap.size = w.heap.size + 2) := Lib.hid (by simp)
  have NO : Hid (w.heap.size ∉ p.own ∧ w.heap.size + 1 ∉ p.own) := Lib.hid ⟨fun hx => by have := h.dk.lt _ hx; omega, fun hx => by have := h.dk.lt _ hx; omega⟩
  have HTB := Lib.hid hT
  have HLK := Lib.hid h
  have hlen : (⟨r.toArray⟩ : ByteArray).size = r.length := size_ba r
  have HG := Lib.hid (gone_any M0.out.1)
  rw [hg] at HG
  have c0 := K0.out.cell 0
  simp only [List.getElem?_toArray, List.getElem?_cons_succ, List.getElem?_cons_zero] at c0
  have hd1 : decide ((65536 : Int) < (r.length : Int)) = true := by simp; omega
  have hd1n : decide (65536 < r.length) = true := by simp; omega
  have hld : l = { l with dead := false } := by cases l; simp_all
  rw [hld]
  clear hg h hT hbl hl hld
  go_enter_defers Tryd.func38, Tryd.ntmps38
  go_wp2_with fail
  clear c0
  generalize ((w.alloc (.cells #[.pointer (some ⟨b, 0, none⟩)] 35)).alloc (.cells #[.int .i64 0] 28)) = wa at M0 K0 K1 HSZ HG ⊢
  refine HG.out.mono ?_
  rintro e w1 ⟨rfl, hw1⟩
  have M1 : Hid (LM w b p w1 p S { l with dead := false }) := Lib.hid (by rw [hw1]; exact M0.out.die false)
  have k0 : Bk 35 w1 w.heap.size #[.pointer (some ⟨b, 0, none⟩)] := by rw [hw1]; exact K0.out.oth (by have := HBL.out; simp; omega)
  have k1 : Bk 28 w1 (w.heap.size + 1) #[.int .i64 0] := by rw [hw1]; exact K1.out.oth (by have := HBL.out; simp; omega)
  have hsz : w1.heap.size = w.heap.size + 2 := by rw [hw1]; simpa using HSZ.out
  replace K0 := Lib.hid k0
  replace K1 := Lib.hid k1
  replace HSZ := Lib.hid hsz
  clear hw1 k0 k1 hsz HG M0
  have c0 := K0.out.cell 0
  have c1 := K1.out.cell 0
  have f1 := K1.out.fro 0
  simp only [List.getElem?_toArray, List.getElem?_cons_succ, List.getElem?_cons_zero] at c0 c1
  go_wp2_with fail
  refine ⟨.int .i64 101, by simp [results, Tryd.results38, go_sem, c1], rfl, p, ?_⟩
  exact M1.out.own_set ⟨w.heap.size + 1, 0, none⟩ (by simp) (by have := HBL.out; simp; omega) NO.out.2 _
set_option maxHeartbeats 16000000 in
theorem lap_full {w : World} {b : Nat} {p : Fp} {S : St} {l : Wlg} (h : Lk w b p S l) (hT : Tb w) (r : Bs) (hg : (l.dead || S.gone) = false) (hl : ¬ r.length > 65536) (hf : (r.length : Int) > room S l) :
    Calls Tryd.prog 38 #[.pointer (some ⟨b, 0, none⟩), .string ⟨r.toArray⟩] w fun e w' => e = .returned (.int .i64 102) ∧ ∃ p', LM w b p w' p' S l := by
  have hbl := h.blk.lt
  have HZ := Lib.hid hT.1
  have HBL := Lib.hid hbl
  have M0 : Hid (LM w b p ((w.alloc (.cells #[.pointer (some ⟨b, 0, none⟩)] 35)).alloc (.cells #[.int .i64 0] 28)) p S l) := Lib.hid (LM.refl h (by go_grown))
  have K0 : Hid (Bk 35 ((w.alloc (.cells #[.pointer (some ⟨b, 0, none⟩)] 35)).alloc (.cells #[.int .i64 0] 28)) w.heap.size #[.pointer (some ⟨b, 0, none⟩)]) := Lib.hid (Bk.alloc (Bk.new rfl))
  have K1 : Hid (Bk 28 ((w.alloc (.cells #[.pointer (some ⟨b, 0, none⟩)] 35)).alloc (.cells #[.int .i64 0] 28)) (w.heap.size + 1) #[.int .i64 0]) := Lib.hid (Bk.new (by simp))
  have HSZ : Hid (((w.alloc (.cells #[.pointer (some ⟨b, 0, none⟩)] 35)).alloc (.cells #[.int .i64 0] 28)).heap.size = w.heap.size + 2) := Lib.hid (by simp)
  have NO : Hid (w.heap.size ∉ p.own ∧ w.heap.size + 1 ∉ p.own) := Lib.hid ⟨fun hx => by have := h.dk.lt _ hx; omega, fun hx => by have := h.dk.lt _ hx; omega⟩
  have HTB := Lib.hid hT
  have HLK := Lib.hid h
  have hlen : (⟨r.toArray⟩ : ByteArray).size = r.length := size_ba r
  have HG := Lib.hid (gone_any M0.out.1)
  rw [hg] at HG
  have c0 := K0.out.cell 0
  simp only [List.getElem?_toArray, List.getElem?_cons_succ, List.getElem?_cons_zero] at c0
  have hd1 : decide ((65536 : Int) < (r.length : Int)) = false := by simp; omega
  have hd1n : decide (65536 < r.length) = false := by simp; omega
  have hld : l = { l with dead := false } := by cases l; simp_all
  have hroom : room S { l with dead := false } = room S l := rfl
  have hd2 : decide (room S l < (r.length : Int)) = true := by simp; omega
  generalize hrm : room S l = rm at *
  rw [hld]
  clear hg h hT hbl hl hld hf hrm
  go_enter_defers Tryd.func38, Tryd.ntmps38
  go_wp2_with fail
  clear c0
  generalize ((w.alloc (.cells #[.pointer (some ⟨b, 0, none⟩)] 35)).alloc (.cells #[.int .i64 0] 28)) = wa at M0 K0 K1 HSZ HG ⊢
  refine HG.out.mono ?_
  rintro e w1 ⟨rfl, hw1⟩
  have M1 : Hid (LM w b p w1 p S { l with dead := false }) := Lib.hid (by rw [hw1]; exact M0.out.die false)
  have k0 : Bk 35 w1 w.heap.size #[.pointer (some ⟨b, 0, none⟩)] := by rw [hw1]; exact K0.out.oth (by have := HBL.out; simp; omega)
  have k1 : Bk 28 w1 (w.heap.size + 1) #[.int .i64 0] := by rw [hw1]; exact K1.out.oth (by have := HBL.out; simp; omega)
  have hsz : w1.heap.size = w.heap.size + 2 := by rw [hw1]; simpa using HSZ.out
  replace K0 := Lib.hid k0
  replace K1 := Lib.hid k1
  replace HSZ := Lib.hid hsz
  clear hw1 k0 k1 hsz HG M0
  have c0 := K0.out.cell 0
  have c1 := K1.out.cell 0
  have f1 := K1.out.fro 0
  simp only [List.getElem?_toArray, List.getElem?_cons_succ, List.getElem?_cons_zero] at c0 c1
  go_wp2_with fail
  refine (room_any M1.out.1).mono ?_
  rintro e w2 ⟨rfl, hb2⟩
  replace M1 := Lib.hid (M1.out.then_below hb2)
  replace K0 := Lib.hid (K0.out.below hb2)
  replace K1 := Lib.hid (K1.out.below hb2)
  replace HSZ : Hid (w.heap.size + 2 ≤ w2.heap.size) := Lib.hid (by have := hb2.size; have := HSZ.out; omega)
  clear hb2 c0 c1 f1
  rw [hroom]
  have c0 := K0.out.cell 0
  have c1 := K1.out.cell 0
  have f1 := K1.out.fro 0
  simp only [List.getElem?_toArray, List.getElem?_cons_succ, List.getElem?_cons_zero] at c0 c1
  go_wp2_with fail
  refine ⟨.int .i64 102, by simp [results, Tryd.results38, go_sem, c1], rfl, p, ?_⟩
  exact M1.out.own_set ⟨w.heap.size + 1, 0, none⟩ (by simp) (by have := HBL.out; simp; omega) NO.out.2 _
set_option maxHeartbeats 16000000 in
theorem lap_dies {w : World} {b : Nat} {p : Fp} {S : St} {l : Wlg} (h : Lk w b p S l) (hT : Tb w) (hn : l.n ≤ 4611686018427387904) (r : Bs) (hg : (l.dead || S.gone) = false) (hl : ¬ r.length > 65536) (hf : ¬ (r.length : Int) > room S l) (hc : (S.append l.file (frame r)).1 = 2) :
    Calls Tryd.prog 38 #[.pointer (some ⟨b, 0, none⟩), .string ⟨r.toArray⟩] w fun e w' => e = .returned (.int .i64 2) ∧ ∃ p', LM w b p w' p' (S.append l.file (frame r)).2 l.sink := by
  have hbl := h.blk.lt
  have HZ := Lib.hid hT.1
  have HBL := Lib.hid hbl
  have M0 : Hid (LM w b p ((w.alloc (.cells #[.pointer (some ⟨b, 0, none⟩)] 35)).alloc (.cells #[.int .i64 0] 28)) p S l) := Lib.hid (LM.refl h (by go_grown))
  have K0 : Hid (Bk 35 ((w.alloc (.cells #[.pointer (some ⟨b, 0, none⟩)] 35)).alloc (.cells #[.int .i64 0] 28)) w.heap.size #[.pointer (some ⟨b, 0, none⟩)]) := Lib.hid (Bk.alloc (Bk.new rfl))
  have K1 : Hid (Bk 28 ((w.alloc (.cells #[.pointer (some ⟨b, 0, none⟩)] 35)).alloc (.cells #[.int .i64 0] 28)) (w.heap.size + 1) #[.int .i64 0]) := Lib.hid (Bk.new (by simp))
  have HSZ : Hid (((w.alloc (.cells #[.pointer (some ⟨b, 0, none⟩)] 35)).alloc (.cells #[.int .i64 0] 28)).heap.size = w.heap.size + 2) := Lib.hid (by simp)
  have NO : Hid (w.heap.size ∉ p.own ∧ w.heap.size + 1 ∉ p.own) := Lib.hid ⟨fun hx => by have := h.dk.lt _ hx; omega, fun hx => by have := h.dk.lt _ hx; omega⟩
  have HTB := Lib.hid hT
  have HLK := Lib.hid h
  have hlen : (⟨r.toArray⟩ : ByteArray).size = r.length := size_ba r
  have HG := Lib.hid (gone_any M0.out.1)
  rw [hg] at HG
  have c0 := K0.out.cell 0
  simp only [List.getElem?_toArray, List.getElem?_cons_succ, List.getElem?_cons_zero] at c0
  have hd1 : decide ((65536 : Int) < (r.length : Int)) = false := by simp; omega
  have hd1n : decide (65536 < r.length) = false := by simp; omega
  have hdd : l.dead = false := by simp at hg; exact hg.1
  have hroom : room S { l with dead := false } = room S l := rfl
  have hd2 : decide (room S l < (r.length : Int)) = false := by simp; omega
  have HF := Lib.hid (frame_any r (by omega))
  have hfl := frame_len r
  have HA : Hid (∀ (w1 : World), Dk w1 p S → Calls Tryd.prog 75 #[p.v, .int .i64 (l.file : Int), .string ⟨(frame r).toArray⟩] w1 fun e w' => e = .returned (.int .i64 ((S.append l.file (frame r)).1 : Int)) ∧ ∃ p', Mut w1 p w' p' (S.append l.file (frame r)).2) := Lib.hid fun w1 hd => by
    have := append_any p S l.file ⟨(frame r).toArray⟩ (by rw [size_ba]; omega) w1 hd
    simpa only [List.toList_toArray] using this
  rw [hc] at HA
  generalize hrm : room S l = rm at *
  generalize frame r = fr at *
  generalize (S.append l.file fr).2 = S2 at *
  clear hg h hT hbl hl hf hrm hfl hc hn
  go_enter_defers Tryd.func38, Tryd.ntmps38
  go_wp2_with fail
  clear c0
  generalize ((w.alloc (.cells #[.pointer (some ⟨b, 0, none⟩)] 35)).alloc (.cells #[.int .i64 0] 28)) = wa at M0 K0 K1 HSZ HG ⊢
  refine HG.out.mono ?_
  rintro e w1 ⟨rfl, hw1⟩
  have M1 : Hid (LM w b p w1 p S { l with dead := false }) := Lib.hid (by rw [hw1]; exact M0.out.die false)
  have k0 : Bk 35 w1 w.heap.size #[.pointer (some ⟨b, 0, none⟩)] := by rw [hw1]; exact K0.out.oth (by have := HBL.out; simp; omega)
  have k1 : Bk 28 w1 (w.heap.size + 1) #[.int .i64 0] := by rw [hw1]; exact K1.out.oth (by have := HBL.out; simp; omega)
  have hsz : w1.heap.size = w.heap.size + 2 := by rw [hw1]; simpa using HSZ.out
  replace K0 := Lib.hid k0
  replace K1 := Lib.hid k1
  replace HSZ := Lib.hid hsz
  clear hw1 k0 k1 hsz HG M0
  have c0 := K0.out.cell 0
  have c1 := K1.out.cell 0
  have f1 := K1.out.fro 0
  simp only [List.getElem?_toArray, List.getElem?_cons_succ, List.getElem?_cons_zero] at c0 c1
  go_wp2_with fail
  refine (room_any M1.out.1).mono ?_
  rintro e w2 ⟨rfl, hb2⟩
  replace M1 := Lib.hid (M1.out.then_below hb2)
  replace K0 := Lib.hid (K0.out.below hb2)
  replace K1 := Lib.hid (K1.out.below hb2)
  replace HSZ : Hid (w.heap.size + 2 ≤ w2.heap.size) := Lib.hid (by have := hb2.size; have := HSZ.out; omega)
  clear hb2 c0 c1 f1
  rw [hroom]
  replace M1 : Hid (LM w b p w2 p S l) := Lib.hid (by have := M1.out; rw [← hdd] at this; exact this)
  clear hroom hdd
  have c0 := K0.out.cell 0
  have c1 := K1.out.cell 0
  have f1 := K1.out.fro 0
  simp only [List.getElem?_toArray, List.getElem?_cons_succ, List.getElem?_cons_zero] at c0 c1
  have q0 := cell_regrown c0
  have e0 : w2.cell? ⟨b, 0, none⟩ = some p.v := M1.out.1.blk.cell 0
  have e1 : w2.cell? ⟨b, 1, none⟩ = some (.int .i64 (l.file : Int)) := M1.out.1.blk.cell 1
  have q1 := cell_regrown e0
  have q2 := cell_regrown e1
  have HFR : Hid (∀ d os, Calls Tryd.prog 76 #[.string ⟨r.toArray⟩] (grow (redrawn w2 d) os) fun e w'' => e = .returned (.string ⟨fr.toArray⟩) ∧ ∃ p : Regrown, w'' = grow (redrawn w2 p.d) p.os) := Lib.hid fun d os => Calls.regrown_of (HF.out _ ((M1.out.tb HTB.out HLK.out.zb HLK.out.zo).below (below_regrown w2 d os)))
  go_wp2_with fail
  refine wp_region_below_tail 10 mixed (by kernel_rfl) ?_
  simp only [List.take_succ_cons, List.take_zero, List.drop_succ_cons, List.drop_zero]
  repeat (first | go_big_quiet_step (with_reducible exact HFR.out _ _) | quiet_step (with_reducible exact HFR.out _ _))
  refine wpQuiet_nil ?_
  intro _ hw'
  obtain ⟨⟨dq, osq⟩, hw''⟩ := hw'
  subst hw''
  have hbq := below_regrown w2 dq osq
  replace M1 := Lib.hid (M1.out.then_below hbq)
  replace K0 := Lib.hid (K0.out.below hbq)
  replace K1 := Lib.hid (K1.out.below hbq)
  replace HSZ : Hid (w.heap.size + 2 ≤ (grow (redrawn w2 dq) osq).heap.size) := Lib.hid (by have := hbq.size; have := HSZ.out; omega)
  clear hbq c0 c1 f1 q0 q1 q2 e0 e1 HFR HF
  generalize grow (redrawn w2 dq) osq = w3 at *
  go_wp2_with fail
  refine (HA.out w3 M1.out.1.dk).mono ?_
  rintro e w4 ⟨rfl, p4, hm⟩
  have NP : Hid (w.heap.size ∉ p4.own ∧ w.heap.size + 1 ∉ p4.own) := Lib.hid ⟨fun hx => (hm.2.2.2 _ hx).elim NO.out.1 (by have := HSZ.out; omega), fun hx => (hm.2.2.2 _ hx).elim NO.out.2 (by have := HSZ.out; omega)⟩
  replace K0 := Lib.hid (K0.out.only hm.2.2.1 NO.out.1)
  replace K1 := Lib.hid (K1.out.only hm.2.2.1 NO.out.2)
  have M4 : Hid (LM w b p w4 p4 S2 l) := Lib.hid (M1.out.mut HZ.out hm (by have := HBL.out; have := HSZ.out; omega))
  clear hm M1 HA HSZ NO
  go_wp2_with fail
  refine (must_no 2 (by decide) _).mono ?_
  rintro e w5 ⟨rfl, rfl⟩
  unfold gaveUp
  have c0 := K0.out.cell 0
  have c1 := K1.out.cell 0
  have f1 := K1.out.fro 0
  simp only [List.getElem?_toArray, List.getElem?_cons_succ, List.getElem?_cons_zero] at c0 c1
  have d4 : w4.cell? ⟨b, 4, none⟩ = some (.bool l.dead) := M4.out.1.blk.cell 4
  have g4 := M4.out.1.blk.fro 4
  go_wp2_with fail
  refine leaves_cons (f := 72) (args := #[.pointer (some ⟨w.heap.size, 0, none⟩), .pointer (some ⟨w.heap.size + 1, 0, none⟩)]) (by simp) (by simp [go_sem]) ?_
  refine (catch72_panicking w.heap.size (w.heap.size + 1) b 2 [] w4 _ _ c0 c1 d4 f1 g4 (by have := HBL.out; omega)).mono ?_
  rintro e u' w5 ⟨rfl, rfl, rfl⟩
  have hne : w.heap.size + 1 ≠ b := by have := HBL.out; omega
  refine ⟨.int .i64 2, by simp [results, Tryd.results38, go_sem, c1, hne], rfl, p4, ?_⟩
  exact ((M4.out.die true).own_set ⟨w.heap.size + 1, 0, none⟩ (by simp) (by simp; omega) NP.out.2 _).drew
set_option maxHeartbeats 16000000 in
theorem lap_ok {w : World} {b : Nat} {p : Fp} {S : St} {l : Wlg} (h : Lk w b p S l) (hT : Tb w) (hn : l.n ≤ 4611686018427387904) (r : Bs) (hg : (l.dead || S.gone) = false) (hl : ¬ r.length > 65536) (hf : ¬ (r.length : Int) > room S l) (hc : (S.append l.file (frame r)).1 = 0) :
    Calls Tryd.prog 38 #[.pointer (some ⟨b, 0, none⟩), .string ⟨r.toArray⟩] w fun e w' => e = .returned (.int .i64 0) ∧ ∃ p', LM w b p w' p' (S.append l.file (frame r)).2 { l with n := l.n + 1 } := by
  have hbl := h.blk.lt
  have HZ := Lib.hid hT.1
  have HBL := Lib.hid hbl
  have M0 : Hid (LM w b p ((w.alloc (.cells #[.pointer (some ⟨b, 0, none⟩)] 35)).alloc (.cells #[.int .i64 0] 28)) p S l) := Lib.hid (LM.refl h (by go_grown))
  have K0 : Hid (Bk 35 ((w.alloc (.cells #[.pointer (some ⟨b, 0, none⟩)] 35)).alloc (.cells #[.int .i64 0] 28)) w.heap.size #[.pointer (some ⟨b, 0, none⟩)]) := Lib.hid (Bk.alloc (Bk.new rfl))
  have K1 : Hid (Bk 28 ((w.alloc (.cells #[.pointer (some ⟨b, 0, none⟩)] 35)).alloc (.cells #[.int .i64 0] 28)) (w.heap.size + 1) #[.int .i64 0]) := Lib.hid (Bk.new (by simp))
  have HSZ : Hid (((w.alloc (.cells #[.pointer (some ⟨b, 0, none⟩)] 35)).alloc (.cells #[.int .i64 0] 28)).heap.size = w.heap.size + 2) := Lib.hid (by simp)
  have NO : Hid (w.heap.size ∉ p.own ∧ w.heap.size + 1 ∉ p.own) := Lib.hid ⟨fun hx => by have := h.dk.lt _ hx; omega, fun hx => by have := h.dk.lt _ hx; omega⟩
  have HTB := Lib.hid hT
  have HLK := Lib.hid h
  have hlen : (⟨r.toArray⟩ : ByteArray).size = r.length := size_ba r
  have HG := Lib.hid (gone_any M0.out.1)
  rw [hg] at HG
  have c0 := K0.out.cell 0
  simp only [List.getElem?_toArray, List.getElem?_cons_succ, List.getElem?_cons_zero] at c0
  have hd1 : decide ((65536 : Int) < (r.length : Int)) = false := by simp; omega
  have hd1n : decide (65536 < r.length) = false := by simp; omega
  have hdd : l.dead = false := by simp at hg; exact hg.1
  have hroom : room S { l with dead := false } = room S l := rfl
  have hd2 : decide (room S l < (r.length : Int)) = false := by simp; omega
  have HF := Lib.hid (frame_any r (by omega))
  have hfl := frame_len r
  have HA : Hid (∀ (w1 : World), Dk w1 p S → Calls Tryd.prog 75 #[p.v, .int .i64 (l.file : Int), .string ⟨(frame r).toArray⟩] w1 fun e w' => e = .returned (.int .i64 ((S.append l.file (frame r)).1 : Int)) ∧ ∃ p', Mut w1 p w' p' (S.append l.file (frame r)).2) := Lib.hid fun w1 hd => by
    have := append_any p S l.file ⟨(frame r).toArray⟩ (by rw [size_ba]; omega) w1 hd
    simpa only [List.toList_toArray] using this
  rw [hc] at HA
  generalize hrm : room S l = rm at *
  generalize frame r = fr at *
  generalize (S.append l.file fr).2 = S2 at *
  have hn1 : (l.n : Int) ≤ 4611686018427387904 := by omega
  have hn0 : (0 : Int) ≤ (l.n : Int) := by omega
  clear hg h hT hbl hl hf hrm hfl hc hn
  go_enter_defers Tryd.func38, Tryd.ntmps38
  go_wp2_with fail
  clear c0
  generalize ((w.alloc (.cells #[.pointer (some ⟨b, 0, none⟩)] 35)).alloc (.cells #[.int .i64 0] 28)) = wa at M0 K0 K1 HSZ HG ⊢
  refine HG.out.mono ?_
  rintro e w1 ⟨rfl, hw1⟩
  have M1 : Hid (LM w b p w1 p S { l with dead := false }) := Lib.hid (by rw [hw1]; exact M0.out.die false)
  have k0 : Bk 35 w1 w.heap.size #[.pointer (some ⟨b, 0, none⟩)] := by rw [hw1]; exact K0.out.oth (by have := HBL.out; simp; omega)
  have k1 : Bk 28 w1 (w.heap.size + 1) #[.int .i64 0] := by rw [hw1]; exact K1.out.oth (by have := HBL.out; simp; omega)
  have hsz : w1.heap.size = w.heap.size + 2 := by rw [hw1]; simpa using HSZ.out
  replace K0 := Lib.hid k0
  replace K1 := Lib.hid k1
  replace HSZ := Lib.hid hsz
  clear hw1 k0 k1 hsz HG M0
  have c0 := K0.out.cell 0
  have c1 := K1.out.cell 0
  have f1 := K1.out.fro 0
  simp only [List.getElem?_toArray, List.getElem?_cons_succ, List.getElem?_cons_zero] at c0 c1
  go_wp2_with fail
  refine (room_any M1.out.1).mono ?_
  rintro e w2 ⟨rfl, hb2⟩
  replace M1 := Lib.hid (M1.out.then_below hb2)
  replace K0 := Lib.hid (K0.out.below hb2)
  replace K1 := Lib.hid (K1.out.below hb2)
  replace HSZ : Hid (w.heap.size + 2 ≤ w2.heap.size) := Lib.hid (by have := hb2.size; have := HSZ.out; omega)
  clear hb2 c0 c1 f1
  rw [hroom]
  replace M1 : Hid (LM w b p w2 p S l) := Lib.hid (by have := M1.out; rw [← hdd] at this; exact this)
  clear hroom hdd
  have c0 := K0.out.cell 0
  have c1 := K1.out.cell 0
  have f1 := K1.out.fro 0
  simp only [List.getElem?_toArray, List.getElem?_cons_succ, List.getElem?_cons_zero] at c0 c1
  have q0 := cell_regrown c0
  have e0 : w2.cell? ⟨b, 0, none⟩ = some p.v := M1.out.1.blk.cell 0
  have e1 : w2.cell? ⟨b, 1, none⟩ = some (.int .i64 (l.file : Int)) := M1.out.1.blk.cell 1
  have q1 := cell_regrown e0
  have q2 := cell_regrown e1
  have HFR : Hid (∀ d os, Calls Tryd.prog 76 #[.string ⟨r.toArray⟩] (grow (redrawn w2 d) os) fun e w'' => e = .returned (.string ⟨fr.toArray⟩) ∧ ∃ p : Regrown, w'' = grow (redrawn w2 p.d) p.os) := Lib.hid fun d os => Calls.regrown_of (HF.out _ ((M1.out.tb HTB.out HLK.out.zb HLK.out.zo).below (below_regrown w2 d os)))
  go_wp2_with fail
  refine wp_region_below_tail 10 mixed (by kernel_rfl) ?_
  simp only [List.take_succ_cons, List.take_zero, List.drop_succ_cons, List.drop_zero]
  repeat (first | go_big_quiet_step (with_reducible exact HFR.out _ _) | quiet_step (with_reducible exact HFR.out _ _))
  refine wpQuiet_nil ?_
  intro _ hw'
  obtain ⟨⟨dq, osq⟩, hw''⟩ := hw'
  subst hw''
  have hbq := below_regrown w2 dq osq
  replace M1 := Lib.hid (M1.out.then_below hbq)
  replace K0 := Lib.hid (K0.out.below hbq)
  replace K1 := Lib.hid (K1.out.below hbq)
  replace HSZ : Hid (w.heap.size + 2 ≤ (grow (redrawn w2 dq) osq).heap.size) := Lib.hid (by have := hbq.size; have := HSZ.out; omega)
  clear hbq c0 c1 f1 q0 q1 q2 e0 e1 HFR HF
  generalize grow (redrawn w2 dq) osq = w3 at *
  go_wp2_with fail
  refine (HA.out w3 M1.out.1.dk).mono ?_
  rintro e w4 ⟨rfl, p4, hm⟩
  have NP : Hid (w.heap.size ∉ p4.own ∧ w.heap.size + 1 ∉ p4.own) := Lib.hid ⟨fun hx => (hm.2.2.2 _ hx).elim NO.out.1 (by have := HSZ.out; omega), fun hx => (hm.2.2.2 _ hx).elim NO.out.2 (by have := HSZ.out; omega)⟩
  replace K0 := Lib.hid (K0.out.only hm.2.2.1 NO.out.1)
  replace K1 := Lib.hid (K1.out.only hm.2.2.1 NO.out.2)
  have M4 : Hid (LM w b p w4 p4 S2 l) := Lib.hid (M1.out.mut HZ.out hm (by have := HBL.out; have := HSZ.out; omega))
  clear hm M1 HA HSZ NO
  go_wp2_with fail
  refine (must_yes _).mono ?_
  rintro e w5 ⟨rfl, rfl⟩
  have c0 := K0.out.cell 0
  have c1 := K1.out.cell 0
  have f1 := K1.out.fro 0
  simp only [List.getElem?_toArray, List.getElem?_cons_succ, List.getElem?_cons_zero] at c0 c1
  have d3 : w4.cell? ⟨b, 3, none⟩ = some (.int .i64 (l.n : Int)) := M4.out.1.blk.cell 3
  have g3 := M4.out.1.blk.fro 3
  have hne : w.heap.size + 1 ≠ b := by have := HBL.out; omega
  have hne0 : w.heap.size ≠ b := by have := HBL.out; omega
  go_wp2_with fail
  rw [show ((l.n : Int) + 1) = ((l.n + 1 : Nat) : Int) by omega]
  have M5 := Lib.hid ((M4.out.num (l.n + 1)).own_set ⟨w.heap.size + 1, 0, none⟩ (by simp) (by simp; omega) NP.out.2 (.int .i64 0))
  have k0 := Lib.hid (Bk.oth (a := ⟨w.heap.size + 1, 0, none⟩) (v := .int .i64 0) (by simp) (Bk.oth (a := ⟨b, 3, none⟩) (v := .int .i64 ((l.n + 1 : Nat) : Int)) (by simp; omega) K0.out))
  have k1 := Lib.hid (Bk.same (i := 0) (v := .int .i64 0) (Bk.oth (a := ⟨b, 3, none⟩) (v := .int .i64 ((l.n + 1 : Nat) : Int)) (by simp; omega) K1.out))
  clear c0 c1 f1 d3 g3 M4 K0 K1
  generalize (w4.setCell ⟨b, 3, none⟩ (.int .i64 ((l.n + 1 : Nat) : Int))).setCell ⟨w.heap.size + 1, 0, none⟩ (.int .i64 0) = w5 at M5 k0 k1 ⊢
  have c0 : w5.cell? ⟨w.heap.size, 0, none⟩ = some (.pointer (some ⟨b, 0, none⟩)) := k0.out.cell 0
  have c1 : w5.cell? ⟨w.heap.size + 1, 0, none⟩ = some (.int .i64 0) := k1.out.cell 0
  have f1 := k1.out.fro 0
  refine leaves_cons (f := 72) (args := #[.pointer (some ⟨w.heap.size, 0, none⟩), .pointer (some ⟨w.heap.size + 1, 0, none⟩)]) (by simp) (by simp [go_sem]) ?_
  refine (catch72_idle w.heap.size (w.heap.size + 1) _ w5 _ c0 c1 f1).mono ?_
  rintro e u' w6 ⟨rfl, rfl, rfl⟩
  refine ⟨.int .i64 0, by simp [results, Tryd.results38, go_sem, c1], rfl, p4, ?_⟩
  exact (M5.out.own_set ⟨w.heap.size + 1, 0, none⟩ (by simp) (by simp; omega) NP.out.2 _).drew
/-- what a call on a log answers and leaves -/
def LRes (w : World) (b : Nat) (p : Fp) (r : Nat × St × Wlg) (e : Ending) (w' : World) : Prop := e = .returned (.int .i64 (r.1 : Int)) ∧ ∃ p', LM w b p w' p' r.2.1 r.2.2
theorem lappend_any {w : World} {b : Nat} {p : Fp} {S : St} {l : Wlg} (h : Lk w b p S l) (hT : Tb w) (hn : l.n ≤ 4611686018427387904) (r : Bs) :
    Calls Tryd.prog 38 #[.pointer (some ⟨b, 0, none⟩), .string ⟨r.toArray⟩] w fun e w' => LRes w b p (lap S l r) e w' := by
  unfold lap
  by_cases hg : (l.dead || S.gone) = true
  · rw [if_pos (by simpa using hg)]; exact lap_gone h hT r hg
  · have hg' : (l.dead || S.gone) = false := by simpa using hg
    rw [if_neg (by simpa using hg')]
    by_cases hl : r.length > 65536
    · rw [if_pos hl]; exact lap_long h hT r hg' hl
    · rw [if_neg hl]
      by_cases hf : (r.length : Int) > room S l
      · rw [if_pos hf]; exact lap_full h hT r hg' hl hf
      · rw [if_neg hf]
        rcases append_code S l.file (frame r) h.ff (by rw [frame_len]; unfold room at hf; have := file_le h.dk.wf l.file; omega) with hc | hc
        · rw [if_pos hc]; exact lap_ok h hT hn r hg' hl hf hc
        · rw [if_neg (by omega)]; exact lap_dies h hT hn r hg' hl hf hc
end Go.Proofs.YtmoihgniglomiaaDoor
/- What a log's changes make of the disk, plainly. No condition. -/
set_option linter.unusedVariables false
set_option linter.unusedSimpArgs false
namespace Go.Proofs.YtmoihgniglomiaaDoor

def Safe2 (S : St) : Prop := S.s0 = S.f0.length ∧ S.s1 = S.f1.length ∧ S.row = []
theorem safe2_waiting {S : St} (h : Safe2 S) : S.waiting = 0 := by unfold St.waiting; rw [h.1, h.2.1]; simp
theorem safe2_file {S : St} (h : Safe2 S) (f : Nat) : S.safe f = (S.file f).length := by
  unfold St.safe St.file; split
  · exact h.1
  · exact h.2.1
theorem keep_all2 {S : St} (h : S.Wf) : (S.keep S.waiting).f0 = S.f0 ∧ (S.keep S.waiting).f1 = S.f1 ∧ Safe2 (S.keep S.waiting) ∧ (S.keep S.waiting).gone = S.gone := by
  have e := h.left_all S.waiting (Nat.le_refl _)
  unfold St.keep Safe2
  rw [e]
  simp
theorem count_ok {S : St} (h : (S.count).1 = 0) : (S.count).2.f0 = S.f0 ∧ (S.count).2.f1 = S.f1 ∧ (S.count).2.s0 = S.s0 ∧ (S.count).2.s1 = S.s1 ∧ (S.count).2.row = S.row ∧ (S.count).2.gone = S.gone := St.count_file h
theorem wsync_ok {S : St} (h : S.Wf) (hc : (S.sync).1 = 0) : (S.sync).2.f0 = S.f0 ∧ (S.sync).2.f1 = S.f1 ∧ Safe2 (S.sync).2 ∧ (S.sync).2.gone = false ∧ (S.sync).2.Wf := by
  unfold St.sync at hc ⊢
  by_cases hg : S.gone = true
  · rw [if_pos hg] at hc; cases hc
  · rw [if_neg hg] at hc ⊢
    by_cases h0 : (S.count).1 = 0
    · rw [if_pos h0]
      obtain ⟨a, b, c, d, e, f⟩ := count_ok h0
      obtain ⟨k1, k2, k3, k4⟩ := keep_all2 h.count
      exact ⟨k1.trans a, k2.trans b, k3, by rw [k4, f]; simpa using hg, h.count.keep _⟩
    · rw [if_neg h0] at hc; exact absurd hc h0
theorem append_ok {S : St} (h : S.Wf) {f : Nat} (hf : f < 2) {s : Bs} (hc : (S.append f s).1 = 0) : (S.append f s).2.file f = S.file f ++ s ∧ (S.append f s).2.file (1 - f) = S.file (1 - f) ∧ (S.append f s).2.gone = false ∧ (S.append f s).2.Wf ∧ (S.append f s).2.safe f = S.safe f ∧ (S.append f s).2.safe (1 - f) = S.safe (1 - f) := by
  unfold St.append at hc ⊢
  have ht : St.there (f : Int) = true := by unfold St.there; simp; omega
  by_cases hg : S.gone = true
  · rw [if_pos hg] at hc; cases hc
  · rw [if_neg hg] at hc ⊢
    rw [if_neg (by simp [ht])] at hc ⊢
    by_cases hl : (S.file (f : Int).toNat).length + s.length > 1048576
    · rw [if_pos hl] at hc; cases hc
    · rw [if_neg hl] at hc ⊢
      simp only [Int.toNat_natCast] at hc hl ⊢
      obtain ⟨a, b, c, d, e, g⟩ := count_ok hc
      have hw := (h.lay f s hf (by omega)).count
      have hg' : S.gone = false := by simpa using hg
      refine ⟨?_, ?_, ?_, hw, ?_, ?_⟩
      · unfold St.file; rw [a, b]; unfold St.lay
        rcases Nat.lt_or_ge f 1 with h1 | h1
        · have : f = 0 := by omega
          subst this; simp
        · have : f = 1 := by omega
          subst this; simp
      · unfold St.file; rw [a, b]; unfold St.lay
        rcases Nat.lt_or_ge f 1 with h1 | h1
        · have : f = 0 := by omega
          subst this; simp
        · have : f = 1 := by omega
          subst this; simp
      · rw [g]; unfold St.lay; split <;> exact hg'
      · unfold St.safe; rw [c, d]; unfold St.lay; (repeat' split) <;> rfl
      · unfold St.safe; rw [c, d]; unfold St.lay; (repeat' split) <;> rfl
theorem lays_code (S : St) (f g : Nat) (hf : f < 2) (snap : Bs) (hs : (S.file f).length + 20 + snap.length ≤ 1048576) : (lays S f g snap).1 = 0 ∨ (lays S f g snap).1 = 2 := by
  unfold lays
  split
  · exact sync_code _
  · exact append_code S f _ hf (by rw [fileOf_len]; omega)
theorem lays_ok {S : St} (h : S.Wf) {f g : Nat} (hf : f < 2) {snap : Bs} (hc : (lays S f g snap).1 = 0) :
    (lays S f g snap).2.file f = S.file f ++ fileOf g snap ∧ (lays S f g snap).2.file (1 - f) = S.file (1 - f) ∧ Safe2 (lays S f g snap).2 ∧ (lays S f g snap).2.gone = false ∧ (lays S f g snap).2.Wf := by
  unfold lays at hc ⊢
  by_cases h0 : (S.append f (fileOf g snap)).1 = 0
  · rw [if_pos h0] at hc ⊢
    obtain ⟨a1, a2, a3, a4, _⟩ := append_ok h hf h0
    obtain ⟨b1, b2, b3, b4, b5⟩ := wsync_ok a4 hc
    refine ⟨?_, ?_, b3, b4, b5⟩
    · rw [← a1]; unfold St.file; rw [b1, b2]
    · rw [← a2]; unfold St.file; rw [b1, b2]
  · rw [if_neg h0] at hc; exact absurd hc h0
end Go.Proofs.YtmoihgniglomiaaDoor
/- What a log's Sync and Checkpoint answer and leave. Condition: the log's own, the program's table; for Checkpoint that the other file has no byte. -/
set_option linter.unusedVariables false
set_option linter.unusedSimpArgs false
set_option maxRecDepth 100000
namespace Go.Proofs.YtmoihgniglomiaaDoor
open Go.RowKit Go.Sort

set_option maxHeartbeats 16000000 in
theorem lsync_gone {w : World} {b : Nat} {p : Fp} {S : St} {l : Wlg} (h : Lk w b p S l) (hT : Tb w) (hg : (l.dead || S.gone) = true) :
    Calls Tryd.prog 40 #[.pointer (some ⟨b, 0, none⟩)] w fun e w' => e = .returned (.int .i64 2) ∧ ∃ p', LM w b p w' p' S l.sink := by
  have hbl := h.blk.lt
  have HZ := Lib.hid hT.1
  have HBL := Lib.hid hbl
  have M0 : Hid (LM w b p ((w.alloc (.cells #[.pointer (some ⟨b, 0, none⟩)] 35)).alloc (.cells #[.int .i64 0] 28)) p S l) := Lib.hid (LM.refl h (by go_grown))
  have K0 : Hid (Bk 35 ((w.alloc (.cells #[.pointer (some ⟨b, 0, none⟩)] 35)).alloc (.cells #[.int .i64 0] 28)) w.heap.size #[.pointer (some ⟨b, 0, none⟩)]) := Lib.hid (Bk.alloc (Bk.new rfl))
  have K1 : Hid (Bk 28 ((w.alloc (.cells #[.pointer (some ⟨b, 0, none⟩)] 35)).alloc (.cells #[.int .i64 0] 28)) (w.heap.size + 1) #[.int .i64 0]) := Lib.hid (Bk.new (by simp))
  have HSZ : Hid (((w.alloc (.cells #[.pointer (some ⟨b, 0, none⟩)] 35)).alloc (.cells #[.int .i64 0] 28)).heap.size = w.heap.size + 2) := Lib.hid (by simp)
  have NO : Hid (w.heap.size ∉ p.own ∧ w.heap.size + 1 ∉ p.own) := Lib.hid ⟨fun hx => by have := h.dk.lt _ hx; omega, fun hx => by have := h.dk.lt _ hx; omega⟩
  have HTB := Lib.hid hT
  have HLK := Lib.hid h
  have HG := Lib.hid (gone_any M0.out.1)
  rw [hg] at HG
  have c0 := K0.out.cell 0
  simp only [List.getElem?_toArray, List.getElem?_cons_succ, List.getElem?_cons_zero] at c0
  clear hg h hT hbl
  go_enter_defers Tryd.func40, Tryd.ntmps40
  go_wp2_with fail
  clear c0
  generalize ((w.alloc (.cells #[.pointer (some ⟨b, 0, none⟩)] 35)).alloc (.cells #[.int .i64 0] 28)) = wa at M0 K0 K1 HSZ HG ⊢
  refine HG.out.mono ?_
  rintro e w1 ⟨rfl, hw1⟩
  have M1 : Hid (LM w b p w1 p S { l with dead := true }) := Lib.hid (by rw [hw1]; exact M0.out.die true)
  have k0 : Bk 35 w1 w.heap.size #[.pointer (some ⟨b, 0, none⟩)] := by rw [hw1]; exact K0.out.oth (by have := HBL.out; simp; omega)
  have k1 : Bk 28 w1 (w.heap.size + 1) #[.int .i64 0] := by rw [hw1]; exact K1.out.oth (by have := HBL.out; simp; omega)
  have hsz : w1.heap.size = w.heap.size + 2 := by rw [hw1]; simpa using HSZ.out
  replace K0 := Lib.hid k0
  replace K1 := Lib.hid k1
  replace HSZ := Lib.hid hsz
  clear hw1 k0 k1 hsz HG M0
  have c0 := K0.out.cell 0
  have c1 := K1.out.cell 0
  have f1 := K1.out.fro 0
  simp only [List.getElem?_toArray, List.getElem?_cons_succ, List.getElem?_cons_zero] at c0 c1
  go_wp2_with fail
  refine ⟨.int .i64 2, by simp [results, Tryd.results40, go_sem, c1], rfl, p, ?_⟩
  exact M1.out.own_set ⟨w.heap.size + 1, 0, none⟩ (by simp) (by have := HBL.out; simp; omega) NO.out.2 _
set_option maxHeartbeats 16000000 in
theorem lsync_dies {w : World} {b : Nat} {p : Fp} {S : St} {l : Wlg} (h : Lk w b p S l) (hT : Tb w) (hg : (l.dead || S.gone) = false) (hc : (S.sync).1 = 2) :
    Calls Tryd.prog 40 #[.pointer (some ⟨b, 0, none⟩)] w fun e w' => e = .returned (.int .i64 2) ∧ ∃ p', LM w b p w' p' (S.sync).2 l.sink := by
  have hbl := h.blk.lt
  have HZ := Lib.hid hT.1
  have HBL := Lib.hid hbl
  have M0 : Hid (LM w b p ((w.alloc (.cells #[.pointer (some ⟨b, 0, none⟩)] 35)).alloc (.cells #[.int .i64 0] 28)) p S l) := Lib.hid (LM.refl h (by go_grown))
  have K0 : Hid (Bk 35 ((w.alloc (.cells #[.pointer (some ⟨b, 0, none⟩)] 35)).alloc (.cells #[.int .i64 0] 28)) w.heap.size #[.pointer (some ⟨b, 0, none⟩)]) := Lib.hid (Bk.alloc (Bk.new rfl))
  have K1 : Hid (Bk 28 ((w.alloc (.cells #[.pointer (some ⟨b, 0, none⟩)] 35)).alloc (.cells #[.int .i64 0] 28)) (w.heap.size + 1) #[.int .i64 0]) := Lib.hid (Bk.new (by simp))
  have HSZ : Hid (((w.alloc (.cells #[.pointer (some ⟨b, 0, none⟩)] 35)).alloc (.cells #[.int .i64 0] 28)).heap.size = w.heap.size + 2) := Lib.hid (by simp)
  have NO : Hid (w.heap.size ∉ p.own ∧ w.heap.size + 1 ∉ p.own) := Lib.hid ⟨fun hx => by have := h.dk.lt _ hx; omega, fun hx => by have := h.dk.lt _ hx; omega⟩
  have HTB := Lib.hid hT
  have HLK := Lib.hid h
  have HG := Lib.hid (gone_any M0.out.1)
  rw [hg] at HG
  have c0 := K0.out.cell 0
  simp only [List.getElem?_toArray, List.getElem?_cons_succ, List.getElem?_cons_zero] at c0
  have hdd : l.dead = false := by simp at hg; exact hg.1
  have HA : Hid (∀ (w1 : World), Dk w1 p S → Calls Tryd.prog 80 #[p.v] w1 fun e w' => e = .returned (.int .i64 ((S.sync).1 : Int)) ∧ ∃ p', Mut w1 p w' p' (S.sync).2) := Lib.hid fun w1 hd => sync_any p S w1 hd
  rw [hc] at HA
  generalize (S.sync).2 = S2 at *
  clear hg h hT hbl hc
  go_enter_defers Tryd.func40, Tryd.ntmps40
  go_wp2_with fail
  clear c0
  generalize ((w.alloc (.cells #[.pointer (some ⟨b, 0, none⟩)] 35)).alloc (.cells #[.int .i64 0] 28)) = wa at M0 K0 K1 HSZ HG ⊢
  refine HG.out.mono ?_
  rintro e w1 ⟨rfl, hw1⟩
  have M1 : Hid (LM w b p w1 p S { l with dead := false }) := Lib.hid (by rw [hw1]; exact M0.out.die false)
  have k0 : Bk 35 w1 w.heap.size #[.pointer (some ⟨b, 0, none⟩)] := by rw [hw1]; exact K0.out.oth (by have := HBL.out; simp; omega)
  have k1 : Bk 28 w1 (w.heap.size + 1) #[.int .i64 0] := by rw [hw1]; exact K1.out.oth (by have := HBL.out; simp; omega)
  have hsz : w1.heap.size = w.heap.size + 2 := by rw [hw1]; simpa using HSZ.out
  replace K0 := Lib.hid k0
  replace K1 := Lib.hid k1
  replace HSZ := Lib.hid hsz
  clear hw1 k0 k1 hsz HG M0
  replace M1 : Hid (LM w b p w1 p S l) := Lib.hid (by have := M1.out; rw [← hdd] at this; exact this)
  clear hdd
  have c0 := K0.out.cell 0
  have c1 := K1.out.cell 0
  have f1 := K1.out.fro 0
  simp only [List.getElem?_toArray, List.getElem?_cons_succ, List.getElem?_cons_zero] at c0 c1
  have e0 : w1.cell? ⟨b, 0, none⟩ = some p.v := M1.out.1.blk.cell 0
  go_wp2_with fail
  refine (HA.out w1 M1.out.1.dk).mono ?_
  rintro e w4 ⟨rfl, p4, hm⟩
  clear c0 c1 f1 e0
  have NP : Hid (w.heap.size ∉ p4.own ∧ w.heap.size + 1 ∉ p4.own) := Lib.hid ⟨fun hx => (hm.2.2.2 _ hx).elim NO.out.1 (by have := HSZ.out; omega), fun hx => (hm.2.2.2 _ hx).elim NO.out.2 (by have := HSZ.out; omega)⟩
  replace K0 := Lib.hid (K0.out.only hm.2.2.1 NO.out.1)
  replace K1 := Lib.hid (K1.out.only hm.2.2.1 NO.out.2)
  have M4 : Hid (LM w b p w4 p4 S2 l) := Lib.hid (M1.out.mut HZ.out hm (by have := HBL.out; have := HSZ.out; omega))
  clear hm M1 HA HSZ NO
  go_wp2_with fail
  refine (must_no 2 (by decide) _).mono ?_
  rintro e w5 ⟨rfl, rfl⟩
  unfold gaveUp
  have c0 := K0.out.cell 0
  have c1 := K1.out.cell 0
  have f1 := K1.out.fro 0
  simp only [List.getElem?_toArray, List.getElem?_cons_succ, List.getElem?_cons_zero] at c0 c1
  have d4 : w4.cell? ⟨b, 4, none⟩ = some (.bool l.dead) := M4.out.1.blk.cell 4
  have g4 := M4.out.1.blk.fro 4
  go_wp2_with fail
  refine leaves_cons (f := 79) (args := #[.pointer (some ⟨w.heap.size, 0, none⟩), .pointer (some ⟨w.heap.size + 1, 0, none⟩)]) (by simp) (by simp [go_sem]) ?_
  refine (catch79_panicking w.heap.size (w.heap.size + 1) b 2 [] w4 _ _ c0 c1 d4 f1 g4 (by have := HBL.out; omega)).mono ?_
  rintro e u' w9 ⟨rfl, rfl, rfl⟩
  have hne : w.heap.size + 1 ≠ b := by have := HBL.out; omega
  refine ⟨.int .i64 2, by simp [results, Tryd.results40, go_sem, c1, hne], rfl, p4, ?_⟩
  exact ((M4.out.die true).own_set ⟨w.heap.size + 1, 0, none⟩ (by simp) (by simp; omega) NP.out.2 _).drew
set_option maxHeartbeats 16000000 in
theorem lsync_ok {w : World} {b : Nat} {p : Fp} {S : St} {l : Wlg} (h : Lk w b p S l) (hT : Tb w) (hg : (l.dead || S.gone) = false) (hc : (S.sync).1 = 0) :
    Calls Tryd.prog 40 #[.pointer (some ⟨b, 0, none⟩)] w fun e w' => e = .returned (.int .i64 0) ∧ ∃ p', LM w b p w' p' (S.sync).2 l := by
  have hbl := h.blk.lt
  have HZ := Lib.hid hT.1
  have HBL := Lib.hid hbl
  have M0 : Hid (LM w b p ((w.alloc (.cells #[.pointer (some ⟨b, 0, none⟩)] 35)).alloc (.cells #[.int .i64 0] 28)) p S l) := Lib.hid (LM.refl h (by go_grown))
  have K0 : Hid (Bk 35 ((w.alloc (.cells #[.pointer (some ⟨b, 0, none⟩)] 35)).alloc (.cells #[.int .i64 0] 28)) w.heap.size #[.pointer (some ⟨b, 0, none⟩)]) := Lib.hid (Bk.alloc (Bk.new rfl))
  have K1 : Hid (Bk 28 ((w.alloc (.cells #[.pointer (some ⟨b, 0, none⟩)] 35)).alloc (.cells #[.int .i64 0] 28)) (w.heap.size + 1) #[.int .i64 0]) := Lib.hid (Bk.new (by simp))
  have HSZ : Hid (((w.alloc (.cells #[.pointer (some ⟨b, 0, none⟩)] 35)).alloc (.cells #[.int .i64 0] 28)).heap.size = w.heap.size + 2) := Lib.hid (by simp)
  have NO : Hid (w.heap.size ∉ p.own ∧ w.heap.size + 1 ∉ p.own) := Lib.hid ⟨fun hx => by have := h.dk.lt _ hx; omega, fun hx => by have := h.dk.lt _ hx; omega⟩
  have HTB := Lib.hid hT
  have HLK := Lib.hid h
  have HG := Lib.hid (gone_any M0.out.1)
  rw [hg] at HG
  have c0 := K0.out.cell 0
  simp only [List.getElem?_toArray, List.getElem?_cons_succ, List.getElem?_cons_zero] at c0
  have hdd : l.dead = false := by simp at hg; exact hg.1
  have HA : Hid (∀ (w1 : World), Dk w1 p S → Calls Tryd.prog 80 #[p.v] w1 fun e w' => e = .returned (.int .i64 ((S.sync).1 : Int)) ∧ ∃ p', Mut w1 p w' p' (S.sync).2) := Lib.hid fun w1 hd => sync_any p S w1 hd
  rw [hc] at HA
  generalize (S.sync).2 = S2 at *
  clear hg h hT hbl hc
  go_enter_defers Tryd.func40, Tryd.ntmps40
  go_wp2_with fail
  clear c0
  generalize ((w.alloc (.cells #[.pointer (some ⟨b, 0, none⟩)] 35)).alloc (.cells #[.int .i64 0] 28)) = wa at M0 K0 K1 HSZ HG ⊢
  refine HG.out.mono ?_
  rintro e w1 ⟨rfl, hw1⟩
  have M1 : Hid (LM w b p w1 p S { l with dead := false }) := Lib.hid (by rw [hw1]; exact M0.out.die false)
  have k0 : Bk 35 w1 w.heap.size #[.pointer (some ⟨b, 0, none⟩)] := by rw [hw1]; exact K0.out.oth (by have := HBL.out; simp; omega)
  have k1 : Bk 28 w1 (w.heap.size + 1) #[.int .i64 0] := by rw [hw1]; exact K1.out.oth (by have := HBL.out; simp; omega)
  have hsz : w1.heap.size = w.heap.size + 2 := by rw [hw1]; simpa using HSZ.out
  replace K0 := Lib.hid k0
  replace K1 := Lib.hid k1
  replace HSZ := Lib.hid hsz
  clear hw1 k0 k1 hsz HG M0
  replace M1 : Hid (LM w b p w1 p S l) := Lib.hid (by have := M1.out; rw [← hdd] at this; exact this)
  clear hdd
  have c0 := K0.out.cell 0
  have c1 := K1.out.cell 0
  have f1 := K1.out.fro 0
  simp only [List.getElem?_toArray, List.getElem?_cons_succ, List.getElem?_cons_zero] at c0 c1
  have e0 : w1.cell? ⟨b, 0, none⟩ = some p.v := M1.out.1.blk.cell 0
  go_wp2_with fail
  refine (HA.out w1 M1.out.1.dk).mono ?_
  rintro e w4 ⟨rfl, p4, hm⟩
  clear c0 c1 f1 e0
  have NP : Hid (w.heap.size ∉ p4.own ∧ w.heap.size + 1 ∉ p4.own) := Lib.hid ⟨fun hx => (hm.2.2.2 _ hx).elim NO.out.1 (by have := HSZ.out; omega), fun hx => (hm.2.2.2 _ hx).elim NO.out.2 (by have := HSZ.out; omega)⟩
  replace K0 := Lib.hid (K0.out.only hm.2.2.1 NO.out.1)
  replace K1 := Lib.hid (K1.out.only hm.2.2.1 NO.out.2)
  have M4 : Hid (LM w b p w4 p4 S2 l) := Lib.hid (M1.out.mut HZ.out hm (by have := HBL.out; have := HSZ.out; omega))
  clear hm M1 HA HSZ NO
  go_wp2_with fail
  refine (must_yes _).mono ?_
  rintro e w5 ⟨rfl, rfl⟩
  have c0 := K0.out.cell 0
  have c1 := K1.out.cell 0
  have f1 := K1.out.fro 0
  simp only [List.getElem?_toArray, List.getElem?_cons_succ, List.getElem?_cons_zero] at c0 c1
  have hne : w.heap.size + 1 ≠ b := by have := HBL.out; omega
  go_wp2_with fail
  have M5 := Lib.hid (M4.out.own_set ⟨w.heap.size + 1, 0, none⟩ (by simp) (by simp; omega) NP.out.2 (.int .i64 0))
  have k0 := Lib.hid (Bk.oth (a := ⟨w.heap.size + 1, 0, none⟩) (v := .int .i64 0) (by simp) K0.out)
  have k1 := Lib.hid (Bk.same (i := 0) (v := .int .i64 0) K1.out)
  clear c0 c1 f1 M4 K0 K1
  generalize w4.setCell ⟨w.heap.size + 1, 0, none⟩ (.int .i64 0) = w5 at M5 k0 k1 ⊢
  have c0 : w5.cell? ⟨w.heap.size, 0, none⟩ = some (.pointer (some ⟨b, 0, none⟩)) := k0.out.cell 0
  have c1 : w5.cell? ⟨w.heap.size + 1, 0, none⟩ = some (.int .i64 0) := k1.out.cell 0
  have f1 := k1.out.fro 0
  refine leaves_cons (f := 79) (args := #[.pointer (some ⟨w.heap.size, 0, none⟩), .pointer (some ⟨w.heap.size + 1, 0, none⟩)]) (by simp) (by simp [go_sem]) ?_
  refine (catch79_idle w.heap.size (w.heap.size + 1) _ w5 _ c0 c1 f1).mono ?_
  rintro e u' w6 ⟨rfl, rfl, rfl⟩
  refine ⟨.int .i64 0, by simp [results, Tryd.results40, go_sem, c1], rfl, p4, ?_⟩
  exact (M5.out.own_set ⟨w.heap.size + 1, 0, none⟩ (by simp) (by simp; omega) NP.out.2 _).drew
theorem lsync_any {w : World} {b : Nat} {p : Fp} {S : St} {l : Wlg} (h : Lk w b p S l) (hT : Tb w) :
    Calls Tryd.prog 40 #[.pointer (some ⟨b, 0, none⟩)] w fun e w' => LRes w b p (lsync S l) e w' := by
  unfold lsync
  by_cases hg : (l.dead || S.gone) = true
  · rw [if_pos (by simpa using hg)]; exact lsync_gone h hT hg
  · have hg' : (l.dead || S.gone) = false := by simpa using hg
    rw [if_neg (by simpa using hg')]
    rcases sync_code S with hc | hc
    · rw [if_pos hc]; exact lsync_ok h hT hg' hc
    · rw [if_neg (by omega)]; exact lsync_dies h hT hg' hc
end Go.Proofs.YtmoihgniglomiaaDoor
