/- The document's reader: what its item answers where lists are read. Conditions: at most 4096 bytes; the library's tables. -/
import Derived.Test.YtghdcgokndmkjaaDoorRc
import Derived.Test.YtghdcgokndmkjaaDoorY
set_option linter.unusedVariables false
set_option linter.unusedSimpArgs false
set_option maxRecDepth 100000
namespace Go.Proofs.YtghdcgokndmkjaaDoor
open Go.RowKit Go.Sort

/-- 'v.List = append(v.List, x)', in a region that does not draw -/
theorem appRow {ops : Array Oper} {rest : List Oper} {o : Oper} {a : Act} {Q : Exit → Act → World → Prop} {d W vb : Nat} {w : World} {vv : Value} {acc : List It} (x : It) (A : Option Addr) (c : Nat)
    (hgd : o.guard = Option.none) (s y : Operand) (ho : o.op = .call { callee := .builtin .append, args := #[s, y], argTypes := #[22, 22] }) (hs : a.eval s = vv) (g0 : Nat) (hg0 : g0 = w.heap.size) (hx : a.eval y = .slice (some ⟨g0, 0, none⟩) 1 1)
    (hr : Row d W vb w vv acc) (hW : W ≤ w.heap.size) (hvb : vb < w.heap.size) (hlen : acc.length ≤ 1073741824) (hz : Sz x) (hc : c ≤ 9223372036854775807) (hx2 : RdL d (fun b => W ≤ b ∧ b ≠ vb ∧ some b ≠ vv.ownBlock) w A x.list)
    (h : ∀ g cap w', Row d W vb w' (.slice (some ⟨g, 0, none⟩) (acc.length + 1) cap) (acc ++ [x]) → (∀ j, j < w.heap.size → some j ≠ vv.ownBlock → w'.heap[j]? = w.heap[j]?) → w.heap.size ≤ w'.heap.size → w'.os = w.os → w'.tape = w.tape → w'.output = w.output → w'.cell? ⟨vb, 3, none⟩ = w.cell? ⟨vb, 3, none⟩ → w'.frozen? ⟨vb, 3, none⟩ = w.frozen? ⟨vb, 3, none⟩ →
      wpList Tryd.prog ops Q rest (a.put o.dst (.slice (some ⟨g, 0, none⟩) (acc.length + 1) cap)) w') :
    wpList Tryd.prog ops Q (o :: rest) a (w.alloc (.cells #[.int .i64 x.kind, .int .i64 x.num, .string ⟨x.text.toArray⟩, .slice A x.list.length c] 24)) := by
  subst hg0
  obtain ⟨i0, hi, hz0, hz1, hz2⟩ := info_parts infoCbor
  obtain ⟨ps, h1, h2, h3, h4⟩ := hr
  have hlt0 : ∀ g, vv.ownBlock = some g → g < w.heap.size := fun g hg => (h2.lt g hg).2
  refine wpList_append_lies _ hgd s y 22 ho W 24 i0 _ 4 56 Tryd.underlying22 hi hz0 hz1 hz2 rfl (by decide) vv acc.length _ hs (h2.alloc _) ⟨w.heap.size, 0, none⟩ 1 1 (itC (x, A, c)) hx rfl (World.news_of_block (heap_alloc_new w _)) (by simp [itC, Value.oneCell']) (by decide) (by unfold maxLen; omega) (by omega) (by simp; omega) (w.heap.size + 1) (by simp) ?_
  intro g cap w' hown hgrow hat hlt
  have hblk : ∀ j, j < w.heap.size → some j ≠ vv.ownBlock → w'.heap[j]? = w.heap[j]? := fun j hj hn => by
    rw [hgrow.block j (by simp; omega) hn]; exact Below.heap_alloc _ _ _ hj
  have hg : some vb ≠ (Value.slice (some ⟨g, 0, none⟩) (acc.length + 1) cap).ownBlock := by
    intro e
    have e : vb = g := by simpa [Value.ownBlock] using e
    rcases hat with h | h
    · rw [e] at h3; exact h3 h
    · omega
  refine h g cap w' ⟨ps ++ [(x, A, c)], by simp [h1], by simpa using hown, fun e => hg e.symm, fun p hp => ?_⟩ hblk (by have := hgrow.size; simp at this; omega) hgrow.os hgrow.tape hgrow.output (World.cell?_of_block (w := w) (hblk vb hvb (fun e => h3 e.symm))) (World.frozen?_of_block (w := w) (hblk vb hvb (fun e => h3 e.symm)))
  have key : ∀ {A' : Option Addr} {l : List It}, RdL d (fun b => W ≤ b ∧ b ≠ vb ∧ some b ≠ vv.ownBlock) w A' l → RdL d (fun b => W ≤ b ∧ b ≠ vb ∧ some b ≠ (Value.slice (some ⟨g, 0, none⟩) (acc.length + 1) cap).ownBlock) w' A' l := fun hh =>
    ((hh.lt.keep (by have := hgrow.size; simp at this; omega) (fun j hj _ => hblk j hj.2 hj.1.2.2)).mono fun j hj => ⟨hj.1.1, hj.1.2.1, fun e => by
      have e : j = g := by simpa [Value.ownBlock] using e
      rcases hat with h | h
      · exact hj.1.2.2 (by rw [e, h])
      · have := hj.2; omega⟩)
  rcases List.mem_append.1 hp with hp | hp
  · obtain ⟨p1, p2, p3⟩ := h4 p hp
    exact ⟨p1, p2, key p3⟩
  · have e : p = (x, A, c) := by simpa using hp
    subst e
    exact ⟨hz, hc, key hx2⟩

/-- what stands behind an item that was read, ahead of its append -/
structure OkG (d vb br : Nat) (s : List UInt8) (a2 : Nat) (w w4 : World) (vv : Value) (acc : List It) (t : It) (A : Option Addr) (bv rv : Array Value) : Prop where
  sz : Sz t
  rd : RdL d (fun b => w.heap.size + 1 ≤ b ∧ b ≠ vb ∧ some b ≠ vv.ownBlock) w4 A t.list
  rdr : Rf br s a2 w4
  keeps : Keeps br w w4
  res : w4.heap[w.heap.size]? = some (.cells rv 24 (0, 0))
  box : w4.heap[vb]? = some (.cells bv 24 (0, 0))
  row : Row d (w.heap.size + 1) vb w4 vv acc
theorem OkG.of {d vb br : Nat} {s : List UInt8} {a2 : Nat} {w wr w4 : World} {vv : Value} {acc : List It} {t : It} {A : Option Addr} {bv rv : Array Value} (hsz : Sz t) (hrd : RdL d (fun b => wr.heap.size ≤ b) w4 A t.list) (hR : Rf br s a2 w4) (hK : Keeps br wr w4)
    (hKr : Keeps br w wr) (hQ : wr.heap[w.heap.size]? = some (.cells rv 24 (0, 0))) (hV : wr.heap[vb]? = some (.cells bv 24 (0, 0))) (hRow : Row d (w.heap.size + 1) vb wr vv acc) (hbr : br < w.heap.size) (hvb : br ≠ vb) : OkG d vb br s a2 w w4 vv acc t A bv rv := by
  have h1 := (Array.getElem?_eq_some_iff.1 hQ).1
  have h2 := (Array.getElem?_eq_some_iff.1 hV).1
  refine ⟨hsz, hrd.mono fun b hb => ⟨by omega, by omega, fun e => ?_⟩, hR, hKr.trans hK, hK.heap hQ (by omega), hK.heap hV (by omega), hRow.keeps (by omega) hK⟩
  obtain ⟨ps, _, h3, _⟩ := hRow
  have := (h3.lt b e.symm).2
  omega
theorem OkG.below {d vb br : Nat} {s : List UInt8} {a2 : Nat} {w w4 w5 : World} {vv : Value} {acc : List It} {t : It} {A : Option Addr} {bv rv : Array Value} (h : OkG d vb br s a2 w w4 vv acc t A bv rv) (hb : Below w4.heap.size w4 w5) : OkG d vb br s a2 w w5 vv acc t A bv rv :=
  ⟨h.sz, h.rd.below hb, h.rdr.below hb, h.keeps.below hb, (hb.block _ (blk_lt h.res)).trans h.res, (hb.block _ (blk_lt h.box)).trans h.box, h.row.below hb⟩

/-- what OkG.step says, at any further items -/
theorem OkG.step2 {d vb br : Nat} {s : List UInt8} {a2 : Nat} {w w4 w5 : World} {vv : Value} {acc acc' : List It} {t : It} {A : Option Addr} {p q r : Value} {rv : Array Value} (u : Value) (h : OkG d vb br s a2 w w4 vv acc t A #[p, q, r, vv] rv) (hbr : br < w.heap.size) (hvb : w.heap.size < vb)
    (row5 : Row d (w.heap.size + 1) vb w5 u acc') (blk5 : ∀ j, j < w4.heap.size → some j ≠ vv.ownBlock → w5.heap[j]? = w4.heap[j]?) (siz5 : w4.heap.size ≤ w5.heap.size) (os5 : w5.os = w4.os) (tp5 : w5.tape = w4.tape) (out5 : w5.output = w4.output) :
    Rf br s a2 (w5.setCell ⟨vb, 3, none⟩ u) ∧ Keeps br w (w5.setCell ⟨vb, 3, none⟩ u) ∧ (w5.setCell ⟨vb, 3, none⟩ u).heap[w.heap.size]? = some (.cells rv 24 (0, 0)) ∧ (w5.setCell ⟨vb, 3, none⟩ u).heap[vb]? = some (.cells #[p, q, r, u] 24 (0, 0)) ∧ vb < (w5.setCell ⟨vb, 3, none⟩ u).heap.size ∧
      Row d (w.heap.size + 1) vb (w5.setCell ⟨vb, 3, none⟩ u) u acc' := by
  obtain ⟨ps, _, h3, h4, _⟩ := h.row
  have hlow : ∀ j, j ≤ w.heap.size → some j ≠ vv.ownBlock := fun j hj e => by have := (h3.lt j e.symm).1; omega
  have hv := (Array.getElem?_eq_some_iff.1 h.box).1
  have hb : ∀ j, j < w4.heap.size → j ≠ vb → some j ≠ vv.ownBlock → (w5.setCell ⟨vb, 3, none⟩ u).heap[j]? = w4.heap[j]? := fun j hj hn ho => by
    rw [Below.heap_setCell _ _ _ _ hn]; exact blk5 j hj ho
  have hws := h.keeps.size
  have hbox5 : w5.heap[vb]? = some (.cells #[p, q, r, vv] 24 (0, 0)) := (blk5 vb hv (fun e => h4 e.symm)).trans h.box
  refine ⟨(hb br (by omega) (by omega) (hlow br (by omega))).trans h.rdr, ?_, (hb _ (by omega) (by omega) (hlow _ (Nat.le_refl _))).trans h.res, vset hbox5, by simp [World.setCell]; omega, row5.setv 3 u⟩
  exact ⟨os5.trans h.keeps.os, tp5.trans h.keeps.tape, out5.trans h.keeps.output, by simp [World.setCell]; omega, fun j hj hn => (hb j (by omega) (by omega) (hlow j (by omega))).trans (h.keeps.block j hj hn)⟩

set_option maxHeartbeats 4000000 in
theorem fitem_deep4 (V : List UInt8 → Bool) (d br : Nat) (s : List UInt8) (a o : Nat) (n m : Nat) (w : World) (hR : Rf br s a w) (hs : s.length ≤ 4096) (ha : a ≤ s.length) (ho : o ≤ 16) (hh : hd (s.drop a) = some (4, n, m)) (h16 : o = 16) :
    Calls Tryd.prog 19 #[.pointer (some ⟨br, 0, none⟩), .int .i64 (o : Int)] w fun e w' => RfR d br s (a + 1) w w' (item V Option.none (s.drop a)) e := by
  have hal : Below w.heap.size w (w.alloc (.cells #[.int .i64 0, .int .i64 0, .string ⟨#[]⟩, .slice none 0 0] 24)) := (Below.refl _ _).alloc (Nat.le_refl _) _
  have HR := Lib.hid (hR.below hal)
  have HA := Lib.hid hal
  have hlt := hR.lt
  have HQ := Lib.hid (Go.heap_alloc_new w (.cells #[.int .i64 0, .int .i64 0, .string ⟨#[]⟩, .slice none 0 0] 24))
  clear hR hal
  go_enter Tryd.func19, Tryd.ntmps19
  go_wp2_with fail
  refine (fhead_yes br s a 4 n m _ HR.out hs ha hh (by omega)).mono ?_
  rintro e w1 ⟨rfl, r1, k1⟩
  have hbd := hd_bound hh
  have hn : n ≤ 9223372036854775807 := hbd.2.1
  have hm1 : 1 ≤ m := hbd.2.2.1
  have hml : a + m ≤ s.length := by have := hbd.2.2.2; simp at this; omega
  obtain ⟨p, hp⟩ : ∃ p, p = a + m := ⟨_, rfl⟩
  rw [← hp] at r1 hml
  have hlo : a + 1 ≤ p := by omega
  have HE : Hid (item V Option.none (s.drop a) = body V Option.none 4 n (s.drop p)) := Lib.hid ((item_some hh).trans (by rw [List.drop_drop, ← hp]))
  have hs1 : w.heap.size + 1 ≤ w1.heap.size := by have := k1.size; simpa using this
  have Q1 := Lib.hid (k1.heap HQ.out (by omega))
  have K1 := Lib.hid ((Keeps.of HA.out).trans k1)
  have R1 := Lib.hid r1
  clear k1 r1 hh hbd hp hm1 HQ HA HR
  have c0 := cellOf Q1.out 0
  have c1 := cellOf Q1.out 1
  have c2 := cellOf Q1.out 2
  have c3 := cellOf Q1.out 3
  simp at c0 c1 c2 c3
  have f0 := Lib.frozen_of_heap Q1.out 0
  have f1 := Lib.frozen_of_heap Q1.out 1
  have f2 := Lib.frozen_of_heap Q1.out 2
  have f3 := Lib.frozen_of_heap Q1.out 3
  have hd2 : decide (16 ≤ (o : Int)) = true := by simp; omega
  have HE2 : Hid (item V Option.none (s.drop a) = .error true) := Lib.hid (HE.out.trans (body_4n _ _ _))
  go_wp2_with fail
  refine bodyPost_ret (v := .tuple #[.agg #[.int .i64 0, .int .i64 0, .string ⟨#[]⟩, .slice none 0 0], .int .i64 31]) (by simp [results, Tryd.results19, go_sem, c0, c1, c2, c3]) rfl ?_
  exact RfR.err true HE2.out (K1.out.set4 (Nat.le_refl _))
set_option maxHeartbeats 4000000 in
theorem fitem_deep5 (V : List UInt8 → Bool) (d br : Nat) (s : List UInt8) (a o : Nat) (n m : Nat) (w : World) (hR : Rf br s a w) (hs : s.length ≤ 4096) (ha : a ≤ s.length) (ho : o ≤ 16) (hh : hd (s.drop a) = some (5, n, m)) (h16 : o = 16) :
    Calls Tryd.prog 19 #[.pointer (some ⟨br, 0, none⟩), .int .i64 (o : Int)] w fun e w' => RfR d br s (a + 1) w w' (item V Option.none (s.drop a)) e := by
  have hal : Below w.heap.size w (w.alloc (.cells #[.int .i64 0, .int .i64 0, .string ⟨#[]⟩, .slice none 0 0] 24)) := (Below.refl _ _).alloc (Nat.le_refl _) _
  have HR := Lib.hid (hR.below hal)
  have HA := Lib.hid hal
  have hlt := hR.lt
  have HQ := Lib.hid (Go.heap_alloc_new w (.cells #[.int .i64 0, .int .i64 0, .string ⟨#[]⟩, .slice none 0 0] 24))
  clear hR hal
  go_enter Tryd.func19, Tryd.ntmps19
  go_wp2_with fail
  refine (fhead_yes br s a 5 n m _ HR.out hs ha hh (by omega)).mono ?_
  rintro e w1 ⟨rfl, r1, k1⟩
  have hbd := hd_bound hh
  have hn : n ≤ 9223372036854775807 := hbd.2.1
  have hm1 : 1 ≤ m := hbd.2.2.1
  have hml : a + m ≤ s.length := by have := hbd.2.2.2; simp at this; omega
  obtain ⟨p, hp⟩ : ∃ p, p = a + m := ⟨_, rfl⟩
  rw [← hp] at r1 hml
  have hlo : a + 1 ≤ p := by omega
  have HE : Hid (item V Option.none (s.drop a) = body V Option.none 5 n (s.drop p)) := Lib.hid ((item_some hh).trans (by rw [List.drop_drop, ← hp]))
  have hs1 : w.heap.size + 1 ≤ w1.heap.size := by have := k1.size; simpa using this
  have Q1 := Lib.hid (k1.heap HQ.out (by omega))
  have K1 := Lib.hid ((Keeps.of HA.out).trans k1)
  have R1 := Lib.hid r1
  clear k1 r1 hh hbd hp hm1 HQ HA HR
  have c0 := cellOf Q1.out 0
  have c1 := cellOf Q1.out 1
  have c2 := cellOf Q1.out 2
  have c3 := cellOf Q1.out 3
  simp at c0 c1 c2 c3
  have f0 := Lib.frozen_of_heap Q1.out 0
  have f1 := Lib.frozen_of_heap Q1.out 1
  have f2 := Lib.frozen_of_heap Q1.out 2
  have f3 := Lib.frozen_of_heap Q1.out 3
  have hd2 : decide (16 ≤ (o : Int)) = true := by simp; omega
  have HE2 : Hid (item V Option.none (s.drop a) = .error true) := Lib.hid (HE.out.trans (body_5n _ _ _))
  go_wp2_with fail
  refine bodyPost_ret (v := .tuple #[.agg #[.int .i64 0, .int .i64 0, .string ⟨#[]⟩, .slice none 0 0], .int .i64 31]) (by simp [results, Tryd.results19, go_sem, c0, c1, c2, c3]) rfl ?_
  exact RfR.err true HE2.out (K1.out.set4 (Nat.le_refl _))
set_option maxHeartbeats 4000000 in
theorem fitem_list (V : List UInt8 → Bool) (d br : Nat) (s : List UInt8) (a o : Nat) (n m : Nat) (f : List UInt8 → Res It) (w : World) (hR : Rf br s a w) (hs : s.length ≤ 4096) (ha : a ≤ s.length) (ho : o ≤ 16) (hh : hd (s.drop a) = some (4, n, m)) (h16 : o < 16) (hT : Tb w) (hbr : 2 ≤ br)
    (ih : ∀ (a : Nat) (w : World), Tb w → Rf br s a w → a ≤ s.length → Calls Tryd.prog 19 #[.pointer (some ⟨br, 0, none⟩), .int .i64 ((o : Int) + 1)] w fun e w' => RfR d br s (a + 1) w w' (f (s.drop a)) e) :
    Calls Tryd.prog 19 #[.pointer (some ⟨br, 0, none⟩), .int .i64 (o : Int)] w fun e w' => RfR (d + 1) br s (a + 1) w w' (item V (some f) (s.drop a)) e := by
  have hal : Below w.heap.size w (w.alloc (.cells #[.int .i64 0, .int .i64 0, .string ⟨#[]⟩, .slice none 0 0] 24)) := (Below.refl _ _).alloc (Nat.le_refl _) _
  have HR := Lib.hid (hR.below hal)
  have HA := Lib.hid hal
  have hlt := hR.lt
  have HQ := Lib.hid (Go.heap_alloc_new w (.cells #[.int .i64 0, .int .i64 0, .string ⟨#[]⟩, .slice none 0 0] 24))
  have HTb := Lib.hid hT
  have IH := Lib.hid ih
  clear hR hal hT ih
  go_enter Tryd.func19, Tryd.ntmps19
  go_wp2_with fail
  refine (fhead_yes br s a 4 n m _ HR.out hs ha hh (by omega)).mono ?_
  rintro e w1 ⟨rfl, r1, k1⟩
  have hbd := hd_bound hh
  have hn : n ≤ 9223372036854775807 := hbd.2.1
  have hm1 : 1 ≤ m := hbd.2.2.1
  have hml : a + m ≤ s.length := by have := hbd.2.2.2; simp at this; omega
  obtain ⟨p, hp⟩ : ∃ p, p = a + m := ⟨_, rfl⟩
  rw [← hp] at r1 hml
  have hlo : a + 1 ≤ p := by omega
  have HE : Hid (item V (some f) (s.drop a) = body V (some f) 4 n (s.drop p)) := Lib.hid ((item_some hh).trans (by rw [List.drop_drop, ← hp]))
  have hs1 : w.heap.size + 1 ≤ w1.heap.size := by have := k1.size; simpa using this
  have Q1 := Lib.hid (k1.heap HQ.out (by omega))
  have K1 := Lib.hid ((Keeps.of HA.out).trans k1)
  have R1 := Lib.hid r1
  clear k1 r1 hh hbd hp hm1 HQ HA HR
  have hd2 : decide (16 ≤ (o : Int)) = false := by simp; omega
  have hal1 : Below w1.heap.size w1 (w1.alloc (.cells #[.int .i64 3, .int .i64 0, .string ⟨#[]⟩, .slice none 0 0] 24)) := (Below.refl _ _).alloc (Nat.le_refl _) _
  have R2 := Lib.hid (R1.out.below hal1)
  have K2 := Lib.hid (K1.out.below hal1)
  have Q2 := Lib.hid ((hal1.block _ (by omega)).trans Q1.out)
  have V2 := Lib.hid (Go.heap_alloc_new w1 (.cells #[.int .i64 3, .int .i64 0, .string ⟨#[]⟩, .slice none 0 0] 24))
  have hs2 : w1.heap.size + 1 ≤ (w1.alloc (.cells #[.int .i64 3, .int .i64 0, .string ⟨#[]⟩, .slice none 0 0] 24)).heap.size := by simp
  clear hal1 Q1 K1 R1
  go_wp2_with fail
  generalize hvb : w1.heap.size = vb at V2 hs1 hs2 ⊢
  generalize w1.alloc (.cells #[.int .i64 3, .int .i64 0, .string ⟨#[]⟩, .slice none 0 0] 24) = w2 at R2 K2 Q2 V2 hs2 ⊢
  clear hvb
  go_loopw [12] (fun i wr => ∃ (k : Nat) (acc : List It) (a' : Nat) (vv : Value), k ≤ n ∧ i = .int .i64 k ∧ acc.length = k ∧ p + k ≤ a' ∧ a' ≤ s.length ∧ Hid (Rf br s a' wr) ∧ Hid (Keeps br w wr) ∧ Hid (wr.heap[w.heap.size]? = some (.cells #[.int .i64 0, .int .i64 0, .string ⟨#[]⟩, .slice none 0 0] 24 (0, 0))) ∧
      Hid (wr.heap[vb]? = some (.cells #[.int .i64 3, .int .i64 0, .string ⟨#[]⟩, vv] 24 (0, 0))) ∧ vb < wr.heap.size ∧ Hid (Row d (w.heap.size + 1) vb wr vv acc) ∧ Hid (decN f n (s.drop p) = contN acc (decN f (n - k) (s.drop a')))) (fun i _ => n - (intOf i).toNat)
  case atStart => exact ⟨0, [], p, _, by omega, rfl, rfl, by omega, hml, R2, K2, Q2, V2, by omega, Lib.hid (Row.nil _ _ _ _), Lib.hid (by rw [contN_nil]; rfl)⟩
  case round =>
    obtain ⟨k, acc, a', vv, hk, rfl, hacc, hka, ha', HRr, HKr, HQr, HVr, hvlt, HRow, HD⟩ := hrel
    by_cases hlk : k < n
    · have HAcc := Lib.hid hacc
      clear hacc
      have hwr : w.heap.size + 1 ≤ wr.heap.size := by have := (Array.getElem?_eq_some_iff.1 HQr.out).1; omega
      have hlen : acc.length ≤ 1073741824 := by have := HAcc.out; omega
      have HI := IH.out a' wr (HTb.out.keeps HKr.out hbr) HRr.out ha'
      match hres : f (s.drop a'), HI with
      | .error deep, HI =>
        have HE2 : Hid (item V (some f) (s.drop a) = .error deep) := Lib.hid (by
          rw [HE.out, body_4, HD.out, show n - k = (n - k - 1) + 1 from by omega, contN_err acc _ hres]; rfl)
        obtain ⟨N, hN, hN0⟩ : ∃ N : Int, errN deep = N ∧ N ≠ 0 := ⟨_, rfl, by cases deep <;> decide⟩
        have HIp : Hid (Calls Tryd.prog 19 #[.pointer (some ⟨br, 0, none⟩), .int .i64 ((o : Int) + 1)] wr fun e w' => e = .returned (.tuple #[.agg #[.int .i64 0, .int .i64 0, .string ⟨#[]⟩, .slice none 0 0], .int .i64 N]) ∧ Keeps br wr w') := Lib.hid (by rw [← hN]; exact HI)
        have hN1 : (N == 0) = false := by simpa using hN0
        have hN2 : decide (N = 0) = false := by simpa using hN0
        have hN3 : (N != 0) = true := by simpa using hN0
        have HN := Lib.hid hN
        clear HI hres hN
        go_wp2_with fail
        refine HIp.out.mono ?_
        rintro e w4 ⟨rfl, hF⟩
        have K4 := Lib.hid (HKr.out.trans hF)
        have Q4 := Lib.hid (hF.heap HQr.out (by omega))
        have hal4 : Below w4.heap.size w4 (w4.alloc (.cells #[.int .i64 0, .int .i64 0, .string ⟨#[]⟩, .slice none 0 0] 24)) := (Below.refl _ _).alloc (Nat.le_refl _) _
        have K5 := Lib.hid (K4.out.below hal4)
        have Q5 := Lib.hid ((hal4.block _ (Array.getElem?_eq_some_iff.1 Q4.out).1).trans Q4.out)
        clear hF hal4
        have c0 := cellOf Q5.out 0
        have c1 := cellOf Q5.out 1
        have c2 := cellOf Q5.out 2
        have c3 := cellOf Q5.out 3
        simp at c0 c1 c2 c3
        have f0 := Lib.frozen_of_heap Q5.out 0
        have f1 := Lib.frozen_of_heap Q5.out 1
        have f2 := Lib.frozen_of_heap Q5.out 2
        have f3 := Lib.frozen_of_heap Q5.out 3
        go_wp2_with fail
        refine bodyPost_ret (v := .tuple #[.agg #[.int .i64 0, .int .i64 0, .string ⟨#[]⟩, .slice none 0 0], .int .i64 N]) (by simp [results, Tryd.results19, go_sem, c0, c1, c2, c3]) rfl ?_
        rw [← HN.out]
        exact RfR.err deep HE2.out (K5.out.set4 (Nat.le_refl _))
      | .ok (t, rest), HI =>
        have HX : Hid (Calls Tryd.prog 19 #[.pointer (some ⟨br, 0, none⟩), .int .i64 ((o : Int) + 1)] wr fun e w4 => ∃ A4 c4 a4, c4 ≤ 9223372036854775807 ∧ a' + 1 ≤ a4 ∧ a4 ≤ s.length ∧ rest = s.drop a4 ∧ e = .returned (.tuple #[.agg #[.int .i64 t.kind, .int .i64 t.num, .string ⟨t.text.toArray⟩, .slice A4 t.list.length c4], .int .i64 0]) ∧
            OkG d vb br s a4 w w4 vv acc t A4 #[.int .i64 3, .int .i64 0, .string ⟨#[]⟩, vv] #[.int .i64 0, .int .i64 0, .string ⟨#[]⟩, .slice none 0 0]) := Lib.hid (HI.mono fun e w4 h => by
          obtain ⟨A4, c4, a4, h1, h2, h3, h4, h5, h6, h7, _, h8, h9⟩ := h
          exact ⟨A4, c4, a4, h1, h2, h3, h4, h5, OkG.of (vb := vb) (wr := wr) h6 h7 h8 h9 HKr.out HQr.out HVr.out HRow.out hlt (by omega)⟩)
        have HRes := Lib.hid hres
        clear HI hres
        go_wp2_with fail
        refine HX.out.mono ?_
        rintro e w4 ⟨A4, c4, a4, hc4, hlo4, ha4, hrest4, rfl, hok4⟩
        have HR4 := Lib.hid hrest4
        have hal4 : Below w4.heap.size w4 (w4.alloc (.cells #[.int .i64 t.kind, .int .i64 t.num, .string ⟨t.text.toArray⟩, .slice A4 t.list.length c4] 24)) := (Below.refl _ _).alloc (Nat.le_refl _) _
        have HO5 := Lib.hid (hok4.below hal4)
        have HB5 := Lib.hid (Go.heap_alloc_new w4 (.cells #[.int .i64 t.kind, .int .i64 t.num, .string ⟨t.text.toArray⟩, .slice A4 t.list.length c4] 24))
        have hs5 : w4.heap.size + 1 ≤ (w4.alloc (.cells #[.int .i64 t.kind, .int .i64 t.num, .string ⟨t.text.toArray⟩, .slice A4 t.list.length c4] 24)).heap.size := by simp
        have hv4 : vb < w4.heap.size := (Array.getElem?_eq_some_iff.1 hok4.box).1
        have hw4 : w.heap.size + 1 ≤ w4.heap.size := (Array.getElem?_eq_some_iff.1 hok4.res).1
        have v3 := cellOf HO5.out.box 3
        simp at v3
        have v4 := Lib.frozen_of_heap HO5.out.box 3
        have HOr := Lib.hid HO5.out.row
        have hW5 : w.heap.size + 1 ≤ (w4.alloc (.cells #[.int .i64 t.kind, .int .i64 t.num, .string ⟨t.text.toArray⟩, .slice A4 t.list.length c4] 24)).heap.size := by omega
        have hV5 : vb < (w4.alloc (.cells #[.int .i64 t.kind, .int .i64 t.num, .string ⟨t.text.toArray⟩, .slice A4 t.list.length c4] 24)).heap.size := by omega
        clear hok4 hal4 hrest4 HX hs5
        go_wp2_with (at_builtin; refine appRow (d := d) (W := w.heap.size + 1) (vb := vb) (w := w4.alloc (.cells #[.int .i64 t.kind, .int .i64 t.num, .string ⟨t.text.toArray⟩, .slice A4 t.list.length c4] 24)) t A4 c4 rfl _ _ rfl rfl (w4.heap.size + 1) (by simp) rfl HO5.out.row hW5 hV5 hlen HO5.out.sz hc4 HO5.out.rd ?_; intro g cap w6 row6 blk6 siz6 os6 tp6 out6 cel6 frz6; replace cel6 := cel6.trans v3; replace frz6 := frz6.trans v4; have HS := Lib.hid (HO5.out.step2 (.slice (some ⟨g, 0, none⟩) (acc.length + 1) cap) hlt (by omega) row6 blk6 siz6 os6 tp6 out6); clear row6 blk6 siz6 os6 tp6 out6 v3 v4)
        obtain ⟨s1, s2, s3, s4, s5, s6⟩ := HS.out
        have T1 := Lib.hid s1
        have T2 := Lib.hid s2
        have T3 := Lib.hid s3
        have T4 := Lib.hid s4
        have T6 := Lib.hid s6
        clear HS s1 s2 s3 s4 s6 cel6 frz6
        go_roundw
        case rel => exact ⟨k + 1, acc ++ [t], a4, _, by omega, by go_num, by have := HAcc.out; simp; omega, by omega, ha4, T1, T2, T3, T4, s5, T6, Lib.hid (by
            rw [HD.out, show n - k = (n - (k + 1)) + 1 from by omega, contN_ok acc _ HRes.out, HR4.out])⟩
        case measure => simp [intOf]; omega
    · have HE2 : Hid (item V (some f) (s.drop a) = .ok (.mk 3 0 [] acc, s.drop a')) := Lib.hid (by
        rw [HE.out, body_4, HD.out, show n - k = 0 from by omega]
        show finL 3 (.ok (acc ++ [], s.drop a')) = _
        rw [List.append_nil]; rfl)
      have HAcc : Hid (acc.length ≤ 1073741824) := Lib.hid (by omega)
      subst hacc
      obtain ⟨A, cap, rfl, hcap, hrd, htop⟩ := HRow.out.reads HAcc.out
      have HRD := Lib.hid hrd
      have HTop := Lib.hid htop
      have e0 := cellOf HVr.out 0
      have e1 := cellOf HVr.out 1
      have e2 := cellOf HVr.out 2
      have e3 := cellOf HVr.out 3
      have c0 := cellOf HQr.out 0
      have c1 := cellOf HQr.out 1
      have c2 := cellOf HQr.out 2
      have c3 := cellOf HQr.out 3
      simp at e0 e1 e2 e3 c0 c1 c2 c3
      have y0 := Lib.frozen_of_heap HQr.out 0
      have y1 := Lib.frozen_of_heap HQr.out 1
      have y2 := Lib.frozen_of_heap HQr.out 2
      have y3 := Lib.frozen_of_heap HQr.out 3
      have hap : a + 1 ≤ a' := by omega
      clear hrd htop
      go_wp2_with fail
      refine bodyPost_ret (v := .tuple #[itV (It.mk 3 0 [] acc) A cap, .int .i64 0]) (by simp [itV, It.kind, It.num, It.text, It.list, results, Tryd.results19, go_sem, c0, c1, c2, c3]) rfl ?_
      refine RfR.ok (It.mk 3 0 [] acc) A cap a' HE2.out hcap hap ha' ⟨by show (_ : Int) ≤ 0; omega, by show (0 : Int) ≤ _; omega, by simp [It.text]⟩ ?_ ?_ (HRr.out.set4 (by omega)) (HKr.out.set4 (Nat.le_refl _))
      · exact (HRD.out.set4 (k := w.heap.size) (by omega)).mono fun b hb => by omega
      · exact (HTop.out.set4 (k := w.heap.size) (by omega)).mono (by omega)
end Go.Proofs.YtghdcgokndmkjaaDoor
