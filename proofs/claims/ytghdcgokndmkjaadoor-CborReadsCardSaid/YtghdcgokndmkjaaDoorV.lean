/- What the reader's pairs answers: as many keys and values as its head says, the keys rising, or it gives up. Conditions: at most 4096 bytes; the library's tables. -/
import Derived.Test.YtghdcgokndmkjaaDoorVa
import Derived.Deep.RegionHeld2
set_option linter.unusedVariables false
set_option linter.unusedSimpArgs false
namespace Go.Proofs.YtghdcgokndmkjaaDoor
open Go.RowKit Go.Sort

section
variable {f : List UInt8 → Res It} {s r r' last : List UInt8} {key x : It} {e : Bool} (acc : List It) (m : Nat)
theorem contP_err1 (h : f s = .error e) : contN acc (decP f (m + 1) last s) = .error e := by rw [decP, h]; rfl
theorem contP_bad (h : f s = .ok (key, r)) (hc : (isKey key && decide (last < s.take (s.length - r.length))) = false) : contN acc (decP f (m + 1) last s) = .error false := by
  rw [decP, h]
  show contN acc (if (isKey key && decide (last < s.take (s.length - r.length))) = true then _ else _) = _
  rw [hc]; rfl
theorem contP_err2 (h : f s = .ok (key, r)) (hc : (isKey key && decide (last < s.take (s.length - r.length))) = true) (h2 : f r = .error e) : contN acc (decP f (m + 1) last s) = .error e := by
  rw [decP, h]
  show contN acc (if (isKey key && decide (last < s.take (s.length - r.length))) = true then _ else _) = _
  rw [if_pos hc, h2]; rfl
theorem contP_ok (h : f s = .ok (key, r)) (hc : (isKey key && decide (last < s.take (s.length - r.length))) = true) (h2 : f r = .ok (x, r')) :
    contN acc (decP f (m + 1) last s) = contN (acc ++ [key, x]) (decP f m (s.take (s.length - r.length)) r') := by
  rw [decP, h]
  show contN acc (if (isKey key && decide (last < s.take (s.length - r.length))) = true then _ else _) = _
  rw [if_pos hc, h2]
  show contN acc (match decP f m (s.take (s.length - r.length)) r' with | .error e => .error e | .ok (l, r'') => .ok (key :: x :: l, r'')) = _
  match decP f m (s.take (s.length - r.length)) r' with
  | .error e => rfl
  | .ok (l, r'') => simp [contN]
end
theorem less_eq : ∀ a b : List UInt8, Op.bytesLess a b = decide (a < b)
  | [], [] => by decide
  | [], _ :: _ => by simp [Op.bytesLess]
  | _ :: _, [] => by simp [Op.bytesLess]
  | x :: a, y :: b => by
    unfold Op.bytesLess
    by_cases h : x < y
    · simp [List.cons_lt_cons_iff, h]
    · by_cases h2 : x = y
      · subst h2; simp [List.cons_lt_cons_iff, less_eq a b]
      · simp [List.cons_lt_cons_iff, h, h2]
theorem body_5 (V : List UInt8 → Bool) (f : List UInt8 → Res It) (n : Nat) (r : List UInt8) : body V (some f) 5 n r = finL 4 (decP f n [] r) := rfl
theorem body_5n (V : List UInt8 → Bool) (n : Nat) (r : List UInt8) : body V Option.none 5 n r = .error true := rfl

theorem OkF.below {d vb br : Nat} {s : List UInt8} {a2 outer : Nat} {w w4 w5 : World} {vv : Value} {acc : List It} {t : It} {A : Option Addr} {bv rv : Array Value} (h : OkF d vb br s a2 outer w w4 vv acc t A bv rv) (hb : Below w4.heap.size w4 w5) : OkF d vb br s a2 outer w w5 vv acc t A bv rv :=
  ⟨h.sz, h.rd.below hb, h.rdr.below hb, h.keeps.below hb, (hb.block _ (blk_lt h.res)).trans h.res, (hb.block _ (blk_lt h.box)).trans h.box, h.row.below hb⟩

/-- 'v.List = append(v.List, key, x)', as a step of a region that draws -/
theorem stepRow2 {ops : Array Oper} {o : Oper} {a : Act} {K : Act → World → Prop} {Q : Exit → Act → World → Prop} {E : Prop} {d W vb : Nat} {w : World} {vv : Value} {acc : List It} (y x : It) (B A : Option Addr) (b c : Nat)
    (hgd : o.guard = Option.none) (s z : Operand) (ho : o.op = .call { callee := .builtin .append, args := #[s, z], argTypes := #[22, 22] }) (hs : a.eval s = vv) (hx : a.eval z = .slice (some ⟨w.heap.size, 0, none⟩) 2 2)
    (hr : Row d W vb w vv acc) (hW : W ≤ w.heap.size) (hvb : vb < w.heap.size) (hlen : acc.length ≤ 1073741824)
    (hzy : Sz y) (hb : b ≤ 9223372036854775807) (hy2 : RdL d (fun b => W ≤ b ∧ b ≠ vb ∧ some b ≠ vv.ownBlock) w B y.list) (hz : Sz x) (hc : c ≤ 9223372036854775807) (hx2 : RdL d (fun b => W ≤ b ∧ b ≠ vb ∧ some b ≠ vv.ownBlock) w A x.list)
    (h : ∀ g cap w', Row d W vb w' (.slice (some ⟨g, 0, none⟩) (acc.length + 2) cap) (acc ++ [y, x]) → (∀ j, j < w.heap.size → some j ≠ vv.ownBlock → w'.heap[j]? = w.heap[j]?) → w.heap.size ≤ w'.heap.size → w'.os = w.os → w'.tape = w.tape → w'.output = w.output → w'.cell? ⟨vb, 3, none⟩ = w.cell? ⟨vb, 3, none⟩ → w'.frozen? ⟨vb, 3, none⟩ = w.frozen? ⟨vb, 3, none⟩ →
      K (a.put o.dst (.slice (some ⟨g, 0, none⟩) (acc.length + 2) cap)) w') :
    if Region.wanted o (yielded ops a.tmps) = true then Oper.wp Tryd.prog o a (w.alloc (.cells #[.int .i64 y.kind, .int .i64 y.num, .string ⟨y.text.toArray⟩, .slice B y.list.length b, .int .i64 x.kind, .int .i64 x.num, .string ⟨x.text.toArray⟩, .slice A x.list.length c] 24)) K Q else E := by
  obtain ⟨i0, hi, hz0, hz1, hz2⟩ := info_parts infoCbor
  obtain ⟨ps, h1, h2, h3, h4⟩ := hr
  have hlt0 : ∀ g, vv.ownBlock = some g → g < w.heap.size := fun g hg => (h2.lt g hg).2
  refine step_append_lies _ hgd s z 22 ho W 24 i0 _ 4 56 Tryd.underlying22 hi hz0 hz1 hz2 rfl (by decide) vv acc.length _ hs (h2.alloc _) ⟨w.heap.size, 0, none⟩ 2 2 (itC (y, B, b) ++ itC (x, A, c)) hx rfl (World.news_of_block (heap_alloc_new w _)) (by simp [itC, Value.oneCell']) (by decide) (by unfold maxLen; omega) (by omega) (by simp; omega) (w.heap.size + 1) (by simp) ?_
  intro g cap w' hown hgrow hat hlt
  have hblk : ∀ j, j < w.heap.size → some j ≠ vv.ownBlock → w'.heap[j]? = w.heap[j]? := fun j hj hn => by
    rw [hgrow.block j (by simp; omega) hn]; exact Below.heap_alloc _ _ _ hj
  have hg : some vb ≠ (Value.slice (some ⟨g, 0, none⟩) (acc.length + 2) cap).ownBlock := by
    intro e
    have e : vb = g := by simpa [Value.ownBlock] using e
    rcases hat with h | h
    · rw [e] at h3; exact h3 h
    · omega
  refine h g cap w' ⟨ps ++ [(y, B, b), (x, A, c)], by simp [h1], by simpa [List.flatMap_cons] using hown, fun e => hg e.symm, fun p hp => ?_⟩ hblk (by have := hgrow.size; simp at this; omega) hgrow.os hgrow.tape hgrow.output (World.cell?_of_block (w := w) (hblk vb hvb (fun e => h3 e.symm))) (World.frozen?_of_block (w := w) (hblk vb hvb (fun e => h3 e.symm)))
  have key : ∀ {A' : Option Addr} {l : List It}, RdL d (fun b => W ≤ b ∧ b ≠ vb ∧ some b ≠ vv.ownBlock) w A' l → RdL d (fun b => W ≤ b ∧ b ≠ vb ∧ some b ≠ (Value.slice (some ⟨g, 0, none⟩) (acc.length + 2) cap).ownBlock) w' A' l := fun hh =>
    ((hh.lt.keep (by have := hgrow.size; simp at this; omega) (fun j hj _ => hblk j hj.2 hj.1.2.2)).mono fun j hj => ⟨hj.1.1, hj.1.2.1, fun e => by
      have e : j = g := by simpa [Value.ownBlock] using e
      rcases hat with h | h
      · exact hj.1.2.2 (by rw [e, h])
      · have := hj.2; omega⟩)
  rcases List.mem_append.1 hp with hp | hp
  · obtain ⟨p1, p2, p3⟩ := h4 p hp
    exact ⟨p1, p2, key p3⟩
  · have e : p = (y, B, b) ∨ p = (x, A, c) := by simpa using hp
    rcases e with rfl | rfl
    · exact ⟨hzy, hb, key hy2⟩
    · exact ⟨hz, hc, key hx2⟩
/-- what OkF.step says, at any further items -/
theorem OkF.step2 {d vb br : Nat} {s : List UInt8} {a2 outer : Nat} {w w4 w5 : World} {vv : Value} {acc acc' : List It} {t : It} {A : Option Addr} {p q r : Value} {rv : Array Value} (u : Value) (h : OkF d vb br s a2 outer w w4 vv acc t A #[p, q, r, vv] rv) (hbr : br < w.heap.size) (hvb : w.heap.size < vb)
    (row5 : Row d (w.heap.size + 1) vb w5 u acc') (blk5 : ∀ j, j < w4.heap.size → some j ≠ vv.ownBlock → w5.heap[j]? = w4.heap[j]?) (siz5 : w4.heap.size ≤ w5.heap.size) (os5 : w5.os = w4.os) (tp5 : w5.tape = w4.tape) (out5 : w5.output = w4.output) :
    Rdr br s a2 outer (w5.setCell ⟨vb, 3, none⟩ u) ∧ Keeps br w (w5.setCell ⟨vb, 3, none⟩ u) ∧ (w5.setCell ⟨vb, 3, none⟩ u).heap[w.heap.size]? = some (.cells rv 24 (0, 0)) ∧ (w5.setCell ⟨vb, 3, none⟩ u).heap[vb]? = some (.cells #[p, q, r, u] 24 (0, 0)) ∧ vb < (w5.setCell ⟨vb, 3, none⟩ u).heap.size ∧
      Row d (w.heap.size + 1) vb (w5.setCell ⟨vb, 3, none⟩ u) u acc' := by
  obtain ⟨ps, _, h3, h4, _⟩ := h.row
  have hlow : ∀ j, j ≤ w.heap.size → some j ≠ vv.ownBlock := fun j hj e => by have := (h3.lt j e.symm).1; omega
  have hv := (Array.getElem?_eq_some_iff.1 h.box).1
  have hb : ∀ j, j < w4.heap.size → j ≠ vb → some j ≠ vv.ownBlock → (w5.setCell ⟨vb, 3, none⟩ u).heap[j]? = w4.heap[j]? := fun j hj hn ho => by
    rw [Below.heap_setCell _ _ _ _ hn]; exact blk5 j hj ho
  have hws := h.keeps.size
  have hbox5 : w5.heap[vb]? = some (.cells #[p, q, r, vv] 24 (0, 0)) := (blk5 vb hv (fun e => h4 e.symm)).trans h.box
  refine ⟨(hb br (by omega) (by omega) (hlow br (by omega))).trans h.rdr, ?_, (hb _ (by omega) (by omega) (hlow _ (Nat.le_refl _))).trans h.res, vset hbox5, by simp [World.setCell]; omega, row5.setv 3 u⟩
  exact ⟨os5.trans h.keeps.os, tp5.trans h.keeps.tape, out5.trans h.keeps.output, by simp [World.setCell]; omega, fun j hj hn => (hb j (by omega) (by omega) (hlow j (by omega))).trans (h.keeps.block j hj hn)⟩

set_option maxHeartbeats 1000000 in
set_option maxRecDepth 100000 in
theorem pairs_deep (V : List UInt8 → Bool) (d br : Nat) (s : List UInt8) (a outer n : Nat) (w : World) (hR : Rdr br s a outer w) (ho : 16 ≤ outer) :
    Calls Tryd.prog 45 #[.pointer (some ⟨br, 0, none⟩), .int .i64 n] w fun e w' => RdR d br s a outer w w' (body V Option.none 5 n (s.drop a)) e := by
  have hal : Below w.heap.size w (w.alloc (.cells #[.int .i64 0, .int .i64 0, .string ⟨#[]⟩, .slice none 0 0] 24)) := (Below.refl _ _).alloc (Nat.le_refl _) _
  have HR := Lib.hid (hR.below hal)
  have HA := Lib.hid hal
  clear hR hal
  go_enter Tryd.func45, Tryd.ntmps45
  go_wp2_with fail
  refine (enter_no br s a outer _ HR.out ho).mono ?_
  rintro e w1 ⟨rfl, rfl⟩
  exact ⟨rfl, RdR.err true (body_5n _ _ _) (Keeps.of HA.out)⟩

set_option maxHeartbeats 4000000 in
set_option maxRecDepth 100000 in
theorem pairs_rd (V : List UInt8 → Bool) (f : List UInt8 → Res It) (d br : Nat) (s : List UInt8) (a outer n : Nat) (w : World) (hT : Tb w) (hbr : 2 ≤ br) (hR : Rdr br s a outer w) (hs : s.length ≤ 4096) (ha : a ≤ s.length) (hn : n ≤ 9223372036854775807) (ho : outer < 16)
    (ih : ∀ (a : Nat) (w : World), Tb w → Rdr br s a (outer + 1) w → a ≤ s.length → Calls Tryd.prog 18 #[.pointer (some ⟨br, 0, none⟩)] w fun e w' => RdR d br s (a + 1) (outer + 1) w w' (f (s.drop a)) e) :
    Calls Tryd.prog 45 #[.pointer (some ⟨br, 0, none⟩), .int .i64 n] w fun e w' => RdR (d + 1) br s a outer w w' (body V (some f) 5 n (s.drop a)) e := by
  have hal : Below w.heap.size w (w.alloc (.cells #[.int .i64 0, .int .i64 0, .string ⟨#[]⟩, .slice none 0 0] 24)) := (Below.refl _ _).alloc (Nat.le_refl _) _
  have HR := Lib.hid (hR.below hal)
  have HA := Lib.hid hal
  have hlt := hR.lt
  have HQ := Lib.hid (Go.heap_alloc_new w (.cells #[.int .i64 0, .int .i64 0, .string ⟨#[]⟩, .slice none 0 0] 24))
  have HTb := Lib.hid hT
  have IH := Lib.hid ih
  clear hR hal hT ih
  go_enter Tryd.func45, Tryd.ntmps45
  go_wp2_with fail
  refine (enter_yes br s a outer _ HR.out ho).mono ?_
  rintro e w1 ⟨rfl, r1, k1⟩
  have hs1 : w.heap.size + 1 ≤ w1.heap.size := by have := k1.size; simpa using this
  have hal1 : Below w1.heap.size w1 (w1.alloc (.cells #[.int .i64 4, .int .i64 0, .string ⟨#[]⟩, .slice none 0 0] 24)) := (Below.refl _ _).alloc (Nat.le_refl _) _
  have R2 := Lib.hid (r1.below hal1)
  have K2 := Lib.hid (((Keeps.of HA.out).trans k1).below hal1)
  have Q2 := Lib.hid ((hal1.block _ (by omega)).trans (k1.heap HQ.out (by omega)))
  have V2 := Lib.hid (Go.heap_alloc_new w1 (.cells #[.int .i64 4, .int .i64 0, .string ⟨#[]⟩, .slice none 0 0] 24))
  have hs2 : w1.heap.size + 1 ≤ (w1.alloc (.cells #[.int .i64 4, .int .i64 0, .string ⟨#[]⟩, .slice none 0 0] 24)).heap.size := by simp
  clear r1 k1 hal1
  go_wp2_with fail
  generalize hvb : w1.heap.size = vb at V2 hs1 hs2 ⊢
  generalize w1.alloc (.cells #[.int .i64 4, .int .i64 0, .string ⟨#[]⟩, .slice none 0 0] 24) = w2 at R2 K2 Q2 V2 hs2 ⊢
  clear hvb
  go_loopw [6, 13] (fun lv i wr => ∃ (k : Nat) (acc : List It) (a' : Nat) (vv : Value) (last : List UInt8), k ≤ n ∧ i = .int .i64 k ∧ lv = .string ⟨last.toArray⟩ ∧ acc.length = 2 * k ∧ a + 2 * k ≤ a' ∧ a' ≤ s.length ∧ Hid (Rdr br s a' (outer + 1) wr) ∧ Hid (Keeps br w wr) ∧ Hid (wr.heap[w.heap.size]? = some (.cells #[.int .i64 0, .int .i64 0, .string ⟨#[]⟩, .slice none 0 0] 24 (0, 0))) ∧
      Hid (wr.heap[vb]? = some (.cells #[.int .i64 4, .int .i64 0, .string ⟨#[]⟩, vv] 24 (0, 0))) ∧ vb < wr.heap.size ∧ Hid (Row d (w.heap.size + 1) vb wr vv acc) ∧ Hid (decP f n [] (s.drop a) = contN acc (decP f (n - k) last (s.drop a')))) (fun _ i _ => n - (intOf i).toNat)
  case atStart => exact ⟨0, [], a, _, [], by omega, rfl, rfl, rfl, by omega, ha, R2, K2, Q2, V2, by omega, Lib.hid (Row.nil _ _ _ _), Lib.hid (by rw [contN_nil]; rfl)⟩
  case round =>
    obtain ⟨k, acc, a', vv, last, hk, rfl, rfl, hacc, hka, ha', HRr, HKr, HQr, HVr, hvlt, HRow, HD⟩ := hrel
    by_cases hlk : k < n
    · have HAcc := Lib.hid hacc
      clear hacc
      have hwr : w.heap.size + 1 ≤ wr.heap.size := by have := (Array.getElem?_eq_some_iff.1 HQr.out).1; omega
      have hlen : acc.length ≤ 1073741824 := by have := HAcc.out; omega
      have HI := IH.out a' wr (HTb.out.keeps HKr.out hbr) HRr.out ha'
      obtain ⟨_, g1, _, _, _⟩ := HRr.out.facts
      match hres : f (s.drop a'), HI with
      | .error deep, HI =>
        have HE : Hid (body V (some f) 5 n (s.drop a) = .error deep) := Lib.hid (by
          rw [body_5, HD.out, show n - k = (n - k - 1) + 1 from by omega, contP_err1 acc _ hres]; rfl)
        have HIp := Lib.hid HI
        clear HI hres
        go_wp2_with fail
        refine HIp.out.mono ?_
        rintro e w' ⟨rfl, hF⟩
        exact ⟨rfl, RdR.err deep HE.out (HKr.out.trans hF)⟩
      | .ok (key, rest), HI =>
        have HX : Hid (Calls Tryd.prog 18 #[.pointer (some ⟨br, 0, none⟩)] wr fun e w4 => ∃ A4 c4 a4, c4 ≤ 9223372036854775807 ∧ a' + 1 ≤ a4 ∧ a4 ≤ s.length ∧ rest = s.drop a4 ∧ e = .returned (.agg #[.int .i64 key.kind, .int .i64 key.num, .string ⟨key.text.toArray⟩, .slice A4 key.list.length c4]) ∧
            OkF d vb br s a4 (outer + 1) w w4 vv acc key A4 #[.int .i64 4, .int .i64 0, .string ⟨#[]⟩, vv] #[.int .i64 0, .int .i64 0, .string ⟨#[]⟩, .slice none 0 0]) := Lib.hid (HI.mono fun e w4 h => by
          obtain ⟨A4, c4, a4, h1, h2, h3, h4, h5, h6, h7, _, h8, h9⟩ := h
          exact ⟨A4, c4, a4, h1, h2, h3, h4, h5, OkF.of (vb := vb) (wr := wr) h6 h7 h8 h9 HKr.out HQr.out HVr.out HRow.out hlt (by omega)⟩)
        have HRes := Lib.hid hres
        clear HI hres
        go_wp2_with fail
        refine HX.out.mono ?_
        rintro e w4 ⟨A4, c4, a4, hc4, hlo4, ha4, hrest4, rfl, hok4⟩
        have HC : Hid ((s.drop a').take ((s.drop a').length - rest.length) = (s.drop a').take (a4 - a')) := Lib.hid (by rw [hrest4]; simp only [List.length_drop]; congr 1; omega)
        have hex : (⟨s.toArray⟩ : ByteArray).extract a' a4 = ⟨((s.drop a').take (a4 - a')).toArray⟩ := by
          have := ext_ba s a' (a4 - a')
          rwa [show a' + (a4 - a') = a4 from by omega] at this
        have HR4 := Lib.hid hrest4
        generalize (s.drop a').take (a4 - a') = C at HC hex ⊢
        have HEX := Lib.hid hex
        have hal4 : Below w4.heap.size w4 (w4.alloc (.cells #[.int .i64 key.kind, .int .i64 key.num, .string ⟨key.text.toArray⟩, .slice A4 key.list.length c4] 24)) := (Below.refl _ _).alloc (Nat.le_refl _) _
        have HO5 := Lib.hid (hok4.below hal4)
        have HB5 := Lib.hid (Go.heap_alloc_new w4 (.cells #[.int .i64 key.kind, .int .i64 key.num, .string ⟨key.text.toArray⟩, .slice A4 key.list.length c4] 24))
        have hs5 : w4.heap.size + 1 ≤ (w4.alloc (.cells #[.int .i64 key.kind, .int .i64 key.num, .string ⟨key.text.toArray⟩, .slice A4 key.list.length c4] 24)).heap.size := by simp
        have hv4 : vb < w4.heap.size := (Array.getElem?_eq_some_iff.1 hok4.box).1
        have hw4 : w.heap.size + 1 ≤ w4.heap.size := (Array.getElem?_eq_some_iff.1 hok4.res).1
        clear hok4 hal4 hrest4 hex HX g1
        go_wp2_with fail
        generalize hkb : w4.heap.size = kb at HB5 hs5 hv4 hw4 ⊢
        generalize w4.alloc (.cells #[.int .i64 key.kind, .int .i64 key.num, .string ⟨key.text.toArray⟩, .slice A4 key.list.length c4] 24) = w5 at HO5 HB5 hs5 ⊢
        clear hkb
        -- the test
        obtain ⟨r0, r1, _, _, _⟩ := HO5.out.rdr.facts
        have b0 := cellOf HB5.out 0
        have b1 := cellOf HB5.out 1
        have b2 := cellOf HB5.out 2
        have b3 := cellOf HB5.out 3
        simp at b0 b1 b2 b3
        have hex := HEX.out
        have hza : (a' : Int) ≤ (a4 : Int) := by omega
        have hzb : (a4 : Int) ≤ (s.length : Int) := by omega
        have hzc : a' ≤ a4 := by omega
        by_cases hkey : isKey key = true
        rotate_left
        · have hkey : isKey key = false := by simpa using hkey
          have HE : Hid (body V (some f) 5 n (s.drop a) = .error false) := Lib.hid (by
            rw [body_5, HD.out, show n - k = (n - k - 1) + 1 from by omega, contP_bad acc _ HRes.out (by rw [HC.out, hkey]; simp)]; rfl)
          have hc0 := fun w' => isKey_any key A4 c4 w'
          rw [hkey] at hc0
          unfold itV at hc0
          have HCK : Hid (∀ d os, Calls Tryd.prog 53 _ (grow (redrawn w5 d) os) fun e w'' => e = .returned (.bool false) ∧ ∃ p : Regrown, w'' = grow (redrawn w5 p.d) p.os) := Lib.hid fun d os => Calls.regrown_of (hc0 _)
          have kr0 := cell_regrown r0
          have kr1 := cell_regrown r1
          have kb0 := cell_regrown b0
          have kb1 := cell_regrown b1
          have kb2 := cell_regrown b2
          have kb3 := cell_regrown b3
          clear hc0 r0 r1 b0 b1 b2 b3 hkey
          refine wp_region_last 16 36 37 (.bool false) mixed (by kernel_rfl) rfl ?_ ?_
          · rintro a0 w6 K ⟨⟨dq, osq⟩, rfl⟩ hdf hev
            refine call_panics rfl (fun _ _ => rfl) ?_
            rw [hev]
            refine (must_no _).mono ?_
            rintro e w' ⟨rfl, hw⟩
            exact ⟨_, rfl, hdf, RdR.err false HE.out (hw ▸ HO5.out.keeps.below (below_regrown w5 dq osq))⟩
          simp only [List.set_cons_succ, List.set_cons_zero, aside]
          repeat (first | go_big_quiet_step (with_reducible exact HCK.out _ _) | quiet_step (with_reducible exact HCK.out _ _))
          refine wpQuiet_nil ?_
          rfl
        by_cases hless : Op.bytesLess last C = true
        rotate_left
        · have hless : Op.bytesLess last C = false := by simpa using hless
          have HE : Hid (body V (some f) 5 n (s.drop a) = .error false) := Lib.hid (by
            rw [body_5, HD.out, show n - k = (n - k - 1) + 1 from by omega, contP_bad acc _ HRes.out (by rw [HC.out]; rw [← less_eq, hless]; simp)]; rfl)
          have hc0 := fun w' => isKey_any key A4 c4 w'
          rw [hkey] at hc0
          unfold itV at hc0
          have HCK : Hid (∀ d os, Calls Tryd.prog 53 _ (grow (redrawn w5 d) os) fun e w'' => e = .returned (.bool true) ∧ ∃ p : Regrown, w'' = grow (redrawn w5 p.d) p.os) := Lib.hid fun d os => Calls.regrown_of (hc0 _)
          have kr0 := cell_regrown r0
          have kr1 := cell_regrown r1
          have kb0 := cell_regrown b0
          have kb1 := cell_regrown b1
          have kb2 := cell_regrown b2
          have kb3 := cell_regrown b3
          clear hc0 r0 r1 b0 b1 b2 b3 hkey
          refine wp_region_last 16 36 37 (.bool false) mixed (by kernel_rfl) rfl ?_ ?_
          · rintro a0 w6 K ⟨⟨dq, osq⟩, rfl⟩ hdf hev
            refine call_panics rfl (fun _ _ => rfl) ?_
            rw [hev]
            refine (must_no _).mono ?_
            rintro e w' ⟨rfl, hw⟩
            exact ⟨_, rfl, hdf, RdR.err false HE.out (hw ▸ HO5.out.keeps.below (below_regrown w5 dq osq))⟩
          simp only [List.set_cons_succ, List.set_cons_zero, aside]
          repeat (first | go_big_quiet_step (with_reducible exact HCK.out _ _) | quiet_step (with_reducible exact HCK.out _ _))
          refine wpQuiet_nil ?_
          rfl
        have hcond : Hid ((isKey key && decide (last < (s.drop a').take ((s.drop a').length - rest.length))) = true) := Lib.hid (by rw [HC.out, hkey, ← less_eq, hless]; rfl)
        have hc0 := fun w' => isKey_any key A4 c4 w'
        rw [hkey] at hc0
        unfold itV at hc0
        have HCK : Hid (∀ d os, Calls Tryd.prog 53 _ (grow (redrawn w5 d) os) fun e w'' => e = .returned (.bool true) ∧ ∃ p : Regrown, w'' = grow (redrawn w5 p.d) p.os) := Lib.hid fun d os => Calls.regrown_of (hc0 _)
        have HM : Hid (∀ d os, Calls Tryd.prog 38 #[.bool true] (grow (redrawn w5 d) os) fun e w'' => e = .returned (.tuple #[]) ∧ ∃ p : Regrown, w'' = grow (redrawn w5 p.d) p.os) := Lib.hid fun d os => Calls.regrown_of ((must_yes _).mono fun _ _ ⟨he, hw⟩ => ⟨he, hw ▸ Below.refl _ _⟩)
        have kr0 := cell_regrown r0
        have kr1 := cell_regrown r1
        have kb0 := cell_regrown b0
        have kb1 := cell_regrown b1
        have kb2 := cell_regrown b2
        have kb3 := cell_regrown b3
        clear hc0 r0 r1 b0 b1 b2 b3
        refine wp_region_quiet_below mixed (by kernel_rfl) ?_
        repeat (first | go_big_quiet_step (first | (with_reducible exact HCK.out _ _) | (with_reducible exact HM.out _ _)) | quiet_step (first | (with_reducible exact HCK.out _ _) | (with_reducible exact HM.out _ _)))
        refine wpQuiet_nil ?_
        intro _ hw'
        obtain ⟨⟨dq, osq⟩, hw''⟩ := hw'
        subst hw''
        have hbq := below_regrown w5 dq osq
        have HO6 := Lib.hid (HO5.out.below hbq)
        have HB6 := Lib.hid ((hbq.block _ (blk_lt HB5.out)).trans HB5.out)
        have hs6 : kb + 1 ≤ (grow (redrawn w5 dq) osq).heap.size := by have := hbq.size; omega
        clear HCK HM kr0 kr1 kb0 kb1 kb2 kb3 hbq
        generalize grow (redrawn w5 dq) osq = w6 at HO6 HB6 hs6 ⊢
        obtain ⟨r0, r1, _, _, _⟩ := HO6.out.rdr.facts
        go_wp2_with fail
        go_quiet (fail)
        have HO7 := Lib.hid (HO6.out.below (w5 := w6.drewN nq) ⟨rfl, rfl, rfl, Nat.le_refl _, fun _ _ => rfl⟩)
        have HB7 : Hid ((w6.drewN nq).heap[kb]? = some (.cells #[.int .i64 key.kind, .int .i64 key.num, .string ⟨key.text.toArray⟩, .slice A4 key.list.length c4] 24 (0, 0))) := HB6
        have hs7 : kb + 1 ≤ (w6.drewN nq).heap.size := hs6
        clear r0 r1 hex
        generalize w6.drewN nq = w7 at HO7 HB7 hs7 ⊢
        have b0 := cellOf HB7.out 0
        have b1 := cellOf HB7.out 1
        have b2 := cellOf HB7.out 2
        have b3 := cellOf HB7.out 3
        simp at b0 b1 b2 b3
        have hv7 : vb < w7.heap.size := (Array.getElem?_eq_some_iff.1 HO7.out.box).1
        have hw7 : w.heap.size + 1 ≤ w7.heap.size := (Array.getElem?_eq_some_iff.1 HO7.out.res).1
        have c3 : w7.cell? ⟨vb, 3, none⟩ = some vv := by rw [cellOf HO7.out.box]; rfl
        have f3 : w7.frozen? ⟨vb, 3, none⟩ = false := Lib.frozen_of_heap HO7.out.box 3
        have HI2 := IH.out a4 w7.drew (HTb.out.keeps HO7.out.keeps.drew hbr) HO7.out.rdr ha4
        rw [← HR4.out] at HI2
        match hres2 : f rest, HI2 with
        | .error deep, HI2 =>
          have HE : Hid (body V (some f) 5 n (s.drop a) = .error deep) := Lib.hid (by
            rw [body_5, HD.out, show n - k = (n - k - 1) + 1 from by omega, contP_err2 acc _ HRes.out hcond.out hres2]; rfl)
          have HIp : Hid (Calls Tryd.prog 18 #[.pointer (some ⟨br, 0, none⟩)] w7.drew fun e w' => e = .panicked [{ v := .iface 25 (.int .i64 (errN deep)), recovered := false }] ∧ Keeps br w7 w') := Lib.hid (HI2.mono fun e w' h => by
            obtain ⟨h1, h2⟩ := h
            exact ⟨h1, ⟨h2.os, h2.tape, h2.output, h2.size, h2.block⟩⟩)
          clear HI2 hres2
          go_wp2_with fail
          go_region_law (first | (refine stepRow2 (d := d) (W := w.heap.size + 1) (vb := vb) (w := w7) key It.none A4 none c4 0 (by rfl) _ _ (by rfl) (by rfl) (by rfl) HO7.out.row hw7 hv7 hlen HO7.out.sz hc4 HO7.out.rd ⟨by decide, by decide, by decide⟩ (by decide) (RdL.nil _ _ _ _) ?_; intro g cap w9 row9 blk9 siz9 os9 tp9 out9 cel9 frz9) | (go_simp; go_at_call 18; refine calls_panic (.agg #[.int .i64 0, .int .i64 0, .string ⟨#[]⟩, .slice none 0 0]) w7 HIp.out (fun w' hF => ⟨rfl, RdR.err deep HE.out (HO7.out.keeps.trans hF)⟩) (fun hf => ?_)))
          all_goals exact (Hid.out ‹Hid False›).elim
        | .ok (x, rest2), HI2 =>
          have HX2 : Hid (Calls Tryd.prog 18 #[.pointer (some ⟨br, 0, none⟩)] w7.drew fun e w8 => ∃ A8 c8 a8, c8 ≤ 9223372036854775807 ∧ a4 + 1 ≤ a8 ∧ a8 ≤ s.length ∧ rest2 = s.drop a8 ∧ e = .returned (.agg #[.int .i64 x.kind, .int .i64 x.num, .string ⟨x.text.toArray⟩, .slice A8 x.list.length c8]) ∧
              OkF d vb br s a8 (outer + 1) w w8 vv acc x A8 #[.int .i64 4, .int .i64 0, .string ⟨#[]⟩, vv] #[.int .i64 0, .int .i64 0, .string ⟨#[]⟩, .slice none 0 0] ∧ RdL d (fun b => w.heap.size + 1 ≤ b ∧ b ≠ vb ∧ some b ≠ vv.ownBlock) w8 A4 key.list ∧ w.heap.size + 1 ≤ w8.heap.size ∧ vb < w8.heap.size ∧ kb < w8.heap.size ∧ w8.cell? ⟨vb, 3, none⟩ = some vv ∧ w8.frozen? ⟨vb, 3, none⟩ = false ∧
              w8.cell? ⟨kb, 0, none⟩ = some (.int .i64 key.kind) ∧ w8.cell? ⟨kb, 1, none⟩ = some (.int .i64 key.num) ∧ w8.cell? ⟨kb, 2, none⟩ = some (.string ⟨key.text.toArray⟩) ∧ w8.cell? ⟨kb, 3, none⟩ = some (.slice A4 key.list.length c4)) := Lib.hid (HI2.mono fun e w8 h => by
            obtain ⟨A8, c8, a8, h1, h2, h3, h4, h5, h6, h7, _, h8, h9⟩ := h
            have h9 : Keeps br w7 w8 := ⟨h9.os, h9.tape, h9.output, h9.size, h9.block⟩
            have hok := OkF.of (vb := vb) (wr := w7) h6 h7 h8 h9 HO7.out.keeps HO7.out.res HO7.out.box HO7.out.row hlt (by omega)
            have hkb := h9.heap HB7.out (by omega)
            exact ⟨A8, c8, a8, h1, h2, h3, h4, h5, hok, HO7.out.rd.keep h9.size (fun j hj hl => h9.block j hl (by have := hj.1; simp; omega)), (Array.getElem?_eq_some_iff.1 hok.res).1, (Array.getElem?_eq_some_iff.1 hok.box).1, blk_lt hkb, by rw [cellOf hok.box]; rfl, Lib.frozen_of_heap hok.box 3, by rw [cellOf hkb]; rfl, by rw [cellOf hkb]; rfl, by rw [cellOf hkb]; rfl, by rw [cellOf hkb]; rfl⟩)
          have HRes2 := Lib.hid hres2
          clear HI2 hres2
          go_wp2_with fail
          go_region_law (first | (refine stepRow2 (d := d) (W := w.heap.size + 1) (vb := vb) (w := w8) key x A4 A8 c4 c8 (by rfl) _ _ (by rfl) (by rfl) (by rfl) hok8.out.row hw8 hv8 hlen HO7.out.sz hc4 hrd8.out hok8.out.sz hc8 hok8.out.rd ?_; intro g cap w9 row9 blk9 siz9 os9 tp9 out9 cel9 frz9) | (go_simp; go_at_call 18; refine HX2.out.mono ?_; rintro e w8 ⟨A8, c8, a8, hc8, hlo8, ha8, hrest8, rfl, hok8', hrd8', hw8, hv8, hk8, hcell8, hfrz8, k80, k81, k82, k83⟩; have hok8 := Lib.hid hok8'; have hrd8 := Lib.hid hrd8'; have HR8 := Lib.hid hrest8; clear hok8' hrd8' hrest8))
          all_goals
            obtain ⟨s1, s2, s3, s4, s5, s6⟩ := hok8.out.step2 (.slice (some ⟨g, 0, none⟩) (acc.length + 2) cap) hlt (by omega) row9 blk9 siz9 os9 tp9 out9
            have T1 := Lib.hid s1
            have T2 := Lib.hid s2
            have T3 := Lib.hid s3
            have T4 := Lib.hid s4
            have T6 := Lib.hid s6
            clear s1 s2 s3 s4 s6 row9 blk9 siz9 os9 tp9 out9 cel9 frz9 hcell8 hfrz8 k80 k81 k82 k83
            go_wp2_with fail
            go_roundw
            case rel => exact ⟨k + 1, acc ++ [key, x], a8, _, C, by omega, by go_num, rfl, by have := HAcc.out; simp; omega, by omega, ha8, T1, T2, T3, T4, s5, T6, Lib.hid (by
              rw [HD.out, show n - k = (n - (k + 1)) + 1 from by omega, contP_ok acc _ HRes.out hcond.out HRes2.out, HC.out, HR8.out])⟩
            case measure => simp [intOf]; omega
    · have HE : Hid (body V (some f) 5 n (s.drop a) = .ok (.mk 4 0 [] acc, s.drop a')) := Lib.hid (by
        rw [body_5, HD.out, show n - k = 0 from by omega]
        show finL 4 (.ok (acc ++ [], s.drop a')) = _
        rw [List.append_nil]; rfl)
      have HAcc := Lib.hid hacc
      clear hacc
      have hlen : acc.length ≤ 1073741824 := by have := HAcc.out; omega
      obtain ⟨A, cap, rfl, hcap, hrd, htop⟩ := HRow.out.reads hlen
      have HRD := Lib.hid hrd
      have HTop := Lib.hid htop
      obtain ⟨_, g1, g2, _, g4⟩ := HRr.out.facts
      have c0 := cellOf HVr.out 0
      have c1 := cellOf HVr.out 1
      have c2 := cellOf HVr.out 2
      have c3 := cellOf HVr.out 3
      have z0 := cellOf HQr.out 0
      have z1 := cellOf HQr.out 1
      have z2 := cellOf HQr.out 2
      have z3 := cellOf HQr.out 3
      simp at c0 c1 c2 c3 z0 z1 z2 z3
      have y0 := Lib.frozen_of_heap HQr.out 0
      have y1 := Lib.frozen_of_heap HQr.out 1
      have y2 := Lib.frozen_of_heap HQr.out 2
      have y3 := Lib.frozen_of_heap HQr.out 3
      clear hrd htop
      go_wp2_with fail
      refine bodyPost_ret (v := itV (It.mk 4 0 [] acc) A cap) (by simp [itV, It.kind, It.num, It.text, It.list, results, Tryd.results45, go_sem, z0, z1, z2, z3]) rfl ?_
      refine RdR.ok (It.mk 4 0 [] acc) A cap a' HE.out hcap (by omega) ha' ⟨by show (_ : Int) ≤ 0; omega, by show (0 : Int) ≤ _; omega, by simp [It.text]⟩ ?_ ?_ ((HRr.out.set2 outer).set4 (by omega)) ((HKr.out.setCell 2 _).set4 (by omega))
      · exact ((HRD.out.setbr (by omega) 2 _).set4 (k := w.heap.size) (by omega)).mono fun b hb => by omega
      · exact ((HTop.out.setbr (by omega) 2 _).set4 (k := w.heap.size) (by omega)).mono (by omega)
end Go.Proofs.YtghdcgokndmkjaaDoor
