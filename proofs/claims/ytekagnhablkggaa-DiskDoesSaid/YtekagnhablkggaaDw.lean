/- DiskDoes' walk: every call, in every order, on a disk of any bytes and on clones of it, tells what the document says. Conditions: that the numbers are int64, and the texts' and the rows' lengths. -/
import Derived.Test.YtekagnhablkggaaBl
set_option linter.unusedVariables false
set_option linter.unusedSimpArgs false
set_option maxRecDepth 100000
namespace Go.Proofs.Ytekagnhablkggaa
open Go.RowKit Go.Sort

/-! rows of pointers -/
def pcs (l : List Nat) : List Value := l.map fun b => .pointer (some ⟨b, 0, none⟩)
theorem pcs_len (l : List Nat) : (pcs l).length = l.length := by simp [pcs]
theorem pcs_app (a b : List Nat) : pcs (a ++ b) = pcs a ++ pcs b := by simp [pcs]
theorem u32 : Try.prog.underlying 32 = some (.slice 24) := by kernel_rfl
theorem u33 : Try.prog.underlying 33 = some (.slice 28) := by kernel_rfl
theorem infoX : (Try.prog.info? 24).map (fun i => (i.zero, i.size, i.bytes)) = some (some (.pointer none), 1, 8) := by kernel_rfl
theorem infoY : (Try.prog.info? 28).map (fun i => (i.zero, i.size, i.bytes)) = some (some (.pointer none), 1, 8) := by kernel_rfl
def Rw (e : TypeId) (w : World) (g c : Nat) (l : List Nat) : Prop := w.ownsRow 0 e 1 (.slice (some ⟨g, 0, none⟩) l.length c) l.length (pcs l)
theorem Rw.of {e : TypeId} {w w' : World} {g c : Nat} {l : List Nat} (h : Rw e w g c l) (k : w'.heap[g]? = w.heap[g]?) : Rw e w' g c l := by
  obtain ⟨hl, ⟨hv, _⟩ | ⟨q, cap, cur, hv, hb, hg, rest⟩⟩ := h
  · cases hv
  · cases hv
    exact ⟨hl, .inr ⟨_, _, cur, rfl, hb, k.trans hg, rest⟩⟩
theorem Rw.lt {e : TypeId} {w : World} {g c : Nat} {l : List Nat} (h : Rw e w g c l) : g < w.heap.size := (World.ownsRow.lt h g rfl).2
theorem Rw.below {e : TypeId} {w w' : World} {g c : Nat} {l : List Nat} (h : Rw e w g c l) (hb : Below w.heap.size w w') : Rw e w' g c l := h.of (hb.block _ h.lt)
theorem Rw.typ {e : TypeId} {w : World} {g c : Nat} {l : List Nat} (h : Rw e w g c l) : ∃ cur, w.heap[g]? = some (.cells cur e (0, 0)) := by
  obtain ⟨_, ⟨hv, _⟩ | ⟨q, cap, cur, hv, _, hg, _⟩⟩ := h
  · cases hv
  · cases hv
    exact ⟨cur, hg⟩
theorem Rw.cell {e : TypeId} {w : World} {g c : Nat} {l : List Nat} (h : Rw e w g c l) (i : Nat) (hi : i < l.length) : w.cell? ⟨g, i, none⟩ = some (.pointer (some ⟨l[i], 0, none⟩)) := by
  have := World.ownsRow.cells h (g := g) rfl i (.pointer (some ⟨l[i], 0, none⟩)) (by simp [pcs, hi])
  rwa [at0] at this
theorem Rw.one {e : TypeId} {w : World} {g b : Nat} (h : Bk e w g #[.pointer (some ⟨b, 0, none⟩)]) : Rw e w g 1 [b] :=
  ⟨rfl, .inr ⟨g, 1, _, rfl, Nat.zero_le _, h, Nat.le_refl _, by unfold maxLen; omega, rfl, rfl⟩⟩
theorem app_row (t e : TypeId) (ht : Try.prog.underlying t = some (.slice e)) (hinfo : (Try.prog.info? e).map (fun i => (i.zero, i.size, i.bytes)) = some (some (.pointer none), 1, 8))
    {W : World} {g c b : Nat} {l : List Nat} (ty : TypeId) (h : Rw e W g c l) (q cq : Nat) (hq : Bk e W q #[.pointer (some ⟨b, 0, none⟩)]) (hl : l.length ≤ 4000000000000) (n : Nat) (hn : n = l.length) :
    ∃ g' c' w', (Builtin.append_ #[t, t] ty #[.slice (some ⟨g, 0, none⟩) n c, .slice (some ⟨q, 0, none⟩) 1 cq]).run Try.prog W = .ok (.slice (some ⟨g', 0, none⟩) (n + 1) c') w' ∧ Rw e w' g' c' (l ++ [b]) ∧ Only [g] W w' ∧ (g' = g ∨ W.heap.size ≤ g') := by
  subst hn
  obtain ⟨i0, hi, hz0, hz1, hz2⟩ := info_parts hinfo
  obtain ⟨v', w', hrun, ho, hgr, hv, hnil⟩ := app_own W t ty e i0 (.pointer none) 1 8 ht hi hz0 hz1 hz2 rfl (by decide) _ l.length (pcs l) h ⟨q, 0, none⟩ 1 cq (pcs [b]) rfl (by
    intro j u hu
    rw [at0, hq.cell]
    match j with
    | 0 => simpa [pcs] using hu
    | j + 1 => simp [pcs] at hu) (by
    intro u hu
    simp only [pcs, List.map_cons, List.map_nil, List.mem_singleton] at hu
    subst hu
    rfl) (by unfold maxLen; omega) (by omega)
  obtain ⟨g', c', hv'⟩ := owns_slice ho (fun e => by have := hnil e; cases this)
  subst hv'
  refine ⟨g', c', w', hrun, ?_, ⟨hgr.os, hgr.tape, hgr.output, hgr.size, fun k hk hL => hgr.block k hk (fun e => hL (by cases e; simp))⟩, ?_⟩
  · unfold Rw
    rw [List.length_append, pcs_app]
    exact ho
  · rcases hv with e | e
    · cases e; exact .inl rfl
    · exact .inr (e g' rfl)
section
variable {B : Nat} {w0 w : World} {ds es : List (Nat × St)} {L : List Nat}
/-- a block of L is turned: no disk lies there -/
theorem Gf.turn {w' : World} (h : Gf B w0 w ds es L) {g : Nat} (hg : g ∈ L) (hB : B ≤ g) {T : TypeId} (hT : ∃ cur, w.heap[g]? = some (.cells cur T (0, 0))) (hT1 : T ≠ 79) (ho : Only [g] w w') {M : List Nat} (hM : ∀ q ∈ M, q ∈ L ∨ (w.heap.size ≤ q ∧ q < w'.heap.size)) : Gf B w0 w' ds es (M ++ L) := by
  obtain ⟨K, hL, hC, hE⟩ := h
  have hko : ∀ k ∈ K, k ≠ g → w'.heap[k]? = w.heap[k]? := fun k hk hne => ho.block k (hC.kept k hk) (by simpa using hne)
  refine ⟨M.filter (fun q => decide (w.heap.size ≤ q ∧ q < w'.heap.size)) ++ K, ?_, hC.refs (hL g hg).1 hB ho ?_, ?_, ?_⟩
  · intro k hk
    rcases List.mem_append.1 hk with h1 | h1
    · rcases hM k h1 with h2 | h2
      · exact ⟨List.mem_append.2 (.inr (hL k h2).1), (hL k h2).2⟩
      · refine ⟨List.mem_append.2 (.inl (List.mem_filter.2 ⟨h1, by simpa using h2⟩)), fun i r S hi e => ?_⟩
        have := hC.kept r (hE.disk i r S hi).1
        omega
    · exact ⟨List.mem_append.2 (.inr (hL k h1).1), (hL k h1).2⟩
  · intro q hq
    have := (List.mem_filter.1 hq).2
    simpa using this
  · intro i r S hi
    obtain ⟨h1, h2, uv, kp, R, hu⟩ := hE.disk i r S hi
    refine ⟨List.mem_append.2 (.inr h1), h2, uv, kp, R.kept (hko r h1 ((hL g hg).2 i r S hi)) (fun q e => hko q (hu q e) (fun e2 => ?_)), fun q e => List.mem_append.2 (.inr (hu q e))⟩
    subst e2
    obtain ⟨cur, hcur⟩ := hT
    obtain ⟨_, ⟨rfl, _⟩ | ⟨q', cap, cur', rfl, _, hq', _⟩⟩ := R.row
    · cases e
    · cases e
      rw [hcur] at hq'
      cases hq'
      exact hT1 rfl
  · exact hE.ne
theorem Gf.start {w1 w2 : World} {p : Fp} {S : St} {r : Nat} (hO : Own w.heap.size w w1 p S) (hb : Below w1.heap.size w1 w2) (hr : w1.heap.size ≤ r) (hr2 : r < w2.heap.size) (R : Rk w2 r S (.slice none 0 0) 0) : Gf w.heap.size w w2 [(p.b, S)] [(r, S)] [] := by
  have hC := (Cf.one hO (Nat.le_refl _)).prot hb hr hr2
  refine ⟨[r], by simp, hC, fun i q T hi => ?_, fun i j q T T' hi hj => ?_⟩
  · match i with
    | 0 =>
      simp only [List.getElem?_cons_zero, Option.some.injEq, Prod.mk.injEq] at hi
      obtain ⟨rfl, rfl⟩ := hi
      exact ⟨by simp, Nat.le_trans hO.2.1.size hr, _, _, R, fun g e => by cases e⟩
    | i + 1 => simp at hi
  · match i, j with
    | 0, 0 => rfl
    | 0, j + 1 => simp at hj
    | i + 1, _ => simp at hi
end
theorem rnew_yes (v : Value) (l : List ByteArray) (w : World) (h : StrIn w v l) (x y : ByteArray) (hl : l = [x, y]) (hx : x.size ≤ 1048576) (hy : y.size ≤ 1048576) :
    Calls Try.prog 8 #[v] w fun e w' => e = .returned (.tuple #[.pointer (some ⟨w.heap.size, 0, none⟩), .int .i64 0]) ∧ Rk w' w.heap.size (St.new x.data.toList y.data.toList) (.slice none 0 0) 0 ∧ Below w.heap.size w w' ∧ w.heap.size < w'.heap.size := by
  subst hl
  obtain ⟨a, c, rfl, hc⟩ := h
  obtain ⟨b, o, rfl, hlt, hcell⟩ := hc (by simp)
  exact rnew_ok b o c x y w (by simpa using hcell 0 (by simp)) (by simpa using hcell 1 (by simp)) hx hy
theorem index32 (g c n i : Nat) (h : i < n) (w : World) : (Instr.indexAt 32 (.slice (some ⟨g, 0, none⟩) n c) (.int .i64 (i : Int))).run Try.prog w = .ok (.pointer (some ⟨g, i, none⟩)) w := by
  go_simp
theorem index33 (g c n i : Nat) (h : i < n) (w : World) : (Instr.indexAt 33 (.slice (some ⟨g, 0, none⟩) n c) (.int .i64 (i : Int))).run Try.prog w = .ok (.pointer (some ⟨g, i, none⟩)) w := by
  go_simp
/-- what the law's loop keeps -/
structure Inv (w wr : World) (gx cx gy cy : Nat) (bs rs : List Nat) (ss : List St) (M : List Nat) : Prop where
  lb : bs.length = ss.length
  lr : rs.length = ss.length
  pos : 0 < ss.length
  rx : Rw 24 wr gx cx bs
  ry : Rw 28 wr gy cy rs
  ne : gx ≠ gy
  bx : w.heap.size ≤ gx
  by_ : w.heap.size ≤ gy
  gf : Gf w.heap.size w wr (bs.zip ss) (rs.zip ss) (M ++ [gx, gy])
theorem Inv.down {w wr w' : World} {gx cx gy cy : Nat} {bs rs : List Nat} {ss : List St} {M : List Nat} (h : Inv w wr gx cx gy cy bs rs ss M) (hb : Below wr.heap.size wr w') : Inv w w' gx cx gy cy bs rs ss M :=
  ⟨h.lb, h.lr, h.pos, h.rx.below hb, h.ry.below hb, h.ne, h.bx, h.by_, h.gf.down hb⟩
theorem Inv.prot {w wr w' : World} {gx cx gy cy : Nat} {bs rs : List Nat} {ss : List St} (h : Inv w wr gx cx gy cy bs rs ss []) (hb : Below wr.heap.size wr w') {g : Nat} (hg : wr.heap.size ≤ g) (hg2 : g < w'.heap.size) : Inv w w' gx cx gy cy bs rs ss [g] :=
  ⟨h.lb, h.lr, h.pos, h.rx.below hb, h.ry.below hb, h.ne, h.bx, h.by_, h.gf.prot hb hg hg2⟩
theorem Inv.less {w wr : World} {gx cx gy cy : Nat} {bs rs : List Nat} {ss : List St} {M : List Nat} (h : Inv w wr gx cx gy cy bs rs ss M) : Inv w wr gx cx gy cy bs rs ss [] :=
  ⟨h.lb, h.lr, h.pos, h.rx, h.ry, h.ne, h.bx, h.by_, h.gf.less (fun k hk => List.mem_append.2 (.inr (by simpa using hk)))⟩
theorem zip_at {α β : Type} {l : List α} {m : List β} {i : Nat} (h1 : i < l.length) (h2 : i < m.length) : (l.zip m)[i]? = some (l[i], m[i]) := by
  rw [List.getElem?_zip_eq_some]
  exact ⟨List.getElem?_eq_getElem h1, List.getElem?_eq_getElem h2⟩
theorem zip_set {α β : Type} {l : List α} {m : List β} {i : Nat} (h1 : i < l.length) (b : β) : (l.zip m).set i (l[i], b) = l.zip (m.set i b) := by
  apply List.ext_getElem?
  intro j
  by_cases hj : j = i
  · subst hj
    by_cases h2 : j < m.length
    · rw [List.getElem?_set_self (by rw [List.length_zip]; omega), zip_at h1 (by rw [List.length_set]; exact h2)]
      simp
    · rw [List.getElem?_eq_none (by rw [List.length_set, List.length_zip]; omega), List.getElem?_eq_none (by rw [List.length_zip, List.length_set]; omega)]
  · rw [List.getElem?_set_ne (fun e => hj e.symm)]
    apply Option.ext
    intro x
    rw [List.getElem?_zip_eq_some, List.getElem?_zip_eq_some, List.getElem?_set_ne (fun e => hj e.symm)]
theorem Inv.played {w wr w' : World} {gx cx gy cy q bq rq : Nat} {bs rs : List Nat} {ss : List St} {M : List Nat} {S' : St} (h : Inv w wr gx cx gy cy bs rs ss M) (hb : bs[q]? = some bq) (hr : rs[q]? = some rq)
    (hg : Gf w.heap.size w w' ((bs.zip ss).set q (bq, S')) ((rs.zip ss).set q (rq, S')) (M ++ [gx, gy])) (hk : Kept (M ++ [gx, gy]) wr w') : Inv w w' gx cx gy cy bs rs (ss.set q S') M := by
  obtain ⟨hq1, rfl⟩ := List.getElem?_eq_some_iff.1 hb
  obtain ⟨hq2, rfl⟩ := List.getElem?_eq_some_iff.1 hr
  rw [zip_set hq1, zip_set hq2] at hg
  exact ⟨by rw [List.length_set]; exact h.lb, by rw [List.length_set]; exact h.lr, by rw [List.length_set]; exact h.pos, h.rx.of (hk gx (by simp)), h.ry.of (hk gy (by simp)), h.ne, h.bx, h.by_, hg⟩
theorem Inv.at {w wr : World} {gx cx gy cy q : Nat} {bs rs : List Nat} {ss : List St} {M : List Nat} (h : Inv w wr gx cx gy cy bs rs ss M) (hq : q < ss.length) :
    ∃ bq rq S, bs[q]? = some bq ∧ rs[q]? = some rq ∧ (bs.zip ss)[q]? = some (bq, S) ∧ (rs.zip ss)[q]? = some (rq, S) ∧ wr.cell? ⟨gx, q, none⟩ = some (.pointer (some ⟨bq, 0, none⟩)) ∧ wr.cell? ⟨gy, q, none⟩ = some (.pointer (some ⟨rq, 0, none⟩)) := by
  have h1 : q < bs.length := by rw [h.lb]; exact hq
  have h2 : q < rs.length := by rw [h.lr]; exact hq
  exact ⟨_, _, _, List.getElem?_eq_getElem h1, List.getElem?_eq_getElem h2, zip_at h1 hq, zip_at h2 hq, h.rx.cell q h1, h.ry.cell q h2⟩
theorem push {w w5 w6 : World} {ds es : List (Nat × St)} {e1 e2 : TypeId} (he : e1 ≠ 79) {L : List Nat} {g0 g1 g2 c1 c2 g' c' : Nat} {l1 l2 l' : List Nat} {cs : Array Value} (G5 : Gf w.heap.size w w5 ds es L) (hg : g1 ∈ L) (hB : w.heap.size ≤ g1) (X5 : Rw e1 w5 g1 c1 l1) (Y5 : Rw e2 w5 g2 c2 l2) (A5 : Bk 35 w5 g0 cs) (hne : g0 ≠ g1) (h12 : g1 ≠ g2) (c : Nat)
    (hon : Only [g1] (w5.alloc (.cells #[.pointer (some ⟨c, 0, none⟩)] e1)) w6) (hg' : g' = g1 ∨ (w5.alloc (.cells #[.pointer (some ⟨c, 0, none⟩)] e1)).heap.size ≤ g') (hrw : Rw e1 w6 g' c' l') :
    Gf w.heap.size w w6 ds es (g' :: L) ∧ Rw e2 w6 g2 c2 l2 ∧ Bk 35 w6 g0 cs ∧ g' ≠ g2 ∧ w.heap.size ≤ g' := by
  have hb : Below w5.heap.size w5 (w5.alloc (.cells #[.pointer (some ⟨c, 0, none⟩)] e1)) := by go_grown
  have hs := hb.size
  have h2 := Y5.lt
  have h0 := A5.lt
  have hs0 := G5.below.size
  refine ⟨(G5.down hb).turn (M := [g']) hg hB (X5.below hb).typ he hon ?_, (Y5.below hb).of (hon.block g2 (by omega) (by simp; exact fun e => h12 e.symm)), (A5.below hb).only hon (by simpa using hne), ?_, ?_⟩
  · intro q hq
    simp only [List.mem_singleton] at hq
    subst hq
    rcases hg' with rfl | h
    · exact .inl hg
    · exact .inr ⟨h, hrw.lt⟩
  · rcases hg' with rfl | h
    · exact h12
    · omega
  · rcases hg' with rfl | h
    · exact hB
    · omega
theorem zip_push {α β : Type} {l : List α} {m : List β} (h : l.length = m.length) (a : α) (b : β) : (l ++ [a]).zip (m ++ [b]) = l.zip m ++ [(a, b)] := by
  rw [List.zip_append h]
  rfl
set_option maxHeartbeats 16000000 in
theorem does_none (vf vo : Value) (l : List ByteArray) (w : World) (h : StrIn w vf l) (hn : newE l ≠ 0) :
    Calls Try.prog 3 #[vf, vo] w fun e w' => e = .returned (.bool true) ∧ Below w.heap.size w w' := by
  have HM := Lib.hid (new_no vf l w h hn)
  have HN := Lib.hid (rnew_no vf l w h hn)
  obtain ⟨m, hm⟩ : ∃ m, newE l = m := ⟨_, rfl⟩
  rw [hm] at HM HN
  clear hm hn h
  go_enter Try.func3, Try.ntmps3
  go_wp2_with fail
  refine HM.out.mono ?_
  rintro e w' ⟨rfl, rfl⟩
  go_wp2_with fail
  refine HN.out.mono ?_
  rintro e w' ⟨rfl, rfl⟩
  go_wp2_with fail
  refine (fixed_any _).mono ?_
  rintro e w2 ⟨rfl, hb⟩
  have HB := Lib.hid hb
  clear hb HM HN
  go_wp2_with fail
  go_ret
  exact ⟨rfl, HB.out⟩
set_option maxHeartbeats 32000000 in
theorem does_some (vf : Value) (b0 o0 c0 : Nat) (l : List ByteArray) (ops : List Op) (hok : ∀ x ∈ ops, OpOk x) (hlen : ops.length ≤ 2932031007402) (w : World) (h : StrIn w vf l) (n0 : Nat) (hn0 : n0 = ops.length)
    (hblt : ops ≠ [] → b0 < w.heap.size) (hcs : ∀ i (hi : i < ops.length), w.cell? ⟨b0, o0 + i * 5, none⟩ = some (.int .i64 ops[i].on) ∧ w.cell? ⟨b0, o0 + i * 5 + 1, none⟩ = some (.int .i64 ops[i].kind) ∧ w.cell? ⟨b0, o0 + i * 5 + 2, none⟩ = some (.int .i64 ops[i].a) ∧ w.cell? ⟨b0, o0 + i * 5 + 3, none⟩ = some (.int .i64 ops[i].b) ∧ w.cell? ⟨b0, o0 + i * 5 + 4, none⟩ = some (.string ops[i].s))
    (ad : Option Addr) (had : ops ≠ [] → ad = some ⟨b0, o0, none⟩) (hn : newE l = 0) :
    Calls Try.prog 3 #[vf, .slice ad n0 c0] w fun e w' => e = .returned (.bool true) ∧ Below w.heap.size w w' := by
  obtain ⟨x, y, hxy, hx, hy, hM⟩ := new_yes vf l w h hn
  have HM := Lib.hid hM
  have HR := Lib.hid (fun w' (hb : Below w.heap.size w w') => rnew_yes vf l w' (h.below hb) x y hxy hx hy)
  have HOK := Lib.hid hok
  have HBLT := Lib.hid hblt
  have HC := Lib.hid hcs
  have HAD := Lib.hid had
  have HL := Lib.hid hlen
  have HN0 := Lib.hid hn0
  have hn0b : n0 ≤ 2932031007402 := by omega
  clear hM hok h hn hblt hcs had hxy hx hy hlen hn0
  generalize St.new x.data.toList y.data.toList = S0 at HM HR
  have hnp := nilp
  go_enter Try.func3, Try.ntmps3
  go_wp2_with fail
  refine HM.out.mono ?_
  rintro e w1 ⟨p, rfl, hd, hb, hk⟩
  have O1 : Hid (Own w.heap.size w w1 p S0) := Lib.hid ⟨hd, hb, hk⟩
  clear hd hb hk HM
  rw [show p.v = .pointer (some ⟨p.b, 0, none⟩) from rfl]
  go_wp2_with fail
  refine (HR.out w1 O1.out.2.1).mono ?_
  rintro e w2 ⟨rfl, R, hb2, hlt2⟩
  have G2 := Lib.hid (Gf.start O1.out hb2 (Nat.le_refl _) hlt2 R)
  clear R hb2 hlt2 O1 HR
  generalize w1.heap.size = r at G2
  generalize p.b = b at G2
  go_wp2_with fail
  have I2 : Hid (Inv w ((w2.alloc (.cells #[.pointer (some ⟨b, 0, none⟩)] 24)).alloc (.cells #[.pointer (some ⟨r, 0, none⟩)] 28)) w2.heap.size 1 (w2.heap.size + 1) 1 [b] [r] [S0] []) := Lib.hid (by
    have hs := G2.out.below.size
    refine ⟨rfl, rfl, by simp, Rw.one (Bk.alloc (Bk.new rfl)), Rw.one (Bk.new (by simp)), by omega, hs, by omega, ?_⟩
    exact (G2.out.prot (show Below w2.heap.size w2 (w2.alloc (.cells #[.pointer (some ⟨b, 0, none⟩)] 24)) by go_grown) (g := w2.heap.size) (Nat.le_refl _) (by simp)).prot (by go_grown) (g := w2.heap.size + 1) (by simp) (by simp) |>.less (by simp))
  generalize ((w2.alloc (.cells #[.pointer (some ⟨b, 0, none⟩)] 24)).alloc (.cells #[.pointer (some ⟨r, 0, none⟩)] 28)) = w3 at I2 ⊢
  generalize w2.heap.size + 1 = gy0 at I2 ⊢
  generalize w2.heap.size = gx0 at I2 ⊢
  clear G2
  go_loopw [9, 10, 11] (fun xv yv iv wr => ∃ (i gx cx gy cy m : Nat) (bs rs : List Nat) (ss : List St), i ≤ n0 ∧ iv = .int .i64 (i : Int) ∧ xv = .slice (some ⟨gx, 0, none⟩) m cx ∧ yv = .slice (some ⟨gy, 0, none⟩) m cy ∧ Hid (Inv w wr gx cx gy cy bs rs ss []) ∧ Hid (m = ss.length) ∧ m ≤ i + 1) (fun _ _ iv _ => n0 - (intOf iv).toNat)
  case atStart => exact ⟨0, gx0, 1, gy0, 1, 1, _, _, _, Nat.zero_le _, rfl, rfl, rfl, I2, Lib.hid rfl, Nat.le_refl _⟩
  case round =>
    obtain ⟨i, gx, cx, gy, cy, m, bs, rs, ss, hi, rfl, rfl, rfl, I3, HM, hmi⟩ := hrel
    clear I2
    by_cases hlt : i < n0
    · have hilt : i < ops.length := by rw [← HN0.out]; exact hlt
      have hne : ops ≠ [] := fun e => by rw [e] at hilt; simp at hilt
      have had := HAD.out hne
      subst had
      obtain ⟨op, hop⟩ : ∃ op, ops[i]'hilt = op := ⟨_, rfl⟩
      have hcs := HC.out i hilt
      rw [hop] at hcs
      have hokp := HOK.out op (hop ▸ List.getElem_mem hilt)
      have e : ∀ k, wr.cell? ⟨b0, k, none⟩ = w.cell? ⟨b0, k, none⟩ := fun k => I3.out.gf.below.cell (p := ⟨b0, k, none⟩) (HBLT.out hne)
      simp only [← e] at hcs
      obtain ⟨d0, d1, d2, d3, d4⟩ := hcs
      clear e hop hne
      have hix := index23 b0 o0 c0 n0 i hlt
      have HOP := Lib.hid hokp
      have hmp : 0 < m := by rw [HM.out]; exact I3.out.pos
      obtain ⟨q, hq, hqm⟩ : ∃ q : Nat, op.on % (m : Int) = (q : Int) ∧ q < m := by
        have h1 := Int.emod_nonneg op.on (show (m : Int) ≠ 0 by omega)
        have h2 := Int.emod_lt_of_pos op.on (show (0 : Int) < (m : Int) by omega)
        exact ⟨(op.on % (m : Int)).toNat, by omega, by omega⟩
      have HP := Lib.hid (fun w' => place_any op.on m (by omega) (by omega) hokp.1 hokp.2.1 w')
      rw [hq] at HP
      clear hq hmp hokp
      -- the call lies in a block of its own
      have I4 : Hid (Inv w (wr.alloc (.cells #[.int .i64 op.on, .int .i64 op.kind, .int .i64 op.a, .int .i64 op.b, .string op.s] 35)) gx cx gy cy bs rs ss [wr.heap.size]) := Lib.hid (I3.out.prot (by go_grown) (Nat.le_refl _) (by simp))
      have A4 : Hid (Bk 35 (wr.alloc (.cells #[.int .i64 op.on, .int .i64 op.kind, .int .i64 op.a, .int .i64 op.b, .string op.s] 35)) wr.heap.size #[.int .i64 op.on, .int .i64 op.kind, .int .i64 op.a, .int .i64 op.b, .string op.s]) := Lib.hid (Bk.new rfl)
      have c0' := A4.out.cell 0
      have c1' := A4.out.cell 1
      simp only [List.getElem?_toArray, List.getElem?_cons_succ, List.getElem?_cons_zero] at c0' c1'
      have hqs : q < ss.length := by rw [← HM.out]; exact hqm
      obtain ⟨bq, rq, Sq, hbq, hrq, hzd, hze, x0, y0⟩ := I4.out.at hqs
      have hx32 := index32 gx cx m q hqm
      have hx33 := index33 gy cy m q hqm
      have HD := Lib.hid hzd
      have HE := Lib.hid hze
      have HBQ0 := Lib.hid hrq
      have I4x := Lib.hid (And.intro I3.out.rx.lt I3.out.ry.lt)
      clear I3 hqs hzd hze hbq hrq
      have HNE : Hid (wr.heap.size ≠ gx ∧ wr.heap.size ≠ gy) := Lib.hid (by have h1 := I4x.out.1; have h2 := I4x.out.2; omega)
      clear I4x
      by_cases hk : op.kind = 7
      · have t7 : (op.kind == 7) = true := by simp [hk]
        clear hk
        go_wp2_with fail
        refine (HP.out _).mono ?_
        rintro e w5 ⟨rfl, rfl⟩
        clear c0' HP hix d0 d1 d2 d3 d4
        generalize (wr.alloc (.cells #[.int .i64 op.on, .int .i64 op.kind, .int .i64 op.a, .int .i64 op.b, .string op.s] 35)) = wa at I4 A4 x0 y0 c1' ⊢
        generalize wr.heap.size = g0 at I4 A4 c1' HNE ⊢
        go_wp2_with fail
        refine (I4.out.gf.clone HD.out).mono ?_
        rintro e w5 ⟨c, rfl, hg, hb⟩
        have G5 := Lib.hid hg
        have A5 := Lib.hid (A4.out.below hb)
        have X5 := Lib.hid (I4.out.rx.below hb)
        have Y5 := Lib.hid (I4.out.ry.below hb)
        clear hg hb A4 x0 y0 c1' hx32
        have hy0 := HBQ0.out
        have BX := Lib.hid (And.intro I4.out.bx (And.intro I4.out.by_ I4.out.ne))
        have LN := Lib.hid (And.intro I4.out.lb I4.out.lr)
        have PS := Lib.hid I4.out.pos
        clear I4
        have HLN : Hid (bs.length ≤ 4000000000000 ∧ rs.length ≤ 4000000000000 ∧ m = bs.length ∧ m = rs.length) := Lib.hid (by have := LN.out; have := HM.out; omega)
        go_wp2_with (at_builtin; obtain ⟨gx', cx', w6, hrun, hrw, hon, hg'⟩ := app_row (W := w5.alloc (.cells #[.pointer (some ⟨c, 0, none⟩)] 24)) (b := c) 32 24 u32 infoX 32 (X5.out.below (by go_grown)) w5.heap.size 1 (Bk.new rfl) HLN.out.1 m HLN.out.2.2.1; obtain ⟨hG6, hY6, hA6, hne6, hB6⟩ := push (by decide) G5.out (by simp) BX.out.1 X5.out Y5.out A5.out HNE.out.1 BX.out.2.2 c hon hg' hrw; replace hG6 := Lib.hid hG6; replace hA6 := Lib.hid hA6; replace hrw := Lib.hid hrw; have y0 := hY6.cell q (List.getElem?_eq_some_iff.1 hy0).1; rw [(List.getElem?_eq_some_iff.1 hy0).2] at y0; replace hY6 := Lib.hid hY6; replace hne6 := Lib.hid hne6; replace hB6 := Lib.hid hB6; clear hon hg' G5 A5 X5 Y5; refine Lib.wpList_append_run _ rfl _ _ 32 32 rfl _ _ rfl rfl _ w6 hrun ?_; clear hrun)
        refine (hG6.out.copy HE.out).mono ?_
        rintro e w7 ⟨c2, rfl, hg, hb⟩
        have G7 := Lib.hid hg
        have A7 := Lib.hid (hA6.out.below hb)
        have X7 := Lib.hid (hrw.out.below hb)
        have Y7 := Lib.hid (hY6.out.below hb)
        have NEY : Hid (g0 ≠ gy ∧ gy ≠ gx') := Lib.hid ⟨HNE.out.2, fun e => hne6.out e.symm⟩
        clear hg hb hA6 hrw hY6 y0 hx33 hG6
        go_wp2_with (at_builtin; obtain ⟨gy', cy', w8, hrun, hrw, hon, hg'⟩ := app_row (W := w7.alloc (.cells #[.pointer (some ⟨c2, 0, none⟩)] 28)) (b := c2) 33 28 u33 infoY 33 (Y7.out.below (by go_grown)) w7.heap.size 1 (Bk.new rfl) HLN.out.2.1 m HLN.out.2.2.2; obtain ⟨hG8, hX8, hA8, hne8, hB8⟩ := push (by decide) G7.out (by simp) BX.out.2.1 Y7.out X7.out A7.out NEY.out.1 NEY.out.2 c2 hon hg' hrw; replace hG8 := Lib.hid hG8; replace hA8 := Lib.hid hA8; replace hrw := Lib.hid hrw; replace hX8 := Lib.hid hX8; replace hne8 := Lib.hid hne8; replace hB8 := Lib.hid hB8; clear hon hg' G7 A7 X7 Y7; refine Lib.wpList_append_run _ rfl _ _ 33 33 rfl _ _ rfl rfl _ w8 hrun ?_; clear hrun)
        have I8 : Hid (Inv w w8 gx' cx' gy' cy' (bs ++ [c]) (rs ++ [c2]) (ss ++ [Sq]) [g0]) := Lib.hid (by
          refine ⟨by simp [LN.out.1], by simp [LN.out.2], by simp, hX8.out, hrw.out, fun e => hne8.out e.symm, hB6.out, hB8.out, ?_⟩
          rw [zip_push LN.out.1, zip_push LN.out.2]
          exact hG8.out.less (by intro k hk; simp at hk; rcases hk with rfl | rfl | rfl <;> simp))
        have HM8 : Hid (m + 1 = (ss ++ [Sq]).length) := Lib.hid (by rw [List.length_append, List.length_singleton, HM.out])
        clear hG8 hX8 hrw hne8 hB8 hB6 hne6 NEY BX LN PS HLN hy0 HD HE HBQ0 HNE HM
        obtain ⟨bq, rq, S, hbq, hrq, hzd, hze, x0, y0⟩ := I8.out.at (show q < (ss ++ [Sq]).length by have := HM8.out; omega)
        have hx32 := index32 gx' cx' (m + 1) q (by omega)
        have hx33 := index33 gy' cy' (m + 1) q (by omega)
        have HBQ := Lib.hid (And.intro hbq hrq)
        have q0 := hA8.out.cell 0
        have q1 := hA8.out.cell 1
        have q2 := hA8.out.cell 2
        have q3 := hA8.out.cell 3
        have q4 := hA8.out.cell 4
        simp only [List.getElem?_toArray, List.getElem?_cons_succ, List.getElem?_cons_zero] at q0 q1 q2 q3 q4
        have PL := Lib.hid (fun d => plays_any op HOP.out (I8.out.gf.down (w' := w8.drewN d) (below_drewN (Below.refl _ _) d)) hzd hze)
        clear hzd hze hbq hrq
        go_still_tail 9, (by kernel_rfl)
        go_wp2_with fail
        refine (PL.out 1).mono ?_
        rintro e w9 ⟨rfl, S', hg, hkp⟩
        have I9 : Hid (Inv w w9 gx' cx' gy' cy' (bs ++ [c]) (rs ++ [c2]) ((ss ++ [Sq]).set q S') [g0]) := Lib.hid (I8.out.played HBQ.out.1 HBQ.out.2 hg (fun k hk => hkp k hk))
        clear hg hkp PL x0 y0 q0 q1 q2 q3 q4 hA8 I8 HBQ
        obtain ⟨bq', rq', S2, hbq, hrq, hzd, hze, x0, y0⟩ := I9.out.at (show q < ((ss ++ [Sq]).set q S').length by rw [List.length_set]; have := HM8.out; omega)
        have TL := Lib.hid (fun d => tells_any (I9.out.gf.down (w' := w9.drewN d) (below_drewN (Below.refl _ _) d)) hzd hze)
        clear hzd hze hbq hrq
        go_wp2_with fail
        go_still_tail 8, (by kernel_rfl)
        go_wp2_with fail
        refine (TL.out 1).mono ?_
        rintro e w10 ⟨rfl, hb⟩
        have I10 := Lib.hid (I9.out.less.down ((below_drewN (Below.refl _ _) 1).trans hb))
        clear hb TL x0 y0 hx32 hx33 I9
        go_wp2_with fail
        go_roundw
        case rel => exact ⟨i + 1, gx', cx', gy', cy', m + 1, (bs ++ [c]), (rs ++ [c2]), (ss ++ [Sq]).set q S', by omega, by go_num, rfl, rfl, I10, Lib.hid (by rw [List.length_set]; exact HM8.out), by omega⟩
        case measure => simp [intOf]; omega
      · have t7 : (op.kind == 7) = false := by simpa using hk
        clear hk
        go_wp2_with fail
        refine (HP.out _).mono ?_
        rintro e w5 ⟨rfl, rfl⟩
        clear c0' HP hix d0 d1 d2 d3 d4 x0 y0 hx32 hx33
        generalize (wr.alloc (.cells #[.int .i64 op.on, .int .i64 op.kind, .int .i64 op.a, .int .i64 op.b, .string op.s] 35)) = wa at I4 A4 c1' ⊢
        generalize wr.heap.size = g0 at I4 A4 c1' HNE ⊢
        go_wp2_with fail
        obtain ⟨bq, rq, S, hbq, hrq, hzd, hze, x0, y0⟩ := I4.out.at (show q < ss.length by have := HM.out; omega)
        have hx32 := index32 gx cx (m) q (by omega)
        have hx33 := index33 gy cy (m) q (by omega)
        have HBQ := Lib.hid (And.intro hbq hrq)
        have q0 := A4.out.cell 0
        have q1 := A4.out.cell 1
        have q2 := A4.out.cell 2
        have q3 := A4.out.cell 3
        have q4 := A4.out.cell 4
        simp only [List.getElem?_toArray, List.getElem?_cons_succ, List.getElem?_cons_zero] at q0 q1 q2 q3 q4
        have PL := Lib.hid (fun d => plays_any op HOP.out (I4.out.gf.down (w' := wa.drewN d) (below_drewN (Below.refl _ _) d)) hzd hze)
        clear hzd hze hbq hrq
        go_still_tail 9, (by kernel_rfl)
        go_wp2_with fail
        refine (PL.out 1).mono ?_
        rintro e w9 ⟨rfl, S', hg, hkp⟩
        have I9 : Hid (Inv w w9 gx cx gy cy bs rs (ss.set q S') [g0]) := Lib.hid (I4.out.played HBQ.out.1 HBQ.out.2 hg (fun k hk => hkp k hk))
        clear hg hkp PL x0 y0 q0 q1 q2 q3 q4 A4 I4 HBQ
        obtain ⟨bq', rq', S2, hbq, hrq, hzd, hze, x0, y0⟩ := I9.out.at (show q < (ss.set q S').length by rw [List.length_set]; have := HM.out; omega)
        have TL := Lib.hid (fun d => tells_any (I9.out.gf.down (w' := w9.drewN d) (below_drewN (Below.refl _ _) d)) hzd hze)
        clear hzd hze hbq hrq
        go_wp2_with fail
        go_still_tail 8, (by kernel_rfl)
        go_wp2_with fail
        refine (TL.out 1).mono ?_
        rintro e w10 ⟨rfl, hb⟩
        have I10 := Lib.hid (I9.out.less.down ((below_drewN (Below.refl _ _) 1).trans hb))
        clear hb TL x0 y0 hx32 hx33 I9
        go_wp2_with fail
        go_roundw
        case rel => exact ⟨i + 1, gx, cx, gy, cy, m, bs, rs, ss.set q S', by omega, by go_num, rfl, rfl, I10, Lib.hid (by rw [List.length_set]; exact HM.out), by omega⟩
        case measure => simp [intOf]; omega
    · have hin : i = n0 := by omega
      subst hin
      have HMB : m ≤ 2932031007403 := by omega
      clear hlt hmi hi
      go_wp2_with fail
      go_loopw [17] (fun jv wx => ∃ j : Nat, j ≤ m ∧ jv = .int .i64 (j : Int) ∧ Hid (Inv w wx gx cx gy cy bs rs ss [])) (fun jv _ => m - (intOf jv).toNat)
      case atStart => exact ⟨0, Nat.zero_le _, rfl, I3⟩
      case round =>
        obtain ⟨j, hj, rfl, I4⟩ := hrel
        clear I3
        by_cases hlt : j < m
        · obtain ⟨bq, rq, S, hbq, hrq, hzd, hze, x0, y0⟩ := I4.out.at (show j < ss.length by have := HM.out; omega)
          have hx32 := index32 gx cx m j hlt
          have hx33 := index33 gy cy m j hlt
          have TL := Lib.hid (fun d => tells_any (I4.out.gf.down (w' := wr.drewN d) (below_drewN (Below.refl _ _) d)) hzd hze)
          clear hzd hze hbq hrq
          go_wp2_with fail
          go_still_tail 8, (by kernel_rfl)
          go_wp2_with fail
          refine (TL.out 1).mono ?_
          rintro e w10 ⟨rfl, hb⟩
          have I10 := Lib.hid (I4.out.down ((below_drewN (Below.refl _ _) 1).trans hb))
          clear hb TL x0 y0 hx32 hx33 I4
          go_wp2_with fail
          go_roundw
          case rel => exact ⟨j + 1, by omega, by go_num, I10⟩
          case measure => simp [intOf]; omega
        · have hjm : j = m := by omega
          subst hjm
          clear hlt hj
          go_wp2_with fail
          refine (fixed_any _).mono ?_
          rintro e w11 ⟨rfl, hb⟩
          have BF := Lib.hid (I4.out.gf.below.trans (hb.mono I4.out.gf.below.size))
          clear hb I4
          go_wp2_with fail
          go_ret
          exact ⟨rfl, BF.out⟩
theorem does_walk (vf vo : Value) (l : List ByteArray) (ops : List Op) (hok : ∀ x ∈ ops, OpOk x) (hlen : ops.length ≤ 2932031007402) (w : World) (h : StrIn w vf l) (ho : OpsIn w vo ops) :
    Calls Try.prog 3 #[vf, vo] w fun e w' => e = .returned (.bool true) ∧ Below w.heap.size w w' := by
  by_cases hn : newE l = 0
  · obtain ⟨a, c, rfl, hl⟩ := ho
    by_cases he : ops = []
    · exact does_some vf 0 0 c l ops hok hlen w h _ rfl (fun h => absurd he h) (fun i hi => by subst he; simp at hi) a (fun h => absurd he h) hn
    · obtain ⟨b, o, ha, hlt, hc⟩ := hl he
      exact does_some vf b o c l ops hok hlen w h _ rfl (fun _ => hlt) hc a (fun _ => ha) hn
  · exact does_none vf vo l w h hn
end Go.Proofs.Ytekagnhablkggaa
