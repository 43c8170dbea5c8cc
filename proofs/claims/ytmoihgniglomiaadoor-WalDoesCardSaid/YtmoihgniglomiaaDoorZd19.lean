/- Both disks opened at once, and what that leaves beside them. Condition: the program's table, that all that must be cut off is safe. Rows of texts and states are the same, or not; a state is among some. No condition but the rows'. The drawn region of the state behind a call. No condition. A state behind a call; rows of states; a state is among some. No condition but the rows'. Rows of states; a sta -/
import Derived.Test.YtmoihgniglomiaaDoorZd18
import Derived.Laws.StructEq
import Derived.Test.YtmoihgniglomiaaDoorZd17
import Derived.Test.YtmoihgniglomiaaDoorZd02
import Derived.Laws.OwnMore
set_option linter.unusedVariables false
set_option linter.unusedSimpArgs false
set_option maxRecDepth 100000
namespace Go.Proofs.YtmoihgniglomiaaDoor
open Go.RowKit Go.Sort
set_option maxHeartbeats 16000000 in
theorem opened_fr {B : Nat} {w0 w : World} {p : Fp} {r : Nat} {S : St} {uv : Value} {kp : Int} (h : PO B w0 w p r S S uv kp) (hB : B ≤ w0.heap.size) (hB0 : 0 < B) (hcl : Clean S) :
    Calls Tryd.prog 24 #[p.v, .pointer (some ⟨r, 0, none⟩)] w fun e w' => ∃ lv rv p' uv' kp', e = .returned (.tuple #[lv, rv, .bool true]) ∧ PO B w0 w' p' r (lopen S).2.2 (lopen S).2.2 uv' kp' ∧ p'.b = p.b ∧ Told w w' p' r (lopen S) uv' lv rv ∧ Only (r :: p.own) w w' ∧ (∀ k ∈ p'.own, k ∈ p.own ∨ w.heap.size ≤ k) ∧ ∀ g, uv'.ownBlock = some g → uv.ownBlock = some g ∨ w.heap.size ≤ g := by
  have H0 := Lib.hid h
  have HC := Lib.hid hcl
  have hlen := lopen_recs h.d.dk.wf
  have hn := ne9
  have HW1 := Lib.hid (wopen_any h.d.dk h.d.tb (h.d.zo hB0) hcl)
  generalize hx : lopen S = x at *
  obtain ⟨code, ⟨lg, snap, recs⟩, S2⟩ := x
  simp only at hlen
  obtain ⟨pv, hpv⟩ : ∃ v, v = p.v := ⟨_, rfl⟩
  have HPV := Lib.hid hpv
  rw [← hpv] at HW1 ⊢
  have HX := Lib.hid hx
  have HB := Lib.hid (And.intro hB hB0)
  obtain ⟨n, hnn⟩ : ∃ n, n = recs.length := ⟨_, rfl⟩
  have HNN := Lib.hid hnn
  rw [← hnn] at hlen
  clear h hcl hpv hx hnn hB hB0
  go_enter Tryd.func24, Tryd.ntmps24
  go_wp2_with fail
  refine HW1.out.mono ?_
  rintro e w1 ⟨lv, rv, p1, rfl, hm, hrow, hown, hok, hno⟩
  simp only at hm hrow hown hok hno
  have P1 : Hid (PO B w0 w1 p1 r S2 S uv kp) := Lib.hid (H0.out.mut HB.out.1 HB.out.2 hm)
  have hpb : p1.b = p.b := hm.2.1
  have hsz : w.heap.size ≤ w1.heap.size := hm.2.2.1.size
  have HPB := Lib.hid hpb
  have HSZ := Lib.hid hsz
  have HO1 := Lib.hid hm.2.2.1
  have HOW1 := Lib.hid hm.2.2.2
  have HLV : Hid ((code = 0 ∧ ∃ b, lv = .pointer (some ⟨b, 0, none⟩) ∧ w.heap.size ≤ b ∧ Lk w1 b p1 S2 lg ∧ ∀ k, rv.ownBlock = some k → k ≠ b) ∨ (code ≠ 0 ∧ lv = .pointer none)) := Lib.hid (by
    by_cases hc : code = 0
    · exact .inl ⟨hc, hok hc⟩
    · exact .inr ⟨hc, hno hc⟩)
  rw [← HNN.out] at hrow
  have HROW := Lib.hid hrow
  have HOWN := Lib.hid hown
  clear hm hrow hown hok hno hpb hsz HW1
  go_wp2_with fail
  refine (ropen_any P1.out.k HC.out).mono ?_
  rw [HX.out]
  rintro e w2 ⟨lv2, rv2, rfl, hm, hrow2, hown2, hok2, hno2⟩
  simp only at hm hrow2 hown2 hok2 hno2
  have ho2 := hm.only
  obtain ⟨uv2, kp2, P2, hu2⟩ := P1.out.rm HB.out.1 HB.out.2 hm
  have hr0 : r < w.heap.size := H0.out.k.blk.lt
  have hs1 := HSZ.out
  have hs2 : w1.heap.size ≤ w2.heap.size := ho2.size
  have hu0 := H0.out.k.ult
  have hp1 := P1.out.d.dk.lt
  have hrl : ∀ g, rv.ownBlock = some g → g < w1.heap.size := fun g e => (HROW.out.lt g e).2
  have T2 : Hid (Told w w2 p1 r (code, (lg, snap, recs), S2) uv2 lv lv2) := Lib.hid (by
    rcases HLV.out with ⟨h0, b, rfl, hwb, hlk, hrb⟩ | ⟨h0, rfl⟩
    · obtain ⟨rb, rfl, hrw, hbk⟩ := hok2 h0
      have hbl : b < w1.heap.size := hlk.blk.lt
      exact .inl ⟨h0, b, rb, rfl, rfl, hlk.only ho2 (by simp; omega) (fun k hk hx => by simp at hx; subst hx; exact P1.out.nr hk), hbk, hwb, by omega, by omega, fun hx => by have := hp1 rb hx; omega,
        fun e => (hu2 b e).elim (fun e => by have := hu0 b e; omega) (fun h => by omega), P2.k.ne102 hbk⟩
    · exact .inr ⟨h0, rfl, hno2 h0⟩)
  have SEP : Hid (∀ g, rv.ownBlock = some g → B ≤ g ∧ g ∉ p1.own ∧ g ≠ r ∧ uv2.ownBlock ≠ some g ∧ (∀ b, lv = .pointer (some ⟨b, 0, none⟩) → b ≠ g) ∧ ∀ b, lv2 = .pointer (some ⟨b, 0, none⟩) → b ≠ g) := Lib.hid (fun g e => by
    obtain ⟨o1, o2⟩ := HOWN.out g e
    have hg1 := hrl g e
    refine ⟨by have := H0.out.d.bw.size; have := HB.out.1; omega, o2, by omega, fun e2 => (hu2 g e2).elim (fun e3 => by have := hu0 g e3; omega) (fun h => by omega), fun b eb => ?_, fun b eb => ?_⟩
    · rcases HLV.out with ⟨h0, b', e1, hwb, hlk, hrb⟩ | ⟨h0, e1⟩
      · rw [e1] at eb
        simp at eb
        subst eb
        exact fun e3 => hrb g e e3.symm
      · rw [e1] at eb; cases eb
    · rcases HLV.out with ⟨h0, b', e1, hwb, hlk, hrb⟩ | ⟨h0, e1⟩
      · obtain ⟨rb, e4, hrw, hbk⟩ := hok2 h0
        rw [e4] at eb
        simp at eb
        omega
      · rw [hno2 h0] at eb; cases eb)
  have hrow1 : w2.ownsRow 0 9 1 rv n (scells recs) := ownsS_of HROW.out (fun g e hg => ho2.block g hg (by have := HOWN.out g e; simp; omega))
  rw [← HNN.out] at hrow2
  obtain ⟨a, c, rfl, hc⟩ := srow_at HNN.out hrow1
  obtain ⟨a2, c2, rfl, -⟩ := srow_at HNN.out hrow2
  have P2H := Lib.hid P2
  have HFR : Hid (Only (r :: p.own) w w2) := Lib.hid ((HO1.out.mono (fun x hx => .inl (List.mem_cons_of_mem _ hx))).trans ho2 (fun x hx => .inl (by simp at hx; simp [hx])))
  have HU2 : Hid (∀ g, uv2.ownBlock = some g → uv.ownBlock = some g ∨ w.heap.size ≤ g) := Lib.hid fun g e => (hu2 g e).imp id (fun h => Nat.le_trans hs1 h)
  have HRB : Hid (∀ g, (Value.slice a n c).ownBlock = some g → w.heap.size ≤ g) := Lib.hid fun g e => (HOWN.out g e).1
  have HRO := Lib.hid (And.intro hrow1 hrow2)
  have HAT := Lib.hid hc
  clear P2 hm ho2 hu2 hr0 hs1 hs2 hu0 hp1 hrl hrow1 hrow2 hc hok2 hno2 hown2 HLV HROW HOWN P1 HSZ
  generalize (⟨snap.toArray⟩ : ByteArray) = sn
  have hfin : ∀ w3 wr : World, Below w2.heap.size w2 w3 → Only (Value.slice a n c).ownBlock.toList w3 wr → PO B w0 wr p1 r S2 S2 uv2 kp2 ∧ Told w wr p1 r (code, (lg, snap, recs), S2) uv2 lv lv2 ∧ Only (r :: p.own) w wr := fun w3 wr hb ho => by
    have hL : ∀ g ∈ (Value.slice a n c).ownBlock.toList, (Value.slice a n c).ownBlock = some g := fun g hg => by simpa using hg
    exact ⟨(P2H.out.down HB.out.1 hb).row HB.out.1 HB.out.2 ho (fun g hg => by have := SEP.out g (hL g hg); exact ⟨this.1, this.2.1, this.2.2.1, this.2.2.2.1⟩),
      (T2.out.below hb).row ho (fun g hg => by have := SEP.out g (hL g hg); exact ⟨this.2.1, this.2.2.2.2⟩),
      (HFR.out.trans (Only.of (L := []) hb) (fun x hx => by simp at hx)).trans ho (fun x hx => .inr (HRB.out x (hL x hx)))⟩
  have HFIN := Lib.hid hfin
  have HLV : (∃ b rb, lv = .pointer (some ⟨b, 0, none⟩) ∧ lv2 = .pointer (some ⟨rb, 0, none⟩)) ∨ (lv = .pointer none ∧ lv2 = .pointer none) := by
    rcases T2.out with ⟨_, b, rb, e1, e2, _⟩ | ⟨_, e1, e2⟩
    · exact .inl ⟨b, rb, e1, e2⟩
    · exact .inr ⟨e1, e2⟩
  clear hfin T2 SEP
  rcases HLV with ⟨b, rb, rfl, rfl⟩ | ⟨rfl, rfl⟩
  · go_wp2_with fail
    refine (sames_any _ _ recs w2 (by rw [← HNN.out]; exact HRO.out.1) (by rw [← HNN.out]; exact HRO.out.2) (by rw [← HNN.out]; omega)).mono ?_
    rintro e w3 ⟨rfl, hb3⟩
    have HB3 := Lib.hid hb3
    have hrow3 : w3.ownsRow 0 9 1 (.slice a n c) n (scells recs) := ownsS_of HRO.out.1 (fun g e hg => hb3.block g hg)
    have HR3 := Lib.hid hrow3
    clear hb3 hrow3
    go_wp2_with fail
    go_loopw [15] (fun iv wr => ∃ i : Nat, i ≤ n ∧ iv = .int .i64 (i : Int) ∧ Hid (Only (Value.slice a n c).ownBlock.toList w3 wr) ∧ Hid (∃ xs, wr.ownsRow 0 9 1 (.slice a n c) n xs)) (fun iv _ => n - (intOf iv).toNat)
    case atStart => exact ⟨0, Nat.zero_le _, rfl, Lib.hid (Only.refl _ _), Lib.hid ⟨_, HR3.out⟩⟩
    case round =>
      obtain ⟨i, hi, rfl, HO, HX3⟩ := hrel
      by_cases hlt : i < n
      · obtain ⟨g, rfl, _⟩ := HAT.out i (by rw [← HNN.out]; exact hlt)
        obtain ⟨xs, hxs⟩ := HX3.out
        have hxl : xs.length = n * 1 := hxs.1
        obtain ⟨u0, c0⟩ : ∃ u, wr.cell? ⟨g, i, none⟩ = some u := ⟨xs[i]'(by omega), by rw [hxs.cellAt i (by omega)]; simp⟩
        have f0 := hxs.frozenAt i
        have HXS := Lib.hid hxs
        clear hxs hxl
        go_wp2_with fail
        go_roundw
        case rel => exact ⟨i + 1, by omega, by go_num, Lib.hid (HO.out.setCell _ (.inl (by simp [Value.ownBlock])) _), Lib.hid ⟨_, (HXS.out.stored i _).1⟩⟩
        case measure => simp [intOf]; omega
      · have hin : i = n := by omega
        subst hin
        go_wp2_with fail
        go_returns
        exact ⟨_, _, p1, uv2, kp2, rfl, (HFIN.out w3 _ HB3.out HO.out).1, HPB.out, (HFIN.out w3 _ HB3.out HO.out).2.1, (HFIN.out w3 _ HB3.out HO.out).2.2, HOW1.out, HU2.out⟩
  · go_wp2_with fail
    refine (sames_any _ _ recs w2 (by rw [← HNN.out]; exact HRO.out.1) (by rw [← HNN.out]; exact HRO.out.2) (by rw [← HNN.out]; omega)).mono ?_
    rintro e w3 ⟨rfl, hb3⟩
    have HB3 := Lib.hid hb3
    have hrow3 : w3.ownsRow 0 9 1 (.slice a n c) n (scells recs) := ownsS_of HRO.out.1 (fun g e hg => hb3.block g hg)
    have HR3 := Lib.hid hrow3
    clear hb3 hrow3
    go_wp2_with fail
    go_loopw [15] (fun iv wr => ∃ i : Nat, i ≤ n ∧ iv = .int .i64 (i : Int) ∧ Hid (Only (Value.slice a n c).ownBlock.toList w3 wr) ∧ Hid (∃ xs, wr.ownsRow 0 9 1 (.slice a n c) n xs)) (fun iv _ => n - (intOf iv).toNat)
    case atStart => exact ⟨0, Nat.zero_le _, rfl, Lib.hid (Only.refl _ _), Lib.hid ⟨_, HR3.out⟩⟩
    case round =>
      obtain ⟨i, hi, rfl, HO, HX3⟩ := hrel
      by_cases hlt : i < n
      · obtain ⟨g, rfl, _⟩ := HAT.out i (by rw [← HNN.out]; exact hlt)
        obtain ⟨xs, hxs⟩ := HX3.out
        have hxl : xs.length = n * 1 := hxs.1
        obtain ⟨u0, c0⟩ : ∃ u, wr.cell? ⟨g, i, none⟩ = some u := ⟨xs[i]'(by omega), by rw [hxs.cellAt i (by omega)]; simp⟩
        have f0 := hxs.frozenAt i
        have HXS := Lib.hid hxs
        clear hxs hxl
        go_wp2_with fail
        go_roundw
        case rel => exact ⟨i + 1, by omega, by go_num, Lib.hid (HO.out.setCell _ (.inl (by simp [Value.ownBlock])) _), Lib.hid ⟨_, (HXS.out.stored i _).1⟩⟩
        case measure => simp [intOf]; omega
      · have hin : i = n := by omega
        subst hin
        go_wp2_with fail
        go_returns
        exact ⟨_, _, p1, uv2, kp2, rfl, (HFIN.out w3 _ HB3.out HO.out).1, HPB.out, (HFIN.out w3 _ HB3.out HO.out).2.1, (HFIN.out w3 _ HB3.out HO.out).2.2, HOW1.out, HU2.out⟩
def RowS (w : World) (v : Value) (l : List Bs) : Prop := w.ownsRow 0 9 1 v l.length (scells l)
theorem RowS.shape {w : World} {v : Value} {l : List Bs} (h : RowS w v l) : ∃ a c, v = .slice a l.length c := by
  obtain ⟨_, ⟨rfl, hn⟩ | ⟨q, cap, cur, rfl, _⟩⟩ := h
  · exact ⟨none, 0, by rw [hn]⟩
  · exact ⟨_, _, rfl⟩
theorem RowS.lt {w : World} {v : Value} {l : List Bs} (h : RowS w v l) : ∀ g, v.ownBlock = some g → g < w.heap.size := fun g e => (World.ownsRow.lt h g e).2
theorem RowS.kept {w w' : World} {v : Value} {l : List Bs} (h : RowS w v l) (k : ∀ g, v.ownBlock = some g → w'.heap[g]? = w.heap[g]?) : RowS w' v l := ownsS_of h fun g e _ => k g e
theorem RowS.below {w w' : World} {v : Value} {l : List Bs} (h : RowS w v l) (hb : Below w.heap.size w w') : RowS w' v l := h.kept fun g e => hb.block g (h.lt g e)
theorem RowS.only {w w' : World} {v : Value} {l : List Bs} {L : List Nat} (h : RowS w v l) (ho : Only L w w') (hL : ∀ g, v.ownBlock = some g → g ∉ L) : RowS w' v l := h.kept fun g e => ho.block g (h.lt g e) (hL g e)
abbrev Stt := Bs × List Bs
theorem RowS.empty {w : World} {g : Nat} (h : Bk 9 w g #[]) : RowS w (.slice (some ⟨g, 0, none⟩) 0 0) [] :=
  ⟨rfl, .inr ⟨g, 0, _, rfl, Nat.zero_le _, h, Nat.le_refl _, by unfold maxLen; omega, rfl, rfl⟩⟩
theorem RowS.cells {w : World} {v : Value} {l : List Bs} (h : RowS w v l) : ∃ a c, v = .slice a l.length c ∧ (l = [] ∧ a = none ∧ c = 0 ∨ ∃ g, a = some ⟨g, 0, none⟩ ∧ ∀ j u, (scells l)[j]? = some u → w.cell? (Addr.add ⟨g, 0, none⟩ j) = some u) := by
  have h' := h
  obtain ⟨_, ⟨rfl, hn⟩ | ⟨g, cap, cur, rfl, _⟩⟩ := h'
  · exact ⟨none, 0, by rw [hn], .inl ⟨List.eq_nil_of_length_eq_zero hn, rfl, rfl⟩⟩
  · refine ⟨_, _, rfl, .inr ⟨g, rfl, fun j u hu => ?_⟩⟩
    exact World.ownsRow.cells h (g := g) rfl j u hu
theorem RowS.app {W : World} {v rv : Value} {l rs : List Bs} (ty : TypeId) (h : RowS W v l) (hr : RowS W rv rs) (hl : l.length + rs.length ≤ 4194304) :
    ∃ v' w', (Builtin.append_ #[31, 31] ty #[v, rv]).run Tryd.prog W = .ok v' w' ∧ RowS w' v' (l ++ rs) ∧ W.grownBy w' v.ownBlock ∧ (v'.ownBlock = v.ownBlock ∨ ∀ k, v'.ownBlock = some k → W.heap.size ≤ k) := by
  obtain ⟨i0, hi, hz0, hz1, hz2⟩ := info_parts info9
  obtain ⟨a, c, rfl, ⟨rfl, rfl, rfl⟩ | ⟨g, rfl, hc⟩⟩ := hr.cells
  · refine ⟨v, W, run_append_owned_none W 0 31 ty 9 i0 1 u31 hi v l.length (scells l) h, by rw [List.append_nil]; exact h, ⟨rfl, rfl, rfl, Nat.le_refl _, fun _ _ _ => rfl⟩, .inl rfl⟩
  · obtain ⟨v', w', hrun, ho, hgr, hv, _⟩ := app_own W 31 ty 9 i0 (.string ⟨#[]⟩) 1 16 u31 hi hz0 hz1 hz2 rfl (by decide) v l.length (scells l) h ⟨g, 0, none⟩ rs.length c (scells rs) (by rw [scells_len, Nat.mul_one]) hc (scells_one _) (by unfold maxLen; omega) (by omega)
    exact ⟨v', w', hrun, by unfold RowS; rw [List.length_append, scells_app]; exact ho, hgr, hv⟩
theorem RowS.one {w : World} {g : Nat} {s : Bs} (h : Bk 9 w g #[.string ⟨s.toArray⟩]) : RowS w (.slice (some ⟨g, 0, none⟩) 1 1) [s] :=
  ⟨rfl, .inr ⟨g, 1, _, rfl, Nat.zero_le _, h, Nat.le_refl _, by unfold maxLen; omega, rfl, rfl⟩⟩
def NP (w : World) (rs : List Bs) (os : Bs) (j2 j5 j8 j9 : Bool) (y2 y5 y8 y9 : Value) (w' : World) : Prop :=
  Below w.heap.size w w' ∧
  (j2 = true → j5 = false → RowS w' y2 [] ∧ ∀ g, y2.ownBlock = some g → w.heap.size ≤ g) ∧
  (j5 = true → j9 = false → RowS w' y5 rs ∧ ∀ g, y5.ownBlock = some g → w.heap.size ≤ g) ∧
  (j9 = true → RowS w' y9 (rs ++ [os]) ∧ ∀ g, y9.ownBlock = some g → w.heap.size ≤ g) ∧
  (j8 = true → j9 = false → RowS w' y8 [os] ∧ (∀ g, y8.ownBlock = some g → w.heap.size ≤ g) ∧ (j2 = true → j5 = false → ∀ g, y8.ownBlock = some g → y2.ownBlock ≠ some g) ∧ (j5 = true → ∀ g, y8.ownBlock = some g → y5.ownBlock ≠ some g))
theorem grown_far {w w' : World} {o : Option Nat} (h : w.grownBy w' o) {g : Nat} (hg : g < w.heap.size) (hne : o ≠ some g) : w'.heap[g]? = w.heap[g]? := h.block g hg (fun e => hne e.symm)
def stc : List Stt → List Value → List Value
  | s :: l, v :: r => .string ⟨s.1.toArray⟩ :: v :: stc l r
  | _, _ => []
theorem stc_app : ∀ (l : List Stt) (r : List Value) (m : List Stt) (q : List Value), r.length = l.length → stc (l ++ m) (r ++ q) = stc l r ++ stc m q
  | [], r, m, q, h => by
    obtain rfl : r = [] := List.eq_nil_of_length_eq_zero (by simpa using h)
    rfl
  | s :: l, v :: r, m, q, h => by simp only [List.cons_append, stc, stc_app l r m q (by simpa using h)]
  | s :: l, [], m, q, h => by simp at h
theorem stc_at : ∀ (l : List Stt) (r : List Value) (i : Nat) (s : Stt) (v : Value), r.length = l.length → l[i]? = some s → r[i]? = some v → (stc l r)[i * 2]? = some (.string ⟨s.1.toArray⟩) ∧ (stc l r)[i * 2 + 1]? = some v
  | [], _, i, s, v, _, h, _ => by simp at h
  | s0 :: l, v0 :: r, 0, s, v, _, h, h' => by
    simp at h h'
    subst h h'
    exact ⟨rfl, rfl⟩
  | s0 :: l, v0 :: r, i + 1, s, v, hl, h, h' => by
    have := stc_at l r i s v (by simpa using hl) (by simpa using h) (by simpa using h')
    rw [show (i + 1) * 2 = i * 2 + 1 + 1 by omega]
    exact this
  | s0 :: l, [], _, _, _, hl, _, _ => by simp at hl
theorem info67 : (Tryd.prog.info? 67).map (fun i => (i.zero, i.size, i.bytes)) = some (some (.agg #[.string ⟨#[]⟩, .slice none 0 0]), 2, 40) := by kernel_rfl
def SS (w : World) (v : Value) (ss : List Stt) : Prop := ∃ rvs : List Value, rvs.length = ss.length ∧ w.ownsRow 0 67 2 v ss.length (stc ss rvs) ∧ ∀ (i : Nat) (s : Stt), ss[i]? = some s → ∃ rv, rvs[i]? = some rv ∧ RowS w rv s.2
theorem SS.shape {w : World} {v : Value} {ss : List Stt} (h : SS w v ss) : ∃ a c, v = .slice a ss.length c := by
  obtain ⟨_, _, ⟨_, ⟨rfl, hn⟩ | ⟨q, cap, cur, rfl, _⟩⟩, _⟩ := h
  · exact ⟨none, 0, by rw [hn]⟩
  · exact ⟨_, _, rfl⟩
theorem SS.lt {w : World} {v : Value} {ss : List Stt} (h : SS w v ss) : ∀ g, v.ownBlock = some g → g < w.heap.size := fun g e => by
  obtain ⟨_, _, h, _⟩ := h
  exact (World.ownsRow.lt h g e).2
theorem owns2_of {w w' : World} {v : Value} {n : Nat} {xs : List Value} (h : w.ownsRow 0 67 2 v n xs) (e : ∀ g, v.ownBlock = some g → g < w.heap.size → w'.heap[g]? = w.heap[g]?) : w'.ownsRow 0 67 2 v n xs := by
  obtain ⟨hl, h | ⟨g, cap, cur, hv, hb, hg, rest⟩⟩ := h
  · exact ⟨hl, .inl h⟩
  · exact ⟨hl, .inr ⟨g, cap, cur, hv, hb, (e g (by rw [hv]; rfl) (blk_lt hg)).trans hg, rest⟩⟩
theorem SS.below {w w' : World} {v : Value} {ss : List Stt} (h : SS w v ss) (hb : Below w.heap.size w w') : SS w' v ss := by
  obtain ⟨rvs, h1, h2, h3⟩ := h
  exact ⟨rvs, h1, owns2_of h2 fun g _ hg => hb.block g hg, fun i s hi => by
    obtain ⟨rv, e, r⟩ := h3 i s hi
    exact ⟨rv, e, r.below hb⟩⟩
theorem SS.at {w : World} {v : Value} {ss : List Stt} (h : SS w v ss) {i : Nat} {s : Stt} (hi : ss[i]? = some s) : ∃ g c rv, v = .slice (some ⟨g, 0, none⟩) ss.length c ∧ w.cell? ⟨g, i * 2, none⟩ = some (.string ⟨s.1.toArray⟩) ∧ w.cell? ⟨g, i * 2 + 1, none⟩ = some rv ∧ RowS w rv s.2 := by
  obtain ⟨rvs, h1, h2, h3⟩ := h
  have hil : i < ss.length := (List.getElem?_eq_some_iff.1 hi).1
  obtain ⟨g, c, rfl⟩ := owns_slice h2 (fun e => by
    obtain ⟨_, ⟨_, hn⟩ | ⟨q, cap, cur, hv, _⟩⟩ := h2
    · omega
    · rw [e] at hv; cases hv)
  obtain ⟨rv, e, r⟩ := h3 i s hi
  obtain ⟨c0, c1⟩ := stc_at ss rvs i s rv h1 hi e
  have d0 := World.ownsRow.cells h2 (g := g) rfl _ _ c0
  have d1 := World.ownsRow.cells h2 (g := g) rfl _ _ c1
  rw [at0] at d0 d1
  exact ⟨g, c, rv, rfl, d0, d1, r⟩
theorem SS.more {W : World} {v rv : Value} {ss : List Stt} {s : Stt} (ty : TypeId) (h : SS W v ss) (q c : Nat) (hq : Bk 67 W q #[.string ⟨s.1.toArray⟩, rv]) (hr : RowS W rv s.2) (hl : ss.length + 1 ≤ 3500000000000) :
    ∃ v' w', (Builtin.append_ #[70, 70] ty #[v, .slice (some ⟨q, 0, none⟩) 1 c]).run Tryd.prog W = .ok v' w' ∧ SS w' v' (ss ++ [s]) ∧ W.grownBy w' v.ownBlock ∧ (v'.ownBlock = v.ownBlock ∨ ∀ k, v'.ownBlock = some k → W.heap.size ≤ k) := by
  obtain ⟨i0, hi, hz0, hz1, hz2⟩ := info_parts info67
  obtain ⟨rvs, h1, h2, h3⟩ := h
  have hone : rv.oneCell' = true := by
    obtain ⟨a, c, rfl⟩ := hr.shape
    rfl
  obtain ⟨v', w', hrun, ho, hgr, hv, _⟩ := app_own W 70 ty 67 i0 (.agg #[.string ⟨#[]⟩, .slice none 0 0]) 2 40 Tryd.underlying70 hi hz0 hz1 hz2 rfl (by decide) v ss.length (stc ss rvs) h2 ⟨q, 0, none⟩ 1 c (stc [s] [rv]) rfl (by
    intro j u hu
    rw [at0, hq.cell]
    match j with
    | 0 => simpa [stc] using hu
    | 1 => simpa [stc] using hu
    | j + 2 => simp [stc] at hu) (by
    intro u hu
    simp only [stc, List.mem_cons, List.not_mem_nil, or_false] at hu
    rcases hu with rfl | rfl
    · rfl
    · exact hone) (by unfold maxLen; omega) (by omega)
  have hfar : ∀ (r : Value) (l : List Bs), RowS W r l → RowS w' r l := fun r l hrow => hrow.kept fun g e => by
    refine grown_far hgr (hrow.lt g e) (fun e2 => ?_)
    obtain ⟨_, ⟨hv, _⟩ | ⟨g1, cap, cur, hv, _, hg1, _⟩⟩ := hrow
    · rw [hv] at e; cases e
    · rw [hv] at e
      simp only [Value.ownBlock, Option.some.injEq] at e
      obtain ⟨_, ⟨hv2, _⟩ | ⟨g2, cap2, cur2, hv2, _, hg2, _⟩⟩ := h2
      · rw [hv2] at e2; cases e2
      · rw [hv2] at e2
        simp only [Value.ownBlock, Option.some.injEq] at e2
        subst e e2
        have h2 := hg1.symm.trans hg2
        simp at h2
  refine ⟨v', w', hrun, ⟨rvs ++ [rv], by simp [h1], by rw [List.length_append, stc_app _ _ _ _ h1]; exact ho, fun i s' hi => ?_⟩, hgr, hv⟩
  by_cases hil : i < ss.length
  · rw [List.getElem?_append_left hil] at hi
    obtain ⟨r, e, hr'⟩ := h3 i s' hi
    exact ⟨r, by rw [List.getElem?_append_left (by omega)]; exact e, hfar _ _ hr'⟩
  · rw [List.getElem?_append_right (by omega)] at hi
    have h0 : i - ss.length = 0 := by
      have := (List.getElem?_eq_some_iff.1 hi).1
      simp at this; omega
    rw [h0] at hi
    simp at hi
    subst hi
    exact ⟨rv, by rw [List.getElem?_append_right (by omega), h1, h0]; rfl, hfar _ _ hr⟩
theorem SS.one {w : World} {g : Nat} {rv : Value} {s : Stt} (h : Bk 67 w g #[.string ⟨s.1.toArray⟩, rv]) (hr : RowS w rv s.2) : SS w (.slice (some ⟨g, 0, none⟩) 1 1) [s] :=
  ⟨[rv], rfl, ⟨rfl, .inr ⟨g, 1, _, rfl, Nat.zero_le _, h, Nat.le_refl _, by unfold maxLen; omega, rfl, rfl⟩⟩, fun i s' hi => by
    match i with
    | 0 => simp at hi; subst hi; exact ⟨rv, rfl, hr⟩
    | i + 1 => simp at hi⟩
end Go.Proofs.YtmoihgniglomiaaDoor
namespace Go.Proofs.YtmoihgniglomiaaDoor
def frames : List Bs → Bs
  | [] => []
  | r :: l => frame r ++ frames l
theorem frames_app (a b : List Bs) : frames (a ++ b) = frames a ++ frames b := by
  induction a with
  | nil => rfl
  | cons r l ih => simp only [List.cons_append, frames, ih, List.append_assoc]
theorem begins_file (g : Nat) (snap b : Bs) (hg : g ≤ 4611686018427387904) (hs : snap.length ≤ 524288) : begins (fileOf g snap ++ b) = (g, snap, b) := by
  have e4 : (fileOf g snap ++ b).take 4 = mark := by
    simp only [fileOf, List.append_assoc]
    exact List.take_left' rfl
  have e12 : (fileOf g snap ++ b).drop 12 = frame snap ++ b := by
    simp only [fileOf]
    rw [List.append_assoc]
    exact List.drop_left' (by simp [mark, be_len])
  have e8 : ((fileOf g snap ++ b).drop 4).take 8 = be 8 g := by
    simp only [fileOf, List.append_assoc]
    rw [show List.drop 4 (mark ++ (be 8 g ++ (frame snap ++ b))) = be 8 g ++ (frame snap ++ b) from List.drop_left' rfl]
    exact List.take_left' (be_len 8 g)
  have hv : valN (be 8 g) = g := by rw [valN_be]; exact Nat.mod_eq_of_lt (by omega)
  have hl : 12 ≤ (fileOf g snap ++ b).length := by rw [List.length_append, fileOf_len]; omega
  unfold begins
  rw [e4, e8, e12, hv, if_pos ⟨rfl, hl, hg⟩, unframed_frame snap b 524288 hs (by decide)]
theorem unframed_part (r : Bs) (q most : Nat) (hr : r.length < 4294967296) (hq : q < 8 + r.length) : unframed ((frame r).take q) most = none := by
  unfold unframed
  rw [if_neg]
  intro hw
  simp only [whole, Bool.and_eq_true, decide_eq_true_eq] at hw
  have hl : ((frame r).take q).length = q := by rw [List.length_take, frame_len]; omega
  rw [hl] at hw
  have e4 : ((frame r).take q).take 4 = be 4 r.length := by
    rw [List.take_take, show min 4 q = 4 by omega]
    simp only [frame, List.append_assoc]
    exact List.take_left' (be_len 4 _)
  have hv : valN (((frame r).take q).take 4) = r.length := by rw [e4, valN_be]; exact Nat.mod_eq_of_lt (by omega)
  rw [hv] at hw
  omega
theorem begins_short (g : Nat) (snap : Bs) (q : Nat) (hs : snap.length < 4294967296) (hq : q < 20 + snap.length) : begins ((fileOf g snap).take q) = (0, [], []) := by
  unfold begins
  split
  · rename_i h
    have hl : ((fileOf g snap).take q).length = q := by rw [List.length_take, fileOf_len]; omega
    rw [hl] at h
    have e12 : ((fileOf g snap).take q).drop 12 = (frame snap).take (q - 12) := by
      rw [List.drop_take, show (fileOf g snap).drop 12 = frame snap from List.drop_left' (by simp [mark, be_len])]
    rw [e12, unframed_part snap (q - 12) _ hs (by omega)]
  · rfl
theorem begins_nil : begins [] = (0, [], []) := rfl
theorem recsOf_cut : ∀ (rs : List Bs) (q : Nat), (∀ r ∈ rs, r.length ≤ 65536) → ∃ j t, j ≤ rs.length ∧ recsOf ((frames rs).take q) = (rs.take j, t) ∧ frames (rs.take j) ++ t = (frames rs).take q ∧ ∀ m, m ≤ rs.length → (frames (rs.take m)).length ≤ q → m ≤ j
  | [], q, h => ⟨0, [], by simp, by simp [frames]; rfl, by simp [frames], fun m hm _ => by simpa using hm⟩
  | r :: l, q, h => by
    have hr := h r (by simp)
    by_cases hq : q < 8 + r.length
    · refine ⟨0, (frame r).take q, by simp, ?_, ?_, fun m hm hl => ?_⟩
      · have e : (frames (r :: l)).take q = (frame r).take q := by simp only [frames]; rw [List.take_append_of_le_length (by rw [frame_len]; omega)]
        rw [e, recsOf_none (unframed_part r q _ (by omega) hq)]
        rfl
      · simp only [List.take_zero, frames, List.nil_append]
        rw [List.take_append_of_le_length (by rw [frame_len]; omega)]
      · cases m with
        | zero => exact Nat.le_refl _
        | succ m =>
          simp only [List.take_succ_cons, frames, List.length_append, frame_len] at hl
          omega
    · obtain ⟨j, t, h1, h2, h3, h4⟩ := recsOf_cut l (q - (8 + r.length)) (fun x hx => h x (by simp [hx]))
      have e : (frames (r :: l)).take q = frame r ++ (frames l).take (q - (8 + r.length)) := by
        simp only [frames]
        rw [List.take_append, List.take_of_length_le (by rw [frame_len]; omega), frame_len]
      refine ⟨j + 1, t, by simp; omega, ?_, ?_, fun m hm hl => ?_⟩
      · rw [e, recsOf_some (unframed_frame r _ 65536 hr (by decide)), h2]
        rfl
      · rw [e]
        simp only [List.take_succ_cons, frames, List.append_assoc, h3]
      · cases m with
        | zero => omega
        | succ m =>
          simp only [List.take_succ_cons, frames, List.length_append, frame_len, List.length_cons] at hl hm
          have := h4 m (by omega) (by omega)
          omega
theorem recsOf_frames (rs : List Bs) (h : ∀ r ∈ rs, r.length ≤ 65536) : recsOf (frames rs) = (rs, []) := by
  obtain ⟨j, t, h1, h2, h3, h4⟩ := recsOf_cut rs (frames rs).length h
  have := h4 rs.length (Nat.le_refl _) (by simp)
  have hj : j = rs.length := by omega
  subst hj
  simp only [List.take_length] at h2 h3
  rw [h2]
  have : t = [] := by
    have := congrArg List.length h3
    simp at this
    exact this
  rw [this]
theorem be_valN : ∀ (k : Nat) (l : Bs), l.length = k → be k (valN l) = l
  | 0, l, h => by rw [List.eq_nil_of_length_eq_zero h]; rfl
  | k + 1, l, h => by
    rcases List.eq_nil_or_concat l with rfl | ⟨a, x, rfl⟩
    · simp at h
    · rw [List.concat_eq_append] at h ⊢
      have hx := x.toNat_lt
      rw [be, valN_one, show (256 * valN a + x.toNat) / 256 = valN a by omega, show (256 * valN a + x.toNat) % 256 = x.toNat by omega, be_valN k a (by simpa using h)]
      simp
theorem unframed_is {s : Bs} {most : Nat} {r b : Bs} (h : unframed s most = some (r, b)) : s = frame r ++ b ∧ r.length ≤ most := by
  unfold unframed at h
  split at h
  · rename_i hw
    simp only [Option.some.injEq, Prod.mk.injEq] at h
    obtain ⟨rfl, rfl⟩ := h
    simp only [whole, Bool.and_eq_true, decide_eq_true_eq] at hw
    obtain ⟨⟨⟨h8, h1⟩, h2⟩, h3⟩ := hw
    have hl : ((s.drop 8).take (valN (s.take 4))).length = valN (s.take 4) := by simp only [List.length_take, List.length_drop]; omega
    refine ⟨?_, by rw [hl]; exact h1⟩
    unfold frame
    rw [hl, ← h3, be_valN 4 _ (by simp; omega), be_valN 4 _ (by simp; omega), List.append_assoc, List.take_append_drop]
    conv => lhs; rw [← List.take_append_drop 8 s]
    congr 1
    rw [show (8 : Nat) = 4 + 4 from rfl, List.take_add]
  · cases h
theorem begins_is {s : Bs} (h : (begins s).1 ≠ 0) : s = fileOf (begins s).1 (begins s).2.1 ++ (begins s).2.2 ∧ (begins s).1 ≤ 4611686018427387904 ∧ (begins s).2.1.length ≤ 524288 := by
  unfold begins at h ⊢
  split at h
  · rename_i hc
    rw [if_pos hc]
    cases hu : unframed (s.drop 12) 524288 with
    | none => rw [hu] at h; exact absurd rfl h
    | some x =>
      obtain ⟨r, b⟩ := x
      simp only
      obtain ⟨e, hr⟩ := unframed_is hu
      refine ⟨?_, hc.2.2, hr⟩
      unfold fileOf
      rw [be_valN 8 _ (by simp; omega), ← hc.1, List.append_assoc, ← e]
      conv => lhs; rw [← List.take_append_drop 12 s]
      congr 1
      rw [show (12 : Nat) = 4 + 8 from rfl, List.take_add]
  · exact absurd rfl h
theorem recsOf_is : ∀ (k : Nat) (s : Bs), s.length ≤ k → frames (recsOf s).1 ++ (recsOf s).2 = s ∧ ∀ r ∈ (recsOf s).1, r.length ≤ 65536
  | 0, s, h => by
    have : s = [] := List.eq_nil_of_length_eq_zero (by omega)
    subst this
    exact ⟨rfl, fun r hr => by cases hr⟩
  | k + 1, s, h => by
    cases hu : unframed s 65536 with
    | none => rw [recsOf_none hu]; exact ⟨rfl, fun r hr => by cases hr⟩
    | some x =>
      obtain ⟨r, b⟩ := x
      obtain ⟨e, hr⟩ := unframed_is hu
      have hl := unframed_len hu
      obtain ⟨i1, i2⟩ := recsOf_is k b (by omega)
      rw [recsOf_some hu]
      refine ⟨?_, fun x hx => ?_⟩
      · simp only [frames, List.append_assoc, i1]
        exact e.symm
      · rcases List.mem_cons.1 hx with rfl | hx
        · exact hr
        · exact i2 x hx
end Go.Proofs.YtmoihgniglomiaaDoor
namespace Go.Proofs.YtmoihgniglomiaaDoor
structure LOwn (S : St) (l : Wlg) (snap : Bs) (rs : List Bs) (m : Nat) : Prop where
  wf : S.Wf
  gone : S.gone = false
  dead : l.dead = false
  ff : l.file < 2
  g1 : 1 ≤ l.gen
  g2 : l.gen ≤ 4611686018427387904
  own : S.file l.file = fileOf l.gen snap ++ frames rs
  oth : S.file (1 - l.file) = []
  sn : snap.length ≤ 524288
  rl : ∀ r ∈ rs, r.length ≤ 65536
  n : l.n = rs.length
  hm : m ≤ rs.length
  sf : 20 + snap.length + (frames (rs.take m)).length ≤ S.safe l.file
structure LDown (S : St) (snap : Bs) (rs : List Bs) : Prop where
  wf : S.Wf
  still : Still S
  counts : (newest S).2.1 ≠ 0
  says : (newest S).2.2.1 = snap ∧ (recsOf (newest S).2.2.2).1 = rs
theorem LDown.power {S : St} {snap : Bs} {rs : List Bs} (h : LDown S snap rs) (g : Bool) {n k : Nat} (hn : n ≤ 9223372036854775807) (hk : k ≤ 9223372036854775807) : LDown (S.power g n k) snap rs := ⟨h.wf.power g hn hk, h.still, h.counts, h.says⟩
theorem newest_of {S : St} {f : Nat} (hf : f < 2) (h0 : (begins (S.file f)).1 ≠ 0) (h : (begins (S.file (1 - f))).1 < (begins (S.file f)).1) : newest S = (f, begins (S.file f)) := by
  unfold newest
  rcases (by omega : f = 0 ∨ f = 1) with rfl | rfl
  · have e0 : S.file 0 = S.f0 := rfl
    have e1 : S.file (1 - 0) = S.f1 := rfl
    rw [e0] at h h0 ⊢; rw [e1] at h
    rw [if_neg (by omega)]
  · have e0 : S.file (1 - 1) = S.f0 := rfl
    have e1 : S.file 1 = S.f1 := rfl
    rw [e1] at h h0 ⊢; rw [e0] at h
    rw [if_pos h]
theorem keep_file {S : St} (h : S.Wf) (k f : Nat) (hf : f < 2) : ∃ x, S.safe f ≤ x ∧ x ≤ (S.file f).length ∧ (S.keep k).file f = (S.file f).take x := by
  have := h.left k
  rcases (by omega : f = 0 ∨ f = 1) with rfl | rfl
  · exact ⟨(S.left k).1, this.1, this.2.1, rfl⟩
  · exact ⟨(S.left k).2, this.2.2.1, this.2.2.2.1, rfl⟩
theorem keep_still {S : St} (h : S.Wf) (k : Nat) : Still (S.keep k) := by
  have := h.left k
  refine ⟨rfl, ?_, ?_⟩
  · show (S.left k).1 = (S.f0.take (S.left k).1).length
    rw [List.length_take]; omega
  · show (S.left k).2 = (S.f1.take (S.left k).2).length
    rw [List.length_take]; omega
theorem LOwn.keep {S : St} {l : Wlg} {snap : Bs} {rs : List Bs} {m : Nat} (h : LOwn S l snap rs m) (k : Nat) : ∃ j, m ≤ j ∧ j ≤ rs.length ∧ LDown (S.keep k) snap (rs.take j) := by
  obtain ⟨x, x1, x2, x3⟩ := keep_file h.wf k l.file h.ff
  obtain ⟨y, y1, y2, y3⟩ := keep_file h.wf k (1 - l.file) (by omega)
  have hsf := h.sf
  have hof := h.own
  have hz : (S.keep k).file (1 - l.file) = [] := by rw [y3, h.oth]; simp
  have ho : (S.keep k).file l.file = fileOf l.gen snap ++ (frames rs).take (x - (20 + snap.length)) := by
    rw [x3, hof, List.take_append, List.take_of_length_le (by rw [fileOf_len]; omega), fileOf_len]
  obtain ⟨j, t, h1, h2, h3, h4⟩ := recsOf_cut rs (x - (20 + snap.length)) h.rl
  have hb := begins_file l.gen snap ((frames rs).take (x - (20 + snap.length))) h.g2 h.sn
  rw [← ho] at hb
  have hn : newest (S.keep k) = (l.file, begins ((S.keep k).file l.file)) := newest_of h.ff (by rw [hb]; have := h.g1; simp only; omega) (by rw [hz, hb, begins_nil]; have := h.g1; simp only; omega)
  rw [hb] at hn
  refine ⟨j, h4 m h.hm (by omega), h1, h.wf.keep k, keep_still h.wf k, ?_, ?_⟩
  · rw [hn]; have := h.g1; simp only; omega
  · rw [hn]; exact ⟨rfl, by simp only [h2]⟩
theorem LOwn.lose {S : St} {l : Wlg} {snap : Bs} {rs : List Bs} {m : Nat} (h : LOwn S l snap rs m) (k : Nat) : ∃ j, m ≤ j ∧ j ≤ rs.length ∧ LDown (S.lose k) snap (rs.take j) := by
  obtain ⟨j, h1, h2, h3⟩ := h.keep k
  exact ⟨j, h1, h2, h3.power _ (by omega) (by omega)⟩
theorem count_cases (S : St) : ((S.count).1 = 0 ∧ (S.inn = 0 → (S.count).2.inn = 0)) ∨ ((S.count).1 = 2 ∧ (S.count).2 = S.lose S.lft ∧ S.inn ≠ 0) := by
  unfold St.count
  split
  · rename_i h0; exact .inl ⟨rfl, fun _ => h0⟩
  · rename_i h0
    split
    · exact .inl ⟨rfl, fun h => absurd h h0⟩
    · exact .inr ⟨rfl, rfl, h0⟩
theorem LOwn.count {S : St} {l : Wlg} {snap : Bs} {rs : List Bs} {m : Nat} (h : LOwn S l snap rs m) (h0 : (S.count).1 = 0) : LOwn (S.count).2 l snap rs m := by
  obtain ⟨a, b, c, d, e, f⟩ := count_ok h0
  refine ⟨h.wf.count, by rw [f]; exact h.gone, h.dead, h.ff, h.g1, h.g2, ?_, ?_, h.sn, h.rl, h.n, h.hm, ?_⟩
  · rw [← h.own]; unfold St.file; rw [a, b]
  · rw [← h.oth]; unfold St.file; rw [a, b]
  · refine Nat.le_trans h.sf (Nat.le_of_eq ?_); unfold St.safe; rw [c, d]
theorem LOwn.arm {S : St} {l : Wlg} {snap : Bs} {rs : List Bs} {m : Nat} (h : LOwn S l snap rs m) (n k : Int) (hn : n ≤ 9223372036854775807) (hk : k ≤ 9223372036854775807) : LOwn (S.arm n k).2 l snap rs m := by
  unfold St.arm
  split
  · exact h
  · split
    · exact h
    · exact ⟨h.wf.power _ (by omega) (by omega), rfl, h.dead, h.ff, h.g1, h.g2, h.own, h.oth, h.sn, h.rl, h.n, h.hm, h.sf⟩
theorem LOwn.revive {S : St} {l : Wlg} {snap : Bs} {rs : List Bs} {m : Nat} (h : LOwn S l snap rs m) : LOwn S.revive l snap rs m := ⟨h.wf.power _ (by omega) (by omega), rfl, h.dead, h.ff, h.g1, h.g2, h.own, h.oth, h.sn, h.rl, h.n, h.hm, h.sf⟩
inductive LCall (S : St) (l : Wlg) (snap : Bs) (rs : List Bs) (m : Nat) (snap2 : Bs) (rs2 : List Bs) (m2 : Nat) (x : Nat × St × Wlg) : Prop where
  | no (h0 : x.1 = 101 ∨ x.1 = 102) (h : x.2 = (S, l))
  | ok (h0 : x.1 = 0) (h : LOwn x.2.1 x.2.2 snap2 rs2 m2) (hi : S.inn = 0 → x.2.1.inn = 0)
  | down (h0 : x.1 = 2) (hg : x.2.1.gone = true) (hd : x.2.2.dead = true) (hi : S.inn ≠ 0) (h : (∃ j, m ≤ j ∧ j ≤ rs.length ∧ LDown x.2.1 snap (rs.take j)) ∨ LDown x.2.1 snap2 rs2) (h2 : x.2.2.file < 2 ∧ x.2.2.gen ≤ 4611686018427387904 ∧ x.2.2.n ≤ 4611686018427387904)
theorem LOwn.lay {S : St} {l : Wlg} {snap : Bs} {rs : List Bs} {m : Nat} (h : LOwn S l snap rs m) (r : Bs) (hr : r.length ≤ 65536) (hl : (S.file l.file).length + (frame r).length ≤ 1048576) : LOwn (S.lay l.file (frame r)) { l with n := l.n + 1 } snap (rs ++ [r]) m := by
  have hm := h.hm
  have ho := h.own
  have hz := h.oth
  have hs := h.sf
  refine ⟨h.wf.lay _ _ h.ff hl, ?_, h.dead, h.ff, h.g1, h.g2, ?_, ?_, h.sn, ?_, ?_, ?_, ?_⟩
  · unfold St.lay; split <;> exact h.gone
  · rw [frames_app]
    simp only [frames, List.append_nil]
    rw [← List.append_assoc, ← ho]
    rcases (by have := h.ff; omega : l.file = 0 ∨ l.file = 1) with e | e
    · rw [e]; rfl
    · rw [e]; rfl
  · rw [← hz]
    rcases (by have := h.ff; omega : l.file = 0 ∨ l.file = 1) with e | e
    · rw [e]; rfl
    · rw [e]; rfl
  · intro x hx
    rcases List.mem_append.1 hx with hx | hx
    · exact h.rl x hx
    · simp at hx; rw [hx]; exact hr
  · rw [List.length_append]; simp only [h.n]; rfl
  · rw [List.length_append]; omega
  · rw [List.take_append_of_le_length hm]
    refine Nat.le_trans hs (Nat.le_of_eq ?_)
    show S.safe l.file = (S.lay l.file (frame r)).safe l.file
    unfold St.lay St.safe
    rcases (by have := h.ff; omega : l.file = 0 ∨ l.file = 1) with e | e
    · rw [e]; rfl
    · rw [e]; rfl
theorem LOwn.many {S : St} {l : Wlg} {snap : Bs} {rs : List Bs} {m : Nat} (h : LOwn S l snap rs m) : l.n ≤ 1048576 := by
  have hl := file_le h.wf l.file
  have : ∀ a : List Bs, a.length ≤ (frames a).length := fun a => by
    induction a with
    | nil => exact Nat.le_refl _
    | cons r l ih => simp only [frames, List.length_append, frame_len, List.length_cons]; omega
  have h2 := this rs
  rw [h.own, List.length_append] at hl
  rw [h.n]; omega
theorem LOwn.lap {S : St} {l : Wlg} {snap : Bs} {rs : List Bs} {m : Nat} (h : LOwn S l snap rs m) (r : Bs) : LCall S l snap rs m snap (rs ++ [r]) m (lap S l r) := by
  have hff := h.ff
  unfold YtmoihgniglomiaaDoor.lap
  rw [if_neg (by simp [h.gone, h.dead])]
  split
  · exact .no (.inl rfl) rfl
  · rename_i h1
    split
    · exact .no (.inr rfl) rfl
    · rename_i h2
      have hroom : (S.file l.file).length + (frame r).length ≤ 1048576 := by rw [frame_len]; unfold room at h2; omega
      have hy := h.lay r (by omega) hroom
      have e : S.append (l.file : Int) (frame r) = (S.lay l.file (frame r)).count := by
        unfold St.append
        rw [if_neg (by simp [h.gone]), if_neg (by unfold St.there; simp; omega), Int.toNat_natCast, if_neg (by omega)]
      have hin : (S.lay l.file (frame r)).inn = S.inn := by unfold St.lay; split <;> rfl
      rw [e]
      rcases count_cases (S.lay l.file (frame r)) with ⟨c0, ci⟩ | ⟨c2, ce, ci⟩
      · rw [if_pos c0]
        exact .ok rfl (hy.count c0) (fun hi => ci (by rw [hin]; exact hi))
      · rw [if_neg (by omega)]
        obtain ⟨j, j1, j2, j3⟩ := hy.lose (S.lay l.file (frame r)).lft
        have hmany := h.many
        refine .down rfl (by rw [ce]; rfl) rfl (by rw [← hin]; exact ci) ?_ ⟨hff, h.g2, by show l.n ≤ _; omega⟩
        rw [ce]
        by_cases hj : j ≤ rs.length
        · rw [List.take_append_of_le_length hj] at j3
          exact .inl ⟨j, j1, hj, j3⟩
        · rw [List.take_of_length_le (by simp; omega)] at j3
          exact .inr j3
theorem LOwn.lsync {S : St} {l : Wlg} {snap : Bs} {rs : List Bs} {m : Nat} (h : LOwn S l snap rs m) : LCall S l snap rs m snap rs rs.length (lsync S l) := by
  have hff := h.ff
  unfold YtmoihgniglomiaaDoor.lsync
  rw [if_neg (by simp [h.gone, h.dead])]
  have e : S.sync = if (S.count).1 = 0 then (0, (S.count).2.keep (S.count).2.waiting) else S.count := by
    unfold St.sync; rw [if_neg (by simp [h.gone])]
  rw [e]
  rcases count_cases S with ⟨c0, ci⟩ | ⟨c2, ce, ci⟩
  · rw [if_pos c0, if_pos rfl]
    have hc := h.count c0
    obtain ⟨a, b, c, d⟩ := keep_all2 hc.wf
    refine .ok rfl ⟨hc.wf.keep _, by rw [d]; exact hc.gone, hc.dead, hc.ff, hc.g1, hc.g2, ?_, ?_, hc.sn, hc.rl, hc.n, Nat.le_refl _, ?_⟩ ci
    · rw [← hc.own]; unfold St.file; simp only [a, b]
    · rw [← hc.oth]; unfold St.file; simp only [a, b]
    · rw [safe2_file c]
      have : ((S.count).2.keep (S.count).2.waiting).file l.file = fileOf l.gen snap ++ frames rs := by rw [← hc.own]; unfold St.file; simp only [a, b]
      rw [this, List.take_length, List.length_append, fileOf_len]
      omega
  · have c0 : ¬ (S.count).1 = 0 := by omega
    simp only [if_neg c0]
    obtain ⟨j, j1, j2, j3⟩ := h.lose S.lft
    have hmany := h.many
    exact .down rfl (by rw [ce]; rfl) rfl ci (.inl ⟨j, j1, j2, by rw [ce]; exact j3⟩) ⟨hff, h.g2, by show l.n ≤ _; omega⟩
theorem both_down {M : St} {f g : Nat} {snap snap2 : Bs} {rs : List Bs} {m : Nat} (hw : M.Wf) (hf : f < 2) (g1 : 1 ≤ g) (g2 : g + 1 ≤ 4611686018427387904) (hs : snap.length ≤ 524288) (hs2 : snap2.length ≤ 524288) (hr : ∀ r ∈ rs, r.length ≤ 65536) (hm : m ≤ rs.length)
    (ho : M.file f = fileOf g snap ++ frames rs) (hz : M.file (1 - f) = fileOf (g + 1) snap2) (hsf : 20 + snap.length + (frames (rs.take m)).length ≤ M.safe f) (k : Nat) :
    (∃ j, m ≤ j ∧ j ≤ rs.length ∧ LDown (M.lose k) snap (rs.take j)) ∨ LDown (M.lose k) snap2 [] := by
  obtain ⟨x, x1, x2, x3⟩ := keep_file hw k f hf
  obtain ⟨y, y1, y2, y3⟩ := keep_file hw k (1 - f) (by omega)
  have ho' : (M.keep k).file f = fileOf g snap ++ (frames rs).take (x - (20 + snap.length)) := by
    rw [x3, ho, List.take_append, List.take_of_length_le (by rw [fileOf_len]; omega), fileOf_len]
  have hb := begins_file g snap ((frames rs).take (x - (20 + snap.length))) (by omega) hs
  rw [← ho'] at hb
  rw [hz] at y2 y3
  rw [fileOf_len] at y2
  by_cases hy : y = 20 + snap2.length
  · right
    have hz' : (M.keep k).file (1 - f) = fileOf (g + 1) snap2 ++ [] := by rw [y3, List.append_nil]; exact List.take_of_length_le (by rw [fileOf_len]; omega)
    have hb2 := begins_file (g + 1) snap2 [] g2 hs2
    rw [← hz'] at hb2
    have hff : 1 - (1 - f) = f := by omega
    have hn : newest (M.keep k) = (1 - f, begins ((M.keep k).file (1 - f))) := newest_of (by omega) (by rw [hb2]; simp) (by rw [hff, hb, hb2]; simp)
    rw [hb2] at hn
    have hd : LDown (M.keep k) snap2 [] := ⟨hw.keep k, keep_still hw k, by rw [hn]; simp, by rw [hn]; exact ⟨rfl, rfl⟩⟩
    exact hd.power _ (by omega) (by omega)
  · left
    obtain ⟨j, t, h1, h2, h3, h4⟩ := recsOf_cut rs (x - (20 + snap.length)) hr
    have hb2 : begins ((M.keep k).file (1 - f)) = (0, [], []) := by rw [y3]; exact begins_short _ _ _ (by omega) (by omega)
    have hn : newest (M.keep k) = (f, begins ((M.keep k).file f)) := newest_of hf (by rw [hb]; simp only; omega) (by rw [hb2, hb]; simp only; omega)
    rw [hb] at hn
    have hd : LDown (M.keep k) snap (rs.take j) := ⟨hw.keep k, keep_still hw k, by rw [hn]; simp only; omega, by rw [hn]; exact ⟨rfl, by simp only [h2]⟩⟩
    exact ⟨j, h4 m hm (by omega), h1, hd.power _ (by omega) (by omega)⟩
end Go.Proofs.YtmoihgniglomiaaDoor
