/- Disks whose bytes are all safe: what an opening leaves; two rows of texts are the same. Condition: none. -/
import Derived.Test.YtmoihgniglomiaaDoorZXa
import Derived.Test.YtmoihgniglomiaaDoorZRb
import Derived.Test.YtmoihgniglomiaaDoorZR
set_option linter.unusedVariables false
set_option linter.unusedSimpArgs false
set_option maxRecDepth 100000
namespace Go.Proofs.YtmoihgniglomiaaDoor
open Go.RowKit Go.Sort

/-- every byte is safe -/
def Still (S : St) : Prop := S.row = [] ∧ S.s0 = S.f0.length ∧ S.s1 = S.f1.length
theorem Still.clean {S : St} (h : Still S) : Clean S := by
  have hs : ∀ f, (S.file f).length ≤ S.safe f := fun f => by
    unfold St.file St.safe
    split
    · rw [h.2.1]; exact Nat.le_refl _
    · rw [h.2.2]; exact Nat.le_refl _
  exact ⟨fun _ => hs _, fun _ => hs _⟩
theorem Still.power {S : St} (h : Still S) (g : Bool) (n k : Nat) : Still (S.power g n k) := h
theorem Still.keep {S : St} (h : Still S) (k : Nat) : Still (S.keep k) := by
  have e : S.left k = (S.s0, S.s1) := by unfold St.left; rw [h.1]; rfl
  refine ⟨rfl, ?_, ?_⟩
  · show (S.left k).1 = (S.f0.take (S.left k).1).length
    rw [e, List.length_take, h.2.1]; simp
  · show (S.left k).2 = (S.f1.take (S.left k).2).length
    rw [e, List.length_take, h.2.2]; simp
theorem Still.lose {S : St} (h : Still S) (k : Nat) : Still (S.lose k) := (h.keep k).power _ _ _
theorem Still.count {S : St} (h : Still S) : Still S.count.2 := by
  unfold St.count
  split
  · exact h
  · split
    · exact h
    · exact h.lose _
theorem Still.cutF {S : St} (h : Still S) (f n : Nat) (hn : n ≤ (S.file f).length) : Still (S.cutF f n) := by
  unfold St.cutF St.file at *
  split
  · rename_i h0
    rw [if_pos h0] at hn
    exact ⟨h.1, by show n = (S.f0.take n).length; rw [List.length_take]; omega, h.2.2⟩
  · rename_i h0
    rw [if_neg h0] at hn
    exact ⟨h.1, h.2.1, by show n = (S.f1.take n).length; rw [List.length_take]; omega⟩
theorem count_zero_file {S : St} (h : S.count.1 = 0) (f : Nat) : S.count.2.file f = S.file f := by
  unfold St.count at *
  split at h
  · rename_i h0; rw [if_pos h0]
  · rename_i h0
    rw [if_neg h0]
    split at h
    · rename_i h1; rw [if_pos h1]; rfl
    · cases h
theorem Still.cut {S : St} (h : Still S) (f n : Int) : Still (S.cut f n).2 := by
  unfold St.cut
  split
  · exact h
  · split
    · exact h
    · split
      · exact h
      · rename_i hb
        split
        · rename_i hc
          exact h.count.cutF _ _ (by rw [count_zero_file hc]; omega)
        · exact h.count
theorem Still.ocut {S : St} (h : Still S) (f t : Nat) : Still (ocut S f t).2 := by
  unfold YtmoihgniglomiaaDoor.ocut
  split
  · exact h.cut _ _
  · exact h
theorem Still.ocut2 {S : St} (h : Still S) (f t : Nat) : Still (ocut2 S f t).2 := by
  unfold YtmoihgniglomiaaDoor.ocut2
  split
  · split
    · exact (h.ocut _ _).cut _ _
    · exact h.ocut _ _
  · exact h.ocut _ _
theorem Still.open {S : St} (h : Still S) : Still (lopen S).2.2 := by
  unfold lopen
  split
  · exact h
  · split
    · exact h
    · split
      · exact h.ocut2 _ _
      · exact h.ocut2 _ _
theorem Still.revive {S : St} (h : Still S) : Still S.revive := h
theorem Still.arm {S : St} (h : Still S) (n k : Int) : Still (S.arm n k).2 := by
  unfold St.arm
  split
  · exact h
  · split
    · exact h
    · exact h
theorem Still.new (a b : List UInt8) : Still (St.new a b) := ⟨rfl, rfl, rfl⟩

theorem srow_at {w : World} {v : Value} {l : List Bs} {n : Nat} (hn : n = l.length) (h : w.ownsRow 0 9 1 v n (scells l)) : ∃ a c, v = .slice a n c ∧ ∀ i (hi : i < l.length), ∃ g, a = some ⟨g, 0, none⟩ ∧ w.cell? ⟨g, i, none⟩ = some (.string ⟨l[i].toArray⟩) := by
  subst hn
  have h' := h
  obtain ⟨_, ⟨rfl, h0⟩ | ⟨g, cap, cur, rfl, _⟩⟩ := h'
  · exact ⟨none, 0, by rw [h0], fun i hi => by omega⟩
  · refine ⟨_, _, rfl, fun i hi => ⟨g, rfl, ?_⟩⟩
    have := h.cells (g := g) rfl i (.string ⟨l[i].toArray⟩) (by simp [scells, hi])
    rwa [at0] at this
set_option maxHeartbeats 8000000 in
theorem sames_any (v v' : Value) (l : List Bs) (w : World) (h : w.ownsRow 0 9 1 v l.length (scells l)) (h' : w.ownsRow 0 9 1 v' l.length (scells l)) (hl : l.length ≤ 4194304) :
    Calls Tryd.prog 25 #[v, v'] w fun e w' => e = .returned (.bool true) ∧ Below w.heap.size w w' := by
  obtain ⟨n, hn⟩ : ∃ n, n = l.length := ⟨_, rfl⟩
  rw [← hn] at h h'
  obtain ⟨a, c, rfl, hc⟩ := srow_at hn h
  obtain ⟨a', c', rfl, hc'⟩ := srow_at hn h'
  have HC := Lib.hid (And.intro hc hc')
  have hlen : n ≤ 4194304 := by rw [hn]; exact hl
  have HN := Lib.hid hn
  have hne := ne9
  clear h h' hc hc' hl hn
  go_enter Tryd.func25, Tryd.ntmps25
  go_wp2_with fail
  go_loopw [5] (fun iv wr => ∃ i : Nat, i ≤ n ∧ iv = .int .i64 (i : Int) ∧ Hid (Below w.heap.size w wr) ∧ Hid (∀ g i x, w.cell? ⟨g, i, none⟩ = some x → wr.cell? ⟨g, i, none⟩ = some x)) (fun iv _ => n - (intOf iv).toNat)
  case atStart => exact ⟨0, Nat.zero_le _, rfl, Lib.hid (Below.refl _ _), Lib.hid fun _ _ _ h => h⟩
  case round =>
    obtain ⟨i, hi, rfl, HB, HW⟩ := hrel
    by_cases hlt : i < n
    · have hil : i < l.length := by rw [← HN.out]; exact hlt
      obtain ⟨g, rfl, c0⟩ := HC.out.1 i hil
      obtain ⟨g', rfl, c1⟩ := HC.out.2 i hil
      replace c0 := HW.out _ _ _ c0
      replace c1 := HW.out _ _ _ c1
      generalize (⟨l[i].toArray⟩ : ByteArray) = x at c0 c1
      go_wp2_with fail
      go_quiet (fail)
      go_wp2_with fail
      go_roundw
      case rel => exact ⟨i + 1, by omega, by go_num, Lib.hid (below_drewN HB.out _), Lib.hid fun g i x h => by have := HW.out g i x h; simpa using this⟩
      case measure => simp [intOf]; omega
    · have hin : i = n := by omega
      subst hin
      go_wp2_with fail
      go_ret
      exact ⟨rfl, HB.out⟩
end Go.Proofs.YtmoihgniglomiaaDoor
/- Both disks opened at once: they tell the same. Condition: the program's table, that all that must be cut off is safe. -/
set_option linter.unusedVariables false
set_option linter.unusedSimpArgs false
set_option maxRecDepth 100000
namespace Go.Proofs.YtmoihgniglomiaaDoor
open Go.RowKit Go.Sort

/-- the program's disk and the document's, of one's own, beside each other -/
structure PO (B : Nat) (w0 w : World) (p : Fp) (r : Nat) (S T : St) (uv : Value) (kp : Int) : Prop where
  d : DO B w0 w p S
  k : Rk w r T uv kp
  rb : B ≤ r
  ub : ∀ g, uv.ownBlock = some g → B ≤ g
  nr : r ∉ p.own
  nu : ∀ g, uv.ownBlock = some g → g ∉ p.own
theorem PO.down {B : Nat} {w0 w w' : World} {p : Fp} {r : Nat} {S T : St} {uv : Value} {kp : Int} (h : PO B w0 w p r S T uv kp) (hB : B ≤ w0.heap.size) (hb : Below w.heap.size w w') : PO B w0 w' p r S T uv kp :=
  ⟨h.d.down hB hb, h.k.below hb, h.rb, h.ub, h.nr, h.nu⟩
theorem PO.mut {B : Nat} {w0 w w' : World} {p p' : Fp} {r : Nat} {S S' T : St} {uv : Value} {kp : Int} (h : PO B w0 w p r S T uv kp) (hB : B ≤ w0.heap.size) (hB0 : 0 < B) (m : Mut w p w' p' S') : PO B w0 w' p' r S' T uv kp :=
  ⟨h.d.mut hB hB0 m, h.k.kept (m.2.2.1.block r h.k.blk.lt h.nr) (fun g e => m.2.2.1.block g (h.k.ult g e) (h.nu g e)), h.rb, h.ub,
    fun hx => (m.2.2.2 r hx).elim h.nr (by have := h.k.blk.lt; omega), fun g e hx => (m.2.2.2 g hx).elim (h.nu g e) (by have := h.k.ult g e; omega)⟩
theorem PO.rm {B : Nat} {w0 w w' : World} {p : Fp} {r : Nat} {S T T' : St} {uv : Value} {kp : Int} (h : PO B w0 w p r S T uv kp) (hB : B ≤ w0.heap.size) (hB0 : 0 < B) (m : Rm w r uv w' T') : ∃ uv' kp', PO B w0 w' p r S T' uv' kp' ∧ ∀ g, uv'.ownBlock = some g → uv.ownBlock = some g ∨ w.heap.size ≤ g := by
  obtain ⟨uv', kp', h1, h2, h3⟩ := m
  have hs : B ≤ w.heap.size := Nat.le_trans hB h.d.bw.size
  refine ⟨uv', kp', ⟨⟨h.d.dk.only h2 (fun k hk hx => by simp at hx; subst hx; exact h.nr hk), h.d.bw.trans (h2.below hs (fun x hx => by simp at hx; subst hx; exact h.rb)), h.d.op, h.d.tb.only h2 (by have := h.rb; simp; omega)⟩, h1, h.rb, fun g e => (h3 g e).elim (h.ub g) (fun h => Nat.le_trans hs h), h.nr, fun g e hx => (h3 g e).elim (fun e => h.nu g e hx) (fun hg => by have := h.d.dk.lt g hx; omega)⟩, h3⟩
theorem lopen_recs {S : St} (h : S.Wf) : (lopen S).2.1.2.2.length ≤ 1048576 := by
  have hr : ∀ s : Bs, s.length ≤ 1048576 → (recsOf s).1.length ≤ 1048576 := fun s hs => by
    have := recs_len s.length s (Nat.le_refl _)
    unfold recsOf
    omega
  unfold lopen
  split
  · simp
  · split
    · simp
    · split
      · refine hr _ ?_
        have h0 := file_le h 0
        have h1 := file_le h 1
        have b0 := begins_le S.f0
        have b1 := begins_le S.f1
        unfold newest
        split
        · simp only; have : S.file 1 = S.f1 := rfl; rw [this] at h1; omega
        · simp only; have : S.file 0 = S.f0 := rfl; rw [this] at h0; omega
      · simp
theorem PO.row {B : Nat} {w0 w w' : World} {p : Fp} {r : Nat} {S T : St} {uv : Value} {kp : Int} {L : List Nat} (h : PO B w0 w p r S T uv kp) (hB : B ≤ w0.heap.size) (hB0 : 0 < B) (ho : Only L w w') (hL : ∀ g ∈ L, B ≤ g ∧ g ∉ p.own ∧ g ≠ r ∧ uv.ownBlock ≠ some g) : PO B w0 w' p r S T uv kp :=
  ⟨⟨h.d.dk.only ho (fun k hk hx => (hL k hx).2.1 hk), h.d.bw.trans (ho.below (Nat.le_trans hB h.d.bw.size) (fun x hx => (hL x hx).1)), h.d.op, h.d.tb.only ho (fun hx => by have := (hL 0 hx).1; omega)⟩,
    h.k.kept (ho.block r h.k.blk.lt (fun hx => (hL r hx).2.2.1 rfl)) (fun k e => ho.block k (h.k.ult k e) (fun hx => (hL k hx).2.2.2 e)), h.rb, h.ub, h.nr, h.nu⟩
theorem Lk.only {w w' : World} {b : Nat} {p : Fp} {S : St} {l : Wlg} (h : Lk w b p S l) {L : List Nat} (ho : Only L w w') (hb : b ∉ L) (hp : ∀ k ∈ p.own, k ∉ L) : Lk w' b p S l :=
  ⟨h.blk.only ho hb, h.dk.only ho hp, h.ne, h.zb, h.zo, h.ff, h.gg⟩
theorem Rk.ne102 {w : World} {r : Nat} {S : St} {uv : Value} {kp : Int} (h : Rk w r S uv kp) {t : Nat} {cs : Array Value} (ht : Bk 102 w t cs) : uv.ownBlock ≠ some t := by
  intro e
  obtain ⟨_, ⟨hv, _⟩ | ⟨g, cap, cur, hv, _, hg, _⟩⟩ := h.row
  · rw [hv] at e; cases e
  · rw [hv] at e
    have : g = t := by simpa [Value.ownBlock] using e
    subst this
    have h2 := hg.symm.trans ht
    simp at h2
/-- the logs that an opening of both hands over -/
structure OL (w0 w : World) (p : Fp) (r : Nat) (S : St) (uv : Value) (l : Wlg) (b rb : Nat) : Prop where
  lk : Lk w b p S l
  bk : Bk 102 w rb (rlc r l)
  wb : w0.heap.size ≤ b
  wr : w0.heap.size ≤ rb
  br : b ≠ rb
  rp : rb ∉ p.own
  ub : uv.ownBlock ≠ some b
  ur : uv.ownBlock ≠ some rb
theorem OL.row {w0 w w' : World} {p : Fp} {r : Nat} {S : St} {uv : Value} {l : Wlg} {b rb : Nat} {L : List Nat} (h : OL w0 w p r S uv l b rb) (ho : Only L w w') (hL : ∀ g ∈ L, g ∉ p.own ∧ b ≠ g ∧ rb ≠ g) : OL w0 w' p r S uv l b rb :=
  ⟨h.lk.only ho (fun hx => (hL b hx).2.1 rfl) (fun k hk hx => (hL k hx).1 hk), h.bk.only ho (fun hx => (hL rb hx).2.2 rfl), h.wb, h.wr, h.br, h.rp, h.ub, h.ur⟩
/-- what it tells, by the error -/
def Told (w0 w : World) (p : Fp) (r : Nat) (x : Nat × (Wlg × Bs × List Bs) × St) (uv lv rv : Value) : Prop :=
  (x.1 = 0 ∧ ∃ b rb, lv = .pointer (some ⟨b, 0, none⟩) ∧ rv = .pointer (some ⟨rb, 0, none⟩) ∧ OL w0 w p r x.2.2 uv x.2.1.1 b rb) ∨ (x.1 ≠ 0 ∧ lv = .pointer none ∧ rv = .pointer none)
theorem Told.row {w0 w w' : World} {p : Fp} {r : Nat} {x : Nat × (Wlg × Bs × List Bs) × St} {uv lv rv : Value} {L : List Nat} (h : Told w0 w p r x uv lv rv) (ho : Only L w w') (hL : ∀ g ∈ L, g ∉ p.own ∧ (∀ b, lv = .pointer (some ⟨b, 0, none⟩) → b ≠ g) ∧ ∀ b, rv = .pointer (some ⟨b, 0, none⟩) → b ≠ g) : Told w0 w' p r x uv lv rv := by
  rcases h with ⟨h0, b, rb, e1, e2, h⟩ | h
  · exact .inl ⟨h0, b, rb, e1, e2, h.row ho (fun g hg => ⟨(hL g hg).1, (hL g hg).2.1 b e1, (hL g hg).2.2 rb e2⟩)⟩
  · exact .inr h
theorem Told.below {w0 w w' : World} {p : Fp} {r : Nat} {x : Nat × (Wlg × Bs × List Bs) × St} {uv lv rv : Value} (h : Told w0 w p r x uv lv rv) (hb : Below w.heap.size w w') : Told w0 w' p r x uv lv rv := by
  rcases h with ⟨h0, b, rb, e1, e2, h⟩ | h
  · exact .inl ⟨h0, b, rb, e1, e2, ⟨h.lk.below hb, h.bk.below hb, h.wb, h.wr, h.br, h.rp, h.ub, h.ur⟩⟩
  · exact .inr h
set_option maxHeartbeats 16000000 in
theorem opened_any {B : Nat} {w0 w : World} {p : Fp} {r : Nat} {S : St} {uv : Value} {kp : Int} (h : PO B w0 w p r S S uv kp) (hB : B ≤ w0.heap.size) (hB0 : 0 < B) (hcl : Clean S) :
    Calls Tryd.prog 24 #[p.v, .pointer (some ⟨r, 0, none⟩)] w fun e w' => ∃ lv rv p' uv' kp', e = .returned (.tuple #[lv, rv, .bool true]) ∧ PO B w0 w' p' r (lopen S).2.2 (lopen S).2.2 uv' kp' ∧ p'.b = p.b ∧ Told w w' p' r (lopen S) uv' lv rv := by
  have H0 := Lib.hid h
  have HC := Lib.hid hcl
  have hlen := lopen_recs h.d.dk.wf
  have hn := ne9
  have HW1 := Lib.hid (wopen_any h.d.dk h.d.tb (h.d.zo hB0) hcl)
  generalize hx : lopen S = x at *
  obtain ⟨code, ⟨lg, snap, recs⟩, S2⟩ := x
  simp only at hlen
  obtain ⟨pv, hpv⟩ : ∃ v, v = p.v := ⟨_, rfl⟩
  have HPV := Lib.hid hpv
  rw [← hpv] at HW1 ⊢
  have HX := Lib.hid hx
  have HB := Lib.hid (And.intro hB hB0)
  obtain ⟨n, hnn⟩ : ∃ n, n = recs.length := ⟨_, rfl⟩
  have HNN := Lib.hid hnn
  rw [← hnn] at hlen
  clear h hcl hpv hx hnn hB hB0
  go_enter Tryd.func24, Tryd.ntmps24
  go_wp2_with fail
  refine HW1.out.mono ?_
  rintro e w1 ⟨lv, rv, p1, rfl, hm, hrow, hown, hok, hno⟩
  simp only at hm hrow hown hok hno
  have P1 : Hid (PO B w0 w1 p1 r S2 S uv kp) := Lib.hid (H0.out.mut HB.out.1 HB.out.2 hm)
  have hpb : p1.b = p.b := hm.2.1
  have hsz : w.heap.size ≤ w1.heap.size := hm.2.2.1.size
  have HPB := Lib.hid hpb
  have HSZ := Lib.hid hsz
  have HLV : Hid ((code = 0 ∧ ∃ b, lv = .pointer (some ⟨b, 0, none⟩) ∧ w.heap.size ≤ b ∧ Lk w1 b p1 S2 lg ∧ ∀ k, rv.ownBlock = some k → k ≠ b) ∨ (code ≠ 0 ∧ lv = .pointer none)) := Lib.hid (by
    by_cases hc : code = 0
    · exact .inl ⟨hc, hok hc⟩
    · exact .inr ⟨hc, hno hc⟩)
  rw [← HNN.out] at hrow
  have HROW := Lib.hid hrow
  have HOWN := Lib.hid hown
  clear hm hrow hown hok hno hpb hsz HW1
  go_wp2_with fail
  refine (ropen_any P1.out.k HC.out).mono ?_
  rw [HX.out]
  rintro e w2 ⟨lv2, rv2, rfl, hm, hrow2, hown2, hok2, hno2⟩
  simp only at hm hrow2 hown2 hok2 hno2
  have ho2 := hm.only
  obtain ⟨uv2, kp2, P2, hu2⟩ := P1.out.rm HB.out.1 HB.out.2 hm
  have hr0 : r < w.heap.size := H0.out.k.blk.lt
  have hs1 := HSZ.out
  have hs2 : w1.heap.size ≤ w2.heap.size := ho2.size
  have hu0 := H0.out.k.ult
  have hp1 := P1.out.d.dk.lt
  have hrl : ∀ g, rv.ownBlock = some g → g < w1.heap.size := fun g e => (HROW.out.lt g e).2
  have T2 : Hid (Told w w2 p1 r (code, (lg, snap, recs), S2) uv2 lv lv2) := Lib.hid (by
    rcases HLV.out with ⟨h0, b, rfl, hwb, hlk, hrb⟩ | ⟨h0, rfl⟩
    · obtain ⟨rb, rfl, hrw, hbk⟩ := hok2 h0
      have hbl : b < w1.heap.size := hlk.blk.lt
      exact .inl ⟨h0, b, rb, rfl, rfl, hlk.only ho2 (by simp; omega) (fun k hk hx => by simp at hx; subst hx; exact P1.out.nr hk), hbk, hwb, by omega, by omega, fun hx => by have := hp1 rb hx; omega,
        fun e => (hu2 b e).elim (fun e => by have := hu0 b e; omega) (fun h => by omega), P2.k.ne102 hbk⟩
    · exact .inr ⟨h0, rfl, hno2 h0⟩)
  have SEP : Hid (∀ g, rv.ownBlock = some g → B ≤ g ∧ g ∉ p1.own ∧ g ≠ r ∧ uv2.ownBlock ≠ some g ∧ (∀ b, lv = .pointer (some ⟨b, 0, none⟩) → b ≠ g) ∧ ∀ b, lv2 = .pointer (some ⟨b, 0, none⟩) → b ≠ g) := Lib.hid (fun g e => by
    obtain ⟨o1, o2⟩ := HOWN.out g e
    have hg1 := hrl g e
    refine ⟨by have := H0.out.d.bw.size; have := HB.out.1; omega, o2, by omega, fun e2 => (hu2 g e2).elim (fun e3 => by have := hu0 g e3; omega) (fun h => by omega), fun b eb => ?_, fun b eb => ?_⟩
    · rcases HLV.out with ⟨h0, b', e1, hwb, hlk, hrb⟩ | ⟨h0, e1⟩
      · rw [e1] at eb
        simp at eb
        subst eb
        exact fun e3 => hrb g e e3.symm
      · rw [e1] at eb; cases eb
    · rcases HLV.out with ⟨h0, b', e1, hwb, hlk, hrb⟩ | ⟨h0, e1⟩
      · obtain ⟨rb, e4, hrw, hbk⟩ := hok2 h0
        rw [e4] at eb
        simp at eb
        omega
      · rw [hno2 h0] at eb; cases eb)
  have hrow1 : w2.ownsRow 0 9 1 rv n (scells recs) := ownsS_of HROW.out (fun g e hg => ho2.block g hg (by have := HOWN.out g e; simp; omega))
  rw [← HNN.out] at hrow2
  obtain ⟨a, c, rfl, hc⟩ := srow_at HNN.out hrow1
  obtain ⟨a2, c2, rfl, -⟩ := srow_at HNN.out hrow2
  have P2H := Lib.hid P2
  have HRO := Lib.hid (And.intro hrow1 hrow2)
  have HAT := Lib.hid hc
  clear P2 hm ho2 hu2 hr0 hs1 hs2 hu0 hp1 hrl hrow1 hrow2 hc hok2 hno2 hown2 HLV HROW HOWN P1 HSZ
  generalize (⟨snap.toArray⟩ : ByteArray) = sn
  have hfin : ∀ w3 wr : World, Below w2.heap.size w2 w3 → Only (Value.slice a n c).ownBlock.toList w3 wr → PO B w0 wr p1 r S2 S2 uv2 kp2 ∧ Told w wr p1 r (code, (lg, snap, recs), S2) uv2 lv lv2 := fun w3 wr hb ho => by
    have hL : ∀ g ∈ (Value.slice a n c).ownBlock.toList, (Value.slice a n c).ownBlock = some g := fun g hg => by simpa using hg
    exact ⟨(P2H.out.down HB.out.1 hb).row HB.out.1 HB.out.2 ho (fun g hg => by have := SEP.out g (hL g hg); exact ⟨this.1, this.2.1, this.2.2.1, this.2.2.2.1⟩),
      (T2.out.below hb).row ho (fun g hg => by have := SEP.out g (hL g hg); exact ⟨this.2.1, this.2.2.2.2⟩)⟩
  have HFIN := Lib.hid hfin
  have HLV : (∃ b rb, lv = .pointer (some ⟨b, 0, none⟩) ∧ lv2 = .pointer (some ⟨rb, 0, none⟩)) ∨ (lv = .pointer none ∧ lv2 = .pointer none) := by
    rcases T2.out with ⟨_, b, rb, e1, e2, _⟩ | ⟨_, e1, e2⟩
    · exact .inl ⟨b, rb, e1, e2⟩
    · exact .inr ⟨e1, e2⟩
  clear hfin T2 SEP
  rcases HLV with ⟨b, rb, rfl, rfl⟩ | ⟨rfl, rfl⟩
  · go_wp2_with fail
    refine (sames_any _ _ recs w2 (by rw [← HNN.out]; exact HRO.out.1) (by rw [← HNN.out]; exact HRO.out.2) (by rw [← HNN.out]; omega)).mono ?_
    rintro e w3 ⟨rfl, hb3⟩
    have HB3 := Lib.hid hb3
    have hrow3 : w3.ownsRow 0 9 1 (.slice a n c) n (scells recs) := ownsS_of HRO.out.1 (fun g e hg => hb3.block g hg)
    have HR3 := Lib.hid hrow3
    clear hb3 hrow3
    go_wp2_with fail
    go_loopw [15] (fun iv wr => ∃ i : Nat, i ≤ n ∧ iv = .int .i64 (i : Int) ∧ Hid (Only (Value.slice a n c).ownBlock.toList w3 wr) ∧ Hid (∃ xs, wr.ownsRow 0 9 1 (.slice a n c) n xs)) (fun iv _ => n - (intOf iv).toNat)
    case atStart => exact ⟨0, Nat.zero_le _, rfl, Lib.hid (Only.refl _ _), Lib.hid ⟨_, HR3.out⟩⟩
    case round =>
      obtain ⟨i, hi, rfl, HO, HX3⟩ := hrel
      by_cases hlt : i < n
      · obtain ⟨g, rfl, _⟩ := HAT.out i (by rw [← HNN.out]; exact hlt)
        obtain ⟨xs, hxs⟩ := HX3.out
        have hxl : xs.length = n * 1 := hxs.1
        obtain ⟨u0, c0⟩ : ∃ u, wr.cell? ⟨g, i, none⟩ = some u := ⟨xs[i]'(by omega), by rw [hxs.cellAt i (by omega)]; simp⟩
        have f0 := hxs.frozenAt i
        have HXS := Lib.hid hxs
        clear hxs hxl
        go_wp2_with fail
        go_roundw
        case rel => exact ⟨i + 1, by omega, by go_num, Lib.hid (HO.out.setCell _ (.inl (by simp [Value.ownBlock])) _), Lib.hid ⟨_, (HXS.out.stored i _).1⟩⟩
        case measure => simp [intOf]; omega
      · have hin : i = n := by omega
        subst hin
        go_wp2_with fail
        go_returns
        exact ⟨_, _, p1, uv2, kp2, rfl, (HFIN.out w3 _ HB3.out HO.out).1, HPB.out, (HFIN.out w3 _ HB3.out HO.out).2⟩
  · go_wp2_with fail
    refine (sames_any _ _ recs w2 (by rw [← HNN.out]; exact HRO.out.1) (by rw [← HNN.out]; exact HRO.out.2) (by rw [← HNN.out]; omega)).mono ?_
    rintro e w3 ⟨rfl, hb3⟩
    have HB3 := Lib.hid hb3
    have hrow3 : w3.ownsRow 0 9 1 (.slice a n c) n (scells recs) := ownsS_of HRO.out.1 (fun g e hg => hb3.block g hg)
    have HR3 := Lib.hid hrow3
    clear hb3 hrow3
    go_wp2_with fail
    go_loopw [15] (fun iv wr => ∃ i : Nat, i ≤ n ∧ iv = .int .i64 (i : Int) ∧ Hid (Only (Value.slice a n c).ownBlock.toList w3 wr) ∧ Hid (∃ xs, wr.ownsRow 0 9 1 (.slice a n c) n xs)) (fun iv _ => n - (intOf iv).toNat)
    case atStart => exact ⟨0, Nat.zero_le _, rfl, Lib.hid (Only.refl _ _), Lib.hid ⟨_, HR3.out⟩⟩
    case round =>
      obtain ⟨i, hi, rfl, HO, HX3⟩ := hrel
      by_cases hlt : i < n
      · obtain ⟨g, rfl, _⟩ := HAT.out i (by rw [← HNN.out]; exact hlt)
        obtain ⟨xs, hxs⟩ := HX3.out
        have hxl : xs.length = n * 1 := hxs.1
        obtain ⟨u0, c0⟩ : ∃ u, wr.cell? ⟨g, i, none⟩ = some u := ⟨xs[i]'(by omega), by rw [hxs.cellAt i (by omega)]; simp⟩
        have f0 := hxs.frozenAt i
        have HXS := Lib.hid hxs
        clear hxs hxl
        go_wp2_with fail
        go_roundw
        case rel => exact ⟨i + 1, by omega, by go_num, Lib.hid (HO.out.setCell _ (.inl (by simp [Value.ownBlock])) _), Lib.hid ⟨_, (HXS.out.stored i _).1⟩⟩
        case measure => simp [intOf]; omega
      · have hin : i = n := by omega
        subst hin
        go_wp2_with fail
        go_returns
        exact ⟨_, _, p1, uv2, kp2, rfl, (HFIN.out w3 _ HB3.out HO.out).1, HPB.out, (HFIN.out w3 _ HB3.out HO.out).2⟩
end Go.Proofs.YtmoihgniglomiaaDoor
/- What WalOpens asks of both disks: armed, told, alive again. Condition: none. -/
set_option linter.unusedVariables false
set_option linter.unusedSimpArgs false
set_option maxRecDepth 100000
namespace Go.Proofs.YtmoihgniglomiaaDoor
open Go.RowKit Go.Sort

/-- armed, one after the other; the box of the call that arms -/
def PA (B : Nat) (w0 : World) (q : Nat) (cs : Array Value) (p : Fp) (r : Nat) (S : St) (n k : Int) (b1 b2 : Bool) (w : World) : Prop :=
  Bk 46 w q cs ∧ ∃ uv kp, PO B w0 w p r (if b1 then (S.arm n k).2 else S) (if b2 then (S.arm n k).2 else S) uv kp
theorem mut_head {w w' : World} {p : Fp} {S : St} (hd : Dk w' p S) (ho : Only [p.b] w w') : Mut w p w' p S :=
  ⟨hd, rfl, ho.mono (fun x hx => .inl (by simp at hx; subst hx; simp [Fp.own])), fun k hk => .inl hk⟩
theorem PA.first {B : Nat} {w0 : World} {q : Nat} {cs : Array Value} {p : Fp} {r : Nat} {S : St} {n k : Int} (hB : B ≤ w0.heap.size) (hB0 : 0 < B) (hq : q ∉ p.own) (hn : n ≤ 9223372036854775807) (hk : k ≤ 9223372036854775807) (w : World) (h : PA B w0 q cs p r S n k false false w) :
    Calls Tryd.prog 22 #[p.v, .int .i64 n, .int .i64 k] w fun e w1 => e = .returned (.int .i64 ((S.arm n k).1 : Int)) ∧ PA B w0 q cs p r S n k true false w1 := by
  obtain ⟨hb, uv, kp, h⟩ := h
  refine (arm_any p S n k hn hk w h.d.dk).mono ?_
  rintro e w1 ⟨rfl, hd, ho⟩
  exact ⟨rfl, hb.only ho (by simp [Fp.own] at hq; simpa using hq.1), uv, kp, h.mut hB hB0 (mut_head hd ho)⟩
theorem PA.second {B : Nat} {w0 : World} {q : Nat} {cs : Array Value} {p : Fp} {r : Nat} {S : St} {n k : Int} (hB : B ≤ w0.heap.size) (hB0 : 0 < B) (hq : q ≠ r) (hn : n ≤ 9223372036854775807) (hk : k ≤ 9223372036854775807) (w : World) (h : PA B w0 q cs p r S n k true false w) :
    Calls Tryd.prog 23 #[.pointer (some ⟨r, 0, none⟩), .int .i64 n, .int .i64 k] w fun e w1 => e = .returned (.int .i64 ((S.arm n k).1 : Int)) ∧ PA B w0 q cs p r S n k true true w1 := by
  obtain ⟨hb, uv, kp, h⟩ := h
  refine (arm36 r S uv kp n k hn hk w h.k).mono ?_
  rintro e w1 ⟨rfl, hm⟩
  obtain ⟨uv', kp', h', -⟩ := h.rm hB hB0 hm
  exact ⟨rfl, hb.only hm.only (by simpa using hq), uv', kp', h'⟩
/-- what was told of both disks -/
def PF (B : Nat) (w0 : World) (p : Fp) (r : Nat) (S : St) (uv : Value) (kp : Int) (b4 b6 b7 b12 : Bool) (y4 y6 : Value) (w : World) : Prop :=
  PO B w0 w p r S S uv kp ∧ (b4 = true → Two 0 w y4 S.f0 S.f1) ∧ (b6 = true → Two 0 w y6 S.f0 S.f1)
theorem PF.files {B : Nat} {w0 : World} {p : Fp} {r : Nat} {S : St} {uv : Value} {kp : Int} (hB : B ≤ w0.heap.size) (y4 y6 : Value) (w : World) (h : PF B w0 p r S uv kp false false false false y4 y6 w) :
    Calls Tryd.prog 26 #[p.v] w fun e w1 => ∃ v, e = .returned v ∧ PF B w0 p r S uv kp true false false false v y6 w1 := by
  refine (files_any p S w h.1.d.dk).mono ?_
  rintro e w1 ⟨⟨v, rfl, ht⟩, hb⟩
  exact ⟨v, rfl, h.1.down hB hb, fun _ => ht.mono (Nat.zero_le _), fun h => by cases h⟩
theorem PF.rfiles {B : Nat} {w0 : World} {p : Fp} {r : Nat} {S : St} {uv : Value} {kp : Int} (hB : B ≤ w0.heap.size) (y4 y6 : Value) (w : World) (h : PF B w0 p r S uv kp true false false false y4 y6 w) :
    Calls Tryd.prog 27 #[.pointer (some ⟨r, 0, none⟩)] w fun e w1 => ∃ v, e = .returned v ∧ PF B w0 p r S uv kp true true false false y4 v w1 := by
  refine (files40 r S uv kp w h.1.k).mono ?_
  rintro e w1 ⟨⟨v, rfl, ht⟩, hb⟩
  exact ⟨v, rfl, h.1.down hB hb, fun _ => (h.2.1 rfl).below hb, fun _ => ht.mono (Nat.zero_le _)⟩
theorem PF.same {B : Nat} {w0 : World} {p : Fp} {r : Nat} {S : St} {uv : Value} {kp : Int} (hB : B ≤ w0.heap.size) (y4 y6 : Value) (w : World) (h : PF B w0 p r S uv kp true true false false y4 y6 w) :
    Calls Tryd.prog 25 #[y4, y6] w fun e w1 => e = .returned (.bool true) ∧ PF B w0 p r S uv kp true true true false y4 y6 w1 := by
  refine (same_two w y4 y6 S.f0 S.f1 0 0 (h.2.1 rfl) (h.2.2 rfl)).mono ?_
  rintro e w1 ⟨rfl, hb⟩
  exact ⟨rfl, h.1.down hB hb, fun _ => (h.2.1 rfl).below hb, fun _ => (h.2.2 rfl).below hb⟩
theorem PF.dead {B : Nat} {w0 : World} {p : Fp} {r : Nat} {S : St} {uv : Value} {kp : Int} (y4 y6 : Value) (w : World) (h : PF B w0 p r S uv kp true true true false y4 y6 w) :
    Calls Tryd.prog 28 #[p.v] w fun e w1 => e = .returned (.bool S.gone) ∧ PF B w0 p r S uv kp true true true true y4 y6 w1 := by
  refine (dead_any p S w h.1.d.dk).mono ?_
  rintro e w1 ⟨rfl, rfl⟩
  exact ⟨rfl, h⟩
theorem PO.far {B : Nat} {w0 w w1 w' : World} {p : Fp} {r : Nat} {S T : St} {uv : Value} {kp : Int} (h : PO B w0 w p r S T uv kp) (hB : B ≤ w0.heap.size) (hb : Below w.heap.size w w1) {L : List Nat} (ho : Only L w1 w') (hL : ∀ g ∈ L, w.heap.size ≤ g) : PO B w0 w' p r S T uv kp :=
  h.down hB (hb.trans (ho.below hb.size hL))
theorem bk_far {w w1 w' : World} {t : TypeId} {q : Nat} {cs : Array Value} (h : Bk t w q cs) (hb : Below w.heap.size w w1) {L : List Nat} (ho : Only L w1 w') (hL : ∀ g ∈ L, w.heap.size ≤ g) : Bk t w' q cs :=
  h.below (hb.trans (ho.below hb.size hL))
theorem PO.start {w0 w1 w2 : World} {p : Fp} {S T : St} (hd : Dk w1 p S) (hb : Below w0.heap.size w0 w1) (hp : ∀ k ∈ p.own, w0.heap.size ≤ k) (hT : Tb w0) (hk : Rk w2 w1.heap.size T (.slice none 0 0) 0) (hb2 : Below w1.heap.size w1 w2) : PO w0.heap.size w0 w2 p w1.heap.size S T (.slice none 0 0) 0 :=
  ⟨(⟨hd, hb, hp, hT.below hb⟩ : DO w0.heap.size w0 w1 p S).down (Nat.le_refl _) hb2, hk, hb.size, fun g e => by simp [Value.ownBlock] at e, fun hx => by have := hd.lt _ hx; omega, fun g e => by simp [Value.ownBlock] at e⟩
end Go.Proofs.YtmoihgniglomiaaDoor
