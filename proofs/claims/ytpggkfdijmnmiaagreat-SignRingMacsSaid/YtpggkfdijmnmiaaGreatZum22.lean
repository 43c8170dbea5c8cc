/- Both rings with the same seeds, ahead of and behind a call. No condition but the texts' lengths. The copies of both rings, each with a key more, and the rings that they were made of, step by step. No condition but the texts' lengths. -/
import Derived.Test.YtpggkfdijmnmiaaGreatZum21
set_option linter.unusedVariables false
set_option linter.unusedSimpArgs false
set_option maxRecDepth 100000
namespace Go.Proofs.YtpggkfdijmnmiaaGreat
open Go.RowKit Limbs
structure Stt (B : Nat) (w0 w : World) (r x : Nat) (ks : List (Nat × List UInt8)) : Prop where
  rg : Rg B w r ks
  xg : Xg B w x (ks.map Prod.snd)
  bel : Below B w0 w
  base : B ≤ w0.heap.size
  hr : B ≤ r
  hx : B ≤ x
  len : ks.length ≤ 8
  ne : ks ≠ []
  sl : ∀ s ∈ ks.map Prod.snd, s.length ≤ 140737488351232
theorem Stt.below {B : Nat} {w0 w w' : World} {r x : Nat} {ks : List (Nat × List UInt8)} (h : Stt B w0 w r x ks) (hb : Below w.heap.size w w') : Stt B w0 w' r x ks :=
  ⟨h.rg.below hb, h.xg.below hb, h.bel.trans (hb.mono (Nat.le_trans h.base h.bel.size)), h.base, h.hr, h.hx, h.len, h.ne, h.sl⟩
theorem Stt.pos {B : Nat} {w0 w : World} {r x : Nat} {ks : List (Nat × List UInt8)} (h : Stt B w0 w r x ks) : 0 < ks.length := List.length_pos_iff.2 h.ne
theorem Stt.sl2 {B : Nat} {w0 w : World} {r x : Nat} {ks : List (Nat × List UInt8)} (h : Stt B w0 w r x ks) : ∀ k ∈ ks, k.2.length ≤ 281474976710656 := fun k hk => by
  have := h.sl k.2 (List.mem_map.2 ⟨k, hk, rfl⟩)
  omega
theorem same_kids {A B : Nat} {w : World} {v u : Value} {ks : List (Nat × List UInt8)} (hv : w.ownsRow A 9 1 v ks.length (ks.map kidV)) (hu : w.ownsRow B 9 1 u ks.length ((ks.map Prod.snd).map kidT)) (hl : ks.length ≤ 8) : Calls Tryz.prog 30 #[v, u] w fun e w' => e = .returned (.bool true) ∧ Below w.heap.size w w' := by
  have e1 : ks.map kidV = (ks.map fun k => kidOf k.2).map txt := by rw [List.map_map]; rfl
  have e2 : (ks.map Prod.snd).map kidT = (ks.map fun k => kidOf k.2).map txt := by rw [List.map_map, List.map_map]; rfl
  have el : ks.length = (ks.map fun k => kidOf k.2).length := by simp
  rw [e1, el] at hv
  rw [e2, el] at hu
  have h := sameTexts_any hv hu (by simp; omega) (by simp; omega)
  rwa [decide_eq_true rfl] at h
theorem same_seeds {A B : Nat} {w : World} {v u : Value} {ks : List (Nat × List UInt8)} (hv : w.ownsRow A 9 1 v ks.length (ks.map sdV)) (hu : w.ownsRow B 9 1 u ks.length ((ks.map Prod.snd).map txt)) (hl : ks.length ≤ 8) : Calls Tryz.prog 30 #[v, u] w fun e w' => e = .returned (.bool true) ∧ Below w.heap.size w w' := by
  have e1 : ks.map sdV = (ks.map Prod.snd).map txt := by rw [List.map_map]; rfl
  have el : ks.length = (ks.map Prod.snd).length := by simp
  rw [e1, el] at hv
  rw [el] at hu
  have h := sameTexts_any hv hu (by simp; omega) (by simp; omega)
  rwa [decide_eq_true rfl] at h
theorem ba_list (b : ByteArray) : ∃ l : List UInt8, b = ⟨l.toArray⟩ := ⟨b.data.toList, by obtain ⟨⟨l⟩⟩ := b; rfl⟩
theorem Stt.cons {B : Nat} {w0 w : World} {r x : Nat} {ks ls : List (Nat × List UInt8)} {s : List UInt8} (h : Stt B w0 w r x ks) {w' : World} (hs : s.length ≤ 140737488351232) (he : ls.map Prod.snd = turnS (ks.map Prod.snd) s) (hr : Rg B w' r ls) (hx : Xg B w' x (turnS (ks.map Prod.snd) s)) (hb : Below B w0 w') : Stt B w0 w' r x ls := by
  have hl : ls.length ≤ 8 := by
    have h1 : (ls.map Prod.snd).length ≤ 8 := he ▸ turnS_len (by simpa using h.len)
    simpa using h1
  have hn : ls ≠ [] := by
    intro e
    subst e
    have h1 : turnS (ks.map Prod.snd) s = [] := he.symm
    have hp := h.ne
    unfold turnS at h1
    split at h1
    · simp at h1; exact hp h1
    · split at h1
      · simp at h1; exact hp h1
      · simp at h1
  exact ⟨hr, by rw [he]; exact hx, hb, h.base, h.hr, h.hx, hl, hn, by rw [he]; exact turnS_all h.sl hs⟩
def PT (B v : Nat) (cs : Array Value) (w0 : World) (r x : Nat) (ks : List (Nat × List UInt8)) (s : List UInt8) (b3 b7 : Bool) (w : World) : Prop :=
  Bk 48 w v cs ∧ Below B w0 w ∧ cond b3 (∃ ls, ls.map Prod.snd = turnS (ks.map Prod.snd) s ∧ Rg B w r ls) (Rg B w r ks) ∧ Xg B w x (cond b7 (turnS (ks.map Prod.snd) s) (ks.map Prod.snd))
theorem PT.one {B v : Nat} {cs : Array Value} {w0 wz : World} {r x : Nat} {ks : List (Nat × List UInt8)} {s : List UInt8} (S : Stt B w0 wz r x ks) (hs : s.length ≤ 140737488351232) (w : World) (h : PT B v cs w0 r x ks s false false w) : Calls Tryz.prog 22 #[kpt r, .string ⟨s.toArray⟩] w fun e w' => e = .returned (.int .i64 (turnC (ks.map Prod.snd) s)) ∧ PT B v cs w0 r x ks s true false w' := by
  obtain ⟨hv, hb, hr, hx⟩ := h
  obtain ⟨a, ha⟩ := Rg.named hr
  refine (turn_post ha (Nat.le_trans S.base hb.size) S.hr S.len s hs).mono ?_
  rintro e w' ⟨he, hk, hb', hL⟩
  exact ⟨he, ha.leaves hL hv (by decide) (by decide), hb.trans hb', hk, Xg.by_rg hx ha hL⟩
theorem PT.two {B v : Nat} {cs : Array Value} {w0 wz : World} {r x : Nat} {ks : List (Nat × List UInt8)} {s : List UInt8} (S : Stt B w0 wz r x ks) (hs : s.length ≤ 140737488351232) (w : World) (h : PT B v cs w0 r x ks s true false w) : Calls Tryz.prog 23 #[kpt x, .string ⟨s.toArray⟩] w fun e w' => e = .returned (.int .i64 (turnC (ks.map Prod.snd) s)) ∧ PT B v cs w0 r x ks s true true w' := by
  obtain ⟨hv, hb, ⟨ls, hl, hr⟩, hx⟩ := h
  obtain ⟨a, ha⟩ := Xg.named hx
  refine (rturn_post ha (Nat.le_trans S.base hb.size) S.hx (by simpa using S.len) S.sl s hs).mono ?_
  rintro e w' ⟨he, hk, hb', hL⟩
  exact ⟨he, ha.leaves hL hv (by decide) (by decide), hb.trans hb', ⟨ls, hl, hr.by_xg ha hL⟩, hk⟩
theorem last_of {α : Type} {l : List α} (h : l ≠ []) : ∃ l1 k, l = l1 ++ [k] := ⟨l.dropLast, l.getLast h, (List.dropLast_concat_getLast h).symm⟩
theorem Stt.mac {B : Nat} {w0 w : World} {r x : Nat} {ks : List (Nat × List UInt8)} (h : Stt B w0 w r x ks) (s : List UInt8) (hs : s.length ≤ 140737488351232) : ∃ k m : List UInt8, (∀ w', Stt B w0 w' r x ks → Calls Tryz.prog 24 #[.pointer (some ⟨r, 0, none⟩), .string ⟨s.toArray⟩] w' fun e w2 => e = .returned (.tuple #[.string ⟨k.toArray⟩, .string ⟨m.toArray⟩]) ∧ Below w'.heap.size w' w2) ∧ (∀ w', Stt B w0 w' r x ks → Calls Tryz.prog 25 #[.pointer (some ⟨x, 0, none⟩), .string ⟨s.toArray⟩] w' fun e w2 => e = .returned (.tuple #[.string ⟨k.toArray⟩, .string ⟨m.toArray⟩]) ∧ Below w'.heap.size w' w2) := by
  obtain ⟨l1, k, hk⟩ := last_of h.ne
  have hkl : k.2.length ≤ 140737488351232 := h.sl k.2 (List.mem_map.2 ⟨k, by rw [hk]; simp, rfl⟩)
  have hl := h.len
  rw [hk] at hl
  simp at hl
  refine ⟨kidOf k.2, Hs.macL (macOf k.2) s, fun w' h' => rmac_any (ks := l1) (k := k) (hk ▸ h'.rg) (by omega) hkl s hs, fun w' h' => ?_⟩
  have hx := h'.xg
  rw [hk, List.map_append] at hx
  exact rrmac_any (ss := l1.map Prod.snd) (s := k.2) hx (by simp; omega) hkl s hs
theorem row_bk {B n c a : Nat} {w : World} {l : List Value} (h : w.ownsRow B 9 1 (.slice (some ⟨a, 0, none⟩) n c) n l) : ∃ cur, Bk 9 w a cur ∧ n ≤ cur.size ∧ B ≤ a := by
  rcases h.2 with ⟨hx, _⟩ | ⟨g, cap, cur, hx, hg, hh, h1, _, h2, _⟩
  · cases hx
  · cases hx
    exact ⟨cur, hh, by omega, hg⟩
end Go.Proofs.YtpggkfdijmnmiaaGreat
namespace Go.Proofs.YtpggkfdijmnmiaaGreat
open Go.RowKit Limbs
theorem RgA.lt {a B : Nat} {w : World} {r : Nat} {ks : List (Nat × List UInt8)} (h : RgA a B w r ks) : r < w.heap.size ∧ a < w.heap.size := by
  obtain ⟨c, h1, h2, _⟩ := h
  obtain ⟨_, cur, h3⟩ := row_block h2
  exact ⟨(Array.getElem?_eq_some_iff.1 h1).1, (Array.getElem?_eq_some_iff.1 h3).1⟩
theorem XgA.lt {a B : Nat} {w : World} {x : Nat} {ss : List (List UInt8)} (h : XgA a B w x ss) : x < w.heap.size ∧ a < w.heap.size := by
  obtain ⟨c, h1, h2⟩ := h
  obtain ⟨_, cur, h3⟩ := row_block h2
  exact ⟨(Array.getElem?_eq_some_iff.1 h1).1, (Array.getElem?_eq_some_iff.1 h3).1⟩
theorem RgA.below {a B : Nat} {w w' : World} {r : Nat} {ks : List (Nat × List UInt8)} (h : RgA a B w r ks) (hb : Below w.heap.size w w') : RgA a B w' r ks := by
  obtain ⟨c, h1, h2, h3⟩ := h
  exact ⟨c, h1.below hb, own_below h2 hb, fun k hk => (h3 k hk).below hb⟩
theorem XgA.below {a B : Nat} {w w' : World} {x : Nat} {ss : List (List UInt8)} (h : XgA a B w x ss) (hb : Below w.heap.size w w') : XgA a B w' x ss := by
  obtain ⟨c, h1, h2⟩ := h
  exact ⟨c, h1.below hb, own_below h2 hb⟩
theorem XgA.by_rg {a b B B' : Nat} {w w' : World} {r x : Nat} {ks : List (Nat × List UInt8)} {ss : List (List UInt8)} (h : XgA b B' w x ss) (hr : RgA a B w r ks) (hL : Left r a w w') : XgA b B' w' x ss := by
  obtain ⟨d, h1, h2⟩ := h
  obtain ⟨_, cur, h3⟩ := row_block h2
  exact ⟨d, hr.leaves hL h1 (by decide) (by decide), row_kept h2 ((hr.leaves hL h3 (by decide) (by decide)).trans h3.symm)⟩
theorem turnS_ne {ss : List (List UInt8)} {s : List UInt8} (h : ss ≠ []) : turnS ss s ≠ [] := by
  unfold turnS
  split
  · exact h
  · split
    · exact h
    · simp
theorem same_kidT {A B : Nat} {w : World} {v u : Value} {tt : List (List UInt8)} (hv : w.ownsRow A 9 1 v tt.length (tt.map kidT)) (hu : w.ownsRow B 9 1 u tt.length (tt.map kidT)) (hl : tt.length ≤ 8) : Calls Tryz.prog 30 #[v, u] w fun e w' => e = .returned (.bool true) ∧ Below w.heap.size w w' := by
  have e2 : tt.map kidT = (tt.map kidOf).map txt := by rw [List.map_map]; rfl
  have el : tt.length = (tt.map kidOf).length := by simp
  rw [e2, el] at hv hu
  have h := sameTexts_any hv hu (by simp; omega) (by simp; omega)
  rwa [decide_eq_true rfl] at h
section
variable (B : Nat) (w0 wN : World) (r x v q y : Nat) (cs : Array Value) (ks : List (Nat × List UInt8)) (s n : List UInt8)
def C0 (w : World) : Prop := Below wN.heap.size wN w ∧ Rg wN.heap.size w q ks ∧ Xg wN.heap.size w y (ks.map Prod.snd)
def C1 (w : World) : Prop := Below wN.heap.size wN w ∧ (∃ ls, ls.map Prod.snd = turnS (ks.map Prod.snd) s ∧ Rg wN.heap.size w q ls) ∧ Xg wN.heap.size w y (ks.map Prod.snd)
def C2 (w : World) : Prop := Below wN.heap.size wN w ∧ (∃ ls, ls.map Prod.snd = turnS (ks.map Prod.snd) s ∧ Rg wN.heap.size w q ls) ∧ Xg wN.heap.size w y (turnS (ks.map Prod.snd) s)
def C3 (w : World) : Prop := (B ≤ w.heap.size ∧ Below B w0 w) ∧ (∃ ls, ls.map Prod.snd = turnS (ks.map Prod.snd) n ∧ Rg B w r ls) ∧ (∃ a, x < wN.heap.size ∧ a < wN.heap.size ∧ XgA a B w x (ks.map Prod.snd)) ∧ (∃ ls, ls.map Prod.snd = turnS (ks.map Prod.snd) s ∧ Rg wN.heap.size w q ls) ∧ Xg wN.heap.size w y (turnS (ks.map Prod.snd) s)
def C4 (w : World) : Prop := Below B w0 w ∧ (∃ ls, ls.map Prod.snd = turnS (ks.map Prod.snd) n ∧ Rg B w r ls) ∧ Xg B w x (turnS (ks.map Prod.snd) n) ∧ (∃ ls, ls.map Prod.snd = turnS (ks.map Prod.snd) s ∧ Rg wN.heap.size w q ls) ∧ Xg wN.heap.size w y (turnS (ks.map Prod.snd) s)
def CK (u : Value) (w : World) : Prop := ∃ A, w.ownsRow A 9 1 u (turnS (ks.map Prod.snd) s).length ((turnS (ks.map Prod.snd) s).map kidT)
def PK (b6 b10 b17 b21 b26 b28 b29 : Bool) (y26 y28 : Value) (w : World) : Prop :=
  Bk 48 w v cs ∧ cond b6 (cond b10 (cond b17 (cond b21 (cond b26 (cond b28 (C4 B w0 wN r x q y ks s n w ∧ CK ks s y26 w ∧ CK ks s y28 w) (C4 B w0 wN r x q y ks s n w ∧ CK ks s y26 w)) (C4 B w0 wN r x q y ks s n w)) (C3 B w0 wN r x q y ks s n w)) (C2 wN q y ks s w)) (C1 wN q y ks s w)) (C0 wN q y ks w)
end
section
variable {B : Nat} {w0 wN : World} {r x v q y : Nat} {cs : Array Value} {ks : List (Nat × List UInt8)} {s n : List UInt8}
theorem PK.c6 (S : Stt B w0 wN r x ks) (hq : wN.heap.size ≤ q) (hs : s.length ≤ 140737488351232) (y26 y28 : Value) (w : World) (h : PK B w0 wN r x v q y cs ks s n false false false false false false false y26 y28 w) : Calls Tryz.prog 22 #[.pointer (some ⟨q, 0, none⟩), .string ⟨s.toArray⟩] w fun e w' => e = .returned (.int .i64 (turnC (ks.map Prod.snd) s)) ∧ PK B w0 wN r x v q y cs ks s n true false false false false false false y26 y28 w' := by
  obtain ⟨hv, hb, hr, hx⟩ := h
  obtain ⟨a, ha⟩ := Rg.named hr
  refine (turn_post ha hb.size hq S.len s hs).mono ?_
  rintro e w' ⟨he, hk, hb', hL⟩
  exact ⟨he, ha.leaves hL hv (by decide) (by decide), hb.trans hb', hk, Xg.by_rg hx ha hL⟩
theorem PK.c10 (S : Stt B w0 wN r x ks) (hy : wN.heap.size ≤ y) (hs : s.length ≤ 140737488351232) (y26 y28 : Value) (w : World) (h : PK B w0 wN r x v q y cs ks s n true false false false false false false y26 y28 w) : Calls Tryz.prog 23 #[.pointer (some ⟨y, 0, none⟩), .string ⟨s.toArray⟩] w fun e w' => e = .returned (.int .i64 (turnC (ks.map Prod.snd) s)) ∧ PK B w0 wN r x v q y cs ks s n true true false false false false false y26 y28 w' := by
  obtain ⟨hv, hb, ⟨ls, hl, hr⟩, hx⟩ := h
  obtain ⟨a, ha⟩ := Xg.named hx
  refine (rturn_post ha hb.size hy (by simpa using S.len) S.sl s hs).mono ?_
  rintro e w' ⟨he, hk, hb', hL⟩
  exact ⟨he, ha.leaves hL hv (by decide) (by decide), hb.trans hb', ⟨ls, hl, hr.by_xg ha hL⟩, hk⟩
theorem PK.c17 (S : Stt B w0 wN r x ks) (hq : wN.heap.size ≤ q) (hn : n.length ≤ 140737488351232) (y26 y28 : Value) (w : World) (h : PK B w0 wN r x v q y cs ks s n true true false false false false false y26 y28 w) : Calls Tryz.prog 22 #[.pointer (some ⟨r, 0, none⟩), .string ⟨n.toArray⟩] w fun e w' => e = .returned (.int .i64 (turnC (ks.map Prod.snd) n)) ∧ PK B w0 wN r x v q y cs ks s n true true true false false false false y26 y28 w' := by
  obtain ⟨hv, hb, ⟨ls, hl, hr⟩, hy⟩ := h
  obtain ⟨a, ha⟩ := Rg.named S.rg
  obtain ⟨b, hb0⟩ := Xg.named S.xg
  obtain ⟨l1, l2⟩ := ha.lt
  obtain ⟨l3, l4⟩ := hb0.lt
  have ha' := ha.below hb
  have hN : B ≤ wN.heap.size := Nat.le_trans S.base S.bel.size
  have hB : B ≤ w.heap.size := Nat.le_trans hN hb.size
  refine (turn_post ha' hB S.hr S.len n hn).mono ?_
  rintro e w' ⟨he, hk, hb', hL⟩
  exact ⟨he, ha'.leaves hL hv (by decide) (by decide), ⟨Nat.le_trans hB hb'.size, (S.bel.trans (hb.mono hN)).trans hb'⟩, hk, ⟨b, l3, l4, (hb0.below hb).by_rg ha' hL⟩, ⟨ls, hl, hr.by_rg hq ha' l1 l2 hL⟩, Xg.by_rg hy ha' hL⟩
theorem PK.c21 (S : Stt B w0 wN r x ks) (hy : wN.heap.size ≤ y) (hn : n.length ≤ 140737488351232) (y26 y28 : Value) (w : World) (h : PK B w0 wN r x v q y cs ks s n true true true false false false false y26 y28 w) : Calls Tryz.prog 23 #[.pointer (some ⟨x, 0, none⟩), .string ⟨n.toArray⟩] w fun e w' => e = .returned (.int .i64 (turnC (ks.map Prod.snd) n)) ∧ PK B w0 wN r x v q y cs ks s n true true true true false false false y26 y28 w' := by
  obtain ⟨hv, ⟨hB, hb⟩, ⟨ls, hl, hr⟩, ⟨a, l3, l4, hx⟩, ⟨lq, hlq, hrq⟩, hxy⟩ := h
  refine (rturn_post hx hB S.hx (by simpa using S.len) S.sl n hn).mono ?_
  rintro e w' ⟨he, hk, hb', hL⟩
  exact ⟨he, hx.leaves hL hv (by decide) (by decide), hb.trans hb', ⟨ls, hl, hr.by_xg hx hL⟩, hk, ⟨lq, hlq, hrq.by_xg hx hL⟩, Xg.by_xg hxy hy hx l3 l4 hL⟩
theorem C4.below {w w' : World} (h : C4 B w0 wN r x q y ks s n w) (hB : B ≤ w.heap.size) (hb : Below w.heap.size w w') : C4 B w0 wN r x q y ks s n w' := by
  obtain ⟨h1, ⟨ls, hl, hr⟩, h3, ⟨lq, hlq, hrq⟩, h5⟩ := h
  exact ⟨h1.trans (hb.mono hB), ⟨ls, hl, hr.below hb⟩, h3.below hb, ⟨lq, hlq, hrq.below hb⟩, h5.below hb⟩
theorem CK.below {u : Value} {w w' : World} (h : CK ks s u w) (hb : Below w.heap.size w w') : CK ks s u w' := by
  obtain ⟨A, h1⟩ := h
  exact ⟨A, own_below h1 hb⟩
theorem C4.size {w : World} (h : C4 B w0 wN r x q y ks s n w) (hB : B ≤ w0.heap.size) : B ≤ w.heap.size := Nat.le_trans hB h.1.size
theorem PK.c26 (S : Stt B w0 wN r x ks) (hB : B ≤ w0.heap.size) (y26 y28 : Value) (w : World) (h : PK B w0 wN r x v q y cs ks s n true true true true false false false y26 y28 w) : Calls Tryz.prog 31 #[.pointer (some ⟨q, 0, none⟩)] w fun e w' => ∃ u, e = .returned u ∧ PK B w0 wN r x v q y cs ks s n true true true true true false false u y28 w' := by
  obtain ⟨hv, hc⟩ := h
  obtain ⟨ls, hl, hr⟩ := hc.2.2.2.1
  have hle : ls.length = (turnS (ks.map Prod.snd) s).length := by rw [← hl]; simp
  have h8 := turnS_len (s := s) (show (ks.map Prod.snd).length ≤ 8 by simpa using S.len)
  have hne : ls ≠ [] := by
    intro e0
    subst e0
    exact turnS_ne (s := s) (show ks.map Prod.snd ≠ [] by simpa using S.ne) hl.symm
  refine (kids_any hr (by omega) hne).mono ?_
  rintro e w' ⟨u, he, ho, hb⟩
  have e1 : ls.map kidV = (turnS (ks.map Prod.snd) s).map kidT := by rw [← hl, List.map_map]; rfl
  rw [e1, hle] at ho
  exact ⟨u, he, hv.below hb, hc.below (hc.size hB) hb, _, ho⟩
theorem PK.c28 (S : Stt B w0 wN r x ks) (hB : B ≤ w0.heap.size) (hs : s.length ≤ 140737488351232) (y26 y28 : Value) (w : World) (h : PK B w0 wN r x v q y cs ks s n true true true true true false false y26 y28 w) : Calls Tryz.prog 32 #[.pointer (some ⟨y, 0, none⟩)] w fun e w' => ∃ u, e = .returned u ∧ PK B w0 wN r x v q y cs ks s n true true true true true true false y26 u w' := by
  obtain ⟨hv, hc, hk⟩ := h
  have h8 := turnS_len (s := s) (show (ks.map Prod.snd).length ≤ 8 by simpa using S.len)
  refine (rkids_any hc.2.2.2.2 h8 (turnS_all S.sl hs)).mono ?_
  rintro e w' ⟨u, he, ho, hb⟩
  exact ⟨u, he, hv.below hb, hc.below (hc.size hB) hb, hk.below hb, _, ho⟩
theorem PK.c29 (S : Stt B w0 wN r x ks) (hB : B ≤ w0.heap.size) (y26 y28 : Value) (w : World) (h : PK B w0 wN r x v q y cs ks s n true true true true true true false y26 y28 w) : Calls Tryz.prog 30 #[y26, y28] w fun e w' => e = .returned (.bool true) ∧ PK B w0 wN r x v q y cs ks s n true true true true true true true y26 y28 w' := by
  obtain ⟨hv, hc, ⟨A, hk⟩, ⟨A2, hk2⟩⟩ := h
  have h8 := turnS_len (s := s) (show (ks.map Prod.snd).length ≤ 8 by simpa using S.len)
  refine (same_kidT hk hk2 h8).mono ?_
  rintro e w' ⟨he, hb⟩
  exact ⟨he, hv.below hb, hc.below (hc.size hB) hb, ⟨A, own_below hk hb⟩, ⟨A2, own_below hk2 hb⟩⟩
theorem PK.end (S : Stt B w0 wN r x ks) (hn : n.length ≤ 140737488351232) (y26 y28 : Value) (w : World) (h : PK B w0 wN r x v q y cs ks s n true true true true true true true y26 y28 w) : ∃ ls, Stt B w0 w r x ls := by
  obtain ⟨hv, ⟨h1, ⟨ls, hl, hr⟩, h3, _⟩, _⟩ := h
  exact ⟨ls, S.cons hn hl hr h3 h1⟩
theorem PK.cell (j : Nat) (u : Value) (hj : cs[j]? = some u) (b6 b10 b17 b21 b26 b28 b29 : Bool) (y26 y28 : Value) (w : World) (h : PK B w0 wN r x v q y cs ks s n b6 b10 b17 b21 b26 b28 b29 y26 y28 w) : w.cell? ⟨v, j, none⟩ = some u := (h.1.cell j).trans hj
end
end Go.Proofs.YtpggkfdijmnmiaaGreat
