/- Turn of the document's ring; which blocks both Turns leave. Condition: the rings. What Seeds answers. Condition: the ring. What a Turn of one ring leaves of another, and of a block that is no ring's. No condition. Points, and points under way, as values: how they are compared, and the blocks that hold them. No condition. The shorthands of package curve: a product, a sum, a difference modulo P, thr -/
import Derived.Test.YtpggkfdijmnmiaaGreatZum13
import Derived.Deep.MidRow
import Derived.Test.YtpggkfdijmnmiaaGreatZum03
import Derived.Test.YtpggkfdijmnmiaaGreatZum05
set_option linter.unusedVariables false
set_option linter.unusedSimpArgs false
set_option maxRecDepth 100000
namespace Go.Proofs.YtpggkfdijmnmiaaGreat
open Go.RowKit Limbs
theorem xring_keep {B : Nat} {w w2 : World} {r a n c : Nat} {b : ByteArray} {l : List Value} {v : Value} (h1 : Bk 46 w r #[v]) (h2 : w.ownsRow B 9 1 (.slice (some ⟨a, 0, none⟩) n c) n l) (hG : (w.alloc (.cells #[.string b] 9)).grownBy w2 (some a)) : Bk 46 w2 r #[v] := by
  have ha : ∃ cur, Bk 9 w a cur := by
    rcases h2.2 with ⟨hx, _⟩ | ⟨g', cap, cur, hx, _, hh, _⟩
    · cases hx
    · cases hx
      exact ⟨cur, hh⟩
  obtain ⟨cur, ha⟩ := ha
  have hne := bk_ne h1 ha (by decide)
  have h' : Bk 46 (w.alloc (.cells #[.string b] 9)) r #[v] := Bk.alloc h1
  exact (hG.block r (by have := (Array.getElem?_eq_some_iff.1 h1).1; simp; omega) (fun e => hne (by injection e))).trans h'
theorem Xg.push {B : Nat} {w w2 : World} {x a c : Nat} {ss : List (List UInt8)} {s : List UInt8} {v' : Value} (h1 : Bk 46 w x #[.slice (some ⟨a, 0, none⟩) ss.length c]) (h2 : w.ownsRow B 9 1 (.slice (some ⟨a, 0, none⟩) ss.length c) ss.length (ss.map txt))
    (hv : w2.ownsRow B 9 1 v' (ss.length + 1) ((ss.map txt) ++ [txt s])) (hG : (w.alloc (.cells #[txt s] 9)).grownBy w2 (some a)) : Xg B (w2.setCell ⟨x, 0, none⟩ v') x (ss ++ [s]) := by
  have ha : ∃ cur, Bk 9 w a cur := by
    rcases h2.2 with ⟨hx, _⟩ | ⟨g', cap, cur, hx, _, hh, _⟩
    · cases hx
    · cases hx
      exact ⟨cur, hh⟩
  obtain ⟨cur, ha⟩ := ha
  have hlt : x < (w.alloc (.cells #[txt s] 9)).heap.size := by
    have := (Array.getElem?_eq_some_iff.1 h1).1
    simp; omega
  have hR : Bk 46 w2 x #[.slice (some ⟨a, 0, none⟩) ss.length c] := by
    have h' : Bk 46 (w.alloc (.cells #[txt s] 9)) x #[.slice (some ⟨a, 0, none⟩) ss.length c] := Bk.alloc h1
    exact (hG.block x hlt (fun e => bk_ne h1 ha (by decide) (by injection e))).trans h'
  obtain ⟨a', c', rfl⟩ := own_slice hv
  have ha' : ∃ cur', Bk 9 w2 a' cur' := by
    rcases hv.2 with ⟨hx, _⟩ | ⟨g', cap, cur', hx, _, hh, _⟩
    · cases hx
    · cases hx
      exact ⟨cur', hh⟩
  obtain ⟨cur', ha'⟩ := ha'
  have hne : x ≠ a' := bk_ne hR ha' (by decide)
  refine ⟨a', c', ?_, ?_⟩
  · rw [List.length_append]
    have := Bk.same (i := 0) (v := .slice (some ⟨a', 0, none⟩) (ss.length + 1) c') hR
    simpa using this
  · rw [List.length_append, List.map_append]
    refine ⟨hv.1, ?_⟩
    rcases hv.2 with ⟨hx, _⟩ | ⟨g', cap, cur2, hx, hb, hh, rest⟩
    · cases hx
    · cases hx
      exact .inr ⟨_, _, cur2, rfl, hb, (heap_setCell_other w2 _ a' _ (by simpa using Ne.symm hne)).trans hh, rest⟩
set_option maxHeartbeats 8000000 in
theorem rturn_there {B : Nat} {w : World} {x : Nat} {ss : List (List UInt8)} (h : Xg B w x ss) (hl : ss.length ≤ 8) (hs : ∀ s ∈ ss, s.length ≤ 140737488351232) (s : List UInt8) (hn : s.length ≤ 140737488351232) (hf : 0 ≤ findS ss (kidOf s) 0) : Calls Tryz.prog 23 #[kpt x, .string ⟨s.toArray⟩] w fun e w' => e = .returned (.int .i64 80) ∧ Below w.heap.size w w' := by
  have HK := Lib.hid (fun w => rkid_any s hn w)
  have HF := Lib.hid (fun w (h : Xg B w x ss) => rfind_any h (by omega) hs (kidOf s))
  have H := Lib.hid h
  have hge : decide ((0 : Int) ≤ findS ss (kidOf s) 0) = true := decide_eq_true hf
  clear h hs hn hf
  generalize findS ss (kidOf s) 0 = z at *
  unfold kpt at *
  go_enter Tryz.func23, Tryz.ntmps23
  go_wp2_with fail
  refine (HK.out _).mono ?_
  rintro e w1 ⟨rfl, hb1⟩
  go_wp2_with fail
  refine (HF.out _ (H.out.below hb1)).mono ?_
  rintro e w2 ⟨rfl, hb2⟩
  go_wp2_with fail
  go_returns
  exact ⟨rfl, bthen hb1 hb2⟩
set_option maxHeartbeats 8000000 in
theorem rturn_full {B : Nat} {w : World} {x : Nat} {ss : List (List UInt8)} (h : Xg B w x ss) (hl : ss.length = 8) (hs : ∀ s ∈ ss, s.length ≤ 140737488351232) (s : List UInt8) (hn : s.length ≤ 140737488351232) (hf : findS ss (kidOf s) 0 = -1) : Calls Tryz.prog 23 #[kpt x, .string ⟨s.toArray⟩] w fun e w' => e = .returned (.int .i64 82) ∧ Below w.heap.size w w' := by
  have HK := Lib.hid (fun w => rkid_any s hn w)
  have HF := Lib.hid (fun w (h : Xg B w x ss) => rfind_any h (by omega) hs (kidOf s))
  have H := Lib.hid h
  rw [hf] at HF
  clear h hs hn hf
  unfold kpt at *
  go_enter Tryz.func23, Tryz.ntmps23
  go_wp2_with fail
  refine (HK.out _).mono ?_
  rintro e w1 ⟨rfl, hb1⟩
  go_wp2_with fail
  refine (HF.out _ (H.out.below hb1)).mono ?_
  rintro e w2 ⟨rfl, hb2⟩
  obtain ⟨a, c, k1, k2⟩ := H.out.below (bthen hb1 hb2)
  rw [hl] at k1
  have hc : w2.cell? ⟨x, 0, none⟩ = some (.slice (some ⟨a, 0, none⟩) 8 c) := k1.cell 0
  clear k1 k2
  go_wp2_with fail
  go_returns
  exact ⟨rfl, bthen hb1 hb2⟩
def Left (r a : Nat) (w w' : World) : Prop := w.heap.size ≤ w'.heap.size ∧ ∀ q, q < w.heap.size → q ≠ r → q ≠ a → w'.heap[q]? = w.heap[q]?
set_option maxHeartbeats 8000000 in
theorem rturn_new {B : Nat} {w : World} {x a : Nat} {ss : List (List UInt8)} (h : ∃ c, Bk 46 w x #[.slice (some ⟨a, 0, none⟩) ss.length c] ∧ w.ownsRow B 9 1 (.slice (some ⟨a, 0, none⟩) ss.length c) ss.length (ss.map txt)) (hB : B ≤ w.heap.size) (hx : B ≤ x) (hl : ss.length < 8) (hs : ∀ s ∈ ss, s.length ≤ 140737488351232) (s : List UInt8) (hn : s.length ≤ 140737488351232) (hf : findS ss (kidOf s) 0 = -1) : Calls Tryz.prog 23 #[kpt x, .string ⟨s.toArray⟩] w fun e w' => e = .returned (.int .i64 0) ∧ Xg B w' x (ss ++ [s]) ∧ Below B w w' ∧ Left x a w w' := by
  obtain ⟨c, h1, h2⟩ := h
  have HK := Lib.hid (fun w => rkid_any s hn w)
  have HF := Lib.hid (fun w (h : Xg B w x ss) => rfind_any h (by omega) hs (kidOf s))
  have H1 := Lib.hid h1
  have H2 := Lib.hid h2
  have HBX := Lib.hid (And.intro hB hx)
  rw [hf] at HF
  clear h1 h2 hs hn hf hB hx
  have hl8 : decide ((8 : Int) ≤ (ss.length : Int)) = false := decide_eq_false (by omega)
  unfold kpt at *
  go_enter Tryz.func23, Tryz.ntmps23
  go_wp2_with fail
  refine (HK.out _).mono ?_
  rintro e w1 ⟨rfl, hb1⟩
  go_wp2_with fail
  refine (HF.out _ ⟨a, c, H1.out.below hb1, own_below H2.out hb1⟩).mono ?_
  rintro e w2 ⟨rfl, hb2⟩
  have hb := bthen hb1 hb2
  have k1 := H1.out.below hb
  have k2 := own_below H2.out hb
  have hc : w2.cell? ⟨x, 0, none⟩ = some (.slice (some ⟨a, 0, none⟩) ss.length c) := k1.cell 0
  have hc2 : (w2.alloc (.cells #[.string ⟨s.toArray⟩] 9)).cell? ⟨x, 0, none⟩ = some (.slice (some ⟨a, 0, none⟩) ss.length c) := (Bk.alloc k1).cell 0
  have K1 := Lib.hid k1
  have K2 := Lib.hid k2
  have HB := Lib.hid hb
  clear k1 k2 hb hb1 hb2
  go_wp2_with (at_builtin; refine apps _ _ _ rfl rfl rfl rfl K2.out (Nat.le_trans HBX.out.1 HB.out.size) (by omega) ?_; intro v' w3 hv hG; obtain ⟨a2, c2, hv2⟩ := own_slice hv; subst hv2; have hr3 := xring_keep K1.out K2.out hG; have d0 := hr3.cell 0; have f0 := hr3.fro 0; have HV := Lib.hid hv; have HG := Lib.hid hG; clear hv hG hr3 hc hc2)
  go_returns
  have hb3 : Below B w w3 := ((HB.out.mono HBX.out.1).alloc (Nat.le_trans HBX.out.1 HB.out.size) _).grown HG.out (by have := HB.out.size; have := HBX.out.1; simp; omega) (fun q hq => (World.ownsRow.lt K2.out q hq).1)
  have hbl := hb3.setCell (p := ⟨x, 0, none⟩) HBX.out.2 (.slice (some ⟨a2, 0, none⟩) (ss.length + 1) c2)
  have hba : Below w.heap.size w (w2.alloc (.cells #[.string ⟨s.toArray⟩] 9)) := HB.out.alloc HB.out.size _
  refine ⟨rfl, Xg.push K1.out K2.out HV.out HG.out, hbl, hbl.size, fun q hq h1 h2 => ?_⟩
  rw [heap_setCell_other w3 _ q _ (by simpa using h1), HG.out.block q (by have := hba.size; omega) (fun e => h2 (by injection e)), hba.block q hq]
set_option maxHeartbeats 8000000 in
theorem turn_newF {B : Nat} {w : World} {r a : Nat} {ks : List (Nat × List UInt8)} (h : ∃ c, Bk 107 w r #[.slice (some ⟨a, 0, none⟩) ks.length c] ∧ w.ownsRow B 103 1 (.slice (some ⟨a, 0, none⟩) ks.length c) ks.length (ks.map fun k => kpt k.1) ∧ ∀ k ∈ ks, Bk 121 w k.1 (keyC k.2)) (hB : B ≤ w.heap.size) (hr : B ≤ r) (hl : ks.length < 8) (s : List UInt8) (hs : s.length ≤ 140737488351232) (hf : findK ks (kidOf s) = none) : Calls Tryz.prog 22 #[kpt r, .string ⟨s.toArray⟩] w fun e w' => e = .returned (.int .i64 0) ∧ ∃ g, Rg B w' r (ks ++ [(g, s)]) ∧ Below B w w' ∧ Left r a w w' := by
  have HK := Lib.hid (newKey_any s hs w)
  have H := Lib.hid h
  have HF := Lib.hid hf
  have HBR := Lib.hid (And.intro hB hr)
  clear h hf hs hB hr
  unfold kpt
  go_enter Tryz.func22, Tryz.ntmps22
  go_wp2_with fail
  refine HK.out.mono ?_
  rintro e w1 ⟨g, rfl, hg, hk, hb⟩
  obtain ⟨c, g1, g2, g3⟩ := H.out
  have hfi := find_any (r := r) (ks := ks) ⟨a, c, g1.below hb, own_below g2 hb, fun k hk => (g3 k hk).below hb⟩ (by omega) (kidOf s)
  rw [HF.out] at hfi
  unfold kpt fV at hfi
  have c1 := hk.cell 1
  unfold keyC at c1
  simp only [List.getElem?_toArray, List.getElem?_cons_succ, List.getElem?_cons_zero] at c1
  have HFI := Lib.hid hfi
  have HKK := Lib.hid hk
  have HBB := Lib.hid hb
  have h1 := g1.below hb
  have HH := Lib.hid (And.intro (g1.below hb) (And.intro (own_below g2 hb) (fun k hk => (g3 k hk).below hb : ∀ k ∈ ks, Bk 121 w1 k.1 (keyC k.2))))
  have c0 : w1.cell? ⟨r, 0, none⟩ = some (.slice (some ⟨a, 0, none⟩) ks.length c) := h1.cell 0
  have h8 : ((ks.length : Int) == 8) = false := by simp; omega
  clear hfi hk HK H h1 g1 g2 g3
  go_wp2_with fail
  refine HFI.out.mono ?_
  rintro e w2 ⟨rfl, rfl⟩
  go_wp2_with (at_builtin; refine appk g _ _ rfl rfl rfl rfl HH.out.2.1 (Nat.le_trans HBR.out.1 hb.size) (by omega) ?_; intro v' w3 hv hG; obtain ⟨a2, c2, hv2⟩ := own_slice hv; subst hv2; have hr3 := ring_keep HH.out.1 HH.out.2.1 hG; have d0 := hr3.cell 0; have f0 := hr3.fro 0; have HV := Lib.hid hv; have HG := Lib.hid hG; clear hv hG hr3 c0 c1)
  go_returns
  have hb3 : Below B w w3 := ((hb.mono HBR.out.1).alloc (Nat.le_trans HBR.out.1 hb.size) _).grown HG.out (by have := hb.size; have := HBR.out.1; simp; omega) (fun q hq => (World.ownsRow.lt HH.out.2.1 q hq).1)
  have hbl := hb3.setCell (p := ⟨r, 0, none⟩) HBR.out.2 (.slice (some ⟨a2, 0, none⟩) (ks.length + 1) c2)
  have hba : Below w.heap.size w (w1.alloc (.cells #[.pointer (some ⟨g, 0, none⟩)] 103)) := hb.alloc hb.size _
  refine ⟨rfl, g, Rg.push HH.out.1 HH.out.2.1 HH.out.2.2 HKK.out HV.out HG.out HBR.out.2, hbl, hbl.size, fun q hq h1 h2 => ?_⟩
  rw [heap_setCell_other w3 _ q _ (by simpa using h1), HG.out.block q (by have := hba.size; exact Nat.lt_of_lt_of_le hq this) (fun e => h2 (by injection e))]
  exact hba.block q hq
set_option maxHeartbeats 8000000 in
theorem turn_full {B : Nat} {w : World} {r : Nat} {ks : List (Nat × List UInt8)} (h : Rg B w r ks) (hl : ks.length = 8) (s : List UInt8) (hs : s.length ≤ 140737488351232) (hf : findK ks (kidOf s) = none) : Calls Tryz.prog 22 #[kpt r, .string ⟨s.toArray⟩] w fun e w' => e = .returned (.int .i64 82) ∧ Below w.heap.size w w' := by
  have HK := Lib.hid (newKey_any s hs w)
  have H := Lib.hid h
  have HF := Lib.hid hf
  clear h hf hs
  unfold kpt
  go_enter Tryz.func22, Tryz.ntmps22
  go_wp2_with fail
  refine HK.out.mono ?_
  rintro e w1 ⟨g, rfl, hg, hk, hb⟩
  have H1 := H.out.below hb
  have hfi := find_any H1 (by omega) (kidOf s)
  rw [HF.out] at hfi
  unfold kpt fV at hfi
  have c1 := hk.cell 1
  unfold keyC at c1
  simp only [List.getElem?_toArray, List.getElem?_cons_succ, List.getElem?_cons_zero] at c1
  have HFI := Lib.hid hfi
  obtain ⟨a, c, h1, h2, h3⟩ := H1
  rw [hl] at h1
  have c0 : w1.cell? ⟨r, 0, none⟩ = some (.slice (some ⟨a, 0, none⟩) 8 c) := h1.cell 0
  clear hfi hk HK H h1 h2 h3
  go_wp2_with fail
  refine HFI.out.mono ?_
  rintro e w2 ⟨rfl, rfl⟩
  go_wp2_with fail
  go_returns
  exact ⟨rfl, hb⟩
end Go.Proofs.YtpggkfdijmnmiaaGreat
namespace Go.Proofs.YtpggkfdijmnmiaaGreat
open Go.RowKit Limbs
set_option maxHeartbeats 8000000 in
theorem seed_any {w : World} {g : Nat} {s : List UInt8} (h : Bk 121 w g (keyC s)) : Calls Tryz.prog 86 #[kpt g] w fun e w' => e = .returned (.string ⟨s.toArray⟩) ∧ w = w' := by
  have c1 := h.cell 0
  unfold keyC at c1
  simp only [List.getElem?_toArray, List.getElem?_cons_zero] at c1
  unfold kpt
  go_enter Tryz.func86, Tryz.ntmps86
  go_wp2_with fail
  go_returns
  exact ⟨rfl, rfl⟩
def sdV (k : Nat × List UInt8) : Value := txt k.2
set_option maxHeartbeats 16000000 in
theorem eachs_any {B : Nat} {w : World} {r : Nat} {ks : List (Nat × List UInt8)} (h : Rg B w r ks) (hl : ks.length ≤ 8) (hn : ks ≠ []) (hs : ∀ k ∈ ks, k.2.length ≤ 281474976710656) : Calls Tryz.prog 84 #[kpt r, .func (.func 86) #[] #[]] w fun e w' => ∃ v, e = .returned v ∧ w'.ownsRow w.heap.size 9 1 v ks.length (ks.map sdV) ∧ Below w.heap.size w w' := by
  obtain ⟨a, c, h1, h2, h3⟩ := h
  have hc : w.cell? ⟨r, 0, none⟩ = some (.slice (some ⟨a, 0, none⟩) ks.length c) := h1.cell 0
  have HH := Lib.hid (And.intro h1 (And.intro h2 h3))
  have HS := Lib.hid hs
  clear hs
  clear h1 h2 h3
  have hpos : 0 < ks.length := List.length_pos_iff.2 hn
  obtain ⟨i0, hi, hz0, hz1, hz2⟩ := info_parts infoStr
  obtain ⟨wm, hmk, hown, hgr⟩ := run_makeSlice_owned (P := Tryz.prog) (w := w) w.heap.size 44 9 i0 (.string ⟨#[]⟩) 1 Tryz.underlying44 hi hz0 hz1 .i64 .i64 ks.length (by omega) (by rw [hz2]; omega) (by unfold maxLen; omega) (Nat.le_refl _)
  have hbm : Below w.heap.size w wm := ⟨hgr.os, hgr.tape, hgr.output, hgr.size, fun k hk => hgr.block k hk (fun e => by cases e)⟩
  have HM := Lib.hid (And.intro hown hbm)
  have hc2 : wm.cell? ⟨r, 0, none⟩ = some (.slice (some ⟨a, 0, none⟩) ks.length c) := (HH.out.1.below hbm).cell 0
  clear hi hz0 hz1 hz2 hown hgr hbm hpos
  unfold kpt
  go_enter Tryz.func84, Tryz.ntmps84
  go_wp2_with fail
  clear hmk hc
  go_loopw [5, 19] (fun sv iv wr => ∃ i : Nat, i ≤ ks.length ∧ iv = .int .i64 (i : Int) ∧ Hid (wr.ownsRow w.heap.size 9 1 sv i ((ks.take i).map sdV)) ∧ Hid (Below w.heap.size w wr)) (fun _ iv _ => ks.length - (intOf iv).toNat)
  case atStart => exact ⟨0, Nat.zero_le _, rfl, Lib.hid HM.out.1, Lib.hid HM.out.2⟩
  case round =>
    obtain ⟨i, hi, rfl, ho, hb⟩ := hrel
    clear hc2
    by_cases hlt : i < ks.length
    · obtain ⟨k, hk⟩ : ∃ k, ks[i]'hlt = k := ⟨_, rfl⟩
      have hkm : k ∈ ks := hk ▸ List.getElem_mem hlt
      have K1 := (HH.out.2.2 k hkm).below hb.out
      have c0 : wr.cell? ⟨a, i, none⟩ = some (.pointer (some ⟨k.1, 0, none⟩)) := by
        have := (own_below HH.out.2.1 hb.out).cells (g := a) rfl i (kpt k.1) (by rw [List.getElem?_map, List.getElem?_eq_getElem hlt, hk]; rfl)
        by_cases h0 : i = 0
        · subst h0; simpa [Addr.add, kpt] using this
        · simpa [Addr.add, h0, kpt] using this
      have hltI : (i : Int) < (ks.length : Int) := by omega
      have hkid := seed_any K1
      unfold kpt at hkid
      have HKD := Lib.hid hkid
      have HT : Hid ((ks.take (i + 1)).map sdV = (ks.take i).map sdV ++ [.string ⟨k.2.toArray⟩]) := Lib.hid (by rw [List.take_add_one, List.getElem?_eq_getElem hlt, hk]; simp [sdV, txt])
      have HKM := Lib.hid hkm
      clear hkid K1 hk hkm
      go_wp2_with fail
      refine HKD.out.mono ?_
      rintro e w1 ⟨rfl, rfl⟩
      go_wp2_with fail
      refine (sclone_any k.2 _ (HS.out k (HKM.out))).mono ?_
      rintro e w2 ⟨rfl, hb2⟩
      have hb3 := hb.out.trans (hb2.mono hb.out.size)
      have ho2 := own_below ho.out hb2
      go_wp2_with (at_builtin; refine apps _ _ _ rfl rfl rfl rfl ho2 hb3.size (by omega) ?_; intro v' w3 hv hG; obtain ⟨a2, c2, hv2⟩ := own_slice hv; subst hv2; have HV := Lib.hid hv; have HG := Lib.hid hG; clear hv hG)
      go_roundw
      case rel => exact ⟨i + 1, by omega, by go_num, Lib.hid (by rw [HT.out]; exact HV.out), Lib.hid ((hb3.alloc hb3.size _).grown HG.out (by have := hb3.size; simp; omega) (fun q hq => (World.ownsRow.lt ho2 q hq).1))⟩
      case measure => simp [intOf]; omega
    · have hie : i = ks.length := by omega
      have hltI : decide ((i : Int) < (ks.length : Int)) = false := decide_eq_false (by omega)
      go_wp2_with fail
      go_returns
      refine ⟨_, rfl, ?_, hb.out⟩
      have := ho.out
      rw [hie, List.take_length] at this
      exact this
set_option maxHeartbeats 8000000 in
theorem seeds_any {B : Nat} {w : World} {r : Nat} {ks : List (Nat × List UInt8)} (h : Rg B w r ks) (hl : ks.length ≤ 8) (hn : ks ≠ []) (hs : ∀ k ∈ ks, k.2.length ≤ 281474976710656) : Calls Tryz.prog 33 #[kpt r] w fun e w' => ∃ v, e = .returned v ∧ w'.ownsRow w.heap.size 9 1 v ks.length (ks.map sdV) ∧ Below w.heap.size w w' := by
  obtain ⟨a, c, h1, h2, h3⟩ := h
  have hc : w.cell? ⟨r, 0, none⟩ = some (.slice (some ⟨a, 0, none⟩) ks.length c) := h1.cell 0
  have HH := Lib.hid (And.intro h1 (And.intro h2 h3))
  have HS := Lib.hid hs
  clear hs
  clear h1 h2 h3
  have hpos : 0 < ks.length := List.length_pos_iff.2 hn
  have HE := Lib.hid (eachs_any ⟨a, c, HH.out.1, HH.out.2.1, HH.out.2.2⟩ hl hn HS.out)
  clear hpos hc HH
  unfold kpt at HE ⊢
  go_enter Tryz.func33, Tryz.ntmps33
  go_wp2_with fail
  refine HE.out.mono ?_
  rintro e w1 ⟨v, rfl, ho, hb⟩
  go_wp2_with fail
  go_returns
  exact ⟨_, rfl, ho, hb⟩
end Go.Proofs.YtpggkfdijmnmiaaGreat
namespace Go.Proofs.YtpggkfdijmnmiaaGreat
open Go.RowKit Limbs
def RgA (a B : Nat) (w : World) (r : Nat) (ks : List (Nat × List UInt8)) : Prop :=
  ∃ c, Bk 107 w r #[.slice (some ⟨a, 0, none⟩) ks.length c] ∧ w.ownsRow B 103 1 (.slice (some ⟨a, 0, none⟩) ks.length c) ks.length (ks.map fun k => kpt k.1) ∧ ∀ k ∈ ks, Bk 121 w k.1 (keyC k.2)
def XgA (a B : Nat) (w : World) (x : Nat) (ss : List (List UInt8)) : Prop :=
  ∃ c, Bk 46 w x #[.slice (some ⟨a, 0, none⟩) ss.length c] ∧ w.ownsRow B 9 1 (.slice (some ⟨a, 0, none⟩) ss.length c) ss.length (ss.map txt)
theorem Rg.named {B : Nat} {w : World} {r : Nat} {ks : List (Nat × List UInt8)} (h : Rg B w r ks) : ∃ a, RgA a B w r ks := h
theorem Xg.named {B : Nat} {w : World} {x : Nat} {ss : List (List UInt8)} (h : Xg B w x ss) : ∃ a, XgA a B w x ss := h
theorem RgA.rg {a B : Nat} {w : World} {r : Nat} {ks : List (Nat × List UInt8)} (h : RgA a B w r ks) : Rg B w r ks := ⟨a, h⟩
theorem XgA.xg {a B : Nat} {w : World} {x : Nat} {ss : List (List UInt8)} (h : XgA a B w x ss) : Xg B w x ss := ⟨a, h⟩
theorem row_block {B n c a : Nat} {w : World} {T : TypeId} {z : Nat} {l : List Value} (h : w.ownsRow B T z (.slice (some ⟨a, 0, none⟩) n c) n l) : B ≤ a ∧ ∃ cur, Bk T w a cur := by
  rcases h.2 with ⟨hx, _⟩ | ⟨g', cap, cur, hx, hg, hh, _⟩
  · cases hx
  · cases hx
    exact ⟨hg, cur, hh⟩
theorem row_kept {B n c a : Nat} {w w' : World} {T : TypeId} {z : Nat} {l : List Value} (h : w.ownsRow B T z (.slice (some ⟨a, 0, none⟩) n c) n l) (hk : w'.heap[a]? = w.heap[a]?) : w'.ownsRow B T z (.slice (some ⟨a, 0, none⟩) n c) n l := by
  refine ⟨h.1, ?_⟩
  rcases h.2 with hn | ⟨g, cap, cur, hv, hg, hh, rest⟩
  · exact .inl hn
  · obtain rfl : a = g := by cases hv; rfl
    exact .inr ⟨a, cap, cur, hv, hg, hk.trans hh, rest⟩
theorem Bk.left {t : TypeId} {w w' : World} {q r a : Nat} {cs : Array Value} (h : Bk t w q cs) (hL : Left r a w w') (h1 : q ≠ r) (h2 : q ≠ a) : Bk t w' q cs :=
  (hL.2 q (Array.getElem?_eq_some_iff.1 h).1 h1 h2).trans h
theorem RgA.leaves {t : TypeId} {a B : Nat} {w w' : World} {q r : Nat} {ks : List (Nat × List UInt8)} {cs : Array Value} (hr : RgA a B w r ks) (hL : Left r a w w') (h : Bk t w q cs) (h1 : t ≠ 107) (h2 : t ≠ 103) : Bk t w' q cs := by
  obtain ⟨c, k1, k2, _⟩ := hr
  obtain ⟨_, cur, k3⟩ := row_block k2
  exact h.left hL (bk_ne h k1 h1) (bk_ne h k3 h2)
theorem XgA.leaves {t : TypeId} {a B : Nat} {w w' : World} {q x : Nat} {ss : List (List UInt8)} {cs : Array Value} (hr : XgA a B w x ss) (hL : Left x a w w') (h : Bk t w q cs) (h1 : t ≠ 46) (h2 : t ≠ 9) : Bk t w' q cs := by
  obtain ⟨c, k1, k2⟩ := hr
  obtain ⟨_, cur, k3⟩ := row_block k2
  exact h.left hL (bk_ne h k1 h1) (bk_ne h k3 h2)
theorem Xg.by_rg {a B B' : Nat} {w w' : World} {r x : Nat} {ks : List (Nat × List UInt8)} {ss : List (List UInt8)} (h : Xg B' w x ss) (hr : RgA a B w r ks) (hL : Left r a w w') : Xg B' w' x ss := by
  obtain ⟨b, d, h1, h2⟩ := h
  obtain ⟨_, cur, h3⟩ := row_block h2
  exact ⟨b, d, hr.leaves hL h1 (by decide) (by decide), row_kept h2 ((hr.leaves hL h3 (by decide) (by decide)).trans h3.symm)⟩
theorem Rg.by_xg {a B B' : Nat} {w w' : World} {r x : Nat} {ks : List (Nat × List UInt8)} {ss : List (List UInt8)} (h : Rg B' w r ks) (hr : XgA a B w x ss) (hL : Left x a w w') : Rg B' w' r ks := by
  obtain ⟨b, d, h1, h2, h4⟩ := h
  obtain ⟨_, cur, h3⟩ := row_block h2
  exact ⟨b, d, hr.leaves hL h1 (by decide) (by decide), row_kept h2 ((hr.leaves hL h3 (by decide) (by decide)).trans h3.symm), fun k hk => hr.leaves hL (h4 k hk) (by decide) (by decide)⟩
theorem Rg.by_rg {a B N : Nat} {w w' : World} {r q : Nat} {ks ls : List (Nat × List UInt8)} (h : Rg N w q ls) (hq : N ≤ q) (hr : RgA a B w r ks) (h1 : r < N) (h2 : a < N) (hL : Left r a w w') : Rg N w' q ls := by
  obtain ⟨b, d, k1, k2, k4⟩ := h
  obtain ⟨hb, cur, k3⟩ := row_block k2
  exact ⟨b, d, k1.left hL (by omega) (by omega), row_kept k2 ((k3.left hL (by omega) (by omega)).trans k3.symm), fun k hk => hr.leaves hL (k4 k hk) (by decide) (by decide)⟩
theorem Xg.by_xg {a B N : Nat} {w w' : World} {x q : Nat} {ss tt : List (List UInt8)} (h : Xg N w q tt) (hq : N ≤ q) (hr : XgA a B w x ss) (h1 : x < N) (h2 : a < N) (hL : Left x a w w') : Xg N w' q tt := by
  obtain ⟨b, d, k1, k2⟩ := h
  obtain ⟨hb, cur, k3⟩ := row_block k2
  exact ⟨b, d, k1.left hL (by omega) (by omega), row_kept k2 ((k3.left hL (by omega) (by omega)).trans k3.symm)⟩
theorem Rg.mono {B B' : Nat} {w : World} {r : Nat} {ks : List (Nat × List UInt8)} (h : Rg B w r ks) (hB : B' ≤ B) : Rg B' w r ks := by
  obtain ⟨a, c, h1, h2, h3⟩ := h
  refine ⟨a, c, h1, ⟨h2.1, ?_⟩, h3⟩
  rcases h2.2 with hn | ⟨g, cap, cur, hv, hg, rest⟩
  · exact .inl hn
  · exact .inr ⟨g, cap, cur, hv, Nat.le_trans hB hg, rest⟩
theorem Xg.mono {B B' : Nat} {w : World} {x : Nat} {ss : List (List UInt8)} (h : Xg B w x ss) (hB : B' ≤ B) : Xg B' w x ss := by
  obtain ⟨a, c, h1, h2⟩ := h
  refine ⟨a, c, h1, ⟨h2.1, ?_⟩⟩
  rcases h2.2 with hn | ⟨g, cap, cur, hv, hg, rest⟩
  · exact .inl hn
  · exact .inr ⟨g, cap, cur, hv, Nat.le_trans hB hg, rest⟩
theorem find_same (n : List UInt8) : ∀ (ks : List (Nat × List UInt8)) (i : Nat), (findK ks n = none ∧ findS (ks.map Prod.snd) n i = -1) ∨ ∃ j, ∃ h : j < ks.length, findK ks n = some (ks[j]).1 ∧ findS (ks.map Prod.snd) n i = ((i + j : Nat) : Int)
  | [], i => .inl ⟨rfl, rfl⟩
  | k :: ks, i => by
    rw [findK, List.map_cons, findS]
    by_cases hq : kidOf k.2 = n
    · rw [if_pos hq, if_pos hq]
      exact .inr ⟨0, by simp, rfl, by simp⟩
    · rw [if_neg hq, if_neg hq]
      rcases find_same n ks (i + 1) with h | ⟨j, hj, h1, h2⟩
      · exact .inl h
      · exact .inr ⟨j + 1, by simpa using hj, by simpa using h1, by rw [h2]; congr 1; omega⟩
end Go.Proofs.YtpggkfdijmnmiaaGreat
namespace Go.Proofs.YtpggkfdijmnmiaaGreat
open Go.RowKit Limbs
def jn (x y z : Nat) : Value := .agg #[.int .u64 (lb x 0 : Nat), .int .u64 (lb x 1 : Nat), .int .u64 (lb x 2 : Nat), .int .u64 (lb x 3 : Nat), .int .u64 (lb y 0 : Nat), .int .u64 (lb y 1 : Nat), .int .u64 (lb y 2 : Nat), .int .u64 (lb y 3 : Nat), .int .u64 (lb z 0 : Nat), .int .u64 (lb z 1 : Nat), .int .u64 (lb z 2 : Nat), .int .u64 (lb z 3 : Nat)]
def pn (x y : Nat) (i : Bool) : Value := .agg #[.int .u64 (lb x 0 : Nat), .int .u64 (lb x 1 : Nat), .int .u64 (lb x 2 : Nat), .int .u64 (lb x 3 : Nat), .int .u64 (lb y 0 : Nat), .int .u64 (lb y 1 : Nat), .int .u64 (lb y 2 : Nat), .int .u64 (lb y 3 : Nat), .bool i]
theorem u93 : Tryz.prog.underlying 162 = some (.struct (Tryz.prog.fieldsOf 162)) := by kernel_rfl
theorem u51 : Tryz.prog.underlying 26 = some (.struct (Tryz.prog.fieldsOf 26)) := by kernel_rfl
theorem i93 : (Tryz.prog.info? 162).map (·.size) = some 12 := by kernel_rfl
theorem i51 : (Tryz.prog.info? 26).map (·.size) = some 9 := by kernel_rfl
theorem part24 (xs : Array Value) (o : Nat) (h : o + 4 ≤ xs.size) (w : World) : (part 24 xs o).run Tryz.prog w = .ok (.agg (xs.extract o (o + 4))) w := by
  simp [part, go_sem, Tryz.underlying24, Tryz.isAgg24, Tryz.sizeOf24, h]
theorem eq24' (d : Nat) (a0 a1 a2 a3 b0 b1 b2 b3 : Int) (w : World) : (Op.equalIn (d + 2) 24 (.agg #[.int .u64 a0, .int .u64 a1, .int .u64 a2, .int .u64 a3]) (.agg #[.int .u64 b0, .int .u64 b1, .int .u64 b2, .int .u64 b3])).run Tryz.prog w = .ok (a0 == b0 && (a1 == b1 && (a2 == b2 && a3 == b3))) w := by
  obtain ⟨i, hi⟩ := info22
  rw [run_equalIn_array w (d + 1) _ _ u24 hi, cells22]
  have hr : List.range 4 = [0, 1, 2, 3] := rfl
  rw [hr]
  have e (a b : Int) (w : World) : (Op.equalIn (d + 1) 22 (.int .u64 a) (.int .u64 b)).run Tryz.prog w = .ok (a == b) w := run_equalIn_int w d 22 .u64 .u64 a b Tryz.underlying22
  have pa0 := one22 a0 0 #[.int .u64 a0, .int .u64 a1, .int .u64 a2, .int .u64 a3] rfl
  have pa1 := one22 a1 1 #[.int .u64 a0, .int .u64 a1, .int .u64 a2, .int .u64 a3] rfl
  have pa2 := one22 a2 2 #[.int .u64 a0, .int .u64 a1, .int .u64 a2, .int .u64 a3] rfl
  have pa3 := one22 a3 3 #[.int .u64 a0, .int .u64 a1, .int .u64 a2, .int .u64 a3] rfl
  have pb0 := one22 b0 0 #[.int .u64 b0, .int .u64 b1, .int .u64 b2, .int .u64 b3] rfl
  have pb1 := one22 b1 1 #[.int .u64 b0, .int .u64 b1, .int .u64 b2, .int .u64 b3] rfl
  have pb2 := one22 b2 2 #[.int .u64 b0, .int .u64 b1, .int .u64 b2, .int .u64 b3] rfl
  have pb3 := one22 b3 3 #[.int .u64 b0, .int .u64 b1, .int .u64 b2, .int .u64 b3] rfl
  simp only [Op.eqItems, Sem.run_bind, Nat.mul_one, pa0, pa1, pa2, pa3, pb0, pb1, pb2, pb3, Result.andThen_ok, e]
  cases h0 : (a0 == b0) <;> cases h1 : (a1 == b1) <;> cases h2 : (a2 == b2) <;> cases h3 : (a3 == b3) <;> simp [pa1, pa2, pa3, pb1, pb2, pb3, e, h0, h1, h2, h3, Op.eqItems]
theorem eqN' (d : Nat) (x y : Nat) (hx : x < W256) (hy : y < W256) (w : World) : (Op.equalIn (d + 2) 24 (.agg #[.int .u64 (lb x 0 : Nat), .int .u64 (lb x 1 : Nat), .int .u64 (lb x 2 : Nat), .int .u64 (lb x 3 : Nat)]) (.agg #[.int .u64 (lb y 0 : Nat), .int .u64 (lb y 1 : Nat), .int .u64 (lb y 2 : Nat), .int .u64 (lb y 3 : Nat)])).run Tryz.prog w = .ok (decide (x = y)) w := by
  rw [eq24']
  congr 1
  rw [Bool.eq_iff_iff]
  simp only [Bool.and_eq_true, beq_iff_eq, decide_eq_true_eq]
  constructor
  · rintro ⟨h0, h1, h2, h3⟩
    rw [← v4_lb hx, ← v4_lb hy, show lb x 0 = lb y 0 by omega, show lb x 1 = lb y 1 by omega, show lb x 2 = lb y 2 by omega, show lb x 3 = lb y 3 by omega]
  · rintro rfl; simp
theorem eqJ (x y z x' y' z' : Nat) (hx : x < W256) (hy : y < W256) (hz : z < W256) (hx' : x' < W256) (hy' : y' < W256) (hz' : z' < W256) (w : World) : (Op.equalIn 10000 162 (jn x y z) (jn x' y' z')).run Tryz.prog w = .ok (decide (x = x' ∧ y = y' ∧ z = z')) w := by
  unfold jn
  rw [show (10000 : Nat) = 9999 + 1 from rfl, run_equalIn_struct w 9999 162 _ _ u93 (by kernel_rfl)]
  have h1 := eqN' 9997 x x' hx hx' w
  have h2 := eqN' 9997 y y' hy hy' w
  have h3 := eqN' 9997 z z' hz hz' w
  have a0 : (part 24 #[.int .u64 (lb x 0 : Nat), .int .u64 (lb x 1 : Nat), .int .u64 (lb x 2 : Nat), .int .u64 (lb x 3 : Nat), .int .u64 (lb y 0 : Nat), .int .u64 (lb y 1 : Nat), .int .u64 (lb y 2 : Nat), .int .u64 (lb y 3 : Nat), .int .u64 (lb z 0 : Nat), .int .u64 (lb z 1 : Nat), .int .u64 (lb z 2 : Nat), .int .u64 (lb z 3 : Nat)] 0).run Tryz.prog w = .ok (.agg #[.int .u64 (lb x 0 : Nat), .int .u64 (lb x 1 : Nat), .int .u64 (lb x 2 : Nat), .int .u64 (lb x 3 : Nat)]) w := part24 _ _ (by simp) w
  have a1 : (part 24 #[.int .u64 (lb x 0 : Nat), .int .u64 (lb x 1 : Nat), .int .u64 (lb x 2 : Nat), .int .u64 (lb x 3 : Nat), .int .u64 (lb y 0 : Nat), .int .u64 (lb y 1 : Nat), .int .u64 (lb y 2 : Nat), .int .u64 (lb y 3 : Nat), .int .u64 (lb z 0 : Nat), .int .u64 (lb z 1 : Nat), .int .u64 (lb z 2 : Nat), .int .u64 (lb z 3 : Nat)] 4).run Tryz.prog w = .ok (.agg #[.int .u64 (lb y 0 : Nat), .int .u64 (lb y 1 : Nat), .int .u64 (lb y 2 : Nat), .int .u64 (lb y 3 : Nat)]) w := part24 _ _ (by simp) w
  have a2 : (part 24 #[.int .u64 (lb x 0 : Nat), .int .u64 (lb x 1 : Nat), .int .u64 (lb x 2 : Nat), .int .u64 (lb x 3 : Nat), .int .u64 (lb y 0 : Nat), .int .u64 (lb y 1 : Nat), .int .u64 (lb y 2 : Nat), .int .u64 (lb y 3 : Nat), .int .u64 (lb z 0 : Nat), .int .u64 (lb z 1 : Nat), .int .u64 (lb z 2 : Nat), .int .u64 (lb z 3 : Nat)] 8).run Tryz.prog w = .ok (.agg #[.int .u64 (lb z 0 : Nat), .int .u64 (lb z 1 : Nat), .int .u64 (lb z 2 : Nat), .int .u64 (lb z 3 : Nat)]) w := part24 _ _ (by simp) w
  have b0 : (part 24 #[.int .u64 (lb x' 0 : Nat), .int .u64 (lb x' 1 : Nat), .int .u64 (lb x' 2 : Nat), .int .u64 (lb x' 3 : Nat), .int .u64 (lb y' 0 : Nat), .int .u64 (lb y' 1 : Nat), .int .u64 (lb y' 2 : Nat), .int .u64 (lb y' 3 : Nat), .int .u64 (lb z' 0 : Nat), .int .u64 (lb z' 1 : Nat), .int .u64 (lb z' 2 : Nat), .int .u64 (lb z' 3 : Nat)] 0).run Tryz.prog w = .ok (.agg #[.int .u64 (lb x' 0 : Nat), .int .u64 (lb x' 1 : Nat), .int .u64 (lb x' 2 : Nat), .int .u64 (lb x' 3 : Nat)]) w := part24 _ _ (by simp) w
  have b1 : (part 24 #[.int .u64 (lb x' 0 : Nat), .int .u64 (lb x' 1 : Nat), .int .u64 (lb x' 2 : Nat), .int .u64 (lb x' 3 : Nat), .int .u64 (lb y' 0 : Nat), .int .u64 (lb y' 1 : Nat), .int .u64 (lb y' 2 : Nat), .int .u64 (lb y' 3 : Nat), .int .u64 (lb z' 0 : Nat), .int .u64 (lb z' 1 : Nat), .int .u64 (lb z' 2 : Nat), .int .u64 (lb z' 3 : Nat)] 4).run Tryz.prog w = .ok (.agg #[.int .u64 (lb y' 0 : Nat), .int .u64 (lb y' 1 : Nat), .int .u64 (lb y' 2 : Nat), .int .u64 (lb y' 3 : Nat)]) w := part24 _ _ (by simp) w
  have b2 : (part 24 #[.int .u64 (lb x' 0 : Nat), .int .u64 (lb x' 1 : Nat), .int .u64 (lb x' 2 : Nat), .int .u64 (lb x' 3 : Nat), .int .u64 (lb y' 0 : Nat), .int .u64 (lb y' 1 : Nat), .int .u64 (lb y' 2 : Nat), .int .u64 (lb y' 3 : Nat), .int .u64 (lb z' 0 : Nat), .int .u64 (lb z' 1 : Nat), .int .u64 (lb z' 2 : Nat), .int .u64 (lb z' 3 : Nat)] 8).run Tryz.prog w = .ok (.agg #[.int .u64 (lb z' 0 : Nat), .int .u64 (lb z' 1 : Nat), .int .u64 (lb z' 2 : Nat), .int .u64 (lb z' 3 : Nat)]) w := part24 _ _ (by simp) w
  have f1 : ("x" ≠ "_") = True := by simp
  have f2 : ("y" ≠ "_") = True := by simp
  have f3 : ("z" ≠ "_") = True := by simp
  simp only [Program.fieldsOf, Tryz.underlying162, Op.eqFields, f1, f2, f3, if_true, Sem.run_bind, a0, b0, Result.andThen_ok, h1]
  rw [show decide (x = x' ∧ y = y' ∧ z = z') = (decide (x = x') && (decide (y = y') && decide (z = z'))) from by rw [Bool.decide_and, Bool.decide_and]]
  clear a0 b0 h1
  generalize decide (x = x') = c1
  generalize decide (y = y') = c2 at h2 ⊢
  generalize decide (z = z') = c3 at h3 ⊢
  cases c1 <;> cases c2 <;> cases c3 <;> simp only [Bool.and_true, Bool.and_false, Bool.true_and, Bool.false_and, a1, a2, b1, b2, h2, h3, decide_true, decide_false, Bool.not_true, Bool.not_false, Bool.false_eq_true, if_true, if_false, Sem.run_bind, Sem.run_pure, Result.andThen_ok, and_true, and_false, true_and, false_and]
theorem eqP (x y x' y' : Nat) (i i' : Bool) (hx : x < W256) (hy : y < W256) (hx' : x' < W256) (hy' : y' < W256) (w : World) : (Op.equalIn 10000 26 (pn x y i) (pn x' y' i')).run Tryz.prog w = .ok (decide (x = x' ∧ y = y' ∧ i = i')) w := by
  unfold pn
  rw [show (10000 : Nat) = 9999 + 1 from rfl, run_equalIn_struct w 9999 26 _ _ u51 (by kernel_rfl)]
  have h1 := eqN' 9997 x x' hx hx' w
  have h2 := eqN' 9997 y y' hy hy' w
  have h3 : (Op.equalIn 9999 4 (.bool i) (.bool i')).run Tryz.prog w = .ok (i == i') w := run_equalIn_bool' w 9998 4 i i' Tryz.underlying4
  have a0 : (part 24 #[.int .u64 (lb x 0 : Nat), .int .u64 (lb x 1 : Nat), .int .u64 (lb x 2 : Nat), .int .u64 (lb x 3 : Nat), .int .u64 (lb y 0 : Nat), .int .u64 (lb y 1 : Nat), .int .u64 (lb y 2 : Nat), .int .u64 (lb y 3 : Nat), .bool i] 0).run Tryz.prog w = .ok (.agg #[.int .u64 (lb x 0 : Nat), .int .u64 (lb x 1 : Nat), .int .u64 (lb x 2 : Nat), .int .u64 (lb x 3 : Nat)]) w := part24 _ _ (by simp) w
  have a1 : (part 24 #[.int .u64 (lb x 0 : Nat), .int .u64 (lb x 1 : Nat), .int .u64 (lb x 2 : Nat), .int .u64 (lb x 3 : Nat), .int .u64 (lb y 0 : Nat), .int .u64 (lb y 1 : Nat), .int .u64 (lb y 2 : Nat), .int .u64 (lb y 3 : Nat), .bool i] 4).run Tryz.prog w = .ok (.agg #[.int .u64 (lb y 0 : Nat), .int .u64 (lb y 1 : Nat), .int .u64 (lb y 2 : Nat), .int .u64 (lb y 3 : Nat)]) w := part24 _ _ (by simp) w
  have a2 : (part 4 #[.int .u64 (lb x 0 : Nat), .int .u64 (lb x 1 : Nat), .int .u64 (lb x 2 : Nat), .int .u64 (lb x 3 : Nat), .int .u64 (lb y 0 : Nat), .int .u64 (lb y 1 : Nat), .int .u64 (lb y 2 : Nat), .int .u64 (lb y 3 : Nat), .bool i] 8).run Tryz.prog w = .ok (.bool i) w := by
    have : #[.int .u64 (lb x 0 : Nat), .int .u64 (lb x 1 : Nat), .int .u64 (lb x 2 : Nat), .int .u64 (lb x 3 : Nat), .int .u64 (lb y 0 : Nat), .int .u64 (lb y 1 : Nat), .int .u64 (lb y 2 : Nat), .int .u64 (lb y 3 : Nat), .bool i][8]? = some (Value.bool i) := rfl
    simp [part, go_sem, Tryz.underlying4, Tryz.isAgg4, Tryz.sizeOf4]
  have b0 : (part 24 #[.int .u64 (lb x' 0 : Nat), .int .u64 (lb x' 1 : Nat), .int .u64 (lb x' 2 : Nat), .int .u64 (lb x' 3 : Nat), .int .u64 (lb y' 0 : Nat), .int .u64 (lb y' 1 : Nat), .int .u64 (lb y' 2 : Nat), .int .u64 (lb y' 3 : Nat), .bool i'] 0).run Tryz.prog w = .ok (.agg #[.int .u64 (lb x' 0 : Nat), .int .u64 (lb x' 1 : Nat), .int .u64 (lb x' 2 : Nat), .int .u64 (lb x' 3 : Nat)]) w := part24 _ _ (by simp) w
  have b1 : (part 24 #[.int .u64 (lb x' 0 : Nat), .int .u64 (lb x' 1 : Nat), .int .u64 (lb x' 2 : Nat), .int .u64 (lb x' 3 : Nat), .int .u64 (lb y' 0 : Nat), .int .u64 (lb y' 1 : Nat), .int .u64 (lb y' 2 : Nat), .int .u64 (lb y' 3 : Nat), .bool i'] 4).run Tryz.prog w = .ok (.agg #[.int .u64 (lb y' 0 : Nat), .int .u64 (lb y' 1 : Nat), .int .u64 (lb y' 2 : Nat), .int .u64 (lb y' 3 : Nat)]) w := part24 _ _ (by simp) w
  have b2 : (part 4 #[.int .u64 (lb x' 0 : Nat), .int .u64 (lb x' 1 : Nat), .int .u64 (lb x' 2 : Nat), .int .u64 (lb x' 3 : Nat), .int .u64 (lb y' 0 : Nat), .int .u64 (lb y' 1 : Nat), .int .u64 (lb y' 2 : Nat), .int .u64 (lb y' 3 : Nat), .bool i'] 8).run Tryz.prog w = .ok (.bool i') w := by
    have : #[.int .u64 (lb x' 0 : Nat), .int .u64 (lb x' 1 : Nat), .int .u64 (lb x' 2 : Nat), .int .u64 (lb x' 3 : Nat), .int .u64 (lb y' 0 : Nat), .int .u64 (lb y' 1 : Nat), .int .u64 (lb y' 2 : Nat), .int .u64 (lb y' 3 : Nat), .bool i'][8]? = some (Value.bool i') := rfl
    simp [part, go_sem, Tryz.underlying4, Tryz.isAgg4, Tryz.sizeOf4]
  have f1 : ("X" ≠ "_") = True := by simp
  have f2 : ("Y" ≠ "_") = True := by simp
  have f3 : ("Inf" ≠ "_") = True := by simp
  simp only [Program.fieldsOf, Tryz.underlying26, Op.eqFields, f1, f2, f3, if_true, Sem.run_bind, a0, b0, Result.andThen_ok, h1]
  rw [show decide (x = x' ∧ y = y' ∧ i = i') = (decide (x = x') && (decide (y = y') && (i == i'))) from by rw [Bool.decide_and, Bool.decide_and]; cases i <;> cases i' <;> rfl]
  clear a0 b0 h1
  generalize decide (x = x') = c1
  generalize decide (y = y') = c2 at h2 ⊢
  generalize (i == i') = c3 at h3 ⊢
  cases c1 <;> cases c2 <;> cases c3 <;> simp only [Bool.and_true, Bool.and_false, Bool.true_and, Bool.false_and, a1, a2, b1, b2, h2, h3, decide_true, decide_false, Bool.not_true, Bool.not_false, Bool.false_eq_true, if_true, if_false, Sem.run_bind, Sem.run_pure, Result.andThen_ok, and_true, and_false, true_and, false_and]
end Go.Proofs.YtpggkfdijmnmiaaGreat
namespace Go.Proofs.YtpggkfdijmnmiaaGreat
open Go.RowKit Go.Sort Limbs
theorem mul_c (a b : Nat) (ha : a < W256) (hb : b < W256) (w : World) :
    Calls Tryz.prog 108 #[nv a, nv b] w fun e w' => e = .returned (nv (a * b % mP)) ∧ Below w.heap.size w w' := by
  have h0 := mul_any 0 a b ha hb
  rw [md0] at h0
  have HS := Lib.hid h0
  clear h0
  generalize a * b % mP = res at *
  simp only [nv, num] at HS ⊢
  go_enter Tryz.func108, Tryz.ntmps108
  go_wp2_with fail
  refine (keep w.heap.size w (HS.out _) (by go_grown) (Nat.le_refl _)).mono ?_
  rintro e w1 ⟨rfl, hb, hk⟩
  have KR : Hid (Bk 24 w1 (w.heap.size + 1 + 1) cs0) := Lib.hid (Bk.below (Bk.new (by simp)) hk)
  have HB := Lib.hid hb
  clear hk hb
  obtain ⟨j0, j1, j2, j3⟩ := KR.out.cells
  obtain ⟨f0, f1, f2, f3⟩ := KR.out.fros
  go_wp2_with fail
  refine ret_cell rfl (w.heap.size + 1 + 1) res rfl (Bk.put KR.out) rfl ⟨rfl, ?_⟩
  have hb := HB.out
  go_grown
theorem add_c (a b : Nat) (ha : a < W256) (hb : b < W256) (w : World) :
    Calls Tryz.prog 109 #[nv a, nv b] w fun e w' => e = .returned (nv ((a + b) % mP)) ∧ Below w.heap.size w w' := by
  have h0 := add_any 0 a b ha hb
  rw [md0] at h0
  have HS := Lib.hid h0
  clear h0
  generalize (a + b) % mP = res at *
  simp only [nv, num] at HS ⊢
  go_enter Tryz.func109, Tryz.ntmps109
  go_wp2_with fail
  refine (keep w.heap.size w (HS.out _) (by go_grown) (Nat.le_refl _)).mono ?_
  rintro e w1 ⟨rfl, hb, hk⟩
  have KR : Hid (Bk 24 w1 (w.heap.size + 1 + 1) cs0) := Lib.hid (Bk.below (Bk.new (by simp)) hk)
  have HB := Lib.hid hb
  clear hk hb
  obtain ⟨j0, j1, j2, j3⟩ := KR.out.cells
  obtain ⟨f0, f1, f2, f3⟩ := KR.out.fros
  go_wp2_with fail
  refine ret_cell rfl (w.heap.size + 1 + 1) res rfl (Bk.put KR.out) rfl ⟨rfl, ?_⟩
  have hb := HB.out
  go_grown
theorem sub_c (a b : Nat) (ha : a < W256) (hb : b < W256) (w : World) :
    Calls Tryz.prog 110 #[nv a, nv b] w fun e w' => e = .returned (nv ((a + (mP - b % mP)) % mP)) ∧ Below w.heap.size w w' := by
  have h0 := sub_any 0 a b ha hb
  rw [md0] at h0
  have HS := Lib.hid h0
  clear h0
  generalize (a + (mP - b % mP)) % mP = res at *
  simp only [nv, num] at HS ⊢
  go_enter Tryz.func110, Tryz.ntmps110
  go_wp2_with fail
  refine (keep w.heap.size w (HS.out _) (by go_grown) (Nat.le_refl _)).mono ?_
  rintro e w1 ⟨rfl, hb, hk⟩
  have KR : Hid (Bk 24 w1 (w.heap.size + 1 + 1) cs0) := Lib.hid (Bk.below (Bk.new (by simp)) hk)
  have HB := Lib.hid hb
  clear hk hb
  obtain ⟨j0, j1, j2, j3⟩ := KR.out.cells
  obtain ⟨f0, f1, f2, f3⟩ := KR.out.fros
  go_wp2_with fail
  refine ret_cell rfl (w.heap.size + 1 + 1) res rfl (Bk.put KR.out) rfl ⟨rfl, ?_⟩
  have hb := HB.out
  go_grown
set_option maxHeartbeats 4000000 in
theorem triple_c (a : Nat) (ha : a < W256) (w : World) :
    Calls Tryz.prog 111 #[nv a] w fun e w' => e = .returned (nv (((a + a) % mP + a) % mP)) ∧ Below w.heap.size w w' := by
  have H1 := Lib.hid (add_c a a ha ha)
  have h2 : (a + a) % mP < W256 := Nat.lt_trans (Nat.mod_lt _ (by decide +kernel)) (by decide +kernel)
  have H2 := Lib.hid (add_c _ a h2 ha)
  clear h2
  generalize ((a + a) % mP + a) % mP = res at *
  generalize (a + a) % mP = two at *
  simp only [nv, num] at H1 H2 ⊢
  go_enter Tryz.func111, Tryz.ntmps111
  go_wp2_with fail
  have KA : Hid (Bk 24 ((w.alloc (.cells #[.int .u64 (lb a 0 : Nat), .int .u64 (lb a 1 : Nat), .int .u64 (lb a 2 : Nat), .int .u64 (lb a 3 : Nat)] 24)).alloc (.cells #[.int .u64 0, .int .u64 0, .int .u64 0, .int .u64 0] 24)) w.heap.size #[.int .u64 (lb a 0 : Nat), .int .u64 (lb a 1 : Nat), .int .u64 (lb a 2 : Nat), .int .u64 (lb a 3 : Nat)]) := Lib.hid (Bk.alloc (Bk.new rfl))
  have KR : Hid (Bk 24 ((w.alloc (.cells #[.int .u64 (lb a 0 : Nat), .int .u64 (lb a 1 : Nat), .int .u64 (lb a 2 : Nat), .int .u64 (lb a 3 : Nat)] 24)).alloc (.cells #[.int .u64 0, .int .u64 0, .int .u64 0, .int .u64 0] 24)) (w.heap.size + 1) #[.int .u64 0, .int .u64 0, .int .u64 0, .int .u64 0]) := Lib.hid (Bk.new (by simp))
  have HB : Hid (Below w.heap.size w ((w.alloc (.cells #[.int .u64 (lb a 0 : Nat), .int .u64 (lb a 1 : Nat), .int .u64 (lb a 2 : Nat), .int .u64 (lb a 3 : Nat)] 24)).alloc (.cells #[.int .u64 0, .int .u64 0, .int .u64 0, .int .u64 0] 24))) := Lib.hid (by go_grown)
  generalize ((w.alloc (.cells #[.int .u64 (lb a 0 : Nat), .int .u64 (lb a 1 : Nat), .int .u64 (lb a 2 : Nat), .int .u64 (lb a 3 : Nat)] 24)).alloc (.cells #[.int .u64 0, .int .u64 0, .int .u64 0, .int .u64 0] 24)) = W at KA KR HB ⊢
  obtain ⟨gr, hgr⟩ : ∃ z, z = w.heap.size + 1 := ⟨_, rfl⟩
  rw [← hgr] at KR ⊢
  have HG := Lib.hid (show w.heap.size ≤ gr by omega)
  clear hgr
  obtain ⟨a0, a1, a2, a3⟩ := KA.out.reg
  refine wp_region_below_tail 5 mixed (by kernel_rfl) ?_
  simp only [List.take_succ_cons, List.take_zero, List.drop_succ_cons, List.drop_zero]
  iterate 2 go_big_quiet_step (fail)
  go_big_quiet_step (exact qg H1.out)
  go_big_quiet_step (fail)
  go_big_quiet_step (exact qg H2.out)
  refine wpQuiet_nil ?_
  intro _ hw'
  obtain ⟨⟨dq, osq⟩, hw''⟩ := hw'
  subst hw''
  have KR2 := Lib.hid (KR.out.regrown dq osq)
  have HB2 := Lib.hid (HB.out.trans ((below_regrown W dq osq).mono HB.out.size))
  clear KA KR HB a0 a1 a2 a3
  generalize grow (redrawn W dq) osq = V at KR2 HB2 ⊢
  obtain ⟨f0, f1, f2, f3⟩ := KR2.out.fros
  obtain ⟨c0, c1, c2, c3⟩ := KR2.out.cells
  go_wp2_with fail
  refine ret_cell rfl gr res rfl (Bk.put KR2.out) rfl ⟨rfl, ?_⟩
  have hb := HB2.out
  have hg := HG.out
  go_grown
theorem below_c_eq {a : Nat} (ha : a < W256) : decide ((a + 0) % mP = a) = decide (a < mP) := by
  rw [Nat.add_zero]
  by_cases h : a < mP
  · rw [Nat.mod_eq_of_lt h]; simp [h]
  · have := Nat.mod_lt a (show 0 < mP by decide +kernel)
    simp [h]; omega
set_option maxHeartbeats 4000000 in
theorem below_c (a : Nat) (ha : a < W256) (w : World) :
    Calls Tryz.prog 107 #[nv a] w fun e w' => e = .returned (.bool (decide (a < mP))) ∧ Below w.heap.size w w' := by
  rw [← below_c_eq ha]
  have H1 := Lib.hid (add_c a 0 ha (by decide))
  have h2 : (a + 0) % mP < W256 := Nat.lt_trans (Nat.mod_lt _ (by decide +kernel)) (by decide +kernel)
  have HE := Lib.hid (eqN _ a h2 ha)
  clear h2
  generalize (a + 0) % mP = one at *
  have e0 : nv 0 = .agg #[.int .u64 0, .int .u64 0, .int .u64 0, .int .u64 0] := rfl
  rw [e0] at H1
  obtain ⟨res, hres⟩ : ∃ z, z = decide (one = a) := ⟨_, rfl⟩
  rw [← hres] at HE ⊢
  clear hres ha
  simp only [nv, num] at H1 ⊢
  go_enter Tryz.func107, Tryz.ntmps107
  go_wp2_with fail
  have KA : Hid (Bk 24 (w.alloc (.cells #[.int .u64 (lb a 0 : Nat), .int .u64 (lb a 1 : Nat), .int .u64 (lb a 2 : Nat), .int .u64 (lb a 3 : Nat)] 24)) w.heap.size #[.int .u64 (lb a 0 : Nat), .int .u64 (lb a 1 : Nat), .int .u64 (lb a 2 : Nat), .int .u64 (lb a 3 : Nat)]) := Lib.hid (Bk.new rfl)
  have HB : Hid (Below w.heap.size w (w.alloc (.cells #[.int .u64 (lb a 0 : Nat), .int .u64 (lb a 1 : Nat), .int .u64 (lb a 2 : Nat), .int .u64 (lb a 3 : Nat)] 24))) := Lib.hid (by go_grown)
  generalize (w.alloc (.cells #[.int .u64 (lb a 0 : Nat), .int .u64 (lb a 1 : Nat), .int .u64 (lb a 2 : Nat), .int .u64 (lb a 3 : Nat)] 24)) = W at KA HB ⊢
  obtain ⟨a0, a1, a2, a3⟩ := KA.out.reg
  have heq := HE.out
  refine wp_region_quiet_below mixed (by kernel_rfl) ?_
  iterate 2 go_big_quiet_step (fail)
  go_big_quiet_step (exact qg H1.out)
  repeat (first | go_big_quiet_step (fail) | quiet_step (fail))
  refine wpQuiet_nil ?_
  intro _ hw'
  obtain ⟨⟨dq, osq⟩, hw''⟩ := hw'
  subst hw''
  have HB2 := Lib.hid (HB.out.trans ((below_regrown W dq osq).mono HB.out.size))
  go_wp2_with fail
  go_ret
  exact ⟨rfl, HB2.out⟩
end Go.Proofs.YtpggkfdijmnmiaaGreat
namespace Go.Proofs.YtpggkfdijmnmiaaGreat
open Go.RowKit Go.Sort Limbs
theorem Bk.cells12 {t : TypeId} {w : World} {g : Nat} {c0 c1 c2 c3 c4 c5 c6 c7 c8 c9 c10 c11 : Value} (h : Bk t w g #[c0, c1, c2, c3, c4, c5, c6, c7, c8, c9, c10, c11]) : (w.cell? ⟨g, 0, none⟩ = some c0 ∧ w.cell? ⟨g, 1, none⟩ = some c1 ∧ w.cell? ⟨g, 2, none⟩ = some c2 ∧ w.cell? ⟨g, 3, none⟩ = some c3) ∧ (w.cell? ⟨g, 4, none⟩ = some c4 ∧ w.cell? ⟨g, 5, none⟩ = some c5 ∧ w.cell? ⟨g, 6, none⟩ = some c6 ∧ w.cell? ⟨g, 7, none⟩ = some c7) ∧ (w.cell? ⟨g, 8, none⟩ = some c8 ∧ w.cell? ⟨g, 9, none⟩ = some c9 ∧ w.cell? ⟨g, 10, none⟩ = some c10 ∧ w.cell? ⟨g, 11, none⟩ = some c11) :=
  ⟨⟨h.cell 0, h.cell 1, h.cell 2, h.cell 3⟩, ⟨h.cell 4, h.cell 5, h.cell 6, h.cell 7⟩, ⟨h.cell 8, h.cell 9, h.cell 10, h.cell 11⟩⟩
theorem Bk.fros12 {t : TypeId} {w : World} {g : Nat} {cs : Array Value} (h : Bk t w g cs) : (w.frozen? ⟨g, 0, none⟩ = false ∧ w.frozen? ⟨g, 1, none⟩ = false ∧ w.frozen? ⟨g, 2, none⟩ = false ∧ w.frozen? ⟨g, 3, none⟩ = false) ∧ (w.frozen? ⟨g, 4, none⟩ = false ∧ w.frozen? ⟨g, 5, none⟩ = false ∧ w.frozen? ⟨g, 6, none⟩ = false ∧ w.frozen? ⟨g, 7, none⟩ = false) ∧ (w.frozen? ⟨g, 8, none⟩ = false ∧ w.frozen? ⟨g, 9, none⟩ = false ∧ w.frozen? ⟨g, 10, none⟩ = false ∧ w.frozen? ⟨g, 11, none⟩ = false) :=
  ⟨⟨h.fro 0, h.fro 1, h.fro 2, h.fro 3⟩, ⟨h.fro 4, h.fro 5, h.fro 6, h.fro 7⟩, ⟨h.fro 8, h.fro 9, h.fro 10, h.fro 11⟩⟩
theorem Bk.cellsA12 {t : TypeId} {w : World} {g : Nat} {c0 c1 c2 c3 c4 c5 c6 c7 c8 c9 c10 c11 : Value} (h : Bk t w g #[c0, c1, c2, c3, c4, c5, c6, c7, c8, c9, c10, c11]) : ((∀ o, (w.alloc o).cell? ⟨g, 0, none⟩ = some c0) ∧ (∀ o, (w.alloc o).cell? ⟨g, 1, none⟩ = some c1) ∧ (∀ o, (w.alloc o).cell? ⟨g, 2, none⟩ = some c2) ∧ (∀ o, (w.alloc o).cell? ⟨g, 3, none⟩ = some c3)) ∧ ((∀ o, (w.alloc o).cell? ⟨g, 4, none⟩ = some c4) ∧ (∀ o, (w.alloc o).cell? ⟨g, 5, none⟩ = some c5) ∧ (∀ o, (w.alloc o).cell? ⟨g, 6, none⟩ = some c6) ∧ (∀ o, (w.alloc o).cell? ⟨g, 7, none⟩ = some c7)) ∧ ((∀ o, (w.alloc o).cell? ⟨g, 8, none⟩ = some c8) ∧ (∀ o, (w.alloc o).cell? ⟨g, 9, none⟩ = some c9) ∧ (∀ o, (w.alloc o).cell? ⟨g, 10, none⟩ = some c10) ∧ (∀ o, (w.alloc o).cell? ⟨g, 11, none⟩ = some c11)) :=
  ⟨⟨fun _ => h.alloc.cell 0, fun _ => h.alloc.cell 1, fun _ => h.alloc.cell 2, fun _ => h.alloc.cell 3⟩, ⟨fun _ => h.alloc.cell 4, fun _ => h.alloc.cell 5, fun _ => h.alloc.cell 6, fun _ => h.alloc.cell 7⟩, ⟨fun _ => h.alloc.cell 8, fun _ => h.alloc.cell 9, fun _ => h.alloc.cell 10, fun _ => h.alloc.cell 11⟩⟩
theorem Bk.reg12 {t : TypeId} {w : World} {g : Nat} {c0 c1 c2 c3 c4 c5 c6 c7 c8 c9 c10 c11 : Value} (h : Bk t w g #[c0, c1, c2, c3, c4, c5, c6, c7, c8, c9, c10, c11]) : ((∀ d os, (grow (redrawn w d) os).cell? ⟨g, 0, none⟩ = some c0) ∧ (∀ d os, (grow (redrawn w d) os).cell? ⟨g, 1, none⟩ = some c1) ∧ (∀ d os, (grow (redrawn w d) os).cell? ⟨g, 2, none⟩ = some c2) ∧ (∀ d os, (grow (redrawn w d) os).cell? ⟨g, 3, none⟩ = some c3)) ∧ ((∀ d os, (grow (redrawn w d) os).cell? ⟨g, 4, none⟩ = some c4) ∧ (∀ d os, (grow (redrawn w d) os).cell? ⟨g, 5, none⟩ = some c5) ∧ (∀ d os, (grow (redrawn w d) os).cell? ⟨g, 6, none⟩ = some c6) ∧ (∀ d os, (grow (redrawn w d) os).cell? ⟨g, 7, none⟩ = some c7)) ∧ ((∀ d os, (grow (redrawn w d) os).cell? ⟨g, 8, none⟩ = some c8) ∧ (∀ d os, (grow (redrawn w d) os).cell? ⟨g, 9, none⟩ = some c9) ∧ (∀ d os, (grow (redrawn w d) os).cell? ⟨g, 10, none⟩ = some c10) ∧ (∀ d os, (grow (redrawn w d) os).cell? ⟨g, 11, none⟩ = some c11)) :=
  ⟨⟨fun d os => (h.regrown d os).cell 0, fun d os => (h.regrown d os).cell 1, fun d os => (h.regrown d os).cell 2, fun d os => (h.regrown d os).cell 3⟩, ⟨fun d os => (h.regrown d os).cell 4, fun d os => (h.regrown d os).cell 5, fun d os => (h.regrown d os).cell 6, fun d os => (h.regrown d os).cell 7⟩, ⟨fun d os => (h.regrown d os).cell 8, fun d os => (h.regrown d os).cell 9, fun d os => (h.regrown d os).cell 10, fun d os => (h.regrown d os).cell 11⟩⟩
theorem Bk.put12 {t : TypeId} {w : World} {g : Nat} {c0 c1 c2 c3 c4 c5 c6 c7 c8 c9 c10 c11 d0 d1 d2 d3 d4 d5 d6 d7 d8 d9 d10 d11 : Value} (h : Bk t w g #[c0, c1, c2, c3, c4, c5, c6, c7, c8, c9, c10, c11]) : Bk t ((((((((((((w.setCell ⟨g, 0, none⟩ d0).setCell ⟨g, 1, none⟩ d1).setCell ⟨g, 2, none⟩ d2).setCell ⟨g, 3, none⟩ d3).setCell ⟨g, 4, none⟩ d4).setCell ⟨g, 5, none⟩ d5).setCell ⟨g, 6, none⟩ d6).setCell ⟨g, 7, none⟩ d7).setCell ⟨g, 8, none⟩ d8).setCell ⟨g, 9, none⟩ d9).setCell ⟨g, 10, none⟩ d10).setCell ⟨g, 11, none⟩ d11) g #[d0, d1, d2, d3, d4, d5, d6, d7, d8, d9, d10, d11] := by
  have p := (Bk.same (i := 11) (v := d11) (Bk.same (i := 10) (v := d10) (Bk.same (i := 9) (v := d9) (Bk.same (i := 8) (v := d8) (Bk.same (i := 7) (v := d7) (Bk.same (i := 6) (v := d6) (Bk.same (i := 5) (v := d5) (Bk.same (i := 4) (v := d4) (Bk.same (i := 3) (v := d3) (Bk.same (i := 2) (v := d2) (Bk.same (i := 1) (v := d1) (Bk.same (i := 0) (v := d0) h))))))))))))
  simpa using p
theorem Bk.puto12 {t : TypeId} {w : World} {g h : Nat} {cs : Array Value} {d0 d1 d2 d3 d4 d5 d6 d7 d8 d9 d10 d11 : Value} (hn : g ≠ h) (k : Bk t w g cs) : Bk t ((((((((((((w.setCell ⟨h, 0, none⟩ d0).setCell ⟨h, 1, none⟩ d1).setCell ⟨h, 2, none⟩ d2).setCell ⟨h, 3, none⟩ d3).setCell ⟨h, 4, none⟩ d4).setCell ⟨h, 5, none⟩ d5).setCell ⟨h, 6, none⟩ d6).setCell ⟨h, 7, none⟩ d7).setCell ⟨h, 8, none⟩ d8).setCell ⟨h, 9, none⟩ d9).setCell ⟨h, 10, none⟩ d10).setCell ⟨h, 11, none⟩ d11) g cs :=
  (Bk.oth hn (Bk.oth hn (Bk.oth hn (Bk.oth hn (Bk.oth hn (Bk.oth hn (Bk.oth hn (Bk.oth hn (Bk.oth hn (Bk.oth hn (Bk.oth hn (Bk.oth hn k))))))))))))
theorem Bk.cells9 {t : TypeId} {w : World} {g : Nat} {c0 c1 c2 c3 c4 c5 c6 c7 c8 : Value} (h : Bk t w g #[c0, c1, c2, c3, c4, c5, c6, c7, c8]) : (w.cell? ⟨g, 0, none⟩ = some c0 ∧ w.cell? ⟨g, 1, none⟩ = some c1 ∧ w.cell? ⟨g, 2, none⟩ = some c2 ∧ w.cell? ⟨g, 3, none⟩ = some c3) ∧ (w.cell? ⟨g, 4, none⟩ = some c4 ∧ w.cell? ⟨g, 5, none⟩ = some c5 ∧ w.cell? ⟨g, 6, none⟩ = some c6 ∧ w.cell? ⟨g, 7, none⟩ = some c7) ∧ (w.cell? ⟨g, 8, none⟩ = some c8) :=
  ⟨⟨h.cell 0, h.cell 1, h.cell 2, h.cell 3⟩, ⟨h.cell 4, h.cell 5, h.cell 6, h.cell 7⟩, h.cell 8⟩
theorem Bk.fros9 {t : TypeId} {w : World} {g : Nat} {cs : Array Value} (h : Bk t w g cs) : (w.frozen? ⟨g, 0, none⟩ = false ∧ w.frozen? ⟨g, 1, none⟩ = false ∧ w.frozen? ⟨g, 2, none⟩ = false ∧ w.frozen? ⟨g, 3, none⟩ = false) ∧ (w.frozen? ⟨g, 4, none⟩ = false ∧ w.frozen? ⟨g, 5, none⟩ = false ∧ w.frozen? ⟨g, 6, none⟩ = false ∧ w.frozen? ⟨g, 7, none⟩ = false) ∧ (w.frozen? ⟨g, 8, none⟩ = false) :=
  ⟨⟨h.fro 0, h.fro 1, h.fro 2, h.fro 3⟩, ⟨h.fro 4, h.fro 5, h.fro 6, h.fro 7⟩, h.fro 8⟩
theorem Bk.cellsA9 {t : TypeId} {w : World} {g : Nat} {c0 c1 c2 c3 c4 c5 c6 c7 c8 : Value} (h : Bk t w g #[c0, c1, c2, c3, c4, c5, c6, c7, c8]) : ((∀ o, (w.alloc o).cell? ⟨g, 0, none⟩ = some c0) ∧ (∀ o, (w.alloc o).cell? ⟨g, 1, none⟩ = some c1) ∧ (∀ o, (w.alloc o).cell? ⟨g, 2, none⟩ = some c2) ∧ (∀ o, (w.alloc o).cell? ⟨g, 3, none⟩ = some c3)) ∧ ((∀ o, (w.alloc o).cell? ⟨g, 4, none⟩ = some c4) ∧ (∀ o, (w.alloc o).cell? ⟨g, 5, none⟩ = some c5) ∧ (∀ o, (w.alloc o).cell? ⟨g, 6, none⟩ = some c6) ∧ (∀ o, (w.alloc o).cell? ⟨g, 7, none⟩ = some c7)) ∧ ((∀ o, (w.alloc o).cell? ⟨g, 8, none⟩ = some c8)) :=
  ⟨⟨fun _ => h.alloc.cell 0, fun _ => h.alloc.cell 1, fun _ => h.alloc.cell 2, fun _ => h.alloc.cell 3⟩, ⟨fun _ => h.alloc.cell 4, fun _ => h.alloc.cell 5, fun _ => h.alloc.cell 6, fun _ => h.alloc.cell 7⟩, fun _ => h.alloc.cell 8⟩
theorem Bk.frosA9 {t : TypeId} {w : World} {g : Nat} {cs : Array Value} (h : Bk t w g cs) : ((∀ o, (w.alloc o).frozen? ⟨g, 0, none⟩ = false) ∧ (∀ o, (w.alloc o).frozen? ⟨g, 1, none⟩ = false) ∧ (∀ o, (w.alloc o).frozen? ⟨g, 2, none⟩ = false) ∧ (∀ o, (w.alloc o).frozen? ⟨g, 3, none⟩ = false)) ∧ ((∀ o, (w.alloc o).frozen? ⟨g, 4, none⟩ = false) ∧ (∀ o, (w.alloc o).frozen? ⟨g, 5, none⟩ = false) ∧ (∀ o, (w.alloc o).frozen? ⟨g, 6, none⟩ = false) ∧ (∀ o, (w.alloc o).frozen? ⟨g, 7, none⟩ = false)) ∧ ((∀ o, (w.alloc o).frozen? ⟨g, 8, none⟩ = false)) :=
  ⟨⟨fun _ => h.alloc.fro 0, fun _ => h.alloc.fro 1, fun _ => h.alloc.fro 2, fun _ => h.alloc.fro 3⟩, ⟨fun _ => h.alloc.fro 4, fun _ => h.alloc.fro 5, fun _ => h.alloc.fro 6, fun _ => h.alloc.fro 7⟩, fun _ => h.alloc.fro 8⟩
theorem Bk.reg9 {t : TypeId} {w : World} {g : Nat} {c0 c1 c2 c3 c4 c5 c6 c7 c8 : Value} (h : Bk t w g #[c0, c1, c2, c3, c4, c5, c6, c7, c8]) : ((∀ d os, (grow (redrawn w d) os).cell? ⟨g, 0, none⟩ = some c0) ∧ (∀ d os, (grow (redrawn w d) os).cell? ⟨g, 1, none⟩ = some c1) ∧ (∀ d os, (grow (redrawn w d) os).cell? ⟨g, 2, none⟩ = some c2) ∧ (∀ d os, (grow (redrawn w d) os).cell? ⟨g, 3, none⟩ = some c3)) ∧ ((∀ d os, (grow (redrawn w d) os).cell? ⟨g, 4, none⟩ = some c4) ∧ (∀ d os, (grow (redrawn w d) os).cell? ⟨g, 5, none⟩ = some c5) ∧ (∀ d os, (grow (redrawn w d) os).cell? ⟨g, 6, none⟩ = some c6) ∧ (∀ d os, (grow (redrawn w d) os).cell? ⟨g, 7, none⟩ = some c7)) ∧ ((∀ d os, (grow (redrawn w d) os).cell? ⟨g, 8, none⟩ = some c8)) :=
  ⟨⟨fun d os => (h.regrown d os).cell 0, fun d os => (h.regrown d os).cell 1, fun d os => (h.regrown d os).cell 2, fun d os => (h.regrown d os).cell 3⟩, ⟨fun d os => (h.regrown d os).cell 4, fun d os => (h.regrown d os).cell 5, fun d os => (h.regrown d os).cell 6, fun d os => (h.regrown d os).cell 7⟩, fun d os => (h.regrown d os).cell 8⟩
theorem Bk.put9 {t : TypeId} {w : World} {g : Nat} {c0 c1 c2 c3 c4 c5 c6 c7 c8 d0 d1 d2 d3 d4 d5 d6 d7 d8 : Value} (h : Bk t w g #[c0, c1, c2, c3, c4, c5, c6, c7, c8]) : Bk t (((((((((w.setCell ⟨g, 0, none⟩ d0).setCell ⟨g, 1, none⟩ d1).setCell ⟨g, 2, none⟩ d2).setCell ⟨g, 3, none⟩ d3).setCell ⟨g, 4, none⟩ d4).setCell ⟨g, 5, none⟩ d5).setCell ⟨g, 6, none⟩ d6).setCell ⟨g, 7, none⟩ d7).setCell ⟨g, 8, none⟩ d8) g #[d0, d1, d2, d3, d4, d5, d6, d7, d8] := by
  have p := (Bk.same (i := 8) (v := d8) (Bk.same (i := 7) (v := d7) (Bk.same (i := 6) (v := d6) (Bk.same (i := 5) (v := d5) (Bk.same (i := 4) (v := d4) (Bk.same (i := 3) (v := d3) (Bk.same (i := 2) (v := d2) (Bk.same (i := 1) (v := d1) (Bk.same (i := 0) (v := d0) h)))))))))
  simpa using p
def cs12 (x y z : Nat) : Array Value := #[.int .u64 (lb x 0 : Nat), .int .u64 (lb x 1 : Nat), .int .u64 (lb x 2 : Nat), .int .u64 (lb x 3 : Nat), .int .u64 (lb y 0 : Nat), .int .u64 (lb y 1 : Nat), .int .u64 (lb y 2 : Nat), .int .u64 (lb y 3 : Nat), .int .u64 (lb z 0 : Nat), .int .u64 (lb z 1 : Nat), .int .u64 (lb z 2 : Nat), .int .u64 (lb z 3 : Nat)]
def cs9 (x y : Nat) (i : Bool) : Array Value := #[.int .u64 (lb x 0 : Nat), .int .u64 (lb x 1 : Nat), .int .u64 (lb x 2 : Nat), .int .u64 (lb x 3 : Nat), .int .u64 (lb y 0 : Nat), .int .u64 (lb y 1 : Nat), .int .u64 (lb y 2 : Nat), .int .u64 (lb y 3 : Nat), .bool i]
theorem ret_cell93 {fn : Func} {R : Ending → World → Prop} {a : Act} {w : World} {p : Tmp} (h : fn.results = #[.cell p 162]) (g x y z : Nat) (hp : a.tmps.getD p undef = .pointer (some ⟨g, 0, none⟩)) (hk : Bk 162 w g (cs12 x y z)) (hd : a.defers = []) (hR : R (.returned (jn x y z)) w) : bodyPost Tryz.prog fn R .ret a w :=
  bodyPost_ret (v := jn x y z) (results_cell_row h a.tmps w g 162 (cs12 x y z) (0, 0) _ hp hk u93 rfl i93) hd hR
theorem ret_cell51 {fn : Func} {R : Ending → World → Prop} {a : Act} {w : World} {p : Tmp} (h : fn.results = #[.cell p 26]) (g x y : Nat) (i : Bool) (hp : a.tmps.getD p undef = .pointer (some ⟨g, 0, none⟩)) (hk : Bk 26 w g (cs9 x y i)) (hd : a.defers = []) (hR : R (.returned (pn x y i)) w) : bodyPost Tryz.prog fn R .ret a w :=
  bodyPost_ret (v := pn x y i) (results_cell_row h a.tmps w g 26 (cs9 x y i) (0, 0) _ hp hk u51 rfl i51) hd hR
theorem ret_cell51e {fn : Func} {R : Ending → World → Prop} {a : Act} {w : World} {p u : Tmp} (h : fn.results = #[.cell p 26, .tmp u]) (g x y : Nat) (i : Bool) (v : Value) (hp : a.tmps.getD p undef = .pointer (some ⟨g, 0, none⟩)) (hy : a.tmps.getD u undef = v) (hk : Bk 26 w g (cs9 x y i)) (hd : a.defers = []) (hR : R (.returned (.tuple #[pn x y i, v])) w) : bodyPost Tryz.prog fn R .ret a w := by
  subst hy
  refine bodyPost_ret (v := .tuple #[pn x y i, a.tmps.getD u undef]) ?_ hd hR
  rw [results_cell_tmp h, hp]
  show ((loadVar 26 ⟨g, 0, none⟩).run Tryz.prog w).andThen _ = _
  rw [run_loadVar_row w g 26 26 (cs9 x y i) (0, 0) _ hk u51 rfl i51]
  rfl
end Go.Proofs.YtpggkfdijmnmiaaGreat
