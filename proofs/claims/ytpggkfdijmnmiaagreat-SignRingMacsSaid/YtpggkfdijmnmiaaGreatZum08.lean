/- A ring in memory; what find and newest answer. Condition: the ring's keys. What NewRing and Mac answer. Condition: at most 2^47 - 4096 bytes. Rows of bytes of the call's own, and an append to one. No condition. What Turn answers and leaves. Condition: the ring; at most 2^47 - 4096 bytes. What Kids answers. Condition: the ring. What the document's own bit and Base64 answer. Condition: at most 20971 -/
import Derived.Deep.QuietTactic
import Derived.BigQuiet
import Derived.Test.YtpggkfdijmnmiaaGreatZum07
import Derived.Deep.AppendLies
import Derived.Laws.IdiomStrings
import Derived.Lib.BufferRead
import Derived.Test.YtpggkfdijmnmiaaGreatZum05
set_option linter.unusedVariables false
set_option linter.unusedSimpArgs false
set_option maxRecDepth 100000
namespace Go.Proofs.YtpggkfdijmnmiaaGreat
open Go.RowKit Limbs
def kpt (g : Nat) : Value := .pointer (some ⟨g, 0, none⟩)
def Rg (B : Nat) (w : World) (r : Nat) (ks : List (Nat × List UInt8)) : Prop :=
  ∃ a c, Bk 107 w r #[.slice (some ⟨a, 0, none⟩) ks.length c] ∧ w.ownsRow B 103 1 (.slice (some ⟨a, 0, none⟩) ks.length c) ks.length (ks.map fun k => kpt k.1) ∧ ∀ k ∈ ks, Bk 121 w k.1 (keyC k.2)
theorem own_below {B : Nat} {T : TypeId} {z n : Nat} {v : Value} {l : List Value} {w w' : World} (h : w.ownsRow B T z v n l) (hb : Below w.heap.size w w') : w'.ownsRow B T z v n l := by
  refine ⟨h.1, ?_⟩
  rcases h.2 with hn | ⟨g, cap, cur, hv, hg, hh, rest⟩
  · exact .inl hn
  · exact .inr ⟨g, cap, cur, hv, hg, (hb.block _ ((Array.getElem?_eq_some_iff.1 hh).1)).trans hh, rest⟩
theorem Rg.below {B : Nat} {w w' : World} {r : Nat} {ks : List (Nat × List UInt8)} (h : Rg B w r ks) (hb : Below w.heap.size w w') : Rg B w' r ks := by
  obtain ⟨a, c, h1, h2, h3⟩ := h
  exact ⟨a, c, h1.below hb, own_below h2 hb, fun k hk => (h3 k hk).below hb⟩
def findK : List (Nat × List UInt8) → List UInt8 → Option Nat
  | [], _ => none
  | k :: ks, n => if kidOf k.2 = n then some k.1 else findK ks n
def fV : Option Nat → Value
  | none => .pointer none
  | some g => kpt g
theorem findK_drop (n : List UInt8) : ∀ (ks : List (Nat × List UInt8)) (i : Nat), (∀ j (h : j < i) (h2 : j < ks.length), kidOf (ks[j]).2 ≠ n) → findK ks n = findK (ks.drop i) n
  | [], i, _ => by simp
  | k :: ks, 0, _ => rfl
  | k :: ks, i + 1, h => by
    have h0 := h 0 (by omega) (by simp)
    rw [findK, if_neg (show ¬ kidOf k.2 = n from h0), findK_drop n ks i (fun j hj h2 => h (j + 1) (by omega) (by simpa using h2))]
    rfl
set_option maxHeartbeats 8000000 in
theorem find_any {B : Nat} {w : World} {r : Nat} {ks : List (Nat × List UInt8)} (h : Rg B w r ks) (hl : ks.length ≤ 1000000) (n : List UInt8) : Calls Tryz.prog 75 #[kpt r, .string ⟨n.toArray⟩] w fun e w' => e = .returned (fV (findK ks n)) ∧ w = w' := by
  obtain ⟨a, c, h1, h2, h3⟩ := h
  have hc : w.cell? ⟨r, 0, none⟩ = some (.slice (some ⟨a, 0, none⟩) ks.length c) := h1.cell 0
  have HR := Lib.hid h2
  have HK := Lib.hid h3
  clear h1 h2 h3
  unfold kpt
  go_enter Tryz.func75, Tryz.ntmps75
  go_wp2_with fail
  go_loopw [12] (fun iv wr => ∃ i : Nat, i ≤ ks.length ∧ iv = .int .i64 (i : Int) ∧ wr = w ∧ ∀ j (h : j < i) (h2 : j < ks.length), kidOf (ks[j]).2 ≠ n) (fun iv _ => ks.length - (intOf iv).toNat)
  case atStart => exact ⟨0, Nat.zero_le _, rfl, rfl, fun j h => by omega⟩
  case round =>
    obtain ⟨i, hi, rfl, rfl, hne⟩ := hrel
    by_cases hlt : i < ks.length
    · obtain ⟨k, hk⟩ : ∃ k, ks[i]'hlt = k := ⟨_, rfl⟩
      have hkm : k ∈ ks := hk ▸ List.getElem_mem hlt
      have K1 := HK.out k hkm
      have c1 := K1.cell 1
      unfold keyC at c1
      simp only [List.getElem?_toArray, List.getElem?_cons_succ, List.getElem?_cons_zero] at c1
      have c0 : wr.cell? ⟨a, i, none⟩ = some (.pointer (some ⟨k.1, 0, none⟩)) := by
        have := HR.out.cells (g := a) rfl i (kpt k.1) (by rw [List.getElem?_map, List.getElem?_eq_getElem hlt, hk]; rfl)
        by_cases h0 : i = 0
        · subst h0; simpa [Addr.add, kpt] using this
        · simpa [Addr.add, h0, kpt] using this
      have hltI : (i : Int) < (ks.length : Int) := by omega
      have HNE := Lib.hid hne
      have HKI := Lib.hid hk
      clear hne hk K1
      by_cases hq : kidOf k.2 = n
      · have hb : (kidOf k.2 == n) = true := by simp [hq]
        have HF : Hid (findK ks n = some k.1) := Lib.hid (by rw [findK_drop n ks i HNE.out, List.drop_eq_getElem_cons hlt, HKI.out, findK, if_pos hq])
        clear hq
        go_wp2_with fail
        go_returns
        rw [HF.out]
        exact ⟨rfl, rfl⟩
      · have hb : (kidOf k.2 == n) = false := by simp [hq]
        have HQ := Lib.hid hq
        clear hq
        go_wp2_with fail
        go_roundw
        case rel => exact ⟨i + 1, by omega, by go_num, trivial, fun j hj h2 => by
          rcases Nat.lt_succ_iff_lt_or_eq.1 hj with h1 | rfl
          · exact HNE.out j h1 h2
          · rw [HKI.out]; exact HQ.out⟩
        case measure => simp [intOf]; omega
    · have hie : i = ks.length := by omega
      have hltI : decide ((i : Int) < (ks.length : Int)) = false := decide_eq_false (by omega)
      have HF : Hid (findK ks n = none) := Lib.hid (by rw [findK_drop n ks i hne, hie, List.drop_length]; rfl)
      clear hne
      go_wp2_with fail
      go_returns
      rw [HF.out]
      exact ⟨rfl, rfl⟩
theorem Rg.last {B : Nat} {w : World} {r : Nat} {ks : List (Nat × List UInt8)} {k : Nat × List UInt8} (h : Rg B w r (ks ++ [k])) : ∃ a c, w.cell? ⟨r, 0, none⟩ = some (.slice (some ⟨a, 0, none⟩) (ks.length + 1) c) ∧ w.cell? ⟨a, ks.length, none⟩ = some (.pointer (some ⟨k.1, 0, none⟩)) := by
  obtain ⟨a, c, h1, h2, h3⟩ := h
  rw [List.length_append] at h1 h2
  refine ⟨a, c, h1.cell 0, ?_⟩
  have := h2.cells (g := a) rfl ks.length (kpt k.1) (by simp)
  by_cases h0 : ks.length = 0
  · rw [h0] at this ⊢; simpa [Addr.add, kpt] using this
  · simpa [Addr.add, h0, kpt] using this
set_option maxHeartbeats 8000000 in
theorem newest_any {B : Nat} {w : World} {r : Nat} {ks : List (Nat × List UInt8)} {k : Nat × List UInt8} (h : Rg B w r (ks ++ [k])) (hl : ks.length ≤ 1000000) : Calls Tryz.prog 78 #[kpt r] w fun e w' => e = .returned (kpt k.1) ∧ Below w.heap.size w w' := by
  obtain ⟨a, c, c0, c1⟩ := h.last
  clear h
  generalize ks.length = m at *
  have hi1 : (m : Int) < ((m : Int) + 1) := by omega
  have hw : IntKind.i64.wrap ((m : Int) + 1 - 1) = (m : Int) := by rw [show (m : Int) + 1 - 1 = (m : Int) by omega]; exact IntWalk.i64_in _ (by omega)
  unfold kpt
  go_enter Tryz.func78, Tryz.ntmps78
  go_wp2_with fail
  go_quiet (fail)
  go_wp2_with fail
  go_returns
  exact ⟨rfl, rfl, rfl, rfl, Nat.le_refl _, fun _ _ => rfl⟩
end Go.Proofs.YtpggkfdijmnmiaaGreat
namespace Go.Proofs.YtpggkfdijmnmiaaGreat
open Go.RowKit Limbs
set_option maxHeartbeats 8000000 in
theorem newRing_any (s : List UInt8) (hs : s.length ≤ 140737488351232) (w : World) : Calls Tryz.prog 21 #[.string ⟨s.toArray⟩] w fun e w' => ∃ r g, e = .returned (kpt r) ∧ Rg w.heap.size w' r [(g, s)] ∧ Below w.heap.size w w' ∧ w.heap.size ≤ r := by
  have HK := Lib.hid (newKey_any s hs w)
  clear hs
  go_enter Tryz.func21, Tryz.ntmps21
  go_wp2_with fail
  refine HK.out.mono ?_
  rintro e w1 ⟨g, rfl, hg, hk, hb⟩
  clear HK
  go_wp2_with fail
  go_returns
  have hbn : Below w1.heap.size w1 ((w1.alloc (.cells #[.pointer (some ⟨g, 0, none⟩)] 103)).alloc (.cells #[.slice (some ⟨w1.heap.size, 0, none⟩) 1 1] 107)) := by go_grown
  refine ⟨_, g, rfl, ⟨w1.heap.size, 1, Bk.new (by simp), ⟨rfl, .inr ⟨w1.heap.size, 1, #[.pointer (some ⟨g, 0, none⟩)], rfl, hb.size, Bk.alloc (Bk.new rfl), by simp, by unfold maxLen; omega, rfl, rfl⟩⟩, fun k hk2 => ?_⟩, hb.trans (hbn.mono hb.size), by have := hb.size; omega⟩
  rw [List.mem_singleton] at hk2
  subst hk2
  exact hk.below hbn
set_option maxHeartbeats 8000000 in
theorem rmac_any {B : Nat} {w : World} {r : Nat} {ks : List (Nat × List UInt8)} {k : Nat × List UInt8} (h : Rg B w r (ks ++ [k])) (hl : ks.length ≤ 1000000) (hk : k.2.length ≤ 140737488351232) (s : List UInt8) (hs : s.length ≤ 140737488351232) : Calls Tryz.prog 24 #[kpt r, .string ⟨s.toArray⟩] w fun e w' => e = .returned (.tuple #[.string ⟨(kidOf k.2).toArray⟩, .string ⟨(Hs.macL (macOf k.2) s).toArray⟩]) ∧ Below w.heap.size w w' := by
  have HN := Lib.hid (newest_any h hl)
  obtain ⟨a, c, h1, h2, h3⟩ := h
  have K1 := Lib.hid (h3 k (by simp))
  have hkl : (kidOf k.2).length ≤ 281474976710656 := by
    unfold kidOf
    have := Hs.enc_len ((Hs.macL [107, 105, 100] k.2).take 9) 0 0 (by decide)
    have h9 : ((Hs.macL [107, 105, 100] k.2).take 9).length ≤ 9 := by simp; omega
    unfold Hs.b64L
    omega
  have HC := Lib.hid (fun w => sclone_any (kidOf k.2) w hkl)
  have hml : (macOf k.2).length = 32 := macL_len _ _
  have HM := Lib.hid (fun w => Hs.Mac_any (macOf k.2) s (by omega) (by omega) w)
  clear h1 h2 h3 hkl hml hk hs
  unfold kpt at HN ⊢
  go_enter Tryz.func24, Tryz.ntmps24
  go_wp2_with fail
  refine HN.out.mono ?_
  rintro e w1 ⟨rfl, hb1⟩
  have K2 := K1.out.below hb1
  obtain ⟨g, sd⟩ := k
  have c1 := fun d os => (K2.regrown d os).cell 1
  have c2 := fun d os => (K2.regrown d os).cell 2
  unfold keyC at c1 c2
  simp only [List.getElem?_toArray, List.getElem?_cons_succ, List.getElem?_cons_zero] at c1 c2
  simp only at HC HM c1 c2 ⊢
  go_wp2_with fail
  refine wp_region_quiet_below mixed (by kernel_rfl) ?_
  repeat (first | go_big_quiet_step (first | exact qg HC.out | exact qg HM.out) | quiet_step (first | exact qg HC.out | exact qg HM.out))
  refine wpQuiet_nil ?_
  intro _ hw'
  obtain ⟨⟨dq, osq⟩, hw''⟩ := hw'
  subst hw''
  go_wp2_with fail
  go_returns
  exact ⟨rfl, hb1.trans ((below_regrown w1 dq osq).mono hb1.size)⟩
end Go.Proofs.YtpggkfdijmnmiaaGreat
namespace Go.Proofs.YtpggkfdijmnmiaaGreat.Hs
open Go.RowKit
def Rw (B : Nat) (v : Value) (l : List UInt8) (w : World) : Prop := w.ownsRow B 5 1 v l.length (Lib.byteCells l)
theorem Rw.snoc {B : Nat} {v : Value} {l : List UInt8} {w : World} {c : UInt8} (h : w.ownsRow B 5 1 v (l.length + 1) (Lib.byteCells l ++ [.int .u8 c.toNat])) : Rw B v (l ++ [c]) w := by
  unfold Rw
  rw [← byteCells_snoc]
  simpa using h
theorem Rw.conv {B : Nat} {v : Value} {l : List UInt8} {w : World} (h : Rw B v l w) : (convert 101 9 v).run Tryz.prog w = .ok (.string ⟨l.toArray⟩) w := by
  rcases h.2 with ⟨rfl, h0⟩ | ⟨g, cap, cur, rfl, hg, hh, _⟩
  · have : l = [] := List.eq_nil_of_length_eq_zero h0
    subst this
    exact Lib.run_convert_nil_bytes w 101 9 5 _ Tryz.underlying101 Tryz.underlying5 Tryz.underlying9
  · refine run_convert_bytes_back w 101 9 5 _ cap l Tryz.underlying101 Tryz.underlying5 Tryz.underlying9 (fun j hj => ?_)
    exact World.ownsRow.cells h (g := g) rfl j _ (by simp [Lib.byteCells, hj])
theorem Rw.start (w : World) : Rw w.heap.size (.slice (some ⟨w.heap.size, 0, none⟩) 0 0) [] (w.alloc (.cells #[] 5)) :=
  ⟨rfl, .inr ⟨w.heap.size, 0, #[], rfl, Nat.le_refl _, heap_alloc_new w _, Nat.le_refl _, Nat.zero_le _, rfl, rfl⟩⟩
theorem Rw.drewN {B : Nat} {v : Value} {l : List UInt8} {w : World} (h : Rw B v l w) (n : Nat) : Rw B v l (w.drewN n) := h
theorem Rw.drew {B : Nat} {v : Value} {l : List UInt8} {w : World} (h : Rw B v l w) : Rw B v l w.drew := h
theorem Rw.below {B : Nat} {v : Value} {l : List UInt8} {w w' : World} (h : Rw B v l w) (hb : Below w.heap.size w w') : Rw B v l w' := by
  refine ⟨h.1, ?_⟩
  rcases h.2 with hn | ⟨g, cap, cur, hv, hg, hh, rest⟩
  · exact .inl hn
  · exact .inr ⟨g, cap, cur, hv, hg, (hb.block _ (blk_lt hh)).trans hh, rest⟩
theorem Rw.alloc {B : Nat} {v : Value} {l : List UInt8} {w : World} (h : Rw B v l w) (o : Obj) : Rw B v l (w.alloc o) := h.below ((Below.refl _ _).alloc (Nat.le_refl _) o)
theorem Rw.grown {B : Nat} {v : Value} {l : List UInt8} {w w' W : World} (h : Rw B v l w) (hb : Below B W w) (hg : w.grownBy w' v.ownBlock) (hB : B ≤ W.heap.size) : Below B W w' :=
  hb.grown hg (by have := hb.size; omega) (fun g hk => (World.ownsRow.lt h g hk).1)
theorem app1 {ops : Array Oper} {rest : List Oper} {o : Oper} {a : Act} {Q : Exit → Act → World → Prop} {w W : World} {B : Nat} {v : Value} {l : List UInt8} (n : Int) (c : UInt8) (hn : n = (c.toNat : Int)) (s x : Operand) (hgd : o.guard = none)
    (ho : o.op = .call { callee := .builtin .append, args := #[s, x], argTypes := #[101, 101] }) (hs : a.eval s = v) (hx : a.eval x = .slice (some ⟨w.heap.size, 0, none⟩) 1 1)
    (hI : Rw B v l w) (hb : Below B W w) (hB : B ≤ W.heap.size) (hlen : l.length ≤ 281474976710)
    (h : ∀ v' w', Rw B v' (l ++ [c]) w' → Below B W w' → wpList Tryz.prog ops Q rest (a.put o.dst v') w') : wpList Tryz.prog ops Q (o :: rest) a (w.alloc (.cells #[.int .u8 n] 5)) := by
  subst hn
  obtain ⟨i0, hi, hz0, hz1, hz2⟩ := info_parts infoByte
  have hI' := hI.alloc (.cells #[.int .u8 (c.toNat : Int)] 5)
  have hsz := hb.size
  refine wpList_append_own _ hgd s x 101 ho B 5 i0 (.int .u8 0) 1 1 Tryz.underlying101 hi hz0 hz1 hz2 rfl (by decide) v l.length _ hs hI' ⟨w.heap.size, 0, none⟩ 1 1 [.int .u8 c.toNat] hx rfl (World.news_of_block (heap_alloc_new w _)) (by simp [Value.oneCell']) (by unfold maxLen; omega) (by omega) (by simp; omega) ?_
  intro v' w' h1 h2 _
  exact h v' w' (Rw.snoc h1) (hI'.grown (hb.alloc (by omega) _) h2 hB)
end Go.Proofs.YtpggkfdijmnmiaaGreat.Hs
namespace Go.Proofs.YtpggkfdijmnmiaaGreat
open Go.RowKit Limbs
theorem infoKey : (Tryz.prog.info? 103).map (fun i => (i.zero, i.size, i.bytes)) = some (some (.pointer none), 1, 8) := by kernel_rfl
theorem appk {ops : Array Oper} {rest : List Oper} {o : Oper} {a : Act} {Q : Exit → Act → World → Prop} {w : World} {B : Nat} {v : Value} {n : Nat} {l : List Value} (g : Nat) (s x : Operand) (hgd : o.guard = none)
    (ho : o.op = .call { callee := .builtin .append, args := #[s, x], argTypes := #[105, 105] }) (hs : a.eval s = v) (hx : a.eval x = .slice (some ⟨w.heap.size, 0, none⟩) 1 1)
    (hI : w.ownsRow B 103 1 v n l) (hB : B ≤ w.heap.size) (hlen : n ≤ 1000000)
    (h : ∀ v' w', w'.ownsRow B 103 1 v' (n + 1) (l ++ [kpt g]) → (w.alloc (.cells #[kpt g] 103)).grownBy w' v.ownBlock → wpList Tryz.prog ops Q rest (a.put o.dst v') w') : wpList Tryz.prog ops Q (o :: rest) a (w.alloc (.cells #[kpt g] 103)) := by
  obtain ⟨i0, hi, hz0, hz1, hz2⟩ := info_parts infoKey
  refine wpList_append_own _ hgd s x 105 ho B 103 i0 (.pointer none) 1 8 Tryz.underlying105 hi hz0 hz1 hz2 rfl (by decide) v n _ hs (hI.alloc _) ⟨w.heap.size, 0, none⟩ 1 1 [kpt g] hx rfl (World.news_of_block (heap_alloc_new w _)) (by simp [Value.oneCell', kpt]) (by unfold maxLen; omega) (by omega) (by simp; omega) ?_
  intro v' w' h1 h2 _
  exact h v' w' h1 h2
theorem bk_ne {t u : TypeId} {w : World} {g h : Nat} {cs ds : Array Value} (a : Bk t w g cs) (b : Bk u w h ds) (hn : t ≠ u) : g ≠ h := fun e => by
  subst e
  have h2 := a.symm.trans b
  injection h2 with h3
  injection h3 with h4 h5
  exact hn h5
theorem own_slice {B n : Nat} {w : World} {v : Value} {l : List Value} {T : TypeId} {z : Nat} (h : w.ownsRow B T z v (n + 1) l) : ∃ a c, v = .slice (some ⟨a, 0, none⟩) (n + 1) c := by
  rcases h.2 with ⟨_, h0⟩ | ⟨g', cap, cur', hx, _⟩
  · omega
  · exact ⟨g', cap, hx⟩
theorem ring_keep {B : Nat} {w w2 : World} {r g a n c : Nat} {l : List Value} {v : Value} (h1 : Bk 107 w r #[v]) (h2 : w.ownsRow B 103 1 (.slice (some ⟨a, 0, none⟩) n c) n l) (hG : (w.alloc (.cells #[kpt g] 103)).grownBy w2 (some a)) : Bk 107 w2 r #[v] := by
  have ha : ∃ cur, Bk 103 w a cur := by
    rcases h2.2 with ⟨hx, _⟩ | ⟨g', cap, cur, hx, _, hh, _⟩
    · cases hx
    · cases hx
      exact ⟨cur, hh⟩
  obtain ⟨cur, ha⟩ := ha
  have hne := bk_ne h1 ha (by decide)
  have h' : Bk 107 (w.alloc (.cells #[kpt g] 103)) r #[v] := Bk.alloc h1
  exact (hG.block r (by have := (Array.getElem?_eq_some_iff.1 h1).1; simp; omega) (fun e => hne (by injection e))).trans h'
theorem Rg.push {B : Nat} {w w2 : World} {r g a c : Nat} {ks : List (Nat × List UInt8)} {s : List UInt8} {v' : Value} (h1 : Bk 107 w r #[.slice (some ⟨a, 0, none⟩) ks.length c]) (h2 : w.ownsRow B 103 1 (.slice (some ⟨a, 0, none⟩) ks.length c) ks.length (ks.map fun k => kpt k.1)) (h3 : ∀ k ∈ ks, Bk 121 w k.1 (keyC k.2)) (hg : Bk 121 w g (keyC s))
    (hv : w2.ownsRow B 103 1 v' (ks.length + 1) ((ks.map fun k => kpt k.1) ++ [kpt g])) (hG : (w.alloc (.cells #[kpt g] 103)).grownBy w2 (some a)) (hr : B ≤ r) :
    Rg B (w2.setCell ⟨r, 0, none⟩ v') r (ks ++ [(g, s)]) := by
  have ha : ∃ cur, Bk 103 w a cur := by
    rcases h2.2 with ⟨hx, _⟩ | ⟨g', cap, cur, hx, _, hh, _⟩
    · cases hx
    · cases hx
      exact ⟨cur, hh⟩
  obtain ⟨cur, ha⟩ := ha
  have hlt : ∀ {t : TypeId} {x : Nat} {cs : Array Value}, Bk t w x cs → x < (w.alloc (.cells #[kpt g] 103)).heap.size := fun h => by
    have := (Array.getElem?_eq_some_iff.1 h).1
    simp; omega
  have keep2 : ∀ {t : TypeId} {x : Nat} {cs : Array Value}, Bk t w x cs → x ≠ a → Bk t w2 x cs := fun {t x cs} h hne => by
    have h' : Bk t (w.alloc (.cells #[kpt g] 103)) x cs := Bk.alloc h
    exact (hG.block x (hlt h) (fun e => hne (by injection e))).trans h'
  have hR := keep2 h1 (bk_ne h1 ha (by decide))
  obtain ⟨a', c', rfl⟩ : ∃ a' c', v' = .slice (some ⟨a', 0, none⟩) (ks.length + 1) c' := by
    rcases hv.2 with ⟨_, h0⟩ | ⟨g', cap, cur', hx, _⟩
    · omega
    · exact ⟨g', cap, hx⟩
  have ha' : ∃ cur', Bk 103 w2 a' cur' := by
    rcases hv.2 with ⟨hx, _⟩ | ⟨g', cap, cur', hx, _, hh, _⟩
    · cases hx
    · cases hx
      exact ⟨cur', hh⟩
  obtain ⟨cur', ha'⟩ := ha'
  have hne : r ≠ a' := bk_ne hR ha' (by decide)
  refine ⟨a', c', ?_, ?_, fun k hk => ?_⟩
  · have := Bk.same (i := 0) (v := .slice (some ⟨a', 0, none⟩) (ks.length + 1) c') hR
    simpa using this
  · rw [List.length_append, List.map_append]
    refine ⟨hv.1, ?_⟩
    rcases hv.2 with ⟨hx, _⟩ | ⟨g', cap, cur2, hx, hb, hh, rest⟩
    · cases hx
    · cases hx
      exact .inr ⟨_, _, cur2, rfl, hb, (heap_setCell_other w2 _ a' _ (by simpa using Ne.symm hne)).trans hh, rest⟩
  · rw [List.mem_append, List.mem_singleton] at hk
    rcases hk with hk | rfl
    · exact Bk.oth (by simpa using bk_ne (h3 k hk) h1 (by decide)) (keep2 (h3 k hk) (bk_ne (h3 k hk) ha (by decide)))
    · exact Bk.oth (by simpa using bk_ne hg h1 (by decide)) (keep2 hg (bk_ne hg ha (by decide)))
set_option maxHeartbeats 8000000 in
theorem turn_there {B : Nat} {w : World} {r : Nat} {ks : List (Nat × List UInt8)} (h : Rg B w r ks) (hl : ks.length ≤ 1000000) (s : List UInt8) (hs : s.length ≤ 140737488351232) (x : Nat) (hf : findK ks (kidOf s) = some x) : Calls Tryz.prog 22 #[kpt r, .string ⟨s.toArray⟩] w fun e w' => e = .returned (.int .i64 80) ∧ Below w.heap.size w w' := by
  have HK := Lib.hid (newKey_any s hs w)
  have H := Lib.hid h
  have HF := Lib.hid hf
  clear h hf hs
  unfold kpt
  go_enter Tryz.func22, Tryz.ntmps22
  go_wp2_with fail
  refine HK.out.mono ?_
  rintro e w1 ⟨g, rfl, hg, hk, hb⟩
  have hfi := find_any (H.out.below hb) hl (kidOf s)
  rw [HF.out] at hfi
  unfold kpt fV at hfi
  have c1 := hk.cell 1
  unfold keyC at c1
  simp only [List.getElem?_toArray, List.getElem?_cons_succ, List.getElem?_cons_zero] at c1
  have HFI := Lib.hid hfi
  clear hfi hk HK
  go_wp2_with fail
  refine HFI.out.mono ?_
  rintro e w2 ⟨rfl, rfl⟩
  unfold kpt
  go_wp2_with fail
  go_returns
  exact ⟨rfl, hb⟩
set_option maxHeartbeats 8000000 in
theorem turn_new {B : Nat} {w : World} {r : Nat} {ks : List (Nat × List UInt8)} (h : Rg B w r ks) (hB : B ≤ w.heap.size) (hr : B ≤ r) (hl : ks.length < 8) (s : List UInt8) (hs : s.length ≤ 140737488351232) (hf : findK ks (kidOf s) = none) : Calls Tryz.prog 22 #[kpt r, .string ⟨s.toArray⟩] w fun e w' => e = .returned (.int .i64 0) ∧ ∃ g, Rg B w' r (ks ++ [(g, s)]) ∧ Below B w w' := by
  have HK := Lib.hid (newKey_any s hs w)
  have H := Lib.hid h
  have HF := Lib.hid hf
  have HBR := Lib.hid (And.intro hB hr)
  clear h hf hs hB hr
  unfold kpt
  go_enter Tryz.func22, Tryz.ntmps22
  go_wp2_with fail
  refine HK.out.mono ?_
  rintro e w1 ⟨g, rfl, hg, hk, hb⟩
  have H1 := H.out.below hb
  have hfi := find_any H1 (by omega) (kidOf s)
  rw [HF.out] at hfi
  unfold kpt fV at hfi
  have c1 := hk.cell 1
  unfold keyC at c1
  simp only [List.getElem?_toArray, List.getElem?_cons_succ, List.getElem?_cons_zero] at c1
  have HFI := Lib.hid hfi
  have HKK := Lib.hid hk
  obtain ⟨a, c, h1, h2, h3⟩ := H1
  have HH := Lib.hid (And.intro h1 (And.intro h2 h3))
  have c0 : w1.cell? ⟨r, 0, none⟩ = some (.slice (some ⟨a, 0, none⟩) ks.length c) := h1.cell 0
  have h8 : ((ks.length : Int) == 8) = false := by simp; omega
  clear hfi hk HK H h1 h2 h3
  go_wp2_with fail
  refine HFI.out.mono ?_
  rintro e w2 ⟨rfl, rfl⟩
  go_wp2_with (at_builtin; refine appk g _ _ rfl rfl rfl rfl HH.out.2.1 (Nat.le_trans HBR.out.1 hb.size) (by omega) ?_; intro v' w3 hv hG; obtain ⟨a2, c2, hv2⟩ := own_slice hv; subst hv2; have hr3 := ring_keep HH.out.1 HH.out.2.1 hG; have d0 := hr3.cell 0; have f0 := hr3.fro 0; have HV := Lib.hid hv; have HG := Lib.hid hG; clear hv hG hr3 c0 c1)
  go_returns
  refine ⟨rfl, g, Rg.push HH.out.1 HH.out.2.1 HH.out.2.2 HKK.out HV.out HG.out HBR.out.2, ?_⟩
  have hb3 : Below B w w3 := ((hb.mono HBR.out.1).alloc (Nat.le_trans HBR.out.1 hb.size) _).grown HG.out (by have := hb.size; have := HBR.out.1; simp; omega) (fun q hq => (World.ownsRow.lt HH.out.2.1 q hq).1)
  exact hb3.setCell (p := ⟨r, 0, none⟩) HBR.out.2 _
end Go.Proofs.YtpggkfdijmnmiaaGreat
namespace Go.Proofs.YtpggkfdijmnmiaaGreat
open Go.RowKit Limbs
theorem infoStr : (Tryz.prog.info? 9).map (fun i => (i.zero, i.size, i.bytes)) = some (some (.string ⟨#[]⟩), 1, 16) := by kernel_rfl
theorem apps {ops : Array Oper} {rest : List Oper} {o : Oper} {a : Act} {Q : Exit → Act → World → Prop} {w : World} {B : Nat} {v : Value} {n : Nat} {l : List Value} (b : ByteArray) (s x : Operand) (hgd : o.guard = none)
    (ho : o.op = .call { callee := .builtin .append, args := #[s, x], argTypes := #[44, 44] }) (hs : a.eval s = v) (hx : a.eval x = .slice (some ⟨w.heap.size, 0, none⟩) 1 1)
    (hI : w.ownsRow B 9 1 v n l) (hB : B ≤ w.heap.size) (hlen : n ≤ 1000000)
    (h : ∀ v' w', w'.ownsRow B 9 1 v' (n + 1) (l ++ [.string b]) → (w.alloc (.cells #[.string b] 9)).grownBy w' v.ownBlock → wpList Tryz.prog ops Q rest (a.put o.dst v') w') : wpList Tryz.prog ops Q (o :: rest) a (w.alloc (.cells #[.string b] 9)) := by
  obtain ⟨i0, hi, hz0, hz1, hz2⟩ := info_parts infoStr
  refine wpList_append_own _ hgd s x 44 ho B 9 i0 (.string ⟨#[]⟩) 1 16 Tryz.underlying44 hi hz0 hz1 hz2 rfl (by decide) v n _ hs (hI.alloc _) ⟨w.heap.size, 0, none⟩ 1 1 [.string b] hx rfl (World.news_of_block (heap_alloc_new w _)) (by simp [Value.oneCell']) (by unfold maxLen; omega) (by omega) (by simp; omega) ?_
  intro v' w' h1 h2 _
  exact h v' w' h1 h2
set_option maxHeartbeats 8000000 in
theorem kid_any {w : World} {g : Nat} {s : List UInt8} (h : Bk 121 w g (keyC s)) : Calls Tryz.prog 85 #[kpt g] w fun e w' => e = .returned (.string ⟨(kidOf s).toArray⟩) ∧ w = w' := by
  have c1 := h.cell 1
  unfold keyC at c1
  simp only [List.getElem?_toArray, List.getElem?_cons_succ, List.getElem?_cons_zero] at c1
  unfold kpt
  go_enter Tryz.func85, Tryz.ntmps85
  go_wp2_with fail
  go_returns
  exact ⟨rfl, rfl⟩
def kidV (k : Nat × List UInt8) : Value := .string ⟨(kidOf k.2).toArray⟩
theorem kidOf_len (s : List UInt8) : (kidOf s).length ≤ 281474976710656 := by
  unfold kidOf
  have := Hs.enc_len ((Hs.macL [107, 105, 100] s).take 9) 0 0 (by decide)
  have h9 : ((Hs.macL [107, 105, 100] s).take 9).length ≤ 9 := by simp; omega
  unfold Hs.b64L
  omega
set_option maxHeartbeats 16000000 in
theorem each_any {B : Nat} {w : World} {r : Nat} {ks : List (Nat × List UInt8)} (h : Rg B w r ks) (hl : ks.length ≤ 8) (hn : ks ≠ []) : Calls Tryz.prog 84 #[kpt r, .func (.func 85) #[] #[]] w fun e w' => ∃ v, e = .returned v ∧ w'.ownsRow w.heap.size 9 1 v ks.length (ks.map kidV) ∧ Below w.heap.size w w' := by
  obtain ⟨a, c, h1, h2, h3⟩ := h
  have hc : w.cell? ⟨r, 0, none⟩ = some (.slice (some ⟨a, 0, none⟩) ks.length c) := h1.cell 0
  have HH := Lib.hid (And.intro h1 (And.intro h2 h3))
  clear h1 h2 h3
  have hpos : 0 < ks.length := List.length_pos_iff.2 hn
  obtain ⟨i0, hi, hz0, hz1, hz2⟩ := info_parts infoStr
  obtain ⟨wm, hmk, hown, hgr⟩ := run_makeSlice_owned (P := Tryz.prog) (w := w) w.heap.size 44 9 i0 (.string ⟨#[]⟩) 1 Tryz.underlying44 hi hz0 hz1 .i64 .i64 ks.length (by omega) (by rw [hz2]; omega) (by unfold maxLen; omega) (Nat.le_refl _)
  have hbm : Below w.heap.size w wm := ⟨hgr.os, hgr.tape, hgr.output, hgr.size, fun k hk => hgr.block k hk (fun e => by cases e)⟩
  have HM := Lib.hid (And.intro hown hbm)
  have hc2 : wm.cell? ⟨r, 0, none⟩ = some (.slice (some ⟨a, 0, none⟩) ks.length c) := (HH.out.1.below hbm).cell 0
  clear hi hz0 hz1 hz2 hown hgr hbm hpos
  unfold kpt
  go_enter Tryz.func84, Tryz.ntmps84
  go_wp2_with fail
  clear hmk hc
  go_loopw [5, 19] (fun sv iv wr => ∃ i : Nat, i ≤ ks.length ∧ iv = .int .i64 (i : Int) ∧ Hid (wr.ownsRow w.heap.size 9 1 sv i ((ks.take i).map kidV)) ∧ Hid (Below w.heap.size w wr)) (fun _ iv _ => ks.length - (intOf iv).toNat)
  case atStart => exact ⟨0, Nat.zero_le _, rfl, Lib.hid HM.out.1, Lib.hid HM.out.2⟩
  case round =>
    obtain ⟨i, hi, rfl, ho, hb⟩ := hrel
    clear hc2
    by_cases hlt : i < ks.length
    · obtain ⟨k, hk⟩ : ∃ k, ks[i]'hlt = k := ⟨_, rfl⟩
      have hkm : k ∈ ks := hk ▸ List.getElem_mem hlt
      have K1 := (HH.out.2.2 k hkm).below hb.out
      have c0 : wr.cell? ⟨a, i, none⟩ = some (.pointer (some ⟨k.1, 0, none⟩)) := by
        have := (own_below HH.out.2.1 hb.out).cells (g := a) rfl i (kpt k.1) (by rw [List.getElem?_map, List.getElem?_eq_getElem hlt, hk]; rfl)
        by_cases h0 : i = 0
        · subst h0; simpa [Addr.add, kpt] using this
        · simpa [Addr.add, h0, kpt] using this
      have hltI : (i : Int) < (ks.length : Int) := by omega
      have hkid := kid_any K1
      unfold kpt at hkid
      have HKD := Lib.hid hkid
      have HT : Hid ((ks.take (i + 1)).map kidV = (ks.take i).map kidV ++ [.string ⟨(kidOf k.2).toArray⟩]) := Lib.hid (by rw [List.take_add_one, List.getElem?_eq_getElem hlt, hk]; simp [kidV])
      clear hkid K1 hk hkm
      go_wp2_with fail
      refine HKD.out.mono ?_
      rintro e w1 ⟨rfl, rfl⟩
      go_wp2_with fail
      refine (sclone_any (kidOf k.2) _ (kidOf_len _)).mono ?_
      rintro e w2 ⟨rfl, hb2⟩
      have hb3 := hb.out.trans (hb2.mono hb.out.size)
      have ho2 := own_below ho.out hb2
      go_wp2_with (at_builtin; refine apps _ _ _ rfl rfl rfl rfl ho2 hb3.size (by omega) ?_; intro v' w3 hv hG; obtain ⟨a2, c2, hv2⟩ := own_slice hv; subst hv2; have HV := Lib.hid hv; have HG := Lib.hid hG; clear hv hG)
      go_roundw
      case rel => exact ⟨i + 1, by omega, by go_num, Lib.hid (by rw [HT.out]; exact HV.out), Lib.hid ((hb3.alloc hb3.size _).grown HG.out (by have := hb3.size; simp; omega) (fun q hq => (World.ownsRow.lt ho2 q hq).1))⟩
      case measure => simp [intOf]; omega
    · have hie : i = ks.length := by omega
      have hltI : decide ((i : Int) < (ks.length : Int)) = false := decide_eq_false (by omega)
      go_wp2_with fail
      go_returns
      refine ⟨_, rfl, ?_, hb.out⟩
      have := ho.out
      rw [hie, List.take_length] at this
      exact this
set_option maxHeartbeats 8000000 in
theorem kids_any {B : Nat} {w : World} {r : Nat} {ks : List (Nat × List UInt8)} (h : Rg B w r ks) (hl : ks.length ≤ 8) (hn : ks ≠ []) : Calls Tryz.prog 31 #[kpt r] w fun e w' => ∃ v, e = .returned v ∧ w'.ownsRow w.heap.size 9 1 v ks.length (ks.map kidV) ∧ Below w.heap.size w w' := by
  obtain ⟨a, c, h1, h2, h3⟩ := h
  have hc : w.cell? ⟨r, 0, none⟩ = some (.slice (some ⟨a, 0, none⟩) ks.length c) := h1.cell 0
  have HH := Lib.hid (And.intro h1 (And.intro h2 h3))
  clear h1 h2 h3
  have hpos : 0 < ks.length := List.length_pos_iff.2 hn
  have HE := Lib.hid (each_any ⟨a, c, HH.out.1, HH.out.2.1, HH.out.2.2⟩ hl hn)
  clear hpos hc HH
  unfold kpt at HE ⊢
  go_enter Tryz.func31, Tryz.ntmps31
  go_wp2_with fail
  refine HE.out.mono ?_
  rintro e w1 ⟨v, rfl, ho, hb⟩
  go_wp2_with fail
  go_returns
  exact ⟨_, rfl, ho, hb⟩
end Go.Proofs.YtpggkfdijmnmiaaGreat
namespace Go.Proofs.YtpggkfdijmnmiaaGreat.Hs
open Go.RowKit
def bitAt (l : List UInt8) (k : Nat) : Nat := (l.getD (k / 8) 0).toNat / 2 ^ (7 - k % 8) % 2
def vb (f : Nat → Nat) (k : Nat) : Nat → Nat
  | 0 => 0
  | n + 1 => 2 * vb f k n + f (k + n)
theorem vb_succ (f : Nat → Nat) (k n : Nat) : vb f k (n + 1) = 2 * vb f k n + f (k + n) := rfl
theorem bitAt_le (l : List UInt8) (k : Nat) : bitAt l k ≤ 1 := by unfold bitAt; omega
theorem vb_lt (f : Nat → Nat) (hf : ∀ k, f k ≤ 1) (k n : Nat) : vb f k n < 2 ^ n := by
  induction n with
  | zero => simp [vb]
  | succ n ih => have := hf (k + n); rw [vb, Nat.pow_succ]; omega
theorem getD_at (s : ByteArray) (q : Nat) (h : q < s.size) : s.data.toList.getD q 0 = s[q] := by
  rw [List.getD_eq_getElem?_getD, List.getElem?_eq_getElem (by simpa using h)]; rfl
theorem getD_no (s : ByteArray) (q : Nat) (h : s.size ≤ q) : s.data.toList.getD q 0 = 0 := by
  rw [List.getD_eq_getElem?_getD, List.getElem?_eq_none (by simpa using h)]; rfl
theorem bitAt_at (s : ByteArray) (k q j : Nat) (h : k / 8 = q) (hj : k % 8 = j) (hq : q < s.size) : bitAt s.data.toList k = s[q].toNat / 2 ^ (7 - j) % 2 := by
  subst h; subst hj
  rw [bitAt, getD_at s _ hq]
set_option maxHeartbeats 2000000 in
set_option maxRecDepth 100000 in
theorem bit_any (s : ByteArray) (k : Nat) (w : World) (hs : s.size ≤ 67108864) (hk : k ≤ 1073741824) :
    Calls Tryz.prog 91 #[.string s, .int .i64 k] w fun e w' => e = .returned (.int .i64 (bitAt s.data.toList k)) ∧ w = w' := by
  by_cases h : 8 * s.size ≤ k
  · have hB : bitAt s.data.toList k = 0 := by rw [bitAt, getD_no s _ (by omega)]; simp
    have HB := Lib.hid hB
    clear hB
    go_enter Tryz.func91, Tryz.ntmps91
    go_wp2
    go_ret
    exact ⟨by rw [HB.out]; rfl, rfl⟩
  · obtain ⟨q, j, hlt, hd, hm, hj8, HB⟩ : ∃ q j : Nat, ∃ h : q < s.size, (k : Int) / 8 = (q : Int) ∧ (k : Int) % 8 = (j : Int) ∧ j < 8 ∧ Hid (bitAt s.data.toList k = s[q].toNat / 2 ^ (7 - j) % 2) :=
      ⟨k / 8, k % 8, by omega, by omega, by omega, by omega, bitAt_at s k _ _ rfl rfl (by omega)⟩
    have h8 := s[q].toNat_lt
    obtain rfl | rfl | rfl | rfl | rfl | rfl | rfl | rfl : j = 0 ∨ j = 1 ∨ j = 2 ∨ j = 3 ∨ j = 4 ∨ j = 5 ∨ j = 6 ∨ j = 7 := by omega
    · have ham : bits BinOp.and IntKind.i64 ((s[q].toNat : Int) / 128) 1 = ((s[q].toNat : Int) / 128) % 2 := and_int 1 _ _ (by omega) rfl (by omega) (by omega)
      go_enter Tryz.func91, Tryz.ntmps91
      go_wp2
      go_ret
      exact ⟨ret_int (by rw [HB.out]; simp), rfl⟩
    · have ham : bits BinOp.and IntKind.i64 ((s[q].toNat : Int) / 64) 1 = ((s[q].toNat : Int) / 64) % 2 := and_int 1 _ _ (by omega) rfl (by omega) (by omega)
      go_enter Tryz.func91, Tryz.ntmps91
      go_wp2
      go_ret
      exact ⟨ret_int (by rw [HB.out]; simp), rfl⟩
    · have ham : bits BinOp.and IntKind.i64 ((s[q].toNat : Int) / 32) 1 = ((s[q].toNat : Int) / 32) % 2 := and_int 1 _ _ (by omega) rfl (by omega) (by omega)
      go_enter Tryz.func91, Tryz.ntmps91
      go_wp2
      go_ret
      exact ⟨ret_int (by rw [HB.out]; simp), rfl⟩
    · have ham : bits BinOp.and IntKind.i64 ((s[q].toNat : Int) / 16) 1 = ((s[q].toNat : Int) / 16) % 2 := and_int 1 _ _ (by omega) rfl (by omega) (by omega)
      go_enter Tryz.func91, Tryz.ntmps91
      go_wp2
      go_ret
      exact ⟨ret_int (by rw [HB.out]; simp), rfl⟩
    · have ham : bits BinOp.and IntKind.i64 ((s[q].toNat : Int) / 8) 1 = ((s[q].toNat : Int) / 8) % 2 := and_int 1 _ _ (by omega) rfl (by omega) (by omega)
      go_enter Tryz.func91, Tryz.ntmps91
      go_wp2
      go_ret
      exact ⟨ret_int (by rw [HB.out]; simp), rfl⟩
    · have ham : bits BinOp.and IntKind.i64 ((s[q].toNat : Int) / 4) 1 = ((s[q].toNat : Int) / 4) % 2 := and_int 1 _ _ (by omega) rfl (by omega) (by omega)
      go_enter Tryz.func91, Tryz.ntmps91
      go_wp2
      go_ret
      exact ⟨ret_int (by rw [HB.out]; simp), rfl⟩
    · have ham : bits BinOp.and IntKind.i64 ((s[q].toNat : Int) / 2) 1 = ((s[q].toNat : Int) / 2) % 2 := and_int 1 _ _ (by omega) rfl (by omega) (by omega)
      go_enter Tryz.func91, Tryz.ntmps91
      go_wp2
      go_ret
      exact ⟨ret_int (by rw [HB.out]; simp), rfl⟩
    · have ham : bits BinOp.and IntKind.i64 ((s[q].toNat : Int)) 1 = ((s[q].toNat : Int)) % 2 := and_int 1 _ _ (by omega) rfl (by omega) (by omega)
      go_enter Tryz.func91, Tryz.ntmps91
      go_wp2
      go_ret
      exact ⟨ret_int (by rw [HB.out]; simp), rfl⟩
theorem bit_add (s : ByteArray) (k m : Nat) (w : World) (hs : s.size ≤ 67108864) (hk : k + m ≤ 1073741824) :
    Calls Tryz.prog 91 #[.string s, .int .i64 ((k : Int) + (m : Int))] w fun e w' => e = .returned (.int .i64 (bitAt s.data.toList (k + m))) ∧ w = w' := bit_any s (k + m) w hs hk
def chr (l : List UInt8) (q : Nat) : UInt8 := six (vb (bitAt l) (6 * q) 6)
def r64 (l : List UInt8) : List UInt8 := (List.range ((8 * l.length + 5) / 6)).map (chr l)
set_option maxHeartbeats 2000000 in
set_option maxRecDepth 100000 in
theorem rbase64_any (s : ByteArray) (w : World) (hs : s.size ≤ 2097152) :
    Calls Tryz.prog 40 #[.string s] w fun e w' => e = .returned (.string ⟨(r64 s.data.toList).toArray⟩) ∧ Below w.heap.size w w' := by
  go_enter Tryz.func40, Tryz.ntmps40
  go_wp2
  go_loopw [3, 4] (fun v i wr => ∃ q : Nat, 6 * q ≤ 8 * s.size + 5 ∧ i = .int .i64 (6 * q : Nat) ∧ Rw w.heap.size v ((List.range q).map (chr s.data.toList)) wr ∧ Below w.heap.size w wr) (fun _ i _ => 8 * s.size + 6 - (intOf i).toNat)
  case atStart => exact ⟨0, by omega, rfl, Rw.start w, (Below.refl _ _).alloc (Nat.le_refl _) _⟩
  case round =>
    obtain ⟨q, hq, rfl, hI, hb⟩ := hrel
    obtain ⟨k, hk⟩ : ∃ k, 6 * q = k := ⟨_, rfl⟩
    rw [hk]
    have HK := Lib.hid hk
    clear hk
    obtain ⟨wo, rfl⟩ : ∃ wo : World, wo = wr := ⟨_, rfl⟩
    by_cases hlt : k < 8 * s.size
    · have hlt' : (k : Int) < 8 * (s.size : Int) := by omega
      go_wp2_with (fail)
      go_loop [5, 6] (fun n j => ∃ m : Nat, m ≤ 6 ∧ j = .int .i64 m ∧ n = .int .i64 (vb (bitAt s.data.toList) k m)) (fun _ j => 6 - (intOf j).toNat)
      case atStart => exact ⟨0, by omega, rfl, rfl⟩
      case round =>
        obtain ⟨m, hm, rfl, rfl⟩ := hrel
        have hv := vb_lt (bitAt s.data.toList) (bitAt_le _) k m
        have hv2 : 2 ^ m ≤ 2 ^ 6 := Nat.pow_le_pow_right (by omega) hm
        have hv3 : vb (bitAt s.data.toList) k m ≤ 64 := by omega
        have hbl := bitAt_le s.data.toList (k + m)
        clear hv hv2
        by_cases hlm : m < 6
        · go_wp2_with (go_at_call 91; refine (bit_add _ _ _ _ (by omega) (by omega)).mono ?_; rintro e w' ⟨rfl, rfl⟩)
          go_round
          case rel => exact ⟨m + 1, by omega, by go_num, by rw [vb_succ]; go_num⟩
          case measure => simp [intOf]; omega
        · obtain rfl : m = 6 := by omega
          have hc : six (vb (bitAt s.data.toList) k 6) = chr s.data.toList q := by rw [chr, HK.out]
          have HC := Lib.hid hc
          have hv4 : vb (bitAt s.data.toList) k 6 < 64 := vb_lt (bitAt s.data.toList) (bitAt_le _) k 6
          clear hc
          have hl3 : ((List.range q).map (chr s.data.toList)).length ≤ 281474976710 := by simp; omega
          have hcast : ((({ data := #[65, 66, 67, 68, 69, 70, 71, 72, 73, 74, 75, 76, 77, 78, 79, 80, 81, 82, 83, 84, 85, 86, 87, 88, 89, 90, 97, 98, 99, 100, 101, 102, 103, 104, 105, 106, 107, 108, 109, 110, 111, 112, 113, 114, 115, 116, 117, 118, 119, 120, 121, 122, 48, 49, 50, 51, 52, 53, 54, 55, 56, 57, 45, 95] } : ByteArray)[vb (bitAt s.data.toList) k 6]'hv4).toNat : Int) = ((chr s.data.toList q).toNat : Int) := by rw [six_at _ hv4, HC.out]
          have HX := Lib.hid hcast
          clear hcast
          go_wp2_with (at_builtin; refine app1 _ (chr s.data.toList q) HX.out _ _ rfl rfl rfl rfl hI hb (Nat.le_refl _) hl3 ?_)
          intro v3 w3 h3 hb3
          go_wp2
          go_roundw
          case rel =>
            refine ⟨q + 1, by have := HK.out; omega, ?_, by rw [List.range_succ, List.map_append]; exact h3, hb3⟩
            have := HK.out
            congr 1; omega
          case measure => simp [intOf]; omega
    · have hcv := hI.conv
      have hn : q = (8 * s.data.toList.length + 5) / 6 := by have := HK.out; simp; omega
      have HN := Lib.hid hn
      clear hn
      go_wp2
      go_ret
      refine ⟨?_, hb⟩
      rw [r64, ← HN.out]
      rfl
end Go.Proofs.YtpggkfdijmnmiaaGreat.Hs
namespace Go.Proofs.YtpggkfdijmnmiaaGreat.Hs
open Go.RowKit
theorem bitAt_shift (a b c : UInt8) (l : List UInt8) (k : Nat) : bitAt (a :: b :: c :: l) (k + 24) = bitAt l k := by
  have e1 : (k + 24) / 8 = k / 8 + 1 + 1 + 1 := by omega
  have e2 : (k + 24) % 8 = k % 8 := by omega
  simp only [bitAt, e1, e2, List.getD_cons_succ]
theorem vb_shift {f g : Nat → Nat} {d : Nat} (h : ∀ k, f (k + d) = g k) (k : Nat) : ∀ n, vb f (k + d) n = vb g k n
  | 0 => rfl
  | n + 1 => by
    rw [vb_succ, vb_succ, vb_shift h k n]
    have e : k + d + n = k + n + d := by omega
    rw [e, h]
theorem chr_shift (a b c : UInt8) (l : List UInt8) (q : Nat) : chr (a :: b :: c :: l) (4 + q) = chr l q := by
  have e : 6 * (4 + q) = 6 * q + 24 := by omega
  rw [chr, e, vb_shift (bitAt_shift a b c l), chr]
theorem chr0 (a : UInt8) (l : List UInt8) : vb (bitAt (a :: l)) 0 6 = a.toNat / 4 := by
  have := a.toNat_lt
  simp only [vb, bitAt]
  simp
  omega
theorem chr1 (a b : UInt8) (l : List UInt8) : vb (bitAt (a :: b :: l)) 6 6 = a.toNat % 4 * 16 + b.toNat / 16 := by
  have := a.toNat_lt
  have := b.toNat_lt
  simp only [vb, bitAt]
  simp
  omega
theorem chr1' (a : UInt8) : vb (bitAt [a]) 6 6 = a.toNat % 4 * 16 := by
  have := a.toNat_lt
  simp only [vb, bitAt]
  simp
  omega
theorem chr2 (a b c : UInt8) (l : List UInt8) : vb (bitAt (a :: b :: c :: l)) 12 6 = b.toNat % 16 * 4 + c.toNat / 64 := by
  have := b.toNat_lt
  have := c.toNat_lt
  simp only [vb, bitAt]
  simp
  omega
theorem chr2' (a b : UInt8) : vb (bitAt [a, b]) 12 6 = b.toNat % 16 * 4 := by
  have := b.toNat_lt
  simp only [vb, bitAt]
  simp
  omega
theorem chr3 (a b c : UInt8) (l : List UInt8) : vb (bitAt (a :: b :: c :: l)) 18 6 = c.toNat % 64 := by
  have := c.toNat_lt
  simp only [vb, bitAt]
  simp
  omega
theorem q2 (x y : Nat) : (x % 4 * 256 + y) / 16 = x % 4 * 16 + y / 16 := by omega
theorem q3a (x y : Nat) : (x % 4 * 256 + y) % 16 = y % 16 := by omega
theorem q3 (y z : Nat) : (y % 16 * 256 + z) / 64 = y % 16 * 4 + z / 64 := by omega
theorem q4 (y z : Nat) : (y % 16 * 256 + z) % 64 = z % 64 := by omega
theorem enc3 (a b c : UInt8) (l : List UInt8) : enc 0 0 (a :: b :: c :: l) = six (a.toNat / 4) :: six (a.toNat % 4 * 16 + b.toNat / 16) :: six (b.toNat % 16 * 4 + c.toNat / 64) :: six (c.toNat % 64) :: enc 0 0 l := by
  show six ((0 * 256 + a.toNat) / 4) :: six (((0 * 256 + a.toNat) % 4 * 256 + b.toNat) / 16) :: six ((((0 * 256 + a.toNat) % 4 * 256 + b.toNat) % 16 * 256 + c.toNat) / 64) :: six ((((0 * 256 + a.toNat) % 4 * 256 + b.toNat) % 16 * 256 + c.toNat) % 64 / 1) :: enc ((((0 * 256 + a.toNat) % 4 * 256 + b.toNat) % 16 * 256 + c.toNat) % 64 % 1) 0 l = _
  rw [Nat.zero_mul, Nat.zero_add, q2, q3a, q3, q4, Nat.div_one, Nat.mod_one]
theorem enc2 (a b : UInt8) : enc 0 0 [a, b] = [six (a.toNat / 4), six (a.toNat % 4 * 16 + b.toNat / 16), six (b.toNat % 16 * 4)] := by
  show [six ((0 * 256 + a.toNat) / 4), six (((0 * 256 + a.toNat) % 4 * 256 + b.toNat) / 16), six (((0 * 256 + a.toNat) % 4 * 256 + b.toNat) % 16 * 4)] = _
  rw [Nat.zero_mul, Nat.zero_add, q2, q3a]
theorem enc1 (a : UInt8) : enc 0 0 [a] = [six (a.toNat / 4), six (a.toNat % 4 * 16)] := by
  show [six ((0 * 256 + a.toNat) / 4), six ((0 * 256 + a.toNat) % 4 * 16)] = _
  rw [Nat.zero_mul, Nat.zero_add]
theorem r64_eq : ∀ l : List UInt8, r64 l = b64L l
  | [] => rfl
  | [a] => by
    have h : r64 [a] = [chr [a] 0, chr [a] 1] := by
      rw [r64, show (8 * [a].length + 5) / 6 = 2 by simp]; rfl
    rw [h, b64L, enc1, chr, chr, show 6 * 0 = 0 from rfl, show 6 * 1 = 6 from rfl, chr0, chr1']
  | [a, b] => by
    have h : r64 [a, b] = [chr [a, b] 0, chr [a, b] 1, chr [a, b] 2] := by
      rw [r64, show (8 * [a, b].length + 5) / 6 = 3 by simp]; rfl
    rw [h, b64L, enc2, chr, chr, chr, show 6 * 0 = 0 from rfl, show 6 * 1 = 6 from rfl, show 6 * 2 = 12 from rfl, chr0, chr1, chr2']
  | a :: b :: c :: l => by
    have ih := r64_eq l
    rw [b64L] at ih ⊢
    rw [enc3, ← ih, r64]
    have e : (8 * (a :: b :: c :: l).length + 5) / 6 = 4 + (8 * l.length + 5) / 6 := by simp; omega
    rw [e, List.range_add, List.map_append, List.map_map]
    have e2 : (chr (a :: b :: c :: l) ∘ fun x => 4 + x) = chr l := by funext q; exact chr_shift a b c l q
    rw [e2]
    show [chr (a :: b :: c :: l) 0, chr (a :: b :: c :: l) 1, chr (a :: b :: c :: l) 2, chr (a :: b :: c :: l) 3] ++ r64 l = _
    rw [chr, chr, chr, chr, show 6 * 0 = 0 from rfl, show 6 * 1 = 6 from rfl, show 6 * 2 = 12 from rfl, show 6 * 3 = 18 from rfl, chr0, chr1, chr2, chr3]
    rfl
end Go.Proofs.YtpggkfdijmnmiaaGreat.Hs
namespace Go.Proofs.YtpggkfdijmnmiaaGreat.Hs
def val : List Nat → Nat
  | [] => 0
  | x :: l => x + 65536 * val l
def Dig (l : List Nat) : Prop := ∀ x, x ∈ l → x < 65536
theorem val_lt : ∀ {l : List Nat}, Dig l → val l < 65536 ^ l.length
  | [], _ => by simp [val]
  | x :: l, h => by
    have h1 := h x (by simp)
    have h2 := val_lt (l := l) fun y hy => h y (by simp [hy])
    simp only [val, List.length_cons, Nat.pow_succ]
    omega
theorem val_set : ∀ (l : List Nat) (j x : Nat) (h : j < l.length), val (l.set j x) + l[j] * 65536 ^ j = val l + x * 65536 ^ j
  | y :: l, 0, x, _ => by simp [val]; omega
  | y :: l, j + 1, x, h => by
    have ih := val_set l j x (by simpa using h)
    simp only [List.set_cons_succ, val, List.getElem_cons_succ, Nat.pow_succ]
    have e1 : l[j]'(by simpa using h) * (65536 ^ j * 65536) = 65536 * (l[j]'(by simpa using h) * 65536 ^ j) := by rw [Nat.mul_comm (65536 ^ j), Nat.mul_left_comm]
    have e2 : x * (65536 ^ j * 65536) = 65536 * (x * 65536 ^ j) := by rw [Nat.mul_comm (65536 ^ j), Nat.mul_left_comm]
    rw [e1, e2]
    omega
theorem val_take_succ : ∀ (l : List Nat) (j : Nat) (h : j < l.length), val (l.take (j + 1)) = val (l.take j) + l[j] * 65536 ^ j
  | y :: l, 0, _ => by simp [val]
  | y :: l, j + 1, h => by
    have ih := val_take_succ l j (by simpa using h)
    simp only [List.take_succ_cons, val, List.getElem_cons_succ, Nat.pow_succ] at ih ⊢
    have e1 : l[j]'(by simpa using h) * (65536 ^ j * 65536) = 65536 * (l[j]'(by simpa using h) * 65536 ^ j) := by rw [Nat.mul_comm (65536 ^ j), Nat.mul_left_comm]
    rw [ih, e1]; omega
theorem val_zero (n : Nat) : val (List.replicate n 0) = 0 := by
  induction n with
  | zero => rfl
  | succ n ih => simp [List.replicate_succ, val, ih]
theorem dig_set {l : List Nat} (h : Dig l) (j x : Nat) (hx : x < 65536) : Dig (l.set j x) := by
  intro y hy
  rcases List.mem_or_eq_of_mem_set hy with h1 | h1
  · exact h y h1
  · rw [h1]; exact hx
theorem dig_get {l : List Nat} (h : Dig l) (j : Nat) (hj : j < l.length) : l[j] < 65536 := h _ (List.getElem_mem hj)
structure Inn (S ai : Nat) (b out : List Nat) (i k c : Nat) : Prop where
  dig : Dig out
  carry : c < 65536
  sum : val out + c * 65536 ^ (i + k) = S + ai * val (b.take k) * 65536 ^ i
  rest : ∀ j, (h : j < out.length) → i + b.length ≤ j → out[j] = 0
theorem inn_step {S ai : Nat} {b out : List Nat} {i k c : Nat} (x : Inn S ai b out i k c) (hai : ai < 65536) (hb : Dig b) (hk : k < b.length) (ho : i + b.length < out.length) :
    Inn S ai b (out.set (i + k) ((c + (out[i + k]'(by omega) + ai * b[k])) % 65536)) i (k + 1) ((c + (out[i + k]'(by omega) + ai * b[k])) / 65536) := by
  have hbk := dig_get hb k hk
  have hok := dig_get x.dig (i + k) (by omega)
  have hm : ai * b[k] ≤ 65535 * 65535 := Nat.mul_le_mul (by omega) (by omega)
  have hcr := x.carry
  have hvs := val_set out (i + k) ((c + (out[i + k]'(by omega) + ai * b[k])) % 65536) (by omega)
  have hsum := x.sum
  have hts := val_take_succ b k hk
  generalize hT : c + (out[i + k]'(by omega) + ai * b[k]) = T at hvs ⊢
  refine ⟨dig_set x.dig _ _ (Nat.mod_lt _ (by decide)), by omega, ?_, fun j hj hle => ?_⟩
  · have e0 : 65536 * (T / 65536) + T % 65536 = T := Nat.div_add_mod T 65536
    have e1 : T / 65536 * 65536 ^ (i + (k + 1)) + T % 65536 * 65536 ^ (i + k) = T * 65536 ^ (i + k) := by
      rw [← Nat.add_assoc, Nat.pow_succ, Nat.mul_comm (65536 ^ (i + k)) 65536, ← Nat.mul_assoc, ← Nat.add_mul, Nat.mul_comm (T / 65536), e0]
    have e2 : T * 65536 ^ (i + k) = c * 65536 ^ (i + k) + (out[i + k]'(by omega) * 65536 ^ (i + k) + ai * b[k] * 65536 ^ (i + k)) := by
      rw [← hT, Nat.add_mul, Nat.add_mul]
    have e3 : ai * val (b.take (k + 1)) * 65536 ^ i = ai * val (b.take k) * 65536 ^ i + ai * b[k] * 65536 ^ (i + k) := by
      rw [hts, Nat.mul_add, Nat.add_mul, Nat.pow_add, Nat.mul_comm (65536 ^ i) (65536 ^ k)]
      simp only [Nat.mul_assoc]
    rw [e3]
    omega
  · have : (out.set (i + k) (T % 65536))[j]'hj = out[j]'(by simpa using hj) := List.getElem_set_ne (by omega) _
    rw [this]
    exact x.rest j _ hle
structure Out (a b out : List Nat) (i : Nat) : Prop where
  dig : Dig out
  len : out.length = a.length + b.length
  sum : val out = val (a.take i) * val b
  rest : ∀ j, (h : j < out.length) → i + b.length ≤ j → out[j] = 0
theorem out_start (a b : List Nat) : Out a b (List.replicate (a.length + b.length) 0) 0 :=
  ⟨fun x hx => by have := List.eq_of_mem_replicate hx; omega, by simp, by rw [val_zero]; simp [val], fun j h _ => by simp⟩
theorem out_in {a b out : List Nat} {i : Nat} (x : Out a b out i) (hi : i < a.length) : Inn (val out) a[i] b out i 0 0 :=
  ⟨x.dig, by omega, by simp [val], fun j h hle => x.rest j h hle⟩
theorem in_out {a b out out' : List Nat} {i c : Nat} (x : Out a b out i) (hi : i < a.length) (y : Inn (val out) a[i] b out' i b.length c) (hl : out'.length = out.length) :
    Out a b (out'.set (i + b.length) c) (i + 1) := by
  have hlt : i + b.length < out'.length := by rw [hl, x.len]; omega
  have h0 := y.rest (i + b.length) hlt (Nat.le_refl _)
  have hvs := val_set out' (i + b.length) c hlt
  rw [h0, Nat.zero_mul, Nat.add_zero] at hvs
  refine ⟨dig_set y.dig _ _ y.carry, by rw [List.length_set, hl, x.len], ?_, fun j h hle => ?_⟩
  · rw [hvs, y.sum, x.sum, val_take_succ a i hi, Nat.add_mul, List.take_length]
    congr 1
    rw [Nat.mul_assoc, Nat.mul_assoc, Nat.mul_comm (val b)]
  · have : (out'.set (i + b.length) c)[j]'h = out'[j]'(by simpa using h) := List.getElem_set_ne (by omega) _
    rw [this]
    exact y.rest j _ (by omega)
theorem out_end {a b out : List Nat} (x : Out a b out a.length) : val out = val a * val b := by
  have := x.sum
  rwa [List.take_length] at this
def spot (p m j : Nat) : Nat := if j = m then p else 0
def Top (a : List Nat) (p m j : Nat) : Prop := ∀ i, (h : i < a.length) → j ≤ i → a[i] = spot p m i
def spots (p m n : Nat) : List Nat := (List.range n).map (spot p m)
theorem val_snoc : ∀ (l : List Nat) (x : Nat), val (l ++ [x]) = val l + x * 65536 ^ l.length
  | [], x => by simp [val]
  | y :: l, x => by
    simp only [List.cons_append, val, val_snoc l x, List.length_cons, Nat.pow_succ]
    have e2 : x * (65536 ^ l.length * 65536) = 65536 * (x * 65536 ^ l.length) := by rw [Nat.mul_comm (65536 ^ l.length), Nat.mul_left_comm]
    rw [e2]; omega
theorem val_spots (p m : Nat) : ∀ n, val (spots p m n) = if m < n then p * 65536 ^ m else 0
  | 0 => by simp [spots, val]
  | n + 1 => by
    have e : spots p m (n + 1) = spots p m n ++ [spot p m n] := by simp [spots, List.range_succ]
    rw [e, val_snoc, val_spots p m n]
    have hl : (spots p m n).length = n := by simp [spots]
    rw [hl]
    unfold spot
    by_cases h1 : n = m
    · subst h1; rw [if_neg (by omega), if_pos rfl, if_pos (by omega)]; omega
    · rw [if_neg h1]
      by_cases h2 : m < n
      · rw [if_pos h2, if_pos (by omega)]; omega
      · rw [if_neg h2, if_neg (by omega)]; omega
theorem spots_get (p m n j : Nat) (h : j < (spots p m n).length) : (spots p m n)[j] = spot p m j := by simp [spots]
theorem val_split : ∀ (l : List Nat) (j : Nat), val l = val (l.take j) + 65536 ^ j * val (l.drop j)
  | l, 0 => by simp [val]
  | [], j + 1 => by simp [val]
  | y :: l, j + 1 => by
    simp only [List.take_succ_cons, List.drop_succ_cons, val, Nat.pow_succ]
    rw [val_split l j, Nat.mul_add, Nat.mul_comm (65536 ^ j) 65536, Nat.mul_assoc]; omega
theorem top_drop {a : List Nat} {p m j : Nat} (h : Top a p m j) : a.drop j = (spots p m a.length).drop j := by
  apply List.ext_getElem (by simp [spots])
  intro i h1 h2
  rw [List.getElem_drop, List.getElem_drop, spots_get]
  exact h _ _ (by omega)
theorem dig_take {l : List Nat} (h : Dig l) (j : Nat) : Dig (l.take j) := fun x hx => h x (List.mem_of_mem_take hx)
theorem top_end {a : List Nat} {p m : Nat} (h : Top a p m 0) (hm : m < a.length) : val a = p * 65536 ^ m := by
  have := top_drop h
  simp only [List.drop_zero] at this
  rw [this, val_spots, if_pos hm]
theorem top_found {a : List Nat} {p m j : Nat} (ha : Dig a) (hp : p < 65536) (h : Top a p m (j + 1)) (hj : j < a.length) (hm : m < a.length) (hne : a[j] ≠ spot p m j) : (spot p m j < a[j]) ↔ p * 65536 ^ m < val a := by
  have e1 := val_split a j
  have e2 := val_split (spots p m a.length) j
  rw [val_spots, if_pos hm] at e2
  have hjs : j < (spots p m a.length).length := by simp [spots, hj]
  rw [List.drop_eq_getElem_cons hj] at e1
  rw [List.drop_eq_getElem_cons hjs, spots_get, ← top_drop h] at e2
  simp only [val] at e1 e2
  have hs : Dig (spots p m a.length) := fun x hx => by
    obtain ⟨i, _, rfl⟩ := List.mem_map.1 hx
    unfold spot; split <;> omega
  have l1 := val_lt (dig_take ha j)
  have l2 := val_lt (dig_take hs j)
  rw [List.length_take, Nat.min_eq_left (by omega)] at l1 l2
  generalize val (a.take j) = x at e1 l1
  generalize val ((spots p m a.length).take j) = y at e2 l2
  generalize val (a.drop (j + 1)) = z at e1 e2
  generalize spot p m j = q at *
  generalize a[j] = r at *
  generalize 65536 ^ j = P at *
  rw [e1, e2]
  have f1 : P * (r + 65536 * z) = P * r + P * (65536 * z) := Nat.mul_add _ _ _
  have f2 : P * (q + 65536 * z) = P * q + P * (65536 * z) := Nat.mul_add _ _ _
  rw [f1, f2]
  constructor
  · intro hlt
    have : P * (q + 1) ≤ P * r := Nat.mul_le_mul_left _ hlt
    rw [Nat.mul_add] at this
    omega
  · intro hlt
    rcases Nat.lt_or_ge q r with h | h
    · exact h
    · have : r + 1 ≤ q := by omega
      have : P * (r + 1) ≤ P * q := Nat.mul_le_mul_left _ this
      rw [Nat.mul_add] at this
      omega
def rootN (p n : Nat) : Nat → Nat → Nat
  | 0, x => x
  | k + 1, x => rootN p n k (if p * 65536 ^ (2 * n) < (x + 2 ^ k) ^ n then x else x + 2 ^ k)
def prStep (l : List Nat) (p : Nat) : List Nat := if l.all fun q => decide (p % q ≠ 0) then l ++ [p] else l
def prL (p : Nat) : List Nat := (List.range' 2 (p - 2)).foldl prStep []
theorem keys_ok : (prL 312).map (fun p => UInt32.ofNat (rootN p 3 41 0 % 4294967296)) = kL := by decide +kernel
theorem first_ok : (prL 20).map (fun p => UInt32.ofNat (rootN p 2 41 0 % 4294967296)) = firstL := by decide +kernel
end Go.Proofs.YtpggkfdijmnmiaaGreat.Hs
