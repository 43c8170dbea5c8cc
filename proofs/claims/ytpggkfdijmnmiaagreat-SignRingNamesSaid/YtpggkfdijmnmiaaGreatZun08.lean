/- A ring in memory; what find and newest answer. Condition: the ring's keys. What NewRing and Mac answer. Condition: at most 2^47 - 4096 bytes. Rows of bytes of the call's own, and an append to one. No condition. What Turn answers and leaves. Condition: the ring; at most 2^47 - 4096 bytes. What Kids answers. Condition: the ring. Points, and points under way, as values: how they are compared, and the -/
import Derived.Deep.QuietTactic
import Derived.BigQuiet
import Derived.Test.YtpggkfdijmnmiaaGreatZun07
import Derived.Deep.AppendLies
import Derived.Laws.IdiomStrings
import Derived.Lib.BufferRead
import Derived.Deep.MidRow
import Derived.Test.YtpggkfdijmnmiaaGreatZun03
import Derived.Test.YtpggkfdijmnmiaaGreatZun05
set_option linter.unusedVariables false
set_option linter.unusedSimpArgs false
set_option maxRecDepth 100000
namespace Go.Proofs.YtpggkfdijmnmiaaGreat
open Go.RowKit Limbs
def kpt (g : Nat) : Value := .pointer (some ⟨g, 0, none⟩)
def Rg (B : Nat) (w : World) (r : Nat) (ks : List (Nat × List UInt8)) : Prop :=
  ∃ a c, Bk 107 w r #[.slice (some ⟨a, 0, none⟩) ks.length c] ∧ w.ownsRow B 103 1 (.slice (some ⟨a, 0, none⟩) ks.length c) ks.length (ks.map fun k => kpt k.1) ∧ ∀ k ∈ ks, Bk 121 w k.1 (keyC k.2)
theorem own_below {B : Nat} {T : TypeId} {z n : Nat} {v : Value} {l : List Value} {w w' : World} (h : w.ownsRow B T z v n l) (hb : Below w.heap.size w w') : w'.ownsRow B T z v n l := by
  refine ⟨h.1, ?_⟩
  rcases h.2 with hn | ⟨g, cap, cur, hv, hg, hh, rest⟩
  · exact .inl hn
  · exact .inr ⟨g, cap, cur, hv, hg, (hb.block _ ((Array.getElem?_eq_some_iff.1 hh).1)).trans hh, rest⟩
theorem Rg.below {B : Nat} {w w' : World} {r : Nat} {ks : List (Nat × List UInt8)} (h : Rg B w r ks) (hb : Below w.heap.size w w') : Rg B w' r ks := by
  obtain ⟨a, c, h1, h2, h3⟩ := h
  exact ⟨a, c, h1.below hb, own_below h2 hb, fun k hk => (h3 k hk).below hb⟩
def findK : List (Nat × List UInt8) → List UInt8 → Option Nat
  | [], _ => none
  | k :: ks, n => if kidOf k.2 = n then some k.1 else findK ks n
def fV : Option Nat → Value
  | none => .pointer none
  | some g => kpt g
theorem findK_drop (n : List UInt8) : ∀ (ks : List (Nat × List UInt8)) (i : Nat), (∀ j (h : j < i) (h2 : j < ks.length), kidOf (ks[j]).2 ≠ n) → findK ks n = findK (ks.drop i) n
  | [], i, _ => by simp
  | k :: ks, 0, _ => rfl
  | k :: ks, i + 1, h => by
    have h0 := h 0 (by omega) (by simp)
    rw [findK, if_neg (show ¬ kidOf k.2 = n from h0), findK_drop n ks i (fun j hj h2 => h (j + 1) (by omega) (by simpa using h2))]
    rfl
set_option maxHeartbeats 8000000 in
theorem find_any {B : Nat} {w : World} {r : Nat} {ks : List (Nat × List UInt8)} (h : Rg B w r ks) (hl : ks.length ≤ 1000000) (n : List UInt8) : Calls Tryz.prog 75 #[kpt r, .string ⟨n.toArray⟩] w fun e w' => e = .returned (fV (findK ks n)) ∧ w = w' := by
  obtain ⟨a, c, h1, h2, h3⟩ := h
  have hc : w.cell? ⟨r, 0, none⟩ = some (.slice (some ⟨a, 0, none⟩) ks.length c) := h1.cell 0
  have HR := Lib.hid h2
  have HK := Lib.hid h3
  clear h1 h2 h3
  unfold kpt
  go_enter Tryz.func75, Tryz.ntmps75
  go_wp2_with fail
  go_loopw [12] (fun iv wr => ∃ i : Nat, i ≤ ks.length ∧ iv = .int .i64 (i : Int) ∧ wr = w ∧ ∀ j (h : j < i) (h2 : j < ks.length), kidOf (ks[j]).2 ≠ n) (fun iv _ => ks.length - (intOf iv).toNat)
  case atStart => exact ⟨0, Nat.zero_le _, rfl, rfl, fun j h => by omega⟩
  case round =>
    obtain ⟨i, hi, rfl, rfl, hne⟩ := hrel
    by_cases hlt : i < ks.length
    · obtain ⟨k, hk⟩ : ∃ k, ks[i]'hlt = k := ⟨_, rfl⟩
      have hkm : k ∈ ks := hk ▸ List.getElem_mem hlt
      have K1 := HK.out k hkm
      have c1 := K1.cell 1
      unfold keyC at c1
      simp only [List.getElem?_toArray, List.getElem?_cons_succ, List.getElem?_cons_zero] at c1
      have c0 : wr.cell? ⟨a, i, none⟩ = some (.pointer (some ⟨k.1, 0, none⟩)) := by
        have := HR.out.cells (g := a) rfl i (kpt k.1) (by rw [List.getElem?_map, List.getElem?_eq_getElem hlt, hk]; rfl)
        by_cases h0 : i = 0
        · subst h0; simpa [Addr.add, kpt] using this
        · simpa [Addr.add, h0, kpt] using this
      have hltI : (i : Int) < (ks.length : Int) := by omega
      have HNE := Lib.hid hne
      have HKI := Lib.hid hk
      clear hne hk K1
      by_cases hq : kidOf k.2 = n
      · have hb : (kidOf k.2 == n) = true := by simp [hq]
        have HF : Hid (findK ks n = some k.1) := Lib.hid (by rw [findK_drop n ks i HNE.out, List.drop_eq_getElem_cons hlt, HKI.out, findK, if_pos hq])
        clear hq
        go_wp2_with fail
        go_returns
        rw [HF.out]
        exact ⟨rfl, rfl⟩
      · have hb : (kidOf k.2 == n) = false := by simp [hq]
        have HQ := Lib.hid hq
        clear hq
        go_wp2_with fail
        go_roundw
        case rel => exact ⟨i + 1, by omega, by go_num, trivial, fun j hj h2 => by
          rcases Nat.lt_succ_iff_lt_or_eq.1 hj with h1 | rfl
          · exact HNE.out j h1 h2
          · rw [HKI.out]; exact HQ.out⟩
        case measure => simp [intOf]; omega
    · have hie : i = ks.length := by omega
      have hltI : decide ((i : Int) < (ks.length : Int)) = false := decide_eq_false (by omega)
      have HF : Hid (findK ks n = none) := Lib.hid (by rw [findK_drop n ks i hne, hie, List.drop_length]; rfl)
      clear hne
      go_wp2_with fail
      go_returns
      rw [HF.out]
      exact ⟨rfl, rfl⟩
theorem Rg.last {B : Nat} {w : World} {r : Nat} {ks : List (Nat × List UInt8)} {k : Nat × List UInt8} (h : Rg B w r (ks ++ [k])) : ∃ a c, w.cell? ⟨r, 0, none⟩ = some (.slice (some ⟨a, 0, none⟩) (ks.length + 1) c) ∧ w.cell? ⟨a, ks.length, none⟩ = some (.pointer (some ⟨k.1, 0, none⟩)) := by
  obtain ⟨a, c, h1, h2, h3⟩ := h
  rw [List.length_append] at h1 h2
  refine ⟨a, c, h1.cell 0, ?_⟩
  have := h2.cells (g := a) rfl ks.length (kpt k.1) (by simp)
  by_cases h0 : ks.length = 0
  · rw [h0] at this ⊢; simpa [Addr.add, kpt] using this
  · simpa [Addr.add, h0, kpt] using this
set_option maxHeartbeats 8000000 in
theorem newest_any {B : Nat} {w : World} {r : Nat} {ks : List (Nat × List UInt8)} {k : Nat × List UInt8} (h : Rg B w r (ks ++ [k])) (hl : ks.length ≤ 1000000) : Calls Tryz.prog 78 #[kpt r] w fun e w' => e = .returned (kpt k.1) ∧ Below w.heap.size w w' := by
  obtain ⟨a, c, c0, c1⟩ := h.last
  clear h
  generalize ks.length = m at *
  have hi1 : (m : Int) < ((m : Int) + 1) := by omega
  have hw : IntKind.i64.wrap ((m : Int) + 1 - 1) = (m : Int) := by rw [show (m : Int) + 1 - 1 = (m : Int) by omega]; exact IntWalk.i64_in _ (by omega)
  unfold kpt
  go_enter Tryz.func78, Tryz.ntmps78
  go_wp2_with fail
  go_quiet (fail)
  go_wp2_with fail
  go_returns
  exact ⟨rfl, rfl, rfl, rfl, Nat.le_refl _, fun _ _ => rfl⟩
end Go.Proofs.YtpggkfdijmnmiaaGreat
namespace Go.Proofs.YtpggkfdijmnmiaaGreat
open Go.RowKit Limbs
set_option maxHeartbeats 8000000 in
theorem newRing_any (s : List UInt8) (hs : s.length ≤ 140737488351232) (w : World) : Calls Tryz.prog 21 #[.string ⟨s.toArray⟩] w fun e w' => ∃ r g, e = .returned (kpt r) ∧ Rg w.heap.size w' r [(g, s)] ∧ Below w.heap.size w w' ∧ w.heap.size ≤ r := by
  have HK := Lib.hid (newKey_any s hs w)
  clear hs
  go_enter Tryz.func21, Tryz.ntmps21
  go_wp2_with fail
  refine HK.out.mono ?_
  rintro e w1 ⟨g, rfl, hg, hk, hb⟩
  clear HK
  go_wp2_with fail
  go_returns
  have hbn : Below w1.heap.size w1 ((w1.alloc (.cells #[.pointer (some ⟨g, 0, none⟩)] 103)).alloc (.cells #[.slice (some ⟨w1.heap.size, 0, none⟩) 1 1] 107)) := by go_grown
  refine ⟨_, g, rfl, ⟨w1.heap.size, 1, Bk.new (by simp), ⟨rfl, .inr ⟨w1.heap.size, 1, #[.pointer (some ⟨g, 0, none⟩)], rfl, hb.size, Bk.alloc (Bk.new rfl), by simp, by unfold maxLen; omega, rfl, rfl⟩⟩, fun k hk2 => ?_⟩, hb.trans (hbn.mono hb.size), by have := hb.size; omega⟩
  rw [List.mem_singleton] at hk2
  subst hk2
  exact hk.below hbn
set_option maxHeartbeats 8000000 in
theorem rmac_any {B : Nat} {w : World} {r : Nat} {ks : List (Nat × List UInt8)} {k : Nat × List UInt8} (h : Rg B w r (ks ++ [k])) (hl : ks.length ≤ 1000000) (hk : k.2.length ≤ 140737488351232) (s : List UInt8) (hs : s.length ≤ 140737488351232) : Calls Tryz.prog 24 #[kpt r, .string ⟨s.toArray⟩] w fun e w' => e = .returned (.tuple #[.string ⟨(kidOf k.2).toArray⟩, .string ⟨(Hs.macL (macOf k.2) s).toArray⟩]) ∧ Below w.heap.size w w' := by
  have HN := Lib.hid (newest_any h hl)
  obtain ⟨a, c, h1, h2, h3⟩ := h
  have K1 := Lib.hid (h3 k (by simp))
  have hkl : (kidOf k.2).length ≤ 281474976710656 := by
    unfold kidOf
    have := Hs.enc_len ((Hs.macL [107, 105, 100] k.2).take 9) 0 0 (by decide)
    have h9 : ((Hs.macL [107, 105, 100] k.2).take 9).length ≤ 9 := by simp; omega
    unfold Hs.b64L
    omega
  have HC := Lib.hid (fun w => sclone_any (kidOf k.2) w hkl)
  have hml : (macOf k.2).length = 32 := macL_len _ _
  have HM := Lib.hid (fun w => Hs.Mac_any (macOf k.2) s (by omega) (by omega) w)
  clear h1 h2 h3 hkl hml hk hs
  unfold kpt at HN ⊢
  go_enter Tryz.func24, Tryz.ntmps24
  go_wp2_with fail
  refine HN.out.mono ?_
  rintro e w1 ⟨rfl, hb1⟩
  have K2 := K1.out.below hb1
  obtain ⟨g, sd⟩ := k
  have c1 := fun d os => (K2.regrown d os).cell 1
  have c2 := fun d os => (K2.regrown d os).cell 2
  unfold keyC at c1 c2
  simp only [List.getElem?_toArray, List.getElem?_cons_succ, List.getElem?_cons_zero] at c1 c2
  simp only at HC HM c1 c2 ⊢
  go_wp2_with fail
  refine wp_region_quiet_below mixed (by kernel_rfl) ?_
  repeat (first | go_big_quiet_step (first | exact qg HC.out | exact qg HM.out) | quiet_step (first | exact qg HC.out | exact qg HM.out))
  refine wpQuiet_nil ?_
  intro _ hw'
  obtain ⟨⟨dq, osq⟩, hw''⟩ := hw'
  subst hw''
  go_wp2_with fail
  go_returns
  exact ⟨rfl, hb1.trans ((below_regrown w1 dq osq).mono hb1.size)⟩
end Go.Proofs.YtpggkfdijmnmiaaGreat
namespace Go.Proofs.YtpggkfdijmnmiaaGreat.Hs
open Go.RowKit
def Rw (B : Nat) (v : Value) (l : List UInt8) (w : World) : Prop := w.ownsRow B 5 1 v l.length (Lib.byteCells l)
theorem Rw.snoc {B : Nat} {v : Value} {l : List UInt8} {w : World} {c : UInt8} (h : w.ownsRow B 5 1 v (l.length + 1) (Lib.byteCells l ++ [.int .u8 c.toNat])) : Rw B v (l ++ [c]) w := by
  unfold Rw
  rw [← byteCells_snoc]
  simpa using h
theorem Rw.conv {B : Nat} {v : Value} {l : List UInt8} {w : World} (h : Rw B v l w) : (convert 101 9 v).run Tryz.prog w = .ok (.string ⟨l.toArray⟩) w := by
  rcases h.2 with ⟨rfl, h0⟩ | ⟨g, cap, cur, rfl, hg, hh, _⟩
  · have : l = [] := List.eq_nil_of_length_eq_zero h0
    subst this
    exact Lib.run_convert_nil_bytes w 101 9 5 _ Tryz.underlying101 Tryz.underlying5 Tryz.underlying9
  · refine run_convert_bytes_back w 101 9 5 _ cap l Tryz.underlying101 Tryz.underlying5 Tryz.underlying9 (fun j hj => ?_)
    exact World.ownsRow.cells h (g := g) rfl j _ (by simp [Lib.byteCells, hj])
theorem Rw.start (w : World) : Rw w.heap.size (.slice (some ⟨w.heap.size, 0, none⟩) 0 0) [] (w.alloc (.cells #[] 5)) :=
  ⟨rfl, .inr ⟨w.heap.size, 0, #[], rfl, Nat.le_refl _, heap_alloc_new w _, Nat.le_refl _, Nat.zero_le _, rfl, rfl⟩⟩
theorem Rw.drewN {B : Nat} {v : Value} {l : List UInt8} {w : World} (h : Rw B v l w) (n : Nat) : Rw B v l (w.drewN n) := h
theorem Rw.drew {B : Nat} {v : Value} {l : List UInt8} {w : World} (h : Rw B v l w) : Rw B v l w.drew := h
theorem Rw.below {B : Nat} {v : Value} {l : List UInt8} {w w' : World} (h : Rw B v l w) (hb : Below w.heap.size w w') : Rw B v l w' := by
  refine ⟨h.1, ?_⟩
  rcases h.2 with hn | ⟨g, cap, cur, hv, hg, hh, rest⟩
  · exact .inl hn
  · exact .inr ⟨g, cap, cur, hv, hg, (hb.block _ (blk_lt hh)).trans hh, rest⟩
theorem Rw.alloc {B : Nat} {v : Value} {l : List UInt8} {w : World} (h : Rw B v l w) (o : Obj) : Rw B v l (w.alloc o) := h.below ((Below.refl _ _).alloc (Nat.le_refl _) o)
theorem Rw.grown {B : Nat} {v : Value} {l : List UInt8} {w w' W : World} (h : Rw B v l w) (hb : Below B W w) (hg : w.grownBy w' v.ownBlock) (hB : B ≤ W.heap.size) : Below B W w' :=
  hb.grown hg (by have := hb.size; omega) (fun g hk => (World.ownsRow.lt h g hk).1)
theorem app1 {ops : Array Oper} {rest : List Oper} {o : Oper} {a : Act} {Q : Exit → Act → World → Prop} {w W : World} {B : Nat} {v : Value} {l : List UInt8} (n : Int) (c : UInt8) (hn : n = (c.toNat : Int)) (s x : Operand) (hgd : o.guard = none)
    (ho : o.op = .call { callee := .builtin .append, args := #[s, x], argTypes := #[101, 101] }) (hs : a.eval s = v) (hx : a.eval x = .slice (some ⟨w.heap.size, 0, none⟩) 1 1)
    (hI : Rw B v l w) (hb : Below B W w) (hB : B ≤ W.heap.size) (hlen : l.length ≤ 281474976710)
    (h : ∀ v' w', Rw B v' (l ++ [c]) w' → Below B W w' → wpList Tryz.prog ops Q rest (a.put o.dst v') w') : wpList Tryz.prog ops Q (o :: rest) a (w.alloc (.cells #[.int .u8 n] 5)) := by
  subst hn
  obtain ⟨i0, hi, hz0, hz1, hz2⟩ := info_parts infoByte
  have hI' := hI.alloc (.cells #[.int .u8 (c.toNat : Int)] 5)
  have hsz := hb.size
  refine wpList_append_own _ hgd s x 101 ho B 5 i0 (.int .u8 0) 1 1 Tryz.underlying101 hi hz0 hz1 hz2 rfl (by decide) v l.length _ hs hI' ⟨w.heap.size, 0, none⟩ 1 1 [.int .u8 c.toNat] hx rfl (World.news_of_block (heap_alloc_new w _)) (by simp [Value.oneCell']) (by unfold maxLen; omega) (by omega) (by simp; omega) ?_
  intro v' w' h1 h2 _
  exact h v' w' (Rw.snoc h1) (hI'.grown (hb.alloc (by omega) _) h2 hB)
end Go.Proofs.YtpggkfdijmnmiaaGreat.Hs
namespace Go.Proofs.YtpggkfdijmnmiaaGreat
open Go.RowKit Limbs
theorem infoKey : (Tryz.prog.info? 103).map (fun i => (i.zero, i.size, i.bytes)) = some (some (.pointer none), 1, 8) := by kernel_rfl
theorem appk {ops : Array Oper} {rest : List Oper} {o : Oper} {a : Act} {Q : Exit → Act → World → Prop} {w : World} {B : Nat} {v : Value} {n : Nat} {l : List Value} (g : Nat) (s x : Operand) (hgd : o.guard = none)
    (ho : o.op = .call { callee := .builtin .append, args := #[s, x], argTypes := #[105, 105] }) (hs : a.eval s = v) (hx : a.eval x = .slice (some ⟨w.heap.size, 0, none⟩) 1 1)
    (hI : w.ownsRow B 103 1 v n l) (hB : B ≤ w.heap.size) (hlen : n ≤ 1000000)
    (h : ∀ v' w', w'.ownsRow B 103 1 v' (n + 1) (l ++ [kpt g]) → (w.alloc (.cells #[kpt g] 103)).grownBy w' v.ownBlock → wpList Tryz.prog ops Q rest (a.put o.dst v') w') : wpList Tryz.prog ops Q (o :: rest) a (w.alloc (.cells #[kpt g] 103)) := by
  obtain ⟨i0, hi, hz0, hz1, hz2⟩ := info_parts infoKey
  refine wpList_append_own _ hgd s x 105 ho B 103 i0 (.pointer none) 1 8 Tryz.underlying105 hi hz0 hz1 hz2 rfl (by decide) v n _ hs (hI.alloc _) ⟨w.heap.size, 0, none⟩ 1 1 [kpt g] hx rfl (World.news_of_block (heap_alloc_new w _)) (by simp [Value.oneCell', kpt]) (by unfold maxLen; omega) (by omega) (by simp; omega) ?_
  intro v' w' h1 h2 _
  exact h v' w' h1 h2
theorem bk_ne {t u : TypeId} {w : World} {g h : Nat} {cs ds : Array Value} (a : Bk t w g cs) (b : Bk u w h ds) (hn : t ≠ u) : g ≠ h := fun e => by
  subst e
  have h2 := a.symm.trans b
  injection h2 with h3
  injection h3 with h4 h5
  exact hn h5
theorem own_slice {B n : Nat} {w : World} {v : Value} {l : List Value} {T : TypeId} {z : Nat} (h : w.ownsRow B T z v (n + 1) l) : ∃ a c, v = .slice (some ⟨a, 0, none⟩) (n + 1) c := by
  rcases h.2 with ⟨_, h0⟩ | ⟨g', cap, cur', hx, _⟩
  · omega
  · exact ⟨g', cap, hx⟩
theorem ring_keep {B : Nat} {w w2 : World} {r g a n c : Nat} {l : List Value} {v : Value} (h1 : Bk 107 w r #[v]) (h2 : w.ownsRow B 103 1 (.slice (some ⟨a, 0, none⟩) n c) n l) (hG : (w.alloc (.cells #[kpt g] 103)).grownBy w2 (some a)) : Bk 107 w2 r #[v] := by
  have ha : ∃ cur, Bk 103 w a cur := by
    rcases h2.2 with ⟨hx, _⟩ | ⟨g', cap, cur, hx, _, hh, _⟩
    · cases hx
    · cases hx
      exact ⟨cur, hh⟩
  obtain ⟨cur, ha⟩ := ha
  have hne := bk_ne h1 ha (by decide)
  have h' : Bk 107 (w.alloc (.cells #[kpt g] 103)) r #[v] := Bk.alloc h1
  exact (hG.block r (by have := (Array.getElem?_eq_some_iff.1 h1).1; simp; omega) (fun e => hne (by injection e))).trans h'
theorem Rg.push {B : Nat} {w w2 : World} {r g a c : Nat} {ks : List (Nat × List UInt8)} {s : List UInt8} {v' : Value} (h1 : Bk 107 w r #[.slice (some ⟨a, 0, none⟩) ks.length c]) (h2 : w.ownsRow B 103 1 (.slice (some ⟨a, 0, none⟩) ks.length c) ks.length (ks.map fun k => kpt k.1)) (h3 : ∀ k ∈ ks, Bk 121 w k.1 (keyC k.2)) (hg : Bk 121 w g (keyC s))
    (hv : w2.ownsRow B 103 1 v' (ks.length + 1) ((ks.map fun k => kpt k.1) ++ [kpt g])) (hG : (w.alloc (.cells #[kpt g] 103)).grownBy w2 (some a)) (hr : B ≤ r) :
    Rg B (w2.setCell ⟨r, 0, none⟩ v') r (ks ++ [(g, s)]) := by
  have ha : ∃ cur, Bk 103 w a cur := by
    rcases h2.2 with ⟨hx, _⟩ | ⟨g', cap, cur, hx, _, hh, _⟩
    · cases hx
    · cases hx
      exact ⟨cur, hh⟩
  obtain ⟨cur, ha⟩ := ha
  have hlt : ∀ {t : TypeId} {x : Nat} {cs : Array Value}, Bk t w x cs → x < (w.alloc (.cells #[kpt g] 103)).heap.size := fun h => by
    have := (Array.getElem?_eq_some_iff.1 h).1
    simp; omega
  have keep2 : ∀ {t : TypeId} {x : Nat} {cs : Array Value}, Bk t w x cs → x ≠ a → Bk t w2 x cs := fun {t x cs} h hne => by
    have h' : Bk t (w.alloc (.cells #[kpt g] 103)) x cs := Bk.alloc h
    exact (hG.block x (hlt h) (fun e => hne (by injection e))).trans h'
  have hR := keep2 h1 (bk_ne h1 ha (by decide))
  obtain ⟨a', c', rfl⟩ : ∃ a' c', v' = .slice (some ⟨a', 0, none⟩) (ks.length + 1) c' := by
    rcases hv.2 with ⟨_, h0⟩ | ⟨g', cap, cur', hx, _⟩
    · omega
    · exact ⟨g', cap, hx⟩
  have ha' : ∃ cur', Bk 103 w2 a' cur' := by
    rcases hv.2 with ⟨hx, _⟩ | ⟨g', cap, cur', hx, _, hh, _⟩
    · cases hx
    · cases hx
      exact ⟨cur', hh⟩
  obtain ⟨cur', ha'⟩ := ha'
  have hne : r ≠ a' := bk_ne hR ha' (by decide)
  refine ⟨a', c', ?_, ?_, fun k hk => ?_⟩
  · have := Bk.same (i := 0) (v := .slice (some ⟨a', 0, none⟩) (ks.length + 1) c') hR
    simpa using this
  · rw [List.length_append, List.map_append]
    refine ⟨hv.1, ?_⟩
    rcases hv.2 with ⟨hx, _⟩ | ⟨g', cap, cur2, hx, hb, hh, rest⟩
    · cases hx
    · cases hx
      exact .inr ⟨_, _, cur2, rfl, hb, (heap_setCell_other w2 _ a' _ (by simpa using Ne.symm hne)).trans hh, rest⟩
  · rw [List.mem_append, List.mem_singleton] at hk
    rcases hk with hk | rfl
    · exact Bk.oth (by simpa using bk_ne (h3 k hk) h1 (by decide)) (keep2 (h3 k hk) (bk_ne (h3 k hk) ha (by decide)))
    · exact Bk.oth (by simpa using bk_ne hg h1 (by decide)) (keep2 hg (bk_ne hg ha (by decide)))
set_option maxHeartbeats 8000000 in
theorem turn_there {B : Nat} {w : World} {r : Nat} {ks : List (Nat × List UInt8)} (h : Rg B w r ks) (hl : ks.length ≤ 1000000) (s : List UInt8) (hs : s.length ≤ 140737488351232) (x : Nat) (hf : findK ks (kidOf s) = some x) : Calls Tryz.prog 22 #[kpt r, .string ⟨s.toArray⟩] w fun e w' => e = .returned (.int .i64 80) ∧ Below w.heap.size w w' := by
  have HK := Lib.hid (newKey_any s hs w)
  have H := Lib.hid h
  have HF := Lib.hid hf
  clear h hf hs
  unfold kpt
  go_enter Tryz.func22, Tryz.ntmps22
  go_wp2_with fail
  refine HK.out.mono ?_
  rintro e w1 ⟨g, rfl, hg, hk, hb⟩
  have hfi := find_any (H.out.below hb) hl (kidOf s)
  rw [HF.out] at hfi
  unfold kpt fV at hfi
  have c1 := hk.cell 1
  unfold keyC at c1
  simp only [List.getElem?_toArray, List.getElem?_cons_succ, List.getElem?_cons_zero] at c1
  have HFI := Lib.hid hfi
  clear hfi hk HK
  go_wp2_with fail
  refine HFI.out.mono ?_
  rintro e w2 ⟨rfl, rfl⟩
  unfold kpt
  go_wp2_with fail
  go_returns
  exact ⟨rfl, hb⟩
set_option maxHeartbeats 8000000 in
theorem turn_new {B : Nat} {w : World} {r : Nat} {ks : List (Nat × List UInt8)} (h : Rg B w r ks) (hB : B ≤ w.heap.size) (hr : B ≤ r) (hl : ks.length < 8) (s : List UInt8) (hs : s.length ≤ 140737488351232) (hf : findK ks (kidOf s) = none) : Calls Tryz.prog 22 #[kpt r, .string ⟨s.toArray⟩] w fun e w' => e = .returned (.int .i64 0) ∧ ∃ g, Rg B w' r (ks ++ [(g, s)]) ∧ Below B w w' := by
  have HK := Lib.hid (newKey_any s hs w)
  have H := Lib.hid h
  have HF := Lib.hid hf
  have HBR := Lib.hid (And.intro hB hr)
  clear h hf hs hB hr
  unfold kpt
  go_enter Tryz.func22, Tryz.ntmps22
  go_wp2_with fail
  refine HK.out.mono ?_
  rintro e w1 ⟨g, rfl, hg, hk, hb⟩
  have H1 := H.out.below hb
  have hfi := find_any H1 (by omega) (kidOf s)
  rw [HF.out] at hfi
  unfold kpt fV at hfi
  have c1 := hk.cell 1
  unfold keyC at c1
  simp only [List.getElem?_toArray, List.getElem?_cons_succ, List.getElem?_cons_zero] at c1
  have HFI := Lib.hid hfi
  have HKK := Lib.hid hk
  obtain ⟨a, c, h1, h2, h3⟩ := H1
  have HH := Lib.hid (And.intro h1 (And.intro h2 h3))
  have c0 : w1.cell? ⟨r, 0, none⟩ = some (.slice (some ⟨a, 0, none⟩) ks.length c) := h1.cell 0
  have h8 : ((ks.length : Int) == 8) = false := by simp; omega
  clear hfi hk HK H h1 h2 h3
  go_wp2_with fail
  refine HFI.out.mono ?_
  rintro e w2 ⟨rfl, rfl⟩
  go_wp2_with (at_builtin; refine appk g _ _ rfl rfl rfl rfl HH.out.2.1 (Nat.le_trans HBR.out.1 hb.size) (by omega) ?_; intro v' w3 hv hG; obtain ⟨a2, c2, hv2⟩ := own_slice hv; subst hv2; have hr3 := ring_keep HH.out.1 HH.out.2.1 hG; have d0 := hr3.cell 0; have f0 := hr3.fro 0; have HV := Lib.hid hv; have HG := Lib.hid hG; clear hv hG hr3 c0 c1)
  go_returns
  refine ⟨rfl, g, Rg.push HH.out.1 HH.out.2.1 HH.out.2.2 HKK.out HV.out HG.out HBR.out.2, ?_⟩
  have hb3 : Below B w w3 := ((hb.mono HBR.out.1).alloc (Nat.le_trans HBR.out.1 hb.size) _).grown HG.out (by have := hb.size; have := HBR.out.1; simp; omega) (fun q hq => (World.ownsRow.lt HH.out.2.1 q hq).1)
  exact hb3.setCell (p := ⟨r, 0, none⟩) HBR.out.2 _
end Go.Proofs.YtpggkfdijmnmiaaGreat
namespace Go.Proofs.YtpggkfdijmnmiaaGreat
open Go.RowKit Limbs
theorem infoStr : (Tryz.prog.info? 9).map (fun i => (i.zero, i.size, i.bytes)) = some (some (.string ⟨#[]⟩), 1, 16) := by kernel_rfl
theorem apps {ops : Array Oper} {rest : List Oper} {o : Oper} {a : Act} {Q : Exit → Act → World → Prop} {w : World} {B : Nat} {v : Value} {n : Nat} {l : List Value} (b : ByteArray) (s x : Operand) (hgd : o.guard = none)
    (ho : o.op = .call { callee := .builtin .append, args := #[s, x], argTypes := #[44, 44] }) (hs : a.eval s = v) (hx : a.eval x = .slice (some ⟨w.heap.size, 0, none⟩) 1 1)
    (hI : w.ownsRow B 9 1 v n l) (hB : B ≤ w.heap.size) (hlen : n ≤ 1000000)
    (h : ∀ v' w', w'.ownsRow B 9 1 v' (n + 1) (l ++ [.string b]) → (w.alloc (.cells #[.string b] 9)).grownBy w' v.ownBlock → wpList Tryz.prog ops Q rest (a.put o.dst v') w') : wpList Tryz.prog ops Q (o :: rest) a (w.alloc (.cells #[.string b] 9)) := by
  obtain ⟨i0, hi, hz0, hz1, hz2⟩ := info_parts infoStr
  refine wpList_append_own _ hgd s x 44 ho B 9 i0 (.string ⟨#[]⟩) 1 16 Tryz.underlying44 hi hz0 hz1 hz2 rfl (by decide) v n _ hs (hI.alloc _) ⟨w.heap.size, 0, none⟩ 1 1 [.string b] hx rfl (World.news_of_block (heap_alloc_new w _)) (by simp [Value.oneCell']) (by unfold maxLen; omega) (by omega) (by simp; omega) ?_
  intro v' w' h1 h2 _
  exact h v' w' h1 h2
set_option maxHeartbeats 8000000 in
theorem kid_any {w : World} {g : Nat} {s : List UInt8} (h : Bk 121 w g (keyC s)) : Calls Tryz.prog 85 #[kpt g] w fun e w' => e = .returned (.string ⟨(kidOf s).toArray⟩) ∧ w = w' := by
  have c1 := h.cell 1
  unfold keyC at c1
  simp only [List.getElem?_toArray, List.getElem?_cons_succ, List.getElem?_cons_zero] at c1
  unfold kpt
  go_enter Tryz.func85, Tryz.ntmps85
  go_wp2_with fail
  go_returns
  exact ⟨rfl, rfl⟩
def kidV (k : Nat × List UInt8) : Value := .string ⟨(kidOf k.2).toArray⟩
theorem kidOf_len (s : List UInt8) : (kidOf s).length ≤ 281474976710656 := by
  unfold kidOf
  have := Hs.enc_len ((Hs.macL [107, 105, 100] s).take 9) 0 0 (by decide)
  have h9 : ((Hs.macL [107, 105, 100] s).take 9).length ≤ 9 := by simp; omega
  unfold Hs.b64L
  omega
set_option maxHeartbeats 16000000 in
theorem each_any {B : Nat} {w : World} {r : Nat} {ks : List (Nat × List UInt8)} (h : Rg B w r ks) (hl : ks.length ≤ 8) (hn : ks ≠ []) : Calls Tryz.prog 84 #[kpt r, .func (.func 85) #[] #[]] w fun e w' => ∃ v, e = .returned v ∧ w'.ownsRow w.heap.size 9 1 v ks.length (ks.map kidV) ∧ Below w.heap.size w w' := by
  obtain ⟨a, c, h1, h2, h3⟩ := h
  have hc : w.cell? ⟨r, 0, none⟩ = some (.slice (some ⟨a, 0, none⟩) ks.length c) := h1.cell 0
  have HH := Lib.hid (And.intro h1 (And.intro h2 h3))
  clear h1 h2 h3
  have hpos : 0 < ks.length := List.length_pos_iff.2 hn
  obtain ⟨i0, hi, hz0, hz1, hz2⟩ := info_parts infoStr
  obtain ⟨wm, hmk, hown, hgr⟩ := run_makeSlice_owned (P := Tryz.prog) (w := w) w.heap.size 44 9 i0 (.string ⟨#[]⟩) 1 Tryz.underlying44 hi hz0 hz1 .i64 .i64 ks.length (by omega) (by rw [hz2]; omega) (by unfold maxLen; omega) (Nat.le_refl _)
  have hbm : Below w.heap.size w wm := ⟨hgr.os, hgr.tape, hgr.output, hgr.size, fun k hk => hgr.block k hk (fun e => by cases e)⟩
  have HM := Lib.hid (And.intro hown hbm)
  have hc2 : wm.cell? ⟨r, 0, none⟩ = some (.slice (some ⟨a, 0, none⟩) ks.length c) := (HH.out.1.below hbm).cell 0
  clear hi hz0 hz1 hz2 hown hgr hbm hpos
  unfold kpt
  go_enter Tryz.func84, Tryz.ntmps84
  go_wp2_with fail
  clear hmk hc
  go_loopw [5, 19] (fun sv iv wr => ∃ i : Nat, i ≤ ks.length ∧ iv = .int .i64 (i : Int) ∧ Hid (wr.ownsRow w.heap.size 9 1 sv i ((ks.take i).map kidV)) ∧ Hid (Below w.heap.size w wr)) (fun _ iv _ => ks.length - (intOf iv).toNat)
  case atStart => exact ⟨0, Nat.zero_le _, rfl, Lib.hid HM.out.1, Lib.hid HM.out.2⟩
  case round =>
    obtain ⟨i, hi, rfl, ho, hb⟩ := hrel
    clear hc2
    by_cases hlt : i < ks.length
    · obtain ⟨k, hk⟩ : ∃ k, ks[i]'hlt = k := ⟨_, rfl⟩
      have hkm : k ∈ ks := hk ▸ List.getElem_mem hlt
      have K1 := (HH.out.2.2 k hkm).below hb.out
      have c0 : wr.cell? ⟨a, i, none⟩ = some (.pointer (some ⟨k.1, 0, none⟩)) := by
        have := (own_below HH.out.2.1 hb.out).cells (g := a) rfl i (kpt k.1) (by rw [List.getElem?_map, List.getElem?_eq_getElem hlt, hk]; rfl)
        by_cases h0 : i = 0
        · subst h0; simpa [Addr.add, kpt] using this
        · simpa [Addr.add, h0, kpt] using this
      have hltI : (i : Int) < (ks.length : Int) := by omega
      have hkid := kid_any K1
      unfold kpt at hkid
      have HKD := Lib.hid hkid
      have HT : Hid ((ks.take (i + 1)).map kidV = (ks.take i).map kidV ++ [.string ⟨(kidOf k.2).toArray⟩]) := Lib.hid (by rw [List.take_add_one, List.getElem?_eq_getElem hlt, hk]; simp [kidV])
      clear hkid K1 hk hkm
      go_wp2_with fail
      refine HKD.out.mono ?_
      rintro e w1 ⟨rfl, rfl⟩
      go_wp2_with fail
      refine (sclone_any (kidOf k.2) _ (kidOf_len _)).mono ?_
      rintro e w2 ⟨rfl, hb2⟩
      have hb3 := hb.out.trans (hb2.mono hb.out.size)
      have ho2 := own_below ho.out hb2
      go_wp2_with (at_builtin; refine apps _ _ _ rfl rfl rfl rfl ho2 hb3.size (by omega) ?_; intro v' w3 hv hG; obtain ⟨a2, c2, hv2⟩ := own_slice hv; subst hv2; have HV := Lib.hid hv; have HG := Lib.hid hG; clear hv hG)
      go_roundw
      case rel => exact ⟨i + 1, by omega, by go_num, Lib.hid (by rw [HT.out]; exact HV.out), Lib.hid ((hb3.alloc hb3.size _).grown HG.out (by have := hb3.size; simp; omega) (fun q hq => (World.ownsRow.lt ho2 q hq).1))⟩
      case measure => simp [intOf]; omega
    · have hie : i = ks.length := by omega
      have hltI : decide ((i : Int) < (ks.length : Int)) = false := decide_eq_false (by omega)
      go_wp2_with fail
      go_returns
      refine ⟨_, rfl, ?_, hb.out⟩
      have := ho.out
      rw [hie, List.take_length] at this
      exact this
set_option maxHeartbeats 8000000 in
theorem kids_any {B : Nat} {w : World} {r : Nat} {ks : List (Nat × List UInt8)} (h : Rg B w r ks) (hl : ks.length ≤ 8) (hn : ks ≠ []) : Calls Tryz.prog 31 #[kpt r] w fun e w' => ∃ v, e = .returned v ∧ w'.ownsRow w.heap.size 9 1 v ks.length (ks.map kidV) ∧ Below w.heap.size w w' := by
  obtain ⟨a, c, h1, h2, h3⟩ := h
  have hc : w.cell? ⟨r, 0, none⟩ = some (.slice (some ⟨a, 0, none⟩) ks.length c) := h1.cell 0
  have HH := Lib.hid (And.intro h1 (And.intro h2 h3))
  clear h1 h2 h3
  have hpos : 0 < ks.length := List.length_pos_iff.2 hn
  have HE := Lib.hid (each_any ⟨a, c, HH.out.1, HH.out.2.1, HH.out.2.2⟩ hl hn)
  clear hpos hc HH
  unfold kpt at HE ⊢
  go_enter Tryz.func31, Tryz.ntmps31
  go_wp2_with fail
  refine HE.out.mono ?_
  rintro e w1 ⟨v, rfl, ho, hb⟩
  go_wp2_with fail
  go_returns
  exact ⟨_, rfl, ho, hb⟩
end Go.Proofs.YtpggkfdijmnmiaaGreat
namespace Go.Proofs.YtpggkfdijmnmiaaGreat
open Go.RowKit Limbs
def jn (x y z : Nat) : Value := .agg #[.int .u64 (lb x 0 : Nat), .int .u64 (lb x 1 : Nat), .int .u64 (lb x 2 : Nat), .int .u64 (lb x 3 : Nat), .int .u64 (lb y 0 : Nat), .int .u64 (lb y 1 : Nat), .int .u64 (lb y 2 : Nat), .int .u64 (lb y 3 : Nat), .int .u64 (lb z 0 : Nat), .int .u64 (lb z 1 : Nat), .int .u64 (lb z 2 : Nat), .int .u64 (lb z 3 : Nat)]
def pn (x y : Nat) (i : Bool) : Value := .agg #[.int .u64 (lb x 0 : Nat), .int .u64 (lb x 1 : Nat), .int .u64 (lb x 2 : Nat), .int .u64 (lb x 3 : Nat), .int .u64 (lb y 0 : Nat), .int .u64 (lb y 1 : Nat), .int .u64 (lb y 2 : Nat), .int .u64 (lb y 3 : Nat), .bool i]
theorem u93 : Tryz.prog.underlying 162 = some (.struct (Tryz.prog.fieldsOf 162)) := by kernel_rfl
theorem u51 : Tryz.prog.underlying 26 = some (.struct (Tryz.prog.fieldsOf 26)) := by kernel_rfl
theorem i93 : (Tryz.prog.info? 162).map (·.size) = some 12 := by kernel_rfl
theorem i51 : (Tryz.prog.info? 26).map (·.size) = some 9 := by kernel_rfl
theorem part24 (xs : Array Value) (o : Nat) (h : o + 4 ≤ xs.size) (w : World) : (part 24 xs o).run Tryz.prog w = .ok (.agg (xs.extract o (o + 4))) w := by
  simp [part, go_sem, Tryz.underlying24, Tryz.isAgg24, Tryz.sizeOf24, h]
theorem eq24' (d : Nat) (a0 a1 a2 a3 b0 b1 b2 b3 : Int) (w : World) : (Op.equalIn (d + 2) 24 (.agg #[.int .u64 a0, .int .u64 a1, .int .u64 a2, .int .u64 a3]) (.agg #[.int .u64 b0, .int .u64 b1, .int .u64 b2, .int .u64 b3])).run Tryz.prog w = .ok (a0 == b0 && (a1 == b1 && (a2 == b2 && a3 == b3))) w := by
  obtain ⟨i, hi⟩ := info22
  rw [run_equalIn_array w (d + 1) _ _ u24 hi, cells22]
  have hr : List.range 4 = [0, 1, 2, 3] := rfl
  rw [hr]
  have e (a b : Int) (w : World) : (Op.equalIn (d + 1) 22 (.int .u64 a) (.int .u64 b)).run Tryz.prog w = .ok (a == b) w := run_equalIn_int w d 22 .u64 .u64 a b Tryz.underlying22
  have pa0 := one22 a0 0 #[.int .u64 a0, .int .u64 a1, .int .u64 a2, .int .u64 a3] rfl
  have pa1 := one22 a1 1 #[.int .u64 a0, .int .u64 a1, .int .u64 a2, .int .u64 a3] rfl
  have pa2 := one22 a2 2 #[.int .u64 a0, .int .u64 a1, .int .u64 a2, .int .u64 a3] rfl
  have pa3 := one22 a3 3 #[.int .u64 a0, .int .u64 a1, .int .u64 a2, .int .u64 a3] rfl
  have pb0 := one22 b0 0 #[.int .u64 b0, .int .u64 b1, .int .u64 b2, .int .u64 b3] rfl
  have pb1 := one22 b1 1 #[.int .u64 b0, .int .u64 b1, .int .u64 b2, .int .u64 b3] rfl
  have pb2 := one22 b2 2 #[.int .u64 b0, .int .u64 b1, .int .u64 b2, .int .u64 b3] rfl
  have pb3 := one22 b3 3 #[.int .u64 b0, .int .u64 b1, .int .u64 b2, .int .u64 b3] rfl
  simp only [Op.eqItems, Sem.run_bind, Nat.mul_one, pa0, pa1, pa2, pa3, pb0, pb1, pb2, pb3, Result.andThen_ok, e]
  cases h0 : (a0 == b0) <;> cases h1 : (a1 == b1) <;> cases h2 : (a2 == b2) <;> cases h3 : (a3 == b3) <;> simp [pa1, pa2, pa3, pb1, pb2, pb3, e, h0, h1, h2, h3, Op.eqItems]
theorem eqN' (d : Nat) (x y : Nat) (hx : x < W256) (hy : y < W256) (w : World) : (Op.equalIn (d + 2) 24 (.agg #[.int .u64 (lb x 0 : Nat), .int .u64 (lb x 1 : Nat), .int .u64 (lb x 2 : Nat), .int .u64 (lb x 3 : Nat)]) (.agg #[.int .u64 (lb y 0 : Nat), .int .u64 (lb y 1 : Nat), .int .u64 (lb y 2 : Nat), .int .u64 (lb y 3 : Nat)])).run Tryz.prog w = .ok (decide (x = y)) w := by
  rw [eq24']
  congr 1
  rw [Bool.eq_iff_iff]
  simp only [Bool.and_eq_true, beq_iff_eq, decide_eq_true_eq]
  constructor
  · rintro ⟨h0, h1, h2, h3⟩
    rw [← v4_lb hx, ← v4_lb hy, show lb x 0 = lb y 0 by omega, show lb x 1 = lb y 1 by omega, show lb x 2 = lb y 2 by omega, show lb x 3 = lb y 3 by omega]
  · rintro rfl; simp
theorem eqJ (x y z x' y' z' : Nat) (hx : x < W256) (hy : y < W256) (hz : z < W256) (hx' : x' < W256) (hy' : y' < W256) (hz' : z' < W256) (w : World) : (Op.equalIn 10000 162 (jn x y z) (jn x' y' z')).run Tryz.prog w = .ok (decide (x = x' ∧ y = y' ∧ z = z')) w := by
  unfold jn
  rw [show (10000 : Nat) = 9999 + 1 from rfl, run_equalIn_struct w 9999 162 _ _ u93 (by kernel_rfl)]
  have h1 := eqN' 9997 x x' hx hx' w
  have h2 := eqN' 9997 y y' hy hy' w
  have h3 := eqN' 9997 z z' hz hz' w
  have a0 : (part 24 #[.int .u64 (lb x 0 : Nat), .int .u64 (lb x 1 : Nat), .int .u64 (lb x 2 : Nat), .int .u64 (lb x 3 : Nat), .int .u64 (lb y 0 : Nat), .int .u64 (lb y 1 : Nat), .int .u64 (lb y 2 : Nat), .int .u64 (lb y 3 : Nat), .int .u64 (lb z 0 : Nat), .int .u64 (lb z 1 : Nat), .int .u64 (lb z 2 : Nat), .int .u64 (lb z 3 : Nat)] 0).run Tryz.prog w = .ok (.agg #[.int .u64 (lb x 0 : Nat), .int .u64 (lb x 1 : Nat), .int .u64 (lb x 2 : Nat), .int .u64 (lb x 3 : Nat)]) w := part24 _ _ (by simp) w
  have a1 : (part 24 #[.int .u64 (lb x 0 : Nat), .int .u64 (lb x 1 : Nat), .int .u64 (lb x 2 : Nat), .int .u64 (lb x 3 : Nat), .int .u64 (lb y 0 : Nat), .int .u64 (lb y 1 : Nat), .int .u64 (lb y 2 : Nat), .int .u64 (lb y 3 : Nat), .int .u64 (lb z 0 : Nat), .int .u64 (lb z 1 : Nat), .int .u64 (lb z 2 : Nat), .int .u64 (lb z 3 : Nat)] 4).run Tryz.prog w = .ok (.agg #[.int .u64 (lb y 0 : Nat), .int .u64 (lb y 1 : Nat), .int .u64 (lb y 2 : Nat), .int .u64 (lb y 3 : Nat)]) w := part24 _ _ (by simp) w
  have a2 : (part 24 #[.int .u64 (lb x 0 : Nat), .int .u64 (lb x 1 : Nat), .int .u64 (lb x 2 : Nat), .int .u64 (lb x 3 : Nat), .int .u64 (lb y 0 : Nat), .int .u64 (lb y 1 : Nat), .int .u64 (lb y 2 : Nat), .int .u64 (lb y 3 : Nat), .int .u64 (lb z 0 : Nat), .int .u64 (lb z 1 : Nat), .int .u64 (lb z 2 : Nat), .int .u64 (lb z 3 : Nat)] 8).run Tryz.prog w = .ok (.agg #[.int .u64 (lb z 0 : Nat), .int .u64 (lb z 1 : Nat), .int .u64 (lb z 2 : Nat), .int .u64 (lb z 3 : Nat)]) w := part24 _ _ (by simp) w
  have b0 : (part 24 #[.int .u64 (lb x' 0 : Nat), .int .u64 (lb x' 1 : Nat), .int .u64 (lb x' 2 : Nat), .int .u64 (lb x' 3 : Nat), .int .u64 (lb y' 0 : Nat), .int .u64 (lb y' 1 : Nat), .int .u64 (lb y' 2 : Nat), .int .u64 (lb y' 3 : Nat), .int .u64 (lb z' 0 : Nat), .int .u64 (lb z' 1 : Nat), .int .u64 (lb z' 2 : Nat), .int .u64 (lb z' 3 : Nat)] 0).run Tryz.prog w = .ok (.agg #[.int .u64 (lb x' 0 : Nat), .int .u64 (lb x' 1 : Nat), .int .u64 (lb x' 2 : Nat), .int .u64 (lb x' 3 : Nat)]) w := part24 _ _ (by simp) w
  have b1 : (part 24 #[.int .u64 (lb x' 0 : Nat), .int .u64 (lb x' 1 : Nat), .int .u64 (lb x' 2 : Nat), .int .u64 (lb x' 3 : Nat), .int .u64 (lb y' 0 : Nat), .int .u64 (lb y' 1 : Nat), .int .u64 (lb y' 2 : Nat), .int .u64 (lb y' 3 : Nat), .int .u64 (lb z' 0 : Nat), .int .u64 (lb z' 1 : Nat), .int .u64 (lb z' 2 : Nat), .int .u64 (lb z' 3 : Nat)] 4).run Tryz.prog w = .ok (.agg #[.int .u64 (lb y' 0 : Nat), .int .u64 (lb y' 1 : Nat), .int .u64 (lb y' 2 : Nat), .int .u64 (lb y' 3 : Nat)]) w := part24 _ _ (by simp) w
  have b2 : (part 24 #[.int .u64 (lb x' 0 : Nat), .int .u64 (lb x' 1 : Nat), .int .u64 (lb x' 2 : Nat), .int .u64 (lb x' 3 : Nat), .int .u64 (lb y' 0 : Nat), .int .u64 (lb y' 1 : Nat), .int .u64 (lb y' 2 : Nat), .int .u64 (lb y' 3 : Nat), .int .u64 (lb z' 0 : Nat), .int .u64 (lb z' 1 : Nat), .int .u64 (lb z' 2 : Nat), .int .u64 (lb z' 3 : Nat)] 8).run Tryz.prog w = .ok (.agg #[.int .u64 (lb z' 0 : Nat), .int .u64 (lb z' 1 : Nat), .int .u64 (lb z' 2 : Nat), .int .u64 (lb z' 3 : Nat)]) w := part24 _ _ (by simp) w
  have f1 : ("x" ≠ "_") = True := by simp
  have f2 : ("y" ≠ "_") = True := by simp
  have f3 : ("z" ≠ "_") = True := by simp
  simp only [Program.fieldsOf, Tryz.underlying162, Op.eqFields, f1, f2, f3, if_true, Sem.run_bind, a0, b0, Result.andThen_ok, h1]
  rw [show decide (x = x' ∧ y = y' ∧ z = z') = (decide (x = x') && (decide (y = y') && decide (z = z'))) from by rw [Bool.decide_and, Bool.decide_and]]
  clear a0 b0 h1
  generalize decide (x = x') = c1
  generalize decide (y = y') = c2 at h2 ⊢
  generalize decide (z = z') = c3 at h3 ⊢
  cases c1 <;> cases c2 <;> cases c3 <;> simp only [Bool.and_true, Bool.and_false, Bool.true_and, Bool.false_and, a1, a2, b1, b2, h2, h3, decide_true, decide_false, Bool.not_true, Bool.not_false, Bool.false_eq_true, if_true, if_false, Sem.run_bind, Sem.run_pure, Result.andThen_ok, and_true, and_false, true_and, false_and]
theorem eqP (x y x' y' : Nat) (i i' : Bool) (hx : x < W256) (hy : y < W256) (hx' : x' < W256) (hy' : y' < W256) (w : World) : (Op.equalIn 10000 26 (pn x y i) (pn x' y' i')).run Tryz.prog w = .ok (decide (x = x' ∧ y = y' ∧ i = i')) w := by
  unfold pn
  rw [show (10000 : Nat) = 9999 + 1 from rfl, run_equalIn_struct w 9999 26 _ _ u51 (by kernel_rfl)]
  have h1 := eqN' 9997 x x' hx hx' w
  have h2 := eqN' 9997 y y' hy hy' w
  have h3 : (Op.equalIn 9999 4 (.bool i) (.bool i')).run Tryz.prog w = .ok (i == i') w := run_equalIn_bool' w 9998 4 i i' Tryz.underlying4
  have a0 : (part 24 #[.int .u64 (lb x 0 : Nat), .int .u64 (lb x 1 : Nat), .int .u64 (lb x 2 : Nat), .int .u64 (lb x 3 : Nat), .int .u64 (lb y 0 : Nat), .int .u64 (lb y 1 : Nat), .int .u64 (lb y 2 : Nat), .int .u64 (lb y 3 : Nat), .bool i] 0).run Tryz.prog w = .ok (.agg #[.int .u64 (lb x 0 : Nat), .int .u64 (lb x 1 : Nat), .int .u64 (lb x 2 : Nat), .int .u64 (lb x 3 : Nat)]) w := part24 _ _ (by simp) w
  have a1 : (part 24 #[.int .u64 (lb x 0 : Nat), .int .u64 (lb x 1 : Nat), .int .u64 (lb x 2 : Nat), .int .u64 (lb x 3 : Nat), .int .u64 (lb y 0 : Nat), .int .u64 (lb y 1 : Nat), .int .u64 (lb y 2 : Nat), .int .u64 (lb y 3 : Nat), .bool i] 4).run Tryz.prog w = .ok (.agg #[.int .u64 (lb y 0 : Nat), .int .u64 (lb y 1 : Nat), .int .u64 (lb y 2 : Nat), .int .u64 (lb y 3 : Nat)]) w := part24 _ _ (by simp) w
  have a2 : (part 4 #[.int .u64 (lb x 0 : Nat), .int .u64 (lb x 1 : Nat), .int .u64 (lb x 2 : Nat), .int .u64 (lb x 3 : Nat), .int .u64 (lb y 0 : Nat), .int .u64 (lb y 1 : Nat), .int .u64 (lb y 2 : Nat), .int .u64 (lb y 3 : Nat), .bool i] 8).run Tryz.prog w = .ok (.bool i) w := by
    have : #[.int .u64 (lb x 0 : Nat), .int .u64 (lb x 1 : Nat), .int .u64 (lb x 2 : Nat), .int .u64 (lb x 3 : Nat), .int .u64 (lb y 0 : Nat), .int .u64 (lb y 1 : Nat), .int .u64 (lb y 2 : Nat), .int .u64 (lb y 3 : Nat), .bool i][8]? = some (Value.bool i) := rfl
    simp [part, go_sem, Tryz.underlying4, Tryz.isAgg4, Tryz.sizeOf4]
  have b0 : (part 24 #[.int .u64 (lb x' 0 : Nat), .int .u64 (lb x' 1 : Nat), .int .u64 (lb x' 2 : Nat), .int .u64 (lb x' 3 : Nat), .int .u64 (lb y' 0 : Nat), .int .u64 (lb y' 1 : Nat), .int .u64 (lb y' 2 : Nat), .int .u64 (lb y' 3 : Nat), .bool i'] 0).run Tryz.prog w = .ok (.agg #[.int .u64 (lb x' 0 : Nat), .int .u64 (lb x' 1 : Nat), .int .u64 (lb x' 2 : Nat), .int .u64 (lb x' 3 : Nat)]) w := part24 _ _ (by simp) w
  have b1 : (part 24 #[.int .u64 (lb x' 0 : Nat), .int .u64 (lb x' 1 : Nat), .int .u64 (lb x' 2 : Nat), .int .u64 (lb x' 3 : Nat), .int .u64 (lb y' 0 : Nat), .int .u64 (lb y' 1 : Nat), .int .u64 (lb y' 2 : Nat), .int .u64 (lb y' 3 : Nat), .bool i'] 4).run Tryz.prog w = .ok (.agg #[.int .u64 (lb y' 0 : Nat), .int .u64 (lb y' 1 : Nat), .int .u64 (lb y' 2 : Nat), .int .u64 (lb y' 3 : Nat)]) w := part24 _ _ (by simp) w
  have b2 : (part 4 #[.int .u64 (lb x' 0 : Nat), .int .u64 (lb x' 1 : Nat), .int .u64 (lb x' 2 : Nat), .int .u64 (lb x' 3 : Nat), .int .u64 (lb y' 0 : Nat), .int .u64 (lb y' 1 : Nat), .int .u64 (lb y' 2 : Nat), .int .u64 (lb y' 3 : Nat), .bool i'] 8).run Tryz.prog w = .ok (.bool i') w := by
    have : #[.int .u64 (lb x' 0 : Nat), .int .u64 (lb x' 1 : Nat), .int .u64 (lb x' 2 : Nat), .int .u64 (lb x' 3 : Nat), .int .u64 (lb y' 0 : Nat), .int .u64 (lb y' 1 : Nat), .int .u64 (lb y' 2 : Nat), .int .u64 (lb y' 3 : Nat), .bool i'][8]? = some (Value.bool i') := rfl
    simp [part, go_sem, Tryz.underlying4, Tryz.isAgg4, Tryz.sizeOf4]
  have f1 : ("X" ≠ "_") = True := by simp
  have f2 : ("Y" ≠ "_") = True := by simp
  have f3 : ("Inf" ≠ "_") = True := by simp
  simp only [Program.fieldsOf, Tryz.underlying26, Op.eqFields, f1, f2, f3, if_true, Sem.run_bind, a0, b0, Result.andThen_ok, h1]
  rw [show decide (x = x' ∧ y = y' ∧ i = i') = (decide (x = x') && (decide (y = y') && (i == i'))) from by rw [Bool.decide_and, Bool.decide_and]; cases i <;> cases i' <;> rfl]
  clear a0 b0 h1
  generalize decide (x = x') = c1
  generalize decide (y = y') = c2 at h2 ⊢
  generalize (i == i') = c3 at h3 ⊢
  cases c1 <;> cases c2 <;> cases c3 <;> simp only [Bool.and_true, Bool.and_false, Bool.true_and, Bool.false_and, a1, a2, b1, b2, h2, h3, decide_true, decide_false, Bool.not_true, Bool.not_false, Bool.false_eq_true, if_true, if_false, Sem.run_bind, Sem.run_pure, Result.andThen_ok, and_true, and_false, true_and, false_and]
end Go.Proofs.YtpggkfdijmnmiaaGreat
namespace Go.Proofs.YtpggkfdijmnmiaaGreat
open Go.RowKit Go.Sort Limbs
theorem mul_c (a b : Nat) (ha : a < W256) (hb : b < W256) (w : World) :
    Calls Tryz.prog 108 #[nv a, nv b] w fun e w' => e = .returned (nv (a * b % mP)) ∧ Below w.heap.size w w' := by
  have h0 := mul_any 0 a b ha hb
  rw [md0] at h0
  have HS := Lib.hid h0
  clear h0
  generalize a * b % mP = res at *
  simp only [nv, num] at HS ⊢
  go_enter Tryz.func108, Tryz.ntmps108
  go_wp2_with fail
  refine (keep w.heap.size w (HS.out _) (by go_grown) (Nat.le_refl _)).mono ?_
  rintro e w1 ⟨rfl, hb, hk⟩
  have KR : Hid (Bk 24 w1 (w.heap.size + 1 + 1) cs0) := Lib.hid (Bk.below (Bk.new (by simp)) hk)
  have HB := Lib.hid hb
  clear hk hb
  obtain ⟨j0, j1, j2, j3⟩ := KR.out.cells
  obtain ⟨f0, f1, f2, f3⟩ := KR.out.fros
  go_wp2_with fail
  refine ret_cell rfl (w.heap.size + 1 + 1) res rfl (Bk.put KR.out) rfl ⟨rfl, ?_⟩
  have hb := HB.out
  go_grown
theorem add_c (a b : Nat) (ha : a < W256) (hb : b < W256) (w : World) :
    Calls Tryz.prog 109 #[nv a, nv b] w fun e w' => e = .returned (nv ((a + b) % mP)) ∧ Below w.heap.size w w' := by
  have h0 := add_any 0 a b ha hb
  rw [md0] at h0
  have HS := Lib.hid h0
  clear h0
  generalize (a + b) % mP = res at *
  simp only [nv, num] at HS ⊢
  go_enter Tryz.func109, Tryz.ntmps109
  go_wp2_with fail
  refine (keep w.heap.size w (HS.out _) (by go_grown) (Nat.le_refl _)).mono ?_
  rintro e w1 ⟨rfl, hb, hk⟩
  have KR : Hid (Bk 24 w1 (w.heap.size + 1 + 1) cs0) := Lib.hid (Bk.below (Bk.new (by simp)) hk)
  have HB := Lib.hid hb
  clear hk hb
  obtain ⟨j0, j1, j2, j3⟩ := KR.out.cells
  obtain ⟨f0, f1, f2, f3⟩ := KR.out.fros
  go_wp2_with fail
  refine ret_cell rfl (w.heap.size + 1 + 1) res rfl (Bk.put KR.out) rfl ⟨rfl, ?_⟩
  have hb := HB.out
  go_grown
theorem sub_c (a b : Nat) (ha : a < W256) (hb : b < W256) (w : World) :
    Calls Tryz.prog 110 #[nv a, nv b] w fun e w' => e = .returned (nv ((a + (mP - b % mP)) % mP)) ∧ Below w.heap.size w w' := by
  have h0 := sub_any 0 a b ha hb
  rw [md0] at h0
  have HS := Lib.hid h0
  clear h0
  generalize (a + (mP - b % mP)) % mP = res at *
  simp only [nv, num] at HS ⊢
  go_enter Tryz.func110, Tryz.ntmps110
  go_wp2_with fail
  refine (keep w.heap.size w (HS.out _) (by go_grown) (Nat.le_refl _)).mono ?_
  rintro e w1 ⟨rfl, hb, hk⟩
  have KR : Hid (Bk 24 w1 (w.heap.size + 1 + 1) cs0) := Lib.hid (Bk.below (Bk.new (by simp)) hk)
  have HB := Lib.hid hb
  clear hk hb
  obtain ⟨j0, j1, j2, j3⟩ := KR.out.cells
  obtain ⟨f0, f1, f2, f3⟩ := KR.out.fros
  go_wp2_with fail
  refine ret_cell rfl (w.heap.size + 1 + 1) res rfl (Bk.put KR.out) rfl ⟨rfl, ?_⟩
  have hb := HB.out
  go_grown
set_option maxHeartbeats 4000000 in
theorem triple_c (a : Nat) (ha : a < W256) (w : World) :
    Calls Tryz.prog 111 #[nv a] w fun e w' => e = .returned (nv (((a + a) % mP + a) % mP)) ∧ Below w.heap.size w w' := by
  have H1 := Lib.hid (add_c a a ha ha)
  have h2 : (a + a) % mP < W256 := Nat.lt_trans (Nat.mod_lt _ (by decide +kernel)) (by decide +kernel)
  have H2 := Lib.hid (add_c _ a h2 ha)
  clear h2
  generalize ((a + a) % mP + a) % mP = res at *
  generalize (a + a) % mP = two at *
  simp only [nv, num] at H1 H2 ⊢
  go_enter Tryz.func111, Tryz.ntmps111
  go_wp2_with fail
  have KA : Hid (Bk 24 ((w.alloc (.cells #[.int .u64 (lb a 0 : Nat), .int .u64 (lb a 1 : Nat), .int .u64 (lb a 2 : Nat), .int .u64 (lb a 3 : Nat)] 24)).alloc (.cells #[.int .u64 0, .int .u64 0, .int .u64 0, .int .u64 0] 24)) w.heap.size #[.int .u64 (lb a 0 : Nat), .int .u64 (lb a 1 : Nat), .int .u64 (lb a 2 : Nat), .int .u64 (lb a 3 : Nat)]) := Lib.hid (Bk.alloc (Bk.new rfl))
  have KR : Hid (Bk 24 ((w.alloc (.cells #[.int .u64 (lb a 0 : Nat), .int .u64 (lb a 1 : Nat), .int .u64 (lb a 2 : Nat), .int .u64 (lb a 3 : Nat)] 24)).alloc (.cells #[.int .u64 0, .int .u64 0, .int .u64 0, .int .u64 0] 24)) (w.heap.size + 1) #[.int .u64 0, .int .u64 0, .int .u64 0, .int .u64 0]) := Lib.hid (Bk.new (by simp))
  have HB : Hid (Below w.heap.size w ((w.alloc (.cells #[.int .u64 (lb a 0 : Nat), .int .u64 (lb a 1 : Nat), .int .u64 (lb a 2 : Nat), .int .u64 (lb a 3 : Nat)] 24)).alloc (.cells #[.int .u64 0, .int .u64 0, .int .u64 0, .int .u64 0] 24))) := Lib.hid (by go_grown)
  generalize ((w.alloc (.cells #[.int .u64 (lb a 0 : Nat), .int .u64 (lb a 1 : Nat), .int .u64 (lb a 2 : Nat), .int .u64 (lb a 3 : Nat)] 24)).alloc (.cells #[.int .u64 0, .int .u64 0, .int .u64 0, .int .u64 0] 24)) = W at KA KR HB ⊢
  obtain ⟨gr, hgr⟩ : ∃ z, z = w.heap.size + 1 := ⟨_, rfl⟩
  rw [← hgr] at KR ⊢
  have HG := Lib.hid (show w.heap.size ≤ gr by omega)
  clear hgr
  obtain ⟨a0, a1, a2, a3⟩ := KA.out.reg
  refine wp_region_below_tail 5 mixed (by kernel_rfl) ?_
  simp only [List.take_succ_cons, List.take_zero, List.drop_succ_cons, List.drop_zero]
  iterate 2 go_big_quiet_step (fail)
  go_big_quiet_step (exact qg H1.out)
  go_big_quiet_step (fail)
  go_big_quiet_step (exact qg H2.out)
  refine wpQuiet_nil ?_
  intro _ hw'
  obtain ⟨⟨dq, osq⟩, hw''⟩ := hw'
  subst hw''
  have KR2 := Lib.hid (KR.out.regrown dq osq)
  have HB2 := Lib.hid (HB.out.trans ((below_regrown W dq osq).mono HB.out.size))
  clear KA KR HB a0 a1 a2 a3
  generalize grow (redrawn W dq) osq = V at KR2 HB2 ⊢
  obtain ⟨f0, f1, f2, f3⟩ := KR2.out.fros
  obtain ⟨c0, c1, c2, c3⟩ := KR2.out.cells
  go_wp2_with fail
  refine ret_cell rfl gr res rfl (Bk.put KR2.out) rfl ⟨rfl, ?_⟩
  have hb := HB2.out
  have hg := HG.out
  go_grown
theorem below_c_eq {a : Nat} (ha : a < W256) : decide ((a + 0) % mP = a) = decide (a < mP) := by
  rw [Nat.add_zero]
  by_cases h : a < mP
  · rw [Nat.mod_eq_of_lt h]; simp [h]
  · have := Nat.mod_lt a (show 0 < mP by decide +kernel)
    simp [h]; omega
set_option maxHeartbeats 4000000 in
theorem below_c (a : Nat) (ha : a < W256) (w : World) :
    Calls Tryz.prog 107 #[nv a] w fun e w' => e = .returned (.bool (decide (a < mP))) ∧ Below w.heap.size w w' := by
  rw [← below_c_eq ha]
  have H1 := Lib.hid (add_c a 0 ha (by decide))
  have h2 : (a + 0) % mP < W256 := Nat.lt_trans (Nat.mod_lt _ (by decide +kernel)) (by decide +kernel)
  have HE := Lib.hid (eqN _ a h2 ha)
  clear h2
  generalize (a + 0) % mP = one at *
  have e0 : nv 0 = .agg #[.int .u64 0, .int .u64 0, .int .u64 0, .int .u64 0] := rfl
  rw [e0] at H1
  obtain ⟨res, hres⟩ : ∃ z, z = decide (one = a) := ⟨_, rfl⟩
  rw [← hres] at HE ⊢
  clear hres ha
  simp only [nv, num] at H1 ⊢
  go_enter Tryz.func107, Tryz.ntmps107
  go_wp2_with fail
  have KA : Hid (Bk 24 (w.alloc (.cells #[.int .u64 (lb a 0 : Nat), .int .u64 (lb a 1 : Nat), .int .u64 (lb a 2 : Nat), .int .u64 (lb a 3 : Nat)] 24)) w.heap.size #[.int .u64 (lb a 0 : Nat), .int .u64 (lb a 1 : Nat), .int .u64 (lb a 2 : Nat), .int .u64 (lb a 3 : Nat)]) := Lib.hid (Bk.new rfl)
  have HB : Hid (Below w.heap.size w (w.alloc (.cells #[.int .u64 (lb a 0 : Nat), .int .u64 (lb a 1 : Nat), .int .u64 (lb a 2 : Nat), .int .u64 (lb a 3 : Nat)] 24))) := Lib.hid (by go_grown)
  generalize (w.alloc (.cells #[.int .u64 (lb a 0 : Nat), .int .u64 (lb a 1 : Nat), .int .u64 (lb a 2 : Nat), .int .u64 (lb a 3 : Nat)] 24)) = W at KA HB ⊢
  obtain ⟨a0, a1, a2, a3⟩ := KA.out.reg
  have heq := HE.out
  refine wp_region_quiet_below mixed (by kernel_rfl) ?_
  iterate 2 go_big_quiet_step (fail)
  go_big_quiet_step (exact qg H1.out)
  repeat (first | go_big_quiet_step (fail) | quiet_step (fail))
  refine wpQuiet_nil ?_
  intro _ hw'
  obtain ⟨⟨dq, osq⟩, hw''⟩ := hw'
  subst hw''
  have HB2 := Lib.hid (HB.out.trans ((below_regrown W dq osq).mono HB.out.size))
  go_wp2_with fail
  go_ret
  exact ⟨rfl, HB2.out⟩
end Go.Proofs.YtpggkfdijmnmiaaGreat
