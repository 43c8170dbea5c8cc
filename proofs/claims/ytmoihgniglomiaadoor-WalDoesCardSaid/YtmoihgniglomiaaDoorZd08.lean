/- The document's disk: After, Files. No condition but the disk's own. The document's disk: Files, the power goes, changes are counted; Revive, Crash, Arm, Read, Size. No condition but the disk's own. The document's disk: Sync, Cut, Copy, New. No condition but the disk's own. The document's disk: Append, New. No condition but the disk's own, and the text's length. -/
import Derived.Test.YtmoihgniglomiaaDoorZd07
import Derived.Test.YtmoihgniglomiaaDoorZd06
set_option linter.unusedVariables false
set_option linter.unusedSimpArgs false
set_option maxRecDepth 100000
namespace Go.Proofs.YtmoihgniglomiaaDoor
open Go.RowKit Go.Sort
theorem wp_byte {ops : Array Oper} {rest : List Oper} {o : Oper} {a : Act} {Q : Exit → Act → World → Prop} {W : World} (hgd : o.guard = none) (s x : Operand) (ho : o.op = .call { callee := .builtin .append, args := #[s, x], argTypes := #[80, 80] })
    (g cap n q c : Nat) (l : List UInt8) (b : UInt8) (hs : a.eval s = .slice (some ⟨g, 0, none⟩) n cap) (hx : a.eval x = .slice (some ⟨q, 0, none⟩) 1 c) (hn : n = l.length) (hI : By W g cap l) (hq : Bk 5 W q #[.int .u8 (b.toNat : Int)]) (hlen : l.length + 1 ≤ 140737488355328)
    (h : ∀ g' cap' w', By w' g' cap' (l ++ [b]) → Only [g] W w' → (g' = g ∨ g' = W.heap.size) → wpList Tryd.prog ops Q rest (a.put o.dst (.slice (some ⟨g', 0, none⟩) (l.length + 1) cap')) w') : wpList Tryd.prog ops Q (o :: rest) a W := by
  obtain ⟨g', cap', w', hrun, hb, ho', hg'⟩ := app_byte W o.type g cap l q c b n hn hI hq hlen
  exact Lib.wpList_append_run W hgd s x 80 80 ho _ _ hs hx _ w' hrun (h g' cap' w' hb ho' hg')
structure AB (w wr : World) (ga ca gb cb : Nat) (la lb : List UInt8) : Prop where
  a : By wr ga ca la
  b : By wr gb cb lb
  ne : ga ≠ gb
  la : w.heap.size ≤ ga
  lb : w.heap.size ≤ gb
  below : Below w.heap.size w wr
theorem AB.stepA {w wr w1 w2 : World} {ga ca gb cb g' c' : Nat} {la lb la' : List UInt8} (h : AB w wr ga ca gb cb la lb) (hb : Below wr.heap.size wr w1) (hy : By w2 g' c' la') (ho : Only [ga] w1 w2) (hg : g' = ga ∨ g' = w1.heap.size) : AB w w2 g' c' gb cb la' lb := by
  have hs := hb.size
  have hblt := h.b.lt
  have h1 := h.below.size
  have h2 := h.la
  have h3 := h.ne
  refine ⟨hy, (h.b.below hb).only ho (by simp; exact fun e => h3 e.symm), ?_, ?_, h.lb, (h.below.trans (hb.mono h1)).trans (ho.below (by omega) (by simp; omega))⟩
  · rcases hg with rfl | rfl <;> omega
  · rcases hg with rfl | rfl <;> omega
theorem AB.stepB {w wr w1 w2 : World} {ga ca gb cb g' c' : Nat} {la lb lb' : List UInt8} (h : AB w wr ga ca gb cb la lb) (hb : Below wr.heap.size wr w1) (hy : By w2 g' c' lb') (ho : Only [gb] w1 w2) (hg : g' = gb ∨ g' = w1.heap.size) : AB w w2 ga ca g' c' la lb' := by
  have hs := hb.size
  have halt := h.a.lt
  have h1 := h.below.size
  have h2 := h.lb
  have h3 := h.ne
  refine ⟨(h.a.below hb).only ho (by simp; exact fun e => h3 e), hy, ?_, h.la, ?_, (h.below.trans (hb.mono h1)).trans (ho.below (by omega) (by simp; omega))⟩
  · rcases hg with rfl | rfl <;> omega
  · rcases hg with rfl | rfl <;> omega
theorem pick0_succ (l : List (Nat × UInt8)) (i : Nat) (hi : i < l.length) : pick0 (l.take (i + 1)) = pick0 (l.take i) ++ if l[i].1 = 0 then [l[i].2] else [] := by
  rw [List.take_succ_eq_append_getElem hi, pick0_app]
  congr 1
  by_cases h : l[i].1 = 0 <;> simp [pick0, h]
theorem pick1_succ (l : List (Nat × UInt8)) (i : Nat) (hi : i < l.length) : pick1 (l.take (i + 1)) = pick1 (l.take i) ++ if l[i].1 = 0 then [] else [l[i].2] := by
  rw [List.take_succ_eq_append_getElem hi, pick1_app]
  congr 1
  by_cases h : l[i].1 = 0 <;> simp [pick1, h]
theorem pick0_le (l : List (Nat × UInt8)) : (pick0 l).length ≤ l.length := by unfold pick0; exact List.length_filterMap_le _ _
theorem pick1_le (l : List (Nat × UInt8)) : (pick1 l).length ≤ l.length := by unfold pick1; exact List.length_filterMap_le _ _
set_option maxHeartbeats 16000000 in
theorem after39 (r : Nat) (S : St) (uv : Value) (kp k : Int) (w : World) (h : Rk w r S uv kp) :
    Calls Tryd.prog 62 #[.pointer (some ⟨r, 0, none⟩), .int .i64 k] w fun e w' => (∃ v, e = .returned v ∧ Two w.heap.size w' v (S.after k).1 (S.after k).2) ∧ Below w.heap.size w w' := by
  have haf := St.un_after h.wf k.toNat
  have hlen := un_small h.wf
  have hsz : (S.f0.take S.s0).length ≤ 1048576 ∧ (S.f1.take S.s1).length ≤ 1048576 := by
    have := h.wf.l0
    have := h.wf.l1
    simp only [List.length_take]
    omega
  unfold St.after
  rw [← haf.1, ← haf.2]
  obtain ⟨K, hK⟩ : ∃ K : Nat, k.toNat = K := ⟨_, rfl⟩
  have HK := Lib.hid hK
  rw [hK]
  clear hK
  obtain ⟨a, c, rfl, hcell⟩ := owns_len rfl h.row
  have KR := Lib.hid h.blk
  have ROW := Lib.hid h.row
  clear h haf
  generalize S.f0.take S.s0 = sa at hsz KR ⊢
  generalize S.f1.take S.s1 = sb at hsz KR ⊢
  generalize (S.inn : Int) = inn at KR
  generalize S.gone = gn at KR
  generalize S.un = l at hcell hlen KR ROW ⊢
  clear S
  obtain ⟨n, hn⟩ : ∃ n, n = l.length := ⟨_, rfl⟩
  have HL : Hid (l.length = n) := Lib.hid hn.symm
  rw [← hn] at KR hlen
  have HC : Hid (∀ wr, Below w.heap.size w wr → ∀ i (hi : i < l.length), ∃ g, a = some ⟨g, 0, none⟩ ∧ wr.cell? ⟨g, i * 2, none⟩ = some (.int .i64 (l[i].1 : Int)) ∧ wr.cell? ⟨g, i * 2 + 1, none⟩ = some (.int .u8 (l[i].2.toNat : Int))) := Lib.hid (fun wr hb i hi => by
    obtain ⟨g, ha, h0, h1⟩ := hcell i hi
    exact ⟨g, ha, (hb.cell (block_lt_of_cell h0)).trans h0, (hb.cell (block_lt_of_cell h1)).trans h1⟩)
  have HS := Lib.hid hsz
  have HLE := Lib.hid hlen
  have HBa : ∀ s : List UInt8, s.length ≤ 1048576 → (⟨s.toArray⟩ : ByteArray).size ≤ maxLen := fun s hs => by rw [size_ba]; unfold maxLen; omega
  have e0 : pick0 (l.take 0) = [] := rfl
  have e1 : pick1 (l.take 0) = [] := rfl
  clear hcell hn hsz ROW hlen
  go_enter Tryd.func62, Tryd.ntmps62
  go_wp2_with fail
  refine ra1 r k _ _ _ _ _ _ w KR.out ⟨HBa _ HS.out.1, HBa _ HS.out.2⟩ ?_
  rintro y4 y9 w1 hb1 hc4 hc9 hsep
  obtain ⟨ga, ca, rfl, hya, hla⟩ := hc4
  obtain ⟨gb, cb, rfl, hyb, hlb⟩ := hc9
  rw [size_ba] at *
  have J1 : Hid (AB w w1 ga ca gb cb sa sb) := Lib.hid ⟨hya, hyb, fun e => hsep ga rfl (by rw [e]; rfl), hla, hlb, hb1⟩
  clear hb1 hya hyb hla hlb hsep HBa
  simp only [ra1O, findR, Tryd.f62, Option.bind_some, Option.or, Option.getD, Nat.reduceEqDiff, if_true, if_false, reduceIte, List.drop_succ_cons, List.drop_zero]
  go_wp2_with fail
  go_loopw [5, 6, 7] (fun av bv iv wr => ∃ (i ga ca gb cb : Nat) (la lb : List UInt8), i ≤ n ∧ i ≤ K ∧ iv = .int .i64 (i : Int) ∧ av = .slice (some ⟨ga, 0, none⟩) la.length ca ∧ bv = .slice (some ⟨gb, 0, none⟩) lb.length cb ∧ Hid (la = sa ++ pick0 (l.take i)) ∧ Hid (lb = sb ++ pick1 (l.take i)) ∧ Hid (AB w wr ga ca gb cb la lb)) (fun _ _ iv _ => n - (intOf iv).toNat)
  case atStart => exact ⟨0, ga, ca, gb, cb, sa, sb, Nat.zero_le _, Nat.zero_le _, rfl, rfl, rfl, Lib.hid (by rw [e0, List.append_nil]), Lib.hid (by rw [e1, List.append_nil]), J1⟩
  case round =>
    obtain ⟨i, ga, ca, gb, cb, la, lb, hi, hiK, rfl, rfl, rfl, HA, HB, J⟩ := hrel
    clear J1
    have b2 := (KR.out.below J.out.below).cell 2
    simp only [List.getElem?_toArray, List.getElem?_cons_succ, List.getElem?_cons_zero] at b2
    by_cases hlt : i < n
    · have t1 : decide ((i : Int) < (n : Int)) = true := by simp; omega
      by_cases hltk : (i : Int) < k
      · have t2 : decide ((i : Int) < k) = true := by simpa using hltk
        have hil : i < l.length := by rw [HL.out]; exact hlt
        obtain ⟨g, ha, c0, c1⟩ := HC.out wr J.out.below i hil
        have hp0 := pick0_succ l i hil
        have hp1 := pick1_succ l i hil
        have HLA : Hid (la.length + 1 ≤ 140737488355328 ∧ lb.length + 1 ≤ 140737488355328) := Lib.hid (by
          rw [HA.out, HB.out, List.length_append, List.length_append]
          have h0 := pick0_le (l.take i)
          have h1 := pick1_le (l.take i)
          have h2 : (l.take i).length ≤ i := by rw [List.length_take]; omega
          have := HS.out
          have := HLE.out
          omega)
        subst ha
        have hib : i ≤ 2097152 := by have := HLE.out; omega
        have HKI : Hid (i + 1 ≤ K) := Lib.hid (by have := HK.out; omega)
        clear hltk
        by_cases hx : l[i].1 = 0
        · have t3 : ((l[i].1 : Int) == 0) = true := by simp [hx]
          rw [if_pos hx] at hp0 hp1
          have HP0 := Lib.hid hp0
          have HP1 := Lib.hid hp1
          clear hp0 hp1 hx
          generalize l[i].1 = xf at c0 t3
          generalize l[i].2 = xb at c1 HP0 HP1
          go_wp2_with (at_builtin; refine wp_byte rfl _ _ rfl ga ca la.length _ _ la xb rfl rfl rfl (J.out.a.below (by go_grown)) (Bk.new rfl) HLA.out.1 ?_; intro g' cap' w' hy ho hg'; replace J := Lib.hid (AB.stepA J.out (by go_grown) hy ho hg'); clear hy ho hg' b2 c0 c1)
          go_roundw
          case rel => exact ⟨_, _, _, _, _, _, _, _, _, _, _, _, _, _, _, _, _, _, _, _, _, _, _, _, _, _, _, _, _, _, _, _, _, _, _, _, _, _, _, _, _, _, _, _, _, _, _, _, ⟨i + 1, _, _, _, _, _, _, by omega, HKI.out, by go_num, by rw [List.length_append]; rfl, rfl, Lib.hid (by rw [HP0.out, HA.out, List.append_assoc]), Lib.hid (by rw [HP1.out, HB.out, List.append_nil]), J⟩, rfl⟩
          case measure => simp [intOf]; omega
        · have t3 : ((l[i].1 : Int) == 0) = false := by simp; omega
          rw [if_neg hx] at hp0 hp1
          have HP0 := Lib.hid hp0
          have HP1 := Lib.hid hp1
          clear hp0 hp1 hx
          generalize l[i].1 = xf at c0 t3
          generalize l[i].2 = xb at c1 HP0 HP1
          go_wp2_with (at_builtin; refine wp_byte rfl _ _ rfl gb cb lb.length _ _ lb xb rfl rfl rfl (J.out.b.below (by go_grown)) (Bk.new rfl) HLA.out.2 ?_; intro g' cap' w' hy ho hg'; replace J := Lib.hid (AB.stepB J.out (by go_grown) hy ho hg'); clear hy ho hg' b2 c0 c1)
          go_roundw
          case rel => exact ⟨_, _, _, _, _, _, _, _, _, _, _, _, _, _, _, _, _, _, _, _, _, _, _, _, _, _, _, _, _, _, _, _, _, _, _, _, _, _, _, _, _, _, _, _, _, _, _, _, ⟨i + 1, _, _, _, _, _, _, by omega, HKI.out, by go_num, rfl, by rw [List.length_append]; rfl, Lib.hid (by rw [HP0.out, HA.out, List.append_nil]), Lib.hid (by rw [HP1.out, HB.out, List.append_assoc]), J⟩, rfl⟩
          case measure => simp [intOf]; omega
      · have t2 : decide ((i : Int) < k) = false := by simpa using hltk
        have hiK2 : i = K := by have := HK.out; omega
        have EA : Hid (sa ++ pick0 (l.take K) = la) := Lib.hid (by rw [← hiK2, HA.out])
        have EB : Hid (sb ++ pick1 (l.take K) = lb) := Lib.hid (by rw [← hiK2, HB.out])
        clear hltk hiK2
        have cva := By.conv J.out.a ca la.length rfl
        have cvb := By.conv J.out.b cb lb.length rfl
        have hs1 := J.out.below.size
        go_wp2_with fail
        go_ret
        exact ⟨⟨_, rfl, _, rfl, hs1, by rw [EA.out, EB.out]; exact Bk.new rfl⟩, J.out.below.alloc hs1 _⟩
    · have t1 : decide ((i : Int) < (n : Int)) = false := by simp; omega
      have htk : l.take i = l.take K := by
        have := HL.out
        rw [List.take_of_length_le (by omega), List.take_of_length_le (by omega)]
      have EA : Hid (sa ++ pick0 (l.take K) = la) := Lib.hid (by rw [← htk, HA.out])
      have EB : Hid (sb ++ pick1 (l.take K) = lb) := Lib.hid (by rw [← htk, HB.out])
      clear htk
      have cva := By.conv J.out.a ca la.length rfl
      have cvb := By.conv J.out.b cb lb.length rfl
      have hs1 := J.out.below.size
      go_wp2_with fail
      go_ret
      exact ⟨⟨_, rfl, _, rfl, hs1, by rw [EA.out, EB.out]; exact Bk.new rfl⟩, J.out.below.alloc hs1 _⟩
theorem files40 (r : Nat) (S : St) (uv : Value) (kp : Int) (w : World) (h : Rk w r S uv kp) :
    Calls Tryd.prog 27 #[.pointer (some ⟨r, 0, none⟩)] w fun e w' => (∃ v, e = .returned v ∧ Two w.heap.size w' v S.f0 S.f1) ∧ Below w.heap.size w w' := by
  have ha := after39 r S uv kp (S.un.length : Int) w h
  rw [St.un_len h.wf, after_all h.wf] at ha
  have HA := Lib.hid ha
  have hw := St.un_len h.wf
  obtain ⟨a, c, rfl, _⟩ := owns_len rfl h.row
  rw [hw] at h
  have b2 := h.blk.cell 2
  simp only [List.getElem?_toArray, List.getElem?_cons_succ, List.getElem?_cons_zero] at b2
  clear h ha hw
  generalize S.waiting = n at HA b2
  go_enter Tryd.func27, Tryd.ntmps27
  go_wp2_with fail
  refine HA.out.mono ?_
  rintro e w' ⟨⟨v, rfl, ht⟩, hb⟩
  have HT := Lib.hid ht
  have HB := Lib.hid hb
  clear ht hb HA b2
  go_wp2_with fail
  go_ret
  exact ⟨⟨_, rfl, HT.out⟩, HB.out⟩
theorem Wf.dead {S : St} (h : S.Wf) : ({ S with inn := 0 } : St).Wf := ⟨h.ok, h.t0, h.t1, h.l0, h.l1, by simp, h.ll⟩
theorem lose_cells (S : St) (k : Nat) : (S.lose k).f0.take (S.lose k).s0 = S.f0.take (S.left k).1 ∧ (S.lose k).f1.take (S.lose k).s1 = S.f1.take (S.left k).2 := by
  simp [St.lose, St.power, St.keep, List.take_take]
theorem keep_cells (S : St) (k : Nat) : (S.keep k).f0.take (S.keep k).s0 = S.f0.take (S.left k).1 ∧ (S.keep k).f1.take (S.keep k).s1 = S.f1.take (S.left k).2 := by
  simp [St.keep, List.take_take]
theorem nil_row (w : World) (S : St) (h : S.row = []) : w.ownsRow 0 127 2 (.slice none 0 0) S.un.length (ucells S.un) := by
  rw [St.un_nil h]
  exact ⟨rfl, .inl ⟨rfl, rfl⟩⟩
set_option maxHeartbeats 8000000 in
theorem die58 (r : Nat) (S : St) (uv : Value) (kp k : Int) (w : World) (h : Rk w r S uv kp) :
    Calls Tryd.prog 85 #[.pointer (some ⟨r, 0, none⟩), .int .i64 k] w fun e w' => e = .returned (.tuple #[]) ∧ Rk w' r (S.lose k.toNat) (.slice none 0 0) kp ∧ Only [r] w w' := by
  have HA := Lib.hid (after39 r S uv kp k w h)
  have H := Lib.hid h
  clear h
  go_enter Tryd.func85, Tryd.ntmps85
  go_wp2_with fail
  refine HA.out.mono ?_
  rintro e w1 ⟨⟨v, rfl, g, rfl, hg, kg⟩, hb⟩
  have KR := H.out.blk.below hb
  have hne : r ≠ g := by have := H.out.blk.lt; omega
  have hne' : g ≠ r := fun e => hne e.symm
  have c0 := KR.cell 0
  have c1 := KR.cell 1
  have c2 := KR.cell 2
  have c3 := KR.cell 3
  have c5 := KR.cell 5
  have f0 := KR.fro 0
  have f1 := KR.fro 1
  have f2 := KR.fro 2
  have f3 := KR.fro 3
  have f5 := KR.fro 5
  have g0 := kg.cell 0
  have g1 := kg.cell 1
  simp only [List.getElem?_toArray, List.getElem?_cons_succ, List.getElem?_cons_zero] at c0 c1 c2 c3 c5 g0 g1
  have KH := Lib.hid KR
  have HB := Lib.hid hb
  clear KR hb kg hg HA
  go_wp2_with fail
  go_returns
  refine ⟨rfl, ⟨?_, nil_row _ _ rfl, fun h => absurd rfl h, H.out.wf.lose _⟩, (((((Only.of HB.out).setCell _ (by simp) _).setCell _ (by simp) _).setCell _ (by simp) _).setCell _ (by simp) _).setCell _ (by simp) _⟩
  rw [(lose_cells S _).1, (lose_cells S _).2]
  have := Bk.same (i := 5) (v := .bool true) (Bk.same (i := 3) (v := .int .i64 0) (Bk.same (i := 2) (v := .slice none 0 0) (Bk.same (i := 1) (v := .string ⟨(S.after k).2.toArray⟩) (Bk.same (i := 0) (v := .string ⟨(S.after k).1.toArray⟩) KH.out))))
  simp at this
  exact this
theorem count_zero {S : St} (h : S.inn = 0) : S.count = (0, S) := by simp [St.count, h]
theorem count_one {S : St} (h : S.inn = 1) : S.count = (2, S.lose S.lft) := by simp [St.count, h]
theorem count_more {S : St} {m : Nat} (h : S.inn = m + 1) (hm : m ≠ 0) : S.count = (0, { S with inn := m }) := by
  unfold St.count
  rw [if_neg (by omega), if_pos (by omega), h]
  rfl
def Went (S S1 : St) (kp : Int) (b : Bool) : Prop := (b = false ∧ S.count = (0, S1)) ∨ (b = true ∧ S1 = { S with inn := 0 } ∧ kp = (S.lft : Int) ∧ S.count = (2, S.lose S.lft))
set_option maxHeartbeats 8000000 in
theorem goes57 (r : Nat) (S : St) (uv : Value) (kp : Int) (w : World) (h : Rk w r S uv kp) :
    Calls Tryd.prog 84 #[.pointer (some ⟨r, 0, none⟩)] w fun e w' => ∃ b S1, e = .returned (.bool b) ∧ Rk w' r S1 uv kp ∧ Only [r] w w' ∧ Went S S1 kp b ∧ S1.f0 = S.f0 ∧ S1.f1 = S.f1 ∧ S1.s0 = S.s0 ∧ S1.s1 = S.s1 ∧ S1.row = S.row ∧ S1.gone = S.gone ∧ S1.lft = S.lft := by
  have H := Lib.hid h
  have c3 := h.blk.cell 3
  have f3 := h.blk.fro 3
  simp only [List.getElem?_toArray, List.getElem?_cons_succ, List.getElem?_cons_zero] at c3
  obtain ⟨m, hm⟩ : ∃ m, S.inn = m := ⟨_, rfl⟩
  rw [hm] at c3
  have hmb : m ≤ 9223372036854775807 := hm ▸ h.wf.li
  have HM := Lib.hid hm
  clear h hm
  rcases (show m = 0 ∨ ∃ n, m = n + 1 from by cases m <;> simp) with rfl | ⟨n, rfl⟩
  · have t1 : decide ((0 : Int) < ((0 : Nat) : Int)) = false := by simp
    go_enter Tryd.func84, Tryd.ntmps84
    go_wp2_with fail
    go_ret
    exact ⟨false, S, rfl, H.out, Only.refl _ _, .inl ⟨rfl, count_zero HM.out⟩, rfl, rfl, rfl, rfl, rfl, rfl, rfl⟩
  · have t1 : decide ((0 : Int) < ((n + 1 : Nat) : Int)) = true := by simp
    have t2 : ((n + 1 : Nat) : Int) - 1 = (n : Int) := by omega
    have hw1 : IntKind.i64.wrap (((n + 1 : Nat) : Int) - 1) = (n : Int) := by rw [t2]; exact IntWalk.i64_in _ (by omega)
    have HOK : Hid (Rk (w.setCell ⟨r, 3, none⟩ (.int .i64 (n : Int))) r { S with inn := n } uv kp) := Lib.hid (by
      refine ⟨?_, ?_, fun hn => H.out.kp (by rw [HM.out]; omega), ⟨H.out.wf.ok, H.out.wf.t0, H.out.wf.t1, H.out.wf.l0, H.out.wf.l1, by simp only; omega, H.out.wf.ll⟩⟩
      · have := Bk.same (i := 3) (v := .int .i64 (n : Int)) H.out.blk
        simpa using this
      · exact ownsU_of H.out.row fun g e _ => heap_setCell_other _ _ _ _ (H.out.ne H.out.blk g e))
    have HO : Hid (Only [r] w (w.setCell ⟨r, 3, none⟩ (.int .i64 (n : Int)))) := Lib.hid ((Only.refl _ _).setCell _ (by simp) _)
    have HKP : Hid (kp = (S.lft : Int)) := Lib.hid (H.out.kp (by rw [HM.out]; omega))
    clear t2 H
    by_cases hn : n = 0
    · have t3 : ((n : Int) == 0) = true := by simp [hn]
      have HN := Lib.hid hn
      clear hn
      go_enter Tryd.func84, Tryd.ntmps84
      go_wp2_with fail
      go_ret
      exact ⟨true, _, rfl, HOK.out, HO.out, .inr ⟨rfl, by rw [HN.out], HKP.out, count_one (by rw [HM.out, HN.out])⟩, rfl, rfl, rfl, rfl, rfl, rfl, rfl⟩
    · have t3 : ((n : Int) == 0) = false := by simpa using hn
      have HN := Lib.hid hn
      clear hn
      go_enter Tryd.func84, Tryd.ntmps84
      go_wp2_with fail
      go_ret
      exact ⟨false, _, rfl, HOK.out, HO.out, .inl ⟨rfl, count_more HM.out HN.out⟩, rfl, rfl, rfl, rfl, rfl, rfl, rfl⟩
theorem revive38 (r : Nat) (S : St) (uv : Value) (kp : Int) (w : World) (h : Rk w r S uv kp) :
    Calls Tryd.prog 30 #[.pointer (some ⟨r, 0, none⟩)] w fun e w' => e = .returned (.tuple #[]) ∧ Rk w' r S.revive uv kp ∧ Only [r] w w' := by
  have H := Lib.hid h
  have c3 := h.blk.cell 3
  have f3 := h.blk.fro 3
  have c5 := h.blk.cell 5
  have f5 := h.blk.fro 5
  simp only [List.getElem?_toArray, List.getElem?_cons_succ, List.getElem?_cons_zero] at c3 c5
  clear h
  go_enter Tryd.func30, Tryd.ntmps30
  go_wp2_with fail
  go_returns
  refine ⟨rfl, ⟨?_, ?_, fun h => absurd rfl h, H.out.wf.power _ (by omega) (by omega)⟩, ((Only.refl _ _).setCell _ (by simp) _).setCell _ (by simp) _⟩
  · have := Bk.same (i := 3) (v := .int .i64 0) (Bk.same (i := 5) (v := .bool false) H.out.blk)
    simpa [St.revive, St.power] using this
  · exact ownsU_of H.out.row fun g e _ => (heap_setCell_other _ _ _ _ (H.out.ne H.out.blk g e)).trans (heap_setCell_other _ _ _ _ (H.out.ne H.out.blk g e))
theorem Rk.shape {w : World} {r : Nat} {S : St} {uv : Value} {kp : Int} (h : Rk w r S uv kp) : ∃ a c, uv = .slice a S.un.length c := by
  obtain ⟨a, c, rfl, _⟩ := owns_len rfl h.row
  exact ⟨a, c, rfl⟩
theorem Rk.b5 {w : World} {r : Nat} {S : St} {uv : Value} {kp : Int} (h : Rk w r S uv kp) : w.cell? ⟨r, 5, none⟩ = some (.bool S.gone) := by
  have := h.blk.cell 5
  simpa using this
def Rm (w : World) (r : Nat) (uv : Value) (w' : World) (S' : St) : Prop := ∃ uv' kp', Rk w' r S' uv' kp' ∧ Only [r] w w' ∧ ∀ g, uv'.ownBlock = some g → uv.ownBlock = some g ∨ w.heap.size ≤ g
theorem Rm.same {w w' : World} {r : Nat} {S : St} {uv : Value} {kp : Int} (h : Rk w r S uv kp) (hb : Below w.heap.size w w') : Rm w r uv w' S := ⟨uv, kp, h.below hb, .of hb, fun g e => .inl e⟩
theorem Rm.of {w w' : World} {r : Nat} {S : St} {uv : Value} {kp : Int} (h : Rk w' r S uv kp) (ho : Only [r] w w') : Rm w r uv w' S := ⟨uv, kp, h, ho, fun g e => .inl e⟩
theorem Rm.nil {w w' : World} {r : Nat} {S : St} {uv : Value} {kp : Int} (h : Rk w' r S (.slice none 0 0) kp) (ho : Only [r] w w') : Rm w r uv w' S := ⟨_, kp, h, ho, fun g e => by cases e⟩
set_option maxHeartbeats 4000000 in
theorem crash37 (r : Nat) (S : St) (uv : Value) (kp k : Int) (w : World) (h : Rk w r S uv kp) :
    Calls Tryd.prog 55 #[.pointer (some ⟨r, 0, none⟩), .int .i64 k] w fun e w' => e = .returned (.int .i64 ((S.crash k).1 : Int)) ∧ Rm w r uv w' (S.crash k).2 := by
  have H := Lib.hid h
  have b5 := h.b5
  unfold St.crash
  clear h
  cases hg : S.gone
  · rw [hg] at b5
    simp only [Bool.false_eq_true, if_false]
    by_cases hk : k < 0
    · rw [if_pos hk]
      have t1 : decide (k < 0) = true := by simpa using hk
      clear hg hk
      go_enter Tryd.func55, Tryd.ntmps55
      go_wp2_with fail
      go_ret
      exact ⟨rfl, .same H.out (Below.refl _ _)⟩
    · rw [if_neg hk]
      have t1 : decide (k < 0) = false := by simpa using hk
      have HD := Lib.hid (die58 r S uv kp k w H.out)
      clear hg hk
      go_enter Tryd.func55, Tryd.ntmps55
      go_wp2_with fail
      refine HD.out.mono ?_
      rintro e w' ⟨rfl, hr, ho⟩
      have HR := Lib.hid hr
      have HO := Lib.hid ho
      clear hr ho HD b5
      go_wp2_with fail
      go_ret
      exact ⟨rfl, .nil HR.out HO.out⟩
  · rw [hg] at b5
    simp only [if_true]
    clear hg
    go_enter Tryd.func55, Tryd.ntmps55
    go_wp2_with fail
    go_ret
    exact ⟨rfl, .same H.out (Below.refl _ _)⟩
set_option maxHeartbeats 4000000 in
theorem arm36 (r : Nat) (S : St) (uv : Value) (kp n k : Int) (hn2 : n ≤ 9223372036854775807) (hk2 : k ≤ 9223372036854775807) (w : World) (h : Rk w r S uv kp) :
    Calls Tryd.prog 23 #[.pointer (some ⟨r, 0, none⟩), .int .i64 n, .int .i64 k] w fun e w' => e = .returned (.int .i64 ((S.arm n k).1 : Int)) ∧ Rm w r uv w' (S.arm n k).2 := by
  have H := Lib.hid h
  have b5 := h.b5
  have c3 := h.blk.cell 3
  have f3 := h.blk.fro 3
  have c4 := h.blk.cell 4
  have f4 := h.blk.fro 4
  simp only [List.getElem?_toArray, List.getElem?_cons_succ, List.getElem?_cons_zero] at c3 c4
  unfold St.arm
  clear h
  cases hg : S.gone
  · rw [hg] at b5
    simp only [Bool.false_eq_true, if_false]
    by_cases hn : n < 0
    · rw [if_pos (.inl hn)]
      have t1 : decide (n < 0) = true := by simpa using hn
      clear hg hn
      go_enter Tryd.func23, Tryd.ntmps23
      go_wp2_with fail
      go_ret
      exact ⟨rfl, .same H.out (Below.refl _ _)⟩
    · have t1 : decide (n < 0) = false := by simpa using hn
      by_cases hk : k < 0
      · rw [if_pos (.inr hk)]
        have t2 : decide (k < 0) = true := by simpa using hk
        clear hg hk hn
        go_enter Tryd.func23, Tryd.ntmps23
        go_wp2_with fail
        go_ret
        exact ⟨rfl, .same H.out (Below.refl _ _)⟩
      · rw [if_neg (by omega)]
        have t2 : decide (k < 0) = false := by simpa using hk
        have HNK : Hid (n = (n.toNat : Int) ∧ k = (k.toNat : Int)) := Lib.hid (by omega)
        have HNB : Hid (n.toNat ≤ 9223372036854775807 ∧ k.toNat ≤ 9223372036854775807) := Lib.hid (by omega)
        have HG := Lib.hid hg
        clear hg hk hn
        go_enter Tryd.func23, Tryd.ntmps23
        go_wp2_with fail
        go_ret
        refine ⟨rfl, uv, k, ⟨?_, ?_, fun _ => HNK.out.2, H.out.wf.power _ HNB.out.1 HNB.out.2⟩, ((Only.refl _ _).setCell _ (by simp) _).setCell _ (by simp) _, fun g e => .inl e⟩
        · have := Bk.same (i := 4) (v := .int .i64 k) (Bk.same (i := 3) (v := .int .i64 n) H.out.blk)
          simp [HG.out] at this
          have e : ((S.power false n.toNat k.toNat).inn : Int) = n := HNK.out.1.symm
          rw [e]
          exact this
        · exact ownsU_of H.out.row fun g e _ => (heap_setCell_other _ _ _ _ (H.out.ne H.out.blk g e)).trans (heap_setCell_other _ _ _ _ (H.out.ne H.out.blk g e))
  · rw [hg] at b5
    simp only [if_true]
    clear hg
    go_enter Tryd.func23, Tryd.ntmps23
    go_wp2_with fail
    go_ret
    exact ⟨rfl, .same H.out (Below.refl _ _)⟩
set_option maxHeartbeats 4000000 in
theorem size32 (r : Nat) (S : St) (uv : Value) (kp f : Int) (w : World) (h : Rk w r S uv kp) :
    Calls Tryd.prog 45 #[.pointer (some ⟨r, 0, none⟩), .int .i64 f] w fun e w' => e = .returned (.int .i64 (S.size f)) ∧ w = w' := by
  unfold St.size
  have hl0 := h.wf.l0
  have hl1 := h.wf.l1
  have hs0 : S.s0 ≤ S.f0.length := by have := h.wf.t0; omega
  have hs1 : S.s1 ≤ S.f1.length := by have := h.wf.t1; omega
  have b0 := h.blk.cell 0
  have b1 := h.blk.cell 1
  simp only [List.getElem?_toArray, List.getElem?_cons_succ, List.getElem?_cons_zero] at b0 b1
  by_cases h0 : f = 0
  · subst h0
    have HU := Lib.hid (unsafe56 r S uv kp 0 (by omega) w h)
    have e1 : (⟨(S.f0.take S.s0).toArray⟩ : ByteArray).size = S.s0 := by rw [size_ba, List.length_take]; omega
    have e2 : (((S.file 0).length - S.safe 0 : Nat) : Int) = (S.f0.length : Int) - (S.s0 : Int) := by show ((S.f0.length - S.s0 : Nat) : Int) = _; omega
    rw [e2] at HU
    have hw1 : IntKind.i64.wrap ((S.s0 : Int) + ((S.f0.length : Int) - (S.s0 : Int))) = (S.f0.length : Int) := by rw [show (S.s0 : Int) + ((S.f0.length : Int) - (S.s0 : Int)) = (S.f0.length : Int) by omega]; exact IntWalk.i64_in _ (by omega)
    have HW := Lib.hid hw1
    have ez : ((if St.there 0 = true then ((S.file (Int.toNat 0)).length : Int) else -1)) = (S.f0.length : Int) := rfl
    rw [ez]
    generalize (⟨(S.f0.take S.s0).toArray⟩ : ByteArray) = sa at b0 e1
    clear h e2 ez hl1 hs1 b1 hw1
    go_enter Tryd.func45, Tryd.ntmps45
    go_wp2_with fail
    refine HU.out.mono ?_
    rintro e w' ⟨rfl, rfl⟩
    go_wp2_with fail
    go_ret
    refine ⟨?_, rfl⟩
    show Ending.returned (Value.int .i64 ((S.s0 : Int) + ((S.f0.length : Int) - (S.s0 : Int)))) = _
    rw [show (S.s0 : Int) + ((S.f0.length : Int) - (S.s0 : Int)) = (S.f0.length : Int) by omega]
  · by_cases h1 : f = 1
    · subst h1
      have HU := Lib.hid (unsafe56 r S uv kp 1 (by omega) w h)
      have e0 : ∃ k : Nat, (⟨(S.f0.take S.s0).toArray⟩ : ByteArray).size = k := ⟨_, rfl⟩
      have e1 : (⟨(S.f1.take S.s1).toArray⟩ : ByteArray).size = S.s1 := by rw [size_ba, List.length_take]; omega
      have e2 : (((S.file 1).length - S.safe 1 : Nat) : Int) = (S.f1.length : Int) - (S.s1 : Int) := by show ((S.f1.length - S.s1 : Nat) : Int) = _; omega
      rw [e2] at HU
      have ez : ((if St.there 1 = true then ((S.file (Int.toNat 1)).length : Int) else -1)) = (S.f1.length : Int) := rfl
      rw [ez]
      generalize (⟨(S.f0.take S.s0).toArray⟩ : ByteArray) = sa at b0 e0
      generalize (⟨(S.f1.take S.s1).toArray⟩ : ByteArray) = sb at b1 e1
      clear h e2 ez hl0 hs0 h0 e0
      go_enter Tryd.func45, Tryd.ntmps45
      go_wp2_with fail
      refine HU.out.mono ?_
      rintro e w' ⟨rfl, rfl⟩
      go_wp2_with fail
      go_ret
      refine ⟨?_, rfl⟩
      show Ending.returned (Value.int .i64 ((S.s1 : Int) + ((S.f1.length : Int) - (S.s1 : Int)))) = _
      rw [show (S.s1 : Int) + ((S.f1.length : Int) - (S.s1 : Int)) = (S.f1.length : Int) by omega]
    · have ht : St.there f = false := by simp [St.there]; omega
      rw [ht]
      simp only [Bool.false_eq_true, if_false]
      have t0 : (f != 0) = true := by simpa using h0
      have t1 : (f != 1) = true := by simpa using h1
      clear h h0 h1 ht hl0 hl1 hs0 hs1
      go_enter Tryd.func45, Tryd.ntmps45
      go_wp2_with fail
      go_ret
      exact ⟨rfl, rfl⟩
theorem lose_dead (S : St) (k : Nat) : ({ S with inn := 0 } : St).lose k = S.lose k := rfl
theorem Only.two {r : Nat} {a b c : World} (h : Only [r] a b) (k : Only [r] b c) : Only [r] a c := h.trans k (fun x hx => .inl hx)
theorem sync_gone {S : St} (h : S.gone = true) : S.sync = (2, S) := by unfold St.sync; rw [h]; rfl
theorem sync_ok {S S1 : St} (h : S.gone = false) (hc : S.count = (0, S1)) : S.sync = (0, S1.keep S1.waiting) := by unfold St.sync; rw [h, hc]; rfl
theorem sync_die {S X : St} (h : S.gone = false) (hc : S.count = (2, X)) : S.sync = (2, X) := by unfold St.sync; rw [h, hc]; rfl
set_option maxHeartbeats 8000000 in
theorem sync34 (r : Nat) (S : St) (uv : Value) (kp : Int) (w : World) (h : Rk w r S uv kp) :
    Calls Tryd.prog 49 #[.pointer (some ⟨r, 0, none⟩)] w fun e w' => e = .returned (.int .i64 ((S.sync).1 : Int)) ∧ Rm w r uv w' (S.sync).2 := by
  have H := Lib.hid h
  have b5 := h.b5
  obtain ⟨o, ho⟩ : ∃ o, S.sync = o := ⟨_, rfl⟩
  rw [ho]
  have HO := Lib.hid ho
  clear h ho
  cases hg : S.gone
  · rw [hg] at b5
    have HG := Lib.hid (goes57 r S uv kp w H.out)
    have HGN := Lib.hid hg
    clear hg
    go_enter Tryd.func49, Tryd.ntmps49
    go_wp2_with fail
    refine HG.out.mono ?_
    rintro e w1 ⟨b, S1, rfl, hr1, ho1, hwent, -⟩
    have R1 := Lib.hid hr1
    have O1 := Lib.hid ho1
    clear hr1 ho1 HG b5
    rcases hwent with ⟨rfl, hc⟩ | ⟨rfl, hS1, hkp, hc⟩
    · have HC := Lib.hid hc
      clear hc
      go_wp2_with fail
      refine (files40 r S1 uv kp w1 R1.out).mono ?_
      rintro e w2 ⟨⟨v, rfl, g, rfl, hg, kg⟩, hb⟩
      have KR := R1.out.blk.below hb
      have hne : r ≠ g := by have := R1.out.blk.lt; omega
      have hne' : g ≠ r := fun e => hne e.symm
      have c0 := KR.cell 0
      have c1 := KR.cell 1
      have c2 := KR.cell 2
      have f0 := KR.fro 0
      have f1 := KR.fro 1
      have f2 := KR.fro 2
      have g0 := kg.cell 0
      have g1 := kg.cell 1
      simp only [List.getElem?_toArray, List.getElem?_cons_succ, List.getElem?_cons_zero] at c0 c1 c2 g0 g1
      have KH := Lib.hid KR
      have HB := Lib.hid hb
      clear KR hb kg hg
      go_wp2_with fail
      go_ret
      rw [← HO.out, sync_ok HGN.out HC.out]
      refine ⟨rfl, .nil ⟨?_, nil_row _ _ rfl, R1.out.kp, R1.out.wf.keep _⟩ ((((O1.out.two (.of HB.out)).setCell _ (by simp) _).setCell _ (by simp) _).setCell _ (by simp) _)⟩
      rw [(keep_cells S1 _).1, (keep_cells S1 _).2, R1.out.wf.left_all _ (Nat.le_refl _), List.take_length, List.take_length]
      have := Bk.same (i := 2) (v := .slice none 0 0) (Bk.same (i := 1) (v := .string ⟨S1.f1.toArray⟩) (Bk.same (i := 0) (v := .string ⟨S1.f0.toArray⟩) KH.out))
      simp at this
      exact this
    · have HC := Lib.hid hc
      have c4 := R1.out.blk.cell 4
      simp only [List.getElem?_toArray, List.getElem?_cons_succ, List.getElem?_cons_zero] at c4
      have HD := Lib.hid (die58 r S1 uv kp kp w1 R1.out)
      have HK : Hid (kp.toNat = S.lft) := Lib.hid (by rw [hkp]; rfl)
      have HS := Lib.hid hS1
      clear hc hkp hS1
      go_wp2_with fail
      refine HD.out.mono ?_
      rintro e w2 ⟨rfl, hr, ho⟩
      have R2 := Lib.hid hr
      have O2 := Lib.hid ho
      clear hr ho HD c4
      go_wp2_with fail
      go_ret
      rw [← HO.out, sync_die HGN.out HC.out]
      refine ⟨rfl, .nil (kp := kp) ?_ (O1.out.two O2.out)⟩
      have := R2.out
      rw [HS.out, HK.out, lose_dead] at this
      exact this
  · rw [hg] at b5
    have HGN := Lib.hid hg
    clear hg
    go_enter Tryd.func49, Tryd.ntmps49
    go_wp2_with fail
    go_ret
    rw [← HO.out, sync_gone HGN.out]
    exact ⟨rfl, .same H.out (Below.refl _ _)⟩
theorem ext_ba9 (l : List UInt8) (k : Nat) : (⟨l.toArray⟩ : ByteArray).extract 0 k = ⟨(l.take k).toArray⟩ := by
  apply ByteArray.ext
  rw [ByteArray.data_extract]
  simp
theorem cutCode9 (S : St) (f n : Int) : S.cut f n = if S.gone then (2, S) else if ¬ St.there f then (90, S) else if n < 0 ∨ n > ((S.file f.toNat).length : Int) ∨ S.safe f.toNat < (S.file f.toNat).length then (92, S) else if (S.count).1 = 0 then (0, (S.count).2.cutF f.toNat n.toNat) else S.count := rfl
theorem rk_cut0 {w : World} {r : Nat} {S : St} {uv : Value} {kp : Int} (k : Nat) (hk : k ≤ S.f0.length) (hs : S.s0 = S.f0.length) (h : Rk w r S uv kp) : Rk (w.setCell ⟨r, 0, none⟩ (.string ((⟨(S.f0.take S.s0).toArray⟩ : ByteArray).extract 0 k))) r (S.cutF 0 k) uv kp := by
  refine ⟨?_, ?_, h.kp, h.wf.cutF 0 k hk (by show ¬ S.s0 < S.f0.length; omega)⟩
  · have := Bk.same (i := 0) (v := .string ((⟨(S.f0.take S.s0).toArray⟩ : ByteArray).extract 0 k)) h.blk
    rw [ext_ba9, List.take_take, Nat.min_eq_left (by omega)] at this ⊢
    have e : (S.cutF 0 k).f0.take (S.cutF 0 k).s0 = S.f0.take k := by
      show (S.f0.take k).take k = _
      rw [List.take_take, Nat.min_self]
    rw [e]
    simp at this
    exact this
  · rw [St.un_cut h.wf 0 k hk (by show ¬ S.s0 < S.f0.length; omega)]
    exact ownsU_of h.row fun g e _ => heap_setCell_other _ _ _ _ (h.ne h.blk g e)
theorem rk_cut1 {w : World} {r : Nat} {S : St} {uv : Value} {kp : Int} (k : Nat) (hk : k ≤ S.f1.length) (hs : S.s1 = S.f1.length) (h : Rk w r S uv kp) : Rk (w.setCell ⟨r, 1, none⟩ (.string ((⟨(S.f1.take S.s1).toArray⟩ : ByteArray).extract 0 k))) r (S.cutF 1 k) uv kp := by
  refine ⟨?_, ?_, h.kp, h.wf.cutF 1 k hk (by show ¬ S.s1 < S.f1.length; omega)⟩
  · have := Bk.same (i := 1) (v := .string ((⟨(S.f1.take S.s1).toArray⟩ : ByteArray).extract 0 k)) h.blk
    rw [ext_ba9, List.take_take, Nat.min_eq_left (by omega)] at this ⊢
    have e : (S.cutF 1 k).f1.take (S.cutF 1 k).s1 = S.f1.take k := by
      show (S.f1.take k).take k = _
      rw [List.take_take, Nat.min_self]
    rw [e]
    simp at this
    exact this
  · rw [St.un_cut h.wf 1 k hk (by show ¬ S.s1 < S.f1.length; omega)]
    exact ownsU_of h.row fun g e _ => heap_setCell_other _ _ _ _ (h.ne h.blk g e)
set_option maxHeartbeats 16000000 in
theorem cut35_on (r : Nat) (S : St) (uv : Value) (kp : Int) (f : Nat) (hf : f < 2) (n : Int) (hn1 : -9223372036854775808 ≤ n) (hn2 : n ≤ 9223372036854775807) (w : World) (h : Rk w r S uv kp) (hg : S.gone = false) :
    Calls Tryd.prog 87 #[.pointer (some ⟨r, 0, none⟩), .int .i64 (f : Int), .int .i64 n] w fun e w' => e = .returned (.int .i64 ((S.cut f n).1 : Int)) ∧ Rm w r uv w' (S.cut f n).2 := by
  have H := Lib.hid h
  have b5 := h.b5
  have ht : St.there (f : Int) = true := by simp [St.there]; omega
  have hsz : S.size (f : Int) = ((S.file f).length : Int) := by unfold St.size; rw [ht]; rfl
  rw [cutCode9, hg, ht]
  rw [hg] at b5
  simp only [Bool.false_eq_true, if_false, not_true_eq_false, Int.toNat_natCast]
  have HZ := Lib.hid (size32 r S uv kp (f : Int) w h)
  rw [hsz] at HZ
  have HU := Lib.hid (unsafe56 r S uv kp f hf w h)
  obtain ⟨u, hu⟩ : ∃ u : Nat, u = (S.file f).length - S.safe f := ⟨_, rfl⟩
  rw [← hu] at HU
  clear h hg ht hsz
  have tg : (((f : Int) != 0) = false) ∨ (((f : Int) != 0) = true ∧ ((f : Int) != 1) = false) := by
    rcases (by omega : f = 0 ∨ f = 1) with rfl | rfl
    · exact .inl rfl
    · exact .inr ⟨rfl, rfl⟩
  by_cases h0 : n < 0
  · rw [if_pos (.inl h0)]
    have t1 : decide (n < 0) = true := by simpa using h0
    clear h0 hu hf
    rcases tg with tg | ⟨tg, tg2⟩
    · go_enter Tryd.func87, Tryd.ntmps87
      go_wp2_with fail
      go_ret
      exact ⟨rfl, .same H.out (Below.refl _ _)⟩
    · go_enter Tryd.func87, Tryd.ntmps87
      go_wp2_with fail
      go_ret
      exact ⟨rfl, .same H.out (Below.refl _ _)⟩
  · obtain ⟨k, rfl⟩ : ∃ k : Nat, n = (k : Int) := ⟨n.toNat, by omega⟩
    have t1 : decide ((k : Int) < 0) = false := by simp
    by_cases h1 : (k : Int) > ((S.file f).length : Int)
    · rw [if_pos (.inr (.inl h1))]
      have t2 : decide ((S.file f).length < k) = true := by simp; omega
      clear h0 h1 hu hf
      rcases tg with tg | ⟨tg, tg2⟩
      · go_enter Tryd.func87, Tryd.ntmps87
        go_wp2_with fail
        refine HZ.out.mono ?_
        rintro e w' ⟨rfl, rfl⟩
        go_wp2_with fail
        go_ret
        exact ⟨rfl, .same H.out (Below.refl _ _)⟩
      · go_enter Tryd.func87, Tryd.ntmps87
        go_wp2_with fail
        refine HZ.out.mono ?_
        rintro e w' ⟨rfl, rfl⟩
        go_wp2_with fail
        go_ret
        exact ⟨rfl, .same H.out (Below.refl _ _)⟩
    · have t2 : decide ((S.file f).length < k) = false := by simp; omega
      by_cases h2 : S.safe f < (S.file f).length
      · rw [if_pos (.inr (.inr h2))]
        obtain ⟨m, rfl⟩ : ∃ m, u = m + 1 := ⟨u - 1, by omega⟩
        clear h0 h1 h2 hu hf
        rcases tg with tg | ⟨tg, tg2⟩
        · go_enter Tryd.func87, Tryd.ntmps87
          go_wp2_with fail
          refine HZ.out.mono ?_
          rintro e w' ⟨rfl, rfl⟩
          go_wp2_with fail
          refine HU.out.mono ?_
          rintro e w' ⟨rfl, rfl⟩
          go_wp2_with fail
          go_ret
          exact ⟨rfl, .same H.out (Below.refl _ _)⟩
        · go_enter Tryd.func87, Tryd.ntmps87
          go_wp2_with fail
          refine HZ.out.mono ?_
          rintro e w' ⟨rfl, rfl⟩
          go_wp2_with fail
          refine HU.out.mono ?_
          rintro e w' ⟨rfl, rfl⟩
          go_wp2_with fail
          go_ret
          exact ⟨rfl, .same H.out (Below.refl _ _)⟩
      · rw [if_neg (by omega)]
        obtain rfl : u = 0 := by omega
        have HFL : Hid (k ≤ (S.file f).length ∧ S.safe f = (S.file f).length ∧ f < 2) := Lib.hid (by
          refine ⟨by omega, ?_, hf⟩
          have h0 := H.out.wf.t0
          have h1 := H.out.wf.t1
          have : S.safe f ≤ (S.file f).length := by unfold St.safe St.file; split <;> omega
          omega)
        have HG := Lib.hid (goes57 r S uv kp w H.out)
        obtain ⟨o, ho⟩ : ∃ o, (if (S.count).1 = 0 then (0, (S.count).2.cutF f k) else S.count) = o := ⟨_, rfl⟩
        simp only [Int.toNat_natCast]
        rw [ho]
        have HO := Lib.hid ho
        clear h0 h1 h2 hu hf ho
        have key : ∀ b S1 w1, Hid (Rk w1 r S1 uv kp) → Hid (Only [r] w w1) → Hid (Went S S1 kp b) → Hid (S1.f0 = S.f0 ∧ S1.f1 = S.f1 ∧ S1.s0 = S.s0 ∧ S1.s1 = S.s1 ∧ S1.row = S.row ∧ S1.gone = S.gone ∧ S1.lft = S.lft) → True := fun _ _ _ _ _ _ _ => trivial
        clear key
        rcases tg with tg | ⟨tg, tg2⟩
        · go_enter Tryd.func87, Tryd.ntmps87
          go_wp2_with fail
          refine HZ.out.mono ?_
          rintro e w' ⟨rfl, rfl⟩
          go_wp2_with fail
          refine HU.out.mono ?_
          rintro e w' ⟨rfl, rfl⟩
          go_wp2_with fail
          refine HG.out.mono ?_
          rintro e w1 ⟨b, S1, rfl, hr1, ho1, hwent, hsame⟩
          have R1 := Lib.hid hr1
          have O1 := Lib.hid ho1
          have SM := Lib.hid hsame
          clear hr1 ho1 HG b5 hsame HZ HU
          have hf0 : f = 0 := by simpa using tg
          subst hf0
          have t4 : (((0 : Nat) : Int) == 0) = true := rfl
          rcases hwent with ⟨rfl, hc⟩ | ⟨rfl, hS1, hkp, hc⟩
          · have HC := Lib.hid hc
            clear hc
            have c0 := R1.out.blk.cell 0
            have f0 := R1.out.blk.fro 0
            simp only [List.getElem?_toArray, List.getElem?_cons_succ, List.getElem?_cons_zero] at c0
            have hll : (⟨(S1.f0.take S1.s0).toArray⟩ : ByteArray).size = S1.f0.length := by
              rw [size_ba, List.length_take, SM.out.1, SM.out.2.2.1]
              have h1 : S.s0 = S.f0.length := HFL.out.2.1
              omega
            have hnl : k ≤ (⟨(S1.f0.take S1.s0).toArray⟩ : ByteArray).size := by
              rw [hll, SM.out.1]
              exact HFL.out.1
            go_wp2_with fail
            go_ret
            rw [← HO.out, HC.out]
            refine ⟨rfl, .of (rk_cut0 k (by rw [SM.out.1]; exact HFL.out.1) (by rw [SM.out.1, SM.out.2.2.1]; exact HFL.out.2.1) R1.out) (O1.out.setCell _ (by simp) _)⟩
          · have c4 := R1.out.blk.cell 4
            simp only [List.getElem?_toArray, List.getElem?_cons_succ, List.getElem?_cons_zero] at c4
            have HD := Lib.hid (die58 r S1 uv kp kp w1 R1.out)
            have HK : Hid (kp.toNat = S.lft) := Lib.hid (by rw [hkp]; rfl)
            have HS := Lib.hid hS1
            have HC := Lib.hid hc
            clear hc hkp hS1
            go_wp2_with fail
            refine HD.out.mono ?_
            rintro e w2 ⟨rfl, hr, ho⟩
            have R2 := Lib.hid hr
            have O2 := Lib.hid ho
            clear hr ho HD c4
            go_wp2_with fail
            go_ret
            rw [← HO.out, HC.out, if_neg (show ¬ ((2 : Nat) = 0) by decide)]
            refine ⟨rfl, .nil (kp := kp) ?_ (O1.out.two O2.out)⟩
            have := R2.out
            rw [HS.out, HK.out, lose_dead] at this
            exact this
        · go_enter Tryd.func87, Tryd.ntmps87
          go_wp2_with fail
          refine HZ.out.mono ?_
          rintro e w' ⟨rfl, rfl⟩
          go_wp2_with fail
          refine HU.out.mono ?_
          rintro e w' ⟨rfl, rfl⟩
          go_wp2_with fail
          refine HG.out.mono ?_
          rintro e w1 ⟨b, S1, rfl, hr1, ho1, hwent, hsame⟩
          have R1 := Lib.hid hr1
          have O1 := Lib.hid ho1
          have SM := Lib.hid hsame
          clear hr1 ho1 HG b5 hsame HZ HU
          have hf1 : f = 1 := by
            have := HFL.out.2.2
            have h1 : (f : Int) = 1 := by simpa using tg2
            omega
          subst hf1
          have t4 : (((1 : Nat) : Int) == 0) = false := rfl
          rcases hwent with ⟨rfl, hc⟩ | ⟨rfl, hS1, hkp, hc⟩
          · have HC := Lib.hid hc
            clear hc
            have c1 := R1.out.blk.cell 1
            have f1 := R1.out.blk.fro 1
            simp only [List.getElem?_toArray, List.getElem?_cons_succ, List.getElem?_cons_zero] at c1
            have hll : (⟨(S1.f1.take S1.s1).toArray⟩ : ByteArray).size = S1.f1.length := by
              rw [size_ba, List.length_take, SM.out.2.1, SM.out.2.2.2.1]
              have h1 : S.s1 = S.f1.length := HFL.out.2.1
              omega
            have hnl : k ≤ (⟨(S1.f1.take S1.s1).toArray⟩ : ByteArray).size := by
              rw [hll, SM.out.2.1]
              exact HFL.out.1
            go_wp2_with fail
            go_ret
            rw [← HO.out, HC.out]
            refine ⟨rfl, .of (rk_cut1 k (by rw [SM.out.2.1]; exact HFL.out.1) (by rw [SM.out.2.1, SM.out.2.2.2.1]; exact HFL.out.2.1) R1.out) (O1.out.setCell _ (by simp) _)⟩
          · have c4 := R1.out.blk.cell 4
            simp only [List.getElem?_toArray, List.getElem?_cons_succ, List.getElem?_cons_zero] at c4
            have HD := Lib.hid (die58 r S1 uv kp kp w1 R1.out)
            have HK : Hid (kp.toNat = S.lft) := Lib.hid (by rw [hkp]; rfl)
            have HS := Lib.hid hS1
            have HC := Lib.hid hc
            clear hc hkp hS1
            go_wp2_with fail
            refine HD.out.mono ?_
            rintro e w2 ⟨rfl, hr, ho⟩
            have R2 := Lib.hid hr
            have O2 := Lib.hid ho
            clear hr ho HD c4
            go_wp2_with fail
            go_ret
            rw [← HO.out, HC.out, if_neg (show ¬ ((2 : Nat) = 0) by decide)]
            refine ⟨rfl, .nil (kp := kp) ?_ (O1.out.two O2.out)⟩
            have := R2.out
            rw [HS.out, HK.out, lose_dead] at this
            exact this
theorem cut35 (r : Nat) (S : St) (uv : Value) (kp : Int) (f n : Int) (hn1 : -9223372036854775808 ≤ n) (hn2 : n ≤ 9223372036854775807) (w : World) (h : Rk w r S uv kp) :
    Calls Tryd.prog 87 #[.pointer (some ⟨r, 0, none⟩), .int .i64 f, .int .i64 n] w fun e w' => e = .returned (.int .i64 ((S.cut f n).1 : Int)) ∧ Rm w r uv w' (S.cut f n).2 := by
  cases hg : S.gone
  · by_cases hf : f = 0 ∨ f = 1
    · obtain ⟨q, rfl, hq⟩ : ∃ q : Nat, f = (q : Int) ∧ q < 2 := ⟨f.toNat, by omega, by omega⟩
      exact cut35_on r S uv kp q hq n hn1 hn2 w h hg
    · have ht : St.there f = false := by simp [St.there]; omega
      rw [cutCode9, hg, ht]
      simp only [Bool.false_eq_true, if_false, not_false_eq_true, if_true]
      have H := Lib.hid h
      have b5 := h.b5
      rw [hg] at b5
      have t0 : (f != 0) = true := by simp; omega
      have t1 : (f != 1) = true := by simp; omega
      clear h hg hf ht
      go_enter Tryd.func87, Tryd.ntmps87
      go_wp2_with fail
      go_ret
      exact ⟨rfl, .same H.out (Below.refl _ _)⟩
  · rw [cutCode9, hg]
    simp only [if_true]
    have H := Lib.hid h
    have b5 := h.b5
    rw [hg] at b5
    clear h hg
    go_enter Tryd.func87, Tryd.ntmps87
    go_wp2_with fail
    go_ret
    exact ⟨rfl, .same H.out (Below.refl _ _)⟩
theorem copy12 (r : Nat) (S : St) (uv : Value) (kp : Int) (w : World) (h : Rk w r S uv kp) :
    Calls Tryd.prog 17 #[.pointer (some ⟨r, 0, none⟩)] w fun e w' => e = .returned (.pointer (some ⟨w.heap.size, 0, none⟩)) ∧ Rk w' w.heap.size S uv kp ∧ Below w.heap.size w w' ∧ w.heap.size < w'.heap.size := by
  have H := Lib.hid h
  have c0 := h.blk.cell 0
  have c1 := h.blk.cell 1
  have c2 := h.blk.cell 2
  have c3 := h.blk.cell 3
  have c4 := h.blk.cell 4
  have c5 := h.blk.cell 5
  simp only [List.getElem?_toArray, List.getElem?_cons_succ, List.getElem?_cons_zero] at c0 c1 c2 c3 c4 c5
  obtain ⟨a, c, rfl⟩ := h.shape
  clear h
  go_enter Tryd.func17, Tryd.ntmps17
  go_wp2_with fail
  go_ret
  refine ⟨rfl, ⟨Bk.new rfl, ownsU_of H.out.row fun g _ hg => Below.heap_alloc w _ g hg, H.out.kp, H.out.wf⟩, by go_grown, by rw [World.size_alloc]; omega⟩
def Ur (w0 w' : World) (v' : Value) (l : List (Nat × UInt8)) : Prop :=
  w'.ownsRow 0 127 2 v' l.length (ucells l) ∧ Below w0.heap.size w0 w' ∧ ∀ k, v'.ownBlock = some k → w0.heap.size ≤ k
theorem Ur.down {w0 w w' : World} {v : Value} {l : List (Nat × UInt8)} (h : Ur w0 w v l) (hb : Below w.heap.size w w') : Ur w0 w' v l :=
  ⟨ownsU_of h.1 fun g _ hg => hb.block g hg, h.2.1.trans (hb.mono h.2.1.size), h.2.2⟩
theorem Ur.shape {w0 w : World} {v : Value} {l : List (Nat × UInt8)} (h : Ur w0 w v l) : ∃ a c, v = .slice a l.length c := by
  obtain ⟨a, c, rfl, _⟩ := owns_len rfl h.1
  exact ⟨a, c, rfl⟩
theorem ur_more {w0 W : World} {v : Value} {l m : List (Nat × UInt8)} (ty : TypeId) (h : Ur w0 W v l) (a : Addr) (n c : Nat) (hn : n = m.length) (hm : ∀ j u, (ucells m)[j]? = some u → W.cell? (a.add j) = some u) (hl : l.length + m.length ≤ 4194304) :
    ∃ v' w', (Builtin.append_ #[59, 59] ty #[v, .slice (some a) n c]).run Tryd.prog W = .ok v' w' ∧ Ur w0 w' v' (l ++ m) := by
  subst hn
  obtain ⟨i0, hi, hz0, hz1, hz2⟩ := info_parts infoU
  obtain ⟨v', w', hrun, ho, hgr, hv, _⟩ := app_own W 59 ty 127 i0 (.agg #[.int .i64 0, .int .u8 0]) 2 16 u65 hi hz0 hz1 hz2 rfl (by decide) v l.length (ucells l) h.1 a m.length c (ucells m) (ucells_len m) hm (ucells_one m) (by unfold maxLen; omega) (by omega)
  refine ⟨v', w', hrun, ⟨by rw [List.length_append, ucells_app]; exact ho, h.2.1.grown hgr h.2.1.size h.2.2, fun k hk => ?_⟩⟩
  rcases hv with e | e
  · exact h.2.2 k (e ▸ hk)
  · exact Nat.le_trans h.2.1.size (e k hk)
theorem wp_ubyte {ops : Array Oper} {rest : List Oper} {o : Oper} {a : Act} {Q : Exit → Act → World → Prop} {w0 W : World} (hgd : o.guard = none) (s x : Operand) (ho : o.op = .call { callee := .builtin .append, args := #[s, x], argTypes := #[59, 59] })
    (v : Value) (l : List (Nat × UInt8)) (q c f : Nat) (b : UInt8) (hs : a.eval s = v) (hx : a.eval x = .slice (some ⟨q, 0, none⟩) 1 c) (hI : Ur w0 W v l) (hq : Bk 127 W q #[.int .i64 (f : Int), .int .u8 (b.toNat : Int)]) (hl : l.length + 1 ≤ 4194304)
    (h : ∀ v' w', Ur w0 w' v' (l ++ [(f, b)]) → wpList Tryd.prog ops Q rest (a.put o.dst v') w') : wpList Tryd.prog ops Q (o :: rest) a W := by
  obtain ⟨v', w', hrun, hu⟩ := ur_more (m := [(f, b)]) o.type hI ⟨q, 0, none⟩ 1 c rfl (by
    intro j u hu
    rw [at0, hq.cell]
    match j with
    | 0 => simpa [ucells] using hu
    | 1 => simpa [ucells] using hu
    | j + 2 => simp [ucells] at hu) hl
  exact Lib.wpList_append_run W hgd s x 59 59 ho _ _ hs hx v' w' hrun (h v' w' hu)
theorem copyU {w : World} {uv : Value} {l : List (Nat × UInt8)} (ty : TypeId) (h : w.ownsRow 0 127 2 uv l.length (ucells l)) (hl : l.length ≤ 2097152) :
    ∃ v' w', (Builtin.append_ #[59, 59] ty #[.slice (some ⟨w.heap.size, 0, none⟩) 0 0, uv]).run Tryd.prog (w.alloc (.cells #[] 127)) = .ok v' w' ∧ Ur w w' v' l := by
  have h0 : Ur w (w.alloc (.cells #[] 127)) (.slice (some ⟨w.heap.size, 0, none⟩) 0 0) [] := ⟨⟨rfl, .inr ⟨w.heap.size, 0, #[], rfl, Nat.zero_le _, Go.heap_alloc_new w _, Nat.le_refl _, by unfold maxLen; omega, rfl, rfl⟩⟩, by go_grown, fun k hk => by cases hk; exact Nat.le_refl _⟩
  have h' := h
  obtain ⟨_, ⟨rfl, hn⟩ | ⟨q, cap, cur, rfl, _⟩⟩ := h'
  · obtain ⟨i0, hi, hz0, hz1, hz2⟩ := info_parts infoU
    have hl0 : l = [] := List.eq_nil_of_length_eq_zero hn
    subst hl0
    refine ⟨_, _, ?_, h0⟩
    simp [Builtin.append_, run_underlying u65, sizeOf, typeInfo, hi, Builtin.lenOf, run_firstCells_none, storeCells]
  · have hcells := h.cells (g := q) rfl
    have hlt := h.lt q rfl
    obtain ⟨v', w', hrun, hu⟩ := ur_more (m := l) ty h0 ⟨q, 0, none⟩ l.length cap rfl (by
      intro j u hu
      have := hcells j u hu
      rw [at0] at this ⊢
      exact ((show Below w.heap.size w (w.alloc (.cells #[] 127)) by go_grown).cell (p := ⟨q, j, none⟩) hlt.2).trans this) (by simp; omega)
    exact ⟨v', w', hrun, hu⟩
end Go.Proofs.YtmoihgniglomiaaDoor
