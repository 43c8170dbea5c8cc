/- The document's disk: After, Files. No condition but the disk's own. -/
import Derived.Test.YtmoihgniglomiaaDoorZBb
set_option linter.unusedVariables false
set_option linter.unusedSimpArgs false
set_option maxRecDepth 100000
namespace Go.Proofs.YtmoihgniglomiaaDoor
open Go.RowKit Go.Sort

theorem wp_byte {ops : Array Oper} {rest : List Oper} {o : Oper} {a : Act} {Q : Exit → Act → World → Prop} {W : World} (hgd : o.guard = none) (s x : Operand) (ho : o.op = .call { callee := .builtin .append, args := #[s, x], argTypes := #[80, 80] })
    (g cap n q c : Nat) (l : List UInt8) (b : UInt8) (hs : a.eval s = .slice (some ⟨g, 0, none⟩) n cap) (hx : a.eval x = .slice (some ⟨q, 0, none⟩) 1 c) (hn : n = l.length) (hI : By W g cap l) (hq : Bk 5 W q #[.int .u8 (b.toNat : Int)]) (hlen : l.length + 1 ≤ 140737488355328)
    (h : ∀ g' cap' w', By w' g' cap' (l ++ [b]) → Only [g] W w' → (g' = g ∨ g' = W.heap.size) → wpList Tryd.prog ops Q rest (a.put o.dst (.slice (some ⟨g', 0, none⟩) (l.length + 1) cap')) w') : wpList Tryd.prog ops Q (o :: rest) a W := by
  obtain ⟨g', cap', w', hrun, hb, ho', hg'⟩ := app_byte W o.type g cap l q c b n hn hI hq hlen
  exact Lib.wpList_append_run W hgd s x 80 80 ho _ _ hs hx _ w' hrun (h g' cap' w' hb ho' hg')

/-- two rows of bytes side by side, all else as it was -/
structure AB (w wr : World) (ga ca gb cb : Nat) (la lb : List UInt8) : Prop where
  a : By wr ga ca la
  b : By wr gb cb lb
  ne : ga ≠ gb
  la : w.heap.size ≤ ga
  lb : w.heap.size ≤ gb
  below : Below w.heap.size w wr
theorem AB.stepA {w wr w1 w2 : World} {ga ca gb cb g' c' : Nat} {la lb la' : List UInt8} (h : AB w wr ga ca gb cb la lb) (hb : Below wr.heap.size wr w1) (hy : By w2 g' c' la') (ho : Only [ga] w1 w2) (hg : g' = ga ∨ g' = w1.heap.size) : AB w w2 g' c' gb cb la' lb := by
  have hs := hb.size
  have hblt := h.b.lt
  have h1 := h.below.size
  have h2 := h.la
  have h3 := h.ne
  refine ⟨hy, (h.b.below hb).only ho (by simp; exact fun e => h3 e.symm), ?_, ?_, h.lb, (h.below.trans (hb.mono h1)).trans (ho.below (by omega) (by simp; omega))⟩
  · rcases hg with rfl | rfl <;> omega
  · rcases hg with rfl | rfl <;> omega
theorem AB.stepB {w wr w1 w2 : World} {ga ca gb cb g' c' : Nat} {la lb lb' : List UInt8} (h : AB w wr ga ca gb cb la lb) (hb : Below wr.heap.size wr w1) (hy : By w2 g' c' lb') (ho : Only [gb] w1 w2) (hg : g' = gb ∨ g' = w1.heap.size) : AB w w2 ga ca g' c' la lb' := by
  have hs := hb.size
  have halt := h.a.lt
  have h1 := h.below.size
  have h2 := h.lb
  have h3 := h.ne
  refine ⟨(h.a.below hb).only ho (by simp; exact fun e => h3 e), hy, ?_, h.la, ?_, (h.below.trans (hb.mono h1)).trans (ho.below (by omega) (by simp; omega))⟩
  · rcases hg with rfl | rfl <;> omega
  · rcases hg with rfl | rfl <;> omega
theorem pick0_succ (l : List (Nat × UInt8)) (i : Nat) (hi : i < l.length) : pick0 (l.take (i + 1)) = pick0 (l.take i) ++ if l[i].1 = 0 then [l[i].2] else [] := by
  rw [List.take_succ_eq_append_getElem hi, pick0_app]
  congr 1
  by_cases h : l[i].1 = 0 <;> simp [pick0, h]
theorem pick1_succ (l : List (Nat × UInt8)) (i : Nat) (hi : i < l.length) : pick1 (l.take (i + 1)) = pick1 (l.take i) ++ if l[i].1 = 0 then [] else [l[i].2] := by
  rw [List.take_succ_eq_append_getElem hi, pick1_app]
  congr 1
  by_cases h : l[i].1 = 0 <;> simp [pick1, h]
theorem pick0_le (l : List (Nat × UInt8)) : (pick0 l).length ≤ l.length := by unfold pick0; exact List.length_filterMap_le _ _
theorem pick1_le (l : List (Nat × UInt8)) : (pick1 l).length ≤ l.length := by unfold pick1; exact List.length_filterMap_le _ _
set_option maxHeartbeats 16000000 in
theorem after39 (r : Nat) (S : St) (uv : Value) (kp k : Int) (w : World) (h : Rk w r S uv kp) :
    Calls Tryd.prog 62 #[.pointer (some ⟨r, 0, none⟩), .int .i64 k] w fun e w' => (∃ v, e = .returned v ∧ Two w.heap.size w' v (S.after k).1 (S.after k).2) ∧ Below w.heap.size w w' := by
  have haf := St.un_after h.wf k.toNat
  have hlen := un_small h.wf
  have hsz : (S.f0.take S.s0).length ≤ 1048576 ∧ (S.f1.take S.s1).length ≤ 1048576 := by
    have := h.wf.l0
    have := h.wf.l1
    simp only [List.length_take]
    omega
  unfold St.after
  rw [← haf.1, ← haf.2]
  obtain ⟨K, hK⟩ : ∃ K : Nat, k.toNat = K := ⟨_, rfl⟩
  have HK := Lib.hid hK
  rw [hK]
  clear hK
  obtain ⟨a, c, rfl, hcell⟩ := owns_len rfl h.row
  have KR := Lib.hid h.blk
  have ROW := Lib.hid h.row
  clear h haf
  generalize S.f0.take S.s0 = sa at hsz KR ⊢
  generalize S.f1.take S.s1 = sb at hsz KR ⊢
  generalize (S.inn : Int) = inn at KR
  generalize S.gone = gn at KR
  generalize S.un = l at hcell hlen KR ROW ⊢
  clear S
  obtain ⟨n, hn⟩ : ∃ n, n = l.length := ⟨_, rfl⟩
  have HL : Hid (l.length = n) := Lib.hid hn.symm
  rw [← hn] at KR hlen
  have HC : Hid (∀ wr, Below w.heap.size w wr → ∀ i (hi : i < l.length), ∃ g, a = some ⟨g, 0, none⟩ ∧ wr.cell? ⟨g, i * 2, none⟩ = some (.int .i64 (l[i].1 : Int)) ∧ wr.cell? ⟨g, i * 2 + 1, none⟩ = some (.int .u8 (l[i].2.toNat : Int))) := Lib.hid (fun wr hb i hi => by
    obtain ⟨g, ha, h0, h1⟩ := hcell i hi
    exact ⟨g, ha, (hb.cell (block_lt_of_cell h0)).trans h0, (hb.cell (block_lt_of_cell h1)).trans h1⟩)
  have HS := Lib.hid hsz
  have HLE := Lib.hid hlen
  have HBa : ∀ s : List UInt8, s.length ≤ 1048576 → (⟨s.toArray⟩ : ByteArray).size ≤ maxLen := fun s hs => by rw [size_ba]; unfold maxLen; omega
  have e0 : pick0 (l.take 0) = [] := rfl
  have e1 : pick1 (l.take 0) = [] := rfl
  clear hcell hn hsz ROW hlen
  go_enter Tryd.func62, Tryd.ntmps62
  go_wp2_with fail
  refine ra1 r k _ _ _ _ _ _ w KR.out ⟨HBa _ HS.out.1, HBa _ HS.out.2⟩ ?_
  rintro y4 y9 w1 hb1 hc4 hc9 hsep
  obtain ⟨ga, ca, rfl, hya, hla⟩ := hc4
  obtain ⟨gb, cb, rfl, hyb, hlb⟩ := hc9
  rw [size_ba] at *
  have J1 : Hid (AB w w1 ga ca gb cb sa sb) := Lib.hid ⟨hya, hyb, fun e => hsep ga rfl (by rw [e]; rfl), hla, hlb, hb1⟩
  clear hb1 hya hyb hla hlb hsep HBa
  simp only [ra1O, findR, Tryd.f62, Option.bind_some, Option.or, Option.getD, Nat.reduceEqDiff, if_true, if_false, reduceIte, List.drop_succ_cons, List.drop_zero]
  go_wp2_with fail
  go_loopw [5, 6, 7] (fun av bv iv wr => ∃ (i ga ca gb cb : Nat) (la lb : List UInt8), i ≤ n ∧ i ≤ K ∧ iv = .int .i64 (i : Int) ∧ av = .slice (some ⟨ga, 0, none⟩) la.length ca ∧ bv = .slice (some ⟨gb, 0, none⟩) lb.length cb ∧ Hid (la = sa ++ pick0 (l.take i)) ∧ Hid (lb = sb ++ pick1 (l.take i)) ∧ Hid (AB w wr ga ca gb cb la lb)) (fun _ _ iv _ => n - (intOf iv).toNat)
  case atStart => exact ⟨0, ga, ca, gb, cb, sa, sb, Nat.zero_le _, Nat.zero_le _, rfl, rfl, rfl, Lib.hid (by rw [e0, List.append_nil]), Lib.hid (by rw [e1, List.append_nil]), J1⟩
  case round =>
    obtain ⟨i, ga, ca, gb, cb, la, lb, hi, hiK, rfl, rfl, rfl, HA, HB, J⟩ := hrel
    clear J1
    have b2 := (KR.out.below J.out.below).cell 2
    simp only [List.getElem?_toArray, List.getElem?_cons_succ, List.getElem?_cons_zero] at b2
    by_cases hlt : i < n
    · have t1 : decide ((i : Int) < (n : Int)) = true := by simp; omega
      by_cases hltk : (i : Int) < k
      · have t2 : decide ((i : Int) < k) = true := by simpa using hltk
        have hil : i < l.length := by rw [HL.out]; exact hlt
        obtain ⟨g, ha, c0, c1⟩ := HC.out wr J.out.below i hil
        have hp0 := pick0_succ l i hil
        have hp1 := pick1_succ l i hil
        have HLA : Hid (la.length + 1 ≤ 140737488355328 ∧ lb.length + 1 ≤ 140737488355328) := Lib.hid (by
          rw [HA.out, HB.out, List.length_append, List.length_append]
          have h0 := pick0_le (l.take i)
          have h1 := pick1_le (l.take i)
          have h2 : (l.take i).length ≤ i := by rw [List.length_take]; omega
          have := HS.out
          have := HLE.out
          omega)
        subst ha
        have hib : i ≤ 2097152 := by have := HLE.out; omega
        have HKI : Hid (i + 1 ≤ K) := Lib.hid (by have := HK.out; omega)
        clear hltk
        by_cases hx : l[i].1 = 0
        · have t3 : ((l[i].1 : Int) == 0) = true := by simp [hx]
          rw [if_pos hx] at hp0 hp1
          have HP0 := Lib.hid hp0
          have HP1 := Lib.hid hp1
          clear hp0 hp1 hx
          generalize l[i].1 = xf at c0 t3
          generalize l[i].2 = xb at c1 HP0 HP1
          go_wp2_with (at_builtin; refine wp_byte rfl _ _ rfl ga ca la.length _ _ la xb rfl rfl rfl (J.out.a.below (by go_grown)) (Bk.new rfl) HLA.out.1 ?_; intro g' cap' w' hy ho hg'; replace J := Lib.hid (AB.stepA J.out (by go_grown) hy ho hg'); clear hy ho hg' b2 c0 c1)
          go_roundw
          case rel => exact ⟨_, _, _, _, _, _, _, _, _, _, _, _, _, _, _, _, _, _, _, _, _, _, _, _, _, _, _, _, _, _, _, _, _, _, _, _, _, _, _, _, _, _, _, _, _, _, _, _, ⟨i + 1, _, _, _, _, _, _, by omega, HKI.out, by go_num, by rw [List.length_append]; rfl, rfl, Lib.hid (by rw [HP0.out, HA.out, List.append_assoc]), Lib.hid (by rw [HP1.out, HB.out, List.append_nil]), J⟩, rfl⟩
          case measure => simp [intOf]; omega
        · have t3 : ((l[i].1 : Int) == 0) = false := by simp; omega
          rw [if_neg hx] at hp0 hp1
          have HP0 := Lib.hid hp0
          have HP1 := Lib.hid hp1
          clear hp0 hp1 hx
          generalize l[i].1 = xf at c0 t3
          generalize l[i].2 = xb at c1 HP0 HP1
          go_wp2_with (at_builtin; refine wp_byte rfl _ _ rfl gb cb lb.length _ _ lb xb rfl rfl rfl (J.out.b.below (by go_grown)) (Bk.new rfl) HLA.out.2 ?_; intro g' cap' w' hy ho hg'; replace J := Lib.hid (AB.stepB J.out (by go_grown) hy ho hg'); clear hy ho hg' b2 c0 c1)
          go_roundw
          case rel => exact ⟨_, _, _, _, _, _, _, _, _, _, _, _, _, _, _, _, _, _, _, _, _, _, _, _, _, _, _, _, _, _, _, _, _, _, _, _, _, _, _, _, _, _, _, _, _, _, _, _, ⟨i + 1, _, _, _, _, _, _, by omega, HKI.out, by go_num, rfl, by rw [List.length_append]; rfl, Lib.hid (by rw [HP0.out, HA.out, List.append_nil]), Lib.hid (by rw [HP1.out, HB.out, List.append_assoc]), J⟩, rfl⟩
          case measure => simp [intOf]; omega
      · have t2 : decide ((i : Int) < k) = false := by simpa using hltk
        have hiK2 : i = K := by have := HK.out; omega
        have EA : Hid (sa ++ pick0 (l.take K) = la) := Lib.hid (by rw [← hiK2, HA.out])
        have EB : Hid (sb ++ pick1 (l.take K) = lb) := Lib.hid (by rw [← hiK2, HB.out])
        clear hltk hiK2
        have cva := By.conv J.out.a ca la.length rfl
        have cvb := By.conv J.out.b cb lb.length rfl
        have hs1 := J.out.below.size
        go_wp2_with fail
        go_ret
        exact ⟨⟨_, rfl, _, rfl, hs1, by rw [EA.out, EB.out]; exact Bk.new rfl⟩, J.out.below.alloc hs1 _⟩
    · have t1 : decide ((i : Int) < (n : Int)) = false := by simp; omega
      have htk : l.take i = l.take K := by
        have := HL.out
        rw [List.take_of_length_le (by omega), List.take_of_length_le (by omega)]
      have EA : Hid (sa ++ pick0 (l.take K) = la) := Lib.hid (by rw [← htk, HA.out])
      have EB : Hid (sb ++ pick1 (l.take K) = lb) := Lib.hid (by rw [← htk, HB.out])
      clear htk
      have cva := By.conv J.out.a ca la.length rfl
      have cvb := By.conv J.out.b cb lb.length rfl
      have hs1 := J.out.below.size
      go_wp2_with fail
      go_ret
      exact ⟨⟨_, rfl, _, rfl, hs1, by rw [EA.out, EB.out]; exact Bk.new rfl⟩, J.out.below.alloc hs1 _⟩
end Go.Proofs.YtmoihgniglomiaaDoor
