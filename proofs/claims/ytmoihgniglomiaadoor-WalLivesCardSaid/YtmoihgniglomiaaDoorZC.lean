/- What is left of a disk of two files. No condition but the disk's own. -/
import Derived.Test.YtmoihgniglomiaaDoorZB
set_option linter.unusedVariables false
set_option linter.unusedSimpArgs false
set_option maxRecDepth 100000
namespace Go.Proofs.YtmoihgniglomiaaDoor
open Go.RowKit Go.Sort

theorem piece_cell {w : World} {g : Nat} {cur : Array Value} {row : List (Nat × Nat)} (hg : w.heap[g]? = some (.cells cur 105 (0, 0))) {m : Nat} (hc : cur.toList.take m = pcells row) (i : Nat) (hi : i < row.length) :
    w.cell? ⟨g, i * 2, none⟩ = some (.int .i64 (row[i].1 : Int)) ∧ w.cell? ⟨g, i * 2 + 1, none⟩ = some (.int .i64 (row[i].2 : Int)) := by
  obtain ⟨h0, h1⟩ := pcells_get row i hi
  rw [← hc] at h0 h1
  rw [List.getElem?_take] at h0 h1
  constructor
  · rw [blk_cell hg]
    split at h0
    · simpa using h0
    · cases h0
  · rw [blk_cell hg]
    split at h1
    · simpa using h1
    · cases h1
theorem u74 : Tryd.prog.underlying 132 = some (.array 2 3) := by kernel_rfl
theorem i74 : (Tryd.prog.info? 132).map (·.size) = some 2 := by kernel_rfl
theorem ret_cell74 {fn : Func} {R : Ending → World → Prop} {a : Act} {w : World} {p : Tmp} (h : fn.results = #[.cell p 132]) (g x y : Nat) (hp : a.tmps.getD p undef = .pointer (some ⟨g, 0, none⟩)) (hk : Bk 132 w g #[.int .i64 (x : Int), .int .i64 (y : Int)]) (hd : a.defers = []) (hR : R (.returned (.agg #[.int .i64 (x : Int), .int .i64 (y : Int)])) w) : bodyPost Tryd.prog fn R .ret a w :=
  bodyPost_ret (v := .agg #[.int .i64 (x : Int), .int .i64 (y : Int)]) (results_cell_row h a.tmps w g 132 #[.int .i64 (x : Int), .int .i64 (y : Int)] (0, 0) _ hp hk u74 rfl i74) hd hR
set_option maxHeartbeats 8000000 in
theorem left44 (b g n cap : Nat) (a0 a1 : Option Addr) (n0 n1 c0 c1 : Nat) (v5 v6 v7 : Value) (s0 s1 : Nat) (row : List (Nat × Nat)) (cur : Array Value) (hok : Hid (okRow row)) (hn : n = row.length) (hn2 : n ≤ 2097152) (hs0 : s0 + tot 0 row ≤ 1048576) (hs1 : s1 + tot 1 row ≤ 1048576) (k : Int) (hk : k ≤ 9223372036854775807) (w : World)
    (K : Hid (Bk 93 w b #[.slice a0 n0 c0, .int .i64 (s0 : Int), .slice a1 n1 c1, .int .i64 (s1 : Int), .slice (some ⟨g, 0, none⟩) n cap, v5, v6, v7])) (KR : Hid (w.heap[g]? = some (.cells cur 105 (0, 0)))) (HC : Hid (cur.toList.take (n * 2) = pcells row)) :
    Calls Tryd.prog 91 #[.pointer (some ⟨b, 0, none⟩), .int .i64 k] w fun e w' => e = .returned (.agg #[.int .i64 ((leftL row k.toNat s0 s1).1 : Int), .int .i64 ((leftL row k.toNat s0 s1).2 : Int)]) ∧ Below w.heap.size w w' := by
  have i0 := (((K.out.alloc (o := (.cells #[.int .i64 0, .int .i64 0] 132))).alloc (o := (.cells #[.int .i64 0, .int .i64 0] 132)))).cell 0
  have i1 := (((K.out.alloc (o := (.cells #[.int .i64 0, .int .i64 0] 132))).alloc (o := (.cells #[.int .i64 0, .int .i64 0] 132)))).cell 1
  have i2 := (((K.out.alloc (o := (.cells #[.int .i64 0, .int .i64 0] 132))).alloc (o := (.cells #[.int .i64 0, .int .i64 0] 132)))).cell 2
  have i3 := (((K.out.alloc (o := (.cells #[.int .i64 0, .int .i64 0] 132))).alloc (o := (.cells #[.int .i64 0, .int .i64 0] 132)))).cell 3
  have i4 : ((((w.alloc (.cells #[.int .i64 0, .int .i64 0] 132)).alloc (.cells #[.int .i64 (s0 : Int), .int .i64 (s1 : Int)] 132)).alloc (.cells #[.slice a0 n0 c0, .int .i64 (s0 : Int)] 87)).alloc (.cells #[.slice a1 n1 c1, .int .i64 (s1 : Int)] 87)).cell? ⟨b, 4, none⟩ = some (.slice (some ⟨g, 0, none⟩) n cap) := K.out.alloc.alloc.alloc.alloc.cell 4
  have hi0 : ∀ w, (Instr.index 88 (.agg #[.slice a0 n0 c0, .int .i64 (s0 : Int), .slice a1 n1 c1, .int .i64 (s1 : Int)]) (.int .i64 0)).run Tryd.prog w = .ok (.agg #[.slice a0 n0 c0, .int .i64 (s0 : Int)]) w := fun _ => by kernel_rfl
  have hi1 : ∀ w, (Instr.index 88 (.agg #[.slice a0 n0 c0, .int .i64 (s0 : Int), .slice a1 n1 c1, .int .i64 (s1 : Int)]) (.int .i64 1)).run Tryd.prog w = .ok (.agg #[.slice a1 n1 c1, .int .i64 (s1 : Int)]) w := fun _ => by kernel_rfl
  go_enter Tryd.func91, Tryd.ntmps91
  go_wp2_with fail
  refine wp_loop_rounds 3 ?_
  rw [rounds_succ]
  go_wp2_with fail
  rw [rounds_succ]
  go_wp2_with fail
  rw [rounds_succ]
  go_wp2_with fail
  have KO : Hid (Bk 132 ((((w.alloc (.cells #[.int .i64 0, .int .i64 0] 132)).alloc (.cells #[.int .i64 (s0 : Int), .int .i64 (s1 : Int)] 132)).alloc (.cells #[.slice a0 n0 c0, .int .i64 (s0 : Int)] 87)).alloc (.cells #[.slice a1 n1 c1, .int .i64 (s1 : Int)] 87)) (w.heap.size + 1) #[.int .i64 (s0 : Int), .int .i64 (s1 : Int)]) := Lib.hid (Bk.alloc (Bk.alloc (Bk.new (by simp))))
  have KZ : Hid (Bk 132 ((((w.alloc (.cells #[.int .i64 0, .int .i64 0] 132)).alloc (.cells #[.int .i64 (s0 : Int), .int .i64 (s1 : Int)] 132)).alloc (.cells #[.slice a0 n0 c0, .int .i64 (s0 : Int)] 87)).alloc (.cells #[.slice a1 n1 c1, .int .i64 (s1 : Int)] 87)) w.heap.size #[.int .i64 0, .int .i64 0]) := Lib.hid (Bk.alloc (Bk.alloc (Bk.alloc (Bk.new rfl))))
  have HB : Hid (Below w.heap.size w ((((w.alloc (.cells #[.int .i64 0, .int .i64 0] 132)).alloc (.cells #[.int .i64 (s0 : Int), .int .i64 (s1 : Int)] 132)).alloc (.cells #[.slice a0 n0 c0, .int .i64 (s0 : Int)] 87)).alloc (.cells #[.slice a1 n1 c1, .int .i64 (s1 : Int)] 87))) := Lib.hid (by go_grown)
  have KR1 : Hid (((((w.alloc (.cells #[.int .i64 0, .int .i64 0] 132)).alloc (.cells #[.int .i64 (s0 : Int), .int .i64 (s1 : Int)] 132)).alloc (.cells #[.slice a0 n0 c0, .int .i64 (s0 : Int)] 87)).alloc (.cells #[.slice a1 n1 c1, .int .i64 (s1 : Int)] 87)).heap[g]? = some (.cells cur 105 (0, 0))) := Lib.hid ((HB.out.block g (blk_lt KR.out)).trans KR.out)
  have HT := Lib.hid hs0
  have HU := Lib.hid hs1
  have KR0 := KR
  clear i0 i1 i2 i3 i4 hi0 hi1 hs0 hs1 K KR
  generalize ((((w.alloc (.cells #[.int .i64 0, .int .i64 0] 132)).alloc (.cells #[.int .i64 (s0 : Int), .int .i64 (s1 : Int)] 132)).alloc (.cells #[.slice a0 n0 c0, .int .i64 (s0 : Int)] 87)).alloc (.cells #[.slice a1 n1 c1, .int .i64 (s1 : Int)] 87)) = w1 at KO KZ HB KR1 ⊢
  have hm0 : max k 0 = ((k.toNat : Nat) : Int) := by omega
  rw [hm0]
  have hkn : k.toNat ≤ 9223372036854775807 := by omega
  clear hm0
  have HL : Hid (∀ kk, kk = k.toNat → leftL row kk s0 s1 = leftL row k.toNat s0 s1) := Lib.hid (fun kk e => by rw [e])
  generalize hK : leftL row k.toNat s0 s1 = T at HL ⊢
  have HK := Lib.hid hK
  clear hK
  generalize k.toNat = K0 at hkn HL ⊢
  go_loopw [1, 31] (fun kv iv wr => ∃ i kk a b' : Nat, i ≤ n ∧ iv = .int .i64 (i : Int) ∧ kv = .int .i64 (kk : Int) ∧ kk ≤ 9223372036854775807 ∧ Hid (leftL (row.drop i) kk a b' = T) ∧ Hid (a + tot 0 (row.drop i) ≤ 1048576) ∧ Hid (b' + tot 1 (row.drop i) ≤ 1048576) ∧ Hid (Bk 132 wr (w.heap.size + 1) #[.int .i64 (a : Int), .int .i64 (b' : Int)]) ∧ Hid (Bk 132 wr w.heap.size #[.int .i64 0, .int .i64 0]) ∧ Hid (wr.heap[g]? = some (.cells cur 105 (0, 0))) ∧ Hid (Below w.heap.size w wr)) (fun _ i _ => n - (intOf i).toNat)
  case atStart => exact ⟨0, K0, s0, s1, Nat.zero_le _, rfl, rfl, hkn, Lib.hid (HL.out _ rfl), HT, HU, KO, KZ, KR1, HB⟩
  case round =>
    obtain ⟨i, kk, a, b', hi, rfl, rfl, hkk, HE, HA, HB', JO, JZ, JR, JB⟩ := hrel
    by_cases hlt : i < n
    · obtain ⟨pf, ps, hp⟩ : ∃ pf ps, row[i]'(by omega) = (pf, ps) := ⟨_, _, rfl⟩
      have hdrop : row.drop i = (pf, ps) :: row.drop (i + 1) := by rw [List.drop_eq_getElem_cons (by omega), hp]
      have hcell := piece_cell JR.out HC.out i (by omega)
      rw [hp] at hcell
      obtain ⟨hc0, hc1⟩ := hcell
      simp only at hc0 hc1
      have hpf : pf < 2 := (hok.out (pf, ps) (hp ▸ List.getElem_mem (by omega))).1
      have HE' := HE.out
      have HA' := HA.out
      have HB'' := HB'.out
      rw [hdrop] at HE' HA' HB''
      simp only [leftL, tot] at HE' HA' HB''
      clear hp hdrop
      rcases (by omega : pf = 0 ∨ pf = 1) with rfl | rfl
      · simp only [if_true, Nat.zero_ne_one, if_false, Nat.zero_add] at HE' HA' HB''
        have HE1 := Lib.hid HE'
        have HA1 : Hid (a + min ps kk + tot 0 (row.drop (i + 1)) ≤ 1048576) := Lib.hid (by omega)
        have HB1 : Hid (b' + tot 1 (row.drop (i + 1)) ≤ 1048576) := Lib.hid (by omega)
        have hab : a + ps ≤ 1048576 := by omega
        clear HE' HA' HB'' HE HA HB' hpf
        have KA := Lib.hid (JO.out.alloc (o := .cells #[.int .i64 0, .int .i64 (ps : Int)] 105))
        have j0 := KA.out.cell 0
        have fj0 := KA.out.fro 0
        have hmn : ((min ps kk : Nat) : Int) = min (ps : Int) (kk : Int) := by omega
        have e1 : IntKind.i64.wrap ((a : Int) + min (ps : Int) (kk : Int)) = ((a + min ps kk : Nat) : Int) := by rw [IntWalk.i64_in _ (by omega)]; omega
        have e2 : IntKind.i64.wrap ((kk : Int) - min (ps : Int) (kk : Int)) = ((kk - min ps kk : Nat) : Int) := by rw [IntWalk.i64_in _ (by omega)]; omega
        have E3 : Hid ((a : Int) + min (ps : Int) (kk : Int) = ((a + min ps kk : Nat) : Int)) := Lib.hid (by omega)
        have E4 : Hid ((kk : Int) - min (ps : Int) (kk : Int) = ((kk - min ps kk : Nat) : Int)) := Lib.hid (by omega)
        clear hmn
        go_wp2_with fail
        have hbk : Bk 132 ((wr.alloc (.cells #[.int .i64 0, .int .i64 (ps : Int)] 105)).setCell ⟨w.heap.size + 1, 0, none⟩ (.int .i64 (((a + min ps kk : Nat)) : Int))) (w.heap.size + 1) #[.int .i64 ((a + min ps kk : Nat) : Int), .int .i64 (b' : Int)] := by
          have := Bk.same (i := 0) (v := .int .i64 ((a + min ps kk : Nat) : Int)) KA.out
          simpa using this
        have hbz := (Bk.oth (a := ⟨w.heap.size + 1, 0, none⟩) (v := .int .i64 (((a + min ps kk : Nat)) : Int)) (show w.heap.size ≠ w.heap.size + 1 by omega) (JZ.out.alloc (o := .cells #[.int .i64 0, .int .i64 (ps : Int)] 105)))
        have hbb : Below w.heap.size w ((wr.alloc (.cells #[.int .i64 0, .int .i64 (ps : Int)] 105)).setCell ⟨w.heap.size + 1, 0, none⟩ (.int .i64 (((a + min ps kk : Nat)) : Int))) := by
          have hb := JB.out
          have := hb.size
          go_grown
        have hgr := (hbb.block g (blk_lt KR0.out)).trans KR0.out
        go_roundw
        case rel => exact ⟨i + 1, kk - min ps kk, a + min ps kk, b', by omega, by go_num, by first | rfl | (rw [E4.out]), by omega, HE1, HA1, HB1, Lib.hid hbk, Lib.hid hbz, Lib.hid hgr, Lib.hid hbb⟩
        case measure => simp [intOf]; omega
      · simp only [if_true, Nat.one_ne_zero, if_false, Nat.zero_add] at HE' HA' HB''
        have HE1 := Lib.hid HE'
        have HA1 : Hid (a + tot 0 (row.drop (i + 1)) ≤ 1048576) := Lib.hid (by omega)
        have HB1 : Hid (b' + min ps kk + tot 1 (row.drop (i + 1)) ≤ 1048576) := Lib.hid (by omega)
        have hab : b' + ps ≤ 1048576 := by omega
        clear HE' HA' HB'' HE HA HB' hpf
        have KA := Lib.hid (JO.out.alloc (o := .cells #[.int .i64 1, .int .i64 (ps : Int)] 105))
        have j0 := KA.out.cell 1
        have fj0 := KA.out.fro 1
        have hmn : ((min ps kk : Nat) : Int) = min (ps : Int) (kk : Int) := by omega
        have e1 : IntKind.i64.wrap ((b' : Int) + min (ps : Int) (kk : Int)) = ((b' + min ps kk : Nat) : Int) := by rw [IntWalk.i64_in _ (by omega)]; omega
        have e2 : IntKind.i64.wrap ((kk : Int) - min (ps : Int) (kk : Int)) = ((kk - min ps kk : Nat) : Int) := by rw [IntWalk.i64_in _ (by omega)]; omega
        have E3 : Hid ((b' : Int) + min (ps : Int) (kk : Int) = ((b' + min ps kk : Nat) : Int)) := Lib.hid (by omega)
        have E4 : Hid ((kk : Int) - min (ps : Int) (kk : Int) = ((kk - min ps kk : Nat) : Int)) := Lib.hid (by omega)
        clear hmn
        go_wp2_with fail
        have hbk : Bk 132 ((wr.alloc (.cells #[.int .i64 1, .int .i64 (ps : Int)] 105)).setCell ⟨w.heap.size + 1, 1, none⟩ (.int .i64 (((b' + min ps kk : Nat)) : Int))) (w.heap.size + 1) #[.int .i64 (a : Int), .int .i64 ((b' + min ps kk : Nat) : Int)] := by
          have := Bk.same (i := 1) (v := .int .i64 ((b' + min ps kk : Nat) : Int)) KA.out
          simpa using this
        have hbz := (Bk.oth (a := ⟨w.heap.size + 1, 1, none⟩) (v := .int .i64 (((b' + min ps kk : Nat)) : Int)) (show w.heap.size ≠ w.heap.size + 1 by omega) (JZ.out.alloc (o := .cells #[.int .i64 1, .int .i64 (ps : Int)] 105)))
        have hbb : Below w.heap.size w ((wr.alloc (.cells #[.int .i64 1, .int .i64 (ps : Int)] 105)).setCell ⟨w.heap.size + 1, 1, none⟩ (.int .i64 (((b' + min ps kk : Nat)) : Int))) := by
          have hb := JB.out
          have := hb.size
          go_grown
        have hgr := (hbb.block g (blk_lt KR0.out)).trans KR0.out
        go_roundw
        case rel => exact ⟨i + 1, kk - min ps kk, a, b' + min ps kk, by omega, by go_num, by first | rfl | (rw [E4.out]), by omega, HE1, HA1, HB1, Lib.hid hbk, Lib.hid hbz, Lib.hid hgr, Lib.hid hbb⟩
        case measure => simp [intOf]; omega
    · have hin : i = n := by omega
      have j0 := JO.out.cell 0
      have j1 := JO.out.cell 1
      have z0 := JZ.out.cell 0
      have z1 := JZ.out.cell 1
      have fz0 := JZ.out.fro 0
      have fz1 := JZ.out.fro 1
      go_wp2_with fail
      have hd : row.drop i = [] := List.drop_eq_nil_of_le (by omega)
      have HE' := HE.out
      rw [hd] at HE'
      simp only [leftL] at HE'
      subst HE'
      refine ret_cell74 rfl w.heap.size a b' rfl (by have := Bk.same (i := 1) (v := .int .i64 (b' : Int)) (Bk.same (i := 0) (v := .int .i64 (a : Int)) JZ.out); simpa using this) rfl ⟨by simp [HK.out], ?_⟩
      have hb := JB.out
      have := hb.size
      go_grown
set_option maxHeartbeats 8000000 in
theorem left44n (b : Nat) (a0 a1 : Option Addr) (n0 n1 c0 c1 : Nat) (v5 v6 v7 : Value) (s0 s1 : Nat) (k : Int) (hk : k ≤ 9223372036854775807) (w : World)
    (K : Hid (Bk 93 w b #[.slice a0 n0 c0, .int .i64 (s0 : Int), .slice a1 n1 c1, .int .i64 (s1 : Int), .slice none 0 0, v5, v6, v7])) :
    Calls Tryd.prog 91 #[.pointer (some ⟨b, 0, none⟩), .int .i64 k] w fun e w' => e = .returned (.agg #[.int .i64 (s0 : Int), .int .i64 (s1 : Int)]) ∧ Below w.heap.size w w' := by
  have i0 := (((K.out.alloc (o := (.cells #[.int .i64 0, .int .i64 0] 132))).alloc (o := (.cells #[.int .i64 0, .int .i64 0] 132)))).cell 0
  have i1 := (((K.out.alloc (o := (.cells #[.int .i64 0, .int .i64 0] 132))).alloc (o := (.cells #[.int .i64 0, .int .i64 0] 132)))).cell 1
  have i2 := (((K.out.alloc (o := (.cells #[.int .i64 0, .int .i64 0] 132))).alloc (o := (.cells #[.int .i64 0, .int .i64 0] 132)))).cell 2
  have i3 := (((K.out.alloc (o := (.cells #[.int .i64 0, .int .i64 0] 132))).alloc (o := (.cells #[.int .i64 0, .int .i64 0] 132)))).cell 3
  have i4 : ((((w.alloc (.cells #[.int .i64 0, .int .i64 0] 132)).alloc (.cells #[.int .i64 (s0 : Int), .int .i64 (s1 : Int)] 132)).alloc (.cells #[.slice a0 n0 c0, .int .i64 (s0 : Int)] 87)).alloc (.cells #[.slice a1 n1 c1, .int .i64 (s1 : Int)] 87)).cell? ⟨b, 4, none⟩ = some (.slice none 0 0) := K.out.alloc.alloc.alloc.alloc.cell 4
  have hi0 : ∀ w, (Instr.index 88 (.agg #[.slice a0 n0 c0, .int .i64 (s0 : Int), .slice a1 n1 c1, .int .i64 (s1 : Int)]) (.int .i64 0)).run Tryd.prog w = .ok (.agg #[.slice a0 n0 c0, .int .i64 (s0 : Int)]) w := fun _ => by kernel_rfl
  have hi1 : ∀ w, (Instr.index 88 (.agg #[.slice a0 n0 c0, .int .i64 (s0 : Int), .slice a1 n1 c1, .int .i64 (s1 : Int)]) (.int .i64 1)).run Tryd.prog w = .ok (.agg #[.slice a1 n1 c1, .int .i64 (s1 : Int)]) w := fun _ => by kernel_rfl
  go_enter Tryd.func91, Tryd.ntmps91
  go_wp2_with fail
  refine wp_loop_rounds 3 ?_
  rw [rounds_succ]
  go_wp2_with fail
  rw [rounds_succ]
  go_wp2_with fail
  rw [rounds_succ]
  go_wp2_with fail
  have KO : Hid (Bk 132 ((((w.alloc (.cells #[.int .i64 0, .int .i64 0] 132)).alloc (.cells #[.int .i64 (s0 : Int), .int .i64 (s1 : Int)] 132)).alloc (.cells #[.slice a0 n0 c0, .int .i64 (s0 : Int)] 87)).alloc (.cells #[.slice a1 n1 c1, .int .i64 (s1 : Int)] 87)) (w.heap.size + 1) #[.int .i64 (s0 : Int), .int .i64 (s1 : Int)]) := Lib.hid (Bk.alloc (Bk.alloc (Bk.new (by simp))))
  have KZ : Hid (Bk 132 ((((w.alloc (.cells #[.int .i64 0, .int .i64 0] 132)).alloc (.cells #[.int .i64 (s0 : Int), .int .i64 (s1 : Int)] 132)).alloc (.cells #[.slice a0 n0 c0, .int .i64 (s0 : Int)] 87)).alloc (.cells #[.slice a1 n1 c1, .int .i64 (s1 : Int)] 87)) w.heap.size #[.int .i64 0, .int .i64 0]) := Lib.hid (Bk.alloc (Bk.alloc (Bk.alloc (Bk.new rfl))))
  have HB : Hid (Below w.heap.size w ((((w.alloc (.cells #[.int .i64 0, .int .i64 0] 132)).alloc (.cells #[.int .i64 (s0 : Int), .int .i64 (s1 : Int)] 132)).alloc (.cells #[.slice a0 n0 c0, .int .i64 (s0 : Int)] 87)).alloc (.cells #[.slice a1 n1 c1, .int .i64 (s1 : Int)] 87))) := Lib.hid (by go_grown)
  clear i0 i1 i2 i3 i4 hi0 hi1 K
  generalize ((((w.alloc (.cells #[.int .i64 0, .int .i64 0] 132)).alloc (.cells #[.int .i64 (s0 : Int), .int .i64 (s1 : Int)] 132)).alloc (.cells #[.slice a0 n0 c0, .int .i64 (s0 : Int)] 87)).alloc (.cells #[.slice a1 n1 c1, .int .i64 (s1 : Int)] 87)) = w1 at KO KZ HB ⊢
  have j0 := KO.out.cell 0
  have j1 := KO.out.cell 1
  have z0 := KZ.out.cell 0
  have z1 := KZ.out.cell 1
  have fz0 := KZ.out.fro 0
  have fz1 := KZ.out.fro 1
  refine wp_loop_rounds 1 ?_
  rw [rounds_succ]
  go_wp2_with fail
  refine ret_cell74 rfl w.heap.size s0 s1 rfl (by have := Bk.same (i := 1) (v := .int .i64 (s1 : Int)) (Bk.same (i := 0) (v := .int .i64 (s0 : Int)) KZ.out); simpa using this) rfl ⟨rfl, ?_⟩
  have hb := HB.out
  have := hb.size
  go_grown
theorem left_any (p : Fp) (S : St) (k : Int) (hk : k ≤ 9223372036854775807) (w : World) (h : Dk w p S) :
    Calls Tryd.prog 91 #[p.v, .int .i64 k] w fun e w' => e = .returned (.agg #[.int .i64 ((S.left k.toNat).1 : Int), .int .i64 ((S.left k.toNat).2 : Int)]) ∧ Below w.heap.size w w' := by
  have hb := h.blk
  have h0 := h.wf.t0
  have h1 := h.wf.t1
  have h2 := h.wf.l0
  have h3 := h.wf.l1
  have hr := h.wf.rowlen
  obtain ⟨hl, ⟨hv, hn⟩ | ⟨g, cap, cur, hv, _, hg, hnc, hcm, hcs, htake⟩⟩ := h.rr
  · have hrow : S.row = [] := List.eq_nil_of_length_eq_zero hn
    rw [hv] at hb
    have e : S.left k.toNat = (S.s0, S.s1) := by unfold St.left; rw [hrow]; rfl
    rw [e]
    exact left44n p.b _ _ _ _ _ _ _ _ _ _ _ k hk w (Lib.hid hb)
  · rw [hv] at hb
    exact left44 p.b g _ cap _ _ _ _ _ _ _ _ _ _ _ S.row cur (Lib.hid h.wf.ok) rfl hr (by omega) (by omega) k hk w (Lib.hid hb) (Lib.hid hg) (Lib.hid htake)
end Go.Proofs.YtmoihgniglomiaaDoor
