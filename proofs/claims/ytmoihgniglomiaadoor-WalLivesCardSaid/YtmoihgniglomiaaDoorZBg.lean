/- The document's disk: Append. No condition but the disk's own, and the text's length. -/
import Derived.Test.YtmoihgniglomiaaDoorZBe
set_option linter.unusedVariables false
set_option linter.unusedSimpArgs false
set_option maxRecDepth 100000
namespace Go.Proofs.YtmoihgniglomiaaDoor
open Go.RowKit Go.Sort

theorem count_two {S : St} {X : St} (h : S.count = (2, X)) : S.inn = 1 := by
  unfold St.count at h
  split at h
  · cases h
  · split at h
    · cases h
    · omega
theorem lay_count0 {S S1 : St} (h : S.count = (0, S1)) (f : Nat) (s : List UInt8) : (S.lay f s).count = (0, S1.lay f s) := by
  unfold St.count at h ⊢
  have e : (S.lay f s).inn = S.inn := by unfold St.lay; split <;> rfl
  rw [e]
  split at h
  · rename_i h0
    rw [if_pos h0]
    cases h
    rfl
  · rename_i h0
    rw [if_neg h0]
    split at h
    · rename_i h1
      rw [if_pos h1]
      cases h
      unfold St.lay
      split <;> rfl
    · cases h
theorem lay_count2 {S X : St} (h : S.count = (2, X)) (f : Nat) (s : List UInt8) : (S.lay f s).count = (2, (({ S with inn := 0 } : St).lay f s).lose S.lft) := by
  have h1 := count_two h
  have e : (S.lay f s).inn = 1 := by unfold St.lay; split <;> exact h1
  rw [count_one e]
  unfold St.lay
  split <;> rfl
theorem rk_lay {w w' : World} {r : Nat} {S : St} {uv v : Value} {kp : Int} (f : Nat) (hf : f < 2) (s : List UInt8) (hs : (S.file f).length + s.length ≤ 1048576) (h : Rk w r S uv kp) (hu : Ur w w' v (S.un ++ s.map fun c => (f, c))) : Rk (w'.setCell ⟨r, 2, none⟩ v) r (S.lay f s) v kp ∧ Only [r] w (w'.setCell ⟨r, 2, none⟩ v) := by
  have hlt := h.blk.lt
  have hun : (S.lay f s).un = S.un ++ s.map fun c => (f, c) := by
    rcases (by omega : f = 0 ∨ f = 1) with rfl | rfl
    · exact St.un_lay0 h.wf s
    · exact St.un_lay1 h.wf s
  have t0 := h.wf.t0
  have t1 := h.wf.t1
  refine ⟨⟨?_, ?_, ?_, h.wf.lay f s hf hs⟩, (Only.of hu.2.1).setCell _ (by simp) _⟩
  · have := Bk.same (i := 2) (v := v) (h.blk.below hu.2.1)
    have e0 : (S.lay f s).f0.take (S.lay f s).s0 = S.f0.take S.s0 := by
      unfold St.lay
      split
      · show (S.f0 ++ s).take S.s0 = _
        rw [List.take_append_of_le_length (by omega)]
      · rfl
    have e1 : (S.lay f s).f1.take (S.lay f s).s1 = S.f1.take S.s1 := by
      unfold St.lay
      split
      · rfl
      · show (S.f1 ++ s).take S.s1 = _
        rw [List.take_append_of_le_length (by omega)]
    have e2 : (S.lay f s).inn = S.inn ∧ (S.lay f s).gone = S.gone := by unfold St.lay; split <;> exact ⟨rfl, rfl⟩
    rw [e0, e1, e2.1, e2.2]
    simp at this
    exact this
  · rw [hun]
    refine ownsU_of hu.1 fun g e _ => heap_setCell_other _ _ _ _ ?_
    have := hu.2.2 g e
    show g ≠ r
    omega
  · have e2 : (S.lay f s).inn = S.inn ∧ (S.lay f s).lft = S.lft := by unfold St.lay; split <;> exact ⟨rfl, rfl⟩
    rw [e2.1, e2.2]
    exact h.kp
theorem index9 (s : ByteArray) (i : Nat) (h : i < s.data.toList.length) (w : World) : (Instr.index 9 (.string s) (.int .i64 (i : Int))).run Tryd.prog w = .ok (.int .u8 (s.data.toList[i].toNat : Int)) w := by
  have h' : i < s.size := by rw [← ba_size]; exact h
  go_simp
  rfl
set_option maxHeartbeats 16000000 in
theorem app33_ok (r : Nat) (S : St) (uv : Value) (kp : Int) (f : Nat) (hf : f < 2) (s : ByteArray) (w : World) (h : Rk w r S uv kp) (hg : S.gone = false) (hfit : (S.file f).length + s.size ≤ 1048576) :
    Calls Tryd.prog 46 #[.pointer (some ⟨r, 0, none⟩), .int .i64 (f : Int), .string s] w fun e w' => e = .returned (.int .i64 (((S.lay f s.data.toList).count).1 : Int)) ∧ Rm w r uv w' ((S.lay f s.data.toList).count).2 := by
  have H := Lib.hid h
  have b5 := h.b5
  have ht : St.there (f : Int) = true := by simp [St.there]; omega
  have hsz : S.size (f : Int) = ((S.file f).length : Int) := by unfold St.size; rw [ht]; rfl
  rw [hg] at b5
  have HZ := Lib.hid (size32 r S uv kp (f : Int) w h)
  rw [hsz] at HZ
  have HG := Lib.hid (goes57 r S uv kp w h)
  have HF : Hid (f < 2 ∧ (S.file f).length + s.size ≤ 1048576) := Lib.hid ⟨hf, hfit⟩
  obtain ⟨o, ho⟩ : ∃ o, (S.lay f s.data.toList).count = o := ⟨_, rfl⟩
  rw [ho]
  have HO := Lib.hid ho
  have tg : (((f : Int) != 0) = false) ∨ (((f : Int) != 0) = true ∧ ((f : Int) != 1) = false) := by
    rcases (by omega : f = 0 ∨ f = 1) with rfl | rfl
    · exact .inl rfl
    · exact .inr ⟨rfl, rfl⟩
  have t2 : decide (1048576 < (S.file f).length + s.size) = false := by simp; omega
  have t3 : decide ((1048576 : Int) < ((S.file f).length : Int) + (s.size : Int)) = false := by simp; omega
  obtain ⟨n, hn⟩ : ∃ n, n = s.size := ⟨_, rfl⟩
  have HN := Lib.hid hn
  have hnb : n ≤ 1048576 := by omega
  have HL : Hid ((S.file f).length + n ≤ 1048576) := Lib.hid (by omega)
  clear h hg ht hsz hf ho
  rcases tg with tg | ⟨tg, tg2⟩
  · go_enter Tryd.func46, Tryd.ntmps46
    go_wp2_with fail
    refine HZ.out.mono ?_
    rintro e w' ⟨rfl, rfl⟩
    go_wp2_with fail
    refine HG.out.mono ?_
    rintro e w1 ⟨b, S1, rfl, hr1, ho1, hwent, hsame⟩
    have R1 := Lib.hid hr1
    have O1 := Lib.hid ho1
    have WT := Lib.hid hwent
    have S1L : Hid ((S1.file f).length + s.size ≤ 1048576) := Lib.hid (by
      have : S1.file f = S.file f := by unfold St.file; rw [hsame.1, hsame.2.1]
      rw [this]
      exact HF.out.2)
    clear hr1 ho1 HG b5 hsame HZ hwent t2 t3
    obtain ⟨ua, uc, hsh⟩ := R1.out.shape
    subst hsh
    have c2 := (R1.out.below (show Below w1.heap.size w1 (w1.alloc (.cells #[] 127)) by go_grown)).blk.cell 2
    simp only [List.getElem?_toArray, List.getElem?_cons_succ, List.getElem?_cons_zero] at c2
    have HU := Lib.hid (copyU 59 R1.out.row (un_small R1.out.wf))
    have ULN := Lib.hid (un_small R1.out.wf)
    go_wp2_with (at_builtin; obtain ⟨v', w2, hrun, hu⟩ := HU.out; replace hu := Lib.hid hu; clear HU; refine Lib.wpList_append_run _ rfl _ _ 59 59 rfl _ _ rfl rfl v' w2 hrun ?_; clear hrun)
    have hnl : s.data.toList.length = s.size := ba_size s
    have LNN := Lib.hid hnl
    have e0 : S1.un ++ (s.data.toList.take 0).map (fun c => (f, c)) = S1.un := by simp
    have U0 : Hid (Ur w1 w2 v' (S1.un ++ (s.data.toList.take 0).map (fun c => (f, c)))) := Lib.hid (by rw [e0]; exact hu.out)
    clear hu e0 c2 hnl hn
    obtain ⟨va, v0, vc, hvs⟩ : ∃ va v0 vc, v' = .slice va v0 vc := by
      obtain ⟨a, c, h⟩ := U0.out.shape
      exact ⟨a, _, c, h⟩
    subst hvs
    go_loopw [8, 9] (fun lv iv wr => ∃ (i : Nat) (la : Option Addr) (ln lc : Nat), i ≤ s.size ∧ iv = .int .i64 (i : Int) ∧ lv = .slice la ln lc ∧ Hid (Ur w1 wr (.slice la ln lc) (S1.un ++ (s.data.toList.take i).map (fun c => (f, c))))) (fun _ iv _ => s.size - (intOf iv).toNat)
    case atStart => exact ⟨0, va, _, vc, Nat.zero_le _, rfl, rfl, U0⟩
    case round =>
      obtain ⟨i, la, ln, lc, hi, rfl, rfl, UI⟩ := hrel
      clear U0
      by_cases hlt : i < s.size
      · have hil : i < s.data.toList.length := by rw [LNN.out]; exact hlt
        have hix := index9 s i hil
        have hstep : S1.un ++ (s.data.toList.take (i + 1)).map (fun c => (f, c)) = (S1.un ++ (s.data.toList.take i).map (fun c => (f, c))) ++ [(f, s.data.toList[i])] := by
          rw [List.take_succ_eq_append_getElem hil, List.map_append, List.append_assoc]; rfl
        have HST := Lib.hid hstep
        have HLL : Hid ((S1.un ++ (s.data.toList.take i).map (fun c => (f, c))).length + 1 ≤ 4194304) := Lib.hid (by
          rw [List.length_append, List.length_map, List.length_take]
          have := ULN.out
          omega)
        clear hstep
        generalize s.data.toList[i] = cb at hix HST
        generalize S1.un ++ (s.data.toList.take i).map (fun c => (f, c)) = L at UI HST HLL
        go_wp2_with (at_builtin; refine wp_ubyte rfl _ _ rfl (.slice la ln lc) L _ _ f cb rfl rfl (UI.out.down (by go_grown)) (Bk.new rfl) HLL.out ?_; intro v'' w' hu; obtain ⟨xa, xc, hxs⟩ := hu.shape; subst hxs; replace hu := Lib.hid hu; clear hix)
        go_roundw
        case rel => exact ⟨i + 1, xa, L.length + 1, xc, by omega, by go_num, rfl, Lib.hid (by rw [HST.out]; simpa only [List.length_append, List.length_singleton] using hu.out)⟩
        case measure => simp [intOf]; omega
      · have hin : i = s.size := by omega
        subst hin
        have UF : Hid (Ur w1 wr (.slice la ln lc) (S1.un ++ s.data.toList.map (fun c => (f, c)))) := Lib.hid (by
          have := UI.out
          rwa [List.take_of_length_le (Nat.le_of_eq LNN.out)] at this)
        clear UI hlt
        have hk := rk_lay f HF.out.1 s.data.toList (by rw [LNN.out]; exact S1L.out) R1.out UF.out
        have R2 := Lib.hid hk.1
        have O2 := Lib.hid hk.2
        have c2 := (R1.out.blk.below UF.out.2.1).cell 2
        have f2 := (R1.out.blk.below UF.out.2.1).fro 2
        simp only [List.getElem?_toArray, List.getElem?_cons_succ, List.getElem?_cons_zero] at c2
        have FR := Lib.hid UF.out.2.2
        have SZ := Lib.hid UF.out.2.1.size
        have OSZ := Lib.hid O1.out.size
        clear hk UF
        cases b
        · have HR : Hid (o = (0, S1.lay f s.data.toList)) := Lib.hid (by
            rw [← HO.out]
            rcases WT.out with ⟨_, hc⟩ | ⟨hb, _⟩
            · exact lay_count0 hc f _
            · cases hb)
          clear WT HO
          go_wp2_with fail
          go_ret
          rw [HR.out]
          exact ⟨rfl, _, kp, R2.out, O1.out.two O2.out, fun g e => .inr (Nat.le_trans OSZ.out (FR.out g e))⟩
        · obtain ⟨hS1, hkp, hc⟩ : S1 = { S with inn := 0 } ∧ kp = (S.lft : Int) ∧ S.count = (2, S.lose S.lft) := by
            rcases WT.out with ⟨hb, _⟩ | ⟨_, h1, h2, h3⟩
            · cases hb
            · exact ⟨h1, h2, h3⟩
          have HR : Hid (o = (2, (S1.lay f s.data.toList).lose S.lft)) := Lib.hid (by rw [← HO.out, hS1]; exact lay_count2 hc f _)
          have HK : Hid (kp.toNat = S.lft) := Lib.hid (by rw [hkp]; rfl)
          have c4 := R2.out.blk.cell 4
          simp only [List.getElem?_toArray, List.getElem?_cons_succ, List.getElem?_cons_zero] at c4
          have HD := Lib.hid (die58 r _ _ kp kp _ R2.out)
          clear WT HO hS1 hkp hc
          go_wp2_with fail
          refine HD.out.mono ?_
          rintro e w3 ⟨rfl, hr, ho⟩
          have R3 := Lib.hid hr
          have O3 := Lib.hid ho
          clear hr ho HD c4
          go_wp2_with fail
          go_ret
          rw [HR.out]
          refine ⟨rfl, .nil (kp := kp) ?_ ((O1.out.two O2.out).two O3.out)⟩
          have := R3.out
          rw [HK.out] at this
          exact this
  · go_enter Tryd.func46, Tryd.ntmps46
    go_wp2_with fail
    refine HZ.out.mono ?_
    rintro e w' ⟨rfl, rfl⟩
    go_wp2_with fail
    refine HG.out.mono ?_
    rintro e w1 ⟨b, S1, rfl, hr1, ho1, hwent, hsame⟩
    have R1 := Lib.hid hr1
    have O1 := Lib.hid ho1
    have WT := Lib.hid hwent
    have S1L : Hid ((S1.file f).length + s.size ≤ 1048576) := Lib.hid (by
      have : S1.file f = S.file f := by unfold St.file; rw [hsame.1, hsame.2.1]
      rw [this]
      exact HF.out.2)
    clear hr1 ho1 HG b5 hsame HZ hwent t2 t3
    obtain ⟨ua, uc, hsh⟩ := R1.out.shape
    subst hsh
    have c2 := (R1.out.below (show Below w1.heap.size w1 (w1.alloc (.cells #[] 127)) by go_grown)).blk.cell 2
    simp only [List.getElem?_toArray, List.getElem?_cons_succ, List.getElem?_cons_zero] at c2
    have HU := Lib.hid (copyU 59 R1.out.row (un_small R1.out.wf))
    have ULN := Lib.hid (un_small R1.out.wf)
    go_wp2_with (at_builtin; obtain ⟨v', w2, hrun, hu⟩ := HU.out; replace hu := Lib.hid hu; clear HU; refine Lib.wpList_append_run _ rfl _ _ 59 59 rfl _ _ rfl rfl v' w2 hrun ?_; clear hrun)
    have hnl : s.data.toList.length = s.size := ba_size s
    have LNN := Lib.hid hnl
    have e0 : S1.un ++ (s.data.toList.take 0).map (fun c => (f, c)) = S1.un := by simp
    have U0 : Hid (Ur w1 w2 v' (S1.un ++ (s.data.toList.take 0).map (fun c => (f, c)))) := Lib.hid (by rw [e0]; exact hu.out)
    clear hu e0 c2 hnl hn
    obtain ⟨va, v0, vc, hvs⟩ : ∃ va v0 vc, v' = .slice va v0 vc := by
      obtain ⟨a, c, h⟩ := U0.out.shape
      exact ⟨a, _, c, h⟩
    subst hvs
    go_loopw [8, 9] (fun lv iv wr => ∃ (i : Nat) (la : Option Addr) (ln lc : Nat), i ≤ s.size ∧ iv = .int .i64 (i : Int) ∧ lv = .slice la ln lc ∧ Hid (Ur w1 wr (.slice la ln lc) (S1.un ++ (s.data.toList.take i).map (fun c => (f, c))))) (fun _ iv _ => s.size - (intOf iv).toNat)
    case atStart => exact ⟨0, va, _, vc, Nat.zero_le _, rfl, rfl, U0⟩
    case round =>
      obtain ⟨i, la, ln, lc, hi, rfl, rfl, UI⟩ := hrel
      clear U0
      by_cases hlt : i < s.size
      · have hil : i < s.data.toList.length := by rw [LNN.out]; exact hlt
        have hix := index9 s i hil
        have hstep : S1.un ++ (s.data.toList.take (i + 1)).map (fun c => (f, c)) = (S1.un ++ (s.data.toList.take i).map (fun c => (f, c))) ++ [(f, s.data.toList[i])] := by
          rw [List.take_succ_eq_append_getElem hil, List.map_append, List.append_assoc]; rfl
        have HST := Lib.hid hstep
        have HLL : Hid ((S1.un ++ (s.data.toList.take i).map (fun c => (f, c))).length + 1 ≤ 4194304) := Lib.hid (by
          rw [List.length_append, List.length_map, List.length_take]
          have := ULN.out
          omega)
        clear hstep
        generalize s.data.toList[i] = cb at hix HST
        generalize S1.un ++ (s.data.toList.take i).map (fun c => (f, c)) = L at UI HST HLL
        go_wp2_with (at_builtin; refine wp_ubyte rfl _ _ rfl (.slice la ln lc) L _ _ f cb rfl rfl (UI.out.down (by go_grown)) (Bk.new rfl) HLL.out ?_; intro v'' w' hu; obtain ⟨xa, xc, hxs⟩ := hu.shape; subst hxs; replace hu := Lib.hid hu; clear hix)
        go_roundw
        case rel => exact ⟨i + 1, xa, L.length + 1, xc, by omega, by go_num, rfl, Lib.hid (by rw [HST.out]; simpa only [List.length_append, List.length_singleton] using hu.out)⟩
        case measure => simp [intOf]; omega
      · have hin : i = s.size := by omega
        subst hin
        have UF : Hid (Ur w1 wr (.slice la ln lc) (S1.un ++ s.data.toList.map (fun c => (f, c)))) := Lib.hid (by
          have := UI.out
          rwa [List.take_of_length_le (Nat.le_of_eq LNN.out)] at this)
        clear UI hlt
        have hk := rk_lay f HF.out.1 s.data.toList (by rw [LNN.out]; exact S1L.out) R1.out UF.out
        have R2 := Lib.hid hk.1
        have O2 := Lib.hid hk.2
        have c2 := (R1.out.blk.below UF.out.2.1).cell 2
        have f2 := (R1.out.blk.below UF.out.2.1).fro 2
        simp only [List.getElem?_toArray, List.getElem?_cons_succ, List.getElem?_cons_zero] at c2
        have FR := Lib.hid UF.out.2.2
        have SZ := Lib.hid UF.out.2.1.size
        have OSZ := Lib.hid O1.out.size
        clear hk UF
        cases b
        · have HR : Hid (o = (0, S1.lay f s.data.toList)) := Lib.hid (by
            rw [← HO.out]
            rcases WT.out with ⟨_, hc⟩ | ⟨hb, _⟩
            · exact lay_count0 hc f _
            · cases hb)
          clear WT HO
          go_wp2_with fail
          go_ret
          rw [HR.out]
          exact ⟨rfl, _, kp, R2.out, O1.out.two O2.out, fun g e => .inr (Nat.le_trans OSZ.out (FR.out g e))⟩
        · obtain ⟨hS1, hkp, hc⟩ : S1 = { S with inn := 0 } ∧ kp = (S.lft : Int) ∧ S.count = (2, S.lose S.lft) := by
            rcases WT.out with ⟨hb, _⟩ | ⟨_, h1, h2, h3⟩
            · cases hb
            · exact ⟨h1, h2, h3⟩
          have HR : Hid (o = (2, (S1.lay f s.data.toList).lose S.lft)) := Lib.hid (by rw [← HO.out, hS1]; exact lay_count2 hc f _)
          have HK : Hid (kp.toNat = S.lft) := Lib.hid (by rw [hkp]; rfl)
          have c4 := R2.out.blk.cell 4
          simp only [List.getElem?_toArray, List.getElem?_cons_succ, List.getElem?_cons_zero] at c4
          have HD := Lib.hid (die58 r _ _ kp kp _ R2.out)
          clear WT HO hS1 hkp hc
          go_wp2_with fail
          refine HD.out.mono ?_
          rintro e w3 ⟨rfl, hr, ho⟩
          have R3 := Lib.hid hr
          have O3 := Lib.hid ho
          clear hr ho HD c4
          go_wp2_with fail
          go_ret
          rw [HR.out]
          refine ⟨rfl, .nil (kp := kp) ?_ ((O1.out.two O2.out).two O3.out)⟩
          have := R3.out
          rw [HK.out] at this
          exact this
theorem append33 (r : Nat) (S : St) (uv : Value) (kp : Int) (f : Int) (s : ByteArray) (hsz : s.size ≤ 140737488355328) (w : World) (h : Rk w r S uv kp) :
    Calls Tryd.prog 46 #[.pointer (some ⟨r, 0, none⟩), .int .i64 f, .string s] w fun e w' => e = .returned (.int .i64 ((S.append f s.data.toList).1 : Int)) ∧ Rm w r uv w' (S.append f s.data.toList).2 := by
  rw [append_eq, ba_size]
  have H := Lib.hid h
  have b5 := h.b5
  cases hg : S.gone
  · rw [hg] at b5
    simp only [Bool.false_eq_true, if_false]
    by_cases hf : f = 0 ∨ f = 1
    · obtain ⟨q, rfl, hq⟩ : ∃ q : Nat, f = (q : Int) ∧ q < 2 := ⟨f.toNat, by omega, by omega⟩
      have ht : St.there (q : Int) = true := by simp [St.there]; omega
      by_cases hfit : (S.file q).length + s.size ≤ 1048576
      · have hc : appCode S (q : Int) s.size = 0 := by
          unfold appCode
          rw [ht, if_neg (by simp), if_neg (by simpa using hfit)]
        rw [if_neg (by simp [hc])]
        exact app33_ok r S uv kp q hq s w h hg hfit
      · have hc : appCode S (q : Int) s.size = 91 := by
          unfold appCode
          rw [ht, if_neg (by simp), if_pos (by simpa using hfit)]
        rw [hc, if_pos (by decide)]
        have hsize : S.size (q : Int) = ((S.file q).length : Int) := by unfold St.size; rw [ht]; rfl
        have HZ := Lib.hid (size32 r S uv kp (q : Int) w h)
        rw [hsize] at HZ
        have hl : (S.file q).length ≤ 1048576 := by
          have := h.wf.l0
          have := h.wf.l1
          unfold St.file
          split <;> omega
        have t2 : decide (1048576 < (S.file q).length + s.size) = true := by simp; omega
        have hfit2 : 1048576 < (S.file q).length + s.size := by omega
        have tg : (((q : Int) != 0) = false) ∨ (((q : Int) != 0) = true ∧ ((q : Int) != 1) = false) := by
          rcases (by omega : q = 0 ∨ q = 1) with rfl | rfl
          · exact .inl rfl
          · exact .inr ⟨rfl, rfl⟩
        clear h hg ht hsize hc hf hq hfit
        rcases tg with tg | ⟨tg, tg2⟩
        · go_enter Tryd.func46, Tryd.ntmps46
          go_wp2_with fail
          refine HZ.out.mono ?_
          rintro e w' ⟨rfl, rfl⟩
          go_wp2_with fail
          go_ret
          exact ⟨rfl, .same H.out (Below.refl _ _)⟩
        · go_enter Tryd.func46, Tryd.ntmps46
          go_wp2_with fail
          refine HZ.out.mono ?_
          rintro e w' ⟨rfl, rfl⟩
          go_wp2_with fail
          go_ret
          exact ⟨rfl, .same H.out (Below.refl _ _)⟩
    · have ht : St.there f = false := by simp [St.there]; omega
      have hc : appCode S f s.size = 90 := by unfold appCode; rw [ht]; rfl
      rw [hc, if_pos (by decide)]
      have t0 : (f != 0) = true := by simp; omega
      have t1 : (f != 1) = true := by simp; omega
      clear h hg hf ht hc
      go_enter Tryd.func46, Tryd.ntmps46
      go_wp2_with fail
      go_ret
      exact ⟨rfl, .same H.out (Below.refl _ _)⟩
  · rw [hg] at b5
    simp only [if_true]
    clear h hg
    go_enter Tryd.func46, Tryd.ntmps46
    go_wp2_with fail
    go_ret
    exact ⟨rfl, .same H.out (Below.refl _ _)⟩
set_option maxHeartbeats 8000000 in
theorem rnew_ok (b o c : Nat) (x y : ByteArray) (w : World) (h0 : w.cell? ⟨b, o, none⟩ = some (.string x)) (h1 : w.cell? ⟨b, o + 1, none⟩ = some (.string y)) (hx : x.size ≤ 1048576) (hy : y.size ≤ 1048576) :
    Calls Tryd.prog 12 #[.slice (some ⟨b, o, none⟩) 2 c] w fun e w' => e = .returned (.tuple #[.pointer (some ⟨w.heap.size, 0, none⟩), .int .i64 0]) ∧ Rk w' w.heap.size (St.new x.data.toList y.data.toList) (.slice none 0 0) 0 ∧ Below w.heap.size w w' ∧ w.heap.size < w'.heap.size := by
  have ht : decide ((1048576 : Int) < (x.size : Int)) = false := by simp; omega
  have ht2 : decide ((1048576 : Int) < (y.size : Int)) = false := by simp; omega
  have HX := Lib.hid (And.intro hx hy)
  clear hx hy
  go_enter Tryd.func12, Tryd.ntmps12
  go_wp2_with fail
  go_still_tail 7, (by kernel_rfl)
  go_wp2_with fail
  go_returns
  have hx := HX.out.1
  have hy := HX.out.2
  have hw : (St.new x.data.toList y.data.toList).Wf := St.Wf.new (by rw [ba_size]; exact hx) (by rw [ba_size]; exact hy)
  refine ⟨rfl, ⟨?_, nil_row _ _ rfl, fun h => absurd rfl h, hw⟩, (by go_grown), by simp⟩
  have e0 : (St.new x.data.toList y.data.toList).f0.take (St.new x.data.toList y.data.toList).s0 = x.data.toList := by
    show x.data.toList.take x.data.toList.length = _
    exact List.take_length
  have e1 : (St.new x.data.toList y.data.toList).f1.take (St.new x.data.toList y.data.toList).s1 = y.data.toList := by
    show y.data.toList.take y.data.toList.length = _
    exact List.take_length
  rw [e0, e1, ba_eta, ba_eta]
  exact Bk.new (by simp)
end Go.Proofs.YtmoihgniglomiaaDoor
