/- The document's disk: Append. No condition but the disk's own, and the text's length. The sum of bytes, by the program's table and bit by bit. Condition: the program's table lies as its text lays it. The program's table, out of what a row lists; a world in which it lies. No condition. Numbers as bytes, frames and a file's beginning: the program's and the document's. Condition: the program's table w -/
import Derived.Test.YtmoihgniglomiaaDoorZd08
import Derived.Laws.BitsAllLaws
import Derived.Laws.Shifts
import Derived.Laws.IdiomStrings
import Derived.Test.YtmoihgniglomiaaDoorZd07
import Derived.Test.YtmoihgniglomiaaDoorCards
import Derived.Test.YtmoihgniglomiaaDoorTie
import Derived.Lib.LaidIn
import Derived.Lib.LaidTab
import Derived.Test.YtmoihgniglomiaaDoorZd06
import Derived.Lib.ConvBytes
import Derived.Laws.Concat
import Derived.Shelf.Small.Wraps
import Derived.Shelf.LaysM
import Derived.Shelf.Strconv.Clone
import Derived.Shelf.Strings.Prefix
import Derived.Test.YtmoihgniglomiaaDoorProg
set_option linter.unusedVariables false
set_option linter.unusedSimpArgs false
set_option maxRecDepth 100000
namespace Go.Proofs.YtmoihgniglomiaaDoor
open Go.RowKit Go.Sort
theorem count_two {S : St} {X : St} (h : S.count = (2, X)) : S.inn = 1 := by
  unfold St.count at h
  split at h
  · cases h
  · split at h
    · cases h
    · omega
theorem lay_count0 {S S1 : St} (h : S.count = (0, S1)) (f : Nat) (s : List UInt8) : (S.lay f s).count = (0, S1.lay f s) := by
  unfold St.count at h ⊢
  have e : (S.lay f s).inn = S.inn := by unfold St.lay; split <;> rfl
  rw [e]
  split at h
  · rename_i h0
    rw [if_pos h0]
    cases h
    rfl
  · rename_i h0
    rw [if_neg h0]
    split at h
    · rename_i h1
      rw [if_pos h1]
      cases h
      unfold St.lay
      split <;> rfl
    · cases h
theorem lay_count2 {S X : St} (h : S.count = (2, X)) (f : Nat) (s : List UInt8) : (S.lay f s).count = (2, (({ S with inn := 0 } : St).lay f s).lose S.lft) := by
  have h1 := count_two h
  have e : (S.lay f s).inn = 1 := by unfold St.lay; split <;> exact h1
  rw [count_one e]
  unfold St.lay
  split <;> rfl
theorem rk_lay {w w' : World} {r : Nat} {S : St} {uv v : Value} {kp : Int} (f : Nat) (hf : f < 2) (s : List UInt8) (hs : (S.file f).length + s.length ≤ 1048576) (h : Rk w r S uv kp) (hu : Ur w w' v (S.un ++ s.map fun c => (f, c))) : Rk (w'.setCell ⟨r, 2, none⟩ v) r (S.lay f s) v kp ∧ Only [r] w (w'.setCell ⟨r, 2, none⟩ v) := by
  have hlt := h.blk.lt
  have hun : (S.lay f s).un = S.un ++ s.map fun c => (f, c) := by
    rcases (by omega : f = 0 ∨ f = 1) with rfl | rfl
    · exact St.un_lay0 h.wf s
    · exact St.un_lay1 h.wf s
  have t0 := h.wf.t0
  have t1 := h.wf.t1
  refine ⟨⟨?_, ?_, ?_, h.wf.lay f s hf hs⟩, (Only.of hu.2.1).setCell _ (by simp) _⟩
  · have := Bk.same (i := 2) (v := v) (h.blk.below hu.2.1)
    have e0 : (S.lay f s).f0.take (S.lay f s).s0 = S.f0.take S.s0 := by
      unfold St.lay
      split
      · show (S.f0 ++ s).take S.s0 = _
        rw [List.take_append_of_le_length (by omega)]
      · rfl
    have e1 : (S.lay f s).f1.take (S.lay f s).s1 = S.f1.take S.s1 := by
      unfold St.lay
      split
      · rfl
      · show (S.f1 ++ s).take S.s1 = _
        rw [List.take_append_of_le_length (by omega)]
    have e2 : (S.lay f s).inn = S.inn ∧ (S.lay f s).gone = S.gone := by unfold St.lay; split <;> exact ⟨rfl, rfl⟩
    rw [e0, e1, e2.1, e2.2]
    simp at this
    exact this
  · rw [hun]
    refine ownsU_of hu.1 fun g e _ => heap_setCell_other _ _ _ _ ?_
    have := hu.2.2 g e
    show g ≠ r
    omega
  · have e2 : (S.lay f s).inn = S.inn ∧ (S.lay f s).lft = S.lft := by unfold St.lay; split <;> exact ⟨rfl, rfl⟩
    rw [e2.1, e2.2]
    exact h.kp
theorem index9 (s : ByteArray) (i : Nat) (h : i < s.data.toList.length) (w : World) : (Instr.index 9 (.string s) (.int .i64 (i : Int))).run Tryd.prog w = .ok (.int .u8 (s.data.toList[i].toNat : Int)) w := by
  have h' : i < s.size := by rw [← ba_size]; exact h
  go_simp
  rfl
set_option maxHeartbeats 16000000 in
theorem app33_ok (r : Nat) (S : St) (uv : Value) (kp : Int) (f : Nat) (hf : f < 2) (s : ByteArray) (w : World) (h : Rk w r S uv kp) (hg : S.gone = false) (hfit : (S.file f).length + s.size ≤ 1048576) :
    Calls Tryd.prog 46 #[.pointer (some ⟨r, 0, none⟩), .int .i64 (f : Int), .string s] w fun e w' => e = .returned (.int .i64 (((S.lay f s.data.toList).count).1 : Int)) ∧ Rm w r uv w' ((S.lay f s.data.toList).count).2 := by
  have H := Lib.hid h
  have b5 := h.b5
  have ht : St.there (f : Int) = true := by simp [St.there]; omega
  have hsz : S.size (f : Int) = ((S.file f).length : Int) := by unfold St.size; rw [ht]; rfl
  rw [hg] at b5
  have HZ := Lib.hid (size32 r S uv kp (f : Int) w h)
  rw [hsz] at HZ
  have HG := Lib.hid (goes57 r S uv kp w h)
  have HF : Hid (f < 2 ∧ (S.file f).length + s.size ≤ 1048576) := Lib.hid ⟨hf, hfit⟩
  obtain ⟨o, ho⟩ : ∃ o, (S.lay f s.data.toList).count = o := ⟨_, rfl⟩
  rw [ho]
  have HO := Lib.hid ho
  have tg : (((f : Int) != 0) = false) ∨ (((f : Int) != 0) = true ∧ ((f : Int) != 1) = false) := by
    rcases (by omega : f = 0 ∨ f = 1) with rfl | rfl
    · exact .inl rfl
    · exact .inr ⟨rfl, rfl⟩
  have t2 : decide (1048576 < (S.file f).length + s.size) = false := by simp; omega
  have t3 : decide ((1048576 : Int) < ((S.file f).length : Int) + (s.size : Int)) = false := by simp; omega
  obtain ⟨n, hn⟩ : ∃ n, n = s.size := ⟨_, rfl⟩
  have HN := Lib.hid hn
  have hnb : n ≤ 1048576 := by omega
  have HL : Hid ((S.file f).length + n ≤ 1048576) := Lib.hid (by omega)
  clear h hg ht hsz hf ho
  rcases tg with tg | ⟨tg, tg2⟩
  · go_enter Tryd.func46, Tryd.ntmps46
    go_wp2_with fail
    refine HZ.out.mono ?_
    rintro e w' ⟨rfl, rfl⟩
    go_wp2_with fail
    refine HG.out.mono ?_
    rintro e w1 ⟨b, S1, rfl, hr1, ho1, hwent, hsame⟩
    have R1 := Lib.hid hr1
    have O1 := Lib.hid ho1
    have WT := Lib.hid hwent
    have S1L : Hid ((S1.file f).length + s.size ≤ 1048576) := Lib.hid (by
      have : S1.file f = S.file f := by unfold St.file; rw [hsame.1, hsame.2.1]
      rw [this]
      exact HF.out.2)
    clear hr1 ho1 HG b5 hsame HZ hwent t2 t3
    obtain ⟨ua, uc, hsh⟩ := R1.out.shape
    subst hsh
    have c2 := (R1.out.below (show Below w1.heap.size w1 (w1.alloc (.cells #[] 127)) by go_grown)).blk.cell 2
    simp only [List.getElem?_toArray, List.getElem?_cons_succ, List.getElem?_cons_zero] at c2
    have HU := Lib.hid (copyU 59 R1.out.row (un_small R1.out.wf))
    have ULN := Lib.hid (un_small R1.out.wf)
    go_wp2_with (at_builtin; obtain ⟨v', w2, hrun, hu⟩ := HU.out; replace hu := Lib.hid hu; clear HU; refine Lib.wpList_append_run _ rfl _ _ 59 59 rfl _ _ rfl rfl v' w2 hrun ?_; clear hrun)
    have hnl : s.data.toList.length = s.size := ba_size s
    have LNN := Lib.hid hnl
    have e0 : S1.un ++ (s.data.toList.take 0).map (fun c => (f, c)) = S1.un := by simp
    have U0 : Hid (Ur w1 w2 v' (S1.un ++ (s.data.toList.take 0).map (fun c => (f, c)))) := Lib.hid (by rw [e0]; exact hu.out)
    clear hu e0 c2 hnl hn
    obtain ⟨va, v0, vc, hvs⟩ : ∃ va v0 vc, v' = .slice va v0 vc := by
      obtain ⟨a, c, h⟩ := U0.out.shape
      exact ⟨a, _, c, h⟩
    subst hvs
    go_loopw [8, 9] (fun lv iv wr => ∃ (i : Nat) (la : Option Addr) (ln lc : Nat), i ≤ s.size ∧ iv = .int .i64 (i : Int) ∧ lv = .slice la ln lc ∧ Hid (Ur w1 wr (.slice la ln lc) (S1.un ++ (s.data.toList.take i).map (fun c => (f, c))))) (fun _ iv _ => s.size - (intOf iv).toNat)
    case atStart => exact ⟨0, va, _, vc, Nat.zero_le _, rfl, rfl, U0⟩
    case round =>
      obtain ⟨i, la, ln, lc, hi, rfl, rfl, UI⟩ := hrel
      clear U0
      by_cases hlt : i < s.size
      · have hil : i < s.data.toList.length := by rw [LNN.out]; exact hlt
        have hix := index9 s i hil
        have hstep : S1.un ++ (s.data.toList.take (i + 1)).map (fun c => (f, c)) = (S1.un ++ (s.data.toList.take i).map (fun c => (f, c))) ++ [(f, s.data.toList[i])] := by
          rw [List.take_succ_eq_append_getElem hil, List.map_append, List.append_assoc]; rfl
        have HST := Lib.hid hstep
        have HLL : Hid ((S1.un ++ (s.data.toList.take i).map (fun c => (f, c))).length + 1 ≤ 4194304) := Lib.hid (by
          rw [List.length_append, List.length_map, List.length_take]
          have := ULN.out
          omega)
        clear hstep
        generalize s.data.toList[i] = cb at hix HST
        generalize S1.un ++ (s.data.toList.take i).map (fun c => (f, c)) = L at UI HST HLL
        go_wp2_with (at_builtin; refine wp_ubyte rfl _ _ rfl (.slice la ln lc) L _ _ f cb rfl rfl (UI.out.down (by go_grown)) (Bk.new rfl) HLL.out ?_; intro v'' w' hu; obtain ⟨xa, xc, hxs⟩ := hu.shape; subst hxs; replace hu := Lib.hid hu; clear hix)
        go_roundw
        case rel => exact ⟨i + 1, xa, L.length + 1, xc, by omega, by go_num, rfl, Lib.hid (by rw [HST.out]; simpa only [List.length_append, List.length_singleton] using hu.out)⟩
        case measure => simp [intOf]; omega
      · have hin : i = s.size := by omega
        subst hin
        have UF : Hid (Ur w1 wr (.slice la ln lc) (S1.un ++ s.data.toList.map (fun c => (f, c)))) := Lib.hid (by
          have := UI.out
          rwa [List.take_of_length_le (Nat.le_of_eq LNN.out)] at this)
        clear UI hlt
        have hk := rk_lay f HF.out.1 s.data.toList (by rw [LNN.out]; exact S1L.out) R1.out UF.out
        have R2 := Lib.hid hk.1
        have O2 := Lib.hid hk.2
        have c2 := (R1.out.blk.below UF.out.2.1).cell 2
        have f2 := (R1.out.blk.below UF.out.2.1).fro 2
        simp only [List.getElem?_toArray, List.getElem?_cons_succ, List.getElem?_cons_zero] at c2
        have FR := Lib.hid UF.out.2.2
        have SZ := Lib.hid UF.out.2.1.size
        have OSZ := Lib.hid O1.out.size
        clear hk UF
        cases b
        · have HR : Hid (o = (0, S1.lay f s.data.toList)) := Lib.hid (by
            rw [← HO.out]
            rcases WT.out with ⟨_, hc⟩ | ⟨hb, _⟩
            · exact lay_count0 hc f _
            · cases hb)
          clear WT HO
          go_wp2_with fail
          go_ret
          rw [HR.out]
          exact ⟨rfl, _, kp, R2.out, O1.out.two O2.out, fun g e => .inr (Nat.le_trans OSZ.out (FR.out g e))⟩
        · obtain ⟨hS1, hkp, hc⟩ : S1 = { S with inn := 0 } ∧ kp = (S.lft : Int) ∧ S.count = (2, S.lose S.lft) := by
            rcases WT.out with ⟨hb, _⟩ | ⟨_, h1, h2, h3⟩
            · cases hb
            · exact ⟨h1, h2, h3⟩
          have HR : Hid (o = (2, (S1.lay f s.data.toList).lose S.lft)) := Lib.hid (by rw [← HO.out, hS1]; exact lay_count2 hc f _)
          have HK : Hid (kp.toNat = S.lft) := Lib.hid (by rw [hkp]; rfl)
          have c4 := R2.out.blk.cell 4
          simp only [List.getElem?_toArray, List.getElem?_cons_succ, List.getElem?_cons_zero] at c4
          have HD := Lib.hid (die58 r _ _ kp kp _ R2.out)
          clear WT HO hS1 hkp hc
          go_wp2_with fail
          refine HD.out.mono ?_
          rintro e w3 ⟨rfl, hr, ho⟩
          have R3 := Lib.hid hr
          have O3 := Lib.hid ho
          clear hr ho HD c4
          go_wp2_with fail
          go_ret
          rw [HR.out]
          refine ⟨rfl, .nil (kp := kp) ?_ ((O1.out.two O2.out).two O3.out)⟩
          have := R3.out
          rw [HK.out] at this
          exact this
  · go_enter Tryd.func46, Tryd.ntmps46
    go_wp2_with fail
    refine HZ.out.mono ?_
    rintro e w' ⟨rfl, rfl⟩
    go_wp2_with fail
    refine HG.out.mono ?_
    rintro e w1 ⟨b, S1, rfl, hr1, ho1, hwent, hsame⟩
    have R1 := Lib.hid hr1
    have O1 := Lib.hid ho1
    have WT := Lib.hid hwent
    have S1L : Hid ((S1.file f).length + s.size ≤ 1048576) := Lib.hid (by
      have : S1.file f = S.file f := by unfold St.file; rw [hsame.1, hsame.2.1]
      rw [this]
      exact HF.out.2)
    clear hr1 ho1 HG b5 hsame HZ hwent t2 t3
    obtain ⟨ua, uc, hsh⟩ := R1.out.shape
    subst hsh
    have c2 := (R1.out.below (show Below w1.heap.size w1 (w1.alloc (.cells #[] 127)) by go_grown)).blk.cell 2
    simp only [List.getElem?_toArray, List.getElem?_cons_succ, List.getElem?_cons_zero] at c2
    have HU := Lib.hid (copyU 59 R1.out.row (un_small R1.out.wf))
    have ULN := Lib.hid (un_small R1.out.wf)
    go_wp2_with (at_builtin; obtain ⟨v', w2, hrun, hu⟩ := HU.out; replace hu := Lib.hid hu; clear HU; refine Lib.wpList_append_run _ rfl _ _ 59 59 rfl _ _ rfl rfl v' w2 hrun ?_; clear hrun)
    have hnl : s.data.toList.length = s.size := ba_size s
    have LNN := Lib.hid hnl
    have e0 : S1.un ++ (s.data.toList.take 0).map (fun c => (f, c)) = S1.un := by simp
    have U0 : Hid (Ur w1 w2 v' (S1.un ++ (s.data.toList.take 0).map (fun c => (f, c)))) := Lib.hid (by rw [e0]; exact hu.out)
    clear hu e0 c2 hnl hn
    obtain ⟨va, v0, vc, hvs⟩ : ∃ va v0 vc, v' = .slice va v0 vc := by
      obtain ⟨a, c, h⟩ := U0.out.shape
      exact ⟨a, _, c, h⟩
    subst hvs
    go_loopw [8, 9] (fun lv iv wr => ∃ (i : Nat) (la : Option Addr) (ln lc : Nat), i ≤ s.size ∧ iv = .int .i64 (i : Int) ∧ lv = .slice la ln lc ∧ Hid (Ur w1 wr (.slice la ln lc) (S1.un ++ (s.data.toList.take i).map (fun c => (f, c))))) (fun _ iv _ => s.size - (intOf iv).toNat)
    case atStart => exact ⟨0, va, _, vc, Nat.zero_le _, rfl, rfl, U0⟩
    case round =>
      obtain ⟨i, la, ln, lc, hi, rfl, rfl, UI⟩ := hrel
      clear U0
      by_cases hlt : i < s.size
      · have hil : i < s.data.toList.length := by rw [LNN.out]; exact hlt
        have hix := index9 s i hil
        have hstep : S1.un ++ (s.data.toList.take (i + 1)).map (fun c => (f, c)) = (S1.un ++ (s.data.toList.take i).map (fun c => (f, c))) ++ [(f, s.data.toList[i])] := by
          rw [List.take_succ_eq_append_getElem hil, List.map_append, List.append_assoc]; rfl
        have HST := Lib.hid hstep
        have HLL : Hid ((S1.un ++ (s.data.toList.take i).map (fun c => (f, c))).length + 1 ≤ 4194304) := Lib.hid (by
          rw [List.length_append, List.length_map, List.length_take]
          have := ULN.out
          omega)
        clear hstep
        generalize s.data.toList[i] = cb at hix HST
        generalize S1.un ++ (s.data.toList.take i).map (fun c => (f, c)) = L at UI HST HLL
        go_wp2_with (at_builtin; refine wp_ubyte rfl _ _ rfl (.slice la ln lc) L _ _ f cb rfl rfl (UI.out.down (by go_grown)) (Bk.new rfl) HLL.out ?_; intro v'' w' hu; obtain ⟨xa, xc, hxs⟩ := hu.shape; subst hxs; replace hu := Lib.hid hu; clear hix)
        go_roundw
        case rel => exact ⟨i + 1, xa, L.length + 1, xc, by omega, by go_num, rfl, Lib.hid (by rw [HST.out]; simpa only [List.length_append, List.length_singleton] using hu.out)⟩
        case measure => simp [intOf]; omega
      · have hin : i = s.size := by omega
        subst hin
        have UF : Hid (Ur w1 wr (.slice la ln lc) (S1.un ++ s.data.toList.map (fun c => (f, c)))) := Lib.hid (by
          have := UI.out
          rwa [List.take_of_length_le (Nat.le_of_eq LNN.out)] at this)
        clear UI hlt
        have hk := rk_lay f HF.out.1 s.data.toList (by rw [LNN.out]; exact S1L.out) R1.out UF.out
        have R2 := Lib.hid hk.1
        have O2 := Lib.hid hk.2
        have c2 := (R1.out.blk.below UF.out.2.1).cell 2
        have f2 := (R1.out.blk.below UF.out.2.1).fro 2
        simp only [List.getElem?_toArray, List.getElem?_cons_succ, List.getElem?_cons_zero] at c2
        have FR := Lib.hid UF.out.2.2
        have SZ := Lib.hid UF.out.2.1.size
        have OSZ := Lib.hid O1.out.size
        clear hk UF
        cases b
        · have HR : Hid (o = (0, S1.lay f s.data.toList)) := Lib.hid (by
            rw [← HO.out]
            rcases WT.out with ⟨_, hc⟩ | ⟨hb, _⟩
            · exact lay_count0 hc f _
            · cases hb)
          clear WT HO
          go_wp2_with fail
          go_ret
          rw [HR.out]
          exact ⟨rfl, _, kp, R2.out, O1.out.two O2.out, fun g e => .inr (Nat.le_trans OSZ.out (FR.out g e))⟩
        · obtain ⟨hS1, hkp, hc⟩ : S1 = { S with inn := 0 } ∧ kp = (S.lft : Int) ∧ S.count = (2, S.lose S.lft) := by
            rcases WT.out with ⟨hb, _⟩ | ⟨_, h1, h2, h3⟩
            · cases hb
            · exact ⟨h1, h2, h3⟩
          have HR : Hid (o = (2, (S1.lay f s.data.toList).lose S.lft)) := Lib.hid (by rw [← HO.out, hS1]; exact lay_count2 hc f _)
          have HK : Hid (kp.toNat = S.lft) := Lib.hid (by rw [hkp]; rfl)
          have c4 := R2.out.blk.cell 4
          simp only [List.getElem?_toArray, List.getElem?_cons_succ, List.getElem?_cons_zero] at c4
          have HD := Lib.hid (die58 r _ _ kp kp _ R2.out)
          clear WT HO hS1 hkp hc
          go_wp2_with fail
          refine HD.out.mono ?_
          rintro e w3 ⟨rfl, hr, ho⟩
          have R3 := Lib.hid hr
          have O3 := Lib.hid ho
          clear hr ho HD c4
          go_wp2_with fail
          go_ret
          rw [HR.out]
          refine ⟨rfl, .nil (kp := kp) ?_ ((O1.out.two O2.out).two O3.out)⟩
          have := R3.out
          rw [HK.out] at this
          exact this
theorem append33 (r : Nat) (S : St) (uv : Value) (kp : Int) (f : Int) (s : ByteArray) (hsz : s.size ≤ 140737488355328) (w : World) (h : Rk w r S uv kp) :
    Calls Tryd.prog 46 #[.pointer (some ⟨r, 0, none⟩), .int .i64 f, .string s] w fun e w' => e = .returned (.int .i64 ((S.append f s.data.toList).1 : Int)) ∧ Rm w r uv w' (S.append f s.data.toList).2 := by
  rw [append_eq, ba_size]
  have H := Lib.hid h
  have b5 := h.b5
  cases hg : S.gone
  · rw [hg] at b5
    simp only [Bool.false_eq_true, if_false]
    by_cases hf : f = 0 ∨ f = 1
    · obtain ⟨q, rfl, hq⟩ : ∃ q : Nat, f = (q : Int) ∧ q < 2 := ⟨f.toNat, by omega, by omega⟩
      have ht : St.there (q : Int) = true := by simp [St.there]; omega
      by_cases hfit : (S.file q).length + s.size ≤ 1048576
      · have hc : appCode S (q : Int) s.size = 0 := by
          unfold appCode
          rw [ht, if_neg (by simp), if_neg (by simpa using hfit)]
        rw [if_neg (by simp [hc])]
        exact app33_ok r S uv kp q hq s w h hg hfit
      · have hc : appCode S (q : Int) s.size = 91 := by
          unfold appCode
          rw [ht, if_neg (by simp), if_pos (by simpa using hfit)]
        rw [hc, if_pos (by decide)]
        have hsize : S.size (q : Int) = ((S.file q).length : Int) := by unfold St.size; rw [ht]; rfl
        have HZ := Lib.hid (size32 r S uv kp (q : Int) w h)
        rw [hsize] at HZ
        have hl : (S.file q).length ≤ 1048576 := by
          have := h.wf.l0
          have := h.wf.l1
          unfold St.file
          split <;> omega
        have t2 : decide (1048576 < (S.file q).length + s.size) = true := by simp; omega
        have hfit2 : 1048576 < (S.file q).length + s.size := by omega
        have tg : (((q : Int) != 0) = false) ∨ (((q : Int) != 0) = true ∧ ((q : Int) != 1) = false) := by
          rcases (by omega : q = 0 ∨ q = 1) with rfl | rfl
          · exact .inl rfl
          · exact .inr ⟨rfl, rfl⟩
        clear h hg ht hsize hc hf hq hfit
        rcases tg with tg | ⟨tg, tg2⟩
        · go_enter Tryd.func46, Tryd.ntmps46
          go_wp2_with fail
          refine HZ.out.mono ?_
          rintro e w' ⟨rfl, rfl⟩
          go_wp2_with fail
          go_ret
          exact ⟨rfl, .same H.out (Below.refl _ _)⟩
        · go_enter Tryd.func46, Tryd.ntmps46
          go_wp2_with fail
          refine HZ.out.mono ?_
          rintro e w' ⟨rfl, rfl⟩
          go_wp2_with fail
          go_ret
          exact ⟨rfl, .same H.out (Below.refl _ _)⟩
    · have ht : St.there f = false := by simp [St.there]; omega
      have hc : appCode S f s.size = 90 := by unfold appCode; rw [ht]; rfl
      rw [hc, if_pos (by decide)]
      have t0 : (f != 0) = true := by simp; omega
      have t1 : (f != 1) = true := by simp; omega
      clear h hg hf ht hc
      go_enter Tryd.func46, Tryd.ntmps46
      go_wp2_with fail
      go_ret
      exact ⟨rfl, .same H.out (Below.refl _ _)⟩
  · rw [hg] at b5
    simp only [if_true]
    clear h hg
    go_enter Tryd.func46, Tryd.ntmps46
    go_wp2_with fail
    go_ret
    exact ⟨rfl, .same H.out (Below.refl _ _)⟩
set_option maxHeartbeats 8000000 in
theorem rnew_ok (b o c : Nat) (x y : ByteArray) (w : World) (h0 : w.cell? ⟨b, o, none⟩ = some (.string x)) (h1 : w.cell? ⟨b, o + 1, none⟩ = some (.string y)) (hx : x.size ≤ 1048576) (hy : y.size ≤ 1048576) :
    Calls Tryd.prog 12 #[.slice (some ⟨b, o, none⟩) 2 c] w fun e w' => e = .returned (.tuple #[.pointer (some ⟨w.heap.size, 0, none⟩), .int .i64 0]) ∧ Rk w' w.heap.size (St.new x.data.toList y.data.toList) (.slice none 0 0) 0 ∧ Below w.heap.size w w' ∧ w.heap.size < w'.heap.size := by
  have ht : decide ((1048576 : Int) < (x.size : Int)) = false := by simp; omega
  have ht2 : decide ((1048576 : Int) < (y.size : Int)) = false := by simp; omega
  have HX := Lib.hid (And.intro hx hy)
  clear hx hy
  go_enter Tryd.func12, Tryd.ntmps12
  go_wp2_with fail
  go_still_tail 7, (by kernel_rfl)
  go_wp2_with fail
  go_returns
  have hx := HX.out.1
  have hy := HX.out.2
  have hw : (St.new x.data.toList y.data.toList).Wf := St.Wf.new (by rw [ba_size]; exact hx) (by rw [ba_size]; exact hy)
  refine ⟨rfl, ⟨?_, nil_row _ _ rfl, fun h => absurd rfl h, hw⟩, (by go_grown), by simp⟩
  have e0 : (St.new x.data.toList y.data.toList).f0.take (St.new x.data.toList y.data.toList).s0 = x.data.toList := by
    show x.data.toList.take x.data.toList.length = _
    exact List.take_length
  have e1 : (St.new x.data.toList y.data.toList).f1.take (St.new x.data.toList y.data.toList).s1 = y.data.toList := by
    show y.data.toList.take y.data.toList.length = _
    exact List.take_length
  rw [e0, e1, ba_eta, ba_eta]
  exact Bk.new (by simp)
def Tb (w : World) : Prop := 0 < w.heap.size ∧ ∀ i, i < 16 → w.cell? ⟨0, i, none⟩ = some (.int .u32 (Crc.T.getD i 0 : Int))
theorem cell_below {B : Nat} {w w' : World} (hb : Below B w w') (b i : Nat) (h : b < B) : w'.cell? ⟨b, i, none⟩ = w.cell? ⟨b, i, none⟩ := by
  unfold World.cell?
  rw [hb.block b h]
theorem Tb.below {w w' : World} (h : Tb w) (hb : Below w.heap.size w w') : Tb w' :=
  ⟨Nat.lt_of_lt_of_le h.1 hb.size, fun i hi => (cell_below hb 0 i h.1).trans (h.2 i hi)⟩
theorem xorN (x y : Nat) (hx : x < 4294967296) (hy : y < 4294967296) : bits .xor .u32 (x : Int) (y : Int) = ((x ^^^ y : Nat) : Int) := u32_xor_nat _ _ hx hy
theorem andN (x y : Nat) (hx : x < 4294967296) (hy : y < 4294967296) : bits .and .u32 (x : Int) (y : Int) = ((x &&& y : Nat) : Int) := u32_and_nat _ _ hx hy
theorem and15 (x : Nat) (hx : x < 4294967296) : bits .and .u32 (x : Int) 15 = ((x % 16 : Nat) : Int) := by
  rw [show (15 : Int) = ((15 : Nat) : Int) from rfl, andN _ _ hx (by decide)]
  rw [show 15 = 2 ^ 4 - 1 from rfl, Nat.and_two_pow_sub_one_eq_mod]
theorem reg_succ (l : Bs) (i : Nat) (hi : i < l.length) : Crc.reg 4294967295 (l.take (i + 1)) = Crc.byte (Crc.reg 4294967295 (l.take i)) l[i].toNat := by
  rw [List.take_succ_eq_append_getElem hi, Crc.reg_app]; rfl
set_option maxHeartbeats 4000000 in
theorem sum_any (l : Bs) (hl : l.length ≤ 140737488355328) (w : World) (hT : Tb w) :
    Calls Tryd.prog 8 #[.string ⟨l.toArray⟩] w fun e w' => e = .returned (.int .u32 (Crc.sum l : Int)) ∧ w = w' := by
  obtain ⟨n, hn⟩ : ∃ n, n = l.length := ⟨_, rfl⟩
  have HL : Hid (l.length = n) := Lib.hid hn.symm
  have HT := Lib.hid hT
  have hsz : (⟨l.toArray⟩ : ByteArray).size = n := by rw [size_ba, hn]
  rw [← hn] at hl
  obtain ⟨res, hres⟩ : ∃ z, z = Crc.sum l := ⟨_, rfl⟩
  rw [← hres]
  have HR := Lib.hid hres
  clear hT hn hres
  go_enter Tryd.func8, Tryd.ntmps8
  go_wp2_with fail
  go_loopw [3, 4, 7] (fun rv jv iv wr => ∃ i : Nat, i ≤ n ∧ iv = .int .i64 (i : Int) ∧ rv = .int .u32 (Crc.reg 4294967295 (l.take i) : Int) ∧ wr = w) (fun _ _ iv _ => n - (intOf iv).toNat)
  case atStart => exact ⟨0, Nat.zero_le _, rfl, rfl, rfl⟩
  case round =>
    obtain ⟨i, hi, rfl, rfl, rfl⟩ := hrel
    by_cases hlt : i < n
    · have hil : i < l.length := by rw [HL.out]; exact hlt
      have hr : Crc.reg 4294967295 (l.take i) < 4294967296 := Crc.reg_lt _ _ (by decide)
      have hst := Lib.hid (reg_succ l i hil)
      generalize Crc.reg 4294967295 (l.take i) = r at hr hst ⊢
      obtain ⟨x, hxe⟩ : ∃ x, x = l[i] := ⟨_, rfl⟩
      rw [← hxe] at hst
      have hget : ∀ h, (⟨l.toArray⟩ : ByteArray)[i]'h = x := fun _ => hxe.symm
      have hget2 : ∀ h, l[i]'h = x := fun _ => hxe.symm
      clear hxe
      have hx := x.toNat_lt
      have hx2 : ((x.toNat : Int) % 4294967296) = (x.toNat : Int) := by omega
      obtain ⟨a, ha⟩ : ∃ a, a = r ^^^ x.toNat := ⟨_, rfl⟩
      have hal : a < 4294967296 := by rw [ha]; exact Nat.xor_lt_two_pow (n := 32) hr (Nat.lt_trans hx (by decide))
      have t1 : bits .xor .u32 (r : Int) (x.toNat : Int) = (a : Int) := by rw [xorN _ _ hr (by omega), ha]
      obtain ⟨d, hd⟩ : ∃ d, d = a % 16 := ⟨_, rfl⟩
      have t2 : bits .and .u32 (a : Int) 15 = (d : Int) := by rw [and15 _ hal, hd]
      have hdl : (d : Int) < 16 := by omega
      have c1 := HT.out.2 d (by omega)
      have hTl := Crc.T_lt d
      have hb : Crc.nib a = a / 16 ^^^ Crc.T.getD d 0 := by rw [hd]; rfl
      generalize Crc.T.getD d 0 = td at c1 hTl hb
      have hbl : Crc.nib a < 4294967296 := Crc.nib_lt a hal
      have t3 : bits .xor .u32 ((a : Int) / 16) (td : Int) = (Crc.nib a : Int) := by
        rw [show (a : Int) / 16 = ((a / 16 : Nat) : Int) by omega, xorN _ _ (by omega) hTl, hb]
      have hs2 : Crc.byte r x.toNat = Crc.nib (Crc.nib a) := by rw [ha]; rfl
      rw [hs2] at hst
      clear hs2 hb ha hd
      generalize Crc.nib a = b at hst hbl t3
      obtain ⟨d2, hd2⟩ : ∃ d, d = b % 16 := ⟨_, rfl⟩
      have t4 : bits .and .u32 (b : Int) 15 = (d2 : Int) := by rw [and15 _ hbl, hd2]
      have hdl2 : (d2 : Int) < 16 := by omega
      have c2 := HT.out.2 d2 (by omega)
      have hTl2 := Crc.T_lt d2
      have hb2 : Crc.nib b = b / 16 ^^^ Crc.T.getD d2 0 := by rw [hd2]; rfl
      generalize Crc.T.getD d2 0 = te at c2 hTl2 hb2
      have t5 : bits .xor .u32 ((b : Int) / 16) (te : Int) = (Crc.nib b : Int) := by
        rw [show (b : Int) / 16 = ((b / 16 : Nat) : Int) by omega, xorN _ _ (by omega) hTl2, hb2]
      clear hb2 hd2
      generalize Crc.nib b = c at hst t5
      go_wp2_with fail
      go_roundw
      case rel => exact ⟨i + 1, by omega, by go_num, by rw [hst.out], trivial⟩
      case measure => simp [intOf]; omega
    · have hin : i = n := by omega
      have HE : res = Crc.sum (l.take i) := by rw [HR.out, hin, ← HL.out, List.take_length]
      have hr : Crc.reg 4294967295 (l.take i) < 4294967296 := Crc.reg_lt _ _ (by decide)
      rw [Crc.sum_sub] at HE
      generalize Crc.reg 4294967295 (l.take i) = r at hr HE ⊢
      have t1 : bits .xor .u32 IntKind.u32.max (r : Int) = (res : Int) := by
        rw [show IntKind.u32.max = ((4294967295 : Nat) : Int) from rfl, xorN _ _ (by decide) hr, Crc.ones _ hr, HE]
      clear HE HR HT
      go_wp2_with fail
      go_ret
      exact ⟨rfl, rfl⟩
set_option maxHeartbeats 4000000 in
theorem rsum_any (l : Bs) (hl : l.length ≤ 140737488355328) (w : World) :
    Calls Tryd.prog 9 #[.string ⟨l.toArray⟩] w fun e w' => e = .returned (.int .u32 (Crc.sum l : Int)) ∧ w = w' := by
  obtain ⟨n, hn⟩ : ∃ n, n = l.length := ⟨_, rfl⟩
  have HL : Hid (l.length = n) := Lib.hid hn.symm
  have hsz : (⟨l.toArray⟩ : ByteArray).size = n := by rw [size_ba, hn]
  rw [← hn] at hl
  obtain ⟨res, hres⟩ : ∃ z, z = Crc.sum l := ⟨_, rfl⟩
  rw [← hres]
  have HR := Lib.hid hres
  clear hn hres
  go_enter Tryd.func9, Tryd.ntmps9
  go_wp2_with fail
  go_loopw [3, 4, 5, 6, 7] (fun rv iv kv bv ov wr => ∃ i : Nat, i ≤ n ∧ iv = .int .i64 (i : Int) ∧ rv = .int .u32 (Crc.reg 4294967295 (l.take i) : Int) ∧ wr = w) (fun _ iv _ _ _ _ => n - (intOf iv).toNat)
  case atStart => exact ⟨0, Nat.zero_le _, rfl, rfl, rfl⟩
  case round =>
    obtain ⟨i, hi, rfl, rfl, rfl⟩ := hrel
    by_cases hlt : i < n
    · have hil : i < l.length := by rw [HL.out]; exact hlt
      have hr : Crc.reg 4294967295 (l.take i) < 4294967296 := Crc.reg_lt _ _ (by decide)
      have hst := Lib.hid (reg_succ l i hil)
      generalize Crc.reg 4294967295 (l.take i) = r at hr hst ⊢
      obtain ⟨x, hxe⟩ : ∃ x, x = l[i] := ⟨_, rfl⟩
      rw [← hxe] at hst
      have hget : ∀ h, (⟨l.toArray⟩ : ByteArray)[i]'h = x := fun _ => hxe.symm
      have hget2 : ∀ h, l[i]'h = x := fun _ => hxe.symm
      have hx := x.toNat_lt
      have hb8 := Crc.byte_bits r x.toNat hx
      rw [← hb8] at hst
      clear hxe hb8
      go_wp2_with fail
      go_loopw [3, 5, 6, 7] (fun rv kv bv ov wq => ∃ k : Nat, k ≤ 8 ∧ kv = .int .i64 (k : Int) ∧ rv = .int .u32 (Crc.bits r x.toNat k : Int) ∧ wq = wr) (fun _ kv _ _ _ => 8 - (intOf kv).toNat)
      case atStart => exact ⟨0, Nat.zero_le _, rfl, rfl, rfl⟩
      case round =>
        obtain ⟨k, hk, rfl, rfl, rfl⟩ := hrel
        by_cases hlt2 : k < 8
        · have hq : Crc.bits r x.toNat k < 4294967296 := Crc.bits_lt r _ hr k
          have hst2 : Hid (Crc.bits r x.toNat (k + 1) = Crc.bit1 (Crc.bits r x.toNat k) (x.toNat / 2 ^ k % 2)) := Lib.hid rfl
          generalize Crc.bits r x.toNat k = q at hq hst2 ⊢
          have hcast : ((x.toNat / 2 ^ k % 2 : Nat) : Int) = (x.toNat : Int) / 2 ^ k % 2 := by simp
          by_cases hqb : q % 2 = x.toNat / 2 ^ k % 2
          · have t1 : ((q : Int) % 2 != (x.toNat : Int) / 2 ^ k % 2) = false := by
              rw [← hcast, ← hqb]; simp
            have hst3 : Hid (Crc.bits r x.toNat (k + 1) = q / 2) := Lib.hid (by rw [hst2.out, Crc.bit1, if_neg (by simpa using hqb), Nat.xor_zero])
            clear hqb hst2 hcast
            go_wp2_with fail
            go_roundw
            case rel => exact ⟨k + 1, by omega, by go_num, by rw [hst3.out]; go_num, trivial⟩
            case measure => simp [intOf]; omega
          · have t1 : ((q : Int) % 2 != (x.toNat : Int) / 2 ^ k % 2) = true := by
              rw [← hcast]; simp; omega
            obtain ⟨z, hz⟩ : ∃ z, z = Crc.bit1 q (x.toNat / 2 ^ k % 2) := ⟨_, rfl⟩
            rw [← hz] at hst2
            have t2 : bits .xor .u32 ((q : Int) / 2) 3988292384 = (z : Int) := by
              rw [hz, Crc.bit1, if_pos hqb, show ((q : Int) / 2) = ((q / 2 : Nat) : Int) by omega, show (3988292384 : Int) = ((3988292384 : Nat) : Int) from rfl, xorN _ _ (by omega) (by decide)]
              rfl
            clear hqb hz hcast
            go_wp2_with fail
            go_roundw
            case rel => exact ⟨k + 1, by omega, by go_num, by rw [hst2.out], trivial⟩
            case measure => simp [intOf]; omega
        · have hk8 : k = 8 := by omega
          subst hk8
          go_wp2_with fail
          go_roundw
          case rel => exact ⟨i + 1, by omega, by go_num, by rw [hst.out], trivial⟩
          case measure => simp [intOf]; omega
    · have hin : i = n := by omega
      have HE : res = Crc.sum (l.take i) := by rw [HR.out, hin, ← HL.out, List.take_length]
      have hr : Crc.reg 4294967295 (l.take i) < 4294967296 := Crc.reg_lt _ _ (by decide)
      rw [Crc.sum_sub] at HE
      generalize Crc.reg 4294967295 (l.take i) = r at hr HE ⊢
      have t1 : ((4294967295 : Int) - (r : Int)) % 4294967296 = (res : Int) := by omega
      have t2 : (4294967295 : Int) - (r : Int) = (res : Int) := by omega
      clear HE HR
      go_wp2_with fail
      go_ret
      exact ⟨rfl, rfl⟩
end Go.Proofs.YtmoihgniglomiaaDoor
namespace Go.Proofs.YtmoihgniglomiaaDoor
open Go.ChangeShapes Go.WideShapes Go.ChangeAt Go.ChangeMaps Go.RowKit Go.Deep
def tabZ : List Int := Crc.T.map Int.ofNat
theorem tab_eq : Rows.laid_seneschal_wal_halves (H := Unit) = Lib.tabData .u32 tabZ := by kernel_rfl
theorem tb_of_laid {W : World} (hL : laidMetH Tryd.prog [("seneschal/wal.halves", Rows.laid_seneschal_wal_halves)] W) : Tb W := by
  rw [tab_eq] at hL
  obtain ⟨g', t', cs, fuel, p, hg', ht', hvar, hd⟩ := Lib.laidMet.reads hL (.head _)
  obtain rfl := Option.some.inj ((show Tryd.prog.globalNamed "seneschal/wal.halves" = some 0 by kernel_rfl).symm.trans hg')
  obtain rfl := Option.some.inj ((show (Tryd.prog.globals[0]?).map (·.type) = some 83 by kernel_rfl).symm.trans ht')
  have hcs := Lib.cells_of_tab Tryd.underlying83 Tryd.underlying22 (by kernel_rfl) (by kernel_rfl) hd
  unfold World.var? at hvar
  rw [show Tryd.prog.globalNamed "seneschal/wal.halves" = some 0 by kernel_rfl] at hvar
  simp only [Option.bind_some] at hvar
  cases hh : W.heap[0]? with
  | none => rw [hh] at hvar; cases hvar
  | some o =>
    rw [hh] at hvar
    cases o with
    | cells cs' t' fz =>
      simp at hvar
      subst hvar
      refine ⟨blk_lt hh, fun i hi => ?_⟩
      rw [blk_cell hh]
      rw [← Array.getElem?_toList, hcs]
      have : ∀ i, i < 16 → (tabZ.map fun z => Value.int .u32 z)[i]? = some (.int .u32 (Crc.T.getD i 0 : Int)) := by
        intro i hi
        have hl : Crc.T.length = 16 := rfl
        have h1 : Crc.T[i]? = some (Crc.T[i]'(by omega)) := List.getElem?_eq_getElem _
        simp [tabZ, h1]
      exact this i hi
    | _ => simp at hvar
noncomputable def laidWorld (os : Os) : World :=
  let w0 := World.holding Tryd.prog os ⟨#[], #[], []⟩
  let put (h : Array Obj) (g : Nat) (cs : Array Value) : Array Obj := h.modify g fun
    | .cells _ t frozen => .cells cs t frozen
    | o => o
  { w0 with heap := put w0.heap 0 (tabZ.map fun z => Value.int .u32 z).toArray }
section
open Go.Joins
variable {H : Type} {enc : TypeId × Value → H}
end
theorem conv_row {w : World} {b : Nat} {l : List UInt8} {c : Nat} {T : TypeId} {z : Nat × Nat} (h : w.heap[b]? = some (.cells (l.map (fun c => Value.int .u8 (c.toNat : Int))).toArray T z)) :
    (convert 80 9 (.slice (some ⟨b, 0, none⟩) l.length c)).run Tryd.prog w = .ok (.string ⟨l.toArray⟩) w :=
  run_convert_bytes_back w 80 9 5 _ c l (by kernel_rfl) (by kernel_rfl) (by kernel_rfl) (fun j hj => by
    rw [show (⟨b, 0, none⟩ : Addr).add j = ⟨b, j, none⟩ from by unfold Addr.add; split <;> simp_all, Lib.cell_of_heap h]
    simp [hj])
theorem be4 (n : Nat) : be 4 n = [UInt8.ofNat (n / 16777216 % 256), UInt8.ofNat (n / 65536 % 256), UInt8.ofNat (n / 256 % 256), UInt8.ofNat (n % 256)] := by
  simp [be, Nat.div_div_eq_div_mul]
theorem be4_get (n : Nat) (h : n < 4294967296) : (be 4 n).map (fun c => Value.int .u8 (c.toNat : Int)) = [.int .u8 ((n : Int) / 16777216), .int .u8 ((n : Int) / 65536 % 256), .int .u8 ((n : Int) / 256 % 256), .int .u8 ((n : Int) % 256)] := by
  rw [be4]
  simp only [List.map_cons, List.map_nil, UInt8.toNat_ofNat']
  have e1 : ((n / 16777216 % 256 % 2 ^ 8 : Nat) : Int) = (n : Int) / 16777216 := by omega
  have e2 : ((n / 65536 % 256 % 2 ^ 8 : Nat) : Int) = (n : Int) / 65536 % 256 := by omega
  have e3 : ((n / 256 % 256 % 2 ^ 8 : Nat) : Int) = (n : Int) / 256 % 256 := by omega
  have e4 : ((n % 256 % 2 ^ 8 : Nat) : Int) = (n : Int) % 256 := by omega
  rw [e1, e2, e3, e4]
theorem be_lowest : ∀ (k n : Nat), be (k + 1) n = UInt8.ofNat (n / 256 ^ k % 256) :: be k n
  | 0, n => by simp [be]
  | k + 1, n => by
    rw [be, be_lowest k (n / 256), Nat.div_div_eq_div_mul, show 256 * 256 ^ k = 256 ^ (k + 1) by rw [Nat.pow_succ, Nat.mul_comm]]
    rfl
theorem ba_app (a b : Bs) : (⟨a.toArray⟩ : ByteArray) ++ ⟨b.toArray⟩ = ⟨(a ++ b).toArray⟩ := by
  apply ByteArray.ext
  simp
set_option maxHeartbeats 2000000 in
theorem four_any (n : Nat) (hn : n < 4294967296) (w : World) :
    Calls Tryd.prog 99 #[.int .u32 (n : Int)] w fun e w' => e = .returned (.string ⟨(be 4 n).toArray⟩) ∧ Below w.heap.size w w' := by
  have hc : (convert 80 9 (.slice (some ⟨w.heap.size, 0, none⟩) 4 4)).run Tryd.prog (w.alloc (Obj.cells #[.int .u8 ((n : Int) / 16777216), .int .u8 ((n : Int) / 65536 % 256), .int .u8 ((n : Int) / 256 % 256), .int .u8 ((n : Int) % 256)] 5)) = .ok (.string ⟨(be 4 n).toArray⟩) _ :=
    conv_row (l := be 4 n) (c := 4) (b := w.heap.size) (by rw [be4_get n hn]; exact Go.heap_alloc_new w _)
  have h0 : (0 : Int) ≤ n := by omega
  have h1 : (n : Int) < 4294967296 := by omega
  go_enter Tryd.func99, Tryd.ntmps99
  go_wp2
  go_ret
  exact ⟨rfl, (Below.refl _ _).alloc (Nat.le_refl _) _⟩
theorem valN_snoc (l : Bs) (i : Nat) (hi : i < l.length) : valN (l.take (i + 1)) = 256 * valN (l.take i) + l[i].toNat := by
  rw [List.take_succ_eq_append_getElem hi, valN_one]
theorem valN_take4 (l : Bs) (i : Nat) (hl : l.length ≤ 4) (hi : i < l.length) : valN (l.take i) < 16777216 := by
  refine Nat.lt_of_lt_of_le (valN_lt _) (Nat.le_trans (Nat.pow_le_pow_right (by decide) (show (l.take i).length ≤ 3 by rw [List.length_take]; omega)) (by decide))
theorem valN_take8 (l : Bs) (i : Nat) (hl : l.length ≤ 8) (hi : i < l.length) : valN (l.take i) < 72057594037927936 := by
  refine Nat.lt_of_lt_of_le (valN_lt _) (Nat.le_trans (Nat.pow_le_pow_right (by decide) (show (l.take i).length ≤ 7 by rw [List.length_take]; omega)) (by decide))
theorem or_shl8 (r x : Nat) (hr : r < 16777216) (hx : x < 256) : bits .or .u32 ((r : Int) * 256) (x : Int) = ((256 * r + x : Nat) : Int) := by
  have h1 : (r : Int) * 256 = ((r * 256 : Nat) : Int) := by omega
  rw [h1, u32_or_nat _ _ (by omega) (by omega), nat_join 8 _ _ (by omega) (by omega)]
  omega
set_option maxHeartbeats 4000000 in
theorem number_any (l : Bs) (hl : l.length ≤ 4) (w : World) :
    Calls Tryd.prog 106 #[.string ⟨l.toArray⟩] w fun e w' => e = .returned (.int .u32 (valN l : Int)) ∧ w = w' := by
  obtain ⟨n, hn⟩ : ∃ n, n = l.length := ⟨_, rfl⟩
  have HL : Hid (l.length = n) := Lib.hid hn.symm
  have hsz : (⟨l.toArray⟩ : ByteArray).size = n := by rw [size_ba, hn]
  have HL4 := Lib.hid hl
  rw [← hn] at hl
  obtain ⟨res, hres⟩ : ∃ z, z = valN l := ⟨_, rfl⟩
  rw [← hres]
  have HR := Lib.hid hres
  clear hn hres
  go_enter Tryd.func106, Tryd.ntmps106
  go_wp2_with fail
  go_loopw [3, 4, 7] (fun rv jv iv wr => ∃ i : Nat, i ≤ n ∧ iv = .int .i64 (i : Int) ∧ rv = .int .u32 (valN (l.take i) : Int) ∧ wr = w) (fun _ _ iv _ => n - (intOf iv).toNat)
  case atStart => exact ⟨0, Nat.zero_le _, rfl, rfl, rfl⟩
  case round =>
    obtain ⟨i, hi, rfl, rfl, rfl⟩ := hrel
    by_cases hlt : i < n
    · have hil : i < l.length := by rw [HL.out]; exact hlt
      have hr := valN_take4 l i HL4.out hil
      have hst := Lib.hid (valN_snoc l i hil)
      generalize valN (l.take i) = r at hr hst ⊢
      obtain ⟨x, hxe⟩ : ∃ x, x = l[i] := ⟨_, rfl⟩
      rw [← hxe] at hst
      have hget : ∀ h, (⟨l.toArray⟩ : ByteArray)[i]'h = x := fun _ => hxe.symm
      have hget2 : ∀ h, l[i]'h = x := fun _ => hxe.symm
      have hx := x.toNat_lt
      have hx2 : ((x.toNat : Int) % 4294967296) = (x.toNat : Int) := by omega
      obtain ⟨z, hz⟩ : ∃ z, z = 256 * r + x.toNat := ⟨_, rfl⟩
      have t1 : bits .or .u32 ((r : Int) * 256) (x.toNat : Int) = (z : Int) := by rw [or_shl8 _ _ hr (by omega), hz]
      rw [← hz] at hst
      clear hxe hz
      go_wp2_with fail
      go_roundw
      case rel => exact ⟨i + 1, by omega, by go_num, by rw [hst.out], trivial⟩
      case measure => simp [intOf]; omega
    · have hin : i = n := by omega
      have HE : res = valN (l.take i) := by rw [HR.out, hin, ← HL.out, List.take_length]
      rw [← HE]
      clear HE HR
      go_wp2_with fail
      go_ret
      exact ⟨rfl, rfl⟩
set_option maxHeartbeats 4000000 in
theorem value_any (l : Bs) (hl : l.length ≤ 8) (w : World) :
    Calls Tryd.prog 103 #[.string ⟨l.toArray⟩] w fun e w' => e = .returned (.int .u64 (valN l : Int)) ∧ w = w' := by
  obtain ⟨n, hn⟩ : ∃ n, n = l.length := ⟨_, rfl⟩
  have HL : Hid (l.length = n) := Lib.hid hn.symm
  have hsz : (⟨l.toArray⟩ : ByteArray).size = n := by rw [size_ba, hn]
  have HL4 := Lib.hid hl
  rw [← hn] at hl
  obtain ⟨res, hres⟩ : ∃ z, z = valN l := ⟨_, rfl⟩
  rw [← hres]
  have HR := Lib.hid hres
  clear hn hres
  go_enter Tryd.func103, Tryd.ntmps103
  go_wp2_with fail
  go_loopw [3, 4] (fun rv iv wr => ∃ i : Nat, i ≤ n ∧ iv = .int .i64 (i : Int) ∧ rv = .int .u64 (valN (l.take i) : Int) ∧ wr = w) (fun _ iv _ => n - (intOf iv).toNat)
  case atStart => exact ⟨0, Nat.zero_le _, rfl, rfl, rfl⟩
  case round =>
    obtain ⟨i, hi, rfl, rfl, rfl⟩ := hrel
    by_cases hlt : i < n
    · have hil : i < l.length := by rw [HL.out]; exact hlt
      have hr := valN_take8 l i HL4.out hil
      have hst := Lib.hid (valN_snoc l i hil)
      generalize valN (l.take i) = r at hr hst ⊢
      obtain ⟨x, hxe⟩ : ∃ x, x = l[i] := ⟨_, rfl⟩
      rw [← hxe] at hst
      have hget : ∀ h, (⟨l.toArray⟩ : ByteArray)[i]'h = x := fun _ => hxe.symm
      have hget2 : ∀ h, l[i]'h = x := fun _ => hxe.symm
      have hx := x.toNat_lt
      clear hxe
      go_wp2_with fail
      go_roundw
      case rel => exact ⟨i + 1, by omega, by go_num, by rw [hst.out]; go_num, trivial⟩
      case measure => simp [intOf]; omega
    · have hin : i = n := by omega
      have HE : res = valN (l.take i) := by rw [HR.out, hin, ← HL.out, List.take_length]
      rw [← HE]
      clear HE HR
      go_wp2_with fail
      go_ret
      exact ⟨rfl, rfl⟩
theorem conv1 (w : World) (x : Nat) (h : x < 256) : (convert 80 9 (.slice (some ⟨w.heap.size, 0, none⟩) 1 1)).run Tryd.prog (w.alloc (Obj.cells #[.int .u8 (x : Int)] 5)) = .ok (.string ⟨[UInt8.ofNat x].toArray⟩) (w.alloc (Obj.cells #[.int .u8 (x : Int)] 5)) :=
  conv_row (l := [UInt8.ofNat x]) (c := 1) (b := w.heap.size) (T := 5) (z := (0, 0)) (by
    have : ((UInt8.ofNat x).toNat : Int) = (x : Int) := by rw [UInt8.toNat_ofNat']; omega
    simp only [List.map_cons, List.map_nil, this]
    exact Go.heap_alloc_new w _)
set_option maxHeartbeats 4000000 in
theorem bytes_any (n m : Nat) (hn : n < 18446744073709551616) (hm : m ≤ 8) (w : World) :
    Calls Tryd.prog 47 #[.int .u64 (n : Int), .int .i64 (m : Int)] w fun e w' => e = .returned (.string ⟨(be m n).toArray⟩) ∧ Below w.heap.size w w' := by
  obtain ⟨res, hres⟩ : ∃ z : ByteArray, z = ⟨(be m n).toArray⟩ := ⟨_, rfl⟩
  rw [← hres]
  have HR := Lib.hid hres
  clear hres
  go_enter Tryd.func47, Tryd.ntmps47
  go_wp2_with fail
  go_loopw [0, 5, 6] (fun nv sv iv wr => ∃ i : Nat, i ≤ m ∧ iv = .int .i64 (i : Int) ∧ nv = .int .u64 ((n / 256 ^ i : Nat) : Int) ∧ sv = .string ⟨(be i n).toArray⟩ ∧ Below w.heap.size w wr) (fun _ _ iv _ => m - (intOf iv).toNat)
  case atStart => exact ⟨0, Nat.zero_le _, rfl, by simp, rfl, Below.refl _ _⟩
  case round =>
    obtain ⟨i, hi, rfl, rfl, rfl, hb⟩ := hrel
    have HB := Lib.hid hb
    clear hb
    by_cases hlt : i < m
    · have hst := Lib.hid (be_lowest i n)
      have hdv : n / 256 ^ (i + 1) = n / 256 ^ i / 256 := by rw [Nat.pow_succ, Nat.div_div_eq_div_mul]
      have HD := Lib.hid hdv
      have hq : n / 256 ^ i < 18446744073709551616 := Nat.lt_of_le_of_lt (Nat.div_le_self _ _) hn
      generalize n / 256 ^ i = q at hst HD hq ⊢
      clear hdv
      obtain ⟨x, hx⟩ : ∃ x, x = q % 256 := ⟨_, rfl⟩
      have t1 : (q : Int) % 256 = (x : Int) := by omega
      have hx1 : (0 : Int) ≤ (x : Int) := by omega
      have hx2 : (x : Int) < 256 := by omega
      have hc := conv1 wr x (by omega)
      rw [← hx] at hst
      have hs2 : (⟨#[UInt8.ofNat x]⟩ : ByteArray) ++ ⟨(be i n).toArray⟩ = ⟨(be (i + 1) n).toArray⟩ := by rw [hst.out]; exact ba_app [UInt8.ofNat x] (be i n)
      have hbl : (be i n).length = i := be_len i n
      clear hx
      go_wp2_with fail
      go_roundw
      case rel => exact ⟨i + 1, by omega, by go_num, by rw [HD.out]; go_num, rfl, HB.out.alloc HB.out.size _⟩
      case measure => simp [intOf]; omega
    · have hin : i = m := by omega
      subst hin
      rw [← HR.out]
      clear HR
      go_wp2_with fail
      go_ret
      exact ⟨rfl, HB.out⟩
set_option maxHeartbeats 4000000 in
theorem rframe_any (l : Bs) (hl : l.length ≤ 1048576) (w : World) :
    Calls Tryd.prog 48 #[.string ⟨l.toArray⟩] w fun e w' => e = .returned (.string ⟨(frame l).toArray⟩) ∧ Below w.heap.size w w' := by
  obtain ⟨n, hn⟩ : ∃ n, n = l.length := ⟨_, rfl⟩
  have hsz : (⟨l.toArray⟩ : ByteArray).size = n := by rw [size_ba, hn]
  have HL : l.length = n := hn.symm
  have HLE : (n : Int) ≤ 1048576 := by omega
  have c1 := Lib.hid (bytes_any n 4 (by omega) (by omega))
  have cs := Lib.hid (rsum_any l (by omega))
  have c2 := Lib.hid (bytes_any (Crc.sum l) 4 (by have := Crc.sum_lt l; omega) (by omega))
  have hs : (Crc.sum l : Int) < 4294967296 := by have := Crc.sum_lt l; omega
  have hab : (⟨(be 4 n).toArray⟩ : ByteArray) ++ ⟨(be 4 (Crc.sum l)).toArray⟩ = ⟨(be 4 n ++ be 4 (Crc.sum l)).toArray⟩ := ba_app _ _
  have hres : (⟨(be 4 n ++ be 4 (Crc.sum l)).toArray⟩ : ByteArray) ++ ⟨l.toArray⟩ = ⟨(frame l).toArray⟩ := by rw [frame, HL]; exact ba_app _ _
  have l1 : (be 4 n).length = 4 := be_len _ _
  have l2 : (be 4 (Crc.sum l)).length = 4 := be_len _ _
  have l3 : (be 4 n ++ be 4 (Crc.sum l)).length = 8 := by simp [l1, l2]
  generalize frame l = res at hres ⊢
  generalize (be 4 n ++ be 4 (Crc.sum l)) = ab at hab hres l3
  generalize be 4 n = a at c1 hab l1
  generalize be 4 (Crc.sum l) = b at c2 hab l2
  generalize Crc.sum l = s at c2 cs hs
  have hs0 : (0 : Int) ≤ s := by omega
  clear hn hl
  go_enter Tryd.func48, Tryd.ntmps48
  go_wp2_with fail
  refine (keep w.heap.size w (c1.out _) (by go_grown) (Nat.le_refl _)).mono ?_
  rintro e w1 ⟨rfl, hb1, -⟩
  have HB1 := Lib.hid hb1; clear hb1
  go_wp2_with fail
  refine (cs.out _).mono ?_
  rintro e w2 ⟨rfl, rfl⟩
  go_wp2_with fail
  refine (keep w.heap.size w (c2.out _) HB1.out (Nat.le_refl _)).mono ?_
  rintro e w2 ⟨rfl, hb2, -⟩
  have HB2 := Lib.hid hb2; clear hb2
  go_wp2_with fail
  go_ret
  exact ⟨rfl, HB2.out⟩
set_option maxHeartbeats 4000000 in
theorem frame_any (l : Bs) (hl : l.length ≤ 1048576) (w : World) (hT : Tb w) :
    Calls Tryd.prog 76 #[.string ⟨l.toArray⟩] w fun e w' => e = .returned (.string ⟨(frame l).toArray⟩) ∧ Below w.heap.size w w' := by
  have HT := Lib.hid hT
  obtain ⟨n, hn⟩ : ∃ n, n = l.length := ⟨_, rfl⟩
  have hsz : (⟨l.toArray⟩ : ByteArray).size = n := by rw [size_ba, hn]
  have HL : l.length = n := hn.symm
  have HLE : (n : Int) ≤ 1048576 := by omega
  have c1 := Lib.hid (four_any n (by omega))
  have cs := Lib.hid (sum_any l (by omega))
  have c2 := Lib.hid (four_any (Crc.sum l) (Crc.sum_lt l))
  have hs : (Crc.sum l : Int) < 4294967296 := by have := Crc.sum_lt l; omega
  have hab : (⟨(be 4 n).toArray⟩ : ByteArray) ++ ⟨(be 4 (Crc.sum l)).toArray⟩ = ⟨(be 4 n ++ be 4 (Crc.sum l)).toArray⟩ := ba_app _ _
  have hres : (⟨(be 4 n ++ be 4 (Crc.sum l)).toArray⟩ : ByteArray) ++ ⟨l.toArray⟩ = ⟨(frame l).toArray⟩ := by rw [frame, HL]; exact ba_app _ _
  have l1 : (be 4 n).length = 4 := be_len _ _
  have l2 : (be 4 (Crc.sum l)).length = 4 := be_len _ _
  have l3 : (be 4 n ++ be 4 (Crc.sum l)).length = 8 := by simp [l1, l2]
  generalize frame l = res at hres ⊢
  generalize (be 4 n ++ be 4 (Crc.sum l)) = ab at hab hres l3
  generalize be 4 n = a at c1 hab l1
  generalize be 4 (Crc.sum l) = b at c2 hab l2
  generalize Crc.sum l = s at c2 cs hs
  have hs0 : (0 : Int) ≤ s := by omega
  clear hn hl hT
  go_enter Tryd.func76, Tryd.ntmps76
  go_wp2_with fail
  refine (keep w.heap.size w (c1.out _) (by go_grown) (Nat.le_refl _)).mono ?_
  rintro e w1 ⟨rfl, hb1, -⟩
  have HB1 := Lib.hid hb1; clear hb1
  go_wp2_with fail
  refine (cs.out _ (HT.out.below HB1.out)).mono ?_
  rintro e w2 ⟨rfl, rfl⟩
  go_wp2_with fail
  refine (keep w.heap.size w (c2.out _) HB1.out (Nat.le_refl _)).mono ?_
  rintro e w2 ⟨rfl, hb2, -⟩
  have HB2 := Lib.hid hb2; clear hb2
  go_wp2_with fail
  go_ret
  exact ⟨rfl, HB2.out⟩
theorem be8 (g : Nat) : be 8 g = be 4 (g / 4294967296) ++ be 4 g := by
  have h : ∀ k n, be (4 + k) n = be 4 (n / 256 ^ k) ++ be k n := by
    intro k
    induction k with
    | zero => intro n; simp [be]
    | succ k ih =>
      intro n
      have e1 : be (4 + (k + 1)) n = be (4 + k) (n / 256) ++ [UInt8.ofNat (n % 256)] := rfl
      have e2 : be (k + 1) n = be k (n / 256) ++ [UInt8.ofNat (n % 256)] := rfl
      rw [e1, ih, e2, Nat.div_div_eq_div_mul, List.append_assoc, show 256 * 256 ^ k = 256 ^ (k + 1) by rw [Nat.pow_succ, Nat.mul_comm]]
  exact h 4 g
theorem be4_mod (n : Nat) : be 4 (n % 4294967296) = be 4 n := by
  rw [be4, be4]
  congr 1
  · congr 1; omega
  · congr 1
    · congr 1; omega
    · congr 1
      · congr 1; omega
      · congr 2; omega
set_option maxHeartbeats 4000000 in
theorem fileOf_any (g : Nat) (hg : g ≤ 4611686018427387904) (l : Bs) (hl : l.length ≤ 1048576) (w : World) (hT : Tb w) :
    Calls Tryd.prog 82 #[.int .i64 (g : Int), .string ⟨l.toArray⟩] w fun e w' => e = .returned (.string ⟨(fileOf g l).toArray⟩) ∧ Below w.heap.size w w' := by
  have HT := Lib.hid hT
  have hg0 : (0 : Int) ≤ g := by omega
  have hg1 : (g : Int) ≤ 4611686018427387904 := by omega
  obtain ⟨hi, hhi⟩ : ∃ x, x = g / 4294967296 := ⟨_, rfl⟩
  obtain ⟨lo, hlo⟩ : ∃ x, x = g % 4294967296 := ⟨_, rfl⟩
  have t1 : (g : Int) / 4294967296 = (hi : Int) := by omega
  have t2 : (g : Int) % 4294967296 = (lo : Int) := by omega
  have t3 : (hi : Int) < 4294967296 := by omega
  have t4 : (0 : Int) ≤ (hi : Int) := by omega
  have c1 := Lib.hid (four_any hi (by omega))
  have c2 := Lib.hid (four_any lo (by omega))
  have c3 := Lib.hid (frame_any l hl)
  have e1 : (⟨#[83, 78, 76, 49]⟩ : ByteArray) ++ ⟨(be 4 hi).toArray⟩ = ⟨(mark ++ be 4 hi).toArray⟩ := ba_app mark _
  have e2 : (⟨(mark ++ be 4 hi).toArray⟩ : ByteArray) ++ ⟨(be 4 lo).toArray⟩ = ⟨(mark ++ be 8 g).toArray⟩ := by rw [be8, ← hhi, ← be4_mod g, ← hlo, ← List.append_assoc]; exact ba_app _ _
  have e3 : (⟨(mark ++ be 8 g).toArray⟩ : ByteArray) ++ ⟨(frame l).toArray⟩ = ⟨(fileOf g l).toArray⟩ := ba_app _ _
  have l1 : (be 4 hi).length = 4 := be_len _ _
  have l2 : (be 4 lo).length = 4 := be_len _ _
  have l3 : (mark ++ be 4 hi).length = 8 := by simp [mark, l1]
  have l4 : (mark ++ be 8 g).length = 12 := by simp [mark, be_len]
  have l5 : (((frame l).length : Nat) : Int) ≤ 1048584 := by rw [frame_len]; omega
  generalize fileOf g l = res at e3 ⊢
  generalize mark ++ be 8 g = x2 at e2 e3 l4
  generalize mark ++ be 4 hi = x1 at e1 e2 l3
  generalize frame l = x3 at c3 e3 l5
  generalize be 4 hi = a at c1 e1 l1
  generalize be 4 lo = b at c2 e2 l2
  clear hhi hlo hT hg hl
  go_enter Tryd.func82, Tryd.ntmps82
  go_wp2_with fail
  refine (keep w.heap.size w (c1.out _) (by go_grown) (Nat.le_refl _)).mono ?_
  rintro e w1 ⟨rfl, hb1, -⟩
  have HB1 := Lib.hid hb1; clear hb1
  go_wp2_with fail
  refine (keep w.heap.size w (c2.out _) HB1.out (Nat.le_refl _)).mono ?_
  rintro e w2 ⟨rfl, hb2, -⟩
  have HB2 := Lib.hid hb2; clear hb2
  go_wp2_with fail
  refine (keep w.heap.size w (c3.out _ (HT.out.below HB2.out)) HB2.out (Nat.le_refl _)).mono ?_
  rintro e w3 ⟨rfl, hb3, -⟩
  have HB3 := Lib.hid hb3; clear hb3
  go_wp2_with fail
  go_ret
  exact ⟨rfl, HB3.out⟩
end Go.Proofs.YtmoihgniglomiaaDoor
namespace Go.Proofs
open Go.Shelf
def Tryd.lays103_ren : Go.Shelf.Ren := ⟨fun | 103 => 105 | 210 => 108 | 206 => 110 | n => n, fun | 9 => 9 | 4 => 4 | 24 => 130 | 3 => 3 | n => n, fun | n => n⟩
theorem Tryd.lays103 : Go.Proofs.Lays.n103 Tryd.prog Tryd.lays103_ren := {
  mixed := by kernel_rfl
  f103 := Tryd.func105.trans (congrArg some (by kernel_rfl))
  f206 := Tryd.func110.trans (congrArg some (by kernel_rfl))
  f210 := Tryd.func108.trans (congrArg some (by kernel_rfl))
  t3 := Tryd.underlying3
  a3 := Tryd.isAgg3
  z3 := Tryd.sizeOf3
  v3 := Tryd.zeroValue3
  t4 := Tryd.underlying4
  a4 := Tryd.isAgg4
  z4 := Tryd.sizeOf4
  v4 := Tryd.zeroValue4
  t9 := Tryd.underlying9
  a9 := Tryd.isAgg9
  z9 := Tryd.sizeOf9
  v9 := Tryd.zeroValue9
  t24 := Tryd.underlying130
  a24 := Tryd.isAgg130
  z24 := Tryd.sizeOf130
  v24 := Tryd.zeroValue130 }
open Go.RowKit in
theorem Tryd.strings_CutPrefix (s p : ByteArray) (w : World) :
    Calls Tryd.prog 105 #[.string s, .string p] w fun e w' => e = .returned (.tuple #[.string ⟨(Lib.trimPrefix s.data.toList p.data.toList).toArray⟩, .bool (Lib.hasPrefix s.data.toList p.data.toList)]) ∧ w' = w := Any.strings_CutPrefix Tryd.lays103 s p w
def Tryd.laysM316_ren : Go.Shelf.Ren := ⟨fun | 316 => 109 | n => n, fun | 9 => 9 | 3 => 3 | 4 => 4 | 37 => 80 | 0 => 0 | 127 => 146 | 5 => 5 | n => n, fun | n => n⟩
theorem Tryd.laysM316 : Go.Proofs.LaysM.n316 Tryd.prog Tryd.laysM316_ren := {
  mixed := by kernel_rfl
  f316 := Tryd.func109.trans (congrArg some (by kernel_rfl))
  t0 := Tryd.underlying0
  a0 := Tryd.isAgg0
  z0 := Tryd.sizeOf0
  v0 := Tryd.zeroValue0
  t3 := Tryd.underlying3
  a3 := Tryd.isAgg3
  z3 := Tryd.sizeOf3
  v3 := Tryd.zeroValue3
  t4 := Tryd.underlying4
  a4 := Tryd.isAgg4
  z4 := Tryd.sizeOf4
  v4 := Tryd.zeroValue4
  t9 := Tryd.underlying9
  a9 := Tryd.isAgg9
  z9 := Tryd.sizeOf9
  v9 := Tryd.zeroValue9
  t37 := Tryd.underlying80
  a37 := Tryd.isAgg80
  z37 := Tryd.sizeOf80
  v37 := Tryd.zeroValue80
  t127 := Tryd.underlying146
  a127 := Tryd.isAgg146
  z127 := Tryd.sizeOf146
  v127 := Tryd.zeroValue146
  t5 := Tryd.underlying5
  a5 := Tryd.isAgg5
  z5 := Tryd.sizeOf5
  v5 := Tryd.zeroValue5
  i0 := by kernel_rfl
  i3 := by kernel_rfl
  i4 := by kernel_rfl
  i5 := by kernel_rfl
  i9 := by kernel_rfl
  i37 := by kernel_rfl
  i127 := by kernel_rfl }
open Go.RowKit in
theorem Tryd.stringslite_Clone (s : ByteArray) (w : World) (hlim : s.size ≤ 281474976710656) :
    Calls Tryd.prog 109 #[.string s] w fun e w' => e = .returned (.string s) ∧ Below w.heap.size w w' := Any.stringslite_Clone Tryd.laysM316 s w hlim
end Go.Proofs
