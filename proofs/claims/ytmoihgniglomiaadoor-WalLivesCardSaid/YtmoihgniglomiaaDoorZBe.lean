/- The document's disk: Sync, Cut, Copy, New. No condition but the disk's own. -/
import Derived.Test.YtmoihgniglomiaaDoorZBd
import Derived.Test.YtmoihgniglomiaaDoorZR
set_option linter.unusedVariables false
set_option linter.unusedSimpArgs false
set_option maxRecDepth 100000
namespace Go.Proofs.YtmoihgniglomiaaDoor
open Go.RowKit Go.Sort

theorem lose_dead (S : St) (k : Nat) : ({ S with inn := 0 } : St).lose k = S.lose k := rfl
theorem Only.two {r : Nat} {a b c : World} (h : Only [r] a b) (k : Only [r] b c) : Only [r] a c := h.trans k (fun x hx => .inl hx)
theorem sync_gone {S : St} (h : S.gone = true) : S.sync = (2, S) := by unfold St.sync; rw [h]; rfl
theorem sync_ok {S S1 : St} (h : S.gone = false) (hc : S.count = (0, S1)) : S.sync = (0, S1.keep S1.waiting) := by unfold St.sync; rw [h, hc]; rfl
theorem sync_die {S X : St} (h : S.gone = false) (hc : S.count = (2, X)) : S.sync = (2, X) := by unfold St.sync; rw [h, hc]; rfl
set_option maxHeartbeats 8000000 in
theorem sync34 (r : Nat) (S : St) (uv : Value) (kp : Int) (w : World) (h : Rk w r S uv kp) :
    Calls Tryd.prog 49 #[.pointer (some ⟨r, 0, none⟩)] w fun e w' => e = .returned (.int .i64 ((S.sync).1 : Int)) ∧ Rm w r uv w' (S.sync).2 := by
  have H := Lib.hid h
  have b5 := h.b5
  obtain ⟨o, ho⟩ : ∃ o, S.sync = o := ⟨_, rfl⟩
  rw [ho]
  have HO := Lib.hid ho
  clear h ho
  cases hg : S.gone
  · rw [hg] at b5
    have HG := Lib.hid (goes57 r S uv kp w H.out)
    have HGN := Lib.hid hg
    clear hg
    go_enter Tryd.func49, Tryd.ntmps49
    go_wp2_with fail
    refine HG.out.mono ?_
    rintro e w1 ⟨b, S1, rfl, hr1, ho1, hwent, -⟩
    have R1 := Lib.hid hr1
    have O1 := Lib.hid ho1
    clear hr1 ho1 HG b5
    rcases hwent with ⟨rfl, hc⟩ | ⟨rfl, hS1, hkp, hc⟩
    · have HC := Lib.hid hc
      clear hc
      go_wp2_with fail
      refine (files40 r S1 uv kp w1 R1.out).mono ?_
      rintro e w2 ⟨⟨v, rfl, g, rfl, hg, kg⟩, hb⟩
      have KR := R1.out.blk.below hb
      have hne : r ≠ g := by have := R1.out.blk.lt; omega
      have hne' : g ≠ r := fun e => hne e.symm
      have c0 := KR.cell 0
      have c1 := KR.cell 1
      have c2 := KR.cell 2
      have f0 := KR.fro 0
      have f1 := KR.fro 1
      have f2 := KR.fro 2
      have g0 := kg.cell 0
      have g1 := kg.cell 1
      simp only [List.getElem?_toArray, List.getElem?_cons_succ, List.getElem?_cons_zero] at c0 c1 c2 g0 g1
      have KH := Lib.hid KR
      have HB := Lib.hid hb
      clear KR hb kg hg
      go_wp2_with fail
      go_ret
      rw [← HO.out, sync_ok HGN.out HC.out]
      refine ⟨rfl, .nil ⟨?_, nil_row _ _ rfl, R1.out.kp, R1.out.wf.keep _⟩ ((((O1.out.two (.of HB.out)).setCell _ (by simp) _).setCell _ (by simp) _).setCell _ (by simp) _)⟩
      rw [(keep_cells S1 _).1, (keep_cells S1 _).2, R1.out.wf.left_all _ (Nat.le_refl _), List.take_length, List.take_length]
      have := Bk.same (i := 2) (v := .slice none 0 0) (Bk.same (i := 1) (v := .string ⟨S1.f1.toArray⟩) (Bk.same (i := 0) (v := .string ⟨S1.f0.toArray⟩) KH.out))
      simp at this
      exact this
    · have HC := Lib.hid hc
      have c4 := R1.out.blk.cell 4
      simp only [List.getElem?_toArray, List.getElem?_cons_succ, List.getElem?_cons_zero] at c4
      have HD := Lib.hid (die58 r S1 uv kp kp w1 R1.out)
      have HK : Hid (kp.toNat = S.lft) := Lib.hid (by rw [hkp]; rfl)
      have HS := Lib.hid hS1
      clear hc hkp hS1
      go_wp2_with fail
      refine HD.out.mono ?_
      rintro e w2 ⟨rfl, hr, ho⟩
      have R2 := Lib.hid hr
      have O2 := Lib.hid ho
      clear hr ho HD c4
      go_wp2_with fail
      go_ret
      rw [← HO.out, sync_die HGN.out HC.out]
      refine ⟨rfl, .nil (kp := kp) ?_ (O1.out.two O2.out)⟩
      have := R2.out
      rw [HS.out, HK.out, lose_dead] at this
      exact this
  · rw [hg] at b5
    have HGN := Lib.hid hg
    clear hg
    go_enter Tryd.func49, Tryd.ntmps49
    go_wp2_with fail
    go_ret
    rw [← HO.out, sync_gone HGN.out]
    exact ⟨rfl, .same H.out (Below.refl _ _)⟩
theorem ext_ba9 (l : List UInt8) (k : Nat) : (⟨l.toArray⟩ : ByteArray).extract 0 k = ⟨(l.take k).toArray⟩ := by
  apply ByteArray.ext
  rw [ByteArray.data_extract]
  simp
theorem cutCode9 (S : St) (f n : Int) : S.cut f n = if S.gone then (2, S) else if ¬ St.there f then (90, S) else if n < 0 ∨ n > ((S.file f.toNat).length : Int) ∨ S.safe f.toNat < (S.file f.toNat).length then (92, S) else if (S.count).1 = 0 then (0, (S.count).2.cutF f.toNat n.toNat) else S.count := rfl
theorem rk_cut0 {w : World} {r : Nat} {S : St} {uv : Value} {kp : Int} (k : Nat) (hk : k ≤ S.f0.length) (hs : S.s0 = S.f0.length) (h : Rk w r S uv kp) : Rk (w.setCell ⟨r, 0, none⟩ (.string ((⟨(S.f0.take S.s0).toArray⟩ : ByteArray).extract 0 k))) r (S.cutF 0 k) uv kp := by
  refine ⟨?_, ?_, h.kp, h.wf.cutF 0 k hk (by show ¬ S.s0 < S.f0.length; omega)⟩
  · have := Bk.same (i := 0) (v := .string ((⟨(S.f0.take S.s0).toArray⟩ : ByteArray).extract 0 k)) h.blk
    rw [ext_ba9, List.take_take, Nat.min_eq_left (by omega)] at this ⊢
    have e : (S.cutF 0 k).f0.take (S.cutF 0 k).s0 = S.f0.take k := by
      show (S.f0.take k).take k = _
      rw [List.take_take, Nat.min_self]
    rw [e]
    simp at this
    exact this
  · rw [St.un_cut h.wf 0 k hk (by show ¬ S.s0 < S.f0.length; omega)]
    exact ownsU_of h.row fun g e _ => heap_setCell_other _ _ _ _ (h.ne h.blk g e)
theorem rk_cut1 {w : World} {r : Nat} {S : St} {uv : Value} {kp : Int} (k : Nat) (hk : k ≤ S.f1.length) (hs : S.s1 = S.f1.length) (h : Rk w r S uv kp) : Rk (w.setCell ⟨r, 1, none⟩ (.string ((⟨(S.f1.take S.s1).toArray⟩ : ByteArray).extract 0 k))) r (S.cutF 1 k) uv kp := by
  refine ⟨?_, ?_, h.kp, h.wf.cutF 1 k hk (by show ¬ S.s1 < S.f1.length; omega)⟩
  · have := Bk.same (i := 1) (v := .string ((⟨(S.f1.take S.s1).toArray⟩ : ByteArray).extract 0 k)) h.blk
    rw [ext_ba9, List.take_take, Nat.min_eq_left (by omega)] at this ⊢
    have e : (S.cutF 1 k).f1.take (S.cutF 1 k).s1 = S.f1.take k := by
      show (S.f1.take k).take k = _
      rw [List.take_take, Nat.min_self]
    rw [e]
    simp at this
    exact this
  · rw [St.un_cut h.wf 1 k hk (by show ¬ S.s1 < S.f1.length; omega)]
    exact ownsU_of h.row fun g e _ => heap_setCell_other _ _ _ _ (h.ne h.blk g e)
set_option maxHeartbeats 16000000 in
theorem cut35_on (r : Nat) (S : St) (uv : Value) (kp : Int) (f : Nat) (hf : f < 2) (n : Int) (hn1 : -9223372036854775808 ≤ n) (hn2 : n ≤ 9223372036854775807) (w : World) (h : Rk w r S uv kp) (hg : S.gone = false) :
    Calls Tryd.prog 87 #[.pointer (some ⟨r, 0, none⟩), .int .i64 (f : Int), .int .i64 n] w fun e w' => e = .returned (.int .i64 ((S.cut f n).1 : Int)) ∧ Rm w r uv w' (S.cut f n).2 := by
  have H := Lib.hid h
  have b5 := h.b5
  have ht : St.there (f : Int) = true := by simp [St.there]; omega
  have hsz : S.size (f : Int) = ((S.file f).length : Int) := by unfold St.size; rw [ht]; rfl
  rw [cutCode9, hg, ht]
  rw [hg] at b5
  simp only [Bool.false_eq_true, if_false, not_true_eq_false, Int.toNat_natCast]
  have HZ := Lib.hid (size32 r S uv kp (f : Int) w h)
  rw [hsz] at HZ
  have HU := Lib.hid (unsafe56 r S uv kp f hf w h)
  obtain ⟨u, hu⟩ : ∃ u : Nat, u = (S.file f).length - S.safe f := ⟨_, rfl⟩
  rw [← hu] at HU
  clear h hg ht hsz
  -- f is one of the files
  have tg : (((f : Int) != 0) = false) ∨ (((f : Int) != 0) = true ∧ ((f : Int) != 1) = false) := by
    rcases (by omega : f = 0 ∨ f = 1) with rfl | rfl
    · exact .inl rfl
    · exact .inr ⟨rfl, rfl⟩
  by_cases h0 : n < 0
  · rw [if_pos (.inl h0)]
    have t1 : decide (n < 0) = true := by simpa using h0
    clear h0 hu hf
    rcases tg with tg | ⟨tg, tg2⟩
    · go_enter Tryd.func87, Tryd.ntmps87
      go_wp2_with fail
      go_ret
      exact ⟨rfl, .same H.out (Below.refl _ _)⟩
    · go_enter Tryd.func87, Tryd.ntmps87
      go_wp2_with fail
      go_ret
      exact ⟨rfl, .same H.out (Below.refl _ _)⟩
  · obtain ⟨k, rfl⟩ : ∃ k : Nat, n = (k : Int) := ⟨n.toNat, by omega⟩
    have t1 : decide ((k : Int) < 0) = false := by simp
    by_cases h1 : (k : Int) > ((S.file f).length : Int)
    · rw [if_pos (.inr (.inl h1))]
      have t2 : decide ((S.file f).length < k) = true := by simp; omega
      clear h0 h1 hu hf
      rcases tg with tg | ⟨tg, tg2⟩
      · go_enter Tryd.func87, Tryd.ntmps87
        go_wp2_with fail
        refine HZ.out.mono ?_
        rintro e w' ⟨rfl, rfl⟩
        go_wp2_with fail
        go_ret
        exact ⟨rfl, .same H.out (Below.refl _ _)⟩
      · go_enter Tryd.func87, Tryd.ntmps87
        go_wp2_with fail
        refine HZ.out.mono ?_
        rintro e w' ⟨rfl, rfl⟩
        go_wp2_with fail
        go_ret
        exact ⟨rfl, .same H.out (Below.refl _ _)⟩
    · have t2 : decide ((S.file f).length < k) = false := by simp; omega
      by_cases h2 : S.safe f < (S.file f).length
      · rw [if_pos (.inr (.inr h2))]
        obtain ⟨m, rfl⟩ : ∃ m, u = m + 1 := ⟨u - 1, by omega⟩
        clear h0 h1 h2 hu hf
        rcases tg with tg | ⟨tg, tg2⟩
        · go_enter Tryd.func87, Tryd.ntmps87
          go_wp2_with fail
          refine HZ.out.mono ?_
          rintro e w' ⟨rfl, rfl⟩
          go_wp2_with fail
          refine HU.out.mono ?_
          rintro e w' ⟨rfl, rfl⟩
          go_wp2_with fail
          go_ret
          exact ⟨rfl, .same H.out (Below.refl _ _)⟩
        · go_enter Tryd.func87, Tryd.ntmps87
          go_wp2_with fail
          refine HZ.out.mono ?_
          rintro e w' ⟨rfl, rfl⟩
          go_wp2_with fail
          refine HU.out.mono ?_
          rintro e w' ⟨rfl, rfl⟩
          go_wp2_with fail
          go_ret
          exact ⟨rfl, .same H.out (Below.refl _ _)⟩
      · rw [if_neg (by omega)]
        obtain rfl : u = 0 := by omega
        have HFL : Hid (k ≤ (S.file f).length ∧ S.safe f = (S.file f).length ∧ f < 2) := Lib.hid (by
          refine ⟨by omega, ?_, hf⟩
          have h0 := H.out.wf.t0
          have h1 := H.out.wf.t1
          have : S.safe f ≤ (S.file f).length := by unfold St.safe St.file; split <;> omega
          omega)
        have HG := Lib.hid (goes57 r S uv kp w H.out)
        obtain ⟨o, ho⟩ : ∃ o, (if (S.count).1 = 0 then (0, (S.count).2.cutF f k) else S.count) = o := ⟨_, rfl⟩
        simp only [Int.toNat_natCast]
        rw [ho]
        have HO := Lib.hid ho
        clear h0 h1 h2 hu hf ho
        have key : ∀ b S1 w1, Hid (Rk w1 r S1 uv kp) → Hid (Only [r] w w1) → Hid (Went S S1 kp b) → Hid (S1.f0 = S.f0 ∧ S1.f1 = S.f1 ∧ S1.s0 = S.s0 ∧ S1.s1 = S.s1 ∧ S1.row = S.row ∧ S1.gone = S.gone ∧ S1.lft = S.lft) → True := fun _ _ _ _ _ _ _ => trivial
        clear key
        rcases tg with tg | ⟨tg, tg2⟩
        · go_enter Tryd.func87, Tryd.ntmps87
          go_wp2_with fail
          refine HZ.out.mono ?_
          rintro e w' ⟨rfl, rfl⟩
          go_wp2_with fail
          refine HU.out.mono ?_
          rintro e w' ⟨rfl, rfl⟩
          go_wp2_with fail
          refine HG.out.mono ?_
          rintro e w1 ⟨b, S1, rfl, hr1, ho1, hwent, hsame⟩
          have R1 := Lib.hid hr1
          have O1 := Lib.hid ho1
          have SM := Lib.hid hsame
          clear hr1 ho1 HG b5 hsame HZ HU
          have hf0 : f = 0 := by simpa using tg
          subst hf0
          have t4 : (((0 : Nat) : Int) == 0) = true := rfl
          rcases hwent with ⟨rfl, hc⟩ | ⟨rfl, hS1, hkp, hc⟩
          · have HC := Lib.hid hc
            clear hc
            have c0 := R1.out.blk.cell 0
            have f0 := R1.out.blk.fro 0
            simp only [List.getElem?_toArray, List.getElem?_cons_succ, List.getElem?_cons_zero] at c0
            have hll : (⟨(S1.f0.take S1.s0).toArray⟩ : ByteArray).size = S1.f0.length := by
              rw [size_ba, List.length_take, SM.out.1, SM.out.2.2.1]
              have h1 : S.s0 = S.f0.length := HFL.out.2.1
              omega
            have hnl : k ≤ (⟨(S1.f0.take S1.s0).toArray⟩ : ByteArray).size := by
              rw [hll, SM.out.1]
              exact HFL.out.1
            go_wp2_with fail
            go_ret
            rw [← HO.out, HC.out]
            refine ⟨rfl, .of (rk_cut0 k (by rw [SM.out.1]; exact HFL.out.1) (by rw [SM.out.1, SM.out.2.2.1]; exact HFL.out.2.1) R1.out) (O1.out.setCell _ (by simp) _)⟩
          · have c4 := R1.out.blk.cell 4
            simp only [List.getElem?_toArray, List.getElem?_cons_succ, List.getElem?_cons_zero] at c4
            have HD := Lib.hid (die58 r S1 uv kp kp w1 R1.out)
            have HK : Hid (kp.toNat = S.lft) := Lib.hid (by rw [hkp]; rfl)
            have HS := Lib.hid hS1
            have HC := Lib.hid hc
            clear hc hkp hS1
            go_wp2_with fail
            refine HD.out.mono ?_
            rintro e w2 ⟨rfl, hr, ho⟩
            have R2 := Lib.hid hr
            have O2 := Lib.hid ho
            clear hr ho HD c4
            go_wp2_with fail
            go_ret
            rw [← HO.out, HC.out, if_neg (show ¬ ((2 : Nat) = 0) by decide)]
            refine ⟨rfl, .nil (kp := kp) ?_ (O1.out.two O2.out)⟩
            have := R2.out
            rw [HS.out, HK.out, lose_dead] at this
            exact this
        · go_enter Tryd.func87, Tryd.ntmps87
          go_wp2_with fail
          refine HZ.out.mono ?_
          rintro e w' ⟨rfl, rfl⟩
          go_wp2_with fail
          refine HU.out.mono ?_
          rintro e w' ⟨rfl, rfl⟩
          go_wp2_with fail
          refine HG.out.mono ?_
          rintro e w1 ⟨b, S1, rfl, hr1, ho1, hwent, hsame⟩
          have R1 := Lib.hid hr1
          have O1 := Lib.hid ho1
          have SM := Lib.hid hsame
          clear hr1 ho1 HG b5 hsame HZ HU
          have hf1 : f = 1 := by
            have := HFL.out.2.2
            have h1 : (f : Int) = 1 := by simpa using tg2
            omega
          subst hf1
          have t4 : (((1 : Nat) : Int) == 0) = false := rfl
          rcases hwent with ⟨rfl, hc⟩ | ⟨rfl, hS1, hkp, hc⟩
          · have HC := Lib.hid hc
            clear hc
            have c1 := R1.out.blk.cell 1
            have f1 := R1.out.blk.fro 1
            simp only [List.getElem?_toArray, List.getElem?_cons_succ, List.getElem?_cons_zero] at c1
            have hll : (⟨(S1.f1.take S1.s1).toArray⟩ : ByteArray).size = S1.f1.length := by
              rw [size_ba, List.length_take, SM.out.2.1, SM.out.2.2.2.1]
              have h1 : S.s1 = S.f1.length := HFL.out.2.1
              omega
            have hnl : k ≤ (⟨(S1.f1.take S1.s1).toArray⟩ : ByteArray).size := by
              rw [hll, SM.out.2.1]
              exact HFL.out.1
            go_wp2_with fail
            go_ret
            rw [← HO.out, HC.out]
            refine ⟨rfl, .of (rk_cut1 k (by rw [SM.out.2.1]; exact HFL.out.1) (by rw [SM.out.2.1, SM.out.2.2.2.1]; exact HFL.out.2.1) R1.out) (O1.out.setCell _ (by simp) _)⟩
          · have c4 := R1.out.blk.cell 4
            simp only [List.getElem?_toArray, List.getElem?_cons_succ, List.getElem?_cons_zero] at c4
            have HD := Lib.hid (die58 r S1 uv kp kp w1 R1.out)
            have HK : Hid (kp.toNat = S.lft) := Lib.hid (by rw [hkp]; rfl)
            have HS := Lib.hid hS1
            have HC := Lib.hid hc
            clear hc hkp hS1
            go_wp2_with fail
            refine HD.out.mono ?_
            rintro e w2 ⟨rfl, hr, ho⟩
            have R2 := Lib.hid hr
            have O2 := Lib.hid ho
            clear hr ho HD c4
            go_wp2_with fail
            go_ret
            rw [← HO.out, HC.out, if_neg (show ¬ ((2 : Nat) = 0) by decide)]
            refine ⟨rfl, .nil (kp := kp) ?_ (O1.out.two O2.out)⟩
            have := R2.out
            rw [HS.out, HK.out, lose_dead] at this
            exact this
theorem cut35 (r : Nat) (S : St) (uv : Value) (kp : Int) (f n : Int) (hn1 : -9223372036854775808 ≤ n) (hn2 : n ≤ 9223372036854775807) (w : World) (h : Rk w r S uv kp) :
    Calls Tryd.prog 87 #[.pointer (some ⟨r, 0, none⟩), .int .i64 f, .int .i64 n] w fun e w' => e = .returned (.int .i64 ((S.cut f n).1 : Int)) ∧ Rm w r uv w' (S.cut f n).2 := by
  cases hg : S.gone
  · by_cases hf : f = 0 ∨ f = 1
    · obtain ⟨q, rfl, hq⟩ : ∃ q : Nat, f = (q : Int) ∧ q < 2 := ⟨f.toNat, by omega, by omega⟩
      exact cut35_on r S uv kp q hq n hn1 hn2 w h hg
    · have ht : St.there f = false := by simp [St.there]; omega
      rw [cutCode9, hg, ht]
      simp only [Bool.false_eq_true, if_false, not_false_eq_true, if_true]
      have H := Lib.hid h
      have b5 := h.b5
      rw [hg] at b5
      have t0 : (f != 0) = true := by simp; omega
      have t1 : (f != 1) = true := by simp; omega
      clear h hg hf ht
      go_enter Tryd.func87, Tryd.ntmps87
      go_wp2_with fail
      go_ret
      exact ⟨rfl, .same H.out (Below.refl _ _)⟩
  · rw [cutCode9, hg]
    simp only [if_true]
    have H := Lib.hid h
    have b5 := h.b5
    rw [hg] at b5
    clear h hg
    go_enter Tryd.func87, Tryd.ntmps87
    go_wp2_with fail
    go_ret
    exact ⟨rfl, .same H.out (Below.refl _ _)⟩
/-- another one in the same state: it shares the row -/
theorem copy12 (r : Nat) (S : St) (uv : Value) (kp : Int) (w : World) (h : Rk w r S uv kp) :
    Calls Tryd.prog 17 #[.pointer (some ⟨r, 0, none⟩)] w fun e w' => e = .returned (.pointer (some ⟨w.heap.size, 0, none⟩)) ∧ Rk w' w.heap.size S uv kp ∧ Below w.heap.size w w' ∧ w.heap.size < w'.heap.size := by
  have H := Lib.hid h
  have c0 := h.blk.cell 0
  have c1 := h.blk.cell 1
  have c2 := h.blk.cell 2
  have c3 := h.blk.cell 3
  have c4 := h.blk.cell 4
  have c5 := h.blk.cell 5
  simp only [List.getElem?_toArray, List.getElem?_cons_succ, List.getElem?_cons_zero] at c0 c1 c2 c3 c4 c5
  obtain ⟨a, c, rfl⟩ := h.shape
  clear h
  go_enter Tryd.func17, Tryd.ntmps17
  go_wp2_with fail
  go_ret
  refine ⟨rfl, ⟨Bk.new rfl, ownsU_of H.out.row fun g _ hg => Below.heap_alloc w _ g hg, H.out.kp, H.out.wf⟩, by go_grown, by rw [World.size_alloc]; omega⟩
end Go.Proofs.YtmoihgniglomiaaDoor
/- The document's disk: Append, New. No condition but the disk's own, and the text's length. -/
set_option linter.unusedVariables false
set_option linter.unusedSimpArgs false
set_option maxRecDepth 100000
namespace Go.Proofs.YtmoihgniglomiaaDoor
open Go.RowKit Go.Sort

/-- a new row of unsafe bytes -/
def Ur (w0 w' : World) (v' : Value) (l : List (Nat × UInt8)) : Prop :=
  w'.ownsRow 0 127 2 v' l.length (ucells l) ∧ Below w0.heap.size w0 w' ∧ ∀ k, v'.ownBlock = some k → w0.heap.size ≤ k
theorem Ur.down {w0 w w' : World} {v : Value} {l : List (Nat × UInt8)} (h : Ur w0 w v l) (hb : Below w.heap.size w w') : Ur w0 w' v l :=
  ⟨ownsU_of h.1 fun g _ hg => hb.block g hg, h.2.1.trans (hb.mono h.2.1.size), h.2.2⟩
theorem Ur.shape {w0 w : World} {v : Value} {l : List (Nat × UInt8)} (h : Ur w0 w v l) : ∃ a c, v = .slice a l.length c := by
  obtain ⟨a, c, rfl, _⟩ := owns_len rfl h.1
  exact ⟨a, c, rfl⟩
theorem ur_more {w0 W : World} {v : Value} {l m : List (Nat × UInt8)} (ty : TypeId) (h : Ur w0 W v l) (a : Addr) (n c : Nat) (hn : n = m.length) (hm : ∀ j u, (ucells m)[j]? = some u → W.cell? (a.add j) = some u) (hl : l.length + m.length ≤ 4194304) :
    ∃ v' w', (Builtin.append_ #[59, 59] ty #[v, .slice (some a) n c]).run Tryd.prog W = .ok v' w' ∧ Ur w0 w' v' (l ++ m) := by
  subst hn
  obtain ⟨i0, hi, hz0, hz1, hz2⟩ := info_parts infoU
  obtain ⟨v', w', hrun, ho, hgr, hv, _⟩ := app_own W 59 ty 127 i0 (.agg #[.int .i64 0, .int .u8 0]) 2 16 u65 hi hz0 hz1 hz2 rfl (by decide) v l.length (ucells l) h.1 a m.length c (ucells m) (ucells_len m) hm (ucells_one m) (by unfold maxLen; omega) (by omega)
  refine ⟨v', w', hrun, ⟨by rw [List.length_append, ucells_app]; exact ho, h.2.1.grown hgr h.2.1.size h.2.2, fun k hk => ?_⟩⟩
  rcases hv with e | e
  · exact h.2.2 k (e ▸ hk)
  · exact Nat.le_trans h.2.1.size (e k hk)
theorem wp_ubyte {ops : Array Oper} {rest : List Oper} {o : Oper} {a : Act} {Q : Exit → Act → World → Prop} {w0 W : World} (hgd : o.guard = none) (s x : Operand) (ho : o.op = .call { callee := .builtin .append, args := #[s, x], argTypes := #[59, 59] })
    (v : Value) (l : List (Nat × UInt8)) (q c f : Nat) (b : UInt8) (hs : a.eval s = v) (hx : a.eval x = .slice (some ⟨q, 0, none⟩) 1 c) (hI : Ur w0 W v l) (hq : Bk 127 W q #[.int .i64 (f : Int), .int .u8 (b.toNat : Int)]) (hl : l.length + 1 ≤ 4194304)
    (h : ∀ v' w', Ur w0 w' v' (l ++ [(f, b)]) → wpList Tryd.prog ops Q rest (a.put o.dst v') w') : wpList Tryd.prog ops Q (o :: rest) a W := by
  obtain ⟨v', w', hrun, hu⟩ := ur_more (m := [(f, b)]) o.type hI ⟨q, 0, none⟩ 1 c rfl (by
    intro j u hu
    rw [at0, hq.cell]
    match j with
    | 0 => simpa [ucells] using hu
    | 1 => simpa [ucells] using hu
    | j + 2 => simp [ucells] at hu) hl
  exact Lib.wpList_append_run W hgd s x 59 59 ho _ _ hs hx v' w' hrun (h v' w' hu)
/-- 'append([]Byte{}, d.U...)' -/
theorem copyU {w : World} {uv : Value} {l : List (Nat × UInt8)} (ty : TypeId) (h : w.ownsRow 0 127 2 uv l.length (ucells l)) (hl : l.length ≤ 2097152) :
    ∃ v' w', (Builtin.append_ #[59, 59] ty #[.slice (some ⟨w.heap.size, 0, none⟩) 0 0, uv]).run Tryd.prog (w.alloc (.cells #[] 127)) = .ok v' w' ∧ Ur w w' v' l := by
  have h0 : Ur w (w.alloc (.cells #[] 127)) (.slice (some ⟨w.heap.size, 0, none⟩) 0 0) [] := ⟨⟨rfl, .inr ⟨w.heap.size, 0, #[], rfl, Nat.zero_le _, Go.heap_alloc_new w _, Nat.le_refl _, by unfold maxLen; omega, rfl, rfl⟩⟩, by go_grown, fun k hk => by cases hk; exact Nat.le_refl _⟩
  have h' := h
  obtain ⟨_, ⟨rfl, hn⟩ | ⟨q, cap, cur, rfl, _⟩⟩ := h'
  · obtain ⟨i0, hi, hz0, hz1, hz2⟩ := info_parts infoU
    have hl0 : l = [] := List.eq_nil_of_length_eq_zero hn
    subst hl0
    refine ⟨_, _, ?_, h0⟩
    simp [Builtin.append_, run_underlying u65, sizeOf, typeInfo, hi, Builtin.lenOf, run_firstCells_none, storeCells]
  · have hcells := h.cells (g := q) rfl
    have hlt := h.lt q rfl
    obtain ⟨v', w', hrun, hu⟩ := ur_more (m := l) ty h0 ⟨q, 0, none⟩ l.length cap rfl (by
      intro j u hu
      have := hcells j u hu
      rw [at0] at this ⊢
      exact ((show Below w.heap.size w (w.alloc (.cells #[] 127)) by go_grown).cell (p := ⟨q, j, none⟩) hlt.2).trans this) (by simp; omega)
    exact ⟨v', w', hrun, hu⟩
end Go.Proofs.YtmoihgniglomiaaDoor
