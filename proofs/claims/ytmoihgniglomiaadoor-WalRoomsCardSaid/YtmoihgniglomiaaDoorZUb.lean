/- WalRooms: Room is the longest record that is taken; what is refused leaves all as it was. Condition: the program's table. -/
import Derived.Test.YtmoihgniglomiaaDoorZXa
set_option linter.unusedVariables false
set_option linter.unusedSimpArgs false
set_option maxRecDepth 100000
namespace Go.Proofs.YtmoihgniglomiaaDoor
open Go.RowKit Go.Sort

theorem room_range (S : St) (l : Wlg) : -1 ≤ room S l ∧ room S l ≤ 65536 := by unfold room; omega
theorem calm_gone {S : St} {l : Wlg} (h : Calm S) (hl : l.dead = false) : (l.dead || S.gone) = false := by rw [hl, h.1]; rfl
theorem lap_calm {S : St} {l : Wlg} (h : Calm S) (hl : l.dead = false) (hf : l.file < 2) (hw : S.Wf) (hn : 8 * l.n ≤ (S.file l.file).length) (r : Bs) : Calm (lap S l r).2.1 ∧ (lap S l r).2.2.dead = false ∧ 8 * (lap S l r).2.2.n ≤ ((lap S l r).2.1.file (lap S l r).2.2.file).length := by
  unfold lap
  rw [if_neg (by simp [hl, h.1])]
  by_cases h1 : r.length > 65536
  · rw [if_pos h1]; exact ⟨h, hl, hn⟩
  · rw [if_neg h1]
    by_cases h2 : (r.length : Int) > room S l
    · rw [if_pos h2]; exact ⟨h, hl, hn⟩
    · rw [if_neg h2]
      have hc : (S.append l.file (frame r)).1 = 0 := by
        have hfl := file_le hw l.file
        unfold St.append
        rw [if_neg (by simp [h.1]), if_neg (by unfold St.there; simp; omega), if_neg (by rw [frame_len]; unfold room at h2; simp; omega), (h.lay _ _).count]
      rw [if_pos hc]
      refine ⟨h.append _ _, hl, ?_⟩
      show 8 * (l.n + 1) ≤ ((S.append l.file (frame r)).2.file l.file).length
      rw [(append_ok hw hf hc).1, List.length_append, frame_len]
      omega
theorem lap_over (S : St) (l : Wlg) (h : (l.dead || S.gone) = false) (r : Bs) (h1 : ¬ r.length > 65536) (h2 : (r.length : Int) > room S l) : lap S l r = (102, S, l) := by
  unfold lap
  rw [if_neg (by simpa using h), if_neg h1, if_pos h2]
theorem lap_too (S : St) (l : Wlg) (h : (l.dead || S.gone) = false) (r : Bs) (h1 : r.length > 65536) : lap S l r = (101, S, l) := by
  unfold lap
  rw [if_neg (by simpa using h), if_pos h1]
theorem calm_e1 : Calm e1 := ⟨by kernel_rfl, by kernel_rfl⟩
set_option maxHeartbeats 32000000 in
theorem rooms_walk (vt : Value) (tl : List ByteArray) (w : World) (h : StrIn w vt tl) (htl : tl.length ≤ 8796093022208) (hT : Tb w) :
    Calls Tryd.prog 7 #[vt] w fun e w' => e = .returned (.bool true) ∧ Below w.heap.size w w' := by
  have HT := Lib.hid hT
  obtain ⟨av, cv, rfl, hne⟩ := h
  have HNE := Lib.hid hne
  have HL := Lib.hid (laid_any w hT)
  obtain ⟨n, hn⟩ : ∃ n, n = tl.length := ⟨_, rfl⟩
  have HN := Lib.hid hn
  rw [← hn]
  have htn : n ≤ 8796093022208 := by rw [hn]; exact htl
  clear hT hn hne htl
  go_enter Tryd.func7, Tryd.ntmps7
  go_wp2_with fail
  refine HL.out.mono ?_
  rintro e w1 ⟨p, b, rfl, hlo⟩
  have L0 := Lib.hid hlo
  clear hlo HL
  generalize hpb : p.b = pb
  have HPB0 := Lib.hid hpb
  clear hpb
  go_wp2_with fail
  go_loopw [5, 6, 7] (fun iv rv fv wr => ∃ (i : Nat) (p : Fp) (S : St) (l : Wlg), i ≤ n ∧ iv = .int .i64 (i : Int) ∧ LO w.heap.size w wr b p S l ∧ p.b = pb ∧ Calm S ∧ l.dead = false ∧ 8 * l.n ≤ (S.file l.file).length) (fun iv _ _ _ => n - (intOf iv).toNat)
  case atStart => exact ⟨0, p, e1, g1, Nat.zero_le _, rfl, L0.out, HPB0.out, calm_e1, rfl, Nat.zero_le _⟩
  case round =>
    clear L0 HPB0
    obtain ⟨i, p, S, l, hi, rfl, hlo, hpb, hca, hde, hln⟩ := hrel
    have L := Lib.hid hlo
    have HPB := Lib.hid hpb
    clear hlo hpb
    by_cases hlt' : i < n
    · have hlt : i < tl.length := by rw [← HN.out]; exact hlt'
      have hne0 : tl ≠ [] := by intro h; rw [h] at hlt; simp at hlt
      obtain ⟨bq, oq, hav, hbq, hcells⟩ := HNE.out hne0
      have SI : Hid (bq < w.heap.size ∧ ∀ i (hi : i < tl.length), w.cell? ⟨bq, oq + i, none⟩ = some (.string tl[i])) := Lib.hid ⟨hbq, hcells⟩
      subst hav
      have hmx : (n : Int) ≤ 8796093022208 := by omega
      have HNN : Hid (l.n ≤ 1048576) := Lib.hid (by have := file_le L.out.lk.dk.wf l.file; omega)
      have HLN := Lib.hid hln
      clear hne0 hbq hcells hln
      have hmk1 : ∀ W : World, (Instr.makeSlice 80 (.int .i64 65537) (.int .i64 65537)).run Tryd.prog W = .ok (.slice (some ⟨W.heap.size, 0, none⟩) 65537 65537) (W.alloc (.cells (Mz 65537) 5)) := fun W => make_zer 65537 (by decide) W
      have hcv1 : ∀ W : World, (convert 80 9 (.slice (some ⟨W.heap.size, 0, none⟩) 65537 65537)).run Tryd.prog (W.alloc (.cells (Mz 65537) 5)) = .ok (.string ⟨(zer 65537).toArray⟩) (W.alloc (.cells (Mz 65537) 5)) := conv_zer 65537
      have hmk2 : ∀ W : World, (Instr.makeSlice 80 (.int .i64 524289) (.int .i64 524289)).run Tryd.prog W = .ok (.slice (some ⟨W.heap.size, 0, none⟩) 524289 524289) (W.alloc (.cells (Mz 524289) 5)) := fun W => make_zer 524289 (by decide) W
      have hcv2 : ∀ W : World, (convert 80 9 (.slice (some ⟨W.heap.size, 0, none⟩) 524289 524289)).run Tryd.prog (W.alloc (.cells (Mz 524289) 5)) = .ok (.string ⟨(zer 524289).toArray⟩) (W.alloc (.cells (Mz 524289) 5)) := conv_zer 524289
      generalize Mz 65537 = M1 at hmk1 hcv1
      generalize Mz 524289 = M2 at hmk2 hcv2
      go_wp2_with fail
      refine (room_any L.out.lk).mono ?_
      rintro e w3 ⟨rfl, hb⟩
      replace L := Lib.hid (L.out.down (Nat.le_refl _) hb)
      clear hb
      obtain ⟨hr1, hr2⟩ := room_range S l
      generalize hrm : room S l = rm at *
      go_wp2_with fail
      have hc := files_any p S w3 L.out.lk.dk
      rw [show p.v = Value.pointer (some ⟨pb, 0, none⟩) by unfold Fp.v; rw [HPB.out]] at hc
      refine hc.mono ?_
      rintro e w4 ⟨⟨vf, rfl, ht⟩, hb⟩
      obtain ⟨g, rfl, hgB, hgk⟩ := ht
      have NG : Hid (g ∉ p.own ∧ g ≠ b) := Lib.hid ⟨fun hx => by have := L.out.lk.dk.lt _ hx; omega, fun e => by have := L.out.lk.blk.lt; omega⟩
      replace L := Lib.hid (L.out.down (Nat.le_refl _) hb)
      have KG := Lib.hid hgk
      clear hb hgk hgB hc
      by_cases hfull : rm = 65536
      ·
        have HCA := Lib.hid (And.intro hca hde)
        have HGO := Lib.hid (calm_gone hca hde)
        clear hca hde
        have hd1 : decide (rm < -1) = false := decide_eq_false (by omega)
        have hd2 : decide (65536 < rm) = false := decide_eq_false (by omega)
        have HRM := Lib.hid hrm
        clear hrm
        have hd3 : decide (rm < 65536) = false := decide_eq_false (by omega)
        go_wp2_with fail
        have hbm : Below w4.heap.size w4 (w4.alloc (.cells M1 5)) := by go_grown
        replace L := Lib.hid (L.out.down (Nat.le_refl _) hbm)
        replace KG := Lib.hid (KG.out.below hbm)
        clear hmk1 hcv1 hbm
        generalize w4.alloc (.cells M1 5) = w7 at *
        have hc := lappend_any L.out.lk L.out.tb (by have := HNN.out; omega) (zer 65537)
        rw [lap_too S l HGO.out _ (by rw [zer_len]; decide)] at hc
        refine hc.mono ?_
        rintro e w8 ⟨rfl, p8, hmm⟩
        simp only at hmm
        have kg : Bk 9 w8 g #[.string ⟨S.f0.toArray⟩, .string ⟨S.f1.toArray⟩] := KG.out.only hmm.2.2.1 (by simp [NG.out.1, NG.out.2])
        have ng : g ∉ p8.own ∧ g ≠ b := ⟨fun hx => (hmm.2.2.2 _ hx).elim NG.out.1 (by have := KG.out.lt; omega), NG.out.2⟩
        have hpb : p8.b = pb := hmm.2.1.trans HPB.out
        replace L := Lib.hid (L.out.lm (Nat.le_refl _) hmm)
        replace KG := Lib.hid kg
        replace NG := Lib.hid ng
        replace HPB := Lib.hid hpb
        clear kg ng hpb hmm hc
        go_wp2_with fail
        have hbm : Below w8.heap.size w8 (w8.alloc (.cells M2 5)) := by go_grown
        replace L := Lib.hid (L.out.down (Nat.le_refl _) hbm)
        replace KG := Lib.hid (KG.out.below hbm)
        clear hmk2 hcv2 hbm
        generalize w8.alloc (.cells M2 5) = w9 at *
        have hc := lchk_long L.out.lk L.out.tb (zer 524289) HGO.out (by rw [zer_len]; decide)
        refine hc.mono ?_
        rintro e w10 ⟨rfl, p10, hmm⟩
        have kg : Bk 9 w10 g #[.string ⟨S.f0.toArray⟩, .string ⟨S.f1.toArray⟩] := KG.out.only hmm.2.2.1 (by simp [NG.out.1, NG.out.2])
        have ng : g ∉ p10.own ∧ g ≠ b := ⟨fun hx => (hmm.2.2.2 _ hx).elim NG.out.1 (by have := KG.out.lt; omega), NG.out.2⟩
        have hpb : p10.b = pb := hmm.2.1.trans HPB.out
        replace L := Lib.hid (L.out.lm (Nat.le_refl _) hmm)
        replace KG := Lib.hid kg
        replace NG := Lib.hid ng
        replace HPB := Lib.hid hpb
        clear kg ng hpb hmm hc
        go_wp2_with fail
        have hc := files_any p10 S w10 L.out.lk.dk
        rw [show p10.v = Value.pointer (some ⟨pb, 0, none⟩) by unfold Fp.v; rw [HPB.out]] at hc
        refine hc.mono ?_
        rintro e w11 ⟨⟨v2, rfl, ht2⟩, hb⟩
        replace L := Lib.hid (L.out.down (Nat.le_refl _) hb)
        replace KG := Lib.hid (KG.out.below hb)
        have TW2 := Lib.hid ht2
        clear hb ht2 hc
        go_wp2_with fail
        refine (same_two w11 v2 (.slice (some ⟨g, 0, none⟩) 2 2) S.f0 S.f1 _ 0 TW2.out ⟨g, rfl, Nat.zero_le _, KG.out⟩).mono ?_
        rintro e w12 ⟨rfl, hb⟩
        replace L := Lib.hid (L.out.down (Nat.le_refl _) hb)
        clear hb TW2 KG NG
        obtain ⟨sx, hsx⟩ : ∃ sx, sx = tl[i] := ⟨_, rfl⟩
        have hcell : w12.cell? ⟨bq, oq + i, none⟩ = some (.string sx) := by
          rw [hsx, cell_below L.out.bw _ _ SI.out.1]
          exact SI.out.2 i hlt
        clear hsx
        go_wp2_with fail
        have hc := lappend_any L.out.lk L.out.tb (by have := HNN.out; omega) sx.data.toList
        rw [ba_eta] at hc
        refine hc.mono ?_
        rintro e w13 ⟨rfl, p13, hmm⟩
        obtain ⟨q1, q2, q3⟩ := lap_calm HCA.out.1 HCA.out.2 L.out.lk.ff L.out.lk.dk.wf HLN.out sx.data.toList
        have L9 := Lib.hid (L.out.lm (Nat.le_refl _) hmm)
        have HPB9 : Hid (p13.b = pb) := Lib.hid (hmm.2.1.trans HPB.out)
        have Q := Lib.hid (And.intro q1 (And.intro q2 q3))
        clear hc hmm q1 q2 q3 hcell L HLN
        go_wp2_with fail
        go_roundw
        case rel => exact ⟨i + 1, p13, _, _, by omega, by go_num, L9.out, HPB9.out, Q.out.1, Q.out.2.1, Q.out.2.2⟩
        case measure => simp [intOf]; omega
      ·
        have HCA := Lib.hid (And.intro hca hde)
        have HGO := Lib.hid (calm_gone hca hde)
        clear hca hde
        have hd1 : decide (rm < -1) = false := decide_eq_false (by omega)
        have hd2 : decide (65536 < rm) = false := decide_eq_false (by omega)
        have HRM := Lib.hid hrm
        clear hrm
        have hd3 : decide (rm < 65536) = true := decide_eq_true (by omega)
        obtain ⟨m, hm⟩ : ∃ m : Nat, rm + 1 = (m : Int) := ⟨(rm + 1).toNat, by omega⟩
        have hmk : ∀ W : World, (Instr.makeSlice 80 (.int .i64 (m : Int)) (.int .i64 (m : Int))).run Tryd.prog W = .ok (.slice (some ⟨W.heap.size, 0, none⟩) m m) (W.alloc (.cells (Mz m) 5)) := fun W => make_zer m (by omega) W
        have hcv : ∀ W : World, (convert 80 9 (.slice (some ⟨W.heap.size, 0, none⟩) m m)).run Tryd.prog (W.alloc (.cells (Mz m) 5)) = .ok (.string ⟨(zer m).toArray⟩) (W.alloc (.cells (Mz m) 5)) := conv_zer m
        have HOV : Hid (lap S l (zer m) = (102, S, l)) := Lib.hid (lap_over S l HGO.out (zer m) (by rw [zer_len]; omega) (by rw [zer_len, HRM.out]; omega))
        generalize Mz m = M0 at hmk hcv
        have hm1 : (m : Int) ≤ 65536 := by omega
        have hm0 : (0 : Int) ≤ (m : Int) := by omega
        go_wp2_with fail
        have hbm : Below w4.heap.size w4 (w4.alloc (.cells M0 5)) := by go_grown
        replace L := Lib.hid (L.out.down (Nat.le_refl _) hbm)
        replace KG := Lib.hid (KG.out.below hbm)
        clear hmk hcv hbm
        generalize w4.alloc (.cells M0 5) = w5 at *
        have hc := lappend_any L.out.lk L.out.tb (by have := HNN.out; omega) (zer m)
        rw [HOV.out] at hc
        refine hc.mono ?_
        rintro e w6 ⟨rfl, p6, hmm⟩
        simp only at hmm
        have kg : Bk 9 w6 g #[.string ⟨S.f0.toArray⟩, .string ⟨S.f1.toArray⟩] := KG.out.only hmm.2.2.1 (by simp [NG.out.1, NG.out.2])
        have ng : g ∉ p6.own ∧ g ≠ b := ⟨fun hx => (hmm.2.2.2 _ hx).elim NG.out.1 (by have := KG.out.lt; omega), NG.out.2⟩
        have hpb : p6.b = pb := hmm.2.1.trans HPB.out
        replace L := Lib.hid (L.out.lm (Nat.le_refl _) hmm)
        replace KG := Lib.hid kg
        replace NG := Lib.hid ng
        replace HPB := Lib.hid hpb
        clear kg ng hpb hmm hc
        go_wp2_with fail
        have hbm : Below w6.heap.size w6 (w6.alloc (.cells M1 5)) := by go_grown
        replace L := Lib.hid (L.out.down (Nat.le_refl _) hbm)
        replace KG := Lib.hid (KG.out.below hbm)
        clear hmk1 hcv1 hbm
        generalize w6.alloc (.cells M1 5) = w7 at *
        have hc := lappend_any L.out.lk L.out.tb (by have := HNN.out; omega) (zer 65537)
        rw [lap_too S l HGO.out _ (by rw [zer_len]; decide)] at hc
        refine hc.mono ?_
        rintro e w8 ⟨rfl, p8, hmm⟩
        simp only at hmm
        have kg : Bk 9 w8 g #[.string ⟨S.f0.toArray⟩, .string ⟨S.f1.toArray⟩] := KG.out.only hmm.2.2.1 (by simp [NG.out.1, NG.out.2])
        have ng : g ∉ p8.own ∧ g ≠ b := ⟨fun hx => (hmm.2.2.2 _ hx).elim NG.out.1 (by have := KG.out.lt; omega), NG.out.2⟩
        have hpb : p8.b = pb := hmm.2.1.trans HPB.out
        replace L := Lib.hid (L.out.lm (Nat.le_refl _) hmm)
        replace KG := Lib.hid kg
        replace NG := Lib.hid ng
        replace HPB := Lib.hid hpb
        clear kg ng hpb hmm hc
        go_wp2_with fail
        have hbm : Below w8.heap.size w8 (w8.alloc (.cells M2 5)) := by go_grown
        replace L := Lib.hid (L.out.down (Nat.le_refl _) hbm)
        replace KG := Lib.hid (KG.out.below hbm)
        clear hmk2 hcv2 hbm
        generalize w8.alloc (.cells M2 5) = w9 at *
        have hc := lchk_long L.out.lk L.out.tb (zer 524289) HGO.out (by rw [zer_len]; decide)
        refine hc.mono ?_
        rintro e w10 ⟨rfl, p10, hmm⟩
        have kg : Bk 9 w10 g #[.string ⟨S.f0.toArray⟩, .string ⟨S.f1.toArray⟩] := KG.out.only hmm.2.2.1 (by simp [NG.out.1, NG.out.2])
        have ng : g ∉ p10.own ∧ g ≠ b := ⟨fun hx => (hmm.2.2.2 _ hx).elim NG.out.1 (by have := KG.out.lt; omega), NG.out.2⟩
        have hpb : p10.b = pb := hmm.2.1.trans HPB.out
        replace L := Lib.hid (L.out.lm (Nat.le_refl _) hmm)
        replace KG := Lib.hid kg
        replace NG := Lib.hid ng
        replace HPB := Lib.hid hpb
        clear kg ng hpb hmm hc
        go_wp2_with fail
        have hc := files_any p10 S w10 L.out.lk.dk
        rw [show p10.v = Value.pointer (some ⟨pb, 0, none⟩) by unfold Fp.v; rw [HPB.out]] at hc
        refine hc.mono ?_
        rintro e w11 ⟨⟨v2, rfl, ht2⟩, hb⟩
        replace L := Lib.hid (L.out.down (Nat.le_refl _) hb)
        replace KG := Lib.hid (KG.out.below hb)
        have TW2 := Lib.hid ht2
        clear hb ht2 hc
        go_wp2_with fail
        refine (same_two w11 v2 (.slice (some ⟨g, 0, none⟩) 2 2) S.f0 S.f1 _ 0 TW2.out ⟨g, rfl, Nat.zero_le _, KG.out⟩).mono ?_
        rintro e w12 ⟨rfl, hb⟩
        replace L := Lib.hid (L.out.down (Nat.le_refl _) hb)
        clear hb TW2 KG NG
        obtain ⟨sx, hsx⟩ : ∃ sx, sx = tl[i] := ⟨_, rfl⟩
        have hcell : w12.cell? ⟨bq, oq + i, none⟩ = some (.string sx) := by
          rw [hsx, cell_below L.out.bw _ _ SI.out.1]
          exact SI.out.2 i hlt
        clear hsx
        go_wp2_with fail
        have hc := lappend_any L.out.lk L.out.tb (by have := HNN.out; omega) sx.data.toList
        rw [ba_eta] at hc
        refine hc.mono ?_
        rintro e w13 ⟨rfl, p13, hmm⟩
        obtain ⟨q1, q2, q3⟩ := lap_calm HCA.out.1 HCA.out.2 L.out.lk.ff L.out.lk.dk.wf HLN.out sx.data.toList
        have L9 := Lib.hid (L.out.lm (Nat.le_refl _) hmm)
        have HPB9 : Hid (p13.b = pb) := Lib.hid (hmm.2.1.trans HPB.out)
        have Q := Lib.hid (And.intro q1 (And.intro q2 q3))
        clear hc hmm q1 q2 q3 hcell L HLN
        go_wp2_with fail
        go_roundw
        case rel => exact ⟨i + 1, p13, _, _, by omega, by go_num, L9.out, HPB9.out, Q.out.1, Q.out.2.1, Q.out.2.2⟩
        case measure => simp [intOf]; omega
    · have hin : i = n := by omega
      subst hin
      clear hca hde hln HNE
      go_wp2_with fail
      refine (fixed_any wr L.out.tb).mono ?_
      rintro e w2 ⟨rfl, hb⟩
      have L2 := Lib.hid (L.out.down (Nat.le_refl _) hb)
      clear hb L
      go_wp2_with fail
      go_ret
      exact ⟨rfl, L2.out.bw⟩
end Go.Proofs.YtmoihgniglomiaaDoor
