/- WalLives' walk: lives of a log. Condition: the program's table, what the arguments say. -/
import Derived.Test.YtmoihgniglomiaaDoorZKj
set_option linter.unusedVariables false
set_option linter.unusedSimpArgs false
set_option maxRecDepth 100000
namespace Go.Proofs.YtmoihgniglomiaaDoor
open Go.RowKit Go.Sort

/-- a disk that may be opened, nothing armed -/
def Ready (S : St) (sn : Bs) (rs : List Bs) : Prop := S.gone = false ∧ S.inn = 0 ∧ ((∃ l, LOwn S l sn rs rs.length) ∨ LDown S sn rs)
theorem Ready.clean {S : St} {sn : Bs} {rs : List Bs} (h : Ready S sn rs) : Clean S := by
  rcases h.2.2 with ⟨l, h⟩ | h
  · exact h.clean
  · exact h.still.clean
theorem Ready.open {S : St} {sn : Bs} {rs : List Bs} (h : Ready S sn rs) : ∃ l S', lopen S = (0, (l, sn, rs), S') ∧ LOwn S' l sn rs rs.length ∧ S'.inn = 0 := by
  obtain ⟨hg, hi, ⟨l, h⟩ | h⟩ := h
  · exact ⟨l, S, h.lopen, h, hi⟩
  · rcases h.lopen hg with ⟨h1, h2, h3, h4⟩ | ⟨_, _, _, h4⟩
    · obtain ⟨⟨c, ⟨l, y⟩, S'⟩, hx⟩ : ∃ x, lopen S = x := ⟨_, rfl⟩
      rw [hx] at h1 h2 h3 h4
      simp only at h1 h2 h3 h4
      subst h1 h2
      exact ⟨l, S', hx, h3, h4 hi⟩
    · exact absurd hi h4
theorem LOwn.ready {S : St} {l : Wlg} {sn : Bs} {rs : List Bs} (h : LOwn S l sn rs rs.length) (hi : S.inn = 0) : Ready S sn rs := ⟨h.gone, hi, .inl ⟨l, h⟩⟩
theorem LDown.ready {S : St} {sn : Bs} {rs : List Bs} (h : LDown S sn rs) : Ready S.revive sn rs := ⟨rfl, rfl, .inr (h.power _ (by omega) (by omega))⟩
theorem LOwn.ready_revive {S : St} {l : Wlg} {sn : Bs} {rs : List Bs} (h : LOwn S l sn rs rs.length) : Ready S.revive sn rs := ⟨rfl, rfl, .inl ⟨l, h.revive⟩⟩
theorem index63 (b o c n i : Nat) (h : i < n) (w : World) : (Instr.indexAt 63 (.slice (some ⟨b, o, none⟩) n c) (.int .i64 (i : Int))).run Tryd.prog w = .ok (.pointer (some ⟨b, o + i * 4, none⟩)) w := by
  go_simp
theorem DO.tbz {B : Nat} {w0 w : World} {p : Fp} {S : St} (h : DO B w0 w p S) : Tb w := h.tb
/-- what lies beside the disk in a round -/
structure BX (w : World) (g5 g7 : Nat) (c5 c7 : Array Value) (v : Value) (may : List Stt) : Prop where
  k5 : Bk 67 w g5 c5
  k7 : Bk 69 w g7 c7
  ss : SS w v may
theorem BX.kin {w w' : World} {g5 g7 : Nat} {c5 c7 : Array Value} {v : Value} {may : List Stt} (h : BX w g5 g7 c5 c7 v may) (k : Kin w w') : BX w' g5 g7 c5 c7 v may := ⟨k.bk h.k5 (.inr (.inr (.inl rfl))), k.bk h.k7 (.inr (.inr (.inr rfl))), k.ss h.ss⟩
theorem BX.below {w w' : World} {g5 g7 : Nat} {c5 c7 : Array Value} {v : Value} {may : List Stt} (h : BX w g5 g7 c5 c7 v may) (k : Below w.heap.size w w') : BX w' g5 g7 c5 c7 v may := h.kin (.below k)
set_option maxHeartbeats 64000000 in
theorem lives_some (ls : List Lif) (hok : ∀ x ∈ ls, LifOk x) (hlen : ls.length ≤ 2932031007402) (w : World) (hT : Tb w) (n : Nat) (hn : n = ls.length) (sa : Option Addr) (sc : Nat)
    (hcs : ls ≠ [] → ∃ b o, sa = some ⟨b, o, none⟩ ∧ b < w.heap.size ∧ ∀ i (hi : i < ls.length), ∃ sv, w.cell? ⟨b, o + i * 4, none⟩ = some sv ∧ OpsIn w sv ls[i].script ∧ w.cell? ⟨b, o + i * 4 + 1, none⟩ = some (.int .i64 ls[i].n) ∧ w.cell? ⟨b, o + i * 4 + 2, none⟩ = some (.int .i64 ls[i].k) ∧ w.cell? ⟨b, o + i * 4 + 3, none⟩ = some (.int .i64 ls[i].again)) :
    Calls Tryd.prog 6 #[.slice sa n sc] w fun e w' => e = .returned (.bool true) ∧ Below w.heap.size w w' := by
  have HN := Lib.hid hn
  have HOK := Lib.hid hok
  have HC := Lib.hid hcs
  have HZ : Hid (0 < w.heap.size) := Lib.hid hT.1
  have HL := Lib.hid (laid_any w hT)
  have hnl : n ≤ 2932031007402 := by omega
  have hne := ne9
  clear hok hcs hn hT hlen
  go_enter Tryd.func6, Tryd.ntmps6
  go_wp2_with fail
  refine HL.out.mono ?_
  rintro e w1 ⟨p, b, rfl, hlo⟩
  have L1 : Hid (LO w.heap.size w ((w1.alloc (.cells #[] 9)).alloc (.cells #[.string ⟨#[]⟩, .slice (some ⟨w1.heap.size, 0, none⟩) 0 0] 67)) b p e1 g1) := Lib.hid (hlo.down (Nat.le_refl _) (by go_grown))
  have K1 : Hid (Bk 67 ((w1.alloc (.cells #[] 9)).alloc (.cells #[.string ⟨#[]⟩, .slice (some ⟨w1.heap.size, 0, none⟩) 0 0] 67)) (w1.heap.size + 1) #[.string ⟨([] : Bs).toArray⟩, .slice (some ⟨w1.heap.size, 0, none⟩) 0 0]) := Lib.hid (Bk.new (by simp))
  have R1 : Hid (RowS ((w1.alloc (.cells #[] 9)).alloc (.cells #[.string ⟨#[]⟩, .slice (some ⟨w1.heap.size, 0, none⟩) 0 0] 67)) (.slice (some ⟨w1.heap.size, 0, none⟩) 0 0) []) := Lib.hid (RowS.empty (Bk.alloc (Bk.new rfl)))
  have GW : Hid (w.heap.size ≤ w1.heap.size + 1) := Lib.hid (by have := hlo.bw.size; omega)
  have OW1 : Hid (LOwn e1 g1 [] [] 0) := Lib.hid lnew_own.2.1
  have HI1 : Hid (e1.inn = 0) := Lib.hid lnew_own.2.2
  clear hlo HL
  go_wp2_with fail
  generalize ((w1.alloc (.cells #[] 9)).alloc (.cells #[.string ⟨#[]⟩, .slice (some ⟨w1.heap.size, 0, none⟩) 0 0] 67)) = w2 at L1 K1 R1 ⊢
  generalize w1.heap.size + 1 = g5 at K1 GW ⊢
  generalize (Value.slice (some ⟨w1.heap.size, 0, none⟩) 0 0) = rv0 at K1 R1
  generalize hpb : p.b = pb
  have HPB0 := Lib.hid hpb
  clear hpb
  go_loopw [4, 6] (fun lv iv wr => ∃ (i : Nat) (b1 : Nat) (p1 : Fp) (S1 : St) (l1 : Wlg) (sn1 : Bs) (rs1 : List Bs) (rv1 : Value), i ≤ n ∧ iv = .int .i64 (i : Int) ∧ lv = .pointer (some ⟨b1, 0, none⟩) ∧ Hid (LO w.heap.size w wr b1 p1 S1 l1) ∧ Hid (p1.b = pb) ∧ Hid (LOwn S1 l1 sn1 rs1 rs1.length) ∧ Hid (S1.inn = 0) ∧ Hid (Bk 67 wr g5 #[.string ⟨sn1.toArray⟩, rv1]) ∧ Hid (RowS wr rv1 rs1)) (fun _ iv _ => n - (intOf iv).toNat)
  case atStart => exact ⟨0, b, p, e1, g1, [], [], rv0, Nat.zero_le _, rfl, rfl, L1, HPB0, OW1, HI1, K1, R1⟩
  case round =>
    obtain ⟨i, b1, p1, S1, l1, sn1, rs1, rv1, hil, rfl, rfl, LL, HPB, OW, HI, K5, RW⟩ := hrel
    clear L1 HPB0 OW1 HI1 K1 R1
    by_cases hlt : i < n
    · have hilt : i < ls.length := by rw [← HN.out]; exact hlt
      have hnn : ls ≠ [] := fun e => by rw [e] at hilt; simp at hilt
      obtain ⟨b0, o0, rfl, hb0, hcs⟩ := HC.out hnn
      obtain ⟨x, hx⟩ : ∃ x, ls[i]'hilt = x := ⟨_, rfl⟩
      obtain ⟨sv, d0, hsv, d1, d2, d3⟩ := hcs i hilt
      rw [hx] at hsv d1 d2 d3
      have hxok := HOK.out x (hx ▸ List.getElem_mem hilt)
      have e : ∀ k, wr.cell? ⟨b0, k, none⟩ = w.cell? ⟨b0, k, none⟩ := fun k => LL.out.bw.cell (p := ⟨b0, k, none⟩) hb0
      simp only [← e] at d0 d1 d2 d3
      have hix := index63 b0 o0 sc n i hlt
      obtain ⟨script, xn, xk, xa⟩ := x
      dsimp only at hsv d1 d2 d3
      have HSV := Lib.hid hsv
      have HXB := Lib.hid (And.intro hxok.2.2.2.1 (And.intro hxok.2.2.2.2.2.1 hxok.2.2.2.2.2.2.2))
      have HXO := Lib.hid hxok
      clear e hnn hx hcs hb0 hsv hxok
      obtain ⟨va, vn, vc, hvv⟩ : ∃ a m c, sv = .slice a m c := by obtain ⟨a, c, e, _⟩ := HSV.out; exact ⟨a, _, c, e⟩
      subst hvv
      have hb2 : Below wr.heap.size wr (wr.alloc (.cells #[.slice va vn vc, .int .i64 xn, .int .i64 xk, .int .i64 xa] 69)) := by go_grown
      have HLV := Lib.hid (lived_any (LL.out.down (Nat.le_refl _) hb2) HZ.out OW.out HI.out (RW.out.below hb2) HXO.out HSV.out)
      unfold stv at HLV
      have hpv : p1.v = .pointer (some ⟨pb, 0, none⟩) := by unfold Fp.v; rw [HPB.out]
      rw [hpv] at HLV
      have k50 := (K5.out.below hb2).cell 0
      have k51 := (K5.out.below hb2).cell 1
      simp only [List.getElem?_toArray, List.getElem?_cons_succ, List.getElem?_cons_zero] at k50 k51
      obtain ⟨ra, rc, hrv⟩ := RW.out.shape
      generalize rs1.length = rn at hrv
      subst hrv
      generalize hts : (⟨sn1.toArray⟩ : ByteArray) = ts at k50 HLV K5
      clear hpv hts
      go_wp2_with fail
      refine HLV.out.mono ?_
      rintro e w3 ⟨v, p3, S3, l3, may, rfl, hlm, hss, hml, hle⟩
      have hlk2 := (LL.out.down (Nat.le_refl _) hb2)
      have kn := hlm.kin hlk2.lk
      have D3 : Hid (DO w.heap.size w w3 p3 S3) := Lib.hid (hlk2.lm (Nat.le_refl _) hlm).dsk
      have B3 : Hid (BX w3 g5 wr.heap.size #[.string ts, .slice ra rn rc] #[.slice va vn vc, .int .i64 xn, .int .i64 xk, .int .i64 xa] v may) := Lib.hid ⟨kn.bk (K5.out.below hb2) (.inr (.inr (.inl rfl))), kn.bk (Bk.new rfl) (.inr (.inr (.inr rfl))), hss⟩
      have HPB3 : Hid (p3.b = pb) := Lib.hid (hlm.2.1.trans HPB.out)
      have HML := Lib.hid hml
      have HLE := Lib.hid hle
      obtain ⟨g7, hg7⟩ : ∃ g, g = wr.heap.size := ⟨_, rfl⟩
      rw [← hg7] at B3
      rw [← hg7]
      obtain ⟨va2, vc2, hv⟩ := hss.shape
      obtain ⟨vn2, hvn2⟩ : ∃ a, a = may.length := ⟨_, rfl⟩
      rw [← hvn2] at hv
      subst hv
      clear hlm hss hml hle hlk2 kn hb2 LL HPB OW HI K5 RW HLV HSV HXO k50 k51 d0 d1 d2 d3 hix hg7 hvn2
      have k72 := B3.out.k7.cell 2
      have k73 := B3.out.k7.cell 3
      simp only [List.getElem?_toArray, List.getElem?_cons_succ, List.getElem?_cons_zero] at k72 k73
      have hdd := dead_any p3 S3 w3 D3.out.dk
      rw [show p3.v = .pointer (some ⟨pb, 0, none⟩) by unfold Fp.v; rw [HPB3.out]] at hdd
      have HDD := Lib.hid hdd
      clear hdd
      rcases HLE.out with hle | hle
      · obtain ⟨sn3, rs3, m3, how, hmb⟩ := hle
        have hg3 := how.gone
        have hcr := crash_any p3 S3 (max 0 xk) (by have := HXB.out.2.1; omega) w3 D3.out.dk
        have ec : S3.crash (max 0 xk) = (0, S3.lose (max 0 xk).toNat) := by
          unfold St.crash
          rw [if_neg (by simp [hg3]), if_neg (by omega)]
        rw [ec, show p3.v = .pointer (some ⟨pb, 0, none⟩) by unfold Fp.v; rw [HPB3.out]] at hcr
        have HCR := Lib.hid hcr
        obtain ⟨j, hj1, hj2, hdn⟩ := how.lose (max 0 xk).toNat
        obtain ⟨s, hs⟩ : ∃ s : Stt, s = (sn3, rs3.take j) := ⟨_, rfl⟩
        have HD4 : Hid (LDown (S3.lose (max 0 xk).toNat) s.1 s.2) := Lib.hid (by rw [hs]; exact hdn)
        have HS4 : Hid (s ∈ may) := Lib.hid (by rw [hs]; exact hmb j hj1 hj2)
        rw [hg3] at HDD
        clear hcr ec how hmb hg3 hdn hs hj1 hj2 HLE
        go_wp2_with fail
        refine HDD.out.mono ?_
        rintro e w4 ⟨rfl, rfl⟩
        go_wp2_with fail
        refine HCR.out.mono ?_
        rintro e w4 ⟨rfl, p4, hm4⟩
        have D4 := Lib.hid (D3.out.mut (Nat.le_refl _) HZ.out hm4)
        have B4 := Lib.hid (B3.out.kin (hm4.kin D3.out.dk))
        have HPB4 : Hid (p4.b = pb) := Lib.hid (hm4.2.1.trans HPB3.out)
        clear hm4 D3 B3 HPB3 HDD HCR k72 k73
        generalize S3.lose (max 0 xk).toNat = S4 at D4 HD4
        by_cases hag : 0 < xa
        · go_wp2_with fail
          have hrv := revive_any p4 S4 w4 D4.out.dk
          rw [show p4.v = .pointer (some ⟨pb, 0, none⟩) by unfold Fp.v; rw [HPB4.out]] at hrv
          refine hrv.mono ?_
          rintro e w5 ⟨rfl, hd5, ho5⟩
          have hm5 := mut_head hd5 ho5
          have D5 := Lib.hid (D4.out.mut (Nat.le_refl _) HZ.out hm5)
          have B5 := Lib.hid (B4.out.kin (hm5.kin D4.out.dk))
          have RD5 : Hid (LDown S4.revive s.1 s.2 ∧ S4.revive.gone = false) := Lib.hid ⟨HD4.out.power _ (by omega) (by omega), rfl⟩
          clear hrv hd5 ho5 hm5 D4 B4 HD4
          generalize S4.revive = S5 at D5 RD5
          have k72 := B5.out.k7.cell 2
          have k73 := B5.out.k7.cell 3
          simp only [List.getElem?_toArray, List.getElem?_cons_succ, List.getElem?_cons_zero] at k72 k73
          have fa : decide ((0 : Int) < xa) = true := decide_eq_true hag
          have harm := arm_any p4 S5 xa (max 0 xk) HXB.out.2.2 (by have := HXB.out.2.1; omega) w5 D5.out.dk
          rw [arm_pos RD5.out.2 hag, show p4.v = .pointer (some ⟨pb, 0, none⟩) by unfold Fp.v; rw [HPB4.out]] at harm
          have HARM := Lib.hid harm
          clear harm hag
          go_wp2_with fail
          refine HARM.out.mono ?_
          rintro e w6 ⟨rfl, hd6, ho6⟩
          have hm6 := mut_head hd6 ho6
          have D6 := Lib.hid (D5.out.mut (Nat.le_refl _) HZ.out hm6)
          have B6 := Lib.hid (B5.out.kin (hm6.kin D5.out.dk))
          have RD6 : Hid (LDown (S5.power false xa.toNat (max 0 xk).toNat) s.1 s.2 ∧ (S5.power false xa.toNat (max 0 xk).toNat).gone = false) := Lib.hid ⟨RD5.out.1.power _ (by have := HXB.out.2.2; omega) (by have := HXB.out.2.1; omega), rfl⟩
          clear hd6 ho6 hm6 D5 B5 RD5 HARM k72 k73 fa
          generalize S5.power false xa.toNat (max 0 xk).toNat = S6 at D6 RD6
          have hop := wopen_any D6.out.dk D6.out.tb (D6.out.zo HZ.out) RD6.out.1.still.clean
          have hlo := RD6.out.1.lopen RD6.out.2
          rw [show p4.v = .pointer (some ⟨pb, 0, none⟩) by unfold Fp.v; rw [HPB4.out]] at hop
          generalize lopen S6 = x6 at hop hlo
          obtain ⟨c6, ⟨l6, sn6, rs6⟩, S7⟩ := x6
          have HOP := Lib.hid hop
          have HLO := Lib.hid hlo
          clear hop hlo
          go_wp2_with fail
          refine HOP.out.mono ?_
          rintro e w7 ⟨lv7, rv7, p7, rfl, hm7, -, -, hok7, hno7⟩
          have D7 := Lib.hid (D6.out.mut (Nat.le_refl _) HZ.out hm7)
          have B7 := Lib.hid (B6.out.kin (hm7.kin D6.out.dk))
          have HPB7 : Hid (p7.b = pb) := Lib.hid (hm7.2.1.trans HPB4.out)
          simp only at hok7 hno7
          have HLV7 : Hid ((c6 = 0 ∧ ∃ b, lv7 = .pointer (some ⟨b, 0, none⟩)) ∨ (c6 = 2 ∧ lv7 = .pointer none)) := Lib.hid (by
            rcases HLO.out with ⟨h0, _⟩ | ⟨h0, _⟩
            · obtain ⟨b, e, _⟩ := hok7 h0
              exact .inl ⟨h0, b, e⟩
            · exact .inr ⟨h0, hno7 (by omega)⟩)
          have HRD : Hid (Ready S7.revive s.1 s.2) := Lib.hid (by
            rcases HLO.out with ⟨_, h2, h3, _⟩ | ⟨_, _, h3, _⟩
            · exact h3.ready_revive
            · exact h3.ready)
          clear hm7 hok7 hno7 D6 B6 RD6 HPB4 HOP HLO
          rcases HLV7.out with ⟨rfl, b7, rfl⟩ | ⟨rfl, rfl⟩
          · clear HLV7
            go_wp2_with fail
            have hrv := revive_any p7 S7 w7 D7.out.dk
            rw [show p7.v = .pointer (some ⟨pb, 0, none⟩) by unfold Fp.v; rw [HPB7.out]] at hrv
            refine hrv.mono ?_
            rintro e w8 ⟨rfl, hd8, ho8⟩
            have hm8 := mut_head hd8 ho8
            have D8 := Lib.hid (D7.out.mut (Nat.le_refl _) HZ.out hm8)
            have B8 := Lib.hid (B7.out.kin (hm8.kin D7.out.dk))
            clear hrv hd8 ho8 hm8 D7 B7
            generalize S7.revive = S8 at D8 HRD
            obtain ⟨l9, S9, hx9, how9, hi9⟩ := HRD.out.open
            have hop := wopen_any D8.out.dk D8.out.tb (D8.out.zo HZ.out) HRD.out.clean
            rw [hx9, show p7.v = .pointer (some ⟨pb, 0, none⟩) by unfold Fp.v; rw [HPB7.out]] at hop
            have HOP := Lib.hid hop
            have OW9 := Lib.hid how9
            have HI9 := Lib.hid hi9
            clear hop hx9 how9 hi9 HRD
            go_wp2_with fail
            refine HOP.out.mono ?_
            rintro e w9 ⟨lv9, rv9, p9, rfl, hm9, hrow9, hown9, hok9, -⟩
            obtain ⟨b9, rfl, hbs9, hlk9, -⟩ := hok9 rfl
            simp only at hm9 hrow9 hlk9
            have D9 := D8.out.mut (Nat.le_refl _) HZ.out hm9
            have L9 : Hid (LO w.heap.size w w9 b9 p9 S9 l9) := Lib.hid ⟨hlk9, D9.bw, Nat.le_trans D8.out.bw.size hbs9, D9.op, D9.tb⟩
            have B9 := Lib.hid (B8.out.kin (hm9.kin D8.out.dk))
            have HPB9 : Hid (p9.b = pb) := Lib.hid (hm9.2.1.trans HPB7.out)
            have R9 : Hid (RowS w9 rv9 s.2) := Lib.hid hrow9
            clear hm9 hrow9 hown9 hok9 hlk9 D9 D8 B8 HPB7 HOP hbs9
            obtain ⟨r9a, r9c, hrv9⟩ := R9.out.shape
            obtain ⟨r9n, hr9n⟩ : ∃ a, a = s.2.length := ⟨_, rfl⟩
            rw [← hr9n] at hrv9
            subst hrv9
            have hln9 : (l9.n : Int) = (r9n : Int) := by have := OW9.out.n; omega
            have R9L : Hid (s.2.length ≤ 4194304) := Lib.hid (by have h1 := OW9.out.many; have h2 := OW9.out.n; omega)
            clear hr9n
            go_wp2_with fail
            refine (records35 b9 _ _ _ _ _ w9 (Lib.hid L9.out.lk.blk)).mono ?_
            rintro e w10 ⟨rfl, rfl⟩
            rw [hln9]
            clear hln9
            generalize hts9 : (⟨s.1.toArray⟩ : ByteArray) = ts9
            have HTS9 := Lib.hid hts9
            clear hts9
            have hb10 : Below w9.heap.size w9 (w9.alloc (.cells #[.string ts9, .slice r9a r9n r9c] 67)) := by go_grown
            have K10 : Hid (Bk 67 (w9.alloc (.cells #[.string ts9, .slice r9a r9n r9c] 67)) w9.heap.size #[.string ts9, .slice r9a r9n r9c]) := Lib.hid (Bk.new rfl)
            have L10 := Lib.hid (L9.out.down (Nat.le_refl _) hb10)
            have B10 := Lib.hid (B9.out.below hb10)
            have R10 := Lib.hid (R9.out.below hb10)
            have NE10 : Hid (w9.heap.size ≠ g5) := Lib.hid (by have := B9.out.k5.lt; omega)
            have HAM : Hid (Calls Tryd.prog 36 #[.agg #[.string ts9, .slice r9a r9n r9c], .slice va2 vn2 vc2] (w9.alloc (.cells #[.string ts9, .slice r9a r9n r9c] 67)) fun e w' => e = .returned (.bool true) ∧ Below (w9.alloc (.cells #[.string ts9, .slice r9a r9n r9c] 67)).heap.size (w9.alloc (.cells #[.string ts9, .slice r9a r9n r9c] 67)) w') := Lib.hid (by
              have := among_any s (.slice r9a r9n r9c) (.slice va2 vn2 vc2) may _ R10.out B10.out.ss R9L.out (by have := HML.out; omega) HS4.out
              unfold stv at this
              rwa [HTS9.out] at this)
            clear hb10 L9 B9 R9
            go_wp2_with fail
            refine HAM.out.mono ?_
            rintro e w11 ⟨rfl, hb11⟩
            have K11 := Lib.hid (K10.out.below hb11)
            have L11 := Lib.hid (L10.out.down (Nat.le_refl _) hb11)
            have B11 := Lib.hid (B10.out.below hb11)
            have R11 := Lib.hid (R10.out.below hb11)
            clear hb11 HAM K10 L10 B10 R10 HS4 HML
            obtain ⟨g10, hg10⟩ : ∃ g, g = w9.heap.size := ⟨_, rfl⟩
            rw [← hg10] at K11 NE10 ⊢
            clear hg10
            have hop := wopen_any L11.out.lk.dk L11.out.tb L11.out.lk.zo OW9.out.clean
            rw [OW9.out.lopen, show p9.v = .pointer (some ⟨pb, 0, none⟩) by unfold Fp.v; rw [HPB9.out]] at hop
            unfold ORes at hop
            dsimp only at hop
            rw [HTS9.out] at hop
            have HOP := Lib.hid hop
            clear hop
            go_wp2_with fail
            refine HOP.out.mono ?_
            rintro e w12 ⟨lv12, rv12, p12, rfl, hm12, hrow12, -, hok12, -⟩
            obtain ⟨b12, rfl, -, -, -⟩ := hok12 trivial
            have hlm12 := LM.of_mut L11.out.lk (Nat.lt_of_lt_of_le HZ.out L11.out.bw.size) hm12
            have kn12 := hm12.kin L11.out.lk.dk
            have L12 := Lib.hid (L11.out.lm (Nat.le_refl _) hlm12)
            have K12 := Lib.hid (kn12.bk K11.out (.inr (.inr (.inl rfl))))
            have B12 := Lib.hid (B11.out.kin kn12)
            have R12 := Lib.hid (kn12.rowS R11.out)
            have Q12 : Hid (RowS w12 rv12 s.2) := Lib.hid hrow12
            have HPB12 : Hid (p12.b = pb) := Lib.hid (hm12.2.1.trans HPB9.out)
            clear hm12 hrow12 hok12 hlm12 kn12 HOP K11 L11 B11 R11 HPB9
            obtain ⟨qa, qc, hq⟩ := Q12.out.shape
            generalize s.2.length = qn at hq
            subst hq
            have hsm := samer_any (.slice qa qn qc) (.slice r9a r9n r9c) s.2 s.2 w12 Q12.out R12.out R9L.out
            rw [decide_eq_true (rfl : s.2 = s.2)] at hsm
            have HSM := Lib.hid hsm
            clear hsm
            go_wp2_with fail
            refine HSM.out.mono ?_
            rintro e w13 ⟨rfl, hb13⟩
            have K13 := K12.out.below hb13
            have K5 := B12.out.k5.below hb13
            have L13 := L12.out.down (Nat.le_refl _) hb13
            have R13 := R12.out.below hb13
            have q0 := K13.cell 0
            have q1 := K13.cell 1
            have k50 := K5.cell 0
            have k51 := K5.cell 1
            have f50 := K5.fro 0
            have f51 := K5.fro 1
            simp only [List.getElem?_toArray, List.getElem?_cons_succ, List.getElem?_cons_zero] at q0 q1 k50 k51
            have L14 : Hid (LO w.heap.size w ((w13.setCell ⟨g5, 0, none⟩ (.string ts9)).setCell ⟨g5, 1, none⟩ (.slice r9a r9n r9c)) b9 p12 S9 l9) := Lib.hid (by
              obtain ⟨h1, h2⟩ := L13.lk.far K5 (.inr (.inr (.inl rfl)))
              exact ⟨⟨(L13.lk.blk.oth (a := ⟨g5, 0, none⟩) h1.symm).oth (a := ⟨g5, 1, none⟩) h1.symm, (L13.lk.dk.set h2 ⟨g5, 0, none⟩ rfl _).set h2 ⟨g5, 1, none⟩ rfl _, L13.lk.ne, L13.lk.zb, L13.lk.zo, L13.lk.ff, L13.lk.gg⟩, (L13.bw.setCell (show w.heap.size ≤ g5 from GW.out) _).setCell (show w.heap.size ≤ g5 from GW.out) _, L13.ob, L13.op, (L13.tb.only (L := [g5]) ((Only.refl _ _).setCell ⟨g5, 0, none⟩ (.inl (by simp)) _) (by have := GW.out; have := HZ.out; simp; omega)).only (L := [g5]) ((Only.refl _ _).setCell ⟨g5, 1, none⟩ (.inl (by simp)) _) (by have := GW.out; have := HZ.out; simp; omega)⟩)
            have K14 : Hid (Bk 67 ((w13.setCell ⟨g5, 0, none⟩ (.string ts9)).setCell ⟨g5, 1, none⟩ (.slice r9a r9n r9c)) g5 #[.string ⟨s.1.toArray⟩, .slice r9a r9n r9c]) := Lib.hid (by rw [HTS9.out]; exact K5.put2)
            have R14 : Hid (RowS ((w13.setCell ⟨g5, 0, none⟩ (.string ts9)).setCell ⟨g5, 1, none⟩ (.slice r9a r9n r9c)) (.slice r9a r9n r9c) s.2) := Lib.hid (R13.set2 K5 _ _)
            clear hb13 HSM K13 K5 L13 R13 K12 L12 B12 R12 Q12 R9L NE10
            go_wp2_with fail
            go_roundw
            case rel => exact ⟨i + 1, b9, p12, S9, l9, s.1, s.2, _, by omega, by go_num, rfl, L14, HPB12, OW9, HI9, K14, R14⟩
            case measure => simp [intOf]; omega
          · clear HLV7
            go_wp2_with fail
            have hrv := revive_any p7 S7 w7 D7.out.dk
            rw [show p7.v = .pointer (some ⟨pb, 0, none⟩) by unfold Fp.v; rw [HPB7.out]] at hrv
            refine hrv.mono ?_
            rintro e w8 ⟨rfl, hd8, ho8⟩
            have hm8 := mut_head hd8 ho8
            have D8 := Lib.hid (D7.out.mut (Nat.le_refl _) HZ.out hm8)
            have B8 := Lib.hid (B7.out.kin (hm8.kin D7.out.dk))
            clear hrv hd8 ho8 hm8 D7 B7
            generalize S7.revive = S8 at D8 HRD
            obtain ⟨l9, S9, hx9, how9, hi9⟩ := HRD.out.open
            have hop := wopen_any D8.out.dk D8.out.tb (D8.out.zo HZ.out) HRD.out.clean
            rw [hx9, show p7.v = .pointer (some ⟨pb, 0, none⟩) by unfold Fp.v; rw [HPB7.out]] at hop
            have HOP := Lib.hid hop
            have OW9 := Lib.hid how9
            have HI9 := Lib.hid hi9
            clear hop hx9 how9 hi9 HRD
            go_wp2_with fail
            refine HOP.out.mono ?_
            rintro e w9 ⟨lv9, rv9, p9, rfl, hm9, hrow9, hown9, hok9, -⟩
            obtain ⟨b9, rfl, hbs9, hlk9, -⟩ := hok9 rfl
            simp only at hm9 hrow9 hlk9
            have D9 := D8.out.mut (Nat.le_refl _) HZ.out hm9
            have L9 : Hid (LO w.heap.size w w9 b9 p9 S9 l9) := Lib.hid ⟨hlk9, D9.bw, Nat.le_trans D8.out.bw.size hbs9, D9.op, D9.tb⟩
            have B9 := Lib.hid (B8.out.kin (hm9.kin D8.out.dk))
            have HPB9 : Hid (p9.b = pb) := Lib.hid (hm9.2.1.trans HPB7.out)
            have R9 : Hid (RowS w9 rv9 s.2) := Lib.hid hrow9
            clear hm9 hrow9 hown9 hok9 hlk9 D9 D8 B8 HPB7 HOP hbs9
            obtain ⟨r9a, r9c, hrv9⟩ := R9.out.shape
            obtain ⟨r9n, hr9n⟩ : ∃ a, a = s.2.length := ⟨_, rfl⟩
            rw [← hr9n] at hrv9
            subst hrv9
            have hln9 : (l9.n : Int) = (r9n : Int) := by have := OW9.out.n; omega
            have R9L : Hid (s.2.length ≤ 4194304) := Lib.hid (by have h1 := OW9.out.many; have h2 := OW9.out.n; omega)
            clear hr9n
            go_wp2_with fail
            refine (records35 b9 _ _ _ _ _ w9 (Lib.hid L9.out.lk.blk)).mono ?_
            rintro e w10 ⟨rfl, rfl⟩
            rw [hln9]
            clear hln9
            generalize hts9 : (⟨s.1.toArray⟩ : ByteArray) = ts9
            have HTS9 := Lib.hid hts9
            clear hts9
            have hb10 : Below w9.heap.size w9 (w9.alloc (.cells #[.string ts9, .slice r9a r9n r9c] 67)) := by go_grown
            have K10 : Hid (Bk 67 (w9.alloc (.cells #[.string ts9, .slice r9a r9n r9c] 67)) w9.heap.size #[.string ts9, .slice r9a r9n r9c]) := Lib.hid (Bk.new rfl)
            have L10 := Lib.hid (L9.out.down (Nat.le_refl _) hb10)
            have B10 := Lib.hid (B9.out.below hb10)
            have R10 := Lib.hid (R9.out.below hb10)
            have NE10 : Hid (w9.heap.size ≠ g5) := Lib.hid (by have := B9.out.k5.lt; omega)
            have HAM : Hid (Calls Tryd.prog 36 #[.agg #[.string ts9, .slice r9a r9n r9c], .slice va2 vn2 vc2] (w9.alloc (.cells #[.string ts9, .slice r9a r9n r9c] 67)) fun e w' => e = .returned (.bool true) ∧ Below (w9.alloc (.cells #[.string ts9, .slice r9a r9n r9c] 67)).heap.size (w9.alloc (.cells #[.string ts9, .slice r9a r9n r9c] 67)) w') := Lib.hid (by
              have := among_any s (.slice r9a r9n r9c) (.slice va2 vn2 vc2) may _ R10.out B10.out.ss R9L.out (by have := HML.out; omega) HS4.out
              unfold stv at this
              rwa [HTS9.out] at this)
            clear hb10 L9 B9 R9
            go_wp2_with fail
            refine HAM.out.mono ?_
            rintro e w11 ⟨rfl, hb11⟩
            have K11 := Lib.hid (K10.out.below hb11)
            have L11 := Lib.hid (L10.out.down (Nat.le_refl _) hb11)
            have B11 := Lib.hid (B10.out.below hb11)
            have R11 := Lib.hid (R10.out.below hb11)
            clear hb11 HAM K10 L10 B10 R10 HS4 HML
            obtain ⟨g10, hg10⟩ : ∃ g, g = w9.heap.size := ⟨_, rfl⟩
            rw [← hg10] at K11 NE10 ⊢
            clear hg10
            have hop := wopen_any L11.out.lk.dk L11.out.tb L11.out.lk.zo OW9.out.clean
            rw [OW9.out.lopen, show p9.v = .pointer (some ⟨pb, 0, none⟩) by unfold Fp.v; rw [HPB9.out]] at hop
            unfold ORes at hop
            dsimp only at hop
            rw [HTS9.out] at hop
            have HOP := Lib.hid hop
            clear hop
            go_wp2_with fail
            refine HOP.out.mono ?_
            rintro e w12 ⟨lv12, rv12, p12, rfl, hm12, hrow12, -, hok12, -⟩
            obtain ⟨b12, rfl, -, -, -⟩ := hok12 trivial
            have hlm12 := LM.of_mut L11.out.lk (Nat.lt_of_lt_of_le HZ.out L11.out.bw.size) hm12
            have kn12 := hm12.kin L11.out.lk.dk
            have L12 := Lib.hid (L11.out.lm (Nat.le_refl _) hlm12)
            have K12 := Lib.hid (kn12.bk K11.out (.inr (.inr (.inl rfl))))
            have B12 := Lib.hid (B11.out.kin kn12)
            have R12 := Lib.hid (kn12.rowS R11.out)
            have Q12 : Hid (RowS w12 rv12 s.2) := Lib.hid hrow12
            have HPB12 : Hid (p12.b = pb) := Lib.hid (hm12.2.1.trans HPB9.out)
            clear hm12 hrow12 hok12 hlm12 kn12 HOP K11 L11 B11 R11 HPB9
            obtain ⟨qa, qc, hq⟩ := Q12.out.shape
            generalize s.2.length = qn at hq
            subst hq
            have hsm := samer_any (.slice qa qn qc) (.slice r9a r9n r9c) s.2 s.2 w12 Q12.out R12.out R9L.out
            rw [decide_eq_true (rfl : s.2 = s.2)] at hsm
            have HSM := Lib.hid hsm
            clear hsm
            go_wp2_with fail
            refine HSM.out.mono ?_
            rintro e w13 ⟨rfl, hb13⟩
            have K13 := K12.out.below hb13
            have K5 := B12.out.k5.below hb13
            have L13 := L12.out.down (Nat.le_refl _) hb13
            have R13 := R12.out.below hb13
            have q0 := K13.cell 0
            have q1 := K13.cell 1
            have k50 := K5.cell 0
            have k51 := K5.cell 1
            have f50 := K5.fro 0
            have f51 := K5.fro 1
            simp only [List.getElem?_toArray, List.getElem?_cons_succ, List.getElem?_cons_zero] at q0 q1 k50 k51
            have L14 : Hid (LO w.heap.size w ((w13.setCell ⟨g5, 0, none⟩ (.string ts9)).setCell ⟨g5, 1, none⟩ (.slice r9a r9n r9c)) b9 p12 S9 l9) := Lib.hid (by
              obtain ⟨h1, h2⟩ := L13.lk.far K5 (.inr (.inr (.inl rfl)))
              exact ⟨⟨(L13.lk.blk.oth (a := ⟨g5, 0, none⟩) h1.symm).oth (a := ⟨g5, 1, none⟩) h1.symm, (L13.lk.dk.set h2 ⟨g5, 0, none⟩ rfl _).set h2 ⟨g5, 1, none⟩ rfl _, L13.lk.ne, L13.lk.zb, L13.lk.zo, L13.lk.ff, L13.lk.gg⟩, (L13.bw.setCell (show w.heap.size ≤ g5 from GW.out) _).setCell (show w.heap.size ≤ g5 from GW.out) _, L13.ob, L13.op, (L13.tb.only (L := [g5]) ((Only.refl _ _).setCell ⟨g5, 0, none⟩ (.inl (by simp)) _) (by have := GW.out; have := HZ.out; simp; omega)).only (L := [g5]) ((Only.refl _ _).setCell ⟨g5, 1, none⟩ (.inl (by simp)) _) (by have := GW.out; have := HZ.out; simp; omega)⟩)
            have K14 : Hid (Bk 67 ((w13.setCell ⟨g5, 0, none⟩ (.string ts9)).setCell ⟨g5, 1, none⟩ (.slice r9a r9n r9c)) g5 #[.string ⟨s.1.toArray⟩, .slice r9a r9n r9c]) := Lib.hid (by rw [HTS9.out]; exact K5.put2)
            have R14 : Hid (RowS ((w13.setCell ⟨g5, 0, none⟩ (.string ts9)).setCell ⟨g5, 1, none⟩ (.slice r9a r9n r9c)) (.slice r9a r9n r9c) s.2) := Lib.hid (R13.set2 K5 _ _)
            clear hb13 HSM K13 K5 L13 R13 K12 L12 B12 R12 Q12 R9L NE10
            go_wp2_with fail
            go_roundw
            case rel => exact ⟨i + 1, b9, p12, S9, l9, s.1, s.2, _, by omega, by go_num, rfl, L14, HPB12, OW9, HI9, K14, R14⟩
            case measure => simp [intOf]; omega
        · go_wp2_with fail
          have hrv := revive_any p4 S4 w4 D4.out.dk
          rw [show p4.v = .pointer (some ⟨pb, 0, none⟩) by unfold Fp.v; rw [HPB4.out]] at hrv
          refine hrv.mono ?_
          rintro e w5 ⟨rfl, hd5, ho5⟩
          have hm5 := mut_head hd5 ho5
          have D5 := Lib.hid (D4.out.mut (Nat.le_refl _) HZ.out hm5)
          have B5 := Lib.hid (B4.out.kin (hm5.kin D4.out.dk))
          have RD5 : Hid (LDown S4.revive s.1 s.2 ∧ S4.revive.gone = false) := Lib.hid ⟨HD4.out.power _ (by omega) (by omega), rfl⟩
          clear hrv hd5 ho5 hm5 D4 B4 HD4
          generalize S4.revive = S5 at D5 RD5
          have k72 := B5.out.k7.cell 2
          have k73 := B5.out.k7.cell 3
          simp only [List.getElem?_toArray, List.getElem?_cons_succ, List.getElem?_cons_zero] at k72 k73
          have fa : decide ((0 : Int) < xa) = false := decide_eq_false (by omega)
          clear hag
          have D6 := D5
          have B6 := B5
          have RD6 := RD5
          obtain ⟨w6, hw6⟩ : ∃ w, w = w5 := ⟨_, rfl⟩
          obtain ⟨S6, hS6⟩ : ∃ S, S = S5 := ⟨_, rfl⟩
          rw [← hw6, ← hS6] at D6
          rw [← hw6] at B6
          rw [← hS6] at RD6
          rw [← hw6] at k72 k73 ⊢
          clear hw6 hS6 D5 B5 RD5
          have hop := wopen_any D6.out.dk D6.out.tb (D6.out.zo HZ.out) RD6.out.1.still.clean
          have hlo := RD6.out.1.lopen RD6.out.2
          rw [show p4.v = .pointer (some ⟨pb, 0, none⟩) by unfold Fp.v; rw [HPB4.out]] at hop
          generalize lopen S6 = x6 at hop hlo
          obtain ⟨c6, ⟨l6, sn6, rs6⟩, S7⟩ := x6
          have HOP := Lib.hid hop
          have HLO := Lib.hid hlo
          clear hop hlo
          go_wp2_with fail
          refine HOP.out.mono ?_
          rintro e w7 ⟨lv7, rv7, p7, rfl, hm7, -, -, hok7, hno7⟩
          have D7 := Lib.hid (D6.out.mut (Nat.le_refl _) HZ.out hm7)
          have B7 := Lib.hid (B6.out.kin (hm7.kin D6.out.dk))
          have HPB7 : Hid (p7.b = pb) := Lib.hid (hm7.2.1.trans HPB4.out)
          simp only at hok7 hno7
          have HLV7 : Hid ((c6 = 0 ∧ ∃ b, lv7 = .pointer (some ⟨b, 0, none⟩)) ∨ (c6 = 2 ∧ lv7 = .pointer none)) := Lib.hid (by
            rcases HLO.out with ⟨h0, _⟩ | ⟨h0, _⟩
            · obtain ⟨b, e, _⟩ := hok7 h0
              exact .inl ⟨h0, b, e⟩
            · exact .inr ⟨h0, hno7 (by omega)⟩)
          have HRD : Hid (Ready S7.revive s.1 s.2) := Lib.hid (by
            rcases HLO.out with ⟨_, h2, h3, _⟩ | ⟨_, _, h3, _⟩
            · exact h3.ready_revive
            · exact h3.ready)
          clear hm7 hok7 hno7 D6 B6 RD6 HPB4 HOP HLO
          rcases HLV7.out with ⟨rfl, b7, rfl⟩ | ⟨rfl, rfl⟩
          · clear HLV7
            go_wp2_with fail
            have hrv := revive_any p7 S7 w7 D7.out.dk
            rw [show p7.v = .pointer (some ⟨pb, 0, none⟩) by unfold Fp.v; rw [HPB7.out]] at hrv
            refine hrv.mono ?_
            rintro e w8 ⟨rfl, hd8, ho8⟩
            have hm8 := mut_head hd8 ho8
            have D8 := Lib.hid (D7.out.mut (Nat.le_refl _) HZ.out hm8)
            have B8 := Lib.hid (B7.out.kin (hm8.kin D7.out.dk))
            clear hrv hd8 ho8 hm8 D7 B7
            generalize S7.revive = S8 at D8 HRD
            obtain ⟨l9, S9, hx9, how9, hi9⟩ := HRD.out.open
            have hop := wopen_any D8.out.dk D8.out.tb (D8.out.zo HZ.out) HRD.out.clean
            rw [hx9, show p7.v = .pointer (some ⟨pb, 0, none⟩) by unfold Fp.v; rw [HPB7.out]] at hop
            have HOP := Lib.hid hop
            have OW9 := Lib.hid how9
            have HI9 := Lib.hid hi9
            clear hop hx9 how9 hi9 HRD
            go_wp2_with fail
            refine HOP.out.mono ?_
            rintro e w9 ⟨lv9, rv9, p9, rfl, hm9, hrow9, hown9, hok9, -⟩
            obtain ⟨b9, rfl, hbs9, hlk9, -⟩ := hok9 rfl
            simp only at hm9 hrow9 hlk9
            have D9 := D8.out.mut (Nat.le_refl _) HZ.out hm9
            have L9 : Hid (LO w.heap.size w w9 b9 p9 S9 l9) := Lib.hid ⟨hlk9, D9.bw, Nat.le_trans D8.out.bw.size hbs9, D9.op, D9.tb⟩
            have B9 := Lib.hid (B8.out.kin (hm9.kin D8.out.dk))
            have HPB9 : Hid (p9.b = pb) := Lib.hid (hm9.2.1.trans HPB7.out)
            have R9 : Hid (RowS w9 rv9 s.2) := Lib.hid hrow9
            clear hm9 hrow9 hown9 hok9 hlk9 D9 D8 B8 HPB7 HOP hbs9
            obtain ⟨r9a, r9c, hrv9⟩ := R9.out.shape
            obtain ⟨r9n, hr9n⟩ : ∃ a, a = s.2.length := ⟨_, rfl⟩
            rw [← hr9n] at hrv9
            subst hrv9
            have hln9 : (l9.n : Int) = (r9n : Int) := by have := OW9.out.n; omega
            have R9L : Hid (s.2.length ≤ 4194304) := Lib.hid (by have h1 := OW9.out.many; have h2 := OW9.out.n; omega)
            clear hr9n
            go_wp2_with fail
            refine (records35 b9 _ _ _ _ _ w9 (Lib.hid L9.out.lk.blk)).mono ?_
            rintro e w10 ⟨rfl, rfl⟩
            rw [hln9]
            clear hln9
            generalize hts9 : (⟨s.1.toArray⟩ : ByteArray) = ts9
            have HTS9 := Lib.hid hts9
            clear hts9
            have hb10 : Below w9.heap.size w9 (w9.alloc (.cells #[.string ts9, .slice r9a r9n r9c] 67)) := by go_grown
            have K10 : Hid (Bk 67 (w9.alloc (.cells #[.string ts9, .slice r9a r9n r9c] 67)) w9.heap.size #[.string ts9, .slice r9a r9n r9c]) := Lib.hid (Bk.new rfl)
            have L10 := Lib.hid (L9.out.down (Nat.le_refl _) hb10)
            have B10 := Lib.hid (B9.out.below hb10)
            have R10 := Lib.hid (R9.out.below hb10)
            have NE10 : Hid (w9.heap.size ≠ g5) := Lib.hid (by have := B9.out.k5.lt; omega)
            have HAM : Hid (Calls Tryd.prog 36 #[.agg #[.string ts9, .slice r9a r9n r9c], .slice va2 vn2 vc2] (w9.alloc (.cells #[.string ts9, .slice r9a r9n r9c] 67)) fun e w' => e = .returned (.bool true) ∧ Below (w9.alloc (.cells #[.string ts9, .slice r9a r9n r9c] 67)).heap.size (w9.alloc (.cells #[.string ts9, .slice r9a r9n r9c] 67)) w') := Lib.hid (by
              have := among_any s (.slice r9a r9n r9c) (.slice va2 vn2 vc2) may _ R10.out B10.out.ss R9L.out (by have := HML.out; omega) HS4.out
              unfold stv at this
              rwa [HTS9.out] at this)
            clear hb10 L9 B9 R9
            go_wp2_with fail
            refine HAM.out.mono ?_
            rintro e w11 ⟨rfl, hb11⟩
            have K11 := Lib.hid (K10.out.below hb11)
            have L11 := Lib.hid (L10.out.down (Nat.le_refl _) hb11)
            have B11 := Lib.hid (B10.out.below hb11)
            have R11 := Lib.hid (R10.out.below hb11)
            clear hb11 HAM K10 L10 B10 R10 HS4 HML
            obtain ⟨g10, hg10⟩ : ∃ g, g = w9.heap.size := ⟨_, rfl⟩
            rw [← hg10] at K11 NE10 ⊢
            clear hg10
            have hop := wopen_any L11.out.lk.dk L11.out.tb L11.out.lk.zo OW9.out.clean
            rw [OW9.out.lopen, show p9.v = .pointer (some ⟨pb, 0, none⟩) by unfold Fp.v; rw [HPB9.out]] at hop
            unfold ORes at hop
            dsimp only at hop
            rw [HTS9.out] at hop
            have HOP := Lib.hid hop
            clear hop
            go_wp2_with fail
            refine HOP.out.mono ?_
            rintro e w12 ⟨lv12, rv12, p12, rfl, hm12, hrow12, -, hok12, -⟩
            obtain ⟨b12, rfl, -, -, -⟩ := hok12 trivial
            have hlm12 := LM.of_mut L11.out.lk (Nat.lt_of_lt_of_le HZ.out L11.out.bw.size) hm12
            have kn12 := hm12.kin L11.out.lk.dk
            have L12 := Lib.hid (L11.out.lm (Nat.le_refl _) hlm12)
            have K12 := Lib.hid (kn12.bk K11.out (.inr (.inr (.inl rfl))))
            have B12 := Lib.hid (B11.out.kin kn12)
            have R12 := Lib.hid (kn12.rowS R11.out)
            have Q12 : Hid (RowS w12 rv12 s.2) := Lib.hid hrow12
            have HPB12 : Hid (p12.b = pb) := Lib.hid (hm12.2.1.trans HPB9.out)
            clear hm12 hrow12 hok12 hlm12 kn12 HOP K11 L11 B11 R11 HPB9
            obtain ⟨qa, qc, hq⟩ := Q12.out.shape
            generalize s.2.length = qn at hq
            subst hq
            have hsm := samer_any (.slice qa qn qc) (.slice r9a r9n r9c) s.2 s.2 w12 Q12.out R12.out R9L.out
            rw [decide_eq_true (rfl : s.2 = s.2)] at hsm
            have HSM := Lib.hid hsm
            clear hsm
            go_wp2_with fail
            refine HSM.out.mono ?_
            rintro e w13 ⟨rfl, hb13⟩
            have K13 := K12.out.below hb13
            have K5 := B12.out.k5.below hb13
            have L13 := L12.out.down (Nat.le_refl _) hb13
            have R13 := R12.out.below hb13
            have q0 := K13.cell 0
            have q1 := K13.cell 1
            have k50 := K5.cell 0
            have k51 := K5.cell 1
            have f50 := K5.fro 0
            have f51 := K5.fro 1
            simp only [List.getElem?_toArray, List.getElem?_cons_succ, List.getElem?_cons_zero] at q0 q1 k50 k51
            have L14 : Hid (LO w.heap.size w ((w13.setCell ⟨g5, 0, none⟩ (.string ts9)).setCell ⟨g5, 1, none⟩ (.slice r9a r9n r9c)) b9 p12 S9 l9) := Lib.hid (by
              obtain ⟨h1, h2⟩ := L13.lk.far K5 (.inr (.inr (.inl rfl)))
              exact ⟨⟨(L13.lk.blk.oth (a := ⟨g5, 0, none⟩) h1.symm).oth (a := ⟨g5, 1, none⟩) h1.symm, (L13.lk.dk.set h2 ⟨g5, 0, none⟩ rfl _).set h2 ⟨g5, 1, none⟩ rfl _, L13.lk.ne, L13.lk.zb, L13.lk.zo, L13.lk.ff, L13.lk.gg⟩, (L13.bw.setCell (show w.heap.size ≤ g5 from GW.out) _).setCell (show w.heap.size ≤ g5 from GW.out) _, L13.ob, L13.op, (L13.tb.only (L := [g5]) ((Only.refl _ _).setCell ⟨g5, 0, none⟩ (.inl (by simp)) _) (by have := GW.out; have := HZ.out; simp; omega)).only (L := [g5]) ((Only.refl _ _).setCell ⟨g5, 1, none⟩ (.inl (by simp)) _) (by have := GW.out; have := HZ.out; simp; omega)⟩)
            have K14 : Hid (Bk 67 ((w13.setCell ⟨g5, 0, none⟩ (.string ts9)).setCell ⟨g5, 1, none⟩ (.slice r9a r9n r9c)) g5 #[.string ⟨s.1.toArray⟩, .slice r9a r9n r9c]) := Lib.hid (by rw [HTS9.out]; exact K5.put2)
            have R14 : Hid (RowS ((w13.setCell ⟨g5, 0, none⟩ (.string ts9)).setCell ⟨g5, 1, none⟩ (.slice r9a r9n r9c)) (.slice r9a r9n r9c) s.2) := Lib.hid (R13.set2 K5 _ _)
            clear hb13 HSM K13 K5 L13 R13 K12 L12 B12 R12 Q12 R9L NE10
            go_wp2_with fail
            go_roundw
            case rel => exact ⟨i + 1, b9, p12, S9, l9, s.1, s.2, _, by omega, by go_num, rfl, L14, HPB12, OW9, HI9, K14, R14⟩
            case measure => simp [intOf]; omega
          · clear HLV7
            go_wp2_with fail
            have hrv := revive_any p7 S7 w7 D7.out.dk
            rw [show p7.v = .pointer (some ⟨pb, 0, none⟩) by unfold Fp.v; rw [HPB7.out]] at hrv
            refine hrv.mono ?_
            rintro e w8 ⟨rfl, hd8, ho8⟩
            have hm8 := mut_head hd8 ho8
            have D8 := Lib.hid (D7.out.mut (Nat.le_refl _) HZ.out hm8)
            have B8 := Lib.hid (B7.out.kin (hm8.kin D7.out.dk))
            clear hrv hd8 ho8 hm8 D7 B7
            generalize S7.revive = S8 at D8 HRD
            obtain ⟨l9, S9, hx9, how9, hi9⟩ := HRD.out.open
            have hop := wopen_any D8.out.dk D8.out.tb (D8.out.zo HZ.out) HRD.out.clean
            rw [hx9, show p7.v = .pointer (some ⟨pb, 0, none⟩) by unfold Fp.v; rw [HPB7.out]] at hop
            have HOP := Lib.hid hop
            have OW9 := Lib.hid how9
            have HI9 := Lib.hid hi9
            clear hop hx9 how9 hi9 HRD
            go_wp2_with fail
            refine HOP.out.mono ?_
            rintro e w9 ⟨lv9, rv9, p9, rfl, hm9, hrow9, hown9, hok9, -⟩
            obtain ⟨b9, rfl, hbs9, hlk9, -⟩ := hok9 rfl
            simp only at hm9 hrow9 hlk9
            have D9 := D8.out.mut (Nat.le_refl _) HZ.out hm9
            have L9 : Hid (LO w.heap.size w w9 b9 p9 S9 l9) := Lib.hid ⟨hlk9, D9.bw, Nat.le_trans D8.out.bw.size hbs9, D9.op, D9.tb⟩
            have B9 := Lib.hid (B8.out.kin (hm9.kin D8.out.dk))
            have HPB9 : Hid (p9.b = pb) := Lib.hid (hm9.2.1.trans HPB7.out)
            have R9 : Hid (RowS w9 rv9 s.2) := Lib.hid hrow9
            clear hm9 hrow9 hown9 hok9 hlk9 D9 D8 B8 HPB7 HOP hbs9
            obtain ⟨r9a, r9c, hrv9⟩ := R9.out.shape
            obtain ⟨r9n, hr9n⟩ : ∃ a, a = s.2.length := ⟨_, rfl⟩
            rw [← hr9n] at hrv9
            subst hrv9
            have hln9 : (l9.n : Int) = (r9n : Int) := by have := OW9.out.n; omega
            have R9L : Hid (s.2.length ≤ 4194304) := Lib.hid (by have h1 := OW9.out.many; have h2 := OW9.out.n; omega)
            clear hr9n
            go_wp2_with fail
            refine (records35 b9 _ _ _ _ _ w9 (Lib.hid L9.out.lk.blk)).mono ?_
            rintro e w10 ⟨rfl, rfl⟩
            rw [hln9]
            clear hln9
            generalize hts9 : (⟨s.1.toArray⟩ : ByteArray) = ts9
            have HTS9 := Lib.hid hts9
            clear hts9
            have hb10 : Below w9.heap.size w9 (w9.alloc (.cells #[.string ts9, .slice r9a r9n r9c] 67)) := by go_grown
            have K10 : Hid (Bk 67 (w9.alloc (.cells #[.string ts9, .slice r9a r9n r9c] 67)) w9.heap.size #[.string ts9, .slice r9a r9n r9c]) := Lib.hid (Bk.new rfl)
            have L10 := Lib.hid (L9.out.down (Nat.le_refl _) hb10)
            have B10 := Lib.hid (B9.out.below hb10)
            have R10 := Lib.hid (R9.out.below hb10)
            have NE10 : Hid (w9.heap.size ≠ g5) := Lib.hid (by have := B9.out.k5.lt; omega)
            have HAM : Hid (Calls Tryd.prog 36 #[.agg #[.string ts9, .slice r9a r9n r9c], .slice va2 vn2 vc2] (w9.alloc (.cells #[.string ts9, .slice r9a r9n r9c] 67)) fun e w' => e = .returned (.bool true) ∧ Below (w9.alloc (.cells #[.string ts9, .slice r9a r9n r9c] 67)).heap.size (w9.alloc (.cells #[.string ts9, .slice r9a r9n r9c] 67)) w') := Lib.hid (by
              have := among_any s (.slice r9a r9n r9c) (.slice va2 vn2 vc2) may _ R10.out B10.out.ss R9L.out (by have := HML.out; omega) HS4.out
              unfold stv at this
              rwa [HTS9.out] at this)
            clear hb10 L9 B9 R9
            go_wp2_with fail
            refine HAM.out.mono ?_
            rintro e w11 ⟨rfl, hb11⟩
            have K11 := Lib.hid (K10.out.below hb11)
            have L11 := Lib.hid (L10.out.down (Nat.le_refl _) hb11)
            have B11 := Lib.hid (B10.out.below hb11)
            have R11 := Lib.hid (R10.out.below hb11)
            clear hb11 HAM K10 L10 B10 R10 HS4 HML
            obtain ⟨g10, hg10⟩ : ∃ g, g = w9.heap.size := ⟨_, rfl⟩
            rw [← hg10] at K11 NE10 ⊢
            clear hg10
            have hop := wopen_any L11.out.lk.dk L11.out.tb L11.out.lk.zo OW9.out.clean
            rw [OW9.out.lopen, show p9.v = .pointer (some ⟨pb, 0, none⟩) by unfold Fp.v; rw [HPB9.out]] at hop
            unfold ORes at hop
            dsimp only at hop
            rw [HTS9.out] at hop
            have HOP := Lib.hid hop
            clear hop
            go_wp2_with fail
            refine HOP.out.mono ?_
            rintro e w12 ⟨lv12, rv12, p12, rfl, hm12, hrow12, -, hok12, -⟩
            obtain ⟨b12, rfl, -, -, -⟩ := hok12 trivial
            have hlm12 := LM.of_mut L11.out.lk (Nat.lt_of_lt_of_le HZ.out L11.out.bw.size) hm12
            have kn12 := hm12.kin L11.out.lk.dk
            have L12 := Lib.hid (L11.out.lm (Nat.le_refl _) hlm12)
            have K12 := Lib.hid (kn12.bk K11.out (.inr (.inr (.inl rfl))))
            have B12 := Lib.hid (B11.out.kin kn12)
            have R12 := Lib.hid (kn12.rowS R11.out)
            have Q12 : Hid (RowS w12 rv12 s.2) := Lib.hid hrow12
            have HPB12 : Hid (p12.b = pb) := Lib.hid (hm12.2.1.trans HPB9.out)
            clear hm12 hrow12 hok12 hlm12 kn12 HOP K11 L11 B11 R11 HPB9
            obtain ⟨qa, qc, hq⟩ := Q12.out.shape
            generalize s.2.length = qn at hq
            subst hq
            have hsm := samer_any (.slice qa qn qc) (.slice r9a r9n r9c) s.2 s.2 w12 Q12.out R12.out R9L.out
            rw [decide_eq_true (rfl : s.2 = s.2)] at hsm
            have HSM := Lib.hid hsm
            clear hsm
            go_wp2_with fail
            refine HSM.out.mono ?_
            rintro e w13 ⟨rfl, hb13⟩
            have K13 := K12.out.below hb13
            have K5 := B12.out.k5.below hb13
            have L13 := L12.out.down (Nat.le_refl _) hb13
            have R13 := R12.out.below hb13
            have q0 := K13.cell 0
            have q1 := K13.cell 1
            have k50 := K5.cell 0
            have k51 := K5.cell 1
            have f50 := K5.fro 0
            have f51 := K5.fro 1
            simp only [List.getElem?_toArray, List.getElem?_cons_succ, List.getElem?_cons_zero] at q0 q1 k50 k51
            have L14 : Hid (LO w.heap.size w ((w13.setCell ⟨g5, 0, none⟩ (.string ts9)).setCell ⟨g5, 1, none⟩ (.slice r9a r9n r9c)) b9 p12 S9 l9) := Lib.hid (by
              obtain ⟨h1, h2⟩ := L13.lk.far K5 (.inr (.inr (.inl rfl)))
              exact ⟨⟨(L13.lk.blk.oth (a := ⟨g5, 0, none⟩) h1.symm).oth (a := ⟨g5, 1, none⟩) h1.symm, (L13.lk.dk.set h2 ⟨g5, 0, none⟩ rfl _).set h2 ⟨g5, 1, none⟩ rfl _, L13.lk.ne, L13.lk.zb, L13.lk.zo, L13.lk.ff, L13.lk.gg⟩, (L13.bw.setCell (show w.heap.size ≤ g5 from GW.out) _).setCell (show w.heap.size ≤ g5 from GW.out) _, L13.ob, L13.op, (L13.tb.only (L := [g5]) ((Only.refl _ _).setCell ⟨g5, 0, none⟩ (.inl (by simp)) _) (by have := GW.out; have := HZ.out; simp; omega)).only (L := [g5]) ((Only.refl _ _).setCell ⟨g5, 1, none⟩ (.inl (by simp)) _) (by have := GW.out; have := HZ.out; simp; omega)⟩)
            have K14 : Hid (Bk 67 ((w13.setCell ⟨g5, 0, none⟩ (.string ts9)).setCell ⟨g5, 1, none⟩ (.slice r9a r9n r9c)) g5 #[.string ⟨s.1.toArray⟩, .slice r9a r9n r9c]) := Lib.hid (by rw [HTS9.out]; exact K5.put2)
            have R14 : Hid (RowS ((w13.setCell ⟨g5, 0, none⟩ (.string ts9)).setCell ⟨g5, 1, none⟩ (.slice r9a r9n r9c)) (.slice r9a r9n r9c) s.2) := Lib.hid (R13.set2 K5 _ _)
            clear hb13 HSM K13 K5 L13 R13 K12 L12 B12 R12 Q12 R9L NE10
            go_wp2_with fail
            go_roundw
            case rel => exact ⟨i + 1, b9, p12, S9, l9, s.1, s.2, _, by omega, by go_num, rfl, L14, HPB12, OW9, HI9, K14, R14⟩
            case measure => simp [intOf]; omega
      · obtain ⟨hg3, -, s, hdn, hsm⟩ := hle
        have HD4 := Lib.hid hdn
        have HS4 := Lib.hid hsm
        rw [hg3] at HDD
        clear hg3 hdn hsm HLE
        go_wp2_with fail
        refine HDD.out.mono ?_
        rintro e w4 ⟨rfl, rfl⟩
        have D4 := D3
        have B4 := B3
        have HPB4 := HPB3
        obtain ⟨w4, hw4⟩ : ∃ w, w = w3 := ⟨_, rfl⟩
        obtain ⟨p4, hp4⟩ : ∃ p, p = p3 := ⟨_, rfl⟩
        obtain ⟨S4, hS4⟩ : ∃ S, S = S3 := ⟨_, rfl⟩
        rw [← hw4, ← hp4, ← hS4] at D4
        rw [← hw4] at B4
        rw [← hp4] at HPB4
        rw [← hS4] at HD4
        rw [← hw4]
        clear hw4 hp4 hS4 D3 B3 HPB3 HDD k72 k73
        by_cases hag : 0 < xa
        · go_wp2_with fail
          have hrv := revive_any p4 S4 w4 D4.out.dk
          rw [show p4.v = .pointer (some ⟨pb, 0, none⟩) by unfold Fp.v; rw [HPB4.out]] at hrv
          refine hrv.mono ?_
          rintro e w5 ⟨rfl, hd5, ho5⟩
          have hm5 := mut_head hd5 ho5
          have D5 := Lib.hid (D4.out.mut (Nat.le_refl _) HZ.out hm5)
          have B5 := Lib.hid (B4.out.kin (hm5.kin D4.out.dk))
          have RD5 : Hid (LDown S4.revive s.1 s.2 ∧ S4.revive.gone = false) := Lib.hid ⟨HD4.out.power _ (by omega) (by omega), rfl⟩
          clear hrv hd5 ho5 hm5 D4 B4 HD4
          generalize S4.revive = S5 at D5 RD5
          have k72 := B5.out.k7.cell 2
          have k73 := B5.out.k7.cell 3
          simp only [List.getElem?_toArray, List.getElem?_cons_succ, List.getElem?_cons_zero] at k72 k73
          have fa : decide ((0 : Int) < xa) = true := decide_eq_true hag
          have harm := arm_any p4 S5 xa (max 0 xk) HXB.out.2.2 (by have := HXB.out.2.1; omega) w5 D5.out.dk
          rw [arm_pos RD5.out.2 hag, show p4.v = .pointer (some ⟨pb, 0, none⟩) by unfold Fp.v; rw [HPB4.out]] at harm
          have HARM := Lib.hid harm
          clear harm hag
          go_wp2_with fail
          refine HARM.out.mono ?_
          rintro e w6 ⟨rfl, hd6, ho6⟩
          have hm6 := mut_head hd6 ho6
          have D6 := Lib.hid (D5.out.mut (Nat.le_refl _) HZ.out hm6)
          have B6 := Lib.hid (B5.out.kin (hm6.kin D5.out.dk))
          have RD6 : Hid (LDown (S5.power false xa.toNat (max 0 xk).toNat) s.1 s.2 ∧ (S5.power false xa.toNat (max 0 xk).toNat).gone = false) := Lib.hid ⟨RD5.out.1.power _ (by have := HXB.out.2.2; omega) (by have := HXB.out.2.1; omega), rfl⟩
          clear hd6 ho6 hm6 D5 B5 RD5 HARM k72 k73 fa
          generalize S5.power false xa.toNat (max 0 xk).toNat = S6 at D6 RD6
          have hop := wopen_any D6.out.dk D6.out.tb (D6.out.zo HZ.out) RD6.out.1.still.clean
          have hlo := RD6.out.1.lopen RD6.out.2
          rw [show p4.v = .pointer (some ⟨pb, 0, none⟩) by unfold Fp.v; rw [HPB4.out]] at hop
          generalize lopen S6 = x6 at hop hlo
          obtain ⟨c6, ⟨l6, sn6, rs6⟩, S7⟩ := x6
          have HOP := Lib.hid hop
          have HLO := Lib.hid hlo
          clear hop hlo
          go_wp2_with fail
          refine HOP.out.mono ?_
          rintro e w7 ⟨lv7, rv7, p7, rfl, hm7, -, -, hok7, hno7⟩
          have D7 := Lib.hid (D6.out.mut (Nat.le_refl _) HZ.out hm7)
          have B7 := Lib.hid (B6.out.kin (hm7.kin D6.out.dk))
          have HPB7 : Hid (p7.b = pb) := Lib.hid (hm7.2.1.trans HPB4.out)
          simp only at hok7 hno7
          have HLV7 : Hid ((c6 = 0 ∧ ∃ b, lv7 = .pointer (some ⟨b, 0, none⟩)) ∨ (c6 = 2 ∧ lv7 = .pointer none)) := Lib.hid (by
            rcases HLO.out with ⟨h0, _⟩ | ⟨h0, _⟩
            · obtain ⟨b, e, _⟩ := hok7 h0
              exact .inl ⟨h0, b, e⟩
            · exact .inr ⟨h0, hno7 (by omega)⟩)
          have HRD : Hid (Ready S7.revive s.1 s.2) := Lib.hid (by
            rcases HLO.out with ⟨_, h2, h3, _⟩ | ⟨_, _, h3, _⟩
            · exact h3.ready_revive
            · exact h3.ready)
          clear hm7 hok7 hno7 D6 B6 RD6 HPB4 HOP HLO
          rcases HLV7.out with ⟨rfl, b7, rfl⟩ | ⟨rfl, rfl⟩
          · clear HLV7
            go_wp2_with fail
            have hrv := revive_any p7 S7 w7 D7.out.dk
            rw [show p7.v = .pointer (some ⟨pb, 0, none⟩) by unfold Fp.v; rw [HPB7.out]] at hrv
            refine hrv.mono ?_
            rintro e w8 ⟨rfl, hd8, ho8⟩
            have hm8 := mut_head hd8 ho8
            have D8 := Lib.hid (D7.out.mut (Nat.le_refl _) HZ.out hm8)
            have B8 := Lib.hid (B7.out.kin (hm8.kin D7.out.dk))
            clear hrv hd8 ho8 hm8 D7 B7
            generalize S7.revive = S8 at D8 HRD
            obtain ⟨l9, S9, hx9, how9, hi9⟩ := HRD.out.open
            have hop := wopen_any D8.out.dk D8.out.tb (D8.out.zo HZ.out) HRD.out.clean
            rw [hx9, show p7.v = .pointer (some ⟨pb, 0, none⟩) by unfold Fp.v; rw [HPB7.out]] at hop
            have HOP := Lib.hid hop
            have OW9 := Lib.hid how9
            have HI9 := Lib.hid hi9
            clear hop hx9 how9 hi9 HRD
            go_wp2_with fail
            refine HOP.out.mono ?_
            rintro e w9 ⟨lv9, rv9, p9, rfl, hm9, hrow9, hown9, hok9, -⟩
            obtain ⟨b9, rfl, hbs9, hlk9, -⟩ := hok9 rfl
            simp only at hm9 hrow9 hlk9
            have D9 := D8.out.mut (Nat.le_refl _) HZ.out hm9
            have L9 : Hid (LO w.heap.size w w9 b9 p9 S9 l9) := Lib.hid ⟨hlk9, D9.bw, Nat.le_trans D8.out.bw.size hbs9, D9.op, D9.tb⟩
            have B9 := Lib.hid (B8.out.kin (hm9.kin D8.out.dk))
            have HPB9 : Hid (p9.b = pb) := Lib.hid (hm9.2.1.trans HPB7.out)
            have R9 : Hid (RowS w9 rv9 s.2) := Lib.hid hrow9
            clear hm9 hrow9 hown9 hok9 hlk9 D9 D8 B8 HPB7 HOP hbs9
            obtain ⟨r9a, r9c, hrv9⟩ := R9.out.shape
            obtain ⟨r9n, hr9n⟩ : ∃ a, a = s.2.length := ⟨_, rfl⟩
            rw [← hr9n] at hrv9
            subst hrv9
            have hln9 : (l9.n : Int) = (r9n : Int) := by have := OW9.out.n; omega
            have R9L : Hid (s.2.length ≤ 4194304) := Lib.hid (by have h1 := OW9.out.many; have h2 := OW9.out.n; omega)
            clear hr9n
            go_wp2_with fail
            refine (records35 b9 _ _ _ _ _ w9 (Lib.hid L9.out.lk.blk)).mono ?_
            rintro e w10 ⟨rfl, rfl⟩
            rw [hln9]
            clear hln9
            generalize hts9 : (⟨s.1.toArray⟩ : ByteArray) = ts9
            have HTS9 := Lib.hid hts9
            clear hts9
            have hb10 : Below w9.heap.size w9 (w9.alloc (.cells #[.string ts9, .slice r9a r9n r9c] 67)) := by go_grown
            have K10 : Hid (Bk 67 (w9.alloc (.cells #[.string ts9, .slice r9a r9n r9c] 67)) w9.heap.size #[.string ts9, .slice r9a r9n r9c]) := Lib.hid (Bk.new rfl)
            have L10 := Lib.hid (L9.out.down (Nat.le_refl _) hb10)
            have B10 := Lib.hid (B9.out.below hb10)
            have R10 := Lib.hid (R9.out.below hb10)
            have NE10 : Hid (w9.heap.size ≠ g5) := Lib.hid (by have := B9.out.k5.lt; omega)
            have HAM : Hid (Calls Tryd.prog 36 #[.agg #[.string ts9, .slice r9a r9n r9c], .slice va2 vn2 vc2] (w9.alloc (.cells #[.string ts9, .slice r9a r9n r9c] 67)) fun e w' => e = .returned (.bool true) ∧ Below (w9.alloc (.cells #[.string ts9, .slice r9a r9n r9c] 67)).heap.size (w9.alloc (.cells #[.string ts9, .slice r9a r9n r9c] 67)) w') := Lib.hid (by
              have := among_any s (.slice r9a r9n r9c) (.slice va2 vn2 vc2) may _ R10.out B10.out.ss R9L.out (by have := HML.out; omega) HS4.out
              unfold stv at this
              rwa [HTS9.out] at this)
            clear hb10 L9 B9 R9
            go_wp2_with fail
            refine HAM.out.mono ?_
            rintro e w11 ⟨rfl, hb11⟩
            have K11 := Lib.hid (K10.out.below hb11)
            have L11 := Lib.hid (L10.out.down (Nat.le_refl _) hb11)
            have B11 := Lib.hid (B10.out.below hb11)
            have R11 := Lib.hid (R10.out.below hb11)
            clear hb11 HAM K10 L10 B10 R10 HS4 HML
            obtain ⟨g10, hg10⟩ : ∃ g, g = w9.heap.size := ⟨_, rfl⟩
            rw [← hg10] at K11 NE10 ⊢
            clear hg10
            have hop := wopen_any L11.out.lk.dk L11.out.tb L11.out.lk.zo OW9.out.clean
            rw [OW9.out.lopen, show p9.v = .pointer (some ⟨pb, 0, none⟩) by unfold Fp.v; rw [HPB9.out]] at hop
            unfold ORes at hop
            dsimp only at hop
            rw [HTS9.out] at hop
            have HOP := Lib.hid hop
            clear hop
            go_wp2_with fail
            refine HOP.out.mono ?_
            rintro e w12 ⟨lv12, rv12, p12, rfl, hm12, hrow12, -, hok12, -⟩
            obtain ⟨b12, rfl, -, -, -⟩ := hok12 trivial
            have hlm12 := LM.of_mut L11.out.lk (Nat.lt_of_lt_of_le HZ.out L11.out.bw.size) hm12
            have kn12 := hm12.kin L11.out.lk.dk
            have L12 := Lib.hid (L11.out.lm (Nat.le_refl _) hlm12)
            have K12 := Lib.hid (kn12.bk K11.out (.inr (.inr (.inl rfl))))
            have B12 := Lib.hid (B11.out.kin kn12)
            have R12 := Lib.hid (kn12.rowS R11.out)
            have Q12 : Hid (RowS w12 rv12 s.2) := Lib.hid hrow12
            have HPB12 : Hid (p12.b = pb) := Lib.hid (hm12.2.1.trans HPB9.out)
            clear hm12 hrow12 hok12 hlm12 kn12 HOP K11 L11 B11 R11 HPB9
            obtain ⟨qa, qc, hq⟩ := Q12.out.shape
            generalize s.2.length = qn at hq
            subst hq
            have hsm := samer_any (.slice qa qn qc) (.slice r9a r9n r9c) s.2 s.2 w12 Q12.out R12.out R9L.out
            rw [decide_eq_true (rfl : s.2 = s.2)] at hsm
            have HSM := Lib.hid hsm
            clear hsm
            go_wp2_with fail
            refine HSM.out.mono ?_
            rintro e w13 ⟨rfl, hb13⟩
            have K13 := K12.out.below hb13
            have K5 := B12.out.k5.below hb13
            have L13 := L12.out.down (Nat.le_refl _) hb13
            have R13 := R12.out.below hb13
            have q0 := K13.cell 0
            have q1 := K13.cell 1
            have k50 := K5.cell 0
            have k51 := K5.cell 1
            have f50 := K5.fro 0
            have f51 := K5.fro 1
            simp only [List.getElem?_toArray, List.getElem?_cons_succ, List.getElem?_cons_zero] at q0 q1 k50 k51
            have L14 : Hid (LO w.heap.size w ((w13.setCell ⟨g5, 0, none⟩ (.string ts9)).setCell ⟨g5, 1, none⟩ (.slice r9a r9n r9c)) b9 p12 S9 l9) := Lib.hid (by
              obtain ⟨h1, h2⟩ := L13.lk.far K5 (.inr (.inr (.inl rfl)))
              exact ⟨⟨(L13.lk.blk.oth (a := ⟨g5, 0, none⟩) h1.symm).oth (a := ⟨g5, 1, none⟩) h1.symm, (L13.lk.dk.set h2 ⟨g5, 0, none⟩ rfl _).set h2 ⟨g5, 1, none⟩ rfl _, L13.lk.ne, L13.lk.zb, L13.lk.zo, L13.lk.ff, L13.lk.gg⟩, (L13.bw.setCell (show w.heap.size ≤ g5 from GW.out) _).setCell (show w.heap.size ≤ g5 from GW.out) _, L13.ob, L13.op, (L13.tb.only (L := [g5]) ((Only.refl _ _).setCell ⟨g5, 0, none⟩ (.inl (by simp)) _) (by have := GW.out; have := HZ.out; simp; omega)).only (L := [g5]) ((Only.refl _ _).setCell ⟨g5, 1, none⟩ (.inl (by simp)) _) (by have := GW.out; have := HZ.out; simp; omega)⟩)
            have K14 : Hid (Bk 67 ((w13.setCell ⟨g5, 0, none⟩ (.string ts9)).setCell ⟨g5, 1, none⟩ (.slice r9a r9n r9c)) g5 #[.string ⟨s.1.toArray⟩, .slice r9a r9n r9c]) := Lib.hid (by rw [HTS9.out]; exact K5.put2)
            have R14 : Hid (RowS ((w13.setCell ⟨g5, 0, none⟩ (.string ts9)).setCell ⟨g5, 1, none⟩ (.slice r9a r9n r9c)) (.slice r9a r9n r9c) s.2) := Lib.hid (R13.set2 K5 _ _)
            clear hb13 HSM K13 K5 L13 R13 K12 L12 B12 R12 Q12 R9L NE10
            go_wp2_with fail
            go_roundw
            case rel => exact ⟨i + 1, b9, p12, S9, l9, s.1, s.2, _, by omega, by go_num, rfl, L14, HPB12, OW9, HI9, K14, R14⟩
            case measure => simp [intOf]; omega
          · clear HLV7
            go_wp2_with fail
            have hrv := revive_any p7 S7 w7 D7.out.dk
            rw [show p7.v = .pointer (some ⟨pb, 0, none⟩) by unfold Fp.v; rw [HPB7.out]] at hrv
            refine hrv.mono ?_
            rintro e w8 ⟨rfl, hd8, ho8⟩
            have hm8 := mut_head hd8 ho8
            have D8 := Lib.hid (D7.out.mut (Nat.le_refl _) HZ.out hm8)
            have B8 := Lib.hid (B7.out.kin (hm8.kin D7.out.dk))
            clear hrv hd8 ho8 hm8 D7 B7
            generalize S7.revive = S8 at D8 HRD
            obtain ⟨l9, S9, hx9, how9, hi9⟩ := HRD.out.open
            have hop := wopen_any D8.out.dk D8.out.tb (D8.out.zo HZ.out) HRD.out.clean
            rw [hx9, show p7.v = .pointer (some ⟨pb, 0, none⟩) by unfold Fp.v; rw [HPB7.out]] at hop
            have HOP := Lib.hid hop
            have OW9 := Lib.hid how9
            have HI9 := Lib.hid hi9
            clear hop hx9 how9 hi9 HRD
            go_wp2_with fail
            refine HOP.out.mono ?_
            rintro e w9 ⟨lv9, rv9, p9, rfl, hm9, hrow9, hown9, hok9, -⟩
            obtain ⟨b9, rfl, hbs9, hlk9, -⟩ := hok9 rfl
            simp only at hm9 hrow9 hlk9
            have D9 := D8.out.mut (Nat.le_refl _) HZ.out hm9
            have L9 : Hid (LO w.heap.size w w9 b9 p9 S9 l9) := Lib.hid ⟨hlk9, D9.bw, Nat.le_trans D8.out.bw.size hbs9, D9.op, D9.tb⟩
            have B9 := Lib.hid (B8.out.kin (hm9.kin D8.out.dk))
            have HPB9 : Hid (p9.b = pb) := Lib.hid (hm9.2.1.trans HPB7.out)
            have R9 : Hid (RowS w9 rv9 s.2) := Lib.hid hrow9
            clear hm9 hrow9 hown9 hok9 hlk9 D9 D8 B8 HPB7 HOP hbs9
            obtain ⟨r9a, r9c, hrv9⟩ := R9.out.shape
            obtain ⟨r9n, hr9n⟩ : ∃ a, a = s.2.length := ⟨_, rfl⟩
            rw [← hr9n] at hrv9
            subst hrv9
            have hln9 : (l9.n : Int) = (r9n : Int) := by have := OW9.out.n; omega
            have R9L : Hid (s.2.length ≤ 4194304) := Lib.hid (by have h1 := OW9.out.many; have h2 := OW9.out.n; omega)
            clear hr9n
            go_wp2_with fail
            refine (records35 b9 _ _ _ _ _ w9 (Lib.hid L9.out.lk.blk)).mono ?_
            rintro e w10 ⟨rfl, rfl⟩
            rw [hln9]
            clear hln9
            generalize hts9 : (⟨s.1.toArray⟩ : ByteArray) = ts9
            have HTS9 := Lib.hid hts9
            clear hts9
            have hb10 : Below w9.heap.size w9 (w9.alloc (.cells #[.string ts9, .slice r9a r9n r9c] 67)) := by go_grown
            have K10 : Hid (Bk 67 (w9.alloc (.cells #[.string ts9, .slice r9a r9n r9c] 67)) w9.heap.size #[.string ts9, .slice r9a r9n r9c]) := Lib.hid (Bk.new rfl)
            have L10 := Lib.hid (L9.out.down (Nat.le_refl _) hb10)
            have B10 := Lib.hid (B9.out.below hb10)
            have R10 := Lib.hid (R9.out.below hb10)
            have NE10 : Hid (w9.heap.size ≠ g5) := Lib.hid (by have := B9.out.k5.lt; omega)
            have HAM : Hid (Calls Tryd.prog 36 #[.agg #[.string ts9, .slice r9a r9n r9c], .slice va2 vn2 vc2] (w9.alloc (.cells #[.string ts9, .slice r9a r9n r9c] 67)) fun e w' => e = .returned (.bool true) ∧ Below (w9.alloc (.cells #[.string ts9, .slice r9a r9n r9c] 67)).heap.size (w9.alloc (.cells #[.string ts9, .slice r9a r9n r9c] 67)) w') := Lib.hid (by
              have := among_any s (.slice r9a r9n r9c) (.slice va2 vn2 vc2) may _ R10.out B10.out.ss R9L.out (by have := HML.out; omega) HS4.out
              unfold stv at this
              rwa [HTS9.out] at this)
            clear hb10 L9 B9 R9
            go_wp2_with fail
            refine HAM.out.mono ?_
            rintro e w11 ⟨rfl, hb11⟩
            have K11 := Lib.hid (K10.out.below hb11)
            have L11 := Lib.hid (L10.out.down (Nat.le_refl _) hb11)
            have B11 := Lib.hid (B10.out.below hb11)
            have R11 := Lib.hid (R10.out.below hb11)
            clear hb11 HAM K10 L10 B10 R10 HS4 HML
            obtain ⟨g10, hg10⟩ : ∃ g, g = w9.heap.size := ⟨_, rfl⟩
            rw [← hg10] at K11 NE10 ⊢
            clear hg10
            have hop := wopen_any L11.out.lk.dk L11.out.tb L11.out.lk.zo OW9.out.clean
            rw [OW9.out.lopen, show p9.v = .pointer (some ⟨pb, 0, none⟩) by unfold Fp.v; rw [HPB9.out]] at hop
            unfold ORes at hop
            dsimp only at hop
            rw [HTS9.out] at hop
            have HOP := Lib.hid hop
            clear hop
            go_wp2_with fail
            refine HOP.out.mono ?_
            rintro e w12 ⟨lv12, rv12, p12, rfl, hm12, hrow12, -, hok12, -⟩
            obtain ⟨b12, rfl, -, -, -⟩ := hok12 trivial
            have hlm12 := LM.of_mut L11.out.lk (Nat.lt_of_lt_of_le HZ.out L11.out.bw.size) hm12
            have kn12 := hm12.kin L11.out.lk.dk
            have L12 := Lib.hid (L11.out.lm (Nat.le_refl _) hlm12)
            have K12 := Lib.hid (kn12.bk K11.out (.inr (.inr (.inl rfl))))
            have B12 := Lib.hid (B11.out.kin kn12)
            have R12 := Lib.hid (kn12.rowS R11.out)
            have Q12 : Hid (RowS w12 rv12 s.2) := Lib.hid hrow12
            have HPB12 : Hid (p12.b = pb) := Lib.hid (hm12.2.1.trans HPB9.out)
            clear hm12 hrow12 hok12 hlm12 kn12 HOP K11 L11 B11 R11 HPB9
            obtain ⟨qa, qc, hq⟩ := Q12.out.shape
            generalize s.2.length = qn at hq
            subst hq
            have hsm := samer_any (.slice qa qn qc) (.slice r9a r9n r9c) s.2 s.2 w12 Q12.out R12.out R9L.out
            rw [decide_eq_true (rfl : s.2 = s.2)] at hsm
            have HSM := Lib.hid hsm
            clear hsm
            go_wp2_with fail
            refine HSM.out.mono ?_
            rintro e w13 ⟨rfl, hb13⟩
            have K13 := K12.out.below hb13
            have K5 := B12.out.k5.below hb13
            have L13 := L12.out.down (Nat.le_refl _) hb13
            have R13 := R12.out.below hb13
            have q0 := K13.cell 0
            have q1 := K13.cell 1
            have k50 := K5.cell 0
            have k51 := K5.cell 1
            have f50 := K5.fro 0
            have f51 := K5.fro 1
            simp only [List.getElem?_toArray, List.getElem?_cons_succ, List.getElem?_cons_zero] at q0 q1 k50 k51
            have L14 : Hid (LO w.heap.size w ((w13.setCell ⟨g5, 0, none⟩ (.string ts9)).setCell ⟨g5, 1, none⟩ (.slice r9a r9n r9c)) b9 p12 S9 l9) := Lib.hid (by
              obtain ⟨h1, h2⟩ := L13.lk.far K5 (.inr (.inr (.inl rfl)))
              exact ⟨⟨(L13.lk.blk.oth (a := ⟨g5, 0, none⟩) h1.symm).oth (a := ⟨g5, 1, none⟩) h1.symm, (L13.lk.dk.set h2 ⟨g5, 0, none⟩ rfl _).set h2 ⟨g5, 1, none⟩ rfl _, L13.lk.ne, L13.lk.zb, L13.lk.zo, L13.lk.ff, L13.lk.gg⟩, (L13.bw.setCell (show w.heap.size ≤ g5 from GW.out) _).setCell (show w.heap.size ≤ g5 from GW.out) _, L13.ob, L13.op, (L13.tb.only (L := [g5]) ((Only.refl _ _).setCell ⟨g5, 0, none⟩ (.inl (by simp)) _) (by have := GW.out; have := HZ.out; simp; omega)).only (L := [g5]) ((Only.refl _ _).setCell ⟨g5, 1, none⟩ (.inl (by simp)) _) (by have := GW.out; have := HZ.out; simp; omega)⟩)
            have K14 : Hid (Bk 67 ((w13.setCell ⟨g5, 0, none⟩ (.string ts9)).setCell ⟨g5, 1, none⟩ (.slice r9a r9n r9c)) g5 #[.string ⟨s.1.toArray⟩, .slice r9a r9n r9c]) := Lib.hid (by rw [HTS9.out]; exact K5.put2)
            have R14 : Hid (RowS ((w13.setCell ⟨g5, 0, none⟩ (.string ts9)).setCell ⟨g5, 1, none⟩ (.slice r9a r9n r9c)) (.slice r9a r9n r9c) s.2) := Lib.hid (R13.set2 K5 _ _)
            clear hb13 HSM K13 K5 L13 R13 K12 L12 B12 R12 Q12 R9L NE10
            go_wp2_with fail
            go_roundw
            case rel => exact ⟨i + 1, b9, p12, S9, l9, s.1, s.2, _, by omega, by go_num, rfl, L14, HPB12, OW9, HI9, K14, R14⟩
            case measure => simp [intOf]; omega
        · go_wp2_with fail
          have hrv := revive_any p4 S4 w4 D4.out.dk
          rw [show p4.v = .pointer (some ⟨pb, 0, none⟩) by unfold Fp.v; rw [HPB4.out]] at hrv
          refine hrv.mono ?_
          rintro e w5 ⟨rfl, hd5, ho5⟩
          have hm5 := mut_head hd5 ho5
          have D5 := Lib.hid (D4.out.mut (Nat.le_refl _) HZ.out hm5)
          have B5 := Lib.hid (B4.out.kin (hm5.kin D4.out.dk))
          have RD5 : Hid (LDown S4.revive s.1 s.2 ∧ S4.revive.gone = false) := Lib.hid ⟨HD4.out.power _ (by omega) (by omega), rfl⟩
          clear hrv hd5 ho5 hm5 D4 B4 HD4
          generalize S4.revive = S5 at D5 RD5
          have k72 := B5.out.k7.cell 2
          have k73 := B5.out.k7.cell 3
          simp only [List.getElem?_toArray, List.getElem?_cons_succ, List.getElem?_cons_zero] at k72 k73
          have fa : decide ((0 : Int) < xa) = false := decide_eq_false (by omega)
          clear hag
          have D6 := D5
          have B6 := B5
          have RD6 := RD5
          obtain ⟨w6, hw6⟩ : ∃ w, w = w5 := ⟨_, rfl⟩
          obtain ⟨S6, hS6⟩ : ∃ S, S = S5 := ⟨_, rfl⟩
          rw [← hw6, ← hS6] at D6
          rw [← hw6] at B6
          rw [← hS6] at RD6
          rw [← hw6] at k72 k73 ⊢
          clear hw6 hS6 D5 B5 RD5
          have hop := wopen_any D6.out.dk D6.out.tb (D6.out.zo HZ.out) RD6.out.1.still.clean
          have hlo := RD6.out.1.lopen RD6.out.2
          rw [show p4.v = .pointer (some ⟨pb, 0, none⟩) by unfold Fp.v; rw [HPB4.out]] at hop
          generalize lopen S6 = x6 at hop hlo
          obtain ⟨c6, ⟨l6, sn6, rs6⟩, S7⟩ := x6
          have HOP := Lib.hid hop
          have HLO := Lib.hid hlo
          clear hop hlo
          go_wp2_with fail
          refine HOP.out.mono ?_
          rintro e w7 ⟨lv7, rv7, p7, rfl, hm7, -, -, hok7, hno7⟩
          have D7 := Lib.hid (D6.out.mut (Nat.le_refl _) HZ.out hm7)
          have B7 := Lib.hid (B6.out.kin (hm7.kin D6.out.dk))
          have HPB7 : Hid (p7.b = pb) := Lib.hid (hm7.2.1.trans HPB4.out)
          simp only at hok7 hno7
          have HLV7 : Hid ((c6 = 0 ∧ ∃ b, lv7 = .pointer (some ⟨b, 0, none⟩)) ∨ (c6 = 2 ∧ lv7 = .pointer none)) := Lib.hid (by
            rcases HLO.out with ⟨h0, _⟩ | ⟨h0, _⟩
            · obtain ⟨b, e, _⟩ := hok7 h0
              exact .inl ⟨h0, b, e⟩
            · exact .inr ⟨h0, hno7 (by omega)⟩)
          have HRD : Hid (Ready S7.revive s.1 s.2) := Lib.hid (by
            rcases HLO.out with ⟨_, h2, h3, _⟩ | ⟨_, _, h3, _⟩
            · exact h3.ready_revive
            · exact h3.ready)
          clear hm7 hok7 hno7 D6 B6 RD6 HPB4 HOP HLO
          rcases HLV7.out with ⟨rfl, b7, rfl⟩ | ⟨rfl, rfl⟩
          · clear HLV7
            go_wp2_with fail
            have hrv := revive_any p7 S7 w7 D7.out.dk
            rw [show p7.v = .pointer (some ⟨pb, 0, none⟩) by unfold Fp.v; rw [HPB7.out]] at hrv
            refine hrv.mono ?_
            rintro e w8 ⟨rfl, hd8, ho8⟩
            have hm8 := mut_head hd8 ho8
            have D8 := Lib.hid (D7.out.mut (Nat.le_refl _) HZ.out hm8)
            have B8 := Lib.hid (B7.out.kin (hm8.kin D7.out.dk))
            clear hrv hd8 ho8 hm8 D7 B7
            generalize S7.revive = S8 at D8 HRD
            obtain ⟨l9, S9, hx9, how9, hi9⟩ := HRD.out.open
            have hop := wopen_any D8.out.dk D8.out.tb (D8.out.zo HZ.out) HRD.out.clean
            rw [hx9, show p7.v = .pointer (some ⟨pb, 0, none⟩) by unfold Fp.v; rw [HPB7.out]] at hop
            have HOP := Lib.hid hop
            have OW9 := Lib.hid how9
            have HI9 := Lib.hid hi9
            clear hop hx9 how9 hi9 HRD
            go_wp2_with fail
            refine HOP.out.mono ?_
            rintro e w9 ⟨lv9, rv9, p9, rfl, hm9, hrow9, hown9, hok9, -⟩
            obtain ⟨b9, rfl, hbs9, hlk9, -⟩ := hok9 rfl
            simp only at hm9 hrow9 hlk9
            have D9 := D8.out.mut (Nat.le_refl _) HZ.out hm9
            have L9 : Hid (LO w.heap.size w w9 b9 p9 S9 l9) := Lib.hid ⟨hlk9, D9.bw, Nat.le_trans D8.out.bw.size hbs9, D9.op, D9.tb⟩
            have B9 := Lib.hid (B8.out.kin (hm9.kin D8.out.dk))
            have HPB9 : Hid (p9.b = pb) := Lib.hid (hm9.2.1.trans HPB7.out)
            have R9 : Hid (RowS w9 rv9 s.2) := Lib.hid hrow9
            clear hm9 hrow9 hown9 hok9 hlk9 D9 D8 B8 HPB7 HOP hbs9
            obtain ⟨r9a, r9c, hrv9⟩ := R9.out.shape
            obtain ⟨r9n, hr9n⟩ : ∃ a, a = s.2.length := ⟨_, rfl⟩
            rw [← hr9n] at hrv9
            subst hrv9
            have hln9 : (l9.n : Int) = (r9n : Int) := by have := OW9.out.n; omega
            have R9L : Hid (s.2.length ≤ 4194304) := Lib.hid (by have h1 := OW9.out.many; have h2 := OW9.out.n; omega)
            clear hr9n
            go_wp2_with fail
            refine (records35 b9 _ _ _ _ _ w9 (Lib.hid L9.out.lk.blk)).mono ?_
            rintro e w10 ⟨rfl, rfl⟩
            rw [hln9]
            clear hln9
            generalize hts9 : (⟨s.1.toArray⟩ : ByteArray) = ts9
            have HTS9 := Lib.hid hts9
            clear hts9
            have hb10 : Below w9.heap.size w9 (w9.alloc (.cells #[.string ts9, .slice r9a r9n r9c] 67)) := by go_grown
            have K10 : Hid (Bk 67 (w9.alloc (.cells #[.string ts9, .slice r9a r9n r9c] 67)) w9.heap.size #[.string ts9, .slice r9a r9n r9c]) := Lib.hid (Bk.new rfl)
            have L10 := Lib.hid (L9.out.down (Nat.le_refl _) hb10)
            have B10 := Lib.hid (B9.out.below hb10)
            have R10 := Lib.hid (R9.out.below hb10)
            have NE10 : Hid (w9.heap.size ≠ g5) := Lib.hid (by have := B9.out.k5.lt; omega)
            have HAM : Hid (Calls Tryd.prog 36 #[.agg #[.string ts9, .slice r9a r9n r9c], .slice va2 vn2 vc2] (w9.alloc (.cells #[.string ts9, .slice r9a r9n r9c] 67)) fun e w' => e = .returned (.bool true) ∧ Below (w9.alloc (.cells #[.string ts9, .slice r9a r9n r9c] 67)).heap.size (w9.alloc (.cells #[.string ts9, .slice r9a r9n r9c] 67)) w') := Lib.hid (by
              have := among_any s (.slice r9a r9n r9c) (.slice va2 vn2 vc2) may _ R10.out B10.out.ss R9L.out (by have := HML.out; omega) HS4.out
              unfold stv at this
              rwa [HTS9.out] at this)
            clear hb10 L9 B9 R9
            go_wp2_with fail
            refine HAM.out.mono ?_
            rintro e w11 ⟨rfl, hb11⟩
            have K11 := Lib.hid (K10.out.below hb11)
            have L11 := Lib.hid (L10.out.down (Nat.le_refl _) hb11)
            have B11 := Lib.hid (B10.out.below hb11)
            have R11 := Lib.hid (R10.out.below hb11)
            clear hb11 HAM K10 L10 B10 R10 HS4 HML
            obtain ⟨g10, hg10⟩ : ∃ g, g = w9.heap.size := ⟨_, rfl⟩
            rw [← hg10] at K11 NE10 ⊢
            clear hg10
            have hop := wopen_any L11.out.lk.dk L11.out.tb L11.out.lk.zo OW9.out.clean
            rw [OW9.out.lopen, show p9.v = .pointer (some ⟨pb, 0, none⟩) by unfold Fp.v; rw [HPB9.out]] at hop
            unfold ORes at hop
            dsimp only at hop
            rw [HTS9.out] at hop
            have HOP := Lib.hid hop
            clear hop
            go_wp2_with fail
            refine HOP.out.mono ?_
            rintro e w12 ⟨lv12, rv12, p12, rfl, hm12, hrow12, -, hok12, -⟩
            obtain ⟨b12, rfl, -, -, -⟩ := hok12 trivial
            have hlm12 := LM.of_mut L11.out.lk (Nat.lt_of_lt_of_le HZ.out L11.out.bw.size) hm12
            have kn12 := hm12.kin L11.out.lk.dk
            have L12 := Lib.hid (L11.out.lm (Nat.le_refl _) hlm12)
            have K12 := Lib.hid (kn12.bk K11.out (.inr (.inr (.inl rfl))))
            have B12 := Lib.hid (B11.out.kin kn12)
            have R12 := Lib.hid (kn12.rowS R11.out)
            have Q12 : Hid (RowS w12 rv12 s.2) := Lib.hid hrow12
            have HPB12 : Hid (p12.b = pb) := Lib.hid (hm12.2.1.trans HPB9.out)
            clear hm12 hrow12 hok12 hlm12 kn12 HOP K11 L11 B11 R11 HPB9
            obtain ⟨qa, qc, hq⟩ := Q12.out.shape
            generalize s.2.length = qn at hq
            subst hq
            have hsm := samer_any (.slice qa qn qc) (.slice r9a r9n r9c) s.2 s.2 w12 Q12.out R12.out R9L.out
            rw [decide_eq_true (rfl : s.2 = s.2)] at hsm
            have HSM := Lib.hid hsm
            clear hsm
            go_wp2_with fail
            refine HSM.out.mono ?_
            rintro e w13 ⟨rfl, hb13⟩
            have K13 := K12.out.below hb13
            have K5 := B12.out.k5.below hb13
            have L13 := L12.out.down (Nat.le_refl _) hb13
            have R13 := R12.out.below hb13
            have q0 := K13.cell 0
            have q1 := K13.cell 1
            have k50 := K5.cell 0
            have k51 := K5.cell 1
            have f50 := K5.fro 0
            have f51 := K5.fro 1
            simp only [List.getElem?_toArray, List.getElem?_cons_succ, List.getElem?_cons_zero] at q0 q1 k50 k51
            have L14 : Hid (LO w.heap.size w ((w13.setCell ⟨g5, 0, none⟩ (.string ts9)).setCell ⟨g5, 1, none⟩ (.slice r9a r9n r9c)) b9 p12 S9 l9) := Lib.hid (by
              obtain ⟨h1, h2⟩ := L13.lk.far K5 (.inr (.inr (.inl rfl)))
              exact ⟨⟨(L13.lk.blk.oth (a := ⟨g5, 0, none⟩) h1.symm).oth (a := ⟨g5, 1, none⟩) h1.symm, (L13.lk.dk.set h2 ⟨g5, 0, none⟩ rfl _).set h2 ⟨g5, 1, none⟩ rfl _, L13.lk.ne, L13.lk.zb, L13.lk.zo, L13.lk.ff, L13.lk.gg⟩, (L13.bw.setCell (show w.heap.size ≤ g5 from GW.out) _).setCell (show w.heap.size ≤ g5 from GW.out) _, L13.ob, L13.op, (L13.tb.only (L := [g5]) ((Only.refl _ _).setCell ⟨g5, 0, none⟩ (.inl (by simp)) _) (by have := GW.out; have := HZ.out; simp; omega)).only (L := [g5]) ((Only.refl _ _).setCell ⟨g5, 1, none⟩ (.inl (by simp)) _) (by have := GW.out; have := HZ.out; simp; omega)⟩)
            have K14 : Hid (Bk 67 ((w13.setCell ⟨g5, 0, none⟩ (.string ts9)).setCell ⟨g5, 1, none⟩ (.slice r9a r9n r9c)) g5 #[.string ⟨s.1.toArray⟩, .slice r9a r9n r9c]) := Lib.hid (by rw [HTS9.out]; exact K5.put2)
            have R14 : Hid (RowS ((w13.setCell ⟨g5, 0, none⟩ (.string ts9)).setCell ⟨g5, 1, none⟩ (.slice r9a r9n r9c)) (.slice r9a r9n r9c) s.2) := Lib.hid (R13.set2 K5 _ _)
            clear hb13 HSM K13 K5 L13 R13 K12 L12 B12 R12 Q12 R9L NE10
            go_wp2_with fail
            go_roundw
            case rel => exact ⟨i + 1, b9, p12, S9, l9, s.1, s.2, _, by omega, by go_num, rfl, L14, HPB12, OW9, HI9, K14, R14⟩
            case measure => simp [intOf]; omega
          · clear HLV7
            go_wp2_with fail
            have hrv := revive_any p7 S7 w7 D7.out.dk
            rw [show p7.v = .pointer (some ⟨pb, 0, none⟩) by unfold Fp.v; rw [HPB7.out]] at hrv
            refine hrv.mono ?_
            rintro e w8 ⟨rfl, hd8, ho8⟩
            have hm8 := mut_head hd8 ho8
            have D8 := Lib.hid (D7.out.mut (Nat.le_refl _) HZ.out hm8)
            have B8 := Lib.hid (B7.out.kin (hm8.kin D7.out.dk))
            clear hrv hd8 ho8 hm8 D7 B7
            generalize S7.revive = S8 at D8 HRD
            obtain ⟨l9, S9, hx9, how9, hi9⟩ := HRD.out.open
            have hop := wopen_any D8.out.dk D8.out.tb (D8.out.zo HZ.out) HRD.out.clean
            rw [hx9, show p7.v = .pointer (some ⟨pb, 0, none⟩) by unfold Fp.v; rw [HPB7.out]] at hop
            have HOP := Lib.hid hop
            have OW9 := Lib.hid how9
            have HI9 := Lib.hid hi9
            clear hop hx9 how9 hi9 HRD
            go_wp2_with fail
            refine HOP.out.mono ?_
            rintro e w9 ⟨lv9, rv9, p9, rfl, hm9, hrow9, hown9, hok9, -⟩
            obtain ⟨b9, rfl, hbs9, hlk9, -⟩ := hok9 rfl
            simp only at hm9 hrow9 hlk9
            have D9 := D8.out.mut (Nat.le_refl _) HZ.out hm9
            have L9 : Hid (LO w.heap.size w w9 b9 p9 S9 l9) := Lib.hid ⟨hlk9, D9.bw, Nat.le_trans D8.out.bw.size hbs9, D9.op, D9.tb⟩
            have B9 := Lib.hid (B8.out.kin (hm9.kin D8.out.dk))
            have HPB9 : Hid (p9.b = pb) := Lib.hid (hm9.2.1.trans HPB7.out)
            have R9 : Hid (RowS w9 rv9 s.2) := Lib.hid hrow9
            clear hm9 hrow9 hown9 hok9 hlk9 D9 D8 B8 HPB7 HOP hbs9
            obtain ⟨r9a, r9c, hrv9⟩ := R9.out.shape
            obtain ⟨r9n, hr9n⟩ : ∃ a, a = s.2.length := ⟨_, rfl⟩
            rw [← hr9n] at hrv9
            subst hrv9
            have hln9 : (l9.n : Int) = (r9n : Int) := by have := OW9.out.n; omega
            have R9L : Hid (s.2.length ≤ 4194304) := Lib.hid (by have h1 := OW9.out.many; have h2 := OW9.out.n; omega)
            clear hr9n
            go_wp2_with fail
            refine (records35 b9 _ _ _ _ _ w9 (Lib.hid L9.out.lk.blk)).mono ?_
            rintro e w10 ⟨rfl, rfl⟩
            rw [hln9]
            clear hln9
            generalize hts9 : (⟨s.1.toArray⟩ : ByteArray) = ts9
            have HTS9 := Lib.hid hts9
            clear hts9
            have hb10 : Below w9.heap.size w9 (w9.alloc (.cells #[.string ts9, .slice r9a r9n r9c] 67)) := by go_grown
            have K10 : Hid (Bk 67 (w9.alloc (.cells #[.string ts9, .slice r9a r9n r9c] 67)) w9.heap.size #[.string ts9, .slice r9a r9n r9c]) := Lib.hid (Bk.new rfl)
            have L10 := Lib.hid (L9.out.down (Nat.le_refl _) hb10)
            have B10 := Lib.hid (B9.out.below hb10)
            have R10 := Lib.hid (R9.out.below hb10)
            have NE10 : Hid (w9.heap.size ≠ g5) := Lib.hid (by have := B9.out.k5.lt; omega)
            have HAM : Hid (Calls Tryd.prog 36 #[.agg #[.string ts9, .slice r9a r9n r9c], .slice va2 vn2 vc2] (w9.alloc (.cells #[.string ts9, .slice r9a r9n r9c] 67)) fun e w' => e = .returned (.bool true) ∧ Below (w9.alloc (.cells #[.string ts9, .slice r9a r9n r9c] 67)).heap.size (w9.alloc (.cells #[.string ts9, .slice r9a r9n r9c] 67)) w') := Lib.hid (by
              have := among_any s (.slice r9a r9n r9c) (.slice va2 vn2 vc2) may _ R10.out B10.out.ss R9L.out (by have := HML.out; omega) HS4.out
              unfold stv at this
              rwa [HTS9.out] at this)
            clear hb10 L9 B9 R9
            go_wp2_with fail
            refine HAM.out.mono ?_
            rintro e w11 ⟨rfl, hb11⟩
            have K11 := Lib.hid (K10.out.below hb11)
            have L11 := Lib.hid (L10.out.down (Nat.le_refl _) hb11)
            have B11 := Lib.hid (B10.out.below hb11)
            have R11 := Lib.hid (R10.out.below hb11)
            clear hb11 HAM K10 L10 B10 R10 HS4 HML
            obtain ⟨g10, hg10⟩ : ∃ g, g = w9.heap.size := ⟨_, rfl⟩
            rw [← hg10] at K11 NE10 ⊢
            clear hg10
            have hop := wopen_any L11.out.lk.dk L11.out.tb L11.out.lk.zo OW9.out.clean
            rw [OW9.out.lopen, show p9.v = .pointer (some ⟨pb, 0, none⟩) by unfold Fp.v; rw [HPB9.out]] at hop
            unfold ORes at hop
            dsimp only at hop
            rw [HTS9.out] at hop
            have HOP := Lib.hid hop
            clear hop
            go_wp2_with fail
            refine HOP.out.mono ?_
            rintro e w12 ⟨lv12, rv12, p12, rfl, hm12, hrow12, -, hok12, -⟩
            obtain ⟨b12, rfl, -, -, -⟩ := hok12 trivial
            have hlm12 := LM.of_mut L11.out.lk (Nat.lt_of_lt_of_le HZ.out L11.out.bw.size) hm12
            have kn12 := hm12.kin L11.out.lk.dk
            have L12 := Lib.hid (L11.out.lm (Nat.le_refl _) hlm12)
            have K12 := Lib.hid (kn12.bk K11.out (.inr (.inr (.inl rfl))))
            have B12 := Lib.hid (B11.out.kin kn12)
            have R12 := Lib.hid (kn12.rowS R11.out)
            have Q12 : Hid (RowS w12 rv12 s.2) := Lib.hid hrow12
            have HPB12 : Hid (p12.b = pb) := Lib.hid (hm12.2.1.trans HPB9.out)
            clear hm12 hrow12 hok12 hlm12 kn12 HOP K11 L11 B11 R11 HPB9
            obtain ⟨qa, qc, hq⟩ := Q12.out.shape
            generalize s.2.length = qn at hq
            subst hq
            have hsm := samer_any (.slice qa qn qc) (.slice r9a r9n r9c) s.2 s.2 w12 Q12.out R12.out R9L.out
            rw [decide_eq_true (rfl : s.2 = s.2)] at hsm
            have HSM := Lib.hid hsm
            clear hsm
            go_wp2_with fail
            refine HSM.out.mono ?_
            rintro e w13 ⟨rfl, hb13⟩
            have K13 := K12.out.below hb13
            have K5 := B12.out.k5.below hb13
            have L13 := L12.out.down (Nat.le_refl _) hb13
            have R13 := R12.out.below hb13
            have q0 := K13.cell 0
            have q1 := K13.cell 1
            have k50 := K5.cell 0
            have k51 := K5.cell 1
            have f50 := K5.fro 0
            have f51 := K5.fro 1
            simp only [List.getElem?_toArray, List.getElem?_cons_succ, List.getElem?_cons_zero] at q0 q1 k50 k51
            have L14 : Hid (LO w.heap.size w ((w13.setCell ⟨g5, 0, none⟩ (.string ts9)).setCell ⟨g5, 1, none⟩ (.slice r9a r9n r9c)) b9 p12 S9 l9) := Lib.hid (by
              obtain ⟨h1, h2⟩ := L13.lk.far K5 (.inr (.inr (.inl rfl)))
              exact ⟨⟨(L13.lk.blk.oth (a := ⟨g5, 0, none⟩) h1.symm).oth (a := ⟨g5, 1, none⟩) h1.symm, (L13.lk.dk.set h2 ⟨g5, 0, none⟩ rfl _).set h2 ⟨g5, 1, none⟩ rfl _, L13.lk.ne, L13.lk.zb, L13.lk.zo, L13.lk.ff, L13.lk.gg⟩, (L13.bw.setCell (show w.heap.size ≤ g5 from GW.out) _).setCell (show w.heap.size ≤ g5 from GW.out) _, L13.ob, L13.op, (L13.tb.only (L := [g5]) ((Only.refl _ _).setCell ⟨g5, 0, none⟩ (.inl (by simp)) _) (by have := GW.out; have := HZ.out; simp; omega)).only (L := [g5]) ((Only.refl _ _).setCell ⟨g5, 1, none⟩ (.inl (by simp)) _) (by have := GW.out; have := HZ.out; simp; omega)⟩)
            have K14 : Hid (Bk 67 ((w13.setCell ⟨g5, 0, none⟩ (.string ts9)).setCell ⟨g5, 1, none⟩ (.slice r9a r9n r9c)) g5 #[.string ⟨s.1.toArray⟩, .slice r9a r9n r9c]) := Lib.hid (by rw [HTS9.out]; exact K5.put2)
            have R14 : Hid (RowS ((w13.setCell ⟨g5, 0, none⟩ (.string ts9)).setCell ⟨g5, 1, none⟩ (.slice r9a r9n r9c)) (.slice r9a r9n r9c) s.2) := Lib.hid (R13.set2 K5 _ _)
            clear hb13 HSM K13 K5 L13 R13 K12 L12 B12 R12 Q12 R9L NE10
            go_wp2_with fail
            go_roundw
            case rel => exact ⟨i + 1, b9, p12, S9, l9, s.1, s.2, _, by omega, by go_num, rfl, L14, HPB12, OW9, HI9, K14, R14⟩
            case measure => simp [intOf]; omega
    · have hin : i = n := by omega
      subst hin
      have HB9 := Lib.hid LL.out.bw
      have HF := Lib.hid (fixed_any wr LL.out.tb)
      clear hlt LL HPB OW HI K5 RW
      go_wp2_with fail
      refine HF.out.mono ?_
      rintro e w9 ⟨rfl, hb⟩
      have HB10 := Lib.hid (HB9.out.trans (hb.mono HB9.out.size))
      clear hb HF
      go_wp2_with fail
      go_ret
      exact ⟨rfl, HB10.out⟩
theorem lives_walk (v : Value) (ls : List Lif) (hok : ∀ x ∈ ls, LifOk x) (hlen : ls.length ≤ 2932031007402) (w : World) (h : LivesIn w v ls) (hT : Tb w) :
    Calls Tryd.prog 6 #[v] w fun e w' => e = .returned (.bool true) ∧ Below w.heap.size w w' := by
  obtain ⟨a, c, rfl, hl⟩ := h
  exact lives_some ls hok hlen w hT _ rfl a c hl
end Go.Proofs.YtmoihgniglomiaaDoor
