/- The reference's sum (function 21) of any bytes, with the document's own numbers in a row. Condition: at most 2^47 bytes less 128. The reference's padded keys and macs. Condition: at most 2^47 bytes less 256 each. The document's rings: names, macs' keys, find, newest. Condition: each seed at most 2^47 - 4096 bytes. The document's rings: Mac, Vouch, Kids; texts that are the same. Condition: each see -/
import Derived.Test.YtpggkfdijmnmiaaGreatZum12
import Derived.Test.YtpggkfdijmnmiaaGreatZum08
import Derived.Lib.SliceRun
set_option linter.unusedVariables false
set_option linter.unusedSimpArgs false
set_option maxRecDepth 100000
namespace Go.Proofs.YtpggkfdijmnmiaaGreat.Hs
open Go.RowKit Go.Sort
theorem app_m1 {ops : Array Oper} {rest : List Oper} {o : Oper} {a : Act} {Q : Exit → Act → World → Prop} {w W : World} {v : Value} {l : List UInt8} (n : Int) (c : UInt8) (hn : n = (c.toNat : Int)) (s x : Operand) (hgd : o.guard = none)
    (ho : o.op = .call { callee := .builtin .append, args := #[s, x], argTypes := #[101, 101] }) (hs : a.eval s = v) (hx : a.eval x = .slice (some ⟨w.heap.size, 0, none⟩) 1 1)
    (hI : Rm W.heap.size v l w) (hb : Below W.heap.size W w) (hlen : l.length ≤ 140737488355327)
    (h : ∀ v' w', Rm W.heap.size v' (l ++ [c]) w' → Below W.heap.size W w' → wpList Tryz.prog ops Q rest (a.put o.dst v') w') : wpList Tryz.prog ops Q (o :: rest) a (w.alloc (.cells #[.int .u8 n] 5)) := by
  subst hn
  refine app_m [c] w.heap.size 1 s x hgd ho hs hx (Go.heap_alloc_new w _) (hI.below ((Below.refl _ _).alloc (Nat.le_refl _) _)) (Nat.le_trans hb.size (alloc_le _ _)) (by simp; omega) (fun v' w' h1 h2 _ => h v' w' h1 (((hb.alloc hb.size _)).trans h2))
def zL (s : List UInt8) (k : Nat) : List UInt8 := s ++ 128 :: List.replicate k 0
theorem zL_len (s : List UInt8) (k : Nat) : (zL s k).length = s.length + 1 + k := by simp [zL]; omega
theorem zL_succ (s : List UInt8) (k : Nat) : zL s (k + 1) = zL s k ++ [0] := by simp [zL, List.replicate_succ']
theorem zL_0 (s : List UInt8) : s ++ [128] = zL s 0 := by simp [zL]
theorem rm_nil (w : World) : Rm w.heap.size (.slice (some ⟨w.heap.size, 0, none⟩) 0 0) [] (w.alloc (.cells #[] 5)) :=
  ⟨w.heap.size, 0, #[], (0, 0), rfl, Nat.le_refl _, Go.heap_alloc_new w _, .inl rfl, Nat.le_refl _, Nat.zero_le _, rfl, rfl⟩
def hTo (i : Nat) : List UInt32 := firstL.take i ++ List.replicate (8 - i) 0
theorem hTo_len (i : Nat) (h : i ≤ 8) : (hTo i).length = 8 := by
  have : firstL.length = 8 := rfl
  simp [hTo, this]; omega
theorem hTo_set : ∀ (i : Nat) (h : i < 8), (hTo i).set i (firstL[i]'h) = hTo (i + 1) := by decide +kernel
theorem first_get (i : Nat) (h : i < 8) : rootW ((prL 20)[i]'(by rw [first8.1]; exact h)) 2 = firstL[i]'h := by
  have e : firstL[i]? = ((prL 20).map (fun p => rootW p 2))[i]? := by
    rw [show (prL 20).map (fun p => rootW p 2) = firstL from first_ok]
  rw [List.getElem?_map, List.getElem?_eq_getElem h, List.getElem?_eq_getElem (by rw [first8.1]; exact h)] at e
  simpa using e.symm
theorem beh_len (s : List UInt8) : (s ++ behindL s.length).length = 64 * ((s.length + 72) / 64) := by
  simp [behindL, fourL]; omega
theorem pr_small8 : ∀ p ∈ prL 20, p < 65536 := fun p h => by have := (pr_ge 18 p h).2; omega
set_option maxHeartbeats 4000000 in
set_option maxRecDepth 100000 in
theorem sum21 (s : List UInt8) (hs : s.length ≤ 140737488355200) (w : World) (gk ck0 : Nat) (hgk : gk < w.heap.size) (hkk : ∀ i, i < 64 → w.cell? ⟨gk, i, none⟩ = some (.int .u32 ((kL.getD i 0).toNat : Int))) :
    Calls Tryz.prog 151 #[.string ⟨s.toArray⟩, .slice (some ⟨gk, 0, none⟩) 64 ck0] w fun e w' => e = .returned (.string ⟨(sumL s).toArray⟩) ∧ Below w.heap.size w w' := by
  obtain ⟨v0, w0, hc, hr, hb⟩ := conv_m s (by unfold maxLen; omega) w
  have HR := Lib.hid hr
  have HB := Lib.hid hb
  have HS := Lib.hid hs
  have HGK := Lib.hid hgk
  have HKK := Lib.hid hkk
  clear hr hb hgk hkk
  go_enter Tryz.func151, Tryz.ntmps151
  go_wp2_with (at_builtin; refine app_m1 128 128 rfl (.tmp 27) (.tmp 28) rfl rfl rfl rfl HR.out HB.out (by have := HS.out; omega) ?_; intro v1 w1 hr hb; have HR1 := Lib.hid hr; have HB1 := Lib.hid hb; clear hr hb hc HR HB)
  rw [zL_0] at HR1
  go_loopw [5] (fun v wr => ∃ k : Nat, k ≤ (119 - s.length % 64) % 64 ∧ Rm w.heap.size v (zL s k) wr ∧ Below w.heap.size w wr) (fun v _ => s.length + 65 - (match v with | .slice _ n _ => n | _ => 0))
  case atStart => exact ⟨0, by omega, HR1.out, HB1.out⟩
  case round =>
    obtain ⟨k, hk, hr, hb⟩ := hrel
    have HR := Lib.hid hr
    have HB := Lib.hid hb
    obtain ⟨g, cap, hv, _⟩ := hr.un
    subst hv
    clear hr hb HR1 HB1
    have HSS := HS.out
    have HZ := Lib.hid (zL_succ s k)
    obtain ⟨m, hm⟩ : ∃ m, m = (zL s k).length := ⟨_, rfl⟩
    have HML := Lib.hid hm
    rw [← hm] at HR ⊢
    rw [zL_len] at hm
    have t1 : (m : Int).tmod 64 = ((m % 64 : Nat) : Int) := by rw [Int.tmod_eq_emod_of_nonneg (by omega)]; simp
    by_cases hkz : k < (119 - s.length % 64) % 64
    ·
      have t2 : ¬ ((m % 64 : Nat) : Int) = 56 := by omega
      have HK := Lib.hid hkz
      have HM := Lib.hid hm
      clear hkz hk hm
      generalize m % 64 = r at t1 t2
      go_wp2_with (at_builtin; refine app_m1 0 0 rfl (.tmp 34) (.tmp 35) rfl rfl rfl rfl HR.out HB.out (by rw [← HML.out]; have := HM.out; have := HK.out; omega) ?_; intro v2 w2 hr hb; have HR2 := Lib.hid hr; have HB2 := Lib.hid hb; clear hr hb)
      obtain ⟨g2, cap2, hv2, _⟩ := HR2.out.un
      have HV2 := Lib.hid hv2
      have HKK := HK.out
      have HMM := HM.out
      refine ⟨⟨k + 1, by omega, by rw [HZ.out]; exact HR2.out, HB2.out⟩, ?_⟩
      rw [HV2.out, List.length_append, ← HML.out]
      simp
      omega
    · have t2 : ((m % 64 : Nat) : Int) = 56 := by omega
      rw [t2] at t1
      have HK : Hid (k = (119 - s.length % 64) % 64) := Lib.hid (by omega)
      have HM := Lib.hid hm
      clear hkz hk hm t2
      have hand : bits BinOp.and IntKind.u64 (8 * (s.length : Int)) 4294967295 = ((s.length * 8 % 4294967296 : Nat) : Int) := by
        have := u64_and_nat (s.length * 8) 4294967295 (by omega) (by omega)
        rw [show ((4294967295 : Nat) : Int) = 4294967295 from rfl, show ((s.length * 8 : Nat) : Int) = 8 * (s.length : Int) from by omega] at this
        rw [this, show (4294967295 : Nat) = 2 ^ 32 - 1 from rfl, Nat.and_two_pow_sub_one_eq_mod]
      have e1 : (8 * (s.length : Int) / 4294967296) = ((UInt32.ofNat (s.length * 8 / 4294967296)).toNat : Int) := by
        rw [w_ofNat _ (by omega)]; omega
      have e2 : ((s.length * 8 % 4294967296 : Nat) : Int) = ((UInt32.ofNat (s.length * 8)).toNat : Int) := by
        rw [UInt32.toNat_ofNat']
      rw [e2] at hand
      have HX : Hid (zL s k ++ fourL (UInt32.ofNat (s.length * 8 / 4294967296)) ++ fourL (UInt32.ofNat (s.length * 8)) = s ++ behindL s.length) := Lib.hid (by
        rw [HK.out]; unfold zL behindL; simp)
      generalize UInt32.ofNat (s.length * 8 / 4294967296) = x1 at e1 HX
      generalize UInt32.ofNat (s.length * 8) = x2 at hand HX e2
      have h1 := x1.toNat_lt
      have h2 := x2.toNat_lt
      have HE1 := Lib.hid e1
      clear e1 e2
      have F1 := Lib.hid (four31 x1)
      have F2 := Lib.hid (four31 x2)
      have HLM : Hid (m ≤ 140737488355300) := Lib.hid (by have := HM.out; have := HK.out; omega)
      go_wp2_with (first | (go_at_call 178; first | (rw [HE1.out]; refine (F1.out _).mono ?_; rintro e w2 ⟨rfl, rfl⟩) | (refine (F2.out _).mono ?_; rintro e w4 ⟨rfl, rfl⟩)) | (at_builtin; first | (refine app_m (B := w.heap.size) (fourL x1) _ 4 (.tmp 41) (.tmp 45) rfl rfl rfl rfl (Go.heap_alloc_new _ _) (HR.out.below ((Below.refl _ _).alloc (Nat.le_refl _) _)) (Nat.le_trans HB.out.size (alloc_le _ _)) (by rw [← HML.out]; have := HLM.out; show m + 4 ≤ _; omega) ?_; intro v2 w2 hr hb _; have HR2 := Lib.hid hr; have HB2 := Lib.hid ((HB.out.alloc HB.out.size _).trans hb); clear hr hb) | (refine app_m (B := w.heap.size) (fourL x2) _ 4 (.tmp 47) (.tmp 51) rfl rfl rfl rfl (Go.heap_alloc_new _ _) (HR2.out.below ((Below.refl _ _).alloc (Nat.le_refl _) _)) (Nat.le_trans HB2.out.size (alloc_le _ _)) (by rw [List.length_append, ← HML.out]; have := HLM.out; show m + 4 + 4 ≤ _; omega) ?_; intro v3 w3 hr hb _; rw [HX.out] at hr; have HR3 := Lib.hid hr; have HB3 := Lib.hid ((HB2.out.alloc HB2.out.size _).trans hb); clear hr hb)))
      have HGW : Hid (w.heap.size ≤ w3.heap.size) := Lib.hid HB3.out.size
      have HK3 : Hid (∀ i, i < 64 → w3.cell? ⟨gk, i, none⟩ = some (.int .u32 ((kL.getD i 0).toNat : Int))) := Lib.hid (fun i hi => (HB3.out.cell (p := ⟨gk, i, none⟩) HGK.out).trans (HKK.out i hi))
      clear F1 F2 HE1 HX HLM HR2 HB2 HR HB HZ HML t1 hand HM HK
      have HPL : Hid ((s ++ behindL s.length).length = 64 * ((s.length + 72) / 64)) := Lib.hid (beh_len s)
      have HPM : Hid ((s ++ behindL s.length).length ≤ 140737488355328) := Lib.hid (by rw [beh_len]; omega)
      obtain ⟨NB, hNB⟩ : ∃ NB, (s.length + 72) / 64 = NB := ⟨_, rfl⟩
      rw [hNB] at HPL
      have HNB := Lib.hid hNB
      have HSUM : Hid (sumL s = textL (thrL NB firstL (s ++ behindL s.length))) := Lib.hid (by rw [← hNB]; rfl)
      clear hNB
      generalize s ++ behindL s.length = p at HR3 HPL HSUM HPM
      rw [show (8 : Int) = ((8 : Nat) : Int) from rfl, make_u32 w3 8 (by omega)]
      simp only [Result.andThen]
      rw [Oper.upon_value]
      obtain ⟨w5, hw5⟩ : ∃ w5, w3.alloc (.cells (ws (List.replicate 8 0)) 111) = w5 := ⟨_, rfl⟩
      have HA5 : Hid (w5.heap[w3.heap.size]? = some (.cells (ws (hTo 0)) 111 (0, 0))) := Lib.hid (by rw [← hw5]; exact Go.heap_alloc_new w3 _)
      have HL5 : Hid (Below w3.heap.size w3 w5) := Lib.hid (by rw [← hw5]; exact (Below.refl _ _).alloc (Nat.le_refl _) _)
      have HS5 : Hid (w5.heap.size = w3.heap.size + 1) := Lib.hid (by rw [← hw5]; exact alloc_sz _ _)
      rw [hw5]
      clear hw5
      go_wp2_with (go_at_call 153; refine (primes_any 8 20 first8 _).mono ?_; rintro e w6 ⟨⟨pv, rfl, hr⟩, hb⟩; obtain ⟨gp, capp, hv, ⟨cur, fz, hcur⟩, hc⟩ := hr.un' (by intro e; have := first8.1; rw [e] at this; simp at this); have hgp : w5.heap.size ≤ gp := (by rcases hr.2 with ⟨rfl, h0⟩ | ⟨g', cap', cur', e', hg', _⟩; (· cases hv); (· rw [e'] at hv; cases hv; exact hg')); have HA6 := Lib.hid ((hb.block _ (by rw [HS5.out]; omega)).trans HA5.out); have HL6 := Lib.hid (HL5.out.trans (hb.mono (by rw [HS5.out]; omega))); have HC6 := Lib.hid hc; have HU6 := Lib.hid hcur; have HGP := Lib.hid (show w3.heap.size < gp from by rw [HS5.out] at hgp; omega); rw [first8.1] at hv; subst hv; clear hr hb hc hcur hgp)
      go_loopw [9] (fun i wr => ∃ k : Nat, k ≤ 8 ∧ i = .int .i64 k ∧ wr.heap[w3.heap.size]? = some (.cells (ws (hTo k)) 111 (0, 0)) ∧ wr.heap[gp]? = w6.heap[gp]? ∧ Below w3.heap.size w3 wr) (fun i _ => 8 - (intOf i).toNat)
      case atStart => exact ⟨0, by omega, rfl, HA6.out, rfl, HL6.out⟩
      case round =>
        obtain ⟨k, hk, rfl, ha, hp, hb⟩ := hrel
        have HA := Lib.hid ha
        have HP := Lib.hid hp
        have HB := Lib.hid hb
        clear ha hp hb HA6 HL6 HA5 HL5 HS5
        by_cases hk8 : k < 8
        ·
          have hlen := hTo_len k hk
          have HG := Lib.hid (blk_lt (HP.out.trans HU6.out))
          have cp := (World.cell?_of_block (w := w6) (w' := wr) (a := ⟨gp, k, none⟩) HP.out).trans (HC6.out k (by rw [first8.1]; exact hk8))
          have hsm := pr_small8 _ (List.getElem_mem (l := prL 20) (n := k) (by rw [first8.1]; exact hk8))
          have ck := (blk_cell HA.out k).trans (ws_get _ _ (by omega))
          have fk := Lib.frozen_of_heap HA.out k
          have hst := hTo_set k hk8
          rw [← first_get k hk8] at hst
          have HST := Lib.hid hst
          clear hst
          generalize (prL 20)[k]'(by rw [first8.1]; exact hk8) = q at cp hsm HST
          generalize (hTo k)[k]'(by omega) = old at ck
          have HRT := Lib.hid (root_any q 2 hsm (.inl rfl))
          have HSM := Lib.hid hsm
          clear hlen
          obtain ⟨r, hrr⟩ : ∃ r, rootW q 2 = r := ⟨_, rfl⟩
          have hrl := r.toNat_lt
          rw [hrr] at HST HRT
          have HGH := Lib.hid (blk_lt HA.out)
          go_wp2_with (go_at_call 154; refine (HRT.out _).mono ?_; rintro e w7 ⟨rfl, hb⟩; have HBR := Lib.hid hb; clear hb; have ck := (HBR.out.cell (p := ⟨w3.heap.size, k, none⟩) HGH.out).trans ck; have fk := (HBR.out.frozen (p := ⟨w3.heap.size, k, none⟩) HGH.out).trans fk)
          exact ⟨⟨k + 1, by omega, by go_num, (blk_put ((HBR.out.block _ HGH.out).trans HA.out) k _).trans (by rw [ws_set, HST.out]), (Below.heap_setCell w7 ⟨w3.heap.size, k, none⟩ _ gp (by have := HGP.out; show gp ≠ w3.heap.size; omega)).trans ((HBR.out.block _ HG.out).trans HP.out), (HB.out.trans (HBR.out.mono HB.out.size)).setCell (p := ⟨w3.heap.size, k, none⟩) (Nat.le_refl _) _⟩, by simp [intOf]; omega⟩
        · obtain rfl : k = 8 := by omega
          rw [show hTo 8 = firstL from rfl] at HA
          clear HP HU6 HC6 HGP hk8 hk
          obtain ⟨gb, cb, hv, hgb, hgl, _, hcb⟩ := HR3.out.un
          subst hv
          have HGB := Lib.hid hgl
          have HCB := Lib.hid hcb
          clear hgb hgl hcb HR3
          go_wp2_with fail
          refine blocks gb cb w3.heap.size gk ck0 NB p HPL.out HPM.out _ HGB.out (fun i hi => (HB.out.cell (p := ⟨gb, i, none⟩) HGB.out).trans (HCB.out i hi)) (by have := HGK.out; have := HGW.out; omega) (fun i hi => (HB.out.cell (p := ⟨gk, i, none⟩) (by have := HGK.out; have := HGW.out; show gk < w3.heap.size; omega)).trans (HK3.out i hi)) HA.out ?_
          intros
          rename_i wE e1 e2
          have HE1 := Lib.hid e1
          have HE2 := Lib.hid (HB.out.trans e2)
          clear e1 e2 HB HA HCB HK3 HKK
          go_wp2_with fail
          refine texts wE.heap.size w3.heap.size 8 (thrL NB firstL p) (.slice (some ⟨wE.heap.size, 0, none⟩) 0 0) (thr_len NB firstL p rfl) _ ((Below.heap_alloc _ _ _ (blk_lt HE1.out)).trans HE1.out) (blk_lt HE1.out) (alloc_le _ _) (rm_nil wE) ?_
          intros
          rename_i v wF f1 f2
          have HBF : Hid (Below w.heap.size w wF) := Lib.hid (HB3.out.trans ((HE2.out.trans (((Below.refl _ wE).alloc (Nat.le_refl _) _).trans f2 |>.mono HE2.out.size)).mono HGW.out))
          have hcv := f1.conv
          rw [← HSUM.out] at hcv
          clear f1 f2 HE1 HE2
          go_wp2_with fail
          go_ret
          exact ⟨rfl, HBF.out⟩
end Go.Proofs.YtpggkfdijmnmiaaGreat.Hs
namespace Go.Proofs.YtpggkfdijmnmiaaGreat.Hs
open Go.RowKit Go.Sort
def Kr (v : Value) (w : World) : Prop := ∃ g c, v = .slice (some ⟨g, 0, none⟩) 64 c ∧ g < w.heap.size ∧ ∀ i, i < 64 → w.cell? ⟨g, i, none⟩ = some (.int .u32 ((kL.getD i 0).toNat : Int))
theorem Kr.below {v : Value} {w w' : World} (h : Kr v w) (hb : Below w.heap.size w w') : Kr v w' := by
  obtain ⟨g, c, rfl, hg, hc⟩ := h
  exact ⟨g, c, rfl, Nat.lt_of_lt_of_le hg hb.size, fun i hi => (hb.cell (p := ⟨g, i, none⟩) hg).trans (hc i hi)⟩
theorem cell_in {W : World} {b : Nat} {v : Value} (h : W.cell? ⟨b, 0, none⟩ = some v) : b < W.heap.size := by
  rcases Nat.lt_or_ge b W.heap.size with h' | h'
  · exact h'
  · simp [World.cell?, Array.getElem?_eq_none h'] at h
theorem keys_k (w : World) : Calls Tryz.prog 105 #[] w fun e w' => (∃ v, e = .returned v ∧ Kr v w') ∧ Below w.heap.size w w' := by
  refine (keys_any w).mono ?_
  rintro e w' ⟨⟨v, rfl, hr⟩, hb⟩
  obtain ⟨g, c, rfl, _, hc⟩ := hr.un (by intro e; have := kL_length; rw [e] at this; simp at this)
  refine ⟨⟨_, rfl, g, c, by rw [kL_length], cell_in (hc 0 (by rw [kL_length]; decide)), fun i hi => ?_⟩, hb⟩
  rw [hc i (by rw [kL_length]; exact hi)]
  simp [List.getD, show i < kL.length from by rw [kL_length]; exact hi]
theorem sumK (s : List UInt8) (hs : s.length ≤ 140737488355200) (v : Value) (w : World) (h : Kr v w) :
    Calls Tryz.prog 151 #[.string ⟨s.toArray⟩, v] w fun e w' => e = .returned (.string ⟨(sumL s).toArray⟩) ∧ Below w.heap.size w w' := by
  obtain ⟨g, c, rfl, hg, hc⟩ := h
  exact sum21 s hs w g c hg hc
theorem Rm.put {B : Nat} {v : Value} {l : List UInt8} {w : World} (h : Rm B v l w) (i : Nat) (hi : i < l.length) (x : UInt8) : ∃ g cap, v = .slice (some ⟨g, 0, none⟩) l.length cap ∧ B ≤ g ∧ w.cell? ⟨g, i, none⟩ = some (.int .u8 (l[i].toNat : Int)) ∧ w.frozen? ⟨g, i, none⟩ = false ∧
    Rm B v (l.set i x) (w.setCell ⟨g, i, none⟩ (.int .u8 (x.toNat : Int))) := by
  have hu := h.un
  obtain ⟨g, cap, cur, fz, rfl, hg, hh, hoff, hlc, hcm, hcs, htk⟩ := h
  obtain ⟨g', cap', e, _, _, _, hc⟩ := hu
  simp only [Value.slice.injEq, Option.some.injEq, Addr.mk.injEq, and_true, true_and] at e
  obtain ⟨rfl, rfl⟩ := e
  refine ⟨g, cap, rfl, hg, hc i hi, ?_, ?_⟩
  · obtain ⟨lo, hi'⟩ := fz
    simp only [World.frozen?, hh, Bool.and_eq_false_iff, decide_eq_false_iff_not]
    rcases hoff with h | h
    · right; simp only at h; omega
    · left; simp only at h; omega
  · refine ⟨g, cap, cur.setIfInBounds i (.int .u8 (x.toNat : Int)), fz, by rw [List.length_set], hg, blk_put hh i _, by simpa using hoff, by rw [List.length_set]; exact hlc, hcm, by simpa using hcs, ?_⟩
    rw [List.length_set, Array.toList_setIfInBounds, List.take_set, htk]
    simp [bl, List.map_set]
theorem fill_is (key : List UInt8) : fillL key = (if 64 < key.length then sumL key else key) ++ List.replicate (64 - (if 64 < key.length then sumL key else key).length) 0 := rfl
set_option maxHeartbeats 4000000 in
set_option maxRecDepth 100000 in
theorem padded_short (key : List UInt8) (c : UInt8) (hk : key.length ≤ 64) (v : Value) (w : World) (hK : Kr v w) :
    Calls Tryz.prog 152 #[.string ⟨key.toArray⟩, .int .u8 (c.toNat : Int), v] w fun e w' => e = .returned (.string ⟨(turnedL (fillL key) c).toArray⟩) ∧ Below w.heap.size w w' := by
  have hsz := size_ba key
  have hl : ¬ (64 < key.length) := by omega
  have HF : Hid (fillL key = key ++ List.replicate (64 - key.length) 0) := Lib.hid (by rw [fill_is, if_neg hl])
  have HS := Lib.hid hk
  have HK := Lib.hid hK
  obtain ⟨v0, w0, hc, hr, hb⟩ := conv_m key (by unfold maxLen; omega) w
  have HR1 := Lib.hid hr
  have HB1 := Lib.hid hb
  clear hr hb hK
  have HBW : Hid (Below w.heap.size w w) := Lib.hid (Below.refl _ _)
  go_enter Tryz.func152, Tryz.ntmps152
  go_wp2_with fail
  go_loopw [7] (fun v wr => ∃ k : Nat, k ≤ 64 - key.length ∧ Rm w.heap.size v (key ++ List.replicate k 0) wr ∧ Below w.heap.size w wr) (fun v _ => 64 - (match v with | .slice _ n _ => n | _ => 0))
  case atStart => exact ⟨0, by omega, by simpa using HR1.out, HB1.out⟩
  case round =>
    obtain ⟨k, hk, hr, hb⟩ := hrel
    have HR := Lib.hid hr
    have HB := Lib.hid hb
    obtain ⟨g, cap, hv, _⟩ := hr.un
    subst hv
    clear hr hb HR1 HB1
    have HSS := HS.out
    obtain ⟨m, hm⟩ : ∃ m, m = (key ++ List.replicate k 0).length := ⟨_, rfl⟩
    have HML := Lib.hid hm
    rw [← hm] at HR ⊢
    rw [List.length_append, List.length_replicate] at hm
    by_cases hkz : k < 64 - key.length
    · have hm64 : m < 64 := by omega
      have HK2 := Lib.hid hkz
      have HM := Lib.hid hm
      clear hkz hk hm
      go_wp2_with (at_builtin; refine app_m1 0 0 rfl (.tmp 20) (.tmp 21) rfl rfl rfl rfl HR.out HB.out (by rw [← HML.out]; omega) ?_; intro v2 w2 hr hb; have HR2 := Lib.hid hr; have HB2 := Lib.hid hb; clear hr hb)
      obtain ⟨g2, cap2, hv2, _⟩ := HR2.out.un
      have HV2 := Lib.hid hv2
      have HZ : Hid (key ++ List.replicate (k + 1) 0 = key ++ List.replicate k 0 ++ [0]) := Lib.hid (by rw [List.replicate_succ', List.append_assoc])
      have HKK := HK2.out
      have HMM := HM.out
      refine ⟨⟨k + 1, by omega, by rw [HZ.out]; exact HR2.out, HB2.out⟩, ?_⟩
      rw [HV2.out, List.length_append, ← HML.out]
      simp
      omega
    · have hm64 : m = 64 := by omega
      have hke : k = 64 - key.length := by omega
      have HFF : Hid (key ++ List.replicate k 0 = fillL key) := Lib.hid (by rw [HF.out, hke])
      clear hkz hk hm hke
      rw [HFF.out] at HR HML
      have HFL : Hid ((fillL key).length = 64) := Lib.hid (fill_length _)
      subst hm64
      obtain ⟨f, hfe⟩ : ∃ f, fillL key = f := ⟨_, rfl⟩
      have HFE := Lib.hid hfe
      rw [hfe] at HR HFL
      clear hfe
      go_wp2_with fail
      go_loopw [8] (fun i wq => ∃ j : Nat, j ≤ 64 ∧ i = .int .i64 j ∧ Rm w.heap.size (.slice (some ⟨g, 0, none⟩) 64 cap) (pref (· ^^^ c) f j) wq ∧ Below w.heap.size w wq) (fun i _ => 64 - (intOf i).toNat)
      case atStart => exact ⟨0, by omega, rfl, by simpa [pref] using HR.out, HB.out⟩
      case round =>
        obtain ⟨j, hj, rfl, hr, hb⟩ := hrel
        have HR2 := Lib.hid hr
        have HB2 := Lib.hid hb
        clear hr hb HR HB
        by_cases hlt : j < 64
        · have hjl : j < f.length := by rw [HFL.out]; exact hlt
          obtain ⟨g', cap', e, hg, cc, ff, hp⟩ := HR2.out.put j (by rw [pref_length]; exact hjl) (f[j] ^^^ c)
          simp only [Value.slice.injEq, Option.some.injEq, Addr.mk.injEq, and_true, true_and] at e
          obtain ⟨rfl, _, rfl⟩ := e
          rw [pref_get _ _ _ hjl] at cc
          rw [pref_set (· ^^^ c) f j hjl] at hp
          have HP := Lib.hid hp
          have HGG := Lib.hid hg
          have hx := xorB f[j] c
          clear hp hg
          generalize f[j] = x at cc hx HP
          generalize x ^^^ c = y at hx HP
          go_wp2_with fail
          go_roundw
          case rel => exact ⟨j + 1, by omega, by go_num, HP.out, HB2.out.setCell (p := ⟨g, j, none⟩) HGG.out _⟩
          case measure => simp [intOf]; omega
        · obtain rfl : j = 64 := by omega
          have hcv := HR2.out.conv
          rw [show pref (· ^^^ c) f 64 = turnedL f c from pref_all _ _ _ (by rw [HFL.out]; exact Nat.le_refl _)] at hcv
          go_wp2_with fail
          go_ret
          exact ⟨by rw [HFE.out]; rfl, HBW.out.trans (HB2.out.mono HBW.out.size)⟩
set_option maxHeartbeats 4000000 in
set_option maxRecDepth 100000 in
theorem padded_long (key : List UInt8) (c : UInt8) (hk : 64 < key.length) (hkm : key.length ≤ 140737488355200) (v : Value) (w : World) (hK : Kr v w) :
    Calls Tryz.prog 152 #[.string ⟨key.toArray⟩, .int .u8 (c.toNat : Int), v] w fun e w' => e = .returned (.string ⟨(turnedL (fillL key) c).toArray⟩) ∧ Below w.heap.size w w' := by
  have hsz := size_ba key
  have HF : Hid (fillL key = sumL key ++ List.replicate (64 - (sumL key).length) 0) := Lib.hid (by rw [fill_is, if_pos hk])
  have HS : Hid ((sumL key).length ≤ 64) := Lib.hid (by rw [sum_length]; decide)
  have HK := Lib.hid hK
  have HKM := Lib.hid hkm
  clear hK hkm
  go_enter Tryz.func152, Tryz.ntmps152
  go_wp2_with fail
  refine (sumK key HKM.out v _ HK.out).mono ?_
  rintro e w1 ⟨rfl, b1⟩
  have HBW := Lib.hid b1
  clear b1
  obtain ⟨v0, w0, hc, hr, hb⟩ := conv_m (sumL key) (by rw [sum_length]; decide) w1
  have HR1 := Lib.hid hr
  have HB1 := Lib.hid hb
  clear hr hb
  go_wp2_with fail
  go_loopw [7] (fun v wr => ∃ k : Nat, k ≤ 64 - (sumL key).length ∧ Rm w1.heap.size v ((sumL key) ++ List.replicate k 0) wr ∧ Below w1.heap.size w1 wr) (fun v _ => 64 - (match v with | .slice _ n _ => n | _ => 0))
  case atStart => exact ⟨0, by omega, by simpa using HR1.out, HB1.out⟩
  case round =>
    obtain ⟨k, hk, hr, hb⟩ := hrel
    have HR := Lib.hid hr
    have HB := Lib.hid hb
    obtain ⟨g, cap, hv, _⟩ := hr.un
    subst hv
    clear hr hb HR1 HB1
    have HSS := HS.out
    obtain ⟨m, hm⟩ : ∃ m, m = ((sumL key) ++ List.replicate k 0).length := ⟨_, rfl⟩
    have HML := Lib.hid hm
    rw [← hm] at HR ⊢
    rw [List.length_append, List.length_replicate] at hm
    by_cases hkz : k < 64 - (sumL key).length
    · have hm64 : m < 64 := by omega
      have HK2 := Lib.hid hkz
      have HM := Lib.hid hm
      clear hkz hk hm
      go_wp2_with (at_builtin; refine app_m1 0 0 rfl (.tmp 20) (.tmp 21) rfl rfl rfl rfl HR.out HB.out (by rw [← HML.out]; omega) ?_; intro v2 w2 hr hb; have HR2 := Lib.hid hr; have HB2 := Lib.hid hb; clear hr hb)
      obtain ⟨g2, cap2, hv2, _⟩ := HR2.out.un
      have HV2 := Lib.hid hv2
      have HZ : Hid ((sumL key) ++ List.replicate (k + 1) 0 = (sumL key) ++ List.replicate k 0 ++ [0]) := Lib.hid (by rw [List.replicate_succ', List.append_assoc])
      have HKK := HK2.out
      have HMM := HM.out
      refine ⟨⟨k + 1, by omega, by rw [HZ.out]; exact HR2.out, HB2.out⟩, ?_⟩
      rw [HV2.out, List.length_append, ← HML.out]
      simp
      omega
    · have hm64 : m = 64 := by omega
      have hke : k = 64 - (sumL key).length := by omega
      have HFF : Hid ((sumL key) ++ List.replicate k 0 = fillL key) := Lib.hid (by rw [HF.out, hke])
      clear hkz hk hm hke
      rw [HFF.out] at HR HML
      have HFL : Hid ((fillL key).length = 64) := Lib.hid (fill_length _)
      subst hm64
      obtain ⟨f, hfe⟩ : ∃ f, fillL key = f := ⟨_, rfl⟩
      have HFE := Lib.hid hfe
      rw [hfe] at HR HFL
      clear hfe
      go_wp2_with fail
      go_loopw [8] (fun i wq => ∃ j : Nat, j ≤ 64 ∧ i = .int .i64 j ∧ Rm w1.heap.size (.slice (some ⟨g, 0, none⟩) 64 cap) (pref (· ^^^ c) f j) wq ∧ Below w1.heap.size w1 wq) (fun i _ => 64 - (intOf i).toNat)
      case atStart => exact ⟨0, by omega, rfl, by simpa [pref] using HR.out, HB.out⟩
      case round =>
        obtain ⟨j, hj, rfl, hr, hb⟩ := hrel
        have HR2 := Lib.hid hr
        have HB2 := Lib.hid hb
        clear hr hb HR HB
        by_cases hlt : j < 64
        · have hjl : j < f.length := by rw [HFL.out]; exact hlt
          obtain ⟨g', cap', e, hg, cc, ff, hp⟩ := HR2.out.put j (by rw [pref_length]; exact hjl) (f[j] ^^^ c)
          simp only [Value.slice.injEq, Option.some.injEq, Addr.mk.injEq, and_true, true_and] at e
          obtain ⟨rfl, _, rfl⟩ := e
          rw [pref_get _ _ _ hjl] at cc
          rw [pref_set (· ^^^ c) f j hjl] at hp
          have HP := Lib.hid hp
          have HGG := Lib.hid hg
          have hx := xorB f[j] c
          clear hp hg
          generalize f[j] = x at cc hx HP
          generalize x ^^^ c = y at hx HP
          go_wp2_with fail
          go_roundw
          case rel => exact ⟨j + 1, by omega, by go_num, HP.out, HB2.out.setCell (p := ⟨g, j, none⟩) HGG.out _⟩
          case measure => simp [intOf]; omega
        · obtain rfl : j = 64 := by omega
          have hcv := HR2.out.conv
          rw [show pref (· ^^^ c) f 64 = turnedL f c from pref_all _ _ _ (by rw [HFL.out]; exact Nat.le_refl _)] at hcv
          go_wp2_with fail
          go_ret
          exact ⟨by rw [HFE.out]; rfl, HBW.out.trans (HB2.out.mono HBW.out.size)⟩
theorem padded_any (key : List UInt8) (c : UInt8) (hk : key.length ≤ 140737488355200) (v : Value) (w : World) (hK : Kr v w) :
    Calls Tryz.prog 152 #[.string ⟨key.toArray⟩, .int .u8 (c.toNat : Int), v] w fun e w' => e = .returned (.string ⟨(turnedL (fillL key) c).toArray⟩) ∧ Below w.heap.size w w' := by
  by_cases h : 64 < key.length
  · exact padded_long key c h hk v w hK
  · exact padded_short key c (by omega) v w hK
set_option maxHeartbeats 4000000 in
set_option maxRecDepth 100000 in
theorem mac_ref (key s : List UInt8) (hk : key.length ≤ 140737488355200) (hs : s.length ≤ 140737488355100) (v : Value) (w : World) (hK : Kr v w) :
    Calls Tryz.prog 104 #[.string ⟨key.toArray⟩, .string ⟨s.toArray⟩, v] w fun e w' => e = .returned (.string ⟨(macL key s).toArray⟩) ∧ Below w.heap.size w w' := by
  have HP1 := Lib.hid (fun w h => padded_any key 92 hk v w h)
  have HP2 := Lib.hid (fun w h => padded_any key 54 hk v w h)
  have hl1 : (turnedL (fillL key) 92).length = 64 := by rw [turnedL, List.length_map, fill_length]
  have hl2 : (turnedL (fillL key) 54).length = 64 := by rw [turnedL, List.length_map, fill_length]
  have HS1 := Lib.hid (fun w h => sumK (turnedL (fillL key) 54 ++ s) (by rw [List.length_append, hl2]; omega) v w h)
  have HS2 := Lib.hid (fun w h => sumK (turnedL (fillL key) 92 ++ sumL (turnedL (fillL key) 54 ++ s)) (by rw [List.length_append, hl1, sum_length]; omega) v w h)
  have HM : Hid (macL key s = sumL (turnedL (fillL key) 92 ++ sumL (turnedL (fillL key) 54 ++ s))) := Lib.hid rfl
  have ha1 := app_ba (turnedL (fillL key) 54) s
  have ha2 := app_ba (turnedL (fillL key) 92) (sumL (turnedL (fillL key) 54 ++ s))
  have hls := sum_length (turnedL (fillL key) 54 ++ s)
  rw [← HM.out] at HS2
  have HK := Lib.hid hK
  clear hK HM
  generalize turnedL (fillL key) 92 ++ sumL (turnedL (fillL key) 54 ++ s) = q2 at HS2 ha2
  generalize sumL (turnedL (fillL key) 54 ++ s) = m1 at HS1 ha2 hls
  generalize turnedL (fillL key) 54 ++ s = q1 at HS1 ha1
  generalize turnedL (fillL key) 92 = k1 at HP1 ha2 hl1
  generalize turnedL (fillL key) 54 = k2 at HP2 ha1 hl2
  go_enter Tryz.func104, Tryz.ntmps104
  go_wp2_with fail
  refine (HP1.out _ HK.out).mono ?_
  rintro e w1 ⟨rfl, b1⟩
  have B1 := Lib.hid b1
  have HK1 := Lib.hid (HK.out.below b1)
  clear b1 HP1
  go_wp2_with fail
  refine (HP2.out _ HK1.out).mono ?_
  rintro e w2 ⟨rfl, b2⟩
  have B2 := Lib.hid (B1.out.trans (b2.mono B1.out.size))
  have HK2 := Lib.hid (HK1.out.below b2)
  clear b2 B1 HK1 HP2
  go_wp2_with fail
  refine (HS1.out _ HK2.out).mono ?_
  rintro e w3 ⟨rfl, b3⟩
  have B3 := Lib.hid (B2.out.trans (b3.mono B2.out.size))
  have HK3 := Lib.hid (HK2.out.below b3)
  clear b3 B2 HK2 HS1
  go_wp2_with fail
  refine (HS2.out _ HK3.out).mono ?_
  rintro e w4 ⟨rfl, b4⟩
  have B4 := Lib.hid (B3.out.trans (b4.mono B3.out.size))
  clear b4 B3 HK3 HS2
  go_wp2_with fail
  go_ret
  exact ⟨rfl, B4.out⟩
set_option maxHeartbeats 1000000 in
theorem Mac_ref (key s : List UInt8) (hk : key.length ≤ 140737488355200) (hs : s.length ≤ 140737488355100) (w : World) :
    Calls Tryz.prog 56 #[.string ⟨key.toArray⟩, .string ⟨s.toArray⟩] w fun e w' => e = .returned (.string ⟨(macL key s).toArray⟩) ∧ Below w.heap.size w w' := by
  have HM := Lib.hid (fun v w h => mac_ref key s hk hs v w h)
  clear hk hs
  go_enter Tryz.func56, Tryz.ntmps56
  go_wp2_with fail
  refine (keys_k _).mono ?_
  rintro e w1 ⟨⟨v, rfl, hk⟩, b1⟩
  have HK := Lib.hid hk
  have B1 := Lib.hid b1
  clear hk b1
  go_wp2_with fail
  refine (HM.out v _ HK.out).mono ?_
  rintro e w2 ⟨rfl, b2⟩
  have B2 := Lib.hid (B1.out.trans (b2.mono B1.out.size))
  clear b2 B1
  go_wp2_with fail
  go_ret
  exact ⟨rfl, B2.out⟩
end Go.Proofs.YtpggkfdijmnmiaaGreat.Hs
namespace Go.Proofs.YtpggkfdijmnmiaaGreat
open Go.RowKit Limbs
def txt (s : List UInt8) : Value := .string ⟨s.toArray⟩
set_option maxHeartbeats 8000000 in
theorem rkid_any (s : List UInt8) (hs : s.length ≤ 140737488351232) (w : World) : Calls Tryz.prog 77 #[.string ⟨s.toArray⟩] w fun e w' => e = .returned (.string ⟨(kidOf s).toArray⟩) ∧ Below w.heap.size w w' := by
  have HM := Lib.hid (fun w => Hs.Mac_ref [107, 105, 100] s (by decide) (by omega) w)
  have hl1 := macL_len [107, 105, 100] s
  have HB64 : Hid (∀ w, Calls Tryz.prog 40 #[.string ⟨((Hs.macL [107, 105, 100] s).take 9).toArray⟩] w fun e w' => e = .returned (.string ⟨(kidOf s).toArray⟩) ∧ Below w.heap.size w w') := Lib.hid fun w => by
    have h := Hs.rbase64_any ⟨((Hs.macL [107, 105, 100] s).take 9).toArray⟩ w (by show ((Hs.macL [107, 105, 100] s).take 9).toArray.size ≤ _; simp [macL_len])
    rw [Hs.r64_eq] at h
    exact h
  clear hs
  go_enter Tryz.func77, Tryz.ntmps77
  go_wp2_with fail
  refine (HM.out _).mono ?_
  rintro e w1 ⟨rfl, hb1⟩
  have hsz : (9 : Nat) ≤ (Hs.macL [107, 105, 100] s).length := by rw [hl1]; decide
  go_wp2_with fail
  rw [ba_take]
  refine (HB64.out _).mono ?_
  rintro e w2 ⟨rfl, hb2⟩
  go_wp2_with fail
  go_returns
  exact ⟨rfl, bthen hb1 hb2⟩
set_option maxHeartbeats 8000000 in
theorem rmackey_any (s : List UInt8) (hs : s.length ≤ 140737488351232) (w : World) : Calls Tryz.prog 81 #[.string ⟨s.toArray⟩] w fun e w' => e = .returned (.string ⟨(macOf s).toArray⟩) ∧ Below w.heap.size w w' := by
  have HM := Lib.hid (fun w => Hs.Mac_ref [109, 97, 99] s (by decide) (by omega) w)
  clear hs
  go_enter Tryz.func81, Tryz.ntmps81
  go_wp2_with fail
  refine (HM.out _).mono ?_
  rintro e w1 ⟨rfl, hb1⟩
  go_wp2_with fail
  go_returns
  exact ⟨rfl, hb1⟩
def Xg (B : Nat) (w : World) (x : Nat) (ss : List (List UInt8)) : Prop :=
  ∃ a c, Bk 46 w x #[.slice (some ⟨a, 0, none⟩) ss.length c] ∧ w.ownsRow B 9 1 (.slice (some ⟨a, 0, none⟩) ss.length c) ss.length (ss.map txt)
theorem Xg.below {B : Nat} {w w' : World} {x : Nat} {ss : List (List UInt8)} (h : Xg B w x ss) (hb : Below w.heap.size w w') : Xg B w' x ss := by
  obtain ⟨a, c, h1, h2⟩ := h
  exact ⟨a, c, h1.below hb, own_below h2 hb⟩
theorem row_at {B a n c i : Nat} {w : World} {T : TypeId} {l : List Value} {v : Value} (h : w.ownsRow B T 1 (.slice (some ⟨a, 0, none⟩) n c) n l) (hi : l[i]? = some v) : w.cell? ⟨a, i, none⟩ = some v := by
  have := h.cells (g := a) rfl i v hi
  by_cases h0 : i = 0
  · subst h0; simpa [Addr.add] using this
  · simpa [Addr.add, h0] using this
set_option maxHeartbeats 8000000 in
theorem rnewest_any {B : Nat} {w : World} {x : Nat} {ss : List (List UInt8)} {s : List UInt8} (h : Xg B w x (ss ++ [s])) (hl : ss.length ≤ 1000000) : Calls Tryz.prog 80 #[kpt x] w fun e w' => e = .returned (txt s) ∧ Below w.heap.size w w' := by
  obtain ⟨a, c, h1, h2⟩ := h
  have c1 : w.cell? ⟨a, ss.length, none⟩ = some (.string ⟨s.toArray⟩) := row_at h2 (by simp [txt])
  have c0 : w.cell? ⟨x, 0, none⟩ = some (.slice (some ⟨a, 0, none⟩) (ss.length + 1) c) := by
    have := h1.cell 0
    simpa using this
  clear h1 h2
  generalize ss.length = m at *
  have hi1 : (m : Int) < ((m : Int) + 1) := by omega
  have hw : IntKind.i64.wrap ((m : Int) + 1 - 1) = (m : Int) := by rw [show (m : Int) + 1 - 1 = (m : Int) by omega]; exact IntWalk.i64_in _ (by omega)
  unfold kpt txt
  go_enter Tryz.func80, Tryz.ntmps80
  go_wp2_with fail
  go_quiet (fail)
  go_wp2_with fail
  go_returns
  exact ⟨rfl, rfl, rfl, rfl, Nat.le_refl _, fun _ _ => rfl⟩
def findS : List (List UInt8) → List UInt8 → Nat → Int
  | [], _, _ => -1
  | s :: ss, n, i => if kidOf s = n then (i : Int) else findS ss n (i + 1)
theorem findS_drop (n : List UInt8) : ∀ (ss : List (List UInt8)) (i k : Nat), (∀ j (h : j < i) (h2 : j < ss.length), kidOf (ss[j]) ≠ n) → i ≤ ss.length → findS ss n k = findS (ss.drop i) n (k + i)
  | _, 0, k, _, _ => by simp
  | [], i + 1, k, _, hi => by simp at hi
  | s :: ss, i + 1, k, h, hi => by
    have h0 := h 0 (by omega) (by simp)
    rw [findS, if_neg (show ¬ kidOf s = n from h0), findS_drop n ss i (k + 1) (fun j hj h2 => h (j + 1) (by omega) (by simpa using h2)) (by simpa using hi), show k + 1 + i = k + (i + 1) by omega]
    rfl
set_option maxHeartbeats 8000000 in
theorem rfind_any {B : Nat} {w : World} {x : Nat} {ss : List (List UInt8)} (h : Xg B w x ss) (hl : ss.length ≤ 1000000) (hs : ∀ s ∈ ss, s.length ≤ 140737488351232) (n : List UInt8) : Calls Tryz.prog 76 #[kpt x, .string ⟨n.toArray⟩] w fun e w' => e = .returned (.int .i64 (findS ss n 0)) ∧ Below w.heap.size w w' := by
  have H := Lib.hid h
  have HS := Lib.hid hs
  clear h hs
  unfold kpt
  go_enter Tryz.func76, Tryz.ntmps76
  go_wp2_with fail
  go_loopw [5] (fun iv wr => ∃ i : Nat, i ≤ ss.length ∧ iv = .int .i64 (i : Int) ∧ Hid (Below w.heap.size w wr) ∧ ∀ j (h : j < i) (h2 : j < ss.length), kidOf (ss[j]) ≠ n) (fun iv _ => ss.length - (intOf iv).toNat)
  case atStart => exact ⟨0, Nat.zero_le _, rfl, Lib.hid (Below.refl _ _), fun j h => by omega⟩
  case round =>
    obtain ⟨i, hi, rfl, hb, hne⟩ := hrel
    have H1 := H.out.below hb.out
    obtain ⟨a, c, h1, h2⟩ := H1
    have hc : wr.cell? ⟨x, 0, none⟩ = some (.slice (some ⟨a, 0, none⟩) ss.length c) := h1.cell 0
    have HNE := Lib.hid hne
    clear hne h1
    by_cases hlt : i < ss.length
    · obtain ⟨s, hse⟩ : ∃ s, ss[i]'hlt = s := ⟨_, rfl⟩
      have c0 : wr.cell? ⟨a, i, none⟩ = some (.string ⟨s.toArray⟩) := row_at h2 (by rw [List.getElem?_map, List.getElem?_eq_getElem hlt, hse]; rfl)
      have HK := Lib.hid (fun w => rkid_any s (HS.out s (hse ▸ List.getElem_mem hlt)) w)
      have hltI : (i : Int) < (ss.length : Int) := by omega
      have HSE := Lib.hid hse
      clear h2 hse
      go_wp2_with fail
      refine (HK.out _).mono ?_
      rintro e w1 ⟨rfl, hb1⟩
      have HB1 := Lib.hid (bthen hb.out hb1)
      clear hb1 hc c0
      by_cases hq : kidOf s = n
      · have hbq : (kidOf s == n) = true := by simp [hq]
        have HF : Hid (findS ss n 0 = (i : Int)) := Lib.hid (by rw [findS_drop n ss i 0 HNE.out hi, List.drop_eq_getElem_cons hlt, HSE.out, findS, if_pos hq, Nat.zero_add])
        clear hq
        go_wp2_with fail
        go_returns
        rw [HF.out]
        exact ⟨rfl, HB1.out⟩
      · have hbq : (kidOf s == n) = false := by simp [hq]
        have HQ := Lib.hid hq
        clear hq
        go_wp2_with fail
        go_roundw
        case rel => exact ⟨i + 1, by omega, by go_num, HB1, fun j hj h2 => by
          rcases Nat.lt_succ_iff_lt_or_eq.1 hj with h1 | rfl
          · exact HNE.out j h1 h2
          · rw [HSE.out]; exact HQ.out⟩
        case measure => simp [intOf]; omega
    · have hie : i = ss.length := by omega
      have hltI : decide ((i : Int) < (ss.length : Int)) = false := decide_eq_false (by omega)
      have HF : Hid (findS ss n 0 = -1) := Lib.hid (by rw [findS_drop n ss i 0 HNE.out hi, hie, List.drop_length]; rfl)
      clear h2
      go_wp2_with fail
      go_returns
      rw [HF.out]
      exact ⟨rfl, hb.out⟩
end Go.Proofs.YtpggkfdijmnmiaaGreat
namespace Go.Proofs.YtpggkfdijmnmiaaGreat
open Go.RowKit Limbs
set_option maxHeartbeats 8000000 in
theorem rrmac_any {B : Nat} {w : World} {x : Nat} {ss : List (List UInt8)} {s : List UInt8} (h : Xg B w x (ss ++ [s])) (hl : ss.length ≤ 1000000) (hs : s.length ≤ 140737488351232) (t : List UInt8) (ht : t.length ≤ 140737488351232) : Calls Tryz.prog 25 #[kpt x, .string ⟨t.toArray⟩] w fun e w' => e = .returned (.tuple #[.string ⟨(kidOf s).toArray⟩, .string ⟨(Hs.macL (macOf s) t).toArray⟩]) ∧ Below w.heap.size w w' := by
  have H := Lib.hid h
  have HK := Lib.hid (fun w => rkid_any s hs w)
  have HY := Lib.hid (fun w => rmackey_any s hs w)
  have hml : (macOf s).length = 32 := macL_len _ _
  have HM := Lib.hid (fun w => Hs.Mac_ref (macOf s) t (by omega) (by omega) w)
  have hn := rnewest_any h hl
  have HL := Lib.hid hl
  unfold kpt txt at hn
  have HN := Lib.hid hn
  clear h hs ht hml hn hl
  unfold kpt
  go_enter Tryz.func25, Tryz.ntmps25
  go_wp2_with fail
  refine HN.out.mono ?_
  rintro e w1 ⟨rfl, hb1⟩
  go_wp2_with fail
  refine (HK.out _).mono ?_
  rintro e w2 ⟨rfl, hb2⟩
  have hn2 := rnewest_any (H.out.below (bthen hb1 hb2)) HL.out
  unfold kpt txt at hn2
  have HN2 := Lib.hid hn2
  clear hn2
  go_wp2_with fail
  refine HN2.out.mono ?_
  rintro e w3 ⟨rfl, hb3⟩
  go_wp2_with fail
  refine (HY.out _).mono ?_
  rintro e w4 ⟨rfl, hb4⟩
  go_wp2_with fail
  refine (HM.out _).mono ?_
  rintro e w5 ⟨rfl, hb5⟩
  go_wp2_with fail
  go_returns
  exact ⟨rfl, bthen (bthen (bthen (bthen hb1 hb2) hb3) hb4) hb5⟩
def vouS (ss : List (List UInt8)) (n s m : List UInt8) : Bool := match ss[(findS ss n 0).toNat]? with
  | some sd => decide (0 ≤ findS ss n 0) && decide (Hs.macL (macOf sd) s = m)
  | none => false
theorem findS_lt (n : List UInt8) : ∀ (ss : List (List UInt8)) (k : Nat), findS ss n k = -1 ∨ (k : Int) ≤ findS ss n k ∧ findS ss n k < (k : Int) + ss.length
  | [], k => .inl rfl
  | s :: ss, k => by
    rw [findS]
    by_cases h : kidOf s = n
    · rw [if_pos h]; right; simp; omega
    · rw [if_neg h]
      rcases findS_lt n ss (k + 1) with h1 | h1
      · exact .inl h1
      · right; simp; omega
set_option maxHeartbeats 8000000 in
theorem rvouch_any {B : Nat} {w : World} {x : Nat} {ss : List (List UInt8)} (h : Xg B w x ss) (hl : ss.length ≤ 1000000) (hs : ∀ s ∈ ss, s.length ≤ 140737488351232) (n s m : List UInt8) (hn : s.length ≤ 140737488351232) : Calls Tryz.prog 27 #[kpt x, .string ⟨n.toArray⟩, .string ⟨s.toArray⟩, .string ⟨m.toArray⟩] w fun e w' => e = .returned (.bool (vouS ss n s m)) ∧ Below w.heap.size w w' := by
  have hf := rfind_any h hl hs n
  unfold kpt at hf
  have HF := Lib.hid hf
  have H := Lib.hid h
  rcases findS_lt n ss 0 with h1 | ⟨h1, h2⟩
  · have hv : vouS ss n s m = false := by unfold vouS; rw [h1]; cases ss[(-1 : Int).toNat]? <;> rfl
    rw [hv]
    rw [h1] at HF
    clear hf h h1 hv
    unfold kpt
    go_enter Tryz.func27, Tryz.ntmps27
    go_wp2_with fail
    refine HF.out.mono ?_
    rintro e w1 ⟨rfl, hb1⟩
    go_wp2_with fail
    go_returns
    exact ⟨rfl, hb1⟩
  · obtain ⟨i, hi⟩ : ∃ i : Nat, findS ss n 0 = (i : Int) := ⟨(findS ss n 0).toNat, by omega⟩
    have hil : i < ss.length := by omega
    obtain ⟨sd, hsd⟩ : ∃ sd, ss[i]'hil = sd := ⟨_, rfl⟩
    have hv : vouS ss n s m = decide (Hs.macL (macOf sd) s = m) := by
      unfold vouS
      rw [hi, Int.toNat_natCast, List.getElem?_eq_getElem hil, hsd]
      simp
    rw [hv]
    rw [hi] at HF
    have HY := Lib.hid (fun w => rmackey_any sd (hs sd (hsd ▸ List.getElem_mem hil)) w)
    have hml : (macOf sd).length = 32 := macL_len _ _
    have HM := Lib.hid (fun w => Hs.Mac_ref (macOf sd) s (by omega) (by omega) w)
    have HE := Lib.hid (And.intro hil hsd)
    have hge : (0 : Int) ≤ (i : Int) := by omega
    have hilI : (i : Int) < (ss.length : Int) := by omega
    clear hf h h1 h2 hv hi hn hs hsd hml
    unfold kpt
    go_enter Tryz.func27, Tryz.ntmps27
    go_wp2_with fail
    refine HF.out.mono ?_
    rintro e w1 ⟨rfl, hb1⟩
    obtain ⟨a, c, k1, k2⟩ := H.out.below hb1
    have hc : w1.cell? ⟨x, 0, none⟩ = some (.slice (some ⟨a, 0, none⟩) ss.length c) := k1.cell 0
    have c0 : w1.cell? ⟨a, i, none⟩ = some (.string ⟨sd.toArray⟩) := row_at k2 (by rw [List.getElem?_map, List.getElem?_eq_getElem HE.out.1, HE.out.2]; rfl)
    clear k1 k2
    go_wp2_with fail
    refine (HY.out _).mono ?_
    rintro e w2 ⟨rfl, hb2⟩
    go_wp2_with fail
    refine (HM.out _).mono ?_
    rintro e w3 ⟨rfl, hb3⟩
    have hbq : (Hs.macL (macOf sd) s == m) = decide (Hs.macL (macOf sd) s = m) := by
      by_cases h : Hs.macL (macOf sd) s = m <;> simp [h]
    go_wp2_with fail
    go_returns
    exact ⟨by simp [hbq], bthen (bthen hb1 hb2) hb3⟩
end Go.Proofs.YtpggkfdijmnmiaaGreat
namespace Go.Proofs.YtpggkfdijmnmiaaGreat
open Go.RowKit Limbs
def kidT (s : List UInt8) : Value := .string ⟨(kidOf s).toArray⟩
set_option maxHeartbeats 16000000 in
theorem rkids_any {B : Nat} {w : World} {x : Nat} {ss : List (List UInt8)} (h : Xg B w x ss) (hl : ss.length ≤ 8) (hs : ∀ s ∈ ss, s.length ≤ 140737488351232) : Calls Tryz.prog 32 #[kpt x] w fun e w' => ∃ v, e = .returned v ∧ w'.ownsRow w.heap.size 9 1 v ss.length (ss.map kidT) ∧ Below w.heap.size w w' := by
  have H := Lib.hid h
  have HS := Lib.hid hs
  clear h hs
  have o0 : (w.alloc (.cells #[] 9)).ownsRow w.heap.size 9 1 (.slice (some ⟨w.heap.size, 0, none⟩) 0 0) 0 [] := ⟨rfl, .inr ⟨w.heap.size, 0, #[], rfl, Nat.le_refl _, heap_alloc_new w _, Nat.le_refl _, Nat.zero_le _, rfl, rfl⟩⟩
  have hb0 : Below w.heap.size w (w.alloc (.cells #[] 9)) := by go_grown
  unfold kpt
  go_enter Tryz.func32, Tryz.ntmps32
  go_wp2_with fail
  go_loopw [3, 4] (fun sv iv wr => ∃ i : Nat, i ≤ ss.length ∧ iv = .int .i64 (i : Int) ∧ Hid (wr.ownsRow w.heap.size 9 1 sv i ((ss.take i).map kidT)) ∧ Hid (Below w.heap.size w wr)) (fun _ iv _ => ss.length - (intOf iv).toNat)
  case atStart => exact ⟨0, Nat.zero_le _, rfl, Lib.hid o0, Lib.hid hb0⟩
  case round =>
    clear o0 hb0
    obtain ⟨i, hi, rfl, ho, hb⟩ := hrel
    obtain ⟨a, c, h1, h2⟩ := H.out.below hb.out
    have hc : wr.cell? ⟨x, 0, none⟩ = some (.slice (some ⟨a, 0, none⟩) ss.length c) := h1.cell 0
    clear h1
    by_cases hlt : i < ss.length
    · obtain ⟨s, hse⟩ : ∃ s, ss[i]'hlt = s := ⟨_, rfl⟩
      have c0 : wr.cell? ⟨a, i, none⟩ = some (.string ⟨s.toArray⟩) := row_at h2 (by rw [List.getElem?_map, List.getElem?_eq_getElem hlt, hse]; rfl)
      have HK := Lib.hid (fun w => rkid_any s (HS.out s (hse ▸ List.getElem_mem hlt)) w)
      have hltI : (i : Int) < (ss.length : Int) := by omega
      have HT : Hid ((ss.take (i + 1)).map kidT = (ss.take i).map kidT ++ [.string ⟨(kidOf s).toArray⟩]) := Lib.hid (by rw [List.take_add_one, List.getElem?_eq_getElem hlt, hse]; simp [kidT])
      clear h2 hse
      go_wp2_with fail
      refine (HK.out _).mono ?_
      rintro e w2 ⟨rfl, hb2⟩
      have hb3 := hb.out.trans (hb2.mono hb.out.size)
      have ho2 := own_below ho.out hb2
      clear hc c0
      go_wp2_with (at_builtin; refine apps _ _ _ rfl rfl rfl rfl ho2 hb3.size (by omega) ?_; intro v' w3 hv hG; obtain ⟨a2, c2, hv2⟩ := own_slice hv; subst hv2; have HV := Lib.hid hv; have HG := Lib.hid hG; clear hv hG)
      go_roundw
      case rel => exact ⟨i + 1, by omega, by go_num, Lib.hid (by rw [HT.out]; exact HV.out), Lib.hid ((hb3.alloc hb3.size _).grown HG.out (by have := hb3.size; simp; omega) (fun q hq => (World.ownsRow.lt ho2 q hq).1))⟩
      case measure => simp [intOf]; omega
    · have hie : i = ss.length := by omega
      have hltI : decide ((i : Int) < (ss.length : Int)) = false := decide_eq_false (by omega)
      clear h2
      go_wp2_with fail
      go_returns
      refine ⟨_, rfl, ?_, hb.out⟩
      have := ho.out
      rw [hie, List.take_length] at this
      exact this
theorem take_same {k l : List (List UInt8)} {i : Nat} (hk : i < k.length) (hl : i < l.length) (h : k.take i = l.take i) (he : k[i] = l[i]) : k.take (i + 1) = l.take (i + 1) := by
  rw [List.take_add_one, List.take_add_one, List.getElem?_eq_getElem hk, List.getElem?_eq_getElem hl, h, he]
theorem row_slice {B n : Nat} {w : World} {T : TypeId} {v : Value} {l : List Value} (h : w.ownsRow B T 1 v n l) : ∃ p c, v = .slice p n c ∧ ∀ w', Below w.heap.size w w' → ∀ i x, l[i]? = some x → ∃ a, p = some ⟨a, 0, none⟩ ∧ w'.cell? ⟨a, i, none⟩ = some x := by
  have h0 := h
  rcases h.2 with ⟨h1, h2⟩ | ⟨g', cap, cur', hx, _⟩
  · subst h1; subst h2
    exact ⟨none, 0, rfl, fun w' _ i x hi => by have := h.1; cases l with | nil => simp at hi | cons => simp at this⟩
  · subst hx
    exact ⟨some ⟨g', 0, none⟩, cap, rfl, fun w' hb i x hi => ⟨g', rfl, row_at (own_below h0 hb) hi⟩⟩
set_option maxHeartbeats 8000000 in
theorem sameTexts_any {A B : Nat} {w : World} {v u : Value} {k l : List (List UInt8)} (hv : w.ownsRow A 9 1 v k.length (k.map txt)) (hu : w.ownsRow B 9 1 u l.length (l.map txt)) (hk : k.length ≤ 1000000) (hl : l.length ≤ 1000000) : Calls Tryz.prog 30 #[v, u] w fun e w' => e = .returned (.bool (decide (k = l))) ∧ Below w.heap.size w w' := by
  obtain ⟨p, c, rfl, hp⟩ := row_slice hv
  obtain ⟨q, d, rfl, hq⟩ := row_slice hu
  have HP := Lib.hid hp
  have HQ := Lib.hid hq
  clear hv hu hp hq
  by_cases hn : k.length = l.length
  · rw [hn]
    have hb0 : ((l.length : Int) == (l.length : Int)) = true := by simp
    go_enter Tryz.func30, Tryz.ntmps30
    go_wp2_with fail
    go_loopw [5] (fun iv wr => ∃ i : Nat, i ≤ l.length ∧ iv = .int .i64 (i : Int) ∧ Hid (Below w.heap.size w wr) ∧ Hid (k.take i = l.take i)) (fun iv _ => l.length - (intOf iv).toNat)
    case atStart => exact ⟨0, Nat.zero_le _, rfl, Lib.hid (Below.refl _ _), Lib.hid (by simp)⟩
    case round =>
      obtain ⟨i, hi, rfl, hbw, ht⟩ := hrel
      by_cases hlt : i < l.length
      · have hlk : i < k.length := by omega
        obtain ⟨s, hs⟩ : ∃ s, k[i]'hlk = s := ⟨_, rfl⟩
        obtain ⟨t, hte⟩ : ∃ t, l[i]'hlt = t := ⟨_, rfl⟩
        obtain ⟨a, rfl, ha⟩ := HP.out wr hbw.out i (txt s) (by rw [List.getElem?_map, List.getElem?_eq_getElem hlk, hs]; rfl)
        obtain ⟨b, rfl, hb⟩ := HQ.out wr hbw.out i (txt t) (by rw [List.getElem?_map, List.getElem?_eq_getElem hlt, hte]; rfl)
        have c0 : wr.cell? ⟨a, i, none⟩ = some (.string ⟨s.toArray⟩) := ha
        have c1 : wr.cell? ⟨b, i, none⟩ = some (.string ⟨t.toArray⟩) := hb
        have hltI : (i : Int) < (l.length : Int) := by omega
        have HE := Lib.hid (And.intro hs hte)
        clear ha hb hs hte
        by_cases hq : s = t
        · have hbq : (s == t) = true := by simp [hq]
          have HQ2 := Lib.hid hq
          clear hq
          go_wp2_with fail
          go_quiet (fail)
          go_wp2_with fail
          go_roundw
          case rel => exact ⟨i + 1, by omega, by go_num, Lib.hid (bthen hbw.out ⟨rfl, rfl, rfl, Nat.le_refl _, fun _ _ => rfl⟩), Lib.hid (take_same hlk hlt ht.out (by rw [HE.out.1, HE.out.2, HQ2.out]))⟩
          case measure => simp [intOf]; omega
        · have hbq : (s == t) = false := by simp [hq]
          have HF : Hid (decide (k = l) = false) := Lib.hid (decide_eq_false fun e => hq (by rw [← HE.out.1, ← HE.out.2]; subst e; rfl))
          clear hq
          go_wp2_with fail
          go_quiet (fail)
          go_wp2_with fail
          go_returns
          rw [HF.out]
          exact ⟨rfl, bthen hbw.out ⟨rfl, rfl, rfl, Nat.le_refl _, fun _ _ => rfl⟩⟩
      · have hie : i = l.length := by omega
        have hltI : decide ((i : Int) < (l.length : Int)) = false := decide_eq_false (by omega)
        have HF : Hid (decide (k = l) = true) := Lib.hid (decide_eq_true (by have := ht.out; rwa [hie, List.take_length, ← hn, List.take_length] at this))
        go_wp2_with fail
        go_returns
        rw [HF.out]
        exact ⟨rfl, hbw.out⟩
  · have hb0 : ((k.length : Int) == (l.length : Int)) = false := by simp; omega
    have HF : Hid (decide (k = l) = false) := Lib.hid (decide_eq_false fun e => hn (by rw [e]))
    clear hn
    go_enter Tryz.func30, Tryz.ntmps30
    go_wp2_with fail
    go_returns
    rw [HF.out]
    exact ⟨rfl, Below.refl _ _⟩
end Go.Proofs.YtpggkfdijmnmiaaGreat
namespace Go.Proofs.YtpggkfdijmnmiaaGreat
open Go.RowKit Limbs
theorem row_news {B p n c : Nat} {w : World} {T : TypeId} {l : List Value} (h : w.ownsRow B T 1 (.slice (some ⟨p, 0, none⟩) n c) n l) : ∀ j u, l[j]? = some u → w.cell? ((⟨p, 0, none⟩ : Addr).add j) = some u := fun j u hu => by
  have := row_at h hu
  by_cases h0 : j = 0
  · subst h0; simpa [Addr.add] using this
  · simpa [Addr.add, h0] using this
theorem row_empty (w : World) (T : TypeId) : (w.alloc (.cells #[] T)).ownsRow w.heap.size T 1 (.slice (some ⟨w.heap.size, 0, none⟩) 0 0) 0 [] := ⟨rfl, .inr ⟨w.heap.size, 0, #[], rfl, Nat.le_refl _, heap_alloc_new w _, Nat.le_refl _, Nat.zero_le _, rfl, rfl⟩⟩
theorem row_len {B n : Nat} {w : World} {T : TypeId} {v : Value} {l : List Value} (h : w.ownsRow B T 1 v n l) : l.length = n := by
  have := h.1
  simpa using this
theorem capps {ops : Array Oper} {rest : List Oper} {o : Oper} {a : Act} {Q : Exit → Act → World → Prop} {w : World} {B p n c : Nat} {l : List Value} (s x : Operand) (hgd : o.guard = none)
    (ho : o.op = .call { callee := .builtin .append, args := #[s, x], argTypes := #[44, 44] }) (hs : a.eval s = .slice (some ⟨w.heap.size, 0, none⟩) 0 0) (hx : a.eval x = .slice (some ⟨p, 0, none⟩) n c)
    (hI : w.ownsRow B 9 1 (.slice (some ⟨p, 0, none⟩) n c) n l) (hone : ∀ u ∈ l, u.oneCell' = true) (hlen : n ≤ 1000000)
    (h : ∀ v' w', w'.ownsRow w.heap.size 9 1 v' n l → (w.alloc (.cells #[] 9)).grownBy w' (some w.heap.size) → wpList Tryz.prog ops Q rest (a.put o.dst v') w') : wpList Tryz.prog ops Q (o :: rest) a (w.alloc (.cells #[] 9)) := by
  obtain ⟨i0, hi, hz0, hz1, hz2⟩ := info_parts infoStr
  refine wpList_append_own _ hgd s x 44 ho w.heap.size 9 i0 (.string ⟨#[]⟩) 1 16 Tryz.underlying44 hi hz0 hz1 hz2 rfl (by decide) (.slice (some ⟨w.heap.size, 0, none⟩) 0 0) 0 [] hs (row_empty w 9) ⟨p, 0, none⟩ n c l hx (by rw [row_len hI, Nat.mul_one]) (row_news (hI.alloc _)) hone (by unfold maxLen; omega) (by omega) (by simp) ?_
  intro v' w' h1 h2 _
  rw [Nat.zero_add, List.nil_append] at h1
  exact h v' w' h1 h2
theorem cappk {ops : Array Oper} {rest : List Oper} {o : Oper} {a : Act} {Q : Exit → Act → World → Prop} {w : World} {B p n c : Nat} {l : List Value} (s x : Operand) (hgd : o.guard = none)
    (ho : o.op = .call { callee := .builtin .append, args := #[s, x], argTypes := #[105, 105] }) (hs : a.eval s = .slice (some ⟨w.heap.size, 0, none⟩) 0 0) (hx : a.eval x = .slice (some ⟨p, 0, none⟩) n c)
    (hI : w.ownsRow B 103 1 (.slice (some ⟨p, 0, none⟩) n c) n l) (hone : ∀ u ∈ l, u.oneCell' = true) (hlen : n ≤ 1000000)
    (h : ∀ v' w', w'.ownsRow w.heap.size 103 1 v' n l → (w.alloc (.cells #[] 103)).grownBy w' (some w.heap.size) → wpList Tryz.prog ops Q rest (a.put o.dst v') w') : wpList Tryz.prog ops Q (o :: rest) a (w.alloc (.cells #[] 103)) := by
  obtain ⟨i0, hi, hz0, hz1, hz2⟩ := info_parts infoKey
  refine wpList_append_own _ hgd s x 105 ho w.heap.size 103 i0 (.pointer none) 1 8 Tryz.underlying105 hi hz0 hz1 hz2 rfl (by decide) (.slice (some ⟨w.heap.size, 0, none⟩) 0 0) 0 [] hs (row_empty w 103) ⟨p, 0, none⟩ n c l hx (by rw [row_len hI, Nat.mul_one]) (row_news (hI.alloc _)) hone (by unfold maxLen; omega) (by omega) (by simp) ?_
  intro v' w' h1 h2 _
  rw [Nat.zero_add, List.nil_append] at h1
  exact h v' w' h1 h2
theorem grown_fresh {w w' : World} {T : TypeId} (hG : (w.alloc (.cells #[] T)).grownBy w' (some w.heap.size)) : Below w.heap.size w w' :=
  ((Below.refl w.heap.size w).alloc (Nat.le_refl _) (.cells #[] T)).grown hG (by simp) (fun q hq => by injection hq with hq; omega)
theorem own_slice0 {B n : Nat} {w : World} {v : Value} {l : List Value} {T : TypeId} (h : w.ownsRow B T 1 v n l) (hn : 0 < n) : ∃ a c, v = .slice (some ⟨a, 0, none⟩) n c := by
  obtain ⟨m, rfl⟩ : ∃ m, n = m + 1 := ⟨n - 1, by omega⟩
  exact own_slice h
set_option maxHeartbeats 8000000 in
theorem rclone_any {B : Nat} {w : World} {x : Nat} {ss : List (List UInt8)} (h : Xg B w x ss) (hl : ss.length ≤ 1000000) (hn : ss ≠ []) : Calls Tryz.prog 29 #[kpt x] w fun e w' => ∃ y, e = .returned (kpt y) ∧ Xg w.heap.size w' y ss ∧ w.heap.size ≤ y ∧ Below w.heap.size w w' := by
  obtain ⟨a, c, h1, h2⟩ := h
  have c0 : w.cell? ⟨x, 0, none⟩ = some (.slice (some ⟨a, 0, none⟩) ss.length c) := h1.cell 0
  have c1 : (w.alloc (.cells #[] 9)).cell? ⟨x, 0, none⟩ = some (.slice (some ⟨a, 0, none⟩) ss.length c) := (Bk.alloc h1).cell 0
  have H2 := Lib.hid h2
  have HN : Hid (0 < ss.length) := Lib.hid (List.length_pos_iff.2 hn)
  clear h1 h2 hn
  unfold kpt
  go_enter Tryz.func29, Tryz.ntmps29
  go_wp2_with (at_builtin; refine capps _ _ rfl rfl rfl rfl H2.out (by intro u hu; rw [List.mem_map] at hu; obtain ⟨s, _, rfl⟩ := hu; rfl) hl ?_; intro v' w3 hv hG; obtain ⟨a2, c2, hv2⟩ := own_slice0 hv HN.out; subst hv2; have HV := Lib.hid hv; have HG := Lib.hid hG; clear hv hG)
  go_returns
  have hb := grown_fresh HG.out
  have hbn : Below w3.heap.size w3 (w3.alloc (.cells #[.slice (some ⟨a2, 0, none⟩) ss.length c2] 46)) := by go_grown
  exact ⟨_, rfl, ⟨a2, c2, Bk.new rfl, own_below HV.out hbn⟩, hb.size, bthen hb hbn⟩
set_option maxHeartbeats 8000000 in
theorem kclone_any {B : Nat} {w : World} {a n c : Nat} {l : List Value} (h : w.ownsRow B 103 1 (.slice (some ⟨a, 0, none⟩) n c) n l) (hone : ∀ u ∈ l, u.oneCell' = true) (hl : n ≤ 1000000) : Calls Tryz.prog 83 #[.slice (some ⟨a, 0, none⟩) n c] w fun e w' => ∃ v, e = .returned v ∧ w'.ownsRow w.heap.size 103 1 v n l ∧ Below w.heap.size w w' := by
  have H := Lib.hid h
  have HO := Lib.hid hone
  have hq : ∀ w, (binOp .eql 105 (.slice (some ⟨a, 0, none⟩) n c) (.slice none 0 0)).run Tryz.prog w = .ok (.bool false) w := fun w => Lib.run_eql_slice_nil w _ _ _ _ _ _ _ Tryz.underlying105
  clear h hone
  go_enter Tryz.func83, Tryz.ntmps83
  go_wp2_with (at_builtin; refine cappk _ _ rfl rfl rfl rfl H.out HO.out hl ?_; intro v' w3 hv hG; have HV := Lib.hid hv; have HG := Lib.hid hG; clear hv hG)
  go_returns
  exact ⟨_, rfl, HV.out, grown_fresh HG.out⟩
set_option maxHeartbeats 8000000 in
theorem clone_any {B : Nat} {w : World} {r : Nat} {ks : List (Nat × List UInt8)} (h : Rg B w r ks) (hl : ks.length ≤ 1000000) (hn : ks ≠ []) : Calls Tryz.prog 28 #[kpt r] w fun e w' => ∃ y, e = .returned (kpt y) ∧ Rg w.heap.size w' y ks ∧ w.heap.size ≤ y ∧ Below w.heap.size w w' := by
  obtain ⟨a, c, h1, h2, h3⟩ := h
  have c0 : w.cell? ⟨r, 0, none⟩ = some (.slice (some ⟨a, 0, none⟩) ks.length c) := h1.cell 0
  have HK := Lib.hid (kclone_any h2 (by intro u hu; rw [List.mem_map] at hu; obtain ⟨k, _, rfl⟩ := hu; rfl) hl)
  have H3 := Lib.hid h3
  have HN : Hid (0 < ks.length) := Lib.hid (List.length_pos_iff.2 hn)
  clear h1 h2 h3 hn
  unfold kpt
  go_enter Tryz.func28, Tryz.ntmps28
  go_wp2_with fail
  refine HK.out.mono ?_
  rintro e w1 ⟨v, rfl, ho, hb⟩
  obtain ⟨a2, c2, rfl⟩ := own_slice0 ho HN.out
  have HV := Lib.hid ho
  clear ho
  go_wp2_with fail
  go_returns
  have hbn : Below w1.heap.size w1 (w1.alloc (.cells #[.slice (some ⟨a2, 0, none⟩) ks.length c2] 107)) := by go_grown
  exact ⟨_, rfl, ⟨a2, c2, Bk.new rfl, own_below HV.out hbn, fun k hk => (H3.out k hk).below (bthen hb hbn)⟩, hb.size, bthen hb hbn⟩
end Go.Proofs.YtpggkfdijmnmiaaGreat
