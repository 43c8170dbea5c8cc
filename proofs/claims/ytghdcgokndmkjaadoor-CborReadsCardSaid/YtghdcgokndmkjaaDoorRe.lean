/- The document's reader: what its item answers where keys and values are read. Conditions: at most 4096 bytes; the library's tables. -/
import Derived.Test.YtghdcgokndmkjaaDoorRd
import Derived.Test.YtghdcgokndmkjaaDoorY
set_option linter.unusedVariables false
set_option linter.unusedSimpArgs false
set_option maxRecDepth 100000
namespace Go.Proofs.YtghdcgokndmkjaaDoor
open Go.RowKit Go.Sort

theorem less_tri : ∀ a b : List UInt8, Op.bytesLess a b = false → Op.bytesLess b a = true ∨ b = a
  | [], [], _ => .inr rfl
  | [], _ :: _, h => by simp [Op.bytesLess] at h
  | _ :: _, [], _ => .inl (by simp [Op.bytesLess])
  | x :: a, y :: b, h => by
    unfold Op.bytesLess at h ⊢
    by_cases h1 : x < y
    · simp [h1] at h
    · by_cases h2 : x = y
      · subst h2
        simp at h ⊢
        exact less_tri a b h
      · have h3 : y < x := by
          apply UInt8.lt_iff_toNat_lt.2
          have h4 : ¬ x.toNat < y.toNat := fun e => h1 (UInt8.lt_iff_toNat_lt.2 e)
          have h5 : x.toNat ≠ y.toNat := fun e => h2 (UInt8.toNat_inj.1 e)
          omega
        simp [h3]
theorem less_asym : ∀ a b : List UInt8, Op.bytesLess a b = true → Op.bytesLess b a = false ∧ (b == a) = false
  | [], [], h => by simp [Op.bytesLess] at h
  | [], _ :: _, _ => by simp [Op.bytesLess]
  | _ :: _, [], h => by simp [Op.bytesLess] at h
  | x :: a, y :: b, h => by
    unfold Op.bytesLess at h ⊢
    by_cases h1 : x < y
    · have h3 : ¬ y < x := fun e => by
        have e1 := UInt8.lt_iff_toNat_lt.1 e
        have e2 := UInt8.lt_iff_toNat_lt.1 h1
        omega
      have h4 : ¬ y = x := fun e => by subst e; exact h3 h1
      simp [h3, h4]
    · by_cases h2 : x = y
      · subst h2
        simp at h ⊢
        have := less_asym a b h
        simpa using this
      · simp [h1, h2] at h
set_option maxHeartbeats 4000000 in
theorem fitem_map (V : List UInt8 → Bool) (d br : Nat) (s : List UInt8) (a o : Nat) (n m : Nat) (f : List UInt8 → Res It) (w : World) (hR : Rf br s a w) (hs : s.length ≤ 4096) (ha : a ≤ s.length) (ho : o ≤ 16) (hh : hd (s.drop a) = some (5, n, m)) (h16 : o < 16) (hT : Tb w) (hbr : 2 ≤ br)
    (ih : ∀ (a : Nat) (w : World), Tb w → Rf br s a w → a ≤ s.length → Calls Tryd.prog 19 #[.pointer (some ⟨br, 0, none⟩), .int .i64 ((o : Int) + 1)] w fun e w' => RfR d br s (a + 1) w w' (f (s.drop a)) e) :
    Calls Tryd.prog 19 #[.pointer (some ⟨br, 0, none⟩), .int .i64 (o : Int)] w fun e w' => RfR (d + 1) br s (a + 1) w w' (item V (some f) (s.drop a)) e := by
  have hal : Below w.heap.size w (w.alloc (.cells #[.int .i64 0, .int .i64 0, .string ⟨#[]⟩, .slice none 0 0] 24)) := (Below.refl _ _).alloc (Nat.le_refl _) _
  have HR := Lib.hid (hR.below hal)
  have HA := Lib.hid hal
  have hlt := hR.lt
  have HQ := Lib.hid (Go.heap_alloc_new w (.cells #[.int .i64 0, .int .i64 0, .string ⟨#[]⟩, .slice none 0 0] 24))
  have HTb := Lib.hid hT
  have IH := Lib.hid ih
  clear hR hal hT ih
  go_enter Tryd.func19, Tryd.ntmps19
  go_wp2_with fail
  refine (fhead_yes br s a 5 n m _ HR.out hs ha hh (by omega)).mono ?_
  rintro e w1 ⟨rfl, r1, k1⟩
  have hbd := hd_bound hh
  have hn : n ≤ 9223372036854775807 := hbd.2.1
  have hm1 : 1 ≤ m := hbd.2.2.1
  have hml : a + m ≤ s.length := by have := hbd.2.2.2; simp at this; omega
  obtain ⟨p, hp⟩ : ∃ p, p = a + m := ⟨_, rfl⟩
  rw [← hp] at r1 hml
  have hlo : a + 1 ≤ p := by omega
  have HE : Hid (item V (some f) (s.drop a) = body V (some f) 5 n (s.drop p)) := Lib.hid ((item_some hh).trans (by rw [List.drop_drop, ← hp]))
  have hs1 : w.heap.size + 1 ≤ w1.heap.size := by have := k1.size; simpa using this
  have Q1 := Lib.hid (k1.heap HQ.out (by omega))
  have K1 := Lib.hid ((Keeps.of HA.out).trans k1)
  have R1 := Lib.hid r1
  clear k1 r1 hh hbd hp hm1 HQ HA HR
  have hd2 : decide (16 ≤ (o : Int)) = false := by simp; omega
  have hal1 : Below w1.heap.size w1 (w1.alloc (.cells #[.int .i64 4, .int .i64 0, .string ⟨#[]⟩, .slice none 0 0] 24)) := (Below.refl _ _).alloc (Nat.le_refl _) _
  have R2 := Lib.hid (R1.out.below hal1)
  have K2 := Lib.hid (K1.out.below hal1)
  have Q2 := Lib.hid ((hal1.block _ (by omega)).trans Q1.out)
  have V2 := Lib.hid (Go.heap_alloc_new w1 (.cells #[.int .i64 4, .int .i64 0, .string ⟨#[]⟩, .slice none 0 0] 24))
  have hs2 : w1.heap.size + 1 ≤ (w1.alloc (.cells #[.int .i64 4, .int .i64 0, .string ⟨#[]⟩, .slice none 0 0] 24)).heap.size := by simp
  clear hal1 Q1 K1 R1
  go_wp2_with fail
  generalize hvb : w1.heap.size = vb at V2 hs1 hs2 ⊢
  generalize w1.alloc (.cells #[.int .i64 4, .int .i64 0, .string ⟨#[]⟩, .slice none 0 0] 24) = w2 at R2 K2 Q2 V2 hs2 ⊢
  clear hvb
  go_loopw [11, 12] (fun lv i wr => ∃ (k : Nat) (acc : List It) (a' : Nat) (vv : Value) (last : List UInt8), k ≤ n ∧ i = .int .i64 k ∧ lv = .string ⟨last.toArray⟩ ∧ acc.length = 2 * k ∧ p + 2 * k ≤ a' ∧ a' ≤ s.length ∧ Hid (Rf br s a' wr) ∧ Hid (Keeps br w wr) ∧ Hid (wr.heap[w.heap.size]? = some (.cells #[.int .i64 0, .int .i64 0, .string ⟨#[]⟩, .slice none 0 0] 24 (0, 0))) ∧
      Hid (wr.heap[vb]? = some (.cells #[.int .i64 4, .int .i64 0, .string ⟨#[]⟩, vv] 24 (0, 0))) ∧ vb < wr.heap.size ∧ Hid (Row d (w.heap.size + 1) vb wr vv acc) ∧ Hid (decP f n [] (s.drop p) = contN acc (decP f (n - k) last (s.drop a')))) (fun _ i _ => n - (intOf i).toNat)
  case atStart => exact ⟨0, [], p, _, [], by omega, rfl, rfl, rfl, by omega, hml, R2, K2, Q2, V2, by omega, Lib.hid (Row.nil _ _ _ _), Lib.hid (by rw [contN_nil]; rfl)⟩
  case round =>
    obtain ⟨k, acc, a', vv, last, hk, rfl, rfl, hacc, hka, ha', HRr, HKr, HQr, HVr, hvlt, HRow, HD⟩ := hrel
    by_cases hlk : k < n
    · have HAcc := Lib.hid hacc
      clear hacc
      have hwr : w.heap.size + 1 ≤ wr.heap.size := by have := (Array.getElem?_eq_some_iff.1 HQr.out).1; omega
      have hlen : acc.length ≤ 1073741824 := by have := HAcc.out; omega
      have HI := IH.out a' wr (HTb.out.keeps HKr.out hbr) HRr.out ha'
      obtain ⟨g0, g1, g2⟩ := HRr.out.facts
      match hres : f (s.drop a'), HI with
      | .error deep, HI =>
        have HE2 : Hid (item V (some f) (s.drop a) = .error deep) := Lib.hid (by
          rw [HE.out, body_5, HD.out, show n - k = (n - k - 1) + 1 from by omega, contP_err1 acc _ hres]; rfl)
        obtain ⟨N, hN, hN0⟩ : ∃ N : Int, errN deep = N ∧ N ≠ 0 := ⟨_, rfl, by cases deep <;> decide⟩
        have HIp : Hid (Calls Tryd.prog 19 #[.pointer (some ⟨br, 0, none⟩), .int .i64 ((o : Int) + 1)] wr fun e w' => e = .returned (.tuple #[.agg #[.int .i64 0, .int .i64 0, .string ⟨#[]⟩, .slice none 0 0], .int .i64 N]) ∧ Keeps br wr w') := Lib.hid (by rw [← hN]; exact HI)
        have hN1 : (N == 0) = false := by simpa using hN0
        have hN2 : decide (N = 0) = false := by simpa using hN0
        have hN3 : (N != 0) = true := by simpa using hN0
        have HN := Lib.hid hN
        clear HI hres hN
        go_wp2_with fail
        refine HIp.out.mono ?_
        rintro e w4 ⟨rfl, hF⟩
        have K4 := Lib.hid (HKr.out.trans hF)
        have Q4 := Lib.hid (hF.heap HQr.out (by omega))
        have hal4 : Below w4.heap.size w4 (w4.alloc (.cells #[.int .i64 0, .int .i64 0, .string ⟨#[]⟩, .slice none 0 0] 24)) := (Below.refl _ _).alloc (Nat.le_refl _) _
        have K5 := Lib.hid (K4.out.below hal4)
        have Q5 := Lib.hid ((hal4.block _ (Array.getElem?_eq_some_iff.1 Q4.out).1).trans Q4.out)
        clear hF hal4
        have c0 := cellOf Q5.out 0
        have c1 := cellOf Q5.out 1
        have c2 := cellOf Q5.out 2
        have c3 := cellOf Q5.out 3
        simp at c0 c1 c2 c3
        have f0 := Lib.frozen_of_heap Q5.out 0
        have f1 := Lib.frozen_of_heap Q5.out 1
        have f2 := Lib.frozen_of_heap Q5.out 2
        have f3 := Lib.frozen_of_heap Q5.out 3
        go_wp2_with fail
        go_quiet (fail)
        go_wp2_with fail
        refine bodyPost_ret (v := .tuple #[.agg #[.int .i64 0, .int .i64 0, .string ⟨#[]⟩, .slice none 0 0], .int .i64 N]) (by simp [results, Tryd.results19, go_sem, c0, c1, c2, c3]) rfl ?_
        rw [← HN.out]
        exact RfR.err deep HE2.out ((K5.out.drewN _).set4 (Nat.le_refl _))
      | .ok (key, rest), HI =>
        have HX : Hid (Calls Tryd.prog 19 #[.pointer (some ⟨br, 0, none⟩), .int .i64 ((o : Int) + 1)] wr fun e w4 => ∃ A4 c4 a4, c4 ≤ 9223372036854775807 ∧ a' + 1 ≤ a4 ∧ a4 ≤ s.length ∧ rest = s.drop a4 ∧ e = .returned (.tuple #[.agg #[.int .i64 key.kind, .int .i64 key.num, .string ⟨key.text.toArray⟩, .slice A4 key.list.length c4], .int .i64 0]) ∧
            OkG d vb br s a4 w w4 vv acc key A4 #[.int .i64 4, .int .i64 0, .string ⟨#[]⟩, vv] #[.int .i64 0, .int .i64 0, .string ⟨#[]⟩, .slice none 0 0]) := Lib.hid (HI.mono fun e w4 h => by
          obtain ⟨A4, c4, a4, h1, h2, h3, h4, h5, h6, h7, _, h8, h9⟩ := h
          exact ⟨A4, c4, a4, h1, h2, h3, h4, h5, OkG.of (vb := vb) (wr := wr) h6 h7 h8 h9 HKr.out HQr.out HVr.out HRow.out hlt (by omega)⟩)
        have HRes := Lib.hid hres
        clear HI hres
        go_wp2_with fail
        refine HX.out.mono ?_
        rintro e w4 ⟨A4, c4, a4, hc4, hlo4, ha4, hrest4, rfl, hok4⟩
        have HC : Hid ((s.drop a').take ((s.drop a').length - rest.length) = (s.drop a').take (a4 - a')) := Lib.hid (by rw [hrest4]; simp only [List.length_drop]; congr 1; omega)
        have hex : (⟨s.toArray⟩ : ByteArray).extract a' a4 = ⟨((s.drop a').take (a4 - a')).toArray⟩ := by
          have := ext_ba s a' (a4 - a')
          rwa [show a' + (a4 - a') = a4 from by omega] at this
        have HR4 := Lib.hid hrest4
        generalize (s.drop a').take (a4 - a') = C at HC hex ⊢
        have hal4 : Below w4.heap.size w4 (w4.alloc (.cells #[.int .i64 key.kind, .int .i64 key.num, .string ⟨key.text.toArray⟩, .slice A4 key.list.length c4] 24)) := (Below.refl _ _).alloc (Nat.le_refl _) _
        have HO5 := Lib.hid (hok4.below hal4)
        have HB5 := Lib.hid (Go.heap_alloc_new w4 (.cells #[.int .i64 key.kind, .int .i64 key.num, .string ⟨key.text.toArray⟩, .slice A4 key.list.length c4] 24))
        have hs5 : w4.heap.size + 1 ≤ (w4.alloc (.cells #[.int .i64 key.kind, .int .i64 key.num, .string ⟨key.text.toArray⟩, .slice A4 key.list.length c4] 24)).heap.size := by simp
        have hv4 : vb < w4.heap.size := (Array.getElem?_eq_some_iff.1 hok4.box).1
        have hw4 : w.heap.size + 1 ≤ w4.heap.size := (Array.getElem?_eq_some_iff.1 hok4.res).1
        clear hok4 hal4 hrest4 HX g0 g1 g2
        go_wp2_with fail
        generalize hkb : w4.heap.size = kb at HB5 hs5 hv4 hw4 ⊢
        generalize w4.alloc (.cells #[.int .i64 key.kind, .int .i64 key.num, .string ⟨key.text.toArray⟩, .slice A4 key.list.length c4] 24) = w5 at HO5 HB5 hs5 ⊢
        clear hkb
        obtain ⟨r0, r1, r2⟩ := HO5.out.rdr.facts
        have b0 := cellOf HB5.out 0
        have b1 := cellOf HB5.out 1
        have b2 := cellOf HB5.out 2
        have b3 := cellOf HB5.out 3
        simp at b0 b1 b2 b3
        have hza : (a' : Int) ≤ (a4 : Int) := by omega
        have hzb : (a4 : Int) ≤ (s.length : Int) := by omega
        have hzc : a' ≤ a4 := by omega
        have hsz : (⟨s.toArray⟩ : ByteArray).size = s.length := by simp [ByteArray.size]
        have key3 : (¬ key.kind = 0 ∧ ¬ key.kind = 2) ∨ (key.kind = 0 ∧ ¬ key.kind = 2) ∨ (¬ key.kind = 0 ∧ key.kind = 2) := by omega
        rcases key3 with ⟨hk0, hk2⟩ | ⟨hk0, hk2⟩ | ⟨hk0, hk2⟩
        · have HE2 : Hid (item V (some f) (s.drop a) = .error false) := Lib.hid (by
            rw [HE.out, body_5, HD.out, show n - k = (n - k - 1) + 1 from by omega, contP_bad acc _ HRes.out (by rw [HC.out]; simp [isKey, hk0, hk2])]; rfl)
          have c0 := cellOf HO5.out.res 0
          have c1 := cellOf HO5.out.res 1
          have c2 := cellOf HO5.out.res 2
          have c3 := cellOf HO5.out.res 3
          simp at c0 c1 c2 c3
          have f0 := Lib.frozen_of_heap HO5.out.res 0
          have f1 := Lib.frozen_of_heap HO5.out.res 1
          have f2 := Lib.frozen_of_heap HO5.out.res 2
          have f3 := Lib.frozen_of_heap HO5.out.res 3
          have kf0 : decide (key.kind = 0) = false := by simp; exact hk0
          have kg0 : (key.kind == 0) = false := by simp; exact hk0
          have kh0 : (key.kind != 0) = true := by simp; exact hk0
          have ki0 : decide (¬ key.kind = 0) = true := by simp; exact hk0
          have kf2 : decide (key.kind = 2) = false := by simp; exact hk2
          have kg2 : (key.kind == 2) = false := by simp; exact hk2
          have kh2 : (key.kind != 2) = true := by simp; exact hk2
          have ki2 : decide (¬ key.kind = 2) = true := by simp; exact hk2
          go_quiet (fail)
          go_wp2_with fail
          refine bodyPost_ret (v := .tuple #[.agg #[.int .i64 0, .int .i64 0, .string ⟨#[]⟩, .slice none 0 0], .int .i64 30]) (by simp [results, Tryd.results19, go_sem, c0, c1, c2, c3]) rfl ?_
          exact RfR.err false HE2.out ((HO5.out.keeps.drewN _).set4 (Nat.le_refl _))
        · have kf0 : decide (key.kind = 0) = true := by simp; exact hk0
          have kg0 : (key.kind == 0) = true := by simp; exact hk0
          have kh0 : (key.kind != 0) = false := by simp; exact hk0
          have ki0 : decide (¬ key.kind = 0) = false := by simp; exact hk0
          have kf2 : decide (key.kind = 2) = false := by simp; exact hk2
          have kg2 : (key.kind == 2) = false := by simp; exact hk2
          have kh2 : (key.kind != 2) = true := by simp; exact hk2
          have ki2 : decide (¬ key.kind = 2) = true := by simp; exact hk2
          by_cases hless : Op.bytesLess last C = true
          rotate_left
          · have hless : Op.bytesLess last C = false := by simpa using hless
            have HE2 : Hid (item V (some f) (s.drop a) = .error false) := Lib.hid (by
              rw [HE.out, body_5, HD.out, show n - k = (n - k - 1) + 1 from by omega, contP_bad acc _ HRes.out (by rw [HC.out, ← less_eq, hless]; simp)]; rfl)
            rcases less_tri _ _ hless with hl1 | hl1
            · have c0 := cellOf HO5.out.res 0
              have c1 := cellOf HO5.out.res 1
              have c2 := cellOf HO5.out.res 2
              have c3 := cellOf HO5.out.res 3
              simp at c0 c1 c2 c3
              have f0 := Lib.frozen_of_heap HO5.out.res 0
              have f1 := Lib.frozen_of_heap HO5.out.res 1
              have f2 := Lib.frozen_of_heap HO5.out.res 2
              have f3 := Lib.frozen_of_heap HO5.out.res 3
              go_quiet (fail)
              go_wp2_with fail
              refine bodyPost_ret (v := .tuple #[.agg #[.int .i64 0, .int .i64 0, .string ⟨#[]⟩, .slice none 0 0], .int .i64 30]) (by simp [results, Tryd.results19, go_sem, c0, c1, c2, c3]) rfl ?_
              exact RfR.err false HE2.out ((HO5.out.keeps.drewN _).set4 (Nat.le_refl _))
            · have hl2 : Op.bytesLess C last = false := by rw [hl1]; rw [hl1] at hless; exact hless
              have hl3 : (C == last) = true := by rw [hl1]; simp
              have c0 := cellOf HO5.out.res 0
              have c1 := cellOf HO5.out.res 1
              have c2 := cellOf HO5.out.res 2
              have c3 := cellOf HO5.out.res 3
              simp at c0 c1 c2 c3
              have f0 := Lib.frozen_of_heap HO5.out.res 0
              have f1 := Lib.frozen_of_heap HO5.out.res 1
              have f2 := Lib.frozen_of_heap HO5.out.res 2
              have f3 := Lib.frozen_of_heap HO5.out.res 3
              go_quiet (fail)
              go_wp2_with fail
              refine bodyPost_ret (v := .tuple #[.agg #[.int .i64 0, .int .i64 0, .string ⟨#[]⟩, .slice none 0 0], .int .i64 30]) (by simp [results, Tryd.results19, go_sem, c0, c1, c2, c3]) rfl ?_
              exact RfR.err false HE2.out ((HO5.out.keeps.drewN _).set4 (Nat.le_refl _))
          obtain ⟨hl1, hl2⟩ := less_asym _ _ hless
          have HCC : Hid ((isKey key && decide (last < (s.drop a').take ((s.drop a').length - rest.length))) = true) := Lib.hid (by rw [HC.out, ← less_eq, hless]; simp [isKey, hk0, hk2])
          have HEX := Lib.hid hex
          have HOq : Hid (∀ w5 : World, OkG d vb br s a4 w w5 vv acc key A4 #[.int .i64 4, .int .i64 0, .string ⟨#[]⟩, vv] #[.int .i64 0, .int .i64 0, .string ⟨#[]⟩, .slice none 0 0] → ∀ n, OkG d vb br s a4 w (w5.drewN n) vv acc key A4 #[.int .i64 4, .int .i64 0, .string ⟨#[]⟩, vv] #[.int .i64 0, .int .i64 0, .string ⟨#[]⟩, .slice none 0 0]) := Lib.hid (fun w5 h n => h.below ⟨rfl, rfl, rfl, Nat.le_refl _, fun _ _ => rfl⟩)
          go_quiet (fail)
          clear hk0 hk2 kf0 kg0 kh0 ki0 kf2 kg2 kh2 ki2 r0 r1 r2 b0 b1 b2 b3
          have HOa := Lib.hid (HOq.out _ HO5.out nq)
          have HBa : Hid ((w5.drewN nq).heap[kb]? = some (.cells #[.int .i64 key.kind, .int .i64 key.num, .string ⟨key.text.toArray⟩, .slice A4 key.list.length c4] 24 (0, 0))) := Lib.hid HB5.out
          have hsa : kb + 1 ≤ (w5.drewN nq).heap.size := hs5
          generalize w5.drewN nq = wa at HOa HBa hsa ⊢
          obtain ⟨r0, r1, r2⟩ := HOa.out.rdr.facts
          go_wp2_with fail
          go_quiet (fail)
          clear r0 r1 r2
          have HOb := Lib.hid (HOq.out _ HOa.out nq)
          have HBb : Hid ((wa.drewN nq).heap[kb]? = some (.cells #[.int .i64 key.kind, .int .i64 key.num, .string ⟨key.text.toArray⟩, .slice A4 key.list.length c4] 24 (0, 0))) := Lib.hid HBa.out
          have hsb : kb + 1 ≤ (wa.drewN nq).heap.size := hsa
          generalize wa.drewN nq = wb at HOb HBb hsb ⊢
          clear HO5 HB5 hs5 HOa HBa hsa HOq
          have x3 := cellOf HOb.out.box 3
          simp at x3
          have x4 := Lib.frozen_of_heap HOb.out.box 3
          have hWb : w.heap.size + 1 ≤ wb.heap.size := by omega
          have hVb : vb < wb.heap.size := by omega
          have b0 := cellOf HBb.out 0
          have b1 := cellOf HBb.out 1
          have b2 := cellOf HBb.out 2
          have b3 := cellOf HBb.out 3
          simp at b0 b1 b2 b3
          go_wp2_with (at_builtin; refine appRow (d := d) (W := w.heap.size + 1) (vb := vb) (w := wb) key A4 c4 rfl _ _ rfl rfl wb.heap.size rfl rfl HOb.out.row hWb hVb hlen HOb.out.sz hc4 HOb.out.rd ?_; intro g cap w6 row6 blk6 siz6 os6 tp6 out6 cel6 frz6; replace cel6 := cel6.trans x3; replace frz6 := frz6.trans x4; have HS := Lib.hid (HOb.out.step2 (.slice (some ⟨g, 0, none⟩) (acc.length + 1) cap) hlt (by omega) row6 blk6 siz6 os6 tp6 out6); clear row6 blk6 siz6 os6 tp6 out6 x3 x4)
          obtain ⟨s1, s2, s3, s4, s5, s6⟩ := HS.out
          have T1 := Lib.hid s1
          have T2 := Lib.hid s2
          have T3 := Lib.hid s3
          have T4 := Lib.hid s4
          have T6 := Lib.hid s6
          clear HS s1 s2 s3 s4 s6 cel6 frz6 HOb HBb hsb hWb hVb b0 b1 b2 b3 hex hza hzb hzc hl1 hl2 hless
          generalize hu : Value.slice (some ⟨g, 0, none⟩) (acc.length + 1) cap = u at T1 T2 T3 T4 T6 s5 ⊢
          clear hu
          generalize w6.setCell ⟨vb, 3, none⟩ u = w7 at T1 T2 T3 T4 T6 s5 ⊢
          have hlen2 : (acc ++ [key]).length ≤ 1073741824 := by have := HAcc.out; simp; omega
          have hw7 : w.heap.size + 1 ≤ w7.heap.size := by have := (Array.getElem?_eq_some_iff.1 T3.out).1; omega
          have HI := IH.out a4 w7 (HTb.out.keeps T2.out hbr) T1.out ha4
          clear HKr HQr HVr HRow HRr
          match hres2 : f (s.drop a4), HI with
          | .error deep, HI =>
            have hres3 : f rest = .error deep := by rw [HR4.out]; exact hres2
            have HE2 : Hid (item V (some f) (s.drop a) = .error deep) := Lib.hid (by
              rw [HE.out, body_5, HD.out, show n - k = (n - k - 1) + 1 from by omega, contP_err2 acc _ HRes.out HCC.out hres3]; rfl)
            obtain ⟨N, hN, hN0⟩ : ∃ N : Int, errN deep = N ∧ N ≠ 0 := ⟨_, rfl, by cases deep <;> decide⟩
            have HIp : Hid (Calls Tryd.prog 19 #[.pointer (some ⟨br, 0, none⟩), .int .i64 ((o : Int) + 1)] w7 fun e w' => e = .returned (.tuple #[.agg #[.int .i64 0, .int .i64 0, .string ⟨#[]⟩, .slice none 0 0], .int .i64 N]) ∧ Keeps br w7 w') := Lib.hid (by rw [← hN]; exact HI)
            have hN1 : (N == 0) = false := by simpa using hN0
            have hN2 : decide (N = 0) = false := by simpa using hN0
            have hN3 : (N != 0) = true := by simpa using hN0
            have HN := Lib.hid hN
            clear HI hres2 hres3 hN
            go_wp2_with fail
            refine HIp.out.mono ?_
            rintro e w4 ⟨rfl, hF⟩
            have K4 := Lib.hid (T2.out.trans hF)
            have Q4 := Lib.hid (hF.heap T3.out (by omega))
            have hal4 : Below w4.heap.size w4 (w4.alloc (.cells #[.int .i64 0, .int .i64 0, .string ⟨#[]⟩, .slice none 0 0] 24)) := (Below.refl _ _).alloc (Nat.le_refl _) _
            have K5 := Lib.hid (K4.out.below hal4)
            have Q5 := Lib.hid ((hal4.block _ (Array.getElem?_eq_some_iff.1 Q4.out).1).trans Q4.out)
            clear hF hal4
            have c0 := cellOf Q5.out 0
            have c1 := cellOf Q5.out 1
            have c2 := cellOf Q5.out 2
            have c3 := cellOf Q5.out 3
            simp at c0 c1 c2 c3
            have f0 := Lib.frozen_of_heap Q5.out 0
            have f1 := Lib.frozen_of_heap Q5.out 1
            have f2 := Lib.frozen_of_heap Q5.out 2
            have f3 := Lib.frozen_of_heap Q5.out 3
            go_wp2_with fail
            refine bodyPost_ret (v := .tuple #[.agg #[.int .i64 0, .int .i64 0, .string ⟨#[]⟩, .slice none 0 0], .int .i64 N]) (by simp [results, Tryd.results19, go_sem, c0, c1, c2, c3]) rfl ?_
            rw [← HN.out]
            exact RfR.err deep HE2.out (K5.out.set4 (Nat.le_refl _))
          | .ok (t, rest2), HI =>
            have HX2 : Hid (Calls Tryd.prog 19 #[.pointer (some ⟨br, 0, none⟩), .int .i64 ((o : Int) + 1)] w7 fun e w8 => ∃ A6 c6 a6, c6 ≤ 9223372036854775807 ∧ a4 + 1 ≤ a6 ∧ a6 ≤ s.length ∧ rest2 = s.drop a6 ∧ e = .returned (.tuple #[.agg #[.int .i64 t.kind, .int .i64 t.num, .string ⟨t.text.toArray⟩, .slice A6 t.list.length c6], .int .i64 0]) ∧
                OkG d vb br s a6 w w8 u (acc ++ [key]) t A6 #[.int .i64 4, .int .i64 0, .string ⟨#[]⟩, u] #[.int .i64 0, .int .i64 0, .string ⟨#[]⟩, .slice none 0 0]) := Lib.hid (HI.mono fun e w8 h => by
              obtain ⟨A6, c6, a6, h1, h2, h3, h4, h5, h6, h7, _, h8, h9⟩ := h
              exact ⟨A6, c6, a6, h1, h2, h3, h4, h5, OkG.of (vb := vb) (wr := w7) h6 h7 h8 h9 T2.out T3.out T4.out T6.out hlt (by omega)⟩)
            have HRes2 : Hid (f rest = .ok (t, rest2)) := Lib.hid (by rw [HR4.out]; exact hres2)
            clear HI hres2
            go_wp2_with fail
            refine HX2.out.mono ?_
            rintro e w8 ⟨A6, c6, a6, hc6, hlo6, ha6, hrest6, rfl, hok6⟩
            have HR6 := Lib.hid hrest6
            have hal8 : Below w8.heap.size w8 (w8.alloc (.cells #[.int .i64 t.kind, .int .i64 t.num, .string ⟨t.text.toArray⟩, .slice A6 t.list.length c6] 24)) := (Below.refl _ _).alloc (Nat.le_refl _) _
            have HO9 := Lib.hid (hok6.below hal8)
            have hs9 : w8.heap.size + 1 ≤ (w8.alloc (.cells #[.int .i64 t.kind, .int .i64 t.num, .string ⟨t.text.toArray⟩, .slice A6 t.list.length c6] 24)).heap.size := by simp
            have hv8 : vb < w8.heap.size := (Array.getElem?_eq_some_iff.1 hok6.box).1
            have hw8 : w.heap.size + 1 ≤ w8.heap.size := (Array.getElem?_eq_some_iff.1 hok6.res).1
            have v3 := cellOf HO9.out.box 3
            simp at v3
            have v4 := Lib.frozen_of_heap HO9.out.box 3
            have hW9 : w.heap.size + 1 ≤ (w8.alloc (.cells #[.int .i64 t.kind, .int .i64 t.num, .string ⟨t.text.toArray⟩, .slice A6 t.list.length c6] 24)).heap.size := by omega
            have hV9 : vb < (w8.alloc (.cells #[.int .i64 t.kind, .int .i64 t.num, .string ⟨t.text.toArray⟩, .slice A6 t.list.length c6] 24)).heap.size := by omega
            clear hok6 hal8 hrest6 HX2 hs9
            go_wp2_with (at_builtin; refine appRow (d := d) (W := w.heap.size + 1) (vb := vb) (w := w8.alloc (.cells #[.int .i64 t.kind, .int .i64 t.num, .string ⟨t.text.toArray⟩, .slice A6 t.list.length c6] 24)) t A6 c6 rfl _ _ rfl rfl (w8.heap.size + 1) (by simp) rfl HO9.out.row hW9 hV9 hlen2 HO9.out.sz hc6 HO9.out.rd ?_; intro g2 cap2 w10 row6 blk6 siz6 os6 tp6 out6 cel6 frz6; replace cel6 := cel6.trans v3; replace frz6 := frz6.trans v4; have HS2 := Lib.hid (HO9.out.step2 (.slice (some ⟨g2, 0, none⟩) ((acc ++ [key]).length + 1) cap2) hlt (by omega) row6 blk6 siz6 os6 tp6 out6); clear row6 blk6 siz6 os6 tp6 out6 v3 v4)
            obtain ⟨s1, s2, s3, s4, s5, s6⟩ := HS2.out
            have hlA : (acc ++ [key]).length = acc.length + 1 := by simp
            rw [hlA] at s1 s2 s3 s4 s5 s6
            have Y1 := Lib.hid s1
            have Y2 := Lib.hid s2
            have Y3 := Lib.hid s3
            have Y4 := Lib.hid s4
            have Y6 := Lib.hid s6
            clear HS2 s1 s2 s3 s4 s6 cel6 frz6
            go_roundw
            case rel => exact ⟨k + 1, acc ++ [key] ++ [t], a6, _, C, by omega, by go_num, by first | rfl | rw [HEX.out], by have := HAcc.out; simp; omega, by omega, ha6, Y1, Y2, Y3, Y4, s5, Y6, Lib.hid (by
                rw [HD.out, show n - k = (n - (k + 1)) + 1 from by omega, contP_ok acc _ HRes.out HCC.out HRes2.out, HC.out, HR6.out, List.append_assoc]; rfl)⟩
            case measure => simp [intOf]; omega
        · have kf0 : decide (key.kind = 0) = false := by simp; exact hk0
          have kg0 : (key.kind == 0) = false := by simp; exact hk0
          have kh0 : (key.kind != 0) = true := by simp; exact hk0
          have ki0 : decide (¬ key.kind = 0) = true := by simp; exact hk0
          have kf2 : decide (key.kind = 2) = true := by simp; exact hk2
          have kg2 : (key.kind == 2) = true := by simp; exact hk2
          have kh2 : (key.kind != 2) = false := by simp; exact hk2
          have ki2 : decide (¬ key.kind = 2) = false := by simp; exact hk2
          by_cases hless : Op.bytesLess last C = true
          rotate_left
          · have hless : Op.bytesLess last C = false := by simpa using hless
            have HE2 : Hid (item V (some f) (s.drop a) = .error false) := Lib.hid (by
              rw [HE.out, body_5, HD.out, show n - k = (n - k - 1) + 1 from by omega, contP_bad acc _ HRes.out (by rw [HC.out, ← less_eq, hless]; simp)]; rfl)
            rcases less_tri _ _ hless with hl1 | hl1
            · have c0 := cellOf HO5.out.res 0
              have c1 := cellOf HO5.out.res 1
              have c2 := cellOf HO5.out.res 2
              have c3 := cellOf HO5.out.res 3
              simp at c0 c1 c2 c3
              have f0 := Lib.frozen_of_heap HO5.out.res 0
              have f1 := Lib.frozen_of_heap HO5.out.res 1
              have f2 := Lib.frozen_of_heap HO5.out.res 2
              have f3 := Lib.frozen_of_heap HO5.out.res 3
              go_quiet (fail)
              go_wp2_with fail
              refine bodyPost_ret (v := .tuple #[.agg #[.int .i64 0, .int .i64 0, .string ⟨#[]⟩, .slice none 0 0], .int .i64 30]) (by simp [results, Tryd.results19, go_sem, c0, c1, c2, c3]) rfl ?_
              exact RfR.err false HE2.out ((HO5.out.keeps.drewN _).set4 (Nat.le_refl _))
            · have hl2 : Op.bytesLess C last = false := by rw [hl1]; rw [hl1] at hless; exact hless
              have hl3 : (C == last) = true := by rw [hl1]; simp
              have c0 := cellOf HO5.out.res 0
              have c1 := cellOf HO5.out.res 1
              have c2 := cellOf HO5.out.res 2
              have c3 := cellOf HO5.out.res 3
              simp at c0 c1 c2 c3
              have f0 := Lib.frozen_of_heap HO5.out.res 0
              have f1 := Lib.frozen_of_heap HO5.out.res 1
              have f2 := Lib.frozen_of_heap HO5.out.res 2
              have f3 := Lib.frozen_of_heap HO5.out.res 3
              go_quiet (fail)
              go_wp2_with fail
              refine bodyPost_ret (v := .tuple #[.agg #[.int .i64 0, .int .i64 0, .string ⟨#[]⟩, .slice none 0 0], .int .i64 30]) (by simp [results, Tryd.results19, go_sem, c0, c1, c2, c3]) rfl ?_
              exact RfR.err false HE2.out ((HO5.out.keeps.drewN _).set4 (Nat.le_refl _))
          obtain ⟨hl1, hl2⟩ := less_asym _ _ hless
          have HCC : Hid ((isKey key && decide (last < (s.drop a').take ((s.drop a').length - rest.length))) = true) := Lib.hid (by rw [HC.out, ← less_eq, hless]; simp [isKey, hk0, hk2])
          have HEX := Lib.hid hex
          have HOq : Hid (∀ w5 : World, OkG d vb br s a4 w w5 vv acc key A4 #[.int .i64 4, .int .i64 0, .string ⟨#[]⟩, vv] #[.int .i64 0, .int .i64 0, .string ⟨#[]⟩, .slice none 0 0] → ∀ n, OkG d vb br s a4 w (w5.drewN n) vv acc key A4 #[.int .i64 4, .int .i64 0, .string ⟨#[]⟩, vv] #[.int .i64 0, .int .i64 0, .string ⟨#[]⟩, .slice none 0 0]) := Lib.hid (fun w5 h n => h.below ⟨rfl, rfl, rfl, Nat.le_refl _, fun _ _ => rfl⟩)
          go_quiet (fail)
          clear hk0 hk2 kf0 kg0 kh0 ki0 kf2 kg2 kh2 ki2 r0 r1 r2 b0 b1 b2 b3
          have HOa := Lib.hid (HOq.out _ HO5.out nq)
          have HBa : Hid ((w5.drewN nq).heap[kb]? = some (.cells #[.int .i64 key.kind, .int .i64 key.num, .string ⟨key.text.toArray⟩, .slice A4 key.list.length c4] 24 (0, 0))) := Lib.hid HB5.out
          have hsa : kb + 1 ≤ (w5.drewN nq).heap.size := hs5
          generalize w5.drewN nq = wa at HOa HBa hsa ⊢
          obtain ⟨r0, r1, r2⟩ := HOa.out.rdr.facts
          go_wp2_with fail
          go_quiet (fail)
          clear r0 r1 r2
          have HOb := Lib.hid (HOq.out _ HOa.out nq)
          have HBb : Hid ((wa.drewN nq).heap[kb]? = some (.cells #[.int .i64 key.kind, .int .i64 key.num, .string ⟨key.text.toArray⟩, .slice A4 key.list.length c4] 24 (0, 0))) := Lib.hid HBa.out
          have hsb : kb + 1 ≤ (wa.drewN nq).heap.size := hsa
          generalize wa.drewN nq = wb at HOb HBb hsb ⊢
          clear HO5 HB5 hs5 HOa HBa hsa HOq
          have x3 := cellOf HOb.out.box 3
          simp at x3
          have x4 := Lib.frozen_of_heap HOb.out.box 3
          have hWb : w.heap.size + 1 ≤ wb.heap.size := by omega
          have hVb : vb < wb.heap.size := by omega
          have b0 := cellOf HBb.out 0
          have b1 := cellOf HBb.out 1
          have b2 := cellOf HBb.out 2
          have b3 := cellOf HBb.out 3
          simp at b0 b1 b2 b3
          go_wp2_with (at_builtin; refine appRow (d := d) (W := w.heap.size + 1) (vb := vb) (w := wb) key A4 c4 rfl _ _ rfl rfl wb.heap.size rfl rfl HOb.out.row hWb hVb hlen HOb.out.sz hc4 HOb.out.rd ?_; intro g cap w6 row6 blk6 siz6 os6 tp6 out6 cel6 frz6; replace cel6 := cel6.trans x3; replace frz6 := frz6.trans x4; have HS := Lib.hid (HOb.out.step2 (.slice (some ⟨g, 0, none⟩) (acc.length + 1) cap) hlt (by omega) row6 blk6 siz6 os6 tp6 out6); clear row6 blk6 siz6 os6 tp6 out6 x3 x4)
          obtain ⟨s1, s2, s3, s4, s5, s6⟩ := HS.out
          have T1 := Lib.hid s1
          have T2 := Lib.hid s2
          have T3 := Lib.hid s3
          have T4 := Lib.hid s4
          have T6 := Lib.hid s6
          clear HS s1 s2 s3 s4 s6 cel6 frz6 HOb HBb hsb hWb hVb b0 b1 b2 b3 hex hza hzb hzc hl1 hl2 hless
          generalize hu : Value.slice (some ⟨g, 0, none⟩) (acc.length + 1) cap = u at T1 T2 T3 T4 T6 s5 ⊢
          clear hu
          generalize w6.setCell ⟨vb, 3, none⟩ u = w7 at T1 T2 T3 T4 T6 s5 ⊢
          have hlen2 : (acc ++ [key]).length ≤ 1073741824 := by have := HAcc.out; simp; omega
          have hw7 : w.heap.size + 1 ≤ w7.heap.size := by have := (Array.getElem?_eq_some_iff.1 T3.out).1; omega
          have HI := IH.out a4 w7 (HTb.out.keeps T2.out hbr) T1.out ha4
          clear HKr HQr HVr HRow HRr
          match hres2 : f (s.drop a4), HI with
          | .error deep, HI =>
            have hres3 : f rest = .error deep := by rw [HR4.out]; exact hres2
            have HE2 : Hid (item V (some f) (s.drop a) = .error deep) := Lib.hid (by
              rw [HE.out, body_5, HD.out, show n - k = (n - k - 1) + 1 from by omega, contP_err2 acc _ HRes.out HCC.out hres3]; rfl)
            obtain ⟨N, hN, hN0⟩ : ∃ N : Int, errN deep = N ∧ N ≠ 0 := ⟨_, rfl, by cases deep <;> decide⟩
            have HIp : Hid (Calls Tryd.prog 19 #[.pointer (some ⟨br, 0, none⟩), .int .i64 ((o : Int) + 1)] w7 fun e w' => e = .returned (.tuple #[.agg #[.int .i64 0, .int .i64 0, .string ⟨#[]⟩, .slice none 0 0], .int .i64 N]) ∧ Keeps br w7 w') := Lib.hid (by rw [← hN]; exact HI)
            have hN1 : (N == 0) = false := by simpa using hN0
            have hN2 : decide (N = 0) = false := by simpa using hN0
            have hN3 : (N != 0) = true := by simpa using hN0
            have HN := Lib.hid hN
            clear HI hres2 hres3 hN
            go_wp2_with fail
            refine HIp.out.mono ?_
            rintro e w4 ⟨rfl, hF⟩
            have K4 := Lib.hid (T2.out.trans hF)
            have Q4 := Lib.hid (hF.heap T3.out (by omega))
            have hal4 : Below w4.heap.size w4 (w4.alloc (.cells #[.int .i64 0, .int .i64 0, .string ⟨#[]⟩, .slice none 0 0] 24)) := (Below.refl _ _).alloc (Nat.le_refl _) _
            have K5 := Lib.hid (K4.out.below hal4)
            have Q5 := Lib.hid ((hal4.block _ (Array.getElem?_eq_some_iff.1 Q4.out).1).trans Q4.out)
            clear hF hal4
            have c0 := cellOf Q5.out 0
            have c1 := cellOf Q5.out 1
            have c2 := cellOf Q5.out 2
            have c3 := cellOf Q5.out 3
            simp at c0 c1 c2 c3
            have f0 := Lib.frozen_of_heap Q5.out 0
            have f1 := Lib.frozen_of_heap Q5.out 1
            have f2 := Lib.frozen_of_heap Q5.out 2
            have f3 := Lib.frozen_of_heap Q5.out 3
            go_wp2_with fail
            refine bodyPost_ret (v := .tuple #[.agg #[.int .i64 0, .int .i64 0, .string ⟨#[]⟩, .slice none 0 0], .int .i64 N]) (by simp [results, Tryd.results19, go_sem, c0, c1, c2, c3]) rfl ?_
            rw [← HN.out]
            exact RfR.err deep HE2.out (K5.out.set4 (Nat.le_refl _))
          | .ok (t, rest2), HI =>
            have HX2 : Hid (Calls Tryd.prog 19 #[.pointer (some ⟨br, 0, none⟩), .int .i64 ((o : Int) + 1)] w7 fun e w8 => ∃ A6 c6 a6, c6 ≤ 9223372036854775807 ∧ a4 + 1 ≤ a6 ∧ a6 ≤ s.length ∧ rest2 = s.drop a6 ∧ e = .returned (.tuple #[.agg #[.int .i64 t.kind, .int .i64 t.num, .string ⟨t.text.toArray⟩, .slice A6 t.list.length c6], .int .i64 0]) ∧
                OkG d vb br s a6 w w8 u (acc ++ [key]) t A6 #[.int .i64 4, .int .i64 0, .string ⟨#[]⟩, u] #[.int .i64 0, .int .i64 0, .string ⟨#[]⟩, .slice none 0 0]) := Lib.hid (HI.mono fun e w8 h => by
              obtain ⟨A6, c6, a6, h1, h2, h3, h4, h5, h6, h7, _, h8, h9⟩ := h
              exact ⟨A6, c6, a6, h1, h2, h3, h4, h5, OkG.of (vb := vb) (wr := w7) h6 h7 h8 h9 T2.out T3.out T4.out T6.out hlt (by omega)⟩)
            have HRes2 : Hid (f rest = .ok (t, rest2)) := Lib.hid (by rw [HR4.out]; exact hres2)
            clear HI hres2
            go_wp2_with fail
            refine HX2.out.mono ?_
            rintro e w8 ⟨A6, c6, a6, hc6, hlo6, ha6, hrest6, rfl, hok6⟩
            have HR6 := Lib.hid hrest6
            have hal8 : Below w8.heap.size w8 (w8.alloc (.cells #[.int .i64 t.kind, .int .i64 t.num, .string ⟨t.text.toArray⟩, .slice A6 t.list.length c6] 24)) := (Below.refl _ _).alloc (Nat.le_refl _) _
            have HO9 := Lib.hid (hok6.below hal8)
            have hs9 : w8.heap.size + 1 ≤ (w8.alloc (.cells #[.int .i64 t.kind, .int .i64 t.num, .string ⟨t.text.toArray⟩, .slice A6 t.list.length c6] 24)).heap.size := by simp
            have hv8 : vb < w8.heap.size := (Array.getElem?_eq_some_iff.1 hok6.box).1
            have hw8 : w.heap.size + 1 ≤ w8.heap.size := (Array.getElem?_eq_some_iff.1 hok6.res).1
            have v3 := cellOf HO9.out.box 3
            simp at v3
            have v4 := Lib.frozen_of_heap HO9.out.box 3
            have hW9 : w.heap.size + 1 ≤ (w8.alloc (.cells #[.int .i64 t.kind, .int .i64 t.num, .string ⟨t.text.toArray⟩, .slice A6 t.list.length c6] 24)).heap.size := by omega
            have hV9 : vb < (w8.alloc (.cells #[.int .i64 t.kind, .int .i64 t.num, .string ⟨t.text.toArray⟩, .slice A6 t.list.length c6] 24)).heap.size := by omega
            clear hok6 hal8 hrest6 HX2 hs9
            go_wp2_with (at_builtin; refine appRow (d := d) (W := w.heap.size + 1) (vb := vb) (w := w8.alloc (.cells #[.int .i64 t.kind, .int .i64 t.num, .string ⟨t.text.toArray⟩, .slice A6 t.list.length c6] 24)) t A6 c6 rfl _ _ rfl rfl (w8.heap.size + 1) (by simp) rfl HO9.out.row hW9 hV9 hlen2 HO9.out.sz hc6 HO9.out.rd ?_; intro g2 cap2 w10 row6 blk6 siz6 os6 tp6 out6 cel6 frz6; replace cel6 := cel6.trans v3; replace frz6 := frz6.trans v4; have HS2 := Lib.hid (HO9.out.step2 (.slice (some ⟨g2, 0, none⟩) ((acc ++ [key]).length + 1) cap2) hlt (by omega) row6 blk6 siz6 os6 tp6 out6); clear row6 blk6 siz6 os6 tp6 out6 v3 v4)
            obtain ⟨s1, s2, s3, s4, s5, s6⟩ := HS2.out
            have hlA : (acc ++ [key]).length = acc.length + 1 := by simp
            rw [hlA] at s1 s2 s3 s4 s5 s6
            have Y1 := Lib.hid s1
            have Y2 := Lib.hid s2
            have Y3 := Lib.hid s3
            have Y4 := Lib.hid s4
            have Y6 := Lib.hid s6
            clear HS2 s1 s2 s3 s4 s6 cel6 frz6
            go_roundw
            case rel => exact ⟨k + 1, acc ++ [key] ++ [t], a6, _, C, by omega, by go_num, by first | rfl | rw [HEX.out], by have := HAcc.out; simp; omega, by omega, ha6, Y1, Y2, Y3, Y4, s5, Y6, Lib.hid (by
                rw [HD.out, show n - k = (n - (k + 1)) + 1 from by omega, contP_ok acc _ HRes.out HCC.out HRes2.out, HC.out, HR6.out, List.append_assoc]; rfl)⟩
            case measure => simp [intOf]; omega
    · have HE2 : Hid (item V (some f) (s.drop a) = .ok (.mk 4 0 [] acc, s.drop a')) := Lib.hid (by
        rw [HE.out, body_5, HD.out, show n - k = 0 from by omega]
        show finL 4 (.ok (acc ++ [], s.drop a')) = _
        rw [List.append_nil]; rfl)
      have HAcc : Hid (acc.length ≤ 1073741824) := Lib.hid (by omega)
      clear hacc
      obtain ⟨A, cap, rfl, hcap, hrd, htop⟩ := HRow.out.reads HAcc.out
      have HRD := Lib.hid hrd
      have HTop := Lib.hid htop
      have e0 := cellOf HVr.out 0
      have e1 := cellOf HVr.out 1
      have e2 := cellOf HVr.out 2
      have e3 := cellOf HVr.out 3
      have c0 := cellOf HQr.out 0
      have c1 := cellOf HQr.out 1
      have c2 := cellOf HQr.out 2
      have c3 := cellOf HQr.out 3
      simp at e0 e1 e2 e3 c0 c1 c2 c3
      have y0 := Lib.frozen_of_heap HQr.out 0
      have y1 := Lib.frozen_of_heap HQr.out 1
      have y2 := Lib.frozen_of_heap HQr.out 2
      have y3 := Lib.frozen_of_heap HQr.out 3
      have hap : a + 1 ≤ a' := by omega
      clear hrd htop
      go_wp2_with fail
      refine bodyPost_ret (v := .tuple #[itV (It.mk 4 0 [] acc) A cap, .int .i64 0]) (by simp [itV, It.kind, It.num, It.text, It.list, results, Tryd.results19, go_sem, c0, c1, c2, c3]) rfl ?_
      refine RfR.ok (It.mk 4 0 [] acc) A cap a' HE2.out hcap hap ha' ⟨by show (_ : Int) ≤ 0; omega, by show (0 : Int) ≤ _; omega, by simp [It.text]⟩ ?_ ?_ (HRr.out.set4 (by omega)) (HKr.out.set4 (Nat.le_refl _))
      · exact (HRD.out.set4 (k := w.heap.size) (by omega)).mono fun b hb => by omega
      · exact (HTop.out.set4 (k := w.heap.size) (by omega)).mono (by omega)
end Go.Proofs.YtghdcgokndmkjaaDoor
