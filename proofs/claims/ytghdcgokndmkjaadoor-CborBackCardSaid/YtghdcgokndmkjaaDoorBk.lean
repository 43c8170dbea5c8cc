/- CborBack: the walk. Condition: the library's tables. -/
import Derived.Test.YtghdcgokndmkjaaDoorCu
set_option linter.unusedVariables false
set_option linter.unusedSimpArgs false
namespace Go.Proofs.YtghdcgokndmkjaaDoor
open Go.RowKit Go.Sort
theorem encR_cases (t : It) : (∃ c : Int, (c = 31 ∨ c = 33) ∧ chk Lib.validD 16 t = c ∧ encR Lib.validD t = ([], c)) ∨ (chk Lib.validD 16 t = 0 ∧ encR Lib.validD t = ([], 32)) ∨ (chk Lib.validD 16 t = 0 ∧ encR Lib.validD t = (enc 16 t, 0) ∧ (enc 16 t).length ≤ 4096) := by
  unfold encR
  rcases chk_vals Lib.validD 16 t with h | h | h
  · rw [if_pos h]
    by_cases h2 : (enc 16 t).length ≤ 4096
    · rw [if_pos h2]; exact Or.inr (Or.inr ⟨h, rfl, h2⟩)
    · rw [if_neg h2]; exact Or.inr (Or.inl ⟨h, rfl⟩)
  · rw [if_neg (by omega), h]; exact Or.inl ⟨31, Or.inl rfl, rfl, rfl⟩
  · rw [if_neg (by omega), h]; exact Or.inl ⟨33, Or.inr rfl, rfl, rfl⟩
theorem decR_enc {t : It} (hd : DeepOk 16 t) (hc : chk Lib.validD 16 t = 0) (s : List UInt8) (h : (enc 16 t).length + s.length ≤ 4096) : decR Lib.validD (enc 16 t ++ s) = (t, (enc 16 t).length, 0) := by
  unfold decR
  rw [if_neg (by simp; omega), dec_enc Lib.validD 16 t s hd hc]
  simp
theorem decR_cases (s : List UInt8) : (∃ er : Int, (er = 30 ∨ er = 31 ∨ er = 32) ∧ decR Lib.validD s = (It.none, 0, er)) ∨ ∃ x, decR Lib.validD s = (x, (enc 16 x).length, 0) ∧ encR Lib.validD x = (enc 16 x, 0) ∧ 1 ≤ (enc 16 x).length ∧ (enc 16 x).length ≤ s.length ∧ s.take (enc 16 x).length = enc 16 x := by
  unfold decR
  by_cases h : 4096 < s.length
  · rw [if_pos h]; exact Or.inl ⟨32, by omega, rfl⟩
  rw [if_neg h]
  match hd : dec Lib.validD 16 s with
  | .error e => exact Or.inl ⟨errN e, by cases e <;> simp [errN], rfl⟩
  | .ok (t, r) =>
    obtain ⟨h1, h2, h3⟩ := dec_back Lib.validD 16 s t r (by omega) hd
    have hl : s.length = (enc 16 t).length + r.length := by rw [← h2]; simp
    refine Or.inr ⟨t, ?_, ?_, ?_, by omega, ?_⟩
    · simp only [Prod.mk.injEq, true_and, and_true]; omega
    · unfold encR; rw [if_pos h1, if_pos (by omega)]
    · have := enc_ne 16 t
      cases he : enc 16 t with
      | nil => exact absurd he this
      | cons a l => simp
    · conv => lhs; rw [← h2]
      simp
theorem app_ba (a b : List UInt8) : (⟨a.toArray⟩ : ByteArray) ++ ⟨b.toArray⟩ = ⟨(a ++ b).toArray⟩ := by
  apply ByteArray.ext; simp
namespace cborBack
set_option maxHeartbeats 8000000 in
set_option maxRecDepth 100000 in
theorem walkBad (D : Nat) (t : It) (A : Option Addr) (c : Nat) (s : List UInt8) (w : World) (hc : c ≤ 9223372036854775807) (hs : s.length ≤ 140737488355328) (hz : Sz t) (hr : RdL (D + 1) (fun _ => True) w A t.list) (hT : Tb w)
    (z : Int) (hv : z = 31 ∨ z = 33) (hck : chk Lib.validD 16 t = z) (hen : encR Lib.validD t = ([], z)) :
    Calls Tryd.prog 5 #[itV t A c, .string ⟨s.toArray⟩] w fun e w' => e = .returned (.bool true) ∧ Below w.heap.size w w' := by
  have hb0 : Below w.heap.size w (w.alloc (.cells #[.int .i64 t.kind, .int .i64 t.num, .string ⟨t.text.toArray⟩, .slice A t.list.length c] 24)) := (Below.refl _ _).alloc (Nat.le_refl _) _
  have HE := Lib.hid (Encode_any D (fun _ => True) t A c (w.alloc (.cells #[.int .i64 t.kind, .int .i64 t.num, .string ⟨t.text.toArray⟩, .slice A t.list.length c] 24)) hz (hr.below hb0) (hT.below hb0))
  have HTC := Lib.hid (decR_cases s)
  have HT := Lib.hid (hT.below hb0)
  have HB := Lib.hid hb0
  have HR := Lib.hid (hr.below hb0)
  have HZ := Lib.hid hz
  have HS := Lib.hid hs
  have HK := Lib.hid (Go.heap_alloc_new w (.cells #[.int .i64 t.kind, .int .i64 t.num, .string ⟨t.text.toArray⟩, .slice A t.list.length c] 24))
  have HCK := Lib.hid hck
  rw [hen] at HE
  clear hck hen
  clear hb0 hr hT hz hs
  unfold itV at HE ⊢
  have hsl : (⟨s.toArray⟩ : ByteArray).size = s.length := by simp [ByteArray.size]
  have hv1 : (z == 0) = false := by rcases hv with h | h <;> subst h <;> rfl
  have hv2 : (z == 32) = false := by rcases hv with h | h <;> subst h <;> rfl
  have hv3 : ¬ z = 0 := by omega
  have hv4 : ¬ z = 32 := by omega
  clear hv
  go_enter Tryd.func5, Tryd.ntmps5
  go_wp2_with fail
  refine HE.out.mono ?_
  rintro e w1 ⟨rfl, b1⟩
  have HK1 := Lib.hid ((b1.block _ (blk_lt HK.out)).trans HK.out)
  have HB1 := Lib.hid (HB.out.trans (b1.mono HB.out.size))
  have HT1 := Lib.hid (HT.out.below b1)
  have HR1 := Lib.hid (HR.out.below b1)
  clear b1 HE HB HT HR HK
  go_wp2_with fail
  refine (awake_any _ HT1.out).mono ?_
  rintro e w2 ⟨rfl, b2⟩
  have HK := Lib.hid ((b2.block _ (blk_lt HK1.out)).trans HK1.out)
  have HB := Lib.hid (HB1.out.trans (b2.mono HB1.out.size))
  have HT := Lib.hid (HT1.out.below b2)
  have HR := Lib.hid (HR1.out.below b2)
  clear b2 HB1 HT1 HR1 HK1
  have HC := Lib.hid (Check_any D (fun _ => True) t A c w2 HZ.out HR.out HT.out)
  rw [HCK.out] at HC
  unfold itV at HC
  have hx := cellOf HK.out
  have k0 := hx 0
  have k1 := hx 1
  have k2 := hx 2
  have k3 := hx 3
  simp only [List.getElem?_toArray, List.getElem?_cons_zero, List.getElem?_cons_succ] at k0 k1 k2 k3
  clear hx
  go_wp2_with fail
  refine HC.out.mono ?_
  rintro e wk ⟨rfl, bk⟩
  have HK1 := Lib.hid ((bk.block _ (blk_lt HK.out)).trans HK.out)
  have HB1 := Lib.hid (HB.out.trans (bk.mono HB.out.size))
  have HT1 := Lib.hid (HT.out.below bk)
  have HR1 := Lib.hid (HR.out.below bk)
  clear bk HB HT HR HK k0 k1 k2 k3 HC
  have HB := Lib.hid HB1.out
  have HT := Lib.hid HT1.out
  clear HB1 HT1
  clear HR1 HK1
  have HD := Lib.hid (Decode_any s wk (by have := HS.out; omega) HT.out)
  rcases HTC.out with ⟨er, hne, hd⟩ | ⟨x, hd, he, h1, h2, h3⟩
  · rw [hd] at HD
    have HD : Hid (Calls Tryd.prog 7 #[.string ⟨s.toArray⟩] wk fun e w3 => (∃ A3 c3, c3 ≤ 9223372036854775807 ∧ e = .returned (.tuple #[.agg #[.int .i64 0, .int .i64 0, .string ⟨#[]⟩, .slice A3 0 c3], .int .i64 0, .int .i64 er])) ∧ Below wk.heap.size wk w3) := Lib.hid (HD.out.mono fun e w3 ⟨⟨A3, c3, q1, q2, _⟩, q3⟩ => ⟨⟨A3, c3, q1, q2⟩, q3⟩)
    have her : (er != 0) = true := by rcases hne with h | h | h <;> subst h <;> rfl
    clear hd hne
    go_wp2_with fail
    refine HD.out.mono ?_
    rintro e w3 ⟨⟨A3, c3, hc3, rfl⟩, b3⟩
    have hb4 : Below w3.heap.size w3 (w3.alloc (.cells #[.int .i64 0, .int .i64 0, .string ⟨#[]⟩, .slice A3 0 c3] 24)) := (Below.refl _ _).alloc (Nat.le_refl _) _
    have HB4 := Lib.hid (HB.out.trans ((b3.trans (hb4.mono b3.size)).mono HB.out.size))
    have hx := cellOf (Go.heap_alloc_new w3 (.cells #[.int .i64 0, .int .i64 0, .string ⟨#[]⟩, .slice A3 0 c3] 24))
    have x0 := hx 0
    have x1 := hx 1
    have x2 := hx 2
    have x3 := hx 3
    simp only [List.getElem?_toArray, List.getElem?_cons_zero, List.getElem?_cons_succ] at x0 x1 x2 x3
    clear hx b3 hb4 HD HB
    go_wp2_with fail
    refine (same_any 0 (fun _ => True) It.none A3 none c3 0 _ hc3 (by decide) (RdL.nil _ _ _ _) (RdL.nil _ _ _ _)).mono ?_
    rintro e w5 ⟨rfl, b5⟩
    have HB5 := Lib.hid (HB4.out.trans (b5.mono HB4.out.size))
    clear b5 HB4 x0 x1 x2 x3
    go_wp2_with fail
    go_ret
    exact ⟨rfl, HB5.out⟩
  · rw [hd] at HD
    have HD : Hid (Calls Tryd.prog 7 #[.string ⟨s.toArray⟩] wk fun e w3 => (∃ A3 c3, c3 ≤ 9223372036854775807 ∧ e = .returned (.tuple #[.agg #[.int .i64 x.kind, .int .i64 x.num, .string ⟨x.text.toArray⟩, .slice A3 x.list.length c3], .int .i64 ((enc 16 x).length : Nat), .int .i64 0]) ∧ Sz x ∧ RdL 16 (fun _ => True) w3 A3 x.list) ∧ Below wk.heap.size wk w3) := Lib.hid (HD.out.mono fun e w3 ⟨⟨A3, c3, q1, q2, q3, q4, _⟩, q5⟩ => ⟨⟨A3, c3, q1, q2, q3, q4.mono fun _ _ => trivial⟩, q5⟩)
    have HE2 := Lib.hid he
    clear hd he
    have HX := Lib.hid h3
    clear h3
    generalize enc 16 x = X at HD HE2 h1 h2 HX
    have hex : (⟨s.toArray⟩ : ByteArray).extract 0 X.length = ⟨X.toArray⟩ := by
      have := ext_ba s 0 X.length
      simpa [HX.out] using this
    have hXl : (X.length : Int) ≤ (s.length : Int) := by omega
    have hX1 : (1 : Int) ≤ (X.length : Int) := by omega
    have hsl : (⟨s.toArray⟩ : ByteArray).size = s.length := by simp [ByteArray.size]
    clear HX h1 h2
    go_wp2_with fail
    refine HD.out.mono ?_
    rintro e w3 ⟨⟨A3, c3, hc3, rfl, hz3, hr3⟩, b3⟩
    have hb4 : Below w3.heap.size w3 (w3.alloc (.cells #[.int .i64 x.kind, .int .i64 x.num, .string ⟨x.text.toArray⟩, .slice A3 x.list.length c3] 24)) := (Below.refl _ _).alloc (Nat.le_refl _) _
    have b4 := b3.trans (hb4.mono b3.size)
    have HB4 := Lib.hid (HB.out.trans (b4.mono HB.out.size))
    have HE3 := Lib.hid (Encode_any 15 (fun _ => True) x A3 c3 (w3.alloc (.cells #[.int .i64 x.kind, .int .i64 x.num, .string ⟨x.text.toArray⟩, .slice A3 x.list.length c3] 24)) hz3 (hr3.below hb4) (HT.out.below b4))
    rw [HE2.out] at HE3
    have hx := cellOf (Go.heap_alloc_new w3 (.cells #[.int .i64 x.kind, .int .i64 x.num, .string ⟨x.text.toArray⟩, .slice A3 x.list.length c3] 24))
    have x0 := hx 0
    have x1 := hx 1
    have x2 := hx 2
    have x3 := hx 3
    simp only [List.getElem?_toArray, List.getElem?_cons_zero, List.getElem?_cons_succ] at x0 x1 x2 x3
    clear hx b3 hb4 b4 hz3 hr3 HD HB HE2
    unfold itV at HE3
    go_wp2_with fail
    refine HE3.out.mono ?_
    rintro e w5 ⟨rfl, b5⟩
    have HB5 := Lib.hid (HB4.out.trans (b5.mono HB4.out.size))
    clear b5 HB4 x0 x1 x2 x3 HE3
    go_wp2_with fail
    go_ret
    exact ⟨rfl, HB5.out⟩
set_option maxHeartbeats 8000000 in
set_option maxRecDepth 100000 in
theorem walkLong (D : Nat) (t : It) (A : Option Addr) (c : Nat) (s : List UInt8) (w : World) (hc : c ≤ 9223372036854775807) (hs : s.length ≤ 140737488355328) (hz : Sz t) (hr : RdL (D + 1) (fun _ => True) w A t.list) (hT : Tb w)
    (hck : chk Lib.validD 16 t = 0) (hen : encR Lib.validD t = ([], 32)) :
    Calls Tryd.prog 5 #[itV t A c, .string ⟨s.toArray⟩] w fun e w' => e = .returned (.bool true) ∧ Below w.heap.size w w' := by
  have hb0 : Below w.heap.size w (w.alloc (.cells #[.int .i64 t.kind, .int .i64 t.num, .string ⟨t.text.toArray⟩, .slice A t.list.length c] 24)) := (Below.refl _ _).alloc (Nat.le_refl _) _
  have HE := Lib.hid (Encode_any D (fun _ => True) t A c (w.alloc (.cells #[.int .i64 t.kind, .int .i64 t.num, .string ⟨t.text.toArray⟩, .slice A t.list.length c] 24)) hz (hr.below hb0) (hT.below hb0))
  have HTC := Lib.hid (decR_cases s)
  have HT := Lib.hid (hT.below hb0)
  have HB := Lib.hid hb0
  have HR := Lib.hid (hr.below hb0)
  have HZ := Lib.hid hz
  have HS := Lib.hid hs
  have HK := Lib.hid (Go.heap_alloc_new w (.cells #[.int .i64 t.kind, .int .i64 t.num, .string ⟨t.text.toArray⟩, .slice A t.list.length c] 24))
  have HCK := Lib.hid hck
  rw [hen] at HE
  clear hck hen
  clear hb0 hr hT hz hs
  unfold itV at HE ⊢
  have hsl : (⟨s.toArray⟩ : ByteArray).size = s.length := by simp [ByteArray.size]
  go_enter Tryd.func5, Tryd.ntmps5
  go_wp2_with fail
  refine HE.out.mono ?_
  rintro e w1 ⟨rfl, b1⟩
  have HK1 := Lib.hid ((b1.block _ (blk_lt HK.out)).trans HK.out)
  have HB1 := Lib.hid (HB.out.trans (b1.mono HB.out.size))
  have HT1 := Lib.hid (HT.out.below b1)
  have HR1 := Lib.hid (HR.out.below b1)
  clear b1 HE HB HT HR HK
  go_wp2_with fail
  refine (awake_any _ HT1.out).mono ?_
  rintro e w2 ⟨rfl, b2⟩
  have HK := Lib.hid ((b2.block _ (blk_lt HK1.out)).trans HK1.out)
  have HB := Lib.hid (HB1.out.trans (b2.mono HB1.out.size))
  have HT := Lib.hid (HT1.out.below b2)
  have HR := Lib.hid (HR1.out.below b2)
  clear b2 HB1 HT1 HR1 HK1
  have HC := Lib.hid (Check_any D (fun _ => True) t A c w2 HZ.out HR.out HT.out)
  rw [HCK.out] at HC
  unfold itV at HC
  have hx := cellOf HK.out
  have k0 := hx 0
  have k1 := hx 1
  have k2 := hx 2
  have k3 := hx 3
  simp only [List.getElem?_toArray, List.getElem?_cons_zero, List.getElem?_cons_succ] at k0 k1 k2 k3
  clear hx
  go_wp2_with fail
  refine HC.out.mono ?_
  rintro e wk ⟨rfl, bk⟩
  have HK1 := Lib.hid ((bk.block _ (blk_lt HK.out)).trans HK.out)
  have HB1 := Lib.hid (HB.out.trans (bk.mono HB.out.size))
  have HT1 := Lib.hid (HT.out.below bk)
  have HR1 := Lib.hid (HR.out.below bk)
  clear bk HB HT HR HK k0 k1 k2 k3 HC
  have HB := Lib.hid HB1.out
  have HT := Lib.hid HT1.out
  clear HB1 HT1
  clear HR1 HK1
  have HD := Lib.hid (Decode_any s wk (by have := HS.out; omega) HT.out)
  rcases HTC.out with ⟨er, hne, hd⟩ | ⟨x, hd, he, h1, h2, h3⟩
  · rw [hd] at HD
    have HD : Hid (Calls Tryd.prog 7 #[.string ⟨s.toArray⟩] wk fun e w3 => (∃ A3 c3, c3 ≤ 9223372036854775807 ∧ e = .returned (.tuple #[.agg #[.int .i64 0, .int .i64 0, .string ⟨#[]⟩, .slice A3 0 c3], .int .i64 0, .int .i64 er])) ∧ Below wk.heap.size wk w3) := Lib.hid (HD.out.mono fun e w3 ⟨⟨A3, c3, q1, q2, _⟩, q3⟩ => ⟨⟨A3, c3, q1, q2⟩, q3⟩)
    have her : (er != 0) = true := by rcases hne with h | h | h <;> subst h <;> rfl
    clear hd hne
    go_wp2_with fail
    refine HD.out.mono ?_
    rintro e w3 ⟨⟨A3, c3, hc3, rfl⟩, b3⟩
    have hb4 : Below w3.heap.size w3 (w3.alloc (.cells #[.int .i64 0, .int .i64 0, .string ⟨#[]⟩, .slice A3 0 c3] 24)) := (Below.refl _ _).alloc (Nat.le_refl _) _
    have HB4 := Lib.hid (HB.out.trans ((b3.trans (hb4.mono b3.size)).mono HB.out.size))
    have hx := cellOf (Go.heap_alloc_new w3 (.cells #[.int .i64 0, .int .i64 0, .string ⟨#[]⟩, .slice A3 0 c3] 24))
    have x0 := hx 0
    have x1 := hx 1
    have x2 := hx 2
    have x3 := hx 3
    simp only [List.getElem?_toArray, List.getElem?_cons_zero, List.getElem?_cons_succ] at x0 x1 x2 x3
    clear hx b3 hb4 HD HB
    go_wp2_with fail
    refine (same_any 0 (fun _ => True) It.none A3 none c3 0 _ hc3 (by decide) (RdL.nil _ _ _ _) (RdL.nil _ _ _ _)).mono ?_
    rintro e w5 ⟨rfl, b5⟩
    have HB5 := Lib.hid (HB4.out.trans (b5.mono HB4.out.size))
    clear b5 HB4 x0 x1 x2 x3
    go_wp2_with fail
    go_ret
    exact ⟨rfl, HB5.out⟩
  · rw [hd] at HD
    have HD : Hid (Calls Tryd.prog 7 #[.string ⟨s.toArray⟩] wk fun e w3 => (∃ A3 c3, c3 ≤ 9223372036854775807 ∧ e = .returned (.tuple #[.agg #[.int .i64 x.kind, .int .i64 x.num, .string ⟨x.text.toArray⟩, .slice A3 x.list.length c3], .int .i64 ((enc 16 x).length : Nat), .int .i64 0]) ∧ Sz x ∧ RdL 16 (fun _ => True) w3 A3 x.list) ∧ Below wk.heap.size wk w3) := Lib.hid (HD.out.mono fun e w3 ⟨⟨A3, c3, q1, q2, q3, q4, _⟩, q5⟩ => ⟨⟨A3, c3, q1, q2, q3, q4.mono fun _ _ => trivial⟩, q5⟩)
    have HE2 := Lib.hid he
    clear hd he
    have HX := Lib.hid h3
    clear h3
    generalize enc 16 x = X at HD HE2 h1 h2 HX
    have hex : (⟨s.toArray⟩ : ByteArray).extract 0 X.length = ⟨X.toArray⟩ := by
      have := ext_ba s 0 X.length
      simpa [HX.out] using this
    have hXl : (X.length : Int) ≤ (s.length : Int) := by omega
    have hX1 : (1 : Int) ≤ (X.length : Int) := by omega
    have hsl : (⟨s.toArray⟩ : ByteArray).size = s.length := by simp [ByteArray.size]
    clear HX h1 h2
    go_wp2_with fail
    refine HD.out.mono ?_
    rintro e w3 ⟨⟨A3, c3, hc3, rfl, hz3, hr3⟩, b3⟩
    have hb4 : Below w3.heap.size w3 (w3.alloc (.cells #[.int .i64 x.kind, .int .i64 x.num, .string ⟨x.text.toArray⟩, .slice A3 x.list.length c3] 24)) := (Below.refl _ _).alloc (Nat.le_refl _) _
    have b4 := b3.trans (hb4.mono b3.size)
    have HB4 := Lib.hid (HB.out.trans (b4.mono HB.out.size))
    have HE3 := Lib.hid (Encode_any 15 (fun _ => True) x A3 c3 (w3.alloc (.cells #[.int .i64 x.kind, .int .i64 x.num, .string ⟨x.text.toArray⟩, .slice A3 x.list.length c3] 24)) hz3 (hr3.below hb4) (HT.out.below b4))
    rw [HE2.out] at HE3
    have hx := cellOf (Go.heap_alloc_new w3 (.cells #[.int .i64 x.kind, .int .i64 x.num, .string ⟨x.text.toArray⟩, .slice A3 x.list.length c3] 24))
    have x0 := hx 0
    have x1 := hx 1
    have x2 := hx 2
    have x3 := hx 3
    simp only [List.getElem?_toArray, List.getElem?_cons_zero, List.getElem?_cons_succ] at x0 x1 x2 x3
    clear hx b3 hb4 b4 hz3 hr3 HD HB HE2
    unfold itV at HE3
    go_wp2_with fail
    refine HE3.out.mono ?_
    rintro e w5 ⟨rfl, b5⟩
    have HB5 := Lib.hid (HB4.out.trans (b5.mono HB4.out.size))
    clear b5 HB4 x0 x1 x2 x3 HE3
    go_wp2_with fail
    go_ret
    exact ⟨rfl, HB5.out⟩
set_option maxHeartbeats 8000000 in
set_option maxRecDepth 100000 in
theorem walkFull (D : Nat) (t : It) (A : Option Addr) (c : Nat) (s : List UInt8) (w : World) (hc : c ≤ 9223372036854775807) (hs : s.length ≤ 140737488355328) (hz : Sz t) (hr : RdL (D + 1) (fun _ => True) w A t.list) (hT : Tb w)
    (E : List UInt8) (hck : chk Lib.validD 16 t = 0) (hen : encR Lib.validD t = (E, 0)) (hfull : 4096 < E.length + s.length) (hE : E.length ≤ 4096) :
    Calls Tryd.prog 5 #[itV t A c, .string ⟨s.toArray⟩] w fun e w' => e = .returned (.bool true) ∧ Below w.heap.size w w' := by
  have hb0 : Below w.heap.size w (w.alloc (.cells #[.int .i64 t.kind, .int .i64 t.num, .string ⟨t.text.toArray⟩, .slice A t.list.length c] 24)) := (Below.refl _ _).alloc (Nat.le_refl _) _
  have HE := Lib.hid (Encode_any D (fun _ => True) t A c (w.alloc (.cells #[.int .i64 t.kind, .int .i64 t.num, .string ⟨t.text.toArray⟩, .slice A t.list.length c] 24)) hz (hr.below hb0) (hT.below hb0))
  have HTC := Lib.hid (decR_cases s)
  have HT := Lib.hid (hT.below hb0)
  have HB := Lib.hid hb0
  have HR := Lib.hid (hr.below hb0)
  have HZ := Lib.hid hz
  have HS := Lib.hid hs
  have HK := Lib.hid (Go.heap_alloc_new w (.cells #[.int .i64 t.kind, .int .i64 t.num, .string ⟨t.text.toArray⟩, .slice A t.list.length c] 24))
  have HCK := Lib.hid hck
  rw [hen] at HE
  clear hck hen
  clear hb0 hr hT hz hs
  unfold itV at HE ⊢
  have hsl : (⟨s.toArray⟩ : ByteArray).size = s.length := by simp [ByteArray.size]
  have hel : (⟨E.toArray⟩ : ByteArray).size = E.length := by simp [ByteArray.size]
  have hfull2 : ¬ ((E.length : Int) + (s.length : Int) ≤ 4096) := by omega
  have hE1 : (E.length : Int) ≤ 4096 := by omega
  have hs1 : (s.length : Int) ≤ 140737488355328 := by have := HS.out; omega
  clear hE hfull
  go_enter Tryd.func5, Tryd.ntmps5
  go_wp2_with fail
  refine HE.out.mono ?_
  rintro e w1 ⟨rfl, b1⟩
  have HK1 := Lib.hid ((b1.block _ (blk_lt HK.out)).trans HK.out)
  have HB1 := Lib.hid (HB.out.trans (b1.mono HB.out.size))
  have HT1 := Lib.hid (HT.out.below b1)
  have HR1 := Lib.hid (HR.out.below b1)
  clear b1 HE HB HT HR HK
  go_wp2_with fail
  refine (awake_any _ HT1.out).mono ?_
  rintro e w2 ⟨rfl, b2⟩
  have HK := Lib.hid ((b2.block _ (blk_lt HK1.out)).trans HK1.out)
  have HB := Lib.hid (HB1.out.trans (b2.mono HB1.out.size))
  have HT := Lib.hid (HT1.out.below b2)
  have HR := Lib.hid (HR1.out.below b2)
  clear b2 HB1 HT1 HR1 HK1
  have HC := Lib.hid (Check_any D (fun _ => True) t A c w2 HZ.out HR.out HT.out)
  rw [HCK.out] at HC
  unfold itV at HC
  have hx := cellOf HK.out
  have k0 := hx 0
  have k1 := hx 1
  have k2 := hx 2
  have k3 := hx 3
  simp only [List.getElem?_toArray, List.getElem?_cons_zero, List.getElem?_cons_succ] at k0 k1 k2 k3
  clear hx
  go_wp2_with fail
  refine HC.out.mono ?_
  rintro e wk ⟨rfl, bk⟩
  have HK1 := Lib.hid ((bk.block _ (blk_lt HK.out)).trans HK.out)
  have HB1 := Lib.hid (HB.out.trans (bk.mono HB.out.size))
  have HT1 := Lib.hid (HT.out.below bk)
  have HR1 := Lib.hid (HR.out.below bk)
  clear bk HB HT HR HK k0 k1 k2 k3 HC
  have HB := Lib.hid HB1.out
  have HT := Lib.hid HT1.out
  clear HB1 HT1
  clear HR1 HK1
  have HD := Lib.hid (Decode_any s wk (by have := HS.out; omega) HT.out)
  rcases HTC.out with ⟨er, hne, hd⟩ | ⟨x, hd, he, h1, h2, h3⟩
  · rw [hd] at HD
    have HD : Hid (Calls Tryd.prog 7 #[.string ⟨s.toArray⟩] wk fun e w3 => (∃ A3 c3, c3 ≤ 9223372036854775807 ∧ e = .returned (.tuple #[.agg #[.int .i64 0, .int .i64 0, .string ⟨#[]⟩, .slice A3 0 c3], .int .i64 0, .int .i64 er])) ∧ Below wk.heap.size wk w3) := Lib.hid (HD.out.mono fun e w3 ⟨⟨A3, c3, q1, q2, _⟩, q3⟩ => ⟨⟨A3, c3, q1, q2⟩, q3⟩)
    have her : (er != 0) = true := by rcases hne with h | h | h <;> subst h <;> rfl
    clear hd hne
    go_wp2_with fail
    refine HD.out.mono ?_
    rintro e w3 ⟨⟨A3, c3, hc3, rfl⟩, b3⟩
    have hb4 : Below w3.heap.size w3 (w3.alloc (.cells #[.int .i64 0, .int .i64 0, .string ⟨#[]⟩, .slice A3 0 c3] 24)) := (Below.refl _ _).alloc (Nat.le_refl _) _
    have HB4 := Lib.hid (HB.out.trans ((b3.trans (hb4.mono b3.size)).mono HB.out.size))
    have hx := cellOf (Go.heap_alloc_new w3 (.cells #[.int .i64 0, .int .i64 0, .string ⟨#[]⟩, .slice A3 0 c3] 24))
    have x0 := hx 0
    have x1 := hx 1
    have x2 := hx 2
    have x3 := hx 3
    simp only [List.getElem?_toArray, List.getElem?_cons_zero, List.getElem?_cons_succ] at x0 x1 x2 x3
    clear hx b3 hb4 HD HB
    go_wp2_with fail
    refine (same_any 0 (fun _ => True) It.none A3 none c3 0 _ hc3 (by decide) (RdL.nil _ _ _ _) (RdL.nil _ _ _ _)).mono ?_
    rintro e w5 ⟨rfl, b5⟩
    have HB5 := Lib.hid (HB4.out.trans (b5.mono HB4.out.size))
    clear b5 HB4 x0 x1 x2 x3
    go_wp2_with fail
    go_ret
    exact ⟨rfl, HB5.out⟩
  · rw [hd] at HD
    have HD : Hid (Calls Tryd.prog 7 #[.string ⟨s.toArray⟩] wk fun e w3 => (∃ A3 c3, c3 ≤ 9223372036854775807 ∧ e = .returned (.tuple #[.agg #[.int .i64 x.kind, .int .i64 x.num, .string ⟨x.text.toArray⟩, .slice A3 x.list.length c3], .int .i64 ((enc 16 x).length : Nat), .int .i64 0]) ∧ Sz x ∧ RdL 16 (fun _ => True) w3 A3 x.list) ∧ Below wk.heap.size wk w3) := Lib.hid (HD.out.mono fun e w3 ⟨⟨A3, c3, q1, q2, q3, q4, _⟩, q5⟩ => ⟨⟨A3, c3, q1, q2, q3, q4.mono fun _ _ => trivial⟩, q5⟩)
    have HE2 := Lib.hid he
    clear hd he
    have HX := Lib.hid h3
    clear h3
    generalize enc 16 x = X at HD HE2 h1 h2 HX
    have hex : (⟨s.toArray⟩ : ByteArray).extract 0 X.length = ⟨X.toArray⟩ := by
      have := ext_ba s 0 X.length
      simpa [HX.out] using this
    have hXl : (X.length : Int) ≤ (s.length : Int) := by omega
    have hX1 : (1 : Int) ≤ (X.length : Int) := by omega
    have hsl : (⟨s.toArray⟩ : ByteArray).size = s.length := by simp [ByteArray.size]
    clear HX h1 h2
    go_wp2_with fail
    refine HD.out.mono ?_
    rintro e w3 ⟨⟨A3, c3, hc3, rfl, hz3, hr3⟩, b3⟩
    have hb4 : Below w3.heap.size w3 (w3.alloc (.cells #[.int .i64 x.kind, .int .i64 x.num, .string ⟨x.text.toArray⟩, .slice A3 x.list.length c3] 24)) := (Below.refl _ _).alloc (Nat.le_refl _) _
    have b4 := b3.trans (hb4.mono b3.size)
    have HB4 := Lib.hid (HB.out.trans (b4.mono HB.out.size))
    have HE3 := Lib.hid (Encode_any 15 (fun _ => True) x A3 c3 (w3.alloc (.cells #[.int .i64 x.kind, .int .i64 x.num, .string ⟨x.text.toArray⟩, .slice A3 x.list.length c3] 24)) hz3 (hr3.below hb4) (HT.out.below b4))
    rw [HE2.out] at HE3
    have hx := cellOf (Go.heap_alloc_new w3 (.cells #[.int .i64 x.kind, .int .i64 x.num, .string ⟨x.text.toArray⟩, .slice A3 x.list.length c3] 24))
    have x0 := hx 0
    have x1 := hx 1
    have x2 := hx 2
    have x3 := hx 3
    simp only [List.getElem?_toArray, List.getElem?_cons_zero, List.getElem?_cons_succ] at x0 x1 x2 x3
    clear hx b3 hb4 b4 hz3 hr3 HD HB HE2
    unfold itV at HE3
    go_wp2_with fail
    refine HE3.out.mono ?_
    rintro e w5 ⟨rfl, b5⟩
    have HB5 := Lib.hid (HB4.out.trans (b5.mono HB4.out.size))
    clear b5 HB4 x0 x1 x2 x3 HE3
    go_wp2_with fail
    go_ret
    exact ⟨rfl, HB5.out⟩
set_option maxHeartbeats 8000000 in
set_option maxRecDepth 100000 in
theorem walkFits (D : Nat) (t : It) (A : Option Addr) (c : Nat) (s : List UInt8) (w : World) (hc : c ≤ 9223372036854775807) (hs : s.length ≤ 140737488355328) (hz : Sz t) (hr : RdL (D + 1) (fun _ => True) w A t.list) (hT : Tb w)
    (E : List UInt8) (hck : chk Lib.validD 16 t = 0) (hen : encR Lib.validD t = (E, 0)) (hfit : E.length + s.length ≤ 4096) (hdec : decR Lib.validD (E ++ s) = (t, E.length, 0)) :
    Calls Tryd.prog 5 #[itV t A c, .string ⟨s.toArray⟩] w fun e w' => e = .returned (.bool true) ∧ Below w.heap.size w w' := by
  have hb0 : Below w.heap.size w (w.alloc (.cells #[.int .i64 t.kind, .int .i64 t.num, .string ⟨t.text.toArray⟩, .slice A t.list.length c] 24)) := (Below.refl _ _).alloc (Nat.le_refl _) _
  have HE := Lib.hid (Encode_any D (fun _ => True) t A c (w.alloc (.cells #[.int .i64 t.kind, .int .i64 t.num, .string ⟨t.text.toArray⟩, .slice A t.list.length c] 24)) hz (hr.below hb0) (hT.below hb0))
  have HTC := Lib.hid (decR_cases s)
  have HT := Lib.hid (hT.below hb0)
  have HB := Lib.hid hb0
  have HR := Lib.hid (hr.below hb0)
  have HZ := Lib.hid hz
  have HS := Lib.hid hs
  have HK := Lib.hid (Go.heap_alloc_new w (.cells #[.int .i64 t.kind, .int .i64 t.num, .string ⟨t.text.toArray⟩, .slice A t.list.length c] 24))
  have HCK := Lib.hid hck
  have HDE := Lib.hid hdec
  rw [hen] at HE
  clear hck hen hdec
  clear hb0 hr hT hz hs
  unfold itV at HE ⊢
  have hsl : (⟨s.toArray⟩ : ByteArray).size = s.length := by simp [ByteArray.size]
  have hel : (⟨E.toArray⟩ : ByteArray).size = E.length := by simp [ByteArray.size]
  have hfit2 : ((E.length : Int) + (s.length : Int) ≤ 4096) := by omega
  go_enter Tryd.func5, Tryd.ntmps5
  go_wp2_with fail
  refine HE.out.mono ?_
  rintro e w1 ⟨rfl, b1⟩
  have HK1 := Lib.hid ((b1.block _ (blk_lt HK.out)).trans HK.out)
  have HB1 := Lib.hid (HB.out.trans (b1.mono HB.out.size))
  have HT1 := Lib.hid (HT.out.below b1)
  have HR1 := Lib.hid (HR.out.below b1)
  clear b1 HE HB HT HR HK
  go_wp2_with fail
  refine (awake_any _ HT1.out).mono ?_
  rintro e w2 ⟨rfl, b2⟩
  have HK := Lib.hid ((b2.block _ (blk_lt HK1.out)).trans HK1.out)
  have HB := Lib.hid (HB1.out.trans (b2.mono HB1.out.size))
  have HT := Lib.hid (HT1.out.below b2)
  have HR := Lib.hid (HR1.out.below b2)
  clear b2 HB1 HT1 HR1 HK1
  have HC := Lib.hid (Check_any D (fun _ => True) t A c w2 HZ.out HR.out HT.out)
  rw [HCK.out] at HC
  unfold itV at HC
  have hx := cellOf HK.out
  have k0 := hx 0
  have k1 := hx 1
  have k2 := hx 2
  have k3 := hx 3
  simp only [List.getElem?_toArray, List.getElem?_cons_zero, List.getElem?_cons_succ] at k0 k1 k2 k3
  clear hx
  go_wp2_with fail
  refine HC.out.mono ?_
  rintro e wk ⟨rfl, bk⟩
  have HK1 := Lib.hid ((bk.block _ (blk_lt HK.out)).trans HK.out)
  have HB1 := Lib.hid (HB.out.trans (bk.mono HB.out.size))
  have HT1 := Lib.hid (HT.out.below bk)
  have HR1 := Lib.hid (HR.out.below bk)
  clear bk HB HT HR HK k0 k1 k2 k3 HC
  have HB := Lib.hid HB1.out
  have HT := Lib.hid HT1.out
  clear HB1 HT1
  have HD0 := Lib.hid (Decode_any (E ++ s) wk (by simp; omega) HT.out)
  rw [HDE.out] at HD0
  have HD0 : Hid (Calls Tryd.prog 7 #[.string ⟨(E ++ s).toArray⟩] wk fun e w3 => (∃ A3 c3, c3 ≤ 9223372036854775807 ∧ e = .returned (.tuple #[.agg #[.int .i64 t.kind, .int .i64 t.num, .string ⟨t.text.toArray⟩, .slice A3 t.list.length c3], .int .i64 (E.length : Nat), .int .i64 0]) ∧ RdL 16 (fun _ => True) w3 A3 t.list) ∧ Below wk.heap.size wk w3) := Lib.hid (HD0.out.mono fun e w3 ⟨⟨A3, c3, q1, q2, q3, q4, _⟩, q5⟩ => ⟨⟨A3, c3, q1, q2, q4.mono fun _ _ => trivial⟩, q5⟩)
  have happ := app_ba E s
  clear HDE
  go_wp2_with fail
  refine HD0.out.mono ?_
  rintro e w3 ⟨⟨A3, c3, hc3, rfl, hr3⟩, b3⟩
  have hb4 : Below w3.heap.size w3 (w3.alloc (.cells #[.int .i64 t.kind, .int .i64 t.num, .string ⟨t.text.toArray⟩, .slice A3 t.list.length c3] 24)) := (Below.refl _ _).alloc (Nat.le_refl _) _
  have b4 := b3.trans (hb4.mono b3.size)
  have HB4 := Lib.hid (HB.out.trans (b4.mono HB.out.size))
  have HT4 := Lib.hid (HT.out.below b4)
  have HK4 := Lib.hid ((b4.block _ (blk_lt HK1.out)).trans HK1.out)
  have HS4 := Lib.hid (same_any (max (D + 1) 16) (fun _ => True) t A A3 c c3 (w3.alloc (.cells #[.int .i64 t.kind, .int .i64 t.num, .string ⟨t.text.toArray⟩, .slice A3 t.list.length c3] 24)) hc hc3 ((HR1.out.below b4).deep (by omega)) ((hr3.below hb4).deep (by omega)))
  have hx := cellOf (Go.heap_alloc_new w3 (.cells #[.int .i64 t.kind, .int .i64 t.num, .string ⟨t.text.toArray⟩, .slice A3 t.list.length c3] 24))
  have x0 := hx 0
  have x1 := hx 1
  have x2 := hx 2
  have x3 := hx 3
  have hx := cellOf HK4.out
  have k0 := hx 0
  have k1 := hx 1
  have k2 := hx 2
  have k3 := hx 3
  simp only [List.getElem?_toArray, List.getElem?_cons_zero, List.getElem?_cons_succ] at x0 x1 x2 x3 k0 k1 k2 k3
  clear hx b3 hb4 b4 hr3 HD0 HB HT happ HK1 HR1
  unfold itV at HS4
  go_wp2_with fail
  refine HS4.out.mono ?_
  rintro e wk ⟨rfl, b5⟩
  have HB := Lib.hid (HB4.out.trans (b5.mono HB4.out.size))
  have HT := Lib.hid (HT4.out.below b5)
  clear b5 HB4 HT4 HK4 x0 x1 x2 x3 k0 k1 k2 k3 HS4
  have HD := Lib.hid (Decode_any s wk (by have := HS.out; omega) HT.out)
  rcases HTC.out with ⟨er, hne, hd⟩ | ⟨x, hd, he, h1, h2, h3⟩
  · rw [hd] at HD
    have HD : Hid (Calls Tryd.prog 7 #[.string ⟨s.toArray⟩] wk fun e w3 => (∃ A3 c3, c3 ≤ 9223372036854775807 ∧ e = .returned (.tuple #[.agg #[.int .i64 0, .int .i64 0, .string ⟨#[]⟩, .slice A3 0 c3], .int .i64 0, .int .i64 er])) ∧ Below wk.heap.size wk w3) := Lib.hid (HD.out.mono fun e w3 ⟨⟨A3, c3, q1, q2, _⟩, q3⟩ => ⟨⟨A3, c3, q1, q2⟩, q3⟩)
    have her : (er != 0) = true := by rcases hne with h | h | h <;> subst h <;> rfl
    clear hd hne
    go_wp2_with fail
    refine HD.out.mono ?_
    rintro e w3 ⟨⟨A3, c3, hc3, rfl⟩, b3⟩
    have hb4 : Below w3.heap.size w3 (w3.alloc (.cells #[.int .i64 0, .int .i64 0, .string ⟨#[]⟩, .slice A3 0 c3] 24)) := (Below.refl _ _).alloc (Nat.le_refl _) _
    have HB4 := Lib.hid (HB.out.trans ((b3.trans (hb4.mono b3.size)).mono HB.out.size))
    have hx := cellOf (Go.heap_alloc_new w3 (.cells #[.int .i64 0, .int .i64 0, .string ⟨#[]⟩, .slice A3 0 c3] 24))
    have x0 := hx 0
    have x1 := hx 1
    have x2 := hx 2
    have x3 := hx 3
    simp only [List.getElem?_toArray, List.getElem?_cons_zero, List.getElem?_cons_succ] at x0 x1 x2 x3
    clear hx b3 hb4 HD HB
    go_wp2_with fail
    refine (same_any 0 (fun _ => True) It.none A3 none c3 0 _ hc3 (by decide) (RdL.nil _ _ _ _) (RdL.nil _ _ _ _)).mono ?_
    rintro e w5 ⟨rfl, b5⟩
    have HB5 := Lib.hid (HB4.out.trans (b5.mono HB4.out.size))
    clear b5 HB4 x0 x1 x2 x3
    go_wp2_with fail
    go_ret
    exact ⟨rfl, HB5.out⟩
  · rw [hd] at HD
    have HD : Hid (Calls Tryd.prog 7 #[.string ⟨s.toArray⟩] wk fun e w3 => (∃ A3 c3, c3 ≤ 9223372036854775807 ∧ e = .returned (.tuple #[.agg #[.int .i64 x.kind, .int .i64 x.num, .string ⟨x.text.toArray⟩, .slice A3 x.list.length c3], .int .i64 ((enc 16 x).length : Nat), .int .i64 0]) ∧ Sz x ∧ RdL 16 (fun _ => True) w3 A3 x.list) ∧ Below wk.heap.size wk w3) := Lib.hid (HD.out.mono fun e w3 ⟨⟨A3, c3, q1, q2, q3, q4, _⟩, q5⟩ => ⟨⟨A3, c3, q1, q2, q3, q4.mono fun _ _ => trivial⟩, q5⟩)
    have HE2 := Lib.hid he
    clear hd he
    have HX := Lib.hid h3
    clear h3
    generalize enc 16 x = X at HD HE2 h1 h2 HX
    have hex : (⟨s.toArray⟩ : ByteArray).extract 0 X.length = ⟨X.toArray⟩ := by
      have := ext_ba s 0 X.length
      simpa [HX.out] using this
    have hXl : (X.length : Int) ≤ (s.length : Int) := by omega
    have hX1 : (1 : Int) ≤ (X.length : Int) := by omega
    have hsl : (⟨s.toArray⟩ : ByteArray).size = s.length := by simp [ByteArray.size]
    clear HX h1 h2
    go_wp2_with fail
    refine HD.out.mono ?_
    rintro e w3 ⟨⟨A3, c3, hc3, rfl, hz3, hr3⟩, b3⟩
    have hb4 : Below w3.heap.size w3 (w3.alloc (.cells #[.int .i64 x.kind, .int .i64 x.num, .string ⟨x.text.toArray⟩, .slice A3 x.list.length c3] 24)) := (Below.refl _ _).alloc (Nat.le_refl _) _
    have b4 := b3.trans (hb4.mono b3.size)
    have HB4 := Lib.hid (HB.out.trans (b4.mono HB.out.size))
    have HE3 := Lib.hid (Encode_any 15 (fun _ => True) x A3 c3 (w3.alloc (.cells #[.int .i64 x.kind, .int .i64 x.num, .string ⟨x.text.toArray⟩, .slice A3 x.list.length c3] 24)) hz3 (hr3.below hb4) (HT.out.below b4))
    rw [HE2.out] at HE3
    have hx := cellOf (Go.heap_alloc_new w3 (.cells #[.int .i64 x.kind, .int .i64 x.num, .string ⟨x.text.toArray⟩, .slice A3 x.list.length c3] 24))
    have x0 := hx 0
    have x1 := hx 1
    have x2 := hx 2
    have x3 := hx 3
    simp only [List.getElem?_toArray, List.getElem?_cons_zero, List.getElem?_cons_succ] at x0 x1 x2 x3
    clear hx b3 hb4 b4 hz3 hr3 HD HB HE2
    unfold itV at HE3
    go_wp2_with fail
    refine HE3.out.mono ?_
    rintro e w5 ⟨rfl, b5⟩
    have HB5 := Lib.hid (HB4.out.trans (b5.mono HB4.out.size))
    clear b5 HB4 x0 x1 x2 x3 HE3
    go_wp2_with fail
    go_ret
    exact ⟨rfl, HB5.out⟩
theorem walk (D : Nat) (t : It) (A : Option Addr) (c : Nat) (s : List UInt8) (w : World) (hc : c ≤ 9223372036854775807) (hs : s.length ≤ 140737488355328) (hz : Sz t) (hr : RdL (D + 1) (fun _ => True) w A t.list) (hT : Tb w) :
    Calls Tryd.prog 5 #[itV t A c, .string ⟨s.toArray⟩] w fun e w' => e = .returned (.bool true) ∧ Below w.heap.size w w' := by
  rcases encR_cases t with ⟨z, hv, h1, h2⟩ | ⟨h1, h2⟩ | ⟨h1, h2, h3⟩
  · exact walkBad D t A c s w hc hs hz hr hT z hv h1 h2
  · exact walkLong D t A c s w hc hs hz hr hT h1 h2
  · by_cases h : (enc 16 t).length + s.length ≤ 4096
    · exact walkFits D t A c s w hc hs hz hr hT (enc 16 t) h1 h2 h (decR_enc (deep_16 hz hr) h1 s h)
    · exact walkFull D t A c s w hc hs hz hr hT (enc 16 t) h1 h2 (by omega) h3
end cborBack
end Go.Proofs.YtghdcgokndmkjaaDoor
