/- What the law's 'awake' answers: true. Condition: the library's tables. -/
import Derived.Test.YtghdcgokndmkjaaDoorY
set_option linter.unusedVariables false
set_option linter.unusedSimpArgs false
namespace Go.Proofs.YtghdcgokndmkjaaDoor
open Go.RowKit Go.Sort

def vA : It := .mk 4 0 [] [.mk 0 1 [] [], .mk 0 2 [] [], .mk 0 (-1) [] [], .mk 2 0 [97] []]
theorem enc_vA : encR Lib.validD vA = ([162, 1, 2, 32, 97, 97], 0) := by kernel_rfl
theorem chk_vA : chk Lib.validD 16 vA = 0 := by kernel_rfl
theorem enc_bad : encR Lib.validD (.mk 5 0 [] []) = ([], 33) := by kernel_rfl
theorem dec_vA : decR Lib.validD [162, 1, 2, 32, 97, 97, 255] = (vA, 6, 0) := by kernel_rfl
theorem dec_long : decR Lib.validD [24, 23] = (It.none, 0, 30) := by kernel_rfl
theorem dec_deep : decR Lib.validD [129, 129, 129, 129, 129, 129, 129, 129, 129, 129, 129, 129, 129, 129, 129, 129, 129, 0] = (It.none, 0, 31) := by kernel_rfl
theorem found_int : found (fun k => decide (k.kind = 0) && decide (k.num = -1)) vA = some (.mk 2 0 [97] []) := by kernel_rfl
theorem found_text : found (fun k => decide (k.kind = 2) && decide (k.text = [97])) vA = none := by kernel_rfl

set_option maxHeartbeats 1000000 in
set_option maxRecDepth 100000 in
theorem number_any (n : Int) (w : World) :
    Calls Tryd.prog 20 #[.int .i64 n] w fun e w' => e = .returned (.agg #[.int .i64 0, .int .i64 n, .string ⟨#[]⟩, .slice none 0 0]) ∧ Below w.heap.size w w' := by
  go_enter Tryd.func20, Tryd.ntmps20
  go_wp2_with fail
  exact bodyPost_ret (v := .agg #[.int .i64 0, .int .i64 n, .string ⟨#[]⟩, .slice none 0 0]) (by simp [results, Tryd.results20, go_sem]) rfl ⟨rfl, ((((((Below.refl _ _).alloc (Nat.le_refl _) _)))))⟩
set_option maxHeartbeats 1000000 in
set_option maxRecDepth 100000 in
theorem text_any (s : ByteArray) (w : World) :
    Calls Tryd.prog 21 #[.string s] w fun e w' => e = .returned (.agg #[.int .i64 2, .int .i64 0, .string s, .slice none 0 0]) ∧ Below w.heap.size w w' := by
  go_enter Tryd.func21, Tryd.ntmps21
  go_wp2_with fail
  exact bodyPost_ret (v := .agg #[.int .i64 2, .int .i64 0, .string s, .slice none 0 0]) (by simp [results, Tryd.results21, go_sem]) rfl ⟨rfl, ((((((Below.refl _ _).alloc (Nat.le_refl _) _)))))⟩

theorem rd_vA (w : World) (T : TypeId) : RdL 16 (fun _ => True) (w.alloc (.cells #[.int .i64 0, .int .i64 1, .string ⟨#[]⟩, .slice none 0 0, .int .i64 0, .int .i64 2, .string ⟨#[]⟩, .slice none 0 0, .int .i64 0, .int .i64 (-1), .string ⟨#[]⟩, .slice none 0 0, .int .i64 2, .int .i64 0, .string ⟨#[97]⟩, .slice none 0 0] T)) (some ⟨w.heap.size, 0, none⟩) vA.list := by
  have h := cellOf (Go.heap_alloc_new w (.cells #[.int .i64 0, .int .i64 1, .string ⟨#[]⟩, .slice none 0 0, .int .i64 0, .int .i64 2, .string ⟨#[]⟩, .slice none 0 0, .int .i64 0, .int .i64 (-1), .string ⟨#[]⟩, .slice none 0 0, .int .i64 2, .int .i64 0, .string ⟨#[97]⟩, .slice none 0 0] T))
  refine RdL.deep (d := 2) (by omega) ⟨by decide, fun _ => ⟨w.heap.size, 0, rfl, trivial, by simp, fun i hi => ?_⟩⟩
  have hz : Sz vA.list[i] := by
    have hx := List.getElem_mem hi
    simp only [vA, It.list, List.mem_cons, List.not_mem_nil, or_false] at hx
    simp only [vA, It.list]
    rcases hx with e | e | e | e <;> (rw [e]; unfold Sz; decide)
  have hi : i < 4 := hi
  obtain rfl | rfl | rfl | rfl : i = 0 ∨ i = 1 ∨ i = 2 ∨ i = 3 := by omega
  all_goals exact ⟨hz, none, 0, by decide, h _, h _, h _, h _, RdL.nil _ _ _ _⟩

/-- the law's map, its box, the tables -/
structure St (w wk : World) (k : Nat) : Prop where
  below : Below w.heap.size w wk
  tb : Tb wk
  rd : RdL 16 (fun _ => True) wk (some ⟨k, 0, none⟩) vA.list
  box : wk.heap[k + 1]? = some (.cells #[.int .i64 4, .int .i64 0, .string ⟨#[]⟩, .slice (some ⟨k, 0, none⟩) 4 4] 24 (0, 0))
theorem St.on {w wk w' : World} {k : Nat} (h : St w wk k) (b : Below wk.heap.size wk w') : St w w' k :=
  ⟨h.below.trans (b.mono h.below.size), h.tb.below b, h.rd.below b, (b.block _ (blk_lt h.box)).trans h.box⟩
theorem szA : Sz vA := ⟨by decide, by decide, by decide⟩
theorem enc1 {w wk : World} {k : Nat} (h : St w wk k) : Calls Tryd.prog 15 #[.agg #[.int .i64 4, .int .i64 0, .string ⟨#[]⟩, .slice (some ⟨k, 0, none⟩) 4 4]] wk fun e w' => e = .returned (.tuple #[.string ⟨#[162, 1, 2, 32, 97, 97]⟩, .int .i64 0]) ∧ Below wk.heap.size wk w' :=
  (Encode_any 15 (fun _ => True) vA (some ⟨k, 0, none⟩) 4 wk szA h.rd h.tb).mono fun e w' ⟨h1, h2⟩ => ⟨by rw [enc_vA] at h1; exact h1, h2⟩
theorem enc2 {w wk : World} {k : Nat} (h : St w wk k) : Calls Tryd.prog 15 #[.agg #[.int .i64 5, .int .i64 0, .string ⟨#[]⟩, .slice none 0 0]] wk fun e w' => e = .returned (.tuple #[.string ⟨#[]⟩, .int .i64 33]) ∧ Below wk.heap.size wk w' :=
  (Encode_any 15 (fun _ => True) (.mk 5 0 [] []) none 0 wk ⟨by decide, by decide, by decide⟩ (RdL.nil _ _ _ _) h.tb).mono fun e w' ⟨h1, h2⟩ => ⟨by rw [enc_bad] at h1; exact h1, h2⟩
theorem dec1 {w wk : World} {k : Nat} (h : St w wk k) : Calls Tryd.prog 7 #[.string ⟨#[162, 1, 2, 32, 97, 97, 255]⟩] wk fun e w' => (∃ A c, c ≤ 9223372036854775807 ∧ e = .returned (.tuple #[.agg #[.int .i64 4, .int .i64 0, .string ⟨#[]⟩, .slice A 4 c], .int .i64 6, .int .i64 0]) ∧ RdL 16 (fun _ => True) w' A vA.list) ∧ Below wk.heap.size wk w' :=
  (Decode_any [162, 1, 2, 32, 97, 97, 255] wk (by decide) h.tb).mono fun e w' ⟨h1, h2⟩ => ⟨by
    rw [dec_vA] at h1
    obtain ⟨A, c, h3, h4, h5, h6, _⟩ := h1
    exact ⟨A, c, h3, h4, h6.mono fun _ _ => trivial⟩, h2⟩
theorem dec2 {w wk : World} {k : Nat} (h : St w wk k) : Calls Tryd.prog 7 #[.string ⟨#[24, 23]⟩] wk fun e w' => (∃ A c, c ≤ 9223372036854775807 ∧ e = .returned (.tuple #[.agg #[.int .i64 0, .int .i64 0, .string ⟨#[]⟩, .slice A 0 c], .int .i64 0, .int .i64 30])) ∧ Below wk.heap.size wk w' :=
  (Decode_any [24, 23] wk (by decide) h.tb).mono fun e w' ⟨h1, h2⟩ => ⟨by
    rw [dec_long] at h1
    obtain ⟨A, c, h3, h4, h5, h6, _⟩ := h1
    exact ⟨A, c, h3, h4⟩, h2⟩
theorem dec3 {w wk : World} {k : Nat} (h : St w wk k) : Calls Tryd.prog 7 #[.string ⟨#[129, 129, 129, 129, 129, 129, 129, 129, 129, 129, 129, 129, 129, 129, 129, 129, 129, 0]⟩] wk fun e w' => (∃ A c, c ≤ 9223372036854775807 ∧ e = .returned (.tuple #[.agg #[.int .i64 0, .int .i64 0, .string ⟨#[]⟩, .slice A 0 c], .int .i64 0, .int .i64 31])) ∧ Below wk.heap.size wk w' :=
  (Decode_any [129, 129, 129, 129, 129, 129, 129, 129, 129, 129, 129, 129, 129, 129, 129, 129, 129, 0] wk (by decide) h.tb).mono fun e w' ⟨h1, h2⟩ => ⟨by
    rw [dec_deep] at h1
    obtain ⟨A, c, h3, h4, h5, h6, _⟩ := h1
    exact ⟨A, c, h3, h4⟩, h2⟩
theorem by1 {w wk : World} {k : Nat} (h : St w wk k) : Calls Tryd.prog 11 #[.agg #[.int .i64 4, .int .i64 0, .string ⟨#[]⟩, .slice (some ⟨k, 0, none⟩) 4 4], .int .i64 (-1)] wk fun e w' => (∃ A c, c ≤ 9223372036854775807 ∧ e = .returned (.tuple #[.agg #[.int .i64 2, .int .i64 0, .string ⟨#[97]⟩, .slice A 0 c], .bool true])) ∧ Below wk.heap.size wk w' :=
  (byInt_any 15 (fun _ => True) vA (some ⟨k, 0, none⟩) 4 (-1) wk (by decide) h.rd).mono fun e w' ⟨h1, h2⟩ => ⟨by
    rw [found_int] at h1
    obtain ⟨A, c, h3, h4, h5, h6⟩ := h1
    exact ⟨A, c, h3, h5⟩, h2⟩
theorem by2 {w wk : World} {k : Nat} (h : St w wk k) : Calls Tryd.prog 13 #[.agg #[.int .i64 4, .int .i64 0, .string ⟨#[]⟩, .slice (some ⟨k, 0, none⟩) 4 4], .string ⟨#[97]⟩] wk fun e w' => e = .returned (.tuple #[.agg #[.int .i64 0, .int .i64 0, .string ⟨#[]⟩, .slice none 0 0], .bool false]) ∧ Below wk.heap.size wk w' :=
  (byText_any 15 (fun _ => True) vA (some ⟨k, 0, none⟩) 4 [97] wk (by decide) h.rd).mono fun e w' ⟨h1, h2⟩ => ⟨by
    rw [found_text] at h1
    exact h1, h2⟩
theorem same1 {wk : World} {k : Nat} {A : Option Addr} {c : Nat} (h : RdL 16 (fun _ => True) wk (some ⟨k, 0, none⟩) vA.list) (hA : RdL 16 (fun _ => True) wk A vA.list) (hc : c ≤ 9223372036854775807) :
    Calls Tryd.prog 9 #[.agg #[.int .i64 4, .int .i64 0, .string ⟨#[]⟩, .slice (some ⟨k, 0, none⟩) 4 4], .agg #[.int .i64 4, .int .i64 0, .string ⟨#[]⟩, .slice A 4 c]] wk fun e w' => e = .returned (.bool true) ∧ Below wk.heap.size wk w' :=
  same_any 16 (fun _ => True) vA (some ⟨k, 0, none⟩) A 4 c wk (by decide) hc h hA
theorem same2 {wk : World} {A : Option Addr} {c : Nat} (hc : c ≤ 9223372036854775807) :
    Calls Tryd.prog 9 #[.agg #[.int .i64 2, .int .i64 0, .string ⟨#[97]⟩, .slice A 0 c], .agg #[.int .i64 2, .int .i64 0, .string ⟨#[97]⟩, .slice none 0 0]] wk fun e w' => e = .returned (.bool true) ∧ Below wk.heap.size wk w' :=
  same_any 0 (fun _ => True) (.mk 2 0 [97] []) A none c 0 wk hc (by decide) (RdL.nil _ _ _ _) (RdL.nil _ _ _ _)
theorem check1 {wk : World} {k : Nat} (h : RdL 16 (fun _ => True) wk (some ⟨k, 0, none⟩) vA.list) (hT : Tb wk) : Calls Tryd.prog 16 #[.agg #[.int .i64 4, .int .i64 0, .string ⟨#[]⟩, .slice (some ⟨k, 0, none⟩) 4 4]] wk fun e w' => e = .returned (.int .i64 0) ∧ Below wk.heap.size wk w' :=
  (Check_any 15 (fun _ => True) vA (some ⟨k, 0, none⟩) 4 wk szA h hT).mono fun e w' ⟨h1, h2⟩ => ⟨by rw [chk_vA] at h1; exact h1, h2⟩

set_option maxHeartbeats 4000000 in
set_option maxRecDepth 100000 in
theorem awake_any (w : World) (hT : Tb w) : Calls Tryd.prog 10 #[] w fun e w' => e = .returned (.bool true) ∧ Below w.heap.size w w' := by
  have HT := Lib.hid hT
  clear hT
  go_enter Tryd.func10, Tryd.ntmps10
  go_wp2_with fail
  refine (number_any _ w).mono ?_
  rintro e w1 ⟨rfl, b1⟩
  go_wp2_with fail
  refine (number_any _ w1).mono ?_
  rintro e w2 ⟨rfl, b2⟩
  go_wp2_with fail
  refine (number_any _ w2).mono ?_
  rintro e w3 ⟨rfl, b3⟩
  go_wp2_with fail
  refine (text_any _ w3).mono ?_
  rintro e w4 ⟨rfl, b4⟩
  have hb4 := b1.trans (b2.mono b1.size) |>.trans (b3.mono (Nat.le_trans b1.size b2.size)) |>.trans (b4.mono (Nat.le_trans b1.size (Nat.le_trans b2.size b3.size)))
  clear b1 b2 b3 b4
  have HS : Hid (St w ((w4.alloc (.cells #[.int .i64 0, .int .i64 1, .string ⟨#[]⟩, .slice none 0 0, .int .i64 0, .int .i64 2, .string ⟨#[]⟩, .slice none 0 0, .int .i64 0, .int .i64 (-1), .string ⟨#[]⟩, .slice none 0 0, .int .i64 2, .int .i64 0, .string ⟨#[97]⟩, .slice none 0 0] 24)).alloc (.cells #[.int .i64 4, .int .i64 0, .string ⟨#[]⟩, .slice (some ⟨w4.heap.size, 0, none⟩) 4 4] 24)) w4.heap.size) := Lib.hid (by
    have hb5 : Below w4.heap.size w4 (w4.alloc (.cells #[.int .i64 0, .int .i64 1, .string ⟨#[]⟩, .slice none 0 0, .int .i64 0, .int .i64 2, .string ⟨#[]⟩, .slice none 0 0, .int .i64 0, .int .i64 (-1), .string ⟨#[]⟩, .slice none 0 0, .int .i64 2, .int .i64 0, .string ⟨#[97]⟩, .slice none 0 0] 24)) := (Below.refl _ _).alloc (Nat.le_refl _) _
    have hb6 : Below (w4.alloc (.cells #[.int .i64 0, .int .i64 1, .string ⟨#[]⟩, .slice none 0 0, .int .i64 0, .int .i64 2, .string ⟨#[]⟩, .slice none 0 0, .int .i64 0, .int .i64 (-1), .string ⟨#[]⟩, .slice none 0 0, .int .i64 2, .int .i64 0, .string ⟨#[97]⟩, .slice none 0 0] 24)).heap.size (w4.alloc (.cells #[.int .i64 0, .int .i64 1, .string ⟨#[]⟩, .slice none 0 0, .int .i64 0, .int .i64 2, .string ⟨#[]⟩, .slice none 0 0, .int .i64 0, .int .i64 (-1), .string ⟨#[]⟩, .slice none 0 0, .int .i64 2, .int .i64 0, .string ⟨#[97]⟩, .slice none 0 0] 24)) ((w4.alloc (.cells #[.int .i64 0, .int .i64 1, .string ⟨#[]⟩, .slice none 0 0, .int .i64 0, .int .i64 2, .string ⟨#[]⟩, .slice none 0 0, .int .i64 0, .int .i64 (-1), .string ⟨#[]⟩, .slice none 0 0, .int .i64 2, .int .i64 0, .string ⟨#[97]⟩, .slice none 0 0] 24)).alloc (.cells #[.int .i64 4, .int .i64 0, .string ⟨#[]⟩, .slice (some ⟨w4.heap.size, 0, none⟩) 4 4] 24)) := (Below.refl _ _).alloc (Nat.le_refl _) _
    have hb7 := hb4.trans ((hb5.trans (hb6.mono hb5.size)).mono hb4.size)
    refine ⟨hb7, HT.out.below hb7, (rd_vA w4 24).below hb6, ?_⟩
    have := Go.heap_alloc_new (w4.alloc (.cells #[.int .i64 0, .int .i64 1, .string ⟨#[]⟩, .slice none 0 0, .int .i64 0, .int .i64 2, .string ⟨#[]⟩, .slice none 0 0, .int .i64 0, .int .i64 (-1), .string ⟨#[]⟩, .slice none 0 0, .int .i64 2, .int .i64 0, .string ⟨#[97]⟩, .slice none 0 0] 24)) (.cells #[.int .i64 4, .int .i64 0, .string ⟨#[]⟩, .slice (some ⟨w4.heap.size, 0, none⟩) 4 4] 24)
    simpa using this)
  clear hb4 HT
  go_wp2_with fail
  generalize (w4.alloc (.cells #[.int .i64 0, .int .i64 1, .string ⟨#[]⟩, .slice none 0 0, .int .i64 0, .int .i64 2, .string ⟨#[]⟩, .slice none 0 0, .int .i64 0, .int .i64 (-1), .string ⟨#[]⟩, .slice none 0 0, .int .i64 2, .int .i64 0, .string ⟨#[97]⟩, .slice none 0 0] 24)).alloc (.cells #[.int .i64 4, .int .i64 0, .string ⟨#[]⟩, .slice (some ⟨w4.heap.size, 0, none⟩) 4 4] 24) = w5 at HS ⊢
  generalize w4.heap.size = k at HS ⊢
  refine (enc1 HS.out).mono ?_
  rintro e w6 ⟨rfl, b6⟩
  have HS := Lib.hid (HS.out.on b6)
  clear b6
  go_wp2_with fail
  refine (dec1 HS.out).mono ?_
  rintro e w7 ⟨⟨A, c, hc, rfl, hA⟩, b7⟩
  have hb8 : Below w7.heap.size w7 (w7.alloc (.cells #[.int .i64 4, .int .i64 0, .string ⟨#[]⟩, .slice A 4 c] 24)) := (Below.refl _ _).alloc (Nat.le_refl _) _
  have HS := Lib.hid ((HS.out.on b7).on hb8)
  have HA := Lib.hid (hA.below hb8)
  have HW := Lib.hid (Go.heap_alloc_new w7 (.cells #[.int .i64 4, .int .i64 0, .string ⟨#[]⟩, .slice A 4 c] 24))
  clear b7 hb8 hA
  go_wp2_with fail
  generalize w7.alloc (.cells #[.int .i64 4, .int .i64 0, .string ⟨#[]⟩, .slice A 4 c] 24) = w8 at HS HA HW ⊢
  generalize w7.heap.size = m at HW ⊢
  refine (dec2 HS.out).mono ?_
  rintro e w9 ⟨⟨A1, c1, hc1, rfl⟩, bb⟩
  have hb : Below w9.heap.size w9 (w9.alloc (.cells #[.int .i64 0, .int .i64 0, .string ⟨#[]⟩, .slice A1 0 c1] 24)) := (Below.refl _ _).alloc (Nat.le_refl _) _
  have hb := bb.trans (hb.mono bb.size)
  have HS := Lib.hid (HS.out.on hb)
  have HA := Lib.hid (HA.out.below hb)
  have HW := Lib.hid ((hb.block _ (blk_lt HW.out)).trans HW.out)
  clear bb hb
  go_wp2_with fail
  generalize w9.alloc (.cells #[.int .i64 0, .int .i64 0, .string ⟨#[]⟩, .slice A1 0 c1] 24) = w10 at HS HA HW ⊢
  generalize w9.heap.size = n1
  refine (dec3 HS.out).mono ?_
  rintro e w11 ⟨⟨A2, c2, hc2, rfl⟩, bb⟩
  have hb : Below w11.heap.size w11 (w11.alloc (.cells #[.int .i64 0, .int .i64 0, .string ⟨#[]⟩, .slice A2 0 c2] 24)) := (Below.refl _ _).alloc (Nat.le_refl _) _
  have hb := bb.trans (hb.mono bb.size)
  have HS := Lib.hid (HS.out.on hb)
  have HA := Lib.hid (HA.out.below hb)
  have HW := Lib.hid ((hb.block _ (blk_lt HW.out)).trans HW.out)
  clear bb hb
  go_wp2_with fail
  generalize w11.alloc (.cells #[.int .i64 0, .int .i64 0, .string ⟨#[]⟩, .slice A2 0 c2] 24) = w12 at HS HA HW ⊢
  generalize w11.heap.size = n2
  refine (enc2 HS.out).mono ?_
  rintro e w13 ⟨rfl, b13⟩
  have HS := Lib.hid (HS.out.on b13)
  have HA := Lib.hid (HA.out.below b13)
  have HW := Lib.hid ((b13.block _ (blk_lt HW.out)).trans HW.out)
  clear b13
  have hbx := cellOf HS.out.box
  have x0 := hbx 0
  have x1 := hbx 1
  have x2 := hbx 2
  have x3 := hbx 3
  simp at x0 x1 x2 x3
  clear hbx
  go_wp2_with fail
  refine (by1 HS.out).mono ?_
  rintro e w14 ⟨⟨X, cx, hcx, rfl⟩, b14⟩
  have hb15 : Below w14.heap.size w14 (w14.alloc (.cells #[.int .i64 2, .int .i64 0, .string ⟨#[97]⟩, .slice X 0 cx] 24)) := (Below.refl _ _).alloc (Nat.le_refl _) _
  have HS := Lib.hid ((HS.out.on b14).on hb15)
  have HA := Lib.hid ((HA.out.below b14).below hb15)
  have HW := Lib.hid ((hb15.block _ (by have := blk_lt HW.out; have := b14.size; omega)).trans ((b14.block _ (blk_lt HW.out)).trans HW.out))
  have HX := Lib.hid (Go.heap_alloc_new w14 (.cells #[.int .i64 2, .int .i64 0, .string ⟨#[97]⟩, .slice X 0 cx] 24))
  have hbx := cellOf HS.out.box
  have x0 := hbx 0
  have x1 := hbx 1
  have x2 := hbx 2
  have x3 := hbx 3
  simp at x0 x1 x2 x3
  clear hbx b14 hb15
  go_wp2_with fail
  generalize w14.alloc (.cells #[.int .i64 2, .int .i64 0, .string ⟨#[97]⟩, .slice X 0 cx] 24) = w15 at HS HA HW HX x0 x1 x2 x3 ⊢
  generalize w14.heap.size = x at HX ⊢
  refine (by2 HS.out).mono ?_
  rintro e w16 ⟨rfl, b16⟩
  have hb17 : Below w16.heap.size w16 (w16.alloc (.cells #[.int .i64 0, .int .i64 0, .string ⟨#[]⟩, .slice none 0 0] 24)) := (Below.refl _ _).alloc (Nat.le_refl _) _
  have hb18 := b16.trans (hb17.mono b16.size)
  have HS := Lib.hid (HS.out.on hb18)
  have HA := Lib.hid (HA.out.below hb18)
  have HW := Lib.hid ((hb18.block _ (blk_lt HW.out)).trans HW.out)
  have HX := Lib.hid ((hb18.block _ (blk_lt HX.out)).trans HX.out)
  clear b16 hb17 hb18 x0 x1 x2 x3
  go_wp2_with fail
  generalize w16.alloc (.cells #[.int .i64 0, .int .i64 0, .string ⟨#[]⟩, .slice none 0 0] 24) = w17 at HS HA HW HX ⊢
  generalize w16.heap.size = z
  have kx := cellOf HS.out.box
  have x0 := kx 0
  have x1 := kx 1
  have x2 := kx 2
  have x3 := kx 3
  have kx := cellOf HW.out
  have y0 := kx 0
  have y1 := kx 1
  have y2 := kx 2
  have y3 := kx 3
  have kx := cellOf HX.out
  have z0 := kx 0
  have z1 := kx 1
  have z2 := kx 2
  have z3 := kx 3
  simp at x0 x1 x2 x3 y0 y1 y2 y3 z0 z1 z2 z3
  have kx0 := cell_regrown x0
  have kx1 := cell_regrown x1
  have kx2 := cell_regrown x2
  have kx3 := cell_regrown x3
  have ky0 := cell_regrown y0
  have ky1 := cell_regrown y1
  have ky2 := cell_regrown y2
  have ky3 := cell_regrown y3
  have kz0 := cell_regrown z0
  have kz1 := cell_regrown z1
  have kz2 := cell_regrown z2
  have kz3 := cell_regrown z3
  have HC1 : Hid (∀ d os, Calls Tryd.prog 9 _ (grow (redrawn w17 d) os) fun e w'' => e = .returned (.bool true) ∧ ∃ p : Regrown, w'' = grow (redrawn w17 p.d) p.os) := Lib.hid fun d os => Calls.regrown_of (same1 (k := k) (A := A) (c := c) (HS.out.rd.below (below_regrown w17 d os)) (HA.out.below (below_regrown w17 d os)) hc)
  have HC2 : Hid (∀ d os, Calls Tryd.prog 9 _ (grow (redrawn w17 d) os) fun e w'' => e = .returned (.bool true) ∧ ∃ p : Regrown, w'' = grow (redrawn w17 p.d) p.os) := Lib.hid fun d os => Calls.regrown_of (same2 (A := X) (c := cx) hcx)
  have HC3 : Hid (∀ d os, Calls Tryd.prog 21 _ (grow (redrawn w17 d) os) fun e w'' => e = .returned (.agg #[.int .i64 2, .int .i64 0, .string ⟨#[97]⟩, .slice none 0 0]) ∧ ∃ p : Regrown, w'' = grow (redrawn w17 p.d) p.os) := Lib.hid fun d os => Calls.regrown_of (text_any ⟨#[97]⟩ _)
  have HC4 : Hid (∀ d os, Calls Tryd.prog 16 _ (grow (redrawn w17 d) os) fun e w'' => e = .returned (.int .i64 0) ∧ ∃ p : Regrown, w'' = grow (redrawn w17 p.d) p.os) := Lib.hid fun d os => Calls.regrown_of (check1 (k := k) (HS.out.rd.below (below_regrown w17 d os)) (HS.out.tb.below (below_regrown w17 d os)))
  clear x0 x1 x2 x3 y0 y1 y2 y3 z0 z1 z2 z3 kx HA HW HX
  refine wp_region_quiet_below mixed (by kernel_rfl) ?_
  repeat (first | go_big_quiet_step (first | (with_reducible exact HC1.out _ _) | (with_reducible exact HC2.out _ _) | (with_reducible exact HC3.out _ _) | (with_reducible exact HC4.out _ _)) | quiet_step (first | (with_reducible exact HC1.out _ _) | (with_reducible exact HC2.out _ _) | (with_reducible exact HC3.out _ _) | (with_reducible exact HC4.out _ _)))
  refine wpQuiet_nil ?_
  intro _ hw'
  obtain ⟨⟨dq, osq⟩, hw''⟩ := hw'
  subst hw''
  have hbq := below_regrown w17 dq osq
  have HE := Lib.hid (HS.out.below.trans (hbq.mono HS.out.below.size))
  clear kx0 kx1 kx2 kx3 ky0 ky1 ky2 ky3 kz0 kz1 kz2 kz3 HC1 HC2 HC3 HC4 HS hbq
  generalize grow (redrawn w17 dq) osq = w18 at HE ⊢
  go_wp2_with fail
  go_ret
  exact ⟨rfl, HE.out⟩
end Go.Proofs.YtghdcgokndmkjaaDoor
