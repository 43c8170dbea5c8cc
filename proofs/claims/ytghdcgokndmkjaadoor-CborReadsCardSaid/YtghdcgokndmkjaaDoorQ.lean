/- What the reader's head answers: a kind's number and an n, or it gives up. Conditions: at most 4096 bytes. -/
import Derived.Test.YtghdcgokndmkjaaDoorI
import Derived.Lib.ConvBytes
import Derived.Deep.RegionHeld2
import Derived.Laws.Bits64b
set_option linter.unusedVariables false
set_option linter.unusedSimpArgs false
namespace Go.Proofs.YtghdcgokndmkjaaDoor
open Go.RowKit Go.Sort

theorem all_u8 {p : UInt8 → Prop} (h : ∀ n : Fin 256, p (UInt8.ofNat n.1)) (c : UInt8) : p c := by
  have := h ⟨c.toNat, c.toNat_lt⟩
  simpa using this
theorem and31 (c : UInt8) : bits BinOp.and IntKind.i64 (c.toNat : Int) 31 = (c.toNat : Int) % 32 := all_u8 (p := fun c => bits BinOp.and IntKind.i64 (c.toNat : Int) 31 = (c.toNat : Int) % 32) (by decide +kernel) c
theorem idx0 (c : UInt8) (w : World) : (Instr.index 9 (.string ⟨#[c]⟩) (.int .i64 0)).run Tryd.prog w = .ok (.int .u8 (c.toNat : Int)) w := by kernel_rfl
theorem or256 (a : Nat) (c : UInt8) (h : a < 72057594037927936) : bits BinOp.or IntKind.u64 ((a : Int) * 256) (c.toNat : Int) = ((a * 256 + c.toNat : Nat) : Int) := by
  have hc := c.toNat_lt
  have e := bits_or_u64_nat (a * 256) c.toNat (by omega) (by omega)
  rw [show (((a * 256 : Nat)) : Int) = (a : Int) * 256 from by simp] at e
  rw [e]
  have e2 := Nat.shiftLeft_add_eq_or_of_lt (b := c.toNat) (i := 8) (by omega) a
  rw [Nat.shiftLeft_eq] at e2
  rw [← e2]
theorem beVal_snoc (l : List UInt8) (c : UInt8) : beVal (l ++ [c]) = beVal l * 256 + c.toNat := by simp [beVal]
theorem fold_lt : ∀ (l : List UInt8) (a : Nat), l.foldl (fun a c => a * 256 + c.toNat) a < (a + 1) * 256 ^ l.length
  | [], a => by simp
  | c :: l, a => by
    have h := fold_lt l (a * 256 + c.toNat)
    have hc := c.toNat_lt
    rw [List.foldl_cons, List.length_cons, Nat.pow_succ]
    refine Nat.lt_of_lt_of_le h ?_
    rw [Nat.mul_comm (256 ^ l.length) 256, ← Nat.mul_assoc]
    exact Nat.mul_le_mul_right _ (by omega)
theorem beVal_lt (l : List UInt8) : beVal l < 256 ^ l.length := by
  have := fold_lt l 0
  simpa [beVal] using this
theorem conv_bytes (w : World) (L : List UInt8) : ∃ cap w', (convert 9 55 (.string ⟨L.toArray⟩)).run Tryd.prog w = .ok (.slice (some ⟨w.heap.size, 0, none⟩) L.length cap) w' ∧ Below w.heap.size w w' ∧
    ∀ j, (h : j < L.length) → w'.cell? ⟨w.heap.size, j, none⟩ = some (.int .u8 L[j].toNat) := by
  have h := Lib.run_convert_string_bytes w 9 55 5 ⟨L.toArray⟩ Tryd.underlying9 Tryd.underlying55 Tryd.underlying5
  refine ⟨_, _, h, ⟨rfl, rfl, rfl, by rw [Lib.bytesWorld_size]; omega, fun k hk => Lib.bytesWorld_at_old w 5 _ k hk⟩, fun j hj => ?_⟩
  have e := Lib.bytesWorld_cell w 5 ⟨L.toArray⟩ j (by show j < L.toArray.size; simpa using hj)
  rw [e]
  show some (Value.int .u8 ((L.getD j 0).toNat : Int)) = _
  rw [List.getD_eq_getElem?_getD, List.getElem?_eq_getElem hj]
  rfl

/-- what follows a way out that is shown already is void -/
theorem dummyF {G X : Prop} (h : G) (_ : Hid False → X) : G := h
/-- a head, or none -/
def RhR (br : Nat) (s : List UInt8) (a outer : Nat) (w w' : World) (e : Ending) : Prop :=
  match hd (s.drop a) with
  | Option.none => e = .panicked [{ v := .iface 25 (.int .i64 30), recovered := false }] ∧ Keeps br w w'
  | some (k, n, m) => e = .returned (.tuple #[.int .i64 k, .int .i64 n]) ∧ Rdr br s (a + m) outer w' ∧ Keeps br w w'
theorem RhR.no {br : Nat} {s : List UInt8} {a outer : Nat} {w w' : World} (h : hd (s.drop a) = Option.none) (k : Keeps br w w') : RhR br s a outer w w' (.panicked [{ v := .iface 25 (.int .i64 30), recovered := false }]) := by
  unfold RhR; rw [h]; exact ⟨rfl, k⟩
theorem RhR.yes {br : Nat} {s : List UInt8} {a outer k n m : Nat} {w w' : World} (h : hd (s.drop a) = some (k, n, m)) (r : Rdr br s (a + m) outer w') (kp : Keeps br w w') : RhR br s a outer w w' (.returned (.tuple #[.int .i64 k, .int .i64 n])) := by
  unfold RhR; rw [h]; exact ⟨rfl, r, kp⟩
theorem hd_low (c : UInt8) (r : List UInt8) (h : c.toNat % 32 < 24) : hd (c :: r) = some (c.toNat / 32, c.toNat % 32, 1) := by rw [hd, if_pos h]
theorem hd_bad (c : UInt8) (r : List UInt8) (h : ¬ c.toNat % 32 < 24) (h2 : ¬ c.toNat % 32 ≤ 27) : hd (c :: r) = Option.none := by rw [hd, if_neg h, if_neg h2]
theorem hd_mid (c : UInt8) (r : List UInt8) (j : Nat) (hj : j ≤ 3) (h : c.toNat % 32 = 24 + j) :
    hd (c :: r) = if 2 ^ j ≤ r.length ∧ beVal (r.take (2 ^ j)) < 9223372036854775808 ∧ headL (c.toNat / 32) (beVal (r.take (2 ^ j))) = c :: r.take (2 ^ j) then some (c.toNat / 32, beVal (r.take (2 ^ j)), 1 + 2 ^ j) else Option.none := by
  rw [hd, if_neg (by omega), if_pos (by omega), h, show 24 + j - 24 = j from by omega]
theorem drop_one (s : List UInt8) (a : Nat) (ha : a < s.length) : s.drop a = s[a] :: s.drop (a + 1) := List.drop_eq_getElem_cons ha

set_option maxHeartbeats 1000000 in
set_option maxRecDepth 100000 in
theorem rhead_end (br : Nat) (s : List UInt8) (a outer : Nat) (w : World) (hR : Rdr br s a outer w) (hs : s.length ≤ 4096) (ha : a = s.length) :
    Calls Tryd.prog 30 #[.pointer (some ⟨br, 0, none⟩)] w fun e w' => RhR br s a outer w w' e := by
  obtain ⟨c0, c1, c2, f1, f2⟩ := hR.facts
  have HT := Lib.hid (take_no br s a outer 1 w hR hs (by omega) (by omega) (by omega))
  have HN : Hid (hd (s.drop a) = Option.none) := Lib.hid (by rw [ha, List.drop_length]; rfl)
  clear hR ha
  go_enter Tryd.func30, Tryd.ntmps30
  go_wp2_with fail
  refine HT.out.mono ?_
  rintro e w1 ⟨rfl, k1⟩
  exact ⟨rfl, RhR.no HN.out k1⟩

set_option maxHeartbeats 2000000 in
set_option maxRecDepth 100000 in
theorem rhead_low (br : Nat) (s : List UInt8) (a outer : Nat) (w : World) (hR : Rdr br s a outer w) (hs : s.length ≤ 4096) (ha : a < s.length) (hlow : s[a].toNat % 32 < 24) :
    Calls Tryd.prog 30 #[.pointer (some ⟨br, 0, none⟩)] w fun e w' => RhR br s a outer w w' e := by
  have hx := drop_one s a ha
  generalize s[a] = c at hx hlow
  obtain ⟨c0, c1, c2, f1, f2⟩ := hR.facts
  have HT := take_yes br s a outer 1 w hR hs (by omega)
  rw [hx, List.take_succ_cons, List.take_zero] at HT
  have HT := Lib.hid HT
  have hb8 := c.toNat_lt
  have hi := idx0 c
  have h31 := and31 c
  have HX := Lib.hid hx
  clear hR hx
  have HH := Lib.hid (hd_low c (s.drop (a + 1)) hlow)
  go_enter Tryd.func30, Tryd.ntmps30
  go_wp2_with fail
  refine HT.out.mono ?_
  rintro e w1 ⟨rfl, r1, k1⟩
  have R1 := Lib.hid r1
  have K1 := Lib.hid k1
  clear r1 k1 c0 c1 c2 f1 f2
  go_wp2_with fail
  go_ret2
  have e1 : ((c.toNat : Int) / 32) = ((c.toNat / 32 : Nat) : Int) := by simp
  have e2 : ((c.toNat : Int) % 32) = ((c.toNat % 32 : Nat) : Int) := by simp
  show RhR br s a outer w w1 (.returned (.tuple #[.int .i64 ((c.toNat : Int) / 32), .int .i64 ((c.toNat : Int) % 32)]))
  rw [e1, e2]
  exact RhR.yes (by rw [HX.out, HH.out]) R1.out K1.out

set_option maxHeartbeats 2000000 in
set_option maxRecDepth 100000 in
theorem rhead_bad (br : Nat) (s : List UInt8) (a outer : Nat) (w : World) (hR : Rdr br s a outer w) (hs : s.length ≤ 4096) (ha : a < s.length) (hlow : ¬ s[a].toNat % 32 < 24) (hbig : ¬ s[a].toNat % 32 ≤ 27) :
    Calls Tryd.prog 30 #[.pointer (some ⟨br, 0, none⟩)] w fun e w' => RhR br s a outer w w' e := by
  have hx := drop_one s a ha
  generalize s[a] = c at hx hlow hbig
  obtain ⟨c0, c1, c2, f1, f2⟩ := hR.facts
  have HT := take_yes br s a outer 1 w hR hs (by omega)
  rw [hx, List.take_succ_cons, List.take_zero] at HT
  have HT := Lib.hid HT
  have hb8 := c.toNat_lt
  have hi := idx0 c
  have h31 := and31 c
  have HX := Lib.hid hx
  clear hR hx
  have HH := Lib.hid (hd_bad c (s.drop (a + 1)) hlow hbig)
  have hd1 : decide ((c.toNat : Int) % 32 ≤ 27) = false := by simp; omega
  go_enter Tryd.func30, Tryd.ntmps30
  go_wp2_with fail
  refine HT.out.mono ?_
  rintro e w1 ⟨rfl, r1, k1⟩
  have R1 := Lib.hid r1
  have K1 := Lib.hid k1
  clear r1 k1 c0 c1 c2 f1 f2
  go_wp2_with fail
  refine (must_no _).mono ?_
  rintro e w' ⟨rfl, rfl⟩
  exact ⟨rfl, RhR.no (by rw [HX.out, HH.out]) K1.out⟩

set_option maxHeartbeats 2000000 in
set_option maxRecDepth 100000 in
theorem rhead_short0 (br : Nat) (s : List UInt8) (a outer : Nat) (w : World) (hR : Rdr br s a outer w) (hs : s.length ≤ 4096) (ha : a < s.length) (hlow : s[a].toNat % 32 = 24 + 0) (hsh : s.length < a + 1 + 1) :
    Calls Tryd.prog 30 #[.pointer (some ⟨br, 0, none⟩)] w fun e w' => RhR br s a outer w w' e := by
  have hx := drop_one s a ha
  generalize s[a] = c at hx hlow
  obtain ⟨c0, c1, c2, f1, f2⟩ := hR.facts
  have HT := take_yes br s a outer 1 w hR hs (by omega)
  rw [hx, List.take_succ_cons, List.take_zero] at HT
  have HT := Lib.hid HT
  have hb8 := c.toNat_lt
  have hi := idx0 c
  have h31 := and31 c
  have HX := Lib.hid hx
  clear hR hx
  have HH := Lib.hid (hd_mid c (s.drop (a + 1)) 0 (by omega) hlow)
  have h24' : (c.toNat : Int) % 32 = 24 := by omega
  rw [h24'] at h31
  clear h24' hlow
  go_enter Tryd.func30, Tryd.ntmps30
  go_wp2_with fail
  refine HT.out.mono ?_
  rintro e w1 ⟨rfl, r1, k1⟩
  have R1 := Lib.hid r1
  have K1 := Lib.hid k1
  clear r1 k1 c0 c1 c2 f1 f2
  go_wp2_with fail
  refine (must_yes _).mono ?_
  rintro e w' ⟨rfl, rfl⟩
  go_wp2_with fail
  refine (take_no br s (a + 1) outer 1 w1 R1.out hs (by omega) (by omega) (by omega)).mono ?_
  rintro e w2 ⟨rfl, k2⟩
  refine ⟨rfl, RhR.no ?_ (K1.out.trans k2)⟩
  rw [HX.out, HH.out, if_neg (fun h => by have := h.1; simp at this; omega)]

set_option maxHeartbeats 2000000 in
set_option maxRecDepth 100000 in
theorem rhead_mid0 (br : Nat) (s : List UInt8) (a outer : Nat) (w : World) (hR : Rdr br s a outer w) (hs : s.length ≤ 4096) (ha : a < s.length) (hlow : s[a].toNat % 32 = 24 + 0) (hsh : a + 1 + 1 ≤ s.length) :
    Calls Tryd.prog 30 #[.pointer (some ⟨br, 0, none⟩)] w fun e w' => RhR br s a outer w w' e := by
  have hx := drop_one s a ha
  generalize s[a] = c at hx hlow
  obtain ⟨c0, c1, c2, f1, f2⟩ := hR.facts
  have HT := take_yes br s a outer 1 w hR hs (by omega)
  rw [hx, List.take_succ_cons, List.take_zero] at HT
  have HT := Lib.hid HT
  have hb8 := c.toNat_lt
  have hi := idx0 c
  have h31 := and31 c
  have HX := Lib.hid hx
  clear hR hx
  have HH := Lib.hid (hd_mid c (s.drop (a + 1)) 0 (by omega) hlow)
  have h24' : (c.toNat : Int) % 32 = 24 := by omega
  rw [h24'] at h31
  clear h24' hlow
  go_enter Tryd.func30, Tryd.ntmps30
  go_wp2_with fail
  refine HT.out.mono ?_
  rintro e w1 ⟨rfl, r1, k1⟩
  have R1 := Lib.hid r1
  have K1 := Lib.hid k1
  clear r1 k1 c0 c1 c2 f1 f2
  go_wp2_with fail
  refine (must_yes _).mono ?_
  rintro e w' ⟨rfl, rfl⟩
  go_wp2_with fail
  refine (take_yes br s (a + 1) outer 1 w1 R1.out hs (by omega)).mono ?_
  rintro e w2 ⟨rfl, r2, k2⟩
  have hLl : ((s.drop (a + 1)).take 1).length = 1 := by simp; omega
  have hext : (⟨s.toArray⟩ : ByteArray).extract a (a + 1 + 1) = ⟨(c :: (s.drop (a + 1)).take 1).toArray⟩ := by
    rw [show a + 1 + 1 = a + (1 + 1) from by omega, ext_ba, HX.out, List.take_succ_cons]
  have HH2 : Hid (hd (s.drop a) = if beVal ((s.drop (a + 1)).take 1) < 9223372036854775808 ∧ headL (c.toNat / 32) (beVal ((s.drop (a + 1)).take 1)) = c :: (s.drop (a + 1)).take 1 then some (c.toNat / 32, beVal ((s.drop (a + 1)).take 1), 1 + 1) else Option.none) := Lib.hid (by
    rw [HX.out, HH.out]
    have e : (2 ^ 0 ≤ (s.drop (a + 1)).length) = True := by simp; omega
    simp only [e, true_and, show (2 : Nat) ^ 0 = 1 from rfl])
  generalize (s.drop (a + 1)).take 1 = L at hLl hext HH2 ⊢
  generalize hz : a + 1 + 1 = z at r2 hext hsh
  have HZ := Lib.hid hz
  have hza : a ≤ z := by omega
  have HE := Lib.hid hext
  have K2 := Lib.hid (K1.out.trans k2)
  have R2 := Lib.hid r2
  have hN := beVal_lt L
  rw [hLl] at hN
  have HN := Lib.hid hN
  have HL := Lib.hid hLl
  have hll : L.length ≤ 1 := by omega
  clear k2 r2 hz hext hN hLl HH HT R1 K1 HX
  obtain ⟨cap, w3, hcv, hb3, hcell⟩ := conv_bytes w2 L
  have hB3 := Lib.hid hb3
  have HC := Lib.hid hcell
  clear hb3 hcell
  go_wp2_with fail
  go_loopw [8, 38] (fun v i wr => ∃ k : Nat, k ≤ L.length ∧ i = .int .i64 k ∧ v = .int .u64 (beVal (L.take k)) ∧ w3 = wr) (fun _ i _ => L.length - (intOf i).toNat)
  case atStart => exact ⟨0, by omega, rfl, rfl, rfl⟩
  case round =>
    obtain ⟨k, hk, rfl, rfl, rfl⟩ := hrel
    by_cases hlk : k < L.length
    · have hcl := HC.out k hlk
      have hT : L.take (k + 1) = L.take k ++ [L[k]] := List.take_succ_eq_append_getElem hlk
      have hv := beVal_lt (L.take k)
      have hv2 : beVal (L.take k) < 72057594037927936 := by
        refine Nat.lt_of_lt_of_le hv ?_
        have : (L.take k).length ≤ 7 := by rw [List.length_take]; omega
        exact Nat.le_trans (Nat.pow_le_pow_right (by omega) this) (by decide)
      have hor := or256 (beVal (L.take k)) L[k] hv2
      have HB : Hid (((beVal (L.take k) * 256 + L[k].toNat : Nat) : Int) = (beVal (L.take (k + 1)) : Int)) := Lib.hid (by rw [hT, beVal_snoc])
      have h8 := L[k].toNat_lt
      rw [HB.out] at hor
      clear hT hv
      go_wp2_with fail
      go_roundw
      case rel => exact ⟨k + 1, by omega, by go_num, rfl, trivial⟩
      case measure => simp [intOf]; omega
    · have e : L.take k = L := List.take_of_length_le (by omega)
      rw [e]
      clear e hcv
      generalize hN : beVal L = N at HN HH2 ⊢
      have HNL := Lib.hid hN
      clear hN
      by_cases hbig : N < 9223372036854775808
      rotate_left
      · exact absurd (Nat.lt_of_lt_of_le HN.out (by decide)) hbig
      · have hle : (N : Int) ≤ 9223372036854775807 := by omega
        have hdd : decide ((N : Int) ≤ 9223372036854775807) = true := by simp; omega
        have HG := Lib.hid hbig
        clear hbig
        go_wp2_with fail
        refine (must_yes _).mono ?_
        rintro e w' ⟨rfl, rfl⟩
        go_wp2_with fail
        have R3 := Lib.hid (R2.out.below hB3.out)
        obtain ⟨g0, g1, _, _, _⟩ := R3.out.facts
        have kg0 := cell_regrown g0
        have kg1 := cell_regrown g1
        have K3 := Lib.hid (K2.out.below hB3.out)
        have hzs : z ≤ s.length := by omega
        have hch := fun w' => head_i ((c.toNat : Int) / 32) (N : Int) w' (by omega) (by omega) (by omega) hle
        rw [show ((c.toNat : Int) / 32).toNat = c.toNat / 32 from by omega, show ((N : Int)).toNat = N from by omega] at hch
        have hex := HE.out
        by_cases heq : headL (c.toNat / 32) N = c :: L
        · have HY : Hid (hd (s.drop a) = some (c.toNat / 32, N, 1 + 1)) := Lib.hid (by rw [HH2.out, if_pos ⟨HG.out, heq⟩])
          rw [heq] at hch
          have HCH : Hid (∀ d os, Calls Tryd.prog 39 #[.int .i64 ((c.toNat : Int) / 32), .int .i64 N] (grow (redrawn w3 d) os) fun e w'' => e = .returned (.string ⟨(c :: L).toArray⟩) ∧ ∃ p : Regrown, w'' = grow (redrawn w3 p.d) p.os) := Lib.hid fun d os => Calls.regrown_of (hch _)
          have HM : Hid (∀ d os, Calls Tryd.prog 38 #[.bool true] (grow (redrawn w3 d) os) fun e w'' => e = .returned (.tuple #[]) ∧ ∃ p : Regrown, w'' = grow (redrawn w3 p.d) p.os) := Lib.hid fun d os => Calls.regrown_of ((must_yes _).mono fun _ _ ⟨he, hw⟩ => ⟨he, hw ▸ Below.refl _ _⟩)
          clear hch heq g0 g1
          refine wp_region_quiet_below mixed (by kernel_rfl) ?_
          repeat (first | go_big_quiet_step (first | (with_reducible exact HCH.out _ _) | (with_reducible exact HM.out _ _)) | quiet_step (first | (with_reducible exact HCH.out _ _) | (with_reducible exact HM.out _ _)))
          refine wpQuiet_nil ?_
          intro _ hw'
          obtain ⟨⟨dq, osq⟩, hw''⟩ := hw'
          subst hw''
          have hbq := below_regrown w3 dq osq
          have r4 := R3.out.below hbq
          have k4 := K3.out.below hbq
          clear HCH HM kg0 kg1 hex
          generalize grow (redrawn w3 dq) osq = wq at r4 k4 ⊢
          have R4 := Lib.hid r4
          have K4 := Lib.hid k4
          clear r4 k4 hbq
          go_wp2_with fail
          go_ret2
          have e1 : ((c.toNat : Int) / 32) = ((c.toNat / 32 : Nat) : Int) := by simp
          show RhR br s a outer w wq (.returned (.tuple #[.int .i64 ((c.toNat : Int) / 32), .int .i64 N]))
          rw [e1]
          exact RhR.yes HY.out (by rw [show a + (1 + 1) = a + 1 + 1 from by omega, HZ.out]; exact R4.out) K4.out
        · have HY : Hid (hd (s.drop a) = Option.none) := Lib.hid (by rw [HH2.out, if_neg (fun h => heq h.2)])
          generalize headL (c.toNat / 32) N = X at hch heq
          have hne : ((c :: L) == X) = false := by simpa using fun e => heq e.symm
          have HS0 : Hid (Below w3.heap.size w3 w3.drew ∧ w3.drew.cell? ⟨br, 0, none⟩ = some (.string ⟨s.toArray⟩) ∧ w3.drew.cell? ⟨br, 1, none⟩ = some (.int .i64 z)) := Lib.hid ⟨(Below.refl _ _).drew, g0, g1⟩
          have hlt := R3.out.lt
          have HK : Hid (∀ (x y : World), (Below w3.heap.size w3 x ∧ x.cell? ⟨br, 0, none⟩ = some (.string ⟨s.toArray⟩) ∧ x.cell? ⟨br, 1, none⟩ = some (.int .i64 z)) → Below x.heap.size x y → (Below w3.heap.size w3 y ∧ y.cell? ⟨br, 0, none⟩ = some (.string ⟨s.toArray⟩) ∧ y.cell? ⟨br, 1, none⟩ = some (.int .i64 z))) := Lib.hid fun x y ⟨h1, h2, h3⟩ hb => ⟨h1.trans (hb.mono h1.size), by rw [hb.cell (p := ⟨br, 0, none⟩) (by have := h1.size; simp; omega)]; exact h2, by rw [hb.cell (p := ⟨br, 1, none⟩) (by have := h1.size; simp; omega)]; exact h3⟩
          have HCH := Lib.hid hch
          clear hch heq g0 g1 kg0 kg1
          go_region_held2 (fun w' => Below w3.heap.size w3 w' ∧ w'.cell? ⟨br, 0, none⟩ = some (.string ⟨s.toArray⟩) ∧ w'.cell? ⟨br, 1, none⟩ = some (.int .i64 z)) (first | exact HS0.out | assumption | exact HK.out _ _ (by assumption) (by assumption)) ((first | (go_at_call 39; refine (HCH.out _).mono ?_; rintro e w' ⟨rfl, hbw⟩) | (go_at_call 38; refine (must_no _).mono ?_; rintro e w' ⟨rfl, rfl⟩; refine dummyF (X := (‹Act → World → Prop› : Act → World → Prop) { tmps := #[], defers := [] } w3.drew) ⟨rfl, RhR.no HY.out (K3.out.below (‹Below w3.heap.size w3 _ ∧ _› : _ ∧ _).1)⟩ (fun hf => ?_))))
          all_goals exact (Hid.out ‹Hid False›).elim

set_option maxHeartbeats 2000000 in
set_option maxRecDepth 100000 in
theorem rhead_short1 (br : Nat) (s : List UInt8) (a outer : Nat) (w : World) (hR : Rdr br s a outer w) (hs : s.length ≤ 4096) (ha : a < s.length) (hlow : s[a].toNat % 32 = 24 + 1) (hsh : s.length < a + 1 + 2) :
    Calls Tryd.prog 30 #[.pointer (some ⟨br, 0, none⟩)] w fun e w' => RhR br s a outer w w' e := by
  have hx := drop_one s a ha
  generalize s[a] = c at hx hlow
  obtain ⟨c0, c1, c2, f1, f2⟩ := hR.facts
  have HT := take_yes br s a outer 1 w hR hs (by omega)
  rw [hx, List.take_succ_cons, List.take_zero] at HT
  have HT := Lib.hid HT
  have hb8 := c.toNat_lt
  have hi := idx0 c
  have h31 := and31 c
  have HX := Lib.hid hx
  clear hR hx
  have HH := Lib.hid (hd_mid c (s.drop (a + 1)) 1 (by omega) hlow)
  have h24' : (c.toNat : Int) % 32 = 25 := by omega
  rw [h24'] at h31
  clear h24' hlow
  go_enter Tryd.func30, Tryd.ntmps30
  go_wp2_with fail
  refine HT.out.mono ?_
  rintro e w1 ⟨rfl, r1, k1⟩
  have R1 := Lib.hid r1
  have K1 := Lib.hid k1
  clear r1 k1 c0 c1 c2 f1 f2
  go_wp2_with fail
  refine (must_yes _).mono ?_
  rintro e w' ⟨rfl, rfl⟩
  go_wp2_with fail
  refine (take_no br s (a + 1) outer 2 w1 R1.out hs (by omega) (by omega) (by omega)).mono ?_
  rintro e w2 ⟨rfl, k2⟩
  refine ⟨rfl, RhR.no ?_ (K1.out.trans k2)⟩
  rw [HX.out, HH.out, if_neg (fun h => by have := h.1; simp at this; omega)]

set_option maxHeartbeats 2000000 in
set_option maxRecDepth 100000 in
theorem rhead_mid1 (br : Nat) (s : List UInt8) (a outer : Nat) (w : World) (hR : Rdr br s a outer w) (hs : s.length ≤ 4096) (ha : a < s.length) (hlow : s[a].toNat % 32 = 24 + 1) (hsh : a + 1 + 2 ≤ s.length) :
    Calls Tryd.prog 30 #[.pointer (some ⟨br, 0, none⟩)] w fun e w' => RhR br s a outer w w' e := by
  have hx := drop_one s a ha
  generalize s[a] = c at hx hlow
  obtain ⟨c0, c1, c2, f1, f2⟩ := hR.facts
  have HT := take_yes br s a outer 1 w hR hs (by omega)
  rw [hx, List.take_succ_cons, List.take_zero] at HT
  have HT := Lib.hid HT
  have hb8 := c.toNat_lt
  have hi := idx0 c
  have h31 := and31 c
  have HX := Lib.hid hx
  clear hR hx
  have HH := Lib.hid (hd_mid c (s.drop (a + 1)) 1 (by omega) hlow)
  have h24' : (c.toNat : Int) % 32 = 25 := by omega
  rw [h24'] at h31
  clear h24' hlow
  go_enter Tryd.func30, Tryd.ntmps30
  go_wp2_with fail
  refine HT.out.mono ?_
  rintro e w1 ⟨rfl, r1, k1⟩
  have R1 := Lib.hid r1
  have K1 := Lib.hid k1
  clear r1 k1 c0 c1 c2 f1 f2
  go_wp2_with fail
  refine (must_yes _).mono ?_
  rintro e w' ⟨rfl, rfl⟩
  go_wp2_with fail
  refine (take_yes br s (a + 1) outer 2 w1 R1.out hs (by omega)).mono ?_
  rintro e w2 ⟨rfl, r2, k2⟩
  have hLl : ((s.drop (a + 1)).take 2).length = 2 := by simp; omega
  have hext : (⟨s.toArray⟩ : ByteArray).extract a (a + 1 + 2) = ⟨(c :: (s.drop (a + 1)).take 2).toArray⟩ := by
    rw [show a + 1 + 2 = a + (2 + 1) from by omega, ext_ba, HX.out, List.take_succ_cons]
  have HH2 : Hid (hd (s.drop a) = if beVal ((s.drop (a + 1)).take 2) < 9223372036854775808 ∧ headL (c.toNat / 32) (beVal ((s.drop (a + 1)).take 2)) = c :: (s.drop (a + 1)).take 2 then some (c.toNat / 32, beVal ((s.drop (a + 1)).take 2), 1 + 2) else Option.none) := Lib.hid (by
    rw [HX.out, HH.out]
    have e : (2 ^ 1 ≤ (s.drop (a + 1)).length) = True := by simp; omega
    simp only [e, true_and, show (2 : Nat) ^ 1 = 2 from rfl])
  generalize (s.drop (a + 1)).take 2 = L at hLl hext HH2 ⊢
  generalize hz : a + 1 + 2 = z at r2 hext hsh
  have HZ := Lib.hid hz
  have hza : a ≤ z := by omega
  have HE := Lib.hid hext
  have K2 := Lib.hid (K1.out.trans k2)
  have R2 := Lib.hid r2
  have hN := beVal_lt L
  rw [hLl] at hN
  have HN := Lib.hid hN
  have HL := Lib.hid hLl
  have hll : L.length ≤ 2 := by omega
  clear k2 r2 hz hext hN hLl HH HT R1 K1 HX
  obtain ⟨cap, w3, hcv, hb3, hcell⟩ := conv_bytes w2 L
  have hB3 := Lib.hid hb3
  have HC := Lib.hid hcell
  clear hb3 hcell
  go_wp2_with fail
  go_loopw [8, 38] (fun v i wr => ∃ k : Nat, k ≤ L.length ∧ i = .int .i64 k ∧ v = .int .u64 (beVal (L.take k)) ∧ w3 = wr) (fun _ i _ => L.length - (intOf i).toNat)
  case atStart => exact ⟨0, by omega, rfl, rfl, rfl⟩
  case round =>
    obtain ⟨k, hk, rfl, rfl, rfl⟩ := hrel
    by_cases hlk : k < L.length
    · have hcl := HC.out k hlk
      have hT : L.take (k + 1) = L.take k ++ [L[k]] := List.take_succ_eq_append_getElem hlk
      have hv := beVal_lt (L.take k)
      have hv2 : beVal (L.take k) < 72057594037927936 := by
        refine Nat.lt_of_lt_of_le hv ?_
        have : (L.take k).length ≤ 7 := by rw [List.length_take]; omega
        exact Nat.le_trans (Nat.pow_le_pow_right (by omega) this) (by decide)
      have hor := or256 (beVal (L.take k)) L[k] hv2
      have HB : Hid (((beVal (L.take k) * 256 + L[k].toNat : Nat) : Int) = (beVal (L.take (k + 1)) : Int)) := Lib.hid (by rw [hT, beVal_snoc])
      have h8 := L[k].toNat_lt
      rw [HB.out] at hor
      clear hT hv
      go_wp2_with fail
      go_roundw
      case rel => exact ⟨k + 1, by omega, by go_num, rfl, trivial⟩
      case measure => simp [intOf]; omega
    · have e : L.take k = L := List.take_of_length_le (by omega)
      rw [e]
      clear e hcv
      generalize hN : beVal L = N at HN HH2 ⊢
      have HNL := Lib.hid hN
      clear hN
      by_cases hbig : N < 9223372036854775808
      rotate_left
      · exact absurd (Nat.lt_of_lt_of_le HN.out (by decide)) hbig
      · have hle : (N : Int) ≤ 9223372036854775807 := by omega
        have hdd : decide ((N : Int) ≤ 9223372036854775807) = true := by simp; omega
        have HG := Lib.hid hbig
        clear hbig
        go_wp2_with fail
        refine (must_yes _).mono ?_
        rintro e w' ⟨rfl, rfl⟩
        go_wp2_with fail
        have R3 := Lib.hid (R2.out.below hB3.out)
        obtain ⟨g0, g1, _, _, _⟩ := R3.out.facts
        have kg0 := cell_regrown g0
        have kg1 := cell_regrown g1
        have K3 := Lib.hid (K2.out.below hB3.out)
        have hzs : z ≤ s.length := by omega
        have hch := fun w' => head_i ((c.toNat : Int) / 32) (N : Int) w' (by omega) (by omega) (by omega) hle
        rw [show ((c.toNat : Int) / 32).toNat = c.toNat / 32 from by omega, show ((N : Int)).toNat = N from by omega] at hch
        have hex := HE.out
        by_cases heq : headL (c.toNat / 32) N = c :: L
        · have HY : Hid (hd (s.drop a) = some (c.toNat / 32, N, 1 + 2)) := Lib.hid (by rw [HH2.out, if_pos ⟨HG.out, heq⟩])
          rw [heq] at hch
          have HCH : Hid (∀ d os, Calls Tryd.prog 39 #[.int .i64 ((c.toNat : Int) / 32), .int .i64 N] (grow (redrawn w3 d) os) fun e w'' => e = .returned (.string ⟨(c :: L).toArray⟩) ∧ ∃ p : Regrown, w'' = grow (redrawn w3 p.d) p.os) := Lib.hid fun d os => Calls.regrown_of (hch _)
          have HM : Hid (∀ d os, Calls Tryd.prog 38 #[.bool true] (grow (redrawn w3 d) os) fun e w'' => e = .returned (.tuple #[]) ∧ ∃ p : Regrown, w'' = grow (redrawn w3 p.d) p.os) := Lib.hid fun d os => Calls.regrown_of ((must_yes _).mono fun _ _ ⟨he, hw⟩ => ⟨he, hw ▸ Below.refl _ _⟩)
          clear hch heq g0 g1
          refine wp_region_quiet_below mixed (by kernel_rfl) ?_
          repeat (first | go_big_quiet_step (first | (with_reducible exact HCH.out _ _) | (with_reducible exact HM.out _ _)) | quiet_step (first | (with_reducible exact HCH.out _ _) | (with_reducible exact HM.out _ _)))
          refine wpQuiet_nil ?_
          intro _ hw'
          obtain ⟨⟨dq, osq⟩, hw''⟩ := hw'
          subst hw''
          have hbq := below_regrown w3 dq osq
          have r4 := R3.out.below hbq
          have k4 := K3.out.below hbq
          clear HCH HM kg0 kg1 hex
          generalize grow (redrawn w3 dq) osq = wq at r4 k4 ⊢
          have R4 := Lib.hid r4
          have K4 := Lib.hid k4
          clear r4 k4 hbq
          go_wp2_with fail
          go_ret2
          have e1 : ((c.toNat : Int) / 32) = ((c.toNat / 32 : Nat) : Int) := by simp
          show RhR br s a outer w wq (.returned (.tuple #[.int .i64 ((c.toNat : Int) / 32), .int .i64 N]))
          rw [e1]
          exact RhR.yes HY.out (by rw [show a + (1 + 2) = a + 1 + 2 from by omega, HZ.out]; exact R4.out) K4.out
        · have HY : Hid (hd (s.drop a) = Option.none) := Lib.hid (by rw [HH2.out, if_neg (fun h => heq h.2)])
          generalize headL (c.toNat / 32) N = X at hch heq
          have hne : ((c :: L) == X) = false := by simpa using fun e => heq e.symm
          have HS0 : Hid (Below w3.heap.size w3 w3.drew ∧ w3.drew.cell? ⟨br, 0, none⟩ = some (.string ⟨s.toArray⟩) ∧ w3.drew.cell? ⟨br, 1, none⟩ = some (.int .i64 z)) := Lib.hid ⟨(Below.refl _ _).drew, g0, g1⟩
          have hlt := R3.out.lt
          have HK : Hid (∀ (x y : World), (Below w3.heap.size w3 x ∧ x.cell? ⟨br, 0, none⟩ = some (.string ⟨s.toArray⟩) ∧ x.cell? ⟨br, 1, none⟩ = some (.int .i64 z)) → Below x.heap.size x y → (Below w3.heap.size w3 y ∧ y.cell? ⟨br, 0, none⟩ = some (.string ⟨s.toArray⟩) ∧ y.cell? ⟨br, 1, none⟩ = some (.int .i64 z))) := Lib.hid fun x y ⟨h1, h2, h3⟩ hb => ⟨h1.trans (hb.mono h1.size), by rw [hb.cell (p := ⟨br, 0, none⟩) (by have := h1.size; simp; omega)]; exact h2, by rw [hb.cell (p := ⟨br, 1, none⟩) (by have := h1.size; simp; omega)]; exact h3⟩
          have HCH := Lib.hid hch
          clear hch heq g0 g1 kg0 kg1
          go_region_held2 (fun w' => Below w3.heap.size w3 w' ∧ w'.cell? ⟨br, 0, none⟩ = some (.string ⟨s.toArray⟩) ∧ w'.cell? ⟨br, 1, none⟩ = some (.int .i64 z)) (first | exact HS0.out | assumption | exact HK.out _ _ (by assumption) (by assumption)) ((first | (go_at_call 39; refine (HCH.out _).mono ?_; rintro e w' ⟨rfl, hbw⟩) | (go_at_call 38; refine (must_no _).mono ?_; rintro e w' ⟨rfl, rfl⟩; refine dummyF (X := (‹Act → World → Prop› : Act → World → Prop) { tmps := #[], defers := [] } w3.drew) ⟨rfl, RhR.no HY.out (K3.out.below (‹Below w3.heap.size w3 _ ∧ _› : _ ∧ _).1)⟩ (fun hf => ?_))))
          all_goals exact (Hid.out ‹Hid False›).elim

set_option maxHeartbeats 2000000 in
set_option maxRecDepth 100000 in
theorem rhead_short2 (br : Nat) (s : List UInt8) (a outer : Nat) (w : World) (hR : Rdr br s a outer w) (hs : s.length ≤ 4096) (ha : a < s.length) (hlow : s[a].toNat % 32 = 24 + 2) (hsh : s.length < a + 1 + 4) :
    Calls Tryd.prog 30 #[.pointer (some ⟨br, 0, none⟩)] w fun e w' => RhR br s a outer w w' e := by
  have hx := drop_one s a ha
  generalize s[a] = c at hx hlow
  obtain ⟨c0, c1, c2, f1, f2⟩ := hR.facts
  have HT := take_yes br s a outer 1 w hR hs (by omega)
  rw [hx, List.take_succ_cons, List.take_zero] at HT
  have HT := Lib.hid HT
  have hb8 := c.toNat_lt
  have hi := idx0 c
  have h31 := and31 c
  have HX := Lib.hid hx
  clear hR hx
  have HH := Lib.hid (hd_mid c (s.drop (a + 1)) 2 (by omega) hlow)
  have h24' : (c.toNat : Int) % 32 = 26 := by omega
  rw [h24'] at h31
  clear h24' hlow
  go_enter Tryd.func30, Tryd.ntmps30
  go_wp2_with fail
  refine HT.out.mono ?_
  rintro e w1 ⟨rfl, r1, k1⟩
  have R1 := Lib.hid r1
  have K1 := Lib.hid k1
  clear r1 k1 c0 c1 c2 f1 f2
  go_wp2_with fail
  refine (must_yes _).mono ?_
  rintro e w' ⟨rfl, rfl⟩
  go_wp2_with fail
  refine (take_no br s (a + 1) outer 4 w1 R1.out hs (by omega) (by omega) (by omega)).mono ?_
  rintro e w2 ⟨rfl, k2⟩
  refine ⟨rfl, RhR.no ?_ (K1.out.trans k2)⟩
  rw [HX.out, HH.out, if_neg (fun h => by have := h.1; simp at this; omega)]

set_option maxHeartbeats 2000000 in
set_option maxRecDepth 100000 in
theorem rhead_mid2 (br : Nat) (s : List UInt8) (a outer : Nat) (w : World) (hR : Rdr br s a outer w) (hs : s.length ≤ 4096) (ha : a < s.length) (hlow : s[a].toNat % 32 = 24 + 2) (hsh : a + 1 + 4 ≤ s.length) :
    Calls Tryd.prog 30 #[.pointer (some ⟨br, 0, none⟩)] w fun e w' => RhR br s a outer w w' e := by
  have hx := drop_one s a ha
  generalize s[a] = c at hx hlow
  obtain ⟨c0, c1, c2, f1, f2⟩ := hR.facts
  have HT := take_yes br s a outer 1 w hR hs (by omega)
  rw [hx, List.take_succ_cons, List.take_zero] at HT
  have HT := Lib.hid HT
  have hb8 := c.toNat_lt
  have hi := idx0 c
  have h31 := and31 c
  have HX := Lib.hid hx
  clear hR hx
  have HH := Lib.hid (hd_mid c (s.drop (a + 1)) 2 (by omega) hlow)
  have h24' : (c.toNat : Int) % 32 = 26 := by omega
  rw [h24'] at h31
  clear h24' hlow
  go_enter Tryd.func30, Tryd.ntmps30
  go_wp2_with fail
  refine HT.out.mono ?_
  rintro e w1 ⟨rfl, r1, k1⟩
  have R1 := Lib.hid r1
  have K1 := Lib.hid k1
  clear r1 k1 c0 c1 c2 f1 f2
  go_wp2_with fail
  refine (must_yes _).mono ?_
  rintro e w' ⟨rfl, rfl⟩
  go_wp2_with fail
  refine (take_yes br s (a + 1) outer 4 w1 R1.out hs (by omega)).mono ?_
  rintro e w2 ⟨rfl, r2, k2⟩
  have hLl : ((s.drop (a + 1)).take 4).length = 4 := by simp; omega
  have hext : (⟨s.toArray⟩ : ByteArray).extract a (a + 1 + 4) = ⟨(c :: (s.drop (a + 1)).take 4).toArray⟩ := by
    rw [show a + 1 + 4 = a + (4 + 1) from by omega, ext_ba, HX.out, List.take_succ_cons]
  have HH2 : Hid (hd (s.drop a) = if beVal ((s.drop (a + 1)).take 4) < 9223372036854775808 ∧ headL (c.toNat / 32) (beVal ((s.drop (a + 1)).take 4)) = c :: (s.drop (a + 1)).take 4 then some (c.toNat / 32, beVal ((s.drop (a + 1)).take 4), 1 + 4) else Option.none) := Lib.hid (by
    rw [HX.out, HH.out]
    have e : (2 ^ 2 ≤ (s.drop (a + 1)).length) = True := by simp; omega
    simp only [e, true_and, show (2 : Nat) ^ 2 = 4 from rfl])
  generalize (s.drop (a + 1)).take 4 = L at hLl hext HH2 ⊢
  generalize hz : a + 1 + 4 = z at r2 hext hsh
  have HZ := Lib.hid hz
  have hza : a ≤ z := by omega
  have HE := Lib.hid hext
  have K2 := Lib.hid (K1.out.trans k2)
  have R2 := Lib.hid r2
  have hN := beVal_lt L
  rw [hLl] at hN
  have HN := Lib.hid hN
  have HL := Lib.hid hLl
  have hll : L.length ≤ 4 := by omega
  clear k2 r2 hz hext hN hLl HH HT R1 K1 HX
  obtain ⟨cap, w3, hcv, hb3, hcell⟩ := conv_bytes w2 L
  have hB3 := Lib.hid hb3
  have HC := Lib.hid hcell
  clear hb3 hcell
  go_wp2_with fail
  go_loopw [8, 38] (fun v i wr => ∃ k : Nat, k ≤ L.length ∧ i = .int .i64 k ∧ v = .int .u64 (beVal (L.take k)) ∧ w3 = wr) (fun _ i _ => L.length - (intOf i).toNat)
  case atStart => exact ⟨0, by omega, rfl, rfl, rfl⟩
  case round =>
    obtain ⟨k, hk, rfl, rfl, rfl⟩ := hrel
    by_cases hlk : k < L.length
    · have hcl := HC.out k hlk
      have hT : L.take (k + 1) = L.take k ++ [L[k]] := List.take_succ_eq_append_getElem hlk
      have hv := beVal_lt (L.take k)
      have hv2 : beVal (L.take k) < 72057594037927936 := by
        refine Nat.lt_of_lt_of_le hv ?_
        have : (L.take k).length ≤ 7 := by rw [List.length_take]; omega
        exact Nat.le_trans (Nat.pow_le_pow_right (by omega) this) (by decide)
      have hor := or256 (beVal (L.take k)) L[k] hv2
      have HB : Hid (((beVal (L.take k) * 256 + L[k].toNat : Nat) : Int) = (beVal (L.take (k + 1)) : Int)) := Lib.hid (by rw [hT, beVal_snoc])
      have h8 := L[k].toNat_lt
      rw [HB.out] at hor
      clear hT hv
      go_wp2_with fail
      go_roundw
      case rel => exact ⟨k + 1, by omega, by go_num, rfl, trivial⟩
      case measure => simp [intOf]; omega
    · have e : L.take k = L := List.take_of_length_le (by omega)
      rw [e]
      clear e hcv
      generalize hN : beVal L = N at HN HH2 ⊢
      have HNL := Lib.hid hN
      clear hN
      by_cases hbig : N < 9223372036854775808
      rotate_left
      · exact absurd (Nat.lt_of_lt_of_le HN.out (by decide)) hbig
      · have hle : (N : Int) ≤ 9223372036854775807 := by omega
        have hdd : decide ((N : Int) ≤ 9223372036854775807) = true := by simp; omega
        have HG := Lib.hid hbig
        clear hbig
        go_wp2_with fail
        refine (must_yes _).mono ?_
        rintro e w' ⟨rfl, rfl⟩
        go_wp2_with fail
        have R3 := Lib.hid (R2.out.below hB3.out)
        obtain ⟨g0, g1, _, _, _⟩ := R3.out.facts
        have kg0 := cell_regrown g0
        have kg1 := cell_regrown g1
        have K3 := Lib.hid (K2.out.below hB3.out)
        have hzs : z ≤ s.length := by omega
        have hch := fun w' => head_i ((c.toNat : Int) / 32) (N : Int) w' (by omega) (by omega) (by omega) hle
        rw [show ((c.toNat : Int) / 32).toNat = c.toNat / 32 from by omega, show ((N : Int)).toNat = N from by omega] at hch
        have hex := HE.out
        by_cases heq : headL (c.toNat / 32) N = c :: L
        · have HY : Hid (hd (s.drop a) = some (c.toNat / 32, N, 1 + 4)) := Lib.hid (by rw [HH2.out, if_pos ⟨HG.out, heq⟩])
          rw [heq] at hch
          have HCH : Hid (∀ d os, Calls Tryd.prog 39 #[.int .i64 ((c.toNat : Int) / 32), .int .i64 N] (grow (redrawn w3 d) os) fun e w'' => e = .returned (.string ⟨(c :: L).toArray⟩) ∧ ∃ p : Regrown, w'' = grow (redrawn w3 p.d) p.os) := Lib.hid fun d os => Calls.regrown_of (hch _)
          have HM : Hid (∀ d os, Calls Tryd.prog 38 #[.bool true] (grow (redrawn w3 d) os) fun e w'' => e = .returned (.tuple #[]) ∧ ∃ p : Regrown, w'' = grow (redrawn w3 p.d) p.os) := Lib.hid fun d os => Calls.regrown_of ((must_yes _).mono fun _ _ ⟨he, hw⟩ => ⟨he, hw ▸ Below.refl _ _⟩)
          clear hch heq g0 g1
          refine wp_region_quiet_below mixed (by kernel_rfl) ?_
          repeat (first | go_big_quiet_step (first | (with_reducible exact HCH.out _ _) | (with_reducible exact HM.out _ _)) | quiet_step (first | (with_reducible exact HCH.out _ _) | (with_reducible exact HM.out _ _)))
          refine wpQuiet_nil ?_
          intro _ hw'
          obtain ⟨⟨dq, osq⟩, hw''⟩ := hw'
          subst hw''
          have hbq := below_regrown w3 dq osq
          have r4 := R3.out.below hbq
          have k4 := K3.out.below hbq
          clear HCH HM kg0 kg1 hex
          generalize grow (redrawn w3 dq) osq = wq at r4 k4 ⊢
          have R4 := Lib.hid r4
          have K4 := Lib.hid k4
          clear r4 k4 hbq
          go_wp2_with fail
          go_ret2
          have e1 : ((c.toNat : Int) / 32) = ((c.toNat / 32 : Nat) : Int) := by simp
          show RhR br s a outer w wq (.returned (.tuple #[.int .i64 ((c.toNat : Int) / 32), .int .i64 N]))
          rw [e1]
          exact RhR.yes HY.out (by rw [show a + (1 + 4) = a + 1 + 4 from by omega, HZ.out]; exact R4.out) K4.out
        · have HY : Hid (hd (s.drop a) = Option.none) := Lib.hid (by rw [HH2.out, if_neg (fun h => heq h.2)])
          generalize headL (c.toNat / 32) N = X at hch heq
          have hne : ((c :: L) == X) = false := by simpa using fun e => heq e.symm
          have HS0 : Hid (Below w3.heap.size w3 w3.drew ∧ w3.drew.cell? ⟨br, 0, none⟩ = some (.string ⟨s.toArray⟩) ∧ w3.drew.cell? ⟨br, 1, none⟩ = some (.int .i64 z)) := Lib.hid ⟨(Below.refl _ _).drew, g0, g1⟩
          have hlt := R3.out.lt
          have HK : Hid (∀ (x y : World), (Below w3.heap.size w3 x ∧ x.cell? ⟨br, 0, none⟩ = some (.string ⟨s.toArray⟩) ∧ x.cell? ⟨br, 1, none⟩ = some (.int .i64 z)) → Below x.heap.size x y → (Below w3.heap.size w3 y ∧ y.cell? ⟨br, 0, none⟩ = some (.string ⟨s.toArray⟩) ∧ y.cell? ⟨br, 1, none⟩ = some (.int .i64 z))) := Lib.hid fun x y ⟨h1, h2, h3⟩ hb => ⟨h1.trans (hb.mono h1.size), by rw [hb.cell (p := ⟨br, 0, none⟩) (by have := h1.size; simp; omega)]; exact h2, by rw [hb.cell (p := ⟨br, 1, none⟩) (by have := h1.size; simp; omega)]; exact h3⟩
          have HCH := Lib.hid hch
          clear hch heq g0 g1 kg0 kg1
          go_region_held2 (fun w' => Below w3.heap.size w3 w' ∧ w'.cell? ⟨br, 0, none⟩ = some (.string ⟨s.toArray⟩) ∧ w'.cell? ⟨br, 1, none⟩ = some (.int .i64 z)) (first | exact HS0.out | assumption | exact HK.out _ _ (by assumption) (by assumption)) ((first | (go_at_call 39; refine (HCH.out _).mono ?_; rintro e w' ⟨rfl, hbw⟩) | (go_at_call 38; refine (must_no _).mono ?_; rintro e w' ⟨rfl, rfl⟩; refine dummyF (X := (‹Act → World → Prop› : Act → World → Prop) { tmps := #[], defers := [] } w3.drew) ⟨rfl, RhR.no HY.out (K3.out.below (‹Below w3.heap.size w3 _ ∧ _› : _ ∧ _).1)⟩ (fun hf => ?_))))
          all_goals exact (Hid.out ‹Hid False›).elim

set_option maxHeartbeats 2000000 in
set_option maxRecDepth 100000 in
theorem rhead_short3 (br : Nat) (s : List UInt8) (a outer : Nat) (w : World) (hR : Rdr br s a outer w) (hs : s.length ≤ 4096) (ha : a < s.length) (hlow : s[a].toNat % 32 = 24 + 3) (hsh : s.length < a + 1 + 8) :
    Calls Tryd.prog 30 #[.pointer (some ⟨br, 0, none⟩)] w fun e w' => RhR br s a outer w w' e := by
  have hx := drop_one s a ha
  generalize s[a] = c at hx hlow
  obtain ⟨c0, c1, c2, f1, f2⟩ := hR.facts
  have HT := take_yes br s a outer 1 w hR hs (by omega)
  rw [hx, List.take_succ_cons, List.take_zero] at HT
  have HT := Lib.hid HT
  have hb8 := c.toNat_lt
  have hi := idx0 c
  have h31 := and31 c
  have HX := Lib.hid hx
  clear hR hx
  have HH := Lib.hid (hd_mid c (s.drop (a + 1)) 3 (by omega) hlow)
  have h24' : (c.toNat : Int) % 32 = 27 := by omega
  rw [h24'] at h31
  clear h24' hlow
  go_enter Tryd.func30, Tryd.ntmps30
  go_wp2_with fail
  refine HT.out.mono ?_
  rintro e w1 ⟨rfl, r1, k1⟩
  have R1 := Lib.hid r1
  have K1 := Lib.hid k1
  clear r1 k1 c0 c1 c2 f1 f2
  go_wp2_with fail
  refine (must_yes _).mono ?_
  rintro e w' ⟨rfl, rfl⟩
  go_wp2_with fail
  refine (take_no br s (a + 1) outer 8 w1 R1.out hs (by omega) (by omega) (by omega)).mono ?_
  rintro e w2 ⟨rfl, k2⟩
  refine ⟨rfl, RhR.no ?_ (K1.out.trans k2)⟩
  rw [HX.out, HH.out, if_neg (fun h => by have := h.1; simp at this; omega)]

set_option maxHeartbeats 2000000 in
set_option maxRecDepth 100000 in
theorem rhead_mid3 (br : Nat) (s : List UInt8) (a outer : Nat) (w : World) (hR : Rdr br s a outer w) (hs : s.length ≤ 4096) (ha : a < s.length) (hlow : s[a].toNat % 32 = 24 + 3) (hsh : a + 1 + 8 ≤ s.length) :
    Calls Tryd.prog 30 #[.pointer (some ⟨br, 0, none⟩)] w fun e w' => RhR br s a outer w w' e := by
  have hx := drop_one s a ha
  generalize s[a] = c at hx hlow
  obtain ⟨c0, c1, c2, f1, f2⟩ := hR.facts
  have HT := take_yes br s a outer 1 w hR hs (by omega)
  rw [hx, List.take_succ_cons, List.take_zero] at HT
  have HT := Lib.hid HT
  have hb8 := c.toNat_lt
  have hi := idx0 c
  have h31 := and31 c
  have HX := Lib.hid hx
  clear hR hx
  have HH := Lib.hid (hd_mid c (s.drop (a + 1)) 3 (by omega) hlow)
  have h24' : (c.toNat : Int) % 32 = 27 := by omega
  rw [h24'] at h31
  clear h24' hlow
  go_enter Tryd.func30, Tryd.ntmps30
  go_wp2_with fail
  refine HT.out.mono ?_
  rintro e w1 ⟨rfl, r1, k1⟩
  have R1 := Lib.hid r1
  have K1 := Lib.hid k1
  clear r1 k1 c0 c1 c2 f1 f2
  go_wp2_with fail
  refine (must_yes _).mono ?_
  rintro e w' ⟨rfl, rfl⟩
  go_wp2_with fail
  refine (take_yes br s (a + 1) outer 8 w1 R1.out hs (by omega)).mono ?_
  rintro e w2 ⟨rfl, r2, k2⟩
  have hLl : ((s.drop (a + 1)).take 8).length = 8 := by simp; omega
  have hext : (⟨s.toArray⟩ : ByteArray).extract a (a + 1 + 8) = ⟨(c :: (s.drop (a + 1)).take 8).toArray⟩ := by
    rw [show a + 1 + 8 = a + (8 + 1) from by omega, ext_ba, HX.out, List.take_succ_cons]
  have HH2 : Hid (hd (s.drop a) = if beVal ((s.drop (a + 1)).take 8) < 9223372036854775808 ∧ headL (c.toNat / 32) (beVal ((s.drop (a + 1)).take 8)) = c :: (s.drop (a + 1)).take 8 then some (c.toNat / 32, beVal ((s.drop (a + 1)).take 8), 1 + 8) else Option.none) := Lib.hid (by
    rw [HX.out, HH.out]
    have e : (2 ^ 3 ≤ (s.drop (a + 1)).length) = True := by simp; omega
    simp only [e, true_and, show (2 : Nat) ^ 3 = 8 from rfl])
  generalize (s.drop (a + 1)).take 8 = L at hLl hext HH2 ⊢
  generalize hz : a + 1 + 8 = z at r2 hext hsh
  have HZ := Lib.hid hz
  have hza : a ≤ z := by omega
  have HE := Lib.hid hext
  have K2 := Lib.hid (K1.out.trans k2)
  have R2 := Lib.hid r2
  have hN := beVal_lt L
  rw [hLl] at hN
  have HN := Lib.hid hN
  have HL := Lib.hid hLl
  have hll : L.length ≤ 8 := by omega
  clear k2 r2 hz hext hN hLl HH HT R1 K1 HX
  obtain ⟨cap, w3, hcv, hb3, hcell⟩ := conv_bytes w2 L
  have hB3 := Lib.hid hb3
  have HC := Lib.hid hcell
  clear hb3 hcell
  go_wp2_with fail
  go_loopw [8, 38] (fun v i wr => ∃ k : Nat, k ≤ L.length ∧ i = .int .i64 k ∧ v = .int .u64 (beVal (L.take k)) ∧ w3 = wr) (fun _ i _ => L.length - (intOf i).toNat)
  case atStart => exact ⟨0, by omega, rfl, rfl, rfl⟩
  case round =>
    obtain ⟨k, hk, rfl, rfl, rfl⟩ := hrel
    by_cases hlk : k < L.length
    · have hcl := HC.out k hlk
      have hT : L.take (k + 1) = L.take k ++ [L[k]] := List.take_succ_eq_append_getElem hlk
      have hv := beVal_lt (L.take k)
      have hv2 : beVal (L.take k) < 72057594037927936 := by
        refine Nat.lt_of_lt_of_le hv ?_
        have : (L.take k).length ≤ 7 := by rw [List.length_take]; omega
        exact Nat.le_trans (Nat.pow_le_pow_right (by omega) this) (by decide)
      have hor := or256 (beVal (L.take k)) L[k] hv2
      have HB : Hid (((beVal (L.take k) * 256 + L[k].toNat : Nat) : Int) = (beVal (L.take (k + 1)) : Int)) := Lib.hid (by rw [hT, beVal_snoc])
      have h8 := L[k].toNat_lt
      rw [HB.out] at hor
      clear hT hv
      go_wp2_with fail
      go_roundw
      case rel => exact ⟨k + 1, by omega, by go_num, rfl, trivial⟩
      case measure => simp [intOf]; omega
    · have e : L.take k = L := List.take_of_length_le (by omega)
      rw [e]
      clear e hcv
      generalize hN : beVal L = N at HN HH2 ⊢
      have HNL := Lib.hid hN
      clear hN
      by_cases hbig : N < 9223372036854775808
      rotate_left
      · have hgt : ¬ (N : Int) ≤ 9223372036854775807 := by omega
        have hdd : decide ((N : Int) ≤ 9223372036854775807) = false := by simp; omega
        have HG := Lib.hid hbig
        clear hbig
        go_wp2_with fail
        refine (must_no _).mono ?_
        rintro e w' ⟨rfl, rfl⟩
        refine ⟨rfl, RhR.no ?_ (K2.out.below hB3.out)⟩
        rw [HH2.out, if_neg (fun h => HG.out h.1)]
      · have hle : (N : Int) ≤ 9223372036854775807 := by omega
        have hdd : decide ((N : Int) ≤ 9223372036854775807) = true := by simp; omega
        have HG := Lib.hid hbig
        clear hbig
        go_wp2_with fail
        refine (must_yes _).mono ?_
        rintro e w' ⟨rfl, rfl⟩
        go_wp2_with fail
        have R3 := Lib.hid (R2.out.below hB3.out)
        obtain ⟨g0, g1, _, _, _⟩ := R3.out.facts
        have kg0 := cell_regrown g0
        have kg1 := cell_regrown g1
        have K3 := Lib.hid (K2.out.below hB3.out)
        have hzs : z ≤ s.length := by omega
        have hch := fun w' => head_i ((c.toNat : Int) / 32) (N : Int) w' (by omega) (by omega) (by omega) hle
        rw [show ((c.toNat : Int) / 32).toNat = c.toNat / 32 from by omega, show ((N : Int)).toNat = N from by omega] at hch
        have hex := HE.out
        by_cases heq : headL (c.toNat / 32) N = c :: L
        · have HY : Hid (hd (s.drop a) = some (c.toNat / 32, N, 1 + 8)) := Lib.hid (by rw [HH2.out, if_pos ⟨HG.out, heq⟩])
          rw [heq] at hch
          have HCH : Hid (∀ d os, Calls Tryd.prog 39 #[.int .i64 ((c.toNat : Int) / 32), .int .i64 N] (grow (redrawn w3 d) os) fun e w'' => e = .returned (.string ⟨(c :: L).toArray⟩) ∧ ∃ p : Regrown, w'' = grow (redrawn w3 p.d) p.os) := Lib.hid fun d os => Calls.regrown_of (hch _)
          have HM : Hid (∀ d os, Calls Tryd.prog 38 #[.bool true] (grow (redrawn w3 d) os) fun e w'' => e = .returned (.tuple #[]) ∧ ∃ p : Regrown, w'' = grow (redrawn w3 p.d) p.os) := Lib.hid fun d os => Calls.regrown_of ((must_yes _).mono fun _ _ ⟨he, hw⟩ => ⟨he, hw ▸ Below.refl _ _⟩)
          clear hch heq g0 g1
          refine wp_region_quiet_below mixed (by kernel_rfl) ?_
          repeat (first | go_big_quiet_step (first | (with_reducible exact HCH.out _ _) | (with_reducible exact HM.out _ _)) | quiet_step (first | (with_reducible exact HCH.out _ _) | (with_reducible exact HM.out _ _)))
          refine wpQuiet_nil ?_
          intro _ hw'
          obtain ⟨⟨dq, osq⟩, hw''⟩ := hw'
          subst hw''
          have hbq := below_regrown w3 dq osq
          have r4 := R3.out.below hbq
          have k4 := K3.out.below hbq
          clear HCH HM kg0 kg1 hex
          generalize grow (redrawn w3 dq) osq = wq at r4 k4 ⊢
          have R4 := Lib.hid r4
          have K4 := Lib.hid k4
          clear r4 k4 hbq
          go_wp2_with fail
          go_ret2
          have e1 : ((c.toNat : Int) / 32) = ((c.toNat / 32 : Nat) : Int) := by simp
          show RhR br s a outer w wq (.returned (.tuple #[.int .i64 ((c.toNat : Int) / 32), .int .i64 N]))
          rw [e1]
          exact RhR.yes HY.out (by rw [show a + (1 + 8) = a + 1 + 8 from by omega, HZ.out]; exact R4.out) K4.out
        · have HY : Hid (hd (s.drop a) = Option.none) := Lib.hid (by rw [HH2.out, if_neg (fun h => heq h.2)])
          generalize headL (c.toNat / 32) N = X at hch heq
          have hne : ((c :: L) == X) = false := by simpa using fun e => heq e.symm
          have HS0 : Hid (Below w3.heap.size w3 w3.drew ∧ w3.drew.cell? ⟨br, 0, none⟩ = some (.string ⟨s.toArray⟩) ∧ w3.drew.cell? ⟨br, 1, none⟩ = some (.int .i64 z)) := Lib.hid ⟨(Below.refl _ _).drew, g0, g1⟩
          have hlt := R3.out.lt
          have HK : Hid (∀ (x y : World), (Below w3.heap.size w3 x ∧ x.cell? ⟨br, 0, none⟩ = some (.string ⟨s.toArray⟩) ∧ x.cell? ⟨br, 1, none⟩ = some (.int .i64 z)) → Below x.heap.size x y → (Below w3.heap.size w3 y ∧ y.cell? ⟨br, 0, none⟩ = some (.string ⟨s.toArray⟩) ∧ y.cell? ⟨br, 1, none⟩ = some (.int .i64 z))) := Lib.hid fun x y ⟨h1, h2, h3⟩ hb => ⟨h1.trans (hb.mono h1.size), by rw [hb.cell (p := ⟨br, 0, none⟩) (by have := h1.size; simp; omega)]; exact h2, by rw [hb.cell (p := ⟨br, 1, none⟩) (by have := h1.size; simp; omega)]; exact h3⟩
          have HCH := Lib.hid hch
          clear hch heq g0 g1 kg0 kg1
          go_region_held2 (fun w' => Below w3.heap.size w3 w' ∧ w'.cell? ⟨br, 0, none⟩ = some (.string ⟨s.toArray⟩) ∧ w'.cell? ⟨br, 1, none⟩ = some (.int .i64 z)) (first | exact HS0.out | assumption | exact HK.out _ _ (by assumption) (by assumption)) ((first | (go_at_call 39; refine (HCH.out _).mono ?_; rintro e w' ⟨rfl, hbw⟩) | (go_at_call 38; refine (must_no _).mono ?_; rintro e w' ⟨rfl, rfl⟩; refine dummyF (X := (‹Act → World → Prop› : Act → World → Prop) { tmps := #[], defers := [] } w3.drew) ⟨rfl, RhR.no HY.out (K3.out.below (‹Below w3.heap.size w3 _ ∧ _› : _ ∧ _).1)⟩ (fun hf => ?_))))
          all_goals exact (Hid.out ‹Hid False›).elim

theorem rhead_any (br : Nat) (s : List UInt8) (a outer : Nat) (w : World) (hR : Rdr br s a outer w) (hs : s.length ≤ 4096) (ha : a ≤ s.length) :
    Calls Tryd.prog 30 #[.pointer (some ⟨br, 0, none⟩)] w fun e w' => RhR br s a outer w w' e := by
  by_cases he : a = s.length
  · exact rhead_end br s a outer w hR hs he
  have ha : a < s.length := by omega
  by_cases hlow : s[a].toNat % 32 < 24
  · exact rhead_low br s a outer w hR hs ha hlow
  by_cases hbig : s[a].toNat % 32 ≤ 27
  rotate_left
  · exact rhead_bad br s a outer w hR hs ha hlow hbig
  by_cases h0 : s[a].toNat % 32 = 24 + 0
  · by_cases hsh : s.length < a + 1 + 1
    · exact rhead_short0 br s a outer w hR hs ha h0 hsh
    · exact rhead_mid0 br s a outer w hR hs ha h0 (by omega)
  by_cases h1 : s[a].toNat % 32 = 24 + 1
  · by_cases hsh : s.length < a + 1 + 2
    · exact rhead_short1 br s a outer w hR hs ha h1 hsh
    · exact rhead_mid1 br s a outer w hR hs ha h1 (by omega)
  by_cases h2 : s[a].toNat % 32 = 24 + 2
  · by_cases hsh : s.length < a + 1 + 4
    · exact rhead_short2 br s a outer w hR hs ha h2 hsh
    · exact rhead_mid2 br s a outer w hR hs ha h2 (by omega)
  by_cases h3 : s[a].toNat % 32 = 24 + 3
  · by_cases hsh : s.length < a + 1 + 8
    · exact rhead_short3 br s a outer w hR hs ha h3 hsh
    · exact rhead_mid3 br s a outer w hR hs ha h3 (by omega)
  omega
end Go.Proofs.YtghdcgokndmkjaaDoor
